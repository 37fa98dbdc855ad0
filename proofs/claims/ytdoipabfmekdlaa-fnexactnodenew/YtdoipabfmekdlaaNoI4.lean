/- A node: the contract of impl.NodeNew. Laid by a program of ours (src/noi4.py). -/
import Derived.Test.YtdoipabfmekdlaaNo4
import Derived.Test.YtdoipabfmekdlaaNoI1
namespace Go.Proofs.Ytdoipabfmekdlaa
open Go.RowKit
set_option linter.unusedVariables false
set_option linter.unusedSimpArgs false

theorem Vr.lowB {B c : Nat} {w w' : World} {t : TypeId} {cs : List Value} (h : Vr w c t cs) (hb : Below B w w') (hc : c < B) : Vr w' c t cs := by
  unfold Vr at h ⊢
  rw [hb.block c hc]; exact h
theorem repl_acct {k i : Nat} (h : i < k) : acctG (List.replicate k acctZ) i = acctZ := by unfold acctG; simp [List.getD_eq_getElem?_getD, List.getElem?_replicate, h]
theorem repl_acc {k i : Nat} (h : i < k) : accG (List.replicate k accZ) i = accZ := by unfold accG; simp [List.getD_eq_getElem?_getD, List.getElem?_replicate, h]
theorem repl_out {k i : Nat} (h : i < k) : outG (List.replicate k outNew) i = outNew := by unfold outG; simp [List.getD_eq_getElem?_getD, List.getElem?_replicate, h]
theorem repl_int {k i : Nat} : (List.replicate k (0 : Int)).getD i 0 = 0 := by
  rw [List.getD_eq_getElem?_getD, List.getElem?_replicate]
  split <;> rfl
/-- an empty node is valid where its place is -/
theorem nodeMk_ok {id : Int} {M K : Nat} (hM : 1 ≤ M ∧ M ≤ 4) (hK : 1 ≤ K ∧ K ≤ 3) : nodeOkB (nodeMk id M K) = inB id 0 ((M : Int) - 1) := by
  have h1 : inB (M : Int) 1 4 = true := inB_true.2 (by omega)
  have h2 : inB (K : Int) 1 3 = true := inB_true.2 (by omega)
  have h0 : numB 0 = true := by decide
  rw [nodeOk_split]
  have hp : placeB (nodeMk id M K) = inB id 0 ((M : Int) - 1) := by unfold placeB nodeMk; rw [h1]; rfl
  rw [hp]
  by_cases hi : inB id 0 ((M : Int) - 1) = true
  · have hi2 := inB_true.1 hi
    have ha : acctOkB acctZ (M : Int) id = true := by unfold acctOkB; rw [h1, hi]; rfl
    have h3 : acctsB (nodeMk id M K) = true := by
      unfold acctsB ndAccts nodeMk
      simp only [List.length_replicate, h2, Bool.true_and, Bool.and_eq_true, decide_eq_true_eq, true_and]
      intro i hi
      unfold ndAcct
      dsimp only
      rw [repl_acct hi, repl_acc hi]
      exact ⟨ha, by decide⟩
    have h4 : linksB (nodeMk id M K) = true := by
      unfold linksB ndOuts ndLast nodeMk
      simp only [List.length_replicate, Bool.and_eq_true, decide_eq_true_eq, true_and]
      refine ⟨fun i hi => ?_, ?_, repl_int⟩
      · unfold ndOut
        dsimp only
        rw [repl_out hi, repl_int]
        exact ⟨by decide, h0⟩
      · rw [repl_out (by omega)]; decide
    have h5 : sumsB (nodeMk id M K) = true := by unfold sumsB nodeMk; rw [h0]; rfl
    rw [h3, h4, h5, hi]; rfl
  · rw [show inB id 0 ((M : Int) - 1) = false by simpa using hi]; rfl

set_option maxHeartbeats 1000000 in
theorem iAcctNew_v {w : World} : Calls Try.prog 85 #[] w fun e w' => e = .returned (.agg #[.int .i64 0, .int .i64 0, .int .i64 0, .slice none 0 0, .slice none 0 0]) ∧ Below w.heap.size w w' := by
  obtain ⟨wa, hwa, B0, sa, x_r⟩ := frame1 w 52 [.int .i64 0, .int .i64 0, .int .i64 0, .slice none 0 0, .slice none 0 0]
  have sa_1 := Nat.le_of_eq sa
  have sa_2 := Nat.le_of_eq sa.symm
  clear sa
  have c_r_0_wa := x_r.cell (i := 0) rfl
  have f_r_0_wa := x_r.frozen 0
  have c_r_1_wa := x_r.cell (i := 1) rfl
  have f_r_1_wa := x_r.frozen 1
  have c_r_2_wa := x_r.cell (i := 2) rfl
  have f_r_2_wa := x_r.frozen 2
  have c_r_3_wa := x_r.cell (i := 3) rfl
  have f_r_3_wa := x_r.frozen 3
  have c_r_4_wa := x_r.cell (i := 4) rfl
  have f_r_4_wa := x_r.frozen 4
  go_enter Try.func85, Try.ntmps85
  have i_r_0 := x_r.same (i := 0) rfl
  have i_r_1 := x_r.same (i := 1) rfl
  have i_r_2 := x_r.same (i := 2) rfl
  have i_r_3 := x_r.same (i := 3) rfl
  have i_r_4 := x_r.same (i := 4) rfl
  go_wp2
  refine ret_cell (by rfl) (by rfl) x_r Try.underlying52 sz_acct (by rfl) ?_
  exact ⟨rfl, B0⟩

set_option maxHeartbeats 1000000 in
theorem iOutNew_v {w : World} : Calls Try.prog 81 #[] w fun e w' => e = .returned (.agg #[.int .i64 1, .slice none 0 0]) ∧ Below w.heap.size w w' := by
  obtain ⟨wa, hwa, B0, sa, x_r⟩ := frame1 w 59 [.int .i64 0, .slice none 0 0]
  have sa_1 := Nat.le_of_eq sa
  have sa_2 := Nat.le_of_eq sa.symm
  clear sa
  have c_r_0_wa := x_r.cell (i := 0) rfl
  have f_r_0_wa := x_r.frozen 0
  have c_r_1_wa := x_r.cell (i := 1) rfl
  have f_r_1_wa := x_r.frozen 1
  go_enter Try.func81, Try.ntmps81
  obtain ⟨w1, e_w1, s_w1, h_w1, y⟩ := store_step x_r [.int .i64 1, .slice none 0 0] rfl
  replace e_w1 : ((wa.setCell ⟨w.heap.size, 0, none⟩ (.int .i64 1)).setCell ⟨w.heap.size, 1, none⟩ (.slice none 0 0)) = w1 := e_w1
  have s_w1_1 := Nat.le_of_eq s_w1
  have s_w1_2 := Nat.le_of_eq s_w1.symm
  clear s_w1
  have B_w1 := Below.chg_ B0 h_w1 (by omega) (by omega)
  replace x_r : Vr w1 (w.heap.size) 59 [.int .i64 1, .slice none 0 0] := y
  clear y
  have c_r_0_w1 := x_r.cell (i := 0) rfl
  have f_r_0_w1 := x_r.frozen 0
  have c_r_1_w1 := x_r.cell (i := 1) rfl
  have f_r_1_w1 := x_r.frozen 1
  go_wp2
  refine ret_cell (by rfl) (by rfl) x_r Try.underlying59 sz_out (by rfl) ?_
  exact ⟨rfl, B_w1⟩

set_option maxRecDepth 100000 in
set_option maxHeartbeats 8000000 in
theorem iOpenAcct_c {w : World} {b : Nat} {id n : Int} {G : List MAcct} {C : List MAcc} {AG AC : Option Addr} {cG cC l1 h1 l2 h2 : Nat} (x_x : Vr w b 34 [.int .i64 id, .int .i64 n, .slice AG G.length cG, .slice none 0 0, .slice none 0 0, .slice AC C.length cC, .int .i64 0, .int .i64 0, .int .i64 0]) (oG : OV (sliceL 52 5 (nilL acctL)) w l1 h1 (.slice AG G.length cG) G) (oC : OV accSL w l2 h2 (.slice AC C.length cC) C) (hd : b < l1 ∧ b < l2 ∧ (h1 ≤ l2 ∨ h2 ≤ l1) ∧ l1 ≤ w.heap.size ∧ l2 ≤ w.heap.size) (lG : G.length ≤ 3) (lC : C.length ≤ 3) :
    Calls Try.prog 51 #[.pointer (some ⟨b, 0, none⟩)] w fun e w' => e = .returned (.tuple #[]) ∧ ∃ (AG' AC' : Option Addr) (cG' cC' l3 h3 l4 h4 : Nat) (Y : List MAcct) (Z : List MAcc), Hid (Y = G ++ [acctZ] ∧ Z = C ++ [accZ]) ∧ Vr w' b 34 [.int .i64 id, .int .i64 n, .slice AG' Y.length cG', .slice none 0 0, .slice none 0 0, .slice AC' Z.length cC', .int .i64 0, .int .i64 0, .int .i64 0] ∧ OV (sliceL 52 5 (nilL acctL)) w' l3 h3 (.slice AG' Y.length cG') Y ∧ OV accSL w' l4 h4 (.slice AC' Z.length cC') Z ∧ (b < l3 ∧ b < l4 ∧ (h3 ≤ l4 ∨ h4 ≤ l3) ∧ l3 ≤ w'.heap.size ∧ l4 ≤ w'.heap.size) ∧ Below b w w' := by
  obtain ⟨i0, hi, hz0, hz1, hz2⟩ := info_parts Try.info_acct
  obtain ⟨j0, hj, yz0, yz1, yz2⟩ := info_parts Try.info_acc
  have B0 : Below b w w := Below.refl _ _
  have lb := x_x.lt
  have e1 := oG.le_
  have e2 := oC.le_
  have c_x_0_w := x_x.cell (i := 0) rfl
  have f_x_0_w := x_x.frozen 0
  have c_x_1_w := x_x.cell (i := 1) rfl
  have f_x_1_w := x_x.frozen 1
  have c_x_2_w := x_x.cell (i := 2) rfl
  have f_x_2_w := x_x.frozen 2
  have c_x_3_w := x_x.cell (i := 3) rfl
  have f_x_3_w := x_x.frozen 3
  have c_x_4_w := x_x.cell (i := 4) rfl
  have f_x_4_w := x_x.frozen 4
  have c_x_5_w := x_x.cell (i := 5) rfl
  have f_x_5_w := x_x.frozen 5
  have c_x_6_w := x_x.cell (i := 6) rfl
  have f_x_6_w := x_x.frozen 6
  have c_x_7_w := x_x.cell (i := 7) rfl
  have f_x_7_w := x_x.frozen 7
  have c_x_8_w := x_x.cell (i := 8) rfl
  have f_x_8_w := x_x.frozen 8
  go_enter Try.func51, Try.ntmps51
  obtain ⟨wd, hwd⟩ : ∃ x, ({ heap := w.heap, tape := w.tape, drawn := w.drawn + 1, os := w.os, output := w.output } : World) = x := ⟨_, rfl⟩
  have hd0 : Below w.heap.size w wd := by rw [← hwd]; exact (Below.refl w.heap.size w).drew
  have sd0 := hd0.size
  have zd0 : wd.heap.size = w.heap.size := by rw [← hwd]
  have xd := x_x.from_ hd0
  have qd := xd.cell (i := 2) rfl
  go_wp2_with fail
  refine wp_region_held (S := fun _ => True) (by kernel_rfl) ?_
  rw [hwd]
  refine takeN (i := 0) (v := ?v0_1) (d := some 2) rfl rfl (by kernel_rfl) (by kernel_rfl) (by kernel_rfl) (fun _ _ _ h => h) (Or.inl ⟨by rfl, ?y0_1⟩) trivial ?r0_1
  case y0_1 => (intro W hW; go_simp; try (with_reducible rfl))
  simp only [Act.put, List.setIfInBounds_toArray, List.set_cons_zero, List.set_cons_succ]
  refine takeN (i := 1) (v := ?v1_2) (d := some 3) rfl rfl (by kernel_rfl) (by kernel_rfl) (by kernel_rfl) (fun _ _ _ h => h) (Or.inl ⟨by rfl, ?y1_2⟩) trivial ?r1_2
  case y1_2 => (intro W hW; go_simp; try (with_reducible rfl))
  simp only [Act.put, List.setIfInBounds_toArray, List.set_cons_zero, List.set_cons_succ]
  refine takeN (i := 2) (v := ?v2_3) (d := some 4) rfl rfl (by kernel_rfl) (by kernel_rfl) (by kernel_rfl) (fun _ _ _ h => h) (Or.inl ⟨by rfl, ?y2_3⟩) trivial ?r2_3
  case y2_3 => (intro W hW; go_simp; try (with_reducible rfl))
  simp only [Act.put, List.setIfInBounds_toArray, List.set_cons_zero, List.set_cons_succ]
  refine takeN (i := 3) (v := ?v3_4) (d := some 5) rfl rfl (by kernel_rfl) (by kernel_rfl) (by kernel_rfl) (fun _ _ _ h => h) (Or.inl ⟨by rfl, ?y3_4⟩) trivial ?r3_4
  case y3_4 => (intro W hW; go_simp; try (with_reducible rfl))
  simp only [Act.put, List.setIfInBounds_toArray, List.set_cons_zero, List.set_cons_succ]
  refine wpAnyH_ready (rs := [4, 5]) (by kernel_rfl) (by simp) ?_
  refine AllReadyH.cons rfl (fun K9 hK => ?b5_4) (AllReadyH.cons rfl (fun K9 hK => ?b5_5) AllReadyH.nil)
  case b5_4 =>
    go_simp
    refine hK.out _ _ trivial (fun _ => ?_)
    clear hK K9
    refine wpAnyH_ready (rs := [5]) (by kernel_rfl) (by simp) ?_
    refine AllReadyH.cons rfl (fun K9 hK => ?b6_5) AllReadyH.nil
    go_simp
    refine (iAcctNew_v).mono ?_
    rintro e wN ⟨rfl, hdN⟩
    have sN := hdN.size
    have xN := xd.from_ hdN
    have qN := xN.cell (i := 2) rfl
    obtain ⟨wT, e_wT, s_wT, h_wT, x_t⟩ := alloc_step wN 52 [.int .i64 0, .int .i64 0, .int .i64 0, .slice none 0 0, .slice none 0 0]
    have sT := h_wT.size
    have xT := xN.from_ h_wT
    have qT := xT.cell (i := 2) rfl
    have hRV := x_t.rdV
    have hNT : Below w.heap.size w wT := hd0.trans ((hdN.mono (by omega)).trans (h_wT.mono (by omega)))
    obtain ⟨ys, R, hback⟩ := OV.app_n3 nilL_nil (oG.below hNT) (cs := [.int .i64 0, .int .i64 0, .int .i64 0, .slice none 0 0, .slice none 0 0]) (x := acctZ) rfl (fun w => ⟨own_acct_zero w, rfl⟩) (by omega)
    refine hK.out _ _ trivial (fun _ => ?_)
    clear hK K9
    refine wpAnyH_ready (rs := [6]) (by kernel_rfl) (by simp) ?_
    refine AllReadyH.cons rfl (fun K9 hK => ?b7_6) AllReadyH.nil
    go_simp
    refine hK.out _ _ trivial (fun _ => ?_)
    clear hK K9
    refine wpAnyH_ready (rs := [7]) (by kernel_rfl) (by simp) ?_
    refine AllReadyH.cons rfl (fun K9 hK => ?b8_7) AllReadyH.nil
    refine step_appN (by rfl) (.tmp 6) (.tmp 8) 30 (by rfl) 0 5 52 i0 (.agg #[.int .i64 0, .int .i64 0, .int .i64 0, .slice none 0 0, .slice none 0 0]) 72 Try.underlying30 hi hz0 hz1 hz2 (by rfl) (by decide) (.slice AG G.length cG) G.length ys (by rfl) R _ (some ⟨wN.heap.size, 0, none⟩) 1 1 [.int .i64 0, .int .i64 0, .int .i64 0, .slice none 0 0, .slice none 0 0] (by rfl) rfl hRV ones_acct (by omega) (by decide) (Nat.zero_le _) ?_
    intro vA wA hoA hgA hatA
    obtain ⟨hcg, l9, h9, o9, hor, hle⟩ := hback vA wA hoA hgA hatA
    obtain ⟨Y, hY⟩ : ∃ Y, G ++ [acctZ] = Y := ⟨_, rfl⟩
    rw [hY] at o9
    have HY := Lib.hid hY
    clear hY
    obtain ⟨A9, c9, rfl, -, -, -⟩ := rv_slice o9.rd
    have xA := xT.chg hcg (by omega)
    have qA := xA.cell (i := 2) rfl
    have fA := xA.frozen 2
    refine hK.out _ _ trivial (fun _ => ?_)
    clear hK K9
    refine takeN (i := 8) (v := ?v8_9) (d := some 10) rfl rfl (by kernel_rfl) (by kernel_rfl) (by kernel_rfl) (fun _ _ _ h => h) (Or.inl ⟨by rfl, ?y8_9⟩) trivial ?r8_9
    case y8_9 => (intro W hW; go_simp; try (with_reducible rfl))
    simp only [Act.put, List.setIfInBounds_toArray, List.set_cons_zero, List.set_cons_succ]
    refine takeN (i := 9) (v := ?v9_10) (d := some 11) rfl rfl (by kernel_rfl) (by kernel_rfl) (by kernel_rfl) (fun _ _ _ h => h) (Or.inl ⟨by rfl, ?y9_10⟩) trivial ?r9_10
    case y9_10 => (intro W hW; go_simp; try (with_reducible rfl))
    simp only [Act.put, List.setIfInBounds_toArray, List.set_cons_zero, List.set_cons_succ]
    refine wpAnyH_ready (rs := [10]) (by kernel_rfl) (by simp) ?_
    refine AllReadyH.cons rfl (fun K9 hK => ?b11_10) AllReadyH.nil
    go_simp
    refine hK.out _ _ trivial (fun _ => ?_)
    clear hK K9
    refine wpAnyH_done (by kernel_rfl) ?_ _
    obtain ⟨wS, eS, sS, hS, xS⟩ := set_step xA 2 (.slice A9 Y.length c9)
    rw [eS]
    have sS_1 := Nat.le_of_eq sS
    have sS_2 := Nat.le_of_eq sS.symm
    clear sS
    replace xS : Vr wS b 34 [.int .i64 id, .int .i64 n, .slice A9 Y.length c9, .slice none 0 0, .slice none 0 0, .slice AC C.length cC, .int .i64 0, .int .i64 0, .int .i64 0] := xS
    have szA := hcg.size
    have HB9 := Below.chg_ (Below.chg_ (B0.trans (hNT.mono (Nat.le_of_lt lb))) hcg (by omega) (by omega)) hS (by omega) (by omega)
    clear x_x
    have x_x := xS
    replace oC := ((oC.below hNT).chg hcg (by omega)).chg hS (by omega)
    replace o9 := o9.chg hS (by omega)
    clear xS xA qA fA eS hoA hgA hatA hback R hRV xT qT xN qN xd qd e_wT x_t
    have c_x_0_wS := x_x.cell (i := 0) rfl
    have f_x_0_wS := x_x.frozen 0
    have c_x_1_wS := x_x.cell (i := 1) rfl
    have f_x_1_wS := x_x.frozen 1
    have c_x_2_wS := x_x.cell (i := 2) rfl
    have f_x_2_wS := x_x.frozen 2
    have c_x_3_wS := x_x.cell (i := 3) rfl
    have f_x_3_wS := x_x.frozen 3
    have c_x_4_wS := x_x.cell (i := 4) rfl
    have f_x_4_wS := x_x.frozen 4
    have c_x_5_wS := x_x.cell (i := 5) rfl
    have f_x_5_wS := x_x.frozen 5
    have c_x_6_wS := x_x.cell (i := 6) rfl
    have f_x_6_wS := x_x.frozen 6
    have c_x_7_wS := x_x.cell (i := 7) rfl
    have f_x_7_wS := x_x.frozen 7
    have c_x_8_wS := x_x.cell (i := 8) rfl
    have f_x_8_wS := x_x.frozen 8
    obtain ⟨w11, e_w11, s_w11, h_w11, x_t⟩ := alloc_step wS 56 [.int .i64 0, .int .i64 0, .int .i64 0]
    have s_w11_1 := Nat.le_of_eq s_w11
    have s_w11_2 := Nat.le_of_eq s_w11.symm
    clear s_w11
    replace x_x := x_x.from_ h_w11
    replace oC := oC.below h_w11
    replace o9 := o9.below h_w11
    have B_w11 := HB9.trans (h_w11.mono (Nat.le_trans (Nat.le_of_lt lb) HB9.size))
    have i_w11_2 := x_t.same (i := 2) rfl
    have i_w11_1 := x_t.same (i := 1) rfl
    have i_w11_0 := x_t.same (i := 0) rfl
    have c_x_0_w11 := x_x.cell (i := 0) rfl
    have f_x_0_w11 := x_x.frozen 0
    have c_x_1_w11 := x_x.cell (i := 1) rfl
    have f_x_1_w11 := x_x.frozen 1
    have c_x_2_w11 := x_x.cell (i := 2) rfl
    have f_x_2_w11 := x_x.frozen 2
    have c_x_3_w11 := x_x.cell (i := 3) rfl
    have f_x_3_w11 := x_x.frozen 3
    have c_x_4_w11 := x_x.cell (i := 4) rfl
    have f_x_4_w11 := x_x.frozen 4
    have c_x_5_w11 := x_x.cell (i := 5) rfl
    have f_x_5_w11 := x_x.frozen 5
    have c_x_6_w11 := x_x.cell (i := 6) rfl
    have f_x_6_w11 := x_x.frozen 6
    have c_x_7_w11 := x_x.cell (i := 7) rfl
    have f_x_7_w11 := x_x.frozen 7
    have c_x_8_w11 := x_x.cell (i := 8) rfl
    have f_x_8_w11 := x_x.frozen 8
    have c_t_0_w11 := x_t.cell (i := 0) rfl
    have f_t_0_w11 := x_t.frozen 0
    have c_t_1_w11 := x_t.cell (i := 1) rfl
    have f_t_1_w11 := x_t.frozen 1
    have c_t_2_w11 := x_t.cell (i := 2) rfl
    have f_t_2_w11 := x_t.frozen 2
    have hRV := x_t.rdV
    obtain ⟨ys, R, hback⟩ := OV.app_n3 own_acc_nil oC (cs := [.int .i64 0, .int .i64 0, .int .i64 0]) (x := accZ) rfl (fun w => own_acc w accZ) (by omega)
    go_wp2_with (at_builtin; refine wpl_appN _ rfl (.tmp 16) (.tmp 18) 32 rfl 0 3 56 j0 (.agg #[.int .i64 0, .int .i64 0, .int .i64 0]) 24 Try.underlying32 hj yz0 yz1 yz2 rfl (by decide) _ C.length ys rfl R _ _ _ 1 [.int .i64 0, .int .i64 0, .int .i64 0] rfl rfl hRV ?d0 ?d1 (by decide) (Nat.zero_le _) ?_)
    case d0 => exact ones_acc
    case d1 => omega
    intro v4 wB ho4 hg4 hat4
    obtain ⟨hc4, l8, h8, o8, hor8, hle8⟩ := hback v4 wB ho4 hg4 hat4
    obtain ⟨Z, hZ⟩ : ∃ Z, C ++ [accZ] = Z := ⟨_, rfl⟩
    rw [hZ] at o8
    have HZ := Lib.hid hZ
    clear hZ hback R ho4 hg4 hat4 hRV
    obtain ⟨A8, c8, rfl, -, -, -⟩ := rv_slice o8.rd
    clear c_x_0_wS f_x_0_wS c_x_1_wS f_x_1_wS c_x_2_wS f_x_2_wS c_x_3_wS f_x_3_wS c_x_4_wS f_x_4_wS c_x_5_wS f_x_5_wS c_x_6_wS f_x_6_wS c_x_7_wS f_x_7_wS c_x_8_wS f_x_8_wS i_w11_2 i_w11_1 i_w11_0 c_x_0_w11 f_x_0_w11 c_x_1_w11 f_x_1_w11 c_x_2_w11 f_x_2_w11 c_x_3_w11 f_x_3_w11 c_x_4_w11 f_x_4_w11 c_x_5_w11 f_x_5_w11 c_x_6_w11 f_x_6_w11 c_x_7_w11 f_x_7_w11 c_x_8_w11 f_x_8_w11 c_t_0_w11 f_t_0_w11 c_t_1_w11 f_t_1_w11 c_t_2_w11 f_t_2_w11
    clear oC
    clear x_t
    replace x_x := x_x.chg hc4 (by omega)
    replace o9 := o9.chg hc4 (by omega)
    have B_wB := Below.chg_ B_w11 hc4 (by omega) (by omega)
    have s_wB := hc4.size
    have sB4 := hc4.size
    have c_x_0_wB := x_x.cell (i := 0) rfl
    have f_x_0_wB := x_x.frozen 0
    have c_x_1_wB := x_x.cell (i := 1) rfl
    have f_x_1_wB := x_x.frozen 1
    have c_x_2_wB := x_x.cell (i := 2) rfl
    have f_x_2_wB := x_x.frozen 2
    have c_x_3_wB := x_x.cell (i := 3) rfl
    have f_x_3_wB := x_x.frozen 3
    have c_x_4_wB := x_x.cell (i := 4) rfl
    have f_x_4_wB := x_x.frozen 4
    have c_x_5_wB := x_x.cell (i := 5) rfl
    have f_x_5_wB := x_x.frozen 5
    have c_x_6_wB := x_x.cell (i := 6) rfl
    have f_x_6_wB := x_x.frozen 6
    have c_x_7_wB := x_x.cell (i := 7) rfl
    have f_x_7_wB := x_x.frozen 7
    have c_x_8_wB := x_x.cell (i := 8) rfl
    have f_x_8_wB := x_x.frozen 8
    obtain ⟨w12, e_w12, s_w12, h_w12, y⟩ := set_step x_x 5 (.slice A8 Z.length c8)
    have s_w12_1 := Nat.le_of_eq s_w12
    have s_w12_2 := Nat.le_of_eq s_w12.symm
    clear s_w12
    replace o9 := o9.chg h_w12 (by omega)
    replace o8 := o8.chg h_w12 (by omega)
    have B_w12 := Below.chg_ B_wB h_w12 (by omega) (by omega)
    replace x_x : Vr w12 (b) 34 [.int .i64 id, .int .i64 n, .slice A9 Y.length c9, .slice none 0 0, .slice none 0 0, .slice A8 Z.length c8, .int .i64 0, .int .i64 0, .int .i64 0] := y
    clear y
    have c_x_0_w12 := x_x.cell (i := 0) rfl
    have f_x_0_w12 := x_x.frozen 0
    have c_x_1_w12 := x_x.cell (i := 1) rfl
    have f_x_1_w12 := x_x.frozen 1
    have c_x_2_w12 := x_x.cell (i := 2) rfl
    have f_x_2_w12 := x_x.frozen 2
    have c_x_3_w12 := x_x.cell (i := 3) rfl
    have f_x_3_w12 := x_x.frozen 3
    have c_x_4_w12 := x_x.cell (i := 4) rfl
    have f_x_4_w12 := x_x.frozen 4
    have c_x_5_w12 := x_x.cell (i := 5) rfl
    have f_x_5_w12 := x_x.frozen 5
    have c_x_6_w12 := x_x.cell (i := 6) rfl
    have f_x_6_w12 := x_x.frozen 6
    have c_x_7_w12 := x_x.cell (i := 7) rfl
    have f_x_7_w12 := x_x.frozen 7
    have c_x_8_w12 := x_x.cell (i := 8) rfl
    have f_x_8_w12 := x_x.frozen 8
    go_wp2
    go_end0
    exact ⟨rfl, A9, A8, c9, c8, l9, h9, l8, h8, Y, Z, ⟨HY.out.symm, HZ.out.symm⟩, x_x, o9, o8, ⟨by omega, by omega, by omega, by omega, by omega⟩, B_w12⟩
  case b5_5 =>
    go_simp
    refine (iAcctNew_v).mono ?_
    rintro e wN ⟨rfl, hdN⟩
    have sN := hdN.size
    have xN := xd.from_ hdN
    have qN := xN.cell (i := 2) rfl
    obtain ⟨wT, e_wT, s_wT, h_wT, x_t⟩ := alloc_step wN 52 [.int .i64 0, .int .i64 0, .int .i64 0, .slice none 0 0, .slice none 0 0]
    have sT := h_wT.size
    have xT := xN.from_ h_wT
    have qT := xT.cell (i := 2) rfl
    have hRV := x_t.rdV
    have hNT : Below w.heap.size w wT := hd0.trans ((hdN.mono (by omega)).trans (h_wT.mono (by omega)))
    obtain ⟨ys, R, hback⟩ := OV.app_n3 nilL_nil (oG.below hNT) (cs := [.int .i64 0, .int .i64 0, .int .i64 0, .slice none 0 0, .slice none 0 0]) (x := acctZ) rfl (fun w => ⟨own_acct_zero w, rfl⟩) (by omega)
    refine hK.out _ _ trivial (fun _ => ?_)
    clear hK K9
    refine wpAnyH_ready (rs := [4, 6]) (by kernel_rfl) (by simp) ?_
    refine AllReadyH.cons rfl (fun K9 hK => ?b12_4) (AllReadyH.cons rfl (fun K9 hK => ?b12_6) AllReadyH.nil)
    case b12_4 =>
      go_simp
      refine hK.out _ _ trivial (fun _ => ?_)
      clear hK K9
      refine wpAnyH_ready (rs := [6]) (by kernel_rfl) (by simp) ?_
      refine AllReadyH.cons rfl (fun K9 hK => ?b13_6) AllReadyH.nil
      go_simp
      refine hK.out _ _ trivial (fun _ => ?_)
      clear hK K9
      refine wpAnyH_ready (rs := [7]) (by kernel_rfl) (by simp) ?_
      refine AllReadyH.cons rfl (fun K9 hK => ?b14_7) AllReadyH.nil
      refine step_appN (by rfl) (.tmp 6) (.tmp 8) 30 (by rfl) 0 5 52 i0 (.agg #[.int .i64 0, .int .i64 0, .int .i64 0, .slice none 0 0, .slice none 0 0]) 72 Try.underlying30 hi hz0 hz1 hz2 (by rfl) (by decide) (.slice AG G.length cG) G.length ys (by rfl) R _ (some ⟨wN.heap.size, 0, none⟩) 1 1 [.int .i64 0, .int .i64 0, .int .i64 0, .slice none 0 0, .slice none 0 0] (by rfl) rfl hRV ones_acct (by omega) (by decide) (Nat.zero_le _) ?_
      intro vA wA hoA hgA hatA
      obtain ⟨hcg, l9, h9, o9, hor, hle⟩ := hback vA wA hoA hgA hatA
      obtain ⟨Y, hY⟩ : ∃ Y, G ++ [acctZ] = Y := ⟨_, rfl⟩
      rw [hY] at o9
      have HY := Lib.hid hY
      clear hY
      obtain ⟨A9, c9, rfl, -, -, -⟩ := rv_slice o9.rd
      have xA := xT.chg hcg (by omega)
      have qA := xA.cell (i := 2) rfl
      have fA := xA.frozen 2
      refine hK.out _ _ trivial (fun _ => ?_)
      clear hK K9
      refine takeN (i := 8) (v := ?v8_15) (d := some 10) rfl rfl (by kernel_rfl) (by kernel_rfl) (by kernel_rfl) (fun _ _ _ h => h) (Or.inl ⟨by rfl, ?y8_15⟩) trivial ?r8_15
      case y8_15 => (intro W hW; go_simp; try (with_reducible rfl))
      simp only [Act.put, List.setIfInBounds_toArray, List.set_cons_zero, List.set_cons_succ]
      refine takeN (i := 9) (v := ?v9_16) (d := some 11) rfl rfl (by kernel_rfl) (by kernel_rfl) (by kernel_rfl) (fun _ _ _ h => h) (Or.inl ⟨by rfl, ?y9_16⟩) trivial ?r9_16
      case y9_16 => (intro W hW; go_simp; try (with_reducible rfl))
      simp only [Act.put, List.setIfInBounds_toArray, List.set_cons_zero, List.set_cons_succ]
      refine wpAnyH_ready (rs := [10]) (by kernel_rfl) (by simp) ?_
      refine AllReadyH.cons rfl (fun K9 hK => ?b17_10) AllReadyH.nil
      go_simp
      refine hK.out _ _ trivial (fun _ => ?_)
      clear hK K9
      refine wpAnyH_done (by kernel_rfl) ?_ _
      obtain ⟨wS, eS, sS, hS, xS⟩ := set_step xA 2 (.slice A9 Y.length c9)
      rw [eS]
      have sS_1 := Nat.le_of_eq sS
      have sS_2 := Nat.le_of_eq sS.symm
      clear sS
      replace xS : Vr wS b 34 [.int .i64 id, .int .i64 n, .slice A9 Y.length c9, .slice none 0 0, .slice none 0 0, .slice AC C.length cC, .int .i64 0, .int .i64 0, .int .i64 0] := xS
      have szA := hcg.size
      have HB9 := Below.chg_ (Below.chg_ (B0.trans (hNT.mono (Nat.le_of_lt lb))) hcg (by omega) (by omega)) hS (by omega) (by omega)
      clear x_x
      have x_x := xS
      replace oC := ((oC.below hNT).chg hcg (by omega)).chg hS (by omega)
      replace o9 := o9.chg hS (by omega)
      clear xS xA qA fA eS hoA hgA hatA hback R hRV xT qT xN qN xd qd e_wT x_t
      have c_x_0_wS := x_x.cell (i := 0) rfl
      have f_x_0_wS := x_x.frozen 0
      have c_x_1_wS := x_x.cell (i := 1) rfl
      have f_x_1_wS := x_x.frozen 1
      have c_x_2_wS := x_x.cell (i := 2) rfl
      have f_x_2_wS := x_x.frozen 2
      have c_x_3_wS := x_x.cell (i := 3) rfl
      have f_x_3_wS := x_x.frozen 3
      have c_x_4_wS := x_x.cell (i := 4) rfl
      have f_x_4_wS := x_x.frozen 4
      have c_x_5_wS := x_x.cell (i := 5) rfl
      have f_x_5_wS := x_x.frozen 5
      have c_x_6_wS := x_x.cell (i := 6) rfl
      have f_x_6_wS := x_x.frozen 6
      have c_x_7_wS := x_x.cell (i := 7) rfl
      have f_x_7_wS := x_x.frozen 7
      have c_x_8_wS := x_x.cell (i := 8) rfl
      have f_x_8_wS := x_x.frozen 8
      obtain ⟨w11, e_w11, s_w11, h_w11, x_t⟩ := alloc_step wS 56 [.int .i64 0, .int .i64 0, .int .i64 0]
      have s_w11_1 := Nat.le_of_eq s_w11
      have s_w11_2 := Nat.le_of_eq s_w11.symm
      clear s_w11
      replace x_x := x_x.from_ h_w11
      replace oC := oC.below h_w11
      replace o9 := o9.below h_w11
      have B_w11 := HB9.trans (h_w11.mono (Nat.le_trans (Nat.le_of_lt lb) HB9.size))
      have i_w11_2 := x_t.same (i := 2) rfl
      have i_w11_1 := x_t.same (i := 1) rfl
      have i_w11_0 := x_t.same (i := 0) rfl
      have c_x_0_w11 := x_x.cell (i := 0) rfl
      have f_x_0_w11 := x_x.frozen 0
      have c_x_1_w11 := x_x.cell (i := 1) rfl
      have f_x_1_w11 := x_x.frozen 1
      have c_x_2_w11 := x_x.cell (i := 2) rfl
      have f_x_2_w11 := x_x.frozen 2
      have c_x_3_w11 := x_x.cell (i := 3) rfl
      have f_x_3_w11 := x_x.frozen 3
      have c_x_4_w11 := x_x.cell (i := 4) rfl
      have f_x_4_w11 := x_x.frozen 4
      have c_x_5_w11 := x_x.cell (i := 5) rfl
      have f_x_5_w11 := x_x.frozen 5
      have c_x_6_w11 := x_x.cell (i := 6) rfl
      have f_x_6_w11 := x_x.frozen 6
      have c_x_7_w11 := x_x.cell (i := 7) rfl
      have f_x_7_w11 := x_x.frozen 7
      have c_x_8_w11 := x_x.cell (i := 8) rfl
      have f_x_8_w11 := x_x.frozen 8
      have c_t_0_w11 := x_t.cell (i := 0) rfl
      have f_t_0_w11 := x_t.frozen 0
      have c_t_1_w11 := x_t.cell (i := 1) rfl
      have f_t_1_w11 := x_t.frozen 1
      have c_t_2_w11 := x_t.cell (i := 2) rfl
      have f_t_2_w11 := x_t.frozen 2
      have hRV := x_t.rdV
      obtain ⟨ys, R, hback⟩ := OV.app_n3 own_acc_nil oC (cs := [.int .i64 0, .int .i64 0, .int .i64 0]) (x := accZ) rfl (fun w => own_acc w accZ) (by omega)
      go_wp2_with (at_builtin; refine wpl_appN _ rfl (.tmp 16) (.tmp 18) 32 rfl 0 3 56 j0 (.agg #[.int .i64 0, .int .i64 0, .int .i64 0]) 24 Try.underlying32 hj yz0 yz1 yz2 rfl (by decide) _ C.length ys rfl R _ _ _ 1 [.int .i64 0, .int .i64 0, .int .i64 0] rfl rfl hRV ?d0 ?d1 (by decide) (Nat.zero_le _) ?_)
      case d0 => exact ones_acc
      case d1 => omega
      intro v4 wB ho4 hg4 hat4
      obtain ⟨hc4, l8, h8, o8, hor8, hle8⟩ := hback v4 wB ho4 hg4 hat4
      obtain ⟨Z, hZ⟩ : ∃ Z, C ++ [accZ] = Z := ⟨_, rfl⟩
      rw [hZ] at o8
      have HZ := Lib.hid hZ
      clear hZ hback R ho4 hg4 hat4 hRV
      obtain ⟨A8, c8, rfl, -, -, -⟩ := rv_slice o8.rd
      clear c_x_0_wS f_x_0_wS c_x_1_wS f_x_1_wS c_x_2_wS f_x_2_wS c_x_3_wS f_x_3_wS c_x_4_wS f_x_4_wS c_x_5_wS f_x_5_wS c_x_6_wS f_x_6_wS c_x_7_wS f_x_7_wS c_x_8_wS f_x_8_wS i_w11_2 i_w11_1 i_w11_0 c_x_0_w11 f_x_0_w11 c_x_1_w11 f_x_1_w11 c_x_2_w11 f_x_2_w11 c_x_3_w11 f_x_3_w11 c_x_4_w11 f_x_4_w11 c_x_5_w11 f_x_5_w11 c_x_6_w11 f_x_6_w11 c_x_7_w11 f_x_7_w11 c_x_8_w11 f_x_8_w11 c_t_0_w11 f_t_0_w11 c_t_1_w11 f_t_1_w11 c_t_2_w11 f_t_2_w11
      clear oC
      clear x_t
      replace x_x := x_x.chg hc4 (by omega)
      replace o9 := o9.chg hc4 (by omega)
      have B_wB := Below.chg_ B_w11 hc4 (by omega) (by omega)
      have s_wB := hc4.size
      have sB4 := hc4.size
      have c_x_0_wB := x_x.cell (i := 0) rfl
      have f_x_0_wB := x_x.frozen 0
      have c_x_1_wB := x_x.cell (i := 1) rfl
      have f_x_1_wB := x_x.frozen 1
      have c_x_2_wB := x_x.cell (i := 2) rfl
      have f_x_2_wB := x_x.frozen 2
      have c_x_3_wB := x_x.cell (i := 3) rfl
      have f_x_3_wB := x_x.frozen 3
      have c_x_4_wB := x_x.cell (i := 4) rfl
      have f_x_4_wB := x_x.frozen 4
      have c_x_5_wB := x_x.cell (i := 5) rfl
      have f_x_5_wB := x_x.frozen 5
      have c_x_6_wB := x_x.cell (i := 6) rfl
      have f_x_6_wB := x_x.frozen 6
      have c_x_7_wB := x_x.cell (i := 7) rfl
      have f_x_7_wB := x_x.frozen 7
      have c_x_8_wB := x_x.cell (i := 8) rfl
      have f_x_8_wB := x_x.frozen 8
      obtain ⟨w12, e_w12, s_w12, h_w12, y⟩ := set_step x_x 5 (.slice A8 Z.length c8)
      have s_w12_1 := Nat.le_of_eq s_w12
      have s_w12_2 := Nat.le_of_eq s_w12.symm
      clear s_w12
      replace o9 := o9.chg h_w12 (by omega)
      replace o8 := o8.chg h_w12 (by omega)
      have B_w12 := Below.chg_ B_wB h_w12 (by omega) (by omega)
      replace x_x : Vr w12 (b) 34 [.int .i64 id, .int .i64 n, .slice A9 Y.length c9, .slice none 0 0, .slice none 0 0, .slice A8 Z.length c8, .int .i64 0, .int .i64 0, .int .i64 0] := y
      clear y
      have c_x_0_w12 := x_x.cell (i := 0) rfl
      have f_x_0_w12 := x_x.frozen 0
      have c_x_1_w12 := x_x.cell (i := 1) rfl
      have f_x_1_w12 := x_x.frozen 1
      have c_x_2_w12 := x_x.cell (i := 2) rfl
      have f_x_2_w12 := x_x.frozen 2
      have c_x_3_w12 := x_x.cell (i := 3) rfl
      have f_x_3_w12 := x_x.frozen 3
      have c_x_4_w12 := x_x.cell (i := 4) rfl
      have f_x_4_w12 := x_x.frozen 4
      have c_x_5_w12 := x_x.cell (i := 5) rfl
      have f_x_5_w12 := x_x.frozen 5
      have c_x_6_w12 := x_x.cell (i := 6) rfl
      have f_x_6_w12 := x_x.frozen 6
      have c_x_7_w12 := x_x.cell (i := 7) rfl
      have f_x_7_w12 := x_x.frozen 7
      have c_x_8_w12 := x_x.cell (i := 8) rfl
      have f_x_8_w12 := x_x.frozen 8
      go_wp2
      go_end0
      exact ⟨rfl, A9, A8, c9, c8, l9, h9, l8, h8, Y, Z, ⟨HY.out.symm, HZ.out.symm⟩, x_x, o9, o8, ⟨by omega, by omega, by omega, by omega, by omega⟩, B_w12⟩
    case b12_6 =>
      go_simp
      refine hK.out _ _ trivial (fun _ => ?_)
      clear hK K9
      refine wpAnyH_ready (rs := [4]) (by kernel_rfl) (by simp) ?_
      refine AllReadyH.cons rfl (fun K9 hK => ?b18_4) AllReadyH.nil
      go_simp
      refine hK.out _ _ trivial (fun _ => ?_)
      clear hK K9
      refine wpAnyH_ready (rs := [7]) (by kernel_rfl) (by simp) ?_
      refine AllReadyH.cons rfl (fun K9 hK => ?b19_7) AllReadyH.nil
      refine step_appN (by rfl) (.tmp 6) (.tmp 8) 30 (by rfl) 0 5 52 i0 (.agg #[.int .i64 0, .int .i64 0, .int .i64 0, .slice none 0 0, .slice none 0 0]) 72 Try.underlying30 hi hz0 hz1 hz2 (by rfl) (by decide) (.slice AG G.length cG) G.length ys (by rfl) R _ (some ⟨wN.heap.size, 0, none⟩) 1 1 [.int .i64 0, .int .i64 0, .int .i64 0, .slice none 0 0, .slice none 0 0] (by rfl) rfl hRV ones_acct (by omega) (by decide) (Nat.zero_le _) ?_
      intro vA wA hoA hgA hatA
      obtain ⟨hcg, l9, h9, o9, hor, hle⟩ := hback vA wA hoA hgA hatA
      obtain ⟨Y, hY⟩ : ∃ Y, G ++ [acctZ] = Y := ⟨_, rfl⟩
      rw [hY] at o9
      have HY := Lib.hid hY
      clear hY
      obtain ⟨A9, c9, rfl, -, -, -⟩ := rv_slice o9.rd
      have xA := xT.chg hcg (by omega)
      have qA := xA.cell (i := 2) rfl
      have fA := xA.frozen 2
      refine hK.out _ _ trivial (fun _ => ?_)
      clear hK K9
      refine takeN (i := 8) (v := ?v8_20) (d := some 10) rfl rfl (by kernel_rfl) (by kernel_rfl) (by kernel_rfl) (fun _ _ _ h => h) (Or.inl ⟨by rfl, ?y8_20⟩) trivial ?r8_20
      case y8_20 => (intro W hW; go_simp; try (with_reducible rfl))
      simp only [Act.put, List.setIfInBounds_toArray, List.set_cons_zero, List.set_cons_succ]
      refine takeN (i := 9) (v := ?v9_21) (d := some 11) rfl rfl (by kernel_rfl) (by kernel_rfl) (by kernel_rfl) (fun _ _ _ h => h) (Or.inl ⟨by rfl, ?y9_21⟩) trivial ?r9_21
      case y9_21 => (intro W hW; go_simp; try (with_reducible rfl))
      simp only [Act.put, List.setIfInBounds_toArray, List.set_cons_zero, List.set_cons_succ]
      refine wpAnyH_ready (rs := [10]) (by kernel_rfl) (by simp) ?_
      refine AllReadyH.cons rfl (fun K9 hK => ?b22_10) AllReadyH.nil
      go_simp
      refine hK.out _ _ trivial (fun _ => ?_)
      clear hK K9
      refine wpAnyH_done (by kernel_rfl) ?_ _
      obtain ⟨wS, eS, sS, hS, xS⟩ := set_step xA 2 (.slice A9 Y.length c9)
      rw [eS]
      have sS_1 := Nat.le_of_eq sS
      have sS_2 := Nat.le_of_eq sS.symm
      clear sS
      replace xS : Vr wS b 34 [.int .i64 id, .int .i64 n, .slice A9 Y.length c9, .slice none 0 0, .slice none 0 0, .slice AC C.length cC, .int .i64 0, .int .i64 0, .int .i64 0] := xS
      have szA := hcg.size
      have HB9 := Below.chg_ (Below.chg_ (B0.trans (hNT.mono (Nat.le_of_lt lb))) hcg (by omega) (by omega)) hS (by omega) (by omega)
      clear x_x
      have x_x := xS
      replace oC := ((oC.below hNT).chg hcg (by omega)).chg hS (by omega)
      replace o9 := o9.chg hS (by omega)
      clear xS xA qA fA eS hoA hgA hatA hback R hRV xT qT xN qN xd qd e_wT x_t
      have c_x_0_wS := x_x.cell (i := 0) rfl
      have f_x_0_wS := x_x.frozen 0
      have c_x_1_wS := x_x.cell (i := 1) rfl
      have f_x_1_wS := x_x.frozen 1
      have c_x_2_wS := x_x.cell (i := 2) rfl
      have f_x_2_wS := x_x.frozen 2
      have c_x_3_wS := x_x.cell (i := 3) rfl
      have f_x_3_wS := x_x.frozen 3
      have c_x_4_wS := x_x.cell (i := 4) rfl
      have f_x_4_wS := x_x.frozen 4
      have c_x_5_wS := x_x.cell (i := 5) rfl
      have f_x_5_wS := x_x.frozen 5
      have c_x_6_wS := x_x.cell (i := 6) rfl
      have f_x_6_wS := x_x.frozen 6
      have c_x_7_wS := x_x.cell (i := 7) rfl
      have f_x_7_wS := x_x.frozen 7
      have c_x_8_wS := x_x.cell (i := 8) rfl
      have f_x_8_wS := x_x.frozen 8
      obtain ⟨w11, e_w11, s_w11, h_w11, x_t⟩ := alloc_step wS 56 [.int .i64 0, .int .i64 0, .int .i64 0]
      have s_w11_1 := Nat.le_of_eq s_w11
      have s_w11_2 := Nat.le_of_eq s_w11.symm
      clear s_w11
      replace x_x := x_x.from_ h_w11
      replace oC := oC.below h_w11
      replace o9 := o9.below h_w11
      have B_w11 := HB9.trans (h_w11.mono (Nat.le_trans (Nat.le_of_lt lb) HB9.size))
      have i_w11_2 := x_t.same (i := 2) rfl
      have i_w11_1 := x_t.same (i := 1) rfl
      have i_w11_0 := x_t.same (i := 0) rfl
      have c_x_0_w11 := x_x.cell (i := 0) rfl
      have f_x_0_w11 := x_x.frozen 0
      have c_x_1_w11 := x_x.cell (i := 1) rfl
      have f_x_1_w11 := x_x.frozen 1
      have c_x_2_w11 := x_x.cell (i := 2) rfl
      have f_x_2_w11 := x_x.frozen 2
      have c_x_3_w11 := x_x.cell (i := 3) rfl
      have f_x_3_w11 := x_x.frozen 3
      have c_x_4_w11 := x_x.cell (i := 4) rfl
      have f_x_4_w11 := x_x.frozen 4
      have c_x_5_w11 := x_x.cell (i := 5) rfl
      have f_x_5_w11 := x_x.frozen 5
      have c_x_6_w11 := x_x.cell (i := 6) rfl
      have f_x_6_w11 := x_x.frozen 6
      have c_x_7_w11 := x_x.cell (i := 7) rfl
      have f_x_7_w11 := x_x.frozen 7
      have c_x_8_w11 := x_x.cell (i := 8) rfl
      have f_x_8_w11 := x_x.frozen 8
      have c_t_0_w11 := x_t.cell (i := 0) rfl
      have f_t_0_w11 := x_t.frozen 0
      have c_t_1_w11 := x_t.cell (i := 1) rfl
      have f_t_1_w11 := x_t.frozen 1
      have c_t_2_w11 := x_t.cell (i := 2) rfl
      have f_t_2_w11 := x_t.frozen 2
      have hRV := x_t.rdV
      obtain ⟨ys, R, hback⟩ := OV.app_n3 own_acc_nil oC (cs := [.int .i64 0, .int .i64 0, .int .i64 0]) (x := accZ) rfl (fun w => own_acc w accZ) (by omega)
      go_wp2_with (at_builtin; refine wpl_appN _ rfl (.tmp 16) (.tmp 18) 32 rfl 0 3 56 j0 (.agg #[.int .i64 0, .int .i64 0, .int .i64 0]) 24 Try.underlying32 hj yz0 yz1 yz2 rfl (by decide) _ C.length ys rfl R _ _ _ 1 [.int .i64 0, .int .i64 0, .int .i64 0] rfl rfl hRV ?d0 ?d1 (by decide) (Nat.zero_le _) ?_)
      case d0 => exact ones_acc
      case d1 => omega
      intro v4 wB ho4 hg4 hat4
      obtain ⟨hc4, l8, h8, o8, hor8, hle8⟩ := hback v4 wB ho4 hg4 hat4
      obtain ⟨Z, hZ⟩ : ∃ Z, C ++ [accZ] = Z := ⟨_, rfl⟩
      rw [hZ] at o8
      have HZ := Lib.hid hZ
      clear hZ hback R ho4 hg4 hat4 hRV
      obtain ⟨A8, c8, rfl, -, -, -⟩ := rv_slice o8.rd
      clear c_x_0_wS f_x_0_wS c_x_1_wS f_x_1_wS c_x_2_wS f_x_2_wS c_x_3_wS f_x_3_wS c_x_4_wS f_x_4_wS c_x_5_wS f_x_5_wS c_x_6_wS f_x_6_wS c_x_7_wS f_x_7_wS c_x_8_wS f_x_8_wS i_w11_2 i_w11_1 i_w11_0 c_x_0_w11 f_x_0_w11 c_x_1_w11 f_x_1_w11 c_x_2_w11 f_x_2_w11 c_x_3_w11 f_x_3_w11 c_x_4_w11 f_x_4_w11 c_x_5_w11 f_x_5_w11 c_x_6_w11 f_x_6_w11 c_x_7_w11 f_x_7_w11 c_x_8_w11 f_x_8_w11 c_t_0_w11 f_t_0_w11 c_t_1_w11 f_t_1_w11 c_t_2_w11 f_t_2_w11
      clear oC
      clear x_t
      replace x_x := x_x.chg hc4 (by omega)
      replace o9 := o9.chg hc4 (by omega)
      have B_wB := Below.chg_ B_w11 hc4 (by omega) (by omega)
      have s_wB := hc4.size
      have sB4 := hc4.size
      have c_x_0_wB := x_x.cell (i := 0) rfl
      have f_x_0_wB := x_x.frozen 0
      have c_x_1_wB := x_x.cell (i := 1) rfl
      have f_x_1_wB := x_x.frozen 1
      have c_x_2_wB := x_x.cell (i := 2) rfl
      have f_x_2_wB := x_x.frozen 2
      have c_x_3_wB := x_x.cell (i := 3) rfl
      have f_x_3_wB := x_x.frozen 3
      have c_x_4_wB := x_x.cell (i := 4) rfl
      have f_x_4_wB := x_x.frozen 4
      have c_x_5_wB := x_x.cell (i := 5) rfl
      have f_x_5_wB := x_x.frozen 5
      have c_x_6_wB := x_x.cell (i := 6) rfl
      have f_x_6_wB := x_x.frozen 6
      have c_x_7_wB := x_x.cell (i := 7) rfl
      have f_x_7_wB := x_x.frozen 7
      have c_x_8_wB := x_x.cell (i := 8) rfl
      have f_x_8_wB := x_x.frozen 8
      obtain ⟨w12, e_w12, s_w12, h_w12, y⟩ := set_step x_x 5 (.slice A8 Z.length c8)
      have s_w12_1 := Nat.le_of_eq s_w12
      have s_w12_2 := Nat.le_of_eq s_w12.symm
      clear s_w12
      replace o9 := o9.chg h_w12 (by omega)
      replace o8 := o8.chg h_w12 (by omega)
      have B_w12 := Below.chg_ B_wB h_w12 (by omega) (by omega)
      replace x_x : Vr w12 (b) 34 [.int .i64 id, .int .i64 n, .slice A9 Y.length c9, .slice none 0 0, .slice none 0 0, .slice A8 Z.length c8, .int .i64 0, .int .i64 0, .int .i64 0] := y
      clear y
      have c_x_0_w12 := x_x.cell (i := 0) rfl
      have f_x_0_w12 := x_x.frozen 0
      have c_x_1_w12 := x_x.cell (i := 1) rfl
      have f_x_1_w12 := x_x.frozen 1
      have c_x_2_w12 := x_x.cell (i := 2) rfl
      have f_x_2_w12 := x_x.frozen 2
      have c_x_3_w12 := x_x.cell (i := 3) rfl
      have f_x_3_w12 := x_x.frozen 3
      have c_x_4_w12 := x_x.cell (i := 4) rfl
      have f_x_4_w12 := x_x.frozen 4
      have c_x_5_w12 := x_x.cell (i := 5) rfl
      have f_x_5_w12 := x_x.frozen 5
      have c_x_6_w12 := x_x.cell (i := 6) rfl
      have f_x_6_w12 := x_x.frozen 6
      have c_x_7_w12 := x_x.cell (i := 7) rfl
      have f_x_7_w12 := x_x.frozen 7
      have c_x_8_w12 := x_x.cell (i := 8) rfl
      have f_x_8_w12 := x_x.frozen 8
      go_wp2
      go_end0
      exact ⟨rfl, A9, A8, c9, c8, l9, h9, l8, h8, Y, Z, ⟨HY.out.symm, HZ.out.symm⟩, x_x, o9, o8, ⟨by omega, by omega, by omega, by omega, by omega⟩, B_w12⟩

set_option maxRecDepth 100000 in
set_option maxHeartbeats 8000000 in
theorem iOpenLink_c {w : World} {b zl : Nat} {id n : Int} {G : List MAcct} {C : List MAcc} {O : List MOut} {I : List Int} {AG AC AO AI : Option Addr} {cG cC cO cI l1 h1 l2 h2 l3 h3 l4 h4 : Nat} (x_x : Vr w b 34 [.int .i64 id, .int .i64 n, .slice AG G.length cG, .slice AO O.length cO, .slice AI I.length cI, .slice AC C.length cC, .int .i64 0, .int .i64 0, .int .i64 0]) (oG : OV (sliceL 52 5 (nilL acctL)) w l1 h1 (.slice AG G.length cG) G) (oC : OV accSL w l2 h2 (.slice AC C.length cC) C) (oO : OV (sliceL 59 2 (nilL outL)) w l3 h3 (.slice AO O.length cO) O) (oI : OS .i64 3 w l4 h4 (.slice AI I.length cI) I)
    (hd : b < l1 ∧ b < l2 ∧ b < zl ∧ h1 ≤ zl ∧ h2 ≤ zl ∧ zl ≤ l3 ∧ zl ≤ l4 ∧ (h3 ≤ l4 ∨ h4 ≤ l3) ∧ l3 ≤ w.heap.size ∧ l4 ≤ w.heap.size) (lO : O.length ≤ 4) (lI : I.length ≤ 4) :
    Calls Try.prog 52 #[.pointer (some ⟨b, 0, none⟩)] w fun e w' => e = .returned (.tuple #[]) ∧ ∃ (AO' AI' : Option Addr) (cO' cI' l5 h5 l6 h6 : Nat) (Y : List MOut) (Z : List Int), Hid (Y = O ++ [outNew] ∧ Z = I ++ [0]) ∧ Vr w' b 34 [.int .i64 id, .int .i64 n, .slice AG G.length cG, .slice AO' Y.length cO', .slice AI' Z.length cI', .slice AC C.length cC, .int .i64 0, .int .i64 0, .int .i64 0] ∧ OV (sliceL 52 5 (nilL acctL)) w' l1 h1 (.slice AG G.length cG) G ∧ OV accSL w' l2 h2 (.slice AC C.length cC) C ∧ OV (sliceL 59 2 (nilL outL)) w' l5 h5 (.slice AO' Y.length cO') Y ∧ OS .i64 3 w' l6 h6 (.slice AI' Z.length cI') Z ∧ (zl ≤ l5 ∧ zl ≤ l6 ∧ (h5 ≤ l6 ∨ h6 ≤ l5) ∧ l5 ≤ w'.heap.size ∧ l6 ≤ w'.heap.size) ∧ Below b w w' := by
  obtain ⟨p0, hp, xz0, xz1, xz2⟩ := info_parts Try.info_out
  obtain ⟨q0, hq, uz0, uz1, uz2⟩ := info_parts Try.info_i64
  have B0 : Below b w w := Below.refl _ _
  have lb := x_x.lt
  have e1 := oG.le_
  have e2 := oC.le_
  have e3 := oO.le_
  have e4 := oI.2.2
  have c_x_0_w := x_x.cell (i := 0) rfl
  have f_x_0_w := x_x.frozen 0
  have c_x_1_w := x_x.cell (i := 1) rfl
  have f_x_1_w := x_x.frozen 1
  have c_x_2_w := x_x.cell (i := 2) rfl
  have f_x_2_w := x_x.frozen 2
  have c_x_3_w := x_x.cell (i := 3) rfl
  have f_x_3_w := x_x.frozen 3
  have c_x_4_w := x_x.cell (i := 4) rfl
  have f_x_4_w := x_x.frozen 4
  have c_x_5_w := x_x.cell (i := 5) rfl
  have f_x_5_w := x_x.frozen 5
  have c_x_6_w := x_x.cell (i := 6) rfl
  have f_x_6_w := x_x.frozen 6
  have c_x_7_w := x_x.cell (i := 7) rfl
  have f_x_7_w := x_x.frozen 7
  have c_x_8_w := x_x.cell (i := 8) rfl
  have f_x_8_w := x_x.frozen 8
  go_enter Try.func52, Try.ntmps52
  obtain ⟨wd, hwd⟩ : ∃ x, ({ heap := w.heap, tape := w.tape, drawn := w.drawn + 1, os := w.os, output := w.output } : World) = x := ⟨_, rfl⟩
  have hd0 : Below w.heap.size w wd := by rw [← hwd]; exact (Below.refl w.heap.size w).drew
  have sd0 := hd0.size
  have zd0 : wd.heap.size = w.heap.size := by rw [← hwd]
  have xd := x_x.from_ hd0
  have qd := xd.cell (i := 3) rfl
  go_wp2_with fail
  refine wp_region_held (S := fun _ => True) (by kernel_rfl) ?_
  rw [hwd]
  refine takeN (i := 0) (v := ?v0_23) (d := some 2) rfl rfl (by kernel_rfl) (by kernel_rfl) (by kernel_rfl) (fun _ _ _ h => h) (Or.inl ⟨by rfl, ?y0_23⟩) trivial ?r0_23
  case y0_23 => (intro W hW; go_simp; try (with_reducible rfl))
  simp only [Act.put, List.setIfInBounds_toArray, List.set_cons_zero, List.set_cons_succ]
  refine takeN (i := 1) (v := ?v1_24) (d := some 3) rfl rfl (by kernel_rfl) (by kernel_rfl) (by kernel_rfl) (fun _ _ _ h => h) (Or.inl ⟨by rfl, ?y1_24⟩) trivial ?r1_24
  case y1_24 => (intro W hW; go_simp; try (with_reducible rfl))
  simp only [Act.put, List.setIfInBounds_toArray, List.set_cons_zero, List.set_cons_succ]
  refine takeN (i := 2) (v := ?v2_25) (d := some 4) rfl rfl (by kernel_rfl) (by kernel_rfl) (by kernel_rfl) (fun _ _ _ h => h) (Or.inl ⟨by rfl, ?y2_25⟩) trivial ?r2_25
  case y2_25 => (intro W hW; go_simp; try (with_reducible rfl))
  simp only [Act.put, List.setIfInBounds_toArray, List.set_cons_zero, List.set_cons_succ]
  refine takeN (i := 3) (v := ?v3_26) (d := some 5) rfl rfl (by kernel_rfl) (by kernel_rfl) (by kernel_rfl) (fun _ _ _ h => h) (Or.inl ⟨by rfl, ?y3_26⟩) trivial ?r3_26
  case y3_26 => (intro W hW; go_simp; try (with_reducible rfl))
  simp only [Act.put, List.setIfInBounds_toArray, List.set_cons_zero, List.set_cons_succ]
  refine wpAnyH_ready (rs := [4, 5]) (by kernel_rfl) (by simp) ?_
  refine AllReadyH.cons rfl (fun K9 hK => ?b27_4) (AllReadyH.cons rfl (fun K9 hK => ?b27_5) AllReadyH.nil)
  case b27_4 =>
    go_simp
    refine hK.out _ _ trivial (fun _ => ?_)
    clear hK K9
    refine wpAnyH_ready (rs := [5]) (by kernel_rfl) (by simp) ?_
    refine AllReadyH.cons rfl (fun K9 hK => ?b28_5) AllReadyH.nil
    go_simp
    refine (iOutNew_v).mono ?_
    rintro e wN ⟨rfl, hdN⟩
    have sN := hdN.size
    have xN := xd.from_ hdN
    have qN := xN.cell (i := 3) rfl
    obtain ⟨wT, e_wT, s_wT, h_wT, x_t⟩ := alloc_step wN 59 [.int .i64 1, .slice none 0 0]
    have sT := h_wT.size
    have xT := xN.from_ h_wT
    have qT := xT.cell (i := 3) rfl
    have hRV := x_t.rdV
    have hNT : Below w.heap.size w wT := hd0.trans ((hdN.mono (by omega)).trans (h_wT.mono (by omega)))
    obtain ⟨ys, R, hback⟩ := OV.app_n3 nilL_nil (oO.below hNT) (cs := [.int .i64 1, .slice none 0 0]) (x := outNew) rfl (fun w => ⟨own_outNew w, rfl⟩) (by omega)
    refine hK.out _ _ trivial (fun _ => ?_)
    clear hK K9
    refine wpAnyH_ready (rs := [6]) (by kernel_rfl) (by simp) ?_
    refine AllReadyH.cons rfl (fun K9 hK => ?b29_6) AllReadyH.nil
    go_simp
    refine hK.out _ _ trivial (fun _ => ?_)
    clear hK K9
    refine wpAnyH_ready (rs := [7]) (by kernel_rfl) (by simp) ?_
    refine AllReadyH.cons rfl (fun K9 hK => ?b30_7) AllReadyH.nil
    refine step_appN (by rfl) (.tmp 6) (.tmp 8) 31 (by rfl) 0 2 59 p0 (.agg #[.int .i64 0, .slice none 0 0]) 32 Try.underlying31 hp xz0 xz1 xz2 (by rfl) (by decide) (.slice AO O.length cO) O.length ys (by rfl) R _ (some ⟨wN.heap.size, 0, none⟩) 1 1 [.int .i64 1, .slice none 0 0] (by rfl) rfl hRV ones_out (by omega) (by decide) (Nat.zero_le _) ?_
    intro vA wA hoA hgA hatA
    obtain ⟨hcg, l9, h9, o9, hor, hle⟩ := hback vA wA hoA hgA hatA
    obtain ⟨Y, hY⟩ : ∃ Y, O ++ [outNew] = Y := ⟨_, rfl⟩
    rw [hY] at o9
    have HY := Lib.hid hY
    clear hY
    obtain ⟨A9, c9, rfl, -, -, -⟩ := rv_slice o9.rd
    have xA := xT.chg hcg (by omega)
    have qA := xA.cell (i := 3) rfl
    have fA := xA.frozen 3
    refine hK.out _ _ trivial (fun _ => ?_)
    clear hK K9
    refine takeN (i := 8) (v := ?v8_31) (d := some 10) rfl rfl (by kernel_rfl) (by kernel_rfl) (by kernel_rfl) (fun _ _ _ h => h) (Or.inl ⟨by rfl, ?y8_31⟩) trivial ?r8_31
    case y8_31 => (intro W hW; go_simp; try (with_reducible rfl))
    simp only [Act.put, List.setIfInBounds_toArray, List.set_cons_zero, List.set_cons_succ]
    refine takeN (i := 9) (v := ?v9_32) (d := some 11) rfl rfl (by kernel_rfl) (by kernel_rfl) (by kernel_rfl) (fun _ _ _ h => h) (Or.inl ⟨by rfl, ?y9_32⟩) trivial ?r9_32
    case y9_32 => (intro W hW; go_simp; try (with_reducible rfl))
    simp only [Act.put, List.setIfInBounds_toArray, List.set_cons_zero, List.set_cons_succ]
    refine wpAnyH_ready (rs := [10]) (by kernel_rfl) (by simp) ?_
    refine AllReadyH.cons rfl (fun K9 hK => ?b33_10) AllReadyH.nil
    go_simp
    refine hK.out _ _ trivial (fun _ => ?_)
    clear hK K9
    refine wpAnyH_done (by kernel_rfl) ?_ _
    obtain ⟨wS, eS, sS, hS, xS⟩ := set_step xA 3 (.slice A9 Y.length c9)
    rw [eS]
    have sS_1 := Nat.le_of_eq sS
    have sS_2 := Nat.le_of_eq sS.symm
    clear sS
    replace xS : Vr wS b 34 [.int .i64 id, .int .i64 n, .slice AG G.length cG, .slice A9 Y.length c9, .slice AI I.length cI, .slice AC C.length cC, .int .i64 0, .int .i64 0, .int .i64 0] := xS
    have szA := hcg.size
    have HB9 := Below.chg_ (Below.chg_ (B0.trans (hNT.mono (Nat.le_of_lt lb))) hcg (by omega) (by omega)) hS (by omega) (by omega)
    clear x_x
    have x_x := xS
    replace oG := ((oG.below hNT).chg hcg (by omega)).chg hS (by omega)
    replace oC := ((oC.below hNT).chg hcg (by omega)).chg hS (by omega)
    replace oI := ((oI.below hNT).chg hcg (by omega)).chg hS (by omega)
    replace o9 := o9.chg hS (by omega)
    clear xS xA qA fA eS hoA hgA hatA hback R hRV xT qT xN qN xd qd e_wT x_t
    have c_x_0_wS := x_x.cell (i := 0) rfl
    have f_x_0_wS := x_x.frozen 0
    have c_x_1_wS := x_x.cell (i := 1) rfl
    have f_x_1_wS := x_x.frozen 1
    have c_x_2_wS := x_x.cell (i := 2) rfl
    have f_x_2_wS := x_x.frozen 2
    have c_x_3_wS := x_x.cell (i := 3) rfl
    have f_x_3_wS := x_x.frozen 3
    have c_x_4_wS := x_x.cell (i := 4) rfl
    have f_x_4_wS := x_x.frozen 4
    have c_x_5_wS := x_x.cell (i := 5) rfl
    have f_x_5_wS := x_x.frozen 5
    have c_x_6_wS := x_x.cell (i := 6) rfl
    have f_x_6_wS := x_x.frozen 6
    have c_x_7_wS := x_x.cell (i := 7) rfl
    have f_x_7_wS := x_x.frozen 7
    have c_x_8_wS := x_x.cell (i := 8) rfl
    have f_x_8_wS := x_x.frozen 8
    obtain ⟨w11, e_w11, s_w11, h_w11, x_t⟩ := alloc_step wS 3 [.int .i64 0]
    have s_w11_1 := Nat.le_of_eq s_w11
    have s_w11_2 := Nat.le_of_eq s_w11.symm
    clear s_w11
    replace x_x := x_x.from_ h_w11
    replace oG := oG.below h_w11
    replace oC := oC.below h_w11
    replace oI := oI.below h_w11
    replace o9 := o9.below h_w11
    have B_w11 := HB9.trans (h_w11.mono (Nat.le_trans (Nat.le_of_lt lb) HB9.size))
    have i_w11_0 := x_t.same (i := 0) rfl
    have c_x_0_w11 := x_x.cell (i := 0) rfl
    have f_x_0_w11 := x_x.frozen 0
    have c_x_1_w11 := x_x.cell (i := 1) rfl
    have f_x_1_w11 := x_x.frozen 1
    have c_x_2_w11 := x_x.cell (i := 2) rfl
    have f_x_2_w11 := x_x.frozen 2
    have c_x_3_w11 := x_x.cell (i := 3) rfl
    have f_x_3_w11 := x_x.frozen 3
    have c_x_4_w11 := x_x.cell (i := 4) rfl
    have f_x_4_w11 := x_x.frozen 4
    have c_x_5_w11 := x_x.cell (i := 5) rfl
    have f_x_5_w11 := x_x.frozen 5
    have c_x_6_w11 := x_x.cell (i := 6) rfl
    have f_x_6_w11 := x_x.frozen 6
    have c_x_7_w11 := x_x.cell (i := 7) rfl
    have f_x_7_w11 := x_x.frozen 7
    have c_x_8_w11 := x_x.cell (i := 8) rfl
    have f_x_8_w11 := x_x.frozen 8
    have c_t_0_w11 := x_t.cell (i := 0) rfl
    have f_t_0_w11 := x_t.frozen 0
    have hRV := x_t.rdOne
    go_wp2_with (at_builtin; refine wpl_appI _ .i64 rfl (.tmp 16) (.tmp 17) 24 rfl 0 3 q0 8 Try.underlying24 hq uz0 uz1 uz2 _ I rfl (oI.1.base_mono (Nat.zero_le _)) _ _ _ 1 [0] rfl rfl hRV ?d1 (by omega) ?d2 ?_)
    case d1 => omega
    case d2 => omega
    intro v4 wB ho4 hg4 hat4
    obtain ⟨hc4, l8, h8, o8, hor8, hle8⟩ := oI.app_2 ho4 hg4 hat4
    obtain ⟨Z, hZ⟩ : ∃ Z, I ++ [0] = Z := ⟨_, rfl⟩
    rw [hZ] at o8
    have HZ := Lib.hid hZ
    clear hZ ho4 hg4 hat4 hRV
    obtain ⟨A8, c8, rfl, -, -, -⟩ := o8.rd
    clear c_x_0_wS f_x_0_wS c_x_1_wS f_x_1_wS c_x_2_wS f_x_2_wS c_x_3_wS f_x_3_wS c_x_4_wS f_x_4_wS c_x_5_wS f_x_5_wS c_x_6_wS f_x_6_wS c_x_7_wS f_x_7_wS c_x_8_wS f_x_8_wS i_w11_0 c_x_0_w11 f_x_0_w11 c_x_1_w11 f_x_1_w11 c_x_2_w11 f_x_2_w11 c_x_3_w11 f_x_3_w11 c_x_4_w11 f_x_4_w11 c_x_5_w11 f_x_5_w11 c_x_6_w11 f_x_6_w11 c_x_7_w11 f_x_7_w11 c_x_8_w11 f_x_8_w11 c_t_0_w11 f_t_0_w11
    clear oI
    clear x_t
    replace x_x := x_x.chg hc4 (by omega)
    replace oG := oG.chg hc4 (by omega)
    replace oC := oC.chg hc4 (by omega)
    replace o9 := o9.chg hc4 (by omega)
    have B_wB := Below.chg_ B_w11 hc4 (by omega) (by omega)
    have s_wB := hc4.size
    have sB4 := hc4.size
    have c_x_0_wB := x_x.cell (i := 0) rfl
    have f_x_0_wB := x_x.frozen 0
    have c_x_1_wB := x_x.cell (i := 1) rfl
    have f_x_1_wB := x_x.frozen 1
    have c_x_2_wB := x_x.cell (i := 2) rfl
    have f_x_2_wB := x_x.frozen 2
    have c_x_3_wB := x_x.cell (i := 3) rfl
    have f_x_3_wB := x_x.frozen 3
    have c_x_4_wB := x_x.cell (i := 4) rfl
    have f_x_4_wB := x_x.frozen 4
    have c_x_5_wB := x_x.cell (i := 5) rfl
    have f_x_5_wB := x_x.frozen 5
    have c_x_6_wB := x_x.cell (i := 6) rfl
    have f_x_6_wB := x_x.frozen 6
    have c_x_7_wB := x_x.cell (i := 7) rfl
    have f_x_7_wB := x_x.frozen 7
    have c_x_8_wB := x_x.cell (i := 8) rfl
    have f_x_8_wB := x_x.frozen 8
    obtain ⟨w12, e_w12, s_w12, h_w12, y⟩ := set_step x_x 4 (.slice A8 Z.length c8)
    have s_w12_1 := Nat.le_of_eq s_w12
    have s_w12_2 := Nat.le_of_eq s_w12.symm
    clear s_w12
    replace oG := oG.chg h_w12 (by omega)
    replace oC := oC.chg h_w12 (by omega)
    replace o9 := o9.chg h_w12 (by omega)
    replace o8 := o8.chg h_w12 (by omega)
    have B_w12 := Below.chg_ B_wB h_w12 (by omega) (by omega)
    replace x_x : Vr w12 (b) 34 [.int .i64 id, .int .i64 n, .slice AG G.length cG, .slice A9 Y.length c9, .slice A8 Z.length c8, .slice AC C.length cC, .int .i64 0, .int .i64 0, .int .i64 0] := y
    clear y
    have c_x_0_w12 := x_x.cell (i := 0) rfl
    have f_x_0_w12 := x_x.frozen 0
    have c_x_1_w12 := x_x.cell (i := 1) rfl
    have f_x_1_w12 := x_x.frozen 1
    have c_x_2_w12 := x_x.cell (i := 2) rfl
    have f_x_2_w12 := x_x.frozen 2
    have c_x_3_w12 := x_x.cell (i := 3) rfl
    have f_x_3_w12 := x_x.frozen 3
    have c_x_4_w12 := x_x.cell (i := 4) rfl
    have f_x_4_w12 := x_x.frozen 4
    have c_x_5_w12 := x_x.cell (i := 5) rfl
    have f_x_5_w12 := x_x.frozen 5
    have c_x_6_w12 := x_x.cell (i := 6) rfl
    have f_x_6_w12 := x_x.frozen 6
    have c_x_7_w12 := x_x.cell (i := 7) rfl
    have f_x_7_w12 := x_x.frozen 7
    have c_x_8_w12 := x_x.cell (i := 8) rfl
    have f_x_8_w12 := x_x.frozen 8
    go_wp2
    go_end0
    exact ⟨rfl, A9, A8, c9, c8, l9, h9, l8, h8, Y, Z, ⟨HY.out.symm, HZ.out.symm⟩, x_x, oG, oC, o9, o8, ⟨by omega, by omega, by omega, by omega, by omega⟩, B_w12⟩
  case b27_5 =>
    go_simp
    refine (iOutNew_v).mono ?_
    rintro e wN ⟨rfl, hdN⟩
    have sN := hdN.size
    have xN := xd.from_ hdN
    have qN := xN.cell (i := 3) rfl
    obtain ⟨wT, e_wT, s_wT, h_wT, x_t⟩ := alloc_step wN 59 [.int .i64 1, .slice none 0 0]
    have sT := h_wT.size
    have xT := xN.from_ h_wT
    have qT := xT.cell (i := 3) rfl
    have hRV := x_t.rdV
    have hNT : Below w.heap.size w wT := hd0.trans ((hdN.mono (by omega)).trans (h_wT.mono (by omega)))
    obtain ⟨ys, R, hback⟩ := OV.app_n3 nilL_nil (oO.below hNT) (cs := [.int .i64 1, .slice none 0 0]) (x := outNew) rfl (fun w => ⟨own_outNew w, rfl⟩) (by omega)
    refine hK.out _ _ trivial (fun _ => ?_)
    clear hK K9
    refine wpAnyH_ready (rs := [4, 6]) (by kernel_rfl) (by simp) ?_
    refine AllReadyH.cons rfl (fun K9 hK => ?b34_4) (AllReadyH.cons rfl (fun K9 hK => ?b34_6) AllReadyH.nil)
    case b34_4 =>
      go_simp
      refine hK.out _ _ trivial (fun _ => ?_)
      clear hK K9
      refine wpAnyH_ready (rs := [6]) (by kernel_rfl) (by simp) ?_
      refine AllReadyH.cons rfl (fun K9 hK => ?b35_6) AllReadyH.nil
      go_simp
      refine hK.out _ _ trivial (fun _ => ?_)
      clear hK K9
      refine wpAnyH_ready (rs := [7]) (by kernel_rfl) (by simp) ?_
      refine AllReadyH.cons rfl (fun K9 hK => ?b36_7) AllReadyH.nil
      refine step_appN (by rfl) (.tmp 6) (.tmp 8) 31 (by rfl) 0 2 59 p0 (.agg #[.int .i64 0, .slice none 0 0]) 32 Try.underlying31 hp xz0 xz1 xz2 (by rfl) (by decide) (.slice AO O.length cO) O.length ys (by rfl) R _ (some ⟨wN.heap.size, 0, none⟩) 1 1 [.int .i64 1, .slice none 0 0] (by rfl) rfl hRV ones_out (by omega) (by decide) (Nat.zero_le _) ?_
      intro vA wA hoA hgA hatA
      obtain ⟨hcg, l9, h9, o9, hor, hle⟩ := hback vA wA hoA hgA hatA
      obtain ⟨Y, hY⟩ : ∃ Y, O ++ [outNew] = Y := ⟨_, rfl⟩
      rw [hY] at o9
      have HY := Lib.hid hY
      clear hY
      obtain ⟨A9, c9, rfl, -, -, -⟩ := rv_slice o9.rd
      have xA := xT.chg hcg (by omega)
      have qA := xA.cell (i := 3) rfl
      have fA := xA.frozen 3
      refine hK.out _ _ trivial (fun _ => ?_)
      clear hK K9
      refine takeN (i := 8) (v := ?v8_37) (d := some 10) rfl rfl (by kernel_rfl) (by kernel_rfl) (by kernel_rfl) (fun _ _ _ h => h) (Or.inl ⟨by rfl, ?y8_37⟩) trivial ?r8_37
      case y8_37 => (intro W hW; go_simp; try (with_reducible rfl))
      simp only [Act.put, List.setIfInBounds_toArray, List.set_cons_zero, List.set_cons_succ]
      refine takeN (i := 9) (v := ?v9_38) (d := some 11) rfl rfl (by kernel_rfl) (by kernel_rfl) (by kernel_rfl) (fun _ _ _ h => h) (Or.inl ⟨by rfl, ?y9_38⟩) trivial ?r9_38
      case y9_38 => (intro W hW; go_simp; try (with_reducible rfl))
      simp only [Act.put, List.setIfInBounds_toArray, List.set_cons_zero, List.set_cons_succ]
      refine wpAnyH_ready (rs := [10]) (by kernel_rfl) (by simp) ?_
      refine AllReadyH.cons rfl (fun K9 hK => ?b39_10) AllReadyH.nil
      go_simp
      refine hK.out _ _ trivial (fun _ => ?_)
      clear hK K9
      refine wpAnyH_done (by kernel_rfl) ?_ _
      obtain ⟨wS, eS, sS, hS, xS⟩ := set_step xA 3 (.slice A9 Y.length c9)
      rw [eS]
      have sS_1 := Nat.le_of_eq sS
      have sS_2 := Nat.le_of_eq sS.symm
      clear sS
      replace xS : Vr wS b 34 [.int .i64 id, .int .i64 n, .slice AG G.length cG, .slice A9 Y.length c9, .slice AI I.length cI, .slice AC C.length cC, .int .i64 0, .int .i64 0, .int .i64 0] := xS
      have szA := hcg.size
      have HB9 := Below.chg_ (Below.chg_ (B0.trans (hNT.mono (Nat.le_of_lt lb))) hcg (by omega) (by omega)) hS (by omega) (by omega)
      clear x_x
      have x_x := xS
      replace oG := ((oG.below hNT).chg hcg (by omega)).chg hS (by omega)
      replace oC := ((oC.below hNT).chg hcg (by omega)).chg hS (by omega)
      replace oI := ((oI.below hNT).chg hcg (by omega)).chg hS (by omega)
      replace o9 := o9.chg hS (by omega)
      clear xS xA qA fA eS hoA hgA hatA hback R hRV xT qT xN qN xd qd e_wT x_t
      have c_x_0_wS := x_x.cell (i := 0) rfl
      have f_x_0_wS := x_x.frozen 0
      have c_x_1_wS := x_x.cell (i := 1) rfl
      have f_x_1_wS := x_x.frozen 1
      have c_x_2_wS := x_x.cell (i := 2) rfl
      have f_x_2_wS := x_x.frozen 2
      have c_x_3_wS := x_x.cell (i := 3) rfl
      have f_x_3_wS := x_x.frozen 3
      have c_x_4_wS := x_x.cell (i := 4) rfl
      have f_x_4_wS := x_x.frozen 4
      have c_x_5_wS := x_x.cell (i := 5) rfl
      have f_x_5_wS := x_x.frozen 5
      have c_x_6_wS := x_x.cell (i := 6) rfl
      have f_x_6_wS := x_x.frozen 6
      have c_x_7_wS := x_x.cell (i := 7) rfl
      have f_x_7_wS := x_x.frozen 7
      have c_x_8_wS := x_x.cell (i := 8) rfl
      have f_x_8_wS := x_x.frozen 8
      obtain ⟨w11, e_w11, s_w11, h_w11, x_t⟩ := alloc_step wS 3 [.int .i64 0]
      have s_w11_1 := Nat.le_of_eq s_w11
      have s_w11_2 := Nat.le_of_eq s_w11.symm
      clear s_w11
      replace x_x := x_x.from_ h_w11
      replace oG := oG.below h_w11
      replace oC := oC.below h_w11
      replace oI := oI.below h_w11
      replace o9 := o9.below h_w11
      have B_w11 := HB9.trans (h_w11.mono (Nat.le_trans (Nat.le_of_lt lb) HB9.size))
      have i_w11_0 := x_t.same (i := 0) rfl
      have c_x_0_w11 := x_x.cell (i := 0) rfl
      have f_x_0_w11 := x_x.frozen 0
      have c_x_1_w11 := x_x.cell (i := 1) rfl
      have f_x_1_w11 := x_x.frozen 1
      have c_x_2_w11 := x_x.cell (i := 2) rfl
      have f_x_2_w11 := x_x.frozen 2
      have c_x_3_w11 := x_x.cell (i := 3) rfl
      have f_x_3_w11 := x_x.frozen 3
      have c_x_4_w11 := x_x.cell (i := 4) rfl
      have f_x_4_w11 := x_x.frozen 4
      have c_x_5_w11 := x_x.cell (i := 5) rfl
      have f_x_5_w11 := x_x.frozen 5
      have c_x_6_w11 := x_x.cell (i := 6) rfl
      have f_x_6_w11 := x_x.frozen 6
      have c_x_7_w11 := x_x.cell (i := 7) rfl
      have f_x_7_w11 := x_x.frozen 7
      have c_x_8_w11 := x_x.cell (i := 8) rfl
      have f_x_8_w11 := x_x.frozen 8
      have c_t_0_w11 := x_t.cell (i := 0) rfl
      have f_t_0_w11 := x_t.frozen 0
      have hRV := x_t.rdOne
      go_wp2_with (at_builtin; refine wpl_appI _ .i64 rfl (.tmp 16) (.tmp 17) 24 rfl 0 3 q0 8 Try.underlying24 hq uz0 uz1 uz2 _ I rfl (oI.1.base_mono (Nat.zero_le _)) _ _ _ 1 [0] rfl rfl hRV ?d1 (by omega) ?d2 ?_)
      case d1 => omega
      case d2 => omega
      intro v4 wB ho4 hg4 hat4
      obtain ⟨hc4, l8, h8, o8, hor8, hle8⟩ := oI.app_2 ho4 hg4 hat4
      obtain ⟨Z, hZ⟩ : ∃ Z, I ++ [0] = Z := ⟨_, rfl⟩
      rw [hZ] at o8
      have HZ := Lib.hid hZ
      clear hZ ho4 hg4 hat4 hRV
      obtain ⟨A8, c8, rfl, -, -, -⟩ := o8.rd
      clear c_x_0_wS f_x_0_wS c_x_1_wS f_x_1_wS c_x_2_wS f_x_2_wS c_x_3_wS f_x_3_wS c_x_4_wS f_x_4_wS c_x_5_wS f_x_5_wS c_x_6_wS f_x_6_wS c_x_7_wS f_x_7_wS c_x_8_wS f_x_8_wS i_w11_0 c_x_0_w11 f_x_0_w11 c_x_1_w11 f_x_1_w11 c_x_2_w11 f_x_2_w11 c_x_3_w11 f_x_3_w11 c_x_4_w11 f_x_4_w11 c_x_5_w11 f_x_5_w11 c_x_6_w11 f_x_6_w11 c_x_7_w11 f_x_7_w11 c_x_8_w11 f_x_8_w11 c_t_0_w11 f_t_0_w11
      clear oI
      clear x_t
      replace x_x := x_x.chg hc4 (by omega)
      replace oG := oG.chg hc4 (by omega)
      replace oC := oC.chg hc4 (by omega)
      replace o9 := o9.chg hc4 (by omega)
      have B_wB := Below.chg_ B_w11 hc4 (by omega) (by omega)
      have s_wB := hc4.size
      have sB4 := hc4.size
      have c_x_0_wB := x_x.cell (i := 0) rfl
      have f_x_0_wB := x_x.frozen 0
      have c_x_1_wB := x_x.cell (i := 1) rfl
      have f_x_1_wB := x_x.frozen 1
      have c_x_2_wB := x_x.cell (i := 2) rfl
      have f_x_2_wB := x_x.frozen 2
      have c_x_3_wB := x_x.cell (i := 3) rfl
      have f_x_3_wB := x_x.frozen 3
      have c_x_4_wB := x_x.cell (i := 4) rfl
      have f_x_4_wB := x_x.frozen 4
      have c_x_5_wB := x_x.cell (i := 5) rfl
      have f_x_5_wB := x_x.frozen 5
      have c_x_6_wB := x_x.cell (i := 6) rfl
      have f_x_6_wB := x_x.frozen 6
      have c_x_7_wB := x_x.cell (i := 7) rfl
      have f_x_7_wB := x_x.frozen 7
      have c_x_8_wB := x_x.cell (i := 8) rfl
      have f_x_8_wB := x_x.frozen 8
      obtain ⟨w12, e_w12, s_w12, h_w12, y⟩ := set_step x_x 4 (.slice A8 Z.length c8)
      have s_w12_1 := Nat.le_of_eq s_w12
      have s_w12_2 := Nat.le_of_eq s_w12.symm
      clear s_w12
      replace oG := oG.chg h_w12 (by omega)
      replace oC := oC.chg h_w12 (by omega)
      replace o9 := o9.chg h_w12 (by omega)
      replace o8 := o8.chg h_w12 (by omega)
      have B_w12 := Below.chg_ B_wB h_w12 (by omega) (by omega)
      replace x_x : Vr w12 (b) 34 [.int .i64 id, .int .i64 n, .slice AG G.length cG, .slice A9 Y.length c9, .slice A8 Z.length c8, .slice AC C.length cC, .int .i64 0, .int .i64 0, .int .i64 0] := y
      clear y
      have c_x_0_w12 := x_x.cell (i := 0) rfl
      have f_x_0_w12 := x_x.frozen 0
      have c_x_1_w12 := x_x.cell (i := 1) rfl
      have f_x_1_w12 := x_x.frozen 1
      have c_x_2_w12 := x_x.cell (i := 2) rfl
      have f_x_2_w12 := x_x.frozen 2
      have c_x_3_w12 := x_x.cell (i := 3) rfl
      have f_x_3_w12 := x_x.frozen 3
      have c_x_4_w12 := x_x.cell (i := 4) rfl
      have f_x_4_w12 := x_x.frozen 4
      have c_x_5_w12 := x_x.cell (i := 5) rfl
      have f_x_5_w12 := x_x.frozen 5
      have c_x_6_w12 := x_x.cell (i := 6) rfl
      have f_x_6_w12 := x_x.frozen 6
      have c_x_7_w12 := x_x.cell (i := 7) rfl
      have f_x_7_w12 := x_x.frozen 7
      have c_x_8_w12 := x_x.cell (i := 8) rfl
      have f_x_8_w12 := x_x.frozen 8
      go_wp2
      go_end0
      exact ⟨rfl, A9, A8, c9, c8, l9, h9, l8, h8, Y, Z, ⟨HY.out.symm, HZ.out.symm⟩, x_x, oG, oC, o9, o8, ⟨by omega, by omega, by omega, by omega, by omega⟩, B_w12⟩
    case b34_6 =>
      go_simp
      refine hK.out _ _ trivial (fun _ => ?_)
      clear hK K9
      refine wpAnyH_ready (rs := [4]) (by kernel_rfl) (by simp) ?_
      refine AllReadyH.cons rfl (fun K9 hK => ?b40_4) AllReadyH.nil
      go_simp
      refine hK.out _ _ trivial (fun _ => ?_)
      clear hK K9
      refine wpAnyH_ready (rs := [7]) (by kernel_rfl) (by simp) ?_
      refine AllReadyH.cons rfl (fun K9 hK => ?b41_7) AllReadyH.nil
      refine step_appN (by rfl) (.tmp 6) (.tmp 8) 31 (by rfl) 0 2 59 p0 (.agg #[.int .i64 0, .slice none 0 0]) 32 Try.underlying31 hp xz0 xz1 xz2 (by rfl) (by decide) (.slice AO O.length cO) O.length ys (by rfl) R _ (some ⟨wN.heap.size, 0, none⟩) 1 1 [.int .i64 1, .slice none 0 0] (by rfl) rfl hRV ones_out (by omega) (by decide) (Nat.zero_le _) ?_
      intro vA wA hoA hgA hatA
      obtain ⟨hcg, l9, h9, o9, hor, hle⟩ := hback vA wA hoA hgA hatA
      obtain ⟨Y, hY⟩ : ∃ Y, O ++ [outNew] = Y := ⟨_, rfl⟩
      rw [hY] at o9
      have HY := Lib.hid hY
      clear hY
      obtain ⟨A9, c9, rfl, -, -, -⟩ := rv_slice o9.rd
      have xA := xT.chg hcg (by omega)
      have qA := xA.cell (i := 3) rfl
      have fA := xA.frozen 3
      refine hK.out _ _ trivial (fun _ => ?_)
      clear hK K9
      refine takeN (i := 8) (v := ?v8_42) (d := some 10) rfl rfl (by kernel_rfl) (by kernel_rfl) (by kernel_rfl) (fun _ _ _ h => h) (Or.inl ⟨by rfl, ?y8_42⟩) trivial ?r8_42
      case y8_42 => (intro W hW; go_simp; try (with_reducible rfl))
      simp only [Act.put, List.setIfInBounds_toArray, List.set_cons_zero, List.set_cons_succ]
      refine takeN (i := 9) (v := ?v9_43) (d := some 11) rfl rfl (by kernel_rfl) (by kernel_rfl) (by kernel_rfl) (fun _ _ _ h => h) (Or.inl ⟨by rfl, ?y9_43⟩) trivial ?r9_43
      case y9_43 => (intro W hW; go_simp; try (with_reducible rfl))
      simp only [Act.put, List.setIfInBounds_toArray, List.set_cons_zero, List.set_cons_succ]
      refine wpAnyH_ready (rs := [10]) (by kernel_rfl) (by simp) ?_
      refine AllReadyH.cons rfl (fun K9 hK => ?b44_10) AllReadyH.nil
      go_simp
      refine hK.out _ _ trivial (fun _ => ?_)
      clear hK K9
      refine wpAnyH_done (by kernel_rfl) ?_ _
      obtain ⟨wS, eS, sS, hS, xS⟩ := set_step xA 3 (.slice A9 Y.length c9)
      rw [eS]
      have sS_1 := Nat.le_of_eq sS
      have sS_2 := Nat.le_of_eq sS.symm
      clear sS
      replace xS : Vr wS b 34 [.int .i64 id, .int .i64 n, .slice AG G.length cG, .slice A9 Y.length c9, .slice AI I.length cI, .slice AC C.length cC, .int .i64 0, .int .i64 0, .int .i64 0] := xS
      have szA := hcg.size
      have HB9 := Below.chg_ (Below.chg_ (B0.trans (hNT.mono (Nat.le_of_lt lb))) hcg (by omega) (by omega)) hS (by omega) (by omega)
      clear x_x
      have x_x := xS
      replace oG := ((oG.below hNT).chg hcg (by omega)).chg hS (by omega)
      replace oC := ((oC.below hNT).chg hcg (by omega)).chg hS (by omega)
      replace oI := ((oI.below hNT).chg hcg (by omega)).chg hS (by omega)
      replace o9 := o9.chg hS (by omega)
      clear xS xA qA fA eS hoA hgA hatA hback R hRV xT qT xN qN xd qd e_wT x_t
      have c_x_0_wS := x_x.cell (i := 0) rfl
      have f_x_0_wS := x_x.frozen 0
      have c_x_1_wS := x_x.cell (i := 1) rfl
      have f_x_1_wS := x_x.frozen 1
      have c_x_2_wS := x_x.cell (i := 2) rfl
      have f_x_2_wS := x_x.frozen 2
      have c_x_3_wS := x_x.cell (i := 3) rfl
      have f_x_3_wS := x_x.frozen 3
      have c_x_4_wS := x_x.cell (i := 4) rfl
      have f_x_4_wS := x_x.frozen 4
      have c_x_5_wS := x_x.cell (i := 5) rfl
      have f_x_5_wS := x_x.frozen 5
      have c_x_6_wS := x_x.cell (i := 6) rfl
      have f_x_6_wS := x_x.frozen 6
      have c_x_7_wS := x_x.cell (i := 7) rfl
      have f_x_7_wS := x_x.frozen 7
      have c_x_8_wS := x_x.cell (i := 8) rfl
      have f_x_8_wS := x_x.frozen 8
      obtain ⟨w11, e_w11, s_w11, h_w11, x_t⟩ := alloc_step wS 3 [.int .i64 0]
      have s_w11_1 := Nat.le_of_eq s_w11
      have s_w11_2 := Nat.le_of_eq s_w11.symm
      clear s_w11
      replace x_x := x_x.from_ h_w11
      replace oG := oG.below h_w11
      replace oC := oC.below h_w11
      replace oI := oI.below h_w11
      replace o9 := o9.below h_w11
      have B_w11 := HB9.trans (h_w11.mono (Nat.le_trans (Nat.le_of_lt lb) HB9.size))
      have i_w11_0 := x_t.same (i := 0) rfl
      have c_x_0_w11 := x_x.cell (i := 0) rfl
      have f_x_0_w11 := x_x.frozen 0
      have c_x_1_w11 := x_x.cell (i := 1) rfl
      have f_x_1_w11 := x_x.frozen 1
      have c_x_2_w11 := x_x.cell (i := 2) rfl
      have f_x_2_w11 := x_x.frozen 2
      have c_x_3_w11 := x_x.cell (i := 3) rfl
      have f_x_3_w11 := x_x.frozen 3
      have c_x_4_w11 := x_x.cell (i := 4) rfl
      have f_x_4_w11 := x_x.frozen 4
      have c_x_5_w11 := x_x.cell (i := 5) rfl
      have f_x_5_w11 := x_x.frozen 5
      have c_x_6_w11 := x_x.cell (i := 6) rfl
      have f_x_6_w11 := x_x.frozen 6
      have c_x_7_w11 := x_x.cell (i := 7) rfl
      have f_x_7_w11 := x_x.frozen 7
      have c_x_8_w11 := x_x.cell (i := 8) rfl
      have f_x_8_w11 := x_x.frozen 8
      have c_t_0_w11 := x_t.cell (i := 0) rfl
      have f_t_0_w11 := x_t.frozen 0
      have hRV := x_t.rdOne
      go_wp2_with (at_builtin; refine wpl_appI _ .i64 rfl (.tmp 16) (.tmp 17) 24 rfl 0 3 q0 8 Try.underlying24 hq uz0 uz1 uz2 _ I rfl (oI.1.base_mono (Nat.zero_le _)) _ _ _ 1 [0] rfl rfl hRV ?d1 (by omega) ?d2 ?_)
      case d1 => omega
      case d2 => omega
      intro v4 wB ho4 hg4 hat4
      obtain ⟨hc4, l8, h8, o8, hor8, hle8⟩ := oI.app_2 ho4 hg4 hat4
      obtain ⟨Z, hZ⟩ : ∃ Z, I ++ [0] = Z := ⟨_, rfl⟩
      rw [hZ] at o8
      have HZ := Lib.hid hZ
      clear hZ ho4 hg4 hat4 hRV
      obtain ⟨A8, c8, rfl, -, -, -⟩ := o8.rd
      clear c_x_0_wS f_x_0_wS c_x_1_wS f_x_1_wS c_x_2_wS f_x_2_wS c_x_3_wS f_x_3_wS c_x_4_wS f_x_4_wS c_x_5_wS f_x_5_wS c_x_6_wS f_x_6_wS c_x_7_wS f_x_7_wS c_x_8_wS f_x_8_wS i_w11_0 c_x_0_w11 f_x_0_w11 c_x_1_w11 f_x_1_w11 c_x_2_w11 f_x_2_w11 c_x_3_w11 f_x_3_w11 c_x_4_w11 f_x_4_w11 c_x_5_w11 f_x_5_w11 c_x_6_w11 f_x_6_w11 c_x_7_w11 f_x_7_w11 c_x_8_w11 f_x_8_w11 c_t_0_w11 f_t_0_w11
      clear oI
      clear x_t
      replace x_x := x_x.chg hc4 (by omega)
      replace oG := oG.chg hc4 (by omega)
      replace oC := oC.chg hc4 (by omega)
      replace o9 := o9.chg hc4 (by omega)
      have B_wB := Below.chg_ B_w11 hc4 (by omega) (by omega)
      have s_wB := hc4.size
      have sB4 := hc4.size
      have c_x_0_wB := x_x.cell (i := 0) rfl
      have f_x_0_wB := x_x.frozen 0
      have c_x_1_wB := x_x.cell (i := 1) rfl
      have f_x_1_wB := x_x.frozen 1
      have c_x_2_wB := x_x.cell (i := 2) rfl
      have f_x_2_wB := x_x.frozen 2
      have c_x_3_wB := x_x.cell (i := 3) rfl
      have f_x_3_wB := x_x.frozen 3
      have c_x_4_wB := x_x.cell (i := 4) rfl
      have f_x_4_wB := x_x.frozen 4
      have c_x_5_wB := x_x.cell (i := 5) rfl
      have f_x_5_wB := x_x.frozen 5
      have c_x_6_wB := x_x.cell (i := 6) rfl
      have f_x_6_wB := x_x.frozen 6
      have c_x_7_wB := x_x.cell (i := 7) rfl
      have f_x_7_wB := x_x.frozen 7
      have c_x_8_wB := x_x.cell (i := 8) rfl
      have f_x_8_wB := x_x.frozen 8
      obtain ⟨w12, e_w12, s_w12, h_w12, y⟩ := set_step x_x 4 (.slice A8 Z.length c8)
      have s_w12_1 := Nat.le_of_eq s_w12
      have s_w12_2 := Nat.le_of_eq s_w12.symm
      clear s_w12
      replace oG := oG.chg h_w12 (by omega)
      replace oC := oC.chg h_w12 (by omega)
      replace o9 := o9.chg h_w12 (by omega)
      replace o8 := o8.chg h_w12 (by omega)
      have B_w12 := Below.chg_ B_wB h_w12 (by omega) (by omega)
      replace x_x : Vr w12 (b) 34 [.int .i64 id, .int .i64 n, .slice AG G.length cG, .slice A9 Y.length c9, .slice A8 Z.length c8, .slice AC C.length cC, .int .i64 0, .int .i64 0, .int .i64 0] := y
      clear y
      have c_x_0_w12 := x_x.cell (i := 0) rfl
      have f_x_0_w12 := x_x.frozen 0
      have c_x_1_w12 := x_x.cell (i := 1) rfl
      have f_x_1_w12 := x_x.frozen 1
      have c_x_2_w12 := x_x.cell (i := 2) rfl
      have f_x_2_w12 := x_x.frozen 2
      have c_x_3_w12 := x_x.cell (i := 3) rfl
      have f_x_3_w12 := x_x.frozen 3
      have c_x_4_w12 := x_x.cell (i := 4) rfl
      have f_x_4_w12 := x_x.frozen 4
      have c_x_5_w12 := x_x.cell (i := 5) rfl
      have f_x_5_w12 := x_x.frozen 5
      have c_x_6_w12 := x_x.cell (i := 6) rfl
      have f_x_6_w12 := x_x.frozen 6
      have c_x_7_w12 := x_x.cell (i := 7) rfl
      have f_x_7_w12 := x_x.frozen 7
      have c_x_8_w12 := x_x.cell (i := 8) rfl
      have f_x_8_w12 := x_x.frozen 8
      go_wp2
      go_end0
      exact ⟨rfl, A9, A8, c9, c8, l9, h9, l8, h8, Y, Z, ⟨HY.out.symm, HZ.out.symm⟩, x_x, oG, oC, o9, o8, ⟨by omega, by omega, by omega, by omega, by omega⟩, B_w12⟩

set_option maxRecDepth 100000 in
set_option maxHeartbeats 8000000 in
theorem iNodeNew_c {w : World} {id n a : Int} (hi0 : -9223372036854775808 ≤ id ∧ id ≤ 9223372036854775807) (hn0 : -9223372036854775808 ≤ n ∧ n ≤ 9223372036854775807) (ha0 : -9223372036854775808 ≤ a ∧ a ≤ 9223372036854775807) : Calls Try.prog 15 #[.int .i64 id, .int .i64 n, .int .i64 a] w (NewVB nodeL w (nodeNew id n a) (nodeNewB id n a)) := by
  obtain ⟨wa, hwa, B0, sa, x_r⟩ := frame1 w 34 [.int .i64 0, .int .i64 0, .slice none 0 0, .slice none 0 0, .slice none 0 0, .slice none 0 0, .int .i64 0, .int .i64 0, .int .i64 0]
  have sa_1 := Nat.le_of_eq sa
  have sa_2 := Nat.le_of_eq sa.symm
  clear sa
  have c_r_0_wa := x_r.cell (i := 0) rfl
  have f_r_0_wa := x_r.frozen 0
  have c_r_1_wa := x_r.cell (i := 1) rfl
  have f_r_1_wa := x_r.frozen 1
  have c_r_2_wa := x_r.cell (i := 2) rfl
  have f_r_2_wa := x_r.frozen 2
  have c_r_3_wa := x_r.cell (i := 3) rfl
  have f_r_3_wa := x_r.frozen 3
  have c_r_4_wa := x_r.cell (i := 4) rfl
  have f_r_4_wa := x_r.frozen 4
  have c_r_5_wa := x_r.cell (i := 5) rfl
  have f_r_5_wa := x_r.frozen 5
  have c_r_6_wa := x_r.cell (i := 6) rfl
  have f_r_6_wa := x_r.frozen 6
  have c_r_7_wa := x_r.cell (i := 7) rfl
  have f_r_7_wa := x_r.frozen 7
  have c_r_8_wa := x_r.cell (i := 8) rfl
  have f_r_8_wa := x_r.frozen 8
  obtain ⟨w1, e_w1, s_w1, h_w1, x_x⟩ := alloc_step wa 34 [.int .i64 id, .int .i64 n, .slice none 0 0, .slice none 0 0, .slice none 0 0, .slice none 0 0, .int .i64 0, .int .i64 0, .int .i64 0]
  have s_w1_1 := Nat.le_of_eq s_w1
  have s_w1_2 := Nat.le_of_eq s_w1.symm
  clear s_w1
  replace x_r := x_r.from_ h_w1
  have B_w1 := B0.trans (h_w1.mono B0.size)
  have i_w1_8 := x_x.same (i := 8) rfl
  have i_w1_7 := x_x.same (i := 7) rfl
  have i_w1_6 := x_x.same (i := 6) rfl
  have i_w1_5 := x_x.same (i := 5) rfl
  have i_w1_4 := x_x.same (i := 4) rfl
  have i_w1_3 := x_x.same (i := 3) rfl
  have i_w1_2 := x_x.same (i := 2) rfl
  have c_r_0_w1 := x_r.cell (i := 0) rfl
  have f_r_0_w1 := x_r.frozen 0
  have c_r_1_w1 := x_r.cell (i := 1) rfl
  have f_r_1_w1 := x_r.frozen 1
  have c_r_2_w1 := x_r.cell (i := 2) rfl
  have f_r_2_w1 := x_r.frozen 2
  have c_r_3_w1 := x_r.cell (i := 3) rfl
  have f_r_3_w1 := x_r.frozen 3
  have c_r_4_w1 := x_r.cell (i := 4) rfl
  have f_r_4_w1 := x_r.frozen 4
  have c_r_5_w1 := x_r.cell (i := 5) rfl
  have f_r_5_w1 := x_r.frozen 5
  have c_r_6_w1 := x_r.cell (i := 6) rfl
  have f_r_6_w1 := x_r.frozen 6
  have c_r_7_w1 := x_r.cell (i := 7) rfl
  have f_r_7_w1 := x_r.frozen 7
  have c_r_8_w1 := x_r.cell (i := 8) rfl
  have f_r_8_w1 := x_r.frozen 8
  have c_x_0_w1 := x_x.cell (i := 0) rfl
  have f_x_0_w1 := x_x.frozen 0
  have c_x_1_w1 := x_x.cell (i := 1) rfl
  have f_x_1_w1 := x_x.frozen 1
  have c_x_2_w1 := x_x.cell (i := 2) rfl
  have f_x_2_w1 := x_x.frozen 2
  have c_x_3_w1 := x_x.cell (i := 3) rfl
  have f_x_3_w1 := x_x.frozen 3
  have c_x_4_w1 := x_x.cell (i := 4) rfl
  have f_x_4_w1 := x_x.frozen 4
  have c_x_5_w1 := x_x.cell (i := 5) rfl
  have f_x_5_w1 := x_x.frozen 5
  have c_x_6_w1 := x_x.cell (i := 6) rfl
  have f_x_6_w1 := x_x.frozen 6
  have c_x_7_w1 := x_x.cell (i := 7) rfl
  have f_x_7_w1 := x_x.frozen 7
  have c_x_8_w1 := x_x.cell (i := 8) rfl
  have f_x_8_w1 := x_x.frozen 8
  obtain ⟨zP, hP⟩ : ∃ z, placeB ⟨id, n, [], [], [], [], 0, 0, 0⟩ = z := ⟨_, rfl⟩
  have HP := Lib.hid hP
  have vp := hP
  unfold placeB at vp
  dsimp only at vp
  cases zP
  case false =>
    have HB0 : Hid (nodeNewB id n a = false) := by
      show _ = _
      unfold nodeNewB
      by_cases hN : inB n 1 4 = true
      · by_cases hA : inB a 1 3 = true
        · have bn := inB_true.1 hN; have ba := inB_true.1 hA
          obtain ⟨M, rfl⟩ : ∃ M : Nat, n = (M : Int) := ⟨n.toNat, by omega⟩
          rw [hN] at vp
          rw [show (M : Int).toNat = M from rfl, nodeMk_ok (by omega) (by omega)]
          rw [show inB id 0 ((M : Int) - 1) = false by simpa using vp]; simp
        · rw [show inB a 1 3 = false by simpa using hA]; rfl
      · rw [show inB n 1 4 = false by simpa using hN]; simp
    have HO : Hid (nodeNew id n a = nodeZ) := if_neg (by rw [HB0.out]; decide)
    clear hP vp
    go_enter Try.func15, Try.ntmps15
    go_wp2_with fail
    refine (iPlace_c (d := ⟨id, n, [], [], [], [], 0, 0, 0⟩) x_x).mono ?_
    rintro e w2 ⟨rfl, h_w2⟩
    clear c_r_0_wa f_r_0_wa c_r_1_wa f_r_1_wa c_r_2_wa f_r_2_wa c_r_3_wa f_r_3_wa c_r_4_wa f_r_4_wa c_r_5_wa f_r_5_wa c_r_6_wa f_r_6_wa c_r_7_wa f_r_7_wa c_r_8_wa f_r_8_wa i_w1_8 i_w1_7 i_w1_6 i_w1_5 i_w1_4 i_w1_3 i_w1_2 c_r_0_w1 f_r_0_w1 c_r_1_w1 f_r_1_w1 c_r_2_w1 f_r_2_w1 c_r_3_w1 f_r_3_w1 c_r_4_w1 f_r_4_w1 c_r_5_w1 f_r_5_w1 c_r_6_w1 f_r_6_w1 c_r_7_w1 f_r_7_w1 c_r_8_w1 f_r_8_w1 c_x_0_w1 f_x_0_w1 c_x_1_w1 f_x_1_w1 c_x_2_w1 f_x_2_w1 c_x_3_w1 f_x_3_w1 c_x_4_w1 f_x_4_w1 c_x_5_w1 f_x_5_w1 c_x_6_w1 f_x_6_w1 c_x_7_w1 f_x_7_w1 c_x_8_w1 f_x_8_w1
    replace x_r := x_r.from_ h_w2
    replace x_x := x_x.from_ h_w2
    have B_w2 := B_w1.trans (h_w2.mono B_w1.size)
    have s_w2 := h_w2.size
    rw [HP.out]
    have c_r_0_w2 := x_r.cell (i := 0) rfl
    have f_r_0_w2 := x_r.frozen 0
    have c_r_1_w2 := x_r.cell (i := 1) rfl
    have f_r_1_w2 := x_r.frozen 1
    have c_r_2_w2 := x_r.cell (i := 2) rfl
    have f_r_2_w2 := x_r.frozen 2
    have c_r_3_w2 := x_r.cell (i := 3) rfl
    have f_r_3_w2 := x_r.frozen 3
    have c_r_4_w2 := x_r.cell (i := 4) rfl
    have f_r_4_w2 := x_r.frozen 4
    have c_r_5_w2 := x_r.cell (i := 5) rfl
    have f_r_5_w2 := x_r.frozen 5
    have c_r_6_w2 := x_r.cell (i := 6) rfl
    have f_r_6_w2 := x_r.frozen 6
    have c_r_7_w2 := x_r.cell (i := 7) rfl
    have f_r_7_w2 := x_r.frozen 7
    have c_r_8_w2 := x_r.cell (i := 8) rfl
    have f_r_8_w2 := x_r.frozen 8
    have c_x_0_w2 := x_x.cell (i := 0) rfl
    have f_x_0_w2 := x_x.frozen 0
    have c_x_1_w2 := x_x.cell (i := 1) rfl
    have f_x_1_w2 := x_x.frozen 1
    have c_x_2_w2 := x_x.cell (i := 2) rfl
    have f_x_2_w2 := x_x.frozen 2
    have c_x_3_w2 := x_x.cell (i := 3) rfl
    have f_x_3_w2 := x_x.frozen 3
    have c_x_4_w2 := x_x.cell (i := 4) rfl
    have f_x_4_w2 := x_x.frozen 4
    have c_x_5_w2 := x_x.cell (i := 5) rfl
    have f_x_5_w2 := x_x.frozen 5
    have c_x_6_w2 := x_x.cell (i := 6) rfl
    have f_x_6_w2 := x_x.frozen 6
    have c_x_7_w2 := x_x.cell (i := 7) rfl
    have f_x_7_w2 := x_x.frozen 7
    have c_x_8_w2 := x_x.cell (i := 8) rfl
    have f_x_8_w2 := x_x.frozen 8
    have i_r_0_w2 := x_r.same (i := 0) rfl
    have i_r_1_w2 := x_r.same (i := 1) rfl
    have i_r_2_w2 := x_r.same (i := 2) rfl
    have i_r_3_w2 := x_r.same (i := 3) rfl
    have i_r_4_w2 := x_r.same (i := 4) rfl
    have i_r_5_w2 := x_r.same (i := 5) rfl
    have i_r_6_w2 := x_r.same (i := 6) rfl
    have i_r_7_w2 := x_r.same (i := 7) rfl
    have i_r_8_w2 := x_r.same (i := 8) rfl
    go_wp2
    refine ret_cell_tmp (by rfl) (by rfl) x_r Try.underlying34 sz_node (by rfl) ?_
    rw [HO.out, HB0.out]
    exact ⟨_, rfl, (ov_nodeZ (lo := w.heap.size) (by omega)).widen (Nat.le_refl _) (by omega) (Nat.le_refl _), B_w2⟩
  have vq : inB n 1 4 = true ∧ inB id 0 (n - 1) = true := by simpa using vp
  have bn := inB_true.1 vq.1
  have bi := inB_true.1 vq.2
  clear vp hP
  by_cases hA : inB a 1 3 = true
  case neg =>
    replace hA : inB a 1 3 = false := by simpa using hA
    have HB0 : Hid (nodeNewB id n a = false) := by show _ = _; unfold nodeNewB; rw [hA]; simp
    have HO : Hid (nodeNew id n a = nodeZ) := if_neg (by rw [HB0.out]; decide)
    have HA := Lib.hid hA
    clear hA vq
    go_enter Try.func15, Try.ntmps15
    go_wp2_with fail
    refine (iPlace_c (d := ⟨id, n, [], [], [], [], 0, 0, 0⟩) x_x).mono ?_
    rintro e w2 ⟨rfl, h_w2⟩
    clear c_r_0_wa f_r_0_wa c_r_1_wa f_r_1_wa c_r_2_wa f_r_2_wa c_r_3_wa f_r_3_wa c_r_4_wa f_r_4_wa c_r_5_wa f_r_5_wa c_r_6_wa f_r_6_wa c_r_7_wa f_r_7_wa c_r_8_wa f_r_8_wa i_w1_8 i_w1_7 i_w1_6 i_w1_5 i_w1_4 i_w1_3 i_w1_2 c_r_0_w1 f_r_0_w1 c_r_1_w1 f_r_1_w1 c_r_2_w1 f_r_2_w1 c_r_3_w1 f_r_3_w1 c_r_4_w1 f_r_4_w1 c_r_5_w1 f_r_5_w1 c_r_6_w1 f_r_6_w1 c_r_7_w1 f_r_7_w1 c_r_8_w1 f_r_8_w1 c_x_0_w1 f_x_0_w1 c_x_1_w1 f_x_1_w1 c_x_2_w1 f_x_2_w1 c_x_3_w1 f_x_3_w1 c_x_4_w1 f_x_4_w1 c_x_5_w1 f_x_5_w1 c_x_6_w1 f_x_6_w1 c_x_7_w1 f_x_7_w1 c_x_8_w1 f_x_8_w1
    replace x_r := x_r.from_ h_w2
    replace x_x := x_x.from_ h_w2
    have B_w2 := B_w1.trans (h_w2.mono B_w1.size)
    have s_w2 := h_w2.size
    rw [HP.out]
    have c_r_0_w2 := x_r.cell (i := 0) rfl
    have f_r_0_w2 := x_r.frozen 0
    have c_r_1_w2 := x_r.cell (i := 1) rfl
    have f_r_1_w2 := x_r.frozen 1
    have c_r_2_w2 := x_r.cell (i := 2) rfl
    have f_r_2_w2 := x_r.frozen 2
    have c_r_3_w2 := x_r.cell (i := 3) rfl
    have f_r_3_w2 := x_r.frozen 3
    have c_r_4_w2 := x_r.cell (i := 4) rfl
    have f_r_4_w2 := x_r.frozen 4
    have c_r_5_w2 := x_r.cell (i := 5) rfl
    have f_r_5_w2 := x_r.frozen 5
    have c_r_6_w2 := x_r.cell (i := 6) rfl
    have f_r_6_w2 := x_r.frozen 6
    have c_r_7_w2 := x_r.cell (i := 7) rfl
    have f_r_7_w2 := x_r.frozen 7
    have c_r_8_w2 := x_r.cell (i := 8) rfl
    have f_r_8_w2 := x_r.frozen 8
    have c_x_0_w2 := x_x.cell (i := 0) rfl
    have f_x_0_w2 := x_x.frozen 0
    have c_x_1_w2 := x_x.cell (i := 1) rfl
    have f_x_1_w2 := x_x.frozen 1
    have c_x_2_w2 := x_x.cell (i := 2) rfl
    have f_x_2_w2 := x_x.frozen 2
    have c_x_3_w2 := x_x.cell (i := 3) rfl
    have f_x_3_w2 := x_x.frozen 3
    have c_x_4_w2 := x_x.cell (i := 4) rfl
    have f_x_4_w2 := x_x.frozen 4
    have c_x_5_w2 := x_x.cell (i := 5) rfl
    have f_x_5_w2 := x_x.frozen 5
    have c_x_6_w2 := x_x.cell (i := 6) rfl
    have f_x_6_w2 := x_x.frozen 6
    have c_x_7_w2 := x_x.cell (i := 7) rfl
    have f_x_7_w2 := x_x.frozen 7
    have c_x_8_w2 := x_x.cell (i := 8) rfl
    have f_x_8_w2 := x_x.frozen 8
    have i_r_0_w2 := x_r.same (i := 0) rfl
    have i_r_1_w2 := x_r.same (i := 1) rfl
    have i_r_2_w2 := x_r.same (i := 2) rfl
    have i_r_3_w2 := x_r.same (i := 3) rfl
    have i_r_4_w2 := x_r.same (i := 4) rfl
    have i_r_5_w2 := x_r.same (i := 5) rfl
    have i_r_6_w2 := x_r.same (i := 6) rfl
    have i_r_7_w2 := x_r.same (i := 7) rfl
    have i_r_8_w2 := x_r.same (i := 8) rfl
    go_wp2_with fail
    refine (iAcctCount_any _ _).mono ?_
    rintro e w' ⟨rfl, rfl⟩
    rw [HA.out]
    go_wp2
    refine ret_cell_tmp (by rfl) (by rfl) x_r Try.underlying34 sz_node (by rfl) ?_
    rw [HO.out, HB0.out]
    exact ⟨_, rfl, (ov_nodeZ (lo := w.heap.size) (by omega)).widen (Nat.le_refl _) (by omega) (Nat.le_refl _), B_w2⟩
  have HA := Lib.hid hA
  have ba := inB_true.1 hA
  obtain ⟨K, rfl⟩ : ∃ K : Nat, a = (K : Int) := ⟨a.toNat, by omega⟩
  obtain ⟨M, rfl⟩ : ∃ M : Nat, n = (M : Int) := ⟨n.toNat, by omega⟩
  have HB0 : Hid (nodeNewB id (M : Int) (K : Int) = true) := by show _ = _; unfold nodeNewB; rw [hA, vq.1, show (M : Int).toNat = M from rfl, show (K : Int).toNat = K from rfl, nodeMk_ok (by omega) (by omega), vq.2]; rfl
  have HO : Hid (nodeNew id (M : Int) (K : Int) = nodeMk id M K) := by show _ = _; unfold nodeNew; rw [if_pos HB0.out]; rfl
  clear hA vq
  go_enter Try.func15, Try.ntmps15
  go_wp2_with fail
  refine (iPlace_c (d := ⟨id, (M : Int), [], [], [], [], 0, 0, 0⟩) x_x).mono ?_
  rintro e w2 ⟨rfl, h_w2⟩
  clear c_r_0_wa f_r_0_wa c_r_1_wa f_r_1_wa c_r_2_wa f_r_2_wa c_r_3_wa f_r_3_wa c_r_4_wa f_r_4_wa c_r_5_wa f_r_5_wa c_r_6_wa f_r_6_wa c_r_7_wa f_r_7_wa c_r_8_wa f_r_8_wa i_w1_8 i_w1_7 i_w1_6 i_w1_5 i_w1_4 i_w1_3 i_w1_2 c_r_0_w1 f_r_0_w1 c_r_1_w1 f_r_1_w1 c_r_2_w1 f_r_2_w1 c_r_3_w1 f_r_3_w1 c_r_4_w1 f_r_4_w1 c_r_5_w1 f_r_5_w1 c_r_6_w1 f_r_6_w1 c_r_7_w1 f_r_7_w1 c_r_8_w1 f_r_8_w1 c_x_0_w1 f_x_0_w1 c_x_1_w1 f_x_1_w1 c_x_2_w1 f_x_2_w1 c_x_3_w1 f_x_3_w1 c_x_4_w1 f_x_4_w1 c_x_5_w1 f_x_5_w1 c_x_6_w1 f_x_6_w1 c_x_7_w1 f_x_7_w1 c_x_8_w1 f_x_8_w1
  replace x_r := x_r.from_ h_w2
  replace x_x := x_x.from_ h_w2
  have B_w2 := B_w1.trans (h_w2.mono B_w1.size)
  have s_w2 := h_w2.size
  rw [HP.out]
  have c_r_0_w2 := x_r.cell (i := 0) rfl
  have f_r_0_w2 := x_r.frozen 0
  have c_r_1_w2 := x_r.cell (i := 1) rfl
  have f_r_1_w2 := x_r.frozen 1
  have c_r_2_w2 := x_r.cell (i := 2) rfl
  have f_r_2_w2 := x_r.frozen 2
  have c_r_3_w2 := x_r.cell (i := 3) rfl
  have f_r_3_w2 := x_r.frozen 3
  have c_r_4_w2 := x_r.cell (i := 4) rfl
  have f_r_4_w2 := x_r.frozen 4
  have c_r_5_w2 := x_r.cell (i := 5) rfl
  have f_r_5_w2 := x_r.frozen 5
  have c_r_6_w2 := x_r.cell (i := 6) rfl
  have f_r_6_w2 := x_r.frozen 6
  have c_r_7_w2 := x_r.cell (i := 7) rfl
  have f_r_7_w2 := x_r.frozen 7
  have c_r_8_w2 := x_r.cell (i := 8) rfl
  have f_r_8_w2 := x_r.frozen 8
  have c_x_0_w2 := x_x.cell (i := 0) rfl
  have f_x_0_w2 := x_x.frozen 0
  have c_x_1_w2 := x_x.cell (i := 1) rfl
  have f_x_1_w2 := x_x.frozen 1
  have c_x_2_w2 := x_x.cell (i := 2) rfl
  have f_x_2_w2 := x_x.frozen 2
  have c_x_3_w2 := x_x.cell (i := 3) rfl
  have f_x_3_w2 := x_x.frozen 3
  have c_x_4_w2 := x_x.cell (i := 4) rfl
  have f_x_4_w2 := x_x.frozen 4
  have c_x_5_w2 := x_x.cell (i := 5) rfl
  have f_x_5_w2 := x_x.frozen 5
  have c_x_6_w2 := x_x.cell (i := 6) rfl
  have f_x_6_w2 := x_x.frozen 6
  have c_x_7_w2 := x_x.cell (i := 7) rfl
  have f_x_7_w2 := x_x.frozen 7
  have c_x_8_w2 := x_x.cell (i := 8) rfl
  have f_x_8_w2 := x_x.frozen 8
  go_wp2_with fail
  refine (iAcctCount_any _ _).mono ?_
  rintro e w' ⟨rfl, rfl⟩
  rw [HA.out]
  go_wp2
  go_loopw [21] (fun s9 wr => ∃ (k : Nat) (G : List MAcct) (C : List MAcc) (AG AC : Option Addr) (cG cC l1 h1 l2 h2 : Nat), k ≤ K ∧ s9 = .int .i64 k ∧ Hid (G = List.replicate k acctZ ∧ C = List.replicate k accZ) ∧ Vr wr w.heap.size 34 [.int .i64 0, .int .i64 0, .slice none 0 0, .slice none 0 0, .slice none 0 0, .slice none 0 0, .int .i64 0, .int .i64 0, .int .i64 0] ∧ Vr wr (wa.heap.size) 34 [.int .i64 id, .int .i64 (M : Int), .slice AG G.length cG, .slice none 0 0, .slice none 0 0, .slice AC C.length cC, .int .i64 0, .int .i64 0, .int .i64 0] ∧ OV (sliceL 52 5 (nilL acctL)) wr l1 h1 (.slice AG G.length cG) G ∧ OV accSL wr l2 h2 (.slice AC C.length cC) C ∧ (wa.heap.size < l1 ∧ wa.heap.size < l2 ∧ (h1 ≤ l2 ∨ h2 ≤ l1) ∧ l1 ≤ wr.heap.size ∧ l2 ≤ wr.heap.size) ∧ Below w.heap.size w wr) (fun s9 _ => K - (intOf s9).toNat)
  case atStart => exact ⟨0, [], [], none, none, 0, 0, _, _, _, _, Nat.zero_le _, rfl, ⟨rfl, rfl⟩, x_r, x_x, ov_nil_any (Nat.le_refl _), ov_nil_any (Nat.le_refl _), ⟨by omega, by omega, .inl (Nat.le_refl _), Nat.le_refl _, Nat.le_refl _⟩, B_w2⟩
  case round =>
    clear c_r_0_w2 f_r_0_w2 c_r_1_w2 f_r_1_w2 c_r_2_w2 f_r_2_w2 c_r_3_w2 f_r_3_w2 c_r_4_w2 f_r_4_w2 c_r_5_w2 f_r_5_w2 c_r_6_w2 f_r_6_w2 c_r_7_w2 f_r_7_w2 c_r_8_w2 f_r_8_w2 c_x_0_w2 f_x_0_w2 c_x_1_w2 f_x_1_w2 c_x_2_w2 f_x_2_w2 c_x_3_w2 f_x_3_w2 c_x_4_w2 f_x_4_w2 c_x_5_w2 f_x_5_w2 c_x_6_w2 f_x_6_w2 c_x_7_w2 f_x_7_w2 c_x_8_w2 f_x_8_w2
    clear x_r x_x
    obtain ⟨k, G, C, AG, AC, cG, cC, l1, h1, l2, h2, hk, rfl, HG, x_r, x_x, oG, oC, hd, HB⟩ := hrel
    have hs := HB.size
    have lG : G.length ≤ 3 := by rw [HG.out.1]; simp; omega
    have lC : C.length ≤ 3 := by rw [HG.out.2]; simp; omega
    have e1 := oG.le_
    have e2 := oC.le_
    have lx := x_x.lt
    have c_r_0_wr := x_r.cell (i := 0) rfl
    have f_r_0_wr := x_r.frozen 0
    have c_r_1_wr := x_r.cell (i := 1) rfl
    have f_r_1_wr := x_r.frozen 1
    have c_r_2_wr := x_r.cell (i := 2) rfl
    have f_r_2_wr := x_r.frozen 2
    have c_r_3_wr := x_r.cell (i := 3) rfl
    have f_r_3_wr := x_r.frozen 3
    have c_r_4_wr := x_r.cell (i := 4) rfl
    have f_r_4_wr := x_r.frozen 4
    have c_r_5_wr := x_r.cell (i := 5) rfl
    have f_r_5_wr := x_r.frozen 5
    have c_r_6_wr := x_r.cell (i := 6) rfl
    have f_r_6_wr := x_r.frozen 6
    have c_r_7_wr := x_r.cell (i := 7) rfl
    have f_r_7_wr := x_r.frozen 7
    have c_r_8_wr := x_r.cell (i := 8) rfl
    have f_r_8_wr := x_r.frozen 8
    have c_x_0_wr := x_x.cell (i := 0) rfl
    have f_x_0_wr := x_x.frozen 0
    have c_x_1_wr := x_x.cell (i := 1) rfl
    have f_x_1_wr := x_x.frozen 1
    have c_x_2_wr := x_x.cell (i := 2) rfl
    have f_x_2_wr := x_x.frozen 2
    have c_x_3_wr := x_x.cell (i := 3) rfl
    have f_x_3_wr := x_x.frozen 3
    have c_x_4_wr := x_x.cell (i := 4) rfl
    have f_x_4_wr := x_x.frozen 4
    have c_x_5_wr := x_x.cell (i := 5) rfl
    have f_x_5_wr := x_x.frozen 5
    have c_x_6_wr := x_x.cell (i := 6) rfl
    have f_x_6_wr := x_x.frozen 6
    have c_x_7_wr := x_x.cell (i := 7) rfl
    have f_x_7_wr := x_x.frozen 7
    have c_x_8_wr := x_x.cell (i := 8) rfl
    have f_x_8_wr := x_x.frozen 8
    by_cases hlt : k < K
    case neg =>
      have hk2 : ¬ ((k : Int) < (K : Int)) := by omega
      have HGK : Hid (G = List.replicate K acctZ ∧ C = List.replicate K accZ) := by show _ ∧ _; rw [show K = k by omega]; exact HG.out
      clear HG
      go_wp2
      obtain ⟨zl, hzl⟩ : ∃ z, z = wr.heap.size := ⟨_, rfl⟩
      go_loopw [26] (fun s10 wr => ∃ (j : Nat) (O : List MOut) (I : List Int) (AO AI : Option Addr) (cO cI l3 h3 l4 h4 : Nat), j ≤ M ∧ s10 = .int .i64 j ∧ Hid (O = List.replicate j outNew ∧ I = List.replicate j 0) ∧ Vr wr w.heap.size 34 [.int .i64 0, .int .i64 0, .slice none 0 0, .slice none 0 0, .slice none 0 0, .slice none 0 0, .int .i64 0, .int .i64 0, .int .i64 0] ∧ Vr wr (wa.heap.size) 34 [.int .i64 id, .int .i64 (M : Int), .slice AG G.length cG, .slice AO O.length cO, .slice AI I.length cI, .slice AC C.length cC, .int .i64 0, .int .i64 0, .int .i64 0] ∧ OV (sliceL 52 5 (nilL acctL)) wr l1 h1 (.slice AG G.length cG) G ∧ OV accSL wr l2 h2 (.slice AC C.length cC) C ∧ OV (sliceL 59 2 (nilL outL)) wr l3 h3 (.slice AO O.length cO) O ∧ OS .i64 3 wr l4 h4 (.slice AI I.length cI) I ∧ (wa.heap.size < l1 ∧ wa.heap.size < l2 ∧ wa.heap.size < zl ∧ h1 ≤ zl ∧ h2 ≤ zl ∧ zl ≤ l3 ∧ zl ≤ l4 ∧ (h3 ≤ l4 ∨ h4 ≤ l3) ∧ l3 ≤ wr.heap.size ∧ l4 ≤ wr.heap.size) ∧ Below w.heap.size w wr) (fun s10 _ => M - (intOf s10).toNat)
      case atStart => exact ⟨0, [], [], none, none, 0, 0, _, _, _, _, Nat.zero_le _, rfl, ⟨rfl, rfl⟩, x_r, x_x, oG, oC, ov_nil_any (Nat.le_refl _), os_nil_any (Nat.le_refl _), ⟨by omega, by omega, by omega, by omega, by omega, by omega, by omega, .inl (Nat.le_refl _), Nat.le_refl _, Nat.le_refl _⟩, HB⟩
      case round =>
        clear c_r_0_wr f_r_0_wr c_r_1_wr f_r_1_wr c_r_2_wr f_r_2_wr c_r_3_wr f_r_3_wr c_r_4_wr f_r_4_wr c_r_5_wr f_r_5_wr c_r_6_wr f_r_6_wr c_r_7_wr f_r_7_wr c_r_8_wr f_r_8_wr c_x_0_wr f_x_0_wr c_x_1_wr f_x_1_wr c_x_2_wr f_x_2_wr c_x_3_wr f_x_3_wr c_x_4_wr f_x_4_wr c_x_5_wr f_x_5_wr c_x_6_wr f_x_6_wr c_x_7_wr f_x_7_wr c_x_8_wr f_x_8_wr
        clear x_r x_x oG oC HB hs e1 e2 lx hlt hk2
        obtain ⟨j, O, I, AO, AI, cO, cI, l3, h3, l4, h4, hj, rfl, HO1, x_r, x_x, oG, oC, oO, oI, hd2, HB⟩ := hrel
        have hs := HB.size
        have lO : O.length ≤ 4 := by rw [HO1.out.1]; simp; omega
        have lI : I.length ≤ 4 := by rw [HO1.out.2]; simp; omega
        have e1 := oG.le_
        have e2 := oC.le_
        have e3 := oO.le_
        have e4 := oI.2.2
        have lx := x_x.lt
        have lr := x_r.lt
        have c_r_0_wr := x_r.cell (i := 0) rfl
        have f_r_0_wr := x_r.frozen 0
        have c_r_1_wr := x_r.cell (i := 1) rfl
        have f_r_1_wr := x_r.frozen 1
        have c_r_2_wr := x_r.cell (i := 2) rfl
        have f_r_2_wr := x_r.frozen 2
        have c_r_3_wr := x_r.cell (i := 3) rfl
        have f_r_3_wr := x_r.frozen 3
        have c_r_4_wr := x_r.cell (i := 4) rfl
        have f_r_4_wr := x_r.frozen 4
        have c_r_5_wr := x_r.cell (i := 5) rfl
        have f_r_5_wr := x_r.frozen 5
        have c_r_6_wr := x_r.cell (i := 6) rfl
        have f_r_6_wr := x_r.frozen 6
        have c_r_7_wr := x_r.cell (i := 7) rfl
        have f_r_7_wr := x_r.frozen 7
        have c_r_8_wr := x_r.cell (i := 8) rfl
        have f_r_8_wr := x_r.frozen 8
        have c_x_0_wr := x_x.cell (i := 0) rfl
        have f_x_0_wr := x_x.frozen 0
        have c_x_1_wr := x_x.cell (i := 1) rfl
        have f_x_1_wr := x_x.frozen 1
        have c_x_2_wr := x_x.cell (i := 2) rfl
        have f_x_2_wr := x_x.frozen 2
        have c_x_3_wr := x_x.cell (i := 3) rfl
        have f_x_3_wr := x_x.frozen 3
        have c_x_4_wr := x_x.cell (i := 4) rfl
        have f_x_4_wr := x_x.frozen 4
        have c_x_5_wr := x_x.cell (i := 5) rfl
        have f_x_5_wr := x_x.frozen 5
        have c_x_6_wr := x_x.cell (i := 6) rfl
        have f_x_6_wr := x_x.frozen 6
        have c_x_7_wr := x_x.cell (i := 7) rfl
        have f_x_7_wr := x_x.frozen 7
        have c_x_8_wr := x_x.cell (i := 8) rfl
        have f_x_8_wr := x_x.frozen 8
        by_cases hlt : j < M
        case neg =>
          have hk2 : ¬ ((j : Int) < (M : Int)) := by omega
          have HX : Hid (nodeMk id M K = (⟨id, (M : Int), G, O, I, C, 0, 0, 0⟩ : MNode)) := by show _ = _; unfold nodeMk; rw [HGK.out.1, HGK.out.2, HO1.out.1, HO1.out.2, show j = M by omega]
          clear HO1
          have oX := ov_node (d := ⟨id, (M : Int), G, O, I, C, 0, 0, 0⟩) (lo := w1.heap.size) (hi := wr.heap.size) oG.ofNil oO.ofNil oI oC (by omega)
          obtain ⟨w31, e_w31, s_w31, h_w31, y⟩ := store_step x_r [.int .i64 id, .int .i64 (M : Int), .slice AG G.length cG, .slice AO O.length cO, .slice AI I.length cI, .slice AC C.length cC, .int .i64 0, .int .i64 0, .int .i64 0] rfl
          replace e_w31 : (((((((((wr.setCell ⟨w.heap.size, 0, none⟩ (.int .i64 id)).setCell ⟨w.heap.size, 1, none⟩ (.int .i64 (M : Int))).setCell ⟨w.heap.size, 2, none⟩ (.slice AG G.length cG)).setCell ⟨w.heap.size, 3, none⟩ (.slice AO O.length cO)).setCell ⟨w.heap.size, 4, none⟩ (.slice AI I.length cI)).setCell ⟨w.heap.size, 5, none⟩ (.slice AC C.length cC)).setCell ⟨w.heap.size, 6, none⟩ (.int .i64 0)).setCell ⟨w.heap.size, 7, none⟩ (.int .i64 0)).setCell ⟨w.heap.size, 8, none⟩ (.int .i64 0)) = w31 := e_w31
          have s_w31_1 := Nat.le_of_eq s_w31
          have s_w31_2 := Nat.le_of_eq s_w31.symm
          clear s_w31
          replace x_x := x_x.chg h_w31 (by omega)
          replace oX := oX.chg h_w31 (by omega)
          have B_w31 := Below.chg_ HB h_w31 (by omega) (by omega)
          replace x_r : Vr w31 (w.heap.size) 34 [.int .i64 id, .int .i64 (M : Int), .slice AG G.length cG, .slice AO O.length cO, .slice AI I.length cI, .slice AC C.length cC, .int .i64 0, .int .i64 0, .int .i64 0] := y
          clear y
          have c_r_0_w31 := x_r.cell (i := 0) rfl
          have f_r_0_w31 := x_r.frozen 0
          have c_r_1_w31 := x_r.cell (i := 1) rfl
          have f_r_1_w31 := x_r.frozen 1
          have c_r_2_w31 := x_r.cell (i := 2) rfl
          have f_r_2_w31 := x_r.frozen 2
          have c_r_3_w31 := x_r.cell (i := 3) rfl
          have f_r_3_w31 := x_r.frozen 3
          have c_r_4_w31 := x_r.cell (i := 4) rfl
          have f_r_4_w31 := x_r.frozen 4
          have c_r_5_w31 := x_r.cell (i := 5) rfl
          have f_r_5_w31 := x_r.frozen 5
          have c_r_6_w31 := x_r.cell (i := 6) rfl
          have f_r_6_w31 := x_r.frozen 6
          have c_r_7_w31 := x_r.cell (i := 7) rfl
          have f_r_7_w31 := x_r.frozen 7
          have c_r_8_w31 := x_r.cell (i := 8) rfl
          have f_r_8_w31 := x_r.frozen 8
          go_wp2
          refine ret_cell_tmp (by rfl) (by rfl) x_r Try.underlying34 sz_node (by rfl) ?_
          rw [HO.out, HB0.out, HX.out]
          exact ⟨_, rfl, oX.widen (by omega) (by omega) (Nat.le_refl _), B_w31⟩
        have j1 : (j : Int) < (M : Int) := by omega
        go_wp2_with fail
        refine (iOpenLink_c x_x oG oC oO oI hd2 lO lI).mono ?_
        rintro e w2 ⟨rfl, AO2, AI2, cO2, cI2, l5, h5, l6, h6, Y, Z, HYZ, x_y, oG2, oC2, oY, oZ, hd3, hbw⟩
        clear c_r_0_wr f_r_0_wr c_r_1_wr f_r_1_wr c_r_2_wr f_r_2_wr c_r_3_wr f_r_3_wr c_r_4_wr f_r_4_wr c_r_5_wr f_r_5_wr c_r_6_wr f_r_6_wr c_r_7_wr f_r_7_wr c_r_8_wr f_r_8_wr c_x_0_wr f_x_0_wr c_x_1_wr f_x_1_wr c_x_2_wr f_x_2_wr c_x_3_wr f_x_3_wr c_x_4_wr f_x_4_wr c_x_5_wr f_x_5_wr c_x_6_wr f_x_6_wr c_x_7_wr f_x_7_wr c_x_8_wr f_x_8_wr
        have x_r2 := x_r.lowB hbw (by omega)
        have B2 := HB.trans (hbw.mono (by omega))
        have HG2 : Hid (Y = List.replicate (j + 1) outNew ∧ Z = List.replicate (j + 1) 0) := by
          show _ ∧ _
          rw [HYZ.out.1, HYZ.out.2, HO1.out.1, HO1.out.2, List.replicate_succ', List.replicate_succ']; exact ⟨rfl, rfl⟩
        clear x_r x_x oG oC oO oI
        go_wp2
        go_roundw
        case rel => exact ⟨j + 1, Y, Z, AO2, AI2, cO2, cI2, l5, h5, l6, h6, by omega, by go_num, HG2, x_r2, x_y, oG2, oC2, oY, oZ, ⟨by omega, by omega, by omega, by omega, by omega, by omega, by omega, by omega, by omega, by omega⟩, B2⟩
        case measure => simp [intOf]; omega
    have j1 : (k : Int) < (K : Int) := by omega
    go_wp2_with fail
    refine (iOpenAcct_c x_x oG oC hd lG lC).mono ?_
    rintro e w2 ⟨rfl, AG2, AC2, cG2, cC2, l3, h3, l4, h4, Y, Z, HYZ, x_y, oY, oZ, hd3, hbw⟩
    clear c_r_0_wr f_r_0_wr c_r_1_wr f_r_1_wr c_r_2_wr f_r_2_wr c_r_3_wr f_r_3_wr c_r_4_wr f_r_4_wr c_r_5_wr f_r_5_wr c_r_6_wr f_r_6_wr c_r_7_wr f_r_7_wr c_r_8_wr f_r_8_wr c_x_0_wr f_x_0_wr c_x_1_wr f_x_1_wr c_x_2_wr f_x_2_wr c_x_3_wr f_x_3_wr c_x_4_wr f_x_4_wr c_x_5_wr f_x_5_wr c_x_6_wr f_x_6_wr c_x_7_wr f_x_7_wr c_x_8_wr f_x_8_wr
    have lr := x_r.lt
    have x_r2 := x_r.lowB hbw (by omega)
    have B2 := HB.trans (hbw.mono (by omega))
    have HG2 : Hid (Y = List.replicate (k + 1) acctZ ∧ Z = List.replicate (k + 1) accZ) := by
      show _ ∧ _
      rw [HYZ.out.1, HYZ.out.2, HG.out.1, HG.out.2, List.replicate_succ', List.replicate_succ']; exact ⟨rfl, rfl⟩
    clear x_r x_x oG oC
    go_wp2
    go_roundw
    case rel => exact ⟨k + 1, Y, Z, AG2, AC2, cG2, cC2, l3, h3, l4, h4, by omega, by go_num, HG2, x_r2, x_y, oY, oZ, hd3, B2⟩
    case measure => simp [intOf]; omega

end Go.Proofs.Ytdoipabfmekdlaa
