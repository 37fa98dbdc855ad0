/- Texts joined: RcK, RcK2, RSt, RcK3. -/
import Derived.Test.YtkbhbccpmmhelaaDoorZ5
import Derived.LoopN
import Derived.Deep.RegionWith
import Derived.StillTailTactics
import Derived.Deep.RegionHeld3
namespace Go.Proofs.YtkbhbccpmmhelaaDoor
open Go.RowKit
set_option linter.unusedVariables false
set_option linter.unusedSimpArgs false
def WS (w : World) (B : Nat) (v : Value) (ws : List ByteArray) : Prop := ∃ A c, v = .slice A ws.length c ∧ ws.length ≤ c ∧ c ≤ maxLen ∧ RdF Value.string ByteArray.empty w B A ws
section
variable {w w' : World} {B : Nat} {v : Value} {ws : List ByteArray}
theorem WS.keep (h : WS w B v ws) (hk : ∀ p : Addr, p.block < B → w'.cell? p = w.cell? p) : WS w' B v ws := by
  obtain ⟨A, c, rfl, h1, h2, hr⟩ := h
  exact ⟨A, c, rfl, h1, h2, hr.keep hk⟩
theorem WS.below (h : WS w B v ws) (hb : Below w.heap.size w w') (hB : B ≤ w.heap.size) : WS w' B v ws := h.keep fun p hp => hb.cell (Nat.lt_of_lt_of_le hp hB)
theorem WS.chg {a b : Nat} (h : WS w B v ws) (hc : Chg a b w w') (hB : B ≤ a) (hB2 : B ≤ w.heap.size) : WS w' B v ws := h.keep fun p hp => hc.cell_at (Nat.lt_of_lt_of_le hp hB2) (.inl (Nat.lt_of_lt_of_le hp hB))
theorem run_wdrop (A : Option Addr) (c n m : Nat) (z : Int) (hz : z = (n : Int)) (hn : n ≤ m) (W : World) : (Instr.slice 58 (.slice A m c) (some (.int .i64 z)) none none).run Tryd.prog W = .ok (.slice (if c = n then A else A.map (·.add (n * 1))) (m - n) (c - n)) W := by
  subst hz
  rw [run_slice_l W 58 A m c (by kernel_rfl) .i64 n (by omega) (by omega)]
  rw [show Tryd.prog.elem 58 = 9 by kernel_rfl, Tryd.sizeOf9]
  simp [Result.andThen, sliced]
theorem WS.drop {A : Option Addr} {c : Nat} (h : WS w B (.slice A ws.length c) ws) {n : Nat} (hn : n ≤ ws.length) : WS w B (.slice (if c = n then A else A.map (·.add (n * 1))) (ws.length - n) (c - n)) (ws.drop n) := by
  obtain ⟨A', c', he, h1, h2, hr⟩ := h
  injection he with e1 _ e3
  subst e1; subst e3
  refine ⟨_, c - n, by rw [List.length_drop], by rw [List.length_drop]; omega, by omega, fun h0 => ?_⟩
  rw [List.length_drop] at h0
  obtain ⟨b, off, rfl, hb, hc⟩ := hr (by omega)
  refine ⟨b, off + n, by rw [if_neg (by omega)]; simp [Addr.add], hb, fun j hj => ?_⟩
  rw [List.length_drop] at hj
  have := hc (n + j) (by omega)
  rw [show off + n + j = off + (n + j) by omega, this]
  simp [List.getD_eq_getElem?_getD, List.getElem?_drop]
end
def okN (ws : List ByteArray) (n : Nat) : Bool := decide (n ≤ ws.length) && (List.range n).all fun j => (textNum (ws.getD j ByteArray.empty)).isSome
theorem okN_iff (ws : List ByteArray) (n : Nat) : okN ws n = true ↔ n ≤ ws.length ∧ ∀ j, j < n → (textNum (ws.getD j ByteArray.empty)).isSome = true := by
  unfold okN
  simp [List.all_eq_true]
theorem okN_short {ws : List ByteArray} {n : Nat} (h : ¬ n ≤ ws.length) : okN ws n = false := by
  cases e : okN ws n with
  | false => rfl
  | true => exact absurd ((okN_iff ws n).1 e).1 h
theorem okN_bad {ws : List ByteArray} {n j : Nat} (hj : j < n) (h : (textNum (ws.getD j ByteArray.empty)).isSome = false) : okN ws n = false := by
  cases e : okN ws n with
  | false => rfl
  | true => have := ((okN_iff ws n).1 e).2 j hj; rw [h] at this; cases this
set_option maxHeartbeats 2000000 in
theorem iKindR_c (x : ByteArray) (w : World) : Calls Tryd.prog 26 #[.string x, .int .i64 9, .func (.func 12) #[] #[]] w fun e w' => e = .returned (.int .i64 (kindTo x 9)) ∧ Below w.heap.size w w' := by
  have eg : ∀ args w, (callFunc 12 args).run Tryd.prog w = .ok (.enter 12 args) w := enters_of Tryd.func12 (by kernel_rfl) rfl
  go_enter Tryd.func26, Tryd.ntmps26
  go_wp2
  go_loopw [7] (fun i wr => ∃ k : Nat, 1 ≤ k ∧ k ≤ 10 ∧ i = .int .i64 k ∧ Hid (∀ j : Nat, 1 ≤ j → j < k → rkName j ≠ x) ∧ Below w.heap.size w wr) (fun i _ => 10 - (intOf i).toNat)
  case atStart => exact ⟨1, by omega, by omega, rfl, fun j h1 h2 => by omega, Below.refl _ _⟩
  case round =>
    obtain ⟨k, hk1, hk2, rfl, HT, HB⟩ := hrel
    by_cases hlt : (k : Int) ≤ 9
    · obtain ⟨y, hy⟩ : ∃ y, rkName (k : Int) = y := ⟨_, rfl⟩
      have HY := Lib.hid hy
      clear hy
      by_cases hxy : y = x
      · obtain rfl := hxy
        have he : (y.toList == y.toList) = true := by simp
        clear he
        go_wp2_with fail
        refine (iRkName_c _ _).mono ?_
        rintro e w' ⟨rfl, hb⟩
        rw [HY.out]
        go_wp2
        go_ret
        exact ⟨ret_eq (by have := kindTo_name (k := k) (by omega); rw [HY.out] at this; rw [this]; rfl), HB.trans (hb.mono HB.size)⟩
      · have hne : (y.toList == x.toList) = false := by rw [str_same]; simpa using hxy
        go_wp2_with fail
        refine (iRkName_c _ _).mono ?_
        rintro e w' ⟨rfl, hb⟩
        rw [HY.out]
        go_wp2
        go_roundw
        case rel => exact ⟨k + 1, by omega, by omega, by go_num, (fun j h1 h2 => by
          by_cases e : j = k
          · subst e; rw [HY.out]; exact hxy
          · exact HT.out j h1 (by omega)), HB.trans (hb.mono HB.size)⟩
        case measure => simp [intOf]; omega
    · have HO : Hid (kindTo x 9 = 0) := by
        show _ = _
        have hr := kindTo_range x 9
        rcases Int.lt_or_le 0 (kindTo x 9) with h | h
        · exfalso
          have hb := kindTo_back (x := x) 9 (by omega)
          refine HT.out (kindTo x 9).toNat (by omega) (by omega) ?_
          rw [show (((kindTo x 9).toNat : Nat) : Int) = kindTo x 9 by omega]
          exact hb
        · omega
      go_wp2
      go_ret
      exact ⟨ret_eq (by rw [HO.out]; rfl), HB⟩
set_option maxHeartbeats 2000000 in
theorem iKindM_c (x : ByteArray) (w : World) : Calls Tryd.prog 26 #[.string x, .int .i64 5, .func (.func 60) #[] #[]] w fun e w' => e = .returned (.int .i64 (mkindTo x 5)) ∧ Below w.heap.size w w' := by
  have eg : ∀ args w, (callFunc 60 args).run Tryd.prog w = .ok (.enter 60 args) w := enters_of Tryd.func60 (by kernel_rfl) rfl
  go_enter Tryd.func26, Tryd.ntmps26
  go_wp2
  go_loopw [7] (fun i wr => ∃ k : Nat, 1 ≤ k ∧ k ≤ 6 ∧ i = .int .i64 k ∧ Hid (∀ j : Nat, 1 ≤ j → j < k → msgName j ≠ x) ∧ Below w.heap.size w wr) (fun i _ => 6 - (intOf i).toNat)
  case atStart => exact ⟨1, by omega, by omega, rfl, fun j h1 h2 => by omega, Below.refl _ _⟩
  case round =>
    obtain ⟨k, hk1, hk2, rfl, HT, HB⟩ := hrel
    by_cases hlt : (k : Int) ≤ 5
    · obtain ⟨y, hy⟩ : ∃ y, msgName (k : Int) = y := ⟨_, rfl⟩
      have HY := Lib.hid hy
      clear hy
      by_cases hxy : y = x
      · obtain rfl := hxy
        have he : (y.toList == y.toList) = true := by simp
        clear he
        go_wp2_with fail
        refine (iMsgName_c _ _).mono ?_
        rintro e w' ⟨rfl, hb⟩
        rw [HY.out]
        go_wp2
        go_ret
        exact ⟨ret_eq (by have := mkindTo_name (k := k) (by omega); rw [HY.out] at this; rw [this]; rfl), HB.trans (hb.mono HB.size)⟩
      · have hne : (y.toList == x.toList) = false := by rw [str_same]; simpa using hxy
        go_wp2_with fail
        refine (iMsgName_c _ _).mono ?_
        rintro e w' ⟨rfl, hb⟩
        rw [HY.out]
        go_wp2
        go_roundw
        case rel => exact ⟨k + 1, by omega, by omega, by go_num, (fun j h1 h2 => by
          by_cases e : j = k
          · subst e; rw [HY.out]; exact hxy
          · exact HT.out j h1 (by omega)), HB.trans (hb.mono HB.size)⟩
        case measure => simp [intOf]; omega
    · have HO : Hid (mkindTo x 5 = 0) := by
        show _ = _
        have hr := mkindTo_range x 5
        rcases Int.lt_or_le 0 (mkindTo x 5) with h | h
        · exfalso
          have hb := mkindTo_back (x := x) 5 (by omega)
          refine HT.out (mkindTo x 5).toNat (by omega) (by omega) ?_
          rw [show (((mkindTo x 5).toNat : Nat) : Int) = mkindTo x 5 by omega]
          exact hb
        · omega
      go_wp2
      go_ret
      exact ⟨ret_eq (by rw [HO.out]; rfl), HB⟩
set_option maxRecDepth 100000 in
set_option maxHeartbeats 4000000 in
theorem iRead_acctAmt {W0 w : World} (ht : Tab10 W0) (hW : Below W0.heap.size W0 w) {b B B0 : Nat} {T U : TypeId} {z0 z1 z2 z3 z4 z5 z6 z7 z8 v : Value} {ws : List ByteArray} (h0 : W0.heap.size ≤ b) (hB0 : B0 ≤ b) (x_r : Vr w b T [z0, z1, z2, z3, z4, z5, z6, z7, z8]) (x_l : Vr w B U [.pointer (some ⟨b, 1, none⟩), .pointer (some ⟨b, 4, none⟩)]) (hbB : b < B) (h : WS w B0 v ws) (hz : ∀ x ∈ ws, x.size ≤ 1048576) (hm : ws.length ≤ 16777216) :
    Calls Tryd.prog 27 #[v, .slice (some ⟨B, 0, none⟩) 2 2] w fun e w' => ∃ v' ok, e = .returned (.tuple #[v', .bool ok]) ∧ ((ok = true ∧ okN ws 2 = true ∧ Vr w' b T [z0, .int .i64 (txN (ws.getD 0 ByteArray.empty)), z2, z3, .int .i64 (txN (ws.getD 1 ByteArray.empty)), z5, z6, z7, z8] ∧ WS w' B0 v' (ws.drop 2)) ∨ (ok = false ∧ okN ws 2 = false ∧ v' = .slice none 0 0 ∧ ∃ cs, Vr w' b T cs)) ∧ Chg b (b + 1) w w' := by
  have C0 : Chg b (b + 1) w w := Chg.refl _ _ _
  have lb := x_r.lt
  have lB := x_l.lt
  obtain ⟨A, c, rfl, hc1, hc2, hr⟩ := h
  by_cases hn : 2 ≤ ws.length
  case neg =>
    have i1 : (ws.length : Int) < 2 := by omega
    go_enter Tryd.func27, Tryd.ntmps27
    go_wp2
    go_ret2
    exact ⟨_, _, rfl, .inr ⟨rfl, okN_short hn, rfl, _, x_r⟩, C0⟩
  have i1 : ¬ ((ws.length : Int) < 2) := by omega
  have hdr := run_wdrop A c 2 ws.length 2 rfl hn
  have hWS : WS w B0 (.slice A ws.length c) ws := ⟨A, c, rfl, hc1, hc2, hr⟩
  obtain ⟨g, off, hA, hg, hcell⟩ := hr (by omega)
  clear hr
  obtain ⟨y0, hy0⟩ : ∃ y, ws.getD 0 ByteArray.empty = y := ⟨_, rfl⟩
  have zy0 : y0.size ≤ 1073741824 := by rw [← hy0]; exact Nat.le_trans (getD_sz hz 0) (by omega)
  have e0 := hcell 0 (by omega)
  rw [hy0] at e0
  have HY0 := Lib.hid hy0
  have l0 : (0 : Int) < (ws.length : Int) := by omega
  obtain ⟨y1, hy1⟩ : ∃ y, ws.getD 1 ByteArray.empty = y := ⟨_, rfl⟩
  have zy1 : y1.size ≤ 1073741824 := by rw [← hy1]; exact Nat.le_trans (getD_sz hz 1) (by omega)
  have e1 := hcell 1 (by omega)
  rw [hy1] at e1
  have HY1 := Lib.hid hy1
  have l1 : (1 : Int) < (ws.length : Int) := by omega
  clear hcell hy0 hy1
  have hgw : g < w.heap.size := by omega
  simp only [Nat.add_zero] at e0
  generalize hdX : (if c = 2 then A else A.map (·.add (2 * 1))) = X at hdr
  have HX := Lib.hid hdX
  clear hdX
  have HAe := Lib.hid hA
  subst hA
  have c_r_0_w := x_r.cell (i := 0) rfl
  have f_r_0_w := x_r.frozen 0
  have c_r_1_w := x_r.cell (i := 1) rfl
  have f_r_1_w := x_r.frozen 1
  have c_r_2_w := x_r.cell (i := 2) rfl
  have f_r_2_w := x_r.frozen 2
  have c_r_3_w := x_r.cell (i := 3) rfl
  have f_r_3_w := x_r.frozen 3
  have c_r_4_w := x_r.cell (i := 4) rfl
  have f_r_4_w := x_r.frozen 4
  have c_r_5_w := x_r.cell (i := 5) rfl
  have f_r_5_w := x_r.frozen 5
  have c_r_6_w := x_r.cell (i := 6) rfl
  have f_r_6_w := x_r.frozen 6
  have c_r_7_w := x_r.cell (i := 7) rfl
  have f_r_7_w := x_r.frozen 7
  have c_r_8_w := x_r.cell (i := 8) rfl
  have f_r_8_w := x_r.frozen 8
  have c_l_0_w := x_l.cell (i := 0) rfl
  have f_l_0_w := x_l.frozen 0
  have c_l_1_w := x_l.cell (i := 1) rfl
  have f_l_1_w := x_l.frozen 1
  go_enter Tryd.func27, Tryd.ntmps27
  go_wp2_with fail
  refine wp_loop_rounds 3 ?_
  obtain ⟨ob0, hb0⟩ : ∃ b, (textNum y0).isSome = b := ⟨_, rfl⟩
  have HB0 := Lib.hid hb0
  clear hb0
  obtain ⟨n0, hn0⟩ : ∃ z, txN y0 = z := ⟨_, rfl⟩
  have HN0 := Lib.hid hn0
  clear hn0
  clear c_r_0_w f_r_0_w c_r_1_w f_r_1_w c_r_2_w f_r_2_w c_r_3_w f_r_3_w c_r_4_w f_r_4_w c_r_5_w f_r_5_w c_r_6_w f_r_6_w c_r_7_w f_r_7_w c_r_8_w f_r_8_w c_l_0_w f_l_0_w c_l_1_w f_l_1_w
  have c_r_0_w := x_r.cell (i := 0) rfl
  have f_r_0_w := x_r.frozen 0
  have c_r_1_w := x_r.cell (i := 1) rfl
  have f_r_1_w := x_r.frozen 1
  have c_r_2_w := x_r.cell (i := 2) rfl
  have f_r_2_w := x_r.frozen 2
  have c_r_3_w := x_r.cell (i := 3) rfl
  have f_r_3_w := x_r.frozen 3
  have c_r_4_w := x_r.cell (i := 4) rfl
  have f_r_4_w := x_r.frozen 4
  have c_r_5_w := x_r.cell (i := 5) rfl
  have f_r_5_w := x_r.frozen 5
  have c_r_6_w := x_r.cell (i := 6) rfl
  have f_r_6_w := x_r.frozen 6
  have c_r_7_w := x_r.cell (i := 7) rfl
  have f_r_7_w := x_r.frozen 7
  have c_r_8_w := x_r.cell (i := 8) rfl
  have f_r_8_w := x_r.frozen 8
  have c_l_0_w := x_l.cell (i := 0) rfl
  have f_l_0_w := x_l.frozen 0
  have c_l_1_w := x_l.cell (i := 1) rfl
  have f_l_1_w := x_l.frozen 1
  rw [rounds_succ]
  go_wp2_with fail
  refine (iTextNum_any _ _ (ht.below hW) zy0).mono ?_
  rintro e w1 ⟨rfl, h_w1⟩
  clear c_r_0_w f_r_0_w c_r_1_w f_r_1_w c_r_2_w f_r_2_w c_r_3_w f_r_3_w c_r_4_w f_r_4_w c_r_5_w f_r_5_w c_r_6_w f_r_6_w c_r_7_w f_r_7_w c_r_8_w f_r_8_w c_l_0_w f_l_0_w c_l_1_w f_l_1_w
  replace x_r := x_r.from_ h_w1
  replace x_l := x_l.from_ h_w1
  have B_w1 := hW.trans (h_w1.mono hW.size)
  have s_w1 := h_w1.size
  have C_w1 := C0.then_below h_w1
  rw [textVal_txN, HB0.out, HN0.out]
  replace e0 := (h_w1.cell (p := ⟨g, off, none⟩) (by show g < _; omega)).trans e0
  replace e1 := (h_w1.cell (p := ⟨g, off + 1, none⟩) (by show g < _; omega)).trans e1
  replace hWS := hWS.below h_w1 (by omega)
  cases ob0 with
  | false =>
    go_wp2
    go_ret2
    exact ⟨_, _, rfl, .inr ⟨rfl, okN_bad (j := 0) (by omega) (by rw [HY0.out]; exact HB0.out), rfl, _, x_r⟩, C_w1⟩
  | true =>
    have c_r_0_w1 := x_r.cell (i := 0) rfl
    have f_r_0_w1 := x_r.frozen 0
    have c_r_1_w1 := x_r.cell (i := 1) rfl
    have f_r_1_w1 := x_r.frozen 1
    have c_r_2_w1 := x_r.cell (i := 2) rfl
    have f_r_2_w1 := x_r.frozen 2
    have c_r_3_w1 := x_r.cell (i := 3) rfl
    have f_r_3_w1 := x_r.frozen 3
    have c_r_4_w1 := x_r.cell (i := 4) rfl
    have f_r_4_w1 := x_r.frozen 4
    have c_r_5_w1 := x_r.cell (i := 5) rfl
    have f_r_5_w1 := x_r.frozen 5
    have c_r_6_w1 := x_r.cell (i := 6) rfl
    have f_r_6_w1 := x_r.frozen 6
    have c_r_7_w1 := x_r.cell (i := 7) rfl
    have f_r_7_w1 := x_r.frozen 7
    have c_r_8_w1 := x_r.cell (i := 8) rfl
    have f_r_8_w1 := x_r.frozen 8
    have c_l_0_w1 := x_l.cell (i := 0) rfl
    have f_l_0_w1 := x_l.frozen 0
    have c_l_1_w1 := x_l.cell (i := 1) rfl
    have f_l_1_w1 := x_l.frozen 1
    obtain ⟨w2, e_w2, s_w2, h_w2, y⟩ := set_step x_r 1 (.int .i64 n0)
    have s_w2_1 := Nat.le_of_eq s_w2
    have s_w2_2 := Nat.le_of_eq s_w2.symm
    clear s_w2
    replace x_l := x_l.chg h_w2 (by omega)
    have B_w2 := Below.chg_ B_w1 h_w2 (by omega) (by omega)
    have C_w2 := C_w1.then_same h_w2
    replace x_r : Vr w2 (b) T [z0, .int .i64 n0, z2, z3, z4, z5, z6, z7, z8] := y
    clear y
    have c_r_0_w2 := x_r.cell (i := 0) rfl
    have f_r_0_w2 := x_r.frozen 0
    have c_r_1_w2 := x_r.cell (i := 1) rfl
    have f_r_1_w2 := x_r.frozen 1
    have c_r_2_w2 := x_r.cell (i := 2) rfl
    have f_r_2_w2 := x_r.frozen 2
    have c_r_3_w2 := x_r.cell (i := 3) rfl
    have f_r_3_w2 := x_r.frozen 3
    have c_r_4_w2 := x_r.cell (i := 4) rfl
    have f_r_4_w2 := x_r.frozen 4
    have c_r_5_w2 := x_r.cell (i := 5) rfl
    have f_r_5_w2 := x_r.frozen 5
    have c_r_6_w2 := x_r.cell (i := 6) rfl
    have f_r_6_w2 := x_r.frozen 6
    have c_r_7_w2 := x_r.cell (i := 7) rfl
    have f_r_7_w2 := x_r.frozen 7
    have c_r_8_w2 := x_r.cell (i := 8) rfl
    have f_r_8_w2 := x_r.frozen 8
    have c_l_0_w2 := x_l.cell (i := 0) rfl
    have f_l_0_w2 := x_l.frozen 0
    have c_l_1_w2 := x_l.cell (i := 1) rfl
    have f_l_1_w2 := x_l.frozen 1
    replace e0 := (h_w2.cell_at (p := ⟨g, off, none⟩) (by show g < _; omega) (.inl (by show g < b; omega))).trans e0
    replace e1 := (h_w2.cell_at (p := ⟨g, off + 1, none⟩) (by show g < _; omega) (.inl (by show g < b; omega))).trans e1
    replace hWS := hWS.chg h_w2 hB0 (by omega)
    go_wp2_with fail
    obtain ⟨ob1, hb1⟩ : ∃ b, (textNum y1).isSome = b := ⟨_, rfl⟩
    have HB1 := Lib.hid hb1
    clear hb1
    obtain ⟨n1, hn1⟩ : ∃ z, txN y1 = z := ⟨_, rfl⟩
    have HN1 := Lib.hid hn1
    clear hn1
    clear c_r_0_w1 f_r_0_w1 c_r_1_w1 f_r_1_w1 c_r_2_w1 f_r_2_w1 c_r_3_w1 f_r_3_w1 c_r_4_w1 f_r_4_w1 c_r_5_w1 f_r_5_w1 c_r_6_w1 f_r_6_w1 c_r_7_w1 f_r_7_w1 c_r_8_w1 f_r_8_w1 c_l_0_w1 f_l_0_w1 c_l_1_w1 f_l_1_w1 c_r_0_w2 f_r_0_w2 c_r_1_w2 f_r_1_w2 c_r_2_w2 f_r_2_w2 c_r_3_w2 f_r_3_w2 c_r_4_w2 f_r_4_w2 c_r_5_w2 f_r_5_w2 c_r_6_w2 f_r_6_w2 c_r_7_w2 f_r_7_w2 c_r_8_w2 f_r_8_w2 c_l_0_w2 f_l_0_w2 c_l_1_w2 f_l_1_w2
    have c_r_0_w2 := x_r.cell (i := 0) rfl
    have f_r_0_w2 := x_r.frozen 0
    have c_r_1_w2 := x_r.cell (i := 1) rfl
    have f_r_1_w2 := x_r.frozen 1
    have c_r_2_w2 := x_r.cell (i := 2) rfl
    have f_r_2_w2 := x_r.frozen 2
    have c_r_3_w2 := x_r.cell (i := 3) rfl
    have f_r_3_w2 := x_r.frozen 3
    have c_r_4_w2 := x_r.cell (i := 4) rfl
    have f_r_4_w2 := x_r.frozen 4
    have c_r_5_w2 := x_r.cell (i := 5) rfl
    have f_r_5_w2 := x_r.frozen 5
    have c_r_6_w2 := x_r.cell (i := 6) rfl
    have f_r_6_w2 := x_r.frozen 6
    have c_r_7_w2 := x_r.cell (i := 7) rfl
    have f_r_7_w2 := x_r.frozen 7
    have c_r_8_w2 := x_r.cell (i := 8) rfl
    have f_r_8_w2 := x_r.frozen 8
    have c_l_0_w2 := x_l.cell (i := 0) rfl
    have f_l_0_w2 := x_l.frozen 0
    have c_l_1_w2 := x_l.cell (i := 1) rfl
    have f_l_1_w2 := x_l.frozen 1
    rw [rounds_succ]
    go_wp2_with fail
    refine (iTextNum_any _ _ (ht.below B_w2) zy1).mono ?_
    rintro e w3 ⟨rfl, h_w3⟩
    clear c_r_0_w2 f_r_0_w2 c_r_1_w2 f_r_1_w2 c_r_2_w2 f_r_2_w2 c_r_3_w2 f_r_3_w2 c_r_4_w2 f_r_4_w2 c_r_5_w2 f_r_5_w2 c_r_6_w2 f_r_6_w2 c_r_7_w2 f_r_7_w2 c_r_8_w2 f_r_8_w2 c_l_0_w2 f_l_0_w2 c_l_1_w2 f_l_1_w2
    replace x_r := x_r.from_ h_w3
    replace x_l := x_l.from_ h_w3
    have B_w3 := B_w2.trans (h_w3.mono B_w2.size)
    have s_w3 := h_w3.size
    have C_w3 := C_w2.then_below h_w3
    rw [textVal_txN, HB1.out, HN1.out]
    replace e0 := (h_w3.cell (p := ⟨g, off, none⟩) (by show g < _; omega)).trans e0
    replace e1 := (h_w3.cell (p := ⟨g, off + 1, none⟩) (by show g < _; omega)).trans e1
    replace hWS := hWS.below h_w3 (by omega)
    cases ob1 with
    | false =>
      go_wp2
      go_ret2
      exact ⟨_, _, rfl, .inr ⟨rfl, okN_bad (j := 1) (by omega) (by rw [HY1.out]; exact HB1.out), rfl, _, x_r⟩, C_w3⟩
    | true =>
      have c_r_0_w3 := x_r.cell (i := 0) rfl
      have f_r_0_w3 := x_r.frozen 0
      have c_r_1_w3 := x_r.cell (i := 1) rfl
      have f_r_1_w3 := x_r.frozen 1
      have c_r_2_w3 := x_r.cell (i := 2) rfl
      have f_r_2_w3 := x_r.frozen 2
      have c_r_3_w3 := x_r.cell (i := 3) rfl
      have f_r_3_w3 := x_r.frozen 3
      have c_r_4_w3 := x_r.cell (i := 4) rfl
      have f_r_4_w3 := x_r.frozen 4
      have c_r_5_w3 := x_r.cell (i := 5) rfl
      have f_r_5_w3 := x_r.frozen 5
      have c_r_6_w3 := x_r.cell (i := 6) rfl
      have f_r_6_w3 := x_r.frozen 6
      have c_r_7_w3 := x_r.cell (i := 7) rfl
      have f_r_7_w3 := x_r.frozen 7
      have c_r_8_w3 := x_r.cell (i := 8) rfl
      have f_r_8_w3 := x_r.frozen 8
      have c_l_0_w3 := x_l.cell (i := 0) rfl
      have f_l_0_w3 := x_l.frozen 0
      have c_l_1_w3 := x_l.cell (i := 1) rfl
      have f_l_1_w3 := x_l.frozen 1
      obtain ⟨w4, e_w4, s_w4, h_w4, y⟩ := set_step x_r 4 (.int .i64 n1)
      have s_w4_1 := Nat.le_of_eq s_w4
      have s_w4_2 := Nat.le_of_eq s_w4.symm
      clear s_w4
      replace x_l := x_l.chg h_w4 (by omega)
      have B_w4 := Below.chg_ B_w3 h_w4 (by omega) (by omega)
      have C_w4 := C_w3.then_same h_w4
      replace x_r : Vr w4 (b) T [z0, .int .i64 n0, z2, z3, .int .i64 n1, z5, z6, z7, z8] := y
      clear y
      have c_r_0_w4 := x_r.cell (i := 0) rfl
      have f_r_0_w4 := x_r.frozen 0
      have c_r_1_w4 := x_r.cell (i := 1) rfl
      have f_r_1_w4 := x_r.frozen 1
      have c_r_2_w4 := x_r.cell (i := 2) rfl
      have f_r_2_w4 := x_r.frozen 2
      have c_r_3_w4 := x_r.cell (i := 3) rfl
      have f_r_3_w4 := x_r.frozen 3
      have c_r_4_w4 := x_r.cell (i := 4) rfl
      have f_r_4_w4 := x_r.frozen 4
      have c_r_5_w4 := x_r.cell (i := 5) rfl
      have f_r_5_w4 := x_r.frozen 5
      have c_r_6_w4 := x_r.cell (i := 6) rfl
      have f_r_6_w4 := x_r.frozen 6
      have c_r_7_w4 := x_r.cell (i := 7) rfl
      have f_r_7_w4 := x_r.frozen 7
      have c_r_8_w4 := x_r.cell (i := 8) rfl
      have f_r_8_w4 := x_r.frozen 8
      have c_l_0_w4 := x_l.cell (i := 0) rfl
      have f_l_0_w4 := x_l.frozen 0
      have c_l_1_w4 := x_l.cell (i := 1) rfl
      have f_l_1_w4 := x_l.frozen 1
      replace e0 := (h_w4.cell_at (p := ⟨g, off, none⟩) (by show g < _; omega) (.inl (by show g < b; omega))).trans e0
      replace e1 := (h_w4.cell_at (p := ⟨g, off + 1, none⟩) (by show g < _; omega) (.inl (by show g < b; omega))).trans e1
      replace hWS := hWS.chg h_w4 hB0 (by omega)
      go_wp2_with fail
      rw [rounds_succ]
      go_wp2
      go_ret2
      refine ⟨_, _, rfl, .inl ⟨rfl, (okN_iff ws 2).2 ⟨hn, fun j hj => ?_⟩, ?_, ?_⟩, C_w4⟩
      · have hj2 : j = 0 ∨ j = 1 := by omega
        rcases hj2 with rfl | rfl
        · rw [HY0.out]; exact HB0.out
        · rw [HY1.out]; exact HB1.out
      · rw [HY0.out, HN0.out, HY1.out, HN1.out]; exact x_r
      · rw [← HX.out]; exact hWS.drop hn
set_option maxRecDepth 100000 in
set_option maxHeartbeats 4000000 in
theorem iRead_acctTo {W0 w : World} (ht : Tab10 W0) (hW : Below W0.heap.size W0 w) {b B B0 : Nat} {T U : TypeId} {z0 z1 z2 z3 z4 z5 z6 z7 z8 v : Value} {ws : List ByteArray} (h0 : W0.heap.size ≤ b) (hB0 : B0 ≤ b) (x_r : Vr w b T [z0, z1, z2, z3, z4, z5, z6, z7, z8]) (x_l : Vr w B U [.pointer (some ⟨b, 1, none⟩), .pointer (some ⟨b, 3, none⟩)]) (hbB : b < B) (h : WS w B0 v ws) (hz : ∀ x ∈ ws, x.size ≤ 1048576) (hm : ws.length ≤ 16777216) :
    Calls Tryd.prog 27 #[v, .slice (some ⟨B, 0, none⟩) 2 2] w fun e w' => ∃ v' ok, e = .returned (.tuple #[v', .bool ok]) ∧ ((ok = true ∧ okN ws 2 = true ∧ Vr w' b T [z0, .int .i64 (txN (ws.getD 0 ByteArray.empty)), z2, .int .i64 (txN (ws.getD 1 ByteArray.empty)), z4, z5, z6, z7, z8] ∧ WS w' B0 v' (ws.drop 2)) ∨ (ok = false ∧ okN ws 2 = false ∧ v' = .slice none 0 0 ∧ ∃ cs, Vr w' b T cs)) ∧ Chg b (b + 1) w w' := by
  have C0 : Chg b (b + 1) w w := Chg.refl _ _ _
  have lb := x_r.lt
  have lB := x_l.lt
  obtain ⟨A, c, rfl, hc1, hc2, hr⟩ := h
  by_cases hn : 2 ≤ ws.length
  case neg =>
    have i1 : (ws.length : Int) < 2 := by omega
    go_enter Tryd.func27, Tryd.ntmps27
    go_wp2
    go_ret2
    exact ⟨_, _, rfl, .inr ⟨rfl, okN_short hn, rfl, _, x_r⟩, C0⟩
  have i1 : ¬ ((ws.length : Int) < 2) := by omega
  have hdr := run_wdrop A c 2 ws.length 2 rfl hn
  have hWS : WS w B0 (.slice A ws.length c) ws := ⟨A, c, rfl, hc1, hc2, hr⟩
  obtain ⟨g, off, hA, hg, hcell⟩ := hr (by omega)
  clear hr
  obtain ⟨y0, hy0⟩ : ∃ y, ws.getD 0 ByteArray.empty = y := ⟨_, rfl⟩
  have zy0 : y0.size ≤ 1073741824 := by rw [← hy0]; exact Nat.le_trans (getD_sz hz 0) (by omega)
  have e0 := hcell 0 (by omega)
  rw [hy0] at e0
  have HY0 := Lib.hid hy0
  have l0 : (0 : Int) < (ws.length : Int) := by omega
  obtain ⟨y1, hy1⟩ : ∃ y, ws.getD 1 ByteArray.empty = y := ⟨_, rfl⟩
  have zy1 : y1.size ≤ 1073741824 := by rw [← hy1]; exact Nat.le_trans (getD_sz hz 1) (by omega)
  have e1 := hcell 1 (by omega)
  rw [hy1] at e1
  have HY1 := Lib.hid hy1
  have l1 : (1 : Int) < (ws.length : Int) := by omega
  clear hcell hy0 hy1
  have hgw : g < w.heap.size := by omega
  simp only [Nat.add_zero] at e0
  generalize hdX : (if c = 2 then A else A.map (·.add (2 * 1))) = X at hdr
  have HX := Lib.hid hdX
  clear hdX
  have HAe := Lib.hid hA
  subst hA
  have c_r_0_w := x_r.cell (i := 0) rfl
  have f_r_0_w := x_r.frozen 0
  have c_r_1_w := x_r.cell (i := 1) rfl
  have f_r_1_w := x_r.frozen 1
  have c_r_2_w := x_r.cell (i := 2) rfl
  have f_r_2_w := x_r.frozen 2
  have c_r_3_w := x_r.cell (i := 3) rfl
  have f_r_3_w := x_r.frozen 3
  have c_r_4_w := x_r.cell (i := 4) rfl
  have f_r_4_w := x_r.frozen 4
  have c_r_5_w := x_r.cell (i := 5) rfl
  have f_r_5_w := x_r.frozen 5
  have c_r_6_w := x_r.cell (i := 6) rfl
  have f_r_6_w := x_r.frozen 6
  have c_r_7_w := x_r.cell (i := 7) rfl
  have f_r_7_w := x_r.frozen 7
  have c_r_8_w := x_r.cell (i := 8) rfl
  have f_r_8_w := x_r.frozen 8
  have c_l_0_w := x_l.cell (i := 0) rfl
  have f_l_0_w := x_l.frozen 0
  have c_l_1_w := x_l.cell (i := 1) rfl
  have f_l_1_w := x_l.frozen 1
  go_enter Tryd.func27, Tryd.ntmps27
  go_wp2_with fail
  refine wp_loop_rounds 3 ?_
  obtain ⟨ob0, hb0⟩ : ∃ b, (textNum y0).isSome = b := ⟨_, rfl⟩
  have HB0 := Lib.hid hb0
  clear hb0
  obtain ⟨n0, hn0⟩ : ∃ z, txN y0 = z := ⟨_, rfl⟩
  have HN0 := Lib.hid hn0
  clear hn0
  clear c_r_0_w f_r_0_w c_r_1_w f_r_1_w c_r_2_w f_r_2_w c_r_3_w f_r_3_w c_r_4_w f_r_4_w c_r_5_w f_r_5_w c_r_6_w f_r_6_w c_r_7_w f_r_7_w c_r_8_w f_r_8_w c_l_0_w f_l_0_w c_l_1_w f_l_1_w
  have c_r_0_w := x_r.cell (i := 0) rfl
  have f_r_0_w := x_r.frozen 0
  have c_r_1_w := x_r.cell (i := 1) rfl
  have f_r_1_w := x_r.frozen 1
  have c_r_2_w := x_r.cell (i := 2) rfl
  have f_r_2_w := x_r.frozen 2
  have c_r_3_w := x_r.cell (i := 3) rfl
  have f_r_3_w := x_r.frozen 3
  have c_r_4_w := x_r.cell (i := 4) rfl
  have f_r_4_w := x_r.frozen 4
  have c_r_5_w := x_r.cell (i := 5) rfl
  have f_r_5_w := x_r.frozen 5
  have c_r_6_w := x_r.cell (i := 6) rfl
  have f_r_6_w := x_r.frozen 6
  have c_r_7_w := x_r.cell (i := 7) rfl
  have f_r_7_w := x_r.frozen 7
  have c_r_8_w := x_r.cell (i := 8) rfl
  have f_r_8_w := x_r.frozen 8
  have c_l_0_w := x_l.cell (i := 0) rfl
  have f_l_0_w := x_l.frozen 0
  have c_l_1_w := x_l.cell (i := 1) rfl
  have f_l_1_w := x_l.frozen 1
  rw [rounds_succ]
  go_wp2_with fail
  refine (iTextNum_any _ _ (ht.below hW) zy0).mono ?_
  rintro e w1 ⟨rfl, h_w1⟩
  clear c_r_0_w f_r_0_w c_r_1_w f_r_1_w c_r_2_w f_r_2_w c_r_3_w f_r_3_w c_r_4_w f_r_4_w c_r_5_w f_r_5_w c_r_6_w f_r_6_w c_r_7_w f_r_7_w c_r_8_w f_r_8_w c_l_0_w f_l_0_w c_l_1_w f_l_1_w
  replace x_r := x_r.from_ h_w1
  replace x_l := x_l.from_ h_w1
  have B_w1 := hW.trans (h_w1.mono hW.size)
  have s_w1 := h_w1.size
  have C_w1 := C0.then_below h_w1
  rw [textVal_txN, HB0.out, HN0.out]
  replace e0 := (h_w1.cell (p := ⟨g, off, none⟩) (by show g < _; omega)).trans e0
  replace e1 := (h_w1.cell (p := ⟨g, off + 1, none⟩) (by show g < _; omega)).trans e1
  replace hWS := hWS.below h_w1 (by omega)
  cases ob0 with
  | false =>
    go_wp2
    go_ret2
    exact ⟨_, _, rfl, .inr ⟨rfl, okN_bad (j := 0) (by omega) (by rw [HY0.out]; exact HB0.out), rfl, _, x_r⟩, C_w1⟩
  | true =>
    have c_r_0_w1 := x_r.cell (i := 0) rfl
    have f_r_0_w1 := x_r.frozen 0
    have c_r_1_w1 := x_r.cell (i := 1) rfl
    have f_r_1_w1 := x_r.frozen 1
    have c_r_2_w1 := x_r.cell (i := 2) rfl
    have f_r_2_w1 := x_r.frozen 2
    have c_r_3_w1 := x_r.cell (i := 3) rfl
    have f_r_3_w1 := x_r.frozen 3
    have c_r_4_w1 := x_r.cell (i := 4) rfl
    have f_r_4_w1 := x_r.frozen 4
    have c_r_5_w1 := x_r.cell (i := 5) rfl
    have f_r_5_w1 := x_r.frozen 5
    have c_r_6_w1 := x_r.cell (i := 6) rfl
    have f_r_6_w1 := x_r.frozen 6
    have c_r_7_w1 := x_r.cell (i := 7) rfl
    have f_r_7_w1 := x_r.frozen 7
    have c_r_8_w1 := x_r.cell (i := 8) rfl
    have f_r_8_w1 := x_r.frozen 8
    have c_l_0_w1 := x_l.cell (i := 0) rfl
    have f_l_0_w1 := x_l.frozen 0
    have c_l_1_w1 := x_l.cell (i := 1) rfl
    have f_l_1_w1 := x_l.frozen 1
    obtain ⟨w2, e_w2, s_w2, h_w2, y⟩ := set_step x_r 1 (.int .i64 n0)
    have s_w2_1 := Nat.le_of_eq s_w2
    have s_w2_2 := Nat.le_of_eq s_w2.symm
    clear s_w2
    replace x_l := x_l.chg h_w2 (by omega)
    have B_w2 := Below.chg_ B_w1 h_w2 (by omega) (by omega)
    have C_w2 := C_w1.then_same h_w2
    replace x_r : Vr w2 (b) T [z0, .int .i64 n0, z2, z3, z4, z5, z6, z7, z8] := y
    clear y
    have c_r_0_w2 := x_r.cell (i := 0) rfl
    have f_r_0_w2 := x_r.frozen 0
    have c_r_1_w2 := x_r.cell (i := 1) rfl
    have f_r_1_w2 := x_r.frozen 1
    have c_r_2_w2 := x_r.cell (i := 2) rfl
    have f_r_2_w2 := x_r.frozen 2
    have c_r_3_w2 := x_r.cell (i := 3) rfl
    have f_r_3_w2 := x_r.frozen 3
    have c_r_4_w2 := x_r.cell (i := 4) rfl
    have f_r_4_w2 := x_r.frozen 4
    have c_r_5_w2 := x_r.cell (i := 5) rfl
    have f_r_5_w2 := x_r.frozen 5
    have c_r_6_w2 := x_r.cell (i := 6) rfl
    have f_r_6_w2 := x_r.frozen 6
    have c_r_7_w2 := x_r.cell (i := 7) rfl
    have f_r_7_w2 := x_r.frozen 7
    have c_r_8_w2 := x_r.cell (i := 8) rfl
    have f_r_8_w2 := x_r.frozen 8
    have c_l_0_w2 := x_l.cell (i := 0) rfl
    have f_l_0_w2 := x_l.frozen 0
    have c_l_1_w2 := x_l.cell (i := 1) rfl
    have f_l_1_w2 := x_l.frozen 1
    replace e0 := (h_w2.cell_at (p := ⟨g, off, none⟩) (by show g < _; omega) (.inl (by show g < b; omega))).trans e0
    replace e1 := (h_w2.cell_at (p := ⟨g, off + 1, none⟩) (by show g < _; omega) (.inl (by show g < b; omega))).trans e1
    replace hWS := hWS.chg h_w2 hB0 (by omega)
    go_wp2_with fail
    obtain ⟨ob1, hb1⟩ : ∃ b, (textNum y1).isSome = b := ⟨_, rfl⟩
    have HB1 := Lib.hid hb1
    clear hb1
    obtain ⟨n1, hn1⟩ : ∃ z, txN y1 = z := ⟨_, rfl⟩
    have HN1 := Lib.hid hn1
    clear hn1
    clear c_r_0_w1 f_r_0_w1 c_r_1_w1 f_r_1_w1 c_r_2_w1 f_r_2_w1 c_r_3_w1 f_r_3_w1 c_r_4_w1 f_r_4_w1 c_r_5_w1 f_r_5_w1 c_r_6_w1 f_r_6_w1 c_r_7_w1 f_r_7_w1 c_r_8_w1 f_r_8_w1 c_l_0_w1 f_l_0_w1 c_l_1_w1 f_l_1_w1 c_r_0_w2 f_r_0_w2 c_r_1_w2 f_r_1_w2 c_r_2_w2 f_r_2_w2 c_r_3_w2 f_r_3_w2 c_r_4_w2 f_r_4_w2 c_r_5_w2 f_r_5_w2 c_r_6_w2 f_r_6_w2 c_r_7_w2 f_r_7_w2 c_r_8_w2 f_r_8_w2 c_l_0_w2 f_l_0_w2 c_l_1_w2 f_l_1_w2
    have c_r_0_w2 := x_r.cell (i := 0) rfl
    have f_r_0_w2 := x_r.frozen 0
    have c_r_1_w2 := x_r.cell (i := 1) rfl
    have f_r_1_w2 := x_r.frozen 1
    have c_r_2_w2 := x_r.cell (i := 2) rfl
    have f_r_2_w2 := x_r.frozen 2
    have c_r_3_w2 := x_r.cell (i := 3) rfl
    have f_r_3_w2 := x_r.frozen 3
    have c_r_4_w2 := x_r.cell (i := 4) rfl
    have f_r_4_w2 := x_r.frozen 4
    have c_r_5_w2 := x_r.cell (i := 5) rfl
    have f_r_5_w2 := x_r.frozen 5
    have c_r_6_w2 := x_r.cell (i := 6) rfl
    have f_r_6_w2 := x_r.frozen 6
    have c_r_7_w2 := x_r.cell (i := 7) rfl
    have f_r_7_w2 := x_r.frozen 7
    have c_r_8_w2 := x_r.cell (i := 8) rfl
    have f_r_8_w2 := x_r.frozen 8
    have c_l_0_w2 := x_l.cell (i := 0) rfl
    have f_l_0_w2 := x_l.frozen 0
    have c_l_1_w2 := x_l.cell (i := 1) rfl
    have f_l_1_w2 := x_l.frozen 1
    rw [rounds_succ]
    go_wp2_with fail
    refine (iTextNum_any _ _ (ht.below B_w2) zy1).mono ?_
    rintro e w3 ⟨rfl, h_w3⟩
    clear c_r_0_w2 f_r_0_w2 c_r_1_w2 f_r_1_w2 c_r_2_w2 f_r_2_w2 c_r_3_w2 f_r_3_w2 c_r_4_w2 f_r_4_w2 c_r_5_w2 f_r_5_w2 c_r_6_w2 f_r_6_w2 c_r_7_w2 f_r_7_w2 c_r_8_w2 f_r_8_w2 c_l_0_w2 f_l_0_w2 c_l_1_w2 f_l_1_w2
    replace x_r := x_r.from_ h_w3
    replace x_l := x_l.from_ h_w3
    have B_w3 := B_w2.trans (h_w3.mono B_w2.size)
    have s_w3 := h_w3.size
    have C_w3 := C_w2.then_below h_w3
    rw [textVal_txN, HB1.out, HN1.out]
    replace e0 := (h_w3.cell (p := ⟨g, off, none⟩) (by show g < _; omega)).trans e0
    replace e1 := (h_w3.cell (p := ⟨g, off + 1, none⟩) (by show g < _; omega)).trans e1
    replace hWS := hWS.below h_w3 (by omega)
    cases ob1 with
    | false =>
      go_wp2
      go_ret2
      exact ⟨_, _, rfl, .inr ⟨rfl, okN_bad (j := 1) (by omega) (by rw [HY1.out]; exact HB1.out), rfl, _, x_r⟩, C_w3⟩
    | true =>
      have c_r_0_w3 := x_r.cell (i := 0) rfl
      have f_r_0_w3 := x_r.frozen 0
      have c_r_1_w3 := x_r.cell (i := 1) rfl
      have f_r_1_w3 := x_r.frozen 1
      have c_r_2_w3 := x_r.cell (i := 2) rfl
      have f_r_2_w3 := x_r.frozen 2
      have c_r_3_w3 := x_r.cell (i := 3) rfl
      have f_r_3_w3 := x_r.frozen 3
      have c_r_4_w3 := x_r.cell (i := 4) rfl
      have f_r_4_w3 := x_r.frozen 4
      have c_r_5_w3 := x_r.cell (i := 5) rfl
      have f_r_5_w3 := x_r.frozen 5
      have c_r_6_w3 := x_r.cell (i := 6) rfl
      have f_r_6_w3 := x_r.frozen 6
      have c_r_7_w3 := x_r.cell (i := 7) rfl
      have f_r_7_w3 := x_r.frozen 7
      have c_r_8_w3 := x_r.cell (i := 8) rfl
      have f_r_8_w3 := x_r.frozen 8
      have c_l_0_w3 := x_l.cell (i := 0) rfl
      have f_l_0_w3 := x_l.frozen 0
      have c_l_1_w3 := x_l.cell (i := 1) rfl
      have f_l_1_w3 := x_l.frozen 1
      obtain ⟨w4, e_w4, s_w4, h_w4, y⟩ := set_step x_r 3 (.int .i64 n1)
      have s_w4_1 := Nat.le_of_eq s_w4
      have s_w4_2 := Nat.le_of_eq s_w4.symm
      clear s_w4
      replace x_l := x_l.chg h_w4 (by omega)
      have B_w4 := Below.chg_ B_w3 h_w4 (by omega) (by omega)
      have C_w4 := C_w3.then_same h_w4
      replace x_r : Vr w4 (b) T [z0, .int .i64 n0, z2, .int .i64 n1, z4, z5, z6, z7, z8] := y
      clear y
      have c_r_0_w4 := x_r.cell (i := 0) rfl
      have f_r_0_w4 := x_r.frozen 0
      have c_r_1_w4 := x_r.cell (i := 1) rfl
      have f_r_1_w4 := x_r.frozen 1
      have c_r_2_w4 := x_r.cell (i := 2) rfl
      have f_r_2_w4 := x_r.frozen 2
      have c_r_3_w4 := x_r.cell (i := 3) rfl
      have f_r_3_w4 := x_r.frozen 3
      have c_r_4_w4 := x_r.cell (i := 4) rfl
      have f_r_4_w4 := x_r.frozen 4
      have c_r_5_w4 := x_r.cell (i := 5) rfl
      have f_r_5_w4 := x_r.frozen 5
      have c_r_6_w4 := x_r.cell (i := 6) rfl
      have f_r_6_w4 := x_r.frozen 6
      have c_r_7_w4 := x_r.cell (i := 7) rfl
      have f_r_7_w4 := x_r.frozen 7
      have c_r_8_w4 := x_r.cell (i := 8) rfl
      have f_r_8_w4 := x_r.frozen 8
      have c_l_0_w4 := x_l.cell (i := 0) rfl
      have f_l_0_w4 := x_l.frozen 0
      have c_l_1_w4 := x_l.cell (i := 1) rfl
      have f_l_1_w4 := x_l.frozen 1
      replace e0 := (h_w4.cell_at (p := ⟨g, off, none⟩) (by show g < _; omega) (.inl (by show g < b; omega))).trans e0
      replace e1 := (h_w4.cell_at (p := ⟨g, off + 1, none⟩) (by show g < _; omega) (.inl (by show g < b; omega))).trans e1
      replace hWS := hWS.chg h_w4 hB0 (by omega)
      go_wp2_with fail
      rw [rounds_succ]
      go_wp2
      go_ret2
      refine ⟨_, _, rfl, .inl ⟨rfl, (okN_iff ws 2).2 ⟨hn, fun j hj => ?_⟩, ?_, ?_⟩, C_w4⟩
      · have hj2 : j = 0 ∨ j = 1 := by omega
        rcases hj2 with rfl | rfl
        · rw [HY0.out]; exact HB0.out
        · rw [HY1.out]; exact HB1.out
      · rw [HY0.out, HN0.out, HY1.out, HN1.out]; exact x_r
      · rw [← HX.out]; exact hWS.drop hn
set_option maxRecDepth 100000 in
set_option maxHeartbeats 4000000 in
theorem iRead_toAmt {W0 w : World} (ht : Tab10 W0) (hW : Below W0.heap.size W0 w) {b B B0 : Nat} {T U : TypeId} {z0 z1 z2 z3 z4 z5 z6 z7 z8 v : Value} {ws : List ByteArray} (h0 : W0.heap.size ≤ b) (hB0 : B0 ≤ b) (x_r : Vr w b T [z0, z1, z2, z3, z4, z5, z6, z7, z8]) (x_l : Vr w B U [.pointer (some ⟨b, 3, none⟩), .pointer (some ⟨b, 4, none⟩)]) (hbB : b < B) (h : WS w B0 v ws) (hz : ∀ x ∈ ws, x.size ≤ 1048576) (hm : ws.length ≤ 16777216) :
    Calls Tryd.prog 27 #[v, .slice (some ⟨B, 0, none⟩) 2 2] w fun e w' => ∃ v' ok, e = .returned (.tuple #[v', .bool ok]) ∧ ((ok = true ∧ okN ws 2 = true ∧ Vr w' b T [z0, z1, z2, .int .i64 (txN (ws.getD 0 ByteArray.empty)), .int .i64 (txN (ws.getD 1 ByteArray.empty)), z5, z6, z7, z8] ∧ WS w' B0 v' (ws.drop 2)) ∨ (ok = false ∧ okN ws 2 = false ∧ v' = .slice none 0 0 ∧ ∃ cs, Vr w' b T cs)) ∧ Chg b (b + 1) w w' := by
  have C0 : Chg b (b + 1) w w := Chg.refl _ _ _
  have lb := x_r.lt
  have lB := x_l.lt
  obtain ⟨A, c, rfl, hc1, hc2, hr⟩ := h
  by_cases hn : 2 ≤ ws.length
  case neg =>
    have i1 : (ws.length : Int) < 2 := by omega
    go_enter Tryd.func27, Tryd.ntmps27
    go_wp2
    go_ret2
    exact ⟨_, _, rfl, .inr ⟨rfl, okN_short hn, rfl, _, x_r⟩, C0⟩
  have i1 : ¬ ((ws.length : Int) < 2) := by omega
  have hdr := run_wdrop A c 2 ws.length 2 rfl hn
  have hWS : WS w B0 (.slice A ws.length c) ws := ⟨A, c, rfl, hc1, hc2, hr⟩
  obtain ⟨g, off, hA, hg, hcell⟩ := hr (by omega)
  clear hr
  obtain ⟨y0, hy0⟩ : ∃ y, ws.getD 0 ByteArray.empty = y := ⟨_, rfl⟩
  have zy0 : y0.size ≤ 1073741824 := by rw [← hy0]; exact Nat.le_trans (getD_sz hz 0) (by omega)
  have e0 := hcell 0 (by omega)
  rw [hy0] at e0
  have HY0 := Lib.hid hy0
  have l0 : (0 : Int) < (ws.length : Int) := by omega
  obtain ⟨y1, hy1⟩ : ∃ y, ws.getD 1 ByteArray.empty = y := ⟨_, rfl⟩
  have zy1 : y1.size ≤ 1073741824 := by rw [← hy1]; exact Nat.le_trans (getD_sz hz 1) (by omega)
  have e1 := hcell 1 (by omega)
  rw [hy1] at e1
  have HY1 := Lib.hid hy1
  have l1 : (1 : Int) < (ws.length : Int) := by omega
  clear hcell hy0 hy1
  have hgw : g < w.heap.size := by omega
  simp only [Nat.add_zero] at e0
  generalize hdX : (if c = 2 then A else A.map (·.add (2 * 1))) = X at hdr
  have HX := Lib.hid hdX
  clear hdX
  have HAe := Lib.hid hA
  subst hA
  have c_r_0_w := x_r.cell (i := 0) rfl
  have f_r_0_w := x_r.frozen 0
  have c_r_1_w := x_r.cell (i := 1) rfl
  have f_r_1_w := x_r.frozen 1
  have c_r_2_w := x_r.cell (i := 2) rfl
  have f_r_2_w := x_r.frozen 2
  have c_r_3_w := x_r.cell (i := 3) rfl
  have f_r_3_w := x_r.frozen 3
  have c_r_4_w := x_r.cell (i := 4) rfl
  have f_r_4_w := x_r.frozen 4
  have c_r_5_w := x_r.cell (i := 5) rfl
  have f_r_5_w := x_r.frozen 5
  have c_r_6_w := x_r.cell (i := 6) rfl
  have f_r_6_w := x_r.frozen 6
  have c_r_7_w := x_r.cell (i := 7) rfl
  have f_r_7_w := x_r.frozen 7
  have c_r_8_w := x_r.cell (i := 8) rfl
  have f_r_8_w := x_r.frozen 8
  have c_l_0_w := x_l.cell (i := 0) rfl
  have f_l_0_w := x_l.frozen 0
  have c_l_1_w := x_l.cell (i := 1) rfl
  have f_l_1_w := x_l.frozen 1
  go_enter Tryd.func27, Tryd.ntmps27
  go_wp2_with fail
  refine wp_loop_rounds 3 ?_
  obtain ⟨ob0, hb0⟩ : ∃ b, (textNum y0).isSome = b := ⟨_, rfl⟩
  have HB0 := Lib.hid hb0
  clear hb0
  obtain ⟨n0, hn0⟩ : ∃ z, txN y0 = z := ⟨_, rfl⟩
  have HN0 := Lib.hid hn0
  clear hn0
  clear c_r_0_w f_r_0_w c_r_1_w f_r_1_w c_r_2_w f_r_2_w c_r_3_w f_r_3_w c_r_4_w f_r_4_w c_r_5_w f_r_5_w c_r_6_w f_r_6_w c_r_7_w f_r_7_w c_r_8_w f_r_8_w c_l_0_w f_l_0_w c_l_1_w f_l_1_w
  have c_r_0_w := x_r.cell (i := 0) rfl
  have f_r_0_w := x_r.frozen 0
  have c_r_1_w := x_r.cell (i := 1) rfl
  have f_r_1_w := x_r.frozen 1
  have c_r_2_w := x_r.cell (i := 2) rfl
  have f_r_2_w := x_r.frozen 2
  have c_r_3_w := x_r.cell (i := 3) rfl
  have f_r_3_w := x_r.frozen 3
  have c_r_4_w := x_r.cell (i := 4) rfl
  have f_r_4_w := x_r.frozen 4
  have c_r_5_w := x_r.cell (i := 5) rfl
  have f_r_5_w := x_r.frozen 5
  have c_r_6_w := x_r.cell (i := 6) rfl
  have f_r_6_w := x_r.frozen 6
  have c_r_7_w := x_r.cell (i := 7) rfl
  have f_r_7_w := x_r.frozen 7
  have c_r_8_w := x_r.cell (i := 8) rfl
  have f_r_8_w := x_r.frozen 8
  have c_l_0_w := x_l.cell (i := 0) rfl
  have f_l_0_w := x_l.frozen 0
  have c_l_1_w := x_l.cell (i := 1) rfl
  have f_l_1_w := x_l.frozen 1
  rw [rounds_succ]
  go_wp2_with fail
  refine (iTextNum_any _ _ (ht.below hW) zy0).mono ?_
  rintro e w1 ⟨rfl, h_w1⟩
  clear c_r_0_w f_r_0_w c_r_1_w f_r_1_w c_r_2_w f_r_2_w c_r_3_w f_r_3_w c_r_4_w f_r_4_w c_r_5_w f_r_5_w c_r_6_w f_r_6_w c_r_7_w f_r_7_w c_r_8_w f_r_8_w c_l_0_w f_l_0_w c_l_1_w f_l_1_w
  replace x_r := x_r.from_ h_w1
  replace x_l := x_l.from_ h_w1
  have B_w1 := hW.trans (h_w1.mono hW.size)
  have s_w1 := h_w1.size
  have C_w1 := C0.then_below h_w1
  rw [textVal_txN, HB0.out, HN0.out]
  replace e0 := (h_w1.cell (p := ⟨g, off, none⟩) (by show g < _; omega)).trans e0
  replace e1 := (h_w1.cell (p := ⟨g, off + 1, none⟩) (by show g < _; omega)).trans e1
  replace hWS := hWS.below h_w1 (by omega)
  cases ob0 with
  | false =>
    go_wp2
    go_ret2
    exact ⟨_, _, rfl, .inr ⟨rfl, okN_bad (j := 0) (by omega) (by rw [HY0.out]; exact HB0.out), rfl, _, x_r⟩, C_w1⟩
  | true =>
    have c_r_0_w1 := x_r.cell (i := 0) rfl
    have f_r_0_w1 := x_r.frozen 0
    have c_r_1_w1 := x_r.cell (i := 1) rfl
    have f_r_1_w1 := x_r.frozen 1
    have c_r_2_w1 := x_r.cell (i := 2) rfl
    have f_r_2_w1 := x_r.frozen 2
    have c_r_3_w1 := x_r.cell (i := 3) rfl
    have f_r_3_w1 := x_r.frozen 3
    have c_r_4_w1 := x_r.cell (i := 4) rfl
    have f_r_4_w1 := x_r.frozen 4
    have c_r_5_w1 := x_r.cell (i := 5) rfl
    have f_r_5_w1 := x_r.frozen 5
    have c_r_6_w1 := x_r.cell (i := 6) rfl
    have f_r_6_w1 := x_r.frozen 6
    have c_r_7_w1 := x_r.cell (i := 7) rfl
    have f_r_7_w1 := x_r.frozen 7
    have c_r_8_w1 := x_r.cell (i := 8) rfl
    have f_r_8_w1 := x_r.frozen 8
    have c_l_0_w1 := x_l.cell (i := 0) rfl
    have f_l_0_w1 := x_l.frozen 0
    have c_l_1_w1 := x_l.cell (i := 1) rfl
    have f_l_1_w1 := x_l.frozen 1
    obtain ⟨w2, e_w2, s_w2, h_w2, y⟩ := set_step x_r 3 (.int .i64 n0)
    have s_w2_1 := Nat.le_of_eq s_w2
    have s_w2_2 := Nat.le_of_eq s_w2.symm
    clear s_w2
    replace x_l := x_l.chg h_w2 (by omega)
    have B_w2 := Below.chg_ B_w1 h_w2 (by omega) (by omega)
    have C_w2 := C_w1.then_same h_w2
    replace x_r : Vr w2 (b) T [z0, z1, z2, .int .i64 n0, z4, z5, z6, z7, z8] := y
    clear y
    have c_r_0_w2 := x_r.cell (i := 0) rfl
    have f_r_0_w2 := x_r.frozen 0
    have c_r_1_w2 := x_r.cell (i := 1) rfl
    have f_r_1_w2 := x_r.frozen 1
    have c_r_2_w2 := x_r.cell (i := 2) rfl
    have f_r_2_w2 := x_r.frozen 2
    have c_r_3_w2 := x_r.cell (i := 3) rfl
    have f_r_3_w2 := x_r.frozen 3
    have c_r_4_w2 := x_r.cell (i := 4) rfl
    have f_r_4_w2 := x_r.frozen 4
    have c_r_5_w2 := x_r.cell (i := 5) rfl
    have f_r_5_w2 := x_r.frozen 5
    have c_r_6_w2 := x_r.cell (i := 6) rfl
    have f_r_6_w2 := x_r.frozen 6
    have c_r_7_w2 := x_r.cell (i := 7) rfl
    have f_r_7_w2 := x_r.frozen 7
    have c_r_8_w2 := x_r.cell (i := 8) rfl
    have f_r_8_w2 := x_r.frozen 8
    have c_l_0_w2 := x_l.cell (i := 0) rfl
    have f_l_0_w2 := x_l.frozen 0
    have c_l_1_w2 := x_l.cell (i := 1) rfl
    have f_l_1_w2 := x_l.frozen 1
    replace e0 := (h_w2.cell_at (p := ⟨g, off, none⟩) (by show g < _; omega) (.inl (by show g < b; omega))).trans e0
    replace e1 := (h_w2.cell_at (p := ⟨g, off + 1, none⟩) (by show g < _; omega) (.inl (by show g < b; omega))).trans e1
    replace hWS := hWS.chg h_w2 hB0 (by omega)
    go_wp2_with fail
    obtain ⟨ob1, hb1⟩ : ∃ b, (textNum y1).isSome = b := ⟨_, rfl⟩
    have HB1 := Lib.hid hb1
    clear hb1
    obtain ⟨n1, hn1⟩ : ∃ z, txN y1 = z := ⟨_, rfl⟩
    have HN1 := Lib.hid hn1
    clear hn1
    clear c_r_0_w1 f_r_0_w1 c_r_1_w1 f_r_1_w1 c_r_2_w1 f_r_2_w1 c_r_3_w1 f_r_3_w1 c_r_4_w1 f_r_4_w1 c_r_5_w1 f_r_5_w1 c_r_6_w1 f_r_6_w1 c_r_7_w1 f_r_7_w1 c_r_8_w1 f_r_8_w1 c_l_0_w1 f_l_0_w1 c_l_1_w1 f_l_1_w1 c_r_0_w2 f_r_0_w2 c_r_1_w2 f_r_1_w2 c_r_2_w2 f_r_2_w2 c_r_3_w2 f_r_3_w2 c_r_4_w2 f_r_4_w2 c_r_5_w2 f_r_5_w2 c_r_6_w2 f_r_6_w2 c_r_7_w2 f_r_7_w2 c_r_8_w2 f_r_8_w2 c_l_0_w2 f_l_0_w2 c_l_1_w2 f_l_1_w2
    have c_r_0_w2 := x_r.cell (i := 0) rfl
    have f_r_0_w2 := x_r.frozen 0
    have c_r_1_w2 := x_r.cell (i := 1) rfl
    have f_r_1_w2 := x_r.frozen 1
    have c_r_2_w2 := x_r.cell (i := 2) rfl
    have f_r_2_w2 := x_r.frozen 2
    have c_r_3_w2 := x_r.cell (i := 3) rfl
    have f_r_3_w2 := x_r.frozen 3
    have c_r_4_w2 := x_r.cell (i := 4) rfl
    have f_r_4_w2 := x_r.frozen 4
    have c_r_5_w2 := x_r.cell (i := 5) rfl
    have f_r_5_w2 := x_r.frozen 5
    have c_r_6_w2 := x_r.cell (i := 6) rfl
    have f_r_6_w2 := x_r.frozen 6
    have c_r_7_w2 := x_r.cell (i := 7) rfl
    have f_r_7_w2 := x_r.frozen 7
    have c_r_8_w2 := x_r.cell (i := 8) rfl
    have f_r_8_w2 := x_r.frozen 8
    have c_l_0_w2 := x_l.cell (i := 0) rfl
    have f_l_0_w2 := x_l.frozen 0
    have c_l_1_w2 := x_l.cell (i := 1) rfl
    have f_l_1_w2 := x_l.frozen 1
    rw [rounds_succ]
    go_wp2_with fail
    refine (iTextNum_any _ _ (ht.below B_w2) zy1).mono ?_
    rintro e w3 ⟨rfl, h_w3⟩
    clear c_r_0_w2 f_r_0_w2 c_r_1_w2 f_r_1_w2 c_r_2_w2 f_r_2_w2 c_r_3_w2 f_r_3_w2 c_r_4_w2 f_r_4_w2 c_r_5_w2 f_r_5_w2 c_r_6_w2 f_r_6_w2 c_r_7_w2 f_r_7_w2 c_r_8_w2 f_r_8_w2 c_l_0_w2 f_l_0_w2 c_l_1_w2 f_l_1_w2
    replace x_r := x_r.from_ h_w3
    replace x_l := x_l.from_ h_w3
    have B_w3 := B_w2.trans (h_w3.mono B_w2.size)
    have s_w3 := h_w3.size
    have C_w3 := C_w2.then_below h_w3
    rw [textVal_txN, HB1.out, HN1.out]
    replace e0 := (h_w3.cell (p := ⟨g, off, none⟩) (by show g < _; omega)).trans e0
    replace e1 := (h_w3.cell (p := ⟨g, off + 1, none⟩) (by show g < _; omega)).trans e1
    replace hWS := hWS.below h_w3 (by omega)
    cases ob1 with
    | false =>
      go_wp2
      go_ret2
      exact ⟨_, _, rfl, .inr ⟨rfl, okN_bad (j := 1) (by omega) (by rw [HY1.out]; exact HB1.out), rfl, _, x_r⟩, C_w3⟩
    | true =>
      have c_r_0_w3 := x_r.cell (i := 0) rfl
      have f_r_0_w3 := x_r.frozen 0
      have c_r_1_w3 := x_r.cell (i := 1) rfl
      have f_r_1_w3 := x_r.frozen 1
      have c_r_2_w3 := x_r.cell (i := 2) rfl
      have f_r_2_w3 := x_r.frozen 2
      have c_r_3_w3 := x_r.cell (i := 3) rfl
      have f_r_3_w3 := x_r.frozen 3
      have c_r_4_w3 := x_r.cell (i := 4) rfl
      have f_r_4_w3 := x_r.frozen 4
      have c_r_5_w3 := x_r.cell (i := 5) rfl
      have f_r_5_w3 := x_r.frozen 5
      have c_r_6_w3 := x_r.cell (i := 6) rfl
      have f_r_6_w3 := x_r.frozen 6
      have c_r_7_w3 := x_r.cell (i := 7) rfl
      have f_r_7_w3 := x_r.frozen 7
      have c_r_8_w3 := x_r.cell (i := 8) rfl
      have f_r_8_w3 := x_r.frozen 8
      have c_l_0_w3 := x_l.cell (i := 0) rfl
      have f_l_0_w3 := x_l.frozen 0
      have c_l_1_w3 := x_l.cell (i := 1) rfl
      have f_l_1_w3 := x_l.frozen 1
      obtain ⟨w4, e_w4, s_w4, h_w4, y⟩ := set_step x_r 4 (.int .i64 n1)
      have s_w4_1 := Nat.le_of_eq s_w4
      have s_w4_2 := Nat.le_of_eq s_w4.symm
      clear s_w4
      replace x_l := x_l.chg h_w4 (by omega)
      have B_w4 := Below.chg_ B_w3 h_w4 (by omega) (by omega)
      have C_w4 := C_w3.then_same h_w4
      replace x_r : Vr w4 (b) T [z0, z1, z2, .int .i64 n0, .int .i64 n1, z5, z6, z7, z8] := y
      clear y
      have c_r_0_w4 := x_r.cell (i := 0) rfl
      have f_r_0_w4 := x_r.frozen 0
      have c_r_1_w4 := x_r.cell (i := 1) rfl
      have f_r_1_w4 := x_r.frozen 1
      have c_r_2_w4 := x_r.cell (i := 2) rfl
      have f_r_2_w4 := x_r.frozen 2
      have c_r_3_w4 := x_r.cell (i := 3) rfl
      have f_r_3_w4 := x_r.frozen 3
      have c_r_4_w4 := x_r.cell (i := 4) rfl
      have f_r_4_w4 := x_r.frozen 4
      have c_r_5_w4 := x_r.cell (i := 5) rfl
      have f_r_5_w4 := x_r.frozen 5
      have c_r_6_w4 := x_r.cell (i := 6) rfl
      have f_r_6_w4 := x_r.frozen 6
      have c_r_7_w4 := x_r.cell (i := 7) rfl
      have f_r_7_w4 := x_r.frozen 7
      have c_r_8_w4 := x_r.cell (i := 8) rfl
      have f_r_8_w4 := x_r.frozen 8
      have c_l_0_w4 := x_l.cell (i := 0) rfl
      have f_l_0_w4 := x_l.frozen 0
      have c_l_1_w4 := x_l.cell (i := 1) rfl
      have f_l_1_w4 := x_l.frozen 1
      replace e0 := (h_w4.cell_at (p := ⟨g, off, none⟩) (by show g < _; omega) (.inl (by show g < b; omega))).trans e0
      replace e1 := (h_w4.cell_at (p := ⟨g, off + 1, none⟩) (by show g < _; omega) (.inl (by show g < b; omega))).trans e1
      replace hWS := hWS.chg h_w4 hB0 (by omega)
      go_wp2_with fail
      rw [rounds_succ]
      go_wp2
      go_ret2
      refine ⟨_, _, rfl, .inl ⟨rfl, (okN_iff ws 2).2 ⟨hn, fun j hj => ?_⟩, ?_, ?_⟩, C_w4⟩
      · have hj2 : j = 0 ∨ j = 1 := by omega
        rcases hj2 with rfl | rfl
        · rw [HY0.out]; exact HB0.out
        · rw [HY1.out]; exact HB1.out
      · rw [HY0.out, HN0.out, HY1.out, HN1.out]; exact x_r
      · rw [← HX.out]; exact hWS.drop hn
set_option maxRecDepth 100000 in
set_option maxHeartbeats 4000000 in
theorem iRead_acctToAmt {W0 w : World} (ht : Tab10 W0) (hW : Below W0.heap.size W0 w) {b B B0 : Nat} {T U : TypeId} {z0 z1 z2 z3 z4 z5 z6 z7 z8 v : Value} {ws : List ByteArray} (h0 : W0.heap.size ≤ b) (hB0 : B0 ≤ b) (x_r : Vr w b T [z0, z1, z2, z3, z4, z5, z6, z7, z8]) (x_l : Vr w B U [.pointer (some ⟨b, 1, none⟩), .pointer (some ⟨b, 3, none⟩), .pointer (some ⟨b, 4, none⟩)]) (hbB : b < B) (h : WS w B0 v ws) (hz : ∀ x ∈ ws, x.size ≤ 1048576) (hm : ws.length ≤ 16777216) :
    Calls Tryd.prog 27 #[v, .slice (some ⟨B, 0, none⟩) 3 3] w fun e w' => ∃ v' ok, e = .returned (.tuple #[v', .bool ok]) ∧ ((ok = true ∧ okN ws 3 = true ∧ Vr w' b T [z0, .int .i64 (txN (ws.getD 0 ByteArray.empty)), z2, .int .i64 (txN (ws.getD 1 ByteArray.empty)), .int .i64 (txN (ws.getD 2 ByteArray.empty)), z5, z6, z7, z8] ∧ WS w' B0 v' (ws.drop 3)) ∨ (ok = false ∧ okN ws 3 = false ∧ v' = .slice none 0 0 ∧ ∃ cs, Vr w' b T cs)) ∧ Chg b (b + 1) w w' := by
  have C0 : Chg b (b + 1) w w := Chg.refl _ _ _
  have lb := x_r.lt
  have lB := x_l.lt
  obtain ⟨A, c, rfl, hc1, hc2, hr⟩ := h
  by_cases hn : 3 ≤ ws.length
  case neg =>
    have i1 : (ws.length : Int) < 3 := by omega
    go_enter Tryd.func27, Tryd.ntmps27
    go_wp2
    go_ret2
    exact ⟨_, _, rfl, .inr ⟨rfl, okN_short hn, rfl, _, x_r⟩, C0⟩
  have i1 : ¬ ((ws.length : Int) < 3) := by omega
  have hdr := run_wdrop A c 3 ws.length 3 rfl hn
  have hWS : WS w B0 (.slice A ws.length c) ws := ⟨A, c, rfl, hc1, hc2, hr⟩
  obtain ⟨g, off, hA, hg, hcell⟩ := hr (by omega)
  clear hr
  obtain ⟨y0, hy0⟩ : ∃ y, ws.getD 0 ByteArray.empty = y := ⟨_, rfl⟩
  have zy0 : y0.size ≤ 1073741824 := by rw [← hy0]; exact Nat.le_trans (getD_sz hz 0) (by omega)
  have e0 := hcell 0 (by omega)
  rw [hy0] at e0
  have HY0 := Lib.hid hy0
  have l0 : (0 : Int) < (ws.length : Int) := by omega
  obtain ⟨y1, hy1⟩ : ∃ y, ws.getD 1 ByteArray.empty = y := ⟨_, rfl⟩
  have zy1 : y1.size ≤ 1073741824 := by rw [← hy1]; exact Nat.le_trans (getD_sz hz 1) (by omega)
  have e1 := hcell 1 (by omega)
  rw [hy1] at e1
  have HY1 := Lib.hid hy1
  have l1 : (1 : Int) < (ws.length : Int) := by omega
  obtain ⟨y2, hy2⟩ : ∃ y, ws.getD 2 ByteArray.empty = y := ⟨_, rfl⟩
  have zy2 : y2.size ≤ 1073741824 := by rw [← hy2]; exact Nat.le_trans (getD_sz hz 2) (by omega)
  have e2 := hcell 2 (by omega)
  rw [hy2] at e2
  have HY2 := Lib.hid hy2
  have l2 : (2 : Int) < (ws.length : Int) := by omega
  clear hcell hy0 hy1 hy2
  have hgw : g < w.heap.size := by omega
  simp only [Nat.add_zero] at e0
  generalize hdX : (if c = 3 then A else A.map (·.add (3 * 1))) = X at hdr
  have HX := Lib.hid hdX
  clear hdX
  have HAe := Lib.hid hA
  subst hA
  have c_r_0_w := x_r.cell (i := 0) rfl
  have f_r_0_w := x_r.frozen 0
  have c_r_1_w := x_r.cell (i := 1) rfl
  have f_r_1_w := x_r.frozen 1
  have c_r_2_w := x_r.cell (i := 2) rfl
  have f_r_2_w := x_r.frozen 2
  have c_r_3_w := x_r.cell (i := 3) rfl
  have f_r_3_w := x_r.frozen 3
  have c_r_4_w := x_r.cell (i := 4) rfl
  have f_r_4_w := x_r.frozen 4
  have c_r_5_w := x_r.cell (i := 5) rfl
  have f_r_5_w := x_r.frozen 5
  have c_r_6_w := x_r.cell (i := 6) rfl
  have f_r_6_w := x_r.frozen 6
  have c_r_7_w := x_r.cell (i := 7) rfl
  have f_r_7_w := x_r.frozen 7
  have c_r_8_w := x_r.cell (i := 8) rfl
  have f_r_8_w := x_r.frozen 8
  have c_l_0_w := x_l.cell (i := 0) rfl
  have f_l_0_w := x_l.frozen 0
  have c_l_1_w := x_l.cell (i := 1) rfl
  have f_l_1_w := x_l.frozen 1
  have c_l_2_w := x_l.cell (i := 2) rfl
  have f_l_2_w := x_l.frozen 2
  go_enter Tryd.func27, Tryd.ntmps27
  go_wp2_with fail
  refine wp_loop_rounds 4 ?_
  obtain ⟨ob0, hb0⟩ : ∃ b, (textNum y0).isSome = b := ⟨_, rfl⟩
  have HB0 := Lib.hid hb0
  clear hb0
  obtain ⟨n0, hn0⟩ : ∃ z, txN y0 = z := ⟨_, rfl⟩
  have HN0 := Lib.hid hn0
  clear hn0
  clear c_r_0_w f_r_0_w c_r_1_w f_r_1_w c_r_2_w f_r_2_w c_r_3_w f_r_3_w c_r_4_w f_r_4_w c_r_5_w f_r_5_w c_r_6_w f_r_6_w c_r_7_w f_r_7_w c_r_8_w f_r_8_w c_l_0_w f_l_0_w c_l_1_w f_l_1_w c_l_2_w f_l_2_w
  have c_r_0_w := x_r.cell (i := 0) rfl
  have f_r_0_w := x_r.frozen 0
  have c_r_1_w := x_r.cell (i := 1) rfl
  have f_r_1_w := x_r.frozen 1
  have c_r_2_w := x_r.cell (i := 2) rfl
  have f_r_2_w := x_r.frozen 2
  have c_r_3_w := x_r.cell (i := 3) rfl
  have f_r_3_w := x_r.frozen 3
  have c_r_4_w := x_r.cell (i := 4) rfl
  have f_r_4_w := x_r.frozen 4
  have c_r_5_w := x_r.cell (i := 5) rfl
  have f_r_5_w := x_r.frozen 5
  have c_r_6_w := x_r.cell (i := 6) rfl
  have f_r_6_w := x_r.frozen 6
  have c_r_7_w := x_r.cell (i := 7) rfl
  have f_r_7_w := x_r.frozen 7
  have c_r_8_w := x_r.cell (i := 8) rfl
  have f_r_8_w := x_r.frozen 8
  have c_l_0_w := x_l.cell (i := 0) rfl
  have f_l_0_w := x_l.frozen 0
  have c_l_1_w := x_l.cell (i := 1) rfl
  have f_l_1_w := x_l.frozen 1
  have c_l_2_w := x_l.cell (i := 2) rfl
  have f_l_2_w := x_l.frozen 2
  rw [rounds_succ]
  go_wp2_with fail
  refine (iTextNum_any _ _ (ht.below hW) zy0).mono ?_
  rintro e w1 ⟨rfl, h_w1⟩
  clear c_r_0_w f_r_0_w c_r_1_w f_r_1_w c_r_2_w f_r_2_w c_r_3_w f_r_3_w c_r_4_w f_r_4_w c_r_5_w f_r_5_w c_r_6_w f_r_6_w c_r_7_w f_r_7_w c_r_8_w f_r_8_w c_l_0_w f_l_0_w c_l_1_w f_l_1_w c_l_2_w f_l_2_w
  replace x_r := x_r.from_ h_w1
  replace x_l := x_l.from_ h_w1
  have B_w1 := hW.trans (h_w1.mono hW.size)
  have s_w1 := h_w1.size
  have C_w1 := C0.then_below h_w1
  rw [textVal_txN, HB0.out, HN0.out]
  replace e0 := (h_w1.cell (p := ⟨g, off, none⟩) (by show g < _; omega)).trans e0
  replace e1 := (h_w1.cell (p := ⟨g, off + 1, none⟩) (by show g < _; omega)).trans e1
  replace e2 := (h_w1.cell (p := ⟨g, off + 2, none⟩) (by show g < _; omega)).trans e2
  replace hWS := hWS.below h_w1 (by omega)
  cases ob0 with
  | false =>
    go_wp2
    go_ret2
    exact ⟨_, _, rfl, .inr ⟨rfl, okN_bad (j := 0) (by omega) (by rw [HY0.out]; exact HB0.out), rfl, _, x_r⟩, C_w1⟩
  | true =>
    have c_r_0_w1 := x_r.cell (i := 0) rfl
    have f_r_0_w1 := x_r.frozen 0
    have c_r_1_w1 := x_r.cell (i := 1) rfl
    have f_r_1_w1 := x_r.frozen 1
    have c_r_2_w1 := x_r.cell (i := 2) rfl
    have f_r_2_w1 := x_r.frozen 2
    have c_r_3_w1 := x_r.cell (i := 3) rfl
    have f_r_3_w1 := x_r.frozen 3
    have c_r_4_w1 := x_r.cell (i := 4) rfl
    have f_r_4_w1 := x_r.frozen 4
    have c_r_5_w1 := x_r.cell (i := 5) rfl
    have f_r_5_w1 := x_r.frozen 5
    have c_r_6_w1 := x_r.cell (i := 6) rfl
    have f_r_6_w1 := x_r.frozen 6
    have c_r_7_w1 := x_r.cell (i := 7) rfl
    have f_r_7_w1 := x_r.frozen 7
    have c_r_8_w1 := x_r.cell (i := 8) rfl
    have f_r_8_w1 := x_r.frozen 8
    have c_l_0_w1 := x_l.cell (i := 0) rfl
    have f_l_0_w1 := x_l.frozen 0
    have c_l_1_w1 := x_l.cell (i := 1) rfl
    have f_l_1_w1 := x_l.frozen 1
    have c_l_2_w1 := x_l.cell (i := 2) rfl
    have f_l_2_w1 := x_l.frozen 2
    obtain ⟨w2, e_w2, s_w2, h_w2, y⟩ := set_step x_r 1 (.int .i64 n0)
    have s_w2_1 := Nat.le_of_eq s_w2
    have s_w2_2 := Nat.le_of_eq s_w2.symm
    clear s_w2
    replace x_l := x_l.chg h_w2 (by omega)
    have B_w2 := Below.chg_ B_w1 h_w2 (by omega) (by omega)
    have C_w2 := C_w1.then_same h_w2
    replace x_r : Vr w2 (b) T [z0, .int .i64 n0, z2, z3, z4, z5, z6, z7, z8] := y
    clear y
    have c_r_0_w2 := x_r.cell (i := 0) rfl
    have f_r_0_w2 := x_r.frozen 0
    have c_r_1_w2 := x_r.cell (i := 1) rfl
    have f_r_1_w2 := x_r.frozen 1
    have c_r_2_w2 := x_r.cell (i := 2) rfl
    have f_r_2_w2 := x_r.frozen 2
    have c_r_3_w2 := x_r.cell (i := 3) rfl
    have f_r_3_w2 := x_r.frozen 3
    have c_r_4_w2 := x_r.cell (i := 4) rfl
    have f_r_4_w2 := x_r.frozen 4
    have c_r_5_w2 := x_r.cell (i := 5) rfl
    have f_r_5_w2 := x_r.frozen 5
    have c_r_6_w2 := x_r.cell (i := 6) rfl
    have f_r_6_w2 := x_r.frozen 6
    have c_r_7_w2 := x_r.cell (i := 7) rfl
    have f_r_7_w2 := x_r.frozen 7
    have c_r_8_w2 := x_r.cell (i := 8) rfl
    have f_r_8_w2 := x_r.frozen 8
    have c_l_0_w2 := x_l.cell (i := 0) rfl
    have f_l_0_w2 := x_l.frozen 0
    have c_l_1_w2 := x_l.cell (i := 1) rfl
    have f_l_1_w2 := x_l.frozen 1
    have c_l_2_w2 := x_l.cell (i := 2) rfl
    have f_l_2_w2 := x_l.frozen 2
    replace e0 := (h_w2.cell_at (p := ⟨g, off, none⟩) (by show g < _; omega) (.inl (by show g < b; omega))).trans e0
    replace e1 := (h_w2.cell_at (p := ⟨g, off + 1, none⟩) (by show g < _; omega) (.inl (by show g < b; omega))).trans e1
    replace e2 := (h_w2.cell_at (p := ⟨g, off + 2, none⟩) (by show g < _; omega) (.inl (by show g < b; omega))).trans e2
    replace hWS := hWS.chg h_w2 hB0 (by omega)
    go_wp2_with fail
    obtain ⟨ob1, hb1⟩ : ∃ b, (textNum y1).isSome = b := ⟨_, rfl⟩
    have HB1 := Lib.hid hb1
    clear hb1
    obtain ⟨n1, hn1⟩ : ∃ z, txN y1 = z := ⟨_, rfl⟩
    have HN1 := Lib.hid hn1
    clear hn1
    clear c_r_0_w1 f_r_0_w1 c_r_1_w1 f_r_1_w1 c_r_2_w1 f_r_2_w1 c_r_3_w1 f_r_3_w1 c_r_4_w1 f_r_4_w1 c_r_5_w1 f_r_5_w1 c_r_6_w1 f_r_6_w1 c_r_7_w1 f_r_7_w1 c_r_8_w1 f_r_8_w1 c_l_0_w1 f_l_0_w1 c_l_1_w1 f_l_1_w1 c_l_2_w1 f_l_2_w1 c_r_0_w2 f_r_0_w2 c_r_1_w2 f_r_1_w2 c_r_2_w2 f_r_2_w2 c_r_3_w2 f_r_3_w2 c_r_4_w2 f_r_4_w2 c_r_5_w2 f_r_5_w2 c_r_6_w2 f_r_6_w2 c_r_7_w2 f_r_7_w2 c_r_8_w2 f_r_8_w2 c_l_0_w2 f_l_0_w2 c_l_1_w2 f_l_1_w2 c_l_2_w2 f_l_2_w2
    have c_r_0_w2 := x_r.cell (i := 0) rfl
    have f_r_0_w2 := x_r.frozen 0
    have c_r_1_w2 := x_r.cell (i := 1) rfl
    have f_r_1_w2 := x_r.frozen 1
    have c_r_2_w2 := x_r.cell (i := 2) rfl
    have f_r_2_w2 := x_r.frozen 2
    have c_r_3_w2 := x_r.cell (i := 3) rfl
    have f_r_3_w2 := x_r.frozen 3
    have c_r_4_w2 := x_r.cell (i := 4) rfl
    have f_r_4_w2 := x_r.frozen 4
    have c_r_5_w2 := x_r.cell (i := 5) rfl
    have f_r_5_w2 := x_r.frozen 5
    have c_r_6_w2 := x_r.cell (i := 6) rfl
    have f_r_6_w2 := x_r.frozen 6
    have c_r_7_w2 := x_r.cell (i := 7) rfl
    have f_r_7_w2 := x_r.frozen 7
    have c_r_8_w2 := x_r.cell (i := 8) rfl
    have f_r_8_w2 := x_r.frozen 8
    have c_l_0_w2 := x_l.cell (i := 0) rfl
    have f_l_0_w2 := x_l.frozen 0
    have c_l_1_w2 := x_l.cell (i := 1) rfl
    have f_l_1_w2 := x_l.frozen 1
    have c_l_2_w2 := x_l.cell (i := 2) rfl
    have f_l_2_w2 := x_l.frozen 2
    rw [rounds_succ]
    go_wp2_with fail
    refine (iTextNum_any _ _ (ht.below B_w2) zy1).mono ?_
    rintro e w3 ⟨rfl, h_w3⟩
    clear c_r_0_w2 f_r_0_w2 c_r_1_w2 f_r_1_w2 c_r_2_w2 f_r_2_w2 c_r_3_w2 f_r_3_w2 c_r_4_w2 f_r_4_w2 c_r_5_w2 f_r_5_w2 c_r_6_w2 f_r_6_w2 c_r_7_w2 f_r_7_w2 c_r_8_w2 f_r_8_w2 c_l_0_w2 f_l_0_w2 c_l_1_w2 f_l_1_w2 c_l_2_w2 f_l_2_w2
    replace x_r := x_r.from_ h_w3
    replace x_l := x_l.from_ h_w3
    have B_w3 := B_w2.trans (h_w3.mono B_w2.size)
    have s_w3 := h_w3.size
    have C_w3 := C_w2.then_below h_w3
    rw [textVal_txN, HB1.out, HN1.out]
    replace e0 := (h_w3.cell (p := ⟨g, off, none⟩) (by show g < _; omega)).trans e0
    replace e1 := (h_w3.cell (p := ⟨g, off + 1, none⟩) (by show g < _; omega)).trans e1
    replace e2 := (h_w3.cell (p := ⟨g, off + 2, none⟩) (by show g < _; omega)).trans e2
    replace hWS := hWS.below h_w3 (by omega)
    cases ob1 with
    | false =>
      go_wp2
      go_ret2
      exact ⟨_, _, rfl, .inr ⟨rfl, okN_bad (j := 1) (by omega) (by rw [HY1.out]; exact HB1.out), rfl, _, x_r⟩, C_w3⟩
    | true =>
      have c_r_0_w3 := x_r.cell (i := 0) rfl
      have f_r_0_w3 := x_r.frozen 0
      have c_r_1_w3 := x_r.cell (i := 1) rfl
      have f_r_1_w3 := x_r.frozen 1
      have c_r_2_w3 := x_r.cell (i := 2) rfl
      have f_r_2_w3 := x_r.frozen 2
      have c_r_3_w3 := x_r.cell (i := 3) rfl
      have f_r_3_w3 := x_r.frozen 3
      have c_r_4_w3 := x_r.cell (i := 4) rfl
      have f_r_4_w3 := x_r.frozen 4
      have c_r_5_w3 := x_r.cell (i := 5) rfl
      have f_r_5_w3 := x_r.frozen 5
      have c_r_6_w3 := x_r.cell (i := 6) rfl
      have f_r_6_w3 := x_r.frozen 6
      have c_r_7_w3 := x_r.cell (i := 7) rfl
      have f_r_7_w3 := x_r.frozen 7
      have c_r_8_w3 := x_r.cell (i := 8) rfl
      have f_r_8_w3 := x_r.frozen 8
      have c_l_0_w3 := x_l.cell (i := 0) rfl
      have f_l_0_w3 := x_l.frozen 0
      have c_l_1_w3 := x_l.cell (i := 1) rfl
      have f_l_1_w3 := x_l.frozen 1
      have c_l_2_w3 := x_l.cell (i := 2) rfl
      have f_l_2_w3 := x_l.frozen 2
      obtain ⟨w4, e_w4, s_w4, h_w4, y⟩ := set_step x_r 3 (.int .i64 n1)
      have s_w4_1 := Nat.le_of_eq s_w4
      have s_w4_2 := Nat.le_of_eq s_w4.symm
      clear s_w4
      replace x_l := x_l.chg h_w4 (by omega)
      have B_w4 := Below.chg_ B_w3 h_w4 (by omega) (by omega)
      have C_w4 := C_w3.then_same h_w4
      replace x_r : Vr w4 (b) T [z0, .int .i64 n0, z2, .int .i64 n1, z4, z5, z6, z7, z8] := y
      clear y
      have c_r_0_w4 := x_r.cell (i := 0) rfl
      have f_r_0_w4 := x_r.frozen 0
      have c_r_1_w4 := x_r.cell (i := 1) rfl
      have f_r_1_w4 := x_r.frozen 1
      have c_r_2_w4 := x_r.cell (i := 2) rfl
      have f_r_2_w4 := x_r.frozen 2
      have c_r_3_w4 := x_r.cell (i := 3) rfl
      have f_r_3_w4 := x_r.frozen 3
      have c_r_4_w4 := x_r.cell (i := 4) rfl
      have f_r_4_w4 := x_r.frozen 4
      have c_r_5_w4 := x_r.cell (i := 5) rfl
      have f_r_5_w4 := x_r.frozen 5
      have c_r_6_w4 := x_r.cell (i := 6) rfl
      have f_r_6_w4 := x_r.frozen 6
      have c_r_7_w4 := x_r.cell (i := 7) rfl
      have f_r_7_w4 := x_r.frozen 7
      have c_r_8_w4 := x_r.cell (i := 8) rfl
      have f_r_8_w4 := x_r.frozen 8
      have c_l_0_w4 := x_l.cell (i := 0) rfl
      have f_l_0_w4 := x_l.frozen 0
      have c_l_1_w4 := x_l.cell (i := 1) rfl
      have f_l_1_w4 := x_l.frozen 1
      have c_l_2_w4 := x_l.cell (i := 2) rfl
      have f_l_2_w4 := x_l.frozen 2
      replace e0 := (h_w4.cell_at (p := ⟨g, off, none⟩) (by show g < _; omega) (.inl (by show g < b; omega))).trans e0
      replace e1 := (h_w4.cell_at (p := ⟨g, off + 1, none⟩) (by show g < _; omega) (.inl (by show g < b; omega))).trans e1
      replace e2 := (h_w4.cell_at (p := ⟨g, off + 2, none⟩) (by show g < _; omega) (.inl (by show g < b; omega))).trans e2
      replace hWS := hWS.chg h_w4 hB0 (by omega)
      go_wp2_with fail
      obtain ⟨ob2, hb2⟩ : ∃ b, (textNum y2).isSome = b := ⟨_, rfl⟩
      have HB2 := Lib.hid hb2
      clear hb2
      obtain ⟨n2, hn2⟩ : ∃ z, txN y2 = z := ⟨_, rfl⟩
      have HN2 := Lib.hid hn2
      clear hn2
      clear c_r_0_w3 f_r_0_w3 c_r_1_w3 f_r_1_w3 c_r_2_w3 f_r_2_w3 c_r_3_w3 f_r_3_w3 c_r_4_w3 f_r_4_w3 c_r_5_w3 f_r_5_w3 c_r_6_w3 f_r_6_w3 c_r_7_w3 f_r_7_w3 c_r_8_w3 f_r_8_w3 c_l_0_w3 f_l_0_w3 c_l_1_w3 f_l_1_w3 c_l_2_w3 f_l_2_w3 c_r_0_w4 f_r_0_w4 c_r_1_w4 f_r_1_w4 c_r_2_w4 f_r_2_w4 c_r_3_w4 f_r_3_w4 c_r_4_w4 f_r_4_w4 c_r_5_w4 f_r_5_w4 c_r_6_w4 f_r_6_w4 c_r_7_w4 f_r_7_w4 c_r_8_w4 f_r_8_w4 c_l_0_w4 f_l_0_w4 c_l_1_w4 f_l_1_w4 c_l_2_w4 f_l_2_w4
      have c_r_0_w4 := x_r.cell (i := 0) rfl
      have f_r_0_w4 := x_r.frozen 0
      have c_r_1_w4 := x_r.cell (i := 1) rfl
      have f_r_1_w4 := x_r.frozen 1
      have c_r_2_w4 := x_r.cell (i := 2) rfl
      have f_r_2_w4 := x_r.frozen 2
      have c_r_3_w4 := x_r.cell (i := 3) rfl
      have f_r_3_w4 := x_r.frozen 3
      have c_r_4_w4 := x_r.cell (i := 4) rfl
      have f_r_4_w4 := x_r.frozen 4
      have c_r_5_w4 := x_r.cell (i := 5) rfl
      have f_r_5_w4 := x_r.frozen 5
      have c_r_6_w4 := x_r.cell (i := 6) rfl
      have f_r_6_w4 := x_r.frozen 6
      have c_r_7_w4 := x_r.cell (i := 7) rfl
      have f_r_7_w4 := x_r.frozen 7
      have c_r_8_w4 := x_r.cell (i := 8) rfl
      have f_r_8_w4 := x_r.frozen 8
      have c_l_0_w4 := x_l.cell (i := 0) rfl
      have f_l_0_w4 := x_l.frozen 0
      have c_l_1_w4 := x_l.cell (i := 1) rfl
      have f_l_1_w4 := x_l.frozen 1
      have c_l_2_w4 := x_l.cell (i := 2) rfl
      have f_l_2_w4 := x_l.frozen 2
      rw [rounds_succ]
      go_wp2_with fail
      refine (iTextNum_any _ _ (ht.below B_w4) zy2).mono ?_
      rintro e w5 ⟨rfl, h_w5⟩
      clear c_r_0_w4 f_r_0_w4 c_r_1_w4 f_r_1_w4 c_r_2_w4 f_r_2_w4 c_r_3_w4 f_r_3_w4 c_r_4_w4 f_r_4_w4 c_r_5_w4 f_r_5_w4 c_r_6_w4 f_r_6_w4 c_r_7_w4 f_r_7_w4 c_r_8_w4 f_r_8_w4 c_l_0_w4 f_l_0_w4 c_l_1_w4 f_l_1_w4 c_l_2_w4 f_l_2_w4
      replace x_r := x_r.from_ h_w5
      replace x_l := x_l.from_ h_w5
      have B_w5 := B_w4.trans (h_w5.mono B_w4.size)
      have s_w5 := h_w5.size
      have C_w5 := C_w4.then_below h_w5
      rw [textVal_txN, HB2.out, HN2.out]
      replace e0 := (h_w5.cell (p := ⟨g, off, none⟩) (by show g < _; omega)).trans e0
      replace e1 := (h_w5.cell (p := ⟨g, off + 1, none⟩) (by show g < _; omega)).trans e1
      replace e2 := (h_w5.cell (p := ⟨g, off + 2, none⟩) (by show g < _; omega)).trans e2
      replace hWS := hWS.below h_w5 (by omega)
      cases ob2 with
      | false =>
        go_wp2
        go_ret2
        exact ⟨_, _, rfl, .inr ⟨rfl, okN_bad (j := 2) (by omega) (by rw [HY2.out]; exact HB2.out), rfl, _, x_r⟩, C_w5⟩
      | true =>
        have c_r_0_w5 := x_r.cell (i := 0) rfl
        have f_r_0_w5 := x_r.frozen 0
        have c_r_1_w5 := x_r.cell (i := 1) rfl
        have f_r_1_w5 := x_r.frozen 1
        have c_r_2_w5 := x_r.cell (i := 2) rfl
        have f_r_2_w5 := x_r.frozen 2
        have c_r_3_w5 := x_r.cell (i := 3) rfl
        have f_r_3_w5 := x_r.frozen 3
        have c_r_4_w5 := x_r.cell (i := 4) rfl
        have f_r_4_w5 := x_r.frozen 4
        have c_r_5_w5 := x_r.cell (i := 5) rfl
        have f_r_5_w5 := x_r.frozen 5
        have c_r_6_w5 := x_r.cell (i := 6) rfl
        have f_r_6_w5 := x_r.frozen 6
        have c_r_7_w5 := x_r.cell (i := 7) rfl
        have f_r_7_w5 := x_r.frozen 7
        have c_r_8_w5 := x_r.cell (i := 8) rfl
        have f_r_8_w5 := x_r.frozen 8
        have c_l_0_w5 := x_l.cell (i := 0) rfl
        have f_l_0_w5 := x_l.frozen 0
        have c_l_1_w5 := x_l.cell (i := 1) rfl
        have f_l_1_w5 := x_l.frozen 1
        have c_l_2_w5 := x_l.cell (i := 2) rfl
        have f_l_2_w5 := x_l.frozen 2
        obtain ⟨w6, e_w6, s_w6, h_w6, y⟩ := set_step x_r 4 (.int .i64 n2)
        have s_w6_1 := Nat.le_of_eq s_w6
        have s_w6_2 := Nat.le_of_eq s_w6.symm
        clear s_w6
        replace x_l := x_l.chg h_w6 (by omega)
        have B_w6 := Below.chg_ B_w5 h_w6 (by omega) (by omega)
        have C_w6 := C_w5.then_same h_w6
        replace x_r : Vr w6 (b) T [z0, .int .i64 n0, z2, .int .i64 n1, .int .i64 n2, z5, z6, z7, z8] := y
        clear y
        have c_r_0_w6 := x_r.cell (i := 0) rfl
        have f_r_0_w6 := x_r.frozen 0
        have c_r_1_w6 := x_r.cell (i := 1) rfl
        have f_r_1_w6 := x_r.frozen 1
        have c_r_2_w6 := x_r.cell (i := 2) rfl
        have f_r_2_w6 := x_r.frozen 2
        have c_r_3_w6 := x_r.cell (i := 3) rfl
        have f_r_3_w6 := x_r.frozen 3
        have c_r_4_w6 := x_r.cell (i := 4) rfl
        have f_r_4_w6 := x_r.frozen 4
        have c_r_5_w6 := x_r.cell (i := 5) rfl
        have f_r_5_w6 := x_r.frozen 5
        have c_r_6_w6 := x_r.cell (i := 6) rfl
        have f_r_6_w6 := x_r.frozen 6
        have c_r_7_w6 := x_r.cell (i := 7) rfl
        have f_r_7_w6 := x_r.frozen 7
        have c_r_8_w6 := x_r.cell (i := 8) rfl
        have f_r_8_w6 := x_r.frozen 8
        have c_l_0_w6 := x_l.cell (i := 0) rfl
        have f_l_0_w6 := x_l.frozen 0
        have c_l_1_w6 := x_l.cell (i := 1) rfl
        have f_l_1_w6 := x_l.frozen 1
        have c_l_2_w6 := x_l.cell (i := 2) rfl
        have f_l_2_w6 := x_l.frozen 2
        replace e0 := (h_w6.cell_at (p := ⟨g, off, none⟩) (by show g < _; omega) (.inl (by show g < b; omega))).trans e0
        replace e1 := (h_w6.cell_at (p := ⟨g, off + 1, none⟩) (by show g < _; omega) (.inl (by show g < b; omega))).trans e1
        replace e2 := (h_w6.cell_at (p := ⟨g, off + 2, none⟩) (by show g < _; omega) (.inl (by show g < b; omega))).trans e2
        replace hWS := hWS.chg h_w6 hB0 (by omega)
        go_wp2_with fail
        rw [rounds_succ]
        go_wp2
        go_ret2
        refine ⟨_, _, rfl, .inl ⟨rfl, (okN_iff ws 3).2 ⟨hn, fun j hj => ?_⟩, ?_, ?_⟩, C_w6⟩
        · have hj2 : j = 0 ∨ j = 1 ∨ j = 2 := by omega
          rcases hj2 with rfl | rfl | rfl
          · rw [HY0.out]; exact HB0.out
          · rw [HY1.out]; exact HB1.out
          · rw [HY2.out]; exact HB2.out
        · rw [HY0.out, HN0.out, HY1.out, HN1.out, HY2.out, HN2.out]; exact x_r
        · rw [← HX.out]; exact hWS.drop hn
set_option maxRecDepth 100000 in
set_option maxHeartbeats 4000000 in
theorem iRead_allNums {W0 w : World} (ht : Tab10 W0) (hW : Below W0.heap.size W0 w) {b B B0 : Nat} {T U : TypeId} {z0 z1 z2 z3 z4 z5 z6 z7 z8 v : Value} {ws : List ByteArray} (h0 : W0.heap.size ≤ b) (hB0 : B0 ≤ b) (x_r : Vr w b T [z0, z1, z2, z3, z4, z5, z6, z7, z8]) (x_l : Vr w B U [.pointer (some ⟨b, 1, none⟩), .pointer (some ⟨b, 2, none⟩), .pointer (some ⟨b, 3, none⟩), .pointer (some ⟨b, 4, none⟩)]) (hbB : b < B) (h : WS w B0 v ws) (hz : ∀ x ∈ ws, x.size ≤ 1048576) (hm : ws.length ≤ 16777216) :
    Calls Tryd.prog 27 #[v, .slice (some ⟨B, 0, none⟩) 4 4] w fun e w' => ∃ v' ok, e = .returned (.tuple #[v', .bool ok]) ∧ ((ok = true ∧ okN ws 4 = true ∧ Vr w' b T [z0, .int .i64 (txN (ws.getD 0 ByteArray.empty)), .int .i64 (txN (ws.getD 1 ByteArray.empty)), .int .i64 (txN (ws.getD 2 ByteArray.empty)), .int .i64 (txN (ws.getD 3 ByteArray.empty)), z5, z6, z7, z8] ∧ WS w' B0 v' (ws.drop 4)) ∨ (ok = false ∧ okN ws 4 = false ∧ v' = .slice none 0 0 ∧ ∃ cs, Vr w' b T cs)) ∧ Chg b (b + 1) w w' := by
  have C0 : Chg b (b + 1) w w := Chg.refl _ _ _
  have lb := x_r.lt
  have lB := x_l.lt
  obtain ⟨A, c, rfl, hc1, hc2, hr⟩ := h
  by_cases hn : 4 ≤ ws.length
  case neg =>
    have i1 : (ws.length : Int) < 4 := by omega
    go_enter Tryd.func27, Tryd.ntmps27
    go_wp2
    go_ret2
    exact ⟨_, _, rfl, .inr ⟨rfl, okN_short hn, rfl, _, x_r⟩, C0⟩
  have i1 : ¬ ((ws.length : Int) < 4) := by omega
  have hdr := run_wdrop A c 4 ws.length 4 rfl hn
  have hWS : WS w B0 (.slice A ws.length c) ws := ⟨A, c, rfl, hc1, hc2, hr⟩
  obtain ⟨g, off, hA, hg, hcell⟩ := hr (by omega)
  clear hr
  obtain ⟨y0, hy0⟩ : ∃ y, ws.getD 0 ByteArray.empty = y := ⟨_, rfl⟩
  have zy0 : y0.size ≤ 1073741824 := by rw [← hy0]; exact Nat.le_trans (getD_sz hz 0) (by omega)
  have e0 := hcell 0 (by omega)
  rw [hy0] at e0
  have HY0 := Lib.hid hy0
  have l0 : (0 : Int) < (ws.length : Int) := by omega
  obtain ⟨y1, hy1⟩ : ∃ y, ws.getD 1 ByteArray.empty = y := ⟨_, rfl⟩
  have zy1 : y1.size ≤ 1073741824 := by rw [← hy1]; exact Nat.le_trans (getD_sz hz 1) (by omega)
  have e1 := hcell 1 (by omega)
  rw [hy1] at e1
  have HY1 := Lib.hid hy1
  have l1 : (1 : Int) < (ws.length : Int) := by omega
  obtain ⟨y2, hy2⟩ : ∃ y, ws.getD 2 ByteArray.empty = y := ⟨_, rfl⟩
  have zy2 : y2.size ≤ 1073741824 := by rw [← hy2]; exact Nat.le_trans (getD_sz hz 2) (by omega)
  have e2 := hcell 2 (by omega)
  rw [hy2] at e2
  have HY2 := Lib.hid hy2
  have l2 : (2 : Int) < (ws.length : Int) := by omega
  obtain ⟨y3, hy3⟩ : ∃ y, ws.getD 3 ByteArray.empty = y := ⟨_, rfl⟩
  have zy3 : y3.size ≤ 1073741824 := by rw [← hy3]; exact Nat.le_trans (getD_sz hz 3) (by omega)
  have e3 := hcell 3 (by omega)
  rw [hy3] at e3
  have HY3 := Lib.hid hy3
  have l3 : (3 : Int) < (ws.length : Int) := by omega
  clear hcell hy0 hy1 hy2 hy3
  have hgw : g < w.heap.size := by omega
  simp only [Nat.add_zero] at e0
  generalize hdX : (if c = 4 then A else A.map (·.add (4 * 1))) = X at hdr
  have HX := Lib.hid hdX
  clear hdX
  have HAe := Lib.hid hA
  subst hA
  have c_r_0_w := x_r.cell (i := 0) rfl
  have f_r_0_w := x_r.frozen 0
  have c_r_1_w := x_r.cell (i := 1) rfl
  have f_r_1_w := x_r.frozen 1
  have c_r_2_w := x_r.cell (i := 2) rfl
  have f_r_2_w := x_r.frozen 2
  have c_r_3_w := x_r.cell (i := 3) rfl
  have f_r_3_w := x_r.frozen 3
  have c_r_4_w := x_r.cell (i := 4) rfl
  have f_r_4_w := x_r.frozen 4
  have c_r_5_w := x_r.cell (i := 5) rfl
  have f_r_5_w := x_r.frozen 5
  have c_r_6_w := x_r.cell (i := 6) rfl
  have f_r_6_w := x_r.frozen 6
  have c_r_7_w := x_r.cell (i := 7) rfl
  have f_r_7_w := x_r.frozen 7
  have c_r_8_w := x_r.cell (i := 8) rfl
  have f_r_8_w := x_r.frozen 8
  have c_l_0_w := x_l.cell (i := 0) rfl
  have f_l_0_w := x_l.frozen 0
  have c_l_1_w := x_l.cell (i := 1) rfl
  have f_l_1_w := x_l.frozen 1
  have c_l_2_w := x_l.cell (i := 2) rfl
  have f_l_2_w := x_l.frozen 2
  have c_l_3_w := x_l.cell (i := 3) rfl
  have f_l_3_w := x_l.frozen 3
  go_enter Tryd.func27, Tryd.ntmps27
  go_wp2_with fail
  refine wp_loop_rounds 5 ?_
  obtain ⟨ob0, hb0⟩ : ∃ b, (textNum y0).isSome = b := ⟨_, rfl⟩
  have HB0 := Lib.hid hb0
  clear hb0
  obtain ⟨n0, hn0⟩ : ∃ z, txN y0 = z := ⟨_, rfl⟩
  have HN0 := Lib.hid hn0
  clear hn0
  clear c_r_0_w f_r_0_w c_r_1_w f_r_1_w c_r_2_w f_r_2_w c_r_3_w f_r_3_w c_r_4_w f_r_4_w c_r_5_w f_r_5_w c_r_6_w f_r_6_w c_r_7_w f_r_7_w c_r_8_w f_r_8_w c_l_0_w f_l_0_w c_l_1_w f_l_1_w c_l_2_w f_l_2_w c_l_3_w f_l_3_w
  have c_r_0_w := x_r.cell (i := 0) rfl
  have f_r_0_w := x_r.frozen 0
  have c_r_1_w := x_r.cell (i := 1) rfl
  have f_r_1_w := x_r.frozen 1
  have c_r_2_w := x_r.cell (i := 2) rfl
  have f_r_2_w := x_r.frozen 2
  have c_r_3_w := x_r.cell (i := 3) rfl
  have f_r_3_w := x_r.frozen 3
  have c_r_4_w := x_r.cell (i := 4) rfl
  have f_r_4_w := x_r.frozen 4
  have c_r_5_w := x_r.cell (i := 5) rfl
  have f_r_5_w := x_r.frozen 5
  have c_r_6_w := x_r.cell (i := 6) rfl
  have f_r_6_w := x_r.frozen 6
  have c_r_7_w := x_r.cell (i := 7) rfl
  have f_r_7_w := x_r.frozen 7
  have c_r_8_w := x_r.cell (i := 8) rfl
  have f_r_8_w := x_r.frozen 8
  have c_l_0_w := x_l.cell (i := 0) rfl
  have f_l_0_w := x_l.frozen 0
  have c_l_1_w := x_l.cell (i := 1) rfl
  have f_l_1_w := x_l.frozen 1
  have c_l_2_w := x_l.cell (i := 2) rfl
  have f_l_2_w := x_l.frozen 2
  have c_l_3_w := x_l.cell (i := 3) rfl
  have f_l_3_w := x_l.frozen 3
  rw [rounds_succ]
  go_wp2_with fail
  refine (iTextNum_any _ _ (ht.below hW) zy0).mono ?_
  rintro e w1 ⟨rfl, h_w1⟩
  clear c_r_0_w f_r_0_w c_r_1_w f_r_1_w c_r_2_w f_r_2_w c_r_3_w f_r_3_w c_r_4_w f_r_4_w c_r_5_w f_r_5_w c_r_6_w f_r_6_w c_r_7_w f_r_7_w c_r_8_w f_r_8_w c_l_0_w f_l_0_w c_l_1_w f_l_1_w c_l_2_w f_l_2_w c_l_3_w f_l_3_w
  replace x_r := x_r.from_ h_w1
  replace x_l := x_l.from_ h_w1
  have B_w1 := hW.trans (h_w1.mono hW.size)
  have s_w1 := h_w1.size
  have C_w1 := C0.then_below h_w1
  rw [textVal_txN, HB0.out, HN0.out]
  replace e0 := (h_w1.cell (p := ⟨g, off, none⟩) (by show g < _; omega)).trans e0
  replace e1 := (h_w1.cell (p := ⟨g, off + 1, none⟩) (by show g < _; omega)).trans e1
  replace e2 := (h_w1.cell (p := ⟨g, off + 2, none⟩) (by show g < _; omega)).trans e2
  replace e3 := (h_w1.cell (p := ⟨g, off + 3, none⟩) (by show g < _; omega)).trans e3
  replace hWS := hWS.below h_w1 (by omega)
  cases ob0 with
  | false =>
    go_wp2
    go_ret2
    exact ⟨_, _, rfl, .inr ⟨rfl, okN_bad (j := 0) (by omega) (by rw [HY0.out]; exact HB0.out), rfl, _, x_r⟩, C_w1⟩
  | true =>
    have c_r_0_w1 := x_r.cell (i := 0) rfl
    have f_r_0_w1 := x_r.frozen 0
    have c_r_1_w1 := x_r.cell (i := 1) rfl
    have f_r_1_w1 := x_r.frozen 1
    have c_r_2_w1 := x_r.cell (i := 2) rfl
    have f_r_2_w1 := x_r.frozen 2
    have c_r_3_w1 := x_r.cell (i := 3) rfl
    have f_r_3_w1 := x_r.frozen 3
    have c_r_4_w1 := x_r.cell (i := 4) rfl
    have f_r_4_w1 := x_r.frozen 4
    have c_r_5_w1 := x_r.cell (i := 5) rfl
    have f_r_5_w1 := x_r.frozen 5
    have c_r_6_w1 := x_r.cell (i := 6) rfl
    have f_r_6_w1 := x_r.frozen 6
    have c_r_7_w1 := x_r.cell (i := 7) rfl
    have f_r_7_w1 := x_r.frozen 7
    have c_r_8_w1 := x_r.cell (i := 8) rfl
    have f_r_8_w1 := x_r.frozen 8
    have c_l_0_w1 := x_l.cell (i := 0) rfl
    have f_l_0_w1 := x_l.frozen 0
    have c_l_1_w1 := x_l.cell (i := 1) rfl
    have f_l_1_w1 := x_l.frozen 1
    have c_l_2_w1 := x_l.cell (i := 2) rfl
    have f_l_2_w1 := x_l.frozen 2
    have c_l_3_w1 := x_l.cell (i := 3) rfl
    have f_l_3_w1 := x_l.frozen 3
    obtain ⟨w2, e_w2, s_w2, h_w2, y⟩ := set_step x_r 1 (.int .i64 n0)
    have s_w2_1 := Nat.le_of_eq s_w2
    have s_w2_2 := Nat.le_of_eq s_w2.symm
    clear s_w2
    replace x_l := x_l.chg h_w2 (by omega)
    have B_w2 := Below.chg_ B_w1 h_w2 (by omega) (by omega)
    have C_w2 := C_w1.then_same h_w2
    replace x_r : Vr w2 (b) T [z0, .int .i64 n0, z2, z3, z4, z5, z6, z7, z8] := y
    clear y
    have c_r_0_w2 := x_r.cell (i := 0) rfl
    have f_r_0_w2 := x_r.frozen 0
    have c_r_1_w2 := x_r.cell (i := 1) rfl
    have f_r_1_w2 := x_r.frozen 1
    have c_r_2_w2 := x_r.cell (i := 2) rfl
    have f_r_2_w2 := x_r.frozen 2
    have c_r_3_w2 := x_r.cell (i := 3) rfl
    have f_r_3_w2 := x_r.frozen 3
    have c_r_4_w2 := x_r.cell (i := 4) rfl
    have f_r_4_w2 := x_r.frozen 4
    have c_r_5_w2 := x_r.cell (i := 5) rfl
    have f_r_5_w2 := x_r.frozen 5
    have c_r_6_w2 := x_r.cell (i := 6) rfl
    have f_r_6_w2 := x_r.frozen 6
    have c_r_7_w2 := x_r.cell (i := 7) rfl
    have f_r_7_w2 := x_r.frozen 7
    have c_r_8_w2 := x_r.cell (i := 8) rfl
    have f_r_8_w2 := x_r.frozen 8
    have c_l_0_w2 := x_l.cell (i := 0) rfl
    have f_l_0_w2 := x_l.frozen 0
    have c_l_1_w2 := x_l.cell (i := 1) rfl
    have f_l_1_w2 := x_l.frozen 1
    have c_l_2_w2 := x_l.cell (i := 2) rfl
    have f_l_2_w2 := x_l.frozen 2
    have c_l_3_w2 := x_l.cell (i := 3) rfl
    have f_l_3_w2 := x_l.frozen 3
    replace e0 := (h_w2.cell_at (p := ⟨g, off, none⟩) (by show g < _; omega) (.inl (by show g < b; omega))).trans e0
    replace e1 := (h_w2.cell_at (p := ⟨g, off + 1, none⟩) (by show g < _; omega) (.inl (by show g < b; omega))).trans e1
    replace e2 := (h_w2.cell_at (p := ⟨g, off + 2, none⟩) (by show g < _; omega) (.inl (by show g < b; omega))).trans e2
    replace e3 := (h_w2.cell_at (p := ⟨g, off + 3, none⟩) (by show g < _; omega) (.inl (by show g < b; omega))).trans e3
    replace hWS := hWS.chg h_w2 hB0 (by omega)
    go_wp2_with fail
    obtain ⟨ob1, hb1⟩ : ∃ b, (textNum y1).isSome = b := ⟨_, rfl⟩
    have HB1 := Lib.hid hb1
    clear hb1
    obtain ⟨n1, hn1⟩ : ∃ z, txN y1 = z := ⟨_, rfl⟩
    have HN1 := Lib.hid hn1
    clear hn1
    clear c_r_0_w1 f_r_0_w1 c_r_1_w1 f_r_1_w1 c_r_2_w1 f_r_2_w1 c_r_3_w1 f_r_3_w1 c_r_4_w1 f_r_4_w1 c_r_5_w1 f_r_5_w1 c_r_6_w1 f_r_6_w1 c_r_7_w1 f_r_7_w1 c_r_8_w1 f_r_8_w1 c_l_0_w1 f_l_0_w1 c_l_1_w1 f_l_1_w1 c_l_2_w1 f_l_2_w1 c_l_3_w1 f_l_3_w1 c_r_0_w2 f_r_0_w2 c_r_1_w2 f_r_1_w2 c_r_2_w2 f_r_2_w2 c_r_3_w2 f_r_3_w2 c_r_4_w2 f_r_4_w2 c_r_5_w2 f_r_5_w2 c_r_6_w2 f_r_6_w2 c_r_7_w2 f_r_7_w2 c_r_8_w2 f_r_8_w2 c_l_0_w2 f_l_0_w2 c_l_1_w2 f_l_1_w2 c_l_2_w2 f_l_2_w2 c_l_3_w2 f_l_3_w2
    have c_r_0_w2 := x_r.cell (i := 0) rfl
    have f_r_0_w2 := x_r.frozen 0
    have c_r_1_w2 := x_r.cell (i := 1) rfl
    have f_r_1_w2 := x_r.frozen 1
    have c_r_2_w2 := x_r.cell (i := 2) rfl
    have f_r_2_w2 := x_r.frozen 2
    have c_r_3_w2 := x_r.cell (i := 3) rfl
    have f_r_3_w2 := x_r.frozen 3
    have c_r_4_w2 := x_r.cell (i := 4) rfl
    have f_r_4_w2 := x_r.frozen 4
    have c_r_5_w2 := x_r.cell (i := 5) rfl
    have f_r_5_w2 := x_r.frozen 5
    have c_r_6_w2 := x_r.cell (i := 6) rfl
    have f_r_6_w2 := x_r.frozen 6
    have c_r_7_w2 := x_r.cell (i := 7) rfl
    have f_r_7_w2 := x_r.frozen 7
    have c_r_8_w2 := x_r.cell (i := 8) rfl
    have f_r_8_w2 := x_r.frozen 8
    have c_l_0_w2 := x_l.cell (i := 0) rfl
    have f_l_0_w2 := x_l.frozen 0
    have c_l_1_w2 := x_l.cell (i := 1) rfl
    have f_l_1_w2 := x_l.frozen 1
    have c_l_2_w2 := x_l.cell (i := 2) rfl
    have f_l_2_w2 := x_l.frozen 2
    have c_l_3_w2 := x_l.cell (i := 3) rfl
    have f_l_3_w2 := x_l.frozen 3
    rw [rounds_succ]
    go_wp2_with fail
    refine (iTextNum_any _ _ (ht.below B_w2) zy1).mono ?_
    rintro e w3 ⟨rfl, h_w3⟩
    clear c_r_0_w2 f_r_0_w2 c_r_1_w2 f_r_1_w2 c_r_2_w2 f_r_2_w2 c_r_3_w2 f_r_3_w2 c_r_4_w2 f_r_4_w2 c_r_5_w2 f_r_5_w2 c_r_6_w2 f_r_6_w2 c_r_7_w2 f_r_7_w2 c_r_8_w2 f_r_8_w2 c_l_0_w2 f_l_0_w2 c_l_1_w2 f_l_1_w2 c_l_2_w2 f_l_2_w2 c_l_3_w2 f_l_3_w2
    replace x_r := x_r.from_ h_w3
    replace x_l := x_l.from_ h_w3
    have B_w3 := B_w2.trans (h_w3.mono B_w2.size)
    have s_w3 := h_w3.size
    have C_w3 := C_w2.then_below h_w3
    rw [textVal_txN, HB1.out, HN1.out]
    replace e0 := (h_w3.cell (p := ⟨g, off, none⟩) (by show g < _; omega)).trans e0
    replace e1 := (h_w3.cell (p := ⟨g, off + 1, none⟩) (by show g < _; omega)).trans e1
    replace e2 := (h_w3.cell (p := ⟨g, off + 2, none⟩) (by show g < _; omega)).trans e2
    replace e3 := (h_w3.cell (p := ⟨g, off + 3, none⟩) (by show g < _; omega)).trans e3
    replace hWS := hWS.below h_w3 (by omega)
    cases ob1 with
    | false =>
      go_wp2
      go_ret2
      exact ⟨_, _, rfl, .inr ⟨rfl, okN_bad (j := 1) (by omega) (by rw [HY1.out]; exact HB1.out), rfl, _, x_r⟩, C_w3⟩
    | true =>
      have c_r_0_w3 := x_r.cell (i := 0) rfl
      have f_r_0_w3 := x_r.frozen 0
      have c_r_1_w3 := x_r.cell (i := 1) rfl
      have f_r_1_w3 := x_r.frozen 1
      have c_r_2_w3 := x_r.cell (i := 2) rfl
      have f_r_2_w3 := x_r.frozen 2
      have c_r_3_w3 := x_r.cell (i := 3) rfl
      have f_r_3_w3 := x_r.frozen 3
      have c_r_4_w3 := x_r.cell (i := 4) rfl
      have f_r_4_w3 := x_r.frozen 4
      have c_r_5_w3 := x_r.cell (i := 5) rfl
      have f_r_5_w3 := x_r.frozen 5
      have c_r_6_w3 := x_r.cell (i := 6) rfl
      have f_r_6_w3 := x_r.frozen 6
      have c_r_7_w3 := x_r.cell (i := 7) rfl
      have f_r_7_w3 := x_r.frozen 7
      have c_r_8_w3 := x_r.cell (i := 8) rfl
      have f_r_8_w3 := x_r.frozen 8
      have c_l_0_w3 := x_l.cell (i := 0) rfl
      have f_l_0_w3 := x_l.frozen 0
      have c_l_1_w3 := x_l.cell (i := 1) rfl
      have f_l_1_w3 := x_l.frozen 1
      have c_l_2_w3 := x_l.cell (i := 2) rfl
      have f_l_2_w3 := x_l.frozen 2
      have c_l_3_w3 := x_l.cell (i := 3) rfl
      have f_l_3_w3 := x_l.frozen 3
      obtain ⟨w4, e_w4, s_w4, h_w4, y⟩ := set_step x_r 2 (.int .i64 n1)
      have s_w4_1 := Nat.le_of_eq s_w4
      have s_w4_2 := Nat.le_of_eq s_w4.symm
      clear s_w4
      replace x_l := x_l.chg h_w4 (by omega)
      have B_w4 := Below.chg_ B_w3 h_w4 (by omega) (by omega)
      have C_w4 := C_w3.then_same h_w4
      replace x_r : Vr w4 (b) T [z0, .int .i64 n0, .int .i64 n1, z3, z4, z5, z6, z7, z8] := y
      clear y
      have c_r_0_w4 := x_r.cell (i := 0) rfl
      have f_r_0_w4 := x_r.frozen 0
      have c_r_1_w4 := x_r.cell (i := 1) rfl
      have f_r_1_w4 := x_r.frozen 1
      have c_r_2_w4 := x_r.cell (i := 2) rfl
      have f_r_2_w4 := x_r.frozen 2
      have c_r_3_w4 := x_r.cell (i := 3) rfl
      have f_r_3_w4 := x_r.frozen 3
      have c_r_4_w4 := x_r.cell (i := 4) rfl
      have f_r_4_w4 := x_r.frozen 4
      have c_r_5_w4 := x_r.cell (i := 5) rfl
      have f_r_5_w4 := x_r.frozen 5
      have c_r_6_w4 := x_r.cell (i := 6) rfl
      have f_r_6_w4 := x_r.frozen 6
      have c_r_7_w4 := x_r.cell (i := 7) rfl
      have f_r_7_w4 := x_r.frozen 7
      have c_r_8_w4 := x_r.cell (i := 8) rfl
      have f_r_8_w4 := x_r.frozen 8
      have c_l_0_w4 := x_l.cell (i := 0) rfl
      have f_l_0_w4 := x_l.frozen 0
      have c_l_1_w4 := x_l.cell (i := 1) rfl
      have f_l_1_w4 := x_l.frozen 1
      have c_l_2_w4 := x_l.cell (i := 2) rfl
      have f_l_2_w4 := x_l.frozen 2
      have c_l_3_w4 := x_l.cell (i := 3) rfl
      have f_l_3_w4 := x_l.frozen 3
      replace e0 := (h_w4.cell_at (p := ⟨g, off, none⟩) (by show g < _; omega) (.inl (by show g < b; omega))).trans e0
      replace e1 := (h_w4.cell_at (p := ⟨g, off + 1, none⟩) (by show g < _; omega) (.inl (by show g < b; omega))).trans e1
      replace e2 := (h_w4.cell_at (p := ⟨g, off + 2, none⟩) (by show g < _; omega) (.inl (by show g < b; omega))).trans e2
      replace e3 := (h_w4.cell_at (p := ⟨g, off + 3, none⟩) (by show g < _; omega) (.inl (by show g < b; omega))).trans e3
      replace hWS := hWS.chg h_w4 hB0 (by omega)
      go_wp2_with fail
      obtain ⟨ob2, hb2⟩ : ∃ b, (textNum y2).isSome = b := ⟨_, rfl⟩
      have HB2 := Lib.hid hb2
      clear hb2
      obtain ⟨n2, hn2⟩ : ∃ z, txN y2 = z := ⟨_, rfl⟩
      have HN2 := Lib.hid hn2
      clear hn2
      clear c_r_0_w3 f_r_0_w3 c_r_1_w3 f_r_1_w3 c_r_2_w3 f_r_2_w3 c_r_3_w3 f_r_3_w3 c_r_4_w3 f_r_4_w3 c_r_5_w3 f_r_5_w3 c_r_6_w3 f_r_6_w3 c_r_7_w3 f_r_7_w3 c_r_8_w3 f_r_8_w3 c_l_0_w3 f_l_0_w3 c_l_1_w3 f_l_1_w3 c_l_2_w3 f_l_2_w3 c_l_3_w3 f_l_3_w3 c_r_0_w4 f_r_0_w4 c_r_1_w4 f_r_1_w4 c_r_2_w4 f_r_2_w4 c_r_3_w4 f_r_3_w4 c_r_4_w4 f_r_4_w4 c_r_5_w4 f_r_5_w4 c_r_6_w4 f_r_6_w4 c_r_7_w4 f_r_7_w4 c_r_8_w4 f_r_8_w4 c_l_0_w4 f_l_0_w4 c_l_1_w4 f_l_1_w4 c_l_2_w4 f_l_2_w4 c_l_3_w4 f_l_3_w4
      have c_r_0_w4 := x_r.cell (i := 0) rfl
      have f_r_0_w4 := x_r.frozen 0
      have c_r_1_w4 := x_r.cell (i := 1) rfl
      have f_r_1_w4 := x_r.frozen 1
      have c_r_2_w4 := x_r.cell (i := 2) rfl
      have f_r_2_w4 := x_r.frozen 2
      have c_r_3_w4 := x_r.cell (i := 3) rfl
      have f_r_3_w4 := x_r.frozen 3
      have c_r_4_w4 := x_r.cell (i := 4) rfl
      have f_r_4_w4 := x_r.frozen 4
      have c_r_5_w4 := x_r.cell (i := 5) rfl
      have f_r_5_w4 := x_r.frozen 5
      have c_r_6_w4 := x_r.cell (i := 6) rfl
      have f_r_6_w4 := x_r.frozen 6
      have c_r_7_w4 := x_r.cell (i := 7) rfl
      have f_r_7_w4 := x_r.frozen 7
      have c_r_8_w4 := x_r.cell (i := 8) rfl
      have f_r_8_w4 := x_r.frozen 8
      have c_l_0_w4 := x_l.cell (i := 0) rfl
      have f_l_0_w4 := x_l.frozen 0
      have c_l_1_w4 := x_l.cell (i := 1) rfl
      have f_l_1_w4 := x_l.frozen 1
      have c_l_2_w4 := x_l.cell (i := 2) rfl
      have f_l_2_w4 := x_l.frozen 2
      have c_l_3_w4 := x_l.cell (i := 3) rfl
      have f_l_3_w4 := x_l.frozen 3
      rw [rounds_succ]
      go_wp2_with fail
      refine (iTextNum_any _ _ (ht.below B_w4) zy2).mono ?_
      rintro e w5 ⟨rfl, h_w5⟩
      clear c_r_0_w4 f_r_0_w4 c_r_1_w4 f_r_1_w4 c_r_2_w4 f_r_2_w4 c_r_3_w4 f_r_3_w4 c_r_4_w4 f_r_4_w4 c_r_5_w4 f_r_5_w4 c_r_6_w4 f_r_6_w4 c_r_7_w4 f_r_7_w4 c_r_8_w4 f_r_8_w4 c_l_0_w4 f_l_0_w4 c_l_1_w4 f_l_1_w4 c_l_2_w4 f_l_2_w4 c_l_3_w4 f_l_3_w4
      replace x_r := x_r.from_ h_w5
      replace x_l := x_l.from_ h_w5
      have B_w5 := B_w4.trans (h_w5.mono B_w4.size)
      have s_w5 := h_w5.size
      have C_w5 := C_w4.then_below h_w5
      rw [textVal_txN, HB2.out, HN2.out]
      replace e0 := (h_w5.cell (p := ⟨g, off, none⟩) (by show g < _; omega)).trans e0
      replace e1 := (h_w5.cell (p := ⟨g, off + 1, none⟩) (by show g < _; omega)).trans e1
      replace e2 := (h_w5.cell (p := ⟨g, off + 2, none⟩) (by show g < _; omega)).trans e2
      replace e3 := (h_w5.cell (p := ⟨g, off + 3, none⟩) (by show g < _; omega)).trans e3
      replace hWS := hWS.below h_w5 (by omega)
      cases ob2 with
      | false =>
        go_wp2
        go_ret2
        exact ⟨_, _, rfl, .inr ⟨rfl, okN_bad (j := 2) (by omega) (by rw [HY2.out]; exact HB2.out), rfl, _, x_r⟩, C_w5⟩
      | true =>
        have c_r_0_w5 := x_r.cell (i := 0) rfl
        have f_r_0_w5 := x_r.frozen 0
        have c_r_1_w5 := x_r.cell (i := 1) rfl
        have f_r_1_w5 := x_r.frozen 1
        have c_r_2_w5 := x_r.cell (i := 2) rfl
        have f_r_2_w5 := x_r.frozen 2
        have c_r_3_w5 := x_r.cell (i := 3) rfl
        have f_r_3_w5 := x_r.frozen 3
        have c_r_4_w5 := x_r.cell (i := 4) rfl
        have f_r_4_w5 := x_r.frozen 4
        have c_r_5_w5 := x_r.cell (i := 5) rfl
        have f_r_5_w5 := x_r.frozen 5
        have c_r_6_w5 := x_r.cell (i := 6) rfl
        have f_r_6_w5 := x_r.frozen 6
        have c_r_7_w5 := x_r.cell (i := 7) rfl
        have f_r_7_w5 := x_r.frozen 7
        have c_r_8_w5 := x_r.cell (i := 8) rfl
        have f_r_8_w5 := x_r.frozen 8
        have c_l_0_w5 := x_l.cell (i := 0) rfl
        have f_l_0_w5 := x_l.frozen 0
        have c_l_1_w5 := x_l.cell (i := 1) rfl
        have f_l_1_w5 := x_l.frozen 1
        have c_l_2_w5 := x_l.cell (i := 2) rfl
        have f_l_2_w5 := x_l.frozen 2
        have c_l_3_w5 := x_l.cell (i := 3) rfl
        have f_l_3_w5 := x_l.frozen 3
        obtain ⟨w6, e_w6, s_w6, h_w6, y⟩ := set_step x_r 3 (.int .i64 n2)
        have s_w6_1 := Nat.le_of_eq s_w6
        have s_w6_2 := Nat.le_of_eq s_w6.symm
        clear s_w6
        replace x_l := x_l.chg h_w6 (by omega)
        have B_w6 := Below.chg_ B_w5 h_w6 (by omega) (by omega)
        have C_w6 := C_w5.then_same h_w6
        replace x_r : Vr w6 (b) T [z0, .int .i64 n0, .int .i64 n1, .int .i64 n2, z4, z5, z6, z7, z8] := y
        clear y
        have c_r_0_w6 := x_r.cell (i := 0) rfl
        have f_r_0_w6 := x_r.frozen 0
        have c_r_1_w6 := x_r.cell (i := 1) rfl
        have f_r_1_w6 := x_r.frozen 1
        have c_r_2_w6 := x_r.cell (i := 2) rfl
        have f_r_2_w6 := x_r.frozen 2
        have c_r_3_w6 := x_r.cell (i := 3) rfl
        have f_r_3_w6 := x_r.frozen 3
        have c_r_4_w6 := x_r.cell (i := 4) rfl
        have f_r_4_w6 := x_r.frozen 4
        have c_r_5_w6 := x_r.cell (i := 5) rfl
        have f_r_5_w6 := x_r.frozen 5
        have c_r_6_w6 := x_r.cell (i := 6) rfl
        have f_r_6_w6 := x_r.frozen 6
        have c_r_7_w6 := x_r.cell (i := 7) rfl
        have f_r_7_w6 := x_r.frozen 7
        have c_r_8_w6 := x_r.cell (i := 8) rfl
        have f_r_8_w6 := x_r.frozen 8
        have c_l_0_w6 := x_l.cell (i := 0) rfl
        have f_l_0_w6 := x_l.frozen 0
        have c_l_1_w6 := x_l.cell (i := 1) rfl
        have f_l_1_w6 := x_l.frozen 1
        have c_l_2_w6 := x_l.cell (i := 2) rfl
        have f_l_2_w6 := x_l.frozen 2
        have c_l_3_w6 := x_l.cell (i := 3) rfl
        have f_l_3_w6 := x_l.frozen 3
        replace e0 := (h_w6.cell_at (p := ⟨g, off, none⟩) (by show g < _; omega) (.inl (by show g < b; omega))).trans e0
        replace e1 := (h_w6.cell_at (p := ⟨g, off + 1, none⟩) (by show g < _; omega) (.inl (by show g < b; omega))).trans e1
        replace e2 := (h_w6.cell_at (p := ⟨g, off + 2, none⟩) (by show g < _; omega) (.inl (by show g < b; omega))).trans e2
        replace e3 := (h_w6.cell_at (p := ⟨g, off + 3, none⟩) (by show g < _; omega) (.inl (by show g < b; omega))).trans e3
        replace hWS := hWS.chg h_w6 hB0 (by omega)
        go_wp2_with fail
        obtain ⟨ob3, hb3⟩ : ∃ b, (textNum y3).isSome = b := ⟨_, rfl⟩
        have HB3 := Lib.hid hb3
        clear hb3
        obtain ⟨n3, hn3⟩ : ∃ z, txN y3 = z := ⟨_, rfl⟩
        have HN3 := Lib.hid hn3
        clear hn3
        clear c_r_0_w5 f_r_0_w5 c_r_1_w5 f_r_1_w5 c_r_2_w5 f_r_2_w5 c_r_3_w5 f_r_3_w5 c_r_4_w5 f_r_4_w5 c_r_5_w5 f_r_5_w5 c_r_6_w5 f_r_6_w5 c_r_7_w5 f_r_7_w5 c_r_8_w5 f_r_8_w5 c_l_0_w5 f_l_0_w5 c_l_1_w5 f_l_1_w5 c_l_2_w5 f_l_2_w5 c_l_3_w5 f_l_3_w5 c_r_0_w6 f_r_0_w6 c_r_1_w6 f_r_1_w6 c_r_2_w6 f_r_2_w6 c_r_3_w6 f_r_3_w6 c_r_4_w6 f_r_4_w6 c_r_5_w6 f_r_5_w6 c_r_6_w6 f_r_6_w6 c_r_7_w6 f_r_7_w6 c_r_8_w6 f_r_8_w6 c_l_0_w6 f_l_0_w6 c_l_1_w6 f_l_1_w6 c_l_2_w6 f_l_2_w6 c_l_3_w6 f_l_3_w6
        have c_r_0_w6 := x_r.cell (i := 0) rfl
        have f_r_0_w6 := x_r.frozen 0
        have c_r_1_w6 := x_r.cell (i := 1) rfl
        have f_r_1_w6 := x_r.frozen 1
        have c_r_2_w6 := x_r.cell (i := 2) rfl
        have f_r_2_w6 := x_r.frozen 2
        have c_r_3_w6 := x_r.cell (i := 3) rfl
        have f_r_3_w6 := x_r.frozen 3
        have c_r_4_w6 := x_r.cell (i := 4) rfl
        have f_r_4_w6 := x_r.frozen 4
        have c_r_5_w6 := x_r.cell (i := 5) rfl
        have f_r_5_w6 := x_r.frozen 5
        have c_r_6_w6 := x_r.cell (i := 6) rfl
        have f_r_6_w6 := x_r.frozen 6
        have c_r_7_w6 := x_r.cell (i := 7) rfl
        have f_r_7_w6 := x_r.frozen 7
        have c_r_8_w6 := x_r.cell (i := 8) rfl
        have f_r_8_w6 := x_r.frozen 8
        have c_l_0_w6 := x_l.cell (i := 0) rfl
        have f_l_0_w6 := x_l.frozen 0
        have c_l_1_w6 := x_l.cell (i := 1) rfl
        have f_l_1_w6 := x_l.frozen 1
        have c_l_2_w6 := x_l.cell (i := 2) rfl
        have f_l_2_w6 := x_l.frozen 2
        have c_l_3_w6 := x_l.cell (i := 3) rfl
        have f_l_3_w6 := x_l.frozen 3
        rw [rounds_succ]
        go_wp2_with fail
        refine (iTextNum_any _ _ (ht.below B_w6) zy3).mono ?_
        rintro e w7 ⟨rfl, h_w7⟩
        clear c_r_0_w6 f_r_0_w6 c_r_1_w6 f_r_1_w6 c_r_2_w6 f_r_2_w6 c_r_3_w6 f_r_3_w6 c_r_4_w6 f_r_4_w6 c_r_5_w6 f_r_5_w6 c_r_6_w6 f_r_6_w6 c_r_7_w6 f_r_7_w6 c_r_8_w6 f_r_8_w6 c_l_0_w6 f_l_0_w6 c_l_1_w6 f_l_1_w6 c_l_2_w6 f_l_2_w6 c_l_3_w6 f_l_3_w6
        replace x_r := x_r.from_ h_w7
        replace x_l := x_l.from_ h_w7
        have B_w7 := B_w6.trans (h_w7.mono B_w6.size)
        have s_w7 := h_w7.size
        have C_w7 := C_w6.then_below h_w7
        rw [textVal_txN, HB3.out, HN3.out]
        replace e0 := (h_w7.cell (p := ⟨g, off, none⟩) (by show g < _; omega)).trans e0
        replace e1 := (h_w7.cell (p := ⟨g, off + 1, none⟩) (by show g < _; omega)).trans e1
        replace e2 := (h_w7.cell (p := ⟨g, off + 2, none⟩) (by show g < _; omega)).trans e2
        replace e3 := (h_w7.cell (p := ⟨g, off + 3, none⟩) (by show g < _; omega)).trans e3
        replace hWS := hWS.below h_w7 (by omega)
        cases ob3 with
        | false =>
          go_wp2
          go_ret2
          exact ⟨_, _, rfl, .inr ⟨rfl, okN_bad (j := 3) (by omega) (by rw [HY3.out]; exact HB3.out), rfl, _, x_r⟩, C_w7⟩
        | true =>
          have c_r_0_w7 := x_r.cell (i := 0) rfl
          have f_r_0_w7 := x_r.frozen 0
          have c_r_1_w7 := x_r.cell (i := 1) rfl
          have f_r_1_w7 := x_r.frozen 1
          have c_r_2_w7 := x_r.cell (i := 2) rfl
          have f_r_2_w7 := x_r.frozen 2
          have c_r_3_w7 := x_r.cell (i := 3) rfl
          have f_r_3_w7 := x_r.frozen 3
          have c_r_4_w7 := x_r.cell (i := 4) rfl
          have f_r_4_w7 := x_r.frozen 4
          have c_r_5_w7 := x_r.cell (i := 5) rfl
          have f_r_5_w7 := x_r.frozen 5
          have c_r_6_w7 := x_r.cell (i := 6) rfl
          have f_r_6_w7 := x_r.frozen 6
          have c_r_7_w7 := x_r.cell (i := 7) rfl
          have f_r_7_w7 := x_r.frozen 7
          have c_r_8_w7 := x_r.cell (i := 8) rfl
          have f_r_8_w7 := x_r.frozen 8
          have c_l_0_w7 := x_l.cell (i := 0) rfl
          have f_l_0_w7 := x_l.frozen 0
          have c_l_1_w7 := x_l.cell (i := 1) rfl
          have f_l_1_w7 := x_l.frozen 1
          have c_l_2_w7 := x_l.cell (i := 2) rfl
          have f_l_2_w7 := x_l.frozen 2
          have c_l_3_w7 := x_l.cell (i := 3) rfl
          have f_l_3_w7 := x_l.frozen 3
          obtain ⟨w8, e_w8, s_w8, h_w8, y⟩ := set_step x_r 4 (.int .i64 n3)
          have s_w8_1 := Nat.le_of_eq s_w8
          have s_w8_2 := Nat.le_of_eq s_w8.symm
          clear s_w8
          replace x_l := x_l.chg h_w8 (by omega)
          have B_w8 := Below.chg_ B_w7 h_w8 (by omega) (by omega)
          have C_w8 := C_w7.then_same h_w8
          replace x_r : Vr w8 (b) T [z0, .int .i64 n0, .int .i64 n1, .int .i64 n2, .int .i64 n3, z5, z6, z7, z8] := y
          clear y
          have c_r_0_w8 := x_r.cell (i := 0) rfl
          have f_r_0_w8 := x_r.frozen 0
          have c_r_1_w8 := x_r.cell (i := 1) rfl
          have f_r_1_w8 := x_r.frozen 1
          have c_r_2_w8 := x_r.cell (i := 2) rfl
          have f_r_2_w8 := x_r.frozen 2
          have c_r_3_w8 := x_r.cell (i := 3) rfl
          have f_r_3_w8 := x_r.frozen 3
          have c_r_4_w8 := x_r.cell (i := 4) rfl
          have f_r_4_w8 := x_r.frozen 4
          have c_r_5_w8 := x_r.cell (i := 5) rfl
          have f_r_5_w8 := x_r.frozen 5
          have c_r_6_w8 := x_r.cell (i := 6) rfl
          have f_r_6_w8 := x_r.frozen 6
          have c_r_7_w8 := x_r.cell (i := 7) rfl
          have f_r_7_w8 := x_r.frozen 7
          have c_r_8_w8 := x_r.cell (i := 8) rfl
          have f_r_8_w8 := x_r.frozen 8
          have c_l_0_w8 := x_l.cell (i := 0) rfl
          have f_l_0_w8 := x_l.frozen 0
          have c_l_1_w8 := x_l.cell (i := 1) rfl
          have f_l_1_w8 := x_l.frozen 1
          have c_l_2_w8 := x_l.cell (i := 2) rfl
          have f_l_2_w8 := x_l.frozen 2
          have c_l_3_w8 := x_l.cell (i := 3) rfl
          have f_l_3_w8 := x_l.frozen 3
          replace e0 := (h_w8.cell_at (p := ⟨g, off, none⟩) (by show g < _; omega) (.inl (by show g < b; omega))).trans e0
          replace e1 := (h_w8.cell_at (p := ⟨g, off + 1, none⟩) (by show g < _; omega) (.inl (by show g < b; omega))).trans e1
          replace e2 := (h_w8.cell_at (p := ⟨g, off + 2, none⟩) (by show g < _; omega) (.inl (by show g < b; omega))).trans e2
          replace e3 := (h_w8.cell_at (p := ⟨g, off + 3, none⟩) (by show g < _; omega) (.inl (by show g < b; omega))).trans e3
          replace hWS := hWS.chg h_w8 hB0 (by omega)
          go_wp2_with fail
          rw [rounds_succ]
          go_wp2
          go_ret2
          refine ⟨_, _, rfl, .inl ⟨rfl, (okN_iff ws 4).2 ⟨hn, fun j hj => ?_⟩, ?_, ?_⟩, C_w8⟩
          · have hj2 : j = 0 ∨ j = 1 ∨ j = 2 ∨ j = 3 := by omega
            rcases hj2 with rfl | rfl | rfl | rfl
            · rw [HY0.out]; exact HB0.out
            · rw [HY1.out]; exact HB1.out
            · rw [HY2.out]; exact HB2.out
            · rw [HY3.out]; exact HB3.out
          · rw [HY0.out, HN0.out, HY1.out, HN1.out, HY2.out, HN2.out, HY3.out, HN3.out]; exact x_r
          · rw [← HX.out]; exact hWS.drop hn
set_option maxRecDepth 100000 in
set_option maxHeartbeats 4000000 in
theorem iRead_msg {W0 w : World} (ht : Tab10 W0) (hW : Below W0.heap.size W0 w) {b B B0 : Nat} {T U : TypeId} {z0 z1 z2 z3 z4 z5 z6 z7 z8 v : Value} {ws : List ByteArray} (h0 : W0.heap.size ≤ b) (hB0 : B0 ≤ b) (x_r : Vr w b T [z0, z1, z2, z3, z4, z5, z6, z7, z8]) (x_l : Vr w B U [.pointer (some ⟨b, 6, none⟩), .pointer (some ⟨b, 7, none⟩), .pointer (some ⟨b, 8, none⟩)]) (hbB : b < B) (h : WS w B0 v ws) (hz : ∀ x ∈ ws, x.size ≤ 1048576) (hm : ws.length ≤ 16777216) :
    Calls Tryd.prog 27 #[v, .slice (some ⟨B, 0, none⟩) 3 3] w fun e w' => ∃ v' ok, e = .returned (.tuple #[v', .bool ok]) ∧ ((ok = true ∧ okN ws 3 = true ∧ Vr w' b T [z0, z1, z2, z3, z4, z5, .int .i64 (txN (ws.getD 0 ByteArray.empty)), .int .i64 (txN (ws.getD 1 ByteArray.empty)), .int .i64 (txN (ws.getD 2 ByteArray.empty))] ∧ WS w' B0 v' (ws.drop 3)) ∨ (ok = false ∧ okN ws 3 = false ∧ v' = .slice none 0 0 ∧ ∃ cs, Vr w' b T cs)) ∧ Chg b (b + 1) w w' := by
  have C0 : Chg b (b + 1) w w := Chg.refl _ _ _
  have lb := x_r.lt
  have lB := x_l.lt
  obtain ⟨A, c, rfl, hc1, hc2, hr⟩ := h
  by_cases hn : 3 ≤ ws.length
  case neg =>
    have i1 : (ws.length : Int) < 3 := by omega
    go_enter Tryd.func27, Tryd.ntmps27
    go_wp2
    go_ret2
    exact ⟨_, _, rfl, .inr ⟨rfl, okN_short hn, rfl, _, x_r⟩, C0⟩
  have i1 : ¬ ((ws.length : Int) < 3) := by omega
  have hdr := run_wdrop A c 3 ws.length 3 rfl hn
  have hWS : WS w B0 (.slice A ws.length c) ws := ⟨A, c, rfl, hc1, hc2, hr⟩
  obtain ⟨g, off, hA, hg, hcell⟩ := hr (by omega)
  clear hr
  obtain ⟨y0, hy0⟩ : ∃ y, ws.getD 0 ByteArray.empty = y := ⟨_, rfl⟩
  have zy0 : y0.size ≤ 1073741824 := by rw [← hy0]; exact Nat.le_trans (getD_sz hz 0) (by omega)
  have e0 := hcell 0 (by omega)
  rw [hy0] at e0
  have HY0 := Lib.hid hy0
  have l0 : (0 : Int) < (ws.length : Int) := by omega
  obtain ⟨y1, hy1⟩ : ∃ y, ws.getD 1 ByteArray.empty = y := ⟨_, rfl⟩
  have zy1 : y1.size ≤ 1073741824 := by rw [← hy1]; exact Nat.le_trans (getD_sz hz 1) (by omega)
  have e1 := hcell 1 (by omega)
  rw [hy1] at e1
  have HY1 := Lib.hid hy1
  have l1 : (1 : Int) < (ws.length : Int) := by omega
  obtain ⟨y2, hy2⟩ : ∃ y, ws.getD 2 ByteArray.empty = y := ⟨_, rfl⟩
  have zy2 : y2.size ≤ 1073741824 := by rw [← hy2]; exact Nat.le_trans (getD_sz hz 2) (by omega)
  have e2 := hcell 2 (by omega)
  rw [hy2] at e2
  have HY2 := Lib.hid hy2
  have l2 : (2 : Int) < (ws.length : Int) := by omega
  clear hcell hy0 hy1 hy2
  have hgw : g < w.heap.size := by omega
  simp only [Nat.add_zero] at e0
  generalize hdX : (if c = 3 then A else A.map (·.add (3 * 1))) = X at hdr
  have HX := Lib.hid hdX
  clear hdX
  have HAe := Lib.hid hA
  subst hA
  have c_r_0_w := x_r.cell (i := 0) rfl
  have f_r_0_w := x_r.frozen 0
  have c_r_1_w := x_r.cell (i := 1) rfl
  have f_r_1_w := x_r.frozen 1
  have c_r_2_w := x_r.cell (i := 2) rfl
  have f_r_2_w := x_r.frozen 2
  have c_r_3_w := x_r.cell (i := 3) rfl
  have f_r_3_w := x_r.frozen 3
  have c_r_4_w := x_r.cell (i := 4) rfl
  have f_r_4_w := x_r.frozen 4
  have c_r_5_w := x_r.cell (i := 5) rfl
  have f_r_5_w := x_r.frozen 5
  have c_r_6_w := x_r.cell (i := 6) rfl
  have f_r_6_w := x_r.frozen 6
  have c_r_7_w := x_r.cell (i := 7) rfl
  have f_r_7_w := x_r.frozen 7
  have c_r_8_w := x_r.cell (i := 8) rfl
  have f_r_8_w := x_r.frozen 8
  have c_l_0_w := x_l.cell (i := 0) rfl
  have f_l_0_w := x_l.frozen 0
  have c_l_1_w := x_l.cell (i := 1) rfl
  have f_l_1_w := x_l.frozen 1
  have c_l_2_w := x_l.cell (i := 2) rfl
  have f_l_2_w := x_l.frozen 2
  go_enter Tryd.func27, Tryd.ntmps27
  go_wp2_with fail
  refine wp_loop_rounds 4 ?_
  obtain ⟨ob0, hb0⟩ : ∃ b, (textNum y0).isSome = b := ⟨_, rfl⟩
  have HB0 := Lib.hid hb0
  clear hb0
  obtain ⟨n0, hn0⟩ : ∃ z, txN y0 = z := ⟨_, rfl⟩
  have HN0 := Lib.hid hn0
  clear hn0
  clear c_r_0_w f_r_0_w c_r_1_w f_r_1_w c_r_2_w f_r_2_w c_r_3_w f_r_3_w c_r_4_w f_r_4_w c_r_5_w f_r_5_w c_r_6_w f_r_6_w c_r_7_w f_r_7_w c_r_8_w f_r_8_w c_l_0_w f_l_0_w c_l_1_w f_l_1_w c_l_2_w f_l_2_w
  have c_r_0_w := x_r.cell (i := 0) rfl
  have f_r_0_w := x_r.frozen 0
  have c_r_1_w := x_r.cell (i := 1) rfl
  have f_r_1_w := x_r.frozen 1
  have c_r_2_w := x_r.cell (i := 2) rfl
  have f_r_2_w := x_r.frozen 2
  have c_r_3_w := x_r.cell (i := 3) rfl
  have f_r_3_w := x_r.frozen 3
  have c_r_4_w := x_r.cell (i := 4) rfl
  have f_r_4_w := x_r.frozen 4
  have c_r_5_w := x_r.cell (i := 5) rfl
  have f_r_5_w := x_r.frozen 5
  have c_r_6_w := x_r.cell (i := 6) rfl
  have f_r_6_w := x_r.frozen 6
  have c_r_7_w := x_r.cell (i := 7) rfl
  have f_r_7_w := x_r.frozen 7
  have c_r_8_w := x_r.cell (i := 8) rfl
  have f_r_8_w := x_r.frozen 8
  have c_l_0_w := x_l.cell (i := 0) rfl
  have f_l_0_w := x_l.frozen 0
  have c_l_1_w := x_l.cell (i := 1) rfl
  have f_l_1_w := x_l.frozen 1
  have c_l_2_w := x_l.cell (i := 2) rfl
  have f_l_2_w := x_l.frozen 2
  rw [rounds_succ]
  go_wp2_with fail
  refine (iTextNum_any _ _ (ht.below hW) zy0).mono ?_
  rintro e w1 ⟨rfl, h_w1⟩
  clear c_r_0_w f_r_0_w c_r_1_w f_r_1_w c_r_2_w f_r_2_w c_r_3_w f_r_3_w c_r_4_w f_r_4_w c_r_5_w f_r_5_w c_r_6_w f_r_6_w c_r_7_w f_r_7_w c_r_8_w f_r_8_w c_l_0_w f_l_0_w c_l_1_w f_l_1_w c_l_2_w f_l_2_w
  replace x_r := x_r.from_ h_w1
  replace x_l := x_l.from_ h_w1
  have B_w1 := hW.trans (h_w1.mono hW.size)
  have s_w1 := h_w1.size
  have C_w1 := C0.then_below h_w1
  rw [textVal_txN, HB0.out, HN0.out]
  replace e0 := (h_w1.cell (p := ⟨g, off, none⟩) (by show g < _; omega)).trans e0
  replace e1 := (h_w1.cell (p := ⟨g, off + 1, none⟩) (by show g < _; omega)).trans e1
  replace e2 := (h_w1.cell (p := ⟨g, off + 2, none⟩) (by show g < _; omega)).trans e2
  replace hWS := hWS.below h_w1 (by omega)
  cases ob0 with
  | false =>
    go_wp2
    go_ret2
    exact ⟨_, _, rfl, .inr ⟨rfl, okN_bad (j := 0) (by omega) (by rw [HY0.out]; exact HB0.out), rfl, _, x_r⟩, C_w1⟩
  | true =>
    have c_r_0_w1 := x_r.cell (i := 0) rfl
    have f_r_0_w1 := x_r.frozen 0
    have c_r_1_w1 := x_r.cell (i := 1) rfl
    have f_r_1_w1 := x_r.frozen 1
    have c_r_2_w1 := x_r.cell (i := 2) rfl
    have f_r_2_w1 := x_r.frozen 2
    have c_r_3_w1 := x_r.cell (i := 3) rfl
    have f_r_3_w1 := x_r.frozen 3
    have c_r_4_w1 := x_r.cell (i := 4) rfl
    have f_r_4_w1 := x_r.frozen 4
    have c_r_5_w1 := x_r.cell (i := 5) rfl
    have f_r_5_w1 := x_r.frozen 5
    have c_r_6_w1 := x_r.cell (i := 6) rfl
    have f_r_6_w1 := x_r.frozen 6
    have c_r_7_w1 := x_r.cell (i := 7) rfl
    have f_r_7_w1 := x_r.frozen 7
    have c_r_8_w1 := x_r.cell (i := 8) rfl
    have f_r_8_w1 := x_r.frozen 8
    have c_l_0_w1 := x_l.cell (i := 0) rfl
    have f_l_0_w1 := x_l.frozen 0
    have c_l_1_w1 := x_l.cell (i := 1) rfl
    have f_l_1_w1 := x_l.frozen 1
    have c_l_2_w1 := x_l.cell (i := 2) rfl
    have f_l_2_w1 := x_l.frozen 2
    obtain ⟨w2, e_w2, s_w2, h_w2, y⟩ := set_step x_r 6 (.int .i64 n0)
    have s_w2_1 := Nat.le_of_eq s_w2
    have s_w2_2 := Nat.le_of_eq s_w2.symm
    clear s_w2
    replace x_l := x_l.chg h_w2 (by omega)
    have B_w2 := Below.chg_ B_w1 h_w2 (by omega) (by omega)
    have C_w2 := C_w1.then_same h_w2
    replace x_r : Vr w2 (b) T [z0, z1, z2, z3, z4, z5, .int .i64 n0, z7, z8] := y
    clear y
    have c_r_0_w2 := x_r.cell (i := 0) rfl
    have f_r_0_w2 := x_r.frozen 0
    have c_r_1_w2 := x_r.cell (i := 1) rfl
    have f_r_1_w2 := x_r.frozen 1
    have c_r_2_w2 := x_r.cell (i := 2) rfl
    have f_r_2_w2 := x_r.frozen 2
    have c_r_3_w2 := x_r.cell (i := 3) rfl
    have f_r_3_w2 := x_r.frozen 3
    have c_r_4_w2 := x_r.cell (i := 4) rfl
    have f_r_4_w2 := x_r.frozen 4
    have c_r_5_w2 := x_r.cell (i := 5) rfl
    have f_r_5_w2 := x_r.frozen 5
    have c_r_6_w2 := x_r.cell (i := 6) rfl
    have f_r_6_w2 := x_r.frozen 6
    have c_r_7_w2 := x_r.cell (i := 7) rfl
    have f_r_7_w2 := x_r.frozen 7
    have c_r_8_w2 := x_r.cell (i := 8) rfl
    have f_r_8_w2 := x_r.frozen 8
    have c_l_0_w2 := x_l.cell (i := 0) rfl
    have f_l_0_w2 := x_l.frozen 0
    have c_l_1_w2 := x_l.cell (i := 1) rfl
    have f_l_1_w2 := x_l.frozen 1
    have c_l_2_w2 := x_l.cell (i := 2) rfl
    have f_l_2_w2 := x_l.frozen 2
    replace e0 := (h_w2.cell_at (p := ⟨g, off, none⟩) (by show g < _; omega) (.inl (by show g < b; omega))).trans e0
    replace e1 := (h_w2.cell_at (p := ⟨g, off + 1, none⟩) (by show g < _; omega) (.inl (by show g < b; omega))).trans e1
    replace e2 := (h_w2.cell_at (p := ⟨g, off + 2, none⟩) (by show g < _; omega) (.inl (by show g < b; omega))).trans e2
    replace hWS := hWS.chg h_w2 hB0 (by omega)
    go_wp2_with fail
    obtain ⟨ob1, hb1⟩ : ∃ b, (textNum y1).isSome = b := ⟨_, rfl⟩
    have HB1 := Lib.hid hb1
    clear hb1
    obtain ⟨n1, hn1⟩ : ∃ z, txN y1 = z := ⟨_, rfl⟩
    have HN1 := Lib.hid hn1
    clear hn1
    clear c_r_0_w1 f_r_0_w1 c_r_1_w1 f_r_1_w1 c_r_2_w1 f_r_2_w1 c_r_3_w1 f_r_3_w1 c_r_4_w1 f_r_4_w1 c_r_5_w1 f_r_5_w1 c_r_6_w1 f_r_6_w1 c_r_7_w1 f_r_7_w1 c_r_8_w1 f_r_8_w1 c_l_0_w1 f_l_0_w1 c_l_1_w1 f_l_1_w1 c_l_2_w1 f_l_2_w1 c_r_0_w2 f_r_0_w2 c_r_1_w2 f_r_1_w2 c_r_2_w2 f_r_2_w2 c_r_3_w2 f_r_3_w2 c_r_4_w2 f_r_4_w2 c_r_5_w2 f_r_5_w2 c_r_6_w2 f_r_6_w2 c_r_7_w2 f_r_7_w2 c_r_8_w2 f_r_8_w2 c_l_0_w2 f_l_0_w2 c_l_1_w2 f_l_1_w2 c_l_2_w2 f_l_2_w2
    have c_r_0_w2 := x_r.cell (i := 0) rfl
    have f_r_0_w2 := x_r.frozen 0
    have c_r_1_w2 := x_r.cell (i := 1) rfl
    have f_r_1_w2 := x_r.frozen 1
    have c_r_2_w2 := x_r.cell (i := 2) rfl
    have f_r_2_w2 := x_r.frozen 2
    have c_r_3_w2 := x_r.cell (i := 3) rfl
    have f_r_3_w2 := x_r.frozen 3
    have c_r_4_w2 := x_r.cell (i := 4) rfl
    have f_r_4_w2 := x_r.frozen 4
    have c_r_5_w2 := x_r.cell (i := 5) rfl
    have f_r_5_w2 := x_r.frozen 5
    have c_r_6_w2 := x_r.cell (i := 6) rfl
    have f_r_6_w2 := x_r.frozen 6
    have c_r_7_w2 := x_r.cell (i := 7) rfl
    have f_r_7_w2 := x_r.frozen 7
    have c_r_8_w2 := x_r.cell (i := 8) rfl
    have f_r_8_w2 := x_r.frozen 8
    have c_l_0_w2 := x_l.cell (i := 0) rfl
    have f_l_0_w2 := x_l.frozen 0
    have c_l_1_w2 := x_l.cell (i := 1) rfl
    have f_l_1_w2 := x_l.frozen 1
    have c_l_2_w2 := x_l.cell (i := 2) rfl
    have f_l_2_w2 := x_l.frozen 2
    rw [rounds_succ]
    go_wp2_with fail
    refine (iTextNum_any _ _ (ht.below B_w2) zy1).mono ?_
    rintro e w3 ⟨rfl, h_w3⟩
    clear c_r_0_w2 f_r_0_w2 c_r_1_w2 f_r_1_w2 c_r_2_w2 f_r_2_w2 c_r_3_w2 f_r_3_w2 c_r_4_w2 f_r_4_w2 c_r_5_w2 f_r_5_w2 c_r_6_w2 f_r_6_w2 c_r_7_w2 f_r_7_w2 c_r_8_w2 f_r_8_w2 c_l_0_w2 f_l_0_w2 c_l_1_w2 f_l_1_w2 c_l_2_w2 f_l_2_w2
    replace x_r := x_r.from_ h_w3
    replace x_l := x_l.from_ h_w3
    have B_w3 := B_w2.trans (h_w3.mono B_w2.size)
    have s_w3 := h_w3.size
    have C_w3 := C_w2.then_below h_w3
    rw [textVal_txN, HB1.out, HN1.out]
    replace e0 := (h_w3.cell (p := ⟨g, off, none⟩) (by show g < _; omega)).trans e0
    replace e1 := (h_w3.cell (p := ⟨g, off + 1, none⟩) (by show g < _; omega)).trans e1
    replace e2 := (h_w3.cell (p := ⟨g, off + 2, none⟩) (by show g < _; omega)).trans e2
    replace hWS := hWS.below h_w3 (by omega)
    cases ob1 with
    | false =>
      go_wp2
      go_ret2
      exact ⟨_, _, rfl, .inr ⟨rfl, okN_bad (j := 1) (by omega) (by rw [HY1.out]; exact HB1.out), rfl, _, x_r⟩, C_w3⟩
    | true =>
      have c_r_0_w3 := x_r.cell (i := 0) rfl
      have f_r_0_w3 := x_r.frozen 0
      have c_r_1_w3 := x_r.cell (i := 1) rfl
      have f_r_1_w3 := x_r.frozen 1
      have c_r_2_w3 := x_r.cell (i := 2) rfl
      have f_r_2_w3 := x_r.frozen 2
      have c_r_3_w3 := x_r.cell (i := 3) rfl
      have f_r_3_w3 := x_r.frozen 3
      have c_r_4_w3 := x_r.cell (i := 4) rfl
      have f_r_4_w3 := x_r.frozen 4
      have c_r_5_w3 := x_r.cell (i := 5) rfl
      have f_r_5_w3 := x_r.frozen 5
      have c_r_6_w3 := x_r.cell (i := 6) rfl
      have f_r_6_w3 := x_r.frozen 6
      have c_r_7_w3 := x_r.cell (i := 7) rfl
      have f_r_7_w3 := x_r.frozen 7
      have c_r_8_w3 := x_r.cell (i := 8) rfl
      have f_r_8_w3 := x_r.frozen 8
      have c_l_0_w3 := x_l.cell (i := 0) rfl
      have f_l_0_w3 := x_l.frozen 0
      have c_l_1_w3 := x_l.cell (i := 1) rfl
      have f_l_1_w3 := x_l.frozen 1
      have c_l_2_w3 := x_l.cell (i := 2) rfl
      have f_l_2_w3 := x_l.frozen 2
      obtain ⟨w4, e_w4, s_w4, h_w4, y⟩ := set_step x_r 7 (.int .i64 n1)
      have s_w4_1 := Nat.le_of_eq s_w4
      have s_w4_2 := Nat.le_of_eq s_w4.symm
      clear s_w4
      replace x_l := x_l.chg h_w4 (by omega)
      have B_w4 := Below.chg_ B_w3 h_w4 (by omega) (by omega)
      have C_w4 := C_w3.then_same h_w4
      replace x_r : Vr w4 (b) T [z0, z1, z2, z3, z4, z5, .int .i64 n0, .int .i64 n1, z8] := y
      clear y
      have c_r_0_w4 := x_r.cell (i := 0) rfl
      have f_r_0_w4 := x_r.frozen 0
      have c_r_1_w4 := x_r.cell (i := 1) rfl
      have f_r_1_w4 := x_r.frozen 1
      have c_r_2_w4 := x_r.cell (i := 2) rfl
      have f_r_2_w4 := x_r.frozen 2
      have c_r_3_w4 := x_r.cell (i := 3) rfl
      have f_r_3_w4 := x_r.frozen 3
      have c_r_4_w4 := x_r.cell (i := 4) rfl
      have f_r_4_w4 := x_r.frozen 4
      have c_r_5_w4 := x_r.cell (i := 5) rfl
      have f_r_5_w4 := x_r.frozen 5
      have c_r_6_w4 := x_r.cell (i := 6) rfl
      have f_r_6_w4 := x_r.frozen 6
      have c_r_7_w4 := x_r.cell (i := 7) rfl
      have f_r_7_w4 := x_r.frozen 7
      have c_r_8_w4 := x_r.cell (i := 8) rfl
      have f_r_8_w4 := x_r.frozen 8
      have c_l_0_w4 := x_l.cell (i := 0) rfl
      have f_l_0_w4 := x_l.frozen 0
      have c_l_1_w4 := x_l.cell (i := 1) rfl
      have f_l_1_w4 := x_l.frozen 1
      have c_l_2_w4 := x_l.cell (i := 2) rfl
      have f_l_2_w4 := x_l.frozen 2
      replace e0 := (h_w4.cell_at (p := ⟨g, off, none⟩) (by show g < _; omega) (.inl (by show g < b; omega))).trans e0
      replace e1 := (h_w4.cell_at (p := ⟨g, off + 1, none⟩) (by show g < _; omega) (.inl (by show g < b; omega))).trans e1
      replace e2 := (h_w4.cell_at (p := ⟨g, off + 2, none⟩) (by show g < _; omega) (.inl (by show g < b; omega))).trans e2
      replace hWS := hWS.chg h_w4 hB0 (by omega)
      go_wp2_with fail
      obtain ⟨ob2, hb2⟩ : ∃ b, (textNum y2).isSome = b := ⟨_, rfl⟩
      have HB2 := Lib.hid hb2
      clear hb2
      obtain ⟨n2, hn2⟩ : ∃ z, txN y2 = z := ⟨_, rfl⟩
      have HN2 := Lib.hid hn2
      clear hn2
      clear c_r_0_w3 f_r_0_w3 c_r_1_w3 f_r_1_w3 c_r_2_w3 f_r_2_w3 c_r_3_w3 f_r_3_w3 c_r_4_w3 f_r_4_w3 c_r_5_w3 f_r_5_w3 c_r_6_w3 f_r_6_w3 c_r_7_w3 f_r_7_w3 c_r_8_w3 f_r_8_w3 c_l_0_w3 f_l_0_w3 c_l_1_w3 f_l_1_w3 c_l_2_w3 f_l_2_w3 c_r_0_w4 f_r_0_w4 c_r_1_w4 f_r_1_w4 c_r_2_w4 f_r_2_w4 c_r_3_w4 f_r_3_w4 c_r_4_w4 f_r_4_w4 c_r_5_w4 f_r_5_w4 c_r_6_w4 f_r_6_w4 c_r_7_w4 f_r_7_w4 c_r_8_w4 f_r_8_w4 c_l_0_w4 f_l_0_w4 c_l_1_w4 f_l_1_w4 c_l_2_w4 f_l_2_w4
      have c_r_0_w4 := x_r.cell (i := 0) rfl
      have f_r_0_w4 := x_r.frozen 0
      have c_r_1_w4 := x_r.cell (i := 1) rfl
      have f_r_1_w4 := x_r.frozen 1
      have c_r_2_w4 := x_r.cell (i := 2) rfl
      have f_r_2_w4 := x_r.frozen 2
      have c_r_3_w4 := x_r.cell (i := 3) rfl
      have f_r_3_w4 := x_r.frozen 3
      have c_r_4_w4 := x_r.cell (i := 4) rfl
      have f_r_4_w4 := x_r.frozen 4
      have c_r_5_w4 := x_r.cell (i := 5) rfl
      have f_r_5_w4 := x_r.frozen 5
      have c_r_6_w4 := x_r.cell (i := 6) rfl
      have f_r_6_w4 := x_r.frozen 6
      have c_r_7_w4 := x_r.cell (i := 7) rfl
      have f_r_7_w4 := x_r.frozen 7
      have c_r_8_w4 := x_r.cell (i := 8) rfl
      have f_r_8_w4 := x_r.frozen 8
      have c_l_0_w4 := x_l.cell (i := 0) rfl
      have f_l_0_w4 := x_l.frozen 0
      have c_l_1_w4 := x_l.cell (i := 1) rfl
      have f_l_1_w4 := x_l.frozen 1
      have c_l_2_w4 := x_l.cell (i := 2) rfl
      have f_l_2_w4 := x_l.frozen 2
      rw [rounds_succ]
      go_wp2_with fail
      refine (iTextNum_any _ _ (ht.below B_w4) zy2).mono ?_
      rintro e w5 ⟨rfl, h_w5⟩
      clear c_r_0_w4 f_r_0_w4 c_r_1_w4 f_r_1_w4 c_r_2_w4 f_r_2_w4 c_r_3_w4 f_r_3_w4 c_r_4_w4 f_r_4_w4 c_r_5_w4 f_r_5_w4 c_r_6_w4 f_r_6_w4 c_r_7_w4 f_r_7_w4 c_r_8_w4 f_r_8_w4 c_l_0_w4 f_l_0_w4 c_l_1_w4 f_l_1_w4 c_l_2_w4 f_l_2_w4
      replace x_r := x_r.from_ h_w5
      replace x_l := x_l.from_ h_w5
      have B_w5 := B_w4.trans (h_w5.mono B_w4.size)
      have s_w5 := h_w5.size
      have C_w5 := C_w4.then_below h_w5
      rw [textVal_txN, HB2.out, HN2.out]
      replace e0 := (h_w5.cell (p := ⟨g, off, none⟩) (by show g < _; omega)).trans e0
      replace e1 := (h_w5.cell (p := ⟨g, off + 1, none⟩) (by show g < _; omega)).trans e1
      replace e2 := (h_w5.cell (p := ⟨g, off + 2, none⟩) (by show g < _; omega)).trans e2
      replace hWS := hWS.below h_w5 (by omega)
      cases ob2 with
      | false =>
        go_wp2
        go_ret2
        exact ⟨_, _, rfl, .inr ⟨rfl, okN_bad (j := 2) (by omega) (by rw [HY2.out]; exact HB2.out), rfl, _, x_r⟩, C_w5⟩
      | true =>
        have c_r_0_w5 := x_r.cell (i := 0) rfl
        have f_r_0_w5 := x_r.frozen 0
        have c_r_1_w5 := x_r.cell (i := 1) rfl
        have f_r_1_w5 := x_r.frozen 1
        have c_r_2_w5 := x_r.cell (i := 2) rfl
        have f_r_2_w5 := x_r.frozen 2
        have c_r_3_w5 := x_r.cell (i := 3) rfl
        have f_r_3_w5 := x_r.frozen 3
        have c_r_4_w5 := x_r.cell (i := 4) rfl
        have f_r_4_w5 := x_r.frozen 4
        have c_r_5_w5 := x_r.cell (i := 5) rfl
        have f_r_5_w5 := x_r.frozen 5
        have c_r_6_w5 := x_r.cell (i := 6) rfl
        have f_r_6_w5 := x_r.frozen 6
        have c_r_7_w5 := x_r.cell (i := 7) rfl
        have f_r_7_w5 := x_r.frozen 7
        have c_r_8_w5 := x_r.cell (i := 8) rfl
        have f_r_8_w5 := x_r.frozen 8
        have c_l_0_w5 := x_l.cell (i := 0) rfl
        have f_l_0_w5 := x_l.frozen 0
        have c_l_1_w5 := x_l.cell (i := 1) rfl
        have f_l_1_w5 := x_l.frozen 1
        have c_l_2_w5 := x_l.cell (i := 2) rfl
        have f_l_2_w5 := x_l.frozen 2
        obtain ⟨w6, e_w6, s_w6, h_w6, y⟩ := set_step x_r 8 (.int .i64 n2)
        have s_w6_1 := Nat.le_of_eq s_w6
        have s_w6_2 := Nat.le_of_eq s_w6.symm
        clear s_w6
        replace x_l := x_l.chg h_w6 (by omega)
        have B_w6 := Below.chg_ B_w5 h_w6 (by omega) (by omega)
        have C_w6 := C_w5.then_same h_w6
        replace x_r : Vr w6 (b) T [z0, z1, z2, z3, z4, z5, .int .i64 n0, .int .i64 n1, .int .i64 n2] := y
        clear y
        have c_r_0_w6 := x_r.cell (i := 0) rfl
        have f_r_0_w6 := x_r.frozen 0
        have c_r_1_w6 := x_r.cell (i := 1) rfl
        have f_r_1_w6 := x_r.frozen 1
        have c_r_2_w6 := x_r.cell (i := 2) rfl
        have f_r_2_w6 := x_r.frozen 2
        have c_r_3_w6 := x_r.cell (i := 3) rfl
        have f_r_3_w6 := x_r.frozen 3
        have c_r_4_w6 := x_r.cell (i := 4) rfl
        have f_r_4_w6 := x_r.frozen 4
        have c_r_5_w6 := x_r.cell (i := 5) rfl
        have f_r_5_w6 := x_r.frozen 5
        have c_r_6_w6 := x_r.cell (i := 6) rfl
        have f_r_6_w6 := x_r.frozen 6
        have c_r_7_w6 := x_r.cell (i := 7) rfl
        have f_r_7_w6 := x_r.frozen 7
        have c_r_8_w6 := x_r.cell (i := 8) rfl
        have f_r_8_w6 := x_r.frozen 8
        have c_l_0_w6 := x_l.cell (i := 0) rfl
        have f_l_0_w6 := x_l.frozen 0
        have c_l_1_w6 := x_l.cell (i := 1) rfl
        have f_l_1_w6 := x_l.frozen 1
        have c_l_2_w6 := x_l.cell (i := 2) rfl
        have f_l_2_w6 := x_l.frozen 2
        replace e0 := (h_w6.cell_at (p := ⟨g, off, none⟩) (by show g < _; omega) (.inl (by show g < b; omega))).trans e0
        replace e1 := (h_w6.cell_at (p := ⟨g, off + 1, none⟩) (by show g < _; omega) (.inl (by show g < b; omega))).trans e1
        replace e2 := (h_w6.cell_at (p := ⟨g, off + 2, none⟩) (by show g < _; omega) (.inl (by show g < b; omega))).trans e2
        replace hWS := hWS.chg h_w6 hB0 (by omega)
        go_wp2_with fail
        rw [rounds_succ]
        go_wp2
        go_ret2
        refine ⟨_, _, rfl, .inl ⟨rfl, (okN_iff ws 3).2 ⟨hn, fun j hj => ?_⟩, ?_, ?_⟩, C_w6⟩
        · have hj2 : j = 0 ∨ j = 1 ∨ j = 2 := by omega
          rcases hj2 with rfl | rfl | rfl
          · rw [HY0.out]; exact HB0.out
          · rw [HY1.out]; exact HB1.out
          · rw [HY2.out]; exact HB2.out
        · rw [HY0.out, HN0.out, HY1.out, HN1.out, HY2.out, HN2.out]; exact x_r
        · rw [← HX.out]; exact hWS.drop hn
end Go.Proofs.YtkbhbccpmmhelaaDoor
namespace Go.Proofs.YtkbhbccpmmhelaaDoor
open Go.RowKit
set_option linter.unusedVariables false
set_option linter.unusedSimpArgs false
theorem allN_iff (l : List ByteArray) : allN l = true ↔ ∀ j, j < l.length → (textNum (l.getD j ByteArray.empty)).isSome = true := by
  unfold allN
  rw [List.all_eq_true]
  constructor
  · intro h j hj
    rw [List.getD_eq_getElem?_getD, List.getElem?_eq_getElem hj]
    exact h _ (List.getElem_mem hj)
  · intro h x hx
    obtain ⟨j, hj, rfl⟩ := List.getElem_of_mem hx
    have := h j hj
    rw [List.getD_eq_getElem?_getD, List.getElem?_eq_getElem hj] at this
    exact this
theorem okT_ne {ws : List ByteArray} {k : Int} {n : Nat} (hk : kindTo (ws.getD 0 ByteArray.empty) 9 = k) (h5 : k ≠ 5) (hn : nF k = n) (h1 : 1 ≤ ws.length) : okT ws = (okN (ws.drop 1) n && decide (((ws.drop 1).drop n).length = 0)) := by
  rw [Bool.eq_iff_iff]
  unfold okT
  rw [hk, if_neg h5, hn]
  simp only [Bool.and_eq_true, decide_eq_true_eq, okN_iff, allN_iff, List.length_drop]
  constructor
  · rintro ⟨h2, h3⟩
    exact ⟨⟨by omega, fun j hj => h3 j (by omega)⟩, by omega⟩
  · rintro ⟨⟨h2, h3⟩, h4⟩
    exact ⟨by omega, fun j hj => h3 j (by omega)⟩
theorem okT_5 {ws : List ByteArray} (hk : kindTo (ws.getD 0 ByteArray.empty) 9 = 5) (h1 : 1 ≤ ws.length) : okT ws = (okN (ws.drop 1) 2 && (decide (1 ≤ ((ws.drop 1).drop 2).length) && (okN (((ws.drop 1).drop 2).drop 1) 3 && decide (((((ws.drop 1).drop 2).drop 1).drop 3).length = 0)))) := by
  rw [Bool.eq_iff_iff]
  unfold okT
  rw [hk, if_pos rfl]
  have e4 : ((ws.drop 1).drop 2).drop 1 = ws.drop 4 := by simp [List.drop_drop]
  rw [e4]
  have t1 : ∀ (l : List ByteArray) (n j : Nat), j < n → (l.take n).getD j ByteArray.empty = l.getD j ByteArray.empty := by
    intro l n j hj
    rw [List.getD_eq_getElem?_getD, List.getD_eq_getElem?_getD, List.getElem?_take_of_lt hj]
  simp only [Bool.and_eq_true, decide_eq_true_eq, okN_iff, allN_iff, List.length_drop, List.length_take]
  constructor
  · rintro ⟨h2, h3, h4⟩
    refine ⟨⟨by omega, fun j hj => ?_⟩, by omega, ⟨by omega, fun j hj => ?_⟩, by omega⟩
    · rw [← t1 _ 2 j hj]; exact h3 j (by omega)
    · rw [← t1 _ 3 j hj]; exact h4 j (by omega)
  · rintro ⟨⟨h2, h3⟩, h4, ⟨h5, h6⟩, h7⟩
    refine ⟨by omega, fun j hj => ?_, fun j hj => ?_⟩
    · rw [t1 _ 2 j (by omega)]; exact h3 j (by omega)
    · rw [t1 _ 3 j (by omega)]; exact h6 j (by omega)
theorem numsOf_get {ws : List ByteArray} {a i : Nat} (h : i < (ws.drop a).length) : (numsOf ws a).getD i 0 = txN ((ws.drop a).getD i ByteArray.empty) := by
  unfold numsOf
  rw [List.getD_eq_getElem?_getD, List.getElem?_append_left (by simpa using h), List.getElem?_map, List.getElem?_eq_getElem h, List.getD_eq_getElem?_getD, List.getElem?_eq_getElem h]
  rfl
theorem recOf_1 {ws : List ByteArray} (hk : kindTo (ws.getD 0 ByteArray.empty) 9 = 1) (h : 2 ≤ (ws.drop 1).length) : recOf ws = ⟨1, txN ((ws.drop 1).getD 0 ByteArray.empty), 0, 0, txN ((ws.drop 1).getD 1 ByteArray.empty), ⟨0, 0, 0, 0⟩⟩ := by
  have g0 := numsOf_get (ws := ws) (a := 1) (i := 0) (by omega)
  have g1 := numsOf_get (ws := ws) (a := 1) (i := 1) (by omega)
  unfold recOf
  simp only [hk]
  simp [kAcct, kOther, kTo, kAmt, -List.getD_eq_getElem?_getD, g0, g1]
theorem recOf_2 {ws : List ByteArray} (hk : kindTo (ws.getD 0 ByteArray.empty) 9 = 2) (h : 2 ≤ (ws.drop 1).length) : recOf ws = ⟨2, txN ((ws.drop 1).getD 0 ByteArray.empty), 0, 0, txN ((ws.drop 1).getD 1 ByteArray.empty), ⟨0, 0, 0, 0⟩⟩ := by
  have g0 := numsOf_get (ws := ws) (a := 1) (i := 0) (by omega)
  have g1 := numsOf_get (ws := ws) (a := 1) (i := 1) (by omega)
  unfold recOf
  simp only [hk]
  simp [kAcct, kOther, kTo, kAmt, -List.getD_eq_getElem?_getD, g0, g1]
theorem recOf_3 {ws : List ByteArray} (hk : kindTo (ws.getD 0 ByteArray.empty) 9 = 3) (h : 3 ≤ (ws.drop 1).length) : recOf ws = ⟨3, txN ((ws.drop 1).getD 0 ByteArray.empty), 0, txN ((ws.drop 1).getD 1 ByteArray.empty), txN ((ws.drop 1).getD 2 ByteArray.empty), ⟨0, 0, 0, 0⟩⟩ := by
  have g0 := numsOf_get (ws := ws) (a := 1) (i := 0) (by omega)
  have g1 := numsOf_get (ws := ws) (a := 1) (i := 1) (by omega)
  have g2 := numsOf_get (ws := ws) (a := 1) (i := 2) (by omega)
  unfold recOf
  simp only [hk]
  simp [kAcct, kOther, kTo, kAmt, -List.getD_eq_getElem?_getD, g0, g1, g2]
theorem recOf_4 {ws : List ByteArray} (hk : kindTo (ws.getD 0 ByteArray.empty) 9 = 4) (h : 4 ≤ (ws.drop 1).length) : recOf ws = ⟨4, txN ((ws.drop 1).getD 0 ByteArray.empty), txN ((ws.drop 1).getD 1 ByteArray.empty), txN ((ws.drop 1).getD 2 ByteArray.empty), txN ((ws.drop 1).getD 3 ByteArray.empty), ⟨0, 0, 0, 0⟩⟩ := by
  have g0 := numsOf_get (ws := ws) (a := 1) (i := 0) (by omega)
  have g1 := numsOf_get (ws := ws) (a := 1) (i := 1) (by omega)
  have g2 := numsOf_get (ws := ws) (a := 1) (i := 2) (by omega)
  have g3 := numsOf_get (ws := ws) (a := 1) (i := 3) (by omega)
  unfold recOf
  simp only [hk]
  simp [kAcct, kOther, kTo, kAmt, -List.getD_eq_getElem?_getD, g0, g1, g2, g3]
theorem recOf_5 {ws : List ByteArray} (hk : kindTo (ws.getD 0 ByteArray.empty) 9 = 5) (h : 2 ≤ (ws.drop 1).length) (h2 : 4 ≤ ((ws.drop 1).drop 2).length) : recOf ws = ⟨5, 0, 0, txN ((ws.drop 1).getD 0 ByteArray.empty), txN ((ws.drop 1).getD 1 ByteArray.empty), ⟨mkindTo (((ws.drop 1).drop 2).getD 0 ByteArray.empty) 5, txN ((((ws.drop 1).drop 2).drop 1).getD 0 ByteArray.empty), txN ((((ws.drop 1).drop 2).drop 1).getD 1 ByteArray.empty), txN ((((ws.drop 1).drop 2).drop 1).getD 2 ByteArray.empty)⟩⟩ := by
  have g0 := numsOf_get (ws := ws) (a := 1) (i := 0) (by omega)
  have g1 := numsOf_get (ws := ws) (a := 1) (i := 1) (by omega)
  have hd : ((ws.drop 1).drop 2).drop 1 = ws.drop 4 := by simp [List.drop_drop]
  have h3 : ((ws.drop 1).drop 2).getD 0 ByteArray.empty = ws.getD 3 ByteArray.empty := by simp [List.getD_eq_getElem?_getD, List.getElem?_drop]
  rw [hd, h3]
  simp only [List.length_drop] at h2
  have m0 := numsOf_get (ws := ws) (a := 4) (i := 0) (by simp only [List.length_drop]; omega)
  have m1 := numsOf_get (ws := ws) (a := 4) (i := 1) (by simp only [List.length_drop]; omega)
  have m2 := numsOf_get (ws := ws) (a := 4) (i := 2) (by simp only [List.length_drop]; omega)
  have hmo : msgOf ws 3 = ⟨mkindTo (ws.getD 3 ByteArray.empty) 5, txN ((ws.drop 4).getD 0 ByteArray.empty), txN ((ws.drop 4).getD 1 ByteArray.empty), txN ((ws.drop 4).getD 2 ByteArray.empty)⟩ := by
    unfold msgOf
    rw [if_neg (by omega), m0, m1, m2]
  unfold recOf
  simp only [hk]
  simp [kAcct, kOther, kTo, kAmt, -List.getD_eq_getElem?_getD, g0, g1, hmo]
theorem recOf_6 {ws : List ByteArray} (hk : kindTo (ws.getD 0 ByteArray.empty) 9 = 6) (h : 2 ≤ (ws.drop 1).length) : recOf ws = ⟨6, 0, 0, txN ((ws.drop 1).getD 0 ByteArray.empty), txN ((ws.drop 1).getD 1 ByteArray.empty), ⟨0, 0, 0, 0⟩⟩ := by
  have g0 := numsOf_get (ws := ws) (a := 1) (i := 0) (by omega)
  have g1 := numsOf_get (ws := ws) (a := 1) (i := 1) (by omega)
  unfold recOf
  simp only [hk]
  simp [kAcct, kOther, kTo, kAmt, -List.getD_eq_getElem?_getD, g0, g1]
theorem recOf_7 {ws : List ByteArray} (hk : kindTo (ws.getD 0 ByteArray.empty) 9 = 7) (h : 2 ≤ (ws.drop 1).length) : recOf ws = ⟨7, txN ((ws.drop 1).getD 0 ByteArray.empty), 0, 0, txN ((ws.drop 1).getD 1 ByteArray.empty), ⟨0, 0, 0, 0⟩⟩ := by
  have g0 := numsOf_get (ws := ws) (a := 1) (i := 0) (by omega)
  have g1 := numsOf_get (ws := ws) (a := 1) (i := 1) (by omega)
  unfold recOf
  simp only [hk]
  simp [kAcct, kOther, kTo, kAmt, -List.getD_eq_getElem?_getD, g0, g1]
theorem recOf_8 {ws : List ByteArray} (hk : kindTo (ws.getD 0 ByteArray.empty) 9 = 8) (h : 3 ≤ (ws.drop 1).length) : recOf ws = ⟨8, txN ((ws.drop 1).getD 0 ByteArray.empty), 0, txN ((ws.drop 1).getD 1 ByteArray.empty), txN ((ws.drop 1).getD 2 ByteArray.empty), ⟨0, 0, 0, 0⟩⟩ := by
  have g0 := numsOf_get (ws := ws) (a := 1) (i := 0) (by omega)
  have g1 := numsOf_get (ws := ws) (a := 1) (i := 1) (by omega)
  have g2 := numsOf_get (ws := ws) (a := 1) (i := 2) (by omega)
  unfold recOf
  simp only [hk]
  simp [kAcct, kOther, kTo, kAmt, -List.getD_eq_getElem?_getD, g0, g1, g2]
theorem recOf_9 {ws : List ByteArray} (hk : kindTo (ws.getD 0 ByteArray.empty) 9 = 9) (h : 2 ≤ (ws.drop 1).length) : recOf ws = ⟨9, txN ((ws.drop 1).getD 0 ByteArray.empty), 0, txN ((ws.drop 1).getD 1 ByteArray.empty), 0, ⟨0, 0, 0, 0⟩⟩ := by
  have g0 := numsOf_get (ws := ws) (a := 1) (i := 0) (by omega)
  have g1 := numsOf_get (ws := ws) (a := 1) (i := 1) (by omega)
  unfold recOf
  simp only [hk]
  simp [kAcct, kOther, kTo, kAmt, -List.getD_eq_getElem?_getD, g0, g1]
set_option maxRecDepth 100000 in
set_option maxHeartbeats 4000000 in
theorem iReadMsg_c {W0 w : World} (ht : Tab10 W0) (hW : Below W0.heap.size W0 w) {b B0 : Nat} {T : TypeId} {z0 z1 z2 z3 z4 z5 z6 z7 z8 v : Value} {ws : List ByteArray} (h0 : W0.heap.size ≤ b) (hB0 : B0 ≤ b) (x_r : Vr w b T [z0, z1, z2, z3, z4, z5, z6, z7, z8]) (h : WS w B0 v ws) (hz : ∀ x ∈ ws, x.size ≤ 1048576) (hm : ws.length ≤ 16777216) :
    Calls Tryd.prog 29 #[v, .pointer (some ⟨b, 5, none⟩)] w fun e w' => ∃ v' ok, e = .returned (.tuple #[v', .bool ok]) ∧ ((ok = true ∧ (1 ≤ ws.length ∧ okN (ws.drop 1) 3 = true) ∧ Vr w' b T [z0, z1, z2, z3, z4, .int .i64 (mkindTo (ws.getD 0 ByteArray.empty) 5), .int .i64 (txN ((ws.drop 1).getD 0 ByteArray.empty)), .int .i64 (txN ((ws.drop 1).getD 1 ByteArray.empty)), .int .i64 (txN ((ws.drop 1).getD 2 ByteArray.empty))] ∧ WS w' B0 v' ((ws.drop 1).drop 3)) ∨ (ok = false ∧ (¬ 1 ≤ ws.length ∨ okN (ws.drop 1) 3 = false) ∧ v' = .slice none 0 0 ∧ ∃ cs, Vr w' b T cs)) ∧ Chg b (b + 1) w w' := by
  have C0 : Chg b (b + 1) w w := Chg.refl _ _ _
  have lb := x_r.lt
  obtain ⟨A, c, rfl, hc1, hc2, hr⟩ := h
  by_cases hn : 1 ≤ ws.length
  case neg =>
    have i1 : ((ws.length : Int) == 0) = true := by rw [beq_iff_eq]; omega
    go_enter Tryd.func29, Tryd.ntmps29
    go_wp2
    go_ret2
    exact ⟨_, _, rfl, .inr ⟨rfl, .inl hn, rfl, _, x_r⟩, C0⟩
  have i1 : ((ws.length : Int) == 0) = false := by rw [beq_eq_false_iff_ne]; omega
  have i2 : (0 : Int) < (ws.length : Int) := by omega
  have hdr := run_wdrop A c 1 ws.length 1 rfl hn
  have hWS : WS w B0 (.slice A ws.length c) ws := ⟨A, c, rfl, hc1, hc2, hr⟩
  have hWD := hWS.drop hn
  obtain ⟨g, off, hA, hg, hcell⟩ := hr (by omega)
  clear hr hWS
  obtain ⟨y0, hy0⟩ : ∃ y, ws.getD 0 ByteArray.empty = y := ⟨_, rfl⟩
  have e0 := hcell 0 (by omega)
  rw [hy0] at e0
  simp only [Nat.add_zero] at e0
  have HY0 := Lib.hid hy0
  clear hcell hy0
  have hgw : g < w.heap.size := by omega
  generalize hdX : (if c = 1 then A else A.map (·.add (1 * 1))) = X at hdr hWD
  clear hdX
  subst hA
  obtain ⟨K, hK⟩ : ∃ z, mkindTo y0 5 = z := ⟨_, rfl⟩
  have HK := Lib.hid hK
  clear hK
  have c_r_0_w := x_r.cell (i := 0) rfl
  have f_r_0_w := x_r.frozen 0
  have c_r_1_w := x_r.cell (i := 1) rfl
  have f_r_1_w := x_r.frozen 1
  have c_r_2_w := x_r.cell (i := 2) rfl
  have f_r_2_w := x_r.frozen 2
  have c_r_3_w := x_r.cell (i := 3) rfl
  have f_r_3_w := x_r.frozen 3
  have c_r_4_w := x_r.cell (i := 4) rfl
  have f_r_4_w := x_r.frozen 4
  have c_r_5_w := x_r.cell (i := 5) rfl
  have f_r_5_w := x_r.frozen 5
  have c_r_6_w := x_r.cell (i := 6) rfl
  have f_r_6_w := x_r.frozen 6
  have c_r_7_w := x_r.cell (i := 7) rfl
  have f_r_7_w := x_r.frozen 7
  have c_r_8_w := x_r.cell (i := 8) rfl
  have f_r_8_w := x_r.frozen 8
  go_enter Tryd.func29, Tryd.ntmps29
  go_wp2_with fail
  refine (iKindM_c y0 _).mono ?_
  rintro e w1 ⟨rfl, h_w1⟩
  clear c_r_0_w f_r_0_w c_r_1_w f_r_1_w c_r_2_w f_r_2_w c_r_3_w f_r_3_w c_r_4_w f_r_4_w c_r_5_w f_r_5_w c_r_6_w f_r_6_w c_r_7_w f_r_7_w c_r_8_w f_r_8_w
  replace x_r := x_r.from_ h_w1
  have B_w1 := hW.trans (h_w1.mono hW.size)
  have s_w1 := h_w1.size
  have C_w1 := C0.then_below h_w1
  rw [HK.out]
  replace hWD := hWD.below h_w1 (by omega)
  have c_r_0_w1 := x_r.cell (i := 0) rfl
  have f_r_0_w1 := x_r.frozen 0
  have c_r_1_w1 := x_r.cell (i := 1) rfl
  have f_r_1_w1 := x_r.frozen 1
  have c_r_2_w1 := x_r.cell (i := 2) rfl
  have f_r_2_w1 := x_r.frozen 2
  have c_r_3_w1 := x_r.cell (i := 3) rfl
  have f_r_3_w1 := x_r.frozen 3
  have c_r_4_w1 := x_r.cell (i := 4) rfl
  have f_r_4_w1 := x_r.frozen 4
  have c_r_5_w1 := x_r.cell (i := 5) rfl
  have f_r_5_w1 := x_r.frozen 5
  have c_r_6_w1 := x_r.cell (i := 6) rfl
  have f_r_6_w1 := x_r.frozen 6
  have c_r_7_w1 := x_r.cell (i := 7) rfl
  have f_r_7_w1 := x_r.frozen 7
  have c_r_8_w1 := x_r.cell (i := 8) rfl
  have f_r_8_w1 := x_r.frozen 8
  obtain ⟨w2, e_w2, s_w2, h_w2, y⟩ := set_step x_r 5 (.int .i64 K)
  have s_w2_1 := Nat.le_of_eq s_w2
  have s_w2_2 := Nat.le_of_eq s_w2.symm
  clear s_w2
  have B_w2 := Below.chg_ B_w1 h_w2 (by omega) (by omega)
  have C_w2 := C_w1.then_same h_w2
  replace x_r : Vr w2 (b) T [z0, z1, z2, z3, z4, .int .i64 K, z6, z7, z8] := y
  clear y
  replace hWD := hWD.chg h_w2 hB0 (by omega)
  have hz1 : ∀ x ∈ ws.drop 1, x.size ≤ 1048576 := fun x hx => hz x (List.mem_of_mem_drop hx)
  have hm1 : (ws.drop 1).length ≤ 16777216 := by rw [List.length_drop]; omega
  have hgo : ∀ W, Below w2.heap.size w2 W → Calls Tryd.prog 27 #[.slice X (ws.length - 1) (c - 1), .slice (some ⟨W.heap.size, 0, none⟩) 3 3] (W.alloc (.cells #[.pointer (some ⟨b, 6, none⟩), .pointer (some ⟨b, 7, none⟩), .pointer (some ⟨b, 8, none⟩)] 54)) fun e w' => ∃ v' ok, e = .returned (.tuple #[v', .bool ok]) ∧ ((ok = true ∧ okN (ws.drop 1) 3 = true ∧ Vr w' b T [z0, z1, z2, z3, z4, .int .i64 K, .int .i64 (txN ((ws.drop 1).getD 0 ByteArray.empty)), .int .i64 (txN ((ws.drop 1).getD 1 ByteArray.empty)), .int .i64 (txN ((ws.drop 1).getD 2 ByteArray.empty))] ∧ WS w' B0 v' ((ws.drop 1).drop 3)) ∨ (ok = false ∧ okN (ws.drop 1) 3 = false ∧ v' = .slice none 0 0 ∧ ∃ cs, Vr w' b T cs)) ∧ Chg b (b + 1) w w' := by
    intro W hW2
    obtain ⟨w8, e8, s8, b8, x8⟩ := alloc_step W 54 [.pointer (some ⟨b, 6, none⟩), .pointer (some ⟨b, 7, none⟩), .pointer (some ⟨b, 8, none⟩)]
    rw [show W.alloc (.cells #[.pointer (some ⟨b, 6, none⟩), .pointer (some ⟨b, 7, none⟩), .pointer (some ⟨b, 8, none⟩)] 54) = w8 from e8]
    have q1 := hW2.trans (b8.mono hW2.size)
    have q2 := hW2.size
    refine (iRead_msg ht (B_w2.trans (q1.mono B_w2.size)) h0 hB0 (x_r.from_ q1) x8 (by omega) (hWD.below q1 (by omega)) hz1 hm1).mono ?_
    rintro e w' ⟨v', ok, rfl, hp, hC⟩
    exact ⟨v', ok, rfl, hp, (C_w2.then_below q1).then_same hC⟩
  have c_r_0_w2 := x_r.cell (i := 0) rfl
  have f_r_0_w2 := x_r.frozen 0
  have c_r_1_w2 := x_r.cell (i := 1) rfl
  have f_r_1_w2 := x_r.frozen 1
  have c_r_2_w2 := x_r.cell (i := 2) rfl
  have f_r_2_w2 := x_r.frozen 2
  have c_r_3_w2 := x_r.cell (i := 3) rfl
  have f_r_3_w2 := x_r.frozen 3
  have c_r_4_w2 := x_r.cell (i := 4) rfl
  have f_r_4_w2 := x_r.frozen 4
  have c_r_5_w2 := x_r.cell (i := 5) rfl
  have f_r_5_w2 := x_r.frozen 5
  have c_r_6_w2 := x_r.cell (i := 6) rfl
  have f_r_6_w2 := x_r.frozen 6
  have c_r_7_w2 := x_r.cell (i := 7) rfl
  have f_r_7_w2 := x_r.frozen 7
  have c_r_8_w2 := x_r.cell (i := 8) rfl
  have f_r_8_w2 := x_r.frozen 8
  go_wp2_with fail
  go_region_with (go_at_call 27; refine (hgo w2.drew (Below.refl _ _).drew).mono ?_; rintro e w9 ⟨v9, ok, rfl, hp, hC⟩)
  go_wp2
  go_ret2
  refine ⟨_, _, rfl, ?_, hC⟩
  rcases hp with ⟨rfl, p2, p3, p4⟩ | ⟨rfl, p2, p3, p4⟩
  · exact .inl ⟨rfl, ⟨hn, p2⟩, by rw [HY0.out, HK.out]; exact p3, p4⟩
  · exact .inr ⟨rfl, .inr p2, p3, p4⟩
end Go.Proofs.YtkbhbccpmmhelaaDoor
namespace Go.Proofs.YtkbhbccpmmhelaaDoor
open Go.RowKit
set_option linter.unusedVariables false
theorem setRow_chg9 {w : World} {b : Nat} {cs : Array Value} : Chg b (b + 1) w (w.setRow b cs) := ⟨rfl, rfl, rfl, by simp [World.setRow], fun k hk hd => setRow_other w b k cs (by omega)⟩
theorem setRow_size9 (w : World) (b : Nat) (cs : Array Value) : (w.setRow b cs).heap.size = w.heap.size := by simp [World.setRow]
def ints9 (zs : List Int) : List Value := zs.map (Value.int .i64)
theorem ints9_one (zs : List Int) : (ints9 zs).toArray.all (·.oneCell') = true := by
  rw [Array.all_eq_true_iff_forall_mem]
  intro v hv
  have hv : v ∈ ints9 zs := by simpa using hv
  obtain ⟨z, -, rfl⟩ := List.mem_map.1 hv
  rfl
section
variable {w : World} {b : Nat} {t : TypeId}
theorem wpl_rload {ops : Array Oper} {rest : List Oper} {o : Oper} {a : Act} {Q : Exit → Act → World → Prop} {x : Operand} {cs : List Value} (h : Vr w b t cs) (hl : cs.length = 9) (ho : o.op = .load 26 x) (hx : a.eval x = .pointer (some ⟨b, 0, none⟩)) (hw : Region.wanted o (yielded ops a.tmps) = true)
    (hq : wpList Tryd.prog ops Q rest (a.put o.dst (.agg cs.toArray)) w) : wpList Tryd.prog ops Q (o :: rest) a w :=
  wpList_step fun K hK => by
    rw [if_pos hw]
    exact wp_load_row _ x ho b hx t cs.toArray (0, 0) _ h rec_fields rfl (by rw [sz_rec]; simp [hl]) (hK _ _ hq)
theorem wpl_rstore {ops : Array Oper} {rest : List Oper} {o : Oper} {a : Act} {Q : Exit → Act → World → Prop} {x y : Operand} {old : List Value} {zs : List Int} (h : Vr w b t old) (hl : old.length = 9) (hc : zs.length = 9)
    (ho : o.op = .store 26 x y) (hx : a.eval x = .pointer (some ⟨b, 0, none⟩)) (hy : a.eval y = .agg (ints9 zs).toArray) (hw : Region.wanted o (yielded ops a.tmps) = true)
    (hq : ∀ w', Vr w' b t (ints9 zs) → Chg b (b + 1) w w' → (w'.heap.size ≤ w.heap.size ∧ w.heap.size ≤ w'.heap.size) → wpList Tryd.prog ops Q rest (a.put o.dst undef) w') : wpList Tryd.prog ops Q (o :: rest) a w :=
  wpList_step fun K hK => by
    rw [if_pos hw]
    have hlen : (ints9 zs).length = 9 := by unfold ints9; rw [List.length_map, hc]
    refine wp_store_row _ x y ho b (ints9 zs).toArray hx hy t old.toArray h (by rw [sz_rec]; simp [hlen]) (by simp [hl, hlen]) (ints9_one zs) (hK _ _ (hq _ ?_ setRow_chg9 ?_))
    · unfold Vr at h ⊢; exact setRow_heap w b _ _ t _ h
    · rw [setRow_size9]; omega
end
end Go.Proofs.YtkbhbccpmmhelaaDoor
namespace Go.Proofs.YtkbhbccpmmhelaaDoor
open Go.RowKit
set_option linter.unusedVariables false
set_option linter.unusedSimpArgs false
theorem textNo1 {s : ByteArray} {ws : List ByteArray} (hw : splitL s 32 = ws) (h : okT ws = false) : textRecB s = false ∧ textRec s = recZ := by
  have e : textRecB s = false := by rw [textB_eq, hw, h]; rfl
  exact ⟨e, textRec_no e⟩
theorem textNo2 {s : ByteArray} {ws : List ByteArray} {r : MRec} (hw : splitL s 32 = ws) (h : recOf ws = r) (ho : recOkB r = false) : textRecB s = false ∧ textRec s = recZ := by
  have e : textRecB s = false := by rw [textB_eq, hw, h, ho]; simp
  exact ⟨e, textRec_no e⟩
theorem textYes {s : ByteArray} {ws : List ByteArray} {r : MRec} (hw : splitL s 32 = ws) (h : recOf ws = r) (ht : okT ws = true) (ho : recOkB r = true) : textRecB s = true ∧ textRec s = r := by
  have e : textRecB s = true := by rw [textB_eq, hw, h, ho, ht]; rfl
  exact ⟨e, by rw [textRec_yes e, hw, h]⟩
theorem textNo0 {s : ByteArray} {ws : List ByteArray} (hw : splitL s 32 = ws) (hk : kindTo (ws.getD 0 ByteArray.empty) 9 = 0) : textRecB s = false ∧ textRec s = recZ :=
  textNo2 hw rfl (recOk_kind (by rw [recOf_kind, hk]; decide))
set_option maxHeartbeats 1000000 in
theorem iRead_none {w : World} {B0 : Nat} {v : Value} {ws : List ByteArray} (h : WS w B0 v ws) : Calls Tryd.prog 27 #[v, .slice none 0 0] w fun e w' => ∃ v', e = .returned (.tuple #[v', .bool true]) ∧ WS w' B0 v' ws ∧ w = w' := by
  have h' := h
  obtain ⟨A, c, rfl, hc1, hc2, hr⟩ := h'
  have hdr := run_wdrop A c 0 ws.length 0 rfl (Nat.zero_le _)
  have hWD := h.drop (n := 0) (Nat.zero_le _)
  have i1 : ¬ ((ws.length : Int) < 0) := by omega
  generalize (if c = 0 then A else A.map (·.add (0 * 1))) = X at hdr hWD
  go_enter Tryd.func27, Tryd.ntmps27
  go_wp2_with fail
  refine wp_loop_rounds 1 ?_
  rw [rounds_succ]
  go_wp2
  go_ret2
  exact ⟨_, rfl, hWD, rfl⟩
end Go.Proofs.YtkbhbccpmmhelaaDoor
