/- Records out of texts: impl.kindNamed, readNums, readMsg. Laid by a program of ours (src/rck.py). -/
import Derived.Test.YtkbhbccpmmhelaaDoorRcU
import Derived.Test.YtkbhbccpmmhelaaDoorRcQ
import Derived.Test.YtkbhbccpmmhelaaDoorMsgIN
import Derived.Test.YtkbhbccpmmhelaaDoorBunS
import Derived.LoopN
import Derived.Deep.RegionWith
namespace Go.Proofs.YtkbhbccpmmhelaaDoor
open Go.RowKit
set_option linter.unusedVariables false
set_option linter.unusedSimpArgs false

/-- v is a list of strings that lies in blocks below B -/
def WS (w : World) (B : Nat) (v : Value) (ws : List ByteArray) : Prop := ∃ A c, v = .slice A ws.length c ∧ ws.length ≤ c ∧ c ≤ maxLen ∧ RdF Value.string ByteArray.empty w B A ws
section
variable {w w' : World} {B : Nat} {v : Value} {ws : List ByteArray}
theorem WS.keep (h : WS w B v ws) (hk : ∀ p : Addr, p.block < B → w'.cell? p = w.cell? p) : WS w' B v ws := by
  obtain ⟨A, c, rfl, h1, h2, hr⟩ := h
  exact ⟨A, c, rfl, h1, h2, hr.keep hk⟩
theorem WS.below (h : WS w B v ws) (hb : Below w.heap.size w w') (hB : B ≤ w.heap.size) : WS w' B v ws := h.keep fun p hp => hb.cell (Nat.lt_of_lt_of_le hp hB)
theorem WS.chg {a b : Nat} (h : WS w B v ws) (hc : Chg a b w w') (hB : B ≤ a) (hB2 : B ≤ w.heap.size) : WS w' B v ws := h.keep fun p hp => hc.cell_at (Nat.lt_of_lt_of_le hp hB2) (.inl (Nat.lt_of_lt_of_le hp hB))
theorem run_wdrop (A : Option Addr) (c n m : Nat) (z : Int) (hz : z = (n : Int)) (hn : n ≤ m) (W : World) : (Instr.slice 58 (.slice A m c) (some (.int .i64 z)) none none).run Tryd.prog W = .ok (.slice (if c = n then A else A.map (·.add (n * 1))) (m - n) (c - n)) W := by
  subst hz
  rw [run_slice_l W 58 A m c (by kernel_rfl) .i64 n (by omega) (by omega)]
  rw [show Tryd.prog.elem 58 = 9 by kernel_rfl, Tryd.sizeOf9]
  simp [Result.andThen, sliced]
theorem WS.drop {A : Option Addr} {c : Nat} (h : WS w B (.slice A ws.length c) ws) {n : Nat} (hn : n ≤ ws.length) : WS w B (.slice (if c = n then A else A.map (·.add (n * 1))) (ws.length - n) (c - n)) (ws.drop n) := by
  obtain ⟨A', c', he, h1, h2, hr⟩ := h
  injection he with e1 _ e3
  subst e1; subst e3
  refine ⟨_, c - n, by rw [List.length_drop], by rw [List.length_drop]; omega, by omega, fun h0 => ?_⟩
  rw [List.length_drop] at h0
  obtain ⟨b, off, rfl, hb, hc⟩ := hr (by omega)
  refine ⟨b, off + n, by rw [if_neg (by omega)]; simp [Addr.add], hb, fun j hj => ?_⟩
  rw [List.length_drop] at hj
  have := hc (n + j) (by omega)
  rw [show off + n + j = off + (n + j) by omega, this]
  simp [List.getD_eq_getElem?_getD, List.getElem?_drop]
end
/-- the first n words are numbers -/
def okN (ws : List ByteArray) (n : Nat) : Bool := decide (n ≤ ws.length) && (List.range n).all fun j => (textNum (ws.getD j ByteArray.empty)).isSome
theorem okN_iff (ws : List ByteArray) (n : Nat) : okN ws n = true ↔ n ≤ ws.length ∧ ∀ j, j < n → (textNum (ws.getD j ByteArray.empty)).isSome = true := by
  unfold okN
  simp [List.all_eq_true]
theorem okN_short {ws : List ByteArray} {n : Nat} (h : ¬ n ≤ ws.length) : okN ws n = false := by
  cases e : okN ws n with
  | false => rfl
  | true => exact absurd ((okN_iff ws n).1 e).1 h
theorem okN_bad {ws : List ByteArray} {n j : Nat} (hj : j < n) (h : (textNum (ws.getD j ByteArray.empty)).isSome = false) : okN ws n = false := by
  cases e : okN ws n with
  | false => rfl
  | true => have := ((okN_iff ws n).1 e).2 j hj; rw [h] at this; cases this

set_option maxHeartbeats 2000000 in
theorem iKindR_c (x : ByteArray) (w : World) : Calls Tryd.prog 26 #[.string x, .int .i64 9, .func (.func 12) #[] #[]] w fun e w' => e = .returned (.int .i64 (kindTo x 9)) ∧ Below w.heap.size w w' := by
  have eg : ∀ args w, (callFunc 12 args).run Tryd.prog w = .ok (.enter 12 args) w := enters_of Tryd.func12 (by kernel_rfl) rfl
  go_enter Tryd.func26, Tryd.ntmps26
  go_wp2
  go_loopw [7] (fun i wr => ∃ k : Nat, 1 ≤ k ∧ k ≤ 10 ∧ i = .int .i64 k ∧ Hid (∀ j : Nat, 1 ≤ j → j < k → rkName j ≠ x) ∧ Below w.heap.size w wr) (fun i _ => 10 - (intOf i).toNat)
  case atStart => exact ⟨1, by omega, by omega, rfl, fun j h1 h2 => by omega, Below.refl _ _⟩
  case round =>
    obtain ⟨k, hk1, hk2, rfl, HT, HB⟩ := hrel
    by_cases hlt : (k : Int) ≤ 9
    · obtain ⟨y, hy⟩ : ∃ y, rkName (k : Int) = y := ⟨_, rfl⟩
      have HY := Lib.hid hy
      clear hy
      by_cases hxy : y = x
      · obtain rfl := hxy
        have he : (y.toList == y.toList) = true := by simp
        clear he
        go_wp2_with fail
        refine (iRkName_c _ _).mono ?_
        rintro e w' ⟨rfl, hb⟩
        rw [HY.out]
        go_wp2
        go_ret
        exact ⟨ret_eq (by have := kindTo_name (k := k) (by omega); rw [HY.out] at this; rw [this]; rfl), HB.trans (hb.mono HB.size)⟩
      · have hne : (y.toList == x.toList) = false := by rw [str_same]; simpa using hxy
        go_wp2_with fail
        refine (iRkName_c _ _).mono ?_
        rintro e w' ⟨rfl, hb⟩
        rw [HY.out]
        go_wp2
        go_roundw
        case rel => exact ⟨k + 1, by omega, by omega, by go_num, (fun j h1 h2 => by
          by_cases e : j = k
          · subst e; rw [HY.out]; exact hxy
          · exact HT.out j h1 (by omega)), HB.trans (hb.mono HB.size)⟩
        case measure => simp [intOf]; omega
    · have HO : Hid (kindTo x 9 = 0) := by
        show _ = _
        have hr := kindTo_range x 9
        rcases Int.lt_or_le 0 (kindTo x 9) with h | h
        · exfalso
          have hb := kindTo_back (x := x) 9 (by omega)
          refine HT.out (kindTo x 9).toNat (by omega) (by omega) ?_
          rw [show (((kindTo x 9).toNat : Nat) : Int) = kindTo x 9 by omega]
          exact hb
        · omega
      go_wp2
      go_ret
      exact ⟨ret_eq (by rw [HO.out]; rfl), HB⟩

set_option maxHeartbeats 2000000 in
theorem iKindM_c (x : ByteArray) (w : World) : Calls Tryd.prog 26 #[.string x, .int .i64 5, .func (.func 60) #[] #[]] w fun e w' => e = .returned (.int .i64 (mkindTo x 5)) ∧ Below w.heap.size w w' := by
  have eg : ∀ args w, (callFunc 60 args).run Tryd.prog w = .ok (.enter 60 args) w := enters_of Tryd.func60 (by kernel_rfl) rfl
  go_enter Tryd.func26, Tryd.ntmps26
  go_wp2
  go_loopw [7] (fun i wr => ∃ k : Nat, 1 ≤ k ∧ k ≤ 6 ∧ i = .int .i64 k ∧ Hid (∀ j : Nat, 1 ≤ j → j < k → msgName j ≠ x) ∧ Below w.heap.size w wr) (fun i _ => 6 - (intOf i).toNat)
  case atStart => exact ⟨1, by omega, by omega, rfl, fun j h1 h2 => by omega, Below.refl _ _⟩
  case round =>
    obtain ⟨k, hk1, hk2, rfl, HT, HB⟩ := hrel
    by_cases hlt : (k : Int) ≤ 5
    · obtain ⟨y, hy⟩ : ∃ y, msgName (k : Int) = y := ⟨_, rfl⟩
      have HY := Lib.hid hy
      clear hy
      by_cases hxy : y = x
      · obtain rfl := hxy
        have he : (y.toList == y.toList) = true := by simp
        clear he
        go_wp2_with fail
        refine (iMsgName_c _ _).mono ?_
        rintro e w' ⟨rfl, hb⟩
        rw [HY.out]
        go_wp2
        go_ret
        exact ⟨ret_eq (by have := mkindTo_name (k := k) (by omega); rw [HY.out] at this; rw [this]; rfl), HB.trans (hb.mono HB.size)⟩
      · have hne : (y.toList == x.toList) = false := by rw [str_same]; simpa using hxy
        go_wp2_with fail
        refine (iMsgName_c _ _).mono ?_
        rintro e w' ⟨rfl, hb⟩
        rw [HY.out]
        go_wp2
        go_roundw
        case rel => exact ⟨k + 1, by omega, by omega, by go_num, (fun j h1 h2 => by
          by_cases e : j = k
          · subst e; rw [HY.out]; exact hxy
          · exact HT.out j h1 (by omega)), HB.trans (hb.mono HB.size)⟩
        case measure => simp [intOf]; omega
    · have HO : Hid (mkindTo x 5 = 0) := by
        show _ = _
        have hr := mkindTo_range x 5
        rcases Int.lt_or_le 0 (mkindTo x 5) with h | h
        · exfalso
          have hb := mkindTo_back (x := x) 5 (by omega)
          refine HT.out (mkindTo x 5).toNat (by omega) (by omega) ?_
          rw [show (((mkindTo x 5).toNat : Nat) : Int) = mkindTo x 5 by omega]
          exact hb
        · omega
      go_wp2
      go_ret
      exact ⟨ret_eq (by rw [HO.out]; rfl), HB⟩

set_option maxRecDepth 100000 in
set_option maxHeartbeats 4000000 in
theorem iRead_acctAmt {W0 w : World} (ht : Tab10 W0) (hW : Below W0.heap.size W0 w) {b B B0 : Nat} {T U : TypeId} {z0 z1 z2 z3 z4 z5 z6 z7 z8 v : Value} {ws : List ByteArray} (h0 : W0.heap.size ≤ b) (hB0 : B0 ≤ b) (x_r : Vr w b T [z0, z1, z2, z3, z4, z5, z6, z7, z8]) (x_l : Vr w B U [.pointer (some ⟨b, 1, none⟩), .pointer (some ⟨b, 4, none⟩)]) (hbB : b < B) (h : WS w B0 v ws) (hz : ∀ x ∈ ws, x.size ≤ 1048576) (hm : ws.length ≤ 16777216) :
    Calls Tryd.prog 27 #[v, .slice (some ⟨B, 0, none⟩) 2 2] w fun e w' => ∃ v' ok, e = .returned (.tuple #[v', .bool ok]) ∧ ((ok = true ∧ okN ws 2 = true ∧ Vr w' b T [z0, .int .i64 (txN (ws.getD 0 ByteArray.empty)), z2, z3, .int .i64 (txN (ws.getD 1 ByteArray.empty)), z5, z6, z7, z8] ∧ WS w' B0 v' (ws.drop 2)) ∨ (ok = false ∧ okN ws 2 = false ∧ v' = .slice none 0 0 ∧ ∃ cs, Vr w' b T cs)) ∧ Chg b (b + 1) w w' := by
  have C0 : Chg b (b + 1) w w := Chg.refl _ _ _
  have lb := x_r.lt
  have lB := x_l.lt
  obtain ⟨A, c, rfl, hc1, hc2, hr⟩ := h
  by_cases hn : 2 ≤ ws.length
  case neg =>
    have i1 : (ws.length : Int) < 2 := by omega
    go_enter Tryd.func27, Tryd.ntmps27
    go_wp2
    go_ret2
    exact ⟨_, _, rfl, .inr ⟨rfl, okN_short hn, rfl, _, x_r⟩, C0⟩
  have i1 : ¬ ((ws.length : Int) < 2) := by omega
  have hdr := run_wdrop A c 2 ws.length 2 rfl hn
  have hWS : WS w B0 (.slice A ws.length c) ws := ⟨A, c, rfl, hc1, hc2, hr⟩
  obtain ⟨g, off, hA, hg, hcell⟩ := hr (by omega)
  clear hr
  obtain ⟨y0, hy0⟩ : ∃ y, ws.getD 0 ByteArray.empty = y := ⟨_, rfl⟩
  have zy0 : y0.size ≤ 1073741824 := by rw [← hy0]; exact Nat.le_trans (getD_sz hz 0) (by omega)
  have e0 := hcell 0 (by omega)
  rw [hy0] at e0
  have HY0 := Lib.hid hy0
  have l0 : (0 : Int) < (ws.length : Int) := by omega
  obtain ⟨y1, hy1⟩ : ∃ y, ws.getD 1 ByteArray.empty = y := ⟨_, rfl⟩
  have zy1 : y1.size ≤ 1073741824 := by rw [← hy1]; exact Nat.le_trans (getD_sz hz 1) (by omega)
  have e1 := hcell 1 (by omega)
  rw [hy1] at e1
  have HY1 := Lib.hid hy1
  have l1 : (1 : Int) < (ws.length : Int) := by omega
  clear hcell hy0 hy1
  have hgw : g < w.heap.size := by omega
  simp only [Nat.add_zero] at e0
  generalize hdX : (if c = 2 then A else A.map (·.add (2 * 1))) = X at hdr
  have HX := Lib.hid hdX
  clear hdX
  have HAe := Lib.hid hA
  subst hA
  have c_r_0_w := x_r.cell (i := 0) rfl
  have f_r_0_w := x_r.frozen 0
  have c_r_1_w := x_r.cell (i := 1) rfl
  have f_r_1_w := x_r.frozen 1
  have c_r_2_w := x_r.cell (i := 2) rfl
  have f_r_2_w := x_r.frozen 2
  have c_r_3_w := x_r.cell (i := 3) rfl
  have f_r_3_w := x_r.frozen 3
  have c_r_4_w := x_r.cell (i := 4) rfl
  have f_r_4_w := x_r.frozen 4
  have c_r_5_w := x_r.cell (i := 5) rfl
  have f_r_5_w := x_r.frozen 5
  have c_r_6_w := x_r.cell (i := 6) rfl
  have f_r_6_w := x_r.frozen 6
  have c_r_7_w := x_r.cell (i := 7) rfl
  have f_r_7_w := x_r.frozen 7
  have c_r_8_w := x_r.cell (i := 8) rfl
  have f_r_8_w := x_r.frozen 8
  have c_l_0_w := x_l.cell (i := 0) rfl
  have f_l_0_w := x_l.frozen 0
  have c_l_1_w := x_l.cell (i := 1) rfl
  have f_l_1_w := x_l.frozen 1
  go_enter Tryd.func27, Tryd.ntmps27
  go_wp2_with fail
  refine wp_loop_rounds 3 ?_
  obtain ⟨ob0, hb0⟩ : ∃ b, (textNum y0).isSome = b := ⟨_, rfl⟩
  have HB0 := Lib.hid hb0
  clear hb0
  obtain ⟨n0, hn0⟩ : ∃ z, txN y0 = z := ⟨_, rfl⟩
  have HN0 := Lib.hid hn0
  clear hn0
  clear c_r_0_w f_r_0_w c_r_1_w f_r_1_w c_r_2_w f_r_2_w c_r_3_w f_r_3_w c_r_4_w f_r_4_w c_r_5_w f_r_5_w c_r_6_w f_r_6_w c_r_7_w f_r_7_w c_r_8_w f_r_8_w c_l_0_w f_l_0_w c_l_1_w f_l_1_w
  have c_r_0_w := x_r.cell (i := 0) rfl
  have f_r_0_w := x_r.frozen 0
  have c_r_1_w := x_r.cell (i := 1) rfl
  have f_r_1_w := x_r.frozen 1
  have c_r_2_w := x_r.cell (i := 2) rfl
  have f_r_2_w := x_r.frozen 2
  have c_r_3_w := x_r.cell (i := 3) rfl
  have f_r_3_w := x_r.frozen 3
  have c_r_4_w := x_r.cell (i := 4) rfl
  have f_r_4_w := x_r.frozen 4
  have c_r_5_w := x_r.cell (i := 5) rfl
  have f_r_5_w := x_r.frozen 5
  have c_r_6_w := x_r.cell (i := 6) rfl
  have f_r_6_w := x_r.frozen 6
  have c_r_7_w := x_r.cell (i := 7) rfl
  have f_r_7_w := x_r.frozen 7
  have c_r_8_w := x_r.cell (i := 8) rfl
  have f_r_8_w := x_r.frozen 8
  have c_l_0_w := x_l.cell (i := 0) rfl
  have f_l_0_w := x_l.frozen 0
  have c_l_1_w := x_l.cell (i := 1) rfl
  have f_l_1_w := x_l.frozen 1
  rw [rounds_succ]
  go_wp2_with fail
  refine (iTextNum_any _ _ (ht.below hW) zy0).mono ?_
  rintro e w1 ⟨rfl, h_w1⟩
  clear c_r_0_w f_r_0_w c_r_1_w f_r_1_w c_r_2_w f_r_2_w c_r_3_w f_r_3_w c_r_4_w f_r_4_w c_r_5_w f_r_5_w c_r_6_w f_r_6_w c_r_7_w f_r_7_w c_r_8_w f_r_8_w c_l_0_w f_l_0_w c_l_1_w f_l_1_w
  replace x_r := x_r.from_ h_w1
  replace x_l := x_l.from_ h_w1
  have B_w1 := hW.trans (h_w1.mono hW.size)
  have s_w1 := h_w1.size
  have C_w1 := C0.then_below h_w1
  rw [textVal_txN, HB0.out, HN0.out]
  replace e0 := (h_w1.cell (p := ⟨g, off, none⟩) (by show g < _; omega)).trans e0
  replace e1 := (h_w1.cell (p := ⟨g, off + 1, none⟩) (by show g < _; omega)).trans e1
  replace hWS := hWS.below h_w1 (by omega)
  cases ob0 with
  | false =>
    go_wp2
    go_ret2
    exact ⟨_, _, rfl, .inr ⟨rfl, okN_bad (j := 0) (by omega) (by rw [HY0.out]; exact HB0.out), rfl, _, x_r⟩, C_w1⟩
  | true =>
    have c_r_0_w1 := x_r.cell (i := 0) rfl
    have f_r_0_w1 := x_r.frozen 0
    have c_r_1_w1 := x_r.cell (i := 1) rfl
    have f_r_1_w1 := x_r.frozen 1
    have c_r_2_w1 := x_r.cell (i := 2) rfl
    have f_r_2_w1 := x_r.frozen 2
    have c_r_3_w1 := x_r.cell (i := 3) rfl
    have f_r_3_w1 := x_r.frozen 3
    have c_r_4_w1 := x_r.cell (i := 4) rfl
    have f_r_4_w1 := x_r.frozen 4
    have c_r_5_w1 := x_r.cell (i := 5) rfl
    have f_r_5_w1 := x_r.frozen 5
    have c_r_6_w1 := x_r.cell (i := 6) rfl
    have f_r_6_w1 := x_r.frozen 6
    have c_r_7_w1 := x_r.cell (i := 7) rfl
    have f_r_7_w1 := x_r.frozen 7
    have c_r_8_w1 := x_r.cell (i := 8) rfl
    have f_r_8_w1 := x_r.frozen 8
    have c_l_0_w1 := x_l.cell (i := 0) rfl
    have f_l_0_w1 := x_l.frozen 0
    have c_l_1_w1 := x_l.cell (i := 1) rfl
    have f_l_1_w1 := x_l.frozen 1
    obtain ⟨w2, e_w2, s_w2, h_w2, y⟩ := set_step x_r 1 (.int .i64 n0)
    have s_w2_1 := Nat.le_of_eq s_w2
    have s_w2_2 := Nat.le_of_eq s_w2.symm
    clear s_w2
    replace x_l := x_l.chg h_w2 (by omega)
    have B_w2 := Below.chg_ B_w1 h_w2 (by omega) (by omega)
    have C_w2 := C_w1.then_same h_w2
    replace x_r : Vr w2 (b) T [z0, .int .i64 n0, z2, z3, z4, z5, z6, z7, z8] := y
    clear y
    have c_r_0_w2 := x_r.cell (i := 0) rfl
    have f_r_0_w2 := x_r.frozen 0
    have c_r_1_w2 := x_r.cell (i := 1) rfl
    have f_r_1_w2 := x_r.frozen 1
    have c_r_2_w2 := x_r.cell (i := 2) rfl
    have f_r_2_w2 := x_r.frozen 2
    have c_r_3_w2 := x_r.cell (i := 3) rfl
    have f_r_3_w2 := x_r.frozen 3
    have c_r_4_w2 := x_r.cell (i := 4) rfl
    have f_r_4_w2 := x_r.frozen 4
    have c_r_5_w2 := x_r.cell (i := 5) rfl
    have f_r_5_w2 := x_r.frozen 5
    have c_r_6_w2 := x_r.cell (i := 6) rfl
    have f_r_6_w2 := x_r.frozen 6
    have c_r_7_w2 := x_r.cell (i := 7) rfl
    have f_r_7_w2 := x_r.frozen 7
    have c_r_8_w2 := x_r.cell (i := 8) rfl
    have f_r_8_w2 := x_r.frozen 8
    have c_l_0_w2 := x_l.cell (i := 0) rfl
    have f_l_0_w2 := x_l.frozen 0
    have c_l_1_w2 := x_l.cell (i := 1) rfl
    have f_l_1_w2 := x_l.frozen 1
    replace e0 := (h_w2.cell_at (p := ⟨g, off, none⟩) (by show g < _; omega) (.inl (by show g < b; omega))).trans e0
    replace e1 := (h_w2.cell_at (p := ⟨g, off + 1, none⟩) (by show g < _; omega) (.inl (by show g < b; omega))).trans e1
    replace hWS := hWS.chg h_w2 hB0 (by omega)
    go_wp2_with fail
    obtain ⟨ob1, hb1⟩ : ∃ b, (textNum y1).isSome = b := ⟨_, rfl⟩
    have HB1 := Lib.hid hb1
    clear hb1
    obtain ⟨n1, hn1⟩ : ∃ z, txN y1 = z := ⟨_, rfl⟩
    have HN1 := Lib.hid hn1
    clear hn1
    clear c_r_0_w1 f_r_0_w1 c_r_1_w1 f_r_1_w1 c_r_2_w1 f_r_2_w1 c_r_3_w1 f_r_3_w1 c_r_4_w1 f_r_4_w1 c_r_5_w1 f_r_5_w1 c_r_6_w1 f_r_6_w1 c_r_7_w1 f_r_7_w1 c_r_8_w1 f_r_8_w1 c_l_0_w1 f_l_0_w1 c_l_1_w1 f_l_1_w1 c_r_0_w2 f_r_0_w2 c_r_1_w2 f_r_1_w2 c_r_2_w2 f_r_2_w2 c_r_3_w2 f_r_3_w2 c_r_4_w2 f_r_4_w2 c_r_5_w2 f_r_5_w2 c_r_6_w2 f_r_6_w2 c_r_7_w2 f_r_7_w2 c_r_8_w2 f_r_8_w2 c_l_0_w2 f_l_0_w2 c_l_1_w2 f_l_1_w2
    have c_r_0_w2 := x_r.cell (i := 0) rfl
    have f_r_0_w2 := x_r.frozen 0
    have c_r_1_w2 := x_r.cell (i := 1) rfl
    have f_r_1_w2 := x_r.frozen 1
    have c_r_2_w2 := x_r.cell (i := 2) rfl
    have f_r_2_w2 := x_r.frozen 2
    have c_r_3_w2 := x_r.cell (i := 3) rfl
    have f_r_3_w2 := x_r.frozen 3
    have c_r_4_w2 := x_r.cell (i := 4) rfl
    have f_r_4_w2 := x_r.frozen 4
    have c_r_5_w2 := x_r.cell (i := 5) rfl
    have f_r_5_w2 := x_r.frozen 5
    have c_r_6_w2 := x_r.cell (i := 6) rfl
    have f_r_6_w2 := x_r.frozen 6
    have c_r_7_w2 := x_r.cell (i := 7) rfl
    have f_r_7_w2 := x_r.frozen 7
    have c_r_8_w2 := x_r.cell (i := 8) rfl
    have f_r_8_w2 := x_r.frozen 8
    have c_l_0_w2 := x_l.cell (i := 0) rfl
    have f_l_0_w2 := x_l.frozen 0
    have c_l_1_w2 := x_l.cell (i := 1) rfl
    have f_l_1_w2 := x_l.frozen 1
    rw [rounds_succ]
    go_wp2_with fail
    refine (iTextNum_any _ _ (ht.below B_w2) zy1).mono ?_
    rintro e w3 ⟨rfl, h_w3⟩
    clear c_r_0_w2 f_r_0_w2 c_r_1_w2 f_r_1_w2 c_r_2_w2 f_r_2_w2 c_r_3_w2 f_r_3_w2 c_r_4_w2 f_r_4_w2 c_r_5_w2 f_r_5_w2 c_r_6_w2 f_r_6_w2 c_r_7_w2 f_r_7_w2 c_r_8_w2 f_r_8_w2 c_l_0_w2 f_l_0_w2 c_l_1_w2 f_l_1_w2
    replace x_r := x_r.from_ h_w3
    replace x_l := x_l.from_ h_w3
    have B_w3 := B_w2.trans (h_w3.mono B_w2.size)
    have s_w3 := h_w3.size
    have C_w3 := C_w2.then_below h_w3
    rw [textVal_txN, HB1.out, HN1.out]
    replace e0 := (h_w3.cell (p := ⟨g, off, none⟩) (by show g < _; omega)).trans e0
    replace e1 := (h_w3.cell (p := ⟨g, off + 1, none⟩) (by show g < _; omega)).trans e1
    replace hWS := hWS.below h_w3 (by omega)
    cases ob1 with
    | false =>
      go_wp2
      go_ret2
      exact ⟨_, _, rfl, .inr ⟨rfl, okN_bad (j := 1) (by omega) (by rw [HY1.out]; exact HB1.out), rfl, _, x_r⟩, C_w3⟩
    | true =>
      have c_r_0_w3 := x_r.cell (i := 0) rfl
      have f_r_0_w3 := x_r.frozen 0
      have c_r_1_w3 := x_r.cell (i := 1) rfl
      have f_r_1_w3 := x_r.frozen 1
      have c_r_2_w3 := x_r.cell (i := 2) rfl
      have f_r_2_w3 := x_r.frozen 2
      have c_r_3_w3 := x_r.cell (i := 3) rfl
      have f_r_3_w3 := x_r.frozen 3
      have c_r_4_w3 := x_r.cell (i := 4) rfl
      have f_r_4_w3 := x_r.frozen 4
      have c_r_5_w3 := x_r.cell (i := 5) rfl
      have f_r_5_w3 := x_r.frozen 5
      have c_r_6_w3 := x_r.cell (i := 6) rfl
      have f_r_6_w3 := x_r.frozen 6
      have c_r_7_w3 := x_r.cell (i := 7) rfl
      have f_r_7_w3 := x_r.frozen 7
      have c_r_8_w3 := x_r.cell (i := 8) rfl
      have f_r_8_w3 := x_r.frozen 8
      have c_l_0_w3 := x_l.cell (i := 0) rfl
      have f_l_0_w3 := x_l.frozen 0
      have c_l_1_w3 := x_l.cell (i := 1) rfl
      have f_l_1_w3 := x_l.frozen 1
      obtain ⟨w4, e_w4, s_w4, h_w4, y⟩ := set_step x_r 4 (.int .i64 n1)
      have s_w4_1 := Nat.le_of_eq s_w4
      have s_w4_2 := Nat.le_of_eq s_w4.symm
      clear s_w4
      replace x_l := x_l.chg h_w4 (by omega)
      have B_w4 := Below.chg_ B_w3 h_w4 (by omega) (by omega)
      have C_w4 := C_w3.then_same h_w4
      replace x_r : Vr w4 (b) T [z0, .int .i64 n0, z2, z3, .int .i64 n1, z5, z6, z7, z8] := y
      clear y
      have c_r_0_w4 := x_r.cell (i := 0) rfl
      have f_r_0_w4 := x_r.frozen 0
      have c_r_1_w4 := x_r.cell (i := 1) rfl
      have f_r_1_w4 := x_r.frozen 1
      have c_r_2_w4 := x_r.cell (i := 2) rfl
      have f_r_2_w4 := x_r.frozen 2
      have c_r_3_w4 := x_r.cell (i := 3) rfl
      have f_r_3_w4 := x_r.frozen 3
      have c_r_4_w4 := x_r.cell (i := 4) rfl
      have f_r_4_w4 := x_r.frozen 4
      have c_r_5_w4 := x_r.cell (i := 5) rfl
      have f_r_5_w4 := x_r.frozen 5
      have c_r_6_w4 := x_r.cell (i := 6) rfl
      have f_r_6_w4 := x_r.frozen 6
      have c_r_7_w4 := x_r.cell (i := 7) rfl
      have f_r_7_w4 := x_r.frozen 7
      have c_r_8_w4 := x_r.cell (i := 8) rfl
      have f_r_8_w4 := x_r.frozen 8
      have c_l_0_w4 := x_l.cell (i := 0) rfl
      have f_l_0_w4 := x_l.frozen 0
      have c_l_1_w4 := x_l.cell (i := 1) rfl
      have f_l_1_w4 := x_l.frozen 1
      replace e0 := (h_w4.cell_at (p := ⟨g, off, none⟩) (by show g < _; omega) (.inl (by show g < b; omega))).trans e0
      replace e1 := (h_w4.cell_at (p := ⟨g, off + 1, none⟩) (by show g < _; omega) (.inl (by show g < b; omega))).trans e1
      replace hWS := hWS.chg h_w4 hB0 (by omega)
      go_wp2_with fail
      rw [rounds_succ]
      go_wp2
      go_ret2
      refine ⟨_, _, rfl, .inl ⟨rfl, (okN_iff ws 2).2 ⟨hn, fun j hj => ?_⟩, ?_, ?_⟩, C_w4⟩
      · have hj2 : j = 0 ∨ j = 1 := by omega
        rcases hj2 with rfl | rfl
        · rw [HY0.out]; exact HB0.out
        · rw [HY1.out]; exact HB1.out
      · rw [HY0.out, HN0.out, HY1.out, HN1.out]; exact x_r
      · rw [← HX.out]; exact hWS.drop hn

set_option maxRecDepth 100000 in
set_option maxHeartbeats 4000000 in
theorem iRead_acctTo {W0 w : World} (ht : Tab10 W0) (hW : Below W0.heap.size W0 w) {b B B0 : Nat} {T U : TypeId} {z0 z1 z2 z3 z4 z5 z6 z7 z8 v : Value} {ws : List ByteArray} (h0 : W0.heap.size ≤ b) (hB0 : B0 ≤ b) (x_r : Vr w b T [z0, z1, z2, z3, z4, z5, z6, z7, z8]) (x_l : Vr w B U [.pointer (some ⟨b, 1, none⟩), .pointer (some ⟨b, 3, none⟩)]) (hbB : b < B) (h : WS w B0 v ws) (hz : ∀ x ∈ ws, x.size ≤ 1048576) (hm : ws.length ≤ 16777216) :
    Calls Tryd.prog 27 #[v, .slice (some ⟨B, 0, none⟩) 2 2] w fun e w' => ∃ v' ok, e = .returned (.tuple #[v', .bool ok]) ∧ ((ok = true ∧ okN ws 2 = true ∧ Vr w' b T [z0, .int .i64 (txN (ws.getD 0 ByteArray.empty)), z2, .int .i64 (txN (ws.getD 1 ByteArray.empty)), z4, z5, z6, z7, z8] ∧ WS w' B0 v' (ws.drop 2)) ∨ (ok = false ∧ okN ws 2 = false ∧ v' = .slice none 0 0 ∧ ∃ cs, Vr w' b T cs)) ∧ Chg b (b + 1) w w' := by
  have C0 : Chg b (b + 1) w w := Chg.refl _ _ _
  have lb := x_r.lt
  have lB := x_l.lt
  obtain ⟨A, c, rfl, hc1, hc2, hr⟩ := h
  by_cases hn : 2 ≤ ws.length
  case neg =>
    have i1 : (ws.length : Int) < 2 := by omega
    go_enter Tryd.func27, Tryd.ntmps27
    go_wp2
    go_ret2
    exact ⟨_, _, rfl, .inr ⟨rfl, okN_short hn, rfl, _, x_r⟩, C0⟩
  have i1 : ¬ ((ws.length : Int) < 2) := by omega
  have hdr := run_wdrop A c 2 ws.length 2 rfl hn
  have hWS : WS w B0 (.slice A ws.length c) ws := ⟨A, c, rfl, hc1, hc2, hr⟩
  obtain ⟨g, off, hA, hg, hcell⟩ := hr (by omega)
  clear hr
  obtain ⟨y0, hy0⟩ : ∃ y, ws.getD 0 ByteArray.empty = y := ⟨_, rfl⟩
  have zy0 : y0.size ≤ 1073741824 := by rw [← hy0]; exact Nat.le_trans (getD_sz hz 0) (by omega)
  have e0 := hcell 0 (by omega)
  rw [hy0] at e0
  have HY0 := Lib.hid hy0
  have l0 : (0 : Int) < (ws.length : Int) := by omega
  obtain ⟨y1, hy1⟩ : ∃ y, ws.getD 1 ByteArray.empty = y := ⟨_, rfl⟩
  have zy1 : y1.size ≤ 1073741824 := by rw [← hy1]; exact Nat.le_trans (getD_sz hz 1) (by omega)
  have e1 := hcell 1 (by omega)
  rw [hy1] at e1
  have HY1 := Lib.hid hy1
  have l1 : (1 : Int) < (ws.length : Int) := by omega
  clear hcell hy0 hy1
  have hgw : g < w.heap.size := by omega
  simp only [Nat.add_zero] at e0
  generalize hdX : (if c = 2 then A else A.map (·.add (2 * 1))) = X at hdr
  have HX := Lib.hid hdX
  clear hdX
  have HAe := Lib.hid hA
  subst hA
  have c_r_0_w := x_r.cell (i := 0) rfl
  have f_r_0_w := x_r.frozen 0
  have c_r_1_w := x_r.cell (i := 1) rfl
  have f_r_1_w := x_r.frozen 1
  have c_r_2_w := x_r.cell (i := 2) rfl
  have f_r_2_w := x_r.frozen 2
  have c_r_3_w := x_r.cell (i := 3) rfl
  have f_r_3_w := x_r.frozen 3
  have c_r_4_w := x_r.cell (i := 4) rfl
  have f_r_4_w := x_r.frozen 4
  have c_r_5_w := x_r.cell (i := 5) rfl
  have f_r_5_w := x_r.frozen 5
  have c_r_6_w := x_r.cell (i := 6) rfl
  have f_r_6_w := x_r.frozen 6
  have c_r_7_w := x_r.cell (i := 7) rfl
  have f_r_7_w := x_r.frozen 7
  have c_r_8_w := x_r.cell (i := 8) rfl
  have f_r_8_w := x_r.frozen 8
  have c_l_0_w := x_l.cell (i := 0) rfl
  have f_l_0_w := x_l.frozen 0
  have c_l_1_w := x_l.cell (i := 1) rfl
  have f_l_1_w := x_l.frozen 1
  go_enter Tryd.func27, Tryd.ntmps27
  go_wp2_with fail
  refine wp_loop_rounds 3 ?_
  obtain ⟨ob0, hb0⟩ : ∃ b, (textNum y0).isSome = b := ⟨_, rfl⟩
  have HB0 := Lib.hid hb0
  clear hb0
  obtain ⟨n0, hn0⟩ : ∃ z, txN y0 = z := ⟨_, rfl⟩
  have HN0 := Lib.hid hn0
  clear hn0
  clear c_r_0_w f_r_0_w c_r_1_w f_r_1_w c_r_2_w f_r_2_w c_r_3_w f_r_3_w c_r_4_w f_r_4_w c_r_5_w f_r_5_w c_r_6_w f_r_6_w c_r_7_w f_r_7_w c_r_8_w f_r_8_w c_l_0_w f_l_0_w c_l_1_w f_l_1_w
  have c_r_0_w := x_r.cell (i := 0) rfl
  have f_r_0_w := x_r.frozen 0
  have c_r_1_w := x_r.cell (i := 1) rfl
  have f_r_1_w := x_r.frozen 1
  have c_r_2_w := x_r.cell (i := 2) rfl
  have f_r_2_w := x_r.frozen 2
  have c_r_3_w := x_r.cell (i := 3) rfl
  have f_r_3_w := x_r.frozen 3
  have c_r_4_w := x_r.cell (i := 4) rfl
  have f_r_4_w := x_r.frozen 4
  have c_r_5_w := x_r.cell (i := 5) rfl
  have f_r_5_w := x_r.frozen 5
  have c_r_6_w := x_r.cell (i := 6) rfl
  have f_r_6_w := x_r.frozen 6
  have c_r_7_w := x_r.cell (i := 7) rfl
  have f_r_7_w := x_r.frozen 7
  have c_r_8_w := x_r.cell (i := 8) rfl
  have f_r_8_w := x_r.frozen 8
  have c_l_0_w := x_l.cell (i := 0) rfl
  have f_l_0_w := x_l.frozen 0
  have c_l_1_w := x_l.cell (i := 1) rfl
  have f_l_1_w := x_l.frozen 1
  rw [rounds_succ]
  go_wp2_with fail
  refine (iTextNum_any _ _ (ht.below hW) zy0).mono ?_
  rintro e w1 ⟨rfl, h_w1⟩
  clear c_r_0_w f_r_0_w c_r_1_w f_r_1_w c_r_2_w f_r_2_w c_r_3_w f_r_3_w c_r_4_w f_r_4_w c_r_5_w f_r_5_w c_r_6_w f_r_6_w c_r_7_w f_r_7_w c_r_8_w f_r_8_w c_l_0_w f_l_0_w c_l_1_w f_l_1_w
  replace x_r := x_r.from_ h_w1
  replace x_l := x_l.from_ h_w1
  have B_w1 := hW.trans (h_w1.mono hW.size)
  have s_w1 := h_w1.size
  have C_w1 := C0.then_below h_w1
  rw [textVal_txN, HB0.out, HN0.out]
  replace e0 := (h_w1.cell (p := ⟨g, off, none⟩) (by show g < _; omega)).trans e0
  replace e1 := (h_w1.cell (p := ⟨g, off + 1, none⟩) (by show g < _; omega)).trans e1
  replace hWS := hWS.below h_w1 (by omega)
  cases ob0 with
  | false =>
    go_wp2
    go_ret2
    exact ⟨_, _, rfl, .inr ⟨rfl, okN_bad (j := 0) (by omega) (by rw [HY0.out]; exact HB0.out), rfl, _, x_r⟩, C_w1⟩
  | true =>
    have c_r_0_w1 := x_r.cell (i := 0) rfl
    have f_r_0_w1 := x_r.frozen 0
    have c_r_1_w1 := x_r.cell (i := 1) rfl
    have f_r_1_w1 := x_r.frozen 1
    have c_r_2_w1 := x_r.cell (i := 2) rfl
    have f_r_2_w1 := x_r.frozen 2
    have c_r_3_w1 := x_r.cell (i := 3) rfl
    have f_r_3_w1 := x_r.frozen 3
    have c_r_4_w1 := x_r.cell (i := 4) rfl
    have f_r_4_w1 := x_r.frozen 4
    have c_r_5_w1 := x_r.cell (i := 5) rfl
    have f_r_5_w1 := x_r.frozen 5
    have c_r_6_w1 := x_r.cell (i := 6) rfl
    have f_r_6_w1 := x_r.frozen 6
    have c_r_7_w1 := x_r.cell (i := 7) rfl
    have f_r_7_w1 := x_r.frozen 7
    have c_r_8_w1 := x_r.cell (i := 8) rfl
    have f_r_8_w1 := x_r.frozen 8
    have c_l_0_w1 := x_l.cell (i := 0) rfl
    have f_l_0_w1 := x_l.frozen 0
    have c_l_1_w1 := x_l.cell (i := 1) rfl
    have f_l_1_w1 := x_l.frozen 1
    obtain ⟨w2, e_w2, s_w2, h_w2, y⟩ := set_step x_r 1 (.int .i64 n0)
    have s_w2_1 := Nat.le_of_eq s_w2
    have s_w2_2 := Nat.le_of_eq s_w2.symm
    clear s_w2
    replace x_l := x_l.chg h_w2 (by omega)
    have B_w2 := Below.chg_ B_w1 h_w2 (by omega) (by omega)
    have C_w2 := C_w1.then_same h_w2
    replace x_r : Vr w2 (b) T [z0, .int .i64 n0, z2, z3, z4, z5, z6, z7, z8] := y
    clear y
    have c_r_0_w2 := x_r.cell (i := 0) rfl
    have f_r_0_w2 := x_r.frozen 0
    have c_r_1_w2 := x_r.cell (i := 1) rfl
    have f_r_1_w2 := x_r.frozen 1
    have c_r_2_w2 := x_r.cell (i := 2) rfl
    have f_r_2_w2 := x_r.frozen 2
    have c_r_3_w2 := x_r.cell (i := 3) rfl
    have f_r_3_w2 := x_r.frozen 3
    have c_r_4_w2 := x_r.cell (i := 4) rfl
    have f_r_4_w2 := x_r.frozen 4
    have c_r_5_w2 := x_r.cell (i := 5) rfl
    have f_r_5_w2 := x_r.frozen 5
    have c_r_6_w2 := x_r.cell (i := 6) rfl
    have f_r_6_w2 := x_r.frozen 6
    have c_r_7_w2 := x_r.cell (i := 7) rfl
    have f_r_7_w2 := x_r.frozen 7
    have c_r_8_w2 := x_r.cell (i := 8) rfl
    have f_r_8_w2 := x_r.frozen 8
    have c_l_0_w2 := x_l.cell (i := 0) rfl
    have f_l_0_w2 := x_l.frozen 0
    have c_l_1_w2 := x_l.cell (i := 1) rfl
    have f_l_1_w2 := x_l.frozen 1
    replace e0 := (h_w2.cell_at (p := ⟨g, off, none⟩) (by show g < _; omega) (.inl (by show g < b; omega))).trans e0
    replace e1 := (h_w2.cell_at (p := ⟨g, off + 1, none⟩) (by show g < _; omega) (.inl (by show g < b; omega))).trans e1
    replace hWS := hWS.chg h_w2 hB0 (by omega)
    go_wp2_with fail
    obtain ⟨ob1, hb1⟩ : ∃ b, (textNum y1).isSome = b := ⟨_, rfl⟩
    have HB1 := Lib.hid hb1
    clear hb1
    obtain ⟨n1, hn1⟩ : ∃ z, txN y1 = z := ⟨_, rfl⟩
    have HN1 := Lib.hid hn1
    clear hn1
    clear c_r_0_w1 f_r_0_w1 c_r_1_w1 f_r_1_w1 c_r_2_w1 f_r_2_w1 c_r_3_w1 f_r_3_w1 c_r_4_w1 f_r_4_w1 c_r_5_w1 f_r_5_w1 c_r_6_w1 f_r_6_w1 c_r_7_w1 f_r_7_w1 c_r_8_w1 f_r_8_w1 c_l_0_w1 f_l_0_w1 c_l_1_w1 f_l_1_w1 c_r_0_w2 f_r_0_w2 c_r_1_w2 f_r_1_w2 c_r_2_w2 f_r_2_w2 c_r_3_w2 f_r_3_w2 c_r_4_w2 f_r_4_w2 c_r_5_w2 f_r_5_w2 c_r_6_w2 f_r_6_w2 c_r_7_w2 f_r_7_w2 c_r_8_w2 f_r_8_w2 c_l_0_w2 f_l_0_w2 c_l_1_w2 f_l_1_w2
    have c_r_0_w2 := x_r.cell (i := 0) rfl
    have f_r_0_w2 := x_r.frozen 0
    have c_r_1_w2 := x_r.cell (i := 1) rfl
    have f_r_1_w2 := x_r.frozen 1
    have c_r_2_w2 := x_r.cell (i := 2) rfl
    have f_r_2_w2 := x_r.frozen 2
    have c_r_3_w2 := x_r.cell (i := 3) rfl
    have f_r_3_w2 := x_r.frozen 3
    have c_r_4_w2 := x_r.cell (i := 4) rfl
    have f_r_4_w2 := x_r.frozen 4
    have c_r_5_w2 := x_r.cell (i := 5) rfl
    have f_r_5_w2 := x_r.frozen 5
    have c_r_6_w2 := x_r.cell (i := 6) rfl
    have f_r_6_w2 := x_r.frozen 6
    have c_r_7_w2 := x_r.cell (i := 7) rfl
    have f_r_7_w2 := x_r.frozen 7
    have c_r_8_w2 := x_r.cell (i := 8) rfl
    have f_r_8_w2 := x_r.frozen 8
    have c_l_0_w2 := x_l.cell (i := 0) rfl
    have f_l_0_w2 := x_l.frozen 0
    have c_l_1_w2 := x_l.cell (i := 1) rfl
    have f_l_1_w2 := x_l.frozen 1
    rw [rounds_succ]
    go_wp2_with fail
    refine (iTextNum_any _ _ (ht.below B_w2) zy1).mono ?_
    rintro e w3 ⟨rfl, h_w3⟩
    clear c_r_0_w2 f_r_0_w2 c_r_1_w2 f_r_1_w2 c_r_2_w2 f_r_2_w2 c_r_3_w2 f_r_3_w2 c_r_4_w2 f_r_4_w2 c_r_5_w2 f_r_5_w2 c_r_6_w2 f_r_6_w2 c_r_7_w2 f_r_7_w2 c_r_8_w2 f_r_8_w2 c_l_0_w2 f_l_0_w2 c_l_1_w2 f_l_1_w2
    replace x_r := x_r.from_ h_w3
    replace x_l := x_l.from_ h_w3
    have B_w3 := B_w2.trans (h_w3.mono B_w2.size)
    have s_w3 := h_w3.size
    have C_w3 := C_w2.then_below h_w3
    rw [textVal_txN, HB1.out, HN1.out]
    replace e0 := (h_w3.cell (p := ⟨g, off, none⟩) (by show g < _; omega)).trans e0
    replace e1 := (h_w3.cell (p := ⟨g, off + 1, none⟩) (by show g < _; omega)).trans e1
    replace hWS := hWS.below h_w3 (by omega)
    cases ob1 with
    | false =>
      go_wp2
      go_ret2
      exact ⟨_, _, rfl, .inr ⟨rfl, okN_bad (j := 1) (by omega) (by rw [HY1.out]; exact HB1.out), rfl, _, x_r⟩, C_w3⟩
    | true =>
      have c_r_0_w3 := x_r.cell (i := 0) rfl
      have f_r_0_w3 := x_r.frozen 0
      have c_r_1_w3 := x_r.cell (i := 1) rfl
      have f_r_1_w3 := x_r.frozen 1
      have c_r_2_w3 := x_r.cell (i := 2) rfl
      have f_r_2_w3 := x_r.frozen 2
      have c_r_3_w3 := x_r.cell (i := 3) rfl
      have f_r_3_w3 := x_r.frozen 3
      have c_r_4_w3 := x_r.cell (i := 4) rfl
      have f_r_4_w3 := x_r.frozen 4
      have c_r_5_w3 := x_r.cell (i := 5) rfl
      have f_r_5_w3 := x_r.frozen 5
      have c_r_6_w3 := x_r.cell (i := 6) rfl
      have f_r_6_w3 := x_r.frozen 6
      have c_r_7_w3 := x_r.cell (i := 7) rfl
      have f_r_7_w3 := x_r.frozen 7
      have c_r_8_w3 := x_r.cell (i := 8) rfl
      have f_r_8_w3 := x_r.frozen 8
      have c_l_0_w3 := x_l.cell (i := 0) rfl
      have f_l_0_w3 := x_l.frozen 0
      have c_l_1_w3 := x_l.cell (i := 1) rfl
      have f_l_1_w3 := x_l.frozen 1
      obtain ⟨w4, e_w4, s_w4, h_w4, y⟩ := set_step x_r 3 (.int .i64 n1)
      have s_w4_1 := Nat.le_of_eq s_w4
      have s_w4_2 := Nat.le_of_eq s_w4.symm
      clear s_w4
      replace x_l := x_l.chg h_w4 (by omega)
      have B_w4 := Below.chg_ B_w3 h_w4 (by omega) (by omega)
      have C_w4 := C_w3.then_same h_w4
      replace x_r : Vr w4 (b) T [z0, .int .i64 n0, z2, .int .i64 n1, z4, z5, z6, z7, z8] := y
      clear y
      have c_r_0_w4 := x_r.cell (i := 0) rfl
      have f_r_0_w4 := x_r.frozen 0
      have c_r_1_w4 := x_r.cell (i := 1) rfl
      have f_r_1_w4 := x_r.frozen 1
      have c_r_2_w4 := x_r.cell (i := 2) rfl
      have f_r_2_w4 := x_r.frozen 2
      have c_r_3_w4 := x_r.cell (i := 3) rfl
      have f_r_3_w4 := x_r.frozen 3
      have c_r_4_w4 := x_r.cell (i := 4) rfl
      have f_r_4_w4 := x_r.frozen 4
      have c_r_5_w4 := x_r.cell (i := 5) rfl
      have f_r_5_w4 := x_r.frozen 5
      have c_r_6_w4 := x_r.cell (i := 6) rfl
      have f_r_6_w4 := x_r.frozen 6
      have c_r_7_w4 := x_r.cell (i := 7) rfl
      have f_r_7_w4 := x_r.frozen 7
      have c_r_8_w4 := x_r.cell (i := 8) rfl
      have f_r_8_w4 := x_r.frozen 8
      have c_l_0_w4 := x_l.cell (i := 0) rfl
      have f_l_0_w4 := x_l.frozen 0
      have c_l_1_w4 := x_l.cell (i := 1) rfl
      have f_l_1_w4 := x_l.frozen 1
      replace e0 := (h_w4.cell_at (p := ⟨g, off, none⟩) (by show g < _; omega) (.inl (by show g < b; omega))).trans e0
      replace e1 := (h_w4.cell_at (p := ⟨g, off + 1, none⟩) (by show g < _; omega) (.inl (by show g < b; omega))).trans e1
      replace hWS := hWS.chg h_w4 hB0 (by omega)
      go_wp2_with fail
      rw [rounds_succ]
      go_wp2
      go_ret2
      refine ⟨_, _, rfl, .inl ⟨rfl, (okN_iff ws 2).2 ⟨hn, fun j hj => ?_⟩, ?_, ?_⟩, C_w4⟩
      · have hj2 : j = 0 ∨ j = 1 := by omega
        rcases hj2 with rfl | rfl
        · rw [HY0.out]; exact HB0.out
        · rw [HY1.out]; exact HB1.out
      · rw [HY0.out, HN0.out, HY1.out, HN1.out]; exact x_r
      · rw [← HX.out]; exact hWS.drop hn

set_option maxRecDepth 100000 in
set_option maxHeartbeats 4000000 in
theorem iRead_toAmt {W0 w : World} (ht : Tab10 W0) (hW : Below W0.heap.size W0 w) {b B B0 : Nat} {T U : TypeId} {z0 z1 z2 z3 z4 z5 z6 z7 z8 v : Value} {ws : List ByteArray} (h0 : W0.heap.size ≤ b) (hB0 : B0 ≤ b) (x_r : Vr w b T [z0, z1, z2, z3, z4, z5, z6, z7, z8]) (x_l : Vr w B U [.pointer (some ⟨b, 3, none⟩), .pointer (some ⟨b, 4, none⟩)]) (hbB : b < B) (h : WS w B0 v ws) (hz : ∀ x ∈ ws, x.size ≤ 1048576) (hm : ws.length ≤ 16777216) :
    Calls Tryd.prog 27 #[v, .slice (some ⟨B, 0, none⟩) 2 2] w fun e w' => ∃ v' ok, e = .returned (.tuple #[v', .bool ok]) ∧ ((ok = true ∧ okN ws 2 = true ∧ Vr w' b T [z0, z1, z2, .int .i64 (txN (ws.getD 0 ByteArray.empty)), .int .i64 (txN (ws.getD 1 ByteArray.empty)), z5, z6, z7, z8] ∧ WS w' B0 v' (ws.drop 2)) ∨ (ok = false ∧ okN ws 2 = false ∧ v' = .slice none 0 0 ∧ ∃ cs, Vr w' b T cs)) ∧ Chg b (b + 1) w w' := by
  have C0 : Chg b (b + 1) w w := Chg.refl _ _ _
  have lb := x_r.lt
  have lB := x_l.lt
  obtain ⟨A, c, rfl, hc1, hc2, hr⟩ := h
  by_cases hn : 2 ≤ ws.length
  case neg =>
    have i1 : (ws.length : Int) < 2 := by omega
    go_enter Tryd.func27, Tryd.ntmps27
    go_wp2
    go_ret2
    exact ⟨_, _, rfl, .inr ⟨rfl, okN_short hn, rfl, _, x_r⟩, C0⟩
  have i1 : ¬ ((ws.length : Int) < 2) := by omega
  have hdr := run_wdrop A c 2 ws.length 2 rfl hn
  have hWS : WS w B0 (.slice A ws.length c) ws := ⟨A, c, rfl, hc1, hc2, hr⟩
  obtain ⟨g, off, hA, hg, hcell⟩ := hr (by omega)
  clear hr
  obtain ⟨y0, hy0⟩ : ∃ y, ws.getD 0 ByteArray.empty = y := ⟨_, rfl⟩
  have zy0 : y0.size ≤ 1073741824 := by rw [← hy0]; exact Nat.le_trans (getD_sz hz 0) (by omega)
  have e0 := hcell 0 (by omega)
  rw [hy0] at e0
  have HY0 := Lib.hid hy0
  have l0 : (0 : Int) < (ws.length : Int) := by omega
  obtain ⟨y1, hy1⟩ : ∃ y, ws.getD 1 ByteArray.empty = y := ⟨_, rfl⟩
  have zy1 : y1.size ≤ 1073741824 := by rw [← hy1]; exact Nat.le_trans (getD_sz hz 1) (by omega)
  have e1 := hcell 1 (by omega)
  rw [hy1] at e1
  have HY1 := Lib.hid hy1
  have l1 : (1 : Int) < (ws.length : Int) := by omega
  clear hcell hy0 hy1
  have hgw : g < w.heap.size := by omega
  simp only [Nat.add_zero] at e0
  generalize hdX : (if c = 2 then A else A.map (·.add (2 * 1))) = X at hdr
  have HX := Lib.hid hdX
  clear hdX
  have HAe := Lib.hid hA
  subst hA
  have c_r_0_w := x_r.cell (i := 0) rfl
  have f_r_0_w := x_r.frozen 0
  have c_r_1_w := x_r.cell (i := 1) rfl
  have f_r_1_w := x_r.frozen 1
  have c_r_2_w := x_r.cell (i := 2) rfl
  have f_r_2_w := x_r.frozen 2
  have c_r_3_w := x_r.cell (i := 3) rfl
  have f_r_3_w := x_r.frozen 3
  have c_r_4_w := x_r.cell (i := 4) rfl
  have f_r_4_w := x_r.frozen 4
  have c_r_5_w := x_r.cell (i := 5) rfl
  have f_r_5_w := x_r.frozen 5
  have c_r_6_w := x_r.cell (i := 6) rfl
  have f_r_6_w := x_r.frozen 6
  have c_r_7_w := x_r.cell (i := 7) rfl
  have f_r_7_w := x_r.frozen 7
  have c_r_8_w := x_r.cell (i := 8) rfl
  have f_r_8_w := x_r.frozen 8
  have c_l_0_w := x_l.cell (i := 0) rfl
  have f_l_0_w := x_l.frozen 0
  have c_l_1_w := x_l.cell (i := 1) rfl
  have f_l_1_w := x_l.frozen 1
  go_enter Tryd.func27, Tryd.ntmps27
  go_wp2_with fail
  refine wp_loop_rounds 3 ?_
  obtain ⟨ob0, hb0⟩ : ∃ b, (textNum y0).isSome = b := ⟨_, rfl⟩
  have HB0 := Lib.hid hb0
  clear hb0
  obtain ⟨n0, hn0⟩ : ∃ z, txN y0 = z := ⟨_, rfl⟩
  have HN0 := Lib.hid hn0
  clear hn0
  clear c_r_0_w f_r_0_w c_r_1_w f_r_1_w c_r_2_w f_r_2_w c_r_3_w f_r_3_w c_r_4_w f_r_4_w c_r_5_w f_r_5_w c_r_6_w f_r_6_w c_r_7_w f_r_7_w c_r_8_w f_r_8_w c_l_0_w f_l_0_w c_l_1_w f_l_1_w
  have c_r_0_w := x_r.cell (i := 0) rfl
  have f_r_0_w := x_r.frozen 0
  have c_r_1_w := x_r.cell (i := 1) rfl
  have f_r_1_w := x_r.frozen 1
  have c_r_2_w := x_r.cell (i := 2) rfl
  have f_r_2_w := x_r.frozen 2
  have c_r_3_w := x_r.cell (i := 3) rfl
  have f_r_3_w := x_r.frozen 3
  have c_r_4_w := x_r.cell (i := 4) rfl
  have f_r_4_w := x_r.frozen 4
  have c_r_5_w := x_r.cell (i := 5) rfl
  have f_r_5_w := x_r.frozen 5
  have c_r_6_w := x_r.cell (i := 6) rfl
  have f_r_6_w := x_r.frozen 6
  have c_r_7_w := x_r.cell (i := 7) rfl
  have f_r_7_w := x_r.frozen 7
  have c_r_8_w := x_r.cell (i := 8) rfl
  have f_r_8_w := x_r.frozen 8
  have c_l_0_w := x_l.cell (i := 0) rfl
  have f_l_0_w := x_l.frozen 0
  have c_l_1_w := x_l.cell (i := 1) rfl
  have f_l_1_w := x_l.frozen 1
  rw [rounds_succ]
  go_wp2_with fail
  refine (iTextNum_any _ _ (ht.below hW) zy0).mono ?_
  rintro e w1 ⟨rfl, h_w1⟩
  clear c_r_0_w f_r_0_w c_r_1_w f_r_1_w c_r_2_w f_r_2_w c_r_3_w f_r_3_w c_r_4_w f_r_4_w c_r_5_w f_r_5_w c_r_6_w f_r_6_w c_r_7_w f_r_7_w c_r_8_w f_r_8_w c_l_0_w f_l_0_w c_l_1_w f_l_1_w
  replace x_r := x_r.from_ h_w1
  replace x_l := x_l.from_ h_w1
  have B_w1 := hW.trans (h_w1.mono hW.size)
  have s_w1 := h_w1.size
  have C_w1 := C0.then_below h_w1
  rw [textVal_txN, HB0.out, HN0.out]
  replace e0 := (h_w1.cell (p := ⟨g, off, none⟩) (by show g < _; omega)).trans e0
  replace e1 := (h_w1.cell (p := ⟨g, off + 1, none⟩) (by show g < _; omega)).trans e1
  replace hWS := hWS.below h_w1 (by omega)
  cases ob0 with
  | false =>
    go_wp2
    go_ret2
    exact ⟨_, _, rfl, .inr ⟨rfl, okN_bad (j := 0) (by omega) (by rw [HY0.out]; exact HB0.out), rfl, _, x_r⟩, C_w1⟩
  | true =>
    have c_r_0_w1 := x_r.cell (i := 0) rfl
    have f_r_0_w1 := x_r.frozen 0
    have c_r_1_w1 := x_r.cell (i := 1) rfl
    have f_r_1_w1 := x_r.frozen 1
    have c_r_2_w1 := x_r.cell (i := 2) rfl
    have f_r_2_w1 := x_r.frozen 2
    have c_r_3_w1 := x_r.cell (i := 3) rfl
    have f_r_3_w1 := x_r.frozen 3
    have c_r_4_w1 := x_r.cell (i := 4) rfl
    have f_r_4_w1 := x_r.frozen 4
    have c_r_5_w1 := x_r.cell (i := 5) rfl
    have f_r_5_w1 := x_r.frozen 5
    have c_r_6_w1 := x_r.cell (i := 6) rfl
    have f_r_6_w1 := x_r.frozen 6
    have c_r_7_w1 := x_r.cell (i := 7) rfl
    have f_r_7_w1 := x_r.frozen 7
    have c_r_8_w1 := x_r.cell (i := 8) rfl
    have f_r_8_w1 := x_r.frozen 8
    have c_l_0_w1 := x_l.cell (i := 0) rfl
    have f_l_0_w1 := x_l.frozen 0
    have c_l_1_w1 := x_l.cell (i := 1) rfl
    have f_l_1_w1 := x_l.frozen 1
    obtain ⟨w2, e_w2, s_w2, h_w2, y⟩ := set_step x_r 3 (.int .i64 n0)
    have s_w2_1 := Nat.le_of_eq s_w2
    have s_w2_2 := Nat.le_of_eq s_w2.symm
    clear s_w2
    replace x_l := x_l.chg h_w2 (by omega)
    have B_w2 := Below.chg_ B_w1 h_w2 (by omega) (by omega)
    have C_w2 := C_w1.then_same h_w2
    replace x_r : Vr w2 (b) T [z0, z1, z2, .int .i64 n0, z4, z5, z6, z7, z8] := y
    clear y
    have c_r_0_w2 := x_r.cell (i := 0) rfl
    have f_r_0_w2 := x_r.frozen 0
    have c_r_1_w2 := x_r.cell (i := 1) rfl
    have f_r_1_w2 := x_r.frozen 1
    have c_r_2_w2 := x_r.cell (i := 2) rfl
    have f_r_2_w2 := x_r.frozen 2
    have c_r_3_w2 := x_r.cell (i := 3) rfl
    have f_r_3_w2 := x_r.frozen 3
    have c_r_4_w2 := x_r.cell (i := 4) rfl
    have f_r_4_w2 := x_r.frozen 4
    have c_r_5_w2 := x_r.cell (i := 5) rfl
    have f_r_5_w2 := x_r.frozen 5
    have c_r_6_w2 := x_r.cell (i := 6) rfl
    have f_r_6_w2 := x_r.frozen 6
    have c_r_7_w2 := x_r.cell (i := 7) rfl
    have f_r_7_w2 := x_r.frozen 7
    have c_r_8_w2 := x_r.cell (i := 8) rfl
    have f_r_8_w2 := x_r.frozen 8
    have c_l_0_w2 := x_l.cell (i := 0) rfl
    have f_l_0_w2 := x_l.frozen 0
    have c_l_1_w2 := x_l.cell (i := 1) rfl
    have f_l_1_w2 := x_l.frozen 1
    replace e0 := (h_w2.cell_at (p := ⟨g, off, none⟩) (by show g < _; omega) (.inl (by show g < b; omega))).trans e0
    replace e1 := (h_w2.cell_at (p := ⟨g, off + 1, none⟩) (by show g < _; omega) (.inl (by show g < b; omega))).trans e1
    replace hWS := hWS.chg h_w2 hB0 (by omega)
    go_wp2_with fail
    obtain ⟨ob1, hb1⟩ : ∃ b, (textNum y1).isSome = b := ⟨_, rfl⟩
    have HB1 := Lib.hid hb1
    clear hb1
    obtain ⟨n1, hn1⟩ : ∃ z, txN y1 = z := ⟨_, rfl⟩
    have HN1 := Lib.hid hn1
    clear hn1
    clear c_r_0_w1 f_r_0_w1 c_r_1_w1 f_r_1_w1 c_r_2_w1 f_r_2_w1 c_r_3_w1 f_r_3_w1 c_r_4_w1 f_r_4_w1 c_r_5_w1 f_r_5_w1 c_r_6_w1 f_r_6_w1 c_r_7_w1 f_r_7_w1 c_r_8_w1 f_r_8_w1 c_l_0_w1 f_l_0_w1 c_l_1_w1 f_l_1_w1 c_r_0_w2 f_r_0_w2 c_r_1_w2 f_r_1_w2 c_r_2_w2 f_r_2_w2 c_r_3_w2 f_r_3_w2 c_r_4_w2 f_r_4_w2 c_r_5_w2 f_r_5_w2 c_r_6_w2 f_r_6_w2 c_r_7_w2 f_r_7_w2 c_r_8_w2 f_r_8_w2 c_l_0_w2 f_l_0_w2 c_l_1_w2 f_l_1_w2
    have c_r_0_w2 := x_r.cell (i := 0) rfl
    have f_r_0_w2 := x_r.frozen 0
    have c_r_1_w2 := x_r.cell (i := 1) rfl
    have f_r_1_w2 := x_r.frozen 1
    have c_r_2_w2 := x_r.cell (i := 2) rfl
    have f_r_2_w2 := x_r.frozen 2
    have c_r_3_w2 := x_r.cell (i := 3) rfl
    have f_r_3_w2 := x_r.frozen 3
    have c_r_4_w2 := x_r.cell (i := 4) rfl
    have f_r_4_w2 := x_r.frozen 4
    have c_r_5_w2 := x_r.cell (i := 5) rfl
    have f_r_5_w2 := x_r.frozen 5
    have c_r_6_w2 := x_r.cell (i := 6) rfl
    have f_r_6_w2 := x_r.frozen 6
    have c_r_7_w2 := x_r.cell (i := 7) rfl
    have f_r_7_w2 := x_r.frozen 7
    have c_r_8_w2 := x_r.cell (i := 8) rfl
    have f_r_8_w2 := x_r.frozen 8
    have c_l_0_w2 := x_l.cell (i := 0) rfl
    have f_l_0_w2 := x_l.frozen 0
    have c_l_1_w2 := x_l.cell (i := 1) rfl
    have f_l_1_w2 := x_l.frozen 1
    rw [rounds_succ]
    go_wp2_with fail
    refine (iTextNum_any _ _ (ht.below B_w2) zy1).mono ?_
    rintro e w3 ⟨rfl, h_w3⟩
    clear c_r_0_w2 f_r_0_w2 c_r_1_w2 f_r_1_w2 c_r_2_w2 f_r_2_w2 c_r_3_w2 f_r_3_w2 c_r_4_w2 f_r_4_w2 c_r_5_w2 f_r_5_w2 c_r_6_w2 f_r_6_w2 c_r_7_w2 f_r_7_w2 c_r_8_w2 f_r_8_w2 c_l_0_w2 f_l_0_w2 c_l_1_w2 f_l_1_w2
    replace x_r := x_r.from_ h_w3
    replace x_l := x_l.from_ h_w3
    have B_w3 := B_w2.trans (h_w3.mono B_w2.size)
    have s_w3 := h_w3.size
    have C_w3 := C_w2.then_below h_w3
    rw [textVal_txN, HB1.out, HN1.out]
    replace e0 := (h_w3.cell (p := ⟨g, off, none⟩) (by show g < _; omega)).trans e0
    replace e1 := (h_w3.cell (p := ⟨g, off + 1, none⟩) (by show g < _; omega)).trans e1
    replace hWS := hWS.below h_w3 (by omega)
    cases ob1 with
    | false =>
      go_wp2
      go_ret2
      exact ⟨_, _, rfl, .inr ⟨rfl, okN_bad (j := 1) (by omega) (by rw [HY1.out]; exact HB1.out), rfl, _, x_r⟩, C_w3⟩
    | true =>
      have c_r_0_w3 := x_r.cell (i := 0) rfl
      have f_r_0_w3 := x_r.frozen 0
      have c_r_1_w3 := x_r.cell (i := 1) rfl
      have f_r_1_w3 := x_r.frozen 1
      have c_r_2_w3 := x_r.cell (i := 2) rfl
      have f_r_2_w3 := x_r.frozen 2
      have c_r_3_w3 := x_r.cell (i := 3) rfl
      have f_r_3_w3 := x_r.frozen 3
      have c_r_4_w3 := x_r.cell (i := 4) rfl
      have f_r_4_w3 := x_r.frozen 4
      have c_r_5_w3 := x_r.cell (i := 5) rfl
      have f_r_5_w3 := x_r.frozen 5
      have c_r_6_w3 := x_r.cell (i := 6) rfl
      have f_r_6_w3 := x_r.frozen 6
      have c_r_7_w3 := x_r.cell (i := 7) rfl
      have f_r_7_w3 := x_r.frozen 7
      have c_r_8_w3 := x_r.cell (i := 8) rfl
      have f_r_8_w3 := x_r.frozen 8
      have c_l_0_w3 := x_l.cell (i := 0) rfl
      have f_l_0_w3 := x_l.frozen 0
      have c_l_1_w3 := x_l.cell (i := 1) rfl
      have f_l_1_w3 := x_l.frozen 1
      obtain ⟨w4, e_w4, s_w4, h_w4, y⟩ := set_step x_r 4 (.int .i64 n1)
      have s_w4_1 := Nat.le_of_eq s_w4
      have s_w4_2 := Nat.le_of_eq s_w4.symm
      clear s_w4
      replace x_l := x_l.chg h_w4 (by omega)
      have B_w4 := Below.chg_ B_w3 h_w4 (by omega) (by omega)
      have C_w4 := C_w3.then_same h_w4
      replace x_r : Vr w4 (b) T [z0, z1, z2, .int .i64 n0, .int .i64 n1, z5, z6, z7, z8] := y
      clear y
      have c_r_0_w4 := x_r.cell (i := 0) rfl
      have f_r_0_w4 := x_r.frozen 0
      have c_r_1_w4 := x_r.cell (i := 1) rfl
      have f_r_1_w4 := x_r.frozen 1
      have c_r_2_w4 := x_r.cell (i := 2) rfl
      have f_r_2_w4 := x_r.frozen 2
      have c_r_3_w4 := x_r.cell (i := 3) rfl
      have f_r_3_w4 := x_r.frozen 3
      have c_r_4_w4 := x_r.cell (i := 4) rfl
      have f_r_4_w4 := x_r.frozen 4
      have c_r_5_w4 := x_r.cell (i := 5) rfl
      have f_r_5_w4 := x_r.frozen 5
      have c_r_6_w4 := x_r.cell (i := 6) rfl
      have f_r_6_w4 := x_r.frozen 6
      have c_r_7_w4 := x_r.cell (i := 7) rfl
      have f_r_7_w4 := x_r.frozen 7
      have c_r_8_w4 := x_r.cell (i := 8) rfl
      have f_r_8_w4 := x_r.frozen 8
      have c_l_0_w4 := x_l.cell (i := 0) rfl
      have f_l_0_w4 := x_l.frozen 0
      have c_l_1_w4 := x_l.cell (i := 1) rfl
      have f_l_1_w4 := x_l.frozen 1
      replace e0 := (h_w4.cell_at (p := ⟨g, off, none⟩) (by show g < _; omega) (.inl (by show g < b; omega))).trans e0
      replace e1 := (h_w4.cell_at (p := ⟨g, off + 1, none⟩) (by show g < _; omega) (.inl (by show g < b; omega))).trans e1
      replace hWS := hWS.chg h_w4 hB0 (by omega)
      go_wp2_with fail
      rw [rounds_succ]
      go_wp2
      go_ret2
      refine ⟨_, _, rfl, .inl ⟨rfl, (okN_iff ws 2).2 ⟨hn, fun j hj => ?_⟩, ?_, ?_⟩, C_w4⟩
      · have hj2 : j = 0 ∨ j = 1 := by omega
        rcases hj2 with rfl | rfl
        · rw [HY0.out]; exact HB0.out
        · rw [HY1.out]; exact HB1.out
      · rw [HY0.out, HN0.out, HY1.out, HN1.out]; exact x_r
      · rw [← HX.out]; exact hWS.drop hn

set_option maxRecDepth 100000 in
set_option maxHeartbeats 4000000 in
theorem iRead_acctToAmt {W0 w : World} (ht : Tab10 W0) (hW : Below W0.heap.size W0 w) {b B B0 : Nat} {T U : TypeId} {z0 z1 z2 z3 z4 z5 z6 z7 z8 v : Value} {ws : List ByteArray} (h0 : W0.heap.size ≤ b) (hB0 : B0 ≤ b) (x_r : Vr w b T [z0, z1, z2, z3, z4, z5, z6, z7, z8]) (x_l : Vr w B U [.pointer (some ⟨b, 1, none⟩), .pointer (some ⟨b, 3, none⟩), .pointer (some ⟨b, 4, none⟩)]) (hbB : b < B) (h : WS w B0 v ws) (hz : ∀ x ∈ ws, x.size ≤ 1048576) (hm : ws.length ≤ 16777216) :
    Calls Tryd.prog 27 #[v, .slice (some ⟨B, 0, none⟩) 3 3] w fun e w' => ∃ v' ok, e = .returned (.tuple #[v', .bool ok]) ∧ ((ok = true ∧ okN ws 3 = true ∧ Vr w' b T [z0, .int .i64 (txN (ws.getD 0 ByteArray.empty)), z2, .int .i64 (txN (ws.getD 1 ByteArray.empty)), .int .i64 (txN (ws.getD 2 ByteArray.empty)), z5, z6, z7, z8] ∧ WS w' B0 v' (ws.drop 3)) ∨ (ok = false ∧ okN ws 3 = false ∧ v' = .slice none 0 0 ∧ ∃ cs, Vr w' b T cs)) ∧ Chg b (b + 1) w w' := by
  have C0 : Chg b (b + 1) w w := Chg.refl _ _ _
  have lb := x_r.lt
  have lB := x_l.lt
  obtain ⟨A, c, rfl, hc1, hc2, hr⟩ := h
  by_cases hn : 3 ≤ ws.length
  case neg =>
    have i1 : (ws.length : Int) < 3 := by omega
    go_enter Tryd.func27, Tryd.ntmps27
    go_wp2
    go_ret2
    exact ⟨_, _, rfl, .inr ⟨rfl, okN_short hn, rfl, _, x_r⟩, C0⟩
  have i1 : ¬ ((ws.length : Int) < 3) := by omega
  have hdr := run_wdrop A c 3 ws.length 3 rfl hn
  have hWS : WS w B0 (.slice A ws.length c) ws := ⟨A, c, rfl, hc1, hc2, hr⟩
  obtain ⟨g, off, hA, hg, hcell⟩ := hr (by omega)
  clear hr
  obtain ⟨y0, hy0⟩ : ∃ y, ws.getD 0 ByteArray.empty = y := ⟨_, rfl⟩
  have zy0 : y0.size ≤ 1073741824 := by rw [← hy0]; exact Nat.le_trans (getD_sz hz 0) (by omega)
  have e0 := hcell 0 (by omega)
  rw [hy0] at e0
  have HY0 := Lib.hid hy0
  have l0 : (0 : Int) < (ws.length : Int) := by omega
  obtain ⟨y1, hy1⟩ : ∃ y, ws.getD 1 ByteArray.empty = y := ⟨_, rfl⟩
  have zy1 : y1.size ≤ 1073741824 := by rw [← hy1]; exact Nat.le_trans (getD_sz hz 1) (by omega)
  have e1 := hcell 1 (by omega)
  rw [hy1] at e1
  have HY1 := Lib.hid hy1
  have l1 : (1 : Int) < (ws.length : Int) := by omega
  obtain ⟨y2, hy2⟩ : ∃ y, ws.getD 2 ByteArray.empty = y := ⟨_, rfl⟩
  have zy2 : y2.size ≤ 1073741824 := by rw [← hy2]; exact Nat.le_trans (getD_sz hz 2) (by omega)
  have e2 := hcell 2 (by omega)
  rw [hy2] at e2
  have HY2 := Lib.hid hy2
  have l2 : (2 : Int) < (ws.length : Int) := by omega
  clear hcell hy0 hy1 hy2
  have hgw : g < w.heap.size := by omega
  simp only [Nat.add_zero] at e0
  generalize hdX : (if c = 3 then A else A.map (·.add (3 * 1))) = X at hdr
  have HX := Lib.hid hdX
  clear hdX
  have HAe := Lib.hid hA
  subst hA
  have c_r_0_w := x_r.cell (i := 0) rfl
  have f_r_0_w := x_r.frozen 0
  have c_r_1_w := x_r.cell (i := 1) rfl
  have f_r_1_w := x_r.frozen 1
  have c_r_2_w := x_r.cell (i := 2) rfl
  have f_r_2_w := x_r.frozen 2
  have c_r_3_w := x_r.cell (i := 3) rfl
  have f_r_3_w := x_r.frozen 3
  have c_r_4_w := x_r.cell (i := 4) rfl
  have f_r_4_w := x_r.frozen 4
  have c_r_5_w := x_r.cell (i := 5) rfl
  have f_r_5_w := x_r.frozen 5
  have c_r_6_w := x_r.cell (i := 6) rfl
  have f_r_6_w := x_r.frozen 6
  have c_r_7_w := x_r.cell (i := 7) rfl
  have f_r_7_w := x_r.frozen 7
  have c_r_8_w := x_r.cell (i := 8) rfl
  have f_r_8_w := x_r.frozen 8
  have c_l_0_w := x_l.cell (i := 0) rfl
  have f_l_0_w := x_l.frozen 0
  have c_l_1_w := x_l.cell (i := 1) rfl
  have f_l_1_w := x_l.frozen 1
  have c_l_2_w := x_l.cell (i := 2) rfl
  have f_l_2_w := x_l.frozen 2
  go_enter Tryd.func27, Tryd.ntmps27
  go_wp2_with fail
  refine wp_loop_rounds 4 ?_
  obtain ⟨ob0, hb0⟩ : ∃ b, (textNum y0).isSome = b := ⟨_, rfl⟩
  have HB0 := Lib.hid hb0
  clear hb0
  obtain ⟨n0, hn0⟩ : ∃ z, txN y0 = z := ⟨_, rfl⟩
  have HN0 := Lib.hid hn0
  clear hn0
  clear c_r_0_w f_r_0_w c_r_1_w f_r_1_w c_r_2_w f_r_2_w c_r_3_w f_r_3_w c_r_4_w f_r_4_w c_r_5_w f_r_5_w c_r_6_w f_r_6_w c_r_7_w f_r_7_w c_r_8_w f_r_8_w c_l_0_w f_l_0_w c_l_1_w f_l_1_w c_l_2_w f_l_2_w
  have c_r_0_w := x_r.cell (i := 0) rfl
  have f_r_0_w := x_r.frozen 0
  have c_r_1_w := x_r.cell (i := 1) rfl
  have f_r_1_w := x_r.frozen 1
  have c_r_2_w := x_r.cell (i := 2) rfl
  have f_r_2_w := x_r.frozen 2
  have c_r_3_w := x_r.cell (i := 3) rfl
  have f_r_3_w := x_r.frozen 3
  have c_r_4_w := x_r.cell (i := 4) rfl
  have f_r_4_w := x_r.frozen 4
  have c_r_5_w := x_r.cell (i := 5) rfl
  have f_r_5_w := x_r.frozen 5
  have c_r_6_w := x_r.cell (i := 6) rfl
  have f_r_6_w := x_r.frozen 6
  have c_r_7_w := x_r.cell (i := 7) rfl
  have f_r_7_w := x_r.frozen 7
  have c_r_8_w := x_r.cell (i := 8) rfl
  have f_r_8_w := x_r.frozen 8
  have c_l_0_w := x_l.cell (i := 0) rfl
  have f_l_0_w := x_l.frozen 0
  have c_l_1_w := x_l.cell (i := 1) rfl
  have f_l_1_w := x_l.frozen 1
  have c_l_2_w := x_l.cell (i := 2) rfl
  have f_l_2_w := x_l.frozen 2
  rw [rounds_succ]
  go_wp2_with fail
  refine (iTextNum_any _ _ (ht.below hW) zy0).mono ?_
  rintro e w1 ⟨rfl, h_w1⟩
  clear c_r_0_w f_r_0_w c_r_1_w f_r_1_w c_r_2_w f_r_2_w c_r_3_w f_r_3_w c_r_4_w f_r_4_w c_r_5_w f_r_5_w c_r_6_w f_r_6_w c_r_7_w f_r_7_w c_r_8_w f_r_8_w c_l_0_w f_l_0_w c_l_1_w f_l_1_w c_l_2_w f_l_2_w
  replace x_r := x_r.from_ h_w1
  replace x_l := x_l.from_ h_w1
  have B_w1 := hW.trans (h_w1.mono hW.size)
  have s_w1 := h_w1.size
  have C_w1 := C0.then_below h_w1
  rw [textVal_txN, HB0.out, HN0.out]
  replace e0 := (h_w1.cell (p := ⟨g, off, none⟩) (by show g < _; omega)).trans e0
  replace e1 := (h_w1.cell (p := ⟨g, off + 1, none⟩) (by show g < _; omega)).trans e1
  replace e2 := (h_w1.cell (p := ⟨g, off + 2, none⟩) (by show g < _; omega)).trans e2
  replace hWS := hWS.below h_w1 (by omega)
  cases ob0 with
  | false =>
    go_wp2
    go_ret2
    exact ⟨_, _, rfl, .inr ⟨rfl, okN_bad (j := 0) (by omega) (by rw [HY0.out]; exact HB0.out), rfl, _, x_r⟩, C_w1⟩
  | true =>
    have c_r_0_w1 := x_r.cell (i := 0) rfl
    have f_r_0_w1 := x_r.frozen 0
    have c_r_1_w1 := x_r.cell (i := 1) rfl
    have f_r_1_w1 := x_r.frozen 1
    have c_r_2_w1 := x_r.cell (i := 2) rfl
    have f_r_2_w1 := x_r.frozen 2
    have c_r_3_w1 := x_r.cell (i := 3) rfl
    have f_r_3_w1 := x_r.frozen 3
    have c_r_4_w1 := x_r.cell (i := 4) rfl
    have f_r_4_w1 := x_r.frozen 4
    have c_r_5_w1 := x_r.cell (i := 5) rfl
    have f_r_5_w1 := x_r.frozen 5
    have c_r_6_w1 := x_r.cell (i := 6) rfl
    have f_r_6_w1 := x_r.frozen 6
    have c_r_7_w1 := x_r.cell (i := 7) rfl
    have f_r_7_w1 := x_r.frozen 7
    have c_r_8_w1 := x_r.cell (i := 8) rfl
    have f_r_8_w1 := x_r.frozen 8
    have c_l_0_w1 := x_l.cell (i := 0) rfl
    have f_l_0_w1 := x_l.frozen 0
    have c_l_1_w1 := x_l.cell (i := 1) rfl
    have f_l_1_w1 := x_l.frozen 1
    have c_l_2_w1 := x_l.cell (i := 2) rfl
    have f_l_2_w1 := x_l.frozen 2
    obtain ⟨w2, e_w2, s_w2, h_w2, y⟩ := set_step x_r 1 (.int .i64 n0)
    have s_w2_1 := Nat.le_of_eq s_w2
    have s_w2_2 := Nat.le_of_eq s_w2.symm
    clear s_w2
    replace x_l := x_l.chg h_w2 (by omega)
    have B_w2 := Below.chg_ B_w1 h_w2 (by omega) (by omega)
    have C_w2 := C_w1.then_same h_w2
    replace x_r : Vr w2 (b) T [z0, .int .i64 n0, z2, z3, z4, z5, z6, z7, z8] := y
    clear y
    have c_r_0_w2 := x_r.cell (i := 0) rfl
    have f_r_0_w2 := x_r.frozen 0
    have c_r_1_w2 := x_r.cell (i := 1) rfl
    have f_r_1_w2 := x_r.frozen 1
    have c_r_2_w2 := x_r.cell (i := 2) rfl
    have f_r_2_w2 := x_r.frozen 2
    have c_r_3_w2 := x_r.cell (i := 3) rfl
    have f_r_3_w2 := x_r.frozen 3
    have c_r_4_w2 := x_r.cell (i := 4) rfl
    have f_r_4_w2 := x_r.frozen 4
    have c_r_5_w2 := x_r.cell (i := 5) rfl
    have f_r_5_w2 := x_r.frozen 5
    have c_r_6_w2 := x_r.cell (i := 6) rfl
    have f_r_6_w2 := x_r.frozen 6
    have c_r_7_w2 := x_r.cell (i := 7) rfl
    have f_r_7_w2 := x_r.frozen 7
    have c_r_8_w2 := x_r.cell (i := 8) rfl
    have f_r_8_w2 := x_r.frozen 8
    have c_l_0_w2 := x_l.cell (i := 0) rfl
    have f_l_0_w2 := x_l.frozen 0
    have c_l_1_w2 := x_l.cell (i := 1) rfl
    have f_l_1_w2 := x_l.frozen 1
    have c_l_2_w2 := x_l.cell (i := 2) rfl
    have f_l_2_w2 := x_l.frozen 2
    replace e0 := (h_w2.cell_at (p := ⟨g, off, none⟩) (by show g < _; omega) (.inl (by show g < b; omega))).trans e0
    replace e1 := (h_w2.cell_at (p := ⟨g, off + 1, none⟩) (by show g < _; omega) (.inl (by show g < b; omega))).trans e1
    replace e2 := (h_w2.cell_at (p := ⟨g, off + 2, none⟩) (by show g < _; omega) (.inl (by show g < b; omega))).trans e2
    replace hWS := hWS.chg h_w2 hB0 (by omega)
    go_wp2_with fail
    obtain ⟨ob1, hb1⟩ : ∃ b, (textNum y1).isSome = b := ⟨_, rfl⟩
    have HB1 := Lib.hid hb1
    clear hb1
    obtain ⟨n1, hn1⟩ : ∃ z, txN y1 = z := ⟨_, rfl⟩
    have HN1 := Lib.hid hn1
    clear hn1
    clear c_r_0_w1 f_r_0_w1 c_r_1_w1 f_r_1_w1 c_r_2_w1 f_r_2_w1 c_r_3_w1 f_r_3_w1 c_r_4_w1 f_r_4_w1 c_r_5_w1 f_r_5_w1 c_r_6_w1 f_r_6_w1 c_r_7_w1 f_r_7_w1 c_r_8_w1 f_r_8_w1 c_l_0_w1 f_l_0_w1 c_l_1_w1 f_l_1_w1 c_l_2_w1 f_l_2_w1 c_r_0_w2 f_r_0_w2 c_r_1_w2 f_r_1_w2 c_r_2_w2 f_r_2_w2 c_r_3_w2 f_r_3_w2 c_r_4_w2 f_r_4_w2 c_r_5_w2 f_r_5_w2 c_r_6_w2 f_r_6_w2 c_r_7_w2 f_r_7_w2 c_r_8_w2 f_r_8_w2 c_l_0_w2 f_l_0_w2 c_l_1_w2 f_l_1_w2 c_l_2_w2 f_l_2_w2
    have c_r_0_w2 := x_r.cell (i := 0) rfl
    have f_r_0_w2 := x_r.frozen 0
    have c_r_1_w2 := x_r.cell (i := 1) rfl
    have f_r_1_w2 := x_r.frozen 1
    have c_r_2_w2 := x_r.cell (i := 2) rfl
    have f_r_2_w2 := x_r.frozen 2
    have c_r_3_w2 := x_r.cell (i := 3) rfl
    have f_r_3_w2 := x_r.frozen 3
    have c_r_4_w2 := x_r.cell (i := 4) rfl
    have f_r_4_w2 := x_r.frozen 4
    have c_r_5_w2 := x_r.cell (i := 5) rfl
    have f_r_5_w2 := x_r.frozen 5
    have c_r_6_w2 := x_r.cell (i := 6) rfl
    have f_r_6_w2 := x_r.frozen 6
    have c_r_7_w2 := x_r.cell (i := 7) rfl
    have f_r_7_w2 := x_r.frozen 7
    have c_r_8_w2 := x_r.cell (i := 8) rfl
    have f_r_8_w2 := x_r.frozen 8
    have c_l_0_w2 := x_l.cell (i := 0) rfl
    have f_l_0_w2 := x_l.frozen 0
    have c_l_1_w2 := x_l.cell (i := 1) rfl
    have f_l_1_w2 := x_l.frozen 1
    have c_l_2_w2 := x_l.cell (i := 2) rfl
    have f_l_2_w2 := x_l.frozen 2
    rw [rounds_succ]
    go_wp2_with fail
    refine (iTextNum_any _ _ (ht.below B_w2) zy1).mono ?_
    rintro e w3 ⟨rfl, h_w3⟩
    clear c_r_0_w2 f_r_0_w2 c_r_1_w2 f_r_1_w2 c_r_2_w2 f_r_2_w2 c_r_3_w2 f_r_3_w2 c_r_4_w2 f_r_4_w2 c_r_5_w2 f_r_5_w2 c_r_6_w2 f_r_6_w2 c_r_7_w2 f_r_7_w2 c_r_8_w2 f_r_8_w2 c_l_0_w2 f_l_0_w2 c_l_1_w2 f_l_1_w2 c_l_2_w2 f_l_2_w2
    replace x_r := x_r.from_ h_w3
    replace x_l := x_l.from_ h_w3
    have B_w3 := B_w2.trans (h_w3.mono B_w2.size)
    have s_w3 := h_w3.size
    have C_w3 := C_w2.then_below h_w3
    rw [textVal_txN, HB1.out, HN1.out]
    replace e0 := (h_w3.cell (p := ⟨g, off, none⟩) (by show g < _; omega)).trans e0
    replace e1 := (h_w3.cell (p := ⟨g, off + 1, none⟩) (by show g < _; omega)).trans e1
    replace e2 := (h_w3.cell (p := ⟨g, off + 2, none⟩) (by show g < _; omega)).trans e2
    replace hWS := hWS.below h_w3 (by omega)
    cases ob1 with
    | false =>
      go_wp2
      go_ret2
      exact ⟨_, _, rfl, .inr ⟨rfl, okN_bad (j := 1) (by omega) (by rw [HY1.out]; exact HB1.out), rfl, _, x_r⟩, C_w3⟩
    | true =>
      have c_r_0_w3 := x_r.cell (i := 0) rfl
      have f_r_0_w3 := x_r.frozen 0
      have c_r_1_w3 := x_r.cell (i := 1) rfl
      have f_r_1_w3 := x_r.frozen 1
      have c_r_2_w3 := x_r.cell (i := 2) rfl
      have f_r_2_w3 := x_r.frozen 2
      have c_r_3_w3 := x_r.cell (i := 3) rfl
      have f_r_3_w3 := x_r.frozen 3
      have c_r_4_w3 := x_r.cell (i := 4) rfl
      have f_r_4_w3 := x_r.frozen 4
      have c_r_5_w3 := x_r.cell (i := 5) rfl
      have f_r_5_w3 := x_r.frozen 5
      have c_r_6_w3 := x_r.cell (i := 6) rfl
      have f_r_6_w3 := x_r.frozen 6
      have c_r_7_w3 := x_r.cell (i := 7) rfl
      have f_r_7_w3 := x_r.frozen 7
      have c_r_8_w3 := x_r.cell (i := 8) rfl
      have f_r_8_w3 := x_r.frozen 8
      have c_l_0_w3 := x_l.cell (i := 0) rfl
      have f_l_0_w3 := x_l.frozen 0
      have c_l_1_w3 := x_l.cell (i := 1) rfl
      have f_l_1_w3 := x_l.frozen 1
      have c_l_2_w3 := x_l.cell (i := 2) rfl
      have f_l_2_w3 := x_l.frozen 2
      obtain ⟨w4, e_w4, s_w4, h_w4, y⟩ := set_step x_r 3 (.int .i64 n1)
      have s_w4_1 := Nat.le_of_eq s_w4
      have s_w4_2 := Nat.le_of_eq s_w4.symm
      clear s_w4
      replace x_l := x_l.chg h_w4 (by omega)
      have B_w4 := Below.chg_ B_w3 h_w4 (by omega) (by omega)
      have C_w4 := C_w3.then_same h_w4
      replace x_r : Vr w4 (b) T [z0, .int .i64 n0, z2, .int .i64 n1, z4, z5, z6, z7, z8] := y
      clear y
      have c_r_0_w4 := x_r.cell (i := 0) rfl
      have f_r_0_w4 := x_r.frozen 0
      have c_r_1_w4 := x_r.cell (i := 1) rfl
      have f_r_1_w4 := x_r.frozen 1
      have c_r_2_w4 := x_r.cell (i := 2) rfl
      have f_r_2_w4 := x_r.frozen 2
      have c_r_3_w4 := x_r.cell (i := 3) rfl
      have f_r_3_w4 := x_r.frozen 3
      have c_r_4_w4 := x_r.cell (i := 4) rfl
      have f_r_4_w4 := x_r.frozen 4
      have c_r_5_w4 := x_r.cell (i := 5) rfl
      have f_r_5_w4 := x_r.frozen 5
      have c_r_6_w4 := x_r.cell (i := 6) rfl
      have f_r_6_w4 := x_r.frozen 6
      have c_r_7_w4 := x_r.cell (i := 7) rfl
      have f_r_7_w4 := x_r.frozen 7
      have c_r_8_w4 := x_r.cell (i := 8) rfl
      have f_r_8_w4 := x_r.frozen 8
      have c_l_0_w4 := x_l.cell (i := 0) rfl
      have f_l_0_w4 := x_l.frozen 0
      have c_l_1_w4 := x_l.cell (i := 1) rfl
      have f_l_1_w4 := x_l.frozen 1
      have c_l_2_w4 := x_l.cell (i := 2) rfl
      have f_l_2_w4 := x_l.frozen 2
      replace e0 := (h_w4.cell_at (p := ⟨g, off, none⟩) (by show g < _; omega) (.inl (by show g < b; omega))).trans e0
      replace e1 := (h_w4.cell_at (p := ⟨g, off + 1, none⟩) (by show g < _; omega) (.inl (by show g < b; omega))).trans e1
      replace e2 := (h_w4.cell_at (p := ⟨g, off + 2, none⟩) (by show g < _; omega) (.inl (by show g < b; omega))).trans e2
      replace hWS := hWS.chg h_w4 hB0 (by omega)
      go_wp2_with fail
      obtain ⟨ob2, hb2⟩ : ∃ b, (textNum y2).isSome = b := ⟨_, rfl⟩
      have HB2 := Lib.hid hb2
      clear hb2
      obtain ⟨n2, hn2⟩ : ∃ z, txN y2 = z := ⟨_, rfl⟩
      have HN2 := Lib.hid hn2
      clear hn2
      clear c_r_0_w3 f_r_0_w3 c_r_1_w3 f_r_1_w3 c_r_2_w3 f_r_2_w3 c_r_3_w3 f_r_3_w3 c_r_4_w3 f_r_4_w3 c_r_5_w3 f_r_5_w3 c_r_6_w3 f_r_6_w3 c_r_7_w3 f_r_7_w3 c_r_8_w3 f_r_8_w3 c_l_0_w3 f_l_0_w3 c_l_1_w3 f_l_1_w3 c_l_2_w3 f_l_2_w3 c_r_0_w4 f_r_0_w4 c_r_1_w4 f_r_1_w4 c_r_2_w4 f_r_2_w4 c_r_3_w4 f_r_3_w4 c_r_4_w4 f_r_4_w4 c_r_5_w4 f_r_5_w4 c_r_6_w4 f_r_6_w4 c_r_7_w4 f_r_7_w4 c_r_8_w4 f_r_8_w4 c_l_0_w4 f_l_0_w4 c_l_1_w4 f_l_1_w4 c_l_2_w4 f_l_2_w4
      have c_r_0_w4 := x_r.cell (i := 0) rfl
      have f_r_0_w4 := x_r.frozen 0
      have c_r_1_w4 := x_r.cell (i := 1) rfl
      have f_r_1_w4 := x_r.frozen 1
      have c_r_2_w4 := x_r.cell (i := 2) rfl
      have f_r_2_w4 := x_r.frozen 2
      have c_r_3_w4 := x_r.cell (i := 3) rfl
      have f_r_3_w4 := x_r.frozen 3
      have c_r_4_w4 := x_r.cell (i := 4) rfl
      have f_r_4_w4 := x_r.frozen 4
      have c_r_5_w4 := x_r.cell (i := 5) rfl
      have f_r_5_w4 := x_r.frozen 5
      have c_r_6_w4 := x_r.cell (i := 6) rfl
      have f_r_6_w4 := x_r.frozen 6
      have c_r_7_w4 := x_r.cell (i := 7) rfl
      have f_r_7_w4 := x_r.frozen 7
      have c_r_8_w4 := x_r.cell (i := 8) rfl
      have f_r_8_w4 := x_r.frozen 8
      have c_l_0_w4 := x_l.cell (i := 0) rfl
      have f_l_0_w4 := x_l.frozen 0
      have c_l_1_w4 := x_l.cell (i := 1) rfl
      have f_l_1_w4 := x_l.frozen 1
      have c_l_2_w4 := x_l.cell (i := 2) rfl
      have f_l_2_w4 := x_l.frozen 2
      rw [rounds_succ]
      go_wp2_with fail
      refine (iTextNum_any _ _ (ht.below B_w4) zy2).mono ?_
      rintro e w5 ⟨rfl, h_w5⟩
      clear c_r_0_w4 f_r_0_w4 c_r_1_w4 f_r_1_w4 c_r_2_w4 f_r_2_w4 c_r_3_w4 f_r_3_w4 c_r_4_w4 f_r_4_w4 c_r_5_w4 f_r_5_w4 c_r_6_w4 f_r_6_w4 c_r_7_w4 f_r_7_w4 c_r_8_w4 f_r_8_w4 c_l_0_w4 f_l_0_w4 c_l_1_w4 f_l_1_w4 c_l_2_w4 f_l_2_w4
      replace x_r := x_r.from_ h_w5
      replace x_l := x_l.from_ h_w5
      have B_w5 := B_w4.trans (h_w5.mono B_w4.size)
      have s_w5 := h_w5.size
      have C_w5 := C_w4.then_below h_w5
      rw [textVal_txN, HB2.out, HN2.out]
      replace e0 := (h_w5.cell (p := ⟨g, off, none⟩) (by show g < _; omega)).trans e0
      replace e1 := (h_w5.cell (p := ⟨g, off + 1, none⟩) (by show g < _; omega)).trans e1
      replace e2 := (h_w5.cell (p := ⟨g, off + 2, none⟩) (by show g < _; omega)).trans e2
      replace hWS := hWS.below h_w5 (by omega)
      cases ob2 with
      | false =>
        go_wp2
        go_ret2
        exact ⟨_, _, rfl, .inr ⟨rfl, okN_bad (j := 2) (by omega) (by rw [HY2.out]; exact HB2.out), rfl, _, x_r⟩, C_w5⟩
      | true =>
        have c_r_0_w5 := x_r.cell (i := 0) rfl
        have f_r_0_w5 := x_r.frozen 0
        have c_r_1_w5 := x_r.cell (i := 1) rfl
        have f_r_1_w5 := x_r.frozen 1
        have c_r_2_w5 := x_r.cell (i := 2) rfl
        have f_r_2_w5 := x_r.frozen 2
        have c_r_3_w5 := x_r.cell (i := 3) rfl
        have f_r_3_w5 := x_r.frozen 3
        have c_r_4_w5 := x_r.cell (i := 4) rfl
        have f_r_4_w5 := x_r.frozen 4
        have c_r_5_w5 := x_r.cell (i := 5) rfl
        have f_r_5_w5 := x_r.frozen 5
        have c_r_6_w5 := x_r.cell (i := 6) rfl
        have f_r_6_w5 := x_r.frozen 6
        have c_r_7_w5 := x_r.cell (i := 7) rfl
        have f_r_7_w5 := x_r.frozen 7
        have c_r_8_w5 := x_r.cell (i := 8) rfl
        have f_r_8_w5 := x_r.frozen 8
        have c_l_0_w5 := x_l.cell (i := 0) rfl
        have f_l_0_w5 := x_l.frozen 0
        have c_l_1_w5 := x_l.cell (i := 1) rfl
        have f_l_1_w5 := x_l.frozen 1
        have c_l_2_w5 := x_l.cell (i := 2) rfl
        have f_l_2_w5 := x_l.frozen 2
        obtain ⟨w6, e_w6, s_w6, h_w6, y⟩ := set_step x_r 4 (.int .i64 n2)
        have s_w6_1 := Nat.le_of_eq s_w6
        have s_w6_2 := Nat.le_of_eq s_w6.symm
        clear s_w6
        replace x_l := x_l.chg h_w6 (by omega)
        have B_w6 := Below.chg_ B_w5 h_w6 (by omega) (by omega)
        have C_w6 := C_w5.then_same h_w6
        replace x_r : Vr w6 (b) T [z0, .int .i64 n0, z2, .int .i64 n1, .int .i64 n2, z5, z6, z7, z8] := y
        clear y
        have c_r_0_w6 := x_r.cell (i := 0) rfl
        have f_r_0_w6 := x_r.frozen 0
        have c_r_1_w6 := x_r.cell (i := 1) rfl
        have f_r_1_w6 := x_r.frozen 1
        have c_r_2_w6 := x_r.cell (i := 2) rfl
        have f_r_2_w6 := x_r.frozen 2
        have c_r_3_w6 := x_r.cell (i := 3) rfl
        have f_r_3_w6 := x_r.frozen 3
        have c_r_4_w6 := x_r.cell (i := 4) rfl
        have f_r_4_w6 := x_r.frozen 4
        have c_r_5_w6 := x_r.cell (i := 5) rfl
        have f_r_5_w6 := x_r.frozen 5
        have c_r_6_w6 := x_r.cell (i := 6) rfl
        have f_r_6_w6 := x_r.frozen 6
        have c_r_7_w6 := x_r.cell (i := 7) rfl
        have f_r_7_w6 := x_r.frozen 7
        have c_r_8_w6 := x_r.cell (i := 8) rfl
        have f_r_8_w6 := x_r.frozen 8
        have c_l_0_w6 := x_l.cell (i := 0) rfl
        have f_l_0_w6 := x_l.frozen 0
        have c_l_1_w6 := x_l.cell (i := 1) rfl
        have f_l_1_w6 := x_l.frozen 1
        have c_l_2_w6 := x_l.cell (i := 2) rfl
        have f_l_2_w6 := x_l.frozen 2
        replace e0 := (h_w6.cell_at (p := ⟨g, off, none⟩) (by show g < _; omega) (.inl (by show g < b; omega))).trans e0
        replace e1 := (h_w6.cell_at (p := ⟨g, off + 1, none⟩) (by show g < _; omega) (.inl (by show g < b; omega))).trans e1
        replace e2 := (h_w6.cell_at (p := ⟨g, off + 2, none⟩) (by show g < _; omega) (.inl (by show g < b; omega))).trans e2
        replace hWS := hWS.chg h_w6 hB0 (by omega)
        go_wp2_with fail
        rw [rounds_succ]
        go_wp2
        go_ret2
        refine ⟨_, _, rfl, .inl ⟨rfl, (okN_iff ws 3).2 ⟨hn, fun j hj => ?_⟩, ?_, ?_⟩, C_w6⟩
        · have hj2 : j = 0 ∨ j = 1 ∨ j = 2 := by omega
          rcases hj2 with rfl | rfl | rfl
          · rw [HY0.out]; exact HB0.out
          · rw [HY1.out]; exact HB1.out
          · rw [HY2.out]; exact HB2.out
        · rw [HY0.out, HN0.out, HY1.out, HN1.out, HY2.out, HN2.out]; exact x_r
        · rw [← HX.out]; exact hWS.drop hn

set_option maxRecDepth 100000 in
set_option maxHeartbeats 4000000 in
theorem iRead_allNums {W0 w : World} (ht : Tab10 W0) (hW : Below W0.heap.size W0 w) {b B B0 : Nat} {T U : TypeId} {z0 z1 z2 z3 z4 z5 z6 z7 z8 v : Value} {ws : List ByteArray} (h0 : W0.heap.size ≤ b) (hB0 : B0 ≤ b) (x_r : Vr w b T [z0, z1, z2, z3, z4, z5, z6, z7, z8]) (x_l : Vr w B U [.pointer (some ⟨b, 1, none⟩), .pointer (some ⟨b, 2, none⟩), .pointer (some ⟨b, 3, none⟩), .pointer (some ⟨b, 4, none⟩)]) (hbB : b < B) (h : WS w B0 v ws) (hz : ∀ x ∈ ws, x.size ≤ 1048576) (hm : ws.length ≤ 16777216) :
    Calls Tryd.prog 27 #[v, .slice (some ⟨B, 0, none⟩) 4 4] w fun e w' => ∃ v' ok, e = .returned (.tuple #[v', .bool ok]) ∧ ((ok = true ∧ okN ws 4 = true ∧ Vr w' b T [z0, .int .i64 (txN (ws.getD 0 ByteArray.empty)), .int .i64 (txN (ws.getD 1 ByteArray.empty)), .int .i64 (txN (ws.getD 2 ByteArray.empty)), .int .i64 (txN (ws.getD 3 ByteArray.empty)), z5, z6, z7, z8] ∧ WS w' B0 v' (ws.drop 4)) ∨ (ok = false ∧ okN ws 4 = false ∧ v' = .slice none 0 0 ∧ ∃ cs, Vr w' b T cs)) ∧ Chg b (b + 1) w w' := by
  have C0 : Chg b (b + 1) w w := Chg.refl _ _ _
  have lb := x_r.lt
  have lB := x_l.lt
  obtain ⟨A, c, rfl, hc1, hc2, hr⟩ := h
  by_cases hn : 4 ≤ ws.length
  case neg =>
    have i1 : (ws.length : Int) < 4 := by omega
    go_enter Tryd.func27, Tryd.ntmps27
    go_wp2
    go_ret2
    exact ⟨_, _, rfl, .inr ⟨rfl, okN_short hn, rfl, _, x_r⟩, C0⟩
  have i1 : ¬ ((ws.length : Int) < 4) := by omega
  have hdr := run_wdrop A c 4 ws.length 4 rfl hn
  have hWS : WS w B0 (.slice A ws.length c) ws := ⟨A, c, rfl, hc1, hc2, hr⟩
  obtain ⟨g, off, hA, hg, hcell⟩ := hr (by omega)
  clear hr
  obtain ⟨y0, hy0⟩ : ∃ y, ws.getD 0 ByteArray.empty = y := ⟨_, rfl⟩
  have zy0 : y0.size ≤ 1073741824 := by rw [← hy0]; exact Nat.le_trans (getD_sz hz 0) (by omega)
  have e0 := hcell 0 (by omega)
  rw [hy0] at e0
  have HY0 := Lib.hid hy0
  have l0 : (0 : Int) < (ws.length : Int) := by omega
  obtain ⟨y1, hy1⟩ : ∃ y, ws.getD 1 ByteArray.empty = y := ⟨_, rfl⟩
  have zy1 : y1.size ≤ 1073741824 := by rw [← hy1]; exact Nat.le_trans (getD_sz hz 1) (by omega)
  have e1 := hcell 1 (by omega)
  rw [hy1] at e1
  have HY1 := Lib.hid hy1
  have l1 : (1 : Int) < (ws.length : Int) := by omega
  obtain ⟨y2, hy2⟩ : ∃ y, ws.getD 2 ByteArray.empty = y := ⟨_, rfl⟩
  have zy2 : y2.size ≤ 1073741824 := by rw [← hy2]; exact Nat.le_trans (getD_sz hz 2) (by omega)
  have e2 := hcell 2 (by omega)
  rw [hy2] at e2
  have HY2 := Lib.hid hy2
  have l2 : (2 : Int) < (ws.length : Int) := by omega
  obtain ⟨y3, hy3⟩ : ∃ y, ws.getD 3 ByteArray.empty = y := ⟨_, rfl⟩
  have zy3 : y3.size ≤ 1073741824 := by rw [← hy3]; exact Nat.le_trans (getD_sz hz 3) (by omega)
  have e3 := hcell 3 (by omega)
  rw [hy3] at e3
  have HY3 := Lib.hid hy3
  have l3 : (3 : Int) < (ws.length : Int) := by omega
  clear hcell hy0 hy1 hy2 hy3
  have hgw : g < w.heap.size := by omega
  simp only [Nat.add_zero] at e0
  generalize hdX : (if c = 4 then A else A.map (·.add (4 * 1))) = X at hdr
  have HX := Lib.hid hdX
  clear hdX
  have HAe := Lib.hid hA
  subst hA
  have c_r_0_w := x_r.cell (i := 0) rfl
  have f_r_0_w := x_r.frozen 0
  have c_r_1_w := x_r.cell (i := 1) rfl
  have f_r_1_w := x_r.frozen 1
  have c_r_2_w := x_r.cell (i := 2) rfl
  have f_r_2_w := x_r.frozen 2
  have c_r_3_w := x_r.cell (i := 3) rfl
  have f_r_3_w := x_r.frozen 3
  have c_r_4_w := x_r.cell (i := 4) rfl
  have f_r_4_w := x_r.frozen 4
  have c_r_5_w := x_r.cell (i := 5) rfl
  have f_r_5_w := x_r.frozen 5
  have c_r_6_w := x_r.cell (i := 6) rfl
  have f_r_6_w := x_r.frozen 6
  have c_r_7_w := x_r.cell (i := 7) rfl
  have f_r_7_w := x_r.frozen 7
  have c_r_8_w := x_r.cell (i := 8) rfl
  have f_r_8_w := x_r.frozen 8
  have c_l_0_w := x_l.cell (i := 0) rfl
  have f_l_0_w := x_l.frozen 0
  have c_l_1_w := x_l.cell (i := 1) rfl
  have f_l_1_w := x_l.frozen 1
  have c_l_2_w := x_l.cell (i := 2) rfl
  have f_l_2_w := x_l.frozen 2
  have c_l_3_w := x_l.cell (i := 3) rfl
  have f_l_3_w := x_l.frozen 3
  go_enter Tryd.func27, Tryd.ntmps27
  go_wp2_with fail
  refine wp_loop_rounds 5 ?_
  obtain ⟨ob0, hb0⟩ : ∃ b, (textNum y0).isSome = b := ⟨_, rfl⟩
  have HB0 := Lib.hid hb0
  clear hb0
  obtain ⟨n0, hn0⟩ : ∃ z, txN y0 = z := ⟨_, rfl⟩
  have HN0 := Lib.hid hn0
  clear hn0
  clear c_r_0_w f_r_0_w c_r_1_w f_r_1_w c_r_2_w f_r_2_w c_r_3_w f_r_3_w c_r_4_w f_r_4_w c_r_5_w f_r_5_w c_r_6_w f_r_6_w c_r_7_w f_r_7_w c_r_8_w f_r_8_w c_l_0_w f_l_0_w c_l_1_w f_l_1_w c_l_2_w f_l_2_w c_l_3_w f_l_3_w
  have c_r_0_w := x_r.cell (i := 0) rfl
  have f_r_0_w := x_r.frozen 0
  have c_r_1_w := x_r.cell (i := 1) rfl
  have f_r_1_w := x_r.frozen 1
  have c_r_2_w := x_r.cell (i := 2) rfl
  have f_r_2_w := x_r.frozen 2
  have c_r_3_w := x_r.cell (i := 3) rfl
  have f_r_3_w := x_r.frozen 3
  have c_r_4_w := x_r.cell (i := 4) rfl
  have f_r_4_w := x_r.frozen 4
  have c_r_5_w := x_r.cell (i := 5) rfl
  have f_r_5_w := x_r.frozen 5
  have c_r_6_w := x_r.cell (i := 6) rfl
  have f_r_6_w := x_r.frozen 6
  have c_r_7_w := x_r.cell (i := 7) rfl
  have f_r_7_w := x_r.frozen 7
  have c_r_8_w := x_r.cell (i := 8) rfl
  have f_r_8_w := x_r.frozen 8
  have c_l_0_w := x_l.cell (i := 0) rfl
  have f_l_0_w := x_l.frozen 0
  have c_l_1_w := x_l.cell (i := 1) rfl
  have f_l_1_w := x_l.frozen 1
  have c_l_2_w := x_l.cell (i := 2) rfl
  have f_l_2_w := x_l.frozen 2
  have c_l_3_w := x_l.cell (i := 3) rfl
  have f_l_3_w := x_l.frozen 3
  rw [rounds_succ]
  go_wp2_with fail
  refine (iTextNum_any _ _ (ht.below hW) zy0).mono ?_
  rintro e w1 ⟨rfl, h_w1⟩
  clear c_r_0_w f_r_0_w c_r_1_w f_r_1_w c_r_2_w f_r_2_w c_r_3_w f_r_3_w c_r_4_w f_r_4_w c_r_5_w f_r_5_w c_r_6_w f_r_6_w c_r_7_w f_r_7_w c_r_8_w f_r_8_w c_l_0_w f_l_0_w c_l_1_w f_l_1_w c_l_2_w f_l_2_w c_l_3_w f_l_3_w
  replace x_r := x_r.from_ h_w1
  replace x_l := x_l.from_ h_w1
  have B_w1 := hW.trans (h_w1.mono hW.size)
  have s_w1 := h_w1.size
  have C_w1 := C0.then_below h_w1
  rw [textVal_txN, HB0.out, HN0.out]
  replace e0 := (h_w1.cell (p := ⟨g, off, none⟩) (by show g < _; omega)).trans e0
  replace e1 := (h_w1.cell (p := ⟨g, off + 1, none⟩) (by show g < _; omega)).trans e1
  replace e2 := (h_w1.cell (p := ⟨g, off + 2, none⟩) (by show g < _; omega)).trans e2
  replace e3 := (h_w1.cell (p := ⟨g, off + 3, none⟩) (by show g < _; omega)).trans e3
  replace hWS := hWS.below h_w1 (by omega)
  cases ob0 with
  | false =>
    go_wp2
    go_ret2
    exact ⟨_, _, rfl, .inr ⟨rfl, okN_bad (j := 0) (by omega) (by rw [HY0.out]; exact HB0.out), rfl, _, x_r⟩, C_w1⟩
  | true =>
    have c_r_0_w1 := x_r.cell (i := 0) rfl
    have f_r_0_w1 := x_r.frozen 0
    have c_r_1_w1 := x_r.cell (i := 1) rfl
    have f_r_1_w1 := x_r.frozen 1
    have c_r_2_w1 := x_r.cell (i := 2) rfl
    have f_r_2_w1 := x_r.frozen 2
    have c_r_3_w1 := x_r.cell (i := 3) rfl
    have f_r_3_w1 := x_r.frozen 3
    have c_r_4_w1 := x_r.cell (i := 4) rfl
    have f_r_4_w1 := x_r.frozen 4
    have c_r_5_w1 := x_r.cell (i := 5) rfl
    have f_r_5_w1 := x_r.frozen 5
    have c_r_6_w1 := x_r.cell (i := 6) rfl
    have f_r_6_w1 := x_r.frozen 6
    have c_r_7_w1 := x_r.cell (i := 7) rfl
    have f_r_7_w1 := x_r.frozen 7
    have c_r_8_w1 := x_r.cell (i := 8) rfl
    have f_r_8_w1 := x_r.frozen 8
    have c_l_0_w1 := x_l.cell (i := 0) rfl
    have f_l_0_w1 := x_l.frozen 0
    have c_l_1_w1 := x_l.cell (i := 1) rfl
    have f_l_1_w1 := x_l.frozen 1
    have c_l_2_w1 := x_l.cell (i := 2) rfl
    have f_l_2_w1 := x_l.frozen 2
    have c_l_3_w1 := x_l.cell (i := 3) rfl
    have f_l_3_w1 := x_l.frozen 3
    obtain ⟨w2, e_w2, s_w2, h_w2, y⟩ := set_step x_r 1 (.int .i64 n0)
    have s_w2_1 := Nat.le_of_eq s_w2
    have s_w2_2 := Nat.le_of_eq s_w2.symm
    clear s_w2
    replace x_l := x_l.chg h_w2 (by omega)
    have B_w2 := Below.chg_ B_w1 h_w2 (by omega) (by omega)
    have C_w2 := C_w1.then_same h_w2
    replace x_r : Vr w2 (b) T [z0, .int .i64 n0, z2, z3, z4, z5, z6, z7, z8] := y
    clear y
    have c_r_0_w2 := x_r.cell (i := 0) rfl
    have f_r_0_w2 := x_r.frozen 0
    have c_r_1_w2 := x_r.cell (i := 1) rfl
    have f_r_1_w2 := x_r.frozen 1
    have c_r_2_w2 := x_r.cell (i := 2) rfl
    have f_r_2_w2 := x_r.frozen 2
    have c_r_3_w2 := x_r.cell (i := 3) rfl
    have f_r_3_w2 := x_r.frozen 3
    have c_r_4_w2 := x_r.cell (i := 4) rfl
    have f_r_4_w2 := x_r.frozen 4
    have c_r_5_w2 := x_r.cell (i := 5) rfl
    have f_r_5_w2 := x_r.frozen 5
    have c_r_6_w2 := x_r.cell (i := 6) rfl
    have f_r_6_w2 := x_r.frozen 6
    have c_r_7_w2 := x_r.cell (i := 7) rfl
    have f_r_7_w2 := x_r.frozen 7
    have c_r_8_w2 := x_r.cell (i := 8) rfl
    have f_r_8_w2 := x_r.frozen 8
    have c_l_0_w2 := x_l.cell (i := 0) rfl
    have f_l_0_w2 := x_l.frozen 0
    have c_l_1_w2 := x_l.cell (i := 1) rfl
    have f_l_1_w2 := x_l.frozen 1
    have c_l_2_w2 := x_l.cell (i := 2) rfl
    have f_l_2_w2 := x_l.frozen 2
    have c_l_3_w2 := x_l.cell (i := 3) rfl
    have f_l_3_w2 := x_l.frozen 3
    replace e0 := (h_w2.cell_at (p := ⟨g, off, none⟩) (by show g < _; omega) (.inl (by show g < b; omega))).trans e0
    replace e1 := (h_w2.cell_at (p := ⟨g, off + 1, none⟩) (by show g < _; omega) (.inl (by show g < b; omega))).trans e1
    replace e2 := (h_w2.cell_at (p := ⟨g, off + 2, none⟩) (by show g < _; omega) (.inl (by show g < b; omega))).trans e2
    replace e3 := (h_w2.cell_at (p := ⟨g, off + 3, none⟩) (by show g < _; omega) (.inl (by show g < b; omega))).trans e3
    replace hWS := hWS.chg h_w2 hB0 (by omega)
    go_wp2_with fail
    obtain ⟨ob1, hb1⟩ : ∃ b, (textNum y1).isSome = b := ⟨_, rfl⟩
    have HB1 := Lib.hid hb1
    clear hb1
    obtain ⟨n1, hn1⟩ : ∃ z, txN y1 = z := ⟨_, rfl⟩
    have HN1 := Lib.hid hn1
    clear hn1
    clear c_r_0_w1 f_r_0_w1 c_r_1_w1 f_r_1_w1 c_r_2_w1 f_r_2_w1 c_r_3_w1 f_r_3_w1 c_r_4_w1 f_r_4_w1 c_r_5_w1 f_r_5_w1 c_r_6_w1 f_r_6_w1 c_r_7_w1 f_r_7_w1 c_r_8_w1 f_r_8_w1 c_l_0_w1 f_l_0_w1 c_l_1_w1 f_l_1_w1 c_l_2_w1 f_l_2_w1 c_l_3_w1 f_l_3_w1 c_r_0_w2 f_r_0_w2 c_r_1_w2 f_r_1_w2 c_r_2_w2 f_r_2_w2 c_r_3_w2 f_r_3_w2 c_r_4_w2 f_r_4_w2 c_r_5_w2 f_r_5_w2 c_r_6_w2 f_r_6_w2 c_r_7_w2 f_r_7_w2 c_r_8_w2 f_r_8_w2 c_l_0_w2 f_l_0_w2 c_l_1_w2 f_l_1_w2 c_l_2_w2 f_l_2_w2 c_l_3_w2 f_l_3_w2
    have c_r_0_w2 := x_r.cell (i := 0) rfl
    have f_r_0_w2 := x_r.frozen 0
    have c_r_1_w2 := x_r.cell (i := 1) rfl
    have f_r_1_w2 := x_r.frozen 1
    have c_r_2_w2 := x_r.cell (i := 2) rfl
    have f_r_2_w2 := x_r.frozen 2
    have c_r_3_w2 := x_r.cell (i := 3) rfl
    have f_r_3_w2 := x_r.frozen 3
    have c_r_4_w2 := x_r.cell (i := 4) rfl
    have f_r_4_w2 := x_r.frozen 4
    have c_r_5_w2 := x_r.cell (i := 5) rfl
    have f_r_5_w2 := x_r.frozen 5
    have c_r_6_w2 := x_r.cell (i := 6) rfl
    have f_r_6_w2 := x_r.frozen 6
    have c_r_7_w2 := x_r.cell (i := 7) rfl
    have f_r_7_w2 := x_r.frozen 7
    have c_r_8_w2 := x_r.cell (i := 8) rfl
    have f_r_8_w2 := x_r.frozen 8
    have c_l_0_w2 := x_l.cell (i := 0) rfl
    have f_l_0_w2 := x_l.frozen 0
    have c_l_1_w2 := x_l.cell (i := 1) rfl
    have f_l_1_w2 := x_l.frozen 1
    have c_l_2_w2 := x_l.cell (i := 2) rfl
    have f_l_2_w2 := x_l.frozen 2
    have c_l_3_w2 := x_l.cell (i := 3) rfl
    have f_l_3_w2 := x_l.frozen 3
    rw [rounds_succ]
    go_wp2_with fail
    refine (iTextNum_any _ _ (ht.below B_w2) zy1).mono ?_
    rintro e w3 ⟨rfl, h_w3⟩
    clear c_r_0_w2 f_r_0_w2 c_r_1_w2 f_r_1_w2 c_r_2_w2 f_r_2_w2 c_r_3_w2 f_r_3_w2 c_r_4_w2 f_r_4_w2 c_r_5_w2 f_r_5_w2 c_r_6_w2 f_r_6_w2 c_r_7_w2 f_r_7_w2 c_r_8_w2 f_r_8_w2 c_l_0_w2 f_l_0_w2 c_l_1_w2 f_l_1_w2 c_l_2_w2 f_l_2_w2 c_l_3_w2 f_l_3_w2
    replace x_r := x_r.from_ h_w3
    replace x_l := x_l.from_ h_w3
    have B_w3 := B_w2.trans (h_w3.mono B_w2.size)
    have s_w3 := h_w3.size
    have C_w3 := C_w2.then_below h_w3
    rw [textVal_txN, HB1.out, HN1.out]
    replace e0 := (h_w3.cell (p := ⟨g, off, none⟩) (by show g < _; omega)).trans e0
    replace e1 := (h_w3.cell (p := ⟨g, off + 1, none⟩) (by show g < _; omega)).trans e1
    replace e2 := (h_w3.cell (p := ⟨g, off + 2, none⟩) (by show g < _; omega)).trans e2
    replace e3 := (h_w3.cell (p := ⟨g, off + 3, none⟩) (by show g < _; omega)).trans e3
    replace hWS := hWS.below h_w3 (by omega)
    cases ob1 with
    | false =>
      go_wp2
      go_ret2
      exact ⟨_, _, rfl, .inr ⟨rfl, okN_bad (j := 1) (by omega) (by rw [HY1.out]; exact HB1.out), rfl, _, x_r⟩, C_w3⟩
    | true =>
      have c_r_0_w3 := x_r.cell (i := 0) rfl
      have f_r_0_w3 := x_r.frozen 0
      have c_r_1_w3 := x_r.cell (i := 1) rfl
      have f_r_1_w3 := x_r.frozen 1
      have c_r_2_w3 := x_r.cell (i := 2) rfl
      have f_r_2_w3 := x_r.frozen 2
      have c_r_3_w3 := x_r.cell (i := 3) rfl
      have f_r_3_w3 := x_r.frozen 3
      have c_r_4_w3 := x_r.cell (i := 4) rfl
      have f_r_4_w3 := x_r.frozen 4
      have c_r_5_w3 := x_r.cell (i := 5) rfl
      have f_r_5_w3 := x_r.frozen 5
      have c_r_6_w3 := x_r.cell (i := 6) rfl
      have f_r_6_w3 := x_r.frozen 6
      have c_r_7_w3 := x_r.cell (i := 7) rfl
      have f_r_7_w3 := x_r.frozen 7
      have c_r_8_w3 := x_r.cell (i := 8) rfl
      have f_r_8_w3 := x_r.frozen 8
      have c_l_0_w3 := x_l.cell (i := 0) rfl
      have f_l_0_w3 := x_l.frozen 0
      have c_l_1_w3 := x_l.cell (i := 1) rfl
      have f_l_1_w3 := x_l.frozen 1
      have c_l_2_w3 := x_l.cell (i := 2) rfl
      have f_l_2_w3 := x_l.frozen 2
      have c_l_3_w3 := x_l.cell (i := 3) rfl
      have f_l_3_w3 := x_l.frozen 3
      obtain ⟨w4, e_w4, s_w4, h_w4, y⟩ := set_step x_r 2 (.int .i64 n1)
      have s_w4_1 := Nat.le_of_eq s_w4
      have s_w4_2 := Nat.le_of_eq s_w4.symm
      clear s_w4
      replace x_l := x_l.chg h_w4 (by omega)
      have B_w4 := Below.chg_ B_w3 h_w4 (by omega) (by omega)
      have C_w4 := C_w3.then_same h_w4
      replace x_r : Vr w4 (b) T [z0, .int .i64 n0, .int .i64 n1, z3, z4, z5, z6, z7, z8] := y
      clear y
      have c_r_0_w4 := x_r.cell (i := 0) rfl
      have f_r_0_w4 := x_r.frozen 0
      have c_r_1_w4 := x_r.cell (i := 1) rfl
      have f_r_1_w4 := x_r.frozen 1
      have c_r_2_w4 := x_r.cell (i := 2) rfl
      have f_r_2_w4 := x_r.frozen 2
      have c_r_3_w4 := x_r.cell (i := 3) rfl
      have f_r_3_w4 := x_r.frozen 3
      have c_r_4_w4 := x_r.cell (i := 4) rfl
      have f_r_4_w4 := x_r.frozen 4
      have c_r_5_w4 := x_r.cell (i := 5) rfl
      have f_r_5_w4 := x_r.frozen 5
      have c_r_6_w4 := x_r.cell (i := 6) rfl
      have f_r_6_w4 := x_r.frozen 6
      have c_r_7_w4 := x_r.cell (i := 7) rfl
      have f_r_7_w4 := x_r.frozen 7
      have c_r_8_w4 := x_r.cell (i := 8) rfl
      have f_r_8_w4 := x_r.frozen 8
      have c_l_0_w4 := x_l.cell (i := 0) rfl
      have f_l_0_w4 := x_l.frozen 0
      have c_l_1_w4 := x_l.cell (i := 1) rfl
      have f_l_1_w4 := x_l.frozen 1
      have c_l_2_w4 := x_l.cell (i := 2) rfl
      have f_l_2_w4 := x_l.frozen 2
      have c_l_3_w4 := x_l.cell (i := 3) rfl
      have f_l_3_w4 := x_l.frozen 3
      replace e0 := (h_w4.cell_at (p := ⟨g, off, none⟩) (by show g < _; omega) (.inl (by show g < b; omega))).trans e0
      replace e1 := (h_w4.cell_at (p := ⟨g, off + 1, none⟩) (by show g < _; omega) (.inl (by show g < b; omega))).trans e1
      replace e2 := (h_w4.cell_at (p := ⟨g, off + 2, none⟩) (by show g < _; omega) (.inl (by show g < b; omega))).trans e2
      replace e3 := (h_w4.cell_at (p := ⟨g, off + 3, none⟩) (by show g < _; omega) (.inl (by show g < b; omega))).trans e3
      replace hWS := hWS.chg h_w4 hB0 (by omega)
      go_wp2_with fail
      obtain ⟨ob2, hb2⟩ : ∃ b, (textNum y2).isSome = b := ⟨_, rfl⟩
      have HB2 := Lib.hid hb2
      clear hb2
      obtain ⟨n2, hn2⟩ : ∃ z, txN y2 = z := ⟨_, rfl⟩
      have HN2 := Lib.hid hn2
      clear hn2
      clear c_r_0_w3 f_r_0_w3 c_r_1_w3 f_r_1_w3 c_r_2_w3 f_r_2_w3 c_r_3_w3 f_r_3_w3 c_r_4_w3 f_r_4_w3 c_r_5_w3 f_r_5_w3 c_r_6_w3 f_r_6_w3 c_r_7_w3 f_r_7_w3 c_r_8_w3 f_r_8_w3 c_l_0_w3 f_l_0_w3 c_l_1_w3 f_l_1_w3 c_l_2_w3 f_l_2_w3 c_l_3_w3 f_l_3_w3 c_r_0_w4 f_r_0_w4 c_r_1_w4 f_r_1_w4 c_r_2_w4 f_r_2_w4 c_r_3_w4 f_r_3_w4 c_r_4_w4 f_r_4_w4 c_r_5_w4 f_r_5_w4 c_r_6_w4 f_r_6_w4 c_r_7_w4 f_r_7_w4 c_r_8_w4 f_r_8_w4 c_l_0_w4 f_l_0_w4 c_l_1_w4 f_l_1_w4 c_l_2_w4 f_l_2_w4 c_l_3_w4 f_l_3_w4
      have c_r_0_w4 := x_r.cell (i := 0) rfl
      have f_r_0_w4 := x_r.frozen 0
      have c_r_1_w4 := x_r.cell (i := 1) rfl
      have f_r_1_w4 := x_r.frozen 1
      have c_r_2_w4 := x_r.cell (i := 2) rfl
      have f_r_2_w4 := x_r.frozen 2
      have c_r_3_w4 := x_r.cell (i := 3) rfl
      have f_r_3_w4 := x_r.frozen 3
      have c_r_4_w4 := x_r.cell (i := 4) rfl
      have f_r_4_w4 := x_r.frozen 4
      have c_r_5_w4 := x_r.cell (i := 5) rfl
      have f_r_5_w4 := x_r.frozen 5
      have c_r_6_w4 := x_r.cell (i := 6) rfl
      have f_r_6_w4 := x_r.frozen 6
      have c_r_7_w4 := x_r.cell (i := 7) rfl
      have f_r_7_w4 := x_r.frozen 7
      have c_r_8_w4 := x_r.cell (i := 8) rfl
      have f_r_8_w4 := x_r.frozen 8
      have c_l_0_w4 := x_l.cell (i := 0) rfl
      have f_l_0_w4 := x_l.frozen 0
      have c_l_1_w4 := x_l.cell (i := 1) rfl
      have f_l_1_w4 := x_l.frozen 1
      have c_l_2_w4 := x_l.cell (i := 2) rfl
      have f_l_2_w4 := x_l.frozen 2
      have c_l_3_w4 := x_l.cell (i := 3) rfl
      have f_l_3_w4 := x_l.frozen 3
      rw [rounds_succ]
      go_wp2_with fail
      refine (iTextNum_any _ _ (ht.below B_w4) zy2).mono ?_
      rintro e w5 ⟨rfl, h_w5⟩
      clear c_r_0_w4 f_r_0_w4 c_r_1_w4 f_r_1_w4 c_r_2_w4 f_r_2_w4 c_r_3_w4 f_r_3_w4 c_r_4_w4 f_r_4_w4 c_r_5_w4 f_r_5_w4 c_r_6_w4 f_r_6_w4 c_r_7_w4 f_r_7_w4 c_r_8_w4 f_r_8_w4 c_l_0_w4 f_l_0_w4 c_l_1_w4 f_l_1_w4 c_l_2_w4 f_l_2_w4 c_l_3_w4 f_l_3_w4
      replace x_r := x_r.from_ h_w5
      replace x_l := x_l.from_ h_w5
      have B_w5 := B_w4.trans (h_w5.mono B_w4.size)
      have s_w5 := h_w5.size
      have C_w5 := C_w4.then_below h_w5
      rw [textVal_txN, HB2.out, HN2.out]
      replace e0 := (h_w5.cell (p := ⟨g, off, none⟩) (by show g < _; omega)).trans e0
      replace e1 := (h_w5.cell (p := ⟨g, off + 1, none⟩) (by show g < _; omega)).trans e1
      replace e2 := (h_w5.cell (p := ⟨g, off + 2, none⟩) (by show g < _; omega)).trans e2
      replace e3 := (h_w5.cell (p := ⟨g, off + 3, none⟩) (by show g < _; omega)).trans e3
      replace hWS := hWS.below h_w5 (by omega)
      cases ob2 with
      | false =>
        go_wp2
        go_ret2
        exact ⟨_, _, rfl, .inr ⟨rfl, okN_bad (j := 2) (by omega) (by rw [HY2.out]; exact HB2.out), rfl, _, x_r⟩, C_w5⟩
      | true =>
        have c_r_0_w5 := x_r.cell (i := 0) rfl
        have f_r_0_w5 := x_r.frozen 0
        have c_r_1_w5 := x_r.cell (i := 1) rfl
        have f_r_1_w5 := x_r.frozen 1
        have c_r_2_w5 := x_r.cell (i := 2) rfl
        have f_r_2_w5 := x_r.frozen 2
        have c_r_3_w5 := x_r.cell (i := 3) rfl
        have f_r_3_w5 := x_r.frozen 3
        have c_r_4_w5 := x_r.cell (i := 4) rfl
        have f_r_4_w5 := x_r.frozen 4
        have c_r_5_w5 := x_r.cell (i := 5) rfl
        have f_r_5_w5 := x_r.frozen 5
        have c_r_6_w5 := x_r.cell (i := 6) rfl
        have f_r_6_w5 := x_r.frozen 6
        have c_r_7_w5 := x_r.cell (i := 7) rfl
        have f_r_7_w5 := x_r.frozen 7
        have c_r_8_w5 := x_r.cell (i := 8) rfl
        have f_r_8_w5 := x_r.frozen 8
        have c_l_0_w5 := x_l.cell (i := 0) rfl
        have f_l_0_w5 := x_l.frozen 0
        have c_l_1_w5 := x_l.cell (i := 1) rfl
        have f_l_1_w5 := x_l.frozen 1
        have c_l_2_w5 := x_l.cell (i := 2) rfl
        have f_l_2_w5 := x_l.frozen 2
        have c_l_3_w5 := x_l.cell (i := 3) rfl
        have f_l_3_w5 := x_l.frozen 3
        obtain ⟨w6, e_w6, s_w6, h_w6, y⟩ := set_step x_r 3 (.int .i64 n2)
        have s_w6_1 := Nat.le_of_eq s_w6
        have s_w6_2 := Nat.le_of_eq s_w6.symm
        clear s_w6
        replace x_l := x_l.chg h_w6 (by omega)
        have B_w6 := Below.chg_ B_w5 h_w6 (by omega) (by omega)
        have C_w6 := C_w5.then_same h_w6
        replace x_r : Vr w6 (b) T [z0, .int .i64 n0, .int .i64 n1, .int .i64 n2, z4, z5, z6, z7, z8] := y
        clear y
        have c_r_0_w6 := x_r.cell (i := 0) rfl
        have f_r_0_w6 := x_r.frozen 0
        have c_r_1_w6 := x_r.cell (i := 1) rfl
        have f_r_1_w6 := x_r.frozen 1
        have c_r_2_w6 := x_r.cell (i := 2) rfl
        have f_r_2_w6 := x_r.frozen 2
        have c_r_3_w6 := x_r.cell (i := 3) rfl
        have f_r_3_w6 := x_r.frozen 3
        have c_r_4_w6 := x_r.cell (i := 4) rfl
        have f_r_4_w6 := x_r.frozen 4
        have c_r_5_w6 := x_r.cell (i := 5) rfl
        have f_r_5_w6 := x_r.frozen 5
        have c_r_6_w6 := x_r.cell (i := 6) rfl
        have f_r_6_w6 := x_r.frozen 6
        have c_r_7_w6 := x_r.cell (i := 7) rfl
        have f_r_7_w6 := x_r.frozen 7
        have c_r_8_w6 := x_r.cell (i := 8) rfl
        have f_r_8_w6 := x_r.frozen 8
        have c_l_0_w6 := x_l.cell (i := 0) rfl
        have f_l_0_w6 := x_l.frozen 0
        have c_l_1_w6 := x_l.cell (i := 1) rfl
        have f_l_1_w6 := x_l.frozen 1
        have c_l_2_w6 := x_l.cell (i := 2) rfl
        have f_l_2_w6 := x_l.frozen 2
        have c_l_3_w6 := x_l.cell (i := 3) rfl
        have f_l_3_w6 := x_l.frozen 3
        replace e0 := (h_w6.cell_at (p := ⟨g, off, none⟩) (by show g < _; omega) (.inl (by show g < b; omega))).trans e0
        replace e1 := (h_w6.cell_at (p := ⟨g, off + 1, none⟩) (by show g < _; omega) (.inl (by show g < b; omega))).trans e1
        replace e2 := (h_w6.cell_at (p := ⟨g, off + 2, none⟩) (by show g < _; omega) (.inl (by show g < b; omega))).trans e2
        replace e3 := (h_w6.cell_at (p := ⟨g, off + 3, none⟩) (by show g < _; omega) (.inl (by show g < b; omega))).trans e3
        replace hWS := hWS.chg h_w6 hB0 (by omega)
        go_wp2_with fail
        obtain ⟨ob3, hb3⟩ : ∃ b, (textNum y3).isSome = b := ⟨_, rfl⟩
        have HB3 := Lib.hid hb3
        clear hb3
        obtain ⟨n3, hn3⟩ : ∃ z, txN y3 = z := ⟨_, rfl⟩
        have HN3 := Lib.hid hn3
        clear hn3
        clear c_r_0_w5 f_r_0_w5 c_r_1_w5 f_r_1_w5 c_r_2_w5 f_r_2_w5 c_r_3_w5 f_r_3_w5 c_r_4_w5 f_r_4_w5 c_r_5_w5 f_r_5_w5 c_r_6_w5 f_r_6_w5 c_r_7_w5 f_r_7_w5 c_r_8_w5 f_r_8_w5 c_l_0_w5 f_l_0_w5 c_l_1_w5 f_l_1_w5 c_l_2_w5 f_l_2_w5 c_l_3_w5 f_l_3_w5 c_r_0_w6 f_r_0_w6 c_r_1_w6 f_r_1_w6 c_r_2_w6 f_r_2_w6 c_r_3_w6 f_r_3_w6 c_r_4_w6 f_r_4_w6 c_r_5_w6 f_r_5_w6 c_r_6_w6 f_r_6_w6 c_r_7_w6 f_r_7_w6 c_r_8_w6 f_r_8_w6 c_l_0_w6 f_l_0_w6 c_l_1_w6 f_l_1_w6 c_l_2_w6 f_l_2_w6 c_l_3_w6 f_l_3_w6
        have c_r_0_w6 := x_r.cell (i := 0) rfl
        have f_r_0_w6 := x_r.frozen 0
        have c_r_1_w6 := x_r.cell (i := 1) rfl
        have f_r_1_w6 := x_r.frozen 1
        have c_r_2_w6 := x_r.cell (i := 2) rfl
        have f_r_2_w6 := x_r.frozen 2
        have c_r_3_w6 := x_r.cell (i := 3) rfl
        have f_r_3_w6 := x_r.frozen 3
        have c_r_4_w6 := x_r.cell (i := 4) rfl
        have f_r_4_w6 := x_r.frozen 4
        have c_r_5_w6 := x_r.cell (i := 5) rfl
        have f_r_5_w6 := x_r.frozen 5
        have c_r_6_w6 := x_r.cell (i := 6) rfl
        have f_r_6_w6 := x_r.frozen 6
        have c_r_7_w6 := x_r.cell (i := 7) rfl
        have f_r_7_w6 := x_r.frozen 7
        have c_r_8_w6 := x_r.cell (i := 8) rfl
        have f_r_8_w6 := x_r.frozen 8
        have c_l_0_w6 := x_l.cell (i := 0) rfl
        have f_l_0_w6 := x_l.frozen 0
        have c_l_1_w6 := x_l.cell (i := 1) rfl
        have f_l_1_w6 := x_l.frozen 1
        have c_l_2_w6 := x_l.cell (i := 2) rfl
        have f_l_2_w6 := x_l.frozen 2
        have c_l_3_w6 := x_l.cell (i := 3) rfl
        have f_l_3_w6 := x_l.frozen 3
        rw [rounds_succ]
        go_wp2_with fail
        refine (iTextNum_any _ _ (ht.below B_w6) zy3).mono ?_
        rintro e w7 ⟨rfl, h_w7⟩
        clear c_r_0_w6 f_r_0_w6 c_r_1_w6 f_r_1_w6 c_r_2_w6 f_r_2_w6 c_r_3_w6 f_r_3_w6 c_r_4_w6 f_r_4_w6 c_r_5_w6 f_r_5_w6 c_r_6_w6 f_r_6_w6 c_r_7_w6 f_r_7_w6 c_r_8_w6 f_r_8_w6 c_l_0_w6 f_l_0_w6 c_l_1_w6 f_l_1_w6 c_l_2_w6 f_l_2_w6 c_l_3_w6 f_l_3_w6
        replace x_r := x_r.from_ h_w7
        replace x_l := x_l.from_ h_w7
        have B_w7 := B_w6.trans (h_w7.mono B_w6.size)
        have s_w7 := h_w7.size
        have C_w7 := C_w6.then_below h_w7
        rw [textVal_txN, HB3.out, HN3.out]
        replace e0 := (h_w7.cell (p := ⟨g, off, none⟩) (by show g < _; omega)).trans e0
        replace e1 := (h_w7.cell (p := ⟨g, off + 1, none⟩) (by show g < _; omega)).trans e1
        replace e2 := (h_w7.cell (p := ⟨g, off + 2, none⟩) (by show g < _; omega)).trans e2
        replace e3 := (h_w7.cell (p := ⟨g, off + 3, none⟩) (by show g < _; omega)).trans e3
        replace hWS := hWS.below h_w7 (by omega)
        cases ob3 with
        | false =>
          go_wp2
          go_ret2
          exact ⟨_, _, rfl, .inr ⟨rfl, okN_bad (j := 3) (by omega) (by rw [HY3.out]; exact HB3.out), rfl, _, x_r⟩, C_w7⟩
        | true =>
          have c_r_0_w7 := x_r.cell (i := 0) rfl
          have f_r_0_w7 := x_r.frozen 0
          have c_r_1_w7 := x_r.cell (i := 1) rfl
          have f_r_1_w7 := x_r.frozen 1
          have c_r_2_w7 := x_r.cell (i := 2) rfl
          have f_r_2_w7 := x_r.frozen 2
          have c_r_3_w7 := x_r.cell (i := 3) rfl
          have f_r_3_w7 := x_r.frozen 3
          have c_r_4_w7 := x_r.cell (i := 4) rfl
          have f_r_4_w7 := x_r.frozen 4
          have c_r_5_w7 := x_r.cell (i := 5) rfl
          have f_r_5_w7 := x_r.frozen 5
          have c_r_6_w7 := x_r.cell (i := 6) rfl
          have f_r_6_w7 := x_r.frozen 6
          have c_r_7_w7 := x_r.cell (i := 7) rfl
          have f_r_7_w7 := x_r.frozen 7
          have c_r_8_w7 := x_r.cell (i := 8) rfl
          have f_r_8_w7 := x_r.frozen 8
          have c_l_0_w7 := x_l.cell (i := 0) rfl
          have f_l_0_w7 := x_l.frozen 0
          have c_l_1_w7 := x_l.cell (i := 1) rfl
          have f_l_1_w7 := x_l.frozen 1
          have c_l_2_w7 := x_l.cell (i := 2) rfl
          have f_l_2_w7 := x_l.frozen 2
          have c_l_3_w7 := x_l.cell (i := 3) rfl
          have f_l_3_w7 := x_l.frozen 3
          obtain ⟨w8, e_w8, s_w8, h_w8, y⟩ := set_step x_r 4 (.int .i64 n3)
          have s_w8_1 := Nat.le_of_eq s_w8
          have s_w8_2 := Nat.le_of_eq s_w8.symm
          clear s_w8
          replace x_l := x_l.chg h_w8 (by omega)
          have B_w8 := Below.chg_ B_w7 h_w8 (by omega) (by omega)
          have C_w8 := C_w7.then_same h_w8
          replace x_r : Vr w8 (b) T [z0, .int .i64 n0, .int .i64 n1, .int .i64 n2, .int .i64 n3, z5, z6, z7, z8] := y
          clear y
          have c_r_0_w8 := x_r.cell (i := 0) rfl
          have f_r_0_w8 := x_r.frozen 0
          have c_r_1_w8 := x_r.cell (i := 1) rfl
          have f_r_1_w8 := x_r.frozen 1
          have c_r_2_w8 := x_r.cell (i := 2) rfl
          have f_r_2_w8 := x_r.frozen 2
          have c_r_3_w8 := x_r.cell (i := 3) rfl
          have f_r_3_w8 := x_r.frozen 3
          have c_r_4_w8 := x_r.cell (i := 4) rfl
          have f_r_4_w8 := x_r.frozen 4
          have c_r_5_w8 := x_r.cell (i := 5) rfl
          have f_r_5_w8 := x_r.frozen 5
          have c_r_6_w8 := x_r.cell (i := 6) rfl
          have f_r_6_w8 := x_r.frozen 6
          have c_r_7_w8 := x_r.cell (i := 7) rfl
          have f_r_7_w8 := x_r.frozen 7
          have c_r_8_w8 := x_r.cell (i := 8) rfl
          have f_r_8_w8 := x_r.frozen 8
          have c_l_0_w8 := x_l.cell (i := 0) rfl
          have f_l_0_w8 := x_l.frozen 0
          have c_l_1_w8 := x_l.cell (i := 1) rfl
          have f_l_1_w8 := x_l.frozen 1
          have c_l_2_w8 := x_l.cell (i := 2) rfl
          have f_l_2_w8 := x_l.frozen 2
          have c_l_3_w8 := x_l.cell (i := 3) rfl
          have f_l_3_w8 := x_l.frozen 3
          replace e0 := (h_w8.cell_at (p := ⟨g, off, none⟩) (by show g < _; omega) (.inl (by show g < b; omega))).trans e0
          replace e1 := (h_w8.cell_at (p := ⟨g, off + 1, none⟩) (by show g < _; omega) (.inl (by show g < b; omega))).trans e1
          replace e2 := (h_w8.cell_at (p := ⟨g, off + 2, none⟩) (by show g < _; omega) (.inl (by show g < b; omega))).trans e2
          replace e3 := (h_w8.cell_at (p := ⟨g, off + 3, none⟩) (by show g < _; omega) (.inl (by show g < b; omega))).trans e3
          replace hWS := hWS.chg h_w8 hB0 (by omega)
          go_wp2_with fail
          rw [rounds_succ]
          go_wp2
          go_ret2
          refine ⟨_, _, rfl, .inl ⟨rfl, (okN_iff ws 4).2 ⟨hn, fun j hj => ?_⟩, ?_, ?_⟩, C_w8⟩
          · have hj2 : j = 0 ∨ j = 1 ∨ j = 2 ∨ j = 3 := by omega
            rcases hj2 with rfl | rfl | rfl | rfl
            · rw [HY0.out]; exact HB0.out
            · rw [HY1.out]; exact HB1.out
            · rw [HY2.out]; exact HB2.out
            · rw [HY3.out]; exact HB3.out
          · rw [HY0.out, HN0.out, HY1.out, HN1.out, HY2.out, HN2.out, HY3.out, HN3.out]; exact x_r
          · rw [← HX.out]; exact hWS.drop hn

set_option maxRecDepth 100000 in
set_option maxHeartbeats 4000000 in
theorem iRead_msg {W0 w : World} (ht : Tab10 W0) (hW : Below W0.heap.size W0 w) {b B B0 : Nat} {T U : TypeId} {z0 z1 z2 z3 z4 z5 z6 z7 z8 v : Value} {ws : List ByteArray} (h0 : W0.heap.size ≤ b) (hB0 : B0 ≤ b) (x_r : Vr w b T [z0, z1, z2, z3, z4, z5, z6, z7, z8]) (x_l : Vr w B U [.pointer (some ⟨b, 6, none⟩), .pointer (some ⟨b, 7, none⟩), .pointer (some ⟨b, 8, none⟩)]) (hbB : b < B) (h : WS w B0 v ws) (hz : ∀ x ∈ ws, x.size ≤ 1048576) (hm : ws.length ≤ 16777216) :
    Calls Tryd.prog 27 #[v, .slice (some ⟨B, 0, none⟩) 3 3] w fun e w' => ∃ v' ok, e = .returned (.tuple #[v', .bool ok]) ∧ ((ok = true ∧ okN ws 3 = true ∧ Vr w' b T [z0, z1, z2, z3, z4, z5, .int .i64 (txN (ws.getD 0 ByteArray.empty)), .int .i64 (txN (ws.getD 1 ByteArray.empty)), .int .i64 (txN (ws.getD 2 ByteArray.empty))] ∧ WS w' B0 v' (ws.drop 3)) ∨ (ok = false ∧ okN ws 3 = false ∧ v' = .slice none 0 0 ∧ ∃ cs, Vr w' b T cs)) ∧ Chg b (b + 1) w w' := by
  have C0 : Chg b (b + 1) w w := Chg.refl _ _ _
  have lb := x_r.lt
  have lB := x_l.lt
  obtain ⟨A, c, rfl, hc1, hc2, hr⟩ := h
  by_cases hn : 3 ≤ ws.length
  case neg =>
    have i1 : (ws.length : Int) < 3 := by omega
    go_enter Tryd.func27, Tryd.ntmps27
    go_wp2
    go_ret2
    exact ⟨_, _, rfl, .inr ⟨rfl, okN_short hn, rfl, _, x_r⟩, C0⟩
  have i1 : ¬ ((ws.length : Int) < 3) := by omega
  have hdr := run_wdrop A c 3 ws.length 3 rfl hn
  have hWS : WS w B0 (.slice A ws.length c) ws := ⟨A, c, rfl, hc1, hc2, hr⟩
  obtain ⟨g, off, hA, hg, hcell⟩ := hr (by omega)
  clear hr
  obtain ⟨y0, hy0⟩ : ∃ y, ws.getD 0 ByteArray.empty = y := ⟨_, rfl⟩
  have zy0 : y0.size ≤ 1073741824 := by rw [← hy0]; exact Nat.le_trans (getD_sz hz 0) (by omega)
  have e0 := hcell 0 (by omega)
  rw [hy0] at e0
  have HY0 := Lib.hid hy0
  have l0 : (0 : Int) < (ws.length : Int) := by omega
  obtain ⟨y1, hy1⟩ : ∃ y, ws.getD 1 ByteArray.empty = y := ⟨_, rfl⟩
  have zy1 : y1.size ≤ 1073741824 := by rw [← hy1]; exact Nat.le_trans (getD_sz hz 1) (by omega)
  have e1 := hcell 1 (by omega)
  rw [hy1] at e1
  have HY1 := Lib.hid hy1
  have l1 : (1 : Int) < (ws.length : Int) := by omega
  obtain ⟨y2, hy2⟩ : ∃ y, ws.getD 2 ByteArray.empty = y := ⟨_, rfl⟩
  have zy2 : y2.size ≤ 1073741824 := by rw [← hy2]; exact Nat.le_trans (getD_sz hz 2) (by omega)
  have e2 := hcell 2 (by omega)
  rw [hy2] at e2
  have HY2 := Lib.hid hy2
  have l2 : (2 : Int) < (ws.length : Int) := by omega
  clear hcell hy0 hy1 hy2
  have hgw : g < w.heap.size := by omega
  simp only [Nat.add_zero] at e0
  generalize hdX : (if c = 3 then A else A.map (·.add (3 * 1))) = X at hdr
  have HX := Lib.hid hdX
  clear hdX
  have HAe := Lib.hid hA
  subst hA
  have c_r_0_w := x_r.cell (i := 0) rfl
  have f_r_0_w := x_r.frozen 0
  have c_r_1_w := x_r.cell (i := 1) rfl
  have f_r_1_w := x_r.frozen 1
  have c_r_2_w := x_r.cell (i := 2) rfl
  have f_r_2_w := x_r.frozen 2
  have c_r_3_w := x_r.cell (i := 3) rfl
  have f_r_3_w := x_r.frozen 3
  have c_r_4_w := x_r.cell (i := 4) rfl
  have f_r_4_w := x_r.frozen 4
  have c_r_5_w := x_r.cell (i := 5) rfl
  have f_r_5_w := x_r.frozen 5
  have c_r_6_w := x_r.cell (i := 6) rfl
  have f_r_6_w := x_r.frozen 6
  have c_r_7_w := x_r.cell (i := 7) rfl
  have f_r_7_w := x_r.frozen 7
  have c_r_8_w := x_r.cell (i := 8) rfl
  have f_r_8_w := x_r.frozen 8
  have c_l_0_w := x_l.cell (i := 0) rfl
  have f_l_0_w := x_l.frozen 0
  have c_l_1_w := x_l.cell (i := 1) rfl
  have f_l_1_w := x_l.frozen 1
  have c_l_2_w := x_l.cell (i := 2) rfl
  have f_l_2_w := x_l.frozen 2
  go_enter Tryd.func27, Tryd.ntmps27
  go_wp2_with fail
  refine wp_loop_rounds 4 ?_
  obtain ⟨ob0, hb0⟩ : ∃ b, (textNum y0).isSome = b := ⟨_, rfl⟩
  have HB0 := Lib.hid hb0
  clear hb0
  obtain ⟨n0, hn0⟩ : ∃ z, txN y0 = z := ⟨_, rfl⟩
  have HN0 := Lib.hid hn0
  clear hn0
  clear c_r_0_w f_r_0_w c_r_1_w f_r_1_w c_r_2_w f_r_2_w c_r_3_w f_r_3_w c_r_4_w f_r_4_w c_r_5_w f_r_5_w c_r_6_w f_r_6_w c_r_7_w f_r_7_w c_r_8_w f_r_8_w c_l_0_w f_l_0_w c_l_1_w f_l_1_w c_l_2_w f_l_2_w
  have c_r_0_w := x_r.cell (i := 0) rfl
  have f_r_0_w := x_r.frozen 0
  have c_r_1_w := x_r.cell (i := 1) rfl
  have f_r_1_w := x_r.frozen 1
  have c_r_2_w := x_r.cell (i := 2) rfl
  have f_r_2_w := x_r.frozen 2
  have c_r_3_w := x_r.cell (i := 3) rfl
  have f_r_3_w := x_r.frozen 3
  have c_r_4_w := x_r.cell (i := 4) rfl
  have f_r_4_w := x_r.frozen 4
  have c_r_5_w := x_r.cell (i := 5) rfl
  have f_r_5_w := x_r.frozen 5
  have c_r_6_w := x_r.cell (i := 6) rfl
  have f_r_6_w := x_r.frozen 6
  have c_r_7_w := x_r.cell (i := 7) rfl
  have f_r_7_w := x_r.frozen 7
  have c_r_8_w := x_r.cell (i := 8) rfl
  have f_r_8_w := x_r.frozen 8
  have c_l_0_w := x_l.cell (i := 0) rfl
  have f_l_0_w := x_l.frozen 0
  have c_l_1_w := x_l.cell (i := 1) rfl
  have f_l_1_w := x_l.frozen 1
  have c_l_2_w := x_l.cell (i := 2) rfl
  have f_l_2_w := x_l.frozen 2
  rw [rounds_succ]
  go_wp2_with fail
  refine (iTextNum_any _ _ (ht.below hW) zy0).mono ?_
  rintro e w1 ⟨rfl, h_w1⟩
  clear c_r_0_w f_r_0_w c_r_1_w f_r_1_w c_r_2_w f_r_2_w c_r_3_w f_r_3_w c_r_4_w f_r_4_w c_r_5_w f_r_5_w c_r_6_w f_r_6_w c_r_7_w f_r_7_w c_r_8_w f_r_8_w c_l_0_w f_l_0_w c_l_1_w f_l_1_w c_l_2_w f_l_2_w
  replace x_r := x_r.from_ h_w1
  replace x_l := x_l.from_ h_w1
  have B_w1 := hW.trans (h_w1.mono hW.size)
  have s_w1 := h_w1.size
  have C_w1 := C0.then_below h_w1
  rw [textVal_txN, HB0.out, HN0.out]
  replace e0 := (h_w1.cell (p := ⟨g, off, none⟩) (by show g < _; omega)).trans e0
  replace e1 := (h_w1.cell (p := ⟨g, off + 1, none⟩) (by show g < _; omega)).trans e1
  replace e2 := (h_w1.cell (p := ⟨g, off + 2, none⟩) (by show g < _; omega)).trans e2
  replace hWS := hWS.below h_w1 (by omega)
  cases ob0 with
  | false =>
    go_wp2
    go_ret2
    exact ⟨_, _, rfl, .inr ⟨rfl, okN_bad (j := 0) (by omega) (by rw [HY0.out]; exact HB0.out), rfl, _, x_r⟩, C_w1⟩
  | true =>
    have c_r_0_w1 := x_r.cell (i := 0) rfl
    have f_r_0_w1 := x_r.frozen 0
    have c_r_1_w1 := x_r.cell (i := 1) rfl
    have f_r_1_w1 := x_r.frozen 1
    have c_r_2_w1 := x_r.cell (i := 2) rfl
    have f_r_2_w1 := x_r.frozen 2
    have c_r_3_w1 := x_r.cell (i := 3) rfl
    have f_r_3_w1 := x_r.frozen 3
    have c_r_4_w1 := x_r.cell (i := 4) rfl
    have f_r_4_w1 := x_r.frozen 4
    have c_r_5_w1 := x_r.cell (i := 5) rfl
    have f_r_5_w1 := x_r.frozen 5
    have c_r_6_w1 := x_r.cell (i := 6) rfl
    have f_r_6_w1 := x_r.frozen 6
    have c_r_7_w1 := x_r.cell (i := 7) rfl
    have f_r_7_w1 := x_r.frozen 7
    have c_r_8_w1 := x_r.cell (i := 8) rfl
    have f_r_8_w1 := x_r.frozen 8
    have c_l_0_w1 := x_l.cell (i := 0) rfl
    have f_l_0_w1 := x_l.frozen 0
    have c_l_1_w1 := x_l.cell (i := 1) rfl
    have f_l_1_w1 := x_l.frozen 1
    have c_l_2_w1 := x_l.cell (i := 2) rfl
    have f_l_2_w1 := x_l.frozen 2
    obtain ⟨w2, e_w2, s_w2, h_w2, y⟩ := set_step x_r 6 (.int .i64 n0)
    have s_w2_1 := Nat.le_of_eq s_w2
    have s_w2_2 := Nat.le_of_eq s_w2.symm
    clear s_w2
    replace x_l := x_l.chg h_w2 (by omega)
    have B_w2 := Below.chg_ B_w1 h_w2 (by omega) (by omega)
    have C_w2 := C_w1.then_same h_w2
    replace x_r : Vr w2 (b) T [z0, z1, z2, z3, z4, z5, .int .i64 n0, z7, z8] := y
    clear y
    have c_r_0_w2 := x_r.cell (i := 0) rfl
    have f_r_0_w2 := x_r.frozen 0
    have c_r_1_w2 := x_r.cell (i := 1) rfl
    have f_r_1_w2 := x_r.frozen 1
    have c_r_2_w2 := x_r.cell (i := 2) rfl
    have f_r_2_w2 := x_r.frozen 2
    have c_r_3_w2 := x_r.cell (i := 3) rfl
    have f_r_3_w2 := x_r.frozen 3
    have c_r_4_w2 := x_r.cell (i := 4) rfl
    have f_r_4_w2 := x_r.frozen 4
    have c_r_5_w2 := x_r.cell (i := 5) rfl
    have f_r_5_w2 := x_r.frozen 5
    have c_r_6_w2 := x_r.cell (i := 6) rfl
    have f_r_6_w2 := x_r.frozen 6
    have c_r_7_w2 := x_r.cell (i := 7) rfl
    have f_r_7_w2 := x_r.frozen 7
    have c_r_8_w2 := x_r.cell (i := 8) rfl
    have f_r_8_w2 := x_r.frozen 8
    have c_l_0_w2 := x_l.cell (i := 0) rfl
    have f_l_0_w2 := x_l.frozen 0
    have c_l_1_w2 := x_l.cell (i := 1) rfl
    have f_l_1_w2 := x_l.frozen 1
    have c_l_2_w2 := x_l.cell (i := 2) rfl
    have f_l_2_w2 := x_l.frozen 2
    replace e0 := (h_w2.cell_at (p := ⟨g, off, none⟩) (by show g < _; omega) (.inl (by show g < b; omega))).trans e0
    replace e1 := (h_w2.cell_at (p := ⟨g, off + 1, none⟩) (by show g < _; omega) (.inl (by show g < b; omega))).trans e1
    replace e2 := (h_w2.cell_at (p := ⟨g, off + 2, none⟩) (by show g < _; omega) (.inl (by show g < b; omega))).trans e2
    replace hWS := hWS.chg h_w2 hB0 (by omega)
    go_wp2_with fail
    obtain ⟨ob1, hb1⟩ : ∃ b, (textNum y1).isSome = b := ⟨_, rfl⟩
    have HB1 := Lib.hid hb1
    clear hb1
    obtain ⟨n1, hn1⟩ : ∃ z, txN y1 = z := ⟨_, rfl⟩
    have HN1 := Lib.hid hn1
    clear hn1
    clear c_r_0_w1 f_r_0_w1 c_r_1_w1 f_r_1_w1 c_r_2_w1 f_r_2_w1 c_r_3_w1 f_r_3_w1 c_r_4_w1 f_r_4_w1 c_r_5_w1 f_r_5_w1 c_r_6_w1 f_r_6_w1 c_r_7_w1 f_r_7_w1 c_r_8_w1 f_r_8_w1 c_l_0_w1 f_l_0_w1 c_l_1_w1 f_l_1_w1 c_l_2_w1 f_l_2_w1 c_r_0_w2 f_r_0_w2 c_r_1_w2 f_r_1_w2 c_r_2_w2 f_r_2_w2 c_r_3_w2 f_r_3_w2 c_r_4_w2 f_r_4_w2 c_r_5_w2 f_r_5_w2 c_r_6_w2 f_r_6_w2 c_r_7_w2 f_r_7_w2 c_r_8_w2 f_r_8_w2 c_l_0_w2 f_l_0_w2 c_l_1_w2 f_l_1_w2 c_l_2_w2 f_l_2_w2
    have c_r_0_w2 := x_r.cell (i := 0) rfl
    have f_r_0_w2 := x_r.frozen 0
    have c_r_1_w2 := x_r.cell (i := 1) rfl
    have f_r_1_w2 := x_r.frozen 1
    have c_r_2_w2 := x_r.cell (i := 2) rfl
    have f_r_2_w2 := x_r.frozen 2
    have c_r_3_w2 := x_r.cell (i := 3) rfl
    have f_r_3_w2 := x_r.frozen 3
    have c_r_4_w2 := x_r.cell (i := 4) rfl
    have f_r_4_w2 := x_r.frozen 4
    have c_r_5_w2 := x_r.cell (i := 5) rfl
    have f_r_5_w2 := x_r.frozen 5
    have c_r_6_w2 := x_r.cell (i := 6) rfl
    have f_r_6_w2 := x_r.frozen 6
    have c_r_7_w2 := x_r.cell (i := 7) rfl
    have f_r_7_w2 := x_r.frozen 7
    have c_r_8_w2 := x_r.cell (i := 8) rfl
    have f_r_8_w2 := x_r.frozen 8
    have c_l_0_w2 := x_l.cell (i := 0) rfl
    have f_l_0_w2 := x_l.frozen 0
    have c_l_1_w2 := x_l.cell (i := 1) rfl
    have f_l_1_w2 := x_l.frozen 1
    have c_l_2_w2 := x_l.cell (i := 2) rfl
    have f_l_2_w2 := x_l.frozen 2
    rw [rounds_succ]
    go_wp2_with fail
    refine (iTextNum_any _ _ (ht.below B_w2) zy1).mono ?_
    rintro e w3 ⟨rfl, h_w3⟩
    clear c_r_0_w2 f_r_0_w2 c_r_1_w2 f_r_1_w2 c_r_2_w2 f_r_2_w2 c_r_3_w2 f_r_3_w2 c_r_4_w2 f_r_4_w2 c_r_5_w2 f_r_5_w2 c_r_6_w2 f_r_6_w2 c_r_7_w2 f_r_7_w2 c_r_8_w2 f_r_8_w2 c_l_0_w2 f_l_0_w2 c_l_1_w2 f_l_1_w2 c_l_2_w2 f_l_2_w2
    replace x_r := x_r.from_ h_w3
    replace x_l := x_l.from_ h_w3
    have B_w3 := B_w2.trans (h_w3.mono B_w2.size)
    have s_w3 := h_w3.size
    have C_w3 := C_w2.then_below h_w3
    rw [textVal_txN, HB1.out, HN1.out]
    replace e0 := (h_w3.cell (p := ⟨g, off, none⟩) (by show g < _; omega)).trans e0
    replace e1 := (h_w3.cell (p := ⟨g, off + 1, none⟩) (by show g < _; omega)).trans e1
    replace e2 := (h_w3.cell (p := ⟨g, off + 2, none⟩) (by show g < _; omega)).trans e2
    replace hWS := hWS.below h_w3 (by omega)
    cases ob1 with
    | false =>
      go_wp2
      go_ret2
      exact ⟨_, _, rfl, .inr ⟨rfl, okN_bad (j := 1) (by omega) (by rw [HY1.out]; exact HB1.out), rfl, _, x_r⟩, C_w3⟩
    | true =>
      have c_r_0_w3 := x_r.cell (i := 0) rfl
      have f_r_0_w3 := x_r.frozen 0
      have c_r_1_w3 := x_r.cell (i := 1) rfl
      have f_r_1_w3 := x_r.frozen 1
      have c_r_2_w3 := x_r.cell (i := 2) rfl
      have f_r_2_w3 := x_r.frozen 2
      have c_r_3_w3 := x_r.cell (i := 3) rfl
      have f_r_3_w3 := x_r.frozen 3
      have c_r_4_w3 := x_r.cell (i := 4) rfl
      have f_r_4_w3 := x_r.frozen 4
      have c_r_5_w3 := x_r.cell (i := 5) rfl
      have f_r_5_w3 := x_r.frozen 5
      have c_r_6_w3 := x_r.cell (i := 6) rfl
      have f_r_6_w3 := x_r.frozen 6
      have c_r_7_w3 := x_r.cell (i := 7) rfl
      have f_r_7_w3 := x_r.frozen 7
      have c_r_8_w3 := x_r.cell (i := 8) rfl
      have f_r_8_w3 := x_r.frozen 8
      have c_l_0_w3 := x_l.cell (i := 0) rfl
      have f_l_0_w3 := x_l.frozen 0
      have c_l_1_w3 := x_l.cell (i := 1) rfl
      have f_l_1_w3 := x_l.frozen 1
      have c_l_2_w3 := x_l.cell (i := 2) rfl
      have f_l_2_w3 := x_l.frozen 2
      obtain ⟨w4, e_w4, s_w4, h_w4, y⟩ := set_step x_r 7 (.int .i64 n1)
      have s_w4_1 := Nat.le_of_eq s_w4
      have s_w4_2 := Nat.le_of_eq s_w4.symm
      clear s_w4
      replace x_l := x_l.chg h_w4 (by omega)
      have B_w4 := Below.chg_ B_w3 h_w4 (by omega) (by omega)
      have C_w4 := C_w3.then_same h_w4
      replace x_r : Vr w4 (b) T [z0, z1, z2, z3, z4, z5, .int .i64 n0, .int .i64 n1, z8] := y
      clear y
      have c_r_0_w4 := x_r.cell (i := 0) rfl
      have f_r_0_w4 := x_r.frozen 0
      have c_r_1_w4 := x_r.cell (i := 1) rfl
      have f_r_1_w4 := x_r.frozen 1
      have c_r_2_w4 := x_r.cell (i := 2) rfl
      have f_r_2_w4 := x_r.frozen 2
      have c_r_3_w4 := x_r.cell (i := 3) rfl
      have f_r_3_w4 := x_r.frozen 3
      have c_r_4_w4 := x_r.cell (i := 4) rfl
      have f_r_4_w4 := x_r.frozen 4
      have c_r_5_w4 := x_r.cell (i := 5) rfl
      have f_r_5_w4 := x_r.frozen 5
      have c_r_6_w4 := x_r.cell (i := 6) rfl
      have f_r_6_w4 := x_r.frozen 6
      have c_r_7_w4 := x_r.cell (i := 7) rfl
      have f_r_7_w4 := x_r.frozen 7
      have c_r_8_w4 := x_r.cell (i := 8) rfl
      have f_r_8_w4 := x_r.frozen 8
      have c_l_0_w4 := x_l.cell (i := 0) rfl
      have f_l_0_w4 := x_l.frozen 0
      have c_l_1_w4 := x_l.cell (i := 1) rfl
      have f_l_1_w4 := x_l.frozen 1
      have c_l_2_w4 := x_l.cell (i := 2) rfl
      have f_l_2_w4 := x_l.frozen 2
      replace e0 := (h_w4.cell_at (p := ⟨g, off, none⟩) (by show g < _; omega) (.inl (by show g < b; omega))).trans e0
      replace e1 := (h_w4.cell_at (p := ⟨g, off + 1, none⟩) (by show g < _; omega) (.inl (by show g < b; omega))).trans e1
      replace e2 := (h_w4.cell_at (p := ⟨g, off + 2, none⟩) (by show g < _; omega) (.inl (by show g < b; omega))).trans e2
      replace hWS := hWS.chg h_w4 hB0 (by omega)
      go_wp2_with fail
      obtain ⟨ob2, hb2⟩ : ∃ b, (textNum y2).isSome = b := ⟨_, rfl⟩
      have HB2 := Lib.hid hb2
      clear hb2
      obtain ⟨n2, hn2⟩ : ∃ z, txN y2 = z := ⟨_, rfl⟩
      have HN2 := Lib.hid hn2
      clear hn2
      clear c_r_0_w3 f_r_0_w3 c_r_1_w3 f_r_1_w3 c_r_2_w3 f_r_2_w3 c_r_3_w3 f_r_3_w3 c_r_4_w3 f_r_4_w3 c_r_5_w3 f_r_5_w3 c_r_6_w3 f_r_6_w3 c_r_7_w3 f_r_7_w3 c_r_8_w3 f_r_8_w3 c_l_0_w3 f_l_0_w3 c_l_1_w3 f_l_1_w3 c_l_2_w3 f_l_2_w3 c_r_0_w4 f_r_0_w4 c_r_1_w4 f_r_1_w4 c_r_2_w4 f_r_2_w4 c_r_3_w4 f_r_3_w4 c_r_4_w4 f_r_4_w4 c_r_5_w4 f_r_5_w4 c_r_6_w4 f_r_6_w4 c_r_7_w4 f_r_7_w4 c_r_8_w4 f_r_8_w4 c_l_0_w4 f_l_0_w4 c_l_1_w4 f_l_1_w4 c_l_2_w4 f_l_2_w4
      have c_r_0_w4 := x_r.cell (i := 0) rfl
      have f_r_0_w4 := x_r.frozen 0
      have c_r_1_w4 := x_r.cell (i := 1) rfl
      have f_r_1_w4 := x_r.frozen 1
      have c_r_2_w4 := x_r.cell (i := 2) rfl
      have f_r_2_w4 := x_r.frozen 2
      have c_r_3_w4 := x_r.cell (i := 3) rfl
      have f_r_3_w4 := x_r.frozen 3
      have c_r_4_w4 := x_r.cell (i := 4) rfl
      have f_r_4_w4 := x_r.frozen 4
      have c_r_5_w4 := x_r.cell (i := 5) rfl
      have f_r_5_w4 := x_r.frozen 5
      have c_r_6_w4 := x_r.cell (i := 6) rfl
      have f_r_6_w4 := x_r.frozen 6
      have c_r_7_w4 := x_r.cell (i := 7) rfl
      have f_r_7_w4 := x_r.frozen 7
      have c_r_8_w4 := x_r.cell (i := 8) rfl
      have f_r_8_w4 := x_r.frozen 8
      have c_l_0_w4 := x_l.cell (i := 0) rfl
      have f_l_0_w4 := x_l.frozen 0
      have c_l_1_w4 := x_l.cell (i := 1) rfl
      have f_l_1_w4 := x_l.frozen 1
      have c_l_2_w4 := x_l.cell (i := 2) rfl
      have f_l_2_w4 := x_l.frozen 2
      rw [rounds_succ]
      go_wp2_with fail
      refine (iTextNum_any _ _ (ht.below B_w4) zy2).mono ?_
      rintro e w5 ⟨rfl, h_w5⟩
      clear c_r_0_w4 f_r_0_w4 c_r_1_w4 f_r_1_w4 c_r_2_w4 f_r_2_w4 c_r_3_w4 f_r_3_w4 c_r_4_w4 f_r_4_w4 c_r_5_w4 f_r_5_w4 c_r_6_w4 f_r_6_w4 c_r_7_w4 f_r_7_w4 c_r_8_w4 f_r_8_w4 c_l_0_w4 f_l_0_w4 c_l_1_w4 f_l_1_w4 c_l_2_w4 f_l_2_w4
      replace x_r := x_r.from_ h_w5
      replace x_l := x_l.from_ h_w5
      have B_w5 := B_w4.trans (h_w5.mono B_w4.size)
      have s_w5 := h_w5.size
      have C_w5 := C_w4.then_below h_w5
      rw [textVal_txN, HB2.out, HN2.out]
      replace e0 := (h_w5.cell (p := ⟨g, off, none⟩) (by show g < _; omega)).trans e0
      replace e1 := (h_w5.cell (p := ⟨g, off + 1, none⟩) (by show g < _; omega)).trans e1
      replace e2 := (h_w5.cell (p := ⟨g, off + 2, none⟩) (by show g < _; omega)).trans e2
      replace hWS := hWS.below h_w5 (by omega)
      cases ob2 with
      | false =>
        go_wp2
        go_ret2
        exact ⟨_, _, rfl, .inr ⟨rfl, okN_bad (j := 2) (by omega) (by rw [HY2.out]; exact HB2.out), rfl, _, x_r⟩, C_w5⟩
      | true =>
        have c_r_0_w5 := x_r.cell (i := 0) rfl
        have f_r_0_w5 := x_r.frozen 0
        have c_r_1_w5 := x_r.cell (i := 1) rfl
        have f_r_1_w5 := x_r.frozen 1
        have c_r_2_w5 := x_r.cell (i := 2) rfl
        have f_r_2_w5 := x_r.frozen 2
        have c_r_3_w5 := x_r.cell (i := 3) rfl
        have f_r_3_w5 := x_r.frozen 3
        have c_r_4_w5 := x_r.cell (i := 4) rfl
        have f_r_4_w5 := x_r.frozen 4
        have c_r_5_w5 := x_r.cell (i := 5) rfl
        have f_r_5_w5 := x_r.frozen 5
        have c_r_6_w5 := x_r.cell (i := 6) rfl
        have f_r_6_w5 := x_r.frozen 6
        have c_r_7_w5 := x_r.cell (i := 7) rfl
        have f_r_7_w5 := x_r.frozen 7
        have c_r_8_w5 := x_r.cell (i := 8) rfl
        have f_r_8_w5 := x_r.frozen 8
        have c_l_0_w5 := x_l.cell (i := 0) rfl
        have f_l_0_w5 := x_l.frozen 0
        have c_l_1_w5 := x_l.cell (i := 1) rfl
        have f_l_1_w5 := x_l.frozen 1
        have c_l_2_w5 := x_l.cell (i := 2) rfl
        have f_l_2_w5 := x_l.frozen 2
        obtain ⟨w6, e_w6, s_w6, h_w6, y⟩ := set_step x_r 8 (.int .i64 n2)
        have s_w6_1 := Nat.le_of_eq s_w6
        have s_w6_2 := Nat.le_of_eq s_w6.symm
        clear s_w6
        replace x_l := x_l.chg h_w6 (by omega)
        have B_w6 := Below.chg_ B_w5 h_w6 (by omega) (by omega)
        have C_w6 := C_w5.then_same h_w6
        replace x_r : Vr w6 (b) T [z0, z1, z2, z3, z4, z5, .int .i64 n0, .int .i64 n1, .int .i64 n2] := y
        clear y
        have c_r_0_w6 := x_r.cell (i := 0) rfl
        have f_r_0_w6 := x_r.frozen 0
        have c_r_1_w6 := x_r.cell (i := 1) rfl
        have f_r_1_w6 := x_r.frozen 1
        have c_r_2_w6 := x_r.cell (i := 2) rfl
        have f_r_2_w6 := x_r.frozen 2
        have c_r_3_w6 := x_r.cell (i := 3) rfl
        have f_r_3_w6 := x_r.frozen 3
        have c_r_4_w6 := x_r.cell (i := 4) rfl
        have f_r_4_w6 := x_r.frozen 4
        have c_r_5_w6 := x_r.cell (i := 5) rfl
        have f_r_5_w6 := x_r.frozen 5
        have c_r_6_w6 := x_r.cell (i := 6) rfl
        have f_r_6_w6 := x_r.frozen 6
        have c_r_7_w6 := x_r.cell (i := 7) rfl
        have f_r_7_w6 := x_r.frozen 7
        have c_r_8_w6 := x_r.cell (i := 8) rfl
        have f_r_8_w6 := x_r.frozen 8
        have c_l_0_w6 := x_l.cell (i := 0) rfl
        have f_l_0_w6 := x_l.frozen 0
        have c_l_1_w6 := x_l.cell (i := 1) rfl
        have f_l_1_w6 := x_l.frozen 1
        have c_l_2_w6 := x_l.cell (i := 2) rfl
        have f_l_2_w6 := x_l.frozen 2
        replace e0 := (h_w6.cell_at (p := ⟨g, off, none⟩) (by show g < _; omega) (.inl (by show g < b; omega))).trans e0
        replace e1 := (h_w6.cell_at (p := ⟨g, off + 1, none⟩) (by show g < _; omega) (.inl (by show g < b; omega))).trans e1
        replace e2 := (h_w6.cell_at (p := ⟨g, off + 2, none⟩) (by show g < _; omega) (.inl (by show g < b; omega))).trans e2
        replace hWS := hWS.chg h_w6 hB0 (by omega)
        go_wp2_with fail
        rw [rounds_succ]
        go_wp2
        go_ret2
        refine ⟨_, _, rfl, .inl ⟨rfl, (okN_iff ws 3).2 ⟨hn, fun j hj => ?_⟩, ?_, ?_⟩, C_w6⟩
        · have hj2 : j = 0 ∨ j = 1 ∨ j = 2 := by omega
          rcases hj2 with rfl | rfl | rfl
          · rw [HY0.out]; exact HB0.out
          · rw [HY1.out]; exact HB1.out
          · rw [HY2.out]; exact HB2.out
        · rw [HY0.out, HN0.out, HY1.out, HN1.out, HY2.out, HN2.out]; exact x_r
        · rw [← HX.out]; exact hWS.drop hn

end Go.Proofs.YtkbhbccpmmhelaaDoor
