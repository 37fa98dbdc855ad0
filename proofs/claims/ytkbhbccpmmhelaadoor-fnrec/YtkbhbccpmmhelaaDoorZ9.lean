/- Texts joined: Rc10, MsgI1, MsgI, WRecL, BunO. -/
import Derived.Test.YtkbhbccpmmhelaaDoorZ8
import Derived.ChangeSlices
import Derived.Lib.SmallJoins
namespace Go.Proofs.YtkbhbccpmmhelaaDoor
open Go.RowKit
set_option linter.unusedVariables false
set_option linter.unusedSimpArgs false
theorem recDrawn_ok {k a o t m : Int} {M : MMsg} (hk : 1 ≤ k ∧ k ≤ 9) (ha : 0 ≤ a ∧ a < 3) (ho : 0 ≤ o ∧ o < 3) (ht : 0 ≤ t ∧ t < 4) (hm : k ≠ 9 → 1 ≤ m ∧ m ≤ 60) (hm9 : k = 9 → m = 0) (za : k = 5 ∨ k = 6 → a = 0) (zo : k ≠ 4 → o = 0) (zt : k = 1 ∨ k = 2 ∨ k = 7 → t = 0) (h5 : k = 5 → msgOkB M = true) (h6 : k ≠ 5 → M = ⟨0, 0, 0, 0⟩) : recOkB ⟨k, a, o, t, m, M⟩ = true := by
  have A1 : inB a 0 2 = true := inB_true.2 (by omega)
  have O1 : inB o 0 2 = true := inB_true.2 (by omega)
  have T1 : inB t 0 3 = true := inB_true.2 (by omega)
  have K1 : inB k 1 9 = true := inB_true.2 hk
  have M1 : recAmtB k m = true := by
    unfold recAmtB
    split
    · exact inB_true.2 (by omega)
    · have n1 : numB m = true := numB_true.2 (by omega)
      rw [n1]
      by_cases h9 : k = 9
      · subst h9; rfl
      · have := hm h9
        have e : (m != 0) = true := by simp; omega
        rw [e]; simp
  have M2 : recMsgB ⟨k, a, o, t, m, M⟩ = true := by
    unfold recMsgB
    by_cases e : k = 5
    · rw [if_pos e]; exact h5 e
    · rw [if_neg e]; exact decide_eq_true (h6 e)
  have Z1 : (kAcct k || a == 0) = true := by
    by_cases e : k = 5 ∨ k = 6
    · rw [za e]; simp
    · have : kAcct k = true := by simp [kAcct]; omega
      rw [this]; rfl
  have Z2 : (kOther k || o == 0) = true := by
    by_cases e : k = 4
    · subst e; rfl
    · rw [zo e]; simp
  have Z3 : (kTo k || t == 0) = true := by
    by_cases e : k = 1 ∨ k = 2 ∨ k = 7
    · rw [zt e]; simp
    · have : kTo k = true := by simp [kTo]; omega
      rw [this]; rfl
  have Z4 : (kAmt k || m == 0) = true := by
    by_cases e : k = 9
    · rw [hm9 e]; simp
    · have : kAmt k = true := by simp [kAmt]; omega
      rw [this]; rfl
  unfold recOkB
  simp only [K1, A1, O1, T1, M1, M2, Z1, Z2, Z3, Z4, Bool.and_self]
set_option maxRecDepth 100000 in
set_option maxHeartbeats 8000000 in
theorem cRec_c {w : World} {g : Nat} {A : Option Addr} {c : Nat} {zs : List Int} (hk : CurOk w g A c zs) (hb : Bytes zs) (hm : zs.length ≤ 1073741824) :
    Calls Tryd.prog 22 #[.pointer (some ⟨g, 0, none⟩)] w fun e w' => ∃ r : MRec, e = .returned (.agg #[.int .i64 r.Kind, .int .i64 r.Acct, .int .i64 r.Other, .int .i64 r.To, .int .i64 r.Amt, .int .i64 r.M.Kind, .int .i64 r.M.Acct, .int .i64 r.M.Amt, .int .i64 r.M.Src]) ∧ recOkB r = true ∧ (r.Amt ≤ 60 ∧ r.M.Amt ≤ 90) ∧ CurOk w' g A c zs ∧ Chg g (g + 1) w w' := by
  have hgl := hk.lt
  have hgle := Nat.le_of_lt hgl
  obtain ⟨wa, hwa, B0, sa, x_r⟩ := frame1 w 26 [.int .i64 0, .int .i64 0, .int .i64 0, .int .i64 0, .int .i64 0, .int .i64 0, .int .i64 0, .int .i64 0, .int .i64 0]
  have sa_1 := Nat.le_of_eq sa
  have sa_2 := Nat.le_of_eq sa.symm
  clear sa
  have Bg := B0.mono hgle
  have C0 := (Chg.refl g (g + 1) w).then_below B0
  replace hk := hk.below B0
  have c_r_0_wa := x_r.cell (i := 0) rfl
  have f_r_0_wa := x_r.frozen 0
  have c_r_1_wa := x_r.cell (i := 1) rfl
  have f_r_1_wa := x_r.frozen 1
  have c_r_2_wa := x_r.cell (i := 2) rfl
  have f_r_2_wa := x_r.frozen 2
  have c_r_3_wa := x_r.cell (i := 3) rfl
  have f_r_3_wa := x_r.frozen 3
  have c_r_4_wa := x_r.cell (i := 4) rfl
  have f_r_4_wa := x_r.frozen 4
  have c_r_5_wa := x_r.cell (i := 5) rfl
  have f_r_5_wa := x_r.frozen 5
  have c_r_6_wa := x_r.cell (i := 6) rfl
  have f_r_6_wa := x_r.frozen 6
  have c_r_7_wa := x_r.cell (i := 7) rfl
  have f_r_7_wa := x_r.frozen 7
  have c_r_8_wa := x_r.cell (i := 8) rfl
  have f_r_8_wa := x_r.frozen 8
  go_enter Tryd.func22, Tryd.ntmps22
  go_wp2_with fail
  refine (cBelow_c (n := 9) hk hb hm (by omega) (by omega)).mono ?_
  rintro e w1 ⟨k, rfl, bk, y, h_w1⟩
  clear c_r_0_wa f_r_0_wa c_r_1_wa f_r_1_wa c_r_2_wa f_r_2_wa c_r_3_wa f_r_3_wa c_r_4_wa f_r_4_wa c_r_5_wa f_r_5_wa c_r_6_wa f_r_6_wa c_r_7_wa f_r_7_wa c_r_8_wa f_r_8_wa
  replace x_r := x_r.chg h_w1 (by omega)
  have B_w1 := Below.chg_ Bg h_w1 (by omega) (by omega)
  have C_w1 := C0.then_same h_w1
  have s_w1 := h_w1.size
  replace hk := y
  clear y
  go_wp2_with fail
  refine (cBelow_c (n := 3) hk hb hm (by omega) (by omega)).mono ?_
  rintro e w2 ⟨a, rfl, ba, y, h_w2⟩
  replace x_r := x_r.chg h_w2 (by omega)
  have B_w2 := Below.chg_ B_w1 h_w2 (by omega) (by omega)
  have C_w2 := C_w1.then_same h_w2
  have s_w2 := h_w2.size
  replace hk := y
  clear y
  go_wp2_with fail
  refine (cBelow_c (n := 3) hk hb hm (by omega) (by omega)).mono ?_
  rintro e w3 ⟨o, rfl, bo, y, h_w3⟩
  replace x_r := x_r.chg h_w3 (by omega)
  have B_w3 := Below.chg_ B_w2 h_w3 (by omega) (by omega)
  have C_w3 := C_w2.then_same h_w3
  have s_w3 := h_w3.size
  replace hk := y
  clear y
  go_wp2_with fail
  refine (cBelow_c (n := 4) hk hb hm (by omega) (by omega)).mono ?_
  rintro e w4 ⟨t, rfl, bt, y, h_w4⟩
  replace x_r := x_r.chg h_w4 (by omega)
  have B_w4 := Below.chg_ B_w3 h_w4 (by omega) (by omega)
  have C_w4 := C_w3.then_same h_w4
  have s_w4 := h_w4.size
  replace hk := y
  clear y
  go_wp2_with fail
  refine (cBelow_c (n := 60) hk hb hm (by omega) (by omega)).mono ?_
  rintro e w5 ⟨m, rfl, bm, y, h_w5⟩
  replace x_r := x_r.chg h_w5 (by omega)
  have B_w5 := Below.chg_ B_w4 h_w5 (by omega) (by omega)
  have C_w5 := C_w4.then_same h_w5
  have s_w5 := h_w5.size
  replace hk := y
  clear y
  have c_r_0_w5 := x_r.cell (i := 0) rfl
  have f_r_0_w5 := x_r.frozen 0
  have c_r_1_w5 := x_r.cell (i := 1) rfl
  have f_r_1_w5 := x_r.frozen 1
  have c_r_2_w5 := x_r.cell (i := 2) rfl
  have f_r_2_w5 := x_r.frozen 2
  have c_r_3_w5 := x_r.cell (i := 3) rfl
  have f_r_3_w5 := x_r.frozen 3
  have c_r_4_w5 := x_r.cell (i := 4) rfl
  have f_r_4_w5 := x_r.frozen 4
  have c_r_5_w5 := x_r.cell (i := 5) rfl
  have f_r_5_w5 := x_r.frozen 5
  have c_r_6_w5 := x_r.cell (i := 6) rfl
  have f_r_6_w5 := x_r.frozen 6
  have c_r_7_w5 := x_r.cell (i := 7) rfl
  have f_r_7_w5 := x_r.frozen 7
  have c_r_8_w5 := x_r.cell (i := 8) rfl
  have f_r_8_w5 := x_r.frozen 8
  have h9 : k = 0 ∨ k = 1 ∨ k = 2 ∨ k = 3 ∨ k = 4 ∨ k = 5 ∨ k = 6 ∨ k = 7 ∨ k = 8 := by omega
  clear bk
  rcases h9 with rfl | rfl | rfl | rfl | rfl | rfl | rfl | rfl | rfl
  · -- 1
    obtain ⟨w6, e_w6, s_w6, h_w6, x_v⟩ := alloc_step w5 26 [.int .i64 1, .int .i64 a, .int .i64 o, .int .i64 t, .int .i64 (1 + m), .int .i64 0, .int .i64 0, .int .i64 0, .int .i64 0]
    have s_w6_1 := Nat.le_of_eq s_w6
    have s_w6_2 := Nat.le_of_eq s_w6.symm
    clear s_w6
    replace x_r := x_r.from_ h_w6
    replace hk := hk.below h_w6
    have B_w6 := B_w5.trans (h_w6.mono (Nat.le_trans hgle B_w5.size))
    have C_w6 := C_w5.then_below h_w6
    have i_w6_8 := x_v.same (i := 8) rfl
    have i_w6_7 := x_v.same (i := 7) rfl
    have i_w6_6 := x_v.same (i := 6) rfl
    have i_w6_5 := x_v.same (i := 5) rfl
    have c_r_0_w6 := x_r.cell (i := 0) rfl
    have f_r_0_w6 := x_r.frozen 0
    have c_r_1_w6 := x_r.cell (i := 1) rfl
    have f_r_1_w6 := x_r.frozen 1
    have c_r_2_w6 := x_r.cell (i := 2) rfl
    have f_r_2_w6 := x_r.frozen 2
    have c_r_3_w6 := x_r.cell (i := 3) rfl
    have f_r_3_w6 := x_r.frozen 3
    have c_r_4_w6 := x_r.cell (i := 4) rfl
    have f_r_4_w6 := x_r.frozen 4
    have c_r_5_w6 := x_r.cell (i := 5) rfl
    have f_r_5_w6 := x_r.frozen 5
    have c_r_6_w6 := x_r.cell (i := 6) rfl
    have f_r_6_w6 := x_r.frozen 6
    have c_r_7_w6 := x_r.cell (i := 7) rfl
    have f_r_7_w6 := x_r.frozen 7
    have c_r_8_w6 := x_r.cell (i := 8) rfl
    have f_r_8_w6 := x_r.frozen 8
    have c_v_0_w6 := x_v.cell (i := 0) rfl
    have f_v_0_w6 := x_v.frozen 0
    have c_v_1_w6 := x_v.cell (i := 1) rfl
    have f_v_1_w6 := x_v.frozen 1
    have c_v_2_w6 := x_v.cell (i := 2) rfl
    have f_v_2_w6 := x_v.frozen 2
    have c_v_3_w6 := x_v.cell (i := 3) rfl
    have f_v_3_w6 := x_v.frozen 3
    have c_v_4_w6 := x_v.cell (i := 4) rfl
    have f_v_4_w6 := x_v.frozen 4
    have c_v_5_w6 := x_v.cell (i := 5) rfl
    have f_v_5_w6 := x_v.frozen 5
    have c_v_6_w6 := x_v.cell (i := 6) rfl
    have f_v_6_w6 := x_v.frozen 6
    have c_v_7_w6 := x_v.cell (i := 7) rfl
    have f_v_7_w6 := x_v.frozen 7
    have c_v_8_w6 := x_v.cell (i := 8) rfl
    have f_v_8_w6 := x_v.frozen 8
    go_wp2_with fail
    refine (sHas_1 _).mono ?_
    rintro e w' ⟨rfl, rfl⟩
    obtain ⟨w7, e_w7, s_w7, h_w7, y⟩ := set_step x_v 2 (.int .i64 0)
    have s_w7_1 := Nat.le_of_eq s_w7
    have s_w7_2 := Nat.le_of_eq s_w7.symm
    clear s_w7
    replace x_r := x_r.chg h_w7 (by omega)
    replace hk := hk.chg h_w7 (by omega)
    have B_w7 := Below.chg_ B_w6 h_w7 (by omega) (by omega)
    have C_w7 := C_w6.then_new h_w7 (by omega)
    replace x_v : Vr w7 (w5.heap.size) 26 [.int .i64 1, .int .i64 a, .int .i64 0, .int .i64 t, .int .i64 (1 + m), .int .i64 0, .int .i64 0, .int .i64 0, .int .i64 0] := y
    clear y
    have c_r_0_w7 := x_r.cell (i := 0) rfl
    have f_r_0_w7 := x_r.frozen 0
    have c_r_1_w7 := x_r.cell (i := 1) rfl
    have f_r_1_w7 := x_r.frozen 1
    have c_r_2_w7 := x_r.cell (i := 2) rfl
    have f_r_2_w7 := x_r.frozen 2
    have c_r_3_w7 := x_r.cell (i := 3) rfl
    have f_r_3_w7 := x_r.frozen 3
    have c_r_4_w7 := x_r.cell (i := 4) rfl
    have f_r_4_w7 := x_r.frozen 4
    have c_r_5_w7 := x_r.cell (i := 5) rfl
    have f_r_5_w7 := x_r.frozen 5
    have c_r_6_w7 := x_r.cell (i := 6) rfl
    have f_r_6_w7 := x_r.frozen 6
    have c_r_7_w7 := x_r.cell (i := 7) rfl
    have f_r_7_w7 := x_r.frozen 7
    have c_r_8_w7 := x_r.cell (i := 8) rfl
    have f_r_8_w7 := x_r.frozen 8
    have c_v_0_w7 := x_v.cell (i := 0) rfl
    have f_v_0_w7 := x_v.frozen 0
    have c_v_1_w7 := x_v.cell (i := 1) rfl
    have f_v_1_w7 := x_v.frozen 1
    have c_v_2_w7 := x_v.cell (i := 2) rfl
    have f_v_2_w7 := x_v.frozen 2
    have c_v_3_w7 := x_v.cell (i := 3) rfl
    have f_v_3_w7 := x_v.frozen 3
    have c_v_4_w7 := x_v.cell (i := 4) rfl
    have f_v_4_w7 := x_v.frozen 4
    have c_v_5_w7 := x_v.cell (i := 5) rfl
    have f_v_5_w7 := x_v.frozen 5
    have c_v_6_w7 := x_v.cell (i := 6) rfl
    have f_v_6_w7 := x_v.frozen 6
    have c_v_7_w7 := x_v.cell (i := 7) rfl
    have f_v_7_w7 := x_v.frozen 7
    have c_v_8_w7 := x_v.cell (i := 8) rfl
    have f_v_8_w7 := x_v.frozen 8
    obtain ⟨w8, e_w8, s_w8, h_w8, y⟩ := set_step x_v 3 (.int .i64 0)
    have s_w8_1 := Nat.le_of_eq s_w8
    have s_w8_2 := Nat.le_of_eq s_w8.symm
    clear s_w8
    replace x_r := x_r.chg h_w8 (by omega)
    replace hk := hk.chg h_w8 (by omega)
    have B_w8 := Below.chg_ B_w7 h_w8 (by omega) (by omega)
    have C_w8 := C_w7.then_new h_w8 (by omega)
    replace x_v : Vr w8 (w5.heap.size) 26 [.int .i64 1, .int .i64 a, .int .i64 0, .int .i64 0, .int .i64 (1 + m), .int .i64 0, .int .i64 0, .int .i64 0, .int .i64 0] := y
    clear y
    have c_r_0_w8 := x_r.cell (i := 0) rfl
    have f_r_0_w8 := x_r.frozen 0
    have c_r_1_w8 := x_r.cell (i := 1) rfl
    have f_r_1_w8 := x_r.frozen 1
    have c_r_2_w8 := x_r.cell (i := 2) rfl
    have f_r_2_w8 := x_r.frozen 2
    have c_r_3_w8 := x_r.cell (i := 3) rfl
    have f_r_3_w8 := x_r.frozen 3
    have c_r_4_w8 := x_r.cell (i := 4) rfl
    have f_r_4_w8 := x_r.frozen 4
    have c_r_5_w8 := x_r.cell (i := 5) rfl
    have f_r_5_w8 := x_r.frozen 5
    have c_r_6_w8 := x_r.cell (i := 6) rfl
    have f_r_6_w8 := x_r.frozen 6
    have c_r_7_w8 := x_r.cell (i := 7) rfl
    have f_r_7_w8 := x_r.frozen 7
    have c_r_8_w8 := x_r.cell (i := 8) rfl
    have f_r_8_w8 := x_r.frozen 8
    have c_v_0_w8 := x_v.cell (i := 0) rfl
    have f_v_0_w8 := x_v.frozen 0
    have c_v_1_w8 := x_v.cell (i := 1) rfl
    have f_v_1_w8 := x_v.frozen 1
    have c_v_2_w8 := x_v.cell (i := 2) rfl
    have f_v_2_w8 := x_v.frozen 2
    have c_v_3_w8 := x_v.cell (i := 3) rfl
    have f_v_3_w8 := x_v.frozen 3
    have c_v_4_w8 := x_v.cell (i := 4) rfl
    have f_v_4_w8 := x_v.frozen 4
    have c_v_5_w8 := x_v.cell (i := 5) rfl
    have f_v_5_w8 := x_v.frozen 5
    have c_v_6_w8 := x_v.cell (i := 6) rfl
    have f_v_6_w8 := x_v.frozen 6
    have c_v_7_w8 := x_v.cell (i := 7) rfl
    have f_v_7_w8 := x_v.frozen 7
    have c_v_8_w8 := x_v.cell (i := 8) rfl
    have f_v_8_w8 := x_v.frozen 8
    obtain ⟨w9, e_w9, s_w9, h_w9, y⟩ := store_step x_r [.int .i64 1, .int .i64 a, .int .i64 0, .int .i64 0, .int .i64 (1 + m), .int .i64 0, .int .i64 0, .int .i64 0, .int .i64 0] rfl
    replace e_w9 : (((((((((w8.setCell ⟨w.heap.size, 0, none⟩ (.int .i64 1)).setCell ⟨w.heap.size, 1, none⟩ (.int .i64 a)).setCell ⟨w.heap.size, 2, none⟩ (.int .i64 0)).setCell ⟨w.heap.size, 3, none⟩ (.int .i64 0)).setCell ⟨w.heap.size, 4, none⟩ (.int .i64 (1 + m))).setCell ⟨w.heap.size, 5, none⟩ (.int .i64 0)).setCell ⟨w.heap.size, 6, none⟩ (.int .i64 0)).setCell ⟨w.heap.size, 7, none⟩ (.int .i64 0)).setCell ⟨w.heap.size, 8, none⟩ (.int .i64 0)) = w9 := e_w9
    have s_w9_1 := Nat.le_of_eq s_w9
    have s_w9_2 := Nat.le_of_eq s_w9.symm
    clear s_w9
    replace x_v := x_v.chg h_w9 (by omega)
    replace hk := hk.chg h_w9 (by omega)
    have B_w9 := Below.chg_ B_w8 h_w9 (by omega) (by omega)
    have C_w9 := C_w8.then_new h_w9 (by omega)
    replace x_r : Vr w9 (w.heap.size) 26 [.int .i64 1, .int .i64 a, .int .i64 0, .int .i64 0, .int .i64 (1 + m), .int .i64 0, .int .i64 0, .int .i64 0, .int .i64 0] := y
    clear y
    have c_r_0_w9 := x_r.cell (i := 0) rfl
    have f_r_0_w9 := x_r.frozen 0
    have c_r_1_w9 := x_r.cell (i := 1) rfl
    have f_r_1_w9 := x_r.frozen 1
    have c_r_2_w9 := x_r.cell (i := 2) rfl
    have f_r_2_w9 := x_r.frozen 2
    have c_r_3_w9 := x_r.cell (i := 3) rfl
    have f_r_3_w9 := x_r.frozen 3
    have c_r_4_w9 := x_r.cell (i := 4) rfl
    have f_r_4_w9 := x_r.frozen 4
    have c_r_5_w9 := x_r.cell (i := 5) rfl
    have f_r_5_w9 := x_r.frozen 5
    have c_r_6_w9 := x_r.cell (i := 6) rfl
    have f_r_6_w9 := x_r.frozen 6
    have c_r_7_w9 := x_r.cell (i := 7) rfl
    have f_r_7_w9 := x_r.frozen 7
    have c_r_8_w9 := x_r.cell (i := 8) rfl
    have f_r_8_w9 := x_r.frozen 8
    go_wp2
    refine ret_cell (by rfl) (by rfl) x_r Tryd.underlying26 sz_rec (by rfl) ?_
    exact ⟨⟨1, a, 0, 0, 1 + m, ⟨0, 0, 0, 0⟩⟩, rfl, recDrawn_ok (by omega) (by omega) (by omega) (by omega) (by omega) (by omega) (by omega) (by omega) (by omega) (fun h => by omega) (fun _ => rfl), ⟨by show (1 + m : Int) ≤ 60; omega, by show (⟨0, 0, 0, 0⟩ : MMsg).Amt ≤ 90; first | exact hM9.2 | decide⟩, hk, C_w9⟩
  · -- 2
    obtain ⟨w6, e_w6, s_w6, h_w6, x_v⟩ := alloc_step w5 26 [.int .i64 2, .int .i64 a, .int .i64 o, .int .i64 t, .int .i64 (1 + m), .int .i64 0, .int .i64 0, .int .i64 0, .int .i64 0]
    have s_w6_1 := Nat.le_of_eq s_w6
    have s_w6_2 := Nat.le_of_eq s_w6.symm
    clear s_w6
    replace x_r := x_r.from_ h_w6
    replace hk := hk.below h_w6
    have B_w6 := B_w5.trans (h_w6.mono (Nat.le_trans hgle B_w5.size))
    have C_w6 := C_w5.then_below h_w6
    have i_w6_8 := x_v.same (i := 8) rfl
    have i_w6_7 := x_v.same (i := 7) rfl
    have i_w6_6 := x_v.same (i := 6) rfl
    have i_w6_5 := x_v.same (i := 5) rfl
    have c_r_0_w6 := x_r.cell (i := 0) rfl
    have f_r_0_w6 := x_r.frozen 0
    have c_r_1_w6 := x_r.cell (i := 1) rfl
    have f_r_1_w6 := x_r.frozen 1
    have c_r_2_w6 := x_r.cell (i := 2) rfl
    have f_r_2_w6 := x_r.frozen 2
    have c_r_3_w6 := x_r.cell (i := 3) rfl
    have f_r_3_w6 := x_r.frozen 3
    have c_r_4_w6 := x_r.cell (i := 4) rfl
    have f_r_4_w6 := x_r.frozen 4
    have c_r_5_w6 := x_r.cell (i := 5) rfl
    have f_r_5_w6 := x_r.frozen 5
    have c_r_6_w6 := x_r.cell (i := 6) rfl
    have f_r_6_w6 := x_r.frozen 6
    have c_r_7_w6 := x_r.cell (i := 7) rfl
    have f_r_7_w6 := x_r.frozen 7
    have c_r_8_w6 := x_r.cell (i := 8) rfl
    have f_r_8_w6 := x_r.frozen 8
    have c_v_0_w6 := x_v.cell (i := 0) rfl
    have f_v_0_w6 := x_v.frozen 0
    have c_v_1_w6 := x_v.cell (i := 1) rfl
    have f_v_1_w6 := x_v.frozen 1
    have c_v_2_w6 := x_v.cell (i := 2) rfl
    have f_v_2_w6 := x_v.frozen 2
    have c_v_3_w6 := x_v.cell (i := 3) rfl
    have f_v_3_w6 := x_v.frozen 3
    have c_v_4_w6 := x_v.cell (i := 4) rfl
    have f_v_4_w6 := x_v.frozen 4
    have c_v_5_w6 := x_v.cell (i := 5) rfl
    have f_v_5_w6 := x_v.frozen 5
    have c_v_6_w6 := x_v.cell (i := 6) rfl
    have f_v_6_w6 := x_v.frozen 6
    have c_v_7_w6 := x_v.cell (i := 7) rfl
    have f_v_7_w6 := x_v.frozen 7
    have c_v_8_w6 := x_v.cell (i := 8) rfl
    have f_v_8_w6 := x_v.frozen 8
    go_wp2_with fail
    refine (sHas_2 _).mono ?_
    rintro e w' ⟨rfl, rfl⟩
    obtain ⟨w7, e_w7, s_w7, h_w7, y⟩ := set_step x_v 2 (.int .i64 0)
    have s_w7_1 := Nat.le_of_eq s_w7
    have s_w7_2 := Nat.le_of_eq s_w7.symm
    clear s_w7
    replace x_r := x_r.chg h_w7 (by omega)
    replace hk := hk.chg h_w7 (by omega)
    have B_w7 := Below.chg_ B_w6 h_w7 (by omega) (by omega)
    have C_w7 := C_w6.then_new h_w7 (by omega)
    replace x_v : Vr w7 (w5.heap.size) 26 [.int .i64 2, .int .i64 a, .int .i64 0, .int .i64 t, .int .i64 (1 + m), .int .i64 0, .int .i64 0, .int .i64 0, .int .i64 0] := y
    clear y
    have c_r_0_w7 := x_r.cell (i := 0) rfl
    have f_r_0_w7 := x_r.frozen 0
    have c_r_1_w7 := x_r.cell (i := 1) rfl
    have f_r_1_w7 := x_r.frozen 1
    have c_r_2_w7 := x_r.cell (i := 2) rfl
    have f_r_2_w7 := x_r.frozen 2
    have c_r_3_w7 := x_r.cell (i := 3) rfl
    have f_r_3_w7 := x_r.frozen 3
    have c_r_4_w7 := x_r.cell (i := 4) rfl
    have f_r_4_w7 := x_r.frozen 4
    have c_r_5_w7 := x_r.cell (i := 5) rfl
    have f_r_5_w7 := x_r.frozen 5
    have c_r_6_w7 := x_r.cell (i := 6) rfl
    have f_r_6_w7 := x_r.frozen 6
    have c_r_7_w7 := x_r.cell (i := 7) rfl
    have f_r_7_w7 := x_r.frozen 7
    have c_r_8_w7 := x_r.cell (i := 8) rfl
    have f_r_8_w7 := x_r.frozen 8
    have c_v_0_w7 := x_v.cell (i := 0) rfl
    have f_v_0_w7 := x_v.frozen 0
    have c_v_1_w7 := x_v.cell (i := 1) rfl
    have f_v_1_w7 := x_v.frozen 1
    have c_v_2_w7 := x_v.cell (i := 2) rfl
    have f_v_2_w7 := x_v.frozen 2
    have c_v_3_w7 := x_v.cell (i := 3) rfl
    have f_v_3_w7 := x_v.frozen 3
    have c_v_4_w7 := x_v.cell (i := 4) rfl
    have f_v_4_w7 := x_v.frozen 4
    have c_v_5_w7 := x_v.cell (i := 5) rfl
    have f_v_5_w7 := x_v.frozen 5
    have c_v_6_w7 := x_v.cell (i := 6) rfl
    have f_v_6_w7 := x_v.frozen 6
    have c_v_7_w7 := x_v.cell (i := 7) rfl
    have f_v_7_w7 := x_v.frozen 7
    have c_v_8_w7 := x_v.cell (i := 8) rfl
    have f_v_8_w7 := x_v.frozen 8
    obtain ⟨w8, e_w8, s_w8, h_w8, y⟩ := set_step x_v 3 (.int .i64 0)
    have s_w8_1 := Nat.le_of_eq s_w8
    have s_w8_2 := Nat.le_of_eq s_w8.symm
    clear s_w8
    replace x_r := x_r.chg h_w8 (by omega)
    replace hk := hk.chg h_w8 (by omega)
    have B_w8 := Below.chg_ B_w7 h_w8 (by omega) (by omega)
    have C_w8 := C_w7.then_new h_w8 (by omega)
    replace x_v : Vr w8 (w5.heap.size) 26 [.int .i64 2, .int .i64 a, .int .i64 0, .int .i64 0, .int .i64 (1 + m), .int .i64 0, .int .i64 0, .int .i64 0, .int .i64 0] := y
    clear y
    have c_r_0_w8 := x_r.cell (i := 0) rfl
    have f_r_0_w8 := x_r.frozen 0
    have c_r_1_w8 := x_r.cell (i := 1) rfl
    have f_r_1_w8 := x_r.frozen 1
    have c_r_2_w8 := x_r.cell (i := 2) rfl
    have f_r_2_w8 := x_r.frozen 2
    have c_r_3_w8 := x_r.cell (i := 3) rfl
    have f_r_3_w8 := x_r.frozen 3
    have c_r_4_w8 := x_r.cell (i := 4) rfl
    have f_r_4_w8 := x_r.frozen 4
    have c_r_5_w8 := x_r.cell (i := 5) rfl
    have f_r_5_w8 := x_r.frozen 5
    have c_r_6_w8 := x_r.cell (i := 6) rfl
    have f_r_6_w8 := x_r.frozen 6
    have c_r_7_w8 := x_r.cell (i := 7) rfl
    have f_r_7_w8 := x_r.frozen 7
    have c_r_8_w8 := x_r.cell (i := 8) rfl
    have f_r_8_w8 := x_r.frozen 8
    have c_v_0_w8 := x_v.cell (i := 0) rfl
    have f_v_0_w8 := x_v.frozen 0
    have c_v_1_w8 := x_v.cell (i := 1) rfl
    have f_v_1_w8 := x_v.frozen 1
    have c_v_2_w8 := x_v.cell (i := 2) rfl
    have f_v_2_w8 := x_v.frozen 2
    have c_v_3_w8 := x_v.cell (i := 3) rfl
    have f_v_3_w8 := x_v.frozen 3
    have c_v_4_w8 := x_v.cell (i := 4) rfl
    have f_v_4_w8 := x_v.frozen 4
    have c_v_5_w8 := x_v.cell (i := 5) rfl
    have f_v_5_w8 := x_v.frozen 5
    have c_v_6_w8 := x_v.cell (i := 6) rfl
    have f_v_6_w8 := x_v.frozen 6
    have c_v_7_w8 := x_v.cell (i := 7) rfl
    have f_v_7_w8 := x_v.frozen 7
    have c_v_8_w8 := x_v.cell (i := 8) rfl
    have f_v_8_w8 := x_v.frozen 8
    obtain ⟨w9, e_w9, s_w9, h_w9, y⟩ := store_step x_r [.int .i64 2, .int .i64 a, .int .i64 0, .int .i64 0, .int .i64 (1 + m), .int .i64 0, .int .i64 0, .int .i64 0, .int .i64 0] rfl
    replace e_w9 : (((((((((w8.setCell ⟨w.heap.size, 0, none⟩ (.int .i64 2)).setCell ⟨w.heap.size, 1, none⟩ (.int .i64 a)).setCell ⟨w.heap.size, 2, none⟩ (.int .i64 0)).setCell ⟨w.heap.size, 3, none⟩ (.int .i64 0)).setCell ⟨w.heap.size, 4, none⟩ (.int .i64 (1 + m))).setCell ⟨w.heap.size, 5, none⟩ (.int .i64 0)).setCell ⟨w.heap.size, 6, none⟩ (.int .i64 0)).setCell ⟨w.heap.size, 7, none⟩ (.int .i64 0)).setCell ⟨w.heap.size, 8, none⟩ (.int .i64 0)) = w9 := e_w9
    have s_w9_1 := Nat.le_of_eq s_w9
    have s_w9_2 := Nat.le_of_eq s_w9.symm
    clear s_w9
    replace x_v := x_v.chg h_w9 (by omega)
    replace hk := hk.chg h_w9 (by omega)
    have B_w9 := Below.chg_ B_w8 h_w9 (by omega) (by omega)
    have C_w9 := C_w8.then_new h_w9 (by omega)
    replace x_r : Vr w9 (w.heap.size) 26 [.int .i64 2, .int .i64 a, .int .i64 0, .int .i64 0, .int .i64 (1 + m), .int .i64 0, .int .i64 0, .int .i64 0, .int .i64 0] := y
    clear y
    have c_r_0_w9 := x_r.cell (i := 0) rfl
    have f_r_0_w9 := x_r.frozen 0
    have c_r_1_w9 := x_r.cell (i := 1) rfl
    have f_r_1_w9 := x_r.frozen 1
    have c_r_2_w9 := x_r.cell (i := 2) rfl
    have f_r_2_w9 := x_r.frozen 2
    have c_r_3_w9 := x_r.cell (i := 3) rfl
    have f_r_3_w9 := x_r.frozen 3
    have c_r_4_w9 := x_r.cell (i := 4) rfl
    have f_r_4_w9 := x_r.frozen 4
    have c_r_5_w9 := x_r.cell (i := 5) rfl
    have f_r_5_w9 := x_r.frozen 5
    have c_r_6_w9 := x_r.cell (i := 6) rfl
    have f_r_6_w9 := x_r.frozen 6
    have c_r_7_w9 := x_r.cell (i := 7) rfl
    have f_r_7_w9 := x_r.frozen 7
    have c_r_8_w9 := x_r.cell (i := 8) rfl
    have f_r_8_w9 := x_r.frozen 8
    go_wp2
    refine ret_cell (by rfl) (by rfl) x_r Tryd.underlying26 sz_rec (by rfl) ?_
    exact ⟨⟨2, a, 0, 0, 1 + m, ⟨0, 0, 0, 0⟩⟩, rfl, recDrawn_ok (by omega) (by omega) (by omega) (by omega) (by omega) (by omega) (by omega) (by omega) (by omega) (fun h => by omega) (fun _ => rfl), ⟨by show (1 + m : Int) ≤ 60; omega, by show (⟨0, 0, 0, 0⟩ : MMsg).Amt ≤ 90; first | exact hM9.2 | decide⟩, hk, C_w9⟩
  · -- 3
    obtain ⟨w6, e_w6, s_w6, h_w6, x_v⟩ := alloc_step w5 26 [.int .i64 3, .int .i64 a, .int .i64 o, .int .i64 t, .int .i64 (1 + m), .int .i64 0, .int .i64 0, .int .i64 0, .int .i64 0]
    have s_w6_1 := Nat.le_of_eq s_w6
    have s_w6_2 := Nat.le_of_eq s_w6.symm
    clear s_w6
    replace x_r := x_r.from_ h_w6
    replace hk := hk.below h_w6
    have B_w6 := B_w5.trans (h_w6.mono (Nat.le_trans hgle B_w5.size))
    have C_w6 := C_w5.then_below h_w6
    have i_w6_8 := x_v.same (i := 8) rfl
    have i_w6_7 := x_v.same (i := 7) rfl
    have i_w6_6 := x_v.same (i := 6) rfl
    have i_w6_5 := x_v.same (i := 5) rfl
    have c_r_0_w6 := x_r.cell (i := 0) rfl
    have f_r_0_w6 := x_r.frozen 0
    have c_r_1_w6 := x_r.cell (i := 1) rfl
    have f_r_1_w6 := x_r.frozen 1
    have c_r_2_w6 := x_r.cell (i := 2) rfl
    have f_r_2_w6 := x_r.frozen 2
    have c_r_3_w6 := x_r.cell (i := 3) rfl
    have f_r_3_w6 := x_r.frozen 3
    have c_r_4_w6 := x_r.cell (i := 4) rfl
    have f_r_4_w6 := x_r.frozen 4
    have c_r_5_w6 := x_r.cell (i := 5) rfl
    have f_r_5_w6 := x_r.frozen 5
    have c_r_6_w6 := x_r.cell (i := 6) rfl
    have f_r_6_w6 := x_r.frozen 6
    have c_r_7_w6 := x_r.cell (i := 7) rfl
    have f_r_7_w6 := x_r.frozen 7
    have c_r_8_w6 := x_r.cell (i := 8) rfl
    have f_r_8_w6 := x_r.frozen 8
    have c_v_0_w6 := x_v.cell (i := 0) rfl
    have f_v_0_w6 := x_v.frozen 0
    have c_v_1_w6 := x_v.cell (i := 1) rfl
    have f_v_1_w6 := x_v.frozen 1
    have c_v_2_w6 := x_v.cell (i := 2) rfl
    have f_v_2_w6 := x_v.frozen 2
    have c_v_3_w6 := x_v.cell (i := 3) rfl
    have f_v_3_w6 := x_v.frozen 3
    have c_v_4_w6 := x_v.cell (i := 4) rfl
    have f_v_4_w6 := x_v.frozen 4
    have c_v_5_w6 := x_v.cell (i := 5) rfl
    have f_v_5_w6 := x_v.frozen 5
    have c_v_6_w6 := x_v.cell (i := 6) rfl
    have f_v_6_w6 := x_v.frozen 6
    have c_v_7_w6 := x_v.cell (i := 7) rfl
    have f_v_7_w6 := x_v.frozen 7
    have c_v_8_w6 := x_v.cell (i := 8) rfl
    have f_v_8_w6 := x_v.frozen 8
    go_wp2_with fail
    refine (sHas_3 _).mono ?_
    rintro e w' ⟨rfl, rfl⟩
    obtain ⟨w7, e_w7, s_w7, h_w7, y⟩ := set_step x_v 2 (.int .i64 0)
    have s_w7_1 := Nat.le_of_eq s_w7
    have s_w7_2 := Nat.le_of_eq s_w7.symm
    clear s_w7
    replace x_r := x_r.chg h_w7 (by omega)
    replace hk := hk.chg h_w7 (by omega)
    have B_w7 := Below.chg_ B_w6 h_w7 (by omega) (by omega)
    have C_w7 := C_w6.then_new h_w7 (by omega)
    replace x_v : Vr w7 (w5.heap.size) 26 [.int .i64 3, .int .i64 a, .int .i64 0, .int .i64 t, .int .i64 (1 + m), .int .i64 0, .int .i64 0, .int .i64 0, .int .i64 0] := y
    clear y
    have c_r_0_w7 := x_r.cell (i := 0) rfl
    have f_r_0_w7 := x_r.frozen 0
    have c_r_1_w7 := x_r.cell (i := 1) rfl
    have f_r_1_w7 := x_r.frozen 1
    have c_r_2_w7 := x_r.cell (i := 2) rfl
    have f_r_2_w7 := x_r.frozen 2
    have c_r_3_w7 := x_r.cell (i := 3) rfl
    have f_r_3_w7 := x_r.frozen 3
    have c_r_4_w7 := x_r.cell (i := 4) rfl
    have f_r_4_w7 := x_r.frozen 4
    have c_r_5_w7 := x_r.cell (i := 5) rfl
    have f_r_5_w7 := x_r.frozen 5
    have c_r_6_w7 := x_r.cell (i := 6) rfl
    have f_r_6_w7 := x_r.frozen 6
    have c_r_7_w7 := x_r.cell (i := 7) rfl
    have f_r_7_w7 := x_r.frozen 7
    have c_r_8_w7 := x_r.cell (i := 8) rfl
    have f_r_8_w7 := x_r.frozen 8
    have c_v_0_w7 := x_v.cell (i := 0) rfl
    have f_v_0_w7 := x_v.frozen 0
    have c_v_1_w7 := x_v.cell (i := 1) rfl
    have f_v_1_w7 := x_v.frozen 1
    have c_v_2_w7 := x_v.cell (i := 2) rfl
    have f_v_2_w7 := x_v.frozen 2
    have c_v_3_w7 := x_v.cell (i := 3) rfl
    have f_v_3_w7 := x_v.frozen 3
    have c_v_4_w7 := x_v.cell (i := 4) rfl
    have f_v_4_w7 := x_v.frozen 4
    have c_v_5_w7 := x_v.cell (i := 5) rfl
    have f_v_5_w7 := x_v.frozen 5
    have c_v_6_w7 := x_v.cell (i := 6) rfl
    have f_v_6_w7 := x_v.frozen 6
    have c_v_7_w7 := x_v.cell (i := 7) rfl
    have f_v_7_w7 := x_v.frozen 7
    have c_v_8_w7 := x_v.cell (i := 8) rfl
    have f_v_8_w7 := x_v.frozen 8
    obtain ⟨w8, e_w8, s_w8, h_w8, y⟩ := store_step x_r [.int .i64 3, .int .i64 a, .int .i64 0, .int .i64 t, .int .i64 (1 + m), .int .i64 0, .int .i64 0, .int .i64 0, .int .i64 0] rfl
    replace e_w8 : (((((((((w7.setCell ⟨w.heap.size, 0, none⟩ (.int .i64 3)).setCell ⟨w.heap.size, 1, none⟩ (.int .i64 a)).setCell ⟨w.heap.size, 2, none⟩ (.int .i64 0)).setCell ⟨w.heap.size, 3, none⟩ (.int .i64 t)).setCell ⟨w.heap.size, 4, none⟩ (.int .i64 (1 + m))).setCell ⟨w.heap.size, 5, none⟩ (.int .i64 0)).setCell ⟨w.heap.size, 6, none⟩ (.int .i64 0)).setCell ⟨w.heap.size, 7, none⟩ (.int .i64 0)).setCell ⟨w.heap.size, 8, none⟩ (.int .i64 0)) = w8 := e_w8
    have s_w8_1 := Nat.le_of_eq s_w8
    have s_w8_2 := Nat.le_of_eq s_w8.symm
    clear s_w8
    replace x_v := x_v.chg h_w8 (by omega)
    replace hk := hk.chg h_w8 (by omega)
    have B_w8 := Below.chg_ B_w7 h_w8 (by omega) (by omega)
    have C_w8 := C_w7.then_new h_w8 (by omega)
    replace x_r : Vr w8 (w.heap.size) 26 [.int .i64 3, .int .i64 a, .int .i64 0, .int .i64 t, .int .i64 (1 + m), .int .i64 0, .int .i64 0, .int .i64 0, .int .i64 0] := y
    clear y
    have c_r_0_w8 := x_r.cell (i := 0) rfl
    have f_r_0_w8 := x_r.frozen 0
    have c_r_1_w8 := x_r.cell (i := 1) rfl
    have f_r_1_w8 := x_r.frozen 1
    have c_r_2_w8 := x_r.cell (i := 2) rfl
    have f_r_2_w8 := x_r.frozen 2
    have c_r_3_w8 := x_r.cell (i := 3) rfl
    have f_r_3_w8 := x_r.frozen 3
    have c_r_4_w8 := x_r.cell (i := 4) rfl
    have f_r_4_w8 := x_r.frozen 4
    have c_r_5_w8 := x_r.cell (i := 5) rfl
    have f_r_5_w8 := x_r.frozen 5
    have c_r_6_w8 := x_r.cell (i := 6) rfl
    have f_r_6_w8 := x_r.frozen 6
    have c_r_7_w8 := x_r.cell (i := 7) rfl
    have f_r_7_w8 := x_r.frozen 7
    have c_r_8_w8 := x_r.cell (i := 8) rfl
    have f_r_8_w8 := x_r.frozen 8
    go_wp2
    refine ret_cell (by rfl) (by rfl) x_r Tryd.underlying26 sz_rec (by rfl) ?_
    exact ⟨⟨3, a, 0, t, 1 + m, ⟨0, 0, 0, 0⟩⟩, rfl, recDrawn_ok (by omega) (by omega) (by omega) (by omega) (by omega) (by omega) (by omega) (by omega) (by omega) (fun h => by omega) (fun _ => rfl), ⟨by show (1 + m : Int) ≤ 60; omega, by show (⟨0, 0, 0, 0⟩ : MMsg).Amt ≤ 90; first | exact hM9.2 | decide⟩, hk, C_w8⟩
  · -- 4
    obtain ⟨w6, e_w6, s_w6, h_w6, x_v⟩ := alloc_step w5 26 [.int .i64 4, .int .i64 a, .int .i64 o, .int .i64 t, .int .i64 (1 + m), .int .i64 0, .int .i64 0, .int .i64 0, .int .i64 0]
    have s_w6_1 := Nat.le_of_eq s_w6
    have s_w6_2 := Nat.le_of_eq s_w6.symm
    clear s_w6
    replace x_r := x_r.from_ h_w6
    replace hk := hk.below h_w6
    have B_w6 := B_w5.trans (h_w6.mono (Nat.le_trans hgle B_w5.size))
    have C_w6 := C_w5.then_below h_w6
    have i_w6_8 := x_v.same (i := 8) rfl
    have i_w6_7 := x_v.same (i := 7) rfl
    have i_w6_6 := x_v.same (i := 6) rfl
    have i_w6_5 := x_v.same (i := 5) rfl
    have c_r_0_w6 := x_r.cell (i := 0) rfl
    have f_r_0_w6 := x_r.frozen 0
    have c_r_1_w6 := x_r.cell (i := 1) rfl
    have f_r_1_w6 := x_r.frozen 1
    have c_r_2_w6 := x_r.cell (i := 2) rfl
    have f_r_2_w6 := x_r.frozen 2
    have c_r_3_w6 := x_r.cell (i := 3) rfl
    have f_r_3_w6 := x_r.frozen 3
    have c_r_4_w6 := x_r.cell (i := 4) rfl
    have f_r_4_w6 := x_r.frozen 4
    have c_r_5_w6 := x_r.cell (i := 5) rfl
    have f_r_5_w6 := x_r.frozen 5
    have c_r_6_w6 := x_r.cell (i := 6) rfl
    have f_r_6_w6 := x_r.frozen 6
    have c_r_7_w6 := x_r.cell (i := 7) rfl
    have f_r_7_w6 := x_r.frozen 7
    have c_r_8_w6 := x_r.cell (i := 8) rfl
    have f_r_8_w6 := x_r.frozen 8
    have c_v_0_w6 := x_v.cell (i := 0) rfl
    have f_v_0_w6 := x_v.frozen 0
    have c_v_1_w6 := x_v.cell (i := 1) rfl
    have f_v_1_w6 := x_v.frozen 1
    have c_v_2_w6 := x_v.cell (i := 2) rfl
    have f_v_2_w6 := x_v.frozen 2
    have c_v_3_w6 := x_v.cell (i := 3) rfl
    have f_v_3_w6 := x_v.frozen 3
    have c_v_4_w6 := x_v.cell (i := 4) rfl
    have f_v_4_w6 := x_v.frozen 4
    have c_v_5_w6 := x_v.cell (i := 5) rfl
    have f_v_5_w6 := x_v.frozen 5
    have c_v_6_w6 := x_v.cell (i := 6) rfl
    have f_v_6_w6 := x_v.frozen 6
    have c_v_7_w6 := x_v.cell (i := 7) rfl
    have f_v_7_w6 := x_v.frozen 7
    have c_v_8_w6 := x_v.cell (i := 8) rfl
    have f_v_8_w6 := x_v.frozen 8
    go_wp2_with fail
    refine (sHas_4 _).mono ?_
    rintro e w' ⟨rfl, rfl⟩
    obtain ⟨w7, e_w7, s_w7, h_w7, y⟩ := store_step x_r [.int .i64 4, .int .i64 a, .int .i64 o, .int .i64 t, .int .i64 (1 + m), .int .i64 0, .int .i64 0, .int .i64 0, .int .i64 0] rfl
    replace e_w7 : (((((((((w6.setCell ⟨w.heap.size, 0, none⟩ (.int .i64 4)).setCell ⟨w.heap.size, 1, none⟩ (.int .i64 a)).setCell ⟨w.heap.size, 2, none⟩ (.int .i64 o)).setCell ⟨w.heap.size, 3, none⟩ (.int .i64 t)).setCell ⟨w.heap.size, 4, none⟩ (.int .i64 (1 + m))).setCell ⟨w.heap.size, 5, none⟩ (.int .i64 0)).setCell ⟨w.heap.size, 6, none⟩ (.int .i64 0)).setCell ⟨w.heap.size, 7, none⟩ (.int .i64 0)).setCell ⟨w.heap.size, 8, none⟩ (.int .i64 0)) = w7 := e_w7
    have s_w7_1 := Nat.le_of_eq s_w7
    have s_w7_2 := Nat.le_of_eq s_w7.symm
    clear s_w7
    replace x_v := x_v.chg h_w7 (by omega)
    replace hk := hk.chg h_w7 (by omega)
    have B_w7 := Below.chg_ B_w6 h_w7 (by omega) (by omega)
    have C_w7 := C_w6.then_new h_w7 (by omega)
    replace x_r : Vr w7 (w.heap.size) 26 [.int .i64 4, .int .i64 a, .int .i64 o, .int .i64 t, .int .i64 (1 + m), .int .i64 0, .int .i64 0, .int .i64 0, .int .i64 0] := y
    clear y
    have c_r_0_w7 := x_r.cell (i := 0) rfl
    have f_r_0_w7 := x_r.frozen 0
    have c_r_1_w7 := x_r.cell (i := 1) rfl
    have f_r_1_w7 := x_r.frozen 1
    have c_r_2_w7 := x_r.cell (i := 2) rfl
    have f_r_2_w7 := x_r.frozen 2
    have c_r_3_w7 := x_r.cell (i := 3) rfl
    have f_r_3_w7 := x_r.frozen 3
    have c_r_4_w7 := x_r.cell (i := 4) rfl
    have f_r_4_w7 := x_r.frozen 4
    have c_r_5_w7 := x_r.cell (i := 5) rfl
    have f_r_5_w7 := x_r.frozen 5
    have c_r_6_w7 := x_r.cell (i := 6) rfl
    have f_r_6_w7 := x_r.frozen 6
    have c_r_7_w7 := x_r.cell (i := 7) rfl
    have f_r_7_w7 := x_r.frozen 7
    have c_r_8_w7 := x_r.cell (i := 8) rfl
    have f_r_8_w7 := x_r.frozen 8
    go_wp2
    refine ret_cell (by rfl) (by rfl) x_r Tryd.underlying26 sz_rec (by rfl) ?_
    exact ⟨⟨4, a, o, t, 1 + m, ⟨0, 0, 0, 0⟩⟩, rfl, recDrawn_ok (by omega) (by omega) (by omega) (by omega) (by omega) (by omega) (by omega) (by omega) (by omega) (fun h => by omega) (fun _ => rfl), ⟨by show (1 + m : Int) ≤ 60; omega, by show (⟨0, 0, 0, 0⟩ : MMsg).Amt ≤ 90; first | exact hM9.2 | decide⟩, hk, C_w7⟩
  · -- 5
    obtain ⟨w6, e_w6, s_w6, h_w6, x_v⟩ := alloc_step w5 26 [.int .i64 5, .int .i64 a, .int .i64 o, .int .i64 t, .int .i64 (1 + m), .int .i64 0, .int .i64 0, .int .i64 0, .int .i64 0]
    have s_w6_1 := Nat.le_of_eq s_w6
    have s_w6_2 := Nat.le_of_eq s_w6.symm
    clear s_w6
    replace x_r := x_r.from_ h_w6
    replace hk := hk.below h_w6
    have B_w6 := B_w5.trans (h_w6.mono (Nat.le_trans hgle B_w5.size))
    have C_w6 := C_w5.then_below h_w6
    have i_w6_8 := x_v.same (i := 8) rfl
    have i_w6_7 := x_v.same (i := 7) rfl
    have i_w6_6 := x_v.same (i := 6) rfl
    have i_w6_5 := x_v.same (i := 5) rfl
    have c_r_0_w6 := x_r.cell (i := 0) rfl
    have f_r_0_w6 := x_r.frozen 0
    have c_r_1_w6 := x_r.cell (i := 1) rfl
    have f_r_1_w6 := x_r.frozen 1
    have c_r_2_w6 := x_r.cell (i := 2) rfl
    have f_r_2_w6 := x_r.frozen 2
    have c_r_3_w6 := x_r.cell (i := 3) rfl
    have f_r_3_w6 := x_r.frozen 3
    have c_r_4_w6 := x_r.cell (i := 4) rfl
    have f_r_4_w6 := x_r.frozen 4
    have c_r_5_w6 := x_r.cell (i := 5) rfl
    have f_r_5_w6 := x_r.frozen 5
    have c_r_6_w6 := x_r.cell (i := 6) rfl
    have f_r_6_w6 := x_r.frozen 6
    have c_r_7_w6 := x_r.cell (i := 7) rfl
    have f_r_7_w6 := x_r.frozen 7
    have c_r_8_w6 := x_r.cell (i := 8) rfl
    have f_r_8_w6 := x_r.frozen 8
    have c_v_0_w6 := x_v.cell (i := 0) rfl
    have f_v_0_w6 := x_v.frozen 0
    have c_v_1_w6 := x_v.cell (i := 1) rfl
    have f_v_1_w6 := x_v.frozen 1
    have c_v_2_w6 := x_v.cell (i := 2) rfl
    have f_v_2_w6 := x_v.frozen 2
    have c_v_3_w6 := x_v.cell (i := 3) rfl
    have f_v_3_w6 := x_v.frozen 3
    have c_v_4_w6 := x_v.cell (i := 4) rfl
    have f_v_4_w6 := x_v.frozen 4
    have c_v_5_w6 := x_v.cell (i := 5) rfl
    have f_v_5_w6 := x_v.frozen 5
    have c_v_6_w6 := x_v.cell (i := 6) rfl
    have f_v_6_w6 := x_v.frozen 6
    have c_v_7_w6 := x_v.cell (i := 7) rfl
    have f_v_7_w6 := x_v.frozen 7
    have c_v_8_w6 := x_v.cell (i := 8) rfl
    have f_v_8_w6 := x_v.frozen 8
    go_wp2_with fail
    refine (sHas_5 _).mono ?_
    rintro e w' ⟨rfl, rfl⟩
    obtain ⟨w7, e_w7, s_w7, h_w7, y⟩ := set_step x_v 1 (.int .i64 0)
    have s_w7_1 := Nat.le_of_eq s_w7
    have s_w7_2 := Nat.le_of_eq s_w7.symm
    clear s_w7
    replace x_r := x_r.chg h_w7 (by omega)
    replace hk := hk.chg h_w7 (by omega)
    have B_w7 := Below.chg_ B_w6 h_w7 (by omega) (by omega)
    have C_w7 := C_w6.then_new h_w7 (by omega)
    replace x_v : Vr w7 (w5.heap.size) 26 [.int .i64 5, .int .i64 0, .int .i64 o, .int .i64 t, .int .i64 (1 + m), .int .i64 0, .int .i64 0, .int .i64 0, .int .i64 0] := y
    clear y
    have c_r_0_w7 := x_r.cell (i := 0) rfl
    have f_r_0_w7 := x_r.frozen 0
    have c_r_1_w7 := x_r.cell (i := 1) rfl
    have f_r_1_w7 := x_r.frozen 1
    have c_r_2_w7 := x_r.cell (i := 2) rfl
    have f_r_2_w7 := x_r.frozen 2
    have c_r_3_w7 := x_r.cell (i := 3) rfl
    have f_r_3_w7 := x_r.frozen 3
    have c_r_4_w7 := x_r.cell (i := 4) rfl
    have f_r_4_w7 := x_r.frozen 4
    have c_r_5_w7 := x_r.cell (i := 5) rfl
    have f_r_5_w7 := x_r.frozen 5
    have c_r_6_w7 := x_r.cell (i := 6) rfl
    have f_r_6_w7 := x_r.frozen 6
    have c_r_7_w7 := x_r.cell (i := 7) rfl
    have f_r_7_w7 := x_r.frozen 7
    have c_r_8_w7 := x_r.cell (i := 8) rfl
    have f_r_8_w7 := x_r.frozen 8
    have c_v_0_w7 := x_v.cell (i := 0) rfl
    have f_v_0_w7 := x_v.frozen 0
    have c_v_1_w7 := x_v.cell (i := 1) rfl
    have f_v_1_w7 := x_v.frozen 1
    have c_v_2_w7 := x_v.cell (i := 2) rfl
    have f_v_2_w7 := x_v.frozen 2
    have c_v_3_w7 := x_v.cell (i := 3) rfl
    have f_v_3_w7 := x_v.frozen 3
    have c_v_4_w7 := x_v.cell (i := 4) rfl
    have f_v_4_w7 := x_v.frozen 4
    have c_v_5_w7 := x_v.cell (i := 5) rfl
    have f_v_5_w7 := x_v.frozen 5
    have c_v_6_w7 := x_v.cell (i := 6) rfl
    have f_v_6_w7 := x_v.frozen 6
    have c_v_7_w7 := x_v.cell (i := 7) rfl
    have f_v_7_w7 := x_v.frozen 7
    have c_v_8_w7 := x_v.cell (i := 8) rfl
    have f_v_8_w7 := x_v.frozen 8
    obtain ⟨w8, e_w8, s_w8, h_w8, y⟩ := set_step x_v 2 (.int .i64 0)
    have s_w8_1 := Nat.le_of_eq s_w8
    have s_w8_2 := Nat.le_of_eq s_w8.symm
    clear s_w8
    replace x_r := x_r.chg h_w8 (by omega)
    replace hk := hk.chg h_w8 (by omega)
    have B_w8 := Below.chg_ B_w7 h_w8 (by omega) (by omega)
    have C_w8 := C_w7.then_new h_w8 (by omega)
    replace x_v : Vr w8 (w5.heap.size) 26 [.int .i64 5, .int .i64 0, .int .i64 0, .int .i64 t, .int .i64 (1 + m), .int .i64 0, .int .i64 0, .int .i64 0, .int .i64 0] := y
    clear y
    have c_r_0_w8 := x_r.cell (i := 0) rfl
    have f_r_0_w8 := x_r.frozen 0
    have c_r_1_w8 := x_r.cell (i := 1) rfl
    have f_r_1_w8 := x_r.frozen 1
    have c_r_2_w8 := x_r.cell (i := 2) rfl
    have f_r_2_w8 := x_r.frozen 2
    have c_r_3_w8 := x_r.cell (i := 3) rfl
    have f_r_3_w8 := x_r.frozen 3
    have c_r_4_w8 := x_r.cell (i := 4) rfl
    have f_r_4_w8 := x_r.frozen 4
    have c_r_5_w8 := x_r.cell (i := 5) rfl
    have f_r_5_w8 := x_r.frozen 5
    have c_r_6_w8 := x_r.cell (i := 6) rfl
    have f_r_6_w8 := x_r.frozen 6
    have c_r_7_w8 := x_r.cell (i := 7) rfl
    have f_r_7_w8 := x_r.frozen 7
    have c_r_8_w8 := x_r.cell (i := 8) rfl
    have f_r_8_w8 := x_r.frozen 8
    have c_v_0_w8 := x_v.cell (i := 0) rfl
    have f_v_0_w8 := x_v.frozen 0
    have c_v_1_w8 := x_v.cell (i := 1) rfl
    have f_v_1_w8 := x_v.frozen 1
    have c_v_2_w8 := x_v.cell (i := 2) rfl
    have f_v_2_w8 := x_v.frozen 2
    have c_v_3_w8 := x_v.cell (i := 3) rfl
    have f_v_3_w8 := x_v.frozen 3
    have c_v_4_w8 := x_v.cell (i := 4) rfl
    have f_v_4_w8 := x_v.frozen 4
    have c_v_5_w8 := x_v.cell (i := 5) rfl
    have f_v_5_w8 := x_v.frozen 5
    have c_v_6_w8 := x_v.cell (i := 6) rfl
    have f_v_6_w8 := x_v.frozen 6
    have c_v_7_w8 := x_v.cell (i := 7) rfl
    have f_v_7_w8 := x_v.frozen 7
    have c_v_8_w8 := x_v.cell (i := 8) rfl
    have f_v_8_w8 := x_v.frozen 8
    go_wp2_with fail
    refine (cMsg_c hk hb hm).mono ?_
    rintro e w9 ⟨M, rfl, hM, hM9, y, h_w9⟩
    clear c_r_0_w5 f_r_0_w5 c_r_1_w5 f_r_1_w5 c_r_2_w5 f_r_2_w5 c_r_3_w5 f_r_3_w5 c_r_4_w5 f_r_4_w5 c_r_5_w5 f_r_5_w5 c_r_6_w5 f_r_6_w5 c_r_7_w5 f_r_7_w5 c_r_8_w5 f_r_8_w5 i_w6_8 i_w6_7 i_w6_6 i_w6_5 c_r_0_w6 f_r_0_w6 c_r_1_w6 f_r_1_w6 c_r_2_w6 f_r_2_w6 c_r_3_w6 f_r_3_w6 c_r_4_w6 f_r_4_w6 c_r_5_w6 f_r_5_w6 c_r_6_w6 f_r_6_w6 c_r_7_w6 f_r_7_w6 c_r_8_w6 f_r_8_w6 c_v_0_w6 f_v_0_w6 c_v_1_w6 f_v_1_w6 c_v_2_w6 f_v_2_w6 c_v_3_w6 f_v_3_w6 c_v_4_w6 f_v_4_w6 c_v_5_w6 f_v_5_w6 c_v_6_w6 f_v_6_w6 c_v_7_w6 f_v_7_w6 c_v_8_w6 f_v_8_w6 c_r_0_w7 f_r_0_w7 c_r_1_w7 f_r_1_w7 c_r_2_w7 f_r_2_w7 c_r_3_w7 f_r_3_w7 c_r_4_w7 f_r_4_w7 c_r_5_w7 f_r_5_w7 c_r_6_w7 f_r_6_w7 c_r_7_w7 f_r_7_w7 c_r_8_w7 f_r_8_w7 c_v_0_w7 f_v_0_w7 c_v_1_w7 f_v_1_w7 c_v_2_w7 f_v_2_w7 c_v_3_w7 f_v_3_w7 c_v_4_w7 f_v_4_w7 c_v_5_w7 f_v_5_w7 c_v_6_w7 f_v_6_w7 c_v_7_w7 f_v_7_w7 c_v_8_w7 f_v_8_w7 c_r_0_w8 f_r_0_w8 c_r_1_w8 f_r_1_w8 c_r_2_w8 f_r_2_w8 c_r_3_w8 f_r_3_w8 c_r_4_w8 f_r_4_w8 c_r_5_w8 f_r_5_w8 c_r_6_w8 f_r_6_w8 c_r_7_w8 f_r_7_w8 c_r_8_w8 f_r_8_w8 c_v_0_w8 f_v_0_w8 c_v_1_w8 f_v_1_w8 c_v_2_w8 f_v_2_w8 c_v_3_w8 f_v_3_w8 c_v_4_w8 f_v_4_w8 c_v_5_w8 f_v_5_w8 c_v_6_w8 f_v_6_w8 c_v_7_w8 f_v_7_w8 c_v_8_w8 f_v_8_w8
    replace x_r := x_r.chg h_w9 (by omega)
    replace x_v := x_v.chg h_w9 (by omega)
    have B_w9 := Below.chg_ B_w8 h_w9 (by omega) (by omega)
    have C_w9 := C_w8.then_same h_w9
    have s_w9 := h_w9.size
    replace hk := y
    clear y
    have c_r_0_w9 := x_r.cell (i := 0) rfl
    have f_r_0_w9 := x_r.frozen 0
    have c_r_1_w9 := x_r.cell (i := 1) rfl
    have f_r_1_w9 := x_r.frozen 1
    have c_r_2_w9 := x_r.cell (i := 2) rfl
    have f_r_2_w9 := x_r.frozen 2
    have c_r_3_w9 := x_r.cell (i := 3) rfl
    have f_r_3_w9 := x_r.frozen 3
    have c_r_4_w9 := x_r.cell (i := 4) rfl
    have f_r_4_w9 := x_r.frozen 4
    have c_r_5_w9 := x_r.cell (i := 5) rfl
    have f_r_5_w9 := x_r.frozen 5
    have c_r_6_w9 := x_r.cell (i := 6) rfl
    have f_r_6_w9 := x_r.frozen 6
    have c_r_7_w9 := x_r.cell (i := 7) rfl
    have f_r_7_w9 := x_r.frozen 7
    have c_r_8_w9 := x_r.cell (i := 8) rfl
    have f_r_8_w9 := x_r.frozen 8
    have c_v_0_w9 := x_v.cell (i := 0) rfl
    have f_v_0_w9 := x_v.frozen 0
    have c_v_1_w9 := x_v.cell (i := 1) rfl
    have f_v_1_w9 := x_v.frozen 1
    have c_v_2_w9 := x_v.cell (i := 2) rfl
    have f_v_2_w9 := x_v.frozen 2
    have c_v_3_w9 := x_v.cell (i := 3) rfl
    have f_v_3_w9 := x_v.frozen 3
    have c_v_4_w9 := x_v.cell (i := 4) rfl
    have f_v_4_w9 := x_v.frozen 4
    have c_v_5_w9 := x_v.cell (i := 5) rfl
    have f_v_5_w9 := x_v.frozen 5
    have c_v_6_w9 := x_v.cell (i := 6) rfl
    have f_v_6_w9 := x_v.frozen 6
    have c_v_7_w9 := x_v.cell (i := 7) rfl
    have f_v_7_w9 := x_v.frozen 7
    have c_v_8_w9 := x_v.cell (i := 8) rfl
    have f_v_8_w9 := x_v.frozen 8
    obtain ⟨w10, e_w10, s_w10, h_w10, y⟩ := set_step x_v 5 (.int .i64 M.Kind)
    have s_w10_1 := Nat.le_of_eq s_w10
    have s_w10_2 := Nat.le_of_eq s_w10.symm
    clear s_w10
    replace x_r := x_r.chg h_w10 (by omega)
    replace hk := hk.chg h_w10 (by omega)
    have B_w10 := Below.chg_ B_w9 h_w10 (by omega) (by omega)
    have C_w10 := C_w9.then_new h_w10 (by omega)
    replace x_v : Vr w10 (w5.heap.size) 26 [.int .i64 5, .int .i64 0, .int .i64 0, .int .i64 t, .int .i64 (1 + m), .int .i64 M.Kind, .int .i64 0, .int .i64 0, .int .i64 0] := y
    clear y
    have c_r_0_w10 := x_r.cell (i := 0) rfl
    have f_r_0_w10 := x_r.frozen 0
    have c_r_1_w10 := x_r.cell (i := 1) rfl
    have f_r_1_w10 := x_r.frozen 1
    have c_r_2_w10 := x_r.cell (i := 2) rfl
    have f_r_2_w10 := x_r.frozen 2
    have c_r_3_w10 := x_r.cell (i := 3) rfl
    have f_r_3_w10 := x_r.frozen 3
    have c_r_4_w10 := x_r.cell (i := 4) rfl
    have f_r_4_w10 := x_r.frozen 4
    have c_r_5_w10 := x_r.cell (i := 5) rfl
    have f_r_5_w10 := x_r.frozen 5
    have c_r_6_w10 := x_r.cell (i := 6) rfl
    have f_r_6_w10 := x_r.frozen 6
    have c_r_7_w10 := x_r.cell (i := 7) rfl
    have f_r_7_w10 := x_r.frozen 7
    have c_r_8_w10 := x_r.cell (i := 8) rfl
    have f_r_8_w10 := x_r.frozen 8
    have c_v_0_w10 := x_v.cell (i := 0) rfl
    have f_v_0_w10 := x_v.frozen 0
    have c_v_1_w10 := x_v.cell (i := 1) rfl
    have f_v_1_w10 := x_v.frozen 1
    have c_v_2_w10 := x_v.cell (i := 2) rfl
    have f_v_2_w10 := x_v.frozen 2
    have c_v_3_w10 := x_v.cell (i := 3) rfl
    have f_v_3_w10 := x_v.frozen 3
    have c_v_4_w10 := x_v.cell (i := 4) rfl
    have f_v_4_w10 := x_v.frozen 4
    have c_v_5_w10 := x_v.cell (i := 5) rfl
    have f_v_5_w10 := x_v.frozen 5
    have c_v_6_w10 := x_v.cell (i := 6) rfl
    have f_v_6_w10 := x_v.frozen 6
    have c_v_7_w10 := x_v.cell (i := 7) rfl
    have f_v_7_w10 := x_v.frozen 7
    have c_v_8_w10 := x_v.cell (i := 8) rfl
    have f_v_8_w10 := x_v.frozen 8
    obtain ⟨w11, e_w11, s_w11, h_w11, y⟩ := set_step x_v 6 (.int .i64 M.Acct)
    have s_w11_1 := Nat.le_of_eq s_w11
    have s_w11_2 := Nat.le_of_eq s_w11.symm
    clear s_w11
    replace x_r := x_r.chg h_w11 (by omega)
    replace hk := hk.chg h_w11 (by omega)
    have B_w11 := Below.chg_ B_w10 h_w11 (by omega) (by omega)
    have C_w11 := C_w10.then_new h_w11 (by omega)
    replace x_v : Vr w11 (w5.heap.size) 26 [.int .i64 5, .int .i64 0, .int .i64 0, .int .i64 t, .int .i64 (1 + m), .int .i64 M.Kind, .int .i64 M.Acct, .int .i64 0, .int .i64 0] := y
    clear y
    have c_r_0_w11 := x_r.cell (i := 0) rfl
    have f_r_0_w11 := x_r.frozen 0
    have c_r_1_w11 := x_r.cell (i := 1) rfl
    have f_r_1_w11 := x_r.frozen 1
    have c_r_2_w11 := x_r.cell (i := 2) rfl
    have f_r_2_w11 := x_r.frozen 2
    have c_r_3_w11 := x_r.cell (i := 3) rfl
    have f_r_3_w11 := x_r.frozen 3
    have c_r_4_w11 := x_r.cell (i := 4) rfl
    have f_r_4_w11 := x_r.frozen 4
    have c_r_5_w11 := x_r.cell (i := 5) rfl
    have f_r_5_w11 := x_r.frozen 5
    have c_r_6_w11 := x_r.cell (i := 6) rfl
    have f_r_6_w11 := x_r.frozen 6
    have c_r_7_w11 := x_r.cell (i := 7) rfl
    have f_r_7_w11 := x_r.frozen 7
    have c_r_8_w11 := x_r.cell (i := 8) rfl
    have f_r_8_w11 := x_r.frozen 8
    have c_v_0_w11 := x_v.cell (i := 0) rfl
    have f_v_0_w11 := x_v.frozen 0
    have c_v_1_w11 := x_v.cell (i := 1) rfl
    have f_v_1_w11 := x_v.frozen 1
    have c_v_2_w11 := x_v.cell (i := 2) rfl
    have f_v_2_w11 := x_v.frozen 2
    have c_v_3_w11 := x_v.cell (i := 3) rfl
    have f_v_3_w11 := x_v.frozen 3
    have c_v_4_w11 := x_v.cell (i := 4) rfl
    have f_v_4_w11 := x_v.frozen 4
    have c_v_5_w11 := x_v.cell (i := 5) rfl
    have f_v_5_w11 := x_v.frozen 5
    have c_v_6_w11 := x_v.cell (i := 6) rfl
    have f_v_6_w11 := x_v.frozen 6
    have c_v_7_w11 := x_v.cell (i := 7) rfl
    have f_v_7_w11 := x_v.frozen 7
    have c_v_8_w11 := x_v.cell (i := 8) rfl
    have f_v_8_w11 := x_v.frozen 8
    obtain ⟨w12, e_w12, s_w12, h_w12, y⟩ := set_step x_v 7 (.int .i64 M.Amt)
    have s_w12_1 := Nat.le_of_eq s_w12
    have s_w12_2 := Nat.le_of_eq s_w12.symm
    clear s_w12
    replace x_r := x_r.chg h_w12 (by omega)
    replace hk := hk.chg h_w12 (by omega)
    have B_w12 := Below.chg_ B_w11 h_w12 (by omega) (by omega)
    have C_w12 := C_w11.then_new h_w12 (by omega)
    replace x_v : Vr w12 (w5.heap.size) 26 [.int .i64 5, .int .i64 0, .int .i64 0, .int .i64 t, .int .i64 (1 + m), .int .i64 M.Kind, .int .i64 M.Acct, .int .i64 M.Amt, .int .i64 0] := y
    clear y
    have c_r_0_w12 := x_r.cell (i := 0) rfl
    have f_r_0_w12 := x_r.frozen 0
    have c_r_1_w12 := x_r.cell (i := 1) rfl
    have f_r_1_w12 := x_r.frozen 1
    have c_r_2_w12 := x_r.cell (i := 2) rfl
    have f_r_2_w12 := x_r.frozen 2
    have c_r_3_w12 := x_r.cell (i := 3) rfl
    have f_r_3_w12 := x_r.frozen 3
    have c_r_4_w12 := x_r.cell (i := 4) rfl
    have f_r_4_w12 := x_r.frozen 4
    have c_r_5_w12 := x_r.cell (i := 5) rfl
    have f_r_5_w12 := x_r.frozen 5
    have c_r_6_w12 := x_r.cell (i := 6) rfl
    have f_r_6_w12 := x_r.frozen 6
    have c_r_7_w12 := x_r.cell (i := 7) rfl
    have f_r_7_w12 := x_r.frozen 7
    have c_r_8_w12 := x_r.cell (i := 8) rfl
    have f_r_8_w12 := x_r.frozen 8
    have c_v_0_w12 := x_v.cell (i := 0) rfl
    have f_v_0_w12 := x_v.frozen 0
    have c_v_1_w12 := x_v.cell (i := 1) rfl
    have f_v_1_w12 := x_v.frozen 1
    have c_v_2_w12 := x_v.cell (i := 2) rfl
    have f_v_2_w12 := x_v.frozen 2
    have c_v_3_w12 := x_v.cell (i := 3) rfl
    have f_v_3_w12 := x_v.frozen 3
    have c_v_4_w12 := x_v.cell (i := 4) rfl
    have f_v_4_w12 := x_v.frozen 4
    have c_v_5_w12 := x_v.cell (i := 5) rfl
    have f_v_5_w12 := x_v.frozen 5
    have c_v_6_w12 := x_v.cell (i := 6) rfl
    have f_v_6_w12 := x_v.frozen 6
    have c_v_7_w12 := x_v.cell (i := 7) rfl
    have f_v_7_w12 := x_v.frozen 7
    have c_v_8_w12 := x_v.cell (i := 8) rfl
    have f_v_8_w12 := x_v.frozen 8
    obtain ⟨w13, e_w13, s_w13, h_w13, y⟩ := set_step x_v 8 (.int .i64 M.Src)
    have s_w13_1 := Nat.le_of_eq s_w13
    have s_w13_2 := Nat.le_of_eq s_w13.symm
    clear s_w13
    replace x_r := x_r.chg h_w13 (by omega)
    replace hk := hk.chg h_w13 (by omega)
    have B_w13 := Below.chg_ B_w12 h_w13 (by omega) (by omega)
    have C_w13 := C_w12.then_new h_w13 (by omega)
    replace x_v : Vr w13 (w5.heap.size) 26 [.int .i64 5, .int .i64 0, .int .i64 0, .int .i64 t, .int .i64 (1 + m), .int .i64 M.Kind, .int .i64 M.Acct, .int .i64 M.Amt, .int .i64 M.Src] := y
    clear y
    have c_r_0_w13 := x_r.cell (i := 0) rfl
    have f_r_0_w13 := x_r.frozen 0
    have c_r_1_w13 := x_r.cell (i := 1) rfl
    have f_r_1_w13 := x_r.frozen 1
    have c_r_2_w13 := x_r.cell (i := 2) rfl
    have f_r_2_w13 := x_r.frozen 2
    have c_r_3_w13 := x_r.cell (i := 3) rfl
    have f_r_3_w13 := x_r.frozen 3
    have c_r_4_w13 := x_r.cell (i := 4) rfl
    have f_r_4_w13 := x_r.frozen 4
    have c_r_5_w13 := x_r.cell (i := 5) rfl
    have f_r_5_w13 := x_r.frozen 5
    have c_r_6_w13 := x_r.cell (i := 6) rfl
    have f_r_6_w13 := x_r.frozen 6
    have c_r_7_w13 := x_r.cell (i := 7) rfl
    have f_r_7_w13 := x_r.frozen 7
    have c_r_8_w13 := x_r.cell (i := 8) rfl
    have f_r_8_w13 := x_r.frozen 8
    have c_v_0_w13 := x_v.cell (i := 0) rfl
    have f_v_0_w13 := x_v.frozen 0
    have c_v_1_w13 := x_v.cell (i := 1) rfl
    have f_v_1_w13 := x_v.frozen 1
    have c_v_2_w13 := x_v.cell (i := 2) rfl
    have f_v_2_w13 := x_v.frozen 2
    have c_v_3_w13 := x_v.cell (i := 3) rfl
    have f_v_3_w13 := x_v.frozen 3
    have c_v_4_w13 := x_v.cell (i := 4) rfl
    have f_v_4_w13 := x_v.frozen 4
    have c_v_5_w13 := x_v.cell (i := 5) rfl
    have f_v_5_w13 := x_v.frozen 5
    have c_v_6_w13 := x_v.cell (i := 6) rfl
    have f_v_6_w13 := x_v.frozen 6
    have c_v_7_w13 := x_v.cell (i := 7) rfl
    have f_v_7_w13 := x_v.frozen 7
    have c_v_8_w13 := x_v.cell (i := 8) rfl
    have f_v_8_w13 := x_v.frozen 8
    obtain ⟨w14, e_w14, s_w14, h_w14, y⟩ := store_step x_r [.int .i64 5, .int .i64 0, .int .i64 0, .int .i64 t, .int .i64 (1 + m), .int .i64 M.Kind, .int .i64 M.Acct, .int .i64 M.Amt, .int .i64 M.Src] rfl
    replace e_w14 : (((((((((w13.setCell ⟨w.heap.size, 0, none⟩ (.int .i64 5)).setCell ⟨w.heap.size, 1, none⟩ (.int .i64 0)).setCell ⟨w.heap.size, 2, none⟩ (.int .i64 0)).setCell ⟨w.heap.size, 3, none⟩ (.int .i64 t)).setCell ⟨w.heap.size, 4, none⟩ (.int .i64 (1 + m))).setCell ⟨w.heap.size, 5, none⟩ (.int .i64 M.Kind)).setCell ⟨w.heap.size, 6, none⟩ (.int .i64 M.Acct)).setCell ⟨w.heap.size, 7, none⟩ (.int .i64 M.Amt)).setCell ⟨w.heap.size, 8, none⟩ (.int .i64 M.Src)) = w14 := e_w14
    have s_w14_1 := Nat.le_of_eq s_w14
    have s_w14_2 := Nat.le_of_eq s_w14.symm
    clear s_w14
    replace x_v := x_v.chg h_w14 (by omega)
    replace hk := hk.chg h_w14 (by omega)
    have B_w14 := Below.chg_ B_w13 h_w14 (by omega) (by omega)
    have C_w14 := C_w13.then_new h_w14 (by omega)
    replace x_r : Vr w14 (w.heap.size) 26 [.int .i64 5, .int .i64 0, .int .i64 0, .int .i64 t, .int .i64 (1 + m), .int .i64 M.Kind, .int .i64 M.Acct, .int .i64 M.Amt, .int .i64 M.Src] := y
    clear y
    have c_r_0_w14 := x_r.cell (i := 0) rfl
    have f_r_0_w14 := x_r.frozen 0
    have c_r_1_w14 := x_r.cell (i := 1) rfl
    have f_r_1_w14 := x_r.frozen 1
    have c_r_2_w14 := x_r.cell (i := 2) rfl
    have f_r_2_w14 := x_r.frozen 2
    have c_r_3_w14 := x_r.cell (i := 3) rfl
    have f_r_3_w14 := x_r.frozen 3
    have c_r_4_w14 := x_r.cell (i := 4) rfl
    have f_r_4_w14 := x_r.frozen 4
    have c_r_5_w14 := x_r.cell (i := 5) rfl
    have f_r_5_w14 := x_r.frozen 5
    have c_r_6_w14 := x_r.cell (i := 6) rfl
    have f_r_6_w14 := x_r.frozen 6
    have c_r_7_w14 := x_r.cell (i := 7) rfl
    have f_r_7_w14 := x_r.frozen 7
    have c_r_8_w14 := x_r.cell (i := 8) rfl
    have f_r_8_w14 := x_r.frozen 8
    go_wp2
    refine ret_cell (by rfl) (by rfl) x_r Tryd.underlying26 sz_rec (by rfl) ?_
    exact ⟨⟨5, 0, 0, t, 1 + m, M⟩, rfl, recDrawn_ok (by omega) (by omega) (by omega) (by omega) (by omega) (by omega) (by omega) (by omega) (by omega) (fun _ => hM) (fun h => absurd rfl h), ⟨by show (1 + m : Int) ≤ 60; omega, by show (M : MMsg).Amt ≤ 90; first | exact hM9.2 | decide⟩, hk, C_w14⟩
  · -- 6
    obtain ⟨w6, e_w6, s_w6, h_w6, x_v⟩ := alloc_step w5 26 [.int .i64 6, .int .i64 a, .int .i64 o, .int .i64 t, .int .i64 (1 + m), .int .i64 0, .int .i64 0, .int .i64 0, .int .i64 0]
    have s_w6_1 := Nat.le_of_eq s_w6
    have s_w6_2 := Nat.le_of_eq s_w6.symm
    clear s_w6
    replace x_r := x_r.from_ h_w6
    replace hk := hk.below h_w6
    have B_w6 := B_w5.trans (h_w6.mono (Nat.le_trans hgle B_w5.size))
    have C_w6 := C_w5.then_below h_w6
    have i_w6_8 := x_v.same (i := 8) rfl
    have i_w6_7 := x_v.same (i := 7) rfl
    have i_w6_6 := x_v.same (i := 6) rfl
    have i_w6_5 := x_v.same (i := 5) rfl
    have c_r_0_w6 := x_r.cell (i := 0) rfl
    have f_r_0_w6 := x_r.frozen 0
    have c_r_1_w6 := x_r.cell (i := 1) rfl
    have f_r_1_w6 := x_r.frozen 1
    have c_r_2_w6 := x_r.cell (i := 2) rfl
    have f_r_2_w6 := x_r.frozen 2
    have c_r_3_w6 := x_r.cell (i := 3) rfl
    have f_r_3_w6 := x_r.frozen 3
    have c_r_4_w6 := x_r.cell (i := 4) rfl
    have f_r_4_w6 := x_r.frozen 4
    have c_r_5_w6 := x_r.cell (i := 5) rfl
    have f_r_5_w6 := x_r.frozen 5
    have c_r_6_w6 := x_r.cell (i := 6) rfl
    have f_r_6_w6 := x_r.frozen 6
    have c_r_7_w6 := x_r.cell (i := 7) rfl
    have f_r_7_w6 := x_r.frozen 7
    have c_r_8_w6 := x_r.cell (i := 8) rfl
    have f_r_8_w6 := x_r.frozen 8
    have c_v_0_w6 := x_v.cell (i := 0) rfl
    have f_v_0_w6 := x_v.frozen 0
    have c_v_1_w6 := x_v.cell (i := 1) rfl
    have f_v_1_w6 := x_v.frozen 1
    have c_v_2_w6 := x_v.cell (i := 2) rfl
    have f_v_2_w6 := x_v.frozen 2
    have c_v_3_w6 := x_v.cell (i := 3) rfl
    have f_v_3_w6 := x_v.frozen 3
    have c_v_4_w6 := x_v.cell (i := 4) rfl
    have f_v_4_w6 := x_v.frozen 4
    have c_v_5_w6 := x_v.cell (i := 5) rfl
    have f_v_5_w6 := x_v.frozen 5
    have c_v_6_w6 := x_v.cell (i := 6) rfl
    have f_v_6_w6 := x_v.frozen 6
    have c_v_7_w6 := x_v.cell (i := 7) rfl
    have f_v_7_w6 := x_v.frozen 7
    have c_v_8_w6 := x_v.cell (i := 8) rfl
    have f_v_8_w6 := x_v.frozen 8
    go_wp2_with fail
    refine (sHas_6 _).mono ?_
    rintro e w' ⟨rfl, rfl⟩
    obtain ⟨w7, e_w7, s_w7, h_w7, y⟩ := set_step x_v 1 (.int .i64 0)
    have s_w7_1 := Nat.le_of_eq s_w7
    have s_w7_2 := Nat.le_of_eq s_w7.symm
    clear s_w7
    replace x_r := x_r.chg h_w7 (by omega)
    replace hk := hk.chg h_w7 (by omega)
    have B_w7 := Below.chg_ B_w6 h_w7 (by omega) (by omega)
    have C_w7 := C_w6.then_new h_w7 (by omega)
    replace x_v : Vr w7 (w5.heap.size) 26 [.int .i64 6, .int .i64 0, .int .i64 o, .int .i64 t, .int .i64 (1 + m), .int .i64 0, .int .i64 0, .int .i64 0, .int .i64 0] := y
    clear y
    have c_r_0_w7 := x_r.cell (i := 0) rfl
    have f_r_0_w7 := x_r.frozen 0
    have c_r_1_w7 := x_r.cell (i := 1) rfl
    have f_r_1_w7 := x_r.frozen 1
    have c_r_2_w7 := x_r.cell (i := 2) rfl
    have f_r_2_w7 := x_r.frozen 2
    have c_r_3_w7 := x_r.cell (i := 3) rfl
    have f_r_3_w7 := x_r.frozen 3
    have c_r_4_w7 := x_r.cell (i := 4) rfl
    have f_r_4_w7 := x_r.frozen 4
    have c_r_5_w7 := x_r.cell (i := 5) rfl
    have f_r_5_w7 := x_r.frozen 5
    have c_r_6_w7 := x_r.cell (i := 6) rfl
    have f_r_6_w7 := x_r.frozen 6
    have c_r_7_w7 := x_r.cell (i := 7) rfl
    have f_r_7_w7 := x_r.frozen 7
    have c_r_8_w7 := x_r.cell (i := 8) rfl
    have f_r_8_w7 := x_r.frozen 8
    have c_v_0_w7 := x_v.cell (i := 0) rfl
    have f_v_0_w7 := x_v.frozen 0
    have c_v_1_w7 := x_v.cell (i := 1) rfl
    have f_v_1_w7 := x_v.frozen 1
    have c_v_2_w7 := x_v.cell (i := 2) rfl
    have f_v_2_w7 := x_v.frozen 2
    have c_v_3_w7 := x_v.cell (i := 3) rfl
    have f_v_3_w7 := x_v.frozen 3
    have c_v_4_w7 := x_v.cell (i := 4) rfl
    have f_v_4_w7 := x_v.frozen 4
    have c_v_5_w7 := x_v.cell (i := 5) rfl
    have f_v_5_w7 := x_v.frozen 5
    have c_v_6_w7 := x_v.cell (i := 6) rfl
    have f_v_6_w7 := x_v.frozen 6
    have c_v_7_w7 := x_v.cell (i := 7) rfl
    have f_v_7_w7 := x_v.frozen 7
    have c_v_8_w7 := x_v.cell (i := 8) rfl
    have f_v_8_w7 := x_v.frozen 8
    obtain ⟨w8, e_w8, s_w8, h_w8, y⟩ := set_step x_v 2 (.int .i64 0)
    have s_w8_1 := Nat.le_of_eq s_w8
    have s_w8_2 := Nat.le_of_eq s_w8.symm
    clear s_w8
    replace x_r := x_r.chg h_w8 (by omega)
    replace hk := hk.chg h_w8 (by omega)
    have B_w8 := Below.chg_ B_w7 h_w8 (by omega) (by omega)
    have C_w8 := C_w7.then_new h_w8 (by omega)
    replace x_v : Vr w8 (w5.heap.size) 26 [.int .i64 6, .int .i64 0, .int .i64 0, .int .i64 t, .int .i64 (1 + m), .int .i64 0, .int .i64 0, .int .i64 0, .int .i64 0] := y
    clear y
    have c_r_0_w8 := x_r.cell (i := 0) rfl
    have f_r_0_w8 := x_r.frozen 0
    have c_r_1_w8 := x_r.cell (i := 1) rfl
    have f_r_1_w8 := x_r.frozen 1
    have c_r_2_w8 := x_r.cell (i := 2) rfl
    have f_r_2_w8 := x_r.frozen 2
    have c_r_3_w8 := x_r.cell (i := 3) rfl
    have f_r_3_w8 := x_r.frozen 3
    have c_r_4_w8 := x_r.cell (i := 4) rfl
    have f_r_4_w8 := x_r.frozen 4
    have c_r_5_w8 := x_r.cell (i := 5) rfl
    have f_r_5_w8 := x_r.frozen 5
    have c_r_6_w8 := x_r.cell (i := 6) rfl
    have f_r_6_w8 := x_r.frozen 6
    have c_r_7_w8 := x_r.cell (i := 7) rfl
    have f_r_7_w8 := x_r.frozen 7
    have c_r_8_w8 := x_r.cell (i := 8) rfl
    have f_r_8_w8 := x_r.frozen 8
    have c_v_0_w8 := x_v.cell (i := 0) rfl
    have f_v_0_w8 := x_v.frozen 0
    have c_v_1_w8 := x_v.cell (i := 1) rfl
    have f_v_1_w8 := x_v.frozen 1
    have c_v_2_w8 := x_v.cell (i := 2) rfl
    have f_v_2_w8 := x_v.frozen 2
    have c_v_3_w8 := x_v.cell (i := 3) rfl
    have f_v_3_w8 := x_v.frozen 3
    have c_v_4_w8 := x_v.cell (i := 4) rfl
    have f_v_4_w8 := x_v.frozen 4
    have c_v_5_w8 := x_v.cell (i := 5) rfl
    have f_v_5_w8 := x_v.frozen 5
    have c_v_6_w8 := x_v.cell (i := 6) rfl
    have f_v_6_w8 := x_v.frozen 6
    have c_v_7_w8 := x_v.cell (i := 7) rfl
    have f_v_7_w8 := x_v.frozen 7
    have c_v_8_w8 := x_v.cell (i := 8) rfl
    have f_v_8_w8 := x_v.frozen 8
    obtain ⟨w9, e_w9, s_w9, h_w9, y⟩ := store_step x_r [.int .i64 6, .int .i64 0, .int .i64 0, .int .i64 t, .int .i64 (1 + m), .int .i64 0, .int .i64 0, .int .i64 0, .int .i64 0] rfl
    replace e_w9 : (((((((((w8.setCell ⟨w.heap.size, 0, none⟩ (.int .i64 6)).setCell ⟨w.heap.size, 1, none⟩ (.int .i64 0)).setCell ⟨w.heap.size, 2, none⟩ (.int .i64 0)).setCell ⟨w.heap.size, 3, none⟩ (.int .i64 t)).setCell ⟨w.heap.size, 4, none⟩ (.int .i64 (1 + m))).setCell ⟨w.heap.size, 5, none⟩ (.int .i64 0)).setCell ⟨w.heap.size, 6, none⟩ (.int .i64 0)).setCell ⟨w.heap.size, 7, none⟩ (.int .i64 0)).setCell ⟨w.heap.size, 8, none⟩ (.int .i64 0)) = w9 := e_w9
    have s_w9_1 := Nat.le_of_eq s_w9
    have s_w9_2 := Nat.le_of_eq s_w9.symm
    clear s_w9
    replace x_v := x_v.chg h_w9 (by omega)
    replace hk := hk.chg h_w9 (by omega)
    have B_w9 := Below.chg_ B_w8 h_w9 (by omega) (by omega)
    have C_w9 := C_w8.then_new h_w9 (by omega)
    replace x_r : Vr w9 (w.heap.size) 26 [.int .i64 6, .int .i64 0, .int .i64 0, .int .i64 t, .int .i64 (1 + m), .int .i64 0, .int .i64 0, .int .i64 0, .int .i64 0] := y
    clear y
    have c_r_0_w9 := x_r.cell (i := 0) rfl
    have f_r_0_w9 := x_r.frozen 0
    have c_r_1_w9 := x_r.cell (i := 1) rfl
    have f_r_1_w9 := x_r.frozen 1
    have c_r_2_w9 := x_r.cell (i := 2) rfl
    have f_r_2_w9 := x_r.frozen 2
    have c_r_3_w9 := x_r.cell (i := 3) rfl
    have f_r_3_w9 := x_r.frozen 3
    have c_r_4_w9 := x_r.cell (i := 4) rfl
    have f_r_4_w9 := x_r.frozen 4
    have c_r_5_w9 := x_r.cell (i := 5) rfl
    have f_r_5_w9 := x_r.frozen 5
    have c_r_6_w9 := x_r.cell (i := 6) rfl
    have f_r_6_w9 := x_r.frozen 6
    have c_r_7_w9 := x_r.cell (i := 7) rfl
    have f_r_7_w9 := x_r.frozen 7
    have c_r_8_w9 := x_r.cell (i := 8) rfl
    have f_r_8_w9 := x_r.frozen 8
    go_wp2
    refine ret_cell (by rfl) (by rfl) x_r Tryd.underlying26 sz_rec (by rfl) ?_
    exact ⟨⟨6, 0, 0, t, 1 + m, ⟨0, 0, 0, 0⟩⟩, rfl, recDrawn_ok (by omega) (by omega) (by omega) (by omega) (by omega) (by omega) (by omega) (by omega) (by omega) (fun h => by omega) (fun _ => rfl), ⟨by show (1 + m : Int) ≤ 60; omega, by show (⟨0, 0, 0, 0⟩ : MMsg).Amt ≤ 90; first | exact hM9.2 | decide⟩, hk, C_w9⟩
  · -- 7
    obtain ⟨w6, e_w6, s_w6, h_w6, x_v⟩ := alloc_step w5 26 [.int .i64 7, .int .i64 a, .int .i64 o, .int .i64 t, .int .i64 (1 + m), .int .i64 0, .int .i64 0, .int .i64 0, .int .i64 0]
    have s_w6_1 := Nat.le_of_eq s_w6
    have s_w6_2 := Nat.le_of_eq s_w6.symm
    clear s_w6
    replace x_r := x_r.from_ h_w6
    replace hk := hk.below h_w6
    have B_w6 := B_w5.trans (h_w6.mono (Nat.le_trans hgle B_w5.size))
    have C_w6 := C_w5.then_below h_w6
    have i_w6_8 := x_v.same (i := 8) rfl
    have i_w6_7 := x_v.same (i := 7) rfl
    have i_w6_6 := x_v.same (i := 6) rfl
    have i_w6_5 := x_v.same (i := 5) rfl
    have c_r_0_w6 := x_r.cell (i := 0) rfl
    have f_r_0_w6 := x_r.frozen 0
    have c_r_1_w6 := x_r.cell (i := 1) rfl
    have f_r_1_w6 := x_r.frozen 1
    have c_r_2_w6 := x_r.cell (i := 2) rfl
    have f_r_2_w6 := x_r.frozen 2
    have c_r_3_w6 := x_r.cell (i := 3) rfl
    have f_r_3_w6 := x_r.frozen 3
    have c_r_4_w6 := x_r.cell (i := 4) rfl
    have f_r_4_w6 := x_r.frozen 4
    have c_r_5_w6 := x_r.cell (i := 5) rfl
    have f_r_5_w6 := x_r.frozen 5
    have c_r_6_w6 := x_r.cell (i := 6) rfl
    have f_r_6_w6 := x_r.frozen 6
    have c_r_7_w6 := x_r.cell (i := 7) rfl
    have f_r_7_w6 := x_r.frozen 7
    have c_r_8_w6 := x_r.cell (i := 8) rfl
    have f_r_8_w6 := x_r.frozen 8
    have c_v_0_w6 := x_v.cell (i := 0) rfl
    have f_v_0_w6 := x_v.frozen 0
    have c_v_1_w6 := x_v.cell (i := 1) rfl
    have f_v_1_w6 := x_v.frozen 1
    have c_v_2_w6 := x_v.cell (i := 2) rfl
    have f_v_2_w6 := x_v.frozen 2
    have c_v_3_w6 := x_v.cell (i := 3) rfl
    have f_v_3_w6 := x_v.frozen 3
    have c_v_4_w6 := x_v.cell (i := 4) rfl
    have f_v_4_w6 := x_v.frozen 4
    have c_v_5_w6 := x_v.cell (i := 5) rfl
    have f_v_5_w6 := x_v.frozen 5
    have c_v_6_w6 := x_v.cell (i := 6) rfl
    have f_v_6_w6 := x_v.frozen 6
    have c_v_7_w6 := x_v.cell (i := 7) rfl
    have f_v_7_w6 := x_v.frozen 7
    have c_v_8_w6 := x_v.cell (i := 8) rfl
    have f_v_8_w6 := x_v.frozen 8
    go_wp2_with fail
    refine (sHas_7 _).mono ?_
    rintro e w' ⟨rfl, rfl⟩
    obtain ⟨w7, e_w7, s_w7, h_w7, y⟩ := set_step x_v 2 (.int .i64 0)
    have s_w7_1 := Nat.le_of_eq s_w7
    have s_w7_2 := Nat.le_of_eq s_w7.symm
    clear s_w7
    replace x_r := x_r.chg h_w7 (by omega)
    replace hk := hk.chg h_w7 (by omega)
    have B_w7 := Below.chg_ B_w6 h_w7 (by omega) (by omega)
    have C_w7 := C_w6.then_new h_w7 (by omega)
    replace x_v : Vr w7 (w5.heap.size) 26 [.int .i64 7, .int .i64 a, .int .i64 0, .int .i64 t, .int .i64 (1 + m), .int .i64 0, .int .i64 0, .int .i64 0, .int .i64 0] := y
    clear y
    have c_r_0_w7 := x_r.cell (i := 0) rfl
    have f_r_0_w7 := x_r.frozen 0
    have c_r_1_w7 := x_r.cell (i := 1) rfl
    have f_r_1_w7 := x_r.frozen 1
    have c_r_2_w7 := x_r.cell (i := 2) rfl
    have f_r_2_w7 := x_r.frozen 2
    have c_r_3_w7 := x_r.cell (i := 3) rfl
    have f_r_3_w7 := x_r.frozen 3
    have c_r_4_w7 := x_r.cell (i := 4) rfl
    have f_r_4_w7 := x_r.frozen 4
    have c_r_5_w7 := x_r.cell (i := 5) rfl
    have f_r_5_w7 := x_r.frozen 5
    have c_r_6_w7 := x_r.cell (i := 6) rfl
    have f_r_6_w7 := x_r.frozen 6
    have c_r_7_w7 := x_r.cell (i := 7) rfl
    have f_r_7_w7 := x_r.frozen 7
    have c_r_8_w7 := x_r.cell (i := 8) rfl
    have f_r_8_w7 := x_r.frozen 8
    have c_v_0_w7 := x_v.cell (i := 0) rfl
    have f_v_0_w7 := x_v.frozen 0
    have c_v_1_w7 := x_v.cell (i := 1) rfl
    have f_v_1_w7 := x_v.frozen 1
    have c_v_2_w7 := x_v.cell (i := 2) rfl
    have f_v_2_w7 := x_v.frozen 2
    have c_v_3_w7 := x_v.cell (i := 3) rfl
    have f_v_3_w7 := x_v.frozen 3
    have c_v_4_w7 := x_v.cell (i := 4) rfl
    have f_v_4_w7 := x_v.frozen 4
    have c_v_5_w7 := x_v.cell (i := 5) rfl
    have f_v_5_w7 := x_v.frozen 5
    have c_v_6_w7 := x_v.cell (i := 6) rfl
    have f_v_6_w7 := x_v.frozen 6
    have c_v_7_w7 := x_v.cell (i := 7) rfl
    have f_v_7_w7 := x_v.frozen 7
    have c_v_8_w7 := x_v.cell (i := 8) rfl
    have f_v_8_w7 := x_v.frozen 8
    obtain ⟨w8, e_w8, s_w8, h_w8, y⟩ := set_step x_v 3 (.int .i64 0)
    have s_w8_1 := Nat.le_of_eq s_w8
    have s_w8_2 := Nat.le_of_eq s_w8.symm
    clear s_w8
    replace x_r := x_r.chg h_w8 (by omega)
    replace hk := hk.chg h_w8 (by omega)
    have B_w8 := Below.chg_ B_w7 h_w8 (by omega) (by omega)
    have C_w8 := C_w7.then_new h_w8 (by omega)
    replace x_v : Vr w8 (w5.heap.size) 26 [.int .i64 7, .int .i64 a, .int .i64 0, .int .i64 0, .int .i64 (1 + m), .int .i64 0, .int .i64 0, .int .i64 0, .int .i64 0] := y
    clear y
    have c_r_0_w8 := x_r.cell (i := 0) rfl
    have f_r_0_w8 := x_r.frozen 0
    have c_r_1_w8 := x_r.cell (i := 1) rfl
    have f_r_1_w8 := x_r.frozen 1
    have c_r_2_w8 := x_r.cell (i := 2) rfl
    have f_r_2_w8 := x_r.frozen 2
    have c_r_3_w8 := x_r.cell (i := 3) rfl
    have f_r_3_w8 := x_r.frozen 3
    have c_r_4_w8 := x_r.cell (i := 4) rfl
    have f_r_4_w8 := x_r.frozen 4
    have c_r_5_w8 := x_r.cell (i := 5) rfl
    have f_r_5_w8 := x_r.frozen 5
    have c_r_6_w8 := x_r.cell (i := 6) rfl
    have f_r_6_w8 := x_r.frozen 6
    have c_r_7_w8 := x_r.cell (i := 7) rfl
    have f_r_7_w8 := x_r.frozen 7
    have c_r_8_w8 := x_r.cell (i := 8) rfl
    have f_r_8_w8 := x_r.frozen 8
    have c_v_0_w8 := x_v.cell (i := 0) rfl
    have f_v_0_w8 := x_v.frozen 0
    have c_v_1_w8 := x_v.cell (i := 1) rfl
    have f_v_1_w8 := x_v.frozen 1
    have c_v_2_w8 := x_v.cell (i := 2) rfl
    have f_v_2_w8 := x_v.frozen 2
    have c_v_3_w8 := x_v.cell (i := 3) rfl
    have f_v_3_w8 := x_v.frozen 3
    have c_v_4_w8 := x_v.cell (i := 4) rfl
    have f_v_4_w8 := x_v.frozen 4
    have c_v_5_w8 := x_v.cell (i := 5) rfl
    have f_v_5_w8 := x_v.frozen 5
    have c_v_6_w8 := x_v.cell (i := 6) rfl
    have f_v_6_w8 := x_v.frozen 6
    have c_v_7_w8 := x_v.cell (i := 7) rfl
    have f_v_7_w8 := x_v.frozen 7
    have c_v_8_w8 := x_v.cell (i := 8) rfl
    have f_v_8_w8 := x_v.frozen 8
    obtain ⟨w9, e_w9, s_w9, h_w9, y⟩ := store_step x_r [.int .i64 7, .int .i64 a, .int .i64 0, .int .i64 0, .int .i64 (1 + m), .int .i64 0, .int .i64 0, .int .i64 0, .int .i64 0] rfl
    replace e_w9 : (((((((((w8.setCell ⟨w.heap.size, 0, none⟩ (.int .i64 7)).setCell ⟨w.heap.size, 1, none⟩ (.int .i64 a)).setCell ⟨w.heap.size, 2, none⟩ (.int .i64 0)).setCell ⟨w.heap.size, 3, none⟩ (.int .i64 0)).setCell ⟨w.heap.size, 4, none⟩ (.int .i64 (1 + m))).setCell ⟨w.heap.size, 5, none⟩ (.int .i64 0)).setCell ⟨w.heap.size, 6, none⟩ (.int .i64 0)).setCell ⟨w.heap.size, 7, none⟩ (.int .i64 0)).setCell ⟨w.heap.size, 8, none⟩ (.int .i64 0)) = w9 := e_w9
    have s_w9_1 := Nat.le_of_eq s_w9
    have s_w9_2 := Nat.le_of_eq s_w9.symm
    clear s_w9
    replace x_v := x_v.chg h_w9 (by omega)
    replace hk := hk.chg h_w9 (by omega)
    have B_w9 := Below.chg_ B_w8 h_w9 (by omega) (by omega)
    have C_w9 := C_w8.then_new h_w9 (by omega)
    replace x_r : Vr w9 (w.heap.size) 26 [.int .i64 7, .int .i64 a, .int .i64 0, .int .i64 0, .int .i64 (1 + m), .int .i64 0, .int .i64 0, .int .i64 0, .int .i64 0] := y
    clear y
    have c_r_0_w9 := x_r.cell (i := 0) rfl
    have f_r_0_w9 := x_r.frozen 0
    have c_r_1_w9 := x_r.cell (i := 1) rfl
    have f_r_1_w9 := x_r.frozen 1
    have c_r_2_w9 := x_r.cell (i := 2) rfl
    have f_r_2_w9 := x_r.frozen 2
    have c_r_3_w9 := x_r.cell (i := 3) rfl
    have f_r_3_w9 := x_r.frozen 3
    have c_r_4_w9 := x_r.cell (i := 4) rfl
    have f_r_4_w9 := x_r.frozen 4
    have c_r_5_w9 := x_r.cell (i := 5) rfl
    have f_r_5_w9 := x_r.frozen 5
    have c_r_6_w9 := x_r.cell (i := 6) rfl
    have f_r_6_w9 := x_r.frozen 6
    have c_r_7_w9 := x_r.cell (i := 7) rfl
    have f_r_7_w9 := x_r.frozen 7
    have c_r_8_w9 := x_r.cell (i := 8) rfl
    have f_r_8_w9 := x_r.frozen 8
    go_wp2
    refine ret_cell (by rfl) (by rfl) x_r Tryd.underlying26 sz_rec (by rfl) ?_
    exact ⟨⟨7, a, 0, 0, 1 + m, ⟨0, 0, 0, 0⟩⟩, rfl, recDrawn_ok (by omega) (by omega) (by omega) (by omega) (by omega) (by omega) (by omega) (by omega) (by omega) (fun h => by omega) (fun _ => rfl), ⟨by show (1 + m : Int) ≤ 60; omega, by show (⟨0, 0, 0, 0⟩ : MMsg).Amt ≤ 90; first | exact hM9.2 | decide⟩, hk, C_w9⟩
  · -- 8
    obtain ⟨w6, e_w6, s_w6, h_w6, x_v⟩ := alloc_step w5 26 [.int .i64 8, .int .i64 a, .int .i64 o, .int .i64 t, .int .i64 (1 + m), .int .i64 0, .int .i64 0, .int .i64 0, .int .i64 0]
    have s_w6_1 := Nat.le_of_eq s_w6
    have s_w6_2 := Nat.le_of_eq s_w6.symm
    clear s_w6
    replace x_r := x_r.from_ h_w6
    replace hk := hk.below h_w6
    have B_w6 := B_w5.trans (h_w6.mono (Nat.le_trans hgle B_w5.size))
    have C_w6 := C_w5.then_below h_w6
    have i_w6_8 := x_v.same (i := 8) rfl
    have i_w6_7 := x_v.same (i := 7) rfl
    have i_w6_6 := x_v.same (i := 6) rfl
    have i_w6_5 := x_v.same (i := 5) rfl
    have c_r_0_w6 := x_r.cell (i := 0) rfl
    have f_r_0_w6 := x_r.frozen 0
    have c_r_1_w6 := x_r.cell (i := 1) rfl
    have f_r_1_w6 := x_r.frozen 1
    have c_r_2_w6 := x_r.cell (i := 2) rfl
    have f_r_2_w6 := x_r.frozen 2
    have c_r_3_w6 := x_r.cell (i := 3) rfl
    have f_r_3_w6 := x_r.frozen 3
    have c_r_4_w6 := x_r.cell (i := 4) rfl
    have f_r_4_w6 := x_r.frozen 4
    have c_r_5_w6 := x_r.cell (i := 5) rfl
    have f_r_5_w6 := x_r.frozen 5
    have c_r_6_w6 := x_r.cell (i := 6) rfl
    have f_r_6_w6 := x_r.frozen 6
    have c_r_7_w6 := x_r.cell (i := 7) rfl
    have f_r_7_w6 := x_r.frozen 7
    have c_r_8_w6 := x_r.cell (i := 8) rfl
    have f_r_8_w6 := x_r.frozen 8
    have c_v_0_w6 := x_v.cell (i := 0) rfl
    have f_v_0_w6 := x_v.frozen 0
    have c_v_1_w6 := x_v.cell (i := 1) rfl
    have f_v_1_w6 := x_v.frozen 1
    have c_v_2_w6 := x_v.cell (i := 2) rfl
    have f_v_2_w6 := x_v.frozen 2
    have c_v_3_w6 := x_v.cell (i := 3) rfl
    have f_v_3_w6 := x_v.frozen 3
    have c_v_4_w6 := x_v.cell (i := 4) rfl
    have f_v_4_w6 := x_v.frozen 4
    have c_v_5_w6 := x_v.cell (i := 5) rfl
    have f_v_5_w6 := x_v.frozen 5
    have c_v_6_w6 := x_v.cell (i := 6) rfl
    have f_v_6_w6 := x_v.frozen 6
    have c_v_7_w6 := x_v.cell (i := 7) rfl
    have f_v_7_w6 := x_v.frozen 7
    have c_v_8_w6 := x_v.cell (i := 8) rfl
    have f_v_8_w6 := x_v.frozen 8
    go_wp2_with fail
    refine (sHas_8 _).mono ?_
    rintro e w' ⟨rfl, rfl⟩
    obtain ⟨w7, e_w7, s_w7, h_w7, y⟩ := set_step x_v 2 (.int .i64 0)
    have s_w7_1 := Nat.le_of_eq s_w7
    have s_w7_2 := Nat.le_of_eq s_w7.symm
    clear s_w7
    replace x_r := x_r.chg h_w7 (by omega)
    replace hk := hk.chg h_w7 (by omega)
    have B_w7 := Below.chg_ B_w6 h_w7 (by omega) (by omega)
    have C_w7 := C_w6.then_new h_w7 (by omega)
    replace x_v : Vr w7 (w5.heap.size) 26 [.int .i64 8, .int .i64 a, .int .i64 0, .int .i64 t, .int .i64 (1 + m), .int .i64 0, .int .i64 0, .int .i64 0, .int .i64 0] := y
    clear y
    have c_r_0_w7 := x_r.cell (i := 0) rfl
    have f_r_0_w7 := x_r.frozen 0
    have c_r_1_w7 := x_r.cell (i := 1) rfl
    have f_r_1_w7 := x_r.frozen 1
    have c_r_2_w7 := x_r.cell (i := 2) rfl
    have f_r_2_w7 := x_r.frozen 2
    have c_r_3_w7 := x_r.cell (i := 3) rfl
    have f_r_3_w7 := x_r.frozen 3
    have c_r_4_w7 := x_r.cell (i := 4) rfl
    have f_r_4_w7 := x_r.frozen 4
    have c_r_5_w7 := x_r.cell (i := 5) rfl
    have f_r_5_w7 := x_r.frozen 5
    have c_r_6_w7 := x_r.cell (i := 6) rfl
    have f_r_6_w7 := x_r.frozen 6
    have c_r_7_w7 := x_r.cell (i := 7) rfl
    have f_r_7_w7 := x_r.frozen 7
    have c_r_8_w7 := x_r.cell (i := 8) rfl
    have f_r_8_w7 := x_r.frozen 8
    have c_v_0_w7 := x_v.cell (i := 0) rfl
    have f_v_0_w7 := x_v.frozen 0
    have c_v_1_w7 := x_v.cell (i := 1) rfl
    have f_v_1_w7 := x_v.frozen 1
    have c_v_2_w7 := x_v.cell (i := 2) rfl
    have f_v_2_w7 := x_v.frozen 2
    have c_v_3_w7 := x_v.cell (i := 3) rfl
    have f_v_3_w7 := x_v.frozen 3
    have c_v_4_w7 := x_v.cell (i := 4) rfl
    have f_v_4_w7 := x_v.frozen 4
    have c_v_5_w7 := x_v.cell (i := 5) rfl
    have f_v_5_w7 := x_v.frozen 5
    have c_v_6_w7 := x_v.cell (i := 6) rfl
    have f_v_6_w7 := x_v.frozen 6
    have c_v_7_w7 := x_v.cell (i := 7) rfl
    have f_v_7_w7 := x_v.frozen 7
    have c_v_8_w7 := x_v.cell (i := 8) rfl
    have f_v_8_w7 := x_v.frozen 8
    obtain ⟨w8, e_w8, s_w8, h_w8, y⟩ := store_step x_r [.int .i64 8, .int .i64 a, .int .i64 0, .int .i64 t, .int .i64 (1 + m), .int .i64 0, .int .i64 0, .int .i64 0, .int .i64 0] rfl
    replace e_w8 : (((((((((w7.setCell ⟨w.heap.size, 0, none⟩ (.int .i64 8)).setCell ⟨w.heap.size, 1, none⟩ (.int .i64 a)).setCell ⟨w.heap.size, 2, none⟩ (.int .i64 0)).setCell ⟨w.heap.size, 3, none⟩ (.int .i64 t)).setCell ⟨w.heap.size, 4, none⟩ (.int .i64 (1 + m))).setCell ⟨w.heap.size, 5, none⟩ (.int .i64 0)).setCell ⟨w.heap.size, 6, none⟩ (.int .i64 0)).setCell ⟨w.heap.size, 7, none⟩ (.int .i64 0)).setCell ⟨w.heap.size, 8, none⟩ (.int .i64 0)) = w8 := e_w8
    have s_w8_1 := Nat.le_of_eq s_w8
    have s_w8_2 := Nat.le_of_eq s_w8.symm
    clear s_w8
    replace x_v := x_v.chg h_w8 (by omega)
    replace hk := hk.chg h_w8 (by omega)
    have B_w8 := Below.chg_ B_w7 h_w8 (by omega) (by omega)
    have C_w8 := C_w7.then_new h_w8 (by omega)
    replace x_r : Vr w8 (w.heap.size) 26 [.int .i64 8, .int .i64 a, .int .i64 0, .int .i64 t, .int .i64 (1 + m), .int .i64 0, .int .i64 0, .int .i64 0, .int .i64 0] := y
    clear y
    have c_r_0_w8 := x_r.cell (i := 0) rfl
    have f_r_0_w8 := x_r.frozen 0
    have c_r_1_w8 := x_r.cell (i := 1) rfl
    have f_r_1_w8 := x_r.frozen 1
    have c_r_2_w8 := x_r.cell (i := 2) rfl
    have f_r_2_w8 := x_r.frozen 2
    have c_r_3_w8 := x_r.cell (i := 3) rfl
    have f_r_3_w8 := x_r.frozen 3
    have c_r_4_w8 := x_r.cell (i := 4) rfl
    have f_r_4_w8 := x_r.frozen 4
    have c_r_5_w8 := x_r.cell (i := 5) rfl
    have f_r_5_w8 := x_r.frozen 5
    have c_r_6_w8 := x_r.cell (i := 6) rfl
    have f_r_6_w8 := x_r.frozen 6
    have c_r_7_w8 := x_r.cell (i := 7) rfl
    have f_r_7_w8 := x_r.frozen 7
    have c_r_8_w8 := x_r.cell (i := 8) rfl
    have f_r_8_w8 := x_r.frozen 8
    go_wp2
    refine ret_cell (by rfl) (by rfl) x_r Tryd.underlying26 sz_rec (by rfl) ?_
    exact ⟨⟨8, a, 0, t, 1 + m, ⟨0, 0, 0, 0⟩⟩, rfl, recDrawn_ok (by omega) (by omega) (by omega) (by omega) (by omega) (by omega) (by omega) (by omega) (by omega) (fun h => by omega) (fun _ => rfl), ⟨by show (1 + m : Int) ≤ 60; omega, by show (⟨0, 0, 0, 0⟩ : MMsg).Amt ≤ 90; first | exact hM9.2 | decide⟩, hk, C_w8⟩
  · -- 9
    obtain ⟨w6, e_w6, s_w6, h_w6, x_v⟩ := alloc_step w5 26 [.int .i64 9, .int .i64 a, .int .i64 o, .int .i64 t, .int .i64 (1 + m), .int .i64 0, .int .i64 0, .int .i64 0, .int .i64 0]
    have s_w6_1 := Nat.le_of_eq s_w6
    have s_w6_2 := Nat.le_of_eq s_w6.symm
    clear s_w6
    replace x_r := x_r.from_ h_w6
    replace hk := hk.below h_w6
    have B_w6 := B_w5.trans (h_w6.mono (Nat.le_trans hgle B_w5.size))
    have C_w6 := C_w5.then_below h_w6
    have i_w6_8 := x_v.same (i := 8) rfl
    have i_w6_7 := x_v.same (i := 7) rfl
    have i_w6_6 := x_v.same (i := 6) rfl
    have i_w6_5 := x_v.same (i := 5) rfl
    have c_r_0_w6 := x_r.cell (i := 0) rfl
    have f_r_0_w6 := x_r.frozen 0
    have c_r_1_w6 := x_r.cell (i := 1) rfl
    have f_r_1_w6 := x_r.frozen 1
    have c_r_2_w6 := x_r.cell (i := 2) rfl
    have f_r_2_w6 := x_r.frozen 2
    have c_r_3_w6 := x_r.cell (i := 3) rfl
    have f_r_3_w6 := x_r.frozen 3
    have c_r_4_w6 := x_r.cell (i := 4) rfl
    have f_r_4_w6 := x_r.frozen 4
    have c_r_5_w6 := x_r.cell (i := 5) rfl
    have f_r_5_w6 := x_r.frozen 5
    have c_r_6_w6 := x_r.cell (i := 6) rfl
    have f_r_6_w6 := x_r.frozen 6
    have c_r_7_w6 := x_r.cell (i := 7) rfl
    have f_r_7_w6 := x_r.frozen 7
    have c_r_8_w6 := x_r.cell (i := 8) rfl
    have f_r_8_w6 := x_r.frozen 8
    have c_v_0_w6 := x_v.cell (i := 0) rfl
    have f_v_0_w6 := x_v.frozen 0
    have c_v_1_w6 := x_v.cell (i := 1) rfl
    have f_v_1_w6 := x_v.frozen 1
    have c_v_2_w6 := x_v.cell (i := 2) rfl
    have f_v_2_w6 := x_v.frozen 2
    have c_v_3_w6 := x_v.cell (i := 3) rfl
    have f_v_3_w6 := x_v.frozen 3
    have c_v_4_w6 := x_v.cell (i := 4) rfl
    have f_v_4_w6 := x_v.frozen 4
    have c_v_5_w6 := x_v.cell (i := 5) rfl
    have f_v_5_w6 := x_v.frozen 5
    have c_v_6_w6 := x_v.cell (i := 6) rfl
    have f_v_6_w6 := x_v.frozen 6
    have c_v_7_w6 := x_v.cell (i := 7) rfl
    have f_v_7_w6 := x_v.frozen 7
    have c_v_8_w6 := x_v.cell (i := 8) rfl
    have f_v_8_w6 := x_v.frozen 8
    go_wp2_with fail
    refine (sHas_9 _).mono ?_
    rintro e w' ⟨rfl, rfl⟩
    obtain ⟨w7, e_w7, s_w7, h_w7, y⟩ := set_step x_v 2 (.int .i64 0)
    have s_w7_1 := Nat.le_of_eq s_w7
    have s_w7_2 := Nat.le_of_eq s_w7.symm
    clear s_w7
    replace x_r := x_r.chg h_w7 (by omega)
    replace hk := hk.chg h_w7 (by omega)
    have B_w7 := Below.chg_ B_w6 h_w7 (by omega) (by omega)
    have C_w7 := C_w6.then_new h_w7 (by omega)
    replace x_v : Vr w7 (w5.heap.size) 26 [.int .i64 9, .int .i64 a, .int .i64 0, .int .i64 t, .int .i64 (1 + m), .int .i64 0, .int .i64 0, .int .i64 0, .int .i64 0] := y
    clear y
    have c_r_0_w7 := x_r.cell (i := 0) rfl
    have f_r_0_w7 := x_r.frozen 0
    have c_r_1_w7 := x_r.cell (i := 1) rfl
    have f_r_1_w7 := x_r.frozen 1
    have c_r_2_w7 := x_r.cell (i := 2) rfl
    have f_r_2_w7 := x_r.frozen 2
    have c_r_3_w7 := x_r.cell (i := 3) rfl
    have f_r_3_w7 := x_r.frozen 3
    have c_r_4_w7 := x_r.cell (i := 4) rfl
    have f_r_4_w7 := x_r.frozen 4
    have c_r_5_w7 := x_r.cell (i := 5) rfl
    have f_r_5_w7 := x_r.frozen 5
    have c_r_6_w7 := x_r.cell (i := 6) rfl
    have f_r_6_w7 := x_r.frozen 6
    have c_r_7_w7 := x_r.cell (i := 7) rfl
    have f_r_7_w7 := x_r.frozen 7
    have c_r_8_w7 := x_r.cell (i := 8) rfl
    have f_r_8_w7 := x_r.frozen 8
    have c_v_0_w7 := x_v.cell (i := 0) rfl
    have f_v_0_w7 := x_v.frozen 0
    have c_v_1_w7 := x_v.cell (i := 1) rfl
    have f_v_1_w7 := x_v.frozen 1
    have c_v_2_w7 := x_v.cell (i := 2) rfl
    have f_v_2_w7 := x_v.frozen 2
    have c_v_3_w7 := x_v.cell (i := 3) rfl
    have f_v_3_w7 := x_v.frozen 3
    have c_v_4_w7 := x_v.cell (i := 4) rfl
    have f_v_4_w7 := x_v.frozen 4
    have c_v_5_w7 := x_v.cell (i := 5) rfl
    have f_v_5_w7 := x_v.frozen 5
    have c_v_6_w7 := x_v.cell (i := 6) rfl
    have f_v_6_w7 := x_v.frozen 6
    have c_v_7_w7 := x_v.cell (i := 7) rfl
    have f_v_7_w7 := x_v.frozen 7
    have c_v_8_w7 := x_v.cell (i := 8) rfl
    have f_v_8_w7 := x_v.frozen 8
    obtain ⟨w8, e_w8, s_w8, h_w8, y⟩ := set_step x_v 4 (.int .i64 0)
    have s_w8_1 := Nat.le_of_eq s_w8
    have s_w8_2 := Nat.le_of_eq s_w8.symm
    clear s_w8
    replace x_r := x_r.chg h_w8 (by omega)
    replace hk := hk.chg h_w8 (by omega)
    have B_w8 := Below.chg_ B_w7 h_w8 (by omega) (by omega)
    have C_w8 := C_w7.then_new h_w8 (by omega)
    replace x_v : Vr w8 (w5.heap.size) 26 [.int .i64 9, .int .i64 a, .int .i64 0, .int .i64 t, .int .i64 0, .int .i64 0, .int .i64 0, .int .i64 0, .int .i64 0] := y
    clear y
    have c_r_0_w8 := x_r.cell (i := 0) rfl
    have f_r_0_w8 := x_r.frozen 0
    have c_r_1_w8 := x_r.cell (i := 1) rfl
    have f_r_1_w8 := x_r.frozen 1
    have c_r_2_w8 := x_r.cell (i := 2) rfl
    have f_r_2_w8 := x_r.frozen 2
    have c_r_3_w8 := x_r.cell (i := 3) rfl
    have f_r_3_w8 := x_r.frozen 3
    have c_r_4_w8 := x_r.cell (i := 4) rfl
    have f_r_4_w8 := x_r.frozen 4
    have c_r_5_w8 := x_r.cell (i := 5) rfl
    have f_r_5_w8 := x_r.frozen 5
    have c_r_6_w8 := x_r.cell (i := 6) rfl
    have f_r_6_w8 := x_r.frozen 6
    have c_r_7_w8 := x_r.cell (i := 7) rfl
    have f_r_7_w8 := x_r.frozen 7
    have c_r_8_w8 := x_r.cell (i := 8) rfl
    have f_r_8_w8 := x_r.frozen 8
    have c_v_0_w8 := x_v.cell (i := 0) rfl
    have f_v_0_w8 := x_v.frozen 0
    have c_v_1_w8 := x_v.cell (i := 1) rfl
    have f_v_1_w8 := x_v.frozen 1
    have c_v_2_w8 := x_v.cell (i := 2) rfl
    have f_v_2_w8 := x_v.frozen 2
    have c_v_3_w8 := x_v.cell (i := 3) rfl
    have f_v_3_w8 := x_v.frozen 3
    have c_v_4_w8 := x_v.cell (i := 4) rfl
    have f_v_4_w8 := x_v.frozen 4
    have c_v_5_w8 := x_v.cell (i := 5) rfl
    have f_v_5_w8 := x_v.frozen 5
    have c_v_6_w8 := x_v.cell (i := 6) rfl
    have f_v_6_w8 := x_v.frozen 6
    have c_v_7_w8 := x_v.cell (i := 7) rfl
    have f_v_7_w8 := x_v.frozen 7
    have c_v_8_w8 := x_v.cell (i := 8) rfl
    have f_v_8_w8 := x_v.frozen 8
    obtain ⟨w9, e_w9, s_w9, h_w9, y⟩ := store_step x_r [.int .i64 9, .int .i64 a, .int .i64 0, .int .i64 t, .int .i64 0, .int .i64 0, .int .i64 0, .int .i64 0, .int .i64 0] rfl
    replace e_w9 : (((((((((w8.setCell ⟨w.heap.size, 0, none⟩ (.int .i64 9)).setCell ⟨w.heap.size, 1, none⟩ (.int .i64 a)).setCell ⟨w.heap.size, 2, none⟩ (.int .i64 0)).setCell ⟨w.heap.size, 3, none⟩ (.int .i64 t)).setCell ⟨w.heap.size, 4, none⟩ (.int .i64 0)).setCell ⟨w.heap.size, 5, none⟩ (.int .i64 0)).setCell ⟨w.heap.size, 6, none⟩ (.int .i64 0)).setCell ⟨w.heap.size, 7, none⟩ (.int .i64 0)).setCell ⟨w.heap.size, 8, none⟩ (.int .i64 0)) = w9 := e_w9
    have s_w9_1 := Nat.le_of_eq s_w9
    have s_w9_2 := Nat.le_of_eq s_w9.symm
    clear s_w9
    replace x_v := x_v.chg h_w9 (by omega)
    replace hk := hk.chg h_w9 (by omega)
    have B_w9 := Below.chg_ B_w8 h_w9 (by omega) (by omega)
    have C_w9 := C_w8.then_new h_w9 (by omega)
    replace x_r : Vr w9 (w.heap.size) 26 [.int .i64 9, .int .i64 a, .int .i64 0, .int .i64 t, .int .i64 0, .int .i64 0, .int .i64 0, .int .i64 0, .int .i64 0] := y
    clear y
    have c_r_0_w9 := x_r.cell (i := 0) rfl
    have f_r_0_w9 := x_r.frozen 0
    have c_r_1_w9 := x_r.cell (i := 1) rfl
    have f_r_1_w9 := x_r.frozen 1
    have c_r_2_w9 := x_r.cell (i := 2) rfl
    have f_r_2_w9 := x_r.frozen 2
    have c_r_3_w9 := x_r.cell (i := 3) rfl
    have f_r_3_w9 := x_r.frozen 3
    have c_r_4_w9 := x_r.cell (i := 4) rfl
    have f_r_4_w9 := x_r.frozen 4
    have c_r_5_w9 := x_r.cell (i := 5) rfl
    have f_r_5_w9 := x_r.frozen 5
    have c_r_6_w9 := x_r.cell (i := 6) rfl
    have f_r_6_w9 := x_r.frozen 6
    have c_r_7_w9 := x_r.cell (i := 7) rfl
    have f_r_7_w9 := x_r.frozen 7
    have c_r_8_w9 := x_r.cell (i := 8) rfl
    have f_r_8_w9 := x_r.frozen 8
    go_wp2
    refine ret_cell (by rfl) (by rfl) x_r Tryd.underlying26 sz_rec (by rfl) ?_
    exact ⟨⟨9, a, 0, t, 0, ⟨0, 0, 0, 0⟩⟩, rfl, recDrawn_ok (by omega) (by omega) (by omega) (by omega) (by omega) (by omega) (by omega) (by omega) (by omega) (fun h => by omega) (fun _ => rfl), ⟨by show (0 : Int) ≤ 60; omega, by show (⟨0, 0, 0, 0⟩ : MMsg).Amt ≤ 90; first | exact hM9.2 | decide⟩, hk, C_w9⟩
set_option maxRecDepth 100000 in
set_option maxHeartbeats 4000000 in
theorem makeRec_c {w : World} {A : Option Addr} {c : Nat} {zs : List Int} (hr : Rd .u8 w w.heap.size A zs) (hb : Bytes zs) (hm : zs.length ≤ 1048576) :
    Calls Tryd.prog 6 #[.slice A zs.length c] w fun e w' => ∃ r : MRec, e = .returned (.agg #[.int .i64 r.Kind, .int .i64 r.Acct, .int .i64 r.Other, .int .i64 r.To, .int .i64 r.Amt, .int .i64 r.M.Kind, .int .i64 r.M.Acct, .int .i64 r.M.Amt, .int .i64 r.M.Src]) ∧ recOkB r = true ∧ Below w.heap.size w w' := by
  obtain ⟨wa, hwa, B0, sa, x_r⟩ := frame1 w 26 [.int .i64 0, .int .i64 0, .int .i64 0, .int .i64 0, .int .i64 0, .int .i64 0, .int .i64 0, .int .i64 0, .int .i64 0]
  have sa_1 := Nat.le_of_eq sa
  have sa_2 := Nat.le_of_eq sa.symm
  clear sa
  have c_r_0_wa := x_r.cell (i := 0) rfl
  have f_r_0_wa := x_r.frozen 0
  have c_r_1_wa := x_r.cell (i := 1) rfl
  have f_r_1_wa := x_r.frozen 1
  have c_r_2_wa := x_r.cell (i := 2) rfl
  have f_r_2_wa := x_r.frozen 2
  have c_r_3_wa := x_r.cell (i := 3) rfl
  have f_r_3_wa := x_r.frozen 3
  have c_r_4_wa := x_r.cell (i := 4) rfl
  have f_r_4_wa := x_r.frozen 4
  have c_r_5_wa := x_r.cell (i := 5) rfl
  have f_r_5_wa := x_r.frozen 5
  have c_r_6_wa := x_r.cell (i := 6) rfl
  have f_r_6_wa := x_r.frozen 6
  have c_r_7_wa := x_r.cell (i := 7) rfl
  have f_r_7_wa := x_r.frozen 7
  have c_r_8_wa := x_r.cell (i := 8) rfl
  have f_r_8_wa := x_r.frozen 8
  have hle : w.heap.size ≤ wa.heap.size := B0.size
  go_enter Tryd.func6, Tryd.ntmps6
  go_wp2_with fail
  refine (cNew_c ((hr.below B0).more hle) hb hm).mono ?_
  rintro e w1 ⟨rfl, hk, h_w1⟩
  clear c_r_0_wa f_r_0_wa c_r_1_wa f_r_1_wa c_r_2_wa f_r_2_wa c_r_3_wa f_r_3_wa c_r_4_wa f_r_4_wa c_r_5_wa f_r_5_wa c_r_6_wa f_r_6_wa c_r_7_wa f_r_7_wa c_r_8_wa f_r_8_wa
  replace x_r := x_r.from_ h_w1
  have B_w1 := B0.trans (h_w1.mono B0.size)
  have s_w1 := h_w1.size
  have c_r_0_w1 := x_r.cell (i := 0) rfl
  have f_r_0_w1 := x_r.frozen 0
  have c_r_1_w1 := x_r.cell (i := 1) rfl
  have f_r_1_w1 := x_r.frozen 1
  have c_r_2_w1 := x_r.cell (i := 2) rfl
  have f_r_2_w1 := x_r.frozen 2
  have c_r_3_w1 := x_r.cell (i := 3) rfl
  have f_r_3_w1 := x_r.frozen 3
  have c_r_4_w1 := x_r.cell (i := 4) rfl
  have f_r_4_w1 := x_r.frozen 4
  have c_r_5_w1 := x_r.cell (i := 5) rfl
  have f_r_5_w1 := x_r.frozen 5
  have c_r_6_w1 := x_r.cell (i := 6) rfl
  have f_r_6_w1 := x_r.frozen 6
  have c_r_7_w1 := x_r.cell (i := 7) rfl
  have f_r_7_w1 := x_r.frozen 7
  have c_r_8_w1 := x_r.cell (i := 8) rfl
  have f_r_8_w1 := x_r.frozen 8
  go_wp2_with fail
  refine (cRec_c hk hb (by omega)).mono ?_
  rintro e w2 ⟨q, rfl, hq, -, y, h_w2⟩
  clear c_r_0_w1 f_r_0_w1 c_r_1_w1 f_r_1_w1 c_r_2_w1 f_r_2_w1 c_r_3_w1 f_r_3_w1 c_r_4_w1 f_r_4_w1 c_r_5_w1 f_r_5_w1 c_r_6_w1 f_r_6_w1 c_r_7_w1 f_r_7_w1 c_r_8_w1 f_r_8_w1
  replace x_r := x_r.chg h_w2 (by omega)
  have B_w2 := Below.chg_ B_w1 h_w2 (by omega) (by omega)
  have s_w2 := h_w2.size
  clear y hk
  have c_r_0_w2 := x_r.cell (i := 0) rfl
  have f_r_0_w2 := x_r.frozen 0
  have c_r_1_w2 := x_r.cell (i := 1) rfl
  have f_r_1_w2 := x_r.frozen 1
  have c_r_2_w2 := x_r.cell (i := 2) rfl
  have f_r_2_w2 := x_r.frozen 2
  have c_r_3_w2 := x_r.cell (i := 3) rfl
  have f_r_3_w2 := x_r.frozen 3
  have c_r_4_w2 := x_r.cell (i := 4) rfl
  have f_r_4_w2 := x_r.frozen 4
  have c_r_5_w2 := x_r.cell (i := 5) rfl
  have f_r_5_w2 := x_r.frozen 5
  have c_r_6_w2 := x_r.cell (i := 6) rfl
  have f_r_6_w2 := x_r.frozen 6
  have c_r_7_w2 := x_r.cell (i := 7) rfl
  have f_r_7_w2 := x_r.frozen 7
  have c_r_8_w2 := x_r.cell (i := 8) rfl
  have f_r_8_w2 := x_r.frozen 8
  obtain ⟨w3, e_w3, s_w3, h_w3, y⟩ := store_step x_r [.int .i64 q.Kind, .int .i64 q.Acct, .int .i64 q.Other, .int .i64 q.To, .int .i64 q.Amt, .int .i64 q.M.Kind, .int .i64 q.M.Acct, .int .i64 q.M.Amt, .int .i64 q.M.Src] rfl
  replace e_w3 : (((((((((w2.setCell ⟨w.heap.size, 0, none⟩ (.int .i64 q.Kind)).setCell ⟨w.heap.size, 1, none⟩ (.int .i64 q.Acct)).setCell ⟨w.heap.size, 2, none⟩ (.int .i64 q.Other)).setCell ⟨w.heap.size, 3, none⟩ (.int .i64 q.To)).setCell ⟨w.heap.size, 4, none⟩ (.int .i64 q.Amt)).setCell ⟨w.heap.size, 5, none⟩ (.int .i64 q.M.Kind)).setCell ⟨w.heap.size, 6, none⟩ (.int .i64 q.M.Acct)).setCell ⟨w.heap.size, 7, none⟩ (.int .i64 q.M.Amt)).setCell ⟨w.heap.size, 8, none⟩ (.int .i64 q.M.Src)) = w3 := e_w3
  have s_w3_1 := Nat.le_of_eq s_w3
  have s_w3_2 := Nat.le_of_eq s_w3.symm
  clear s_w3
  have B_w3 := Below.chg_ B_w2 h_w3 (by omega) (by omega)
  replace x_r : Vr w3 (w.heap.size) 26 [.int .i64 q.Kind, .int .i64 q.Acct, .int .i64 q.Other, .int .i64 q.To, .int .i64 q.Amt, .int .i64 q.M.Kind, .int .i64 q.M.Acct, .int .i64 q.M.Amt, .int .i64 q.M.Src] := y
  clear y
  have c_r_0_w3 := x_r.cell (i := 0) rfl
  have f_r_0_w3 := x_r.frozen 0
  have c_r_1_w3 := x_r.cell (i := 1) rfl
  have f_r_1_w3 := x_r.frozen 1
  have c_r_2_w3 := x_r.cell (i := 2) rfl
  have f_r_2_w3 := x_r.frozen 2
  have c_r_3_w3 := x_r.cell (i := 3) rfl
  have f_r_3_w3 := x_r.frozen 3
  have c_r_4_w3 := x_r.cell (i := 4) rfl
  have f_r_4_w3 := x_r.frozen 4
  have c_r_5_w3 := x_r.cell (i := 5) rfl
  have f_r_5_w3 := x_r.frozen 5
  have c_r_6_w3 := x_r.cell (i := 6) rfl
  have f_r_6_w3 := x_r.frozen 6
  have c_r_7_w3 := x_r.cell (i := 7) rfl
  have f_r_7_w3 := x_r.frozen 7
  have c_r_8_w3 := x_r.cell (i := 8) rfl
  have f_r_8_w3 := x_r.frozen 8
  go_wp2
  refine ret_cell (by rfl) (by rfl) x_r Tryd.underlying26 sz_rec (by rfl) ?_
  exact ⟨q, rfl, hq, B_w3⟩
end Go.Proofs.YtkbhbccpmmhelaaDoor
namespace Go.Proofs.YtkbhbccpmmhelaaDoor
open Go.RowKit
set_option linter.unusedVariables false
set_option maxRecDepth 100000 in
set_option maxHeartbeats 8000000 in
theorem wRecL (v : Value) (zs : List Int) (w : World) (r : RS .u8 w v zs) (hb : Bytes zs) (ht : Tab10 w) :
    Calls Tryd.prog 3 #[v] w fun e w' => e = .returned (.bool true) ∧ Below w.heap.size w w' := by
  obtain ⟨A, c, rfl, p1, p2, hr⟩ := r
  unfold maxLen at p2
  obtain ⟨i0, hi, hz0, hz1, hz2⟩ := info_parts Tryd.info_u8
  by_cases hbig : 1048576 < zs.length
  case pos =>
    have i0 : (1048576 : Int) < (zs.length : Int) := by omega
    go_enter Tryd.func3, Tryd.ntmps3
    go_wp2
    go_ret
    exact ⟨rfl, Below.refl _ _⟩
  have hm : zs.length ≤ 1048576 := by omega
  have B0 : Below w.heap.size w w := Below.refl _ _
  go_enter Tryd.func3, Tryd.ntmps3
  go_wp2_with fail
  refine (makeRec_c hr hb hm).mono ?_
  rintro e w1 ⟨r, rfl, hok, h_w1⟩
  have B_w1 := B0.trans (h_w1.mono B0.size)
  have s_w1 := h_w1.size
  have E1 : Hid (recOkB r = true) := Lib.hid hok
  have E2 : Hid (bytesRecB (recBytes r) = true ∧ bytesRec (recBytes r) = r) := bytesRec_bytes hok
  have E3 : Hid (bytesRecB (recBytes r ++ [0]) = false) := bytesRec_more hok
  have E4 : Hid (textRecB (recText r) = true ∧ textRec (recText r) = r) := textRec_text hok
  have hk9 := (recOk_parts hok).1
  have E5 := Lib.hid (name_full hk9)
  clear hok hk9
  obtain ⟨w2, e_w2, s_w2, h_w2, x_r⟩ := alloc_step w1 26 [.int .i64 r.Kind, .int .i64 r.Acct, .int .i64 r.Other, .int .i64 r.To, .int .i64 r.Amt, .int .i64 r.M.Kind, .int .i64 r.M.Acct, .int .i64 r.M.Amt, .int .i64 r.M.Src]
  have s_w2_1 := Nat.le_of_eq s_w2
  have s_w2_2 := Nat.le_of_eq s_w2.symm
  clear s_w2
  have B_w2 := B_w1.trans (h_w2.mono B_w1.size)
  have c_r_0_w2 := x_r.cell (i := 0) rfl
  have f_r_0_w2 := x_r.frozen 0
  have c_r_1_w2 := x_r.cell (i := 1) rfl
  have f_r_1_w2 := x_r.frozen 1
  have c_r_2_w2 := x_r.cell (i := 2) rfl
  have f_r_2_w2 := x_r.frozen 2
  have c_r_3_w2 := x_r.cell (i := 3) rfl
  have f_r_3_w2 := x_r.frozen 3
  have c_r_4_w2 := x_r.cell (i := 4) rfl
  have f_r_4_w2 := x_r.frozen 4
  have c_r_5_w2 := x_r.cell (i := 5) rfl
  have f_r_5_w2 := x_r.frozen 5
  have c_r_6_w2 := x_r.cell (i := 6) rfl
  have f_r_6_w2 := x_r.frozen 6
  have c_r_7_w2 := x_r.cell (i := 7) rfl
  have f_r_7_w2 := x_r.frozen 7
  have c_r_8_w2 := x_r.cell (i := 8) rfl
  have f_r_8_w2 := x_r.frozen 8
  obtain ⟨bs, hbs⟩ : ∃ b, recBytes r = b := ⟨_, rfl⟩
  have lbs : bs.length ≤ 72 := by rw [← hbs]; exact recBytes_len r
  have bbs : Bytes bs := by rw [← hbs]; exact recBytes_bytes r
  rw [hbs] at E2 E3
  have HBS := Lib.hid hbs
  clear hbs
  obtain ⟨T, hT⟩ : ∃ t, recText r = t := ⟨_, rfl⟩
  rw [hT] at E4
  have HT := Lib.hid hT
  have zT : T.size ≤ 1048576 := by
    rw [← hT]
    exact Nat.le_trans (recText_size r) (by omega)
  clear hT
  go_wp2_with fail
  refine (iRecBytes_c (rv_rec_mk (zM := r.M) : RV recL _ (.agg #[.int .i64 r.Kind, .int .i64 r.Acct, .int .i64 r.Other, .int .i64 r.To, .int .i64 r.Amt, .int .i64 r.M.Kind, .int .i64 r.M.Acct, .int .i64 r.M.Amt, .int .i64 r.M.Src]) r)).mono ?_
  rintro e w3 ⟨vb, rfl, o_b, h_w3⟩
  clear c_r_0_w2 f_r_0_w2 c_r_1_w2 f_r_1_w2 c_r_2_w2 f_r_2_w2 c_r_3_w2 f_r_3_w2 c_r_4_w2 f_r_4_w2 c_r_5_w2 f_r_5_w2 c_r_6_w2 f_r_6_w2 c_r_7_w2 f_r_7_w2 c_r_8_w2 f_r_8_w2
  replace x_r := x_r.from_ h_w3
  have B_w3 := B_w2.trans (h_w3.mono B_w2.size)
  have s_w3 := h_w3.size
  rw [HBS.out] at o_b
  rw [E1.out]
  obtain ⟨Ab, cb, rfl, -, -, hrb⟩ := o_b.rd
  have c_r_0_w3 := x_r.cell (i := 0) rfl
  have f_r_0_w3 := x_r.frozen 0
  have c_r_1_w3 := x_r.cell (i := 1) rfl
  have f_r_1_w3 := x_r.frozen 1
  have c_r_2_w3 := x_r.cell (i := 2) rfl
  have f_r_2_w3 := x_r.frozen 2
  have c_r_3_w3 := x_r.cell (i := 3) rfl
  have f_r_3_w3 := x_r.frozen 3
  have c_r_4_w3 := x_r.cell (i := 4) rfl
  have f_r_4_w3 := x_r.frozen 4
  have c_r_5_w3 := x_r.cell (i := 5) rfl
  have f_r_5_w3 := x_r.frozen 5
  have c_r_6_w3 := x_r.cell (i := 6) rfl
  have f_r_6_w3 := x_r.frozen 6
  have c_r_7_w3 := x_r.cell (i := 7) rfl
  have f_r_7_w3 := x_r.frozen 7
  have c_r_8_w3 := x_r.cell (i := 8) rfl
  have f_r_8_w3 := x_r.frozen 8
  clear hrb
  go_wp2_with fail
  refine (iBytesRec_c o_b.rd bbs (by omega)).mono ?_
  rintro e w4 ⟨vx, rfl, o_x, h_w4⟩
  clear c_r_0_w3 f_r_0_w3 c_r_1_w3 f_r_1_w3 c_r_2_w3 f_r_2_w3 c_r_3_w3 f_r_3_w3 c_r_4_w3 f_r_4_w3 c_r_5_w3 f_r_5_w3 c_r_6_w3 f_r_6_w3 c_r_7_w3 f_r_7_w3 c_r_8_w3 f_r_8_w3
  replace x_r := x_r.from_ h_w4
  replace o_b := o_b.below h_w4
  have B_w4 := B_w3.trans (h_w4.mono B_w3.size)
  have s_w4 := h_w4.size
  rw [E2.out.2] at o_x
  rw [E2.out.1]
  obtain rfl := rv_rec o_x.rd
  clear o_x
  have c_r_0_w4 := x_r.cell (i := 0) rfl
  have f_r_0_w4 := x_r.frozen 0
  have c_r_1_w4 := x_r.cell (i := 1) rfl
  have f_r_1_w4 := x_r.frozen 1
  have c_r_2_w4 := x_r.cell (i := 2) rfl
  have f_r_2_w4 := x_r.frozen 2
  have c_r_3_w4 := x_r.cell (i := 3) rfl
  have f_r_3_w4 := x_r.frozen 3
  have c_r_4_w4 := x_r.cell (i := 4) rfl
  have f_r_4_w4 := x_r.frozen 4
  have c_r_5_w4 := x_r.cell (i := 5) rfl
  have f_r_5_w4 := x_r.frozen 5
  have c_r_6_w4 := x_r.cell (i := 6) rfl
  have f_r_6_w4 := x_r.frozen 6
  have c_r_7_w4 := x_r.cell (i := 7) rfl
  have f_r_7_w4 := x_r.frozen 7
  have c_r_8_w4 := x_r.cell (i := 8) rfl
  have f_r_8_w4 := x_r.frozen 8
  obtain ⟨w5, e_w5, s_w5, h_w5, x_x⟩ := alloc_step w4 26 [.int .i64 r.Kind, .int .i64 r.Acct, .int .i64 r.Other, .int .i64 r.To, .int .i64 r.Amt, .int .i64 r.M.Kind, .int .i64 r.M.Acct, .int .i64 r.M.Amt, .int .i64 r.M.Src]
  have s_w5_1 := Nat.le_of_eq s_w5
  have s_w5_2 := Nat.le_of_eq s_w5.symm
  clear s_w5
  replace x_r := x_r.from_ h_w5
  replace o_b := o_b.below h_w5
  have B_w5 := B_w4.trans (h_w5.mono B_w4.size)
  have c_r_0_w5 := x_r.cell (i := 0) rfl
  have f_r_0_w5 := x_r.frozen 0
  have c_r_1_w5 := x_r.cell (i := 1) rfl
  have f_r_1_w5 := x_r.frozen 1
  have c_r_2_w5 := x_r.cell (i := 2) rfl
  have f_r_2_w5 := x_r.frozen 2
  have c_r_3_w5 := x_r.cell (i := 3) rfl
  have f_r_3_w5 := x_r.frozen 3
  have c_r_4_w5 := x_r.cell (i := 4) rfl
  have f_r_4_w5 := x_r.frozen 4
  have c_r_5_w5 := x_r.cell (i := 5) rfl
  have f_r_5_w5 := x_r.frozen 5
  have c_r_6_w5 := x_r.cell (i := 6) rfl
  have f_r_6_w5 := x_r.frozen 6
  have c_r_7_w5 := x_r.cell (i := 7) rfl
  have f_r_7_w5 := x_r.frozen 7
  have c_r_8_w5 := x_r.cell (i := 8) rfl
  have f_r_8_w5 := x_r.frozen 8
  have c_x_0_w5 := x_x.cell (i := 0) rfl
  have f_x_0_w5 := x_x.frozen 0
  have c_x_1_w5 := x_x.cell (i := 1) rfl
  have f_x_1_w5 := x_x.frozen 1
  have c_x_2_w5 := x_x.cell (i := 2) rfl
  have f_x_2_w5 := x_x.frozen 2
  have c_x_3_w5 := x_x.cell (i := 3) rfl
  have f_x_3_w5 := x_x.frozen 3
  have c_x_4_w5 := x_x.cell (i := 4) rfl
  have f_x_4_w5 := x_x.frozen 4
  have c_x_5_w5 := x_x.cell (i := 5) rfl
  have f_x_5_w5 := x_x.frozen 5
  have c_x_6_w5 := x_x.cell (i := 6) rfl
  have f_x_6_w5 := x_x.frozen 6
  have c_x_7_w5 := x_x.cell (i := 7) rfl
  have f_x_7_w5 := x_x.frozen 7
  have c_x_8_w5 := x_x.cell (i := 8) rfl
  have f_x_8_w5 := x_x.frozen 8
  go_wp2_with fail
  refine (iRecText_c (ht.below B_w5) (rv_rec_mk (zM := r.M) : RV recL _ (.agg #[.int .i64 r.Kind, .int .i64 r.Acct, .int .i64 r.Other, .int .i64 r.To, .int .i64 r.Amt, .int .i64 r.M.Kind, .int .i64 r.M.Acct, .int .i64 r.M.Amt, .int .i64 r.M.Src]) r)).mono ?_
  rintro e w6 ⟨rfl, h_w6⟩
  clear c_r_0_w4 f_r_0_w4 c_r_1_w4 f_r_1_w4 c_r_2_w4 f_r_2_w4 c_r_3_w4 f_r_3_w4 c_r_4_w4 f_r_4_w4 c_r_5_w4 f_r_5_w4 c_r_6_w4 f_r_6_w4 c_r_7_w4 f_r_7_w4 c_r_8_w4 f_r_8_w4 c_r_0_w5 f_r_0_w5 c_r_1_w5 f_r_1_w5 c_r_2_w5 f_r_2_w5 c_r_3_w5 f_r_3_w5 c_r_4_w5 f_r_4_w5 c_r_5_w5 f_r_5_w5 c_r_6_w5 f_r_6_w5 c_r_7_w5 f_r_7_w5 c_r_8_w5 f_r_8_w5 c_x_0_w5 f_x_0_w5 c_x_1_w5 f_x_1_w5 c_x_2_w5 f_x_2_w5 c_x_3_w5 f_x_3_w5 c_x_4_w5 f_x_4_w5 c_x_5_w5 f_x_5_w5 c_x_6_w5 f_x_6_w5 c_x_7_w5 f_x_7_w5 c_x_8_w5 f_x_8_w5
  replace x_r := x_r.from_ h_w6
  replace x_x := x_x.from_ h_w6
  replace o_b := o_b.below h_w6
  have B_w6 := B_w5.trans (h_w6.mono B_w5.size)
  have s_w6 := h_w6.size
  rw [HT.out]
  have c_r_0_w6 := x_r.cell (i := 0) rfl
  have f_r_0_w6 := x_r.frozen 0
  have c_r_1_w6 := x_r.cell (i := 1) rfl
  have f_r_1_w6 := x_r.frozen 1
  have c_r_2_w6 := x_r.cell (i := 2) rfl
  have f_r_2_w6 := x_r.frozen 2
  have c_r_3_w6 := x_r.cell (i := 3) rfl
  have f_r_3_w6 := x_r.frozen 3
  have c_r_4_w6 := x_r.cell (i := 4) rfl
  have f_r_4_w6 := x_r.frozen 4
  have c_r_5_w6 := x_r.cell (i := 5) rfl
  have f_r_5_w6 := x_r.frozen 5
  have c_r_6_w6 := x_r.cell (i := 6) rfl
  have f_r_6_w6 := x_r.frozen 6
  have c_r_7_w6 := x_r.cell (i := 7) rfl
  have f_r_7_w6 := x_r.frozen 7
  have c_r_8_w6 := x_r.cell (i := 8) rfl
  have f_r_8_w6 := x_r.frozen 8
  have c_x_0_w6 := x_x.cell (i := 0) rfl
  have f_x_0_w6 := x_x.frozen 0
  have c_x_1_w6 := x_x.cell (i := 1) rfl
  have f_x_1_w6 := x_x.frozen 1
  have c_x_2_w6 := x_x.cell (i := 2) rfl
  have f_x_2_w6 := x_x.frozen 2
  have c_x_3_w6 := x_x.cell (i := 3) rfl
  have f_x_3_w6 := x_x.frozen 3
  have c_x_4_w6 := x_x.cell (i := 4) rfl
  have f_x_4_w6 := x_x.frozen 4
  have c_x_5_w6 := x_x.cell (i := 5) rfl
  have f_x_5_w6 := x_x.frozen 5
  have c_x_6_w6 := x_x.cell (i := 6) rfl
  have f_x_6_w6 := x_x.frozen 6
  have c_x_7_w6 := x_x.cell (i := 7) rfl
  have f_x_7_w6 := x_x.frozen 7
  have c_x_8_w6 := x_x.cell (i := 8) rfl
  have f_x_8_w6 := x_x.frozen 8
  go_wp2_with fail
  refine (iTextRec_c (ht.below B_w6) T zT).mono ?_
  rintro e w7 ⟨vy, rfl, o_y, h_w7⟩
  clear c_r_0_w6 f_r_0_w6 c_r_1_w6 f_r_1_w6 c_r_2_w6 f_r_2_w6 c_r_3_w6 f_r_3_w6 c_r_4_w6 f_r_4_w6 c_r_5_w6 f_r_5_w6 c_r_6_w6 f_r_6_w6 c_r_7_w6 f_r_7_w6 c_r_8_w6 f_r_8_w6 c_x_0_w6 f_x_0_w6 c_x_1_w6 f_x_1_w6 c_x_2_w6 f_x_2_w6 c_x_3_w6 f_x_3_w6 c_x_4_w6 f_x_4_w6 c_x_5_w6 f_x_5_w6 c_x_6_w6 f_x_6_w6 c_x_7_w6 f_x_7_w6 c_x_8_w6 f_x_8_w6
  replace x_r := x_r.from_ h_w7
  replace x_x := x_x.from_ h_w7
  replace o_b := o_b.below h_w7
  have B_w7 := B_w6.trans (h_w7.mono B_w6.size)
  have s_w7 := h_w7.size
  rw [E4.out.2] at o_y
  rw [E4.out.1]
  obtain rfl := rv_rec o_y.rd
  clear o_y
  have c_r_0_w7 := x_r.cell (i := 0) rfl
  have f_r_0_w7 := x_r.frozen 0
  have c_r_1_w7 := x_r.cell (i := 1) rfl
  have f_r_1_w7 := x_r.frozen 1
  have c_r_2_w7 := x_r.cell (i := 2) rfl
  have f_r_2_w7 := x_r.frozen 2
  have c_r_3_w7 := x_r.cell (i := 3) rfl
  have f_r_3_w7 := x_r.frozen 3
  have c_r_4_w7 := x_r.cell (i := 4) rfl
  have f_r_4_w7 := x_r.frozen 4
  have c_r_5_w7 := x_r.cell (i := 5) rfl
  have f_r_5_w7 := x_r.frozen 5
  have c_r_6_w7 := x_r.cell (i := 6) rfl
  have f_r_6_w7 := x_r.frozen 6
  have c_r_7_w7 := x_r.cell (i := 7) rfl
  have f_r_7_w7 := x_r.frozen 7
  have c_r_8_w7 := x_r.cell (i := 8) rfl
  have f_r_8_w7 := x_r.frozen 8
  have c_x_0_w7 := x_x.cell (i := 0) rfl
  have f_x_0_w7 := x_x.frozen 0
  have c_x_1_w7 := x_x.cell (i := 1) rfl
  have f_x_1_w7 := x_x.frozen 1
  have c_x_2_w7 := x_x.cell (i := 2) rfl
  have f_x_2_w7 := x_x.frozen 2
  have c_x_3_w7 := x_x.cell (i := 3) rfl
  have f_x_3_w7 := x_x.frozen 3
  have c_x_4_w7 := x_x.cell (i := 4) rfl
  have f_x_4_w7 := x_x.frozen 4
  have c_x_5_w7 := x_x.cell (i := 5) rfl
  have f_x_5_w7 := x_x.frozen 5
  have c_x_6_w7 := x_x.cell (i := 6) rfl
  have f_x_6_w7 := x_x.frozen 6
  have c_x_7_w7 := x_x.cell (i := 7) rfl
  have f_x_7_w7 := x_x.frozen 7
  have c_x_8_w7 := x_x.cell (i := 8) rfl
  have f_x_8_w7 := x_x.frozen 8
  obtain ⟨w8, e_w8, s_w8, h_w8, x_y⟩ := alloc_step w7 26 [.int .i64 r.Kind, .int .i64 r.Acct, .int .i64 r.Other, .int .i64 r.To, .int .i64 r.Amt, .int .i64 r.M.Kind, .int .i64 r.M.Acct, .int .i64 r.M.Amt, .int .i64 r.M.Src]
  have s_w8_1 := Nat.le_of_eq s_w8
  have s_w8_2 := Nat.le_of_eq s_w8.symm
  clear s_w8
  replace x_r := x_r.from_ h_w8
  replace x_x := x_x.from_ h_w8
  replace o_b := o_b.below h_w8
  have B_w8 := B_w7.trans (h_w8.mono B_w7.size)
  have c_r_0_w8 := x_r.cell (i := 0) rfl
  have f_r_0_w8 := x_r.frozen 0
  have c_r_1_w8 := x_r.cell (i := 1) rfl
  have f_r_1_w8 := x_r.frozen 1
  have c_r_2_w8 := x_r.cell (i := 2) rfl
  have f_r_2_w8 := x_r.frozen 2
  have c_r_3_w8 := x_r.cell (i := 3) rfl
  have f_r_3_w8 := x_r.frozen 3
  have c_r_4_w8 := x_r.cell (i := 4) rfl
  have f_r_4_w8 := x_r.frozen 4
  have c_r_5_w8 := x_r.cell (i := 5) rfl
  have f_r_5_w8 := x_r.frozen 5
  have c_r_6_w8 := x_r.cell (i := 6) rfl
  have f_r_6_w8 := x_r.frozen 6
  have c_r_7_w8 := x_r.cell (i := 7) rfl
  have f_r_7_w8 := x_r.frozen 7
  have c_r_8_w8 := x_r.cell (i := 8) rfl
  have f_r_8_w8 := x_r.frozen 8
  have c_x_0_w8 := x_x.cell (i := 0) rfl
  have f_x_0_w8 := x_x.frozen 0
  have c_x_1_w8 := x_x.cell (i := 1) rfl
  have f_x_1_w8 := x_x.frozen 1
  have c_x_2_w8 := x_x.cell (i := 2) rfl
  have f_x_2_w8 := x_x.frozen 2
  have c_x_3_w8 := x_x.cell (i := 3) rfl
  have f_x_3_w8 := x_x.frozen 3
  have c_x_4_w8 := x_x.cell (i := 4) rfl
  have f_x_4_w8 := x_x.frozen 4
  have c_x_5_w8 := x_x.cell (i := 5) rfl
  have f_x_5_w8 := x_x.frozen 5
  have c_x_6_w8 := x_x.cell (i := 6) rfl
  have f_x_6_w8 := x_x.frozen 6
  have c_x_7_w8 := x_x.cell (i := 7) rfl
  have f_x_7_w8 := x_x.frozen 7
  have c_x_8_w8 := x_x.cell (i := 8) rfl
  have f_x_8_w8 := x_x.frozen 8
  have c_y_0_w8 := x_y.cell (i := 0) rfl
  have f_y_0_w8 := x_y.frozen 0
  have c_y_1_w8 := x_y.cell (i := 1) rfl
  have f_y_1_w8 := x_y.frozen 1
  have c_y_2_w8 := x_y.cell (i := 2) rfl
  have f_y_2_w8 := x_y.frozen 2
  have c_y_3_w8 := x_y.cell (i := 3) rfl
  have f_y_3_w8 := x_y.frozen 3
  have c_y_4_w8 := x_y.cell (i := 4) rfl
  have f_y_4_w8 := x_y.frozen 4
  have c_y_5_w8 := x_y.cell (i := 5) rfl
  have f_y_5_w8 := x_y.frozen 5
  have c_y_6_w8 := x_y.cell (i := 6) rfl
  have f_y_6_w8 := x_y.frozen 6
  have c_y_7_w8 := x_y.cell (i := 7) rfl
  have f_y_7_w8 := x_y.frozen 7
  have c_y_8_w8 := x_y.cell (i := 8) rfl
  have f_y_8_w8 := x_y.frozen 8
  have q0 : Below w8.heap.size w8 (w8.alloc (.cells #[] 5)) := (Below.refl _ _).alloc (Nat.le_refl _) _
  have n0 : Own .u8 (w8.alloc (.cells #[] 5)) w8.heap.size 5 (.slice (some ⟨w8.heap.size, 0, none⟩) 0 0) [] := own_none .u8 w8 w8.heap.size 5 (Nat.le_refl _)
  obtain ⟨_, _, he, -, -, hrb⟩ := o_b.rd
  simp only [Value.slice.injEq, true_and] at he
  obtain ⟨rfl, rfl⟩ := he
  go_wp2_with (at_builtin; refine wpl_appI _ .u8 rfl (.tmp 46) (.tmp 47) 22 rfl w8.heap.size 5 i0 1 Tryd.underlying22 hi hz0 hz1 hz2 _ [] rfl n0 _ _ _ bs.length bs rfl rfl (hrb.below q0) ?d0 (by omega) ?d1 ?_)
  case d0 => first | omega | (simp; done) | (simp; omega)
  case d1 => first | omega | (simp; done) | (simp; omega)
  intro v7 w70 ho7 hg7 hat7
  have h_w70 : Below w8.heap.size w8 w70 := grown_below q0 n0 hg7 (Nat.le_refl _) (by simp)
  clear hg7 hat7 n0 q0
  clear c_r_0_w7 f_r_0_w7 c_r_1_w7 f_r_1_w7 c_r_2_w7 f_r_2_w7 c_r_3_w7 f_r_3_w7 c_r_4_w7 f_r_4_w7 c_r_5_w7 f_r_5_w7 c_r_6_w7 f_r_6_w7 c_r_7_w7 f_r_7_w7 c_r_8_w7 f_r_8_w7 c_x_0_w7 f_x_0_w7 c_x_1_w7 f_x_1_w7 c_x_2_w7 f_x_2_w7 c_x_3_w7 f_x_3_w7 c_x_4_w7 f_x_4_w7 c_x_5_w7 f_x_5_w7 c_x_6_w7 f_x_6_w7 c_x_7_w7 f_x_7_w7 c_x_8_w7 f_x_8_w7 c_r_0_w8 f_r_0_w8 c_r_1_w8 f_r_1_w8 c_r_2_w8 f_r_2_w8 c_r_3_w8 f_r_3_w8 c_r_4_w8 f_r_4_w8 c_r_5_w8 f_r_5_w8 c_r_6_w8 f_r_6_w8 c_r_7_w8 f_r_7_w8 c_r_8_w8 f_r_8_w8 c_x_0_w8 f_x_0_w8 c_x_1_w8 f_x_1_w8 c_x_2_w8 f_x_2_w8 c_x_3_w8 f_x_3_w8 c_x_4_w8 f_x_4_w8 c_x_5_w8 f_x_5_w8 c_x_6_w8 f_x_6_w8 c_x_7_w8 f_x_7_w8 c_x_8_w8 f_x_8_w8 c_y_0_w8 f_y_0_w8 c_y_1_w8 f_y_1_w8 c_y_2_w8 f_y_2_w8 c_y_3_w8 f_y_3_w8 c_y_4_w8 f_y_4_w8 c_y_5_w8 f_y_5_w8 c_y_6_w8 f_y_6_w8 c_y_7_w8 f_y_7_w8 c_y_8_w8 f_y_8_w8
  go_wp2_with (at_builtin; refine wpl_appI _ .u8 rfl (.tmp 48) (.tmp 49) 22 rfl w8.heap.size 5 i0 1 Tryd.underlying22 hi hz0 hz1 hz2 _ bs rfl (ho7.alloc_ _) _ _ _ 1 [0] rfl rfl (rd_one _ _ _ _) ?e0 (by omega) ?e1 ?_)
  case e0 => omega
  case e1 => first | omega | (have := h_w70.size; simp; omega)
  intro v8 w80 ho8 hg8 hat8
  have h_w80 : Below w8.heap.size w8 w80 := grown_below (h_w70.alloc h_w70.size _) (ho7.alloc_ _) hg8 (Nat.le_refl _) (by have := h_w70.size; simp; omega)
  clear hg8 hat8 ho7
  replace x_r := x_r.from_ h_w80
  replace x_x := x_x.from_ h_w80
  replace x_y := x_y.from_ h_w80
  replace o_b := o_b.below h_w80
  have B_w80 := B_w8.trans (h_w80.mono B_w8.size)
  have s_w80 := h_w80.size
  clear hrb
  have o_8 := OS.mk_ ho8
  clear ho8
  have c_r_0_w80 := x_r.cell (i := 0) rfl
  have f_r_0_w80 := x_r.frozen 0
  have c_r_1_w80 := x_r.cell (i := 1) rfl
  have f_r_1_w80 := x_r.frozen 1
  have c_r_2_w80 := x_r.cell (i := 2) rfl
  have f_r_2_w80 := x_r.frozen 2
  have c_r_3_w80 := x_r.cell (i := 3) rfl
  have f_r_3_w80 := x_r.frozen 3
  have c_r_4_w80 := x_r.cell (i := 4) rfl
  have f_r_4_w80 := x_r.frozen 4
  have c_r_5_w80 := x_r.cell (i := 5) rfl
  have f_r_5_w80 := x_r.frozen 5
  have c_r_6_w80 := x_r.cell (i := 6) rfl
  have f_r_6_w80 := x_r.frozen 6
  have c_r_7_w80 := x_r.cell (i := 7) rfl
  have f_r_7_w80 := x_r.frozen 7
  have c_r_8_w80 := x_r.cell (i := 8) rfl
  have f_r_8_w80 := x_r.frozen 8
  have c_x_0_w80 := x_x.cell (i := 0) rfl
  have f_x_0_w80 := x_x.frozen 0
  have c_x_1_w80 := x_x.cell (i := 1) rfl
  have f_x_1_w80 := x_x.frozen 1
  have c_x_2_w80 := x_x.cell (i := 2) rfl
  have f_x_2_w80 := x_x.frozen 2
  have c_x_3_w80 := x_x.cell (i := 3) rfl
  have f_x_3_w80 := x_x.frozen 3
  have c_x_4_w80 := x_x.cell (i := 4) rfl
  have f_x_4_w80 := x_x.frozen 4
  have c_x_5_w80 := x_x.cell (i := 5) rfl
  have f_x_5_w80 := x_x.frozen 5
  have c_x_6_w80 := x_x.cell (i := 6) rfl
  have f_x_6_w80 := x_x.frozen 6
  have c_x_7_w80 := x_x.cell (i := 7) rfl
  have f_x_7_w80 := x_x.frozen 7
  have c_x_8_w80 := x_x.cell (i := 8) rfl
  have f_x_8_w80 := x_x.frozen 8
  have c_y_0_w80 := x_y.cell (i := 0) rfl
  have f_y_0_w80 := x_y.frozen 0
  have c_y_1_w80 := x_y.cell (i := 1) rfl
  have f_y_1_w80 := x_y.frozen 1
  have c_y_2_w80 := x_y.cell (i := 2) rfl
  have f_y_2_w80 := x_y.frozen 2
  have c_y_3_w80 := x_y.cell (i := 3) rfl
  have f_y_3_w80 := x_y.frozen 3
  have c_y_4_w80 := x_y.cell (i := 4) rfl
  have f_y_4_w80 := x_y.frozen 4
  have c_y_5_w80 := x_y.cell (i := 5) rfl
  have f_y_5_w80 := x_y.frozen 5
  have c_y_6_w80 := x_y.cell (i := 6) rfl
  have f_y_6_w80 := x_y.frozen 6
  have c_y_7_w80 := x_y.cell (i := 7) rfl
  have f_y_7_w80 := x_y.frozen 7
  have c_y_8_w80 := x_y.cell (i := 8) rfl
  have f_y_8_w80 := x_y.frozen 8
  have bb8 : Bytes (bs ++ [0]) := by
    apply bytes_of_all
    intro z hz
    rcases List.mem_append.1 hz with h | h
    · obtain ⟨j, hj, rfl⟩ := List.getElem_of_mem h
      have := bbs j
      rw [show bs.getD j 0 = bs[j] by simp [hj]] at this
      exact this
    · rw [List.mem_singleton] at h; subst h; omega
  obtain ⟨q0, hq0⟩ : ∃ q, bytesRec (bs ++ [0]) = q := ⟨_, rfl⟩
  have HQ0 := Lib.hid hq0
  clear hq0
  go_wp2_with fail
  refine (iBytesRec_c o_8.rd bb8 (by simp; omega)).mono ?_
  rintro e w9 ⟨vz, rfl, o_z, h_w9⟩
  clear c_r_0_w80 f_r_0_w80 c_r_1_w80 f_r_1_w80 c_r_2_w80 f_r_2_w80 c_r_3_w80 f_r_3_w80 c_r_4_w80 f_r_4_w80 c_r_5_w80 f_r_5_w80 c_r_6_w80 f_r_6_w80 c_r_7_w80 f_r_7_w80 c_r_8_w80 f_r_8_w80 c_x_0_w80 f_x_0_w80 c_x_1_w80 f_x_1_w80 c_x_2_w80 f_x_2_w80 c_x_3_w80 f_x_3_w80 c_x_4_w80 f_x_4_w80 c_x_5_w80 f_x_5_w80 c_x_6_w80 f_x_6_w80 c_x_7_w80 f_x_7_w80 c_x_8_w80 f_x_8_w80 c_y_0_w80 f_y_0_w80 c_y_1_w80 f_y_1_w80 c_y_2_w80 f_y_2_w80 c_y_3_w80 f_y_3_w80 c_y_4_w80 f_y_4_w80 c_y_5_w80 f_y_5_w80 c_y_6_w80 f_y_6_w80 c_y_7_w80 f_y_7_w80 c_y_8_w80 f_y_8_w80
  replace x_r := x_r.from_ h_w9
  replace x_x := x_x.from_ h_w9
  replace x_y := x_y.from_ h_w9
  replace o_b := o_b.below h_w9
  have B_w9 := B_w80.trans (h_w9.mono B_w80.size)
  have s_w9 := h_w9.size
  rw [HQ0.out] at o_z
  rw [E3.out]
  obtain rfl := rv_rec o_z.rd
  clear o_z o_8
  have c_r_0_w9 := x_r.cell (i := 0) rfl
  have f_r_0_w9 := x_r.frozen 0
  have c_r_1_w9 := x_r.cell (i := 1) rfl
  have f_r_1_w9 := x_r.frozen 1
  have c_r_2_w9 := x_r.cell (i := 2) rfl
  have f_r_2_w9 := x_r.frozen 2
  have c_r_3_w9 := x_r.cell (i := 3) rfl
  have f_r_3_w9 := x_r.frozen 3
  have c_r_4_w9 := x_r.cell (i := 4) rfl
  have f_r_4_w9 := x_r.frozen 4
  have c_r_5_w9 := x_r.cell (i := 5) rfl
  have f_r_5_w9 := x_r.frozen 5
  have c_r_6_w9 := x_r.cell (i := 6) rfl
  have f_r_6_w9 := x_r.frozen 6
  have c_r_7_w9 := x_r.cell (i := 7) rfl
  have f_r_7_w9 := x_r.frozen 7
  have c_r_8_w9 := x_r.cell (i := 8) rfl
  have f_r_8_w9 := x_r.frozen 8
  have c_x_0_w9 := x_x.cell (i := 0) rfl
  have f_x_0_w9 := x_x.frozen 0
  have c_x_1_w9 := x_x.cell (i := 1) rfl
  have f_x_1_w9 := x_x.frozen 1
  have c_x_2_w9 := x_x.cell (i := 2) rfl
  have f_x_2_w9 := x_x.frozen 2
  have c_x_3_w9 := x_x.cell (i := 3) rfl
  have f_x_3_w9 := x_x.frozen 3
  have c_x_4_w9 := x_x.cell (i := 4) rfl
  have f_x_4_w9 := x_x.frozen 4
  have c_x_5_w9 := x_x.cell (i := 5) rfl
  have f_x_5_w9 := x_x.frozen 5
  have c_x_6_w9 := x_x.cell (i := 6) rfl
  have f_x_6_w9 := x_x.frozen 6
  have c_x_7_w9 := x_x.cell (i := 7) rfl
  have f_x_7_w9 := x_x.frozen 7
  have c_x_8_w9 := x_x.cell (i := 8) rfl
  have f_x_8_w9 := x_x.frozen 8
  have c_y_0_w9 := x_y.cell (i := 0) rfl
  have f_y_0_w9 := x_y.frozen 0
  have c_y_1_w9 := x_y.cell (i := 1) rfl
  have f_y_1_w9 := x_y.frozen 1
  have c_y_2_w9 := x_y.cell (i := 2) rfl
  have f_y_2_w9 := x_y.frozen 2
  have c_y_3_w9 := x_y.cell (i := 3) rfl
  have f_y_3_w9 := x_y.frozen 3
  have c_y_4_w9 := x_y.cell (i := 4) rfl
  have f_y_4_w9 := x_y.frozen 4
  have c_y_5_w9 := x_y.cell (i := 5) rfl
  have f_y_5_w9 := x_y.frozen 5
  have c_y_6_w9 := x_y.cell (i := 6) rfl
  have f_y_6_w9 := x_y.frozen 6
  have c_y_7_w9 := x_y.cell (i := 7) rfl
  have f_y_7_w9 := x_y.frozen 7
  have c_y_8_w9 := x_y.cell (i := 8) rfl
  have f_y_8_w9 := x_y.frozen 8
  obtain ⟨w10, e_w10, s_w10, h_w10, x_z⟩ := alloc_step w9 26 [.int .i64 q0.Kind, .int .i64 q0.Acct, .int .i64 q0.Other, .int .i64 q0.To, .int .i64 q0.Amt, .int .i64 q0.M.Kind, .int .i64 q0.M.Acct, .int .i64 q0.M.Amt, .int .i64 q0.M.Src]
  have s_w10_1 := Nat.le_of_eq s_w10
  have s_w10_2 := Nat.le_of_eq s_w10.symm
  clear s_w10
  replace x_r := x_r.from_ h_w10
  replace x_x := x_x.from_ h_w10
  replace x_y := x_y.from_ h_w10
  replace o_b := o_b.below h_w10
  have B_w10 := B_w9.trans (h_w10.mono B_w9.size)
  have c_r_0_w10 := x_r.cell (i := 0) rfl
  have f_r_0_w10 := x_r.frozen 0
  have c_r_1_w10 := x_r.cell (i := 1) rfl
  have f_r_1_w10 := x_r.frozen 1
  have c_r_2_w10 := x_r.cell (i := 2) rfl
  have f_r_2_w10 := x_r.frozen 2
  have c_r_3_w10 := x_r.cell (i := 3) rfl
  have f_r_3_w10 := x_r.frozen 3
  have c_r_4_w10 := x_r.cell (i := 4) rfl
  have f_r_4_w10 := x_r.frozen 4
  have c_r_5_w10 := x_r.cell (i := 5) rfl
  have f_r_5_w10 := x_r.frozen 5
  have c_r_6_w10 := x_r.cell (i := 6) rfl
  have f_r_6_w10 := x_r.frozen 6
  have c_r_7_w10 := x_r.cell (i := 7) rfl
  have f_r_7_w10 := x_r.frozen 7
  have c_r_8_w10 := x_r.cell (i := 8) rfl
  have f_r_8_w10 := x_r.frozen 8
  have c_x_0_w10 := x_x.cell (i := 0) rfl
  have f_x_0_w10 := x_x.frozen 0
  have c_x_1_w10 := x_x.cell (i := 1) rfl
  have f_x_1_w10 := x_x.frozen 1
  have c_x_2_w10 := x_x.cell (i := 2) rfl
  have f_x_2_w10 := x_x.frozen 2
  have c_x_3_w10 := x_x.cell (i := 3) rfl
  have f_x_3_w10 := x_x.frozen 3
  have c_x_4_w10 := x_x.cell (i := 4) rfl
  have f_x_4_w10 := x_x.frozen 4
  have c_x_5_w10 := x_x.cell (i := 5) rfl
  have f_x_5_w10 := x_x.frozen 5
  have c_x_6_w10 := x_x.cell (i := 6) rfl
  have f_x_6_w10 := x_x.frozen 6
  have c_x_7_w10 := x_x.cell (i := 7) rfl
  have f_x_7_w10 := x_x.frozen 7
  have c_x_8_w10 := x_x.cell (i := 8) rfl
  have f_x_8_w10 := x_x.frozen 8
  have c_y_0_w10 := x_y.cell (i := 0) rfl
  have f_y_0_w10 := x_y.frozen 0
  have c_y_1_w10 := x_y.cell (i := 1) rfl
  have f_y_1_w10 := x_y.frozen 1
  have c_y_2_w10 := x_y.cell (i := 2) rfl
  have f_y_2_w10 := x_y.frozen 2
  have c_y_3_w10 := x_y.cell (i := 3) rfl
  have f_y_3_w10 := x_y.frozen 3
  have c_y_4_w10 := x_y.cell (i := 4) rfl
  have f_y_4_w10 := x_y.frozen 4
  have c_y_5_w10 := x_y.cell (i := 5) rfl
  have f_y_5_w10 := x_y.frozen 5
  have c_y_6_w10 := x_y.cell (i := 6) rfl
  have f_y_6_w10 := x_y.frozen 6
  have c_y_7_w10 := x_y.cell (i := 7) rfl
  have f_y_7_w10 := x_y.frozen 7
  have c_y_8_w10 := x_y.cell (i := 8) rfl
  have f_y_8_w10 := x_y.frozen 8
  have c_z_0_w10 := x_z.cell (i := 0) rfl
  have f_z_0_w10 := x_z.frozen 0
  have c_z_1_w10 := x_z.cell (i := 1) rfl
  have f_z_1_w10 := x_z.frozen 1
  have c_z_2_w10 := x_z.cell (i := 2) rfl
  have f_z_2_w10 := x_z.frozen 2
  have c_z_3_w10 := x_z.cell (i := 3) rfl
  have f_z_3_w10 := x_z.frozen 3
  have c_z_4_w10 := x_z.cell (i := 4) rfl
  have f_z_4_w10 := x_z.frozen 4
  have c_z_5_w10 := x_z.cell (i := 5) rfl
  have f_z_5_w10 := x_z.frozen 5
  have c_z_6_w10 := x_z.cell (i := 6) rfl
  have f_z_6_w10 := x_z.frozen 6
  have c_z_7_w10 := x_z.cell (i := 7) rfl
  have f_z_7_w10 := x_z.frozen 7
  have c_z_8_w10 := x_z.cell (i := 8) rfl
  have f_z_8_w10 := x_z.frozen 8
  have gd := fun op x y W xs ys => guard_rec_run op x y W xs ys
  have gn := fun W => neq_rec_run W r r
  rw [show (!decide (r = r)) = false by simp] at gn
  go_wp2_with fail
  refine (iRecOk_c (rv_rec_mk (zM := r.M) : RV recL _ (.agg #[.int .i64 r.Kind, .int .i64 r.Acct, .int .i64 r.Other, .int .i64 r.To, .int .i64 r.Amt, .int .i64 r.M.Kind, .int .i64 r.M.Acct, .int .i64 r.M.Amt, .int .i64 r.M.Src]) r)).mono ?_
  rintro e w11 ⟨rfl, h_w11⟩
  clear c_r_0_w9 f_r_0_w9 c_r_1_w9 f_r_1_w9 c_r_2_w9 f_r_2_w9 c_r_3_w9 f_r_3_w9 c_r_4_w9 f_r_4_w9 c_r_5_w9 f_r_5_w9 c_r_6_w9 f_r_6_w9 c_r_7_w9 f_r_7_w9 c_r_8_w9 f_r_8_w9 c_x_0_w9 f_x_0_w9 c_x_1_w9 f_x_1_w9 c_x_2_w9 f_x_2_w9 c_x_3_w9 f_x_3_w9 c_x_4_w9 f_x_4_w9 c_x_5_w9 f_x_5_w9 c_x_6_w9 f_x_6_w9 c_x_7_w9 f_x_7_w9 c_x_8_w9 f_x_8_w9 c_y_0_w9 f_y_0_w9 c_y_1_w9 f_y_1_w9 c_y_2_w9 f_y_2_w9 c_y_3_w9 f_y_3_w9 c_y_4_w9 f_y_4_w9 c_y_5_w9 f_y_5_w9 c_y_6_w9 f_y_6_w9 c_y_7_w9 f_y_7_w9 c_y_8_w9 f_y_8_w9 c_r_0_w10 f_r_0_w10 c_r_1_w10 f_r_1_w10 c_r_2_w10 f_r_2_w10 c_r_3_w10 f_r_3_w10 c_r_4_w10 f_r_4_w10 c_r_5_w10 f_r_5_w10 c_r_6_w10 f_r_6_w10 c_r_7_w10 f_r_7_w10 c_r_8_w10 f_r_8_w10 c_x_0_w10 f_x_0_w10 c_x_1_w10 f_x_1_w10 c_x_2_w10 f_x_2_w10 c_x_3_w10 f_x_3_w10 c_x_4_w10 f_x_4_w10 c_x_5_w10 f_x_5_w10 c_x_6_w10 f_x_6_w10 c_x_7_w10 f_x_7_w10 c_x_8_w10 f_x_8_w10 c_y_0_w10 f_y_0_w10 c_y_1_w10 f_y_1_w10 c_y_2_w10 f_y_2_w10 c_y_3_w10 f_y_3_w10 c_y_4_w10 f_y_4_w10 c_y_5_w10 f_y_5_w10 c_y_6_w10 f_y_6_w10 c_y_7_w10 f_y_7_w10 c_y_8_w10 f_y_8_w10 c_z_0_w10 f_z_0_w10 c_z_1_w10 f_z_1_w10 c_z_2_w10 f_z_2_w10 c_z_3_w10 f_z_3_w10 c_z_4_w10 f_z_4_w10 c_z_5_w10 f_z_5_w10 c_z_6_w10 f_z_6_w10 c_z_7_w10 f_z_7_w10 c_z_8_w10 f_z_8_w10
  replace x_r := x_r.from_ h_w11
  replace x_x := x_x.from_ h_w11
  replace x_y := x_y.from_ h_w11
  replace x_z := x_z.from_ h_w11
  replace o_b := o_b.below h_w11
  have B_w11 := B_w10.trans (h_w11.mono B_w10.size)
  have s_w11 := h_w11.size
  rw [E1.out]
  have c_r_0_w11 := x_r.cell (i := 0) rfl
  have f_r_0_w11 := x_r.frozen 0
  have c_r_1_w11 := x_r.cell (i := 1) rfl
  have f_r_1_w11 := x_r.frozen 1
  have c_r_2_w11 := x_r.cell (i := 2) rfl
  have f_r_2_w11 := x_r.frozen 2
  have c_r_3_w11 := x_r.cell (i := 3) rfl
  have f_r_3_w11 := x_r.frozen 3
  have c_r_4_w11 := x_r.cell (i := 4) rfl
  have f_r_4_w11 := x_r.frozen 4
  have c_r_5_w11 := x_r.cell (i := 5) rfl
  have f_r_5_w11 := x_r.frozen 5
  have c_r_6_w11 := x_r.cell (i := 6) rfl
  have f_r_6_w11 := x_r.frozen 6
  have c_r_7_w11 := x_r.cell (i := 7) rfl
  have f_r_7_w11 := x_r.frozen 7
  have c_r_8_w11 := x_r.cell (i := 8) rfl
  have f_r_8_w11 := x_r.frozen 8
  have c_x_0_w11 := x_x.cell (i := 0) rfl
  have f_x_0_w11 := x_x.frozen 0
  have c_x_1_w11 := x_x.cell (i := 1) rfl
  have f_x_1_w11 := x_x.frozen 1
  have c_x_2_w11 := x_x.cell (i := 2) rfl
  have f_x_2_w11 := x_x.frozen 2
  have c_x_3_w11 := x_x.cell (i := 3) rfl
  have f_x_3_w11 := x_x.frozen 3
  have c_x_4_w11 := x_x.cell (i := 4) rfl
  have f_x_4_w11 := x_x.frozen 4
  have c_x_5_w11 := x_x.cell (i := 5) rfl
  have f_x_5_w11 := x_x.frozen 5
  have c_x_6_w11 := x_x.cell (i := 6) rfl
  have f_x_6_w11 := x_x.frozen 6
  have c_x_7_w11 := x_x.cell (i := 7) rfl
  have f_x_7_w11 := x_x.frozen 7
  have c_x_8_w11 := x_x.cell (i := 8) rfl
  have f_x_8_w11 := x_x.frozen 8
  have c_y_0_w11 := x_y.cell (i := 0) rfl
  have f_y_0_w11 := x_y.frozen 0
  have c_y_1_w11 := x_y.cell (i := 1) rfl
  have f_y_1_w11 := x_y.frozen 1
  have c_y_2_w11 := x_y.cell (i := 2) rfl
  have f_y_2_w11 := x_y.frozen 2
  have c_y_3_w11 := x_y.cell (i := 3) rfl
  have f_y_3_w11 := x_y.frozen 3
  have c_y_4_w11 := x_y.cell (i := 4) rfl
  have f_y_4_w11 := x_y.frozen 4
  have c_y_5_w11 := x_y.cell (i := 5) rfl
  have f_y_5_w11 := x_y.frozen 5
  have c_y_6_w11 := x_y.cell (i := 6) rfl
  have f_y_6_w11 := x_y.frozen 6
  have c_y_7_w11 := x_y.cell (i := 7) rfl
  have f_y_7_w11 := x_y.frozen 7
  have c_y_8_w11 := x_y.cell (i := 8) rfl
  have f_y_8_w11 := x_y.frozen 8
  have c_z_0_w11 := x_z.cell (i := 0) rfl
  have f_z_0_w11 := x_z.frozen 0
  have c_z_1_w11 := x_z.cell (i := 1) rfl
  have f_z_1_w11 := x_z.frozen 1
  have c_z_2_w11 := x_z.cell (i := 2) rfl
  have f_z_2_w11 := x_z.frozen 2
  have c_z_3_w11 := x_z.cell (i := 3) rfl
  have f_z_3_w11 := x_z.frozen 3
  have c_z_4_w11 := x_z.cell (i := 4) rfl
  have f_z_4_w11 := x_z.frozen 4
  have c_z_5_w11 := x_z.cell (i := 5) rfl
  have f_z_5_w11 := x_z.frozen 5
  have c_z_6_w11 := x_z.cell (i := 6) rfl
  have f_z_6_w11 := x_z.frozen 6
  have c_z_7_w11 := x_z.cell (i := 7) rfl
  have f_z_7_w11 := x_z.frozen 7
  have c_z_8_w11 := x_z.cell (i := 8) rfl
  have f_z_8_w11 := x_z.frozen 8
  obtain ⟨nm, hnm⟩ : ∃ t, rkName r.Kind = t := ⟨_, rfl⟩
  rw [hnm] at E5
  have HNM := Lib.hid hnm
  clear hnm
  have fE := E5.out
  go_wp2_with fail
  refine (iRkName_c r.Kind _).mono ?_
  rintro e w12 ⟨rfl, h_w12⟩
  clear c_r_0_w11 f_r_0_w11 c_r_1_w11 f_r_1_w11 c_r_2_w11 f_r_2_w11 c_r_3_w11 f_r_3_w11 c_r_4_w11 f_r_4_w11 c_r_5_w11 f_r_5_w11 c_r_6_w11 f_r_6_w11 c_r_7_w11 f_r_7_w11 c_r_8_w11 f_r_8_w11 c_x_0_w11 f_x_0_w11 c_x_1_w11 f_x_1_w11 c_x_2_w11 f_x_2_w11 c_x_3_w11 f_x_3_w11 c_x_4_w11 f_x_4_w11 c_x_5_w11 f_x_5_w11 c_x_6_w11 f_x_6_w11 c_x_7_w11 f_x_7_w11 c_x_8_w11 f_x_8_w11 c_y_0_w11 f_y_0_w11 c_y_1_w11 f_y_1_w11 c_y_2_w11 f_y_2_w11 c_y_3_w11 f_y_3_w11 c_y_4_w11 f_y_4_w11 c_y_5_w11 f_y_5_w11 c_y_6_w11 f_y_6_w11 c_y_7_w11 f_y_7_w11 c_y_8_w11 f_y_8_w11 c_z_0_w11 f_z_0_w11 c_z_1_w11 f_z_1_w11 c_z_2_w11 f_z_2_w11 c_z_3_w11 f_z_3_w11 c_z_4_w11 f_z_4_w11 c_z_5_w11 f_z_5_w11 c_z_6_w11 f_z_6_w11 c_z_7_w11 f_z_7_w11 c_z_8_w11 f_z_8_w11
  replace x_r := x_r.from_ h_w12
  replace x_x := x_x.from_ h_w12
  replace x_y := x_y.from_ h_w12
  replace x_z := x_z.from_ h_w12
  replace o_b := o_b.below h_w12
  have B_w12 := B_w11.trans (h_w12.mono B_w11.size)
  have s_w12 := h_w12.size
  rw [HNM.out]
  have c_r_0_w12 := x_r.cell (i := 0) rfl
  have f_r_0_w12 := x_r.frozen 0
  have c_r_1_w12 := x_r.cell (i := 1) rfl
  have f_r_1_w12 := x_r.frozen 1
  have c_r_2_w12 := x_r.cell (i := 2) rfl
  have f_r_2_w12 := x_r.frozen 2
  have c_r_3_w12 := x_r.cell (i := 3) rfl
  have f_r_3_w12 := x_r.frozen 3
  have c_r_4_w12 := x_r.cell (i := 4) rfl
  have f_r_4_w12 := x_r.frozen 4
  have c_r_5_w12 := x_r.cell (i := 5) rfl
  have f_r_5_w12 := x_r.frozen 5
  have c_r_6_w12 := x_r.cell (i := 6) rfl
  have f_r_6_w12 := x_r.frozen 6
  have c_r_7_w12 := x_r.cell (i := 7) rfl
  have f_r_7_w12 := x_r.frozen 7
  have c_r_8_w12 := x_r.cell (i := 8) rfl
  have f_r_8_w12 := x_r.frozen 8
  have c_x_0_w12 := x_x.cell (i := 0) rfl
  have f_x_0_w12 := x_x.frozen 0
  have c_x_1_w12 := x_x.cell (i := 1) rfl
  have f_x_1_w12 := x_x.frozen 1
  have c_x_2_w12 := x_x.cell (i := 2) rfl
  have f_x_2_w12 := x_x.frozen 2
  have c_x_3_w12 := x_x.cell (i := 3) rfl
  have f_x_3_w12 := x_x.frozen 3
  have c_x_4_w12 := x_x.cell (i := 4) rfl
  have f_x_4_w12 := x_x.frozen 4
  have c_x_5_w12 := x_x.cell (i := 5) rfl
  have f_x_5_w12 := x_x.frozen 5
  have c_x_6_w12 := x_x.cell (i := 6) rfl
  have f_x_6_w12 := x_x.frozen 6
  have c_x_7_w12 := x_x.cell (i := 7) rfl
  have f_x_7_w12 := x_x.frozen 7
  have c_x_8_w12 := x_x.cell (i := 8) rfl
  have f_x_8_w12 := x_x.frozen 8
  have c_y_0_w12 := x_y.cell (i := 0) rfl
  have f_y_0_w12 := x_y.frozen 0
  have c_y_1_w12 := x_y.cell (i := 1) rfl
  have f_y_1_w12 := x_y.frozen 1
  have c_y_2_w12 := x_y.cell (i := 2) rfl
  have f_y_2_w12 := x_y.frozen 2
  have c_y_3_w12 := x_y.cell (i := 3) rfl
  have f_y_3_w12 := x_y.frozen 3
  have c_y_4_w12 := x_y.cell (i := 4) rfl
  have f_y_4_w12 := x_y.frozen 4
  have c_y_5_w12 := x_y.cell (i := 5) rfl
  have f_y_5_w12 := x_y.frozen 5
  have c_y_6_w12 := x_y.cell (i := 6) rfl
  have f_y_6_w12 := x_y.frozen 6
  have c_y_7_w12 := x_y.cell (i := 7) rfl
  have f_y_7_w12 := x_y.frozen 7
  have c_y_8_w12 := x_y.cell (i := 8) rfl
  have f_y_8_w12 := x_y.frozen 8
  have c_z_0_w12 := x_z.cell (i := 0) rfl
  have f_z_0_w12 := x_z.frozen 0
  have c_z_1_w12 := x_z.cell (i := 1) rfl
  have f_z_1_w12 := x_z.frozen 1
  have c_z_2_w12 := x_z.cell (i := 2) rfl
  have f_z_2_w12 := x_z.frozen 2
  have c_z_3_w12 := x_z.cell (i := 3) rfl
  have f_z_3_w12 := x_z.frozen 3
  have c_z_4_w12 := x_z.cell (i := 4) rfl
  have f_z_4_w12 := x_z.frozen 4
  have c_z_5_w12 := x_z.cell (i := 5) rfl
  have f_z_5_w12 := x_z.frozen 5
  have c_z_6_w12 := x_z.cell (i := 6) rfl
  have f_z_6_w12 := x_z.frozen 6
  have c_z_7_w12 := x_z.cell (i := 7) rfl
  have f_z_7_w12 := x_z.frozen 7
  have c_z_8_w12 := x_z.cell (i := 8) rfl
  have f_z_8_w12 := x_z.frozen 8
  clear gn gd
  clear c_r_0_w12 f_r_0_w12 c_r_1_w12 f_r_1_w12 c_r_2_w12 f_r_2_w12 c_r_3_w12 f_r_3_w12 c_r_4_w12 f_r_4_w12 c_r_5_w12 f_r_5_w12 c_r_6_w12 f_r_6_w12 c_r_7_w12 f_r_7_w12 c_r_8_w12 f_r_8_w12 c_x_0_w12 f_x_0_w12 c_x_1_w12 f_x_1_w12 c_x_2_w12 f_x_2_w12 c_x_3_w12 f_x_3_w12 c_x_4_w12 f_x_4_w12 c_x_5_w12 f_x_5_w12 c_x_6_w12 f_x_6_w12 c_x_7_w12 f_x_7_w12 c_x_8_w12 f_x_8_w12 c_y_0_w12 f_y_0_w12 c_y_1_w12 f_y_1_w12 c_y_2_w12 f_y_2_w12 c_y_3_w12 f_y_3_w12 c_y_4_w12 f_y_4_w12 c_y_5_w12 f_y_5_w12 c_y_6_w12 f_y_6_w12 c_y_7_w12 f_y_7_w12 c_y_8_w12 f_y_8_w12 c_z_0_w12 f_z_0_w12 c_z_1_w12 f_z_1_w12 c_z_2_w12 f_z_2_w12 c_z_3_w12 f_z_3_w12 c_z_4_w12 f_z_4_w12 c_z_5_w12 f_z_5_w12 c_z_6_w12 f_z_6_w12 c_z_7_w12 f_z_7_w12 c_z_8_w12 f_z_8_w12
  clear x_r x_x x_y x_z o_b
  have oB : OS .u8 5 (w12.alloc (.cells #[] 5)) w12.heap.size (w12.alloc (.cells #[] 5)).heap.size (.slice (some ⟨w12.heap.size, 0, none⟩) 0 0) [] := OS.mk_ (own_none .u8 w12 w12.heap.size 5 (Nat.le_refl _))
  obtain ⟨W4, e4, s4, h4, -⟩ := alloc_step w12 5 []
  have e4' : w12.alloc (.cells #[] 5) = W4 := e4
  rw [e4'] at oB
  clear e4'
  have bO : w12.heap.size < W4.heap.size := by omega
  have s4_1 := Nat.le_of_eq s4
  have s4_2 := Nat.le_of_eq s4.symm
  clear s4
  have B_W4 := B_w12.trans (h4.mono B_w12.size)
  have s_W4 := h4.size
  have rO : RS .u8 W4 (.slice (some ⟨w12.heap.size, 0, none⟩) 0 0) [] := oB.rd
  clear oB
  go_wp2_with fail
  refine (makeMsgs_c ((hr.below B_W4).more B_W4.size) hb hm).mono ?_
  rintro e w13 ⟨v1, l, rfl, o_l, hall, hlen, h_w13⟩
  have B_w13 := B_W4.trans (h_w13.mono B_W4.size)
  have s_w13 := h_w13.size
  replace rO := rO.from_ h_w13
  obtain ⟨Al, cl, rfl, ql1, ql2, rL⟩ := rv_slice o_l.rd
  clear o_l ql1 ql2
  obtain ⟨W5, rfl⟩ : ∃ x, x = w13 := ⟨_, rfl⟩
  have BW := B_w13
  have B5 : Below W5.heap.size W5 W5 := Below.refl _ _
  go_wp2
  go_loopw [13, 93] (fun s13 j wr => ∃ k : Nat, k ≤ l.length ∧ j = .int .i64 k ∧ RS .u8 wr s13 (msgsEnc (l.take k)) ∧ Below W5.heap.size W5 wr) (fun _ j _ => l.length - (intOf j).toNat)
  case atStart => exact ⟨0, Nat.zero_le _, rfl, rO, B5⟩
  case round =>
    clear rO
    obtain ⟨k, hk, rfl, rO, HB⟩ := hrel
    have hs := HB.size
    have lE : (msgsEnc (l.take k)).length ≤ 224 := by have h1 := msgsEnc_len (allOk_take hall k); have h2 := List.length_take_le k l; omega
    by_cases hlt : k < l.length
    case pos =>
      obtain ⟨x, hxe⟩ := get_of_lt hlt
      obtain ⟨b', off, rfl, hb', e0, e1, e2, e3⟩ := el_msg (rL.below HB) hxe
      have i1 : (k : Int) < (l.length : Int) := by omega
      have hx : msgOkB x = true := hall x (List.mem_of_getElem? hxe)
      have EX : Hid (msgOkB x = true) := Lib.hid hx
      have ET := Lib.hid (text_full hx)
      have EP : Hid (msgPut (msgsEnc (l.take k)) x = msgsEnc (l.take (k + 1))) := by show _ = _; rw [msgsEnc_take hxe, msgPut, if_pos hx]
      clear hx hxe
      obtain ⟨w14, e_w14, s_w14, h_w14, x_m⟩ := alloc_step wr 24 [.int .i64 x.Kind, .int .i64 x.Acct, .int .i64 x.Amt, .int .i64 x.Src]
      have s_w14_1 := Nat.le_of_eq s_w14
      have s_w14_2 := Nat.le_of_eq s_w14.symm
      clear s_w14
      have B_w14 := HB.trans (h_w14.mono HB.size)
      have c_m_0_w14 := x_m.cell (i := 0) rfl
      have f_m_0_w14 := x_m.frozen 0
      have c_m_1_w14 := x_m.cell (i := 1) rfl
      have f_m_1_w14 := x_m.frozen 1
      have c_m_2_w14 := x_m.cell (i := 2) rfl
      have f_m_2_w14 := x_m.frozen 2
      have c_m_3_w14 := x_m.cell (i := 3) rfl
      have f_m_3_w14 := x_m.frozen 3
      go_wp2_with fail
      refine (iMsgPut_c (m := x) (rO.from_ h_w14) rv_msg_mk (by omega)).mono ?_
      rintro e w15 ⟨v2, rfl, o_x, h_w15⟩
      clear c_m_0_w14 f_m_0_w14 c_m_1_w14 f_m_1_w14 c_m_2_w14 f_m_2_w14 c_m_3_w14 f_m_3_w14
      replace x_m := x_m.from_ h_w15
      have B_w15 := B_w14.trans (h_w15.mono B_w14.size)
      have s_w15 := h_w15.size
      rw [EP.out] at o_x
      rw [EX.out]
      have c_m_0_w15 := x_m.cell (i := 0) rfl
      have f_m_0_w15 := x_m.frozen 0
      have c_m_1_w15 := x_m.cell (i := 1) rfl
      have f_m_1_w15 := x_m.frozen 1
      have c_m_2_w15 := x_m.cell (i := 2) rfl
      have f_m_2_w15 := x_m.frozen 2
      have c_m_3_w15 := x_m.cell (i := 3) rfl
      have f_m_3_w15 := x_m.frozen 3
      have HBW : Below w.heap.size w w15 := BW.trans (B_w15.mono BW.size)
      obtain ⟨t, htx⟩ : ∃ t, msgText x = t := ⟨_, rfl⟩
      rw [htx] at ET
      have HTX := Lib.hid htx
      clear htx
      have fT := ET.out
      go_wp2_with fail
      refine (iMsgText_c (m := x) (ht.below HBW) rv_msg_mk).mono ?_
      rintro e w16 ⟨rfl, h_w16⟩
      clear c_m_0_w15 f_m_0_w15 c_m_1_w15 f_m_1_w15 c_m_2_w15 f_m_2_w15 c_m_3_w15 f_m_3_w15
      replace x_m := x_m.from_ h_w16
      replace o_x := o_x.below h_w16
      have B_w16 := B_w15.trans (h_w16.mono B_w15.size)
      have s_w16 := h_w16.size
      rw [HTX.out]
      have c_m_0_w16 := x_m.cell (i := 0) rfl
      have f_m_0_w16 := x_m.frozen 0
      have c_m_1_w16 := x_m.cell (i := 1) rfl
      have f_m_1_w16 := x_m.frozen 1
      have c_m_2_w16 := x_m.cell (i := 2) rfl
      have f_m_2_w16 := x_m.frozen 2
      have c_m_3_w16 := x_m.cell (i := 3) rfl
      have f_m_3_w16 := x_m.frozen 3
      go_wp2
      go_roundw
      case rel => exact ⟨k + 1, by omega, by go_num, o_x.rd, B_w16⟩
      case measure => simp [intOf]; omega
    obtain rfl : k = l.length := by omega
    obtain ⟨W7, rfl⟩ : ∃ x, x = wr := ⟨_, rfl⟩
    rw [List.take_length] at rO lE
    clear hlt hk
    obtain ⟨AO, cO, rfl, qO1, qO2, hrO⟩ := rO
    have rO : RS .u8 W7 (.slice AO (msgsEnc l).length cO) (msgsEnc l) := ⟨_, _, rfl, qO1, qO2, hrO⟩
    clear hrO
    unfold maxLen at qO2
    replace rL := (rL.below HB).more HB.size
    have B7 : Below W7.heap.size W7 W7 := Below.refl _ _
    have BW7 := BW.trans (HB.mono BW.size)
    go_wp2
    go_loopw [12, 114] (fun s12 j wr => ∃ (k p : Nat), k ≤ l.length ∧ j = .int .i64 k ∧ s12 = .int .i64 p ∧ Hid (p = (msgsEnc (l.take k)).length) ∧ p ≤ 224 ∧ Below W7.heap.size W7 wr) (fun _ j _ => l.length - (intOf j).toNat)
    case atStart => exact ⟨0, 0, Nat.zero_le _, rfl, rfl, rfl, by omega, B7⟩
    case round =>
      obtain ⟨k, p, hk, rfl, rfl, HP, hp, HB3⟩ := hrel
      have hs3 := HB3.size
      by_cases hlt : k < l.length
      case pos =>
        obtain ⟨x, hxe⟩ := get_of_lt hlt
        obtain ⟨b', off, rfl, hb', e0, e1, e2, e3⟩ := el_msg (rL.below HB3) hxe
        have i1 : (k : Int) < (l.length : Int) := by omega
        have EG : Hid (msgGetB (msgsEnc l) (p : Int) = true ∧ msgGetM (msgsEnc l) (p : Int) = x ∧ msgGetP (msgsEnc l) (p : Int) = (((msgsEnc (l.take (k + 1))).length : Nat) : Int)) := by
          have g := msgGet_at (p := (p : Int)) (hall x (List.mem_of_getElem? hxe)) (msgsEnc_split hxe) (by rw [HP.out])
          rw [← msgsEnc_take hxe] at g
          exact g
        clear hxe
        obtain ⟨p2, hp2⟩ : ∃ q, (msgsEnc (l.take (k + 1))).length = q := ⟨_, rfl⟩
        have lp2 : p2 ≤ 224 := by rw [← hp2]; have h1 := msgsEnc_len (allOk_take hall (k + 1)); have h2 := List.length_take_le (k + 1) l; omega
        rw [hp2] at EG
        have HP2 : Hid (p2 = (msgsEnc (l.take (k + 1))).length) := hp2.symm
        clear hp2
        obtain ⟨w14, e_w14, s_w14, h_w14, x_m⟩ := alloc_step wr 24 [.int .i64 x.Kind, .int .i64 x.Acct, .int .i64 x.Amt, .int .i64 x.Src]
        have s_w14_1 := Nat.le_of_eq s_w14
        have s_w14_2 := Nat.le_of_eq s_w14.symm
        clear s_w14
        have B_w14 := HB3.trans (h_w14.mono HB3.size)
        have c_m_0_w14 := x_m.cell (i := 0) rfl
        have f_m_0_w14 := x_m.frozen 0
        have c_m_1_w14 := x_m.cell (i := 1) rfl
        have f_m_1_w14 := x_m.frozen 1
        have c_m_2_w14 := x_m.cell (i := 2) rfl
        have f_m_2_w14 := x_m.frozen 2
        have c_m_3_w14 := x_m.cell (i := 3) rfl
        have f_m_3_w14 := x_m.frozen 3
        go_wp2_with fail
        refine (iMsgGet_c (a := (p : Int)) (rO.from_ (HB3.trans (h_w14.mono HB3.size))) (msgsEnc_bytes l) (by omega) (by omega)).mono ?_
        rintro e w15 ⟨v2, rfl, o_x, h_w15⟩
        clear c_m_0_w14 f_m_0_w14 c_m_1_w14 f_m_1_w14 c_m_2_w14 f_m_2_w14 c_m_3_w14 f_m_3_w14
        replace x_m := x_m.from_ h_w15
        have B_w15 := B_w14.trans (h_w15.mono B_w14.size)
        have s_w15 := h_w15.size
        rw [EG.out.2.1] at o_x
        rw [EG.out.1, EG.out.2.2]
        obtain rfl := rv_msg o_x.rd
        clear o_x
        have c_m_0_w15 := x_m.cell (i := 0) rfl
        have f_m_0_w15 := x_m.frozen 0
        have c_m_1_w15 := x_m.cell (i := 1) rfl
        have f_m_1_w15 := x_m.frozen 1
        have c_m_2_w15 := x_m.cell (i := 2) rfl
        have f_m_2_w15 := x_m.frozen 2
        have c_m_3_w15 := x_m.cell (i := 3) rfl
        have f_m_3_w15 := x_m.frozen 3
        obtain ⟨w16, e_w16, s_w16, h_w16, x_n⟩ := alloc_step w15 24 [.int .i64 x.Kind, .int .i64 x.Acct, .int .i64 x.Amt, .int .i64 x.Src]
        have s_w16_1 := Nat.le_of_eq s_w16
        have s_w16_2 := Nat.le_of_eq s_w16.symm
        clear s_w16
        replace x_m := x_m.from_ h_w16
        have B_w16 := B_w15.trans (h_w16.mono B_w15.size)
        have c_m_0_w16 := x_m.cell (i := 0) rfl
        have f_m_0_w16 := x_m.frozen 0
        have c_m_1_w16 := x_m.cell (i := 1) rfl
        have f_m_1_w16 := x_m.frozen 1
        have c_m_2_w16 := x_m.cell (i := 2) rfl
        have f_m_2_w16 := x_m.frozen 2
        have c_m_3_w16 := x_m.cell (i := 3) rfl
        have f_m_3_w16 := x_m.frozen 3
        have c_n_0_w16 := x_n.cell (i := 0) rfl
        have f_n_0_w16 := x_n.frozen 0
        have c_n_1_w16 := x_n.cell (i := 1) rfl
        have f_n_1_w16 := x_n.frozen 1
        have c_n_2_w16 := x_n.cell (i := 2) rfl
        have f_n_2_w16 := x_n.frozen 2
        have c_n_3_w16 := x_n.cell (i := 3) rfl
        have f_n_3_w16 := x_n.frozen 3
        have gd := fun op x y W xs ys => guard_msg_run op x y W xs ys
        have gn := fun W => neq_msg_run W x x
        rw [show (!decide (x = x)) = false by simp] at gn
        go_wp2
        go_roundw
        case rel => exact ⟨k + 1, p2, by omega, by go_num, rfl, HP2, lp2, B_w16⟩
        case measure => simp [intOf]; omega
      obtain rfl : k = l.length := by omega
      have hpe : p = (msgsEnc l).length := by rw [HP.out, List.take_length]
      have te : ((p : Int) == ((msgsEnc l).length : Int)) = true := by rw [hpe]; simp
      have te2 : (p == (msgsEnc l).length) = true := by rw [hpe]; simp
      have te3 : decide (p = (msgsEnc l).length) = true := decide_eq_true hpe
      clear hpe HP
      go_wp2
      go_ret
      exact ⟨rfl, BW7.trans (HB3.mono BW7.size)⟩
end Go.Proofs.YtkbhbccpmmhelaaDoor
namespace Go.Proofs.YtkbhbccpmmhelaaDoor
open Go.RowKit Go.ChangeShapes Go.WideShapes
theorem rs_of_trod {H : Type} {enc : TypeId × Value → H} {P : Program} {w : World} {base : Nat} {spare : Nat → Bool} {held : Bool} {t e : TypeId} {k : IntKind} {fuel : Nat} {v : Value} {x : DataW H × List MemPlace}
    (ht : P.underlying t = some (.slice e)) (he : P.underlying e = some (.int k)) (hc : P.cellsOf e = 1) (h : DataW.trod enc P w base spare held fuel t [v] = some x) :
    ∃ zs, RS k w v zs ∧ ∀ n ∈ zs, (Lit.int k n).wf = true := by
  rcases open_ints ht he hc h with ⟨hcs, _⟩ | ⟨a, len, cap, zs, hcs, _, hl, hm, hz, _, hcell, hwz⟩
  · obtain rfl : v = .slice none 0 0 := by simpa using hcs
    exact ⟨[], ⟨none, 0, rfl, Nat.le_refl _, by unfold maxLen; omega, Rd.nil⟩, fun n hn => by cases hn⟩
  · obtain rfl : v = .slice (some a) len cap := by simpa using hcs
    have hlz : len ≤ zs.length := by rw [hz]; split <;> omega
    have hlen : (zs.take len).length = len := by rw [List.length_take]; omega
    refine ⟨zs.take len, ⟨some a, cap, by rw [hlen], by omega, hm, fun h0 => ?_⟩, fun n hn => hwz n (List.mem_of_mem_take hn)⟩
    obtain ⟨b, off, spot⟩ := a
    have hspot : spot = none := by simpa [Addr.add] using World.cell?_spot (hcell 0 (by omega))
    subst hspot
    refine ⟨b, off, rfl, ?_, fun j hj => ?_⟩
    · have := lt_of_cell (hcell 0 (by omega))
      simpa [Addr.add] using this
    · have hj2 : j < len := by omega
      have := hcell j (by omega)
      rw [add_mk] at this
      rw [this, List.getD_eq_getElem?_getD, List.getD_eq_getElem?_getD, List.getElem?_take, if_pos hj2]
end Go.Proofs.YtkbhbccpmmhelaaDoor
namespace Go.Proofs.YtkbhbccpmmhelaaDoor
open Go.RowKit Go.ChangeShapes Go.WideShapes
end Go.Proofs.YtkbhbccpmmhelaaDoor
namespace Go.Proofs.YtkbhbccpmmhelaaDoor
open Go.RowKit Go.ChangeShapes Go.WideShapes
set_option linter.unusedVariables false
section
variable {P : Program} {α β : Type} {L : Lay α} {M : Lay β} {Q : α → Prop} {R : β → Prop} {t e e' : TypeId} {n : Nat}
end
end Go.Proofs.YtkbhbccpmmhelaaDoor
namespace Go.Proofs.YtkbhbccpmmhelaaDoor
open Go.RowKit
set_option linter.unusedVariables false
end Go.Proofs.YtkbhbccpmmhelaaDoor
namespace Go.Proofs.YtkbhbccpmmhelaaDoor
open Go.RowKit
set_option linter.unusedVariables false
end Go.Proofs.YtkbhbccpmmhelaaDoor
