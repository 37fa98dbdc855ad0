/- Texts joined: RcV. -/
import Derived.Test.YtkbhbccpmmhelaaDoorZ2
import Derived.LoopN
namespace Go.Proofs.YtkbhbccpmmhelaaDoor
open Go.RowKit
set_option linter.unusedVariables false
set_option linter.unusedSimpArgs false
def amtI (k a : Int) : Bool := if k ≤ 4 then amtB a else if k = 5 ∨ k = 7 ∨ k = 8 then (numB a && decide (1 ≤ a)) else numB a
def restR (r : MRec) : MRec := ⟨0, if kAcct r.Kind = true then 0 else r.Acct, if kOther r.Kind = true then 0 else r.Other, if kTo r.Kind = true then 0 else r.To, if kAmt r.Kind = true then 0 else r.Amt, if r.Kind = 5 then ⟨0, 0, 0, 0⟩ else r.M⟩
theorem kinds9 {k : Int} (h : 1 ≤ k ∧ k ≤ 9) : k = 1 ∨ k = 2 ∨ k = 3 ∨ k = 4 ∨ k = 5 ∨ k = 6 ∨ k = 7 ∨ k = 8 ∨ k = 9 := by omega
theorem recOk_impl {r : MRec} (h : 1 ≤ r.Kind ∧ r.Kind ≤ 9) : recOkB r = (inB r.Acct 0 2 && (inB r.Other 0 2 && (inB r.To 0 3 && (amtI r.Kind r.Amt && ((r.Kind != 5 || msgOkB r.M) && decide (restR r = recZ)))))) := by
  obtain ⟨k, a, o, t, m, M⟩ := r
  have hk : inB k 1 9 = true := inB_true.2 h
  have hn : ∀ x : Int, numB x = true → (x == 0) = !decide (1 ≤ x) := by
    intro x hx
    have := numB_true.1 hx
    by_cases e : x = 0
    · subst e; rfl
    · have : 1 ≤ x := by omega
      simp [e, this]
  have h9 := kinds9 h
  dsimp only at h9
  unfold recOkB
  simp only [hk, Bool.true_and]
  have hm : numB m = true → 0 ≤ m := fun h => (numB_true.1 h).1
  clear hn hk h
  rcases h9 with rfl | rfl | rfl | rfl | rfl | rfl | rfl | rfl | rfl
  all_goals
    rw [Bool.eq_iff_iff]
    simp [kAcct, kOther, kTo, kAmt, recAmtB, recMsgB, amtI, restR, recZ]
    try grind
set_option maxHeartbeats 4000000 in
theorem iAmtFits_c {w : World} {r : MRec} (h : 1 ≤ r.Kind ∧ r.Kind ≤ 9) : Calls Tryd.prog 34 #[.agg #[.int .i64 r.Kind, .int .i64 r.Acct, .int .i64 r.Other, .int .i64 r.To, .int .i64 r.Amt, .int .i64 r.M.Kind, .int .i64 r.M.Acct, .int .i64 r.M.Amt, .int .i64 r.M.Src]] w fun e w' => e = .returned (.bool (amtI r.Kind r.Amt)) ∧ Below w.heap.size w w' := by
  obtain ⟨k, a, o, t, m, ⟨k1, k2, k3, k4⟩⟩ := r
  have h9 := kinds9 h
  clear h
  dsimp only at h9 ⊢
  rcases h9 with rfl | rfl | rfl | rfl | rfl | rfl | rfl | rfl | rfl
  · obtain ⟨wa, hwa, B0, sa, x_a⟩ := frame1 w 26 [.int .i64 1, .int .i64 a, .int .i64 o, .int .i64 t, .int .i64 m, .int .i64 k1, .int .i64 k2, .int .i64 k3, .int .i64 k4]
    have sa_1 := Nat.le_of_eq sa
    have sa_2 := Nat.le_of_eq sa.symm
    clear sa
    have c_a_0_wa := x_a.cell (i := 0) rfl
    have c_a_1_wa := x_a.cell (i := 1) rfl
    have c_a_2_wa := x_a.cell (i := 2) rfl
    have c_a_3_wa := x_a.cell (i := 3) rfl
    have c_a_4_wa := x_a.cell (i := 4) rfl
    have c_a_5_wa := x_a.cell (i := 5) rfl
    have c_a_6_wa := x_a.cell (i := 6) rfl
    have c_a_7_wa := x_a.cell (i := 7) rfl
    have c_a_8_wa := x_a.cell (i := 8) rfl
    go_enter Tryd.func34, Tryd.ntmps34
    go_wp2_with fail
    refine (iAmt_any _ _).mono ?_
    rintro e w1 ⟨rfl, rfl⟩
    clear c_a_0_wa c_a_1_wa c_a_2_wa c_a_3_wa c_a_4_wa c_a_5_wa c_a_6_wa c_a_7_wa c_a_8_wa
    go_wp2
    go_ret
    exact ⟨ret_eq (by simp [amtI]), B0⟩
  · obtain ⟨wa, hwa, B0, sa, x_a⟩ := frame1 w 26 [.int .i64 2, .int .i64 a, .int .i64 o, .int .i64 t, .int .i64 m, .int .i64 k1, .int .i64 k2, .int .i64 k3, .int .i64 k4]
    have sa_1 := Nat.le_of_eq sa
    have sa_2 := Nat.le_of_eq sa.symm
    clear sa
    have c_a_0_wa := x_a.cell (i := 0) rfl
    have c_a_1_wa := x_a.cell (i := 1) rfl
    have c_a_2_wa := x_a.cell (i := 2) rfl
    have c_a_3_wa := x_a.cell (i := 3) rfl
    have c_a_4_wa := x_a.cell (i := 4) rfl
    have c_a_5_wa := x_a.cell (i := 5) rfl
    have c_a_6_wa := x_a.cell (i := 6) rfl
    have c_a_7_wa := x_a.cell (i := 7) rfl
    have c_a_8_wa := x_a.cell (i := 8) rfl
    go_enter Tryd.func34, Tryd.ntmps34
    go_wp2_with fail
    refine (iAmt_any _ _).mono ?_
    rintro e w1 ⟨rfl, rfl⟩
    clear c_a_0_wa c_a_1_wa c_a_2_wa c_a_3_wa c_a_4_wa c_a_5_wa c_a_6_wa c_a_7_wa c_a_8_wa
    go_wp2
    go_ret
    exact ⟨ret_eq (by simp [amtI]), B0⟩
  · obtain ⟨wa, hwa, B0, sa, x_a⟩ := frame1 w 26 [.int .i64 3, .int .i64 a, .int .i64 o, .int .i64 t, .int .i64 m, .int .i64 k1, .int .i64 k2, .int .i64 k3, .int .i64 k4]
    have sa_1 := Nat.le_of_eq sa
    have sa_2 := Nat.le_of_eq sa.symm
    clear sa
    have c_a_0_wa := x_a.cell (i := 0) rfl
    have c_a_1_wa := x_a.cell (i := 1) rfl
    have c_a_2_wa := x_a.cell (i := 2) rfl
    have c_a_3_wa := x_a.cell (i := 3) rfl
    have c_a_4_wa := x_a.cell (i := 4) rfl
    have c_a_5_wa := x_a.cell (i := 5) rfl
    have c_a_6_wa := x_a.cell (i := 6) rfl
    have c_a_7_wa := x_a.cell (i := 7) rfl
    have c_a_8_wa := x_a.cell (i := 8) rfl
    go_enter Tryd.func34, Tryd.ntmps34
    go_wp2_with fail
    refine (iAmt_any _ _).mono ?_
    rintro e w1 ⟨rfl, rfl⟩
    clear c_a_0_wa c_a_1_wa c_a_2_wa c_a_3_wa c_a_4_wa c_a_5_wa c_a_6_wa c_a_7_wa c_a_8_wa
    go_wp2
    go_ret
    exact ⟨ret_eq (by simp [amtI]), B0⟩
  · obtain ⟨wa, hwa, B0, sa, x_a⟩ := frame1 w 26 [.int .i64 4, .int .i64 a, .int .i64 o, .int .i64 t, .int .i64 m, .int .i64 k1, .int .i64 k2, .int .i64 k3, .int .i64 k4]
    have sa_1 := Nat.le_of_eq sa
    have sa_2 := Nat.le_of_eq sa.symm
    clear sa
    have c_a_0_wa := x_a.cell (i := 0) rfl
    have c_a_1_wa := x_a.cell (i := 1) rfl
    have c_a_2_wa := x_a.cell (i := 2) rfl
    have c_a_3_wa := x_a.cell (i := 3) rfl
    have c_a_4_wa := x_a.cell (i := 4) rfl
    have c_a_5_wa := x_a.cell (i := 5) rfl
    have c_a_6_wa := x_a.cell (i := 6) rfl
    have c_a_7_wa := x_a.cell (i := 7) rfl
    have c_a_8_wa := x_a.cell (i := 8) rfl
    go_enter Tryd.func34, Tryd.ntmps34
    go_wp2_with fail
    refine (iAmt_any _ _).mono ?_
    rintro e w1 ⟨rfl, rfl⟩
    clear c_a_0_wa c_a_1_wa c_a_2_wa c_a_3_wa c_a_4_wa c_a_5_wa c_a_6_wa c_a_7_wa c_a_8_wa
    go_wp2
    go_ret
    exact ⟨ret_eq (by simp [amtI]), B0⟩
  · obtain ⟨wa, hwa, B0, sa, x_a⟩ := frame1 w 26 [.int .i64 5, .int .i64 a, .int .i64 o, .int .i64 t, .int .i64 m, .int .i64 k1, .int .i64 k2, .int .i64 k3, .int .i64 k4]
    have sa_1 := Nat.le_of_eq sa
    have sa_2 := Nat.le_of_eq sa.symm
    clear sa
    have c_a_0_wa := x_a.cell (i := 0) rfl
    have c_a_1_wa := x_a.cell (i := 1) rfl
    have c_a_2_wa := x_a.cell (i := 2) rfl
    have c_a_3_wa := x_a.cell (i := 3) rfl
    have c_a_4_wa := x_a.cell (i := 4) rfl
    have c_a_5_wa := x_a.cell (i := 5) rfl
    have c_a_6_wa := x_a.cell (i := 6) rfl
    have c_a_7_wa := x_a.cell (i := 7) rfl
    have c_a_8_wa := x_a.cell (i := 8) rfl
    cases hn : numB m with
    | false =>
      have HN := Lib.hid hn
      clear hn
      go_enter Tryd.func34, Tryd.ntmps34
      go_wp2_with fail
      refine (iNum_any _ _).mono ?_
      rintro e w1 ⟨rfl, rfl⟩
      rw [HN.out]
      go_wp2
      go_ret
      exact ⟨ret_eq (by simp [amtI, HN.out]), B0⟩
    | true =>
      have HN := Lib.hid hn
      clear hn
      go_enter Tryd.func34, Tryd.ntmps34
      go_wp2_with fail
      refine (iNum_any _ _).mono ?_
      rintro e w1 ⟨rfl, rfl⟩
      rw [HN.out]
      go_wp2
      go_ret
      exact ⟨ret_eq (by simp [amtI, HN.out]), B0⟩
  · obtain ⟨wa, hwa, B0, sa, x_a⟩ := frame1 w 26 [.int .i64 6, .int .i64 a, .int .i64 o, .int .i64 t, .int .i64 m, .int .i64 k1, .int .i64 k2, .int .i64 k3, .int .i64 k4]
    have sa_1 := Nat.le_of_eq sa
    have sa_2 := Nat.le_of_eq sa.symm
    clear sa
    have c_a_0_wa := x_a.cell (i := 0) rfl
    have c_a_1_wa := x_a.cell (i := 1) rfl
    have c_a_2_wa := x_a.cell (i := 2) rfl
    have c_a_3_wa := x_a.cell (i := 3) rfl
    have c_a_4_wa := x_a.cell (i := 4) rfl
    have c_a_5_wa := x_a.cell (i := 5) rfl
    have c_a_6_wa := x_a.cell (i := 6) rfl
    have c_a_7_wa := x_a.cell (i := 7) rfl
    have c_a_8_wa := x_a.cell (i := 8) rfl
    go_enter Tryd.func34, Tryd.ntmps34
    go_wp2_with fail
    refine (iNum_any _ _).mono ?_
    rintro e w1 ⟨rfl, rfl⟩
    go_wp2
    go_ret
    exact ⟨ret_eq (by simp [amtI]), B0⟩
  · obtain ⟨wa, hwa, B0, sa, x_a⟩ := frame1 w 26 [.int .i64 7, .int .i64 a, .int .i64 o, .int .i64 t, .int .i64 m, .int .i64 k1, .int .i64 k2, .int .i64 k3, .int .i64 k4]
    have sa_1 := Nat.le_of_eq sa
    have sa_2 := Nat.le_of_eq sa.symm
    clear sa
    have c_a_0_wa := x_a.cell (i := 0) rfl
    have c_a_1_wa := x_a.cell (i := 1) rfl
    have c_a_2_wa := x_a.cell (i := 2) rfl
    have c_a_3_wa := x_a.cell (i := 3) rfl
    have c_a_4_wa := x_a.cell (i := 4) rfl
    have c_a_5_wa := x_a.cell (i := 5) rfl
    have c_a_6_wa := x_a.cell (i := 6) rfl
    have c_a_7_wa := x_a.cell (i := 7) rfl
    have c_a_8_wa := x_a.cell (i := 8) rfl
    cases hn : numB m with
    | false =>
      have HN := Lib.hid hn
      clear hn
      go_enter Tryd.func34, Tryd.ntmps34
      go_wp2_with fail
      refine (iNum_any _ _).mono ?_
      rintro e w1 ⟨rfl, rfl⟩
      rw [HN.out]
      go_wp2
      go_ret
      exact ⟨ret_eq (by simp [amtI, HN.out]), B0⟩
    | true =>
      have HN := Lib.hid hn
      clear hn
      go_enter Tryd.func34, Tryd.ntmps34
      go_wp2_with fail
      refine (iNum_any _ _).mono ?_
      rintro e w1 ⟨rfl, rfl⟩
      rw [HN.out]
      go_wp2
      go_ret
      exact ⟨ret_eq (by simp [amtI, HN.out]), B0⟩
  · obtain ⟨wa, hwa, B0, sa, x_a⟩ := frame1 w 26 [.int .i64 8, .int .i64 a, .int .i64 o, .int .i64 t, .int .i64 m, .int .i64 k1, .int .i64 k2, .int .i64 k3, .int .i64 k4]
    have sa_1 := Nat.le_of_eq sa
    have sa_2 := Nat.le_of_eq sa.symm
    clear sa
    have c_a_0_wa := x_a.cell (i := 0) rfl
    have c_a_1_wa := x_a.cell (i := 1) rfl
    have c_a_2_wa := x_a.cell (i := 2) rfl
    have c_a_3_wa := x_a.cell (i := 3) rfl
    have c_a_4_wa := x_a.cell (i := 4) rfl
    have c_a_5_wa := x_a.cell (i := 5) rfl
    have c_a_6_wa := x_a.cell (i := 6) rfl
    have c_a_7_wa := x_a.cell (i := 7) rfl
    have c_a_8_wa := x_a.cell (i := 8) rfl
    cases hn : numB m with
    | false =>
      have HN := Lib.hid hn
      clear hn
      go_enter Tryd.func34, Tryd.ntmps34
      go_wp2_with fail
      refine (iNum_any _ _).mono ?_
      rintro e w1 ⟨rfl, rfl⟩
      rw [HN.out]
      go_wp2
      go_ret
      exact ⟨ret_eq (by simp [amtI, HN.out]), B0⟩
    | true =>
      have HN := Lib.hid hn
      clear hn
      go_enter Tryd.func34, Tryd.ntmps34
      go_wp2_with fail
      refine (iNum_any _ _).mono ?_
      rintro e w1 ⟨rfl, rfl⟩
      rw [HN.out]
      go_wp2
      go_ret
      exact ⟨ret_eq (by simp [amtI, HN.out]), B0⟩
  · obtain ⟨wa, hwa, B0, sa, x_a⟩ := frame1 w 26 [.int .i64 9, .int .i64 a, .int .i64 o, .int .i64 t, .int .i64 m, .int .i64 k1, .int .i64 k2, .int .i64 k3, .int .i64 k4]
    have sa_1 := Nat.le_of_eq sa
    have sa_2 := Nat.le_of_eq sa.symm
    clear sa
    have c_a_0_wa := x_a.cell (i := 0) rfl
    have c_a_1_wa := x_a.cell (i := 1) rfl
    have c_a_2_wa := x_a.cell (i := 2) rfl
    have c_a_3_wa := x_a.cell (i := 3) rfl
    have c_a_4_wa := x_a.cell (i := 4) rfl
    have c_a_5_wa := x_a.cell (i := 5) rfl
    have c_a_6_wa := x_a.cell (i := 6) rfl
    have c_a_7_wa := x_a.cell (i := 7) rfl
    have c_a_8_wa := x_a.cell (i := 8) rfl
    go_enter Tryd.func34, Tryd.ntmps34
    go_wp2_with fail
    refine (iNum_any _ _).mono ?_
    rintro e w1 ⟨rfl, rfl⟩
    go_wp2
    go_ret
    exact ⟨ret_eq (by simp [amtI]), B0⟩
set_option maxHeartbeats 4000000 in
theorem iMsgFits_c {w : World} {r : MRec} : Calls Tryd.prog 35 #[.agg #[.int .i64 r.Kind, .int .i64 r.Acct, .int .i64 r.Other, .int .i64 r.To, .int .i64 r.Amt, .int .i64 r.M.Kind, .int .i64 r.M.Acct, .int .i64 r.M.Amt, .int .i64 r.M.Src]] w fun e w' => e = .returned (.bool (r.Kind != 5 || msgOkB r.M)) ∧ Below w.heap.size w w' := by
  obtain ⟨wa, hwa, B0, sa, x_a⟩ := frame1 w 26 [.int .i64 r.Kind, .int .i64 r.Acct, .int .i64 r.Other, .int .i64 r.To, .int .i64 r.Amt, .int .i64 r.M.Kind, .int .i64 r.M.Acct, .int .i64 r.M.Amt, .int .i64 r.M.Src]
  have sa_1 := Nat.le_of_eq sa
  have sa_2 := Nat.le_of_eq sa.symm
  clear sa
  have c_a_0_wa := x_a.cell (i := 0) rfl
  have c_a_1_wa := x_a.cell (i := 1) rfl
  have c_a_2_wa := x_a.cell (i := 2) rfl
  have c_a_3_wa := x_a.cell (i := 3) rfl
  have c_a_4_wa := x_a.cell (i := 4) rfl
  have c_a_5_wa := x_a.cell (i := 5) rfl
  have c_a_6_wa := x_a.cell (i := 6) rfl
  have c_a_7_wa := x_a.cell (i := 7) rfl
  have c_a_8_wa := x_a.cell (i := 8) rfl
  cases h5 : (r.Kind != 5) with
  | true =>
    go_enter Tryd.func35, Tryd.ntmps35
    go_wp2
    go_ret
    exact ⟨rfl, B0⟩
  | false =>
    go_enter Tryd.func35, Tryd.ntmps35
    go_wp2_with fail
    refine (iMsgOk_c rv_msg_mk).mono ?_
    rintro e w1 ⟨rfl, h_w1⟩
    clear c_a_0_wa c_a_1_wa c_a_2_wa c_a_3_wa c_a_4_wa c_a_5_wa c_a_6_wa c_a_7_wa c_a_8_wa
    replace x_a := x_a.from_ h_w1
    have B_w1 := B0.trans (h_w1.mono B0.size)
    have s_w1 := h_w1.size
    go_wp2
    go_ret
    exact ⟨rfl, B_w1⟩
set_option maxRecDepth 100000 in
set_option maxHeartbeats 4000000 in
theorem iUnused_1 (w : World) (a o t m k1 k2 k3 k4 : Int) : Calls Tryd.prog 36 #[.agg #[.int .i64 1, .int .i64 a, .int .i64 o, .int .i64 t, .int .i64 m, .int .i64 k1, .int .i64 k2, .int .i64 k3, .int .i64 k4]] w fun e w' => e = .returned (.agg #[.int .i64 0, .int .i64 0, .int .i64 o, .int .i64 t, .int .i64 0, .int .i64 k1, .int .i64 k2, .int .i64 k3, .int .i64 k4]) ∧ Below w.heap.size w w' := by
  obtain ⟨wa, hwa, B0, sa, x_a, x_r⟩ := frame2 w 26 [.int .i64 1, .int .i64 a, .int .i64 o, .int .i64 t, .int .i64 m, .int .i64 k1, .int .i64 k2, .int .i64 k3, .int .i64 k4] 26 [.int .i64 0, .int .i64 0, .int .i64 0, .int .i64 0, .int .i64 0, .int .i64 0, .int .i64 0, .int .i64 0, .int .i64 0]
  have sa_1 := Nat.le_of_eq sa
  have sa_2 := Nat.le_of_eq sa.symm
  clear sa
  go_enter Tryd.func36, Tryd.ntmps36
  go_wp2_with fail
  refine (iUsed_1 x_a rfl).mono ?_
  rintro e w1 ⟨B, T, rfl, x_l, hB, h_w1⟩
  replace x_a := x_a.from_ h_w1
  replace x_r := x_r.from_ h_w1
  have B_w1 := B0.trans (h_w1.mono B0.size)
  have s_w1 := h_w1.size
  have ltB := x_l.lt
  have c_a_0_w1 := x_a.cell (i := 0) rfl
  have f_a_0_w1 := x_a.frozen 0
  have c_a_1_w1 := x_a.cell (i := 1) rfl
  have f_a_1_w1 := x_a.frozen 1
  have c_a_2_w1 := x_a.cell (i := 2) rfl
  have f_a_2_w1 := x_a.frozen 2
  have c_a_3_w1 := x_a.cell (i := 3) rfl
  have f_a_3_w1 := x_a.frozen 3
  have c_a_4_w1 := x_a.cell (i := 4) rfl
  have f_a_4_w1 := x_a.frozen 4
  have c_a_5_w1 := x_a.cell (i := 5) rfl
  have f_a_5_w1 := x_a.frozen 5
  have c_a_6_w1 := x_a.cell (i := 6) rfl
  have f_a_6_w1 := x_a.frozen 6
  have c_a_7_w1 := x_a.cell (i := 7) rfl
  have f_a_7_w1 := x_a.frozen 7
  have c_a_8_w1 := x_a.cell (i := 8) rfl
  have f_a_8_w1 := x_a.frozen 8
  have c_l_0_w1 := x_l.cell (i := 0) rfl
  have f_l_0_w1 := x_l.frozen 0
  have c_l_1_w1 := x_l.cell (i := 1) rfl
  have f_l_1_w1 := x_l.frozen 1
  go_wp2_with fail
  refine wp_loop_rounds 3 ?_
  rw [rounds_succ]
  clear c_a_0_w1 f_a_0_w1 c_a_1_w1 f_a_1_w1 c_a_2_w1 f_a_2_w1 c_a_3_w1 f_a_3_w1 c_a_4_w1 f_a_4_w1 c_a_5_w1 f_a_5_w1 c_a_6_w1 f_a_6_w1 c_a_7_w1 f_a_7_w1 c_a_8_w1 f_a_8_w1 c_l_0_w1 f_l_0_w1 c_l_1_w1 f_l_1_w1
  have c_a_0_w1 := x_a.cell (i := 0) rfl
  have f_a_0_w1 := x_a.frozen 0
  have c_a_1_w1 := x_a.cell (i := 1) rfl
  have f_a_1_w1 := x_a.frozen 1
  have c_a_2_w1 := x_a.cell (i := 2) rfl
  have f_a_2_w1 := x_a.frozen 2
  have c_a_3_w1 := x_a.cell (i := 3) rfl
  have f_a_3_w1 := x_a.frozen 3
  have c_a_4_w1 := x_a.cell (i := 4) rfl
  have f_a_4_w1 := x_a.frozen 4
  have c_a_5_w1 := x_a.cell (i := 5) rfl
  have f_a_5_w1 := x_a.frozen 5
  have c_a_6_w1 := x_a.cell (i := 6) rfl
  have f_a_6_w1 := x_a.frozen 6
  have c_a_7_w1 := x_a.cell (i := 7) rfl
  have f_a_7_w1 := x_a.frozen 7
  have c_a_8_w1 := x_a.cell (i := 8) rfl
  have f_a_8_w1 := x_a.frozen 8
  have c_l_0_w1 := x_l.cell (i := 0) rfl
  have f_l_0_w1 := x_l.frozen 0
  have c_l_1_w1 := x_l.cell (i := 1) rfl
  have f_l_1_w1 := x_l.frozen 1
  obtain ⟨w2, e_w2, s_w2, h_w2, y⟩ := set_step x_a 1 (.int .i64 0)
  have s_w2_1 := Nat.le_of_eq s_w2
  have s_w2_2 := Nat.le_of_eq s_w2.symm
  clear s_w2
  replace x_r := x_r.chg h_w2 (by omega)
  replace x_l := x_l.chg h_w2 (by omega)
  have B_w2 := Below.chg_ B_w1 h_w2 (by omega) (by omega)
  replace x_a : Vr w2 (w.heap.size) 26 [.int .i64 1, .int .i64 0, .int .i64 o, .int .i64 t, .int .i64 m, .int .i64 k1, .int .i64 k2, .int .i64 k3, .int .i64 k4] := y
  clear y
  have c_a_0_w2 := x_a.cell (i := 0) rfl
  have f_a_0_w2 := x_a.frozen 0
  have c_a_1_w2 := x_a.cell (i := 1) rfl
  have f_a_1_w2 := x_a.frozen 1
  have c_a_2_w2 := x_a.cell (i := 2) rfl
  have f_a_2_w2 := x_a.frozen 2
  have c_a_3_w2 := x_a.cell (i := 3) rfl
  have f_a_3_w2 := x_a.frozen 3
  have c_a_4_w2 := x_a.cell (i := 4) rfl
  have f_a_4_w2 := x_a.frozen 4
  have c_a_5_w2 := x_a.cell (i := 5) rfl
  have f_a_5_w2 := x_a.frozen 5
  have c_a_6_w2 := x_a.cell (i := 6) rfl
  have f_a_6_w2 := x_a.frozen 6
  have c_a_7_w2 := x_a.cell (i := 7) rfl
  have f_a_7_w2 := x_a.frozen 7
  have c_a_8_w2 := x_a.cell (i := 8) rfl
  have f_a_8_w2 := x_a.frozen 8
  have c_l_0_w2 := x_l.cell (i := 0) rfl
  have f_l_0_w2 := x_l.frozen 0
  have c_l_1_w2 := x_l.cell (i := 1) rfl
  have f_l_1_w2 := x_l.frozen 1
  go_wp2_with fail
  rw [rounds_succ]
  clear c_a_0_w1 f_a_0_w1 c_a_1_w1 f_a_1_w1 c_a_2_w1 f_a_2_w1 c_a_3_w1 f_a_3_w1 c_a_4_w1 f_a_4_w1 c_a_5_w1 f_a_5_w1 c_a_6_w1 f_a_6_w1 c_a_7_w1 f_a_7_w1 c_a_8_w1 f_a_8_w1 c_l_0_w1 f_l_0_w1 c_l_1_w1 f_l_1_w1 c_a_0_w2 f_a_0_w2 c_a_1_w2 f_a_1_w2 c_a_2_w2 f_a_2_w2 c_a_3_w2 f_a_3_w2 c_a_4_w2 f_a_4_w2 c_a_5_w2 f_a_5_w2 c_a_6_w2 f_a_6_w2 c_a_7_w2 f_a_7_w2 c_a_8_w2 f_a_8_w2 c_l_0_w2 f_l_0_w2 c_l_1_w2 f_l_1_w2
  have c_a_0_w2 := x_a.cell (i := 0) rfl
  have f_a_0_w2 := x_a.frozen 0
  have c_a_1_w2 := x_a.cell (i := 1) rfl
  have f_a_1_w2 := x_a.frozen 1
  have c_a_2_w2 := x_a.cell (i := 2) rfl
  have f_a_2_w2 := x_a.frozen 2
  have c_a_3_w2 := x_a.cell (i := 3) rfl
  have f_a_3_w2 := x_a.frozen 3
  have c_a_4_w2 := x_a.cell (i := 4) rfl
  have f_a_4_w2 := x_a.frozen 4
  have c_a_5_w2 := x_a.cell (i := 5) rfl
  have f_a_5_w2 := x_a.frozen 5
  have c_a_6_w2 := x_a.cell (i := 6) rfl
  have f_a_6_w2 := x_a.frozen 6
  have c_a_7_w2 := x_a.cell (i := 7) rfl
  have f_a_7_w2 := x_a.frozen 7
  have c_a_8_w2 := x_a.cell (i := 8) rfl
  have f_a_8_w2 := x_a.frozen 8
  have c_l_0_w2 := x_l.cell (i := 0) rfl
  have f_l_0_w2 := x_l.frozen 0
  have c_l_1_w2 := x_l.cell (i := 1) rfl
  have f_l_1_w2 := x_l.frozen 1
  obtain ⟨w3, e_w3, s_w3, h_w3, y⟩ := set_step x_a 4 (.int .i64 0)
  have s_w3_1 := Nat.le_of_eq s_w3
  have s_w3_2 := Nat.le_of_eq s_w3.symm
  clear s_w3
  replace x_r := x_r.chg h_w3 (by omega)
  replace x_l := x_l.chg h_w3 (by omega)
  have B_w3 := Below.chg_ B_w2 h_w3 (by omega) (by omega)
  replace x_a : Vr w3 (w.heap.size) 26 [.int .i64 1, .int .i64 0, .int .i64 o, .int .i64 t, .int .i64 0, .int .i64 k1, .int .i64 k2, .int .i64 k3, .int .i64 k4] := y
  clear y
  have c_a_0_w3 := x_a.cell (i := 0) rfl
  have f_a_0_w3 := x_a.frozen 0
  have c_a_1_w3 := x_a.cell (i := 1) rfl
  have f_a_1_w3 := x_a.frozen 1
  have c_a_2_w3 := x_a.cell (i := 2) rfl
  have f_a_2_w3 := x_a.frozen 2
  have c_a_3_w3 := x_a.cell (i := 3) rfl
  have f_a_3_w3 := x_a.frozen 3
  have c_a_4_w3 := x_a.cell (i := 4) rfl
  have f_a_4_w3 := x_a.frozen 4
  have c_a_5_w3 := x_a.cell (i := 5) rfl
  have f_a_5_w3 := x_a.frozen 5
  have c_a_6_w3 := x_a.cell (i := 6) rfl
  have f_a_6_w3 := x_a.frozen 6
  have c_a_7_w3 := x_a.cell (i := 7) rfl
  have f_a_7_w3 := x_a.frozen 7
  have c_a_8_w3 := x_a.cell (i := 8) rfl
  have f_a_8_w3 := x_a.frozen 8
  have c_l_0_w3 := x_l.cell (i := 0) rfl
  have f_l_0_w3 := x_l.frozen 0
  have c_l_1_w3 := x_l.cell (i := 1) rfl
  have f_l_1_w3 := x_l.frozen 1
  go_wp2_with fail
  rw [rounds_succ]
  clear c_a_0_w2 f_a_0_w2 c_a_1_w2 f_a_1_w2 c_a_2_w2 f_a_2_w2 c_a_3_w2 f_a_3_w2 c_a_4_w2 f_a_4_w2 c_a_5_w2 f_a_5_w2 c_a_6_w2 f_a_6_w2 c_a_7_w2 f_a_7_w2 c_a_8_w2 f_a_8_w2 c_l_0_w2 f_l_0_w2 c_l_1_w2 f_l_1_w2 c_a_0_w3 f_a_0_w3 c_a_1_w3 f_a_1_w3 c_a_2_w3 f_a_2_w3 c_a_3_w3 f_a_3_w3 c_a_4_w3 f_a_4_w3 c_a_5_w3 f_a_5_w3 c_a_6_w3 f_a_6_w3 c_a_7_w3 f_a_7_w3 c_a_8_w3 f_a_8_w3 c_l_0_w3 f_l_0_w3 c_l_1_w3 f_l_1_w3
  have c_a_0_w3 := x_a.cell (i := 0) rfl
  have f_a_0_w3 := x_a.frozen 0
  have c_a_1_w3 := x_a.cell (i := 1) rfl
  have f_a_1_w3 := x_a.frozen 1
  have c_a_2_w3 := x_a.cell (i := 2) rfl
  have f_a_2_w3 := x_a.frozen 2
  have c_a_3_w3 := x_a.cell (i := 3) rfl
  have f_a_3_w3 := x_a.frozen 3
  have c_a_4_w3 := x_a.cell (i := 4) rfl
  have f_a_4_w3 := x_a.frozen 4
  have c_a_5_w3 := x_a.cell (i := 5) rfl
  have f_a_5_w3 := x_a.frozen 5
  have c_a_6_w3 := x_a.cell (i := 6) rfl
  have f_a_6_w3 := x_a.frozen 6
  have c_a_7_w3 := x_a.cell (i := 7) rfl
  have f_a_7_w3 := x_a.frozen 7
  have c_a_8_w3 := x_a.cell (i := 8) rfl
  have f_a_8_w3 := x_a.frozen 8
  obtain ⟨w4, e_w4, s_w4, h_w4, y⟩ := set_step x_a 0 (.int .i64 0)
  have s_w4_1 := Nat.le_of_eq s_w4
  have s_w4_2 := Nat.le_of_eq s_w4.symm
  clear s_w4
  replace x_r := x_r.chg h_w4 (by omega)
  replace x_l := x_l.chg h_w4 (by omega)
  have B_w4 := Below.chg_ B_w3 h_w4 (by omega) (by omega)
  replace x_a : Vr w4 (w.heap.size) 26 [.int .i64 0, .int .i64 0, .int .i64 o, .int .i64 t, .int .i64 0, .int .i64 k1, .int .i64 k2, .int .i64 k3, .int .i64 k4] := y
  clear y
  have c_a_0_w4 := x_a.cell (i := 0) rfl
  have f_a_0_w4 := x_a.frozen 0
  have c_a_1_w4 := x_a.cell (i := 1) rfl
  have f_a_1_w4 := x_a.frozen 1
  have c_a_2_w4 := x_a.cell (i := 2) rfl
  have f_a_2_w4 := x_a.frozen 2
  have c_a_3_w4 := x_a.cell (i := 3) rfl
  have f_a_3_w4 := x_a.frozen 3
  have c_a_4_w4 := x_a.cell (i := 4) rfl
  have f_a_4_w4 := x_a.frozen 4
  have c_a_5_w4 := x_a.cell (i := 5) rfl
  have f_a_5_w4 := x_a.frozen 5
  have c_a_6_w4 := x_a.cell (i := 6) rfl
  have f_a_6_w4 := x_a.frozen 6
  have c_a_7_w4 := x_a.cell (i := 7) rfl
  have f_a_7_w4 := x_a.frozen 7
  have c_a_8_w4 := x_a.cell (i := 8) rfl
  have f_a_8_w4 := x_a.frozen 8
  have c_r_0_w4 := x_r.cell (i := 0) rfl
  have f_r_0_w4 := x_r.frozen 0
  have c_r_1_w4 := x_r.cell (i := 1) rfl
  have f_r_1_w4 := x_r.frozen 1
  have c_r_2_w4 := x_r.cell (i := 2) rfl
  have f_r_2_w4 := x_r.frozen 2
  have c_r_3_w4 := x_r.cell (i := 3) rfl
  have f_r_3_w4 := x_r.frozen 3
  have c_r_4_w4 := x_r.cell (i := 4) rfl
  have f_r_4_w4 := x_r.frozen 4
  have c_r_5_w4 := x_r.cell (i := 5) rfl
  have f_r_5_w4 := x_r.frozen 5
  have c_r_6_w4 := x_r.cell (i := 6) rfl
  have f_r_6_w4 := x_r.frozen 6
  have c_r_7_w4 := x_r.cell (i := 7) rfl
  have f_r_7_w4 := x_r.frozen 7
  have c_r_8_w4 := x_r.cell (i := 8) rfl
  have f_r_8_w4 := x_r.frozen 8
  obtain ⟨w5, e_w5, s_w5, h_w5, y⟩ := store_step x_r [.int .i64 0, .int .i64 0, .int .i64 o, .int .i64 t, .int .i64 0, .int .i64 k1, .int .i64 k2, .int .i64 k3, .int .i64 k4] rfl
  replace e_w5 : (((((((((w4.setCell ⟨w.heap.size + 1, 0, none⟩ (.int .i64 0)).setCell ⟨w.heap.size + 1, 1, none⟩ (.int .i64 0)).setCell ⟨w.heap.size + 1, 2, none⟩ (.int .i64 o)).setCell ⟨w.heap.size + 1, 3, none⟩ (.int .i64 t)).setCell ⟨w.heap.size + 1, 4, none⟩ (.int .i64 0)).setCell ⟨w.heap.size + 1, 5, none⟩ (.int .i64 k1)).setCell ⟨w.heap.size + 1, 6, none⟩ (.int .i64 k2)).setCell ⟨w.heap.size + 1, 7, none⟩ (.int .i64 k3)).setCell ⟨w.heap.size + 1, 8, none⟩ (.int .i64 k4)) = w5 := e_w5
  have s_w5_1 := Nat.le_of_eq s_w5
  have s_w5_2 := Nat.le_of_eq s_w5.symm
  clear s_w5
  replace x_a := x_a.chg h_w5 (by omega)
  replace x_l := x_l.chg h_w5 (by omega)
  have B_w5 := Below.chg_ B_w4 h_w5 (by omega) (by omega)
  replace x_r : Vr w5 (w.heap.size + 1) 26 [.int .i64 0, .int .i64 0, .int .i64 o, .int .i64 t, .int .i64 0, .int .i64 k1, .int .i64 k2, .int .i64 k3, .int .i64 k4] := y
  clear y
  go_wp2
  refine ret_cell (by rfl) (by rfl) x_r Tryd.underlying26 sz_rec (by rfl) ?_
  exact ⟨rfl, B_w5⟩
set_option maxRecDepth 100000 in
set_option maxHeartbeats 4000000 in
theorem iUnused_2 (w : World) (a o t m k1 k2 k3 k4 : Int) : Calls Tryd.prog 36 #[.agg #[.int .i64 2, .int .i64 a, .int .i64 o, .int .i64 t, .int .i64 m, .int .i64 k1, .int .i64 k2, .int .i64 k3, .int .i64 k4]] w fun e w' => e = .returned (.agg #[.int .i64 0, .int .i64 0, .int .i64 o, .int .i64 t, .int .i64 0, .int .i64 k1, .int .i64 k2, .int .i64 k3, .int .i64 k4]) ∧ Below w.heap.size w w' := by
  obtain ⟨wa, hwa, B0, sa, x_a, x_r⟩ := frame2 w 26 [.int .i64 2, .int .i64 a, .int .i64 o, .int .i64 t, .int .i64 m, .int .i64 k1, .int .i64 k2, .int .i64 k3, .int .i64 k4] 26 [.int .i64 0, .int .i64 0, .int .i64 0, .int .i64 0, .int .i64 0, .int .i64 0, .int .i64 0, .int .i64 0, .int .i64 0]
  have sa_1 := Nat.le_of_eq sa
  have sa_2 := Nat.le_of_eq sa.symm
  clear sa
  go_enter Tryd.func36, Tryd.ntmps36
  go_wp2_with fail
  refine (iUsed_2 x_a rfl).mono ?_
  rintro e w1 ⟨B, T, rfl, x_l, hB, h_w1⟩
  replace x_a := x_a.from_ h_w1
  replace x_r := x_r.from_ h_w1
  have B_w1 := B0.trans (h_w1.mono B0.size)
  have s_w1 := h_w1.size
  have ltB := x_l.lt
  have c_a_0_w1 := x_a.cell (i := 0) rfl
  have f_a_0_w1 := x_a.frozen 0
  have c_a_1_w1 := x_a.cell (i := 1) rfl
  have f_a_1_w1 := x_a.frozen 1
  have c_a_2_w1 := x_a.cell (i := 2) rfl
  have f_a_2_w1 := x_a.frozen 2
  have c_a_3_w1 := x_a.cell (i := 3) rfl
  have f_a_3_w1 := x_a.frozen 3
  have c_a_4_w1 := x_a.cell (i := 4) rfl
  have f_a_4_w1 := x_a.frozen 4
  have c_a_5_w1 := x_a.cell (i := 5) rfl
  have f_a_5_w1 := x_a.frozen 5
  have c_a_6_w1 := x_a.cell (i := 6) rfl
  have f_a_6_w1 := x_a.frozen 6
  have c_a_7_w1 := x_a.cell (i := 7) rfl
  have f_a_7_w1 := x_a.frozen 7
  have c_a_8_w1 := x_a.cell (i := 8) rfl
  have f_a_8_w1 := x_a.frozen 8
  have c_l_0_w1 := x_l.cell (i := 0) rfl
  have f_l_0_w1 := x_l.frozen 0
  have c_l_1_w1 := x_l.cell (i := 1) rfl
  have f_l_1_w1 := x_l.frozen 1
  go_wp2_with fail
  refine wp_loop_rounds 3 ?_
  rw [rounds_succ]
  clear c_a_0_w1 f_a_0_w1 c_a_1_w1 f_a_1_w1 c_a_2_w1 f_a_2_w1 c_a_3_w1 f_a_3_w1 c_a_4_w1 f_a_4_w1 c_a_5_w1 f_a_5_w1 c_a_6_w1 f_a_6_w1 c_a_7_w1 f_a_7_w1 c_a_8_w1 f_a_8_w1 c_l_0_w1 f_l_0_w1 c_l_1_w1 f_l_1_w1
  have c_a_0_w1 := x_a.cell (i := 0) rfl
  have f_a_0_w1 := x_a.frozen 0
  have c_a_1_w1 := x_a.cell (i := 1) rfl
  have f_a_1_w1 := x_a.frozen 1
  have c_a_2_w1 := x_a.cell (i := 2) rfl
  have f_a_2_w1 := x_a.frozen 2
  have c_a_3_w1 := x_a.cell (i := 3) rfl
  have f_a_3_w1 := x_a.frozen 3
  have c_a_4_w1 := x_a.cell (i := 4) rfl
  have f_a_4_w1 := x_a.frozen 4
  have c_a_5_w1 := x_a.cell (i := 5) rfl
  have f_a_5_w1 := x_a.frozen 5
  have c_a_6_w1 := x_a.cell (i := 6) rfl
  have f_a_6_w1 := x_a.frozen 6
  have c_a_7_w1 := x_a.cell (i := 7) rfl
  have f_a_7_w1 := x_a.frozen 7
  have c_a_8_w1 := x_a.cell (i := 8) rfl
  have f_a_8_w1 := x_a.frozen 8
  have c_l_0_w1 := x_l.cell (i := 0) rfl
  have f_l_0_w1 := x_l.frozen 0
  have c_l_1_w1 := x_l.cell (i := 1) rfl
  have f_l_1_w1 := x_l.frozen 1
  obtain ⟨w2, e_w2, s_w2, h_w2, y⟩ := set_step x_a 1 (.int .i64 0)
  have s_w2_1 := Nat.le_of_eq s_w2
  have s_w2_2 := Nat.le_of_eq s_w2.symm
  clear s_w2
  replace x_r := x_r.chg h_w2 (by omega)
  replace x_l := x_l.chg h_w2 (by omega)
  have B_w2 := Below.chg_ B_w1 h_w2 (by omega) (by omega)
  replace x_a : Vr w2 (w.heap.size) 26 [.int .i64 2, .int .i64 0, .int .i64 o, .int .i64 t, .int .i64 m, .int .i64 k1, .int .i64 k2, .int .i64 k3, .int .i64 k4] := y
  clear y
  have c_a_0_w2 := x_a.cell (i := 0) rfl
  have f_a_0_w2 := x_a.frozen 0
  have c_a_1_w2 := x_a.cell (i := 1) rfl
  have f_a_1_w2 := x_a.frozen 1
  have c_a_2_w2 := x_a.cell (i := 2) rfl
  have f_a_2_w2 := x_a.frozen 2
  have c_a_3_w2 := x_a.cell (i := 3) rfl
  have f_a_3_w2 := x_a.frozen 3
  have c_a_4_w2 := x_a.cell (i := 4) rfl
  have f_a_4_w2 := x_a.frozen 4
  have c_a_5_w2 := x_a.cell (i := 5) rfl
  have f_a_5_w2 := x_a.frozen 5
  have c_a_6_w2 := x_a.cell (i := 6) rfl
  have f_a_6_w2 := x_a.frozen 6
  have c_a_7_w2 := x_a.cell (i := 7) rfl
  have f_a_7_w2 := x_a.frozen 7
  have c_a_8_w2 := x_a.cell (i := 8) rfl
  have f_a_8_w2 := x_a.frozen 8
  have c_l_0_w2 := x_l.cell (i := 0) rfl
  have f_l_0_w2 := x_l.frozen 0
  have c_l_1_w2 := x_l.cell (i := 1) rfl
  have f_l_1_w2 := x_l.frozen 1
  go_wp2_with fail
  rw [rounds_succ]
  clear c_a_0_w1 f_a_0_w1 c_a_1_w1 f_a_1_w1 c_a_2_w1 f_a_2_w1 c_a_3_w1 f_a_3_w1 c_a_4_w1 f_a_4_w1 c_a_5_w1 f_a_5_w1 c_a_6_w1 f_a_6_w1 c_a_7_w1 f_a_7_w1 c_a_8_w1 f_a_8_w1 c_l_0_w1 f_l_0_w1 c_l_1_w1 f_l_1_w1 c_a_0_w2 f_a_0_w2 c_a_1_w2 f_a_1_w2 c_a_2_w2 f_a_2_w2 c_a_3_w2 f_a_3_w2 c_a_4_w2 f_a_4_w2 c_a_5_w2 f_a_5_w2 c_a_6_w2 f_a_6_w2 c_a_7_w2 f_a_7_w2 c_a_8_w2 f_a_8_w2 c_l_0_w2 f_l_0_w2 c_l_1_w2 f_l_1_w2
  have c_a_0_w2 := x_a.cell (i := 0) rfl
  have f_a_0_w2 := x_a.frozen 0
  have c_a_1_w2 := x_a.cell (i := 1) rfl
  have f_a_1_w2 := x_a.frozen 1
  have c_a_2_w2 := x_a.cell (i := 2) rfl
  have f_a_2_w2 := x_a.frozen 2
  have c_a_3_w2 := x_a.cell (i := 3) rfl
  have f_a_3_w2 := x_a.frozen 3
  have c_a_4_w2 := x_a.cell (i := 4) rfl
  have f_a_4_w2 := x_a.frozen 4
  have c_a_5_w2 := x_a.cell (i := 5) rfl
  have f_a_5_w2 := x_a.frozen 5
  have c_a_6_w2 := x_a.cell (i := 6) rfl
  have f_a_6_w2 := x_a.frozen 6
  have c_a_7_w2 := x_a.cell (i := 7) rfl
  have f_a_7_w2 := x_a.frozen 7
  have c_a_8_w2 := x_a.cell (i := 8) rfl
  have f_a_8_w2 := x_a.frozen 8
  have c_l_0_w2 := x_l.cell (i := 0) rfl
  have f_l_0_w2 := x_l.frozen 0
  have c_l_1_w2 := x_l.cell (i := 1) rfl
  have f_l_1_w2 := x_l.frozen 1
  obtain ⟨w3, e_w3, s_w3, h_w3, y⟩ := set_step x_a 4 (.int .i64 0)
  have s_w3_1 := Nat.le_of_eq s_w3
  have s_w3_2 := Nat.le_of_eq s_w3.symm
  clear s_w3
  replace x_r := x_r.chg h_w3 (by omega)
  replace x_l := x_l.chg h_w3 (by omega)
  have B_w3 := Below.chg_ B_w2 h_w3 (by omega) (by omega)
  replace x_a : Vr w3 (w.heap.size) 26 [.int .i64 2, .int .i64 0, .int .i64 o, .int .i64 t, .int .i64 0, .int .i64 k1, .int .i64 k2, .int .i64 k3, .int .i64 k4] := y
  clear y
  have c_a_0_w3 := x_a.cell (i := 0) rfl
  have f_a_0_w3 := x_a.frozen 0
  have c_a_1_w3 := x_a.cell (i := 1) rfl
  have f_a_1_w3 := x_a.frozen 1
  have c_a_2_w3 := x_a.cell (i := 2) rfl
  have f_a_2_w3 := x_a.frozen 2
  have c_a_3_w3 := x_a.cell (i := 3) rfl
  have f_a_3_w3 := x_a.frozen 3
  have c_a_4_w3 := x_a.cell (i := 4) rfl
  have f_a_4_w3 := x_a.frozen 4
  have c_a_5_w3 := x_a.cell (i := 5) rfl
  have f_a_5_w3 := x_a.frozen 5
  have c_a_6_w3 := x_a.cell (i := 6) rfl
  have f_a_6_w3 := x_a.frozen 6
  have c_a_7_w3 := x_a.cell (i := 7) rfl
  have f_a_7_w3 := x_a.frozen 7
  have c_a_8_w3 := x_a.cell (i := 8) rfl
  have f_a_8_w3 := x_a.frozen 8
  have c_l_0_w3 := x_l.cell (i := 0) rfl
  have f_l_0_w3 := x_l.frozen 0
  have c_l_1_w3 := x_l.cell (i := 1) rfl
  have f_l_1_w3 := x_l.frozen 1
  go_wp2_with fail
  rw [rounds_succ]
  clear c_a_0_w2 f_a_0_w2 c_a_1_w2 f_a_1_w2 c_a_2_w2 f_a_2_w2 c_a_3_w2 f_a_3_w2 c_a_4_w2 f_a_4_w2 c_a_5_w2 f_a_5_w2 c_a_6_w2 f_a_6_w2 c_a_7_w2 f_a_7_w2 c_a_8_w2 f_a_8_w2 c_l_0_w2 f_l_0_w2 c_l_1_w2 f_l_1_w2 c_a_0_w3 f_a_0_w3 c_a_1_w3 f_a_1_w3 c_a_2_w3 f_a_2_w3 c_a_3_w3 f_a_3_w3 c_a_4_w3 f_a_4_w3 c_a_5_w3 f_a_5_w3 c_a_6_w3 f_a_6_w3 c_a_7_w3 f_a_7_w3 c_a_8_w3 f_a_8_w3 c_l_0_w3 f_l_0_w3 c_l_1_w3 f_l_1_w3
  have c_a_0_w3 := x_a.cell (i := 0) rfl
  have f_a_0_w3 := x_a.frozen 0
  have c_a_1_w3 := x_a.cell (i := 1) rfl
  have f_a_1_w3 := x_a.frozen 1
  have c_a_2_w3 := x_a.cell (i := 2) rfl
  have f_a_2_w3 := x_a.frozen 2
  have c_a_3_w3 := x_a.cell (i := 3) rfl
  have f_a_3_w3 := x_a.frozen 3
  have c_a_4_w3 := x_a.cell (i := 4) rfl
  have f_a_4_w3 := x_a.frozen 4
  have c_a_5_w3 := x_a.cell (i := 5) rfl
  have f_a_5_w3 := x_a.frozen 5
  have c_a_6_w3 := x_a.cell (i := 6) rfl
  have f_a_6_w3 := x_a.frozen 6
  have c_a_7_w3 := x_a.cell (i := 7) rfl
  have f_a_7_w3 := x_a.frozen 7
  have c_a_8_w3 := x_a.cell (i := 8) rfl
  have f_a_8_w3 := x_a.frozen 8
  obtain ⟨w4, e_w4, s_w4, h_w4, y⟩ := set_step x_a 0 (.int .i64 0)
  have s_w4_1 := Nat.le_of_eq s_w4
  have s_w4_2 := Nat.le_of_eq s_w4.symm
  clear s_w4
  replace x_r := x_r.chg h_w4 (by omega)
  replace x_l := x_l.chg h_w4 (by omega)
  have B_w4 := Below.chg_ B_w3 h_w4 (by omega) (by omega)
  replace x_a : Vr w4 (w.heap.size) 26 [.int .i64 0, .int .i64 0, .int .i64 o, .int .i64 t, .int .i64 0, .int .i64 k1, .int .i64 k2, .int .i64 k3, .int .i64 k4] := y
  clear y
  have c_a_0_w4 := x_a.cell (i := 0) rfl
  have f_a_0_w4 := x_a.frozen 0
  have c_a_1_w4 := x_a.cell (i := 1) rfl
  have f_a_1_w4 := x_a.frozen 1
  have c_a_2_w4 := x_a.cell (i := 2) rfl
  have f_a_2_w4 := x_a.frozen 2
  have c_a_3_w4 := x_a.cell (i := 3) rfl
  have f_a_3_w4 := x_a.frozen 3
  have c_a_4_w4 := x_a.cell (i := 4) rfl
  have f_a_4_w4 := x_a.frozen 4
  have c_a_5_w4 := x_a.cell (i := 5) rfl
  have f_a_5_w4 := x_a.frozen 5
  have c_a_6_w4 := x_a.cell (i := 6) rfl
  have f_a_6_w4 := x_a.frozen 6
  have c_a_7_w4 := x_a.cell (i := 7) rfl
  have f_a_7_w4 := x_a.frozen 7
  have c_a_8_w4 := x_a.cell (i := 8) rfl
  have f_a_8_w4 := x_a.frozen 8
  have c_r_0_w4 := x_r.cell (i := 0) rfl
  have f_r_0_w4 := x_r.frozen 0
  have c_r_1_w4 := x_r.cell (i := 1) rfl
  have f_r_1_w4 := x_r.frozen 1
  have c_r_2_w4 := x_r.cell (i := 2) rfl
  have f_r_2_w4 := x_r.frozen 2
  have c_r_3_w4 := x_r.cell (i := 3) rfl
  have f_r_3_w4 := x_r.frozen 3
  have c_r_4_w4 := x_r.cell (i := 4) rfl
  have f_r_4_w4 := x_r.frozen 4
  have c_r_5_w4 := x_r.cell (i := 5) rfl
  have f_r_5_w4 := x_r.frozen 5
  have c_r_6_w4 := x_r.cell (i := 6) rfl
  have f_r_6_w4 := x_r.frozen 6
  have c_r_7_w4 := x_r.cell (i := 7) rfl
  have f_r_7_w4 := x_r.frozen 7
  have c_r_8_w4 := x_r.cell (i := 8) rfl
  have f_r_8_w4 := x_r.frozen 8
  obtain ⟨w5, e_w5, s_w5, h_w5, y⟩ := store_step x_r [.int .i64 0, .int .i64 0, .int .i64 o, .int .i64 t, .int .i64 0, .int .i64 k1, .int .i64 k2, .int .i64 k3, .int .i64 k4] rfl
  replace e_w5 : (((((((((w4.setCell ⟨w.heap.size + 1, 0, none⟩ (.int .i64 0)).setCell ⟨w.heap.size + 1, 1, none⟩ (.int .i64 0)).setCell ⟨w.heap.size + 1, 2, none⟩ (.int .i64 o)).setCell ⟨w.heap.size + 1, 3, none⟩ (.int .i64 t)).setCell ⟨w.heap.size + 1, 4, none⟩ (.int .i64 0)).setCell ⟨w.heap.size + 1, 5, none⟩ (.int .i64 k1)).setCell ⟨w.heap.size + 1, 6, none⟩ (.int .i64 k2)).setCell ⟨w.heap.size + 1, 7, none⟩ (.int .i64 k3)).setCell ⟨w.heap.size + 1, 8, none⟩ (.int .i64 k4)) = w5 := e_w5
  have s_w5_1 := Nat.le_of_eq s_w5
  have s_w5_2 := Nat.le_of_eq s_w5.symm
  clear s_w5
  replace x_a := x_a.chg h_w5 (by omega)
  replace x_l := x_l.chg h_w5 (by omega)
  have B_w5 := Below.chg_ B_w4 h_w5 (by omega) (by omega)
  replace x_r : Vr w5 (w.heap.size + 1) 26 [.int .i64 0, .int .i64 0, .int .i64 o, .int .i64 t, .int .i64 0, .int .i64 k1, .int .i64 k2, .int .i64 k3, .int .i64 k4] := y
  clear y
  go_wp2
  refine ret_cell (by rfl) (by rfl) x_r Tryd.underlying26 sz_rec (by rfl) ?_
  exact ⟨rfl, B_w5⟩
set_option maxRecDepth 100000 in
set_option maxHeartbeats 4000000 in
theorem iUnused_3 (w : World) (a o t m k1 k2 k3 k4 : Int) : Calls Tryd.prog 36 #[.agg #[.int .i64 3, .int .i64 a, .int .i64 o, .int .i64 t, .int .i64 m, .int .i64 k1, .int .i64 k2, .int .i64 k3, .int .i64 k4]] w fun e w' => e = .returned (.agg #[.int .i64 0, .int .i64 0, .int .i64 o, .int .i64 0, .int .i64 0, .int .i64 k1, .int .i64 k2, .int .i64 k3, .int .i64 k4]) ∧ Below w.heap.size w w' := by
  obtain ⟨wa, hwa, B0, sa, x_a, x_r⟩ := frame2 w 26 [.int .i64 3, .int .i64 a, .int .i64 o, .int .i64 t, .int .i64 m, .int .i64 k1, .int .i64 k2, .int .i64 k3, .int .i64 k4] 26 [.int .i64 0, .int .i64 0, .int .i64 0, .int .i64 0, .int .i64 0, .int .i64 0, .int .i64 0, .int .i64 0, .int .i64 0]
  have sa_1 := Nat.le_of_eq sa
  have sa_2 := Nat.le_of_eq sa.symm
  clear sa
  go_enter Tryd.func36, Tryd.ntmps36
  go_wp2_with fail
  refine (iUsed_3 x_a rfl).mono ?_
  rintro e w1 ⟨B, T, rfl, x_l, hB, h_w1⟩
  replace x_a := x_a.from_ h_w1
  replace x_r := x_r.from_ h_w1
  have B_w1 := B0.trans (h_w1.mono B0.size)
  have s_w1 := h_w1.size
  have ltB := x_l.lt
  have c_a_0_w1 := x_a.cell (i := 0) rfl
  have f_a_0_w1 := x_a.frozen 0
  have c_a_1_w1 := x_a.cell (i := 1) rfl
  have f_a_1_w1 := x_a.frozen 1
  have c_a_2_w1 := x_a.cell (i := 2) rfl
  have f_a_2_w1 := x_a.frozen 2
  have c_a_3_w1 := x_a.cell (i := 3) rfl
  have f_a_3_w1 := x_a.frozen 3
  have c_a_4_w1 := x_a.cell (i := 4) rfl
  have f_a_4_w1 := x_a.frozen 4
  have c_a_5_w1 := x_a.cell (i := 5) rfl
  have f_a_5_w1 := x_a.frozen 5
  have c_a_6_w1 := x_a.cell (i := 6) rfl
  have f_a_6_w1 := x_a.frozen 6
  have c_a_7_w1 := x_a.cell (i := 7) rfl
  have f_a_7_w1 := x_a.frozen 7
  have c_a_8_w1 := x_a.cell (i := 8) rfl
  have f_a_8_w1 := x_a.frozen 8
  have c_l_0_w1 := x_l.cell (i := 0) rfl
  have f_l_0_w1 := x_l.frozen 0
  have c_l_1_w1 := x_l.cell (i := 1) rfl
  have f_l_1_w1 := x_l.frozen 1
  have c_l_2_w1 := x_l.cell (i := 2) rfl
  have f_l_2_w1 := x_l.frozen 2
  go_wp2_with fail
  refine wp_loop_rounds 4 ?_
  rw [rounds_succ]
  clear c_a_0_w1 f_a_0_w1 c_a_1_w1 f_a_1_w1 c_a_2_w1 f_a_2_w1 c_a_3_w1 f_a_3_w1 c_a_4_w1 f_a_4_w1 c_a_5_w1 f_a_5_w1 c_a_6_w1 f_a_6_w1 c_a_7_w1 f_a_7_w1 c_a_8_w1 f_a_8_w1 c_l_0_w1 f_l_0_w1 c_l_1_w1 f_l_1_w1 c_l_2_w1 f_l_2_w1
  have c_a_0_w1 := x_a.cell (i := 0) rfl
  have f_a_0_w1 := x_a.frozen 0
  have c_a_1_w1 := x_a.cell (i := 1) rfl
  have f_a_1_w1 := x_a.frozen 1
  have c_a_2_w1 := x_a.cell (i := 2) rfl
  have f_a_2_w1 := x_a.frozen 2
  have c_a_3_w1 := x_a.cell (i := 3) rfl
  have f_a_3_w1 := x_a.frozen 3
  have c_a_4_w1 := x_a.cell (i := 4) rfl
  have f_a_4_w1 := x_a.frozen 4
  have c_a_5_w1 := x_a.cell (i := 5) rfl
  have f_a_5_w1 := x_a.frozen 5
  have c_a_6_w1 := x_a.cell (i := 6) rfl
  have f_a_6_w1 := x_a.frozen 6
  have c_a_7_w1 := x_a.cell (i := 7) rfl
  have f_a_7_w1 := x_a.frozen 7
  have c_a_8_w1 := x_a.cell (i := 8) rfl
  have f_a_8_w1 := x_a.frozen 8
  have c_l_0_w1 := x_l.cell (i := 0) rfl
  have f_l_0_w1 := x_l.frozen 0
  have c_l_1_w1 := x_l.cell (i := 1) rfl
  have f_l_1_w1 := x_l.frozen 1
  have c_l_2_w1 := x_l.cell (i := 2) rfl
  have f_l_2_w1 := x_l.frozen 2
  obtain ⟨w2, e_w2, s_w2, h_w2, y⟩ := set_step x_a 1 (.int .i64 0)
  have s_w2_1 := Nat.le_of_eq s_w2
  have s_w2_2 := Nat.le_of_eq s_w2.symm
  clear s_w2
  replace x_r := x_r.chg h_w2 (by omega)
  replace x_l := x_l.chg h_w2 (by omega)
  have B_w2 := Below.chg_ B_w1 h_w2 (by omega) (by omega)
  replace x_a : Vr w2 (w.heap.size) 26 [.int .i64 3, .int .i64 0, .int .i64 o, .int .i64 t, .int .i64 m, .int .i64 k1, .int .i64 k2, .int .i64 k3, .int .i64 k4] := y
  clear y
  have c_a_0_w2 := x_a.cell (i := 0) rfl
  have f_a_0_w2 := x_a.frozen 0
  have c_a_1_w2 := x_a.cell (i := 1) rfl
  have f_a_1_w2 := x_a.frozen 1
  have c_a_2_w2 := x_a.cell (i := 2) rfl
  have f_a_2_w2 := x_a.frozen 2
  have c_a_3_w2 := x_a.cell (i := 3) rfl
  have f_a_3_w2 := x_a.frozen 3
  have c_a_4_w2 := x_a.cell (i := 4) rfl
  have f_a_4_w2 := x_a.frozen 4
  have c_a_5_w2 := x_a.cell (i := 5) rfl
  have f_a_5_w2 := x_a.frozen 5
  have c_a_6_w2 := x_a.cell (i := 6) rfl
  have f_a_6_w2 := x_a.frozen 6
  have c_a_7_w2 := x_a.cell (i := 7) rfl
  have f_a_7_w2 := x_a.frozen 7
  have c_a_8_w2 := x_a.cell (i := 8) rfl
  have f_a_8_w2 := x_a.frozen 8
  have c_l_0_w2 := x_l.cell (i := 0) rfl
  have f_l_0_w2 := x_l.frozen 0
  have c_l_1_w2 := x_l.cell (i := 1) rfl
  have f_l_1_w2 := x_l.frozen 1
  have c_l_2_w2 := x_l.cell (i := 2) rfl
  have f_l_2_w2 := x_l.frozen 2
  go_wp2_with fail
  rw [rounds_succ]
  clear c_a_0_w1 f_a_0_w1 c_a_1_w1 f_a_1_w1 c_a_2_w1 f_a_2_w1 c_a_3_w1 f_a_3_w1 c_a_4_w1 f_a_4_w1 c_a_5_w1 f_a_5_w1 c_a_6_w1 f_a_6_w1 c_a_7_w1 f_a_7_w1 c_a_8_w1 f_a_8_w1 c_l_0_w1 f_l_0_w1 c_l_1_w1 f_l_1_w1 c_l_2_w1 f_l_2_w1 c_a_0_w2 f_a_0_w2 c_a_1_w2 f_a_1_w2 c_a_2_w2 f_a_2_w2 c_a_3_w2 f_a_3_w2 c_a_4_w2 f_a_4_w2 c_a_5_w2 f_a_5_w2 c_a_6_w2 f_a_6_w2 c_a_7_w2 f_a_7_w2 c_a_8_w2 f_a_8_w2 c_l_0_w2 f_l_0_w2 c_l_1_w2 f_l_1_w2 c_l_2_w2 f_l_2_w2
  have c_a_0_w2 := x_a.cell (i := 0) rfl
  have f_a_0_w2 := x_a.frozen 0
  have c_a_1_w2 := x_a.cell (i := 1) rfl
  have f_a_1_w2 := x_a.frozen 1
  have c_a_2_w2 := x_a.cell (i := 2) rfl
  have f_a_2_w2 := x_a.frozen 2
  have c_a_3_w2 := x_a.cell (i := 3) rfl
  have f_a_3_w2 := x_a.frozen 3
  have c_a_4_w2 := x_a.cell (i := 4) rfl
  have f_a_4_w2 := x_a.frozen 4
  have c_a_5_w2 := x_a.cell (i := 5) rfl
  have f_a_5_w2 := x_a.frozen 5
  have c_a_6_w2 := x_a.cell (i := 6) rfl
  have f_a_6_w2 := x_a.frozen 6
  have c_a_7_w2 := x_a.cell (i := 7) rfl
  have f_a_7_w2 := x_a.frozen 7
  have c_a_8_w2 := x_a.cell (i := 8) rfl
  have f_a_8_w2 := x_a.frozen 8
  have c_l_0_w2 := x_l.cell (i := 0) rfl
  have f_l_0_w2 := x_l.frozen 0
  have c_l_1_w2 := x_l.cell (i := 1) rfl
  have f_l_1_w2 := x_l.frozen 1
  have c_l_2_w2 := x_l.cell (i := 2) rfl
  have f_l_2_w2 := x_l.frozen 2
  obtain ⟨w3, e_w3, s_w3, h_w3, y⟩ := set_step x_a 3 (.int .i64 0)
  have s_w3_1 := Nat.le_of_eq s_w3
  have s_w3_2 := Nat.le_of_eq s_w3.symm
  clear s_w3
  replace x_r := x_r.chg h_w3 (by omega)
  replace x_l := x_l.chg h_w3 (by omega)
  have B_w3 := Below.chg_ B_w2 h_w3 (by omega) (by omega)
  replace x_a : Vr w3 (w.heap.size) 26 [.int .i64 3, .int .i64 0, .int .i64 o, .int .i64 0, .int .i64 m, .int .i64 k1, .int .i64 k2, .int .i64 k3, .int .i64 k4] := y
  clear y
  have c_a_0_w3 := x_a.cell (i := 0) rfl
  have f_a_0_w3 := x_a.frozen 0
  have c_a_1_w3 := x_a.cell (i := 1) rfl
  have f_a_1_w3 := x_a.frozen 1
  have c_a_2_w3 := x_a.cell (i := 2) rfl
  have f_a_2_w3 := x_a.frozen 2
  have c_a_3_w3 := x_a.cell (i := 3) rfl
  have f_a_3_w3 := x_a.frozen 3
  have c_a_4_w3 := x_a.cell (i := 4) rfl
  have f_a_4_w3 := x_a.frozen 4
  have c_a_5_w3 := x_a.cell (i := 5) rfl
  have f_a_5_w3 := x_a.frozen 5
  have c_a_6_w3 := x_a.cell (i := 6) rfl
  have f_a_6_w3 := x_a.frozen 6
  have c_a_7_w3 := x_a.cell (i := 7) rfl
  have f_a_7_w3 := x_a.frozen 7
  have c_a_8_w3 := x_a.cell (i := 8) rfl
  have f_a_8_w3 := x_a.frozen 8
  have c_l_0_w3 := x_l.cell (i := 0) rfl
  have f_l_0_w3 := x_l.frozen 0
  have c_l_1_w3 := x_l.cell (i := 1) rfl
  have f_l_1_w3 := x_l.frozen 1
  have c_l_2_w3 := x_l.cell (i := 2) rfl
  have f_l_2_w3 := x_l.frozen 2
  go_wp2_with fail
  rw [rounds_succ]
  clear c_a_0_w2 f_a_0_w2 c_a_1_w2 f_a_1_w2 c_a_2_w2 f_a_2_w2 c_a_3_w2 f_a_3_w2 c_a_4_w2 f_a_4_w2 c_a_5_w2 f_a_5_w2 c_a_6_w2 f_a_6_w2 c_a_7_w2 f_a_7_w2 c_a_8_w2 f_a_8_w2 c_l_0_w2 f_l_0_w2 c_l_1_w2 f_l_1_w2 c_l_2_w2 f_l_2_w2 c_a_0_w3 f_a_0_w3 c_a_1_w3 f_a_1_w3 c_a_2_w3 f_a_2_w3 c_a_3_w3 f_a_3_w3 c_a_4_w3 f_a_4_w3 c_a_5_w3 f_a_5_w3 c_a_6_w3 f_a_6_w3 c_a_7_w3 f_a_7_w3 c_a_8_w3 f_a_8_w3 c_l_0_w3 f_l_0_w3 c_l_1_w3 f_l_1_w3 c_l_2_w3 f_l_2_w3
  have c_a_0_w3 := x_a.cell (i := 0) rfl
  have f_a_0_w3 := x_a.frozen 0
  have c_a_1_w3 := x_a.cell (i := 1) rfl
  have f_a_1_w3 := x_a.frozen 1
  have c_a_2_w3 := x_a.cell (i := 2) rfl
  have f_a_2_w3 := x_a.frozen 2
  have c_a_3_w3 := x_a.cell (i := 3) rfl
  have f_a_3_w3 := x_a.frozen 3
  have c_a_4_w3 := x_a.cell (i := 4) rfl
  have f_a_4_w3 := x_a.frozen 4
  have c_a_5_w3 := x_a.cell (i := 5) rfl
  have f_a_5_w3 := x_a.frozen 5
  have c_a_6_w3 := x_a.cell (i := 6) rfl
  have f_a_6_w3 := x_a.frozen 6
  have c_a_7_w3 := x_a.cell (i := 7) rfl
  have f_a_7_w3 := x_a.frozen 7
  have c_a_8_w3 := x_a.cell (i := 8) rfl
  have f_a_8_w3 := x_a.frozen 8
  have c_l_0_w3 := x_l.cell (i := 0) rfl
  have f_l_0_w3 := x_l.frozen 0
  have c_l_1_w3 := x_l.cell (i := 1) rfl
  have f_l_1_w3 := x_l.frozen 1
  have c_l_2_w3 := x_l.cell (i := 2) rfl
  have f_l_2_w3 := x_l.frozen 2
  obtain ⟨w4, e_w4, s_w4, h_w4, y⟩ := set_step x_a 4 (.int .i64 0)
  have s_w4_1 := Nat.le_of_eq s_w4
  have s_w4_2 := Nat.le_of_eq s_w4.symm
  clear s_w4
  replace x_r := x_r.chg h_w4 (by omega)
  replace x_l := x_l.chg h_w4 (by omega)
  have B_w4 := Below.chg_ B_w3 h_w4 (by omega) (by omega)
  replace x_a : Vr w4 (w.heap.size) 26 [.int .i64 3, .int .i64 0, .int .i64 o, .int .i64 0, .int .i64 0, .int .i64 k1, .int .i64 k2, .int .i64 k3, .int .i64 k4] := y
  clear y
  have c_a_0_w4 := x_a.cell (i := 0) rfl
  have f_a_0_w4 := x_a.frozen 0
  have c_a_1_w4 := x_a.cell (i := 1) rfl
  have f_a_1_w4 := x_a.frozen 1
  have c_a_2_w4 := x_a.cell (i := 2) rfl
  have f_a_2_w4 := x_a.frozen 2
  have c_a_3_w4 := x_a.cell (i := 3) rfl
  have f_a_3_w4 := x_a.frozen 3
  have c_a_4_w4 := x_a.cell (i := 4) rfl
  have f_a_4_w4 := x_a.frozen 4
  have c_a_5_w4 := x_a.cell (i := 5) rfl
  have f_a_5_w4 := x_a.frozen 5
  have c_a_6_w4 := x_a.cell (i := 6) rfl
  have f_a_6_w4 := x_a.frozen 6
  have c_a_7_w4 := x_a.cell (i := 7) rfl
  have f_a_7_w4 := x_a.frozen 7
  have c_a_8_w4 := x_a.cell (i := 8) rfl
  have f_a_8_w4 := x_a.frozen 8
  have c_l_0_w4 := x_l.cell (i := 0) rfl
  have f_l_0_w4 := x_l.frozen 0
  have c_l_1_w4 := x_l.cell (i := 1) rfl
  have f_l_1_w4 := x_l.frozen 1
  have c_l_2_w4 := x_l.cell (i := 2) rfl
  have f_l_2_w4 := x_l.frozen 2
  go_wp2_with fail
  rw [rounds_succ]
  clear c_a_0_w3 f_a_0_w3 c_a_1_w3 f_a_1_w3 c_a_2_w3 f_a_2_w3 c_a_3_w3 f_a_3_w3 c_a_4_w3 f_a_4_w3 c_a_5_w3 f_a_5_w3 c_a_6_w3 f_a_6_w3 c_a_7_w3 f_a_7_w3 c_a_8_w3 f_a_8_w3 c_l_0_w3 f_l_0_w3 c_l_1_w3 f_l_1_w3 c_l_2_w3 f_l_2_w3 c_a_0_w4 f_a_0_w4 c_a_1_w4 f_a_1_w4 c_a_2_w4 f_a_2_w4 c_a_3_w4 f_a_3_w4 c_a_4_w4 f_a_4_w4 c_a_5_w4 f_a_5_w4 c_a_6_w4 f_a_6_w4 c_a_7_w4 f_a_7_w4 c_a_8_w4 f_a_8_w4 c_l_0_w4 f_l_0_w4 c_l_1_w4 f_l_1_w4 c_l_2_w4 f_l_2_w4
  have c_a_0_w4 := x_a.cell (i := 0) rfl
  have f_a_0_w4 := x_a.frozen 0
  have c_a_1_w4 := x_a.cell (i := 1) rfl
  have f_a_1_w4 := x_a.frozen 1
  have c_a_2_w4 := x_a.cell (i := 2) rfl
  have f_a_2_w4 := x_a.frozen 2
  have c_a_3_w4 := x_a.cell (i := 3) rfl
  have f_a_3_w4 := x_a.frozen 3
  have c_a_4_w4 := x_a.cell (i := 4) rfl
  have f_a_4_w4 := x_a.frozen 4
  have c_a_5_w4 := x_a.cell (i := 5) rfl
  have f_a_5_w4 := x_a.frozen 5
  have c_a_6_w4 := x_a.cell (i := 6) rfl
  have f_a_6_w4 := x_a.frozen 6
  have c_a_7_w4 := x_a.cell (i := 7) rfl
  have f_a_7_w4 := x_a.frozen 7
  have c_a_8_w4 := x_a.cell (i := 8) rfl
  have f_a_8_w4 := x_a.frozen 8
  obtain ⟨w5, e_w5, s_w5, h_w5, y⟩ := set_step x_a 0 (.int .i64 0)
  have s_w5_1 := Nat.le_of_eq s_w5
  have s_w5_2 := Nat.le_of_eq s_w5.symm
  clear s_w5
  replace x_r := x_r.chg h_w5 (by omega)
  replace x_l := x_l.chg h_w5 (by omega)
  have B_w5 := Below.chg_ B_w4 h_w5 (by omega) (by omega)
  replace x_a : Vr w5 (w.heap.size) 26 [.int .i64 0, .int .i64 0, .int .i64 o, .int .i64 0, .int .i64 0, .int .i64 k1, .int .i64 k2, .int .i64 k3, .int .i64 k4] := y
  clear y
  have c_a_0_w5 := x_a.cell (i := 0) rfl
  have f_a_0_w5 := x_a.frozen 0
  have c_a_1_w5 := x_a.cell (i := 1) rfl
  have f_a_1_w5 := x_a.frozen 1
  have c_a_2_w5 := x_a.cell (i := 2) rfl
  have f_a_2_w5 := x_a.frozen 2
  have c_a_3_w5 := x_a.cell (i := 3) rfl
  have f_a_3_w5 := x_a.frozen 3
  have c_a_4_w5 := x_a.cell (i := 4) rfl
  have f_a_4_w5 := x_a.frozen 4
  have c_a_5_w5 := x_a.cell (i := 5) rfl
  have f_a_5_w5 := x_a.frozen 5
  have c_a_6_w5 := x_a.cell (i := 6) rfl
  have f_a_6_w5 := x_a.frozen 6
  have c_a_7_w5 := x_a.cell (i := 7) rfl
  have f_a_7_w5 := x_a.frozen 7
  have c_a_8_w5 := x_a.cell (i := 8) rfl
  have f_a_8_w5 := x_a.frozen 8
  have c_r_0_w5 := x_r.cell (i := 0) rfl
  have f_r_0_w5 := x_r.frozen 0
  have c_r_1_w5 := x_r.cell (i := 1) rfl
  have f_r_1_w5 := x_r.frozen 1
  have c_r_2_w5 := x_r.cell (i := 2) rfl
  have f_r_2_w5 := x_r.frozen 2
  have c_r_3_w5 := x_r.cell (i := 3) rfl
  have f_r_3_w5 := x_r.frozen 3
  have c_r_4_w5 := x_r.cell (i := 4) rfl
  have f_r_4_w5 := x_r.frozen 4
  have c_r_5_w5 := x_r.cell (i := 5) rfl
  have f_r_5_w5 := x_r.frozen 5
  have c_r_6_w5 := x_r.cell (i := 6) rfl
  have f_r_6_w5 := x_r.frozen 6
  have c_r_7_w5 := x_r.cell (i := 7) rfl
  have f_r_7_w5 := x_r.frozen 7
  have c_r_8_w5 := x_r.cell (i := 8) rfl
  have f_r_8_w5 := x_r.frozen 8
  obtain ⟨w6, e_w6, s_w6, h_w6, y⟩ := store_step x_r [.int .i64 0, .int .i64 0, .int .i64 o, .int .i64 0, .int .i64 0, .int .i64 k1, .int .i64 k2, .int .i64 k3, .int .i64 k4] rfl
  replace e_w6 : (((((((((w5.setCell ⟨w.heap.size + 1, 0, none⟩ (.int .i64 0)).setCell ⟨w.heap.size + 1, 1, none⟩ (.int .i64 0)).setCell ⟨w.heap.size + 1, 2, none⟩ (.int .i64 o)).setCell ⟨w.heap.size + 1, 3, none⟩ (.int .i64 0)).setCell ⟨w.heap.size + 1, 4, none⟩ (.int .i64 0)).setCell ⟨w.heap.size + 1, 5, none⟩ (.int .i64 k1)).setCell ⟨w.heap.size + 1, 6, none⟩ (.int .i64 k2)).setCell ⟨w.heap.size + 1, 7, none⟩ (.int .i64 k3)).setCell ⟨w.heap.size + 1, 8, none⟩ (.int .i64 k4)) = w6 := e_w6
  have s_w6_1 := Nat.le_of_eq s_w6
  have s_w6_2 := Nat.le_of_eq s_w6.symm
  clear s_w6
  replace x_a := x_a.chg h_w6 (by omega)
  replace x_l := x_l.chg h_w6 (by omega)
  have B_w6 := Below.chg_ B_w5 h_w6 (by omega) (by omega)
  replace x_r : Vr w6 (w.heap.size + 1) 26 [.int .i64 0, .int .i64 0, .int .i64 o, .int .i64 0, .int .i64 0, .int .i64 k1, .int .i64 k2, .int .i64 k3, .int .i64 k4] := y
  clear y
  go_wp2
  refine ret_cell (by rfl) (by rfl) x_r Tryd.underlying26 sz_rec (by rfl) ?_
  exact ⟨rfl, B_w6⟩
set_option maxRecDepth 100000 in
set_option maxHeartbeats 4000000 in
theorem iUnused_4 (w : World) (a o t m k1 k2 k3 k4 : Int) : Calls Tryd.prog 36 #[.agg #[.int .i64 4, .int .i64 a, .int .i64 o, .int .i64 t, .int .i64 m, .int .i64 k1, .int .i64 k2, .int .i64 k3, .int .i64 k4]] w fun e w' => e = .returned (.agg #[.int .i64 0, .int .i64 0, .int .i64 0, .int .i64 0, .int .i64 0, .int .i64 k1, .int .i64 k2, .int .i64 k3, .int .i64 k4]) ∧ Below w.heap.size w w' := by
  obtain ⟨wa, hwa, B0, sa, x_a, x_r⟩ := frame2 w 26 [.int .i64 4, .int .i64 a, .int .i64 o, .int .i64 t, .int .i64 m, .int .i64 k1, .int .i64 k2, .int .i64 k3, .int .i64 k4] 26 [.int .i64 0, .int .i64 0, .int .i64 0, .int .i64 0, .int .i64 0, .int .i64 0, .int .i64 0, .int .i64 0, .int .i64 0]
  have sa_1 := Nat.le_of_eq sa
  have sa_2 := Nat.le_of_eq sa.symm
  clear sa
  go_enter Tryd.func36, Tryd.ntmps36
  go_wp2_with fail
  refine (iUsed_4 x_a rfl).mono ?_
  rintro e w1 ⟨B, T, rfl, x_l, hB, h_w1⟩
  replace x_a := x_a.from_ h_w1
  replace x_r := x_r.from_ h_w1
  have B_w1 := B0.trans (h_w1.mono B0.size)
  have s_w1 := h_w1.size
  have ltB := x_l.lt
  have c_a_0_w1 := x_a.cell (i := 0) rfl
  have f_a_0_w1 := x_a.frozen 0
  have c_a_1_w1 := x_a.cell (i := 1) rfl
  have f_a_1_w1 := x_a.frozen 1
  have c_a_2_w1 := x_a.cell (i := 2) rfl
  have f_a_2_w1 := x_a.frozen 2
  have c_a_3_w1 := x_a.cell (i := 3) rfl
  have f_a_3_w1 := x_a.frozen 3
  have c_a_4_w1 := x_a.cell (i := 4) rfl
  have f_a_4_w1 := x_a.frozen 4
  have c_a_5_w1 := x_a.cell (i := 5) rfl
  have f_a_5_w1 := x_a.frozen 5
  have c_a_6_w1 := x_a.cell (i := 6) rfl
  have f_a_6_w1 := x_a.frozen 6
  have c_a_7_w1 := x_a.cell (i := 7) rfl
  have f_a_7_w1 := x_a.frozen 7
  have c_a_8_w1 := x_a.cell (i := 8) rfl
  have f_a_8_w1 := x_a.frozen 8
  have c_l_0_w1 := x_l.cell (i := 0) rfl
  have f_l_0_w1 := x_l.frozen 0
  have c_l_1_w1 := x_l.cell (i := 1) rfl
  have f_l_1_w1 := x_l.frozen 1
  have c_l_2_w1 := x_l.cell (i := 2) rfl
  have f_l_2_w1 := x_l.frozen 2
  have c_l_3_w1 := x_l.cell (i := 3) rfl
  have f_l_3_w1 := x_l.frozen 3
  go_wp2_with fail
  refine wp_loop_rounds 5 ?_
  rw [rounds_succ]
  clear c_a_0_w1 f_a_0_w1 c_a_1_w1 f_a_1_w1 c_a_2_w1 f_a_2_w1 c_a_3_w1 f_a_3_w1 c_a_4_w1 f_a_4_w1 c_a_5_w1 f_a_5_w1 c_a_6_w1 f_a_6_w1 c_a_7_w1 f_a_7_w1 c_a_8_w1 f_a_8_w1 c_l_0_w1 f_l_0_w1 c_l_1_w1 f_l_1_w1 c_l_2_w1 f_l_2_w1 c_l_3_w1 f_l_3_w1
  have c_a_0_w1 := x_a.cell (i := 0) rfl
  have f_a_0_w1 := x_a.frozen 0
  have c_a_1_w1 := x_a.cell (i := 1) rfl
  have f_a_1_w1 := x_a.frozen 1
  have c_a_2_w1 := x_a.cell (i := 2) rfl
  have f_a_2_w1 := x_a.frozen 2
  have c_a_3_w1 := x_a.cell (i := 3) rfl
  have f_a_3_w1 := x_a.frozen 3
  have c_a_4_w1 := x_a.cell (i := 4) rfl
  have f_a_4_w1 := x_a.frozen 4
  have c_a_5_w1 := x_a.cell (i := 5) rfl
  have f_a_5_w1 := x_a.frozen 5
  have c_a_6_w1 := x_a.cell (i := 6) rfl
  have f_a_6_w1 := x_a.frozen 6
  have c_a_7_w1 := x_a.cell (i := 7) rfl
  have f_a_7_w1 := x_a.frozen 7
  have c_a_8_w1 := x_a.cell (i := 8) rfl
  have f_a_8_w1 := x_a.frozen 8
  have c_l_0_w1 := x_l.cell (i := 0) rfl
  have f_l_0_w1 := x_l.frozen 0
  have c_l_1_w1 := x_l.cell (i := 1) rfl
  have f_l_1_w1 := x_l.frozen 1
  have c_l_2_w1 := x_l.cell (i := 2) rfl
  have f_l_2_w1 := x_l.frozen 2
  have c_l_3_w1 := x_l.cell (i := 3) rfl
  have f_l_3_w1 := x_l.frozen 3
  obtain ⟨w2, e_w2, s_w2, h_w2, y⟩ := set_step x_a 1 (.int .i64 0)
  have s_w2_1 := Nat.le_of_eq s_w2
  have s_w2_2 := Nat.le_of_eq s_w2.symm
  clear s_w2
  replace x_r := x_r.chg h_w2 (by omega)
  replace x_l := x_l.chg h_w2 (by omega)
  have B_w2 := Below.chg_ B_w1 h_w2 (by omega) (by omega)
  replace x_a : Vr w2 (w.heap.size) 26 [.int .i64 4, .int .i64 0, .int .i64 o, .int .i64 t, .int .i64 m, .int .i64 k1, .int .i64 k2, .int .i64 k3, .int .i64 k4] := y
  clear y
  have c_a_0_w2 := x_a.cell (i := 0) rfl
  have f_a_0_w2 := x_a.frozen 0
  have c_a_1_w2 := x_a.cell (i := 1) rfl
  have f_a_1_w2 := x_a.frozen 1
  have c_a_2_w2 := x_a.cell (i := 2) rfl
  have f_a_2_w2 := x_a.frozen 2
  have c_a_3_w2 := x_a.cell (i := 3) rfl
  have f_a_3_w2 := x_a.frozen 3
  have c_a_4_w2 := x_a.cell (i := 4) rfl
  have f_a_4_w2 := x_a.frozen 4
  have c_a_5_w2 := x_a.cell (i := 5) rfl
  have f_a_5_w2 := x_a.frozen 5
  have c_a_6_w2 := x_a.cell (i := 6) rfl
  have f_a_6_w2 := x_a.frozen 6
  have c_a_7_w2 := x_a.cell (i := 7) rfl
  have f_a_7_w2 := x_a.frozen 7
  have c_a_8_w2 := x_a.cell (i := 8) rfl
  have f_a_8_w2 := x_a.frozen 8
  have c_l_0_w2 := x_l.cell (i := 0) rfl
  have f_l_0_w2 := x_l.frozen 0
  have c_l_1_w2 := x_l.cell (i := 1) rfl
  have f_l_1_w2 := x_l.frozen 1
  have c_l_2_w2 := x_l.cell (i := 2) rfl
  have f_l_2_w2 := x_l.frozen 2
  have c_l_3_w2 := x_l.cell (i := 3) rfl
  have f_l_3_w2 := x_l.frozen 3
  go_wp2_with fail
  rw [rounds_succ]
  clear c_a_0_w1 f_a_0_w1 c_a_1_w1 f_a_1_w1 c_a_2_w1 f_a_2_w1 c_a_3_w1 f_a_3_w1 c_a_4_w1 f_a_4_w1 c_a_5_w1 f_a_5_w1 c_a_6_w1 f_a_6_w1 c_a_7_w1 f_a_7_w1 c_a_8_w1 f_a_8_w1 c_l_0_w1 f_l_0_w1 c_l_1_w1 f_l_1_w1 c_l_2_w1 f_l_2_w1 c_l_3_w1 f_l_3_w1 c_a_0_w2 f_a_0_w2 c_a_1_w2 f_a_1_w2 c_a_2_w2 f_a_2_w2 c_a_3_w2 f_a_3_w2 c_a_4_w2 f_a_4_w2 c_a_5_w2 f_a_5_w2 c_a_6_w2 f_a_6_w2 c_a_7_w2 f_a_7_w2 c_a_8_w2 f_a_8_w2 c_l_0_w2 f_l_0_w2 c_l_1_w2 f_l_1_w2 c_l_2_w2 f_l_2_w2 c_l_3_w2 f_l_3_w2
  have c_a_0_w2 := x_a.cell (i := 0) rfl
  have f_a_0_w2 := x_a.frozen 0
  have c_a_1_w2 := x_a.cell (i := 1) rfl
  have f_a_1_w2 := x_a.frozen 1
  have c_a_2_w2 := x_a.cell (i := 2) rfl
  have f_a_2_w2 := x_a.frozen 2
  have c_a_3_w2 := x_a.cell (i := 3) rfl
  have f_a_3_w2 := x_a.frozen 3
  have c_a_4_w2 := x_a.cell (i := 4) rfl
  have f_a_4_w2 := x_a.frozen 4
  have c_a_5_w2 := x_a.cell (i := 5) rfl
  have f_a_5_w2 := x_a.frozen 5
  have c_a_6_w2 := x_a.cell (i := 6) rfl
  have f_a_6_w2 := x_a.frozen 6
  have c_a_7_w2 := x_a.cell (i := 7) rfl
  have f_a_7_w2 := x_a.frozen 7
  have c_a_8_w2 := x_a.cell (i := 8) rfl
  have f_a_8_w2 := x_a.frozen 8
  have c_l_0_w2 := x_l.cell (i := 0) rfl
  have f_l_0_w2 := x_l.frozen 0
  have c_l_1_w2 := x_l.cell (i := 1) rfl
  have f_l_1_w2 := x_l.frozen 1
  have c_l_2_w2 := x_l.cell (i := 2) rfl
  have f_l_2_w2 := x_l.frozen 2
  have c_l_3_w2 := x_l.cell (i := 3) rfl
  have f_l_3_w2 := x_l.frozen 3
  obtain ⟨w3, e_w3, s_w3, h_w3, y⟩ := set_step x_a 2 (.int .i64 0)
  have s_w3_1 := Nat.le_of_eq s_w3
  have s_w3_2 := Nat.le_of_eq s_w3.symm
  clear s_w3
  replace x_r := x_r.chg h_w3 (by omega)
  replace x_l := x_l.chg h_w3 (by omega)
  have B_w3 := Below.chg_ B_w2 h_w3 (by omega) (by omega)
  replace x_a : Vr w3 (w.heap.size) 26 [.int .i64 4, .int .i64 0, .int .i64 0, .int .i64 t, .int .i64 m, .int .i64 k1, .int .i64 k2, .int .i64 k3, .int .i64 k4] := y
  clear y
  have c_a_0_w3 := x_a.cell (i := 0) rfl
  have f_a_0_w3 := x_a.frozen 0
  have c_a_1_w3 := x_a.cell (i := 1) rfl
  have f_a_1_w3 := x_a.frozen 1
  have c_a_2_w3 := x_a.cell (i := 2) rfl
  have f_a_2_w3 := x_a.frozen 2
  have c_a_3_w3 := x_a.cell (i := 3) rfl
  have f_a_3_w3 := x_a.frozen 3
  have c_a_4_w3 := x_a.cell (i := 4) rfl
  have f_a_4_w3 := x_a.frozen 4
  have c_a_5_w3 := x_a.cell (i := 5) rfl
  have f_a_5_w3 := x_a.frozen 5
  have c_a_6_w3 := x_a.cell (i := 6) rfl
  have f_a_6_w3 := x_a.frozen 6
  have c_a_7_w3 := x_a.cell (i := 7) rfl
  have f_a_7_w3 := x_a.frozen 7
  have c_a_8_w3 := x_a.cell (i := 8) rfl
  have f_a_8_w3 := x_a.frozen 8
  have c_l_0_w3 := x_l.cell (i := 0) rfl
  have f_l_0_w3 := x_l.frozen 0
  have c_l_1_w3 := x_l.cell (i := 1) rfl
  have f_l_1_w3 := x_l.frozen 1
  have c_l_2_w3 := x_l.cell (i := 2) rfl
  have f_l_2_w3 := x_l.frozen 2
  have c_l_3_w3 := x_l.cell (i := 3) rfl
  have f_l_3_w3 := x_l.frozen 3
  go_wp2_with fail
  rw [rounds_succ]
  clear c_a_0_w2 f_a_0_w2 c_a_1_w2 f_a_1_w2 c_a_2_w2 f_a_2_w2 c_a_3_w2 f_a_3_w2 c_a_4_w2 f_a_4_w2 c_a_5_w2 f_a_5_w2 c_a_6_w2 f_a_6_w2 c_a_7_w2 f_a_7_w2 c_a_8_w2 f_a_8_w2 c_l_0_w2 f_l_0_w2 c_l_1_w2 f_l_1_w2 c_l_2_w2 f_l_2_w2 c_l_3_w2 f_l_3_w2 c_a_0_w3 f_a_0_w3 c_a_1_w3 f_a_1_w3 c_a_2_w3 f_a_2_w3 c_a_3_w3 f_a_3_w3 c_a_4_w3 f_a_4_w3 c_a_5_w3 f_a_5_w3 c_a_6_w3 f_a_6_w3 c_a_7_w3 f_a_7_w3 c_a_8_w3 f_a_8_w3 c_l_0_w3 f_l_0_w3 c_l_1_w3 f_l_1_w3 c_l_2_w3 f_l_2_w3 c_l_3_w3 f_l_3_w3
  have c_a_0_w3 := x_a.cell (i := 0) rfl
  have f_a_0_w3 := x_a.frozen 0
  have c_a_1_w3 := x_a.cell (i := 1) rfl
  have f_a_1_w3 := x_a.frozen 1
  have c_a_2_w3 := x_a.cell (i := 2) rfl
  have f_a_2_w3 := x_a.frozen 2
  have c_a_3_w3 := x_a.cell (i := 3) rfl
  have f_a_3_w3 := x_a.frozen 3
  have c_a_4_w3 := x_a.cell (i := 4) rfl
  have f_a_4_w3 := x_a.frozen 4
  have c_a_5_w3 := x_a.cell (i := 5) rfl
  have f_a_5_w3 := x_a.frozen 5
  have c_a_6_w3 := x_a.cell (i := 6) rfl
  have f_a_6_w3 := x_a.frozen 6
  have c_a_7_w3 := x_a.cell (i := 7) rfl
  have f_a_7_w3 := x_a.frozen 7
  have c_a_8_w3 := x_a.cell (i := 8) rfl
  have f_a_8_w3 := x_a.frozen 8
  have c_l_0_w3 := x_l.cell (i := 0) rfl
  have f_l_0_w3 := x_l.frozen 0
  have c_l_1_w3 := x_l.cell (i := 1) rfl
  have f_l_1_w3 := x_l.frozen 1
  have c_l_2_w3 := x_l.cell (i := 2) rfl
  have f_l_2_w3 := x_l.frozen 2
  have c_l_3_w3 := x_l.cell (i := 3) rfl
  have f_l_3_w3 := x_l.frozen 3
  obtain ⟨w4, e_w4, s_w4, h_w4, y⟩ := set_step x_a 3 (.int .i64 0)
  have s_w4_1 := Nat.le_of_eq s_w4
  have s_w4_2 := Nat.le_of_eq s_w4.symm
  clear s_w4
  replace x_r := x_r.chg h_w4 (by omega)
  replace x_l := x_l.chg h_w4 (by omega)
  have B_w4 := Below.chg_ B_w3 h_w4 (by omega) (by omega)
  replace x_a : Vr w4 (w.heap.size) 26 [.int .i64 4, .int .i64 0, .int .i64 0, .int .i64 0, .int .i64 m, .int .i64 k1, .int .i64 k2, .int .i64 k3, .int .i64 k4] := y
  clear y
  have c_a_0_w4 := x_a.cell (i := 0) rfl
  have f_a_0_w4 := x_a.frozen 0
  have c_a_1_w4 := x_a.cell (i := 1) rfl
  have f_a_1_w4 := x_a.frozen 1
  have c_a_2_w4 := x_a.cell (i := 2) rfl
  have f_a_2_w4 := x_a.frozen 2
  have c_a_3_w4 := x_a.cell (i := 3) rfl
  have f_a_3_w4 := x_a.frozen 3
  have c_a_4_w4 := x_a.cell (i := 4) rfl
  have f_a_4_w4 := x_a.frozen 4
  have c_a_5_w4 := x_a.cell (i := 5) rfl
  have f_a_5_w4 := x_a.frozen 5
  have c_a_6_w4 := x_a.cell (i := 6) rfl
  have f_a_6_w4 := x_a.frozen 6
  have c_a_7_w4 := x_a.cell (i := 7) rfl
  have f_a_7_w4 := x_a.frozen 7
  have c_a_8_w4 := x_a.cell (i := 8) rfl
  have f_a_8_w4 := x_a.frozen 8
  have c_l_0_w4 := x_l.cell (i := 0) rfl
  have f_l_0_w4 := x_l.frozen 0
  have c_l_1_w4 := x_l.cell (i := 1) rfl
  have f_l_1_w4 := x_l.frozen 1
  have c_l_2_w4 := x_l.cell (i := 2) rfl
  have f_l_2_w4 := x_l.frozen 2
  have c_l_3_w4 := x_l.cell (i := 3) rfl
  have f_l_3_w4 := x_l.frozen 3
  go_wp2_with fail
  rw [rounds_succ]
  clear c_a_0_w3 f_a_0_w3 c_a_1_w3 f_a_1_w3 c_a_2_w3 f_a_2_w3 c_a_3_w3 f_a_3_w3 c_a_4_w3 f_a_4_w3 c_a_5_w3 f_a_5_w3 c_a_6_w3 f_a_6_w3 c_a_7_w3 f_a_7_w3 c_a_8_w3 f_a_8_w3 c_l_0_w3 f_l_0_w3 c_l_1_w3 f_l_1_w3 c_l_2_w3 f_l_2_w3 c_l_3_w3 f_l_3_w3 c_a_0_w4 f_a_0_w4 c_a_1_w4 f_a_1_w4 c_a_2_w4 f_a_2_w4 c_a_3_w4 f_a_3_w4 c_a_4_w4 f_a_4_w4 c_a_5_w4 f_a_5_w4 c_a_6_w4 f_a_6_w4 c_a_7_w4 f_a_7_w4 c_a_8_w4 f_a_8_w4 c_l_0_w4 f_l_0_w4 c_l_1_w4 f_l_1_w4 c_l_2_w4 f_l_2_w4 c_l_3_w4 f_l_3_w4
  have c_a_0_w4 := x_a.cell (i := 0) rfl
  have f_a_0_w4 := x_a.frozen 0
  have c_a_1_w4 := x_a.cell (i := 1) rfl
  have f_a_1_w4 := x_a.frozen 1
  have c_a_2_w4 := x_a.cell (i := 2) rfl
  have f_a_2_w4 := x_a.frozen 2
  have c_a_3_w4 := x_a.cell (i := 3) rfl
  have f_a_3_w4 := x_a.frozen 3
  have c_a_4_w4 := x_a.cell (i := 4) rfl
  have f_a_4_w4 := x_a.frozen 4
  have c_a_5_w4 := x_a.cell (i := 5) rfl
  have f_a_5_w4 := x_a.frozen 5
  have c_a_6_w4 := x_a.cell (i := 6) rfl
  have f_a_6_w4 := x_a.frozen 6
  have c_a_7_w4 := x_a.cell (i := 7) rfl
  have f_a_7_w4 := x_a.frozen 7
  have c_a_8_w4 := x_a.cell (i := 8) rfl
  have f_a_8_w4 := x_a.frozen 8
  have c_l_0_w4 := x_l.cell (i := 0) rfl
  have f_l_0_w4 := x_l.frozen 0
  have c_l_1_w4 := x_l.cell (i := 1) rfl
  have f_l_1_w4 := x_l.frozen 1
  have c_l_2_w4 := x_l.cell (i := 2) rfl
  have f_l_2_w4 := x_l.frozen 2
  have c_l_3_w4 := x_l.cell (i := 3) rfl
  have f_l_3_w4 := x_l.frozen 3
  obtain ⟨w5, e_w5, s_w5, h_w5, y⟩ := set_step x_a 4 (.int .i64 0)
  have s_w5_1 := Nat.le_of_eq s_w5
  have s_w5_2 := Nat.le_of_eq s_w5.symm
  clear s_w5
  replace x_r := x_r.chg h_w5 (by omega)
  replace x_l := x_l.chg h_w5 (by omega)
  have B_w5 := Below.chg_ B_w4 h_w5 (by omega) (by omega)
  replace x_a : Vr w5 (w.heap.size) 26 [.int .i64 4, .int .i64 0, .int .i64 0, .int .i64 0, .int .i64 0, .int .i64 k1, .int .i64 k2, .int .i64 k3, .int .i64 k4] := y
  clear y
  have c_a_0_w5 := x_a.cell (i := 0) rfl
  have f_a_0_w5 := x_a.frozen 0
  have c_a_1_w5 := x_a.cell (i := 1) rfl
  have f_a_1_w5 := x_a.frozen 1
  have c_a_2_w5 := x_a.cell (i := 2) rfl
  have f_a_2_w5 := x_a.frozen 2
  have c_a_3_w5 := x_a.cell (i := 3) rfl
  have f_a_3_w5 := x_a.frozen 3
  have c_a_4_w5 := x_a.cell (i := 4) rfl
  have f_a_4_w5 := x_a.frozen 4
  have c_a_5_w5 := x_a.cell (i := 5) rfl
  have f_a_5_w5 := x_a.frozen 5
  have c_a_6_w5 := x_a.cell (i := 6) rfl
  have f_a_6_w5 := x_a.frozen 6
  have c_a_7_w5 := x_a.cell (i := 7) rfl
  have f_a_7_w5 := x_a.frozen 7
  have c_a_8_w5 := x_a.cell (i := 8) rfl
  have f_a_8_w5 := x_a.frozen 8
  have c_l_0_w5 := x_l.cell (i := 0) rfl
  have f_l_0_w5 := x_l.frozen 0
  have c_l_1_w5 := x_l.cell (i := 1) rfl
  have f_l_1_w5 := x_l.frozen 1
  have c_l_2_w5 := x_l.cell (i := 2) rfl
  have f_l_2_w5 := x_l.frozen 2
  have c_l_3_w5 := x_l.cell (i := 3) rfl
  have f_l_3_w5 := x_l.frozen 3
  go_wp2_with fail
  rw [rounds_succ]
  clear c_a_0_w4 f_a_0_w4 c_a_1_w4 f_a_1_w4 c_a_2_w4 f_a_2_w4 c_a_3_w4 f_a_3_w4 c_a_4_w4 f_a_4_w4 c_a_5_w4 f_a_5_w4 c_a_6_w4 f_a_6_w4 c_a_7_w4 f_a_7_w4 c_a_8_w4 f_a_8_w4 c_l_0_w4 f_l_0_w4 c_l_1_w4 f_l_1_w4 c_l_2_w4 f_l_2_w4 c_l_3_w4 f_l_3_w4 c_a_0_w5 f_a_0_w5 c_a_1_w5 f_a_1_w5 c_a_2_w5 f_a_2_w5 c_a_3_w5 f_a_3_w5 c_a_4_w5 f_a_4_w5 c_a_5_w5 f_a_5_w5 c_a_6_w5 f_a_6_w5 c_a_7_w5 f_a_7_w5 c_a_8_w5 f_a_8_w5 c_l_0_w5 f_l_0_w5 c_l_1_w5 f_l_1_w5 c_l_2_w5 f_l_2_w5 c_l_3_w5 f_l_3_w5
  have c_a_0_w5 := x_a.cell (i := 0) rfl
  have f_a_0_w5 := x_a.frozen 0
  have c_a_1_w5 := x_a.cell (i := 1) rfl
  have f_a_1_w5 := x_a.frozen 1
  have c_a_2_w5 := x_a.cell (i := 2) rfl
  have f_a_2_w5 := x_a.frozen 2
  have c_a_3_w5 := x_a.cell (i := 3) rfl
  have f_a_3_w5 := x_a.frozen 3
  have c_a_4_w5 := x_a.cell (i := 4) rfl
  have f_a_4_w5 := x_a.frozen 4
  have c_a_5_w5 := x_a.cell (i := 5) rfl
  have f_a_5_w5 := x_a.frozen 5
  have c_a_6_w5 := x_a.cell (i := 6) rfl
  have f_a_6_w5 := x_a.frozen 6
  have c_a_7_w5 := x_a.cell (i := 7) rfl
  have f_a_7_w5 := x_a.frozen 7
  have c_a_8_w5 := x_a.cell (i := 8) rfl
  have f_a_8_w5 := x_a.frozen 8
  obtain ⟨w6, e_w6, s_w6, h_w6, y⟩ := set_step x_a 0 (.int .i64 0)
  have s_w6_1 := Nat.le_of_eq s_w6
  have s_w6_2 := Nat.le_of_eq s_w6.symm
  clear s_w6
  replace x_r := x_r.chg h_w6 (by omega)
  replace x_l := x_l.chg h_w6 (by omega)
  have B_w6 := Below.chg_ B_w5 h_w6 (by omega) (by omega)
  replace x_a : Vr w6 (w.heap.size) 26 [.int .i64 0, .int .i64 0, .int .i64 0, .int .i64 0, .int .i64 0, .int .i64 k1, .int .i64 k2, .int .i64 k3, .int .i64 k4] := y
  clear y
  have c_a_0_w6 := x_a.cell (i := 0) rfl
  have f_a_0_w6 := x_a.frozen 0
  have c_a_1_w6 := x_a.cell (i := 1) rfl
  have f_a_1_w6 := x_a.frozen 1
  have c_a_2_w6 := x_a.cell (i := 2) rfl
  have f_a_2_w6 := x_a.frozen 2
  have c_a_3_w6 := x_a.cell (i := 3) rfl
  have f_a_3_w6 := x_a.frozen 3
  have c_a_4_w6 := x_a.cell (i := 4) rfl
  have f_a_4_w6 := x_a.frozen 4
  have c_a_5_w6 := x_a.cell (i := 5) rfl
  have f_a_5_w6 := x_a.frozen 5
  have c_a_6_w6 := x_a.cell (i := 6) rfl
  have f_a_6_w6 := x_a.frozen 6
  have c_a_7_w6 := x_a.cell (i := 7) rfl
  have f_a_7_w6 := x_a.frozen 7
  have c_a_8_w6 := x_a.cell (i := 8) rfl
  have f_a_8_w6 := x_a.frozen 8
  have c_r_0_w6 := x_r.cell (i := 0) rfl
  have f_r_0_w6 := x_r.frozen 0
  have c_r_1_w6 := x_r.cell (i := 1) rfl
  have f_r_1_w6 := x_r.frozen 1
  have c_r_2_w6 := x_r.cell (i := 2) rfl
  have f_r_2_w6 := x_r.frozen 2
  have c_r_3_w6 := x_r.cell (i := 3) rfl
  have f_r_3_w6 := x_r.frozen 3
  have c_r_4_w6 := x_r.cell (i := 4) rfl
  have f_r_4_w6 := x_r.frozen 4
  have c_r_5_w6 := x_r.cell (i := 5) rfl
  have f_r_5_w6 := x_r.frozen 5
  have c_r_6_w6 := x_r.cell (i := 6) rfl
  have f_r_6_w6 := x_r.frozen 6
  have c_r_7_w6 := x_r.cell (i := 7) rfl
  have f_r_7_w6 := x_r.frozen 7
  have c_r_8_w6 := x_r.cell (i := 8) rfl
  have f_r_8_w6 := x_r.frozen 8
  obtain ⟨w7, e_w7, s_w7, h_w7, y⟩ := store_step x_r [.int .i64 0, .int .i64 0, .int .i64 0, .int .i64 0, .int .i64 0, .int .i64 k1, .int .i64 k2, .int .i64 k3, .int .i64 k4] rfl
  replace e_w7 : (((((((((w6.setCell ⟨w.heap.size + 1, 0, none⟩ (.int .i64 0)).setCell ⟨w.heap.size + 1, 1, none⟩ (.int .i64 0)).setCell ⟨w.heap.size + 1, 2, none⟩ (.int .i64 0)).setCell ⟨w.heap.size + 1, 3, none⟩ (.int .i64 0)).setCell ⟨w.heap.size + 1, 4, none⟩ (.int .i64 0)).setCell ⟨w.heap.size + 1, 5, none⟩ (.int .i64 k1)).setCell ⟨w.heap.size + 1, 6, none⟩ (.int .i64 k2)).setCell ⟨w.heap.size + 1, 7, none⟩ (.int .i64 k3)).setCell ⟨w.heap.size + 1, 8, none⟩ (.int .i64 k4)) = w7 := e_w7
  have s_w7_1 := Nat.le_of_eq s_w7
  have s_w7_2 := Nat.le_of_eq s_w7.symm
  clear s_w7
  replace x_a := x_a.chg h_w7 (by omega)
  replace x_l := x_l.chg h_w7 (by omega)
  have B_w7 := Below.chg_ B_w6 h_w7 (by omega) (by omega)
  replace x_r : Vr w7 (w.heap.size + 1) 26 [.int .i64 0, .int .i64 0, .int .i64 0, .int .i64 0, .int .i64 0, .int .i64 k1, .int .i64 k2, .int .i64 k3, .int .i64 k4] := y
  clear y
  go_wp2
  refine ret_cell (by rfl) (by rfl) x_r Tryd.underlying26 sz_rec (by rfl) ?_
  exact ⟨rfl, B_w7⟩
set_option maxRecDepth 100000 in
set_option maxHeartbeats 4000000 in
theorem iUnused_5 (w : World) (a o t m k1 k2 k3 k4 : Int) : Calls Tryd.prog 36 #[.agg #[.int .i64 5, .int .i64 a, .int .i64 o, .int .i64 t, .int .i64 m, .int .i64 k1, .int .i64 k2, .int .i64 k3, .int .i64 k4]] w fun e w' => e = .returned (.agg #[.int .i64 0, .int .i64 a, .int .i64 o, .int .i64 0, .int .i64 0, .int .i64 0, .int .i64 0, .int .i64 0, .int .i64 0]) ∧ Below w.heap.size w w' := by
  obtain ⟨wa, hwa, B0, sa, x_a, x_r⟩ := frame2 w 26 [.int .i64 5, .int .i64 a, .int .i64 o, .int .i64 t, .int .i64 m, .int .i64 k1, .int .i64 k2, .int .i64 k3, .int .i64 k4] 26 [.int .i64 0, .int .i64 0, .int .i64 0, .int .i64 0, .int .i64 0, .int .i64 0, .int .i64 0, .int .i64 0, .int .i64 0]
  have sa_1 := Nat.le_of_eq sa
  have sa_2 := Nat.le_of_eq sa.symm
  clear sa
  go_enter Tryd.func36, Tryd.ntmps36
  go_wp2_with fail
  refine (iUsed_5 x_a rfl).mono ?_
  rintro e w1 ⟨B, T, rfl, x_l, hB, h_w1⟩
  replace x_a := x_a.from_ h_w1
  replace x_r := x_r.from_ h_w1
  have B_w1 := B0.trans (h_w1.mono B0.size)
  have s_w1 := h_w1.size
  have ltB := x_l.lt
  have c_a_0_w1 := x_a.cell (i := 0) rfl
  have f_a_0_w1 := x_a.frozen 0
  have c_a_1_w1 := x_a.cell (i := 1) rfl
  have f_a_1_w1 := x_a.frozen 1
  have c_a_2_w1 := x_a.cell (i := 2) rfl
  have f_a_2_w1 := x_a.frozen 2
  have c_a_3_w1 := x_a.cell (i := 3) rfl
  have f_a_3_w1 := x_a.frozen 3
  have c_a_4_w1 := x_a.cell (i := 4) rfl
  have f_a_4_w1 := x_a.frozen 4
  have c_a_5_w1 := x_a.cell (i := 5) rfl
  have f_a_5_w1 := x_a.frozen 5
  have c_a_6_w1 := x_a.cell (i := 6) rfl
  have f_a_6_w1 := x_a.frozen 6
  have c_a_7_w1 := x_a.cell (i := 7) rfl
  have f_a_7_w1 := x_a.frozen 7
  have c_a_8_w1 := x_a.cell (i := 8) rfl
  have f_a_8_w1 := x_a.frozen 8
  have c_l_0_w1 := x_l.cell (i := 0) rfl
  have f_l_0_w1 := x_l.frozen 0
  have c_l_1_w1 := x_l.cell (i := 1) rfl
  have f_l_1_w1 := x_l.frozen 1
  go_wp2_with fail
  refine wp_loop_rounds 3 ?_
  rw [rounds_succ]
  clear c_a_0_w1 f_a_0_w1 c_a_1_w1 f_a_1_w1 c_a_2_w1 f_a_2_w1 c_a_3_w1 f_a_3_w1 c_a_4_w1 f_a_4_w1 c_a_5_w1 f_a_5_w1 c_a_6_w1 f_a_6_w1 c_a_7_w1 f_a_7_w1 c_a_8_w1 f_a_8_w1 c_l_0_w1 f_l_0_w1 c_l_1_w1 f_l_1_w1
  have c_a_0_w1 := x_a.cell (i := 0) rfl
  have f_a_0_w1 := x_a.frozen 0
  have c_a_1_w1 := x_a.cell (i := 1) rfl
  have f_a_1_w1 := x_a.frozen 1
  have c_a_2_w1 := x_a.cell (i := 2) rfl
  have f_a_2_w1 := x_a.frozen 2
  have c_a_3_w1 := x_a.cell (i := 3) rfl
  have f_a_3_w1 := x_a.frozen 3
  have c_a_4_w1 := x_a.cell (i := 4) rfl
  have f_a_4_w1 := x_a.frozen 4
  have c_a_5_w1 := x_a.cell (i := 5) rfl
  have f_a_5_w1 := x_a.frozen 5
  have c_a_6_w1 := x_a.cell (i := 6) rfl
  have f_a_6_w1 := x_a.frozen 6
  have c_a_7_w1 := x_a.cell (i := 7) rfl
  have f_a_7_w1 := x_a.frozen 7
  have c_a_8_w1 := x_a.cell (i := 8) rfl
  have f_a_8_w1 := x_a.frozen 8
  have c_l_0_w1 := x_l.cell (i := 0) rfl
  have f_l_0_w1 := x_l.frozen 0
  have c_l_1_w1 := x_l.cell (i := 1) rfl
  have f_l_1_w1 := x_l.frozen 1
  obtain ⟨w2, e_w2, s_w2, h_w2, y⟩ := set_step x_a 3 (.int .i64 0)
  have s_w2_1 := Nat.le_of_eq s_w2
  have s_w2_2 := Nat.le_of_eq s_w2.symm
  clear s_w2
  replace x_r := x_r.chg h_w2 (by omega)
  replace x_l := x_l.chg h_w2 (by omega)
  have B_w2 := Below.chg_ B_w1 h_w2 (by omega) (by omega)
  replace x_a : Vr w2 (w.heap.size) 26 [.int .i64 5, .int .i64 a, .int .i64 o, .int .i64 0, .int .i64 m, .int .i64 k1, .int .i64 k2, .int .i64 k3, .int .i64 k4] := y
  clear y
  have c_a_0_w2 := x_a.cell (i := 0) rfl
  have f_a_0_w2 := x_a.frozen 0
  have c_a_1_w2 := x_a.cell (i := 1) rfl
  have f_a_1_w2 := x_a.frozen 1
  have c_a_2_w2 := x_a.cell (i := 2) rfl
  have f_a_2_w2 := x_a.frozen 2
  have c_a_3_w2 := x_a.cell (i := 3) rfl
  have f_a_3_w2 := x_a.frozen 3
  have c_a_4_w2 := x_a.cell (i := 4) rfl
  have f_a_4_w2 := x_a.frozen 4
  have c_a_5_w2 := x_a.cell (i := 5) rfl
  have f_a_5_w2 := x_a.frozen 5
  have c_a_6_w2 := x_a.cell (i := 6) rfl
  have f_a_6_w2 := x_a.frozen 6
  have c_a_7_w2 := x_a.cell (i := 7) rfl
  have f_a_7_w2 := x_a.frozen 7
  have c_a_8_w2 := x_a.cell (i := 8) rfl
  have f_a_8_w2 := x_a.frozen 8
  have c_l_0_w2 := x_l.cell (i := 0) rfl
  have f_l_0_w2 := x_l.frozen 0
  have c_l_1_w2 := x_l.cell (i := 1) rfl
  have f_l_1_w2 := x_l.frozen 1
  go_wp2_with fail
  rw [rounds_succ]
  clear c_a_0_w1 f_a_0_w1 c_a_1_w1 f_a_1_w1 c_a_2_w1 f_a_2_w1 c_a_3_w1 f_a_3_w1 c_a_4_w1 f_a_4_w1 c_a_5_w1 f_a_5_w1 c_a_6_w1 f_a_6_w1 c_a_7_w1 f_a_7_w1 c_a_8_w1 f_a_8_w1 c_l_0_w1 f_l_0_w1 c_l_1_w1 f_l_1_w1 c_a_0_w2 f_a_0_w2 c_a_1_w2 f_a_1_w2 c_a_2_w2 f_a_2_w2 c_a_3_w2 f_a_3_w2 c_a_4_w2 f_a_4_w2 c_a_5_w2 f_a_5_w2 c_a_6_w2 f_a_6_w2 c_a_7_w2 f_a_7_w2 c_a_8_w2 f_a_8_w2 c_l_0_w2 f_l_0_w2 c_l_1_w2 f_l_1_w2
  have c_a_0_w2 := x_a.cell (i := 0) rfl
  have f_a_0_w2 := x_a.frozen 0
  have c_a_1_w2 := x_a.cell (i := 1) rfl
  have f_a_1_w2 := x_a.frozen 1
  have c_a_2_w2 := x_a.cell (i := 2) rfl
  have f_a_2_w2 := x_a.frozen 2
  have c_a_3_w2 := x_a.cell (i := 3) rfl
  have f_a_3_w2 := x_a.frozen 3
  have c_a_4_w2 := x_a.cell (i := 4) rfl
  have f_a_4_w2 := x_a.frozen 4
  have c_a_5_w2 := x_a.cell (i := 5) rfl
  have f_a_5_w2 := x_a.frozen 5
  have c_a_6_w2 := x_a.cell (i := 6) rfl
  have f_a_6_w2 := x_a.frozen 6
  have c_a_7_w2 := x_a.cell (i := 7) rfl
  have f_a_7_w2 := x_a.frozen 7
  have c_a_8_w2 := x_a.cell (i := 8) rfl
  have f_a_8_w2 := x_a.frozen 8
  have c_l_0_w2 := x_l.cell (i := 0) rfl
  have f_l_0_w2 := x_l.frozen 0
  have c_l_1_w2 := x_l.cell (i := 1) rfl
  have f_l_1_w2 := x_l.frozen 1
  obtain ⟨w3, e_w3, s_w3, h_w3, y⟩ := set_step x_a 4 (.int .i64 0)
  have s_w3_1 := Nat.le_of_eq s_w3
  have s_w3_2 := Nat.le_of_eq s_w3.symm
  clear s_w3
  replace x_r := x_r.chg h_w3 (by omega)
  replace x_l := x_l.chg h_w3 (by omega)
  have B_w3 := Below.chg_ B_w2 h_w3 (by omega) (by omega)
  replace x_a : Vr w3 (w.heap.size) 26 [.int .i64 5, .int .i64 a, .int .i64 o, .int .i64 0, .int .i64 0, .int .i64 k1, .int .i64 k2, .int .i64 k3, .int .i64 k4] := y
  clear y
  have c_a_0_w3 := x_a.cell (i := 0) rfl
  have f_a_0_w3 := x_a.frozen 0
  have c_a_1_w3 := x_a.cell (i := 1) rfl
  have f_a_1_w3 := x_a.frozen 1
  have c_a_2_w3 := x_a.cell (i := 2) rfl
  have f_a_2_w3 := x_a.frozen 2
  have c_a_3_w3 := x_a.cell (i := 3) rfl
  have f_a_3_w3 := x_a.frozen 3
  have c_a_4_w3 := x_a.cell (i := 4) rfl
  have f_a_4_w3 := x_a.frozen 4
  have c_a_5_w3 := x_a.cell (i := 5) rfl
  have f_a_5_w3 := x_a.frozen 5
  have c_a_6_w3 := x_a.cell (i := 6) rfl
  have f_a_6_w3 := x_a.frozen 6
  have c_a_7_w3 := x_a.cell (i := 7) rfl
  have f_a_7_w3 := x_a.frozen 7
  have c_a_8_w3 := x_a.cell (i := 8) rfl
  have f_a_8_w3 := x_a.frozen 8
  have c_l_0_w3 := x_l.cell (i := 0) rfl
  have f_l_0_w3 := x_l.frozen 0
  have c_l_1_w3 := x_l.cell (i := 1) rfl
  have f_l_1_w3 := x_l.frozen 1
  go_wp2_with fail
  rw [rounds_succ]
  obtain ⟨w4, e_w4, s_w4, h_w4, y⟩ := set_step x_a 5 (.int .i64 0)
  have s_w4_1 := Nat.le_of_eq s_w4
  have s_w4_2 := Nat.le_of_eq s_w4.symm
  clear s_w4
  replace x_r := x_r.chg h_w4 (by omega)
  replace x_l := x_l.chg h_w4 (by omega)
  have B_w4 := Below.chg_ B_w3 h_w4 (by omega) (by omega)
  replace x_a : Vr w4 (w.heap.size) 26 [.int .i64 5, .int .i64 a, .int .i64 o, .int .i64 0, .int .i64 0, .int .i64 0, .int .i64 k2, .int .i64 k3, .int .i64 k4] := y
  clear y
  have c_a_0_w4 := x_a.cell (i := 0) rfl
  have f_a_0_w4 := x_a.frozen 0
  have c_a_1_w4 := x_a.cell (i := 1) rfl
  have f_a_1_w4 := x_a.frozen 1
  have c_a_2_w4 := x_a.cell (i := 2) rfl
  have f_a_2_w4 := x_a.frozen 2
  have c_a_3_w4 := x_a.cell (i := 3) rfl
  have f_a_3_w4 := x_a.frozen 3
  have c_a_4_w4 := x_a.cell (i := 4) rfl
  have f_a_4_w4 := x_a.frozen 4
  have c_a_5_w4 := x_a.cell (i := 5) rfl
  have f_a_5_w4 := x_a.frozen 5
  have c_a_6_w4 := x_a.cell (i := 6) rfl
  have f_a_6_w4 := x_a.frozen 6
  have c_a_7_w4 := x_a.cell (i := 7) rfl
  have f_a_7_w4 := x_a.frozen 7
  have c_a_8_w4 := x_a.cell (i := 8) rfl
  have f_a_8_w4 := x_a.frozen 8
  obtain ⟨w5, e_w5, s_w5, h_w5, y⟩ := set_step x_a 6 (.int .i64 0)
  have s_w5_1 := Nat.le_of_eq s_w5
  have s_w5_2 := Nat.le_of_eq s_w5.symm
  clear s_w5
  replace x_r := x_r.chg h_w5 (by omega)
  replace x_l := x_l.chg h_w5 (by omega)
  have B_w5 := Below.chg_ B_w4 h_w5 (by omega) (by omega)
  replace x_a : Vr w5 (w.heap.size) 26 [.int .i64 5, .int .i64 a, .int .i64 o, .int .i64 0, .int .i64 0, .int .i64 0, .int .i64 0, .int .i64 k3, .int .i64 k4] := y
  clear y
  have c_a_0_w5 := x_a.cell (i := 0) rfl
  have f_a_0_w5 := x_a.frozen 0
  have c_a_1_w5 := x_a.cell (i := 1) rfl
  have f_a_1_w5 := x_a.frozen 1
  have c_a_2_w5 := x_a.cell (i := 2) rfl
  have f_a_2_w5 := x_a.frozen 2
  have c_a_3_w5 := x_a.cell (i := 3) rfl
  have f_a_3_w5 := x_a.frozen 3
  have c_a_4_w5 := x_a.cell (i := 4) rfl
  have f_a_4_w5 := x_a.frozen 4
  have c_a_5_w5 := x_a.cell (i := 5) rfl
  have f_a_5_w5 := x_a.frozen 5
  have c_a_6_w5 := x_a.cell (i := 6) rfl
  have f_a_6_w5 := x_a.frozen 6
  have c_a_7_w5 := x_a.cell (i := 7) rfl
  have f_a_7_w5 := x_a.frozen 7
  have c_a_8_w5 := x_a.cell (i := 8) rfl
  have f_a_8_w5 := x_a.frozen 8
  obtain ⟨w6, e_w6, s_w6, h_w6, y⟩ := set_step x_a 7 (.int .i64 0)
  have s_w6_1 := Nat.le_of_eq s_w6
  have s_w6_2 := Nat.le_of_eq s_w6.symm
  clear s_w6
  replace x_r := x_r.chg h_w6 (by omega)
  replace x_l := x_l.chg h_w6 (by omega)
  have B_w6 := Below.chg_ B_w5 h_w6 (by omega) (by omega)
  replace x_a : Vr w6 (w.heap.size) 26 [.int .i64 5, .int .i64 a, .int .i64 o, .int .i64 0, .int .i64 0, .int .i64 0, .int .i64 0, .int .i64 0, .int .i64 k4] := y
  clear y
  have c_a_0_w6 := x_a.cell (i := 0) rfl
  have f_a_0_w6 := x_a.frozen 0
  have c_a_1_w6 := x_a.cell (i := 1) rfl
  have f_a_1_w6 := x_a.frozen 1
  have c_a_2_w6 := x_a.cell (i := 2) rfl
  have f_a_2_w6 := x_a.frozen 2
  have c_a_3_w6 := x_a.cell (i := 3) rfl
  have f_a_3_w6 := x_a.frozen 3
  have c_a_4_w6 := x_a.cell (i := 4) rfl
  have f_a_4_w6 := x_a.frozen 4
  have c_a_5_w6 := x_a.cell (i := 5) rfl
  have f_a_5_w6 := x_a.frozen 5
  have c_a_6_w6 := x_a.cell (i := 6) rfl
  have f_a_6_w6 := x_a.frozen 6
  have c_a_7_w6 := x_a.cell (i := 7) rfl
  have f_a_7_w6 := x_a.frozen 7
  have c_a_8_w6 := x_a.cell (i := 8) rfl
  have f_a_8_w6 := x_a.frozen 8
  obtain ⟨w7, e_w7, s_w7, h_w7, y⟩ := set_step x_a 8 (.int .i64 0)
  have s_w7_1 := Nat.le_of_eq s_w7
  have s_w7_2 := Nat.le_of_eq s_w7.symm
  clear s_w7
  replace x_r := x_r.chg h_w7 (by omega)
  replace x_l := x_l.chg h_w7 (by omega)
  have B_w7 := Below.chg_ B_w6 h_w7 (by omega) (by omega)
  replace x_a : Vr w7 (w.heap.size) 26 [.int .i64 5, .int .i64 a, .int .i64 o, .int .i64 0, .int .i64 0, .int .i64 0, .int .i64 0, .int .i64 0, .int .i64 0] := y
  clear y
  have c_a_0_w7 := x_a.cell (i := 0) rfl
  have f_a_0_w7 := x_a.frozen 0
  have c_a_1_w7 := x_a.cell (i := 1) rfl
  have f_a_1_w7 := x_a.frozen 1
  have c_a_2_w7 := x_a.cell (i := 2) rfl
  have f_a_2_w7 := x_a.frozen 2
  have c_a_3_w7 := x_a.cell (i := 3) rfl
  have f_a_3_w7 := x_a.frozen 3
  have c_a_4_w7 := x_a.cell (i := 4) rfl
  have f_a_4_w7 := x_a.frozen 4
  have c_a_5_w7 := x_a.cell (i := 5) rfl
  have f_a_5_w7 := x_a.frozen 5
  have c_a_6_w7 := x_a.cell (i := 6) rfl
  have f_a_6_w7 := x_a.frozen 6
  have c_a_7_w7 := x_a.cell (i := 7) rfl
  have f_a_7_w7 := x_a.frozen 7
  have c_a_8_w7 := x_a.cell (i := 8) rfl
  have f_a_8_w7 := x_a.frozen 8
  obtain ⟨w8, e_w8, s_w8, h_w8, y⟩ := set_step x_a 0 (.int .i64 0)
  have s_w8_1 := Nat.le_of_eq s_w8
  have s_w8_2 := Nat.le_of_eq s_w8.symm
  clear s_w8
  replace x_r := x_r.chg h_w8 (by omega)
  replace x_l := x_l.chg h_w8 (by omega)
  have B_w8 := Below.chg_ B_w7 h_w8 (by omega) (by omega)
  replace x_a : Vr w8 (w.heap.size) 26 [.int .i64 0, .int .i64 a, .int .i64 o, .int .i64 0, .int .i64 0, .int .i64 0, .int .i64 0, .int .i64 0, .int .i64 0] := y
  clear y
  have c_a_0_w8 := x_a.cell (i := 0) rfl
  have f_a_0_w8 := x_a.frozen 0
  have c_a_1_w8 := x_a.cell (i := 1) rfl
  have f_a_1_w8 := x_a.frozen 1
  have c_a_2_w8 := x_a.cell (i := 2) rfl
  have f_a_2_w8 := x_a.frozen 2
  have c_a_3_w8 := x_a.cell (i := 3) rfl
  have f_a_3_w8 := x_a.frozen 3
  have c_a_4_w8 := x_a.cell (i := 4) rfl
  have f_a_4_w8 := x_a.frozen 4
  have c_a_5_w8 := x_a.cell (i := 5) rfl
  have f_a_5_w8 := x_a.frozen 5
  have c_a_6_w8 := x_a.cell (i := 6) rfl
  have f_a_6_w8 := x_a.frozen 6
  have c_a_7_w8 := x_a.cell (i := 7) rfl
  have f_a_7_w8 := x_a.frozen 7
  have c_a_8_w8 := x_a.cell (i := 8) rfl
  have f_a_8_w8 := x_a.frozen 8
  have c_r_0_w8 := x_r.cell (i := 0) rfl
  have f_r_0_w8 := x_r.frozen 0
  have c_r_1_w8 := x_r.cell (i := 1) rfl
  have f_r_1_w8 := x_r.frozen 1
  have c_r_2_w8 := x_r.cell (i := 2) rfl
  have f_r_2_w8 := x_r.frozen 2
  have c_r_3_w8 := x_r.cell (i := 3) rfl
  have f_r_3_w8 := x_r.frozen 3
  have c_r_4_w8 := x_r.cell (i := 4) rfl
  have f_r_4_w8 := x_r.frozen 4
  have c_r_5_w8 := x_r.cell (i := 5) rfl
  have f_r_5_w8 := x_r.frozen 5
  have c_r_6_w8 := x_r.cell (i := 6) rfl
  have f_r_6_w8 := x_r.frozen 6
  have c_r_7_w8 := x_r.cell (i := 7) rfl
  have f_r_7_w8 := x_r.frozen 7
  have c_r_8_w8 := x_r.cell (i := 8) rfl
  have f_r_8_w8 := x_r.frozen 8
  obtain ⟨w9, e_w9, s_w9, h_w9, y⟩ := store_step x_r [.int .i64 0, .int .i64 a, .int .i64 o, .int .i64 0, .int .i64 0, .int .i64 0, .int .i64 0, .int .i64 0, .int .i64 0] rfl
  replace e_w9 : (((((((((w8.setCell ⟨w.heap.size + 1, 0, none⟩ (.int .i64 0)).setCell ⟨w.heap.size + 1, 1, none⟩ (.int .i64 a)).setCell ⟨w.heap.size + 1, 2, none⟩ (.int .i64 o)).setCell ⟨w.heap.size + 1, 3, none⟩ (.int .i64 0)).setCell ⟨w.heap.size + 1, 4, none⟩ (.int .i64 0)).setCell ⟨w.heap.size + 1, 5, none⟩ (.int .i64 0)).setCell ⟨w.heap.size + 1, 6, none⟩ (.int .i64 0)).setCell ⟨w.heap.size + 1, 7, none⟩ (.int .i64 0)).setCell ⟨w.heap.size + 1, 8, none⟩ (.int .i64 0)) = w9 := e_w9
  have s_w9_1 := Nat.le_of_eq s_w9
  have s_w9_2 := Nat.le_of_eq s_w9.symm
  clear s_w9
  replace x_a := x_a.chg h_w9 (by omega)
  replace x_l := x_l.chg h_w9 (by omega)
  have B_w9 := Below.chg_ B_w8 h_w9 (by omega) (by omega)
  replace x_r : Vr w9 (w.heap.size + 1) 26 [.int .i64 0, .int .i64 a, .int .i64 o, .int .i64 0, .int .i64 0, .int .i64 0, .int .i64 0, .int .i64 0, .int .i64 0] := y
  clear y
  go_wp2
  refine ret_cell (by rfl) (by rfl) x_r Tryd.underlying26 sz_rec (by rfl) ?_
  exact ⟨rfl, B_w9⟩
set_option maxRecDepth 100000 in
set_option maxHeartbeats 4000000 in
theorem iUnused_6 (w : World) (a o t m k1 k2 k3 k4 : Int) : Calls Tryd.prog 36 #[.agg #[.int .i64 6, .int .i64 a, .int .i64 o, .int .i64 t, .int .i64 m, .int .i64 k1, .int .i64 k2, .int .i64 k3, .int .i64 k4]] w fun e w' => e = .returned (.agg #[.int .i64 0, .int .i64 a, .int .i64 o, .int .i64 0, .int .i64 0, .int .i64 k1, .int .i64 k2, .int .i64 k3, .int .i64 k4]) ∧ Below w.heap.size w w' := by
  obtain ⟨wa, hwa, B0, sa, x_a, x_r⟩ := frame2 w 26 [.int .i64 6, .int .i64 a, .int .i64 o, .int .i64 t, .int .i64 m, .int .i64 k1, .int .i64 k2, .int .i64 k3, .int .i64 k4] 26 [.int .i64 0, .int .i64 0, .int .i64 0, .int .i64 0, .int .i64 0, .int .i64 0, .int .i64 0, .int .i64 0, .int .i64 0]
  have sa_1 := Nat.le_of_eq sa
  have sa_2 := Nat.le_of_eq sa.symm
  clear sa
  go_enter Tryd.func36, Tryd.ntmps36
  go_wp2_with fail
  refine (iUsed_6 x_a rfl).mono ?_
  rintro e w1 ⟨B, T, rfl, x_l, hB, h_w1⟩
  replace x_a := x_a.from_ h_w1
  replace x_r := x_r.from_ h_w1
  have B_w1 := B0.trans (h_w1.mono B0.size)
  have s_w1 := h_w1.size
  have ltB := x_l.lt
  have c_a_0_w1 := x_a.cell (i := 0) rfl
  have f_a_0_w1 := x_a.frozen 0
  have c_a_1_w1 := x_a.cell (i := 1) rfl
  have f_a_1_w1 := x_a.frozen 1
  have c_a_2_w1 := x_a.cell (i := 2) rfl
  have f_a_2_w1 := x_a.frozen 2
  have c_a_3_w1 := x_a.cell (i := 3) rfl
  have f_a_3_w1 := x_a.frozen 3
  have c_a_4_w1 := x_a.cell (i := 4) rfl
  have f_a_4_w1 := x_a.frozen 4
  have c_a_5_w1 := x_a.cell (i := 5) rfl
  have f_a_5_w1 := x_a.frozen 5
  have c_a_6_w1 := x_a.cell (i := 6) rfl
  have f_a_6_w1 := x_a.frozen 6
  have c_a_7_w1 := x_a.cell (i := 7) rfl
  have f_a_7_w1 := x_a.frozen 7
  have c_a_8_w1 := x_a.cell (i := 8) rfl
  have f_a_8_w1 := x_a.frozen 8
  have c_l_0_w1 := x_l.cell (i := 0) rfl
  have f_l_0_w1 := x_l.frozen 0
  have c_l_1_w1 := x_l.cell (i := 1) rfl
  have f_l_1_w1 := x_l.frozen 1
  go_wp2_with fail
  refine wp_loop_rounds 3 ?_
  rw [rounds_succ]
  clear c_a_0_w1 f_a_0_w1 c_a_1_w1 f_a_1_w1 c_a_2_w1 f_a_2_w1 c_a_3_w1 f_a_3_w1 c_a_4_w1 f_a_4_w1 c_a_5_w1 f_a_5_w1 c_a_6_w1 f_a_6_w1 c_a_7_w1 f_a_7_w1 c_a_8_w1 f_a_8_w1 c_l_0_w1 f_l_0_w1 c_l_1_w1 f_l_1_w1
  have c_a_0_w1 := x_a.cell (i := 0) rfl
  have f_a_0_w1 := x_a.frozen 0
  have c_a_1_w1 := x_a.cell (i := 1) rfl
  have f_a_1_w1 := x_a.frozen 1
  have c_a_2_w1 := x_a.cell (i := 2) rfl
  have f_a_2_w1 := x_a.frozen 2
  have c_a_3_w1 := x_a.cell (i := 3) rfl
  have f_a_3_w1 := x_a.frozen 3
  have c_a_4_w1 := x_a.cell (i := 4) rfl
  have f_a_4_w1 := x_a.frozen 4
  have c_a_5_w1 := x_a.cell (i := 5) rfl
  have f_a_5_w1 := x_a.frozen 5
  have c_a_6_w1 := x_a.cell (i := 6) rfl
  have f_a_6_w1 := x_a.frozen 6
  have c_a_7_w1 := x_a.cell (i := 7) rfl
  have f_a_7_w1 := x_a.frozen 7
  have c_a_8_w1 := x_a.cell (i := 8) rfl
  have f_a_8_w1 := x_a.frozen 8
  have c_l_0_w1 := x_l.cell (i := 0) rfl
  have f_l_0_w1 := x_l.frozen 0
  have c_l_1_w1 := x_l.cell (i := 1) rfl
  have f_l_1_w1 := x_l.frozen 1
  obtain ⟨w2, e_w2, s_w2, h_w2, y⟩ := set_step x_a 3 (.int .i64 0)
  have s_w2_1 := Nat.le_of_eq s_w2
  have s_w2_2 := Nat.le_of_eq s_w2.symm
  clear s_w2
  replace x_r := x_r.chg h_w2 (by omega)
  replace x_l := x_l.chg h_w2 (by omega)
  have B_w2 := Below.chg_ B_w1 h_w2 (by omega) (by omega)
  replace x_a : Vr w2 (w.heap.size) 26 [.int .i64 6, .int .i64 a, .int .i64 o, .int .i64 0, .int .i64 m, .int .i64 k1, .int .i64 k2, .int .i64 k3, .int .i64 k4] := y
  clear y
  have c_a_0_w2 := x_a.cell (i := 0) rfl
  have f_a_0_w2 := x_a.frozen 0
  have c_a_1_w2 := x_a.cell (i := 1) rfl
  have f_a_1_w2 := x_a.frozen 1
  have c_a_2_w2 := x_a.cell (i := 2) rfl
  have f_a_2_w2 := x_a.frozen 2
  have c_a_3_w2 := x_a.cell (i := 3) rfl
  have f_a_3_w2 := x_a.frozen 3
  have c_a_4_w2 := x_a.cell (i := 4) rfl
  have f_a_4_w2 := x_a.frozen 4
  have c_a_5_w2 := x_a.cell (i := 5) rfl
  have f_a_5_w2 := x_a.frozen 5
  have c_a_6_w2 := x_a.cell (i := 6) rfl
  have f_a_6_w2 := x_a.frozen 6
  have c_a_7_w2 := x_a.cell (i := 7) rfl
  have f_a_7_w2 := x_a.frozen 7
  have c_a_8_w2 := x_a.cell (i := 8) rfl
  have f_a_8_w2 := x_a.frozen 8
  have c_l_0_w2 := x_l.cell (i := 0) rfl
  have f_l_0_w2 := x_l.frozen 0
  have c_l_1_w2 := x_l.cell (i := 1) rfl
  have f_l_1_w2 := x_l.frozen 1
  go_wp2_with fail
  rw [rounds_succ]
  clear c_a_0_w1 f_a_0_w1 c_a_1_w1 f_a_1_w1 c_a_2_w1 f_a_2_w1 c_a_3_w1 f_a_3_w1 c_a_4_w1 f_a_4_w1 c_a_5_w1 f_a_5_w1 c_a_6_w1 f_a_6_w1 c_a_7_w1 f_a_7_w1 c_a_8_w1 f_a_8_w1 c_l_0_w1 f_l_0_w1 c_l_1_w1 f_l_1_w1 c_a_0_w2 f_a_0_w2 c_a_1_w2 f_a_1_w2 c_a_2_w2 f_a_2_w2 c_a_3_w2 f_a_3_w2 c_a_4_w2 f_a_4_w2 c_a_5_w2 f_a_5_w2 c_a_6_w2 f_a_6_w2 c_a_7_w2 f_a_7_w2 c_a_8_w2 f_a_8_w2 c_l_0_w2 f_l_0_w2 c_l_1_w2 f_l_1_w2
  have c_a_0_w2 := x_a.cell (i := 0) rfl
  have f_a_0_w2 := x_a.frozen 0
  have c_a_1_w2 := x_a.cell (i := 1) rfl
  have f_a_1_w2 := x_a.frozen 1
  have c_a_2_w2 := x_a.cell (i := 2) rfl
  have f_a_2_w2 := x_a.frozen 2
  have c_a_3_w2 := x_a.cell (i := 3) rfl
  have f_a_3_w2 := x_a.frozen 3
  have c_a_4_w2 := x_a.cell (i := 4) rfl
  have f_a_4_w2 := x_a.frozen 4
  have c_a_5_w2 := x_a.cell (i := 5) rfl
  have f_a_5_w2 := x_a.frozen 5
  have c_a_6_w2 := x_a.cell (i := 6) rfl
  have f_a_6_w2 := x_a.frozen 6
  have c_a_7_w2 := x_a.cell (i := 7) rfl
  have f_a_7_w2 := x_a.frozen 7
  have c_a_8_w2 := x_a.cell (i := 8) rfl
  have f_a_8_w2 := x_a.frozen 8
  have c_l_0_w2 := x_l.cell (i := 0) rfl
  have f_l_0_w2 := x_l.frozen 0
  have c_l_1_w2 := x_l.cell (i := 1) rfl
  have f_l_1_w2 := x_l.frozen 1
  obtain ⟨w3, e_w3, s_w3, h_w3, y⟩ := set_step x_a 4 (.int .i64 0)
  have s_w3_1 := Nat.le_of_eq s_w3
  have s_w3_2 := Nat.le_of_eq s_w3.symm
  clear s_w3
  replace x_r := x_r.chg h_w3 (by omega)
  replace x_l := x_l.chg h_w3 (by omega)
  have B_w3 := Below.chg_ B_w2 h_w3 (by omega) (by omega)
  replace x_a : Vr w3 (w.heap.size) 26 [.int .i64 6, .int .i64 a, .int .i64 o, .int .i64 0, .int .i64 0, .int .i64 k1, .int .i64 k2, .int .i64 k3, .int .i64 k4] := y
  clear y
  have c_a_0_w3 := x_a.cell (i := 0) rfl
  have f_a_0_w3 := x_a.frozen 0
  have c_a_1_w3 := x_a.cell (i := 1) rfl
  have f_a_1_w3 := x_a.frozen 1
  have c_a_2_w3 := x_a.cell (i := 2) rfl
  have f_a_2_w3 := x_a.frozen 2
  have c_a_3_w3 := x_a.cell (i := 3) rfl
  have f_a_3_w3 := x_a.frozen 3
  have c_a_4_w3 := x_a.cell (i := 4) rfl
  have f_a_4_w3 := x_a.frozen 4
  have c_a_5_w3 := x_a.cell (i := 5) rfl
  have f_a_5_w3 := x_a.frozen 5
  have c_a_6_w3 := x_a.cell (i := 6) rfl
  have f_a_6_w3 := x_a.frozen 6
  have c_a_7_w3 := x_a.cell (i := 7) rfl
  have f_a_7_w3 := x_a.frozen 7
  have c_a_8_w3 := x_a.cell (i := 8) rfl
  have f_a_8_w3 := x_a.frozen 8
  have c_l_0_w3 := x_l.cell (i := 0) rfl
  have f_l_0_w3 := x_l.frozen 0
  have c_l_1_w3 := x_l.cell (i := 1) rfl
  have f_l_1_w3 := x_l.frozen 1
  go_wp2_with fail
  rw [rounds_succ]
  clear c_a_0_w2 f_a_0_w2 c_a_1_w2 f_a_1_w2 c_a_2_w2 f_a_2_w2 c_a_3_w2 f_a_3_w2 c_a_4_w2 f_a_4_w2 c_a_5_w2 f_a_5_w2 c_a_6_w2 f_a_6_w2 c_a_7_w2 f_a_7_w2 c_a_8_w2 f_a_8_w2 c_l_0_w2 f_l_0_w2 c_l_1_w2 f_l_1_w2 c_a_0_w3 f_a_0_w3 c_a_1_w3 f_a_1_w3 c_a_2_w3 f_a_2_w3 c_a_3_w3 f_a_3_w3 c_a_4_w3 f_a_4_w3 c_a_5_w3 f_a_5_w3 c_a_6_w3 f_a_6_w3 c_a_7_w3 f_a_7_w3 c_a_8_w3 f_a_8_w3 c_l_0_w3 f_l_0_w3 c_l_1_w3 f_l_1_w3
  have c_a_0_w3 := x_a.cell (i := 0) rfl
  have f_a_0_w3 := x_a.frozen 0
  have c_a_1_w3 := x_a.cell (i := 1) rfl
  have f_a_1_w3 := x_a.frozen 1
  have c_a_2_w3 := x_a.cell (i := 2) rfl
  have f_a_2_w3 := x_a.frozen 2
  have c_a_3_w3 := x_a.cell (i := 3) rfl
  have f_a_3_w3 := x_a.frozen 3
  have c_a_4_w3 := x_a.cell (i := 4) rfl
  have f_a_4_w3 := x_a.frozen 4
  have c_a_5_w3 := x_a.cell (i := 5) rfl
  have f_a_5_w3 := x_a.frozen 5
  have c_a_6_w3 := x_a.cell (i := 6) rfl
  have f_a_6_w3 := x_a.frozen 6
  have c_a_7_w3 := x_a.cell (i := 7) rfl
  have f_a_7_w3 := x_a.frozen 7
  have c_a_8_w3 := x_a.cell (i := 8) rfl
  have f_a_8_w3 := x_a.frozen 8
  obtain ⟨w4, e_w4, s_w4, h_w4, y⟩ := set_step x_a 0 (.int .i64 0)
  have s_w4_1 := Nat.le_of_eq s_w4
  have s_w4_2 := Nat.le_of_eq s_w4.symm
  clear s_w4
  replace x_r := x_r.chg h_w4 (by omega)
  replace x_l := x_l.chg h_w4 (by omega)
  have B_w4 := Below.chg_ B_w3 h_w4 (by omega) (by omega)
  replace x_a : Vr w4 (w.heap.size) 26 [.int .i64 0, .int .i64 a, .int .i64 o, .int .i64 0, .int .i64 0, .int .i64 k1, .int .i64 k2, .int .i64 k3, .int .i64 k4] := y
  clear y
  have c_a_0_w4 := x_a.cell (i := 0) rfl
  have f_a_0_w4 := x_a.frozen 0
  have c_a_1_w4 := x_a.cell (i := 1) rfl
  have f_a_1_w4 := x_a.frozen 1
  have c_a_2_w4 := x_a.cell (i := 2) rfl
  have f_a_2_w4 := x_a.frozen 2
  have c_a_3_w4 := x_a.cell (i := 3) rfl
  have f_a_3_w4 := x_a.frozen 3
  have c_a_4_w4 := x_a.cell (i := 4) rfl
  have f_a_4_w4 := x_a.frozen 4
  have c_a_5_w4 := x_a.cell (i := 5) rfl
  have f_a_5_w4 := x_a.frozen 5
  have c_a_6_w4 := x_a.cell (i := 6) rfl
  have f_a_6_w4 := x_a.frozen 6
  have c_a_7_w4 := x_a.cell (i := 7) rfl
  have f_a_7_w4 := x_a.frozen 7
  have c_a_8_w4 := x_a.cell (i := 8) rfl
  have f_a_8_w4 := x_a.frozen 8
  have c_r_0_w4 := x_r.cell (i := 0) rfl
  have f_r_0_w4 := x_r.frozen 0
  have c_r_1_w4 := x_r.cell (i := 1) rfl
  have f_r_1_w4 := x_r.frozen 1
  have c_r_2_w4 := x_r.cell (i := 2) rfl
  have f_r_2_w4 := x_r.frozen 2
  have c_r_3_w4 := x_r.cell (i := 3) rfl
  have f_r_3_w4 := x_r.frozen 3
  have c_r_4_w4 := x_r.cell (i := 4) rfl
  have f_r_4_w4 := x_r.frozen 4
  have c_r_5_w4 := x_r.cell (i := 5) rfl
  have f_r_5_w4 := x_r.frozen 5
  have c_r_6_w4 := x_r.cell (i := 6) rfl
  have f_r_6_w4 := x_r.frozen 6
  have c_r_7_w4 := x_r.cell (i := 7) rfl
  have f_r_7_w4 := x_r.frozen 7
  have c_r_8_w4 := x_r.cell (i := 8) rfl
  have f_r_8_w4 := x_r.frozen 8
  obtain ⟨w5, e_w5, s_w5, h_w5, y⟩ := store_step x_r [.int .i64 0, .int .i64 a, .int .i64 o, .int .i64 0, .int .i64 0, .int .i64 k1, .int .i64 k2, .int .i64 k3, .int .i64 k4] rfl
  replace e_w5 : (((((((((w4.setCell ⟨w.heap.size + 1, 0, none⟩ (.int .i64 0)).setCell ⟨w.heap.size + 1, 1, none⟩ (.int .i64 a)).setCell ⟨w.heap.size + 1, 2, none⟩ (.int .i64 o)).setCell ⟨w.heap.size + 1, 3, none⟩ (.int .i64 0)).setCell ⟨w.heap.size + 1, 4, none⟩ (.int .i64 0)).setCell ⟨w.heap.size + 1, 5, none⟩ (.int .i64 k1)).setCell ⟨w.heap.size + 1, 6, none⟩ (.int .i64 k2)).setCell ⟨w.heap.size + 1, 7, none⟩ (.int .i64 k3)).setCell ⟨w.heap.size + 1, 8, none⟩ (.int .i64 k4)) = w5 := e_w5
  have s_w5_1 := Nat.le_of_eq s_w5
  have s_w5_2 := Nat.le_of_eq s_w5.symm
  clear s_w5
  replace x_a := x_a.chg h_w5 (by omega)
  replace x_l := x_l.chg h_w5 (by omega)
  have B_w5 := Below.chg_ B_w4 h_w5 (by omega) (by omega)
  replace x_r : Vr w5 (w.heap.size + 1) 26 [.int .i64 0, .int .i64 a, .int .i64 o, .int .i64 0, .int .i64 0, .int .i64 k1, .int .i64 k2, .int .i64 k3, .int .i64 k4] := y
  clear y
  go_wp2
  refine ret_cell (by rfl) (by rfl) x_r Tryd.underlying26 sz_rec (by rfl) ?_
  exact ⟨rfl, B_w5⟩
set_option maxRecDepth 100000 in
set_option maxHeartbeats 4000000 in
theorem iUnused_7 (w : World) (a o t m k1 k2 k3 k4 : Int) : Calls Tryd.prog 36 #[.agg #[.int .i64 7, .int .i64 a, .int .i64 o, .int .i64 t, .int .i64 m, .int .i64 k1, .int .i64 k2, .int .i64 k3, .int .i64 k4]] w fun e w' => e = .returned (.agg #[.int .i64 0, .int .i64 0, .int .i64 o, .int .i64 t, .int .i64 0, .int .i64 k1, .int .i64 k2, .int .i64 k3, .int .i64 k4]) ∧ Below w.heap.size w w' := by
  obtain ⟨wa, hwa, B0, sa, x_a, x_r⟩ := frame2 w 26 [.int .i64 7, .int .i64 a, .int .i64 o, .int .i64 t, .int .i64 m, .int .i64 k1, .int .i64 k2, .int .i64 k3, .int .i64 k4] 26 [.int .i64 0, .int .i64 0, .int .i64 0, .int .i64 0, .int .i64 0, .int .i64 0, .int .i64 0, .int .i64 0, .int .i64 0]
  have sa_1 := Nat.le_of_eq sa
  have sa_2 := Nat.le_of_eq sa.symm
  clear sa
  go_enter Tryd.func36, Tryd.ntmps36
  go_wp2_with fail
  refine (iUsed_7 x_a rfl).mono ?_
  rintro e w1 ⟨B, T, rfl, x_l, hB, h_w1⟩
  replace x_a := x_a.from_ h_w1
  replace x_r := x_r.from_ h_w1
  have B_w1 := B0.trans (h_w1.mono B0.size)
  have s_w1 := h_w1.size
  have ltB := x_l.lt
  have c_a_0_w1 := x_a.cell (i := 0) rfl
  have f_a_0_w1 := x_a.frozen 0
  have c_a_1_w1 := x_a.cell (i := 1) rfl
  have f_a_1_w1 := x_a.frozen 1
  have c_a_2_w1 := x_a.cell (i := 2) rfl
  have f_a_2_w1 := x_a.frozen 2
  have c_a_3_w1 := x_a.cell (i := 3) rfl
  have f_a_3_w1 := x_a.frozen 3
  have c_a_4_w1 := x_a.cell (i := 4) rfl
  have f_a_4_w1 := x_a.frozen 4
  have c_a_5_w1 := x_a.cell (i := 5) rfl
  have f_a_5_w1 := x_a.frozen 5
  have c_a_6_w1 := x_a.cell (i := 6) rfl
  have f_a_6_w1 := x_a.frozen 6
  have c_a_7_w1 := x_a.cell (i := 7) rfl
  have f_a_7_w1 := x_a.frozen 7
  have c_a_8_w1 := x_a.cell (i := 8) rfl
  have f_a_8_w1 := x_a.frozen 8
  have c_l_0_w1 := x_l.cell (i := 0) rfl
  have f_l_0_w1 := x_l.frozen 0
  have c_l_1_w1 := x_l.cell (i := 1) rfl
  have f_l_1_w1 := x_l.frozen 1
  go_wp2_with fail
  refine wp_loop_rounds 3 ?_
  rw [rounds_succ]
  clear c_a_0_w1 f_a_0_w1 c_a_1_w1 f_a_1_w1 c_a_2_w1 f_a_2_w1 c_a_3_w1 f_a_3_w1 c_a_4_w1 f_a_4_w1 c_a_5_w1 f_a_5_w1 c_a_6_w1 f_a_6_w1 c_a_7_w1 f_a_7_w1 c_a_8_w1 f_a_8_w1 c_l_0_w1 f_l_0_w1 c_l_1_w1 f_l_1_w1
  have c_a_0_w1 := x_a.cell (i := 0) rfl
  have f_a_0_w1 := x_a.frozen 0
  have c_a_1_w1 := x_a.cell (i := 1) rfl
  have f_a_1_w1 := x_a.frozen 1
  have c_a_2_w1 := x_a.cell (i := 2) rfl
  have f_a_2_w1 := x_a.frozen 2
  have c_a_3_w1 := x_a.cell (i := 3) rfl
  have f_a_3_w1 := x_a.frozen 3
  have c_a_4_w1 := x_a.cell (i := 4) rfl
  have f_a_4_w1 := x_a.frozen 4
  have c_a_5_w1 := x_a.cell (i := 5) rfl
  have f_a_5_w1 := x_a.frozen 5
  have c_a_6_w1 := x_a.cell (i := 6) rfl
  have f_a_6_w1 := x_a.frozen 6
  have c_a_7_w1 := x_a.cell (i := 7) rfl
  have f_a_7_w1 := x_a.frozen 7
  have c_a_8_w1 := x_a.cell (i := 8) rfl
  have f_a_8_w1 := x_a.frozen 8
  have c_l_0_w1 := x_l.cell (i := 0) rfl
  have f_l_0_w1 := x_l.frozen 0
  have c_l_1_w1 := x_l.cell (i := 1) rfl
  have f_l_1_w1 := x_l.frozen 1
  obtain ⟨w2, e_w2, s_w2, h_w2, y⟩ := set_step x_a 1 (.int .i64 0)
  have s_w2_1 := Nat.le_of_eq s_w2
  have s_w2_2 := Nat.le_of_eq s_w2.symm
  clear s_w2
  replace x_r := x_r.chg h_w2 (by omega)
  replace x_l := x_l.chg h_w2 (by omega)
  have B_w2 := Below.chg_ B_w1 h_w2 (by omega) (by omega)
  replace x_a : Vr w2 (w.heap.size) 26 [.int .i64 7, .int .i64 0, .int .i64 o, .int .i64 t, .int .i64 m, .int .i64 k1, .int .i64 k2, .int .i64 k3, .int .i64 k4] := y
  clear y
  have c_a_0_w2 := x_a.cell (i := 0) rfl
  have f_a_0_w2 := x_a.frozen 0
  have c_a_1_w2 := x_a.cell (i := 1) rfl
  have f_a_1_w2 := x_a.frozen 1
  have c_a_2_w2 := x_a.cell (i := 2) rfl
  have f_a_2_w2 := x_a.frozen 2
  have c_a_3_w2 := x_a.cell (i := 3) rfl
  have f_a_3_w2 := x_a.frozen 3
  have c_a_4_w2 := x_a.cell (i := 4) rfl
  have f_a_4_w2 := x_a.frozen 4
  have c_a_5_w2 := x_a.cell (i := 5) rfl
  have f_a_5_w2 := x_a.frozen 5
  have c_a_6_w2 := x_a.cell (i := 6) rfl
  have f_a_6_w2 := x_a.frozen 6
  have c_a_7_w2 := x_a.cell (i := 7) rfl
  have f_a_7_w2 := x_a.frozen 7
  have c_a_8_w2 := x_a.cell (i := 8) rfl
  have f_a_8_w2 := x_a.frozen 8
  have c_l_0_w2 := x_l.cell (i := 0) rfl
  have f_l_0_w2 := x_l.frozen 0
  have c_l_1_w2 := x_l.cell (i := 1) rfl
  have f_l_1_w2 := x_l.frozen 1
  go_wp2_with fail
  rw [rounds_succ]
  clear c_a_0_w1 f_a_0_w1 c_a_1_w1 f_a_1_w1 c_a_2_w1 f_a_2_w1 c_a_3_w1 f_a_3_w1 c_a_4_w1 f_a_4_w1 c_a_5_w1 f_a_5_w1 c_a_6_w1 f_a_6_w1 c_a_7_w1 f_a_7_w1 c_a_8_w1 f_a_8_w1 c_l_0_w1 f_l_0_w1 c_l_1_w1 f_l_1_w1 c_a_0_w2 f_a_0_w2 c_a_1_w2 f_a_1_w2 c_a_2_w2 f_a_2_w2 c_a_3_w2 f_a_3_w2 c_a_4_w2 f_a_4_w2 c_a_5_w2 f_a_5_w2 c_a_6_w2 f_a_6_w2 c_a_7_w2 f_a_7_w2 c_a_8_w2 f_a_8_w2 c_l_0_w2 f_l_0_w2 c_l_1_w2 f_l_1_w2
  have c_a_0_w2 := x_a.cell (i := 0) rfl
  have f_a_0_w2 := x_a.frozen 0
  have c_a_1_w2 := x_a.cell (i := 1) rfl
  have f_a_1_w2 := x_a.frozen 1
  have c_a_2_w2 := x_a.cell (i := 2) rfl
  have f_a_2_w2 := x_a.frozen 2
  have c_a_3_w2 := x_a.cell (i := 3) rfl
  have f_a_3_w2 := x_a.frozen 3
  have c_a_4_w2 := x_a.cell (i := 4) rfl
  have f_a_4_w2 := x_a.frozen 4
  have c_a_5_w2 := x_a.cell (i := 5) rfl
  have f_a_5_w2 := x_a.frozen 5
  have c_a_6_w2 := x_a.cell (i := 6) rfl
  have f_a_6_w2 := x_a.frozen 6
  have c_a_7_w2 := x_a.cell (i := 7) rfl
  have f_a_7_w2 := x_a.frozen 7
  have c_a_8_w2 := x_a.cell (i := 8) rfl
  have f_a_8_w2 := x_a.frozen 8
  have c_l_0_w2 := x_l.cell (i := 0) rfl
  have f_l_0_w2 := x_l.frozen 0
  have c_l_1_w2 := x_l.cell (i := 1) rfl
  have f_l_1_w2 := x_l.frozen 1
  obtain ⟨w3, e_w3, s_w3, h_w3, y⟩ := set_step x_a 4 (.int .i64 0)
  have s_w3_1 := Nat.le_of_eq s_w3
  have s_w3_2 := Nat.le_of_eq s_w3.symm
  clear s_w3
  replace x_r := x_r.chg h_w3 (by omega)
  replace x_l := x_l.chg h_w3 (by omega)
  have B_w3 := Below.chg_ B_w2 h_w3 (by omega) (by omega)
  replace x_a : Vr w3 (w.heap.size) 26 [.int .i64 7, .int .i64 0, .int .i64 o, .int .i64 t, .int .i64 0, .int .i64 k1, .int .i64 k2, .int .i64 k3, .int .i64 k4] := y
  clear y
  have c_a_0_w3 := x_a.cell (i := 0) rfl
  have f_a_0_w3 := x_a.frozen 0
  have c_a_1_w3 := x_a.cell (i := 1) rfl
  have f_a_1_w3 := x_a.frozen 1
  have c_a_2_w3 := x_a.cell (i := 2) rfl
  have f_a_2_w3 := x_a.frozen 2
  have c_a_3_w3 := x_a.cell (i := 3) rfl
  have f_a_3_w3 := x_a.frozen 3
  have c_a_4_w3 := x_a.cell (i := 4) rfl
  have f_a_4_w3 := x_a.frozen 4
  have c_a_5_w3 := x_a.cell (i := 5) rfl
  have f_a_5_w3 := x_a.frozen 5
  have c_a_6_w3 := x_a.cell (i := 6) rfl
  have f_a_6_w3 := x_a.frozen 6
  have c_a_7_w3 := x_a.cell (i := 7) rfl
  have f_a_7_w3 := x_a.frozen 7
  have c_a_8_w3 := x_a.cell (i := 8) rfl
  have f_a_8_w3 := x_a.frozen 8
  have c_l_0_w3 := x_l.cell (i := 0) rfl
  have f_l_0_w3 := x_l.frozen 0
  have c_l_1_w3 := x_l.cell (i := 1) rfl
  have f_l_1_w3 := x_l.frozen 1
  go_wp2_with fail
  rw [rounds_succ]
  clear c_a_0_w2 f_a_0_w2 c_a_1_w2 f_a_1_w2 c_a_2_w2 f_a_2_w2 c_a_3_w2 f_a_3_w2 c_a_4_w2 f_a_4_w2 c_a_5_w2 f_a_5_w2 c_a_6_w2 f_a_6_w2 c_a_7_w2 f_a_7_w2 c_a_8_w2 f_a_8_w2 c_l_0_w2 f_l_0_w2 c_l_1_w2 f_l_1_w2 c_a_0_w3 f_a_0_w3 c_a_1_w3 f_a_1_w3 c_a_2_w3 f_a_2_w3 c_a_3_w3 f_a_3_w3 c_a_4_w3 f_a_4_w3 c_a_5_w3 f_a_5_w3 c_a_6_w3 f_a_6_w3 c_a_7_w3 f_a_7_w3 c_a_8_w3 f_a_8_w3 c_l_0_w3 f_l_0_w3 c_l_1_w3 f_l_1_w3
  have c_a_0_w3 := x_a.cell (i := 0) rfl
  have f_a_0_w3 := x_a.frozen 0
  have c_a_1_w3 := x_a.cell (i := 1) rfl
  have f_a_1_w3 := x_a.frozen 1
  have c_a_2_w3 := x_a.cell (i := 2) rfl
  have f_a_2_w3 := x_a.frozen 2
  have c_a_3_w3 := x_a.cell (i := 3) rfl
  have f_a_3_w3 := x_a.frozen 3
  have c_a_4_w3 := x_a.cell (i := 4) rfl
  have f_a_4_w3 := x_a.frozen 4
  have c_a_5_w3 := x_a.cell (i := 5) rfl
  have f_a_5_w3 := x_a.frozen 5
  have c_a_6_w3 := x_a.cell (i := 6) rfl
  have f_a_6_w3 := x_a.frozen 6
  have c_a_7_w3 := x_a.cell (i := 7) rfl
  have f_a_7_w3 := x_a.frozen 7
  have c_a_8_w3 := x_a.cell (i := 8) rfl
  have f_a_8_w3 := x_a.frozen 8
  obtain ⟨w4, e_w4, s_w4, h_w4, y⟩ := set_step x_a 0 (.int .i64 0)
  have s_w4_1 := Nat.le_of_eq s_w4
  have s_w4_2 := Nat.le_of_eq s_w4.symm
  clear s_w4
  replace x_r := x_r.chg h_w4 (by omega)
  replace x_l := x_l.chg h_w4 (by omega)
  have B_w4 := Below.chg_ B_w3 h_w4 (by omega) (by omega)
  replace x_a : Vr w4 (w.heap.size) 26 [.int .i64 0, .int .i64 0, .int .i64 o, .int .i64 t, .int .i64 0, .int .i64 k1, .int .i64 k2, .int .i64 k3, .int .i64 k4] := y
  clear y
  have c_a_0_w4 := x_a.cell (i := 0) rfl
  have f_a_0_w4 := x_a.frozen 0
  have c_a_1_w4 := x_a.cell (i := 1) rfl
  have f_a_1_w4 := x_a.frozen 1
  have c_a_2_w4 := x_a.cell (i := 2) rfl
  have f_a_2_w4 := x_a.frozen 2
  have c_a_3_w4 := x_a.cell (i := 3) rfl
  have f_a_3_w4 := x_a.frozen 3
  have c_a_4_w4 := x_a.cell (i := 4) rfl
  have f_a_4_w4 := x_a.frozen 4
  have c_a_5_w4 := x_a.cell (i := 5) rfl
  have f_a_5_w4 := x_a.frozen 5
  have c_a_6_w4 := x_a.cell (i := 6) rfl
  have f_a_6_w4 := x_a.frozen 6
  have c_a_7_w4 := x_a.cell (i := 7) rfl
  have f_a_7_w4 := x_a.frozen 7
  have c_a_8_w4 := x_a.cell (i := 8) rfl
  have f_a_8_w4 := x_a.frozen 8
  have c_r_0_w4 := x_r.cell (i := 0) rfl
  have f_r_0_w4 := x_r.frozen 0
  have c_r_1_w4 := x_r.cell (i := 1) rfl
  have f_r_1_w4 := x_r.frozen 1
  have c_r_2_w4 := x_r.cell (i := 2) rfl
  have f_r_2_w4 := x_r.frozen 2
  have c_r_3_w4 := x_r.cell (i := 3) rfl
  have f_r_3_w4 := x_r.frozen 3
  have c_r_4_w4 := x_r.cell (i := 4) rfl
  have f_r_4_w4 := x_r.frozen 4
  have c_r_5_w4 := x_r.cell (i := 5) rfl
  have f_r_5_w4 := x_r.frozen 5
  have c_r_6_w4 := x_r.cell (i := 6) rfl
  have f_r_6_w4 := x_r.frozen 6
  have c_r_7_w4 := x_r.cell (i := 7) rfl
  have f_r_7_w4 := x_r.frozen 7
  have c_r_8_w4 := x_r.cell (i := 8) rfl
  have f_r_8_w4 := x_r.frozen 8
  obtain ⟨w5, e_w5, s_w5, h_w5, y⟩ := store_step x_r [.int .i64 0, .int .i64 0, .int .i64 o, .int .i64 t, .int .i64 0, .int .i64 k1, .int .i64 k2, .int .i64 k3, .int .i64 k4] rfl
  replace e_w5 : (((((((((w4.setCell ⟨w.heap.size + 1, 0, none⟩ (.int .i64 0)).setCell ⟨w.heap.size + 1, 1, none⟩ (.int .i64 0)).setCell ⟨w.heap.size + 1, 2, none⟩ (.int .i64 o)).setCell ⟨w.heap.size + 1, 3, none⟩ (.int .i64 t)).setCell ⟨w.heap.size + 1, 4, none⟩ (.int .i64 0)).setCell ⟨w.heap.size + 1, 5, none⟩ (.int .i64 k1)).setCell ⟨w.heap.size + 1, 6, none⟩ (.int .i64 k2)).setCell ⟨w.heap.size + 1, 7, none⟩ (.int .i64 k3)).setCell ⟨w.heap.size + 1, 8, none⟩ (.int .i64 k4)) = w5 := e_w5
  have s_w5_1 := Nat.le_of_eq s_w5
  have s_w5_2 := Nat.le_of_eq s_w5.symm
  clear s_w5
  replace x_a := x_a.chg h_w5 (by omega)
  replace x_l := x_l.chg h_w5 (by omega)
  have B_w5 := Below.chg_ B_w4 h_w5 (by omega) (by omega)
  replace x_r : Vr w5 (w.heap.size + 1) 26 [.int .i64 0, .int .i64 0, .int .i64 o, .int .i64 t, .int .i64 0, .int .i64 k1, .int .i64 k2, .int .i64 k3, .int .i64 k4] := y
  clear y
  go_wp2
  refine ret_cell (by rfl) (by rfl) x_r Tryd.underlying26 sz_rec (by rfl) ?_
  exact ⟨rfl, B_w5⟩
set_option maxRecDepth 100000 in
set_option maxHeartbeats 4000000 in
theorem iUnused_8 (w : World) (a o t m k1 k2 k3 k4 : Int) : Calls Tryd.prog 36 #[.agg #[.int .i64 8, .int .i64 a, .int .i64 o, .int .i64 t, .int .i64 m, .int .i64 k1, .int .i64 k2, .int .i64 k3, .int .i64 k4]] w fun e w' => e = .returned (.agg #[.int .i64 0, .int .i64 0, .int .i64 o, .int .i64 0, .int .i64 0, .int .i64 k1, .int .i64 k2, .int .i64 k3, .int .i64 k4]) ∧ Below w.heap.size w w' := by
  obtain ⟨wa, hwa, B0, sa, x_a, x_r⟩ := frame2 w 26 [.int .i64 8, .int .i64 a, .int .i64 o, .int .i64 t, .int .i64 m, .int .i64 k1, .int .i64 k2, .int .i64 k3, .int .i64 k4] 26 [.int .i64 0, .int .i64 0, .int .i64 0, .int .i64 0, .int .i64 0, .int .i64 0, .int .i64 0, .int .i64 0, .int .i64 0]
  have sa_1 := Nat.le_of_eq sa
  have sa_2 := Nat.le_of_eq sa.symm
  clear sa
  go_enter Tryd.func36, Tryd.ntmps36
  go_wp2_with fail
  refine (iUsed_8 x_a rfl).mono ?_
  rintro e w1 ⟨B, T, rfl, x_l, hB, h_w1⟩
  replace x_a := x_a.from_ h_w1
  replace x_r := x_r.from_ h_w1
  have B_w1 := B0.trans (h_w1.mono B0.size)
  have s_w1 := h_w1.size
  have ltB := x_l.lt
  have c_a_0_w1 := x_a.cell (i := 0) rfl
  have f_a_0_w1 := x_a.frozen 0
  have c_a_1_w1 := x_a.cell (i := 1) rfl
  have f_a_1_w1 := x_a.frozen 1
  have c_a_2_w1 := x_a.cell (i := 2) rfl
  have f_a_2_w1 := x_a.frozen 2
  have c_a_3_w1 := x_a.cell (i := 3) rfl
  have f_a_3_w1 := x_a.frozen 3
  have c_a_4_w1 := x_a.cell (i := 4) rfl
  have f_a_4_w1 := x_a.frozen 4
  have c_a_5_w1 := x_a.cell (i := 5) rfl
  have f_a_5_w1 := x_a.frozen 5
  have c_a_6_w1 := x_a.cell (i := 6) rfl
  have f_a_6_w1 := x_a.frozen 6
  have c_a_7_w1 := x_a.cell (i := 7) rfl
  have f_a_7_w1 := x_a.frozen 7
  have c_a_8_w1 := x_a.cell (i := 8) rfl
  have f_a_8_w1 := x_a.frozen 8
  have c_l_0_w1 := x_l.cell (i := 0) rfl
  have f_l_0_w1 := x_l.frozen 0
  have c_l_1_w1 := x_l.cell (i := 1) rfl
  have f_l_1_w1 := x_l.frozen 1
  have c_l_2_w1 := x_l.cell (i := 2) rfl
  have f_l_2_w1 := x_l.frozen 2
  go_wp2_with fail
  refine wp_loop_rounds 4 ?_
  rw [rounds_succ]
  clear c_a_0_w1 f_a_0_w1 c_a_1_w1 f_a_1_w1 c_a_2_w1 f_a_2_w1 c_a_3_w1 f_a_3_w1 c_a_4_w1 f_a_4_w1 c_a_5_w1 f_a_5_w1 c_a_6_w1 f_a_6_w1 c_a_7_w1 f_a_7_w1 c_a_8_w1 f_a_8_w1 c_l_0_w1 f_l_0_w1 c_l_1_w1 f_l_1_w1 c_l_2_w1 f_l_2_w1
  have c_a_0_w1 := x_a.cell (i := 0) rfl
  have f_a_0_w1 := x_a.frozen 0
  have c_a_1_w1 := x_a.cell (i := 1) rfl
  have f_a_1_w1 := x_a.frozen 1
  have c_a_2_w1 := x_a.cell (i := 2) rfl
  have f_a_2_w1 := x_a.frozen 2
  have c_a_3_w1 := x_a.cell (i := 3) rfl
  have f_a_3_w1 := x_a.frozen 3
  have c_a_4_w1 := x_a.cell (i := 4) rfl
  have f_a_4_w1 := x_a.frozen 4
  have c_a_5_w1 := x_a.cell (i := 5) rfl
  have f_a_5_w1 := x_a.frozen 5
  have c_a_6_w1 := x_a.cell (i := 6) rfl
  have f_a_6_w1 := x_a.frozen 6
  have c_a_7_w1 := x_a.cell (i := 7) rfl
  have f_a_7_w1 := x_a.frozen 7
  have c_a_8_w1 := x_a.cell (i := 8) rfl
  have f_a_8_w1 := x_a.frozen 8
  have c_l_0_w1 := x_l.cell (i := 0) rfl
  have f_l_0_w1 := x_l.frozen 0
  have c_l_1_w1 := x_l.cell (i := 1) rfl
  have f_l_1_w1 := x_l.frozen 1
  have c_l_2_w1 := x_l.cell (i := 2) rfl
  have f_l_2_w1 := x_l.frozen 2
  obtain ⟨w2, e_w2, s_w2, h_w2, y⟩ := set_step x_a 1 (.int .i64 0)
  have s_w2_1 := Nat.le_of_eq s_w2
  have s_w2_2 := Nat.le_of_eq s_w2.symm
  clear s_w2
  replace x_r := x_r.chg h_w2 (by omega)
  replace x_l := x_l.chg h_w2 (by omega)
  have B_w2 := Below.chg_ B_w1 h_w2 (by omega) (by omega)
  replace x_a : Vr w2 (w.heap.size) 26 [.int .i64 8, .int .i64 0, .int .i64 o, .int .i64 t, .int .i64 m, .int .i64 k1, .int .i64 k2, .int .i64 k3, .int .i64 k4] := y
  clear y
  have c_a_0_w2 := x_a.cell (i := 0) rfl
  have f_a_0_w2 := x_a.frozen 0
  have c_a_1_w2 := x_a.cell (i := 1) rfl
  have f_a_1_w2 := x_a.frozen 1
  have c_a_2_w2 := x_a.cell (i := 2) rfl
  have f_a_2_w2 := x_a.frozen 2
  have c_a_3_w2 := x_a.cell (i := 3) rfl
  have f_a_3_w2 := x_a.frozen 3
  have c_a_4_w2 := x_a.cell (i := 4) rfl
  have f_a_4_w2 := x_a.frozen 4
  have c_a_5_w2 := x_a.cell (i := 5) rfl
  have f_a_5_w2 := x_a.frozen 5
  have c_a_6_w2 := x_a.cell (i := 6) rfl
  have f_a_6_w2 := x_a.frozen 6
  have c_a_7_w2 := x_a.cell (i := 7) rfl
  have f_a_7_w2 := x_a.frozen 7
  have c_a_8_w2 := x_a.cell (i := 8) rfl
  have f_a_8_w2 := x_a.frozen 8
  have c_l_0_w2 := x_l.cell (i := 0) rfl
  have f_l_0_w2 := x_l.frozen 0
  have c_l_1_w2 := x_l.cell (i := 1) rfl
  have f_l_1_w2 := x_l.frozen 1
  have c_l_2_w2 := x_l.cell (i := 2) rfl
  have f_l_2_w2 := x_l.frozen 2
  go_wp2_with fail
  rw [rounds_succ]
  clear c_a_0_w1 f_a_0_w1 c_a_1_w1 f_a_1_w1 c_a_2_w1 f_a_2_w1 c_a_3_w1 f_a_3_w1 c_a_4_w1 f_a_4_w1 c_a_5_w1 f_a_5_w1 c_a_6_w1 f_a_6_w1 c_a_7_w1 f_a_7_w1 c_a_8_w1 f_a_8_w1 c_l_0_w1 f_l_0_w1 c_l_1_w1 f_l_1_w1 c_l_2_w1 f_l_2_w1 c_a_0_w2 f_a_0_w2 c_a_1_w2 f_a_1_w2 c_a_2_w2 f_a_2_w2 c_a_3_w2 f_a_3_w2 c_a_4_w2 f_a_4_w2 c_a_5_w2 f_a_5_w2 c_a_6_w2 f_a_6_w2 c_a_7_w2 f_a_7_w2 c_a_8_w2 f_a_8_w2 c_l_0_w2 f_l_0_w2 c_l_1_w2 f_l_1_w2 c_l_2_w2 f_l_2_w2
  have c_a_0_w2 := x_a.cell (i := 0) rfl
  have f_a_0_w2 := x_a.frozen 0
  have c_a_1_w2 := x_a.cell (i := 1) rfl
  have f_a_1_w2 := x_a.frozen 1
  have c_a_2_w2 := x_a.cell (i := 2) rfl
  have f_a_2_w2 := x_a.frozen 2
  have c_a_3_w2 := x_a.cell (i := 3) rfl
  have f_a_3_w2 := x_a.frozen 3
  have c_a_4_w2 := x_a.cell (i := 4) rfl
  have f_a_4_w2 := x_a.frozen 4
  have c_a_5_w2 := x_a.cell (i := 5) rfl
  have f_a_5_w2 := x_a.frozen 5
  have c_a_6_w2 := x_a.cell (i := 6) rfl
  have f_a_6_w2 := x_a.frozen 6
  have c_a_7_w2 := x_a.cell (i := 7) rfl
  have f_a_7_w2 := x_a.frozen 7
  have c_a_8_w2 := x_a.cell (i := 8) rfl
  have f_a_8_w2 := x_a.frozen 8
  have c_l_0_w2 := x_l.cell (i := 0) rfl
  have f_l_0_w2 := x_l.frozen 0
  have c_l_1_w2 := x_l.cell (i := 1) rfl
  have f_l_1_w2 := x_l.frozen 1
  have c_l_2_w2 := x_l.cell (i := 2) rfl
  have f_l_2_w2 := x_l.frozen 2
  obtain ⟨w3, e_w3, s_w3, h_w3, y⟩ := set_step x_a 3 (.int .i64 0)
  have s_w3_1 := Nat.le_of_eq s_w3
  have s_w3_2 := Nat.le_of_eq s_w3.symm
  clear s_w3
  replace x_r := x_r.chg h_w3 (by omega)
  replace x_l := x_l.chg h_w3 (by omega)
  have B_w3 := Below.chg_ B_w2 h_w3 (by omega) (by omega)
  replace x_a : Vr w3 (w.heap.size) 26 [.int .i64 8, .int .i64 0, .int .i64 o, .int .i64 0, .int .i64 m, .int .i64 k1, .int .i64 k2, .int .i64 k3, .int .i64 k4] := y
  clear y
  have c_a_0_w3 := x_a.cell (i := 0) rfl
  have f_a_0_w3 := x_a.frozen 0
  have c_a_1_w3 := x_a.cell (i := 1) rfl
  have f_a_1_w3 := x_a.frozen 1
  have c_a_2_w3 := x_a.cell (i := 2) rfl
  have f_a_2_w3 := x_a.frozen 2
  have c_a_3_w3 := x_a.cell (i := 3) rfl
  have f_a_3_w3 := x_a.frozen 3
  have c_a_4_w3 := x_a.cell (i := 4) rfl
  have f_a_4_w3 := x_a.frozen 4
  have c_a_5_w3 := x_a.cell (i := 5) rfl
  have f_a_5_w3 := x_a.frozen 5
  have c_a_6_w3 := x_a.cell (i := 6) rfl
  have f_a_6_w3 := x_a.frozen 6
  have c_a_7_w3 := x_a.cell (i := 7) rfl
  have f_a_7_w3 := x_a.frozen 7
  have c_a_8_w3 := x_a.cell (i := 8) rfl
  have f_a_8_w3 := x_a.frozen 8
  have c_l_0_w3 := x_l.cell (i := 0) rfl
  have f_l_0_w3 := x_l.frozen 0
  have c_l_1_w3 := x_l.cell (i := 1) rfl
  have f_l_1_w3 := x_l.frozen 1
  have c_l_2_w3 := x_l.cell (i := 2) rfl
  have f_l_2_w3 := x_l.frozen 2
  go_wp2_with fail
  rw [rounds_succ]
  clear c_a_0_w2 f_a_0_w2 c_a_1_w2 f_a_1_w2 c_a_2_w2 f_a_2_w2 c_a_3_w2 f_a_3_w2 c_a_4_w2 f_a_4_w2 c_a_5_w2 f_a_5_w2 c_a_6_w2 f_a_6_w2 c_a_7_w2 f_a_7_w2 c_a_8_w2 f_a_8_w2 c_l_0_w2 f_l_0_w2 c_l_1_w2 f_l_1_w2 c_l_2_w2 f_l_2_w2 c_a_0_w3 f_a_0_w3 c_a_1_w3 f_a_1_w3 c_a_2_w3 f_a_2_w3 c_a_3_w3 f_a_3_w3 c_a_4_w3 f_a_4_w3 c_a_5_w3 f_a_5_w3 c_a_6_w3 f_a_6_w3 c_a_7_w3 f_a_7_w3 c_a_8_w3 f_a_8_w3 c_l_0_w3 f_l_0_w3 c_l_1_w3 f_l_1_w3 c_l_2_w3 f_l_2_w3
  have c_a_0_w3 := x_a.cell (i := 0) rfl
  have f_a_0_w3 := x_a.frozen 0
  have c_a_1_w3 := x_a.cell (i := 1) rfl
  have f_a_1_w3 := x_a.frozen 1
  have c_a_2_w3 := x_a.cell (i := 2) rfl
  have f_a_2_w3 := x_a.frozen 2
  have c_a_3_w3 := x_a.cell (i := 3) rfl
  have f_a_3_w3 := x_a.frozen 3
  have c_a_4_w3 := x_a.cell (i := 4) rfl
  have f_a_4_w3 := x_a.frozen 4
  have c_a_5_w3 := x_a.cell (i := 5) rfl
  have f_a_5_w3 := x_a.frozen 5
  have c_a_6_w3 := x_a.cell (i := 6) rfl
  have f_a_6_w3 := x_a.frozen 6
  have c_a_7_w3 := x_a.cell (i := 7) rfl
  have f_a_7_w3 := x_a.frozen 7
  have c_a_8_w3 := x_a.cell (i := 8) rfl
  have f_a_8_w3 := x_a.frozen 8
  have c_l_0_w3 := x_l.cell (i := 0) rfl
  have f_l_0_w3 := x_l.frozen 0
  have c_l_1_w3 := x_l.cell (i := 1) rfl
  have f_l_1_w3 := x_l.frozen 1
  have c_l_2_w3 := x_l.cell (i := 2) rfl
  have f_l_2_w3 := x_l.frozen 2
  obtain ⟨w4, e_w4, s_w4, h_w4, y⟩ := set_step x_a 4 (.int .i64 0)
  have s_w4_1 := Nat.le_of_eq s_w4
  have s_w4_2 := Nat.le_of_eq s_w4.symm
  clear s_w4
  replace x_r := x_r.chg h_w4 (by omega)
  replace x_l := x_l.chg h_w4 (by omega)
  have B_w4 := Below.chg_ B_w3 h_w4 (by omega) (by omega)
  replace x_a : Vr w4 (w.heap.size) 26 [.int .i64 8, .int .i64 0, .int .i64 o, .int .i64 0, .int .i64 0, .int .i64 k1, .int .i64 k2, .int .i64 k3, .int .i64 k4] := y
  clear y
  have c_a_0_w4 := x_a.cell (i := 0) rfl
  have f_a_0_w4 := x_a.frozen 0
  have c_a_1_w4 := x_a.cell (i := 1) rfl
  have f_a_1_w4 := x_a.frozen 1
  have c_a_2_w4 := x_a.cell (i := 2) rfl
  have f_a_2_w4 := x_a.frozen 2
  have c_a_3_w4 := x_a.cell (i := 3) rfl
  have f_a_3_w4 := x_a.frozen 3
  have c_a_4_w4 := x_a.cell (i := 4) rfl
  have f_a_4_w4 := x_a.frozen 4
  have c_a_5_w4 := x_a.cell (i := 5) rfl
  have f_a_5_w4 := x_a.frozen 5
  have c_a_6_w4 := x_a.cell (i := 6) rfl
  have f_a_6_w4 := x_a.frozen 6
  have c_a_7_w4 := x_a.cell (i := 7) rfl
  have f_a_7_w4 := x_a.frozen 7
  have c_a_8_w4 := x_a.cell (i := 8) rfl
  have f_a_8_w4 := x_a.frozen 8
  have c_l_0_w4 := x_l.cell (i := 0) rfl
  have f_l_0_w4 := x_l.frozen 0
  have c_l_1_w4 := x_l.cell (i := 1) rfl
  have f_l_1_w4 := x_l.frozen 1
  have c_l_2_w4 := x_l.cell (i := 2) rfl
  have f_l_2_w4 := x_l.frozen 2
  go_wp2_with fail
  rw [rounds_succ]
  clear c_a_0_w3 f_a_0_w3 c_a_1_w3 f_a_1_w3 c_a_2_w3 f_a_2_w3 c_a_3_w3 f_a_3_w3 c_a_4_w3 f_a_4_w3 c_a_5_w3 f_a_5_w3 c_a_6_w3 f_a_6_w3 c_a_7_w3 f_a_7_w3 c_a_8_w3 f_a_8_w3 c_l_0_w3 f_l_0_w3 c_l_1_w3 f_l_1_w3 c_l_2_w3 f_l_2_w3 c_a_0_w4 f_a_0_w4 c_a_1_w4 f_a_1_w4 c_a_2_w4 f_a_2_w4 c_a_3_w4 f_a_3_w4 c_a_4_w4 f_a_4_w4 c_a_5_w4 f_a_5_w4 c_a_6_w4 f_a_6_w4 c_a_7_w4 f_a_7_w4 c_a_8_w4 f_a_8_w4 c_l_0_w4 f_l_0_w4 c_l_1_w4 f_l_1_w4 c_l_2_w4 f_l_2_w4
  have c_a_0_w4 := x_a.cell (i := 0) rfl
  have f_a_0_w4 := x_a.frozen 0
  have c_a_1_w4 := x_a.cell (i := 1) rfl
  have f_a_1_w4 := x_a.frozen 1
  have c_a_2_w4 := x_a.cell (i := 2) rfl
  have f_a_2_w4 := x_a.frozen 2
  have c_a_3_w4 := x_a.cell (i := 3) rfl
  have f_a_3_w4 := x_a.frozen 3
  have c_a_4_w4 := x_a.cell (i := 4) rfl
  have f_a_4_w4 := x_a.frozen 4
  have c_a_5_w4 := x_a.cell (i := 5) rfl
  have f_a_5_w4 := x_a.frozen 5
  have c_a_6_w4 := x_a.cell (i := 6) rfl
  have f_a_6_w4 := x_a.frozen 6
  have c_a_7_w4 := x_a.cell (i := 7) rfl
  have f_a_7_w4 := x_a.frozen 7
  have c_a_8_w4 := x_a.cell (i := 8) rfl
  have f_a_8_w4 := x_a.frozen 8
  obtain ⟨w5, e_w5, s_w5, h_w5, y⟩ := set_step x_a 0 (.int .i64 0)
  have s_w5_1 := Nat.le_of_eq s_w5
  have s_w5_2 := Nat.le_of_eq s_w5.symm
  clear s_w5
  replace x_r := x_r.chg h_w5 (by omega)
  replace x_l := x_l.chg h_w5 (by omega)
  have B_w5 := Below.chg_ B_w4 h_w5 (by omega) (by omega)
  replace x_a : Vr w5 (w.heap.size) 26 [.int .i64 0, .int .i64 0, .int .i64 o, .int .i64 0, .int .i64 0, .int .i64 k1, .int .i64 k2, .int .i64 k3, .int .i64 k4] := y
  clear y
  have c_a_0_w5 := x_a.cell (i := 0) rfl
  have f_a_0_w5 := x_a.frozen 0
  have c_a_1_w5 := x_a.cell (i := 1) rfl
  have f_a_1_w5 := x_a.frozen 1
  have c_a_2_w5 := x_a.cell (i := 2) rfl
  have f_a_2_w5 := x_a.frozen 2
  have c_a_3_w5 := x_a.cell (i := 3) rfl
  have f_a_3_w5 := x_a.frozen 3
  have c_a_4_w5 := x_a.cell (i := 4) rfl
  have f_a_4_w5 := x_a.frozen 4
  have c_a_5_w5 := x_a.cell (i := 5) rfl
  have f_a_5_w5 := x_a.frozen 5
  have c_a_6_w5 := x_a.cell (i := 6) rfl
  have f_a_6_w5 := x_a.frozen 6
  have c_a_7_w5 := x_a.cell (i := 7) rfl
  have f_a_7_w5 := x_a.frozen 7
  have c_a_8_w5 := x_a.cell (i := 8) rfl
  have f_a_8_w5 := x_a.frozen 8
  have c_r_0_w5 := x_r.cell (i := 0) rfl
  have f_r_0_w5 := x_r.frozen 0
  have c_r_1_w5 := x_r.cell (i := 1) rfl
  have f_r_1_w5 := x_r.frozen 1
  have c_r_2_w5 := x_r.cell (i := 2) rfl
  have f_r_2_w5 := x_r.frozen 2
  have c_r_3_w5 := x_r.cell (i := 3) rfl
  have f_r_3_w5 := x_r.frozen 3
  have c_r_4_w5 := x_r.cell (i := 4) rfl
  have f_r_4_w5 := x_r.frozen 4
  have c_r_5_w5 := x_r.cell (i := 5) rfl
  have f_r_5_w5 := x_r.frozen 5
  have c_r_6_w5 := x_r.cell (i := 6) rfl
  have f_r_6_w5 := x_r.frozen 6
  have c_r_7_w5 := x_r.cell (i := 7) rfl
  have f_r_7_w5 := x_r.frozen 7
  have c_r_8_w5 := x_r.cell (i := 8) rfl
  have f_r_8_w5 := x_r.frozen 8
  obtain ⟨w6, e_w6, s_w6, h_w6, y⟩ := store_step x_r [.int .i64 0, .int .i64 0, .int .i64 o, .int .i64 0, .int .i64 0, .int .i64 k1, .int .i64 k2, .int .i64 k3, .int .i64 k4] rfl
  replace e_w6 : (((((((((w5.setCell ⟨w.heap.size + 1, 0, none⟩ (.int .i64 0)).setCell ⟨w.heap.size + 1, 1, none⟩ (.int .i64 0)).setCell ⟨w.heap.size + 1, 2, none⟩ (.int .i64 o)).setCell ⟨w.heap.size + 1, 3, none⟩ (.int .i64 0)).setCell ⟨w.heap.size + 1, 4, none⟩ (.int .i64 0)).setCell ⟨w.heap.size + 1, 5, none⟩ (.int .i64 k1)).setCell ⟨w.heap.size + 1, 6, none⟩ (.int .i64 k2)).setCell ⟨w.heap.size + 1, 7, none⟩ (.int .i64 k3)).setCell ⟨w.heap.size + 1, 8, none⟩ (.int .i64 k4)) = w6 := e_w6
  have s_w6_1 := Nat.le_of_eq s_w6
  have s_w6_2 := Nat.le_of_eq s_w6.symm
  clear s_w6
  replace x_a := x_a.chg h_w6 (by omega)
  replace x_l := x_l.chg h_w6 (by omega)
  have B_w6 := Below.chg_ B_w5 h_w6 (by omega) (by omega)
  replace x_r : Vr w6 (w.heap.size + 1) 26 [.int .i64 0, .int .i64 0, .int .i64 o, .int .i64 0, .int .i64 0, .int .i64 k1, .int .i64 k2, .int .i64 k3, .int .i64 k4] := y
  clear y
  go_wp2
  refine ret_cell (by rfl) (by rfl) x_r Tryd.underlying26 sz_rec (by rfl) ?_
  exact ⟨rfl, B_w6⟩
set_option maxRecDepth 100000 in
set_option maxHeartbeats 4000000 in
theorem iUnused_9 (w : World) (a o t m k1 k2 k3 k4 : Int) : Calls Tryd.prog 36 #[.agg #[.int .i64 9, .int .i64 a, .int .i64 o, .int .i64 t, .int .i64 m, .int .i64 k1, .int .i64 k2, .int .i64 k3, .int .i64 k4]] w fun e w' => e = .returned (.agg #[.int .i64 0, .int .i64 0, .int .i64 o, .int .i64 0, .int .i64 m, .int .i64 k1, .int .i64 k2, .int .i64 k3, .int .i64 k4]) ∧ Below w.heap.size w w' := by
  obtain ⟨wa, hwa, B0, sa, x_a, x_r⟩ := frame2 w 26 [.int .i64 9, .int .i64 a, .int .i64 o, .int .i64 t, .int .i64 m, .int .i64 k1, .int .i64 k2, .int .i64 k3, .int .i64 k4] 26 [.int .i64 0, .int .i64 0, .int .i64 0, .int .i64 0, .int .i64 0, .int .i64 0, .int .i64 0, .int .i64 0, .int .i64 0]
  have sa_1 := Nat.le_of_eq sa
  have sa_2 := Nat.le_of_eq sa.symm
  clear sa
  go_enter Tryd.func36, Tryd.ntmps36
  go_wp2_with fail
  refine (iUsed_9 x_a rfl).mono ?_
  rintro e w1 ⟨B, T, rfl, x_l, hB, h_w1⟩
  replace x_a := x_a.from_ h_w1
  replace x_r := x_r.from_ h_w1
  have B_w1 := B0.trans (h_w1.mono B0.size)
  have s_w1 := h_w1.size
  have ltB := x_l.lt
  have c_a_0_w1 := x_a.cell (i := 0) rfl
  have f_a_0_w1 := x_a.frozen 0
  have c_a_1_w1 := x_a.cell (i := 1) rfl
  have f_a_1_w1 := x_a.frozen 1
  have c_a_2_w1 := x_a.cell (i := 2) rfl
  have f_a_2_w1 := x_a.frozen 2
  have c_a_3_w1 := x_a.cell (i := 3) rfl
  have f_a_3_w1 := x_a.frozen 3
  have c_a_4_w1 := x_a.cell (i := 4) rfl
  have f_a_4_w1 := x_a.frozen 4
  have c_a_5_w1 := x_a.cell (i := 5) rfl
  have f_a_5_w1 := x_a.frozen 5
  have c_a_6_w1 := x_a.cell (i := 6) rfl
  have f_a_6_w1 := x_a.frozen 6
  have c_a_7_w1 := x_a.cell (i := 7) rfl
  have f_a_7_w1 := x_a.frozen 7
  have c_a_8_w1 := x_a.cell (i := 8) rfl
  have f_a_8_w1 := x_a.frozen 8
  have c_l_0_w1 := x_l.cell (i := 0) rfl
  have f_l_0_w1 := x_l.frozen 0
  have c_l_1_w1 := x_l.cell (i := 1) rfl
  have f_l_1_w1 := x_l.frozen 1
  go_wp2_with fail
  refine wp_loop_rounds 3 ?_
  rw [rounds_succ]
  clear c_a_0_w1 f_a_0_w1 c_a_1_w1 f_a_1_w1 c_a_2_w1 f_a_2_w1 c_a_3_w1 f_a_3_w1 c_a_4_w1 f_a_4_w1 c_a_5_w1 f_a_5_w1 c_a_6_w1 f_a_6_w1 c_a_7_w1 f_a_7_w1 c_a_8_w1 f_a_8_w1 c_l_0_w1 f_l_0_w1 c_l_1_w1 f_l_1_w1
  have c_a_0_w1 := x_a.cell (i := 0) rfl
  have f_a_0_w1 := x_a.frozen 0
  have c_a_1_w1 := x_a.cell (i := 1) rfl
  have f_a_1_w1 := x_a.frozen 1
  have c_a_2_w1 := x_a.cell (i := 2) rfl
  have f_a_2_w1 := x_a.frozen 2
  have c_a_3_w1 := x_a.cell (i := 3) rfl
  have f_a_3_w1 := x_a.frozen 3
  have c_a_4_w1 := x_a.cell (i := 4) rfl
  have f_a_4_w1 := x_a.frozen 4
  have c_a_5_w1 := x_a.cell (i := 5) rfl
  have f_a_5_w1 := x_a.frozen 5
  have c_a_6_w1 := x_a.cell (i := 6) rfl
  have f_a_6_w1 := x_a.frozen 6
  have c_a_7_w1 := x_a.cell (i := 7) rfl
  have f_a_7_w1 := x_a.frozen 7
  have c_a_8_w1 := x_a.cell (i := 8) rfl
  have f_a_8_w1 := x_a.frozen 8
  have c_l_0_w1 := x_l.cell (i := 0) rfl
  have f_l_0_w1 := x_l.frozen 0
  have c_l_1_w1 := x_l.cell (i := 1) rfl
  have f_l_1_w1 := x_l.frozen 1
  obtain ⟨w2, e_w2, s_w2, h_w2, y⟩ := set_step x_a 1 (.int .i64 0)
  have s_w2_1 := Nat.le_of_eq s_w2
  have s_w2_2 := Nat.le_of_eq s_w2.symm
  clear s_w2
  replace x_r := x_r.chg h_w2 (by omega)
  replace x_l := x_l.chg h_w2 (by omega)
  have B_w2 := Below.chg_ B_w1 h_w2 (by omega) (by omega)
  replace x_a : Vr w2 (w.heap.size) 26 [.int .i64 9, .int .i64 0, .int .i64 o, .int .i64 t, .int .i64 m, .int .i64 k1, .int .i64 k2, .int .i64 k3, .int .i64 k4] := y
  clear y
  have c_a_0_w2 := x_a.cell (i := 0) rfl
  have f_a_0_w2 := x_a.frozen 0
  have c_a_1_w2 := x_a.cell (i := 1) rfl
  have f_a_1_w2 := x_a.frozen 1
  have c_a_2_w2 := x_a.cell (i := 2) rfl
  have f_a_2_w2 := x_a.frozen 2
  have c_a_3_w2 := x_a.cell (i := 3) rfl
  have f_a_3_w2 := x_a.frozen 3
  have c_a_4_w2 := x_a.cell (i := 4) rfl
  have f_a_4_w2 := x_a.frozen 4
  have c_a_5_w2 := x_a.cell (i := 5) rfl
  have f_a_5_w2 := x_a.frozen 5
  have c_a_6_w2 := x_a.cell (i := 6) rfl
  have f_a_6_w2 := x_a.frozen 6
  have c_a_7_w2 := x_a.cell (i := 7) rfl
  have f_a_7_w2 := x_a.frozen 7
  have c_a_8_w2 := x_a.cell (i := 8) rfl
  have f_a_8_w2 := x_a.frozen 8
  have c_l_0_w2 := x_l.cell (i := 0) rfl
  have f_l_0_w2 := x_l.frozen 0
  have c_l_1_w2 := x_l.cell (i := 1) rfl
  have f_l_1_w2 := x_l.frozen 1
  go_wp2_with fail
  rw [rounds_succ]
  clear c_a_0_w1 f_a_0_w1 c_a_1_w1 f_a_1_w1 c_a_2_w1 f_a_2_w1 c_a_3_w1 f_a_3_w1 c_a_4_w1 f_a_4_w1 c_a_5_w1 f_a_5_w1 c_a_6_w1 f_a_6_w1 c_a_7_w1 f_a_7_w1 c_a_8_w1 f_a_8_w1 c_l_0_w1 f_l_0_w1 c_l_1_w1 f_l_1_w1 c_a_0_w2 f_a_0_w2 c_a_1_w2 f_a_1_w2 c_a_2_w2 f_a_2_w2 c_a_3_w2 f_a_3_w2 c_a_4_w2 f_a_4_w2 c_a_5_w2 f_a_5_w2 c_a_6_w2 f_a_6_w2 c_a_7_w2 f_a_7_w2 c_a_8_w2 f_a_8_w2 c_l_0_w2 f_l_0_w2 c_l_1_w2 f_l_1_w2
  have c_a_0_w2 := x_a.cell (i := 0) rfl
  have f_a_0_w2 := x_a.frozen 0
  have c_a_1_w2 := x_a.cell (i := 1) rfl
  have f_a_1_w2 := x_a.frozen 1
  have c_a_2_w2 := x_a.cell (i := 2) rfl
  have f_a_2_w2 := x_a.frozen 2
  have c_a_3_w2 := x_a.cell (i := 3) rfl
  have f_a_3_w2 := x_a.frozen 3
  have c_a_4_w2 := x_a.cell (i := 4) rfl
  have f_a_4_w2 := x_a.frozen 4
  have c_a_5_w2 := x_a.cell (i := 5) rfl
  have f_a_5_w2 := x_a.frozen 5
  have c_a_6_w2 := x_a.cell (i := 6) rfl
  have f_a_6_w2 := x_a.frozen 6
  have c_a_7_w2 := x_a.cell (i := 7) rfl
  have f_a_7_w2 := x_a.frozen 7
  have c_a_8_w2 := x_a.cell (i := 8) rfl
  have f_a_8_w2 := x_a.frozen 8
  have c_l_0_w2 := x_l.cell (i := 0) rfl
  have f_l_0_w2 := x_l.frozen 0
  have c_l_1_w2 := x_l.cell (i := 1) rfl
  have f_l_1_w2 := x_l.frozen 1
  obtain ⟨w3, e_w3, s_w3, h_w3, y⟩ := set_step x_a 3 (.int .i64 0)
  have s_w3_1 := Nat.le_of_eq s_w3
  have s_w3_2 := Nat.le_of_eq s_w3.symm
  clear s_w3
  replace x_r := x_r.chg h_w3 (by omega)
  replace x_l := x_l.chg h_w3 (by omega)
  have B_w3 := Below.chg_ B_w2 h_w3 (by omega) (by omega)
  replace x_a : Vr w3 (w.heap.size) 26 [.int .i64 9, .int .i64 0, .int .i64 o, .int .i64 0, .int .i64 m, .int .i64 k1, .int .i64 k2, .int .i64 k3, .int .i64 k4] := y
  clear y
  have c_a_0_w3 := x_a.cell (i := 0) rfl
  have f_a_0_w3 := x_a.frozen 0
  have c_a_1_w3 := x_a.cell (i := 1) rfl
  have f_a_1_w3 := x_a.frozen 1
  have c_a_2_w3 := x_a.cell (i := 2) rfl
  have f_a_2_w3 := x_a.frozen 2
  have c_a_3_w3 := x_a.cell (i := 3) rfl
  have f_a_3_w3 := x_a.frozen 3
  have c_a_4_w3 := x_a.cell (i := 4) rfl
  have f_a_4_w3 := x_a.frozen 4
  have c_a_5_w3 := x_a.cell (i := 5) rfl
  have f_a_5_w3 := x_a.frozen 5
  have c_a_6_w3 := x_a.cell (i := 6) rfl
  have f_a_6_w3 := x_a.frozen 6
  have c_a_7_w3 := x_a.cell (i := 7) rfl
  have f_a_7_w3 := x_a.frozen 7
  have c_a_8_w3 := x_a.cell (i := 8) rfl
  have f_a_8_w3 := x_a.frozen 8
  have c_l_0_w3 := x_l.cell (i := 0) rfl
  have f_l_0_w3 := x_l.frozen 0
  have c_l_1_w3 := x_l.cell (i := 1) rfl
  have f_l_1_w3 := x_l.frozen 1
  go_wp2_with fail
  rw [rounds_succ]
  clear c_a_0_w2 f_a_0_w2 c_a_1_w2 f_a_1_w2 c_a_2_w2 f_a_2_w2 c_a_3_w2 f_a_3_w2 c_a_4_w2 f_a_4_w2 c_a_5_w2 f_a_5_w2 c_a_6_w2 f_a_6_w2 c_a_7_w2 f_a_7_w2 c_a_8_w2 f_a_8_w2 c_l_0_w2 f_l_0_w2 c_l_1_w2 f_l_1_w2 c_a_0_w3 f_a_0_w3 c_a_1_w3 f_a_1_w3 c_a_2_w3 f_a_2_w3 c_a_3_w3 f_a_3_w3 c_a_4_w3 f_a_4_w3 c_a_5_w3 f_a_5_w3 c_a_6_w3 f_a_6_w3 c_a_7_w3 f_a_7_w3 c_a_8_w3 f_a_8_w3 c_l_0_w3 f_l_0_w3 c_l_1_w3 f_l_1_w3
  have c_a_0_w3 := x_a.cell (i := 0) rfl
  have f_a_0_w3 := x_a.frozen 0
  have c_a_1_w3 := x_a.cell (i := 1) rfl
  have f_a_1_w3 := x_a.frozen 1
  have c_a_2_w3 := x_a.cell (i := 2) rfl
  have f_a_2_w3 := x_a.frozen 2
  have c_a_3_w3 := x_a.cell (i := 3) rfl
  have f_a_3_w3 := x_a.frozen 3
  have c_a_4_w3 := x_a.cell (i := 4) rfl
  have f_a_4_w3 := x_a.frozen 4
  have c_a_5_w3 := x_a.cell (i := 5) rfl
  have f_a_5_w3 := x_a.frozen 5
  have c_a_6_w3 := x_a.cell (i := 6) rfl
  have f_a_6_w3 := x_a.frozen 6
  have c_a_7_w3 := x_a.cell (i := 7) rfl
  have f_a_7_w3 := x_a.frozen 7
  have c_a_8_w3 := x_a.cell (i := 8) rfl
  have f_a_8_w3 := x_a.frozen 8
  obtain ⟨w4, e_w4, s_w4, h_w4, y⟩ := set_step x_a 0 (.int .i64 0)
  have s_w4_1 := Nat.le_of_eq s_w4
  have s_w4_2 := Nat.le_of_eq s_w4.symm
  clear s_w4
  replace x_r := x_r.chg h_w4 (by omega)
  replace x_l := x_l.chg h_w4 (by omega)
  have B_w4 := Below.chg_ B_w3 h_w4 (by omega) (by omega)
  replace x_a : Vr w4 (w.heap.size) 26 [.int .i64 0, .int .i64 0, .int .i64 o, .int .i64 0, .int .i64 m, .int .i64 k1, .int .i64 k2, .int .i64 k3, .int .i64 k4] := y
  clear y
  have c_a_0_w4 := x_a.cell (i := 0) rfl
  have f_a_0_w4 := x_a.frozen 0
  have c_a_1_w4 := x_a.cell (i := 1) rfl
  have f_a_1_w4 := x_a.frozen 1
  have c_a_2_w4 := x_a.cell (i := 2) rfl
  have f_a_2_w4 := x_a.frozen 2
  have c_a_3_w4 := x_a.cell (i := 3) rfl
  have f_a_3_w4 := x_a.frozen 3
  have c_a_4_w4 := x_a.cell (i := 4) rfl
  have f_a_4_w4 := x_a.frozen 4
  have c_a_5_w4 := x_a.cell (i := 5) rfl
  have f_a_5_w4 := x_a.frozen 5
  have c_a_6_w4 := x_a.cell (i := 6) rfl
  have f_a_6_w4 := x_a.frozen 6
  have c_a_7_w4 := x_a.cell (i := 7) rfl
  have f_a_7_w4 := x_a.frozen 7
  have c_a_8_w4 := x_a.cell (i := 8) rfl
  have f_a_8_w4 := x_a.frozen 8
  have c_r_0_w4 := x_r.cell (i := 0) rfl
  have f_r_0_w4 := x_r.frozen 0
  have c_r_1_w4 := x_r.cell (i := 1) rfl
  have f_r_1_w4 := x_r.frozen 1
  have c_r_2_w4 := x_r.cell (i := 2) rfl
  have f_r_2_w4 := x_r.frozen 2
  have c_r_3_w4 := x_r.cell (i := 3) rfl
  have f_r_3_w4 := x_r.frozen 3
  have c_r_4_w4 := x_r.cell (i := 4) rfl
  have f_r_4_w4 := x_r.frozen 4
  have c_r_5_w4 := x_r.cell (i := 5) rfl
  have f_r_5_w4 := x_r.frozen 5
  have c_r_6_w4 := x_r.cell (i := 6) rfl
  have f_r_6_w4 := x_r.frozen 6
  have c_r_7_w4 := x_r.cell (i := 7) rfl
  have f_r_7_w4 := x_r.frozen 7
  have c_r_8_w4 := x_r.cell (i := 8) rfl
  have f_r_8_w4 := x_r.frozen 8
  obtain ⟨w5, e_w5, s_w5, h_w5, y⟩ := store_step x_r [.int .i64 0, .int .i64 0, .int .i64 o, .int .i64 0, .int .i64 m, .int .i64 k1, .int .i64 k2, .int .i64 k3, .int .i64 k4] rfl
  replace e_w5 : (((((((((w4.setCell ⟨w.heap.size + 1, 0, none⟩ (.int .i64 0)).setCell ⟨w.heap.size + 1, 1, none⟩ (.int .i64 0)).setCell ⟨w.heap.size + 1, 2, none⟩ (.int .i64 o)).setCell ⟨w.heap.size + 1, 3, none⟩ (.int .i64 0)).setCell ⟨w.heap.size + 1, 4, none⟩ (.int .i64 m)).setCell ⟨w.heap.size + 1, 5, none⟩ (.int .i64 k1)).setCell ⟨w.heap.size + 1, 6, none⟩ (.int .i64 k2)).setCell ⟨w.heap.size + 1, 7, none⟩ (.int .i64 k3)).setCell ⟨w.heap.size + 1, 8, none⟩ (.int .i64 k4)) = w5 := e_w5
  have s_w5_1 := Nat.le_of_eq s_w5
  have s_w5_2 := Nat.le_of_eq s_w5.symm
  clear s_w5
  replace x_a := x_a.chg h_w5 (by omega)
  replace x_l := x_l.chg h_w5 (by omega)
  have B_w5 := Below.chg_ B_w4 h_w5 (by omega) (by omega)
  replace x_r : Vr w5 (w.heap.size + 1) 26 [.int .i64 0, .int .i64 0, .int .i64 o, .int .i64 0, .int .i64 m, .int .i64 k1, .int .i64 k2, .int .i64 k3, .int .i64 k4] := y
  clear y
  go_wp2
  refine ret_cell (by rfl) (by rfl) x_r Tryd.underlying26 sz_rec (by rfl) ?_
  exact ⟨rfl, B_w5⟩
theorem iUnused_c {w : World} {r : MRec} (h : 1 ≤ r.Kind ∧ r.Kind ≤ 9) : Calls Tryd.prog 36 #[.agg #[.int .i64 r.Kind, .int .i64 r.Acct, .int .i64 r.Other, .int .i64 r.To, .int .i64 r.Amt, .int .i64 r.M.Kind, .int .i64 r.M.Acct, .int .i64 r.M.Amt, .int .i64 r.M.Src]] w fun e w' => e = .returned (.agg #[.int .i64 (restR r).Kind, .int .i64 (restR r).Acct, .int .i64 (restR r).Other, .int .i64 (restR r).To, .int .i64 (restR r).Amt, .int .i64 (restR r).M.Kind, .int .i64 (restR r).M.Acct, .int .i64 (restR r).M.Amt, .int .i64 (restR r).M.Src]) ∧ Below w.heap.size w w' := by
  obtain ⟨k, a, o, t, m, ⟨k1, k2, k3, k4⟩⟩ := r
  have h9 := kinds9 h
  clear h
  dsimp only at h9
  rcases h9 with rfl | rfl | rfl | rfl | rfl | rfl | rfl | rfl | rfl
  · exact iUnused_1 w a o t m k1 k2 k3 k4
  · exact iUnused_2 w a o t m k1 k2 k3 k4
  · exact iUnused_3 w a o t m k1 k2 k3 k4
  · exact iUnused_4 w a o t m k1 k2 k3 k4
  · exact iUnused_5 w a o t m k1 k2 k3 k4
  · exact iUnused_6 w a o t m k1 k2 k3 k4
  · exact iUnused_7 w a o t m k1 k2 k3 k4
  · exact iUnused_8 w a o t m k1 k2 k3 k4
  · exact iUnused_9 w a o t m k1 k2 k3 k4
end Go.Proofs.YtkbhbccpmmhelaaDoor
