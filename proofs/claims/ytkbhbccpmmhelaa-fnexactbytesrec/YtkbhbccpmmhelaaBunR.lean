/- Texts joined: Rc1a, Rc1b, Rc1c, Rc2, Rc5, Rc3. -/
import Derived.Test.YtkbhbccpmmhelaaBunB

namespace Go.Proofs.Ytkbhbccpmmhelaa
open Go.RowKit
set_option linter.unusedVariables false
set_option linter.unusedSimpArgs false

set_option maxHeartbeats 8000000 in
theorem sRecOk_1 {w : World} {r : MRec} (e1 : r.Kind = 1) (ha : inB r.Acct 0 2 = true) (ho : inB r.Other 0 2 = true) (ht : inB r.To 0 3 = true) : Calls Try.prog 7 #[.agg #[.int .i64 r.Kind, .int .i64 r.Acct, .int .i64 r.Other, .int .i64 r.To, .int .i64 r.Amt, .int .i64 r.M.Kind, .int .i64 r.M.Acct, .int .i64 r.M.Amt, .int .i64 r.M.Src]] w fun e w' => e = .returned (.bool (recOkB r)) ∧ Below w.heap.size w w' := by
  obtain ⟨wa, hwa, B0, sa, x_a⟩ := frame1 w 29 [.int .i64 r.Kind, .int .i64 r.Acct, .int .i64 r.Other, .int .i64 r.To, .int .i64 r.Amt, .int .i64 r.M.Kind, .int .i64 r.M.Acct, .int .i64 r.M.Amt, .int .i64 r.M.Src]
  have sa_1 := Nat.le_of_eq sa
  have sa_2 := Nat.le_of_eq sa.symm
  clear sa
  have Hha := Lib.hid ha
  have Hho := Lib.hid ho
  have Hht := Lib.hid ht
  by_cases zOther : r.Other = 0
  case neg =>
    rw [show recOkB r = false by simp [recOkB, recAmtB, recMsgB, kAcct, kOther, kTo, kAmt, e1, show inB 1 1 9 = true from rfl, show inB 0 0 2 = true from rfl, show inB 0 0 3 = true from rfl, show numB 0 = true from rfl, bne, zOther]]
    have qOther : (r.Other != 0) = true := by simpa using zOther
    rw [e1] at x_a hwa ⊢
    clear zOther e1 ha ho ht
    have c0 := x_a.cell (i := 0) rfl
    have c1 := x_a.cell (i := 1) rfl
    have c2 := x_a.cell (i := 2) rfl
    have c3 := x_a.cell (i := 3) rfl
    have c4 := x_a.cell (i := 4) rfl
    have c5 := x_a.cell (i := 5) rfl
    have c6 := x_a.cell (i := 6) rfl
    have c7 := x_a.cell (i := 7) rfl
    have c8 := x_a.cell (i := 8) rfl
    go_enter Try.func7, Try.ntmps7
    go_wp2_with fail
    refine (sHas_1 _).mono ?_
    rintro e w' ⟨rfl, rfl⟩
    go_wp2_with fail
    refine (sIn_any _ _ _ _).mono ?_
    rintro e w' ⟨rfl, rfl⟩
    rw [show inB 1 1 9 = true from rfl]
    go_wp2_with fail
    refine (sIn_any _ _ _ _).mono ?_
    rintro e w' ⟨rfl, rfl⟩
    rw [Hha.out]
    go_wp2_with fail
    refine (sIn_any _ _ _ _).mono ?_
    rintro e w' ⟨rfl, rfl⟩
    rw [Hho.out]
    go_wp2_with fail
    refine (sNode4_any _ _).mono ?_
    rintro e w' ⟨rfl, rfl⟩
    rw [Hht.out]
    go_wp2
    go_ret
    exact ⟨rfl, B0⟩
  have qOther : (r.Other != 0) = false := by simpa using zOther
  by_cases zTo : r.To = 0
  case neg =>
    rw [show recOkB r = false by simp [recOkB, recAmtB, recMsgB, kAcct, kOther, kTo, kAmt, e1, show inB 1 1 9 = true from rfl, show inB 0 0 2 = true from rfl, show inB 0 0 3 = true from rfl, show numB 0 = true from rfl, bne, zTo]]
    have qTo : (r.To != 0) = true := by simpa using zTo
    rw [e1] at x_a hwa ⊢
    clear zTo zOther e1 ha ho ht
    have c0 := x_a.cell (i := 0) rfl
    have c1 := x_a.cell (i := 1) rfl
    have c2 := x_a.cell (i := 2) rfl
    have c3 := x_a.cell (i := 3) rfl
    have c4 := x_a.cell (i := 4) rfl
    have c5 := x_a.cell (i := 5) rfl
    have c6 := x_a.cell (i := 6) rfl
    have c7 := x_a.cell (i := 7) rfl
    have c8 := x_a.cell (i := 8) rfl
    go_enter Try.func7, Try.ntmps7
    go_wp2_with fail
    refine (sHas_1 _).mono ?_
    rintro e w' ⟨rfl, rfl⟩
    go_wp2_with fail
    refine (sIn_any _ _ _ _).mono ?_
    rintro e w' ⟨rfl, rfl⟩
    rw [show inB 1 1 9 = true from rfl]
    go_wp2_with fail
    refine (sIn_any _ _ _ _).mono ?_
    rintro e w' ⟨rfl, rfl⟩
    rw [Hha.out]
    go_wp2_with fail
    refine (sIn_any _ _ _ _).mono ?_
    rintro e w' ⟨rfl, rfl⟩
    rw [Hho.out]
    go_wp2_with fail
    refine (sNode4_any _ _).mono ?_
    rintro e w' ⟨rfl, rfl⟩
    rw [Hht.out]
    go_wp2
    go_ret
    exact ⟨rfl, B0⟩
  have qTo : (r.To != 0) = false := by simpa using zTo
  by_cases hm : amtB r.Amt = true
  case neg =>
    have hm' : amtB r.Amt = false := by simpa using hm
    rw [show recOkB r = false by simp [recOkB, recAmtB, recMsgB, kAcct, kOther, kTo, kAmt, e1, show inB 1 1 9 = true from rfl, show inB 0 0 2 = true from rfl, show inB 0 0 3 = true from rfl, show numB 0 = true from rfl, bne, hm']]
    have HM := Lib.hid hm'
    rw [e1] at x_a hwa ⊢
    clear hm hm' e1 ha ho ht zOther zTo
    have c0 := x_a.cell (i := 0) rfl
    have c1 := x_a.cell (i := 1) rfl
    have c2 := x_a.cell (i := 2) rfl
    have c3 := x_a.cell (i := 3) rfl
    have c4 := x_a.cell (i := 4) rfl
    have c5 := x_a.cell (i := 5) rfl
    have c6 := x_a.cell (i := 6) rfl
    have c7 := x_a.cell (i := 7) rfl
    have c8 := x_a.cell (i := 8) rfl
    go_enter Try.func7, Try.ntmps7
    go_wp2_with fail
    refine (sHas_1 _).mono ?_
    rintro e w' ⟨rfl, rfl⟩
    go_wp2_with fail
    refine (sIn_any _ _ _ _).mono ?_
    rintro e w' ⟨rfl, rfl⟩
    rw [show inB 1 1 9 = true from rfl]
    go_wp2_with fail
    refine (sIn_any _ _ _ _).mono ?_
    rintro e w' ⟨rfl, rfl⟩
    rw [Hha.out]
    go_wp2_with fail
    refine (sIn_any _ _ _ _).mono ?_
    rintro e w' ⟨rfl, rfl⟩
    rw [Hho.out]
    go_wp2_with fail
    refine (sNode4_any _ _).mono ?_
    rintro e w' ⟨rfl, rfl⟩
    rw [Hht.out]
    go_wp2_with fail
    refine (sAmt_any _ _).mono ?_
    rintro e w' ⟨rfl, rfl⟩
    rw [HM.out]
    go_wp2
    go_ret
    exact ⟨rfl, B0⟩
  have HM := Lib.hid hm
  by_cases zm : r.Amt = 0
  case pos =>
    exfalso
    have := amtB_parts hm
    omega
  have qm : (r.Amt == 0) = false := by simpa using zm
  rw [show recOkB r = decide (r.M = ⟨0, 0, 0, 0⟩) by simp [recOkB, recAmtB, recMsgB, kAcct, kOther, kTo, kAmt, e1, show inB 1 1 9 = true from rfl, show inB 0 0 2 = true from rfl, show inB 0 0 3 = true from rfl, show numB 0 = true from rfl, bne, ha, ho, ht, hm, zOther, zTo]]
  have gd := fun op x y W xs ys => guard_msg_run op x y W xs ys
  have ge := fun W => eql_msg_run W r.M ⟨0, 0, 0, 0⟩
  rw [e1] at x_a hwa ⊢
  clear hm e1 ha ho ht zOther zTo zm
  have c0 := x_a.cell (i := 0) rfl
  have c1 := x_a.cell (i := 1) rfl
  have c2 := x_a.cell (i := 2) rfl
  have c3 := x_a.cell (i := 3) rfl
  have c4 := x_a.cell (i := 4) rfl
  have c5 := x_a.cell (i := 5) rfl
  have c6 := x_a.cell (i := 6) rfl
  have c7 := x_a.cell (i := 7) rfl
  have c8 := x_a.cell (i := 8) rfl
  go_enter Try.func7, Try.ntmps7
  go_wp2_with fail
  refine (sHas_1 _).mono ?_
  rintro e w' ⟨rfl, rfl⟩
  go_wp2_with fail
  refine (sIn_any _ _ _ _).mono ?_
  rintro e w' ⟨rfl, rfl⟩
  rw [show inB 1 1 9 = true from rfl]
  go_wp2_with fail
  refine (sIn_any _ _ _ _).mono ?_
  rintro e w' ⟨rfl, rfl⟩
  rw [Hha.out]
  go_wp2_with fail
  refine (sIn_any _ _ _ _).mono ?_
  rintro e w' ⟨rfl, rfl⟩
  rw [Hho.out]
  go_wp2_with fail
  refine (sNode4_any _ _).mono ?_
  rintro e w' ⟨rfl, rfl⟩
  rw [Hht.out]
  go_wp2_with fail
  refine (sAmt_any _ _).mono ?_
  rintro e w' ⟨rfl, rfl⟩
  rw [HM.out]
  go_wp2
  go_ret
  exact ⟨rfl, B0⟩

set_option maxHeartbeats 8000000 in
theorem sRecOk_2 {w : World} {r : MRec} (e2 : r.Kind = 2) (ha : inB r.Acct 0 2 = true) (ho : inB r.Other 0 2 = true) (ht : inB r.To 0 3 = true) : Calls Try.prog 7 #[.agg #[.int .i64 r.Kind, .int .i64 r.Acct, .int .i64 r.Other, .int .i64 r.To, .int .i64 r.Amt, .int .i64 r.M.Kind, .int .i64 r.M.Acct, .int .i64 r.M.Amt, .int .i64 r.M.Src]] w fun e w' => e = .returned (.bool (recOkB r)) ∧ Below w.heap.size w w' := by
  obtain ⟨wa, hwa, B0, sa, x_a⟩ := frame1 w 29 [.int .i64 r.Kind, .int .i64 r.Acct, .int .i64 r.Other, .int .i64 r.To, .int .i64 r.Amt, .int .i64 r.M.Kind, .int .i64 r.M.Acct, .int .i64 r.M.Amt, .int .i64 r.M.Src]
  have sa_1 := Nat.le_of_eq sa
  have sa_2 := Nat.le_of_eq sa.symm
  clear sa
  have Hha := Lib.hid ha
  have Hho := Lib.hid ho
  have Hht := Lib.hid ht
  by_cases zOther : r.Other = 0
  case neg =>
    rw [show recOkB r = false by simp [recOkB, recAmtB, recMsgB, kAcct, kOther, kTo, kAmt, e2, show inB 2 1 9 = true from rfl, show inB 0 0 2 = true from rfl, show inB 0 0 3 = true from rfl, show numB 0 = true from rfl, bne, zOther]]
    have qOther : (r.Other != 0) = true := by simpa using zOther
    rw [e2] at x_a hwa ⊢
    clear zOther e2 ha ho ht
    have c0 := x_a.cell (i := 0) rfl
    have c1 := x_a.cell (i := 1) rfl
    have c2 := x_a.cell (i := 2) rfl
    have c3 := x_a.cell (i := 3) rfl
    have c4 := x_a.cell (i := 4) rfl
    have c5 := x_a.cell (i := 5) rfl
    have c6 := x_a.cell (i := 6) rfl
    have c7 := x_a.cell (i := 7) rfl
    have c8 := x_a.cell (i := 8) rfl
    go_enter Try.func7, Try.ntmps7
    go_wp2_with fail
    refine (sHas_2 _).mono ?_
    rintro e w' ⟨rfl, rfl⟩
    go_wp2_with fail
    refine (sIn_any _ _ _ _).mono ?_
    rintro e w' ⟨rfl, rfl⟩
    rw [show inB 2 1 9 = true from rfl]
    go_wp2_with fail
    refine (sIn_any _ _ _ _).mono ?_
    rintro e w' ⟨rfl, rfl⟩
    rw [Hha.out]
    go_wp2_with fail
    refine (sIn_any _ _ _ _).mono ?_
    rintro e w' ⟨rfl, rfl⟩
    rw [Hho.out]
    go_wp2_with fail
    refine (sNode4_any _ _).mono ?_
    rintro e w' ⟨rfl, rfl⟩
    rw [Hht.out]
    go_wp2
    go_ret
    exact ⟨rfl, B0⟩
  have qOther : (r.Other != 0) = false := by simpa using zOther
  by_cases zTo : r.To = 0
  case neg =>
    rw [show recOkB r = false by simp [recOkB, recAmtB, recMsgB, kAcct, kOther, kTo, kAmt, e2, show inB 2 1 9 = true from rfl, show inB 0 0 2 = true from rfl, show inB 0 0 3 = true from rfl, show numB 0 = true from rfl, bne, zTo]]
    have qTo : (r.To != 0) = true := by simpa using zTo
    rw [e2] at x_a hwa ⊢
    clear zTo zOther e2 ha ho ht
    have c0 := x_a.cell (i := 0) rfl
    have c1 := x_a.cell (i := 1) rfl
    have c2 := x_a.cell (i := 2) rfl
    have c3 := x_a.cell (i := 3) rfl
    have c4 := x_a.cell (i := 4) rfl
    have c5 := x_a.cell (i := 5) rfl
    have c6 := x_a.cell (i := 6) rfl
    have c7 := x_a.cell (i := 7) rfl
    have c8 := x_a.cell (i := 8) rfl
    go_enter Try.func7, Try.ntmps7
    go_wp2_with fail
    refine (sHas_2 _).mono ?_
    rintro e w' ⟨rfl, rfl⟩
    go_wp2_with fail
    refine (sIn_any _ _ _ _).mono ?_
    rintro e w' ⟨rfl, rfl⟩
    rw [show inB 2 1 9 = true from rfl]
    go_wp2_with fail
    refine (sIn_any _ _ _ _).mono ?_
    rintro e w' ⟨rfl, rfl⟩
    rw [Hha.out]
    go_wp2_with fail
    refine (sIn_any _ _ _ _).mono ?_
    rintro e w' ⟨rfl, rfl⟩
    rw [Hho.out]
    go_wp2_with fail
    refine (sNode4_any _ _).mono ?_
    rintro e w' ⟨rfl, rfl⟩
    rw [Hht.out]
    go_wp2
    go_ret
    exact ⟨rfl, B0⟩
  have qTo : (r.To != 0) = false := by simpa using zTo
  by_cases hm : amtB r.Amt = true
  case neg =>
    have hm' : amtB r.Amt = false := by simpa using hm
    rw [show recOkB r = false by simp [recOkB, recAmtB, recMsgB, kAcct, kOther, kTo, kAmt, e2, show inB 2 1 9 = true from rfl, show inB 0 0 2 = true from rfl, show inB 0 0 3 = true from rfl, show numB 0 = true from rfl, bne, hm']]
    have HM := Lib.hid hm'
    rw [e2] at x_a hwa ⊢
    clear hm hm' e2 ha ho ht zOther zTo
    have c0 := x_a.cell (i := 0) rfl
    have c1 := x_a.cell (i := 1) rfl
    have c2 := x_a.cell (i := 2) rfl
    have c3 := x_a.cell (i := 3) rfl
    have c4 := x_a.cell (i := 4) rfl
    have c5 := x_a.cell (i := 5) rfl
    have c6 := x_a.cell (i := 6) rfl
    have c7 := x_a.cell (i := 7) rfl
    have c8 := x_a.cell (i := 8) rfl
    go_enter Try.func7, Try.ntmps7
    go_wp2_with fail
    refine (sHas_2 _).mono ?_
    rintro e w' ⟨rfl, rfl⟩
    go_wp2_with fail
    refine (sIn_any _ _ _ _).mono ?_
    rintro e w' ⟨rfl, rfl⟩
    rw [show inB 2 1 9 = true from rfl]
    go_wp2_with fail
    refine (sIn_any _ _ _ _).mono ?_
    rintro e w' ⟨rfl, rfl⟩
    rw [Hha.out]
    go_wp2_with fail
    refine (sIn_any _ _ _ _).mono ?_
    rintro e w' ⟨rfl, rfl⟩
    rw [Hho.out]
    go_wp2_with fail
    refine (sNode4_any _ _).mono ?_
    rintro e w' ⟨rfl, rfl⟩
    rw [Hht.out]
    go_wp2_with fail
    refine (sAmt_any _ _).mono ?_
    rintro e w' ⟨rfl, rfl⟩
    rw [HM.out]
    go_wp2
    go_ret
    exact ⟨rfl, B0⟩
  have HM := Lib.hid hm
  by_cases zm : r.Amt = 0
  case pos =>
    exfalso
    have := amtB_parts hm
    omega
  have qm : (r.Amt == 0) = false := by simpa using zm
  rw [show recOkB r = decide (r.M = ⟨0, 0, 0, 0⟩) by simp [recOkB, recAmtB, recMsgB, kAcct, kOther, kTo, kAmt, e2, show inB 2 1 9 = true from rfl, show inB 0 0 2 = true from rfl, show inB 0 0 3 = true from rfl, show numB 0 = true from rfl, bne, ha, ho, ht, hm, zOther, zTo]]
  have gd := fun op x y W xs ys => guard_msg_run op x y W xs ys
  have ge := fun W => eql_msg_run W r.M ⟨0, 0, 0, 0⟩
  rw [e2] at x_a hwa ⊢
  clear hm e2 ha ho ht zOther zTo zm
  have c0 := x_a.cell (i := 0) rfl
  have c1 := x_a.cell (i := 1) rfl
  have c2 := x_a.cell (i := 2) rfl
  have c3 := x_a.cell (i := 3) rfl
  have c4 := x_a.cell (i := 4) rfl
  have c5 := x_a.cell (i := 5) rfl
  have c6 := x_a.cell (i := 6) rfl
  have c7 := x_a.cell (i := 7) rfl
  have c8 := x_a.cell (i := 8) rfl
  go_enter Try.func7, Try.ntmps7
  go_wp2_with fail
  refine (sHas_2 _).mono ?_
  rintro e w' ⟨rfl, rfl⟩
  go_wp2_with fail
  refine (sIn_any _ _ _ _).mono ?_
  rintro e w' ⟨rfl, rfl⟩
  rw [show inB 2 1 9 = true from rfl]
  go_wp2_with fail
  refine (sIn_any _ _ _ _).mono ?_
  rintro e w' ⟨rfl, rfl⟩
  rw [Hha.out]
  go_wp2_with fail
  refine (sIn_any _ _ _ _).mono ?_
  rintro e w' ⟨rfl, rfl⟩
  rw [Hho.out]
  go_wp2_with fail
  refine (sNode4_any _ _).mono ?_
  rintro e w' ⟨rfl, rfl⟩
  rw [Hht.out]
  go_wp2_with fail
  refine (sAmt_any _ _).mono ?_
  rintro e w' ⟨rfl, rfl⟩
  rw [HM.out]
  go_wp2
  go_ret
  exact ⟨rfl, B0⟩

set_option maxHeartbeats 8000000 in
theorem sRecOk_3 {w : World} {r : MRec} (e3 : r.Kind = 3) (ha : inB r.Acct 0 2 = true) (ho : inB r.Other 0 2 = true) (ht : inB r.To 0 3 = true) : Calls Try.prog 7 #[.agg #[.int .i64 r.Kind, .int .i64 r.Acct, .int .i64 r.Other, .int .i64 r.To, .int .i64 r.Amt, .int .i64 r.M.Kind, .int .i64 r.M.Acct, .int .i64 r.M.Amt, .int .i64 r.M.Src]] w fun e w' => e = .returned (.bool (recOkB r)) ∧ Below w.heap.size w w' := by
  obtain ⟨wa, hwa, B0, sa, x_a⟩ := frame1 w 29 [.int .i64 r.Kind, .int .i64 r.Acct, .int .i64 r.Other, .int .i64 r.To, .int .i64 r.Amt, .int .i64 r.M.Kind, .int .i64 r.M.Acct, .int .i64 r.M.Amt, .int .i64 r.M.Src]
  have sa_1 := Nat.le_of_eq sa
  have sa_2 := Nat.le_of_eq sa.symm
  clear sa
  have Hha := Lib.hid ha
  have Hho := Lib.hid ho
  have Hht := Lib.hid ht
  by_cases zOther : r.Other = 0
  case neg =>
    rw [show recOkB r = false by simp [recOkB, recAmtB, recMsgB, kAcct, kOther, kTo, kAmt, e3, show inB 3 1 9 = true from rfl, show inB 0 0 2 = true from rfl, show inB 0 0 3 = true from rfl, show numB 0 = true from rfl, bne, zOther]]
    have qOther : (r.Other != 0) = true := by simpa using zOther
    rw [e3] at x_a hwa ⊢
    clear zOther e3 ha ho ht
    have c0 := x_a.cell (i := 0) rfl
    have c1 := x_a.cell (i := 1) rfl
    have c2 := x_a.cell (i := 2) rfl
    have c3 := x_a.cell (i := 3) rfl
    have c4 := x_a.cell (i := 4) rfl
    have c5 := x_a.cell (i := 5) rfl
    have c6 := x_a.cell (i := 6) rfl
    have c7 := x_a.cell (i := 7) rfl
    have c8 := x_a.cell (i := 8) rfl
    go_enter Try.func7, Try.ntmps7
    go_wp2_with fail
    refine (sHas_3 _).mono ?_
    rintro e w' ⟨rfl, rfl⟩
    go_wp2_with fail
    refine (sIn_any _ _ _ _).mono ?_
    rintro e w' ⟨rfl, rfl⟩
    rw [show inB 3 1 9 = true from rfl]
    go_wp2_with fail
    refine (sIn_any _ _ _ _).mono ?_
    rintro e w' ⟨rfl, rfl⟩
    rw [Hha.out]
    go_wp2_with fail
    refine (sIn_any _ _ _ _).mono ?_
    rintro e w' ⟨rfl, rfl⟩
    rw [Hho.out]
    go_wp2_with fail
    refine (sNode4_any _ _).mono ?_
    rintro e w' ⟨rfl, rfl⟩
    rw [Hht.out]
    go_wp2
    go_ret
    exact ⟨rfl, B0⟩
  have qOther : (r.Other != 0) = false := by simpa using zOther
  by_cases hm : amtB r.Amt = true
  case neg =>
    have hm' : amtB r.Amt = false := by simpa using hm
    rw [show recOkB r = false by simp [recOkB, recAmtB, recMsgB, kAcct, kOther, kTo, kAmt, e3, show inB 3 1 9 = true from rfl, show inB 0 0 2 = true from rfl, show inB 0 0 3 = true from rfl, show numB 0 = true from rfl, bne, hm']]
    have HM := Lib.hid hm'
    rw [e3] at x_a hwa ⊢
    clear hm hm' e3 ha ho ht zOther
    have c0 := x_a.cell (i := 0) rfl
    have c1 := x_a.cell (i := 1) rfl
    have c2 := x_a.cell (i := 2) rfl
    have c3 := x_a.cell (i := 3) rfl
    have c4 := x_a.cell (i := 4) rfl
    have c5 := x_a.cell (i := 5) rfl
    have c6 := x_a.cell (i := 6) rfl
    have c7 := x_a.cell (i := 7) rfl
    have c8 := x_a.cell (i := 8) rfl
    go_enter Try.func7, Try.ntmps7
    go_wp2_with fail
    refine (sHas_3 _).mono ?_
    rintro e w' ⟨rfl, rfl⟩
    go_wp2_with fail
    refine (sIn_any _ _ _ _).mono ?_
    rintro e w' ⟨rfl, rfl⟩
    rw [show inB 3 1 9 = true from rfl]
    go_wp2_with fail
    refine (sIn_any _ _ _ _).mono ?_
    rintro e w' ⟨rfl, rfl⟩
    rw [Hha.out]
    go_wp2_with fail
    refine (sIn_any _ _ _ _).mono ?_
    rintro e w' ⟨rfl, rfl⟩
    rw [Hho.out]
    go_wp2_with fail
    refine (sNode4_any _ _).mono ?_
    rintro e w' ⟨rfl, rfl⟩
    rw [Hht.out]
    go_wp2_with fail
    refine (sAmt_any _ _).mono ?_
    rintro e w' ⟨rfl, rfl⟩
    rw [HM.out]
    go_wp2
    go_ret
    exact ⟨rfl, B0⟩
  have HM := Lib.hid hm
  by_cases zm : r.Amt = 0
  case pos =>
    exfalso
    have := amtB_parts hm
    omega
  have qm : (r.Amt == 0) = false := by simpa using zm
  rw [show recOkB r = decide (r.M = ⟨0, 0, 0, 0⟩) by simp [recOkB, recAmtB, recMsgB, kAcct, kOther, kTo, kAmt, e3, show inB 3 1 9 = true from rfl, show inB 0 0 2 = true from rfl, show inB 0 0 3 = true from rfl, show numB 0 = true from rfl, bne, ha, ho, ht, hm, zOther]]
  have gd := fun op x y W xs ys => guard_msg_run op x y W xs ys
  have ge := fun W => eql_msg_run W r.M ⟨0, 0, 0, 0⟩
  rw [e3] at x_a hwa ⊢
  clear hm e3 ha ho ht zOther zm
  have c0 := x_a.cell (i := 0) rfl
  have c1 := x_a.cell (i := 1) rfl
  have c2 := x_a.cell (i := 2) rfl
  have c3 := x_a.cell (i := 3) rfl
  have c4 := x_a.cell (i := 4) rfl
  have c5 := x_a.cell (i := 5) rfl
  have c6 := x_a.cell (i := 6) rfl
  have c7 := x_a.cell (i := 7) rfl
  have c8 := x_a.cell (i := 8) rfl
  go_enter Try.func7, Try.ntmps7
  go_wp2_with fail
  refine (sHas_3 _).mono ?_
  rintro e w' ⟨rfl, rfl⟩
  go_wp2_with fail
  refine (sIn_any _ _ _ _).mono ?_
  rintro e w' ⟨rfl, rfl⟩
  rw [show inB 3 1 9 = true from rfl]
  go_wp2_with fail
  refine (sIn_any _ _ _ _).mono ?_
  rintro e w' ⟨rfl, rfl⟩
  rw [Hha.out]
  go_wp2_with fail
  refine (sIn_any _ _ _ _).mono ?_
  rintro e w' ⟨rfl, rfl⟩
  rw [Hho.out]
  go_wp2_with fail
  refine (sNode4_any _ _).mono ?_
  rintro e w' ⟨rfl, rfl⟩
  rw [Hht.out]
  go_wp2_with fail
  refine (sAmt_any _ _).mono ?_
  rintro e w' ⟨rfl, rfl⟩
  rw [HM.out]
  go_wp2
  go_ret
  exact ⟨rfl, B0⟩

end Go.Proofs.Ytkbhbccpmmhelaa

namespace Go.Proofs.Ytkbhbccpmmhelaa
open Go.RowKit
set_option linter.unusedVariables false
set_option linter.unusedSimpArgs false

set_option maxHeartbeats 8000000 in
theorem sRecOk_4 {w : World} {r : MRec} (e4 : r.Kind = 4) (ha : inB r.Acct 0 2 = true) (ho : inB r.Other 0 2 = true) (ht : inB r.To 0 3 = true) : Calls Try.prog 7 #[.agg #[.int .i64 r.Kind, .int .i64 r.Acct, .int .i64 r.Other, .int .i64 r.To, .int .i64 r.Amt, .int .i64 r.M.Kind, .int .i64 r.M.Acct, .int .i64 r.M.Amt, .int .i64 r.M.Src]] w fun e w' => e = .returned (.bool (recOkB r)) ∧ Below w.heap.size w w' := by
  obtain ⟨wa, hwa, B0, sa, x_a⟩ := frame1 w 29 [.int .i64 r.Kind, .int .i64 r.Acct, .int .i64 r.Other, .int .i64 r.To, .int .i64 r.Amt, .int .i64 r.M.Kind, .int .i64 r.M.Acct, .int .i64 r.M.Amt, .int .i64 r.M.Src]
  have sa_1 := Nat.le_of_eq sa
  have sa_2 := Nat.le_of_eq sa.symm
  clear sa
  have Hha := Lib.hid ha
  have Hho := Lib.hid ho
  have Hht := Lib.hid ht
  by_cases hm : amtB r.Amt = true
  case neg =>
    have hm' : amtB r.Amt = false := by simpa using hm
    rw [show recOkB r = false by simp [recOkB, recAmtB, recMsgB, kAcct, kOther, kTo, kAmt, e4, show inB 4 1 9 = true from rfl, show inB 0 0 2 = true from rfl, show inB 0 0 3 = true from rfl, show numB 0 = true from rfl, bne, hm']]
    have HM := Lib.hid hm'
    rw [e4] at x_a hwa ⊢
    clear hm hm' e4 ha ho ht 
    have c0 := x_a.cell (i := 0) rfl
    have c1 := x_a.cell (i := 1) rfl
    have c2 := x_a.cell (i := 2) rfl
    have c3 := x_a.cell (i := 3) rfl
    have c4 := x_a.cell (i := 4) rfl
    have c5 := x_a.cell (i := 5) rfl
    have c6 := x_a.cell (i := 6) rfl
    have c7 := x_a.cell (i := 7) rfl
    have c8 := x_a.cell (i := 8) rfl
    go_enter Try.func7, Try.ntmps7
    go_wp2_with fail
    refine (sHas_4 _).mono ?_
    rintro e w' ⟨rfl, rfl⟩
    go_wp2_with fail
    refine (sIn_any _ _ _ _).mono ?_
    rintro e w' ⟨rfl, rfl⟩
    rw [show inB 4 1 9 = true from rfl]
    go_wp2_with fail
    refine (sIn_any _ _ _ _).mono ?_
    rintro e w' ⟨rfl, rfl⟩
    rw [Hha.out]
    go_wp2_with fail
    refine (sIn_any _ _ _ _).mono ?_
    rintro e w' ⟨rfl, rfl⟩
    rw [Hho.out]
    go_wp2_with fail
    refine (sNode4_any _ _).mono ?_
    rintro e w' ⟨rfl, rfl⟩
    rw [Hht.out]
    go_wp2_with fail
    refine (sAmt_any _ _).mono ?_
    rintro e w' ⟨rfl, rfl⟩
    rw [HM.out]
    go_wp2
    go_ret
    exact ⟨rfl, B0⟩
  have HM := Lib.hid hm
  by_cases zm : r.Amt = 0
  case pos =>
    exfalso
    have := amtB_parts hm
    omega
  have qm : (r.Amt == 0) = false := by simpa using zm
  rw [show recOkB r = decide (r.M = ⟨0, 0, 0, 0⟩) by simp [recOkB, recAmtB, recMsgB, kAcct, kOther, kTo, kAmt, e4, show inB 4 1 9 = true from rfl, show inB 0 0 2 = true from rfl, show inB 0 0 3 = true from rfl, show numB 0 = true from rfl, bne, ha, ho, ht, hm]]
  have gd := fun op x y W xs ys => guard_msg_run op x y W xs ys
  have ge := fun W => eql_msg_run W r.M ⟨0, 0, 0, 0⟩
  rw [e4] at x_a hwa ⊢
  clear hm e4 ha ho ht zm
  have c0 := x_a.cell (i := 0) rfl
  have c1 := x_a.cell (i := 1) rfl
  have c2 := x_a.cell (i := 2) rfl
  have c3 := x_a.cell (i := 3) rfl
  have c4 := x_a.cell (i := 4) rfl
  have c5 := x_a.cell (i := 5) rfl
  have c6 := x_a.cell (i := 6) rfl
  have c7 := x_a.cell (i := 7) rfl
  have c8 := x_a.cell (i := 8) rfl
  go_enter Try.func7, Try.ntmps7
  go_wp2_with fail
  refine (sHas_4 _).mono ?_
  rintro e w' ⟨rfl, rfl⟩
  go_wp2_with fail
  refine (sIn_any _ _ _ _).mono ?_
  rintro e w' ⟨rfl, rfl⟩
  rw [show inB 4 1 9 = true from rfl]
  go_wp2_with fail
  refine (sIn_any _ _ _ _).mono ?_
  rintro e w' ⟨rfl, rfl⟩
  rw [Hha.out]
  go_wp2_with fail
  refine (sIn_any _ _ _ _).mono ?_
  rintro e w' ⟨rfl, rfl⟩
  rw [Hho.out]
  go_wp2_with fail
  refine (sNode4_any _ _).mono ?_
  rintro e w' ⟨rfl, rfl⟩
  rw [Hht.out]
  go_wp2_with fail
  refine (sAmt_any _ _).mono ?_
  rintro e w' ⟨rfl, rfl⟩
  rw [HM.out]
  go_wp2
  go_ret
  exact ⟨rfl, B0⟩

set_option maxHeartbeats 8000000 in
theorem sRecOk_5 {w : World} {r : MRec} (e5 : r.Kind = 5) (ha : inB r.Acct 0 2 = true) (ho : inB r.Other 0 2 = true) (ht : inB r.To 0 3 = true) : Calls Try.prog 7 #[.agg #[.int .i64 r.Kind, .int .i64 r.Acct, .int .i64 r.Other, .int .i64 r.To, .int .i64 r.Amt, .int .i64 r.M.Kind, .int .i64 r.M.Acct, .int .i64 r.M.Amt, .int .i64 r.M.Src]] w fun e w' => e = .returned (.bool (recOkB r)) ∧ Below w.heap.size w w' := by
  obtain ⟨wa, hwa, B0, sa, x_a⟩ := frame1 w 29 [.int .i64 r.Kind, .int .i64 r.Acct, .int .i64 r.Other, .int .i64 r.To, .int .i64 r.Amt, .int .i64 r.M.Kind, .int .i64 r.M.Acct, .int .i64 r.M.Amt, .int .i64 r.M.Src]
  have sa_1 := Nat.le_of_eq sa
  have sa_2 := Nat.le_of_eq sa.symm
  clear sa
  have Hha := Lib.hid ha
  have Hho := Lib.hid ho
  have Hht := Lib.hid ht
  by_cases zAcct : r.Acct = 0
  case neg =>
    rw [show recOkB r = false by simp [recOkB, recAmtB, recMsgB, kAcct, kOther, kTo, kAmt, e5, show inB 5 1 9 = true from rfl, show inB 0 0 2 = true from rfl, show inB 0 0 3 = true from rfl, show numB 0 = true from rfl, bne, zAcct]]
    have qAcct : (r.Acct != 0) = true := by simpa using zAcct
    rw [e5] at x_a hwa ⊢
    clear zAcct e5 ha ho ht
    have c0 := x_a.cell (i := 0) rfl
    have c1 := x_a.cell (i := 1) rfl
    have c2 := x_a.cell (i := 2) rfl
    have c3 := x_a.cell (i := 3) rfl
    have c4 := x_a.cell (i := 4) rfl
    have c5 := x_a.cell (i := 5) rfl
    have c6 := x_a.cell (i := 6) rfl
    have c7 := x_a.cell (i := 7) rfl
    have c8 := x_a.cell (i := 8) rfl
    go_enter Try.func7, Try.ntmps7
    go_wp2_with fail
    refine (sHas_5 _).mono ?_
    rintro e w' ⟨rfl, rfl⟩
    go_wp2_with fail
    refine (sIn_any _ _ _ _).mono ?_
    rintro e w' ⟨rfl, rfl⟩
    rw [show inB 5 1 9 = true from rfl]
    go_wp2_with fail
    refine (sIn_any _ _ _ _).mono ?_
    rintro e w' ⟨rfl, rfl⟩
    rw [Hha.out]
    go_wp2_with fail
    refine (sIn_any _ _ _ _).mono ?_
    rintro e w' ⟨rfl, rfl⟩
    rw [Hho.out]
    go_wp2_with fail
    refine (sNode4_any _ _).mono ?_
    rintro e w' ⟨rfl, rfl⟩
    rw [Hht.out]
    go_wp2
    go_ret
    exact ⟨rfl, B0⟩
  have qAcct : (r.Acct != 0) = false := by simpa using zAcct
  by_cases zOther : r.Other = 0
  case neg =>
    rw [show recOkB r = false by simp [recOkB, recAmtB, recMsgB, kAcct, kOther, kTo, kAmt, e5, show inB 5 1 9 = true from rfl, show inB 0 0 2 = true from rfl, show inB 0 0 3 = true from rfl, show numB 0 = true from rfl, bne, zOther]]
    have qOther : (r.Other != 0) = true := by simpa using zOther
    rw [e5] at x_a hwa ⊢
    clear zOther zAcct e5 ha ho ht
    have c0 := x_a.cell (i := 0) rfl
    have c1 := x_a.cell (i := 1) rfl
    have c2 := x_a.cell (i := 2) rfl
    have c3 := x_a.cell (i := 3) rfl
    have c4 := x_a.cell (i := 4) rfl
    have c5 := x_a.cell (i := 5) rfl
    have c6 := x_a.cell (i := 6) rfl
    have c7 := x_a.cell (i := 7) rfl
    have c8 := x_a.cell (i := 8) rfl
    go_enter Try.func7, Try.ntmps7
    go_wp2_with fail
    refine (sHas_5 _).mono ?_
    rintro e w' ⟨rfl, rfl⟩
    go_wp2_with fail
    refine (sIn_any _ _ _ _).mono ?_
    rintro e w' ⟨rfl, rfl⟩
    rw [show inB 5 1 9 = true from rfl]
    go_wp2_with fail
    refine (sIn_any _ _ _ _).mono ?_
    rintro e w' ⟨rfl, rfl⟩
    rw [Hha.out]
    go_wp2_with fail
    refine (sIn_any _ _ _ _).mono ?_
    rintro e w' ⟨rfl, rfl⟩
    rw [Hho.out]
    go_wp2_with fail
    refine (sNode4_any _ _).mono ?_
    rintro e w' ⟨rfl, rfl⟩
    rw [Hht.out]
    go_wp2
    go_ret
    exact ⟨rfl, B0⟩
  have qOther : (r.Other != 0) = false := by simpa using zOther
  by_cases hm : numB r.Amt = true
  case neg =>
    have hm' : numB r.Amt = false := by simpa using hm
    rw [show recOkB r = false by simp [recOkB, recAmtB, recMsgB, kAcct, kOther, kTo, kAmt, e5, show inB 5 1 9 = true from rfl, show inB 0 0 2 = true from rfl, show inB 0 0 3 = true from rfl, show numB 0 = true from rfl, bne, hm']]
    have HM := Lib.hid hm'
    rw [e5] at x_a hwa ⊢
    clear hm hm' e5 ha ho ht zAcct zOther
    have c0 := x_a.cell (i := 0) rfl
    have c1 := x_a.cell (i := 1) rfl
    have c2 := x_a.cell (i := 2) rfl
    have c3 := x_a.cell (i := 3) rfl
    have c4 := x_a.cell (i := 4) rfl
    have c5 := x_a.cell (i := 5) rfl
    have c6 := x_a.cell (i := 6) rfl
    have c7 := x_a.cell (i := 7) rfl
    have c8 := x_a.cell (i := 8) rfl
    go_enter Try.func7, Try.ntmps7
    go_wp2_with fail
    refine (sHas_5 _).mono ?_
    rintro e w' ⟨rfl, rfl⟩
    go_wp2_with fail
    refine (sIn_any _ _ _ _).mono ?_
    rintro e w' ⟨rfl, rfl⟩
    rw [show inB 5 1 9 = true from rfl]
    go_wp2_with fail
    refine (sIn_any _ _ _ _).mono ?_
    rintro e w' ⟨rfl, rfl⟩
    rw [Hha.out]
    go_wp2_with fail
    refine (sIn_any _ _ _ _).mono ?_
    rintro e w' ⟨rfl, rfl⟩
    rw [Hho.out]
    go_wp2_with fail
    refine (sNode4_any _ _).mono ?_
    rintro e w' ⟨rfl, rfl⟩
    rw [Hht.out]
    go_wp2_with fail
    refine (sNum_any _ _).mono ?_
    rintro e w' ⟨rfl, rfl⟩
    rw [HM.out]
    go_wp2
    go_ret
    exact ⟨rfl, B0⟩
  have HM := Lib.hid hm
  by_cases zm : r.Amt = 0
  case pos =>
    rw [show recOkB r = false by simp [recOkB, recAmtB, recMsgB, kAcct, kOther, kTo, kAmt, e5, show inB 5 1 9 = true from rfl, show inB 0 0 2 = true from rfl, show inB 0 0 3 = true from rfl, show numB 0 = true from rfl, bne, zm]]
    have qm : (r.Amt == 0) = true := by simpa using zm
    rw [e5] at x_a hwa ⊢
    clear zm hm e5 ha ho ht zAcct zOther
    have c0 := x_a.cell (i := 0) rfl
    have c1 := x_a.cell (i := 1) rfl
    have c2 := x_a.cell (i := 2) rfl
    have c3 := x_a.cell (i := 3) rfl
    have c4 := x_a.cell (i := 4) rfl
    have c5 := x_a.cell (i := 5) rfl
    have c6 := x_a.cell (i := 6) rfl
    have c7 := x_a.cell (i := 7) rfl
    have c8 := x_a.cell (i := 8) rfl
    go_enter Try.func7, Try.ntmps7
    go_wp2_with fail
    refine (sHas_5 _).mono ?_
    rintro e w' ⟨rfl, rfl⟩
    go_wp2_with fail
    refine (sIn_any _ _ _ _).mono ?_
    rintro e w' ⟨rfl, rfl⟩
    rw [show inB 5 1 9 = true from rfl]
    go_wp2_with fail
    refine (sIn_any _ _ _ _).mono ?_
    rintro e w' ⟨rfl, rfl⟩
    rw [Hha.out]
    go_wp2_with fail
    refine (sIn_any _ _ _ _).mono ?_
    rintro e w' ⟨rfl, rfl⟩
    rw [Hho.out]
    go_wp2_with fail
    refine (sNode4_any _ _).mono ?_
    rintro e w' ⟨rfl, rfl⟩
    rw [Hht.out]
    go_wp2_with fail
    refine (sNum_any _ _).mono ?_
    rintro e w' ⟨rfl, rfl⟩
    rw [HM.out]
    go_wp2
    go_ret
    exact ⟨rfl, B0⟩
  have qm : (r.Amt == 0) = false := by simpa using zm
  rw [show recOkB r = msgOkB r.M by simp [recOkB, recAmtB, recMsgB, kAcct, kOther, kTo, kAmt, e5, show inB 5 1 9 = true from rfl, show inB 0 0 2 = true from rfl, show inB 0 0 3 = true from rfl, show numB 0 = true from rfl, bne, ha, ho, ht, hm, zAcct, zOther, zm]]
  rw [e5] at x_a hwa ⊢
  clear hm e5 ha ho ht zAcct zOther zm
  have c0 := x_a.cell (i := 0) rfl
  have c1 := x_a.cell (i := 1) rfl
  have c2 := x_a.cell (i := 2) rfl
  have c3 := x_a.cell (i := 3) rfl
  have c4 := x_a.cell (i := 4) rfl
  have c5 := x_a.cell (i := 5) rfl
  have c6 := x_a.cell (i := 6) rfl
  have c7 := x_a.cell (i := 7) rfl
  have c8 := x_a.cell (i := 8) rfl
  go_enter Try.func7, Try.ntmps7
  go_wp2_with fail
  refine (sHas_5 _).mono ?_
  rintro e w' ⟨rfl, rfl⟩
  go_wp2_with fail
  refine (sIn_any _ _ _ _).mono ?_
  rintro e w' ⟨rfl, rfl⟩
  rw [show inB 5 1 9 = true from rfl]
  go_wp2_with fail
  refine (sIn_any _ _ _ _).mono ?_
  rintro e w' ⟨rfl, rfl⟩
  rw [Hha.out]
  go_wp2_with fail
  refine (sIn_any _ _ _ _).mono ?_
  rintro e w' ⟨rfl, rfl⟩
  rw [Hho.out]
  go_wp2_with fail
  refine (sNode4_any _ _).mono ?_
  rintro e w' ⟨rfl, rfl⟩
  rw [Hht.out]
  go_wp2_with fail
  refine (sNum_any _ _).mono ?_
  rintro e w' ⟨rfl, rfl⟩
  rw [HM.out]
  go_wp2_with fail
  refine (sMsgOk_c (m := r.M) rv_msg_mk).mono ?_
  rintro e w1 ⟨rfl, hb1⟩
  go_wp2
  go_ret
  exact ⟨rfl, B0.trans (hb1.mono B0.size)⟩

set_option maxHeartbeats 8000000 in
theorem sRecOk_6 {w : World} {r : MRec} (e6 : r.Kind = 6) (ha : inB r.Acct 0 2 = true) (ho : inB r.Other 0 2 = true) (ht : inB r.To 0 3 = true) : Calls Try.prog 7 #[.agg #[.int .i64 r.Kind, .int .i64 r.Acct, .int .i64 r.Other, .int .i64 r.To, .int .i64 r.Amt, .int .i64 r.M.Kind, .int .i64 r.M.Acct, .int .i64 r.M.Amt, .int .i64 r.M.Src]] w fun e w' => e = .returned (.bool (recOkB r)) ∧ Below w.heap.size w w' := by
  obtain ⟨wa, hwa, B0, sa, x_a⟩ := frame1 w 29 [.int .i64 r.Kind, .int .i64 r.Acct, .int .i64 r.Other, .int .i64 r.To, .int .i64 r.Amt, .int .i64 r.M.Kind, .int .i64 r.M.Acct, .int .i64 r.M.Amt, .int .i64 r.M.Src]
  have sa_1 := Nat.le_of_eq sa
  have sa_2 := Nat.le_of_eq sa.symm
  clear sa
  have Hha := Lib.hid ha
  have Hho := Lib.hid ho
  have Hht := Lib.hid ht
  by_cases zAcct : r.Acct = 0
  case neg =>
    rw [show recOkB r = false by simp [recOkB, recAmtB, recMsgB, kAcct, kOther, kTo, kAmt, e6, show inB 6 1 9 = true from rfl, show inB 0 0 2 = true from rfl, show inB 0 0 3 = true from rfl, show numB 0 = true from rfl, bne, zAcct]]
    have qAcct : (r.Acct != 0) = true := by simpa using zAcct
    rw [e6] at x_a hwa ⊢
    clear zAcct e6 ha ho ht
    have c0 := x_a.cell (i := 0) rfl
    have c1 := x_a.cell (i := 1) rfl
    have c2 := x_a.cell (i := 2) rfl
    have c3 := x_a.cell (i := 3) rfl
    have c4 := x_a.cell (i := 4) rfl
    have c5 := x_a.cell (i := 5) rfl
    have c6 := x_a.cell (i := 6) rfl
    have c7 := x_a.cell (i := 7) rfl
    have c8 := x_a.cell (i := 8) rfl
    go_enter Try.func7, Try.ntmps7
    go_wp2_with fail
    refine (sHas_6 _).mono ?_
    rintro e w' ⟨rfl, rfl⟩
    go_wp2_with fail
    refine (sIn_any _ _ _ _).mono ?_
    rintro e w' ⟨rfl, rfl⟩
    rw [show inB 6 1 9 = true from rfl]
    go_wp2_with fail
    refine (sIn_any _ _ _ _).mono ?_
    rintro e w' ⟨rfl, rfl⟩
    rw [Hha.out]
    go_wp2_with fail
    refine (sIn_any _ _ _ _).mono ?_
    rintro e w' ⟨rfl, rfl⟩
    rw [Hho.out]
    go_wp2_with fail
    refine (sNode4_any _ _).mono ?_
    rintro e w' ⟨rfl, rfl⟩
    rw [Hht.out]
    go_wp2
    go_ret
    exact ⟨rfl, B0⟩
  have qAcct : (r.Acct != 0) = false := by simpa using zAcct
  by_cases zOther : r.Other = 0
  case neg =>
    rw [show recOkB r = false by simp [recOkB, recAmtB, recMsgB, kAcct, kOther, kTo, kAmt, e6, show inB 6 1 9 = true from rfl, show inB 0 0 2 = true from rfl, show inB 0 0 3 = true from rfl, show numB 0 = true from rfl, bne, zOther]]
    have qOther : (r.Other != 0) = true := by simpa using zOther
    rw [e6] at x_a hwa ⊢
    clear zOther zAcct e6 ha ho ht
    have c0 := x_a.cell (i := 0) rfl
    have c1 := x_a.cell (i := 1) rfl
    have c2 := x_a.cell (i := 2) rfl
    have c3 := x_a.cell (i := 3) rfl
    have c4 := x_a.cell (i := 4) rfl
    have c5 := x_a.cell (i := 5) rfl
    have c6 := x_a.cell (i := 6) rfl
    have c7 := x_a.cell (i := 7) rfl
    have c8 := x_a.cell (i := 8) rfl
    go_enter Try.func7, Try.ntmps7
    go_wp2_with fail
    refine (sHas_6 _).mono ?_
    rintro e w' ⟨rfl, rfl⟩
    go_wp2_with fail
    refine (sIn_any _ _ _ _).mono ?_
    rintro e w' ⟨rfl, rfl⟩
    rw [show inB 6 1 9 = true from rfl]
    go_wp2_with fail
    refine (sIn_any _ _ _ _).mono ?_
    rintro e w' ⟨rfl, rfl⟩
    rw [Hha.out]
    go_wp2_with fail
    refine (sIn_any _ _ _ _).mono ?_
    rintro e w' ⟨rfl, rfl⟩
    rw [Hho.out]
    go_wp2_with fail
    refine (sNode4_any _ _).mono ?_
    rintro e w' ⟨rfl, rfl⟩
    rw [Hht.out]
    go_wp2
    go_ret
    exact ⟨rfl, B0⟩
  have qOther : (r.Other != 0) = false := by simpa using zOther
  by_cases hm : numB r.Amt = true
  case neg =>
    have hm' : numB r.Amt = false := by simpa using hm
    rw [show recOkB r = false by simp [recOkB, recAmtB, recMsgB, kAcct, kOther, kTo, kAmt, e6, show inB 6 1 9 = true from rfl, show inB 0 0 2 = true from rfl, show inB 0 0 3 = true from rfl, show numB 0 = true from rfl, bne, hm']]
    have HM := Lib.hid hm'
    rw [e6] at x_a hwa ⊢
    clear hm hm' e6 ha ho ht zAcct zOther
    have c0 := x_a.cell (i := 0) rfl
    have c1 := x_a.cell (i := 1) rfl
    have c2 := x_a.cell (i := 2) rfl
    have c3 := x_a.cell (i := 3) rfl
    have c4 := x_a.cell (i := 4) rfl
    have c5 := x_a.cell (i := 5) rfl
    have c6 := x_a.cell (i := 6) rfl
    have c7 := x_a.cell (i := 7) rfl
    have c8 := x_a.cell (i := 8) rfl
    go_enter Try.func7, Try.ntmps7
    go_wp2_with fail
    refine (sHas_6 _).mono ?_
    rintro e w' ⟨rfl, rfl⟩
    go_wp2_with fail
    refine (sIn_any _ _ _ _).mono ?_
    rintro e w' ⟨rfl, rfl⟩
    rw [show inB 6 1 9 = true from rfl]
    go_wp2_with fail
    refine (sIn_any _ _ _ _).mono ?_
    rintro e w' ⟨rfl, rfl⟩
    rw [Hha.out]
    go_wp2_with fail
    refine (sIn_any _ _ _ _).mono ?_
    rintro e w' ⟨rfl, rfl⟩
    rw [Hho.out]
    go_wp2_with fail
    refine (sNode4_any _ _).mono ?_
    rintro e w' ⟨rfl, rfl⟩
    rw [Hht.out]
    go_wp2_with fail
    refine (sNum_any _ _).mono ?_
    rintro e w' ⟨rfl, rfl⟩
    rw [HM.out]
    go_wp2
    go_ret
    exact ⟨rfl, B0⟩
  have HM := Lib.hid hm
  rw [show recOkB r = decide (r.M = ⟨0, 0, 0, 0⟩) by simp [recOkB, recAmtB, recMsgB, kAcct, kOther, kTo, kAmt, e6, show inB 6 1 9 = true from rfl, show inB 0 0 2 = true from rfl, show inB 0 0 3 = true from rfl, show numB 0 = true from rfl, bne, ha, ho, ht, hm, zAcct, zOther]]
  have gd := fun op x y W xs ys => guard_msg_run op x y W xs ys
  have ge := fun W => eql_msg_run W r.M ⟨0, 0, 0, 0⟩
  rw [e6] at x_a hwa ⊢
  clear hm e6 ha ho ht zAcct zOther
  have c0 := x_a.cell (i := 0) rfl
  have c1 := x_a.cell (i := 1) rfl
  have c2 := x_a.cell (i := 2) rfl
  have c3 := x_a.cell (i := 3) rfl
  have c4 := x_a.cell (i := 4) rfl
  have c5 := x_a.cell (i := 5) rfl
  have c6 := x_a.cell (i := 6) rfl
  have c7 := x_a.cell (i := 7) rfl
  have c8 := x_a.cell (i := 8) rfl
  go_enter Try.func7, Try.ntmps7
  go_wp2_with fail
  refine (sHas_6 _).mono ?_
  rintro e w' ⟨rfl, rfl⟩
  go_wp2_with fail
  refine (sIn_any _ _ _ _).mono ?_
  rintro e w' ⟨rfl, rfl⟩
  rw [show inB 6 1 9 = true from rfl]
  go_wp2_with fail
  refine (sIn_any _ _ _ _).mono ?_
  rintro e w' ⟨rfl, rfl⟩
  rw [Hha.out]
  go_wp2_with fail
  refine (sIn_any _ _ _ _).mono ?_
  rintro e w' ⟨rfl, rfl⟩
  rw [Hho.out]
  go_wp2_with fail
  refine (sNode4_any _ _).mono ?_
  rintro e w' ⟨rfl, rfl⟩
  rw [Hht.out]
  go_wp2_with fail
  refine (sNum_any _ _).mono ?_
  rintro e w' ⟨rfl, rfl⟩
  rw [HM.out]
  go_wp2
  go_ret
  exact ⟨rfl, B0⟩

end Go.Proofs.Ytkbhbccpmmhelaa

namespace Go.Proofs.Ytkbhbccpmmhelaa
open Go.RowKit
set_option linter.unusedVariables false
set_option linter.unusedSimpArgs false

set_option maxHeartbeats 8000000 in
theorem sRecOk_7 {w : World} {r : MRec} (e7 : r.Kind = 7) (ha : inB r.Acct 0 2 = true) (ho : inB r.Other 0 2 = true) (ht : inB r.To 0 3 = true) : Calls Try.prog 7 #[.agg #[.int .i64 r.Kind, .int .i64 r.Acct, .int .i64 r.Other, .int .i64 r.To, .int .i64 r.Amt, .int .i64 r.M.Kind, .int .i64 r.M.Acct, .int .i64 r.M.Amt, .int .i64 r.M.Src]] w fun e w' => e = .returned (.bool (recOkB r)) ∧ Below w.heap.size w w' := by
  obtain ⟨wa, hwa, B0, sa, x_a⟩ := frame1 w 29 [.int .i64 r.Kind, .int .i64 r.Acct, .int .i64 r.Other, .int .i64 r.To, .int .i64 r.Amt, .int .i64 r.M.Kind, .int .i64 r.M.Acct, .int .i64 r.M.Amt, .int .i64 r.M.Src]
  have sa_1 := Nat.le_of_eq sa
  have sa_2 := Nat.le_of_eq sa.symm
  clear sa
  have Hha := Lib.hid ha
  have Hho := Lib.hid ho
  have Hht := Lib.hid ht
  by_cases zOther : r.Other = 0
  case neg =>
    rw [show recOkB r = false by simp [recOkB, recAmtB, recMsgB, kAcct, kOther, kTo, kAmt, e7, show inB 7 1 9 = true from rfl, show inB 0 0 2 = true from rfl, show inB 0 0 3 = true from rfl, show numB 0 = true from rfl, bne, zOther]]
    have qOther : (r.Other != 0) = true := by simpa using zOther
    rw [e7] at x_a hwa ⊢
    clear zOther e7 ha ho ht
    have c0 := x_a.cell (i := 0) rfl
    have c1 := x_a.cell (i := 1) rfl
    have c2 := x_a.cell (i := 2) rfl
    have c3 := x_a.cell (i := 3) rfl
    have c4 := x_a.cell (i := 4) rfl
    have c5 := x_a.cell (i := 5) rfl
    have c6 := x_a.cell (i := 6) rfl
    have c7 := x_a.cell (i := 7) rfl
    have c8 := x_a.cell (i := 8) rfl
    go_enter Try.func7, Try.ntmps7
    go_wp2_with fail
    refine (sHas_7 _).mono ?_
    rintro e w' ⟨rfl, rfl⟩
    go_wp2_with fail
    refine (sIn_any _ _ _ _).mono ?_
    rintro e w' ⟨rfl, rfl⟩
    rw [show inB 7 1 9 = true from rfl]
    go_wp2_with fail
    refine (sIn_any _ _ _ _).mono ?_
    rintro e w' ⟨rfl, rfl⟩
    rw [Hha.out]
    go_wp2_with fail
    refine (sIn_any _ _ _ _).mono ?_
    rintro e w' ⟨rfl, rfl⟩
    rw [Hho.out]
    go_wp2_with fail
    refine (sNode4_any _ _).mono ?_
    rintro e w' ⟨rfl, rfl⟩
    rw [Hht.out]
    go_wp2
    go_ret
    exact ⟨rfl, B0⟩
  have qOther : (r.Other != 0) = false := by simpa using zOther
  by_cases zTo : r.To = 0
  case neg =>
    rw [show recOkB r = false by simp [recOkB, recAmtB, recMsgB, kAcct, kOther, kTo, kAmt, e7, show inB 7 1 9 = true from rfl, show inB 0 0 2 = true from rfl, show inB 0 0 3 = true from rfl, show numB 0 = true from rfl, bne, zTo]]
    have qTo : (r.To != 0) = true := by simpa using zTo
    rw [e7] at x_a hwa ⊢
    clear zTo zOther e7 ha ho ht
    have c0 := x_a.cell (i := 0) rfl
    have c1 := x_a.cell (i := 1) rfl
    have c2 := x_a.cell (i := 2) rfl
    have c3 := x_a.cell (i := 3) rfl
    have c4 := x_a.cell (i := 4) rfl
    have c5 := x_a.cell (i := 5) rfl
    have c6 := x_a.cell (i := 6) rfl
    have c7 := x_a.cell (i := 7) rfl
    have c8 := x_a.cell (i := 8) rfl
    go_enter Try.func7, Try.ntmps7
    go_wp2_with fail
    refine (sHas_7 _).mono ?_
    rintro e w' ⟨rfl, rfl⟩
    go_wp2_with fail
    refine (sIn_any _ _ _ _).mono ?_
    rintro e w' ⟨rfl, rfl⟩
    rw [show inB 7 1 9 = true from rfl]
    go_wp2_with fail
    refine (sIn_any _ _ _ _).mono ?_
    rintro e w' ⟨rfl, rfl⟩
    rw [Hha.out]
    go_wp2_with fail
    refine (sIn_any _ _ _ _).mono ?_
    rintro e w' ⟨rfl, rfl⟩
    rw [Hho.out]
    go_wp2_with fail
    refine (sNode4_any _ _).mono ?_
    rintro e w' ⟨rfl, rfl⟩
    rw [Hht.out]
    go_wp2
    go_ret
    exact ⟨rfl, B0⟩
  have qTo : (r.To != 0) = false := by simpa using zTo
  by_cases hm : numB r.Amt = true
  case neg =>
    have hm' : numB r.Amt = false := by simpa using hm
    rw [show recOkB r = false by simp [recOkB, recAmtB, recMsgB, kAcct, kOther, kTo, kAmt, e7, show inB 7 1 9 = true from rfl, show inB 0 0 2 = true from rfl, show inB 0 0 3 = true from rfl, show numB 0 = true from rfl, bne, hm']]
    have HM := Lib.hid hm'
    rw [e7] at x_a hwa ⊢
    clear hm hm' e7 ha ho ht zOther zTo
    have c0 := x_a.cell (i := 0) rfl
    have c1 := x_a.cell (i := 1) rfl
    have c2 := x_a.cell (i := 2) rfl
    have c3 := x_a.cell (i := 3) rfl
    have c4 := x_a.cell (i := 4) rfl
    have c5 := x_a.cell (i := 5) rfl
    have c6 := x_a.cell (i := 6) rfl
    have c7 := x_a.cell (i := 7) rfl
    have c8 := x_a.cell (i := 8) rfl
    go_enter Try.func7, Try.ntmps7
    go_wp2_with fail
    refine (sHas_7 _).mono ?_
    rintro e w' ⟨rfl, rfl⟩
    go_wp2_with fail
    refine (sIn_any _ _ _ _).mono ?_
    rintro e w' ⟨rfl, rfl⟩
    rw [show inB 7 1 9 = true from rfl]
    go_wp2_with fail
    refine (sIn_any _ _ _ _).mono ?_
    rintro e w' ⟨rfl, rfl⟩
    rw [Hha.out]
    go_wp2_with fail
    refine (sIn_any _ _ _ _).mono ?_
    rintro e w' ⟨rfl, rfl⟩
    rw [Hho.out]
    go_wp2_with fail
    refine (sNode4_any _ _).mono ?_
    rintro e w' ⟨rfl, rfl⟩
    rw [Hht.out]
    go_wp2_with fail
    refine (sNum_any _ _).mono ?_
    rintro e w' ⟨rfl, rfl⟩
    rw [HM.out]
    go_wp2
    go_ret
    exact ⟨rfl, B0⟩
  have HM := Lib.hid hm
  by_cases zm : r.Amt = 0
  case pos =>
    rw [show recOkB r = false by simp [recOkB, recAmtB, recMsgB, kAcct, kOther, kTo, kAmt, e7, show inB 7 1 9 = true from rfl, show inB 0 0 2 = true from rfl, show inB 0 0 3 = true from rfl, show numB 0 = true from rfl, bne, zm]]
    have qm : (r.Amt == 0) = true := by simpa using zm
    rw [e7] at x_a hwa ⊢
    clear zm hm e7 ha ho ht zOther zTo
    have c0 := x_a.cell (i := 0) rfl
    have c1 := x_a.cell (i := 1) rfl
    have c2 := x_a.cell (i := 2) rfl
    have c3 := x_a.cell (i := 3) rfl
    have c4 := x_a.cell (i := 4) rfl
    have c5 := x_a.cell (i := 5) rfl
    have c6 := x_a.cell (i := 6) rfl
    have c7 := x_a.cell (i := 7) rfl
    have c8 := x_a.cell (i := 8) rfl
    go_enter Try.func7, Try.ntmps7
    go_wp2_with fail
    refine (sHas_7 _).mono ?_
    rintro e w' ⟨rfl, rfl⟩
    go_wp2_with fail
    refine (sIn_any _ _ _ _).mono ?_
    rintro e w' ⟨rfl, rfl⟩
    rw [show inB 7 1 9 = true from rfl]
    go_wp2_with fail
    refine (sIn_any _ _ _ _).mono ?_
    rintro e w' ⟨rfl, rfl⟩
    rw [Hha.out]
    go_wp2_with fail
    refine (sIn_any _ _ _ _).mono ?_
    rintro e w' ⟨rfl, rfl⟩
    rw [Hho.out]
    go_wp2_with fail
    refine (sNode4_any _ _).mono ?_
    rintro e w' ⟨rfl, rfl⟩
    rw [Hht.out]
    go_wp2_with fail
    refine (sNum_any _ _).mono ?_
    rintro e w' ⟨rfl, rfl⟩
    rw [HM.out]
    go_wp2
    go_ret
    exact ⟨rfl, B0⟩
  have qm : (r.Amt == 0) = false := by simpa using zm
  rw [show recOkB r = decide (r.M = ⟨0, 0, 0, 0⟩) by simp [recOkB, recAmtB, recMsgB, kAcct, kOther, kTo, kAmt, e7, show inB 7 1 9 = true from rfl, show inB 0 0 2 = true from rfl, show inB 0 0 3 = true from rfl, show numB 0 = true from rfl, bne, ha, ho, ht, hm, zOther, zTo, zm]]
  have gd := fun op x y W xs ys => guard_msg_run op x y W xs ys
  have ge := fun W => eql_msg_run W r.M ⟨0, 0, 0, 0⟩
  rw [e7] at x_a hwa ⊢
  clear hm e7 ha ho ht zOther zTo zm
  have c0 := x_a.cell (i := 0) rfl
  have c1 := x_a.cell (i := 1) rfl
  have c2 := x_a.cell (i := 2) rfl
  have c3 := x_a.cell (i := 3) rfl
  have c4 := x_a.cell (i := 4) rfl
  have c5 := x_a.cell (i := 5) rfl
  have c6 := x_a.cell (i := 6) rfl
  have c7 := x_a.cell (i := 7) rfl
  have c8 := x_a.cell (i := 8) rfl
  go_enter Try.func7, Try.ntmps7
  go_wp2_with fail
  refine (sHas_7 _).mono ?_
  rintro e w' ⟨rfl, rfl⟩
  go_wp2_with fail
  refine (sIn_any _ _ _ _).mono ?_
  rintro e w' ⟨rfl, rfl⟩
  rw [show inB 7 1 9 = true from rfl]
  go_wp2_with fail
  refine (sIn_any _ _ _ _).mono ?_
  rintro e w' ⟨rfl, rfl⟩
  rw [Hha.out]
  go_wp2_with fail
  refine (sIn_any _ _ _ _).mono ?_
  rintro e w' ⟨rfl, rfl⟩
  rw [Hho.out]
  go_wp2_with fail
  refine (sNode4_any _ _).mono ?_
  rintro e w' ⟨rfl, rfl⟩
  rw [Hht.out]
  go_wp2_with fail
  refine (sNum_any _ _).mono ?_
  rintro e w' ⟨rfl, rfl⟩
  rw [HM.out]
  go_wp2
  go_ret
  exact ⟨rfl, B0⟩

set_option maxHeartbeats 8000000 in
theorem sRecOk_8 {w : World} {r : MRec} (e8 : r.Kind = 8) (ha : inB r.Acct 0 2 = true) (ho : inB r.Other 0 2 = true) (ht : inB r.To 0 3 = true) : Calls Try.prog 7 #[.agg #[.int .i64 r.Kind, .int .i64 r.Acct, .int .i64 r.Other, .int .i64 r.To, .int .i64 r.Amt, .int .i64 r.M.Kind, .int .i64 r.M.Acct, .int .i64 r.M.Amt, .int .i64 r.M.Src]] w fun e w' => e = .returned (.bool (recOkB r)) ∧ Below w.heap.size w w' := by
  obtain ⟨wa, hwa, B0, sa, x_a⟩ := frame1 w 29 [.int .i64 r.Kind, .int .i64 r.Acct, .int .i64 r.Other, .int .i64 r.To, .int .i64 r.Amt, .int .i64 r.M.Kind, .int .i64 r.M.Acct, .int .i64 r.M.Amt, .int .i64 r.M.Src]
  have sa_1 := Nat.le_of_eq sa
  have sa_2 := Nat.le_of_eq sa.symm
  clear sa
  have Hha := Lib.hid ha
  have Hho := Lib.hid ho
  have Hht := Lib.hid ht
  by_cases zOther : r.Other = 0
  case neg =>
    rw [show recOkB r = false by simp [recOkB, recAmtB, recMsgB, kAcct, kOther, kTo, kAmt, e8, show inB 8 1 9 = true from rfl, show inB 0 0 2 = true from rfl, show inB 0 0 3 = true from rfl, show numB 0 = true from rfl, bne, zOther]]
    have qOther : (r.Other != 0) = true := by simpa using zOther
    rw [e8] at x_a hwa ⊢
    clear zOther e8 ha ho ht
    have c0 := x_a.cell (i := 0) rfl
    have c1 := x_a.cell (i := 1) rfl
    have c2 := x_a.cell (i := 2) rfl
    have c3 := x_a.cell (i := 3) rfl
    have c4 := x_a.cell (i := 4) rfl
    have c5 := x_a.cell (i := 5) rfl
    have c6 := x_a.cell (i := 6) rfl
    have c7 := x_a.cell (i := 7) rfl
    have c8 := x_a.cell (i := 8) rfl
    go_enter Try.func7, Try.ntmps7
    go_wp2_with fail
    refine (sHas_8 _).mono ?_
    rintro e w' ⟨rfl, rfl⟩
    go_wp2_with fail
    refine (sIn_any _ _ _ _).mono ?_
    rintro e w' ⟨rfl, rfl⟩
    rw [show inB 8 1 9 = true from rfl]
    go_wp2_with fail
    refine (sIn_any _ _ _ _).mono ?_
    rintro e w' ⟨rfl, rfl⟩
    rw [Hha.out]
    go_wp2_with fail
    refine (sIn_any _ _ _ _).mono ?_
    rintro e w' ⟨rfl, rfl⟩
    rw [Hho.out]
    go_wp2_with fail
    refine (sNode4_any _ _).mono ?_
    rintro e w' ⟨rfl, rfl⟩
    rw [Hht.out]
    go_wp2
    go_ret
    exact ⟨rfl, B0⟩
  have qOther : (r.Other != 0) = false := by simpa using zOther
  by_cases hm : numB r.Amt = true
  case neg =>
    have hm' : numB r.Amt = false := by simpa using hm
    rw [show recOkB r = false by simp [recOkB, recAmtB, recMsgB, kAcct, kOther, kTo, kAmt, e8, show inB 8 1 9 = true from rfl, show inB 0 0 2 = true from rfl, show inB 0 0 3 = true from rfl, show numB 0 = true from rfl, bne, hm']]
    have HM := Lib.hid hm'
    rw [e8] at x_a hwa ⊢
    clear hm hm' e8 ha ho ht zOther
    have c0 := x_a.cell (i := 0) rfl
    have c1 := x_a.cell (i := 1) rfl
    have c2 := x_a.cell (i := 2) rfl
    have c3 := x_a.cell (i := 3) rfl
    have c4 := x_a.cell (i := 4) rfl
    have c5 := x_a.cell (i := 5) rfl
    have c6 := x_a.cell (i := 6) rfl
    have c7 := x_a.cell (i := 7) rfl
    have c8 := x_a.cell (i := 8) rfl
    go_enter Try.func7, Try.ntmps7
    go_wp2_with fail
    refine (sHas_8 _).mono ?_
    rintro e w' ⟨rfl, rfl⟩
    go_wp2_with fail
    refine (sIn_any _ _ _ _).mono ?_
    rintro e w' ⟨rfl, rfl⟩
    rw [show inB 8 1 9 = true from rfl]
    go_wp2_with fail
    refine (sIn_any _ _ _ _).mono ?_
    rintro e w' ⟨rfl, rfl⟩
    rw [Hha.out]
    go_wp2_with fail
    refine (sIn_any _ _ _ _).mono ?_
    rintro e w' ⟨rfl, rfl⟩
    rw [Hho.out]
    go_wp2_with fail
    refine (sNode4_any _ _).mono ?_
    rintro e w' ⟨rfl, rfl⟩
    rw [Hht.out]
    go_wp2_with fail
    refine (sNum_any _ _).mono ?_
    rintro e w' ⟨rfl, rfl⟩
    rw [HM.out]
    go_wp2
    go_ret
    exact ⟨rfl, B0⟩
  have HM := Lib.hid hm
  by_cases zm : r.Amt = 0
  case pos =>
    rw [show recOkB r = false by simp [recOkB, recAmtB, recMsgB, kAcct, kOther, kTo, kAmt, e8, show inB 8 1 9 = true from rfl, show inB 0 0 2 = true from rfl, show inB 0 0 3 = true from rfl, show numB 0 = true from rfl, bne, zm]]
    have qm : (r.Amt == 0) = true := by simpa using zm
    rw [e8] at x_a hwa ⊢
    clear zm hm e8 ha ho ht zOther
    have c0 := x_a.cell (i := 0) rfl
    have c1 := x_a.cell (i := 1) rfl
    have c2 := x_a.cell (i := 2) rfl
    have c3 := x_a.cell (i := 3) rfl
    have c4 := x_a.cell (i := 4) rfl
    have c5 := x_a.cell (i := 5) rfl
    have c6 := x_a.cell (i := 6) rfl
    have c7 := x_a.cell (i := 7) rfl
    have c8 := x_a.cell (i := 8) rfl
    go_enter Try.func7, Try.ntmps7
    go_wp2_with fail
    refine (sHas_8 _).mono ?_
    rintro e w' ⟨rfl, rfl⟩
    go_wp2_with fail
    refine (sIn_any _ _ _ _).mono ?_
    rintro e w' ⟨rfl, rfl⟩
    rw [show inB 8 1 9 = true from rfl]
    go_wp2_with fail
    refine (sIn_any _ _ _ _).mono ?_
    rintro e w' ⟨rfl, rfl⟩
    rw [Hha.out]
    go_wp2_with fail
    refine (sIn_any _ _ _ _).mono ?_
    rintro e w' ⟨rfl, rfl⟩
    rw [Hho.out]
    go_wp2_with fail
    refine (sNode4_any _ _).mono ?_
    rintro e w' ⟨rfl, rfl⟩
    rw [Hht.out]
    go_wp2_with fail
    refine (sNum_any _ _).mono ?_
    rintro e w' ⟨rfl, rfl⟩
    rw [HM.out]
    go_wp2
    go_ret
    exact ⟨rfl, B0⟩
  have qm : (r.Amt == 0) = false := by simpa using zm
  rw [show recOkB r = decide (r.M = ⟨0, 0, 0, 0⟩) by simp [recOkB, recAmtB, recMsgB, kAcct, kOther, kTo, kAmt, e8, show inB 8 1 9 = true from rfl, show inB 0 0 2 = true from rfl, show inB 0 0 3 = true from rfl, show numB 0 = true from rfl, bne, ha, ho, ht, hm, zOther, zm]]
  have gd := fun op x y W xs ys => guard_msg_run op x y W xs ys
  have ge := fun W => eql_msg_run W r.M ⟨0, 0, 0, 0⟩
  rw [e8] at x_a hwa ⊢
  clear hm e8 ha ho ht zOther zm
  have c0 := x_a.cell (i := 0) rfl
  have c1 := x_a.cell (i := 1) rfl
  have c2 := x_a.cell (i := 2) rfl
  have c3 := x_a.cell (i := 3) rfl
  have c4 := x_a.cell (i := 4) rfl
  have c5 := x_a.cell (i := 5) rfl
  have c6 := x_a.cell (i := 6) rfl
  have c7 := x_a.cell (i := 7) rfl
  have c8 := x_a.cell (i := 8) rfl
  go_enter Try.func7, Try.ntmps7
  go_wp2_with fail
  refine (sHas_8 _).mono ?_
  rintro e w' ⟨rfl, rfl⟩
  go_wp2_with fail
  refine (sIn_any _ _ _ _).mono ?_
  rintro e w' ⟨rfl, rfl⟩
  rw [show inB 8 1 9 = true from rfl]
  go_wp2_with fail
  refine (sIn_any _ _ _ _).mono ?_
  rintro e w' ⟨rfl, rfl⟩
  rw [Hha.out]
  go_wp2_with fail
  refine (sIn_any _ _ _ _).mono ?_
  rintro e w' ⟨rfl, rfl⟩
  rw [Hho.out]
  go_wp2_with fail
  refine (sNode4_any _ _).mono ?_
  rintro e w' ⟨rfl, rfl⟩
  rw [Hht.out]
  go_wp2_with fail
  refine (sNum_any _ _).mono ?_
  rintro e w' ⟨rfl, rfl⟩
  rw [HM.out]
  go_wp2
  go_ret
  exact ⟨rfl, B0⟩

set_option maxHeartbeats 8000000 in
theorem sRecOk_9 {w : World} {r : MRec} (e9 : r.Kind = 9) (ha : inB r.Acct 0 2 = true) (ho : inB r.Other 0 2 = true) (ht : inB r.To 0 3 = true) : Calls Try.prog 7 #[.agg #[.int .i64 r.Kind, .int .i64 r.Acct, .int .i64 r.Other, .int .i64 r.To, .int .i64 r.Amt, .int .i64 r.M.Kind, .int .i64 r.M.Acct, .int .i64 r.M.Amt, .int .i64 r.M.Src]] w fun e w' => e = .returned (.bool (recOkB r)) ∧ Below w.heap.size w w' := by
  obtain ⟨wa, hwa, B0, sa, x_a⟩ := frame1 w 29 [.int .i64 r.Kind, .int .i64 r.Acct, .int .i64 r.Other, .int .i64 r.To, .int .i64 r.Amt, .int .i64 r.M.Kind, .int .i64 r.M.Acct, .int .i64 r.M.Amt, .int .i64 r.M.Src]
  have sa_1 := Nat.le_of_eq sa
  have sa_2 := Nat.le_of_eq sa.symm
  clear sa
  have Hha := Lib.hid ha
  have Hho := Lib.hid ho
  have Hht := Lib.hid ht
  by_cases zOther : r.Other = 0
  case neg =>
    rw [show recOkB r = false by simp [recOkB, recAmtB, recMsgB, kAcct, kOther, kTo, kAmt, e9, show inB 9 1 9 = true from rfl, show inB 0 0 2 = true from rfl, show inB 0 0 3 = true from rfl, show numB 0 = true from rfl, bne, zOther]]
    have qOther : (r.Other != 0) = true := by simpa using zOther
    rw [e9] at x_a hwa ⊢
    clear zOther e9 ha ho ht
    have c0 := x_a.cell (i := 0) rfl
    have c1 := x_a.cell (i := 1) rfl
    have c2 := x_a.cell (i := 2) rfl
    have c3 := x_a.cell (i := 3) rfl
    have c4 := x_a.cell (i := 4) rfl
    have c5 := x_a.cell (i := 5) rfl
    have c6 := x_a.cell (i := 6) rfl
    have c7 := x_a.cell (i := 7) rfl
    have c8 := x_a.cell (i := 8) rfl
    go_enter Try.func7, Try.ntmps7
    go_wp2_with fail
    refine (sHas_9 _).mono ?_
    rintro e w' ⟨rfl, rfl⟩
    go_wp2_with fail
    refine (sIn_any _ _ _ _).mono ?_
    rintro e w' ⟨rfl, rfl⟩
    rw [show inB 9 1 9 = true from rfl]
    go_wp2_with fail
    refine (sIn_any _ _ _ _).mono ?_
    rintro e w' ⟨rfl, rfl⟩
    rw [Hha.out]
    go_wp2_with fail
    refine (sIn_any _ _ _ _).mono ?_
    rintro e w' ⟨rfl, rfl⟩
    rw [Hho.out]
    go_wp2_with fail
    refine (sNode4_any _ _).mono ?_
    rintro e w' ⟨rfl, rfl⟩
    rw [Hht.out]
    go_wp2
    go_ret
    exact ⟨rfl, B0⟩
  have qOther : (r.Other != 0) = false := by simpa using zOther
  by_cases zAmt : r.Amt = 0
  case neg =>
    rw [show recOkB r = false by simp [recOkB, recAmtB, recMsgB, kAcct, kOther, kTo, kAmt, e9, show inB 9 1 9 = true from rfl, show inB 0 0 2 = true from rfl, show inB 0 0 3 = true from rfl, show numB 0 = true from rfl, bne, zAmt]]
    have qAmt : (r.Amt != 0) = true := by simpa using zAmt
    rw [e9] at x_a hwa ⊢
    clear zAmt zOther e9 ha ho ht
    have c0 := x_a.cell (i := 0) rfl
    have c1 := x_a.cell (i := 1) rfl
    have c2 := x_a.cell (i := 2) rfl
    have c3 := x_a.cell (i := 3) rfl
    have c4 := x_a.cell (i := 4) rfl
    have c5 := x_a.cell (i := 5) rfl
    have c6 := x_a.cell (i := 6) rfl
    have c7 := x_a.cell (i := 7) rfl
    have c8 := x_a.cell (i := 8) rfl
    go_enter Try.func7, Try.ntmps7
    go_wp2_with fail
    refine (sHas_9 _).mono ?_
    rintro e w' ⟨rfl, rfl⟩
    go_wp2_with fail
    refine (sIn_any _ _ _ _).mono ?_
    rintro e w' ⟨rfl, rfl⟩
    rw [show inB 9 1 9 = true from rfl]
    go_wp2_with fail
    refine (sIn_any _ _ _ _).mono ?_
    rintro e w' ⟨rfl, rfl⟩
    rw [Hha.out]
    go_wp2_with fail
    refine (sIn_any _ _ _ _).mono ?_
    rintro e w' ⟨rfl, rfl⟩
    rw [Hho.out]
    go_wp2_with fail
    refine (sNode4_any _ _).mono ?_
    rintro e w' ⟨rfl, rfl⟩
    rw [Hht.out]
    go_wp2
    go_ret
    exact ⟨rfl, B0⟩
  have qAmt : (r.Amt != 0) = false := by simpa using zAmt
  by_cases hm : numB r.Amt = true
  case neg =>
    have hm' : numB r.Amt = false := by simpa using hm
    rw [show recOkB r = false by simp [recOkB, recAmtB, recMsgB, kAcct, kOther, kTo, kAmt, e9, show inB 9 1 9 = true from rfl, show inB 0 0 2 = true from rfl, show inB 0 0 3 = true from rfl, show numB 0 = true from rfl, bne, hm']]
    have HM := Lib.hid hm'
    rw [e9] at x_a hwa ⊢
    clear hm hm' e9 ha ho ht zOther zAmt
    have c0 := x_a.cell (i := 0) rfl
    have c1 := x_a.cell (i := 1) rfl
    have c2 := x_a.cell (i := 2) rfl
    have c3 := x_a.cell (i := 3) rfl
    have c4 := x_a.cell (i := 4) rfl
    have c5 := x_a.cell (i := 5) rfl
    have c6 := x_a.cell (i := 6) rfl
    have c7 := x_a.cell (i := 7) rfl
    have c8 := x_a.cell (i := 8) rfl
    go_enter Try.func7, Try.ntmps7
    go_wp2_with fail
    refine (sHas_9 _).mono ?_
    rintro e w' ⟨rfl, rfl⟩
    go_wp2_with fail
    refine (sIn_any _ _ _ _).mono ?_
    rintro e w' ⟨rfl, rfl⟩
    rw [show inB 9 1 9 = true from rfl]
    go_wp2_with fail
    refine (sIn_any _ _ _ _).mono ?_
    rintro e w' ⟨rfl, rfl⟩
    rw [Hha.out]
    go_wp2_with fail
    refine (sIn_any _ _ _ _).mono ?_
    rintro e w' ⟨rfl, rfl⟩
    rw [Hho.out]
    go_wp2_with fail
    refine (sNode4_any _ _).mono ?_
    rintro e w' ⟨rfl, rfl⟩
    rw [Hht.out]
    go_wp2_with fail
    refine (sNum_any _ _).mono ?_
    rintro e w' ⟨rfl, rfl⟩
    rw [HM.out]
    go_wp2
    go_ret
    exact ⟨rfl, B0⟩
  have HM := Lib.hid hm
  rw [show recOkB r = decide (r.M = ⟨0, 0, 0, 0⟩) by simp [recOkB, recAmtB, recMsgB, kAcct, kOther, kTo, kAmt, e9, show inB 9 1 9 = true from rfl, show inB 0 0 2 = true from rfl, show inB 0 0 3 = true from rfl, show numB 0 = true from rfl, bne, ha, ho, ht, hm, zOther, zAmt]]
  have gd := fun op x y W xs ys => guard_msg_run op x y W xs ys
  have ge := fun W => eql_msg_run W r.M ⟨0, 0, 0, 0⟩
  rw [e9] at x_a hwa ⊢
  clear hm e9 ha ho ht zOther zAmt
  have c0 := x_a.cell (i := 0) rfl
  have c1 := x_a.cell (i := 1) rfl
  have c2 := x_a.cell (i := 2) rfl
  have c3 := x_a.cell (i := 3) rfl
  have c4 := x_a.cell (i := 4) rfl
  have c5 := x_a.cell (i := 5) rfl
  have c6 := x_a.cell (i := 6) rfl
  have c7 := x_a.cell (i := 7) rfl
  have c8 := x_a.cell (i := 8) rfl
  go_enter Try.func7, Try.ntmps7
  go_wp2_with fail
  refine (sHas_9 _).mono ?_
  rintro e w' ⟨rfl, rfl⟩
  go_wp2_with fail
  refine (sIn_any _ _ _ _).mono ?_
  rintro e w' ⟨rfl, rfl⟩
  rw [show inB 9 1 9 = true from rfl]
  go_wp2_with fail
  refine (sIn_any _ _ _ _).mono ?_
  rintro e w' ⟨rfl, rfl⟩
  rw [Hha.out]
  go_wp2_with fail
  refine (sIn_any _ _ _ _).mono ?_
  rintro e w' ⟨rfl, rfl⟩
  rw [Hho.out]
  go_wp2_with fail
  refine (sNode4_any _ _).mono ?_
  rintro e w' ⟨rfl, rfl⟩
  rw [Hht.out]
  go_wp2_with fail
  refine (sNum_any _ _).mono ?_
  rintro e w' ⟨rfl, rfl⟩
  rw [HM.out]
  go_wp2
  go_ret
  exact ⟨rfl, B0⟩

end Go.Proofs.Ytkbhbccpmmhelaa

namespace Go.Proofs.Ytkbhbccpmmhelaa
open Go.RowKit
set_option linter.unusedVariables false
set_option linter.unusedSimpArgs false

set_option maxHeartbeats 8000000 in
theorem sRecOk_c {w : World} {v : Value} {r : MRec} (h : RV recL w v r) : Calls Try.prog 7 #[v] w fun e w' => e = .returned (.bool (recOkB r)) ∧ Below w.heap.size w w' := by
  obtain rfl := rv_rec h
  obtain ⟨wa, hwa, B0, sa, x_a⟩ := frame1 w 29 [.int .i64 r.Kind, .int .i64 r.Acct, .int .i64 r.Other, .int .i64 r.To, .int .i64 r.Amt, .int .i64 r.M.Kind, .int .i64 r.M.Acct, .int .i64 r.M.Amt, .int .i64 r.M.Src]
  have sa_1 := Nat.le_of_eq sa
  have sa_2 := Nat.le_of_eq sa.symm
  clear sa
  clear h
  by_cases hk : inB r.Kind 1 9 = true
  case neg =>
    have hk' : inB r.Kind 1 9 = false := by simpa using hk
    rw [recOk_kind hk']
    have Hhk := Lib.hid hk'
    clear hk hk'
    have c0 := x_a.cell (i := 0) rfl
    have c1 := x_a.cell (i := 1) rfl
    have c2 := x_a.cell (i := 2) rfl
    have c3 := x_a.cell (i := 3) rfl
    have c4 := x_a.cell (i := 4) rfl
    have c5 := x_a.cell (i := 5) rfl
    have c6 := x_a.cell (i := 6) rfl
    have c7 := x_a.cell (i := 7) rfl
    have c8 := x_a.cell (i := 8) rfl
    go_enter Try.func7, Try.ntmps7
    go_wp2_with fail
    refine (sHas_c _ _).mono ?_
    rintro e w' ⟨rfl, rfl⟩
    go_wp2_with fail
    refine (sIn_any _ _ _ _).mono ?_
    rintro e w' ⟨rfl, rfl⟩
    rw [Hhk.out]
    go_wp2
    go_ret
    exact ⟨rfl, B0⟩
  have Hhk := Lib.hid hk
  by_cases ha : inB r.Acct 0 2 = true
  case neg =>
    have ha' : inB r.Acct 0 2 = false := by simpa using ha
    rw [recOk_acct ha']
    have Hha := Lib.hid ha'
    clear ha ha'
    have c0 := x_a.cell (i := 0) rfl
    have c1 := x_a.cell (i := 1) rfl
    have c2 := x_a.cell (i := 2) rfl
    have c3 := x_a.cell (i := 3) rfl
    have c4 := x_a.cell (i := 4) rfl
    have c5 := x_a.cell (i := 5) rfl
    have c6 := x_a.cell (i := 6) rfl
    have c7 := x_a.cell (i := 7) rfl
    have c8 := x_a.cell (i := 8) rfl
    go_enter Try.func7, Try.ntmps7
    go_wp2_with fail
    refine (sHas_c _ _).mono ?_
    rintro e w' ⟨rfl, rfl⟩
    go_wp2_with fail
    refine (sIn_any _ _ _ _).mono ?_
    rintro e w' ⟨rfl, rfl⟩
    rw [Hhk.out]
    go_wp2_with fail
    refine (sIn_any _ _ _ _).mono ?_
    rintro e w' ⟨rfl, rfl⟩
    rw [Hha.out]
    go_wp2
    go_ret
    exact ⟨rfl, B0⟩
  have Hha := Lib.hid ha
  by_cases ho : inB r.Other 0 2 = true
  case neg =>
    have ho' : inB r.Other 0 2 = false := by simpa using ho
    rw [recOk_other ho']
    have Hho := Lib.hid ho'
    clear ho ho'
    have c0 := x_a.cell (i := 0) rfl
    have c1 := x_a.cell (i := 1) rfl
    have c2 := x_a.cell (i := 2) rfl
    have c3 := x_a.cell (i := 3) rfl
    have c4 := x_a.cell (i := 4) rfl
    have c5 := x_a.cell (i := 5) rfl
    have c6 := x_a.cell (i := 6) rfl
    have c7 := x_a.cell (i := 7) rfl
    have c8 := x_a.cell (i := 8) rfl
    go_enter Try.func7, Try.ntmps7
    go_wp2_with fail
    refine (sHas_c _ _).mono ?_
    rintro e w' ⟨rfl, rfl⟩
    go_wp2_with fail
    refine (sIn_any _ _ _ _).mono ?_
    rintro e w' ⟨rfl, rfl⟩
    rw [Hhk.out]
    go_wp2_with fail
    refine (sIn_any _ _ _ _).mono ?_
    rintro e w' ⟨rfl, rfl⟩
    rw [Hha.out]
    go_wp2_with fail
    refine (sIn_any _ _ _ _).mono ?_
    rintro e w' ⟨rfl, rfl⟩
    rw [Hho.out]
    go_wp2
    go_ret
    exact ⟨rfl, B0⟩
  have Hho := Lib.hid ho
  by_cases ht : inB r.To 0 3 = true
  case neg =>
    have ht' : inB r.To 0 3 = false := by simpa using ht
    rw [recOk_to ht']
    have Hht := Lib.hid ht'
    clear ht ht'
    have c0 := x_a.cell (i := 0) rfl
    have c1 := x_a.cell (i := 1) rfl
    have c2 := x_a.cell (i := 2) rfl
    have c3 := x_a.cell (i := 3) rfl
    have c4 := x_a.cell (i := 4) rfl
    have c5 := x_a.cell (i := 5) rfl
    have c6 := x_a.cell (i := 6) rfl
    have c7 := x_a.cell (i := 7) rfl
    have c8 := x_a.cell (i := 8) rfl
    go_enter Try.func7, Try.ntmps7
    go_wp2_with fail
    refine (sHas_c _ _).mono ?_
    rintro e w' ⟨rfl, rfl⟩
    go_wp2_with fail
    refine (sIn_any _ _ _ _).mono ?_
    rintro e w' ⟨rfl, rfl⟩
    rw [Hhk.out]
    go_wp2_with fail
    refine (sIn_any _ _ _ _).mono ?_
    rintro e w' ⟨rfl, rfl⟩
    rw [Hha.out]
    go_wp2_with fail
    refine (sIn_any _ _ _ _).mono ?_
    rintro e w' ⟨rfl, rfl⟩
    rw [Hho.out]
    go_wp2_with fail
    refine (sNode4_any _ _).mono ?_
    rintro e w' ⟨rfl, rfl⟩
    rw [Hht.out]
    go_wp2
    go_ret
    exact ⟨rfl, B0⟩
  have Hht := Lib.hid ht
  have hk9 := inB_true.1 hk
  clear hk hwa x_a
  have h5 : r.Kind = 1 ∨ r.Kind = 2 ∨ r.Kind = 3 ∨ r.Kind = 4 ∨ r.Kind = 5 ∨ r.Kind = 6 ∨ r.Kind = 7 ∨ r.Kind = 8 ∨ r.Kind = 9 := by omega
  rcases h5 with e | e | e | e | e | e | e | e | e
  · exact sRecOk_1 e ha ho ht
  · exact sRecOk_2 e ha ho ht
  · exact sRecOk_3 e ha ho ht
  · exact sRecOk_4 e ha ho ht
  · exact sRecOk_5 e ha ho ht
  · exact sRecOk_6 e ha ho ht
  · exact sRecOk_7 e ha ho ht
  · exact sRecOk_8 e ha ho ht
  · exact sRecOk_9 e ha ho ht
end Go.Proofs.Ytkbhbccpmmhelaa

namespace Go.Proofs.Ytkbhbccpmmhelaa
open Go.RowKit
set_option linter.unusedVariables false

set_option maxHeartbeats 4000000 in
theorem sRkName_c (k : Int) (w : World) : Calls Try.prog 19 #[.int .i64 k] w fun e w' => e = .returned (.string (rkName k)) ∧ Below w.heap.size w w' := by
  by_cases hk : inB k 1 9 = true
  · have h15 := inB_true.1 hk
    have HK := Lib.hid hk
    clear hk
    have h5 : k = 1 ∨ k = 2 ∨ k = 3 ∨ k = 4 ∨ k = 5 ∨ k = 6 ∨ k = 7 ∨ k = 8 ∨ k = 9 := by omega
    clear h15
    rcases h5 with rfl | rfl | rfl | rfl | rfl | rfl | rfl | rfl | rfl
    all_goals
      go_enter Try.func19, Try.ntmps19
      go_wp2_with fail
      refine (sIn_any _ _ _ _).mono ?_
      rintro e w' ⟨rfl, rfl⟩
      rw [HK.out]
      go_wp2
      go_ret
      exact ⟨rfl, (Below.refl _ _).alloc (Nat.le_refl _) _⟩
  · have hk' : inB k 1 9 = false := by simpa using hk
    have h15 := inB_false.1 hk'
    have HK := Lib.hid hk'
    rw [show rkName k = ⟨#[]⟩ by unfold rkName; rw [if_neg (by omega), if_neg (by omega), if_neg (by omega), if_neg (by omega), if_neg (by omega), if_neg (by omega), if_neg (by omega), if_neg (by omega), if_neg (by omega)]]
    clear hk hk' h15
    go_enter Try.func19, Try.ntmps19
    go_wp2_with fail
    refine (sIn_any _ _ _ _).mono ?_
    rintro e w' ⟨rfl, rfl⟩
    rw [HK.out]
    go_wp2
    go_ret
    exact ⟨rfl, Below.refl _ _⟩

end Go.Proofs.Ytkbhbccpmmhelaa

namespace Go.Proofs.Ytkbhbccpmmhelaa
open Go.RowKit
set_option linter.unusedVariables false

/-- the numbers ahead of the message -/
def recHead (r : MRec) : List Int := [r.Kind, r.Acct, r.Other, r.To, r.Amt]
/-- what RecBytes answers -/
def recBytes (r : MRec) : List Int := if recOkB r = true then (if r.Kind = 5 then encs (recHead r) ++ encs (msgNums r.M) else encs (recHead r)) else []
theorem recHead_ok {r : MRec} (h : recOkB r = true) : (recHead r).all numB = true := by
  obtain ⟨h1, h2, h3, h4, h5, -, -⟩ := recOk_parts h
  have k1 := numB_true.2 (show 0 ≤ r.Kind ∧ r.Kind ≤ 1125899906842624 by omega)
  have k2 := numB_true.2 (show 0 ≤ r.Acct ∧ r.Acct ≤ 1125899906842624 by omega)
  have k3 := numB_true.2 (show 0 ≤ r.Other ∧ r.Other ≤ 1125899906842624 by omega)
  have k4 := numB_true.2 (show 0 ≤ r.To ∧ r.To ≤ 1125899906842624 by omega)
  have k5 := numB_true.2 (show 0 ≤ r.Amt ∧ r.Amt ≤ 1125899906842624 by omega)
  simp [recHead, k1, k2, k3, k4, k5]
theorem recBytes_len (r : MRec) : (recBytes r).length ≤ 72 := by
  unfold recBytes
  split
  · rename_i h
    have h1 := encs_len _ (recHead_ok h)
    have e1 : (recHead r).length = 5 := rfl
    split
    · rename_i h5
      have h2 := encs_len _ (msgNums_ok ((recOk_parts h).2.2.2.2.2.1 h5))
      have e2 : (msgNums r.M).length = 4 := rfl
      rw [List.length_append]
      omega
    · omega
  · simp
theorem rs_nil0 (w : World) : RS .u8 w (.slice none 0 0) [] := ⟨none, 0, rfl, Nat.le_refl _, by unfold maxLen; omega, Rd.nil⟩

set_option maxRecDepth 100000 in
set_option maxHeartbeats 4000000 in
theorem sRecBytes_c {w : World} {v : Value} {r : MRec} (h : RV recL w v r) :
    Calls Try.prog 10 #[v] w (NewSB w (recBytes r) (recOkB r)) := by
  have h1 := h
  obtain rfl := rv_rec h1
  clear h1
  obtain ⟨wa, hwa, B0, sa, x_a⟩ := frame1 w 29 [.int .i64 r.Kind, .int .i64 r.Acct, .int .i64 r.Other, .int .i64 r.To, .int .i64 r.Amt, .int .i64 r.M.Kind, .int .i64 r.M.Acct, .int .i64 r.M.Amt, .int .i64 r.M.Src]
  have sa_1 := Nat.le_of_eq sa
  have sa_2 := Nat.le_of_eq sa.symm
  clear sa
  have c_a_0_wa := x_a.cell (i := 0) rfl
  have c_a_1_wa := x_a.cell (i := 1) rfl
  have c_a_2_wa := x_a.cell (i := 2) rfl
  have c_a_3_wa := x_a.cell (i := 3) rfl
  have c_a_4_wa := x_a.cell (i := 4) rfl
  have c_a_5_wa := x_a.cell (i := 5) rfl
  have c_a_6_wa := x_a.cell (i := 6) rfl
  have c_a_7_wa := x_a.cell (i := 7) rfl
  have c_a_8_wa := x_a.cell (i := 8) rfl
  by_cases ho : recOkB r = true
  case neg =>
    have ho' : recOkB r = false := by simpa using ho
    have HO := Lib.hid ho'
    have HP : Hid (recBytes r = []) := by show _ = _; unfold recBytes; rw [if_neg ho]
    clear ho ho'
    go_enter Try.func10, Try.ntmps10
    go_wp2_with fail
    refine (sRecOk_c (h.from_ B0)).mono ?_
    rintro e w1 ⟨rfl, h_w1⟩
    clear c_a_0_wa c_a_1_wa c_a_2_wa c_a_3_wa c_a_4_wa c_a_5_wa c_a_6_wa c_a_7_wa c_a_8_wa
    replace x_a := x_a.from_ h_w1
    have B_w1 := B0.trans (h_w1.mono B0.size)
    have s_w1 := h_w1.size
    rw [HO.out]
    go_wp2
    go_ret2
    exact ⟨_, by rw [HO.out]; rfl, by rw [HP.out]; exact os_none _ _, B_w1⟩
  have hp := recOk_parts ho
  obtain ⟨q1, q2, q3, q4, q5, q6, -⟩ := hp
  obtain ⟨L1, hL1⟩ : ∃ L, ([] : List Int) ++ enc r.Kind.toNat = L := ⟨_, rfl⟩
  have lL1 : L1.length ≤ 8 := by rw [← hL1, List.length_append]; have := enc_len8 r.Kind.toNat (by omega); simp; omega
  have HL1 := Lib.hid hL1
  obtain ⟨L2, hL2⟩ : ∃ L, L1 ++ enc r.Acct.toNat = L := ⟨_, rfl⟩
  have lL2 : L2.length ≤ L1.length + 8 := by rw [← hL2, List.length_append]; have := enc_len8 r.Acct.toNat (by omega); omega
  have HL2 := Lib.hid hL2
  obtain ⟨L3, hL3⟩ : ∃ L, L2 ++ enc r.Other.toNat = L := ⟨_, rfl⟩
  have lL3 : L3.length ≤ L2.length + 8 := by rw [← hL3, List.length_append]; have := enc_len8 r.Other.toNat (by omega); omega
  have HL3 := Lib.hid hL3
  obtain ⟨L4, hL4⟩ : ∃ L, L3 ++ enc r.To.toNat = L := ⟨_, rfl⟩
  have lL4 : L4.length ≤ L3.length + 8 := by rw [← hL4, List.length_append]; have := enc_len8 r.To.toNat (by omega); omega
  have HL4 := Lib.hid hL4
  obtain ⟨L5, hL5⟩ : ∃ L, L4 ++ enc r.Amt.toNat = L := ⟨_, rfl⟩
  have lL5 : L5.length ≤ L4.length + 8 := by rw [← hL5, List.length_append]; have := enc_len8 r.Amt.toNat (by omega); omega
  have HL5 := Lib.hid hL5
  have HL : encs (recHead r) = L5 := by rw [← hL5, ← hL4, ← hL3, ← hL2, ← hL1]; simp [encs, recHead]
  by_cases e5 : r.Kind = 5
  case pos =>
    have hM := q6 e5
    have HP : Hid (recBytes r = msgPut L5 r.M) := by show _ = _; unfold recBytes msgPut; rw [if_pos ho, if_pos e5, if_pos hM, HL]
    have HM := Lib.hid hM
    clear hM
    have t5 : (r.Kind == 5) = true := by simpa using e5
    have HO := Lib.hid ho
    clear ho hL1 hL2 hL3 hL4 hL5 HL e5 q6
    go_enter Try.func10, Try.ntmps10
    go_wp2_with fail
    refine (sRecOk_c (h.from_ B0)).mono ?_
    rintro e w1 ⟨rfl, h_w1⟩
    clear c_a_0_wa c_a_1_wa c_a_2_wa c_a_3_wa c_a_4_wa c_a_5_wa c_a_6_wa c_a_7_wa c_a_8_wa
    replace x_a := x_a.from_ h_w1
    have B_w1 := B0.trans (h_w1.mono B0.size)
    have s_w1 := h_w1.size
    rw [HO.out]
    have c_a_0_w1 := x_a.cell (i := 0) rfl
    have c_a_1_w1 := x_a.cell (i := 1) rfl
    have c_a_2_w1 := x_a.cell (i := 2) rfl
    have c_a_3_w1 := x_a.cell (i := 3) rfl
    have c_a_4_w1 := x_a.cell (i := 4) rfl
    have c_a_5_w1 := x_a.cell (i := 5) rfl
    have c_a_6_w1 := x_a.cell (i := 6) rfl
    have c_a_7_w1 := x_a.cell (i := 7) rfl
    have c_a_8_w1 := x_a.cell (i := 8) rfl
    go_wp2_with fail
    go_region_held3 (fun w' => w'.cell? ⟨w.heap.size, 0, none⟩ = some (.int .i64 r.Kind) ∧ w'.cell? ⟨w.heap.size, 1, none⟩ = some (.int .i64 r.Acct) ∧ w'.cell? ⟨w.heap.size, 2, none⟩ = some (.int .i64 r.Other) ∧ w'.cell? ⟨w.heap.size, 3, none⟩ = some (.int .i64 r.To) ∧ w'.cell? ⟨w.heap.size, 4, none⟩ = some (.int .i64 r.Amt) ∧ w'.cell? ⟨w.heap.size, 5, none⟩ = some (.int .i64 r.M.Kind) ∧ w'.cell? ⟨w.heap.size, 6, none⟩ = some (.int .i64 r.M.Acct) ∧ w'.cell? ⟨w.heap.size, 7, none⟩ = some (.int .i64 r.M.Amt) ∧ w'.cell? ⟨w.heap.size, 8, none⟩ = some (.int .i64 r.M.Src))
      (first | exact ⟨c_a_0_w1, c_a_1_w1, c_a_2_w1, c_a_3_w1, c_a_4_w1, c_a_5_w1, c_a_6_w1, c_a_7_w1, c_a_8_w1⟩ | exact ⟨qz1_a_0, qz1_a_1, qz1_a_2, qz1_a_3, qz1_a_4, qz1_a_5, qz1_a_6, qz1_a_7, qz1_a_8⟩ | exact ⟨qz2_a_0, qz2_a_1, qz2_a_2, qz2_a_3, qz2_a_4, qz2_a_5, qz2_a_6, qz2_a_7, qz2_a_8⟩ | exact ⟨qz3_a_0, qz3_a_1, qz3_a_2, qz3_a_3, qz3_a_4, qz3_a_5, qz3_a_6, qz3_a_7, qz3_a_8⟩ | exact ⟨qz4_a_0, qz4_a_1, qz4_a_2, qz4_a_3, qz4_a_4, qz4_a_5, qz4_a_6, qz4_a_7, qz4_a_8⟩ | exact ⟨qz5_a_0, qz5_a_1, qz5_a_2, qz5_a_3, qz5_a_4, qz5_a_5, qz5_a_6, qz5_a_7, qz5_a_8⟩ | go_keep)
      (first | ((go_at_call_of 33 (Value.slice none 0 0)); (refine (sPut_c (rs_nil0 _) (by omega) (by simp)).mono ?_); rintro e w_z1 ⟨v_z1, rfl, o_z1, hd_z1⟩; have hb_z1 : Below w1.heap.size w1 w_z1 := (Below.refl w1.heap.size w1).drew.trans hd_z1; have sd_z1 := hd_z1.size; replace sd_z1 : w1.heap.size ≤ w_z1.heap.size := sd_z1; have qz1_a_0 := (x_a.from_ hb_z1).cell (i := 0) rfl; have qz1_a_1 := (x_a.from_ hb_z1).cell (i := 1) rfl; have qz1_a_2 := (x_a.from_ hb_z1).cell (i := 2) rfl; have qz1_a_3 := (x_a.from_ hb_z1).cell (i := 3) rfl; have qz1_a_4 := (x_a.from_ hb_z1).cell (i := 4) rfl; have qz1_a_5 := (x_a.from_ hb_z1).cell (i := 5) rfl; have qz1_a_6 := (x_a.from_ hb_z1).cell (i := 6) rfl; have qz1_a_7 := (x_a.from_ hb_z1).cell (i := 7) rfl; have qz1_a_8 := (x_a.from_ hb_z1).cell (i := 8) rfl; rw [HL1.out] at o_z1; obtain ⟨Az1, cz1, rfl, -, -, -⟩ := o_z1.rd)
             | ((go_at_call_of 33 (Value.slice Az1 L1.length cz1)); (refine (sPut_c o_z1.rd (by omega) (by omega)).mono ?_); rintro e w_z2 ⟨v_z2, rfl, o_z2, hd_z2⟩; have hb_z2 : Below w1.heap.size w1 w_z2 := hb_z1.trans (hd_z2.mono hb_z1.size); have sd_z2 := hd_z2.size; have qz2_a_0 := (x_a.from_ hb_z2).cell (i := 0) rfl; have qz2_a_1 := (x_a.from_ hb_z2).cell (i := 1) rfl; have qz2_a_2 := (x_a.from_ hb_z2).cell (i := 2) rfl; have qz2_a_3 := (x_a.from_ hb_z2).cell (i := 3) rfl; have qz2_a_4 := (x_a.from_ hb_z2).cell (i := 4) rfl; have qz2_a_5 := (x_a.from_ hb_z2).cell (i := 5) rfl; have qz2_a_6 := (x_a.from_ hb_z2).cell (i := 6) rfl; have qz2_a_7 := (x_a.from_ hb_z2).cell (i := 7) rfl; have qz2_a_8 := (x_a.from_ hb_z2).cell (i := 8) rfl; replace o_z1 := o_z1.below hd_z2; rw [HL2.out] at o_z2; obtain ⟨Az2, cz2, rfl, -, -, -⟩ := o_z2.rd)
             | ((go_at_call_of 33 (Value.slice Az2 L2.length cz2)); (refine (sPut_c o_z2.rd (by omega) (by omega)).mono ?_); rintro e w_z3 ⟨v_z3, rfl, o_z3, hd_z3⟩; have hb_z3 : Below w1.heap.size w1 w_z3 := hb_z2.trans (hd_z3.mono hb_z2.size); have sd_z3 := hd_z3.size; have qz3_a_0 := (x_a.from_ hb_z3).cell (i := 0) rfl; have qz3_a_1 := (x_a.from_ hb_z3).cell (i := 1) rfl; have qz3_a_2 := (x_a.from_ hb_z3).cell (i := 2) rfl; have qz3_a_3 := (x_a.from_ hb_z3).cell (i := 3) rfl; have qz3_a_4 := (x_a.from_ hb_z3).cell (i := 4) rfl; have qz3_a_5 := (x_a.from_ hb_z3).cell (i := 5) rfl; have qz3_a_6 := (x_a.from_ hb_z3).cell (i := 6) rfl; have qz3_a_7 := (x_a.from_ hb_z3).cell (i := 7) rfl; have qz3_a_8 := (x_a.from_ hb_z3).cell (i := 8) rfl; replace o_z1 := o_z1.below hd_z3; replace o_z2 := o_z2.below hd_z3; rw [HL3.out] at o_z3; obtain ⟨Az3, cz3, rfl, -, -, -⟩ := o_z3.rd)
             | ((go_at_call_of 33 (Value.slice Az3 L3.length cz3)); (refine (sPut_c o_z3.rd (by omega) (by omega)).mono ?_); rintro e w_z4 ⟨v_z4, rfl, o_z4, hd_z4⟩; have hb_z4 : Below w1.heap.size w1 w_z4 := hb_z3.trans (hd_z4.mono hb_z3.size); have sd_z4 := hd_z4.size; have qz4_a_0 := (x_a.from_ hb_z4).cell (i := 0) rfl; have qz4_a_1 := (x_a.from_ hb_z4).cell (i := 1) rfl; have qz4_a_2 := (x_a.from_ hb_z4).cell (i := 2) rfl; have qz4_a_3 := (x_a.from_ hb_z4).cell (i := 3) rfl; have qz4_a_4 := (x_a.from_ hb_z4).cell (i := 4) rfl; have qz4_a_5 := (x_a.from_ hb_z4).cell (i := 5) rfl; have qz4_a_6 := (x_a.from_ hb_z4).cell (i := 6) rfl; have qz4_a_7 := (x_a.from_ hb_z4).cell (i := 7) rfl; have qz4_a_8 := (x_a.from_ hb_z4).cell (i := 8) rfl; replace o_z1 := o_z1.below hd_z4; replace o_z2 := o_z2.below hd_z4; replace o_z3 := o_z3.below hd_z4; rw [HL4.out] at o_z4; obtain ⟨Az4, cz4, rfl, -, -, -⟩ := o_z4.rd)
             | ((go_at_call_of 33 (Value.slice Az4 L4.length cz4)); (refine (sPut_c o_z4.rd (by omega) (by omega)).mono ?_); rintro e w_z5 ⟨v_z5, rfl, o_z5, hd_z5⟩; have hb_z5 : Below w1.heap.size w1 w_z5 := hb_z4.trans (hd_z5.mono hb_z4.size); have sd_z5 := hd_z5.size; have qz5_a_0 := (x_a.from_ hb_z5).cell (i := 0) rfl; have qz5_a_1 := (x_a.from_ hb_z5).cell (i := 1) rfl; have qz5_a_2 := (x_a.from_ hb_z5).cell (i := 2) rfl; have qz5_a_3 := (x_a.from_ hb_z5).cell (i := 3) rfl; have qz5_a_4 := (x_a.from_ hb_z5).cell (i := 4) rfl; have qz5_a_5 := (x_a.from_ hb_z5).cell (i := 5) rfl; have qz5_a_6 := (x_a.from_ hb_z5).cell (i := 6) rfl; have qz5_a_7 := (x_a.from_ hb_z5).cell (i := 7) rfl; have qz5_a_8 := (x_a.from_ hb_z5).cell (i := 8) rfl; replace o_z1 := o_z1.below hd_z5; replace o_z2 := o_z2.below hd_z5; replace o_z3 := o_z3.below hd_z5; replace o_z4 := o_z4.below hd_z5; rw [HL5.out] at o_z5; obtain ⟨Az5, cz5, rfl, -, -, -⟩ := o_z5.rd)
             | fail)
    clear c_a_0_w1 c_a_1_w1 c_a_2_w1 c_a_3_w1 c_a_4_w1 c_a_5_w1 c_a_6_w1 c_a_7_w1 c_a_8_w1
    have dz_w1 : w1.drew.heap.size = w1.heap.size := rfl
    replace x_a := x_a.from_ hb_z5
    have B_z5 := B_w1.trans (hb_z5.mono B_w1.size)
    have sz_z5 := hb_z5.size
    have sq := B_z5.size
    have c_a_0_w_z5 := x_a.cell (i := 0) rfl
    have c_a_1_w_z5 := x_a.cell (i := 1) rfl
    have c_a_2_w_z5 := x_a.cell (i := 2) rfl
    have c_a_3_w_z5 := x_a.cell (i := 3) rfl
    have c_a_4_w_z5 := x_a.cell (i := 4) rfl
    have c_a_5_w_z5 := x_a.cell (i := 5) rfl
    have c_a_6_w_z5 := x_a.cell (i := 6) rfl
    have c_a_7_w_z5 := x_a.cell (i := 7) rfl
    have c_a_8_w_z5 := x_a.cell (i := 8) rfl
    go_wp2_with fail
    refine (sMsgPut_c (m := r.M) o_z5.rd rv_msg_mk (by omega)).mono ?_
    rintro e w2 ⟨vm, rfl, o_m, h_w2⟩
    clear c_a_0_w_z5 c_a_1_w_z5 c_a_2_w_z5 c_a_3_w_z5 c_a_4_w_z5 c_a_5_w_z5 c_a_6_w_z5 c_a_7_w_z5 c_a_8_w_z5
    replace x_a := x_a.from_ h_w2
    replace o_z5 := o_z5.below h_w2
    have B_w2 := B_z5.trans (h_w2.mono B_z5.size)
    have s_w2 := h_w2.size
    rw [HM.out]
    go_wp2
    go_ret2
    exact ⟨_, by rw [HO.out]; rfl, by rw [HP.out]; exact o_m.widen (by omega) (Nat.le_refl _) (Nat.le_refl _), B_w2⟩
  have HP : Hid (recBytes r = L5) := by show _ = _; unfold recBytes; rw [if_pos ho, if_neg e5, HL]
  have t5 : (r.Kind == 5) = false := by simpa using e5
  have HO := Lib.hid ho
  clear ho hL1 hL2 hL3 hL4 hL5 HL e5 q6
  go_enter Try.func10, Try.ntmps10
  go_wp2_with fail
  refine (sRecOk_c (h.from_ B0)).mono ?_
  rintro e w1 ⟨rfl, h_w1⟩
  clear c_a_0_wa c_a_1_wa c_a_2_wa c_a_3_wa c_a_4_wa c_a_5_wa c_a_6_wa c_a_7_wa c_a_8_wa
  replace x_a := x_a.from_ h_w1
  have B_w1 := B0.trans (h_w1.mono B0.size)
  have s_w1 := h_w1.size
  rw [HO.out]
  have c_a_0_w1 := x_a.cell (i := 0) rfl
  have c_a_1_w1 := x_a.cell (i := 1) rfl
  have c_a_2_w1 := x_a.cell (i := 2) rfl
  have c_a_3_w1 := x_a.cell (i := 3) rfl
  have c_a_4_w1 := x_a.cell (i := 4) rfl
  have c_a_5_w1 := x_a.cell (i := 5) rfl
  have c_a_6_w1 := x_a.cell (i := 6) rfl
  have c_a_7_w1 := x_a.cell (i := 7) rfl
  have c_a_8_w1 := x_a.cell (i := 8) rfl
  go_wp2_with fail
  go_region_held3 (fun w' => w'.cell? ⟨w.heap.size, 0, none⟩ = some (.int .i64 r.Kind) ∧ w'.cell? ⟨w.heap.size, 1, none⟩ = some (.int .i64 r.Acct) ∧ w'.cell? ⟨w.heap.size, 2, none⟩ = some (.int .i64 r.Other) ∧ w'.cell? ⟨w.heap.size, 3, none⟩ = some (.int .i64 r.To) ∧ w'.cell? ⟨w.heap.size, 4, none⟩ = some (.int .i64 r.Amt) ∧ w'.cell? ⟨w.heap.size, 5, none⟩ = some (.int .i64 r.M.Kind) ∧ w'.cell? ⟨w.heap.size, 6, none⟩ = some (.int .i64 r.M.Acct) ∧ w'.cell? ⟨w.heap.size, 7, none⟩ = some (.int .i64 r.M.Amt) ∧ w'.cell? ⟨w.heap.size, 8, none⟩ = some (.int .i64 r.M.Src))
    (first | exact ⟨c_a_0_w1, c_a_1_w1, c_a_2_w1, c_a_3_w1, c_a_4_w1, c_a_5_w1, c_a_6_w1, c_a_7_w1, c_a_8_w1⟩ | exact ⟨qz1_a_0, qz1_a_1, qz1_a_2, qz1_a_3, qz1_a_4, qz1_a_5, qz1_a_6, qz1_a_7, qz1_a_8⟩ | exact ⟨qz2_a_0, qz2_a_1, qz2_a_2, qz2_a_3, qz2_a_4, qz2_a_5, qz2_a_6, qz2_a_7, qz2_a_8⟩ | exact ⟨qz3_a_0, qz3_a_1, qz3_a_2, qz3_a_3, qz3_a_4, qz3_a_5, qz3_a_6, qz3_a_7, qz3_a_8⟩ | exact ⟨qz4_a_0, qz4_a_1, qz4_a_2, qz4_a_3, qz4_a_4, qz4_a_5, qz4_a_6, qz4_a_7, qz4_a_8⟩ | exact ⟨qz5_a_0, qz5_a_1, qz5_a_2, qz5_a_3, qz5_a_4, qz5_a_5, qz5_a_6, qz5_a_7, qz5_a_8⟩ | go_keep)
    (first | ((go_at_call_of 33 (Value.slice none 0 0)); (refine (sPut_c (rs_nil0 _) (by omega) (by simp)).mono ?_); rintro e w_z1 ⟨v_z1, rfl, o_z1, hd_z1⟩; have hb_z1 : Below w1.heap.size w1 w_z1 := (Below.refl w1.heap.size w1).drew.trans hd_z1; have sd_z1 := hd_z1.size; replace sd_z1 : w1.heap.size ≤ w_z1.heap.size := sd_z1; have qz1_a_0 := (x_a.from_ hb_z1).cell (i := 0) rfl; have qz1_a_1 := (x_a.from_ hb_z1).cell (i := 1) rfl; have qz1_a_2 := (x_a.from_ hb_z1).cell (i := 2) rfl; have qz1_a_3 := (x_a.from_ hb_z1).cell (i := 3) rfl; have qz1_a_4 := (x_a.from_ hb_z1).cell (i := 4) rfl; have qz1_a_5 := (x_a.from_ hb_z1).cell (i := 5) rfl; have qz1_a_6 := (x_a.from_ hb_z1).cell (i := 6) rfl; have qz1_a_7 := (x_a.from_ hb_z1).cell (i := 7) rfl; have qz1_a_8 := (x_a.from_ hb_z1).cell (i := 8) rfl; rw [HL1.out] at o_z1; obtain ⟨Az1, cz1, rfl, -, -, -⟩ := o_z1.rd)
           | ((go_at_call_of 33 (Value.slice Az1 L1.length cz1)); (refine (sPut_c o_z1.rd (by omega) (by omega)).mono ?_); rintro e w_z2 ⟨v_z2, rfl, o_z2, hd_z2⟩; have hb_z2 : Below w1.heap.size w1 w_z2 := hb_z1.trans (hd_z2.mono hb_z1.size); have sd_z2 := hd_z2.size; have qz2_a_0 := (x_a.from_ hb_z2).cell (i := 0) rfl; have qz2_a_1 := (x_a.from_ hb_z2).cell (i := 1) rfl; have qz2_a_2 := (x_a.from_ hb_z2).cell (i := 2) rfl; have qz2_a_3 := (x_a.from_ hb_z2).cell (i := 3) rfl; have qz2_a_4 := (x_a.from_ hb_z2).cell (i := 4) rfl; have qz2_a_5 := (x_a.from_ hb_z2).cell (i := 5) rfl; have qz2_a_6 := (x_a.from_ hb_z2).cell (i := 6) rfl; have qz2_a_7 := (x_a.from_ hb_z2).cell (i := 7) rfl; have qz2_a_8 := (x_a.from_ hb_z2).cell (i := 8) rfl; replace o_z1 := o_z1.below hd_z2; rw [HL2.out] at o_z2; obtain ⟨Az2, cz2, rfl, -, -, -⟩ := o_z2.rd)
           | ((go_at_call_of 33 (Value.slice Az2 L2.length cz2)); (refine (sPut_c o_z2.rd (by omega) (by omega)).mono ?_); rintro e w_z3 ⟨v_z3, rfl, o_z3, hd_z3⟩; have hb_z3 : Below w1.heap.size w1 w_z3 := hb_z2.trans (hd_z3.mono hb_z2.size); have sd_z3 := hd_z3.size; have qz3_a_0 := (x_a.from_ hb_z3).cell (i := 0) rfl; have qz3_a_1 := (x_a.from_ hb_z3).cell (i := 1) rfl; have qz3_a_2 := (x_a.from_ hb_z3).cell (i := 2) rfl; have qz3_a_3 := (x_a.from_ hb_z3).cell (i := 3) rfl; have qz3_a_4 := (x_a.from_ hb_z3).cell (i := 4) rfl; have qz3_a_5 := (x_a.from_ hb_z3).cell (i := 5) rfl; have qz3_a_6 := (x_a.from_ hb_z3).cell (i := 6) rfl; have qz3_a_7 := (x_a.from_ hb_z3).cell (i := 7) rfl; have qz3_a_8 := (x_a.from_ hb_z3).cell (i := 8) rfl; replace o_z1 := o_z1.below hd_z3; replace o_z2 := o_z2.below hd_z3; rw [HL3.out] at o_z3; obtain ⟨Az3, cz3, rfl, -, -, -⟩ := o_z3.rd)
           | ((go_at_call_of 33 (Value.slice Az3 L3.length cz3)); (refine (sPut_c o_z3.rd (by omega) (by omega)).mono ?_); rintro e w_z4 ⟨v_z4, rfl, o_z4, hd_z4⟩; have hb_z4 : Below w1.heap.size w1 w_z4 := hb_z3.trans (hd_z4.mono hb_z3.size); have sd_z4 := hd_z4.size; have qz4_a_0 := (x_a.from_ hb_z4).cell (i := 0) rfl; have qz4_a_1 := (x_a.from_ hb_z4).cell (i := 1) rfl; have qz4_a_2 := (x_a.from_ hb_z4).cell (i := 2) rfl; have qz4_a_3 := (x_a.from_ hb_z4).cell (i := 3) rfl; have qz4_a_4 := (x_a.from_ hb_z4).cell (i := 4) rfl; have qz4_a_5 := (x_a.from_ hb_z4).cell (i := 5) rfl; have qz4_a_6 := (x_a.from_ hb_z4).cell (i := 6) rfl; have qz4_a_7 := (x_a.from_ hb_z4).cell (i := 7) rfl; have qz4_a_8 := (x_a.from_ hb_z4).cell (i := 8) rfl; replace o_z1 := o_z1.below hd_z4; replace o_z2 := o_z2.below hd_z4; replace o_z3 := o_z3.below hd_z4; rw [HL4.out] at o_z4; obtain ⟨Az4, cz4, rfl, -, -, -⟩ := o_z4.rd)
           | ((go_at_call_of 33 (Value.slice Az4 L4.length cz4)); (refine (sPut_c o_z4.rd (by omega) (by omega)).mono ?_); rintro e w_z5 ⟨v_z5, rfl, o_z5, hd_z5⟩; have hb_z5 : Below w1.heap.size w1 w_z5 := hb_z4.trans (hd_z5.mono hb_z4.size); have sd_z5 := hd_z5.size; have qz5_a_0 := (x_a.from_ hb_z5).cell (i := 0) rfl; have qz5_a_1 := (x_a.from_ hb_z5).cell (i := 1) rfl; have qz5_a_2 := (x_a.from_ hb_z5).cell (i := 2) rfl; have qz5_a_3 := (x_a.from_ hb_z5).cell (i := 3) rfl; have qz5_a_4 := (x_a.from_ hb_z5).cell (i := 4) rfl; have qz5_a_5 := (x_a.from_ hb_z5).cell (i := 5) rfl; have qz5_a_6 := (x_a.from_ hb_z5).cell (i := 6) rfl; have qz5_a_7 := (x_a.from_ hb_z5).cell (i := 7) rfl; have qz5_a_8 := (x_a.from_ hb_z5).cell (i := 8) rfl; replace o_z1 := o_z1.below hd_z5; replace o_z2 := o_z2.below hd_z5; replace o_z3 := o_z3.below hd_z5; replace o_z4 := o_z4.below hd_z5; rw [HL5.out] at o_z5; obtain ⟨Az5, cz5, rfl, -, -, -⟩ := o_z5.rd)
           | fail)
  clear c_a_0_w1 c_a_1_w1 c_a_2_w1 c_a_3_w1 c_a_4_w1 c_a_5_w1 c_a_6_w1 c_a_7_w1 c_a_8_w1
  have dz_w1 : w1.drew.heap.size = w1.heap.size := rfl
  replace x_a := x_a.from_ hb_z5
  have B_z5 := B_w1.trans (hb_z5.mono B_w1.size)
  have sz_z5 := hb_z5.size
  have sq := B_z5.size
  have c_a_0_w_z5 := x_a.cell (i := 0) rfl
  have c_a_1_w_z5 := x_a.cell (i := 1) rfl
  have c_a_2_w_z5 := x_a.cell (i := 2) rfl
  have c_a_3_w_z5 := x_a.cell (i := 3) rfl
  have c_a_4_w_z5 := x_a.cell (i := 4) rfl
  have c_a_5_w_z5 := x_a.cell (i := 5) rfl
  have c_a_6_w_z5 := x_a.cell (i := 6) rfl
  have c_a_7_w_z5 := x_a.cell (i := 7) rfl
  have c_a_8_w_z5 := x_a.cell (i := 8) rfl
  go_wp2
  go_ret2
  exact ⟨_, by rw [HO.out]; rfl, by rw [HP.out]; exact o_z5.widen (by omega) (Nat.le_refl _) (Nat.le_refl _), B_z5⟩

end Go.Proofs.Ytkbhbccpmmhelaa
