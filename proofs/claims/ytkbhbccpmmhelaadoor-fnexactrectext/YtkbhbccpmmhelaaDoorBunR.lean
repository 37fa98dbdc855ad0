/- Texts joined: Rc1a, Rc1b, Rc1c, Rc2, Rc5, Rc3. -/
import Derived.Test.YtkbhbccpmmhelaaDoorBunB

namespace Go.Proofs.YtkbhbccpmmhelaaDoor
open Go.RowKit
set_option linter.unusedVariables false
set_option linter.unusedSimpArgs false

set_option maxHeartbeats 8000000 in
theorem sRecOk_1 {w : World} {r : MRec} (e1 : r.Kind = 1) (ha : inB r.Acct 0 2 = true) (ho : inB r.Other 0 2 = true) (ht : inB r.To 0 3 = true) : Calls Tryd.prog 41 #[.agg #[.int .i64 r.Kind, .int .i64 r.Acct, .int .i64 r.Other, .int .i64 r.To, .int .i64 r.Amt, .int .i64 r.M.Kind, .int .i64 r.M.Acct, .int .i64 r.M.Amt, .int .i64 r.M.Src]] w fun e w' => e = .returned (.bool (recOkB r)) ∧ Below w.heap.size w w' := by
  obtain ⟨wa, hwa, B0, sa, x_a⟩ := frame1 w 26 [.int .i64 r.Kind, .int .i64 r.Acct, .int .i64 r.Other, .int .i64 r.To, .int .i64 r.Amt, .int .i64 r.M.Kind, .int .i64 r.M.Acct, .int .i64 r.M.Amt, .int .i64 r.M.Src]
  have sa_1 := Nat.le_of_eq sa
  have sa_2 := Nat.le_of_eq sa.symm
  clear sa
  have Hha := Lib.hid ha
  have Hho := Lib.hid ho
  have Hht := Lib.hid ht
  by_cases zOther : r.Other = 0
  case neg =>
    rw [show recOkB r = false by simp [recOkB, recAmtB, recMsgB, kAcct, kOther, kTo, kAmt, e1, show inB 1 1 9 = true from rfl, show inB 0 0 2 = true from rfl, show inB 0 0 3 = true from rfl, show numB 0 = true from rfl, bne, zOther]]
    have qOther : (r.Other != 0) = true := by simpa using zOther
    rw [e1] at x_a hwa ⊢
    clear zOther e1 ha ho ht
    have c0 := x_a.cell (i := 0) rfl
    have c1 := x_a.cell (i := 1) rfl
    have c2 := x_a.cell (i := 2) rfl
    have c3 := x_a.cell (i := 3) rfl
    have c4 := x_a.cell (i := 4) rfl
    have c5 := x_a.cell (i := 5) rfl
    have c6 := x_a.cell (i := 6) rfl
    have c7 := x_a.cell (i := 7) rfl
    have c8 := x_a.cell (i := 8) rfl
    go_enter Tryd.func41, Tryd.ntmps41
    go_wp2_with fail
    refine (sHas_1 _).mono ?_
    rintro e w' ⟨rfl, rfl⟩
    go_wp2_with fail
    refine (sIn_any _ _ _ _).mono ?_
    rintro e w' ⟨rfl, rfl⟩
    rw [show inB 1 1 9 = true from rfl]
    go_wp2_with fail
    refine (sIn_any _ _ _ _).mono ?_
    rintro e w' ⟨rfl, rfl⟩
    rw [Hha.out]
    go_wp2_with fail
    refine (sIn_any _ _ _ _).mono ?_
    rintro e w' ⟨rfl, rfl⟩
    rw [Hho.out]
    go_wp2_with fail
    refine (sNode4_any _ _).mono ?_
    rintro e w' ⟨rfl, rfl⟩
    rw [Hht.out]
    go_wp2
    go_ret
    exact ⟨rfl, B0⟩
  have qOther : (r.Other != 0) = false := by simpa using zOther
  by_cases zTo : r.To = 0
  case neg =>
    rw [show recOkB r = false by simp [recOkB, recAmtB, recMsgB, kAcct, kOther, kTo, kAmt, e1, show inB 1 1 9 = true from rfl, show inB 0 0 2 = true from rfl, show inB 0 0 3 = true from rfl, show numB 0 = true from rfl, bne, zTo]]
    have qTo : (r.To != 0) = true := by simpa using zTo
    rw [e1] at x_a hwa ⊢
    clear zTo zOther e1 ha ho ht
    have c0 := x_a.cell (i := 0) rfl
    have c1 := x_a.cell (i := 1) rfl
    have c2 := x_a.cell (i := 2) rfl
    have c3 := x_a.cell (i := 3) rfl
    have c4 := x_a.cell (i := 4) rfl
    have c5 := x_a.cell (i := 5) rfl
    have c6 := x_a.cell (i := 6) rfl
    have c7 := x_a.cell (i := 7) rfl
    have c8 := x_a.cell (i := 8) rfl
    go_enter Tryd.func41, Tryd.ntmps41
    go_wp2_with fail
    refine (sHas_1 _).mono ?_
    rintro e w' ⟨rfl, rfl⟩
    go_wp2_with fail
    refine (sIn_any _ _ _ _).mono ?_
    rintro e w' ⟨rfl, rfl⟩
    rw [show inB 1 1 9 = true from rfl]
    go_wp2_with fail
    refine (sIn_any _ _ _ _).mono ?_
    rintro e w' ⟨rfl, rfl⟩
    rw [Hha.out]
    go_wp2_with fail
    refine (sIn_any _ _ _ _).mono ?_
    rintro e w' ⟨rfl, rfl⟩
    rw [Hho.out]
    go_wp2_with fail
    refine (sNode4_any _ _).mono ?_
    rintro e w' ⟨rfl, rfl⟩
    rw [Hht.out]
    go_wp2
    go_ret
    exact ⟨rfl, B0⟩
  have qTo : (r.To != 0) = false := by simpa using zTo
  by_cases hm : amtB r.Amt = true
  case neg =>
    have hm' : amtB r.Amt = false := by simpa using hm
    rw [show recOkB r = false by simp [recOkB, recAmtB, recMsgB, kAcct, kOther, kTo, kAmt, e1, show inB 1 1 9 = true from rfl, show inB 0 0 2 = true from rfl, show inB 0 0 3 = true from rfl, show numB 0 = true from rfl, bne, hm']]
    have HM := Lib.hid hm'
    rw [e1] at x_a hwa ⊢
    clear hm hm' e1 ha ho ht zOther zTo
    have c0 := x_a.cell (i := 0) rfl
    have c1 := x_a.cell (i := 1) rfl
    have c2 := x_a.cell (i := 2) rfl
    have c3 := x_a.cell (i := 3) rfl
    have c4 := x_a.cell (i := 4) rfl
    have c5 := x_a.cell (i := 5) rfl
    have c6 := x_a.cell (i := 6) rfl
    have c7 := x_a.cell (i := 7) rfl
    have c8 := x_a.cell (i := 8) rfl
    go_enter Tryd.func41, Tryd.ntmps41
    go_wp2_with fail
    refine (sHas_1 _).mono ?_
    rintro e w' ⟨rfl, rfl⟩
    go_wp2_with fail
    refine (sIn_any _ _ _ _).mono ?_
    rintro e w' ⟨rfl, rfl⟩
    rw [show inB 1 1 9 = true from rfl]
    go_wp2_with fail
    refine (sIn_any _ _ _ _).mono ?_
    rintro e w' ⟨rfl, rfl⟩
    rw [Hha.out]
    go_wp2_with fail
    refine (sIn_any _ _ _ _).mono ?_
    rintro e w' ⟨rfl, rfl⟩
    rw [Hho.out]
    go_wp2_with fail
    refine (sNode4_any _ _).mono ?_
    rintro e w' ⟨rfl, rfl⟩
    rw [Hht.out]
    go_wp2_with fail
    refine (sAmt_any _ _).mono ?_
    rintro e w' ⟨rfl, rfl⟩
    rw [HM.out]
    go_wp2
    go_ret
    exact ⟨rfl, B0⟩
  have HM := Lib.hid hm
  by_cases zm : r.Amt = 0
  case pos =>
    exfalso
    have := amtB_parts hm
    omega
  have qm : (r.Amt == 0) = false := by simpa using zm
  rw [show recOkB r = decide (r.M = ⟨0, 0, 0, 0⟩) by simp [recOkB, recAmtB, recMsgB, kAcct, kOther, kTo, kAmt, e1, show inB 1 1 9 = true from rfl, show inB 0 0 2 = true from rfl, show inB 0 0 3 = true from rfl, show numB 0 = true from rfl, bne, ha, ho, ht, hm, zOther, zTo]]
  have gd := fun op x y W xs ys => guard_msg_run op x y W xs ys
  have ge := fun W => eql_msg_run W r.M ⟨0, 0, 0, 0⟩
  rw [e1] at x_a hwa ⊢
  clear hm e1 ha ho ht zOther zTo zm
  have c0 := x_a.cell (i := 0) rfl
  have c1 := x_a.cell (i := 1) rfl
  have c2 := x_a.cell (i := 2) rfl
  have c3 := x_a.cell (i := 3) rfl
  have c4 := x_a.cell (i := 4) rfl
  have c5 := x_a.cell (i := 5) rfl
  have c6 := x_a.cell (i := 6) rfl
  have c7 := x_a.cell (i := 7) rfl
  have c8 := x_a.cell (i := 8) rfl
  go_enter Tryd.func41, Tryd.ntmps41
  go_wp2_with fail
  refine (sHas_1 _).mono ?_
  rintro e w' ⟨rfl, rfl⟩
  go_wp2_with fail
  refine (sIn_any _ _ _ _).mono ?_
  rintro e w' ⟨rfl, rfl⟩
  rw [show inB 1 1 9 = true from rfl]
  go_wp2_with fail
  refine (sIn_any _ _ _ _).mono ?_
  rintro e w' ⟨rfl, rfl⟩
  rw [Hha.out]
  go_wp2_with fail
  refine (sIn_any _ _ _ _).mono ?_
  rintro e w' ⟨rfl, rfl⟩
  rw [Hho.out]
  go_wp2_with fail
  refine (sNode4_any _ _).mono ?_
  rintro e w' ⟨rfl, rfl⟩
  rw [Hht.out]
  go_wp2_with fail
  refine (sAmt_any _ _).mono ?_
  rintro e w' ⟨rfl, rfl⟩
  rw [HM.out]
  go_wp2
  go_ret
  exact ⟨rfl, B0⟩

set_option maxHeartbeats 8000000 in
theorem sRecOk_2 {w : World} {r : MRec} (e2 : r.Kind = 2) (ha : inB r.Acct 0 2 = true) (ho : inB r.Other 0 2 = true) (ht : inB r.To 0 3 = true) : Calls Tryd.prog 41 #[.agg #[.int .i64 r.Kind, .int .i64 r.Acct, .int .i64 r.Other, .int .i64 r.To, .int .i64 r.Amt, .int .i64 r.M.Kind, .int .i64 r.M.Acct, .int .i64 r.M.Amt, .int .i64 r.M.Src]] w fun e w' => e = .returned (.bool (recOkB r)) ∧ Below w.heap.size w w' := by
  obtain ⟨wa, hwa, B0, sa, x_a⟩ := frame1 w 26 [.int .i64 r.Kind, .int .i64 r.Acct, .int .i64 r.Other, .int .i64 r.To, .int .i64 r.Amt, .int .i64 r.M.Kind, .int .i64 r.M.Acct, .int .i64 r.M.Amt, .int .i64 r.M.Src]
  have sa_1 := Nat.le_of_eq sa
  have sa_2 := Nat.le_of_eq sa.symm
  clear sa
  have Hha := Lib.hid ha
  have Hho := Lib.hid ho
  have Hht := Lib.hid ht
  by_cases zOther : r.Other = 0
  case neg =>
    rw [show recOkB r = false by simp [recOkB, recAmtB, recMsgB, kAcct, kOther, kTo, kAmt, e2, show inB 2 1 9 = true from rfl, show inB 0 0 2 = true from rfl, show inB 0 0 3 = true from rfl, show numB 0 = true from rfl, bne, zOther]]
    have qOther : (r.Other != 0) = true := by simpa using zOther
    rw [e2] at x_a hwa ⊢
    clear zOther e2 ha ho ht
    have c0 := x_a.cell (i := 0) rfl
    have c1 := x_a.cell (i := 1) rfl
    have c2 := x_a.cell (i := 2) rfl
    have c3 := x_a.cell (i := 3) rfl
    have c4 := x_a.cell (i := 4) rfl
    have c5 := x_a.cell (i := 5) rfl
    have c6 := x_a.cell (i := 6) rfl
    have c7 := x_a.cell (i := 7) rfl
    have c8 := x_a.cell (i := 8) rfl
    go_enter Tryd.func41, Tryd.ntmps41
    go_wp2_with fail
    refine (sHas_2 _).mono ?_
    rintro e w' ⟨rfl, rfl⟩
    go_wp2_with fail
    refine (sIn_any _ _ _ _).mono ?_
    rintro e w' ⟨rfl, rfl⟩
    rw [show inB 2 1 9 = true from rfl]
    go_wp2_with fail
    refine (sIn_any _ _ _ _).mono ?_
    rintro e w' ⟨rfl, rfl⟩
    rw [Hha.out]
    go_wp2_with fail
    refine (sIn_any _ _ _ _).mono ?_
    rintro e w' ⟨rfl, rfl⟩
    rw [Hho.out]
    go_wp2_with fail
    refine (sNode4_any _ _).mono ?_
    rintro e w' ⟨rfl, rfl⟩
    rw [Hht.out]
    go_wp2
    go_ret
    exact ⟨rfl, B0⟩
  have qOther : (r.Other != 0) = false := by simpa using zOther
  by_cases zTo : r.To = 0
  case neg =>
    rw [show recOkB r = false by simp [recOkB, recAmtB, recMsgB, kAcct, kOther, kTo, kAmt, e2, show inB 2 1 9 = true from rfl, show inB 0 0 2 = true from rfl, show inB 0 0 3 = true from rfl, show numB 0 = true from rfl, bne, zTo]]
    have qTo : (r.To != 0) = true := by simpa using zTo
    rw [e2] at x_a hwa ⊢
    clear zTo zOther e2 ha ho ht
    have c0 := x_a.cell (i := 0) rfl
    have c1 := x_a.cell (i := 1) rfl
    have c2 := x_a.cell (i := 2) rfl
    have c3 := x_a.cell (i := 3) rfl
    have c4 := x_a.cell (i := 4) rfl
    have c5 := x_a.cell (i := 5) rfl
    have c6 := x_a.cell (i := 6) rfl
    have c7 := x_a.cell (i := 7) rfl
    have c8 := x_a.cell (i := 8) rfl
    go_enter Tryd.func41, Tryd.ntmps41
    go_wp2_with fail
    refine (sHas_2 _).mono ?_
    rintro e w' ⟨rfl, rfl⟩
    go_wp2_with fail
    refine (sIn_any _ _ _ _).mono ?_
    rintro e w' ⟨rfl, rfl⟩
    rw [show inB 2 1 9 = true from rfl]
    go_wp2_with fail
    refine (sIn_any _ _ _ _).mono ?_
    rintro e w' ⟨rfl, rfl⟩
    rw [Hha.out]
    go_wp2_with fail
    refine (sIn_any _ _ _ _).mono ?_
    rintro e w' ⟨rfl, rfl⟩
    rw [Hho.out]
    go_wp2_with fail
    refine (sNode4_any _ _).mono ?_
    rintro e w' ⟨rfl, rfl⟩
    rw [Hht.out]
    go_wp2
    go_ret
    exact ⟨rfl, B0⟩
  have qTo : (r.To != 0) = false := by simpa using zTo
  by_cases hm : amtB r.Amt = true
  case neg =>
    have hm' : amtB r.Amt = false := by simpa using hm
    rw [show recOkB r = false by simp [recOkB, recAmtB, recMsgB, kAcct, kOther, kTo, kAmt, e2, show inB 2 1 9 = true from rfl, show inB 0 0 2 = true from rfl, show inB 0 0 3 = true from rfl, show numB 0 = true from rfl, bne, hm']]
    have HM := Lib.hid hm'
    rw [e2] at x_a hwa ⊢
    clear hm hm' e2 ha ho ht zOther zTo
    have c0 := x_a.cell (i := 0) rfl
    have c1 := x_a.cell (i := 1) rfl
    have c2 := x_a.cell (i := 2) rfl
    have c3 := x_a.cell (i := 3) rfl
    have c4 := x_a.cell (i := 4) rfl
    have c5 := x_a.cell (i := 5) rfl
    have c6 := x_a.cell (i := 6) rfl
    have c7 := x_a.cell (i := 7) rfl
    have c8 := x_a.cell (i := 8) rfl
    go_enter Tryd.func41, Tryd.ntmps41
    go_wp2_with fail
    refine (sHas_2 _).mono ?_
    rintro e w' ⟨rfl, rfl⟩
    go_wp2_with fail
    refine (sIn_any _ _ _ _).mono ?_
    rintro e w' ⟨rfl, rfl⟩
    rw [show inB 2 1 9 = true from rfl]
    go_wp2_with fail
    refine (sIn_any _ _ _ _).mono ?_
    rintro e w' ⟨rfl, rfl⟩
    rw [Hha.out]
    go_wp2_with fail
    refine (sIn_any _ _ _ _).mono ?_
    rintro e w' ⟨rfl, rfl⟩
    rw [Hho.out]
    go_wp2_with fail
    refine (sNode4_any _ _).mono ?_
    rintro e w' ⟨rfl, rfl⟩
    rw [Hht.out]
    go_wp2_with fail
    refine (sAmt_any _ _).mono ?_
    rintro e w' ⟨rfl, rfl⟩
    rw [HM.out]
    go_wp2
    go_ret
    exact ⟨rfl, B0⟩
  have HM := Lib.hid hm
  by_cases zm : r.Amt = 0
  case pos =>
    exfalso
    have := amtB_parts hm
    omega
  have qm : (r.Amt == 0) = false := by simpa using zm
  rw [show recOkB r = decide (r.M = ⟨0, 0, 0, 0⟩) by simp [recOkB, recAmtB, recMsgB, kAcct, kOther, kTo, kAmt, e2, show inB 2 1 9 = true from rfl, show inB 0 0 2 = true from rfl, show inB 0 0 3 = true from rfl, show numB 0 = true from rfl, bne, ha, ho, ht, hm, zOther, zTo]]
  have gd := fun op x y W xs ys => guard_msg_run op x y W xs ys
  have ge := fun W => eql_msg_run W r.M ⟨0, 0, 0, 0⟩
  rw [e2] at x_a hwa ⊢
  clear hm e2 ha ho ht zOther zTo zm
  have c0 := x_a.cell (i := 0) rfl
  have c1 := x_a.cell (i := 1) rfl
  have c2 := x_a.cell (i := 2) rfl
  have c3 := x_a.cell (i := 3) rfl
  have c4 := x_a.cell (i := 4) rfl
  have c5 := x_a.cell (i := 5) rfl
  have c6 := x_a.cell (i := 6) rfl
  have c7 := x_a.cell (i := 7) rfl
  have c8 := x_a.cell (i := 8) rfl
  go_enter Tryd.func41, Tryd.ntmps41
  go_wp2_with fail
  refine (sHas_2 _).mono ?_
  rintro e w' ⟨rfl, rfl⟩
  go_wp2_with fail
  refine (sIn_any _ _ _ _).mono ?_
  rintro e w' ⟨rfl, rfl⟩
  rw [show inB 2 1 9 = true from rfl]
  go_wp2_with fail
  refine (sIn_any _ _ _ _).mono ?_
  rintro e w' ⟨rfl, rfl⟩
  rw [Hha.out]
  go_wp2_with fail
  refine (sIn_any _ _ _ _).mono ?_
  rintro e w' ⟨rfl, rfl⟩
  rw [Hho.out]
  go_wp2_with fail
  refine (sNode4_any _ _).mono ?_
  rintro e w' ⟨rfl, rfl⟩
  rw [Hht.out]
  go_wp2_with fail
  refine (sAmt_any _ _).mono ?_
  rintro e w' ⟨rfl, rfl⟩
  rw [HM.out]
  go_wp2
  go_ret
  exact ⟨rfl, B0⟩

set_option maxHeartbeats 8000000 in
theorem sRecOk_3 {w : World} {r : MRec} (e3 : r.Kind = 3) (ha : inB r.Acct 0 2 = true) (ho : inB r.Other 0 2 = true) (ht : inB r.To 0 3 = true) : Calls Tryd.prog 41 #[.agg #[.int .i64 r.Kind, .int .i64 r.Acct, .int .i64 r.Other, .int .i64 r.To, .int .i64 r.Amt, .int .i64 r.M.Kind, .int .i64 r.M.Acct, .int .i64 r.M.Amt, .int .i64 r.M.Src]] w fun e w' => e = .returned (.bool (recOkB r)) ∧ Below w.heap.size w w' := by
  obtain ⟨wa, hwa, B0, sa, x_a⟩ := frame1 w 26 [.int .i64 r.Kind, .int .i64 r.Acct, .int .i64 r.Other, .int .i64 r.To, .int .i64 r.Amt, .int .i64 r.M.Kind, .int .i64 r.M.Acct, .int .i64 r.M.Amt, .int .i64 r.M.Src]
  have sa_1 := Nat.le_of_eq sa
  have sa_2 := Nat.le_of_eq sa.symm
  clear sa
  have Hha := Lib.hid ha
  have Hho := Lib.hid ho
  have Hht := Lib.hid ht
  by_cases zOther : r.Other = 0
  case neg =>
    rw [show recOkB r = false by simp [recOkB, recAmtB, recMsgB, kAcct, kOther, kTo, kAmt, e3, show inB 3 1 9 = true from rfl, show inB 0 0 2 = true from rfl, show inB 0 0 3 = true from rfl, show numB 0 = true from rfl, bne, zOther]]
    have qOther : (r.Other != 0) = true := by simpa using zOther
    rw [e3] at x_a hwa ⊢
    clear zOther e3 ha ho ht
    have c0 := x_a.cell (i := 0) rfl
    have c1 := x_a.cell (i := 1) rfl
    have c2 := x_a.cell (i := 2) rfl
    have c3 := x_a.cell (i := 3) rfl
    have c4 := x_a.cell (i := 4) rfl
    have c5 := x_a.cell (i := 5) rfl
    have c6 := x_a.cell (i := 6) rfl
    have c7 := x_a.cell (i := 7) rfl
    have c8 := x_a.cell (i := 8) rfl
    go_enter Tryd.func41, Tryd.ntmps41
    go_wp2_with fail
    refine (sHas_3 _).mono ?_
    rintro e w' ⟨rfl, rfl⟩
    go_wp2_with fail
    refine (sIn_any _ _ _ _).mono ?_
    rintro e w' ⟨rfl, rfl⟩
    rw [show inB 3 1 9 = true from rfl]
    go_wp2_with fail
    refine (sIn_any _ _ _ _).mono ?_
    rintro e w' ⟨rfl, rfl⟩
    rw [Hha.out]
    go_wp2_with fail
    refine (sIn_any _ _ _ _).mono ?_
    rintro e w' ⟨rfl, rfl⟩
    rw [Hho.out]
    go_wp2_with fail
    refine (sNode4_any _ _).mono ?_
    rintro e w' ⟨rfl, rfl⟩
    rw [Hht.out]
    go_wp2
    go_ret
    exact ⟨rfl, B0⟩
  have qOther : (r.Other != 0) = false := by simpa using zOther
  by_cases hm : amtB r.Amt = true
  case neg =>
    have hm' : amtB r.Amt = false := by simpa using hm
    rw [show recOkB r = false by simp [recOkB, recAmtB, recMsgB, kAcct, kOther, kTo, kAmt, e3, show inB 3 1 9 = true from rfl, show inB 0 0 2 = true from rfl, show inB 0 0 3 = true from rfl, show numB 0 = true from rfl, bne, hm']]
    have HM := Lib.hid hm'
    rw [e3] at x_a hwa ⊢
    clear hm hm' e3 ha ho ht zOther
    have c0 := x_a.cell (i := 0) rfl
    have c1 := x_a.cell (i := 1) rfl
    have c2 := x_a.cell (i := 2) rfl
    have c3 := x_a.cell (i := 3) rfl
    have c4 := x_a.cell (i := 4) rfl
    have c5 := x_a.cell (i := 5) rfl
    have c6 := x_a.cell (i := 6) rfl
    have c7 := x_a.cell (i := 7) rfl
    have c8 := x_a.cell (i := 8) rfl
    go_enter Tryd.func41, Tryd.ntmps41
    go_wp2_with fail
    refine (sHas_3 _).mono ?_
    rintro e w' ⟨rfl, rfl⟩
    go_wp2_with fail
    refine (sIn_any _ _ _ _).mono ?_
    rintro e w' ⟨rfl, rfl⟩
    rw [show inB 3 1 9 = true from rfl]
    go_wp2_with fail
    refine (sIn_any _ _ _ _).mono ?_
    rintro e w' ⟨rfl, rfl⟩
    rw [Hha.out]
    go_wp2_with fail
    refine (sIn_any _ _ _ _).mono ?_
    rintro e w' ⟨rfl, rfl⟩
    rw [Hho.out]
    go_wp2_with fail
    refine (sNode4_any _ _).mono ?_
    rintro e w' ⟨rfl, rfl⟩
    rw [Hht.out]
    go_wp2_with fail
    refine (sAmt_any _ _).mono ?_
    rintro e w' ⟨rfl, rfl⟩
    rw [HM.out]
    go_wp2
    go_ret
    exact ⟨rfl, B0⟩
  have HM := Lib.hid hm
  by_cases zm : r.Amt = 0
  case pos =>
    exfalso
    have := amtB_parts hm
    omega
  have qm : (r.Amt == 0) = false := by simpa using zm
  rw [show recOkB r = decide (r.M = ⟨0, 0, 0, 0⟩) by simp [recOkB, recAmtB, recMsgB, kAcct, kOther, kTo, kAmt, e3, show inB 3 1 9 = true from rfl, show inB 0 0 2 = true from rfl, show inB 0 0 3 = true from rfl, show numB 0 = true from rfl, bne, ha, ho, ht, hm, zOther]]
  have gd := fun op x y W xs ys => guard_msg_run op x y W xs ys
  have ge := fun W => eql_msg_run W r.M ⟨0, 0, 0, 0⟩
  rw [e3] at x_a hwa ⊢
  clear hm e3 ha ho ht zOther zm
  have c0 := x_a.cell (i := 0) rfl
  have c1 := x_a.cell (i := 1) rfl
  have c2 := x_a.cell (i := 2) rfl
  have c3 := x_a.cell (i := 3) rfl
  have c4 := x_a.cell (i := 4) rfl
  have c5 := x_a.cell (i := 5) rfl
  have c6 := x_a.cell (i := 6) rfl
  have c7 := x_a.cell (i := 7) rfl
  have c8 := x_a.cell (i := 8) rfl
  go_enter Tryd.func41, Tryd.ntmps41
  go_wp2_with fail
  refine (sHas_3 _).mono ?_
  rintro e w' ⟨rfl, rfl⟩
  go_wp2_with fail
  refine (sIn_any _ _ _ _).mono ?_
  rintro e w' ⟨rfl, rfl⟩
  rw [show inB 3 1 9 = true from rfl]
  go_wp2_with fail
  refine (sIn_any _ _ _ _).mono ?_
  rintro e w' ⟨rfl, rfl⟩
  rw [Hha.out]
  go_wp2_with fail
  refine (sIn_any _ _ _ _).mono ?_
  rintro e w' ⟨rfl, rfl⟩
  rw [Hho.out]
  go_wp2_with fail
  refine (sNode4_any _ _).mono ?_
  rintro e w' ⟨rfl, rfl⟩
  rw [Hht.out]
  go_wp2_with fail
  refine (sAmt_any _ _).mono ?_
  rintro e w' ⟨rfl, rfl⟩
  rw [HM.out]
  go_wp2
  go_ret
  exact ⟨rfl, B0⟩

end Go.Proofs.YtkbhbccpmmhelaaDoor

namespace Go.Proofs.YtkbhbccpmmhelaaDoor
open Go.RowKit
set_option linter.unusedVariables false
set_option linter.unusedSimpArgs false

set_option maxHeartbeats 8000000 in
theorem sRecOk_4 {w : World} {r : MRec} (e4 : r.Kind = 4) (ha : inB r.Acct 0 2 = true) (ho : inB r.Other 0 2 = true) (ht : inB r.To 0 3 = true) : Calls Tryd.prog 41 #[.agg #[.int .i64 r.Kind, .int .i64 r.Acct, .int .i64 r.Other, .int .i64 r.To, .int .i64 r.Amt, .int .i64 r.M.Kind, .int .i64 r.M.Acct, .int .i64 r.M.Amt, .int .i64 r.M.Src]] w fun e w' => e = .returned (.bool (recOkB r)) ∧ Below w.heap.size w w' := by
  obtain ⟨wa, hwa, B0, sa, x_a⟩ := frame1 w 26 [.int .i64 r.Kind, .int .i64 r.Acct, .int .i64 r.Other, .int .i64 r.To, .int .i64 r.Amt, .int .i64 r.M.Kind, .int .i64 r.M.Acct, .int .i64 r.M.Amt, .int .i64 r.M.Src]
  have sa_1 := Nat.le_of_eq sa
  have sa_2 := Nat.le_of_eq sa.symm
  clear sa
  have Hha := Lib.hid ha
  have Hho := Lib.hid ho
  have Hht := Lib.hid ht
  by_cases hm : amtB r.Amt = true
  case neg =>
    have hm' : amtB r.Amt = false := by simpa using hm
    rw [show recOkB r = false by simp [recOkB, recAmtB, recMsgB, kAcct, kOther, kTo, kAmt, e4, show inB 4 1 9 = true from rfl, show inB 0 0 2 = true from rfl, show inB 0 0 3 = true from rfl, show numB 0 = true from rfl, bne, hm']]
    have HM := Lib.hid hm'
    rw [e4] at x_a hwa ⊢
    clear hm hm' e4 ha ho ht 
    have c0 := x_a.cell (i := 0) rfl
    have c1 := x_a.cell (i := 1) rfl
    have c2 := x_a.cell (i := 2) rfl
    have c3 := x_a.cell (i := 3) rfl
    have c4 := x_a.cell (i := 4) rfl
    have c5 := x_a.cell (i := 5) rfl
    have c6 := x_a.cell (i := 6) rfl
    have c7 := x_a.cell (i := 7) rfl
    have c8 := x_a.cell (i := 8) rfl
    go_enter Tryd.func41, Tryd.ntmps41
    go_wp2_with fail
    refine (sHas_4 _).mono ?_
    rintro e w' ⟨rfl, rfl⟩
    go_wp2_with fail
    refine (sIn_any _ _ _ _).mono ?_
    rintro e w' ⟨rfl, rfl⟩
    rw [show inB 4 1 9 = true from rfl]
    go_wp2_with fail
    refine (sIn_any _ _ _ _).mono ?_
    rintro e w' ⟨rfl, rfl⟩
    rw [Hha.out]
    go_wp2_with fail
    refine (sIn_any _ _ _ _).mono ?_
    rintro e w' ⟨rfl, rfl⟩
    rw [Hho.out]
    go_wp2_with fail
    refine (sNode4_any _ _).mono ?_
    rintro e w' ⟨rfl, rfl⟩
    rw [Hht.out]
    go_wp2_with fail
    refine (sAmt_any _ _).mono ?_
    rintro e w' ⟨rfl, rfl⟩
    rw [HM.out]
    go_wp2
    go_ret
    exact ⟨rfl, B0⟩
  have HM := Lib.hid hm
  by_cases zm : r.Amt = 0
  case pos =>
    exfalso
    have := amtB_parts hm
    omega
  have qm : (r.Amt == 0) = false := by simpa using zm
  rw [show recOkB r = decide (r.M = ⟨0, 0, 0, 0⟩) by simp [recOkB, recAmtB, recMsgB, kAcct, kOther, kTo, kAmt, e4, show inB 4 1 9 = true from rfl, show inB 0 0 2 = true from rfl, show inB 0 0 3 = true from rfl, show numB 0 = true from rfl, bne, ha, ho, ht, hm]]
  have gd := fun op x y W xs ys => guard_msg_run op x y W xs ys
  have ge := fun W => eql_msg_run W r.M ⟨0, 0, 0, 0⟩
  rw [e4] at x_a hwa ⊢
  clear hm e4 ha ho ht zm
  have c0 := x_a.cell (i := 0) rfl
  have c1 := x_a.cell (i := 1) rfl
  have c2 := x_a.cell (i := 2) rfl
  have c3 := x_a.cell (i := 3) rfl
  have c4 := x_a.cell (i := 4) rfl
  have c5 := x_a.cell (i := 5) rfl
  have c6 := x_a.cell (i := 6) rfl
  have c7 := x_a.cell (i := 7) rfl
  have c8 := x_a.cell (i := 8) rfl
  go_enter Tryd.func41, Tryd.ntmps41
  go_wp2_with fail
  refine (sHas_4 _).mono ?_
  rintro e w' ⟨rfl, rfl⟩
  go_wp2_with fail
  refine (sIn_any _ _ _ _).mono ?_
  rintro e w' ⟨rfl, rfl⟩
  rw [show inB 4 1 9 = true from rfl]
  go_wp2_with fail
  refine (sIn_any _ _ _ _).mono ?_
  rintro e w' ⟨rfl, rfl⟩
  rw [Hha.out]
  go_wp2_with fail
  refine (sIn_any _ _ _ _).mono ?_
  rintro e w' ⟨rfl, rfl⟩
  rw [Hho.out]
  go_wp2_with fail
  refine (sNode4_any _ _).mono ?_
  rintro e w' ⟨rfl, rfl⟩
  rw [Hht.out]
  go_wp2_with fail
  refine (sAmt_any _ _).mono ?_
  rintro e w' ⟨rfl, rfl⟩
  rw [HM.out]
  go_wp2
  go_ret
  exact ⟨rfl, B0⟩

set_option maxHeartbeats 8000000 in
theorem sRecOk_5 {w : World} {r : MRec} (e5 : r.Kind = 5) (ha : inB r.Acct 0 2 = true) (ho : inB r.Other 0 2 = true) (ht : inB r.To 0 3 = true) : Calls Tryd.prog 41 #[.agg #[.int .i64 r.Kind, .int .i64 r.Acct, .int .i64 r.Other, .int .i64 r.To, .int .i64 r.Amt, .int .i64 r.M.Kind, .int .i64 r.M.Acct, .int .i64 r.M.Amt, .int .i64 r.M.Src]] w fun e w' => e = .returned (.bool (recOkB r)) ∧ Below w.heap.size w w' := by
  obtain ⟨wa, hwa, B0, sa, x_a⟩ := frame1 w 26 [.int .i64 r.Kind, .int .i64 r.Acct, .int .i64 r.Other, .int .i64 r.To, .int .i64 r.Amt, .int .i64 r.M.Kind, .int .i64 r.M.Acct, .int .i64 r.M.Amt, .int .i64 r.M.Src]
  have sa_1 := Nat.le_of_eq sa
  have sa_2 := Nat.le_of_eq sa.symm
  clear sa
  have Hha := Lib.hid ha
  have Hho := Lib.hid ho
  have Hht := Lib.hid ht
  by_cases zAcct : r.Acct = 0
  case neg =>
    rw [show recOkB r = false by simp [recOkB, recAmtB, recMsgB, kAcct, kOther, kTo, kAmt, e5, show inB 5 1 9 = true from rfl, show inB 0 0 2 = true from rfl, show inB 0 0 3 = true from rfl, show numB 0 = true from rfl, bne, zAcct]]
    have qAcct : (r.Acct != 0) = true := by simpa using zAcct
    rw [e5] at x_a hwa ⊢
    clear zAcct e5 ha ho ht
    have c0 := x_a.cell (i := 0) rfl
    have c1 := x_a.cell (i := 1) rfl
    have c2 := x_a.cell (i := 2) rfl
    have c3 := x_a.cell (i := 3) rfl
    have c4 := x_a.cell (i := 4) rfl
    have c5 := x_a.cell (i := 5) rfl
    have c6 := x_a.cell (i := 6) rfl
    have c7 := x_a.cell (i := 7) rfl
    have c8 := x_a.cell (i := 8) rfl
    go_enter Tryd.func41, Tryd.ntmps41
    go_wp2_with fail
    refine (sHas_5 _).mono ?_
    rintro e w' ⟨rfl, rfl⟩
    go_wp2_with fail
    refine (sIn_any _ _ _ _).mono ?_
    rintro e w' ⟨rfl, rfl⟩
    rw [show inB 5 1 9 = true from rfl]
    go_wp2_with fail
    refine (sIn_any _ _ _ _).mono ?_
    rintro e w' ⟨rfl, rfl⟩
    rw [Hha.out]
    go_wp2_with fail
    refine (sIn_any _ _ _ _).mono ?_
    rintro e w' ⟨rfl, rfl⟩
    rw [Hho.out]
    go_wp2_with fail
    refine (sNode4_any _ _).mono ?_
    rintro e w' ⟨rfl, rfl⟩
    rw [Hht.out]
    go_wp2
    go_ret
    exact ⟨rfl, B0⟩
  have qAcct : (r.Acct != 0) = false := by simpa using zAcct
  by_cases zOther : r.Other = 0
  case neg =>
    rw [show recOkB r = false by simp [recOkB, recAmtB, recMsgB, kAcct, kOther, kTo, kAmt, e5, show inB 5 1 9 = true from rfl, show inB 0 0 2 = true from rfl, show inB 0 0 3 = true from rfl, show numB 0 = true from rfl, bne, zOther]]
    have qOther : (r.Other != 0) = true := by simpa using zOther
    rw [e5] at x_a hwa ⊢
    clear zOther zAcct e5 ha ho ht
    have c0 := x_a.cell (i := 0) rfl
    have c1 := x_a.cell (i := 1) rfl
    have c2 := x_a.cell (i := 2) rfl
    have c3 := x_a.cell (i := 3) rfl
    have c4 := x_a.cell (i := 4) rfl
    have c5 := x_a.cell (i := 5) rfl
    have c6 := x_a.cell (i := 6) rfl
    have c7 := x_a.cell (i := 7) rfl
    have c8 := x_a.cell (i := 8) rfl
    go_enter Tryd.func41, Tryd.ntmps41
    go_wp2_with fail
    refine (sHas_5 _).mono ?_
    rintro e w' ⟨rfl, rfl⟩
    go_wp2_with fail
    refine (sIn_any _ _ _ _).mono ?_
    rintro e w' ⟨rfl, rfl⟩
    rw [show inB 5 1 9 = true from rfl]
    go_wp2_with fail
    refine (sIn_any _ _ _ _).mono ?_
    rintro e w' ⟨rfl, rfl⟩
    rw [Hha.out]
    go_wp2_with fail
    refine (sIn_any _ _ _ _).mono ?_
    rintro e w' ⟨rfl, rfl⟩
    rw [Hho.out]
    go_wp2_with fail
    refine (sNode4_any _ _).mono ?_
    rintro e w' ⟨rfl, rfl⟩
    rw [Hht.out]
    go_wp2
    go_ret
    exact ⟨rfl, B0⟩
  have qOther : (r.Other != 0) = false := by simpa using zOther
  by_cases hm : numB r.Amt = true
  case neg =>
    have hm' : numB r.Amt = false := by simpa using hm
    rw [show recOkB r = false by simp [recOkB, recAmtB, recMsgB, kAcct, kOther, kTo, kAmt, e5, show inB 5 1 9 = true from rfl, show inB 0 0 2 = true from rfl, show inB 0 0 3 = true from rfl, show numB 0 = true from rfl, bne, hm']]
    have HM := Lib.hid hm'
    rw [e5] at x_a hwa ⊢
    clear hm hm' e5 ha ho ht zAcct zOther
    have c0 := x_a.cell (i := 0) rfl
    have c1 := x_a.cell (i := 1) rfl
    have c2 := x_a.cell (i := 2) rfl
    have c3 := x_a.cell (i := 3) rfl
    have c4 := x_a.cell (i := 4) rfl
    have c5 := x_a.cell (i := 5) rfl
    have c6 := x_a.cell (i := 6) rfl
    have c7 := x_a.cell (i := 7) rfl
    have c8 := x_a.cell (i := 8) rfl
    go_enter Tryd.func41, Tryd.ntmps41
    go_wp2_with fail
    refine (sHas_5 _).mono ?_
    rintro e w' ⟨rfl, rfl⟩
    go_wp2_with fail
    refine (sIn_any _ _ _ _).mono ?_
    rintro e w' ⟨rfl, rfl⟩
    rw [show inB 5 1 9 = true from rfl]
    go_wp2_with fail
    refine (sIn_any _ _ _ _).mono ?_
    rintro e w' ⟨rfl, rfl⟩
    rw [Hha.out]
    go_wp2_with fail
    refine (sIn_any _ _ _ _).mono ?_
    rintro e w' ⟨rfl, rfl⟩
    rw [Hho.out]
    go_wp2_with fail
    refine (sNode4_any _ _).mono ?_
    rintro e w' ⟨rfl, rfl⟩
    rw [Hht.out]
    go_wp2_with fail
    refine (sNum_any _ _).mono ?_
    rintro e w' ⟨rfl, rfl⟩
    rw [HM.out]
    go_wp2
    go_ret
    exact ⟨rfl, B0⟩
  have HM := Lib.hid hm
  by_cases zm : r.Amt = 0
  case pos =>
    rw [show recOkB r = false by simp [recOkB, recAmtB, recMsgB, kAcct, kOther, kTo, kAmt, e5, show inB 5 1 9 = true from rfl, show inB 0 0 2 = true from rfl, show inB 0 0 3 = true from rfl, show numB 0 = true from rfl, bne, zm]]
    have qm : (r.Amt == 0) = true := by simpa using zm
    rw [e5] at x_a hwa ⊢
    clear zm hm e5 ha ho ht zAcct zOther
    have c0 := x_a.cell (i := 0) rfl
    have c1 := x_a.cell (i := 1) rfl
    have c2 := x_a.cell (i := 2) rfl
    have c3 := x_a.cell (i := 3) rfl
    have c4 := x_a.cell (i := 4) rfl
    have c5 := x_a.cell (i := 5) rfl
    have c6 := x_a.cell (i := 6) rfl
    have c7 := x_a.cell (i := 7) rfl
    have c8 := x_a.cell (i := 8) rfl
    go_enter Tryd.func41, Tryd.ntmps41
    go_wp2_with fail
    refine (sHas_5 _).mono ?_
    rintro e w' ⟨rfl, rfl⟩
    go_wp2_with fail
    refine (sIn_any _ _ _ _).mono ?_
    rintro e w' ⟨rfl, rfl⟩
    rw [show inB 5 1 9 = true from rfl]
    go_wp2_with fail
    refine (sIn_any _ _ _ _).mono ?_
    rintro e w' ⟨rfl, rfl⟩
    rw [Hha.out]
    go_wp2_with fail
    refine (sIn_any _ _ _ _).mono ?_
    rintro e w' ⟨rfl, rfl⟩
    rw [Hho.out]
    go_wp2_with fail
    refine (sNode4_any _ _).mono ?_
    rintro e w' ⟨rfl, rfl⟩
    rw [Hht.out]
    go_wp2_with fail
    refine (sNum_any _ _).mono ?_
    rintro e w' ⟨rfl, rfl⟩
    rw [HM.out]
    go_wp2
    go_ret
    exact ⟨rfl, B0⟩
  have qm : (r.Amt == 0) = false := by simpa using zm
  rw [show recOkB r = msgOkB r.M by simp [recOkB, recAmtB, recMsgB, kAcct, kOther, kTo, kAmt, e5, show inB 5 1 9 = true from rfl, show inB 0 0 2 = true from rfl, show inB 0 0 3 = true from rfl, show numB 0 = true from rfl, bne, ha, ho, ht, hm, zAcct, zOther, zm]]
  rw [e5] at x_a hwa ⊢
  clear hm e5 ha ho ht zAcct zOther zm
  have c0 := x_a.cell (i := 0) rfl
  have c1 := x_a.cell (i := 1) rfl
  have c2 := x_a.cell (i := 2) rfl
  have c3 := x_a.cell (i := 3) rfl
  have c4 := x_a.cell (i := 4) rfl
  have c5 := x_a.cell (i := 5) rfl
  have c6 := x_a.cell (i := 6) rfl
  have c7 := x_a.cell (i := 7) rfl
  have c8 := x_a.cell (i := 8) rfl
  go_enter Tryd.func41, Tryd.ntmps41
  go_wp2_with fail
  refine (sHas_5 _).mono ?_
  rintro e w' ⟨rfl, rfl⟩
  go_wp2_with fail
  refine (sIn_any _ _ _ _).mono ?_
  rintro e w' ⟨rfl, rfl⟩
  rw [show inB 5 1 9 = true from rfl]
  go_wp2_with fail
  refine (sIn_any _ _ _ _).mono ?_
  rintro e w' ⟨rfl, rfl⟩
  rw [Hha.out]
  go_wp2_with fail
  refine (sIn_any _ _ _ _).mono ?_
  rintro e w' ⟨rfl, rfl⟩
  rw [Hho.out]
  go_wp2_with fail
  refine (sNode4_any _ _).mono ?_
  rintro e w' ⟨rfl, rfl⟩
  rw [Hht.out]
  go_wp2_with fail
  refine (sNum_any _ _).mono ?_
  rintro e w' ⟨rfl, rfl⟩
  rw [HM.out]
  go_wp2_with fail
  refine (sMsgOk_c (m := r.M) rv_msg_mk).mono ?_
  rintro e w1 ⟨rfl, hb1⟩
  go_wp2
  go_ret
  exact ⟨rfl, B0.trans (hb1.mono B0.size)⟩

set_option maxHeartbeats 8000000 in
theorem sRecOk_6 {w : World} {r : MRec} (e6 : r.Kind = 6) (ha : inB r.Acct 0 2 = true) (ho : inB r.Other 0 2 = true) (ht : inB r.To 0 3 = true) : Calls Tryd.prog 41 #[.agg #[.int .i64 r.Kind, .int .i64 r.Acct, .int .i64 r.Other, .int .i64 r.To, .int .i64 r.Amt, .int .i64 r.M.Kind, .int .i64 r.M.Acct, .int .i64 r.M.Amt, .int .i64 r.M.Src]] w fun e w' => e = .returned (.bool (recOkB r)) ∧ Below w.heap.size w w' := by
  obtain ⟨wa, hwa, B0, sa, x_a⟩ := frame1 w 26 [.int .i64 r.Kind, .int .i64 r.Acct, .int .i64 r.Other, .int .i64 r.To, .int .i64 r.Amt, .int .i64 r.M.Kind, .int .i64 r.M.Acct, .int .i64 r.M.Amt, .int .i64 r.M.Src]
  have sa_1 := Nat.le_of_eq sa
  have sa_2 := Nat.le_of_eq sa.symm
  clear sa
  have Hha := Lib.hid ha
  have Hho := Lib.hid ho
  have Hht := Lib.hid ht
  by_cases zAcct : r.Acct = 0
  case neg =>
    rw [show recOkB r = false by simp [recOkB, recAmtB, recMsgB, kAcct, kOther, kTo, kAmt, e6, show inB 6 1 9 = true from rfl, show inB 0 0 2 = true from rfl, show inB 0 0 3 = true from rfl, show numB 0 = true from rfl, bne, zAcct]]
    have qAcct : (r.Acct != 0) = true := by simpa using zAcct
    rw [e6] at x_a hwa ⊢
    clear zAcct e6 ha ho ht
    have c0 := x_a.cell (i := 0) rfl
    have c1 := x_a.cell (i := 1) rfl
    have c2 := x_a.cell (i := 2) rfl
    have c3 := x_a.cell (i := 3) rfl
    have c4 := x_a.cell (i := 4) rfl
    have c5 := x_a.cell (i := 5) rfl
    have c6 := x_a.cell (i := 6) rfl
    have c7 := x_a.cell (i := 7) rfl
    have c8 := x_a.cell (i := 8) rfl
    go_enter Tryd.func41, Tryd.ntmps41
    go_wp2_with fail
    refine (sHas_6 _).mono ?_
    rintro e w' ⟨rfl, rfl⟩
    go_wp2_with fail
    refine (sIn_any _ _ _ _).mono ?_
    rintro e w' ⟨rfl, rfl⟩
    rw [show inB 6 1 9 = true from rfl]
    go_wp2_with fail
    refine (sIn_any _ _ _ _).mono ?_
    rintro e w' ⟨rfl, rfl⟩
    rw [Hha.out]
    go_wp2_with fail
    refine (sIn_any _ _ _ _).mono ?_
    rintro e w' ⟨rfl, rfl⟩
    rw [Hho.out]
    go_wp2_with fail
    refine (sNode4_any _ _).mono ?_
    rintro e w' ⟨rfl, rfl⟩
    rw [Hht.out]
    go_wp2
    go_ret
    exact ⟨rfl, B0⟩
  have qAcct : (r.Acct != 0) = false := by simpa using zAcct
  by_cases zOther : r.Other = 0
  case neg =>
    rw [show recOkB r = false by simp [recOkB, recAmtB, recMsgB, kAcct, kOther, kTo, kAmt, e6, show inB 6 1 9 = true from rfl, show inB 0 0 2 = true from rfl, show inB 0 0 3 = true from rfl, show numB 0 = true from rfl, bne, zOther]]
    have qOther : (r.Other != 0) = true := by simpa using zOther
    rw [e6] at x_a hwa ⊢
    clear zOther zAcct e6 ha ho ht
    have c0 := x_a.cell (i := 0) rfl
    have c1 := x_a.cell (i := 1) rfl
    have c2 := x_a.cell (i := 2) rfl
    have c3 := x_a.cell (i := 3) rfl
    have c4 := x_a.cell (i := 4) rfl
    have c5 := x_a.cell (i := 5) rfl
    have c6 := x_a.cell (i := 6) rfl
    have c7 := x_a.cell (i := 7) rfl
    have c8 := x_a.cell (i := 8) rfl
    go_enter Tryd.func41, Tryd.ntmps41
    go_wp2_with fail
    refine (sHas_6 _).mono ?_
    rintro e w' ⟨rfl, rfl⟩
    go_wp2_with fail
    refine (sIn_any _ _ _ _).mono ?_
    rintro e w' ⟨rfl, rfl⟩
    rw [show inB 6 1 9 = true from rfl]
    go_wp2_with fail
    refine (sIn_any _ _ _ _).mono ?_
    rintro e w' ⟨rfl, rfl⟩
    rw [Hha.out]
    go_wp2_with fail
    refine (sIn_any _ _ _ _).mono ?_
    rintro e w' ⟨rfl, rfl⟩
    rw [Hho.out]
    go_wp2_with fail
    refine (sNode4_any _ _).mono ?_
    rintro e w' ⟨rfl, rfl⟩
    rw [Hht.out]
    go_wp2
    go_ret
    exact ⟨rfl, B0⟩
  have qOther : (r.Other != 0) = false := by simpa using zOther
  by_cases hm : numB r.Amt = true
  case neg =>
    have hm' : numB r.Amt = false := by simpa using hm
    rw [show recOkB r = false by simp [recOkB, recAmtB, recMsgB, kAcct, kOther, kTo, kAmt, e6, show inB 6 1 9 = true from rfl, show inB 0 0 2 = true from rfl, show inB 0 0 3 = true from rfl, show numB 0 = true from rfl, bne, hm']]
    have HM := Lib.hid hm'
    rw [e6] at x_a hwa ⊢
    clear hm hm' e6 ha ho ht zAcct zOther
    have c0 := x_a.cell (i := 0) rfl
    have c1 := x_a.cell (i := 1) rfl
    have c2 := x_a.cell (i := 2) rfl
    have c3 := x_a.cell (i := 3) rfl
    have c4 := x_a.cell (i := 4) rfl
    have c5 := x_a.cell (i := 5) rfl
    have c6 := x_a.cell (i := 6) rfl
    have c7 := x_a.cell (i := 7) rfl
    have c8 := x_a.cell (i := 8) rfl
    go_enter Tryd.func41, Tryd.ntmps41
    go_wp2_with fail
    refine (sHas_6 _).mono ?_
    rintro e w' ⟨rfl, rfl⟩
    go_wp2_with fail
    refine (sIn_any _ _ _ _).mono ?_
    rintro e w' ⟨rfl, rfl⟩
    rw [show inB 6 1 9 = true from rfl]
    go_wp2_with fail
    refine (sIn_any _ _ _ _).mono ?_
    rintro e w' ⟨rfl, rfl⟩
    rw [Hha.out]
    go_wp2_with fail
    refine (sIn_any _ _ _ _).mono ?_
    rintro e w' ⟨rfl, rfl⟩
    rw [Hho.out]
    go_wp2_with fail
    refine (sNode4_any _ _).mono ?_
    rintro e w' ⟨rfl, rfl⟩
    rw [Hht.out]
    go_wp2_with fail
    refine (sNum_any _ _).mono ?_
    rintro e w' ⟨rfl, rfl⟩
    rw [HM.out]
    go_wp2
    go_ret
    exact ⟨rfl, B0⟩
  have HM := Lib.hid hm
  rw [show recOkB r = decide (r.M = ⟨0, 0, 0, 0⟩) by simp [recOkB, recAmtB, recMsgB, kAcct, kOther, kTo, kAmt, e6, show inB 6 1 9 = true from rfl, show inB 0 0 2 = true from rfl, show inB 0 0 3 = true from rfl, show numB 0 = true from rfl, bne, ha, ho, ht, hm, zAcct, zOther]]
  have gd := fun op x y W xs ys => guard_msg_run op x y W xs ys
  have ge := fun W => eql_msg_run W r.M ⟨0, 0, 0, 0⟩
  rw [e6] at x_a hwa ⊢
  clear hm e6 ha ho ht zAcct zOther
  have c0 := x_a.cell (i := 0) rfl
  have c1 := x_a.cell (i := 1) rfl
  have c2 := x_a.cell (i := 2) rfl
  have c3 := x_a.cell (i := 3) rfl
  have c4 := x_a.cell (i := 4) rfl
  have c5 := x_a.cell (i := 5) rfl
  have c6 := x_a.cell (i := 6) rfl
  have c7 := x_a.cell (i := 7) rfl
  have c8 := x_a.cell (i := 8) rfl
  go_enter Tryd.func41, Tryd.ntmps41
  go_wp2_with fail
  refine (sHas_6 _).mono ?_
  rintro e w' ⟨rfl, rfl⟩
  go_wp2_with fail
  refine (sIn_any _ _ _ _).mono ?_
  rintro e w' ⟨rfl, rfl⟩
  rw [show inB 6 1 9 = true from rfl]
  go_wp2_with fail
  refine (sIn_any _ _ _ _).mono ?_
  rintro e w' ⟨rfl, rfl⟩
  rw [Hha.out]
  go_wp2_with fail
  refine (sIn_any _ _ _ _).mono ?_
  rintro e w' ⟨rfl, rfl⟩
  rw [Hho.out]
  go_wp2_with fail
  refine (sNode4_any _ _).mono ?_
  rintro e w' ⟨rfl, rfl⟩
  rw [Hht.out]
  go_wp2_with fail
  refine (sNum_any _ _).mono ?_
  rintro e w' ⟨rfl, rfl⟩
  rw [HM.out]
  go_wp2
  go_ret
  exact ⟨rfl, B0⟩

end Go.Proofs.YtkbhbccpmmhelaaDoor

namespace Go.Proofs.YtkbhbccpmmhelaaDoor
open Go.RowKit
set_option linter.unusedVariables false
set_option linter.unusedSimpArgs false

set_option maxHeartbeats 8000000 in
theorem sRecOk_7 {w : World} {r : MRec} (e7 : r.Kind = 7) (ha : inB r.Acct 0 2 = true) (ho : inB r.Other 0 2 = true) (ht : inB r.To 0 3 = true) : Calls Tryd.prog 41 #[.agg #[.int .i64 r.Kind, .int .i64 r.Acct, .int .i64 r.Other, .int .i64 r.To, .int .i64 r.Amt, .int .i64 r.M.Kind, .int .i64 r.M.Acct, .int .i64 r.M.Amt, .int .i64 r.M.Src]] w fun e w' => e = .returned (.bool (recOkB r)) ∧ Below w.heap.size w w' := by
  obtain ⟨wa, hwa, B0, sa, x_a⟩ := frame1 w 26 [.int .i64 r.Kind, .int .i64 r.Acct, .int .i64 r.Other, .int .i64 r.To, .int .i64 r.Amt, .int .i64 r.M.Kind, .int .i64 r.M.Acct, .int .i64 r.M.Amt, .int .i64 r.M.Src]
  have sa_1 := Nat.le_of_eq sa
  have sa_2 := Nat.le_of_eq sa.symm
  clear sa
  have Hha := Lib.hid ha
  have Hho := Lib.hid ho
  have Hht := Lib.hid ht
  by_cases zOther : r.Other = 0
  case neg =>
    rw [show recOkB r = false by simp [recOkB, recAmtB, recMsgB, kAcct, kOther, kTo, kAmt, e7, show inB 7 1 9 = true from rfl, show inB 0 0 2 = true from rfl, show inB 0 0 3 = true from rfl, show numB 0 = true from rfl, bne, zOther]]
    have qOther : (r.Other != 0) = true := by simpa using zOther
    rw [e7] at x_a hwa ⊢
    clear zOther e7 ha ho ht
    have c0 := x_a.cell (i := 0) rfl
    have c1 := x_a.cell (i := 1) rfl
    have c2 := x_a.cell (i := 2) rfl
    have c3 := x_a.cell (i := 3) rfl
    have c4 := x_a.cell (i := 4) rfl
    have c5 := x_a.cell (i := 5) rfl
    have c6 := x_a.cell (i := 6) rfl
    have c7 := x_a.cell (i := 7) rfl
    have c8 := x_a.cell (i := 8) rfl
    go_enter Tryd.func41, Tryd.ntmps41
    go_wp2_with fail
    refine (sHas_7 _).mono ?_
    rintro e w' ⟨rfl, rfl⟩
    go_wp2_with fail
    refine (sIn_any _ _ _ _).mono ?_
    rintro e w' ⟨rfl, rfl⟩
    rw [show inB 7 1 9 = true from rfl]
    go_wp2_with fail
    refine (sIn_any _ _ _ _).mono ?_
    rintro e w' ⟨rfl, rfl⟩
    rw [Hha.out]
    go_wp2_with fail
    refine (sIn_any _ _ _ _).mono ?_
    rintro e w' ⟨rfl, rfl⟩
    rw [Hho.out]
    go_wp2_with fail
    refine (sNode4_any _ _).mono ?_
    rintro e w' ⟨rfl, rfl⟩
    rw [Hht.out]
    go_wp2
    go_ret
    exact ⟨rfl, B0⟩
  have qOther : (r.Other != 0) = false := by simpa using zOther
  by_cases zTo : r.To = 0
  case neg =>
    rw [show recOkB r = false by simp [recOkB, recAmtB, recMsgB, kAcct, kOther, kTo, kAmt, e7, show inB 7 1 9 = true from rfl, show inB 0 0 2 = true from rfl, show inB 0 0 3 = true from rfl, show numB 0 = true from rfl, bne, zTo]]
    have qTo : (r.To != 0) = true := by simpa using zTo
    rw [e7] at x_a hwa ⊢
    clear zTo zOther e7 ha ho ht
    have c0 := x_a.cell (i := 0) rfl
    have c1 := x_a.cell (i := 1) rfl
    have c2 := x_a.cell (i := 2) rfl
    have c3 := x_a.cell (i := 3) rfl
    have c4 := x_a.cell (i := 4) rfl
    have c5 := x_a.cell (i := 5) rfl
    have c6 := x_a.cell (i := 6) rfl
    have c7 := x_a.cell (i := 7) rfl
    have c8 := x_a.cell (i := 8) rfl
    go_enter Tryd.func41, Tryd.ntmps41
    go_wp2_with fail
    refine (sHas_7 _).mono ?_
    rintro e w' ⟨rfl, rfl⟩
    go_wp2_with fail
    refine (sIn_any _ _ _ _).mono ?_
    rintro e w' ⟨rfl, rfl⟩
    rw [show inB 7 1 9 = true from rfl]
    go_wp2_with fail
    refine (sIn_any _ _ _ _).mono ?_
    rintro e w' ⟨rfl, rfl⟩
    rw [Hha.out]
    go_wp2_with fail
    refine (sIn_any _ _ _ _).mono ?_
    rintro e w' ⟨rfl, rfl⟩
    rw [Hho.out]
    go_wp2_with fail
    refine (sNode4_any _ _).mono ?_
    rintro e w' ⟨rfl, rfl⟩
    rw [Hht.out]
    go_wp2
    go_ret
    exact ⟨rfl, B0⟩
  have qTo : (r.To != 0) = false := by simpa using zTo
  by_cases hm : numB r.Amt = true
  case neg =>
    have hm' : numB r.Amt = false := by simpa using hm
    rw [show recOkB r = false by simp [recOkB, recAmtB, recMsgB, kAcct, kOther, kTo, kAmt, e7, show inB 7 1 9 = true from rfl, show inB 0 0 2 = true from rfl, show inB 0 0 3 = true from rfl, show numB 0 = true from rfl, bne, hm']]
    have HM := Lib.hid hm'
    rw [e7] at x_a hwa ⊢
    clear hm hm' e7 ha ho ht zOther zTo
    have c0 := x_a.cell (i := 0) rfl
    have c1 := x_a.cell (i := 1) rfl
    have c2 := x_a.cell (i := 2) rfl
    have c3 := x_a.cell (i := 3) rfl
    have c4 := x_a.cell (i := 4) rfl
    have c5 := x_a.cell (i := 5) rfl
    have c6 := x_a.cell (i := 6) rfl
    have c7 := x_a.cell (i := 7) rfl
    have c8 := x_a.cell (i := 8) rfl
    go_enter Tryd.func41, Tryd.ntmps41
    go_wp2_with fail
    refine (sHas_7 _).mono ?_
    rintro e w' ⟨rfl, rfl⟩
    go_wp2_with fail
    refine (sIn_any _ _ _ _).mono ?_
    rintro e w' ⟨rfl, rfl⟩
    rw [show inB 7 1 9 = true from rfl]
    go_wp2_with fail
    refine (sIn_any _ _ _ _).mono ?_
    rintro e w' ⟨rfl, rfl⟩
    rw [Hha.out]
    go_wp2_with fail
    refine (sIn_any _ _ _ _).mono ?_
    rintro e w' ⟨rfl, rfl⟩
    rw [Hho.out]
    go_wp2_with fail
    refine (sNode4_any _ _).mono ?_
    rintro e w' ⟨rfl, rfl⟩
    rw [Hht.out]
    go_wp2_with fail
    refine (sNum_any _ _).mono ?_
    rintro e w' ⟨rfl, rfl⟩
    rw [HM.out]
    go_wp2
    go_ret
    exact ⟨rfl, B0⟩
  have HM := Lib.hid hm
  by_cases zm : r.Amt = 0
  case pos =>
    rw [show recOkB r = false by simp [recOkB, recAmtB, recMsgB, kAcct, kOther, kTo, kAmt, e7, show inB 7 1 9 = true from rfl, show inB 0 0 2 = true from rfl, show inB 0 0 3 = true from rfl, show numB 0 = true from rfl, bne, zm]]
    have qm : (r.Amt == 0) = true := by simpa using zm
    rw [e7] at x_a hwa ⊢
    clear zm hm e7 ha ho ht zOther zTo
    have c0 := x_a.cell (i := 0) rfl
    have c1 := x_a.cell (i := 1) rfl
    have c2 := x_a.cell (i := 2) rfl
    have c3 := x_a.cell (i := 3) rfl
    have c4 := x_a.cell (i := 4) rfl
    have c5 := x_a.cell (i := 5) rfl
    have c6 := x_a.cell (i := 6) rfl
    have c7 := x_a.cell (i := 7) rfl
    have c8 := x_a.cell (i := 8) rfl
    go_enter Tryd.func41, Tryd.ntmps41
    go_wp2_with fail
    refine (sHas_7 _).mono ?_
    rintro e w' ⟨rfl, rfl⟩
    go_wp2_with fail
    refine (sIn_any _ _ _ _).mono ?_
    rintro e w' ⟨rfl, rfl⟩
    rw [show inB 7 1 9 = true from rfl]
    go_wp2_with fail
    refine (sIn_any _ _ _ _).mono ?_
    rintro e w' ⟨rfl, rfl⟩
    rw [Hha.out]
    go_wp2_with fail
    refine (sIn_any _ _ _ _).mono ?_
    rintro e w' ⟨rfl, rfl⟩
    rw [Hho.out]
    go_wp2_with fail
    refine (sNode4_any _ _).mono ?_
    rintro e w' ⟨rfl, rfl⟩
    rw [Hht.out]
    go_wp2_with fail
    refine (sNum_any _ _).mono ?_
    rintro e w' ⟨rfl, rfl⟩
    rw [HM.out]
    go_wp2
    go_ret
    exact ⟨rfl, B0⟩
  have qm : (r.Amt == 0) = false := by simpa using zm
  rw [show recOkB r = decide (r.M = ⟨0, 0, 0, 0⟩) by simp [recOkB, recAmtB, recMsgB, kAcct, kOther, kTo, kAmt, e7, show inB 7 1 9 = true from rfl, show inB 0 0 2 = true from rfl, show inB 0 0 3 = true from rfl, show numB 0 = true from rfl, bne, ha, ho, ht, hm, zOther, zTo, zm]]
  have gd := fun op x y W xs ys => guard_msg_run op x y W xs ys
  have ge := fun W => eql_msg_run W r.M ⟨0, 0, 0, 0⟩
  rw [e7] at x_a hwa ⊢
  clear hm e7 ha ho ht zOther zTo zm
  have c0 := x_a.cell (i := 0) rfl
  have c1 := x_a.cell (i := 1) rfl
  have c2 := x_a.cell (i := 2) rfl
  have c3 := x_a.cell (i := 3) rfl
  have c4 := x_a.cell (i := 4) rfl
  have c5 := x_a.cell (i := 5) rfl
  have c6 := x_a.cell (i := 6) rfl
  have c7 := x_a.cell (i := 7) rfl
  have c8 := x_a.cell (i := 8) rfl
  go_enter Tryd.func41, Tryd.ntmps41
  go_wp2_with fail
  refine (sHas_7 _).mono ?_
  rintro e w' ⟨rfl, rfl⟩
  go_wp2_with fail
  refine (sIn_any _ _ _ _).mono ?_
  rintro e w' ⟨rfl, rfl⟩
  rw [show inB 7 1 9 = true from rfl]
  go_wp2_with fail
  refine (sIn_any _ _ _ _).mono ?_
  rintro e w' ⟨rfl, rfl⟩
  rw [Hha.out]
  go_wp2_with fail
  refine (sIn_any _ _ _ _).mono ?_
  rintro e w' ⟨rfl, rfl⟩
  rw [Hho.out]
  go_wp2_with fail
  refine (sNode4_any _ _).mono ?_
  rintro e w' ⟨rfl, rfl⟩
  rw [Hht.out]
  go_wp2_with fail
  refine (sNum_any _ _).mono ?_
  rintro e w' ⟨rfl, rfl⟩
  rw [HM.out]
  go_wp2
  go_ret
  exact ⟨rfl, B0⟩

set_option maxHeartbeats 8000000 in
theorem sRecOk_8 {w : World} {r : MRec} (e8 : r.Kind = 8) (ha : inB r.Acct 0 2 = true) (ho : inB r.Other 0 2 = true) (ht : inB r.To 0 3 = true) : Calls Tryd.prog 41 #[.agg #[.int .i64 r.Kind, .int .i64 r.Acct, .int .i64 r.Other, .int .i64 r.To, .int .i64 r.Amt, .int .i64 r.M.Kind, .int .i64 r.M.Acct, .int .i64 r.M.Amt, .int .i64 r.M.Src]] w fun e w' => e = .returned (.bool (recOkB r)) ∧ Below w.heap.size w w' := by
  obtain ⟨wa, hwa, B0, sa, x_a⟩ := frame1 w 26 [.int .i64 r.Kind, .int .i64 r.Acct, .int .i64 r.Other, .int .i64 r.To, .int .i64 r.Amt, .int .i64 r.M.Kind, .int .i64 r.M.Acct, .int .i64 r.M.Amt, .int .i64 r.M.Src]
  have sa_1 := Nat.le_of_eq sa
  have sa_2 := Nat.le_of_eq sa.symm
  clear sa
  have Hha := Lib.hid ha
  have Hho := Lib.hid ho
  have Hht := Lib.hid ht
  by_cases zOther : r.Other = 0
  case neg =>
    rw [show recOkB r = false by simp [recOkB, recAmtB, recMsgB, kAcct, kOther, kTo, kAmt, e8, show inB 8 1 9 = true from rfl, show inB 0 0 2 = true from rfl, show inB 0 0 3 = true from rfl, show numB 0 = true from rfl, bne, zOther]]
    have qOther : (r.Other != 0) = true := by simpa using zOther
    rw [e8] at x_a hwa ⊢
    clear zOther e8 ha ho ht
    have c0 := x_a.cell (i := 0) rfl
    have c1 := x_a.cell (i := 1) rfl
    have c2 := x_a.cell (i := 2) rfl
    have c3 := x_a.cell (i := 3) rfl
    have c4 := x_a.cell (i := 4) rfl
    have c5 := x_a.cell (i := 5) rfl
    have c6 := x_a.cell (i := 6) rfl
    have c7 := x_a.cell (i := 7) rfl
    have c8 := x_a.cell (i := 8) rfl
    go_enter Tryd.func41, Tryd.ntmps41
    go_wp2_with fail
    refine (sHas_8 _).mono ?_
    rintro e w' ⟨rfl, rfl⟩
    go_wp2_with fail
    refine (sIn_any _ _ _ _).mono ?_
    rintro e w' ⟨rfl, rfl⟩
    rw [show inB 8 1 9 = true from rfl]
    go_wp2_with fail
    refine (sIn_any _ _ _ _).mono ?_
    rintro e w' ⟨rfl, rfl⟩
    rw [Hha.out]
    go_wp2_with fail
    refine (sIn_any _ _ _ _).mono ?_
    rintro e w' ⟨rfl, rfl⟩
    rw [Hho.out]
    go_wp2_with fail
    refine (sNode4_any _ _).mono ?_
    rintro e w' ⟨rfl, rfl⟩
    rw [Hht.out]
    go_wp2
    go_ret
    exact ⟨rfl, B0⟩
  have qOther : (r.Other != 0) = false := by simpa using zOther
  by_cases hm : numB r.Amt = true
  case neg =>
    have hm' : numB r.Amt = false := by simpa using hm
    rw [show recOkB r = false by simp [recOkB, recAmtB, recMsgB, kAcct, kOther, kTo, kAmt, e8, show inB 8 1 9 = true from rfl, show inB 0 0 2 = true from rfl, show inB 0 0 3 = true from rfl, show numB 0 = true from rfl, bne, hm']]
    have HM := Lib.hid hm'
    rw [e8] at x_a hwa ⊢
    clear hm hm' e8 ha ho ht zOther
    have c0 := x_a.cell (i := 0) rfl
    have c1 := x_a.cell (i := 1) rfl
    have c2 := x_a.cell (i := 2) rfl
    have c3 := x_a.cell (i := 3) rfl
    have c4 := x_a.cell (i := 4) rfl
    have c5 := x_a.cell (i := 5) rfl
    have c6 := x_a.cell (i := 6) rfl
    have c7 := x_a.cell (i := 7) rfl
    have c8 := x_a.cell (i := 8) rfl
    go_enter Tryd.func41, Tryd.ntmps41
    go_wp2_with fail
    refine (sHas_8 _).mono ?_
    rintro e w' ⟨rfl, rfl⟩
    go_wp2_with fail
    refine (sIn_any _ _ _ _).mono ?_
    rintro e w' ⟨rfl, rfl⟩
    rw [show inB 8 1 9 = true from rfl]
    go_wp2_with fail
    refine (sIn_any _ _ _ _).mono ?_
    rintro e w' ⟨rfl, rfl⟩
    rw [Hha.out]
    go_wp2_with fail
    refine (sIn_any _ _ _ _).mono ?_
    rintro e w' ⟨rfl, rfl⟩
    rw [Hho.out]
    go_wp2_with fail
    refine (sNode4_any _ _).mono ?_
    rintro e w' ⟨rfl, rfl⟩
    rw [Hht.out]
    go_wp2_with fail
    refine (sNum_any _ _).mono ?_
    rintro e w' ⟨rfl, rfl⟩
    rw [HM.out]
    go_wp2
    go_ret
    exact ⟨rfl, B0⟩
  have HM := Lib.hid hm
  by_cases zm : r.Amt = 0
  case pos =>
    rw [show recOkB r = false by simp [recOkB, recAmtB, recMsgB, kAcct, kOther, kTo, kAmt, e8, show inB 8 1 9 = true from rfl, show inB 0 0 2 = true from rfl, show inB 0 0 3 = true from rfl, show numB 0 = true from rfl, bne, zm]]
    have qm : (r.Amt == 0) = true := by simpa using zm
    rw [e8] at x_a hwa ⊢
    clear zm hm e8 ha ho ht zOther
    have c0 := x_a.cell (i := 0) rfl
    have c1 := x_a.cell (i := 1) rfl
    have c2 := x_a.cell (i := 2) rfl
    have c3 := x_a.cell (i := 3) rfl
    have c4 := x_a.cell (i := 4) rfl
    have c5 := x_a.cell (i := 5) rfl
    have c6 := x_a.cell (i := 6) rfl
    have c7 := x_a.cell (i := 7) rfl
    have c8 := x_a.cell (i := 8) rfl
    go_enter Tryd.func41, Tryd.ntmps41
    go_wp2_with fail
    refine (sHas_8 _).mono ?_
    rintro e w' ⟨rfl, rfl⟩
    go_wp2_with fail
    refine (sIn_any _ _ _ _).mono ?_
    rintro e w' ⟨rfl, rfl⟩
    rw [show inB 8 1 9 = true from rfl]
    go_wp2_with fail
    refine (sIn_any _ _ _ _).mono ?_
    rintro e w' ⟨rfl, rfl⟩
    rw [Hha.out]
    go_wp2_with fail
    refine (sIn_any _ _ _ _).mono ?_
    rintro e w' ⟨rfl, rfl⟩
    rw [Hho.out]
    go_wp2_with fail
    refine (sNode4_any _ _).mono ?_
    rintro e w' ⟨rfl, rfl⟩
    rw [Hht.out]
    go_wp2_with fail
    refine (sNum_any _ _).mono ?_
    rintro e w' ⟨rfl, rfl⟩
    rw [HM.out]
    go_wp2
    go_ret
    exact ⟨rfl, B0⟩
  have qm : (r.Amt == 0) = false := by simpa using zm
  rw [show recOkB r = decide (r.M = ⟨0, 0, 0, 0⟩) by simp [recOkB, recAmtB, recMsgB, kAcct, kOther, kTo, kAmt, e8, show inB 8 1 9 = true from rfl, show inB 0 0 2 = true from rfl, show inB 0 0 3 = true from rfl, show numB 0 = true from rfl, bne, ha, ho, ht, hm, zOther, zm]]
  have gd := fun op x y W xs ys => guard_msg_run op x y W xs ys
  have ge := fun W => eql_msg_run W r.M ⟨0, 0, 0, 0⟩
  rw [e8] at x_a hwa ⊢
  clear hm e8 ha ho ht zOther zm
  have c0 := x_a.cell (i := 0) rfl
  have c1 := x_a.cell (i := 1) rfl
  have c2 := x_a.cell (i := 2) rfl
  have c3 := x_a.cell (i := 3) rfl
  have c4 := x_a.cell (i := 4) rfl
  have c5 := x_a.cell (i := 5) rfl
  have c6 := x_a.cell (i := 6) rfl
  have c7 := x_a.cell (i := 7) rfl
  have c8 := x_a.cell (i := 8) rfl
  go_enter Tryd.func41, Tryd.ntmps41
  go_wp2_with fail
  refine (sHas_8 _).mono ?_
  rintro e w' ⟨rfl, rfl⟩
  go_wp2_with fail
  refine (sIn_any _ _ _ _).mono ?_
  rintro e w' ⟨rfl, rfl⟩
  rw [show inB 8 1 9 = true from rfl]
  go_wp2_with fail
  refine (sIn_any _ _ _ _).mono ?_
  rintro e w' ⟨rfl, rfl⟩
  rw [Hha.out]
  go_wp2_with fail
  refine (sIn_any _ _ _ _).mono ?_
  rintro e w' ⟨rfl, rfl⟩
  rw [Hho.out]
  go_wp2_with fail
  refine (sNode4_any _ _).mono ?_
  rintro e w' ⟨rfl, rfl⟩
  rw [Hht.out]
  go_wp2_with fail
  refine (sNum_any _ _).mono ?_
  rintro e w' ⟨rfl, rfl⟩
  rw [HM.out]
  go_wp2
  go_ret
  exact ⟨rfl, B0⟩

set_option maxHeartbeats 8000000 in
theorem sRecOk_9 {w : World} {r : MRec} (e9 : r.Kind = 9) (ha : inB r.Acct 0 2 = true) (ho : inB r.Other 0 2 = true) (ht : inB r.To 0 3 = true) : Calls Tryd.prog 41 #[.agg #[.int .i64 r.Kind, .int .i64 r.Acct, .int .i64 r.Other, .int .i64 r.To, .int .i64 r.Amt, .int .i64 r.M.Kind, .int .i64 r.M.Acct, .int .i64 r.M.Amt, .int .i64 r.M.Src]] w fun e w' => e = .returned (.bool (recOkB r)) ∧ Below w.heap.size w w' := by
  obtain ⟨wa, hwa, B0, sa, x_a⟩ := frame1 w 26 [.int .i64 r.Kind, .int .i64 r.Acct, .int .i64 r.Other, .int .i64 r.To, .int .i64 r.Amt, .int .i64 r.M.Kind, .int .i64 r.M.Acct, .int .i64 r.M.Amt, .int .i64 r.M.Src]
  have sa_1 := Nat.le_of_eq sa
  have sa_2 := Nat.le_of_eq sa.symm
  clear sa
  have Hha := Lib.hid ha
  have Hho := Lib.hid ho
  have Hht := Lib.hid ht
  by_cases zOther : r.Other = 0
  case neg =>
    rw [show recOkB r = false by simp [recOkB, recAmtB, recMsgB, kAcct, kOther, kTo, kAmt, e9, show inB 9 1 9 = true from rfl, show inB 0 0 2 = true from rfl, show inB 0 0 3 = true from rfl, show numB 0 = true from rfl, bne, zOther]]
    have qOther : (r.Other != 0) = true := by simpa using zOther
    rw [e9] at x_a hwa ⊢
    clear zOther e9 ha ho ht
    have c0 := x_a.cell (i := 0) rfl
    have c1 := x_a.cell (i := 1) rfl
    have c2 := x_a.cell (i := 2) rfl
    have c3 := x_a.cell (i := 3) rfl
    have c4 := x_a.cell (i := 4) rfl
    have c5 := x_a.cell (i := 5) rfl
    have c6 := x_a.cell (i := 6) rfl
    have c7 := x_a.cell (i := 7) rfl
    have c8 := x_a.cell (i := 8) rfl
    go_enter Tryd.func41, Tryd.ntmps41
    go_wp2_with fail
    refine (sHas_9 _).mono ?_
    rintro e w' ⟨rfl, rfl⟩
    go_wp2_with fail
    refine (sIn_any _ _ _ _).mono ?_
    rintro e w' ⟨rfl, rfl⟩
    rw [show inB 9 1 9 = true from rfl]
    go_wp2_with fail
    refine (sIn_any _ _ _ _).mono ?_
    rintro e w' ⟨rfl, rfl⟩
    rw [Hha.out]
    go_wp2_with fail
    refine (sIn_any _ _ _ _).mono ?_
    rintro e w' ⟨rfl, rfl⟩
    rw [Hho.out]
    go_wp2_with fail
    refine (sNode4_any _ _).mono ?_
    rintro e w' ⟨rfl, rfl⟩
    rw [Hht.out]
    go_wp2
    go_ret
    exact ⟨rfl, B0⟩
  have qOther : (r.Other != 0) = false := by simpa using zOther
  by_cases zAmt : r.Amt = 0
  case neg =>
    rw [show recOkB r = false by simp [recOkB, recAmtB, recMsgB, kAcct, kOther, kTo, kAmt, e9, show inB 9 1 9 = true from rfl, show inB 0 0 2 = true from rfl, show inB 0 0 3 = true from rfl, show numB 0 = true from rfl, bne, zAmt]]
    have qAmt : (r.Amt != 0) = true := by simpa using zAmt
    rw [e9] at x_a hwa ⊢
    clear zAmt zOther e9 ha ho ht
    have c0 := x_a.cell (i := 0) rfl
    have c1 := x_a.cell (i := 1) rfl
    have c2 := x_a.cell (i := 2) rfl
    have c3 := x_a.cell (i := 3) rfl
    have c4 := x_a.cell (i := 4) rfl
    have c5 := x_a.cell (i := 5) rfl
    have c6 := x_a.cell (i := 6) rfl
    have c7 := x_a.cell (i := 7) rfl
    have c8 := x_a.cell (i := 8) rfl
    go_enter Tryd.func41, Tryd.ntmps41
    go_wp2_with fail
    refine (sHas_9 _).mono ?_
    rintro e w' ⟨rfl, rfl⟩
    go_wp2_with fail
    refine (sIn_any _ _ _ _).mono ?_
    rintro e w' ⟨rfl, rfl⟩
    rw [show inB 9 1 9 = true from rfl]
    go_wp2_with fail
    refine (sIn_any _ _ _ _).mono ?_
    rintro e w' ⟨rfl, rfl⟩
    rw [Hha.out]
    go_wp2_with fail
    refine (sIn_any _ _ _ _).mono ?_
    rintro e w' ⟨rfl, rfl⟩
    rw [Hho.out]
    go_wp2_with fail
    refine (sNode4_any _ _).mono ?_
    rintro e w' ⟨rfl, rfl⟩
    rw [Hht.out]
    go_wp2
    go_ret
    exact ⟨rfl, B0⟩
  have qAmt : (r.Amt != 0) = false := by simpa using zAmt
  by_cases hm : numB r.Amt = true
  case neg =>
    have hm' : numB r.Amt = false := by simpa using hm
    rw [show recOkB r = false by simp [recOkB, recAmtB, recMsgB, kAcct, kOther, kTo, kAmt, e9, show inB 9 1 9 = true from rfl, show inB 0 0 2 = true from rfl, show inB 0 0 3 = true from rfl, show numB 0 = true from rfl, bne, hm']]
    have HM := Lib.hid hm'
    rw [e9] at x_a hwa ⊢
    clear hm hm' e9 ha ho ht zOther zAmt
    have c0 := x_a.cell (i := 0) rfl
    have c1 := x_a.cell (i := 1) rfl
    have c2 := x_a.cell (i := 2) rfl
    have c3 := x_a.cell (i := 3) rfl
    have c4 := x_a.cell (i := 4) rfl
    have c5 := x_a.cell (i := 5) rfl
    have c6 := x_a.cell (i := 6) rfl
    have c7 := x_a.cell (i := 7) rfl
    have c8 := x_a.cell (i := 8) rfl
    go_enter Tryd.func41, Tryd.ntmps41
    go_wp2_with fail
    refine (sHas_9 _).mono ?_
    rintro e w' ⟨rfl, rfl⟩
    go_wp2_with fail
    refine (sIn_any _ _ _ _).mono ?_
    rintro e w' ⟨rfl, rfl⟩
    rw [show inB 9 1 9 = true from rfl]
    go_wp2_with fail
    refine (sIn_any _ _ _ _).mono ?_
    rintro e w' ⟨rfl, rfl⟩
    rw [Hha.out]
    go_wp2_with fail
    refine (sIn_any _ _ _ _).mono ?_
    rintro e w' ⟨rfl, rfl⟩
    rw [Hho.out]
    go_wp2_with fail
    refine (sNode4_any _ _).mono ?_
    rintro e w' ⟨rfl, rfl⟩
    rw [Hht.out]
    go_wp2_with fail
    refine (sNum_any _ _).mono ?_
    rintro e w' ⟨rfl, rfl⟩
    rw [HM.out]
    go_wp2
    go_ret
    exact ⟨rfl, B0⟩
  have HM := Lib.hid hm
  rw [show recOkB r = decide (r.M = ⟨0, 0, 0, 0⟩) by simp [recOkB, recAmtB, recMsgB, kAcct, kOther, kTo, kAmt, e9, show inB 9 1 9 = true from rfl, show inB 0 0 2 = true from rfl, show inB 0 0 3 = true from rfl, show numB 0 = true from rfl, bne, ha, ho, ht, hm, zOther, zAmt]]
  have gd := fun op x y W xs ys => guard_msg_run op x y W xs ys
  have ge := fun W => eql_msg_run W r.M ⟨0, 0, 0, 0⟩
  rw [e9] at x_a hwa ⊢
  clear hm e9 ha ho ht zOther zAmt
  have c0 := x_a.cell (i := 0) rfl
  have c1 := x_a.cell (i := 1) rfl
  have c2 := x_a.cell (i := 2) rfl
  have c3 := x_a.cell (i := 3) rfl
  have c4 := x_a.cell (i := 4) rfl
  have c5 := x_a.cell (i := 5) rfl
  have c6 := x_a.cell (i := 6) rfl
  have c7 := x_a.cell (i := 7) rfl
  have c8 := x_a.cell (i := 8) rfl
  go_enter Tryd.func41, Tryd.ntmps41
  go_wp2_with fail
  refine (sHas_9 _).mono ?_
  rintro e w' ⟨rfl, rfl⟩
  go_wp2_with fail
  refine (sIn_any _ _ _ _).mono ?_
  rintro e w' ⟨rfl, rfl⟩
  rw [show inB 9 1 9 = true from rfl]
  go_wp2_with fail
  refine (sIn_any _ _ _ _).mono ?_
  rintro e w' ⟨rfl, rfl⟩
  rw [Hha.out]
  go_wp2_with fail
  refine (sIn_any _ _ _ _).mono ?_
  rintro e w' ⟨rfl, rfl⟩
  rw [Hho.out]
  go_wp2_with fail
  refine (sNode4_any _ _).mono ?_
  rintro e w' ⟨rfl, rfl⟩
  rw [Hht.out]
  go_wp2_with fail
  refine (sNum_any _ _).mono ?_
  rintro e w' ⟨rfl, rfl⟩
  rw [HM.out]
  go_wp2
  go_ret
  exact ⟨rfl, B0⟩

end Go.Proofs.YtkbhbccpmmhelaaDoor

namespace Go.Proofs.YtkbhbccpmmhelaaDoor
open Go.RowKit
set_option linter.unusedVariables false
set_option linter.unusedSimpArgs false

set_option maxHeartbeats 8000000 in
theorem sRecOk_c {w : World} {v : Value} {r : MRec} (h : RV recL w v r) : Calls Tryd.prog 41 #[v] w fun e w' => e = .returned (.bool (recOkB r)) ∧ Below w.heap.size w w' := by
  obtain rfl := rv_rec h
  obtain ⟨wa, hwa, B0, sa, x_a⟩ := frame1 w 26 [.int .i64 r.Kind, .int .i64 r.Acct, .int .i64 r.Other, .int .i64 r.To, .int .i64 r.Amt, .int .i64 r.M.Kind, .int .i64 r.M.Acct, .int .i64 r.M.Amt, .int .i64 r.M.Src]
  have sa_1 := Nat.le_of_eq sa
  have sa_2 := Nat.le_of_eq sa.symm
  clear sa
  clear h
  by_cases hk : inB r.Kind 1 9 = true
  case neg =>
    have hk' : inB r.Kind 1 9 = false := by simpa using hk
    rw [recOk_kind hk']
    have Hhk := Lib.hid hk'
    clear hk hk'
    have c0 := x_a.cell (i := 0) rfl
    have c1 := x_a.cell (i := 1) rfl
    have c2 := x_a.cell (i := 2) rfl
    have c3 := x_a.cell (i := 3) rfl
    have c4 := x_a.cell (i := 4) rfl
    have c5 := x_a.cell (i := 5) rfl
    have c6 := x_a.cell (i := 6) rfl
    have c7 := x_a.cell (i := 7) rfl
    have c8 := x_a.cell (i := 8) rfl
    go_enter Tryd.func41, Tryd.ntmps41
    go_wp2_with fail
    refine (sHas_c _ _).mono ?_
    rintro e w' ⟨rfl, rfl⟩
    go_wp2_with fail
    refine (sIn_any _ _ _ _).mono ?_
    rintro e w' ⟨rfl, rfl⟩
    rw [Hhk.out]
    go_wp2
    go_ret
    exact ⟨rfl, B0⟩
  have Hhk := Lib.hid hk
  by_cases ha : inB r.Acct 0 2 = true
  case neg =>
    have ha' : inB r.Acct 0 2 = false := by simpa using ha
    rw [recOk_acct ha']
    have Hha := Lib.hid ha'
    clear ha ha'
    have c0 := x_a.cell (i := 0) rfl
    have c1 := x_a.cell (i := 1) rfl
    have c2 := x_a.cell (i := 2) rfl
    have c3 := x_a.cell (i := 3) rfl
    have c4 := x_a.cell (i := 4) rfl
    have c5 := x_a.cell (i := 5) rfl
    have c6 := x_a.cell (i := 6) rfl
    have c7 := x_a.cell (i := 7) rfl
    have c8 := x_a.cell (i := 8) rfl
    go_enter Tryd.func41, Tryd.ntmps41
    go_wp2_with fail
    refine (sHas_c _ _).mono ?_
    rintro e w' ⟨rfl, rfl⟩
    go_wp2_with fail
    refine (sIn_any _ _ _ _).mono ?_
    rintro e w' ⟨rfl, rfl⟩
    rw [Hhk.out]
    go_wp2_with fail
    refine (sIn_any _ _ _ _).mono ?_
    rintro e w' ⟨rfl, rfl⟩
    rw [Hha.out]
    go_wp2
    go_ret
    exact ⟨rfl, B0⟩
  have Hha := Lib.hid ha
  by_cases ho : inB r.Other 0 2 = true
  case neg =>
    have ho' : inB r.Other 0 2 = false := by simpa using ho
    rw [recOk_other ho']
    have Hho := Lib.hid ho'
    clear ho ho'
    have c0 := x_a.cell (i := 0) rfl
    have c1 := x_a.cell (i := 1) rfl
    have c2 := x_a.cell (i := 2) rfl
    have c3 := x_a.cell (i := 3) rfl
    have c4 := x_a.cell (i := 4) rfl
    have c5 := x_a.cell (i := 5) rfl
    have c6 := x_a.cell (i := 6) rfl
    have c7 := x_a.cell (i := 7) rfl
    have c8 := x_a.cell (i := 8) rfl
    go_enter Tryd.func41, Tryd.ntmps41
    go_wp2_with fail
    refine (sHas_c _ _).mono ?_
    rintro e w' ⟨rfl, rfl⟩
    go_wp2_with fail
    refine (sIn_any _ _ _ _).mono ?_
    rintro e w' ⟨rfl, rfl⟩
    rw [Hhk.out]
    go_wp2_with fail
    refine (sIn_any _ _ _ _).mono ?_
    rintro e w' ⟨rfl, rfl⟩
    rw [Hha.out]
    go_wp2_with fail
    refine (sIn_any _ _ _ _).mono ?_
    rintro e w' ⟨rfl, rfl⟩
    rw [Hho.out]
    go_wp2
    go_ret
    exact ⟨rfl, B0⟩
  have Hho := Lib.hid ho
  by_cases ht : inB r.To 0 3 = true
  case neg =>
    have ht' : inB r.To 0 3 = false := by simpa using ht
    rw [recOk_to ht']
    have Hht := Lib.hid ht'
    clear ht ht'
    have c0 := x_a.cell (i := 0) rfl
    have c1 := x_a.cell (i := 1) rfl
    have c2 := x_a.cell (i := 2) rfl
    have c3 := x_a.cell (i := 3) rfl
    have c4 := x_a.cell (i := 4) rfl
    have c5 := x_a.cell (i := 5) rfl
    have c6 := x_a.cell (i := 6) rfl
    have c7 := x_a.cell (i := 7) rfl
    have c8 := x_a.cell (i := 8) rfl
    go_enter Tryd.func41, Tryd.ntmps41
    go_wp2_with fail
    refine (sHas_c _ _).mono ?_
    rintro e w' ⟨rfl, rfl⟩
    go_wp2_with fail
    refine (sIn_any _ _ _ _).mono ?_
    rintro e w' ⟨rfl, rfl⟩
    rw [Hhk.out]
    go_wp2_with fail
    refine (sIn_any _ _ _ _).mono ?_
    rintro e w' ⟨rfl, rfl⟩
    rw [Hha.out]
    go_wp2_with fail
    refine (sIn_any _ _ _ _).mono ?_
    rintro e w' ⟨rfl, rfl⟩
    rw [Hho.out]
    go_wp2_with fail
    refine (sNode4_any _ _).mono ?_
    rintro e w' ⟨rfl, rfl⟩
    rw [Hht.out]
    go_wp2
    go_ret
    exact ⟨rfl, B0⟩
  have Hht := Lib.hid ht
  have hk9 := inB_true.1 hk
  clear hk hwa x_a
  have h5 : r.Kind = 1 ∨ r.Kind = 2 ∨ r.Kind = 3 ∨ r.Kind = 4 ∨ r.Kind = 5 ∨ r.Kind = 6 ∨ r.Kind = 7 ∨ r.Kind = 8 ∨ r.Kind = 9 := by omega
  rcases h5 with e | e | e | e | e | e | e | e | e
  · exact sRecOk_1 e ha ho ht
  · exact sRecOk_2 e ha ho ht
  · exact sRecOk_3 e ha ho ht
  · exact sRecOk_4 e ha ho ht
  · exact sRecOk_5 e ha ho ht
  · exact sRecOk_6 e ha ho ht
  · exact sRecOk_7 e ha ho ht
  · exact sRecOk_8 e ha ho ht
  · exact sRecOk_9 e ha ho ht
end Go.Proofs.YtkbhbccpmmhelaaDoor

namespace Go.Proofs.YtkbhbccpmmhelaaDoor
open Go.RowKit
set_option linter.unusedVariables false

set_option maxHeartbeats 4000000 in
theorem sRkName_c (k : Int) (w : World) : Calls Tryd.prog 43 #[.int .i64 k] w fun e w' => e = .returned (.string (rkName k)) ∧ Below w.heap.size w w' := by
  by_cases hk : inB k 1 9 = true
  · have h15 := inB_true.1 hk
    have HK := Lib.hid hk
    clear hk
    have h5 : k = 1 ∨ k = 2 ∨ k = 3 ∨ k = 4 ∨ k = 5 ∨ k = 6 ∨ k = 7 ∨ k = 8 ∨ k = 9 := by omega
    clear h15
    rcases h5 with rfl | rfl | rfl | rfl | rfl | rfl | rfl | rfl | rfl
    all_goals
      go_enter Tryd.func43, Tryd.ntmps43
      go_wp2_with fail
      refine (sIn_any _ _ _ _).mono ?_
      rintro e w' ⟨rfl, rfl⟩
      rw [HK.out]
      go_wp2
      go_ret
      exact ⟨rfl, (Below.refl _ _).alloc (Nat.le_refl _) _⟩
  · have hk' : inB k 1 9 = false := by simpa using hk
    have h15 := inB_false.1 hk'
    have HK := Lib.hid hk'
    rw [show rkName k = ⟨#[]⟩ by unfold rkName; rw [if_neg (by omega), if_neg (by omega), if_neg (by omega), if_neg (by omega), if_neg (by omega), if_neg (by omega), if_neg (by omega), if_neg (by omega), if_neg (by omega)]]
    clear hk hk' h15
    go_enter Tryd.func43, Tryd.ntmps43
    go_wp2_with fail
    refine (sIn_any _ _ _ _).mono ?_
    rintro e w' ⟨rfl, rfl⟩
    rw [HK.out]
    go_wp2
    go_ret
    exact ⟨rfl, Below.refl _ _⟩

end Go.Proofs.YtkbhbccpmmhelaaDoor

namespace Go.Proofs.YtkbhbccpmmhelaaDoor
open Go.RowKit
set_option linter.unusedVariables false

/-- the numbers ahead of the message -/
def recHead (r : MRec) : List Int := [r.Kind, r.Acct, r.Other, r.To, r.Amt]
/-- what RecBytes answers -/
def recBytes (r : MRec) : List Int := if recOkB r = true then (if r.Kind = 5 then encs (recHead r) ++ encs (msgNums r.M) else encs (recHead r)) else []
theorem recHead_ok {r : MRec} (h : recOkB r = true) : (recHead r).all numB = true := by
  obtain ⟨h1, h2, h3, h4, h5, -, -⟩ := recOk_parts h
  have k1 := numB_true.2 (show 0 ≤ r.Kind ∧ r.Kind ≤ 1125899906842624 by omega)
  have k2 := numB_true.2 (show 0 ≤ r.Acct ∧ r.Acct ≤ 1125899906842624 by omega)
  have k3 := numB_true.2 (show 0 ≤ r.Other ∧ r.Other ≤ 1125899906842624 by omega)
  have k4 := numB_true.2 (show 0 ≤ r.To ∧ r.To ≤ 1125899906842624 by omega)
  have k5 := numB_true.2 (show 0 ≤ r.Amt ∧ r.Amt ≤ 1125899906842624 by omega)
  simp [recHead, k1, k2, k3, k4, k5]
theorem recBytes_len (r : MRec) : (recBytes r).length ≤ 72 := by
  unfold recBytes
  split
  · rename_i h
    have h1 := encs_len _ (recHead_ok h)
    have e1 : (recHead r).length = 5 := rfl
    split
    · rename_i h5
      have h2 := encs_len _ (msgNums_ok ((recOk_parts h).2.2.2.2.2.1 h5))
      have e2 : (msgNums r.M).length = 4 := rfl
      rw [List.length_append]
      omega
    · omega
  · simp
theorem rs_nil0 (w : World) : RS .u8 w (.slice none 0 0) [] := ⟨none, 0, rfl, Nat.le_refl _, by unfold maxLen; omega, Rd.nil⟩

end Go.Proofs.YtkbhbccpmmhelaaDoor
