/- Messages: the model, and the contracts of spec.MsgOk, spec.MsgWorth, spec.MsgName. -/
import Derived.Test.YtpaodpkgpajboaaPrims
import Derived.Test.YtpaodpkgpajboaaPutNum
import Derived.Test.YtpaodpkgpajboaaTMsg
namespace Go.Proofs.Ytpaodpkgpajboaa
open Go.RowKit
set_option linter.unusedVariables false

/-- what Amt may be, by kind -/
def amtOkB (k a : Int) : Bool := if k = 1 ∨ k = 2 ∨ k = 3 then amtB a else if k = 4 then inB a 0 3 else if k = 5 then numB a else false
def msgOkB (m : MMsg) : Bool := inB m.Acct 0 2 && (inB m.Src 0 2 && ((m.Kind == 2 || m.Src == 0) && amtOkB m.Kind m.Amt))
/-- what MsgWorth answers -/
def msgWorth (m : MMsg) : Int := if msgOkB m = true ∧ m.Kind ≤ 3 then m.Amt else 0

theorem msgOk_acct {m : MMsg} (h : inB m.Acct 0 2 = false) : msgOkB m = false := by simp [msgOkB, h]
theorem msgOk_src {m : MMsg} (h : inB m.Src 0 2 = false) : msgOkB m = false := by simp [msgOkB, h]
theorem msgOk_two {m : MMsg} (h : m.Kind ≠ 2) (h2 : m.Src ≠ 0) : msgOkB m = false := by simp [msgOkB, h, h2]
theorem msgOk_rest {m : MMsg} (h0 : inB m.Acct 0 2 = true) (h1 : inB m.Src 0 2 = true) (h : m.Kind = 2 ∨ m.Src = 0) : msgOkB m = amtOkB m.Kind m.Amt := by
  unfold msgOkB
  rw [h0, h1]
  rcases h with h | h <;> simp [h]
theorem msgOk_parts {m : MMsg} (h : msgOkB m = true) : (0 ≤ m.Acct ∧ m.Acct ≤ 2) ∧ (0 ≤ m.Src ∧ m.Src ≤ 2) ∧ (m.Kind = 2 ∨ m.Src = 0) ∧ (1 ≤ m.Kind ∧ m.Kind ≤ 5) ∧ (0 ≤ m.Amt ∧ m.Amt ≤ 1125899906842624) := by
  simp only [msgOkB, Bool.and_eq_true, Bool.or_eq_true, beq_iff_eq, inB_true] at h
  obtain ⟨h1, h2, h3, h4⟩ := h
  have h5 : (1 ≤ m.Kind ∧ m.Kind ≤ 5) ∧ (0 ≤ m.Amt ∧ m.Amt ≤ 1125899906842624) := by
    unfold amtOkB at h4
    split at h4
    · unfold amtB at h4; rw [inB_true] at h4; omega
    · split at h4
      · rw [inB_true] at h4; omega
      · split at h4
        · rw [numB_true] at h4; omega
        · cases h4
  exact ⟨h1, h2, h3, h5.1, h5.2⟩

set_option maxHeartbeats 2000000 in
theorem sMsgOk_c {w : World} {v : Value} {m : MMsg} (h : RV msgL w v m) : Calls Try.prog 52 #[v] w fun e w' => e = .returned (.bool (msgOkB m)) ∧ Below w.heap.size w w' := by
  obtain rfl := rv_msg h
  obtain ⟨wa, hwa, B0, sa, x_a⟩ := frame1 w 29 [.int .i64 m.Kind, .int .i64 m.Acct, .int .i64 m.Amt, .int .i64 m.Src]
  have sa_1 := Nat.le_of_eq sa
  have sa_2 := Nat.le_of_eq sa.symm
  clear sa h
  by_cases ha : inB m.Acct 0 2 = true
  case neg =>
    have ha' : inB m.Acct 0 2 = false := by simpa using ha
    rw [msgOk_acct ha']
    have HA := Lib.hid ha'
    clear ha ha'
    have c0 := x_a.cell (i := 0) rfl
    have c1 := x_a.cell (i := 1) rfl
    have c2 := x_a.cell (i := 2) rfl
    have c3 := x_a.cell (i := 3) rfl
    go_enter Try.func52, Try.ntmps52
    go_wp2_with fail
    refine (sIn_any _ _ _ _).mono ?_
    rintro e w' ⟨rfl, rfl⟩
    rw [HA.out]
    go_wp2
    go_ret
    exact ⟨rfl, B0⟩
  have HA := Lib.hid ha
  by_cases hs : inB m.Src 0 2 = true
  case neg =>
    have hs' : inB m.Src 0 2 = false := by simpa using hs
    rw [msgOk_src hs']
    have HS := Lib.hid hs'
    clear ha hs hs'
    have c0 := x_a.cell (i := 0) rfl
    have c1 := x_a.cell (i := 1) rfl
    have c2 := x_a.cell (i := 2) rfl
    have c3 := x_a.cell (i := 3) rfl
    go_enter Try.func52, Try.ntmps52
    go_wp2_with fail
    refine (sIn_any _ _ _ _).mono ?_
    rintro e w' ⟨rfl, rfl⟩
    rw [HA.out]
    go_wp2_with fail
    refine (sIn_any _ _ _ _).mono ?_
    rintro e w' ⟨rfl, rfl⟩
    rw [HS.out]
    go_wp2
    go_ret
    exact ⟨rfl, B0⟩
  have HS := Lib.hid hs
  by_cases h2 : m.Kind = 2 ∨ m.Src = 0
  case neg =>
    rw [msgOk_two (fun e => h2 (.inl e)) (fun e => h2 (.inr e))]
    have k2 : (m.Kind != 2) = true := by simp; exact fun e => h2 (.inl e)
    have k0 : (m.Src != 0) = true := by simp; exact fun e => h2 (.inr e)
    clear ha hs h2
    have c0 := x_a.cell (i := 0) rfl
    have c1 := x_a.cell (i := 1) rfl
    have c2 := x_a.cell (i := 2) rfl
    have c3 := x_a.cell (i := 3) rfl
    go_enter Try.func52, Try.ntmps52
    go_wp2_with fail
    refine (sIn_any _ _ _ _).mono ?_
    rintro e w' ⟨rfl, rfl⟩
    rw [HA.out]
    go_wp2_with fail
    refine (sIn_any _ _ _ _).mono ?_
    rintro e w' ⟨rfl, rfl⟩
    rw [HS.out]
    go_wp2
    go_ret
    exact ⟨rfl, B0⟩
  rw [msgOk_rest ha hs h2]
  clear ha hs
  by_cases e1 : m.Kind = 1
  case pos =>
    rw [show amtOkB m.Kind m.Amt = amtB m.Amt by unfold amtOkB; rw [e1]; simp]
    have k2 : (m.Kind != 2) = true := by simp [e1]
    have k0 : (m.Src != 0) = false := by simp; omega
    rw [e1] at x_a hwa k2 ⊢
    clear h2
    clear e1
    have c0 := x_a.cell (i := 0) rfl
    have c1 := x_a.cell (i := 1) rfl
    have c2 := x_a.cell (i := 2) rfl
    have c3 := x_a.cell (i := 3) rfl
    go_enter Try.func52, Try.ntmps52
    go_wp2_with fail
    refine (sIn_any _ _ _ _).mono ?_
    rintro e w' ⟨rfl, rfl⟩
    rw [HA.out]
    go_wp2_with fail
    refine (sIn_any _ _ _ _).mono ?_
    rintro e w' ⟨rfl, rfl⟩
    rw [HS.out]
    go_wp2_with fail
    refine (sAmt_any _ _).mono ?_
    rintro e w' ⟨rfl, rfl⟩
    go_wp2
    go_ret
    exact ⟨rfl, B0⟩
  by_cases e2 : m.Kind = 2
  case pos =>
    rw [show amtOkB m.Kind m.Amt = amtB m.Amt by unfold amtOkB; rw [e2]; simp]
    have k2 : (m.Kind != 2) = false := by simp [e2]
    rw [e2] at x_a hwa k2 ⊢
    clear h2
    clear e2
    have c0 := x_a.cell (i := 0) rfl
    have c1 := x_a.cell (i := 1) rfl
    have c2 := x_a.cell (i := 2) rfl
    have c3 := x_a.cell (i := 3) rfl
    go_enter Try.func52, Try.ntmps52
    go_wp2_with fail
    refine (sIn_any _ _ _ _).mono ?_
    rintro e w' ⟨rfl, rfl⟩
    rw [HA.out]
    go_wp2_with fail
    refine (sIn_any _ _ _ _).mono ?_
    rintro e w' ⟨rfl, rfl⟩
    rw [HS.out]
    go_wp2_with fail
    refine (sAmt_any _ _).mono ?_
    rintro e w' ⟨rfl, rfl⟩
    go_wp2
    go_ret
    exact ⟨rfl, B0⟩
  by_cases e3 : m.Kind = 3
  case pos =>
    rw [show amtOkB m.Kind m.Amt = amtB m.Amt by unfold amtOkB; rw [e3]; simp]
    have k2 : (m.Kind != 2) = true := by simp [e3]
    have k0 : (m.Src != 0) = false := by simp; omega
    rw [e3] at x_a hwa k2 ⊢
    clear h2
    clear e3
    have c0 := x_a.cell (i := 0) rfl
    have c1 := x_a.cell (i := 1) rfl
    have c2 := x_a.cell (i := 2) rfl
    have c3 := x_a.cell (i := 3) rfl
    go_enter Try.func52, Try.ntmps52
    go_wp2_with fail
    refine (sIn_any _ _ _ _).mono ?_
    rintro e w' ⟨rfl, rfl⟩
    rw [HA.out]
    go_wp2_with fail
    refine (sIn_any _ _ _ _).mono ?_
    rintro e w' ⟨rfl, rfl⟩
    rw [HS.out]
    go_wp2_with fail
    refine (sAmt_any _ _).mono ?_
    rintro e w' ⟨rfl, rfl⟩
    go_wp2
    go_ret
    exact ⟨rfl, B0⟩
  by_cases e4 : m.Kind = 4
  case pos =>
    rw [show amtOkB m.Kind m.Amt = inB m.Amt 0 3 by unfold amtOkB; rw [e4]; simp]
    have k2 : (m.Kind != 2) = true := by simp [e4]
    have k0 : (m.Src != 0) = false := by simp; omega
    rw [e4] at x_a hwa k2 ⊢
    clear h2
    clear e4
    have c0 := x_a.cell (i := 0) rfl
    have c1 := x_a.cell (i := 1) rfl
    have c2 := x_a.cell (i := 2) rfl
    have c3 := x_a.cell (i := 3) rfl
    go_enter Try.func52, Try.ntmps52
    go_wp2_with fail
    refine (sIn_any _ _ _ _).mono ?_
    rintro e w' ⟨rfl, rfl⟩
    rw [HA.out]
    go_wp2_with fail
    refine (sIn_any _ _ _ _).mono ?_
    rintro e w' ⟨rfl, rfl⟩
    rw [HS.out]
    go_wp2_with fail
    refine (sIn_any _ _ _ _).mono ?_
    rintro e w' ⟨rfl, rfl⟩
    go_wp2
    go_ret
    exact ⟨rfl, B0⟩
  by_cases e5 : m.Kind = 5
  case pos =>
    rw [show amtOkB m.Kind m.Amt = numB m.Amt by unfold amtOkB; rw [e5]; simp]
    have k2 : (m.Kind != 2) = true := by simp [e5]
    have k0 : (m.Src != 0) = false := by simp; omega
    rw [e5] at x_a hwa k2 ⊢
    clear h2
    clear e5
    have c0 := x_a.cell (i := 0) rfl
    have c1 := x_a.cell (i := 1) rfl
    have c2 := x_a.cell (i := 2) rfl
    have c3 := x_a.cell (i := 3) rfl
    go_enter Try.func52, Try.ntmps52
    go_wp2_with fail
    refine (sIn_any _ _ _ _).mono ?_
    rintro e w' ⟨rfl, rfl⟩
    rw [HA.out]
    go_wp2_with fail
    refine (sIn_any _ _ _ _).mono ?_
    rintro e w' ⟨rfl, rfl⟩
    rw [HS.out]
    go_wp2_with fail
    refine (sNum_any _ _).mono ?_
    rintro e w' ⟨rfl, rfl⟩
    go_wp2
    go_ret
    exact ⟨rfl, B0⟩
  rw [show amtOkB m.Kind m.Amt = false by simp [amtOkB, e1, e2, e3, e4, e5]]
  have k2 : (m.Kind != 2) = true := by simp [e2]
  have k0 : (m.Src != 0) = false := by simp; omega
  have q1 : (m.Kind == 1) = false := by simp [e1]
  have q2 : (m.Kind == 2) = false := by simp [e2]
  have q3 : (m.Kind == 3) = false := by simp [e3]
  have q4 : (m.Kind == 4) = false := by simp [e4]
  have q5 : (m.Kind == 5) = false := by simp [e5]
  clear h2 e1 e2 e3 e4 e5
  have c0 := x_a.cell (i := 0) rfl
  have c1 := x_a.cell (i := 1) rfl
  have c2 := x_a.cell (i := 2) rfl
  have c3 := x_a.cell (i := 3) rfl
  go_enter Try.func52, Try.ntmps52
  go_wp2_with fail
  refine (sIn_any _ _ _ _).mono ?_
  rintro e w' ⟨rfl, rfl⟩
  rw [HA.out]
  go_wp2_with fail
  refine (sIn_any _ _ _ _).mono ?_
  rintro e w' ⟨rfl, rfl⟩
  rw [HS.out]
  go_wp2
  go_ret
  exact ⟨rfl, B0⟩

set_option maxHeartbeats 2000000 in
theorem sMsgWorth_c {w : World} {v : Value} {m : MMsg} (h : RV msgL w v m) : Calls Try.prog 57 #[v] w fun e w' => e = .returned (.int .i64 (msgWorth m)) ∧ Below w.heap.size w w' := by
  have h' := h
  obtain rfl := rv_msg h'
  clear h'
  obtain ⟨wa, hwa, B0, sa, x_a⟩ := frame1 w 29 [.int .i64 m.Kind, .int .i64 m.Acct, .int .i64 m.Amt, .int .i64 m.Src]
  have sa_1 := Nat.le_of_eq sa
  have sa_2 := Nat.le_of_eq sa.symm
  clear sa
  have c0 := x_a.cell (i := 0) rfl
  have c1 := x_a.cell (i := 1) rfl
  have c2 := x_a.cell (i := 2) rfl
  have c3 := x_a.cell (i := 3) rfl
  by_cases ho : msgOkB m = true
  · have HO := Lib.hid ho
    by_cases h3 : m.Kind ≤ 3
    · rw [show msgWorth m = m.Amt from if_pos ⟨ho, h3⟩]
      clear ho
      go_enter Try.func57, Try.ntmps57
      go_wp2_with fail
      refine (sMsgOk_c (h.from_ B0)).mono ?_
      rintro e w1 ⟨rfl, hb1⟩
      rw [HO.out]
      have y_a := x_a.from_ hb1
      have d0 := y_a.cell (i := 0) rfl
      have d2 := y_a.cell (i := 2) rfl
      have i3 : decide (3 < m.Kind) = false := decide_eq_false (by omega)
      go_wp2
      go_ret
      exact ⟨rfl, B0.trans (hb1.mono B0.size)⟩
    · rw [show msgWorth m = 0 from if_neg (fun h => h3 h.2)]
      clear ho
      go_enter Try.func57, Try.ntmps57
      go_wp2_with fail
      refine (sMsgOk_c (h.from_ B0)).mono ?_
      rintro e w1 ⟨rfl, hb1⟩
      rw [HO.out]
      have y_a := x_a.from_ hb1
      have d0 := y_a.cell (i := 0) rfl
      have i3 : decide (3 < m.Kind) = true := decide_eq_true (by omega)
      go_wp2
      go_ret
      exact ⟨rfl, B0.trans (hb1.mono B0.size)⟩
  · have ho' : msgOkB m = false := by simpa using ho
    have HO := Lib.hid ho'
    rw [show msgWorth m = 0 from if_neg (fun h => ho h.1)]
    clear ho ho'
    go_enter Try.func57, Try.ntmps57
    go_wp2_with fail
    refine (sMsgOk_c (h.from_ B0)).mono ?_
    rintro e w1 ⟨rfl, hb1⟩
    rw [HO.out]
    go_wp2
    go_ret
    exact ⟨rfl, B0.trans (hb1.mono B0.size)⟩

/-- the words of the kinds: rights, credit, bounce, mark, report -/
def msgName (k : Int) : ByteArray :=
  if k = 1 then ⟨#[114, 105, 103, 104, 116, 115]⟩ else if k = 2 then ⟨#[99, 114, 101, 100, 105, 116]⟩ else if k = 3 then ⟨#[98, 111, 117, 110, 99, 101]⟩ else if k = 4 then ⟨#[109, 97, 114, 107]⟩ else if k = 5 then ⟨#[114, 101, 112, 111, 114, 116]⟩ else ⟨#[]⟩

end Go.Proofs.Ytpaodpkgpajboaa
