/- Contracts of impl's messages: the letters behind the interface, MsgOk, MsgWorth, MsgName. -/
import Derived.Test.YtpaodpkgpajboaaMsg1
import Derived.Handy
namespace Go.Proofs.Ytpaodpkgpajboaa
open Go.RowKit
set_option linter.unusedVariables false

theorem iAcct_any (n : Int) (w : World) : Calls Try.prog 69 #[.int .i64 n] w fun e w' => e = .returned (.bool (inB n 0 2)) ∧ w = w' := by
  by_cases h0 : 0 ≤ n
  · by_cases h1 : n ≤ 2
    · rw [inB_true.2 ⟨h0, h1⟩]
      have i1 : decide (n < 3) = true := decide_eq_true (by omega)
      go_enter Try.func69, Try.ntmps69
      go_wp2
      go_ret
      exact ⟨rfl, rfl⟩
    · rw [inB_false.2 (by omega)]
      have i1 : decide (n < 3) = false := decide_eq_false (by omega)
      go_enter Try.func69, Try.ntmps69
      go_wp2
      go_ret
      exact ⟨rfl, rfl⟩
  · rw [inB_false.2 (by omega)]
    have i1 : decide (0 ≤ n) = false := decide_eq_false h0
    go_enter Try.func69, Try.ntmps69
    go_wp2
    go_ret
    exact ⟨rfl, rfl⟩

theorem iNode_any (n : Int) (w : World) : Calls Try.prog 94 #[.int .i64 n] w fun e w' => e = .returned (.bool (inB n 0 3)) ∧ w = w' := by
  by_cases h0 : 0 ≤ n
  · by_cases h1 : n ≤ 3
    · rw [inB_true.2 ⟨h0, h1⟩]
      have i1 : decide (n < 4) = true := decide_eq_true (by omega)
      go_enter Try.func94, Try.ntmps94
      go_wp2
      go_ret
      exact ⟨rfl, rfl⟩
    · rw [inB_false.2 (by omega)]
      have i1 : decide (n < 4) = false := decide_eq_false (by omega)
      go_enter Try.func94, Try.ntmps94
      go_wp2
      go_ret
      exact ⟨rfl, rfl⟩
  · rw [inB_false.2 (by omega)]
    have i1 : decide (0 ≤ n) = false := decide_eq_false h0
    go_enter Try.func94, Try.ntmps94
    go_wp2
    go_ret
    exact ⟨rfl, rfl⟩

set_option maxHeartbeats 1000000 in
theorem fits1_c (k a b s : Int) (w : World) : Calls Try.prog 85 #[.agg #[.int .i64 k, .int .i64 a, .int .i64 b, .int .i64 s]] w fun e w' => e = .returned (.bool (amtB b && (s == 0))) ∧ Below w.heap.size w w' := by
  obtain ⟨wa, hwa, B0, sa, x_a⟩ := frame1 w 87 [.int .i64 k, .int .i64 a, .int .i64 b, .int .i64 s]
  have c2 := x_a.cell (i := 2) rfl
  have c3 := x_a.cell (i := 3) rfl
  clear sa
  by_cases h : amtB b = true
  case neg =>
    have h' : amtB b = false := by simpa using h
    have H := Lib.hid h'
    rw [h', Bool.false_and]
    clear h h'
    go_enter Try.func85, Try.ntmps85
    go_wp2_with fail
    refine (iAmt_any _ _).mono ?_
    rintro e w' ⟨rfl, rfl⟩
    rw [H.out]
    go_wp2
    go_ret
    exact ⟨rfl, B0⟩
  have H := Lib.hid h
  rw [h, Bool.true_and]
  clear h
  obtain ⟨q, hq⟩ : ∃ q, (s == 0) = q := ⟨_, rfl⟩
  rw [hq]
  go_enter Try.func85, Try.ntmps85
  go_wp2_with fail
  refine (iAmt_any _ _).mono ?_
  rintro e w' ⟨rfl, rfl⟩
  rw [H.out]
  go_wp2
  go_ret
  exact ⟨rfl, B0⟩

set_option maxHeartbeats 1000000 in
theorem letterOf1_c (a b s : Int) (w : World) : Calls Try.prog 68 #[.agg #[.int .i64 1, .int .i64 a, .int .i64 b, .int .i64 s]] w fun e w' => e = .returned (.tuple #[.iface 87 (.agg #[.int .i64 1, .int .i64 a, .int .i64 b, .int .i64 s]), .bool true]) ∧ Below w.heap.size w w' := by
  obtain ⟨wa, hwa, B0, sa, x_a⟩ := frame1 w 29 [.int .i64 1, .int .i64 a, .int .i64 b, .int .i64 s]
  have c0 := x_a.cell (i := 0) rfl
  have c1 := x_a.cell (i := 1) rfl
  have c2 := x_a.cell (i := 2) rfl
  have c3 := x_a.cell (i := 3) rfl
  clear sa
  go_enter Try.func68, Try.ntmps68
  go_wp2
  go_ret2
  exact ⟨rfl, B0⟩

set_option maxHeartbeats 1000000 in
theorem fits2_c (k a b s : Int) (w : World) : Calls Try.prog 88 #[.agg #[.int .i64 k, .int .i64 a, .int .i64 b, .int .i64 s]] w fun e w' => e = .returned (.bool (amtB b && inB s 0 2)) ∧ Below w.heap.size w w' := by
  obtain ⟨wa, hwa, B0, sa, x_a⟩ := frame1 w 88 [.int .i64 k, .int .i64 a, .int .i64 b, .int .i64 s]
  have c2 := x_a.cell (i := 2) rfl
  have c3 := x_a.cell (i := 3) rfl
  clear sa
  by_cases h : amtB b = true
  case neg =>
    have h' : amtB b = false := by simpa using h
    have H := Lib.hid h'
    rw [h', Bool.false_and]
    clear h h'
    go_enter Try.func88, Try.ntmps88
    go_wp2_with fail
    refine (iAmt_any _ _).mono ?_
    rintro e w' ⟨rfl, rfl⟩
    rw [H.out]
    go_wp2
    go_ret
    exact ⟨rfl, B0⟩
  have H := Lib.hid h
  rw [h, Bool.true_and]
  clear h
  go_enter Try.func88, Try.ntmps88
  go_wp2_with fail
  refine (iAmt_any _ _).mono ?_
  rintro e w' ⟨rfl, rfl⟩
  rw [H.out]
  go_wp2_with fail
  refine (iAcct_any _ _).mono ?_
  rintro e w' ⟨rfl, rfl⟩
  go_wp2
  go_ret
  exact ⟨rfl, B0⟩

set_option maxHeartbeats 1000000 in
theorem letterOf2_c (a b s : Int) (w : World) : Calls Try.prog 68 #[.agg #[.int .i64 2, .int .i64 a, .int .i64 b, .int .i64 s]] w fun e w' => e = .returned (.tuple #[.iface 88 (.agg #[.int .i64 2, .int .i64 a, .int .i64 b, .int .i64 s]), .bool true]) ∧ Below w.heap.size w w' := by
  obtain ⟨wa, hwa, B0, sa, x_a⟩ := frame1 w 29 [.int .i64 2, .int .i64 a, .int .i64 b, .int .i64 s]
  have c0 := x_a.cell (i := 0) rfl
  have c1 := x_a.cell (i := 1) rfl
  have c2 := x_a.cell (i := 2) rfl
  have c3 := x_a.cell (i := 3) rfl
  clear sa
  go_enter Try.func68, Try.ntmps68
  go_wp2
  go_ret2
  exact ⟨rfl, B0⟩

set_option maxHeartbeats 1000000 in
theorem fits3_c (k a b s : Int) (w : World) : Calls Try.prog 90 #[.agg #[.int .i64 k, .int .i64 a, .int .i64 b, .int .i64 s]] w fun e w' => e = .returned (.bool (amtB b && (s == 0))) ∧ Below w.heap.size w w' := by
  obtain ⟨wa, hwa, B0, sa, x_a⟩ := frame1 w 89 [.int .i64 k, .int .i64 a, .int .i64 b, .int .i64 s]
  have c2 := x_a.cell (i := 2) rfl
  have c3 := x_a.cell (i := 3) rfl
  clear sa
  by_cases h : amtB b = true
  case neg =>
    have h' : amtB b = false := by simpa using h
    have H := Lib.hid h'
    rw [h', Bool.false_and]
    clear h h'
    go_enter Try.func90, Try.ntmps90
    go_wp2_with fail
    refine (iAmt_any _ _).mono ?_
    rintro e w' ⟨rfl, rfl⟩
    rw [H.out]
    go_wp2
    go_ret
    exact ⟨rfl, B0⟩
  have H := Lib.hid h
  rw [h, Bool.true_and]
  clear h
  obtain ⟨q, hq⟩ : ∃ q, (s == 0) = q := ⟨_, rfl⟩
  rw [hq]
  go_enter Try.func90, Try.ntmps90
  go_wp2_with fail
  refine (iAmt_any _ _).mono ?_
  rintro e w' ⟨rfl, rfl⟩
  rw [H.out]
  go_wp2
  go_ret
  exact ⟨rfl, B0⟩

set_option maxHeartbeats 1000000 in
theorem letterOf3_c (a b s : Int) (w : World) : Calls Try.prog 68 #[.agg #[.int .i64 3, .int .i64 a, .int .i64 b, .int .i64 s]] w fun e w' => e = .returned (.tuple #[.iface 89 (.agg #[.int .i64 3, .int .i64 a, .int .i64 b, .int .i64 s]), .bool true]) ∧ Below w.heap.size w w' := by
  obtain ⟨wa, hwa, B0, sa, x_a⟩ := frame1 w 29 [.int .i64 3, .int .i64 a, .int .i64 b, .int .i64 s]
  have c0 := x_a.cell (i := 0) rfl
  have c1 := x_a.cell (i := 1) rfl
  have c2 := x_a.cell (i := 2) rfl
  have c3 := x_a.cell (i := 3) rfl
  clear sa
  go_enter Try.func68, Try.ntmps68
  go_wp2
  go_ret2
  exact ⟨rfl, B0⟩

set_option maxHeartbeats 1000000 in
theorem fits4_c (k a b s : Int) (w : World) : Calls Try.prog 92 #[.agg #[.int .i64 k, .int .i64 a, .int .i64 b, .int .i64 s]] w fun e w' => e = .returned (.bool (inB b 0 3 && (s == 0))) ∧ Below w.heap.size w w' := by
  obtain ⟨wa, hwa, B0, sa, x_a⟩ := frame1 w 90 [.int .i64 k, .int .i64 a, .int .i64 b, .int .i64 s]
  have c2 := x_a.cell (i := 2) rfl
  have c3 := x_a.cell (i := 3) rfl
  clear sa
  by_cases h : inB b 0 3 = true
  case neg =>
    have h' : inB b 0 3 = false := by simpa using h
    have H := Lib.hid h'
    rw [h', Bool.false_and]
    clear h h'
    go_enter Try.func92, Try.ntmps92
    go_wp2_with fail
    refine (iNode_any _ _).mono ?_
    rintro e w' ⟨rfl, rfl⟩
    rw [H.out]
    go_wp2
    go_ret
    exact ⟨rfl, B0⟩
  have H := Lib.hid h
  rw [h, Bool.true_and]
  clear h
  obtain ⟨q, hq⟩ : ∃ q, (s == 0) = q := ⟨_, rfl⟩
  rw [hq]
  go_enter Try.func92, Try.ntmps92
  go_wp2_with fail
  refine (iNode_any _ _).mono ?_
  rintro e w' ⟨rfl, rfl⟩
  rw [H.out]
  go_wp2
  go_ret
  exact ⟨rfl, B0⟩

set_option maxHeartbeats 1000000 in
theorem letterOf4_c (a b s : Int) (w : World) : Calls Try.prog 68 #[.agg #[.int .i64 4, .int .i64 a, .int .i64 b, .int .i64 s]] w fun e w' => e = .returned (.tuple #[.iface 90 (.agg #[.int .i64 4, .int .i64 a, .int .i64 b, .int .i64 s]), .bool true]) ∧ Below w.heap.size w w' := by
  obtain ⟨wa, hwa, B0, sa, x_a⟩ := frame1 w 29 [.int .i64 4, .int .i64 a, .int .i64 b, .int .i64 s]
  have c0 := x_a.cell (i := 0) rfl
  have c1 := x_a.cell (i := 1) rfl
  have c2 := x_a.cell (i := 2) rfl
  have c3 := x_a.cell (i := 3) rfl
  clear sa
  go_enter Try.func68, Try.ntmps68
  go_wp2
  go_ret2
  exact ⟨rfl, B0⟩

set_option maxHeartbeats 1000000 in
theorem fits5_c (k a b s : Int) (w : World) : Calls Try.prog 95 #[.agg #[.int .i64 k, .int .i64 a, .int .i64 b, .int .i64 s]] w fun e w' => e = .returned (.bool (numB b && (s == 0))) ∧ Below w.heap.size w w' := by
  obtain ⟨wa, hwa, B0, sa, x_a⟩ := frame1 w 91 [.int .i64 k, .int .i64 a, .int .i64 b, .int .i64 s]
  have c2 := x_a.cell (i := 2) rfl
  have c3 := x_a.cell (i := 3) rfl
  clear sa
  by_cases h : numB b = true
  case neg =>
    have h' : numB b = false := by simpa using h
    have H := Lib.hid h'
    rw [h', Bool.false_and]
    clear h h'
    go_enter Try.func95, Try.ntmps95
    go_wp2_with fail
    refine (iNum_any _ _).mono ?_
    rintro e w' ⟨rfl, rfl⟩
    rw [H.out]
    go_wp2
    go_ret
    exact ⟨rfl, B0⟩
  have H := Lib.hid h
  rw [h, Bool.true_and]
  clear h
  obtain ⟨q, hq⟩ : ∃ q, (s == 0) = q := ⟨_, rfl⟩
  rw [hq]
  go_enter Try.func95, Try.ntmps95
  go_wp2_with fail
  refine (iNum_any _ _).mono ?_
  rintro e w' ⟨rfl, rfl⟩
  rw [H.out]
  go_wp2
  go_ret
  exact ⟨rfl, B0⟩

set_option maxHeartbeats 1000000 in
theorem letterOf5_c (a b s : Int) (w : World) : Calls Try.prog 68 #[.agg #[.int .i64 5, .int .i64 a, .int .i64 b, .int .i64 s]] w fun e w' => e = .returned (.tuple #[.iface 91 (.agg #[.int .i64 5, .int .i64 a, .int .i64 b, .int .i64 s]), .bool true]) ∧ Below w.heap.size w w' := by
  obtain ⟨wa, hwa, B0, sa, x_a⟩ := frame1 w 29 [.int .i64 5, .int .i64 a, .int .i64 b, .int .i64 s]
  have c0 := x_a.cell (i := 0) rfl
  have c1 := x_a.cell (i := 1) rfl
  have c2 := x_a.cell (i := 2) rfl
  have c3 := x_a.cell (i := 3) rfl
  clear sa
  go_enter Try.func68, Try.ntmps68
  go_wp2
  go_ret2
  exact ⟨rfl, B0⟩

set_option maxHeartbeats 1000000 in
theorem letterOf0_c (k a b s : Int) (w : World) (hk : ¬ (1 ≤ k ∧ k ≤ 5)) : Calls Try.prog 68 #[.agg #[.int .i64 k, .int .i64 a, .int .i64 b, .int .i64 s]] w fun e w' => e = .returned (.tuple #[.nilIface, .bool false]) ∧ Below w.heap.size w w' := by
  obtain ⟨wa, hwa, B0, sa, x_a⟩ := frame1 w 29 [.int .i64 k, .int .i64 a, .int .i64 b, .int .i64 s]
  have c0 := x_a.cell (i := 0) rfl
  clear sa
  have k1 : (k == 1) = false := by simp; omega
  have k2 : (k == 2) = false := by simp; omega
  have k3 : (k == 3) = false := by simp; omega
  have k4 : (k == 4) = false := by simp; omega
  have k5 : (k == 5) = false := by simp; omega
  clear hk
  go_enter Try.func68, Try.ntmps68
  go_wp2
  go_ret2
  exact ⟨rfl, B0⟩

theorem ok1 (a b s : Int) : msgOkB ⟨1, a, b, s⟩ = (inB a 0 2 && (amtB b && (s == 0))) := by
  simp only [msgOkB, amtOkB]
  generalize inB a 0 2 = p
  by_cases hs : s = 0
  · subst hs
    have h0 : inB 0 0 2 = true := by decide
    rw [h0]
    simp
  · have h1 : (s == 0) = false := by simpa using hs
    rw [h1]
    cases inB s 0 2 <;> cases p <;> simp

set_option maxHeartbeats 2000000 in
theorem valid1_c (a b s : Int) (w : World) : Calls Try.prog 66 #[.agg #[.int .i64 1, .int .i64 a, .int .i64 b, .int .i64 s]] w fun e w' => e = .returned (if msgOkB ⟨1, a, b, s⟩ then .tuple #[.iface 87 (.agg #[.int .i64 1, .int .i64 a, .int .i64 b, .int .i64 s]), .bool true] else .tuple #[.nilIface, .bool false]) ∧ Below w.heap.size w w' := by
  rw [ok1]
  obtain ⟨wa, hwa, B0, sa, x_a⟩ := frame1 w 29 [.int .i64 1, .int .i64 a, .int .i64 b, .int .i64 s]
  have c0 := x_a.cell (i := 0) rfl
  have c1 := x_a.cell (i := 1) rfl
  have c2 := x_a.cell (i := 2) rfl
  have c3 := x_a.cell (i := 3) rfl
  clear sa
  by_cases h : inB a 0 2 = true
  case neg =>
    have h' : inB a 0 2 = false := by simpa using h
    have H := Lib.hid h'
    rw [h', Bool.false_and]
    clear h h'
    go_enter Try.func66, Try.ntmps66
    go_wp2_with fail
    refine (letterOf1_c _ _ _ _).mono ?_
    rintro e w1 ⟨rfl, h1⟩
    replace x_a := x_a.from_ h1
    have d1 := x_a.cell (i := 1) rfl
    go_wp2_with fail
    refine (iAcct_any _ _).mono ?_
    rintro e w' ⟨rfl, rfl⟩
    rw [H.out]
    go_wp2
    go_ret2
    exact ⟨rfl, B0.trans (h1.mono B0.size)⟩
  have H := Lib.hid h
  rw [h, Bool.true_and]
  clear h
  by_cases hf : (amtB b && (s == 0)) = true
  · have HF := Lib.hid hf
    rw [if_pos hf]
    clear hf
    go_enter Try.func66, Try.ntmps66
    go_wp2_with fail
    refine (letterOf1_c _ _ _ _).mono ?_
    rintro e w1 ⟨rfl, h1⟩
    replace x_a := x_a.from_ h1
    have d1 := x_a.cell (i := 1) rfl
    go_wp2_with fail
    refine (iAcct_any _ _).mono ?_
    rintro e w' ⟨rfl, rfl⟩
    rw [H.out]
    go_wp2_with fail
    refine (fits1_c _ _ _ _ _).mono ?_
    rintro e w2 ⟨rfl, h2⟩
    rw [HF.out]
    have B1 := B0.trans (h1.mono B0.size)
    go_wp2
    go_ret2
    exact ⟨rfl, B1.trans (h2.mono B1.size)⟩
  · have hf' : (amtB b && (s == 0)) = false := by simpa only [Bool.not_eq_true] using hf
    have HF := Lib.hid hf'
    rw [if_neg hf]
    clear hf hf'
    go_enter Try.func66, Try.ntmps66
    go_wp2_with fail
    refine (letterOf1_c _ _ _ _).mono ?_
    rintro e w1 ⟨rfl, h1⟩
    replace x_a := x_a.from_ h1
    have d1 := x_a.cell (i := 1) rfl
    go_wp2_with fail
    refine (iAcct_any _ _).mono ?_
    rintro e w' ⟨rfl, rfl⟩
    rw [H.out]
    go_wp2_with fail
    refine (fits1_c _ _ _ _ _).mono ?_
    rintro e w2 ⟨rfl, h2⟩
    rw [HF.out]
    have B1 := B0.trans (h1.mono B0.size)
    go_wp2
    go_ret2
    exact ⟨rfl, B1.trans (h2.mono B1.size)⟩

theorem ok2 (a b s : Int) : msgOkB ⟨2, a, b, s⟩ = (inB a 0 2 && (amtB b && inB s 0 2)) := by
  simp only [msgOkB, amtOkB]
  generalize inB a 0 2 = p
  by_cases hs : s = 0
  · subst hs
    have h0 : inB 0 0 2 = true := by decide
    rw [h0]
    simp
  · have h1 : (s == 0) = false := by simpa using hs
    rw [h1]
    cases inB s 0 2 <;> cases p <;> simp

set_option maxHeartbeats 2000000 in
theorem valid2_c (a b s : Int) (w : World) : Calls Try.prog 66 #[.agg #[.int .i64 2, .int .i64 a, .int .i64 b, .int .i64 s]] w fun e w' => e = .returned (if msgOkB ⟨2, a, b, s⟩ then .tuple #[.iface 88 (.agg #[.int .i64 2, .int .i64 a, .int .i64 b, .int .i64 s]), .bool true] else .tuple #[.nilIface, .bool false]) ∧ Below w.heap.size w w' := by
  rw [ok2]
  obtain ⟨wa, hwa, B0, sa, x_a⟩ := frame1 w 29 [.int .i64 2, .int .i64 a, .int .i64 b, .int .i64 s]
  have c0 := x_a.cell (i := 0) rfl
  have c1 := x_a.cell (i := 1) rfl
  have c2 := x_a.cell (i := 2) rfl
  have c3 := x_a.cell (i := 3) rfl
  clear sa
  by_cases h : inB a 0 2 = true
  case neg =>
    have h' : inB a 0 2 = false := by simpa using h
    have H := Lib.hid h'
    rw [h', Bool.false_and]
    clear h h'
    go_enter Try.func66, Try.ntmps66
    go_wp2_with fail
    refine (letterOf2_c _ _ _ _).mono ?_
    rintro e w1 ⟨rfl, h1⟩
    replace x_a := x_a.from_ h1
    have d1 := x_a.cell (i := 1) rfl
    go_wp2_with fail
    refine (iAcct_any _ _).mono ?_
    rintro e w' ⟨rfl, rfl⟩
    rw [H.out]
    go_wp2
    go_ret2
    exact ⟨rfl, B0.trans (h1.mono B0.size)⟩
  have H := Lib.hid h
  rw [h, Bool.true_and]
  clear h
  by_cases hf : (amtB b && inB s 0 2) = true
  · have HF := Lib.hid hf
    rw [if_pos hf]
    clear hf
    go_enter Try.func66, Try.ntmps66
    go_wp2_with fail
    refine (letterOf2_c _ _ _ _).mono ?_
    rintro e w1 ⟨rfl, h1⟩
    replace x_a := x_a.from_ h1
    have d1 := x_a.cell (i := 1) rfl
    go_wp2_with fail
    refine (iAcct_any _ _).mono ?_
    rintro e w' ⟨rfl, rfl⟩
    rw [H.out]
    go_wp2_with fail
    refine (fits2_c _ _ _ _ _).mono ?_
    rintro e w2 ⟨rfl, h2⟩
    rw [HF.out]
    have B1 := B0.trans (h1.mono B0.size)
    go_wp2
    go_ret2
    exact ⟨rfl, B1.trans (h2.mono B1.size)⟩
  · have hf' : (amtB b && inB s 0 2) = false := by simpa only [Bool.not_eq_true] using hf
    have HF := Lib.hid hf'
    rw [if_neg hf]
    clear hf hf'
    go_enter Try.func66, Try.ntmps66
    go_wp2_with fail
    refine (letterOf2_c _ _ _ _).mono ?_
    rintro e w1 ⟨rfl, h1⟩
    replace x_a := x_a.from_ h1
    have d1 := x_a.cell (i := 1) rfl
    go_wp2_with fail
    refine (iAcct_any _ _).mono ?_
    rintro e w' ⟨rfl, rfl⟩
    rw [H.out]
    go_wp2_with fail
    refine (fits2_c _ _ _ _ _).mono ?_
    rintro e w2 ⟨rfl, h2⟩
    rw [HF.out]
    have B1 := B0.trans (h1.mono B0.size)
    go_wp2
    go_ret2
    exact ⟨rfl, B1.trans (h2.mono B1.size)⟩

theorem ok3 (a b s : Int) : msgOkB ⟨3, a, b, s⟩ = (inB a 0 2 && (amtB b && (s == 0))) := by
  simp only [msgOkB, amtOkB]
  generalize inB a 0 2 = p
  by_cases hs : s = 0
  · subst hs
    have h0 : inB 0 0 2 = true := by decide
    rw [h0]
    simp
  · have h1 : (s == 0) = false := by simpa using hs
    rw [h1]
    cases inB s 0 2 <;> cases p <;> simp

set_option maxHeartbeats 2000000 in
theorem valid3_c (a b s : Int) (w : World) : Calls Try.prog 66 #[.agg #[.int .i64 3, .int .i64 a, .int .i64 b, .int .i64 s]] w fun e w' => e = .returned (if msgOkB ⟨3, a, b, s⟩ then .tuple #[.iface 89 (.agg #[.int .i64 3, .int .i64 a, .int .i64 b, .int .i64 s]), .bool true] else .tuple #[.nilIface, .bool false]) ∧ Below w.heap.size w w' := by
  rw [ok3]
  obtain ⟨wa, hwa, B0, sa, x_a⟩ := frame1 w 29 [.int .i64 3, .int .i64 a, .int .i64 b, .int .i64 s]
  have c0 := x_a.cell (i := 0) rfl
  have c1 := x_a.cell (i := 1) rfl
  have c2 := x_a.cell (i := 2) rfl
  have c3 := x_a.cell (i := 3) rfl
  clear sa
  by_cases h : inB a 0 2 = true
  case neg =>
    have h' : inB a 0 2 = false := by simpa using h
    have H := Lib.hid h'
    rw [h', Bool.false_and]
    clear h h'
    go_enter Try.func66, Try.ntmps66
    go_wp2_with fail
    refine (letterOf3_c _ _ _ _).mono ?_
    rintro e w1 ⟨rfl, h1⟩
    replace x_a := x_a.from_ h1
    have d1 := x_a.cell (i := 1) rfl
    go_wp2_with fail
    refine (iAcct_any _ _).mono ?_
    rintro e w' ⟨rfl, rfl⟩
    rw [H.out]
    go_wp2
    go_ret2
    exact ⟨rfl, B0.trans (h1.mono B0.size)⟩
  have H := Lib.hid h
  rw [h, Bool.true_and]
  clear h
  by_cases hf : (amtB b && (s == 0)) = true
  · have HF := Lib.hid hf
    rw [if_pos hf]
    clear hf
    go_enter Try.func66, Try.ntmps66
    go_wp2_with fail
    refine (letterOf3_c _ _ _ _).mono ?_
    rintro e w1 ⟨rfl, h1⟩
    replace x_a := x_a.from_ h1
    have d1 := x_a.cell (i := 1) rfl
    go_wp2_with fail
    refine (iAcct_any _ _).mono ?_
    rintro e w' ⟨rfl, rfl⟩
    rw [H.out]
    go_wp2_with fail
    refine (fits3_c _ _ _ _ _).mono ?_
    rintro e w2 ⟨rfl, h2⟩
    rw [HF.out]
    have B1 := B0.trans (h1.mono B0.size)
    go_wp2
    go_ret2
    exact ⟨rfl, B1.trans (h2.mono B1.size)⟩
  · have hf' : (amtB b && (s == 0)) = false := by simpa only [Bool.not_eq_true] using hf
    have HF := Lib.hid hf'
    rw [if_neg hf]
    clear hf hf'
    go_enter Try.func66, Try.ntmps66
    go_wp2_with fail
    refine (letterOf3_c _ _ _ _).mono ?_
    rintro e w1 ⟨rfl, h1⟩
    replace x_a := x_a.from_ h1
    have d1 := x_a.cell (i := 1) rfl
    go_wp2_with fail
    refine (iAcct_any _ _).mono ?_
    rintro e w' ⟨rfl, rfl⟩
    rw [H.out]
    go_wp2_with fail
    refine (fits3_c _ _ _ _ _).mono ?_
    rintro e w2 ⟨rfl, h2⟩
    rw [HF.out]
    have B1 := B0.trans (h1.mono B0.size)
    go_wp2
    go_ret2
    exact ⟨rfl, B1.trans (h2.mono B1.size)⟩

theorem ok4 (a b s : Int) : msgOkB ⟨4, a, b, s⟩ = (inB a 0 2 && (inB b 0 3 && (s == 0))) := by
  simp only [msgOkB, amtOkB]
  generalize inB a 0 2 = p
  by_cases hs : s = 0
  · subst hs
    have h0 : inB 0 0 2 = true := by decide
    rw [h0]
    simp
  · have h1 : (s == 0) = false := by simpa using hs
    rw [h1]
    cases inB s 0 2 <;> cases p <;> simp

set_option maxHeartbeats 2000000 in
theorem valid4_c (a b s : Int) (w : World) : Calls Try.prog 66 #[.agg #[.int .i64 4, .int .i64 a, .int .i64 b, .int .i64 s]] w fun e w' => e = .returned (if msgOkB ⟨4, a, b, s⟩ then .tuple #[.iface 90 (.agg #[.int .i64 4, .int .i64 a, .int .i64 b, .int .i64 s]), .bool true] else .tuple #[.nilIface, .bool false]) ∧ Below w.heap.size w w' := by
  rw [ok4]
  obtain ⟨wa, hwa, B0, sa, x_a⟩ := frame1 w 29 [.int .i64 4, .int .i64 a, .int .i64 b, .int .i64 s]
  have c0 := x_a.cell (i := 0) rfl
  have c1 := x_a.cell (i := 1) rfl
  have c2 := x_a.cell (i := 2) rfl
  have c3 := x_a.cell (i := 3) rfl
  clear sa
  by_cases h : inB a 0 2 = true
  case neg =>
    have h' : inB a 0 2 = false := by simpa using h
    have H := Lib.hid h'
    rw [h', Bool.false_and]
    clear h h'
    go_enter Try.func66, Try.ntmps66
    go_wp2_with fail
    refine (letterOf4_c _ _ _ _).mono ?_
    rintro e w1 ⟨rfl, h1⟩
    replace x_a := x_a.from_ h1
    have d1 := x_a.cell (i := 1) rfl
    go_wp2_with fail
    refine (iAcct_any _ _).mono ?_
    rintro e w' ⟨rfl, rfl⟩
    rw [H.out]
    go_wp2
    go_ret2
    exact ⟨rfl, B0.trans (h1.mono B0.size)⟩
  have H := Lib.hid h
  rw [h, Bool.true_and]
  clear h
  by_cases hf : (inB b 0 3 && (s == 0)) = true
  · have HF := Lib.hid hf
    rw [if_pos hf]
    clear hf
    go_enter Try.func66, Try.ntmps66
    go_wp2_with fail
    refine (letterOf4_c _ _ _ _).mono ?_
    rintro e w1 ⟨rfl, h1⟩
    replace x_a := x_a.from_ h1
    have d1 := x_a.cell (i := 1) rfl
    go_wp2_with fail
    refine (iAcct_any _ _).mono ?_
    rintro e w' ⟨rfl, rfl⟩
    rw [H.out]
    go_wp2_with fail
    refine (fits4_c _ _ _ _ _).mono ?_
    rintro e w2 ⟨rfl, h2⟩
    rw [HF.out]
    have B1 := B0.trans (h1.mono B0.size)
    go_wp2
    go_ret2
    exact ⟨rfl, B1.trans (h2.mono B1.size)⟩
  · have hf' : (inB b 0 3 && (s == 0)) = false := by simpa only [Bool.not_eq_true] using hf
    have HF := Lib.hid hf'
    rw [if_neg hf]
    clear hf hf'
    go_enter Try.func66, Try.ntmps66
    go_wp2_with fail
    refine (letterOf4_c _ _ _ _).mono ?_
    rintro e w1 ⟨rfl, h1⟩
    replace x_a := x_a.from_ h1
    have d1 := x_a.cell (i := 1) rfl
    go_wp2_with fail
    refine (iAcct_any _ _).mono ?_
    rintro e w' ⟨rfl, rfl⟩
    rw [H.out]
    go_wp2_with fail
    refine (fits4_c _ _ _ _ _).mono ?_
    rintro e w2 ⟨rfl, h2⟩
    rw [HF.out]
    have B1 := B0.trans (h1.mono B0.size)
    go_wp2
    go_ret2
    exact ⟨rfl, B1.trans (h2.mono B1.size)⟩

theorem ok5 (a b s : Int) : msgOkB ⟨5, a, b, s⟩ = (inB a 0 2 && (numB b && (s == 0))) := by
  simp only [msgOkB, amtOkB]
  generalize inB a 0 2 = p
  by_cases hs : s = 0
  · subst hs
    have h0 : inB 0 0 2 = true := by decide
    rw [h0]
    simp
  · have h1 : (s == 0) = false := by simpa using hs
    rw [h1]
    cases inB s 0 2 <;> cases p <;> simp

set_option maxHeartbeats 2000000 in
theorem valid5_c (a b s : Int) (w : World) : Calls Try.prog 66 #[.agg #[.int .i64 5, .int .i64 a, .int .i64 b, .int .i64 s]] w fun e w' => e = .returned (if msgOkB ⟨5, a, b, s⟩ then .tuple #[.iface 91 (.agg #[.int .i64 5, .int .i64 a, .int .i64 b, .int .i64 s]), .bool true] else .tuple #[.nilIface, .bool false]) ∧ Below w.heap.size w w' := by
  rw [ok5]
  obtain ⟨wa, hwa, B0, sa, x_a⟩ := frame1 w 29 [.int .i64 5, .int .i64 a, .int .i64 b, .int .i64 s]
  have c0 := x_a.cell (i := 0) rfl
  have c1 := x_a.cell (i := 1) rfl
  have c2 := x_a.cell (i := 2) rfl
  have c3 := x_a.cell (i := 3) rfl
  clear sa
  by_cases h : inB a 0 2 = true
  case neg =>
    have h' : inB a 0 2 = false := by simpa using h
    have H := Lib.hid h'
    rw [h', Bool.false_and]
    clear h h'
    go_enter Try.func66, Try.ntmps66
    go_wp2_with fail
    refine (letterOf5_c _ _ _ _).mono ?_
    rintro e w1 ⟨rfl, h1⟩
    replace x_a := x_a.from_ h1
    have d1 := x_a.cell (i := 1) rfl
    go_wp2_with fail
    refine (iAcct_any _ _).mono ?_
    rintro e w' ⟨rfl, rfl⟩
    rw [H.out]
    go_wp2
    go_ret2
    exact ⟨rfl, B0.trans (h1.mono B0.size)⟩
  have H := Lib.hid h
  rw [h, Bool.true_and]
  clear h
  by_cases hf : (numB b && (s == 0)) = true
  · have HF := Lib.hid hf
    rw [if_pos hf]
    clear hf
    go_enter Try.func66, Try.ntmps66
    go_wp2_with fail
    refine (letterOf5_c _ _ _ _).mono ?_
    rintro e w1 ⟨rfl, h1⟩
    replace x_a := x_a.from_ h1
    have d1 := x_a.cell (i := 1) rfl
    go_wp2_with fail
    refine (iAcct_any _ _).mono ?_
    rintro e w' ⟨rfl, rfl⟩
    rw [H.out]
    go_wp2_with fail
    refine (fits5_c _ _ _ _ _).mono ?_
    rintro e w2 ⟨rfl, h2⟩
    rw [HF.out]
    have B1 := B0.trans (h1.mono B0.size)
    go_wp2
    go_ret2
    exact ⟨rfl, B1.trans (h2.mono B1.size)⟩
  · have hf' : (numB b && (s == 0)) = false := by simpa only [Bool.not_eq_true] using hf
    have HF := Lib.hid hf'
    rw [if_neg hf]
    clear hf hf'
    go_enter Try.func66, Try.ntmps66
    go_wp2_with fail
    refine (letterOf5_c _ _ _ _).mono ?_
    rintro e w1 ⟨rfl, h1⟩
    replace x_a := x_a.from_ h1
    have d1 := x_a.cell (i := 1) rfl
    go_wp2_with fail
    refine (iAcct_any _ _).mono ?_
    rintro e w' ⟨rfl, rfl⟩
    rw [H.out]
    go_wp2_with fail
    refine (fits5_c _ _ _ _ _).mono ?_
    rintro e w2 ⟨rfl, h2⟩
    rw [HF.out]
    have B1 := B0.trans (h1.mono B0.size)
    go_wp2
    go_ret2
    exact ⟨rfl, B1.trans (h2.mono B1.size)⟩

theorem ok0 (k a b s : Int) (hk : ¬ (1 ≤ k ∧ k ≤ 5)) : msgOkB ⟨k, a, b, s⟩ = false := by
  have h : amtOkB k b = false := by unfold amtOkB; rw [if_neg (by omega), if_neg (by omega), if_neg (by omega)]
  simp [msgOkB, h]

set_option maxHeartbeats 2000000 in
theorem valid0_c (k a b s : Int) (w : World) (hk : ¬ (1 ≤ k ∧ k ≤ 5)) : Calls Try.prog 66 #[.agg #[.int .i64 k, .int .i64 a, .int .i64 b, .int .i64 s]] w fun e w' => e = .returned (.tuple #[.nilIface, .bool false]) ∧ Below w.heap.size w w' := by
  obtain ⟨wa, hwa, B0, sa, x_a⟩ := frame1 w 29 [.int .i64 k, .int .i64 a, .int .i64 b, .int .i64 s]
  have c0 := x_a.cell (i := 0) rfl
  have c1 := x_a.cell (i := 1) rfl
  have c2 := x_a.cell (i := 2) rfl
  have c3 := x_a.cell (i := 3) rfl
  clear sa
  go_enter Try.func66, Try.ntmps66
  go_wp2_with fail
  refine (letterOf0_c _ _ _ _ _ hk).mono ?_
  rintro e w1 ⟨rfl, h1⟩
  go_wp2
  go_ret2
  exact ⟨rfl, B0.trans (h1.mono B0.size)⟩

set_option maxHeartbeats 4000000 in
theorem iMsgOk_c {w : World} {v : Value} {m : MMsg} (h : RV msgL w v m) : Calls Try.prog 67 #[v] w fun e w' => e = .returned (.bool (msgOkB m)) ∧ Below w.heap.size w w' := by
  have h' := h
  obtain rfl := rv_msg h'
  clear h' h
  obtain ⟨k, a, b, s⟩ := m
  obtain ⟨wa, hwa, B0, sa, x_a⟩ := frame1 w 29 [.int .i64 k, .int .i64 a, .int .i64 b, .int .i64 s]
  have c0 := x_a.cell (i := 0) rfl
  have c1 := x_a.cell (i := 1) rfl
  have c2 := x_a.cell (i := 2) rfl
  have c3 := x_a.cell (i := 3) rfl
  clear sa
  by_cases hk : 1 ≤ k ∧ k ≤ 5
  case neg =>
    have HK := Lib.hid hk
    clear hk
    go_enter Try.func67, Try.ntmps67
    go_wp2_with fail
    refine (valid0_c _ _ _ _ _ HK.out).mono ?_
    rintro e w1 ⟨rfl, h1⟩
    go_wp2
    go_ret
    exact ⟨by rw [ok0 _ _ _ _ HK.out]; rfl, B0.trans (h1.mono B0.size)⟩
  have h5 : k = 1 ∨ k = 2 ∨ k = 3 ∨ k = 4 ∨ k = 5 := by omega
  clear hk
  rcases h5 with rfl | rfl | rfl | rfl | rfl
  · by_cases ho : msgOkB ⟨1, a, b, s⟩ = true
    · have HO := Lib.hid ho
      clear ho
      go_enter Try.func67, Try.ntmps67
      go_wp2_with fail
      refine (valid1_c _ _ _ _).mono ?_
      rintro e w1 ⟨rfl, h1⟩
      rw [if_pos HO.out]
      replace x_a := x_a.from_ h1
      have d2 := x_a.cell (i := 2) rfl
      go_wp2
      go_ret
      exact ⟨by rw [HO.out]; rfl, B0.trans (h1.mono B0.size)⟩
    · have ho' : msgOkB ⟨1, a, b, s⟩ = false := by simpa using ho
      have HO := Lib.hid ho'
      clear ho ho'
      go_enter Try.func67, Try.ntmps67
      go_wp2_with fail
      refine (valid1_c _ _ _ _).mono ?_
      rintro e w1 ⟨rfl, h1⟩
      rw [if_neg (by rw [HO.out]; decide)]
      go_wp2
      go_ret
      exact ⟨by rw [HO.out]; rfl, B0.trans (h1.mono B0.size)⟩
  · by_cases ho : msgOkB ⟨2, a, b, s⟩ = true
    · have HO := Lib.hid ho
      clear ho
      go_enter Try.func67, Try.ntmps67
      go_wp2_with fail
      refine (valid2_c _ _ _ _).mono ?_
      rintro e w1 ⟨rfl, h1⟩
      rw [if_pos HO.out]
      replace x_a := x_a.from_ h1
      have d2 := x_a.cell (i := 2) rfl
      go_wp2
      go_ret
      exact ⟨by rw [HO.out]; rfl, B0.trans (h1.mono B0.size)⟩
    · have ho' : msgOkB ⟨2, a, b, s⟩ = false := by simpa using ho
      have HO := Lib.hid ho'
      clear ho ho'
      go_enter Try.func67, Try.ntmps67
      go_wp2_with fail
      refine (valid2_c _ _ _ _).mono ?_
      rintro e w1 ⟨rfl, h1⟩
      rw [if_neg (by rw [HO.out]; decide)]
      go_wp2
      go_ret
      exact ⟨by rw [HO.out]; rfl, B0.trans (h1.mono B0.size)⟩
  · by_cases ho : msgOkB ⟨3, a, b, s⟩ = true
    · have HO := Lib.hid ho
      clear ho
      go_enter Try.func67, Try.ntmps67
      go_wp2_with fail
      refine (valid3_c _ _ _ _).mono ?_
      rintro e w1 ⟨rfl, h1⟩
      rw [if_pos HO.out]
      replace x_a := x_a.from_ h1
      have d2 := x_a.cell (i := 2) rfl
      go_wp2
      go_ret
      exact ⟨by rw [HO.out]; rfl, B0.trans (h1.mono B0.size)⟩
    · have ho' : msgOkB ⟨3, a, b, s⟩ = false := by simpa using ho
      have HO := Lib.hid ho'
      clear ho ho'
      go_enter Try.func67, Try.ntmps67
      go_wp2_with fail
      refine (valid3_c _ _ _ _).mono ?_
      rintro e w1 ⟨rfl, h1⟩
      rw [if_neg (by rw [HO.out]; decide)]
      go_wp2
      go_ret
      exact ⟨by rw [HO.out]; rfl, B0.trans (h1.mono B0.size)⟩
  · by_cases ho : msgOkB ⟨4, a, b, s⟩ = true
    · have HO := Lib.hid ho
      clear ho
      go_enter Try.func67, Try.ntmps67
      go_wp2_with fail
      refine (valid4_c _ _ _ _).mono ?_
      rintro e w1 ⟨rfl, h1⟩
      rw [if_pos HO.out]
      replace x_a := x_a.from_ h1
      have d2 := x_a.cell (i := 2) rfl
      go_wp2
      go_ret
      exact ⟨by rw [HO.out]; rfl, B0.trans (h1.mono B0.size)⟩
    · have ho' : msgOkB ⟨4, a, b, s⟩ = false := by simpa using ho
      have HO := Lib.hid ho'
      clear ho ho'
      go_enter Try.func67, Try.ntmps67
      go_wp2_with fail
      refine (valid4_c _ _ _ _).mono ?_
      rintro e w1 ⟨rfl, h1⟩
      rw [if_neg (by rw [HO.out]; decide)]
      go_wp2
      go_ret
      exact ⟨by rw [HO.out]; rfl, B0.trans (h1.mono B0.size)⟩
  · by_cases ho : msgOkB ⟨5, a, b, s⟩ = true
    · have HO := Lib.hid ho
      clear ho
      go_enter Try.func67, Try.ntmps67
      go_wp2_with fail
      refine (valid5_c _ _ _ _).mono ?_
      rintro e w1 ⟨rfl, h1⟩
      rw [if_pos HO.out]
      replace x_a := x_a.from_ h1
      have d2 := x_a.cell (i := 2) rfl
      go_wp2
      go_ret
      exact ⟨by rw [HO.out]; rfl, B0.trans (h1.mono B0.size)⟩
    · have ho' : msgOkB ⟨5, a, b, s⟩ = false := by simpa using ho
      have HO := Lib.hid ho'
      clear ho ho'
      go_enter Try.func67, Try.ntmps67
      go_wp2_with fail
      refine (valid5_c _ _ _ _).mono ?_
      rintro e w1 ⟨rfl, h1⟩
      rw [if_neg (by rw [HO.out]; decide)]
      go_wp2
      go_ret
      exact ⟨by rw [HO.out]; rfl, B0.trans (h1.mono B0.size)⟩

end Go.Proofs.Ytpaodpkgpajboaa
