/- Texts joined: BunM, RecEq. -/
import Derived.Test.YtkbhbccpmmhelaaDoorZ1
import Derived.Handy
import Derived.Laws.StructEq
namespace Go.Proofs.YtkbhbccpmmhelaaDoor
open Go.RowKit
theorem iNode_any (n : Int) (w : World) : Calls Tryd.prog 33 #[.int .i64 n] w fun e w' => e = .returned (.bool (inB n 0 3)) ∧ w = w' := by
  by_cases h0 : 0 ≤ n
  · by_cases h1 : n < 4
    · rw [inB_true.2 (by omega)]
      have i0 : decide (0 ≤ n) = true := decide_eq_true h0
      have i1 : decide (n < 4) = true := decide_eq_true h1
      go_enter Tryd.func33, Tryd.ntmps33
      go_wp2
      go_ret
      exact ⟨rfl, rfl⟩
    · rw [inB_false.2 (by omega)]
      have i0 : decide (0 ≤ n) = true := decide_eq_true h0
      have i1 : decide (n < 4) = false := decide_eq_false h1
      go_enter Tryd.func33, Tryd.ntmps33
      go_wp2
      go_ret
      exact ⟨rfl, rfl⟩
  · rw [inB_false.2 (by omega)]
    have i1 : decide (0 ≤ n) = false := decide_eq_false h0
    go_enter Tryd.func33, Tryd.ntmps33
    go_wp2
    go_ret
    exact ⟨rfl, rfl⟩
end Go.Proofs.YtkbhbccpmmhelaaDoor
namespace Go.Proofs.YtkbhbccpmmhelaaDoor
open Go.RowKit
set_option linter.unusedVariables false
theorem iAcct_any (n : Int) (w : World) : Calls Tryd.prog 32 #[.int .i64 n] w fun e w' => e = .returned (.bool (inB n 0 2)) ∧ w = w' := by
  by_cases h0 : 0 ≤ n
  · by_cases h1 : n ≤ 2
    · rw [inB_true.2 ⟨h0, h1⟩]
      have i1 : decide (n < 3) = true := decide_eq_true (by omega)
      go_enter Tryd.func32, Tryd.ntmps32
      go_wp2
      go_ret
      exact ⟨rfl, rfl⟩
    · rw [inB_false.2 (by omega)]
      have i1 : decide (n < 3) = false := decide_eq_false (by omega)
      go_enter Tryd.func32, Tryd.ntmps32
      go_wp2
      go_ret
      exact ⟨rfl, rfl⟩
  · rw [inB_false.2 (by omega)]
    have i1 : decide (0 ≤ n) = false := decide_eq_false h0
    go_enter Tryd.func32, Tryd.ntmps32
    go_wp2
    go_ret
    exact ⟨rfl, rfl⟩
set_option maxHeartbeats 1000000 in
theorem fits1_c (k a b s : Int) (w : World) : Calls Tryd.prog 111 #[.agg #[.int .i64 k, .int .i64 a, .int .i64 b, .int .i64 s]] w fun e w' => e = .returned (.bool (amtB b && (s == 0))) ∧ Below w.heap.size w w' := by
  obtain ⟨wa, hwa, B0, sa, x_a⟩ := frame1 w 110 [.int .i64 k, .int .i64 a, .int .i64 b, .int .i64 s]
  have c2 := x_a.cell (i := 2) rfl
  have c3 := x_a.cell (i := 3) rfl
  clear sa
  by_cases h : amtB b = true
  case neg =>
    have h' : amtB b = false := by simpa using h
    have H := Lib.hid h'
    rw [h', Bool.false_and]
    clear h h'
    go_enter Tryd.func111, Tryd.ntmps111
    go_wp2_with fail
    refine (iAmt_any _ _).mono ?_
    rintro e w' ⟨rfl, rfl⟩
    rw [H.out]
    go_wp2
    go_ret
    exact ⟨rfl, B0⟩
  have H := Lib.hid h
  rw [h, Bool.true_and]
  clear h
  obtain ⟨q, hq⟩ : ∃ q, (s == 0) = q := ⟨_, rfl⟩
  rw [hq]
  go_enter Tryd.func111, Tryd.ntmps111
  go_wp2_with fail
  refine (iAmt_any _ _).mono ?_
  rintro e w' ⟨rfl, rfl⟩
  rw [H.out]
  go_wp2
  go_ret
  exact ⟨rfl, B0⟩
set_option maxHeartbeats 1000000 in
theorem letterOf1_c (a b s : Int) (w : World) : Calls Tryd.prog 67 #[.agg #[.int .i64 1, .int .i64 a, .int .i64 b, .int .i64 s]] w fun e w' => e = .returned (.tuple #[.iface 110 (.agg #[.int .i64 1, .int .i64 a, .int .i64 b, .int .i64 s]), .bool true]) ∧ Below w.heap.size w w' := by
  obtain ⟨wa, hwa, B0, sa, x_a⟩ := frame1 w 24 [.int .i64 1, .int .i64 a, .int .i64 b, .int .i64 s]
  have c0 := x_a.cell (i := 0) rfl
  have c1 := x_a.cell (i := 1) rfl
  have c2 := x_a.cell (i := 2) rfl
  have c3 := x_a.cell (i := 3) rfl
  clear sa
  go_enter Tryd.func67, Tryd.ntmps67
  go_wp2
  go_ret2
  exact ⟨rfl, B0⟩
set_option maxHeartbeats 1000000 in
theorem fits2_c (k a b s : Int) (w : World) : Calls Tryd.prog 113 #[.agg #[.int .i64 k, .int .i64 a, .int .i64 b, .int .i64 s]] w fun e w' => e = .returned (.bool (amtB b && inB s 0 2)) ∧ Below w.heap.size w w' := by
  obtain ⟨wa, hwa, B0, sa, x_a⟩ := frame1 w 111 [.int .i64 k, .int .i64 a, .int .i64 b, .int .i64 s]
  have c2 := x_a.cell (i := 2) rfl
  have c3 := x_a.cell (i := 3) rfl
  clear sa
  by_cases h : amtB b = true
  case neg =>
    have h' : amtB b = false := by simpa using h
    have H := Lib.hid h'
    rw [h', Bool.false_and]
    clear h h'
    go_enter Tryd.func113, Tryd.ntmps113
    go_wp2_with fail
    refine (iAmt_any _ _).mono ?_
    rintro e w' ⟨rfl, rfl⟩
    rw [H.out]
    go_wp2
    go_ret
    exact ⟨rfl, B0⟩
  have H := Lib.hid h
  rw [h, Bool.true_and]
  clear h
  go_enter Tryd.func113, Tryd.ntmps113
  go_wp2_with fail
  refine (iAmt_any _ _).mono ?_
  rintro e w' ⟨rfl, rfl⟩
  rw [H.out]
  go_wp2_with fail
  refine (iAcct_any _ _).mono ?_
  rintro e w' ⟨rfl, rfl⟩
  go_wp2
  go_ret
  exact ⟨rfl, B0⟩
set_option maxHeartbeats 1000000 in
theorem letterOf2_c (a b s : Int) (w : World) : Calls Tryd.prog 67 #[.agg #[.int .i64 2, .int .i64 a, .int .i64 b, .int .i64 s]] w fun e w' => e = .returned (.tuple #[.iface 111 (.agg #[.int .i64 2, .int .i64 a, .int .i64 b, .int .i64 s]), .bool true]) ∧ Below w.heap.size w w' := by
  obtain ⟨wa, hwa, B0, sa, x_a⟩ := frame1 w 24 [.int .i64 2, .int .i64 a, .int .i64 b, .int .i64 s]
  have c0 := x_a.cell (i := 0) rfl
  have c1 := x_a.cell (i := 1) rfl
  have c2 := x_a.cell (i := 2) rfl
  have c3 := x_a.cell (i := 3) rfl
  clear sa
  go_enter Tryd.func67, Tryd.ntmps67
  go_wp2
  go_ret2
  exact ⟨rfl, B0⟩
set_option maxHeartbeats 1000000 in
theorem fits3_c (k a b s : Int) (w : World) : Calls Tryd.prog 115 #[.agg #[.int .i64 k, .int .i64 a, .int .i64 b, .int .i64 s]] w fun e w' => e = .returned (.bool (amtB b && (s == 0))) ∧ Below w.heap.size w w' := by
  obtain ⟨wa, hwa, B0, sa, x_a⟩ := frame1 w 112 [.int .i64 k, .int .i64 a, .int .i64 b, .int .i64 s]
  have c2 := x_a.cell (i := 2) rfl
  have c3 := x_a.cell (i := 3) rfl
  clear sa
  by_cases h : amtB b = true
  case neg =>
    have h' : amtB b = false := by simpa using h
    have H := Lib.hid h'
    rw [h', Bool.false_and]
    clear h h'
    go_enter Tryd.func115, Tryd.ntmps115
    go_wp2_with fail
    refine (iAmt_any _ _).mono ?_
    rintro e w' ⟨rfl, rfl⟩
    rw [H.out]
    go_wp2
    go_ret
    exact ⟨rfl, B0⟩
  have H := Lib.hid h
  rw [h, Bool.true_and]
  clear h
  obtain ⟨q, hq⟩ : ∃ q, (s == 0) = q := ⟨_, rfl⟩
  rw [hq]
  go_enter Tryd.func115, Tryd.ntmps115
  go_wp2_with fail
  refine (iAmt_any _ _).mono ?_
  rintro e w' ⟨rfl, rfl⟩
  rw [H.out]
  go_wp2
  go_ret
  exact ⟨rfl, B0⟩
set_option maxHeartbeats 1000000 in
theorem letterOf3_c (a b s : Int) (w : World) : Calls Tryd.prog 67 #[.agg #[.int .i64 3, .int .i64 a, .int .i64 b, .int .i64 s]] w fun e w' => e = .returned (.tuple #[.iface 112 (.agg #[.int .i64 3, .int .i64 a, .int .i64 b, .int .i64 s]), .bool true]) ∧ Below w.heap.size w w' := by
  obtain ⟨wa, hwa, B0, sa, x_a⟩ := frame1 w 24 [.int .i64 3, .int .i64 a, .int .i64 b, .int .i64 s]
  have c0 := x_a.cell (i := 0) rfl
  have c1 := x_a.cell (i := 1) rfl
  have c2 := x_a.cell (i := 2) rfl
  have c3 := x_a.cell (i := 3) rfl
  clear sa
  go_enter Tryd.func67, Tryd.ntmps67
  go_wp2
  go_ret2
  exact ⟨rfl, B0⟩
set_option maxHeartbeats 1000000 in
theorem fits4_c (k a b s : Int) (w : World) : Calls Tryd.prog 117 #[.agg #[.int .i64 k, .int .i64 a, .int .i64 b, .int .i64 s]] w fun e w' => e = .returned (.bool (inB b 0 3 && (s == 0))) ∧ Below w.heap.size w w' := by
  obtain ⟨wa, hwa, B0, sa, x_a⟩ := frame1 w 113 [.int .i64 k, .int .i64 a, .int .i64 b, .int .i64 s]
  have c2 := x_a.cell (i := 2) rfl
  have c3 := x_a.cell (i := 3) rfl
  clear sa
  by_cases h : inB b 0 3 = true
  case neg =>
    have h' : inB b 0 3 = false := by simpa using h
    have H := Lib.hid h'
    rw [h', Bool.false_and]
    clear h h'
    go_enter Tryd.func117, Tryd.ntmps117
    go_wp2_with fail
    refine (iNode_any _ _).mono ?_
    rintro e w' ⟨rfl, rfl⟩
    rw [H.out]
    go_wp2
    go_ret
    exact ⟨rfl, B0⟩
  have H := Lib.hid h
  rw [h, Bool.true_and]
  clear h
  obtain ⟨q, hq⟩ : ∃ q, (s == 0) = q := ⟨_, rfl⟩
  rw [hq]
  go_enter Tryd.func117, Tryd.ntmps117
  go_wp2_with fail
  refine (iNode_any _ _).mono ?_
  rintro e w' ⟨rfl, rfl⟩
  rw [H.out]
  go_wp2
  go_ret
  exact ⟨rfl, B0⟩
set_option maxHeartbeats 1000000 in
theorem letterOf4_c (a b s : Int) (w : World) : Calls Tryd.prog 67 #[.agg #[.int .i64 4, .int .i64 a, .int .i64 b, .int .i64 s]] w fun e w' => e = .returned (.tuple #[.iface 113 (.agg #[.int .i64 4, .int .i64 a, .int .i64 b, .int .i64 s]), .bool true]) ∧ Below w.heap.size w w' := by
  obtain ⟨wa, hwa, B0, sa, x_a⟩ := frame1 w 24 [.int .i64 4, .int .i64 a, .int .i64 b, .int .i64 s]
  have c0 := x_a.cell (i := 0) rfl
  have c1 := x_a.cell (i := 1) rfl
  have c2 := x_a.cell (i := 2) rfl
  have c3 := x_a.cell (i := 3) rfl
  clear sa
  go_enter Tryd.func67, Tryd.ntmps67
  go_wp2
  go_ret2
  exact ⟨rfl, B0⟩
set_option maxHeartbeats 1000000 in
theorem fits5_c (k a b s : Int) (w : World) : Calls Tryd.prog 119 #[.agg #[.int .i64 k, .int .i64 a, .int .i64 b, .int .i64 s]] w fun e w' => e = .returned (.bool (numB b && (s == 0))) ∧ Below w.heap.size w w' := by
  obtain ⟨wa, hwa, B0, sa, x_a⟩ := frame1 w 114 [.int .i64 k, .int .i64 a, .int .i64 b, .int .i64 s]
  have c2 := x_a.cell (i := 2) rfl
  have c3 := x_a.cell (i := 3) rfl
  clear sa
  by_cases h : numB b = true
  case neg =>
    have h' : numB b = false := by simpa using h
    have H := Lib.hid h'
    rw [h', Bool.false_and]
    clear h h'
    go_enter Tryd.func119, Tryd.ntmps119
    go_wp2_with fail
    refine (iNum_any _ _).mono ?_
    rintro e w' ⟨rfl, rfl⟩
    rw [H.out]
    go_wp2
    go_ret
    exact ⟨rfl, B0⟩
  have H := Lib.hid h
  rw [h, Bool.true_and]
  clear h
  obtain ⟨q, hq⟩ : ∃ q, (s == 0) = q := ⟨_, rfl⟩
  rw [hq]
  go_enter Tryd.func119, Tryd.ntmps119
  go_wp2_with fail
  refine (iNum_any _ _).mono ?_
  rintro e w' ⟨rfl, rfl⟩
  rw [H.out]
  go_wp2
  go_ret
  exact ⟨rfl, B0⟩
set_option maxHeartbeats 1000000 in
theorem letterOf5_c (a b s : Int) (w : World) : Calls Tryd.prog 67 #[.agg #[.int .i64 5, .int .i64 a, .int .i64 b, .int .i64 s]] w fun e w' => e = .returned (.tuple #[.iface 114 (.agg #[.int .i64 5, .int .i64 a, .int .i64 b, .int .i64 s]), .bool true]) ∧ Below w.heap.size w w' := by
  obtain ⟨wa, hwa, B0, sa, x_a⟩ := frame1 w 24 [.int .i64 5, .int .i64 a, .int .i64 b, .int .i64 s]
  have c0 := x_a.cell (i := 0) rfl
  have c1 := x_a.cell (i := 1) rfl
  have c2 := x_a.cell (i := 2) rfl
  have c3 := x_a.cell (i := 3) rfl
  clear sa
  go_enter Tryd.func67, Tryd.ntmps67
  go_wp2
  go_ret2
  exact ⟨rfl, B0⟩
set_option maxHeartbeats 1000000 in
theorem letterOf0_c (k a b s : Int) (w : World) (hk : ¬ (1 ≤ k ∧ k ≤ 5)) : Calls Tryd.prog 67 #[.agg #[.int .i64 k, .int .i64 a, .int .i64 b, .int .i64 s]] w fun e w' => e = .returned (.tuple #[.nilIface, .bool false]) ∧ Below w.heap.size w w' := by
  obtain ⟨wa, hwa, B0, sa, x_a⟩ := frame1 w 24 [.int .i64 k, .int .i64 a, .int .i64 b, .int .i64 s]
  have c0 := x_a.cell (i := 0) rfl
  clear sa
  have k1 : (k == 1) = false := by simp; omega
  have k2 : (k == 2) = false := by simp; omega
  have k3 : (k == 3) = false := by simp; omega
  have k4 : (k == 4) = false := by simp; omega
  have k5 : (k == 5) = false := by simp; omega
  clear hk
  go_enter Tryd.func67, Tryd.ntmps67
  go_wp2
  go_ret2
  exact ⟨rfl, B0⟩
theorem ok1 (a b s : Int) : msgOkB ⟨1, a, b, s⟩ = (inB a 0 2 && (amtB b && (s == 0))) := by
  simp only [msgOkB, amtOkB]
  generalize inB a 0 2 = p
  by_cases hs : s = 0
  · subst hs
    have h0 : inB 0 0 2 = true := by decide
    rw [h0]
    simp
  · have h1 : (s == 0) = false := by simpa using hs
    rw [h1]
    cases inB s 0 2 <;> cases p <;> simp
set_option maxHeartbeats 2000000 in
theorem valid1_c (a b s : Int) (w : World) : Calls Tryd.prog 40 #[.agg #[.int .i64 1, .int .i64 a, .int .i64 b, .int .i64 s]] w fun e w' => e = .returned (if msgOkB ⟨1, a, b, s⟩ then .tuple #[.iface 110 (.agg #[.int .i64 1, .int .i64 a, .int .i64 b, .int .i64 s]), .bool true] else .tuple #[.nilIface, .bool false]) ∧ Below w.heap.size w w' := by
  rw [ok1]
  obtain ⟨wa, hwa, B0, sa, x_a⟩ := frame1 w 24 [.int .i64 1, .int .i64 a, .int .i64 b, .int .i64 s]
  have c0 := x_a.cell (i := 0) rfl
  have c1 := x_a.cell (i := 1) rfl
  have c2 := x_a.cell (i := 2) rfl
  have c3 := x_a.cell (i := 3) rfl
  clear sa
  by_cases h : inB a 0 2 = true
  case neg =>
    have h' : inB a 0 2 = false := by simpa using h
    have H := Lib.hid h'
    rw [h', Bool.false_and]
    clear h h'
    go_enter Tryd.func40, Tryd.ntmps40
    go_wp2_with fail
    refine (letterOf1_c _ _ _ _).mono ?_
    rintro e w1 ⟨rfl, h1⟩
    replace x_a := x_a.from_ h1
    have d1 := x_a.cell (i := 1) rfl
    go_wp2_with fail
    refine (iAcct_any _ _).mono ?_
    rintro e w' ⟨rfl, rfl⟩
    rw [H.out]
    go_wp2
    go_ret2
    exact ⟨rfl, B0.trans (h1.mono B0.size)⟩
  have H := Lib.hid h
  rw [h, Bool.true_and]
  clear h
  by_cases hf : (amtB b && (s == 0)) = true
  · have HF := Lib.hid hf
    rw [if_pos hf]
    clear hf
    go_enter Tryd.func40, Tryd.ntmps40
    go_wp2_with fail
    refine (letterOf1_c _ _ _ _).mono ?_
    rintro e w1 ⟨rfl, h1⟩
    replace x_a := x_a.from_ h1
    have d1 := x_a.cell (i := 1) rfl
    go_wp2_with fail
    refine (iAcct_any _ _).mono ?_
    rintro e w' ⟨rfl, rfl⟩
    rw [H.out]
    go_wp2_with fail
    refine (fits1_c _ _ _ _ _).mono ?_
    rintro e w2 ⟨rfl, h2⟩
    rw [HF.out]
    have B1 := B0.trans (h1.mono B0.size)
    go_wp2
    go_ret2
    exact ⟨rfl, B1.trans (h2.mono B1.size)⟩
  · have hf' : (amtB b && (s == 0)) = false := by simpa only [Bool.not_eq_true] using hf
    have HF := Lib.hid hf'
    rw [if_neg hf]
    clear hf hf'
    go_enter Tryd.func40, Tryd.ntmps40
    go_wp2_with fail
    refine (letterOf1_c _ _ _ _).mono ?_
    rintro e w1 ⟨rfl, h1⟩
    replace x_a := x_a.from_ h1
    have d1 := x_a.cell (i := 1) rfl
    go_wp2_with fail
    refine (iAcct_any _ _).mono ?_
    rintro e w' ⟨rfl, rfl⟩
    rw [H.out]
    go_wp2_with fail
    refine (fits1_c _ _ _ _ _).mono ?_
    rintro e w2 ⟨rfl, h2⟩
    rw [HF.out]
    have B1 := B0.trans (h1.mono B0.size)
    go_wp2
    go_ret2
    exact ⟨rfl, B1.trans (h2.mono B1.size)⟩
theorem ok2 (a b s : Int) : msgOkB ⟨2, a, b, s⟩ = (inB a 0 2 && (amtB b && inB s 0 2)) := by
  simp only [msgOkB, amtOkB]
  generalize inB a 0 2 = p
  by_cases hs : s = 0
  · subst hs
    have h0 : inB 0 0 2 = true := by decide
    rw [h0]
    simp
  · have h1 : (s == 0) = false := by simpa using hs
    rw [h1]
    cases inB s 0 2 <;> cases p <;> simp
set_option maxHeartbeats 2000000 in
theorem valid2_c (a b s : Int) (w : World) : Calls Tryd.prog 40 #[.agg #[.int .i64 2, .int .i64 a, .int .i64 b, .int .i64 s]] w fun e w' => e = .returned (if msgOkB ⟨2, a, b, s⟩ then .tuple #[.iface 111 (.agg #[.int .i64 2, .int .i64 a, .int .i64 b, .int .i64 s]), .bool true] else .tuple #[.nilIface, .bool false]) ∧ Below w.heap.size w w' := by
  rw [ok2]
  obtain ⟨wa, hwa, B0, sa, x_a⟩ := frame1 w 24 [.int .i64 2, .int .i64 a, .int .i64 b, .int .i64 s]
  have c0 := x_a.cell (i := 0) rfl
  have c1 := x_a.cell (i := 1) rfl
  have c2 := x_a.cell (i := 2) rfl
  have c3 := x_a.cell (i := 3) rfl
  clear sa
  by_cases h : inB a 0 2 = true
  case neg =>
    have h' : inB a 0 2 = false := by simpa using h
    have H := Lib.hid h'
    rw [h', Bool.false_and]
    clear h h'
    go_enter Tryd.func40, Tryd.ntmps40
    go_wp2_with fail
    refine (letterOf2_c _ _ _ _).mono ?_
    rintro e w1 ⟨rfl, h1⟩
    replace x_a := x_a.from_ h1
    have d1 := x_a.cell (i := 1) rfl
    go_wp2_with fail
    refine (iAcct_any _ _).mono ?_
    rintro e w' ⟨rfl, rfl⟩
    rw [H.out]
    go_wp2
    go_ret2
    exact ⟨rfl, B0.trans (h1.mono B0.size)⟩
  have H := Lib.hid h
  rw [h, Bool.true_and]
  clear h
  by_cases hf : (amtB b && inB s 0 2) = true
  · have HF := Lib.hid hf
    rw [if_pos hf]
    clear hf
    go_enter Tryd.func40, Tryd.ntmps40
    go_wp2_with fail
    refine (letterOf2_c _ _ _ _).mono ?_
    rintro e w1 ⟨rfl, h1⟩
    replace x_a := x_a.from_ h1
    have d1 := x_a.cell (i := 1) rfl
    go_wp2_with fail
    refine (iAcct_any _ _).mono ?_
    rintro e w' ⟨rfl, rfl⟩
    rw [H.out]
    go_wp2_with fail
    refine (fits2_c _ _ _ _ _).mono ?_
    rintro e w2 ⟨rfl, h2⟩
    rw [HF.out]
    have B1 := B0.trans (h1.mono B0.size)
    go_wp2
    go_ret2
    exact ⟨rfl, B1.trans (h2.mono B1.size)⟩
  · have hf' : (amtB b && inB s 0 2) = false := by simpa only [Bool.not_eq_true] using hf
    have HF := Lib.hid hf'
    rw [if_neg hf]
    clear hf hf'
    go_enter Tryd.func40, Tryd.ntmps40
    go_wp2_with fail
    refine (letterOf2_c _ _ _ _).mono ?_
    rintro e w1 ⟨rfl, h1⟩
    replace x_a := x_a.from_ h1
    have d1 := x_a.cell (i := 1) rfl
    go_wp2_with fail
    refine (iAcct_any _ _).mono ?_
    rintro e w' ⟨rfl, rfl⟩
    rw [H.out]
    go_wp2_with fail
    refine (fits2_c _ _ _ _ _).mono ?_
    rintro e w2 ⟨rfl, h2⟩
    rw [HF.out]
    have B1 := B0.trans (h1.mono B0.size)
    go_wp2
    go_ret2
    exact ⟨rfl, B1.trans (h2.mono B1.size)⟩
theorem ok3 (a b s : Int) : msgOkB ⟨3, a, b, s⟩ = (inB a 0 2 && (amtB b && (s == 0))) := by
  simp only [msgOkB, amtOkB]
  generalize inB a 0 2 = p
  by_cases hs : s = 0
  · subst hs
    have h0 : inB 0 0 2 = true := by decide
    rw [h0]
    simp
  · have h1 : (s == 0) = false := by simpa using hs
    rw [h1]
    cases inB s 0 2 <;> cases p <;> simp
set_option maxHeartbeats 2000000 in
theorem valid3_c (a b s : Int) (w : World) : Calls Tryd.prog 40 #[.agg #[.int .i64 3, .int .i64 a, .int .i64 b, .int .i64 s]] w fun e w' => e = .returned (if msgOkB ⟨3, a, b, s⟩ then .tuple #[.iface 112 (.agg #[.int .i64 3, .int .i64 a, .int .i64 b, .int .i64 s]), .bool true] else .tuple #[.nilIface, .bool false]) ∧ Below w.heap.size w w' := by
  rw [ok3]
  obtain ⟨wa, hwa, B0, sa, x_a⟩ := frame1 w 24 [.int .i64 3, .int .i64 a, .int .i64 b, .int .i64 s]
  have c0 := x_a.cell (i := 0) rfl
  have c1 := x_a.cell (i := 1) rfl
  have c2 := x_a.cell (i := 2) rfl
  have c3 := x_a.cell (i := 3) rfl
  clear sa
  by_cases h : inB a 0 2 = true
  case neg =>
    have h' : inB a 0 2 = false := by simpa using h
    have H := Lib.hid h'
    rw [h', Bool.false_and]
    clear h h'
    go_enter Tryd.func40, Tryd.ntmps40
    go_wp2_with fail
    refine (letterOf3_c _ _ _ _).mono ?_
    rintro e w1 ⟨rfl, h1⟩
    replace x_a := x_a.from_ h1
    have d1 := x_a.cell (i := 1) rfl
    go_wp2_with fail
    refine (iAcct_any _ _).mono ?_
    rintro e w' ⟨rfl, rfl⟩
    rw [H.out]
    go_wp2
    go_ret2
    exact ⟨rfl, B0.trans (h1.mono B0.size)⟩
  have H := Lib.hid h
  rw [h, Bool.true_and]
  clear h
  by_cases hf : (amtB b && (s == 0)) = true
  · have HF := Lib.hid hf
    rw [if_pos hf]
    clear hf
    go_enter Tryd.func40, Tryd.ntmps40
    go_wp2_with fail
    refine (letterOf3_c _ _ _ _).mono ?_
    rintro e w1 ⟨rfl, h1⟩
    replace x_a := x_a.from_ h1
    have d1 := x_a.cell (i := 1) rfl
    go_wp2_with fail
    refine (iAcct_any _ _).mono ?_
    rintro e w' ⟨rfl, rfl⟩
    rw [H.out]
    go_wp2_with fail
    refine (fits3_c _ _ _ _ _).mono ?_
    rintro e w2 ⟨rfl, h2⟩
    rw [HF.out]
    have B1 := B0.trans (h1.mono B0.size)
    go_wp2
    go_ret2
    exact ⟨rfl, B1.trans (h2.mono B1.size)⟩
  · have hf' : (amtB b && (s == 0)) = false := by simpa only [Bool.not_eq_true] using hf
    have HF := Lib.hid hf'
    rw [if_neg hf]
    clear hf hf'
    go_enter Tryd.func40, Tryd.ntmps40
    go_wp2_with fail
    refine (letterOf3_c _ _ _ _).mono ?_
    rintro e w1 ⟨rfl, h1⟩
    replace x_a := x_a.from_ h1
    have d1 := x_a.cell (i := 1) rfl
    go_wp2_with fail
    refine (iAcct_any _ _).mono ?_
    rintro e w' ⟨rfl, rfl⟩
    rw [H.out]
    go_wp2_with fail
    refine (fits3_c _ _ _ _ _).mono ?_
    rintro e w2 ⟨rfl, h2⟩
    rw [HF.out]
    have B1 := B0.trans (h1.mono B0.size)
    go_wp2
    go_ret2
    exact ⟨rfl, B1.trans (h2.mono B1.size)⟩
theorem ok4 (a b s : Int) : msgOkB ⟨4, a, b, s⟩ = (inB a 0 2 && (inB b 0 3 && (s == 0))) := by
  simp only [msgOkB, amtOkB]
  generalize inB a 0 2 = p
  by_cases hs : s = 0
  · subst hs
    have h0 : inB 0 0 2 = true := by decide
    rw [h0]
    simp
  · have h1 : (s == 0) = false := by simpa using hs
    rw [h1]
    cases inB s 0 2 <;> cases p <;> simp
set_option maxHeartbeats 2000000 in
theorem valid4_c (a b s : Int) (w : World) : Calls Tryd.prog 40 #[.agg #[.int .i64 4, .int .i64 a, .int .i64 b, .int .i64 s]] w fun e w' => e = .returned (if msgOkB ⟨4, a, b, s⟩ then .tuple #[.iface 113 (.agg #[.int .i64 4, .int .i64 a, .int .i64 b, .int .i64 s]), .bool true] else .tuple #[.nilIface, .bool false]) ∧ Below w.heap.size w w' := by
  rw [ok4]
  obtain ⟨wa, hwa, B0, sa, x_a⟩ := frame1 w 24 [.int .i64 4, .int .i64 a, .int .i64 b, .int .i64 s]
  have c0 := x_a.cell (i := 0) rfl
  have c1 := x_a.cell (i := 1) rfl
  have c2 := x_a.cell (i := 2) rfl
  have c3 := x_a.cell (i := 3) rfl
  clear sa
  by_cases h : inB a 0 2 = true
  case neg =>
    have h' : inB a 0 2 = false := by simpa using h
    have H := Lib.hid h'
    rw [h', Bool.false_and]
    clear h h'
    go_enter Tryd.func40, Tryd.ntmps40
    go_wp2_with fail
    refine (letterOf4_c _ _ _ _).mono ?_
    rintro e w1 ⟨rfl, h1⟩
    replace x_a := x_a.from_ h1
    have d1 := x_a.cell (i := 1) rfl
    go_wp2_with fail
    refine (iAcct_any _ _).mono ?_
    rintro e w' ⟨rfl, rfl⟩
    rw [H.out]
    go_wp2
    go_ret2
    exact ⟨rfl, B0.trans (h1.mono B0.size)⟩
  have H := Lib.hid h
  rw [h, Bool.true_and]
  clear h
  by_cases hf : (inB b 0 3 && (s == 0)) = true
  · have HF := Lib.hid hf
    rw [if_pos hf]
    clear hf
    go_enter Tryd.func40, Tryd.ntmps40
    go_wp2_with fail
    refine (letterOf4_c _ _ _ _).mono ?_
    rintro e w1 ⟨rfl, h1⟩
    replace x_a := x_a.from_ h1
    have d1 := x_a.cell (i := 1) rfl
    go_wp2_with fail
    refine (iAcct_any _ _).mono ?_
    rintro e w' ⟨rfl, rfl⟩
    rw [H.out]
    go_wp2_with fail
    refine (fits4_c _ _ _ _ _).mono ?_
    rintro e w2 ⟨rfl, h2⟩
    rw [HF.out]
    have B1 := B0.trans (h1.mono B0.size)
    go_wp2
    go_ret2
    exact ⟨rfl, B1.trans (h2.mono B1.size)⟩
  · have hf' : (inB b 0 3 && (s == 0)) = false := by simpa only [Bool.not_eq_true] using hf
    have HF := Lib.hid hf'
    rw [if_neg hf]
    clear hf hf'
    go_enter Tryd.func40, Tryd.ntmps40
    go_wp2_with fail
    refine (letterOf4_c _ _ _ _).mono ?_
    rintro e w1 ⟨rfl, h1⟩
    replace x_a := x_a.from_ h1
    have d1 := x_a.cell (i := 1) rfl
    go_wp2_with fail
    refine (iAcct_any _ _).mono ?_
    rintro e w' ⟨rfl, rfl⟩
    rw [H.out]
    go_wp2_with fail
    refine (fits4_c _ _ _ _ _).mono ?_
    rintro e w2 ⟨rfl, h2⟩
    rw [HF.out]
    have B1 := B0.trans (h1.mono B0.size)
    go_wp2
    go_ret2
    exact ⟨rfl, B1.trans (h2.mono B1.size)⟩
theorem ok5 (a b s : Int) : msgOkB ⟨5, a, b, s⟩ = (inB a 0 2 && (numB b && (s == 0))) := by
  simp only [msgOkB, amtOkB]
  generalize inB a 0 2 = p
  by_cases hs : s = 0
  · subst hs
    have h0 : inB 0 0 2 = true := by decide
    rw [h0]
    simp
  · have h1 : (s == 0) = false := by simpa using hs
    rw [h1]
    cases inB s 0 2 <;> cases p <;> simp
set_option maxHeartbeats 2000000 in
theorem valid5_c (a b s : Int) (w : World) : Calls Tryd.prog 40 #[.agg #[.int .i64 5, .int .i64 a, .int .i64 b, .int .i64 s]] w fun e w' => e = .returned (if msgOkB ⟨5, a, b, s⟩ then .tuple #[.iface 114 (.agg #[.int .i64 5, .int .i64 a, .int .i64 b, .int .i64 s]), .bool true] else .tuple #[.nilIface, .bool false]) ∧ Below w.heap.size w w' := by
  rw [ok5]
  obtain ⟨wa, hwa, B0, sa, x_a⟩ := frame1 w 24 [.int .i64 5, .int .i64 a, .int .i64 b, .int .i64 s]
  have c0 := x_a.cell (i := 0) rfl
  have c1 := x_a.cell (i := 1) rfl
  have c2 := x_a.cell (i := 2) rfl
  have c3 := x_a.cell (i := 3) rfl
  clear sa
  by_cases h : inB a 0 2 = true
  case neg =>
    have h' : inB a 0 2 = false := by simpa using h
    have H := Lib.hid h'
    rw [h', Bool.false_and]
    clear h h'
    go_enter Tryd.func40, Tryd.ntmps40
    go_wp2_with fail
    refine (letterOf5_c _ _ _ _).mono ?_
    rintro e w1 ⟨rfl, h1⟩
    replace x_a := x_a.from_ h1
    have d1 := x_a.cell (i := 1) rfl
    go_wp2_with fail
    refine (iAcct_any _ _).mono ?_
    rintro e w' ⟨rfl, rfl⟩
    rw [H.out]
    go_wp2
    go_ret2
    exact ⟨rfl, B0.trans (h1.mono B0.size)⟩
  have H := Lib.hid h
  rw [h, Bool.true_and]
  clear h
  by_cases hf : (numB b && (s == 0)) = true
  · have HF := Lib.hid hf
    rw [if_pos hf]
    clear hf
    go_enter Tryd.func40, Tryd.ntmps40
    go_wp2_with fail
    refine (letterOf5_c _ _ _ _).mono ?_
    rintro e w1 ⟨rfl, h1⟩
    replace x_a := x_a.from_ h1
    have d1 := x_a.cell (i := 1) rfl
    go_wp2_with fail
    refine (iAcct_any _ _).mono ?_
    rintro e w' ⟨rfl, rfl⟩
    rw [H.out]
    go_wp2_with fail
    refine (fits5_c _ _ _ _ _).mono ?_
    rintro e w2 ⟨rfl, h2⟩
    rw [HF.out]
    have B1 := B0.trans (h1.mono B0.size)
    go_wp2
    go_ret2
    exact ⟨rfl, B1.trans (h2.mono B1.size)⟩
  · have hf' : (numB b && (s == 0)) = false := by simpa only [Bool.not_eq_true] using hf
    have HF := Lib.hid hf'
    rw [if_neg hf]
    clear hf hf'
    go_enter Tryd.func40, Tryd.ntmps40
    go_wp2_with fail
    refine (letterOf5_c _ _ _ _).mono ?_
    rintro e w1 ⟨rfl, h1⟩
    replace x_a := x_a.from_ h1
    have d1 := x_a.cell (i := 1) rfl
    go_wp2_with fail
    refine (iAcct_any _ _).mono ?_
    rintro e w' ⟨rfl, rfl⟩
    rw [H.out]
    go_wp2_with fail
    refine (fits5_c _ _ _ _ _).mono ?_
    rintro e w2 ⟨rfl, h2⟩
    rw [HF.out]
    have B1 := B0.trans (h1.mono B0.size)
    go_wp2
    go_ret2
    exact ⟨rfl, B1.trans (h2.mono B1.size)⟩
theorem ok0 (k a b s : Int) (hk : ¬ (1 ≤ k ∧ k ≤ 5)) : msgOkB ⟨k, a, b, s⟩ = false := by
  have h : amtOkB k b = false := by unfold amtOkB; rw [if_neg (by omega), if_neg (by omega), if_neg (by omega)]
  simp [msgOkB, h]
set_option maxHeartbeats 2000000 in
theorem valid0_c (k a b s : Int) (w : World) (hk : ¬ (1 ≤ k ∧ k ≤ 5)) : Calls Tryd.prog 40 #[.agg #[.int .i64 k, .int .i64 a, .int .i64 b, .int .i64 s]] w fun e w' => e = .returned (.tuple #[.nilIface, .bool false]) ∧ Below w.heap.size w w' := by
  obtain ⟨wa, hwa, B0, sa, x_a⟩ := frame1 w 24 [.int .i64 k, .int .i64 a, .int .i64 b, .int .i64 s]
  have c0 := x_a.cell (i := 0) rfl
  have c1 := x_a.cell (i := 1) rfl
  have c2 := x_a.cell (i := 2) rfl
  have c3 := x_a.cell (i := 3) rfl
  clear sa
  go_enter Tryd.func40, Tryd.ntmps40
  go_wp2_with fail
  refine (letterOf0_c _ _ _ _ _ hk).mono ?_
  rintro e w1 ⟨rfl, h1⟩
  go_wp2
  go_ret2
  exact ⟨rfl, B0.trans (h1.mono B0.size)⟩
set_option maxHeartbeats 4000000 in
theorem iMsgOk_c {w : World} {v : Value} {m : MMsg} (h : RV msgL w v m) : Calls Tryd.prog 39 #[v] w fun e w' => e = .returned (.bool (msgOkB m)) ∧ Below w.heap.size w w' := by
  have h' := h
  obtain rfl := rv_msg h'
  clear h' h
  obtain ⟨k, a, b, s⟩ := m
  obtain ⟨wa, hwa, B0, sa, x_a⟩ := frame1 w 24 [.int .i64 k, .int .i64 a, .int .i64 b, .int .i64 s]
  have c0 := x_a.cell (i := 0) rfl
  have c1 := x_a.cell (i := 1) rfl
  have c2 := x_a.cell (i := 2) rfl
  have c3 := x_a.cell (i := 3) rfl
  clear sa
  by_cases hk : 1 ≤ k ∧ k ≤ 5
  case neg =>
    have HK := Lib.hid hk
    clear hk
    go_enter Tryd.func39, Tryd.ntmps39
    go_wp2_with fail
    refine (valid0_c _ _ _ _ _ HK.out).mono ?_
    rintro e w1 ⟨rfl, h1⟩
    go_wp2
    go_ret
    exact ⟨by rw [ok0 _ _ _ _ HK.out]; rfl, B0.trans (h1.mono B0.size)⟩
  have h5 : k = 1 ∨ k = 2 ∨ k = 3 ∨ k = 4 ∨ k = 5 := by omega
  clear hk
  rcases h5 with rfl | rfl | rfl | rfl | rfl
  · by_cases ho : msgOkB ⟨1, a, b, s⟩ = true
    · have HO := Lib.hid ho
      clear ho
      go_enter Tryd.func39, Tryd.ntmps39
      go_wp2_with fail
      refine (valid1_c _ _ _ _).mono ?_
      rintro e w1 ⟨rfl, h1⟩
      rw [if_pos HO.out]
      replace x_a := x_a.from_ h1
      have d2 := x_a.cell (i := 2) rfl
      go_wp2
      go_ret
      exact ⟨by rw [HO.out]; rfl, B0.trans (h1.mono B0.size)⟩
    · have ho' : msgOkB ⟨1, a, b, s⟩ = false := by simpa using ho
      have HO := Lib.hid ho'
      clear ho ho'
      go_enter Tryd.func39, Tryd.ntmps39
      go_wp2_with fail
      refine (valid1_c _ _ _ _).mono ?_
      rintro e w1 ⟨rfl, h1⟩
      rw [if_neg (by rw [HO.out]; decide)]
      go_wp2
      go_ret
      exact ⟨by rw [HO.out]; rfl, B0.trans (h1.mono B0.size)⟩
  · by_cases ho : msgOkB ⟨2, a, b, s⟩ = true
    · have HO := Lib.hid ho
      clear ho
      go_enter Tryd.func39, Tryd.ntmps39
      go_wp2_with fail
      refine (valid2_c _ _ _ _).mono ?_
      rintro e w1 ⟨rfl, h1⟩
      rw [if_pos HO.out]
      replace x_a := x_a.from_ h1
      have d2 := x_a.cell (i := 2) rfl
      go_wp2
      go_ret
      exact ⟨by rw [HO.out]; rfl, B0.trans (h1.mono B0.size)⟩
    · have ho' : msgOkB ⟨2, a, b, s⟩ = false := by simpa using ho
      have HO := Lib.hid ho'
      clear ho ho'
      go_enter Tryd.func39, Tryd.ntmps39
      go_wp2_with fail
      refine (valid2_c _ _ _ _).mono ?_
      rintro e w1 ⟨rfl, h1⟩
      rw [if_neg (by rw [HO.out]; decide)]
      go_wp2
      go_ret
      exact ⟨by rw [HO.out]; rfl, B0.trans (h1.mono B0.size)⟩
  · by_cases ho : msgOkB ⟨3, a, b, s⟩ = true
    · have HO := Lib.hid ho
      clear ho
      go_enter Tryd.func39, Tryd.ntmps39
      go_wp2_with fail
      refine (valid3_c _ _ _ _).mono ?_
      rintro e w1 ⟨rfl, h1⟩
      rw [if_pos HO.out]
      replace x_a := x_a.from_ h1
      have d2 := x_a.cell (i := 2) rfl
      go_wp2
      go_ret
      exact ⟨by rw [HO.out]; rfl, B0.trans (h1.mono B0.size)⟩
    · have ho' : msgOkB ⟨3, a, b, s⟩ = false := by simpa using ho
      have HO := Lib.hid ho'
      clear ho ho'
      go_enter Tryd.func39, Tryd.ntmps39
      go_wp2_with fail
      refine (valid3_c _ _ _ _).mono ?_
      rintro e w1 ⟨rfl, h1⟩
      rw [if_neg (by rw [HO.out]; decide)]
      go_wp2
      go_ret
      exact ⟨by rw [HO.out]; rfl, B0.trans (h1.mono B0.size)⟩
  · by_cases ho : msgOkB ⟨4, a, b, s⟩ = true
    · have HO := Lib.hid ho
      clear ho
      go_enter Tryd.func39, Tryd.ntmps39
      go_wp2_with fail
      refine (valid4_c _ _ _ _).mono ?_
      rintro e w1 ⟨rfl, h1⟩
      rw [if_pos HO.out]
      replace x_a := x_a.from_ h1
      have d2 := x_a.cell (i := 2) rfl
      go_wp2
      go_ret
      exact ⟨by rw [HO.out]; rfl, B0.trans (h1.mono B0.size)⟩
    · have ho' : msgOkB ⟨4, a, b, s⟩ = false := by simpa using ho
      have HO := Lib.hid ho'
      clear ho ho'
      go_enter Tryd.func39, Tryd.ntmps39
      go_wp2_with fail
      refine (valid4_c _ _ _ _).mono ?_
      rintro e w1 ⟨rfl, h1⟩
      rw [if_neg (by rw [HO.out]; decide)]
      go_wp2
      go_ret
      exact ⟨by rw [HO.out]; rfl, B0.trans (h1.mono B0.size)⟩
  · by_cases ho : msgOkB ⟨5, a, b, s⟩ = true
    · have HO := Lib.hid ho
      clear ho
      go_enter Tryd.func39, Tryd.ntmps39
      go_wp2_with fail
      refine (valid5_c _ _ _ _).mono ?_
      rintro e w1 ⟨rfl, h1⟩
      rw [if_pos HO.out]
      replace x_a := x_a.from_ h1
      have d2 := x_a.cell (i := 2) rfl
      go_wp2
      go_ret
      exact ⟨by rw [HO.out]; rfl, B0.trans (h1.mono B0.size)⟩
    · have ho' : msgOkB ⟨5, a, b, s⟩ = false := by simpa using ho
      have HO := Lib.hid ho'
      clear ho ho'
      go_enter Tryd.func39, Tryd.ntmps39
      go_wp2_with fail
      refine (valid5_c _ _ _ _).mono ?_
      rintro e w1 ⟨rfl, h1⟩
      rw [if_neg (by rw [HO.out]; decide)]
      go_wp2
      go_ret
      exact ⟨by rw [HO.out]; rfl, B0.trans (h1.mono B0.size)⟩
end Go.Proofs.YtkbhbccpmmhelaaDoor
namespace Go.Proofs.YtkbhbccpmmhelaaDoor
open Go.RowKit
set_option linter.unusedVariables false
theorem rd_vr {w : World} {b : Nat} {t : TypeId} {k : IntKind} {zs : List Int} (h : Vr w b t (zs.map (Value.int k))) : Rd k w w.heap.size (some ⟨b, 0, none⟩) zs := fun _ =>
  ⟨b, 0, rfl, h.lt, fun j hj => by
    rw [Nat.zero_add]
    refine h.cell (i := j) ?_
    rw [List.getElem?_map, List.getElem?_eq_getElem hj]
    simp [List.getD, List.getElem?_eq_getElem hj]⟩
set_option maxRecDepth 100000 in
set_option maxHeartbeats 4000000 in
theorem iMsgPut_c {w : World} {v v' : Value} {zs : List Int} {m : MMsg} (h : RS .u8 w v zs) (h' : RV msgL w v' m) (hm : zs.length ≤ 1073741000) :
    Calls Tryd.prog 14 #[v, v'] w (NewSB w (msgPut zs m) (msgOkB m)) := by
  have h0 := h
  obtain ⟨A, c, rfl, p1, p2, hr⟩ := h0
  have h1 := h'
  obtain rfl := rv_msg h1
  clear h1
  obtain ⟨wa, hwa, B0, sa, x_a⟩ := frame1 w 24 [.int .i64 m.Kind, .int .i64 m.Acct, .int .i64 m.Amt, .int .i64 m.Src]
  have sa_1 := Nat.le_of_eq sa
  have sa_2 := Nat.le_of_eq sa.symm
  clear sa
  have c_a_0_wa := x_a.cell (i := 0) rfl
  have c_a_1_wa := x_a.cell (i := 1) rfl
  have c_a_2_wa := x_a.cell (i := 2) rfl
  have c_a_3_wa := x_a.cell (i := 3) rfl
  by_cases ho : msgOkB m = true
  case neg =>
    have ho' : msgOkB m = false := by simpa using ho
    have HO := Lib.hid ho'
    have HP : Hid (msgPut zs m = []) := by show _ = _; unfold msgPut; rw [if_neg ho]
    clear ho ho'
    go_enter Tryd.func14, Tryd.ntmps14
    go_wp2_with fail
    refine (iMsgOk_c (h'.from_ B0)).mono ?_
    rintro e w1 ⟨rfl, h_w1⟩
    clear c_a_0_wa c_a_1_wa c_a_2_wa c_a_3_wa
    replace x_a := x_a.from_ h_w1
    have B_w1 := B0.trans (h_w1.mono B0.size)
    have s_w1 := h_w1.size
    rw [HO.out]
    go_wp2
    go_ret2
    exact ⟨_, by rw [HO.out]; rfl, by rw [HP.out]; exact os_none _ _, B_w1⟩
  have hall := msgNums_ok ho
  have HP : Hid (msgPut zs m = putsL zs [m.Kind, m.Acct, m.Amt, m.Src]) := by show _ = _; unfold msgPut putsL; rw [if_pos ho, if_pos (show [m.Kind, m.Acct, m.Amt, m.Src].all numB = true from hall)]; rfl
  have HA : Hid ([m.Kind, m.Acct, m.Amt, m.Src].all numB = true) := hall
  have HO := Lib.hid ho
  clear ho hall
  go_enter Tryd.func14, Tryd.ntmps14
  go_wp2_with fail
  refine (iMsgOk_c (h'.from_ B0)).mono ?_
  rintro e w1 ⟨rfl, h_w1⟩
  clear c_a_0_wa c_a_1_wa c_a_2_wa c_a_3_wa
  replace x_a := x_a.from_ h_w1
  have B_w1 := B0.trans (h_w1.mono B0.size)
  have s_w1 := h_w1.size
  rw [HO.out]
  have c_a_0_w1 := x_a.cell (i := 0) rfl
  have c_a_1_w1 := x_a.cell (i := 1) rfl
  have c_a_2_w1 := x_a.cell (i := 2) rfl
  have c_a_3_w1 := x_a.cell (i := 3) rfl
  obtain ⟨w2, e_w2, s_w2, h_w2, x_l⟩ := alloc_step w1 3 [.int .i64 m.Kind, .int .i64 m.Acct, .int .i64 m.Amt, .int .i64 m.Src]
  have s_w2_1 := Nat.le_of_eq s_w2
  have s_w2_2 := Nat.le_of_eq s_w2.symm
  clear s_w2
  replace x_a := x_a.from_ h_w2
  have B_w2 := B_w1.trans (h_w2.mono B_w1.size)
  have r_l := rd_vr (zs := [m.Kind, m.Acct, m.Amt, m.Src]) x_l
  go_wp2_with fail
  refine (iAppendNums_any A _ c 4 zs [m.Kind, m.Acct, m.Amt, m.Src] _ ((hr.below B_w2).more B_w2.size) r_l (by omega) (by simp)).mono ?_
  rintro e w9 ⟨v9, rfl, o9, h9⟩
  rw [HA.out]
  have B9 := B_w2.trans (h9.mono B_w2.size)
  go_wp2
  go_ret2
  exact ⟨v9, by rw [HO.out]; rfl, by rw [HP.out]; exact OS.mk_ (o9.base_mono B_w2.size), B9⟩
end Go.Proofs.YtkbhbccpmmhelaaDoor
namespace Go.Proofs.YtkbhbccpmmhelaaDoor
open Go.RowKit
set_option linter.unusedVariables false

deriving instance DecidableEq for MRec
theorem rec_held : Tryd.prog.stoodInHeld 26 = false := by kernel_rfl
theorem rec_guard : Tryd.prog.eqGuardType Tryd.prog.depth 26 = false := by kernel_rfl
theorem rec_fields : Tryd.prog.underlying 26 = some (.struct (Tryd.prog.fieldsOf 26)) := by
  unfold Program.fieldsOf; rw [Tryd.underlying26]
theorem eq_rec_run (d : Nat) (W : World) (a b : MRec) : (Op.equalIn (d + 3) 26 (.agg #[.int .i64 a.Kind, .int .i64 a.Acct, .int .i64 a.Other, .int .i64 a.To, .int .i64 a.Amt, .int .i64 a.M.Kind, .int .i64 a.M.Acct, .int .i64 a.M.Amt, .int .i64 a.M.Src]) (.agg #[.int .i64 b.Kind, .int .i64 b.Acct, .int .i64 b.Other, .int .i64 b.To, .int .i64 b.Amt, .int .i64 b.M.Kind, .int .i64 b.M.Acct, .int .i64 b.M.Amt, .int .i64 b.M.Src])).run Tryd.prog W = .ok (decide (a = b)) W := by
  rw [run_equalIn_agg W (d + 2) _ _ _ rec_fields rec_held]
  unfold Program.fieldsOf
  rw [Tryd.underlying26]
  have hu : Tryd.prog.underlying 3 = some (.int .i64) := Tryd.underlying3
  obtain ⟨a1, a2, a3, a4, a5, am⟩ := a
  obtain ⟨b1, b2, b3, b4, b5, bm⟩ := b
  simp [Op.eqFields, go_sem, hu]
  by_cases e1 : a1 = b1 <;> by_cases e2 : a2 = b2 <;> by_cases e3 : a3 = b3 <;> by_cases e4 : a4 = b4 <;> by_cases e5 : a5 = b5 <;> simp [e1, e2, e3, e4, e5]
  obtain ⟨m1, m2, m3, m4⟩ := am
  obtain ⟨n1, n2, n3, n4⟩ := bm
  by_cases f1 : m1 = n1 <;> by_cases f2 : m2 = n2 <;> by_cases f3 : m3 = n3 <;> by_cases f4 : m4 = n4 <;> simp [f1, f2, f3, f4]
theorem neq_rec_run (W : World) (a b : MRec) : (binOp .neq 26 (.agg #[.int .i64 a.Kind, .int .i64 a.Acct, .int .i64 a.Other, .int .i64 a.To, .int .i64 a.Amt, .int .i64 a.M.Kind, .int .i64 a.M.Acct, .int .i64 a.M.Amt, .int .i64 a.M.Src]) (.agg #[.int .i64 b.Kind, .int .i64 b.Acct, .int .i64 b.Other, .int .i64 b.To, .int .i64 b.Amt, .int .i64 b.M.Kind, .int .i64 b.M.Acct, .int .i64 b.M.Amt, .int .i64 b.M.Src])).run Tryd.prog W = .ok (.bool (!decide (a = b))) W := by
  rw [run_neq_struct, eq_rec_run 9997]; rfl
theorem guard_rec_run (op : BinOp) (x y : Operand) (W : World) (xs ys : Array Value) : (eqGuard op 26 x y (.agg xs) (.agg ys)).run Tryd.prog W = .ok () W := run_eqGuard_agg W op _ x y xs ys rec_guard
end Go.Proofs.YtkbhbccpmmhelaaDoor
