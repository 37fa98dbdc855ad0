/- Contracts of impl's messages: the letters' names, MsgName. -/
import Derived.Test.YtkbhbccpmmhelaaDoorBunM
namespace Go.Proofs.YtkbhbccpmmhelaaDoor
open Go.RowKit
set_option linter.unusedVariables false

theorem name1_c (k a b s : Int) (w : World) : Calls Tryd.prog 112 #[.agg #[.int .i64 k, .int .i64 a, .int .i64 b, .int .i64 s]] w fun e w' => e = .returned (.string (msgName 1)) ∧ Below w.heap.size w w' := by
  obtain ⟨wa, hwa, B0, sa, x_a⟩ := frame1 w 110 [.int .i64 k, .int .i64 a, .int .i64 b, .int .i64 s]
  clear sa
  go_enter Tryd.func112, Tryd.ntmps112
  go_wp2
  go_ret
  exact ⟨rfl, B0⟩

theorem name2_c (k a b s : Int) (w : World) : Calls Tryd.prog 114 #[.agg #[.int .i64 k, .int .i64 a, .int .i64 b, .int .i64 s]] w fun e w' => e = .returned (.string (msgName 2)) ∧ Below w.heap.size w w' := by
  obtain ⟨wa, hwa, B0, sa, x_a⟩ := frame1 w 111 [.int .i64 k, .int .i64 a, .int .i64 b, .int .i64 s]
  clear sa
  go_enter Tryd.func114, Tryd.ntmps114
  go_wp2
  go_ret
  exact ⟨rfl, B0⟩

theorem name3_c (k a b s : Int) (w : World) : Calls Tryd.prog 116 #[.agg #[.int .i64 k, .int .i64 a, .int .i64 b, .int .i64 s]] w fun e w' => e = .returned (.string (msgName 3)) ∧ Below w.heap.size w w' := by
  obtain ⟨wa, hwa, B0, sa, x_a⟩ := frame1 w 112 [.int .i64 k, .int .i64 a, .int .i64 b, .int .i64 s]
  clear sa
  go_enter Tryd.func116, Tryd.ntmps116
  go_wp2
  go_ret
  exact ⟨rfl, B0⟩

theorem name4_c (k a b s : Int) (w : World) : Calls Tryd.prog 118 #[.agg #[.int .i64 k, .int .i64 a, .int .i64 b, .int .i64 s]] w fun e w' => e = .returned (.string (msgName 4)) ∧ Below w.heap.size w w' := by
  obtain ⟨wa, hwa, B0, sa, x_a⟩ := frame1 w 113 [.int .i64 k, .int .i64 a, .int .i64 b, .int .i64 s]
  clear sa
  go_enter Tryd.func118, Tryd.ntmps118
  go_wp2
  go_ret
  exact ⟨rfl, B0⟩

theorem name5_c (k a b s : Int) (w : World) : Calls Tryd.prog 120 #[.agg #[.int .i64 k, .int .i64 a, .int .i64 b, .int .i64 s]] w fun e w' => e = .returned (.string (msgName 5)) ∧ Below w.heap.size w w' := by
  obtain ⟨wa, hwa, B0, sa, x_a⟩ := frame1 w 114 [.int .i64 k, .int .i64 a, .int .i64 b, .int .i64 s]
  clear sa
  go_enter Tryd.func120, Tryd.ntmps120
  go_wp2
  go_ret
  exact ⟨rfl, B0⟩

set_option maxHeartbeats 2000000 in
theorem iMsgName_c (k : Int) (w : World) : Calls Tryd.prog 60 #[.int .i64 k] w fun e w' => e = .returned (.string (msgName k)) ∧ Below w.heap.size w w' := by
  by_cases hk : 1 ≤ k ∧ k ≤ 5
  case neg =>
    have HK := Lib.hid hk
    rw [show msgName k = ⟨#[]⟩ by unfold msgName; rw [if_neg (by omega), if_neg (by omega), if_neg (by omega), if_neg (by omega), if_neg (by omega)]]
    clear hk
    go_enter Tryd.func60, Tryd.ntmps60
    go_wp2_with fail
    refine (letterOf0_c _ _ _ _ _ HK.out).mono ?_
    rintro e w1 ⟨rfl, h1⟩
    go_wp2
    go_ret
    exact ⟨rfl, h1⟩
  have h5 : k = 1 ∨ k = 2 ∨ k = 3 ∨ k = 4 ∨ k = 5 := by omega
  clear hk
  rcases h5 with rfl | rfl | rfl | rfl | rfl
  · go_enter Tryd.func60, Tryd.ntmps60
    go_wp2_with fail
    refine (letterOf1_c _ _ _ _).mono ?_
    rintro e w1 ⟨rfl, h1⟩
    go_wp2_with fail
    refine (name1_c _ _ _ _ _).mono ?_
    rintro e w2 ⟨rfl, h2⟩
    go_wp2
    go_ret
    exact ⟨rfl, h1.trans (h2.mono h1.size)⟩
  · go_enter Tryd.func60, Tryd.ntmps60
    go_wp2_with fail
    refine (letterOf2_c _ _ _ _).mono ?_
    rintro e w1 ⟨rfl, h1⟩
    go_wp2_with fail
    refine (name2_c _ _ _ _ _).mono ?_
    rintro e w2 ⟨rfl, h2⟩
    go_wp2
    go_ret
    exact ⟨rfl, h1.trans (h2.mono h1.size)⟩
  · go_enter Tryd.func60, Tryd.ntmps60
    go_wp2_with fail
    refine (letterOf3_c _ _ _ _).mono ?_
    rintro e w1 ⟨rfl, h1⟩
    go_wp2_with fail
    refine (name3_c _ _ _ _ _).mono ?_
    rintro e w2 ⟨rfl, h2⟩
    go_wp2
    go_ret
    exact ⟨rfl, h1.trans (h2.mono h1.size)⟩
  · go_enter Tryd.func60, Tryd.ntmps60
    go_wp2_with fail
    refine (letterOf4_c _ _ _ _).mono ?_
    rintro e w1 ⟨rfl, h1⟩
    go_wp2_with fail
    refine (name4_c _ _ _ _ _).mono ?_
    rintro e w2 ⟨rfl, h2⟩
    go_wp2
    go_ret
    exact ⟨rfl, h1.trans (h2.mono h1.size)⟩
  · go_enter Tryd.func60, Tryd.ntmps60
    go_wp2_with fail
    refine (letterOf5_c _ _ _ _).mono ?_
    rintro e w1 ⟨rfl, h1⟩
    go_wp2_with fail
    refine (name5_c _ _ _ _ _).mono ?_
    rintro e w2 ⟨rfl, h2⟩
    go_wp2
    go_ret
    exact ⟨rfl, h1.trans (h2.mono h1.size)⟩

end Go.Proofs.YtkbhbccpmmhelaaDoor
