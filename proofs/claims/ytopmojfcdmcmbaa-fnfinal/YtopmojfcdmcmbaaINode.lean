/- The contract of impl.isNode. -/
import Derived.Test.YtopmojfcdmcmbaaPrims
namespace Go.Proofs.Ytopmojfcdmcmbaa
open Go.RowKit

theorem iNode_any (n : Int) (w : World) : Calls Try.prog 39 #[.int .i64 n] w fun e w' => e = .returned (.bool (inB n 0 3)) ∧ w = w' := by
  by_cases h0 : 0 ≤ n
  · by_cases h1 : n < 4
    · rw [inB_true.2 (by omega)]
      have i0 : decide (0 ≤ n) = true := decide_eq_true h0
      have i1 : decide (n < 4) = true := decide_eq_true h1
      go_enter Try.func39, Try.ntmps39
      go_wp2
      go_ret
      exact ⟨rfl, rfl⟩
    · rw [inB_false.2 (by omega)]
      have i0 : decide (0 ≤ n) = true := decide_eq_true h0
      have i1 : decide (n < 4) = false := decide_eq_false h1
      go_enter Try.func39, Try.ntmps39
      go_wp2
      go_ret
      exact ⟨rfl, rfl⟩
  · rw [inB_false.2 (by omega)]
    have i1 : decide (0 ≤ n) = false := decide_eq_false h0
    go_enter Try.func39, Try.ntmps39
    go_wp2
    go_ret
    exact ⟨rfl, rfl⟩

end Go.Proofs.Ytopmojfcdmcmbaa
