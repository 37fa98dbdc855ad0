/- The walk of the law FnExactInTake, laid by a program of ours (lawgen2.py) out of the law's text. -/
import Derived.Test.YtpaodpkgpajboaaBoxI
namespace Go.Proofs.Ytpaodpkgpajboaa
open Go.RowKit
set_option linter.unusedVariables false

set_option maxRecDepth 100000 in
set_option maxHeartbeats 8000000 in
theorem wInTake (p : Int) (q : Int) (w : World) (hp : -9223372036854775808 ≤ p ∧ p ≤ 9223372036854775807) (hq : -9223372036854775808 ≤ q ∧ q ≤ 9223372036854775807) :
    Calls Try.prog 10 #[.int .i64 p, .int .i64 q] w fun e w' => e = .returned (.bool true) ∧ Below w.heap.size w w' := by
  have B0 : Below w.heap.size w w := Below.refl _ _
  obtain ⟨R0, hR0⟩ : ∃ R, inTakeN p q = R := ⟨_, rfl⟩
  have HR0 := Lib.hid hR0
  clear hR0
  obtain ⟨R1, hR1⟩ : ∃ R, inTakeB p q = R := ⟨_, rfl⟩
  have HR1 := Lib.hid hR1
  clear hR1
  go_enter Try.func10, Try.ntmps10
  go_wp2_with fail
  refine (sInTake_c p q _ hp hq).mono ?_
  rintro e w1 ⟨rfl, h_w1⟩
  have B_w1 := B0.trans (h_w1.mono B0.size)
  have s_w1 := h_w1.size
  rw [HR0.out]
  rw [HR1.out]
  go_wp2_with fail
  refine (iInTake_c p q _ hp hq).mono ?_
  rintro e w2 ⟨rfl, h_w2⟩
  have B_w2 := B_w1.trans (h_w2.mono B_w1.size)
  have s_w2 := h_w2.size
  rw [HR0.out]
  rw [HR1.out]
  go_wp2
  go_ret
  exact ⟨rfl, B_w2⟩

end Go.Proofs.Ytpaodpkgpajboaa
