/- The walk of the law FnExactRkName, laid by a program of ours (lawgen2.py) out of the law's text. -/
import Derived.Test.YtkbhbccpmmhelaaRcI
namespace Go.Proofs.Ytkbhbccpmmhelaa
open Go.RowKit
set_option linter.unusedVariables false

set_option maxRecDepth 100000 in
set_option maxHeartbeats 8000000 in
theorem wRkName (k : Int) (w : World) :
    Calls Try.prog 6 #[.int .i64 k] w fun e w' => e = .returned (.bool true) ∧ Below w.heap.size w w' := by
  have B0 : Below w.heap.size w w := Below.refl _ _
  obtain ⟨R0, hR0⟩ : ∃ R, rkName k = R := ⟨_, rfl⟩
  have HR0 := Lib.hid hR0
  clear hR0
  go_enter Try.func6, Try.ntmps6
  go_wp2_with fail
  refine (sRkName_c k _).mono ?_
  rintro e w1 ⟨rfl, h_w1⟩
  have B_w1 := B0.trans (h_w1.mono B0.size)
  have s_w1 := h_w1.size
  rw [HR0.out]
  go_wp2_with fail
  refine (iRkName_c k _).mono ?_
  rintro e w2 ⟨rfl, h_w2⟩
  have B_w2 := B_w1.trans (h_w2.mono B_w1.size)
  have s_w2 := h_w2.size
  rw [HR0.out]
  go_wp2
  go_ret
  exact ⟨rfl, B_w2⟩

end Go.Proofs.Ytkbhbccpmmhelaa
