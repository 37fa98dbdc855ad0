/- Votes: the contracts that leave the world as it is, in the words of 'Below'; how great the results are. -/
import Derived.Test.YtaoedgcdcimibaaVt4
namespace Go.Proofs.Ytaoedgcdcimibaa
open Go.RowKit
set_option linter.unusedVariables false

theorem sBallotOf_b (r n : Int) (w : World) : Calls Try.prog 28 #[.int .i64 r, .int .i64 n] w fun e w' => e = .returned (.int .i64 (ballotOf r n)) ∧ Below w.heap.size w w' :=
  (sBallotOf_c r n w).mono fun e w' ⟨he, hw⟩ => ⟨he, by rw [← hw]; exact Below.refl _ _⟩

theorem sBallotAbove_b (r n : Int) (w : World) : Calls Try.prog 29 #[.int .i64 r, .int .i64 n] w fun e w' => e = .returned (.int .i64 (ballotAbove r n)) ∧ Below w.heap.size w w' :=
  (sBallotAbove_c r n w).mono fun e w' ⟨he, hw⟩ => ⟨he, by rw [← hw]; exact Below.refl _ _⟩

theorem propNew_bulk (b u : Int) : (propNew b u).bulk ≤ 16777216 := by
  unfold propNew
  split <;> simp [MProp.bulk, propZ]

theorem propHear_bulk (p : MProp) (n b u : Int) : (propHear p n b u).bulk ≤ 2 * p.bulk + 1 := by
  have h := addI_len p.From n
  unfold propHear
  split
  · split <;> (unfold MProp.bulk; simp only; omega)
  · omega

theorem propGot_bulk (p : MProp) (n : Int) : (propGot p n).bulk ≤ 2 * p.bulk + 1 := by
  have h := addI_len p.Got n
  unfold propGot
  split
  · unfold MProp.bulk; simp only; omega
  · omega

end Go.Proofs.Ytaoedgcdcimibaa
