/- Votes: the contracts of spec.l07Node, l07Val, BallotOf, BallotAbove, IsMost, AccOk, AccPrep, AccTake. Laid by a program of ours (src/vt1.py). -/
import Derived.Test.YtaoedgcdcimibabTAcc
import Derived.Test.YtaoedgcdcimibabPrims
import Derived.Test.YtaoedgcdcimibabPutNum
import Derived.IntWalk
namespace Go.Proofs.Ytaoedgcdcimibab
open Go.RowKit
set_option linter.unusedVariables false

def ballotOf (r n : Int) : Int := if inB r 0 1000000000 = true ∧ inB n 0 3 = true then r * 4 + n + 1 else 0
def ballotAbove (b n : Int) : Int := if inB b 0 1000000000 = true ∧ inB n 0 3 = true then (if b < ballotOf (b / 4) n then ballotOf (b / 4) n else ballotOf (b / 4) n + 4) else 0
def isMostB (k n : Int) : Bool := decide (IntKind.i64.wrap (n - k) < k)
def accOkB (a : MAcc) : Bool := numB a.Prom && (inB a.Bal 0 a.Prom && ((inB a.Val 1 4 && decide (0 < a.Bal)) || (decide (a.Val = 0) && decide (a.Bal = 0))))
def accZ : MAcc := ⟨0, 0, 0⟩
def accPrepB (a : MAcc) (b : Int) : Bool := accOkB a && (numB b && decide (a.Prom < b))
def accPrep (a : MAcc) (b : Int) : MAcc := if accPrepB a b = true then ⟨b, a.Bal, a.Val⟩ else accZ
def accTakeB (a : MAcc) (b v : Int) : Bool := accOkB a && (inB v 1 4 && (inB b 1 1125899906842624 && decide (a.Prom ≤ b)))
def accTake (a : MAcc) (b v : Int) : MAcc := if accTakeB a b v = true then ⟨b, b, v⟩ else accZ

theorem sNode_any (n : Int) (w : World) : Calls Try.prog 25 #[.int .i64 n] w fun e w' => e = .returned (.bool (inB n 0 3)) ∧ w = w' := by
  go_enter Try.func25, Try.ntmps25
  go_wp2_with fail
  refine (sIn_any _ _ _ _).mono ?_
  rintro e w' ⟨rfl, rfl⟩
  go_wp2
  go_ret
  exact ⟨rfl, rfl⟩

theorem sVal_any (n : Int) (w : World) : Calls Try.prog 35 #[.int .i64 n] w fun e w' => e = .returned (.bool (inB n 1 4)) ∧ w = w' := by
  go_enter Try.func35, Try.ntmps35
  go_wp2_with fail
  refine (sIn_any _ _ _ _).mono ?_
  rintro e w' ⟨rfl, rfl⟩
  go_wp2
  go_ret
  exact ⟨rfl, rfl⟩

theorem sIsMost_c (k n : Int) (w : World) : Calls Try.prog 19 #[.int .i64 k, .int .i64 n] w fun e w' => e = .returned (.bool (isMostB k n)) ∧ w = w' := by
  unfold isMostB
  obtain ⟨z, hz⟩ : ∃ z, IntKind.i64.wrap (n - k) = z := ⟨_, rfl⟩
  rw [hz]
  go_enter Try.func19, Try.ntmps19
  go_wp2
  go_ret
  exact ⟨rfl, rfl⟩

end Go.Proofs.Ytaoedgcdcimibab
