/- Votes: the contracts of spec.l07Node, l07Val, BallotOf, BallotAbove, IsMost, AccOk, AccPrep, AccTake. Laid by a program of ours (src/vt1.py). -/
import Derived.Test.YtopmojfcdmcmbaaTAcc
import Derived.Test.YtopmojfcdmcmbaaPrims
import Derived.Test.YtopmojfcdmcmbaaPutNum
import Derived.IntWalk
namespace Go.Proofs.Ytopmojfcdmcmbaa
open Go.RowKit
set_option linter.unusedVariables false

def ballotOf (r n : Int) : Int := if inB r 0 1000000000 = true ∧ inB n 0 3 = true then r * 4 + n + 1 else 0
def ballotAbove (b n : Int) : Int := if inB b 0 1000000000 = true ∧ inB n 0 3 = true then (if b < ballotOf (b / 4) n then ballotOf (b / 4) n else ballotOf (b / 4) n + 4) else 0
def isMostB (k n : Int) : Bool := decide (IntKind.i64.wrap (n - k) < k)
def accOkB (a : MAcc) : Bool := numB a.Prom && (inB a.Bal 0 a.Prom && ((inB a.Val 1 4 && decide (0 < a.Bal)) || (decide (a.Val = 0) && decide (a.Bal = 0))))
def accZ : MAcc := ⟨0, 0, 0⟩
def accPrepB (a : MAcc) (b : Int) : Bool := accOkB a && (numB b && decide (a.Prom < b))
def accPrep (a : MAcc) (b : Int) : MAcc := if accPrepB a b = true then ⟨b, a.Bal, a.Val⟩ else accZ
def accTakeB (a : MAcc) (b v : Int) : Bool := accOkB a && (inB v 1 4 && (inB b 1 1125899906842624 && decide (a.Prom ≤ b)))
def accTake (a : MAcc) (b v : Int) : MAcc := if accTakeB a b v = true then ⟨b, b, v⟩ else accZ

theorem sNode_any (n : Int) (w : World) : Calls Try.prog 70 #[.int .i64 n] w fun e w' => e = .returned (.bool (inB n 0 3)) ∧ w = w' := by
  go_enter Try.func70, Try.ntmps70
  go_wp2_with fail
  refine (sIn_any _ _ _ _).mono ?_
  rintro e w' ⟨rfl, rfl⟩
  go_wp2
  go_ret
  exact ⟨rfl, rfl⟩

end Go.Proofs.Ytopmojfcdmcmbaa
