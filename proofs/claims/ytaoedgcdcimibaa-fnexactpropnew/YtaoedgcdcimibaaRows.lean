/-
  No cell of these rows narrows 'for every input' (looked for: loops, veiled, ifaces, maps, wideKeys, modest, calm, conditions, laid).
  DERIVED. THE GIVEN ROWS OF THIS SEAT. 11 by the template 'for every input the law returns true; each argument reads behind the call as it read before'; 0 by the template 'total and deterministic' (their statements: YtaoedgcdcimibaaTotals.lean).
  GIVEN WITH THE SEED: the statements are not yours to turn. If you find one false, say at which input.
  Laid BY PROGRAM, IN A SANDBOX (cutbox-rows.mjs): the forced cells as the released guide's own fill.sh prints them over the translation 9f9a9d5e680573d1… (all of the seat's roots in one cut). By AI agents, Wed Nov 11 2026. No macro, syntax, notation, axiom, sorry.
-/
import Derived.Test.YtaoedgcdcimibaaChecked
import GoSem.Claim
import GoSem.ClaimJoined
import GoSem.ClaimMapViews
import Derived.JoinedTies
import Derived.KernelRfl
namespace Go.Proofs.Ytaoedgcdcimibaa
/- THE CELL 'sum', in the pinned program and in every row, IS THE sha256 OF THE DUMP (.gsa) THAT YtaoedgcdcimibaaProg.lean LOADS. Nothing in Lean hashes anything: it is a label: what it is worth is what the hold of that sum in a sandbox is worth. -/
noncomputable def Try.pinned : Pinned := { name := "ytaoedgcdcimibaa", sum := "9f9a9d5e680573d1b7c0bf33da11675a38f552e250ecac39ac0fd3e678777c4d", checked := Try.checked }
namespace Rows
def none {H : Type} : Left H := { results := [], args := [] }

/-- 'laws.FnVote': WHATEVER THE INPUT: true; the input reads as it did. -/
def fnVoteSpec : ChangeSpec := { name := "fnVote", fn := fun _ => fun
  | [d] => { results := [.lit (.bool true)], args := [d] }
  | _ => none }
def fnVoteRow : OpenClaim := { program := "ytaoedgcdcimibaa", sum := "9f9a9d5e680573d1b7c0bf33da11675a38f552e250ecac39ac0fd3e678777c4d", func := "loop.example/g00801/laws.FnVote", spec := "fnVote", inPlace := ["slices.overlaps[int]"], apart := false }
def FnVoteSaid : Prop := fnVoteRow.holds Try.pinned (OpenSpec.ofChange fnVoteSpec)

/-- ITS FALSE NEIGHBOUR: 'it returns false'. Refute it at one input. -/
def fnVoteWrong : ChangeSpec := { name := "fnVote", fn := fun _ => fun
  | [d] => { results := [.lit (.bool false)], args := [d] }
  | _ => none }
def FnVoteWrongFalsely : Prop := fnVoteRow.holds Try.pinned (OpenSpec.ofChange fnVoteWrong)

/-- 'laws.FnBallot': WHATEVER THE INPUT: true; the input reads as it did. -/
def fnBallotSpec : ChangeSpec := { name := "fnBallot", fn := fun _ => fun
  | [d] => { results := [.lit (.bool true)], args := [d] }
  | _ => none }
def fnBallotRow : OpenClaim := { program := "ytaoedgcdcimibaa", sum := "9f9a9d5e680573d1b7c0bf33da11675a38f552e250ecac39ac0fd3e678777c4d", func := "loop.example/g00801/laws.FnBallot", spec := "fnBallot", apart := false }
def FnBallotSaid : Prop := fnBallotRow.holds Try.pinned (OpenSpec.ofChange fnBallotSpec)

/-- ITS FALSE NEIGHBOUR: 'it returns false'. Refute it at one input. -/
def fnBallotWrong : ChangeSpec := { name := "fnBallot", fn := fun _ => fun
  | [d] => { results := [.lit (.bool false)], args := [d] }
  | _ => none }
def FnBallotWrongFalsely : Prop := fnBallotRow.holds Try.pinned (OpenSpec.ofChange fnBallotWrong)

/-- 'laws.FnPromise': WHATEVER THE INPUT: true; the input reads as it did. -/
def fnPromiseSpec : ChangeSpec := { name := "fnPromise", fn := fun _ => fun
  | [d] => { results := [.lit (.bool true)], args := [d] }
  | _ => none }
def fnPromiseRow : OpenClaim := { program := "ytaoedgcdcimibaa", sum := "9f9a9d5e680573d1b7c0bf33da11675a38f552e250ecac39ac0fd3e678777c4d", func := "loop.example/g00801/laws.FnPromise", spec := "fnPromise", apart := false }
def FnPromiseSaid : Prop := fnPromiseRow.holds Try.pinned (OpenSpec.ofChange fnPromiseSpec)

/-- ITS FALSE NEIGHBOUR: 'it returns false'. Refute it at one input. -/
def fnPromiseWrong : ChangeSpec := { name := "fnPromise", fn := fun _ => fun
  | [d] => { results := [.lit (.bool false)], args := [d] }
  | _ => none }
def FnPromiseWrongFalsely : Prop := fnPromiseRow.holds Try.pinned (OpenSpec.ofChange fnPromiseWrong)

/-- 'laws.FnExactBallotOf': WHATEVER THE INPUT: true; the input reads as it did. -/
def fnExactBallotOfSpec : ChangeSpec := { name := "fnExactBallotOf", fn := fun _ => fun
  | [d1, d2] => { results := [.lit (.bool true)], args := [d1, d2] }
  | _ => none }
def fnExactBallotOfRow : OpenClaim := { program := "ytaoedgcdcimibaa", sum := "9f9a9d5e680573d1b7c0bf33da11675a38f552e250ecac39ac0fd3e678777c4d", func := "loop.example/g00801/laws.FnExactBallotOf", spec := "fnExactBallotOf", apart := false }
def FnExactBallotOfSaid : Prop := fnExactBallotOfRow.holds Try.pinned (OpenSpec.ofChange fnExactBallotOfSpec)

/-- ITS FALSE NEIGHBOUR: 'it returns false'. Refute it at one input. -/
def fnExactBallotOfWrong : ChangeSpec := { name := "fnExactBallotOf", fn := fun _ => fun
  | [d1, d2] => { results := [.lit (.bool false)], args := [d1, d2] }
  | _ => none }
def FnExactBallotOfWrongFalsely : Prop := fnExactBallotOfRow.holds Try.pinned (OpenSpec.ofChange fnExactBallotOfWrong)

/-- 'laws.FnExactBallotAbove': WHATEVER THE INPUT: true; the input reads as it did. -/
def fnExactBallotAboveSpec : ChangeSpec := { name := "fnExactBallotAbove", fn := fun _ => fun
  | [d1, d2] => { results := [.lit (.bool true)], args := [d1, d2] }
  | _ => none }
def fnExactBallotAboveRow : OpenClaim := { program := "ytaoedgcdcimibaa", sum := "9f9a9d5e680573d1b7c0bf33da11675a38f552e250ecac39ac0fd3e678777c4d", func := "loop.example/g00801/laws.FnExactBallotAbove", spec := "fnExactBallotAbove", apart := false }
def FnExactBallotAboveSaid : Prop := fnExactBallotAboveRow.holds Try.pinned (OpenSpec.ofChange fnExactBallotAboveSpec)

/-- ITS FALSE NEIGHBOUR: 'it returns false'. Refute it at one input. -/
def fnExactBallotAboveWrong : ChangeSpec := { name := "fnExactBallotAbove", fn := fun _ => fun
  | [d1, d2] => { results := [.lit (.bool false)], args := [d1, d2] }
  | _ => none }
def FnExactBallotAboveWrongFalsely : Prop := fnExactBallotAboveRow.holds Try.pinned (OpenSpec.ofChange fnExactBallotAboveWrong)

/-- 'laws.FnExactAccOk': WHATEVER THE INPUT: true; the input reads as it did. -/
def fnExactAccOkSpec : ChangeSpec := { name := "fnExactAccOk", fn := fun _ => fun
  | [d] => { results := [.lit (.bool true)], args := [d] }
  | _ => none }
def fnExactAccOkRow : OpenClaim := { program := "ytaoedgcdcimibaa", sum := "9f9a9d5e680573d1b7c0bf33da11675a38f552e250ecac39ac0fd3e678777c4d", func := "loop.example/g00801/laws.FnExactAccOk", spec := "fnExactAccOk", apart := false }
def FnExactAccOkSaid : Prop := fnExactAccOkRow.holds Try.pinned (OpenSpec.ofChange fnExactAccOkSpec)

/-- ITS FALSE NEIGHBOUR: 'it returns false'. Refute it at one input. -/
def fnExactAccOkWrong : ChangeSpec := { name := "fnExactAccOk", fn := fun _ => fun
  | [d] => { results := [.lit (.bool false)], args := [d] }
  | _ => none }
def FnExactAccOkWrongFalsely : Prop := fnExactAccOkRow.holds Try.pinned (OpenSpec.ofChange fnExactAccOkWrong)

/-- 'laws.FnExactAccPrep': WHATEVER THE INPUT: true; the input reads as it did. -/
def fnExactAccPrepSpec : ChangeSpec := { name := "fnExactAccPrep", fn := fun _ => fun
  | [d1, d2] => { results := [.lit (.bool true)], args := [d1, d2] }
  | _ => none }
def fnExactAccPrepRow : OpenClaim := { program := "ytaoedgcdcimibaa", sum := "9f9a9d5e680573d1b7c0bf33da11675a38f552e250ecac39ac0fd3e678777c4d", func := "loop.example/g00801/laws.FnExactAccPrep", spec := "fnExactAccPrep", apart := false }
def FnExactAccPrepSaid : Prop := fnExactAccPrepRow.holds Try.pinned (OpenSpec.ofChange fnExactAccPrepSpec)

/-- ITS FALSE NEIGHBOUR: 'it returns false'. Refute it at one input. -/
def fnExactAccPrepWrong : ChangeSpec := { name := "fnExactAccPrep", fn := fun _ => fun
  | [d1, d2] => { results := [.lit (.bool false)], args := [d1, d2] }
  | _ => none }
def FnExactAccPrepWrongFalsely : Prop := fnExactAccPrepRow.holds Try.pinned (OpenSpec.ofChange fnExactAccPrepWrong)

/-- 'laws.FnExactAccTake': WHATEVER THE INPUT: true; the input reads as it did. -/
def fnExactAccTakeSpec : ChangeSpec := { name := "fnExactAccTake", fn := fun _ => fun
  | [d1, d2, d3] => { results := [.lit (.bool true)], args := [d1, d2, d3] }
  | _ => none }
def fnExactAccTakeRow : OpenClaim := { program := "ytaoedgcdcimibaa", sum := "9f9a9d5e680573d1b7c0bf33da11675a38f552e250ecac39ac0fd3e678777c4d", func := "loop.example/g00801/laws.FnExactAccTake", spec := "fnExactAccTake", apart := false }
def FnExactAccTakeSaid : Prop := fnExactAccTakeRow.holds Try.pinned (OpenSpec.ofChange fnExactAccTakeSpec)

/-- ITS FALSE NEIGHBOUR: 'it returns false'. Refute it at one input. -/
def fnExactAccTakeWrong : ChangeSpec := { name := "fnExactAccTake", fn := fun _ => fun
  | [d1, d2, d3] => { results := [.lit (.bool false)], args := [d1, d2, d3] }
  | _ => none }
def FnExactAccTakeWrongFalsely : Prop := fnExactAccTakeRow.holds Try.pinned (OpenSpec.ofChange fnExactAccTakeWrong)

/-- 'laws.FnExactPropOk': WHATEVER THE INPUT: true; the input reads as it did. -/
def fnExactPropOkSpec : ChangeSpec := { name := "fnExactPropOk", fn := fun _ => fun
  | [d] => { results := [.lit (.bool true)], args := [d] }
  | _ => none }
def fnExactPropOkRow : OpenClaim := { program := "ytaoedgcdcimibaa", sum := "9f9a9d5e680573d1b7c0bf33da11675a38f552e250ecac39ac0fd3e678777c4d", func := "loop.example/g00801/laws.FnExactPropOk", spec := "fnExactPropOk", apart := false }
def FnExactPropOkSaid : Prop := fnExactPropOkRow.holds Try.pinned (OpenSpec.ofChange fnExactPropOkSpec)

/-- ITS FALSE NEIGHBOUR: 'it returns false'. Refute it at one input. -/
def fnExactPropOkWrong : ChangeSpec := { name := "fnExactPropOk", fn := fun _ => fun
  | [d] => { results := [.lit (.bool false)], args := [d] }
  | _ => none }
def FnExactPropOkWrongFalsely : Prop := fnExactPropOkRow.holds Try.pinned (OpenSpec.ofChange fnExactPropOkWrong)

/-- 'laws.FnExactPropNew': WHATEVER THE INPUT: true; the input reads as it did. -/
def fnExactPropNewSpec : ChangeSpec := { name := "fnExactPropNew", fn := fun _ => fun
  | [d1, d2] => { results := [.lit (.bool true)], args := [d1, d2] }
  | _ => none }
def fnExactPropNewRow : OpenClaim := { program := "ytaoedgcdcimibaa", sum := "9f9a9d5e680573d1b7c0bf33da11675a38f552e250ecac39ac0fd3e678777c4d", func := "loop.example/g00801/laws.FnExactPropNew", spec := "fnExactPropNew", apart := false }
def FnExactPropNewSaid : Prop := fnExactPropNewRow.holds Try.pinned (OpenSpec.ofChange fnExactPropNewSpec)

/-- ITS FALSE NEIGHBOUR: 'it returns false'. Refute it at one input. -/
def fnExactPropNewWrong : ChangeSpec := { name := "fnExactPropNew", fn := fun _ => fun
  | [d1, d2] => { results := [.lit (.bool false)], args := [d1, d2] }
  | _ => none }
def FnExactPropNewWrongFalsely : Prop := fnExactPropNewRow.holds Try.pinned (OpenSpec.ofChange fnExactPropNewWrong)

/-- 'laws.FnExactPropHear': WHATEVER THE INPUT: true; the input reads as it did. -/
def fnExactPropHearSpec : ChangeSpec := { name := "fnExactPropHear", fn := fun _ => fun
  | [d1, d2, d3, d4] => { results := [.lit (.bool true)], args := [d1, d2, d3, d4] }
  | _ => none }
def fnExactPropHearRow : OpenClaim := { program := "ytaoedgcdcimibaa", sum := "9f9a9d5e680573d1b7c0bf33da11675a38f552e250ecac39ac0fd3e678777c4d", func := "loop.example/g00801/laws.FnExactPropHear", spec := "fnExactPropHear", inPlace := ["slices.overlaps[int]"], apart := false }
def FnExactPropHearSaid : Prop := fnExactPropHearRow.holds Try.pinned (OpenSpec.ofChange fnExactPropHearSpec)

/-- ITS FALSE NEIGHBOUR: 'it returns false'. Refute it at one input. -/
def fnExactPropHearWrong : ChangeSpec := { name := "fnExactPropHear", fn := fun _ => fun
  | [d1, d2, d3, d4] => { results := [.lit (.bool false)], args := [d1, d2, d3, d4] }
  | _ => none }
def FnExactPropHearWrongFalsely : Prop := fnExactPropHearRow.holds Try.pinned (OpenSpec.ofChange fnExactPropHearWrong)

/- THE SECOND FORM. 'bulk': how many values and letters a reading holds, each counted each time it is reached (what is shared counts as often as it is met; a slice's spare places count too). A statement '..UptoSaid' is the law's where the arguments, and the package variables that the reading takes, are together of bulk at most 1048576: NARROWER than '..Said'. Prove '..Said' where nothing that the law and all that it calls make is longer than what came in: it says more and counts as full. Else prove '..UptoSaid'. A law counts once. -/
mutual
def uptoBulk {H : Type} : DataW H → Nat
  | .lit (.string bytes) => bytes.length + 1
  | .lit _ => 1
  | .nil => 1
  | .ptr d => uptoBulk d + 1
  | .slice elems spare => uptoBulkAll elems + uptoBulkAll spare + 1
  | .agg parts => uptoBulkAll parts + 1
  | .iface _ d => uptoBulk d + 1
  | .map entries => uptoBulkEntries entries + 1
  | .held _ => 1
def uptoBulkAll {H : Type} : List (DataW H) → Nat
  | [] => 0
  | d :: r => uptoBulk d + uptoBulkAll r
def uptoBulkEntries {H : Type} : List (Lit × DataW H) → Nat
  | [] => 0
  | x :: r => uptoBulkEntry x + uptoBulkEntries r
def uptoBulkEntry {H : Type} : Lit × DataW H → Nat
  | (.string bytes, d) => bytes.length + uptoBulk d + 1
  | (_, d) => uptoBulk d + 1
 end
def uptoSmall : (H : Type) → List (DataW H) → Bool := fun _ ds => decide (uptoBulkAll ds ≤ 1048576)
def OpenSpec.upto (s : _root_.Go.ChangeSpec) : _root_.Go.OpenSpec := { _root_.Go.OpenSpec.ofChange s with cond := some uptoSmall }

/-- 'laws.FnVote', WHERE WHAT IT READS IS OF BULK AT MOST 1048576: true; the input reads as it did. -/
def fnVoteUptoRow : OpenClaim := { program := "ytaoedgcdcimibaa", sum := "9f9a9d5e680573d1b7c0bf33da11675a38f552e250ecac39ac0fd3e678777c4d", func := "loop.example/g00801/laws.FnVote", spec := "fnVote", inPlace := ["slices.overlaps[int]"], apart := false, narrowed := true }
def FnVoteUptoSaid : Prop := fnVoteUptoRow.holds Try.pinned (OpenSpec.upto fnVoteSpec)

/-- 'laws.FnBallot', WHERE WHAT IT READS IS OF BULK AT MOST 1048576: true; the input reads as it did. -/
def fnBallotUptoRow : OpenClaim := { program := "ytaoedgcdcimibaa", sum := "9f9a9d5e680573d1b7c0bf33da11675a38f552e250ecac39ac0fd3e678777c4d", func := "loop.example/g00801/laws.FnBallot", spec := "fnBallot", apart := false, narrowed := true }
def FnBallotUptoSaid : Prop := fnBallotUptoRow.holds Try.pinned (OpenSpec.upto fnBallotSpec)

/-- 'laws.FnPromise', WHERE WHAT IT READS IS OF BULK AT MOST 1048576: true; the input reads as it did. -/
def fnPromiseUptoRow : OpenClaim := { program := "ytaoedgcdcimibaa", sum := "9f9a9d5e680573d1b7c0bf33da11675a38f552e250ecac39ac0fd3e678777c4d", func := "loop.example/g00801/laws.FnPromise", spec := "fnPromise", apart := false, narrowed := true }
def FnPromiseUptoSaid : Prop := fnPromiseUptoRow.holds Try.pinned (OpenSpec.upto fnPromiseSpec)

/-- 'laws.FnExactBallotOf', WHERE WHAT IT READS IS OF BULK AT MOST 1048576: true; the input reads as it did. -/
def fnExactBallotOfUptoRow : OpenClaim := { program := "ytaoedgcdcimibaa", sum := "9f9a9d5e680573d1b7c0bf33da11675a38f552e250ecac39ac0fd3e678777c4d", func := "loop.example/g00801/laws.FnExactBallotOf", spec := "fnExactBallotOf", apart := false, narrowed := true }
def FnExactBallotOfUptoSaid : Prop := fnExactBallotOfUptoRow.holds Try.pinned (OpenSpec.upto fnExactBallotOfSpec)

/-- 'laws.FnExactBallotAbove', WHERE WHAT IT READS IS OF BULK AT MOST 1048576: true; the input reads as it did. -/
def fnExactBallotAboveUptoRow : OpenClaim := { program := "ytaoedgcdcimibaa", sum := "9f9a9d5e680573d1b7c0bf33da11675a38f552e250ecac39ac0fd3e678777c4d", func := "loop.example/g00801/laws.FnExactBallotAbove", spec := "fnExactBallotAbove", apart := false, narrowed := true }
def FnExactBallotAboveUptoSaid : Prop := fnExactBallotAboveUptoRow.holds Try.pinned (OpenSpec.upto fnExactBallotAboveSpec)

/-- 'laws.FnExactAccOk', WHERE WHAT IT READS IS OF BULK AT MOST 1048576: true; the input reads as it did. -/
def fnExactAccOkUptoRow : OpenClaim := { program := "ytaoedgcdcimibaa", sum := "9f9a9d5e680573d1b7c0bf33da11675a38f552e250ecac39ac0fd3e678777c4d", func := "loop.example/g00801/laws.FnExactAccOk", spec := "fnExactAccOk", apart := false, narrowed := true }
def FnExactAccOkUptoSaid : Prop := fnExactAccOkUptoRow.holds Try.pinned (OpenSpec.upto fnExactAccOkSpec)

/-- 'laws.FnExactAccPrep', WHERE WHAT IT READS IS OF BULK AT MOST 1048576: true; the input reads as it did. -/
def fnExactAccPrepUptoRow : OpenClaim := { program := "ytaoedgcdcimibaa", sum := "9f9a9d5e680573d1b7c0bf33da11675a38f552e250ecac39ac0fd3e678777c4d", func := "loop.example/g00801/laws.FnExactAccPrep", spec := "fnExactAccPrep", apart := false, narrowed := true }
def FnExactAccPrepUptoSaid : Prop := fnExactAccPrepUptoRow.holds Try.pinned (OpenSpec.upto fnExactAccPrepSpec)

/-- 'laws.FnExactAccTake', WHERE WHAT IT READS IS OF BULK AT MOST 1048576: true; the input reads as it did. -/
def fnExactAccTakeUptoRow : OpenClaim := { program := "ytaoedgcdcimibaa", sum := "9f9a9d5e680573d1b7c0bf33da11675a38f552e250ecac39ac0fd3e678777c4d", func := "loop.example/g00801/laws.FnExactAccTake", spec := "fnExactAccTake", apart := false, narrowed := true }
def FnExactAccTakeUptoSaid : Prop := fnExactAccTakeUptoRow.holds Try.pinned (OpenSpec.upto fnExactAccTakeSpec)

/-- 'laws.FnExactPropOk', WHERE WHAT IT READS IS OF BULK AT MOST 1048576: true; the input reads as it did. -/
def fnExactPropOkUptoRow : OpenClaim := { program := "ytaoedgcdcimibaa", sum := "9f9a9d5e680573d1b7c0bf33da11675a38f552e250ecac39ac0fd3e678777c4d", func := "loop.example/g00801/laws.FnExactPropOk", spec := "fnExactPropOk", apart := false, narrowed := true }
def FnExactPropOkUptoSaid : Prop := fnExactPropOkUptoRow.holds Try.pinned (OpenSpec.upto fnExactPropOkSpec)

/-- 'laws.FnExactPropNew', WHERE WHAT IT READS IS OF BULK AT MOST 1048576: true; the input reads as it did. -/
def fnExactPropNewUptoRow : OpenClaim := { program := "ytaoedgcdcimibaa", sum := "9f9a9d5e680573d1b7c0bf33da11675a38f552e250ecac39ac0fd3e678777c4d", func := "loop.example/g00801/laws.FnExactPropNew", spec := "fnExactPropNew", apart := false, narrowed := true }
def FnExactPropNewUptoSaid : Prop := fnExactPropNewUptoRow.holds Try.pinned (OpenSpec.upto fnExactPropNewSpec)

/-- 'laws.FnExactPropHear', WHERE WHAT IT READS IS OF BULK AT MOST 1048576: true; the input reads as it did. -/
def fnExactPropHearUptoRow : OpenClaim := { program := "ytaoedgcdcimibaa", sum := "9f9a9d5e680573d1b7c0bf33da11675a38f552e250ecac39ac0fd3e678777c4d", func := "loop.example/g00801/laws.FnExactPropHear", spec := "fnExactPropHear", inPlace := ["slices.overlaps[int]"], apart := false, narrowed := true }
def FnExactPropHearUptoSaid : Prop := fnExactPropHearUptoRow.holds Try.pinned (OpenSpec.upto fnExactPropHearSpec)

end Rows
end Go.Proofs.Ytaoedgcdcimibaa
