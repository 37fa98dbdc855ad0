/-
  No cell of these rows narrows 'for every input' (looked for: loops, veiled, ifaces, maps, wideKeys, modest, calm, conditions, laid).
  DERIVED. THE GIVEN ROWS OF THIS SEAT. 3 by the template 'for every input the law returns true; each argument reads behind the call as it read before'; 0 by the template 'total and deterministic' (their statements: YtaoedgcdcimibabTotals.lean).
  GIVEN WITH THE SEED: the statements are not yours to turn. If you find one false, say at which input.
  Laid BY PROGRAM, IN A SANDBOX (cutbox-rows.mjs): the forced cells as the released guide's own fill.sh prints them over the translation 6f63b5d2f9b6f024… (all of the seat's roots in one cut). By AI agents, Wed Nov 11 2026. No macro, syntax, notation, axiom, sorry.
-/
import Derived.Test.YtaoedgcdcimibabChecked
import GoSem.Claim
import GoSem.ClaimJoined
import GoSem.ClaimMapViews
import Derived.JoinedTies
import Derived.KernelRfl
namespace Go.Proofs.Ytaoedgcdcimibab
/- THE CELL 'sum', in the pinned program and in every row, IS THE sha256 OF THE DUMP (.gsa) THAT YtaoedgcdcimibabProg.lean LOADS. Nothing in Lean hashes anything: it is a label: what it is worth is what the hold of that sum in a sandbox is worth. -/
noncomputable def Try.pinned : Pinned := { name := "ytaoedgcdcimibab", sum := "6f63b5d2f9b6f024bd895224fe3c63032340eb0a9ef5306623f33589c540a8cc", checked := Try.checked }
namespace Rows
def none {H : Type} : Left H := { results := [], args := [] }

/-- 'laws.FnExactPropReady': WHATEVER THE INPUT: true; the input reads as it did. -/
def fnExactPropReadySpec : ChangeSpec := { name := "fnExactPropReady", fn := fun _ => fun
  | [d1, d2] => { results := [.lit (.bool true)], args := [d1, d2] }
  | _ => none }
def fnExactPropReadyRow : OpenClaim := { program := "ytaoedgcdcimibab", sum := "6f63b5d2f9b6f024bd895224fe3c63032340eb0a9ef5306623f33589c540a8cc", func := "loop.example/g00801/laws.FnExactPropReady", spec := "fnExactPropReady", apart := false }
def FnExactPropReadySaid : Prop := fnExactPropReadyRow.holds Try.pinned (OpenSpec.ofChange fnExactPropReadySpec)

/-- ITS FALSE NEIGHBOUR: 'it returns false'. Refute it at one input. -/
def fnExactPropReadyWrong : ChangeSpec := { name := "fnExactPropReady", fn := fun _ => fun
  | [d1, d2] => { results := [.lit (.bool false)], args := [d1, d2] }
  | _ => none }
def FnExactPropReadyWrongFalsely : Prop := fnExactPropReadyRow.holds Try.pinned (OpenSpec.ofChange fnExactPropReadyWrong)

/-- 'laws.FnExactPropGot': WHATEVER THE INPUT: true; the input reads as it did. -/
def fnExactPropGotSpec : ChangeSpec := { name := "fnExactPropGot", fn := fun _ => fun
  | [d1, d2] => { results := [.lit (.bool true)], args := [d1, d2] }
  | _ => none }
def fnExactPropGotRow : OpenClaim := { program := "ytaoedgcdcimibab", sum := "6f63b5d2f9b6f024bd895224fe3c63032340eb0a9ef5306623f33589c540a8cc", func := "loop.example/g00801/laws.FnExactPropGot", spec := "fnExactPropGot", inPlace := ["slices.overlaps[int]"], apart := false }
def FnExactPropGotSaid : Prop := fnExactPropGotRow.holds Try.pinned (OpenSpec.ofChange fnExactPropGotSpec)

/-- ITS FALSE NEIGHBOUR: 'it returns false'. Refute it at one input. -/
def fnExactPropGotWrong : ChangeSpec := { name := "fnExactPropGot", fn := fun _ => fun
  | [d1, d2] => { results := [.lit (.bool false)], args := [d1, d2] }
  | _ => none }
def FnExactPropGotWrongFalsely : Prop := fnExactPropGotRow.holds Try.pinned (OpenSpec.ofChange fnExactPropGotWrong)

/-- 'laws.FnExactPropWon': WHATEVER THE INPUT: true; the input reads as it did. -/
def fnExactPropWonSpec : ChangeSpec := { name := "fnExactPropWon", fn := fun _ => fun
  | [d1, d2] => { results := [.lit (.bool true)], args := [d1, d2] }
  | _ => none }
def fnExactPropWonRow : OpenClaim := { program := "ytaoedgcdcimibab", sum := "6f63b5d2f9b6f024bd895224fe3c63032340eb0a9ef5306623f33589c540a8cc", func := "loop.example/g00801/laws.FnExactPropWon", spec := "fnExactPropWon", apart := false }
def FnExactPropWonSaid : Prop := fnExactPropWonRow.holds Try.pinned (OpenSpec.ofChange fnExactPropWonSpec)

/-- ITS FALSE NEIGHBOUR: 'it returns false'. Refute it at one input. -/
def fnExactPropWonWrong : ChangeSpec := { name := "fnExactPropWon", fn := fun _ => fun
  | [d1, d2] => { results := [.lit (.bool false)], args := [d1, d2] }
  | _ => none }
def FnExactPropWonWrongFalsely : Prop := fnExactPropWonRow.holds Try.pinned (OpenSpec.ofChange fnExactPropWonWrong)

/- THE SECOND FORM. 'bulk': how many values and letters a reading holds, each counted each time it is reached (what is shared counts as often as it is met; a slice's spare places count too). A statement '..UptoSaid' is the law's where the arguments, and the package variables that the reading takes, are together of bulk at most 1048576: NARROWER than '..Said'. Prove '..Said' where nothing that the law and all that it calls make is longer than what came in: it says more and counts as full. Else prove '..UptoSaid'. A law counts once. -/
mutual
def uptoBulk {H : Type} : DataW H → Nat
  | .lit (.string bytes) => bytes.length + 1
  | .lit _ => 1
  | .nil => 1
  | .ptr d => uptoBulk d + 1
  | .slice elems spare => uptoBulkAll elems + uptoBulkAll spare + 1
  | .agg parts => uptoBulkAll parts + 1
  | .iface _ d => uptoBulk d + 1
  | .map entries => uptoBulkEntries entries + 1
  | .held _ => 1
def uptoBulkAll {H : Type} : List (DataW H) → Nat
  | [] => 0
  | d :: r => uptoBulk d + uptoBulkAll r
def uptoBulkEntries {H : Type} : List (Lit × DataW H) → Nat
  | [] => 0
  | x :: r => uptoBulkEntry x + uptoBulkEntries r
def uptoBulkEntry {H : Type} : Lit × DataW H → Nat
  | (.string bytes, d) => bytes.length + uptoBulk d + 1
  | (_, d) => uptoBulk d + 1
 end
def uptoSmall : (H : Type) → List (DataW H) → Bool := fun _ ds => decide (uptoBulkAll ds ≤ 1048576)
def OpenSpec.upto (s : _root_.Go.ChangeSpec) : _root_.Go.OpenSpec := { _root_.Go.OpenSpec.ofChange s with cond := some uptoSmall }

/-- 'laws.FnExactPropReady', WHERE WHAT IT READS IS OF BULK AT MOST 1048576: true; the input reads as it did. -/
def fnExactPropReadyUptoRow : OpenClaim := { program := "ytaoedgcdcimibab", sum := "6f63b5d2f9b6f024bd895224fe3c63032340eb0a9ef5306623f33589c540a8cc", func := "loop.example/g00801/laws.FnExactPropReady", spec := "fnExactPropReady", apart := false, narrowed := true }
def FnExactPropReadyUptoSaid : Prop := fnExactPropReadyUptoRow.holds Try.pinned (OpenSpec.upto fnExactPropReadySpec)

/-- 'laws.FnExactPropGot', WHERE WHAT IT READS IS OF BULK AT MOST 1048576: true; the input reads as it did. -/
def fnExactPropGotUptoRow : OpenClaim := { program := "ytaoedgcdcimibab", sum := "6f63b5d2f9b6f024bd895224fe3c63032340eb0a9ef5306623f33589c540a8cc", func := "loop.example/g00801/laws.FnExactPropGot", spec := "fnExactPropGot", inPlace := ["slices.overlaps[int]"], apart := false, narrowed := true }
def FnExactPropGotUptoSaid : Prop := fnExactPropGotUptoRow.holds Try.pinned (OpenSpec.upto fnExactPropGotSpec)

/-- 'laws.FnExactPropWon', WHERE WHAT IT READS IS OF BULK AT MOST 1048576: true; the input reads as it did. -/
def fnExactPropWonUptoRow : OpenClaim := { program := "ytaoedgcdcimibab", sum := "6f63b5d2f9b6f024bd895224fe3c63032340eb0a9ef5306623f33589c540a8cc", func := "loop.example/g00801/laws.FnExactPropWon", spec := "fnExactPropWon", apart := false, narrowed := true }
def FnExactPropWonUptoSaid : Prop := fnExactPropWonUptoRow.holds Try.pinned (OpenSpec.upto fnExactPropWonSpec)

end Rows
end Go.Proofs.Ytaoedgcdcimibab
