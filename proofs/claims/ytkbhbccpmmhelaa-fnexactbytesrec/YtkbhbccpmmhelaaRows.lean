/-
  No cell of these rows narrows 'for every input' (looked for: loops, veiled, ifaces, maps, wideKeys, modest, calm, conditions, laid).
  DERIVED. THE GIVEN ROWS OF THIS SEAT. 4 by the template 'for every input the law returns true; each argument reads behind the call as it read before'; 0 by the template 'total and deterministic' (their statements: YtkbhbccpmmhelaaTotals.lean).
  GIVEN WITH THE SEED: the statements are not yours to turn. If you find one false, say at which input.
  Laid BY PROGRAM, IN A SANDBOX (cutbox-rows.mjs): the forced cells as the released guide's own fill.sh prints them over the translation 8dfe5119c27620e0… (all of the seat's roots in one cut). By AI agents, Wed Nov 11 2026. No macro, syntax, notation, axiom, sorry.
-/
import Derived.Test.YtkbhbccpmmhelaaChecked
import GoSem.Claim
import GoSem.ClaimJoined
import GoSem.ClaimMapViews
import Derived.JoinedTies
import Derived.KernelRfl
namespace Go.Proofs.Ytkbhbccpmmhelaa
/- THE CELL 'sum', in the pinned program and in every row, IS THE sha256 OF THE DUMP (.gsa) THAT YtkbhbccpmmhelaaProg.lean LOADS. Nothing in Lean hashes anything: it is a label: what it is worth is what the hold of that sum in a sandbox is worth. -/
noncomputable def Try.pinned : Pinned := { name := "ytkbhbccpmmhelaa", sum := "8dfe5119c27620e0e441f5a1f25e6f6ed05465f4e023c10c0744b51db14a98b6", checked := Try.checked }
namespace Rows
def none {H : Type} : Left H := { results := [], args := [] }

/-- 'laws.FnExactRecOk': WHATEVER THE INPUT: true; the input reads as it did. -/
def fnExactRecOkSpec : ChangeSpec := { name := "fnExactRecOk", fn := fun _ => fun
  | [d] => { results := [.lit (.bool true)], args := [d] }
  | _ => none }
def fnExactRecOkRow : OpenClaim := { program := "ytkbhbccpmmhelaa", sum := "8dfe5119c27620e0e441f5a1f25e6f6ed05465f4e023c10c0744b51db14a98b6", func := "loop.example/g00801/laws.FnExactRecOk", spec := "fnExactRecOk", unfollowed := true, recurses := true, apart := false }
def FnExactRecOkSaid : Prop := fnExactRecOkRow.holds Try.pinned (OpenSpec.ofChange fnExactRecOkSpec)

/-- ITS FALSE NEIGHBOUR: 'it returns false'. Refute it at one input. -/
def fnExactRecOkWrong : ChangeSpec := { name := "fnExactRecOk", fn := fun _ => fun
  | [d] => { results := [.lit (.bool false)], args := [d] }
  | _ => none }
def FnExactRecOkWrongFalsely : Prop := fnExactRecOkRow.holds Try.pinned (OpenSpec.ofChange fnExactRecOkWrong)

/-- 'laws.FnExactRecBytes': WHATEVER THE INPUT: true; the input reads as it did. -/
def fnExactRecBytesSpec : ChangeSpec := { name := "fnExactRecBytes", fn := fun _ => fun
  | [d] => { results := [.lit (.bool true)], args := [d] }
  | _ => none }
def fnExactRecBytesRow : OpenClaim := { program := "ytkbhbccpmmhelaa", sum := "8dfe5119c27620e0e441f5a1f25e6f6ed05465f4e023c10c0744b51db14a98b6", func := "loop.example/g00801/laws.FnExactRecBytes", spec := "fnExactRecBytes", unfollowed := true, recurses := true, apart := false }
def FnExactRecBytesSaid : Prop := fnExactRecBytesRow.holds Try.pinned (OpenSpec.ofChange fnExactRecBytesSpec)

/-- ITS FALSE NEIGHBOUR: 'it returns false'. Refute it at one input. -/
def fnExactRecBytesWrong : ChangeSpec := { name := "fnExactRecBytes", fn := fun _ => fun
  | [d] => { results := [.lit (.bool false)], args := [d] }
  | _ => none }
def FnExactRecBytesWrongFalsely : Prop := fnExactRecBytesRow.holds Try.pinned (OpenSpec.ofChange fnExactRecBytesWrong)

/-- 'laws.FnExactBytesRec': WHATEVER THE INPUT: true; the input reads as it did. -/
def fnExactBytesRecSpec : ChangeSpec := { name := "fnExactBytesRec", fn := fun _ => fun
  | [d] => { results := [.lit (.bool true)], args := [d] }
  | _ => none }
def fnExactBytesRecRow : OpenClaim := { program := "ytkbhbccpmmhelaa", sum := "8dfe5119c27620e0e441f5a1f25e6f6ed05465f4e023c10c0744b51db14a98b6", func := "loop.example/g00801/laws.FnExactBytesRec", spec := "fnExactBytesRec", unfollowed := true, recurses := true, apart := false }
def FnExactBytesRecSaid : Prop := fnExactBytesRecRow.holds Try.pinned (OpenSpec.ofChange fnExactBytesRecSpec)

/-- ITS FALSE NEIGHBOUR: 'it returns false'. Refute it at one input. -/
def fnExactBytesRecWrong : ChangeSpec := { name := "fnExactBytesRec", fn := fun _ => fun
  | [d] => { results := [.lit (.bool false)], args := [d] }
  | _ => none }
def FnExactBytesRecWrongFalsely : Prop := fnExactBytesRecRow.holds Try.pinned (OpenSpec.ofChange fnExactBytesRecWrong)

/-- 'laws.FnExactRkName': WHATEVER THE INPUT: true; the input reads as it did. -/
def fnExactRkNameSpec : ChangeSpec := { name := "fnExactRkName", fn := fun _ => fun
  | [d] => { results := [.lit (.bool true)], args := [d] }
  | _ => none }
def fnExactRkNameRow : OpenClaim := { program := "ytkbhbccpmmhelaa", sum := "8dfe5119c27620e0e441f5a1f25e6f6ed05465f4e023c10c0744b51db14a98b6", func := "loop.example/g00801/laws.FnExactRkName", spec := "fnExactRkName", apart := false }
def FnExactRkNameSaid : Prop := fnExactRkNameRow.holds Try.pinned (OpenSpec.ofChange fnExactRkNameSpec)

/-- ITS FALSE NEIGHBOUR: 'it returns false'. Refute it at one input. -/
def fnExactRkNameWrong : ChangeSpec := { name := "fnExactRkName", fn := fun _ => fun
  | [d] => { results := [.lit (.bool false)], args := [d] }
  | _ => none }
def FnExactRkNameWrongFalsely : Prop := fnExactRkNameRow.holds Try.pinned (OpenSpec.ofChange fnExactRkNameWrong)

/- THE SECOND FORM. 'bulk': how many values and letters a reading holds, each counted each time it is reached (what is shared counts as often as it is met; a slice's spare places count too). A statement '..UptoSaid' is the law's where the arguments, and the package variables that the reading takes, are together of bulk at most 1048576: NARROWER than '..Said'. Prove '..Said' where nothing that the law and all that it calls make is longer than what came in: it says more and counts as full. Else prove '..UptoSaid'. A law counts once. -/
mutual
def uptoBulk {H : Type} : DataW H → Nat
  | .lit (.string bytes) => bytes.length + 1
  | .lit _ => 1
  | .nil => 1
  | .ptr d => uptoBulk d + 1
  | .slice elems spare => uptoBulkAll elems + uptoBulkAll spare + 1
  | .agg parts => uptoBulkAll parts + 1
  | .iface _ d => uptoBulk d + 1
  | .map entries => uptoBulkEntries entries + 1
  | .held _ => 1
def uptoBulkAll {H : Type} : List (DataW H) → Nat
  | [] => 0
  | d :: r => uptoBulk d + uptoBulkAll r
def uptoBulkEntries {H : Type} : List (Lit × DataW H) → Nat
  | [] => 0
  | x :: r => uptoBulkEntry x + uptoBulkEntries r
def uptoBulkEntry {H : Type} : Lit × DataW H → Nat
  | (.string bytes, d) => bytes.length + uptoBulk d + 1
  | (_, d) => uptoBulk d + 1
 end
def uptoSmall : (H : Type) → List (DataW H) → Bool := fun _ ds => decide (uptoBulkAll ds ≤ 1048576)
def OpenSpec.upto (s : _root_.Go.ChangeSpec) : _root_.Go.OpenSpec := { _root_.Go.OpenSpec.ofChange s with cond := some uptoSmall }

/-- 'laws.FnExactRecOk', WHERE WHAT IT READS IS OF BULK AT MOST 1048576: true; the input reads as it did. -/
def fnExactRecOkUptoRow : OpenClaim := { program := "ytkbhbccpmmhelaa", sum := "8dfe5119c27620e0e441f5a1f25e6f6ed05465f4e023c10c0744b51db14a98b6", func := "loop.example/g00801/laws.FnExactRecOk", spec := "fnExactRecOk", unfollowed := true, recurses := true, apart := false, narrowed := true }
def FnExactRecOkUptoSaid : Prop := fnExactRecOkUptoRow.holds Try.pinned (OpenSpec.upto fnExactRecOkSpec)

/-- 'laws.FnExactRecBytes', WHERE WHAT IT READS IS OF BULK AT MOST 1048576: true; the input reads as it did. -/
def fnExactRecBytesUptoRow : OpenClaim := { program := "ytkbhbccpmmhelaa", sum := "8dfe5119c27620e0e441f5a1f25e6f6ed05465f4e023c10c0744b51db14a98b6", func := "loop.example/g00801/laws.FnExactRecBytes", spec := "fnExactRecBytes", unfollowed := true, recurses := true, apart := false, narrowed := true }
def FnExactRecBytesUptoSaid : Prop := fnExactRecBytesUptoRow.holds Try.pinned (OpenSpec.upto fnExactRecBytesSpec)

/-- 'laws.FnExactBytesRec', WHERE WHAT IT READS IS OF BULK AT MOST 1048576: true; the input reads as it did. -/
def fnExactBytesRecUptoRow : OpenClaim := { program := "ytkbhbccpmmhelaa", sum := "8dfe5119c27620e0e441f5a1f25e6f6ed05465f4e023c10c0744b51db14a98b6", func := "loop.example/g00801/laws.FnExactBytesRec", spec := "fnExactBytesRec", unfollowed := true, recurses := true, apart := false, narrowed := true }
def FnExactBytesRecUptoSaid : Prop := fnExactBytesRecUptoRow.holds Try.pinned (OpenSpec.upto fnExactBytesRecSpec)

/-- 'laws.FnExactRkName', WHERE WHAT IT READS IS OF BULK AT MOST 1048576: true; the input reads as it did. -/
def fnExactRkNameUptoRow : OpenClaim := { program := "ytkbhbccpmmhelaa", sum := "8dfe5119c27620e0e441f5a1f25e6f6ed05465f4e023c10c0744b51db14a98b6", func := "loop.example/g00801/laws.FnExactRkName", spec := "fnExactRkName", apart := false, narrowed := true }
def FnExactRkNameUptoSaid : Prop := fnExactRkNameUptoRow.holds Try.pinned (OpenSpec.upto fnExactRkNameSpec)

end Rows
end Go.Proofs.Ytkbhbccpmmhelaa
