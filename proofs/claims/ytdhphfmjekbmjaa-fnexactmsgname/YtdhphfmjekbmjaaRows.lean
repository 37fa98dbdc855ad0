/-
  No cell of these rows narrows 'for every input' (looked for: loops, veiled, ifaces, maps, wideKeys, modest, calm, conditions, laid).
  DERIVED. THE GIVEN ROWS OF THIS SEAT. 5 by the template 'for every input the law returns true; each argument reads behind the call as it read before'; 0 by the template 'total and deterministic' (their statements: YtdhphfmjekbmjaaTotals.lean).
  GIVEN WITH THE SEED: the statements are not yours to turn. If you find one false, say at which input.
  Laid BY PROGRAM, IN A SANDBOX (cutbox-rows.mjs): the forced cells as the released guide's own fill.sh prints them over the translation df30eb8e2407a2ea… (all of the seat's roots in one cut). By AI agents, Wed Nov 11 2026. No macro, syntax, notation, axiom, sorry.
-/
import Derived.Test.YtdhphfmjekbmjaaChecked
import GoSem.Claim
import GoSem.ClaimJoined
import GoSem.ClaimMapViews
import Derived.JoinedTies
import Derived.KernelRfl
namespace Go.Proofs.Ytdhphfmjekbmjaa
/- THE CELL 'sum', in the pinned program and in every row, IS THE sha256 OF THE DUMP (.gsa) THAT YtdhphfmjekbmjaaProg.lean LOADS. Nothing in Lean hashes anything: it is a label: what it is worth is what the hold of that sum in a sandbox is worth. -/
noncomputable def Try.pinned : Pinned := { name := "ytdhphfmjekbmjaa", sum := "df30eb8e2407a2ea71d15e3389387c444f257551bb023b7904d1e5a1af492880", checked := Try.checked }
namespace Rows
def none {H : Type} : Left H := { results := [], args := [] }

/-- 'laws.FnExactMsgOk': WHATEVER THE INPUT: true; the input reads as it did. -/
def fnExactMsgOkSpec : ChangeSpec := { name := "fnExactMsgOk", fn := fun _ => fun
  | [d] => { results := [.lit (.bool true)], args := [d] }
  | _ => none }
def fnExactMsgOkRow : OpenClaim := { program := "ytdhphfmjekbmjaa", sum := "df30eb8e2407a2ea71d15e3389387c444f257551bb023b7904d1e5a1af492880", func := "loop.example/g00801/laws.FnExactMsgOk", spec := "fnExactMsgOk", unfollowed := true, recurses := true, apart := false }
def FnExactMsgOkSaid : Prop := fnExactMsgOkRow.holds Try.pinned (OpenSpec.ofChange fnExactMsgOkSpec)

/-- ITS FALSE NEIGHBOUR: 'it returns false'. Refute it at one input. -/
def fnExactMsgOkWrong : ChangeSpec := { name := "fnExactMsgOk", fn := fun _ => fun
  | [d] => { results := [.lit (.bool false)], args := [d] }
  | _ => none }
def FnExactMsgOkWrongFalsely : Prop := fnExactMsgOkRow.holds Try.pinned (OpenSpec.ofChange fnExactMsgOkWrong)

/-- 'laws.FnExactMsgPut': WHATEVER THE INPUT: true; the input reads as it did. -/
def fnExactMsgPutSpec : ChangeSpec := { name := "fnExactMsgPut", fn := fun _ => fun
  | [d1, d2] => { results := [.lit (.bool true)], args := [d1, d2] }
  | _ => none }
def fnExactMsgPutRow : OpenClaim := { program := "ytdhphfmjekbmjaa", sum := "df30eb8e2407a2ea71d15e3389387c444f257551bb023b7904d1e5a1af492880", func := "loop.example/g00801/laws.FnExactMsgPut", spec := "fnExactMsgPut", unfollowed := true, recurses := true, apart := false }
def FnExactMsgPutSaid : Prop := fnExactMsgPutRow.holds Try.pinned (OpenSpec.ofChange fnExactMsgPutSpec)

/-- ITS FALSE NEIGHBOUR: 'it returns false'. Refute it at one input. -/
def fnExactMsgPutWrong : ChangeSpec := { name := "fnExactMsgPut", fn := fun _ => fun
  | [d1, d2] => { results := [.lit (.bool false)], args := [d1, d2] }
  | _ => none }
def FnExactMsgPutWrongFalsely : Prop := fnExactMsgPutRow.holds Try.pinned (OpenSpec.ofChange fnExactMsgPutWrong)

/-- 'laws.FnExactMsgGet': WHATEVER THE INPUT: true; the input reads as it did. -/
def fnExactMsgGetSpec : ChangeSpec := { name := "fnExactMsgGet", fn := fun _ => fun
  | [d1, d2] => { results := [.lit (.bool true)], args := [d1, d2] }
  | _ => none }
def fnExactMsgGetRow : OpenClaim := { program := "ytdhphfmjekbmjaa", sum := "df30eb8e2407a2ea71d15e3389387c444f257551bb023b7904d1e5a1af492880", func := "loop.example/g00801/laws.FnExactMsgGet", spec := "fnExactMsgGet", unfollowed := true, recurses := true, apart := false }
def FnExactMsgGetSaid : Prop := fnExactMsgGetRow.holds Try.pinned (OpenSpec.ofChange fnExactMsgGetSpec)

/-- ITS FALSE NEIGHBOUR: 'it returns false'. Refute it at one input. -/
def fnExactMsgGetWrong : ChangeSpec := { name := "fnExactMsgGet", fn := fun _ => fun
  | [d1, d2] => { results := [.lit (.bool false)], args := [d1, d2] }
  | _ => none }
def FnExactMsgGetWrongFalsely : Prop := fnExactMsgGetRow.holds Try.pinned (OpenSpec.ofChange fnExactMsgGetWrong)

/-- 'laws.FnExactMsgName': WHATEVER THE INPUT: true; the input reads as it did. -/
def fnExactMsgNameSpec : ChangeSpec := { name := "fnExactMsgName", fn := fun _ => fun
  | [d] => { results := [.lit (.bool true)], args := [d] }
  | _ => none }
def fnExactMsgNameRow : OpenClaim := { program := "ytdhphfmjekbmjaa", sum := "df30eb8e2407a2ea71d15e3389387c444f257551bb023b7904d1e5a1af492880", func := "loop.example/g00801/laws.FnExactMsgName", spec := "fnExactMsgName", unfollowed := true, recurses := true, apart := false }
def FnExactMsgNameSaid : Prop := fnExactMsgNameRow.holds Try.pinned (OpenSpec.ofChange fnExactMsgNameSpec)

/-- ITS FALSE NEIGHBOUR: 'it returns false'. Refute it at one input. -/
def fnExactMsgNameWrong : ChangeSpec := { name := "fnExactMsgName", fn := fun _ => fun
  | [d] => { results := [.lit (.bool false)], args := [d] }
  | _ => none }
def FnExactMsgNameWrongFalsely : Prop := fnExactMsgNameRow.holds Try.pinned (OpenSpec.ofChange fnExactMsgNameWrong)

/-- 'laws.FnExactMsgWorth': WHATEVER THE INPUT: true; the input reads as it did. -/
def fnExactMsgWorthSpec : ChangeSpec := { name := "fnExactMsgWorth", fn := fun _ => fun
  | [d] => { results := [.lit (.bool true)], args := [d] }
  | _ => none }
def fnExactMsgWorthRow : OpenClaim := { program := "ytdhphfmjekbmjaa", sum := "df30eb8e2407a2ea71d15e3389387c444f257551bb023b7904d1e5a1af492880", func := "loop.example/g00801/laws.FnExactMsgWorth", spec := "fnExactMsgWorth", unfollowed := true, recurses := true, apart := false }
def FnExactMsgWorthSaid : Prop := fnExactMsgWorthRow.holds Try.pinned (OpenSpec.ofChange fnExactMsgWorthSpec)

/-- ITS FALSE NEIGHBOUR: 'it returns false'. Refute it at one input. -/
def fnExactMsgWorthWrong : ChangeSpec := { name := "fnExactMsgWorth", fn := fun _ => fun
  | [d] => { results := [.lit (.bool false)], args := [d] }
  | _ => none }
def FnExactMsgWorthWrongFalsely : Prop := fnExactMsgWorthRow.holds Try.pinned (OpenSpec.ofChange fnExactMsgWorthWrong)

/- THE SECOND FORM. 'bulk': how many values and letters a reading holds, each counted each time it is reached (what is shared counts as often as it is met; a slice's spare places count too). A statement '..UptoSaid' is the law's where the arguments, and the package variables that the reading takes, are together of bulk at most 1048576: NARROWER than '..Said'. Prove '..Said' where nothing that the law and all that it calls make is longer than what came in: it says more and counts as full. Else prove '..UptoSaid'. A law counts once. -/
mutual
def uptoBulk {H : Type} : DataW H → Nat
  | .lit (.string bytes) => bytes.length + 1
  | .lit _ => 1
  | .nil => 1
  | .ptr d => uptoBulk d + 1
  | .slice elems spare => uptoBulkAll elems + uptoBulkAll spare + 1
  | .agg parts => uptoBulkAll parts + 1
  | .iface _ d => uptoBulk d + 1
  | .map entries => uptoBulkEntries entries + 1
  | .held _ => 1
def uptoBulkAll {H : Type} : List (DataW H) → Nat
  | [] => 0
  | d :: r => uptoBulk d + uptoBulkAll r
def uptoBulkEntries {H : Type} : List (Lit × DataW H) → Nat
  | [] => 0
  | x :: r => uptoBulkEntry x + uptoBulkEntries r
def uptoBulkEntry {H : Type} : Lit × DataW H → Nat
  | (.string bytes, d) => bytes.length + uptoBulk d + 1
  | (_, d) => uptoBulk d + 1
 end
def uptoSmall : (H : Type) → List (DataW H) → Bool := fun _ ds => decide (uptoBulkAll ds ≤ 1048576)
def OpenSpec.upto (s : _root_.Go.ChangeSpec) : _root_.Go.OpenSpec := { _root_.Go.OpenSpec.ofChange s with cond := some uptoSmall }

/-- 'laws.FnExactMsgOk', WHERE WHAT IT READS IS OF BULK AT MOST 1048576: true; the input reads as it did. -/
def fnExactMsgOkUptoRow : OpenClaim := { program := "ytdhphfmjekbmjaa", sum := "df30eb8e2407a2ea71d15e3389387c444f257551bb023b7904d1e5a1af492880", func := "loop.example/g00801/laws.FnExactMsgOk", spec := "fnExactMsgOk", unfollowed := true, recurses := true, apart := false, narrowed := true }
def FnExactMsgOkUptoSaid : Prop := fnExactMsgOkUptoRow.holds Try.pinned (OpenSpec.upto fnExactMsgOkSpec)

/-- 'laws.FnExactMsgPut', WHERE WHAT IT READS IS OF BULK AT MOST 1048576: true; the input reads as it did. -/
def fnExactMsgPutUptoRow : OpenClaim := { program := "ytdhphfmjekbmjaa", sum := "df30eb8e2407a2ea71d15e3389387c444f257551bb023b7904d1e5a1af492880", func := "loop.example/g00801/laws.FnExactMsgPut", spec := "fnExactMsgPut", unfollowed := true, recurses := true, apart := false, narrowed := true }
def FnExactMsgPutUptoSaid : Prop := fnExactMsgPutUptoRow.holds Try.pinned (OpenSpec.upto fnExactMsgPutSpec)

/-- 'laws.FnExactMsgGet', WHERE WHAT IT READS IS OF BULK AT MOST 1048576: true; the input reads as it did. -/
def fnExactMsgGetUptoRow : OpenClaim := { program := "ytdhphfmjekbmjaa", sum := "df30eb8e2407a2ea71d15e3389387c444f257551bb023b7904d1e5a1af492880", func := "loop.example/g00801/laws.FnExactMsgGet", spec := "fnExactMsgGet", unfollowed := true, recurses := true, apart := false, narrowed := true }
def FnExactMsgGetUptoSaid : Prop := fnExactMsgGetUptoRow.holds Try.pinned (OpenSpec.upto fnExactMsgGetSpec)

/-- 'laws.FnExactMsgName', WHERE WHAT IT READS IS OF BULK AT MOST 1048576: true; the input reads as it did. -/
def fnExactMsgNameUptoRow : OpenClaim := { program := "ytdhphfmjekbmjaa", sum := "df30eb8e2407a2ea71d15e3389387c444f257551bb023b7904d1e5a1af492880", func := "loop.example/g00801/laws.FnExactMsgName", spec := "fnExactMsgName", unfollowed := true, recurses := true, apart := false, narrowed := true }
def FnExactMsgNameUptoSaid : Prop := fnExactMsgNameUptoRow.holds Try.pinned (OpenSpec.upto fnExactMsgNameSpec)

/-- 'laws.FnExactMsgWorth', WHERE WHAT IT READS IS OF BULK AT MOST 1048576: true; the input reads as it did. -/
def fnExactMsgWorthUptoRow : OpenClaim := { program := "ytdhphfmjekbmjaa", sum := "df30eb8e2407a2ea71d15e3389387c444f257551bb023b7904d1e5a1af492880", func := "loop.example/g00801/laws.FnExactMsgWorth", spec := "fnExactMsgWorth", unfollowed := true, recurses := true, apart := false, narrowed := true }
def FnExactMsgWorthUptoSaid : Prop := fnExactMsgWorthUptoRow.holds Try.pinned (OpenSpec.upto fnExactMsgWorthSpec)

end Rows
end Go.Proofs.Ytdhphfmjekbmjaa
