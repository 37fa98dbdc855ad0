/-
  No cell of these rows narrows 'for every input' (looked for: loops, veiled, ifaces, maps, wideKeys, modest, calm, conditions, laid).
  DERIVED. THE GIVEN ROWS OF THIS SEAT. 10 by the template 'for every input the law returns true; each argument reads behind the call as it read before'; 0 by the template 'total and deterministic' (their statements: YtopmojfcdmcmbaaTotals.lean).
  GIVEN WITH THE SEED: the statements are not yours to turn. If you find one false, say at which input.
  Laid BY PROGRAM, IN A SANDBOX (cutbox-rows.mjs): the forced cells as the released guide's own fill.sh prints them over the translation bf10873b9f7188b1… (all of the seat's roots in one cut). By AI agents, Wed Nov 11 2026. No macro, syntax, notation, axiom, sorry.
-/
import Derived.Test.YtopmojfcdmcmbaaChecked
import GoSem.Claim
import GoSem.ClaimJoined
import GoSem.ClaimMapViews
import Derived.JoinedTies
import Derived.KernelRfl
namespace Go.Proofs.Ytopmojfcdmcmbaa
/- THE CELL 'sum', in the pinned program and in every row, IS THE sha256 OF THE DUMP (.gsa) THAT YtopmojfcdmcmbaaProg.lean LOADS. Nothing in Lean hashes anything: it is a label: what it is worth is what the hold of that sum in a sandbox is worth. -/
noncomputable def Try.pinned : Pinned := { name := "ytopmojfcdmcmbaa", sum := "bf10873b9f7188b1e1de72ee0463b90911d88d40855055bc4c392807a30b5a8f", checked := Try.checked }
namespace Rows
def none {H : Type} : Left H := { results := [], args := [] }

/-- 'laws.FnFinal': WHATEVER THE INPUT: true; the input reads as it did. -/
def fnFinalSpec : ChangeSpec := { name := "fnFinal", fn := fun _ => fun
  | [d] => { results := [.lit (.bool true)], args := [d] }
  | _ => none }
def fnFinalRow : OpenClaim := { program := "ytopmojfcdmcmbaa", sum := "bf10873b9f7188b1e1de72ee0463b90911d88d40855055bc4c392807a30b5a8f", func := "loop.example/g00801/laws.FnFinal", spec := "fnFinal", unfollowed := true, recurses := true, apart := false }
def FnFinalSaid : Prop := fnFinalRow.holds Try.pinned (OpenSpec.ofChange fnFinalSpec)

/-- ITS FALSE NEIGHBOUR: 'it returns false'. Refute it at one input. -/
def fnFinalWrong : ChangeSpec := { name := "fnFinal", fn := fun _ => fun
  | [d] => { results := [.lit (.bool false)], args := [d] }
  | _ => none }
def FnFinalWrongFalsely : Prop := fnFinalRow.holds Try.pinned (OpenSpec.ofChange fnFinalWrong)

/-- 'laws.FnAcct': WHATEVER THE INPUT: true; the input reads as it did. -/
def fnAcctSpec : ChangeSpec := { name := "fnAcct", fn := fun _ => fun
  | [d] => { results := [.lit (.bool true)], args := [d] }
  | _ => none }
def fnAcctRow : OpenClaim := { program := "ytopmojfcdmcmbaa", sum := "bf10873b9f7188b1e1de72ee0463b90911d88d40855055bc4c392807a30b5a8f", func := "loop.example/g00801/laws.FnAcct", spec := "fnAcct", unfollowed := true, recurses := true, apart := false }
def FnAcctSaid : Prop := fnAcctRow.holds Try.pinned (OpenSpec.ofChange fnAcctSpec)

/-- ITS FALSE NEIGHBOUR: 'it returns false'. Refute it at one input. -/
def fnAcctWrong : ChangeSpec := { name := "fnAcct", fn := fun _ => fun
  | [d] => { results := [.lit (.bool false)], args := [d] }
  | _ => none }
def FnAcctWrongFalsely : Prop := fnAcctRow.holds Try.pinned (OpenSpec.ofChange fnAcctWrong)

/-- 'laws.FnExactAcctOk': WHATEVER THE INPUT: true; the input reads as it did. -/
def fnExactAcctOkSpec : ChangeSpec := { name := "fnExactAcctOk", fn := fun _ => fun
  | [d1, d2, d3] => { results := [.lit (.bool true)], args := [d1, d2, d3] }
  | _ => none }
def fnExactAcctOkRow : OpenClaim := { program := "ytopmojfcdmcmbaa", sum := "bf10873b9f7188b1e1de72ee0463b90911d88d40855055bc4c392807a30b5a8f", func := "loop.example/g00801/laws.FnExactAcctOk", spec := "fnExactAcctOk", apart := false }
def FnExactAcctOkSaid : Prop := fnExactAcctOkRow.holds Try.pinned (OpenSpec.ofChange fnExactAcctOkSpec)

/-- ITS FALSE NEIGHBOUR: 'it returns false'. Refute it at one input. -/
def fnExactAcctOkWrong : ChangeSpec := { name := "fnExactAcctOk", fn := fun _ => fun
  | [d1, d2, d3] => { results := [.lit (.bool false)], args := [d1, d2, d3] }
  | _ => none }
def FnExactAcctOkWrongFalsely : Prop := fnExactAcctOkRow.holds Try.pinned (OpenSpec.ofChange fnExactAcctOkWrong)

/-- 'laws.FnExactAcctAdd': WHATEVER THE INPUT: true; the input reads as it did. -/
def fnExactAcctAddSpec : ChangeSpec := { name := "fnExactAcctAdd", fn := fun _ => fun
  | [d1, d2] => { results := [.lit (.bool true)], args := [d1, d2] }
  | _ => none }
def fnExactAcctAddRow : OpenClaim := { program := "ytopmojfcdmcmbaa", sum := "bf10873b9f7188b1e1de72ee0463b90911d88d40855055bc4c392807a30b5a8f", func := "loop.example/g00801/laws.FnExactAcctAdd", spec := "fnExactAcctAdd", apart := false }
def FnExactAcctAddSaid : Prop := fnExactAcctAddRow.holds Try.pinned (OpenSpec.ofChange fnExactAcctAddSpec)

/-- ITS FALSE NEIGHBOUR: 'it returns false'. Refute it at one input. -/
def fnExactAcctAddWrong : ChangeSpec := { name := "fnExactAcctAdd", fn := fun _ => fun
  | [d1, d2] => { results := [.lit (.bool false)], args := [d1, d2] }
  | _ => none }
def FnExactAcctAddWrongFalsely : Prop := fnExactAcctAddRow.holds Try.pinned (OpenSpec.ofChange fnExactAcctAddWrong)

/-- 'laws.FnExactAcctTake': WHATEVER THE INPUT: true; the input reads as it did. -/
def fnExactAcctTakeSpec : ChangeSpec := { name := "fnExactAcctTake", fn := fun _ => fun
  | [d1, d2] => { results := [.lit (.bool true)], args := [d1, d2] }
  | _ => none }
def fnExactAcctTakeRow : OpenClaim := { program := "ytopmojfcdmcmbaa", sum := "bf10873b9f7188b1e1de72ee0463b90911d88d40855055bc4c392807a30b5a8f", func := "loop.example/g00801/laws.FnExactAcctTake", spec := "fnExactAcctTake", apart := false }
def FnExactAcctTakeSaid : Prop := fnExactAcctTakeRow.holds Try.pinned (OpenSpec.ofChange fnExactAcctTakeSpec)

/-- ITS FALSE NEIGHBOUR: 'it returns false'. Refute it at one input. -/
def fnExactAcctTakeWrong : ChangeSpec := { name := "fnExactAcctTake", fn := fun _ => fun
  | [d1, d2] => { results := [.lit (.bool false)], args := [d1, d2] }
  | _ => none }
def FnExactAcctTakeWrongFalsely : Prop := fnExactAcctTakeRow.holds Try.pinned (OpenSpec.ofChange fnExactAcctTakeWrong)

/-- 'laws.FnExactAcctShut': WHATEVER THE INPUT: true; the input reads as it did. -/
def fnExactAcctShutSpec : ChangeSpec := { name := "fnExactAcctShut", fn := fun _ => fun
  | [d1, d2] => { results := [.lit (.bool true)], args := [d1, d2] }
  | _ => none }
def fnExactAcctShutRow : OpenClaim := { program := "ytopmojfcdmcmbaa", sum := "bf10873b9f7188b1e1de72ee0463b90911d88d40855055bc4c392807a30b5a8f", func := "loop.example/g00801/laws.FnExactAcctShut", spec := "fnExactAcctShut", apart := false }
def FnExactAcctShutSaid : Prop := fnExactAcctShutRow.holds Try.pinned (OpenSpec.ofChange fnExactAcctShutSpec)

/-- ITS FALSE NEIGHBOUR: 'it returns false'. Refute it at one input. -/
def fnExactAcctShutWrong : ChangeSpec := { name := "fnExactAcctShut", fn := fun _ => fun
  | [d1, d2] => { results := [.lit (.bool false)], args := [d1, d2] }
  | _ => none }
def FnExactAcctShutWrongFalsely : Prop := fnExactAcctShutRow.holds Try.pinned (OpenSpec.ofChange fnExactAcctShutWrong)

/-- 'laws.FnExactAcctRep': WHATEVER THE INPUT: true; the input reads as it did. -/
def fnExactAcctRepSpec : ChangeSpec := { name := "fnExactAcctRep", fn := fun _ => fun
  | [d1, d2, d3, d4] => { results := [.lit (.bool true)], args := [d1, d2, d3, d4] }
  | _ => none }
def fnExactAcctRepRow : OpenClaim := { program := "ytopmojfcdmcmbaa", sum := "bf10873b9f7188b1e1de72ee0463b90911d88d40855055bc4c392807a30b5a8f", func := "loop.example/g00801/laws.FnExactAcctRep", spec := "fnExactAcctRep", unfollowed := true, recurses := true, apart := false }
def FnExactAcctRepSaid : Prop := fnExactAcctRepRow.holds Try.pinned (OpenSpec.ofChange fnExactAcctRepSpec)

/-- ITS FALSE NEIGHBOUR: 'it returns false'. Refute it at one input. -/
def fnExactAcctRepWrong : ChangeSpec := { name := "fnExactAcctRep", fn := fun _ => fun
  | [d1, d2, d3, d4] => { results := [.lit (.bool false)], args := [d1, d2, d3, d4] }
  | _ => none }
def FnExactAcctRepWrongFalsely : Prop := fnExactAcctRepRow.holds Try.pinned (OpenSpec.ofChange fnExactAcctRepWrong)

/-- 'laws.FnExactFinalOf': WHATEVER THE INPUT: true; the input reads as it did. -/
def fnExactFinalOfSpec : ChangeSpec := { name := "fnExactFinalOf", fn := fun _ => fun
  | [d] => { results := [.lit (.bool true)], args := [d] }
  | _ => none }
def fnExactFinalOfRow : OpenClaim := { program := "ytopmojfcdmcmbaa", sum := "bf10873b9f7188b1e1de72ee0463b90911d88d40855055bc4c392807a30b5a8f", func := "loop.example/g00801/laws.FnExactFinalOf", spec := "fnExactFinalOf", apart := false }
def FnExactFinalOfSaid : Prop := fnExactFinalOfRow.holds Try.pinned (OpenSpec.ofChange fnExactFinalOfSpec)

/-- ITS FALSE NEIGHBOUR: 'it returns false'. Refute it at one input. -/
def fnExactFinalOfWrong : ChangeSpec := { name := "fnExactFinalOf", fn := fun _ => fun
  | [d] => { results := [.lit (.bool false)], args := [d] }
  | _ => none }
def FnExactFinalOfWrongFalsely : Prop := fnExactFinalOfRow.holds Try.pinned (OpenSpec.ofChange fnExactFinalOfWrong)

/-- 'laws.FnExactAcctSame': WHATEVER THE INPUT: true; the input reads as it did. -/
def fnExactAcctSameSpec : ChangeSpec := { name := "fnExactAcctSame", fn := fun _ => fun
  | [d1, d2] => { results := [.lit (.bool true)], args := [d1, d2] }
  | _ => none }
def fnExactAcctSameRow : OpenClaim := { program := "ytopmojfcdmcmbaa", sum := "bf10873b9f7188b1e1de72ee0463b90911d88d40855055bc4c392807a30b5a8f", func := "loop.example/g00801/laws.FnExactAcctSame", spec := "fnExactAcctSame", apart := false }
def FnExactAcctSameSaid : Prop := fnExactAcctSameRow.holds Try.pinned (OpenSpec.ofChange fnExactAcctSameSpec)

/-- ITS FALSE NEIGHBOUR: 'it returns false'. Refute it at one input. -/
def fnExactAcctSameWrong : ChangeSpec := { name := "fnExactAcctSame", fn := fun _ => fun
  | [d1, d2] => { results := [.lit (.bool false)], args := [d1, d2] }
  | _ => none }
def FnExactAcctSameWrongFalsely : Prop := fnExactAcctSameRow.holds Try.pinned (OpenSpec.ofChange fnExactAcctSameWrong)

/-- 'laws.FnExactAsName': WHATEVER THE INPUT: true; the input reads as it did. -/
def fnExactAsNameSpec : ChangeSpec := { name := "fnExactAsName", fn := fun _ => fun
  | [d] => { results := [.lit (.bool true)], args := [d] }
  | _ => none }
def fnExactAsNameRow : OpenClaim := { program := "ytopmojfcdmcmbaa", sum := "bf10873b9f7188b1e1de72ee0463b90911d88d40855055bc4c392807a30b5a8f", func := "loop.example/g00801/laws.FnExactAsName", spec := "fnExactAsName", apart := false }
def FnExactAsNameSaid : Prop := fnExactAsNameRow.holds Try.pinned (OpenSpec.ofChange fnExactAsNameSpec)

/-- ITS FALSE NEIGHBOUR: 'it returns false'. Refute it at one input. -/
def fnExactAsNameWrong : ChangeSpec := { name := "fnExactAsName", fn := fun _ => fun
  | [d] => { results := [.lit (.bool false)], args := [d] }
  | _ => none }
def FnExactAsNameWrongFalsely : Prop := fnExactAsNameRow.holds Try.pinned (OpenSpec.ofChange fnExactAsNameWrong)

/- THE SECOND FORM. 'bulk': how many values and letters a reading holds, each counted each time it is reached (what is shared counts as often as it is met; a slice's spare places count too). A statement '..UptoSaid' is the law's where the arguments, and the package variables that the reading takes, are together of bulk at most 1048576: NARROWER than '..Said'. Prove '..Said' where nothing that the law and all that it calls make is longer than what came in: it says more and counts as full. Else prove '..UptoSaid'. A law counts once. -/
mutual
def uptoBulk {H : Type} : DataW H → Nat
  | .lit (.string bytes) => bytes.length + 1
  | .lit _ => 1
  | .nil => 1
  | .ptr d => uptoBulk d + 1
  | .slice elems spare => uptoBulkAll elems + uptoBulkAll spare + 1
  | .agg parts => uptoBulkAll parts + 1
  | .iface _ d => uptoBulk d + 1
  | .map entries => uptoBulkEntries entries + 1
  | .held _ => 1
def uptoBulkAll {H : Type} : List (DataW H) → Nat
  | [] => 0
  | d :: r => uptoBulk d + uptoBulkAll r
def uptoBulkEntries {H : Type} : List (Lit × DataW H) → Nat
  | [] => 0
  | x :: r => uptoBulkEntry x + uptoBulkEntries r
def uptoBulkEntry {H : Type} : Lit × DataW H → Nat
  | (.string bytes, d) => bytes.length + uptoBulk d + 1
  | (_, d) => uptoBulk d + 1
 end
def uptoSmall : (H : Type) → List (DataW H) → Bool := fun _ ds => decide (uptoBulkAll ds ≤ 1048576)
def OpenSpec.upto (s : _root_.Go.ChangeSpec) : _root_.Go.OpenSpec := { _root_.Go.OpenSpec.ofChange s with cond := some uptoSmall }

/-- 'laws.FnFinal', WHERE WHAT IT READS IS OF BULK AT MOST 1048576: true; the input reads as it did. -/
def fnFinalUptoRow : OpenClaim := { program := "ytopmojfcdmcmbaa", sum := "bf10873b9f7188b1e1de72ee0463b90911d88d40855055bc4c392807a30b5a8f", func := "loop.example/g00801/laws.FnFinal", spec := "fnFinal", unfollowed := true, recurses := true, apart := false, narrowed := true }
def FnFinalUptoSaid : Prop := fnFinalUptoRow.holds Try.pinned (OpenSpec.upto fnFinalSpec)

/-- 'laws.FnAcct', WHERE WHAT IT READS IS OF BULK AT MOST 1048576: true; the input reads as it did. -/
def fnAcctUptoRow : OpenClaim := { program := "ytopmojfcdmcmbaa", sum := "bf10873b9f7188b1e1de72ee0463b90911d88d40855055bc4c392807a30b5a8f", func := "loop.example/g00801/laws.FnAcct", spec := "fnAcct", unfollowed := true, recurses := true, apart := false, narrowed := true }
def FnAcctUptoSaid : Prop := fnAcctUptoRow.holds Try.pinned (OpenSpec.upto fnAcctSpec)

/-- 'laws.FnExactAcctOk', WHERE WHAT IT READS IS OF BULK AT MOST 1048576: true; the input reads as it did. -/
def fnExactAcctOkUptoRow : OpenClaim := { program := "ytopmojfcdmcmbaa", sum := "bf10873b9f7188b1e1de72ee0463b90911d88d40855055bc4c392807a30b5a8f", func := "loop.example/g00801/laws.FnExactAcctOk", spec := "fnExactAcctOk", apart := false, narrowed := true }
def FnExactAcctOkUptoSaid : Prop := fnExactAcctOkUptoRow.holds Try.pinned (OpenSpec.upto fnExactAcctOkSpec)

/-- 'laws.FnExactAcctAdd', WHERE WHAT IT READS IS OF BULK AT MOST 1048576: true; the input reads as it did. -/
def fnExactAcctAddUptoRow : OpenClaim := { program := "ytopmojfcdmcmbaa", sum := "bf10873b9f7188b1e1de72ee0463b90911d88d40855055bc4c392807a30b5a8f", func := "loop.example/g00801/laws.FnExactAcctAdd", spec := "fnExactAcctAdd", apart := false, narrowed := true }
def FnExactAcctAddUptoSaid : Prop := fnExactAcctAddUptoRow.holds Try.pinned (OpenSpec.upto fnExactAcctAddSpec)

/-- 'laws.FnExactAcctTake', WHERE WHAT IT READS IS OF BULK AT MOST 1048576: true; the input reads as it did. -/
def fnExactAcctTakeUptoRow : OpenClaim := { program := "ytopmojfcdmcmbaa", sum := "bf10873b9f7188b1e1de72ee0463b90911d88d40855055bc4c392807a30b5a8f", func := "loop.example/g00801/laws.FnExactAcctTake", spec := "fnExactAcctTake", apart := false, narrowed := true }
def FnExactAcctTakeUptoSaid : Prop := fnExactAcctTakeUptoRow.holds Try.pinned (OpenSpec.upto fnExactAcctTakeSpec)

/-- 'laws.FnExactAcctShut', WHERE WHAT IT READS IS OF BULK AT MOST 1048576: true; the input reads as it did. -/
def fnExactAcctShutUptoRow : OpenClaim := { program := "ytopmojfcdmcmbaa", sum := "bf10873b9f7188b1e1de72ee0463b90911d88d40855055bc4c392807a30b5a8f", func := "loop.example/g00801/laws.FnExactAcctShut", spec := "fnExactAcctShut", apart := false, narrowed := true }
def FnExactAcctShutUptoSaid : Prop := fnExactAcctShutUptoRow.holds Try.pinned (OpenSpec.upto fnExactAcctShutSpec)

/-- 'laws.FnExactAcctRep', WHERE WHAT IT READS IS OF BULK AT MOST 1048576: true; the input reads as it did. -/
def fnExactAcctRepUptoRow : OpenClaim := { program := "ytopmojfcdmcmbaa", sum := "bf10873b9f7188b1e1de72ee0463b90911d88d40855055bc4c392807a30b5a8f", func := "loop.example/g00801/laws.FnExactAcctRep", spec := "fnExactAcctRep", unfollowed := true, recurses := true, apart := false, narrowed := true }
def FnExactAcctRepUptoSaid : Prop := fnExactAcctRepUptoRow.holds Try.pinned (OpenSpec.upto fnExactAcctRepSpec)

/-- 'laws.FnExactFinalOf', WHERE WHAT IT READS IS OF BULK AT MOST 1048576: true; the input reads as it did. -/
def fnExactFinalOfUptoRow : OpenClaim := { program := "ytopmojfcdmcmbaa", sum := "bf10873b9f7188b1e1de72ee0463b90911d88d40855055bc4c392807a30b5a8f", func := "loop.example/g00801/laws.FnExactFinalOf", spec := "fnExactFinalOf", apart := false, narrowed := true }
def FnExactFinalOfUptoSaid : Prop := fnExactFinalOfUptoRow.holds Try.pinned (OpenSpec.upto fnExactFinalOfSpec)

/-- 'laws.FnExactAcctSame', WHERE WHAT IT READS IS OF BULK AT MOST 1048576: true; the input reads as it did. -/
def fnExactAcctSameUptoRow : OpenClaim := { program := "ytopmojfcdmcmbaa", sum := "bf10873b9f7188b1e1de72ee0463b90911d88d40855055bc4c392807a30b5a8f", func := "loop.example/g00801/laws.FnExactAcctSame", spec := "fnExactAcctSame", apart := false, narrowed := true }
def FnExactAcctSameUptoSaid : Prop := fnExactAcctSameUptoRow.holds Try.pinned (OpenSpec.upto fnExactAcctSameSpec)

/-- 'laws.FnExactAsName', WHERE WHAT IT READS IS OF BULK AT MOST 1048576: true; the input reads as it did. -/
def fnExactAsNameUptoRow : OpenClaim := { program := "ytopmojfcdmcmbaa", sum := "bf10873b9f7188b1e1de72ee0463b90911d88d40855055bc4c392807a30b5a8f", func := "loop.example/g00801/laws.FnExactAsName", spec := "fnExactAsName", apart := false, narrowed := true }
def FnExactAsNameUptoSaid : Prop := fnExactAsNameUptoRow.holds Try.pinned (OpenSpec.upto fnExactAsNameSpec)

end Rows
end Go.Proofs.Ytopmojfcdmcmbaa
