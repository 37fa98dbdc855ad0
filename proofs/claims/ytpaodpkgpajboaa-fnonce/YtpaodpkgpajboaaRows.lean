/-
  No cell of these rows narrows 'for every input' (looked for: loops, veiled, ifaces, maps, wideKeys, modest, calm, conditions, laid).
  DERIVED. THE GIVEN ROWS OF THIS SEAT. 10 by the template 'for every input the law returns true; each argument reads behind the call as it read before'; 0 by the template 'total and deterministic' (their statements: YtpaodpkgpajboaaTotals.lean).
  GIVEN WITH THE SEED: the statements are not yours to turn. If you find one false, say at which input.
  Laid BY PROGRAM, IN A SANDBOX (cutbox-rows.mjs): the forced cells as the released guide's own fill.sh prints them over the translation 80584f4487605f8c… (all of the seat's roots in one cut). By AI agents, Wed Nov 11 2026. No macro, syntax, notation, axiom, sorry.
-/
import Derived.Test.YtpaodpkgpajboaaChecked
import GoSem.Claim
import GoSem.ClaimJoined
import GoSem.ClaimMapViews
import Derived.JoinedTies
import Derived.KernelRfl
namespace Go.Proofs.Ytpaodpkgpajboaa
/- THE CELL 'sum', in the pinned program and in every row, IS THE sha256 OF THE DUMP (.gsa) THAT YtpaodpkgpajboaaProg.lean LOADS. Nothing in Lean hashes anything: it is a label: what it is worth is what the hold of that sum in a sandbox is worth. -/
noncomputable def Try.pinned : Pinned := { name := "ytpaodpkgpajboaa", sum := "80584f4487605f8c8efb35a8769a421b0acea888599034ba81c4bd9e999fda26", checked := Try.checked }
namespace Rows
def none {H : Type} : Left H := { results := [], args := [] }

/-- 'laws.FnOnce': WHATEVER THE INPUT: true; the input reads as it did. -/
def fnOnceSpec : ChangeSpec := { name := "fnOnce", fn := fun _ => fun
  | [d] => { results := [.lit (.bool true)], args := [d] }
  | _ => none }
def fnOnceRow : OpenClaim := { program := "ytpaodpkgpajboaa", sum := "80584f4487605f8c8efb35a8769a421b0acea888599034ba81c4bd9e999fda26", func := "loop.example/g00801/laws.FnOnce", spec := "fnOnce", unfollowed := true, recurses := true, apart := false }
def FnOnceSaid : Prop := fnOnceRow.holds Try.pinned (OpenSpec.ofChange fnOnceSpec)

/-- ITS FALSE NEIGHBOUR: 'it returns false'. Refute it at one input. -/
def fnOnceWrong : ChangeSpec := { name := "fnOnce", fn := fun _ => fun
  | [d] => { results := [.lit (.bool false)], args := [d] }
  | _ => none }
def FnOnceWrongFalsely : Prop := fnOnceRow.holds Try.pinned (OpenSpec.ofChange fnOnceWrong)

/-- 'laws.FnExactOutNew': WHATEVER THE INPUT: true; the input reads as it did. -/
def fnExactOutNewSpec : ChangeSpec := { name := "fnExactOutNew", fn := fun _ => fun
  | [] => { results := [.lit (.bool true)], args := [] }
  | _ => none }
def fnExactOutNewRow : OpenClaim := { program := "ytpaodpkgpajboaa", sum := "80584f4487605f8c8efb35a8769a421b0acea888599034ba81c4bd9e999fda26", func := "loop.example/g00801/laws.FnExactOutNew", spec := "fnExactOutNew", apart := false }
def FnExactOutNewSaid : Prop := fnExactOutNewRow.holds Try.pinned (OpenSpec.ofChange fnExactOutNewSpec)

/-- ITS FALSE NEIGHBOUR: 'it returns false'. Refute it at one input. -/
def fnExactOutNewWrong : ChangeSpec := { name := "fnExactOutNew", fn := fun _ => fun
  | [] => { results := [.lit (.bool false)], args := [] }
  | _ => none }
def FnExactOutNewWrongFalsely : Prop := fnExactOutNewRow.holds Try.pinned (OpenSpec.ofChange fnExactOutNewWrong)

/-- 'laws.FnExactOutOk': WHATEVER THE INPUT: true; the input reads as it did. -/
def fnExactOutOkSpec : ChangeSpec := { name := "fnExactOutOk", fn := fun _ => fun
  | [d] => { results := [.lit (.bool true)], args := [d] }
  | _ => none }
def fnExactOutOkRow : OpenClaim := { program := "ytpaodpkgpajboaa", sum := "80584f4487605f8c8efb35a8769a421b0acea888599034ba81c4bd9e999fda26", func := "loop.example/g00801/laws.FnExactOutOk", spec := "fnExactOutOk", unfollowed := true, recurses := true, apart := false }
def FnExactOutOkSaid : Prop := fnExactOutOkRow.holds Try.pinned (OpenSpec.ofChange fnExactOutOkSpec)

/-- ITS FALSE NEIGHBOUR: 'it returns false'. Refute it at one input. -/
def fnExactOutOkWrong : ChangeSpec := { name := "fnExactOutOk", fn := fun _ => fun
  | [d] => { results := [.lit (.bool false)], args := [d] }
  | _ => none }
def FnExactOutOkWrongFalsely : Prop := fnExactOutOkRow.holds Try.pinned (OpenSpec.ofChange fnExactOutOkWrong)

/-- 'laws.FnExactOutPut': WHATEVER THE INPUT: true; the input reads as it did. -/
def fnExactOutPutSpec : ChangeSpec := { name := "fnExactOutPut", fn := fun _ => fun
  | [d1, d2] => { results := [.lit (.bool true)], args := [d1, d2] }
  | _ => none }
def fnExactOutPutRow : OpenClaim := { program := "ytpaodpkgpajboaa", sum := "80584f4487605f8c8efb35a8769a421b0acea888599034ba81c4bd9e999fda26", func := "loop.example/g00801/laws.FnExactOutPut", spec := "fnExactOutPut", unfollowed := true, recurses := true, apart := false }
def FnExactOutPutSaid : Prop := fnExactOutPutRow.holds Try.pinned (OpenSpec.ofChange fnExactOutPutSpec)

/-- ITS FALSE NEIGHBOUR: 'it returns false'. Refute it at one input. -/
def fnExactOutPutWrong : ChangeSpec := { name := "fnExactOutPut", fn := fun _ => fun
  | [d1, d2] => { results := [.lit (.bool false)], args := [d1, d2] }
  | _ => none }
def FnExactOutPutWrongFalsely : Prop := fnExactOutPutRow.holds Try.pinned (OpenSpec.ofChange fnExactOutPutWrong)

/-- 'laws.FnExactOutFirst': WHATEVER THE INPUT: true; the input reads as it did. -/
def fnExactOutFirstSpec : ChangeSpec := { name := "fnExactOutFirst", fn := fun _ => fun
  | [d] => { results := [.lit (.bool true)], args := [d] }
  | _ => none }
def fnExactOutFirstRow : OpenClaim := { program := "ytpaodpkgpajboaa", sum := "80584f4487605f8c8efb35a8769a421b0acea888599034ba81c4bd9e999fda26", func := "loop.example/g00801/laws.FnExactOutFirst", spec := "fnExactOutFirst", unfollowed := true, recurses := true, apart := false }
def FnExactOutFirstSaid : Prop := fnExactOutFirstRow.holds Try.pinned (OpenSpec.ofChange fnExactOutFirstSpec)

/-- ITS FALSE NEIGHBOUR: 'it returns false'. Refute it at one input. -/
def fnExactOutFirstWrong : ChangeSpec := { name := "fnExactOutFirst", fn := fun _ => fun
  | [d] => { results := [.lit (.bool false)], args := [d] }
  | _ => none }
def FnExactOutFirstWrongFalsely : Prop := fnExactOutFirstRow.holds Try.pinned (OpenSpec.ofChange fnExactOutFirstWrong)

/-- 'laws.FnExactOutAt': WHATEVER THE INPUT: true; the input reads as it did. -/
def fnExactOutAtSpec : ChangeSpec := { name := "fnExactOutAt", fn := fun _ => fun
  | [d1, d2] => { results := [.lit (.bool true)], args := [d1, d2] }
  | _ => none }
def fnExactOutAtRow : OpenClaim := { program := "ytpaodpkgpajboaa", sum := "80584f4487605f8c8efb35a8769a421b0acea888599034ba81c4bd9e999fda26", func := "loop.example/g00801/laws.FnExactOutAt", spec := "fnExactOutAt", unfollowed := true, recurses := true, apart := false }
def FnExactOutAtSaid : Prop := fnExactOutAtRow.holds Try.pinned (OpenSpec.ofChange fnExactOutAtSpec)

/-- ITS FALSE NEIGHBOUR: 'it returns false'. Refute it at one input. -/
def fnExactOutAtWrong : ChangeSpec := { name := "fnExactOutAt", fn := fun _ => fun
  | [d1, d2] => { results := [.lit (.bool false)], args := [d1, d2] }
  | _ => none }
def FnExactOutAtWrongFalsely : Prop := fnExactOutAtRow.holds Try.pinned (OpenSpec.ofChange fnExactOutAtWrong)

/-- 'laws.FnExactOutAck': WHATEVER THE INPUT: true; the input reads as it did. -/
def fnExactOutAckSpec : ChangeSpec := { name := "fnExactOutAck", fn := fun _ => fun
  | [d1, d2] => { results := [.lit (.bool true)], args := [d1, d2] }
  | _ => none }
def fnExactOutAckRow : OpenClaim := { program := "ytpaodpkgpajboaa", sum := "80584f4487605f8c8efb35a8769a421b0acea888599034ba81c4bd9e999fda26", func := "loop.example/g00801/laws.FnExactOutAck", spec := "fnExactOutAck", unfollowed := true, recurses := true, apart := false }
def FnExactOutAckSaid : Prop := fnExactOutAckRow.holds Try.pinned (OpenSpec.ofChange fnExactOutAckSpec)

/-- ITS FALSE NEIGHBOUR: 'it returns false'. Refute it at one input. -/
def fnExactOutAckWrong : ChangeSpec := { name := "fnExactOutAck", fn := fun _ => fun
  | [d1, d2] => { results := [.lit (.bool false)], args := [d1, d2] }
  | _ => none }
def FnExactOutAckWrongFalsely : Prop := fnExactOutAckRow.holds Try.pinned (OpenSpec.ofChange fnExactOutAckWrong)

/-- 'laws.FnExactInTake': WHATEVER THE INPUT: true; the input reads as it did. -/
def fnExactInTakeSpec : ChangeSpec := { name := "fnExactInTake", fn := fun _ => fun
  | [d1, d2] => { results := [.lit (.bool true)], args := [d1, d2] }
  | _ => none }
def fnExactInTakeRow : OpenClaim := { program := "ytpaodpkgpajboaa", sum := "80584f4487605f8c8efb35a8769a421b0acea888599034ba81c4bd9e999fda26", func := "loop.example/g00801/laws.FnExactInTake", spec := "fnExactInTake", apart := false }
def FnExactInTakeSaid : Prop := fnExactInTakeRow.holds Try.pinned (OpenSpec.ofChange fnExactInTakeSpec)

/-- ITS FALSE NEIGHBOUR: 'it returns false'. Refute it at one input. -/
def fnExactInTakeWrong : ChangeSpec := { name := "fnExactInTake", fn := fun _ => fun
  | [d1, d2] => { results := [.lit (.bool false)], args := [d1, d2] }
  | _ => none }
def FnExactInTakeWrongFalsely : Prop := fnExactInTakeRow.holds Try.pinned (OpenSpec.ofChange fnExactInTakeWrong)

/-- 'laws.FnExactOutSame': WHATEVER THE INPUT: true; the input reads as it did. -/
def fnExactOutSameSpec : ChangeSpec := { name := "fnExactOutSame", fn := fun _ => fun
  | [d1, d2] => { results := [.lit (.bool true)], args := [d1, d2] }
  | _ => none }
def fnExactOutSameRow : OpenClaim := { program := "ytpaodpkgpajboaa", sum := "80584f4487605f8c8efb35a8769a421b0acea888599034ba81c4bd9e999fda26", func := "loop.example/g00801/laws.FnExactOutSame", spec := "fnExactOutSame", apart := false }
def FnExactOutSameSaid : Prop := fnExactOutSameRow.holds Try.pinned (OpenSpec.ofChange fnExactOutSameSpec)

/-- ITS FALSE NEIGHBOUR: 'it returns false'. Refute it at one input. -/
def fnExactOutSameWrong : ChangeSpec := { name := "fnExactOutSame", fn := fun _ => fun
  | [d1, d2] => { results := [.lit (.bool false)], args := [d1, d2] }
  | _ => none }
def FnExactOutSameWrongFalsely : Prop := fnExactOutSameRow.holds Try.pinned (OpenSpec.ofChange fnExactOutSameWrong)

/-- 'laws.FnExactOutWorth': WHATEVER THE INPUT: true; the input reads as it did. -/
def fnExactOutWorthSpec : ChangeSpec := { name := "fnExactOutWorth", fn := fun _ => fun
  | [d1, d2] => { results := [.lit (.bool true)], args := [d1, d2] }
  | _ => none }
def fnExactOutWorthRow : OpenClaim := { program := "ytpaodpkgpajboaa", sum := "80584f4487605f8c8efb35a8769a421b0acea888599034ba81c4bd9e999fda26", func := "loop.example/g00801/laws.FnExactOutWorth", spec := "fnExactOutWorth", unfollowed := true, recurses := true, apart := false }
def FnExactOutWorthSaid : Prop := fnExactOutWorthRow.holds Try.pinned (OpenSpec.ofChange fnExactOutWorthSpec)

/-- ITS FALSE NEIGHBOUR: 'it returns false'. Refute it at one input. -/
def fnExactOutWorthWrong : ChangeSpec := { name := "fnExactOutWorth", fn := fun _ => fun
  | [d1, d2] => { results := [.lit (.bool false)], args := [d1, d2] }
  | _ => none }
def FnExactOutWorthWrongFalsely : Prop := fnExactOutWorthRow.holds Try.pinned (OpenSpec.ofChange fnExactOutWorthWrong)

/- THE SECOND FORM. 'bulk': how many values and letters a reading holds, each counted each time it is reached (what is shared counts as often as it is met; a slice's spare places count too). A statement '..UptoSaid' is the law's where the arguments, and the package variables that the reading takes, are together of bulk at most 1048576: NARROWER than '..Said'. Prove '..Said' where nothing that the law and all that it calls make is longer than what came in: it says more and counts as full. Else prove '..UptoSaid'. A law counts once. -/
mutual
def uptoBulk {H : Type} : DataW H → Nat
  | .lit (.string bytes) => bytes.length + 1
  | .lit _ => 1
  | .nil => 1
  | .ptr d => uptoBulk d + 1
  | .slice elems spare => uptoBulkAll elems + uptoBulkAll spare + 1
  | .agg parts => uptoBulkAll parts + 1
  | .iface _ d => uptoBulk d + 1
  | .map entries => uptoBulkEntries entries + 1
  | .held _ => 1
def uptoBulkAll {H : Type} : List (DataW H) → Nat
  | [] => 0
  | d :: r => uptoBulk d + uptoBulkAll r
def uptoBulkEntries {H : Type} : List (Lit × DataW H) → Nat
  | [] => 0
  | x :: r => uptoBulkEntry x + uptoBulkEntries r
def uptoBulkEntry {H : Type} : Lit × DataW H → Nat
  | (.string bytes, d) => bytes.length + uptoBulk d + 1
  | (_, d) => uptoBulk d + 1
 end
def uptoSmall : (H : Type) → List (DataW H) → Bool := fun _ ds => decide (uptoBulkAll ds ≤ 1048576)
def OpenSpec.upto (s : _root_.Go.ChangeSpec) : _root_.Go.OpenSpec := { _root_.Go.OpenSpec.ofChange s with cond := some uptoSmall }

/-- 'laws.FnOnce', WHERE WHAT IT READS IS OF BULK AT MOST 1048576: true; the input reads as it did. -/
def fnOnceUptoRow : OpenClaim := { program := "ytpaodpkgpajboaa", sum := "80584f4487605f8c8efb35a8769a421b0acea888599034ba81c4bd9e999fda26", func := "loop.example/g00801/laws.FnOnce", spec := "fnOnce", unfollowed := true, recurses := true, apart := false, narrowed := true }
def FnOnceUptoSaid : Prop := fnOnceUptoRow.holds Try.pinned (OpenSpec.upto fnOnceSpec)

/-- 'laws.FnExactOutNew', WHERE WHAT IT READS IS OF BULK AT MOST 1048576: true; the input reads as it did. -/
def fnExactOutNewUptoRow : OpenClaim := { program := "ytpaodpkgpajboaa", sum := "80584f4487605f8c8efb35a8769a421b0acea888599034ba81c4bd9e999fda26", func := "loop.example/g00801/laws.FnExactOutNew", spec := "fnExactOutNew", apart := false, narrowed := true }
def FnExactOutNewUptoSaid : Prop := fnExactOutNewUptoRow.holds Try.pinned (OpenSpec.upto fnExactOutNewSpec)

/-- 'laws.FnExactOutOk', WHERE WHAT IT READS IS OF BULK AT MOST 1048576: true; the input reads as it did. -/
def fnExactOutOkUptoRow : OpenClaim := { program := "ytpaodpkgpajboaa", sum := "80584f4487605f8c8efb35a8769a421b0acea888599034ba81c4bd9e999fda26", func := "loop.example/g00801/laws.FnExactOutOk", spec := "fnExactOutOk", unfollowed := true, recurses := true, apart := false, narrowed := true }
def FnExactOutOkUptoSaid : Prop := fnExactOutOkUptoRow.holds Try.pinned (OpenSpec.upto fnExactOutOkSpec)

/-- 'laws.FnExactOutPut', WHERE WHAT IT READS IS OF BULK AT MOST 1048576: true; the input reads as it did. -/
def fnExactOutPutUptoRow : OpenClaim := { program := "ytpaodpkgpajboaa", sum := "80584f4487605f8c8efb35a8769a421b0acea888599034ba81c4bd9e999fda26", func := "loop.example/g00801/laws.FnExactOutPut", spec := "fnExactOutPut", unfollowed := true, recurses := true, apart := false, narrowed := true }
def FnExactOutPutUptoSaid : Prop := fnExactOutPutUptoRow.holds Try.pinned (OpenSpec.upto fnExactOutPutSpec)

/-- 'laws.FnExactOutFirst', WHERE WHAT IT READS IS OF BULK AT MOST 1048576: true; the input reads as it did. -/
def fnExactOutFirstUptoRow : OpenClaim := { program := "ytpaodpkgpajboaa", sum := "80584f4487605f8c8efb35a8769a421b0acea888599034ba81c4bd9e999fda26", func := "loop.example/g00801/laws.FnExactOutFirst", spec := "fnExactOutFirst", unfollowed := true, recurses := true, apart := false, narrowed := true }
def FnExactOutFirstUptoSaid : Prop := fnExactOutFirstUptoRow.holds Try.pinned (OpenSpec.upto fnExactOutFirstSpec)

/-- 'laws.FnExactOutAt', WHERE WHAT IT READS IS OF BULK AT MOST 1048576: true; the input reads as it did. -/
def fnExactOutAtUptoRow : OpenClaim := { program := "ytpaodpkgpajboaa", sum := "80584f4487605f8c8efb35a8769a421b0acea888599034ba81c4bd9e999fda26", func := "loop.example/g00801/laws.FnExactOutAt", spec := "fnExactOutAt", unfollowed := true, recurses := true, apart := false, narrowed := true }
def FnExactOutAtUptoSaid : Prop := fnExactOutAtUptoRow.holds Try.pinned (OpenSpec.upto fnExactOutAtSpec)

/-- 'laws.FnExactOutAck', WHERE WHAT IT READS IS OF BULK AT MOST 1048576: true; the input reads as it did. -/
def fnExactOutAckUptoRow : OpenClaim := { program := "ytpaodpkgpajboaa", sum := "80584f4487605f8c8efb35a8769a421b0acea888599034ba81c4bd9e999fda26", func := "loop.example/g00801/laws.FnExactOutAck", spec := "fnExactOutAck", unfollowed := true, recurses := true, apart := false, narrowed := true }
def FnExactOutAckUptoSaid : Prop := fnExactOutAckUptoRow.holds Try.pinned (OpenSpec.upto fnExactOutAckSpec)

/-- 'laws.FnExactInTake', WHERE WHAT IT READS IS OF BULK AT MOST 1048576: true; the input reads as it did. -/
def fnExactInTakeUptoRow : OpenClaim := { program := "ytpaodpkgpajboaa", sum := "80584f4487605f8c8efb35a8769a421b0acea888599034ba81c4bd9e999fda26", func := "loop.example/g00801/laws.FnExactInTake", spec := "fnExactInTake", apart := false, narrowed := true }
def FnExactInTakeUptoSaid : Prop := fnExactInTakeUptoRow.holds Try.pinned (OpenSpec.upto fnExactInTakeSpec)

/-- 'laws.FnExactOutSame', WHERE WHAT IT READS IS OF BULK AT MOST 1048576: true; the input reads as it did. -/
def fnExactOutSameUptoRow : OpenClaim := { program := "ytpaodpkgpajboaa", sum := "80584f4487605f8c8efb35a8769a421b0acea888599034ba81c4bd9e999fda26", func := "loop.example/g00801/laws.FnExactOutSame", spec := "fnExactOutSame", apart := false, narrowed := true }
def FnExactOutSameUptoSaid : Prop := fnExactOutSameUptoRow.holds Try.pinned (OpenSpec.upto fnExactOutSameSpec)

/-- 'laws.FnExactOutWorth', WHERE WHAT IT READS IS OF BULK AT MOST 1048576: true; the input reads as it did. -/
def fnExactOutWorthUptoRow : OpenClaim := { program := "ytpaodpkgpajboaa", sum := "80584f4487605f8c8efb35a8769a421b0acea888599034ba81c4bd9e999fda26", func := "loop.example/g00801/laws.FnExactOutWorth", spec := "fnExactOutWorth", unfollowed := true, recurses := true, apart := false, narrowed := true }
def FnExactOutWorthUptoSaid : Prop := fnExactOutWorthUptoRow.holds Try.pinned (OpenSpec.upto fnExactOutWorthSpec)

end Rows
end Go.Proofs.Ytpaodpkgpajboaa
