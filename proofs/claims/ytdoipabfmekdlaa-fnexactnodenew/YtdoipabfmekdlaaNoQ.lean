/- What a frame knows of the numbers behind a node, part by part. -/
import Derived.Test.YtdoipabfmekdlaaBunO
import Derived.Test.YtdoipabfmekdlaaBunN
namespace Go.Proofs.Ytdoipabfmekdlaa
open Go.RowKit
set_option linter.unusedVariables false

theorem wf_range {z : Int} (h : (Lit.int .i64 z).wf = true) : -9223372036854775808 ≤ z ∧ z ≤ 9223372036854775807 := i64_of_wf h
theorem QNode.acct {d : MNode} (hq : QNode d) {k : Nat} {a : MAcct} (hx : d.Accts[k]? = some a) : QAcct a := hq.2.2.1 a (List.mem_of_getElem? hx)
theorem QNode.out {d : MNode} (hq : QNode d) {k : Nat} {a : MOut} (hx : d.Outs[k]? = some a) : QOut a := hq.2.2.2.1 a (List.mem_of_getElem? hx)
theorem QNode.acc {d : MNode} (hq : QNode d) {k : Nat} {a : MAcc} (hx : d.Accs[k]? = some a) : QAcc a := hq.2.2.2.2.2.1 a (List.mem_of_getElem? hx)
theorem QNode.ins {d : MNode} (hq : QNode d) {k : Nat} (hk : k < d.Ins.length) : -9223372036854775808 ≤ d.Ins.getD k 0 ∧ d.Ins.getD k 0 ≤ 9223372036854775807 :=
  wf_range (hq.2.2.2.2.1 _ (by rw [List.getD_eq_getElem?_getD, List.getElem?_eq_getElem hk]; exact List.getElem_mem hk))
theorem QNode.scalars {d : MNode} (hq : QNode d) : (-9223372036854775808 ≤ d.Id ∧ d.Id ≤ 9223372036854775807) ∧ (-9223372036854775808 ≤ d.N ∧ d.N ≤ 9223372036854775807) ∧ (-9223372036854775808 ≤ d.Stray ∧ d.Stray ≤ 9223372036854775807) ∧ (-9223372036854775808 ≤ d.Came ∧ d.Came ≤ 9223372036854775807) ∧ (-9223372036854775808 ≤ d.Went ∧ d.Went ≤ 9223372036854775807) :=
  ⟨wf_range hq.1, wf_range hq.2.1, wf_range hq.2.2.2.2.2.2.1, wf_range hq.2.2.2.2.2.2.2.1, wf_range hq.2.2.2.2.2.2.2.2⟩
theorem QAcct.marks {a : MAcct} (h : QAcct a) : ∀ i, i < a.Marks.length → -9223372036854775808 ≤ a.Marks.getD i 0 ∧ a.Marks.getD i 0 ≤ 9223372036854775807 := fun i hi =>
  wf_range (h.2.2.2.1 _ (by rw [List.getD_eq_getElem?_getD, List.getElem?_eq_getElem hi]; exact List.getElem_mem hi))

end Go.Proofs.Ytdoipabfmekdlaa
