/- Parameters of the type Prop, opened. Laid by a program of ours (opengen.py). -/
import Derived.Test.YtaoedgcdcimibaaOpenL
import Derived.Test.YtaoedgcdcimibaaTProp
namespace Go.Proofs.Ytaoedgcdcimibaa
open Go.RowKit
set_option linter.unusedVariables false

def QProp (d : MProp) : Prop := (fun z => (Lit.int .i64 z).wf = true) d.Bal ∧ ((fun z => (Lit.int .i64 z).wf = true) d.Val ∧ ((fun zs => ∀ z ∈ zs, (Lit.int .i64 z).wf = true) d.From ∧ ((fun z => (Lit.int .i64 z).wf = true) d.Best ∧ ((fun zs => ∀ z ∈ zs, (Lit.int .i64 z).wf = true) d.Got))))

theorem opn_prop : Opn Try.prog propL QProp 50 5 :=
  opn_iso (g := fun x => ⟨x.1, x.2.1, x.2.2.1, x.2.2.2.1, x.2.2.2.2⟩) (fun _ => rfl) (opn_struct Try.underlying50 (opnF_cons rfl (by kernel_rfl) (opn_int Try.underlying3) (opnF_cons rfl (by kernel_rfl) (opn_int Try.underlying3) (opnF_cons rfl (by kernel_rfl) (opn_ints Try.underlying24 Try.underlying3 (by kernel_rfl)) (opnF_cons rfl (by kernel_rfl) (opn_int Try.underlying3) (opnF_one rfl (by kernel_rfl) (opn_ints Try.underlying24 Try.underlying3 (by kernel_rfl))))))))

end Go.Proofs.Ytaoedgcdcimibaa
