/- Parameters of the type Acct, opened. Laid by a program of ours (opengen.py). -/
import Derived.Test.YtopmojfcdmcmbaaOpenL
import Derived.Test.YtopmojfcdmcmbaaTAcct
import Derived.Test.YtopmojfcdmcmbaaORep
namespace Go.Proofs.Ytopmojfcdmcmbaa
open Go.RowKit
set_option linter.unusedVariables false

def QAcct (d : MAcct) : Prop := (fun z => (Lit.int .i64 z).wf = true) d.Have ∧ ((fun z => (Lit.int .i64 z).wf = true) d.State ∧ ((fun z => (Lit.int .i64 z).wf = true) d.By ∧ ((fun zs => ∀ z ∈ zs, (Lit.int .i64 z).wf = true) d.Marks ∧ ((fun xs => ∀ z ∈ xs, QRep z) d.Reps))))

theorem opn_acct : Opn Try.prog acctL QAcct 40 5 :=
  opn_iso (g := fun x => ⟨x.1, x.2.1, x.2.2.1, x.2.2.2.1, x.2.2.2.2⟩) (fun _ => rfl) (opn_struct Try.underlying40 (opnF_cons rfl (by kernel_rfl) (opn_int Try.underlying3) (opnF_cons rfl (by kernel_rfl) (opn_int Try.underlying3) (opnF_cons rfl (by kernel_rfl) (opn_int Try.underlying3) (opnF_cons rfl (by kernel_rfl) (opn_ints Try.underlying24 Try.underlying3 (by kernel_rfl)) (opnF_one rfl (by kernel_rfl) (opn_slice Try.underlying38 (by kernel_rfl) (by omega) opn_rep)))))))

end Go.Proofs.Ytopmojfcdmcmbaa
