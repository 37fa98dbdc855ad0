/- Parameters of the type Rights, opened. Laid by a program of ours (opengen.py). -/
import Derived.Test.YtmbipgnecjlicaaOpenL
import Derived.Test.YtmbipgnecjlicaaTRights
namespace Go.Proofs.Ytmbipgnecjlicaa
open Go.RowKit
set_option linter.unusedVariables false

def QRights (d : MRights) : Prop := (fun xs => ∀ zs ∈ xs, ∀ z ∈ zs, (Lit.int .i64 z).wf = true) d.Give ∧ ((fun zs => ∀ z ∈ zs, (Lit.int .i64 z).wf = true) d.Spent)

theorem opn_rights : Opn Try.prog rightsL QRights 38 2 :=
  opn_iso (g := fun x => ⟨x.1, x.2⟩) (fun _ => rfl) (opn_struct Try.underlying38 (opnF_cons rfl (by kernel_rfl) (opn_slice Try.underlying24 (by kernel_rfl) (by omega) (opn_ints Try.underlying25 Try.underlying3 (by kernel_rfl))) (opnF_one rfl (by kernel_rfl) (opn_ints Try.underlying25 Try.underlying3 (by kernel_rfl)))))

end Go.Proofs.Ytmbipgnecjlicaa
