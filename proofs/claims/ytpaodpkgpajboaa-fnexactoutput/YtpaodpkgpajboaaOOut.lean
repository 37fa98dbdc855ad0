/- Parameters of the type Out, opened. Laid by a program of ours (opengen.py). -/
import Derived.Test.YtpaodpkgpajboaaOpenL
import Derived.Test.YtpaodpkgpajboaaTOut
import Derived.Test.YtpaodpkgpajboaaOMsg
namespace Go.Proofs.Ytpaodpkgpajboaa
open Go.RowKit
set_option linter.unusedVariables false

def QOut (d : MOut) : Prop := (fun z => (Lit.int .i64 z).wf = true) d.Next ∧ ((fun xs => ∀ z ∈ xs, QMsg z) d.List)

theorem opn_out : Opn Try.prog outL QOut 47 2 :=
  opn_iso (g := fun x => ⟨x.1, x.2⟩) (fun _ => rfl) (opn_struct Try.underlying47 (opnF_cons rfl (by kernel_rfl) (opn_int Try.underlying3) (opnF_one rfl (by kernel_rfl) (opn_slice Try.underlying45 (by kernel_rfl) (by omega) opn_msg))))

end Go.Proofs.Ytpaodpkgpajboaa
