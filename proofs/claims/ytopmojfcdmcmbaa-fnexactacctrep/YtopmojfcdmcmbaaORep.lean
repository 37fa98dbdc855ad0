/- Parameters of the type Rep, opened. Laid by a program of ours (opengen.py). -/
import Derived.Test.YtopmojfcdmcmbaaOpenL
import Derived.Test.YtopmojfcdmcmbaaTRep
namespace Go.Proofs.Ytopmojfcdmcmbaa
open Go.RowKit
set_option linter.unusedVariables false

def QRep (d : MRep) : Prop := (fun z => (Lit.int .i64 z).wf = true) d.Node ∧ ((fun z => (Lit.int .i64 z).wf = true) d.Amt)

theorem opn_rep : Opn Try.prog repL QRep 89 2 :=
  opn_iso (g := fun x => ⟨x.1, x.2⟩) (fun _ => rfl) (opn_struct Try.underlying89 (opnF_cons rfl (by kernel_rfl) (opn_int Try.underlying3) (opnF_one rfl (by kernel_rfl) (opn_int Try.underlying3))))

end Go.Proofs.Ytopmojfcdmcmbaa
