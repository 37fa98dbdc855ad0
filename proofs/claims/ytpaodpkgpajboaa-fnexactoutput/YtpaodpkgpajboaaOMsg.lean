/- Parameters of the type Msg, opened. Laid by a program of ours (opengen.py). -/
import Derived.Test.YtpaodpkgpajboaaOpenL
import Derived.Test.YtpaodpkgpajboaaTMsg
namespace Go.Proofs.Ytpaodpkgpajboaa
open Go.RowKit
set_option linter.unusedVariables false

def QMsg (d : MMsg) : Prop := (fun z => (Lit.int .i64 z).wf = true) d.Kind ∧ ((fun z => (Lit.int .i64 z).wf = true) d.Acct ∧ ((fun z => (Lit.int .i64 z).wf = true) d.Amt ∧ ((fun z => (Lit.int .i64 z).wf = true) d.Src)))

theorem opn_msg : Opn Try.prog msgL QMsg 51 4 :=
  opn_iso (g := fun x => ⟨x.1, x.2.1, x.2.2.1, x.2.2.2⟩) (fun _ => rfl) (opn_struct Try.underlying51 (opnF_cons rfl (by kernel_rfl) (opn_int Try.underlying3) (opnF_cons rfl (by kernel_rfl) (opn_int Try.underlying3) (opnF_cons rfl (by kernel_rfl) (opn_int Try.underlying3) (opnF_one rfl (by kernel_rfl) (opn_int Try.underlying3))))))

end Go.Proofs.Ytpaodpkgpajboaa
