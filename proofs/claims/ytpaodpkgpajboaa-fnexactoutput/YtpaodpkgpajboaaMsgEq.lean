/- Two messages compared by '==' and '!=': what the operations answer, at every world. -/
import Derived.Test.YtpaodpkgpajboaaTMsg
import Derived.Laws.StructEq
namespace Go.Proofs.Ytpaodpkgpajboaa
open Go.RowKit
set_option linter.unusedVariables false

deriving instance DecidableEq for MMsg

theorem msg_held : Try.prog.stoodInHeld 29 = false := by kernel_rfl
theorem msg_guard : Try.prog.eqGuardType Try.prog.depth 29 = false := by kernel_rfl

theorem msg_fields : Try.prog.underlying 29 = some (.struct (Try.prog.fieldsOf 29)) := by
  unfold Program.fieldsOf; rw [Try.underlying29]

theorem eq_msg_run (d : Nat) (W : World) (a b : MMsg) : (Op.equalIn (d + 2) 29 (.agg #[.int .i64 a.Kind, .int .i64 a.Acct, .int .i64 a.Amt, .int .i64 a.Src]) (.agg #[.int .i64 b.Kind, .int .i64 b.Acct, .int .i64 b.Amt, .int .i64 b.Src])).run Try.prog W = .ok (decide (a = b)) W := by
  rw [run_equalIn_agg W (d + 1) _ _ _ msg_fields msg_held]
  unfold Program.fieldsOf
  rw [Try.underlying29]
  have hu : Try.prog.underlying 3 = some (.int .i64) := Try.underlying3
  obtain ⟨a1, a2, a3, a4⟩ := a
  obtain ⟨b1, b2, b3, b4⟩ := b
  simp [Op.eqFields, go_sem, hu]
  by_cases e1 : a1 = b1 <;> by_cases e2 : a2 = b2 <;> by_cases e3 : a3 = b3 <;> by_cases e4 : a4 = b4 <;> simp [e1, e2, e3, e4]

theorem neq_msg_run (W : World) (a b : MMsg) : (binOp .neq 29 (.agg #[.int .i64 a.Kind, .int .i64 a.Acct, .int .i64 a.Amt, .int .i64 a.Src]) (.agg #[.int .i64 b.Kind, .int .i64 b.Acct, .int .i64 b.Amt, .int .i64 b.Src])).run Try.prog W = .ok (.bool (!decide (a = b))) W := by
  rw [run_neq_struct, eq_msg_run 9998]; rfl
theorem eql_msg_run (W : World) (a b : MMsg) : (binOp .eql 29 (.agg #[.int .i64 a.Kind, .int .i64 a.Acct, .int .i64 a.Amt, .int .i64 a.Src]) (.agg #[.int .i64 b.Kind, .int .i64 b.Acct, .int .i64 b.Amt, .int .i64 b.Src])).run Try.prog W = .ok (.bool (decide (a = b))) W := by
  rw [run_eql_struct, eq_msg_run 9998]; rfl
theorem guard_msg_run (op : BinOp) (x y : Operand) (W : World) (xs ys : Array Value) : (eqGuard op 29 x y (.agg xs) (.agg ys)).run Try.prog W = .ok () W := run_eqGuard_agg W op _ x y xs ys msg_guard

end Go.Proofs.Ytpaodpkgpajboaa
