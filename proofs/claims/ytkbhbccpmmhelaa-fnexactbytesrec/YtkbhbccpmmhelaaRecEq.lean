/- Two records compared by '==' and '!=': what the operations answer, at every world. -/
import Derived.Test.YtkbhbccpmmhelaaBunB
import Derived.Laws.StructEq
namespace Go.Proofs.Ytkbhbccpmmhelaa
open Go.RowKit
set_option linter.unusedVariables false

deriving instance DecidableEq for MRec

theorem rec_held : Try.prog.stoodInHeld 29 = false := by kernel_rfl
theorem rec_guard : Try.prog.eqGuardType Try.prog.depth 29 = false := by kernel_rfl

theorem rec_fields : Try.prog.underlying 29 = some (.struct (Try.prog.fieldsOf 29)) := by
  unfold Program.fieldsOf; rw [Try.underlying29]

theorem eq_rec_run (d : Nat) (W : World) (a b : MRec) : (Op.equalIn (d + 3) 29 (.agg #[.int .i64 a.Kind, .int .i64 a.Acct, .int .i64 a.Other, .int .i64 a.To, .int .i64 a.Amt, .int .i64 a.M.Kind, .int .i64 a.M.Acct, .int .i64 a.M.Amt, .int .i64 a.M.Src]) (.agg #[.int .i64 b.Kind, .int .i64 b.Acct, .int .i64 b.Other, .int .i64 b.To, .int .i64 b.Amt, .int .i64 b.M.Kind, .int .i64 b.M.Acct, .int .i64 b.M.Amt, .int .i64 b.M.Src])).run Try.prog W = .ok (decide (a = b)) W := by
  rw [run_equalIn_agg W (d + 2) _ _ _ rec_fields rec_held]
  unfold Program.fieldsOf
  rw [Try.underlying29]
  have hu : Try.prog.underlying 3 = some (.int .i64) := Try.underlying3
  obtain ⟨a1, a2, a3, a4, a5, am⟩ := a
  obtain ⟨b1, b2, b3, b4, b5, bm⟩ := b
  simp [Op.eqFields, go_sem, hu]
  by_cases e1 : a1 = b1 <;> by_cases e2 : a2 = b2 <;> by_cases e3 : a3 = b3 <;> by_cases e4 : a4 = b4 <;> by_cases e5 : a5 = b5 <;> simp [e1, e2, e3, e4, e5]
  obtain ⟨m1, m2, m3, m4⟩ := am
  obtain ⟨n1, n2, n3, n4⟩ := bm
  by_cases f1 : m1 = n1 <;> by_cases f2 : m2 = n2 <;> by_cases f3 : m3 = n3 <;> by_cases f4 : m4 = n4 <;> simp [f1, f2, f3, f4]

theorem neq_rec_run (W : World) (a b : MRec) : (binOp .neq 29 (.agg #[.int .i64 a.Kind, .int .i64 a.Acct, .int .i64 a.Other, .int .i64 a.To, .int .i64 a.Amt, .int .i64 a.M.Kind, .int .i64 a.M.Acct, .int .i64 a.M.Amt, .int .i64 a.M.Src]) (.agg #[.int .i64 b.Kind, .int .i64 b.Acct, .int .i64 b.Other, .int .i64 b.To, .int .i64 b.Amt, .int .i64 b.M.Kind, .int .i64 b.M.Acct, .int .i64 b.M.Amt, .int .i64 b.M.Src])).run Try.prog W = .ok (.bool (!decide (a = b))) W := by
  rw [run_neq_struct, eq_rec_run 9997]; rfl
theorem guard_rec_run (op : BinOp) (x y : Operand) (W : World) (xs ys : Array Value) : (eqGuard op 29 x y (.agg xs) (.agg ys)).run Try.prog W = .ok () W := run_eqGuard_agg W op _ x y xs ys rec_guard

end Go.Proofs.Ytkbhbccpmmhelaa
