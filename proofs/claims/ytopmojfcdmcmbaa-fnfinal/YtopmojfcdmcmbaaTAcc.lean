/- The type Acc: its model, its layout, and the contracts of the laws' own helpers on it. Laid by a program of ours (typegen.py). -/
import Derived.Test.YtopmojfcdmcmbaaProg
import Derived.Test.YtopmojfcdmcmbaaVars
namespace Go.Proofs.Ytopmojfcdmcmbaa
open Go.RowKit
set_option linter.unusedVariables false

structure MAcc where
  Prom : Int
  Bal : Int
  Val : Int

def accL : Lay MAcc := isoL (fun d => (d.Prom, d.Bal, d.Val)) (consL (intL .i64) (consL (intL .i64) (intL .i64)))

/-- how many values lie behind it -/
def MAcc.bulk (d : MAcc) : Nat := 0

/-- what a marking from k on makes of it -/
def MAcc.mark (d : MAcc) (k : Int) : MAcc := ⟨d.Prom, d.Bal, d.Val⟩

theorem rv_acc {w : World} {v : Value} {d : MAcc} (h : RV accL w v d) : v = .agg #[.int .i64 d.Prom, .int .i64 d.Bal, .int .i64 d.Val] := by
  obtain ⟨cs, rfl, hcs⟩ := h
  obtain ⟨_, _, rfl, rfl, ⟨_, _, rfl, rfl, rfl⟩⟩ := hcs
  rfl

theorem cs_acc {w : World} {B : Nat} {cs : List Value} {d : MAcc} (h : accL.rd w B cs d) : cs = [.int .i64 d.Prom, .int .i64 d.Bal, .int .i64 d.Val] := by
  obtain ⟨_, _, rfl, rfl, ⟨_, _, rfl, rfl, rfl⟩⟩ := h
  rfl

theorem rv_acc_mk {w : World} {zProm : Int} {zBal : Int} {zVal : Int} : RV accL w (.agg #[.int .i64 zProm, .int .i64 zBal, .int .i64 zVal]) ⟨zProm, zBal, zVal⟩ := by
  exact ⟨_, rfl, [_], _, rfl, rfl, [_], _, rfl, rfl, rfl⟩

theorem ovp_acc {w : World} {d : MAcc} {lo hi : Nat} (hc : hi ≤ w.heap.size) : OVp accL w (fun j => lo ≤ j ∧ j < hi) [.int .i64 d.Prom, .int .i64 d.Bal, .int .i64 d.Val] d := by
  have h : OVp accL w _ [.int .i64 d.Prom, .int .i64 d.Bal, .int .i64 d.Val] d := OVp.iso (f := fun d : MAcc => (d.Prom, d.Bal, d.Val)) (OVp.cons1 (OVp.cons1 OVp.one))
  exact h.imp (fun _ h => h.elim)

theorem ov_acc {w : World} {d : MAcc} {lo hi : Nat} (hc : hi ≤ w.heap.size) : OV accL w lo hi (.agg #[.int .i64 d.Prom, .int .i64 d.Bal, .int .i64 d.Val]) d :=
  (ovp_acc (lo := lo) (hi := hi) hc).ov (fun _ h => h) hc

end Go.Proofs.Ytopmojfcdmcmbaa
