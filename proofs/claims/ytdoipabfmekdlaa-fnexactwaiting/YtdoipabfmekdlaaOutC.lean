/- A call's struct result in a new variable. No program is named here. -/
import Derived.Test.YtdoipabfmekdlaaBunA
import Derived.Deep.DeepCutAuto
import Derived.Deep.RegionHeld3
namespace Go.Proofs.Ytdoipabfmekdlaa
open Go.RowKit

theorem OV.le {α : Type} {L : Lay α} {w : World} {lo hi : Nat} {v : Value} {x : α} (h : OV L w lo hi v x) : hi ≤ w.heap.size := by
  obtain ⟨cs, S, -, -, -, -, h6⟩ := h
  exact h6

/-- what a call leaves whose struct result lies in a new variable: a pointer to its block, which is none of the result's own blocks -/
def OutCall {α : Type} (L : Lay α) (t : TypeId) (w : World) (x : α) (s : Value) (wx : World) : Prop :=
  ∃ blk cs lo hi, s = .pointer (some ⟨blk, 0, none⟩) ∧ w.heap.size ≤ blk ∧ (blk < lo ∨ hi ≤ blk) ∧ w.heap.size ≤ lo ∧ Vr wx blk t cs ∧ OV L wx lo hi (.agg cs.toArray) x ∧ Below w.heap.size w wx

end Go.Proofs.Ytdoipabfmekdlaa
