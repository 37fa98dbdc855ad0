/- The type Prop: its model, its layout, and the contracts of the laws' own helpers on it. Laid by a program of ours (typegen.py). -/
import Derived.Test.YtopmojfcdmcmbaaProg
import Derived.Test.YtopmojfcdmcmbaaVars
import Derived.Test.YtopmojfcdmcmbaaSInts
namespace Go.Proofs.Ytopmojfcdmcmbaa
open Go.RowKit
set_option linter.unusedVariables false

structure MProp where
  Bal : Int
  Val : Int
  From : List Int
  Best : Int
  Got : List Int

def propL : Lay MProp := isoL (fun d => (d.Bal, d.Val, d.From, d.Best, d.Got)) (consL (intL .i64) (consL (intL .i64) (consL (numsL) (consL (intL .i64) (numsL)))))

/-- how many values lie behind it -/
def MProp.bulk (d : MProp) : Nat := d.From.length + d.Got.length

/-- what a marking from k on makes of it -/
def MProp.mark (d : MProp) (k : Int) : MProp := ⟨d.Bal, d.Val, marks64 (k) d.From.length, d.Best, marks64 (k + (d.From.length : Int)) d.Got.length⟩

theorem rv_prop {w : World} {v : Value} {d : MProp} (h : RV propL w v d) : ∃ AFrom cFrom AGot cGot, v = .agg #[.int .i64 d.Bal, .int .i64 d.Val, .slice AFrom d.From.length cFrom, .int .i64 d.Best, .slice AGot d.Got.length cGot] ∧ RS .i64 w (.slice AFrom d.From.length cFrom) d.From ∧ RS .i64 w (.slice AGot d.Got.length cGot) d.Got := by
  obtain ⟨cs, rfl, hcs⟩ := h
  obtain ⟨_, _, rfl, rfl, ⟨_, _, rfl, rfl, ⟨_, _, rfl, ⟨AFrom, cFrom, rfl, hFrom⟩, ⟨_, _, rfl, rfl, ⟨AGot, cGot, rfl, hGot⟩⟩⟩⟩⟩ := hcs
  exact ⟨AFrom, cFrom, AGot, cGot, rfl, ⟨_, _, rfl, hFrom⟩, ⟨_, _, rfl, hGot⟩⟩

theorem cs_prop {w : World} {B : Nat} {cs : List Value} {d : MProp} (h : propL.rd w B cs d) : ∃ AFrom cFrom AGot cGot, cs = [.int .i64 d.Bal, .int .i64 d.Val, .slice AFrom d.From.length cFrom, .int .i64 d.Best, .slice AGot d.Got.length cGot] := by
  obtain ⟨_, _, rfl, rfl, ⟨_, _, rfl, rfl, ⟨_, _, rfl, ⟨AFrom, cFrom, rfl, hFrom⟩, ⟨_, _, rfl, rfl, ⟨AGot, cGot, rfl, hGot⟩⟩⟩⟩⟩ := h
  exact ⟨AFrom, cFrom, AGot, cGot, rfl⟩

theorem rv_prop_mk {w : World} {vFrom vGot : Value} {zBal : Int} {zVal : Int} {zFrom : List Int} {zBest : Int} {zGot : List Int} (hFrom : RS .i64 w vFrom zFrom) (hGot : RS .i64 w vGot zGot) : RV propL w (.agg #[.int .i64 zBal, .int .i64 zVal, vFrom, .int .i64 zBest, vGot]) ⟨zBal, zVal, zFrom, zBest, zGot⟩ := by
  obtain ⟨AFrom, cFrom, rfl, pFrom⟩ := hFrom
  obtain ⟨AGot, cGot, rfl, pGot⟩ := hGot
  exact ⟨_, rfl, [_], _, rfl, rfl, [_], _, rfl, rfl, [_], _, rfl, ⟨AFrom, cFrom, rfl, pFrom⟩, [_], _, rfl, rfl, ⟨AGot, cGot, rfl, pGot⟩⟩

theorem ovp_prop {w : World} {d : MProp} {lo hi lFrom hFrom lGot hGot : Nat} {vFrom vGot : Value} (oFrom : OS .i64 3 w lFrom hFrom vFrom d.From) (oGot : OS .i64 3 w lGot hGot vGot d.Got) (hc : hi ≤ w.heap.size ∧ lo ≤ lFrom ∧ hFrom ≤ hi ∧ lo ≤ lGot ∧ hGot ≤ hi ∧ (hFrom ≤ lGot ∨ hGot ≤ lFrom)) : OVp propL w (fun j => lo ≤ j ∧ j < hi) [.int .i64 d.Bal, .int .i64 d.Val, vFrom, .int .i64 d.Best, vGot] d := by
  have h : OVp propL w _ [.int .i64 d.Bal, .int .i64 d.Val, vFrom, .int .i64 d.Best, vGot] d := OVp.iso (f := fun d : MProp => (d.Bal, d.Val, d.From, d.Best, d.Got)) (OVp.cons1 (OVp.cons1 (OVp.cons (OVp.ints oFrom) (OVp.cons1 (OVp.ints oGot)) (by intro j; omega))))
  exact h.imp (by intro j; omega)

theorem ov_prop {w : World} {d : MProp} {lo hi lFrom hFrom lGot hGot : Nat} {vFrom vGot : Value} (oFrom : OS .i64 3 w lFrom hFrom vFrom d.From) (oGot : OS .i64 3 w lGot hGot vGot d.Got) (hc : hi ≤ w.heap.size ∧ lo ≤ lFrom ∧ hFrom ≤ hi ∧ lo ≤ lGot ∧ hGot ≤ hi ∧ (hFrom ≤ lGot ∨ hGot ≤ lFrom)) : OV propL w lo hi (.agg #[.int .i64 d.Bal, .int .i64 d.Val, vFrom, .int .i64 d.Best, vGot]) d :=
  (ovp_prop (lo := lo) (hi := hi) oFrom oGot hc).ov (fun _ h => h) hc.1

end Go.Proofs.Ytopmojfcdmcmbaa
