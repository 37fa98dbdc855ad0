/- Votes: the contracts of spec.l07Add, l07Copy, PropNew, PropReady, PropWon. Laid by a program of ours (src/vt3.py). -/
import Derived.Test.YtopmojfcdmcmbaaVt2
namespace Go.Proofs.Ytopmojfcdmcmbaa
open Go.RowKit
set_option linter.unusedVariables false

def addI (l : List Int) (n : Int) : List Int := l.filter (fun x => decide (x < n)) ++ [n] ++ l.filter (fun x => decide (n < x))
def propZ : MProp := ⟨0, 0, [], 0, []⟩
def propNewB (b u : Int) : Bool := propOkB ⟨b, u, [], 0, []⟩
def propNew (b u : Int) : MProp := if propNewB b u = true then ⟨b, u, [], 0, []⟩ else propZ
def propReadyB (p : MProp) (n : Int) : Bool := propOkB p && isMostB (p.From.length : Int) n
def propWonB (p : MProp) (n : Int) : Bool := propReadyB p n && isMostB (p.Got.length : Int) n
theorem os_nil {w : World} {lo hi : Nat} (h : hi ≤ w.heap.size) : OS .i64 3 w lo hi (.slice none 0 0) [] := ⟨World.ownsRow_nil _ _ _ _, fun j hj => by simp [Value.ownBlock] at hj, h⟩
theorem filter_take_succ {l : List Int} {p : Int → Bool} {k : Nat} {x : Int} (hx : l[k]? = some x) : (l.take (k + 1)).filter p = (l.take k).filter p ++ (if p x = true then [x] else []) := by
  rw [List.take_add_one, hx, List.filter_append]
  simp only [Option.toList_some, List.filter_cons, List.filter_nil]

end Go.Proofs.Ytopmojfcdmcmbaa
