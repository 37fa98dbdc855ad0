/- Slices of ints in the words of layouts: marking by blocks, the size's reckoning. Laid by a program of ours (src/sintss.py). -/
import Derived.Test.YtopmojfcdmcmbaaSBytes
import Derived.Test.YtopmojfcdmcmbaaLawInts
namespace Go.Proofs.Ytopmojfcdmcmbaa
open Go.RowKit
set_option linter.unusedVariables false

def numsL : Lay (List Int) := intsL .i64 3

theorem markIntS_s {w : World} {S : List Nat} {v : Value} {zs : List Int} {k : Int} (h : numsL.own w S [v] zs) (hm : zs.length ≤ 1073741824) (hk0 : 0 ≤ k) (hk1 : k ≤ 1099511627776) :
    Calls Try.prog 66 #[v, .int .i64 k] w (MarkS numsL w S [v] (k + (zs.length : Int)) (marks64 k zs.length)) := by
  obtain ⟨u, e, ho, rfl⟩ := h
  obtain rfl : v = u := by simpa using e
  exact (markIntS_any v 0 zs k w ho hm hk0 hk1).mono fun e w' ⟨he, ho', hg⟩ => ⟨he, ⟨v, rfl, ho', rfl⟩, ChgS.of_grown hg⟩

set_option maxHeartbeats 400000 in
theorem szIntS_c {w : World} {v : Value} {zs : List Int} {left : Int} (h : RS .i64 w v zs) (h0 : 0 ≤ left) (h1 : left ≤ 1099511627776) :
    Calls Try.prog 54 #[v, .int .i64 left] w fun e w' => e = .returned (.int .i64 (szV left zs.length)) ∧ w = w' := by
  obtain ⟨A, c, rfl, hc1, hc2, hr⟩ := h
  unfold maxLen at hc2
  by_cases hl : (zs.length : Int) ≤ left
  · have e : szV left zs.length = left - (zs.length : Int) := if_pos hl
    have g : decide (left - (zs.length : Int) < 0) = false := by simp; omega
    rw [e]
    go_enter Try.func54, Try.ntmps54
    go_wp2
    go_ret
    exact ⟨rfl, rfl⟩
  · have e : szV left zs.length = -1 := if_neg hl
    have g : decide (left - (zs.length : Int) < 0) = true := by simp; omega
    rw [e]
    go_enter Try.func54, Try.ntmps54
    go_wp2
    go_ret
    exact ⟨rfl, rfl⟩

theorem szIntS_b {w : World} {v : Value} {zs : List Int} {left : Int} (h : RS .i64 w v zs) (h0 : 0 ≤ left) (h1 : left ≤ 1099511627776) :
    Calls Try.prog 54 #[v, .int .i64 left] w fun e w' => e = .returned (.int .i64 (szV left zs.length)) ∧ Below w.heap.size w w' :=
  (szIntS_c h h0 h1).mono fun e w' ⟨he, hw⟩ => ⟨he, by rw [← hw]; exact Below.refl _ _⟩

end Go.Proofs.Ytopmojfcdmcmbaa
