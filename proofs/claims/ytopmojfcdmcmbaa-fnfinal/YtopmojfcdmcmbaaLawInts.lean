/- The same words for slices of integers. -/
import Derived.Test.YtopmojfcdmcmbaaLaw
import Derived.Test.YtopmojfcdmcmbaaInts
namespace Go.Proofs.Ytopmojfcdmcmbaa
open Go.RowKit
set_option linter.unusedVariables false

theorem toIntS_c {w : World} {v : Value} {zs : List Int} (h : RS .i64 w v zs) (hm : zs.length ≤ 16777216) : Calls Try.prog 60 #[v] w (NewS .i64 3 w zs) := by
  obtain ⟨A, c, rfl, _, _, hr⟩ := h
  exact (toIntS_any A c zs w hr hm).mono fun e w' ⟨he, ho, hb⟩ => ⟨_, he, OS.mk_ ho, hb⟩

theorem eqIntS_c {w : World} {v v' : Value} {xs ys : List Int} (h : RS .i64 w v xs) (h' : RS .i64 w v' ys) (hm : xs.length ≤ 1073741824) :
    Calls Try.prog 62 #[v, v'] w fun e w' => e = .returned (.bool (decide (xs = ys))) ∧ Below w.heap.size w w' := by
  obtain ⟨A, c, rfl, _, _, hr⟩ := h
  obtain ⟨A', c', rfl, _, _, hr'⟩ := h'
  exact eqIntS_b A A' c c' xs ys w _ hr hr' hm

theorem eqIntS_same {w : World} {v v' : Value} {xs : List Int} (h : RS .i64 w v xs) (h' : RS .i64 w v' xs) (hm : xs.length ≤ 1073741824) :
    Calls Try.prog 62 #[v, v'] w fun e w' => e = .returned (.bool true) ∧ Below w.heap.size w w' := by
  have := eqIntS_c h h' hm
  simpa using this

theorem markIntS_c {w : World} {v : Value} {zs : List Int} {lo hi : Nat} {k : Int} (h : OS .i64 3 w lo hi v zs) (hm : zs.length ≤ 1073741824) (hk0 : 0 ≤ k) (hk1 : k ≤ 1099511627776) :
    Calls Try.prog 66 #[v, .int .i64 k] w fun e w' => e = .returned (.int .i64 (k + (zs.length : Int))) ∧ OS .i64 3 w' lo hi v (marks64 k zs.length) ∧ Chg lo hi w w' :=
  (markIntS_any v lo zs k w h.1 hm hk0 hk1).mono fun e w' ⟨he, ho, hg⟩ => ⟨he, ⟨ho, h.2.1, Nat.le_trans h.2.2 hg.size⟩, Chg.of_grown hg fun j hj => ⟨(h.1.at_ j hj).1, h.2.1 j hj⟩⟩

theorem heldIntS_c {w : World} {v : Value} {n : Nat} {k : Int} (h : RS .i64 w v (marks64 k n)) (hm : n ≤ 1073741824) (hk0 : 0 ≤ k) (hk1 : k ≤ 1099511627776) :
    Calls Try.prog 68 #[v, .int .i64 k] w fun e w' => e = .returned (.int .i64 (k + (n : Int))) ∧ Below w.heap.size w w' := by
  obtain ⟨A, c, rfl, _, _, hr⟩ := h
  rw [marks64_len]
  exact (heldIntS_any A c _ n k w hr hm hk0 hk1).mono fun e w' ⟨he, hw⟩ => ⟨he, by rw [← hw]; exact Below.refl _ _⟩

end Go.Proofs.Ytopmojfcdmcmbaa
