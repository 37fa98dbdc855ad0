/- An append of one element of several cells onto a row of one's own: what is left, in one statement. No program is named here. -/
import Derived.Test.YtopmojfcdmcmbaaAppN
namespace Go.Proofs.Ytopmojfcdmcmbaa
open Go.RowKit
set_option linter.unusedVariables false

theorem OV.app_grow {α : Type} {L : Lay α} {e : TypeId} {n : Nat} {w : World} {v : Value} {xs : List α} {lo m : Nat} {cs : List Value} {x : α} (hz : ∀ w T cs x, L.own w T cs x → T = []) (h : OV (sliceL e n L) w lo m v xs) (hc : cs.length = n) (hx : ∀ w, L.own w [] cs x) (hlm : lo ≤ w.heap.size) :
    ∃ ys, w.ownsRow 0 e n v xs.length ys ∧ ∀ v' w', w'.ownsRow 0 e n v' (xs.length + 1) (ys ++ cs) → w.grownBy w' v.ownBlock → (v'.ownBlock = v.ownBlock ∨ v'.ownBlock = some w.heap.size) →
      Chg lo m w w' ∧ OV (sliceL e n L) w' lo w'.heap.size v' (xs ++ [x]) := by
  have hm : m ≤ w.heap.size := by obtain ⟨_, _, _, _, _, _, hm⟩ := h; exact hm
  obtain ⟨ys, R, hb⟩ := OV.app_n2 hz h hc hx hlm
  refine ⟨ys, R, fun v' w' h1 h2 h3 => ?_⟩
  obtain ⟨hc2, ho | ho⟩ := hb v' w' h1 h2 h3
  · exact ⟨hc2, ho.widen (Nat.le_refl _) (Nat.le_trans hm hc2.size) (Nat.le_refl _)⟩
  · exact ⟨hc2, ho.widen hlm (Nat.le_refl _) (Nat.le_refl _)⟩

end Go.Proofs.Ytopmojfcdmcmbaa
