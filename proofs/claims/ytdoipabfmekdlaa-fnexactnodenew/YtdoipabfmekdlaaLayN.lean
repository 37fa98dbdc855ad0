/- Slices whose elements own nothing: the same layout with no blocks behind an element; an append of one element in either place. No program is named here. -/
import Derived.Test.YtdoipabfmekdlaaBunX
namespace Go.Proofs.Ytdoipabfmekdlaa
open Go.RowKit
set_option linter.unusedVariables false

/-- the layout L, its values without blocks of their own -/
def nilL {α : Type} (L : Lay α) : Lay α where
  rd := L.rd
  own w S cs x := L.own w S cs x ∧ S = []
  rd_keep h hk := L.rd_keep h hk
  rd_more h hB := L.rd_more h hB
  own_rd h := L.own_rd h.1
  own_lt h := L.own_lt h.1
  own_keep h hk := ⟨L.own_keep h.1 hk, h.2⟩

section
variable {α : Type} {L : Lay α} {n : Nat} {e : TypeId} {w : World} {xs : List α} {v : Value} {S : List Nat}
theorem nilL_nil : ∀ (w : World) (T : List Nat) (cs : List Value) (x : α), (nilL L).own w T cs x → T = [] := fun _ _ _ _ h => h.2
theorem OwnL.ofNil (h : OwnL (nilL L) e n w S v xs) : OwnL L e n w S v xs := by
  obtain ⟨cf, sf, ho, hel, hS⟩ := h
  exact ⟨cf, sf, ho, fun j x hx => ⟨(hel j x hx).1, (hel j x hx).2.1⟩, hS⟩
theorem OV.ofNil {lo hi : Nat} (h : OV (sliceL e n (nilL L)) w lo hi v xs) : OV (sliceL e n L) w lo hi v xs := by
  obtain ⟨cs, S, hv, ⟨u, hu, ho⟩, hn, hS, hh⟩ := h
  exact ⟨cs, S, hv, ⟨u, hu, ho.ofNil⟩, hn, hS, hh⟩
theorem ov_nil_any {lo : Nat} (h : lo ≤ w.heap.size) : OV (sliceL e n L) w lo lo (.slice none 0 0) ([] : List α) :=
  ⟨[_], [], rfl, ⟨_, rfl, ownL_nil⟩, List.nodup_nil, (fun j hj => by cases hj), h⟩

/-- an append of one element that owns nothing: the row lies where it lay, or in a new block -/
theorem OV.app_n3 {lo m : Nat} {cs : List Value} {x : α} (hz : ∀ w T cs x, L.own w T cs x → T = []) (h : OV (sliceL e n L) w lo m v xs) (hc : cs.length = n) (hx : ∀ w, L.own w [] cs x) (hlm : lo ≤ w.heap.size) :
    ∃ ys, w.ownsRow 0 e n v xs.length ys ∧ ∀ v' w', w'.ownsRow 0 e n v' (xs.length + 1) (ys ++ cs) → w.grownBy w' v.ownBlock → (v'.ownBlock = v.ownBlock ∨ v'.ownBlock = some w.heap.size) →
      Chg lo m w w' ∧ ∃ l h, OV (sliceL e n L) w' l h v' (xs ++ [x]) ∧ ((l = lo ∧ h = m) ∨ (w.heap.size ≤ l ∧ l ≤ w'.heap.size)) ∧ h ≤ w'.heap.size := by
  obtain ⟨ys, R, hb⟩ := OV.app_n2 hz h hc hx hlm
  refine ⟨ys, R, fun v' w' h1 h2 h3 => ?_⟩
  obtain ⟨hc, ho | ho⟩ := hb v' w' h1 h2 h3
  · exact ⟨hc, lo, m, ho, .inl ⟨rfl, rfl⟩, by obtain ⟨_, _, _, _, _, _, hm⟩ := ho; exact hm⟩
  · exact ⟨hc, _, _, ho, .inr ⟨Nat.le_refl _, h2.size⟩, Nat.le_refl _⟩
end

theorem OV.le_ {α : Type} {L : Lay α} {w : World} {lo hi : Nat} {v : Value} {x : α} (h : OV L w lo hi v x) : hi ≤ w.heap.size := by
  obtain ⟨_, _, _, _, _, _, h⟩ := h; exact h
theorem Vr.rdOne {w : World} {b : Nat} {t : TypeId} {k : IntKind} {z : Int} (h : Vr w b t [.int k z]) : Rd k w w.heap.size (some ⟨b, 0, none⟩) [z] := fun _ =>
  ⟨b, 0, rfl, h.lt, fun j hj => by
    have hj0 : j = 0 := by simpa using hj
    subst hj0
    exact h.cell (i := 0) rfl⟩
/-- integers: an append in either place -/
theorem OS.app_2 {k : IntKind} {e : TypeId} {w w' : World} {lo m : Nat} {v v' : Value} {xs ys : List Int} (h : OS k e w lo m v xs) (h2 : Own k w' 0 e v' ys) (hg : w.grownBy w' v.ownBlock) (hat : v'.ownBlock = v.ownBlock ∨ v'.ownBlock = some w.heap.size) :
    Chg lo m w w' ∧ ∃ l h, OS k e w' l h v' ys ∧ ((l = lo ∧ h = m) ∨ (w.heap.size ≤ l ∧ l ≤ w'.heap.size)) ∧ h ≤ w'.heap.size := by
  have hs := hg.size
  refine ⟨Chg.of_grown hg (fun j hj => ⟨(h.1.at_ j hj).1, h.2.1 j hj⟩), ?_⟩
  rcases hat with ha | ha
  · exact ⟨lo, m, ⟨own_at h2 (fun j hj => (h.1.at_ j (by rw [← ha]; exact hj)).1), fun j hj => h.2.1 j (by rw [← ha]; exact hj), Nat.le_trans h.2.2 hs⟩, .inl ⟨rfl, rfl⟩, Nat.le_trans h.2.2 hs⟩
  · exact ⟨w.heap.size, w'.heap.size, ⟨own_at h2 (fun j hj => by rw [ha] at hj; simp at hj; omega), fun j hj => (h2.at_ j hj).2, Nat.le_refl _⟩, .inr ⟨Nat.le_refl _, hs⟩, Nat.le_refl _⟩
theorem os_nil_any {k : IntKind} {e : TypeId} {w : World} {lo : Nat} (h : lo ≤ w.heap.size) : OS k e w lo lo (.slice none 0 0) [] :=
  ⟨World.ownsRow_nil _ _ _ _, (fun j hj => by cases hj), h⟩

end Go.Proofs.Ytdoipabfmekdlaa
