/- Arguments that are slices of elements with a layout, opened: what the reading of a parameter gives the walk. -/
import Derived.Test.YtopmojfcdmcmbaaOpens
import Derived.Test.YtopmojfcdmcmbaaLay2
namespace Go.Proofs.Ytopmojfcdmcmbaa
open Go.RowKit Go.ChangeShapes Go.WideShapes

theorem rv_slice_of_trod {α : Type} {L : Lay α} {Q : α → Prop} {H : Type} {enc : TypeId × Value → H} {P : Program} {w : World} {base : Nat} {spare : Nat → Bool} {held : Bool} {t e e' : TypeId} {n fuel : Nat} {v : Value} {x : DataW H × List MemPlace}
    (ht : P.underlying t = some (.slice e)) (hc : P.cellsOf e = n) (hn : 0 < n)
    (hE : ∀ m cs y, cs.length = n → DataW.trod enc P w base spare held m e cs = some y → ∃ z, L.rd w w.heap.size cs z ∧ Q z)
    (h : DataW.trod enc P w base spare held fuel t [v] = some x) : ∃ xs, RV (sliceL e' n L) w v xs ∧ ∀ z ∈ xs, Q z := by
  rcases DataW.trod_slice ht h with ⟨hcs, _⟩ | ⟨a, len, cap, elems, rest, m, _, hcs, _, hb, hl, hm, hlen, hel, -, -⟩
  · obtain rfl : v = .slice none 0 0 := by simpa using hcs
    exact ⟨[], ⟨[_], rfl, none, 0, rfl, Nat.le_refl _, by unfold maxLen; omega, fun _ => [], fun j x hx => by simp at hx, fun hp => by simp at hp⟩, fun z hz => by cases hz⟩
  · obtain rfl : v = .slice (some a) len cap := by simpa using hcs
    have each : ∀ i : Fin len, ∃ p : List Value × α, p.1.length = n ∧ L.rd w w.heap.size p.1 p.2 ∧ Q p.2 ∧ ∀ k, k < n → w.cell? ((a.add (i.1 * n)).add k) = p.1[k]? := by
      intro i
      have h1 := hel i.1 i.2
      rw [hc, List.getElem?_eq_getElem (by omega)] at h1
      obtain ⟨cs, h2, h3⟩ := Option.bind_eq_some_iff.1 h1
      obtain ⟨_, h4, h5⟩ := World.cells?_some h2
      obtain ⟨z, hz, hq⟩ := hE m cs _ h4 h3
      exact ⟨(cs, z), h4, hz, hq, h5⟩
    obtain ⟨f, hf⟩ := Classical.axiomOfChoice each
    have hl2 : (List.ofFn fun i => (f i).2).length = len := by simp
    refine ⟨List.ofFn fun i => (f i).2, ⟨[_], rfl, some a, cap, by rw [hl2], by omega, hm, fun j => if hj : j < len then (f ⟨j, hj⟩).1 else [], ?_, ?_⟩, ?_⟩
    · intro j z hz
      have hj := getElem?_lt hz
      rw [hl2] at hj
      obtain rfl : (f ⟨j, hj⟩).2 = z := by simpa [hj] using hz
      simp only [dif_pos hj]
      exact ⟨(hf ⟨j, hj⟩).1, (hf ⟨j, hj⟩).2.1⟩
    · intro hp
      rw [hl2] at hp
      obtain ⟨b, off, spot⟩ := a
      have h0 := (hf ⟨0, hp⟩).2.2.2 0 hn
      have hl0 := (hf ⟨0, hp⟩).1
      rw [List.getElem?_eq_getElem (by omega)] at h0
      have hspot : spot = none := by simpa [Addr.add] using World.cell?_spot h0
      subst hspot
      refine ⟨b, off, rfl, ?_, fun j i u hj hu => ?_⟩
      · have := lt_of_cell h0
        simpa [Addr.add] using this
      · rw [hl2] at hj
        simp only [dif_pos hj] at hu
        have hi : i < n := by have := getElem?_lt hu; rw [(hf ⟨j, hj⟩).1] at this; exact this
        have := (hf ⟨j, hj⟩).2.2.2 i hi
        rw [add_mk, add_mk, hu, Nat.add_assoc] at this
        exact this
    · intro z hz
      obtain ⟨i, hi⟩ := List.mem_ofFn.1 hz
      rw [← hi]
      exact (hf i).2.2.1

/-- a slice of slices of integers -/
theorem rss_of_trod {H : Type} {enc : TypeId × Value → H} {P : Program} {w : World} {base : Nat} {spare : Nat → Bool} {held : Bool} {t t1 e e' e1 : TypeId} {k : IntKind} {fuel : Nat} {v : Value} {x : DataW H × List MemPlace}
    (ht : P.underlying t = some (.slice t1)) (ht1 : P.underlying t1 = some (.slice e)) (hc1 : P.cellsOf t1 = 1) (he : P.underlying e = some (.int k)) (hc : P.cellsOf e = 1) (h : DataW.trod enc P w base spare held fuel t [v] = some x) :
    ∃ xs, RV (sliceL e' 1 (intsL k e1)) w v xs ∧ ∀ zs ∈ xs, ∀ n ∈ zs, (Lit.int k n).wf = true := by
  refine rv_slice_of_trod (Q := fun zs => ∀ n ∈ zs, (Lit.int k n).wf = true) ht hc1 (by omega) ?_ h
  intro m cs y hl hy
  match cs, hl with
  | [u], _ =>
    obtain ⟨zs, ⟨A, c, rfl, h1, h2, hr⟩, hw⟩ := rs_of_trod ht1 he hc hy
    exact ⟨zs, ⟨A, c, rfl, h1, h2, hr⟩, hw⟩

end Go.Proofs.Ytopmojfcdmcmbaa
