/- Slices of elements of several cells: an element's cells laid anew, a new slice of zeros, one element more. No program is named here. -/
import Derived.Test.YtopmojfcdmcmbaaLay3
import Derived.Test.YtopmojfcdmcmbaaVars
namespace Go.Proofs.Ytopmojfcdmcmbaa
open Go.RowKit
set_option linter.unusedVariables false

/-- cells laid one behind the other, as a list -/
def setsL (ys : List Value) : Nat → List Value → List Value
  | _, [] => ys
  | o, c :: cs => setsL (ys.set o c) (o + 1) cs
theorem setsL_eq : ∀ (cs ys : List Value) (o : Nat), o + cs.length ≤ ys.length → setsL ys o cs = ys.take o ++ (cs ++ ys.drop (o + cs.length))
  | [], ys, o, _ => by simp [setsL]
  | c :: cs, ys, o, h => by
    rw [List.length_cons] at h
    rw [setsL, setsL_eq cs (ys.set o c) (o + 1) (by rw [List.length_set]; omega), List.take_add_one, List.take_set_of_le (Nat.le_refl _), List.getElem?_set_self (by omega), List.drop_set_of_lt (by omega), List.length_cons]
    rw [show o + 1 + cs.length = o + (cs.length + 1) by omega]
    simp

theorem ownsRow_setAll {base size g m c : Nat} {e : TypeId} : ∀ (cs ys : List Value) (o : Nat) (w : World), w.ownsRow base e size (.slice (some ⟨g, 0, none⟩) m c) m ys →
    (setAll w g o cs).ownsRow base e size (.slice (some ⟨g, 0, none⟩) m c) m (setsL ys o cs) ∧ w.grownBy (setAll w g o cs) (some g)
  | [], ys, o, w, h => ⟨h, ⟨rfl, rfl, rfl, Nat.le_refl _, fun _ _ _ => rfl⟩⟩
  | u :: cs, ys, o, w, h => by
    obtain ⟨h1, g1⟩ := World.ownsRow.stored h o u
    obtain ⟨h2, g2⟩ := ownsRow_setAll cs _ (o + 1) _ h1
    exact ⟨h2, ⟨g2.os.trans g1.os, g2.tape.trans g1.tape, g2.output.trans g1.output, Nat.le_trans g1.size g2.size, fun k hk hne => (g2.block k (Nat.lt_of_lt_of_le hk g1.size) hne).trans (g1.block k hk hne)⟩⟩

theorem flat_made (zc : List Value) (N : Nat) (h0 : 0 < zc.length) : flat (fun _ => zc) N = (madeCells zc.toArray (N * zc.length)).toList := by
  have hl : (flat (fun _ => zc) N).length = N * zc.length := flat_len (fun _ _ => rfl)
  apply List.ext_getElem?
  intro q
  by_cases hq : q < N * zc.length
  · have h1 : q = q / zc.length * zc.length + q % zc.length := by rw [Nat.mul_comm]; exact (Nat.div_add_mod q zc.length).symm
    have h2 : q % zc.length < zc.length := Nat.mod_lt _ h0
    have h3 : q / zc.length < N := (Nat.div_lt_iff_lt_mul h0).2 hq
    have h4 := flat_get (cf := fun _ => zc) (N := N) (n := zc.length) (fun _ _ => rfl) h3 h2
    rw [← h1] at h4
    rw [h4]
    simp [madeCells, hq, h2]
  · rw [List.getElem?_eq_none (by omega), List.getElem?_eq_none (by simp [madeCells]; omega)]

/-- one cell of a row: it is there, may be written, and what lies behind when it is written -/
theorem row_step {base size g m c : Nat} {e : TypeId} {w : World} {ys : List Value} (h : w.ownsRow base e size (.slice (some ⟨g, 0, none⟩) m c) m ys) {o : Nat} (ho : o < m * size) (u : Value) :
    (∃ u0, w.cell? ⟨g, o, none⟩ = some u0) ∧ w.frozen? ⟨g, o, none⟩ = false ∧ ∃ w', w.setCell ⟨g, o, none⟩ u = w' ∧ w'.ownsRow base e size (.slice (some ⟨g, 0, none⟩) m c) m (ys.set o u) := by
  refine ⟨⟨ys[o]'(by rw [h.1]; exact ho), ?_⟩, World.ownsRow.frozenAt h o, _, rfl, (World.ownsRow.stored h o u).1⟩
  rw [World.ownsRow.cellAt h o ho, List.getElem?_eq_getElem]

section
variable {α : Type} {L : Lay α} {n : Nat} {e : TypeId} {w : World} {xs : List α} {S : List Nat} {g c N : Nat}

theorem OwnL.rowOf (h : OwnL L e n w S (.slice (some ⟨g, 0, none⟩) N c) xs) : ∃ ys, w.ownsRow 0 e n (.slice (some ⟨g, 0, none⟩) N c) N ys := by
  obtain ⟨cf, sf, ho, hel, rfl⟩ := h
  have hN : N = xs.length := by
    rcases ho.2 with ⟨h', _⟩ | ⟨g', cap, cur, hv, _⟩
    · simp at h'
    · simp only [Value.slice.injEq] at hv; exact hv.2.1
  subst hN
  exact ⟨_, ho⟩

/-- the cells of one element, and that they may be written -/
theorem OwnL.cellsAt (h : OwnL L e n w S (.slice (some ⟨g, 0, none⟩) N c) xs) {j i : Nat} (hj : j < xs.length) (hi : i < n) : (∃ u, w.cell? ⟨g, j * n + i, none⟩ = some u) ∧ w.frozen? ⟨g, j * n + i, none⟩ = false := by
  obtain ⟨cf, sf, ho, hel, rfl⟩ := h
  have hN : N = xs.length := by
    rcases ho.2 with ⟨h', _⟩ | ⟨g', cap, cur, hv, _⟩
    · simp at h'
    · simp only [Value.slice.injEq] at hv; exact hv.2.1
  subst hN
  have hlt2 : j * n + i < xs.length * n := by
    have h1 : (j + 1) * n ≤ xs.length * n := Nat.mul_le_mul_right n (by omega)
    rw [Nat.succ_mul] at h1; omega
  refine ⟨⟨(flat cf xs.length)[j * n + i]'(by rw [flat_len (OwnL.lens hel)]; exact hlt2), ?_⟩, World.ownsRow.frozenAt ho _⟩
  rw [World.ownsRow.cellAt ho _ hlt2, List.getElem?_eq_getElem]

/-- one element of scalars laid anew -/
theorem OwnL.lay (hz : ∀ w T cs x, L.own w T cs x → T = []) (h : OwnL L e n w S (.slice (some ⟨g, 0, none⟩) N c) xs) {j : Nat} {cs : List Value} {x : α} (hj : j < xs.length) (hc : cs.length = n) (hx : L.own (setAll w g (j * n) cs) [] cs x) :
    OwnL L e n (setAll w g (j * n) cs) S (.slice (some ⟨g, 0, none⟩) N c) (xs.set j x) ∧ ChgS S w (setAll w g (j * n) cs) := by
  obtain ⟨cf, sf, ho, hel, rfl⟩ := h
  have hN : N = xs.length := by
    rcases ho.2 with ⟨h', _⟩ | ⟨g', cap, cur, hv, _⟩
    · simp at h'
    · simp only [Value.slice.injEq] at hv; exact hv.2.1
  subst hN
  have hlen := OwnL.lens hel
  have hfl := flat_len (cf := cf) (N := xs.length) hlen
  have hlt2 : j * n + n ≤ xs.length * n := by
    have h1 : (j + 1) * n ≤ xs.length * n := Nat.mul_le_mul_right n (by omega)
    rw [Nat.succ_mul] at h1; omega
  obtain ⟨hrow, hg⟩ := ownsRow_setAll cs _ (j * n) w ho
  refine ⟨⟨upd cf j cs, sf, ?_, ?_, by rw [List.length_set]⟩, ⟨hg.os, hg.tape, hg.output, hg.size, fun k hk hne => hg.block k hk (fun e => hne ?_)⟩⟩
  · rw [List.length_set, flat_upd hlen hj hc]
    rw [setsL_eq cs _ _ (by rw [hfl, hc]; exact hlt2), hc] at hrow
    exact hrow
  · intro i y hy
    by_cases e1 : i = j
    · subst e1
      rw [List.getElem?_set_self hj] at hy
      obtain rfl : x = y := by simpa using hy
      have := hel i xs[i] (List.getElem?_eq_getElem hj)
      rw [upd_at, hz _ _ _ _ this.2]
      exact ⟨hc, hx⟩
    · rw [List.getElem?_set_ne (Ne.symm e1)] at hy
      obtain ⟨h1, h2⟩ := hel i y hy
      rw [upd_ne e1]
      have hs := hz _ _ _ _ h2
      rw [hs] at h2 ⊢
      exact ⟨h1, L.own_keep h2 fun k hk => by cases hk⟩
  · exact List.mem_append.2 (.inl (by simp [Value.ownBlock, Option.some.inj e]))

/-- one element of scalars laid anew, in a slice of its own -/
theorem OV.lay {lo hi : Nat} (hz : ∀ w T cs x, L.own w T cs x → T = []) (h : OV (sliceL e n L) w lo hi (.slice (some ⟨g, 0, none⟩) N c) xs) {j : Nat} {cs : List Value} {x : α} (hj : j < xs.length) (hc : cs.length = n) (hx : L.own (setAll w g (j * n) cs) [] cs x) :
    OV (sliceL e n L) (setAll w g (j * n) cs) lo hi (.slice (some ⟨g, 0, none⟩) N c) (xs.set j x) ∧ Chg lo hi w (setAll w g (j * n) cs) := by
  obtain ⟨cs0, S, hv, ⟨u, rfl, ho⟩, hn, hS, hh⟩ := h
  obtain rfl : Value.slice (some ⟨g, 0, none⟩) N c = u := hv
  obtain ⟨h1, h2⟩ := ho.lay hz hj hc hx
  exact ⟨⟨_, S, rfl, ⟨_, rfl, h1⟩, hn, hS, Nat.le_trans hh h2.size⟩, h2.chg hS⟩
theorem OV.rowOf {lo hi : Nat} (h : OV (sliceL e n L) w lo hi (.slice (some ⟨g, 0, none⟩) N c) xs) : ∃ ys, w.ownsRow 0 e n (.slice (some ⟨g, 0, none⟩) N c) N ys := by
  obtain ⟨cs0, S, hv, ⟨u, rfl, ho⟩, hn, hS, hh⟩ := h
  obtain rfl : Value.slice (some ⟨g, 0, none⟩) N c = u := hv
  exact ho.rowOf

theorem OVp.sl {lo hi : Nat} {v : Value} (h : OV (sliceL e n L) w lo hi v xs) : OVp (sliceL e n L) w (fun j => lo ≤ j ∧ j < hi) [v] xs := by
  obtain ⟨cs0, S, hv, ⟨u, rfl, ho⟩, hn, hS, hh⟩ := h
  obtain rfl : v = u := hv
  exact ⟨S, ⟨_, rfl, ho⟩, hn, hS⟩

/-- an append of one element of scalars: what is asked of the walk, and what lies behind -/
theorem OV.app_n {lo m : Nat} {v : Value} {cs : List Value} {x : α} (hz : ∀ w T cs x, L.own w T cs x → T = []) (h : OV (sliceL e n L) w lo m v xs) (hc : cs.length = n) (hx : ∀ w, L.own w [] cs x) (hlm : lo ≤ w.heap.size) :
    ∃ ys, w.ownsRow 0 e n v xs.length ys ∧ (∃ A c, v = .slice A xs.length c) ∧ ∀ v' w', w'.ownsRow 0 e n v' (xs.length + 1) (ys ++ cs) → w.grownBy w' v.ownBlock → (v'.ownBlock = v.ownBlock ∨ v'.ownBlock = some w.heap.size) →
      OV (sliceL e n L) w' lo w'.heap.size v' (xs ++ [x]) ∧ Below lo w w' := by
  obtain ⟨cs0, S, hv, ⟨u0, rfl, hO⟩, hn, hS, hm⟩ := h
  obtain rfl : v = u0 := hv
  obtain ⟨A0, c0, hv0, -⟩ := hO.form
  obtain ⟨cf, sf, ho, hel, rfl⟩ := hO
  have hsf : flat sf xs.length = [] := List.eq_nil_iff_forall_not_mem.2 fun j hj => by
    obtain ⟨i, hi, hm⟩ := mem_flat.1 hj
    have := hz _ _ _ _ (hel i xs[i] (List.getElem?_eq_getElem hi)).2
    rw [this] at hm; cases hm
  refine ⟨_, ho, ⟨A0, c0, hv0⟩, fun v' w' hrow hg hat => ?_⟩
  have hlt := World.ownsRow.lt hrow
  have hvS : ∀ k, v.ownBlock = some k → lo ≤ k ∧ k < m := fun k hk => hS k (List.mem_append.2 (.inl (by simp [hk])))
  have hB : Below lo w w' := ⟨hg.os, hg.tape, hg.output, hg.size, fun k hk => hg.block k (by omega) (fun e => by have := hvS k e.symm; omega)⟩
  refine ⟨⟨[v'], v'.ownBlock.toList, rfl, ⟨v', rfl, upd cf xs.length cs, fun _ => [], ?_, ?_, ?_⟩, by cases v'.ownBlock <;> simp, ?_, Nat.le_refl _⟩, hB⟩
  · rw [List.length_append, List.length_singleton, flat_succ, flat_upd_ge (Nat.le_refl _), upd_at]
    exact hrow
  · intro i y hy
    by_cases e1 : i = xs.length
    · subst e1
      obtain rfl : x = y := by simpa using hy
      rw [upd_at]
      exact ⟨hc, hx w'⟩
    · have hjl : i < xs.length := by have := getElem?_lt hy; simp at this; omega
      rw [List.getElem?_append_left hjl] at hy
      obtain ⟨h1, h2⟩ := hel i y hy
      rw [upd_ne e1]
      have hs := hz _ _ _ _ h2
      rw [hs] at h2
      exact ⟨h1, L.own_keep h2 fun k hk => by cases hk⟩
  · have : flat (fun _ : Nat => ([] : List Nat)) (xs ++ [x]).length = [] := List.eq_nil_iff_forall_not_mem.2 fun j hj => by
      obtain ⟨i, _, hm⟩ := mem_flat.1 hj; cases hm
    rw [this, List.append_nil]
  · intro k hk
    have hk' : v'.ownBlock = some k := by simpa using hk
    have h2 := (hlt k hk').2
    rcases hat with h1 | h1
    · rw [h1] at hk'
      exact ⟨(hvS k hk').1, h2⟩
    · rw [h1] at hk'
      obtain rfl : w.heap.size = k := by simpa using hk'
      exact ⟨hlm, h2⟩
end

end Go.Proofs.Ytopmojfcdmcmbaa
