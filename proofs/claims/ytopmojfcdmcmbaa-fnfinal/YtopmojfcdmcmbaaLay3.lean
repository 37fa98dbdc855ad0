/- Slices of elements with a layout: one element more, one element marked, one element laid, a new slice of zeros. No program is named here. -/
import Derived.Test.YtopmojfcdmcmbaaLay2
namespace Go.Proofs.Ytopmojfcdmcmbaa
open Go.RowKit
set_option linter.unusedVariables false

section
variable {β : Type} {cf : Nat → List β} {N n : Nat}
/-- one element another -/
def upd (cf : Nat → List β) (i : Nat) (cs : List β) : Nat → List β := fun j => if j = i then cs else cf j
theorem upd_at {i : Nat} {cs : List β} : upd cf i cs i = cs := if_pos rfl
theorem upd_ne {i j : Nat} {cs : List β} (h : j ≠ i) : upd cf i cs j = cf j := if_neg h
theorem flat_upd_ge {i : Nat} {cs : List β} (h : N ≤ i) : flat (upd cf i cs) N = flat cf N := flat_congr fun j hj => upd_ne (by omega)
theorem flat_upd (h : ∀ j, j < N → (cf j).length = n) {i : Nat} {cs : List β} (hi : i < N) (hc : cs.length = n) :
    flat (upd cf i cs) N = (flat cf N).take (i * n) ++ (cs ++ (flat cf N).drop (i * n + n)) := by
  induction N with
  | zero => omega
  | succ N ih =>
    have hl := flat_len (cf := cf) (N := N) (n := n) (fun j hj => h j (by omega))
    rw [flat_succ, flat_succ]
    by_cases hiN : i < N
    · have h1 : (i + 1) * n ≤ N * n := Nat.mul_le_mul_right n (by omega)
      rw [Nat.succ_mul] at h1
      rw [ih (fun j hj => h j (by omega)) hiN, upd_ne (by omega), List.take_append_of_le_length (by omega), List.drop_append_of_le_length (by omega)]
      simp
    · obtain rfl : i = N := by omega
      have hlast := h i (by omega)
      rw [flat_upd_ge (Nat.le_refl _), upd_at, List.take_append_of_le_length (by omega), List.take_of_length_le (by omega)]
      rw [List.drop_append, List.drop_of_length_le (l := flat cf i) (by omega), List.drop_of_length_le (l := cf i) (by omega)]
      simp
theorem mem_upd {i : Nat} {cs : List β} {x : β} (h : x ∈ flat (upd cf i cs) N) : x ∈ cs ∨ x ∈ flat cf N := by
  obtain ⟨j, hj, hx⟩ := mem_flat.1 h
  by_cases e : j = i
  · subst e; rw [upd_at] at hx; exact .inl hx
  · rw [upd_ne e] at hx; exact .inr (mem_flat.2 ⟨j, hj, hx⟩)
end

theorem flat_nodup_upd {sf : Nat → List Nat} {N i : Nat} {T : List Nat} (h : (flat sf N).Nodup) (hT : T.Nodup) (hd : ∀ j ∈ T, j ∉ flat sf N) : (flat (upd sf i T) N).Nodup := by
  induction N with
  | zero => simp [flat]
  | succ N ih =>
    rw [flat_succ] at h hd ⊢
    obtain ⟨h1, h2, h3, h4⟩ := nodup_app h
    have ih' := ih h1 (fun j hj hm => hd j hj (List.mem_append.2 (.inl hm)))
    rw [List.nodup_append]
    by_cases e : N = i
    · subst e
      rw [upd_at, flat_upd_ge (Nat.le_refl _)]
      exact ⟨h1, hT, fun a ha b hb hab => hd b hb (List.mem_append.2 (.inl (hab ▸ ha)))⟩
    · rw [upd_ne e]
      refine ⟨ih', h2, fun a ha b hb hab => ?_⟩
      subst hab
      rcases mem_upd ha with hx | hx
      · exact hd a hx (List.mem_append.2 (.inr hb))
      · exact h3 a hx hb
/-- the blocks of two elements are apart -/
theorem flat_apart {sf : Nat → List Nat} {N : Nat} (h : (flat sf N).Nodup) : ∀ {i j : Nat}, i < N → j < N → i ≠ j → ∀ x ∈ sf i, x ∉ sf j := by
  induction N with
  | zero => intro i j hi; omega
  | succ N ih =>
    rw [flat_succ] at h
    obtain ⟨h1, h2, h3, h4⟩ := nodup_app h
    intro i j hi hj hne x hx hy
    by_cases ei : i = N
    · subst ei
      exact h4 x hx (mem_flat.2 ⟨j, by omega, hy⟩)
    · by_cases ej : j = N
      · subst ej
        exact h3 x (mem_flat.2 ⟨i, by omega, hx⟩) hy
      · exact ih h1 (by omega) (by omega) hne x hx hy

section
variable {α : Type} {L : Lay α} {n : Nat} {e : TypeId} {w w' : World} {B : Nat} {A : Option Addr} {xs : List α} {S T : List Nat} {v : Value}

/-- one element: its cells, its blocks; and what lies behind when it alone is marked -/
theorem OwnL.el (h : OwnL L e n w S v xs) (hn : S.Nodup) {j : Nat} {x : α} (hx : xs[j]? = some x) :
    ∃ cs T, cs.length = n ∧ (∀ g c N, v = .slice (some ⟨g, 0, none⟩) N c → ∀ i u, cs[i]? = some u → w.cell? ⟨g, j * n + i, none⟩ = some u) ∧ L.own w T cs x ∧ (∀ k ∈ T, k ∈ S) ∧ (v.ownBlock.isSome = true ∨ n = 0 ∨ xs = []) ∧
      ∀ w' x', L.own w' T cs x' → ChgS T w w' → OwnL L e n w' S v (xs.set j x') := by
  obtain ⟨cf, sf, ho, hel, rfl⟩ := h
  obtain ⟨hn1, hn2, hn3, hn4⟩ := nodup_app hn
  have hj := getElem?_lt hx
  have hlen := OwnL.lens hel
  obtain ⟨hc, hox⟩ := hel j x hx
  refine ⟨cf j, sf j, hc, ?_, hox, fun k hk => List.mem_append.2 (.inr (mem_flat.2 ⟨j, hj, hk⟩)), ?_, ?_⟩
  · rintro g c N rfl i u hu
    have hi : i < n := by have := getElem?_lt hu; omega
    have hlt2 : j * n + i < xs.length * n := by
      have h1 : (j + 1) * n ≤ xs.length * n := Nat.mul_le_mul_right n (by omega)
      rw [Nat.succ_mul] at h1; omega
    have hN : N = xs.length := by
      rcases ho.2 with ⟨h', _⟩ | ⟨g', cap, cur, hv, _⟩
      · simp at h'
      · simp only [Value.slice.injEq] at hv; exact hv.2.1
    subst hN
    rw [World.ownsRow.cellAt ho _ hlt2, flat_get hlen hj hi]
    exact hu
  · rcases ho.2 with ⟨h', h0⟩ | ⟨g', cap, cur, hv, _⟩
    · exact .inr (.inr (List.eq_nil_of_length_eq_zero h0))
    · left; rw [hv]; rfl
  · intro w' x' hx' hc'
    refine ⟨cf, sf, ?_, ?_, by rw [List.length_set]⟩
    · rw [List.length_set]
      refine ownsRow_keep ho fun k hk => ?_
      exact hc'.block k (World.ownsRow.lt ho k hk).2 (fun hm => hn3 k (by simp [hk]) (mem_flat.2 ⟨j, hj, hm⟩))
    · intro i y hy
      by_cases e1 : i = j
      · subst e1
        rw [List.getElem?_set_self hj] at hy
        obtain rfl : x' = y := by simpa using hy
        exact ⟨hc, hx'⟩
      · rw [List.getElem?_set_ne (Ne.symm e1)] at hy
        obtain ⟨h1, h2⟩ := hel i y hy
        exact ⟨h1, L.own_chg h2 hc' (flat_apart hn2 (getElem?_lt hy) hj e1)⟩

/-- one element laid anew -/
theorem OV.put {lo m hi j : Nat} {x : α} {cs : List Value} (h : OV (sliceL e n L) w lo m v xs) (hj : j < xs.length) (hc : cs.length = n)
    (hT : L.own w' T cs x) (hTn : T.Nodup) (hTr : ∀ k ∈ T, m ≤ k ∧ k < hi) (hlm : lo ≤ m) (hmh : m ≤ hi) (hhi : hi ≤ w'.heap.size)
    (hrow : ∀ ys, ys.length = xs.length * n → w.ownsRow 0 e n v xs.length ys → w'.ownsRow 0 e n v xs.length (ys.take (j * n) ++ (cs ++ ys.drop (j * n + n))))
    (hk : ∀ k, k < w.heap.size → v.ownBlock ≠ some k → w'.heap[k]? = w.heap[k]?) : OV (sliceL e n L) w' lo hi v (xs.set j x) := by
  obtain ⟨cs0, S, hv, ⟨u, rfl, cf, sf, ho, hel, rfl⟩, hn, hS, hm⟩ := h
  obtain rfl : v = u := hv
  obtain ⟨hn1, hn2, hn3, hn4⟩ := nodup_app hn
  have hlen := OwnL.lens hel
  refine ⟨[v], _, rfl, ⟨v, rfl, upd cf j cs, upd sf j T, ?_, ?_, rfl⟩, ?_, ?_, hhi⟩
  · rw [List.length_set, flat_upd hlen hj hc]
    exact hrow _ (flat_len hlen) ho
  · intro i y hy
    by_cases e1 : i = j
    · subst e1
      rw [List.getElem?_set_self hj] at hy
      obtain rfl : x = y := by simpa using hy
      rw [upd_at, upd_at]
      exact ⟨hc, hT⟩
    · rw [List.getElem?_set_ne (Ne.symm e1)] at hy
      obtain ⟨h1, h2⟩ := hel i y hy
      rw [upd_ne e1, upd_ne e1]
      refine ⟨h1, L.own_keep h2 fun k hk' => hk k (L.own_lt h2 k hk') fun hv => ?_⟩
      exact hn3 k (by simp [hv]) (mem_flat.2 ⟨i, getElem?_lt hy, hk'⟩)
  · rw [List.length_set, List.nodup_append]
    have hTd : ∀ k ∈ T, k ∉ flat sf xs.length := fun k hk1 hk2 => by
      have h1 := hTr k hk1
      have h2 := hS k (List.mem_append.2 (.inr hk2))
      omega
    refine ⟨hn1, flat_nodup_upd hn2 hTn hTd, fun a ha b hb hab => ?_⟩
    subst hab
    rcases mem_upd hb with hx | hx
    · have h1 := hTr a hx
      have h2 := hS a (List.mem_append.2 (.inl ha))
      omega
    · exact hn3 a ha hx
  · intro k hk1
    rw [List.length_set] at hk1
    rcases List.mem_append.1 hk1 with hx | hx
    · have := hS k (List.mem_append.2 (.inl hx)); omega
    · rcases mem_upd hx with hx | hx
      · have := hTr k hx; omega
      · have := hS k (List.mem_append.2 (.inr hx)); omega

/-- a new slice of zeros -/
theorem ownL_made {N : Nat} {z : α} {zc : List Value} (hz : L.own w [] zc z) (hc : zc.length = n) (h : w.ownsRow 0 e n v N (flat (fun _ => zc) N)) : OwnL L e n w v.ownBlock.toList v (List.replicate N z) := by
  refine ⟨fun _ => zc, fun _ => [], by rw [List.length_replicate]; exact h, fun j x hx => ?_, ?_⟩
  · obtain rfl : z = x := by
      have hj := getElem?_lt hx
      rw [List.length_replicate] at hj
      simpa [hj] using hx
    exact ⟨hc, hz⟩
  · have : flat (fun _ : Nat => ([] : List Nat)) (List.replicate N z).length = [] := by
      rw [List.eq_nil_iff_forall_not_mem]
      intro x hx
      obtain ⟨j, _, hx⟩ := mem_flat.1 hx
      cases hx
    rw [this, List.append_nil]
theorem flat_const1 {β : Type} (u : β) (N : Nat) : flat (fun _ => [u]) N = List.replicate N u := by
  induction N with
  | zero => rfl
  | succ N ih => rw [flat_succ, ih, List.replicate_succ']

/-- an append of one element: what is asked of the walk, and what lies behind -/
theorem OV.app_step {lo m hi : Nat} {u : Value} {x : α} (h : OV (sliceL e 1 L) w lo m v xs) (hT : L.own w T [u] x) (hTn : T.Nodup) (hTr : ∀ k ∈ T, m ≤ k ∧ k < hi) (hlm : lo ≤ m) (hmh : m ≤ hi) (hhi : hi ≤ w.heap.size) :
    ∃ ys, w.ownsRow 0 e 1 v xs.length ys ∧ (∃ A c, v = .slice A xs.length c) ∧ ∀ v' w', w'.ownsRow 0 e 1 v' (xs.length + 1) (ys ++ [u]) → w.grownBy w' v.ownBlock → (v'.ownBlock = v.ownBlock ∨ v'.ownBlock = some w.heap.size) →
      OV (sliceL e 1 L) w' lo w'.heap.size v' (xs ++ [x]) ∧ Below lo w w' := by
  obtain ⟨cs0, S, hv, ⟨u0, rfl, hO⟩, hn, hS, hm⟩ := h
  obtain rfl : v = u0 := hv
  obtain ⟨A0, c0, hv0, -⟩ := hO.form
  have hO' := hO
  obtain ⟨cf, sf, ho, hel, hSe⟩ := hO'
  refine ⟨_, ho, ⟨A0, c0, hv0⟩, fun v' w' hrow hg hat => ?_⟩
  have hsz := hg.size
  have hlt := World.ownsRow.lt hrow
  have hvS : ∀ k, v.ownBlock = some k → lo ≤ k ∧ k < m := fun k hk => hS k (by rw [hSe]; exact List.mem_append.2 (.inl (by simp [hk])))
  have hB : Below lo w w' := ⟨hg.os, hg.tape, hg.output, hg.size, fun k hk => hg.block k (by omega) (fun e => by have := hvS k e.symm; omega)⟩
  have hT' : L.own w' T [u] x := L.own_keep hT fun k hk => hg.block k (L.own_lt hT k hk) (fun e => by have := hvS k e.symm; have := hTr k hk; omega)
  obtain ⟨hn1, hn2, hn3, hn4⟩ := nodup_app (by rw [hSe] at hn; exact hn)
  have hrow' : w'.ownsRow 0 e 1 v' (xs ++ [x]).length (flat (upd cf xs.length [u]) (xs ++ [x]).length) := by
    rw [List.length_append, List.length_singleton, flat_succ, flat_upd_ge (Nat.le_refl _), upd_at]
    exact hrow
  have hnb : ∀ k, v'.ownBlock = some k → k ∉ flat sf xs.length ∧ k ∉ T ∧ lo ≤ k ∧ k < w'.heap.size := by
    intro k hk
    have hlt' := (hlt k hk).2
    rcases hat with h1 | h1
    · rw [h1] at hk
      have h2 := hvS k hk
      exact ⟨hn3 k (by simp [hk]), fun hm' => by have := hTr k hm'; omega, h2.1, hlt'⟩
    · rw [h1] at hk
      obtain rfl : w.heap.size = k := by simpa using hk
      refine ⟨fun hm' => ?_, fun hm' => ?_, by omega, hlt'⟩
      · have := hS w.heap.size (by rw [hSe]; exact List.mem_append.2 (.inr hm')); omega
      · have := hTr w.heap.size hm'; omega
  refine ⟨⟨[v'], _, rfl, ⟨v', rfl, upd cf xs.length [u], upd sf xs.length T, hrow', ?_, rfl⟩, ?_, ?_, Nat.le_refl _⟩, hB⟩
  · intro i y hy
    by_cases e1 : i = xs.length
    · subst e1
      obtain rfl : x = y := by simpa using hy
      rw [upd_at, upd_at]
      exact ⟨rfl, hT'⟩
    · have hjl : i < xs.length := by have := getElem?_lt hy; simp at this; omega
      rw [List.getElem?_append_left hjl] at hy
      obtain ⟨h1, h2⟩ := hel i y hy
      rw [upd_ne e1, upd_ne e1]
      refine ⟨h1, L.own_keep h2 fun k hk => hg.block k (L.own_lt h2 k hk) fun hv => ?_⟩
      exact hn3 k (by simp [← hv]) (mem_flat.2 ⟨i, hjl, hk⟩)
  · rw [List.length_append, List.length_singleton, flat_succ, flat_upd_ge (Nat.le_refl _), upd_at, List.nodup_append, List.nodup_append]
    refine ⟨by cases v'.ownBlock <;> simp, ⟨hn2, hTn, fun a ha b hb hab => ?_⟩, fun a ha b hb hab => ?_⟩
    · subst hab
      have h1 := hTr a hb
      have h2 := hS a (by rw [hSe]; exact List.mem_append.2 (.inr ha))
      omega
    · subst hab
      have hk : v'.ownBlock = some a := by simpa using ha
      obtain ⟨h1, h2, _⟩ := hnb a hk
      rcases List.mem_append.1 hb with hx | hx
      · exact h1 hx
      · exact h2 hx
  · intro k hk
    rw [List.length_append, List.length_singleton, flat_succ, flat_upd_ge (Nat.le_refl _), upd_at] at hk
    rcases List.mem_append.1 hk with hx | hx
    · exact (hnb k (by simpa using hx)).2.2
    · rcases List.mem_append.1 hx with hx | hx
      · have := hS k (by rw [hSe]; exact List.mem_append.2 (.inr hx)); omega
      · have := hTr k hx; omega
end

theorem OVp.lt {α : Type} {L : Lay α} {w : World} {p : Nat → Prop} {cs : List Value} {x : α} (h : OVp L w p cs x) : OVp L w (fun j => p j ∧ j < w.heap.size) cs x := by
  obtain ⟨S, ho, hn, hS⟩ := h
  exact ⟨S, ho, hn, fun j hj => ⟨hS j hj, L.own_lt ho j hj⟩⟩
theorem OVp.below {α : Type} {L : Lay α} {w w' : World} {p : Nat → Prop} {cs : List Value} {x : α} (h : OVp L w p cs x) (hb : Below w.heap.size w w') : OVp L w' p cs x := by
  obtain ⟨S, ho, hn, hS⟩ := h
  exact ⟨S, L.own_below ho hb, hn, hS⟩
theorem OVp.keep {α : Type} {L : Lay α} {w w' : World} {p : Nat → Prop} {cs : List Value} {x : α} (h : OVp L w p cs x) (hk : ∀ j, p j → j < w.heap.size → w'.heap[j]? = w.heap[j]?) : OVp L w' p cs x := by
  obtain ⟨S, ho, hn, hS⟩ := h
  exact ⟨S, L.own_keep ho fun j hj => hk j (hS j hj) (L.own_lt ho j hj), hn, hS⟩

/-- an append of one element, the blocks by a predicate -/
theorem OVp.app_step {α : Type} {L : Lay α} {e : TypeId} {w : World} {xs : List α} {T : List Nat} {v : Value} {p q : Nat → Prop} {m : Nat} {u : Value} {x : α} (h : OVp (sliceL e 1 L) w p [v] xs) (hT : L.own w T [u] x) (hTn : T.Nodup) (hTr : ∀ k ∈ T, m ≤ k) (hpm : ∀ k, p k → k < m) (hmw : m ≤ w.heap.size) (hq1 : ∀ k, p k → q k) (hq2 : ∀ k, m ≤ k → q k) :
    ∃ ys, w.ownsRow 0 e 1 v xs.length ys ∧ (∃ A c, v = .slice A xs.length c) ∧ (∀ k, v.ownBlock = some k → p k) ∧ ∀ v' w', w'.ownsRow 0 e 1 v' (xs.length + 1) (ys ++ [u]) → w.grownBy w' v.ownBlock → (v'.ownBlock = v.ownBlock ∨ v'.ownBlock = some w.heap.size) →
      OVp (sliceL e 1 L) w' q [v'] (xs ++ [x]) := by
  obtain ⟨S, ⟨u0, hv, hO⟩, hn, hS⟩ := h
  obtain rfl : v = u0 := by simpa using hv
  obtain ⟨A0, c0, hv0, -⟩ := hO.form
  have hO' := hO
  obtain ⟨cf, sf, ho, hel, hSe⟩ := hO'
  have hvS : ∀ k, v.ownBlock = some k → p k := fun k hk => hS k (by rw [hSe]; exact List.mem_append.2 (.inl (by simp [hk])))
  refine ⟨_, ho, ⟨A0, c0, hv0⟩, hvS, fun v' w' hrow hg hat => ?_⟩
  have hT' : L.own w' T [u] x := L.own_keep hT fun k hk => hg.block k (L.own_lt hT k hk) (fun e => by have := hpm k (hvS k e.symm); have := hTr k hk; omega)
  obtain ⟨hn1, hn2, hn3, hn4⟩ := nodup_app (by rw [hSe] at hn; exact hn)
  have hrow' : w'.ownsRow 0 e 1 v' (xs ++ [x]).length (flat (upd cf xs.length [u]) (xs ++ [x]).length) := by
    rw [List.length_append, List.length_singleton, flat_succ, flat_upd_ge (Nat.le_refl _), upd_at]
    exact hrow
  have hnb : ∀ k, v'.ownBlock = some k → k ∉ flat sf xs.length ∧ k ∉ T ∧ q k := by
    intro k hk
    rcases hat with h1 | h1
    · rw [h1] at hk
      have h2 := hpm k (hvS k hk)
      exact ⟨hn3 k (by simp [hk]), fun hm' => by have := hTr k hm'; omega, hq1 k (hvS k hk)⟩
    · rw [h1] at hk
      obtain rfl : w.heap.size = k := by simpa using hk
      refine ⟨fun hm' => ?_, fun hm' => ?_, hq2 _ hmw⟩
      · have := hpm _ (hS w.heap.size (by rw [hSe]; exact List.mem_append.2 (.inr hm'))); omega
      · have := L.own_lt hT w.heap.size hm'; omega
  refine ⟨_, ⟨v', rfl, upd cf xs.length [u], upd sf xs.length T, hrow', ?_, rfl⟩, ?_, ?_⟩
  · intro i y hy
    by_cases e1 : i = xs.length
    · subst e1
      obtain rfl : x = y := by simpa using hy
      rw [upd_at, upd_at]
      exact ⟨rfl, hT'⟩
    · have hjl : i < xs.length := by have := getElem?_lt hy; simp at this; omega
      rw [List.getElem?_append_left hjl] at hy
      obtain ⟨h1, h2⟩ := hel i y hy
      rw [upd_ne e1, upd_ne e1]
      refine ⟨h1, L.own_keep h2 fun k hk => hg.block k (L.own_lt h2 k hk) fun hv => ?_⟩
      exact hn3 k (by simp [← hv]) (mem_flat.2 ⟨i, hjl, hk⟩)
  · rw [List.length_append, List.length_singleton, flat_succ, flat_upd_ge (Nat.le_refl _), upd_at, List.nodup_append, List.nodup_append]
    refine ⟨by cases v'.ownBlock <;> simp, ⟨hn2, hTn, fun a ha b hb hab => ?_⟩, fun a ha b hb hab => ?_⟩
    · subst hab
      have h1 := hTr a hb
      have h2 := hpm a (hS a (by rw [hSe]; exact List.mem_append.2 (.inr ha)))
      omega
    · subst hab
      have hk : v'.ownBlock = some a := by simpa using ha
      obtain ⟨h1, h2, _⟩ := hnb a hk
      rcases List.mem_append.1 hb with hx | hx
      · exact h1 hx
      · exact h2 hx
  · intro k hk
    rw [List.length_append, List.length_singleton, flat_succ, flat_upd_ge (Nat.le_refl _), upd_at] at hk
    rcases List.mem_append.1 hk with hx | hx
    · exact (hnb k (by simpa using hx)).2.2
    · rcases List.mem_append.1 hx with hx | hx
      · exact hq1 k (hS k (by rw [hSe]; exact List.mem_append.2 (.inr hx)))
      · exact hq2 k (hTr k hx)

section
variable {α : Type} {L : Lay α} {n : Nat} {e : TypeId} {w w' : World} {xs : List α} {S T : List Nat} {v : Value} {g N c : Nat}

theorem OV.row {lo hi : Nat} (h : OV (sliceL e n L) w lo hi v xs) : ∃ ys, ys.length = xs.length * n ∧ w.ownsRow 0 e n v xs.length ys ∧ ∀ k, v.ownBlock = some k → lo ≤ k ∧ k < hi := by
  obtain ⟨cs0, S, hv, ⟨u, rfl, cf, sf, ho, hel, rfl⟩, hn, hS, hm⟩ := h
  obtain rfl : v = u := hv
  exact ⟨_, flat_len (OwnL.lens hel), ho, fun k hk => hS k (List.mem_append.2 (.inl (by simp [hk])))⟩
theorem OV.len_ {lo hi : Nat} (h : OV (sliceL e n L) w lo hi (.slice (some ⟨g, 0, none⟩) N c) xs) : N = xs.length := by
  obtain ⟨ys, _, ho, _⟩ := h.row
  rcases ho.2 with ⟨h', _⟩ | ⟨g', cap, cur, hv, _⟩
  · simp at h'
  · simp only [Value.slice.injEq] at hv; exact hv.2.1
/-- the cells of the row are there, and may be written -/
theorem OV.cell_ {lo hi j : Nat} (h : OV (sliceL e n L) w lo hi (.slice (some ⟨g, 0, none⟩) N c) xs) (hj : j < xs.length * n) : ∃ u, w.cell? ⟨g, j, none⟩ = some u ∧ w.frozen? ⟨g, j, none⟩ = false := by
  have hN := h.len_
  subst hN
  obtain ⟨ys, hl, ho, _⟩ := h.row
  refine ⟨ys[j]'(by omega), ?_, World.ownsRow.frozenAt ho j⟩
  rw [World.ownsRow.cellAt ho j hj, List.getElem?_eq_getElem (by omega)]
/-- one element of one cell laid anew -/
theorem OV.put1 {lo m hi j : Nat} {u : Value} {x : α} (h : OV (sliceL e 1 L) w lo m (.slice (some ⟨g, 0, none⟩) N c) xs) (hj : j < xs.length) (hT : L.own w T [u] x) (hTn : T.Nodup) (hTr : ∀ k ∈ T, m ≤ k ∧ k < hi) (hlm : lo ≤ m) (hmh : m ≤ hi) (hhi : hi ≤ w.heap.size) :
    OV (sliceL e 1 L) (w.setCell ⟨g, j, none⟩ u) lo hi (.slice (some ⟨g, 0, none⟩) N c) (xs.set j x) := by
  have hN := h.len_
  subst hN
  obtain ⟨ys0, _, ho0, hgr⟩ := h.row
  have hg := (World.ownsRow.stored ho0 j u).2
  have hgm := hgr g rfl
  refine h.put hj rfl (L.own_keep hT fun k hk => hg.block k (L.own_lt hT k hk) (fun e => ?_)) hTn hTr hlm hmh (by simpa using hhi) ?_ (fun k hk hne => hg.block k hk (fun e => hne e.symm))
  · obtain rfl : k = g := by simpa using e
    have := hTr k hk; omega
  · intro ys hl hrow
    rw [Nat.mul_one] at hl
    have := (World.ownsRow.stored hrow j u).1
    rw [List.set_eq_take_append_cons_drop, if_pos (by omega)] at this
    simpa using this
end

/-- a block of one cell that the walk has just laid -/
theorem rdV_one (w : World) (t : TypeId) (u : Value) : RdV (w.alloc (.cells #[u] t)) (w.heap.size + 1) (some ⟨w.heap.size, 0, none⟩) [u] := fun _ =>
  ⟨w.heap.size, 0, rfl, by omega, fun j x hx => by
    have hj : j = 0 := by have := getElem?_lt hx; simp at this; omega
    subst hj
    have := heap_alloc_new w (.cells #[u] t)
    rw [cell_of_row _ w.heap.size (0 + 0) #[u] t (0, 0) this]
    simpa using hx⟩

end Go.Proofs.Ytopmojfcdmcmbaa
