/- Layouts of slices whose elements have a layout of their own (slices of slices, slices of structs). No program is named here. -/
import Derived.Test.YtopmojfcdmcmbaaLay
namespace Go.Proofs.Ytopmojfcdmcmbaa
open Go.RowKit
set_option linter.unusedVariables false

/-- the cells of the elements, one behind the other -/
def flat {β : Type} (cf : Nat → List β) (N : Nat) : List β := (List.range N).flatMap cf

section
variable {β : Type} {cf cf' : Nat → List β} {N n : Nat}
theorem flat_succ : flat cf (N + 1) = flat cf N ++ cf N := by simp [flat, List.range_succ]
theorem flat_len (h : ∀ j, j < N → (cf j).length = n) : (flat cf N).length = N * n := by
  induction N with
  | zero => simp [flat]
  | succ N ih => rw [flat_succ, List.length_append, ih (fun j hj => h j (by omega)), h N (by omega), Nat.succ_mul]
theorem flat_congr (h : ∀ j, j < N → cf' j = cf j) : flat cf' N = flat cf N := by
  induction N with
  | zero => simp [flat]
  | succ N ih => rw [flat_succ, flat_succ, ih (fun j hj => h j (by omega)), h N (by omega)]
theorem flat_get (h : ∀ j, j < N → (cf j).length = n) {j i : Nat} (hj : j < N) (hi : i < n) : (flat cf N)[j * n + i]? = (cf j)[i]? := by
  induction N with
  | zero => omega
  | succ N ih =>
    have hl := flat_len (cf := cf) (N := N) (n := n) (fun j hj => h j (by omega))
    rw [flat_succ]
    by_cases hjN : j < N
    · have : j * n + i < N * n := by
        have h1 : (j + 1) * n ≤ N * n := Nat.mul_le_mul_right n (by omega)
        rw [Nat.succ_mul] at h1; omega
      rw [List.getElem?_append_left (by omega)]
      exact ih (fun j hj => h j (by omega)) hjN
    · obtain rfl : j = N := by omega
      rw [List.getElem?_append_right (by omega), hl, Nat.add_sub_cancel_left]
theorem mem_flat {x : β} : x ∈ flat cf N ↔ ∃ j, j < N ∧ x ∈ cf j := by simp [flat]
end

section
variable {α : Type}

/-- the slice with address A reads as the elements xs, n cells each -/
def RdL (L : Lay α) (n : Nat) (w : World) (B : Nat) (A : Option Addr) (xs : List α) : Prop :=
  ∃ cf : Nat → List Value, (∀ j x, xs[j]? = some x → (cf j).length = n ∧ L.rd w B (cf j) x) ∧
    (0 < xs.length → ∃ b off, A = some ⟨b, off, none⟩ ∧ b < B ∧ ∀ j i v, j < xs.length → (cf j)[i]? = some v → w.cell? ⟨b, off + (j * n + i), none⟩ = some v)

/-- the value v is a row of its own with the elements xs, each with blocks of its own; S: all blocks -/
def OwnL (L : Lay α) (e : TypeId) (n : Nat) (w : World) (S : List Nat) (v : Value) (xs : List α) : Prop :=
  ∃ (cf : Nat → List Value) (sf : Nat → List Nat), w.ownsRow 0 e n v xs.length (flat cf xs.length) ∧ (∀ j x, xs[j]? = some x → (cf j).length = n ∧ L.own w (sf j) (cf j) x) ∧ S = v.ownBlock.toList ++ flat sf xs.length

variable {L : Lay α} {n : Nat} {e : TypeId} {w w' : World} {B B' : Nat} {A : Option Addr} {xs : List α} {S : List Nat} {v : Value}

theorem RdL.keep (h : RdL L n w B A xs) (hk : ∀ p : Addr, p.block < B → w'.cell? p = w.cell? p) : RdL L n w' B A xs := by
  obtain ⟨cf, h1, h2⟩ := h
  refine ⟨cf, fun j x hx => ⟨(h1 j x hx).1, L.rd_keep (h1 j x hx).2 hk⟩, fun hp => ?_⟩
  obtain ⟨b, off, rfl, hb, hc⟩ := h2 hp
  exact ⟨b, off, rfl, hb, fun j i v hj hv => (hk _ hb).trans (hc j i v hj hv)⟩
theorem RdL.more (h : RdL L n w B A xs) (hB : B ≤ B') : RdL L n w B' A xs := by
  obtain ⟨cf, h1, h2⟩ := h
  refine ⟨cf, fun j x hx => ⟨(h1 j x hx).1, L.rd_more (h1 j x hx).2 hB⟩, fun hp => ?_⟩
  obtain ⟨b, off, rfl, hb, hc⟩ := h2 hp
  exact ⟨b, off, rfl, by omega, hc⟩
theorem RdL.below (h : RdL L n w B A xs) (hb : Below B w w') : RdL L n w' B A xs := h.keep fun _ hp => hb.cell hp

theorem getElem?_lt {β : Type} {l : List β} {j : Nat} {x : β} (h : l[j]? = some x) : j < l.length := by
  rcases Nat.lt_or_ge j l.length with h' | h'
  · exact h'
  · rw [List.getElem?_eq_none h'] at h; cases h

theorem OwnL.lens {cf : Nat → List Value} {sf : Nat → List Nat} (h : ∀ j x, xs[j]? = some x → (cf j).length = n ∧ L.own w (sf j) (cf j) x) : ∀ j, j < xs.length → (cf j).length = n :=
  fun j hj => (h j xs[j] (List.getElem?_eq_getElem hj)).1

theorem OwnL.form (h : OwnL L e n w S v xs) : ∃ A c, v = .slice A xs.length c ∧ xs.length ≤ c ∧ c ≤ maxLen ∧ RdL L n w w.heap.size A xs := by
  obtain ⟨cf, sf, ho, hel, rfl⟩ := h
  have hlt := World.ownsRow.lt ho
  have hlen := OwnL.lens hel
  rcases ho.2 with ⟨rfl, h0⟩ | ⟨g, cap, cur, rfl, hb, hh, hn, hm, hs, ht⟩
  · exact ⟨none, 0, by rw [h0], by omega, by unfold maxLen; omega, cf, fun j x hx => ⟨(hel j x hx).1, L.own_rd (hel j x hx).2⟩, fun hp => by omega⟩
  · refine ⟨some ⟨g, 0, none⟩, cap, rfl, hn, hm, cf, fun j x hx => ⟨(hel j x hx).1, L.own_rd (hel j x hx).2⟩, fun hp => ⟨g, 0, rfl, (hlt g rfl).2, fun j i u hj hu => ?_⟩⟩
    have hi : i < n := by have := getElem?_lt hu; rw [hlen j hj] at this; exact this
    have hlt2 : j * n + i < xs.length * n := by
      have h1 : (j + 1) * n ≤ xs.length * n := Nat.mul_le_mul_right n (by omega)
      rw [Nat.succ_mul] at h1; omega
    rw [Nat.zero_add, World.ownsRow.cellAt ho _ hlt2, flat_get hlen hj hi]
    exact hu
theorem OwnL.lt (h : OwnL L e n w S v xs) : ∀ j ∈ S, j < w.heap.size := by
  obtain ⟨cf, sf, ho, hel, rfl⟩ := h
  intro j hj
  rcases List.mem_append.1 hj with h | h
  · exact (World.ownsRow.lt ho j (by simpa using h)).2
  · obtain ⟨k, hk, hm⟩ := mem_flat.1 h
    exact L.own_lt (hel k xs[k] (List.getElem?_eq_getElem hk)).2 j hm
theorem ownsRow_keep {size m : Nat} {ys : List Value} {base : Nat} (h : w.ownsRow base e size v m ys) (hk : ∀ j, v.ownBlock = some j → w'.heap[j]? = w.heap[j]?) : w'.ownsRow base e size v m ys := by
  refine ⟨h.1, ?_⟩
  rcases h.2 with h2 | ⟨g, cap, cur, hv, hg, hh, r⟩
  · exact .inl h2
  · exact .inr ⟨g, cap, cur, hv, hg, (hk g (by rw [hv]; rfl)).trans hh, r⟩
theorem OwnL.keep (h : OwnL L e n w S v xs) (hk : ∀ j ∈ S, w'.heap[j]? = w.heap[j]?) : OwnL L e n w' S v xs := by
  obtain ⟨cf, sf, ho, hel, rfl⟩ := h
  refine ⟨cf, sf, ownsRow_keep ho fun j hj => hk j (List.mem_append.2 (.inl (by simp [hj]))), fun j x hx => ⟨(hel j x hx).1, L.own_keep (hel j x hx).2 fun i hi => hk i (List.mem_append.2 (.inr (mem_flat.2 ⟨j, getElem?_lt hx, hi⟩)))⟩, rfl⟩
end

/-- a slice of elements of layout L, n cells each -/
def sliceL {α : Type} (e : TypeId) (n : Nat) (L : Lay α) : Lay (List α) where
  rd w B cs xs := ∃ A c, cs = [.slice A xs.length c] ∧ xs.length ≤ c ∧ c ≤ maxLen ∧ RdL L n w B A xs
  own w S cs xs := ∃ v, cs = [v] ∧ OwnL L e n w S v xs
  rd_keep := by
    rintro w w' B cs xs ⟨A, c, rfl, h1, h2, hr⟩ hk
    exact ⟨A, c, rfl, h1, h2, hr.keep hk⟩
  rd_more := by
    rintro w B B' cs xs ⟨A, c, rfl, h1, h2, hr⟩ hB
    exact ⟨A, c, rfl, h1, h2, hr.more hB⟩
  own_rd := by
    rintro w S cs xs ⟨v, rfl, ho⟩
    obtain ⟨A, c, rfl, h1, h2, hr⟩ := ho.form
    exact ⟨A, c, rfl, h1, h2, hr⟩
  own_lt := by
    rintro w S cs xs ⟨v, rfl, ho⟩
    exact ho.lt
  own_keep := by
    rintro w w' S cs xs ⟨v, rfl, ho⟩ hk
    exact ⟨v, rfl, ho.keep hk⟩

section
variable {α : Type} {L : Lay α} {n : Nat} {e : TypeId} {w w' : World} {B : Nat} {A : Option Addr} {xs : List α} {S T : List Nat} {v : Value}

theorem rv_slice {e : TypeId} (h : RV (sliceL e n L) w v xs) : ∃ A c, v = .slice A xs.length c ∧ xs.length ≤ c ∧ c ≤ maxLen ∧ RdL L n w w.heap.size A xs := by
  obtain ⟨cs, rfl, A, c, rfl, h1, h2, hr⟩ := h
  exact ⟨A, c, rfl, h1, h2, hr⟩

/-- an element of one cell -/
theorem RdL.at1 (h : RdL L 1 w B A xs) {j : Nat} {x : α} (hx : xs[j]? = some x) : ∃ b off u, A = some ⟨b, off, none⟩ ∧ b < B ∧ w.cell? ⟨b, off + j, none⟩ = some u ∧ L.rd w B [u] x := by
  obtain ⟨cf, h1, h2⟩ := h
  have hj := getElem?_lt hx
  obtain ⟨b, off, rfl, hb, hc⟩ := h2 (by omega)
  obtain ⟨hl, hrd⟩ := h1 j x hx
  match hcf : cf j, hl with
  | [u], _ =>
    rw [hcf] at hrd
    exact ⟨b, off, u, rfl, hb, by simpa using hc j 0 u hj (by rw [hcf]; rfl), hrd⟩
/-- an element of n cells -/
theorem RdL.at_ (h : RdL L n w B A xs) {j : Nat} {x : α} (hx : xs[j]? = some x) : ∃ b off cs, A = some ⟨b, off, none⟩ ∧ b < B ∧ cs.length = n ∧ (∀ i u, cs[i]? = some u → w.cell? ⟨b, off + (j * n + i), none⟩ = some u) ∧ L.rd w B cs x := by
  obtain ⟨cf, h1, h2⟩ := h
  have hj := getElem?_lt hx
  obtain ⟨b, off, rfl, hb, hc⟩ := h2 (by omega)
  obtain ⟨hl, hrd⟩ := h1 j x hx
  exact ⟨b, off, cf j, rfl, hb, hl, fun i u hu => hc j i u hj hu, hrd⟩

theorem ownL_nil : OwnL L e n w [] (.slice none 0 0) ([] : List α) :=
  ⟨fun _ => [], fun _ => [], World.ownsRow_nil w 0 e n, fun j x hx => by simp at hx, by simp [Value.ownBlock, flat]⟩

/-- one element more: the row behind an append -/
theorem OwnL.snoc {cs : List Value} {x : α} {v' : Value} {T : List Nat} (h : OwnL L e n w S v xs) (hx : L.own w' T cs x) (hc : cs.length = n)
    (hrow : ∀ ys, w.ownsRow 0 e n v xs.length ys → w'.ownsRow 0 e n v' (xs.length + 1) (ys ++ cs)) (hk : ∀ j ∈ S, v.ownBlock ≠ some j → w'.heap[j]? = w.heap[j]?) (hn : S.Nodup) :
    ∃ R, OwnL L e n w' (v'.ownBlock.toList ++ (R ++ T)) v' (xs ++ [x]) ∧ S = v.ownBlock.toList ++ R := by
  obtain ⟨cf, sf, ho, hel, rfl⟩ := h
  refine ⟨flat sf xs.length, ⟨fun j => if j = xs.length then cs else cf j, fun j => if j = xs.length then T else sf j, ?_, ?_, ?_⟩, rfl⟩
  · have e1 : flat (fun j => if j = xs.length then cs else cf j) (xs ++ [x]).length = flat cf xs.length ++ cs := by
      rw [List.length_append, List.length_singleton, flat_succ]
      rw [flat_congr (cf := cf) (fun j hj => by rw [if_neg (by omega)])]
      simp
    rw [e1, List.length_append, List.length_singleton]
    exact hrow _ ho
  · intro j y hy
    by_cases hj : j = xs.length
    · subst hj
      obtain rfl : x = y := by simpa using hy
      simpa using And.intro hc hx
    · have hjl : j < xs.length := by have := getElem?_lt hy; simp at this; omega
      rw [List.getElem?_append_left hjl] at hy
      simp only [if_neg hj]
      refine ⟨(hel j y hy).1, L.own_keep (hel j y hy).2 fun i hi => hk i (List.mem_append.2 (.inr (mem_flat.2 ⟨j, hjl, hi⟩))) ?_⟩
      intro hv
      have hd := (nodup_app hn).2.2.1 i (by simp [hv])
      exact hd (mem_flat.2 ⟨j, hjl, hi⟩)
  · rw [List.length_append, List.length_singleton, flat_succ, flat_congr (cf := sf) (cf' := fun j => if j = xs.length then T else sf j) (fun j hj => if_neg (by omega))]
    simp
end

end Go.Proofs.Ytopmojfcdmcmbaa
