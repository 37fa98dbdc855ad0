/- Texts joined: Cursor, CurV, Lay2, Lay3, Lay4, AppStep, AppN, SBytes, SByteSS, SMsgS, TOut, Box1, Box2, Box3, Box4, AppG, MakesM. -/
import Derived.Test.YtkbhbccpmmhelaaProg
import Derived.Test.YtkbhbccpmmhelaaBunA
import Derived.Deep.QuietTactic
import Derived.BigQuiet
import Derived.Deep.RegionLaw
import Derived.Deep.RegionHeld3
import Derived.Test.YtkbhbccpmmhelaaBunB
import Derived.IntWalk

namespace Go.Proofs.Ytkbhbccpmmhelaa
open Go.RowKit
set_option linter.unusedVariables false

theorem and255 (x : Int) : 0 ≤ bits .and .i64 x 255 ∧ bits .and .i64 x 255 ≤ 255 := by
  have h1 : (BitVec.ofInt 64 x &&& BitVec.ofInt 64 255).toNat ≤ 255 := by
    rw [BitVec.toNat_and]
    exact Nat.le_trans Nat.and_le_right (by decide)
  have e : bits .and .i64 x 255 = IntKind.i64.wrap ((BitVec.ofInt 64 x &&& BitVec.ofInt 64 255).toNat : Int) := rfl
  rw [e, IntKind.wrap_i64]
  omega

theorem wrap64_range (n : Int) : -9223372036854775808 ≤ wrap64 n ∧ wrap64 n ≤ 9223372036854775807 := by
  unfold wrap64; omega

/-- l01Below: below n, where n is positive -/
theorem grown_more {a b c : World} {g : Nat} (h : a.grownBy b (some g)) (k : b.grownBy c (some g)) : a.grownBy c (some g) :=
  ⟨k.os.trans h.os, k.tape.trans h.tape, k.output.trans h.output, Nat.le_trans h.size k.size, fun i hi hne => (k.block i (by have := h.size; omega) hne).trans (h.block i hi hne)⟩

theorem and30 (x : Int) : 0 ≤ bits .and .i64 x 1073741823 ∧ bits .and .i64 x 1073741823 ≤ 1073741823 := by
  have h1 : (BitVec.ofInt 64 x &&& BitVec.ofInt 64 1073741823).toNat ≤ 1073741823 := by
    rw [BitVec.toNat_and]
    exact Nat.le_trans Nat.and_le_right (by decide)
  have e : bits .and .i64 x 1073741823 = IntKind.i64.wrap ((BitVec.ofInt 64 x &&& BitVec.ofInt 64 1073741823).toNat : Int) := rfl
  rw [e, IntKind.wrap_i64]
  omega

end Go.Proofs.Ytkbhbccpmmhelaa

namespace Go.Proofs.Ytkbhbccpmmhelaa
open Go.RowKit
set_option linter.unusedVariables false

end Go.Proofs.Ytkbhbccpmmhelaa

namespace Go.Proofs.Ytkbhbccpmmhelaa
open Go.RowKit
set_option linter.unusedVariables false

/-- the cells of the elements, one behind the other -/
def flat {β : Type} (cf : Nat → List β) (N : Nat) : List β := (List.range N).flatMap cf

section
variable {β : Type} {cf cf' : Nat → List β} {N n : Nat}
theorem flat_succ : flat cf (N + 1) = flat cf N ++ cf N := by simp [flat, List.range_succ]
theorem flat_len (h : ∀ j, j < N → (cf j).length = n) : (flat cf N).length = N * n := by
  induction N with
  | zero => simp [flat]
  | succ N ih => rw [flat_succ, List.length_append, ih (fun j hj => h j (by omega)), h N (by omega), Nat.succ_mul]
theorem flat_congr (h : ∀ j, j < N → cf' j = cf j) : flat cf' N = flat cf N := by
  induction N with
  | zero => simp [flat]
  | succ N ih => rw [flat_succ, flat_succ, ih (fun j hj => h j (by omega)), h N (by omega)]
theorem flat_get (h : ∀ j, j < N → (cf j).length = n) {j i : Nat} (hj : j < N) (hi : i < n) : (flat cf N)[j * n + i]? = (cf j)[i]? := by
  induction N with
  | zero => omega
  | succ N ih =>
    have hl := flat_len (cf := cf) (N := N) (n := n) (fun j hj => h j (by omega))
    rw [flat_succ]
    by_cases hjN : j < N
    · have : j * n + i < N * n := by
        have h1 : (j + 1) * n ≤ N * n := Nat.mul_le_mul_right n (by omega)
        rw [Nat.succ_mul] at h1; omega
      rw [List.getElem?_append_left (by omega)]
      exact ih (fun j hj => h j (by omega)) hjN
    · obtain rfl : j = N := by omega
      rw [List.getElem?_append_right (by omega), hl, Nat.add_sub_cancel_left]
theorem mem_flat {x : β} : x ∈ flat cf N ↔ ∃ j, j < N ∧ x ∈ cf j := by simp [flat]
end

section
variable {α : Type}

/-- the slice with address A reads as the elements xs, n cells each -/
def RdL (L : Lay α) (n : Nat) (w : World) (B : Nat) (A : Option Addr) (xs : List α) : Prop :=
  ∃ cf : Nat → List Value, (∀ j x, xs[j]? = some x → (cf j).length = n ∧ L.rd w B (cf j) x) ∧
    (0 < xs.length → ∃ b off, A = some ⟨b, off, none⟩ ∧ b < B ∧ ∀ j i v, j < xs.length → (cf j)[i]? = some v → w.cell? ⟨b, off + (j * n + i), none⟩ = some v)

/-- the value v is a row of its own with the elements xs, each with blocks of its own; S: all blocks -/
def OwnL (L : Lay α) (e : TypeId) (n : Nat) (w : World) (S : List Nat) (v : Value) (xs : List α) : Prop :=
  ∃ (cf : Nat → List Value) (sf : Nat → List Nat), w.ownsRow 0 e n v xs.length (flat cf xs.length) ∧ (∀ j x, xs[j]? = some x → (cf j).length = n ∧ L.own w (sf j) (cf j) x) ∧ S = v.ownBlock.toList ++ flat sf xs.length

variable {L : Lay α} {n : Nat} {e : TypeId} {w w' : World} {B B' : Nat} {A : Option Addr} {xs : List α} {S : List Nat} {v : Value}

theorem RdL.keep (h : RdL L n w B A xs) (hk : ∀ p : Addr, p.block < B → w'.cell? p = w.cell? p) : RdL L n w' B A xs := by
  obtain ⟨cf, h1, h2⟩ := h
  refine ⟨cf, fun j x hx => ⟨(h1 j x hx).1, L.rd_keep (h1 j x hx).2 hk⟩, fun hp => ?_⟩
  obtain ⟨b, off, rfl, hb, hc⟩ := h2 hp
  exact ⟨b, off, rfl, hb, fun j i v hj hv => (hk _ hb).trans (hc j i v hj hv)⟩
theorem RdL.more (h : RdL L n w B A xs) (hB : B ≤ B') : RdL L n w B' A xs := by
  obtain ⟨cf, h1, h2⟩ := h
  refine ⟨cf, fun j x hx => ⟨(h1 j x hx).1, L.rd_more (h1 j x hx).2 hB⟩, fun hp => ?_⟩
  obtain ⟨b, off, rfl, hb, hc⟩ := h2 hp
  exact ⟨b, off, rfl, by omega, hc⟩
theorem RdL.below (h : RdL L n w B A xs) (hb : Below B w w') : RdL L n w' B A xs := h.keep fun _ hp => hb.cell hp

theorem getElem?_lt {β : Type} {l : List β} {j : Nat} {x : β} (h : l[j]? = some x) : j < l.length := by
  rcases Nat.lt_or_ge j l.length with h' | h'
  · exact h'
  · rw [List.getElem?_eq_none h'] at h; cases h

theorem OwnL.lens {cf : Nat → List Value} {sf : Nat → List Nat} (h : ∀ j x, xs[j]? = some x → (cf j).length = n ∧ L.own w (sf j) (cf j) x) : ∀ j, j < xs.length → (cf j).length = n :=
  fun j hj => (h j xs[j] (List.getElem?_eq_getElem hj)).1

theorem OwnL.form (h : OwnL L e n w S v xs) : ∃ A c, v = .slice A xs.length c ∧ xs.length ≤ c ∧ c ≤ maxLen ∧ RdL L n w w.heap.size A xs := by
  obtain ⟨cf, sf, ho, hel, rfl⟩ := h
  have hlt := World.ownsRow.lt ho
  have hlen := OwnL.lens hel
  rcases ho.2 with ⟨rfl, h0⟩ | ⟨g, cap, cur, rfl, hb, hh, hn, hm, hs, ht⟩
  · exact ⟨none, 0, by rw [h0], by omega, by unfold maxLen; omega, cf, fun j x hx => ⟨(hel j x hx).1, L.own_rd (hel j x hx).2⟩, fun hp => by omega⟩
  · refine ⟨some ⟨g, 0, none⟩, cap, rfl, hn, hm, cf, fun j x hx => ⟨(hel j x hx).1, L.own_rd (hel j x hx).2⟩, fun hp => ⟨g, 0, rfl, (hlt g rfl).2, fun j i u hj hu => ?_⟩⟩
    have hi : i < n := by have := getElem?_lt hu; rw [hlen j hj] at this; exact this
    have hlt2 : j * n + i < xs.length * n := by
      have h1 : (j + 1) * n ≤ xs.length * n := Nat.mul_le_mul_right n (by omega)
      rw [Nat.succ_mul] at h1; omega
    rw [Nat.zero_add, World.ownsRow.cellAt ho _ hlt2, flat_get hlen hj hi]
    exact hu
theorem OwnL.lt (h : OwnL L e n w S v xs) : ∀ j ∈ S, j < w.heap.size := by
  obtain ⟨cf, sf, ho, hel, rfl⟩ := h
  intro j hj
  rcases List.mem_append.1 hj with h | h
  · exact (World.ownsRow.lt ho j (by simpa using h)).2
  · obtain ⟨k, hk, hm⟩ := mem_flat.1 h
    exact L.own_lt (hel k xs[k] (List.getElem?_eq_getElem hk)).2 j hm
theorem ownsRow_keep {size m : Nat} {ys : List Value} {base : Nat} (h : w.ownsRow base e size v m ys) (hk : ∀ j, v.ownBlock = some j → w'.heap[j]? = w.heap[j]?) : w'.ownsRow base e size v m ys := by
  refine ⟨h.1, ?_⟩
  rcases h.2 with h2 | ⟨g, cap, cur, hv, hg, hh, r⟩
  · exact .inl h2
  · exact .inr ⟨g, cap, cur, hv, hg, (hk g (by rw [hv]; rfl)).trans hh, r⟩
theorem OwnL.keep (h : OwnL L e n w S v xs) (hk : ∀ j ∈ S, w'.heap[j]? = w.heap[j]?) : OwnL L e n w' S v xs := by
  obtain ⟨cf, sf, ho, hel, rfl⟩ := h
  refine ⟨cf, sf, ownsRow_keep ho fun j hj => hk j (List.mem_append.2 (.inl (by simp [hj]))), fun j x hx => ⟨(hel j x hx).1, L.own_keep (hel j x hx).2 fun i hi => hk i (List.mem_append.2 (.inr (mem_flat.2 ⟨j, getElem?_lt hx, hi⟩)))⟩, rfl⟩
end

/-- a slice of elements of layout L, n cells each -/
def sliceL {α : Type} (e : TypeId) (n : Nat) (L : Lay α) : Lay (List α) where
  rd w B cs xs := ∃ A c, cs = [.slice A xs.length c] ∧ xs.length ≤ c ∧ c ≤ maxLen ∧ RdL L n w B A xs
  own w S cs xs := ∃ v, cs = [v] ∧ OwnL L e n w S v xs
  rd_keep := by
    rintro w w' B cs xs ⟨A, c, rfl, h1, h2, hr⟩ hk
    exact ⟨A, c, rfl, h1, h2, hr.keep hk⟩
  rd_more := by
    rintro w B B' cs xs ⟨A, c, rfl, h1, h2, hr⟩ hB
    exact ⟨A, c, rfl, h1, h2, hr.more hB⟩
  own_rd := by
    rintro w S cs xs ⟨v, rfl, ho⟩
    obtain ⟨A, c, rfl, h1, h2, hr⟩ := ho.form
    exact ⟨A, c, rfl, h1, h2, hr⟩
  own_lt := by
    rintro w S cs xs ⟨v, rfl, ho⟩
    exact ho.lt
  own_keep := by
    rintro w w' S cs xs ⟨v, rfl, ho⟩ hk
    exact ⟨v, rfl, ho.keep hk⟩

section
variable {α : Type} {L : Lay α} {n : Nat} {e : TypeId} {w w' : World} {B : Nat} {A : Option Addr} {xs : List α} {S T : List Nat} {v : Value}

theorem rv_slice {e : TypeId} (h : RV (sliceL e n L) w v xs) : ∃ A c, v = .slice A xs.length c ∧ xs.length ≤ c ∧ c ≤ maxLen ∧ RdL L n w w.heap.size A xs := by
  obtain ⟨cs, rfl, A, c, rfl, h1, h2, hr⟩ := h
  exact ⟨A, c, rfl, h1, h2, hr⟩

/-- an element of one cell -/
theorem RdL.at1 (h : RdL L 1 w B A xs) {j : Nat} {x : α} (hx : xs[j]? = some x) : ∃ b off u, A = some ⟨b, off, none⟩ ∧ b < B ∧ w.cell? ⟨b, off + j, none⟩ = some u ∧ L.rd w B [u] x := by
  obtain ⟨cf, h1, h2⟩ := h
  have hj := getElem?_lt hx
  obtain ⟨b, off, rfl, hb, hc⟩ := h2 (by omega)
  obtain ⟨hl, hrd⟩ := h1 j x hx
  match hcf : cf j, hl with
  | [u], _ =>
    rw [hcf] at hrd
    exact ⟨b, off, u, rfl, hb, by simpa using hc j 0 u hj (by rw [hcf]; rfl), hrd⟩
/-- an element of n cells -/
theorem RdL.at_ (h : RdL L n w B A xs) {j : Nat} {x : α} (hx : xs[j]? = some x) : ∃ b off cs, A = some ⟨b, off, none⟩ ∧ b < B ∧ cs.length = n ∧ (∀ i u, cs[i]? = some u → w.cell? ⟨b, off + (j * n + i), none⟩ = some u) ∧ L.rd w B cs x := by
  obtain ⟨cf, h1, h2⟩ := h
  have hj := getElem?_lt hx
  obtain ⟨b, off, rfl, hb, hc⟩ := h2 (by omega)
  obtain ⟨hl, hrd⟩ := h1 j x hx
  exact ⟨b, off, cf j, rfl, hb, hl, fun i u hu => hc j i u hj hu, hrd⟩

theorem ownL_nil : OwnL L e n w [] (.slice none 0 0) ([] : List α) :=
  ⟨fun _ => [], fun _ => [], World.ownsRow_nil w 0 e n, fun j x hx => by simp at hx, by simp [Value.ownBlock, flat]⟩

/-- one element more: the row behind an append -/
theorem OwnL.snoc {cs : List Value} {x : α} {v' : Value} {T : List Nat} (h : OwnL L e n w S v xs) (hx : L.own w' T cs x) (hc : cs.length = n)
    (hrow : ∀ ys, w.ownsRow 0 e n v xs.length ys → w'.ownsRow 0 e n v' (xs.length + 1) (ys ++ cs)) (hk : ∀ j ∈ S, v.ownBlock ≠ some j → w'.heap[j]? = w.heap[j]?) (hn : S.Nodup) :
    ∃ R, OwnL L e n w' (v'.ownBlock.toList ++ (R ++ T)) v' (xs ++ [x]) ∧ S = v.ownBlock.toList ++ R := by
  obtain ⟨cf, sf, ho, hel, rfl⟩ := h
  refine ⟨flat sf xs.length, ⟨fun j => if j = xs.length then cs else cf j, fun j => if j = xs.length then T else sf j, ?_, ?_, ?_⟩, rfl⟩
  · have e1 : flat (fun j => if j = xs.length then cs else cf j) (xs ++ [x]).length = flat cf xs.length ++ cs := by
      rw [List.length_append, List.length_singleton, flat_succ]
      rw [flat_congr (cf := cf) (fun j hj => by rw [if_neg (by omega)])]
      simp
    rw [e1, List.length_append, List.length_singleton]
    exact hrow _ ho
  · intro j y hy
    by_cases hj : j = xs.length
    · subst hj
      obtain rfl : x = y := by simpa using hy
      simpa using And.intro hc hx
    · have hjl : j < xs.length := by have := getElem?_lt hy; simp at this; omega
      rw [List.getElem?_append_left hjl] at hy
      simp only [if_neg hj]
      refine ⟨(hel j y hy).1, L.own_keep (hel j y hy).2 fun i hi => hk i (List.mem_append.2 (.inr (mem_flat.2 ⟨j, hjl, hi⟩))) ?_⟩
      intro hv
      have hd := (nodup_app hn).2.2.1 i (by simp [hv])
      exact hd (mem_flat.2 ⟨j, hjl, hi⟩)
  · rw [List.length_append, List.length_singleton, flat_succ, flat_congr (cf := sf) (cf' := fun j => if j = xs.length then T else sf j) (fun j hj => if_neg (by omega))]
    simp
end

end Go.Proofs.Ytkbhbccpmmhelaa

namespace Go.Proofs.Ytkbhbccpmmhelaa
open Go.RowKit
set_option linter.unusedVariables false

section
variable {β : Type} {cf : Nat → List β} {N n : Nat}
/-- one element another -/
def upd (cf : Nat → List β) (i : Nat) (cs : List β) : Nat → List β := fun j => if j = i then cs else cf j
theorem upd_at {i : Nat} {cs : List β} : upd cf i cs i = cs := if_pos rfl
theorem upd_ne {i j : Nat} {cs : List β} (h : j ≠ i) : upd cf i cs j = cf j := if_neg h
theorem flat_upd_ge {i : Nat} {cs : List β} (h : N ≤ i) : flat (upd cf i cs) N = flat cf N := flat_congr fun j hj => upd_ne (by omega)
theorem flat_upd (h : ∀ j, j < N → (cf j).length = n) {i : Nat} {cs : List β} (hi : i < N) (hc : cs.length = n) :
    flat (upd cf i cs) N = (flat cf N).take (i * n) ++ (cs ++ (flat cf N).drop (i * n + n)) := by
  induction N with
  | zero => omega
  | succ N ih =>
    have hl := flat_len (cf := cf) (N := N) (n := n) (fun j hj => h j (by omega))
    rw [flat_succ, flat_succ]
    by_cases hiN : i < N
    · have h1 : (i + 1) * n ≤ N * n := Nat.mul_le_mul_right n (by omega)
      rw [Nat.succ_mul] at h1
      rw [ih (fun j hj => h j (by omega)) hiN, upd_ne (by omega), List.take_append_of_le_length (by omega), List.drop_append_of_le_length (by omega)]
      simp
    · obtain rfl : i = N := by omega
      have hlast := h i (by omega)
      rw [flat_upd_ge (Nat.le_refl _), upd_at, List.take_append_of_le_length (by omega), List.take_of_length_le (by omega)]
      rw [List.drop_append, List.drop_of_length_le (l := flat cf i) (by omega), List.drop_of_length_le (l := cf i) (by omega)]
      simp
theorem mem_upd {i : Nat} {cs : List β} {x : β} (h : x ∈ flat (upd cf i cs) N) : x ∈ cs ∨ x ∈ flat cf N := by
  obtain ⟨j, hj, hx⟩ := mem_flat.1 h
  by_cases e : j = i
  · subst e; rw [upd_at] at hx; exact .inl hx
  · rw [upd_ne e] at hx; exact .inr (mem_flat.2 ⟨j, hj, hx⟩)
end

theorem flat_nodup_upd {sf : Nat → List Nat} {N i : Nat} {T : List Nat} (h : (flat sf N).Nodup) (hT : T.Nodup) (hd : ∀ j ∈ T, j ∉ flat sf N) : (flat (upd sf i T) N).Nodup := by
  induction N with
  | zero => simp [flat]
  | succ N ih =>
    rw [flat_succ] at h hd ⊢
    obtain ⟨h1, h2, h3, h4⟩ := nodup_app h
    have ih' := ih h1 (fun j hj hm => hd j hj (List.mem_append.2 (.inl hm)))
    rw [List.nodup_append]
    by_cases e : N = i
    · subst e
      rw [upd_at, flat_upd_ge (Nat.le_refl _)]
      exact ⟨h1, hT, fun a ha b hb hab => hd b hb (List.mem_append.2 (.inl (hab ▸ ha)))⟩
    · rw [upd_ne e]
      refine ⟨ih', h2, fun a ha b hb hab => ?_⟩
      subst hab
      rcases mem_upd ha with hx | hx
      · exact hd a hx (List.mem_append.2 (.inr hb))
      · exact h3 a hx hb
/-- the blocks of two elements are apart -/
theorem flat_apart {sf : Nat → List Nat} {N : Nat} (h : (flat sf N).Nodup) : ∀ {i j : Nat}, i < N → j < N → i ≠ j → ∀ x ∈ sf i, x ∉ sf j := by
  induction N with
  | zero => intro i j hi; omega
  | succ N ih =>
    rw [flat_succ] at h
    obtain ⟨h1, h2, h3, h4⟩ := nodup_app h
    intro i j hi hj hne x hx hy
    by_cases ei : i = N
    · subst ei
      exact h4 x hx (mem_flat.2 ⟨j, by omega, hy⟩)
    · by_cases ej : j = N
      · subst ej
        exact h3 x (mem_flat.2 ⟨i, by omega, hx⟩) hy
      · exact ih h1 (by omega) (by omega) hne x hx hy

section
variable {α : Type} {L : Lay α} {n : Nat} {e : TypeId} {w w' : World} {B : Nat} {A : Option Addr} {xs : List α} {S T : List Nat} {v : Value}

/-- one element: its cells, its blocks; and what lies behind when it alone is marked -/
theorem OwnL.el (h : OwnL L e n w S v xs) (hn : S.Nodup) {j : Nat} {x : α} (hx : xs[j]? = some x) :
    ∃ cs T, cs.length = n ∧ (∀ g c N, v = .slice (some ⟨g, 0, none⟩) N c → ∀ i u, cs[i]? = some u → w.cell? ⟨g, j * n + i, none⟩ = some u) ∧ L.own w T cs x ∧ (∀ k ∈ T, k ∈ S) ∧ (v.ownBlock.isSome = true ∨ n = 0 ∨ xs = []) ∧
      ∀ w' x', L.own w' T cs x' → ChgS T w w' → OwnL L e n w' S v (xs.set j x') := by
  obtain ⟨cf, sf, ho, hel, rfl⟩ := h
  obtain ⟨hn1, hn2, hn3, hn4⟩ := nodup_app hn
  have hj := getElem?_lt hx
  have hlen := OwnL.lens hel
  obtain ⟨hc, hox⟩ := hel j x hx
  refine ⟨cf j, sf j, hc, ?_, hox, fun k hk => List.mem_append.2 (.inr (mem_flat.2 ⟨j, hj, hk⟩)), ?_, ?_⟩
  · rintro g c N rfl i u hu
    have hi : i < n := by have := getElem?_lt hu; omega
    have hlt2 : j * n + i < xs.length * n := by
      have h1 : (j + 1) * n ≤ xs.length * n := Nat.mul_le_mul_right n (by omega)
      rw [Nat.succ_mul] at h1; omega
    have hN : N = xs.length := by
      rcases ho.2 with ⟨h', _⟩ | ⟨g', cap, cur, hv, _⟩
      · simp at h'
      · simp only [Value.slice.injEq] at hv; exact hv.2.1
    subst hN
    rw [World.ownsRow.cellAt ho _ hlt2, flat_get hlen hj hi]
    exact hu
  · rcases ho.2 with ⟨h', h0⟩ | ⟨g', cap, cur, hv, _⟩
    · exact .inr (.inr (List.eq_nil_of_length_eq_zero h0))
    · left; rw [hv]; rfl
  · intro w' x' hx' hc'
    refine ⟨cf, sf, ?_, ?_, by rw [List.length_set]⟩
    · rw [List.length_set]
      refine ownsRow_keep ho fun k hk => ?_
      exact hc'.block k (World.ownsRow.lt ho k hk).2 (fun hm => hn3 k (by simp [hk]) (mem_flat.2 ⟨j, hj, hm⟩))
    · intro i y hy
      by_cases e1 : i = j
      · subst e1
        rw [List.getElem?_set_self hj] at hy
        obtain rfl : x' = y := by simpa using hy
        exact ⟨hc, hx'⟩
      · rw [List.getElem?_set_ne (Ne.symm e1)] at hy
        obtain ⟨h1, h2⟩ := hel i y hy
        exact ⟨h1, L.own_chg h2 hc' (flat_apart hn2 (getElem?_lt hy) hj e1)⟩

/-- one element laid anew -/
theorem OV.put {lo m hi j : Nat} {x : α} {cs : List Value} (h : OV (sliceL e n L) w lo m v xs) (hj : j < xs.length) (hc : cs.length = n)
    (hT : L.own w' T cs x) (hTn : T.Nodup) (hTr : ∀ k ∈ T, m ≤ k ∧ k < hi) (hlm : lo ≤ m) (hmh : m ≤ hi) (hhi : hi ≤ w'.heap.size)
    (hrow : ∀ ys, ys.length = xs.length * n → w.ownsRow 0 e n v xs.length ys → w'.ownsRow 0 e n v xs.length (ys.take (j * n) ++ (cs ++ ys.drop (j * n + n))))
    (hk : ∀ k, k < w.heap.size → v.ownBlock ≠ some k → w'.heap[k]? = w.heap[k]?) : OV (sliceL e n L) w' lo hi v (xs.set j x) := by
  obtain ⟨cs0, S, hv, ⟨u, rfl, cf, sf, ho, hel, rfl⟩, hn, hS, hm⟩ := h
  obtain rfl : v = u := hv
  obtain ⟨hn1, hn2, hn3, hn4⟩ := nodup_app hn
  have hlen := OwnL.lens hel
  refine ⟨[v], _, rfl, ⟨v, rfl, upd cf j cs, upd sf j T, ?_, ?_, rfl⟩, ?_, ?_, hhi⟩
  · rw [List.length_set, flat_upd hlen hj hc]
    exact hrow _ (flat_len hlen) ho
  · intro i y hy
    by_cases e1 : i = j
    · subst e1
      rw [List.getElem?_set_self hj] at hy
      obtain rfl : x = y := by simpa using hy
      rw [upd_at, upd_at]
      exact ⟨hc, hT⟩
    · rw [List.getElem?_set_ne (Ne.symm e1)] at hy
      obtain ⟨h1, h2⟩ := hel i y hy
      rw [upd_ne e1, upd_ne e1]
      refine ⟨h1, L.own_keep h2 fun k hk' => hk k (L.own_lt h2 k hk') fun hv => ?_⟩
      exact hn3 k (by simp [hv]) (mem_flat.2 ⟨i, getElem?_lt hy, hk'⟩)
  · rw [List.length_set, List.nodup_append]
    have hTd : ∀ k ∈ T, k ∉ flat sf xs.length := fun k hk1 hk2 => by
      have h1 := hTr k hk1
      have h2 := hS k (List.mem_append.2 (.inr hk2))
      omega
    refine ⟨hn1, flat_nodup_upd hn2 hTn hTd, fun a ha b hb hab => ?_⟩
    subst hab
    rcases mem_upd hb with hx | hx
    · have h1 := hTr a hx
      have h2 := hS a (List.mem_append.2 (.inl ha))
      omega
    · exact hn3 a ha hx
  · intro k hk1
    rw [List.length_set] at hk1
    rcases List.mem_append.1 hk1 with hx | hx
    · have := hS k (List.mem_append.2 (.inl hx)); omega
    · rcases mem_upd hx with hx | hx
      · have := hTr k hx; omega
      · have := hS k (List.mem_append.2 (.inr hx)); omega

/-- a new slice of zeros -/
theorem ownL_made {N : Nat} {z : α} {zc : List Value} (hz : L.own w [] zc z) (hc : zc.length = n) (h : w.ownsRow 0 e n v N (flat (fun _ => zc) N)) : OwnL L e n w v.ownBlock.toList v (List.replicate N z) := by
  refine ⟨fun _ => zc, fun _ => [], by rw [List.length_replicate]; exact h, fun j x hx => ?_, ?_⟩
  · obtain rfl : z = x := by
      have hj := getElem?_lt hx
      rw [List.length_replicate] at hj
      simpa [hj] using hx
    exact ⟨hc, hz⟩
  · have : flat (fun _ : Nat => ([] : List Nat)) (List.replicate N z).length = [] := by
      rw [List.eq_nil_iff_forall_not_mem]
      intro x hx
      obtain ⟨j, _, hx⟩ := mem_flat.1 hx
      cases hx
    rw [this, List.append_nil]
theorem flat_const1 {β : Type} (u : β) (N : Nat) : flat (fun _ => [u]) N = List.replicate N u := by
  induction N with
  | zero => rfl
  | succ N ih => rw [flat_succ, ih, List.replicate_succ']

/-- an append of one element: what is asked of the walk, and what lies behind -/
theorem OV.app_step {lo m hi : Nat} {u : Value} {x : α} (h : OV (sliceL e 1 L) w lo m v xs) (hT : L.own w T [u] x) (hTn : T.Nodup) (hTr : ∀ k ∈ T, m ≤ k ∧ k < hi) (hlm : lo ≤ m) (hmh : m ≤ hi) (hhi : hi ≤ w.heap.size) :
    ∃ ys, w.ownsRow 0 e 1 v xs.length ys ∧ (∃ A c, v = .slice A xs.length c) ∧ ∀ v' w', w'.ownsRow 0 e 1 v' (xs.length + 1) (ys ++ [u]) → w.grownBy w' v.ownBlock → (v'.ownBlock = v.ownBlock ∨ v'.ownBlock = some w.heap.size) →
      OV (sliceL e 1 L) w' lo w'.heap.size v' (xs ++ [x]) ∧ Below lo w w' := by
  obtain ⟨cs0, S, hv, ⟨u0, rfl, hO⟩, hn, hS, hm⟩ := h
  obtain rfl : v = u0 := hv
  obtain ⟨A0, c0, hv0, -⟩ := hO.form
  have hO' := hO
  obtain ⟨cf, sf, ho, hel, hSe⟩ := hO'
  refine ⟨_, ho, ⟨A0, c0, hv0⟩, fun v' w' hrow hg hat => ?_⟩
  have hsz := hg.size
  have hlt := World.ownsRow.lt hrow
  have hvS : ∀ k, v.ownBlock = some k → lo ≤ k ∧ k < m := fun k hk => hS k (by rw [hSe]; exact List.mem_append.2 (.inl (by simp [hk])))
  have hB : Below lo w w' := ⟨hg.os, hg.tape, hg.output, hg.size, fun k hk => hg.block k (by omega) (fun e => by have := hvS k e.symm; omega)⟩
  have hT' : L.own w' T [u] x := L.own_keep hT fun k hk => hg.block k (L.own_lt hT k hk) (fun e => by have := hvS k e.symm; have := hTr k hk; omega)
  obtain ⟨hn1, hn2, hn3, hn4⟩ := nodup_app (by rw [hSe] at hn; exact hn)
  have hrow' : w'.ownsRow 0 e 1 v' (xs ++ [x]).length (flat (upd cf xs.length [u]) (xs ++ [x]).length) := by
    rw [List.length_append, List.length_singleton, flat_succ, flat_upd_ge (Nat.le_refl _), upd_at]
    exact hrow
  have hnb : ∀ k, v'.ownBlock = some k → k ∉ flat sf xs.length ∧ k ∉ T ∧ lo ≤ k ∧ k < w'.heap.size := by
    intro k hk
    have hlt' := (hlt k hk).2
    rcases hat with h1 | h1
    · rw [h1] at hk
      have h2 := hvS k hk
      exact ⟨hn3 k (by simp [hk]), fun hm' => by have := hTr k hm'; omega, h2.1, hlt'⟩
    · rw [h1] at hk
      obtain rfl : w.heap.size = k := by simpa using hk
      refine ⟨fun hm' => ?_, fun hm' => ?_, by omega, hlt'⟩
      · have := hS w.heap.size (by rw [hSe]; exact List.mem_append.2 (.inr hm')); omega
      · have := hTr w.heap.size hm'; omega
  refine ⟨⟨[v'], _, rfl, ⟨v', rfl, upd cf xs.length [u], upd sf xs.length T, hrow', ?_, rfl⟩, ?_, ?_, Nat.le_refl _⟩, hB⟩
  · intro i y hy
    by_cases e1 : i = xs.length
    · subst e1
      obtain rfl : x = y := by simpa using hy
      rw [upd_at, upd_at]
      exact ⟨rfl, hT'⟩
    · have hjl : i < xs.length := by have := getElem?_lt hy; simp at this; omega
      rw [List.getElem?_append_left hjl] at hy
      obtain ⟨h1, h2⟩ := hel i y hy
      rw [upd_ne e1, upd_ne e1]
      refine ⟨h1, L.own_keep h2 fun k hk => hg.block k (L.own_lt h2 k hk) fun hv => ?_⟩
      exact hn3 k (by simp [← hv]) (mem_flat.2 ⟨i, hjl, hk⟩)
  · rw [List.length_append, List.length_singleton, flat_succ, flat_upd_ge (Nat.le_refl _), upd_at, List.nodup_append, List.nodup_append]
    refine ⟨by cases v'.ownBlock <;> simp, ⟨hn2, hTn, fun a ha b hb hab => ?_⟩, fun a ha b hb hab => ?_⟩
    · subst hab
      have h1 := hTr a hb
      have h2 := hS a (by rw [hSe]; exact List.mem_append.2 (.inr ha))
      omega
    · subst hab
      have hk : v'.ownBlock = some a := by simpa using ha
      obtain ⟨h1, h2, _⟩ := hnb a hk
      rcases List.mem_append.1 hb with hx | hx
      · exact h1 hx
      · exact h2 hx
  · intro k hk
    rw [List.length_append, List.length_singleton, flat_succ, flat_upd_ge (Nat.le_refl _), upd_at] at hk
    rcases List.mem_append.1 hk with hx | hx
    · exact (hnb k (by simpa using hx)).2.2
    · rcases List.mem_append.1 hx with hx | hx
      · have := hS k (by rw [hSe]; exact List.mem_append.2 (.inr hx)); omega
      · have := hTr k hx; omega
end

theorem OVp.lt {α : Type} {L : Lay α} {w : World} {p : Nat → Prop} {cs : List Value} {x : α} (h : OVp L w p cs x) : OVp L w (fun j => p j ∧ j < w.heap.size) cs x := by
  obtain ⟨S, ho, hn, hS⟩ := h
  exact ⟨S, ho, hn, fun j hj => ⟨hS j hj, L.own_lt ho j hj⟩⟩
theorem OVp.below {α : Type} {L : Lay α} {w w' : World} {p : Nat → Prop} {cs : List Value} {x : α} (h : OVp L w p cs x) (hb : Below w.heap.size w w') : OVp L w' p cs x := by
  obtain ⟨S, ho, hn, hS⟩ := h
  exact ⟨S, L.own_below ho hb, hn, hS⟩
theorem OVp.keep {α : Type} {L : Lay α} {w w' : World} {p : Nat → Prop} {cs : List Value} {x : α} (h : OVp L w p cs x) (hk : ∀ j, p j → j < w.heap.size → w'.heap[j]? = w.heap[j]?) : OVp L w' p cs x := by
  obtain ⟨S, ho, hn, hS⟩ := h
  exact ⟨S, L.own_keep ho fun j hj => hk j (hS j hj) (L.own_lt ho j hj), hn, hS⟩

/-- an append of one element, the blocks by a predicate -/
theorem OVp.app_step {α : Type} {L : Lay α} {e : TypeId} {w : World} {xs : List α} {T : List Nat} {v : Value} {p q : Nat → Prop} {m : Nat} {u : Value} {x : α} (h : OVp (sliceL e 1 L) w p [v] xs) (hT : L.own w T [u] x) (hTn : T.Nodup) (hTr : ∀ k ∈ T, m ≤ k) (hpm : ∀ k, p k → k < m) (hmw : m ≤ w.heap.size) (hq1 : ∀ k, p k → q k) (hq2 : ∀ k, m ≤ k → q k) :
    ∃ ys, w.ownsRow 0 e 1 v xs.length ys ∧ (∃ A c, v = .slice A xs.length c) ∧ (∀ k, v.ownBlock = some k → p k) ∧ ∀ v' w', w'.ownsRow 0 e 1 v' (xs.length + 1) (ys ++ [u]) → w.grownBy w' v.ownBlock → (v'.ownBlock = v.ownBlock ∨ v'.ownBlock = some w.heap.size) →
      OVp (sliceL e 1 L) w' q [v'] (xs ++ [x]) := by
  obtain ⟨S, ⟨u0, hv, hO⟩, hn, hS⟩ := h
  obtain rfl : v = u0 := by simpa using hv
  obtain ⟨A0, c0, hv0, -⟩ := hO.form
  have hO' := hO
  obtain ⟨cf, sf, ho, hel, hSe⟩ := hO'
  have hvS : ∀ k, v.ownBlock = some k → p k := fun k hk => hS k (by rw [hSe]; exact List.mem_append.2 (.inl (by simp [hk])))
  refine ⟨_, ho, ⟨A0, c0, hv0⟩, hvS, fun v' w' hrow hg hat => ?_⟩
  have hT' : L.own w' T [u] x := L.own_keep hT fun k hk => hg.block k (L.own_lt hT k hk) (fun e => by have := hpm k (hvS k e.symm); have := hTr k hk; omega)
  obtain ⟨hn1, hn2, hn3, hn4⟩ := nodup_app (by rw [hSe] at hn; exact hn)
  have hrow' : w'.ownsRow 0 e 1 v' (xs ++ [x]).length (flat (upd cf xs.length [u]) (xs ++ [x]).length) := by
    rw [List.length_append, List.length_singleton, flat_succ, flat_upd_ge (Nat.le_refl _), upd_at]
    exact hrow
  have hnb : ∀ k, v'.ownBlock = some k → k ∉ flat sf xs.length ∧ k ∉ T ∧ q k := by
    intro k hk
    rcases hat with h1 | h1
    · rw [h1] at hk
      have h2 := hpm k (hvS k hk)
      exact ⟨hn3 k (by simp [hk]), fun hm' => by have := hTr k hm'; omega, hq1 k (hvS k hk)⟩
    · rw [h1] at hk
      obtain rfl : w.heap.size = k := by simpa using hk
      refine ⟨fun hm' => ?_, fun hm' => ?_, hq2 _ hmw⟩
      · have := hpm _ (hS w.heap.size (by rw [hSe]; exact List.mem_append.2 (.inr hm'))); omega
      · have := L.own_lt hT w.heap.size hm'; omega
  refine ⟨_, ⟨v', rfl, upd cf xs.length [u], upd sf xs.length T, hrow', ?_, rfl⟩, ?_, ?_⟩
  · intro i y hy
    by_cases e1 : i = xs.length
    · subst e1
      obtain rfl : x = y := by simpa using hy
      rw [upd_at, upd_at]
      exact ⟨rfl, hT'⟩
    · have hjl : i < xs.length := by have := getElem?_lt hy; simp at this; omega
      rw [List.getElem?_append_left hjl] at hy
      obtain ⟨h1, h2⟩ := hel i y hy
      rw [upd_ne e1, upd_ne e1]
      refine ⟨h1, L.own_keep h2 fun k hk => hg.block k (L.own_lt h2 k hk) fun hv => ?_⟩
      exact hn3 k (by simp [← hv]) (mem_flat.2 ⟨i, hjl, hk⟩)
  · rw [List.length_append, List.length_singleton, flat_succ, flat_upd_ge (Nat.le_refl _), upd_at, List.nodup_append, List.nodup_append]
    refine ⟨by cases v'.ownBlock <;> simp, ⟨hn2, hTn, fun a ha b hb hab => ?_⟩, fun a ha b hb hab => ?_⟩
    · subst hab
      have h1 := hTr a hb
      have h2 := hpm a (hS a (by rw [hSe]; exact List.mem_append.2 (.inr ha)))
      omega
    · subst hab
      have hk : v'.ownBlock = some a := by simpa using ha
      obtain ⟨h1, h2, _⟩ := hnb a hk
      rcases List.mem_append.1 hb with hx | hx
      · exact h1 hx
      · exact h2 hx
  · intro k hk
    rw [List.length_append, List.length_singleton, flat_succ, flat_upd_ge (Nat.le_refl _), upd_at] at hk
    rcases List.mem_append.1 hk with hx | hx
    · exact (hnb k (by simpa using hx)).2.2
    · rcases List.mem_append.1 hx with hx | hx
      · exact hq1 k (hS k (by rw [hSe]; exact List.mem_append.2 (.inr hx)))
      · exact hq2 k (hTr k hx)

section
variable {α : Type} {L : Lay α} {n : Nat} {e : TypeId} {w w' : World} {xs : List α} {S T : List Nat} {v : Value} {g N c : Nat}

theorem OV.row {lo hi : Nat} (h : OV (sliceL e n L) w lo hi v xs) : ∃ ys, ys.length = xs.length * n ∧ w.ownsRow 0 e n v xs.length ys ∧ ∀ k, v.ownBlock = some k → lo ≤ k ∧ k < hi := by
  obtain ⟨cs0, S, hv, ⟨u, rfl, cf, sf, ho, hel, rfl⟩, hn, hS, hm⟩ := h
  obtain rfl : v = u := hv
  exact ⟨_, flat_len (OwnL.lens hel), ho, fun k hk => hS k (List.mem_append.2 (.inl (by simp [hk])))⟩
theorem OV.len_ {lo hi : Nat} (h : OV (sliceL e n L) w lo hi (.slice (some ⟨g, 0, none⟩) N c) xs) : N = xs.length := by
  obtain ⟨ys, _, ho, _⟩ := h.row
  rcases ho.2 with ⟨h', _⟩ | ⟨g', cap, cur, hv, _⟩
  · simp at h'
  · simp only [Value.slice.injEq] at hv; exact hv.2.1
/-- the cells of the row are there, and may be written -/
theorem OV.cell_ {lo hi j : Nat} (h : OV (sliceL e n L) w lo hi (.slice (some ⟨g, 0, none⟩) N c) xs) (hj : j < xs.length * n) : ∃ u, w.cell? ⟨g, j, none⟩ = some u ∧ w.frozen? ⟨g, j, none⟩ = false := by
  have hN := h.len_
  subst hN
  obtain ⟨ys, hl, ho, _⟩ := h.row
  refine ⟨ys[j]'(by omega), ?_, World.ownsRow.frozenAt ho j⟩
  rw [World.ownsRow.cellAt ho j hj, List.getElem?_eq_getElem (by omega)]
/-- one element of one cell laid anew -/
theorem OV.put1 {lo m hi j : Nat} {u : Value} {x : α} (h : OV (sliceL e 1 L) w lo m (.slice (some ⟨g, 0, none⟩) N c) xs) (hj : j < xs.length) (hT : L.own w T [u] x) (hTn : T.Nodup) (hTr : ∀ k ∈ T, m ≤ k ∧ k < hi) (hlm : lo ≤ m) (hmh : m ≤ hi) (hhi : hi ≤ w.heap.size) :
    OV (sliceL e 1 L) (w.setCell ⟨g, j, none⟩ u) lo hi (.slice (some ⟨g, 0, none⟩) N c) (xs.set j x) := by
  have hN := h.len_
  subst hN
  obtain ⟨ys0, _, ho0, hgr⟩ := h.row
  have hg := (World.ownsRow.stored ho0 j u).2
  have hgm := hgr g rfl
  refine h.put hj rfl (L.own_keep hT fun k hk => hg.block k (L.own_lt hT k hk) (fun e => ?_)) hTn hTr hlm hmh (by simpa using hhi) ?_ (fun k hk hne => hg.block k hk (fun e => hne e.symm))
  · obtain rfl : k = g := by simpa using e
    have := hTr k hk; omega
  · intro ys hl hrow
    rw [Nat.mul_one] at hl
    have := (World.ownsRow.stored hrow j u).1
    rw [List.set_eq_take_append_cons_drop, if_pos (by omega)] at this
    simpa using this
end

/-- a block of one cell that the walk has just laid -/
theorem rdV_one (w : World) (t : TypeId) (u : Value) : RdV (w.alloc (.cells #[u] t)) (w.heap.size + 1) (some ⟨w.heap.size, 0, none⟩) [u] := fun _ =>
  ⟨w.heap.size, 0, rfl, by omega, fun j x hx => by
    have hj : j = 0 := by have := getElem?_lt hx; simp at this; omega
    subst hj
    have := heap_alloc_new w (.cells #[u] t)
    rw [cell_of_row _ w.heap.size (0 + 0) #[u] t (0, 0) this]
    simpa using hx⟩

end Go.Proofs.Ytkbhbccpmmhelaa

namespace Go.Proofs.Ytkbhbccpmmhelaa
open Go.RowKit
set_option linter.unusedVariables false

/-- cells laid one behind the other, as a list -/
def setsL (ys : List Value) : Nat → List Value → List Value
  | _, [] => ys
  | o, c :: cs => setsL (ys.set o c) (o + 1) cs
theorem setsL_eq : ∀ (cs ys : List Value) (o : Nat), o + cs.length ≤ ys.length → setsL ys o cs = ys.take o ++ (cs ++ ys.drop (o + cs.length))
  | [], ys, o, _ => by simp [setsL]
  | c :: cs, ys, o, h => by
    rw [List.length_cons] at h
    rw [setsL, setsL_eq cs (ys.set o c) (o + 1) (by rw [List.length_set]; omega), List.take_add_one, List.take_set_of_le (Nat.le_refl _), List.getElem?_set_self (by omega), List.drop_set_of_lt (by omega), List.length_cons]
    rw [show o + 1 + cs.length = o + (cs.length + 1) by omega]
    simp

theorem ownsRow_setAll {base size g m c : Nat} {e : TypeId} : ∀ (cs ys : List Value) (o : Nat) (w : World), w.ownsRow base e size (.slice (some ⟨g, 0, none⟩) m c) m ys →
    (setAll w g o cs).ownsRow base e size (.slice (some ⟨g, 0, none⟩) m c) m (setsL ys o cs) ∧ w.grownBy (setAll w g o cs) (some g)
  | [], ys, o, w, h => ⟨h, ⟨rfl, rfl, rfl, Nat.le_refl _, fun _ _ _ => rfl⟩⟩
  | u :: cs, ys, o, w, h => by
    obtain ⟨h1, g1⟩ := World.ownsRow.stored h o u
    obtain ⟨h2, g2⟩ := ownsRow_setAll cs _ (o + 1) _ h1
    exact ⟨h2, ⟨g2.os.trans g1.os, g2.tape.trans g1.tape, g2.output.trans g1.output, Nat.le_trans g1.size g2.size, fun k hk hne => (g2.block k (Nat.lt_of_lt_of_le hk g1.size) hne).trans (g1.block k hk hne)⟩⟩

theorem flat_made (zc : List Value) (N : Nat) (h0 : 0 < zc.length) : flat (fun _ => zc) N = (madeCells zc.toArray (N * zc.length)).toList := by
  have hl : (flat (fun _ => zc) N).length = N * zc.length := flat_len (fun _ _ => rfl)
  apply List.ext_getElem?
  intro q
  by_cases hq : q < N * zc.length
  · have h1 : q = q / zc.length * zc.length + q % zc.length := by rw [Nat.mul_comm]; exact (Nat.div_add_mod q zc.length).symm
    have h2 : q % zc.length < zc.length := Nat.mod_lt _ h0
    have h3 : q / zc.length < N := (Nat.div_lt_iff_lt_mul h0).2 hq
    have h4 := flat_get (cf := fun _ => zc) (N := N) (n := zc.length) (fun _ _ => rfl) h3 h2
    rw [← h1] at h4
    rw [h4]
    simp [madeCells, hq, h2]
  · rw [List.getElem?_eq_none (by omega), List.getElem?_eq_none (by simp [madeCells]; omega)]

/-- one cell of a row: it is there, may be written, and what lies behind when it is written -/
theorem row_step {base size g m c : Nat} {e : TypeId} {w : World} {ys : List Value} (h : w.ownsRow base e size (.slice (some ⟨g, 0, none⟩) m c) m ys) {o : Nat} (ho : o < m * size) (u : Value) :
    (∃ u0, w.cell? ⟨g, o, none⟩ = some u0) ∧ w.frozen? ⟨g, o, none⟩ = false ∧ ∃ w', w.setCell ⟨g, o, none⟩ u = w' ∧ w'.ownsRow base e size (.slice (some ⟨g, 0, none⟩) m c) m (ys.set o u) := by
  refine ⟨⟨ys[o]'(by rw [h.1]; exact ho), ?_⟩, World.ownsRow.frozenAt h o, _, rfl, (World.ownsRow.stored h o u).1⟩
  rw [World.ownsRow.cellAt h o ho, List.getElem?_eq_getElem]

section
variable {α : Type} {L : Lay α} {n : Nat} {e : TypeId} {w : World} {xs : List α} {S : List Nat} {g c N : Nat}

theorem OwnL.rowOf (h : OwnL L e n w S (.slice (some ⟨g, 0, none⟩) N c) xs) : ∃ ys, w.ownsRow 0 e n (.slice (some ⟨g, 0, none⟩) N c) N ys := by
  obtain ⟨cf, sf, ho, hel, rfl⟩ := h
  have hN : N = xs.length := by
    rcases ho.2 with ⟨h', _⟩ | ⟨g', cap, cur, hv, _⟩
    · simp at h'
    · simp only [Value.slice.injEq] at hv; exact hv.2.1
  subst hN
  exact ⟨_, ho⟩

/-- the cells of one element, and that they may be written -/
theorem OwnL.cellsAt (h : OwnL L e n w S (.slice (some ⟨g, 0, none⟩) N c) xs) {j i : Nat} (hj : j < xs.length) (hi : i < n) : (∃ u, w.cell? ⟨g, j * n + i, none⟩ = some u) ∧ w.frozen? ⟨g, j * n + i, none⟩ = false := by
  obtain ⟨cf, sf, ho, hel, rfl⟩ := h
  have hN : N = xs.length := by
    rcases ho.2 with ⟨h', _⟩ | ⟨g', cap, cur, hv, _⟩
    · simp at h'
    · simp only [Value.slice.injEq] at hv; exact hv.2.1
  subst hN
  have hlt2 : j * n + i < xs.length * n := by
    have h1 : (j + 1) * n ≤ xs.length * n := Nat.mul_le_mul_right n (by omega)
    rw [Nat.succ_mul] at h1; omega
  refine ⟨⟨(flat cf xs.length)[j * n + i]'(by rw [flat_len (OwnL.lens hel)]; exact hlt2), ?_⟩, World.ownsRow.frozenAt ho _⟩
  rw [World.ownsRow.cellAt ho _ hlt2, List.getElem?_eq_getElem]

/-- one element of scalars laid anew -/
theorem OwnL.lay (hz : ∀ w T cs x, L.own w T cs x → T = []) (h : OwnL L e n w S (.slice (some ⟨g, 0, none⟩) N c) xs) {j : Nat} {cs : List Value} {x : α} (hj : j < xs.length) (hc : cs.length = n) (hx : L.own (setAll w g (j * n) cs) [] cs x) :
    OwnL L e n (setAll w g (j * n) cs) S (.slice (some ⟨g, 0, none⟩) N c) (xs.set j x) ∧ ChgS S w (setAll w g (j * n) cs) := by
  obtain ⟨cf, sf, ho, hel, rfl⟩ := h
  have hN : N = xs.length := by
    rcases ho.2 with ⟨h', _⟩ | ⟨g', cap, cur, hv, _⟩
    · simp at h'
    · simp only [Value.slice.injEq] at hv; exact hv.2.1
  subst hN
  have hlen := OwnL.lens hel
  have hfl := flat_len (cf := cf) (N := xs.length) hlen
  have hlt2 : j * n + n ≤ xs.length * n := by
    have h1 : (j + 1) * n ≤ xs.length * n := Nat.mul_le_mul_right n (by omega)
    rw [Nat.succ_mul] at h1; omega
  obtain ⟨hrow, hg⟩ := ownsRow_setAll cs _ (j * n) w ho
  refine ⟨⟨upd cf j cs, sf, ?_, ?_, by rw [List.length_set]⟩, ⟨hg.os, hg.tape, hg.output, hg.size, fun k hk hne => hg.block k hk (fun e => hne ?_)⟩⟩
  · rw [List.length_set, flat_upd hlen hj hc]
    rw [setsL_eq cs _ _ (by rw [hfl, hc]; exact hlt2), hc] at hrow
    exact hrow
  · intro i y hy
    by_cases e1 : i = j
    · subst e1
      rw [List.getElem?_set_self hj] at hy
      obtain rfl : x = y := by simpa using hy
      have := hel i xs[i] (List.getElem?_eq_getElem hj)
      rw [upd_at, hz _ _ _ _ this.2]
      exact ⟨hc, hx⟩
    · rw [List.getElem?_set_ne (Ne.symm e1)] at hy
      obtain ⟨h1, h2⟩ := hel i y hy
      rw [upd_ne e1]
      have hs := hz _ _ _ _ h2
      rw [hs] at h2 ⊢
      exact ⟨h1, L.own_keep h2 fun k hk => by cases hk⟩
  · exact List.mem_append.2 (.inl (by simp [Value.ownBlock, Option.some.inj e]))

/-- one element of scalars laid anew, in a slice of its own -/
theorem OV.lay {lo hi : Nat} (hz : ∀ w T cs x, L.own w T cs x → T = []) (h : OV (sliceL e n L) w lo hi (.slice (some ⟨g, 0, none⟩) N c) xs) {j : Nat} {cs : List Value} {x : α} (hj : j < xs.length) (hc : cs.length = n) (hx : L.own (setAll w g (j * n) cs) [] cs x) :
    OV (sliceL e n L) (setAll w g (j * n) cs) lo hi (.slice (some ⟨g, 0, none⟩) N c) (xs.set j x) ∧ Chg lo hi w (setAll w g (j * n) cs) := by
  obtain ⟨cs0, S, hv, ⟨u, rfl, ho⟩, hn, hS, hh⟩ := h
  obtain rfl : Value.slice (some ⟨g, 0, none⟩) N c = u := hv
  obtain ⟨h1, h2⟩ := ho.lay hz hj hc hx
  exact ⟨⟨_, S, rfl, ⟨_, rfl, h1⟩, hn, hS, Nat.le_trans hh h2.size⟩, h2.chg hS⟩
theorem OV.rowOf {lo hi : Nat} (h : OV (sliceL e n L) w lo hi (.slice (some ⟨g, 0, none⟩) N c) xs) : ∃ ys, w.ownsRow 0 e n (.slice (some ⟨g, 0, none⟩) N c) N ys := by
  obtain ⟨cs0, S, hv, ⟨u, rfl, ho⟩, hn, hS, hh⟩ := h
  obtain rfl : Value.slice (some ⟨g, 0, none⟩) N c = u := hv
  exact ho.rowOf

theorem OVp.sl {lo hi : Nat} {v : Value} (h : OV (sliceL e n L) w lo hi v xs) : OVp (sliceL e n L) w (fun j => lo ≤ j ∧ j < hi) [v] xs := by
  obtain ⟨cs0, S, hv, ⟨u, rfl, ho⟩, hn, hS, hh⟩ := h
  obtain rfl : v = u := hv
  exact ⟨S, ⟨_, rfl, ho⟩, hn, hS⟩

/-- an append of one element of scalars: what is asked of the walk, and what lies behind -/
theorem OV.app_n {lo m : Nat} {v : Value} {cs : List Value} {x : α} (hz : ∀ w T cs x, L.own w T cs x → T = []) (h : OV (sliceL e n L) w lo m v xs) (hc : cs.length = n) (hx : ∀ w, L.own w [] cs x) (hlm : lo ≤ w.heap.size) :
    ∃ ys, w.ownsRow 0 e n v xs.length ys ∧ (∃ A c, v = .slice A xs.length c) ∧ ∀ v' w', w'.ownsRow 0 e n v' (xs.length + 1) (ys ++ cs) → w.grownBy w' v.ownBlock → (v'.ownBlock = v.ownBlock ∨ v'.ownBlock = some w.heap.size) →
      OV (sliceL e n L) w' lo w'.heap.size v' (xs ++ [x]) ∧ Below lo w w' := by
  obtain ⟨cs0, S, hv, ⟨u0, rfl, hO⟩, hn, hS, hm⟩ := h
  obtain rfl : v = u0 := hv
  obtain ⟨A0, c0, hv0, -⟩ := hO.form
  obtain ⟨cf, sf, ho, hel, rfl⟩ := hO
  have hsf : flat sf xs.length = [] := List.eq_nil_iff_forall_not_mem.2 fun j hj => by
    obtain ⟨i, hi, hm⟩ := mem_flat.1 hj
    have := hz _ _ _ _ (hel i xs[i] (List.getElem?_eq_getElem hi)).2
    rw [this] at hm; cases hm
  refine ⟨_, ho, ⟨A0, c0, hv0⟩, fun v' w' hrow hg hat => ?_⟩
  have hlt := World.ownsRow.lt hrow
  have hvS : ∀ k, v.ownBlock = some k → lo ≤ k ∧ k < m := fun k hk => hS k (List.mem_append.2 (.inl (by simp [hk])))
  have hB : Below lo w w' := ⟨hg.os, hg.tape, hg.output, hg.size, fun k hk => hg.block k (by omega) (fun e => by have := hvS k e.symm; omega)⟩
  refine ⟨⟨[v'], v'.ownBlock.toList, rfl, ⟨v', rfl, upd cf xs.length cs, fun _ => [], ?_, ?_, ?_⟩, by cases v'.ownBlock <;> simp, ?_, Nat.le_refl _⟩, hB⟩
  · rw [List.length_append, List.length_singleton, flat_succ, flat_upd_ge (Nat.le_refl _), upd_at]
    exact hrow
  · intro i y hy
    by_cases e1 : i = xs.length
    · subst e1
      obtain rfl : x = y := by simpa using hy
      rw [upd_at]
      exact ⟨hc, hx w'⟩
    · have hjl : i < xs.length := by have := getElem?_lt hy; simp at this; omega
      rw [List.getElem?_append_left hjl] at hy
      obtain ⟨h1, h2⟩ := hel i y hy
      rw [upd_ne e1]
      have hs := hz _ _ _ _ h2
      rw [hs] at h2
      exact ⟨h1, L.own_keep h2 fun k hk => by cases hk⟩
  · have : flat (fun _ : Nat => ([] : List Nat)) (xs ++ [x]).length = [] := List.eq_nil_iff_forall_not_mem.2 fun j hj => by
      obtain ⟨i, _, hm⟩ := mem_flat.1 hj; cases hm
    rw [this, List.append_nil]
  · intro k hk
    have hk' : v'.ownBlock = some k := by simpa using hk
    have h2 := (hlt k hk').2
    rcases hat with h1 | h1
    · rw [h1] at hk'
      exact ⟨(hvS k hk').1, h2⟩
    · rw [h1] at hk'
      obtain rfl : w.heap.size = k := by simpa using hk'
      exact ⟨hlm, h2⟩
end

end Go.Proofs.Ytkbhbccpmmhelaa

namespace Go.Proofs.Ytkbhbccpmmhelaa
open Go.RowKit
set_option linter.unusedVariables false

theorem step_appI {P : Program} {ops : Array Oper} {o : Oper} {a : Act} {w : World} {K : Act → World → Prop} {Q : Exit → Act → World → Prop} {E : Prop} (k : IntKind) (hgd : o.guard = none) (s x : Operand) (t : TypeId)
    (ho : o.op = .call { callee := .builtin .append, args := #[s, x], argTypes := #[t, t] })
    (base : Nat) (e : TypeId) (i : TypeInfo) (bytes : Nat) (ht : P.underlying t = some (.slice e)) (hi : P.info? e = some i) (hz : i.zero = some (.int k 0))
    (hsize : i.size = 1) (hby : i.bytes = bytes) (v : Value) (xs : List Int) (hs : a.eval s = v) (hown : Own k w base e v xs)
    (B : Nat) (A : Option Addr) (c m : Nat) (ys : List Int) (hx : a.eval x = .slice A m c) (hm : ys.length = m) (hr : Rd k w B A ys)
    (hmax : xs.length + m ≤ 1099511627776) (hbyt : bytes ≤ 64) (hbase : base ≤ w.heap.size)
    (h : ∀ v' w', Own k w' base e v' (xs ++ ys) → w.grownBy w' v.ownBlock → (v'.ownBlock = v.ownBlock ∨ v'.ownBlock = some w.heap.size) → K (a.put o.dst v') w') :
    if Region.wanted o (yielded ops a.tmps) = true then Oper.wp P o a w K Q else E := by
  have hw : Region.wanted o (yielded ops a.tmps) = true := by simp [Region.wanted, hgd]
  rw [if_pos hw]
  subst hm
  obtain ⟨v', w', hrun, h2, h3, h4⟩ := run_app (P := P) w base t o.type e i (.int k 0) bytes ht hi hz hsize hby rfl v xs.length (xs.map (Value.int k)) hown B A c (ys.map (Value.int k)) hr.toV
    (fun u hu => by obtain ⟨n, _, rfl⟩ := List.mem_map.1 hu; rfl) (by simpa using hmax) hbyt hbase
  rw [List.length_map] at hrun h2
  unfold Oper.wp execOp
  simp only [ho, resolve, invoke, builtin, Sem.run_bind, Sem.run_pure, Result.andThen_ok, List.map_toArray, List.map_cons, List.map_nil, hs, hx, hrun]
  exact h v' w' (by unfold Own; rw [List.length_append, List.map_append]; simpa using h2) h3 h4

/-- where the row lies behind an append: where it lay, or in a new block -/
theorem app_own {k : IntKind} {e : TypeId} {X w' : World} {lo hi : Nat} {v v' : Value} {xs zs : List Int} (h : OS k e X lo hi v xs) (ho : Own k w' lo e v' zs) (hg : X.grownBy w' v.ownBlock) (hat : v'.ownBlock = v.ownBlock ∨ v'.ownBlock = some X.heap.size) :
    OS k e w' lo hi v' zs ∨ OS k e w' X.heap.size w'.heap.size v' zs := by
  have hs := hg.size
  rcases hat with hat | hat
  · exact .inl ⟨ho, fun j hj => h.2.1 j (hat ▸ hj), Nat.le_trans h.2.2 hs⟩
  · refine .inr ⟨⟨ho.1, ?_⟩, fun j hj => (ho.at_ j hj).2, Nat.le_refl _⟩
    rcases ho.2 with h2 | ⟨g, cap, cur, hv, hb, r⟩
    · exact .inl h2
    · refine .inr ⟨g, cap, cur, hv, ?_, r⟩
      rw [hv] at hat
      have : g = X.heap.size := by simpa [Value.ownBlock] using hat
      omega

end Go.Proofs.Ytkbhbccpmmhelaa

namespace Go.Proofs.Ytkbhbccpmmhelaa
open Go.RowKit
set_option linter.unusedVariables false

section
variable {P : Program} (w : World)

theorem run_appN_nothing (base sz : Nat) (t ty e : TypeId) (i : TypeInfo) (ht : P.underlying t = some (.slice e)) (hi : P.info? e = some i)
    (v : Value) (n : Nat) (xs : List Value) (hown : w.ownsRow base e sz v n xs) (c : Nat) : (Builtin.append_ #[t, t] ty #[v, .slice none 0 c]).run P w = .ok v w := by
  rcases hown.2 with ⟨rfl, rfl⟩ | ⟨g, cap, cur, rfl, _, _, hnc, _⟩
  · simp [Builtin.append_, run_underlying ht, sizeOf, typeInfo, hi, Builtin.lenOf, Builtin.firstCells]
  · simp [Builtin.append_, run_underlying ht, sizeOf, typeInfo, hi, Builtin.lenOf, Builtin.firstCells, hnc, storeCells]

theorem run_appN (base sz : Nat) (t ty e : TypeId) (i : TypeInfo) (z : Value) (bytes : Nat) (ht : P.underlying t = some (.slice e)) (hi : P.info? e = some i) (hz : i.zero = some z)
    (hsize : i.size = sz) (hby : i.bytes = bytes) (hzs : z.cells.size = sz) (hsz : 0 < sz) (v : Value) (n : Nat) (xs : List Value) (hown : w.ownsRow base e sz v n xs)
    (B : Nat) (A : Option Addr) (c m : Nat) (ys : List Value) (hm : ys.length = m * sz) (hr : RdV w B A ys) (h1 : ∀ u ∈ ys, u.oneCell' = true)
    (hmax : n + m ≤ 67108864) (hbyt : bytes ≤ 1024) (hbase : base ≤ w.heap.size) :
    ∃ v' w', (Builtin.append_ #[t, t] ty #[v, .slice A m c]).run P w = .ok v' w' ∧ w'.ownsRow base e sz v' (n + m) (xs ++ ys) ∧ w.grownBy w' v.ownBlock ∧
      (v'.ownBlock = v.ownBlock ∨ v'.ownBlock = some w.heap.size) := by
  rcases A with _ | a
  · have h0 : ys = [] := by
      rcases Nat.eq_zero_or_pos ys.length with h | h
      · exact List.eq_nil_of_length_eq_zero h
      · obtain ⟨b, off, h', _⟩ := hr h; cases h'
    subst h0
    have hm0 : m = 0 := by
      rcases Nat.eq_zero_or_pos m with h | h
      · exact h
      · have := Nat.mul_pos h hsz; simp at hm; omega
    subst hm0
    exact ⟨v, w, run_appN_nothing w base sz t ty e i ht hi v n xs hown c, by simpa using hown, World.grownBy.refl w _, .inl rfl⟩
  · have hcells : ∀ j u, ys[j]? = some u → w.cell? (a.add j) = some u := by
      intro j u hu
      have hp : 0 < ys.length := by
        rcases Nat.eq_zero_or_pos ys.length with h | h
        · rw [List.eq_nil_of_length_eq_zero h] at hu; simp at hu
        · exact h
      obtain ⟨b, off, h', _, hc⟩ := hr hp
      simp only [Option.some.injEq] at h'
      subst h'
      rw [add_mk]; exact hc j u hu
    have hb2 : (n + m) * bytes ≤ 67108864 * 1024 := Nat.mul_le_mul hmax hbyt
    obtain ⟨v', w', hrun, h2, h3, _, h5⟩ := run_append_own_at (P := P) w base t ty e i z sz bytes ht hi hz hsize hby hzs hsz v n xs hown a m c ys hm hcells h1 (by unfold maxLen; omega) (by omega) hbase
    exact ⟨v', w', hrun, h2, h3, h5⟩

/-- THE LAW at the walk's next operation. -/
theorem wpl_appN {ops : Array Oper} {rest : List Oper} {o : Oper} {a : Act} {Q : Exit → Act → World → Prop} (hgd : o.guard = none) (s x : Operand) (t : TypeId)
    (ho : o.op = .call { callee := .builtin .append, args := #[s, x], argTypes := #[t, t] })
    (base sz : Nat) (e : TypeId) (i : TypeInfo) (z : Value) (bytes : Nat) (ht : P.underlying t = some (.slice e)) (hi : P.info? e = some i) (hz : i.zero = some z)
    (hsize : i.size = sz) (hby : i.bytes = bytes) (hzs : z.cells.size = sz) (hsz : 0 < sz) (v : Value) (n : Nat) (xs : List Value) (hs : a.eval s = v) (hown : w.ownsRow base e sz v n xs)
    (B : Nat) (A : Option Addr) (c m : Nat) (ys : List Value) (hx : a.eval x = .slice A m c) (hm : ys.length = m * sz) (hr : RdV w B A ys) (h1 : ∀ u ∈ ys, u.oneCell' = true)
    (hmax : n + m ≤ 67108864) (hbyt : bytes ≤ 1024) (hbase : base ≤ w.heap.size)
    (h : ∀ v' w', w'.ownsRow base e sz v' (n + m) (xs ++ ys) → w.grownBy w' v.ownBlock → (v'.ownBlock = v.ownBlock ∨ v'.ownBlock = some w.heap.size) → wpList P ops Q rest (a.put o.dst v') w') :
    wpList P ops Q (o :: rest) a w := by
  refine wpList_plain hgd fun K hK => ?_
  obtain ⟨v', w', hrun, h2, h3, h4⟩ := run_appN (P := P) w base sz t o.type e i z bytes ht hi hz hsize hby hzs hsz v n xs hown B A c m ys hm hr h1 hmax hbyt hbase
  unfold Oper.wp execOp
  simp only [ho, resolve, invoke, builtin, Sem.run_bind, Sem.run_pure, Result.andThen_ok, List.map_toArray, List.map_cons, List.map_nil, hs, hx, hrun]
  exact hK _ _ (h v' w' h2 h3 h4)
end

/-- .. as one step of a region that draws its order -/
theorem step_appN {P : Program} {ops : Array Oper} {o : Oper} {a : Act} {w : World} {K : Act → World → Prop} {Q : Exit → Act → World → Prop} {E : Prop} (hgd : o.guard = none) (s x : Operand) (t : TypeId)
    (ho : o.op = .call { callee := .builtin .append, args := #[s, x], argTypes := #[t, t] })
    (base sz : Nat) (e : TypeId) (i : TypeInfo) (z : Value) (bytes : Nat) (ht : P.underlying t = some (.slice e)) (hi : P.info? e = some i) (hz : i.zero = some z)
    (hsize : i.size = sz) (hby : i.bytes = bytes) (hzs : z.cells.size = sz) (hsz : 0 < sz) (v : Value) (n : Nat) (xs : List Value) (hs : a.eval s = v) (hown : w.ownsRow base e sz v n xs)
    (B : Nat) (A : Option Addr) (c m : Nat) (ys : List Value) (hx : a.eval x = .slice A m c) (hm : ys.length = m * sz) (hr : RdV w B A ys) (h1 : ∀ u ∈ ys, u.oneCell' = true)
    (hmax : n + m ≤ 67108864) (hbyt : bytes ≤ 1024) (hbase : base ≤ w.heap.size)
    (h : ∀ v' w', w'.ownsRow base e sz v' (n + m) (xs ++ ys) → w.grownBy w' v.ownBlock → (v'.ownBlock = v.ownBlock ∨ v'.ownBlock = some w.heap.size) → K (a.put o.dst v') w') :
    if Region.wanted o (yielded ops a.tmps) = true then Oper.wp P o a w K Q else E := by
  have hw : Region.wanted o (yielded ops a.tmps) = true := by simp [Region.wanted, hgd]
  rw [if_pos hw]
  obtain ⟨v', w', hrun, h2, h3, h4⟩ := run_appN (P := P) w base sz t o.type e i z bytes ht hi hz hsize hby hzs hsz v n xs hown B A c m ys hm hr h1 hmax hbyt hbase
  unfold Oper.wp execOp
  simp only [ho, resolve, invoke, builtin, Sem.run_bind, Sem.run_pure, Result.andThen_ok, List.map_toArray, List.map_cons, List.map_nil, hs, hx, hrun]
  exact h v' w' h2 h3 h4

section
variable {α : Type} {L : Lay α} {n : Nat} {e : TypeId} {w : World} {xs ys : List α} {v : Value} {B : Nat} {A : Option Addr}

/-- the cells behind a slice that reads as xs, one behind the other -/
theorem RdL.flatV (h : RdL L n w B A xs) : ∃ cf : Nat → List Value, (∀ j x, xs[j]? = some x → (cf j).length = n ∧ L.rd w B (cf j) x) ∧ (flat cf xs.length).length = xs.length * n ∧ RdV w B A (flat cf xs.length) := by
  obtain ⟨cf, h1, h2⟩ := h
  have hlen : ∀ j, j < xs.length → (cf j).length = n := fun j hj => (h1 j xs[j] (List.getElem?_eq_getElem hj)).1
  have hl := flat_len (cf := cf) (N := xs.length) hlen
  refine ⟨cf, h1, hl, fun hp => ?_⟩
  have hx : 0 < xs.length := by
    rcases Nat.eq_zero_or_pos xs.length with h | h
    · rw [hl, h] at hp; simp at hp
    · exact h
  have hn : 0 < n := by
    rcases Nat.eq_zero_or_pos n with h | h
    · rw [hl, h] at hp; simp at hp
    · exact h
  obtain ⟨b, off, rfl, hb, hc⟩ := h2 hx
  refine ⟨b, off, rfl, hb, fun q u hu => ?_⟩
  have hq := getElem?_lt hu
  rw [hl] at hq
  have e1 : q = q / n * n + q % n := by rw [Nat.mul_comm]; exact (Nat.div_add_mod q n).symm
  have e2 : q % n < n := Nat.mod_lt _ hn
  have e3 : q / n < xs.length := (Nat.div_lt_iff_lt_mul hn).2 hq
  rw [e1] at hu ⊢
  rw [flat_get hlen e3 e2] at hu
  exact hc _ _ _ e3 hu

theorem flat_app {β : Type} (cf cg : Nat → List β) (M : Nat) : ∀ N : Nat, flat (fun j => if j < M then cf j else cg (j - M)) (M + N) = flat cf M ++ flat cg N
  | 0 => by
    rw [Nat.add_zero, flat_congr (cf := cf) (fun j hj => if_pos hj)]
    simp [flat]
  | N + 1 => by
    rw [← Nat.add_assoc, flat_succ, flat_app cf cg M N, flat_succ, if_neg (by omega), Nat.add_sub_cancel_left, List.append_assoc]

/-- an append of one element of scalars: the row lies where it lay, or in a new block -/
theorem OV.app_n2 {lo m : Nat} {cs : List Value} {x : α} (hz : ∀ w T cs x, L.own w T cs x → T = []) (h : OV (sliceL e n L) w lo m v xs) (hc : cs.length = n) (hx : ∀ w, L.own w [] cs x) (hlm : lo ≤ w.heap.size) :
    ∃ ys, w.ownsRow 0 e n v xs.length ys ∧ ∀ v' w', w'.ownsRow 0 e n v' (xs.length + 1) (ys ++ cs) → w.grownBy w' v.ownBlock → (v'.ownBlock = v.ownBlock ∨ v'.ownBlock = some w.heap.size) →
      Chg lo m w w' ∧ (OV (sliceL e n L) w' lo m v' (xs ++ [x]) ∨ OV (sliceL e n L) w' w.heap.size w'.heap.size v' (xs ++ [x])) := by
  have h' := h
  obtain ⟨zs, _, ho0, hin⟩ := h.row
  have hm : m ≤ w.heap.size := by obtain ⟨_, _, _, _, _, _, hm⟩ := h; exact hm
  obtain ⟨ys, R, -, hb⟩ := OV.app_n hz h' hc hx hlm
  refine ⟨ys, R, fun v' w' hrow hg hat => ?_⟩
  obtain ⟨⟨cs0, S, hv, ⟨u, rfl, cf, sf, ho, hel, rfl⟩, hn, hS, hh⟩, -⟩ := hb v' w' hrow hg hat
  obtain rfl : v' = u := hv
  have hsf : flat sf (xs ++ [x]).length = [] := List.eq_nil_iff_forall_not_mem.2 fun j hj => by
    obtain ⟨i, hi, hm⟩ := mem_flat.1 hj
    have := hz _ _ _ _ (hel i _ (List.getElem?_eq_getElem hi)).2
    rw [this] at hm; cases hm
  have hlt := World.ownsRow.lt hrow
  have hs := hg.size
  refine ⟨Chg.of_grown hg hin, ?_⟩
  rcases hat with ha | ha
  · refine .inl ⟨_, _, rfl, ⟨_, rfl, cf, sf, ho, hel, rfl⟩, hn, fun j hj => ?_, by omega⟩
    rw [hsf, List.append_nil] at hj
    exact hin j (by rw [← ha]; simpa using hj)
  · refine .inr ⟨_, _, rfl, ⟨_, rfl, cf, sf, ho, hel, rfl⟩, hn, fun j hj => ?_, Nat.le_refl _⟩
    rw [hsf, List.append_nil] at hj
    have hj' : v'.ownBlock = some j := by simpa using hj
    have h2 := (hlt j hj').2
    rw [ha] at hj'
    obtain rfl : w.heap.size = j := by simpa using hj'
    exact ⟨Nat.le_refl _, h2⟩

/-- a variable's block, read as the cells of a slice -/
theorem Vr.rdV {b : Nat} {t : TypeId} {us : List Value} (h : Vr w b t us) : RdV w w.heap.size (some ⟨b, 0, none⟩) us := fun _ =>
  ⟨b, 0, rfl, h.lt, fun j u hu => by rw [Nat.zero_add]; exact h.cell hu⟩

/-- an append of a slice of scalars' structs: what is asked of the walk, and what lies behind -/
theorem OV.app_all {lo m : Nat} (hz : ∀ w T cs x, L.own w T cs x → T = []) (hro : ∀ w B cs x, L.rd w B cs x → ∀ w', L.own w' [] cs x) (h : OV (sliceL e n L) w lo m v xs) (hy : RdL L n w B A ys) (hlm : lo ≤ w.heap.size) :
    ∃ zs us, w.ownsRow 0 e n v xs.length zs ∧ us.length = ys.length * n ∧ RdV w B A us ∧ (∀ u ∈ us, ∃ (j : Nat) (x : α) (cs : List Value), ys[j]? = some x ∧ L.rd w B cs x ∧ u ∈ cs) ∧ ∀ v' w', w'.ownsRow 0 e n v' (xs.length + ys.length) (zs ++ us) → w.grownBy w' v.ownBlock → (v'.ownBlock = v.ownBlock ∨ v'.ownBlock = some w.heap.size) →
      OV (sliceL e n L) w' lo w'.heap.size v' (xs ++ ys) ∧ Below lo w w' := by
  obtain ⟨cs0, S, hv, ⟨u0, rfl, hO⟩, hn, hS, hm⟩ := h
  obtain rfl : v = u0 := hv
  obtain ⟨cf, sf, ho, hel, rfl⟩ := hO
  obtain ⟨cg, g1, g2, g3⟩ := hy.flatV
  refine ⟨_, _, ho, g2, g3, fun u hu => ?_, fun v' w' hrow hg hat => ?_⟩
  · obtain ⟨j, hj, hm⟩ := mem_flat.1 hu
    exact ⟨j, ys[j], cg j, List.getElem?_eq_getElem hj, (g1 j ys[j] (List.getElem?_eq_getElem hj)).2, hm⟩
  have hlt := World.ownsRow.lt hrow
  have hvS : ∀ k, v.ownBlock = some k → lo ≤ k ∧ k < m := fun k hk => hS k (List.mem_append.2 (.inl (by simp [hk])))
  have hB : Below lo w w' := ⟨hg.os, hg.tape, hg.output, hg.size, fun k hk => hg.block k (by omega) (fun e => by have := hvS k e.symm; omega)⟩
  refine ⟨⟨[v'], v'.ownBlock.toList, rfl, ⟨v', rfl, fun j => if j < xs.length then cf j else cg (j - xs.length), fun _ => [], ?_, ?_, ?_⟩, by cases v'.ownBlock <;> simp, ?_, Nat.le_refl _⟩, hB⟩
  · rw [List.length_append, flat_app]
    exact hrow
  · intro i y hy
    by_cases e1 : i < xs.length
    · rw [List.getElem?_append_left e1] at hy
      obtain ⟨h1, h2⟩ := hel i y hy
      simp only [if_pos e1]
      have hs := hz _ _ _ _ h2
      rw [hs] at h2
      exact ⟨h1, L.own_keep h2 fun k hk => by cases hk⟩
    · rw [List.getElem?_append_right (by omega)] at hy
      obtain ⟨h1, h2⟩ := g1 _ y hy
      simp only [if_neg e1]
      exact ⟨h1, hro _ _ _ _ h2 _⟩
  · have : flat (fun _ : Nat => ([] : List Nat)) (xs ++ ys).length = [] := List.eq_nil_iff_forall_not_mem.2 fun j hj => by
      obtain ⟨i, _, hm⟩ := mem_flat.1 hj; cases hm
    rw [this, List.append_nil]
  · intro k hk
    have hk' : v'.ownBlock = some k := by simpa using hk
    have h2 := (hlt k hk').2
    rcases hat with h1 | h1
    · rw [h1] at hk'
      exact ⟨(hvS k hk').1, h2⟩
    · rw [h1] at hk'
      obtain rfl : w.heap.size = k := by simpa using hk'
      exact ⟨hlm, h2⟩
end

end Go.Proofs.Ytkbhbccpmmhelaa

namespace Go.Proofs.Ytkbhbccpmmhelaa
open Go.RowKit
set_option linter.unusedVariables false

def bytesL : Lay (List Int) := intsL .u8 5

theorem markByteS_s {w : World} {S : List Nat} {v : Value} {zs : List Int} {k : Int} (h : bytesL.own w S [v] zs) (hm : zs.length ≤ 1073741824) (hk0 : 0 ≤ k) (hk1 : k ≤ 1099511627776) :
    Calls Try.prog 13 #[v, .int .i64 k] w (MarkS bytesL w S [v] (k + (zs.length : Int)) (marks k zs.length)) := by
  obtain ⟨u, e, ho, rfl⟩ := h
  obtain rfl : v = u := by simpa using e
  exact (markByteS_any v 0 zs k w ho hm hk0 hk1).mono fun e w' ⟨he, ho', hg⟩ => ⟨he, ⟨v, rfl, ho', rfl⟩, ChgS.of_grown hg⟩

/-- what a reckoning of sizes answers -/
def szV (left : Int) (n : Int) : Int := if n ≤ left then left - n else -1

end Go.Proofs.Ytkbhbccpmmhelaa

namespace Go.Proofs.Ytkbhbccpmmhelaa
open Go.RowKit
set_option linter.unusedVariables false

def byteSSL : Lay (List (List Int)) := sliceL 32 1 bytesL
/-- how many bytes in all -/
def bulkS (xs : List (List Int)) : Nat := (xs.map List.length).sum
/-- what the laws reckon for a slice of slices -/
def sizeSS (xs : List (List Int)) : Nat := xs.length + bulkS xs
theorem bulkS_le (xs : List (List Int)) : bulkS xs ≤ sizeSS xs := by unfold sizeSS; omega
theorem bulkS_cons (x : List Int) (l : List (List Int)) : bulkS (x :: l) = x.length + bulkS l := by simp [bulkS]
theorem bulkS_append (l m : List (List Int)) : bulkS (l ++ m) = bulkS l + bulkS m := by simp [bulkS]
theorem bulkS_take (xs : List (List Int)) (k : Nat) {x : List Int} (h : xs[k]? = some x) : bulkS (xs.take (k + 1)) = bulkS (xs.take k) + x.length := by
  have hk := getElem?_lt h
  rw [List.take_succ_eq_append_getElem hk, bulkS_append]
  rw [List.getElem?_eq_getElem hk] at h
  obtain rfl : xs[k] = x := by simpa using h
  simp [bulkS]
theorem bulkS_split (xs : List (List Int)) (k : Nat) : bulkS (xs.take k) + bulkS (xs.drop k) = bulkS xs := by
  rw [← bulkS_append, List.take_append_drop]
theorem len_le_bulk {xs : List (List Int)} {k : Nat} {x : List Int} (h : xs[k]? = some x) : bulkS (xs.take k) + x.length ≤ bulkS xs := by
  have h1 := bulkS_take xs k h
  have h2 := bulkS_split xs (k + 1)
  omega

theorem el_cell {w : World} {B : Nat} {u : Value} {x : List Int} (h : bytesL.rd w B [u] x) : ∃ A c, u = .slice A x.length c ∧ x.length ≤ c ∧ c ≤ maxLen ∧ Rd .u8 w B A x := by
  obtain ⟨A, c, he, h1, h2, hr⟩ := h
  obtain rfl : u = .slice A x.length c := by simpa using he
  exact ⟨A, c, rfl, h1, h2, hr⟩

theorem take_succ_eqL {α : Type} {xs ys : List α} {k : Nat} {x : α} (h : xs.take k = ys.take k) (hx : xs[k]? = some x) (hy : ys[k]? = some x) : xs.take (k + 1) = ys.take (k + 1) := by
  rw [List.take_add_one, List.take_add_one, h, hx, hy]

theorem get_of_lt {α : Type} {xs : List α} {k : Nat} (h : k < xs.length) : ∃ x, xs[k]? = some x := ⟨xs[k], List.getElem?_eq_getElem h⟩

/-- the marks that a marking lays, element behind element -/
def marksS : Int → List (List Int) → List (List Int)
  | _, [] => []
  | k, x :: l => marks k x.length :: marksS (k + (x.length : Int)) l
theorem marksS_len : ∀ (k : Int) (l : List (List Int)), (marksS k l).length = l.length
  | _, [] => rfl
  | k, x :: l => by rw [marksS, List.length_cons, List.length_cons, marksS_len]
theorem marksS_bulk : ∀ (k : Int) (l : List (List Int)), bulkS (marksS k l) = bulkS l
  | _, [] => rfl
  | k, x :: l => by rw [marksS, bulkS_cons, bulkS_cons, marksS_bulk, marks_len]
theorem marksS_snoc : ∀ (k : Int) (l : List (List Int)) (x : List Int), marksS k (l ++ [x]) = marksS k l ++ [marks (k + (bulkS l : Int)) x.length]
  | k, [], x => by simp [marksS, bulkS]
  | k, y :: l, x => by
    rw [List.cons_append, marksS, marksS, marksS_snoc, List.cons_append, bulkS_cons]
    congr 4
    omega
theorem marksS_get (k : Int) (l : List (List Int)) {j : Nat} {x : List Int} (h : l[j]? = some x) : (marksS k l)[j]? = some (marks (k + (bulkS (l.take j) : Int)) x.length) := by
  induction l generalizing k j with
  | nil => simp at h
  | cons y l ih =>
    cases j with
    | zero =>
      obtain rfl : y = x := by simpa using h
      simp [marksS, bulkS]
    | succ j =>
      rw [List.getElem?_cons_succ] at h
      rw [marksS, List.getElem?_cons_succ, ih _ h, List.take_succ_cons, bulkS_cons]
      congr 2
      omega
theorem mix_get {xs : List (List Int)} {k0 : Int} {k : Nat} {x : List Int} (h : xs[k]? = some x) : (marksS k0 (xs.take k) ++ xs.drop k)[k]? = some x := by
  have hk := getElem?_lt h
  have e : (marksS k0 (xs.take k)).length = k := by rw [marksS_len, List.length_take]; omega
  rw [List.getElem?_append_right (by omega), e, Nat.sub_self, List.getElem?_drop]
  simpa using h
theorem mix_set {xs : List (List Int)} {k0 : Int} {k : Nat} {x : List Int} (h : xs[k]? = some x) :
    (marksS k0 (xs.take k) ++ xs.drop k).set k (marks (k0 + (bulkS (xs.take k) : Int)) x.length) = marksS k0 (xs.take (k + 1)) ++ xs.drop (k + 1) := by
  have hk := getElem?_lt h
  have e : (marksS k0 (xs.take k)).length = k := by rw [marksS_len, List.length_take]; omega
  have e2 : xs.take (k + 1) = xs.take k ++ [x] := by rw [List.take_add_one, h]; rfl
  rw [List.set_append, if_neg (by omega), e, Nat.sub_self, List.drop_eq_getElem_cons hk, List.set_cons_zero, e2, marksS_snoc, List.append_assoc]
  rfl

theorem ChgS.sub {S T : List Nat} {a b c : World} (h : ChgS S a b) (k : ChgS T b c) (hs : ∀ j ∈ T, j ∈ S) : ChgS S a c := h.trans (k.more hs)

theorem szV_step (left n m : Int) (h0 : 0 ≤ n) (h1 : 0 ≤ m) (h : n ≤ left) : szV (left - n) m = szV left (n + m) := by
  unfold szV
  by_cases h2 : n + m ≤ left
  · rw [if_pos h2, if_pos (by omega)]; omega
  · rw [if_neg h2, if_neg (by omega)]

theorem Try.info_bs : (Try.prog.info? 32).map (fun i => (i.zero, i.size, i.bytes)) = some (some (.slice none 0 0), 1, 24) := by kernel_rfl

theorem bytes_nil (w : World) : bytesL.own w [] [.slice none 0 0] [] := ⟨_, rfl, World.ownsRow_nil _ _ _ _, rfl⟩
theorem fill_stepL {α : Type} {d : α} (zs : List α) (k : Nat) {x : α} (hx : zs[k]? = some x) :
    (zs.take k ++ List.replicate (zs.length - k) d).set k x = zs.take (k + 1) ++ List.replicate (zs.length - (k + 1)) d := by
  have h := getElem?_lt hx
  have e1 : (zs.take k).length = k := by simp; omega
  obtain ⟨m, hm⟩ : ∃ m, zs.length = k + 1 + m := ⟨zs.length - (k + 1), by omega⟩
  have e2 : zs.length - k = m + 1 := by omega
  have e3 : zs.length - (k + 1) = m := by omega
  have e4 : zs.take (k + 1) = zs.take k ++ [x] := by rw [List.take_add_one, hx]; rfl
  rw [e2, e3, e4, List.set_append, if_neg (by omega), e1, Nat.sub_self, List.replicate_succ, List.set_cons_zero, List.append_assoc]
  rfl
theorem fill_lenL {α : Type} {d : α} (zs : List α) (k : Nat) (h : k ≤ zs.length) : (zs.take k ++ List.replicate (zs.length - k) d).length = zs.length := by simp; omega
theorem os_blocks {w : World} {lo hi : Nat} {v : Value} {zs : List Int} (h : OS .u8 5 w lo hi v zs) : ∃ T, bytesL.own w T [v] zs ∧ T.Nodup ∧ ∀ j ∈ T, lo ≤ j ∧ j < hi := OVp.ints h

end Go.Proofs.Ytkbhbccpmmhelaa

namespace Go.Proofs.Ytkbhbccpmmhelaa
open Go.RowKit
set_option linter.unusedVariables false

def msgSL : Lay (List MMsg) := sliceL 27 4 msgL

theorem el_msg {w : World} {B : Nat} {A : Option Addr} {xs : List MMsg} {j : Nat} {x : MMsg} (h : RdL msgL 4 w B A xs) (hx : xs[j]? = some x) :
    ∃ b off, A = some ⟨b, off, none⟩ ∧ b < B ∧ w.cell? ⟨b, off + j * 4, none⟩ = some (.int .i64 x.Kind) ∧ w.cell? ⟨b, off + j * 4 + 1, none⟩ = some (.int .i64 x.Acct) ∧ w.cell? ⟨b, off + j * 4 + 2, none⟩ = some (.int .i64 x.Amt) ∧ w.cell? ⟨b, off + j * 4 + 3, none⟩ = some (.int .i64 x.Src) := by
  obtain ⟨b, off, cs, rfl, hb, hl, hc, hr⟩ := h.at_ hx
  obtain rfl := cs_msg hr
  exact ⟨b, off, rfl, hb, hc 0 _ rfl, hc 1 _ rfl, hc 2 _ rfl, hc 3 _ rfl⟩

/-- the marks that a marking lays, element behind element -/
def marksMsg (k : Int) (N : Nat) : List MMsg := (List.range N).map fun (i : Nat) => ⟨k + 4 * (i : Int), k + 4 * (i : Int) + 1, k + 4 * (i : Int) + 2, k + 4 * (i : Int) + 3⟩
theorem marksMsg_len (k : Int) (N : Nat) : (marksMsg k N).length = N := by simp [marksMsg]
theorem marksMsg_succ (k : Int) (N : Nat) : marksMsg k (N + 1) = marksMsg k N ++ [⟨k + 4 * (N : Int), k + 4 * (N : Int) + 1, k + 4 * (N : Int) + 2, k + 4 * (N : Int) + 3⟩] := by simp [marksMsg, List.range_succ]
theorem marksMsg_get (k : Int) {N j : Nat} (h : j < N) : (marksMsg k N)[j]? = some ⟨k + 4 * (j : Int), k + 4 * (j : Int) + 1, k + 4 * (j : Int) + 2, k + 4 * (j : Int) + 3⟩ := by simp [marksMsg, h]
theorem mixMsg_set {xs : List MMsg} {k0 : Int} {k : Nat} {x : MMsg} (h : k < xs.length) (hx : x = ⟨k0 + 4 * (k : Int), k0 + 4 * (k : Int) + 1, k0 + 4 * (k : Int) + 2, k0 + 4 * (k : Int) + 3⟩) : (marksMsg k0 k ++ xs.drop k).set k x = marksMsg k0 (k + 1) ++ xs.drop (k + 1) := by
  have e : (marksMsg k0 k).length = k := marksMsg_len _ _
  rw [List.set_append, if_neg (by omega), e, Nat.sub_self, List.drop_eq_getElem_cons h, List.set_cons_zero, marksMsg_succ, hx, List.append_assoc]
  rfl

theorem own_msg (w : World) (d : MMsg) : msgL.own w [] [.int .i64 d.Kind, .int .i64 d.Acct, .int .i64 d.Amt, .int .i64 d.Src] d := by
  have h := ovp_msg (w := w) (d := d) (lo := 0) (hi := 0) (Nat.zero_le _)
  obtain ⟨S, ho, hn, hS⟩ := h
  obtain rfl : S = [] := List.eq_nil_iff_forall_not_mem.2 fun j hj => by have := hS j hj; omega
  exact ho
theorem own_msg_nil (w : World) (T : List Nat) (cs : List Value) (x : MMsg) (h : msgL.own w T cs x) : T = [] := by
  obtain ⟨_, _, _, _, -, rfl, ⟨-, rfl⟩, ⟨_, _, _, _, -, rfl, ⟨-, rfl⟩, ⟨_, _, _, _, -, rfl, ⟨-, rfl⟩, ⟨-, rfl⟩⟩⟩⟩ := h
  rfl

theorem Try.info_msg : (Try.prog.info? 27).map (fun i => (i.zero, i.size, i.bytes)) = some (some (.agg #[.int .i64 0, .int .i64 0, .int .i64 0, .int .i64 0]), 4, 32) := by kernel_rfl

end Go.Proofs.Ytkbhbccpmmhelaa

namespace Go.Proofs.Ytkbhbccpmmhelaa
open Go.RowKit
set_option linter.unusedVariables false

structure MOut where
  Next : Int
  List : List MMsg

def outL : Lay MOut := isoL (fun d => (d.Next, d.List)) (consL (intL .i64) (msgSL))

/-- how many values lie behind it -/
def MOut.bulk (d : MOut) : Nat := d.List.length

/-- how many marks it takes -/
def MOut.steps (d : MOut) : Nat := 4 * d.List.length

theorem MOut.steps_le (d : MOut) : d.steps ≤ 4 * d.bulk := by unfold MOut.steps MOut.bulk; omega

/-- what a marking from k on makes of it -/
def MOut.mark (d : MOut) (k : Int) : MOut := ⟨d.Next, marksMsg (k) d.List.length⟩

theorem rv_out {w : World} {v : Value} {d : MOut} (h : RV outL w v d) : ∃ AList cList, v = .agg #[.int .i64 d.Next, .slice AList d.List.length cList] ∧ RV msgSL w (.slice AList d.List.length cList) d.List := by
  obtain ⟨cs, rfl, hcs⟩ := h
  obtain ⟨_, _, rfl, rfl, ⟨AList, cList, rfl, hList⟩⟩ := hcs
  exact ⟨AList, cList, rfl, ⟨[_], rfl, _, _, rfl, hList⟩⟩

theorem cs_out {w : World} {B : Nat} {cs : List Value} {d : MOut} (h : outL.rd w B cs d) : ∃ AList cList, cs = [.int .i64 d.Next, .slice AList d.List.length cList] := by
  obtain ⟨_, _, rfl, rfl, ⟨AList, cList, rfl, hList⟩⟩ := h
  exact ⟨AList, cList, rfl⟩

theorem rv_out_mk {w : World} {vList : Value} {zNext : Int} {zList : List MMsg} (hList : RV msgSL w vList zList) : RV outL w (.agg #[.int .i64 zNext, vList]) ⟨zNext, zList⟩ := by
  obtain ⟨_, rfl, AList, cList, rfl, pList⟩ := hList
  exact ⟨_, rfl, [_], _, rfl, rfl, ⟨AList, cList, rfl, pList⟩⟩

theorem ovp_out {w : World} {d : MOut} {lo hi lList hList : Nat} {vList : Value} (oList : OV msgSL w lList hList vList d.List) (hc : hi ≤ w.heap.size ∧ lo ≤ lList ∧ hList ≤ hi) : OVp outL w (fun j => lo ≤ j ∧ j < hi) [.int .i64 d.Next, vList] d := by
  have h : OVp outL w _ [.int .i64 d.Next, vList] d := OVp.iso (f := fun d : MOut => (d.Next, d.List)) (OVp.cons1 (OVp.sl oList))
  exact h.imp (by intro j; omega)

theorem ov_out {w : World} {d : MOut} {lo hi lList hList : Nat} {vList : Value} (oList : OV msgSL w lList hList vList d.List) (hc : hi ≤ w.heap.size ∧ lo ≤ lList ∧ hList ≤ hi) : OV outL w lo hi (.agg #[.int .i64 d.Next, vList]) d :=
  (ovp_out (lo := lo) (hi := hi) oList hc).ov (fun _ h => h) hc.1

end Go.Proofs.Ytkbhbccpmmhelaa

namespace Go.Proofs.Ytkbhbccpmmhelaa
open Go.RowKit
set_option linter.unusedVariables false

def outOkB (o : MOut) : Bool := o.List.all msgOkB && (inB o.Next 1 1125899906842624 && (decide (o.List.length ≤ 60) && decide ((o.List.length : Int) < o.Next)))

theorem all_take_succ {α : Type} {p : α → Bool} {xs : List α} {k : Nat} {x : α} (h : (xs.take k).all p = true) (hx : xs[k]? = some x) (hp : p x = true) : (xs.take (k + 1)).all p = true := by
  rw [List.take_add_one, hx, List.all_append, h]
  simp [hp]
theorem all_false {α : Type} {p : α → Bool} {xs : List α} {k : Nat} {x : α} (hx : xs[k]? = some x) (hp : p x = false) : xs.all p = false := by
  rw [List.all_eq_false]
  exact ⟨x, List.mem_of_getElem? hx, by simp [hp]⟩

end Go.Proofs.Ytkbhbccpmmhelaa

namespace Go.Proofs.Ytkbhbccpmmhelaa
open Go.RowKit
set_option linter.unusedVariables false

def outZ : MOut := ⟨0, []⟩
def outNew : MOut := ⟨1, []⟩
def outFirst (o : MOut) : Int := if outOkB o = true then o.Next - (o.List.length : Int) else 0
def inTakeN (last seq : Int) : Int := if last < seq ∧ last = seq - 1 then seq else last
def inTakeB (last seq : Int) : Bool := decide (last < seq ∧ last = seq - 1)

theorem outOk_parts {o : MOut} (h : outOkB o = true) : (1 ≤ o.Next ∧ o.Next ≤ 1125899906842624) ∧ o.List.length ≤ 60 ∧ (o.List.length : Int) < o.Next ∧ o.List.all msgOkB = true := by
  simp only [outOkB, Bool.and_eq_true, decide_eq_true_eq, inB_true] at h
  exact ⟨h.2.1, h.2.2.1, h.2.2.2, h.1⟩

theorem cell_sa {b : Nat} {p : Addr} (hp : p.block ≠ b) : ∀ (vs : List Value) (o : Nat) (w : World), (setAll w b o vs).cell? p = w.cell? p
  | [], _, _ => rfl
  | u :: vs, o, w => by
    rw [setAll, cell_sa hp vs (o + 1)]
    have := Below.heap_setCell w ⟨b, o, none⟩ u p.block hp
    unfold World.cell?
    rw [this]

theorem ov_msgs_nil {w : World} {lo : Nat} (h : lo ≤ w.heap.size) : OV msgSL w lo lo (.slice none 0 0) [] :=
  ⟨[_], [], rfl, ⟨_, rfl, ownL_nil⟩, List.nodup_nil, (fun j hj => by cases hj), h⟩

def outAtB (o : MOut) (q : Int) : Bool := outOkB o && (decide (outFirst o ≤ q) && decide (q < o.Next))
def outAtM (o : MOut) (q : Int) : MMsg := if outAtB o q = true then o.List.getD (q - outFirst o).toNat ⟨0, 0, 0, 0⟩ else ⟨0, 0, 0, 0⟩

end Go.Proofs.Ytkbhbccpmmhelaa

namespace Go.Proofs.Ytkbhbccpmmhelaa
open Go.RowKit
set_option linter.unusedVariables false

def outSameB (a b : MOut) : Bool := decide (a.Next = b.Next ∧ a.List = b.List)
def outW (o : MOut) (last : Int) : Nat → Int
  | 0 => 0
  | k + 1 => outW o last k + (if outOkB o = true ∧ last < outFirst o + (k : Int) then msgWorth (o.List.getD k ⟨0, 0, 0, 0⟩) else 0)
def outWorth (o : MOut) (last : Int) : Int := outW o last o.List.length
theorem msgWorth_range (m : MMsg) : 0 ≤ msgWorth m ∧ msgWorth m ≤ 1000000000 := by
  unfold msgWorth
  split
  · rename_i h
    have h1 := msgOk_parts h.1
    have h2 := h.1
    simp only [msgOkB, Bool.and_eq_true] at h2
    have h3 := h2.2.2.2
    unfold amtOkB at h3
    rw [if_pos (by omega)] at h3
    unfold amtB at h3
    rw [inB_true] at h3
    omega
  · omega
theorem outW_range (o : MOut) (last : Int) : ∀ k : Nat, 0 ≤ outW o last k ∧ outW o last k ≤ 1000000000 * (k : Int)
  | 0 => by simp [outW]
  | k + 1 => by
    have h := outW_range o last k
    have g := msgWorth_range (o.List.getD k ⟨0, 0, 0, 0⟩)
    rw [outW]
    split <;> omega

end Go.Proofs.Ytkbhbccpmmhelaa

namespace Go.Proofs.Ytkbhbccpmmhelaa
open Go.RowKit
set_option linter.unusedVariables false

theorem msg_own_of_rd (w : World) (B : Nat) (cs : List Value) (x : MMsg) (h : msgL.rd w B cs x) (w' : World) : msgL.own w' [] cs x := by
  obtain rfl := cs_msg h
  exact own_msg w' x
theorem msg_one {w : World} {B : Nat} {ys : List MMsg} {us : List Value} (h : ∀ u ∈ us, ∃ (j : Nat) (x : MMsg) (cs : List Value), ys[j]? = some x ∧ msgL.rd w B cs x ∧ u ∈ cs) : ∀ u ∈ us, u.oneCell' = true := by
  intro u hu
  obtain ⟨j, x, cs, _, hr, hm⟩ := h u hu
  obtain rfl := cs_msg hr
  simp only [List.mem_cons, List.not_mem_nil, or_false] at hm
  rcases hm with rfl | rfl | rfl | rfl <;> rfl
/-- an empty slice of messages that the walk has just laid -/
theorem ov_msgs_lit (w : World) : OV msgSL (w.alloc (.cells #[] 27)) w.heap.size (w.heap.size + 1) (.slice (some ⟨w.heap.size, 0, none⟩) 0 0) [] := by
  have h := World.ownsRow_lit (base := 0) (e := 27) (size := 4) w #[] 0 (Nat.zero_le _) (by unfold maxLen; omega) (by simp)
  refine ⟨[_], [w.heap.size], rfl, ⟨_, rfl, fun _ => [], fun _ => [], by simpa [flat] using h, fun j x hx => by simp at hx, by simp [Value.ownBlock, flat]⟩, by simp, ?_, by simp⟩
  intro j hj
  obtain rfl : j = w.heap.size := by simpa using hj
  omega

end Go.Proofs.Ytkbhbccpmmhelaa

namespace Go.Proofs.Ytkbhbccpmmhelaa
open Go.RowKit
set_option linter.unusedVariables false

theorem OV.app_grow {α : Type} {L : Lay α} {e : TypeId} {n : Nat} {w : World} {v : Value} {xs : List α} {lo m : Nat} {cs : List Value} {x : α} (hz : ∀ w T cs x, L.own w T cs x → T = []) (h : OV (sliceL e n L) w lo m v xs) (hc : cs.length = n) (hx : ∀ w, L.own w [] cs x) (hlm : lo ≤ w.heap.size) :
    ∃ ys, w.ownsRow 0 e n v xs.length ys ∧ ∀ v' w', w'.ownsRow 0 e n v' (xs.length + 1) (ys ++ cs) → w.grownBy w' v.ownBlock → (v'.ownBlock = v.ownBlock ∨ v'.ownBlock = some w.heap.size) →
      Chg lo m w w' ∧ OV (sliceL e n L) w' lo w'.heap.size v' (xs ++ [x]) := by
  have hm : m ≤ w.heap.size := by obtain ⟨_, _, _, _, _, _, hm⟩ := h; exact hm
  obtain ⟨ys, R, hb⟩ := OV.app_n2 hz h hc hx hlm
  refine ⟨ys, R, fun v' w' h1 h2 h3 => ?_⟩
  obtain ⟨hc2, ho | ho⟩ := hb v' w' h1 h2 h3
  · exact ⟨hc2, ho.widen (Nat.le_refl _) (Nat.le_trans hm hc2.size) (Nat.le_refl _)⟩
  · exact ⟨hc2, ho.widen hlm (Nat.le_refl _) (Nat.le_refl _)⟩

end Go.Proofs.Ytkbhbccpmmhelaa

namespace Go.Proofs.Ytkbhbccpmmhelaa
open Go.RowKit
set_option linter.unusedVariables false

theorem drawn_ok {k a b s : Int} (hk : 1 ≤ k ∧ k ≤ 5) (ha : 0 ≤ a ∧ a < 3) (hb : (k ≠ 4 → 1 ≤ b ∧ b ≤ 90) ∧ (k = 4 → 0 ≤ b ∧ b < 4)) (hs : 0 ≤ s ∧ s < 3 ∧ (k ≠ 2 → s = 0)) : msgOkB ⟨k, a, b, s⟩ = true := by
  have h1 : inB a 0 2 = true := inB_true.2 (by omega)
  have h2 : inB s 0 2 = true := inB_true.2 (by omega)
  rw [msgOk_rest (m := ⟨k, a, b, s⟩) h1 h2 (by show k = 2 ∨ s = 0; omega)]
  show amtOkB k b = true
  unfold amtOkB
  by_cases h3 : k = 1 ∨ k = 2 ∨ k = 3
  · rw [if_pos h3]; exact inB_true.2 (by omega)
  · rw [if_neg h3]
    by_cases h4 : k = 4
    · rw [if_pos h4]; exact inB_true.2 (by omega)
    · rw [if_neg h4, if_pos (by omega)]; exact numB_true.2 (by omega)

/-- all valid -/
def AllOk (l : List MMsg) : Prop := ∀ m ∈ l, msgOkB m = true
theorem AllOk.snoc {l : List MMsg} {m : MMsg} (h : AllOk l) (hm : msgOkB m = true) : AllOk (l ++ [m]) := by
  intro y hy
  rcases List.mem_append.1 hy with h1 | h1
  · exact h y h1
  · simp at h1; rw [h1]; exact hm

end Go.Proofs.Ytkbhbccpmmhelaa
