/- Slices of one-cell elements of whatever kind (strings, say): what they read as, what is the call's own, append. The integers' words of Mem, App and Law, over an encoder f. No program is named here. -/
import Derived.Test.YtfdhilpmblbkfaaLaw
namespace Go.Proofs.Ytfdhilpmblbkfaa
open Go.RowKit
set_option linter.unusedVariables false

section
variable {α : Type} (f : α → Value) (d : α)

def RdF (w : World) (B : Nat) (A : Option Addr) (xs : List α) : Prop :=
  0 < xs.length → ∃ b off, A = some ⟨b, off, none⟩ ∧ b < B ∧ ∀ j, j < xs.length → w.cell? ⟨b, off + j, none⟩ = some (f (xs.getD j d))

def OwnF (w : World) (base : Nat) (e : TypeId) (v : Value) (xs : List α) : Prop := w.ownsRow base e 1 v xs.length (xs.map f)

def RSF (w : World) (v : Value) (xs : List α) : Prop := ∃ A c, v = .slice A xs.length c ∧ xs.length ≤ c ∧ c ≤ maxLen ∧ RdF f d w w.heap.size A xs

def OSF (e : TypeId) (w : World) (lo hi : Nat) (v : Value) (xs : List α) : Prop :=
  OwnF f w lo e v xs ∧ (∀ j, v.ownBlock = some j → j < hi) ∧ hi ≤ w.heap.size

variable {f d} {w w' : World} {B B' base lo hi : Nat} {A : Option Addr} {xs : List α} {e : TypeId} {v : Value}

theorem RdF.at_ (h : RdF f d w B A xs) {j : Nat} (hj : j < xs.length) :
    ∃ b off, A = some ⟨b, off, none⟩ ∧ b < B ∧ w.cell? ⟨b, off + j, none⟩ = some (f (xs.getD j d)) := by
  obtain ⟨b, off, rfl, hb, hc⟩ := h (by omega)
  exact ⟨b, off, rfl, hb, hc j hj⟩
theorem RdF.keep (h : RdF f d w B A xs) (hk : ∀ p : Addr, p.block < B → w'.cell? p = w.cell? p) : RdF f d w' B A xs := fun hn => by
  obtain ⟨b, off, rfl, hb, hc⟩ := h hn
  exact ⟨b, off, rfl, hb, fun j hj => (hk _ hb).trans (hc j hj)⟩
theorem RdF.more (h : RdF f d w B A xs) (hB : B ≤ B') : RdF f d w B' A xs := fun hn => by
  obtain ⟨b, off, rfl, hb, hc⟩ := h hn
  exact ⟨b, off, rfl, by omega, hc⟩
theorem RdF.below (h : RdF f d w B A xs) (hb : Below B w w') : RdF f d w' B A xs := h.keep fun _ hp => hb.cell hp

theorem RdF.toV (h : RdF f d w B A xs) : RdV w B A (xs.map f) := fun hp => by
  obtain ⟨b, off, rfl, hb, hc⟩ := h (by simpa using hp)
  refine ⟨b, off, rfl, hb, fun j u hu => ?_⟩
  have hj : j < xs.length := by
    rcases Nat.lt_or_ge j xs.length with h | h
    · exact h
    · rw [List.getElem?_eq_none (by simpa using h)] at hu; cases hu
  rw [hc j hj]
  simp [hj] at hu
  simp [hj, hu]

theorem OwnF.lt (h : OwnF f w base e v xs) : ∀ j, v.ownBlock = some j → base ≤ j ∧ j < w.heap.size := World.ownsRow.lt h

theorem OwnF.form (h : OwnF f w base e v xs) : ∃ A c, v = .slice A xs.length c ∧ xs.length ≤ c ∧ c ≤ maxLen ∧ RdF f d w w.heap.size A xs := by
  have hlt := h.lt
  rcases h.2 with ⟨rfl, h0⟩ | ⟨g, cap, cur, rfl, hb, hh, hn, hm, hs, ht⟩
  · exact ⟨none, 0, by rw [h0], by omega, by unfold maxLen; omega, fun h => by omega⟩
  · refine ⟨some ⟨g, 0, none⟩, cap, rfl, hn, hm, fun hp => ⟨g, 0, rfl, (hlt g rfl).2, fun j hj => ?_⟩⟩
    have := World.ownsRow.cellAt h j (by omega)
    rw [Nat.zero_add, this]
    simp [hj]

theorem OwnF.below (h : OwnF f w base e v xs) (hb : Below B w w') (hB : w.heap.size ≤ B) : OwnF f w' base e v xs := by
  have hlt := h.lt
  refine ⟨h.1, ?_⟩
  rcases h.2 with h2 | ⟨g, cap, cur, hv, hg, hh, r⟩
  · exact .inl h2
  · refine .inr ⟨g, cap, cur, hv, hg, ?_, r⟩
    have := (hlt g (by rw [hv]; rfl)).2
    rw [hb.block g (by omega)]; exact hh

theorem OwnF.base_mono {base' : Nat} (h : OwnF f w base e v xs) (hb : base' ≤ base) : OwnF f w base' e v xs := by
  refine ⟨h.1, ?_⟩
  rcases h.2 with h2 | ⟨g, cap, cur, hv, hg, r⟩
  · exact .inl h2
  · exact .inr ⟨g, cap, cur, hv, by omega, r⟩

theorem OwnF.kept_ {row : Option Nat} (h : OwnF f w base e v xs) (hg : w.grownBy w' row) (hne : ∀ j, v.ownBlock = some j → row ≠ some j) : OwnF f w' base e v xs :=
  World.ownsRow.kept h hg (by
    rcases hv : v.ownBlock with _ | j
    · exact .inl rfl
    · exact .inr (fun e => hne j hv e.symm))

theorem OwnF.alloc_ (h : OwnF f w base e v xs) (o : Obj) : OwnF f (w.alloc o) base e v xs := World.ownsRow.alloc h o

theorem OwnF.len {g n c : Nat} (h : OwnF f w base e (.slice (some ⟨g, 0, none⟩) n c) xs) : n = xs.length := by
  rcases h.2 with ⟨h', _⟩ | ⟨g', cap, cur, hv, _⟩
  · simp at h'
  · simp only [Value.slice.injEq] at hv; exact hv.2.1
theorem OwnF.cell_ {g n c : Nat} (h : OwnF f w base e (.slice (some ⟨g, 0, none⟩) n c) xs) {j : Nat} (hj : j < xs.length) : w.cell? ⟨g, j, none⟩ = some (f (xs.getD j d)) := by
  obtain rfl := h.len
  rw [World.ownsRow.cellAt h j (by omega)]
  simp [hj]
theorem OwnF.frozen_ {g n c : Nat} (h : OwnF f w base e (.slice (some ⟨g, 0, none⟩) n c) xs) (j : Nat) : w.frozen? ⟨g, j, none⟩ = false := by
  obtain rfl := h.len
  exact World.ownsRow.frozenAt h j
theorem OwnF.set_ {g n c : Nat} (h : OwnF f w base e (.slice (some ⟨g, 0, none⟩) n c) xs) (j : Nat) (x : α) :
    OwnF f (w.setCell ⟨g, j, none⟩ (f x)) base e (.slice (some ⟨g, 0, none⟩) n c) (xs.set j x) := by
  obtain rfl := h.len
  have := (World.ownsRow.stored h j (f x)).1
  unfold OwnF
  rw [List.map_set, List.length_set]
  exact this

theorem grown_belowF {a : World} (h : Below B a w) (ho : OwnF f w base e v xs) (hg : w.grownBy w' v.ownBlock) (hB : B ≤ base) (hB2 : B ≤ w.heap.size) : Below B a w' :=
  h.grown hg hB2 (fun k hk => by have := (ho.lt k hk).1; omega)

theorem RSF.from_ (h : RSF f d w v xs) (hb : Below w.heap.size w w') : RSF f d w' v xs := by
  obtain ⟨A, c, hv, h1, h2, hr⟩ := h
  exact ⟨A, c, hv, h1, h2, (hr.below hb).more hb.size⟩
theorem OSF.rd (h : OSF f e w lo hi v xs) : RSF f d w v xs := h.1.form
theorem OSF.below (h : OSF f e w lo hi v xs) (hb : Below w.heap.size w w') : OSF f e w' lo hi v xs :=
  ⟨h.1.below hb (Nat.le_refl _), h.2.1, Nat.le_trans h.2.2 hb.size⟩
theorem OSF.chg {a b : Nat} (h : OSF f e w lo hi v xs) (hc : Chg a b w w') (hd : hi ≤ a ∨ b ≤ lo) : OSF f e w' lo hi v xs := by
  refine ⟨⟨h.1.1, ?_⟩, h.2.1, Nat.le_trans h.2.2 hc.size⟩
  rcases h.1.2 with h2 | ⟨g, cap, cur, hv, hg, hh, r⟩
  · exact .inl h2
  · refine .inr ⟨g, cap, cur, hv, hg, ?_, r⟩
    have h3 := h.2.1 g (by rw [hv]; rfl)
    have h4 := h.2.2
    rw [hc.block g (by omega) (by omega)]; exact hh
theorem OSF.mk_ (h : OwnF f w' lo e v xs) : OSF f e w' lo w'.heap.size v xs := ⟨h, fun j hj => (h.lt j hj).2, Nat.le_refl _⟩

theorem ownF_nil : OwnF f w base e (.slice none 0 0) [] := World.ownsRow_nil w base e 1
theorem ownF_none (hb : base ≤ w.heap.size) : OwnF f (w.alloc (.cells #[] e)) base e (.slice (some ⟨w.heap.size, 0, none⟩) 0 0) [] := by
  have := World.ownsRow_lit (base := base) (e := e) (size := 1) w #[] 0 hb (by unfold maxLen; omega) (by simp)
  simpa [OwnF] using this
end

/-- a block of one cell that the walk has just laid -/
theorem rdF_one {α : Type} (f : α → Value) (d : α) (w : World) (t : TypeId) (x : α) : RdF f d (w.alloc (.cells #[f x] t)) (w.heap.size + 1) (some ⟨w.heap.size, 0, none⟩) [x] := fun _ =>
  ⟨w.heap.size, 0, rfl, by omega, fun j hj => by
    have : j = 0 := by simp at hj; omega
    subst this
    have := heap_alloc_new w (.cells #[f x] t)
    rw [cell_of_row _ w.heap.size (0 + 0) #[f x] t (0, 0) this]
    simp⟩

/-- append, of elements encoded by f -/
theorem wpl_appF {α : Type} (f : α → Value) (d : α) {P : Program} (w : World) {ops : Array Oper} {rest : List Oper} {o : Oper} {a : Act} {Q : Exit → Act → World → Prop} (hone : ∀ x, (f x).oneCell' = true) (hgd : o.guard = none) (s x : Operand) (t : TypeId)
    (ho : o.op = .call { callee := .builtin .append, args := #[s, x], argTypes := #[t, t] })
    (base : Nat) (e : TypeId) (i : TypeInfo) (z : Value) (bytes : Nat) (ht : P.underlying t = some (.slice e)) (hi : P.info? e = some i) (hz : i.zero = some z)
    (hsize : i.size = 1) (hby : i.bytes = bytes) (hzs : z.cells.size = 1) (v : Value) (xs : List α) (hs : a.eval s = v) (hown : OwnF f w base e v xs)
    (B : Nat) (A : Option Addr) (c m : Nat) (ys : List α) (hx : a.eval x = .slice A m c) (hm : ys.length = m) (hr : RdF f d w B A ys)
    (hmax : xs.length + m ≤ 1099511627776) (hbyt : bytes ≤ 64) (hbase : base ≤ w.heap.size)
    (h : ∀ v' w', OwnF f w' base e v' (xs ++ ys) → w.grownBy w' v.ownBlock → (v'.ownBlock = v.ownBlock ∨ v'.ownBlock = some w.heap.size) → wpList P ops Q rest (a.put o.dst v') w') :
    wpList P ops Q (o :: rest) a w :=
  wpl_app w hgd s x t ho base e i z bytes ht hi hz hsize hby hzs v xs.length (xs.map f) hs hown B A c m (ys.map f) hx (by simpa using hm) hr.toV
    (fun u hu => by obtain ⟨n, _, rfl⟩ := List.mem_map.1 hu; exact hone n) hmax hbyt hbase
    (fun v' w' h2 h3 h4 => h v' w' (by unfold OwnF; rw [List.length_append, List.map_append]; simpa using h2) h3 h4)

end Go.Proofs.Ytfdhilpmblbkfaa
