/- Struct variables: a block that holds the cells of one variable. No program is named here. -/
import Derived.Test.YtopmojfcdmcmbaaLay
import Derived.Laws.ResultCell
import Derived.Laws.Rows
import Derived.Laws.CopyRow
namespace Go.Proofs.Ytopmojfcdmcmbaa
open Go.RowKit
set_option linter.unusedVariables false

/-- block b of w holds the cells cs of a variable of type t -/
def Vr (w : World) (b : Nat) (t : TypeId) (cs : List Value) : Prop := w.heap[b]? = some (.cells cs.toArray t (0, 0))

section
variable {w w' : World} {b b' : Nat} {t : TypeId} {cs : List Value} {v : Value} {i : Nat}

theorem Vr.lt (h : Vr w b t cs) : b < w.heap.size := by
  rcases Nat.lt_or_ge b w.heap.size with hlt | hge
  · exact hlt
  · unfold Vr at h; rw [Array.getElem?_eq_none hge] at h; cases h
theorem Vr.cell (h : Vr w b t cs) (hi : cs[i]? = some v) : w.cell? ⟨b, i, none⟩ = some v := by
  unfold Vr at h
  rw [cell_of_row w b i cs.toArray t (0, 0) h]
  simpa using hi
theorem Vr.frozen (h : Vr w b t cs) (i : Nat) : w.frozen? ⟨b, i, none⟩ = false := by
  unfold Vr at h
  simp [World.frozen?, h]
theorem Vr.same (h : Vr w b t cs) (hi : cs[i]? = some v) : w.setCell ⟨b, i, none⟩ v = w := by
  unfold Vr at h
  rw [setCell_eq_setRow w b i cs.toArray t (0, 0) v h]
  have e : cs.toArray.setIfInBounds i v = cs.toArray := by
    apply Array.ext_getElem?
    intro j
    rw [Array.getElem?_setIfInBounds]
    by_cases hj : i = j
    · subst hj
      have hl : i < cs.length := by
        rcases Nat.lt_or_ge i cs.length with h | h
        · exact h
        · rw [List.getElem?_eq_none h] at hi; cases hi
      rw [List.getElem?_eq_getElem hl] at hi
      simp [hl, Option.some.inj hi]
    · simp [hj]
  rw [e]
  exact setRow_self w b cs.toArray t (0, 0) h
theorem Vr.new (w : World) (t : TypeId) (cs : List Value) : Vr (w.alloc (.cells cs.toArray t)) w.heap.size t cs := heap_alloc_new w _
theorem Vr.alloc (h : Vr w b t cs) (o : Obj) : Vr (w.alloc o) b t cs := by
  have hl := h.lt
  unfold Vr at h ⊢
  rw [show (w.alloc o).heap[b]? = w.heap[b]? from ((Below.refl w.heap.size w).alloc (Nat.le_refl _) o).block b hl]
  exact h
theorem Vr.below {B : Nat} (h : Vr w b t cs) (hb : Below B w w') (hB : b < B) : Vr w' b t cs := by
  unfold Vr at h ⊢; rw [hb.block b hB]; exact h
theorem Vr.from_ (h : Vr w b t cs) (hb : Below w.heap.size w w') : Vr w' b t cs := h.below hb h.lt
theorem Vr.set (h : Vr w b t cs) (i : Nat) (v : Value) : Vr (w.setCell ⟨b, i, none⟩ v) b t (cs.set i v) := by
  unfold Vr at h ⊢
  rw [setCell_eq_setRow w b i cs.toArray t (0, 0) v h, setRow_heap w b _ _ t _ h]
  simp
theorem Vr.set_ne (h : Vr w b t cs) (hne : b' ≠ b) (i : Nat) (v : Value) : Vr (w.setCell ⟨b', i, none⟩ v) b t cs := by
  unfold Vr at h ⊢
  rw [Below.heap_setCell w ⟨b', i, none⟩ v b (fun e => hne e.symm)]
  exact h
theorem Vr.grown {row : Option Nat} (h : Vr w b t cs) (hg : w.grownBy w' row) (hne : row ≠ some b) : Vr w' b t cs := by
  have hl := h.lt
  unfold Vr at h ⊢
  rw [hg.block b hl (fun e => hne e.symm)]
  exact h
theorem Vr.chgS {S : List Nat} (h : Vr w b t cs) (hc : ChgS S w w') (hd : b ∉ S) : Vr w' b t cs := by
  have hl := h.lt
  unfold Vr at h ⊢
  rw [hc.block b hl hd]
  exact h
theorem Vr.chg {a c : Nat} (h : Vr w b t cs) (hc : Chg a c w w') (hd : b < a ∨ c ≤ b) : Vr w' b t cs := by
  have hl := h.lt
  unfold Vr at h ⊢
  rw [hc.block b hl hd]
  exact h
end

/-- the variables that a function lays at its entry -/
theorem frame1 (w : World) (t0 : TypeId) (c0 : List Value) : ∃ wa, w.alloc (.cells c0.toArray t0) = wa ∧ Below w.heap.size w wa ∧ wa.heap.size = w.heap.size + 1 ∧ Vr wa w.heap.size t0 c0 :=
  ⟨_, rfl, (Below.refl _ _).alloc (Nat.le_refl _) _, by simp, Vr.new w t0 c0⟩
theorem frame2 (w : World) (t0 : TypeId) (c0 : List Value) (t1 : TypeId) (c1 : List Value) : ∃ wa, (w.alloc (.cells c0.toArray t0)).alloc (.cells c1.toArray t1) = wa ∧ Below w.heap.size w wa ∧ wa.heap.size = w.heap.size + 1 + 1 ∧ Vr wa w.heap.size t0 c0 ∧ Vr wa (w.heap.size + 1) t1 c1 := by
  obtain ⟨wa, rfl, h1, h2, h3⟩ := frame1 w t0 c0
  have h4 := Vr.new (w.alloc (.cells c0.toArray t0)) t1 c1
  rw [h2] at h4
  exact ⟨_, rfl, h1.alloc h1.size _, by simp, h3.alloc _, h4⟩
theorem frame3 (w : World) (t0 : TypeId) (c0 : List Value) (t1 : TypeId) (c1 : List Value) (t2 : TypeId) (c2 : List Value) : ∃ wa, ((w.alloc (.cells c0.toArray t0)).alloc (.cells c1.toArray t1)).alloc (.cells c2.toArray t2) = wa ∧ Below w.heap.size w wa ∧ wa.heap.size = w.heap.size + 1 + 1 + 1 ∧ Vr wa w.heap.size t0 c0 ∧ Vr wa (w.heap.size + 1) t1 c1 ∧ Vr wa (w.heap.size + 1 + 1) t2 c2 := by
  obtain ⟨wa, rfl, h1, h2, h3, h3'⟩ := frame2 w t0 c0 t1 c1
  have h4 := Vr.new ((w.alloc (.cells c0.toArray t0)).alloc (.cells c1.toArray t1)) t2 c2
  rw [h2] at h4
  exact ⟨_, rfl, h1.alloc h1.size _, by simp, h3.alloc _, h3'.alloc _, h4⟩
theorem frame4 (w : World) (t0 : TypeId) (c0 : List Value) (t1 : TypeId) (c1 : List Value) (t2 : TypeId) (c2 : List Value) (t3 : TypeId) (c3 : List Value) : ∃ wa, (((w.alloc (.cells c0.toArray t0)).alloc (.cells c1.toArray t1)).alloc (.cells c2.toArray t2)).alloc (.cells c3.toArray t3) = wa ∧ Below w.heap.size w wa ∧ wa.heap.size = w.heap.size + 1 + 1 + 1 + 1 ∧ Vr wa w.heap.size t0 c0 ∧ Vr wa (w.heap.size + 1) t1 c1 ∧ Vr wa (w.heap.size + 1 + 1) t2 c2 ∧ Vr wa (w.heap.size + 1 + 1 + 1) t3 c3 := by
  obtain ⟨wa, rfl, h1, h2, h3, h3', h3''⟩ := frame3 w t0 c0 t1 c1 t2 c2
  have h4 := Vr.new (((w.alloc (.cells c0.toArray t0)).alloc (.cells c1.toArray t1)).alloc (.cells c2.toArray t2)) t3 c3
  rw [h2] at h4
  exact ⟨_, rfl, h1.alloc h1.size _, by simp, h3.alloc _, h3'.alloc _, h3''.alloc _, h4⟩

/-- a store into a variable above B -/
theorem below_set {B b i : Nat} {a w : World} {v : Value} (h : Below B a w) (hB : B ≤ b) : Below B a (w.setCell ⟨b, i, none⟩ v) := h.setCell (p := ⟨b, i, none⟩) hB _

theorem set_step {w : World} {b : Nat} {t : TypeId} {cs : List Value} (h : Vr w b t cs) (i : Nat) (v : Value) :
    ∃ w', w.setCell ⟨b, i, none⟩ v = w' ∧ w'.heap.size = w.heap.size ∧ Chg b (b + 1) w w' ∧ Vr w' b t (cs.set i v) :=
  ⟨_, rfl, by simp, ⟨rfl, rfl, rfl, by simp, fun k hk hd => Below.heap_setCell w ⟨b, i, none⟩ v k (by show k ≠ b; omega)⟩, h.set i v⟩

theorem alloc_step (w : World) (t : TypeId) (cs : List Value) :
    ∃ w', w.alloc (.cells cs.toArray t) = w' ∧ w'.heap.size = w.heap.size + 1 ∧ Below w.heap.size w w' ∧ Vr w' w.heap.size t cs := by
  obtain ⟨wa, h1, h2, h3, h4⟩ := frame1 w t cs
  exact ⟨wa, h1, h3, h2, h4⟩

theorem Below.chg_ {B a b : Nat} {w0 w w' : World} (h : Below B w0 w) (hc : Chg a b w w') (hB : B ≤ a) (hB2 : B ≤ w.heap.size) : Below B w0 w' := h.trans (hc.below hB hB2)

theorem Vr.cells2 {w : World} {b : Nat} {t : TypeId} {v0 v1 : Value} (h : Vr w b t [v0, v1]) : w.cell? ⟨b, 0, none⟩ = some v0 ∧ w.cell? ⟨b, 1, none⟩ = some v1 ∧ w.frozen? ⟨b, 0, none⟩ = false ∧ w.frozen? ⟨b, 1, none⟩ = false :=
  ⟨h.cell rfl, h.cell rfl, h.frozen 0, h.frozen 1⟩

/-- the end of a function whose one result is a struct variable -/
theorem ret_cell {P : Program} {fn : Func} {R : Ending → World → Prop} {a : Act} {w : World} {p : Tmp} {ty : TypeId} {b : Nat} {t : TypeId} {cs : List Value} {fs : Array Field} (h : fn.results = #[.cell p ty])
    (hp : a.tmps.getD p undef = .pointer (some ⟨b, 0, none⟩)) (hg : Vr w b t cs) (hu : P.underlying ty = some (.struct fs)) (hi : (P.info? ty).map (·.size) = some cs.length) (hdf : a.defers = [])
    (hR : R (.returned (.agg cs.toArray)) w) : bodyPost P fn R .ret a w :=
  bodyPost_ret (results_cell_row h a.tmps w b t cs.toArray (0, 0) _ hp hg hu rfl (by simpa using hi)) hdf hR

/-- .. and a value beside it -/
theorem ret_cell_tmp {P : Program} {fn : Func} {R : Ending → World → Prop} {a : Act} {w : World} {p u : Tmp} {ty : TypeId} {b : Nat} {t : TypeId} {cs : List Value} {fs : Array Field} (h : fn.results = #[.cell p ty, .tmp u])
    (hp : a.tmps.getD p undef = .pointer (some ⟨b, 0, none⟩)) (hg : Vr w b t cs) (hu : P.underlying ty = some (.struct fs)) (hi : (P.info? ty).map (·.size) = some cs.length) (hdf : a.defers = [])
    (hR : R (.returned (.tuple #[.agg cs.toArray, a.tmps.getD u undef])) w) : bodyPost P fn R .ret a w := by
  refine bodyPost_ret (v := .tuple #[.agg cs.toArray, a.tmps.getD u undef]) ?_ hdf hR
  have hl := run_loadVar_row (P := P) w b t ty cs.toArray (0, 0) _ hg hu rfl (by simpa using hi)
  rw [results_cell_tmp h, hp]
  simp [asAddr, hl]

theorem results_cell_tmp2 {fn : Func} {p u u' : Tmp} {ty : TypeId} (h : fn.results = #[.cell p ty, .tmp u, .tmp u']) (tmps : Array Value) (P : Program) (w : World) :
    (results fn tmps).run P w =
      ((asAddr (tmps.getD p undef)).run P w).andThen fun a w₁ => ((loadVar ty a).run P w₁).andThen fun v w₂ => .ok (.tuple #[v, tmps.getD u undef, tmps.getD u' undef]) w₂ := by
  simp only [results, h]
  simp [Sem.run_bind, Result.andThen]
/-- .. and two values beside it -/
theorem ret_cell_tmp2 {P : Program} {fn : Func} {R : Ending → World → Prop} {a : Act} {w : World} {p u u' : Tmp} {ty : TypeId} {b : Nat} {t : TypeId} {cs : List Value} {fs : Array Field} (h : fn.results = #[.cell p ty, .tmp u, .tmp u'])
    (hp : a.tmps.getD p undef = .pointer (some ⟨b, 0, none⟩)) (hg : Vr w b t cs) (hu : P.underlying ty = some (.struct fs)) (hi : (P.info? ty).map (·.size) = some cs.length) (hdf : a.defers = [])
    (hR : R (.returned (.tuple #[.agg cs.toArray, a.tmps.getD u undef, a.tmps.getD u' undef])) w) : bodyPost P fn R .ret a w := by
  refine bodyPost_ret (v := .tuple #[.agg cs.toArray, a.tmps.getD u undef, a.tmps.getD u' undef]) ?_ hdf hR
  have hl := run_loadVar_row (P := P) w b t ty cs.toArray (0, 0) _ hg hu rfl (by simpa using hi)
  rw [results_cell_tmp2 h, hp]
  simp [asAddr, hl]

theorem Chg.refl (a b : Nat) (w : World) : Chg a b w w := ⟨rfl, rfl, rfl, Nat.le_refl _, fun _ _ _ => rfl⟩
theorem Chg.then_below {a b : Nat} {w w1 w2 : World} (h : Chg a b w w1) (k : Below w1.heap.size w1 w2) : Chg a b w w2 :=
  ⟨k.os.trans h.os, k.tape.trans h.tape, k.output.trans h.output, Nat.le_trans h.size k.size, fun i hi hd => (k.block i (Nat.lt_of_lt_of_le hi h.size)).trans (h.block i hi hd)⟩
theorem Chg.then_same {a b : Nat} {w w1 w2 : World} (h : Chg a b w w1) (k : Chg a b w1 w2) : Chg a b w w2 :=
  ⟨k.os.trans h.os, k.tape.trans h.tape, k.output.trans h.output, Nat.le_trans h.size k.size, fun i hi hd => (k.block i (Nat.lt_of_lt_of_le hi h.size) hd).trans (h.block i hi hd)⟩
theorem Chg.then_new {a b c d : Nat} {w w1 w2 : World} (h : Chg a b w w1) (k : Chg c d w1 w2) (hc : w.heap.size ≤ c) : Chg a b w w2 :=
  ⟨k.os.trans h.os, k.tape.trans h.tape, k.output.trans h.output, Nat.le_trans h.size k.size, fun i hi hd => (k.block i (Nat.lt_of_lt_of_le hi h.size) (.inl (by omega))).trans (h.block i hi hd)⟩

/-- all cells of a variable laid one by one -/
def setAll (w : World) (b : Nat) : Nat → List Value → World
  | _, [] => w
  | i, v :: vs => setAll (w.setCell ⟨b, i, none⟩ v) b (i + 1) vs

theorem setAll_step {b : Nat} {t : TypeId} : ∀ (vs : List Value) (i : Nat) (w : World) (cs : List Value), Vr w b t cs → i + vs.length = cs.length →
    (setAll w b i vs).heap.size = w.heap.size ∧ Chg b (b + 1) w (setAll w b i vs) ∧ Vr (setAll w b i vs) b t (cs.take i ++ vs)
  | [], i, w, cs, h, hl => ⟨rfl, ⟨rfl, rfl, rfl, Nat.le_refl _, fun _ _ _ => rfl⟩, by
      simp only [List.length_nil, Nat.add_zero] at hl
      simp only [setAll, List.append_nil]
      rw [List.take_of_length_le (by omega)]; exact h⟩
  | v :: vs, i, w, cs, h, hl => by
      simp only [List.length_cons] at hl
      obtain ⟨w', rfl, s1, c1, v1⟩ := set_step h i v
      obtain ⟨s2, c2, v2⟩ := setAll_step vs (i + 1) (w.setCell ⟨b, i, none⟩ v) (cs.set i v) v1 (by simp; omega)
      refine ⟨s2.trans s1, ⟨c2.os.trans c1.os, c2.tape.trans c1.tape, c2.output.trans c1.output, Nat.le_trans c1.size c2.size, fun k hk hd => (c2.block k (by omega) hd).trans (c1.block k hk hd)⟩, ?_⟩
      have e : (cs.set i v).take (i + 1) ++ vs = cs.take i ++ v :: vs := by
        rw [List.take_set, List.take_succ_eq_append_getElem (show i < cs.length by omega), List.set_append]
        simp [show i ≤ cs.length by omega]
      rw [e] at v2
      exact v2

theorem store_step {w : World} {b : Nat} {t : TypeId} {cs : List Value} (h : Vr w b t cs) (vs : List Value) (hl : vs.length = cs.length) :
    ∃ w', setAll w b 0 vs = w' ∧ w'.heap.size = w.heap.size ∧ Chg b (b + 1) w w' ∧ Vr w' b t vs := by
  obtain ⟨s, c, v⟩ := setAll_step vs 0 w cs h (by omega)
  exact ⟨_, rfl, s, c, by simpa using v⟩

theorem lay_step (w : World) (t : TypeId) (zs vs : List Value) (hl : vs.length = zs.length) :
    ∃ w', setAll (w.alloc (.cells zs.toArray t)) w.heap.size 0 vs = w' ∧ w'.heap.size = w.heap.size + 1 ∧ Below w.heap.size w w' ∧ Vr w' w.heap.size t vs := by
  obtain ⟨w1, rfl, s1, b1, x1⟩ := alloc_step w t zs
  obtain ⟨w2, rfl, s2, c2, x2⟩ := store_step x1 vs hl
  exact ⟨_, rfl, by omega, Below.chg_ b1 c2 (Nat.le_refl _) (by omega), x2⟩

/-- what a statement leaves that lays a new variable with a value of its own: a pointer to its block -/
def OutVar {α : Type} (L : Lay α) (t : TypeId) (wa : World) (x : α) (s : Value) (wx : World) : Prop :=
  ∃ blk cs, s = .pointer (some ⟨blk, 0, none⟩) ∧ wa.heap.size ≤ blk ∧ Vr wx blk t cs ∧ OVp L wx (fun j => wa.heap.size ≤ j ∧ j < wx.heap.size) cs x ∧ Below wa.heap.size wa wx

theorem below_of_alloc {P w : World} {o : Obj} (h : Below (P.alloc o).heap.size (P.alloc o) w) : Below P.heap.size P w :=
  ((Below.refl P.heap.size P).alloc (Nat.le_refl _) o).trans (h.mono (by simp))
theorem chg_of_alloc {P w : World} {o : Obj} {row : Option Nat} {a b : Nat} (h : (P.alloc o).grownBy w row) (hr : ∀ j, row = some j → a ≤ j ∧ j < b) : Chg a b P w := by
  have hc : Chg a b (P.alloc o) w := Chg.of_grown h hr
  have hb := (Below.refl P.heap.size P).alloc (Nat.le_refl _) o
  exact ⟨hc.os.trans hb.os, hc.tape.trans hb.tape, hc.output.trans hb.output, Nat.le_trans hb.size hc.size, fun k hk hd => (hc.block k (Nat.lt_of_lt_of_le hk hb.size) hd).trans (hb.block k hk)⟩
theorem sz_alloc (w : World) (o : Obj) : (w.alloc o).heap.size = w.heap.size + 1 := by simp
theorem sz_drew (w : World) : w.drew.heap.size = w.heap.size := rfl
theorem chg_of_alloc' {P w : World} {o : Obj} {row : Option Nat} {a b : Nat} (h : (P.alloc o).grownBy w row) (hr : ∀ j, row = some j → a ≤ j ∧ j < b) : Chg a b P w := chg_of_alloc h hr
theorem agg2_inj {a b c d : Value} (h : Value.agg #[a, b] = Value.agg #[c, d]) : a = c ∧ b = d := by
  simpa using h
theorem OS.set_ {k : IntKind} {e : TypeId} {w : World} {lo hi b i : Nat} {v u : Value} {zs : List Int} (h : OS k e w lo hi v zs) (hd : hi ≤ b ∨ b < lo) : OS k e (w.setCell ⟨b, i, none⟩ u) lo hi v zs :=
  h.chg (a := b) (b := b + 1) ⟨rfl, rfl, rfl, by simp, fun k hk hd => Below.heap_setCell w ⟨b, i, none⟩ u k (by show k ≠ b; omega)⟩ (by omega)
theorem OS.alloc_ {k : IntKind} {e : TypeId} {w : World} {lo hi : Nat} {v : Value} {zs : List Int} (h : OS k e w lo hi v zs) (o : Obj) : OS k e (w.alloc o) lo hi v zs :=
  h.below ((Below.refl w.heap.size w).alloc (Nat.le_refl _) o)

end Go.Proofs.Ytopmojfcdmcmbaa
