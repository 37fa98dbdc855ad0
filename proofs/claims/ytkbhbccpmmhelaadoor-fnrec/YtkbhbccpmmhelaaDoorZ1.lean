/- Texts joined: BunA, BunB, BunR, RcN, RcU. -/
import Derived.WalkKit
import Derived.WalkSpells
import Derived.Deep.Draws
import Derived.Lib.Hide
import Derived.Test.YtkbhbccpmmhelaaDoorProg
import Derived.Deep.QuietTactic
import Derived.BigQuiet
import Derived.Maps.AppendAt
import Derived.Laws.ResultCell
import Derived.Laws.Rows
import Derived.Laws.CopyRow
import Derived.Laws.BytesArg
import Derived.Laws.Strings
import Derived.WideShapes
import Derived.Laws.RangeAny
import Derived.Laws.StructEq
import Derived.Deep.RegionHeld3
import Derived.Maps.Own
import Derived.Maps.OwnOps
import Derived.StringKeys
import Derived.Shelf.Abstract
namespace Go.Proofs.YtkbhbccpmmhelaaDoor
open Go.RowKit
def Rd (k : IntKind) (w : World) (B : Nat) (A : Option Addr) (zs : List Int) : Prop :=
  0 < zs.length → ∃ b off, A = some ⟨b, off, none⟩ ∧ b < B ∧ ∀ j, j < zs.length → w.cell? ⟨b, off + j, none⟩ = some (.int k (zs.getD j 0))
def Own (k : IntKind) (w : World) (base : Nat) (e : TypeId) (v : Value) (zs : List Int) : Prop :=
  w.ownsRow base e 1 v zs.length (zs.map (Value.int k))
section
variable {k : IntKind} {w w' : World} {B B' : Nat} {A : Option Addr} {zs : List Int}
theorem Rd.nil : Rd k w B A [] := fun h => absurd h (by simp)
theorem Rd.at_ (h : Rd k w B A zs) {j : Nat} (hj : j < zs.length) :
    ∃ b off, A = some ⟨b, off, none⟩ ∧ b < B ∧ w.cell? ⟨b, off + j, none⟩ = some (.int k (zs.getD j 0)) := by
  obtain ⟨b, off, rfl, hb, hc⟩ := h (by omega)
  exact ⟨b, off, rfl, hb, hc j hj⟩
theorem Rd.keep (h : Rd k w B A zs) (hk : ∀ p : Addr, p.block < B → w'.cell? p = w.cell? p) : Rd k w' B A zs := fun hn => by
  obtain ⟨b, off, rfl, hb, hc⟩ := h hn
  exact ⟨b, off, rfl, hb, fun j hj => (hk _ hb).trans (hc j hj)⟩
theorem Rd.more (h : Rd k w B A zs) (hB : B ≤ B') : Rd k w B' A zs := fun hn => by
  obtain ⟨b, off, rfl, hb, hc⟩ := h hn
  exact ⟨b, off, rfl, by omega, hc⟩
theorem Rd.below (h : Rd k w B A zs) (hb : Below B w w') : Rd k w' B A zs := h.keep fun _ hp => hb.cell hp
theorem Rd.drewN (h : Rd k w B A zs) (n : Nat) : Rd k (w.drewN n) B A zs := h
end
section
variable {k : IntKind} {w w' : World} {base : Nat} {e : TypeId} {v : Value} {zs : List Int}
theorem Own.form (h : Own k w base e v zs) : ∃ A c, v = .slice A zs.length c ∧ Rd k w w.heap.size A zs := by
  rcases h.2 with ⟨rfl, h0⟩ | ⟨g, cap, cur, rfl, hb, hh, hn, hm, hs, ht⟩
  · exact ⟨none, 0, by rw [h0], fun h => by omega⟩
  · refine ⟨some ⟨g, 0, none⟩, cap, rfl, fun hp => ⟨g, 0, rfl, ?_, fun j hj => ?_⟩⟩
    · rcases Nat.lt_or_ge g w.heap.size with hlt | hge
      · exact hlt
      · rw [Array.getElem?_eq_none hge] at hh; cases hh
    · have := World.ownsRow.cellAt h j (by omega)
      rw [Nat.zero_add, this]
      simp [hj]
theorem Own.rd {A : Option Addr} {n c : Nat} (h : Own k w base e (.slice A n c) zs) : Rd k w w.heap.size A zs := by
  obtain ⟨A', c', hv, hr⟩ := h.form
  simp only [Value.slice.injEq] at hv
  rw [hv.1]; exact hr
theorem Own.len {g n c : Nat} (h : Own k w base e (.slice (some ⟨g, 0, none⟩) n c) zs) : n = zs.length := by
  rcases h.2 with ⟨h', _⟩ | ⟨g', cap, cur, hv, _⟩
  · simp at h'
  · simp only [Value.slice.injEq] at hv; exact hv.2.1
theorem Own.drewN (h : Own k w base e v zs) (n : Nat) : Own k (w.drewN n) base e v zs := h
theorem Own.below {B : Nat} (h : Own k w base e v zs) (hb : Below B w w') (hB : w.heap.size ≤ B) : Own k w' base e v zs := by
  refine ⟨h.1, ?_⟩
  rcases h.2 with h2 | ⟨g, cap, cur, hv, hg, hh, r⟩
  · exact .inl h2
  · refine .inr ⟨g, cap, cur, hv, hg, ?_, r⟩
    have hlt : g < w.heap.size := by
      rcases Nat.lt_or_ge g w.heap.size with hlt | hge
      · exact hlt
      · rw [Array.getElem?_eq_none hge] at hh; cases hh
    rw [hb.block g (by omega)]; exact hh
end
theorem lt_of_cell {w : World} {p : Addr} {v : Value} (h : w.cell? p = some v) : p.block < w.heap.size := by
  rcases Nat.lt_or_ge p.block w.heap.size with hlt | hge
  · exact hlt
  · have : w.heap[p.block]? = none := Array.getElem?_eq_none hge
    simp [World.cell?, this] at h
theorem grownBy_set {w w' : World} {g : Nat} (h : w.grownBy w' (some g)) (j : Nat) (u : Value) : w.grownBy (w'.setCell ⟨g, j, none⟩ u) (some g) :=
  ⟨h.os, h.tape, h.output, by have := h.size; simpa [World.setCell] using this, fun i hi hne => (Below.heap_setCell w' ⟨g, j, none⟩ u i (fun e => hne (by simp [e]))).trans (h.block i hi hne)⟩
end Go.Proofs.YtkbhbccpmmhelaaDoor
namespace Go.Proofs.YtkbhbccpmmhelaaDoor
open Go.RowKit
theorem Tryd.info_u8 : (Tryd.prog.info? 5).map (fun i => (i.zero, i.size, i.bytes)) = some (some (.int .u8 0), 1, 1) := by kernel_rfl
end Go.Proofs.YtkbhbccpmmhelaaDoor
namespace Go.Proofs.YtkbhbccpmmhelaaDoor
open Go.RowKit
set_option linter.unusedVariables false
def RdV (w : World) (B : Nat) (A : Option Addr) (xs : List Value) : Prop :=
  0 < xs.length → ∃ b off, A = some ⟨b, off, none⟩ ∧ b < B ∧ ∀ j u, xs[j]? = some u → w.cell? ⟨b, off + j, none⟩ = some u
theorem Rd.toV {k : IntKind} {w : World} {B : Nat} {A : Option Addr} {zs : List Int} (h : Rd k w B A zs) : RdV w B A (zs.map (Value.int k)) := fun hp => by
  obtain ⟨b, off, rfl, hb, hc⟩ := h (by simpa using hp)
  refine ⟨b, off, rfl, hb, fun j u hu => ?_⟩
  have hj : j < zs.length := by
    rcases Nat.lt_or_ge j zs.length with h | h
    · exact h
    · rw [List.getElem?_eq_none (by simpa using h)] at hu; cases hu
  rw [hc j hj]
  simp [hj] at hu
  simp [hj, hu]
theorem add_mk (b off j : Nat) : (Addr.mk b off none).add j = ⟨b, off + j, none⟩ := by unfold Addr.add; split <;> simp_all
section
variable {P : Program} (w : World)
theorem run_app_nothing (base : Nat) (t ty e : TypeId) (i : TypeInfo) (ht : P.underlying t = some (.slice e)) (hi : P.info? e = some i)
    (v : Value) (n : Nat) (xs : List Value) (hown : w.ownsRow base e 1 v n xs) (c : Nat) : (Builtin.append_ #[t, t] ty #[v, .slice none 0 c]).run P w = .ok v w := by
  rcases hown.2 with ⟨rfl, rfl⟩ | ⟨g, cap, cur, rfl, _, _, hnc, _⟩
  · simp [Builtin.append_, run_underlying ht, sizeOf, typeInfo, hi, Builtin.lenOf, Builtin.firstCells]
  · simp [Builtin.append_, run_underlying ht, sizeOf, typeInfo, hi, Builtin.lenOf, Builtin.firstCells, hnc, storeCells]
theorem run_app (base : Nat) (t ty e : TypeId) (i : TypeInfo) (z : Value) (bytes : Nat) (ht : P.underlying t = some (.slice e)) (hi : P.info? e = some i) (hz : i.zero = some z)
    (hsize : i.size = 1) (hby : i.bytes = bytes) (hzs : z.cells.size = 1) (v : Value) (n : Nat) (xs : List Value) (hown : w.ownsRow base e 1 v n xs)
    (B : Nat) (A : Option Addr) (c : Nat) (ys : List Value) (hr : RdV w B A ys) (h1 : ∀ u ∈ ys, u.oneCell' = true)
    (hmax : n + ys.length ≤ 1099511627776) (hbyt : bytes ≤ 64) (hbase : base ≤ w.heap.size) :
    ∃ v' w', (Builtin.append_ #[t, t] ty #[v, .slice A ys.length c]).run P w = .ok v' w' ∧ w'.ownsRow base e 1 v' (n + ys.length) (xs ++ ys) ∧ w.grownBy w' v.ownBlock ∧
      (v'.ownBlock = v.ownBlock ∨ v'.ownBlock = some w.heap.size) := by
  rcases A with _ | a
  · have h0 : ys = [] := by
      rcases Nat.eq_zero_or_pos ys.length with h | h
      · exact List.eq_nil_of_length_eq_zero h
      · obtain ⟨b, off, h', _⟩ := hr h; cases h'
    subst h0
    exact ⟨v, w, run_app_nothing w base t ty e i ht hi v n xs hown c, by simpa using hown, World.grownBy.refl w _, .inl rfl⟩
  · have hcells : ∀ j u, ys[j]? = some u → w.cell? (a.add j) = some u := by
      intro j u hu
      have hp : 0 < ys.length := by
        rcases Nat.eq_zero_or_pos ys.length with h | h
        · rw [List.eq_nil_of_length_eq_zero h] at hu; simp at hu
        · exact h
      obtain ⟨b, off, h', _, hc⟩ := hr hp
      simp only [Option.some.injEq] at h'
      subst h'
      rw [add_mk]; exact hc j u hu
    have hb2 : (n + ys.length) * bytes ≤ 1099511627776 * 64 := Nat.mul_le_mul hmax hbyt
    obtain ⟨v', w', hrun, h2, h3, _, h5⟩ := run_append_own_at (P := P) w base t ty e i z 1 bytes ht hi hz hsize hby hzs (by omega) v n xs hown a ys.length c ys (by omega) hcells h1 (by unfold maxLen; omega) (by omega) hbase
    exact ⟨v', w', hrun, h2, h3, h5⟩
theorem wpl_app {ops : Array Oper} {rest : List Oper} {o : Oper} {a : Act} {Q : Exit → Act → World → Prop} (hgd : o.guard = none) (s x : Operand) (t : TypeId)
    (ho : o.op = .call { callee := .builtin .append, args := #[s, x], argTypes := #[t, t] })
    (base : Nat) (e : TypeId) (i : TypeInfo) (z : Value) (bytes : Nat) (ht : P.underlying t = some (.slice e)) (hi : P.info? e = some i) (hz : i.zero = some z)
    (hsize : i.size = 1) (hby : i.bytes = bytes) (hzs : z.cells.size = 1) (v : Value) (n : Nat) (xs : List Value) (hs : a.eval s = v) (hown : w.ownsRow base e 1 v n xs)
    (B : Nat) (A : Option Addr) (c m : Nat) (ys : List Value) (hx : a.eval x = .slice A m c) (hm : ys.length = m) (hr : RdV w B A ys) (h1 : ∀ u ∈ ys, u.oneCell' = true)
    (hmax : n + m ≤ 1099511627776) (hbyt : bytes ≤ 64) (hbase : base ≤ w.heap.size)
    (h : ∀ v' w', w'.ownsRow base e 1 v' (n + ys.length) (xs ++ ys) → w.grownBy w' v.ownBlock → (v'.ownBlock = v.ownBlock ∨ v'.ownBlock = some w.heap.size) → wpList P ops Q rest (a.put o.dst v') w') :
    wpList P ops Q (o :: rest) a w := by
  subst hm
  refine wpList_plain hgd fun K hK => ?_
  obtain ⟨v', w', hrun, h2, h3, h4⟩ := run_app (P := P) w base t o.type e i z bytes ht hi hz hsize hby hzs v n xs hown B A c ys hr h1 hmax hbyt hbase
  unfold Oper.wp execOp
  simp only [ho, resolve, invoke, builtin, Sem.run_bind, Sem.run_pure, Result.andThen_ok, List.map_toArray, List.map_cons, List.map_nil, hs, hx, hrun]
  exact hK _ _ (h v' w' h2 h3 h4)
theorem wpl_appI {ops : Array Oper} {rest : List Oper} {o : Oper} {a : Act} {Q : Exit → Act → World → Prop} (k : IntKind) (hgd : o.guard = none) (s x : Operand) (t : TypeId)
    (ho : o.op = .call { callee := .builtin .append, args := #[s, x], argTypes := #[t, t] })
    (base : Nat) (e : TypeId) (i : TypeInfo) (bytes : Nat) (ht : P.underlying t = some (.slice e)) (hi : P.info? e = some i) (hz : i.zero = some (.int k 0))
    (hsize : i.size = 1) (hby : i.bytes = bytes) (v : Value) (xs : List Int) (hs : a.eval s = v) (hown : Own k w base e v xs)
    (B : Nat) (A : Option Addr) (c m : Nat) (ys : List Int) (hx : a.eval x = .slice A m c) (hm : ys.length = m) (hr : Rd k w B A ys)
    (hmax : xs.length + m ≤ 1099511627776) (hbyt : bytes ≤ 64) (hbase : base ≤ w.heap.size)
    (h : ∀ v' w', Own k w' base e v' (xs ++ ys) → w.grownBy w' v.ownBlock → (v'.ownBlock = v.ownBlock ∨ v'.ownBlock = some w.heap.size) → wpList P ops Q rest (a.put o.dst v') w') :
    wpList P ops Q (o :: rest) a w :=
  wpl_app w hgd s x t ho base e i (.int k 0) bytes ht hi hz hsize hby rfl v xs.length (xs.map (Value.int k)) hs hown B A c m (ys.map (Value.int k)) hx (by simpa using hm) hr.toV
    (fun u hu => by obtain ⟨n, _, rfl⟩ := List.mem_map.1 hu; rfl) hmax hbyt hbase
    (fun v' w' h2 h3 h4 => h v' w' (by unfold Own; rw [List.length_append, List.map_append]; simpa using h2) h3 h4)
end
theorem rd_one (k : IntKind) (w : World) (t : TypeId) (x : Int) : Rd k (w.alloc (.cells #[.int k x] t)) (w.heap.size + 1) (some ⟨w.heap.size, 0, none⟩) [x] := fun _ =>
  ⟨w.heap.size, 0, rfl, by omega, fun j hj => by
    have : j = 0 := by simp at hj; omega
    subst this
    have := heap_alloc_new w (.cells #[.int k x] t)
    rw [cell_of_row _ w.heap.size (0 + 0) #[.int k x] t (0, 0) this]
    simp⟩
theorem own_none (k : IntKind) (w : World) (base : Nat) (e : TypeId) (hb : base ≤ w.heap.size) : Own k (w.alloc (.cells #[] e)) base e (.slice (some ⟨w.heap.size, 0, none⟩) 0 0) [] := by
  have := World.ownsRow_lit (base := base) (e := e) (size := 1) w #[] 0 hb (by unfold maxLen; omega) (by simp)
  simpa [Own] using this
theorem Own.alloc_ {k : IntKind} {w : World} {base : Nat} {e : TypeId} {v : Value} {zs : List Int} (h : Own k w base e v zs) (o : Obj) : Own k (w.alloc o) base e v zs := World.ownsRow.alloc h o
theorem Own.base_mono {k : IntKind} {w : World} {base base' : Nat} {e : TypeId} {v : Value} {zs : List Int} (h : Own k w base e v zs) (hb : base' ≤ base) : Own k w base' e v zs := by
  refine ⟨h.1, ?_⟩
  rcases h.2 with h2 | ⟨g, cap, cur, hv, hg, r⟩
  · exact .inl h2
  · exact .inr ⟨g, cap, cur, hv, by omega, r⟩
theorem grown_below {B : Nat} {a w w' : World} {v : Value} {k : IntKind} {base : Nat} {e : TypeId} {zs : List Int} (h : Below B a w) (ho : Own k w base e v zs) (hg : w.grownBy w' v.ownBlock) (hB : B ≤ base) (hB2 : B ≤ w.heap.size) : Below B a w' :=
  h.grown hg hB2 (fun k hk => by have := (World.ownsRow.lt ho k hk).1; omega)
theorem Own.at_ {k : IntKind} {w : World} {base : Nat} {e : TypeId} {v : Value} {zs : List Int} (h : Own k w base e v zs) : ∀ j, v.ownBlock = some j → base ≤ j ∧ j < w.heap.size := World.ownsRow.lt h
end Go.Proofs.YtkbhbccpmmhelaaDoor
namespace Go.Proofs.YtkbhbccpmmhelaaDoor
open Go.RowKit
set_option linter.unusedVariables false
def RS (k : IntKind) (w : World) (v : Value) (zs : List Int) : Prop :=
  ∃ A c, v = .slice A zs.length c ∧ zs.length ≤ c ∧ c ≤ maxLen ∧ Rd k w w.heap.size A zs
def OS (k : IntKind) (e : TypeId) (w : World) (lo hi : Nat) (v : Value) (zs : List Int) : Prop :=
  Own k w lo e v zs ∧ (∀ j, v.ownBlock = some j → j < hi) ∧ hi ≤ w.heap.size
structure Chg (a b : Nat) (w w' : World) : Prop where
  os : w'.os = w.os
  tape : w'.tape = w.tape
  output : w'.output = w.output
  size : w.heap.size ≤ w'.heap.size
  block : ∀ k, k < w.heap.size → (k < a ∨ b ≤ k) → w'.heap[k]? = w.heap[k]?
theorem Chg.below {a b B : Nat} {w w' : World} (h : Chg a b w w') (hB : B ≤ a) (hB2 : B ≤ w.heap.size) : Below B w w' :=
  ⟨h.os, h.tape, h.output, h.size, fun k hk => h.block k (by omega) (.inl (by omega))⟩
theorem Chg.of_grown {a b : Nat} {w w' : World} {row : Option Nat} (h : w.grownBy w' row) (hr : ∀ j, row = some j → a ≤ j ∧ j < b) : Chg a b w w' :=
  ⟨h.os, h.tape, h.output, h.size, fun k hk hab => h.block k hk (fun e => by have := hr k e.symm; omega)⟩
section
variable {k : IntKind} {e : TypeId} {w w' : World} {lo hi : Nat} {v : Value} {zs : List Int}
theorem RS.from_ (h : RS k w v zs) (hb : Below w.heap.size w w') : RS k w' v zs := by
  obtain ⟨A, c, hv, h1, h2, hr⟩ := h
  exact ⟨A, c, hv, h1, h2, (hr.below hb).more hb.size⟩
theorem own_form {v : Value} (h : Own k w lo e v zs) : ∃ A c, v = .slice A zs.length c ∧ zs.length ≤ c ∧ c ≤ maxLen ∧ Rd k w w.heap.size A zs := by
  obtain ⟨A, c, hv, hr⟩ := h.form
  refine ⟨A, c, hv, ?_, ?_, hr⟩
  · rcases h.2 with ⟨h1, h0⟩ | ⟨g, cap, cur, h1, _, _, hn, _⟩
    · omega
    · rw [hv] at h1; simp only [Value.slice.injEq] at h1; omega
  · rcases h.2 with ⟨h1, h0⟩ | ⟨g, cap, cur, h1, _, _, _, hn, _⟩
    · rw [hv] at h1; simp only [Value.slice.injEq] at h1; unfold maxLen; omega
    · rw [hv] at h1; simp only [Value.slice.injEq] at h1; omega
theorem OS.rd (h : OS k e w lo hi v zs) : RS k w v zs := own_form h.1
theorem OS.below (h : OS k e w lo hi v zs) (hb : Below w.heap.size w w') : OS k e w' lo hi v zs :=
  ⟨h.1.below hb (Nat.le_refl _), h.2.1, Nat.le_trans h.2.2 hb.size⟩
theorem OS.chg {a b : Nat} (h : OS k e w lo hi v zs) (hc : Chg a b w w') (hd : hi ≤ a ∨ b ≤ lo) : OS k e w' lo hi v zs := by
  refine ⟨⟨h.1.1, ?_⟩, h.2.1, Nat.le_trans h.2.2 hc.size⟩
  rcases h.1.2 with h2 | ⟨g, cap, cur, hv, hg, hh, r⟩
  · exact .inl h2
  · refine .inr ⟨g, cap, cur, hv, hg, ?_, r⟩
    have h3 := h.2.1 g (by rw [hv]; rfl)
    have h4 := h.2.2
    rw [hc.block g (by omega) (by omega)]; exact hh
theorem OS.widen {lo' hi' : Nat} (h : OS k e w lo hi v zs) (hl : lo' ≤ lo) (hh : hi ≤ hi') (hw : hi' ≤ w.heap.size) : OS k e w lo' hi' v zs :=
  ⟨h.1.base_mono hl, fun j hj => Nat.lt_of_lt_of_le (h.2.1 j hj) hh, hw⟩
theorem OS.mk_ (h : Own k w' lo e v zs) : OS k e w' lo w'.heap.size v zs := ⟨h, fun j hj => (h.at_ j hj).2, Nat.le_refl _⟩
end
def NewSB (w : World) (zs : List Int) (b : Bool) (e : Ending) (w' : World) : Prop :=
  ∃ v, e = .returned (.tuple #[v, .bool b]) ∧ OS .u8 5 w' w.heap.size w'.heap.size v zs ∧ Below w.heap.size w w'
theorem os_none (w : World) (lo : Nat) : OS .u8 5 w lo w.heap.size (.slice none 0 0) [] := OS.mk_ (World.ownsRow_nil _ _ _ _)
end Go.Proofs.YtkbhbccpmmhelaaDoor
namespace Go.Proofs.YtkbhbccpmmhelaaDoor
open Go.RowKit
set_option linter.unusedVariables false
structure ChgS (S : List Nat) (w w' : World) : Prop where
  os : w'.os = w.os
  tape : w'.tape = w.tape
  output : w'.output = w.output
  size : w.heap.size ≤ w'.heap.size
  block : ∀ k, k < w.heap.size → k ∉ S → w'.heap[k]? = w.heap[k]?
theorem ChgS.refl (S : List Nat) (w : World) : ChgS S w w := ⟨rfl, rfl, rfl, Nat.le_refl _, fun _ _ _ => rfl⟩
theorem ChgS.trans {S : List Nat} {a b c : World} (h : ChgS S a b) (k : ChgS S b c) : ChgS S a c :=
  ⟨k.os.trans h.os, k.tape.trans h.tape, k.output.trans h.output, Nat.le_trans h.size k.size, fun i hi hn => (k.block i (Nat.lt_of_lt_of_le hi h.size) hn).trans (h.block i hi hn)⟩
theorem ChgS.more {S T : List Nat} {a b : World} (h : ChgS S a b) (hs : ∀ j ∈ S, j ∈ T) : ChgS T a b :=
  ⟨h.os, h.tape, h.output, h.size, fun k hk hn => h.block k hk (fun e => hn (hs k e))⟩
theorem ChgS.of_grown {w w' : World} {row : Option Nat} (h : w.grownBy w' row) : ChgS row.toList w w' :=
  ⟨h.os, h.tape, h.output, h.size, fun k hk hn => h.block k hk (fun e => hn (by rw [← e]; simp))⟩
theorem ChgS.chg {S : List Nat} {lo hi : Nat} {w w' : World} (h : ChgS S w w') (hS : ∀ j ∈ S, lo ≤ j ∧ j < hi) : Chg lo hi w w' :=
  ⟨h.os, h.tape, h.output, h.size, fun k hk hab => h.block k hk (fun e => by have := hS k e; omega)⟩
theorem ChgS.below {S : List Nat} {B : Nat} {w w' : World} (h : ChgS S w w') (hS : ∀ j ∈ S, B ≤ j) (hB : B ≤ w.heap.size) : Below B w w' :=
  ⟨h.os, h.tape, h.output, h.size, fun k hk => h.block k (by omega) (fun e => by have := hS k e; omega)⟩
structure Lay (α : Type) where
  rd : World → Nat → List Value → α → Prop
  own : World → List Nat → List Value → α → Prop
  rd_keep : ∀ {w w' : World} {B : Nat} {cs : List Value} {x : α}, rd w B cs x → (∀ p : Addr, p.block < B → w'.cell? p = w.cell? p) → rd w' B cs x
  rd_more : ∀ {w : World} {B B' : Nat} {cs : List Value} {x : α}, rd w B cs x → B ≤ B' → rd w B' cs x
  own_rd : ∀ {w : World} {S : List Nat} {cs : List Value} {x : α}, own w S cs x → rd w w.heap.size cs x
  own_lt : ∀ {w : World} {S : List Nat} {cs : List Value} {x : α}, own w S cs x → ∀ j ∈ S, j < w.heap.size
  own_keep : ∀ {w w' : World} {S : List Nat} {cs : List Value} {x : α}, own w S cs x → (∀ j ∈ S, w'.heap[j]? = w.heap[j]?) → own w' S cs x
def oneL {α : Type} (f : α → Value) : Lay α where
  rd _ _ cs x := cs = [f x]
  own _ S cs x := cs = [f x] ∧ S = []
  rd_keep h _ := h
  rd_more h _ := h
  own_rd h := h.1
  own_lt h j hj := by rw [h.2] at hj; cases hj
  own_keep h _ := h
def intL (k : IntKind) : Lay Int := oneL (Value.int k)
def consL {α β : Type} (L : Lay α) (M : Lay β) : Lay (α × β) where
  rd w B cs x := ∃ c1 c2, cs = c1 ++ c2 ∧ L.rd w B c1 x.1 ∧ M.rd w B c2 x.2
  own w S cs x := ∃ c1 c2 S1 S2, cs = c1 ++ c2 ∧ S = S1 ++ S2 ∧ L.own w S1 c1 x.1 ∧ M.own w S2 c2 x.2
  rd_keep := by
    rintro w w' B cs x ⟨c1, c2, rfl, h1, h2⟩ hk
    exact ⟨c1, c2, rfl, L.rd_keep h1 hk, M.rd_keep h2 hk⟩
  rd_more := by
    rintro w B B' cs x ⟨c1, c2, rfl, h1, h2⟩ hB
    exact ⟨c1, c2, rfl, L.rd_more h1 hB, M.rd_more h2 hB⟩
  own_rd := by
    rintro w S cs x ⟨c1, c2, S1, S2, rfl, rfl, h1, h2⟩
    exact ⟨c1, c2, rfl, L.own_rd h1, M.own_rd h2⟩
  own_lt := by
    rintro w S cs x ⟨c1, c2, S1, S2, rfl, rfl, h1, h2⟩ j hj
    rcases List.mem_append.1 hj with h | h
    · exact L.own_lt h1 j h
    · exact M.own_lt h2 j h
  own_keep := by
    rintro w w' S cs x ⟨c1, c2, S1, S2, rfl, rfl, h1, h2⟩ hk
    exact ⟨c1, c2, S1, S2, rfl, rfl, L.own_keep h1 fun j hj => hk j (List.mem_append.2 (.inl hj)), M.own_keep h2 fun j hj => hk j (List.mem_append.2 (.inr hj))⟩
def isoL {α β : Type} (f : β → α) (L : Lay α) : Lay β where
  rd w B cs y := L.rd w B cs (f y)
  own w S cs y := L.own w S cs (f y)
  rd_keep h hk := L.rd_keep h hk
  rd_more h hB := L.rd_more h hB
  own_rd h := L.own_rd h
  own_lt h := L.own_lt h
  own_keep h hk := L.own_keep h hk
def valOf : List Value → Value
  | [v] => v
  | cs => .agg cs.toArray
def RV {α : Type} (L : Lay α) (w : World) (v : Value) (x : α) : Prop := ∃ cs, v = valOf cs ∧ L.rd w w.heap.size cs x
def OV {α : Type} (L : Lay α) (w : World) (lo hi : Nat) (v : Value) (x : α) : Prop :=
  ∃ cs S, v = valOf cs ∧ L.own w S cs x ∧ S.Nodup ∧ (∀ j ∈ S, lo ≤ j ∧ j < hi) ∧ hi ≤ w.heap.size
section
variable {α β : Type} {L : Lay α} {M : Lay β} {w w' : World} {lo hi : Nat} {v : Value} {x : α} {S : List Nat} {cs : List Value}
theorem Lay.rd_below {B : Nat} (h : L.rd w B cs x) (hb : Below B w w') : L.rd w' B cs x := L.rd_keep h fun _ hp => hb.cell hp
theorem Lay.rd_from (h : L.rd w w.heap.size cs x) (hb : Below w.heap.size w w') : L.rd w' w'.heap.size cs x := L.rd_more (L.rd_below h hb) hb.size
theorem Lay.own_below (h : L.own w S cs x) (hb : Below w.heap.size w w') : L.own w' S cs x := L.own_keep h fun j hj => hb.block j (L.own_lt h j hj)
theorem RV.from_ (h : RV L w v x) (hb : Below w.heap.size w w') : RV L w' v x := by
  obtain ⟨cs, rfl, h⟩ := h
  exact ⟨cs, rfl, L.rd_from h hb⟩
theorem OV.rd (h : OV L w lo hi v x) : RV L w v x := by
  obtain ⟨cs, S, rfl, ho, _⟩ := h
  exact ⟨cs, rfl, L.own_rd ho⟩
theorem OV.below (h : OV L w lo hi v x) (hb : Below w.heap.size w w') : OV L w' lo hi v x := by
  obtain ⟨cs, S, rfl, ho, hn, hS, hh⟩ := h
  exact ⟨cs, S, rfl, L.own_below ho hb, hn, hS, Nat.le_trans hh hb.size⟩
theorem OV.chg {a b : Nat} (h : OV L w lo hi v x) (hc : Chg a b w w') (hd : hi ≤ a ∨ b ≤ lo) : OV L w' lo hi v x := by
  obtain ⟨cs, S, rfl, ho, hn, hS, hh⟩ := h
  exact ⟨cs, S, rfl, L.own_keep ho fun j hj => hc.block j (L.own_lt ho j hj) (by have := hS j hj; omega), hn, hS, Nat.le_trans hh hc.size⟩
end
def NewVB {α : Type} (L : Lay α) (w : World) (x : α) (b : Bool) (e : Ending) (w' : World) : Prop :=
  ∃ v, e = .returned (.tuple #[v, .bool b]) ∧ OV L w' w.heap.size w'.heap.size v x ∧ Below w.heap.size w w'
def NewVIB {α : Type} (L : Lay α) (w : World) (x : α) (n : Int) (b : Bool) (e : Ending) (w' : World) : Prop :=
  ∃ v, e = .returned (.tuple #[v, .int .i64 n, .bool b]) ∧ OV L w' w.heap.size w'.heap.size v x ∧ Below w.heap.size w w'
def OVp {α : Type} (L : Lay α) (w : World) (p : Nat → Prop) (cs : List Value) (x : α) : Prop := ∃ S, L.own w S cs x ∧ S.Nodup ∧ ∀ j ∈ S, p j
section
variable {α β : Type} {L : Lay α} {M : Lay β} {w w' : World} {lo hi : Nat} {v : Value} {x : α} {y : β} {c1 c2 cs : List Value} {p q : Nat → Prop}
theorem OVp.cons (h1 : OVp L w p c1 x) (h2 : OVp M w q c2 y) (hd : ∀ j, p j → q j → False) : OVp (consL L M) w (fun j => p j ∨ q j) (c1 ++ c2) (x, y) := by
  obtain ⟨S1, o1, n1, b1⟩ := h1
  obtain ⟨S2, o2, n2, b2⟩ := h2
  refine ⟨S1 ++ S2, ⟨c1, c2, S1, S2, rfl, rfl, o1, o2⟩, ?_, ?_⟩
  · rw [List.nodup_append]
    exact ⟨n1, n2, fun a ha b hb e => hd a (b1 a ha) (e ▸ b2 b hb)⟩
  · intro j hj
    rcases List.mem_append.1 hj with h | h
    · exact .inl (b1 j h)
    · exact .inr (b2 j h)
theorem OVp.cons1 {f : α → Value} (h2 : OVp M w q c2 y) : OVp (consL (oneL f) M) w q ([f x] ++ c2) (x, y) := by
  obtain ⟨S2, o2, n2, b2⟩ := h2
  exact ⟨S2, ⟨[f x], c2, [], S2, rfl, rfl, ⟨rfl, rfl⟩, o2⟩, n2, b2⟩
theorem OVp.one {f : α → Value} : OVp (oneL f) w (fun _ => False) [f x] x := ⟨[], ⟨rfl, rfl⟩, List.nodup_nil, fun _ h => by cases h⟩
theorem OVp.ov (h : OVp L w p cs x) (hp : ∀ j, p j → lo ≤ j ∧ j < hi) (hh : hi ≤ w.heap.size) : OV L w lo hi (valOf cs) x := by
  obtain ⟨S, ho, hn, hS⟩ := h
  exact ⟨cs, S, rfl, ho, hn, fun j hj => hp j (hS j hj), hh⟩
theorem OVp.imp (h : OVp L w p cs x) (hp : ∀ j, p j → q j) : OVp L w q cs x := by
  obtain ⟨S, ho, hn, hS⟩ := h
  exact ⟨S, ho, hn, fun j hj => hp j (hS j hj)⟩
theorem OVp.rd (h : OVp L w p cs x) : L.rd w w.heap.size cs x := by
  obtain ⟨S, ho, _, _⟩ := h
  exact L.own_rd ho
theorem OVp.iso {f : β → α} {y : β} (h : OVp L w p cs (f y)) : OVp (isoL f L) w p cs y := h
theorem OV.widen {lo' hi' : Nat} (h : OV L w lo hi v x) (hl : lo' ≤ lo) (hh : hi ≤ hi') (hw : hi' ≤ w.heap.size) : OV L w lo' hi' v x := by
  obtain ⟨cs, S, e, ho, hn, hS, _⟩ := h
  exact ⟨cs, S, e, ho, hn, fun j hj => by have := hS j hj; omega, hw⟩
end
theorem nodup_app {S T : List Nat} (h : (S ++ T).Nodup) : S.Nodup ∧ T.Nodup ∧ (∀ j ∈ S, j ∉ T) ∧ (∀ j ∈ T, j ∉ S) := by
  rw [List.nodup_append] at h
  exact ⟨h.1, h.2.1, fun j hj hj' => h.2.2 j hj j hj' rfl, fun j hj hj' => h.2.2 j hj' j hj rfl⟩
end Go.Proofs.YtkbhbccpmmhelaaDoor
namespace Go.Proofs.YtkbhbccpmmhelaaDoor
open Go.RowKit
set_option linter.unusedVariables false
def Vr (w : World) (b : Nat) (t : TypeId) (cs : List Value) : Prop := w.heap[b]? = some (.cells cs.toArray t (0, 0))
section
variable {w w' : World} {b b' : Nat} {t : TypeId} {cs : List Value} {v : Value} {i : Nat}
theorem Vr.lt (h : Vr w b t cs) : b < w.heap.size := by
  rcases Nat.lt_or_ge b w.heap.size with hlt | hge
  · exact hlt
  · unfold Vr at h; rw [Array.getElem?_eq_none hge] at h; cases h
theorem Vr.cell (h : Vr w b t cs) (hi : cs[i]? = some v) : w.cell? ⟨b, i, none⟩ = some v := by
  unfold Vr at h
  rw [cell_of_row w b i cs.toArray t (0, 0) h]
  simpa using hi
theorem Vr.frozen (h : Vr w b t cs) (i : Nat) : w.frozen? ⟨b, i, none⟩ = false := by
  unfold Vr at h
  simp [World.frozen?, h]
theorem Vr.same (h : Vr w b t cs) (hi : cs[i]? = some v) : w.setCell ⟨b, i, none⟩ v = w := by
  unfold Vr at h
  rw [setCell_eq_setRow w b i cs.toArray t (0, 0) v h]
  have e : cs.toArray.setIfInBounds i v = cs.toArray := by
    apply Array.ext_getElem?
    intro j
    rw [Array.getElem?_setIfInBounds]
    by_cases hj : i = j
    · subst hj
      have hl : i < cs.length := by
        rcases Nat.lt_or_ge i cs.length with h | h
        · exact h
        · rw [List.getElem?_eq_none h] at hi; cases hi
      rw [List.getElem?_eq_getElem hl] at hi
      simp [hl, Option.some.inj hi]
    · simp [hj]
  rw [e]
  exact setRow_self w b cs.toArray t (0, 0) h
theorem Vr.new (w : World) (t : TypeId) (cs : List Value) : Vr (w.alloc (.cells cs.toArray t)) w.heap.size t cs := heap_alloc_new w _
theorem Vr.alloc (h : Vr w b t cs) (o : Obj) : Vr (w.alloc o) b t cs := by
  have hl := h.lt
  unfold Vr at h ⊢
  rw [show (w.alloc o).heap[b]? = w.heap[b]? from ((Below.refl w.heap.size w).alloc (Nat.le_refl _) o).block b hl]
  exact h
theorem Vr.below {B : Nat} (h : Vr w b t cs) (hb : Below B w w') (hB : b < B) : Vr w' b t cs := by
  unfold Vr at h ⊢; rw [hb.block b hB]; exact h
theorem Vr.from_ (h : Vr w b t cs) (hb : Below w.heap.size w w') : Vr w' b t cs := h.below hb h.lt
theorem Vr.set (h : Vr w b t cs) (i : Nat) (v : Value) : Vr (w.setCell ⟨b, i, none⟩ v) b t (cs.set i v) := by
  unfold Vr at h ⊢
  rw [setCell_eq_setRow w b i cs.toArray t (0, 0) v h, setRow_heap w b _ _ t _ h]
  simp
theorem Vr.grown {row : Option Nat} (h : Vr w b t cs) (hg : w.grownBy w' row) (hne : row ≠ some b) : Vr w' b t cs := by
  have hl := h.lt
  unfold Vr at h ⊢
  rw [hg.block b hl (fun e => hne e.symm)]
  exact h
theorem Vr.chg {a c : Nat} (h : Vr w b t cs) (hc : Chg a c w w') (hd : b < a ∨ c ≤ b) : Vr w' b t cs := by
  have hl := h.lt
  unfold Vr at h ⊢
  rw [hc.block b hl hd]
  exact h
end
theorem frame1 (w : World) (t0 : TypeId) (c0 : List Value) : ∃ wa, w.alloc (.cells c0.toArray t0) = wa ∧ Below w.heap.size w wa ∧ wa.heap.size = w.heap.size + 1 ∧ Vr wa w.heap.size t0 c0 :=
  ⟨_, rfl, (Below.refl _ _).alloc (Nat.le_refl _) _, by simp, Vr.new w t0 c0⟩
theorem frame2 (w : World) (t0 : TypeId) (c0 : List Value) (t1 : TypeId) (c1 : List Value) : ∃ wa, (w.alloc (.cells c0.toArray t0)).alloc (.cells c1.toArray t1) = wa ∧ Below w.heap.size w wa ∧ wa.heap.size = w.heap.size + 1 + 1 ∧ Vr wa w.heap.size t0 c0 ∧ Vr wa (w.heap.size + 1) t1 c1 := by
  obtain ⟨wa, rfl, h1, h2, h3⟩ := frame1 w t0 c0
  have h4 := Vr.new (w.alloc (.cells c0.toArray t0)) t1 c1
  rw [h2] at h4
  exact ⟨_, rfl, h1.alloc h1.size _, by simp, h3.alloc _, h4⟩
theorem set_step {w : World} {b : Nat} {t : TypeId} {cs : List Value} (h : Vr w b t cs) (i : Nat) (v : Value) :
    ∃ w', w.setCell ⟨b, i, none⟩ v = w' ∧ w'.heap.size = w.heap.size ∧ Chg b (b + 1) w w' ∧ Vr w' b t (cs.set i v) :=
  ⟨_, rfl, by simp, ⟨rfl, rfl, rfl, by simp, fun k hk hd => Below.heap_setCell w ⟨b, i, none⟩ v k (by show k ≠ b; omega)⟩, h.set i v⟩
theorem alloc_step (w : World) (t : TypeId) (cs : List Value) :
    ∃ w', w.alloc (.cells cs.toArray t) = w' ∧ w'.heap.size = w.heap.size + 1 ∧ Below w.heap.size w w' ∧ Vr w' w.heap.size t cs := by
  obtain ⟨wa, h1, h2, h3, h4⟩ := frame1 w t cs
  exact ⟨wa, h1, h3, h2, h4⟩
theorem Below.chg_ {B a b : Nat} {w0 w w' : World} (h : Below B w0 w) (hc : Chg a b w w') (hB : B ≤ a) (hB2 : B ≤ w.heap.size) : Below B w0 w' := h.trans (hc.below hB hB2)
theorem ret_cell {P : Program} {fn : Func} {R : Ending → World → Prop} {a : Act} {w : World} {p : Tmp} {ty : TypeId} {b : Nat} {t : TypeId} {cs : List Value} {fs : Array Field} (h : fn.results = #[.cell p ty])
    (hp : a.tmps.getD p undef = .pointer (some ⟨b, 0, none⟩)) (hg : Vr w b t cs) (hu : P.underlying ty = some (.struct fs)) (hi : (P.info? ty).map (·.size) = some cs.length) (hdf : a.defers = [])
    (hR : R (.returned (.agg cs.toArray)) w) : bodyPost P fn R .ret a w :=
  bodyPost_ret (results_cell_row h a.tmps w b t cs.toArray (0, 0) _ hp hg hu rfl (by simpa using hi)) hdf hR
theorem ret_cell_tmp {P : Program} {fn : Func} {R : Ending → World → Prop} {a : Act} {w : World} {p u : Tmp} {ty : TypeId} {b : Nat} {t : TypeId} {cs : List Value} {fs : Array Field} (h : fn.results = #[.cell p ty, .tmp u])
    (hp : a.tmps.getD p undef = .pointer (some ⟨b, 0, none⟩)) (hg : Vr w b t cs) (hu : P.underlying ty = some (.struct fs)) (hi : (P.info? ty).map (·.size) = some cs.length) (hdf : a.defers = [])
    (hR : R (.returned (.tuple #[.agg cs.toArray, a.tmps.getD u undef])) w) : bodyPost P fn R .ret a w := by
  refine bodyPost_ret (v := .tuple #[.agg cs.toArray, a.tmps.getD u undef]) ?_ hdf hR
  have hl := run_loadVar_row (P := P) w b t ty cs.toArray (0, 0) _ hg hu rfl (by simpa using hi)
  rw [results_cell_tmp h, hp]
  simp [asAddr, hl]
theorem results_cell_tmp2 {fn : Func} {p u u' : Tmp} {ty : TypeId} (h : fn.results = #[.cell p ty, .tmp u, .tmp u']) (tmps : Array Value) (P : Program) (w : World) :
    (results fn tmps).run P w =
      ((asAddr (tmps.getD p undef)).run P w).andThen fun a w₁ => ((loadVar ty a).run P w₁).andThen fun v w₂ => .ok (.tuple #[v, tmps.getD u undef, tmps.getD u' undef]) w₂ := by
  simp only [results, h]
  simp [Sem.run_bind, Result.andThen]
theorem ret_cell_tmp2 {P : Program} {fn : Func} {R : Ending → World → Prop} {a : Act} {w : World} {p u u' : Tmp} {ty : TypeId} {b : Nat} {t : TypeId} {cs : List Value} {fs : Array Field} (h : fn.results = #[.cell p ty, .tmp u, .tmp u'])
    (hp : a.tmps.getD p undef = .pointer (some ⟨b, 0, none⟩)) (hg : Vr w b t cs) (hu : P.underlying ty = some (.struct fs)) (hi : (P.info? ty).map (·.size) = some cs.length) (hdf : a.defers = [])
    (hR : R (.returned (.tuple #[.agg cs.toArray, a.tmps.getD u undef, a.tmps.getD u' undef])) w) : bodyPost P fn R .ret a w := by
  refine bodyPost_ret (v := .tuple #[.agg cs.toArray, a.tmps.getD u undef, a.tmps.getD u' undef]) ?_ hdf hR
  have hl := run_loadVar_row (P := P) w b t ty cs.toArray (0, 0) _ hg hu rfl (by simpa using hi)
  rw [results_cell_tmp2 h, hp]
  simp [asAddr, hl]
theorem Chg.refl (a b : Nat) (w : World) : Chg a b w w := ⟨rfl, rfl, rfl, Nat.le_refl _, fun _ _ _ => rfl⟩
theorem Chg.then_below {a b : Nat} {w w1 w2 : World} (h : Chg a b w w1) (k : Below w1.heap.size w1 w2) : Chg a b w w2 :=
  ⟨k.os.trans h.os, k.tape.trans h.tape, k.output.trans h.output, Nat.le_trans h.size k.size, fun i hi hd => (k.block i (Nat.lt_of_lt_of_le hi h.size)).trans (h.block i hi hd)⟩
theorem Chg.then_same {a b : Nat} {w w1 w2 : World} (h : Chg a b w w1) (k : Chg a b w1 w2) : Chg a b w w2 :=
  ⟨k.os.trans h.os, k.tape.trans h.tape, k.output.trans h.output, Nat.le_trans h.size k.size, fun i hi hd => (k.block i (Nat.lt_of_lt_of_le hi h.size) hd).trans (h.block i hi hd)⟩
theorem Chg.then_new {a b c d : Nat} {w w1 w2 : World} (h : Chg a b w w1) (k : Chg c d w1 w2) (hc : w.heap.size ≤ c) : Chg a b w w2 :=
  ⟨k.os.trans h.os, k.tape.trans h.tape, k.output.trans h.output, Nat.le_trans h.size k.size, fun i hi hd => (k.block i (Nat.lt_of_lt_of_le hi h.size) (.inl (by omega))).trans (h.block i hi hd)⟩
def setAll (w : World) (b : Nat) : Nat → List Value → World
  | _, [] => w
  | i, v :: vs => setAll (w.setCell ⟨b, i, none⟩ v) b (i + 1) vs
theorem setAll_step {b : Nat} {t : TypeId} : ∀ (vs : List Value) (i : Nat) (w : World) (cs : List Value), Vr w b t cs → i + vs.length = cs.length →
    (setAll w b i vs).heap.size = w.heap.size ∧ Chg b (b + 1) w (setAll w b i vs) ∧ Vr (setAll w b i vs) b t (cs.take i ++ vs)
  | [], i, w, cs, h, hl => ⟨rfl, ⟨rfl, rfl, rfl, Nat.le_refl _, fun _ _ _ => rfl⟩, by
      simp only [List.length_nil, Nat.add_zero] at hl
      simp only [setAll, List.append_nil]
      rw [List.take_of_length_le (by omega)]; exact h⟩
  | v :: vs, i, w, cs, h, hl => by
      simp only [List.length_cons] at hl
      obtain ⟨w', rfl, s1, c1, v1⟩ := set_step h i v
      obtain ⟨s2, c2, v2⟩ := setAll_step vs (i + 1) (w.setCell ⟨b, i, none⟩ v) (cs.set i v) v1 (by simp; omega)
      refine ⟨s2.trans s1, ⟨c2.os.trans c1.os, c2.tape.trans c1.tape, c2.output.trans c1.output, Nat.le_trans c1.size c2.size, fun k hk hd => (c2.block k (by omega) hd).trans (c1.block k hk hd)⟩, ?_⟩
      have e : (cs.set i v).take (i + 1) ++ vs = cs.take i ++ v :: vs := by
        rw [List.take_set, List.take_succ_eq_append_getElem (show i < cs.length by omega), List.set_append]
        simp [show i ≤ cs.length by omega]
      rw [e] at v2
      exact v2
theorem store_step {w : World} {b : Nat} {t : TypeId} {cs : List Value} (h : Vr w b t cs) (vs : List Value) (hl : vs.length = cs.length) :
    ∃ w', setAll w b 0 vs = w' ∧ w'.heap.size = w.heap.size ∧ Chg b (b + 1) w w' ∧ Vr w' b t vs := by
  obtain ⟨s, c, v⟩ := setAll_step vs 0 w cs h (by omega)
  exact ⟨_, rfl, s, c, by simpa using v⟩
theorem OS.alloc_ {k : IntKind} {e : TypeId} {w : World} {lo hi : Nat} {v : Value} {zs : List Int} (h : OS k e w lo hi v zs) (o : Obj) : OS k e (w.alloc o) lo hi v zs :=
  h.below ((Below.refl w.heap.size w).alloc (Nat.le_refl _) o)
end Go.Proofs.YtkbhbccpmmhelaaDoor
namespace Go.Proofs.YtkbhbccpmmhelaaDoor
def p128 (j : Nat) : Int := 128 ^ j
theorem p128_zero : p128 0 = 1 := rfl
theorem p128_succ (j : Nat) : p128 (j + 1) = p128 j * 128 := by unfold p128; rw [Int.pow_succ]
theorem p128_pos (j : Nat) : 0 < p128 j := by
  induction j with
  | zero => decide
  | succ j ih => rw [p128_succ]; omega
theorem p128_le (j : Nat) (h : j ≤ 8) : p128 j ≤ 72057594037927936 := by
  have : j = 0 ∨ j = 1 ∨ j = 2 ∨ j = 3 ∨ j = 4 ∨ j = 5 ∨ j = 6 ∨ j = 7 ∨ j = 8 := by omega
  rcases this with rfl | rfl | rfl | rfl | rfl | rfl | rfl | rfl | rfl <;> decide
def gnum : List Int → Nat → Int → Option (Int × Nat)
  | [], _, _ => none
  | x :: r, i, n =>
    if i < 8 then
      if x < 128 then (if n + x % 128 * p128 i > 1125899906842624 ∨ (x = 0 ∧ 0 < i) then none else some (n + x % 128 * p128 i, i + 1))
      else gnum r (i + 1) (n + x % 128 * p128 i)
    else none
def getNum (zs : List Int) (at_ : Int) : Option (Int × Nat) := if at_ < 0 then none else gnum (zs.drop at_.toNat) 0 0
def getVal (zs : List Int) (at_ : Int) : Value :=
  match getNum zs at_ with
  | some (n, c) => .tuple #[.int .i64 n, .int .i64 (at_ + c), .bool true]
  | none => .tuple #[.int .i64 0, .int .i64 0, .bool false]
theorem getVal_none {zs : List Int} {at_ : Int} (h : getNum zs at_ = none) : getVal zs at_ = .tuple #[.int .i64 0, .int .i64 0, .bool false] := by
  unfold getVal; rw [h]
theorem getVal_some {zs : List Int} {at_ n : Int} {c : Nat} (h : getNum zs at_ = some (n, c)) : getVal zs at_ = .tuple #[.int .i64 n, .int .i64 (at_ + c), .bool true] := by
  unfold getVal; rw [h]
theorem getNum_at (zs : List Int) (t : Nat) : getNum zs (t : Int) = gnum (zs.drop t) 0 0 := by
  unfold getNum; rw [if_neg (by omega)]; simp
theorem drop_at (zs : List Int) (k : Nat) (h : k < zs.length) : zs.drop k = zs.getD k 0 :: zs.drop (k + 1) := by
  rw [List.drop_eq_getElem_cons h]; simp [h]
structure Getting (zs : List Int) (t j : Nat) (n : Int) : Prop where
  j8 : j ≤ 8
  lo : 0 ≤ n
  hi : n < p128 j
  eq : gnum (zs.drop t) 0 0 = gnum (zs.drop (t + j)) j n
theorem Getting.start (zs : List Int) (t : Nat) : Getting zs t 0 0 := ⟨by omega, by omega, by decide, rfl⟩
section
variable {zs : List Int} {t j : Nat} {n : Int} (h : Getting zs t j n)
include h
theorem Getting.stop (hs : ¬ (j < 8 ∧ t + j < zs.length)) : getNum zs (t : Int) = none := by
  rw [getNum_at, h.eq]
  by_cases h8 : j < 8
  · have : zs.drop (t + j) = [] := List.drop_eq_nil_of_le (by omega)
    rw [this]; rfl
  · rcases hl : zs.drop (t + j) with _ | ⟨x, r⟩
    · rfl
    · unfold gnum; rw [if_neg h8]
theorem Getting.step {x : Int} (h8 : j < 8) (hl : t + j < zs.length) (hx : x = zs.getD (t + j) 0) :
    gnum (zs.drop t) 0 0 = (if x < 128 then (if n + x % 128 * p128 j > 1125899906842624 ∨ (x = 0 ∧ 0 < j) then none else some (n + x % 128 * p128 j, j + 1))
      else gnum (zs.drop (t + (j + 1))) (j + 1) (n + x % 128 * p128 j)) := by
  rw [h.eq, drop_at zs (t + j) hl, ← hx]
  conv => lhs; unfold gnum
  rw [if_pos h8]
  rfl
theorem Getting.bad {x : Int} (h8 : j < 8) (hl : t + j < zs.length) (hx : x = zs.getD (t + j) 0) (hlt : x < 128) (hb : n + x % 128 * p128 j > 1125899906842624 ∨ (x = 0 ∧ 0 < j)) : getNum zs (t : Int) = none := by
  rw [getNum_at, h.step h8 hl hx, if_pos hlt, if_pos hb]
theorem Getting.good {x : Int} (h8 : j < 8) (hl : t + j < zs.length) (hx : x = zs.getD (t + j) 0) (hlt : x < 128) (hb : ¬ (n + x % 128 * p128 j > 1125899906842624 ∨ (x = 0 ∧ 0 < j))) :
    getNum zs (t : Int) = some (n + x % 128 * p128 j, j + 1) := by
  rw [getNum_at, h.step h8 hl hx, if_pos hlt, if_neg hb]
theorem Getting.prod {x : Int} : 0 ≤ x % 128 * p128 j ∧ n + x % 128 * p128 j < p128 (j + 1) := by
  have h0 : 0 ≤ x % 128 := Int.emod_nonneg _ (by omega)
  have h1 : x % 128 ≤ 127 := by have := Int.emod_lt_of_pos x (show (0 : Int) < 128 by omega); omega
  have hp := p128_pos j
  have hm : x % 128 * p128 j ≤ 127 * p128 j := Int.mul_le_mul_of_nonneg_right h1 (by omega)
  have h2 : 0 ≤ x % 128 * p128 j := Int.mul_nonneg h0 (by omega)
  have := h.hi
  rw [p128_succ]
  omega
theorem Getting.more {x : Int} (h8 : j < 8) (hl : t + j < zs.length) (hx : x = zs.getD (t + j) 0) (hge : ¬ x < 128) : Getting zs t (j + 1) (n + x % 128 * p128 j) := by
  have hp := h.prod (x := x)
  exact ⟨by omega, by have := h.lo; omega, hp.2, by rw [h.step h8 hl hx, if_neg hge]⟩
end
end Go.Proofs.YtkbhbccpmmhelaaDoor
namespace Go.Proofs.YtkbhbccpmmhelaaDoor
theorem ofInt_nat (n a : Nat) (h : a < 2 ^ n) : (BitVec.ofInt n (a : Int)).toNat = a := by
  rw [BitVec.ofInt_natCast, BitVec.toNat_ofNat]; exact Nat.mod_eq_of_lt h
theorem bits_and_u8 (a b : Nat) (ha : a < 256) (hb : b < 256) : bits .and .u8 (a : Int) (b : Int) = ((a &&& b : Nat) : Int) := by
  have hx : a &&& b < 2 ^ 8 := Nat.and_lt_two_pow _ (by omega)
  show IntKind.u8.wrap ((BitVec.ofInt 8 (a : Int) &&& BitVec.ofInt 8 (b : Int)).toNat : Int) = _
  rw [BitVec.toNat_and, ofInt_nat 8 a ha, ofInt_nat 8 b hb, IntKind.wrap_u8]
  omega
theorem bits_or_i64 (a b : Nat) (ha : a < 9223372036854775808) (hb : b < 9223372036854775808) : bits .or .i64 (a : Int) (b : Int) = ((a ||| b : Nat) : Int) := by
  have hx : a ||| b < 2 ^ 63 := Nat.or_lt_two_pow (by omega) (by omega)
  show IntKind.i64.wrap ((BitVec.ofInt 64 (a : Int) ||| BitVec.ofInt 64 (b : Int)).toNat : Int) = _
  rw [BitVec.toNat_or, ofInt_nat 64 a (by omega), ofInt_nat 64 b (by omega), IntKind.wrap_i64]
  omega
theorem and127 (x : Int) (h0 : 0 ≤ x) (h1 : x ≤ 255) : bits .and .u8 x 127 = x % 128 := by
  obtain ⟨a, rfl⟩ : ∃ a : Nat, x = (a : Int) := ⟨x.toNat, by omega⟩
  have := bits_and_u8 a 127 (by omega) (by omega)
  rw [show ((127 : Nat) : Int) = 127 from rfl] at this
  rw [this, show (127 : Nat) = 2 ^ 7 - 1 from rfl, Nat.and_two_pow_sub_one_eq_mod]
  omega
theorem or_shift (n y : Int) (j : Nat) (hj : j ≤ 7) (hn0 : 0 ≤ n) (hn : n < 128 ^ j) (hy0 : 0 ≤ y) (hy : y ≤ 127) :
    bits .or .i64 n (y * 2 ^ (7 * j)) = n + y * 128 ^ j := by
  obtain ⟨a, rfl⟩ : ∃ a : Nat, n = (a : Int) := ⟨n.toNat, by omega⟩
  obtain ⟨b, rfl⟩ : ∃ b : Nat, y = (b : Int) := ⟨y.toNat, by omega⟩
  have e1 : (2 : Int) ^ (7 * j) = ((2 ^ (7 * j) : Nat) : Int) := by simp
  have e2 : (128 : Int) ^ j = ((2 ^ (7 * j) : Nat) : Int) := by rw [Nat.pow_mul]; simp
  rw [e2] at hn ⊢
  rw [e1, ← Int.natCast_mul]
  have hp : 2 ^ (7 * j) ≤ 2 ^ 49 := Nat.pow_le_pow_right (by omega) (by omega)
  have hb : b * 2 ^ (7 * j) ≤ 127 * 2 ^ 49 := Nat.mul_le_mul (by omega) hp
  rw [bits_or_i64 a _ (by omega) (by omega)]
  have := Nat.two_pow_add_eq_or_of_lt (i := 7 * j) (b := a) (by omega) b
  rw [Nat.or_comm, Nat.mul_comm b, ← this]
  simp
  omega
theorem pow_mul_le (y : Int) (j : Nat) (hj : j ≤ 7) (hy0 : 0 ≤ y) (hy : y ≤ 127) : 0 ≤ y * 2 ^ (7 * j) ∧ y * 2 ^ (7 * j) ≤ 72057594037927936 := by
  obtain ⟨b, rfl⟩ : ∃ b : Nat, y = (b : Int) := ⟨y.toNat, by omega⟩
  have e1 : (2 : Int) ^ (7 * j) = ((2 ^ (7 * j) : Nat) : Int) := by simp
  rw [e1, ← Int.natCast_mul]
  have hp : 2 ^ (7 * j) ≤ 2 ^ 49 := Nat.pow_le_pow_right (by omega) (by omega)
  have hb : b * 2 ^ (7 * j) ≤ 127 * 2 ^ 49 := Nat.mul_le_mul (by omega) hp
  omega
end Go.Proofs.YtkbhbccpmmhelaaDoor
namespace Go.Proofs.YtkbhbccpmmhelaaDoor
def numB (n : Int) : Bool := decide (0 ≤ n) && decide (n ≤ 1125899906842624)
theorem numB_true {n : Int} : numB n = true ↔ 0 ≤ n ∧ n ≤ 1125899906842624 := by simp [numB]
theorem numB_false {n : Int} : numB n = false ↔ ¬ (0 ≤ n ∧ n ≤ 1125899906842624) := by rw [← numB_true]; simp
def enc (n : Nat) : List Int := if h : 127 < n then (128 + (n % 128 : Nat) : Int) :: enc (n / 128) else [(n : Int)]
termination_by n
decreasing_by omega
theorem enc_big (n : Nat) (h : 127 < n) : enc n = (128 + (n % 128 : Nat) : Int) :: enc (n / 128) := by rw [enc, dif_pos h]
theorem enc_small (n : Nat) (h : ¬ 127 < n) : enc n = [(n : Int)] := by rw [enc, dif_neg h]
theorem enc_len (k n : Nat) (h : n < 128 ^ (k + 1)) : (enc n).length ≤ k + 1 := by
  induction k generalizing n with
  | zero => rw [enc_small n (by omega)]; simp
  | succ k ih =>
    by_cases hb : 127 < n
    · rw [enc_big n hb, List.length_cons]
      have : n / 128 < 128 ^ (k + 1) := by rw [Nat.div_lt_iff_lt_mul (by omega)]; rw [Nat.pow_succ] at h; exact h
      have := ih _ this
      omega
    · rw [enc_small n hb]; simp
theorem enc_len8 (n : Nat) (h : n ≤ 1125899906842624) : (enc n).length ≤ 8 := enc_len 7 n (by omega)
theorem enc_bytes (n : Nat) : ∀ x ∈ enc n, 0 ≤ x ∧ x ≤ 255 := by
  induction n using Nat.strongRecOn with
  | ind n ih =>
    by_cases hb : 127 < n
    · rw [enc_big n hb]
      intro x hx
      rcases List.mem_cons.1 hx with rfl | hx
      · omega
      · exact ih _ (by omega) x hx
    · rw [enc_small n hb]
      intro x hx
      simp at hx
      omega
theorem and127_i64 (n : Int) (h0 : 0 ≤ n) (h1 : n ≤ 9223372036854775807) : bits .and .i64 n 127 = n % 128 := by
  obtain ⟨a, rfl⟩ : ∃ a : Nat, n = (a : Int) := ⟨n.toNat, by omega⟩
  have hx : a &&& 127 < 2 ^ 63 := Nat.and_lt_two_pow _ (by omega)
  show IntKind.i64.wrap ((BitVec.ofInt 64 (a : Int) &&& BitVec.ofInt 64 127).toNat : Int) = _
  rw [BitVec.toNat_and, ofInt_nat 64 a (by omega), show (127 : Int) = ((127 : Nat) : Int) from rfl, ofInt_nat 64 127 (by omega), IntKind.wrap_i64, show (127 : Nat) = 2 ^ 7 - 1 from rfl, Nat.and_two_pow_sub_one_eq_mod]
  omega
theorem or128_i64 (y : Int) (h0 : 0 ≤ y) (h1 : y ≤ 127) : bits .or .i64 y 128 = 128 + y := by
  have := or_shift y 1 1 (by omega) h0 (by omega) (by omega) (by omega)
  simpa [Int.add_comm] using this
def encs (ns : List Int) : List Int := (ns.map fun n => enc n.toNat).flatten
theorem encs_take (ns : List Int) (k : Nat) (h : k < ns.length) : encs (ns.take (k + 1)) = encs (ns.take k) ++ enc (ns.getD k 0).toNat := by
  unfold encs
  rw [List.take_succ_eq_append_getElem h, List.map_append, List.flatten_append]
  simp [h]
theorem all_take (ns : List Int) (k : Nat) (h : k < ns.length) (ha : (ns.take k).all numB = true) (hk : numB (ns.getD k 0) = true) : (ns.take (k + 1)).all numB = true := by
  rw [List.take_succ_eq_append_getElem h, List.all_append, ha]
  simp [h] at hk
  simp [hk]
theorem not_all (ns : List Int) (k : Nat) (h : k < ns.length) (hk : numB (ns.getD k 0) = false) : ns.all numB = false := by
  rw [Bool.eq_false_iff]
  intro ha
  have := List.all_eq_true.1 ha ns[k] (List.getElem_mem h)
  simp [h] at hk
  rw [hk] at this
  cases this
theorem encs_len (ns : List Int) (h : ns.all numB = true) : (encs ns).length ≤ 8 * ns.length := by
  induction ns with
  | nil => simp [encs]
  | cons n ns ih =>
    rw [List.all_cons, Bool.and_eq_true] at h
    have h1 := ih h.2
    have h2 := numB_true.1 h.1
    have h3 := enc_len8 n.toNat (by omega)
    unfold encs at h1 ⊢
    rw [List.map_cons, List.flatten_cons, List.length_append, List.length_cons]
    omega
def putsL (zs ns : List Int) : List Int := if ns.all numB = true then zs ++ encs ns else []
end Go.Proofs.YtkbhbccpmmhelaaDoor
namespace Go.Proofs.YtkbhbccpmmhelaaDoor
open Go.RowKit
set_option linter.unusedVariables false
def Bytes (zs : List Int) : Prop := ∀ j, 0 ≤ zs.getD j 0 ∧ zs.getD j 0 ≤ 255
theorem bytes_of_wf {zs : List Int} (h : ∀ n ∈ zs, (Lit.int .u8 n).wf = true) : Bytes zs := by
  intro j
  by_cases hj : j < zs.length
  · have := h zs[j] (List.getElem_mem hj)
    have h2 : 0 ≤ zs[j] ∧ zs[j] ≤ 255 := by simpa [Lit.wf, IntKind.min, IntKind.max, IntKind.signed, IntKind.bits] using this
    simpa [hj] using h2
  · simp [hj]
theorem ret_eq {a b : Value} (h : a = b) : Ending.returned a = .returned b := by rw [h]
set_option maxHeartbeats 1000000 in
theorem iGetNum_any (A : Option Addr) (c : Nat) (zs : List Int) (a : Int) (w : World) (B : Nat) (hr : Rd .u8 w B A zs) (hb : Bytes zs) (hm : zs.length ≤ 1073741824) (hcap : zs.length ≤ c) (hcm : c ≤ maxLen) (ha1 : -9223372036854775808 ≤ a) (ha2 : a ≤ 9223372036854775807) :
    Calls Tryd.prog 24 #[.slice A zs.length c, .int .i64 a] w fun e w' => e = .returned (getVal zs a) ∧ w = w' := by
  by_cases hneg : a < 0
  · have hn : getVal zs a = .tuple #[.int .i64 0, .int .i64 0, .bool false] := getVal_none (by unfold getNum; rw [if_pos hneg])
    rw [hn]
    clear hn
    go_enter Tryd.func24, Tryd.ntmps24
    go_wp2
    go_ret3
    exact ⟨rfl, rfl⟩
  · obtain ⟨t, rfl⟩ : ∃ t : Nat, a = (t : Int) := ⟨a.toNat, by omega⟩
    clear hneg ha1
    by_cases hin : t < zs.length
    · unfold maxLen at hcm
      have hne : ¬ c = t := by omega
      obtain ⟨b, off, rfl, hbb, hcells⟩ := hr (by omega)
      go_enter Tryd.func24, Tryd.ntmps24
      go_wp2
      go_loop [7, 22] (fun sn si => ∃ (j : Nat) (n : Int), Getting zs t j n ∧ sn = .int .i64 n ∧ si = .int .i64 j ∧ t + j ≤ zs.length) (fun _ si => 8 + t - (intOf si).toNat)
      case atStart => exact ⟨0, 0, Getting.start zs t, rfl, rfl, by omega⟩
      case round =>
        obtain ⟨j, n, hg, rfl, rfl, hj⟩ := hrel
        have hj8 := hg.j8
        by_cases hin : j < 8 ∧ t + j < zs.length
        · obtain ⟨h8, hl⟩ := hin
          have hc := hcells (t + j) hl
          obtain ⟨x, hx⟩ : ∃ x, x = zs.getD (t + j) 0 := ⟨_, rfl⟩
          rw [← hx, ← Nat.add_assoc] at hc
          have hx2 := hb (t + j)
          rw [← hx] at hx2
          obtain ⟨hx0, hx255⟩ := hx2
          have HX := Lib.hid hx
          clear hx
          have i1 : (j : Int) < ((zs.length - t : Nat) : Int) := by omega
          have i3 : ((j : Int) == 8) = false := by simp; omega
          obtain ⟨y, hy⟩ : ∃ y, bits .and .u8 x 127 = y := ⟨_, rfl⟩
          have hy' : y = x % 128 := by rw [← hy]; exact and127 x hx0 hx255
          have hy0 : 0 ≤ y := by omega
          have hy1 : y ≤ 127 := by omega
          obtain ⟨z, hz⟩ : ∃ z, y * 2 ^ (7 * j) = z := ⟨_, rfl⟩
          have hz' := pow_mul_le y j (by omega) hy0 hy1
          rw [hz] at hz'
          obtain ⟨hz0, hz1⟩ := hz'
          obtain ⟨m, hm⟩ : ∃ m, bits .or .i64 n z = m := ⟨_, rfl⟩
          have hmm : m = n + x % 128 * p128 j := by
            rw [← hm, ← hz, ← hy']
            exact or_shift n y j (by omega) hg.lo hg.hi hy0 hy1
          have hp := hg.prod (x := x)
          have hp7 := p128_le (j + 1) (by omega)
          have hlo := hg.lo
          have hm0 : 0 ≤ m := by omega
          have hm1 : m ≤ 72057594037927936 := by omega
          clear hy' hp hp7
          have HM := Lib.hid hmm
          clear hmm
          by_cases hlt : x < 128
          · by_cases hbig : 1125899906842624 < m
            · have E := Lib.hid (getVal_none (hg.bad h8 hl HX.out hlt (.inl (by rw [← HM.out]; exact hbig))))
              go_wp2
              go_ret3
              exact ⟨ret_eq E.out.symm, rfl⟩
            · by_cases hz : x = 0 ∧ 0 < j
              · have E := Lib.hid (getVal_none (hg.bad h8 hl HX.out hlt (.inr hz)))
                obtain ⟨hx0', hj0⟩ := hz
                have hx1 : (x == 0) = true := by simpa using hx0'
                clear hx0'
                go_wp2
                go_ret3
                exact ⟨ret_eq E.out.symm, rfl⟩
              · have E := Lib.hid (getVal_some (hg.good h8 hl HX.out hlt (by rw [← HM.out]; omega)))
                rw [← HM.out, show (t : Int) + ((j + 1 : Nat) : Int) = (t : Int) + (j : Int) + 1 by omega] at E
                by_cases hx0 : x = 0
                · have hx1 : (x == 0) = true := by simpa using hx0
                  have i2 : decide (0 < (j : Int)) = false := by simp; omega
                  have i4 : decide (0 < j) = false := by simp; omega
                  clear hx0
                  go_wp2
                  go_ret3
                  exact ⟨ret_eq E.out.symm, rfl⟩
                · have hx1 : (x == 0) = false := by simpa using hx0
                  go_wp2
                  go_ret3
                  exact ⟨ret_eq E.out.symm, rfl⟩
          · have G := hg.more h8 hl HX.out hlt
            rw [← HM.out] at G
            go_wp2
            go_round
            case rel => exact ⟨j + 1, _, G, rfl, by go_num, by omega⟩
            case measure => simp [intOf]; omega
        · have E := Lib.hid (getVal_none (hg.stop hin))
          by_cases hl : t + j < zs.length
          · have h8 : j = 8 := by omega
            subst h8
            obtain ⟨x, hx⟩ : ∃ x, x = zs.getD (t + 8) 0 := ⟨_, rfl⟩
            have hc := hcells (t + 8) hl
            rw [← hx, ← Nat.add_assoc] at hc
            clear hx
            have i1 : ((8 : Nat) : Int) < ((zs.length - t : Nat) : Int) := by omega
            go_wp2
            go_ret3
            exact ⟨ret_eq E.out.symm, rfl⟩
          · have i1 : decide ((j : Int) < ((zs.length - t : Nat) : Int)) = false := by simp; omega
            have i2 : decide (j < zs.length - t) = false := by simp; omega
            go_wp2
            go_ret3
            exact ⟨ret_eq E.out.symm, rfl⟩
    · have hn : getVal zs t = .tuple #[.int .i64 0, .int .i64 0, .bool false] := getVal_none (by rw [getNum_at, List.drop_eq_nil_of_le (by omega)]; rfl)
      rw [hn]
      clear hn
      have i1 : (zs.length : Int) ≤ (t : Int) := by omega
      go_enter Tryd.func24, Tryd.ntmps24
      go_wp2
      go_ret3
      exact ⟨rfl, rfl⟩
end Go.Proofs.YtkbhbccpmmhelaaDoor
namespace Go.Proofs.YtkbhbccpmmhelaaDoor
open Go.RowKit
set_option linter.unusedVariables false
def GivesL (w : World) (l : List Int) (b : Bool) (e : Ending) (w' : World) : Prop :=
  ∃ v, e = .returned (.tuple #[v, .bool b]) ∧ Own .u8 w' w.heap.size 5 v l ∧ Below w.heap.size w w'
theorem enc_pre {n m : Nat} {p : List Int} (h : p ++ enc m = enc n) (hn : n ≤ 1125899906842624) : p.length ≤ 8 := by
  have h1 := enc_len8 n hn
  have h2 := congrArg List.length h
  rw [List.length_append] at h2
  omega
theorem enc_go {n m : Nat} {p : List Int} (h : p ++ enc m = enc n) (hm : 127 < m) : (p ++ [(128 : Int) + (m : Int) % 128]) ++ enc (m / 128) = enc n := by
  rw [← h, enc_big m hm, List.append_assoc]
  simp
set_option maxHeartbeats 400000 in
theorem iNum_any (n : Int) (w : World) : Calls Tryd.prog 51 #[.int .i64 n] w fun e w' => e = .returned (.bool (numB n)) ∧ w = w' := by
  by_cases h0 : 0 ≤ n
  · by_cases h1 : n ≤ 1125899906842624
    · rw [numB_true.2 ⟨h0, h1⟩]
      go_enter Tryd.func51, Tryd.ntmps51
      go_wp2
      go_ret
      exact ⟨rfl, rfl⟩
    · rw [numB_false.2 (by omega)]
      have i1 : decide (n ≤ 1125899906842624) = false := by simp; omega
      go_enter Tryd.func51, Tryd.ntmps51
      go_wp2
      go_ret
      exact ⟨rfl, rfl⟩
  · rw [numB_false.2 (by omega)]
    have i1 : decide (0 ≤ n) = false := by simp; omega
    go_enter Tryd.func51, Tryd.ntmps51
    go_wp2
    go_ret
    exact ⟨rfl, rfl⟩
def Grows (base : Nat) (w : World) (l : List Int) (e : Ending) (w' : World) : Prop :=
  ∃ v, e = .returned v ∧ Own .u8 w' base 5 v l ∧ Below base w w'
set_option maxRecDepth 10000 in
set_option maxHeartbeats 1000000 in
theorem iVarint_any (base : Nat) (v : Value) (zs : List Int) (N : Nat) (w : World) (ho : Own .u8 w base 5 v zs) (hm : zs.length ≤ 1099511627000) (hbase : base ≤ w.heap.size) (hN : N ≤ 1125899906842624) :
    Calls Tryd.prog 52 #[v, .int .i64 N] w (Grows base w (zs ++ enc N)) := by
  obtain ⟨i0, hi, hz0, hz1, hz2⟩ := info_parts Tryd.info_u8
  go_enter Tryd.func52, Tryd.ntmps52
  go_wp2
  go_loopw [0, 1] (fun sv sn wr => ∃ (m : Nat) (p : List Int), m ≤ 1125899906842624 ∧ sn = .int .i64 m ∧ Hid (p ++ enc m = enc N) ∧ p.length ≤ 8 ∧ Own .u8 wr base 5 sv (zs ++ p) ∧ Below base w wr) (fun _ sn _ => (intOf sn).toNat)
  case atStart => exact ⟨N, [], hN, rfl, rfl, by simp, by simpa using ho, Below.refl _ _⟩
  case round =>
    obtain ⟨m, p, hmm, rfl, HE, hp8, hown, hbr⟩ := hrel
    have hsz := hbr.size
    by_cases hgt : 127 < m
    · have hp8' := Lib.hid (enc_go HE.out hgt)
      have hlen := enc_pre hp8'.out hN
      have i1 : (127 : Int) < (m : Int) := by omega
      have e1 := and127_i64 (m : Int) (by omega) (by omega)
      have e2 := or128_i64 ((m : Int) % 128) (by omega) (by omega)
      go_wp2_with (at_builtin; refine wpl_appI _ .u8 rfl (.tmp 7) (.tmp 12) 22 rfl base 5 i0 1 Tryd.underlying22 hi hz0 hz1 hz2 _ (zs ++ p) rfl (hown.alloc_ _) _ _ _ 1 [(128 : Int) + (m : Int) % 128] rfl rfl (rd_one _ _ _ _) ?d1 (by omega) ?d2 ?_)
      case d1 => simp; omega
      case d2 => simp; omega
      intro v2 w2 ho2 hg2 hat2
      have hb2 : Below base w w2 := grown_below (hbr.alloc (by omega) _) (hown.alloc_ _) hg2 (Nat.le_refl _) (by simp; omega)
      clear hg2 hat2
      go_wp2
      go_roundw
      case rel => exact ⟨m / 128, p ++ [(128 : Int) + (m : Int) % 128], by omega, by go_num, hp8', hlen, by simpa using ho2, hb2⟩
      case measure => simp [intOf]; omega
    · have HE2 := HE.out
      rw [enc_small m hgt] at HE2
      have HE3 := Lib.hid HE2
      clear HE2
      have i1 : (m : Int) ≤ 127 := by omega
      go_wp2_with (at_builtin; refine wpl_appI _ .u8 rfl (.tmp 16) (.tmp 19) 22 rfl base 5 i0 1 Tryd.underlying22 hi hz0 hz1 hz2 _ (zs ++ p) rfl (hown.alloc_ _) _ _ _ 1 [(m : Int)] rfl rfl (rd_one _ _ _ _) ?e1 (by omega) ?e2 ?_)
      case e1 => simp; omega
      case e2 => simp; omega
      intro v2 w2 ho2 hg2 hat2
      have hb2 : Below base w w2 := grown_below (hbr.alloc (by omega) _) (hown.alloc_ _) hg2 (Nat.le_refl _) (by simp; omega)
      rw [HE3.out] at ho2
      clear hg2 hat2
      go_wp2
      go_ret
      exact ⟨v2, rfl, ho2, hb2⟩
set_option maxHeartbeats 1000000 in
theorem iAppendNums_any (A A' : Option Addr) (c c' : Nat) (zs ns : List Int) (w : World) (hr : Rd .u8 w w.heap.size A zs) (hr' : Rd .i64 w w.heap.size A' ns) (hm : zs.length ≤ 1073741824) (hm' : ns.length ≤ 1073741824) :
    Calls Tryd.prog 23 #[.slice A zs.length c, .slice A' ns.length c'] w (GivesL w (putsL zs ns) (ns.all numB)) := by
  obtain ⟨i0, hi, hz0, hz1, hz2⟩ := info_parts Tryd.info_u8
  go_enter Tryd.func23, Tryd.ntmps23
  go_wp2_with (at_builtin; refine wpl_appI _ .u8 rfl (.tmp 9) (.tmp 10) 22 rfl w.heap.size 5 i0 1 Tryd.underlying22 hi hz0 hz1 hz2 _ [] rfl (own_none .u8 w w.heap.size 5 (Nat.le_refl _)) w.heap.size A c zs.length zs rfl rfl (hr.below ((Below.refl _ _).alloc (Nat.le_refl _) _)) ?c1 (by omega) ?c2 ?_)
  case c1 => simp; omega
  case c2 => simp
  intro v1 w1 ho1 hg1 hat1
  have hb1 : Below w.heap.size w w1 := grown_below ((Below.refl _ _).alloc (Nat.le_refl _) _) (own_none .u8 w w.heap.size 5 (Nat.le_refl _)) hg1 (Nat.le_refl _) (by simp)
  clear hg1 hat1
  go_wp2
  go_loopw [6, 14] (fun sv si wr => ∃ k : Nat, k ≤ ns.length ∧ si = .int .i64 k ∧ Hid ((ns.take k).all numB = true) ∧ Own .u8 wr w.heap.size 5 sv (zs ++ encs (ns.take k)) ∧ Below w.heap.size w wr) (fun _ si _ => ns.length - (intOf si).toNat)
  case atStart => exact ⟨0, Nat.zero_le _, rfl, rfl, by simpa [encs] using ho1, hb1⟩
  case round =>
    obtain ⟨k, hk, rfl, HA, hown, hbr⟩ := hrel
    have hsz := hbr.size
    by_cases hlt : k < ns.length
    · obtain ⟨b, off, rfl, hbb, hc⟩ := (hr'.below hbr).at_ hlt
      obtain ⟨x, hx⟩ : ∃ x, ns.getD k 0 = x := ⟨_, rfl⟩
      rw [hx] at hc
      have HX := Lib.hid hx
      clear hx
      have i1 : (k : Int) < (ns.length : Int) := by omega
      have hle := encs_len _ HA.out
      have htl : (ns.take k).length ≤ k := List.length_take_le _ _
      by_cases hnb : numB x = true
      · have hx2 := numB_true.1 hnb
        have HB := Lib.hid hnb
        clear hnb
        obtain ⟨N, rfl⟩ : ∃ N : Nat, x = (N : Int) := ⟨x.toNat, by omega⟩
        go_wp2_with fail
        refine (iNum_any _ _).mono ?_
        rintro e w' ⟨rfl, rfl⟩
        rw [HB.out]
        go_wp2_with fail
        refine (iVarint_any w.heap.size u6 (zs ++ encs (ns.take k)) N wr hown (by rw [List.length_append]; omega) hsz (by omega)).mono ?_
        rintro e w2 ⟨v2, rfl, ho2, hb2⟩
        have HO : Own .u8 w2 w.heap.size 5 v2 (zs ++ encs (ns.take (k + 1))) := by
          rw [encs_take ns k hlt, HX.out, Int.toNat_natCast, ← List.append_assoc]; exact ho2
        have HA2 := Lib.hid (all_take ns k hlt HA.out (by rw [HX.out]; exact HB.out))
        clear ho2
        go_wp2
        go_roundw
        case rel => exact ⟨k + 1, by omega, by go_num, HA2, HO, hbr.trans hb2⟩
        case measure => simp [intOf]; omega
      · have hnb' : numB x = false := by simpa using hnb
        have HB := Lib.hid hnb'
        clear hnb hnb'
        have HN := Lib.hid (not_all ns k hlt (by rw [HX.out]; exact HB.out))
        go_wp2_with fail
        refine (iNum_any _ _).mono ?_
        rintro e w' ⟨rfl, rfl⟩
        rw [HB.out]
        go_wp2
        go_ret2
        exact ⟨_, by rw [HN.out]; rfl, by unfold putsL; rw [HN.out]; exact World.ownsRow_nil _ _ _ _, hbr⟩
    · have hk2 : k = ns.length := by omega
      subst hk2
      have HA2 := HA.out
      rw [List.take_of_length_le (Nat.le_refl _)] at HA2 hown
      have HA3 := Lib.hid HA2
      clear HA2 HA
      go_wp2
      go_ret2
      exact ⟨_, by rw [HA3.out]; rfl, by unfold putsL; rw [if_pos HA3.out]; exact hown, hbr⟩
end Go.Proofs.YtkbhbccpmmhelaaDoor
namespace Go.Proofs.YtkbhbccpmmhelaaDoor
open Go.RowKit
set_option linter.unusedVariables false
def inB (n lo hi : Int) : Bool := decide (lo ≤ n ∧ n ≤ hi)
theorem inB_true {n lo hi : Int} : inB n lo hi = true ↔ lo ≤ n ∧ n ≤ hi := by simp [inB]
theorem inB_false {n lo hi : Int} : inB n lo hi = false ↔ ¬ (lo ≤ n ∧ n ≤ hi) := by simp [inB]
def amtB (n : Int) : Bool := inB n 1 1000000000
theorem iAmt_any (n : Int) (w : World) : Calls Tryd.prog 65 #[.int .i64 n] w fun e w' => e = .returned (.bool (amtB n)) ∧ w = w' := by
  unfold amtB
  by_cases h0 : 1 ≤ n
  · by_cases h1 : n ≤ 1000000000
    · rw [inB_true.2 ⟨h0, h1⟩]
      go_enter Tryd.func65, Tryd.ntmps65
      go_wp2
      go_ret
      exact ⟨rfl, rfl⟩
    · rw [inB_false.2 (by omega)]
      have i1 : decide (n ≤ 1000000000) = false := decide_eq_false h1
      go_enter Tryd.func65, Tryd.ntmps65
      go_wp2
      go_ret
      exact ⟨rfl, rfl⟩
  · rw [inB_false.2 (by omega)]
    have i1 : decide (1 ≤ n) = false := decide_eq_false h0
    go_enter Tryd.func65, Tryd.ntmps65
    go_wp2
    go_ret
    exact ⟨rfl, rfl⟩
end Go.Proofs.YtkbhbccpmmhelaaDoor
namespace Go.Proofs.YtkbhbccpmmhelaaDoor
open Go.RowKit
end Go.Proofs.YtkbhbccpmmhelaaDoor
namespace Go.Proofs.YtkbhbccpmmhelaaDoor
open Go.RowKit
set_option linter.unusedVariables false
end Go.Proofs.YtkbhbccpmmhelaaDoor
namespace Go.Proofs.YtkbhbccpmmhelaaDoor
def getMany (zs : List Int) : Nat → Int → Option (List Int × Int)
  | 0, p => some ([], p)
  | k + 1, p =>
    match getNum zs p with
    | none => none
    | some (n, c) => (getMany zs k (p + c)).map fun r => (n :: r.1, r.2)
theorem gnum_some {l : List Int} {i : Nat} {n m : Int} {c : Nat} (h : gnum l i n = some (m, c)) (hn : 0 ≤ n) : i + 1 ≤ c ∧ c ≤ i + l.length ∧ 0 ≤ m ∧ m ≤ 1125899906842624 := by
  induction l generalizing i n with
  | nil => simp [gnum] at h
  | cons x l ih =>
    unfold gnum at h
    have hp : 0 ≤ x % 128 * p128 i := Int.mul_nonneg (Int.emod_nonneg _ (by omega)) (by have := p128_pos i; omega)
    split at h
    · split at h
      · split at h
        · cases h
        · simp only [Option.some.injEq, Prod.mk.injEq] at h
          simp only [List.length_cons]
          omega
      · have := ih h (by omega)
        simp only [List.length_cons]
        omega
    · cases h
theorem getNum_some {zs : List Int} {p n : Int} {c : Nat} (h : getNum zs p = some (n, c)) : 0 ≤ p ∧ 1 ≤ c ∧ p + c ≤ zs.length ∧ 0 ≤ n ∧ n ≤ 1125899906842624 := by
  unfold getNum at h
  split at h
  · cases h
  · have h1 := gnum_some h (by omega)
    rw [List.length_drop] at h1
    omega
structure Gets (zs : List Int) (total : Nat) (p0 : Int) (l : List Int) (p : Int) : Prop where
  le : l.length ≤ total
  lo : 0 ≤ p
  few : (l.length : Int) ≤ p
  hi : p ≤ zs.length
  eq : getMany zs total p0 = (getMany zs (total - l.length) p).map fun r => (l ++ r.1, r.2)
theorem Gets.start {zs : List Int} {total : Nat} {p0 : Int} (h0 : 0 ≤ p0) (h1 : p0 ≤ zs.length) : Gets zs total p0 [] p0 := by
  refine ⟨by simp, h0, by simpa using h0, h1, ?_⟩
  simp
section
variable {zs : List Int} {total : Nat} {p0 p : Int} {l : List Int} (h : Gets zs total p0 l p)
include h
theorem Gets.done (hl : l.length = total) : getMany zs total p0 = some (l, p) := by
  rw [h.eq, hl, Nat.sub_self]
  simp [getMany]
theorem Gets.fails (hl : l.length < total) (hn : getNum zs p = none) : getMany zs total p0 = none := by
  obtain ⟨m, hm⟩ : ∃ m, total - l.length = m + 1 := ⟨total - l.length - 1, by omega⟩
  rw [h.eq, hm]
  simp [getMany, hn]
theorem Gets.next {n : Int} {c : Nat} (hl : l.length < total) (hn : getNum zs p = some (n, c)) : Gets zs total p0 (l ++ [n]) (p + c) := by
  have hs := getNum_some hn
  have h3 := h.few
  refine ⟨by simp; omega, by omega, by simp; omega, by omega, ?_⟩
  obtain ⟨m, hm⟩ : ∃ m, total - l.length = m + 1 := ⟨total - l.length - 1, by omega⟩
  have hm2 : total - (l ++ [n]).length = m := by simp; omega
  rw [h.eq, hm, hm2]
  simp only [getMany, hn, Option.map_map]
  congr 1
  funext r
  simp
end
end Go.Proofs.YtkbhbccpmmhelaaDoor
namespace Go.Proofs.YtkbhbccpmmhelaaDoor
open Go.RowKit
set_option linter.unusedVariables false
end Go.Proofs.YtkbhbccpmmhelaaDoor
namespace Go.Proofs.YtkbhbccpmmhelaaDoor
open Go.RowKit
set_option linter.unusedVariables false
def rdNum (zs : List Int) (p : Int) (bad : Bool) : Int × Int × Bool :=
  if bad then (0, p, true) else match getNum zs p with
    | none => (0, 0, true)
    | some (n, c) => (n, p + c, false)
theorem rdNum_bad (zs : List Int) (p : Int) : rdNum zs p true = (0, p, true) := rfl
theorem rdNum_none {zs : List Int} {p : Int} (h : getNum zs p = none) : rdNum zs p false = (0, 0, true) := by unfold rdNum; rw [h]; rfl
theorem rdNum_some {zs : List Int} {p n : Int} {c : Nat} (h : getNum zs p = some (n, c)) : rdNum zs p false = (n, p + c, false) := by unfold rdNum; rw [h]; rfl
end Go.Proofs.YtkbhbccpmmhelaaDoor
namespace Go.Proofs.YtkbhbccpmmhelaaDoor
theorem gnum_enc (n : Nat) : ∀ (i : Nat) (acc : Int) (ys : List Int), i + (enc n).length ≤ 8 → acc + (n : Int) * p128 i ≤ 1125899906842624 → (0 < n ∨ i = 0) →
    gnum (enc n ++ ys) i acc = some (acc + (n : Int) * p128 i, i + (enc n).length) := by
  induction n using Nat.strongRecOn with
  | ind n ih =>
    intro i acc ys hl hm hz
    by_cases hb : 127 < n
    · rw [enc_big n hb] at hl ⊢
      rw [List.length_cons] at hl
      rw [List.cons_append, gnum, if_pos (by omega), if_neg (by omega)]
      have e1 : ((128 : Int) + ((n % 128 : Nat) : Int)) % 128 = ((n % 128 : Nat) : Int) := by omega
      rw [e1]
      have hp := p128_succ i
      have hn : (n : Int) = 128 * ((n / 128 : Nat) : Int) + ((n % 128 : Nat) : Int) := by omega
      have e2 : acc + ((n % 128 : Nat) : Int) * p128 i + ((n / 128 : Nat) : Int) * p128 (i + 1) = acc + (n : Int) * p128 i := by
        rw [hp, hn]
        have : ((n / 128 : Nat) : Int) * (p128 i * 128) = 128 * ((n / 128 : Nat) : Int) * p128 i := by
          rw [Int.mul_comm (p128 i) 128, ← Int.mul_assoc, Int.mul_comm ((n / 128 : Nat) : Int) 128]
        rw [this, Int.add_mul]; omega
      have := ih (n / 128) (by omega) (i + 1) (acc + ((n % 128 : Nat) : Int) * p128 i) ys (by omega) (by rw [e2]; exact hm) (.inl (by omega))
      rw [this, e2, List.length_cons]
      simp; omega
    · rw [enc_small n hb] at hl ⊢
      simp only [List.length_singleton] at hl ⊢
      rw [List.singleton_append, gnum, if_pos (by omega), if_pos (by omega)]
      have e1 : (n : Int) % 128 = (n : Int) := by omega
      rw [e1, if_neg]
      rintro (h | ⟨h1, h2⟩)
      · omega
      · omega
theorem getNum_enc (xs ys : List Int) (n : Nat) (hn : n ≤ 1125899906842624) : getNum (xs ++ (enc n ++ ys)) (xs.length : Int) = some ((n : Int), (enc n).length) := by
  rw [getNum_at, List.drop_left]
  have hl := enc_len8 n hn
  have := gnum_enc n 0 0 ys (by omega) (by rw [p128_zero]; omega) (.inr rfl)
  rw [p128_zero] at this
  simpa using this
end Go.Proofs.YtkbhbccpmmhelaaDoor
namespace Go.Proofs.YtkbhbccpmmhelaaDoor
open Go.RowKit
set_option linter.unusedVariables false
theorem str_same (s s' : ByteArray) : (s.toList == s'.toList) = decide (s = s') := by
  rw [ByteArray.toList_eq, ByteArray.toList_eq]
  by_cases h : s = s'
  · simp [h]
  · have : ¬ s.data.toList = s'.data.toList := fun e => h (WideShapes.bytes_inj e)
    simp only [h, decide_false, beq_eq_false_iff_ne]
    exact this
end Go.Proofs.YtkbhbccpmmhelaaDoor
namespace Go.Proofs.YtkbhbccpmmhelaaDoor
def splitSt (s : ByteArray) (b : Nat) : Nat → List ByteArray × Nat
  | 0 => ([], 0)
  | k + 1 => if (s.get! k).toNat = b then ((splitSt s b k).1 ++ [s.extract (splitSt s b k).2 k], k + 1) else splitSt s b k
def splitL (s : ByteArray) (b : Nat) : List ByteArray := (splitSt s b s.size).1 ++ [s.extract (splitSt s b s.size).2 s.size]
theorem splitSt_le (s : ByteArray) (b k : Nat) : (splitSt s b k).2 ≤ k ∧ (splitSt s b k).1.length ≤ k := by
  induction k with
  | zero => simp [splitSt]
  | succ k ih =>
    unfold splitSt
    split
    · simp; omega
    · omega
theorem splitSt_hit {s : ByteArray} {b k : Nat} (h : (s.get! k).toNat = b) : splitSt s b (k + 1) = ((splitSt s b k).1 ++ [s.extract (splitSt s b k).2 k], k + 1) := by
  rw [splitSt, if_pos h]
theorem splitSt_miss {s : ByteArray} {b k : Nat} (h : (s.get! k).toNat ≠ b) : splitSt s b (k + 1) = splitSt s b k := by
  rw [splitSt, if_neg h]
theorem splitSt_skip {s : ByteArray} {b : Nat} (k n : Nat) (h : ∀ j, j < n → (s.get! (k + j)).toNat ≠ b) : splitSt s b (k + n) = splitSt s b k := by
  induction n with
  | zero => rfl
  | succ n ih =>
    rw [← Nat.add_assoc, splitSt_miss (h n (by omega))]
    exact ih fun j hj => h j (by omega)
theorem splitL_len (s : ByteArray) (b : Nat) : (splitL s b).length ≤ s.size + 1 := by
  have := (splitSt_le s b s.size).2
  simp [splitL]; omega
theorem splitL_ne (s : ByteArray) (b : Nat) : splitL s b ≠ [] := by simp [splitL]
theorem get_bang (s : ByteArray) (k : Nat) (h : k < s.size) : s.get! k = s[k]'h := by
  simp [ByteArray.get!, getElem!_pos, h]
  rfl
theorem decode_span (s : ByteArray) (p : Nat) (h : p < s.size) (ha : ¬ (s.get! p).toNat < 128) :
    p + (Utf8.decode s p).2 ≤ s.size ∧ 1 ≤ (Utf8.decode s p).2 ∧ ∀ j, j < (Utf8.decode s p).2 → 128 ≤ (s.get! (p + j)).toNat := by
  have hb : ∀ k, (s.get! (p + k)).toNat < 256 := fun k => (s.get! (p + k)).toNat_lt
  have h0 := hb 0; have h1 := hb 1; have h2 := hb 2; have h3 := hb 3
  simp only [Utf8.decode, Nat.add_zero]
  rw [if_neg ha]
  repeat' split
  all_goals simp_all only [Bool.and_eq_true, beq_iff_eq, decide_eq_true_eq, Nat.add_zero]
  all_goals refine ⟨by omega, by omega, fun j hj => ?_⟩
  all_goals
    have hj4 : j = 0 ∨ j = 1 ∨ j = 2 ∨ j = 3 := by omega
    rcases hj4 with rfl | rfl | rfl | rfl <;> (try simp only [Nat.add_zero]) <;> omega
end Go.Proofs.YtkbhbccpmmhelaaDoor
namespace Go.Proofs.YtkbhbccpmmhelaaDoor
open Go.RowKit
set_option linter.unusedVariables false
structure MMsg where
  Kind : Int
  Acct : Int
  Amt : Int
  Src : Int
def msgL : Lay MMsg := isoL (fun d => (d.Kind, d.Acct, d.Amt, d.Src)) (consL (intL .i64) (consL (intL .i64) (consL (intL .i64) (intL .i64))))
theorem sz_msg : (Tryd.prog.info? 24).map (·.size) = some 4 := by kernel_rfl
theorem rv_msg {w : World} {v : Value} {d : MMsg} (h : RV msgL w v d) : v = .agg #[.int .i64 d.Kind, .int .i64 d.Acct, .int .i64 d.Amt, .int .i64 d.Src] := by
  obtain ⟨cs, rfl, hcs⟩ := h
  obtain ⟨_, _, rfl, rfl, ⟨_, _, rfl, rfl, ⟨_, _, rfl, rfl, rfl⟩⟩⟩ := hcs
  rfl
theorem cs_msg {w : World} {B : Nat} {cs : List Value} {d : MMsg} (h : msgL.rd w B cs d) : cs = [.int .i64 d.Kind, .int .i64 d.Acct, .int .i64 d.Amt, .int .i64 d.Src] := by
  obtain ⟨_, _, rfl, rfl, ⟨_, _, rfl, rfl, ⟨_, _, rfl, rfl, rfl⟩⟩⟩ := h
  rfl
theorem rv_msg_mk {w : World} {zKind : Int} {zAcct : Int} {zAmt : Int} {zSrc : Int} : RV msgL w (.agg #[.int .i64 zKind, .int .i64 zAcct, .int .i64 zAmt, .int .i64 zSrc]) ⟨zKind, zAcct, zAmt, zSrc⟩ := by
  exact ⟨_, rfl, [_], _, rfl, rfl, [_], _, rfl, rfl, [_], _, rfl, rfl, rfl⟩
theorem ovp_msg {w : World} {d : MMsg} {lo hi : Nat} (hc : hi ≤ w.heap.size) : OVp msgL w (fun j => lo ≤ j ∧ j < hi) [.int .i64 d.Kind, .int .i64 d.Acct, .int .i64 d.Amt, .int .i64 d.Src] d := by
  have h : OVp msgL w _ [.int .i64 d.Kind, .int .i64 d.Acct, .int .i64 d.Amt, .int .i64 d.Src] d := OVp.iso (f := fun d : MMsg => (d.Kind, d.Acct, d.Amt, d.Src)) (OVp.cons1 (OVp.cons1 (OVp.cons1 OVp.one)))
  exact h.imp (fun _ h => h.elim)
theorem ov_msg {w : World} {d : MMsg} {lo hi : Nat} (hc : hi ≤ w.heap.size) : OV msgL w lo hi (.agg #[.int .i64 d.Kind, .int .i64 d.Acct, .int .i64 d.Amt, .int .i64 d.Src]) d :=
  (ovp_msg (lo := lo) (hi := hi) hc).ov (fun _ h => h) hc
end Go.Proofs.YtkbhbccpmmhelaaDoor
namespace Go.Proofs.YtkbhbccpmmhelaaDoor
open Go.RowKit
set_option linter.unusedVariables false
structure MRec where
  Kind : Int
  Acct : Int
  Other : Int
  To : Int
  Amt : Int
  M : MMsg
def recL : Lay MRec := isoL (fun d => (d.Kind, d.Acct, d.Other, d.To, d.Amt, d.M)) (consL (intL .i64) (consL (intL .i64) (consL (intL .i64) (consL (intL .i64) (consL (intL .i64) (msgL))))))
theorem sz_rec : (Tryd.prog.info? 26).map (·.size) = some 9 := by kernel_rfl
theorem rv_rec {w : World} {v : Value} {d : MRec} (h : RV recL w v d) : v = .agg #[.int .i64 d.Kind, .int .i64 d.Acct, .int .i64 d.Other, .int .i64 d.To, .int .i64 d.Amt, .int .i64 d.M.Kind, .int .i64 d.M.Acct, .int .i64 d.M.Amt, .int .i64 d.M.Src] := by
  obtain ⟨cs, rfl, hcs⟩ := h
  obtain ⟨_, _, rfl, rfl, ⟨_, _, rfl, rfl, ⟨_, _, rfl, rfl, ⟨_, _, rfl, rfl, ⟨_, _, rfl, rfl, ⟨_, _, rfl, rfl, ⟨_, _, rfl, rfl, ⟨_, _, rfl, rfl, rfl⟩⟩⟩⟩⟩⟩⟩⟩ := hcs
  rfl
theorem rv_rec_mk {w : World} {zKind : Int} {zAcct : Int} {zOther : Int} {zTo : Int} {zAmt : Int} {zM : MMsg} : RV recL w (.agg #[.int .i64 zKind, .int .i64 zAcct, .int .i64 zOther, .int .i64 zTo, .int .i64 zAmt, .int .i64 zM.Kind, .int .i64 zM.Acct, .int .i64 zM.Amt, .int .i64 zM.Src]) ⟨zKind, zAcct, zOther, zTo, zAmt, zM⟩ := by
  exact ⟨_, rfl, [_], _, rfl, rfl, [_], _, rfl, rfl, [_], _, rfl, rfl, [_], _, rfl, rfl, [_], _, rfl, rfl, ⟨[_], _, rfl, rfl, ⟨[_], _, rfl, rfl, ⟨[_], _, rfl, rfl, rfl⟩⟩⟩⟩
theorem ovp_rec {w : World} {d : MRec} {lo hi : Nat} (hc : hi ≤ w.heap.size) : OVp recL w (fun j => lo ≤ j ∧ j < hi) [.int .i64 d.Kind, .int .i64 d.Acct, .int .i64 d.Other, .int .i64 d.To, .int .i64 d.Amt, .int .i64 d.M.Kind, .int .i64 d.M.Acct, .int .i64 d.M.Amt, .int .i64 d.M.Src] d := by
  have h : OVp recL w _ [.int .i64 d.Kind, .int .i64 d.Acct, .int .i64 d.Other, .int .i64 d.To, .int .i64 d.Amt, .int .i64 d.M.Kind, .int .i64 d.M.Acct, .int .i64 d.M.Amt, .int .i64 d.M.Src] d := OVp.iso (f := fun d : MRec => (d.Kind, d.Acct, d.Other, d.To, d.Amt, d.M)) (OVp.cons1 (OVp.cons1 (OVp.cons1 (OVp.cons1 (OVp.cons1 (OVp.iso (f := fun d : MMsg => (d.Kind, d.Acct, d.Amt, d.Src)) (OVp.cons1 (OVp.cons1 (OVp.cons1 OVp.one)))))))))
  exact h.imp (fun _ h => h.elim)
theorem ov_rec {w : World} {d : MRec} {lo hi : Nat} (hc : hi ≤ w.heap.size) : OV recL w lo hi (.agg #[.int .i64 d.Kind, .int .i64 d.Acct, .int .i64 d.Other, .int .i64 d.To, .int .i64 d.Amt, .int .i64 d.M.Kind, .int .i64 d.M.Acct, .int .i64 d.M.Amt, .int .i64 d.M.Src]) d :=
  (ovp_rec (lo := lo) (hi := hi) hc).ov (fun _ h => h) hc
end Go.Proofs.YtkbhbccpmmhelaaDoor
namespace Go.Proofs.YtkbhbccpmmhelaaDoor
open Go.RowKit
set_option linter.unusedVariables false
def amtOkB (k a : Int) : Bool := if k = 1 ∨ k = 2 ∨ k = 3 then amtB a else if k = 4 then inB a 0 3 else if k = 5 then numB a else false
def msgOkB (m : MMsg) : Bool := inB m.Acct 0 2 && (inB m.Src 0 2 && ((m.Kind == 2 || m.Src == 0) && amtOkB m.Kind m.Amt))
theorem msgOk_rest {m : MMsg} (h0 : inB m.Acct 0 2 = true) (h1 : inB m.Src 0 2 = true) (h : m.Kind = 2 ∨ m.Src = 0) : msgOkB m = amtOkB m.Kind m.Amt := by
  unfold msgOkB
  rw [h0, h1]
  rcases h with h | h <;> simp [h]
theorem msgOk_parts {m : MMsg} (h : msgOkB m = true) : (0 ≤ m.Acct ∧ m.Acct ≤ 2) ∧ (0 ≤ m.Src ∧ m.Src ≤ 2) ∧ (m.Kind = 2 ∨ m.Src = 0) ∧ (1 ≤ m.Kind ∧ m.Kind ≤ 5) ∧ (0 ≤ m.Amt ∧ m.Amt ≤ 1125899906842624) := by
  simp only [msgOkB, Bool.and_eq_true, Bool.or_eq_true, beq_iff_eq, inB_true] at h
  obtain ⟨h1, h2, h3, h4⟩ := h
  have h5 : (1 ≤ m.Kind ∧ m.Kind ≤ 5) ∧ (0 ≤ m.Amt ∧ m.Amt ≤ 1125899906842624) := by
    unfold amtOkB at h4
    split at h4
    · unfold amtB at h4; rw [inB_true] at h4; omega
    · split at h4
      · rw [inB_true] at h4; omega
      · split at h4
        · rw [numB_true] at h4; omega
        · cases h4
  exact ⟨h1, h2, h3, h5.1, h5.2⟩
def msgName (k : Int) : ByteArray :=
  if k = 1 then ⟨#[114, 105, 103, 104, 116, 115]⟩ else if k = 2 then ⟨#[99, 114, 101, 100, 105, 116]⟩ else if k = 3 then ⟨#[98, 111, 117, 110, 99, 101]⟩ else if k = 4 then ⟨#[109, 97, 114, 107]⟩ else if k = 5 then ⟨#[114, 101, 112, 111, 114, 116]⟩ else ⟨#[]⟩
end Go.Proofs.YtkbhbccpmmhelaaDoor
namespace Go.Proofs.YtkbhbccpmmhelaaDoor
open Go.RowKit
set_option linter.unusedVariables false

deriving instance DecidableEq for MMsg
theorem msg_held : Tryd.prog.stoodInHeld 24 = false := by kernel_rfl
theorem msg_guard : Tryd.prog.eqGuardType Tryd.prog.depth 24 = false := by kernel_rfl
theorem msg_fields : Tryd.prog.underlying 24 = some (.struct (Tryd.prog.fieldsOf 24)) := by
  unfold Program.fieldsOf; rw [Tryd.underlying24]
theorem eq_msg_run (d : Nat) (W : World) (a b : MMsg) : (Op.equalIn (d + 2) 24 (.agg #[.int .i64 a.Kind, .int .i64 a.Acct, .int .i64 a.Amt, .int .i64 a.Src]) (.agg #[.int .i64 b.Kind, .int .i64 b.Acct, .int .i64 b.Amt, .int .i64 b.Src])).run Tryd.prog W = .ok (decide (a = b)) W := by
  rw [run_equalIn_agg W (d + 1) _ _ _ msg_fields msg_held]
  unfold Program.fieldsOf
  rw [Tryd.underlying24]
  have hu : Tryd.prog.underlying 3 = some (.int .i64) := Tryd.underlying3
  obtain ⟨a1, a2, a3, a4⟩ := a
  obtain ⟨b1, b2, b3, b4⟩ := b
  simp [Op.eqFields, go_sem, hu]
  by_cases e1 : a1 = b1 <;> by_cases e2 : a2 = b2 <;> by_cases e3 : a3 = b3 <;> by_cases e4 : a4 = b4 <;> simp [e1, e2, e3, e4]
theorem neq_msg_run (W : World) (a b : MMsg) : (binOp .neq 24 (.agg #[.int .i64 a.Kind, .int .i64 a.Acct, .int .i64 a.Amt, .int .i64 a.Src]) (.agg #[.int .i64 b.Kind, .int .i64 b.Acct, .int .i64 b.Amt, .int .i64 b.Src])).run Tryd.prog W = .ok (.bool (!decide (a = b))) W := by
  rw [run_neq_struct, eq_msg_run 9998]; rfl
theorem guard_msg_run (op : BinOp) (x y : Operand) (W : World) (xs ys : Array Value) : (eqGuard op 24 x y (.agg xs) (.agg ys)).run Tryd.prog W = .ok () W := run_eqGuard_agg W op _ x y xs ys msg_guard
end Go.Proofs.YtkbhbccpmmhelaaDoor
namespace Go.Proofs.YtkbhbccpmmhelaaDoor
open Go.RowKit
set_option linter.unusedVariables false
def kAcct (k : Int) : Bool := k != 5 && k != 6
def kOther (k : Int) : Bool := k == 4
def kTo (k : Int) : Bool := k == 3 || k == 4 || k == 5 || k == 6 || k == 8 || k == 9
def kAmt (k : Int) : Bool := k != 9
def recAmtB (k a : Int) : Bool := if k ≤ 4 then amtB a else (numB a && (k == 6 || k == 9 || a != 0))
def recMsgB (r : MRec) : Bool := if r.Kind = 5 then msgOkB r.M else decide (r.M = ⟨0, 0, 0, 0⟩)
def recOkB (r : MRec) : Bool := inB r.Kind 1 9 && (inB r.Acct 0 2 && (inB r.Other 0 2 && (inB r.To 0 3 && ((kAcct r.Kind || r.Acct == 0) && ((kOther r.Kind || r.Other == 0) && ((kTo r.Kind || r.To == 0) && ((kAmt r.Kind || r.Amt == 0) && (recAmtB r.Kind r.Amt && recMsgB r))))))))
def recZ : MRec := ⟨0, 0, 0, 0, 0, ⟨0, 0, 0, 0⟩⟩
def rkName (k : Int) : ByteArray :=
  if k = 1 then ⟨#[99, 111, 109, 101]⟩ else if k = 2 then ⟨#[119, 101, 110, 116]⟩ else if k = 3 then ⟨#[103, 105, 118, 101]⟩ else if k = 4 then ⟨#[109, 111, 118, 101]⟩ else if k = 5 then ⟨#[116, 111, 111, 107]⟩ else if k = 6 then ⟨#[104, 101, 97, 114, 100]⟩ else if k = 7 then ⟨#[112, 114, 111, 109]⟩ else if k = 8 then ⟨#[118, 111, 116, 101]⟩ else if k = 9 then ⟨#[115, 104, 117, 116]⟩ else ⟨#[]⟩
theorem recOk_kind {r : MRec} (h : inB r.Kind 1 9 = false) : recOkB r = false := by simp [recOkB, h]
theorem amtB_parts {a : Int} (h : amtB a = true) : 1 ≤ a ∧ a ≤ 1000000000 := by unfold amtB at h; exact inB_true.1 h
theorem recOk_parts {r : MRec} (h : recOkB r = true) : (1 ≤ r.Kind ∧ r.Kind ≤ 9) ∧ (0 ≤ r.Acct ∧ r.Acct ≤ 2) ∧ (0 ≤ r.Other ∧ r.Other ≤ 2) ∧ (0 ≤ r.To ∧ r.To ≤ 3) ∧ (0 ≤ r.Amt ∧ r.Amt ≤ 1125899906842624) ∧ (r.Kind = 5 → msgOkB r.M = true) ∧ (r.Kind ≠ 5 → r.M = ⟨0, 0, 0, 0⟩) := by
  simp only [recOkB, Bool.and_eq_true, inB_true] at h
  obtain ⟨h1, h2, h3, h4, h5, h6, h7, h8, h9, h10⟩ := h
  refine ⟨h1, h2, h3, h4, ?_, ?_, ?_⟩
  · unfold recAmtB at h9
    split at h9
    · have := amtB_parts h9; omega
    · simp only [Bool.and_eq_true, numB_true] at h9; omega
  · intro e; simpa [recMsgB, e] using h10
  · intro e; simpa [recMsgB, e] using h10
end Go.Proofs.YtkbhbccpmmhelaaDoor
namespace Go.Proofs.YtkbhbccpmmhelaaDoor
open Go.RowKit
set_option linter.unusedVariables false
theorem results_tmp4 {fn : Func} {t u v x : Tmp} (h : fn.results = #[.tmp t, .tmp u, .tmp v, .tmp x]) (tmps : Array Value) (P : Program) (w : World) :
    (results fn tmps).run P w = .ok (.tuple #[tmps.getD t undef, tmps.getD u undef, tmps.getD v undef, tmps.getD x undef]) w := by
  simp [results, h]
set_option maxHeartbeats 2000000 in
theorem sHas_c (k : Int) (w : World) : Calls Tryd.prog 42 #[.int .i64 k] w fun e w' => e = .returned (.tuple #[.bool (kAcct k), .bool (kOther k), .bool (kTo k), .bool (kAmt k)]) ∧ w = w' := by
  by_cases h15 : 1 ≤ k ∧ k ≤ 9
  case pos =>
    have h5 : k = 1 ∨ k = 2 ∨ k = 3 ∨ k = 4 ∨ k = 5 ∨ k = 6 ∨ k = 7 ∨ k = 8 ∨ k = 9 := by omega
    clear h15
    rcases h5 with rfl | rfl | rfl | rfl | rfl | rfl | rfl | rfl | rfl
    all_goals
      go_enter Tryd.func42, Tryd.ntmps42
      go_wp2
      refine bodyPost_ret (results_tmp4 rfl _ _ _) rfl ?_
      exact ⟨rfl, rfl⟩
  have e0 : kAcct k = true ∧ kOther k = false ∧ kTo k = false ∧ kAmt k = true := by simp [kAcct, kOther, kTo, kAmt]; omega
  rw [e0.1, e0.2.1, e0.2.2.1, e0.2.2.2]
  have n5 : (k != 5) = true := by simp; omega
  have n6 : (k != 6) = true := by simp; omega
  have n9 : (k != 9) = true := by simp; omega
  have q3 : (k == 3) = false := by simp; omega
  have q4 : (k == 4) = false := by simp; omega
  have q5 : (k == 5) = false := by simp; omega
  have q6 : (k == 6) = false := by simp; omega
  have q8 : (k == 8) = false := by simp; omega
  have q9 : (k == 9) = false := by simp; omega
  clear h15 e0
  go_enter Tryd.func42, Tryd.ntmps42
  go_wp2
  refine bodyPost_ret (results_tmp4 rfl _ _ _) rfl ?_
  exact ⟨rfl, rfl⟩
theorem sHas_1 (w : World) : Calls Tryd.prog 42 #[.int .i64 1] w fun e w' => e = .returned (.tuple #[.bool true, .bool false, .bool false, .bool true]) ∧ w = w' := by
  have hh := sHas_c 1 w
  rw [show kAcct 1 = true from rfl, show kOther 1 = false from rfl, show kTo 1 = false from rfl, show kAmt 1 = true from rfl] at hh
  exact hh
theorem sHas_2 (w : World) : Calls Tryd.prog 42 #[.int .i64 2] w fun e w' => e = .returned (.tuple #[.bool true, .bool false, .bool false, .bool true]) ∧ w = w' := by
  have hh := sHas_c 2 w
  rw [show kAcct 2 = true from rfl, show kOther 2 = false from rfl, show kTo 2 = false from rfl, show kAmt 2 = true from rfl] at hh
  exact hh
theorem sHas_3 (w : World) : Calls Tryd.prog 42 #[.int .i64 3] w fun e w' => e = .returned (.tuple #[.bool true, .bool false, .bool true, .bool true]) ∧ w = w' := by
  have hh := sHas_c 3 w
  rw [show kAcct 3 = true from rfl, show kOther 3 = false from rfl, show kTo 3 = true from rfl, show kAmt 3 = true from rfl] at hh
  exact hh
theorem sHas_4 (w : World) : Calls Tryd.prog 42 #[.int .i64 4] w fun e w' => e = .returned (.tuple #[.bool true, .bool true, .bool true, .bool true]) ∧ w = w' := by
  have hh := sHas_c 4 w
  rw [show kAcct 4 = true from rfl, show kOther 4 = true from rfl, show kTo 4 = true from rfl, show kAmt 4 = true from rfl] at hh
  exact hh
theorem sHas_5 (w : World) : Calls Tryd.prog 42 #[.int .i64 5] w fun e w' => e = .returned (.tuple #[.bool false, .bool false, .bool true, .bool true]) ∧ w = w' := by
  have hh := sHas_c 5 w
  rw [show kAcct 5 = false from rfl, show kOther 5 = false from rfl, show kTo 5 = true from rfl, show kAmt 5 = true from rfl] at hh
  exact hh
theorem sHas_6 (w : World) : Calls Tryd.prog 42 #[.int .i64 6] w fun e w' => e = .returned (.tuple #[.bool false, .bool false, .bool true, .bool true]) ∧ w = w' := by
  have hh := sHas_c 6 w
  rw [show kAcct 6 = false from rfl, show kOther 6 = false from rfl, show kTo 6 = true from rfl, show kAmt 6 = true from rfl] at hh
  exact hh
theorem sHas_7 (w : World) : Calls Tryd.prog 42 #[.int .i64 7] w fun e w' => e = .returned (.tuple #[.bool true, .bool false, .bool false, .bool true]) ∧ w = w' := by
  have hh := sHas_c 7 w
  rw [show kAcct 7 = true from rfl, show kOther 7 = false from rfl, show kTo 7 = false from rfl, show kAmt 7 = true from rfl] at hh
  exact hh
theorem sHas_8 (w : World) : Calls Tryd.prog 42 #[.int .i64 8] w fun e w' => e = .returned (.tuple #[.bool true, .bool false, .bool true, .bool true]) ∧ w = w' := by
  have hh := sHas_c 8 w
  rw [show kAcct 8 = true from rfl, show kOther 8 = false from rfl, show kTo 8 = true from rfl, show kAmt 8 = true from rfl] at hh
  exact hh
theorem sHas_9 (w : World) : Calls Tryd.prog 42 #[.int .i64 9] w fun e w' => e = .returned (.tuple #[.bool true, .bool false, .bool true, .bool false]) ∧ w = w' := by
  have hh := sHas_c 9 w
  rw [show kAcct 9 = true from rfl, show kOther 9 = false from rfl, show kTo 9 = true from rfl, show kAmt 9 = false from rfl] at hh
  exact hh
end Go.Proofs.YtkbhbccpmmhelaaDoor
namespace Go.Proofs.YtkbhbccpmmhelaaDoor
open Go.RowKit
set_option linter.unusedVariables false
theorem putsL_true {zs ns : List Int} (h : ns.all numB = true) : putsL zs ns = zs ++ encs ns := by unfold putsL; rw [if_pos h]
theorem all_cons {N : Nat} {ns : List Int} (hN : N ≤ 1125899906842624) : ((N : Int) :: ns).all numB = ns.all numB := by
  rw [List.all_cons, numB_true.2 (by omega), Bool.true_and]
end Go.Proofs.YtkbhbccpmmhelaaDoor
namespace Go.Proofs.YtkbhbccpmmhelaaDoor
open Go.RowKit
set_option linter.unusedVariables false
def msgNums (m : MMsg) : List Int := [m.Kind, m.Acct, m.Amt, m.Src]
def msgPut (zs : List Int) (m : MMsg) : List Int := if msgOkB m then zs ++ encs (msgNums m) else []
theorem msgNums_ok {m : MMsg} (h : msgOkB m = true) : (msgNums m).all numB = true := by
  obtain ⟨h1, h2, h3, h4, h5⟩ := msgOk_parts h
  have k1 := numB_true.2 (show 0 ≤ m.Kind ∧ m.Kind ≤ 1125899906842624 by omega)
  have k2 := numB_true.2 (show 0 ≤ m.Acct ∧ m.Acct ≤ 1125899906842624 by omega)
  have k3 := numB_true.2 (show 0 ≤ m.Amt ∧ m.Amt ≤ 1125899906842624 by omega)
  have k4 := numB_true.2 (show 0 ≤ m.Src ∧ m.Src ≤ 1125899906842624 by omega)
  simp [msgNums, k1, k2, k3, k4]
end Go.Proofs.YtkbhbccpmmhelaaDoor
namespace Go.Proofs.YtkbhbccpmmhelaaDoor
open Go.RowKit
set_option linter.unusedVariables false
def rdMsg (zs : List Int) (p : Int) (bad : Bool) : MMsg × Int × Bool :=
  let a := rdNum zs p bad
  let b := rdNum zs a.2.1 a.2.2
  let c := rdNum zs b.2.1 b.2.2
  let d := rdNum zs c.2.1 c.2.2
  (⟨a.1, b.1, c.1, d.1⟩, d.2.1, d.2.2 || !msgOkB ⟨a.1, b.1, c.1, d.1⟩)
def msgZ : MMsg := ⟨0, 0, 0, 0⟩
def msgGetB (zs : List Int) (a : Int) : Bool := !(rdMsg zs a false).2.2
def msgGetM (zs : List Int) (a : Int) : MMsg := if msgGetB zs a then (rdMsg zs a false).1 else msgZ
def msgGetP (zs : List Int) (a : Int) : Int := if msgGetB zs a then (rdMsg zs a false).2.1 else 0
end Go.Proofs.YtkbhbccpmmhelaaDoor
namespace Go.Proofs.YtkbhbccpmmhelaaDoor
open Go.RowKit
set_option linter.unusedVariables false
end Go.Proofs.YtkbhbccpmmhelaaDoor
namespace Go.Proofs.YtkbhbccpmmhelaaDoor
open Go.RowKit
set_option linter.unusedVariables false
set_option linter.unusedSimpArgs false
end Go.Proofs.YtkbhbccpmmhelaaDoor
namespace Go.Proofs.YtkbhbccpmmhelaaDoor
open Go.RowKit
set_option linter.unusedVariables false
set_option linter.unusedSimpArgs false
end Go.Proofs.YtkbhbccpmmhelaaDoor
namespace Go.Proofs.YtkbhbccpmmhelaaDoor
open Go.RowKit
set_option linter.unusedVariables false
set_option linter.unusedSimpArgs false
end Go.Proofs.YtkbhbccpmmhelaaDoor
namespace Go.Proofs.YtkbhbccpmmhelaaDoor
open Go.RowKit
set_option linter.unusedVariables false
set_option linter.unusedSimpArgs false
end Go.Proofs.YtkbhbccpmmhelaaDoor
namespace Go.Proofs.YtkbhbccpmmhelaaDoor
open Go.RowKit
set_option linter.unusedVariables false
end Go.Proofs.YtkbhbccpmmhelaaDoor
namespace Go.Proofs.YtkbhbccpmmhelaaDoor
open Go.RowKit
set_option linter.unusedVariables false
def recHead (r : MRec) : List Int := [r.Kind, r.Acct, r.Other, r.To, r.Amt]
def recBytes (r : MRec) : List Int := if recOkB r = true then (if r.Kind = 5 then encs (recHead r) ++ encs (msgNums r.M) else encs (recHead r)) else []
theorem recHead_ok {r : MRec} (h : recOkB r = true) : (recHead r).all numB = true := by
  obtain ⟨h1, h2, h3, h4, h5, -, -⟩ := recOk_parts h
  have k1 := numB_true.2 (show 0 ≤ r.Kind ∧ r.Kind ≤ 1125899906842624 by omega)
  have k2 := numB_true.2 (show 0 ≤ r.Acct ∧ r.Acct ≤ 1125899906842624 by omega)
  have k3 := numB_true.2 (show 0 ≤ r.Other ∧ r.Other ≤ 1125899906842624 by omega)
  have k4 := numB_true.2 (show 0 ≤ r.To ∧ r.To ≤ 1125899906842624 by omega)
  have k5 := numB_true.2 (show 0 ≤ r.Amt ∧ r.Amt ≤ 1125899906842624 by omega)
  simp [recHead, k1, k2, k3, k4, k5]
theorem recBytes_len (r : MRec) : (recBytes r).length ≤ 72 := by
  unfold recBytes
  split
  · rename_i h
    have h1 := encs_len _ (recHead_ok h)
    have e1 : (recHead r).length = 5 := rfl
    split
    · rename_i h5
      have h2 := encs_len _ (msgNums_ok ((recOk_parts h).2.2.2.2.2.1 h5))
      have e2 : (msgNums r.M).length = 4 := rfl
      rw [List.length_append]
      omega
    · omega
  · simp
end Go.Proofs.YtkbhbccpmmhelaaDoor
namespace Go.Proofs.YtkbhbccpmmhelaaDoor
open Go.RowKit
set_option linter.unusedVariables false
set_option maxHeartbeats 4000000 in
theorem iRkName_w (k : Int) (w : World) : Calls Tryd.prog 12 #[.int .i64 k] w fun e w' => e = .returned (.string (rkName k)) ∧ w = w' := by
  by_cases hk : 1 ≤ k ∧ k ≤ 9
  · have h9 : k = 1 ∨ k = 2 ∨ k = 3 ∨ k = 4 ∨ k = 5 ∨ k = 6 ∨ k = 7 ∨ k = 8 ∨ k = 9 := by omega
    clear hk
    rcases h9 with rfl | rfl | rfl | rfl | rfl | rfl | rfl | rfl | rfl
    all_goals
      go_enter Tryd.func12, Tryd.ntmps12
      go_wp2
      go_ret
      exact ⟨rfl, rfl⟩
  · rw [show rkName k = ⟨#[]⟩ by unfold rkName; rw [if_neg (by omega), if_neg (by omega), if_neg (by omega), if_neg (by omega), if_neg (by omega), if_neg (by omega), if_neg (by omega), if_neg (by omega), if_neg (by omega)]]
    have k1 : (k == 1) = false := by simp; omega
    have k2 : (k == 2) = false := by simp; omega
    have k3 : (k == 3) = false := by simp; omega
    have k4 : (k == 4) = false := by simp; omega
    have k5 : (k == 5) = false := by simp; omega
    have k6 : (k == 6) = false := by simp; omega
    have k7 : (k == 7) = false := by simp; omega
    have k8 : (k == 8) = false := by simp; omega
    have k9 : (k == 9) = false := by simp; omega
    clear hk
    go_enter Tryd.func12, Tryd.ntmps12
    go_wp2
    go_ret
    exact ⟨rfl, rfl⟩
theorem iRkName_c (k : Int) (w : World) : Calls Tryd.prog 12 #[.int .i64 k] w fun e w' => e = .returned (.string (rkName k)) ∧ Below w.heap.size w w' := by
  refine (iRkName_w k w).mono ?_
  rintro e w' ⟨rfl, rfl⟩
  exact ⟨rfl, Below.refl _ _⟩
end Go.Proofs.YtkbhbccpmmhelaaDoor
namespace Go.Proofs.YtkbhbccpmmhelaaDoor
open Go.RowKit
open Go.Maps (Keyed)
set_option linter.unusedVariables false
def fnElem (v : Value) : Option (DataW Unit × List MemPlace) :=
  match v with
  | .func (.func n) a b => if a.size = 0 ∧ b.size = 0 then some (.lit (.int .i64 n), []) else none
  | _ => none
theorem fnElem_mk (n : Nat) : fnElem (.func (.func n) #[] #[]) = some (.lit (.int .i64 n), []) := by simp [fnElem]
theorem fnElem_inv {v : Value} {z : DataW Unit × List MemPlace} (h : fnElem v = some z) : ∃ m : Nat, v = .func (.func m) #[] #[] ∧ z.1 = .lit (.int .i64 m) := by
  unfold fnElem at h
  split at h
  · rename_i n a b
    split at h
    · rename_i hc
      have h1 := Array.eq_empty_of_size_eq_zero hc.1
      have h2 := Array.eq_empty_of_size_eq_zero hc.2
      subst h1; subst h2
      exact ⟨n, rfl, by rw [← Option.some.inj h]⟩
    · cases h
  · cases h
theorem str_law : Keyed Tryd.prog 9 := Maps.string_keyed Tryd.underlying9
theorem lit_inj {a b : Int} (h : (DataW.lit (.int .i64 a) : DataW Unit) = .lit (.int .i64 b)) : a = b := by
  injection h with h
  injection h
def fnOf (x : Option Nat) : Int := match x with | some n => (n : Int) | none => -1
def FM (w : World) (b N : Nat) (p : ByteArray → Option Nat) : Prop :=
  ∃ D : DataW Unit, w.ownsMap Tryd.prog 9 fnElem b N D ∧ ∀ s : ByteArray, D.atKey (.string s.data.toList) (.lit (.int .i64 (-1))) = .lit (.int .i64 (fnOf (p s)))
theorem below_fm {b : Nat} {a w w' : World} (h : Below a.heap.size a w) (hg : w.grownBy w' (some b)) (hB : a.heap.size ≤ b) : Below a.heap.size a w' := h.grown hg h.size (fun k hk => by cases hk; exact hB)
theorem lits_ne {s t : ByteArray} (h : s ≠ t) : (Lit.string s.data.toList) ≠ (Lit.string t.data.toList) := fun e => h (by
  injection e with e
  exact ByteArray.ext (Array.toList_inj.1 e))
section
variable {w w' : World} {b N : Nat} {p q : ByteArray → Option Nat} {s : ByteArray}
theorem FM.made (w : World) : FM (w.alloc (.map #[] 0)) w.heap.size 0 (fun _ => none) := ⟨_, World.ownsMap_made w _ _ _, fun z => rfl⟩
theorem FM.lt (h : FM w b N p) : b < w.heap.size := by
  obtain ⟨D, h, -⟩ := h
  exact h.lt
theorem FM.below (h : FM w b N p) (hb : Below w.heap.size w w') : FM w' b N p := by
  have hlt := h.lt
  obtain ⟨D, ⟨es, clock, h1, r1⟩, r⟩ := h
  exact ⟨D, ⟨es, clock, (hb.block b hlt).trans h1, r1⟩, r⟩
theorem fm_key (hs : s.size ≤ 1000) : keyOf Tryd.prog 9 (.string s) = some (.string s.data.toList) := WideMaps.keyOf_string_mk Tryd.underlying9 (by unfold maxLen; omega)
theorem fm_zero (w : World) : (zeroValue 92).run Tryd.prog w = .ok .nilFunc w := by kernel_rfl
theorem FM.look (h : FM w b N p) (hs : s.size ≤ 1000) : (Instr.lookup 93 (.map (some b)) (.string s) true).run Tryd.prog w = .ok (match p s with | some n => .tuple #[.func (.func n) #[] #[], .bool true] | none => .tuple #[.nilFunc, .bool false]) w := by
  obtain ⟨D, ⟨es, clock, hb, F, _, rfl⟩, r⟩ := h
  have r := r s
  rcases Maps.fit_look true str_law Tryd.underlying93 (fm_zero w) hb F (fm_key hs) with ⟨hrun, _, hat⟩ | ⟨e0, y, _, _, hrun, hRv, hat, _⟩
  · rw [hat] at r
    have : fnOf (p s) = -1 := (lit_inj r).symm
    cases hp : p s with
    | none => exact hrun
    | some n => rw [hp] at this; simp [fnOf] at this
  · obtain ⟨m, hv, hm⟩ := fnElem_inv hRv
    rw [hat, hm] at r
    have : (m : Int) = fnOf (p s) := lit_inj r
    cases hp : p s with
    | none => rw [hp] at this; simp [fnOf] at this
    | some n =>
      rw [hp] at this
      have e : m = n := by simp [fnOf] at this; omega
      subst e
      rw [hv] at hrun
      exact hrun
theorem FM.put {D : DataW Unit} {n : Nat} (ho : w'.ownsMap Tryd.prog 9 fnElem b (N + 1) (D.put (.string s.data.toList) (.lit (.int .i64 n)))) (hi : Maps.IsMap D) (r : ∀ s : ByteArray, D.atKey (.string s.data.toList) (.lit (.int .i64 (-1))) = .lit (.int .i64 (fnOf (p s)))) :
    FM w' b (N + 1) (fun y => if y = s then some n else p y) := by
  refine ⟨_, ho, fun y => ?_⟩
  by_cases e : y = s
  · subst e
    rw [Maps.atKey_put_same hi (show WideAt.IsKeyLit (.string y.data.toList) from trivial)]; simp [fnOf]
  · rw [Maps.atKey_put_other (lits_ne e), r y]; simp [e]
end
section
variable (w : World) {ops : Array Oper} {rest : List Oper} {o : Oper} {a : Act} {Q : Exit → Act → World → Prop}
theorem wpl_fmPut (s : ByteArray) (n : Nat) (hg : o.guard = none) (m x v : Operand) (hop : o.op = Op.insert 93 m x v) {b N : Nat} {p : ByteArray → Option Nat} (hs : FM w b N p) (hm : a.eval m = .map (some b)) (hx : a.eval x = .string s) (hv : a.eval v = .func (.func n) #[] #[]) (hz : s.size ≤ 1000) (hN : N ≤ 1000)
    (hK : ∀ w', FM w' b (N + 1) (fun y => if y = s then some n else p y) → w.grownBy w' (some b) → wpList Tryd.prog ops Q rest (a.put o.dst undef) w') : wpList Tryd.prog ops Q (o :: rest) a w := by
  obtain ⟨D, ho, r⟩ := hs
  refine wpList_plain hg fun K' hK' => ?_
  obtain ⟨w', hrun, r1, r2⟩ := ho.update str_law Tryd.underlying93 (by unfold maxLen; omega) (fm_key hz) (fnElem_mk n)
  unfold Oper.wp
  simp [execOp, hop, hm, hx, hv, hrun, Result.andThen]
  exact hK' _ _ (hK w' (FM.put r1 (ho.tidy str_law).isMap r) r2)
theorem wpl_fmLook (hg : o.guard = none) (m x : Operand) (hop : o.op = Op.lookup 93 m x true) {b N : Nat} {p : ByteArray → Option Nat} {s : ByteArray} (hs : FM w b N p) (hm : a.eval m = .map (some b)) (hx : a.eval x = .string s) (hz : s.size ≤ 1000) {v : Value} (hr : (match p s with | some n => Value.tuple #[.func (.func n) #[] #[], .bool true] | none => .tuple #[.nilFunc, .bool false]) = v)
    (hK : wpList Tryd.prog ops Q rest (a.put o.dst v) w) : wpList Tryd.prog ops Q (o :: rest) a w := by
  subst hr
  refine wpList_plain hg fun K' hK' => ?_
  unfold Oper.wp
  simp [execOp, hop, hm, hx, hs.look hz, Result.andThen]
  exact hK' _ _ hK
end
theorem i_acctAmt {w : World} {b : Nat} {cs : List Value} (x_a : Vr w b 26 cs) : Calls Tryd.prog 55 #[.pointer (some ⟨b, 0, none⟩)] w fun e w' => ∃ B T, e = .returned (.slice (some ⟨B, 0, none⟩) 2 2) ∧ Vr w' B T [.pointer (some ⟨b, 1, none⟩), .pointer (some ⟨b, 4, none⟩)] ∧ w.heap.size ≤ B ∧ Below w.heap.size w w' := by
  go_enter Tryd.func55, Tryd.ntmps55
  go_wp2_with fail
  go_region
  go_wp2
  go_ret
  exact ⟨_, _, rfl, Vr.new _ _ _, Nat.le_refl _, (Below.refl _ _).drew.alloc (Nat.le_refl _) _⟩
theorem i_acctTo {w : World} {b : Nat} {cs : List Value} (x_a : Vr w b 26 cs) : Calls Tryd.prog 59 #[.pointer (some ⟨b, 0, none⟩)] w fun e w' => ∃ B T, e = .returned (.slice (some ⟨B, 0, none⟩) 2 2) ∧ Vr w' B T [.pointer (some ⟨b, 1, none⟩), .pointer (some ⟨b, 3, none⟩)] ∧ w.heap.size ≤ B ∧ Below w.heap.size w w' := by
  go_enter Tryd.func59, Tryd.ntmps59
  go_wp2_with fail
  go_region
  go_wp2
  go_ret
  exact ⟨_, _, rfl, Vr.new _ _ _, Nat.le_refl _, (Below.refl _ _).drew.alloc (Nat.le_refl _) _⟩
theorem i_toAmt {w : World} {b : Nat} {cs : List Value} (x_a : Vr w b 26 cs) : Calls Tryd.prog 58 #[.pointer (some ⟨b, 0, none⟩)] w fun e w' => ∃ B T, e = .returned (.slice (some ⟨B, 0, none⟩) 2 2) ∧ Vr w' B T [.pointer (some ⟨b, 3, none⟩), .pointer (some ⟨b, 4, none⟩)] ∧ w.heap.size ≤ B ∧ Below w.heap.size w w' := by
  go_enter Tryd.func58, Tryd.ntmps58
  go_wp2_with fail
  go_region
  go_wp2
  go_ret
  exact ⟨_, _, rfl, Vr.new _ _ _, Nat.le_refl _, (Below.refl _ _).drew.alloc (Nat.le_refl _) _⟩
theorem i_acctToAmt {w : World} {b : Nat} {cs : List Value} (x_a : Vr w b 26 cs) : Calls Tryd.prog 56 #[.pointer (some ⟨b, 0, none⟩)] w fun e w' => ∃ B T, e = .returned (.slice (some ⟨B, 0, none⟩) 3 3) ∧ Vr w' B T [.pointer (some ⟨b, 1, none⟩), .pointer (some ⟨b, 3, none⟩), .pointer (some ⟨b, 4, none⟩)] ∧ w.heap.size ≤ B ∧ Below w.heap.size w w' := by
  go_enter Tryd.func56, Tryd.ntmps56
  go_wp2_with fail
  go_region
  go_wp2
  go_ret
  exact ⟨_, _, rfl, Vr.new _ _ _, Nat.le_refl _, (Below.refl _ _).drew.alloc (Nat.le_refl _) _⟩
theorem i_allNums {w : World} {b : Nat} {cs : List Value} (x_a : Vr w b 26 cs) : Calls Tryd.prog 57 #[.pointer (some ⟨b, 0, none⟩)] w fun e w' => ∃ B T, e = .returned (.slice (some ⟨B, 0, none⟩) 4 4) ∧ Vr w' B T [.pointer (some ⟨b, 1, none⟩), .pointer (some ⟨b, 2, none⟩), .pointer (some ⟨b, 3, none⟩), .pointer (some ⟨b, 4, none⟩)] ∧ w.heap.size ≤ B ∧ Below w.heap.size w w' := by
  go_enter Tryd.func57, Tryd.ntmps57
  go_wp2_with fail
  go_region
  go_wp2
  go_ret
  exact ⟨_, _, rfl, Vr.new _ _ _, Nat.le_refl _, (Below.refl _ _).drew.alloc (Nat.le_refl _) _⟩
set_option maxRecDepth 100000 in
set_option maxHeartbeats 4000000 in
theorem iUsed_0 {w : World} {b : Nat} {cs : List Value} (x_a : Vr w b 26 cs) (h0 : cs[0]? = some (.int .i64 0)) : Calls Tryd.prog 28 #[.pointer (some ⟨b, 0, none⟩)] w fun e w' => e = .returned (.slice none 0 0) ∧ Below w.heap.size w w' := by
  have hmm := @run_makeMap Tryd.prog
  have hM := FM.made w
  have B0 : Below w.heap.size w (w.alloc (.map #[] 0)) := (Below.refl _ _).alloc (Nat.le_refl _) _
  generalize hw0 : w.alloc (.map #[] 0) = w0 at hM B0
  go_enter Tryd.func28, Tryd.ntmps28
  go_wp2_with (refine wpl_fmPut _ ⟨#[99, 111, 109, 101]⟩ 55 rfl _ _ _ rfl hM rfl rfl rfl (by decide) (by omega) ?_)
  intro w1 hM hg
  have B1 := below_fm B0 hg (Nat.le_refl _)
  clear hg
  go_wp2_with (refine wpl_fmPut _ ⟨#[119, 101, 110, 116]⟩ 55 rfl _ _ _ rfl hM rfl rfl rfl (by decide) (by omega) ?_)
  intro w2 hM hg
  have B2 := below_fm B1 hg (Nat.le_refl _)
  clear hg
  go_wp2_with (refine wpl_fmPut _ ⟨#[103, 105, 118, 101]⟩ 56 rfl _ _ _ rfl hM rfl rfl rfl (by decide) (by omega) ?_)
  intro w3 hM hg
  have B3 := below_fm B2 hg (Nat.le_refl _)
  clear hg
  go_wp2_with (refine wpl_fmPut _ ⟨#[109, 111, 118, 101]⟩ 57 rfl _ _ _ rfl hM rfl rfl rfl (by decide) (by omega) ?_)
  intro w4 hM hg
  have B4 := below_fm B3 hg (Nat.le_refl _)
  clear hg
  go_wp2_with (refine wpl_fmPut _ ⟨#[116, 111, 111, 107]⟩ 58 rfl _ _ _ rfl hM rfl rfl rfl (by decide) (by omega) ?_)
  intro w5 hM hg
  have B5 := below_fm B4 hg (Nat.le_refl _)
  clear hg
  go_wp2_with (refine wpl_fmPut _ ⟨#[104, 101, 97, 114, 100]⟩ 58 rfl _ _ _ rfl hM rfl rfl rfl (by decide) (by omega) ?_)
  intro w6 hM hg
  have B6 := below_fm B5 hg (Nat.le_refl _)
  clear hg
  go_wp2_with (refine wpl_fmPut _ ⟨#[112, 114, 111, 109]⟩ 55 rfl _ _ _ rfl hM rfl rfl rfl (by decide) (by omega) ?_)
  intro w7 hM hg
  have B7 := below_fm B6 hg (Nat.le_refl _)
  clear hg
  go_wp2_with (refine wpl_fmPut _ ⟨#[118, 111, 116, 101]⟩ 56 rfl _ _ _ rfl hM rfl rfl rfl (by decide) (by omega) ?_)
  intro w8 hM hg
  have B8 := below_fm B7 hg (Nat.le_refl _)
  clear hg
  go_wp2_with (refine wpl_fmPut _ ⟨#[115, 104, 117, 116]⟩ 59 rfl _ _ _ rfl hM rfl rfl rfl (by decide) (by omega) ?_)
  intro w9 hM hg
  have B9 := below_fm B8 hg (Nat.le_refl _)
  clear hg
  replace x_a := x_a.from_ B9
  have c0 := x_a.cell h0
  go_wp2_with fail
  refine (iRkName_w _ _).mono ?_
  rintro e w' ⟨rfl, rfl⟩
  go_wp2_with (refine wpl_fmLook _ rfl _ _ rfl hM rfl rfl (by decide) (v := .tuple #[.nilFunc, .bool false]) (by rfl) ?_)
  go_wp2
  go_ret
  exact ⟨rfl, B9⟩
set_option maxRecDepth 100000 in
set_option maxHeartbeats 4000000 in
theorem iUsed_1 {w : World} {b : Nat} {cs : List Value} (x_a : Vr w b 26 cs) (h0 : cs[0]? = some (.int .i64 1)) : Calls Tryd.prog 28 #[.pointer (some ⟨b, 0, none⟩)] w fun e w' => ∃ B T, e = .returned (.slice (some ⟨B, 0, none⟩) 2 2) ∧ Vr w' B T [.pointer (some ⟨b, 1, none⟩), .pointer (some ⟨b, 4, none⟩)] ∧ w.heap.size ≤ B ∧ Below w.heap.size w w' := by
  have eg : ∀ args w, (callFunc 55 args).run Tryd.prog w = .ok (.enter 55 args) w := enters_of Tryd.func55 (by kernel_rfl) rfl
  have hmm := @run_makeMap Tryd.prog
  have hM := FM.made w
  have B0 : Below w.heap.size w (w.alloc (.map #[] 0)) := (Below.refl _ _).alloc (Nat.le_refl _) _
  generalize hw0 : w.alloc (.map #[] 0) = w0 at hM B0
  go_enter Tryd.func28, Tryd.ntmps28
  go_wp2_with (refine wpl_fmPut _ ⟨#[99, 111, 109, 101]⟩ 55 rfl _ _ _ rfl hM rfl rfl rfl (by decide) (by omega) ?_)
  intro w1 hM hg
  have B1 := below_fm B0 hg (Nat.le_refl _)
  clear hg
  go_wp2_with (refine wpl_fmPut _ ⟨#[119, 101, 110, 116]⟩ 55 rfl _ _ _ rfl hM rfl rfl rfl (by decide) (by omega) ?_)
  intro w2 hM hg
  have B2 := below_fm B1 hg (Nat.le_refl _)
  clear hg
  go_wp2_with (refine wpl_fmPut _ ⟨#[103, 105, 118, 101]⟩ 56 rfl _ _ _ rfl hM rfl rfl rfl (by decide) (by omega) ?_)
  intro w3 hM hg
  have B3 := below_fm B2 hg (Nat.le_refl _)
  clear hg
  go_wp2_with (refine wpl_fmPut _ ⟨#[109, 111, 118, 101]⟩ 57 rfl _ _ _ rfl hM rfl rfl rfl (by decide) (by omega) ?_)
  intro w4 hM hg
  have B4 := below_fm B3 hg (Nat.le_refl _)
  clear hg
  go_wp2_with (refine wpl_fmPut _ ⟨#[116, 111, 111, 107]⟩ 58 rfl _ _ _ rfl hM rfl rfl rfl (by decide) (by omega) ?_)
  intro w5 hM hg
  have B5 := below_fm B4 hg (Nat.le_refl _)
  clear hg
  go_wp2_with (refine wpl_fmPut _ ⟨#[104, 101, 97, 114, 100]⟩ 58 rfl _ _ _ rfl hM rfl rfl rfl (by decide) (by omega) ?_)
  intro w6 hM hg
  have B6 := below_fm B5 hg (Nat.le_refl _)
  clear hg
  go_wp2_with (refine wpl_fmPut _ ⟨#[112, 114, 111, 109]⟩ 55 rfl _ _ _ rfl hM rfl rfl rfl (by decide) (by omega) ?_)
  intro w7 hM hg
  have B7 := below_fm B6 hg (Nat.le_refl _)
  clear hg
  go_wp2_with (refine wpl_fmPut _ ⟨#[118, 111, 116, 101]⟩ 56 rfl _ _ _ rfl hM rfl rfl rfl (by decide) (by omega) ?_)
  intro w8 hM hg
  have B8 := below_fm B7 hg (Nat.le_refl _)
  clear hg
  go_wp2_with (refine wpl_fmPut _ ⟨#[115, 104, 117, 116]⟩ 59 rfl _ _ _ rfl hM rfl rfl rfl (by decide) (by omega) ?_)
  intro w9 hM hg
  have B9 := below_fm B8 hg (Nat.le_refl _)
  clear hg
  replace x_a := x_a.from_ B9
  have c0 := x_a.cell h0
  go_wp2_with fail
  refine (iRkName_w _ _).mono ?_
  rintro e w' ⟨rfl, rfl⟩
  go_wp2_with (refine wpl_fmLook _ rfl _ _ rfl hM rfl rfl (by decide) (v := .tuple #[.func (.func 55) #[] #[], .bool true]) (by rfl) ?_)
  go_wp2_with fail
  refine (i_acctAmt x_a).mono ?_
  rintro e w' ⟨B, T, rfl, x, hB, hb⟩
  go_wp2
  go_ret
  exact ⟨B, T, rfl, x, Nat.le_trans B9.size hB, B9.trans (hb.mono B9.size)⟩
set_option maxRecDepth 100000 in
set_option maxHeartbeats 4000000 in
theorem iUsed_2 {w : World} {b : Nat} {cs : List Value} (x_a : Vr w b 26 cs) (h0 : cs[0]? = some (.int .i64 2)) : Calls Tryd.prog 28 #[.pointer (some ⟨b, 0, none⟩)] w fun e w' => ∃ B T, e = .returned (.slice (some ⟨B, 0, none⟩) 2 2) ∧ Vr w' B T [.pointer (some ⟨b, 1, none⟩), .pointer (some ⟨b, 4, none⟩)] ∧ w.heap.size ≤ B ∧ Below w.heap.size w w' := by
  have eg : ∀ args w, (callFunc 55 args).run Tryd.prog w = .ok (.enter 55 args) w := enters_of Tryd.func55 (by kernel_rfl) rfl
  have hmm := @run_makeMap Tryd.prog
  have hM := FM.made w
  have B0 : Below w.heap.size w (w.alloc (.map #[] 0)) := (Below.refl _ _).alloc (Nat.le_refl _) _
  generalize hw0 : w.alloc (.map #[] 0) = w0 at hM B0
  go_enter Tryd.func28, Tryd.ntmps28
  go_wp2_with (refine wpl_fmPut _ ⟨#[99, 111, 109, 101]⟩ 55 rfl _ _ _ rfl hM rfl rfl rfl (by decide) (by omega) ?_)
  intro w1 hM hg
  have B1 := below_fm B0 hg (Nat.le_refl _)
  clear hg
  go_wp2_with (refine wpl_fmPut _ ⟨#[119, 101, 110, 116]⟩ 55 rfl _ _ _ rfl hM rfl rfl rfl (by decide) (by omega) ?_)
  intro w2 hM hg
  have B2 := below_fm B1 hg (Nat.le_refl _)
  clear hg
  go_wp2_with (refine wpl_fmPut _ ⟨#[103, 105, 118, 101]⟩ 56 rfl _ _ _ rfl hM rfl rfl rfl (by decide) (by omega) ?_)
  intro w3 hM hg
  have B3 := below_fm B2 hg (Nat.le_refl _)
  clear hg
  go_wp2_with (refine wpl_fmPut _ ⟨#[109, 111, 118, 101]⟩ 57 rfl _ _ _ rfl hM rfl rfl rfl (by decide) (by omega) ?_)
  intro w4 hM hg
  have B4 := below_fm B3 hg (Nat.le_refl _)
  clear hg
  go_wp2_with (refine wpl_fmPut _ ⟨#[116, 111, 111, 107]⟩ 58 rfl _ _ _ rfl hM rfl rfl rfl (by decide) (by omega) ?_)
  intro w5 hM hg
  have B5 := below_fm B4 hg (Nat.le_refl _)
  clear hg
  go_wp2_with (refine wpl_fmPut _ ⟨#[104, 101, 97, 114, 100]⟩ 58 rfl _ _ _ rfl hM rfl rfl rfl (by decide) (by omega) ?_)
  intro w6 hM hg
  have B6 := below_fm B5 hg (Nat.le_refl _)
  clear hg
  go_wp2_with (refine wpl_fmPut _ ⟨#[112, 114, 111, 109]⟩ 55 rfl _ _ _ rfl hM rfl rfl rfl (by decide) (by omega) ?_)
  intro w7 hM hg
  have B7 := below_fm B6 hg (Nat.le_refl _)
  clear hg
  go_wp2_with (refine wpl_fmPut _ ⟨#[118, 111, 116, 101]⟩ 56 rfl _ _ _ rfl hM rfl rfl rfl (by decide) (by omega) ?_)
  intro w8 hM hg
  have B8 := below_fm B7 hg (Nat.le_refl _)
  clear hg
  go_wp2_with (refine wpl_fmPut _ ⟨#[115, 104, 117, 116]⟩ 59 rfl _ _ _ rfl hM rfl rfl rfl (by decide) (by omega) ?_)
  intro w9 hM hg
  have B9 := below_fm B8 hg (Nat.le_refl _)
  clear hg
  replace x_a := x_a.from_ B9
  have c0 := x_a.cell h0
  go_wp2_with fail
  refine (iRkName_w _ _).mono ?_
  rintro e w' ⟨rfl, rfl⟩
  go_wp2_with (refine wpl_fmLook _ rfl _ _ rfl hM rfl rfl (by decide) (v := .tuple #[.func (.func 55) #[] #[], .bool true]) (by rfl) ?_)
  go_wp2_with fail
  refine (i_acctAmt x_a).mono ?_
  rintro e w' ⟨B, T, rfl, x, hB, hb⟩
  go_wp2
  go_ret
  exact ⟨B, T, rfl, x, Nat.le_trans B9.size hB, B9.trans (hb.mono B9.size)⟩
set_option maxRecDepth 100000 in
set_option maxHeartbeats 4000000 in
theorem iUsed_3 {w : World} {b : Nat} {cs : List Value} (x_a : Vr w b 26 cs) (h0 : cs[0]? = some (.int .i64 3)) : Calls Tryd.prog 28 #[.pointer (some ⟨b, 0, none⟩)] w fun e w' => ∃ B T, e = .returned (.slice (some ⟨B, 0, none⟩) 3 3) ∧ Vr w' B T [.pointer (some ⟨b, 1, none⟩), .pointer (some ⟨b, 3, none⟩), .pointer (some ⟨b, 4, none⟩)] ∧ w.heap.size ≤ B ∧ Below w.heap.size w w' := by
  have eg : ∀ args w, (callFunc 56 args).run Tryd.prog w = .ok (.enter 56 args) w := enters_of Tryd.func56 (by kernel_rfl) rfl
  have hmm := @run_makeMap Tryd.prog
  have hM := FM.made w
  have B0 : Below w.heap.size w (w.alloc (.map #[] 0)) := (Below.refl _ _).alloc (Nat.le_refl _) _
  generalize hw0 : w.alloc (.map #[] 0) = w0 at hM B0
  go_enter Tryd.func28, Tryd.ntmps28
  go_wp2_with (refine wpl_fmPut _ ⟨#[99, 111, 109, 101]⟩ 55 rfl _ _ _ rfl hM rfl rfl rfl (by decide) (by omega) ?_)
  intro w1 hM hg
  have B1 := below_fm B0 hg (Nat.le_refl _)
  clear hg
  go_wp2_with (refine wpl_fmPut _ ⟨#[119, 101, 110, 116]⟩ 55 rfl _ _ _ rfl hM rfl rfl rfl (by decide) (by omega) ?_)
  intro w2 hM hg
  have B2 := below_fm B1 hg (Nat.le_refl _)
  clear hg
  go_wp2_with (refine wpl_fmPut _ ⟨#[103, 105, 118, 101]⟩ 56 rfl _ _ _ rfl hM rfl rfl rfl (by decide) (by omega) ?_)
  intro w3 hM hg
  have B3 := below_fm B2 hg (Nat.le_refl _)
  clear hg
  go_wp2_with (refine wpl_fmPut _ ⟨#[109, 111, 118, 101]⟩ 57 rfl _ _ _ rfl hM rfl rfl rfl (by decide) (by omega) ?_)
  intro w4 hM hg
  have B4 := below_fm B3 hg (Nat.le_refl _)
  clear hg
  go_wp2_with (refine wpl_fmPut _ ⟨#[116, 111, 111, 107]⟩ 58 rfl _ _ _ rfl hM rfl rfl rfl (by decide) (by omega) ?_)
  intro w5 hM hg
  have B5 := below_fm B4 hg (Nat.le_refl _)
  clear hg
  go_wp2_with (refine wpl_fmPut _ ⟨#[104, 101, 97, 114, 100]⟩ 58 rfl _ _ _ rfl hM rfl rfl rfl (by decide) (by omega) ?_)
  intro w6 hM hg
  have B6 := below_fm B5 hg (Nat.le_refl _)
  clear hg
  go_wp2_with (refine wpl_fmPut _ ⟨#[112, 114, 111, 109]⟩ 55 rfl _ _ _ rfl hM rfl rfl rfl (by decide) (by omega) ?_)
  intro w7 hM hg
  have B7 := below_fm B6 hg (Nat.le_refl _)
  clear hg
  go_wp2_with (refine wpl_fmPut _ ⟨#[118, 111, 116, 101]⟩ 56 rfl _ _ _ rfl hM rfl rfl rfl (by decide) (by omega) ?_)
  intro w8 hM hg
  have B8 := below_fm B7 hg (Nat.le_refl _)
  clear hg
  go_wp2_with (refine wpl_fmPut _ ⟨#[115, 104, 117, 116]⟩ 59 rfl _ _ _ rfl hM rfl rfl rfl (by decide) (by omega) ?_)
  intro w9 hM hg
  have B9 := below_fm B8 hg (Nat.le_refl _)
  clear hg
  replace x_a := x_a.from_ B9
  have c0 := x_a.cell h0
  go_wp2_with fail
  refine (iRkName_w _ _).mono ?_
  rintro e w' ⟨rfl, rfl⟩
  go_wp2_with (refine wpl_fmLook _ rfl _ _ rfl hM rfl rfl (by decide) (v := .tuple #[.func (.func 56) #[] #[], .bool true]) (by rfl) ?_)
  go_wp2_with fail
  refine (i_acctToAmt x_a).mono ?_
  rintro e w' ⟨B, T, rfl, x, hB, hb⟩
  go_wp2
  go_ret
  exact ⟨B, T, rfl, x, Nat.le_trans B9.size hB, B9.trans (hb.mono B9.size)⟩
set_option maxRecDepth 100000 in
set_option maxHeartbeats 4000000 in
theorem iUsed_4 {w : World} {b : Nat} {cs : List Value} (x_a : Vr w b 26 cs) (h0 : cs[0]? = some (.int .i64 4)) : Calls Tryd.prog 28 #[.pointer (some ⟨b, 0, none⟩)] w fun e w' => ∃ B T, e = .returned (.slice (some ⟨B, 0, none⟩) 4 4) ∧ Vr w' B T [.pointer (some ⟨b, 1, none⟩), .pointer (some ⟨b, 2, none⟩), .pointer (some ⟨b, 3, none⟩), .pointer (some ⟨b, 4, none⟩)] ∧ w.heap.size ≤ B ∧ Below w.heap.size w w' := by
  have eg : ∀ args w, (callFunc 57 args).run Tryd.prog w = .ok (.enter 57 args) w := enters_of Tryd.func57 (by kernel_rfl) rfl
  have hmm := @run_makeMap Tryd.prog
  have hM := FM.made w
  have B0 : Below w.heap.size w (w.alloc (.map #[] 0)) := (Below.refl _ _).alloc (Nat.le_refl _) _
  generalize hw0 : w.alloc (.map #[] 0) = w0 at hM B0
  go_enter Tryd.func28, Tryd.ntmps28
  go_wp2_with (refine wpl_fmPut _ ⟨#[99, 111, 109, 101]⟩ 55 rfl _ _ _ rfl hM rfl rfl rfl (by decide) (by omega) ?_)
  intro w1 hM hg
  have B1 := below_fm B0 hg (Nat.le_refl _)
  clear hg
  go_wp2_with (refine wpl_fmPut _ ⟨#[119, 101, 110, 116]⟩ 55 rfl _ _ _ rfl hM rfl rfl rfl (by decide) (by omega) ?_)
  intro w2 hM hg
  have B2 := below_fm B1 hg (Nat.le_refl _)
  clear hg
  go_wp2_with (refine wpl_fmPut _ ⟨#[103, 105, 118, 101]⟩ 56 rfl _ _ _ rfl hM rfl rfl rfl (by decide) (by omega) ?_)
  intro w3 hM hg
  have B3 := below_fm B2 hg (Nat.le_refl _)
  clear hg
  go_wp2_with (refine wpl_fmPut _ ⟨#[109, 111, 118, 101]⟩ 57 rfl _ _ _ rfl hM rfl rfl rfl (by decide) (by omega) ?_)
  intro w4 hM hg
  have B4 := below_fm B3 hg (Nat.le_refl _)
  clear hg
  go_wp2_with (refine wpl_fmPut _ ⟨#[116, 111, 111, 107]⟩ 58 rfl _ _ _ rfl hM rfl rfl rfl (by decide) (by omega) ?_)
  intro w5 hM hg
  have B5 := below_fm B4 hg (Nat.le_refl _)
  clear hg
  go_wp2_with (refine wpl_fmPut _ ⟨#[104, 101, 97, 114, 100]⟩ 58 rfl _ _ _ rfl hM rfl rfl rfl (by decide) (by omega) ?_)
  intro w6 hM hg
  have B6 := below_fm B5 hg (Nat.le_refl _)
  clear hg
  go_wp2_with (refine wpl_fmPut _ ⟨#[112, 114, 111, 109]⟩ 55 rfl _ _ _ rfl hM rfl rfl rfl (by decide) (by omega) ?_)
  intro w7 hM hg
  have B7 := below_fm B6 hg (Nat.le_refl _)
  clear hg
  go_wp2_with (refine wpl_fmPut _ ⟨#[118, 111, 116, 101]⟩ 56 rfl _ _ _ rfl hM rfl rfl rfl (by decide) (by omega) ?_)
  intro w8 hM hg
  have B8 := below_fm B7 hg (Nat.le_refl _)
  clear hg
  go_wp2_with (refine wpl_fmPut _ ⟨#[115, 104, 117, 116]⟩ 59 rfl _ _ _ rfl hM rfl rfl rfl (by decide) (by omega) ?_)
  intro w9 hM hg
  have B9 := below_fm B8 hg (Nat.le_refl _)
  clear hg
  replace x_a := x_a.from_ B9
  have c0 := x_a.cell h0
  go_wp2_with fail
  refine (iRkName_w _ _).mono ?_
  rintro e w' ⟨rfl, rfl⟩
  go_wp2_with (refine wpl_fmLook _ rfl _ _ rfl hM rfl rfl (by decide) (v := .tuple #[.func (.func 57) #[] #[], .bool true]) (by rfl) ?_)
  go_wp2_with fail
  refine (i_allNums x_a).mono ?_
  rintro e w' ⟨B, T, rfl, x, hB, hb⟩
  go_wp2
  go_ret
  exact ⟨B, T, rfl, x, Nat.le_trans B9.size hB, B9.trans (hb.mono B9.size)⟩
set_option maxRecDepth 100000 in
set_option maxHeartbeats 4000000 in
theorem iUsed_5 {w : World} {b : Nat} {cs : List Value} (x_a : Vr w b 26 cs) (h0 : cs[0]? = some (.int .i64 5)) : Calls Tryd.prog 28 #[.pointer (some ⟨b, 0, none⟩)] w fun e w' => ∃ B T, e = .returned (.slice (some ⟨B, 0, none⟩) 2 2) ∧ Vr w' B T [.pointer (some ⟨b, 3, none⟩), .pointer (some ⟨b, 4, none⟩)] ∧ w.heap.size ≤ B ∧ Below w.heap.size w w' := by
  have eg : ∀ args w, (callFunc 58 args).run Tryd.prog w = .ok (.enter 58 args) w := enters_of Tryd.func58 (by kernel_rfl) rfl
  have hmm := @run_makeMap Tryd.prog
  have hM := FM.made w
  have B0 : Below w.heap.size w (w.alloc (.map #[] 0)) := (Below.refl _ _).alloc (Nat.le_refl _) _
  generalize hw0 : w.alloc (.map #[] 0) = w0 at hM B0
  go_enter Tryd.func28, Tryd.ntmps28
  go_wp2_with (refine wpl_fmPut _ ⟨#[99, 111, 109, 101]⟩ 55 rfl _ _ _ rfl hM rfl rfl rfl (by decide) (by omega) ?_)
  intro w1 hM hg
  have B1 := below_fm B0 hg (Nat.le_refl _)
  clear hg
  go_wp2_with (refine wpl_fmPut _ ⟨#[119, 101, 110, 116]⟩ 55 rfl _ _ _ rfl hM rfl rfl rfl (by decide) (by omega) ?_)
  intro w2 hM hg
  have B2 := below_fm B1 hg (Nat.le_refl _)
  clear hg
  go_wp2_with (refine wpl_fmPut _ ⟨#[103, 105, 118, 101]⟩ 56 rfl _ _ _ rfl hM rfl rfl rfl (by decide) (by omega) ?_)
  intro w3 hM hg
  have B3 := below_fm B2 hg (Nat.le_refl _)
  clear hg
  go_wp2_with (refine wpl_fmPut _ ⟨#[109, 111, 118, 101]⟩ 57 rfl _ _ _ rfl hM rfl rfl rfl (by decide) (by omega) ?_)
  intro w4 hM hg
  have B4 := below_fm B3 hg (Nat.le_refl _)
  clear hg
  go_wp2_with (refine wpl_fmPut _ ⟨#[116, 111, 111, 107]⟩ 58 rfl _ _ _ rfl hM rfl rfl rfl (by decide) (by omega) ?_)
  intro w5 hM hg
  have B5 := below_fm B4 hg (Nat.le_refl _)
  clear hg
  go_wp2_with (refine wpl_fmPut _ ⟨#[104, 101, 97, 114, 100]⟩ 58 rfl _ _ _ rfl hM rfl rfl rfl (by decide) (by omega) ?_)
  intro w6 hM hg
  have B6 := below_fm B5 hg (Nat.le_refl _)
  clear hg
  go_wp2_with (refine wpl_fmPut _ ⟨#[112, 114, 111, 109]⟩ 55 rfl _ _ _ rfl hM rfl rfl rfl (by decide) (by omega) ?_)
  intro w7 hM hg
  have B7 := below_fm B6 hg (Nat.le_refl _)
  clear hg
  go_wp2_with (refine wpl_fmPut _ ⟨#[118, 111, 116, 101]⟩ 56 rfl _ _ _ rfl hM rfl rfl rfl (by decide) (by omega) ?_)
  intro w8 hM hg
  have B8 := below_fm B7 hg (Nat.le_refl _)
  clear hg
  go_wp2_with (refine wpl_fmPut _ ⟨#[115, 104, 117, 116]⟩ 59 rfl _ _ _ rfl hM rfl rfl rfl (by decide) (by omega) ?_)
  intro w9 hM hg
  have B9 := below_fm B8 hg (Nat.le_refl _)
  clear hg
  replace x_a := x_a.from_ B9
  have c0 := x_a.cell h0
  go_wp2_with fail
  refine (iRkName_w _ _).mono ?_
  rintro e w' ⟨rfl, rfl⟩
  go_wp2_with (refine wpl_fmLook _ rfl _ _ rfl hM rfl rfl (by decide) (v := .tuple #[.func (.func 58) #[] #[], .bool true]) (by rfl) ?_)
  go_wp2_with fail
  refine (i_toAmt x_a).mono ?_
  rintro e w' ⟨B, T, rfl, x, hB, hb⟩
  go_wp2
  go_ret
  exact ⟨B, T, rfl, x, Nat.le_trans B9.size hB, B9.trans (hb.mono B9.size)⟩
set_option maxRecDepth 100000 in
set_option maxHeartbeats 4000000 in
theorem iUsed_6 {w : World} {b : Nat} {cs : List Value} (x_a : Vr w b 26 cs) (h0 : cs[0]? = some (.int .i64 6)) : Calls Tryd.prog 28 #[.pointer (some ⟨b, 0, none⟩)] w fun e w' => ∃ B T, e = .returned (.slice (some ⟨B, 0, none⟩) 2 2) ∧ Vr w' B T [.pointer (some ⟨b, 3, none⟩), .pointer (some ⟨b, 4, none⟩)] ∧ w.heap.size ≤ B ∧ Below w.heap.size w w' := by
  have eg : ∀ args w, (callFunc 58 args).run Tryd.prog w = .ok (.enter 58 args) w := enters_of Tryd.func58 (by kernel_rfl) rfl
  have hmm := @run_makeMap Tryd.prog
  have hM := FM.made w
  have B0 : Below w.heap.size w (w.alloc (.map #[] 0)) := (Below.refl _ _).alloc (Nat.le_refl _) _
  generalize hw0 : w.alloc (.map #[] 0) = w0 at hM B0
  go_enter Tryd.func28, Tryd.ntmps28
  go_wp2_with (refine wpl_fmPut _ ⟨#[99, 111, 109, 101]⟩ 55 rfl _ _ _ rfl hM rfl rfl rfl (by decide) (by omega) ?_)
  intro w1 hM hg
  have B1 := below_fm B0 hg (Nat.le_refl _)
  clear hg
  go_wp2_with (refine wpl_fmPut _ ⟨#[119, 101, 110, 116]⟩ 55 rfl _ _ _ rfl hM rfl rfl rfl (by decide) (by omega) ?_)
  intro w2 hM hg
  have B2 := below_fm B1 hg (Nat.le_refl _)
  clear hg
  go_wp2_with (refine wpl_fmPut _ ⟨#[103, 105, 118, 101]⟩ 56 rfl _ _ _ rfl hM rfl rfl rfl (by decide) (by omega) ?_)
  intro w3 hM hg
  have B3 := below_fm B2 hg (Nat.le_refl _)
  clear hg
  go_wp2_with (refine wpl_fmPut _ ⟨#[109, 111, 118, 101]⟩ 57 rfl _ _ _ rfl hM rfl rfl rfl (by decide) (by omega) ?_)
  intro w4 hM hg
  have B4 := below_fm B3 hg (Nat.le_refl _)
  clear hg
  go_wp2_with (refine wpl_fmPut _ ⟨#[116, 111, 111, 107]⟩ 58 rfl _ _ _ rfl hM rfl rfl rfl (by decide) (by omega) ?_)
  intro w5 hM hg
  have B5 := below_fm B4 hg (Nat.le_refl _)
  clear hg
  go_wp2_with (refine wpl_fmPut _ ⟨#[104, 101, 97, 114, 100]⟩ 58 rfl _ _ _ rfl hM rfl rfl rfl (by decide) (by omega) ?_)
  intro w6 hM hg
  have B6 := below_fm B5 hg (Nat.le_refl _)
  clear hg
  go_wp2_with (refine wpl_fmPut _ ⟨#[112, 114, 111, 109]⟩ 55 rfl _ _ _ rfl hM rfl rfl rfl (by decide) (by omega) ?_)
  intro w7 hM hg
  have B7 := below_fm B6 hg (Nat.le_refl _)
  clear hg
  go_wp2_with (refine wpl_fmPut _ ⟨#[118, 111, 116, 101]⟩ 56 rfl _ _ _ rfl hM rfl rfl rfl (by decide) (by omega) ?_)
  intro w8 hM hg
  have B8 := below_fm B7 hg (Nat.le_refl _)
  clear hg
  go_wp2_with (refine wpl_fmPut _ ⟨#[115, 104, 117, 116]⟩ 59 rfl _ _ _ rfl hM rfl rfl rfl (by decide) (by omega) ?_)
  intro w9 hM hg
  have B9 := below_fm B8 hg (Nat.le_refl _)
  clear hg
  replace x_a := x_a.from_ B9
  have c0 := x_a.cell h0
  go_wp2_with fail
  refine (iRkName_w _ _).mono ?_
  rintro e w' ⟨rfl, rfl⟩
  go_wp2_with (refine wpl_fmLook _ rfl _ _ rfl hM rfl rfl (by decide) (v := .tuple #[.func (.func 58) #[] #[], .bool true]) (by rfl) ?_)
  go_wp2_with fail
  refine (i_toAmt x_a).mono ?_
  rintro e w' ⟨B, T, rfl, x, hB, hb⟩
  go_wp2
  go_ret
  exact ⟨B, T, rfl, x, Nat.le_trans B9.size hB, B9.trans (hb.mono B9.size)⟩
set_option maxRecDepth 100000 in
set_option maxHeartbeats 4000000 in
theorem iUsed_7 {w : World} {b : Nat} {cs : List Value} (x_a : Vr w b 26 cs) (h0 : cs[0]? = some (.int .i64 7)) : Calls Tryd.prog 28 #[.pointer (some ⟨b, 0, none⟩)] w fun e w' => ∃ B T, e = .returned (.slice (some ⟨B, 0, none⟩) 2 2) ∧ Vr w' B T [.pointer (some ⟨b, 1, none⟩), .pointer (some ⟨b, 4, none⟩)] ∧ w.heap.size ≤ B ∧ Below w.heap.size w w' := by
  have eg : ∀ args w, (callFunc 55 args).run Tryd.prog w = .ok (.enter 55 args) w := enters_of Tryd.func55 (by kernel_rfl) rfl
  have hmm := @run_makeMap Tryd.prog
  have hM := FM.made w
  have B0 : Below w.heap.size w (w.alloc (.map #[] 0)) := (Below.refl _ _).alloc (Nat.le_refl _) _
  generalize hw0 : w.alloc (.map #[] 0) = w0 at hM B0
  go_enter Tryd.func28, Tryd.ntmps28
  go_wp2_with (refine wpl_fmPut _ ⟨#[99, 111, 109, 101]⟩ 55 rfl _ _ _ rfl hM rfl rfl rfl (by decide) (by omega) ?_)
  intro w1 hM hg
  have B1 := below_fm B0 hg (Nat.le_refl _)
  clear hg
  go_wp2_with (refine wpl_fmPut _ ⟨#[119, 101, 110, 116]⟩ 55 rfl _ _ _ rfl hM rfl rfl rfl (by decide) (by omega) ?_)
  intro w2 hM hg
  have B2 := below_fm B1 hg (Nat.le_refl _)
  clear hg
  go_wp2_with (refine wpl_fmPut _ ⟨#[103, 105, 118, 101]⟩ 56 rfl _ _ _ rfl hM rfl rfl rfl (by decide) (by omega) ?_)
  intro w3 hM hg
  have B3 := below_fm B2 hg (Nat.le_refl _)
  clear hg
  go_wp2_with (refine wpl_fmPut _ ⟨#[109, 111, 118, 101]⟩ 57 rfl _ _ _ rfl hM rfl rfl rfl (by decide) (by omega) ?_)
  intro w4 hM hg
  have B4 := below_fm B3 hg (Nat.le_refl _)
  clear hg
  go_wp2_with (refine wpl_fmPut _ ⟨#[116, 111, 111, 107]⟩ 58 rfl _ _ _ rfl hM rfl rfl rfl (by decide) (by omega) ?_)
  intro w5 hM hg
  have B5 := below_fm B4 hg (Nat.le_refl _)
  clear hg
  go_wp2_with (refine wpl_fmPut _ ⟨#[104, 101, 97, 114, 100]⟩ 58 rfl _ _ _ rfl hM rfl rfl rfl (by decide) (by omega) ?_)
  intro w6 hM hg
  have B6 := below_fm B5 hg (Nat.le_refl _)
  clear hg
  go_wp2_with (refine wpl_fmPut _ ⟨#[112, 114, 111, 109]⟩ 55 rfl _ _ _ rfl hM rfl rfl rfl (by decide) (by omega) ?_)
  intro w7 hM hg
  have B7 := below_fm B6 hg (Nat.le_refl _)
  clear hg
  go_wp2_with (refine wpl_fmPut _ ⟨#[118, 111, 116, 101]⟩ 56 rfl _ _ _ rfl hM rfl rfl rfl (by decide) (by omega) ?_)
  intro w8 hM hg
  have B8 := below_fm B7 hg (Nat.le_refl _)
  clear hg
  go_wp2_with (refine wpl_fmPut _ ⟨#[115, 104, 117, 116]⟩ 59 rfl _ _ _ rfl hM rfl rfl rfl (by decide) (by omega) ?_)
  intro w9 hM hg
  have B9 := below_fm B8 hg (Nat.le_refl _)
  clear hg
  replace x_a := x_a.from_ B9
  have c0 := x_a.cell h0
  go_wp2_with fail
  refine (iRkName_w _ _).mono ?_
  rintro e w' ⟨rfl, rfl⟩
  go_wp2_with (refine wpl_fmLook _ rfl _ _ rfl hM rfl rfl (by decide) (v := .tuple #[.func (.func 55) #[] #[], .bool true]) (by rfl) ?_)
  go_wp2_with fail
  refine (i_acctAmt x_a).mono ?_
  rintro e w' ⟨B, T, rfl, x, hB, hb⟩
  go_wp2
  go_ret
  exact ⟨B, T, rfl, x, Nat.le_trans B9.size hB, B9.trans (hb.mono B9.size)⟩
set_option maxRecDepth 100000 in
set_option maxHeartbeats 4000000 in
theorem iUsed_8 {w : World} {b : Nat} {cs : List Value} (x_a : Vr w b 26 cs) (h0 : cs[0]? = some (.int .i64 8)) : Calls Tryd.prog 28 #[.pointer (some ⟨b, 0, none⟩)] w fun e w' => ∃ B T, e = .returned (.slice (some ⟨B, 0, none⟩) 3 3) ∧ Vr w' B T [.pointer (some ⟨b, 1, none⟩), .pointer (some ⟨b, 3, none⟩), .pointer (some ⟨b, 4, none⟩)] ∧ w.heap.size ≤ B ∧ Below w.heap.size w w' := by
  have eg : ∀ args w, (callFunc 56 args).run Tryd.prog w = .ok (.enter 56 args) w := enters_of Tryd.func56 (by kernel_rfl) rfl
  have hmm := @run_makeMap Tryd.prog
  have hM := FM.made w
  have B0 : Below w.heap.size w (w.alloc (.map #[] 0)) := (Below.refl _ _).alloc (Nat.le_refl _) _
  generalize hw0 : w.alloc (.map #[] 0) = w0 at hM B0
  go_enter Tryd.func28, Tryd.ntmps28
  go_wp2_with (refine wpl_fmPut _ ⟨#[99, 111, 109, 101]⟩ 55 rfl _ _ _ rfl hM rfl rfl rfl (by decide) (by omega) ?_)
  intro w1 hM hg
  have B1 := below_fm B0 hg (Nat.le_refl _)
  clear hg
  go_wp2_with (refine wpl_fmPut _ ⟨#[119, 101, 110, 116]⟩ 55 rfl _ _ _ rfl hM rfl rfl rfl (by decide) (by omega) ?_)
  intro w2 hM hg
  have B2 := below_fm B1 hg (Nat.le_refl _)
  clear hg
  go_wp2_with (refine wpl_fmPut _ ⟨#[103, 105, 118, 101]⟩ 56 rfl _ _ _ rfl hM rfl rfl rfl (by decide) (by omega) ?_)
  intro w3 hM hg
  have B3 := below_fm B2 hg (Nat.le_refl _)
  clear hg
  go_wp2_with (refine wpl_fmPut _ ⟨#[109, 111, 118, 101]⟩ 57 rfl _ _ _ rfl hM rfl rfl rfl (by decide) (by omega) ?_)
  intro w4 hM hg
  have B4 := below_fm B3 hg (Nat.le_refl _)
  clear hg
  go_wp2_with (refine wpl_fmPut _ ⟨#[116, 111, 111, 107]⟩ 58 rfl _ _ _ rfl hM rfl rfl rfl (by decide) (by omega) ?_)
  intro w5 hM hg
  have B5 := below_fm B4 hg (Nat.le_refl _)
  clear hg
  go_wp2_with (refine wpl_fmPut _ ⟨#[104, 101, 97, 114, 100]⟩ 58 rfl _ _ _ rfl hM rfl rfl rfl (by decide) (by omega) ?_)
  intro w6 hM hg
  have B6 := below_fm B5 hg (Nat.le_refl _)
  clear hg
  go_wp2_with (refine wpl_fmPut _ ⟨#[112, 114, 111, 109]⟩ 55 rfl _ _ _ rfl hM rfl rfl rfl (by decide) (by omega) ?_)
  intro w7 hM hg
  have B7 := below_fm B6 hg (Nat.le_refl _)
  clear hg
  go_wp2_with (refine wpl_fmPut _ ⟨#[118, 111, 116, 101]⟩ 56 rfl _ _ _ rfl hM rfl rfl rfl (by decide) (by omega) ?_)
  intro w8 hM hg
  have B8 := below_fm B7 hg (Nat.le_refl _)
  clear hg
  go_wp2_with (refine wpl_fmPut _ ⟨#[115, 104, 117, 116]⟩ 59 rfl _ _ _ rfl hM rfl rfl rfl (by decide) (by omega) ?_)
  intro w9 hM hg
  have B9 := below_fm B8 hg (Nat.le_refl _)
  clear hg
  replace x_a := x_a.from_ B9
  have c0 := x_a.cell h0
  go_wp2_with fail
  refine (iRkName_w _ _).mono ?_
  rintro e w' ⟨rfl, rfl⟩
  go_wp2_with (refine wpl_fmLook _ rfl _ _ rfl hM rfl rfl (by decide) (v := .tuple #[.func (.func 56) #[] #[], .bool true]) (by rfl) ?_)
  go_wp2_with fail
  refine (i_acctToAmt x_a).mono ?_
  rintro e w' ⟨B, T, rfl, x, hB, hb⟩
  go_wp2
  go_ret
  exact ⟨B, T, rfl, x, Nat.le_trans B9.size hB, B9.trans (hb.mono B9.size)⟩
set_option maxRecDepth 100000 in
set_option maxHeartbeats 4000000 in
theorem iUsed_9 {w : World} {b : Nat} {cs : List Value} (x_a : Vr w b 26 cs) (h0 : cs[0]? = some (.int .i64 9)) : Calls Tryd.prog 28 #[.pointer (some ⟨b, 0, none⟩)] w fun e w' => ∃ B T, e = .returned (.slice (some ⟨B, 0, none⟩) 2 2) ∧ Vr w' B T [.pointer (some ⟨b, 1, none⟩), .pointer (some ⟨b, 3, none⟩)] ∧ w.heap.size ≤ B ∧ Below w.heap.size w w' := by
  have eg : ∀ args w, (callFunc 59 args).run Tryd.prog w = .ok (.enter 59 args) w := enters_of Tryd.func59 (by kernel_rfl) rfl
  have hmm := @run_makeMap Tryd.prog
  have hM := FM.made w
  have B0 : Below w.heap.size w (w.alloc (.map #[] 0)) := (Below.refl _ _).alloc (Nat.le_refl _) _
  generalize hw0 : w.alloc (.map #[] 0) = w0 at hM B0
  go_enter Tryd.func28, Tryd.ntmps28
  go_wp2_with (refine wpl_fmPut _ ⟨#[99, 111, 109, 101]⟩ 55 rfl _ _ _ rfl hM rfl rfl rfl (by decide) (by omega) ?_)
  intro w1 hM hg
  have B1 := below_fm B0 hg (Nat.le_refl _)
  clear hg
  go_wp2_with (refine wpl_fmPut _ ⟨#[119, 101, 110, 116]⟩ 55 rfl _ _ _ rfl hM rfl rfl rfl (by decide) (by omega) ?_)
  intro w2 hM hg
  have B2 := below_fm B1 hg (Nat.le_refl _)
  clear hg
  go_wp2_with (refine wpl_fmPut _ ⟨#[103, 105, 118, 101]⟩ 56 rfl _ _ _ rfl hM rfl rfl rfl (by decide) (by omega) ?_)
  intro w3 hM hg
  have B3 := below_fm B2 hg (Nat.le_refl _)
  clear hg
  go_wp2_with (refine wpl_fmPut _ ⟨#[109, 111, 118, 101]⟩ 57 rfl _ _ _ rfl hM rfl rfl rfl (by decide) (by omega) ?_)
  intro w4 hM hg
  have B4 := below_fm B3 hg (Nat.le_refl _)
  clear hg
  go_wp2_with (refine wpl_fmPut _ ⟨#[116, 111, 111, 107]⟩ 58 rfl _ _ _ rfl hM rfl rfl rfl (by decide) (by omega) ?_)
  intro w5 hM hg
  have B5 := below_fm B4 hg (Nat.le_refl _)
  clear hg
  go_wp2_with (refine wpl_fmPut _ ⟨#[104, 101, 97, 114, 100]⟩ 58 rfl _ _ _ rfl hM rfl rfl rfl (by decide) (by omega) ?_)
  intro w6 hM hg
  have B6 := below_fm B5 hg (Nat.le_refl _)
  clear hg
  go_wp2_with (refine wpl_fmPut _ ⟨#[112, 114, 111, 109]⟩ 55 rfl _ _ _ rfl hM rfl rfl rfl (by decide) (by omega) ?_)
  intro w7 hM hg
  have B7 := below_fm B6 hg (Nat.le_refl _)
  clear hg
  go_wp2_with (refine wpl_fmPut _ ⟨#[118, 111, 116, 101]⟩ 56 rfl _ _ _ rfl hM rfl rfl rfl (by decide) (by omega) ?_)
  intro w8 hM hg
  have B8 := below_fm B7 hg (Nat.le_refl _)
  clear hg
  go_wp2_with (refine wpl_fmPut _ ⟨#[115, 104, 117, 116]⟩ 59 rfl _ _ _ rfl hM rfl rfl rfl (by decide) (by omega) ?_)
  intro w9 hM hg
  have B9 := below_fm B8 hg (Nat.le_refl _)
  clear hg
  replace x_a := x_a.from_ B9
  have c0 := x_a.cell h0
  go_wp2_with fail
  refine (iRkName_w _ _).mono ?_
  rintro e w' ⟨rfl, rfl⟩
  go_wp2_with (refine wpl_fmLook _ rfl _ _ rfl hM rfl rfl (by decide) (v := .tuple #[.func (.func 59) #[] #[], .bool true]) (by rfl) ?_)
  go_wp2_with fail
  refine (i_acctTo x_a).mono ?_
  rintro e w' ⟨B, T, rfl, x, hB, hb⟩
  go_wp2
  go_ret
  exact ⟨B, T, rfl, x, Nat.le_trans B9.size hB, B9.trans (hb.mono B9.size)⟩
end Go.Proofs.YtkbhbccpmmhelaaDoor
