/- Texts joined: Mem, Bytes, App, Law, Lay, Vars, SBytes, Ints, LawInts, SInts, Lay2, Lay3, Lay4, NumMath, Bits, GetNum, AppStep, SByteSS, LayM. -/
import Derived.WalkKit
import Derived.WalkSpells
import Derived.Deep.Draws
import Derived.Lib.Hide
import Derived.Test.YtdoipabfmekdlaaProg
import Derived.Deep.QuietTactic
import Derived.BigQuiet
import Derived.Maps.AppendAt
import Derived.Laws.ResultCell
import Derived.Laws.Rows
import Derived.Laws.CopyRow
import Derived.Deep.RegionLaw

namespace Go.Proofs.Ytdoipabfmekdlaa
open Go.RowKit

/-- The slice value with address A reads as the integers zs of kind k in world w; its block lies below B. -/
def Rd (k : IntKind) (w : World) (B : Nat) (A : Option Addr) (zs : List Int) : Prop :=
  0 < zs.length → ∃ b off, A = some ⟨b, off, none⟩ ∧ b < B ∧ ∀ j, j < zs.length → w.cell? ⟨b, off + j, none⟩ = some (.int k (zs.getD j 0))

/-- The value v is a row of the call's own (blocks from base on), holding the integers zs. -/
def Own (k : IntKind) (w : World) (base : Nat) (e : TypeId) (v : Value) (zs : List Int) : Prop :=
  w.ownsRow base e 1 v zs.length (zs.map (Value.int k))

section
variable {k : IntKind} {w w' : World} {B B' : Nat} {A : Option Addr} {zs : List Int}

theorem Rd.nil : Rd k w B A [] := fun h => absurd h (by simp)

theorem Rd.at_ (h : Rd k w B A zs) {j : Nat} (hj : j < zs.length) :
    ∃ b off, A = some ⟨b, off, none⟩ ∧ b < B ∧ w.cell? ⟨b, off + j, none⟩ = some (.int k (zs.getD j 0)) := by
  obtain ⟨b, off, rfl, hb, hc⟩ := h (by omega)
  exact ⟨b, off, rfl, hb, hc j hj⟩

theorem Rd.keep (h : Rd k w B A zs) (hk : ∀ p : Addr, p.block < B → w'.cell? p = w.cell? p) : Rd k w' B A zs := fun hn => by
  obtain ⟨b, off, rfl, hb, hc⟩ := h hn
  exact ⟨b, off, rfl, hb, fun j hj => (hk _ hb).trans (hc j hj)⟩

theorem Rd.more (h : Rd k w B A zs) (hB : B ≤ B') : Rd k w B' A zs := fun hn => by
  obtain ⟨b, off, rfl, hb, hc⟩ := h hn
  exact ⟨b, off, rfl, by omega, hc⟩

theorem Rd.below (h : Rd k w B A zs) (hb : Below B w w') : Rd k w' B A zs := h.keep fun _ hp => hb.cell hp
theorem Rd.drewN (h : Rd k w B A zs) (n : Nat) : Rd k (w.drewN n) B A zs := h

end

theorem bdrew {B : Nat} {a w : World} (h : Below B a w) (n : Nat) : Below B a (w.drewN n) := ⟨h.os, h.tape, h.output, h.size, h.block⟩

section
variable {k : IntKind} {w w' : World} {base : Nat} {e : TypeId} {v : Value} {zs : List Int}

theorem Own.form (h : Own k w base e v zs) : ∃ A c, v = .slice A zs.length c ∧ Rd k w w.heap.size A zs := by
  rcases h.2 with ⟨rfl, h0⟩ | ⟨g, cap, cur, rfl, hb, hh, hn, hm, hs, ht⟩
  · exact ⟨none, 0, by rw [h0], fun h => by omega⟩
  · refine ⟨some ⟨g, 0, none⟩, cap, rfl, fun hp => ⟨g, 0, rfl, ?_, fun j hj => ?_⟩⟩
    · rcases Nat.lt_or_ge g w.heap.size with hlt | hge
      · exact hlt
      · rw [Array.getElem?_eq_none hge] at hh; cases hh
    · have := World.ownsRow.cellAt h j (by omega)
      rw [Nat.zero_add, this]
      simp [hj]

theorem Own.rd {A : Option Addr} {n c : Nat} (h : Own k w base e (.slice A n c) zs) : Rd k w w.heap.size A zs := by
  obtain ⟨A', c', hv, hr⟩ := h.form
  simp only [Value.slice.injEq] at hv
  rw [hv.1]; exact hr

theorem Own.len {g n c : Nat} (h : Own k w base e (.slice (some ⟨g, 0, none⟩) n c) zs) : n = zs.length := by
  rcases h.2 with ⟨h', _⟩ | ⟨g', cap, cur, hv, _⟩
  · simp at h'
  · simp only [Value.slice.injEq] at hv; exact hv.2.1

theorem Own.cell_ {g n c : Nat} (h : Own k w base e (.slice (some ⟨g, 0, none⟩) n c) zs) {j : Nat} (hj : j < zs.length) :
    w.cell? ⟨g, j, none⟩ = some (.int k (zs.getD j 0)) := by
  obtain rfl := h.len
  rw [World.ownsRow.cellAt h j (by omega)]
  simp [hj]

theorem Own.frozen_ {g n c : Nat} (h : Own k w base e (.slice (some ⟨g, 0, none⟩) n c) zs) (j : Nat) : w.frozen? ⟨g, j, none⟩ = false := by
  obtain rfl := h.len
  exact World.ownsRow.frozenAt h j

theorem Own.set_ {g n c : Nat} (h : Own k w base e (.slice (some ⟨g, 0, none⟩) n c) zs) (j : Nat) (x : Int) :
    Own k (w.setCell ⟨g, j, none⟩ (.int k x)) base e (.slice (some ⟨g, 0, none⟩) n c) (zs.set j x) := by
  obtain rfl := h.len
  have := (World.ownsRow.stored h j (.int k x)).1
  unfold Own
  rw [List.map_set, List.length_set]
  exact this

theorem Own.base_le {g n c : Nat} (h : Own k w base e (.slice (some ⟨g, 0, none⟩) n c) zs) : base ≤ g ∧ g < w.heap.size :=
  World.ownsRow.lt h g rfl

theorem Own.drewN (h : Own k w base e v zs) (n : Nat) : Own k (w.drewN n) base e v zs := h

/-- what is owned below B stays owned where all below B is kept -/
theorem Own.below {B : Nat} (h : Own k w base e v zs) (hb : Below B w w') (hB : w.heap.size ≤ B) : Own k w' base e v zs := by
  refine ⟨h.1, ?_⟩
  rcases h.2 with h2 | ⟨g, cap, cur, hv, hg, hh, r⟩
  · exact .inl h2
  · refine .inr ⟨g, cap, cur, hv, hg, ?_, r⟩
    have hlt : g < w.heap.size := by
      rcases Nat.lt_or_ge g w.heap.size with hlt | hge
      · exact hlt
      · rw [Array.getElem?_eq_none hge] at hh; cases hh
    rw [hb.block g (by omega)]; exact hh

end

/-- A slice of integers that came in: nil, or a row of cells; zs are all its numbers up to the capacity. -/
def IsRow (k : IntKind) (w : World) (a : Option Addr) (len cap : Nat) (zs : List Int) : Prop :=
  (a = none ∧ len = 0 ∧ cap = 0 ∧ zs = []) ∨
  ∃ x, a = some x ∧ len ≤ cap ∧ cap ≤ maxLen ∧ zs.length = cap ∧ (∀ i, i < zs.length → w.cell? (x.add i) = some (.int k (zs.getD i 0))) ∧ ∀ n ∈ zs, (Lit.int k n).wf = true

theorem lt_of_cell {w : World} {p : Addr} {v : Value} (h : w.cell? p = some v) : p.block < w.heap.size := by
  rcases Nat.lt_or_ge p.block w.heap.size with hlt | hge
  · exact hlt
  · have : w.heap[p.block]? = none := Array.getElem?_eq_none hge
    simp [World.cell?, this] at h

theorem rd_of_row {k : IntKind} {w : World} {a : Option Addr} {len cap : Nat} {zs : List Int} (h : IsRow k w a len cap zs) :
    Rd k w w.heap.size a (zs.take len) ∧ (zs.take len).length = len ∧ len ≤ maxLen ∧ ∀ n ∈ zs.take len, (Lit.int k n).wf = true := by
  rcases h with ⟨rfl, rfl, rfl, rfl⟩ | ⟨x, rfl, hl, hm, hz, hcell, hwz⟩
  · exact ⟨Rd.nil, rfl, Nat.zero_le _, fun n hn => by simp at hn⟩
  · have hlen : (zs.take len).length = len := by rw [List.length_take]; omega
    refine ⟨fun h0 => ?_, hlen, by omega, fun n hn => hwz n (List.mem_of_mem_take hn)⟩
    obtain ⟨b, off, spot⟩ := x
    have hspot : spot = none := by simpa [Addr.add] using World.cell?_spot (hcell 0 (by omega))
    subst hspot
    refine ⟨b, off, rfl, ?_, fun j hj => ?_⟩
    · have := lt_of_cell (hcell 0 (by omega))
      simpa [Addr.add] using this
    · have hj2 : j < len := by omega
      have := hcell j (by omega)
      rw [show (Addr.mk b off none).add j = ⟨b, off + j, none⟩ by unfold Addr.add; split <;> simp_all] at this
      rw [this, List.getD_eq_getElem?_getD, List.getD_eq_getElem?_getD, List.getElem?_take, if_pos hj2]

theorem drewN_two (w : World) (n m : Nat) : (w.drewN n).drewN m = w.drewN (n + m) := by
  simp only [World.drewN, Nat.add_assoc]

theorem grownBy_set {w w' : World} {g : Nat} (h : w.grownBy w' (some g)) (j : Nat) (u : Value) : w.grownBy (w'.setCell ⟨g, j, none⟩ u) (some g) :=
  ⟨h.os, h.tape, h.output, by have := h.size; simpa [World.setCell] using this, fun i hi hne => (Below.heap_setCell w' ⟨g, j, none⟩ u i (fun e => hne (by simp [e]))).trans (h.block i hi hne)⟩

theorem getD_set_of (zs : List Int) (k j : Nat) (x : Int) : (zs.set k x).getD j 0 = if k = j ∧ k < zs.length then x else zs.getD j 0 := by
  simp only [List.getD_eq_getElem?_getD, List.getElem?_set]
  by_cases h : k = j
  · subst h
    by_cases hl : k < zs.length <;> simp [hl]
  · simp [h]

/-- a list filled from the left: the first k of zs, then zeros -/
theorem fill_step (zs : List Int) (k : Nat) (h : k < zs.length) :
    (zs.take k ++ List.replicate (zs.length - k) 0).set k (zs.getD k 0) = zs.take (k + 1) ++ List.replicate (zs.length - (k + 1)) 0 := by
  have e1 : (zs.take k).length = k := by simp; omega
  obtain ⟨m, hm⟩ : ∃ m, zs.length = k + 1 + m := ⟨zs.length - (k + 1), by omega⟩
  have e2 : zs.length - k = m + 1 := by omega
  have e3 : zs.length - (k + 1) = m := by omega
  have e4 : zs.take (k + 1) = zs.take k ++ [zs.getD k 0] := by
    rw [List.take_succ_eq_append_getElem h]
    simp [h]
  rw [e2, e3, e4, List.set_append, if_neg (by omega), e1, Nat.sub_self, List.replicate_succ, List.set_cons_zero, List.append_assoc]
  rfl

end Go.Proofs.Ytdoipabfmekdlaa

namespace Go.Proofs.Ytdoipabfmekdlaa
open Go.RowKit

theorem Try.info_u8 : (Try.prog.info? 5).map (fun i => (i.zero, i.size, i.bytes)) = some (some (.int .u8 0), 1, 1) := by kernel_rfl

/-- what a reading call that answers a bool leaves: draws at most -/
def SaysB (w : World) (b : Bool) (e : Ending) (w' : World) : Prop := e = .returned (.bool b) ∧ ∃ n, w' = w.drewN n

theorem ne_of_getD {xs ys : List Int} {k : Nat} (h : xs.getD k 0 ≠ ys.getD k 0) : xs ≠ ys := fun e => h (by rw [e])
theorem take_succ_eq {xs ys : List Int} {k : Nat} (h : xs.take k = ys.take k) (hx : k < xs.length) (hy : k < ys.length) (hk : xs.getD k 0 = ys.getD k 0) : xs.take (k + 1) = ys.take (k + 1) := by
  rw [List.take_succ_eq_append_getElem hx, List.take_succ_eq_append_getElem hy, h]
  simp [hx, hy] at hk
  rw [hk]

theorem below_of_drew (B : Nat) (w : World) (n : Nat) : Below B w (w.drewN n) := bdrew (Below.refl B w) n

/-- the bytes that a marking from k on lays into n places -/
def marks (k : Int) (n : Nat) : List Int := (List.range n).map fun i : Nat => (k + (i : Int)) % 256

theorem marks_len (k : Int) (n : Nat) : (marks k n).length = n := by simp [marks]
theorem marks_getD (k : Int) (n j : Nat) (h : j < n) : (marks k n).getD j 0 = (k + (j : Int)) % 256 := by simp [marks, h]

theorem mark_step (zs : List Int) (k0 : Int) (k : Nat) (h : k < zs.length) :
    (marks k0 k ++ zs.drop k).set k ((k0 + (k : Int)) % 256) = marks k0 (k + 1) ++ zs.drop (k + 1) := by
  have e1 := marks_len k0 k
  rw [List.set_append, if_neg (by omega), e1, Nat.sub_self, List.drop_eq_getElem_cons h, List.set_cons_zero]
  simp [marks, List.range_succ]

/-- what a marking call leaves: the row holds the marks, no other block has turned -/
def Marked (w : World) (base : Nat) (v : Value) (k : Int) (zs : List Int) (e : Ending) (w' : World) : Prop :=
  e = .returned (.int .i64 (k + (zs.length : Int))) ∧ Own .u8 w' base 5 v (marks k zs.length) ∧ w.grownBy w' v.ownBlock

end Go.Proofs.Ytdoipabfmekdlaa

namespace Go.Proofs.Ytdoipabfmekdlaa
open Go.RowKit
set_option linter.unusedVariables false

/-- The slice value with address A reads as the one-cell values xs. -/
def RdV (w : World) (B : Nat) (A : Option Addr) (xs : List Value) : Prop :=
  0 < xs.length → ∃ b off, A = some ⟨b, off, none⟩ ∧ b < B ∧ ∀ j u, xs[j]? = some u → w.cell? ⟨b, off + j, none⟩ = some u

theorem Rd.toV {k : IntKind} {w : World} {B : Nat} {A : Option Addr} {zs : List Int} (h : Rd k w B A zs) : RdV w B A (zs.map (Value.int k)) := fun hp => by
  obtain ⟨b, off, rfl, hb, hc⟩ := h (by simpa using hp)
  refine ⟨b, off, rfl, hb, fun j u hu => ?_⟩
  have hj : j < zs.length := by
    rcases Nat.lt_or_ge j zs.length with h | h
    · exact h
    · rw [List.getElem?_eq_none (by simpa using h)] at hu; cases hu
  rw [hc j hj]
  simp [hj] at hu
  simp [hj, hu]

theorem add_mk (b off j : Nat) : (Addr.mk b off none).add j = ⟨b, off + j, none⟩ := by unfold Addr.add; split <;> simp_all

section
variable {P : Program} (w : World)

theorem run_app_nothing (base : Nat) (t ty e : TypeId) (i : TypeInfo) (ht : P.underlying t = some (.slice e)) (hi : P.info? e = some i)
    (v : Value) (n : Nat) (xs : List Value) (hown : w.ownsRow base e 1 v n xs) (c : Nat) : (Builtin.append_ #[t, t] ty #[v, .slice none 0 c]).run P w = .ok v w := by
  rcases hown.2 with ⟨rfl, rfl⟩ | ⟨g, cap, cur, rfl, _, _, hnc, _⟩
  · simp [Builtin.append_, run_underlying ht, sizeOf, typeInfo, hi, Builtin.lenOf, Builtin.firstCells]
  · simp [Builtin.append_, run_underlying ht, sizeOf, typeInfo, hi, Builtin.lenOf, Builtin.firstCells, hnc, storeCells]

theorem run_app (base : Nat) (t ty e : TypeId) (i : TypeInfo) (z : Value) (bytes : Nat) (ht : P.underlying t = some (.slice e)) (hi : P.info? e = some i) (hz : i.zero = some z)
    (hsize : i.size = 1) (hby : i.bytes = bytes) (hzs : z.cells.size = 1) (v : Value) (n : Nat) (xs : List Value) (hown : w.ownsRow base e 1 v n xs)
    (B : Nat) (A : Option Addr) (c : Nat) (ys : List Value) (hr : RdV w B A ys) (h1 : ∀ u ∈ ys, u.oneCell' = true)
    (hmax : n + ys.length ≤ 1099511627776) (hbyt : bytes ≤ 64) (hbase : base ≤ w.heap.size) :
    ∃ v' w', (Builtin.append_ #[t, t] ty #[v, .slice A ys.length c]).run P w = .ok v' w' ∧ w'.ownsRow base e 1 v' (n + ys.length) (xs ++ ys) ∧ w.grownBy w' v.ownBlock ∧
      (v'.ownBlock = v.ownBlock ∨ v'.ownBlock = some w.heap.size) := by
  rcases A with _ | a
  · have h0 : ys = [] := by
      rcases Nat.eq_zero_or_pos ys.length with h | h
      · exact List.eq_nil_of_length_eq_zero h
      · obtain ⟨b, off, h', _⟩ := hr h; cases h'
    subst h0
    exact ⟨v, w, run_app_nothing w base t ty e i ht hi v n xs hown c, by simpa using hown, World.grownBy.refl w _, .inl rfl⟩
  · have hcells : ∀ j u, ys[j]? = some u → w.cell? (a.add j) = some u := by
      intro j u hu
      have hp : 0 < ys.length := by
        rcases Nat.eq_zero_or_pos ys.length with h | h
        · rw [List.eq_nil_of_length_eq_zero h] at hu; simp at hu
        · exact h
      obtain ⟨b, off, h', _, hc⟩ := hr hp
      simp only [Option.some.injEq] at h'
      subst h'
      rw [add_mk]; exact hc j u hu
    have hb2 : (n + ys.length) * bytes ≤ 1099511627776 * 64 := Nat.mul_le_mul hmax hbyt
    obtain ⟨v', w', hrun, h2, h3, _, h5⟩ := run_append_own_at (P := P) w base t ty e i z 1 bytes ht hi hz hsize hby hzs (by omega) v n xs hown a ys.length c ys (by omega) hcells h1 (by unfold maxLen; omega) (by omega) hbase
    exact ⟨v', w', hrun, h2, h3, h5⟩

/-- THE LAW at the walk's next operation. -/
theorem wpl_app {ops : Array Oper} {rest : List Oper} {o : Oper} {a : Act} {Q : Exit → Act → World → Prop} (hgd : o.guard = none) (s x : Operand) (t : TypeId)
    (ho : o.op = .call { callee := .builtin .append, args := #[s, x], argTypes := #[t, t] })
    (base : Nat) (e : TypeId) (i : TypeInfo) (z : Value) (bytes : Nat) (ht : P.underlying t = some (.slice e)) (hi : P.info? e = some i) (hz : i.zero = some z)
    (hsize : i.size = 1) (hby : i.bytes = bytes) (hzs : z.cells.size = 1) (v : Value) (n : Nat) (xs : List Value) (hs : a.eval s = v) (hown : w.ownsRow base e 1 v n xs)
    (B : Nat) (A : Option Addr) (c m : Nat) (ys : List Value) (hx : a.eval x = .slice A m c) (hm : ys.length = m) (hr : RdV w B A ys) (h1 : ∀ u ∈ ys, u.oneCell' = true)
    (hmax : n + m ≤ 1099511627776) (hbyt : bytes ≤ 64) (hbase : base ≤ w.heap.size)
    (h : ∀ v' w', w'.ownsRow base e 1 v' (n + ys.length) (xs ++ ys) → w.grownBy w' v.ownBlock → (v'.ownBlock = v.ownBlock ∨ v'.ownBlock = some w.heap.size) → wpList P ops Q rest (a.put o.dst v') w') :
    wpList P ops Q (o :: rest) a w := by
  subst hm
  refine wpList_plain hgd fun K hK => ?_
  obtain ⟨v', w', hrun, h2, h3, h4⟩ := run_app (P := P) w base t o.type e i z bytes ht hi hz hsize hby hzs v n xs hown B A c ys hr h1 hmax hbyt hbase
  unfold Oper.wp execOp
  simp only [ho, resolve, invoke, builtin, Sem.run_bind, Sem.run_pure, Result.andThen_ok, List.map_toArray, List.map_cons, List.map_nil, hs, hx, hrun]
  exact hK _ _ (h v' w' h2 h3 h4)

/-- the same, of integers -/
theorem wpl_appI {ops : Array Oper} {rest : List Oper} {o : Oper} {a : Act} {Q : Exit → Act → World → Prop} (k : IntKind) (hgd : o.guard = none) (s x : Operand) (t : TypeId)
    (ho : o.op = .call { callee := .builtin .append, args := #[s, x], argTypes := #[t, t] })
    (base : Nat) (e : TypeId) (i : TypeInfo) (bytes : Nat) (ht : P.underlying t = some (.slice e)) (hi : P.info? e = some i) (hz : i.zero = some (.int k 0))
    (hsize : i.size = 1) (hby : i.bytes = bytes) (v : Value) (xs : List Int) (hs : a.eval s = v) (hown : Own k w base e v xs)
    (B : Nat) (A : Option Addr) (c m : Nat) (ys : List Int) (hx : a.eval x = .slice A m c) (hm : ys.length = m) (hr : Rd k w B A ys)
    (hmax : xs.length + m ≤ 1099511627776) (hbyt : bytes ≤ 64) (hbase : base ≤ w.heap.size)
    (h : ∀ v' w', Own k w' base e v' (xs ++ ys) → w.grownBy w' v.ownBlock → (v'.ownBlock = v.ownBlock ∨ v'.ownBlock = some w.heap.size) → wpList P ops Q rest (a.put o.dst v') w') :
    wpList P ops Q (o :: rest) a w :=
  wpl_app w hgd s x t ho base e i (.int k 0) bytes ht hi hz hsize hby rfl v xs.length (xs.map (Value.int k)) hs hown B A c m (ys.map (Value.int k)) hx (by simpa using hm) hr.toV
    (fun u hu => by obtain ⟨n, _, rfl⟩ := List.mem_map.1 hu; rfl) hmax hbyt hbase
    (fun v' w' h2 h3 h4 => h v' w' (by unfold Own; rw [List.length_append, List.map_append]; simpa using h2) h3 h4)

end

/-- a block of one cell that the walk has just laid -/
theorem rd_one (k : IntKind) (w : World) (t : TypeId) (x : Int) : Rd k (w.alloc (.cells #[.int k x] t)) (w.heap.size + 1) (some ⟨w.heap.size, 0, none⟩) [x] := fun _ =>
  ⟨w.heap.size, 0, rfl, by omega, fun j hj => by
    have : j = 0 := by simp at hj; omega
    subst this
    have := heap_alloc_new w (.cells #[.int k x] t)
    rw [cell_of_row _ w.heap.size (0 + 0) #[.int k x] t (0, 0) this]
    simp⟩

theorem own_none (k : IntKind) (w : World) (base : Nat) (e : TypeId) (hb : base ≤ w.heap.size) : Own k (w.alloc (.cells #[] e)) base e (.slice (some ⟨w.heap.size, 0, none⟩) 0 0) [] := by
  have := World.ownsRow_lit (base := base) (e := e) (size := 1) w #[] 0 hb (by unfold maxLen; omega) (by simp)
  simpa [Own] using this

theorem own_one (k : IntKind) (w : World) (base : Nat) (e : TypeId) (x : Int) (hb : base ≤ w.heap.size) : Own k (w.alloc (.cells #[.int k x] e)) base e (.slice (some ⟨w.heap.size, 0, none⟩) 1 1) [x] := by
  have := World.ownsRow_lit (base := base) (e := e) (size := 1) w #[.int k x] 1 hb (by unfold maxLen; omega) (by simp)
  simpa [Own] using this

theorem Own.alloc_ {k : IntKind} {w : World} {base : Nat} {e : TypeId} {v : Value} {zs : List Int} (h : Own k w base e v zs) (o : Obj) : Own k (w.alloc o) base e v zs := World.ownsRow.alloc h o

theorem Own.base_mono {k : IntKind} {w : World} {base base' : Nat} {e : TypeId} {v : Value} {zs : List Int} (h : Own k w base e v zs) (hb : base' ≤ base) : Own k w base' e v zs := by
  refine ⟨h.1, ?_⟩
  rcases h.2 with h2 | ⟨g, cap, cur, hv, hg, r⟩
  · exact .inl h2
  · exact .inr ⟨g, cap, cur, hv, by omega, r⟩

/-- what a step that grows a row of the call's own leaves below B -/
theorem grown_below {B : Nat} {a w w' : World} {v : Value} {k : IntKind} {base : Nat} {e : TypeId} {zs : List Int} (h : Below B a w) (ho : Own k w base e v zs) (hg : w.grownBy w' v.ownBlock) (hB : B ≤ base) (hB2 : B ≤ w.heap.size) : Below B a w' :=
  h.grown hg hB2 (fun k hk => by have := (World.ownsRow.lt ho k hk).1; omega)

theorem Own.kept_ {k : IntKind} {w w' : World} {base : Nat} {e : TypeId} {v : Value} {zs : List Int} {row : Option Nat} (h : Own k w base e v zs) (hg : w.grownBy w' row) (hne : ∀ j, v.ownBlock = some j → row ≠ some j) : Own k w' base e v zs :=
  World.ownsRow.kept h hg (by
    rcases hv : v.ownBlock with _ | j
    · exact .inl rfl
    · exact .inr (fun e => hne j hv e.symm))

theorem Own.at_ {k : IntKind} {w : World} {base : Nat} {e : TypeId} {v : Value} {zs : List Int} (h : Own k w base e v zs) : ∀ j, v.ownBlock = some j → base ≤ j ∧ j < w.heap.size := World.ownsRow.lt h

end Go.Proofs.Ytdoipabfmekdlaa

namespace Go.Proofs.Ytdoipabfmekdlaa
open Go.RowKit
set_option linter.unusedVariables false

/-- the value v is a slice that reads as the integers zs -/
def RS (k : IntKind) (w : World) (v : Value) (zs : List Int) : Prop :=
  ∃ A c, v = .slice A zs.length c ∧ zs.length ≤ c ∧ c ≤ maxLen ∧ Rd k w w.heap.size A zs

/-- the value v is a row of integers zs, in a block of its own from lo on and below hi -/
def OS (k : IntKind) (e : TypeId) (w : World) (lo hi : Nat) (v : Value) (zs : List Int) : Prop :=
  Own k w lo e v zs ∧ (∀ j, v.ownBlock = some j → j < hi) ∧ hi ≤ w.heap.size

/-- w' is w but for the blocks from a on and below b, and for new ones -/
structure Chg (a b : Nat) (w w' : World) : Prop where
  os : w'.os = w.os
  tape : w'.tape = w.tape
  output : w'.output = w.output
  size : w.heap.size ≤ w'.heap.size
  block : ∀ k, k < w.heap.size → (k < a ∨ b ≤ k) → w'.heap[k]? = w.heap[k]?

theorem Chg.below {a b B : Nat} {w w' : World} (h : Chg a b w w') (hB : B ≤ a) (hB2 : B ≤ w.heap.size) : Below B w w' :=
  ⟨h.os, h.tape, h.output, h.size, fun k hk => h.block k (by omega) (.inl (by omega))⟩

theorem Chg.of_grown {a b : Nat} {w w' : World} {row : Option Nat} (h : w.grownBy w' row) (hr : ∀ j, row = some j → a ≤ j ∧ j < b) : Chg a b w w' :=
  ⟨h.os, h.tape, h.output, h.size, fun k hk hab => h.block k hk (fun e => by have := hr k e.symm; omega)⟩

section
variable {k : IntKind} {e : TypeId} {w w' : World} {lo hi : Nat} {v : Value} {zs : List Int}

theorem RS.from_ (h : RS k w v zs) (hb : Below w.heap.size w w') : RS k w' v zs := by
  obtain ⟨A, c, hv, h1, h2, hr⟩ := h
  exact ⟨A, c, hv, h1, h2, (hr.below hb).more hb.size⟩

theorem RS.rd_ {A : Option Addr} {n c : Nat} (h : RS k w (.slice A n c) zs) : Rd k w w.heap.size A zs := by
  obtain ⟨A', c', hv, h1, h2, hr⟩ := h
  simp only [Value.slice.injEq] at hv
  rw [hv.1]; exact hr
theorem RS.le_ {A : Option Addr} {n c : Nat} (h : RS k w (.slice A n c) zs) : zs.length ≤ c ∧ c ≤ maxLen := by
  obtain ⟨A', c', hv, h1, h2, hr⟩ := h
  simp only [Value.slice.injEq] at hv
  rw [hv.2.2]; exact ⟨h1, h2⟩

theorem own_form {v : Value} (h : Own k w lo e v zs) : ∃ A c, v = .slice A zs.length c ∧ zs.length ≤ c ∧ c ≤ maxLen ∧ Rd k w w.heap.size A zs := by
  obtain ⟨A, c, hv, hr⟩ := h.form
  refine ⟨A, c, hv, ?_, ?_, hr⟩
  · rcases h.2 with ⟨h1, h0⟩ | ⟨g, cap, cur, h1, _, _, hn, _⟩
    · omega
    · rw [hv] at h1; simp only [Value.slice.injEq] at h1; omega
  · rcases h.2 with ⟨h1, h0⟩ | ⟨g, cap, cur, h1, _, _, _, hn, _⟩
    · rw [hv] at h1; simp only [Value.slice.injEq] at h1; unfold maxLen; omega
    · rw [hv] at h1; simp only [Value.slice.injEq] at h1; omega

theorem OS.rd (h : OS k e w lo hi v zs) : RS k w v zs := own_form h.1

theorem OS.below (h : OS k e w lo hi v zs) (hb : Below w.heap.size w w') : OS k e w' lo hi v zs :=
  ⟨h.1.below hb (Nat.le_refl _), h.2.1, Nat.le_trans h.2.2 hb.size⟩

theorem OS.chg {a b : Nat} (h : OS k e w lo hi v zs) (hc : Chg a b w w') (hd : hi ≤ a ∨ b ≤ lo) : OS k e w' lo hi v zs := by
  refine ⟨⟨h.1.1, ?_⟩, h.2.1, Nat.le_trans h.2.2 hc.size⟩
  rcases h.1.2 with h2 | ⟨g, cap, cur, hv, hg, hh, r⟩
  · exact .inl h2
  · refine .inr ⟨g, cap, cur, hv, hg, ?_, r⟩
    have h3 := h.2.1 g (by rw [hv]; rfl)
    have h4 := h.2.2
    rw [hc.block g (by omega) (by omega)]; exact hh

theorem OS.widen {lo' hi' : Nat} (h : OS k e w lo hi v zs) (hl : lo' ≤ lo) (hh : hi ≤ hi') (hw : hi' ≤ w.heap.size) : OS k e w lo' hi' v zs :=
  ⟨h.1.base_mono hl, fun j hj => Nat.lt_of_lt_of_le (h.2.1 j hj) hh, hw⟩
theorem OS.mk_ (h : Own k w' lo e v zs) : OS k e w' lo w'.heap.size v zs := ⟨h, fun j hj => (h.at_ j hj).2, Nat.le_refl _⟩
end

/-- an argument, as the row's frame opens it -/
theorem rs_of_row {k : IntKind} {w : World} {a : Option Addr} {len cap : Nat} {zs : List Int} (h : IsRow k w a len cap zs) : RS k w (.slice a len cap) (zs.take len) := by
  obtain ⟨hr, hl, hm, _⟩ := rd_of_row h
  refine ⟨a, cap, by rw [hl], ?_, ?_, hr⟩
  · rcases h with ⟨_, h1, h2, _⟩ | ⟨_, _, h1, _⟩ <;> omega
  · rcases h with ⟨_, _, h2, _⟩ | ⟨_, _, _, h2, _⟩
    · unfold maxLen; omega
    · exact h2

/-- a call that answers a new row alone -/
def NewS (k : IntKind) (t : TypeId) (w : World) (zs : List Int) (e : Ending) (w' : World) : Prop :=
  ∃ v, e = .returned v ∧ OS k t w' w.heap.size w'.heap.size v zs ∧ Below w.heap.size w w'

/-- a call that answers a new row of bytes and a bool -/
def NewSB (w : World) (zs : List Int) (b : Bool) (e : Ending) (w' : World) : Prop :=
  ∃ v, e = .returned (.tuple #[v, .bool b]) ∧ OS .u8 5 w' w.heap.size w'.heap.size v zs ∧ Below w.heap.size w w'
/-- a call that answers a new row of bytes, a number and a bool -/
def NewSIB (w : World) (zs : List Int) (n : Int) (b : Bool) (e : Ending) (w' : World) : Prop :=
  ∃ v, e = .returned (.tuple #[v, .int .i64 n, .bool b]) ∧ OS .u8 5 w' w.heap.size w'.heap.size v zs ∧ Below w.heap.size w w'
theorem os_none (w : World) (lo : Nat) : OS .u8 5 w lo w.heap.size (.slice none 0 0) [] := OS.mk_ (World.ownsRow_nil _ _ _ _)

end Go.Proofs.Ytdoipabfmekdlaa

namespace Go.Proofs.Ytdoipabfmekdlaa
open Go.RowKit
set_option linter.unusedVariables false

/-- w' is w but for the blocks of S, and for new ones -/
structure ChgS (S : List Nat) (w w' : World) : Prop where
  os : w'.os = w.os
  tape : w'.tape = w.tape
  output : w'.output = w.output
  size : w.heap.size ≤ w'.heap.size
  block : ∀ k, k < w.heap.size → k ∉ S → w'.heap[k]? = w.heap[k]?

theorem ChgS.refl (S : List Nat) (w : World) : ChgS S w w := ⟨rfl, rfl, rfl, Nat.le_refl _, fun _ _ _ => rfl⟩
theorem ChgS.trans {S : List Nat} {a b c : World} (h : ChgS S a b) (k : ChgS S b c) : ChgS S a c :=
  ⟨k.os.trans h.os, k.tape.trans h.tape, k.output.trans h.output, Nat.le_trans h.size k.size, fun i hi hn => (k.block i (Nat.lt_of_lt_of_le hi h.size) hn).trans (h.block i hi hn)⟩
theorem ChgS.more {S T : List Nat} {a b : World} (h : ChgS S a b) (hs : ∀ j ∈ S, j ∈ T) : ChgS T a b :=
  ⟨h.os, h.tape, h.output, h.size, fun k hk hn => h.block k hk (fun e => hn (hs k e))⟩
theorem ChgS.of_grown {w w' : World} {row : Option Nat} (h : w.grownBy w' row) : ChgS row.toList w w' :=
  ⟨h.os, h.tape, h.output, h.size, fun k hk hn => h.block k hk (fun e => hn (by rw [← e]; simp))⟩
theorem ChgS.chg {S : List Nat} {lo hi : Nat} {w w' : World} (h : ChgS S w w') (hS : ∀ j ∈ S, lo ≤ j ∧ j < hi) : Chg lo hi w w' :=
  ⟨h.os, h.tape, h.output, h.size, fun k hk hab => h.block k hk (fun e => by have := hS k e; omega)⟩
theorem ChgS.below {S : List Nat} {B : Nat} {w w' : World} (h : ChgS S w w') (hS : ∀ j ∈ S, B ≤ j) (hB : B ≤ w.heap.size) : Below B w w' :=
  ⟨h.os, h.tape, h.output, h.size, fun k hk => h.block k (by omega) (fun e => by have := hS k e; omega)⟩

/-- A layout: 'rd w B cs x': the cells cs read as x, all memory behind them in blocks below B; 'own w S cs x': they do, and the blocks behind them are S, each for one slice alone. -/
structure Lay (α : Type) where
  rd : World → Nat → List Value → α → Prop
  own : World → List Nat → List Value → α → Prop
  rd_keep : ∀ {w w' : World} {B : Nat} {cs : List Value} {x : α}, rd w B cs x → (∀ p : Addr, p.block < B → w'.cell? p = w.cell? p) → rd w' B cs x
  rd_more : ∀ {w : World} {B B' : Nat} {cs : List Value} {x : α}, rd w B cs x → B ≤ B' → rd w B' cs x
  own_rd : ∀ {w : World} {S : List Nat} {cs : List Value} {x : α}, own w S cs x → rd w w.heap.size cs x
  own_lt : ∀ {w : World} {S : List Nat} {cs : List Value} {x : α}, own w S cs x → ∀ j ∈ S, j < w.heap.size
  own_keep : ∀ {w w' : World} {S : List Nat} {cs : List Value} {x : α}, own w S cs x → (∀ j ∈ S, w'.heap[j]? = w.heap[j]?) → own w' S cs x

/-- a slice of integers -/
def intsL (k : IntKind) (e : TypeId) : Lay (List Int) where
  rd w B cs zs := ∃ A c, cs = [.slice A zs.length c] ∧ zs.length ≤ c ∧ c ≤ maxLen ∧ Rd k w B A zs
  own w S cs zs := ∃ v, cs = [v] ∧ Own k w 0 e v zs ∧ S = v.ownBlock.toList
  rd_keep := by
    rintro w w' B cs zs ⟨A, c, rfl, h1, h2, hr⟩ hk
    exact ⟨A, c, rfl, h1, h2, hr.keep hk⟩
  rd_more := by
    rintro w B B' cs zs ⟨A, c, rfl, h1, h2, hr⟩ hB
    exact ⟨A, c, rfl, h1, h2, hr.more hB⟩
  own_rd := by
    rintro w S cs zs ⟨v, rfl, ho, rfl⟩
    obtain ⟨A, c, rfl, h1, h2, hr⟩ := own_form ho
    exact ⟨A, c, rfl, h1, h2, hr⟩
  own_lt := by
    rintro w S cs zs ⟨v, rfl, ho, rfl⟩ j hj
    exact (ho.at_ j (by simpa using hj)).2
  own_keep := by
    rintro w w' S cs zs ⟨v, rfl, ho, rfl⟩ hk
    refine ⟨v, rfl, ⟨ho.1, ?_⟩, rfl⟩
    rcases ho.2 with h2 | ⟨g, cap, cur, hv, hg, hh, r⟩
    · exact .inl h2
    · exact .inr ⟨g, cap, cur, hv, hg, (hk g (by rw [hv]; simp [Value.ownBlock])).trans hh, r⟩

/-- one cell that leads nowhere -/
def oneL {α : Type} (f : α → Value) : Lay α where
  rd _ _ cs x := cs = [f x]
  own _ S cs x := cs = [f x] ∧ S = []
  rd_keep h _ := h
  rd_more h _ := h
  own_rd h := h.1
  own_lt h j hj := by rw [h.2] at hj; cases hj
  own_keep h _ := h

def intL (k : IntKind) : Lay Int := oneL (Value.int k)
def boolL : Lay Bool := oneL Value.bool
def strL : Lay ByteArray := oneL Value.string

/-- two parts, one behind the other -/
def consL {α β : Type} (L : Lay α) (M : Lay β) : Lay (α × β) where
  rd w B cs x := ∃ c1 c2, cs = c1 ++ c2 ∧ L.rd w B c1 x.1 ∧ M.rd w B c2 x.2
  own w S cs x := ∃ c1 c2 S1 S2, cs = c1 ++ c2 ∧ S = S1 ++ S2 ∧ L.own w S1 c1 x.1 ∧ M.own w S2 c2 x.2
  rd_keep := by
    rintro w w' B cs x ⟨c1, c2, rfl, h1, h2⟩ hk
    exact ⟨c1, c2, rfl, L.rd_keep h1 hk, M.rd_keep h2 hk⟩
  rd_more := by
    rintro w B B' cs x ⟨c1, c2, rfl, h1, h2⟩ hB
    exact ⟨c1, c2, rfl, L.rd_more h1 hB, M.rd_more h2 hB⟩
  own_rd := by
    rintro w S cs x ⟨c1, c2, S1, S2, rfl, rfl, h1, h2⟩
    exact ⟨c1, c2, rfl, L.own_rd h1, M.own_rd h2⟩
  own_lt := by
    rintro w S cs x ⟨c1, c2, S1, S2, rfl, rfl, h1, h2⟩ j hj
    rcases List.mem_append.1 hj with h | h
    · exact L.own_lt h1 j h
    · exact M.own_lt h2 j h
  own_keep := by
    rintro w w' S cs x ⟨c1, c2, S1, S2, rfl, rfl, h1, h2⟩ hk
    exact ⟨c1, c2, S1, S2, rfl, rfl, L.own_keep h1 fun j hj => hk j (List.mem_append.2 (.inl hj)), M.own_keep h2 fun j hj => hk j (List.mem_append.2 (.inr hj))⟩

/-- the same cells, read as another type -/
def isoL {α β : Type} (f : β → α) (L : Lay α) : Lay β where
  rd w B cs y := L.rd w B cs (f y)
  own w S cs y := L.own w S cs (f y)
  rd_keep h hk := L.rd_keep h hk
  rd_more h hB := L.rd_more h hB
  own_rd h := L.own_rd h
  own_lt h := L.own_lt h
  own_keep h hk := L.own_keep h hk

/-- the value whose cells these are -/
def valOf : List Value → Value
  | [v] => v
  | cs => .agg cs.toArray

/-- the value v reads as x -/
def RV {α : Type} (L : Lay α) (w : World) (v : Value) (x : α) : Prop := ∃ cs, v = valOf cs ∧ L.rd w w.heap.size cs x

/-- the value v reads as x, in blocks of its own from lo on and below hi -/
def OV {α : Type} (L : Lay α) (w : World) (lo hi : Nat) (v : Value) (x : α) : Prop :=
  ∃ cs S, v = valOf cs ∧ L.own w S cs x ∧ S.Nodup ∧ (∀ j ∈ S, lo ≤ j ∧ j < hi) ∧ hi ≤ w.heap.size

section
variable {α β : Type} {L : Lay α} {M : Lay β} {w w' : World} {lo hi : Nat} {v : Value} {x : α} {S : List Nat} {cs : List Value}

theorem cell_of_block {w w' : World} {p : Addr} (h : w'.heap[p.block]? = w.heap[p.block]?) : w'.cell? p = w.cell? p := by
  unfold World.cell?; rw [h]

theorem Lay.rd_below {B : Nat} (h : L.rd w B cs x) (hb : Below B w w') : L.rd w' B cs x := L.rd_keep h fun _ hp => hb.cell hp
theorem Lay.rd_from (h : L.rd w w.heap.size cs x) (hb : Below w.heap.size w w') : L.rd w' w'.heap.size cs x := L.rd_more (L.rd_below h hb) hb.size
theorem Lay.own_below (h : L.own w S cs x) (hb : Below w.heap.size w w') : L.own w' S cs x := L.own_keep h fun j hj => hb.block j (L.own_lt h j hj)
theorem Lay.own_chg {T : List Nat} (h : L.own w S cs x) (hc : ChgS T w w') (hd : ∀ j ∈ S, j ∉ T) : L.own w' S cs x := L.own_keep h fun j hj => hc.block j (L.own_lt h j hj) (hd j hj)

theorem RV.from_ (h : RV L w v x) (hb : Below w.heap.size w w') : RV L w' v x := by
  obtain ⟨cs, rfl, h⟩ := h
  exact ⟨cs, rfl, L.rd_from h hb⟩
theorem OV.rd (h : OV L w lo hi v x) : RV L w v x := by
  obtain ⟨cs, S, rfl, ho, _⟩ := h
  exact ⟨cs, rfl, L.own_rd ho⟩
theorem OV.below (h : OV L w lo hi v x) (hb : Below w.heap.size w w') : OV L w' lo hi v x := by
  obtain ⟨cs, S, rfl, ho, hn, hS, hh⟩ := h
  exact ⟨cs, S, rfl, L.own_below ho hb, hn, hS, Nat.le_trans hh hb.size⟩
theorem OV.chg {a b : Nat} (h : OV L w lo hi v x) (hc : Chg a b w w') (hd : hi ≤ a ∨ b ≤ lo) : OV L w' lo hi v x := by
  obtain ⟨cs, S, rfl, ho, hn, hS, hh⟩ := h
  exact ⟨cs, S, rfl, L.own_keep ho fun j hj => hc.block j (L.own_lt ho j hj) (by have := hS j hj; omega), hn, hS, Nat.le_trans hh hc.size⟩

theorem rv_ints {k : IntKind} {e : TypeId} {zs : List Int} : RV (intsL k e) w v zs ↔ RS k w v zs := by
  constructor
  · rintro ⟨cs, rfl, A, c, rfl, h1, h2, hr⟩
    exact ⟨A, c, rfl, h1, h2, hr⟩
  · rintro ⟨A, c, rfl, h1, h2, hr⟩
    exact ⟨_, rfl, A, c, rfl, h1, h2, hr⟩

theorem own_at {k : IntKind} {e : TypeId} {zs : List Int} {lo : Nat} (h : Own k w 0 e v zs) (hl : ∀ j, v.ownBlock = some j → lo ≤ j) : Own k w lo e v zs := by
  refine ⟨h.1, ?_⟩
  rcases h.2 with h2 | ⟨g, cap, cur, hv, hg, r⟩
  · exact .inl h2
  · exact .inr ⟨g, cap, cur, hv, hl g (by rw [hv]; rfl), r⟩

theorem ov_ints {k : IntKind} {e : TypeId} {zs : List Int} : OV (intsL k e) w lo hi v zs ↔ OS k e w lo hi v zs := by
  constructor
  · rintro ⟨cs, S, rfl, ⟨u, rfl, ho, rfl⟩, hn, hS, hh⟩
    have hj2 : ∀ j, (valOf [u]).ownBlock = some j → j ∈ u.ownBlock.toList := fun j hj => by
      have hj' : u.ownBlock = some j := hj
      rw [hj']; simp
    exact ⟨own_at ho fun j hj => (hS j (hj2 j hj)).1, fun j hj => (hS j (hj2 j hj)).2, hh⟩
  · rintro ⟨ho, h1, h2⟩
    refine ⟨[v], _, rfl, ⟨v, rfl, ho.base_mono (Nat.zero_le _), rfl⟩, ?_, fun j hj => ?_, h2⟩
    · cases v.ownBlock <;> simp
    · have hj' : v.ownBlock = some j := by simpa using hj
      exact ⟨(ho.at_ j hj').1, h1 j hj'⟩
end

/-- a call that answers a new value of this layout alone -/
def NewV {α : Type} (L : Lay α) (w : World) (x : α) (e : Ending) (w' : World) : Prop :=
  ∃ v, e = .returned v ∧ OV L w' w.heap.size w'.heap.size v x ∧ Below w.heap.size w w'

/-- a call that answers a new value of this layout and a bool -/
def NewVB {α : Type} (L : Lay α) (w : World) (x : α) (b : Bool) (e : Ending) (w' : World) : Prop :=
  ∃ v, e = .returned (.tuple #[v, .bool b]) ∧ OV L w' w.heap.size w'.heap.size v x ∧ Below w.heap.size w w'

/-- a call that answers a new value of this layout, a number and a bool -/
def NewVIB {α : Type} (L : Lay α) (w : World) (x : α) (n : Int) (b : Bool) (e : Ending) (w' : World) : Prop :=
  ∃ v, e = .returned (.tuple #[v, .int .i64 n, .bool b]) ∧ OV L w' w.heap.size w'.heap.size v x ∧ Below w.heap.size w w'

/-- the cells cs read as x, in blocks of their own that meet p -/
def OVp {α : Type} (L : Lay α) (w : World) (p : Nat → Prop) (cs : List Value) (x : α) : Prop := ∃ S, L.own w S cs x ∧ S.Nodup ∧ ∀ j ∈ S, p j

section
variable {α β : Type} {L : Lay α} {M : Lay β} {w w' : World} {lo hi : Nat} {v : Value} {x : α} {y : β} {c1 c2 cs : List Value} {p q : Nat → Prop}

theorem OVp.imp' (h : OVp L w p cs x) (hp : ∀ j, p j → q j) : OVp L w q cs x := by
  obtain ⟨S, ho, hn, hS⟩ := h
  exact ⟨S, ho, hn, fun j hj => hp j (hS j hj)⟩
theorem OVp.cons (h1 : OVp L w p c1 x) (h2 : OVp M w q c2 y) (hd : ∀ j, p j → q j → False) : OVp (consL L M) w (fun j => p j ∨ q j) (c1 ++ c2) (x, y) := by
  obtain ⟨S1, o1, n1, b1⟩ := h1
  obtain ⟨S2, o2, n2, b2⟩ := h2
  refine ⟨S1 ++ S2, ⟨c1, c2, S1, S2, rfl, rfl, o1, o2⟩, ?_, ?_⟩
  · rw [List.nodup_append]
    exact ⟨n1, n2, fun a ha b hb e => hd a (b1 a ha) (e ▸ b2 b hb)⟩
  · intro j hj
    rcases List.mem_append.1 hj with h | h
    · exact .inl (b1 j h)
    · exact .inr (b2 j h)
theorem OVp.cons1 {f : α → Value} (h2 : OVp M w q c2 y) : OVp (consL (oneL f) M) w q ([f x] ++ c2) (x, y) := by
  obtain ⟨S2, o2, n2, b2⟩ := h2
  exact ⟨S2, ⟨[f x], c2, [], S2, rfl, rfl, ⟨rfl, rfl⟩, o2⟩, n2, b2⟩
theorem OVp.consR (h1 : OVp L w p c1 x) (h2 : OVp M w (fun _ => False) c2 y) : OVp (consL L M) w p (c1 ++ c2) (x, y) :=
  (OVp.cons h1 h2 (fun _ _ h => h)).imp' (fun _ h => h.elim id (fun f => f.elim))
theorem OVp.one {f : α → Value} : OVp (oneL f) w (fun _ => False) [f x] x := ⟨[], ⟨rfl, rfl⟩, List.nodup_nil, fun _ h => by cases h⟩
theorem OVp.ints {k : IntKind} {e : TypeId} {zs : List Int} (h : OS k e w lo hi v zs) : OVp (intsL k e) w (fun j => lo ≤ j ∧ j < hi) [v] zs := by
  obtain ⟨cs, S, e1, ho, hn, hS, _⟩ := ov_ints.2 h
  obtain ⟨u, rfl, ho⟩ := ho
  obtain rfl : v = u := e1
  exact ⟨S, ⟨v, rfl, ho⟩, hn, hS⟩
theorem OVp.ov (h : OVp L w p cs x) (hp : ∀ j, p j → lo ≤ j ∧ j < hi) (hh : hi ≤ w.heap.size) : OV L w lo hi (valOf cs) x := by
  obtain ⟨S, ho, hn, hS⟩ := h
  exact ⟨cs, S, rfl, ho, hn, fun j hj => hp j (hS j hj), hh⟩
theorem OVp.imp (h : OVp L w p cs x) (hp : ∀ j, p j → q j) : OVp L w q cs x := by
  obtain ⟨S, ho, hn, hS⟩ := h
  exact ⟨S, ho, hn, fun j hj => hp j (hS j hj)⟩
theorem OVp.rd (h : OVp L w p cs x) : L.rd w w.heap.size cs x := by
  obtain ⟨S, ho, _, _⟩ := h
  exact L.own_rd ho
theorem OVp.iso {f : β → α} {y : β} (h : OVp L w p cs (f y)) : OVp (isoL f L) w p cs y := h
theorem OV.widen {lo' hi' : Nat} (h : OV L w lo hi v x) (hl : lo' ≤ lo) (hh : hi ≤ hi') (hw : hi' ≤ w.heap.size) : OV L w lo' hi' v x := by
  obtain ⟨cs, S, e, ho, hn, hS, _⟩ := h
  exact ⟨cs, S, e, ho, hn, fun j hj => by have := hS j hj; omega, hw⟩
end

/-- a marking: what a call leaves that marks the cells cs (blocks S), from k on -/
def MarkS {α : Type} (L : Lay α) (w : World) (S : List Nat) (cs : List Value) (n : Int) (x : α) (e : Ending) (w' : World) : Prop :=
  e = .returned (.int .i64 n) ∧ L.own w' S cs x ∧ ChgS S w w'

theorem MarkS.up {α : Type} {L : Lay α} {w : World} {lo hi : Nat} {S : List Nat} {cs : List Value} {n : Int} {x : α} {e : Ending} {w' : World} (h : MarkS L w S cs n x e w') (hn : S.Nodup) (hS : ∀ j ∈ S, lo ≤ j ∧ j < hi) (hh : hi ≤ w.heap.size) :
    e = .returned (.int .i64 n) ∧ OV L w' lo hi (valOf cs) x ∧ Chg lo hi w w' :=
  ⟨h.1, ⟨cs, S, rfl, h.2.1, hn, hS, Nat.le_trans hh h.2.2.size⟩, h.2.2.chg hS⟩

theorem nodup_app {S T : List Nat} (h : (S ++ T).Nodup) : S.Nodup ∧ T.Nodup ∧ (∀ j ∈ S, j ∉ T) ∧ (∀ j ∈ T, j ∉ S) := by
  rw [List.nodup_append] at h
  exact ⟨h.1, h.2.1, fun j hj hj' => h.2.2 j hj j hj' rfl, fun j hj hj' => h.2.2 j hj' j hj rfl⟩
theorem ChgS.of_below {S : List Nat} {w w' : World} (h : Below w.heap.size w w') : ChgS S w w' := ⟨h.os, h.tape, h.output, h.size, fun k hk _ => h.block k hk⟩
theorem ret_int {a b : Int} (h : a = b) : Ending.returned (.int .i64 a) = Ending.returned (.int .i64 b) := by rw [h]

end Go.Proofs.Ytdoipabfmekdlaa

namespace Go.Proofs.Ytdoipabfmekdlaa
open Go.RowKit
set_option linter.unusedVariables false

/-- block b of w holds the cells cs of a variable of type t -/
def Vr (w : World) (b : Nat) (t : TypeId) (cs : List Value) : Prop := w.heap[b]? = some (.cells cs.toArray t (0, 0))

section
variable {w w' : World} {b b' : Nat} {t : TypeId} {cs : List Value} {v : Value} {i : Nat}

theorem Vr.lt (h : Vr w b t cs) : b < w.heap.size := by
  rcases Nat.lt_or_ge b w.heap.size with hlt | hge
  · exact hlt
  · unfold Vr at h; rw [Array.getElem?_eq_none hge] at h; cases h
theorem Vr.cell (h : Vr w b t cs) (hi : cs[i]? = some v) : w.cell? ⟨b, i, none⟩ = some v := by
  unfold Vr at h
  rw [cell_of_row w b i cs.toArray t (0, 0) h]
  simpa using hi
theorem Vr.frozen (h : Vr w b t cs) (i : Nat) : w.frozen? ⟨b, i, none⟩ = false := by
  unfold Vr at h
  simp [World.frozen?, h]
theorem Vr.same (h : Vr w b t cs) (hi : cs[i]? = some v) : w.setCell ⟨b, i, none⟩ v = w := by
  unfold Vr at h
  rw [setCell_eq_setRow w b i cs.toArray t (0, 0) v h]
  have e : cs.toArray.setIfInBounds i v = cs.toArray := by
    apply Array.ext_getElem?
    intro j
    rw [Array.getElem?_setIfInBounds]
    by_cases hj : i = j
    · subst hj
      have hl : i < cs.length := by
        rcases Nat.lt_or_ge i cs.length with h | h
        · exact h
        · rw [List.getElem?_eq_none h] at hi; cases hi
      rw [List.getElem?_eq_getElem hl] at hi
      simp [hl, Option.some.inj hi]
    · simp [hj]
  rw [e]
  exact setRow_self w b cs.toArray t (0, 0) h
theorem Vr.new (w : World) (t : TypeId) (cs : List Value) : Vr (w.alloc (.cells cs.toArray t)) w.heap.size t cs := heap_alloc_new w _
theorem Vr.alloc (h : Vr w b t cs) (o : Obj) : Vr (w.alloc o) b t cs := by
  have hl := h.lt
  unfold Vr at h ⊢
  rw [show (w.alloc o).heap[b]? = w.heap[b]? from ((Below.refl w.heap.size w).alloc (Nat.le_refl _) o).block b hl]
  exact h
theorem Vr.below {B : Nat} (h : Vr w b t cs) (hb : Below B w w') (hB : b < B) : Vr w' b t cs := by
  unfold Vr at h ⊢; rw [hb.block b hB]; exact h
theorem Vr.from_ (h : Vr w b t cs) (hb : Below w.heap.size w w') : Vr w' b t cs := h.below hb h.lt
theorem Vr.set (h : Vr w b t cs) (i : Nat) (v : Value) : Vr (w.setCell ⟨b, i, none⟩ v) b t (cs.set i v) := by
  unfold Vr at h ⊢
  rw [setCell_eq_setRow w b i cs.toArray t (0, 0) v h, setRow_heap w b _ _ t _ h]
  simp
theorem Vr.set_ne (h : Vr w b t cs) (hne : b' ≠ b) (i : Nat) (v : Value) : Vr (w.setCell ⟨b', i, none⟩ v) b t cs := by
  unfold Vr at h ⊢
  rw [Below.heap_setCell w ⟨b', i, none⟩ v b (fun e => hne e.symm)]
  exact h
theorem Vr.grown {row : Option Nat} (h : Vr w b t cs) (hg : w.grownBy w' row) (hne : row ≠ some b) : Vr w' b t cs := by
  have hl := h.lt
  unfold Vr at h ⊢
  rw [hg.block b hl (fun e => hne e.symm)]
  exact h
theorem Vr.chgS {S : List Nat} (h : Vr w b t cs) (hc : ChgS S w w') (hd : b ∉ S) : Vr w' b t cs := by
  have hl := h.lt
  unfold Vr at h ⊢
  rw [hc.block b hl hd]
  exact h
theorem Vr.chg {a c : Nat} (h : Vr w b t cs) (hc : Chg a c w w') (hd : b < a ∨ c ≤ b) : Vr w' b t cs := by
  have hl := h.lt
  unfold Vr at h ⊢
  rw [hc.block b hl hd]
  exact h
end

/-- the variables that a function lays at its entry -/
theorem frame1 (w : World) (t0 : TypeId) (c0 : List Value) : ∃ wa, w.alloc (.cells c0.toArray t0) = wa ∧ Below w.heap.size w wa ∧ wa.heap.size = w.heap.size + 1 ∧ Vr wa w.heap.size t0 c0 :=
  ⟨_, rfl, (Below.refl _ _).alloc (Nat.le_refl _) _, by simp, Vr.new w t0 c0⟩
theorem frame2 (w : World) (t0 : TypeId) (c0 : List Value) (t1 : TypeId) (c1 : List Value) : ∃ wa, (w.alloc (.cells c0.toArray t0)).alloc (.cells c1.toArray t1) = wa ∧ Below w.heap.size w wa ∧ wa.heap.size = w.heap.size + 1 + 1 ∧ Vr wa w.heap.size t0 c0 ∧ Vr wa (w.heap.size + 1) t1 c1 := by
  obtain ⟨wa, rfl, h1, h2, h3⟩ := frame1 w t0 c0
  have h4 := Vr.new (w.alloc (.cells c0.toArray t0)) t1 c1
  rw [h2] at h4
  exact ⟨_, rfl, h1.alloc h1.size _, by simp, h3.alloc _, h4⟩
theorem frame3 (w : World) (t0 : TypeId) (c0 : List Value) (t1 : TypeId) (c1 : List Value) (t2 : TypeId) (c2 : List Value) : ∃ wa, ((w.alloc (.cells c0.toArray t0)).alloc (.cells c1.toArray t1)).alloc (.cells c2.toArray t2) = wa ∧ Below w.heap.size w wa ∧ wa.heap.size = w.heap.size + 1 + 1 + 1 ∧ Vr wa w.heap.size t0 c0 ∧ Vr wa (w.heap.size + 1) t1 c1 ∧ Vr wa (w.heap.size + 1 + 1) t2 c2 := by
  obtain ⟨wa, rfl, h1, h2, h3, h3'⟩ := frame2 w t0 c0 t1 c1
  have h4 := Vr.new ((w.alloc (.cells c0.toArray t0)).alloc (.cells c1.toArray t1)) t2 c2
  rw [h2] at h4
  exact ⟨_, rfl, h1.alloc h1.size _, by simp, h3.alloc _, h3'.alloc _, h4⟩
theorem frame4 (w : World) (t0 : TypeId) (c0 : List Value) (t1 : TypeId) (c1 : List Value) (t2 : TypeId) (c2 : List Value) (t3 : TypeId) (c3 : List Value) : ∃ wa, (((w.alloc (.cells c0.toArray t0)).alloc (.cells c1.toArray t1)).alloc (.cells c2.toArray t2)).alloc (.cells c3.toArray t3) = wa ∧ Below w.heap.size w wa ∧ wa.heap.size = w.heap.size + 1 + 1 + 1 + 1 ∧ Vr wa w.heap.size t0 c0 ∧ Vr wa (w.heap.size + 1) t1 c1 ∧ Vr wa (w.heap.size + 1 + 1) t2 c2 ∧ Vr wa (w.heap.size + 1 + 1 + 1) t3 c3 := by
  obtain ⟨wa, rfl, h1, h2, h3, h3', h3''⟩ := frame3 w t0 c0 t1 c1 t2 c2
  have h4 := Vr.new (((w.alloc (.cells c0.toArray t0)).alloc (.cells c1.toArray t1)).alloc (.cells c2.toArray t2)) t3 c3
  rw [h2] at h4
  exact ⟨_, rfl, h1.alloc h1.size _, by simp, h3.alloc _, h3'.alloc _, h3''.alloc _, h4⟩

/-- a store into a variable above B -/
theorem below_set {B b i : Nat} {a w : World} {v : Value} (h : Below B a w) (hB : B ≤ b) : Below B a (w.setCell ⟨b, i, none⟩ v) := h.setCell (p := ⟨b, i, none⟩) hB _

theorem set_step {w : World} {b : Nat} {t : TypeId} {cs : List Value} (h : Vr w b t cs) (i : Nat) (v : Value) :
    ∃ w', w.setCell ⟨b, i, none⟩ v = w' ∧ w'.heap.size = w.heap.size ∧ Chg b (b + 1) w w' ∧ Vr w' b t (cs.set i v) :=
  ⟨_, rfl, by simp, ⟨rfl, rfl, rfl, by simp, fun k hk hd => Below.heap_setCell w ⟨b, i, none⟩ v k (by show k ≠ b; omega)⟩, h.set i v⟩

theorem alloc_step (w : World) (t : TypeId) (cs : List Value) :
    ∃ w', w.alloc (.cells cs.toArray t) = w' ∧ w'.heap.size = w.heap.size + 1 ∧ Below w.heap.size w w' ∧ Vr w' w.heap.size t cs := by
  obtain ⟨wa, h1, h2, h3, h4⟩ := frame1 w t cs
  exact ⟨wa, h1, h3, h2, h4⟩

theorem Below.chg_ {B a b : Nat} {w0 w w' : World} (h : Below B w0 w) (hc : Chg a b w w') (hB : B ≤ a) (hB2 : B ≤ w.heap.size) : Below B w0 w' := h.trans (hc.below hB hB2)

theorem Vr.cells2 {w : World} {b : Nat} {t : TypeId} {v0 v1 : Value} (h : Vr w b t [v0, v1]) : w.cell? ⟨b, 0, none⟩ = some v0 ∧ w.cell? ⟨b, 1, none⟩ = some v1 ∧ w.frozen? ⟨b, 0, none⟩ = false ∧ w.frozen? ⟨b, 1, none⟩ = false :=
  ⟨h.cell rfl, h.cell rfl, h.frozen 0, h.frozen 1⟩

/-- the end of a function whose one result is a struct variable -/
theorem ret_cell {P : Program} {fn : Func} {R : Ending → World → Prop} {a : Act} {w : World} {p : Tmp} {ty : TypeId} {b : Nat} {t : TypeId} {cs : List Value} {fs : Array Field} (h : fn.results = #[.cell p ty])
    (hp : a.tmps.getD p undef = .pointer (some ⟨b, 0, none⟩)) (hg : Vr w b t cs) (hu : P.underlying ty = some (.struct fs)) (hi : (P.info? ty).map (·.size) = some cs.length) (hdf : a.defers = [])
    (hR : R (.returned (.agg cs.toArray)) w) : bodyPost P fn R .ret a w :=
  bodyPost_ret (results_cell_row h a.tmps w b t cs.toArray (0, 0) _ hp hg hu rfl (by simpa using hi)) hdf hR

/-- .. and a value beside it -/
theorem ret_cell_tmp {P : Program} {fn : Func} {R : Ending → World → Prop} {a : Act} {w : World} {p u : Tmp} {ty : TypeId} {b : Nat} {t : TypeId} {cs : List Value} {fs : Array Field} (h : fn.results = #[.cell p ty, .tmp u])
    (hp : a.tmps.getD p undef = .pointer (some ⟨b, 0, none⟩)) (hg : Vr w b t cs) (hu : P.underlying ty = some (.struct fs)) (hi : (P.info? ty).map (·.size) = some cs.length) (hdf : a.defers = [])
    (hR : R (.returned (.tuple #[.agg cs.toArray, a.tmps.getD u undef])) w) : bodyPost P fn R .ret a w := by
  refine bodyPost_ret (v := .tuple #[.agg cs.toArray, a.tmps.getD u undef]) ?_ hdf hR
  have hl := run_loadVar_row (P := P) w b t ty cs.toArray (0, 0) _ hg hu rfl (by simpa using hi)
  rw [results_cell_tmp h, hp]
  simp [asAddr, hl]

theorem results_cell_tmp2 {fn : Func} {p u u' : Tmp} {ty : TypeId} (h : fn.results = #[.cell p ty, .tmp u, .tmp u']) (tmps : Array Value) (P : Program) (w : World) :
    (results fn tmps).run P w =
      ((asAddr (tmps.getD p undef)).run P w).andThen fun a w₁ => ((loadVar ty a).run P w₁).andThen fun v w₂ => .ok (.tuple #[v, tmps.getD u undef, tmps.getD u' undef]) w₂ := by
  simp only [results, h]
  simp [Sem.run_bind, Result.andThen]
/-- .. and two values beside it -/
theorem ret_cell_tmp2 {P : Program} {fn : Func} {R : Ending → World → Prop} {a : Act} {w : World} {p u u' : Tmp} {ty : TypeId} {b : Nat} {t : TypeId} {cs : List Value} {fs : Array Field} (h : fn.results = #[.cell p ty, .tmp u, .tmp u'])
    (hp : a.tmps.getD p undef = .pointer (some ⟨b, 0, none⟩)) (hg : Vr w b t cs) (hu : P.underlying ty = some (.struct fs)) (hi : (P.info? ty).map (·.size) = some cs.length) (hdf : a.defers = [])
    (hR : R (.returned (.tuple #[.agg cs.toArray, a.tmps.getD u undef, a.tmps.getD u' undef])) w) : bodyPost P fn R .ret a w := by
  refine bodyPost_ret (v := .tuple #[.agg cs.toArray, a.tmps.getD u undef, a.tmps.getD u' undef]) ?_ hdf hR
  have hl := run_loadVar_row (P := P) w b t ty cs.toArray (0, 0) _ hg hu rfl (by simpa using hi)
  rw [results_cell_tmp2 h, hp]
  simp [asAddr, hl]

theorem Chg.refl (a b : Nat) (w : World) : Chg a b w w := ⟨rfl, rfl, rfl, Nat.le_refl _, fun _ _ _ => rfl⟩
theorem Chg.then_below {a b : Nat} {w w1 w2 : World} (h : Chg a b w w1) (k : Below w1.heap.size w1 w2) : Chg a b w w2 :=
  ⟨k.os.trans h.os, k.tape.trans h.tape, k.output.trans h.output, Nat.le_trans h.size k.size, fun i hi hd => (k.block i (Nat.lt_of_lt_of_le hi h.size)).trans (h.block i hi hd)⟩
theorem Chg.then_same {a b : Nat} {w w1 w2 : World} (h : Chg a b w w1) (k : Chg a b w1 w2) : Chg a b w w2 :=
  ⟨k.os.trans h.os, k.tape.trans h.tape, k.output.trans h.output, Nat.le_trans h.size k.size, fun i hi hd => (k.block i (Nat.lt_of_lt_of_le hi h.size) hd).trans (h.block i hi hd)⟩
theorem Chg.then_new {a b c d : Nat} {w w1 w2 : World} (h : Chg a b w w1) (k : Chg c d w1 w2) (hc : w.heap.size ≤ c) : Chg a b w w2 :=
  ⟨k.os.trans h.os, k.tape.trans h.tape, k.output.trans h.output, Nat.le_trans h.size k.size, fun i hi hd => (k.block i (Nat.lt_of_lt_of_le hi h.size) (.inl (by omega))).trans (h.block i hi hd)⟩

/-- all cells of a variable laid one by one -/
def setAll (w : World) (b : Nat) : Nat → List Value → World
  | _, [] => w
  | i, v :: vs => setAll (w.setCell ⟨b, i, none⟩ v) b (i + 1) vs

theorem setAll_step {b : Nat} {t : TypeId} : ∀ (vs : List Value) (i : Nat) (w : World) (cs : List Value), Vr w b t cs → i + vs.length = cs.length →
    (setAll w b i vs).heap.size = w.heap.size ∧ Chg b (b + 1) w (setAll w b i vs) ∧ Vr (setAll w b i vs) b t (cs.take i ++ vs)
  | [], i, w, cs, h, hl => ⟨rfl, ⟨rfl, rfl, rfl, Nat.le_refl _, fun _ _ _ => rfl⟩, by
      simp only [List.length_nil, Nat.add_zero] at hl
      simp only [setAll, List.append_nil]
      rw [List.take_of_length_le (by omega)]; exact h⟩
  | v :: vs, i, w, cs, h, hl => by
      simp only [List.length_cons] at hl
      obtain ⟨w', rfl, s1, c1, v1⟩ := set_step h i v
      obtain ⟨s2, c2, v2⟩ := setAll_step vs (i + 1) (w.setCell ⟨b, i, none⟩ v) (cs.set i v) v1 (by simp; omega)
      refine ⟨s2.trans s1, ⟨c2.os.trans c1.os, c2.tape.trans c1.tape, c2.output.trans c1.output, Nat.le_trans c1.size c2.size, fun k hk hd => (c2.block k (by omega) hd).trans (c1.block k hk hd)⟩, ?_⟩
      have e : (cs.set i v).take (i + 1) ++ vs = cs.take i ++ v :: vs := by
        rw [List.take_set, List.take_succ_eq_append_getElem (show i < cs.length by omega), List.set_append]
        simp [show i ≤ cs.length by omega]
      rw [e] at v2
      exact v2

theorem store_step {w : World} {b : Nat} {t : TypeId} {cs : List Value} (h : Vr w b t cs) (vs : List Value) (hl : vs.length = cs.length) :
    ∃ w', setAll w b 0 vs = w' ∧ w'.heap.size = w.heap.size ∧ Chg b (b + 1) w w' ∧ Vr w' b t vs := by
  obtain ⟨s, c, v⟩ := setAll_step vs 0 w cs h (by omega)
  exact ⟨_, rfl, s, c, by simpa using v⟩

theorem lay_step (w : World) (t : TypeId) (zs vs : List Value) (hl : vs.length = zs.length) :
    ∃ w', setAll (w.alloc (.cells zs.toArray t)) w.heap.size 0 vs = w' ∧ w'.heap.size = w.heap.size + 1 ∧ Below w.heap.size w w' ∧ Vr w' w.heap.size t vs := by
  obtain ⟨w1, rfl, s1, b1, x1⟩ := alloc_step w t zs
  obtain ⟨w2, rfl, s2, c2, x2⟩ := store_step x1 vs hl
  exact ⟨_, rfl, by omega, Below.chg_ b1 c2 (Nat.le_refl _) (by omega), x2⟩

/-- what a statement leaves that lays a new variable with a value of its own: a pointer to its block -/
def OutVar {α : Type} (L : Lay α) (t : TypeId) (wa : World) (x : α) (s : Value) (wx : World) : Prop :=
  ∃ blk cs, s = .pointer (some ⟨blk, 0, none⟩) ∧ wa.heap.size ≤ blk ∧ Vr wx blk t cs ∧ OVp L wx (fun j => wa.heap.size ≤ j ∧ j < wx.heap.size) cs x ∧ Below wa.heap.size wa wx

theorem below_of_alloc {P w : World} {o : Obj} (h : Below (P.alloc o).heap.size (P.alloc o) w) : Below P.heap.size P w :=
  ((Below.refl P.heap.size P).alloc (Nat.le_refl _) o).trans (h.mono (by simp))
theorem chg_of_alloc {P w : World} {o : Obj} {row : Option Nat} {a b : Nat} (h : (P.alloc o).grownBy w row) (hr : ∀ j, row = some j → a ≤ j ∧ j < b) : Chg a b P w := by
  have hc : Chg a b (P.alloc o) w := Chg.of_grown h hr
  have hb := (Below.refl P.heap.size P).alloc (Nat.le_refl _) o
  exact ⟨hc.os.trans hb.os, hc.tape.trans hb.tape, hc.output.trans hb.output, Nat.le_trans hb.size hc.size, fun k hk hd => (hc.block k (Nat.lt_of_lt_of_le hk hb.size) hd).trans (hb.block k hk)⟩
theorem sz_alloc (w : World) (o : Obj) : (w.alloc o).heap.size = w.heap.size + 1 := by simp
theorem sz_drew (w : World) : w.drew.heap.size = w.heap.size := rfl
theorem chg_of_alloc' {P w : World} {o : Obj} {row : Option Nat} {a b : Nat} (h : (P.alloc o).grownBy w row) (hr : ∀ j, row = some j → a ≤ j ∧ j < b) : Chg a b P w := chg_of_alloc h hr
theorem agg2_inj {a b c d : Value} (h : Value.agg #[a, b] = Value.agg #[c, d]) : a = c ∧ b = d := by
  simpa using h
theorem OS.set_ {k : IntKind} {e : TypeId} {w : World} {lo hi b i : Nat} {v u : Value} {zs : List Int} (h : OS k e w lo hi v zs) (hd : hi ≤ b ∨ b < lo) : OS k e (w.setCell ⟨b, i, none⟩ u) lo hi v zs :=
  h.chg (a := b) (b := b + 1) ⟨rfl, rfl, rfl, by simp, fun k hk hd => Below.heap_setCell w ⟨b, i, none⟩ u k (by show k ≠ b; omega)⟩ (by omega)
theorem OS.alloc_ {k : IntKind} {e : TypeId} {w : World} {lo hi : Nat} {v : Value} {zs : List Int} (h : OS k e w lo hi v zs) (o : Obj) : OS k e (w.alloc o) lo hi v zs :=
  h.below ((Below.refl w.heap.size w).alloc (Nat.le_refl _) o)

end Go.Proofs.Ytdoipabfmekdlaa

namespace Go.Proofs.Ytdoipabfmekdlaa
open Go.RowKit
set_option linter.unusedVariables false

def bytesL : Lay (List Int) := intsL .u8 5

/-- what a reckoning of sizes answers -/
def szV (left : Int) (n : Int) : Int := if n ≤ left then left - n else -1

end Go.Proofs.Ytdoipabfmekdlaa

namespace Go.Proofs.Ytdoipabfmekdlaa
open Go.RowKit

theorem Try.info_i64 : (Try.prog.info? 3).map (fun i => (i.zero, i.size, i.bytes)) = some (some (.int .i64 0), 1, 8) := by kernel_rfl

set_option maxHeartbeats 400000 in
theorem toIntS_any (A : Option Addr) (c : Nat) (zs : List Int) (w : World) (hr : Rd .i64 w w.heap.size A zs) (hm : zs.length ≤ 16777216) :
    Calls Try.prog 39 #[.slice A zs.length c] w fun e w' => e = .returned (.slice (some ⟨w.heap.size, 0, none⟩) zs.length zs.length) ∧
      Own .i64 w' w.heap.size 3 (.slice (some ⟨w.heap.size, 0, none⟩) zs.length zs.length) zs ∧ Below w.heap.size w w' := by
  obtain ⟨i0, hi, hz0, hz1, hz2⟩ := info_parts Try.info_i64
  go_enter Try.func39, Try.ntmps39
  go_wp2_with (at_make; refine wpList_make_full _ rfl _ _ 24 rfl w.heap.size 3 i0 (.int .i64 0) 1 Try.underlying24 hi hz0 hz1 .i64 .i64 _ _ zs.length rfl rfl rfl rfl ?c1 ?c2 ?c3 ?_)
  case c1 => rw [hz2]; omega
  case c2 => unfold maxLen; omega
  case c3 => exact Nat.le_refl _
  intro w1 hown1 hg1
  have hb1 : Below w.heap.size w w1 := (Below.refl _ _).grown hg1 (Nat.le_refl _) (by intro k hk; cases hk)
  have ho1 : Own .i64 w1 w.heap.size 3 (.slice (some ⟨w.heap.size, 0, none⟩) zs.length zs.length) (zs.take 0 ++ List.replicate (zs.length - 0) 0) := by
    unfold Own
    simpa [toList_madeCells_one, Value.cells] using hown1
  clear hown1 hg1
  go_wp2
  go_loopw [4] (fun i wr => ∃ k : Nat, k ≤ zs.length ∧ i = .int .i64 k ∧ Own .i64 wr w.heap.size 3 (.slice (some ⟨w.heap.size, 0, none⟩) zs.length zs.length) (zs.take k ++ List.replicate (zs.length - k) 0) ∧ Below w.heap.size w wr) (fun i _ => zs.length - (intOf i).toNat)
  case atStart => exact ⟨0, Nat.zero_le _, rfl, ho1, hb1⟩
  case round =>
    obtain ⟨k, hk, rfl, hown, hbr⟩ := hrel
    by_cases hlt : k < zs.length
    · obtain ⟨b, off, rfl, hb, hc⟩ := (hr.below hbr).at_ hlt
      have hl : (zs.take k ++ List.replicate (zs.length - k) 0).length = zs.length := by simp; omega
      have hc2 := hown.cell_ (j := k) (by omega)
      have hf2 := hown.frozen_ k
      have R := hown.set_ k (zs.getD k 0)
      rw [fill_step zs k hlt] at R
      have hb2 : Below w.heap.size w (wr.setCell ⟨w.heap.size, k, none⟩ (.int .i64 (zs.getD k 0))) := hbr.setCell (Nat.le_refl _) _
      have HR := Lib.hid R
      clear R hl hown
      go_wp2
      go_roundw
      case rel => exact ⟨k + 1, by omega, by go_num, by simpa [hlt] using HR.out, by simpa [hlt] using hb2⟩
      case measure => simp [intOf]; omega
    · have hk2 : k = zs.length := by omega
      subst hk2
      go_wp2
      go_ret
      exact ⟨rfl, by simpa using hown, hbr⟩

set_option maxHeartbeats 400000 in
theorem eqIntS_any (A A' : Option Addr) (c c' : Nat) (xs ys : List Int) (w : World) (B : Nat) (hx : Rd .i64 w B A xs) (hy : Rd .i64 w B A' ys) (hm : xs.length ≤ 1073741824) :
    Calls Try.prog 47 #[.slice A xs.length c, .slice A' ys.length c'] w (SaysB w (decide (xs = ys))) := by
  by_cases hl : xs.length = ys.length
  · have hl' : ((xs.length : Int) != (ys.length : Int)) = false := by simp [hl]
    have HL := Lib.hid hl
    clear hl
    go_enter Try.func47, Try.ntmps47
    go_wp2
    go_loopw [5] (fun i wr => ∃ k n : Nat, k ≤ xs.length ∧ i = .int .i64 k ∧ xs.take k = ys.take k ∧ wr = w.drewN n) (fun i _ => xs.length - (intOf i).toNat)
    case atStart => exact ⟨0, 0, Nat.zero_le _, rfl, rfl, rfl⟩
    case round =>
      obtain ⟨k, n, hk, rfl, htk, rfl⟩ := hrel
      have HT := Lib.hid htk
      clear htk
      by_cases hlt : k < xs.length
      · have hlt' : k < ys.length := by have := HL.out; omega
        obtain ⟨b, off, rfl, hb, hc⟩ := hx.at_ hlt
        obtain ⟨b', off', rfl, hb', hc'⟩ := hy.at_ hlt'
        obtain ⟨x, hxe⟩ : ∃ x, x = xs.getD k 0 := ⟨_, rfl⟩
        obtain ⟨y, hye⟩ : ∃ y, y = ys.getD k 0 := ⟨_, rfl⟩
        rw [← hxe] at hc
        rw [← hye] at hc'
        have HX := Lib.hid hxe
        have HY := Lib.hid hye
        clear hxe hye
        have i1 : (k : Int) < (xs.length : Int) := by omega
        have i2 : (k : Int) < (ys.length : Int) := by omega
        by_cases hxy : x = y
        · subst hxy
          go_wp2
          go_quiet (fail)
          go_wp2
          go_roundw
          case rel => exact ⟨k + 1, _, by omega, by go_num, take_succ_eq HT.out hlt hlt' (HX.out.symm.trans HY.out), rfl⟩
          case measure => simp [intOf]; omega
        · have hne : (x != y) = true := by simp [hxy]
          go_wp2
          go_quiet (fail)
          go_wp2
          go_ret
          have hd : decide (xs = ys) = false := by
            simp only [decide_eq_false_iff_not]
            exact ne_of_getD (k := k) (by rw [← HX.out, ← HY.out]; exact hxy)
          exact ⟨by rw [hd]; rfl, n + nq, drewN_two _ _ _⟩
      · have hk2 : k = xs.length := by omega
        subst hk2
        have : xs = ys := by
          have h := HT.out
          rw [List.take_of_length_le (Nat.le_refl _), List.take_of_length_le (by rw [HL.out]; exact Nat.le_refl _)] at h
          exact h
        go_wp2
        go_ret
        exact ⟨by simp [this], _, rfl⟩
  · have hl' : ((xs.length : Int) != (ys.length : Int)) = true := by simp; omega
    have hne : decide (xs = ys) = false := by
      simp; intro e; exact hl (by rw [e])
    rw [hne]
    go_enter Try.func47, Try.ntmps47
    go_wp2
    go_ret
    exact ⟨rfl, 0, rfl⟩

theorem eqIntS_b (A A' : Option Addr) (c c' : Nat) (xs ys : List Int) (w : World) (B : Nat) (hx : Rd .i64 w B A xs) (hy : Rd .i64 w B A' ys) (hm : xs.length ≤ 1073741824) :
    Calls Try.prog 47 #[.slice A xs.length c, .slice A' ys.length c'] w fun e w' => e = .returned (.bool (decide (xs = ys))) ∧ Below w.heap.size w w' :=
  (eqIntS_any A A' c c' xs ys w B hx hy hm).mono fun e w' ⟨he, n, hw⟩ => ⟨he, by rw [hw]; exact below_of_drew _ w n⟩

/-- the numbers that a marking from k on lays into n places -/
def marks64 (k : Int) (n : Nat) : List Int := (List.range n).map fun i : Nat => (k + (i : Int))

theorem marks64_len (k : Int) (n : Nat) : (marks64 k n).length = n := by simp [marks64]
theorem marks64_getD (k : Int) (n j : Nat) (h : j < n) : (marks64 k n).getD j 0 = (k + (j : Int)) := by simp [marks64, h]

theorem mark64_step (zs : List Int) (k0 : Int) (k : Nat) (h : k < zs.length) :
    (marks64 k0 k ++ zs.drop k).set k (k0 + (k : Int)) = marks64 k0 (k + 1) ++ zs.drop (k + 1) := by
  have e1 := marks64_len k0 k
  rw [List.set_append, if_neg (by omega), e1, Nat.sub_self, List.drop_eq_getElem_cons h, List.set_cons_zero]
  simp [marks64, List.range_succ]

/-- what a marking call leaves: the row holds the marks, no other block has turned -/
def Marked64 (w : World) (base : Nat) (v : Value) (k : Int) (zs : List Int) (e : Ending) (w' : World) : Prop :=
  e = .returned (.int .i64 (k + (zs.length : Int))) ∧ Own .i64 w' base 3 v (marks64 k zs.length) ∧ w.grownBy w' v.ownBlock

set_option maxHeartbeats 400000 in
theorem markIntS_own (g c base : Nat) (zs : List Int) (k0 : Int) (w : World) (ho : Own .i64 w base 3 (.slice (some ⟨g, 0, none⟩) zs.length c) zs) (hm : zs.length ≤ 1073741824) (hk0 : 0 ≤ k0) (hk1 : k0 ≤ 1099511627776) :
    Calls Try.prog 55 #[.slice (some ⟨g, 0, none⟩) zs.length c, .int .i64 k0] w (Marked64 w base (.slice (some ⟨g, 0, none⟩) zs.length c) k0 zs) := by
  go_enter Try.func55, Try.ntmps55
  go_wp2
  go_loopw [1, 5] (fun q i wr => ∃ k : Nat, k ≤ zs.length ∧ i = .int .i64 k ∧ q = .int .i64 (k0 + k) ∧ Own .i64 wr base 3 (.slice (some ⟨g, 0, none⟩) zs.length c) (marks64 k0 k ++ zs.drop k) ∧ w.grownBy wr (some g)) (fun _ i _ => zs.length - (intOf i).toNat)
  case atStart => exact ⟨0, Nat.zero_le _, rfl, by simp, by simpa [marks64] using ho, World.grownBy.refl w _⟩
  case round =>
    obtain ⟨k, hk, rfl, rfl, hown, hgr⟩ := hrel
    by_cases hlt : k < zs.length
    · have hc2 := hown.cell_ (j := k) (by rw [List.length_append, marks64_len, List.length_drop]; omega)
      have hf2 := hown.frozen_ k
      have R := hown.set_ k (k0 + (k : Int))
      rw [mark64_step zs k0 k hlt] at R
      have HR := Lib.hid R
      clear R hown
      go_wp2
      go_roundw
      case rel => exact ⟨k + 1, by omega, by go_num, by go_num, HR.out, grownBy_set hgr _ _⟩
      case measure => simp [intOf]; omega
    · have hk2 : k = zs.length := by omega
      subst hk2
      go_wp2
      go_ret
      exact ⟨rfl, by simpa using hown, hgr⟩

set_option maxHeartbeats 400000 in
theorem markIntS_nil (A : Option Addr) (c base : Nat) (k0 : Int) (w : World) (ho : Own .i64 w base 3 (.slice A 0 c) []) :
    Calls Try.prog 55 #[.slice A 0 c, .int .i64 k0] w (Marked64 w base (.slice A 0 c) k0 []) := by
  go_enter Try.func55, Try.ntmps55
  go_wp2
  refine wp_loop_rounds 1 ?_
  rw [rounds_succ]
  go_wp2
  go_ret
  exact ⟨by simp, ho, World.grownBy.refl w _⟩

theorem markIntS_any (v : Value) (base : Nat) (zs : List Int) (k0 : Int) (w : World) (ho : Own .i64 w base 3 v zs) (hm : zs.length ≤ 1073741824) (hk0 : 0 ≤ k0) (hk1 : k0 ≤ 1099511627776) :
    Calls Try.prog 55 #[v, .int .i64 k0] w (Marked64 w base v k0 zs) := by
  rcases ho.2 with ⟨rfl, h0⟩ | ⟨g, cap, cur, rfl, _⟩
  · obtain rfl : zs = [] := List.eq_nil_of_length_eq_zero h0
    exact markIntS_nil none 0 base k0 w ho
  · exact markIntS_own g cap base zs k0 w ho hm hk0 hk1

set_option maxHeartbeats 400000 in
/-- a row that holds the marks64 is held -/
theorem heldIntS_any (A : Option Addr) (c B n : Nat) (k0 : Int) (w : World) (hr : Rd .i64 w B A (marks64 k0 n)) (hm : n ≤ 1073741824) (hk0 : 0 ≤ k0) (hk1 : k0 ≤ 1099511627776) :
    Calls Try.prog 59 #[.slice A n c, .int .i64 k0] w fun e w' => e = .returned (.int .i64 (k0 + n)) ∧ w = w' := by
  go_enter Try.func59, Try.ntmps59
  go_wp2
  go_loop [1, 5] (fun q i => ∃ k : Nat, k ≤ n ∧ i = .int .i64 k ∧ q = .int .i64 (k0 + k)) (fun _ i => n - (intOf i).toNat)
  case atStart => exact ⟨0, Nat.zero_le _, rfl, by simp⟩
  case round =>
    obtain ⟨k, hk, rfl, rfl⟩ := hrel
    by_cases hlt : k < n
    · obtain ⟨b, off, rfl, hb, hc⟩ := hr.at_ (j := k) (by rw [marks64_len]; exact hlt)
      rw [marks64_getD k0 n k hlt] at hc
      have i1 : (k : Int) < (n : Int) := by omega
      go_wp2
      go_round
      case rel => exact ⟨k + 1, by omega, by go_num, by go_num⟩
      case measure => simp [intOf]; omega
    · have hk2 : k = n := by omega
      subst hk2
      go_wp2
      go_ret
      exact ⟨rfl, rfl⟩

end Go.Proofs.Ytdoipabfmekdlaa

namespace Go.Proofs.Ytdoipabfmekdlaa
open Go.RowKit
set_option linter.unusedVariables false

theorem toIntS_c {w : World} {v : Value} {zs : List Int} (h : RS .i64 w v zs) (hm : zs.length ≤ 16777216) : Calls Try.prog 39 #[v] w (NewS .i64 3 w zs) := by
  obtain ⟨A, c, rfl, _, _, hr⟩ := h
  exact (toIntS_any A c zs w hr hm).mono fun e w' ⟨he, ho, hb⟩ => ⟨_, he, OS.mk_ ho, hb⟩

theorem eqIntS_c {w : World} {v v' : Value} {xs ys : List Int} (h : RS .i64 w v xs) (h' : RS .i64 w v' ys) (hm : xs.length ≤ 1073741824) :
    Calls Try.prog 47 #[v, v'] w fun e w' => e = .returned (.bool (decide (xs = ys))) ∧ Below w.heap.size w w' := by
  obtain ⟨A, c, rfl, _, _, hr⟩ := h
  obtain ⟨A', c', rfl, _, _, hr'⟩ := h'
  exact eqIntS_b A A' c c' xs ys w _ hr hr' hm

theorem eqIntS_same {w : World} {v v' : Value} {xs : List Int} (h : RS .i64 w v xs) (h' : RS .i64 w v' xs) (hm : xs.length ≤ 1073741824) :
    Calls Try.prog 47 #[v, v'] w fun e w' => e = .returned (.bool true) ∧ Below w.heap.size w w' := by
  have := eqIntS_c h h' hm
  simpa using this

theorem markIntS_c {w : World} {v : Value} {zs : List Int} {lo hi : Nat} {k : Int} (h : OS .i64 3 w lo hi v zs) (hm : zs.length ≤ 1073741824) (hk0 : 0 ≤ k) (hk1 : k ≤ 1099511627776) :
    Calls Try.prog 55 #[v, .int .i64 k] w fun e w' => e = .returned (.int .i64 (k + (zs.length : Int))) ∧ OS .i64 3 w' lo hi v (marks64 k zs.length) ∧ Chg lo hi w w' :=
  (markIntS_any v lo zs k w h.1 hm hk0 hk1).mono fun e w' ⟨he, ho, hg⟩ => ⟨he, ⟨ho, h.2.1, Nat.le_trans h.2.2 hg.size⟩, Chg.of_grown hg fun j hj => ⟨(h.1.at_ j hj).1, h.2.1 j hj⟩⟩

theorem heldIntS_c {w : World} {v : Value} {n : Nat} {k : Int} (h : RS .i64 w v (marks64 k n)) (hm : n ≤ 1073741824) (hk0 : 0 ≤ k) (hk1 : k ≤ 1099511627776) :
    Calls Try.prog 59 #[v, .int .i64 k] w fun e w' => e = .returned (.int .i64 (k + (n : Int))) ∧ Below w.heap.size w w' := by
  obtain ⟨A, c, rfl, _, _, hr⟩ := h
  rw [marks64_len]
  exact (heldIntS_any A c _ n k w hr hm hk0 hk1).mono fun e w' ⟨he, hw⟩ => ⟨he, by rw [← hw]; exact Below.refl _ _⟩

end Go.Proofs.Ytdoipabfmekdlaa

namespace Go.Proofs.Ytdoipabfmekdlaa
open Go.RowKit
set_option linter.unusedVariables false

def numsL : Lay (List Int) := intsL .i64 3

theorem markIntS_s {w : World} {S : List Nat} {v : Value} {zs : List Int} {k : Int} (h : numsL.own w S [v] zs) (hm : zs.length ≤ 1073741824) (hk0 : 0 ≤ k) (hk1 : k ≤ 1099511627776) :
    Calls Try.prog 55 #[v, .int .i64 k] w (MarkS numsL w S [v] (k + (zs.length : Int)) (marks64 k zs.length)) := by
  obtain ⟨u, e, ho, rfl⟩ := h
  obtain rfl : v = u := by simpa using e
  exact (markIntS_any v 0 zs k w ho hm hk0 hk1).mono fun e w' ⟨he, ho', hg⟩ => ⟨he, ⟨v, rfl, ho', rfl⟩, ChgS.of_grown hg⟩

set_option maxHeartbeats 400000 in
theorem szIntS_c {w : World} {v : Value} {zs : List Int} {left : Int} (h : RS .i64 w v zs) (h0 : 0 ≤ left) (h1 : left ≤ 1099511627776) :
    Calls Try.prog 28 #[v, .int .i64 left] w fun e w' => e = .returned (.int .i64 (szV left zs.length)) ∧ w = w' := by
  obtain ⟨A, c, rfl, hc1, hc2, hr⟩ := h
  unfold maxLen at hc2
  by_cases hl : (zs.length : Int) ≤ left
  · have e : szV left zs.length = left - (zs.length : Int) := if_pos hl
    have g : decide (left - (zs.length : Int) < 0) = false := by simp; omega
    rw [e]
    go_enter Try.func28, Try.ntmps28
    go_wp2
    go_ret
    exact ⟨rfl, rfl⟩
  · have e : szV left zs.length = -1 := if_neg hl
    have g : decide (left - (zs.length : Int) < 0) = true := by simp; omega
    rw [e]
    go_enter Try.func28, Try.ntmps28
    go_wp2
    go_ret
    exact ⟨rfl, rfl⟩

theorem szIntS_b {w : World} {v : Value} {zs : List Int} {left : Int} (h : RS .i64 w v zs) (h0 : 0 ≤ left) (h1 : left ≤ 1099511627776) :
    Calls Try.prog 28 #[v, .int .i64 left] w fun e w' => e = .returned (.int .i64 (szV left zs.length)) ∧ Below w.heap.size w w' :=
  (szIntS_c h h0 h1).mono fun e w' ⟨he, hw⟩ => ⟨he, by rw [← hw]; exact Below.refl _ _⟩

end Go.Proofs.Ytdoipabfmekdlaa

namespace Go.Proofs.Ytdoipabfmekdlaa
open Go.RowKit
set_option linter.unusedVariables false

/-- the cells of the elements, one behind the other -/
def flat {β : Type} (cf : Nat → List β) (N : Nat) : List β := (List.range N).flatMap cf

section
variable {β : Type} {cf cf' : Nat → List β} {N n : Nat}
theorem flat_succ : flat cf (N + 1) = flat cf N ++ cf N := by simp [flat, List.range_succ]
theorem flat_len (h : ∀ j, j < N → (cf j).length = n) : (flat cf N).length = N * n := by
  induction N with
  | zero => simp [flat]
  | succ N ih => rw [flat_succ, List.length_append, ih (fun j hj => h j (by omega)), h N (by omega), Nat.succ_mul]
theorem flat_congr (h : ∀ j, j < N → cf' j = cf j) : flat cf' N = flat cf N := by
  induction N with
  | zero => simp [flat]
  | succ N ih => rw [flat_succ, flat_succ, ih (fun j hj => h j (by omega)), h N (by omega)]
theorem flat_get (h : ∀ j, j < N → (cf j).length = n) {j i : Nat} (hj : j < N) (hi : i < n) : (flat cf N)[j * n + i]? = (cf j)[i]? := by
  induction N with
  | zero => omega
  | succ N ih =>
    have hl := flat_len (cf := cf) (N := N) (n := n) (fun j hj => h j (by omega))
    rw [flat_succ]
    by_cases hjN : j < N
    · have : j * n + i < N * n := by
        have h1 : (j + 1) * n ≤ N * n := Nat.mul_le_mul_right n (by omega)
        rw [Nat.succ_mul] at h1; omega
      rw [List.getElem?_append_left (by omega)]
      exact ih (fun j hj => h j (by omega)) hjN
    · obtain rfl : j = N := by omega
      rw [List.getElem?_append_right (by omega), hl, Nat.add_sub_cancel_left]
theorem mem_flat {x : β} : x ∈ flat cf N ↔ ∃ j, j < N ∧ x ∈ cf j := by simp [flat]
end

section
variable {α : Type}

/-- the slice with address A reads as the elements xs, n cells each -/
def RdL (L : Lay α) (n : Nat) (w : World) (B : Nat) (A : Option Addr) (xs : List α) : Prop :=
  ∃ cf : Nat → List Value, (∀ j x, xs[j]? = some x → (cf j).length = n ∧ L.rd w B (cf j) x) ∧
    (0 < xs.length → ∃ b off, A = some ⟨b, off, none⟩ ∧ b < B ∧ ∀ j i v, j < xs.length → (cf j)[i]? = some v → w.cell? ⟨b, off + (j * n + i), none⟩ = some v)

/-- the value v is a row of its own with the elements xs, each with blocks of its own; S: all blocks -/
def OwnL (L : Lay α) (e : TypeId) (n : Nat) (w : World) (S : List Nat) (v : Value) (xs : List α) : Prop :=
  ∃ (cf : Nat → List Value) (sf : Nat → List Nat), w.ownsRow 0 e n v xs.length (flat cf xs.length) ∧ (∀ j x, xs[j]? = some x → (cf j).length = n ∧ L.own w (sf j) (cf j) x) ∧ S = v.ownBlock.toList ++ flat sf xs.length

variable {L : Lay α} {n : Nat} {e : TypeId} {w w' : World} {B B' : Nat} {A : Option Addr} {xs : List α} {S : List Nat} {v : Value}

theorem RdL.keep (h : RdL L n w B A xs) (hk : ∀ p : Addr, p.block < B → w'.cell? p = w.cell? p) : RdL L n w' B A xs := by
  obtain ⟨cf, h1, h2⟩ := h
  refine ⟨cf, fun j x hx => ⟨(h1 j x hx).1, L.rd_keep (h1 j x hx).2 hk⟩, fun hp => ?_⟩
  obtain ⟨b, off, rfl, hb, hc⟩ := h2 hp
  exact ⟨b, off, rfl, hb, fun j i v hj hv => (hk _ hb).trans (hc j i v hj hv)⟩
theorem RdL.more (h : RdL L n w B A xs) (hB : B ≤ B') : RdL L n w B' A xs := by
  obtain ⟨cf, h1, h2⟩ := h
  refine ⟨cf, fun j x hx => ⟨(h1 j x hx).1, L.rd_more (h1 j x hx).2 hB⟩, fun hp => ?_⟩
  obtain ⟨b, off, rfl, hb, hc⟩ := h2 hp
  exact ⟨b, off, rfl, by omega, hc⟩
theorem RdL.below (h : RdL L n w B A xs) (hb : Below B w w') : RdL L n w' B A xs := h.keep fun _ hp => hb.cell hp

theorem getElem?_lt {β : Type} {l : List β} {j : Nat} {x : β} (h : l[j]? = some x) : j < l.length := by
  rcases Nat.lt_or_ge j l.length with h' | h'
  · exact h'
  · rw [List.getElem?_eq_none h'] at h; cases h

theorem OwnL.lens {cf : Nat → List Value} {sf : Nat → List Nat} (h : ∀ j x, xs[j]? = some x → (cf j).length = n ∧ L.own w (sf j) (cf j) x) : ∀ j, j < xs.length → (cf j).length = n :=
  fun j hj => (h j xs[j] (List.getElem?_eq_getElem hj)).1

theorem OwnL.form (h : OwnL L e n w S v xs) : ∃ A c, v = .slice A xs.length c ∧ xs.length ≤ c ∧ c ≤ maxLen ∧ RdL L n w w.heap.size A xs := by
  obtain ⟨cf, sf, ho, hel, rfl⟩ := h
  have hlt := World.ownsRow.lt ho
  have hlen := OwnL.lens hel
  rcases ho.2 with ⟨rfl, h0⟩ | ⟨g, cap, cur, rfl, hb, hh, hn, hm, hs, ht⟩
  · exact ⟨none, 0, by rw [h0], by omega, by unfold maxLen; omega, cf, fun j x hx => ⟨(hel j x hx).1, L.own_rd (hel j x hx).2⟩, fun hp => by omega⟩
  · refine ⟨some ⟨g, 0, none⟩, cap, rfl, hn, hm, cf, fun j x hx => ⟨(hel j x hx).1, L.own_rd (hel j x hx).2⟩, fun hp => ⟨g, 0, rfl, (hlt g rfl).2, fun j i u hj hu => ?_⟩⟩
    have hi : i < n := by have := getElem?_lt hu; rw [hlen j hj] at this; exact this
    have hlt2 : j * n + i < xs.length * n := by
      have h1 : (j + 1) * n ≤ xs.length * n := Nat.mul_le_mul_right n (by omega)
      rw [Nat.succ_mul] at h1; omega
    rw [Nat.zero_add, World.ownsRow.cellAt ho _ hlt2, flat_get hlen hj hi]
    exact hu
theorem OwnL.lt (h : OwnL L e n w S v xs) : ∀ j ∈ S, j < w.heap.size := by
  obtain ⟨cf, sf, ho, hel, rfl⟩ := h
  intro j hj
  rcases List.mem_append.1 hj with h | h
  · exact (World.ownsRow.lt ho j (by simpa using h)).2
  · obtain ⟨k, hk, hm⟩ := mem_flat.1 h
    exact L.own_lt (hel k xs[k] (List.getElem?_eq_getElem hk)).2 j hm
theorem ownsRow_keep {size m : Nat} {ys : List Value} {base : Nat} (h : w.ownsRow base e size v m ys) (hk : ∀ j, v.ownBlock = some j → w'.heap[j]? = w.heap[j]?) : w'.ownsRow base e size v m ys := by
  refine ⟨h.1, ?_⟩
  rcases h.2 with h2 | ⟨g, cap, cur, hv, hg, hh, r⟩
  · exact .inl h2
  · exact .inr ⟨g, cap, cur, hv, hg, (hk g (by rw [hv]; rfl)).trans hh, r⟩
theorem OwnL.keep (h : OwnL L e n w S v xs) (hk : ∀ j ∈ S, w'.heap[j]? = w.heap[j]?) : OwnL L e n w' S v xs := by
  obtain ⟨cf, sf, ho, hel, rfl⟩ := h
  refine ⟨cf, sf, ownsRow_keep ho fun j hj => hk j (List.mem_append.2 (.inl (by simp [hj]))), fun j x hx => ⟨(hel j x hx).1, L.own_keep (hel j x hx).2 fun i hi => hk i (List.mem_append.2 (.inr (mem_flat.2 ⟨j, getElem?_lt hx, hi⟩)))⟩, rfl⟩
end

/-- a slice of elements of layout L, n cells each -/
def sliceL {α : Type} (e : TypeId) (n : Nat) (L : Lay α) : Lay (List α) where
  rd w B cs xs := ∃ A c, cs = [.slice A xs.length c] ∧ xs.length ≤ c ∧ c ≤ maxLen ∧ RdL L n w B A xs
  own w S cs xs := ∃ v, cs = [v] ∧ OwnL L e n w S v xs
  rd_keep := by
    rintro w w' B cs xs ⟨A, c, rfl, h1, h2, hr⟩ hk
    exact ⟨A, c, rfl, h1, h2, hr.keep hk⟩
  rd_more := by
    rintro w B B' cs xs ⟨A, c, rfl, h1, h2, hr⟩ hB
    exact ⟨A, c, rfl, h1, h2, hr.more hB⟩
  own_rd := by
    rintro w S cs xs ⟨v, rfl, ho⟩
    obtain ⟨A, c, rfl, h1, h2, hr⟩ := ho.form
    exact ⟨A, c, rfl, h1, h2, hr⟩
  own_lt := by
    rintro w S cs xs ⟨v, rfl, ho⟩
    exact ho.lt
  own_keep := by
    rintro w w' S cs xs ⟨v, rfl, ho⟩ hk
    exact ⟨v, rfl, ho.keep hk⟩

section
variable {α : Type} {L : Lay α} {n : Nat} {e : TypeId} {w w' : World} {B : Nat} {A : Option Addr} {xs : List α} {S T : List Nat} {v : Value}

theorem rv_slice {e : TypeId} (h : RV (sliceL e n L) w v xs) : ∃ A c, v = .slice A xs.length c ∧ xs.length ≤ c ∧ c ≤ maxLen ∧ RdL L n w w.heap.size A xs := by
  obtain ⟨cs, rfl, A, c, rfl, h1, h2, hr⟩ := h
  exact ⟨A, c, rfl, h1, h2, hr⟩

/-- an element of one cell -/
theorem RdL.at1 (h : RdL L 1 w B A xs) {j : Nat} {x : α} (hx : xs[j]? = some x) : ∃ b off u, A = some ⟨b, off, none⟩ ∧ b < B ∧ w.cell? ⟨b, off + j, none⟩ = some u ∧ L.rd w B [u] x := by
  obtain ⟨cf, h1, h2⟩ := h
  have hj := getElem?_lt hx
  obtain ⟨b, off, rfl, hb, hc⟩ := h2 (by omega)
  obtain ⟨hl, hrd⟩ := h1 j x hx
  match hcf : cf j, hl with
  | [u], _ =>
    rw [hcf] at hrd
    exact ⟨b, off, u, rfl, hb, by simpa using hc j 0 u hj (by rw [hcf]; rfl), hrd⟩
/-- an element of n cells -/
theorem RdL.at_ (h : RdL L n w B A xs) {j : Nat} {x : α} (hx : xs[j]? = some x) : ∃ b off cs, A = some ⟨b, off, none⟩ ∧ b < B ∧ cs.length = n ∧ (∀ i u, cs[i]? = some u → w.cell? ⟨b, off + (j * n + i), none⟩ = some u) ∧ L.rd w B cs x := by
  obtain ⟨cf, h1, h2⟩ := h
  have hj := getElem?_lt hx
  obtain ⟨b, off, rfl, hb, hc⟩ := h2 (by omega)
  obtain ⟨hl, hrd⟩ := h1 j x hx
  exact ⟨b, off, cf j, rfl, hb, hl, fun i u hu => hc j i u hj hu, hrd⟩

theorem ownL_nil : OwnL L e n w [] (.slice none 0 0) ([] : List α) :=
  ⟨fun _ => [], fun _ => [], World.ownsRow_nil w 0 e n, fun j x hx => by simp at hx, by simp [Value.ownBlock, flat]⟩

/-- one element more: the row behind an append -/
theorem OwnL.snoc {cs : List Value} {x : α} {v' : Value} {T : List Nat} (h : OwnL L e n w S v xs) (hx : L.own w' T cs x) (hc : cs.length = n)
    (hrow : ∀ ys, w.ownsRow 0 e n v xs.length ys → w'.ownsRow 0 e n v' (xs.length + 1) (ys ++ cs)) (hk : ∀ j ∈ S, v.ownBlock ≠ some j → w'.heap[j]? = w.heap[j]?) (hn : S.Nodup) :
    ∃ R, OwnL L e n w' (v'.ownBlock.toList ++ (R ++ T)) v' (xs ++ [x]) ∧ S = v.ownBlock.toList ++ R := by
  obtain ⟨cf, sf, ho, hel, rfl⟩ := h
  refine ⟨flat sf xs.length, ⟨fun j => if j = xs.length then cs else cf j, fun j => if j = xs.length then T else sf j, ?_, ?_, ?_⟩, rfl⟩
  · have e1 : flat (fun j => if j = xs.length then cs else cf j) (xs ++ [x]).length = flat cf xs.length ++ cs := by
      rw [List.length_append, List.length_singleton, flat_succ]
      rw [flat_congr (cf := cf) (fun j hj => by rw [if_neg (by omega)])]
      simp
    rw [e1, List.length_append, List.length_singleton]
    exact hrow _ ho
  · intro j y hy
    by_cases hj : j = xs.length
    · subst hj
      obtain rfl : x = y := by simpa using hy
      simpa using And.intro hc hx
    · have hjl : j < xs.length := by have := getElem?_lt hy; simp at this; omega
      rw [List.getElem?_append_left hjl] at hy
      simp only [if_neg hj]
      refine ⟨(hel j y hy).1, L.own_keep (hel j y hy).2 fun i hi => hk i (List.mem_append.2 (.inr (mem_flat.2 ⟨j, hjl, hi⟩))) ?_⟩
      intro hv
      have hd := (nodup_app hn).2.2.1 i (by simp [hv])
      exact hd (mem_flat.2 ⟨j, hjl, hi⟩)
  · rw [List.length_append, List.length_singleton, flat_succ, flat_congr (cf := sf) (cf' := fun j => if j = xs.length then T else sf j) (fun j hj => if_neg (by omega))]
    simp
end

end Go.Proofs.Ytdoipabfmekdlaa

namespace Go.Proofs.Ytdoipabfmekdlaa
open Go.RowKit
set_option linter.unusedVariables false

section
variable {β : Type} {cf : Nat → List β} {N n : Nat}
/-- one element another -/
def upd (cf : Nat → List β) (i : Nat) (cs : List β) : Nat → List β := fun j => if j = i then cs else cf j
theorem upd_at {i : Nat} {cs : List β} : upd cf i cs i = cs := if_pos rfl
theorem upd_ne {i j : Nat} {cs : List β} (h : j ≠ i) : upd cf i cs j = cf j := if_neg h
theorem flat_upd_ge {i : Nat} {cs : List β} (h : N ≤ i) : flat (upd cf i cs) N = flat cf N := flat_congr fun j hj => upd_ne (by omega)
theorem flat_upd (h : ∀ j, j < N → (cf j).length = n) {i : Nat} {cs : List β} (hi : i < N) (hc : cs.length = n) :
    flat (upd cf i cs) N = (flat cf N).take (i * n) ++ (cs ++ (flat cf N).drop (i * n + n)) := by
  induction N with
  | zero => omega
  | succ N ih =>
    have hl := flat_len (cf := cf) (N := N) (n := n) (fun j hj => h j (by omega))
    rw [flat_succ, flat_succ]
    by_cases hiN : i < N
    · have h1 : (i + 1) * n ≤ N * n := Nat.mul_le_mul_right n (by omega)
      rw [Nat.succ_mul] at h1
      rw [ih (fun j hj => h j (by omega)) hiN, upd_ne (by omega), List.take_append_of_le_length (by omega), List.drop_append_of_le_length (by omega)]
      simp
    · obtain rfl : i = N := by omega
      have hlast := h i (by omega)
      rw [flat_upd_ge (Nat.le_refl _), upd_at, List.take_append_of_le_length (by omega), List.take_of_length_le (by omega)]
      rw [List.drop_append, List.drop_of_length_le (l := flat cf i) (by omega), List.drop_of_length_le (l := cf i) (by omega)]
      simp
theorem mem_upd {i : Nat} {cs : List β} {x : β} (h : x ∈ flat (upd cf i cs) N) : x ∈ cs ∨ x ∈ flat cf N := by
  obtain ⟨j, hj, hx⟩ := mem_flat.1 h
  by_cases e : j = i
  · subst e; rw [upd_at] at hx; exact .inl hx
  · rw [upd_ne e] at hx; exact .inr (mem_flat.2 ⟨j, hj, hx⟩)
end

theorem flat_nodup_upd {sf : Nat → List Nat} {N i : Nat} {T : List Nat} (h : (flat sf N).Nodup) (hT : T.Nodup) (hd : ∀ j ∈ T, j ∉ flat sf N) : (flat (upd sf i T) N).Nodup := by
  induction N with
  | zero => simp [flat]
  | succ N ih =>
    rw [flat_succ] at h hd ⊢
    obtain ⟨h1, h2, h3, h4⟩ := nodup_app h
    have ih' := ih h1 (fun j hj hm => hd j hj (List.mem_append.2 (.inl hm)))
    rw [List.nodup_append]
    by_cases e : N = i
    · subst e
      rw [upd_at, flat_upd_ge (Nat.le_refl _)]
      exact ⟨h1, hT, fun a ha b hb hab => hd b hb (List.mem_append.2 (.inl (hab ▸ ha)))⟩
    · rw [upd_ne e]
      refine ⟨ih', h2, fun a ha b hb hab => ?_⟩
      subst hab
      rcases mem_upd ha with hx | hx
      · exact hd a hx (List.mem_append.2 (.inr hb))
      · exact h3 a hx hb
/-- the blocks of two elements are apart -/
theorem flat_apart {sf : Nat → List Nat} {N : Nat} (h : (flat sf N).Nodup) : ∀ {i j : Nat}, i < N → j < N → i ≠ j → ∀ x ∈ sf i, x ∉ sf j := by
  induction N with
  | zero => intro i j hi; omega
  | succ N ih =>
    rw [flat_succ] at h
    obtain ⟨h1, h2, h3, h4⟩ := nodup_app h
    intro i j hi hj hne x hx hy
    by_cases ei : i = N
    · subst ei
      exact h4 x hx (mem_flat.2 ⟨j, by omega, hy⟩)
    · by_cases ej : j = N
      · subst ej
        exact h3 x (mem_flat.2 ⟨i, by omega, hx⟩) hy
      · exact ih h1 (by omega) (by omega) hne x hx hy

section
variable {α : Type} {L : Lay α} {n : Nat} {e : TypeId} {w w' : World} {B : Nat} {A : Option Addr} {xs : List α} {S T : List Nat} {v : Value}

/-- one element: its cells, its blocks; and what lies behind when it alone is marked -/
theorem OwnL.el (h : OwnL L e n w S v xs) (hn : S.Nodup) {j : Nat} {x : α} (hx : xs[j]? = some x) :
    ∃ cs T, cs.length = n ∧ (∀ g c N, v = .slice (some ⟨g, 0, none⟩) N c → ∀ i u, cs[i]? = some u → w.cell? ⟨g, j * n + i, none⟩ = some u) ∧ L.own w T cs x ∧ (∀ k ∈ T, k ∈ S) ∧ (v.ownBlock.isSome = true ∨ n = 0 ∨ xs = []) ∧
      ∀ w' x', L.own w' T cs x' → ChgS T w w' → OwnL L e n w' S v (xs.set j x') := by
  obtain ⟨cf, sf, ho, hel, rfl⟩ := h
  obtain ⟨hn1, hn2, hn3, hn4⟩ := nodup_app hn
  have hj := getElem?_lt hx
  have hlen := OwnL.lens hel
  obtain ⟨hc, hox⟩ := hel j x hx
  refine ⟨cf j, sf j, hc, ?_, hox, fun k hk => List.mem_append.2 (.inr (mem_flat.2 ⟨j, hj, hk⟩)), ?_, ?_⟩
  · rintro g c N rfl i u hu
    have hi : i < n := by have := getElem?_lt hu; omega
    have hlt2 : j * n + i < xs.length * n := by
      have h1 : (j + 1) * n ≤ xs.length * n := Nat.mul_le_mul_right n (by omega)
      rw [Nat.succ_mul] at h1; omega
    have hN : N = xs.length := by
      rcases ho.2 with ⟨h', _⟩ | ⟨g', cap, cur, hv, _⟩
      · simp at h'
      · simp only [Value.slice.injEq] at hv; exact hv.2.1
    subst hN
    rw [World.ownsRow.cellAt ho _ hlt2, flat_get hlen hj hi]
    exact hu
  · rcases ho.2 with ⟨h', h0⟩ | ⟨g', cap, cur, hv, _⟩
    · exact .inr (.inr (List.eq_nil_of_length_eq_zero h0))
    · left; rw [hv]; rfl
  · intro w' x' hx' hc'
    refine ⟨cf, sf, ?_, ?_, by rw [List.length_set]⟩
    · rw [List.length_set]
      refine ownsRow_keep ho fun k hk => ?_
      exact hc'.block k (World.ownsRow.lt ho k hk).2 (fun hm => hn3 k (by simp [hk]) (mem_flat.2 ⟨j, hj, hm⟩))
    · intro i y hy
      by_cases e1 : i = j
      · subst e1
        rw [List.getElem?_set_self hj] at hy
        obtain rfl : x' = y := by simpa using hy
        exact ⟨hc, hx'⟩
      · rw [List.getElem?_set_ne (Ne.symm e1)] at hy
        obtain ⟨h1, h2⟩ := hel i y hy
        exact ⟨h1, L.own_chg h2 hc' (flat_apart hn2 (getElem?_lt hy) hj e1)⟩

/-- one element laid anew -/
theorem OV.put {lo m hi j : Nat} {x : α} {cs : List Value} (h : OV (sliceL e n L) w lo m v xs) (hj : j < xs.length) (hc : cs.length = n)
    (hT : L.own w' T cs x) (hTn : T.Nodup) (hTr : ∀ k ∈ T, m ≤ k ∧ k < hi) (hlm : lo ≤ m) (hmh : m ≤ hi) (hhi : hi ≤ w'.heap.size)
    (hrow : ∀ ys, ys.length = xs.length * n → w.ownsRow 0 e n v xs.length ys → w'.ownsRow 0 e n v xs.length (ys.take (j * n) ++ (cs ++ ys.drop (j * n + n))))
    (hk : ∀ k, k < w.heap.size → v.ownBlock ≠ some k → w'.heap[k]? = w.heap[k]?) : OV (sliceL e n L) w' lo hi v (xs.set j x) := by
  obtain ⟨cs0, S, hv, ⟨u, rfl, cf, sf, ho, hel, rfl⟩, hn, hS, hm⟩ := h
  obtain rfl : v = u := hv
  obtain ⟨hn1, hn2, hn3, hn4⟩ := nodup_app hn
  have hlen := OwnL.lens hel
  refine ⟨[v], _, rfl, ⟨v, rfl, upd cf j cs, upd sf j T, ?_, ?_, rfl⟩, ?_, ?_, hhi⟩
  · rw [List.length_set, flat_upd hlen hj hc]
    exact hrow _ (flat_len hlen) ho
  · intro i y hy
    by_cases e1 : i = j
    · subst e1
      rw [List.getElem?_set_self hj] at hy
      obtain rfl : x = y := by simpa using hy
      rw [upd_at, upd_at]
      exact ⟨hc, hT⟩
    · rw [List.getElem?_set_ne (Ne.symm e1)] at hy
      obtain ⟨h1, h2⟩ := hel i y hy
      rw [upd_ne e1, upd_ne e1]
      refine ⟨h1, L.own_keep h2 fun k hk' => hk k (L.own_lt h2 k hk') fun hv => ?_⟩
      exact hn3 k (by simp [hv]) (mem_flat.2 ⟨i, getElem?_lt hy, hk'⟩)
  · rw [List.length_set, List.nodup_append]
    have hTd : ∀ k ∈ T, k ∉ flat sf xs.length := fun k hk1 hk2 => by
      have h1 := hTr k hk1
      have h2 := hS k (List.mem_append.2 (.inr hk2))
      omega
    refine ⟨hn1, flat_nodup_upd hn2 hTn hTd, fun a ha b hb hab => ?_⟩
    subst hab
    rcases mem_upd hb with hx | hx
    · have h1 := hTr a hx
      have h2 := hS a (List.mem_append.2 (.inl ha))
      omega
    · exact hn3 a ha hx
  · intro k hk1
    rw [List.length_set] at hk1
    rcases List.mem_append.1 hk1 with hx | hx
    · have := hS k (List.mem_append.2 (.inl hx)); omega
    · rcases mem_upd hx with hx | hx
      · have := hTr k hx; omega
      · have := hS k (List.mem_append.2 (.inr hx)); omega

/-- a new slice of zeros -/
theorem ownL_made {N : Nat} {z : α} {zc : List Value} (hz : L.own w [] zc z) (hc : zc.length = n) (h : w.ownsRow 0 e n v N (flat (fun _ => zc) N)) : OwnL L e n w v.ownBlock.toList v (List.replicate N z) := by
  refine ⟨fun _ => zc, fun _ => [], by rw [List.length_replicate]; exact h, fun j x hx => ?_, ?_⟩
  · obtain rfl : z = x := by
      have hj := getElem?_lt hx
      rw [List.length_replicate] at hj
      simpa [hj] using hx
    exact ⟨hc, hz⟩
  · have : flat (fun _ : Nat => ([] : List Nat)) (List.replicate N z).length = [] := by
      rw [List.eq_nil_iff_forall_not_mem]
      intro x hx
      obtain ⟨j, _, hx⟩ := mem_flat.1 hx
      cases hx
    rw [this, List.append_nil]
theorem flat_const1 {β : Type} (u : β) (N : Nat) : flat (fun _ => [u]) N = List.replicate N u := by
  induction N with
  | zero => rfl
  | succ N ih => rw [flat_succ, ih, List.replicate_succ']

/-- an append of one element: what is asked of the walk, and what lies behind -/
theorem OV.app_step {lo m hi : Nat} {u : Value} {x : α} (h : OV (sliceL e 1 L) w lo m v xs) (hT : L.own w T [u] x) (hTn : T.Nodup) (hTr : ∀ k ∈ T, m ≤ k ∧ k < hi) (hlm : lo ≤ m) (hmh : m ≤ hi) (hhi : hi ≤ w.heap.size) :
    ∃ ys, w.ownsRow 0 e 1 v xs.length ys ∧ (∃ A c, v = .slice A xs.length c) ∧ ∀ v' w', w'.ownsRow 0 e 1 v' (xs.length + 1) (ys ++ [u]) → w.grownBy w' v.ownBlock → (v'.ownBlock = v.ownBlock ∨ v'.ownBlock = some w.heap.size) →
      OV (sliceL e 1 L) w' lo w'.heap.size v' (xs ++ [x]) ∧ Below lo w w' := by
  obtain ⟨cs0, S, hv, ⟨u0, rfl, hO⟩, hn, hS, hm⟩ := h
  obtain rfl : v = u0 := hv
  obtain ⟨A0, c0, hv0, -⟩ := hO.form
  have hO' := hO
  obtain ⟨cf, sf, ho, hel, hSe⟩ := hO'
  refine ⟨_, ho, ⟨A0, c0, hv0⟩, fun v' w' hrow hg hat => ?_⟩
  have hsz := hg.size
  have hlt := World.ownsRow.lt hrow
  have hvS : ∀ k, v.ownBlock = some k → lo ≤ k ∧ k < m := fun k hk => hS k (by rw [hSe]; exact List.mem_append.2 (.inl (by simp [hk])))
  have hB : Below lo w w' := ⟨hg.os, hg.tape, hg.output, hg.size, fun k hk => hg.block k (by omega) (fun e => by have := hvS k e.symm; omega)⟩
  have hT' : L.own w' T [u] x := L.own_keep hT fun k hk => hg.block k (L.own_lt hT k hk) (fun e => by have := hvS k e.symm; have := hTr k hk; omega)
  obtain ⟨hn1, hn2, hn3, hn4⟩ := nodup_app (by rw [hSe] at hn; exact hn)
  have hrow' : w'.ownsRow 0 e 1 v' (xs ++ [x]).length (flat (upd cf xs.length [u]) (xs ++ [x]).length) := by
    rw [List.length_append, List.length_singleton, flat_succ, flat_upd_ge (Nat.le_refl _), upd_at]
    exact hrow
  have hnb : ∀ k, v'.ownBlock = some k → k ∉ flat sf xs.length ∧ k ∉ T ∧ lo ≤ k ∧ k < w'.heap.size := by
    intro k hk
    have hlt' := (hlt k hk).2
    rcases hat with h1 | h1
    · rw [h1] at hk
      have h2 := hvS k hk
      exact ⟨hn3 k (by simp [hk]), fun hm' => by have := hTr k hm'; omega, h2.1, hlt'⟩
    · rw [h1] at hk
      obtain rfl : w.heap.size = k := by simpa using hk
      refine ⟨fun hm' => ?_, fun hm' => ?_, by omega, hlt'⟩
      · have := hS w.heap.size (by rw [hSe]; exact List.mem_append.2 (.inr hm')); omega
      · have := hTr w.heap.size hm'; omega
  refine ⟨⟨[v'], _, rfl, ⟨v', rfl, upd cf xs.length [u], upd sf xs.length T, hrow', ?_, rfl⟩, ?_, ?_, Nat.le_refl _⟩, hB⟩
  · intro i y hy
    by_cases e1 : i = xs.length
    · subst e1
      obtain rfl : x = y := by simpa using hy
      rw [upd_at, upd_at]
      exact ⟨rfl, hT'⟩
    · have hjl : i < xs.length := by have := getElem?_lt hy; simp at this; omega
      rw [List.getElem?_append_left hjl] at hy
      obtain ⟨h1, h2⟩ := hel i y hy
      rw [upd_ne e1, upd_ne e1]
      refine ⟨h1, L.own_keep h2 fun k hk => hg.block k (L.own_lt h2 k hk) fun hv => ?_⟩
      exact hn3 k (by simp [← hv]) (mem_flat.2 ⟨i, hjl, hk⟩)
  · rw [List.length_append, List.length_singleton, flat_succ, flat_upd_ge (Nat.le_refl _), upd_at, List.nodup_append, List.nodup_append]
    refine ⟨by cases v'.ownBlock <;> simp, ⟨hn2, hTn, fun a ha b hb hab => ?_⟩, fun a ha b hb hab => ?_⟩
    · subst hab
      have h1 := hTr a hb
      have h2 := hS a (by rw [hSe]; exact List.mem_append.2 (.inr ha))
      omega
    · subst hab
      have hk : v'.ownBlock = some a := by simpa using ha
      obtain ⟨h1, h2, _⟩ := hnb a hk
      rcases List.mem_append.1 hb with hx | hx
      · exact h1 hx
      · exact h2 hx
  · intro k hk
    rw [List.length_append, List.length_singleton, flat_succ, flat_upd_ge (Nat.le_refl _), upd_at] at hk
    rcases List.mem_append.1 hk with hx | hx
    · exact (hnb k (by simpa using hx)).2.2
    · rcases List.mem_append.1 hx with hx | hx
      · have := hS k (by rw [hSe]; exact List.mem_append.2 (.inr hx)); omega
      · have := hTr k hx; omega
end

theorem OVp.lt {α : Type} {L : Lay α} {w : World} {p : Nat → Prop} {cs : List Value} {x : α} (h : OVp L w p cs x) : OVp L w (fun j => p j ∧ j < w.heap.size) cs x := by
  obtain ⟨S, ho, hn, hS⟩ := h
  exact ⟨S, ho, hn, fun j hj => ⟨hS j hj, L.own_lt ho j hj⟩⟩
theorem OVp.below {α : Type} {L : Lay α} {w w' : World} {p : Nat → Prop} {cs : List Value} {x : α} (h : OVp L w p cs x) (hb : Below w.heap.size w w') : OVp L w' p cs x := by
  obtain ⟨S, ho, hn, hS⟩ := h
  exact ⟨S, L.own_below ho hb, hn, hS⟩
theorem OVp.keep {α : Type} {L : Lay α} {w w' : World} {p : Nat → Prop} {cs : List Value} {x : α} (h : OVp L w p cs x) (hk : ∀ j, p j → j < w.heap.size → w'.heap[j]? = w.heap[j]?) : OVp L w' p cs x := by
  obtain ⟨S, ho, hn, hS⟩ := h
  exact ⟨S, L.own_keep ho fun j hj => hk j (hS j hj) (L.own_lt ho j hj), hn, hS⟩

/-- an append of one element, the blocks by a predicate -/
theorem OVp.app_step {α : Type} {L : Lay α} {e : TypeId} {w : World} {xs : List α} {T : List Nat} {v : Value} {p q : Nat → Prop} {m : Nat} {u : Value} {x : α} (h : OVp (sliceL e 1 L) w p [v] xs) (hT : L.own w T [u] x) (hTn : T.Nodup) (hTr : ∀ k ∈ T, m ≤ k) (hpm : ∀ k, p k → k < m) (hmw : m ≤ w.heap.size) (hq1 : ∀ k, p k → q k) (hq2 : ∀ k, m ≤ k → q k) :
    ∃ ys, w.ownsRow 0 e 1 v xs.length ys ∧ (∃ A c, v = .slice A xs.length c) ∧ (∀ k, v.ownBlock = some k → p k) ∧ ∀ v' w', w'.ownsRow 0 e 1 v' (xs.length + 1) (ys ++ [u]) → w.grownBy w' v.ownBlock → (v'.ownBlock = v.ownBlock ∨ v'.ownBlock = some w.heap.size) →
      OVp (sliceL e 1 L) w' q [v'] (xs ++ [x]) := by
  obtain ⟨S, ⟨u0, hv, hO⟩, hn, hS⟩ := h
  obtain rfl : v = u0 := by simpa using hv
  obtain ⟨A0, c0, hv0, -⟩ := hO.form
  have hO' := hO
  obtain ⟨cf, sf, ho, hel, hSe⟩ := hO'
  have hvS : ∀ k, v.ownBlock = some k → p k := fun k hk => hS k (by rw [hSe]; exact List.mem_append.2 (.inl (by simp [hk])))
  refine ⟨_, ho, ⟨A0, c0, hv0⟩, hvS, fun v' w' hrow hg hat => ?_⟩
  have hT' : L.own w' T [u] x := L.own_keep hT fun k hk => hg.block k (L.own_lt hT k hk) (fun e => by have := hpm k (hvS k e.symm); have := hTr k hk; omega)
  obtain ⟨hn1, hn2, hn3, hn4⟩ := nodup_app (by rw [hSe] at hn; exact hn)
  have hrow' : w'.ownsRow 0 e 1 v' (xs ++ [x]).length (flat (upd cf xs.length [u]) (xs ++ [x]).length) := by
    rw [List.length_append, List.length_singleton, flat_succ, flat_upd_ge (Nat.le_refl _), upd_at]
    exact hrow
  have hnb : ∀ k, v'.ownBlock = some k → k ∉ flat sf xs.length ∧ k ∉ T ∧ q k := by
    intro k hk
    rcases hat with h1 | h1
    · rw [h1] at hk
      have h2 := hpm k (hvS k hk)
      exact ⟨hn3 k (by simp [hk]), fun hm' => by have := hTr k hm'; omega, hq1 k (hvS k hk)⟩
    · rw [h1] at hk
      obtain rfl : w.heap.size = k := by simpa using hk
      refine ⟨fun hm' => ?_, fun hm' => ?_, hq2 _ hmw⟩
      · have := hpm _ (hS w.heap.size (by rw [hSe]; exact List.mem_append.2 (.inr hm'))); omega
      · have := L.own_lt hT w.heap.size hm'; omega
  refine ⟨_, ⟨v', rfl, upd cf xs.length [u], upd sf xs.length T, hrow', ?_, rfl⟩, ?_, ?_⟩
  · intro i y hy
    by_cases e1 : i = xs.length
    · subst e1
      obtain rfl : x = y := by simpa using hy
      rw [upd_at, upd_at]
      exact ⟨rfl, hT'⟩
    · have hjl : i < xs.length := by have := getElem?_lt hy; simp at this; omega
      rw [List.getElem?_append_left hjl] at hy
      obtain ⟨h1, h2⟩ := hel i y hy
      rw [upd_ne e1, upd_ne e1]
      refine ⟨h1, L.own_keep h2 fun k hk => hg.block k (L.own_lt h2 k hk) fun hv => ?_⟩
      exact hn3 k (by simp [← hv]) (mem_flat.2 ⟨i, hjl, hk⟩)
  · rw [List.length_append, List.length_singleton, flat_succ, flat_upd_ge (Nat.le_refl _), upd_at, List.nodup_append, List.nodup_append]
    refine ⟨by cases v'.ownBlock <;> simp, ⟨hn2, hTn, fun a ha b hb hab => ?_⟩, fun a ha b hb hab => ?_⟩
    · subst hab
      have h1 := hTr a hb
      have h2 := hpm a (hS a (by rw [hSe]; exact List.mem_append.2 (.inr ha)))
      omega
    · subst hab
      have hk : v'.ownBlock = some a := by simpa using ha
      obtain ⟨h1, h2, _⟩ := hnb a hk
      rcases List.mem_append.1 hb with hx | hx
      · exact h1 hx
      · exact h2 hx
  · intro k hk
    rw [List.length_append, List.length_singleton, flat_succ, flat_upd_ge (Nat.le_refl _), upd_at] at hk
    rcases List.mem_append.1 hk with hx | hx
    · exact (hnb k (by simpa using hx)).2.2
    · rcases List.mem_append.1 hx with hx | hx
      · exact hq1 k (hS k (by rw [hSe]; exact List.mem_append.2 (.inr hx)))
      · exact hq2 k (hTr k hx)

section
variable {α : Type} {L : Lay α} {n : Nat} {e : TypeId} {w w' : World} {xs : List α} {S T : List Nat} {v : Value} {g N c : Nat}

theorem OV.row {lo hi : Nat} (h : OV (sliceL e n L) w lo hi v xs) : ∃ ys, ys.length = xs.length * n ∧ w.ownsRow 0 e n v xs.length ys ∧ ∀ k, v.ownBlock = some k → lo ≤ k ∧ k < hi := by
  obtain ⟨cs0, S, hv, ⟨u, rfl, cf, sf, ho, hel, rfl⟩, hn, hS, hm⟩ := h
  obtain rfl : v = u := hv
  exact ⟨_, flat_len (OwnL.lens hel), ho, fun k hk => hS k (List.mem_append.2 (.inl (by simp [hk])))⟩
theorem OV.len_ {lo hi : Nat} (h : OV (sliceL e n L) w lo hi (.slice (some ⟨g, 0, none⟩) N c) xs) : N = xs.length := by
  obtain ⟨ys, _, ho, _⟩ := h.row
  rcases ho.2 with ⟨h', _⟩ | ⟨g', cap, cur, hv, _⟩
  · simp at h'
  · simp only [Value.slice.injEq] at hv; exact hv.2.1
/-- the cells of the row are there, and may be written -/
theorem OV.cell_ {lo hi j : Nat} (h : OV (sliceL e n L) w lo hi (.slice (some ⟨g, 0, none⟩) N c) xs) (hj : j < xs.length * n) : ∃ u, w.cell? ⟨g, j, none⟩ = some u ∧ w.frozen? ⟨g, j, none⟩ = false := by
  have hN := h.len_
  subst hN
  obtain ⟨ys, hl, ho, _⟩ := h.row
  refine ⟨ys[j]'(by omega), ?_, World.ownsRow.frozenAt ho j⟩
  rw [World.ownsRow.cellAt ho j hj, List.getElem?_eq_getElem (by omega)]
/-- one element of one cell laid anew -/
theorem OV.put1 {lo m hi j : Nat} {u : Value} {x : α} (h : OV (sliceL e 1 L) w lo m (.slice (some ⟨g, 0, none⟩) N c) xs) (hj : j < xs.length) (hT : L.own w T [u] x) (hTn : T.Nodup) (hTr : ∀ k ∈ T, m ≤ k ∧ k < hi) (hlm : lo ≤ m) (hmh : m ≤ hi) (hhi : hi ≤ w.heap.size) :
    OV (sliceL e 1 L) (w.setCell ⟨g, j, none⟩ u) lo hi (.slice (some ⟨g, 0, none⟩) N c) (xs.set j x) := by
  have hN := h.len_
  subst hN
  obtain ⟨ys0, _, ho0, hgr⟩ := h.row
  have hg := (World.ownsRow.stored ho0 j u).2
  have hgm := hgr g rfl
  refine h.put hj rfl (L.own_keep hT fun k hk => hg.block k (L.own_lt hT k hk) (fun e => ?_)) hTn hTr hlm hmh (by simpa using hhi) ?_ (fun k hk hne => hg.block k hk (fun e => hne e.symm))
  · obtain rfl : k = g := by simpa using e
    have := hTr k hk; omega
  · intro ys hl hrow
    rw [Nat.mul_one] at hl
    have := (World.ownsRow.stored hrow j u).1
    rw [List.set_eq_take_append_cons_drop, if_pos (by omega)] at this
    simpa using this
end

/-- a block of one cell that the walk has just laid -/
theorem rdV_one (w : World) (t : TypeId) (u : Value) : RdV (w.alloc (.cells #[u] t)) (w.heap.size + 1) (some ⟨w.heap.size, 0, none⟩) [u] := fun _ =>
  ⟨w.heap.size, 0, rfl, by omega, fun j x hx => by
    have hj : j = 0 := by have := getElem?_lt hx; simp at this; omega
    subst hj
    have := heap_alloc_new w (.cells #[u] t)
    rw [cell_of_row _ w.heap.size (0 + 0) #[u] t (0, 0) this]
    simpa using hx⟩

end Go.Proofs.Ytdoipabfmekdlaa

namespace Go.Proofs.Ytdoipabfmekdlaa
open Go.RowKit
set_option linter.unusedVariables false

/-- cells laid one behind the other, as a list -/
def setsL (ys : List Value) : Nat → List Value → List Value
  | _, [] => ys
  | o, c :: cs => setsL (ys.set o c) (o + 1) cs
theorem setsL_eq : ∀ (cs ys : List Value) (o : Nat), o + cs.length ≤ ys.length → setsL ys o cs = ys.take o ++ (cs ++ ys.drop (o + cs.length))
  | [], ys, o, _ => by simp [setsL]
  | c :: cs, ys, o, h => by
    rw [List.length_cons] at h
    rw [setsL, setsL_eq cs (ys.set o c) (o + 1) (by rw [List.length_set]; omega), List.take_add_one, List.take_set_of_le (Nat.le_refl _), List.getElem?_set_self (by omega), List.drop_set_of_lt (by omega), List.length_cons]
    rw [show o + 1 + cs.length = o + (cs.length + 1) by omega]
    simp

theorem ownsRow_setAll {base size g m c : Nat} {e : TypeId} : ∀ (cs ys : List Value) (o : Nat) (w : World), w.ownsRow base e size (.slice (some ⟨g, 0, none⟩) m c) m ys →
    (setAll w g o cs).ownsRow base e size (.slice (some ⟨g, 0, none⟩) m c) m (setsL ys o cs) ∧ w.grownBy (setAll w g o cs) (some g)
  | [], ys, o, w, h => ⟨h, ⟨rfl, rfl, rfl, Nat.le_refl _, fun _ _ _ => rfl⟩⟩
  | u :: cs, ys, o, w, h => by
    obtain ⟨h1, g1⟩ := World.ownsRow.stored h o u
    obtain ⟨h2, g2⟩ := ownsRow_setAll cs _ (o + 1) _ h1
    exact ⟨h2, ⟨g2.os.trans g1.os, g2.tape.trans g1.tape, g2.output.trans g1.output, Nat.le_trans g1.size g2.size, fun k hk hne => (g2.block k (Nat.lt_of_lt_of_le hk g1.size) hne).trans (g1.block k hk hne)⟩⟩

theorem flat_made (zc : List Value) (N : Nat) (h0 : 0 < zc.length) : flat (fun _ => zc) N = (madeCells zc.toArray (N * zc.length)).toList := by
  have hl : (flat (fun _ => zc) N).length = N * zc.length := flat_len (fun _ _ => rfl)
  apply List.ext_getElem?
  intro q
  by_cases hq : q < N * zc.length
  · have h1 : q = q / zc.length * zc.length + q % zc.length := by rw [Nat.mul_comm]; exact (Nat.div_add_mod q zc.length).symm
    have h2 : q % zc.length < zc.length := Nat.mod_lt _ h0
    have h3 : q / zc.length < N := (Nat.div_lt_iff_lt_mul h0).2 hq
    have h4 := flat_get (cf := fun _ => zc) (N := N) (n := zc.length) (fun _ _ => rfl) h3 h2
    rw [← h1] at h4
    rw [h4]
    simp [madeCells, hq, h2]
  · rw [List.getElem?_eq_none (by omega), List.getElem?_eq_none (by simp [madeCells]; omega)]

/-- one cell of a row: it is there, may be written, and what lies behind when it is written -/
theorem row_step {base size g m c : Nat} {e : TypeId} {w : World} {ys : List Value} (h : w.ownsRow base e size (.slice (some ⟨g, 0, none⟩) m c) m ys) {o : Nat} (ho : o < m * size) (u : Value) :
    (∃ u0, w.cell? ⟨g, o, none⟩ = some u0) ∧ w.frozen? ⟨g, o, none⟩ = false ∧ ∃ w', w.setCell ⟨g, o, none⟩ u = w' ∧ w'.ownsRow base e size (.slice (some ⟨g, 0, none⟩) m c) m (ys.set o u) := by
  refine ⟨⟨ys[o]'(by rw [h.1]; exact ho), ?_⟩, World.ownsRow.frozenAt h o, _, rfl, (World.ownsRow.stored h o u).1⟩
  rw [World.ownsRow.cellAt h o ho, List.getElem?_eq_getElem]

section
variable {α : Type} {L : Lay α} {n : Nat} {e : TypeId} {w : World} {xs : List α} {S : List Nat} {g c N : Nat}

theorem OwnL.rowOf (h : OwnL L e n w S (.slice (some ⟨g, 0, none⟩) N c) xs) : ∃ ys, w.ownsRow 0 e n (.slice (some ⟨g, 0, none⟩) N c) N ys := by
  obtain ⟨cf, sf, ho, hel, rfl⟩ := h
  have hN : N = xs.length := by
    rcases ho.2 with ⟨h', _⟩ | ⟨g', cap, cur, hv, _⟩
    · simp at h'
    · simp only [Value.slice.injEq] at hv; exact hv.2.1
  subst hN
  exact ⟨_, ho⟩

/-- the cells of one element, and that they may be written -/
theorem OwnL.cellsAt (h : OwnL L e n w S (.slice (some ⟨g, 0, none⟩) N c) xs) {j i : Nat} (hj : j < xs.length) (hi : i < n) : (∃ u, w.cell? ⟨g, j * n + i, none⟩ = some u) ∧ w.frozen? ⟨g, j * n + i, none⟩ = false := by
  obtain ⟨cf, sf, ho, hel, rfl⟩ := h
  have hN : N = xs.length := by
    rcases ho.2 with ⟨h', _⟩ | ⟨g', cap, cur, hv, _⟩
    · simp at h'
    · simp only [Value.slice.injEq] at hv; exact hv.2.1
  subst hN
  have hlt2 : j * n + i < xs.length * n := by
    have h1 : (j + 1) * n ≤ xs.length * n := Nat.mul_le_mul_right n (by omega)
    rw [Nat.succ_mul] at h1; omega
  refine ⟨⟨(flat cf xs.length)[j * n + i]'(by rw [flat_len (OwnL.lens hel)]; exact hlt2), ?_⟩, World.ownsRow.frozenAt ho _⟩
  rw [World.ownsRow.cellAt ho _ hlt2, List.getElem?_eq_getElem]

/-- one element of scalars laid anew -/
theorem OwnL.lay (hz : ∀ w T cs x, L.own w T cs x → T = []) (h : OwnL L e n w S (.slice (some ⟨g, 0, none⟩) N c) xs) {j : Nat} {cs : List Value} {x : α} (hj : j < xs.length) (hc : cs.length = n) (hx : L.own (setAll w g (j * n) cs) [] cs x) :
    OwnL L e n (setAll w g (j * n) cs) S (.slice (some ⟨g, 0, none⟩) N c) (xs.set j x) ∧ ChgS S w (setAll w g (j * n) cs) := by
  obtain ⟨cf, sf, ho, hel, rfl⟩ := h
  have hN : N = xs.length := by
    rcases ho.2 with ⟨h', _⟩ | ⟨g', cap, cur, hv, _⟩
    · simp at h'
    · simp only [Value.slice.injEq] at hv; exact hv.2.1
  subst hN
  have hlen := OwnL.lens hel
  have hfl := flat_len (cf := cf) (N := xs.length) hlen
  have hlt2 : j * n + n ≤ xs.length * n := by
    have h1 : (j + 1) * n ≤ xs.length * n := Nat.mul_le_mul_right n (by omega)
    rw [Nat.succ_mul] at h1; omega
  obtain ⟨hrow, hg⟩ := ownsRow_setAll cs _ (j * n) w ho
  refine ⟨⟨upd cf j cs, sf, ?_, ?_, by rw [List.length_set]⟩, ⟨hg.os, hg.tape, hg.output, hg.size, fun k hk hne => hg.block k hk (fun e => hne ?_)⟩⟩
  · rw [List.length_set, flat_upd hlen hj hc]
    rw [setsL_eq cs _ _ (by rw [hfl, hc]; exact hlt2), hc] at hrow
    exact hrow
  · intro i y hy
    by_cases e1 : i = j
    · subst e1
      rw [List.getElem?_set_self hj] at hy
      obtain rfl : x = y := by simpa using hy
      have := hel i xs[i] (List.getElem?_eq_getElem hj)
      rw [upd_at, hz _ _ _ _ this.2]
      exact ⟨hc, hx⟩
    · rw [List.getElem?_set_ne (Ne.symm e1)] at hy
      obtain ⟨h1, h2⟩ := hel i y hy
      rw [upd_ne e1]
      have hs := hz _ _ _ _ h2
      rw [hs] at h2 ⊢
      exact ⟨h1, L.own_keep h2 fun k hk => by cases hk⟩
  · exact List.mem_append.2 (.inl (by simp [Value.ownBlock, Option.some.inj e]))

/-- one element of scalars laid anew, in a slice of its own -/
theorem OV.lay {lo hi : Nat} (hz : ∀ w T cs x, L.own w T cs x → T = []) (h : OV (sliceL e n L) w lo hi (.slice (some ⟨g, 0, none⟩) N c) xs) {j : Nat} {cs : List Value} {x : α} (hj : j < xs.length) (hc : cs.length = n) (hx : L.own (setAll w g (j * n) cs) [] cs x) :
    OV (sliceL e n L) (setAll w g (j * n) cs) lo hi (.slice (some ⟨g, 0, none⟩) N c) (xs.set j x) ∧ Chg lo hi w (setAll w g (j * n) cs) := by
  obtain ⟨cs0, S, hv, ⟨u, rfl, ho⟩, hn, hS, hh⟩ := h
  obtain rfl : Value.slice (some ⟨g, 0, none⟩) N c = u := hv
  obtain ⟨h1, h2⟩ := ho.lay hz hj hc hx
  exact ⟨⟨_, S, rfl, ⟨_, rfl, h1⟩, hn, hS, Nat.le_trans hh h2.size⟩, h2.chg hS⟩
theorem OV.rowOf {lo hi : Nat} (h : OV (sliceL e n L) w lo hi (.slice (some ⟨g, 0, none⟩) N c) xs) : ∃ ys, w.ownsRow 0 e n (.slice (some ⟨g, 0, none⟩) N c) N ys := by
  obtain ⟨cs0, S, hv, ⟨u, rfl, ho⟩, hn, hS, hh⟩ := h
  obtain rfl : Value.slice (some ⟨g, 0, none⟩) N c = u := hv
  exact ho.rowOf

theorem OVp.sl {lo hi : Nat} {v : Value} (h : OV (sliceL e n L) w lo hi v xs) : OVp (sliceL e n L) w (fun j => lo ≤ j ∧ j < hi) [v] xs := by
  obtain ⟨cs0, S, hv, ⟨u, rfl, ho⟩, hn, hS, hh⟩ := h
  obtain rfl : v = u := hv
  exact ⟨S, ⟨_, rfl, ho⟩, hn, hS⟩

/-- an append of one element of scalars: what is asked of the walk, and what lies behind -/
theorem OV.app_n {lo m : Nat} {v : Value} {cs : List Value} {x : α} (hz : ∀ w T cs x, L.own w T cs x → T = []) (h : OV (sliceL e n L) w lo m v xs) (hc : cs.length = n) (hx : ∀ w, L.own w [] cs x) (hlm : lo ≤ w.heap.size) :
    ∃ ys, w.ownsRow 0 e n v xs.length ys ∧ (∃ A c, v = .slice A xs.length c) ∧ ∀ v' w', w'.ownsRow 0 e n v' (xs.length + 1) (ys ++ cs) → w.grownBy w' v.ownBlock → (v'.ownBlock = v.ownBlock ∨ v'.ownBlock = some w.heap.size) →
      OV (sliceL e n L) w' lo w'.heap.size v' (xs ++ [x]) ∧ Below lo w w' := by
  obtain ⟨cs0, S, hv, ⟨u0, rfl, hO⟩, hn, hS, hm⟩ := h
  obtain rfl : v = u0 := hv
  obtain ⟨A0, c0, hv0, -⟩ := hO.form
  obtain ⟨cf, sf, ho, hel, rfl⟩ := hO
  have hsf : flat sf xs.length = [] := List.eq_nil_iff_forall_not_mem.2 fun j hj => by
    obtain ⟨i, hi, hm⟩ := mem_flat.1 hj
    have := hz _ _ _ _ (hel i xs[i] (List.getElem?_eq_getElem hi)).2
    rw [this] at hm; cases hm
  refine ⟨_, ho, ⟨A0, c0, hv0⟩, fun v' w' hrow hg hat => ?_⟩
  have hlt := World.ownsRow.lt hrow
  have hvS : ∀ k, v.ownBlock = some k → lo ≤ k ∧ k < m := fun k hk => hS k (List.mem_append.2 (.inl (by simp [hk])))
  have hB : Below lo w w' := ⟨hg.os, hg.tape, hg.output, hg.size, fun k hk => hg.block k (by omega) (fun e => by have := hvS k e.symm; omega)⟩
  refine ⟨⟨[v'], v'.ownBlock.toList, rfl, ⟨v', rfl, upd cf xs.length cs, fun _ => [], ?_, ?_, ?_⟩, by cases v'.ownBlock <;> simp, ?_, Nat.le_refl _⟩, hB⟩
  · rw [List.length_append, List.length_singleton, flat_succ, flat_upd_ge (Nat.le_refl _), upd_at]
    exact hrow
  · intro i y hy
    by_cases e1 : i = xs.length
    · subst e1
      obtain rfl : x = y := by simpa using hy
      rw [upd_at]
      exact ⟨hc, hx w'⟩
    · have hjl : i < xs.length := by have := getElem?_lt hy; simp at this; omega
      rw [List.getElem?_append_left hjl] at hy
      obtain ⟨h1, h2⟩ := hel i y hy
      rw [upd_ne e1]
      have hs := hz _ _ _ _ h2
      rw [hs] at h2
      exact ⟨h1, L.own_keep h2 fun k hk => by cases hk⟩
  · have : flat (fun _ : Nat => ([] : List Nat)) (xs ++ [x]).length = [] := List.eq_nil_iff_forall_not_mem.2 fun j hj => by
      obtain ⟨i, _, hm⟩ := mem_flat.1 hj; cases hm
    rw [this, List.append_nil]
  · intro k hk
    have hk' : v'.ownBlock = some k := by simpa using hk
    have h2 := (hlt k hk').2
    rcases hat with h1 | h1
    · rw [h1] at hk'
      exact ⟨(hvS k hk').1, h2⟩
    · rw [h1] at hk'
      obtain rfl : w.heap.size = k := by simpa using hk'
      exact ⟨hlm, h2⟩
end

end Go.Proofs.Ytdoipabfmekdlaa

namespace Go.Proofs.Ytdoipabfmekdlaa

/-- 128 to the power j, kept closed -/
def p128 (j : Nat) : Int := 128 ^ j
theorem p128_zero : p128 0 = 1 := rfl
theorem p128_succ (j : Nat) : p128 (j + 1) = p128 j * 128 := by unfold p128; rw [Int.pow_succ]
theorem p128_pos (j : Nat) : 0 < p128 j := by
  induction j with
  | zero => decide
  | succ j ih => rw [p128_succ]; omega
theorem p128_le (j : Nat) (h : j ≤ 8) : p128 j ≤ 72057594037927936 := by
  have : j = 0 ∨ j = 1 ∨ j = 2 ∨ j = 3 ∨ j = 4 ∨ j = 5 ∨ j = 6 ∨ j = 7 ∨ j = 8 := by omega
  rcases this with rfl | rfl | rfl | rfl | rfl | rfl | rfl | rfl | rfl <;> decide
theorem p128_le7 (j : Nat) (h : j ≤ 7) : p128 j ≤ 562949953421312 := by
  have : j = 0 ∨ j = 1 ∨ j = 2 ∨ j = 3 ∨ j = 4 ∨ j = 5 ∨ j = 6 ∨ j = 7 := by omega
  rcases this with rfl | rfl | rfl | rfl | rfl | rfl | rfl | rfl <;> decide

/-- the number at the head of l, i groups of which, of value n, have been read: the number, and how many groups it has -/
def gnum : List Int → Nat → Int → Option (Int × Nat)
  | [], _, _ => none
  | x :: r, i, n =>
    if i < 8 then
      if x < 128 then (if n + x % 128 * p128 i > 1125899906842624 ∨ (x = 0 ∧ 0 < i) then none else some (n + x % 128 * p128 i, i + 1))
      else gnum r (i + 1) (n + x % 128 * p128 i)
    else none

/-- what GetNum answers -/
def getNum (zs : List Int) (at_ : Int) : Option (Int × Nat) := if at_ < 0 then none else gnum (zs.drop at_.toNat) 0 0

/-- GetNum's three results, as a value -/
def getVal (zs : List Int) (at_ : Int) : Value :=
  match getNum zs at_ with
  | some (n, c) => .tuple #[.int .i64 n, .int .i64 (at_ + c), .bool true]
  | none => .tuple #[.int .i64 0, .int .i64 0, .bool false]

theorem getVal_none {zs : List Int} {at_ : Int} (h : getNum zs at_ = none) : getVal zs at_ = .tuple #[.int .i64 0, .int .i64 0, .bool false] := by
  unfold getVal; rw [h]
theorem getVal_some {zs : List Int} {at_ n : Int} {c : Nat} (h : getNum zs at_ = some (n, c)) : getVal zs at_ = .tuple #[.int .i64 n, .int .i64 (at_ + c), .bool true] := by
  unfold getVal; rw [h]

theorem getNum_at (zs : List Int) (t : Nat) : getNum zs (t : Int) = gnum (zs.drop t) 0 0 := by
  unfold getNum; rw [if_neg (by omega)]; simp

theorem drop_at (zs : List Int) (k : Nat) (h : k < zs.length) : zs.drop k = zs.getD k 0 :: zs.drop (k + 1) := by
  rw [List.drop_eq_getElem_cons h]; simp [h]

/-- the state of a reading: j groups are read, their value is n, what is left decides -/
structure Getting (zs : List Int) (t j : Nat) (n : Int) : Prop where
  j8 : j ≤ 8
  lo : 0 ≤ n
  hi : n < p128 j
  eq : gnum (zs.drop t) 0 0 = gnum (zs.drop (t + j)) j n

theorem Getting.start (zs : List Int) (t : Nat) : Getting zs t 0 0 := ⟨by omega, by omega, by decide, rfl⟩

section
variable {zs : List Int} {t j : Nat} {n : Int} (h : Getting zs t j n)
include h

theorem Getting.stop (hs : ¬ (j < 8 ∧ t + j < zs.length)) : getNum zs (t : Int) = none := by
  rw [getNum_at, h.eq]
  by_cases h8 : j < 8
  · have : zs.drop (t + j) = [] := List.drop_eq_nil_of_le (by omega)
    rw [this]; rfl
  · rcases hl : zs.drop (t + j) with _ | ⟨x, r⟩
    · rfl
    · unfold gnum; rw [if_neg h8]

theorem Getting.step {x : Int} (h8 : j < 8) (hl : t + j < zs.length) (hx : x = zs.getD (t + j) 0) :
    gnum (zs.drop t) 0 0 = (if x < 128 then (if n + x % 128 * p128 j > 1125899906842624 ∨ (x = 0 ∧ 0 < j) then none else some (n + x % 128 * p128 j, j + 1))
      else gnum (zs.drop (t + (j + 1))) (j + 1) (n + x % 128 * p128 j)) := by
  rw [h.eq, drop_at zs (t + j) hl, ← hx]
  conv => lhs; unfold gnum
  rw [if_pos h8]
  rfl

theorem Getting.bad {x : Int} (h8 : j < 8) (hl : t + j < zs.length) (hx : x = zs.getD (t + j) 0) (hlt : x < 128) (hb : n + x % 128 * p128 j > 1125899906842624 ∨ (x = 0 ∧ 0 < j)) : getNum zs (t : Int) = none := by
  rw [getNum_at, h.step h8 hl hx, if_pos hlt, if_pos hb]

theorem Getting.good {x : Int} (h8 : j < 8) (hl : t + j < zs.length) (hx : x = zs.getD (t + j) 0) (hlt : x < 128) (hb : ¬ (n + x % 128 * p128 j > 1125899906842624 ∨ (x = 0 ∧ 0 < j))) :
    getNum zs (t : Int) = some (n + x % 128 * p128 j, j + 1) := by
  rw [getNum_at, h.step h8 hl hx, if_pos hlt, if_neg hb]

theorem Getting.prod {x : Int} : 0 ≤ x % 128 * p128 j ∧ n + x % 128 * p128 j < p128 (j + 1) := by
  have h0 : 0 ≤ x % 128 := Int.emod_nonneg _ (by omega)
  have h1 : x % 128 ≤ 127 := by have := Int.emod_lt_of_pos x (show (0 : Int) < 128 by omega); omega
  have hp := p128_pos j
  have hm : x % 128 * p128 j ≤ 127 * p128 j := Int.mul_le_mul_of_nonneg_right h1 (by omega)
  have h2 : 0 ≤ x % 128 * p128 j := Int.mul_nonneg h0 (by omega)
  have := h.hi
  rw [p128_succ]
  omega

theorem Getting.more {x : Int} (h8 : j < 8) (hl : t + j < zs.length) (hx : x = zs.getD (t + j) 0) (hge : ¬ x < 128) : Getting zs t (j + 1) (n + x % 128 * p128 j) := by
  have hp := h.prod (x := x)
  exact ⟨by omega, by have := h.lo; omega, hp.2, by rw [h.step h8 hl hx, if_neg hge]⟩

end

end Go.Proofs.Ytdoipabfmekdlaa

namespace Go.Proofs.Ytdoipabfmekdlaa

theorem ofInt_nat (n a : Nat) (h : a < 2 ^ n) : (BitVec.ofInt n (a : Int)).toNat = a := by
  rw [BitVec.ofInt_natCast, BitVec.toNat_ofNat]; exact Nat.mod_eq_of_lt h

theorem bits_and_u8 (a b : Nat) (ha : a < 256) (hb : b < 256) : bits .and .u8 (a : Int) (b : Int) = ((a &&& b : Nat) : Int) := by
  have hx : a &&& b < 2 ^ 8 := Nat.and_lt_two_pow _ (by omega)
  show IntKind.u8.wrap ((BitVec.ofInt 8 (a : Int) &&& BitVec.ofInt 8 (b : Int)).toNat : Int) = _
  rw [BitVec.toNat_and, ofInt_nat 8 a ha, ofInt_nat 8 b hb, IntKind.wrap_u8]
  omega

theorem bits_or_i64 (a b : Nat) (ha : a < 9223372036854775808) (hb : b < 9223372036854775808) : bits .or .i64 (a : Int) (b : Int) = ((a ||| b : Nat) : Int) := by
  have hx : a ||| b < 2 ^ 63 := Nat.or_lt_two_pow (by omega) (by omega)
  show IntKind.i64.wrap ((BitVec.ofInt 64 (a : Int) ||| BitVec.ofInt 64 (b : Int)).toNat : Int) = _
  rw [BitVec.toNat_or, ofInt_nat 64 a (by omega), ofInt_nat 64 b (by omega), IntKind.wrap_i64]
  omega

theorem bits_xor_i64 (a b : Nat) (ha : a < 9223372036854775808) (hb : b < 9223372036854775808) : bits .xor .i64 (a : Int) (b : Int) = ((a ^^^ b : Nat) : Int) := by
  have hx : a ^^^ b < 2 ^ 63 := Nat.xor_lt_two_pow (by omega) (by omega)
  show IntKind.i64.wrap ((BitVec.ofInt 64 (a : Int) ^^^ BitVec.ofInt 64 (b : Int)).toNat : Int) = _
  rw [BitVec.toNat_xor, ofInt_nat 64 a (by omega), ofInt_nat 64 b (by omega), IntKind.wrap_i64]
  omega

theorem bits_xor_u32 (a b : Nat) (ha : a < 4294967296) (hb : b < 4294967296) : bits .xor .u32 (a : Int) (b : Int) = ((a ^^^ b : Nat) : Int) := by
  have hx : a ^^^ b < 2 ^ 32 := Nat.xor_lt_two_pow (by omega) (by omega)
  show IntKind.u32.wrap ((BitVec.ofInt 32 (a : Int) ^^^ BitVec.ofInt 32 (b : Int)).toNat : Int) = _
  rw [BitVec.toNat_xor, ofInt_nat 32 a (by omega), ofInt_nat 32 b (by omega), IntKind.wrap_u32]
  omega

theorem bits_and_u32 (a b : Nat) (ha : a < 4294967296) (hb : b < 4294967296) : bits .and .u32 (a : Int) (b : Int) = ((a &&& b : Nat) : Int) := by
  have hx : a &&& b < 2 ^ 32 := Nat.and_lt_two_pow _ (by omega)
  show IntKind.u32.wrap ((BitVec.ofInt 32 (a : Int) &&& BitVec.ofInt 32 (b : Int)).toNat : Int) = _
  rw [BitVec.toNat_and, ofInt_nat 32 a (by omega), ofInt_nat 32 b (by omega), IntKind.wrap_u32]
  omega

theorem and127 (x : Int) (h0 : 0 ≤ x) (h1 : x ≤ 255) : bits .and .u8 x 127 = x % 128 := by
  obtain ⟨a, rfl⟩ : ∃ a : Nat, x = (a : Int) := ⟨x.toNat, by omega⟩
  have := bits_and_u8 a 127 (by omega) (by omega)
  rw [show ((127 : Nat) : Int) = 127 from rfl] at this
  rw [this, show (127 : Nat) = 2 ^ 7 - 1 from rfl, Nat.and_two_pow_sub_one_eq_mod]
  omega

/-- an or of parts that do not meet is a sum -/
theorem or_shift (n y : Int) (j : Nat) (hj : j ≤ 7) (hn0 : 0 ≤ n) (hn : n < 128 ^ j) (hy0 : 0 ≤ y) (hy : y ≤ 127) :
    bits .or .i64 n (y * 2 ^ (7 * j)) = n + y * 128 ^ j := by
  obtain ⟨a, rfl⟩ : ∃ a : Nat, n = (a : Int) := ⟨n.toNat, by omega⟩
  obtain ⟨b, rfl⟩ : ∃ b : Nat, y = (b : Int) := ⟨y.toNat, by omega⟩
  have e1 : (2 : Int) ^ (7 * j) = ((2 ^ (7 * j) : Nat) : Int) := by simp
  have e2 : (128 : Int) ^ j = ((2 ^ (7 * j) : Nat) : Int) := by rw [Nat.pow_mul]; simp
  rw [e2] at hn ⊢
  rw [e1, ← Int.natCast_mul]
  have hp : 2 ^ (7 * j) ≤ 2 ^ 49 := Nat.pow_le_pow_right (by omega) (by omega)
  have hb : b * 2 ^ (7 * j) ≤ 127 * 2 ^ 49 := Nat.mul_le_mul (by omega) hp
  rw [bits_or_i64 a _ (by omega) (by omega)]
  have := Nat.two_pow_add_eq_or_of_lt (i := 7 * j) (b := a) (by omega) b
  rw [Nat.or_comm, Nat.mul_comm b, ← this]
  simp
  omega

theorem pow_mul_le (y : Int) (j : Nat) (hj : j ≤ 7) (hy0 : 0 ≤ y) (hy : y ≤ 127) : 0 ≤ y * 2 ^ (7 * j) ∧ y * 2 ^ (7 * j) ≤ 72057594037927936 := by
  obtain ⟨b, rfl⟩ : ∃ b : Nat, y = (b : Int) := ⟨y.toNat, by omega⟩
  have e1 : (2 : Int) ^ (7 * j) = ((2 ^ (7 * j) : Nat) : Int) := by simp
  rw [e1, ← Int.natCast_mul]
  have hp : 2 ^ (7 * j) ≤ 2 ^ 49 := Nat.pow_le_pow_right (by omega) (by omega)
  have hb : b * 2 ^ (7 * j) ≤ 127 * 2 ^ 49 := Nat.mul_le_mul (by omega) hp
  omega

end Go.Proofs.Ytdoipabfmekdlaa

namespace Go.Proofs.Ytdoipabfmekdlaa
open Go.RowKit
set_option linter.unusedVariables false

/-- every element is a byte -/
def Bytes (zs : List Int) : Prop := ∀ j, 0 ≤ zs.getD j 0 ∧ zs.getD j 0 ≤ 255

theorem bytes_of_wf {zs : List Int} (h : ∀ n ∈ zs, (Lit.int .u8 n).wf = true) : Bytes zs := by
  intro j
  by_cases hj : j < zs.length
  · have := h zs[j] (List.getElem_mem hj)
    have h2 : 0 ≤ zs[j] ∧ zs[j] ≤ 255 := by simpa [Lit.wf, IntKind.min, IntKind.max, IntKind.signed, IntKind.bits] using this
    simpa [hj] using h2
  · simp [hj]

theorem ret_eq {a b : Value} (h : a = b) : Ending.returned a = .returned b := by rw [h]

end Go.Proofs.Ytdoipabfmekdlaa

namespace Go.Proofs.Ytdoipabfmekdlaa
open Go.RowKit
set_option linter.unusedVariables false

theorem step_appI {P : Program} {ops : Array Oper} {o : Oper} {a : Act} {w : World} {K : Act → World → Prop} {Q : Exit → Act → World → Prop} {E : Prop} (k : IntKind) (hgd : o.guard = none) (s x : Operand) (t : TypeId)
    (ho : o.op = .call { callee := .builtin .append, args := #[s, x], argTypes := #[t, t] })
    (base : Nat) (e : TypeId) (i : TypeInfo) (bytes : Nat) (ht : P.underlying t = some (.slice e)) (hi : P.info? e = some i) (hz : i.zero = some (.int k 0))
    (hsize : i.size = 1) (hby : i.bytes = bytes) (v : Value) (xs : List Int) (hs : a.eval s = v) (hown : Own k w base e v xs)
    (B : Nat) (A : Option Addr) (c m : Nat) (ys : List Int) (hx : a.eval x = .slice A m c) (hm : ys.length = m) (hr : Rd k w B A ys)
    (hmax : xs.length + m ≤ 1099511627776) (hbyt : bytes ≤ 64) (hbase : base ≤ w.heap.size)
    (h : ∀ v' w', Own k w' base e v' (xs ++ ys) → w.grownBy w' v.ownBlock → (v'.ownBlock = v.ownBlock ∨ v'.ownBlock = some w.heap.size) → K (a.put o.dst v') w') :
    if Region.wanted o (yielded ops a.tmps) = true then Oper.wp P o a w K Q else E := by
  have hw : Region.wanted o (yielded ops a.tmps) = true := by simp [Region.wanted, hgd]
  rw [if_pos hw]
  subst hm
  obtain ⟨v', w', hrun, h2, h3, h4⟩ := run_app (P := P) w base t o.type e i (.int k 0) bytes ht hi hz hsize hby rfl v xs.length (xs.map (Value.int k)) hown B A c (ys.map (Value.int k)) hr.toV
    (fun u hu => by obtain ⟨n, _, rfl⟩ := List.mem_map.1 hu; rfl) (by simpa using hmax) hbyt hbase
  rw [List.length_map] at hrun h2
  unfold Oper.wp execOp
  simp only [ho, resolve, invoke, builtin, Sem.run_bind, Sem.run_pure, Result.andThen_ok, List.map_toArray, List.map_cons, List.map_nil, hs, hx, hrun]
  exact h v' w' (by unfold Own; rw [List.length_append, List.map_append]; simpa using h2) h3 h4

/-- where the row lies behind an append: where it lay, or in a new block -/
theorem app_own {k : IntKind} {e : TypeId} {X w' : World} {lo hi : Nat} {v v' : Value} {xs zs : List Int} (h : OS k e X lo hi v xs) (ho : Own k w' lo e v' zs) (hg : X.grownBy w' v.ownBlock) (hat : v'.ownBlock = v.ownBlock ∨ v'.ownBlock = some X.heap.size) :
    OS k e w' lo hi v' zs ∨ OS k e w' X.heap.size w'.heap.size v' zs := by
  have hs := hg.size
  rcases hat with hat | hat
  · exact .inl ⟨ho, fun j hj => h.2.1 j (hat ▸ hj), Nat.le_trans h.2.2 hs⟩
  · refine .inr ⟨⟨ho.1, ?_⟩, fun j hj => (ho.at_ j hj).2, Nat.le_refl _⟩
    rcases ho.2 with h2 | ⟨g, cap, cur, hv, hb, r⟩
    · exact .inl h2
    · refine .inr ⟨g, cap, cur, hv, ?_, r⟩
      rw [hv] at hat
      have : g = X.heap.size := by simpa [Value.ownBlock] using hat
      omega

end Go.Proofs.Ytdoipabfmekdlaa

namespace Go.Proofs.Ytdoipabfmekdlaa
open Go.RowKit
set_option linter.unusedVariables false

theorem el_cell {w : World} {B : Nat} {u : Value} {x : List Int} (h : bytesL.rd w B [u] x) : ∃ A c, u = .slice A x.length c ∧ x.length ≤ c ∧ c ≤ maxLen ∧ Rd .u8 w B A x := by
  obtain ⟨A, c, he, h1, h2, hr⟩ := h
  obtain rfl : u = .slice A x.length c := by simpa using he
  exact ⟨A, c, rfl, h1, h2, hr⟩

theorem take_succ_eqL {α : Type} {xs ys : List α} {k : Nat} {x : α} (h : xs.take k = ys.take k) (hx : xs[k]? = some x) (hy : ys[k]? = some x) : xs.take (k + 1) = ys.take (k + 1) := by
  rw [List.take_add_one, List.take_add_one, h, hx, hy]

theorem get_of_lt {α : Type} {xs : List α} {k : Nat} (h : k < xs.length) : ∃ x, xs[k]? = some x := ⟨xs[k], List.getElem?_eq_getElem h⟩

theorem ChgS.sub {S T : List Nat} {a b c : World} (h : ChgS S a b) (k : ChgS T b c) (hs : ∀ j ∈ T, j ∈ S) : ChgS S a c := h.trans (k.more hs)

theorem szV_step (left n m : Int) (h0 : 0 ≤ n) (h1 : 0 ≤ m) (h : n ≤ left) : szV (left - n) m = szV left (n + m) := by
  unfold szV
  by_cases h2 : n + m ≤ left
  · rw [if_pos h2, if_pos (by omega)]; omega
  · rw [if_neg h2, if_neg (by omega)]

theorem bytes_nil (w : World) : bytesL.own w [] [.slice none 0 0] [] := ⟨_, rfl, World.ownsRow_nil _ _ _ _, rfl⟩
theorem fill_stepL {α : Type} {d : α} (zs : List α) (k : Nat) {x : α} (hx : zs[k]? = some x) :
    (zs.take k ++ List.replicate (zs.length - k) d).set k x = zs.take (k + 1) ++ List.replicate (zs.length - (k + 1)) d := by
  have h := getElem?_lt hx
  have e1 : (zs.take k).length = k := by simp; omega
  obtain ⟨m, hm⟩ : ∃ m, zs.length = k + 1 + m := ⟨zs.length - (k + 1), by omega⟩
  have e2 : zs.length - k = m + 1 := by omega
  have e3 : zs.length - (k + 1) = m := by omega
  have e4 : zs.take (k + 1) = zs.take k ++ [x] := by rw [List.take_add_one, hx]; rfl
  rw [e2, e3, e4, List.set_append, if_neg (by omega), e1, Nat.sub_self, List.replicate_succ, List.set_cons_zero, List.append_assoc]
  rfl
theorem fill_lenL {α : Type} {d : α} (zs : List α) (k : Nat) (h : k ≤ zs.length) : (zs.take k ++ List.replicate (zs.length - k) d).length = zs.length := by simp; omega
theorem os_blocks {w : World} {lo hi : Nat} {v : Value} {zs : List Int} (h : OS .u8 5 w lo hi v zs) : ∃ T, bytesL.own w T [v] zs ∧ T.Nodup ∧ ∀ j ∈ T, lo ≤ j ∧ j < hi := OVp.ints h

end Go.Proofs.Ytdoipabfmekdlaa

namespace Go.Proofs.Ytdoipabfmekdlaa
open Go.RowKit
set_option linter.unusedVariables false

section
variable {α : Type} {f : Int → α → α} {s : α → Nat} {xs : List α} {k0 : Int} {k : Nat} {x : α}
/-- a list marked: the element's own marking from where the one ahead ends -/
def marksG (f : Int → α → α) (s : α → Nat) : Int → List α → List α
  | _, [] => []
  | k, x :: l => f k x :: marksG f s (k + (s x : Int)) l
def sumG (s : α → Nat) (xs : List α) : Nat := (xs.map s).sum
theorem sumG_cons (s : α → Nat) (x : α) (l : List α) : sumG s (x :: l) = s x + sumG s l := by simp [sumG]
theorem sumG_append (s : α → Nat) (l m : List α) : sumG s (l ++ m) = sumG s l + sumG s m := by simp [sumG]
theorem sumG_take (hx : xs[k]? = some x) : sumG s (xs.take (k + 1)) = sumG s (xs.take k) + s x := by
  rw [List.take_add_one, hx, sumG_append]; simp [sumG]
theorem sumG_split (xs : List α) (k : Nat) : sumG s (xs.take k) + sumG s (xs.drop k) = sumG s xs := by
  rw [← sumG_append, List.take_append_drop]
theorem sumG_le {t : α → Nat} {a b : Nat} (h : ∀ x, s x ≤ a + b * t x) : ∀ xs : List α, sumG s xs ≤ a * xs.length + b * sumG t xs
  | [] => by simp [sumG]
  | x :: l => by
    have h1 := h x
    have h2 := sumG_le h l
    rw [sumG_cons, sumG_cons, List.length_cons, Nat.mul_add, Nat.mul_add]
    omega
theorem sumG_at (hx : xs[k]? = some x) : sumG s (xs.take k) + s x ≤ sumG s xs := by
  have h1 := sumG_take (s := s) hx
  have h2 := sumG_split (s := s) xs (k + 1)
  omega
theorem marksG_len : ∀ (xs : List α) (k : Int), (marksG f s k xs).length = xs.length
  | [], _ => rfl
  | x :: l, k => by simp [marksG, marksG_len l]
theorem marksG_append : ∀ (l m : List α) (k : Int), marksG f s k (l ++ m) = marksG f s k l ++ marksG f s (k + (sumG s l : Int)) m
  | [], m, k => by simp [marksG, sumG]
  | x :: l, m, k => by
    rw [List.cons_append, marksG, marksG_append l m, marksG, List.cons_append, sumG_cons]
    congr 3
    omega
theorem marksG_get : ∀ {xs : List α} {j : Nat} {x : α} {k : Int}, xs[j]? = some x → (marksG f s k xs)[j]? = some (f (k + (sumG s (xs.take j) : Int)) x)
  | [], _, _, _, h => by simp at h
  | y :: l, 0, x, k, h => by
    simp only [List.getElem?_cons_zero, Option.some.injEq] at h
    subst h
    simp [marksG, sumG]
  | y :: l, j + 1, x, k, h => by
    rw [List.getElem?_cons_succ] at h
    rw [marksG, List.getElem?_cons_succ, marksG_get h, List.take_succ_cons, sumG_cons]
    congr 2
    omega
theorem mixG_get (hx : xs[k]? = some x) : (marksG f s k0 (xs.take k) ++ xs.drop k)[k]? = some x := by
  have hk := getElem?_lt hx
  have e : (marksG f s k0 (xs.take k)).length = k := by rw [marksG_len, List.length_take]; omega
  rw [List.getElem?_append_right (by omega), e, Nat.sub_self, List.getElem?_drop, Nat.add_zero]
  exact hx
theorem mixG_set (hx : xs[k]? = some x) : (marksG f s k0 (xs.take k) ++ xs.drop k).set k (f (k0 + (sumG s (xs.take k) : Int)) x) = marksG f s k0 (xs.take (k + 1)) ++ xs.drop (k + 1) := by
  have hk := getElem?_lt hx
  have e : (marksG f s k0 (xs.take k)).length = k := by rw [marksG_len, List.length_take]; omega
  rw [List.set_append, if_neg (by omega), e, Nat.sub_self, List.drop_eq_getElem_cons hk, List.set_cons_zero, List.take_add_one, hx, Option.toList_some, marksG_append, List.append_assoc]
  rfl
end

/-- the blocks of one element -/
theorem flat_part {sf : Nat → List Nat} {N : Nat} (h : (flat sf N).Nodup) {j : Nat} (hj : j < N) : (sf j).Nodup := by
  induction N with
  | zero => omega
  | succ N ih =>
    rw [flat_succ] at h
    obtain ⟨h1, h2, h3, h4⟩ := nodup_app h
    by_cases e : j = N
    · subst e; exact h2
    · exact ih h1 (by omega)

theorem set_same {β : Type} {ys : List β} {o : Nat} {u : β} (h : ys[o]? = some u) : ys.set o u = ys := by
  apply List.ext_getElem?
  intro i
  by_cases e : o = i
  · subst e
    rw [List.getElem?_set_self (getElem?_lt h), h]
  · rw [List.getElem?_set_ne e]

theorem setsL_get : ∀ (a ys : List Value) (o p : Nat), o + a.length ≤ p → (setsL ys o a)[p]? = ys[p]?
  | [], _, _, _, _ => rfl
  | u :: a, ys, o, p, h => by
    rw [List.length_cons] at h
    rw [setsL, setsL_get a _ (o + 1) p (by omega), List.getElem?_set_ne (by omega)]
theorem setsL_same : ∀ (b ys : List Value) (o : Nat), (∀ i u, b[i]? = some u → ys[o + i]? = some u) → setsL ys o b = ys
  | [], _, _, _ => rfl
  | u :: b, ys, o, h => by
    rw [setsL, set_same (o := o) (u := u) (h 0 u rfl)]
    exact setsL_same b ys (o + 1) fun i v hv => by
      have := h (i + 1) v hv
      rwa [show o + 1 + i = o + (i + 1) by omega]
/-- cells laid, of which the last are there already -/
theorem setsL_head : ∀ (a b ys : List Value) (o : Nat), (∀ i u, b[i]? = some u → ys[o + a.length + i]? = some u) → setsL ys o (a ++ b) = setsL ys o a
  | [], b, ys, o, h => setsL_same b ys o (by simpa using h)
  | x :: a, b, ys, o, h => by
    rw [List.cons_append, setsL, setsL]
    refine setsL_head a b _ (o + 1) fun i u hu => ?_
    have := h i u hu
    rw [List.length_cons] at this
    rw [List.getElem?_set_ne (by omega), show o + 1 + a.length + i = o + (a.length + 1) + i by omega]
    exact this

theorem rv_of {α : Type} {L : Lay α} {w : World} {B : Nat} {cs : List Value} {x : α} (h : L.rd w B cs x) (hB : B ≤ w.heap.size) : RV L w (valOf cs) x := ⟨cs, rfl, L.rd_more h hB⟩
theorem RV.drew_ {α : Type} {L : Lay α} {w : World} {v : Value} {x : α} (h : RV L w v x) : RV L w.drew v x := h.from_ (Below.refl _ _).drew

theorem cell_set {w w' : World} {p q : Addr} {u v : Value} (h : w.cell? p = some u) (e : w.setCell q v = w') (hne : p ≠ q) : w'.cell? p = some u := by
  rw [← e, World.cell?_setCell_other w q p v (Ne.symm hne)]; exact h

section
variable {α : Type} {L : Lay α} {n : Nat} {e : TypeId} {w : World} {xs : List α} {S : List Nat} {g c N : Nat}

/-- one element of several cells, with memory behind it: its cells, its blocks; and what lies behind when it is laid anew and its blocks are marked -/
theorem OwnL.elM (h : OwnL L e n w S (.slice (some ⟨g, 0, none⟩) N c) xs) (hn : S.Nodup) {j : Nat} {x : α} (hx : xs[j]? = some x) :
    ∃ cs T ys, cs.length = n ∧ N = xs.length ∧ w.ownsRow 0 e n (.slice (some ⟨g, 0, none⟩) N c) N ys ∧ (∀ i u, cs[i]? = some u → ys[j * n + i]? = some u ∧ w.cell? ⟨g, j * n + i, none⟩ = some u) ∧ L.own w T cs x ∧ T.Nodup ∧ (∀ k ∈ T, k ∈ S) ∧ g ∈ S ∧ g ∉ T ∧
      ∀ cs' w1 w' x', cs'.length = n → w1.ownsRow 0 e n (.slice (some ⟨g, 0, none⟩) N c) N (setsL ys (j * n) cs') → w.grownBy w1 (some g) → L.own w' T cs' x' → ChgS T w1 w' → OwnL L e n w' S (.slice (some ⟨g, 0, none⟩) N c) (xs.set j x') ∧ ChgS S w w' := by
  obtain ⟨cf, sf, ho, hel, rfl⟩ := h
  have hN : N = xs.length := by
    rcases ho.2 with ⟨h', _⟩ | ⟨g', cap, cur, hv, _⟩
    · simp at h'
    · simp only [Value.slice.injEq] at hv; exact hv.2.1
  subst hN
  have hj := getElem?_lt hx
  have hlen := OwnL.lens hel
  have hfl := flat_len (cf := cf) (N := xs.length) hlen
  obtain ⟨hn1, hn2, hn3, hn4⟩ := nodup_app hn
  obtain ⟨hc, hox⟩ := hel j x hx
  have hlt2 : j * n + n ≤ xs.length * n := by
    have h1 : (j + 1) * n ≤ xs.length * n := Nat.mul_le_mul_right n (by omega)
    rw [Nat.succ_mul] at h1; omega
  have hgS : g ∈ (Value.slice (some ⟨g, 0, none⟩) xs.length c).ownBlock.toList := by simp [Value.ownBlock]
  have hgT : g ∉ sf j := fun hm => hn3 g hgS (mem_flat.2 ⟨j, hj, hm⟩)
  refine ⟨cf j, sf j, _, hc, rfl, ho, fun i u hu => ?_, hox, ?_, fun k hk => List.mem_append.2 (.inr (mem_flat.2 ⟨j, hj, hk⟩)), List.mem_append.2 (.inl hgS), hgT, ?_⟩
  · have hi : i < n := by have := getElem?_lt hu; omega
    have h1 : (flat cf xs.length)[j * n + i]? = some u := by rw [flat_get hlen hj hi]; exact hu
    exact ⟨h1, by rw [World.ownsRow.cellAt ho _ (by omega)]; exact h1⟩
  · exact flat_part hn2 hj
  · intro cs' w1 w' x' hc' hrow hg hx' hch
    have hlg := (World.ownsRow.lt hrow g (by simp [Value.ownBlock])).2
    have hk : ∀ k, k < w.heap.size → k ≠ g → k ∉ sf j → w'.heap[k]? = w.heap[k]? := fun k hk h1 h2 =>
      (hch.block k (Nat.lt_of_lt_of_le hk hg.size) h2).trans (hg.block k hk (fun e => h1 (by simpa using e)))
    refine ⟨⟨upd cf j cs', sf, ?_, ?_, by rw [List.length_set]⟩, ⟨hch.os.trans hg.os, hch.tape.trans hg.tape, hch.output.trans hg.output, Nat.le_trans hg.size hch.size, fun k hk1 hne => hk k hk1 (fun e => hne (by rw [e]; exact List.mem_append.2 (.inl hgS))) (fun hm => hne (List.mem_append.2 (.inr (mem_flat.2 ⟨j, hj, hm⟩))))⟩⟩
    · rw [List.length_set, flat_upd hlen hj hc']
      rw [setsL_eq cs' _ _ (by rw [hfl, hc']; exact hlt2), hc'] at hrow
      exact ownsRow_keep hrow fun k hk => by
        obtain rfl : g = k := by simpa [Value.ownBlock] using hk
        exact hch.block _ hlg hgT
    · intro i y hy
      by_cases e1 : i = j
      · subst e1
        rw [List.getElem?_set_self hj] at hy
        obtain rfl : x' = y := by simpa using hy
        rw [upd_at]
        exact ⟨hc', hx'⟩
      · rw [List.getElem?_set_ne (Ne.symm e1)] at hy
        obtain ⟨h1, h2⟩ := hel i y hy
        rw [upd_ne e1]
        refine ⟨h1, L.own_keep h2 fun k hk' => hk k (L.own_lt h2 k hk') (fun e => ?_) (flat_apart hn2 (getElem?_lt hy) hj e1 k hk')⟩
        exact hn3 g hgS (mem_flat.2 ⟨i, getElem?_lt hy, by rw [← e]; exact hk'⟩)

/-- one element with memory behind it put into a slice of one's own: its cells laid one by one -/
theorem OV.putM {lo m hi j : Nat} {x : α} {cs : List Value} (h : OV (sliceL e n L) w lo m (.slice (some ⟨g, 0, none⟩) N c) xs) (hj : j < xs.length) (hc : cs.length = n) {T : List Nat}
    (hT : L.own w T cs x) (hTn : T.Nodup) (hTr : ∀ k ∈ T, m ≤ k ∧ k < hi) (hlm : lo ≤ m) (hmh : m ≤ hi) (hhi : hi ≤ w.heap.size) : OV (sliceL e n L) (setAll w g (j * n) cs) lo hi (.slice (some ⟨g, 0, none⟩) N c) (xs.set j x) ∧ w.grownBy (setAll w g (j * n) cs) (some g) ∧ lo ≤ g ∧ g < m := by
  have hN := h.len_
  subst hN
  obtain ⟨ys0, hy0, ho0, hgr⟩ := h.row
  have hgm := hgr g (by simp [Value.ownBlock])
  obtain ⟨-, hg⟩ := ownsRow_setAll cs _ (j * n) w ho0
  have hlt2 : j * n + n ≤ xs.length * n := by
    have h1 : (j + 1) * n ≤ xs.length * n := Nat.mul_le_mul_right n (by omega)
    rw [Nat.succ_mul] at h1; omega
  refine ⟨h.put hj hc (L.own_keep hT fun k hk => hg.block k (L.own_lt hT k hk) (fun e => ?_)) hTn hTr hlm hmh (Nat.le_trans hhi hg.size) (fun ys hl hrow => ?_) (fun k hk hne => hg.block k hk (fun e => hne (by rw [e]; simp [Value.ownBlock]))), hg, hgm.1, hgm.2⟩
  · obtain rfl : k = g := by simpa using e
    have := hTr k hk; omega
  · have := (ownsRow_setAll cs ys (j * n) w hrow).1
    rw [setsL_eq cs _ _ (by rw [hl, hc]; exact hlt2), hc] at this
    exact this
end

end Go.Proofs.Ytdoipabfmekdlaa
