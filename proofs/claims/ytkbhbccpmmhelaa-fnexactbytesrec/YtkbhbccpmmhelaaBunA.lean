/- Texts joined: Mem, Bytes, App, Law, Lay, Vars, NumMath, Bits, PutMath, GetNum, PutNum, Prims, Ints, LawInts, GetsMath, GetNums, Reader, RoundMath, Conv, SplitMath. -/
import Derived.WalkKit
import Derived.WalkSpells
import Derived.Deep.Draws
import Derived.Lib.Hide
import Derived.Test.YtkbhbccpmmhelaaProg
import Derived.Deep.QuietTactic
import Derived.BigQuiet
import Derived.Maps.AppendAt
import Derived.Laws.ResultCell
import Derived.Laws.Rows
import Derived.Laws.CopyRow
import Derived.Laws.BytesArg
import Derived.Laws.Strings
import Derived.WideShapes
import Derived.Laws.RangeAny

namespace Go.Proofs.Ytkbhbccpmmhelaa
open Go.RowKit

/-- The slice value with address A reads as the integers zs of kind k in world w; its block lies below B. -/
def Rd (k : IntKind) (w : World) (B : Nat) (A : Option Addr) (zs : List Int) : Prop :=
  0 < zs.length → ∃ b off, A = some ⟨b, off, none⟩ ∧ b < B ∧ ∀ j, j < zs.length → w.cell? ⟨b, off + j, none⟩ = some (.int k (zs.getD j 0))

/-- The value v is a row of the call's own (blocks from base on), holding the integers zs. -/
def Own (k : IntKind) (w : World) (base : Nat) (e : TypeId) (v : Value) (zs : List Int) : Prop :=
  w.ownsRow base e 1 v zs.length (zs.map (Value.int k))

section
variable {k : IntKind} {w w' : World} {B B' : Nat} {A : Option Addr} {zs : List Int}

theorem Rd.nil : Rd k w B A [] := fun h => absurd h (by simp)

theorem Rd.at_ (h : Rd k w B A zs) {j : Nat} (hj : j < zs.length) :
    ∃ b off, A = some ⟨b, off, none⟩ ∧ b < B ∧ w.cell? ⟨b, off + j, none⟩ = some (.int k (zs.getD j 0)) := by
  obtain ⟨b, off, rfl, hb, hc⟩ := h (by omega)
  exact ⟨b, off, rfl, hb, hc j hj⟩

theorem Rd.keep (h : Rd k w B A zs) (hk : ∀ p : Addr, p.block < B → w'.cell? p = w.cell? p) : Rd k w' B A zs := fun hn => by
  obtain ⟨b, off, rfl, hb, hc⟩ := h hn
  exact ⟨b, off, rfl, hb, fun j hj => (hk _ hb).trans (hc j hj)⟩

theorem Rd.more (h : Rd k w B A zs) (hB : B ≤ B') : Rd k w B' A zs := fun hn => by
  obtain ⟨b, off, rfl, hb, hc⟩ := h hn
  exact ⟨b, off, rfl, by omega, hc⟩

theorem Rd.below (h : Rd k w B A zs) (hb : Below B w w') : Rd k w' B A zs := h.keep fun _ hp => hb.cell hp
theorem Rd.drewN (h : Rd k w B A zs) (n : Nat) : Rd k (w.drewN n) B A zs := h

end

theorem bdrew {B : Nat} {a w : World} (h : Below B a w) (n : Nat) : Below B a (w.drewN n) := ⟨h.os, h.tape, h.output, h.size, h.block⟩

section
variable {k : IntKind} {w w' : World} {base : Nat} {e : TypeId} {v : Value} {zs : List Int}

theorem Own.form (h : Own k w base e v zs) : ∃ A c, v = .slice A zs.length c ∧ Rd k w w.heap.size A zs := by
  rcases h.2 with ⟨rfl, h0⟩ | ⟨g, cap, cur, rfl, hb, hh, hn, hm, hs, ht⟩
  · exact ⟨none, 0, by rw [h0], fun h => by omega⟩
  · refine ⟨some ⟨g, 0, none⟩, cap, rfl, fun hp => ⟨g, 0, rfl, ?_, fun j hj => ?_⟩⟩
    · rcases Nat.lt_or_ge g w.heap.size with hlt | hge
      · exact hlt
      · rw [Array.getElem?_eq_none hge] at hh; cases hh
    · have := World.ownsRow.cellAt h j (by omega)
      rw [Nat.zero_add, this]
      simp [hj]

theorem Own.rd {A : Option Addr} {n c : Nat} (h : Own k w base e (.slice A n c) zs) : Rd k w w.heap.size A zs := by
  obtain ⟨A', c', hv, hr⟩ := h.form
  simp only [Value.slice.injEq] at hv
  rw [hv.1]; exact hr

theorem Own.len {g n c : Nat} (h : Own k w base e (.slice (some ⟨g, 0, none⟩) n c) zs) : n = zs.length := by
  rcases h.2 with ⟨h', _⟩ | ⟨g', cap, cur, hv, _⟩
  · simp at h'
  · simp only [Value.slice.injEq] at hv; exact hv.2.1

theorem Own.cell_ {g n c : Nat} (h : Own k w base e (.slice (some ⟨g, 0, none⟩) n c) zs) {j : Nat} (hj : j < zs.length) :
    w.cell? ⟨g, j, none⟩ = some (.int k (zs.getD j 0)) := by
  obtain rfl := h.len
  rw [World.ownsRow.cellAt h j (by omega)]
  simp [hj]

theorem Own.frozen_ {g n c : Nat} (h : Own k w base e (.slice (some ⟨g, 0, none⟩) n c) zs) (j : Nat) : w.frozen? ⟨g, j, none⟩ = false := by
  obtain rfl := h.len
  exact World.ownsRow.frozenAt h j

theorem Own.set_ {g n c : Nat} (h : Own k w base e (.slice (some ⟨g, 0, none⟩) n c) zs) (j : Nat) (x : Int) :
    Own k (w.setCell ⟨g, j, none⟩ (.int k x)) base e (.slice (some ⟨g, 0, none⟩) n c) (zs.set j x) := by
  obtain rfl := h.len
  have := (World.ownsRow.stored h j (.int k x)).1
  unfold Own
  rw [List.map_set, List.length_set]
  exact this

theorem Own.base_le {g n c : Nat} (h : Own k w base e (.slice (some ⟨g, 0, none⟩) n c) zs) : base ≤ g ∧ g < w.heap.size :=
  World.ownsRow.lt h g rfl

theorem Own.drewN (h : Own k w base e v zs) (n : Nat) : Own k (w.drewN n) base e v zs := h

/-- what is owned below B stays owned where all below B is kept -/
theorem Own.below {B : Nat} (h : Own k w base e v zs) (hb : Below B w w') (hB : w.heap.size ≤ B) : Own k w' base e v zs := by
  refine ⟨h.1, ?_⟩
  rcases h.2 with h2 | ⟨g, cap, cur, hv, hg, hh, r⟩
  · exact .inl h2
  · refine .inr ⟨g, cap, cur, hv, hg, ?_, r⟩
    have hlt : g < w.heap.size := by
      rcases Nat.lt_or_ge g w.heap.size with hlt | hge
      · exact hlt
      · rw [Array.getElem?_eq_none hge] at hh; cases hh
    rw [hb.block g (by omega)]; exact hh

end

/-- A slice of integers that came in: nil, or a row of cells; zs are all its numbers up to the capacity. -/
def IsRow (k : IntKind) (w : World) (a : Option Addr) (len cap : Nat) (zs : List Int) : Prop :=
  (a = none ∧ len = 0 ∧ cap = 0 ∧ zs = []) ∨
  ∃ x, a = some x ∧ len ≤ cap ∧ cap ≤ maxLen ∧ zs.length = cap ∧ (∀ i, i < zs.length → w.cell? (x.add i) = some (.int k (zs.getD i 0))) ∧ ∀ n ∈ zs, (Lit.int k n).wf = true

theorem lt_of_cell {w : World} {p : Addr} {v : Value} (h : w.cell? p = some v) : p.block < w.heap.size := by
  rcases Nat.lt_or_ge p.block w.heap.size with hlt | hge
  · exact hlt
  · have : w.heap[p.block]? = none := Array.getElem?_eq_none hge
    simp [World.cell?, this] at h

theorem rd_of_row {k : IntKind} {w : World} {a : Option Addr} {len cap : Nat} {zs : List Int} (h : IsRow k w a len cap zs) :
    Rd k w w.heap.size a (zs.take len) ∧ (zs.take len).length = len ∧ len ≤ maxLen ∧ ∀ n ∈ zs.take len, (Lit.int k n).wf = true := by
  rcases h with ⟨rfl, rfl, rfl, rfl⟩ | ⟨x, rfl, hl, hm, hz, hcell, hwz⟩
  · exact ⟨Rd.nil, rfl, Nat.zero_le _, fun n hn => by simp at hn⟩
  · have hlen : (zs.take len).length = len := by rw [List.length_take]; omega
    refine ⟨fun h0 => ?_, hlen, by omega, fun n hn => hwz n (List.mem_of_mem_take hn)⟩
    obtain ⟨b, off, spot⟩ := x
    have hspot : spot = none := by simpa [Addr.add] using World.cell?_spot (hcell 0 (by omega))
    subst hspot
    refine ⟨b, off, rfl, ?_, fun j hj => ?_⟩
    · have := lt_of_cell (hcell 0 (by omega))
      simpa [Addr.add] using this
    · have hj2 : j < len := by omega
      have := hcell j (by omega)
      rw [show (Addr.mk b off none).add j = ⟨b, off + j, none⟩ by unfold Addr.add; split <;> simp_all] at this
      rw [this, List.getD_eq_getElem?_getD, List.getD_eq_getElem?_getD, List.getElem?_take, if_pos hj2]

theorem drewN_two (w : World) (n m : Nat) : (w.drewN n).drewN m = w.drewN (n + m) := by
  simp only [World.drewN, Nat.add_assoc]

theorem grownBy_set {w w' : World} {g : Nat} (h : w.grownBy w' (some g)) (j : Nat) (u : Value) : w.grownBy (w'.setCell ⟨g, j, none⟩ u) (some g) :=
  ⟨h.os, h.tape, h.output, by have := h.size; simpa [World.setCell] using this, fun i hi hne => (Below.heap_setCell w' ⟨g, j, none⟩ u i (fun e => hne (by simp [e]))).trans (h.block i hi hne)⟩

theorem getD_set_of (zs : List Int) (k j : Nat) (x : Int) : (zs.set k x).getD j 0 = if k = j ∧ k < zs.length then x else zs.getD j 0 := by
  simp only [List.getD_eq_getElem?_getD, List.getElem?_set]
  by_cases h : k = j
  · subst h
    by_cases hl : k < zs.length <;> simp [hl]
  · simp [h]

/-- a list filled from the left: the first k of zs, then zeros -/
theorem fill_step (zs : List Int) (k : Nat) (h : k < zs.length) :
    (zs.take k ++ List.replicate (zs.length - k) 0).set k (zs.getD k 0) = zs.take (k + 1) ++ List.replicate (zs.length - (k + 1)) 0 := by
  have e1 : (zs.take k).length = k := by simp; omega
  obtain ⟨m, hm⟩ : ∃ m, zs.length = k + 1 + m := ⟨zs.length - (k + 1), by omega⟩
  have e2 : zs.length - k = m + 1 := by omega
  have e3 : zs.length - (k + 1) = m := by omega
  have e4 : zs.take (k + 1) = zs.take k ++ [zs.getD k 0] := by
    rw [List.take_succ_eq_append_getElem h]
    simp [h]
  rw [e2, e3, e4, List.set_append, if_neg (by omega), e1, Nat.sub_self, List.replicate_succ, List.set_cons_zero, List.append_assoc]
  rfl

end Go.Proofs.Ytkbhbccpmmhelaa

namespace Go.Proofs.Ytkbhbccpmmhelaa
open Go.RowKit

theorem Try.info_u8 : (Try.prog.info? 5).map (fun i => (i.zero, i.size, i.bytes)) = some (some (.int .u8 0), 1, 1) := by kernel_rfl

set_option maxHeartbeats 400000 in
theorem toByteS_any (A : Option Addr) (c : Nat) (zs : List Int) (w : World) (hr : Rd .u8 w w.heap.size A zs) (hm : zs.length ≤ 16777216) :
    Calls Try.prog 16 #[.slice A zs.length c] w fun e w' => e = .returned (.slice (some ⟨w.heap.size, 0, none⟩) zs.length zs.length) ∧
      Own .u8 w' w.heap.size 5 (.slice (some ⟨w.heap.size, 0, none⟩) zs.length zs.length) zs ∧ Below w.heap.size w w' := by
  obtain ⟨i0, hi, hz0, hz1, hz2⟩ := info_parts Try.info_u8
  go_enter Try.func16, Try.ntmps16
  go_wp2_with (at_make; refine wpList_make_full _ rfl _ _ 32 rfl w.heap.size 5 i0 (.int .u8 0) 1 Try.underlying32 hi hz0 hz1 .i64 .i64 _ _ zs.length rfl rfl rfl rfl ?c1 ?c2 ?c3 ?_)
  case c1 => rw [hz2]; omega
  case c2 => unfold maxLen; omega
  case c3 => exact Nat.le_refl _
  intro w1 hown1 hg1
  have hb1 : Below w.heap.size w w1 := (Below.refl _ _).grown hg1 (Nat.le_refl _) (by intro k hk; cases hk)
  have ho1 : Own .u8 w1 w.heap.size 5 (.slice (some ⟨w.heap.size, 0, none⟩) zs.length zs.length) (zs.take 0 ++ List.replicate (zs.length - 0) 0) := by
    unfold Own
    simpa [toList_madeCells_one, Value.cells] using hown1
  clear hown1 hg1
  go_wp2
  go_loopw [4] (fun i wr => ∃ k : Nat, k ≤ zs.length ∧ i = .int .i64 k ∧ Own .u8 wr w.heap.size 5 (.slice (some ⟨w.heap.size, 0, none⟩) zs.length zs.length) (zs.take k ++ List.replicate (zs.length - k) 0) ∧ Below w.heap.size w wr) (fun i _ => zs.length - (intOf i).toNat)
  case atStart => exact ⟨0, Nat.zero_le _, rfl, ho1, hb1⟩
  case round =>
    obtain ⟨k, hk, rfl, hown, hbr⟩ := hrel
    by_cases hlt : k < zs.length
    · obtain ⟨b, off, rfl, hb, hc⟩ := (hr.below hbr).at_ hlt
      have hl : (zs.take k ++ List.replicate (zs.length - k) 0).length = zs.length := by simp; omega
      have hc2 := hown.cell_ (j := k) (by omega)
      have hf2 := hown.frozen_ k
      have R := hown.set_ k (zs.getD k 0)
      rw [fill_step zs k hlt] at R
      have hb2 : Below w.heap.size w (wr.setCell ⟨w.heap.size, k, none⟩ (.int .u8 (zs.getD k 0))) := hbr.setCell (Nat.le_refl _) _
      have HR := Lib.hid R
      clear R hl hown
      go_wp2
      go_roundw
      case rel => exact ⟨k + 1, by omega, by go_num, by simpa [hlt] using HR.out, by simpa [hlt] using hb2⟩
      case measure => simp [intOf]; omega
    · have hk2 : k = zs.length := by omega
      subst hk2
      go_wp2
      go_ret
      exact ⟨rfl, by simpa using hown, hbr⟩

/-- what a reading call that answers a bool leaves: draws at most -/
def SaysB (w : World) (b : Bool) (e : Ending) (w' : World) : Prop := e = .returned (.bool b) ∧ ∃ n, w' = w.drewN n

theorem ne_of_getD {xs ys : List Int} {k : Nat} (h : xs.getD k 0 ≠ ys.getD k 0) : xs ≠ ys := fun e => h (by rw [e])
theorem take_succ_eq {xs ys : List Int} {k : Nat} (h : xs.take k = ys.take k) (hx : k < xs.length) (hy : k < ys.length) (hk : xs.getD k 0 = ys.getD k 0) : xs.take (k + 1) = ys.take (k + 1) := by
  rw [List.take_succ_eq_append_getElem hx, List.take_succ_eq_append_getElem hy, h]
  simp [hx, hy] at hk
  rw [hk]

set_option maxHeartbeats 400000 in
theorem eqByteS_any (A A' : Option Addr) (c c' : Nat) (xs ys : List Int) (w : World) (B : Nat) (hx : Rd .u8 w B A xs) (hy : Rd .u8 w B A' ys) (hm : xs.length ≤ 1073741824) :
    Calls Try.prog 12 #[.slice A xs.length c, .slice A' ys.length c'] w (SaysB w (decide (xs = ys))) := by
  by_cases hl : xs.length = ys.length
  · have hl' : ((xs.length : Int) != (ys.length : Int)) = false := by simp [hl]
    have HL := Lib.hid hl
    clear hl
    go_enter Try.func12, Try.ntmps12
    go_wp2
    go_loopw [5] (fun i wr => ∃ k n : Nat, k ≤ xs.length ∧ i = .int .i64 k ∧ xs.take k = ys.take k ∧ wr = w.drewN n) (fun i _ => xs.length - (intOf i).toNat)
    case atStart => exact ⟨0, 0, Nat.zero_le _, rfl, rfl, rfl⟩
    case round =>
      obtain ⟨k, n, hk, rfl, htk, rfl⟩ := hrel
      have HT := Lib.hid htk
      clear htk
      by_cases hlt : k < xs.length
      · have hlt' : k < ys.length := by have := HL.out; omega
        obtain ⟨b, off, rfl, hb, hc⟩ := hx.at_ hlt
        obtain ⟨b', off', rfl, hb', hc'⟩ := hy.at_ hlt'
        obtain ⟨x, hxe⟩ : ∃ x, x = xs.getD k 0 := ⟨_, rfl⟩
        obtain ⟨y, hye⟩ : ∃ y, y = ys.getD k 0 := ⟨_, rfl⟩
        rw [← hxe] at hc
        rw [← hye] at hc'
        have HX := Lib.hid hxe
        have HY := Lib.hid hye
        clear hxe hye
        have i1 : (k : Int) < (xs.length : Int) := by omega
        have i2 : (k : Int) < (ys.length : Int) := by omega
        by_cases hxy : x = y
        · subst hxy
          go_wp2
          go_quiet (fail)
          go_wp2
          go_roundw
          case rel => exact ⟨k + 1, _, by omega, by go_num, take_succ_eq HT.out hlt hlt' (HX.out.symm.trans HY.out), rfl⟩
          case measure => simp [intOf]; omega
        · have hne : (x != y) = true := by simp [hxy]
          go_wp2
          go_quiet (fail)
          go_wp2
          go_ret
          have hd : decide (xs = ys) = false := by
            simp only [decide_eq_false_iff_not]
            exact ne_of_getD (k := k) (by rw [← HX.out, ← HY.out]; exact hxy)
          exact ⟨by rw [hd]; rfl, n + nq, drewN_two _ _ _⟩
      · have hk2 : k = xs.length := by omega
        subst hk2
        have : xs = ys := by
          have h := HT.out
          rw [List.take_of_length_le (Nat.le_refl _), List.take_of_length_le (by rw [HL.out]; exact Nat.le_refl _)] at h
          exact h
        go_wp2
        go_ret
        exact ⟨by simp [this], _, rfl⟩
  · have hl' : ((xs.length : Int) != (ys.length : Int)) = true := by simp; omega
    have hne : decide (xs = ys) = false := by
      simp; intro e; exact hl (by rw [e])
    rw [hne]
    go_enter Try.func12, Try.ntmps12
    go_wp2
    go_ret
    exact ⟨rfl, 0, rfl⟩

theorem below_of_drew (B : Nat) (w : World) (n : Nat) : Below B w (w.drewN n) := bdrew (Below.refl B w) n

theorem eqByteS_b (A A' : Option Addr) (c c' : Nat) (xs ys : List Int) (w : World) (B : Nat) (hx : Rd .u8 w B A xs) (hy : Rd .u8 w B A' ys) (hm : xs.length ≤ 1073741824) :
    Calls Try.prog 12 #[.slice A xs.length c, .slice A' ys.length c'] w fun e w' => e = .returned (.bool (decide (xs = ys))) ∧ Below w.heap.size w w' :=
  (eqByteS_any A A' c c' xs ys w B hx hy hm).mono fun e w' ⟨he, n, hw⟩ => ⟨he, by rw [hw]; exact below_of_drew _ w n⟩

/-- the bytes that a marking from k on lays into n places -/
def marks (k : Int) (n : Nat) : List Int := (List.range n).map fun i : Nat => (k + (i : Int)) % 256

theorem marks_len (k : Int) (n : Nat) : (marks k n).length = n := by simp [marks]
theorem marks_getD (k : Int) (n j : Nat) (h : j < n) : (marks k n).getD j 0 = (k + (j : Int)) % 256 := by simp [marks, h]

theorem mark_step (zs : List Int) (k0 : Int) (k : Nat) (h : k < zs.length) :
    (marks k0 k ++ zs.drop k).set k ((k0 + (k : Int)) % 256) = marks k0 (k + 1) ++ zs.drop (k + 1) := by
  have e1 := marks_len k0 k
  rw [List.set_append, if_neg (by omega), e1, Nat.sub_self, List.drop_eq_getElem_cons h, List.set_cons_zero]
  simp [marks, List.range_succ]

/-- what a marking call leaves: the row holds the marks, no other block has turned -/
def Marked (w : World) (base : Nat) (v : Value) (k : Int) (zs : List Int) (e : Ending) (w' : World) : Prop :=
  e = .returned (.int .i64 (k + (zs.length : Int))) ∧ Own .u8 w' base 5 v (marks k zs.length) ∧ w.grownBy w' v.ownBlock

set_option maxHeartbeats 400000 in
theorem markByteS_own (g c base : Nat) (zs : List Int) (k0 : Int) (w : World) (ho : Own .u8 w base 5 (.slice (some ⟨g, 0, none⟩) zs.length c) zs) (hm : zs.length ≤ 1073741824) (hk0 : 0 ≤ k0) (hk1 : k0 ≤ 1099511627776) :
    Calls Try.prog 13 #[.slice (some ⟨g, 0, none⟩) zs.length c, .int .i64 k0] w (Marked w base (.slice (some ⟨g, 0, none⟩) zs.length c) k0 zs) := by
  go_enter Try.func13, Try.ntmps13
  go_wp2
  go_loopw [1, 5] (fun q i wr => ∃ k : Nat, k ≤ zs.length ∧ i = .int .i64 k ∧ q = .int .i64 (k0 + k) ∧ Own .u8 wr base 5 (.slice (some ⟨g, 0, none⟩) zs.length c) (marks k0 k ++ zs.drop k) ∧ w.grownBy wr (some g)) (fun _ i _ => zs.length - (intOf i).toNat)
  case atStart => exact ⟨0, Nat.zero_le _, rfl, by simp, by simpa [marks] using ho, World.grownBy.refl w _⟩
  case round =>
    obtain ⟨k, hk, rfl, rfl, hown, hgr⟩ := hrel
    by_cases hlt : k < zs.length
    · have hc2 := hown.cell_ (j := k) (by rw [List.length_append, marks_len, List.length_drop]; omega)
      have hf2 := hown.frozen_ k
      have R := hown.set_ k ((k0 + (k : Int)) % 256)
      rw [mark_step zs k0 k hlt] at R
      have HR := Lib.hid R
      clear R hown
      go_wp2
      go_roundw
      case rel => exact ⟨k + 1, by omega, by go_num, by go_num, HR.out, grownBy_set hgr _ _⟩
      case measure => simp [intOf]; omega
    · have hk2 : k = zs.length := by omega
      subst hk2
      go_wp2
      go_ret
      exact ⟨rfl, by simpa using hown, hgr⟩

set_option maxHeartbeats 400000 in
theorem markByteS_nil (A : Option Addr) (c base : Nat) (k0 : Int) (w : World) (ho : Own .u8 w base 5 (.slice A 0 c) []) :
    Calls Try.prog 13 #[.slice A 0 c, .int .i64 k0] w (Marked w base (.slice A 0 c) k0 []) := by
  go_enter Try.func13, Try.ntmps13
  go_wp2
  refine wp_loop_rounds 1 ?_
  rw [rounds_succ]
  go_wp2
  go_ret
  exact ⟨by simp, ho, World.grownBy.refl w _⟩

theorem markByteS_any (v : Value) (base : Nat) (zs : List Int) (k0 : Int) (w : World) (ho : Own .u8 w base 5 v zs) (hm : zs.length ≤ 1073741824) (hk0 : 0 ≤ k0) (hk1 : k0 ≤ 1099511627776) :
    Calls Try.prog 13 #[v, .int .i64 k0] w (Marked w base v k0 zs) := by
  rcases ho.2 with ⟨rfl, h0⟩ | ⟨g, cap, cur, rfl, _⟩
  · obtain rfl : zs = [] := List.eq_nil_of_length_eq_zero h0
    exact markByteS_nil none 0 base k0 w ho
  · exact markByteS_own g cap base zs k0 w ho hm hk0 hk1

set_option maxHeartbeats 400000 in
/-- a row that holds the marks is held -/
theorem heldByteS_any (A : Option Addr) (c B n : Nat) (k0 : Int) (w : World) (hr : Rd .u8 w B A (marks k0 n)) (hm : n ≤ 1073741824) (hk0 : 0 ≤ k0) (hk1 : k0 ≤ 1099511627776) :
    Calls Try.prog 14 #[.slice A n c, .int .i64 k0] w fun e w' => e = .returned (.int .i64 (k0 + n)) ∧ w = w' := by
  go_enter Try.func14, Try.ntmps14
  go_wp2
  go_loop [1, 5] (fun q i => ∃ k : Nat, k ≤ n ∧ i = .int .i64 k ∧ q = .int .i64 (k0 + k)) (fun _ i => n - (intOf i).toNat)
  case atStart => exact ⟨0, Nat.zero_le _, rfl, by simp⟩
  case round =>
    obtain ⟨k, hk, rfl, rfl⟩ := hrel
    by_cases hlt : k < n
    · obtain ⟨b, off, rfl, hb, hc⟩ := hr.at_ (j := k) (by rw [marks_len]; exact hlt)
      rw [marks_getD k0 n k hlt] at hc
      have i1 : (k : Int) < (n : Int) := by omega
      go_wp2
      go_round
      case rel => exact ⟨k + 1, by omega, by go_num, by go_num⟩
      case measure => simp [intOf]; omega
    · have hk2 : k = n := by omega
      subst hk2
      go_wp2
      go_ret
      exact ⟨rfl, rfl⟩

end Go.Proofs.Ytkbhbccpmmhelaa

namespace Go.Proofs.Ytkbhbccpmmhelaa
open Go.RowKit
set_option linter.unusedVariables false

/-- The slice value with address A reads as the one-cell values xs. -/
def RdV (w : World) (B : Nat) (A : Option Addr) (xs : List Value) : Prop :=
  0 < xs.length → ∃ b off, A = some ⟨b, off, none⟩ ∧ b < B ∧ ∀ j u, xs[j]? = some u → w.cell? ⟨b, off + j, none⟩ = some u

theorem Rd.toV {k : IntKind} {w : World} {B : Nat} {A : Option Addr} {zs : List Int} (h : Rd k w B A zs) : RdV w B A (zs.map (Value.int k)) := fun hp => by
  obtain ⟨b, off, rfl, hb, hc⟩ := h (by simpa using hp)
  refine ⟨b, off, rfl, hb, fun j u hu => ?_⟩
  have hj : j < zs.length := by
    rcases Nat.lt_or_ge j zs.length with h | h
    · exact h
    · rw [List.getElem?_eq_none (by simpa using h)] at hu; cases hu
  rw [hc j hj]
  simp [hj] at hu
  simp [hj, hu]

theorem add_mk (b off j : Nat) : (Addr.mk b off none).add j = ⟨b, off + j, none⟩ := by unfold Addr.add; split <;> simp_all

section
variable {P : Program} (w : World)

theorem run_app_nothing (base : Nat) (t ty e : TypeId) (i : TypeInfo) (ht : P.underlying t = some (.slice e)) (hi : P.info? e = some i)
    (v : Value) (n : Nat) (xs : List Value) (hown : w.ownsRow base e 1 v n xs) (c : Nat) : (Builtin.append_ #[t, t] ty #[v, .slice none 0 c]).run P w = .ok v w := by
  rcases hown.2 with ⟨rfl, rfl⟩ | ⟨g, cap, cur, rfl, _, _, hnc, _⟩
  · simp [Builtin.append_, run_underlying ht, sizeOf, typeInfo, hi, Builtin.lenOf, Builtin.firstCells]
  · simp [Builtin.append_, run_underlying ht, sizeOf, typeInfo, hi, Builtin.lenOf, Builtin.firstCells, hnc, storeCells]

theorem run_app (base : Nat) (t ty e : TypeId) (i : TypeInfo) (z : Value) (bytes : Nat) (ht : P.underlying t = some (.slice e)) (hi : P.info? e = some i) (hz : i.zero = some z)
    (hsize : i.size = 1) (hby : i.bytes = bytes) (hzs : z.cells.size = 1) (v : Value) (n : Nat) (xs : List Value) (hown : w.ownsRow base e 1 v n xs)
    (B : Nat) (A : Option Addr) (c : Nat) (ys : List Value) (hr : RdV w B A ys) (h1 : ∀ u ∈ ys, u.oneCell' = true)
    (hmax : n + ys.length ≤ 1099511627776) (hbyt : bytes ≤ 64) (hbase : base ≤ w.heap.size) :
    ∃ v' w', (Builtin.append_ #[t, t] ty #[v, .slice A ys.length c]).run P w = .ok v' w' ∧ w'.ownsRow base e 1 v' (n + ys.length) (xs ++ ys) ∧ w.grownBy w' v.ownBlock ∧
      (v'.ownBlock = v.ownBlock ∨ v'.ownBlock = some w.heap.size) := by
  rcases A with _ | a
  · have h0 : ys = [] := by
      rcases Nat.eq_zero_or_pos ys.length with h | h
      · exact List.eq_nil_of_length_eq_zero h
      · obtain ⟨b, off, h', _⟩ := hr h; cases h'
    subst h0
    exact ⟨v, w, run_app_nothing w base t ty e i ht hi v n xs hown c, by simpa using hown, World.grownBy.refl w _, .inl rfl⟩
  · have hcells : ∀ j u, ys[j]? = some u → w.cell? (a.add j) = some u := by
      intro j u hu
      have hp : 0 < ys.length := by
        rcases Nat.eq_zero_or_pos ys.length with h | h
        · rw [List.eq_nil_of_length_eq_zero h] at hu; simp at hu
        · exact h
      obtain ⟨b, off, h', _, hc⟩ := hr hp
      simp only [Option.some.injEq] at h'
      subst h'
      rw [add_mk]; exact hc j u hu
    have hb2 : (n + ys.length) * bytes ≤ 1099511627776 * 64 := Nat.mul_le_mul hmax hbyt
    obtain ⟨v', w', hrun, h2, h3, _, h5⟩ := run_append_own_at (P := P) w base t ty e i z 1 bytes ht hi hz hsize hby hzs (by omega) v n xs hown a ys.length c ys (by omega) hcells h1 (by unfold maxLen; omega) (by omega) hbase
    exact ⟨v', w', hrun, h2, h3, h5⟩

/-- THE LAW at the walk's next operation. -/
theorem wpl_app {ops : Array Oper} {rest : List Oper} {o : Oper} {a : Act} {Q : Exit → Act → World → Prop} (hgd : o.guard = none) (s x : Operand) (t : TypeId)
    (ho : o.op = .call { callee := .builtin .append, args := #[s, x], argTypes := #[t, t] })
    (base : Nat) (e : TypeId) (i : TypeInfo) (z : Value) (bytes : Nat) (ht : P.underlying t = some (.slice e)) (hi : P.info? e = some i) (hz : i.zero = some z)
    (hsize : i.size = 1) (hby : i.bytes = bytes) (hzs : z.cells.size = 1) (v : Value) (n : Nat) (xs : List Value) (hs : a.eval s = v) (hown : w.ownsRow base e 1 v n xs)
    (B : Nat) (A : Option Addr) (c m : Nat) (ys : List Value) (hx : a.eval x = .slice A m c) (hm : ys.length = m) (hr : RdV w B A ys) (h1 : ∀ u ∈ ys, u.oneCell' = true)
    (hmax : n + m ≤ 1099511627776) (hbyt : bytes ≤ 64) (hbase : base ≤ w.heap.size)
    (h : ∀ v' w', w'.ownsRow base e 1 v' (n + ys.length) (xs ++ ys) → w.grownBy w' v.ownBlock → (v'.ownBlock = v.ownBlock ∨ v'.ownBlock = some w.heap.size) → wpList P ops Q rest (a.put o.dst v') w') :
    wpList P ops Q (o :: rest) a w := by
  subst hm
  refine wpList_plain hgd fun K hK => ?_
  obtain ⟨v', w', hrun, h2, h3, h4⟩ := run_app (P := P) w base t o.type e i z bytes ht hi hz hsize hby hzs v n xs hown B A c ys hr h1 hmax hbyt hbase
  unfold Oper.wp execOp
  simp only [ho, resolve, invoke, builtin, Sem.run_bind, Sem.run_pure, Result.andThen_ok, List.map_toArray, List.map_cons, List.map_nil, hs, hx, hrun]
  exact hK _ _ (h v' w' h2 h3 h4)

/-- the same, of integers -/
theorem wpl_appI {ops : Array Oper} {rest : List Oper} {o : Oper} {a : Act} {Q : Exit → Act → World → Prop} (k : IntKind) (hgd : o.guard = none) (s x : Operand) (t : TypeId)
    (ho : o.op = .call { callee := .builtin .append, args := #[s, x], argTypes := #[t, t] })
    (base : Nat) (e : TypeId) (i : TypeInfo) (bytes : Nat) (ht : P.underlying t = some (.slice e)) (hi : P.info? e = some i) (hz : i.zero = some (.int k 0))
    (hsize : i.size = 1) (hby : i.bytes = bytes) (v : Value) (xs : List Int) (hs : a.eval s = v) (hown : Own k w base e v xs)
    (B : Nat) (A : Option Addr) (c m : Nat) (ys : List Int) (hx : a.eval x = .slice A m c) (hm : ys.length = m) (hr : Rd k w B A ys)
    (hmax : xs.length + m ≤ 1099511627776) (hbyt : bytes ≤ 64) (hbase : base ≤ w.heap.size)
    (h : ∀ v' w', Own k w' base e v' (xs ++ ys) → w.grownBy w' v.ownBlock → (v'.ownBlock = v.ownBlock ∨ v'.ownBlock = some w.heap.size) → wpList P ops Q rest (a.put o.dst v') w') :
    wpList P ops Q (o :: rest) a w :=
  wpl_app w hgd s x t ho base e i (.int k 0) bytes ht hi hz hsize hby rfl v xs.length (xs.map (Value.int k)) hs hown B A c m (ys.map (Value.int k)) hx (by simpa using hm) hr.toV
    (fun u hu => by obtain ⟨n, _, rfl⟩ := List.mem_map.1 hu; rfl) hmax hbyt hbase
    (fun v' w' h2 h3 h4 => h v' w' (by unfold Own; rw [List.length_append, List.map_append]; simpa using h2) h3 h4)

end

/-- a block of one cell that the walk has just laid -/
theorem rd_one (k : IntKind) (w : World) (t : TypeId) (x : Int) : Rd k (w.alloc (.cells #[.int k x] t)) (w.heap.size + 1) (some ⟨w.heap.size, 0, none⟩) [x] := fun _ =>
  ⟨w.heap.size, 0, rfl, by omega, fun j hj => by
    have : j = 0 := by simp at hj; omega
    subst this
    have := heap_alloc_new w (.cells #[.int k x] t)
    rw [cell_of_row _ w.heap.size (0 + 0) #[.int k x] t (0, 0) this]
    simp⟩

theorem own_none (k : IntKind) (w : World) (base : Nat) (e : TypeId) (hb : base ≤ w.heap.size) : Own k (w.alloc (.cells #[] e)) base e (.slice (some ⟨w.heap.size, 0, none⟩) 0 0) [] := by
  have := World.ownsRow_lit (base := base) (e := e) (size := 1) w #[] 0 hb (by unfold maxLen; omega) (by simp)
  simpa [Own] using this

theorem own_one (k : IntKind) (w : World) (base : Nat) (e : TypeId) (x : Int) (hb : base ≤ w.heap.size) : Own k (w.alloc (.cells #[.int k x] e)) base e (.slice (some ⟨w.heap.size, 0, none⟩) 1 1) [x] := by
  have := World.ownsRow_lit (base := base) (e := e) (size := 1) w #[.int k x] 1 hb (by unfold maxLen; omega) (by simp)
  simpa [Own] using this

theorem Own.alloc_ {k : IntKind} {w : World} {base : Nat} {e : TypeId} {v : Value} {zs : List Int} (h : Own k w base e v zs) (o : Obj) : Own k (w.alloc o) base e v zs := World.ownsRow.alloc h o

theorem Own.base_mono {k : IntKind} {w : World} {base base' : Nat} {e : TypeId} {v : Value} {zs : List Int} (h : Own k w base e v zs) (hb : base' ≤ base) : Own k w base' e v zs := by
  refine ⟨h.1, ?_⟩
  rcases h.2 with h2 | ⟨g, cap, cur, hv, hg, r⟩
  · exact .inl h2
  · exact .inr ⟨g, cap, cur, hv, by omega, r⟩

/-- what a step that grows a row of the call's own leaves below B -/
theorem grown_below {B : Nat} {a w w' : World} {v : Value} {k : IntKind} {base : Nat} {e : TypeId} {zs : List Int} (h : Below B a w) (ho : Own k w base e v zs) (hg : w.grownBy w' v.ownBlock) (hB : B ≤ base) (hB2 : B ≤ w.heap.size) : Below B a w' :=
  h.grown hg hB2 (fun k hk => by have := (World.ownsRow.lt ho k hk).1; omega)

theorem Own.kept_ {k : IntKind} {w w' : World} {base : Nat} {e : TypeId} {v : Value} {zs : List Int} {row : Option Nat} (h : Own k w base e v zs) (hg : w.grownBy w' row) (hne : ∀ j, v.ownBlock = some j → row ≠ some j) : Own k w' base e v zs :=
  World.ownsRow.kept h hg (by
    rcases hv : v.ownBlock with _ | j
    · exact .inl rfl
    · exact .inr (fun e => hne j hv e.symm))

theorem Own.at_ {k : IntKind} {w : World} {base : Nat} {e : TypeId} {v : Value} {zs : List Int} (h : Own k w base e v zs) : ∀ j, v.ownBlock = some j → base ≤ j ∧ j < w.heap.size := World.ownsRow.lt h

end Go.Proofs.Ytkbhbccpmmhelaa

namespace Go.Proofs.Ytkbhbccpmmhelaa
open Go.RowKit
set_option linter.unusedVariables false

/-- the value v is a slice that reads as the integers zs -/
def RS (k : IntKind) (w : World) (v : Value) (zs : List Int) : Prop :=
  ∃ A c, v = .slice A zs.length c ∧ zs.length ≤ c ∧ c ≤ maxLen ∧ Rd k w w.heap.size A zs

/-- the value v is a row of integers zs, in a block of its own from lo on and below hi -/
def OS (k : IntKind) (e : TypeId) (w : World) (lo hi : Nat) (v : Value) (zs : List Int) : Prop :=
  Own k w lo e v zs ∧ (∀ j, v.ownBlock = some j → j < hi) ∧ hi ≤ w.heap.size

/-- w' is w but for the blocks from a on and below b, and for new ones -/
structure Chg (a b : Nat) (w w' : World) : Prop where
  os : w'.os = w.os
  tape : w'.tape = w.tape
  output : w'.output = w.output
  size : w.heap.size ≤ w'.heap.size
  block : ∀ k, k < w.heap.size → (k < a ∨ b ≤ k) → w'.heap[k]? = w.heap[k]?

theorem Chg.below {a b B : Nat} {w w' : World} (h : Chg a b w w') (hB : B ≤ a) (hB2 : B ≤ w.heap.size) : Below B w w' :=
  ⟨h.os, h.tape, h.output, h.size, fun k hk => h.block k (by omega) (.inl (by omega))⟩

theorem Chg.of_grown {a b : Nat} {w w' : World} {row : Option Nat} (h : w.grownBy w' row) (hr : ∀ j, row = some j → a ≤ j ∧ j < b) : Chg a b w w' :=
  ⟨h.os, h.tape, h.output, h.size, fun k hk hab => h.block k hk (fun e => by have := hr k e.symm; omega)⟩

section
variable {k : IntKind} {e : TypeId} {w w' : World} {lo hi : Nat} {v : Value} {zs : List Int}

theorem RS.from_ (h : RS k w v zs) (hb : Below w.heap.size w w') : RS k w' v zs := by
  obtain ⟨A, c, hv, h1, h2, hr⟩ := h
  exact ⟨A, c, hv, h1, h2, (hr.below hb).more hb.size⟩

theorem RS.rd_ {A : Option Addr} {n c : Nat} (h : RS k w (.slice A n c) zs) : Rd k w w.heap.size A zs := by
  obtain ⟨A', c', hv, h1, h2, hr⟩ := h
  simp only [Value.slice.injEq] at hv
  rw [hv.1]; exact hr
theorem RS.le_ {A : Option Addr} {n c : Nat} (h : RS k w (.slice A n c) zs) : zs.length ≤ c ∧ c ≤ maxLen := by
  obtain ⟨A', c', hv, h1, h2, hr⟩ := h
  simp only [Value.slice.injEq] at hv
  rw [hv.2.2]; exact ⟨h1, h2⟩

theorem own_form {v : Value} (h : Own k w lo e v zs) : ∃ A c, v = .slice A zs.length c ∧ zs.length ≤ c ∧ c ≤ maxLen ∧ Rd k w w.heap.size A zs := by
  obtain ⟨A, c, hv, hr⟩ := h.form
  refine ⟨A, c, hv, ?_, ?_, hr⟩
  · rcases h.2 with ⟨h1, h0⟩ | ⟨g, cap, cur, h1, _, _, hn, _⟩
    · omega
    · rw [hv] at h1; simp only [Value.slice.injEq] at h1; omega
  · rcases h.2 with ⟨h1, h0⟩ | ⟨g, cap, cur, h1, _, _, _, hn, _⟩
    · rw [hv] at h1; simp only [Value.slice.injEq] at h1; unfold maxLen; omega
    · rw [hv] at h1; simp only [Value.slice.injEq] at h1; omega

theorem OS.rd (h : OS k e w lo hi v zs) : RS k w v zs := own_form h.1

theorem OS.below (h : OS k e w lo hi v zs) (hb : Below w.heap.size w w') : OS k e w' lo hi v zs :=
  ⟨h.1.below hb (Nat.le_refl _), h.2.1, Nat.le_trans h.2.2 hb.size⟩

theorem OS.chg {a b : Nat} (h : OS k e w lo hi v zs) (hc : Chg a b w w') (hd : hi ≤ a ∨ b ≤ lo) : OS k e w' lo hi v zs := by
  refine ⟨⟨h.1.1, ?_⟩, h.2.1, Nat.le_trans h.2.2 hc.size⟩
  rcases h.1.2 with h2 | ⟨g, cap, cur, hv, hg, hh, r⟩
  · exact .inl h2
  · refine .inr ⟨g, cap, cur, hv, hg, ?_, r⟩
    have h3 := h.2.1 g (by rw [hv]; rfl)
    have h4 := h.2.2
    rw [hc.block g (by omega) (by omega)]; exact hh

theorem OS.widen {lo' hi' : Nat} (h : OS k e w lo hi v zs) (hl : lo' ≤ lo) (hh : hi ≤ hi') (hw : hi' ≤ w.heap.size) : OS k e w lo' hi' v zs :=
  ⟨h.1.base_mono hl, fun j hj => Nat.lt_of_lt_of_le (h.2.1 j hj) hh, hw⟩
theorem OS.mk_ (h : Own k w' lo e v zs) : OS k e w' lo w'.heap.size v zs := ⟨h, fun j hj => (h.at_ j hj).2, Nat.le_refl _⟩
end

/-- an argument, as the row's frame opens it -/
theorem rs_of_row {k : IntKind} {w : World} {a : Option Addr} {len cap : Nat} {zs : List Int} (h : IsRow k w a len cap zs) : RS k w (.slice a len cap) (zs.take len) := by
  obtain ⟨hr, hl, hm, _⟩ := rd_of_row h
  refine ⟨a, cap, by rw [hl], ?_, ?_, hr⟩
  · rcases h with ⟨_, h1, h2, _⟩ | ⟨_, _, h1, _⟩ <;> omega
  · rcases h with ⟨_, _, h2, _⟩ | ⟨_, _, _, h2, _⟩
    · unfold maxLen; omega
    · exact h2

/-- a call that answers a new row alone -/
def NewS (k : IntKind) (t : TypeId) (w : World) (zs : List Int) (e : Ending) (w' : World) : Prop :=
  ∃ v, e = .returned v ∧ OS k t w' w.heap.size w'.heap.size v zs ∧ Below w.heap.size w w'

/-- a call that answers a new row of bytes and a bool -/
def NewSB (w : World) (zs : List Int) (b : Bool) (e : Ending) (w' : World) : Prop :=
  ∃ v, e = .returned (.tuple #[v, .bool b]) ∧ OS .u8 5 w' w.heap.size w'.heap.size v zs ∧ Below w.heap.size w w'
/-- a call that answers a new row of bytes, a number and a bool -/
def NewSIB (w : World) (zs : List Int) (n : Int) (b : Bool) (e : Ending) (w' : World) : Prop :=
  ∃ v, e = .returned (.tuple #[v, .int .i64 n, .bool b]) ∧ OS .u8 5 w' w.heap.size w'.heap.size v zs ∧ Below w.heap.size w w'
theorem os_none (w : World) (lo : Nat) : OS .u8 5 w lo w.heap.size (.slice none 0 0) [] := OS.mk_ (World.ownsRow_nil _ _ _ _)

theorem toByteS_c {w : World} {v : Value} {zs : List Int} (h : RS .u8 w v zs) (hm : zs.length ≤ 16777216) : Calls Try.prog 16 #[v] w (NewS .u8 5 w zs) := by
  obtain ⟨A, c, rfl, _, _, hr⟩ := h
  exact (toByteS_any A c zs w hr hm).mono fun e w' ⟨he, ho, hb⟩ => ⟨_, he, OS.mk_ ho, hb⟩

theorem eqByteS_c {w : World} {v v' : Value} {xs ys : List Int} (h : RS .u8 w v xs) (h' : RS .u8 w v' ys) (hm : xs.length ≤ 1073741824) :
    Calls Try.prog 12 #[v, v'] w fun e w' => e = .returned (.bool (decide (xs = ys))) ∧ Below w.heap.size w w' := by
  obtain ⟨A, c, rfl, _, _, hr⟩ := h
  obtain ⟨A', c', rfl, _, _, hr'⟩ := h'
  exact eqByteS_b A A' c c' xs ys w _ hr hr' hm

theorem eqByteS_same {w : World} {v v' : Value} {xs : List Int} (h : RS .u8 w v xs) (h' : RS .u8 w v' xs) (hm : xs.length ≤ 1073741824) :
    Calls Try.prog 12 #[v, v'] w fun e w' => e = .returned (.bool true) ∧ Below w.heap.size w w' := by
  have := eqByteS_c h h' hm
  simpa using this

theorem markByteS_c {w : World} {v : Value} {zs : List Int} {lo hi : Nat} {k : Int} (h : OS .u8 5 w lo hi v zs) (hm : zs.length ≤ 1073741824) (hk0 : 0 ≤ k) (hk1 : k ≤ 1099511627776) :
    Calls Try.prog 13 #[v, .int .i64 k] w fun e w' => e = .returned (.int .i64 (k + (zs.length : Int))) ∧ OS .u8 5 w' lo hi v (marks k zs.length) ∧ Chg lo hi w w' :=
  (markByteS_any v lo zs k w h.1 hm hk0 hk1).mono fun e w' ⟨he, ho, hg⟩ => ⟨he, ⟨ho, h.2.1, Nat.le_trans h.2.2 hg.size⟩, Chg.of_grown hg fun j hj => ⟨(h.1.at_ j hj).1, h.2.1 j hj⟩⟩

theorem heldByteS_c {w : World} {v : Value} {n : Nat} {k : Int} (h : RS .u8 w v (marks k n)) (hm : n ≤ 1073741824) (hk0 : 0 ≤ k) (hk1 : k ≤ 1099511627776) :
    Calls Try.prog 14 #[v, .int .i64 k] w fun e w' => e = .returned (.int .i64 (k + (n : Int))) ∧ Below w.heap.size w w' := by
  obtain ⟨A, c, rfl, _, _, hr⟩ := h
  rw [marks_len]
  exact (heldByteS_any A c _ n k w hr hm hk0 hk1).mono fun e w' ⟨he, hw⟩ => ⟨he, by rw [← hw]; exact Below.refl _ _⟩

end Go.Proofs.Ytkbhbccpmmhelaa

namespace Go.Proofs.Ytkbhbccpmmhelaa
open Go.RowKit
set_option linter.unusedVariables false

/-- w' is w but for the blocks of S, and for new ones -/
structure ChgS (S : List Nat) (w w' : World) : Prop where
  os : w'.os = w.os
  tape : w'.tape = w.tape
  output : w'.output = w.output
  size : w.heap.size ≤ w'.heap.size
  block : ∀ k, k < w.heap.size → k ∉ S → w'.heap[k]? = w.heap[k]?

theorem ChgS.refl (S : List Nat) (w : World) : ChgS S w w := ⟨rfl, rfl, rfl, Nat.le_refl _, fun _ _ _ => rfl⟩
theorem ChgS.trans {S : List Nat} {a b c : World} (h : ChgS S a b) (k : ChgS S b c) : ChgS S a c :=
  ⟨k.os.trans h.os, k.tape.trans h.tape, k.output.trans h.output, Nat.le_trans h.size k.size, fun i hi hn => (k.block i (Nat.lt_of_lt_of_le hi h.size) hn).trans (h.block i hi hn)⟩
theorem ChgS.more {S T : List Nat} {a b : World} (h : ChgS S a b) (hs : ∀ j ∈ S, j ∈ T) : ChgS T a b :=
  ⟨h.os, h.tape, h.output, h.size, fun k hk hn => h.block k hk (fun e => hn (hs k e))⟩
theorem ChgS.of_grown {w w' : World} {row : Option Nat} (h : w.grownBy w' row) : ChgS row.toList w w' :=
  ⟨h.os, h.tape, h.output, h.size, fun k hk hn => h.block k hk (fun e => hn (by rw [← e]; simp))⟩
theorem ChgS.chg {S : List Nat} {lo hi : Nat} {w w' : World} (h : ChgS S w w') (hS : ∀ j ∈ S, lo ≤ j ∧ j < hi) : Chg lo hi w w' :=
  ⟨h.os, h.tape, h.output, h.size, fun k hk hab => h.block k hk (fun e => by have := hS k e; omega)⟩
theorem ChgS.below {S : List Nat} {B : Nat} {w w' : World} (h : ChgS S w w') (hS : ∀ j ∈ S, B ≤ j) (hB : B ≤ w.heap.size) : Below B w w' :=
  ⟨h.os, h.tape, h.output, h.size, fun k hk => h.block k (by omega) (fun e => by have := hS k e; omega)⟩

/-- A layout: 'rd w B cs x': the cells cs read as x, all memory behind them in blocks below B; 'own w S cs x': they do, and the blocks behind them are S, each for one slice alone. -/
structure Lay (α : Type) where
  rd : World → Nat → List Value → α → Prop
  own : World → List Nat → List Value → α → Prop
  rd_keep : ∀ {w w' : World} {B : Nat} {cs : List Value} {x : α}, rd w B cs x → (∀ p : Addr, p.block < B → w'.cell? p = w.cell? p) → rd w' B cs x
  rd_more : ∀ {w : World} {B B' : Nat} {cs : List Value} {x : α}, rd w B cs x → B ≤ B' → rd w B' cs x
  own_rd : ∀ {w : World} {S : List Nat} {cs : List Value} {x : α}, own w S cs x → rd w w.heap.size cs x
  own_lt : ∀ {w : World} {S : List Nat} {cs : List Value} {x : α}, own w S cs x → ∀ j ∈ S, j < w.heap.size
  own_keep : ∀ {w w' : World} {S : List Nat} {cs : List Value} {x : α}, own w S cs x → (∀ j ∈ S, w'.heap[j]? = w.heap[j]?) → own w' S cs x

/-- a slice of integers -/
def intsL (k : IntKind) (e : TypeId) : Lay (List Int) where
  rd w B cs zs := ∃ A c, cs = [.slice A zs.length c] ∧ zs.length ≤ c ∧ c ≤ maxLen ∧ Rd k w B A zs
  own w S cs zs := ∃ v, cs = [v] ∧ Own k w 0 e v zs ∧ S = v.ownBlock.toList
  rd_keep := by
    rintro w w' B cs zs ⟨A, c, rfl, h1, h2, hr⟩ hk
    exact ⟨A, c, rfl, h1, h2, hr.keep hk⟩
  rd_more := by
    rintro w B B' cs zs ⟨A, c, rfl, h1, h2, hr⟩ hB
    exact ⟨A, c, rfl, h1, h2, hr.more hB⟩
  own_rd := by
    rintro w S cs zs ⟨v, rfl, ho, rfl⟩
    obtain ⟨A, c, rfl, h1, h2, hr⟩ := own_form ho
    exact ⟨A, c, rfl, h1, h2, hr⟩
  own_lt := by
    rintro w S cs zs ⟨v, rfl, ho, rfl⟩ j hj
    exact (ho.at_ j (by simpa using hj)).2
  own_keep := by
    rintro w w' S cs zs ⟨v, rfl, ho, rfl⟩ hk
    refine ⟨v, rfl, ⟨ho.1, ?_⟩, rfl⟩
    rcases ho.2 with h2 | ⟨g, cap, cur, hv, hg, hh, r⟩
    · exact .inl h2
    · exact .inr ⟨g, cap, cur, hv, hg, (hk g (by rw [hv]; simp [Value.ownBlock])).trans hh, r⟩

/-- one cell that leads nowhere -/
def oneL {α : Type} (f : α → Value) : Lay α where
  rd _ _ cs x := cs = [f x]
  own _ S cs x := cs = [f x] ∧ S = []
  rd_keep h _ := h
  rd_more h _ := h
  own_rd h := h.1
  own_lt h j hj := by rw [h.2] at hj; cases hj
  own_keep h _ := h

def intL (k : IntKind) : Lay Int := oneL (Value.int k)
def boolL : Lay Bool := oneL Value.bool
def strL : Lay ByteArray := oneL Value.string

/-- two parts, one behind the other -/
def consL {α β : Type} (L : Lay α) (M : Lay β) : Lay (α × β) where
  rd w B cs x := ∃ c1 c2, cs = c1 ++ c2 ∧ L.rd w B c1 x.1 ∧ M.rd w B c2 x.2
  own w S cs x := ∃ c1 c2 S1 S2, cs = c1 ++ c2 ∧ S = S1 ++ S2 ∧ L.own w S1 c1 x.1 ∧ M.own w S2 c2 x.2
  rd_keep := by
    rintro w w' B cs x ⟨c1, c2, rfl, h1, h2⟩ hk
    exact ⟨c1, c2, rfl, L.rd_keep h1 hk, M.rd_keep h2 hk⟩
  rd_more := by
    rintro w B B' cs x ⟨c1, c2, rfl, h1, h2⟩ hB
    exact ⟨c1, c2, rfl, L.rd_more h1 hB, M.rd_more h2 hB⟩
  own_rd := by
    rintro w S cs x ⟨c1, c2, S1, S2, rfl, rfl, h1, h2⟩
    exact ⟨c1, c2, rfl, L.own_rd h1, M.own_rd h2⟩
  own_lt := by
    rintro w S cs x ⟨c1, c2, S1, S2, rfl, rfl, h1, h2⟩ j hj
    rcases List.mem_append.1 hj with h | h
    · exact L.own_lt h1 j h
    · exact M.own_lt h2 j h
  own_keep := by
    rintro w w' S cs x ⟨c1, c2, S1, S2, rfl, rfl, h1, h2⟩ hk
    exact ⟨c1, c2, S1, S2, rfl, rfl, L.own_keep h1 fun j hj => hk j (List.mem_append.2 (.inl hj)), M.own_keep h2 fun j hj => hk j (List.mem_append.2 (.inr hj))⟩

/-- the same cells, read as another type -/
def isoL {α β : Type} (f : β → α) (L : Lay α) : Lay β where
  rd w B cs y := L.rd w B cs (f y)
  own w S cs y := L.own w S cs (f y)
  rd_keep h hk := L.rd_keep h hk
  rd_more h hB := L.rd_more h hB
  own_rd h := L.own_rd h
  own_lt h := L.own_lt h
  own_keep h hk := L.own_keep h hk

/-- the value whose cells these are -/
def valOf : List Value → Value
  | [v] => v
  | cs => .agg cs.toArray

/-- the value v reads as x -/
def RV {α : Type} (L : Lay α) (w : World) (v : Value) (x : α) : Prop := ∃ cs, v = valOf cs ∧ L.rd w w.heap.size cs x

/-- the value v reads as x, in blocks of its own from lo on and below hi -/
def OV {α : Type} (L : Lay α) (w : World) (lo hi : Nat) (v : Value) (x : α) : Prop :=
  ∃ cs S, v = valOf cs ∧ L.own w S cs x ∧ S.Nodup ∧ (∀ j ∈ S, lo ≤ j ∧ j < hi) ∧ hi ≤ w.heap.size

section
variable {α β : Type} {L : Lay α} {M : Lay β} {w w' : World} {lo hi : Nat} {v : Value} {x : α} {S : List Nat} {cs : List Value}

theorem cell_of_block {w w' : World} {p : Addr} (h : w'.heap[p.block]? = w.heap[p.block]?) : w'.cell? p = w.cell? p := by
  unfold World.cell?; rw [h]

theorem Lay.rd_below {B : Nat} (h : L.rd w B cs x) (hb : Below B w w') : L.rd w' B cs x := L.rd_keep h fun _ hp => hb.cell hp
theorem Lay.rd_from (h : L.rd w w.heap.size cs x) (hb : Below w.heap.size w w') : L.rd w' w'.heap.size cs x := L.rd_more (L.rd_below h hb) hb.size
theorem Lay.own_below (h : L.own w S cs x) (hb : Below w.heap.size w w') : L.own w' S cs x := L.own_keep h fun j hj => hb.block j (L.own_lt h j hj)
theorem Lay.own_chg {T : List Nat} (h : L.own w S cs x) (hc : ChgS T w w') (hd : ∀ j ∈ S, j ∉ T) : L.own w' S cs x := L.own_keep h fun j hj => hc.block j (L.own_lt h j hj) (hd j hj)

theorem RV.from_ (h : RV L w v x) (hb : Below w.heap.size w w') : RV L w' v x := by
  obtain ⟨cs, rfl, h⟩ := h
  exact ⟨cs, rfl, L.rd_from h hb⟩
theorem OV.rd (h : OV L w lo hi v x) : RV L w v x := by
  obtain ⟨cs, S, rfl, ho, _⟩ := h
  exact ⟨cs, rfl, L.own_rd ho⟩
theorem OV.below (h : OV L w lo hi v x) (hb : Below w.heap.size w w') : OV L w' lo hi v x := by
  obtain ⟨cs, S, rfl, ho, hn, hS, hh⟩ := h
  exact ⟨cs, S, rfl, L.own_below ho hb, hn, hS, Nat.le_trans hh hb.size⟩
theorem OV.chg {a b : Nat} (h : OV L w lo hi v x) (hc : Chg a b w w') (hd : hi ≤ a ∨ b ≤ lo) : OV L w' lo hi v x := by
  obtain ⟨cs, S, rfl, ho, hn, hS, hh⟩ := h
  exact ⟨cs, S, rfl, L.own_keep ho fun j hj => hc.block j (L.own_lt ho j hj) (by have := hS j hj; omega), hn, hS, Nat.le_trans hh hc.size⟩

theorem rv_ints {k : IntKind} {e : TypeId} {zs : List Int} : RV (intsL k e) w v zs ↔ RS k w v zs := by
  constructor
  · rintro ⟨cs, rfl, A, c, rfl, h1, h2, hr⟩
    exact ⟨A, c, rfl, h1, h2, hr⟩
  · rintro ⟨A, c, rfl, h1, h2, hr⟩
    exact ⟨_, rfl, A, c, rfl, h1, h2, hr⟩

theorem own_at {k : IntKind} {e : TypeId} {zs : List Int} {lo : Nat} (h : Own k w 0 e v zs) (hl : ∀ j, v.ownBlock = some j → lo ≤ j) : Own k w lo e v zs := by
  refine ⟨h.1, ?_⟩
  rcases h.2 with h2 | ⟨g, cap, cur, hv, hg, r⟩
  · exact .inl h2
  · exact .inr ⟨g, cap, cur, hv, hl g (by rw [hv]; rfl), r⟩

theorem ov_ints {k : IntKind} {e : TypeId} {zs : List Int} : OV (intsL k e) w lo hi v zs ↔ OS k e w lo hi v zs := by
  constructor
  · rintro ⟨cs, S, rfl, ⟨u, rfl, ho, rfl⟩, hn, hS, hh⟩
    have hj2 : ∀ j, (valOf [u]).ownBlock = some j → j ∈ u.ownBlock.toList := fun j hj => by
      have hj' : u.ownBlock = some j := hj
      rw [hj']; simp
    exact ⟨own_at ho fun j hj => (hS j (hj2 j hj)).1, fun j hj => (hS j (hj2 j hj)).2, hh⟩
  · rintro ⟨ho, h1, h2⟩
    refine ⟨[v], _, rfl, ⟨v, rfl, ho.base_mono (Nat.zero_le _), rfl⟩, ?_, fun j hj => ?_, h2⟩
    · cases v.ownBlock <;> simp
    · have hj' : v.ownBlock = some j := by simpa using hj
      exact ⟨(ho.at_ j hj').1, h1 j hj'⟩
end

/-- a call that answers a new value of this layout alone -/
def NewV {α : Type} (L : Lay α) (w : World) (x : α) (e : Ending) (w' : World) : Prop :=
  ∃ v, e = .returned v ∧ OV L w' w.heap.size w'.heap.size v x ∧ Below w.heap.size w w'

/-- a call that answers a new value of this layout and a bool -/
def NewVB {α : Type} (L : Lay α) (w : World) (x : α) (b : Bool) (e : Ending) (w' : World) : Prop :=
  ∃ v, e = .returned (.tuple #[v, .bool b]) ∧ OV L w' w.heap.size w'.heap.size v x ∧ Below w.heap.size w w'

/-- a call that answers a new value of this layout, a number and a bool -/
def NewVIB {α : Type} (L : Lay α) (w : World) (x : α) (n : Int) (b : Bool) (e : Ending) (w' : World) : Prop :=
  ∃ v, e = .returned (.tuple #[v, .int .i64 n, .bool b]) ∧ OV L w' w.heap.size w'.heap.size v x ∧ Below w.heap.size w w'

/-- the cells cs read as x, in blocks of their own that meet p -/
def OVp {α : Type} (L : Lay α) (w : World) (p : Nat → Prop) (cs : List Value) (x : α) : Prop := ∃ S, L.own w S cs x ∧ S.Nodup ∧ ∀ j ∈ S, p j

section
variable {α β : Type} {L : Lay α} {M : Lay β} {w w' : World} {lo hi : Nat} {v : Value} {x : α} {y : β} {c1 c2 cs : List Value} {p q : Nat → Prop}

theorem OVp.imp' (h : OVp L w p cs x) (hp : ∀ j, p j → q j) : OVp L w q cs x := by
  obtain ⟨S, ho, hn, hS⟩ := h
  exact ⟨S, ho, hn, fun j hj => hp j (hS j hj)⟩
theorem OVp.cons (h1 : OVp L w p c1 x) (h2 : OVp M w q c2 y) (hd : ∀ j, p j → q j → False) : OVp (consL L M) w (fun j => p j ∨ q j) (c1 ++ c2) (x, y) := by
  obtain ⟨S1, o1, n1, b1⟩ := h1
  obtain ⟨S2, o2, n2, b2⟩ := h2
  refine ⟨S1 ++ S2, ⟨c1, c2, S1, S2, rfl, rfl, o1, o2⟩, ?_, ?_⟩
  · rw [List.nodup_append]
    exact ⟨n1, n2, fun a ha b hb e => hd a (b1 a ha) (e ▸ b2 b hb)⟩
  · intro j hj
    rcases List.mem_append.1 hj with h | h
    · exact .inl (b1 j h)
    · exact .inr (b2 j h)
theorem OVp.cons1 {f : α → Value} (h2 : OVp M w q c2 y) : OVp (consL (oneL f) M) w q ([f x] ++ c2) (x, y) := by
  obtain ⟨S2, o2, n2, b2⟩ := h2
  exact ⟨S2, ⟨[f x], c2, [], S2, rfl, rfl, ⟨rfl, rfl⟩, o2⟩, n2, b2⟩
theorem OVp.consR (h1 : OVp L w p c1 x) (h2 : OVp M w (fun _ => False) c2 y) : OVp (consL L M) w p (c1 ++ c2) (x, y) :=
  (OVp.cons h1 h2 (fun _ _ h => h)).imp' (fun _ h => h.elim id (fun f => f.elim))
theorem OVp.one {f : α → Value} : OVp (oneL f) w (fun _ => False) [f x] x := ⟨[], ⟨rfl, rfl⟩, List.nodup_nil, fun _ h => by cases h⟩
theorem OVp.ints {k : IntKind} {e : TypeId} {zs : List Int} (h : OS k e w lo hi v zs) : OVp (intsL k e) w (fun j => lo ≤ j ∧ j < hi) [v] zs := by
  obtain ⟨cs, S, e1, ho, hn, hS, _⟩ := ov_ints.2 h
  obtain ⟨u, rfl, ho⟩ := ho
  obtain rfl : v = u := e1
  exact ⟨S, ⟨v, rfl, ho⟩, hn, hS⟩
theorem OVp.ov (h : OVp L w p cs x) (hp : ∀ j, p j → lo ≤ j ∧ j < hi) (hh : hi ≤ w.heap.size) : OV L w lo hi (valOf cs) x := by
  obtain ⟨S, ho, hn, hS⟩ := h
  exact ⟨cs, S, rfl, ho, hn, fun j hj => hp j (hS j hj), hh⟩
theorem OVp.imp (h : OVp L w p cs x) (hp : ∀ j, p j → q j) : OVp L w q cs x := by
  obtain ⟨S, ho, hn, hS⟩ := h
  exact ⟨S, ho, hn, fun j hj => hp j (hS j hj)⟩
theorem OVp.rd (h : OVp L w p cs x) : L.rd w w.heap.size cs x := by
  obtain ⟨S, ho, _, _⟩ := h
  exact L.own_rd ho
theorem OVp.iso {f : β → α} {y : β} (h : OVp L w p cs (f y)) : OVp (isoL f L) w p cs y := h
theorem OV.widen {lo' hi' : Nat} (h : OV L w lo hi v x) (hl : lo' ≤ lo) (hh : hi ≤ hi') (hw : hi' ≤ w.heap.size) : OV L w lo' hi' v x := by
  obtain ⟨cs, S, e, ho, hn, hS, _⟩ := h
  exact ⟨cs, S, e, ho, hn, fun j hj => by have := hS j hj; omega, hw⟩
end

/-- a marking: what a call leaves that marks the cells cs (blocks S), from k on -/
def MarkS {α : Type} (L : Lay α) (w : World) (S : List Nat) (cs : List Value) (n : Int) (x : α) (e : Ending) (w' : World) : Prop :=
  e = .returned (.int .i64 n) ∧ L.own w' S cs x ∧ ChgS S w w'

theorem MarkS.up {α : Type} {L : Lay α} {w : World} {lo hi : Nat} {S : List Nat} {cs : List Value} {n : Int} {x : α} {e : Ending} {w' : World} (h : MarkS L w S cs n x e w') (hn : S.Nodup) (hS : ∀ j ∈ S, lo ≤ j ∧ j < hi) (hh : hi ≤ w.heap.size) :
    e = .returned (.int .i64 n) ∧ OV L w' lo hi (valOf cs) x ∧ Chg lo hi w w' :=
  ⟨h.1, ⟨cs, S, rfl, h.2.1, hn, hS, Nat.le_trans hh h.2.2.size⟩, h.2.2.chg hS⟩

theorem nodup_app {S T : List Nat} (h : (S ++ T).Nodup) : S.Nodup ∧ T.Nodup ∧ (∀ j ∈ S, j ∉ T) ∧ (∀ j ∈ T, j ∉ S) := by
  rw [List.nodup_append] at h
  exact ⟨h.1, h.2.1, fun j hj hj' => h.2.2 j hj j hj' rfl, fun j hj hj' => h.2.2 j hj' j hj rfl⟩
theorem ChgS.of_below {S : List Nat} {w w' : World} (h : Below w.heap.size w w') : ChgS S w w' := ⟨h.os, h.tape, h.output, h.size, fun k hk _ => h.block k hk⟩
theorem ret_int {a b : Int} (h : a = b) : Ending.returned (.int .i64 a) = Ending.returned (.int .i64 b) := by rw [h]

end Go.Proofs.Ytkbhbccpmmhelaa

namespace Go.Proofs.Ytkbhbccpmmhelaa
open Go.RowKit
set_option linter.unusedVariables false

/-- block b of w holds the cells cs of a variable of type t -/
def Vr (w : World) (b : Nat) (t : TypeId) (cs : List Value) : Prop := w.heap[b]? = some (.cells cs.toArray t (0, 0))

section
variable {w w' : World} {b b' : Nat} {t : TypeId} {cs : List Value} {v : Value} {i : Nat}

theorem Vr.lt (h : Vr w b t cs) : b < w.heap.size := by
  rcases Nat.lt_or_ge b w.heap.size with hlt | hge
  · exact hlt
  · unfold Vr at h; rw [Array.getElem?_eq_none hge] at h; cases h
theorem Vr.cell (h : Vr w b t cs) (hi : cs[i]? = some v) : w.cell? ⟨b, i, none⟩ = some v := by
  unfold Vr at h
  rw [cell_of_row w b i cs.toArray t (0, 0) h]
  simpa using hi
theorem Vr.frozen (h : Vr w b t cs) (i : Nat) : w.frozen? ⟨b, i, none⟩ = false := by
  unfold Vr at h
  simp [World.frozen?, h]
theorem Vr.same (h : Vr w b t cs) (hi : cs[i]? = some v) : w.setCell ⟨b, i, none⟩ v = w := by
  unfold Vr at h
  rw [setCell_eq_setRow w b i cs.toArray t (0, 0) v h]
  have e : cs.toArray.setIfInBounds i v = cs.toArray := by
    apply Array.ext_getElem?
    intro j
    rw [Array.getElem?_setIfInBounds]
    by_cases hj : i = j
    · subst hj
      have hl : i < cs.length := by
        rcases Nat.lt_or_ge i cs.length with h | h
        · exact h
        · rw [List.getElem?_eq_none h] at hi; cases hi
      rw [List.getElem?_eq_getElem hl] at hi
      simp [hl, Option.some.inj hi]
    · simp [hj]
  rw [e]
  exact setRow_self w b cs.toArray t (0, 0) h
theorem Vr.new (w : World) (t : TypeId) (cs : List Value) : Vr (w.alloc (.cells cs.toArray t)) w.heap.size t cs := heap_alloc_new w _
theorem Vr.alloc (h : Vr w b t cs) (o : Obj) : Vr (w.alloc o) b t cs := by
  have hl := h.lt
  unfold Vr at h ⊢
  rw [show (w.alloc o).heap[b]? = w.heap[b]? from ((Below.refl w.heap.size w).alloc (Nat.le_refl _) o).block b hl]
  exact h
theorem Vr.below {B : Nat} (h : Vr w b t cs) (hb : Below B w w') (hB : b < B) : Vr w' b t cs := by
  unfold Vr at h ⊢; rw [hb.block b hB]; exact h
theorem Vr.from_ (h : Vr w b t cs) (hb : Below w.heap.size w w') : Vr w' b t cs := h.below hb h.lt
theorem Vr.set (h : Vr w b t cs) (i : Nat) (v : Value) : Vr (w.setCell ⟨b, i, none⟩ v) b t (cs.set i v) := by
  unfold Vr at h ⊢
  rw [setCell_eq_setRow w b i cs.toArray t (0, 0) v h, setRow_heap w b _ _ t _ h]
  simp
theorem Vr.set_ne (h : Vr w b t cs) (hne : b' ≠ b) (i : Nat) (v : Value) : Vr (w.setCell ⟨b', i, none⟩ v) b t cs := by
  unfold Vr at h ⊢
  rw [Below.heap_setCell w ⟨b', i, none⟩ v b (fun e => hne e.symm)]
  exact h
theorem Vr.grown {row : Option Nat} (h : Vr w b t cs) (hg : w.grownBy w' row) (hne : row ≠ some b) : Vr w' b t cs := by
  have hl := h.lt
  unfold Vr at h ⊢
  rw [hg.block b hl (fun e => hne e.symm)]
  exact h
theorem Vr.chgS {S : List Nat} (h : Vr w b t cs) (hc : ChgS S w w') (hd : b ∉ S) : Vr w' b t cs := by
  have hl := h.lt
  unfold Vr at h ⊢
  rw [hc.block b hl hd]
  exact h
theorem Vr.chg {a c : Nat} (h : Vr w b t cs) (hc : Chg a c w w') (hd : b < a ∨ c ≤ b) : Vr w' b t cs := by
  have hl := h.lt
  unfold Vr at h ⊢
  rw [hc.block b hl hd]
  exact h
end

/-- the variables that a function lays at its entry -/
theorem frame1 (w : World) (t0 : TypeId) (c0 : List Value) : ∃ wa, w.alloc (.cells c0.toArray t0) = wa ∧ Below w.heap.size w wa ∧ wa.heap.size = w.heap.size + 1 ∧ Vr wa w.heap.size t0 c0 :=
  ⟨_, rfl, (Below.refl _ _).alloc (Nat.le_refl _) _, by simp, Vr.new w t0 c0⟩
theorem frame2 (w : World) (t0 : TypeId) (c0 : List Value) (t1 : TypeId) (c1 : List Value) : ∃ wa, (w.alloc (.cells c0.toArray t0)).alloc (.cells c1.toArray t1) = wa ∧ Below w.heap.size w wa ∧ wa.heap.size = w.heap.size + 1 + 1 ∧ Vr wa w.heap.size t0 c0 ∧ Vr wa (w.heap.size + 1) t1 c1 := by
  obtain ⟨wa, rfl, h1, h2, h3⟩ := frame1 w t0 c0
  have h4 := Vr.new (w.alloc (.cells c0.toArray t0)) t1 c1
  rw [h2] at h4
  exact ⟨_, rfl, h1.alloc h1.size _, by simp, h3.alloc _, h4⟩
theorem frame3 (w : World) (t0 : TypeId) (c0 : List Value) (t1 : TypeId) (c1 : List Value) (t2 : TypeId) (c2 : List Value) : ∃ wa, ((w.alloc (.cells c0.toArray t0)).alloc (.cells c1.toArray t1)).alloc (.cells c2.toArray t2) = wa ∧ Below w.heap.size w wa ∧ wa.heap.size = w.heap.size + 1 + 1 + 1 ∧ Vr wa w.heap.size t0 c0 ∧ Vr wa (w.heap.size + 1) t1 c1 ∧ Vr wa (w.heap.size + 1 + 1) t2 c2 := by
  obtain ⟨wa, rfl, h1, h2, h3, h3'⟩ := frame2 w t0 c0 t1 c1
  have h4 := Vr.new ((w.alloc (.cells c0.toArray t0)).alloc (.cells c1.toArray t1)) t2 c2
  rw [h2] at h4
  exact ⟨_, rfl, h1.alloc h1.size _, by simp, h3.alloc _, h3'.alloc _, h4⟩
theorem frame4 (w : World) (t0 : TypeId) (c0 : List Value) (t1 : TypeId) (c1 : List Value) (t2 : TypeId) (c2 : List Value) (t3 : TypeId) (c3 : List Value) : ∃ wa, (((w.alloc (.cells c0.toArray t0)).alloc (.cells c1.toArray t1)).alloc (.cells c2.toArray t2)).alloc (.cells c3.toArray t3) = wa ∧ Below w.heap.size w wa ∧ wa.heap.size = w.heap.size + 1 + 1 + 1 + 1 ∧ Vr wa w.heap.size t0 c0 ∧ Vr wa (w.heap.size + 1) t1 c1 ∧ Vr wa (w.heap.size + 1 + 1) t2 c2 ∧ Vr wa (w.heap.size + 1 + 1 + 1) t3 c3 := by
  obtain ⟨wa, rfl, h1, h2, h3, h3', h3''⟩ := frame3 w t0 c0 t1 c1 t2 c2
  have h4 := Vr.new (((w.alloc (.cells c0.toArray t0)).alloc (.cells c1.toArray t1)).alloc (.cells c2.toArray t2)) t3 c3
  rw [h2] at h4
  exact ⟨_, rfl, h1.alloc h1.size _, by simp, h3.alloc _, h3'.alloc _, h3''.alloc _, h4⟩

/-- a store into a variable above B -/
theorem below_set {B b i : Nat} {a w : World} {v : Value} (h : Below B a w) (hB : B ≤ b) : Below B a (w.setCell ⟨b, i, none⟩ v) := h.setCell (p := ⟨b, i, none⟩) hB _

theorem set_step {w : World} {b : Nat} {t : TypeId} {cs : List Value} (h : Vr w b t cs) (i : Nat) (v : Value) :
    ∃ w', w.setCell ⟨b, i, none⟩ v = w' ∧ w'.heap.size = w.heap.size ∧ Chg b (b + 1) w w' ∧ Vr w' b t (cs.set i v) :=
  ⟨_, rfl, by simp, ⟨rfl, rfl, rfl, by simp, fun k hk hd => Below.heap_setCell w ⟨b, i, none⟩ v k (by show k ≠ b; omega)⟩, h.set i v⟩

theorem alloc_step (w : World) (t : TypeId) (cs : List Value) :
    ∃ w', w.alloc (.cells cs.toArray t) = w' ∧ w'.heap.size = w.heap.size + 1 ∧ Below w.heap.size w w' ∧ Vr w' w.heap.size t cs := by
  obtain ⟨wa, h1, h2, h3, h4⟩ := frame1 w t cs
  exact ⟨wa, h1, h3, h2, h4⟩

theorem Below.chg_ {B a b : Nat} {w0 w w' : World} (h : Below B w0 w) (hc : Chg a b w w') (hB : B ≤ a) (hB2 : B ≤ w.heap.size) : Below B w0 w' := h.trans (hc.below hB hB2)

theorem Vr.cells2 {w : World} {b : Nat} {t : TypeId} {v0 v1 : Value} (h : Vr w b t [v0, v1]) : w.cell? ⟨b, 0, none⟩ = some v0 ∧ w.cell? ⟨b, 1, none⟩ = some v1 ∧ w.frozen? ⟨b, 0, none⟩ = false ∧ w.frozen? ⟨b, 1, none⟩ = false :=
  ⟨h.cell rfl, h.cell rfl, h.frozen 0, h.frozen 1⟩

/-- the end of a function whose one result is a struct variable -/
theorem ret_cell {P : Program} {fn : Func} {R : Ending → World → Prop} {a : Act} {w : World} {p : Tmp} {ty : TypeId} {b : Nat} {t : TypeId} {cs : List Value} {fs : Array Field} (h : fn.results = #[.cell p ty])
    (hp : a.tmps.getD p undef = .pointer (some ⟨b, 0, none⟩)) (hg : Vr w b t cs) (hu : P.underlying ty = some (.struct fs)) (hi : (P.info? ty).map (·.size) = some cs.length) (hdf : a.defers = [])
    (hR : R (.returned (.agg cs.toArray)) w) : bodyPost P fn R .ret a w :=
  bodyPost_ret (results_cell_row h a.tmps w b t cs.toArray (0, 0) _ hp hg hu rfl (by simpa using hi)) hdf hR

/-- .. and a value beside it -/
theorem ret_cell_tmp {P : Program} {fn : Func} {R : Ending → World → Prop} {a : Act} {w : World} {p u : Tmp} {ty : TypeId} {b : Nat} {t : TypeId} {cs : List Value} {fs : Array Field} (h : fn.results = #[.cell p ty, .tmp u])
    (hp : a.tmps.getD p undef = .pointer (some ⟨b, 0, none⟩)) (hg : Vr w b t cs) (hu : P.underlying ty = some (.struct fs)) (hi : (P.info? ty).map (·.size) = some cs.length) (hdf : a.defers = [])
    (hR : R (.returned (.tuple #[.agg cs.toArray, a.tmps.getD u undef])) w) : bodyPost P fn R .ret a w := by
  refine bodyPost_ret (v := .tuple #[.agg cs.toArray, a.tmps.getD u undef]) ?_ hdf hR
  have hl := run_loadVar_row (P := P) w b t ty cs.toArray (0, 0) _ hg hu rfl (by simpa using hi)
  rw [results_cell_tmp h, hp]
  simp [asAddr, hl]

theorem results_cell_tmp2 {fn : Func} {p u u' : Tmp} {ty : TypeId} (h : fn.results = #[.cell p ty, .tmp u, .tmp u']) (tmps : Array Value) (P : Program) (w : World) :
    (results fn tmps).run P w =
      ((asAddr (tmps.getD p undef)).run P w).andThen fun a w₁ => ((loadVar ty a).run P w₁).andThen fun v w₂ => .ok (.tuple #[v, tmps.getD u undef, tmps.getD u' undef]) w₂ := by
  simp only [results, h]
  simp [Sem.run_bind, Result.andThen]
/-- .. and two values beside it -/
theorem ret_cell_tmp2 {P : Program} {fn : Func} {R : Ending → World → Prop} {a : Act} {w : World} {p u u' : Tmp} {ty : TypeId} {b : Nat} {t : TypeId} {cs : List Value} {fs : Array Field} (h : fn.results = #[.cell p ty, .tmp u, .tmp u'])
    (hp : a.tmps.getD p undef = .pointer (some ⟨b, 0, none⟩)) (hg : Vr w b t cs) (hu : P.underlying ty = some (.struct fs)) (hi : (P.info? ty).map (·.size) = some cs.length) (hdf : a.defers = [])
    (hR : R (.returned (.tuple #[.agg cs.toArray, a.tmps.getD u undef, a.tmps.getD u' undef])) w) : bodyPost P fn R .ret a w := by
  refine bodyPost_ret (v := .tuple #[.agg cs.toArray, a.tmps.getD u undef, a.tmps.getD u' undef]) ?_ hdf hR
  have hl := run_loadVar_row (P := P) w b t ty cs.toArray (0, 0) _ hg hu rfl (by simpa using hi)
  rw [results_cell_tmp2 h, hp]
  simp [asAddr, hl]

theorem Chg.refl (a b : Nat) (w : World) : Chg a b w w := ⟨rfl, rfl, rfl, Nat.le_refl _, fun _ _ _ => rfl⟩
theorem Chg.then_below {a b : Nat} {w w1 w2 : World} (h : Chg a b w w1) (k : Below w1.heap.size w1 w2) : Chg a b w w2 :=
  ⟨k.os.trans h.os, k.tape.trans h.tape, k.output.trans h.output, Nat.le_trans h.size k.size, fun i hi hd => (k.block i (Nat.lt_of_lt_of_le hi h.size)).trans (h.block i hi hd)⟩
theorem Chg.then_same {a b : Nat} {w w1 w2 : World} (h : Chg a b w w1) (k : Chg a b w1 w2) : Chg a b w w2 :=
  ⟨k.os.trans h.os, k.tape.trans h.tape, k.output.trans h.output, Nat.le_trans h.size k.size, fun i hi hd => (k.block i (Nat.lt_of_lt_of_le hi h.size) hd).trans (h.block i hi hd)⟩
theorem Chg.then_new {a b c d : Nat} {w w1 w2 : World} (h : Chg a b w w1) (k : Chg c d w1 w2) (hc : w.heap.size ≤ c) : Chg a b w w2 :=
  ⟨k.os.trans h.os, k.tape.trans h.tape, k.output.trans h.output, Nat.le_trans h.size k.size, fun i hi hd => (k.block i (Nat.lt_of_lt_of_le hi h.size) (.inl (by omega))).trans (h.block i hi hd)⟩

/-- all cells of a variable laid one by one -/
def setAll (w : World) (b : Nat) : Nat → List Value → World
  | _, [] => w
  | i, v :: vs => setAll (w.setCell ⟨b, i, none⟩ v) b (i + 1) vs

theorem setAll_step {b : Nat} {t : TypeId} : ∀ (vs : List Value) (i : Nat) (w : World) (cs : List Value), Vr w b t cs → i + vs.length = cs.length →
    (setAll w b i vs).heap.size = w.heap.size ∧ Chg b (b + 1) w (setAll w b i vs) ∧ Vr (setAll w b i vs) b t (cs.take i ++ vs)
  | [], i, w, cs, h, hl => ⟨rfl, ⟨rfl, rfl, rfl, Nat.le_refl _, fun _ _ _ => rfl⟩, by
      simp only [List.length_nil, Nat.add_zero] at hl
      simp only [setAll, List.append_nil]
      rw [List.take_of_length_le (by omega)]; exact h⟩
  | v :: vs, i, w, cs, h, hl => by
      simp only [List.length_cons] at hl
      obtain ⟨w', rfl, s1, c1, v1⟩ := set_step h i v
      obtain ⟨s2, c2, v2⟩ := setAll_step vs (i + 1) (w.setCell ⟨b, i, none⟩ v) (cs.set i v) v1 (by simp; omega)
      refine ⟨s2.trans s1, ⟨c2.os.trans c1.os, c2.tape.trans c1.tape, c2.output.trans c1.output, Nat.le_trans c1.size c2.size, fun k hk hd => (c2.block k (by omega) hd).trans (c1.block k hk hd)⟩, ?_⟩
      have e : (cs.set i v).take (i + 1) ++ vs = cs.take i ++ v :: vs := by
        rw [List.take_set, List.take_succ_eq_append_getElem (show i < cs.length by omega), List.set_append]
        simp [show i ≤ cs.length by omega]
      rw [e] at v2
      exact v2

theorem store_step {w : World} {b : Nat} {t : TypeId} {cs : List Value} (h : Vr w b t cs) (vs : List Value) (hl : vs.length = cs.length) :
    ∃ w', setAll w b 0 vs = w' ∧ w'.heap.size = w.heap.size ∧ Chg b (b + 1) w w' ∧ Vr w' b t vs := by
  obtain ⟨s, c, v⟩ := setAll_step vs 0 w cs h (by omega)
  exact ⟨_, rfl, s, c, by simpa using v⟩

theorem lay_step (w : World) (t : TypeId) (zs vs : List Value) (hl : vs.length = zs.length) :
    ∃ w', setAll (w.alloc (.cells zs.toArray t)) w.heap.size 0 vs = w' ∧ w'.heap.size = w.heap.size + 1 ∧ Below w.heap.size w w' ∧ Vr w' w.heap.size t vs := by
  obtain ⟨w1, rfl, s1, b1, x1⟩ := alloc_step w t zs
  obtain ⟨w2, rfl, s2, c2, x2⟩ := store_step x1 vs hl
  exact ⟨_, rfl, by omega, Below.chg_ b1 c2 (Nat.le_refl _) (by omega), x2⟩

/-- what a statement leaves that lays a new variable with a value of its own: a pointer to its block -/
def OutVar {α : Type} (L : Lay α) (t : TypeId) (wa : World) (x : α) (s : Value) (wx : World) : Prop :=
  ∃ blk cs, s = .pointer (some ⟨blk, 0, none⟩) ∧ wa.heap.size ≤ blk ∧ Vr wx blk t cs ∧ OVp L wx (fun j => wa.heap.size ≤ j ∧ j < wx.heap.size) cs x ∧ Below wa.heap.size wa wx

theorem below_of_alloc {P w : World} {o : Obj} (h : Below (P.alloc o).heap.size (P.alloc o) w) : Below P.heap.size P w :=
  ((Below.refl P.heap.size P).alloc (Nat.le_refl _) o).trans (h.mono (by simp))
theorem chg_of_alloc {P w : World} {o : Obj} {row : Option Nat} {a b : Nat} (h : (P.alloc o).grownBy w row) (hr : ∀ j, row = some j → a ≤ j ∧ j < b) : Chg a b P w := by
  have hc : Chg a b (P.alloc o) w := Chg.of_grown h hr
  have hb := (Below.refl P.heap.size P).alloc (Nat.le_refl _) o
  exact ⟨hc.os.trans hb.os, hc.tape.trans hb.tape, hc.output.trans hb.output, Nat.le_trans hb.size hc.size, fun k hk hd => (hc.block k (Nat.lt_of_lt_of_le hk hb.size) hd).trans (hb.block k hk)⟩
theorem sz_alloc (w : World) (o : Obj) : (w.alloc o).heap.size = w.heap.size + 1 := by simp
theorem sz_drew (w : World) : w.drew.heap.size = w.heap.size := rfl
theorem chg_of_alloc' {P w : World} {o : Obj} {row : Option Nat} {a b : Nat} (h : (P.alloc o).grownBy w row) (hr : ∀ j, row = some j → a ≤ j ∧ j < b) : Chg a b P w := chg_of_alloc h hr
theorem agg2_inj {a b c d : Value} (h : Value.agg #[a, b] = Value.agg #[c, d]) : a = c ∧ b = d := by
  simpa using h
theorem OS.set_ {k : IntKind} {e : TypeId} {w : World} {lo hi b i : Nat} {v u : Value} {zs : List Int} (h : OS k e w lo hi v zs) (hd : hi ≤ b ∨ b < lo) : OS k e (w.setCell ⟨b, i, none⟩ u) lo hi v zs :=
  h.chg (a := b) (b := b + 1) ⟨rfl, rfl, rfl, by simp, fun k hk hd => Below.heap_setCell w ⟨b, i, none⟩ u k (by show k ≠ b; omega)⟩ (by omega)
theorem OS.alloc_ {k : IntKind} {e : TypeId} {w : World} {lo hi : Nat} {v : Value} {zs : List Int} (h : OS k e w lo hi v zs) (o : Obj) : OS k e (w.alloc o) lo hi v zs :=
  h.below ((Below.refl w.heap.size w).alloc (Nat.le_refl _) o)

end Go.Proofs.Ytkbhbccpmmhelaa

namespace Go.Proofs.Ytkbhbccpmmhelaa

/-- 128 to the power j, kept closed -/
def p128 (j : Nat) : Int := 128 ^ j
theorem p128_zero : p128 0 = 1 := rfl
theorem p128_succ (j : Nat) : p128 (j + 1) = p128 j * 128 := by unfold p128; rw [Int.pow_succ]
theorem p128_pos (j : Nat) : 0 < p128 j := by
  induction j with
  | zero => decide
  | succ j ih => rw [p128_succ]; omega
theorem p128_le (j : Nat) (h : j ≤ 8) : p128 j ≤ 72057594037927936 := by
  have : j = 0 ∨ j = 1 ∨ j = 2 ∨ j = 3 ∨ j = 4 ∨ j = 5 ∨ j = 6 ∨ j = 7 ∨ j = 8 := by omega
  rcases this with rfl | rfl | rfl | rfl | rfl | rfl | rfl | rfl | rfl <;> decide
theorem p128_le7 (j : Nat) (h : j ≤ 7) : p128 j ≤ 562949953421312 := by
  have : j = 0 ∨ j = 1 ∨ j = 2 ∨ j = 3 ∨ j = 4 ∨ j = 5 ∨ j = 6 ∨ j = 7 := by omega
  rcases this with rfl | rfl | rfl | rfl | rfl | rfl | rfl | rfl <;> decide

/-- the number at the head of l, i groups of which, of value n, have been read: the number, and how many groups it has -/
def gnum : List Int → Nat → Int → Option (Int × Nat)
  | [], _, _ => none
  | x :: r, i, n =>
    if i < 8 then
      if x < 128 then (if n + x % 128 * p128 i > 1125899906842624 ∨ (x = 0 ∧ 0 < i) then none else some (n + x % 128 * p128 i, i + 1))
      else gnum r (i + 1) (n + x % 128 * p128 i)
    else none

/-- what GetNum answers -/
def getNum (zs : List Int) (at_ : Int) : Option (Int × Nat) := if at_ < 0 then none else gnum (zs.drop at_.toNat) 0 0

/-- GetNum's three results, as a value -/
def getVal (zs : List Int) (at_ : Int) : Value :=
  match getNum zs at_ with
  | some (n, c) => .tuple #[.int .i64 n, .int .i64 (at_ + c), .bool true]
  | none => .tuple #[.int .i64 0, .int .i64 0, .bool false]

theorem getVal_none {zs : List Int} {at_ : Int} (h : getNum zs at_ = none) : getVal zs at_ = .tuple #[.int .i64 0, .int .i64 0, .bool false] := by
  unfold getVal; rw [h]
theorem getVal_some {zs : List Int} {at_ n : Int} {c : Nat} (h : getNum zs at_ = some (n, c)) : getVal zs at_ = .tuple #[.int .i64 n, .int .i64 (at_ + c), .bool true] := by
  unfold getVal; rw [h]

theorem getNum_at (zs : List Int) (t : Nat) : getNum zs (t : Int) = gnum (zs.drop t) 0 0 := by
  unfold getNum; rw [if_neg (by omega)]; simp

theorem drop_at (zs : List Int) (k : Nat) (h : k < zs.length) : zs.drop k = zs.getD k 0 :: zs.drop (k + 1) := by
  rw [List.drop_eq_getElem_cons h]; simp [h]

/-- the state of a reading: j groups are read, their value is n, what is left decides -/
structure Getting (zs : List Int) (t j : Nat) (n : Int) : Prop where
  j8 : j ≤ 8
  lo : 0 ≤ n
  hi : n < p128 j
  eq : gnum (zs.drop t) 0 0 = gnum (zs.drop (t + j)) j n

theorem Getting.start (zs : List Int) (t : Nat) : Getting zs t 0 0 := ⟨by omega, by omega, by decide, rfl⟩

section
variable {zs : List Int} {t j : Nat} {n : Int} (h : Getting zs t j n)
include h

theorem Getting.stop (hs : ¬ (j < 8 ∧ t + j < zs.length)) : getNum zs (t : Int) = none := by
  rw [getNum_at, h.eq]
  by_cases h8 : j < 8
  · have : zs.drop (t + j) = [] := List.drop_eq_nil_of_le (by omega)
    rw [this]; rfl
  · rcases hl : zs.drop (t + j) with _ | ⟨x, r⟩
    · rfl
    · unfold gnum; rw [if_neg h8]

theorem Getting.step {x : Int} (h8 : j < 8) (hl : t + j < zs.length) (hx : x = zs.getD (t + j) 0) :
    gnum (zs.drop t) 0 0 = (if x < 128 then (if n + x % 128 * p128 j > 1125899906842624 ∨ (x = 0 ∧ 0 < j) then none else some (n + x % 128 * p128 j, j + 1))
      else gnum (zs.drop (t + (j + 1))) (j + 1) (n + x % 128 * p128 j)) := by
  rw [h.eq, drop_at zs (t + j) hl, ← hx]
  conv => lhs; unfold gnum
  rw [if_pos h8]
  rfl

theorem Getting.bad {x : Int} (h8 : j < 8) (hl : t + j < zs.length) (hx : x = zs.getD (t + j) 0) (hlt : x < 128) (hb : n + x % 128 * p128 j > 1125899906842624 ∨ (x = 0 ∧ 0 < j)) : getNum zs (t : Int) = none := by
  rw [getNum_at, h.step h8 hl hx, if_pos hlt, if_pos hb]

theorem Getting.good {x : Int} (h8 : j < 8) (hl : t + j < zs.length) (hx : x = zs.getD (t + j) 0) (hlt : x < 128) (hb : ¬ (n + x % 128 * p128 j > 1125899906842624 ∨ (x = 0 ∧ 0 < j))) :
    getNum zs (t : Int) = some (n + x % 128 * p128 j, j + 1) := by
  rw [getNum_at, h.step h8 hl hx, if_pos hlt, if_neg hb]

theorem Getting.prod {x : Int} : 0 ≤ x % 128 * p128 j ∧ n + x % 128 * p128 j < p128 (j + 1) := by
  have h0 : 0 ≤ x % 128 := Int.emod_nonneg _ (by omega)
  have h1 : x % 128 ≤ 127 := by have := Int.emod_lt_of_pos x (show (0 : Int) < 128 by omega); omega
  have hp := p128_pos j
  have hm : x % 128 * p128 j ≤ 127 * p128 j := Int.mul_le_mul_of_nonneg_right h1 (by omega)
  have h2 : 0 ≤ x % 128 * p128 j := Int.mul_nonneg h0 (by omega)
  have := h.hi
  rw [p128_succ]
  omega

theorem Getting.more {x : Int} (h8 : j < 8) (hl : t + j < zs.length) (hx : x = zs.getD (t + j) 0) (hge : ¬ x < 128) : Getting zs t (j + 1) (n + x % 128 * p128 j) := by
  have hp := h.prod (x := x)
  exact ⟨by omega, by have := h.lo; omega, hp.2, by rw [h.step h8 hl hx, if_neg hge]⟩

end

end Go.Proofs.Ytkbhbccpmmhelaa

namespace Go.Proofs.Ytkbhbccpmmhelaa

theorem ofInt_nat (n a : Nat) (h : a < 2 ^ n) : (BitVec.ofInt n (a : Int)).toNat = a := by
  rw [BitVec.ofInt_natCast, BitVec.toNat_ofNat]; exact Nat.mod_eq_of_lt h

theorem bits_and_u8 (a b : Nat) (ha : a < 256) (hb : b < 256) : bits .and .u8 (a : Int) (b : Int) = ((a &&& b : Nat) : Int) := by
  have hx : a &&& b < 2 ^ 8 := Nat.and_lt_two_pow _ (by omega)
  show IntKind.u8.wrap ((BitVec.ofInt 8 (a : Int) &&& BitVec.ofInt 8 (b : Int)).toNat : Int) = _
  rw [BitVec.toNat_and, ofInt_nat 8 a ha, ofInt_nat 8 b hb, IntKind.wrap_u8]
  omega

theorem bits_or_i64 (a b : Nat) (ha : a < 9223372036854775808) (hb : b < 9223372036854775808) : bits .or .i64 (a : Int) (b : Int) = ((a ||| b : Nat) : Int) := by
  have hx : a ||| b < 2 ^ 63 := Nat.or_lt_two_pow (by omega) (by omega)
  show IntKind.i64.wrap ((BitVec.ofInt 64 (a : Int) ||| BitVec.ofInt 64 (b : Int)).toNat : Int) = _
  rw [BitVec.toNat_or, ofInt_nat 64 a (by omega), ofInt_nat 64 b (by omega), IntKind.wrap_i64]
  omega

theorem bits_xor_i64 (a b : Nat) (ha : a < 9223372036854775808) (hb : b < 9223372036854775808) : bits .xor .i64 (a : Int) (b : Int) = ((a ^^^ b : Nat) : Int) := by
  have hx : a ^^^ b < 2 ^ 63 := Nat.xor_lt_two_pow (by omega) (by omega)
  show IntKind.i64.wrap ((BitVec.ofInt 64 (a : Int) ^^^ BitVec.ofInt 64 (b : Int)).toNat : Int) = _
  rw [BitVec.toNat_xor, ofInt_nat 64 a (by omega), ofInt_nat 64 b (by omega), IntKind.wrap_i64]
  omega

theorem bits_xor_u32 (a b : Nat) (ha : a < 4294967296) (hb : b < 4294967296) : bits .xor .u32 (a : Int) (b : Int) = ((a ^^^ b : Nat) : Int) := by
  have hx : a ^^^ b < 2 ^ 32 := Nat.xor_lt_two_pow (by omega) (by omega)
  show IntKind.u32.wrap ((BitVec.ofInt 32 (a : Int) ^^^ BitVec.ofInt 32 (b : Int)).toNat : Int) = _
  rw [BitVec.toNat_xor, ofInt_nat 32 a (by omega), ofInt_nat 32 b (by omega), IntKind.wrap_u32]
  omega

theorem bits_and_u32 (a b : Nat) (ha : a < 4294967296) (hb : b < 4294967296) : bits .and .u32 (a : Int) (b : Int) = ((a &&& b : Nat) : Int) := by
  have hx : a &&& b < 2 ^ 32 := Nat.and_lt_two_pow _ (by omega)
  show IntKind.u32.wrap ((BitVec.ofInt 32 (a : Int) &&& BitVec.ofInt 32 (b : Int)).toNat : Int) = _
  rw [BitVec.toNat_and, ofInt_nat 32 a (by omega), ofInt_nat 32 b (by omega), IntKind.wrap_u32]
  omega

theorem and127 (x : Int) (h0 : 0 ≤ x) (h1 : x ≤ 255) : bits .and .u8 x 127 = x % 128 := by
  obtain ⟨a, rfl⟩ : ∃ a : Nat, x = (a : Int) := ⟨x.toNat, by omega⟩
  have := bits_and_u8 a 127 (by omega) (by omega)
  rw [show ((127 : Nat) : Int) = 127 from rfl] at this
  rw [this, show (127 : Nat) = 2 ^ 7 - 1 from rfl, Nat.and_two_pow_sub_one_eq_mod]
  omega

/-- an or of parts that do not meet is a sum -/
theorem or_shift (n y : Int) (j : Nat) (hj : j ≤ 7) (hn0 : 0 ≤ n) (hn : n < 128 ^ j) (hy0 : 0 ≤ y) (hy : y ≤ 127) :
    bits .or .i64 n (y * 2 ^ (7 * j)) = n + y * 128 ^ j := by
  obtain ⟨a, rfl⟩ : ∃ a : Nat, n = (a : Int) := ⟨n.toNat, by omega⟩
  obtain ⟨b, rfl⟩ : ∃ b : Nat, y = (b : Int) := ⟨y.toNat, by omega⟩
  have e1 : (2 : Int) ^ (7 * j) = ((2 ^ (7 * j) : Nat) : Int) := by simp
  have e2 : (128 : Int) ^ j = ((2 ^ (7 * j) : Nat) : Int) := by rw [Nat.pow_mul]; simp
  rw [e2] at hn ⊢
  rw [e1, ← Int.natCast_mul]
  have hp : 2 ^ (7 * j) ≤ 2 ^ 49 := Nat.pow_le_pow_right (by omega) (by omega)
  have hb : b * 2 ^ (7 * j) ≤ 127 * 2 ^ 49 := Nat.mul_le_mul (by omega) hp
  rw [bits_or_i64 a _ (by omega) (by omega)]
  have := Nat.two_pow_add_eq_or_of_lt (i := 7 * j) (b := a) (by omega) b
  rw [Nat.or_comm, Nat.mul_comm b, ← this]
  simp
  omega

theorem pow_mul_le (y : Int) (j : Nat) (hj : j ≤ 7) (hy0 : 0 ≤ y) (hy : y ≤ 127) : 0 ≤ y * 2 ^ (7 * j) ∧ y * 2 ^ (7 * j) ≤ 72057594037927936 := by
  obtain ⟨b, rfl⟩ : ∃ b : Nat, y = (b : Int) := ⟨y.toNat, by omega⟩
  have e1 : (2 : Int) ^ (7 * j) = ((2 ^ (7 * j) : Nat) : Int) := by simp
  rw [e1, ← Int.natCast_mul]
  have hp : 2 ^ (7 * j) ≤ 2 ^ 49 := Nat.pow_le_pow_right (by omega) (by omega)
  have hb : b * 2 ^ (7 * j) ≤ 127 * 2 ^ 49 := Nat.mul_le_mul (by omega) hp
  omega

end Go.Proofs.Ytkbhbccpmmhelaa

namespace Go.Proofs.Ytkbhbccpmmhelaa

/-- is n a number of the document -/
def numB (n : Int) : Bool := decide (0 ≤ n) && decide (n ≤ 1125899906842624)
theorem numB_true {n : Int} : numB n = true ↔ 0 ≤ n ∧ n ≤ 1125899906842624 := by simp [numB]
theorem numB_false {n : Int} : numB n = false ↔ ¬ (0 ≤ n ∧ n ≤ 1125899906842624) := by rw [← numB_true]; simp

/-- the varint of n -/
def enc (n : Nat) : List Int := if h : 127 < n then (128 + (n % 128 : Nat) : Int) :: enc (n / 128) else [(n : Int)]
termination_by n
decreasing_by omega

theorem enc_big (n : Nat) (h : 127 < n) : enc n = (128 + (n % 128 : Nat) : Int) :: enc (n / 128) := by rw [enc, dif_pos h]
theorem enc_small (n : Nat) (h : ¬ 127 < n) : enc n = [(n : Int)] := by rw [enc, dif_neg h]

theorem enc_len (k n : Nat) (h : n < 128 ^ (k + 1)) : (enc n).length ≤ k + 1 := by
  induction k generalizing n with
  | zero => rw [enc_small n (by omega)]; simp
  | succ k ih =>
    by_cases hb : 127 < n
    · rw [enc_big n hb, List.length_cons]
      have : n / 128 < 128 ^ (k + 1) := by rw [Nat.div_lt_iff_lt_mul (by omega)]; rw [Nat.pow_succ] at h; exact h
      have := ih _ this
      omega
    · rw [enc_small n hb]; simp

theorem enc_len8 (n : Nat) (h : n ≤ 1125899906842624) : (enc n).length ≤ 8 := enc_len 7 n (by omega)

theorem enc_bytes (n : Nat) : ∀ x ∈ enc n, 0 ≤ x ∧ x ≤ 255 := by
  induction n using Nat.strongRecOn with
  | ind n ih =>
    by_cases hb : 127 < n
    · rw [enc_big n hb]
      intro x hx
      rcases List.mem_cons.1 hx with rfl | hx
      · omega
      · exact ih _ (by omega) x hx
    · rw [enc_small n hb]
      intro x hx
      simp at hx
      omega

theorem and127_i64 (n : Int) (h0 : 0 ≤ n) (h1 : n ≤ 9223372036854775807) : bits .and .i64 n 127 = n % 128 := by
  obtain ⟨a, rfl⟩ : ∃ a : Nat, n = (a : Int) := ⟨n.toNat, by omega⟩
  have hx : a &&& 127 < 2 ^ 63 := Nat.and_lt_two_pow _ (by omega)
  show IntKind.i64.wrap ((BitVec.ofInt 64 (a : Int) &&& BitVec.ofInt 64 127).toNat : Int) = _
  rw [BitVec.toNat_and, ofInt_nat 64 a (by omega), show (127 : Int) = ((127 : Nat) : Int) from rfl, ofInt_nat 64 127 (by omega), IntKind.wrap_i64, show (127 : Nat) = 2 ^ 7 - 1 from rfl, Nat.and_two_pow_sub_one_eq_mod]
  omega

theorem or128_i64 (y : Int) (h0 : 0 ≤ y) (h1 : y ≤ 127) : bits .or .i64 y 128 = 128 + y := by
  have := or_shift y 1 1 (by omega) h0 (by omega) (by omega) (by omega)
  simpa [Int.add_comm] using this

/-- the varints of a list of numbers, one behind the other -/
def encs (ns : List Int) : List Int := (ns.map fun n => enc n.toNat).flatten

theorem encs_nil : encs [] = [] := rfl
theorem encs_take (ns : List Int) (k : Nat) (h : k < ns.length) : encs (ns.take (k + 1)) = encs (ns.take k) ++ enc (ns.getD k 0).toNat := by
  unfold encs
  rw [List.take_succ_eq_append_getElem h, List.map_append, List.flatten_append]
  simp [h]
theorem all_take (ns : List Int) (k : Nat) (h : k < ns.length) (ha : (ns.take k).all numB = true) (hk : numB (ns.getD k 0) = true) : (ns.take (k + 1)).all numB = true := by
  rw [List.take_succ_eq_append_getElem h, List.all_append, ha]
  simp [h] at hk
  simp [hk]
theorem not_all (ns : List Int) (k : Nat) (h : k < ns.length) (hk : numB (ns.getD k 0) = false) : ns.all numB = false := by
  rw [Bool.eq_false_iff]
  intro ha
  have := List.all_eq_true.1 ha ns[k] (List.getElem_mem h)
  simp [h] at hk
  rw [hk] at this
  cases this
theorem encs_len (ns : List Int) (h : ns.all numB = true) : (encs ns).length ≤ 8 * ns.length := by
  induction ns with
  | nil => simp [encs]
  | cons n ns ih =>
    rw [List.all_cons, Bool.and_eq_true] at h
    have h1 := ih h.2
    have h2 := numB_true.1 h.1
    have h3 := enc_len8 n.toNat (by omega)
    unfold encs at h1 ⊢
    rw [List.map_cons, List.flatten_cons, List.length_append, List.length_cons]
    omega

/-- PutNum's and PutNums' bytes behind zs -/
def putsL (zs ns : List Int) : List Int := if ns.all numB = true then zs ++ encs ns else []

end Go.Proofs.Ytkbhbccpmmhelaa

namespace Go.Proofs.Ytkbhbccpmmhelaa
open Go.RowKit
set_option linter.unusedVariables false

/-- every element is a byte -/
def Bytes (zs : List Int) : Prop := ∀ j, 0 ≤ zs.getD j 0 ∧ zs.getD j 0 ≤ 255

theorem bytes_of_wf {zs : List Int} (h : ∀ n ∈ zs, (Lit.int .u8 n).wf = true) : Bytes zs := by
  intro j
  by_cases hj : j < zs.length
  · have := h zs[j] (List.getElem_mem hj)
    have h2 : 0 ≤ zs[j] ∧ zs[j] ≤ 255 := by simpa [Lit.wf, IntKind.min, IntKind.max, IntKind.signed, IntKind.bits] using this
    simpa [hj] using h2
  · simp [hj]

theorem ret_eq {a b : Value} (h : a = b) : Ending.returned a = .returned b := by rw [h]

set_option maxHeartbeats 1000000 in
theorem sGetNum_any (A : Option Addr) (c : Nat) (zs : List Int) (a : Int) (w : World) (B : Nat) (hr : Rd .u8 w B A zs) (hb : Bytes zs) (hm : zs.length ≤ 1073741824) (ha1 : -9223372036854775808 ≤ a) (ha2 : a ≤ 9223372036854775807) :
    Calls Try.prog 49 #[.slice A zs.length c, .int .i64 a] w fun e w' => e = .returned (getVal zs a) ∧ w = w' := by
  by_cases hneg : a < 0
  · have hn : getVal zs a = .tuple #[.int .i64 0, .int .i64 0, .bool false] := getVal_none (by unfold getNum; rw [if_pos hneg])
    rw [hn]
    clear hn
    go_enter Try.func49, Try.ntmps49
    go_wp2
    go_ret3
    exact ⟨rfl, rfl⟩
  · obtain ⟨t, rfl⟩ : ∃ t : Nat, a = (t : Int) := ⟨a.toNat, by omega⟩
    clear hneg ha1
    go_enter Try.func49, Try.ntmps49
    go_wp2
    go_loop [7, 8, 9] (fun sn sf si => ∃ (j : Nat) (n f : Int), Getting zs t j n ∧ sn = .int .i64 n ∧ sf = .int .i64 f ∧ Hid (f = p128 j) ∧ si = .int .i64 (t + j) ∧ (j = 0 ∨ t + j ≤ zs.length)) (fun _ _ si => 8 + t - (intOf si).toNat)
    case atStart => exact ⟨0, 0, 1, Getting.start zs t, rfl, rfl, rfl, by simp, .inl rfl⟩
    case round =>
      obtain ⟨j, n, f, hg, rfl, rfl, HF, rfl, hj⟩ := hrel
      have hj8 := hg.j8
      by_cases hin : j < 8 ∧ t + j < zs.length
      · obtain ⟨h8, hl⟩ := hin
        obtain ⟨b, off, rfl, hbb, hc⟩ := hr.at_ hl
        obtain ⟨x, hx⟩ : ∃ x, x = zs.getD (t + j) 0 := ⟨_, rfl⟩
        rw [← hx] at hc
        have hx2 := hb (t + j)
        rw [← hx] at hx2
        obtain ⟨hx0, hx255⟩ := hx2
        have HX := Lib.hid hx
        clear hx
        have hp := hg.prod (x := x)
        have hp7 := p128_le (j + 1) (by omega)
        have hf7 := p128_le7 j (by omega)
        have hf0 := p128_pos j
        rw [← HF.out] at hp hf7 hf0
        obtain ⟨hp1, hp2⟩ := hp
        have hp3 : n + x % 128 * f ≤ 72057594037927936 := by omega
        have hlo := hg.lo
        have i1 : ((t : Int) + (j : Int)) < (zs.length : Int) := by omega
        clear hp2 hp7
        have hfe := HF.out
        by_cases hlt : x < 128
        · by_cases hbig : 1125899906842624 < n + x % 128 * f
          · have E := Lib.hid (getVal_none (hg.bad h8 hl HX.out hlt (.inl (by rw [← hfe]; exact hbig))))
            clear hfe
            go_wp2
            go_ret3
            exact ⟨ret_eq E.out.symm, rfl⟩
          · by_cases hz : x = 0 ∧ 0 < j
            · have E := Lib.hid (getVal_none (hg.bad h8 hl HX.out hlt (.inr hz)))
              clear hfe
              obtain ⟨rfl, hj0⟩ := hz
              have i2 : (t : Int) < (t : Int) + (j : Int) := by omega
              go_wp2
              go_ret3
              exact ⟨ret_eq E.out.symm, rfl⟩
            · have E := Lib.hid (getVal_some (hg.good h8 hl HX.out hlt (by rw [← hfe]; omega)))
              rw [← hfe, show (t : Int) + ((j + 1 : Nat) : Int) = (t : Int) + (j : Int) + 1 by omega] at E
              clear hfe
              by_cases hx0 : x = 0
              · have hx1 : (x == 0) = true := by simpa using hx0
                have i2 : decide ((t : Int) < (t : Int) + (j : Int)) = false := by simp; omega
                clear hx0
                go_wp2
                go_ret3
                exact ⟨ret_eq E.out.symm, rfl⟩
              · have hx1 : (x == 0) = false := by simpa using hx0
                go_wp2
                go_ret3
                exact ⟨ret_eq E.out.symm, rfl⟩
        · have G := hg.more h8 hl HX.out hlt
          have F := Lib.hid (show f * 128 = p128 (j + 1) by rw [p128_succ, hfe])
          rw [← hfe] at G
          clear hfe
          go_wp2
          go_round
          case rel => exact ⟨j + 1, _, _, G, rfl, rfl, F, by go_num, by omega⟩
          case measure => simp [intOf]; omega
      · have E := Lib.hid (getVal_none (hg.stop hin))
        by_cases hl : t + j < zs.length
        · have h8 : j = 8 := by omega
          subst h8
          have i1 : ((t : Int) + (8 : Nat)) < (zs.length : Int) := by omega
          go_wp2
          go_ret3
          exact ⟨ret_eq E.out.symm, rfl⟩
        · have i1 : decide (((t : Int) + (j : Nat)) < (zs.length : Int)) = false := by simp; omega
          go_wp2
          go_ret3
          exact ⟨ret_eq E.out.symm, rfl⟩

set_option maxHeartbeats 1000000 in
theorem iGetNum_any (A : Option Addr) (c : Nat) (zs : List Int) (a : Int) (w : World) (B : Nat) (hr : Rd .u8 w B A zs) (hb : Bytes zs) (hm : zs.length ≤ 1073741824) (hcap : zs.length ≤ c) (hcm : c ≤ maxLen) (ha1 : -9223372036854775808 ≤ a) (ha2 : a ≤ 9223372036854775807) :
    Calls Try.prog 40 #[.slice A zs.length c, .int .i64 a] w fun e w' => e = .returned (getVal zs a) ∧ w = w' := by
  by_cases hneg : a < 0
  · have hn : getVal zs a = .tuple #[.int .i64 0, .int .i64 0, .bool false] := getVal_none (by unfold getNum; rw [if_pos hneg])
    rw [hn]
    clear hn
    go_enter Try.func40, Try.ntmps40
    go_wp2
    go_ret3
    exact ⟨rfl, rfl⟩
  · obtain ⟨t, rfl⟩ : ∃ t : Nat, a = (t : Int) := ⟨a.toNat, by omega⟩
    clear hneg ha1
    by_cases hin : t < zs.length
    · unfold maxLen at hcm
      have hne : ¬ c = t := by omega
      obtain ⟨b, off, rfl, hbb, hcells⟩ := hr (by omega)
      go_enter Try.func40, Try.ntmps40
      go_wp2
      go_loop [7, 22] (fun sn si => ∃ (j : Nat) (n : Int), Getting zs t j n ∧ sn = .int .i64 n ∧ si = .int .i64 j ∧ t + j ≤ zs.length) (fun _ si => 8 + t - (intOf si).toNat)
      case atStart => exact ⟨0, 0, Getting.start zs t, rfl, rfl, by omega⟩
      case round =>
        obtain ⟨j, n, hg, rfl, rfl, hj⟩ := hrel
        have hj8 := hg.j8
        by_cases hin : j < 8 ∧ t + j < zs.length
        · obtain ⟨h8, hl⟩ := hin
          have hc := hcells (t + j) hl
          obtain ⟨x, hx⟩ : ∃ x, x = zs.getD (t + j) 0 := ⟨_, rfl⟩
          rw [← hx, ← Nat.add_assoc] at hc
          have hx2 := hb (t + j)
          rw [← hx] at hx2
          obtain ⟨hx0, hx255⟩ := hx2
          have HX := Lib.hid hx
          clear hx
          have i1 : (j : Int) < ((zs.length - t : Nat) : Int) := by omega
          have i3 : ((j : Int) == 8) = false := by simp; omega
          obtain ⟨y, hy⟩ : ∃ y, bits .and .u8 x 127 = y := ⟨_, rfl⟩
          have hy' : y = x % 128 := by rw [← hy]; exact and127 x hx0 hx255
          have hy0 : 0 ≤ y := by omega
          have hy1 : y ≤ 127 := by omega
          obtain ⟨z, hz⟩ : ∃ z, y * 2 ^ (7 * j) = z := ⟨_, rfl⟩
          have hz' := pow_mul_le y j (by omega) hy0 hy1
          rw [hz] at hz'
          obtain ⟨hz0, hz1⟩ := hz'
          obtain ⟨m, hm⟩ : ∃ m, bits .or .i64 n z = m := ⟨_, rfl⟩
          have hmm : m = n + x % 128 * p128 j := by
            rw [← hm, ← hz, ← hy']
            exact or_shift n y j (by omega) hg.lo hg.hi hy0 hy1
          have hp := hg.prod (x := x)
          have hp7 := p128_le (j + 1) (by omega)
          have hlo := hg.lo
          have hm0 : 0 ≤ m := by omega
          have hm1 : m ≤ 72057594037927936 := by omega
          clear hy' hp hp7
          have HM := Lib.hid hmm
          clear hmm
          by_cases hlt : x < 128
          · by_cases hbig : 1125899906842624 < m
            · have E := Lib.hid (getVal_none (hg.bad h8 hl HX.out hlt (.inl (by rw [← HM.out]; exact hbig))))
              go_wp2
              go_ret3
              exact ⟨ret_eq E.out.symm, rfl⟩
            · by_cases hz : x = 0 ∧ 0 < j
              · have E := Lib.hid (getVal_none (hg.bad h8 hl HX.out hlt (.inr hz)))
                obtain ⟨hx0', hj0⟩ := hz
                have hx1 : (x == 0) = true := by simpa using hx0'
                clear hx0'
                go_wp2
                go_ret3
                exact ⟨ret_eq E.out.symm, rfl⟩
              · have E := Lib.hid (getVal_some (hg.good h8 hl HX.out hlt (by rw [← HM.out]; omega)))
                rw [← HM.out, show (t : Int) + ((j + 1 : Nat) : Int) = (t : Int) + (j : Int) + 1 by omega] at E
                by_cases hx0 : x = 0
                · have hx1 : (x == 0) = true := by simpa using hx0
                  have i2 : decide (0 < (j : Int)) = false := by simp; omega
                  have i4 : decide (0 < j) = false := by simp; omega
                  clear hx0
                  go_wp2
                  go_ret3
                  exact ⟨ret_eq E.out.symm, rfl⟩
                · have hx1 : (x == 0) = false := by simpa using hx0
                  go_wp2
                  go_ret3
                  exact ⟨ret_eq E.out.symm, rfl⟩
          · have G := hg.more h8 hl HX.out hlt
            rw [← HM.out] at G
            go_wp2
            go_round
            case rel => exact ⟨j + 1, _, G, rfl, by go_num, by omega⟩
            case measure => simp [intOf]; omega
        · have E := Lib.hid (getVal_none (hg.stop hin))
          by_cases hl : t + j < zs.length
          · have h8 : j = 8 := by omega
            subst h8
            obtain ⟨x, hx⟩ : ∃ x, x = zs.getD (t + 8) 0 := ⟨_, rfl⟩
            have hc := hcells (t + 8) hl
            rw [← hx, ← Nat.add_assoc] at hc
            clear hx
            have i1 : ((8 : Nat) : Int) < ((zs.length - t : Nat) : Int) := by omega
            go_wp2
            go_ret3
            exact ⟨ret_eq E.out.symm, rfl⟩
          · have i1 : decide ((j : Int) < ((zs.length - t : Nat) : Int)) = false := by simp; omega
            have i2 : decide (j < zs.length - t) = false := by simp; omega
            go_wp2
            go_ret3
            exact ⟨ret_eq E.out.symm, rfl⟩
    · have hn : getVal zs t = .tuple #[.int .i64 0, .int .i64 0, .bool false] := getVal_none (by rw [getNum_at, List.drop_eq_nil_of_le (by omega)]; rfl)
      rw [hn]
      clear hn
      have i1 : (zs.length : Int) ≤ (t : Int) := by omega
      go_enter Try.func40, Try.ntmps40
      go_wp2
      go_ret3
      exact ⟨rfl, rfl⟩

end Go.Proofs.Ytkbhbccpmmhelaa

namespace Go.Proofs.Ytkbhbccpmmhelaa
open Go.RowKit
set_option linter.unusedVariables false

/-- a call that returns a new row of bytes and a bool -/
def GivesL (w : World) (l : List Int) (b : Bool) (e : Ending) (w' : World) : Prop :=
  ∃ v, e = .returned (.tuple #[v, .bool b]) ∧ Own .u8 w' w.heap.size 5 v l ∧ Below w.heap.size w w'

/-- PutNum's bytes -/
def putL (zs : List Int) (n : Int) : List Int := if numB n = true then zs ++ enc n.toNat else []

theorem enc_pre {n m : Nat} {p : List Int} (h : p ++ enc m = enc n) (hn : n ≤ 1125899906842624) : p.length ≤ 8 := by
  have h1 := enc_len8 n hn
  have h2 := congrArg List.length h
  rw [List.length_append] at h2
  omega

theorem enc_go {n m : Nat} {p : List Int} (h : p ++ enc m = enc n) (hm : 127 < m) : (p ++ [(128 : Int) + (m : Int) % 128]) ++ enc (m / 128) = enc n := by
  rw [← h, enc_big m hm, List.append_assoc]
  simp

set_option maxHeartbeats 400000 in
theorem sNum_any (n : Int) (w : World) : Calls Try.prog 25 #[.int .i64 n] w fun e w' => e = .returned (.bool (numB n)) ∧ w = w' := by
  by_cases h0 : 0 ≤ n
  · by_cases h1 : n ≤ 1125899906842624
    · rw [numB_true.2 ⟨h0, h1⟩]
      go_enter Try.func25, Try.ntmps25
      go_wp2
      go_ret
      exact ⟨rfl, rfl⟩
    · rw [numB_false.2 (by omega)]
      have i1 : decide (n ≤ 1125899906842624) = false := by simp; omega
      go_enter Try.func25, Try.ntmps25
      go_wp2
      go_ret
      exact ⟨rfl, rfl⟩
  · rw [numB_false.2 (by omega)]
    have i1 : decide (0 ≤ n) = false := by simp; omega
    go_enter Try.func25, Try.ntmps25
    go_wp2
    go_ret
    exact ⟨rfl, rfl⟩

set_option maxHeartbeats 400000 in
theorem iNum_any (n : Int) (w : World) : Calls Try.prog 44 #[.int .i64 n] w fun e w' => e = .returned (.bool (numB n)) ∧ w = w' := by
  by_cases h0 : 0 ≤ n
  · by_cases h1 : n ≤ 1125899906842624
    · rw [numB_true.2 ⟨h0, h1⟩]
      go_enter Try.func44, Try.ntmps44
      go_wp2
      go_ret
      exact ⟨rfl, rfl⟩
    · rw [numB_false.2 (by omega)]
      have i1 : decide (n ≤ 1125899906842624) = false := by simp; omega
      go_enter Try.func44, Try.ntmps44
      go_wp2
      go_ret
      exact ⟨rfl, rfl⟩
  · rw [numB_false.2 (by omega)]
    have i1 : decide (0 ≤ n) = false := by simp; omega
    go_enter Try.func44, Try.ntmps44
    go_wp2
    go_ret
    exact ⟨rfl, rfl⟩

set_option maxHeartbeats 1000000 in
theorem sPutNum_any (A : Option Addr) (c : Nat) (zs : List Int) (n : Int) (w : World) (hr : Rd .u8 w w.heap.size A zs) (hm : zs.length ≤ 1073741824) (hn1 : -9223372036854775808 ≤ n) (hn2 : n ≤ 9223372036854775807) :
    Calls Try.prog 47 #[.slice A zs.length c, .int .i64 n] w (GivesL w (putL zs n) (numB n)) := by
  by_cases hN : 0 ≤ n ∧ n ≤ 1125899906842624
  · have hb := numB_true.2 hN
    have hp : putL zs n = zs ++ enc n.toNat := by unfold putL; rw [if_pos hb]
    rw [hp, hb]
    obtain ⟨h0, h1⟩ := hN
    obtain ⟨N, rfl⟩ : ∃ N : Nat, n = (N : Int) := ⟨n.toNat, by omega⟩
    have HB := Lib.hid hb
    clear hp hb hn1 hn2
    rw [Int.toNat_natCast]
    obtain ⟨i0, hi, hz0, hz1, hz2⟩ := info_parts Try.info_u8
    have hN : N ≤ 1125899906842624 := by omega
    go_enter Try.func47, Try.ntmps47
    go_wp2_with fail
    refine (sNum_any _ _).mono ?_
    rintro e w' ⟨rfl, rfl⟩
    rw [HB.out]
    go_wp2_with (at_builtin; refine wpl_appI _ .u8 rfl (.tmp 10) (.tmp 11) 32 rfl w.heap.size 5 i0 1 Try.underlying32 hi hz0 hz1 hz2 _ [] rfl (own_none .u8 w w.heap.size 5 (Nat.le_refl _)) w.heap.size A c zs.length zs rfl rfl (hr.below ((Below.refl _ _).alloc (Nat.le_refl _) _)) ?c1 (by omega) ?c2 ?_)
    case c1 => simp; omega
    case c2 => simp
    intro v1 w1 ho1 hg1 hat1
    have hb1 : Below w.heap.size w w1 := grown_below ((Below.refl _ _).alloc (Nat.le_refl _) _) (own_none .u8 w w.heap.size 5 (Nat.le_refl _)) hg1 (Nat.le_refl _) (by simp)
    clear hg1 hat1
    go_wp2
    go_loopw [1, 6] (fun sn sv wr => ∃ (m : Nat) (p : List Int), m ≤ 1125899906842624 ∧ sn = .int .i64 m ∧ Hid (p ++ enc m = enc N) ∧ p.length ≤ 8 ∧ Own .u8 wr w.heap.size 5 sv (zs ++ p) ∧ Below w.heap.size w wr) (fun sn _ _ => (intOf sn).toNat)
    case atStart => exact ⟨N, [], hN, rfl, rfl, by simp, by simpa using ho1, hb1⟩
    case round =>
      obtain ⟨m, p, hmm, rfl, HE, hp8, hown, hbr⟩ := hrel
      by_cases hgt : 127 < m
      · have hp8' := Lib.hid (enc_go HE.out hgt)
        have hlen := enc_pre hp8'.out hN
        have i1 : (127 : Int) < (m : Int) := by omega
        have hsz := hbr.size
        go_wp2_with (at_builtin; refine wpl_appI _ .u8 rfl (.tmp 15) (.tmp 20) 32 rfl w.heap.size 5 i0 1 Try.underlying32 hi hz0 hz1 hz2 _ (zs ++ p) rfl (hown.alloc_ _) _ _ _ 1 [(128 : Int) + (m : Int) % 128] rfl rfl (rd_one _ _ _ _) ?d1 (by omega) ?d2 ?_)
        case d1 => simp; omega
        case d2 => simp; omega
        intro v2 w2 ho2 hg2 hat2
        have hb2 : Below w.heap.size w w2 := grown_below (hbr.alloc hsz _) (hown.alloc_ _) hg2 (Nat.le_refl _) (by simp; omega)
        clear hg2 hat2
        go_wp2
        go_roundw
        case rel => exact ⟨m / 128, p ++ [(128 : Int) + (m : Int) % 128], by omega, by go_num, hp8', hlen, by simpa using ho2, hb2⟩
        case measure => simp [intOf]; omega
      · have HE2 := HE.out
        rw [enc_small m hgt] at HE2
        have HE3 := Lib.hid HE2
        clear HE2
        have i1 : (m : Int) ≤ 127 := by omega
        have hsz := hbr.size
        go_wp2_with (at_builtin; refine wpl_appI _ .u8 rfl (.tmp 24) (.tmp 27) 32 rfl w.heap.size 5 i0 1 Try.underlying32 hi hz0 hz1 hz2 _ (zs ++ p) rfl (hown.alloc_ _) _ _ _ 1 [(m : Int)] rfl rfl (rd_one _ _ _ _) ?e1 (by omega) ?e2 ?_)
        case e1 => simp; omega
        case e2 => simp; omega
        intro v2 w2 ho2 hg2 hat2
        have hb2 : Below w.heap.size w w2 := grown_below (hbr.alloc hsz _) (hown.alloc_ _) hg2 (Nat.le_refl _) (by simp; omega)
        rw [HE3.out] at ho2
        clear hg2 hat2
        go_wp2
        go_ret2
        exact ⟨v2, rfl, ho2, hb2⟩
  · have hb := numB_false.2 hN
    have hp : putL zs n = [] := by unfold putL; rw [hb]; simp
    rw [hp, hb]
    clear hp hb
    have HB := Lib.hid (numB_false.2 hN)
    clear hN
    go_enter Try.func47, Try.ntmps47
    go_wp2_with fail
    refine (sNum_any _ _).mono ?_
    rintro e w' ⟨rfl, rfl⟩
    rw [HB.out]
    go_wp2
    go_ret2
    exact ⟨_, rfl, World.ownsRow_nil _ _ _ _, Below.refl _ _⟩

/-- a call that appends to a row of the caller's own -/
def Grows (base : Nat) (w : World) (l : List Int) (e : Ending) (w' : World) : Prop :=
  ∃ v, e = .returned v ∧ Own .u8 w' base 5 v l ∧ Below base w w'

set_option maxRecDepth 10000 in
set_option maxHeartbeats 1000000 in
theorem iVarint_any (base : Nat) (v : Value) (zs : List Int) (N : Nat) (w : World) (ho : Own .u8 w base 5 v zs) (hm : zs.length ≤ 1099511627000) (hbase : base ≤ w.heap.size) (hN : N ≤ 1125899906842624) :
    Calls Try.prog 48 #[v, .int .i64 N] w (Grows base w (zs ++ enc N)) := by
  obtain ⟨i0, hi, hz0, hz1, hz2⟩ := info_parts Try.info_u8
  go_enter Try.func48, Try.ntmps48
  go_wp2
  go_loopw [0, 1] (fun sv sn wr => ∃ (m : Nat) (p : List Int), m ≤ 1125899906842624 ∧ sn = .int .i64 m ∧ Hid (p ++ enc m = enc N) ∧ p.length ≤ 8 ∧ Own .u8 wr base 5 sv (zs ++ p) ∧ Below base w wr) (fun _ sn _ => (intOf sn).toNat)
  case atStart => exact ⟨N, [], hN, rfl, rfl, by simp, by simpa using ho, Below.refl _ _⟩
  case round =>
    obtain ⟨m, p, hmm, rfl, HE, hp8, hown, hbr⟩ := hrel
    have hsz := hbr.size
    by_cases hgt : 127 < m
    · have hp8' := Lib.hid (enc_go HE.out hgt)
      have hlen := enc_pre hp8'.out hN
      have i1 : (127 : Int) < (m : Int) := by omega
      have e1 := and127_i64 (m : Int) (by omega) (by omega)
      have e2 := or128_i64 ((m : Int) % 128) (by omega) (by omega)
      go_wp2_with (at_builtin; refine wpl_appI _ .u8 rfl (.tmp 7) (.tmp 12) 32 rfl base 5 i0 1 Try.underlying32 hi hz0 hz1 hz2 _ (zs ++ p) rfl (hown.alloc_ _) _ _ _ 1 [(128 : Int) + (m : Int) % 128] rfl rfl (rd_one _ _ _ _) ?d1 (by omega) ?d2 ?_)
      case d1 => simp; omega
      case d2 => simp; omega
      intro v2 w2 ho2 hg2 hat2
      have hb2 : Below base w w2 := grown_below (hbr.alloc (by omega) _) (hown.alloc_ _) hg2 (Nat.le_refl _) (by simp; omega)
      clear hg2 hat2
      go_wp2
      go_roundw
      case rel => exact ⟨m / 128, p ++ [(128 : Int) + (m : Int) % 128], by omega, by go_num, hp8', hlen, by simpa using ho2, hb2⟩
      case measure => simp [intOf]; omega
    · have HE2 := HE.out
      rw [enc_small m hgt] at HE2
      have HE3 := Lib.hid HE2
      clear HE2
      have i1 : (m : Int) ≤ 127 := by omega
      go_wp2_with (at_builtin; refine wpl_appI _ .u8 rfl (.tmp 16) (.tmp 19) 32 rfl base 5 i0 1 Try.underlying32 hi hz0 hz1 hz2 _ (zs ++ p) rfl (hown.alloc_ _) _ _ _ 1 [(m : Int)] rfl rfl (rd_one _ _ _ _) ?e1 (by omega) ?e2 ?_)
      case e1 => simp; omega
      case e2 => simp; omega
      intro v2 w2 ho2 hg2 hat2
      have hb2 : Below base w w2 := grown_below (hbr.alloc (by omega) _) (hown.alloc_ _) hg2 (Nat.le_refl _) (by simp; omega)
      rw [HE3.out] at ho2
      clear hg2 hat2
      go_wp2
      go_ret
      exact ⟨v2, rfl, ho2, hb2⟩

set_option maxHeartbeats 1000000 in
theorem iAppendNums_any (A A' : Option Addr) (c c' : Nat) (zs ns : List Int) (w : World) (hr : Rd .u8 w w.heap.size A zs) (hr' : Rd .i64 w w.heap.size A' ns) (hm : zs.length ≤ 1073741824) (hm' : ns.length ≤ 1073741824) :
    Calls Try.prog 35 #[.slice A zs.length c, .slice A' ns.length c'] w (GivesL w (putsL zs ns) (ns.all numB)) := by
  obtain ⟨i0, hi, hz0, hz1, hz2⟩ := info_parts Try.info_u8
  go_enter Try.func35, Try.ntmps35
  go_wp2_with (at_builtin; refine wpl_appI _ .u8 rfl (.tmp 9) (.tmp 10) 32 rfl w.heap.size 5 i0 1 Try.underlying32 hi hz0 hz1 hz2 _ [] rfl (own_none .u8 w w.heap.size 5 (Nat.le_refl _)) w.heap.size A c zs.length zs rfl rfl (hr.below ((Below.refl _ _).alloc (Nat.le_refl _) _)) ?c1 (by omega) ?c2 ?_)
  case c1 => simp; omega
  case c2 => simp
  intro v1 w1 ho1 hg1 hat1
  have hb1 : Below w.heap.size w w1 := grown_below ((Below.refl _ _).alloc (Nat.le_refl _) _) (own_none .u8 w w.heap.size 5 (Nat.le_refl _)) hg1 (Nat.le_refl _) (by simp)
  clear hg1 hat1
  go_wp2
  go_loopw [6, 14] (fun sv si wr => ∃ k : Nat, k ≤ ns.length ∧ si = .int .i64 k ∧ Hid ((ns.take k).all numB = true) ∧ Own .u8 wr w.heap.size 5 sv (zs ++ encs (ns.take k)) ∧ Below w.heap.size w wr) (fun _ si _ => ns.length - (intOf si).toNat)
  case atStart => exact ⟨0, Nat.zero_le _, rfl, rfl, by simpa [encs] using ho1, hb1⟩
  case round =>
    obtain ⟨k, hk, rfl, HA, hown, hbr⟩ := hrel
    have hsz := hbr.size
    by_cases hlt : k < ns.length
    · obtain ⟨b, off, rfl, hbb, hc⟩ := (hr'.below hbr).at_ hlt
      obtain ⟨x, hx⟩ : ∃ x, ns.getD k 0 = x := ⟨_, rfl⟩
      rw [hx] at hc
      have HX := Lib.hid hx
      clear hx
      have i1 : (k : Int) < (ns.length : Int) := by omega
      have hle := encs_len _ HA.out
      have htl : (ns.take k).length ≤ k := List.length_take_le _ _
      by_cases hnb : numB x = true
      · have hx2 := numB_true.1 hnb
        have HB := Lib.hid hnb
        clear hnb
        obtain ⟨N, rfl⟩ : ∃ N : Nat, x = (N : Int) := ⟨x.toNat, by omega⟩
        go_wp2_with fail
        refine (iNum_any _ _).mono ?_
        rintro e w' ⟨rfl, rfl⟩
        rw [HB.out]
        go_wp2_with fail
        refine (iVarint_any w.heap.size u6 (zs ++ encs (ns.take k)) N wr hown (by rw [List.length_append]; omega) hsz (by omega)).mono ?_
        rintro e w2 ⟨v2, rfl, ho2, hb2⟩
        have HO : Own .u8 w2 w.heap.size 5 v2 (zs ++ encs (ns.take (k + 1))) := by
          rw [encs_take ns k hlt, HX.out, Int.toNat_natCast, ← List.append_assoc]; exact ho2
        have HA2 := Lib.hid (all_take ns k hlt HA.out (by rw [HX.out]; exact HB.out))
        clear ho2
        go_wp2
        go_roundw
        case rel => exact ⟨k + 1, by omega, by go_num, HA2, HO, hbr.trans hb2⟩
        case measure => simp [intOf]; omega
      · have hnb' : numB x = false := by simpa using hnb
        have HB := Lib.hid hnb'
        clear hnb hnb'
        have HN := Lib.hid (not_all ns k hlt (by rw [HX.out]; exact HB.out))
        go_wp2_with fail
        refine (iNum_any _ _).mono ?_
        rintro e w' ⟨rfl, rfl⟩
        rw [HB.out]
        go_wp2
        go_ret2
        exact ⟨_, by rw [HN.out]; rfl, by unfold putsL; rw [HN.out]; exact World.ownsRow_nil _ _ _ _, hbr⟩
    · have hk2 : k = ns.length := by omega
      subst hk2
      have HA2 := HA.out
      rw [List.take_of_length_le (Nat.le_refl _)] at HA2 hown
      have HA3 := Lib.hid HA2
      clear HA2 HA
      go_wp2
      go_ret2
      exact ⟨_, by rw [HA3.out]; rfl, by unfold putsL; rw [if_pos HA3.out]; exact hown, hbr⟩

theorem rd_one64 (w : World) (t : TypeId) (x : Int) : Rd .i64 (w.alloc (.cells #[.int .i64 x] t)) (w.alloc (.cells #[.int .i64 x] t)).heap.size (some ⟨w.heap.size, 0, none⟩) [x] :=
  (rd_one .i64 w t x).more (by simp)

end Go.Proofs.Ytkbhbccpmmhelaa

namespace Go.Proofs.Ytkbhbccpmmhelaa
open Go.RowKit
set_option linter.unusedVariables false

/-- lo ≤ n ≤ hi -/
def inB (n lo hi : Int) : Bool := decide (lo ≤ n ∧ n ≤ hi)
theorem inB_true {n lo hi : Int} : inB n lo hi = true ↔ lo ≤ n ∧ n ≤ hi := by simp [inB]
theorem inB_false {n lo hi : Int} : inB n lo hi = false ↔ ¬ (lo ≤ n ∧ n ≤ hi) := by simp [inB]
/-- an amount -/
def amtB (n : Int) : Bool := inB n 1 1000000000

theorem sIn_any (n lo hi : Int) (w : World) : Calls Try.prog 22 #[.int .i64 n, .int .i64 lo, .int .i64 hi] w fun e w' => e = .returned (.bool (inB n lo hi)) ∧ w = w' := by
  by_cases h0 : lo ≤ n
  · by_cases h1 : n ≤ hi
    · rw [inB_true.2 ⟨h0, h1⟩]
      have i0 : decide (lo ≤ n) = true := decide_eq_true h0
      have i1 : decide (n ≤ hi) = true := decide_eq_true h1
      go_enter Try.func22, Try.ntmps22
      go_wp2
      go_ret
      exact ⟨rfl, rfl⟩
    · rw [inB_false.2 (by omega)]
      have i0 : decide (lo ≤ n) = true := decide_eq_true h0
      have i1 : decide (n ≤ hi) = false := decide_eq_false h1
      go_enter Try.func22, Try.ntmps22
      go_wp2
      go_ret
      exact ⟨rfl, rfl⟩
  · rw [inB_false.2 (by omega)]
    have i1 : decide (lo ≤ n) = false := decide_eq_false h0
    go_enter Try.func22, Try.ntmps22
    go_wp2
    go_ret
    exact ⟨rfl, rfl⟩

theorem sAmt_any (n : Int) (w : World) : Calls Try.prog 24 #[.int .i64 n] w fun e w' => e = .returned (.bool (amtB n)) ∧ w = w' := by
  go_enter Try.func24, Try.ntmps24
  go_wp2_with fail
  refine (sIn_any _ _ _ _).mono ?_
  rintro e w' ⟨rfl, rfl⟩
  go_wp2
  go_ret
  exact ⟨rfl, rfl⟩

theorem iAmt_any (n : Int) (w : World) : Calls Try.prog 43 #[.int .i64 n] w fun e w' => e = .returned (.bool (amtB n)) ∧ w = w' := by
  unfold amtB
  by_cases h0 : 1 ≤ n
  · by_cases h1 : n ≤ 1000000000
    · rw [inB_true.2 ⟨h0, h1⟩]
      go_enter Try.func43, Try.ntmps43
      go_wp2
      go_ret
      exact ⟨rfl, rfl⟩
    · rw [inB_false.2 (by omega)]
      have i1 : decide (n ≤ 1000000000) = false := decide_eq_false h1
      go_enter Try.func43, Try.ntmps43
      go_wp2
      go_ret
      exact ⟨rfl, rfl⟩
  · rw [inB_false.2 (by omega)]
    have i1 : decide (1 ≤ n) = false := decide_eq_false h0
    go_enter Try.func43, Try.ntmps43
    go_wp2
    go_ret
    exact ⟨rfl, rfl⟩

end Go.Proofs.Ytkbhbccpmmhelaa

namespace Go.Proofs.Ytkbhbccpmmhelaa
open Go.RowKit

theorem Try.info_i64 : (Try.prog.info? 3).map (fun i => (i.zero, i.size, i.bytes)) = some (some (.int .i64 0), 1, 8) := by kernel_rfl

/-- the numbers that a marking from k on lays into n places -/
def marks64 (k : Int) (n : Nat) : List Int := (List.range n).map fun i : Nat => (k + (i : Int))

theorem marks64_len (k : Int) (n : Nat) : (marks64 k n).length = n := by simp [marks64]
theorem marks64_getD (k : Int) (n j : Nat) (h : j < n) : (marks64 k n).getD j 0 = (k + (j : Int)) := by simp [marks64, h]

theorem mark64_step (zs : List Int) (k0 : Int) (k : Nat) (h : k < zs.length) :
    (marks64 k0 k ++ zs.drop k).set k (k0 + (k : Int)) = marks64 k0 (k + 1) ++ zs.drop (k + 1) := by
  have e1 := marks64_len k0 k
  rw [List.set_append, if_neg (by omega), e1, Nat.sub_self, List.drop_eq_getElem_cons h, List.set_cons_zero]
  simp [marks64, List.range_succ]

/-- what a marking call leaves: the row holds the marks, no other block has turned -/
def Marked64 (w : World) (base : Nat) (v : Value) (k : Int) (zs : List Int) (e : Ending) (w' : World) : Prop :=
  e = .returned (.int .i64 (k + (zs.length : Int))) ∧ Own .i64 w' base 3 v (marks64 k zs.length) ∧ w.grownBy w' v.ownBlock

end Go.Proofs.Ytkbhbccpmmhelaa

namespace Go.Proofs.Ytkbhbccpmmhelaa
open Go.RowKit
set_option linter.unusedVariables false

end Go.Proofs.Ytkbhbccpmmhelaa

namespace Go.Proofs.Ytkbhbccpmmhelaa

/-- so many numbers from position p on, and the position behind them -/
def getMany (zs : List Int) : Nat → Int → Option (List Int × Int)
  | 0, p => some ([], p)
  | k + 1, p =>
    match getNum zs p with
    | none => none
    | some (n, c) => (getMany zs k (p + c)).map fun r => (n :: r.1, r.2)

/-- what GetNums answers -/
def getNums (zs : List Int) (at_ most : Int) : Option (List Int × Int) :=
  match getNum zs at_ with
  | none => none
  | some (n, c) => if n > most then none else getMany zs n.toNat (at_ + c)

theorem gnum_some {l : List Int} {i : Nat} {n m : Int} {c : Nat} (h : gnum l i n = some (m, c)) (hn : 0 ≤ n) : i + 1 ≤ c ∧ c ≤ i + l.length ∧ 0 ≤ m ∧ m ≤ 1125899906842624 := by
  induction l generalizing i n with
  | nil => simp [gnum] at h
  | cons x l ih =>
    unfold gnum at h
    have hp : 0 ≤ x % 128 * p128 i := Int.mul_nonneg (Int.emod_nonneg _ (by omega)) (by have := p128_pos i; omega)
    split at h
    · split at h
      · split at h
        · cases h
        · simp only [Option.some.injEq, Prod.mk.injEq] at h
          simp only [List.length_cons]
          omega
      · have := ih h (by omega)
        simp only [List.length_cons]
        omega
    · cases h

theorem getNum_some {zs : List Int} {p n : Int} {c : Nat} (h : getNum zs p = some (n, c)) : 0 ≤ p ∧ 1 ≤ c ∧ p + c ≤ zs.length ∧ 0 ≤ n ∧ n ≤ 1125899906842624 := by
  unfold getNum at h
  split at h
  · cases h
  · have h1 := gnum_some h (by omega)
    rw [List.length_drop] at h1
    omega

/-- the state of a reading of total numbers from p0 on: l is read, the next one lies at p -/
structure Gets (zs : List Int) (total : Nat) (p0 : Int) (l : List Int) (p : Int) : Prop where
  le : l.length ≤ total
  lo : 0 ≤ p
  few : (l.length : Int) ≤ p
  hi : p ≤ zs.length
  eq : getMany zs total p0 = (getMany zs (total - l.length) p).map fun r => (l ++ r.1, r.2)

theorem Gets.start {zs : List Int} {total : Nat} {p0 : Int} (h0 : 0 ≤ p0) (h1 : p0 ≤ zs.length) : Gets zs total p0 [] p0 := by
  refine ⟨by simp, h0, by simpa using h0, h1, ?_⟩
  simp

section
variable {zs : List Int} {total : Nat} {p0 p : Int} {l : List Int} (h : Gets zs total p0 l p)
include h

theorem Gets.done (hl : l.length = total) : getMany zs total p0 = some (l, p) := by
  rw [h.eq, hl, Nat.sub_self]
  simp [getMany]

theorem Gets.fails (hl : l.length < total) (hn : getNum zs p = none) : getMany zs total p0 = none := by
  obtain ⟨m, hm⟩ : ∃ m, total - l.length = m + 1 := ⟨total - l.length - 1, by omega⟩
  rw [h.eq, hm]
  simp [getMany, hn]

theorem Gets.next {n : Int} {c : Nat} (hl : l.length < total) (hn : getNum zs p = some (n, c)) : Gets zs total p0 (l ++ [n]) (p + c) := by
  have hs := getNum_some hn
  have h3 := h.few
  refine ⟨by simp; omega, by omega, by simp; omega, by omega, ?_⟩
  obtain ⟨m, hm⟩ : ∃ m, total - l.length = m + 1 := ⟨total - l.length - 1, by omega⟩
  have hm2 : total - (l ++ [n]).length = m := by simp; omega
  rw [h.eq, hm, hm2]
  simp only [getMany, hn, Option.map_map]
  congr 1
  funext r
  simp
end

end Go.Proofs.Ytkbhbccpmmhelaa

namespace Go.Proofs.Ytkbhbccpmmhelaa
open Go.RowKit
set_option linter.unusedVariables false

def gotL (r : Option (List Int × Int)) : List Int := match r with | some (l, _) => l | none => []
def numsP (r : Option (List Int × Int)) : Int := match r with | some (_, p) => p | none => 0

/-- a call that answers a new row of integers, a position and a bool -/
def NewNums (w : World) (l : List Int) (p : Int) (b : Bool) (e : Ending) (w' : World) : Prop :=
  ∃ v, e = .returned (.tuple #[v, .int .i64 p, .bool b]) ∧ OS .i64 3 w' w.heap.size w'.heap.size v l ∧ Below w.heap.size w w'

theorem newNums_none {w w' : World} (hb : Below w.heap.size w w') : NewNums w [] 0 false (.returned (.tuple #[.slice none 0 0, .int .i64 0, .bool false])) w' :=
  ⟨_, rfl, OS.mk_ (World.ownsRow_nil _ _ _ _), hb⟩

/-- the reader's three fields, in their block -/
def Rdr (w : World) (g : Nat) (v : Value) (p : Int) (bad : Bool) : Prop :=
  w.heap[g]? = some (.cells #[v, .int .i64 p, .bool bad] 55 (0, 0))

section
variable {w w' : World} {g : Nat} {v : Value} {p : Int} {bad : Bool}
theorem Rdr.cells (h : Rdr w g v p bad) : w.cell? ⟨g, 0, none⟩ = some v ∧ w.cell? ⟨g, 1, none⟩ = some (.int .i64 p) ∧ w.cell? ⟨g, 2, none⟩ = some (.bool bad) ∧ w.frozen? ⟨g, 1, none⟩ = false ∧ w.frozen? ⟨g, 2, none⟩ = false :=
  ⟨by rw [cell_of_row w g 0 _ _ _ h]; rfl, by rw [cell_of_row w g 1 _ _ _ h]; rfl, by rw [cell_of_row w g 2 _ _ _ h]; rfl, frozen_of_row w g 1 _ _ h, frozen_of_row w g 2 _ _ h⟩
theorem Rdr.drewN (h : Rdr w g v p bad) (n : Nat) : Rdr (w.drewN n) g v p bad := h
theorem Rdr.setBad (h : Rdr w g v p bad) (b : Bool) : Rdr (w.setCell ⟨g, 2, none⟩ (.bool b)) g v p b := heap_setCell_same w g 2 _ _ _ h
theorem Rdr.setAt (h : Rdr w g v p bad) (q : Int) : Rdr (w.setCell ⟨g, 1, none⟩ (.int .i64 q)) g v q bad := heap_setCell_same w g 1 _ _ _ h
theorem Rdr.lt (h : Rdr w g v p bad) : g < w.heap.size := by
  rcases Nat.lt_or_ge g w.heap.size with hlt | hge
  · exact hlt
  · unfold Rdr at h; rw [Array.getElem?_eq_none hge] at h; cases h
theorem Rdr.kept {row : Option Nat} (h : Rdr w g v p bad) (hg : w.grownBy w' row) (hne : some g ≠ row) : Rdr w' g v p bad := (hg.block g h.lt hne).trans h
theorem Rdr.alloc (h : Rdr w g v p bad) (o : Obj) : Rdr (w.alloc o) g v p bad := (Below.heap_alloc w o g h.lt).trans h
end

/-- what a reading of one number leaves: only the reader's block has turned -/
def Read1 (w : World) (g : Nat) (v : Value) (x q : Int) (bad : Bool) (e : Ending) (w' : World) : Prop :=
  e = .returned (.int .i64 x) ∧ Rdr w' g v q bad ∧ w.grownBy w' (some g)

set_option maxHeartbeats 400000 in
theorem sGet_bad (g : Nat) (v : Value) (p : Int) (w : World) (h : Rdr w g v p true) :
    Calls Try.prog 37 #[.pointer (some ⟨g, 0, none⟩)] w (Read1 w g v 0 p true) := by
  obtain ⟨c0, c1, c2, f1, f2⟩ := h.cells
  go_enter Try.func37, Try.ntmps37
  go_wp2
  go_ret
  exact ⟨rfl, h, World.grownBy.refl _ _⟩

set_option maxHeartbeats 1000000 in
theorem sGet_ok (g : Nat) (A : Option Addr) (c : Nat) (zs : List Int) (p x q : Int) (b : Bool) (w : World) (h : Rdr w g (.slice A zs.length c) p false) (hr : Rd .u8 w w.heap.size A zs) (hb : Bytes zs) (hm : zs.length ≤ 16777216)
    (hp1 : -9223372036854775808 ≤ p) (hp2 : p ≤ 9223372036854775807) (HV : Hid (getVal zs p = .tuple #[.int .i64 x, .int .i64 q, .bool b])) :
    Calls Try.prog 37 #[.pointer (some ⟨g, 0, none⟩)] w (Read1 w g (.slice A zs.length c) x q (!b)) := by
  obtain ⟨c0, c1, c2, f1, f2⟩ := h.cells
  have K : ∀ n, Calls Try.prog 49 #[.slice A zs.length c, .int .i64 p] (w.drewN n) fun e w' => e = .returned (.tuple #[.int .i64 x, .int .i64 q, .bool b]) ∧ w' = w.drewN n := fun n => by
    rw [← HV.out]
    exact (sGetNum_any A c zs p (w.drewN n) _ (hr.drewN n) hb (by omega) hp1 hp2).mono fun e w' ⟨he, hw⟩ => ⟨he, hw.symm⟩
  go_enter Try.func37, Try.ntmps37
  go_wp2_with fail
  go_quiet ((go_at_call 49; exact Calls.quiet_of_same (K _)))
  have h1 := (h.drewN nq).setBad (!b)
  obtain ⟨d0, d1, d2, g1, g2⟩ := h1.cells
  have h2 := h1.setAt q
  have hgr : w.grownBy (((w.drewN nq).setCell ⟨g, 2, none⟩ (.bool (!b))).setCell ⟨g, 1, none⟩ (.int .i64 q)) (some g) :=
    grownBy_set (grownBy_set (show w.grownBy (w.drewN nq) (some g) from ⟨rfl, rfl, rfl, Nat.le_refl _, fun _ _ _ => rfl⟩) 2 _) 1 _
  clear h1 K
  go_wp2
  go_ret
  exact ⟨rfl, h2, hgr⟩

/-- what l01List leaves -/
def Listed (w : World) (g : Nat) (v : Value) (r : Option (List Int × Int)) (e : Ending) (w' : World) : Prop :=
  ∃ v2, e = .returned v2 ∧ w.grownBy w' (some g) ∧ match r with
    | none => ∃ q, Rdr w' g v q true
    | some (l, p) => Rdr w' g v p false ∧ Own .i64 w' w.heap.size 3 v2 l

/-- the loop's state: reading goes on, or has failed -/
def Listing (w : World) (g : Nat) (v : Value) (zs : List Int) (N : Nat) (p0 : Int) (i : Nat) (sl : Value) (wr : World) : Prop :=
  w.grownBy wr (some g) ∧ ((∃ (l : List Int) (p : Int), l.length = i ∧ Gets zs N p0 l p ∧ Rdr wr g v p false ∧ Own .i64 wr w.heap.size 3 sl l) ∨ (getMany zs N p0 = none ∧ ∃ q, Rdr wr g v q true))

theorem grown_alloc {w w' : World} {row : Option Nat} (h : w.grownBy w' row) (o : Obj) : w.grownBy (w'.alloc o) row :=
  ⟨h.os, h.tape, h.output, by have := h.size; simp; omega, fun k hk hne => (Below.heap_alloc w' o k (by have := h.size; omega)).trans (h.block k hk hne)⟩

theorem rd_grown {k : IntKind} {w w' : World} {B g : Nat} {A : Option Addr} {zs : List Int} (h : Rd k w B A zs) (hg : w.grownBy w' (some g)) (hB : B ≤ w.heap.size) (hBg : B ≤ g) : Rd k w' B A zs :=
  h.keep fun p hp => World.cell?_of_block (hg.block p.block (by omega) (fun e => by simp at e; omega))

theorem grown_two {a b c : World} {g : Nat} {row : Option Nat} (h : a.grownBy b (some g)) (k : b.grownBy c row) (hr : ∀ j, row = some j → a.heap.size ≤ j ∨ j = g) : a.grownBy c (some g) :=
  ⟨k.os.trans h.os, k.tape.trans h.tape, k.output.trans h.output, Nat.le_trans h.size k.size, fun i hi hne =>
    (k.block i (by have := h.size; omega) (fun e => by rcases hr i e.symm with h1 | h1
                                                       · omega
                                                       · exact hne (by rw [h1]))).trans (h.block i hi hne)⟩

theorem getMany_len {zs : List Int} {k : Nat} {p0 p : Int} {l : List Int} (h : getMany zs k p0 = some (l, p)) (h0 : 0 ≤ p0) : (l.length : Int) ≤ zs.length ∨ l = [] := by
  have : ∀ (k : Nat) (p0 p : Int) (l : List Int), getMany zs k p0 = some (l, p) → 0 ≤ p0 → l = [] ∨ p0 + (l.length : Int) ≤ zs.length := by
    intro k
    induction k with
    | zero =>
      intro p0 p l h _
      simp [getMany] at h
      exact .inl h.1
    | succ k ih =>
      intro p0 p l h h0
      unfold getMany at h
      rcases hg : getNum zs p0 with _ | ⟨n, c⟩
      · rw [hg] at h; cases h
      · rw [hg] at h
        have hs := getNum_some hg
        rcases hr : getMany zs k (p0 + c) with _ | ⟨l', p'⟩
        · simp [hr] at h
        · simp [hr] at h
          obtain ⟨rfl, rfl⟩ := h
          rcases ih _ _ _ hr (by omega) with rfl | h2
          · right; simp; omega
          · right; simp; omega
  rcases this k p0 p l h h0 with h1 | h1
  · exact .inr h1
  · exact .inl (by omega)

theorem nums_len (zs : List Int) (a most : Int) : (gotL (getNums zs a most)).length ≤ zs.length := by
  rcases h : getNums zs a most with _ | ⟨l, p⟩
  · simp [gotL]
  · unfold getNums at h
    rcases hg : getNum zs a with _ | ⟨n, c⟩
    · rw [hg] at h; cases h
    · rw [hg] at h
      have hs := getNum_some hg
      dsimp only at h
      split at h
      · cases h
      · rcases getMany_len h (by omega) with h2 | h2
        · simp [gotL]; omega
        · simp [gotL, h2]

end Go.Proofs.Ytkbhbccpmmhelaa

namespace Go.Proofs.Ytkbhbccpmmhelaa
open Go.RowKit
set_option linter.unusedVariables false

/-- one number read: the number, the place behind it, has reading failed -/
def rdNum (zs : List Int) (p : Int) (bad : Bool) : Int × Int × Bool :=
  if bad then (0, p, true) else match getNum zs p with
    | none => (0, 0, true)
    | some (n, c) => (n, p + c, false)
theorem rdNum_bad (zs : List Int) (p : Int) : rdNum zs p true = (0, p, true) := rfl
theorem rdNum_none {zs : List Int} {p : Int} (h : getNum zs p = none) : rdNum zs p false = (0, 0, true) := by unfold rdNum; rw [h]; rfl
theorem rdNum_some {zs : List Int} {p n : Int} {c : Nat} (h : getNum zs p = some (n, c)) : rdNum zs p false = (n, p + c, false) := by unfold rdNum; rw [h]; rfl
/-- the place stays within an int's range, the number is one -/
theorem rdNum_range (zs : List Int) (p : Int) (bad : Bool) (hz : zs.length ≤ 1073741824) (hp : -9223372036854775808 ≤ p ∧ p ≤ 9223372036854775807) :
    (0 ≤ (rdNum zs p bad).1 ∧ (rdNum zs p bad).1 ≤ 1125899906842624) ∧ (-9223372036854775808 ≤ (rdNum zs p bad).2.1 ∧ (rdNum zs p bad).2.1 ≤ 9223372036854775807) := by
  cases bad with
  | true => rw [rdNum_bad]; exact ⟨by simp, hp⟩
  | false =>
    rcases hg : getNum zs p with _ | ⟨n, c⟩
    · rw [rdNum_none hg]; simp
    · rw [rdNum_some hg]
      have := getNum_some hg
      exact ⟨⟨this.2.2.2.1, this.2.2.2.2⟩, by constructor <;> simp <;> omega⟩

/-- the reader's variable -/
abbrev RdVr (w : World) (g : Nat) (A : Option Addr) (c : Nat) (zs : List Int) (p : Int) (bad : Bool) : Prop := Vr w g 55 [.slice A zs.length c, .int .i64 p, .bool bad]

set_option maxHeartbeats 400000 in
theorem sGet_c {w : World} {g : Nat} {A : Option Addr} {c : Nat} {zs : List Int} {p : Int} {bad : Bool} (x : RdVr w g A c zs p bad) (hr : Rd .u8 w g A zs) (hb : Bytes zs) (hm : zs.length ≤ 16777216) (hp : -9223372036854775808 ≤ p ∧ p ≤ 9223372036854775807) :
    Calls Try.prog 37 #[.pointer (some ⟨g, 0, none⟩)] w fun e w' => e = .returned (.int .i64 (rdNum zs p bad).1) ∧ RdVr w' g A c zs (rdNum zs p bad).2.1 (rdNum zs p bad).2.2 ∧ Chg g (g + 1) w w' := by
  have hg := x.lt
  cases bad with
  | true =>
    exact (sGet_bad g (.slice A zs.length c) p w x).mono fun e w' ⟨he, h1, h2⟩ => ⟨he, h1, Chg.of_grown h2 fun j hj => by simp at hj; omega⟩
  | false =>
    rcases hn : getNum zs p with _ | ⟨n, k⟩
    · rw [rdNum_none hn]
      exact (sGet_ok g A c zs p 0 0 false w x (hr.more (by omega)) hb hm hp.1 hp.2 (Lib.hid (getVal_none hn))).mono fun e w' ⟨he, h1, h2⟩ => ⟨he, h1, Chg.of_grown h2 fun j hj => by simp at hj; omega⟩
    · rw [rdNum_some hn]
      exact (sGet_ok g A c zs p n (p + k) true w x (hr.more (by omega)) hb hm hp.1 hp.2 (Lib.hid (getVal_some hn))).mono fun e w' ⟨he, h1, h2⟩ => ⟨he, h1, Chg.of_grown h2 fun j hj => by simp at hj; omega⟩

end Go.Proofs.Ytkbhbccpmmhelaa

namespace Go.Proofs.Ytkbhbccpmmhelaa

theorem gnum_enc (n : Nat) : ∀ (i : Nat) (acc : Int) (ys : List Int), i + (enc n).length ≤ 8 → acc + (n : Int) * p128 i ≤ 1125899906842624 → (0 < n ∨ i = 0) →
    gnum (enc n ++ ys) i acc = some (acc + (n : Int) * p128 i, i + (enc n).length) := by
  induction n using Nat.strongRecOn with
  | ind n ih =>
    intro i acc ys hl hm hz
    by_cases hb : 127 < n
    · rw [enc_big n hb] at hl ⊢
      rw [List.length_cons] at hl
      rw [List.cons_append, gnum, if_pos (by omega), if_neg (by omega)]
      have e1 : ((128 : Int) + ((n % 128 : Nat) : Int)) % 128 = ((n % 128 : Nat) : Int) := by omega
      rw [e1]
      have hp := p128_succ i
      have hn : (n : Int) = 128 * ((n / 128 : Nat) : Int) + ((n % 128 : Nat) : Int) := by omega
      have e2 : acc + ((n % 128 : Nat) : Int) * p128 i + ((n / 128 : Nat) : Int) * p128 (i + 1) = acc + (n : Int) * p128 i := by
        rw [hp, hn]
        have : ((n / 128 : Nat) : Int) * (p128 i * 128) = 128 * ((n / 128 : Nat) : Int) * p128 i := by
          rw [Int.mul_comm (p128 i) 128, ← Int.mul_assoc, Int.mul_comm ((n / 128 : Nat) : Int) 128]
        rw [this, Int.add_mul]; omega
      have := ih (n / 128) (by omega) (i + 1) (acc + ((n % 128 : Nat) : Int) * p128 i) ys (by omega) (by rw [e2]; exact hm) (.inl (by omega))
      rw [this, e2, List.length_cons]
      simp; omega
    · rw [enc_small n hb] at hl ⊢
      simp only [List.length_singleton] at hl ⊢
      rw [List.singleton_append, gnum, if_pos (by omega), if_pos (by omega)]
      have e1 : (n : Int) % 128 = (n : Int) := by omega
      rw [e1, if_neg]
      rintro (h | ⟨h1, h2⟩)
      · omega
      · omega

theorem getNum_enc (xs ys : List Int) (n : Nat) (hn : n ≤ 1125899906842624) : getNum (xs ++ (enc n ++ ys)) (xs.length : Int) = some ((n : Int), (enc n).length) := by
  rw [getNum_at, List.drop_left]
  have hl := enc_len8 n hn
  have := gnum_enc n 0 0 ys (by omega) (by rw [p128_zero]; omega) (.inr rfl)
  rw [p128_zero] at this
  simpa using this

theorem getMany_encs (ns : List Int) : ∀ (xs ys : List Int), ns.all numB = true → getMany (xs ++ (encs ns ++ ys)) ns.length (xs.length : Int) = some (ns, ((xs.length + (encs ns).length : Nat) : Int)) := by
  induction ns with
  | nil => intro xs ys _; simp [getMany, encs]
  | cons n ns ih =>
    intro xs ys ha
    rw [List.all_cons, Bool.and_eq_true] at ha
    have hn := numB_true.1 ha.1
    obtain ⟨N, rfl⟩ : ∃ N : Nat, n = (N : Int) := ⟨n.toNat, by omega⟩
    have e : encs ((N : Int) :: ns) = enc N ++ encs ns := by simp [encs]
    rw [e, List.append_assoc, List.length_cons, getMany, getNum_enc xs (encs ns ++ ys) N (by omega)]
    have := ih (xs ++ enc N) ys ha.2
    rw [List.append_assoc, List.length_append] at this
    dsimp only
    rw [show (xs.length : Int) + ((enc N).length : Int) = ((xs.length + (enc N).length : Nat) : Int) by simp]
    simp only [this]
    simp [Nat.add_assoc]

/-- GetNums reads what PutNums wrote -/
theorem getNums_puts (ns : List Int) (h : ns.all numB = true) (hl : ns.length ≤ 1125899906842624) : getNums (encs ((ns.length : Int) :: ns)) 0 (ns.length : Int) = some (ns, ((encs ((ns.length : Int) :: ns)).length : Int)) := by
  have e : encs ((ns.length : Int) :: ns) = enc ns.length ++ encs ns := by simp [encs]
  have h1 := getNum_enc [] (encs ns) ns.length hl
  rw [List.nil_append, List.length_nil] at h1
  have h2 := getMany_encs ns (enc ns.length) [] h
  rw [List.append_nil] at h2
  unfold getNums
  rw [e]
  simp only [show ((0 : Nat) : Int) = 0 from rfl] at h1
  rw [h1]
  simp only [Int.toNat_natCast, Int.zero_add]
  rw [if_neg (by omega), h2]
  simp

theorem allNum {n : Int} {l : List Int} (h : ∀ x ∈ l, 0 ≤ x ∧ x < n) (hn : n ≤ 1125899906842624) : l.all numB = true := by
  rw [List.all_eq_true]
  intro x hx
  have := h x hx
  exact numB_true.2 (by omega)

end Go.Proofs.Ytkbhbccpmmhelaa

namespace Go.Proofs.Ytkbhbccpmmhelaa
open Go.RowKit
set_option linter.unusedVariables false

theorem run_conv {P : Program} (w : World) (src e dst : TypeId) (hs : P.underlying src = some (.slice e)) (he : P.underlying e = some (.int .u8)) (hd : P.underlying dst = some .string)
    (A : Option Addr) (c B : Nat) (zs : List Int) (hr : Rd .u8 w B A zs) : (convert src dst (.slice A zs.length c)).run P w = .ok (.string (strOfNums zs)) w := by
  rcases A with _ | a
  · have h0 : zs = [] := by
      rcases Nat.eq_zero_or_pos zs.length with h | h
      · exact List.eq_nil_of_length_eq_zero h
      · obtain ⟨b, off, h', _⟩ := hr h; cases h'
    subst h0
    exact run_convert_bytes_nil w src e hs he _ c dst hd
  · rcases Nat.eq_zero_or_pos zs.length with h | h
    · obtain rfl := List.eq_nil_of_length_eq_zero h
      have hl : (loadCells a 0).run P w = .ok ((([] : List Int).map (Value.int .u8)).toArray) w := by
        have := run_loadCells_list (P := P) w a [] (fun j v hj => by simp at hj)
        simpa using this
      rw [List.length_nil, run_convert_bytes_string w src dst e _ 0 c hs he hd, run_bytesToString w a 0 c [] hl]
      rfl
    · obtain ⟨b, off, h', _, hc⟩ := hr h
      simp only [Option.some.injEq] at h'
      subst h'
      exact run_convert_bytes_arg w src e hs he b off zs.length c zs rfl hc dst hd

theorem str_same (s s' : ByteArray) : (s.toList == s'.toList) = decide (s = s') := by
  rw [ByteArray.toList_eq, ByteArray.toList_eq]
  by_cases h : s = s'
  · simp [h]
  · have : ¬ s.data.toList = s'.data.toList := fun e => h (WideShapes.bytes_inj e)
    simp only [h, decide_false, beq_eq_false_iff_ne]
    exact this

theorem conv_one (W : World) (x : Int) : (convert 32 9 (.slice (some ⟨W.heap.size, 0, none⟩) 1 1)).run Try.prog (W.alloc (.cells #[.int .u8 x] 5)) = .ok (.string (strOfNums [x])) (W.alloc (.cells #[.int .u8 x] 5)) :=
  run_conv (P := Try.prog) _ 32 5 9 Try.underlying32 Try.underlying5 Try.underlying9 _ 1 _ [x] (rd_one .u8 W _ x)

end Go.Proofs.Ytkbhbccpmmhelaa

namespace Go.Proofs.Ytkbhbccpmmhelaa

/-- the pieces that end before position k, and where the open piece begins -/
def splitSt (s : ByteArray) (b : Nat) : Nat → List ByteArray × Nat
  | 0 => ([], 0)
  | k + 1 => if (s.get! k).toNat = b then ((splitSt s b k).1 ++ [s.extract (splitSt s b k).2 k], k + 1) else splitSt s b k

/-- all the pieces -/
def splitL (s : ByteArray) (b : Nat) : List ByteArray := (splitSt s b s.size).1 ++ [s.extract (splitSt s b s.size).2 s.size]

theorem splitSt_le (s : ByteArray) (b k : Nat) : (splitSt s b k).2 ≤ k ∧ (splitSt s b k).1.length ≤ k := by
  induction k with
  | zero => simp [splitSt]
  | succ k ih =>
    unfold splitSt
    split
    · simp; omega
    · omega
theorem splitSt_hit {s : ByteArray} {b k : Nat} (h : (s.get! k).toNat = b) : splitSt s b (k + 1) = ((splitSt s b k).1 ++ [s.extract (splitSt s b k).2 k], k + 1) := by
  rw [splitSt, if_pos h]
theorem splitSt_miss {s : ByteArray} {b k : Nat} (h : (s.get! k).toNat ≠ b) : splitSt s b (k + 1) = splitSt s b k := by
  rw [splitSt, if_neg h]
theorem splitSt_skip {s : ByteArray} {b : Nat} (k n : Nat) (h : ∀ j, j < n → (s.get! (k + j)).toNat ≠ b) : splitSt s b (k + n) = splitSt s b k := by
  induction n with
  | zero => rfl
  | succ n ih =>
    rw [← Nat.add_assoc, splitSt_miss (h n (by omega))]
    exact ih fun j hj => h j (by omega)
theorem splitL_len (s : ByteArray) (b : Nat) : (splitL s b).length ≤ s.size + 1 := by
  have := (splitSt_le s b s.size).2
  simp [splitL]; omega
theorem splitL_ne (s : ByteArray) (b : Nat) : splitL s b ≠ [] := by simp [splitL]

theorem get_bang (s : ByteArray) (k : Nat) (h : k < s.size) : s.get! k = s[k]'h := by
  simp [ByteArray.get!, getElem!_pos, h]
  rfl

/-- the bytes of a rune of several bytes are all above ASCII, and lie within the string -/
theorem decode_span (s : ByteArray) (p : Nat) (h : p < s.size) (ha : ¬ (s.get! p).toNat < 128) :
    p + (Utf8.decode s p).2 ≤ s.size ∧ 1 ≤ (Utf8.decode s p).2 ∧ ∀ j, j < (Utf8.decode s p).2 → 128 ≤ (s.get! (p + j)).toNat := by
  have hb : ∀ k, (s.get! (p + k)).toNat < 256 := fun k => (s.get! (p + k)).toNat_lt
  have h0 := hb 0; have h1 := hb 1; have h2 := hb 2; have h3 := hb 3
  simp only [Utf8.decode, Nat.add_zero]
  rw [if_neg ha]
  repeat' split
  all_goals simp_all only [Bool.and_eq_true, beq_iff_eq, decide_eq_true_eq, Nat.add_zero]
  all_goals refine ⟨by omega, by omega, fun j hj => ?_⟩
  all_goals
    have hj4 : j = 0 ∨ j = 1 ∨ j = 2 ∨ j = 3 := by omega
    rcases hj4 with rfl | rfl | rfl | rfl <;> (try simp only [Nat.add_zero]) <;> omega

end Go.Proofs.Ytkbhbccpmmhelaa
