/- Contracts of the draws' cursor: spec.l01New, l01Byte, l01Below. What they answer lies within bounds; the cursor's block alone turns. -/
import Derived.Test.YtopmojfcdmcmbaaProg
import Derived.Test.YtopmojfcdmcmbaaApp
import Derived.Test.YtopmojfcdmcmbaaBits
import Derived.Test.YtopmojfcdmcmbaaGetNum
import Derived.Deep.QuietTactic
import Derived.BigQuiet
namespace Go.Proofs.Ytopmojfcdmcmbaa
open Go.RowKit
set_option linter.unusedVariables false

/-- the cursor's three fields, in their block -/
def Cur (w : World) (g : Nat) (v : Value) (i h : Int) : Prop :=
  w.heap[g]? = some (.cells #[v, .int .i64 i, .int .i64 h] 53 (0, 0))

section
variable {w w' : World} {g : Nat} {v : Value} {i h : Int}
theorem Cur.cells (k : Cur w g v i h) : w.cell? ⟨g, 0, none⟩ = some v ∧ w.cell? ⟨g, 1, none⟩ = some (.int .i64 i) ∧ w.cell? ⟨g, 2, none⟩ = some (.int .i64 h) ∧ w.frozen? ⟨g, 1, none⟩ = false ∧ w.frozen? ⟨g, 2, none⟩ = false :=
  ⟨by rw [cell_of_row w g 0 _ _ _ k]; rfl, by rw [cell_of_row w g 1 _ _ _ k]; rfl, by rw [cell_of_row w g 2 _ _ _ k]; rfl, frozen_of_row w g 1 _ _ k, frozen_of_row w g 2 _ _ k⟩
theorem Cur.drewN (k : Cur w g v i h) (n : Nat) : Cur (w.drewN n) g v i h := k
theorem Cur.setH (k : Cur w g v i h) (x : Int) : Cur (w.setCell ⟨g, 2, none⟩ (.int .i64 x)) g v i x := heap_setCell_same w g 2 _ _ _ k
theorem Cur.setI (k : Cur w g v i h) (x : Int) : Cur (w.setCell ⟨g, 1, none⟩ (.int .i64 x)) g v x h := heap_setCell_same w g 1 _ _ _ k
theorem Cur.lt (k : Cur w g v i h) : g < w.heap.size := by
  rcases Nat.lt_or_ge g w.heap.size with hlt | hge
  · exact hlt
  · unfold Cur at k; rw [Array.getElem?_eq_none hge] at k; cases k
theorem Cur.kept {row : Option Nat} (k : Cur w g v i h) (hg : w.grownBy w' row) (hne : some g ≠ row) : Cur w' g v i h := (hg.block g k.lt hne).trans k
theorem Cur.alloc (k : Cur w g v i h) (o : Obj) : Cur (w.alloc o) g v i h := (Below.heap_alloc w o g k.lt).trans k
theorem Cur.below {B : Nat} (k : Cur w g v i h) (hb : Below B w w') (hB : g < B) : Cur w' g v i h := (hb.block g hB).trans k
end

/-- a cursor at block g over the bytes zs -/
def CurOk (w : World) (g : Nat) (A : Option Addr) (c : Nat) (zs : List Int) : Prop :=
  ∃ i : Nat, ∃ h : Int, Cur w g (.slice A zs.length c) i h ∧ i ≤ zs.length ∧ -9223372036854775808 ≤ h ∧ h ≤ 9223372036854775807 ∧ Rd .u8 w g A zs

theorem and255 (x : Int) : 0 ≤ bits .and .i64 x 255 ∧ bits .and .i64 x 255 ≤ 255 := by
  have h1 : (BitVec.ofInt 64 x &&& BitVec.ofInt 64 255).toNat ≤ 255 := by
    rw [BitVec.toNat_and]
    exact Nat.le_trans Nat.and_le_right (by decide)
  have e : bits .and .i64 x 255 = IntKind.i64.wrap ((BitVec.ofInt 64 x &&& BitVec.ofInt 64 255).toNat : Int) := rfl
  rw [e, IntKind.wrap_i64]
  omega

theorem wrap64_range (n : Int) : -9223372036854775808 ≤ wrap64 n ∧ wrap64 n ≤ 9223372036854775807 := by
  unfold wrap64; omega

/-- what a draw leaves: a number, and the cursor moved on -/
def Drawn (w : World) (g : Nat) (A : Option Addr) (c : Nat) (zs : List Int) (P : Int → Prop) (e : Ending) (w' : World) : Prop :=
  ∃ x : Int, e = .returned (.int .i64 x) ∧ P x ∧ CurOk w' g A c zs ∧ w.grownBy w' (some g)

set_option maxHeartbeats 1000000 in
theorem cByte_any (g : Nat) (A : Option Addr) (c : Nat) (zs : List Int) (w : World) (hk : CurOk w g A c zs) (hb : Bytes zs) (hm : zs.length ≤ 1073741824) :
    Calls Try.prog 72 #[.pointer (some ⟨g, 0, none⟩)] w (Drawn w g A c zs (fun x => 0 ≤ x ∧ x ≤ 255)) := by
  obtain ⟨i, h, hc, hi, hh1, hh2, hr⟩ := hk
  obtain ⟨c0, c1, c2, f1, f2⟩ := hc.cells
  obtain ⟨a, ha⟩ : ∃ a, wrap64 (h * 6364136223846793005) = a := ⟨_, rfl⟩
  obtain ⟨h', hh'⟩ : ∃ h', wrap64 (a + 1442695040888963407) = h' := ⟨_, rfl⟩
  have hr1 := wrap64_range (a + 1442695040888963407)
  rw [hh'] at hr1
  obtain ⟨hr1, hr2⟩ := hr1
  have hcA := hc.setH h'
  obtain ⟨d0, d1, d2, g1, g2⟩ := hcA.cells
  obtain ⟨x0, hx0⟩ : ∃ x0, bits .and .i64 (bits .xor .i64 (h' / 8589934592) (h' / 35184372088832)) 255 = x0 := ⟨_, rfl⟩
  have hx1 := and255 (bits .xor .i64 (h' / 8589934592) (h' / 35184372088832))
  rw [hx0] at hx1
  obtain ⟨hx1, hx2⟩ := hx1
  by_cases hil : i < zs.length
  · obtain ⟨b, off, rfl, hbb, hcell⟩ := hr.at_ hil
    obtain ⟨z, hz⟩ : ∃ z, zs.getD i 0 = z := ⟨_, rfl⟩
    have hz1 := hb i
    rw [hz] at hcell hz1
    obtain ⟨hz1, hz2⟩ := hz1
    clear hz
    have hcell2 : (w.setCell ⟨g, 2, none⟩ (.int .i64 h')).cell? ⟨b, off + i, none⟩ = some (.int .u8 z) := by
      rw [World.cell?_setCell_other _ _ _ _ (by intro e; simp at e <;> omega)]; exact hcell
    obtain ⟨x1, hx3⟩ : ∃ x1, bits .and .i64 (x0 + z) 255 = x1 := ⟨_, rfl⟩
    have hx4 := and255 (x0 + z)
    rw [hx3] at hx4
    obtain ⟨hx4, hx5⟩ := hx4
    have i1 : (i : Int) < (zs.length : Int) := by omega
    have hcB := hcA.setI ((i : Int) + 1)
    have hrB : Rd .u8 ((w.setCell ⟨g, 2, none⟩ (.int .i64 h')).setCell ⟨g, 1, none⟩ (.int .i64 ((i : Int) + 1))) g (some ⟨b, off, none⟩) zs :=
      hr.below (((Below.refl g w).setCell (p := ⟨g, 2, none⟩) (Nat.le_refl _) _).setCell (p := ⟨g, 1, none⟩) (Nat.le_refl _) _)
    have hgr : w.grownBy ((w.setCell ⟨g, 2, none⟩ (.int .i64 h')).setCell ⟨g, 1, none⟩ (.int .i64 ((i : Int) + 1))) (some g) := grownBy_set (grownBy_set (World.grownBy.refl w _) 2 _) 1 _
    have HC := Lib.hid (show CurOk ((w.setCell ⟨g, 2, none⟩ (.int .i64 h')).setCell ⟨g, 1, none⟩ (.int .i64 ((i : Int) + 1))) g (some ⟨b, off, none⟩) c zs from
      ⟨i + 1, h', by rw [show ((i + 1 : Nat) : Int) = (i : Int) + 1 from by simp]; exact hcB, by omega, hr1, hr2, hrB⟩)
    clear hcB hrB hc hcA hr hcell
    go_enter Try.func72, Try.ntmps72
    go_wp2
    go_quiet (fail)
    go_wp2
    go_quiet (fail)
    go_wp2
    go_quiet (fail)
    go_wp2
    go_ret
    exact ⟨x1, rfl, ⟨hx4, hx5⟩, HC.out, ⟨hgr.os, hgr.tape, hgr.output, hgr.size, hgr.block⟩⟩
  · have i1 : decide ((i : Int) < (zs.length : Int)) = false := by simp; omega
    have i2 : decide (i < zs.length) = false := by simp; omega
    have hrB : Rd .u8 (w.setCell ⟨g, 2, none⟩ (.int .i64 h')) g A zs := hr.below ((Below.refl g w).setCell (p := ⟨g, 2, none⟩) (Nat.le_refl _) _)
    have hgr : w.grownBy (w.setCell ⟨g, 2, none⟩ (.int .i64 h')) (some g) := grownBy_set (World.grownBy.refl w _) 2 _
    have HC := Lib.hid (show CurOk (w.setCell ⟨g, 2, none⟩ (.int .i64 h')) g A c zs from ⟨i, h', hcA, hi, hr1, hr2, hrB⟩)
    clear hrB hc hcA hr
    go_enter Try.func72, Try.ntmps72
    go_wp2
    go_quiet (fail)
    go_wp2
    go_quiet (fail)
    go_wp2
    go_ret
    exact ⟨x0, rfl, ⟨hx1, hx2⟩, HC.out, ⟨hgr.os, hgr.tape, hgr.output, hgr.size, hgr.block⟩⟩

/-- l01Below: below n, where n is positive -/
theorem grown_more {a b c : World} {g : Nat} (h : a.grownBy b (some g)) (k : b.grownBy c (some g)) : a.grownBy c (some g) :=
  ⟨k.os.trans h.os, k.tape.trans h.tape, k.output.trans h.output, Nat.le_trans h.size k.size, fun i hi hne => (k.block i (by have := h.size; omega) hne).trans (h.block i hi hne)⟩

set_option maxHeartbeats 1000000 in
theorem cBelow_any (g : Nat) (A : Option Addr) (c : Nat) (zs : List Int) (n : Int) (w : World) (hk : CurOk w g A c zs) (hb : Bytes zs) (hm : zs.length ≤ 1073741824) (hn : 0 < n) (hn2 : n ≤ 9223372036854775807) :
    Calls Try.prog 38 #[.pointer (some ⟨g, 0, none⟩), .int .i64 n] w (Drawn w g A c zs (fun x => 0 ≤ x ∧ x < n)) := by
  by_cases h256 : n ≤ 256
  · go_enter Try.func38, Try.ntmps38
    go_wp2_with fail
    refine (cByte_any g A c zs w hk hb hm).mono ?_
    rintro e w1 ⟨x, rfl, ⟨hx1, hx2⟩, hk1, hg1⟩
    go_wp2
    go_ret
    exact ⟨_, rfl, ⟨Int.emod_nonneg _ (by omega), Int.emod_lt_of_pos _ hn⟩, hk1, hg1⟩
  · go_enter Try.func38, Try.ntmps38
    go_wp2_with fail
    refine (cByte_any g A c zs w hk hb hm).mono ?_
    rintro e w1 ⟨x1, rfl, ⟨hx1, hx1'⟩, hk1, hg1⟩
    go_wp2_with fail
    refine (cByte_any g A c zs w1 hk1 hb hm).mono ?_
    rintro e w2 ⟨x2, rfl, ⟨hx2, hx2'⟩, hk2, hg2⟩
    go_wp2_with fail
    refine (cByte_any g A c zs w2 hk2 hb hm).mono ?_
    rintro e w3 ⟨x3, rfl, ⟨hx3, hx3'⟩, hk3, hg3⟩
    go_wp2_with fail
    refine (cByte_any g A c zs w3 hk3 hb hm).mono ?_
    rintro e w4 ⟨x4, rfl, ⟨hx4, hx4'⟩, hk4, hg4⟩
    go_wp2
    go_ret
    exact ⟨_, rfl, ⟨Int.emod_nonneg _ (by omega), Int.emod_lt_of_pos _ hn⟩, hk4, grown_more (grown_more (grown_more hg1 hg2) hg3) hg4⟩

theorem and30 (x : Int) : 0 ≤ bits .and .i64 x 1073741823 ∧ bits .and .i64 x 1073741823 ≤ 1073741823 := by
  have h1 : (BitVec.ofInt 64 x &&& BitVec.ofInt 64 1073741823).toNat ≤ 1073741823 := by
    rw [BitVec.toNat_and]
    exact Nat.le_trans Nat.and_le_right (by decide)
  have e : bits .and .i64 x 1073741823 = IntKind.i64.wrap ((BitVec.ofInt 64 x &&& BitVec.ofInt 64 1073741823).toNat : Int) := rfl
  rw [e, IntKind.wrap_i64]
  omega

/-- l01New: a new cursor, in a new block -/
def NewCur (w : World) (A : Option Addr) (c : Nat) (zs : List Int) (e : Ending) (w' : World) : Prop :=
  e = .returned (.pointer (some ⟨w.heap.size, 0, none⟩)) ∧ ∃ h : Int, 0 ≤ h ∧ h ≤ 1073741823 ∧ w' = w.alloc (.cells #[.slice A zs.length c, .int .i64 0, .int .i64 h] 53)

set_option maxHeartbeats 1000000 in
theorem cNew_any (A : Option Addr) (c : Nat) (zs : List Int) (w : World) (hr : Rd .u8 w w.heap.size A zs) (hb : Bytes zs) (hm : zs.length ≤ 1048576) :
    Calls Try.prog 37 #[.slice A zs.length c] w (NewCur w A c zs) := by
  go_enter Try.func37, Try.ntmps37
  go_wp2
  go_loop [3, 4] (fun sh si => ∃ (i : Nat) (h : Int), i ≤ zs.length ∧ si = .int .i64 i ∧ sh = .int .i64 h ∧ 0 ≤ h ∧ h ≤ 1073741823) (fun _ si => zs.length - (intOf si).toNat)
  case atStart => exact ⟨0, _, Nat.zero_le _, rfl, rfl, by omega, by omega⟩
  case round =>
    obtain ⟨i, h, hi, rfl, rfl, hh1, hh2⟩ := hrel
    by_cases hlt : i < zs.length ∧ i < 4000
    · obtain ⟨hl1, hl2⟩ := hlt
      obtain ⟨b, off, rfl, hbb, hcell⟩ := hr.at_ hl1
      obtain ⟨z, hz⟩ : ∃ z, zs.getD i 0 = z := ⟨_, rfl⟩
      have hz1 := hb i
      rw [hz] at hcell hz1
      obtain ⟨hz1, hz2⟩ := hz1
      clear hz
      obtain ⟨x, hx⟩ : ∃ x, bits .and .i64 (h * 47 + z + 7) 1073741823 = x := ⟨_, rfl⟩
      have hx1 := and30 (h * 47 + z + 7)
      rw [hx] at hx1
      obtain ⟨hx1, hx2⟩ := hx1
      have i1 : (i : Int) < (zs.length : Int) := by omega
      have i2 : (i : Int) < 4000 := by omega
      go_wp2
      go_round
      case rel => exact ⟨i + 1, x, by omega, by go_num, rfl, hx1, hx2⟩
      case measure => simp [intOf]; omega
    · by_cases hl1 : i < zs.length
      · have i1 : (i : Int) < (zs.length : Int) := by omega
        have i2 : decide ((i : Int) < 4000) = false := by simp; omega
        clear hlt
        go_wp2
        go_ret
        exact ⟨rfl, h, hh1, hh2, rfl⟩
      · have i1 : decide ((i : Int) < (zs.length : Int)) = false := by simp; omega
        have i2 : decide (i < zs.length) = false := by simp; omega
        clear hlt
        go_wp2
        go_ret
        exact ⟨rfl, h, hh1, hh2, rfl⟩

theorem NewCur.cur {w w' : World} {A : Option Addr} {c : Nat} {zs : List Int} {h : Int} (hw : w' = w.alloc (.cells #[.slice A zs.length c, .int .i64 0, .int .i64 h] 53)) :
    Cur w' w.heap.size (.slice A zs.length c) 0 h ∧ Below w.heap.size w w' := by
  subst hw
  exact ⟨heap_alloc_new w _, (Below.refl _ _).alloc (Nat.le_refl _) _⟩

end Go.Proofs.Ytopmojfcdmcmbaa
