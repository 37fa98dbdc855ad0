/- Texts joined: BunL, RcE. -/
import Derived.Test.YtkbhbccpmmhelaaDoorZ7
import Derived.Test.YtkbhbccpmmhelaaDoorProg
import Derived.Deep.QuietTactic
import Derived.BigQuiet
import Derived.Deep.RegionLaw
import Derived.Deep.RegionHeld3
import Derived.IntWalk
namespace Go.Proofs.YtkbhbccpmmhelaaDoor
open Go.RowKit
set_option linter.unusedVariables false
def Cur (w : World) (g : Nat) (v : Value) (i h : Int) : Prop :=
  w.heap[g]? = some (.cells #[v, .int .i64 i, .int .i64 h] 86 (0, 0))
section
variable {w w' : World} {g : Nat} {v : Value} {i h : Int}
theorem Cur.cells (k : Cur w g v i h) : w.cell? ⟨g, 0, none⟩ = some v ∧ w.cell? ⟨g, 1, none⟩ = some (.int .i64 i) ∧ w.cell? ⟨g, 2, none⟩ = some (.int .i64 h) ∧ w.frozen? ⟨g, 1, none⟩ = false ∧ w.frozen? ⟨g, 2, none⟩ = false :=
  ⟨by rw [cell_of_row w g 0 _ _ _ k]; rfl, by rw [cell_of_row w g 1 _ _ _ k]; rfl, by rw [cell_of_row w g 2 _ _ _ k]; rfl, frozen_of_row w g 1 _ _ k, frozen_of_row w g 2 _ _ k⟩
theorem Cur.drewN (k : Cur w g v i h) (n : Nat) : Cur (w.drewN n) g v i h := k
theorem Cur.setH (k : Cur w g v i h) (x : Int) : Cur (w.setCell ⟨g, 2, none⟩ (.int .i64 x)) g v i x := heap_setCell_same w g 2 _ _ _ k
theorem Cur.setI (k : Cur w g v i h) (x : Int) : Cur (w.setCell ⟨g, 1, none⟩ (.int .i64 x)) g v x h := heap_setCell_same w g 1 _ _ _ k
theorem Cur.lt (k : Cur w g v i h) : g < w.heap.size := by
  rcases Nat.lt_or_ge g w.heap.size with hlt | hge
  · exact hlt
  · unfold Cur at k; rw [Array.getElem?_eq_none hge] at k; cases k
theorem Cur.alloc (k : Cur w g v i h) (o : Obj) : Cur (w.alloc o) g v i h := (Below.heap_alloc w o g k.lt).trans k
theorem Cur.below {B : Nat} (k : Cur w g v i h) (hb : Below B w w') (hB : g < B) : Cur w' g v i h := (hb.block g hB).trans k
end
def CurOk (w : World) (g : Nat) (A : Option Addr) (c : Nat) (zs : List Int) : Prop :=
  ∃ i : Nat, ∃ h : Int, Cur w g (.slice A zs.length c) i h ∧ i ≤ zs.length ∧ -9223372036854775808 ≤ h ∧ h ≤ 9223372036854775807 ∧ Rd .u8 w g A zs
theorem and255 (x : Int) : 0 ≤ bits .and .i64 x 255 ∧ bits .and .i64 x 255 ≤ 255 := by
  have h1 : (BitVec.ofInt 64 x &&& BitVec.ofInt 64 255).toNat ≤ 255 := by
    rw [BitVec.toNat_and]
    exact Nat.le_trans Nat.and_le_right (by decide)
  have e : bits .and .i64 x 255 = IntKind.i64.wrap ((BitVec.ofInt 64 x &&& BitVec.ofInt 64 255).toNat : Int) := rfl
  rw [e, IntKind.wrap_i64]
  omega
theorem wrap64_range (n : Int) : -9223372036854775808 ≤ wrap64 n ∧ wrap64 n ≤ 9223372036854775807 := by
  unfold wrap64; omega
def Drawn (w : World) (g : Nat) (A : Option Addr) (c : Nat) (zs : List Int) (P : Int → Prop) (e : Ending) (w' : World) : Prop :=
  ∃ x : Int, e = .returned (.int .i64 x) ∧ P x ∧ CurOk w' g A c zs ∧ w.grownBy w' (some g)
set_option maxHeartbeats 1000000 in
theorem cByte_any (g : Nat) (A : Option Addr) (c : Nat) (zs : List Int) (w : World) (hk : CurOk w g A c zs) (hb : Bytes zs) (hm : zs.length ≤ 1073741824) :
    Calls Tryd.prog 66 #[.pointer (some ⟨g, 0, none⟩)] w (Drawn w g A c zs (fun x => 0 ≤ x ∧ x ≤ 255)) := by
  obtain ⟨i, h, hc, hi, hh1, hh2, hr⟩ := hk
  obtain ⟨c0, c1, c2, f1, f2⟩ := hc.cells
  obtain ⟨a, ha⟩ : ∃ a, wrap64 (h * 6364136223846793005) = a := ⟨_, rfl⟩
  obtain ⟨h', hh'⟩ : ∃ h', wrap64 (a + 1442695040888963407) = h' := ⟨_, rfl⟩
  have hr1 := wrap64_range (a + 1442695040888963407)
  rw [hh'] at hr1
  obtain ⟨hr1, hr2⟩ := hr1
  have hcA := hc.setH h'
  obtain ⟨d0, d1, d2, g1, g2⟩ := hcA.cells
  obtain ⟨x0, hx0⟩ : ∃ x0, bits .and .i64 (bits .xor .i64 (h' / 8589934592) (h' / 35184372088832)) 255 = x0 := ⟨_, rfl⟩
  have hx1 := and255 (bits .xor .i64 (h' / 8589934592) (h' / 35184372088832))
  rw [hx0] at hx1
  obtain ⟨hx1, hx2⟩ := hx1
  by_cases hil : i < zs.length
  · obtain ⟨b, off, rfl, hbb, hcell⟩ := hr.at_ hil
    obtain ⟨z, hz⟩ : ∃ z, zs.getD i 0 = z := ⟨_, rfl⟩
    have hz1 := hb i
    rw [hz] at hcell hz1
    obtain ⟨hz1, hz2⟩ := hz1
    clear hz
    have hcell2 : (w.setCell ⟨g, 2, none⟩ (.int .i64 h')).cell? ⟨b, off + i, none⟩ = some (.int .u8 z) := by
      rw [World.cell?_setCell_other _ _ _ _ (by intro e; simp at e <;> omega)]; exact hcell
    obtain ⟨x1, hx3⟩ : ∃ x1, bits .and .i64 (x0 + z) 255 = x1 := ⟨_, rfl⟩
    have hx4 := and255 (x0 + z)
    rw [hx3] at hx4
    obtain ⟨hx4, hx5⟩ := hx4
    have i1 : (i : Int) < (zs.length : Int) := by omega
    have hcB := hcA.setI ((i : Int) + 1)
    have hrB : Rd .u8 ((w.setCell ⟨g, 2, none⟩ (.int .i64 h')).setCell ⟨g, 1, none⟩ (.int .i64 ((i : Int) + 1))) g (some ⟨b, off, none⟩) zs :=
      hr.below (((Below.refl g w).setCell (p := ⟨g, 2, none⟩) (Nat.le_refl _) _).setCell (p := ⟨g, 1, none⟩) (Nat.le_refl _) _)
    have hgr : w.grownBy ((w.setCell ⟨g, 2, none⟩ (.int .i64 h')).setCell ⟨g, 1, none⟩ (.int .i64 ((i : Int) + 1))) (some g) := grownBy_set (grownBy_set (World.grownBy.refl w _) 2 _) 1 _
    have HC := Lib.hid (show CurOk ((w.setCell ⟨g, 2, none⟩ (.int .i64 h')).setCell ⟨g, 1, none⟩ (.int .i64 ((i : Int) + 1))) g (some ⟨b, off, none⟩) c zs from
      ⟨i + 1, h', by rw [show ((i + 1 : Nat) : Int) = (i : Int) + 1 from by simp]; exact hcB, by omega, hr1, hr2, hrB⟩)
    clear hcB hrB hc hcA hr hcell
    go_enter Tryd.func66, Tryd.ntmps66
    go_wp2
    go_quiet (fail)
    go_wp2
    go_quiet (fail)
    go_wp2
    go_quiet (fail)
    go_wp2
    go_ret
    exact ⟨x1, rfl, ⟨hx4, hx5⟩, HC.out, ⟨hgr.os, hgr.tape, hgr.output, hgr.size, hgr.block⟩⟩
  · have i1 : decide ((i : Int) < (zs.length : Int)) = false := by simp; omega
    have i2 : decide (i < zs.length) = false := by simp; omega
    have hrB : Rd .u8 (w.setCell ⟨g, 2, none⟩ (.int .i64 h')) g A zs := hr.below ((Below.refl g w).setCell (p := ⟨g, 2, none⟩) (Nat.le_refl _) _)
    have hgr : w.grownBy (w.setCell ⟨g, 2, none⟩ (.int .i64 h')) (some g) := grownBy_set (World.grownBy.refl w _) 2 _
    have HC := Lib.hid (show CurOk (w.setCell ⟨g, 2, none⟩ (.int .i64 h')) g A c zs from ⟨i, h', hcA, hi, hr1, hr2, hrB⟩)
    clear hrB hc hcA hr
    go_enter Tryd.func66, Tryd.ntmps66
    go_wp2
    go_quiet (fail)
    go_wp2
    go_quiet (fail)
    go_wp2
    go_ret
    exact ⟨x0, rfl, ⟨hx1, hx2⟩, HC.out, ⟨hgr.os, hgr.tape, hgr.output, hgr.size, hgr.block⟩⟩
theorem grown_more {a b c : World} {g : Nat} (h : a.grownBy b (some g)) (k : b.grownBy c (some g)) : a.grownBy c (some g) :=
  ⟨k.os.trans h.os, k.tape.trans h.tape, k.output.trans h.output, Nat.le_trans h.size k.size, fun i hi hne => (k.block i (by have := h.size; omega) hne).trans (h.block i hi hne)⟩
set_option maxHeartbeats 1000000 in
theorem cBelow_any (g : Nat) (A : Option Addr) (c : Nat) (zs : List Int) (n : Int) (w : World) (hk : CurOk w g A c zs) (hb : Bytes zs) (hm : zs.length ≤ 1073741824) (hn : 0 < n) (hn2 : n ≤ 9223372036854775807) :
    Calls Tryd.prog 37 #[.pointer (some ⟨g, 0, none⟩), .int .i64 n] w (Drawn w g A c zs (fun x => 0 ≤ x ∧ x < n)) := by
  by_cases h256 : n ≤ 256
  · go_enter Tryd.func37, Tryd.ntmps37
    go_wp2_with fail
    refine (cByte_any g A c zs w hk hb hm).mono ?_
    rintro e w1 ⟨x, rfl, ⟨hx1, hx2⟩, hk1, hg1⟩
    go_wp2
    go_ret
    exact ⟨_, rfl, ⟨Int.emod_nonneg _ (by omega), Int.emod_lt_of_pos _ hn⟩, hk1, hg1⟩
  · go_enter Tryd.func37, Tryd.ntmps37
    go_wp2_with fail
    refine (cByte_any g A c zs w hk hb hm).mono ?_
    rintro e w1 ⟨x1, rfl, ⟨hx1, hx1'⟩, hk1, hg1⟩
    go_wp2_with fail
    refine (cByte_any g A c zs w1 hk1 hb hm).mono ?_
    rintro e w2 ⟨x2, rfl, ⟨hx2, hx2'⟩, hk2, hg2⟩
    go_wp2_with fail
    refine (cByte_any g A c zs w2 hk2 hb hm).mono ?_
    rintro e w3 ⟨x3, rfl, ⟨hx3, hx3'⟩, hk3, hg3⟩
    go_wp2_with fail
    refine (cByte_any g A c zs w3 hk3 hb hm).mono ?_
    rintro e w4 ⟨x4, rfl, ⟨hx4, hx4'⟩, hk4, hg4⟩
    go_wp2
    go_ret
    exact ⟨_, rfl, ⟨Int.emod_nonneg _ (by omega), Int.emod_lt_of_pos _ hn⟩, hk4, grown_more (grown_more (grown_more hg1 hg2) hg3) hg4⟩
theorem and30 (x : Int) : 0 ≤ bits .and .i64 x 1073741823 ∧ bits .and .i64 x 1073741823 ≤ 1073741823 := by
  have h1 : (BitVec.ofInt 64 x &&& BitVec.ofInt 64 1073741823).toNat ≤ 1073741823 := by
    rw [BitVec.toNat_and]
    exact Nat.le_trans Nat.and_le_right (by decide)
  have e : bits .and .i64 x 1073741823 = IntKind.i64.wrap ((BitVec.ofInt 64 x &&& BitVec.ofInt 64 1073741823).toNat : Int) := rfl
  rw [e, IntKind.wrap_i64]
  omega
def NewCur (w : World) (A : Option Addr) (c : Nat) (zs : List Int) (e : Ending) (w' : World) : Prop :=
  e = .returned (.pointer (some ⟨w.heap.size, 0, none⟩)) ∧ ∃ h : Int, 0 ≤ h ∧ h ≤ 1073741823 ∧ w' = w.alloc (.cells #[.slice A zs.length c, .int .i64 0, .int .i64 h] 86)
set_option maxHeartbeats 1000000 in
theorem cNew_any (A : Option Addr) (c : Nat) (zs : List Int) (w : World) (hr : Rd .u8 w w.heap.size A zs) (hb : Bytes zs) (hm : zs.length ≤ 1048576) :
    Calls Tryd.prog 21 #[.slice A zs.length c] w (NewCur w A c zs) := by
  go_enter Tryd.func21, Tryd.ntmps21
  go_wp2
  go_loop [3, 4] (fun sh si => ∃ (i : Nat) (h : Int), i ≤ zs.length ∧ si = .int .i64 i ∧ sh = .int .i64 h ∧ 0 ≤ h ∧ h ≤ 1073741823) (fun _ si => zs.length - (intOf si).toNat)
  case atStart => exact ⟨0, _, Nat.zero_le _, rfl, rfl, by omega, by omega⟩
  case round =>
    obtain ⟨i, h, hi, rfl, rfl, hh1, hh2⟩ := hrel
    by_cases hlt : i < zs.length ∧ i < 4000
    · obtain ⟨hl1, hl2⟩ := hlt
      obtain ⟨b, off, rfl, hbb, hcell⟩ := hr.at_ hl1
      obtain ⟨z, hz⟩ : ∃ z, zs.getD i 0 = z := ⟨_, rfl⟩
      have hz1 := hb i
      rw [hz] at hcell hz1
      obtain ⟨hz1, hz2⟩ := hz1
      clear hz
      obtain ⟨x, hx⟩ : ∃ x, bits .and .i64 (h * 47 + z + 7) 1073741823 = x := ⟨_, rfl⟩
      have hx1 := and30 (h * 47 + z + 7)
      rw [hx] at hx1
      obtain ⟨hx1, hx2⟩ := hx1
      have i1 : (i : Int) < (zs.length : Int) := by omega
      have i2 : (i : Int) < 4000 := by omega
      go_wp2
      go_round
      case rel => exact ⟨i + 1, x, by omega, by go_num, rfl, hx1, hx2⟩
      case measure => simp [intOf]; omega
    · by_cases hl1 : i < zs.length
      · have i1 : (i : Int) < (zs.length : Int) := by omega
        have i2 : decide ((i : Int) < 4000) = false := by simp; omega
        clear hlt
        go_wp2
        go_ret
        exact ⟨rfl, h, hh1, hh2, rfl⟩
      · have i1 : decide ((i : Int) < (zs.length : Int)) = false := by simp; omega
        have i2 : decide (i < zs.length) = false := by simp; omega
        clear hlt
        go_wp2
        go_ret
        exact ⟨rfl, h, hh1, hh2, rfl⟩
theorem NewCur.cur {w w' : World} {A : Option Addr} {c : Nat} {zs : List Int} {h : Int} (hw : w' = w.alloc (.cells #[.slice A zs.length c, .int .i64 0, .int .i64 h] 86)) :
    Cur w' w.heap.size (.slice A zs.length c) 0 h ∧ Below w.heap.size w w' := by
  subst hw
  exact ⟨heap_alloc_new w _, (Below.refl _ _).alloc (Nat.le_refl _) _⟩
end Go.Proofs.YtkbhbccpmmhelaaDoor
namespace Go.Proofs.YtkbhbccpmmhelaaDoor
open Go.RowKit
set_option linter.unusedVariables false
section
variable {w w' : World} {g : Nat} {A : Option Addr} {c : Nat} {zs : List Int}
theorem CurOk.lt (k : CurOk w g A c zs) : g < w.heap.size := by
  obtain ⟨i, h, hc, -⟩ := k
  exact hc.lt
theorem CurOk.below (k : CurOk w g A c zs) (hb : Below w.heap.size w w') : CurOk w' g A c zs := by
  have hl := k.lt
  obtain ⟨i, h, hc, hi, h1, h2, hr⟩ := k
  exact ⟨i, h, hc.below hb hl, hi, h1, h2, hr.below (hb.mono (Nat.le_of_lt hl))⟩
theorem CurOk.chg {a b : Nat} (k : CurOk w g A c zs) (hc : Chg a b w w') (hd : g < a) : CurOk w' g A c zs := by
  have hl := k.lt
  have hb : Below (g + 1) w w' := ⟨hc.os, hc.tape, hc.output, hc.size, fun i hi => hc.block i (by omega) (.inl (by omega))⟩
  obtain ⟨i, h, hc2, hi, h1, h2, hr⟩ := k
  exact ⟨i, h, hc2.below hb (Nat.lt_succ_self g), hi, h1, h2, hr.below (hb.mono (Nat.le_succ g))⟩
theorem cBelow_c {n : Int} (hk : CurOk w g A c zs) (hb : Bytes zs) (hm : zs.length ≤ 1073741824) (hn : 0 < n) (hn2 : n ≤ 9223372036854775807) :
    Calls Tryd.prog 37 #[.pointer (some ⟨g, 0, none⟩), .int .i64 n] w fun e w' => ∃ x, e = .returned (.int .i64 x) ∧ (0 ≤ x ∧ x < n) ∧ CurOk w' g A c zs ∧ Chg g (g + 1) w w' :=
  (cBelow_any g A c zs n w hk hb hm hn hn2).mono fun e w' ⟨x, he, hx, hk2, hg⟩ => ⟨x, he, hx, hk2, Chg.of_grown hg fun j hj => by simp at hj; omega⟩
theorem cNew_c (hr : Rd .u8 w w.heap.size A zs) (hb : Bytes zs) (hm : zs.length ≤ 1048576) :
    Calls Tryd.prog 21 #[.slice A zs.length c] w fun e w' => e = .returned (.pointer (some ⟨w.heap.size, 0, none⟩)) ∧ CurOk w' w.heap.size A c zs ∧ Below w.heap.size w w' := by
  refine (cNew_any A c zs w hr hb hm).mono ?_
  rintro e w' ⟨he, h, h1, h2, hw⟩
  obtain ⟨hc, hb1⟩ := NewCur.cur hw
  exact ⟨he, ⟨0, h, hc, Nat.zero_le _, by omega, by omega, hr.below hb1⟩, hb1⟩
end
end Go.Proofs.YtkbhbccpmmhelaaDoor
namespace Go.Proofs.YtkbhbccpmmhelaaDoor
open Go.RowKit
set_option linter.unusedVariables false
def flat {β : Type} (cf : Nat → List β) (N : Nat) : List β := (List.range N).flatMap cf
section
variable {β : Type} {cf cf' : Nat → List β} {N n : Nat}
theorem flat_succ : flat cf (N + 1) = flat cf N ++ cf N := by simp [flat, List.range_succ]
theorem flat_len (h : ∀ j, j < N → (cf j).length = n) : (flat cf N).length = N * n := by
  induction N with
  | zero => simp [flat]
  | succ N ih => rw [flat_succ, List.length_append, ih (fun j hj => h j (by omega)), h N (by omega), Nat.succ_mul]
theorem flat_congr (h : ∀ j, j < N → cf' j = cf j) : flat cf' N = flat cf N := by
  induction N with
  | zero => simp [flat]
  | succ N ih => rw [flat_succ, flat_succ, ih (fun j hj => h j (by omega)), h N (by omega)]
theorem flat_get (h : ∀ j, j < N → (cf j).length = n) {j i : Nat} (hj : j < N) (hi : i < n) : (flat cf N)[j * n + i]? = (cf j)[i]? := by
  induction N with
  | zero => omega
  | succ N ih =>
    have hl := flat_len (cf := cf) (N := N) (n := n) (fun j hj => h j (by omega))
    rw [flat_succ]
    by_cases hjN : j < N
    · have : j * n + i < N * n := by
        have h1 : (j + 1) * n ≤ N * n := Nat.mul_le_mul_right n (by omega)
        rw [Nat.succ_mul] at h1; omega
      rw [List.getElem?_append_left (by omega)]
      exact ih (fun j hj => h j (by omega)) hjN
    · obtain rfl : j = N := by omega
      rw [List.getElem?_append_right (by omega), hl, Nat.add_sub_cancel_left]
theorem mem_flat {x : β} : x ∈ flat cf N ↔ ∃ j, j < N ∧ x ∈ cf j := by simp [flat]
end
section
variable {α : Type}
def RdL (L : Lay α) (n : Nat) (w : World) (B : Nat) (A : Option Addr) (xs : List α) : Prop :=
  ∃ cf : Nat → List Value, (∀ j x, xs[j]? = some x → (cf j).length = n ∧ L.rd w B (cf j) x) ∧
    (0 < xs.length → ∃ b off, A = some ⟨b, off, none⟩ ∧ b < B ∧ ∀ j i v, j < xs.length → (cf j)[i]? = some v → w.cell? ⟨b, off + (j * n + i), none⟩ = some v)
def OwnL (L : Lay α) (e : TypeId) (n : Nat) (w : World) (S : List Nat) (v : Value) (xs : List α) : Prop :=
  ∃ (cf : Nat → List Value) (sf : Nat → List Nat), w.ownsRow 0 e n v xs.length (flat cf xs.length) ∧ (∀ j x, xs[j]? = some x → (cf j).length = n ∧ L.own w (sf j) (cf j) x) ∧ S = v.ownBlock.toList ++ flat sf xs.length
variable {L : Lay α} {n : Nat} {e : TypeId} {w w' : World} {B B' : Nat} {A : Option Addr} {xs : List α} {S : List Nat} {v : Value}
theorem RdL.keep (h : RdL L n w B A xs) (hk : ∀ p : Addr, p.block < B → w'.cell? p = w.cell? p) : RdL L n w' B A xs := by
  obtain ⟨cf, h1, h2⟩ := h
  refine ⟨cf, fun j x hx => ⟨(h1 j x hx).1, L.rd_keep (h1 j x hx).2 hk⟩, fun hp => ?_⟩
  obtain ⟨b, off, rfl, hb, hc⟩ := h2 hp
  exact ⟨b, off, rfl, hb, fun j i v hj hv => (hk _ hb).trans (hc j i v hj hv)⟩
theorem RdL.more (h : RdL L n w B A xs) (hB : B ≤ B') : RdL L n w B' A xs := by
  obtain ⟨cf, h1, h2⟩ := h
  refine ⟨cf, fun j x hx => ⟨(h1 j x hx).1, L.rd_more (h1 j x hx).2 hB⟩, fun hp => ?_⟩
  obtain ⟨b, off, rfl, hb, hc⟩ := h2 hp
  exact ⟨b, off, rfl, by omega, hc⟩
theorem RdL.below (h : RdL L n w B A xs) (hb : Below B w w') : RdL L n w' B A xs := h.keep fun _ hp => hb.cell hp
theorem getElem?_lt {β : Type} {l : List β} {j : Nat} {x : β} (h : l[j]? = some x) : j < l.length := by
  rcases Nat.lt_or_ge j l.length with h' | h'
  · exact h'
  · rw [List.getElem?_eq_none h'] at h; cases h
theorem OwnL.lens {cf : Nat → List Value} {sf : Nat → List Nat} (h : ∀ j x, xs[j]? = some x → (cf j).length = n ∧ L.own w (sf j) (cf j) x) : ∀ j, j < xs.length → (cf j).length = n :=
  fun j hj => (h j xs[j] (List.getElem?_eq_getElem hj)).1
theorem OwnL.form (h : OwnL L e n w S v xs) : ∃ A c, v = .slice A xs.length c ∧ xs.length ≤ c ∧ c ≤ maxLen ∧ RdL L n w w.heap.size A xs := by
  obtain ⟨cf, sf, ho, hel, rfl⟩ := h
  have hlt := World.ownsRow.lt ho
  have hlen := OwnL.lens hel
  rcases ho.2 with ⟨rfl, h0⟩ | ⟨g, cap, cur, rfl, hb, hh, hn, hm, hs, ht⟩
  · exact ⟨none, 0, by rw [h0], by omega, by unfold maxLen; omega, cf, fun j x hx => ⟨(hel j x hx).1, L.own_rd (hel j x hx).2⟩, fun hp => by omega⟩
  · refine ⟨some ⟨g, 0, none⟩, cap, rfl, hn, hm, cf, fun j x hx => ⟨(hel j x hx).1, L.own_rd (hel j x hx).2⟩, fun hp => ⟨g, 0, rfl, (hlt g rfl).2, fun j i u hj hu => ?_⟩⟩
    have hi : i < n := by have := getElem?_lt hu; rw [hlen j hj] at this; exact this
    have hlt2 : j * n + i < xs.length * n := by
      have h1 : (j + 1) * n ≤ xs.length * n := Nat.mul_le_mul_right n (by omega)
      rw [Nat.succ_mul] at h1; omega
    rw [Nat.zero_add, World.ownsRow.cellAt ho _ hlt2, flat_get hlen hj hi]
    exact hu
theorem OwnL.lt (h : OwnL L e n w S v xs) : ∀ j ∈ S, j < w.heap.size := by
  obtain ⟨cf, sf, ho, hel, rfl⟩ := h
  intro j hj
  rcases List.mem_append.1 hj with h | h
  · exact (World.ownsRow.lt ho j (by simpa using h)).2
  · obtain ⟨k, hk, hm⟩ := mem_flat.1 h
    exact L.own_lt (hel k xs[k] (List.getElem?_eq_getElem hk)).2 j hm
theorem ownsRow_keep {size m : Nat} {ys : List Value} {base : Nat} (h : w.ownsRow base e size v m ys) (hk : ∀ j, v.ownBlock = some j → w'.heap[j]? = w.heap[j]?) : w'.ownsRow base e size v m ys := by
  refine ⟨h.1, ?_⟩
  rcases h.2 with h2 | ⟨g, cap, cur, hv, hg, hh, r⟩
  · exact .inl h2
  · exact .inr ⟨g, cap, cur, hv, hg, (hk g (by rw [hv]; rfl)).trans hh, r⟩
theorem OwnL.keep (h : OwnL L e n w S v xs) (hk : ∀ j ∈ S, w'.heap[j]? = w.heap[j]?) : OwnL L e n w' S v xs := by
  obtain ⟨cf, sf, ho, hel, rfl⟩ := h
  refine ⟨cf, sf, ownsRow_keep ho fun j hj => hk j (List.mem_append.2 (.inl (by simp [hj]))), fun j x hx => ⟨(hel j x hx).1, L.own_keep (hel j x hx).2 fun i hi => hk i (List.mem_append.2 (.inr (mem_flat.2 ⟨j, getElem?_lt hx, hi⟩)))⟩, rfl⟩
end
def sliceL {α : Type} (e : TypeId) (n : Nat) (L : Lay α) : Lay (List α) where
  rd w B cs xs := ∃ A c, cs = [.slice A xs.length c] ∧ xs.length ≤ c ∧ c ≤ maxLen ∧ RdL L n w B A xs
  own w S cs xs := ∃ v, cs = [v] ∧ OwnL L e n w S v xs
  rd_keep := by
    rintro w w' B cs xs ⟨A, c, rfl, h1, h2, hr⟩ hk
    exact ⟨A, c, rfl, h1, h2, hr.keep hk⟩
  rd_more := by
    rintro w B B' cs xs ⟨A, c, rfl, h1, h2, hr⟩ hB
    exact ⟨A, c, rfl, h1, h2, hr.more hB⟩
  own_rd := by
    rintro w S cs xs ⟨v, rfl, ho⟩
    obtain ⟨A, c, rfl, h1, h2, hr⟩ := ho.form
    exact ⟨A, c, rfl, h1, h2, hr⟩
  own_lt := by
    rintro w S cs xs ⟨v, rfl, ho⟩
    exact ho.lt
  own_keep := by
    rintro w w' S cs xs ⟨v, rfl, ho⟩ hk
    exact ⟨v, rfl, ho.keep hk⟩
section
variable {α : Type} {L : Lay α} {n : Nat} {e : TypeId} {w w' : World} {B : Nat} {A : Option Addr} {xs : List α} {S T : List Nat} {v : Value}
theorem rv_slice {e : TypeId} (h : RV (sliceL e n L) w v xs) : ∃ A c, v = .slice A xs.length c ∧ xs.length ≤ c ∧ c ≤ maxLen ∧ RdL L n w w.heap.size A xs := by
  obtain ⟨cs, rfl, A, c, rfl, h1, h2, hr⟩ := h
  exact ⟨A, c, rfl, h1, h2, hr⟩
theorem RdL.at_ (h : RdL L n w B A xs) {j : Nat} {x : α} (hx : xs[j]? = some x) : ∃ b off cs, A = some ⟨b, off, none⟩ ∧ b < B ∧ cs.length = n ∧ (∀ i u, cs[i]? = some u → w.cell? ⟨b, off + (j * n + i), none⟩ = some u) ∧ L.rd w B cs x := by
  obtain ⟨cf, h1, h2⟩ := h
  have hj := getElem?_lt hx
  obtain ⟨b, off, rfl, hb, hc⟩ := h2 (by omega)
  obtain ⟨hl, hrd⟩ := h1 j x hx
  exact ⟨b, off, cf j, rfl, hb, hl, fun i u hu => hc j i u hj hu, hrd⟩
theorem OwnL.snoc {cs : List Value} {x : α} {v' : Value} {T : List Nat} (h : OwnL L e n w S v xs) (hx : L.own w' T cs x) (hc : cs.length = n)
    (hrow : ∀ ys, w.ownsRow 0 e n v xs.length ys → w'.ownsRow 0 e n v' (xs.length + 1) (ys ++ cs)) (hk : ∀ j ∈ S, v.ownBlock ≠ some j → w'.heap[j]? = w.heap[j]?) (hn : S.Nodup) :
    ∃ R, OwnL L e n w' (v'.ownBlock.toList ++ (R ++ T)) v' (xs ++ [x]) ∧ S = v.ownBlock.toList ++ R := by
  obtain ⟨cf, sf, ho, hel, rfl⟩ := h
  refine ⟨flat sf xs.length, ⟨fun j => if j = xs.length then cs else cf j, fun j => if j = xs.length then T else sf j, ?_, ?_, ?_⟩, rfl⟩
  · have e1 : flat (fun j => if j = xs.length then cs else cf j) (xs ++ [x]).length = flat cf xs.length ++ cs := by
      rw [List.length_append, List.length_singleton, flat_succ]
      rw [flat_congr (cf := cf) (fun j hj => by rw [if_neg (by omega)])]
      simp
    rw [e1, List.length_append, List.length_singleton]
    exact hrow _ ho
  · intro j y hy
    by_cases hj : j = xs.length
    · subst hj
      obtain rfl : x = y := by simpa using hy
      simpa using And.intro hc hx
    · have hjl : j < xs.length := by have := getElem?_lt hy; simp at this; omega
      rw [List.getElem?_append_left hjl] at hy
      simp only [if_neg hj]
      refine ⟨(hel j y hy).1, L.own_keep (hel j y hy).2 fun i hi => hk i (List.mem_append.2 (.inr (mem_flat.2 ⟨j, hjl, hi⟩))) ?_⟩
      intro hv
      have hd := (nodup_app hn).2.2.1 i (by simp [hv])
      exact hd (mem_flat.2 ⟨j, hjl, hi⟩)
  · rw [List.length_append, List.length_singleton, flat_succ, flat_congr (cf := sf) (cf' := fun j => if j = xs.length then T else sf j) (fun j hj => if_neg (by omega))]
    simp
end
end Go.Proofs.YtkbhbccpmmhelaaDoor
namespace Go.Proofs.YtkbhbccpmmhelaaDoor
open Go.RowKit
set_option linter.unusedVariables false
section
variable {β : Type} {cf : Nat → List β} {N n : Nat}
def upd (cf : Nat → List β) (i : Nat) (cs : List β) : Nat → List β := fun j => if j = i then cs else cf j
theorem upd_at {i : Nat} {cs : List β} : upd cf i cs i = cs := if_pos rfl
theorem upd_ne {i j : Nat} {cs : List β} (h : j ≠ i) : upd cf i cs j = cf j := if_neg h
theorem flat_upd_ge {i : Nat} {cs : List β} (h : N ≤ i) : flat (upd cf i cs) N = flat cf N := flat_congr fun j hj => upd_ne (by omega)
theorem flat_upd (h : ∀ j, j < N → (cf j).length = n) {i : Nat} {cs : List β} (hi : i < N) (hc : cs.length = n) :
    flat (upd cf i cs) N = (flat cf N).take (i * n) ++ (cs ++ (flat cf N).drop (i * n + n)) := by
  induction N with
  | zero => omega
  | succ N ih =>
    have hl := flat_len (cf := cf) (N := N) (n := n) (fun j hj => h j (by omega))
    rw [flat_succ, flat_succ]
    by_cases hiN : i < N
    · have h1 : (i + 1) * n ≤ N * n := Nat.mul_le_mul_right n (by omega)
      rw [Nat.succ_mul] at h1
      rw [ih (fun j hj => h j (by omega)) hiN, upd_ne (by omega), List.take_append_of_le_length (by omega), List.drop_append_of_le_length (by omega)]
      simp
    · obtain rfl : i = N := by omega
      have hlast := h i (by omega)
      rw [flat_upd_ge (Nat.le_refl _), upd_at, List.take_append_of_le_length (by omega), List.take_of_length_le (by omega)]
      rw [List.drop_append, List.drop_of_length_le (l := flat cf i) (by omega), List.drop_of_length_le (l := cf i) (by omega)]
      simp
theorem mem_upd {i : Nat} {cs : List β} {x : β} (h : x ∈ flat (upd cf i cs) N) : x ∈ cs ∨ x ∈ flat cf N := by
  obtain ⟨j, hj, hx⟩ := mem_flat.1 h
  by_cases e : j = i
  · subst e; rw [upd_at] at hx; exact .inl hx
  · rw [upd_ne e] at hx; exact .inr (mem_flat.2 ⟨j, hj, hx⟩)
end
theorem flat_nodup_upd {sf : Nat → List Nat} {N i : Nat} {T : List Nat} (h : (flat sf N).Nodup) (hT : T.Nodup) (hd : ∀ j ∈ T, j ∉ flat sf N) : (flat (upd sf i T) N).Nodup := by
  induction N with
  | zero => simp [flat]
  | succ N ih =>
    rw [flat_succ] at h hd ⊢
    obtain ⟨h1, h2, h3, h4⟩ := nodup_app h
    have ih' := ih h1 (fun j hj hm => hd j hj (List.mem_append.2 (.inl hm)))
    rw [List.nodup_append]
    by_cases e : N = i
    · subst e
      rw [upd_at, flat_upd_ge (Nat.le_refl _)]
      exact ⟨h1, hT, fun a ha b hb hab => hd b hb (List.mem_append.2 (.inl (hab ▸ ha)))⟩
    · rw [upd_ne e]
      refine ⟨ih', h2, fun a ha b hb hab => ?_⟩
      subst hab
      rcases mem_upd ha with hx | hx
      · exact hd a hx (List.mem_append.2 (.inr hb))
      · exact h3 a hx hb
section
variable {α : Type} {L : Lay α} {n : Nat} {e : TypeId} {w w' : World} {B : Nat} {A : Option Addr} {xs : List α} {S T : List Nat} {v : Value}
theorem OV.put {lo m hi j : Nat} {x : α} {cs : List Value} (h : OV (sliceL e n L) w lo m v xs) (hj : j < xs.length) (hc : cs.length = n)
    (hT : L.own w' T cs x) (hTn : T.Nodup) (hTr : ∀ k ∈ T, m ≤ k ∧ k < hi) (hlm : lo ≤ m) (hmh : m ≤ hi) (hhi : hi ≤ w'.heap.size)
    (hrow : ∀ ys, ys.length = xs.length * n → w.ownsRow 0 e n v xs.length ys → w'.ownsRow 0 e n v xs.length (ys.take (j * n) ++ (cs ++ ys.drop (j * n + n))))
    (hk : ∀ k, k < w.heap.size → v.ownBlock ≠ some k → w'.heap[k]? = w.heap[k]?) : OV (sliceL e n L) w' lo hi v (xs.set j x) := by
  obtain ⟨cs0, S, hv, ⟨u, rfl, cf, sf, ho, hel, rfl⟩, hn, hS, hm⟩ := h
  obtain rfl : v = u := hv
  obtain ⟨hn1, hn2, hn3, hn4⟩ := nodup_app hn
  have hlen := OwnL.lens hel
  refine ⟨[v], _, rfl, ⟨v, rfl, upd cf j cs, upd sf j T, ?_, ?_, rfl⟩, ?_, ?_, hhi⟩
  · rw [List.length_set, flat_upd hlen hj hc]
    exact hrow _ (flat_len hlen) ho
  · intro i y hy
    by_cases e1 : i = j
    · subst e1
      rw [List.getElem?_set_self hj] at hy
      obtain rfl : x = y := by simpa using hy
      rw [upd_at, upd_at]
      exact ⟨hc, hT⟩
    · rw [List.getElem?_set_ne (Ne.symm e1)] at hy
      obtain ⟨h1, h2⟩ := hel i y hy
      rw [upd_ne e1, upd_ne e1]
      refine ⟨h1, L.own_keep h2 fun k hk' => hk k (L.own_lt h2 k hk') fun hv => ?_⟩
      exact hn3 k (by simp [hv]) (mem_flat.2 ⟨i, getElem?_lt hy, hk'⟩)
  · rw [List.length_set, List.nodup_append]
    have hTd : ∀ k ∈ T, k ∉ flat sf xs.length := fun k hk1 hk2 => by
      have h1 := hTr k hk1
      have h2 := hS k (List.mem_append.2 (.inr hk2))
      omega
    refine ⟨hn1, flat_nodup_upd hn2 hTn hTd, fun a ha b hb hab => ?_⟩
    subst hab
    rcases mem_upd hb with hx | hx
    · have h1 := hTr a hx
      have h2 := hS a (List.mem_append.2 (.inl ha))
      omega
    · exact hn3 a ha hx
  · intro k hk1
    rw [List.length_set] at hk1
    rcases List.mem_append.1 hk1 with hx | hx
    · have := hS k (List.mem_append.2 (.inl hx)); omega
    · rcases mem_upd hx with hx | hx
      · have := hTr k hx; omega
      · have := hS k (List.mem_append.2 (.inr hx)); omega
end
theorem OVp.lt {α : Type} {L : Lay α} {w : World} {p : Nat → Prop} {cs : List Value} {x : α} (h : OVp L w p cs x) : OVp L w (fun j => p j ∧ j < w.heap.size) cs x := by
  obtain ⟨S, ho, hn, hS⟩ := h
  exact ⟨S, ho, hn, fun j hj => ⟨hS j hj, L.own_lt ho j hj⟩⟩
theorem OVp.below {α : Type} {L : Lay α} {w w' : World} {p : Nat → Prop} {cs : List Value} {x : α} (h : OVp L w p cs x) (hb : Below w.heap.size w w') : OVp L w' p cs x := by
  obtain ⟨S, ho, hn, hS⟩ := h
  exact ⟨S, L.own_below ho hb, hn, hS⟩
theorem OVp.keep {α : Type} {L : Lay α} {w w' : World} {p : Nat → Prop} {cs : List Value} {x : α} (h : OVp L w p cs x) (hk : ∀ j, p j → j < w.heap.size → w'.heap[j]? = w.heap[j]?) : OVp L w' p cs x := by
  obtain ⟨S, ho, hn, hS⟩ := h
  exact ⟨S, L.own_keep ho fun j hj => hk j (hS j hj) (L.own_lt ho j hj), hn, hS⟩
section
variable {α : Type} {L : Lay α} {n : Nat} {e : TypeId} {w w' : World} {xs : List α} {S T : List Nat} {v : Value} {g N c : Nat}
theorem OV.row {lo hi : Nat} (h : OV (sliceL e n L) w lo hi v xs) : ∃ ys, ys.length = xs.length * n ∧ w.ownsRow 0 e n v xs.length ys ∧ ∀ k, v.ownBlock = some k → lo ≤ k ∧ k < hi := by
  obtain ⟨cs0, S, hv, ⟨u, rfl, cf, sf, ho, hel, rfl⟩, hn, hS, hm⟩ := h
  obtain rfl : v = u := hv
  exact ⟨_, flat_len (OwnL.lens hel), ho, fun k hk => hS k (List.mem_append.2 (.inl (by simp [hk])))⟩
end
end Go.Proofs.YtkbhbccpmmhelaaDoor
namespace Go.Proofs.YtkbhbccpmmhelaaDoor
open Go.RowKit
set_option linter.unusedVariables false
section
variable {α : Type} {L : Lay α} {n : Nat} {e : TypeId} {w : World} {xs : List α} {S : List Nat} {g c N : Nat}
theorem OVp.sl {lo hi : Nat} {v : Value} (h : OV (sliceL e n L) w lo hi v xs) : OVp (sliceL e n L) w (fun j => lo ≤ j ∧ j < hi) [v] xs := by
  obtain ⟨cs0, S, hv, ⟨u, rfl, ho⟩, hn, hS, hh⟩ := h
  obtain rfl : v = u := hv
  exact ⟨S, ⟨_, rfl, ho⟩, hn, hS⟩
theorem OV.app_n {lo m : Nat} {v : Value} {cs : List Value} {x : α} (hz : ∀ w T cs x, L.own w T cs x → T = []) (h : OV (sliceL e n L) w lo m v xs) (hc : cs.length = n) (hx : ∀ w, L.own w [] cs x) (hlm : lo ≤ w.heap.size) :
    ∃ ys, w.ownsRow 0 e n v xs.length ys ∧ (∃ A c, v = .slice A xs.length c) ∧ ∀ v' w', w'.ownsRow 0 e n v' (xs.length + 1) (ys ++ cs) → w.grownBy w' v.ownBlock → (v'.ownBlock = v.ownBlock ∨ v'.ownBlock = some w.heap.size) →
      OV (sliceL e n L) w' lo w'.heap.size v' (xs ++ [x]) ∧ Below lo w w' := by
  obtain ⟨cs0, S, hv, ⟨u0, rfl, hO⟩, hn, hS, hm⟩ := h
  obtain rfl : v = u0 := hv
  obtain ⟨A0, c0, hv0, -⟩ := hO.form
  obtain ⟨cf, sf, ho, hel, rfl⟩ := hO
  have hsf : flat sf xs.length = [] := List.eq_nil_iff_forall_not_mem.2 fun j hj => by
    obtain ⟨i, hi, hm⟩ := mem_flat.1 hj
    have := hz _ _ _ _ (hel i xs[i] (List.getElem?_eq_getElem hi)).2
    rw [this] at hm; cases hm
  refine ⟨_, ho, ⟨A0, c0, hv0⟩, fun v' w' hrow hg hat => ?_⟩
  have hlt := World.ownsRow.lt hrow
  have hvS : ∀ k, v.ownBlock = some k → lo ≤ k ∧ k < m := fun k hk => hS k (List.mem_append.2 (.inl (by simp [hk])))
  have hB : Below lo w w' := ⟨hg.os, hg.tape, hg.output, hg.size, fun k hk => hg.block k (by omega) (fun e => by have := hvS k e.symm; omega)⟩
  refine ⟨⟨[v'], v'.ownBlock.toList, rfl, ⟨v', rfl, upd cf xs.length cs, fun _ => [], ?_, ?_, ?_⟩, by cases v'.ownBlock <;> simp, ?_, Nat.le_refl _⟩, hB⟩
  · rw [List.length_append, List.length_singleton, flat_succ, flat_upd_ge (Nat.le_refl _), upd_at]
    exact hrow
  · intro i y hy
    by_cases e1 : i = xs.length
    · subst e1
      obtain rfl : x = y := by simpa using hy
      rw [upd_at]
      exact ⟨hc, hx w'⟩
    · have hjl : i < xs.length := by have := getElem?_lt hy; simp at this; omega
      rw [List.getElem?_append_left hjl] at hy
      obtain ⟨h1, h2⟩ := hel i y hy
      rw [upd_ne e1]
      have hs := hz _ _ _ _ h2
      rw [hs] at h2
      exact ⟨h1, L.own_keep h2 fun k hk => by cases hk⟩
  · have : flat (fun _ : Nat => ([] : List Nat)) (xs ++ [x]).length = [] := List.eq_nil_iff_forall_not_mem.2 fun j hj => by
      obtain ⟨i, _, hm⟩ := mem_flat.1 hj; cases hm
    rw [this, List.append_nil]
  · intro k hk
    have hk' : v'.ownBlock = some k := by simpa using hk
    have h2 := (hlt k hk').2
    rcases hat with h1 | h1
    · rw [h1] at hk'
      exact ⟨(hvS k hk').1, h2⟩
    · rw [h1] at hk'
      obtain rfl : w.heap.size = k := by simpa using hk'
      exact ⟨hlm, h2⟩
end
end Go.Proofs.YtkbhbccpmmhelaaDoor
namespace Go.Proofs.YtkbhbccpmmhelaaDoor
open Go.RowKit
set_option linter.unusedVariables false
end Go.Proofs.YtkbhbccpmmhelaaDoor
namespace Go.Proofs.YtkbhbccpmmhelaaDoor
open Go.RowKit
set_option linter.unusedVariables false
section
variable {P : Program} (w : World)
theorem run_appN_nothing (base sz : Nat) (t ty e : TypeId) (i : TypeInfo) (ht : P.underlying t = some (.slice e)) (hi : P.info? e = some i)
    (v : Value) (n : Nat) (xs : List Value) (hown : w.ownsRow base e sz v n xs) (c : Nat) : (Builtin.append_ #[t, t] ty #[v, .slice none 0 c]).run P w = .ok v w := by
  rcases hown.2 with ⟨rfl, rfl⟩ | ⟨g, cap, cur, rfl, _, _, hnc, _⟩
  · simp [Builtin.append_, run_underlying ht, sizeOf, typeInfo, hi, Builtin.lenOf, Builtin.firstCells]
  · simp [Builtin.append_, run_underlying ht, sizeOf, typeInfo, hi, Builtin.lenOf, Builtin.firstCells, hnc, storeCells]
theorem run_appN (base sz : Nat) (t ty e : TypeId) (i : TypeInfo) (z : Value) (bytes : Nat) (ht : P.underlying t = some (.slice e)) (hi : P.info? e = some i) (hz : i.zero = some z)
    (hsize : i.size = sz) (hby : i.bytes = bytes) (hzs : z.cells.size = sz) (hsz : 0 < sz) (v : Value) (n : Nat) (xs : List Value) (hown : w.ownsRow base e sz v n xs)
    (B : Nat) (A : Option Addr) (c m : Nat) (ys : List Value) (hm : ys.length = m * sz) (hr : RdV w B A ys) (h1 : ∀ u ∈ ys, u.oneCell' = true)
    (hmax : n + m ≤ 67108864) (hbyt : bytes ≤ 1024) (hbase : base ≤ w.heap.size) :
    ∃ v' w', (Builtin.append_ #[t, t] ty #[v, .slice A m c]).run P w = .ok v' w' ∧ w'.ownsRow base e sz v' (n + m) (xs ++ ys) ∧ w.grownBy w' v.ownBlock ∧
      (v'.ownBlock = v.ownBlock ∨ v'.ownBlock = some w.heap.size) := by
  rcases A with _ | a
  · have h0 : ys = [] := by
      rcases Nat.eq_zero_or_pos ys.length with h | h
      · exact List.eq_nil_of_length_eq_zero h
      · obtain ⟨b, off, h', _⟩ := hr h; cases h'
    subst h0
    have hm0 : m = 0 := by
      rcases Nat.eq_zero_or_pos m with h | h
      · exact h
      · have := Nat.mul_pos h hsz; simp at hm; omega
    subst hm0
    exact ⟨v, w, run_appN_nothing w base sz t ty e i ht hi v n xs hown c, by simpa using hown, World.grownBy.refl w _, .inl rfl⟩
  · have hcells : ∀ j u, ys[j]? = some u → w.cell? (a.add j) = some u := by
      intro j u hu
      have hp : 0 < ys.length := by
        rcases Nat.eq_zero_or_pos ys.length with h | h
        · rw [List.eq_nil_of_length_eq_zero h] at hu; simp at hu
        · exact h
      obtain ⟨b, off, h', _, hc⟩ := hr hp
      simp only [Option.some.injEq] at h'
      subst h'
      rw [add_mk]; exact hc j u hu
    have hb2 : (n + m) * bytes ≤ 67108864 * 1024 := Nat.mul_le_mul hmax hbyt
    obtain ⟨v', w', hrun, h2, h3, _, h5⟩ := run_append_own_at (P := P) w base t ty e i z sz bytes ht hi hz hsize hby hzs hsz v n xs hown a m c ys hm hcells h1 (by unfold maxLen; omega) (by omega) hbase
    exact ⟨v', w', hrun, h2, h3, h5⟩
theorem wpl_appN {ops : Array Oper} {rest : List Oper} {o : Oper} {a : Act} {Q : Exit → Act → World → Prop} (hgd : o.guard = none) (s x : Operand) (t : TypeId)
    (ho : o.op = .call { callee := .builtin .append, args := #[s, x], argTypes := #[t, t] })
    (base sz : Nat) (e : TypeId) (i : TypeInfo) (z : Value) (bytes : Nat) (ht : P.underlying t = some (.slice e)) (hi : P.info? e = some i) (hz : i.zero = some z)
    (hsize : i.size = sz) (hby : i.bytes = bytes) (hzs : z.cells.size = sz) (hsz : 0 < sz) (v : Value) (n : Nat) (xs : List Value) (hs : a.eval s = v) (hown : w.ownsRow base e sz v n xs)
    (B : Nat) (A : Option Addr) (c m : Nat) (ys : List Value) (hx : a.eval x = .slice A m c) (hm : ys.length = m * sz) (hr : RdV w B A ys) (h1 : ∀ u ∈ ys, u.oneCell' = true)
    (hmax : n + m ≤ 67108864) (hbyt : bytes ≤ 1024) (hbase : base ≤ w.heap.size)
    (h : ∀ v' w', w'.ownsRow base e sz v' (n + m) (xs ++ ys) → w.grownBy w' v.ownBlock → (v'.ownBlock = v.ownBlock ∨ v'.ownBlock = some w.heap.size) → wpList P ops Q rest (a.put o.dst v') w') :
    wpList P ops Q (o :: rest) a w := by
  refine wpList_plain hgd fun K hK => ?_
  obtain ⟨v', w', hrun, h2, h3, h4⟩ := run_appN (P := P) w base sz t o.type e i z bytes ht hi hz hsize hby hzs hsz v n xs hown B A c m ys hm hr h1 hmax hbyt hbase
  unfold Oper.wp execOp
  simp only [ho, resolve, invoke, builtin, Sem.run_bind, Sem.run_pure, Result.andThen_ok, List.map_toArray, List.map_cons, List.map_nil, hs, hx, hrun]
  exact hK _ _ (h v' w' h2 h3 h4)
end
section
variable {α : Type} {L : Lay α} {n : Nat} {e : TypeId} {w : World} {xs ys : List α} {v : Value} {B : Nat} {A : Option Addr}
theorem OV.app_n2 {lo m : Nat} {cs : List Value} {x : α} (hz : ∀ w T cs x, L.own w T cs x → T = []) (h : OV (sliceL e n L) w lo m v xs) (hc : cs.length = n) (hx : ∀ w, L.own w [] cs x) (hlm : lo ≤ w.heap.size) :
    ∃ ys, w.ownsRow 0 e n v xs.length ys ∧ ∀ v' w', w'.ownsRow 0 e n v' (xs.length + 1) (ys ++ cs) → w.grownBy w' v.ownBlock → (v'.ownBlock = v.ownBlock ∨ v'.ownBlock = some w.heap.size) →
      Chg lo m w w' ∧ (OV (sliceL e n L) w' lo m v' (xs ++ [x]) ∨ OV (sliceL e n L) w' w.heap.size w'.heap.size v' (xs ++ [x])) := by
  have h' := h
  obtain ⟨zs, _, ho0, hin⟩ := h.row
  have hm : m ≤ w.heap.size := by obtain ⟨_, _, _, _, _, _, hm⟩ := h; exact hm
  obtain ⟨ys, R, -, hb⟩ := OV.app_n hz h' hc hx hlm
  refine ⟨ys, R, fun v' w' hrow hg hat => ?_⟩
  obtain ⟨⟨cs0, S, hv, ⟨u, rfl, cf, sf, ho, hel, rfl⟩, hn, hS, hh⟩, -⟩ := hb v' w' hrow hg hat
  obtain rfl : v' = u := hv
  have hsf : flat sf (xs ++ [x]).length = [] := List.eq_nil_iff_forall_not_mem.2 fun j hj => by
    obtain ⟨i, hi, hm⟩ := mem_flat.1 hj
    have := hz _ _ _ _ (hel i _ (List.getElem?_eq_getElem hi)).2
    rw [this] at hm; cases hm
  have hlt := World.ownsRow.lt hrow
  have hs := hg.size
  refine ⟨Chg.of_grown hg hin, ?_⟩
  rcases hat with ha | ha
  · refine .inl ⟨_, _, rfl, ⟨_, rfl, cf, sf, ho, hel, rfl⟩, hn, fun j hj => ?_, by omega⟩
    rw [hsf, List.append_nil] at hj
    exact hin j (by rw [← ha]; simpa using hj)
  · refine .inr ⟨_, _, rfl, ⟨_, rfl, cf, sf, ho, hel, rfl⟩, hn, fun j hj => ?_, Nat.le_refl _⟩
    rw [hsf, List.append_nil] at hj
    have hj' : v'.ownBlock = some j := by simpa using hj
    have h2 := (hlt j hj').2
    rw [ha] at hj'
    obtain rfl : w.heap.size = j := by simpa using hj'
    exact ⟨Nat.le_refl _, h2⟩
theorem Vr.rdV {b : Nat} {t : TypeId} {us : List Value} (h : Vr w b t us) : RdV w w.heap.size (some ⟨b, 0, none⟩) us := fun _ =>
  ⟨b, 0, rfl, h.lt, fun j u hu => by rw [Nat.zero_add]; exact h.cell hu⟩
end
end Go.Proofs.YtkbhbccpmmhelaaDoor
namespace Go.Proofs.YtkbhbccpmmhelaaDoor
open Go.RowKit
set_option linter.unusedVariables false
end Go.Proofs.YtkbhbccpmmhelaaDoor
namespace Go.Proofs.YtkbhbccpmmhelaaDoor
open Go.RowKit
set_option linter.unusedVariables false
theorem get_of_lt {α : Type} {xs : List α} {k : Nat} (h : k < xs.length) : ∃ x, xs[k]? = some x := ⟨xs[k], List.getElem?_eq_getElem h⟩
end Go.Proofs.YtkbhbccpmmhelaaDoor
namespace Go.Proofs.YtkbhbccpmmhelaaDoor
open Go.RowKit
set_option linter.unusedVariables false
def msgSL : Lay (List MMsg) := sliceL 24 4 msgL
theorem el_msg {w : World} {B : Nat} {A : Option Addr} {xs : List MMsg} {j : Nat} {x : MMsg} (h : RdL msgL 4 w B A xs) (hx : xs[j]? = some x) :
    ∃ b off, A = some ⟨b, off, none⟩ ∧ b < B ∧ w.cell? ⟨b, off + j * 4, none⟩ = some (.int .i64 x.Kind) ∧ w.cell? ⟨b, off + j * 4 + 1, none⟩ = some (.int .i64 x.Acct) ∧ w.cell? ⟨b, off + j * 4 + 2, none⟩ = some (.int .i64 x.Amt) ∧ w.cell? ⟨b, off + j * 4 + 3, none⟩ = some (.int .i64 x.Src) := by
  obtain ⟨b, off, cs, rfl, hb, hl, hc, hr⟩ := h.at_ hx
  obtain rfl := cs_msg hr
  exact ⟨b, off, rfl, hb, hc 0 _ rfl, hc 1 _ rfl, hc 2 _ rfl, hc 3 _ rfl⟩
theorem own_msg (w : World) (d : MMsg) : msgL.own w [] [.int .i64 d.Kind, .int .i64 d.Acct, .int .i64 d.Amt, .int .i64 d.Src] d := by
  have h := ovp_msg (w := w) (d := d) (lo := 0) (hi := 0) (Nat.zero_le _)
  obtain ⟨S, ho, hn, hS⟩ := h
  obtain rfl : S = [] := List.eq_nil_iff_forall_not_mem.2 fun j hj => by have := hS j hj; omega
  exact ho
theorem own_msg_nil (w : World) (T : List Nat) (cs : List Value) (x : MMsg) (h : msgL.own w T cs x) : T = [] := by
  obtain ⟨_, _, _, _, -, rfl, ⟨-, rfl⟩, ⟨_, _, _, _, -, rfl, ⟨-, rfl⟩, ⟨_, _, _, _, -, rfl, ⟨-, rfl⟩, ⟨-, rfl⟩⟩⟩⟩ := h
  rfl
theorem Tryd.info_msg : (Tryd.prog.info? 24).map (fun i => (i.zero, i.size, i.bytes)) = some (some (.agg #[.int .i64 0, .int .i64 0, .int .i64 0, .int .i64 0]), 4, 32) := by kernel_rfl
end Go.Proofs.YtkbhbccpmmhelaaDoor
namespace Go.Proofs.YtkbhbccpmmhelaaDoor
open Go.RowKit
set_option linter.unusedVariables false
end Go.Proofs.YtkbhbccpmmhelaaDoor
namespace Go.Proofs.YtkbhbccpmmhelaaDoor
open Go.RowKit
set_option linter.unusedVariables false
end Go.Proofs.YtkbhbccpmmhelaaDoor
namespace Go.Proofs.YtkbhbccpmmhelaaDoor
open Go.RowKit
set_option linter.unusedVariables false
end Go.Proofs.YtkbhbccpmmhelaaDoor
namespace Go.Proofs.YtkbhbccpmmhelaaDoor
open Go.RowKit
set_option linter.unusedVariables false
end Go.Proofs.YtkbhbccpmmhelaaDoor
namespace Go.Proofs.YtkbhbccpmmhelaaDoor
open Go.RowKit
set_option linter.unusedVariables false
theorem ov_msgs_lit (w : World) : OV msgSL (w.alloc (.cells #[] 24)) w.heap.size (w.heap.size + 1) (.slice (some ⟨w.heap.size, 0, none⟩) 0 0) [] := by
  have h := World.ownsRow_lit (base := 0) (e := 24) (size := 4) w #[] 0 (Nat.zero_le _) (by unfold maxLen; omega) (by simp)
  refine ⟨[_], [w.heap.size], rfl, ⟨_, rfl, fun _ => [], fun _ => [], by simpa [flat] using h, fun j x hx => by simp at hx, by simp [Value.ownBlock, flat]⟩, by simp, ?_, by simp⟩
  intro j hj
  obtain rfl : j = w.heap.size := by simpa using hj
  omega
end Go.Proofs.YtkbhbccpmmhelaaDoor
namespace Go.Proofs.YtkbhbccpmmhelaaDoor
open Go.RowKit
set_option linter.unusedVariables false
theorem OV.app_grow {α : Type} {L : Lay α} {e : TypeId} {n : Nat} {w : World} {v : Value} {xs : List α} {lo m : Nat} {cs : List Value} {x : α} (hz : ∀ w T cs x, L.own w T cs x → T = []) (h : OV (sliceL e n L) w lo m v xs) (hc : cs.length = n) (hx : ∀ w, L.own w [] cs x) (hlm : lo ≤ w.heap.size) :
    ∃ ys, w.ownsRow 0 e n v xs.length ys ∧ ∀ v' w', w'.ownsRow 0 e n v' (xs.length + 1) (ys ++ cs) → w.grownBy w' v.ownBlock → (v'.ownBlock = v.ownBlock ∨ v'.ownBlock = some w.heap.size) →
      Chg lo m w w' ∧ OV (sliceL e n L) w' lo w'.heap.size v' (xs ++ [x]) := by
  have hm : m ≤ w.heap.size := by obtain ⟨_, _, _, _, _, _, hm⟩ := h; exact hm
  obtain ⟨ys, R, hb⟩ := OV.app_n2 hz h hc hx hlm
  refine ⟨ys, R, fun v' w' h1 h2 h3 => ?_⟩
  obtain ⟨hc2, ho | ho⟩ := hb v' w' h1 h2 h3
  · exact ⟨hc2, ho.widen (Nat.le_refl _) (Nat.le_trans hm hc2.size) (Nat.le_refl _)⟩
  · exact ⟨hc2, ho.widen hlm (Nat.le_refl _) (Nat.le_refl _)⟩
end Go.Proofs.YtkbhbccpmmhelaaDoor
namespace Go.Proofs.YtkbhbccpmmhelaaDoor
open Go.RowKit
set_option linter.unusedVariables false
theorem drawn_ok {k a b s : Int} (hk : 1 ≤ k ∧ k ≤ 5) (ha : 0 ≤ a ∧ a < 3) (hb : (k ≠ 4 → 1 ≤ b ∧ b ≤ 90) ∧ (k = 4 → 0 ≤ b ∧ b < 4)) (hs : 0 ≤ s ∧ s < 3 ∧ (k ≠ 2 → s = 0)) : msgOkB ⟨k, a, b, s⟩ = true := by
  have h1 : inB a 0 2 = true := inB_true.2 (by omega)
  have h2 : inB s 0 2 = true := inB_true.2 (by omega)
  rw [msgOk_rest (m := ⟨k, a, b, s⟩) h1 h2 (by show k = 2 ∨ s = 0; omega)]
  show amtOkB k b = true
  unfold amtOkB
  by_cases h3 : k = 1 ∨ k = 2 ∨ k = 3
  · rw [if_pos h3]; exact inB_true.2 (by omega)
  · rw [if_neg h3]
    by_cases h4 : k = 4
    · rw [if_pos h4]; exact inB_true.2 (by omega)
    · rw [if_neg h4, if_pos (by omega)]; exact numB_true.2 (by omega)
set_option maxRecDepth 100000 in
set_option maxHeartbeats 4000000 in
theorem cMsg_c {w : World} {g : Nat} {A : Option Addr} {c : Nat} {zs : List Int} (hk : CurOk w g A c zs) (hb : Bytes zs) (hm : zs.length ≤ 1073741824) :
    Calls Tryd.prog 38 #[.pointer (some ⟨g, 0, none⟩)] w fun e w' => ∃ m : MMsg, e = .returned (.agg #[.int .i64 m.Kind, .int .i64 m.Acct, .int .i64 m.Amt, .int .i64 m.Src]) ∧ msgOkB m = true ∧ (0 ≤ m.Amt ∧ m.Amt ≤ 90) ∧ CurOk w' g A c zs ∧ Chg g (g + 1) w w' := by
  have hgl := hk.lt
  have hgle := Nat.le_of_lt hgl
  obtain ⟨wa, hwa, B0, sa, x_r⟩ := frame1 w 24 [.int .i64 0, .int .i64 0, .int .i64 0, .int .i64 0]
  have sa_1 := Nat.le_of_eq sa
  have sa_2 := Nat.le_of_eq sa.symm
  clear sa
  have Bg := B0.mono hgle
  have C0 := (Chg.refl g (g + 1) w).then_below B0
  replace hk := hk.below B0
  have c_r_0_wa := x_r.cell (i := 0) rfl
  have f_r_0_wa := x_r.frozen 0
  have c_r_1_wa := x_r.cell (i := 1) rfl
  have f_r_1_wa := x_r.frozen 1
  have c_r_2_wa := x_r.cell (i := 2) rfl
  have f_r_2_wa := x_r.frozen 2
  have c_r_3_wa := x_r.cell (i := 3) rfl
  have f_r_3_wa := x_r.frozen 3
  go_enter Tryd.func38, Tryd.ntmps38
  go_wp2_with fail
  refine (cBelow_c (n := 5) hk hb hm (by omega) (by omega)).mono ?_
  rintro e w1 ⟨k, rfl, bk, y, h_w1⟩
  clear c_r_0_wa f_r_0_wa c_r_1_wa f_r_1_wa c_r_2_wa f_r_2_wa c_r_3_wa f_r_3_wa
  replace x_r := x_r.chg h_w1 (by omega)
  have B_w1 := Below.chg_ Bg h_w1 (by omega) (by omega)
  have C_w1 := C0.then_same h_w1
  have s_w1 := h_w1.size
  replace hk := y
  clear y
  go_wp2_with fail
  refine (cBelow_c (n := 3) hk hb hm (by omega) (by omega)).mono ?_
  rintro e w2 ⟨a, rfl, ba, y, h_w2⟩
  replace x_r := x_r.chg h_w2 (by omega)
  have B_w2 := Below.chg_ B_w1 h_w2 (by omega) (by omega)
  have C_w2 := C_w1.then_same h_w2
  have s_w2 := h_w2.size
  replace hk := y
  clear y
  go_wp2_with fail
  refine (cBelow_c (n := 90) hk hb hm (by omega) (by omega)).mono ?_
  rintro e w3 ⟨b, rfl, bb, y, h_w3⟩
  replace x_r := x_r.chg h_w3 (by omega)
  have B_w3 := Below.chg_ B_w2 h_w3 (by omega) (by omega)
  have C_w3 := C_w2.then_same h_w3
  have s_w3 := h_w3.size
  replace hk := y
  clear y
  have c_r_0_w3 := x_r.cell (i := 0) rfl
  have f_r_0_w3 := x_r.frozen 0
  have c_r_1_w3 := x_r.cell (i := 1) rfl
  have f_r_1_w3 := x_r.frozen 1
  have c_r_2_w3 := x_r.cell (i := 2) rfl
  have f_r_2_w3 := x_r.frozen 2
  have c_r_3_w3 := x_r.cell (i := 3) rfl
  have f_r_3_w3 := x_r.frozen 3
  by_cases h1 : k = 1
  case pos =>
    subst h1
    obtain ⟨w4, e_w4, s_w4, h_w4, x_m⟩ := alloc_step w3 24 [.int .i64 2, .int .i64 a, .int .i64 (1 + b), .int .i64 0]
    have s_w4_1 := Nat.le_of_eq s_w4
    have s_w4_2 := Nat.le_of_eq s_w4.symm
    clear s_w4
    replace x_r := x_r.from_ h_w4
    replace hk := hk.below h_w4
    have B_w4 := B_w3.trans (h_w4.mono (Nat.le_trans hgle B_w3.size))
    have C_w4 := C_w3.then_below h_w4
    have i_w4_3 := x_m.same (i := 3) rfl
    have c_r_0_w4 := x_r.cell (i := 0) rfl
    have f_r_0_w4 := x_r.frozen 0
    have c_r_1_w4 := x_r.cell (i := 1) rfl
    have f_r_1_w4 := x_r.frozen 1
    have c_r_2_w4 := x_r.cell (i := 2) rfl
    have f_r_2_w4 := x_r.frozen 2
    have c_r_3_w4 := x_r.cell (i := 3) rfl
    have f_r_3_w4 := x_r.frozen 3
    have c_m_0_w4 := x_m.cell (i := 0) rfl
    have f_m_0_w4 := x_m.frozen 0
    have c_m_1_w4 := x_m.cell (i := 1) rfl
    have f_m_1_w4 := x_m.frozen 1
    have c_m_2_w4 := x_m.cell (i := 2) rfl
    have f_m_2_w4 := x_m.frozen 2
    have c_m_3_w4 := x_m.cell (i := 3) rfl
    have f_m_3_w4 := x_m.frozen 3
    go_wp2_with fail
    refine (cBelow_c (n := 3) hk hb hm (by omega) (by omega)).mono ?_
    rintro e w5 ⟨s, rfl, bs, y, h_w5⟩
    clear c_r_0_w3 f_r_0_w3 c_r_1_w3 f_r_1_w3 c_r_2_w3 f_r_2_w3 c_r_3_w3 f_r_3_w3 i_w4_3 c_r_0_w4 f_r_0_w4 c_r_1_w4 f_r_1_w4 c_r_2_w4 f_r_2_w4 c_r_3_w4 f_r_3_w4 c_m_0_w4 f_m_0_w4 c_m_1_w4 f_m_1_w4 c_m_2_w4 f_m_2_w4 c_m_3_w4 f_m_3_w4
    replace x_r := x_r.chg h_w5 (by omega)
    replace x_m := x_m.chg h_w5 (by omega)
    have B_w5 := Below.chg_ B_w4 h_w5 (by omega) (by omega)
    have C_w5 := C_w4.then_same h_w5
    have s_w5 := h_w5.size
    replace hk := y
    clear y
    have c_r_0_w5 := x_r.cell (i := 0) rfl
    have f_r_0_w5 := x_r.frozen 0
    have c_r_1_w5 := x_r.cell (i := 1) rfl
    have f_r_1_w5 := x_r.frozen 1
    have c_r_2_w5 := x_r.cell (i := 2) rfl
    have f_r_2_w5 := x_r.frozen 2
    have c_r_3_w5 := x_r.cell (i := 3) rfl
    have f_r_3_w5 := x_r.frozen 3
    have c_m_0_w5 := x_m.cell (i := 0) rfl
    have f_m_0_w5 := x_m.frozen 0
    have c_m_1_w5 := x_m.cell (i := 1) rfl
    have f_m_1_w5 := x_m.frozen 1
    have c_m_2_w5 := x_m.cell (i := 2) rfl
    have f_m_2_w5 := x_m.frozen 2
    have c_m_3_w5 := x_m.cell (i := 3) rfl
    have f_m_3_w5 := x_m.frozen 3
    obtain ⟨w6, e_w6, s_w6, h_w6, y⟩ := set_step x_m 3 (.int .i64 s)
    have s_w6_1 := Nat.le_of_eq s_w6
    have s_w6_2 := Nat.le_of_eq s_w6.symm
    clear s_w6
    replace x_r := x_r.chg h_w6 (by omega)
    replace hk := hk.chg h_w6 (by omega)
    have B_w6 := Below.chg_ B_w5 h_w6 (by omega) (by omega)
    have C_w6 := C_w5.then_new h_w6 (by omega)
    replace x_m : Vr w6 (w3.heap.size) 24 [.int .i64 2, .int .i64 a, .int .i64 (1 + b), .int .i64 s] := y
    clear y
    have c_r_0_w6 := x_r.cell (i := 0) rfl
    have f_r_0_w6 := x_r.frozen 0
    have c_r_1_w6 := x_r.cell (i := 1) rfl
    have f_r_1_w6 := x_r.frozen 1
    have c_r_2_w6 := x_r.cell (i := 2) rfl
    have f_r_2_w6 := x_r.frozen 2
    have c_r_3_w6 := x_r.cell (i := 3) rfl
    have f_r_3_w6 := x_r.frozen 3
    have c_m_0_w6 := x_m.cell (i := 0) rfl
    have f_m_0_w6 := x_m.frozen 0
    have c_m_1_w6 := x_m.cell (i := 1) rfl
    have f_m_1_w6 := x_m.frozen 1
    have c_m_2_w6 := x_m.cell (i := 2) rfl
    have f_m_2_w6 := x_m.frozen 2
    have c_m_3_w6 := x_m.cell (i := 3) rfl
    have f_m_3_w6 := x_m.frozen 3
    obtain ⟨w7, e_w7, s_w7, h_w7, y⟩ := store_step x_r [.int .i64 2, .int .i64 a, .int .i64 (1 + b), .int .i64 s] rfl
    replace e_w7 : ((((w6.setCell ⟨w.heap.size, 0, none⟩ (.int .i64 2)).setCell ⟨w.heap.size, 1, none⟩ (.int .i64 a)).setCell ⟨w.heap.size, 2, none⟩ (.int .i64 (1 + b))).setCell ⟨w.heap.size, 3, none⟩ (.int .i64 s)) = w7 := e_w7
    have s_w7_1 := Nat.le_of_eq s_w7
    have s_w7_2 := Nat.le_of_eq s_w7.symm
    clear s_w7
    replace x_m := x_m.chg h_w7 (by omega)
    replace hk := hk.chg h_w7 (by omega)
    have B_w7 := Below.chg_ B_w6 h_w7 (by omega) (by omega)
    have C_w7 := C_w6.then_new h_w7 (by omega)
    replace x_r : Vr w7 (w.heap.size) 24 [.int .i64 2, .int .i64 a, .int .i64 (1 + b), .int .i64 s] := y
    clear y
    have c_r_0_w7 := x_r.cell (i := 0) rfl
    have f_r_0_w7 := x_r.frozen 0
    have c_r_1_w7 := x_r.cell (i := 1) rfl
    have f_r_1_w7 := x_r.frozen 1
    have c_r_2_w7 := x_r.cell (i := 2) rfl
    have f_r_2_w7 := x_r.frozen 2
    have c_r_3_w7 := x_r.cell (i := 3) rfl
    have f_r_3_w7 := x_r.frozen 3
    go_wp2
    refine ret_cell (by rfl) (by rfl) x_r Tryd.underlying24 sz_msg (by rfl) ?_
    exact ⟨⟨2, a, (1 + b), s⟩, rfl, drawn_ok (by omega) (by omega) (by omega) (by omega), ⟨by show (0 : Int) ≤ (1 + b); omega, by show (1 + b) ≤ (90 : Int); omega⟩, hk, C_w7⟩
  by_cases h3 : k = 3
  case pos =>
    subst h3
    obtain ⟨w4, e_w4, s_w4, h_w4, x_m⟩ := alloc_step w3 24 [.int .i64 4, .int .i64 a, .int .i64 (1 + b), .int .i64 0]
    have s_w4_1 := Nat.le_of_eq s_w4
    have s_w4_2 := Nat.le_of_eq s_w4.symm
    clear s_w4
    replace x_r := x_r.from_ h_w4
    replace hk := hk.below h_w4
    have B_w4 := B_w3.trans (h_w4.mono (Nat.le_trans hgle B_w3.size))
    have C_w4 := C_w3.then_below h_w4
    have i_w4_3 := x_m.same (i := 3) rfl
    have c_r_0_w4 := x_r.cell (i := 0) rfl
    have f_r_0_w4 := x_r.frozen 0
    have c_r_1_w4 := x_r.cell (i := 1) rfl
    have f_r_1_w4 := x_r.frozen 1
    have c_r_2_w4 := x_r.cell (i := 2) rfl
    have f_r_2_w4 := x_r.frozen 2
    have c_r_3_w4 := x_r.cell (i := 3) rfl
    have f_r_3_w4 := x_r.frozen 3
    have c_m_0_w4 := x_m.cell (i := 0) rfl
    have f_m_0_w4 := x_m.frozen 0
    have c_m_1_w4 := x_m.cell (i := 1) rfl
    have f_m_1_w4 := x_m.frozen 1
    have c_m_2_w4 := x_m.cell (i := 2) rfl
    have f_m_2_w4 := x_m.frozen 2
    have c_m_3_w4 := x_m.cell (i := 3) rfl
    have f_m_3_w4 := x_m.frozen 3
    go_wp2_with fail
    refine (cBelow_c (n := 4) hk hb hm (by omega) (by omega)).mono ?_
    rintro e w5 ⟨s, rfl, bs, y, h_w5⟩
    clear c_r_0_w3 f_r_0_w3 c_r_1_w3 f_r_1_w3 c_r_2_w3 f_r_2_w3 c_r_3_w3 f_r_3_w3 i_w4_3 c_r_0_w4 f_r_0_w4 c_r_1_w4 f_r_1_w4 c_r_2_w4 f_r_2_w4 c_r_3_w4 f_r_3_w4 c_m_0_w4 f_m_0_w4 c_m_1_w4 f_m_1_w4 c_m_2_w4 f_m_2_w4 c_m_3_w4 f_m_3_w4
    replace x_r := x_r.chg h_w5 (by omega)
    replace x_m := x_m.chg h_w5 (by omega)
    have B_w5 := Below.chg_ B_w4 h_w5 (by omega) (by omega)
    have C_w5 := C_w4.then_same h_w5
    have s_w5 := h_w5.size
    replace hk := y
    clear y
    have c_r_0_w5 := x_r.cell (i := 0) rfl
    have f_r_0_w5 := x_r.frozen 0
    have c_r_1_w5 := x_r.cell (i := 1) rfl
    have f_r_1_w5 := x_r.frozen 1
    have c_r_2_w5 := x_r.cell (i := 2) rfl
    have f_r_2_w5 := x_r.frozen 2
    have c_r_3_w5 := x_r.cell (i := 3) rfl
    have f_r_3_w5 := x_r.frozen 3
    have c_m_0_w5 := x_m.cell (i := 0) rfl
    have f_m_0_w5 := x_m.frozen 0
    have c_m_1_w5 := x_m.cell (i := 1) rfl
    have f_m_1_w5 := x_m.frozen 1
    have c_m_2_w5 := x_m.cell (i := 2) rfl
    have f_m_2_w5 := x_m.frozen 2
    have c_m_3_w5 := x_m.cell (i := 3) rfl
    have f_m_3_w5 := x_m.frozen 3
    obtain ⟨w6, e_w6, s_w6, h_w6, y⟩ := set_step x_m 2 (.int .i64 s)
    have s_w6_1 := Nat.le_of_eq s_w6
    have s_w6_2 := Nat.le_of_eq s_w6.symm
    clear s_w6
    replace x_r := x_r.chg h_w6 (by omega)
    replace hk := hk.chg h_w6 (by omega)
    have B_w6 := Below.chg_ B_w5 h_w6 (by omega) (by omega)
    have C_w6 := C_w5.then_new h_w6 (by omega)
    replace x_m : Vr w6 (w3.heap.size) 24 [.int .i64 4, .int .i64 a, .int .i64 s, .int .i64 0] := y
    clear y
    have c_r_0_w6 := x_r.cell (i := 0) rfl
    have f_r_0_w6 := x_r.frozen 0
    have c_r_1_w6 := x_r.cell (i := 1) rfl
    have f_r_1_w6 := x_r.frozen 1
    have c_r_2_w6 := x_r.cell (i := 2) rfl
    have f_r_2_w6 := x_r.frozen 2
    have c_r_3_w6 := x_r.cell (i := 3) rfl
    have f_r_3_w6 := x_r.frozen 3
    have c_m_0_w6 := x_m.cell (i := 0) rfl
    have f_m_0_w6 := x_m.frozen 0
    have c_m_1_w6 := x_m.cell (i := 1) rfl
    have f_m_1_w6 := x_m.frozen 1
    have c_m_2_w6 := x_m.cell (i := 2) rfl
    have f_m_2_w6 := x_m.frozen 2
    have c_m_3_w6 := x_m.cell (i := 3) rfl
    have f_m_3_w6 := x_m.frozen 3
    obtain ⟨w7, e_w7, s_w7, h_w7, y⟩ := store_step x_r [.int .i64 4, .int .i64 a, .int .i64 s, .int .i64 0] rfl
    replace e_w7 : ((((w6.setCell ⟨w.heap.size, 0, none⟩ (.int .i64 4)).setCell ⟨w.heap.size, 1, none⟩ (.int .i64 a)).setCell ⟨w.heap.size, 2, none⟩ (.int .i64 s)).setCell ⟨w.heap.size, 3, none⟩ (.int .i64 0)) = w7 := e_w7
    have s_w7_1 := Nat.le_of_eq s_w7
    have s_w7_2 := Nat.le_of_eq s_w7.symm
    clear s_w7
    replace x_m := x_m.chg h_w7 (by omega)
    replace hk := hk.chg h_w7 (by omega)
    have B_w7 := Below.chg_ B_w6 h_w7 (by omega) (by omega)
    have C_w7 := C_w6.then_new h_w7 (by omega)
    replace x_r : Vr w7 (w.heap.size) 24 [.int .i64 4, .int .i64 a, .int .i64 s, .int .i64 0] := y
    clear y
    have c_r_0_w7 := x_r.cell (i := 0) rfl
    have f_r_0_w7 := x_r.frozen 0
    have c_r_1_w7 := x_r.cell (i := 1) rfl
    have f_r_1_w7 := x_r.frozen 1
    have c_r_2_w7 := x_r.cell (i := 2) rfl
    have f_r_2_w7 := x_r.frozen 2
    have c_r_3_w7 := x_r.cell (i := 3) rfl
    have f_r_3_w7 := x_r.frozen 3
    go_wp2
    refine ret_cell (by rfl) (by rfl) x_r Tryd.underlying24 sz_msg (by rfl) ?_
    exact ⟨⟨4, a, s, 0⟩, rfl, drawn_ok (by omega) (by omega) (by omega) (by omega), ⟨by show (0 : Int) ≤ s; omega, by show s ≤ (90 : Int); omega⟩, hk, C_w7⟩
  have i2 : ((1 + k : Int) == 2) = false := by simp; omega
  have i4 : ((1 + k : Int) == 4) = false := by simp; omega
  obtain ⟨w4, e_w4, s_w4, h_w4, x_m⟩ := alloc_step w3 24 [.int .i64 (1 + k), .int .i64 a, .int .i64 (1 + b), .int .i64 0]
  have s_w4_1 := Nat.le_of_eq s_w4
  have s_w4_2 := Nat.le_of_eq s_w4.symm
  clear s_w4
  replace x_r := x_r.from_ h_w4
  replace hk := hk.below h_w4
  have B_w4 := B_w3.trans (h_w4.mono (Nat.le_trans hgle B_w3.size))
  have C_w4 := C_w3.then_below h_w4
  have i_w4_3 := x_m.same (i := 3) rfl
  have c_r_0_w4 := x_r.cell (i := 0) rfl
  have f_r_0_w4 := x_r.frozen 0
  have c_r_1_w4 := x_r.cell (i := 1) rfl
  have f_r_1_w4 := x_r.frozen 1
  have c_r_2_w4 := x_r.cell (i := 2) rfl
  have f_r_2_w4 := x_r.frozen 2
  have c_r_3_w4 := x_r.cell (i := 3) rfl
  have f_r_3_w4 := x_r.frozen 3
  have c_m_0_w4 := x_m.cell (i := 0) rfl
  have f_m_0_w4 := x_m.frozen 0
  have c_m_1_w4 := x_m.cell (i := 1) rfl
  have f_m_1_w4 := x_m.frozen 1
  have c_m_2_w4 := x_m.cell (i := 2) rfl
  have f_m_2_w4 := x_m.frozen 2
  have c_m_3_w4 := x_m.cell (i := 3) rfl
  have f_m_3_w4 := x_m.frozen 3
  obtain ⟨w5, e_w5, s_w5, h_w5, y⟩ := store_step x_r [.int .i64 (1 + k), .int .i64 a, .int .i64 (1 + b), .int .i64 0] rfl
  replace e_w5 : ((((w4.setCell ⟨w.heap.size, 0, none⟩ (.int .i64 (1 + k))).setCell ⟨w.heap.size, 1, none⟩ (.int .i64 a)).setCell ⟨w.heap.size, 2, none⟩ (.int .i64 (1 + b))).setCell ⟨w.heap.size, 3, none⟩ (.int .i64 0)) = w5 := e_w5
  have s_w5_1 := Nat.le_of_eq s_w5
  have s_w5_2 := Nat.le_of_eq s_w5.symm
  clear s_w5
  replace x_m := x_m.chg h_w5 (by omega)
  replace hk := hk.chg h_w5 (by omega)
  have B_w5 := Below.chg_ B_w4 h_w5 (by omega) (by omega)
  have C_w5 := C_w4.then_new h_w5 (by omega)
  replace x_r : Vr w5 (w.heap.size) 24 [.int .i64 (1 + k), .int .i64 a, .int .i64 (1 + b), .int .i64 0] := y
  clear y
  have c_r_0_w5 := x_r.cell (i := 0) rfl
  have f_r_0_w5 := x_r.frozen 0
  have c_r_1_w5 := x_r.cell (i := 1) rfl
  have f_r_1_w5 := x_r.frozen 1
  have c_r_2_w5 := x_r.cell (i := 2) rfl
  have f_r_2_w5 := x_r.frozen 2
  have c_r_3_w5 := x_r.cell (i := 3) rfl
  have f_r_3_w5 := x_r.frozen 3
  go_wp2
  refine ret_cell (by rfl) (by rfl) x_r Tryd.underlying24 sz_msg (by rfl) ?_
  exact ⟨⟨(1 + k), a, (1 + b), 0⟩, rfl, drawn_ok (by omega) (by omega) (by omega) (by omega), ⟨by show (0 : Int) ≤ (1 + b); omega, by show (1 + b) ≤ (90 : Int); omega⟩, hk, C_w5⟩
def AllOk (l : List MMsg) : Prop := ∀ m ∈ l, msgOkB m = true
theorem AllOk.snoc {l : List MMsg} {m : MMsg} (h : AllOk l) (hm : msgOkB m = true) : AllOk (l ++ [m]) := by
  intro y hy
  rcases List.mem_append.1 hy with h1 | h1
  · exact h y h1
  · simp at h1; rw [h1]; exact hm
set_option maxRecDepth 100000 in
set_option maxHeartbeats 4000000 in
theorem makeMsgs_c {w : World} {A : Option Addr} {c : Nat} {zs : List Int} (hr : Rd .u8 w w.heap.size A zs) (hb : Bytes zs) (hm : zs.length ≤ 1048576) :
    Calls Tryd.prog 13 #[.slice A zs.length c] w fun e w' => ∃ v l, e = .returned v ∧ OV msgSL w' w.heap.size w'.heap.size v l ∧ AllOk l ∧ l.length ≤ 7 ∧ Below w.heap.size w w' := by
  obtain ⟨i0, hi, hz0, hz1, hz2⟩ := info_parts Tryd.info_msg
  go_enter Tryd.func13, Tryd.ntmps13
  go_wp2_with fail
  refine (cNew_c hr hb hm).mono ?_
  rintro e w1 ⟨rfl, k1, b1⟩
  have l1 := k1.lt
  have oL := ov_msgs_lit w1
  obtain ⟨w2, e2, s2, h2, -⟩ := alloc_step w1 24 []
  have e2' : w1.alloc (.cells #[] 24) = w2 := e2
  rw [e2'] at oL
  have k2 := k1.below h2
  have b2 := b1.trans (h2.mono b1.size)
  have s2_1 := Nat.le_of_eq s2
  have s2_2 := Nat.le_of_eq s2.symm
  clear s2 e2'
  go_wp2_with fail
  refine (cBelow_c (n := 8) k2 hb (by omega) (by omega) (by omega)).mono ?_
  rintro e w3 ⟨K, rfl, bK, k3, c3⟩
  have b3 := Below.chg_ b2 c3 (by omega) (by omega)
  have s3 := c3.size
  replace oL := oL.chg c3 (by omega)
  obtain ⟨N, rfl⟩ : ∃ N : Nat, K = (N : Int) := ⟨K.toNat, by omega⟩
  go_wp2
  go_loopw [4, 5] (fun sl sk wr => ∃ (m : Nat) (l : List MMsg), sk = .int .i64 m ∧ OV msgSL wr (w.heap.size + 1) wr.heap.size sl l ∧ AllOk l ∧ l.length + m ≤ 7 ∧ CurOk wr w.heap.size A c zs ∧ Below w.heap.size w wr ∧ w.heap.size + 1 ≤ wr.heap.size) (fun _ sk _ => (intOf sk).toNat)
  case atStart => exact ⟨N, [], rfl, oL.widen (by omega) (by omega) (Nat.le_refl _), (fun x hx => by simp at hx), by simp; omega, k3, b3, by omega⟩
  case round =>
    obtain ⟨m, l, rfl, hown, hall, hlen, hkr, hbr, hszr⟩ := hrel
    by_cases hm0 : 0 < m
    · have i1 : (0 : Int) < (m : Int) := by omega
      go_wp2_with fail
      refine (cMsg_c hkr hb (by omega)).mono ?_
      rintro e w4 ⟨d, rfl, hd, -, k4, c4⟩
      have b4 := Below.chg_ hbr c4 (by omega) (by omega)
      have s4 := c4.size
      have o4 := hown.chg c4 (by omega)
      obtain ⟨w5, e5, s5, h5, x5⟩ := alloc_step w4 24 [.int .i64 d.Kind, .int .i64 d.Acct, .int .i64 d.Amt, .int .i64 d.Src]
      have s5_1 := Nat.le_of_eq s5
      have s5_2 := Nat.le_of_eq s5.symm
      clear s5
      have k5 := k4.below h5
      have b5 := b4.trans (h5.mono b4.size)
      have o5 := o4.below h5
      have hRV := x5.rdV
      obtain ⟨A5, c5, rfl, -, -, -⟩ := rv_slice o5.rd
      obtain ⟨ys, R, hback⟩ := OV.app_grow own_msg_nil o5 (cs := [.int .i64 d.Kind, .int .i64 d.Acct, .int .i64 d.Amt, .int .i64 d.Src]) rfl (fun w => own_msg w d) (by omega)
      go_wp2_with (at_builtin; refine wpl_appN _ rfl (.tmp 15) (.tmp 18) 36 rfl 0 4 24 i0 (.agg #[.int .i64 0, .int .i64 0, .int .i64 0, .int .i64 0]) 32 Tryd.underlying36 hi hz0 hz1 hz2 rfl (by decide) _ l.length ys rfl R _ _ _ 1 [.int .i64 d.Kind, .int .i64 d.Acct, .int .i64 d.Amt, .int .i64 d.Src] rfl rfl hRV ?d0 ?d1 (by decide) (Nat.zero_le _) ?_)
      case d0 => intro u hu; simp only [List.mem_cons, List.not_mem_nil, or_false] at hu; rcases hu with rfl | rfl | rfl | rfl <;> rfl
      case d1 => omega
      intro v6 w6 ho6 hg6 hat6
      obtain ⟨c6, o6⟩ := hback v6 w6 ho6 hg6 hat6
      clear hback R ho6 hg6 hat6 hRV
      have k6 := k5.chg c6 (by omega)
      have b6 := Below.chg_ b5 c6 (by omega) (by omega)
      have s6 := c6.size
      go_wp2
      go_roundw
      case rel => exact ⟨m - 1, l ++ [d], by go_num, o6, hall.snoc hd, by simp; omega, k6, b6, by omega⟩
      case measure => simp [intOf]; omega
    · have hm1 : m = 0 := by omega
      subst hm1
      go_wp2
      go_ret
      exact ⟨_, l, rfl, hown.widen (by omega) (Nat.le_refl _) (Nat.le_refl _), hall, by omega, hbr⟩
end Go.Proofs.YtkbhbccpmmhelaaDoor
namespace Go.Proofs.YtkbhbccpmmhelaaDoor
set_option linter.unusedVariables false
theorem msgsEnc_len {l : List MMsg} (h : AllOk l) : (msgsEnc l).length ≤ 32 * l.length := by
  induction l with
  | nil => exact Nat.le_refl _
  | cons m l ih =>
    have h1 := encs_len _ (msgNums_ok (h m (List.mem_cons_self ..)))
    have h2 := ih (fun x hx => h x (List.mem_cons_of_mem _ hx))
    have h3 : (msgNums m).length = 4 := rfl
    have e : msgsEnc (m :: l) = encs (msgNums m) ++ msgsEnc l := rfl
    rw [e, List.length_append, List.length_cons]
    omega
theorem msgsEnc_bytes (l : List MMsg) : Bytes (msgsEnc l) := by
  apply bytes_of_all
  intro x hx
  unfold msgsEnc at hx
  rw [List.mem_flatten] at hx
  obtain ⟨b, hb, hx⟩ := hx
  rw [List.mem_map] at hb
  obtain ⟨m, -, rfl⟩ := hb
  exact encs_all _ _ hx
theorem msgsEnc_take {l : List MMsg} {k : Nat} {x : MMsg} (hx : l[k]? = some x) : msgsEnc (l.take (k + 1)) = msgsEnc (l.take k) ++ encs (msgNums x) := by
  rw [List.take_add_one, hx]
  exact msgsEnc_snoc _ _
theorem msgsEnc_split {l : List MMsg} {k : Nat} {x : MMsg} (hx : l[k]? = some x) : msgsEnc l = msgsEnc (l.take k) ++ (encs (msgNums x) ++ msgsEnc (l.drop (k + 1))) := by
  rw [← List.append_assoc, ← msgsEnc_take hx]
  have e : msgsEnc (l.take (k + 1)) ++ msgsEnc (l.drop (k + 1)) = msgsEnc (l.take (k + 1) ++ l.drop (k + 1)) := by
    unfold msgsEnc
    rw [← List.flatten_append, ← List.map_append]
  rw [e, List.take_append_drop]
theorem allOk_take {l : List MMsg} (h : AllOk l) (k : Nat) : AllOk (l.take k) := fun x hx => h x (List.mem_of_mem_take hx)
theorem text_full {m : MMsg} (h : msgOkB m = true) : ((msgText m).toList == []) = false := by
  rw [str_empty]
  apply decide_eq_false
  intro e
  have h2 := congrArg ByteArray.size e
  unfold msgText at h2
  rw [if_pos h] at h2
  have h1 : (⟨#[32]⟩ : ByteArray).size = 1 := rfl
  have h3 : ByteArray.empty.size = 0 := rfl
  simp only [ByteArray.size_append] at h2
  omega
theorem name_full {k : Int} (h : 1 ≤ k ∧ k ≤ 9) : ((rkName k).toList == []) = false := by
  rw [str_empty]
  apply decide_eq_false
  intro e
  have h2 := congrArg ByteArray.size e
  exact rkName_ne h (by rw [h2]; rfl)
end Go.Proofs.YtkbhbccpmmhelaaDoor
