/- Contracts of the laws' own helpers on slices of strings: eqStringS, markText, markStringS, heldStringS. -/
import Derived.Test.YtfdhilpmblbkfaaProg
import Derived.Test.YtfdhilpmblbkfaaGen
import Derived.Test.YtfdhilpmblbkfaaSameBytes
import Derived.Deep.QuietTactic
import Derived.BigQuiet
import Derived.Deep.RegionHeld3
import Derived.Deep.RegionWith
namespace Go.Proofs.Ytfdhilpmblbkfaa
open Go.RowKit
set_option linter.unusedVariables false

theorem take_succ_eqF {α : Type} {xs ys : List α} {d : α} {k : Nat} (h : xs.take k = ys.take k) (hx : k < xs.length) (hy : k < ys.length) (hk : xs.getD k d = ys.getD k d) : xs.take (k + 1) = ys.take (k + 1) := by
  rw [List.take_succ_eq_append_getElem hx, List.take_succ_eq_append_getElem hy, h]
  simp [hx, hy] at hk
  rw [hk]

set_option maxHeartbeats 400000 in
theorem eqStringS_any (A A' : Option Addr) (c c' : Nat) (xs ys : List ByteArray) (w : World) (B : Nat) (hx : RdF Value.string ByteArray.empty w B A xs) (hy : RdF Value.string ByteArray.empty w B A' ys) (hm : xs.length ≤ 1073741824) :
    Calls Try.prog 30 #[.slice A xs.length c, .slice A' ys.length c'] w (SaysB w (decide (xs = ys))) := by
  by_cases hl : xs.length = ys.length
  · have hl' : ((xs.length : Int) != (ys.length : Int)) = false := by simp [hl]
    have HL := Lib.hid hl
    clear hl
    go_enter Try.func30, Try.ntmps30
    go_wp2
    go_loopw [5] (fun i wr => ∃ k n : Nat, k ≤ xs.length ∧ i = .int .i64 k ∧ xs.take k = ys.take k ∧ wr = w.drewN n) (fun i _ => xs.length - (intOf i).toNat)
    case atStart => exact ⟨0, 0, Nat.zero_le _, rfl, rfl, rfl⟩
    case round =>
      obtain ⟨k, n, hk, rfl, htk, rfl⟩ := hrel
      have HT := Lib.hid htk
      clear htk
      by_cases hlt : k < xs.length
      · have hlt' : k < ys.length := by have := HL.out; omega
        obtain ⟨b, off, rfl, hb, hc⟩ := hx.at_ hlt
        obtain ⟨b', off', rfl, hb', hc'⟩ := hy.at_ hlt'
        obtain ⟨x, hxe⟩ : ∃ x, x = xs.getD k ByteArray.empty := ⟨_, rfl⟩
        obtain ⟨y, hye⟩ : ∃ y, y = ys.getD k ByteArray.empty := ⟨_, rfl⟩
        rw [← hxe] at hc
        rw [← hye] at hc'
        have HX := Lib.hid hxe
        have HY := Lib.hid hye
        clear hxe hye
        have i1 : (k : Int) < (xs.length : Int) := by omega
        have i2 : (k : Int) < (ys.length : Int) := by omega
        by_cases hxy : x = y
        · subst hxy
          go_wp2
          go_quiet (fail)
          go_wp2
          go_roundw
          case rel => exact ⟨k + 1, _, by omega, by go_num, take_succ_eqF HT.out hlt hlt' (HX.out.symm.trans HY.out), rfl⟩
          case measure => simp [intOf]; omega
        · have hne : (x.toList == y.toList) = false := by rw [str_same]; simpa using hxy
          have hne2 : (x.toList != y.toList) = true := by simp only [bne, hne]; rfl
          go_wp2
          go_quiet (fail)
          go_wp2
          go_ret
          have hd : decide (xs = ys) = false := by
            simp only [decide_eq_false_iff_not]
            intro e
            exact hxy (by rw [HX.out, HY.out, e])
          exact ⟨by rw [hd]; rfl, n + nq, drewN_two _ _ _⟩
      · have hk2 : k = xs.length := by omega
        subst hk2
        have : xs = ys := by
          have h := HT.out
          rw [List.take_of_length_le (Nat.le_refl _), List.take_of_length_le (by rw [HL.out]; exact Nat.le_refl _)] at h
          exact h
        go_wp2
        go_ret
        exact ⟨by simp [this], _, rfl⟩
  · have hl' : ((xs.length : Int) != (ys.length : Int)) = true := by simp; omega
    have hne : decide (xs = ys) = false := by
      simp; intro e; exact hl (by rw [e])
    rw [hne]
    go_enter Try.func30, Try.ntmps30
    go_wp2
    go_ret
    exact ⟨rfl, 0, rfl⟩

theorem eqStringS_same {w : World} {v v' : Value} {xs : List ByteArray} (h : RSF Value.string ByteArray.empty w v xs) (h' : RSF Value.string ByteArray.empty w v' xs) (hm : xs.length ≤ 1073741824) :
    Calls Try.prog 30 #[v, v'] w fun e w' => e = .returned (.bool true) ∧ Below w.heap.size w w' := by
  obtain ⟨A, c, rfl, _, _, hr⟩ := h
  obtain ⟨A', c', rfl, _, _, hr'⟩ := h'
  exact (eqStringS_any A A' c c' xs xs w _ hr hr' hm).mono fun e w' ⟨he, n, hw⟩ => ⟨by simpa using he, by rw [hw]; exact below_of_drew _ w n⟩

/-- markText's digits, put ahead of acc -/
def digs (k : Nat) (acc : ByteArray) : ByteArray := if h : 0 < k then digs (k / 10) (strOfNums [(48 : Int) + (k : Int) % 10] ++ acc) else acc
termination_by k
decreasing_by omega

/-- markText's answer at a positive number -/
def mtext (k : Nat) : ByteArray := ⟨#[109]⟩ ++ digs k ⟨#[]⟩

theorem conv_one (W : World) (x : Int) : (convert 22 9 (.slice (some ⟨W.heap.size, 0, none⟩) 1 1)).run Try.prog (W.alloc (.cells #[.int .u8 x] 5)) = .ok (.string (strOfNums [x])) (W.alloc (.cells #[.int .u8 x] 5)) :=
  run_conv (P := Try.prog) _ 22 5 9 Try.underlying22 Try.underlying5 Try.underlying9 _ 1 _ [x] (rd_one .u8 W _ x)

set_option maxHeartbeats 400000 in
theorem markText_any (k : Nat) (w : World) (hk : 0 < k) (hk1 : k ≤ 1099511627776) :
    Calls Try.prog 47 #[.int .i64 k] w fun e w' => e = .returned (.string (mtext k)) ∧ Below w.heap.size w w' := by
  have kc := conv_one
  go_enter Try.func47, Try.ntmps47
  go_wp2
  go_loopw [0, 3] (fun sk sa wr => ∃ (j : Nat) (acc : ByteArray), sk = .int .i64 j ∧ sa = .string acc ∧ Hid (digs j acc = digs k ⟨#[]⟩) ∧ acc.size + j ≤ k ∧ Below w.heap.size w wr) (fun sk _ _ => (intOf sk).toNat)
  case atStart => exact ⟨k, ⟨#[]⟩, rfl, rfl, rfl, by simp [ByteArray.size], Below.refl _ _⟩
  case round =>
    obtain ⟨j, acc, rfl, rfl, HD, hle, hbr⟩ := hrel
    by_cases hj : 0 < j
    · have i1 : (0 : Int) < (j : Int) := by omega
      have hsz : (strOfNums [(48 : Int) + (j : Int) % 10]).size = 1 := by rw [strOfNums_size]; rfl
      have HD2 := HD.out
      rw [digs, dif_pos hj] at HD2
      have HD3 := Lib.hid HD2
      clear HD2
      go_wp2
      go_roundw
      case rel => exact ⟨j / 10, _, by go_num, rfl, HD3, by rw [ByteArray.size_append, hsz]; omega, hbr.alloc hbr.size _⟩
      case measure => simp [intOf]; omega
    · have hj0 : j = 0 := by omega
      subst hj0
      have HD2 := HD.out
      rw [digs, dif_neg (by omega)] at HD2
      have HD3 := Lib.hid HD2
      clear HD2
      go_wp2
      go_ret
      exact ⟨ret_eq (by unfold mtext; rw [← HD3.out]; rfl), hbr⟩

theorem markText_int (n : Int) (w : World) (h0 : 0 < n) (h1 : n ≤ 1099511627776) :
    Calls Try.prog 47 #[.int .i64 n] w fun e w' => e = .returned (.string (mtext n.toNat)) ∧ Below w.heap.size w w' := by
  obtain ⟨k, rfl⟩ : ∃ k : Nat, n = (k : Int) := ⟨n.toNat, by omega⟩
  exact markText_any k w (by omega) (by omega)

/-- the strings that a marking from k on lays into n places -/
def tmarks (k : Int) (n : Nat) : List ByteArray := (List.range n).map fun i : Nat => mtext (k + (i : Int)).toNat

theorem tmarks_len (k : Int) (n : Nat) : (tmarks k n).length = n := by simp [tmarks]
theorem tmarks_getD (k : Int) (n j : Nat) (h : j < n) : (tmarks k n).getD j ByteArray.empty = mtext (k + (j : Int)).toNat := by simp [tmarks, h]
theorem tmark_step (xs : List ByteArray) (k0 : Int) (k : Nat) (h : k < xs.length) :
    (tmarks k0 k ++ xs.drop k).set k (mtext (k0 + (k : Int)).toNat) = tmarks k0 (k + 1) ++ xs.drop (k + 1) := by
  have e1 := tmarks_len k0 k
  rw [List.set_append, if_neg (by omega), e1, Nat.sub_self, List.drop_eq_getElem_cons h, List.set_cons_zero]
  simp [tmarks, List.range_succ]

/-- what a marking call leaves below 'B' and elsewhere: only the row's block, and new ones -/
def MarkedT (w : World) (base : Nat) (v : Value) (k : Int) (xs : List ByteArray) (e : Ending) (w' : World) : Prop :=
  e = .returned (.int .i64 (k + (xs.length : Int))) ∧ OwnF Value.string w' base 9 v (tmarks k xs.length) ∧ w.grownBy w' v.ownBlock

set_option maxHeartbeats 1000000 in
theorem markStringS_own (g c base : Nat) (xs : List ByteArray) (k0 : Int) (w : World) (ho : OwnF Value.string w base 9 (.slice (some ⟨g, 0, none⟩) xs.length c) xs) (hm : xs.length ≤ 1073741824) (hk0 : 0 < k0) (hk1 : k0 ≤ 1073741824) :
    Calls Try.prog 31 #[.slice (some ⟨g, 0, none⟩) xs.length c, .int .i64 k0] w (MarkedT w base (.slice (some ⟨g, 0, none⟩) xs.length c) k0 xs) := by
  have hg0 := (ho.lt g rfl).2
  go_enter Try.func31, Try.ntmps31
  go_wp2
  go_loopw [1, 5] (fun q i wr => ∃ k : Nat, k ≤ xs.length ∧ i = .int .i64 k ∧ q = .int .i64 (k0 + k) ∧ OwnF Value.string wr base 9 (.slice (some ⟨g, 0, none⟩) xs.length c) (tmarks k0 k ++ xs.drop k) ∧ w.grownBy wr (some g)) (fun _ i _ => xs.length - (intOf i).toNat)
  case atStart => exact ⟨0, Nat.zero_le _, rfl, by simp, by simpa [tmarks] using ho, World.grownBy.refl w _⟩
  case round =>
    obtain ⟨k, hk, rfl, rfl, hown, hgr⟩ := hrel
    by_cases hlt : k < xs.length
    · go_wp2_with fail
      refine (markText_int (k0 + (k : Int)) wr (by omega) (by omega)).mono ?_
      rintro e w1 ⟨rfl, hb1⟩
      obtain ⟨T, hT⟩ : ∃ T, mtext (k0 + (k : Int)).toNat = T := ⟨_, rfl⟩
      rw [hT]
      have hown1 := hown.below hb1 (Nat.le_refl _)
      have hc2 := hown1.cell_ (d := ByteArray.empty) (j := k) (by rw [List.length_append, tmarks_len, List.length_drop]; omega)
      have hf2 := hown1.frozen_ k
      have R := hown1.set_ k T
      rw [← hT, tmark_step xs k0 k hlt, hT] at R
      have HR := Lib.hid R
      have hgr1 : w.grownBy w1 (some g) := ⟨hb1.os.trans hgr.os, hb1.tape.trans hgr.tape, hb1.output.trans hgr.output, Nat.le_trans hgr.size hb1.size, fun j hj hne => (hb1.block j (by have := hgr.size; omega)).trans (hgr.block j hj hne)⟩
      clear R hown hown1 hT
      go_wp2
      go_roundw
      case rel => exact ⟨k + 1, by omega, by go_num, by go_num, HR.out, grownBy_set hgr1 _ _⟩
      case measure => simp [intOf]; omega
    · have hk2 : k = xs.length := by omega
      subst hk2
      go_wp2
      go_ret
      exact ⟨rfl, by simpa using hown, hgr⟩

set_option maxHeartbeats 400000 in
theorem markStringS_nil (A : Option Addr) (c base : Nat) (k0 : Int) (w : World) (ho : OwnF Value.string w base 9 (.slice A 0 c) []) :
    Calls Try.prog 31 #[.slice A 0 c, .int .i64 k0] w (MarkedT w base (.slice A 0 c) k0 []) := by
  go_enter Try.func31, Try.ntmps31
  go_wp2
  refine wp_loop_rounds 1 ?_
  rw [rounds_succ]
  go_wp2
  go_ret
  exact ⟨by simp, ho, World.grownBy.refl w _⟩

theorem markStringS_c {w : World} {v : Value} {xs : List ByteArray} {lo hi : Nat} {k : Int} (h : OSF Value.string 9 w lo hi v xs) (hm : xs.length ≤ 1073741824) (hk0 : 0 < k) (hk1 : k ≤ 1073741824) :
    Calls Try.prog 31 #[v, .int .i64 k] w fun e w' => e = .returned (.int .i64 (k + (xs.length : Int))) ∧ OSF Value.string 9 w' lo hi v (tmarks k xs.length) ∧ Chg lo hi w w' := by
  have M : Calls Try.prog 31 #[v, .int .i64 k] w (MarkedT w lo v k xs) := by
    rcases h.1.2 with ⟨rfl, h0⟩ | ⟨g, cap, cur, rfl, _⟩
    · obtain rfl : xs = [] := List.eq_nil_of_length_eq_zero h0
      exact markStringS_nil none 0 lo k w h.1
    · exact markStringS_own g cap lo xs k w h.1 hm hk0 hk1
  exact M.mono fun e w' ⟨he, ho, hg⟩ => ⟨he, ⟨ho, h.2.1, Nat.le_trans h.2.2 hg.size⟩, Chg.of_grown hg fun j hj => ⟨(h.1.lt j hj).1, h.2.1 j hj⟩⟩

set_option maxHeartbeats 1000000 in
theorem heldStringS_any (A : Option Addr) (c n : Nat) (k0 : Int) (w : World) (hr : RdF Value.string ByteArray.empty w w.heap.size A (tmarks k0 n)) (hm : n ≤ 1073741824) (hk0 : 0 < k0) (hk1 : k0 ≤ 1073741824) :
    Calls Try.prog 32 #[.slice A n c, .int .i64 k0] w fun e w' => e = .returned (.int .i64 (k0 + n)) ∧ Below w.heap.size w w' := by
  go_enter Try.func32, Try.ntmps32
  go_wp2
  go_loopw [1, 5] (fun q i wr => ∃ k : Nat, k ≤ n ∧ i = .int .i64 k ∧ q = .int .i64 (k0 + k) ∧ Below w.heap.size w wr) (fun _ i _ => n - (intOf i).toNat)
  case atStart => exact ⟨0, Nat.zero_le _, rfl, by simp, Below.refl _ _⟩
  case round =>
    obtain ⟨k, hk, rfl, rfl, hbr⟩ := hrel
    by_cases hlt : k < n
    · obtain ⟨b, off, rfl, hb, hc⟩ := (hr.below hbr).at_ (j := k) (by rw [tmarks_len]; exact hlt)
      rw [tmarks_getD k0 n k hlt] at hc
      obtain ⟨T, hT⟩ : ∃ T, mtext (k0 + (k : Int)).toNat = T := ⟨_, rfl⟩
      have HT := Lib.hid hT
      rw [hT] at hc
      clear hT
      have i1 : (k : Int) < (n : Int) := by omega
      have hsz := hbr.size
      go_wp2_with fail
      go_region_held3 (fun w' => w'.cell? ⟨b, off + k, none⟩ = some (.string T) ∧ Below wr.heap.size wr w')
        (first | exact ⟨hc, (Below.refl _ _).drew⟩ | exact ⟨(hb1.cell (p := ⟨b, off + k, none⟩) (by show b < wr.heap.size; omega)).trans hc, (Below.refl wr.heap.size wr).drew.trans hb1⟩)
        (first | (go_at_call 47; refine (markText_int (k0 + (k : Int)) _ (by omega) (by omega)).mono ?_; rintro e w1 ⟨rfl, hb1⟩; rw [HT.out]))
      have hb2 : Below w.heap.size w w1 := hbr.trans (((Below.refl wr.heap.size wr).drew.trans hb1).mono hsz)
      go_wp2
      go_roundw
      case rel => exact ⟨k + 1, by omega, by go_num, by go_num, hb2⟩
      case measure => simp [intOf]; omega
    · have hk2 : k = n := by omega
      subst hk2
      go_wp2
      go_ret
      exact ⟨rfl, hbr⟩

theorem heldStringS_c {w : World} {v : Value} {n : Nat} {k : Int} (h : RSF Value.string ByteArray.empty w v (tmarks k n)) (hm : n ≤ 1073741824) (hk0 : 0 < k) (hk1 : k ≤ 1073741824) :
    Calls Try.prog 32 #[v, .int .i64 k] w fun e w' => e = .returned (.int .i64 (k + (n : Int))) ∧ Below w.heap.size w w' := by
  obtain ⟨A, c, rfl, _, _, hr⟩ := h
  rw [tmarks_len]
  exact heldStringS_any A c n k w hr hm hk0 hk1
end Go.Proofs.Ytfdhilpmblbkfaa
