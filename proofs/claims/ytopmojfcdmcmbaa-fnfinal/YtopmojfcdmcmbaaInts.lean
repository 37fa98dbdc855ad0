/- Contracts of the laws' own helpers on slices of integers: toIntS, eqIntS, markIntS, heldIntS. -/
import Derived.Test.YtopmojfcdmcmbaaProg
import Derived.Test.YtopmojfcdmcmbaaBytes
import Derived.Deep.QuietTactic
import Derived.BigQuiet
namespace Go.Proofs.Ytopmojfcdmcmbaa
open Go.RowKit

theorem Try.info_i64 : (Try.prog.info? 3).map (fun i => (i.zero, i.size, i.bytes)) = some (some (.int .i64 0), 1, 8) := by kernel_rfl

set_option maxHeartbeats 400000 in
theorem toIntS_any (A : Option Addr) (c : Nat) (zs : List Int) (w : World) (hr : Rd .i64 w w.heap.size A zs) (hm : zs.length ≤ 16777216) :
    Calls Try.prog 60 #[.slice A zs.length c] w fun e w' => e = .returned (.slice (some ⟨w.heap.size, 0, none⟩) zs.length zs.length) ∧
      Own .i64 w' w.heap.size 3 (.slice (some ⟨w.heap.size, 0, none⟩) zs.length zs.length) zs ∧ Below w.heap.size w w' := by
  obtain ⟨i0, hi, hz0, hz1, hz2⟩ := info_parts Try.info_i64
  go_enter Try.func60, Try.ntmps60
  go_wp2_with (at_make; refine wpList_make_full _ rfl _ _ 24 rfl w.heap.size 3 i0 (.int .i64 0) 1 Try.underlying24 hi hz0 hz1 .i64 .i64 _ _ zs.length rfl rfl rfl rfl ?c1 ?c2 ?c3 ?_)
  case c1 => rw [hz2]; omega
  case c2 => unfold maxLen; omega
  case c3 => exact Nat.le_refl _
  intro w1 hown1 hg1
  have hb1 : Below w.heap.size w w1 := (Below.refl _ _).grown hg1 (Nat.le_refl _) (by intro k hk; cases hk)
  have ho1 : Own .i64 w1 w.heap.size 3 (.slice (some ⟨w.heap.size, 0, none⟩) zs.length zs.length) (zs.take 0 ++ List.replicate (zs.length - 0) 0) := by
    unfold Own
    simpa [toList_madeCells_one, Value.cells] using hown1
  clear hown1 hg1
  go_wp2
  go_loopw [4] (fun i wr => ∃ k : Nat, k ≤ zs.length ∧ i = .int .i64 k ∧ Own .i64 wr w.heap.size 3 (.slice (some ⟨w.heap.size, 0, none⟩) zs.length zs.length) (zs.take k ++ List.replicate (zs.length - k) 0) ∧ Below w.heap.size w wr) (fun i _ => zs.length - (intOf i).toNat)
  case atStart => exact ⟨0, Nat.zero_le _, rfl, ho1, hb1⟩
  case round =>
    obtain ⟨k, hk, rfl, hown, hbr⟩ := hrel
    by_cases hlt : k < zs.length
    · obtain ⟨b, off, rfl, hb, hc⟩ := (hr.below hbr).at_ hlt
      have hl : (zs.take k ++ List.replicate (zs.length - k) 0).length = zs.length := by simp; omega
      have hc2 := hown.cell_ (j := k) (by omega)
      have hf2 := hown.frozen_ k
      have R := hown.set_ k (zs.getD k 0)
      rw [fill_step zs k hlt] at R
      have hb2 : Below w.heap.size w (wr.setCell ⟨w.heap.size, k, none⟩ (.int .i64 (zs.getD k 0))) := hbr.setCell (Nat.le_refl _) _
      have HR := Lib.hid R
      clear R hl hown
      go_wp2
      go_roundw
      case rel => exact ⟨k + 1, by omega, by go_num, by simpa [hlt] using HR.out, by simpa [hlt] using hb2⟩
      case measure => simp [intOf]; omega
    · have hk2 : k = zs.length := by omega
      subst hk2
      go_wp2
      go_ret
      exact ⟨rfl, by simpa using hown, hbr⟩

set_option maxHeartbeats 400000 in
theorem eqIntS_any (A A' : Option Addr) (c c' : Nat) (xs ys : List Int) (w : World) (B : Nat) (hx : Rd .i64 w B A xs) (hy : Rd .i64 w B A' ys) (hm : xs.length ≤ 1073741824) :
    Calls Try.prog 62 #[.slice A xs.length c, .slice A' ys.length c'] w (SaysB w (decide (xs = ys))) := by
  by_cases hl : xs.length = ys.length
  · have hl' : ((xs.length : Int) != (ys.length : Int)) = false := by simp [hl]
    have HL := Lib.hid hl
    clear hl
    go_enter Try.func62, Try.ntmps62
    go_wp2
    go_loopw [5] (fun i wr => ∃ k n : Nat, k ≤ xs.length ∧ i = .int .i64 k ∧ xs.take k = ys.take k ∧ wr = w.drewN n) (fun i _ => xs.length - (intOf i).toNat)
    case atStart => exact ⟨0, 0, Nat.zero_le _, rfl, rfl, rfl⟩
    case round =>
      obtain ⟨k, n, hk, rfl, htk, rfl⟩ := hrel
      have HT := Lib.hid htk
      clear htk
      by_cases hlt : k < xs.length
      · have hlt' : k < ys.length := by have := HL.out; omega
        obtain ⟨b, off, rfl, hb, hc⟩ := hx.at_ hlt
        obtain ⟨b', off', rfl, hb', hc'⟩ := hy.at_ hlt'
        obtain ⟨x, hxe⟩ : ∃ x, x = xs.getD k 0 := ⟨_, rfl⟩
        obtain ⟨y, hye⟩ : ∃ y, y = ys.getD k 0 := ⟨_, rfl⟩
        rw [← hxe] at hc
        rw [← hye] at hc'
        have HX := Lib.hid hxe
        have HY := Lib.hid hye
        clear hxe hye
        have i1 : (k : Int) < (xs.length : Int) := by omega
        have i2 : (k : Int) < (ys.length : Int) := by omega
        by_cases hxy : x = y
        · subst hxy
          go_wp2
          go_quiet (fail)
          go_wp2
          go_roundw
          case rel => exact ⟨k + 1, _, by omega, by go_num, take_succ_eq HT.out hlt hlt' (HX.out.symm.trans HY.out), rfl⟩
          case measure => simp [intOf]; omega
        · have hne : (x != y) = true := by simp [hxy]
          go_wp2
          go_quiet (fail)
          go_wp2
          go_ret
          have hd : decide (xs = ys) = false := by
            simp only [decide_eq_false_iff_not]
            exact ne_of_getD (k := k) (by rw [← HX.out, ← HY.out]; exact hxy)
          exact ⟨by rw [hd]; rfl, n + nq, drewN_two _ _ _⟩
      · have hk2 : k = xs.length := by omega
        subst hk2
        have : xs = ys := by
          have h := HT.out
          rw [List.take_of_length_le (Nat.le_refl _), List.take_of_length_le (by rw [HL.out]; exact Nat.le_refl _)] at h
          exact h
        go_wp2
        go_ret
        exact ⟨by simp [this], _, rfl⟩
  · have hl' : ((xs.length : Int) != (ys.length : Int)) = true := by simp; omega
    have hne : decide (xs = ys) = false := by
      simp; intro e; exact hl (by rw [e])
    rw [hne]
    go_enter Try.func62, Try.ntmps62
    go_wp2
    go_ret
    exact ⟨rfl, 0, rfl⟩

theorem eqIntS_b (A A' : Option Addr) (c c' : Nat) (xs ys : List Int) (w : World) (B : Nat) (hx : Rd .i64 w B A xs) (hy : Rd .i64 w B A' ys) (hm : xs.length ≤ 1073741824) :
    Calls Try.prog 62 #[.slice A xs.length c, .slice A' ys.length c'] w fun e w' => e = .returned (.bool (decide (xs = ys))) ∧ Below w.heap.size w w' :=
  (eqIntS_any A A' c c' xs ys w B hx hy hm).mono fun e w' ⟨he, n, hw⟩ => ⟨he, by rw [hw]; exact below_of_drew _ w n⟩

/-- the numbers that a marking from k on lays into n places -/
def marks64 (k : Int) (n : Nat) : List Int := (List.range n).map fun i : Nat => (k + (i : Int))

theorem marks64_len (k : Int) (n : Nat) : (marks64 k n).length = n := by simp [marks64]
theorem marks64_getD (k : Int) (n j : Nat) (h : j < n) : (marks64 k n).getD j 0 = (k + (j : Int)) := by simp [marks64, h]

theorem mark64_step (zs : List Int) (k0 : Int) (k : Nat) (h : k < zs.length) :
    (marks64 k0 k ++ zs.drop k).set k (k0 + (k : Int)) = marks64 k0 (k + 1) ++ zs.drop (k + 1) := by
  have e1 := marks64_len k0 k
  rw [List.set_append, if_neg (by omega), e1, Nat.sub_self, List.drop_eq_getElem_cons h, List.set_cons_zero]
  simp [marks64, List.range_succ]

/-- what a marking call leaves: the row holds the marks, no other block has turned -/
def Marked64 (w : World) (base : Nat) (v : Value) (k : Int) (zs : List Int) (e : Ending) (w' : World) : Prop :=
  e = .returned (.int .i64 (k + (zs.length : Int))) ∧ Own .i64 w' base 3 v (marks64 k zs.length) ∧ w.grownBy w' v.ownBlock

set_option maxHeartbeats 400000 in
theorem markIntS_own (g c base : Nat) (zs : List Int) (k0 : Int) (w : World) (ho : Own .i64 w base 3 (.slice (some ⟨g, 0, none⟩) zs.length c) zs) (hm : zs.length ≤ 1073741824) (hk0 : 0 ≤ k0) (hk1 : k0 ≤ 1099511627776) :
    Calls Try.prog 66 #[.slice (some ⟨g, 0, none⟩) zs.length c, .int .i64 k0] w (Marked64 w base (.slice (some ⟨g, 0, none⟩) zs.length c) k0 zs) := by
  go_enter Try.func66, Try.ntmps66
  go_wp2
  go_loopw [1, 5] (fun q i wr => ∃ k : Nat, k ≤ zs.length ∧ i = .int .i64 k ∧ q = .int .i64 (k0 + k) ∧ Own .i64 wr base 3 (.slice (some ⟨g, 0, none⟩) zs.length c) (marks64 k0 k ++ zs.drop k) ∧ w.grownBy wr (some g)) (fun _ i _ => zs.length - (intOf i).toNat)
  case atStart => exact ⟨0, Nat.zero_le _, rfl, by simp, by simpa [marks64] using ho, World.grownBy.refl w _⟩
  case round =>
    obtain ⟨k, hk, rfl, rfl, hown, hgr⟩ := hrel
    by_cases hlt : k < zs.length
    · have hc2 := hown.cell_ (j := k) (by rw [List.length_append, marks64_len, List.length_drop]; omega)
      have hf2 := hown.frozen_ k
      have R := hown.set_ k (k0 + (k : Int))
      rw [mark64_step zs k0 k hlt] at R
      have HR := Lib.hid R
      clear R hown
      go_wp2
      go_roundw
      case rel => exact ⟨k + 1, by omega, by go_num, by go_num, HR.out, grownBy_set hgr _ _⟩
      case measure => simp [intOf]; omega
    · have hk2 : k = zs.length := by omega
      subst hk2
      go_wp2
      go_ret
      exact ⟨rfl, by simpa using hown, hgr⟩

set_option maxHeartbeats 400000 in
theorem markIntS_nil (A : Option Addr) (c base : Nat) (k0 : Int) (w : World) (ho : Own .i64 w base 3 (.slice A 0 c) []) :
    Calls Try.prog 66 #[.slice A 0 c, .int .i64 k0] w (Marked64 w base (.slice A 0 c) k0 []) := by
  go_enter Try.func66, Try.ntmps66
  go_wp2
  refine wp_loop_rounds 1 ?_
  rw [rounds_succ]
  go_wp2
  go_ret
  exact ⟨by simp, ho, World.grownBy.refl w _⟩

theorem markIntS_any (v : Value) (base : Nat) (zs : List Int) (k0 : Int) (w : World) (ho : Own .i64 w base 3 v zs) (hm : zs.length ≤ 1073741824) (hk0 : 0 ≤ k0) (hk1 : k0 ≤ 1099511627776) :
    Calls Try.prog 66 #[v, .int .i64 k0] w (Marked64 w base v k0 zs) := by
  rcases ho.2 with ⟨rfl, h0⟩ | ⟨g, cap, cur, rfl, _⟩
  · obtain rfl : zs = [] := List.eq_nil_of_length_eq_zero h0
    exact markIntS_nil none 0 base k0 w ho
  · exact markIntS_own g cap base zs k0 w ho hm hk0 hk1

set_option maxHeartbeats 400000 in
/-- a row that holds the marks64 is held -/
theorem heldIntS_any (A : Option Addr) (c B n : Nat) (k0 : Int) (w : World) (hr : Rd .i64 w B A (marks64 k0 n)) (hm : n ≤ 1073741824) (hk0 : 0 ≤ k0) (hk1 : k0 ≤ 1099511627776) :
    Calls Try.prog 68 #[.slice A n c, .int .i64 k0] w fun e w' => e = .returned (.int .i64 (k0 + n)) ∧ w = w' := by
  go_enter Try.func68, Try.ntmps68
  go_wp2
  go_loop [1, 5] (fun q i => ∃ k : Nat, k ≤ n ∧ i = .int .i64 k ∧ q = .int .i64 (k0 + k)) (fun _ i => n - (intOf i).toNat)
  case atStart => exact ⟨0, Nat.zero_le _, rfl, by simp⟩
  case round =>
    obtain ⟨k, hk, rfl, rfl⟩ := hrel
    by_cases hlt : k < n
    · obtain ⟨b, off, rfl, hb, hc⟩ := hr.at_ (j := k) (by rw [marks64_len]; exact hlt)
      rw [marks64_getD k0 n k hlt] at hc
      have i1 : (k : Int) < (n : Int) := by omega
      go_wp2
      go_round
      case rel => exact ⟨k + 1, by omega, by go_num, by go_num⟩
      case measure => simp [intOf]; omega
    · have hk2 : k = n := by omega
      subst hk2
      go_wp2
      go_ret
      exact ⟨rfl, rfl⟩

end Go.Proofs.Ytopmojfcdmcmbaa
