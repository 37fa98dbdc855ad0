/- Contract: spec.FrameGet. -/
import Derived.Test.YtdempiibbhfijaaFrame2
namespace Go.Proofs.Ytdempiibbhfijaa
open Go.RowKit
set_option linter.unusedVariables false

set_option maxHeartbeats 2000000 in
theorem sFrameGet_c {w : World} {v : Value} {zs : List Int} {a : Int} (h : RS .u8 w v zs) (hb : Bytes zs) (hm : zs.length ≤ 1073741824) (ha1 : -9223372036854775808 ≤ a) (ha2 : a ≤ 9223372036854775807) :
    Calls Try.prog 22 #[v, .int .i64 a] w (NewSIB w (frameAtL zs a) (frameAtP zs a) (frameAtB zs a)) := by
  obtain ⟨A, c, rfl, hc1, hc2, hr⟩ := h
  unfold maxLen at hc2
  by_cases ha0 : a < 0
  · have hf' : frameAtB zs a = false := decide_eq_false (by omega)
    obtain ⟨hL, hP⟩ := frameAt_no hf'
    rw [hL, hP, hf']
    clear hL hP hf'
    go_enter Try.func22, Try.ntmps22
    go_wp2
    go_ret3
    exact ⟨_, rfl, os_none _ _, Below.refl _ _⟩
  obtain ⟨k, rfl⟩ : ∃ k : Nat, a = (k : Int) := ⟨a.toNat, by omega⟩
  clear ha0
  by_cases hk : (zs.length : Int) - 7 < (k : Int)
  · have hf' : frameAtB zs k = false := by rw [frameAtB_nat]; exact decide_eq_false (fun h => by have := h.1; omega)
    obtain ⟨hL, hP⟩ := frameAt_no hf'
    rw [hL, hP, hf']
    clear hL hP hf'
    go_enter Try.func22, Try.ntmps22
    go_wp2
    go_ret3
    exact ⟨_, rfl, os_none _ _, Below.refl _ _⟩
  obtain ⟨b, off, rfl, -, c0⟩ := hr.at_ (j := k) (by omega)
  obtain ⟨b', off', he, -, c1⟩ := hr.at_ (j := k + 1) (by omega)
  obtain ⟨rfl, rfl⟩ : b = b' ∧ off = off' := by simpa using he
  obtain ⟨b', off', he, -, c2⟩ := hr.at_ (j := k + 2) (by omega)
  obtain ⟨rfl, rfl⟩ : b = b' ∧ off = off' := by simpa using he
  obtain ⟨b', off', he, -, c3⟩ := hr.at_ (j := k + 3) (by omega)
  obtain ⟨rfl, rfl⟩ : b = b' ∧ off = off' := by simpa using he
  obtain ⟨b', off', he, -, c4⟩ := hr.at_ (j := k + 4) (by omega)
  obtain ⟨rfl, rfl⟩ : b = b' ∧ off = off' := by simpa using he
  obtain ⟨b', off', he, -, c5⟩ := hr.at_ (j := k + 5) (by omega)
  obtain ⟨rfl, rfl⟩ : b = b' ∧ off = off' := by simpa using he
  have b0 := hb k
  have b1 := hb (k + 1)
  have b2 := hb (k + 2)
  have b3 := hb (k + 3)
  have b4 := hb (k + 4)
  have b5 := hb (k + 5)
  obtain ⟨n, hn⟩ : ∃ n, lenAt zs k = n := ⟨_, rfl⟩
  have HN := Lib.hid hn
  have hnv : (n : Int) = zs.getD k 0 + 256 * zs.getD (k + 1) 0 := by rw [← hn]; unfold lenAt; omega
  have hsv : sumAt zs (k + 2) = zs.getD (k + 2) 0 + 256 * zs.getD (k + 3) 0 + 65536 * zs.getD (k + 4) 0 + 16777216 * zs.getD (k + 5) 0 := rfl
  obtain ⟨y, hy⟩ : ∃ y, sumAt zs (k + 2) = y := ⟨_, rfl⟩
  rw [hy] at hsv
  have HY := Lib.hid hy
  clear hn hy
  generalize zs.getD k 0 = x0 at c0 b0 hnv
  generalize zs.getD (k + 1) 0 = x1 at c1 b1 hnv
  generalize zs.getD (k + 2) 0 = x2 at c2 b2 hsv
  generalize zs.getD (k + 3) 0 = x3 at c3 b3 hsv
  generalize zs.getD (k + 4) 0 = x4 at c4 b4 hsv
  generalize zs.getD (k + 5) 0 = x5 at c5 b5 hsv
  obtain ⟨b00, b01⟩ := b0
  obtain ⟨b10, b11⟩ := b1
  obtain ⟨b20, b21⟩ := b2
  obtain ⟨b30, b31⟩ := b3
  obtain ⟨b40, b41⟩ := b4
  obtain ⟨b50, b51⟩ := b5
  have hn' : x0 + 256 * x1 = (n : Int) := hnv.symm
  have o1 := or_8 x2 x3 (by omega) (by omega) (by omega) (by omega)
  have o2 := or_16 (x2 + x3 * 256) x4 (by omega) (by omega) (by omega) (by omega)
  have o3 := or_24 (x2 + x3 * 256 + x4 * 65536) x5 (by omega) (by omega) (by omega) (by omega)
  have o4 : x2 + x3 * 256 + x4 * 65536 + x5 * 16777216 = y := by omega
  rw [o4] at o3
  have hyb : 0 ≤ y ∧ y < 4294967296 := by omega
  clear hnv hsv o4
  go_enter Try.func22, Try.ntmps22
  go_wp2
  have q1 : IntKind.i64.wrap ((k : Int) + 1) = (k : Int) + 1 := IntWalk.i64_in _ (by omega)
  have q0 : IntKind.i64.wrap (256 * x1) = 256 * x1 := IntWalk.i64_in _ (by omega)
  have q9 : IntKind.i64.wrap (n : Int) = (n : Int) := IntWalk.i64_in _ (by omega)
  go_quiet (fail)
  generalize nq = n1
  go_wp2
  have q2 : IntKind.i64.wrap ((k : Int) + 2) = (k : Int) + 2 := IntWalk.i64_in _ (by omega)
  have q3 : IntKind.i64.wrap ((k : Int) + 3) = (k : Int) + 3 := IntWalk.i64_in _ (by omega)
  have q4 : IntKind.i64.wrap ((k : Int) + 4) = (k : Int) + 4 := IntWalk.i64_in _ (by omega)
  have q5 : IntKind.i64.wrap ((k : Int) + 5) = (k : Int) + 5 := IntWalk.i64_in _ (by omega)
  have q6 : IntKind.i64.wrap (x3 * 256) = x3 * 256 := IntWalk.i64_in _ (by omega)
  have q7 : IntKind.i64.wrap (x4 * 65536) = x4 * 65536 := IntWalk.i64_in _ (by omega)
  have q8 : IntKind.i64.wrap (x5 * 16777216) = x5 * 16777216 := IntWalk.i64_in _ (by omega)
  go_quiet (fail)
  clear q0 q1 q2 q3 q4 q5 q6 q7 q8 q9 o1 o2 o3 hn' c0 c1 c2 c3 c4 c5
  have hB : Below w.heap.size w ((w.drewN n1).drewN nq) := bdrew (below_of_drew _ w n1) nq
  have hr2 : Rd .u8 ((w.drewN n1).drewN nq) w.heap.size (some ⟨b, off, none⟩) zs := hr
  have hsz : ((w.drewN n1).drewN nq).heap.size = w.heap.size := rfl
  obtain ⟨w2, hw2⟩ : ∃ w2, (w.drewN n1).drewN nq = w2 := ⟨_, rfl⟩
  rw [hw2] at hB hr2 hsz ⊢
  have sz1 := Nat.le_of_eq hsz
  have sz2 := Nat.le_of_eq hsz.symm
  have HW := Lib.hid hw2
  clear hw2 hsz
  by_cases hfit : fitB (n : Int) = true
  · have hl : 1 ≤ (n : Int) ∧ (n : Int) ≤ 2000 := of_decide_eq_true hfit
    have HF := Lib.hid hfit
    clear hfit
    by_cases hn2 : (zs.length : Int) - (k : Int) - 6 < (n : Int)
    · have hf' : frameAtB zs k = false := by
        rw [frameAtB_nat]; exact decide_eq_false (fun h => by have := h.2.2.2.1; rw [HN.out] at this; omega)
      obtain ⟨hL, hP⟩ := frameAt_no hf'
      have HL := Lib.hid hL
      have HP := Lib.hid hP
      have H' := Lib.hid hf'
      clear hf' hL hP
      go_wp2_with fail
      refine (sIn_fit _ _).mono ?_
      rintro e w' ⟨rfl, rfl⟩
      rw [HF.out]
      go_wp2
      go_ret3
      rw [HL.out, HP.out, H'.out]
      exact ⟨_, rfl, os_none _ _, hB⟩
    · have ep : payAt zs k = (zs.drop (k + 6)).take n := by unfold payAt; rw [HN.out]
      have r2 := hr2.sub (k + 6) n (by omega)
      rw [← ep] at r2
      have hpl : (payAt zs k).length = n := by rw [ep]; exact sub_len (by omega)
      have hpb : Bytes (payAt zs k) := payAt_bytes hb k
      have HL := Lib.hid hpl
      clear ep hpl
      go_wp2_with fail
      refine (sIn_fit _ _).mono ?_
      rintro e w' ⟨rfl, rfl⟩
      rw [HF.out]
      go_wp2_with fail
      refine (sCopy_c (w := w2) (zs := payAt zs k) ⟨_, c - (k + 6), by rw [HL.out], by rw [HL.out]; omega, by unfold maxLen; omega, r2.more sz2⟩ (by rw [HL.out]; omega)).mono ?_
      rintro e w3 ⟨v3, rfl, o3, hb3⟩
      obtain ⟨A3, c3, rfl, -, -, hr3⟩ := o3.rd
      go_wp2_with fail
      refine (sCrc_any A3 c3 (payAt zs k) w3 _ hr3 hpb (by rw [HL.out]; omega)).mono ?_
      rintro e w' ⟨rfl, rfl⟩
      have hs3 := hb3.size
      by_cases hcr : crcOf (payAt zs k) = y
      · have hf' : frameAtB zs k = true := by
          rw [frameAtB_nat]; exact decide_eq_true ⟨by omega, by rw [HN.out]; omega, by rw [HN.out]; omega, by rw [HN.out]; omega, by rw [HY.out]; exact hcr⟩
        have hL : frameAtL zs k = payAt zs k := by unfold frameAtL; rw [if_pos hf']; simp
        have hP : frameAtP zs k = k + 6 + n := by unfold frameAtP; rw [if_pos hf']; simp [HN.out]
        have HC := Lib.hid hcr
        have HL' := Lib.hid hL
        have HP := Lib.hid hP
        have H' := Lib.hid hf'
        clear hf' hL hP hcr
        rw [HC.out]
        go_wp2
        go_ret3
        rw [HL'.out, HP.out, H'.out]
        exact ⟨_, rfl, o3.widen sz2 (Nat.le_refl _) (Nat.le_refl _), hB.trans (hb3.mono (by omega))⟩
      · have hf' : frameAtB zs k = false := by
          rw [frameAtB_nat]; exact decide_eq_false (fun h => hcr (by have := h.2.2.2.2; rw [HY.out] at this; exact this))
        obtain ⟨hL, hP⟩ := frameAt_no hf'
        have HL' := Lib.hid hL
        have HP := Lib.hid hP
        have H' := Lib.hid hf'
        have hne : (crcOf (payAt zs k) != y) = true := by simpa using hcr
        clear hf' hL hP
        go_wp2
        go_ret3
        rw [HL'.out, HP.out, H'.out]
        exact ⟨_, rfl, os_none _ _, hB.trans (hb3.mono (by omega))⟩
  · have hfit' : fitB (n : Int) = false := by simpa using hfit
    have hf' : frameAtB zs k = false := by
      rw [frameAtB_nat]; exact decide_eq_false (fun h => hfit (decide_eq_true (by have h1 := h.2.1; have h2 := h.2.2.1; rw [HN.out] at h1 h2; omega)))
    obtain ⟨hL, hP⟩ := frameAt_no hf'
    have HF := Lib.hid hfit'
    have HL := Lib.hid hL
    have HP := Lib.hid hP
    have H' := Lib.hid hf'
    clear hfit hfit' hf' hL hP
    go_wp2_with fail
    refine (sIn_fit _ _).mono ?_
    rintro e w' ⟨rfl, rfl⟩
    rw [HF.out]
    go_wp2
    go_ret3
    rw [HL.out, HP.out, H'.out]
    exact ⟨_, rfl, os_none _ _, hB⟩

end Go.Proofs.Ytdempiibbhfijaa
