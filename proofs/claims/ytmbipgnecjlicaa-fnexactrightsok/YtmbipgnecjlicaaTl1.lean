/- impl.tally: the contract of ok. -/
import Derived.Test.YtmbipgnecjlicaaTl0
namespace Go.Proofs.Ytmbipgnecjlicaa
open Go.RowKit
set_option linter.unusedVariables false

set_option maxHeartbeats 2000000 in
theorem tOk_c {w : World} {r : MRights} (hS : Shp r.Give.length r) (h1 : 1 ≤ r.Give.length ∧ r.Give.length ≤ 4) :
    Calls Try.prog 77 #[.agg (tl (tOf r)).toArray] w fun e w' => e = .returned (.bool (rightsOkB r)) ∧ Below w.heap.size w w' := by
  obtain ⟨wa, hwa, B0, sa, x_a⟩ := frame1 w 57 (tl (tOf r))
  have sa_1 := Nat.le_of_eq sa
  have sa_2 := Nat.le_of_eq sa.symm
  clear sa
  have hT := tOf_len r
  by_cases hf : formB r = true
  case neg =>
    have hf' : formB r = false := by simpa using hf
    have HF := Lib.hid hf'
    have HO : Hid (rightsOkB r = false) := by show _ = _; unfold rightsOkB; rw [hf']; rfl
    clear hf hf'
    go_enter Try.func77, Try.ntmps77
    go_wp2_with (refine wpl_tload x_a hT rfl rfl rfl ?_)
    refine (tAll_c hS h1).mono ?_
    rintro e w1 ⟨rfl, h_w1⟩
    have B_w1 := B0.trans (h_w1.mono B0.size)
    rw [HF.out]
    go_wp2
    go_ret
    exact ⟨ret_eq (by rw [HO.out]; rfl), B_w1⟩
  have HF := Lib.hid hf
  have hdr := diagN_range hf r.Give.length
  obtain ⟨d, hd⟩ : ∃ d, diagN r r.Give.length = d := ⟨_, rfl⟩
  have HD := Lib.hid hd
  clear hf
  by_cases hn : numB d = true
  case neg =>
    have hn' : numB d = false := by simpa using hn
    have HN := Lib.hid hn'
    have HO : Hid (rightsOkB r = false) := by show _ = _; unfold rightsOkB; rw [hd, hn']; simp
    clear hn hn' hd
    go_enter Try.func77, Try.ntmps77
    go_wp2_with (refine wpl_tload x_a hT rfl rfl rfl ?_)
    refine (tAll_c hS h1).mono ?_
    rintro e w1 ⟨rfl, h_w1⟩
    replace x_a := x_a.from_ h_w1
    have B_w1 := B0.trans (h_w1.mono B0.size)
    rw [HF.out]
    go_wp2_with (refine wpl_tload x_a hT rfl rfl rfl ?_)
    refine (tIss_c HF.out).mono ?_
    rintro e w2 ⟨rfl, h_w2⟩
    replace x_a := x_a.from_ h_w2
    have B_w2 := B_w1.trans (h_w2.mono B_w1.size)
    rw [HD.out]
    go_wp2_with fail
    refine (iNum_any _ _).mono ?_
    rintro e w' ⟨rfl, rfl⟩
    rw [HN.out]
    go_wp2
    go_ret
    exact ⟨ret_eq (by rw [HO.out]; rfl), B_w2⟩
  have HN := Lib.hid hn
  clear hn hd
  go_enter Try.func77, Try.ntmps77
  go_wp2_with (refine wpl_tload x_a hT rfl rfl rfl ?_)
  refine (tAll_c hS h1).mono ?_
  rintro e w1 ⟨rfl, h_w1⟩
  replace x_a := x_a.from_ h_w1
  have B_w1 := B0.trans (h_w1.mono B0.size)
  rw [HF.out]
  go_wp2_with (refine wpl_tload x_a hT rfl rfl rfl ?_)
  refine (tIss_c HF.out).mono ?_
  rintro e w2 ⟨rfl, h_w2⟩
  replace x_a := x_a.from_ h_w2
  have B_w2 := B_w1.trans (h_w2.mono B_w1.size)
  rw [HD.out]
  go_wp2_with fail
  refine (iNum_any _ _).mono ?_
  rintro e w' ⟨rfl, rfl⟩
  rw [HN.out]
  have c0 := x_a.tn
  go_wp2
  go_loopw [15] (fun j wr => ∃ k : Nat, k ≤ r.Give.length ∧ j = .int .i64 k ∧ Hid (∀ i, i < k → 0 ≤ hasZ r i) ∧ Vr wr w.heap.size 57 (tl (tOf r)) ∧ Below w.heap.size w wr) (fun j _ => r.Give.length - (intOf j).toNat)
  case atStart => exact ⟨0, Nat.zero_le _, rfl, fun i hi => by omega, x_a, B_w2⟩
  case round =>
    clear x_a c0
    obtain ⟨k, hk, rfl, HA, x_a, HB⟩ := hrel
    have hs := HB.size
    by_cases hlt : k < r.Give.length
    case neg =>
      have HO : Hid (rightsOkB r = true) := by show _ = _; rw [ok_sum HF.out (fun i hi => HA.out i (by omega)), HD.out, HN.out]
      have hk2 : ¬ ((k : Int) < (r.Give.length : Int)) := by omega
      go_wp2
      go_ret
      exact ⟨ret_eq (by rw [HO.out]; rfl), HB⟩
    have j1 : (k : Int) < (r.Give.length : Int) := by omega
    have hhr := hasZ_range HF.out k
    obtain ⟨y, hy⟩ : ∃ y, hasZ r k = y := ⟨_, rfl⟩
    rw [hy] at hhr
    by_cases hneg : y < 0
    case pos =>
      have HO : Hid (rightsOkB r = false) := ok_neg hlt (by omega)
      have HY := Lib.hid hy
      have t0 : decide (y < 0) = true := decide_eq_true hneg
      clear hy
      go_wp2_with (refine wpl_tload x_a hT rfl rfl rfl ?_)
      refine (tBal_c HF.out hlt).mono ?_
      rintro e w4 ⟨rfl, h_w4⟩
      have B_w4 := HB.trans (h_w4.mono HB.size)
      rw [HY.out]
      go_wp2
      go_ret
      exact ⟨ret_eq (by rw [HO.out]; rfl), B_w4⟩
    have HA2 : Hid (∀ i, i < k + 1 → 0 ≤ hasZ r i) := fun i hi => by
      by_cases e : i = k
      · rw [e, hy]; omega
      · exact HA.out i (by omega)
    have HY := Lib.hid hy
    have t0 : decide (y < 0) = false := decide_eq_false hneg
    clear hy
    go_wp2_with (refine wpl_tload x_a hT rfl rfl rfl ?_)
    refine (tBal_c HF.out hlt).mono ?_
    rintro e w4 ⟨rfl, h_w4⟩
    replace x_a := x_a.from_ h_w4
    have B_w4 := HB.trans (h_w4.mono HB.size)
    rw [HY.out]
    go_wp2
    go_roundw
    case rel => exact ⟨k + 1, by omega, by go_num, HA2, x_a, B_w4⟩
    case measure => simp [intOf]; omega

end Go.Proofs.Ytmbipgnecjlicaa
