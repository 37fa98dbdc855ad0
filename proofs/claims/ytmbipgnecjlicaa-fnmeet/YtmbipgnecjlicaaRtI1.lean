/- impl's rights: RightsOk, HasOf, AllOf, RightsNew. Laid by a program of ours (src/tli.py). · impl's rights: Mint. Laid by a program of ours (src/tli.py). · impl's rights: Spend. Laid by a program of ours (src/tli.py). · impl's rights: Hand. Laid by a program of ours (src/tli.py). -/
import Derived.Test.YtmbipgnecjlicaaTl4
import Derived.Test.YtmbipgnecjlicaaRt9

namespace Go.Proofs.Ytmbipgnecjlicaa
open Go.RowKit
set_option linter.unusedVariables false

set_option maxRecDepth 100000 in
set_option maxHeartbeats 4000000 in
theorem iRightsOk_c {w : World} {v : Value} {r : MRights} (h : RV rightsL w v r) (hm : r.bulk ≤ 16777216) :
    Calls Try.prog 21 #[v] w fun e w' => e = .returned (.bool (rightsOkB r)) ∧ Below w.heap.size w w' := by
  have h0 := h
  obtain ⟨AG, cG, AS, cS, rfl, hrG, hrS, lG, lS⟩ := rv_rights2 h
  clear h
  obtain ⟨wa, hwa, B0, sa, x_a⟩ := frame1 w 27 [.slice AG r.Give.length cG, .slice AS r.Spent.length cS]
  have sa_1 := Nat.le_of_eq sa
  have sa_2 := Nat.le_of_eq sa.symm
  clear sa
  have c_a_0_wa := x_a.cell (i := 0) rfl
  have c_a_1_wa := x_a.cell (i := 1) rfl
  go_enter Try.func21, Try.ntmps21
  go_wp2_with fail
  refine (iTallyOf_c (h0.from_ B0)).mono ?_
  rintro e w1 ⟨T, rfl, hT, hTe, h_w1⟩
  clear c_a_0_wa c_a_1_wa hwa
  have B_w1 := B0.trans (h_w1.mono B0.size)
  have s_w1 := h_w1.size
  clear x_a
  clear hTe
  obtain ⟨w2, e_w2, s_w2, h_w2, x_t⟩ := alloc_step w1 57 [.int .i64 0, .int .i64 0, .int .i64 0, .int .i64 0, .int .i64 0, .int .i64 0, .int .i64 0, .int .i64 0, .int .i64 0, .int .i64 0, .int .i64 0, .int .i64 0, .int .i64 0, .int .i64 0, .int .i64 0, .int .i64 0, .int .i64 0, .int .i64 0, .int .i64 0, .int .i64 0, .int .i64 0]
  have s_w2_1 := Nat.le_of_eq s_w2
  have s_w2_2 := Nat.le_of_eq s_w2.symm
  clear s_w2
  have B_w2 := B_w1.trans (h_w2.mono B_w1.size)
  go_wp2_with (refine wpl_tstore x_t rfl (tl_one T) (by rw [tl_len]; exact hT) rfl rfl rfl rfl ?_; intro w3 x_t3 h_w3 s_w3)
  clear x_t e_w2
  have B_w3 := Below.chg_ B_w2 h_w3 (by omega) (by omega)
  go_ret
  exact ⟨ret_eq rfl, B_w3⟩

set_option maxRecDepth 100000 in
set_option maxHeartbeats 4000000 in
theorem iHasOf_c {w : World} {v : Value} {r : MRights} {i : Int} (h : RV rightsL w v r) (hm : r.bulk ≤ 16777216) (hi : -9223372036854775808 ≤ i ∧ i ≤ 9223372036854775807) :
    Calls Try.prog 22 #[v, .int .i64 i] w fun e w' => e = .returned (.int .i64 (hasOf r i)) ∧ Below w.heap.size w w' := by
  have h0 := h
  obtain ⟨AG, cG, AS, cS, rfl, hrG, hrS, lG, lS⟩ := rv_rights2 h
  clear h
  obtain ⟨wa, hwa, B0, sa, x_a⟩ := frame1 w 27 [.slice AG r.Give.length cG, .slice AS r.Spent.length cS]
  have sa_1 := Nat.le_of_eq sa
  have sa_2 := Nat.le_of_eq sa.symm
  clear sa
  have c_a_0_wa := x_a.cell (i := 0) rfl
  have c_a_1_wa := x_a.cell (i := 1) rfl
  by_cases hf : rightsOkB r = true
  case neg =>
    have HO : Hid (hasOf r i = 0) := if_neg (fun c => hf c.1)
    replace hf : rightsOkB r = false := by simpa using hf
    have HF := Lib.hid hf
    clear hf
    go_enter Try.func22, Try.ntmps22
    go_wp2_with fail
    refine (iTallyOf_c (h0.from_ B0)).mono ?_
    rintro e w1 ⟨T, rfl, hT, hTe, h_w1⟩
    clear c_a_0_wa c_a_1_wa hwa
    have B_w1 := B0.trans (h_w1.mono B0.size)
    have s_w1 := h_w1.size
    clear x_a
    rw [HF.out]
    clear hTe
    obtain ⟨w2, e_w2, s_w2, h_w2, x_t⟩ := alloc_step w1 57 [.int .i64 0, .int .i64 0, .int .i64 0, .int .i64 0, .int .i64 0, .int .i64 0, .int .i64 0, .int .i64 0, .int .i64 0, .int .i64 0, .int .i64 0, .int .i64 0, .int .i64 0, .int .i64 0, .int .i64 0, .int .i64 0, .int .i64 0, .int .i64 0, .int .i64 0, .int .i64 0, .int .i64 0]
    have s_w2_1 := Nat.le_of_eq s_w2
    have s_w2_2 := Nat.le_of_eq s_w2.symm
    clear s_w2
    have B_w2 := B_w1.trans (h_w2.mono B_w1.size)
    go_wp2_with (refine wpl_tstore x_t rfl (tl_one T) (by rw [tl_len]; exact hT) rfl rfl rfl rfl ?_; intro w3 x_t3 h_w3 s_w3)
    clear x_t e_w2
    have B_w3 := Below.chg_ B_w2 h_w3 (by omega) (by omega)
    go_ret
    exact ⟨ret_eq (by rw [HO.out]; rfl), B_w3⟩
  have HF := Lib.hid hf
  by_cases hr : 0 ≤ i ∧ i < (r.Give.length : Int)
  case neg =>
    have HO : Hid (hasOf r i = 0) := if_neg (fun c => hr c.2)
    have HI : Hid (decide (0 ≤ i ∧ i < tg (tOf r) 0) = false) := decide_eq_false (by rw [tOf_n]; exact hr)
    clear hf
    go_enter Try.func22, Try.ntmps22
    go_wp2_with fail
    refine (iTallyOf_c (h0.from_ B0)).mono ?_
    rintro e w1 ⟨T, rfl, hT, hTe, h_w1⟩
    clear c_a_0_wa c_a_1_wa hwa
    have B_w1 := B0.trans (h_w1.mono B0.size)
    have s_w1 := h_w1.size
    clear x_a
    rw [HF.out]
    obtain rfl := hTe HF.out
    clear hTe
    obtain ⟨w2, e_w2, s_w2, h_w2, x_t⟩ := alloc_step w1 57 [.int .i64 0, .int .i64 0, .int .i64 0, .int .i64 0, .int .i64 0, .int .i64 0, .int .i64 0, .int .i64 0, .int .i64 0, .int .i64 0, .int .i64 0, .int .i64 0, .int .i64 0, .int .i64 0, .int .i64 0, .int .i64 0, .int .i64 0, .int .i64 0, .int .i64 0, .int .i64 0, .int .i64 0]
    have s_w2_1 := Nat.le_of_eq s_w2
    have s_w2_2 := Nat.le_of_eq s_w2.symm
    clear s_w2
    have B_w2 := B_w1.trans (h_w2.mono B_w1.size)
    go_wp2_with (first | refine wpl_tload x_t3 (tOf_len r) rfl rfl rfl ?_ | (refine wpl_tstore x_t rfl (tl_one (tOf r)) (by rw [tl_len]; exact hT) rfl rfl rfl rfl ?_; intro w3 x_t3 h_w3 s_w3))
    clear x_t e_w2
    have B_w3 := Below.chg_ B_w2 h_w3 (by omega) (by omega)
    refine (tHas_c (i := i) (tOf_len r) hi).mono ?_
    rintro e w4 ⟨rfl, h_w4⟩
    replace x_t3 := x_t3.from_ h_w4
    have B_w4 := B_w3.trans (h_w4.mono B_w3.size)
    have s_w4 := h_w4.size
    rw [HI.out]
    go_wp2
    go_ret
    exact ⟨ret_eq (by rw [HO.out]; rfl), B_w4⟩
  have HI : Hid (decide (0 ≤ i ∧ i < tg (tOf r) 0) = true) := decide_eq_true (by rw [tOf_n]; exact hr)
  obtain ⟨n, rfl⟩ : ∃ n : Nat, i = (n : Int) := ⟨i.toNat, by omega⟩
  have HO : Hid (hasOf r (n : Int) = hasZ r n) := by show _ = _; unfold hasOf; rw [if_pos ⟨hf, hr⟩]; rfl
  clear hf
  go_enter Try.func22, Try.ntmps22
  go_wp2_with fail
  refine (iTallyOf_c (h0.from_ B0)).mono ?_
  rintro e w1 ⟨T, rfl, hT, hTe, h_w1⟩
  clear c_a_0_wa c_a_1_wa hwa
  have B_w1 := B0.trans (h_w1.mono B0.size)
  have s_w1 := h_w1.size
  clear x_a
  rw [HF.out]
  obtain rfl := hTe HF.out
  clear hTe
  obtain ⟨w2, e_w2, s_w2, h_w2, x_t⟩ := alloc_step w1 57 [.int .i64 0, .int .i64 0, .int .i64 0, .int .i64 0, .int .i64 0, .int .i64 0, .int .i64 0, .int .i64 0, .int .i64 0, .int .i64 0, .int .i64 0, .int .i64 0, .int .i64 0, .int .i64 0, .int .i64 0, .int .i64 0, .int .i64 0, .int .i64 0, .int .i64 0, .int .i64 0, .int .i64 0]
  have s_w2_1 := Nat.le_of_eq s_w2
  have s_w2_2 := Nat.le_of_eq s_w2.symm
  clear s_w2
  have B_w2 := B_w1.trans (h_w2.mono B_w1.size)
  go_wp2_with (first | refine wpl_tload x_t3 (tOf_len r) rfl rfl rfl ?_ | (refine wpl_tstore x_t rfl (tl_one (tOf r)) (by rw [tl_len]; exact hT) rfl rfl rfl rfl ?_; intro w3 x_t3 h_w3 s_w3))
  clear x_t e_w2
  have B_w3 := Below.chg_ B_w2 h_w3 (by omega) (by omega)
  refine (tHas_c (i := (n : Int)) (tOf_len r) hi).mono ?_
  rintro e w4 ⟨rfl, h_w4⟩
  replace x_t3 := x_t3.from_ h_w4
  have B_w4 := B_w3.trans (h_w4.mono B_w3.size)
  have s_w4 := h_w4.size
  rw [HI.out]
  go_wp2_with (refine wpl_tload x_t3 (tOf_len r) rfl rfl rfl ?_)
  refine (tBal_c (ok_form HF.out) (by omega)).mono ?_
  rintro e w5 ⟨rfl, h_w5⟩
  have B_w5 := B_w4.trans (h_w5.mono B_w4.size)
  go_wp2
  go_ret
  exact ⟨ret_eq (by rw [HO.out]; rfl), B_w5⟩

set_option maxRecDepth 100000 in
set_option maxHeartbeats 4000000 in
theorem iAllOf_c {w : World} {v : Value} {r : MRights} (h : RV rightsL w v r) (hm : r.bulk ≤ 16777216) :
    Calls Try.prog 25 #[v] w fun e w' => e = .returned (.int .i64 (allOf r)) ∧ Below w.heap.size w w' := by
  have h0 := h
  obtain ⟨AG, cG, AS, cS, rfl, hrG, hrS, lG, lS⟩ := rv_rights2 h
  clear h
  obtain ⟨wa, hwa, B0, sa, x_a⟩ := frame1 w 27 [.slice AG r.Give.length cG, .slice AS r.Spent.length cS]
  have sa_1 := Nat.le_of_eq sa
  have sa_2 := Nat.le_of_eq sa.symm
  clear sa
  have c_a_0_wa := x_a.cell (i := 0) rfl
  have c_a_1_wa := x_a.cell (i := 1) rfl
  by_cases hf : rightsOkB r = true
  case neg =>
    have HO : Hid (allOf r = 0) := by
      show _ = _
      have h0 : ∀ j : Nat, sumN r j = 0 := fun j => by
        induction j with
        | zero => rfl
        | succ j ih => rw [sumN, ih, hasOf, if_neg (fun c => hf c.1)]; rfl
      exact h0 _
    replace hf : rightsOkB r = false := by simpa using hf
    have HF := Lib.hid hf
    clear hf
    go_enter Try.func25, Try.ntmps25
    go_wp2_with fail
    refine (iTallyOf_c (h0.from_ B0)).mono ?_
    rintro e w1 ⟨T, rfl, hT, hTe, h_w1⟩
    clear c_a_0_wa c_a_1_wa hwa
    have B_w1 := B0.trans (h_w1.mono B0.size)
    have s_w1 := h_w1.size
    clear x_a
    rw [HF.out]
    clear hTe
    obtain ⟨w2, e_w2, s_w2, h_w2, x_t⟩ := alloc_step w1 57 [.int .i64 0, .int .i64 0, .int .i64 0, .int .i64 0, .int .i64 0, .int .i64 0, .int .i64 0, .int .i64 0, .int .i64 0, .int .i64 0, .int .i64 0, .int .i64 0, .int .i64 0, .int .i64 0, .int .i64 0, .int .i64 0, .int .i64 0, .int .i64 0, .int .i64 0, .int .i64 0, .int .i64 0]
    have s_w2_1 := Nat.le_of_eq s_w2
    have s_w2_2 := Nat.le_of_eq s_w2.symm
    clear s_w2
    have B_w2 := B_w1.trans (h_w2.mono B_w1.size)
    go_wp2_with (refine wpl_tstore x_t rfl (tl_one T) (by rw [tl_len]; exact hT) rfl rfl rfl rfl ?_; intro w3 x_t3 h_w3 s_w3)
    clear x_t e_w2
    have B_w3 := Below.chg_ B_w2 h_w3 (by omega) (by omega)
    go_ret
    exact ⟨ret_eq (by rw [HO.out]; rfl), B_w3⟩
  have HF := Lib.hid hf
  have p1 := (form_parts (ok_form hf)).1
  clear hf
  have hSr := sumN_range2 r
  go_enter Try.func25, Try.ntmps25
  go_wp2_with fail
  refine (iTallyOf_c (h0.from_ B0)).mono ?_
  rintro e w1 ⟨T, rfl, hT, hTe, h_w1⟩
  clear c_a_0_wa c_a_1_wa hwa
  have B_w1 := B0.trans (h_w1.mono B0.size)
  have s_w1 := h_w1.size
  clear x_a
  rw [HF.out]
  obtain rfl := hTe HF.out
  clear hTe
  obtain ⟨w2, e_w2, s_w2, h_w2, x_t⟩ := alloc_step w1 57 [.int .i64 0, .int .i64 0, .int .i64 0, .int .i64 0, .int .i64 0, .int .i64 0, .int .i64 0, .int .i64 0, .int .i64 0, .int .i64 0, .int .i64 0, .int .i64 0, .int .i64 0, .int .i64 0, .int .i64 0, .int .i64 0, .int .i64 0, .int .i64 0, .int .i64 0, .int .i64 0, .int .i64 0]
  have s_w2_1 := Nat.le_of_eq s_w2
  have s_w2_2 := Nat.le_of_eq s_w2.symm
  clear s_w2
  have B_w2 := B_w1.trans (h_w2.mono B_w1.size)
  go_wp2_with (refine wpl_tstore x_t rfl (tl_one (tOf r)) (by rw [tl_len]; exact hT) rfl rfl rfl rfl ?_; intro w3 x_t3 h_w3 s_w3; have c0 := x_t3.tn)
  clear x_t e_w2
  have B_w3 := Below.chg_ B_w2 h_w3 (by omega) (by omega)
  clear c0
  go_loopw [5, 16] (fun q j wr => ∃ (k : Nat) (z : Int), k ≤ r.Give.length ∧ j = .int .i64 k ∧ q = .int .i64 z ∧ Hid (z = sumN r k) ∧ Vr wr w1.heap.size 57 (tl (tOf r)) ∧ Below w.heap.size w wr) (fun _ j _ => r.Give.length - (intOf j).toNat)
  case atStart => exact ⟨0, 0, Nat.zero_le _, rfl, rfl, rfl, x_t3, B_w3⟩
  case round =>
    clear x_t3
    obtain ⟨k, z, hk, rfl, rfl, HZ, x_t3, HB⟩ := hrel
    have hs := HB.size
    have hzr := hSr k hk
    rw [← HZ.out] at hzr
    by_cases hlt : k < r.Give.length
    case neg =>
      have HO : Hid (allOf r = z) := by show _ = _; unfold allOf; rw [HZ.out, show k = r.Give.length by omega]
      have hk2 : ¬ ((k : Int) < (r.Give.length : Int)) := by omega
      go_wp2
      go_ret
      exact ⟨ret_eq (by rw [HO.out]; rfl), HB⟩
    have j1 : (k : Int) < (r.Give.length : Int) := by omega
    have hhr := hasOf_range r (k : Int)
    have hZk : hasOf r (k : Int) = hasZ r k := by unfold hasOf; rw [if_pos ⟨HF.out, by omega⟩]; rfl
    rw [hZk] at hhr
    obtain ⟨y, hy⟩ : ∃ y, hasZ r k = y := ⟨_, rfl⟩
    rw [hy] at hhr
    have H2 : Hid (z + y = sumN r (k + 1)) := by show _ = _; rw [sumN, HZ.out, hZk, hy]
    have HY := Lib.hid hy
    clear hy hZk
    go_wp2_with (refine wpl_tload x_t3 (tOf_len r) rfl rfl rfl ?_)
    refine (tBal_c (ok_form HF.out) hlt).mono ?_
    rintro e w5 ⟨rfl, h_w5⟩
    replace x_t3 := x_t3.from_ h_w5
    have B_w5 := HB.trans (h_w5.mono HB.size)
    rw [HY.out]
    go_wp2
    go_roundw
    case rel => exact ⟨k + 1, _, by omega, by go_num, by go_num, H2, x_t3, B_w5⟩
    case measure => simp [intOf]; omega

theorem tOf_new (n : Nat) : tOf ⟨List.replicate n (List.replicate n 0), List.replicate n 0⟩ = tZ (n : Int) := by
  refine (is_tOf (tZ_len _) ?_ (fun i j hi hj => ?_) (fun i hi => ?_)).symm
  · simp [tZ, tg]
  · rw [tZ_get _ (by omega) (by omega)]
    unfold g2
    simp only [List.getD_eq_getElem?_getD, List.getElem?_replicate]
    split
    · simp [List.getElem?_replicate]; split <;> simp
    · simp
  · rw [tZ_get _ (by omega) (by omega)]
    unfold s1
    simp only [List.getD_eq_getElem?_getD, List.getElem?_replicate]
    split <;> simp
theorem shp_new (n : Nat) : Shp n ⟨List.replicate n (List.replicate n 0), List.replicate n 0⟩ := by
  refine ⟨by simp, by simp, fun i Q hQ => ?_⟩
  have hQ' : (List.replicate n (List.replicate n (0 : Int)))[i]? = some Q := hQ
  rw [List.getElem?_replicate] at hQ'
  split at hQ'
  · obtain rfl : List.replicate n (0 : Int) = Q := by simpa using hQ'
    simp
  · cases hQ'

set_option maxRecDepth 100000 in
set_option maxHeartbeats 4000000 in
theorem iRightsNew_c {w : World} {n : Int} (hn' : -9223372036854775808 ≤ n ∧ n ≤ 9223372036854775807) : Calls Try.prog 31 #[.int .i64 n] w (NewV rightsL w (rightsNew n)) := by
  obtain ⟨wa, hwa, B0, sa, x_r⟩ := frame1 w 27 [.slice none 0 0, .slice none 0 0]
  have sa_1 := Nat.le_of_eq sa
  have sa_2 := Nat.le_of_eq sa.symm
  clear sa
  have c_r_0_wa := x_r.cell (i := 0) rfl
  have f_r_0_wa := x_r.frozen 0
  have c_r_1_wa := x_r.cell (i := 1) rfl
  have f_r_1_wa := x_r.frozen 1
  by_cases hn : 1 ≤ n ∧ n ≤ 4
  case neg =>
    have HI : Hid (inB n 1 4 = false) := inB_false.2 (by omega)
    have HO : Hid (rightsNew n = rZ) := if_neg (by rw [HI.out]; decide)
    go_enter Try.func31, Try.ntmps31
    go_wp2_with fail
    refine (iCount_any _ _).mono ?_
    rintro e w' ⟨rfl, rfl⟩
    rw [HI.out]
    have i_r_0 := x_r.same (i := 0) rfl
    have i_r_1 := x_r.same (i := 1) rfl
    go_wp2
    refine ret_cell (by rfl) (by rfl) x_r Try.underlying27 sz_rights (by rfl) ?_
    rw [HO.out]
    exact ⟨_, rfl, ov_rZ (Nat.le_refl _), B0⟩
  have HI : Hid (inB n 1 4 = true) := inB_true.2 (by omega)
  obtain ⟨N, rfl⟩ : ∃ N : Nat, n = (N : Int) := ⟨n.toNat, by omega⟩
  have HO : Hid (rightsNew (N : Int) = ⟨List.replicate N (List.replicate N 0), List.replicate N 0⟩) := by show _ = _; unfold rightsNew; rw [if_pos HI.out]; rfl
  obtain ⟨D, hD⟩ : ∃ D : MRights, (⟨List.replicate N (List.replicate N 0), List.replicate N 0⟩ : MRights) = D := ⟨_, rfl⟩
  have hl : D.Give.length = N := by rw [← hD]; simp
  have hSD : Shp D.Give.length D := by rw [hl, ← hD]; exact shp_new N
  have hc : Calls Try.prog 66 #[.agg (tl (tZ (N : Int))).toArray] wa (NewV rightsL wa D) := by
    have := tRights_c (w := wa) hSD (by omega)
    rw [← hD, tOf_new N, hD] at this
    exact this
  have HC := Lib.hid hc
  rw [hD] at HO
  clear hc hD hl
  go_enter Try.func31, Try.ntmps31
  go_wp2_with fail
  refine (iCount_any _ _).mono ?_
  rintro e w' ⟨rfl, rfl⟩
  rw [HI.out]
  go_wp2_with fail
  refine HC.out.mono ?_
  rintro e w2 ⟨u, rfl, ou, h_w2⟩
  clear HC c_r_0_wa f_r_0_wa c_r_1_wa f_r_1_wa
  replace x_r := x_r.from_ h_w2
  have B_w2 := B0.trans (h_w2.mono B0.size)
  have s_w2 := h_w2.size
  obtain ⟨AG, cG, AS, cS, rfl, -, -⟩ := rv_rights ou.rd
  have c_r_0_w2 := x_r.cell (i := 0) rfl
  have f_r_0_w2 := x_r.frozen 0
  have c_r_1_w2 := x_r.cell (i := 1) rfl
  have f_r_1_w2 := x_r.frozen 1
  obtain ⟨w3, e_w3, s_w3, h_w3, y⟩ := store_step x_r [.slice AG D.Give.length cG, .slice AS D.Spent.length cS] rfl
  replace e_w3 : ((w2.setCell ⟨w.heap.size, 0, none⟩ (.slice AG D.Give.length cG)).setCell ⟨w.heap.size, 1, none⟩ (.slice AS D.Spent.length cS)) = w3 := e_w3
  have s_w3_1 := Nat.le_of_eq s_w3
  have s_w3_2 := Nat.le_of_eq s_w3.symm
  clear s_w3
  have B_w3 := Below.chg_ B_w2 h_w3 (by omega) (by omega)
  replace ou := ou.chg h_w3 (by omega)
  replace x_r : Vr w3 w.heap.size 27 [.slice AG D.Give.length cG, .slice AS D.Spent.length cS] := y
  clear y
  have c_r_0_w3 := x_r.cell (i := 0) rfl
  have f_r_0_w3 := x_r.frozen 0
  have c_r_1_w3 := x_r.cell (i := 1) rfl
  have f_r_1_w3 := x_r.frozen 1
  go_wp2
  refine ret_cell (by rfl) (by rfl) x_r Try.underlying27 sz_rights (by rfl) ?_
  rw [HO.out]
  exact ⟨_, rfl, ou.widen (by omega) (by omega) (Nat.le_refl _), B_w3⟩

end Go.Proofs.Ytmbipgnecjlicaa

namespace Go.Proofs.Ytmbipgnecjlicaa
open Go.RowKit
set_option linter.unusedVariables false

set_option maxRecDepth 100000 in
set_option maxHeartbeats 4000000 in
theorem iMint_c {w : World} {v : Value} {r : MRights} {i a : Int} (h : RV rightsL w v r) (hm : r.bulk ≤ 16777216) (hi : -9223372036854775808 ≤ i ∧ i ≤ 9223372036854775807) (ha : -9223372036854775808 ≤ a ∧ a ≤ 9223372036854775807) :
    Calls Try.prog 17 #[v, .int .i64 i, .int .i64 a] w (NewVB rightsL w (mintM r i a) (mintB r i a)) := by
  have h0 := h
  obtain ⟨AG, cG, AS, cS, rfl, hrG, hrS, lG, lS⟩ := rv_rights2 h
  clear h
  obtain ⟨wa, hwa, B0, sa, x_a, x_r⟩ := frame2 w 27 [.slice AG r.Give.length cG, .slice AS r.Spent.length cS] 27 [.slice none 0 0, .slice none 0 0]
  have sa_1 := Nat.le_of_eq sa
  have sa_2 := Nat.le_of_eq sa.symm
  clear sa
  have c_a_0_wa := x_a.cell (i := 0) rfl
  have c_a_1_wa := x_a.cell (i := 1) rfl
  by_cases hf : rightsOkB r = true
  case neg =>
    replace hf : rightsOkB r = false := by simpa using hf
    have HB : Hid (mintB r i a = false) := by
      show _ = _
      unfold mintB mayB
      rw [hf]; simp
    have HM : Hid (mintM r i a = rZ) := if_neg (by rw [HB.out]; decide)
    have HF := Lib.hid hf
    clear hf
    go_enter Try.func17, Try.ntmps17
    go_wp2_with fail
    refine (iTallyOf_c (h0.from_ B0)).mono ?_
    rintro e w1 ⟨T, rfl, hT, hTe, h_w1⟩
    clear c_a_0_wa c_a_1_wa hwa
    replace x_r := x_r.from_ h_w1
    have B_w1 := B0.trans (h_w1.mono B0.size)
    have s_w1 := h_w1.size
    clear x_a
    rw [HF.out]
    clear hTe
    obtain ⟨w2, e_w2, s_w2, h_w2, x_t⟩ := alloc_step w1 57 [.int .i64 0, .int .i64 0, .int .i64 0, .int .i64 0, .int .i64 0, .int .i64 0, .int .i64 0, .int .i64 0, .int .i64 0, .int .i64 0, .int .i64 0, .int .i64 0, .int .i64 0, .int .i64 0, .int .i64 0, .int .i64 0, .int .i64 0, .int .i64 0, .int .i64 0, .int .i64 0, .int .i64 0]
    have s_w2_1 := Nat.le_of_eq s_w2
    have s_w2_2 := Nat.le_of_eq s_w2.symm
    clear s_w2
    replace x_r := x_r.from_ h_w2
    have B_w2 := B_w1.trans (h_w2.mono B_w1.size)
    go_wp2_with (refine wpl_tstore x_t rfl (tl_one T) (by rw [tl_len]; exact hT) rfl rfl rfl rfl ?_; intro w3 x_t3 h_w3 s_w3; have c_r_0_w3 := (x_r.chg h_w3 (by omega)).cell (i := 0) rfl; have f_r_0_w3 := (x_r.chg h_w3 (by omega)).frozen 0; have c_r_1_w3 := (x_r.chg h_w3 (by omega)).cell (i := 1) rfl; have f_r_1_w3 := (x_r.chg h_w3 (by omega)).frozen 1; have i_r_0 := (x_r.chg h_w3 (by omega)).same (i := 0) rfl; have i_r_1 := (x_r.chg h_w3 (by omega)).same (i := 1) rfl)
    clear x_t e_w2
    replace x_r := x_r.chg h_w3 (by omega)
    have B_w3 := Below.chg_ B_w2 h_w3 (by omega) (by omega)
    refine ret_cell_tmp (by rfl) (by rfl) x_r Try.underlying27 sz_rights (by rfl) ?_
    rw [HM.out, HB.out]
    exact ⟨_, rfl, ov_rZ (Nat.le_refl _), B_w3⟩
  have HF := Lib.hid hf
  have hF := ok_form hf
  obtain ⟨p1, p2, p3⟩ := form_parts hF
  by_cases hir : 0 ≤ i ∧ i < (r.Give.length : Int)
  case neg =>
    have HIi : Hid (decide (0 ≤ i ∧ i < tg (tOf r) 0) = false) := decide_eq_false (by rw [tOf_n]; exact hir)
    have HB : Hid (mintB r i a = false) := by
      show _ = _
      unfold mintB mayB
      rw [show inB i 0 ((r.Give.length : Int) - 1) = false from inB_false.2 (by omega)]; simp
    have HM : Hid (mintM r i a = rZ) := if_neg (by rw [HB.out]; decide)
    clear hf
    go_enter Try.func17, Try.ntmps17
    go_wp2_with fail
    refine (iTallyOf_c (h0.from_ B0)).mono ?_
    rintro e w1 ⟨T, rfl, hT, hTe, h_w1⟩
    clear c_a_0_wa c_a_1_wa hwa
    replace x_r := x_r.from_ h_w1
    have B_w1 := B0.trans (h_w1.mono B0.size)
    have s_w1 := h_w1.size
    clear x_a
    rw [HF.out]
    obtain rfl := hTe HF.out
    clear hTe
    obtain ⟨w2, e_w2, s_w2, h_w2, x_t⟩ := alloc_step w1 57 [.int .i64 0, .int .i64 0, .int .i64 0, .int .i64 0, .int .i64 0, .int .i64 0, .int .i64 0, .int .i64 0, .int .i64 0, .int .i64 0, .int .i64 0, .int .i64 0, .int .i64 0, .int .i64 0, .int .i64 0, .int .i64 0, .int .i64 0, .int .i64 0, .int .i64 0, .int .i64 0, .int .i64 0]
    have s_w2_1 := Nat.le_of_eq s_w2
    have s_w2_2 := Nat.le_of_eq s_w2.symm
    clear s_w2
    replace x_r := x_r.from_ h_w2
    have B_w2 := B_w1.trans (h_w2.mono B_w1.size)
    go_wp2_with (first | refine wpl_tload x_t3 (tOf_len r) rfl rfl rfl ?_ | (refine wpl_tstore x_t rfl (tl_one (tOf r)) (by rw [tl_len]; exact hT) rfl rfl rfl rfl ?_; intro w3 x_t3 h_w3 s_w3))
    clear x_t e_w2
    replace x_r := x_r.chg h_w3 (by omega)
    have B_w3 := Below.chg_ B_w2 h_w3 (by omega) (by omega)
    refine (tHas_c (i := i) (tOf_len r) hi).mono ?_
    rintro e w4 ⟨rfl, h_w4⟩
    replace x_t3 := x_t3.from_ h_w4
    replace x_r := x_r.from_ h_w4
    have B_w4 := B_w3.trans (h_w4.mono B_w3.size)
    have s_w4 := h_w4.size
    rw [HIi.out]
    have c_r_0_w4 := x_r.cell (i := 0) rfl
    have f_r_0_w4 := x_r.frozen 0
    have c_r_1_w4 := x_r.cell (i := 1) rfl
    have f_r_1_w4 := x_r.frozen 1
    have i_r_0 := x_r.same (i := 0) rfl
    have i_r_1 := x_r.same (i := 1) rfl
    go_wp2
    refine ret_cell_tmp (by rfl) (by rfl) x_r Try.underlying27 sz_rights (by rfl) ?_
    rw [HM.out, HB.out]
    exact ⟨_, rfl, ov_rZ (Nat.le_refl _), B_w4⟩
  have HIi : Hid (decide (0 ≤ i ∧ i < tg (tOf r) 0) = true) := decide_eq_true (by rw [tOf_n]; exact hir)
  by_cases ha2 : amtB a = true
  case neg =>
    replace ha2 : amtB a = false := by simpa using ha2
    have HA := Lib.hid ha2
    have HB : Hid (mintB r i a = false) := by
      show _ = _
      unfold mintB mayB
      rw [ha2]; simp
    have HM : Hid (mintM r i a = rZ) := if_neg (by rw [HB.out]; decide)
    clear hf ha2
    go_enter Try.func17, Try.ntmps17
    go_wp2_with fail
    refine (iTallyOf_c (h0.from_ B0)).mono ?_
    rintro e w1 ⟨T, rfl, hT, hTe, h_w1⟩
    clear c_a_0_wa c_a_1_wa hwa
    replace x_r := x_r.from_ h_w1
    have B_w1 := B0.trans (h_w1.mono B0.size)
    have s_w1 := h_w1.size
    clear x_a
    rw [HF.out]
    obtain rfl := hTe HF.out
    clear hTe
    obtain ⟨w2, e_w2, s_w2, h_w2, x_t⟩ := alloc_step w1 57 [.int .i64 0, .int .i64 0, .int .i64 0, .int .i64 0, .int .i64 0, .int .i64 0, .int .i64 0, .int .i64 0, .int .i64 0, .int .i64 0, .int .i64 0, .int .i64 0, .int .i64 0, .int .i64 0, .int .i64 0, .int .i64 0, .int .i64 0, .int .i64 0, .int .i64 0, .int .i64 0, .int .i64 0]
    have s_w2_1 := Nat.le_of_eq s_w2
    have s_w2_2 := Nat.le_of_eq s_w2.symm
    clear s_w2
    replace x_r := x_r.from_ h_w2
    have B_w2 := B_w1.trans (h_w2.mono B_w1.size)
    go_wp2_with (first | refine wpl_tload x_t3 (tOf_len r) rfl rfl rfl ?_ | (refine wpl_tstore x_t rfl (tl_one (tOf r)) (by rw [tl_len]; exact hT) rfl rfl rfl rfl ?_; intro w3 x_t3 h_w3 s_w3))
    clear x_t e_w2
    replace x_r := x_r.chg h_w3 (by omega)
    have B_w3 := Below.chg_ B_w2 h_w3 (by omega) (by omega)
    refine (tHas_c (i := i) (tOf_len r) hi).mono ?_
    rintro e w4 ⟨rfl, h_w4⟩
    replace x_t3 := x_t3.from_ h_w4
    replace x_r := x_r.from_ h_w4
    have B_w4 := B_w3.trans (h_w4.mono B_w3.size)
    have s_w4 := h_w4.size
    rw [HIi.out]
    go_wp2_with fail
    refine (iAmt_any _ _).mono ?_
    rintro e w' ⟨rfl, rfl⟩
    rw [HA.out]
    have c_r_0_w4 := x_r.cell (i := 0) rfl
    have f_r_0_w4 := x_r.frozen 0
    have c_r_1_w4 := x_r.cell (i := 1) rfl
    have f_r_1_w4 := x_r.frozen 1
    have i_r_0 := x_r.same (i := 0) rfl
    have i_r_1 := x_r.same (i := 1) rfl
    go_wp2
    refine ret_cell_tmp (by rfl) (by rfl) x_r Try.underlying27 sz_rights (by rfl) ?_
    rw [HM.out, HB.out]
    exact ⟨_, rfl, ov_rZ (Nat.le_refl _), B_w4⟩
  have HA := Lib.hid ha2
  have hpa : 1 ≤ a ∧ a ≤ 1000000000 := inB_true.1 ha2
  obtain ⟨ni, rfl⟩ : ∃ n : Nat, i = (n : Int) := ⟨i.toNat, by omega⟩
  have i4i : (ni : Int) < 4 := by omega
  have k4i : ni < 4 := by omega
  have kli : ni < r.Give.length := by omega
  obtain ⟨Rw, hR⟩ := get_of_lt kli
  obtain ⟨q1, q2⟩ := form_row hF hR
  have q2n := q2 ni
  obtain ⟨y, hy⟩ : ∃ y, g2 r.Give ni ni = y := ⟨_, rfl⟩
  rw [← g2_of hR ni, hy] at q2n
  obtain ⟨D, hD⟩ : ∃ D, addG r ni ni a = D := ⟨_, rfl⟩
  have hDe : (⟨r.Give.set ni (Rw.set ni (y + a)), r.Spent⟩ : MRights) = D := by
    rw [← hD, addG, setG, hy]
    rw [show r.Give.getD ni [] = Rw by rw [List.getD_eq_getElem?_getD, hR]; rfl]
  have hSD : Shp D.Give.length D := by
    have h1 := Shp.setG (j := ni) (x := y + a) (form_shp hF) hR
    rw [hDe] at h1
    rw [h1.1]
    exact h1
  have hnD : 1 ≤ D.Give.length ∧ D.Give.length ≤ 4 := by rw [← hDe]; simpa using p1
  have HT2 : Hid ((tl (tOf r)).set (1 + ni * 4 + ni) (.int .i64 (y + a)) = tl (tOf D)) := by show _ = _; rw [tl_set, tOf_setG hR (by omega) k4i k4i, hDe]
  have HB : Hid (mintB r (ni : Int) a = rightsOkB D) := by
    show _ = _
    unfold mintB mayB
    rw [hf, show inB (ni : Int) 0 ((r.Give.length : Int) - 1) = true from inB_true.2 (by omega), ha2]
    simp only [Int.toNat_natCast, hD]
    simp
  have HM : Hid (mintM r (ni : Int) a = validM D) := by
    show _ = _
    unfold mintM validM
    rw [HB.out]
    simp only [Int.toNat_natCast, hD]
  have HY := Lib.hid hy
  have tw : IntKind.i64.wrap (y + a) = y + a := IntWalk.i64_in _ (by omega)
  clear hf ha2 hD hDe hy
  clear hR q2
  go_enter Try.func17, Try.ntmps17
  go_wp2_with fail
  refine (iTallyOf_c (h0.from_ B0)).mono ?_
  rintro e w1 ⟨T, rfl, hT, hTe, h_w1⟩
  clear c_a_0_wa c_a_1_wa hwa
  replace x_r := x_r.from_ h_w1
  have B_w1 := B0.trans (h_w1.mono B0.size)
  have s_w1 := h_w1.size
  clear x_a
  rw [HF.out]
  obtain rfl := hTe HF.out
  clear hTe
  obtain ⟨w2, e_w2, s_w2, h_w2, x_t⟩ := alloc_step w1 57 [.int .i64 0, .int .i64 0, .int .i64 0, .int .i64 0, .int .i64 0, .int .i64 0, .int .i64 0, .int .i64 0, .int .i64 0, .int .i64 0, .int .i64 0, .int .i64 0, .int .i64 0, .int .i64 0, .int .i64 0, .int .i64 0, .int .i64 0, .int .i64 0, .int .i64 0, .int .i64 0, .int .i64 0]
  have s_w2_1 := Nat.le_of_eq s_w2
  have s_w2_2 := Nat.le_of_eq s_w2.symm
  clear s_w2
  replace x_r := x_r.from_ h_w2
  have B_w2 := B_w1.trans (h_w2.mono B_w1.size)
  go_wp2_with (first | refine wpl_tload x_t3 (tOf_len r) rfl rfl rfl ?_ | (refine wpl_tstore x_t rfl (tl_one (tOf r)) (by rw [tl_len]; exact hT) rfl rfl rfl rfl ?_; intro w3 x_t3 h_w3 s_w3))
  clear x_t e_w2
  replace x_r := x_r.chg h_w3 (by omega)
  have B_w3 := Below.chg_ B_w2 h_w3 (by omega) (by omega)
  refine (tHas_c (i := (ni : Int)) (tOf_len r) hi).mono ?_
  rintro e w4 ⟨rfl, h_w4⟩
  replace x_t3 := x_t3.from_ h_w4
  replace x_r := x_r.from_ h_w4
  have B_w4 := B_w3.trans (h_w4.mono B_w3.size)
  have s_w4 := h_w4.size
  rw [HIi.out]
  go_wp2_with fail
  refine (iAmt_any _ _).mono ?_
  rintro e w' ⟨rfl, rfl⟩
  rw [HA.out]
  go_wp2_with fail
  obtain ⟨wd, hwd⟩ : ∃ x, ({ heap := w4.heap, tape := w4.tape, drawn := w4.drawn + 1, os := w4.os, output := w4.output } : World) = x := ⟨_, rfl⟩
  have hbd : Below w4.heap.size w4 wd := by rw [← hwd]; exact (Below.refl w4.heap.size w4).drew
  replace x_t3 := x_t3.from_ hbd
  replace x_r := x_r.from_ hbd
  have B_wd := B_w4.trans (hbd.mono B_w4.size)
  have s_wd := hbd.size
  have c1 := x_t3.tgv k4i k4i
  rw [HY.out] at c1
  have f1 := x_t3.frozen (1 + ni * 4 + ni)
  obtain ⟨w7, hw7, s_w7, h_w7, x_t7⟩ := set_step x_t3 (1 + ni * 4 + ni) (.int .i64 (y + a))
  have s_w7_1 := Nat.le_of_eq s_w7
  have s_w7_2 := Nat.le_of_eq s_w7.symm
  clear s_w7
  rw [HT2.out] at x_t7
  replace x_r := x_r.chg h_w7 (by omega)
  have B_w7 := Below.chg_ B_wd h_w7 (by omega) (by omega)
  refine wp_region_still_tail 11 (by kernel_rfl) (by kernel_rfl) ?_
  rw [hwd]
  simp only [List.take_succ_cons, List.take_zero, List.drop_succ_cons, List.drop_zero]
  repeat still_step
  refine wpStill_nil ?_
  go_wp2_with (refine wpl_tload x_t7 (tOf_len D) rfl rfl rfl ?_)
  refine (tValid_c hSD hnD).mono ?_
  rintro e w8 ⟨u, rfl, ou, h_w8⟩
  replace x_r := x_r.from_ h_w8
  have B_w8 := B_w7.trans (h_w8.mono B_w7.size)
  have s_w8 := h_w8.size
  obtain ⟨AG2, cG2, AS2, cS2, rfl, -, -⟩ := rv_rights ou.rd
  have c_r_0_w8 := x_r.cell (i := 0) rfl
  have f_r_0_w8 := x_r.frozen 0
  have c_r_1_w8 := x_r.cell (i := 1) rfl
  have f_r_1_w8 := x_r.frozen 1
  obtain ⟨w9, e_w9, s_w9, h_w9, y⟩ := store_step x_r [.slice AG2 (validM D).Give.length cG2, .slice AS2 (validM D).Spent.length cS2] rfl
  replace e_w9 : ((w8.setCell ⟨w.heap.size + 1, 0, none⟩ (.slice AG2 (validM D).Give.length cG2)).setCell ⟨w.heap.size + 1, 1, none⟩ (.slice AS2 (validM D).Spent.length cS2)) = w9 := e_w9
  have s_w9_1 := Nat.le_of_eq s_w9
  have s_w9_2 := Nat.le_of_eq s_w9.symm
  clear s_w9
  have B_w9 := Below.chg_ B_w8 h_w9 (by omega) (by omega)
  replace ou := ou.chg h_w9 (by omega)
  replace x_r : Vr w9 (w.heap.size + 1) 27 [.slice AG2 (validM D).Give.length cG2, .slice AS2 (validM D).Spent.length cS2] := y
  clear y
  have c_r_0_w9 := x_r.cell (i := 0) rfl
  have f_r_0_w9 := x_r.frozen 0
  have c_r_1_w9 := x_r.cell (i := 1) rfl
  have f_r_1_w9 := x_r.frozen 1
  go_wp2
  refine ret_cell_tmp (by rfl) (by rfl) x_r Try.underlying27 sz_rights (by rfl) ?_
  rw [HM.out, HB.out]
  exact ⟨_, rfl, ou.widen (by omega) (by omega) (Nat.le_refl _), B_w9⟩

end Go.Proofs.Ytmbipgnecjlicaa

namespace Go.Proofs.Ytmbipgnecjlicaa
open Go.RowKit
set_option linter.unusedVariables false

set_option maxRecDepth 100000 in
set_option maxHeartbeats 4000000 in
theorem iSpend_c {w : World} {v : Value} {r : MRights} {i a : Int} (h : RV rightsL w v r) (hm : r.bulk ≤ 16777216) (hi : -9223372036854775808 ≤ i ∧ i ≤ 9223372036854775807) (ha : -9223372036854775808 ≤ a ∧ a ≤ 9223372036854775807) :
    Calls Try.prog 24 #[v, .int .i64 i, .int .i64 a] w (NewVB rightsL w (spendM r i a) (spendB r i a)) := by
  have h0 := h
  obtain ⟨AG, cG, AS, cS, rfl, hrG, hrS, lG, lS⟩ := rv_rights2 h
  clear h
  obtain ⟨wa, hwa, B0, sa, x_a, x_r⟩ := frame2 w 27 [.slice AG r.Give.length cG, .slice AS r.Spent.length cS] 27 [.slice none 0 0, .slice none 0 0]
  have sa_1 := Nat.le_of_eq sa
  have sa_2 := Nat.le_of_eq sa.symm
  clear sa
  have c_a_0_wa := x_a.cell (i := 0) rfl
  have c_a_1_wa := x_a.cell (i := 1) rfl
  by_cases hf : rightsOkB r = true
  case neg =>
    replace hf : rightsOkB r = false := by simpa using hf
    have HB : Hid (spendB r i a = false) := by
      show _ = _
      unfold spendB mayB
      rw [hf]; simp
    have HM : Hid (spendM r i a = rZ) := if_neg (by rw [HB.out]; decide)
    have HF := Lib.hid hf
    clear hf
    go_enter Try.func24, Try.ntmps24
    go_wp2_with fail
    refine (iTallyOf_c (h0.from_ B0)).mono ?_
    rintro e w1 ⟨T, rfl, hT, hTe, h_w1⟩
    clear c_a_0_wa c_a_1_wa hwa
    replace x_r := x_r.from_ h_w1
    have B_w1 := B0.trans (h_w1.mono B0.size)
    have s_w1 := h_w1.size
    clear x_a
    rw [HF.out]
    clear hTe
    obtain ⟨w2, e_w2, s_w2, h_w2, x_t⟩ := alloc_step w1 57 [.int .i64 0, .int .i64 0, .int .i64 0, .int .i64 0, .int .i64 0, .int .i64 0, .int .i64 0, .int .i64 0, .int .i64 0, .int .i64 0, .int .i64 0, .int .i64 0, .int .i64 0, .int .i64 0, .int .i64 0, .int .i64 0, .int .i64 0, .int .i64 0, .int .i64 0, .int .i64 0, .int .i64 0]
    have s_w2_1 := Nat.le_of_eq s_w2
    have s_w2_2 := Nat.le_of_eq s_w2.symm
    clear s_w2
    replace x_r := x_r.from_ h_w2
    have B_w2 := B_w1.trans (h_w2.mono B_w1.size)
    go_wp2_with (refine wpl_tstore x_t rfl (tl_one T) (by rw [tl_len]; exact hT) rfl rfl rfl rfl ?_; intro w3 x_t3 h_w3 s_w3; have c_r_0_w3 := (x_r.chg h_w3 (by omega)).cell (i := 0) rfl; have f_r_0_w3 := (x_r.chg h_w3 (by omega)).frozen 0; have c_r_1_w3 := (x_r.chg h_w3 (by omega)).cell (i := 1) rfl; have f_r_1_w3 := (x_r.chg h_w3 (by omega)).frozen 1; have i_r_0 := (x_r.chg h_w3 (by omega)).same (i := 0) rfl; have i_r_1 := (x_r.chg h_w3 (by omega)).same (i := 1) rfl)
    clear x_t e_w2
    replace x_r := x_r.chg h_w3 (by omega)
    have B_w3 := Below.chg_ B_w2 h_w3 (by omega) (by omega)
    refine ret_cell_tmp (by rfl) (by rfl) x_r Try.underlying27 sz_rights (by rfl) ?_
    rw [HM.out, HB.out]
    exact ⟨_, rfl, ov_rZ (Nat.le_refl _), B_w3⟩
  have HF := Lib.hid hf
  have hF := ok_form hf
  obtain ⟨p1, p2, p3⟩ := form_parts hF
  by_cases hir : 0 ≤ i ∧ i < (r.Give.length : Int)
  case neg =>
    have HIi : Hid (decide (0 ≤ i ∧ i < tg (tOf r) 0) = false) := decide_eq_false (by rw [tOf_n]; exact hir)
    have HB : Hid (spendB r i a = false) := by
      show _ = _
      unfold spendB mayB
      rw [show inB i 0 ((r.Give.length : Int) - 1) = false from inB_false.2 (by omega)]; simp
    have HM : Hid (spendM r i a = rZ) := if_neg (by rw [HB.out]; decide)
    clear hf
    go_enter Try.func24, Try.ntmps24
    go_wp2_with fail
    refine (iTallyOf_c (h0.from_ B0)).mono ?_
    rintro e w1 ⟨T, rfl, hT, hTe, h_w1⟩
    clear c_a_0_wa c_a_1_wa hwa
    replace x_r := x_r.from_ h_w1
    have B_w1 := B0.trans (h_w1.mono B0.size)
    have s_w1 := h_w1.size
    clear x_a
    rw [HF.out]
    obtain rfl := hTe HF.out
    clear hTe
    obtain ⟨w2, e_w2, s_w2, h_w2, x_t⟩ := alloc_step w1 57 [.int .i64 0, .int .i64 0, .int .i64 0, .int .i64 0, .int .i64 0, .int .i64 0, .int .i64 0, .int .i64 0, .int .i64 0, .int .i64 0, .int .i64 0, .int .i64 0, .int .i64 0, .int .i64 0, .int .i64 0, .int .i64 0, .int .i64 0, .int .i64 0, .int .i64 0, .int .i64 0, .int .i64 0]
    have s_w2_1 := Nat.le_of_eq s_w2
    have s_w2_2 := Nat.le_of_eq s_w2.symm
    clear s_w2
    replace x_r := x_r.from_ h_w2
    have B_w2 := B_w1.trans (h_w2.mono B_w1.size)
    go_wp2_with (first | refine wpl_tload x_t3 (tOf_len r) rfl rfl rfl ?_ | (refine wpl_tstore x_t rfl (tl_one (tOf r)) (by rw [tl_len]; exact hT) rfl rfl rfl rfl ?_; intro w3 x_t3 h_w3 s_w3))
    clear x_t e_w2
    replace x_r := x_r.chg h_w3 (by omega)
    have B_w3 := Below.chg_ B_w2 h_w3 (by omega) (by omega)
    refine (tHas_c (i := i) (tOf_len r) hi).mono ?_
    rintro e w4 ⟨rfl, h_w4⟩
    replace x_t3 := x_t3.from_ h_w4
    replace x_r := x_r.from_ h_w4
    have B_w4 := B_w3.trans (h_w4.mono B_w3.size)
    have s_w4 := h_w4.size
    rw [HIi.out]
    have c_r_0_w4 := x_r.cell (i := 0) rfl
    have f_r_0_w4 := x_r.frozen 0
    have c_r_1_w4 := x_r.cell (i := 1) rfl
    have f_r_1_w4 := x_r.frozen 1
    have i_r_0 := x_r.same (i := 0) rfl
    have i_r_1 := x_r.same (i := 1) rfl
    go_wp2
    refine ret_cell_tmp (by rfl) (by rfl) x_r Try.underlying27 sz_rights (by rfl) ?_
    rw [HM.out, HB.out]
    exact ⟨_, rfl, ov_rZ (Nat.le_refl _), B_w4⟩
  have HIi : Hid (decide (0 ≤ i ∧ i < tg (tOf r) 0) = true) := decide_eq_true (by rw [tOf_n]; exact hir)
  by_cases ha2 : amtB a = true
  case neg =>
    replace ha2 : amtB a = false := by simpa using ha2
    have HA := Lib.hid ha2
    have HB : Hid (spendB r i a = false) := by
      show _ = _
      unfold spendB mayB
      rw [ha2]; simp
    have HM : Hid (spendM r i a = rZ) := if_neg (by rw [HB.out]; decide)
    clear hf ha2
    go_enter Try.func24, Try.ntmps24
    go_wp2_with fail
    refine (iTallyOf_c (h0.from_ B0)).mono ?_
    rintro e w1 ⟨T, rfl, hT, hTe, h_w1⟩
    clear c_a_0_wa c_a_1_wa hwa
    replace x_r := x_r.from_ h_w1
    have B_w1 := B0.trans (h_w1.mono B0.size)
    have s_w1 := h_w1.size
    clear x_a
    rw [HF.out]
    obtain rfl := hTe HF.out
    clear hTe
    obtain ⟨w2, e_w2, s_w2, h_w2, x_t⟩ := alloc_step w1 57 [.int .i64 0, .int .i64 0, .int .i64 0, .int .i64 0, .int .i64 0, .int .i64 0, .int .i64 0, .int .i64 0, .int .i64 0, .int .i64 0, .int .i64 0, .int .i64 0, .int .i64 0, .int .i64 0, .int .i64 0, .int .i64 0, .int .i64 0, .int .i64 0, .int .i64 0, .int .i64 0, .int .i64 0]
    have s_w2_1 := Nat.le_of_eq s_w2
    have s_w2_2 := Nat.le_of_eq s_w2.symm
    clear s_w2
    replace x_r := x_r.from_ h_w2
    have B_w2 := B_w1.trans (h_w2.mono B_w1.size)
    go_wp2_with (first | refine wpl_tload x_t3 (tOf_len r) rfl rfl rfl ?_ | (refine wpl_tstore x_t rfl (tl_one (tOf r)) (by rw [tl_len]; exact hT) rfl rfl rfl rfl ?_; intro w3 x_t3 h_w3 s_w3))
    clear x_t e_w2
    replace x_r := x_r.chg h_w3 (by omega)
    have B_w3 := Below.chg_ B_w2 h_w3 (by omega) (by omega)
    refine (tHas_c (i := i) (tOf_len r) hi).mono ?_
    rintro e w4 ⟨rfl, h_w4⟩
    replace x_t3 := x_t3.from_ h_w4
    replace x_r := x_r.from_ h_w4
    have B_w4 := B_w3.trans (h_w4.mono B_w3.size)
    have s_w4 := h_w4.size
    rw [HIi.out]
    go_wp2_with fail
    refine (iAmt_any _ _).mono ?_
    rintro e w' ⟨rfl, rfl⟩
    rw [HA.out]
    have c_r_0_w4 := x_r.cell (i := 0) rfl
    have f_r_0_w4 := x_r.frozen 0
    have c_r_1_w4 := x_r.cell (i := 1) rfl
    have f_r_1_w4 := x_r.frozen 1
    have i_r_0 := x_r.same (i := 0) rfl
    have i_r_1 := x_r.same (i := 1) rfl
    go_wp2
    refine ret_cell_tmp (by rfl) (by rfl) x_r Try.underlying27 sz_rights (by rfl) ?_
    rw [HM.out, HB.out]
    exact ⟨_, rfl, ov_rZ (Nat.le_refl _), B_w4⟩
  have HA := Lib.hid ha2
  have hpa : 1 ≤ a ∧ a ≤ 1000000000 := inB_true.1 ha2
  obtain ⟨ni, rfl⟩ : ∃ n : Nat, i = (n : Int) := ⟨i.toNat, by omega⟩
  have i4i : (ni : Int) < 4 := by omega
  have k4i : ni < 4 := by omega
  have kli : ni < r.Give.length := by omega
  have q2n := p3 ni
  obtain ⟨y, hy⟩ : ∃ y, s1 r.Spent ni = y := ⟨_, rfl⟩
  rw [hy] at q2n
  obtain ⟨D, hD⟩ : ∃ D, addS r ni a = D := ⟨_, rfl⟩
  have hDe : (⟨r.Give, r.Spent.set ni (y + a)⟩ : MRights) = D := by rw [← hD, addS, setS, hy]
  have hSD : Shp D.Give.length D := by
    have h1 := Shp.setS (k := ni) (x := y + a) (form_shp hF)
    rw [hDe] at h1
    rw [h1.1]
    exact h1
  have hnD : 1 ≤ D.Give.length ∧ D.Give.length ≤ 4 := by rw [← hDe]; exact p1
  have HT2 : Hid ((tl (tOf r)).set (17 + ni) (.int .i64 (y + a)) = tl (tOf D)) := by show _ = _; rw [tl_set, tOf_setS (by omega) k4i, hDe]
  have HB : Hid (spendB r (ni : Int) a = rightsOkB D) := by
    show _ = _
    unfold spendB mayB
    rw [hf, show inB (ni : Int) 0 ((r.Give.length : Int) - 1) = true from inB_true.2 (by omega), ha2]
    simp only [Int.toNat_natCast, hD]
    simp
  have HM : Hid (spendM r (ni : Int) a = validM D) := by
    show _ = _
    unfold spendM validM
    rw [HB.out]
    simp only [Int.toNat_natCast, hD]
  have HY := Lib.hid hy
  have tw : IntKind.i64.wrap (y + a) = y + a := IntWalk.i64_in _ (by omega)
  clear hf ha2 hD hDe hy
  go_enter Try.func24, Try.ntmps24
  go_wp2_with fail
  refine (iTallyOf_c (h0.from_ B0)).mono ?_
  rintro e w1 ⟨T, rfl, hT, hTe, h_w1⟩
  clear c_a_0_wa c_a_1_wa hwa
  replace x_r := x_r.from_ h_w1
  have B_w1 := B0.trans (h_w1.mono B0.size)
  have s_w1 := h_w1.size
  clear x_a
  rw [HF.out]
  obtain rfl := hTe HF.out
  clear hTe
  obtain ⟨w2, e_w2, s_w2, h_w2, x_t⟩ := alloc_step w1 57 [.int .i64 0, .int .i64 0, .int .i64 0, .int .i64 0, .int .i64 0, .int .i64 0, .int .i64 0, .int .i64 0, .int .i64 0, .int .i64 0, .int .i64 0, .int .i64 0, .int .i64 0, .int .i64 0, .int .i64 0, .int .i64 0, .int .i64 0, .int .i64 0, .int .i64 0, .int .i64 0, .int .i64 0]
  have s_w2_1 := Nat.le_of_eq s_w2
  have s_w2_2 := Nat.le_of_eq s_w2.symm
  clear s_w2
  replace x_r := x_r.from_ h_w2
  have B_w2 := B_w1.trans (h_w2.mono B_w1.size)
  go_wp2_with (first | refine wpl_tload x_t3 (tOf_len r) rfl rfl rfl ?_ | (refine wpl_tstore x_t rfl (tl_one (tOf r)) (by rw [tl_len]; exact hT) rfl rfl rfl rfl ?_; intro w3 x_t3 h_w3 s_w3))
  clear x_t e_w2
  replace x_r := x_r.chg h_w3 (by omega)
  have B_w3 := Below.chg_ B_w2 h_w3 (by omega) (by omega)
  refine (tHas_c (i := (ni : Int)) (tOf_len r) hi).mono ?_
  rintro e w4 ⟨rfl, h_w4⟩
  replace x_t3 := x_t3.from_ h_w4
  replace x_r := x_r.from_ h_w4
  have B_w4 := B_w3.trans (h_w4.mono B_w3.size)
  have s_w4 := h_w4.size
  rw [HIi.out]
  go_wp2_with fail
  refine (iAmt_any _ _).mono ?_
  rintro e w' ⟨rfl, rfl⟩
  rw [HA.out]
  have c1 := x_t3.tsv k4i
  rw [HY.out] at c1
  have f1 := x_t3.frozen (17 + ni)
  obtain ⟨w7, hw7, s_w7, h_w7, x_t7⟩ := set_step x_t3 (17 + ni) (.int .i64 (y + a))
  have s_w7_1 := Nat.le_of_eq s_w7
  have s_w7_2 := Nat.le_of_eq s_w7.symm
  clear s_w7
  rw [HT2.out] at x_t7
  replace x_r := x_r.chg h_w7 (by omega)
  have B_w7 := Below.chg_ B_w4 h_w7 (by omega) (by omega)
  go_wp2_with (refine wpl_tload x_t7 (tOf_len D) rfl rfl rfl ?_)
  refine (tValid_c hSD hnD).mono ?_
  rintro e w8 ⟨u, rfl, ou, h_w8⟩
  replace x_r := x_r.from_ h_w8
  have B_w8 := B_w7.trans (h_w8.mono B_w7.size)
  have s_w8 := h_w8.size
  obtain ⟨AG2, cG2, AS2, cS2, rfl, -, -⟩ := rv_rights ou.rd
  have c_r_0_w8 := x_r.cell (i := 0) rfl
  have f_r_0_w8 := x_r.frozen 0
  have c_r_1_w8 := x_r.cell (i := 1) rfl
  have f_r_1_w8 := x_r.frozen 1
  obtain ⟨w9, e_w9, s_w9, h_w9, y⟩ := store_step x_r [.slice AG2 (validM D).Give.length cG2, .slice AS2 (validM D).Spent.length cS2] rfl
  replace e_w9 : ((w8.setCell ⟨w.heap.size + 1, 0, none⟩ (.slice AG2 (validM D).Give.length cG2)).setCell ⟨w.heap.size + 1, 1, none⟩ (.slice AS2 (validM D).Spent.length cS2)) = w9 := e_w9
  have s_w9_1 := Nat.le_of_eq s_w9
  have s_w9_2 := Nat.le_of_eq s_w9.symm
  clear s_w9
  have B_w9 := Below.chg_ B_w8 h_w9 (by omega) (by omega)
  replace ou := ou.chg h_w9 (by omega)
  replace x_r : Vr w9 (w.heap.size + 1) 27 [.slice AG2 (validM D).Give.length cG2, .slice AS2 (validM D).Spent.length cS2] := y
  clear y
  have c_r_0_w9 := x_r.cell (i := 0) rfl
  have f_r_0_w9 := x_r.frozen 0
  have c_r_1_w9 := x_r.cell (i := 1) rfl
  have f_r_1_w9 := x_r.frozen 1
  go_wp2
  refine ret_cell_tmp (by rfl) (by rfl) x_r Try.underlying27 sz_rights (by rfl) ?_
  rw [HM.out, HB.out]
  exact ⟨_, rfl, ou.widen (by omega) (by omega) (Nat.le_refl _), B_w9⟩

end Go.Proofs.Ytmbipgnecjlicaa

namespace Go.Proofs.Ytmbipgnecjlicaa
open Go.RowKit
set_option linter.unusedVariables false

set_option maxRecDepth 100000 in
set_option maxHeartbeats 4000000 in
theorem iHand_c {w : World} {v : Value} {r : MRights} {i j a : Int} (h : RV rightsL w v r) (hm : r.bulk ≤ 16777216) (hi : -9223372036854775808 ≤ i ∧ i ≤ 9223372036854775807) (hj : -9223372036854775808 ≤ j ∧ j ≤ 9223372036854775807) (ha : -9223372036854775808 ≤ a ∧ a ≤ 9223372036854775807) :
    Calls Try.prog 23 #[v, .int .i64 i, .int .i64 j, .int .i64 a] w (NewVB rightsL w (handM r i j a) (handB r i j a)) := by
  have h0 := h
  obtain ⟨AG, cG, AS, cS, rfl, hrG, hrS, lG, lS⟩ := rv_rights2 h
  clear h
  obtain ⟨wa, hwa, B0, sa, x_a, x_r⟩ := frame2 w 27 [.slice AG r.Give.length cG, .slice AS r.Spent.length cS] 27 [.slice none 0 0, .slice none 0 0]
  have sa_1 := Nat.le_of_eq sa
  have sa_2 := Nat.le_of_eq sa.symm
  clear sa
  have c_a_0_wa := x_a.cell (i := 0) rfl
  have c_a_1_wa := x_a.cell (i := 1) rfl
  by_cases hf : rightsOkB r = true
  case neg =>
    replace hf : rightsOkB r = false := by simpa using hf
    have HB : Hid (handB r i j a = false) := by
      show _ = _
      unfold handB mayB
      rw [hf]; simp
    have HM : Hid (handM r i j a = rZ) := if_neg (by rw [HB.out]; decide)
    have HF := Lib.hid hf
    clear hf
    go_enter Try.func23, Try.ntmps23
    go_wp2_with fail
    refine (iTallyOf_c (h0.from_ B0)).mono ?_
    rintro e w1 ⟨T, rfl, hT, hTe, h_w1⟩
    clear c_a_0_wa c_a_1_wa hwa
    replace x_r := x_r.from_ h_w1
    have B_w1 := B0.trans (h_w1.mono B0.size)
    have s_w1 := h_w1.size
    clear x_a
    rw [HF.out]
    clear hTe
    obtain ⟨w2, e_w2, s_w2, h_w2, x_t⟩ := alloc_step w1 57 [.int .i64 0, .int .i64 0, .int .i64 0, .int .i64 0, .int .i64 0, .int .i64 0, .int .i64 0, .int .i64 0, .int .i64 0, .int .i64 0, .int .i64 0, .int .i64 0, .int .i64 0, .int .i64 0, .int .i64 0, .int .i64 0, .int .i64 0, .int .i64 0, .int .i64 0, .int .i64 0, .int .i64 0]
    have s_w2_1 := Nat.le_of_eq s_w2
    have s_w2_2 := Nat.le_of_eq s_w2.symm
    clear s_w2
    replace x_r := x_r.from_ h_w2
    have B_w2 := B_w1.trans (h_w2.mono B_w1.size)
    go_wp2_with (refine wpl_tstore x_t rfl (tl_one T) (by rw [tl_len]; exact hT) rfl rfl rfl rfl ?_; intro w3 x_t3 h_w3 s_w3; have c_r_0_w3 := (x_r.chg h_w3 (by omega)).cell (i := 0) rfl; have f_r_0_w3 := (x_r.chg h_w3 (by omega)).frozen 0; have c_r_1_w3 := (x_r.chg h_w3 (by omega)).cell (i := 1) rfl; have f_r_1_w3 := (x_r.chg h_w3 (by omega)).frozen 1; have i_r_0 := (x_r.chg h_w3 (by omega)).same (i := 0) rfl; have i_r_1 := (x_r.chg h_w3 (by omega)).same (i := 1) rfl)
    clear x_t e_w2
    replace x_r := x_r.chg h_w3 (by omega)
    have B_w3 := Below.chg_ B_w2 h_w3 (by omega) (by omega)
    refine ret_cell_tmp (by rfl) (by rfl) x_r Try.underlying27 sz_rights (by rfl) ?_
    rw [HM.out, HB.out]
    exact ⟨_, rfl, ov_rZ (Nat.le_refl _), B_w3⟩
  have HF := Lib.hid hf
  have hF := ok_form hf
  obtain ⟨p1, p2, p3⟩ := form_parts hF
  by_cases hir : 0 ≤ i ∧ i < (r.Give.length : Int)
  case neg =>
    have HIi : Hid (decide (0 ≤ i ∧ i < tg (tOf r) 0) = false) := decide_eq_false (by rw [tOf_n]; exact hir)
    have HB : Hid (handB r i j a = false) := by
      show _ = _
      unfold handB mayB
      rw [show inB i 0 ((r.Give.length : Int) - 1) = false from inB_false.2 (by omega)]; simp
    have HM : Hid (handM r i j a = rZ) := if_neg (by rw [HB.out]; decide)
    clear hf
    go_enter Try.func23, Try.ntmps23
    go_wp2_with fail
    refine (iTallyOf_c (h0.from_ B0)).mono ?_
    rintro e w1 ⟨T, rfl, hT, hTe, h_w1⟩
    clear c_a_0_wa c_a_1_wa hwa
    replace x_r := x_r.from_ h_w1
    have B_w1 := B0.trans (h_w1.mono B0.size)
    have s_w1 := h_w1.size
    clear x_a
    rw [HF.out]
    obtain rfl := hTe HF.out
    clear hTe
    obtain ⟨w2, e_w2, s_w2, h_w2, x_t⟩ := alloc_step w1 57 [.int .i64 0, .int .i64 0, .int .i64 0, .int .i64 0, .int .i64 0, .int .i64 0, .int .i64 0, .int .i64 0, .int .i64 0, .int .i64 0, .int .i64 0, .int .i64 0, .int .i64 0, .int .i64 0, .int .i64 0, .int .i64 0, .int .i64 0, .int .i64 0, .int .i64 0, .int .i64 0, .int .i64 0]
    have s_w2_1 := Nat.le_of_eq s_w2
    have s_w2_2 := Nat.le_of_eq s_w2.symm
    clear s_w2
    replace x_r := x_r.from_ h_w2
    have B_w2 := B_w1.trans (h_w2.mono B_w1.size)
    go_wp2_with (first | refine wpl_tload x_t3 (tOf_len r) rfl rfl rfl ?_ | (refine wpl_tstore x_t rfl (tl_one (tOf r)) (by rw [tl_len]; exact hT) rfl rfl rfl rfl ?_; intro w3 x_t3 h_w3 s_w3))
    clear x_t e_w2
    replace x_r := x_r.chg h_w3 (by omega)
    have B_w3 := Below.chg_ B_w2 h_w3 (by omega) (by omega)
    refine (tHas_c (i := i) (tOf_len r) hi).mono ?_
    rintro e w4 ⟨rfl, h_w4⟩
    replace x_t3 := x_t3.from_ h_w4
    replace x_r := x_r.from_ h_w4
    have B_w4 := B_w3.trans (h_w4.mono B_w3.size)
    have s_w4 := h_w4.size
    rw [HIi.out]
    have c_r_0_w4 := x_r.cell (i := 0) rfl
    have f_r_0_w4 := x_r.frozen 0
    have c_r_1_w4 := x_r.cell (i := 1) rfl
    have f_r_1_w4 := x_r.frozen 1
    have i_r_0 := x_r.same (i := 0) rfl
    have i_r_1 := x_r.same (i := 1) rfl
    go_wp2
    refine ret_cell_tmp (by rfl) (by rfl) x_r Try.underlying27 sz_rights (by rfl) ?_
    rw [HM.out, HB.out]
    exact ⟨_, rfl, ov_rZ (Nat.le_refl _), B_w4⟩
  have HIi : Hid (decide (0 ≤ i ∧ i < tg (tOf r) 0) = true) := decide_eq_true (by rw [tOf_n]; exact hir)
  by_cases hjr : 0 ≤ j ∧ j < (r.Give.length : Int)
  case neg =>
    have HIj : Hid (decide (0 ≤ j ∧ j < tg (tOf r) 0) = false) := decide_eq_false (by rw [tOf_n]; exact hjr)
    have HB : Hid (handB r i j a = false) := by
      show _ = _
      unfold handB mayB
      rw [show inB j 0 ((r.Give.length : Int) - 1) = false from inB_false.2 (by omega)]; simp
    have HM : Hid (handM r i j a = rZ) := if_neg (by rw [HB.out]; decide)
    clear hf
    go_enter Try.func23, Try.ntmps23
    go_wp2_with fail
    refine (iTallyOf_c (h0.from_ B0)).mono ?_
    rintro e w1 ⟨T, rfl, hT, hTe, h_w1⟩
    clear c_a_0_wa c_a_1_wa hwa
    replace x_r := x_r.from_ h_w1
    have B_w1 := B0.trans (h_w1.mono B0.size)
    have s_w1 := h_w1.size
    clear x_a
    rw [HF.out]
    obtain rfl := hTe HF.out
    clear hTe
    obtain ⟨w2, e_w2, s_w2, h_w2, x_t⟩ := alloc_step w1 57 [.int .i64 0, .int .i64 0, .int .i64 0, .int .i64 0, .int .i64 0, .int .i64 0, .int .i64 0, .int .i64 0, .int .i64 0, .int .i64 0, .int .i64 0, .int .i64 0, .int .i64 0, .int .i64 0, .int .i64 0, .int .i64 0, .int .i64 0, .int .i64 0, .int .i64 0, .int .i64 0, .int .i64 0]
    have s_w2_1 := Nat.le_of_eq s_w2
    have s_w2_2 := Nat.le_of_eq s_w2.symm
    clear s_w2
    replace x_r := x_r.from_ h_w2
    have B_w2 := B_w1.trans (h_w2.mono B_w1.size)
    go_wp2_with (first | refine wpl_tload x_t3 (tOf_len r) rfl rfl rfl ?_ | (refine wpl_tstore x_t rfl (tl_one (tOf r)) (by rw [tl_len]; exact hT) rfl rfl rfl rfl ?_; intro w3 x_t3 h_w3 s_w3))
    clear x_t e_w2
    replace x_r := x_r.chg h_w3 (by omega)
    have B_w3 := Below.chg_ B_w2 h_w3 (by omega) (by omega)
    refine (tHas_c (i := i) (tOf_len r) hi).mono ?_
    rintro e w4 ⟨rfl, h_w4⟩
    replace x_t3 := x_t3.from_ h_w4
    replace x_r := x_r.from_ h_w4
    have B_w4 := B_w3.trans (h_w4.mono B_w3.size)
    have s_w4 := h_w4.size
    rw [HIi.out]
    go_wp2_with (refine wpl_tload x_t3 (tOf_len r) rfl rfl rfl ?_)
    refine (tHas_c (i := j) (tOf_len r) hj).mono ?_
    rintro e w5 ⟨rfl, h_w5⟩
    replace x_t3 := x_t3.from_ h_w5
    replace x_r := x_r.from_ h_w5
    have B_w5 := B_w4.trans (h_w5.mono B_w4.size)
    have s_w5 := h_w5.size
    rw [HIj.out]
    have c_r_0_w5 := x_r.cell (i := 0) rfl
    have f_r_0_w5 := x_r.frozen 0
    have c_r_1_w5 := x_r.cell (i := 1) rfl
    have f_r_1_w5 := x_r.frozen 1
    have i_r_0 := x_r.same (i := 0) rfl
    have i_r_1 := x_r.same (i := 1) rfl
    go_wp2
    refine ret_cell_tmp (by rfl) (by rfl) x_r Try.underlying27 sz_rights (by rfl) ?_
    rw [HM.out, HB.out]
    exact ⟨_, rfl, ov_rZ (Nat.le_refl _), B_w5⟩
  have HIj : Hid (decide (0 ≤ j ∧ j < tg (tOf r) 0) = true) := decide_eq_true (by rw [tOf_n]; exact hjr)
  by_cases hij : i = j
  case pos =>
    have HB : Hid (handB r i j a = false) := by
      show _ = _
      unfold handB mayB
      rw [decide_eq_true hij]; simp
    have HM : Hid (handM r i j a = rZ) := if_neg (by rw [HB.out]; decide)
    have t0 : (i == j) = true := by simpa using hij
    clear hf hij
    go_enter Try.func23, Try.ntmps23
    go_wp2_with fail
    refine (iTallyOf_c (h0.from_ B0)).mono ?_
    rintro e w1 ⟨T, rfl, hT, hTe, h_w1⟩
    clear c_a_0_wa c_a_1_wa hwa
    replace x_r := x_r.from_ h_w1
    have B_w1 := B0.trans (h_w1.mono B0.size)
    have s_w1 := h_w1.size
    clear x_a
    rw [HF.out]
    obtain rfl := hTe HF.out
    clear hTe
    obtain ⟨w2, e_w2, s_w2, h_w2, x_t⟩ := alloc_step w1 57 [.int .i64 0, .int .i64 0, .int .i64 0, .int .i64 0, .int .i64 0, .int .i64 0, .int .i64 0, .int .i64 0, .int .i64 0, .int .i64 0, .int .i64 0, .int .i64 0, .int .i64 0, .int .i64 0, .int .i64 0, .int .i64 0, .int .i64 0, .int .i64 0, .int .i64 0, .int .i64 0, .int .i64 0]
    have s_w2_1 := Nat.le_of_eq s_w2
    have s_w2_2 := Nat.le_of_eq s_w2.symm
    clear s_w2
    replace x_r := x_r.from_ h_w2
    have B_w2 := B_w1.trans (h_w2.mono B_w1.size)
    go_wp2_with (first | refine wpl_tload x_t3 (tOf_len r) rfl rfl rfl ?_ | (refine wpl_tstore x_t rfl (tl_one (tOf r)) (by rw [tl_len]; exact hT) rfl rfl rfl rfl ?_; intro w3 x_t3 h_w3 s_w3))
    clear x_t e_w2
    replace x_r := x_r.chg h_w3 (by omega)
    have B_w3 := Below.chg_ B_w2 h_w3 (by omega) (by omega)
    refine (tHas_c (i := i) (tOf_len r) hi).mono ?_
    rintro e w4 ⟨rfl, h_w4⟩
    replace x_t3 := x_t3.from_ h_w4
    replace x_r := x_r.from_ h_w4
    have B_w4 := B_w3.trans (h_w4.mono B_w3.size)
    have s_w4 := h_w4.size
    rw [HIi.out]
    go_wp2_with (refine wpl_tload x_t3 (tOf_len r) rfl rfl rfl ?_)
    refine (tHas_c (i := j) (tOf_len r) hj).mono ?_
    rintro e w5 ⟨rfl, h_w5⟩
    replace x_t3 := x_t3.from_ h_w5
    replace x_r := x_r.from_ h_w5
    have B_w5 := B_w4.trans (h_w5.mono B_w4.size)
    have s_w5 := h_w5.size
    rw [HIj.out]
    have c_r_0_w5 := x_r.cell (i := 0) rfl
    have f_r_0_w5 := x_r.frozen 0
    have c_r_1_w5 := x_r.cell (i := 1) rfl
    have f_r_1_w5 := x_r.frozen 1
    have i_r_0 := x_r.same (i := 0) rfl
    have i_r_1 := x_r.same (i := 1) rfl
    go_wp2
    refine ret_cell_tmp (by rfl) (by rfl) x_r Try.underlying27 sz_rights (by rfl) ?_
    rw [HM.out, HB.out]
    exact ⟨_, rfl, ov_rZ (Nat.le_refl _), B_w5⟩
  have t0 : (i == j) = false := by simpa using hij
  have t1 : decide (i = j) = false := decide_eq_false hij
  by_cases ha2 : amtB a = true
  case neg =>
    replace ha2 : amtB a = false := by simpa using ha2
    have HA := Lib.hid ha2
    have HB : Hid (handB r i j a = false) := by
      show _ = _
      unfold handB mayB
      rw [ha2]; simp
    have HM : Hid (handM r i j a = rZ) := if_neg (by rw [HB.out]; decide)
    clear hf ha2
    go_enter Try.func23, Try.ntmps23
    go_wp2_with fail
    refine (iTallyOf_c (h0.from_ B0)).mono ?_
    rintro e w1 ⟨T, rfl, hT, hTe, h_w1⟩
    clear c_a_0_wa c_a_1_wa hwa
    replace x_r := x_r.from_ h_w1
    have B_w1 := B0.trans (h_w1.mono B0.size)
    have s_w1 := h_w1.size
    clear x_a
    rw [HF.out]
    obtain rfl := hTe HF.out
    clear hTe
    obtain ⟨w2, e_w2, s_w2, h_w2, x_t⟩ := alloc_step w1 57 [.int .i64 0, .int .i64 0, .int .i64 0, .int .i64 0, .int .i64 0, .int .i64 0, .int .i64 0, .int .i64 0, .int .i64 0, .int .i64 0, .int .i64 0, .int .i64 0, .int .i64 0, .int .i64 0, .int .i64 0, .int .i64 0, .int .i64 0, .int .i64 0, .int .i64 0, .int .i64 0, .int .i64 0]
    have s_w2_1 := Nat.le_of_eq s_w2
    have s_w2_2 := Nat.le_of_eq s_w2.symm
    clear s_w2
    replace x_r := x_r.from_ h_w2
    have B_w2 := B_w1.trans (h_w2.mono B_w1.size)
    go_wp2_with (first | refine wpl_tload x_t3 (tOf_len r) rfl rfl rfl ?_ | (refine wpl_tstore x_t rfl (tl_one (tOf r)) (by rw [tl_len]; exact hT) rfl rfl rfl rfl ?_; intro w3 x_t3 h_w3 s_w3))
    clear x_t e_w2
    replace x_r := x_r.chg h_w3 (by omega)
    have B_w3 := Below.chg_ B_w2 h_w3 (by omega) (by omega)
    refine (tHas_c (i := i) (tOf_len r) hi).mono ?_
    rintro e w4 ⟨rfl, h_w4⟩
    replace x_t3 := x_t3.from_ h_w4
    replace x_r := x_r.from_ h_w4
    have B_w4 := B_w3.trans (h_w4.mono B_w3.size)
    have s_w4 := h_w4.size
    rw [HIi.out]
    go_wp2_with (refine wpl_tload x_t3 (tOf_len r) rfl rfl rfl ?_)
    refine (tHas_c (i := j) (tOf_len r) hj).mono ?_
    rintro e w5 ⟨rfl, h_w5⟩
    replace x_t3 := x_t3.from_ h_w5
    replace x_r := x_r.from_ h_w5
    have B_w5 := B_w4.trans (h_w5.mono B_w4.size)
    have s_w5 := h_w5.size
    rw [HIj.out]
    go_wp2_with fail
    refine (iAmt_any _ _).mono ?_
    rintro e w' ⟨rfl, rfl⟩
    rw [HA.out]
    have c_r_0_w5 := x_r.cell (i := 0) rfl
    have f_r_0_w5 := x_r.frozen 0
    have c_r_1_w5 := x_r.cell (i := 1) rfl
    have f_r_1_w5 := x_r.frozen 1
    have i_r_0 := x_r.same (i := 0) rfl
    have i_r_1 := x_r.same (i := 1) rfl
    go_wp2
    refine ret_cell_tmp (by rfl) (by rfl) x_r Try.underlying27 sz_rights (by rfl) ?_
    rw [HM.out, HB.out]
    exact ⟨_, rfl, ov_rZ (Nat.le_refl _), B_w5⟩
  have HA := Lib.hid ha2
  have hpa : 1 ≤ a ∧ a ≤ 1000000000 := inB_true.1 ha2
  obtain ⟨ni, rfl⟩ : ∃ n : Nat, i = (n : Int) := ⟨i.toNat, by omega⟩
  have i4i : (ni : Int) < 4 := by omega
  have k4i : ni < 4 := by omega
  have kli : ni < r.Give.length := by omega
  obtain ⟨nj, rfl⟩ : ∃ n : Nat, j = (n : Int) := ⟨j.toNat, by omega⟩
  have i4j : (nj : Int) < 4 := by omega
  have k4j : nj < 4 := by omega
  have klj : nj < r.Give.length := by omega
  obtain ⟨Rw, hR⟩ := get_of_lt kli
  obtain ⟨q1, q2⟩ := form_row hF hR
  have q2n := q2 nj
  obtain ⟨y, hy⟩ : ∃ y, g2 r.Give ni nj = y := ⟨_, rfl⟩
  rw [← g2_of hR nj, hy] at q2n
  obtain ⟨D, hD⟩ : ∃ D, addG r ni nj a = D := ⟨_, rfl⟩
  have hDe : (⟨r.Give.set ni (Rw.set nj (y + a)), r.Spent⟩ : MRights) = D := by
    rw [← hD, addG, setG, hy]
    rw [show r.Give.getD ni [] = Rw by rw [List.getD_eq_getElem?_getD, hR]; rfl]
  have hSD : Shp D.Give.length D := by
    have h1 := Shp.setG (j := nj) (x := y + a) (form_shp hF) hR
    rw [hDe] at h1
    rw [h1.1]
    exact h1
  have hnD : 1 ≤ D.Give.length ∧ D.Give.length ≤ 4 := by rw [← hDe]; simpa using p1
  have HT2 : Hid ((tl (tOf r)).set (1 + ni * 4 + nj) (.int .i64 (y + a)) = tl (tOf D)) := by show _ = _; rw [tl_set, tOf_setG hR (by omega) k4i k4j, hDe]
  have HB : Hid (handB r (ni : Int) (nj : Int) a = rightsOkB D) := by
    show _ = _
    unfold handB mayB
    rw [hf, show inB (ni : Int) 0 ((r.Give.length : Int) - 1) = true from inB_true.2 (by omega), show inB (nj : Int) 0 ((r.Give.length : Int) - 1) = true from inB_true.2 (by omega), t1, ha2]
    simp only [Int.toNat_natCast, hD]
    simp
  have HM : Hid (handM r (ni : Int) (nj : Int) a = validM D) := by
    show _ = _
    unfold handM validM
    rw [HB.out]
    simp only [Int.toNat_natCast, hD]
  have HY := Lib.hid hy
  have tw : IntKind.i64.wrap (y + a) = y + a := IntWalk.i64_in _ (by omega)
  clear hf ha2 hD hDe hy
  clear hR q2
  go_enter Try.func23, Try.ntmps23
  go_wp2_with fail
  refine (iTallyOf_c (h0.from_ B0)).mono ?_
  rintro e w1 ⟨T, rfl, hT, hTe, h_w1⟩
  clear c_a_0_wa c_a_1_wa hwa
  replace x_r := x_r.from_ h_w1
  have B_w1 := B0.trans (h_w1.mono B0.size)
  have s_w1 := h_w1.size
  clear x_a
  rw [HF.out]
  obtain rfl := hTe HF.out
  clear hTe
  obtain ⟨w2, e_w2, s_w2, h_w2, x_t⟩ := alloc_step w1 57 [.int .i64 0, .int .i64 0, .int .i64 0, .int .i64 0, .int .i64 0, .int .i64 0, .int .i64 0, .int .i64 0, .int .i64 0, .int .i64 0, .int .i64 0, .int .i64 0, .int .i64 0, .int .i64 0, .int .i64 0, .int .i64 0, .int .i64 0, .int .i64 0, .int .i64 0, .int .i64 0, .int .i64 0]
  have s_w2_1 := Nat.le_of_eq s_w2
  have s_w2_2 := Nat.le_of_eq s_w2.symm
  clear s_w2
  replace x_r := x_r.from_ h_w2
  have B_w2 := B_w1.trans (h_w2.mono B_w1.size)
  go_wp2_with (first | refine wpl_tload x_t3 (tOf_len r) rfl rfl rfl ?_ | (refine wpl_tstore x_t rfl (tl_one (tOf r)) (by rw [tl_len]; exact hT) rfl rfl rfl rfl ?_; intro w3 x_t3 h_w3 s_w3))
  clear x_t e_w2
  replace x_r := x_r.chg h_w3 (by omega)
  have B_w3 := Below.chg_ B_w2 h_w3 (by omega) (by omega)
  refine (tHas_c (i := (ni : Int)) (tOf_len r) hi).mono ?_
  rintro e w4 ⟨rfl, h_w4⟩
  replace x_t3 := x_t3.from_ h_w4
  replace x_r := x_r.from_ h_w4
  have B_w4 := B_w3.trans (h_w4.mono B_w3.size)
  have s_w4 := h_w4.size
  rw [HIi.out]
  go_wp2_with (refine wpl_tload x_t3 (tOf_len r) rfl rfl rfl ?_)
  refine (tHas_c (i := (nj : Int)) (tOf_len r) hj).mono ?_
  rintro e w5 ⟨rfl, h_w5⟩
  replace x_t3 := x_t3.from_ h_w5
  replace x_r := x_r.from_ h_w5
  have B_w5 := B_w4.trans (h_w5.mono B_w4.size)
  have s_w5 := h_w5.size
  rw [HIj.out]
  go_wp2_with fail
  refine (iAmt_any _ _).mono ?_
  rintro e w' ⟨rfl, rfl⟩
  rw [HA.out]
  go_wp2_with fail
  obtain ⟨wd, hwd⟩ : ∃ x, ({ heap := w5.heap, tape := w5.tape, drawn := w5.drawn + 1, os := w5.os, output := w5.output } : World) = x := ⟨_, rfl⟩
  have hbd : Below w5.heap.size w5 wd := by rw [← hwd]; exact (Below.refl w5.heap.size w5).drew
  replace x_t3 := x_t3.from_ hbd
  replace x_r := x_r.from_ hbd
  have B_wd := B_w5.trans (hbd.mono B_w5.size)
  have s_wd := hbd.size
  have c1 := x_t3.tgv k4i k4j
  rw [HY.out] at c1
  have f1 := x_t3.frozen (1 + ni * 4 + nj)
  obtain ⟨w7, hw7, s_w7, h_w7, x_t7⟩ := set_step x_t3 (1 + ni * 4 + nj) (.int .i64 (y + a))
  have s_w7_1 := Nat.le_of_eq s_w7
  have s_w7_2 := Nat.le_of_eq s_w7.symm
  clear s_w7
  rw [HT2.out] at x_t7
  replace x_r := x_r.chg h_w7 (by omega)
  have B_w7 := Below.chg_ B_wd h_w7 (by omega) (by omega)
  refine wp_region_still_tail 11 (by kernel_rfl) (by kernel_rfl) ?_
  rw [hwd]
  simp only [List.take_succ_cons, List.take_zero, List.drop_succ_cons, List.drop_zero]
  repeat still_step
  refine wpStill_nil ?_
  go_wp2_with (refine wpl_tload x_t7 (tOf_len D) rfl rfl rfl ?_)
  refine (tValid_c hSD hnD).mono ?_
  rintro e w8 ⟨u, rfl, ou, h_w8⟩
  replace x_r := x_r.from_ h_w8
  have B_w8 := B_w7.trans (h_w8.mono B_w7.size)
  have s_w8 := h_w8.size
  obtain ⟨AG2, cG2, AS2, cS2, rfl, -, -⟩ := rv_rights ou.rd
  have c_r_0_w8 := x_r.cell (i := 0) rfl
  have f_r_0_w8 := x_r.frozen 0
  have c_r_1_w8 := x_r.cell (i := 1) rfl
  have f_r_1_w8 := x_r.frozen 1
  obtain ⟨w9, e_w9, s_w9, h_w9, y⟩ := store_step x_r [.slice AG2 (validM D).Give.length cG2, .slice AS2 (validM D).Spent.length cS2] rfl
  replace e_w9 : ((w8.setCell ⟨w.heap.size + 1, 0, none⟩ (.slice AG2 (validM D).Give.length cG2)).setCell ⟨w.heap.size + 1, 1, none⟩ (.slice AS2 (validM D).Spent.length cS2)) = w9 := e_w9
  have s_w9_1 := Nat.le_of_eq s_w9
  have s_w9_2 := Nat.le_of_eq s_w9.symm
  clear s_w9
  have B_w9 := Below.chg_ B_w8 h_w9 (by omega) (by omega)
  replace ou := ou.chg h_w9 (by omega)
  replace x_r : Vr w9 (w.heap.size + 1) 27 [.slice AG2 (validM D).Give.length cG2, .slice AS2 (validM D).Spent.length cS2] := y
  clear y
  have c_r_0_w9 := x_r.cell (i := 0) rfl
  have f_r_0_w9 := x_r.frozen 0
  have c_r_1_w9 := x_r.cell (i := 1) rfl
  have f_r_1_w9 := x_r.frozen 1
  go_wp2
  refine ret_cell_tmp (by rfl) (by rfl) x_r Try.underlying27 sz_rights (by rfl) ?_
  rw [HM.out, HB.out]
  exact ⟨_, rfl, ou.widen (by omega) (by omega) (Nat.le_refl _), B_w9⟩

end Go.Proofs.Ytmbipgnecjlicaa
