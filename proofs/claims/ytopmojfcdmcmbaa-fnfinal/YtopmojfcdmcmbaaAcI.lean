/- An account at a node: the contracts of slices.Contains at ints, of impl.AcctNew, AcctMark, AcctRep. Laid by a program of ours (src/ac10.py). -/
import Derived.Test.YtopmojfcdmcmbaaAc9
import Derived.Test.YtopmojfcdmcmbaaAc6
namespace Go.Proofs.Ytopmojfcdmcmbaa
open Go.RowKit
set_option linter.unusedVariables false

set_option maxHeartbeats 1000000 in
theorem iIndexI_c {w : World} {v : Value} {l : List Int} {x : Int} (h : RS .i64 w v l) : Calls Try.prog 75 #[v, .int .i64 x] w fun e w' => (∃ z : Int, e = .returned (.int .i64 z) ∧ decide (0 ≤ z) = hasI l x) ∧ w = w' := by
  obtain ⟨A, c, rfl, h1, h2, hr⟩ := h
  unfold maxLen at h2
  go_enter Try.func75, Try.ntmps75
  go_wp2
  go_loop [5, 8] (fun _ s8 => ∃ k : Nat, k ≤ l.length ∧ s8 = .int .i64 k ∧ Hid (∀ i, i < k → l.getD i 0 ≠ x)) (fun _ s8 => l.length - (intOf s8).toNat)
  case atStart => exact ⟨0, Nat.zero_le _, rfl, fun i hi => by omega⟩
  case round =>
    obtain ⟨k, hk, rfl, HT⟩ := hrel
    by_cases hlt : k < l.length
    case neg =>
      have hk2 : ¬ ((k : Int) < (l.length : Int)) := by omega
      have HO : Hid (hasI l x = false) := by
        show _ = _
        cases hc : hasI l x
        · rfl
        · obtain ⟨i, hi, e⟩ := hasI_get.1 hc
          exact absurd e (HT.out i (by omega))
      go_wp2
      go_ret
      exact ⟨⟨-1, rfl, by rw [HO.out]; rfl⟩, rfl⟩
    obtain ⟨y, hye⟩ := get_of_lt hlt
    obtain ⟨b, off, rfl, hb, e0⟩ := rd_at hr hlt
    have hg : l.getD k 0 = y := by rw [List.getD_eq_getElem?_getD, hye]; rfl
    rw [hg] at e0
    have i1 : (k : Int) < (l.length : Int) := by omega
    by_cases hy : x = y
    case neg =>
      have t0 : (x == y) = false := by simpa using hy
      have H2 : Hid (∀ i, i < k + 1 → l.getD i 0 ≠ x) := fun i hi => by
        by_cases e : i = k
        · rw [e, hg]; exact fun e2 => hy e2.symm
        · exact HT.out i (by omega)
      clear hy hye hg
      go_wp2
      go_round
      case rel => exact ⟨k + 1, by omega, by go_num, H2⟩
      case measure => simp [intOf]; omega
    have t0 : (x == y) = true := by simpa using hy
    have HO : Hid (hasI l x = true) := hasI_get.2 ⟨k, hlt, by rw [hg, hy]⟩
    clear hy hye hg
    go_wp2
    go_ret
    exact ⟨⟨k, rfl, by rw [HO.out]; exact decide_eq_true (by omega)⟩, rfl⟩

theorem iContainsI_c {w : World} {v : Value} {l : List Int} {x : Int} (h : RS .i64 w v l) : Calls Try.prog 46 #[v, .int .i64 x] w fun e w' => e = .returned (.bool (hasI l x)) ∧ w = w' := by
  have h0 := h
  obtain ⟨A, c, rfl, h1, h2, hr⟩ := h
  go_enter Try.func46, Try.ntmps46
  go_wp2_with fail
  refine (iIndexI_c h0).mono ?_
  rintro e w' ⟨⟨z, rfl, hz⟩, rfl⟩
  have HZ := Lib.hid hz
  clear hz
  go_wp2
  go_ret
  exact ⟨ret_eq (by rw [← HZ.out]; rfl), rfl⟩

theorem iAcctNew_c {w : World} : Calls Try.prog 15 #[] w (NewV acctL w acctZ) := by
  obtain ⟨wa, hwa, B0, sa, x_r⟩ := frame1 w 27 [.int .i64 0, .int .i64 0, .int .i64 0, .slice none 0 0, .slice none 0 0]
  have sa_1 := Nat.le_of_eq sa
  have sa_2 := Nat.le_of_eq sa.symm
  clear sa
  have c_r_0_wa := x_r.cell (i := 0) rfl
  have f_r_0_wa := x_r.frozen 0
  have c_r_1_wa := x_r.cell (i := 1) rfl
  have f_r_1_wa := x_r.frozen 1
  have c_r_2_wa := x_r.cell (i := 2) rfl
  have f_r_2_wa := x_r.frozen 2
  have c_r_3_wa := x_r.cell (i := 3) rfl
  have f_r_3_wa := x_r.frozen 3
  have c_r_4_wa := x_r.cell (i := 4) rfl
  have f_r_4_wa := x_r.frozen 4
  go_enter Try.func15, Try.ntmps15
  have i_r_0 := x_r.same (i := 0) rfl
  have i_r_1 := x_r.same (i := 1) rfl
  have i_r_2 := x_r.same (i := 2) rfl
  have i_r_3 := x_r.same (i := 3) rfl
  have i_r_4 := x_r.same (i := 4) rfl
  go_wp2
  refine ret_cell (by rfl) (by rfl) x_r Try.underlying27 sz_acct (by rfl) ?_
  exact ⟨_, rfl, (ov_acctZ (Nat.le_refl _)).widen B0.size (Nat.le_refl _) (Nat.le_refl _), B0⟩

set_option maxRecDepth 100000 in
set_option maxHeartbeats 4000000 in
theorem iAcctMark_c {w : World} {v : Value} {a : MAcct} {x : Int} (h : RV acctL w v a) (hm : a.bulk ≤ 16777216) : Calls Try.prog 21 #[v, .int .i64 x] w (NewVB acctL w (acctMark a x) (acctMarkB a x)) := by
  have h0 := h
  obtain ⟨AM, cM, AR, cR, rfl, rM, rR⟩ := rv_acct h
  clear h
  have hbR : a.Reps.length ≤ 16777216 := by unfold MAcct.bulk at hm; omega
  have hbM : a.Marks.length ≤ 16777216 := by unfold MAcct.bulk at hm; omega
  obtain ⟨wa, hwa, B0, sa, x_a, x_f, x_r⟩ := frame3 w 27 [.int .i64 a.Have, .int .i64 a.State, .int .i64 a.By, .slice AM a.Marks.length cM, .slice AR a.Reps.length cR] 3 [.int .i64 x] 27 [.int .i64 0, .int .i64 0, .int .i64 0, .slice none 0 0, .slice none 0 0]
  have sa_1 := Nat.le_of_eq sa
  have sa_2 := Nat.le_of_eq sa.symm
  clear sa
  have c_a_0_wa := x_a.cell (i := 0) rfl
  have f_a_0_wa := x_a.frozen 0
  have c_a_1_wa := x_a.cell (i := 1) rfl
  have f_a_1_wa := x_a.frozen 1
  have c_a_2_wa := x_a.cell (i := 2) rfl
  have f_a_2_wa := x_a.frozen 2
  have c_a_3_wa := x_a.cell (i := 3) rfl
  have f_a_3_wa := x_a.frozen 3
  have c_a_4_wa := x_a.cell (i := 4) rfl
  have f_a_4_wa := x_a.frozen 4
  have c_f_0_wa := x_f.cell (i := 0) rfl
  have f_f_0_wa := x_f.frozen 0
  have c_r_0_wa := x_r.cell (i := 0) rfl
  have f_r_0_wa := x_r.frozen 0
  have c_r_1_wa := x_r.cell (i := 1) rfl
  have f_r_1_wa := x_r.frozen 1
  have c_r_2_wa := x_r.cell (i := 2) rfl
  have f_r_2_wa := x_r.frozen 2
  have c_r_3_wa := x_r.cell (i := 3) rfl
  have f_r_3_wa := x_r.frozen 3
  have c_r_4_wa := x_r.cell (i := 4) rfl
  have f_r_4_wa := x_r.frozen 4
  by_cases hS : decide (a.State = 0) = false
  case neg =>
    replace hS : decide (a.State = 0) = true := by simpa using hS
    have HS := Lib.hid hS
    have HB9 : Hid (acctMarkB a x = false) := by show _ = _; unfold acctMarkB; rw [hS]; simp
    have HM : Hid (acctMark a x = acctZ) := if_neg (by rw [HB9.out]; decide)
    have gS : (a.State == 0) = true := by have := of_decide_eq_true hS; simpa using this
    clear hS
    go_enter Try.func21, Try.ntmps21
    have i_r_0 := x_r.same (i := 0) rfl
    have i_r_1 := x_r.same (i := 1) rfl
    have i_r_2 := x_r.same (i := 2) rfl
    have i_r_3 := x_r.same (i := 3) rfl
    have i_r_4 := x_r.same (i := 4) rfl
    go_wp2
    refine ret_cell_tmp (by rfl) (by rfl) x_r Try.underlying27 sz_acct (by rfl) ?_
    rw [HM.out, HB9.out]
    exact ⟨_, rfl, (ov_acctZ (Nat.le_refl _)).widen (by omega) (Nat.le_refl _) (Nat.le_refl _), B0⟩
  have HS := Lib.hid hS
  have gS : (a.State == 0) = false := by have := of_decide_eq_false hS; simpa using this
  by_cases hN : inB x 0 3 = true
  case neg =>
    replace hN : inB x 0 3 = false := by simpa using hN
    have HN := Lib.hid hN
    have HB9 : Hid (acctMarkB a x = false) := by show _ = _; unfold acctMarkB; rw [hN]; simp
    have HM : Hid (acctMark a x = acctZ) := if_neg (by rw [HB9.out]; decide)
    clear hS hN
    go_enter Try.func21, Try.ntmps21
    go_wp2_with fail
    refine (iNode_any _ _).mono ?_
    rintro e w' ⟨rfl, rfl⟩
    rw [HN.out]
    have i_r_0 := x_r.same (i := 0) rfl
    have i_r_1 := x_r.same (i := 1) rfl
    have i_r_2 := x_r.same (i := 2) rfl
    have i_r_3 := x_r.same (i := 3) rfl
    have i_r_4 := x_r.same (i := 4) rfl
    go_wp2
    refine ret_cell_tmp (by rfl) (by rfl) x_r Try.underlying27 sz_acct (by rfl) ?_
    rw [HM.out, HB9.out]
    exact ⟨_, rfl, (ov_acctZ (Nat.le_refl _)).widen (by omega) (Nat.le_refl _) (Nat.le_refl _), B0⟩
  have HN := Lib.hid hN
  by_cases hH : hasI a.Marks x = false
  case neg =>
    replace hH : hasI a.Marks x = true := by simpa using hH
    have HH := Lib.hid hH
    have HB9 : Hid (acctMarkB a x = false) := by show _ = _; unfold acctMarkB; rw [hH]; simp
    have HM : Hid (acctMark a x = acctZ) := if_neg (by rw [HB9.out]; decide)
    clear hS hN hH
    go_enter Try.func21, Try.ntmps21
    go_wp2_with fail
    refine (iNode_any _ _).mono ?_
    rintro e w' ⟨rfl, rfl⟩
    rw [HN.out]
    go_wp2_with fail
    refine (iContainsI_c (rM.from_ B0)).mono ?_
    rintro e w' ⟨rfl, rfl⟩
    rw [HH.out]
    have i_r_0 := x_r.same (i := 0) rfl
    have i_r_1 := x_r.same (i := 1) rfl
    have i_r_2 := x_r.same (i := 2) rfl
    have i_r_3 := x_r.same (i := 3) rfl
    have i_r_4 := x_r.same (i := 4) rfl
    go_wp2
    refine ret_cell_tmp (by rfl) (by rfl) x_r Try.underlying27 sz_acct (by rfl) ?_
    rw [HM.out, HB9.out]
    exact ⟨_, rfl, (ov_acctZ (Nat.le_refl _)).widen (by omega) (Nat.le_refl _) (Nat.le_refl _), B0⟩
  have HH := Lib.hid hH
  have HB9 : Hid (acctMarkB a x = true) := by show _ = _; unfold acctMarkB; rw [hS, hN, hH]; rfl
  obtain ⟨G, hG⟩ : ∃ G, insF a.Marks x = G := ⟨_, rfl⟩
  have HM : Hid (acctMark a x = ⟨a.Have, a.State, a.By, G, a.Reps⟩) := by show _ = _; unfold acctMark; rw [if_pos HB9.out, hG]
  have HG := Lib.hid hG
  clear hG hS hN hH
  go_enter Try.func21, Try.ntmps21
  go_wp2_with fail
  refine (iNode_any _ _).mono ?_
  rintro e w' ⟨rfl, rfl⟩
  rw [HN.out]
  go_wp2_with fail
  refine (iContainsI_c (rM.from_ B0)).mono ?_
  rintro e w' ⟨rfl, rfl⟩
  rw [HH.out]
  go_wp2_with fail
  refine (iACopy_c (h0.from_ B0) hm).mono ?_
  rintro e w1 ⟨u_, rfl, ou, h_w1⟩
  clear c_a_0_wa f_a_0_wa c_a_1_wa f_a_1_wa c_a_2_wa f_a_2_wa c_a_3_wa f_a_3_wa c_a_4_wa f_a_4_wa c_f_0_wa f_f_0_wa c_r_0_wa f_r_0_wa c_r_1_wa f_r_1_wa c_r_2_wa f_r_2_wa c_r_3_wa f_r_3_wa c_r_4_wa f_r_4_wa
  replace x_a := x_a.from_ h_w1
  replace x_f := x_f.from_ h_w1
  replace x_r := x_r.from_ h_w1
  have B_w1 := B0.trans (h_w1.mono B0.size)
  have s_w1 := h_w1.size
  obtain ⟨A1, c1, A2, c2, rfl, oM, oR⟩ := ov_acct_parts ou
  clear ou
  have c_a_0_w1 := x_a.cell (i := 0) rfl
  have f_a_0_w1 := x_a.frozen 0
  have c_a_1_w1 := x_a.cell (i := 1) rfl
  have f_a_1_w1 := x_a.frozen 1
  have c_a_2_w1 := x_a.cell (i := 2) rfl
  have f_a_2_w1 := x_a.frozen 2
  have c_a_3_w1 := x_a.cell (i := 3) rfl
  have f_a_3_w1 := x_a.frozen 3
  have c_a_4_w1 := x_a.cell (i := 4) rfl
  have f_a_4_w1 := x_a.frozen 4
  have c_f_0_w1 := x_f.cell (i := 0) rfl
  have f_f_0_w1 := x_f.frozen 0
  have c_r_0_w1 := x_r.cell (i := 0) rfl
  have f_r_0_w1 := x_r.frozen 0
  have c_r_1_w1 := x_r.cell (i := 1) rfl
  have f_r_1_w1 := x_r.frozen 1
  have c_r_2_w1 := x_r.cell (i := 2) rfl
  have f_r_2_w1 := x_r.frozen 2
  have c_r_3_w1 := x_r.cell (i := 3) rfl
  have f_r_3_w1 := x_r.frozen 3
  have c_r_4_w1 := x_r.cell (i := 4) rfl
  have f_r_4_w1 := x_r.frozen 4
  obtain ⟨w2, e_w2, s_w2, h_w2, x_o⟩ := alloc_step w1 27 [.int .i64 a.Have, .int .i64 a.State, .int .i64 a.By, .slice A1 a.Marks.length c1, .slice A2 a.Reps.length c2]
  have s_w2_1 := Nat.le_of_eq s_w2
  have s_w2_2 := Nat.le_of_eq s_w2.symm
  clear s_w2
  replace x_a := x_a.from_ h_w2
  replace x_f := x_f.from_ h_w2
  replace x_r := x_r.from_ h_w2
  replace oM := oM.below h_w2
  replace oR := oR.below h_w2
  have B_w2 := B_w1.trans (h_w2.mono B_w1.size)
  have c_a_0_w2 := x_a.cell (i := 0) rfl
  have f_a_0_w2 := x_a.frozen 0
  have c_a_1_w2 := x_a.cell (i := 1) rfl
  have f_a_1_w2 := x_a.frozen 1
  have c_a_2_w2 := x_a.cell (i := 2) rfl
  have f_a_2_w2 := x_a.frozen 2
  have c_a_3_w2 := x_a.cell (i := 3) rfl
  have f_a_3_w2 := x_a.frozen 3
  have c_a_4_w2 := x_a.cell (i := 4) rfl
  have f_a_4_w2 := x_a.frozen 4
  have c_f_0_w2 := x_f.cell (i := 0) rfl
  have f_f_0_w2 := x_f.frozen 0
  have c_r_0_w2 := x_r.cell (i := 0) rfl
  have f_r_0_w2 := x_r.frozen 0
  have c_r_1_w2 := x_r.cell (i := 1) rfl
  have f_r_1_w2 := x_r.frozen 1
  have c_r_2_w2 := x_r.cell (i := 2) rfl
  have f_r_2_w2 := x_r.frozen 2
  have c_r_3_w2 := x_r.cell (i := 3) rfl
  have f_r_3_w2 := x_r.frozen 3
  have c_r_4_w2 := x_r.cell (i := 4) rfl
  have f_r_4_w2 := x_r.frozen 4
  have c_o_0_w2 := x_o.cell (i := 0) rfl
  have f_o_0_w2 := x_o.frozen 0
  have c_o_1_w2 := x_o.cell (i := 1) rfl
  have f_o_1_w2 := x_o.frozen 1
  have c_o_2_w2 := x_o.cell (i := 2) rfl
  have f_o_2_w2 := x_o.frozen 2
  have c_o_3_w2 := x_o.cell (i := 3) rfl
  have f_o_3_w2 := x_o.frozen 3
  have c_o_4_w2 := x_o.cell (i := 4) rfl
  have f_o_4_w2 := x_o.frozen 4
  go_wp2_with fail
  refine (iPutI_c (rM.from_ B_w2) hbM (x_f.cell (i := 0) rfl)).mono ?_
  rintro e w3 ⟨v2, rfl, oG, h_w3⟩
  clear c_a_0_w1 f_a_0_w1 c_a_1_w1 f_a_1_w1 c_a_2_w1 f_a_2_w1 c_a_3_w1 f_a_3_w1 c_a_4_w1 f_a_4_w1 c_f_0_w1 f_f_0_w1 c_r_0_w1 f_r_0_w1 c_r_1_w1 f_r_1_w1 c_r_2_w1 f_r_2_w1 c_r_3_w1 f_r_3_w1 c_r_4_w1 f_r_4_w1 c_a_0_w2 f_a_0_w2 c_a_1_w2 f_a_1_w2 c_a_2_w2 f_a_2_w2 c_a_3_w2 f_a_3_w2 c_a_4_w2 f_a_4_w2 c_f_0_w2 f_f_0_w2 c_r_0_w2 f_r_0_w2 c_r_1_w2 f_r_1_w2 c_r_2_w2 f_r_2_w2 c_r_3_w2 f_r_3_w2 c_r_4_w2 f_r_4_w2 c_o_0_w2 f_o_0_w2 c_o_1_w2 f_o_1_w2 c_o_2_w2 f_o_2_w2 c_o_3_w2 f_o_3_w2 c_o_4_w2 f_o_4_w2
  replace x_a := x_a.from_ h_w3
  replace x_f := x_f.from_ h_w3
  replace x_r := x_r.from_ h_w3
  replace x_o := x_o.from_ h_w3
  replace oM := oM.below h_w3
  replace oR := oR.below h_w3
  have B_w3 := B_w2.trans (h_w3.mono B_w2.size)
  have s_w3 := h_w3.size
  rw [HG.out] at oG
  obtain ⟨Ag, cg, rfl, -, -, -⟩ := oG.rd
  have c_a_0_w3 := x_a.cell (i := 0) rfl
  have f_a_0_w3 := x_a.frozen 0
  have c_a_1_w3 := x_a.cell (i := 1) rfl
  have f_a_1_w3 := x_a.frozen 1
  have c_a_2_w3 := x_a.cell (i := 2) rfl
  have f_a_2_w3 := x_a.frozen 2
  have c_a_3_w3 := x_a.cell (i := 3) rfl
  have f_a_3_w3 := x_a.frozen 3
  have c_a_4_w3 := x_a.cell (i := 4) rfl
  have f_a_4_w3 := x_a.frozen 4
  have c_f_0_w3 := x_f.cell (i := 0) rfl
  have f_f_0_w3 := x_f.frozen 0
  have c_r_0_w3 := x_r.cell (i := 0) rfl
  have f_r_0_w3 := x_r.frozen 0
  have c_r_1_w3 := x_r.cell (i := 1) rfl
  have f_r_1_w3 := x_r.frozen 1
  have c_r_2_w3 := x_r.cell (i := 2) rfl
  have f_r_2_w3 := x_r.frozen 2
  have c_r_3_w3 := x_r.cell (i := 3) rfl
  have f_r_3_w3 := x_r.frozen 3
  have c_r_4_w3 := x_r.cell (i := 4) rfl
  have f_r_4_w3 := x_r.frozen 4
  have c_o_0_w3 := x_o.cell (i := 0) rfl
  have f_o_0_w3 := x_o.frozen 0
  have c_o_1_w3 := x_o.cell (i := 1) rfl
  have f_o_1_w3 := x_o.frozen 1
  have c_o_2_w3 := x_o.cell (i := 2) rfl
  have f_o_2_w3 := x_o.frozen 2
  have c_o_3_w3 := x_o.cell (i := 3) rfl
  have f_o_3_w3 := x_o.frozen 3
  have c_o_4_w3 := x_o.cell (i := 4) rfl
  have f_o_4_w3 := x_o.frozen 4
  obtain ⟨w4, e_w4, s_w4, h_w4, y⟩ := set_step x_o 3 (.slice Ag G.length cg)
  have s_w4_1 := Nat.le_of_eq s_w4
  have s_w4_2 := Nat.le_of_eq s_w4.symm
  clear s_w4
  replace x_a := x_a.chg h_w4 (by omega)
  replace x_f := x_f.chg h_w4 (by omega)
  replace x_r := x_r.chg h_w4 (by omega)
  replace oM := oM.chg h_w4 (by omega)
  replace oR := oR.chg h_w4 (by omega)
  replace oG := oG.chg h_w4 (by omega)
  have B_w4 := Below.chg_ B_w3 h_w4 (by omega) (by omega)
  replace x_o : Vr w4 (w1.heap.size) 27 [.int .i64 a.Have, .int .i64 a.State, .int .i64 a.By, .slice Ag G.length cg, .slice A2 a.Reps.length c2] := y
  clear y
  have c_a_0_w4 := x_a.cell (i := 0) rfl
  have f_a_0_w4 := x_a.frozen 0
  have c_a_1_w4 := x_a.cell (i := 1) rfl
  have f_a_1_w4 := x_a.frozen 1
  have c_a_2_w4 := x_a.cell (i := 2) rfl
  have f_a_2_w4 := x_a.frozen 2
  have c_a_3_w4 := x_a.cell (i := 3) rfl
  have f_a_3_w4 := x_a.frozen 3
  have c_a_4_w4 := x_a.cell (i := 4) rfl
  have f_a_4_w4 := x_a.frozen 4
  have c_f_0_w4 := x_f.cell (i := 0) rfl
  have f_f_0_w4 := x_f.frozen 0
  have c_r_0_w4 := x_r.cell (i := 0) rfl
  have f_r_0_w4 := x_r.frozen 0
  have c_r_1_w4 := x_r.cell (i := 1) rfl
  have f_r_1_w4 := x_r.frozen 1
  have c_r_2_w4 := x_r.cell (i := 2) rfl
  have f_r_2_w4 := x_r.frozen 2
  have c_r_3_w4 := x_r.cell (i := 3) rfl
  have f_r_3_w4 := x_r.frozen 3
  have c_r_4_w4 := x_r.cell (i := 4) rfl
  have f_r_4_w4 := x_r.frozen 4
  have c_o_0_w4 := x_o.cell (i := 0) rfl
  have f_o_0_w4 := x_o.frozen 0
  have c_o_1_w4 := x_o.cell (i := 1) rfl
  have f_o_1_w4 := x_o.frozen 1
  have c_o_2_w4 := x_o.cell (i := 2) rfl
  have f_o_2_w4 := x_o.frozen 2
  have c_o_3_w4 := x_o.cell (i := 3) rfl
  have f_o_3_w4 := x_o.frozen 3
  have c_o_4_w4 := x_o.cell (i := 4) rfl
  have f_o_4_w4 := x_o.frozen 4
  obtain ⟨w5, e_w5, s_w5, h_w5, y⟩ := store_step x_r [.int .i64 a.Have, .int .i64 a.State, .int .i64 a.By, .slice Ag G.length cg, .slice A2 a.Reps.length c2] rfl
  replace e_w5 : (((((w4.setCell ⟨w.heap.size + 1 + 1, 0, none⟩ (.int .i64 a.Have)).setCell ⟨w.heap.size + 1 + 1, 1, none⟩ (.int .i64 a.State)).setCell ⟨w.heap.size + 1 + 1, 2, none⟩ (.int .i64 a.By)).setCell ⟨w.heap.size + 1 + 1, 3, none⟩ (.slice Ag G.length cg)).setCell ⟨w.heap.size + 1 + 1, 4, none⟩ (.slice A2 a.Reps.length c2)) = w5 := e_w5
  have s_w5_1 := Nat.le_of_eq s_w5
  have s_w5_2 := Nat.le_of_eq s_w5.symm
  clear s_w5
  replace x_a := x_a.chg h_w5 (by omega)
  replace x_f := x_f.chg h_w5 (by omega)
  replace x_o := x_o.chg h_w5 (by omega)
  replace oM := oM.chg h_w5 (by omega)
  replace oR := oR.chg h_w5 (by omega)
  replace oG := oG.chg h_w5 (by omega)
  have B_w5 := Below.chg_ B_w4 h_w5 (by omega) (by omega)
  replace x_r : Vr w5 (w.heap.size + 1 + 1) 27 [.int .i64 a.Have, .int .i64 a.State, .int .i64 a.By, .slice Ag G.length cg, .slice A2 a.Reps.length c2] := y
  clear y
  have c_r_0_w5 := x_r.cell (i := 0) rfl
  have f_r_0_w5 := x_r.frozen 0
  have c_r_1_w5 := x_r.cell (i := 1) rfl
  have f_r_1_w5 := x_r.frozen 1
  have c_r_2_w5 := x_r.cell (i := 2) rfl
  have f_r_2_w5 := x_r.frozen 2
  have c_r_3_w5 := x_r.cell (i := 3) rfl
  have f_r_3_w5 := x_r.frozen 3
  have c_r_4_w5 := x_r.cell (i := 4) rfl
  have f_r_4_w5 := x_r.frozen 4
  go_wp2
  refine ret_cell_tmp (by rfl) (by rfl) x_r Try.underlying27 sz_acct (by rfl) ?_
  rw [HM.out, HB9.out]
  exact ⟨_, rfl, ov_acct (d := ⟨a.Have, a.State, a.By, G, a.Reps⟩) oG oR (by omega), B_w5⟩

set_option maxRecDepth 100000 in
set_option maxHeartbeats 4000000 in
theorem iAcctRep_c {w : World} {v : Value} {a : MAcct} {d x n : Int} (h : RV acctL w v a) (hm : a.bulk ≤ 16777216) : Calls Try.prog 17 #[v, .int .i64 d, .int .i64 x, .int .i64 n] w (NewVB acctL w (acctRep a d x n) (acctRepB a d x)) := by
  have h0 := h
  obtain ⟨AM, cM, AR, cR, rfl, rM, rR⟩ := rv_acct h
  clear h
  have hbR : a.Reps.length ≤ 16777216 := by unfold MAcct.bulk at hm; omega
  have hbM : a.Marks.length ≤ 16777216 := by unfold MAcct.bulk at hm; omega
  obtain ⟨wa, hwa, B0, sa, x_a, x_f, x_r⟩ := frame3 w 27 [.int .i64 a.Have, .int .i64 a.State, .int .i64 a.By, .slice AM a.Marks.length cM, .slice AR a.Reps.length cR] 3 [.int .i64 d] 27 [.int .i64 0, .int .i64 0, .int .i64 0, .slice none 0 0, .slice none 0 0]
  have sa_1 := Nat.le_of_eq sa
  have sa_2 := Nat.le_of_eq sa.symm
  clear sa
  have c_a_0_wa := x_a.cell (i := 0) rfl
  have f_a_0_wa := x_a.frozen 0
  have c_a_1_wa := x_a.cell (i := 1) rfl
  have f_a_1_wa := x_a.frozen 1
  have c_a_2_wa := x_a.cell (i := 2) rfl
  have f_a_2_wa := x_a.frozen 2
  have c_a_3_wa := x_a.cell (i := 3) rfl
  have f_a_3_wa := x_a.frozen 3
  have c_a_4_wa := x_a.cell (i := 4) rfl
  have f_a_4_wa := x_a.frozen 4
  have c_f_0_wa := x_f.cell (i := 0) rfl
  have f_f_0_wa := x_f.frozen 0
  have c_r_0_wa := x_r.cell (i := 0) rfl
  have f_r_0_wa := x_r.frozen 0
  have c_r_1_wa := x_r.cell (i := 1) rfl
  have f_r_1_wa := x_r.frozen 1
  have c_r_2_wa := x_r.cell (i := 2) rfl
  have f_r_2_wa := x_r.frozen 2
  have c_r_3_wa := x_r.cell (i := 3) rfl
  have f_r_3_wa := x_r.frozen 3
  have c_r_4_wa := x_r.cell (i := 4) rfl
  have f_r_4_wa := x_r.frozen 4
  by_cases hS : decide (a.State = 0) = false
  case neg =>
    replace hS : decide (a.State = 0) = true := by simpa using hS
    have HS := Lib.hid hS
    have HB9 : Hid (acctRepB a d x = false) := by show _ = _; unfold acctRepB; rw [hS]; simp
    have HM : Hid (acctRep a d x n = acctZ) := if_neg (by rw [HB9.out]; decide)
    have gS : (a.State == 0) = true := by have := of_decide_eq_true hS; simpa using this
    clear hS
    go_enter Try.func17, Try.ntmps17
    have i_r_0 := x_r.same (i := 0) rfl
    have i_r_1 := x_r.same (i := 1) rfl
    have i_r_2 := x_r.same (i := 2) rfl
    have i_r_3 := x_r.same (i := 3) rfl
    have i_r_4 := x_r.same (i := 4) rfl
    go_wp2
    refine ret_cell_tmp (by rfl) (by rfl) x_r Try.underlying27 sz_acct (by rfl) ?_
    rw [HM.out, HB9.out]
    exact ⟨_, rfl, (ov_acctZ (Nat.le_refl _)).widen (by omega) (Nat.le_refl _) (Nat.le_refl _), B0⟩
  have HS := Lib.hid hS
  have gS : (a.State == 0) = false := by have := of_decide_eq_false hS; simpa using this
  by_cases hN : inB d 0 3 = true
  case neg =>
    replace hN : inB d 0 3 = false := by simpa using hN
    have HN := Lib.hid hN
    have HB9 : Hid (acctRepB a d x = false) := by show _ = _; unfold acctRepB; rw [hN]; simp
    have HM : Hid (acctRep a d x n = acctZ) := if_neg (by rw [HB9.out]; decide)
    clear hS hN
    go_enter Try.func17, Try.ntmps17
    go_wp2_with fail
    refine (iNode_any _ _).mono ?_
    rintro e w' ⟨rfl, rfl⟩
    rw [HN.out]
    have i_r_0 := x_r.same (i := 0) rfl
    have i_r_1 := x_r.same (i := 1) rfl
    have i_r_2 := x_r.same (i := 2) rfl
    have i_r_3 := x_r.same (i := 3) rfl
    have i_r_4 := x_r.same (i := 4) rfl
    go_wp2
    refine ret_cell_tmp (by rfl) (by rfl) x_r Try.underlying27 sz_acct (by rfl) ?_
    rw [HM.out, HB9.out]
    exact ⟨_, rfl, (ov_acctZ (Nat.le_refl _)).widen (by omega) (Nat.le_refl _) (Nat.le_refl _), B0⟩
  have HN := Lib.hid hN
  by_cases hV : numB x = true
  case neg =>
    replace hV : numB x = false := by simpa using hV
    have HV := Lib.hid hV
    have HB9 : Hid (acctRepB a d x = false) := by show _ = _; unfold acctRepB; rw [hV]; simp
    have HM : Hid (acctRep a d x n = acctZ) := if_neg (by rw [HB9.out]; decide)
    clear hS hN hV
    go_enter Try.func17, Try.ntmps17
    go_wp2_with fail
    refine (iNode_any _ _).mono ?_
    rintro e w' ⟨rfl, rfl⟩
    rw [HN.out]
    go_wp2_with fail
    refine (iNum_any _ _).mono ?_
    rintro e w' ⟨rfl, rfl⟩
    rw [HV.out]
    have i_r_0 := x_r.same (i := 0) rfl
    have i_r_1 := x_r.same (i := 1) rfl
    have i_r_2 := x_r.same (i := 2) rfl
    have i_r_3 := x_r.same (i := 3) rfl
    have i_r_4 := x_r.same (i := 4) rfl
    go_wp2
    refine ret_cell_tmp (by rfl) (by rfl) x_r Try.underlying27 sz_acct (by rfl) ?_
    rw [HM.out, HB9.out]
    exact ⟨_, rfl, (ov_acctZ (Nat.le_refl _)).widen (by omega) (Nat.le_refl _) (Nat.le_refl _), B0⟩
  have HV := Lib.hid hV
  have HB8 : Hid (acctRepB a d x = !hasRep a.Reps d) := by show _ = _; unfold acctRepB; rw [hS, hN, hV]; rfl
  clear hS hN hV
  by_cases hH : hasRep a.Reps d = true
  case pos =>
    have HH := Lib.hid hH
    have HB9 : Hid (acctRepB a d x = false) := by show _ = _; rw [HB8.out, hH]; rfl
    have HM : Hid (acctRep a d x n = acctZ) := if_neg (by rw [HB9.out]; decide)
    clear hH
    go_enter Try.func17, Try.ntmps17
    go_wp2_with fail
    refine (iNode_any _ _).mono ?_
    rintro e w' ⟨rfl, rfl⟩
    rw [HN.out]
    go_wp2_with fail
    refine (iNum_any _ _).mono ?_
    rintro e w' ⟨rfl, rfl⟩
    rw [HV.out]
    go_wp2_with fail
    refine (iRepOf_c (n := d) (rR.from_ B0)).mono ?_
    rintro e w1 ⟨u_, rfl, ou, h_w1⟩
    clear c_a_0_wa f_a_0_wa c_a_1_wa f_a_1_wa c_a_2_wa f_a_2_wa c_a_3_wa f_a_3_wa c_a_4_wa f_a_4_wa c_f_0_wa f_f_0_wa c_r_0_wa f_r_0_wa c_r_1_wa f_r_1_wa c_r_2_wa f_r_2_wa c_r_3_wa f_r_3_wa c_r_4_wa f_r_4_wa
    replace x_a := x_a.from_ h_w1
    replace x_f := x_f.from_ h_w1
    replace x_r := x_r.from_ h_w1
    have B_w1 := B0.trans (h_w1.mono B0.size)
    have s_w1 := h_w1.size
    rw [HH.out]
    obtain rfl := rv_rep ou.rd
    clear ou
    have c_a_0_w1 := x_a.cell (i := 0) rfl
    have f_a_0_w1 := x_a.frozen 0
    have c_a_1_w1 := x_a.cell (i := 1) rfl
    have f_a_1_w1 := x_a.frozen 1
    have c_a_2_w1 := x_a.cell (i := 2) rfl
    have f_a_2_w1 := x_a.frozen 2
    have c_a_3_w1 := x_a.cell (i := 3) rfl
    have f_a_3_w1 := x_a.frozen 3
    have c_a_4_w1 := x_a.cell (i := 4) rfl
    have f_a_4_w1 := x_a.frozen 4
    have c_f_0_w1 := x_f.cell (i := 0) rfl
    have f_f_0_w1 := x_f.frozen 0
    have c_r_0_w1 := x_r.cell (i := 0) rfl
    have f_r_0_w1 := x_r.frozen 0
    have c_r_1_w1 := x_r.cell (i := 1) rfl
    have f_r_1_w1 := x_r.frozen 1
    have c_r_2_w1 := x_r.cell (i := 2) rfl
    have f_r_2_w1 := x_r.frozen 2
    have c_r_3_w1 := x_r.cell (i := 3) rfl
    have f_r_3_w1 := x_r.frozen 3
    have c_r_4_w1 := x_r.cell (i := 4) rfl
    have f_r_4_w1 := x_r.frozen 4
    obtain ⟨w2, e_w2, s_w2, h_w2, x_q⟩ := alloc_step w1 57 [.int .i64 (repFirst a.Reps d).Node, .int .i64 (repFirst a.Reps d).Amt]
    have s_w2_1 := Nat.le_of_eq s_w2
    have s_w2_2 := Nat.le_of_eq s_w2.symm
    clear s_w2
    replace x_a := x_a.from_ h_w2
    replace x_f := x_f.from_ h_w2
    replace x_r := x_r.from_ h_w2
    have B_w2 := B_w1.trans (h_w2.mono B_w1.size)
    have c_a_0_w2 := x_a.cell (i := 0) rfl
    have f_a_0_w2 := x_a.frozen 0
    have c_a_1_w2 := x_a.cell (i := 1) rfl
    have f_a_1_w2 := x_a.frozen 1
    have c_a_2_w2 := x_a.cell (i := 2) rfl
    have f_a_2_w2 := x_a.frozen 2
    have c_a_3_w2 := x_a.cell (i := 3) rfl
    have f_a_3_w2 := x_a.frozen 3
    have c_a_4_w2 := x_a.cell (i := 4) rfl
    have f_a_4_w2 := x_a.frozen 4
    have c_f_0_w2 := x_f.cell (i := 0) rfl
    have f_f_0_w2 := x_f.frozen 0
    have c_r_0_w2 := x_r.cell (i := 0) rfl
    have f_r_0_w2 := x_r.frozen 0
    have c_r_1_w2 := x_r.cell (i := 1) rfl
    have f_r_1_w2 := x_r.frozen 1
    have c_r_2_w2 := x_r.cell (i := 2) rfl
    have f_r_2_w2 := x_r.frozen 2
    have c_r_3_w2 := x_r.cell (i := 3) rfl
    have f_r_3_w2 := x_r.frozen 3
    have c_r_4_w2 := x_r.cell (i := 4) rfl
    have f_r_4_w2 := x_r.frozen 4
    have c_q_0_w2 := x_q.cell (i := 0) rfl
    have f_q_0_w2 := x_q.frozen 0
    have c_q_1_w2 := x_q.cell (i := 1) rfl
    have f_q_1_w2 := x_q.frozen 1
    have i_r_0 := x_r.same (i := 0) rfl
    have i_r_1 := x_r.same (i := 1) rfl
    have i_r_2 := x_r.same (i := 2) rfl
    have i_r_3 := x_r.same (i := 3) rfl
    have i_r_4 := x_r.same (i := 4) rfl
    go_wp2
    refine ret_cell_tmp (by rfl) (by rfl) x_r Try.underlying27 sz_acct (by rfl) ?_
    rw [HM.out, HB9.out]
    exact ⟨_, rfl, (ov_acctZ (Nat.le_refl _)).widen (by omega) (Nat.le_refl _) (Nat.le_refl _), B_w2⟩
  replace hH : hasRep a.Reps d = false := by simpa using hH
  have HH := Lib.hid hH
  have HB9 : Hid (acctRepB a d x = true) := by show _ = _; rw [HB8.out, hH]; rfl
  clear hH
  obtain ⟨G, hG⟩ : ∃ G, insR a.Reps ⟨d, x⟩ = G := ⟨_, rfl⟩
  have HG := Lib.hid hG
  clear hG
  by_cases hE : (G.length : Int) = n
  case pos =>
    have gE : ((G.length : Int) == n) = true := by simpa using hE
    have HM : Hid (acctRep a d x n = ⟨a.Have, 2, a.By, a.Marks, G⟩) := by show _ = _; unfold acctRep; rw [if_pos HB9.out, HG.out, if_pos hE]
    clear hE
    go_enter Try.func17, Try.ntmps17
    go_wp2_with fail
    refine (iNode_any _ _).mono ?_
    rintro e w' ⟨rfl, rfl⟩
    rw [HN.out]
    go_wp2_with fail
    refine (iNum_any _ _).mono ?_
    rintro e w' ⟨rfl, rfl⟩
    rw [HV.out]
    go_wp2_with fail
    refine (iRepOf_c (n := d) (rR.from_ B0)).mono ?_
    rintro e w1 ⟨u_, rfl, ou, h_w1⟩
    clear c_a_0_wa f_a_0_wa c_a_1_wa f_a_1_wa c_a_2_wa f_a_2_wa c_a_3_wa f_a_3_wa c_a_4_wa f_a_4_wa c_f_0_wa f_f_0_wa c_r_0_wa f_r_0_wa c_r_1_wa f_r_1_wa c_r_2_wa f_r_2_wa c_r_3_wa f_r_3_wa c_r_4_wa f_r_4_wa
    replace x_a := x_a.from_ h_w1
    replace x_f := x_f.from_ h_w1
    replace x_r := x_r.from_ h_w1
    have B_w1 := B0.trans (h_w1.mono B0.size)
    have s_w1 := h_w1.size
    rw [HH.out]
    obtain rfl := rv_rep ou.rd
    clear ou
    have c_a_0_w1 := x_a.cell (i := 0) rfl
    have f_a_0_w1 := x_a.frozen 0
    have c_a_1_w1 := x_a.cell (i := 1) rfl
    have f_a_1_w1 := x_a.frozen 1
    have c_a_2_w1 := x_a.cell (i := 2) rfl
    have f_a_2_w1 := x_a.frozen 2
    have c_a_3_w1 := x_a.cell (i := 3) rfl
    have f_a_3_w1 := x_a.frozen 3
    have c_a_4_w1 := x_a.cell (i := 4) rfl
    have f_a_4_w1 := x_a.frozen 4
    have c_f_0_w1 := x_f.cell (i := 0) rfl
    have f_f_0_w1 := x_f.frozen 0
    have c_r_0_w1 := x_r.cell (i := 0) rfl
    have f_r_0_w1 := x_r.frozen 0
    have c_r_1_w1 := x_r.cell (i := 1) rfl
    have f_r_1_w1 := x_r.frozen 1
    have c_r_2_w1 := x_r.cell (i := 2) rfl
    have f_r_2_w1 := x_r.frozen 2
    have c_r_3_w1 := x_r.cell (i := 3) rfl
    have f_r_3_w1 := x_r.frozen 3
    have c_r_4_w1 := x_r.cell (i := 4) rfl
    have f_r_4_w1 := x_r.frozen 4
    obtain ⟨w2, e_w2, s_w2, h_w2, x_q⟩ := alloc_step w1 57 [.int .i64 (repFirst a.Reps d).Node, .int .i64 (repFirst a.Reps d).Amt]
    have s_w2_1 := Nat.le_of_eq s_w2
    have s_w2_2 := Nat.le_of_eq s_w2.symm
    clear s_w2
    replace x_a := x_a.from_ h_w2
    replace x_f := x_f.from_ h_w2
    replace x_r := x_r.from_ h_w2
    have B_w2 := B_w1.trans (h_w2.mono B_w1.size)
    have c_a_0_w2 := x_a.cell (i := 0) rfl
    have f_a_0_w2 := x_a.frozen 0
    have c_a_1_w2 := x_a.cell (i := 1) rfl
    have f_a_1_w2 := x_a.frozen 1
    have c_a_2_w2 := x_a.cell (i := 2) rfl
    have f_a_2_w2 := x_a.frozen 2
    have c_a_3_w2 := x_a.cell (i := 3) rfl
    have f_a_3_w2 := x_a.frozen 3
    have c_a_4_w2 := x_a.cell (i := 4) rfl
    have f_a_4_w2 := x_a.frozen 4
    have c_f_0_w2 := x_f.cell (i := 0) rfl
    have f_f_0_w2 := x_f.frozen 0
    have c_r_0_w2 := x_r.cell (i := 0) rfl
    have f_r_0_w2 := x_r.frozen 0
    have c_r_1_w2 := x_r.cell (i := 1) rfl
    have f_r_1_w2 := x_r.frozen 1
    have c_r_2_w2 := x_r.cell (i := 2) rfl
    have f_r_2_w2 := x_r.frozen 2
    have c_r_3_w2 := x_r.cell (i := 3) rfl
    have f_r_3_w2 := x_r.frozen 3
    have c_r_4_w2 := x_r.cell (i := 4) rfl
    have f_r_4_w2 := x_r.frozen 4
    have c_q_0_w2 := x_q.cell (i := 0) rfl
    have f_q_0_w2 := x_q.frozen 0
    have c_q_1_w2 := x_q.cell (i := 1) rfl
    have f_q_1_w2 := x_q.frozen 1
    go_wp2_with fail
    refine (iACopy_c (h0.from_ B_w2) hm).mono ?_
    rintro e w3 ⟨u9, rfl, ou, h_w3⟩
    clear c_a_0_w1 f_a_0_w1 c_a_1_w1 f_a_1_w1 c_a_2_w1 f_a_2_w1 c_a_3_w1 f_a_3_w1 c_a_4_w1 f_a_4_w1 c_f_0_w1 f_f_0_w1 c_r_0_w1 f_r_0_w1 c_r_1_w1 f_r_1_w1 c_r_2_w1 f_r_2_w1 c_r_3_w1 f_r_3_w1 c_r_4_w1 f_r_4_w1 c_a_0_w2 f_a_0_w2 c_a_1_w2 f_a_1_w2 c_a_2_w2 f_a_2_w2 c_a_3_w2 f_a_3_w2 c_a_4_w2 f_a_4_w2 c_f_0_w2 f_f_0_w2 c_r_0_w2 f_r_0_w2 c_r_1_w2 f_r_1_w2 c_r_2_w2 f_r_2_w2 c_r_3_w2 f_r_3_w2 c_r_4_w2 f_r_4_w2 c_q_0_w2 f_q_0_w2 c_q_1_w2 f_q_1_w2
    replace x_a := x_a.from_ h_w3
    replace x_f := x_f.from_ h_w3
    replace x_r := x_r.from_ h_w3
    replace x_q := x_q.from_ h_w3
    have B_w3 := B_w2.trans (h_w3.mono B_w2.size)
    have s_w3 := h_w3.size
    obtain ⟨A1, c1, A2, c2, rfl, oM, oR⟩ := ov_acct_parts ou
    clear ou oR
    have c_a_0_w3 := x_a.cell (i := 0) rfl
    have f_a_0_w3 := x_a.frozen 0
    have c_a_1_w3 := x_a.cell (i := 1) rfl
    have f_a_1_w3 := x_a.frozen 1
    have c_a_2_w3 := x_a.cell (i := 2) rfl
    have f_a_2_w3 := x_a.frozen 2
    have c_a_3_w3 := x_a.cell (i := 3) rfl
    have f_a_3_w3 := x_a.frozen 3
    have c_a_4_w3 := x_a.cell (i := 4) rfl
    have f_a_4_w3 := x_a.frozen 4
    have c_f_0_w3 := x_f.cell (i := 0) rfl
    have f_f_0_w3 := x_f.frozen 0
    have c_r_0_w3 := x_r.cell (i := 0) rfl
    have f_r_0_w3 := x_r.frozen 0
    have c_r_1_w3 := x_r.cell (i := 1) rfl
    have f_r_1_w3 := x_r.frozen 1
    have c_r_2_w3 := x_r.cell (i := 2) rfl
    have f_r_2_w3 := x_r.frozen 2
    have c_r_3_w3 := x_r.cell (i := 3) rfl
    have f_r_3_w3 := x_r.frozen 3
    have c_r_4_w3 := x_r.cell (i := 4) rfl
    have f_r_4_w3 := x_r.frozen 4
    have c_q_0_w3 := x_q.cell (i := 0) rfl
    have f_q_0_w3 := x_q.frozen 0
    have c_q_1_w3 := x_q.cell (i := 1) rfl
    have f_q_1_w3 := x_q.frozen 1
    obtain ⟨w4, e_w4, s_w4, h_w4, x_o⟩ := alloc_step w3 27 [.int .i64 a.Have, .int .i64 a.State, .int .i64 a.By, .slice A1 a.Marks.length c1, .slice A2 a.Reps.length c2]
    have s_w4_1 := Nat.le_of_eq s_w4
    have s_w4_2 := Nat.le_of_eq s_w4.symm
    clear s_w4
    replace x_a := x_a.from_ h_w4
    replace x_f := x_f.from_ h_w4
    replace x_r := x_r.from_ h_w4
    replace x_q := x_q.from_ h_w4
    replace oM := oM.below h_w4
    have B_w4 := B_w3.trans (h_w4.mono B_w3.size)
    have c_a_0_w4 := x_a.cell (i := 0) rfl
    have f_a_0_w4 := x_a.frozen 0
    have c_a_1_w4 := x_a.cell (i := 1) rfl
    have f_a_1_w4 := x_a.frozen 1
    have c_a_2_w4 := x_a.cell (i := 2) rfl
    have f_a_2_w4 := x_a.frozen 2
    have c_a_3_w4 := x_a.cell (i := 3) rfl
    have f_a_3_w4 := x_a.frozen 3
    have c_a_4_w4 := x_a.cell (i := 4) rfl
    have f_a_4_w4 := x_a.frozen 4
    have c_f_0_w4 := x_f.cell (i := 0) rfl
    have f_f_0_w4 := x_f.frozen 0
    have c_r_0_w4 := x_r.cell (i := 0) rfl
    have f_r_0_w4 := x_r.frozen 0
    have c_r_1_w4 := x_r.cell (i := 1) rfl
    have f_r_1_w4 := x_r.frozen 1
    have c_r_2_w4 := x_r.cell (i := 2) rfl
    have f_r_2_w4 := x_r.frozen 2
    have c_r_3_w4 := x_r.cell (i := 3) rfl
    have f_r_3_w4 := x_r.frozen 3
    have c_r_4_w4 := x_r.cell (i := 4) rfl
    have f_r_4_w4 := x_r.frozen 4
    have c_q_0_w4 := x_q.cell (i := 0) rfl
    have f_q_0_w4 := x_q.frozen 0
    have c_q_1_w4 := x_q.cell (i := 1) rfl
    have f_q_1_w4 := x_q.frozen 1
    have c_o_0_w4 := x_o.cell (i := 0) rfl
    have f_o_0_w4 := x_o.frozen 0
    have c_o_1_w4 := x_o.cell (i := 1) rfl
    have f_o_1_w4 := x_o.frozen 1
    have c_o_2_w4 := x_o.cell (i := 2) rfl
    have f_o_2_w4 := x_o.frozen 2
    have c_o_3_w4 := x_o.cell (i := 3) rfl
    have f_o_3_w4 := x_o.frozen 3
    have c_o_4_w4 := x_o.cell (i := 4) rfl
    have f_o_4_w4 := x_o.frozen 4
    go_wp2_with fail
    refine (iPutR_c (r := ⟨d, x⟩) (rR.from_ B_w4) hbR (x_f.cell (i := 0) rfl)).mono ?_
    rintro e w5 ⟨v2, rfl, oG, h_w5⟩
    clear c_a_0_w3 f_a_0_w3 c_a_1_w3 f_a_1_w3 c_a_2_w3 f_a_2_w3 c_a_3_w3 f_a_3_w3 c_a_4_w3 f_a_4_w3 c_f_0_w3 f_f_0_w3 c_r_0_w3 f_r_0_w3 c_r_1_w3 f_r_1_w3 c_r_2_w3 f_r_2_w3 c_r_3_w3 f_r_3_w3 c_r_4_w3 f_r_4_w3 c_q_0_w3 f_q_0_w3 c_q_1_w3 f_q_1_w3 c_a_0_w4 f_a_0_w4 c_a_1_w4 f_a_1_w4 c_a_2_w4 f_a_2_w4 c_a_3_w4 f_a_3_w4 c_a_4_w4 f_a_4_w4 c_f_0_w4 f_f_0_w4 c_r_0_w4 f_r_0_w4 c_r_1_w4 f_r_1_w4 c_r_2_w4 f_r_2_w4 c_r_3_w4 f_r_3_w4 c_r_4_w4 f_r_4_w4 c_q_0_w4 f_q_0_w4 c_q_1_w4 f_q_1_w4 c_o_0_w4 f_o_0_w4 c_o_1_w4 f_o_1_w4 c_o_2_w4 f_o_2_w4 c_o_3_w4 f_o_3_w4 c_o_4_w4 f_o_4_w4
    replace x_a := x_a.from_ h_w5
    replace x_f := x_f.from_ h_w5
    replace x_r := x_r.from_ h_w5
    replace x_q := x_q.from_ h_w5
    replace x_o := x_o.from_ h_w5
    replace oM := oM.below h_w5
    have B_w5 := B_w4.trans (h_w5.mono B_w4.size)
    have s_w5 := h_w5.size
    rw [HG.out] at oG
    obtain ⟨Ag, cg, rfl, -, -, -⟩ := rv_slice oG.rd
    have c_a_0_w5 := x_a.cell (i := 0) rfl
    have f_a_0_w5 := x_a.frozen 0
    have c_a_1_w5 := x_a.cell (i := 1) rfl
    have f_a_1_w5 := x_a.frozen 1
    have c_a_2_w5 := x_a.cell (i := 2) rfl
    have f_a_2_w5 := x_a.frozen 2
    have c_a_3_w5 := x_a.cell (i := 3) rfl
    have f_a_3_w5 := x_a.frozen 3
    have c_a_4_w5 := x_a.cell (i := 4) rfl
    have f_a_4_w5 := x_a.frozen 4
    have c_f_0_w5 := x_f.cell (i := 0) rfl
    have f_f_0_w5 := x_f.frozen 0
    have c_r_0_w5 := x_r.cell (i := 0) rfl
    have f_r_0_w5 := x_r.frozen 0
    have c_r_1_w5 := x_r.cell (i := 1) rfl
    have f_r_1_w5 := x_r.frozen 1
    have c_r_2_w5 := x_r.cell (i := 2) rfl
    have f_r_2_w5 := x_r.frozen 2
    have c_r_3_w5 := x_r.cell (i := 3) rfl
    have f_r_3_w5 := x_r.frozen 3
    have c_r_4_w5 := x_r.cell (i := 4) rfl
    have f_r_4_w5 := x_r.frozen 4
    have c_q_0_w5 := x_q.cell (i := 0) rfl
    have f_q_0_w5 := x_q.frozen 0
    have c_q_1_w5 := x_q.cell (i := 1) rfl
    have f_q_1_w5 := x_q.frozen 1
    have c_o_0_w5 := x_o.cell (i := 0) rfl
    have f_o_0_w5 := x_o.frozen 0
    have c_o_1_w5 := x_o.cell (i := 1) rfl
    have f_o_1_w5 := x_o.frozen 1
    have c_o_2_w5 := x_o.cell (i := 2) rfl
    have f_o_2_w5 := x_o.frozen 2
    have c_o_3_w5 := x_o.cell (i := 3) rfl
    have f_o_3_w5 := x_o.frozen 3
    have c_o_4_w5 := x_o.cell (i := 4) rfl
    have f_o_4_w5 := x_o.frozen 4
    obtain ⟨w6, e_w6, s_w6, h_w6, y⟩ := set_step x_o 4 (.slice Ag G.length cg)
    have s_w6_1 := Nat.le_of_eq s_w6
    have s_w6_2 := Nat.le_of_eq s_w6.symm
    clear s_w6
    replace x_a := x_a.chg h_w6 (by omega)
    replace x_f := x_f.chg h_w6 (by omega)
    replace x_r := x_r.chg h_w6 (by omega)
    replace x_q := x_q.chg h_w6 (by omega)
    replace oM := oM.chg h_w6 (by omega)
    replace oG := oG.chg h_w6 (by omega)
    have B_w6 := Below.chg_ B_w5 h_w6 (by omega) (by omega)
    replace x_o : Vr w6 (w3.heap.size) 27 [.int .i64 a.Have, .int .i64 a.State, .int .i64 a.By, .slice A1 a.Marks.length c1, .slice Ag G.length cg] := y
    clear y
    have c_a_0_w6 := x_a.cell (i := 0) rfl
    have f_a_0_w6 := x_a.frozen 0
    have c_a_1_w6 := x_a.cell (i := 1) rfl
    have f_a_1_w6 := x_a.frozen 1
    have c_a_2_w6 := x_a.cell (i := 2) rfl
    have f_a_2_w6 := x_a.frozen 2
    have c_a_3_w6 := x_a.cell (i := 3) rfl
    have f_a_3_w6 := x_a.frozen 3
    have c_a_4_w6 := x_a.cell (i := 4) rfl
    have f_a_4_w6 := x_a.frozen 4
    have c_f_0_w6 := x_f.cell (i := 0) rfl
    have f_f_0_w6 := x_f.frozen 0
    have c_r_0_w6 := x_r.cell (i := 0) rfl
    have f_r_0_w6 := x_r.frozen 0
    have c_r_1_w6 := x_r.cell (i := 1) rfl
    have f_r_1_w6 := x_r.frozen 1
    have c_r_2_w6 := x_r.cell (i := 2) rfl
    have f_r_2_w6 := x_r.frozen 2
    have c_r_3_w6 := x_r.cell (i := 3) rfl
    have f_r_3_w6 := x_r.frozen 3
    have c_r_4_w6 := x_r.cell (i := 4) rfl
    have f_r_4_w6 := x_r.frozen 4
    have c_q_0_w6 := x_q.cell (i := 0) rfl
    have f_q_0_w6 := x_q.frozen 0
    have c_q_1_w6 := x_q.cell (i := 1) rfl
    have f_q_1_w6 := x_q.frozen 1
    have c_o_0_w6 := x_o.cell (i := 0) rfl
    have f_o_0_w6 := x_o.frozen 0
    have c_o_1_w6 := x_o.cell (i := 1) rfl
    have f_o_1_w6 := x_o.frozen 1
    have c_o_2_w6 := x_o.cell (i := 2) rfl
    have f_o_2_w6 := x_o.frozen 2
    have c_o_3_w6 := x_o.cell (i := 3) rfl
    have f_o_3_w6 := x_o.frozen 3
    have c_o_4_w6 := x_o.cell (i := 4) rfl
    have f_o_4_w6 := x_o.frozen 4
    obtain ⟨w7, e_w7, s_w7, h_w7, y⟩ := set_step x_o 1 (.int .i64 2)
    have s_w7_1 := Nat.le_of_eq s_w7
    have s_w7_2 := Nat.le_of_eq s_w7.symm
    clear s_w7
    replace x_a := x_a.chg h_w7 (by omega)
    replace x_f := x_f.chg h_w7 (by omega)
    replace x_r := x_r.chg h_w7 (by omega)
    replace x_q := x_q.chg h_w7 (by omega)
    replace oM := oM.chg h_w7 (by omega)
    replace oG := oG.chg h_w7 (by omega)
    have B_w7 := Below.chg_ B_w6 h_w7 (by omega) (by omega)
    replace x_o : Vr w7 (w3.heap.size) 27 [.int .i64 a.Have, .int .i64 2, .int .i64 a.By, .slice A1 a.Marks.length c1, .slice Ag G.length cg] := y
    clear y
    have c_a_0_w7 := x_a.cell (i := 0) rfl
    have f_a_0_w7 := x_a.frozen 0
    have c_a_1_w7 := x_a.cell (i := 1) rfl
    have f_a_1_w7 := x_a.frozen 1
    have c_a_2_w7 := x_a.cell (i := 2) rfl
    have f_a_2_w7 := x_a.frozen 2
    have c_a_3_w7 := x_a.cell (i := 3) rfl
    have f_a_3_w7 := x_a.frozen 3
    have c_a_4_w7 := x_a.cell (i := 4) rfl
    have f_a_4_w7 := x_a.frozen 4
    have c_f_0_w7 := x_f.cell (i := 0) rfl
    have f_f_0_w7 := x_f.frozen 0
    have c_r_0_w7 := x_r.cell (i := 0) rfl
    have f_r_0_w7 := x_r.frozen 0
    have c_r_1_w7 := x_r.cell (i := 1) rfl
    have f_r_1_w7 := x_r.frozen 1
    have c_r_2_w7 := x_r.cell (i := 2) rfl
    have f_r_2_w7 := x_r.frozen 2
    have c_r_3_w7 := x_r.cell (i := 3) rfl
    have f_r_3_w7 := x_r.frozen 3
    have c_r_4_w7 := x_r.cell (i := 4) rfl
    have f_r_4_w7 := x_r.frozen 4
    have c_q_0_w7 := x_q.cell (i := 0) rfl
    have f_q_0_w7 := x_q.frozen 0
    have c_q_1_w7 := x_q.cell (i := 1) rfl
    have f_q_1_w7 := x_q.frozen 1
    have c_o_0_w7 := x_o.cell (i := 0) rfl
    have f_o_0_w7 := x_o.frozen 0
    have c_o_1_w7 := x_o.cell (i := 1) rfl
    have f_o_1_w7 := x_o.frozen 1
    have c_o_2_w7 := x_o.cell (i := 2) rfl
    have f_o_2_w7 := x_o.frozen 2
    have c_o_3_w7 := x_o.cell (i := 3) rfl
    have f_o_3_w7 := x_o.frozen 3
    have c_o_4_w7 := x_o.cell (i := 4) rfl
    have f_o_4_w7 := x_o.frozen 4
    obtain ⟨w8, e_w8, s_w8, h_w8, y⟩ := store_step x_r [.int .i64 a.Have, .int .i64 2, .int .i64 a.By, .slice A1 a.Marks.length c1, .slice Ag G.length cg] rfl
    replace e_w8 : (((((w7.setCell ⟨w.heap.size + 1 + 1, 0, none⟩ (.int .i64 a.Have)).setCell ⟨w.heap.size + 1 + 1, 1, none⟩ (.int .i64 2)).setCell ⟨w.heap.size + 1 + 1, 2, none⟩ (.int .i64 a.By)).setCell ⟨w.heap.size + 1 + 1, 3, none⟩ (.slice A1 a.Marks.length c1)).setCell ⟨w.heap.size + 1 + 1, 4, none⟩ (.slice Ag G.length cg)) = w8 := e_w8
    have s_w8_1 := Nat.le_of_eq s_w8
    have s_w8_2 := Nat.le_of_eq s_w8.symm
    clear s_w8
    replace x_a := x_a.chg h_w8 (by omega)
    replace x_f := x_f.chg h_w8 (by omega)
    replace x_q := x_q.chg h_w8 (by omega)
    replace x_o := x_o.chg h_w8 (by omega)
    replace oM := oM.chg h_w8 (by omega)
    replace oG := oG.chg h_w8 (by omega)
    have B_w8 := Below.chg_ B_w7 h_w8 (by omega) (by omega)
    replace x_r : Vr w8 (w.heap.size + 1 + 1) 27 [.int .i64 a.Have, .int .i64 2, .int .i64 a.By, .slice A1 a.Marks.length c1, .slice Ag G.length cg] := y
    clear y
    have c_r_0_w8 := x_r.cell (i := 0) rfl
    have f_r_0_w8 := x_r.frozen 0
    have c_r_1_w8 := x_r.cell (i := 1) rfl
    have f_r_1_w8 := x_r.frozen 1
    have c_r_2_w8 := x_r.cell (i := 2) rfl
    have f_r_2_w8 := x_r.frozen 2
    have c_r_3_w8 := x_r.cell (i := 3) rfl
    have f_r_3_w8 := x_r.frozen 3
    have c_r_4_w8 := x_r.cell (i := 4) rfl
    have f_r_4_w8 := x_r.frozen 4
    go_wp2
    refine ret_cell_tmp (by rfl) (by rfl) x_r Try.underlying27 sz_acct (by rfl) ?_
    rw [HM.out, HB9.out]
    exact ⟨_, rfl, ov_acct (d := ⟨a.Have, 2, a.By, a.Marks, G⟩) oM oG (by omega), B_w8⟩
  case neg =>
    have gE : ((G.length : Int) == n) = false := by simpa using hE
    have HM : Hid (acctRep a d x n = ⟨a.Have, a.State, a.By, a.Marks, G⟩) := by show _ = _; unfold acctRep; rw [if_pos HB9.out, HG.out, if_neg hE]
    clear hE
    go_enter Try.func17, Try.ntmps17
    go_wp2_with fail
    refine (iNode_any _ _).mono ?_
    rintro e w' ⟨rfl, rfl⟩
    rw [HN.out]
    go_wp2_with fail
    refine (iNum_any _ _).mono ?_
    rintro e w' ⟨rfl, rfl⟩
    rw [HV.out]
    go_wp2_with fail
    refine (iRepOf_c (n := d) (rR.from_ B0)).mono ?_
    rintro e w1 ⟨u_, rfl, ou, h_w1⟩
    clear c_a_0_wa f_a_0_wa c_a_1_wa f_a_1_wa c_a_2_wa f_a_2_wa c_a_3_wa f_a_3_wa c_a_4_wa f_a_4_wa c_f_0_wa f_f_0_wa c_r_0_wa f_r_0_wa c_r_1_wa f_r_1_wa c_r_2_wa f_r_2_wa c_r_3_wa f_r_3_wa c_r_4_wa f_r_4_wa
    replace x_a := x_a.from_ h_w1
    replace x_f := x_f.from_ h_w1
    replace x_r := x_r.from_ h_w1
    have B_w1 := B0.trans (h_w1.mono B0.size)
    have s_w1 := h_w1.size
    rw [HH.out]
    obtain rfl := rv_rep ou.rd
    clear ou
    have c_a_0_w1 := x_a.cell (i := 0) rfl
    have f_a_0_w1 := x_a.frozen 0
    have c_a_1_w1 := x_a.cell (i := 1) rfl
    have f_a_1_w1 := x_a.frozen 1
    have c_a_2_w1 := x_a.cell (i := 2) rfl
    have f_a_2_w1 := x_a.frozen 2
    have c_a_3_w1 := x_a.cell (i := 3) rfl
    have f_a_3_w1 := x_a.frozen 3
    have c_a_4_w1 := x_a.cell (i := 4) rfl
    have f_a_4_w1 := x_a.frozen 4
    have c_f_0_w1 := x_f.cell (i := 0) rfl
    have f_f_0_w1 := x_f.frozen 0
    have c_r_0_w1 := x_r.cell (i := 0) rfl
    have f_r_0_w1 := x_r.frozen 0
    have c_r_1_w1 := x_r.cell (i := 1) rfl
    have f_r_1_w1 := x_r.frozen 1
    have c_r_2_w1 := x_r.cell (i := 2) rfl
    have f_r_2_w1 := x_r.frozen 2
    have c_r_3_w1 := x_r.cell (i := 3) rfl
    have f_r_3_w1 := x_r.frozen 3
    have c_r_4_w1 := x_r.cell (i := 4) rfl
    have f_r_4_w1 := x_r.frozen 4
    obtain ⟨w2, e_w2, s_w2, h_w2, x_q⟩ := alloc_step w1 57 [.int .i64 (repFirst a.Reps d).Node, .int .i64 (repFirst a.Reps d).Amt]
    have s_w2_1 := Nat.le_of_eq s_w2
    have s_w2_2 := Nat.le_of_eq s_w2.symm
    clear s_w2
    replace x_a := x_a.from_ h_w2
    replace x_f := x_f.from_ h_w2
    replace x_r := x_r.from_ h_w2
    have B_w2 := B_w1.trans (h_w2.mono B_w1.size)
    have c_a_0_w2 := x_a.cell (i := 0) rfl
    have f_a_0_w2 := x_a.frozen 0
    have c_a_1_w2 := x_a.cell (i := 1) rfl
    have f_a_1_w2 := x_a.frozen 1
    have c_a_2_w2 := x_a.cell (i := 2) rfl
    have f_a_2_w2 := x_a.frozen 2
    have c_a_3_w2 := x_a.cell (i := 3) rfl
    have f_a_3_w2 := x_a.frozen 3
    have c_a_4_w2 := x_a.cell (i := 4) rfl
    have f_a_4_w2 := x_a.frozen 4
    have c_f_0_w2 := x_f.cell (i := 0) rfl
    have f_f_0_w2 := x_f.frozen 0
    have c_r_0_w2 := x_r.cell (i := 0) rfl
    have f_r_0_w2 := x_r.frozen 0
    have c_r_1_w2 := x_r.cell (i := 1) rfl
    have f_r_1_w2 := x_r.frozen 1
    have c_r_2_w2 := x_r.cell (i := 2) rfl
    have f_r_2_w2 := x_r.frozen 2
    have c_r_3_w2 := x_r.cell (i := 3) rfl
    have f_r_3_w2 := x_r.frozen 3
    have c_r_4_w2 := x_r.cell (i := 4) rfl
    have f_r_4_w2 := x_r.frozen 4
    have c_q_0_w2 := x_q.cell (i := 0) rfl
    have f_q_0_w2 := x_q.frozen 0
    have c_q_1_w2 := x_q.cell (i := 1) rfl
    have f_q_1_w2 := x_q.frozen 1
    go_wp2_with fail
    refine (iACopy_c (h0.from_ B_w2) hm).mono ?_
    rintro e w3 ⟨u9, rfl, ou, h_w3⟩
    clear c_a_0_w1 f_a_0_w1 c_a_1_w1 f_a_1_w1 c_a_2_w1 f_a_2_w1 c_a_3_w1 f_a_3_w1 c_a_4_w1 f_a_4_w1 c_f_0_w1 f_f_0_w1 c_r_0_w1 f_r_0_w1 c_r_1_w1 f_r_1_w1 c_r_2_w1 f_r_2_w1 c_r_3_w1 f_r_3_w1 c_r_4_w1 f_r_4_w1 c_a_0_w2 f_a_0_w2 c_a_1_w2 f_a_1_w2 c_a_2_w2 f_a_2_w2 c_a_3_w2 f_a_3_w2 c_a_4_w2 f_a_4_w2 c_f_0_w2 f_f_0_w2 c_r_0_w2 f_r_0_w2 c_r_1_w2 f_r_1_w2 c_r_2_w2 f_r_2_w2 c_r_3_w2 f_r_3_w2 c_r_4_w2 f_r_4_w2 c_q_0_w2 f_q_0_w2 c_q_1_w2 f_q_1_w2
    replace x_a := x_a.from_ h_w3
    replace x_f := x_f.from_ h_w3
    replace x_r := x_r.from_ h_w3
    replace x_q := x_q.from_ h_w3
    have B_w3 := B_w2.trans (h_w3.mono B_w2.size)
    have s_w3 := h_w3.size
    obtain ⟨A1, c1, A2, c2, rfl, oM, oR⟩ := ov_acct_parts ou
    clear ou oR
    have c_a_0_w3 := x_a.cell (i := 0) rfl
    have f_a_0_w3 := x_a.frozen 0
    have c_a_1_w3 := x_a.cell (i := 1) rfl
    have f_a_1_w3 := x_a.frozen 1
    have c_a_2_w3 := x_a.cell (i := 2) rfl
    have f_a_2_w3 := x_a.frozen 2
    have c_a_3_w3 := x_a.cell (i := 3) rfl
    have f_a_3_w3 := x_a.frozen 3
    have c_a_4_w3 := x_a.cell (i := 4) rfl
    have f_a_4_w3 := x_a.frozen 4
    have c_f_0_w3 := x_f.cell (i := 0) rfl
    have f_f_0_w3 := x_f.frozen 0
    have c_r_0_w3 := x_r.cell (i := 0) rfl
    have f_r_0_w3 := x_r.frozen 0
    have c_r_1_w3 := x_r.cell (i := 1) rfl
    have f_r_1_w3 := x_r.frozen 1
    have c_r_2_w3 := x_r.cell (i := 2) rfl
    have f_r_2_w3 := x_r.frozen 2
    have c_r_3_w3 := x_r.cell (i := 3) rfl
    have f_r_3_w3 := x_r.frozen 3
    have c_r_4_w3 := x_r.cell (i := 4) rfl
    have f_r_4_w3 := x_r.frozen 4
    have c_q_0_w3 := x_q.cell (i := 0) rfl
    have f_q_0_w3 := x_q.frozen 0
    have c_q_1_w3 := x_q.cell (i := 1) rfl
    have f_q_1_w3 := x_q.frozen 1
    obtain ⟨w4, e_w4, s_w4, h_w4, x_o⟩ := alloc_step w3 27 [.int .i64 a.Have, .int .i64 a.State, .int .i64 a.By, .slice A1 a.Marks.length c1, .slice A2 a.Reps.length c2]
    have s_w4_1 := Nat.le_of_eq s_w4
    have s_w4_2 := Nat.le_of_eq s_w4.symm
    clear s_w4
    replace x_a := x_a.from_ h_w4
    replace x_f := x_f.from_ h_w4
    replace x_r := x_r.from_ h_w4
    replace x_q := x_q.from_ h_w4
    replace oM := oM.below h_w4
    have B_w4 := B_w3.trans (h_w4.mono B_w3.size)
    have c_a_0_w4 := x_a.cell (i := 0) rfl
    have f_a_0_w4 := x_a.frozen 0
    have c_a_1_w4 := x_a.cell (i := 1) rfl
    have f_a_1_w4 := x_a.frozen 1
    have c_a_2_w4 := x_a.cell (i := 2) rfl
    have f_a_2_w4 := x_a.frozen 2
    have c_a_3_w4 := x_a.cell (i := 3) rfl
    have f_a_3_w4 := x_a.frozen 3
    have c_a_4_w4 := x_a.cell (i := 4) rfl
    have f_a_4_w4 := x_a.frozen 4
    have c_f_0_w4 := x_f.cell (i := 0) rfl
    have f_f_0_w4 := x_f.frozen 0
    have c_r_0_w4 := x_r.cell (i := 0) rfl
    have f_r_0_w4 := x_r.frozen 0
    have c_r_1_w4 := x_r.cell (i := 1) rfl
    have f_r_1_w4 := x_r.frozen 1
    have c_r_2_w4 := x_r.cell (i := 2) rfl
    have f_r_2_w4 := x_r.frozen 2
    have c_r_3_w4 := x_r.cell (i := 3) rfl
    have f_r_3_w4 := x_r.frozen 3
    have c_r_4_w4 := x_r.cell (i := 4) rfl
    have f_r_4_w4 := x_r.frozen 4
    have c_q_0_w4 := x_q.cell (i := 0) rfl
    have f_q_0_w4 := x_q.frozen 0
    have c_q_1_w4 := x_q.cell (i := 1) rfl
    have f_q_1_w4 := x_q.frozen 1
    have c_o_0_w4 := x_o.cell (i := 0) rfl
    have f_o_0_w4 := x_o.frozen 0
    have c_o_1_w4 := x_o.cell (i := 1) rfl
    have f_o_1_w4 := x_o.frozen 1
    have c_o_2_w4 := x_o.cell (i := 2) rfl
    have f_o_2_w4 := x_o.frozen 2
    have c_o_3_w4 := x_o.cell (i := 3) rfl
    have f_o_3_w4 := x_o.frozen 3
    have c_o_4_w4 := x_o.cell (i := 4) rfl
    have f_o_4_w4 := x_o.frozen 4
    go_wp2_with fail
    refine (iPutR_c (r := ⟨d, x⟩) (rR.from_ B_w4) hbR (x_f.cell (i := 0) rfl)).mono ?_
    rintro e w5 ⟨v2, rfl, oG, h_w5⟩
    clear c_a_0_w3 f_a_0_w3 c_a_1_w3 f_a_1_w3 c_a_2_w3 f_a_2_w3 c_a_3_w3 f_a_3_w3 c_a_4_w3 f_a_4_w3 c_f_0_w3 f_f_0_w3 c_r_0_w3 f_r_0_w3 c_r_1_w3 f_r_1_w3 c_r_2_w3 f_r_2_w3 c_r_3_w3 f_r_3_w3 c_r_4_w3 f_r_4_w3 c_q_0_w3 f_q_0_w3 c_q_1_w3 f_q_1_w3 c_a_0_w4 f_a_0_w4 c_a_1_w4 f_a_1_w4 c_a_2_w4 f_a_2_w4 c_a_3_w4 f_a_3_w4 c_a_4_w4 f_a_4_w4 c_f_0_w4 f_f_0_w4 c_r_0_w4 f_r_0_w4 c_r_1_w4 f_r_1_w4 c_r_2_w4 f_r_2_w4 c_r_3_w4 f_r_3_w4 c_r_4_w4 f_r_4_w4 c_q_0_w4 f_q_0_w4 c_q_1_w4 f_q_1_w4 c_o_0_w4 f_o_0_w4 c_o_1_w4 f_o_1_w4 c_o_2_w4 f_o_2_w4 c_o_3_w4 f_o_3_w4 c_o_4_w4 f_o_4_w4
    replace x_a := x_a.from_ h_w5
    replace x_f := x_f.from_ h_w5
    replace x_r := x_r.from_ h_w5
    replace x_q := x_q.from_ h_w5
    replace x_o := x_o.from_ h_w5
    replace oM := oM.below h_w5
    have B_w5 := B_w4.trans (h_w5.mono B_w4.size)
    have s_w5 := h_w5.size
    rw [HG.out] at oG
    obtain ⟨Ag, cg, rfl, -, -, -⟩ := rv_slice oG.rd
    have c_a_0_w5 := x_a.cell (i := 0) rfl
    have f_a_0_w5 := x_a.frozen 0
    have c_a_1_w5 := x_a.cell (i := 1) rfl
    have f_a_1_w5 := x_a.frozen 1
    have c_a_2_w5 := x_a.cell (i := 2) rfl
    have f_a_2_w5 := x_a.frozen 2
    have c_a_3_w5 := x_a.cell (i := 3) rfl
    have f_a_3_w5 := x_a.frozen 3
    have c_a_4_w5 := x_a.cell (i := 4) rfl
    have f_a_4_w5 := x_a.frozen 4
    have c_f_0_w5 := x_f.cell (i := 0) rfl
    have f_f_0_w5 := x_f.frozen 0
    have c_r_0_w5 := x_r.cell (i := 0) rfl
    have f_r_0_w5 := x_r.frozen 0
    have c_r_1_w5 := x_r.cell (i := 1) rfl
    have f_r_1_w5 := x_r.frozen 1
    have c_r_2_w5 := x_r.cell (i := 2) rfl
    have f_r_2_w5 := x_r.frozen 2
    have c_r_3_w5 := x_r.cell (i := 3) rfl
    have f_r_3_w5 := x_r.frozen 3
    have c_r_4_w5 := x_r.cell (i := 4) rfl
    have f_r_4_w5 := x_r.frozen 4
    have c_q_0_w5 := x_q.cell (i := 0) rfl
    have f_q_0_w5 := x_q.frozen 0
    have c_q_1_w5 := x_q.cell (i := 1) rfl
    have f_q_1_w5 := x_q.frozen 1
    have c_o_0_w5 := x_o.cell (i := 0) rfl
    have f_o_0_w5 := x_o.frozen 0
    have c_o_1_w5 := x_o.cell (i := 1) rfl
    have f_o_1_w5 := x_o.frozen 1
    have c_o_2_w5 := x_o.cell (i := 2) rfl
    have f_o_2_w5 := x_o.frozen 2
    have c_o_3_w5 := x_o.cell (i := 3) rfl
    have f_o_3_w5 := x_o.frozen 3
    have c_o_4_w5 := x_o.cell (i := 4) rfl
    have f_o_4_w5 := x_o.frozen 4
    obtain ⟨w6, e_w6, s_w6, h_w6, y⟩ := set_step x_o 4 (.slice Ag G.length cg)
    have s_w6_1 := Nat.le_of_eq s_w6
    have s_w6_2 := Nat.le_of_eq s_w6.symm
    clear s_w6
    replace x_a := x_a.chg h_w6 (by omega)
    replace x_f := x_f.chg h_w6 (by omega)
    replace x_r := x_r.chg h_w6 (by omega)
    replace x_q := x_q.chg h_w6 (by omega)
    replace oM := oM.chg h_w6 (by omega)
    replace oG := oG.chg h_w6 (by omega)
    have B_w6 := Below.chg_ B_w5 h_w6 (by omega) (by omega)
    replace x_o : Vr w6 (w3.heap.size) 27 [.int .i64 a.Have, .int .i64 a.State, .int .i64 a.By, .slice A1 a.Marks.length c1, .slice Ag G.length cg] := y
    clear y
    have c_a_0_w6 := x_a.cell (i := 0) rfl
    have f_a_0_w6 := x_a.frozen 0
    have c_a_1_w6 := x_a.cell (i := 1) rfl
    have f_a_1_w6 := x_a.frozen 1
    have c_a_2_w6 := x_a.cell (i := 2) rfl
    have f_a_2_w6 := x_a.frozen 2
    have c_a_3_w6 := x_a.cell (i := 3) rfl
    have f_a_3_w6 := x_a.frozen 3
    have c_a_4_w6 := x_a.cell (i := 4) rfl
    have f_a_4_w6 := x_a.frozen 4
    have c_f_0_w6 := x_f.cell (i := 0) rfl
    have f_f_0_w6 := x_f.frozen 0
    have c_r_0_w6 := x_r.cell (i := 0) rfl
    have f_r_0_w6 := x_r.frozen 0
    have c_r_1_w6 := x_r.cell (i := 1) rfl
    have f_r_1_w6 := x_r.frozen 1
    have c_r_2_w6 := x_r.cell (i := 2) rfl
    have f_r_2_w6 := x_r.frozen 2
    have c_r_3_w6 := x_r.cell (i := 3) rfl
    have f_r_3_w6 := x_r.frozen 3
    have c_r_4_w6 := x_r.cell (i := 4) rfl
    have f_r_4_w6 := x_r.frozen 4
    have c_q_0_w6 := x_q.cell (i := 0) rfl
    have f_q_0_w6 := x_q.frozen 0
    have c_q_1_w6 := x_q.cell (i := 1) rfl
    have f_q_1_w6 := x_q.frozen 1
    have c_o_0_w6 := x_o.cell (i := 0) rfl
    have f_o_0_w6 := x_o.frozen 0
    have c_o_1_w6 := x_o.cell (i := 1) rfl
    have f_o_1_w6 := x_o.frozen 1
    have c_o_2_w6 := x_o.cell (i := 2) rfl
    have f_o_2_w6 := x_o.frozen 2
    have c_o_3_w6 := x_o.cell (i := 3) rfl
    have f_o_3_w6 := x_o.frozen 3
    have c_o_4_w6 := x_o.cell (i := 4) rfl
    have f_o_4_w6 := x_o.frozen 4
    obtain ⟨w7, e_w7, s_w7, h_w7, y⟩ := store_step x_r [.int .i64 a.Have, .int .i64 a.State, .int .i64 a.By, .slice A1 a.Marks.length c1, .slice Ag G.length cg] rfl
    replace e_w7 : (((((w6.setCell ⟨w.heap.size + 1 + 1, 0, none⟩ (.int .i64 a.Have)).setCell ⟨w.heap.size + 1 + 1, 1, none⟩ (.int .i64 a.State)).setCell ⟨w.heap.size + 1 + 1, 2, none⟩ (.int .i64 a.By)).setCell ⟨w.heap.size + 1 + 1, 3, none⟩ (.slice A1 a.Marks.length c1)).setCell ⟨w.heap.size + 1 + 1, 4, none⟩ (.slice Ag G.length cg)) = w7 := e_w7
    have s_w7_1 := Nat.le_of_eq s_w7
    have s_w7_2 := Nat.le_of_eq s_w7.symm
    clear s_w7
    replace x_a := x_a.chg h_w7 (by omega)
    replace x_f := x_f.chg h_w7 (by omega)
    replace x_q := x_q.chg h_w7 (by omega)
    replace x_o := x_o.chg h_w7 (by omega)
    replace oM := oM.chg h_w7 (by omega)
    replace oG := oG.chg h_w7 (by omega)
    have B_w7 := Below.chg_ B_w6 h_w7 (by omega) (by omega)
    replace x_r : Vr w7 (w.heap.size + 1 + 1) 27 [.int .i64 a.Have, .int .i64 a.State, .int .i64 a.By, .slice A1 a.Marks.length c1, .slice Ag G.length cg] := y
    clear y
    have c_r_0_w7 := x_r.cell (i := 0) rfl
    have f_r_0_w7 := x_r.frozen 0
    have c_r_1_w7 := x_r.cell (i := 1) rfl
    have f_r_1_w7 := x_r.frozen 1
    have c_r_2_w7 := x_r.cell (i := 2) rfl
    have f_r_2_w7 := x_r.frozen 2
    have c_r_3_w7 := x_r.cell (i := 3) rfl
    have f_r_3_w7 := x_r.frozen 3
    have c_r_4_w7 := x_r.cell (i := 4) rfl
    have f_r_4_w7 := x_r.frozen 4
    go_wp2
    refine ret_cell_tmp (by rfl) (by rfl) x_r Try.underlying27 sz_acct (by rfl) ?_
    rw [HM.out, HB9.out]
    exact ⟨_, rfl, ov_acct (d := ⟨a.Have, a.State, a.By, a.Marks, G⟩) oM oG (by omega), B_w7⟩

end Go.Proofs.Ytopmojfcdmcmbaa
