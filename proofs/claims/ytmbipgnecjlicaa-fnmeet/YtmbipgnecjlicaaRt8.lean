/- Rights: the contract of spec.Meet. Laid by a program of ours (src/rt8.py). -/
import Derived.Test.YtmbipgnecjlicaaMeetMath
namespace Go.Proofs.Ytmbipgnecjlicaa
open Go.RowKit
set_option linter.unusedVariables false

set_option maxRecDepth 100000 in
set_option maxHeartbeats 4000000 in
theorem sMeet_c {w : World} {v v' : Value} {r q : MRights} (h : RV rightsL w v r) (h' : RV rightsL w v' q) (hm : r.bulk ≤ 16777216) :
    Calls Try.prog 40 #[v, v'] w (NewVB rightsL w (meetM r q) (meetB r q)) := by
  have h0 := h
  obtain ⟨AG, cG, AS, cS, rfl, hrG, hrS, lG, lS⟩ := rv_rights2 h
  clear h
  have h0' := h'
  obtain ⟨AG', cG', AS', cS', rfl, hrG', hrS', lG', lS'⟩ := rv_rights2 h'
  clear h'
  unfold maxLen at lG lS lG' lS'
  obtain ⟨wa, hwa, B0, sa, x_a, x_b, x_r⟩ := frame3 w 27 [.slice AG r.Give.length cG, .slice AS r.Spent.length cS] 27 [.slice AG' q.Give.length cG', .slice AS' q.Spent.length cS'] 27 [.slice none 0 0, .slice none 0 0]
  have sa_1 := Nat.le_of_eq sa
  have sa_2 := Nat.le_of_eq sa.symm
  clear sa
  have c_a_0_wa := x_a.cell (i := 0) rfl
  have f_a_0_wa := x_a.frozen 0
  have c_a_1_wa := x_a.cell (i := 1) rfl
  have f_a_1_wa := x_a.frozen 1
  have c_b_0_wa := x_b.cell (i := 0) rfl
  have f_b_0_wa := x_b.frozen 0
  have c_b_1_wa := x_b.cell (i := 1) rfl
  have f_b_1_wa := x_b.frozen 1
  have c_r_0_wa := x_r.cell (i := 0) rfl
  have f_r_0_wa := x_r.frozen 0
  have c_r_1_wa := x_r.cell (i := 1) rfl
  have f_r_1_wa := x_r.frozen 1
  by_cases hr : rightsOkB r = true
  case neg =>
    replace hr : rightsOkB r = false := by simpa using hr
    have HR := Lib.hid hr
    have HB0 : Hid (meetB r q = false) := by show _ = _; unfold meetB; rw [hr]; rfl
    clear hr
    go_enter Try.func40, Try.ntmps40
    go_wp2_with fail
    refine (sRightsOk_c (h0.from_ B0)).mono ?_
    rintro e w1 ⟨rfl, h_w1⟩
    clear c_a_0_wa f_a_0_wa c_a_1_wa f_a_1_wa c_b_0_wa f_b_0_wa c_b_1_wa f_b_1_wa c_r_0_wa f_r_0_wa c_r_1_wa f_r_1_wa
    replace x_a := x_a.from_ h_w1
    replace x_b := x_b.from_ h_w1
    replace x_r := x_r.from_ h_w1
    have B_w1 := B0.trans (h_w1.mono B0.size)
    have s_w1 := h_w1.size
    rw [HR.out]
    have c_a_0_w1 := x_a.cell (i := 0) rfl
    have f_a_0_w1 := x_a.frozen 0
    have c_a_1_w1 := x_a.cell (i := 1) rfl
    have f_a_1_w1 := x_a.frozen 1
    have c_b_0_w1 := x_b.cell (i := 0) rfl
    have f_b_0_w1 := x_b.frozen 0
    have c_b_1_w1 := x_b.cell (i := 1) rfl
    have f_b_1_w1 := x_b.frozen 1
    have c_r_0_w1 := x_r.cell (i := 0) rfl
    have f_r_0_w1 := x_r.frozen 0
    have c_r_1_w1 := x_r.cell (i := 1) rfl
    have f_r_1_w1 := x_r.frozen 1
    have HM : Hid (meetM r q = rZ) := if_neg (by rw [HB0.out]; decide)
    have i_r_0 := x_r.same (i := 0) rfl
    have i_r_1 := x_r.same (i := 1) rfl
    go_wp2
    refine ret_cell_tmp (by rfl) (by rfl) x_r Try.underlying27 sz_rights (by rfl) ?_
    rw [HM.out, HB0.out]
    exact ⟨_, rfl, ov_rZ (Nat.le_refl _), B_w1⟩
  have HR := Lib.hid hr
  by_cases hq : rightsOkB q = true
  case neg =>
    replace hq : rightsOkB q = false := by simpa using hq
    have HQ := Lib.hid hq
    have HB0 : Hid (meetB r q = false) := by show _ = _; unfold meetB; rw [hq]; simp
    clear hr hq
    go_enter Try.func40, Try.ntmps40
    go_wp2_with fail
    refine (sRightsOk_c (h0.from_ B0)).mono ?_
    rintro e w1 ⟨rfl, h_w1⟩
    clear c_a_0_wa f_a_0_wa c_a_1_wa f_a_1_wa c_b_0_wa f_b_0_wa c_b_1_wa f_b_1_wa c_r_0_wa f_r_0_wa c_r_1_wa f_r_1_wa
    replace x_a := x_a.from_ h_w1
    replace x_b := x_b.from_ h_w1
    replace x_r := x_r.from_ h_w1
    have B_w1 := B0.trans (h_w1.mono B0.size)
    have s_w1 := h_w1.size
    rw [HR.out]
    have c_a_0_w1 := x_a.cell (i := 0) rfl
    have f_a_0_w1 := x_a.frozen 0
    have c_a_1_w1 := x_a.cell (i := 1) rfl
    have f_a_1_w1 := x_a.frozen 1
    have c_b_0_w1 := x_b.cell (i := 0) rfl
    have f_b_0_w1 := x_b.frozen 0
    have c_b_1_w1 := x_b.cell (i := 1) rfl
    have f_b_1_w1 := x_b.frozen 1
    have c_r_0_w1 := x_r.cell (i := 0) rfl
    have f_r_0_w1 := x_r.frozen 0
    have c_r_1_w1 := x_r.cell (i := 1) rfl
    have f_r_1_w1 := x_r.frozen 1
    go_wp2_with fail
    refine (sRightsOk_c (h0'.from_ B_w1)).mono ?_
    rintro e w2 ⟨rfl, h_w2⟩
    clear c_a_0_w1 f_a_0_w1 c_a_1_w1 f_a_1_w1 c_b_0_w1 f_b_0_w1 c_b_1_w1 f_b_1_w1 c_r_0_w1 f_r_0_w1 c_r_1_w1 f_r_1_w1
    replace x_a := x_a.from_ h_w2
    replace x_b := x_b.from_ h_w2
    replace x_r := x_r.from_ h_w2
    have B_w2 := B_w1.trans (h_w2.mono B_w1.size)
    have s_w2 := h_w2.size
    rw [HQ.out]
    have c_a_0_w2 := x_a.cell (i := 0) rfl
    have f_a_0_w2 := x_a.frozen 0
    have c_a_1_w2 := x_a.cell (i := 1) rfl
    have f_a_1_w2 := x_a.frozen 1
    have c_b_0_w2 := x_b.cell (i := 0) rfl
    have f_b_0_w2 := x_b.frozen 0
    have c_b_1_w2 := x_b.cell (i := 1) rfl
    have f_b_1_w2 := x_b.frozen 1
    have c_r_0_w2 := x_r.cell (i := 0) rfl
    have f_r_0_w2 := x_r.frozen 0
    have c_r_1_w2 := x_r.cell (i := 1) rfl
    have f_r_1_w2 := x_r.frozen 1
    have HM : Hid (meetM r q = rZ) := if_neg (by rw [HB0.out]; decide)
    have i_r_0 := x_r.same (i := 0) rfl
    have i_r_1 := x_r.same (i := 1) rfl
    go_wp2
    refine ret_cell_tmp (by rfl) (by rfl) x_r Try.underlying27 sz_rights (by rfl) ?_
    rw [HM.out, HB0.out]
    exact ⟨_, rfl, ov_rZ (Nat.le_refl _), B_w2⟩
  have HQ := Lib.hid hq
  by_cases hl : r.Give.length = q.Give.length
  case neg =>
    have HB0 : Hid (meetB r q = false) := by show _ = _; unfold meetB; rw [decide_eq_false hl]; simp
    have t0 : ((r.Give.length : Int) != (q.Give.length : Int)) = true := by simp; omega
    have t1 : (r.Give.length != q.Give.length) = true := by simpa using hl
    clear hl hr hq
    go_enter Try.func40, Try.ntmps40
    go_wp2_with fail
    refine (sRightsOk_c (h0.from_ B0)).mono ?_
    rintro e w1 ⟨rfl, h_w1⟩
    clear c_a_0_wa f_a_0_wa c_a_1_wa f_a_1_wa c_b_0_wa f_b_0_wa c_b_1_wa f_b_1_wa c_r_0_wa f_r_0_wa c_r_1_wa f_r_1_wa
    replace x_a := x_a.from_ h_w1
    replace x_b := x_b.from_ h_w1
    replace x_r := x_r.from_ h_w1
    have B_w1 := B0.trans (h_w1.mono B0.size)
    have s_w1 := h_w1.size
    rw [HR.out]
    have c_a_0_w1 := x_a.cell (i := 0) rfl
    have f_a_0_w1 := x_a.frozen 0
    have c_a_1_w1 := x_a.cell (i := 1) rfl
    have f_a_1_w1 := x_a.frozen 1
    have c_b_0_w1 := x_b.cell (i := 0) rfl
    have f_b_0_w1 := x_b.frozen 0
    have c_b_1_w1 := x_b.cell (i := 1) rfl
    have f_b_1_w1 := x_b.frozen 1
    have c_r_0_w1 := x_r.cell (i := 0) rfl
    have f_r_0_w1 := x_r.frozen 0
    have c_r_1_w1 := x_r.cell (i := 1) rfl
    have f_r_1_w1 := x_r.frozen 1
    go_wp2_with fail
    refine (sRightsOk_c (h0'.from_ B_w1)).mono ?_
    rintro e w2 ⟨rfl, h_w2⟩
    clear c_a_0_w1 f_a_0_w1 c_a_1_w1 f_a_1_w1 c_b_0_w1 f_b_0_w1 c_b_1_w1 f_b_1_w1 c_r_0_w1 f_r_0_w1 c_r_1_w1 f_r_1_w1
    replace x_a := x_a.from_ h_w2
    replace x_b := x_b.from_ h_w2
    replace x_r := x_r.from_ h_w2
    have B_w2 := B_w1.trans (h_w2.mono B_w1.size)
    have s_w2 := h_w2.size
    rw [HQ.out]
    have c_a_0_w2 := x_a.cell (i := 0) rfl
    have f_a_0_w2 := x_a.frozen 0
    have c_a_1_w2 := x_a.cell (i := 1) rfl
    have f_a_1_w2 := x_a.frozen 1
    have c_b_0_w2 := x_b.cell (i := 0) rfl
    have f_b_0_w2 := x_b.frozen 0
    have c_b_1_w2 := x_b.cell (i := 1) rfl
    have f_b_1_w2 := x_b.frozen 1
    have c_r_0_w2 := x_r.cell (i := 0) rfl
    have f_r_0_w2 := x_r.frozen 0
    have c_r_1_w2 := x_r.cell (i := 1) rfl
    have f_r_1_w2 := x_r.frozen 1
    have HM : Hid (meetM r q = rZ) := if_neg (by rw [HB0.out]; decide)
    have i_r_0 := x_r.same (i := 0) rfl
    have i_r_1 := x_r.same (i := 1) rfl
    go_wp2
    refine ret_cell_tmp (by rfl) (by rfl) x_r Try.underlying27 sz_rights (by rfl) ?_
    rw [HM.out, HB0.out]
    exact ⟨_, rfl, ov_rZ (Nat.le_refl _), B_w2⟩
  have HE : Hid (meetB r q = rightsOkB (meetR r q)) := by show _ = _; unfold meetB; rw [hr, hq, decide_eq_true hl]; rfl
  have t0 : ((r.Give.length : Int) != (q.Give.length : Int)) = false := by simp; omega
  have t1 : (r.Give.length != q.Give.length) = false := by simp; omega
  have l1 := Nat.le_of_eq hl
  have l2 := Nat.le_of_eq hl.symm
  clear hl hr hq
  obtain ⟨p1, p2, -⟩ := form_parts (ok_form HR.out)
  obtain ⟨p1', p2', -⟩ := form_parts (ok_form HQ.out)
  obtain ⟨b', off', rfl⟩ := row_some hrG' (by omega)
  obtain ⟨b2', o2', rfl, -⟩ := rd_at hrS' (j := 0) (by omega)
  go_enter Try.func40, Try.ntmps40
  go_wp2_with fail
  refine (sRightsOk_c (h0.from_ B0)).mono ?_
  rintro e w1 ⟨rfl, h_w1⟩
  clear c_a_0_wa f_a_0_wa c_a_1_wa f_a_1_wa c_b_0_wa f_b_0_wa c_b_1_wa f_b_1_wa c_r_0_wa f_r_0_wa c_r_1_wa f_r_1_wa
  replace x_a := x_a.from_ h_w1
  replace x_b := x_b.from_ h_w1
  replace x_r := x_r.from_ h_w1
  have B_w1 := B0.trans (h_w1.mono B0.size)
  have s_w1 := h_w1.size
  rw [HR.out]
  have c_a_0_w1 := x_a.cell (i := 0) rfl
  have f_a_0_w1 := x_a.frozen 0
  have c_a_1_w1 := x_a.cell (i := 1) rfl
  have f_a_1_w1 := x_a.frozen 1
  have c_b_0_w1 := x_b.cell (i := 0) rfl
  have f_b_0_w1 := x_b.frozen 0
  have c_b_1_w1 := x_b.cell (i := 1) rfl
  have f_b_1_w1 := x_b.frozen 1
  have c_r_0_w1 := x_r.cell (i := 0) rfl
  have f_r_0_w1 := x_r.frozen 0
  have c_r_1_w1 := x_r.cell (i := 1) rfl
  have f_r_1_w1 := x_r.frozen 1
  go_wp2_with fail
  refine (sRightsOk_c (h0'.from_ B_w1)).mono ?_
  rintro e w2 ⟨rfl, h_w2⟩
  clear c_a_0_w1 f_a_0_w1 c_a_1_w1 f_a_1_w1 c_b_0_w1 f_b_0_w1 c_b_1_w1 f_b_1_w1 c_r_0_w1 f_r_0_w1 c_r_1_w1 f_r_1_w1
  replace x_a := x_a.from_ h_w2
  replace x_b := x_b.from_ h_w2
  replace x_r := x_r.from_ h_w2
  have B_w2 := B_w1.trans (h_w2.mono B_w1.size)
  have s_w2 := h_w2.size
  rw [HQ.out]
  have c_a_0_w2 := x_a.cell (i := 0) rfl
  have f_a_0_w2 := x_a.frozen 0
  have c_a_1_w2 := x_a.cell (i := 1) rfl
  have f_a_1_w2 := x_a.frozen 1
  have c_b_0_w2 := x_b.cell (i := 0) rfl
  have f_b_0_w2 := x_b.frozen 0
  have c_b_1_w2 := x_b.cell (i := 1) rfl
  have f_b_1_w2 := x_b.frozen 1
  have c_r_0_w2 := x_r.cell (i := 0) rfl
  have f_r_0_w2 := x_r.frozen 0
  have c_r_1_w2 := x_r.cell (i := 1) rfl
  have f_r_1_w2 := x_r.frozen 1
  go_wp2_with fail
  refine (sRCopy_c (h0.from_ B_w2) hm).mono ?_
  rintro e w3 ⟨u, rfl, ou, h_w3⟩
  clear c_a_0_w2 f_a_0_w2 c_a_1_w2 f_a_1_w2 c_b_0_w2 f_b_0_w2 c_b_1_w2 f_b_1_w2 c_r_0_w2 f_r_0_w2 c_r_1_w2 f_r_1_w2
  replace x_a := x_a.from_ h_w3
  replace x_b := x_b.from_ h_w3
  replace x_r := x_r.from_ h_w3
  have B_w3 := B_w2.trans (h_w3.mono B_w2.size)
  have s_w3 := h_w3.size
  obtain ⟨g, cg, bs, cb, rfl⟩ := ov_rights_some ou (by omega) (by omega)
  have c_a_0_w3 := x_a.cell (i := 0) rfl
  have f_a_0_w3 := x_a.frozen 0
  have c_a_1_w3 := x_a.cell (i := 1) rfl
  have f_a_1_w3 := x_a.frozen 1
  have c_b_0_w3 := x_b.cell (i := 0) rfl
  have f_b_0_w3 := x_b.frozen 0
  have c_b_1_w3 := x_b.cell (i := 1) rfl
  have f_b_1_w3 := x_b.frozen 1
  have c_r_0_w3 := x_r.cell (i := 0) rfl
  have f_r_0_w3 := x_r.frozen 0
  have c_r_1_w3 := x_r.cell (i := 1) rfl
  have f_r_1_w3 := x_r.frozen 1
  obtain ⟨w4, e_w4, s_w4, h_w4, x_o⟩ := alloc_step w3 27 [.slice (some ⟨g, 0, none⟩) r.Give.length cg, .slice (some ⟨bs, 0, none⟩) r.Spent.length cb]
  have s_w4_1 := Nat.le_of_eq s_w4
  have s_w4_2 := Nat.le_of_eq s_w4.symm
  clear s_w4
  replace x_a := x_a.from_ h_w4
  replace x_b := x_b.from_ h_w4
  replace x_r := x_r.from_ h_w4
  replace ou := ou.below h_w4
  have B_w4 := B_w3.trans (h_w4.mono B_w3.size)
  have c_a_0_w4 := x_a.cell (i := 0) rfl
  have f_a_0_w4 := x_a.frozen 0
  have c_a_1_w4 := x_a.cell (i := 1) rfl
  have f_a_1_w4 := x_a.frozen 1
  have c_b_0_w4 := x_b.cell (i := 0) rfl
  have f_b_0_w4 := x_b.frozen 0
  have c_b_1_w4 := x_b.cell (i := 1) rfl
  have f_b_1_w4 := x_b.frozen 1
  have c_r_0_w4 := x_r.cell (i := 0) rfl
  have f_r_0_w4 := x_r.frozen 0
  have c_r_1_w4 := x_r.cell (i := 1) rfl
  have f_r_1_w4 := x_r.frozen 1
  have c_o_0_w4 := x_o.cell (i := 0) rfl
  have f_o_0_w4 := x_o.frozen 0
  have c_o_1_w4 := x_o.cell (i := 1) rfl
  have f_o_1_w4 := x_o.frozen 1
  have hloA : wa.heap.size ≤ w2.heap.size := by omega
  go_wp2
  go_loopw [34] (fun j wr => ∃ (k : Nat) (D : MRights), k ≤ r.Give.length ∧ j = .int .i64 k ∧ Hid (MeetAt r q D k 0 k) ∧ Vr wr (w.heap.size) 27 [.slice AG r.Give.length cG, .slice AS r.Spent.length cS] ∧ Vr wr (w.heap.size + 1) 27 [.slice (some ⟨b', off', none⟩) q.Give.length cG', .slice (some ⟨b2', o2', none⟩) q.Spent.length cS'] ∧ Vr wr (w.heap.size + 1 + 1) 27 [.slice none 0 0, .slice none 0 0] ∧ Vr wr (w3.heap.size) 27 [.slice (some ⟨g, 0, none⟩) r.Give.length cg, .slice (some ⟨bs, 0, none⟩) r.Spent.length cb] ∧ OV rightsL wr w2.heap.size w3.heap.size (.agg #[.slice (some ⟨g, 0, none⟩) r.Give.length cg, .slice (some ⟨bs, 0, none⟩) r.Spent.length cb]) D ∧ Below w.heap.size w wr ∧ w3.heap.size + 1 ≤ wr.heap.size) (fun j _ => r.Give.length - (intOf j).toNat)
  case atStart => exact ⟨0, r, Nat.zero_le _, rfl, MeetAt.start (form_shp (ok_form HR.out)), x_a, x_b, x_r, x_o, ou, B_w4, by omega⟩
  case round =>
    clear c_a_0_w3 f_a_0_w3 c_a_1_w3 f_a_1_w3 c_b_0_w3 f_b_0_w3 c_b_1_w3 f_b_1_w3 c_r_0_w3 f_r_0_w3 c_r_1_w3 f_r_1_w3 c_a_0_w4 f_a_0_w4 c_a_1_w4 f_a_1_w4 c_b_0_w4 f_b_0_w4 c_b_1_w4 f_b_1_w4 c_r_0_w4 f_r_0_w4 c_r_1_w4 f_r_1_w4 c_o_0_w4 f_o_0_w4 c_o_1_w4 f_o_1_w4
    clear x_a x_b x_r x_o ou
    obtain ⟨k, D, hk, rfl, HT, x_a, x_b, x_r, x_o, ou, HB, hsz⟩ := hrel
    have hs := HB.size
    by_cases hlt : k < r.Give.length
    case neg =>
      have HDe : Hid (D = meetR r q) := by show _ = _; have h := HT.out; rw [show k = r.Give.length by omega] at h; exact h.end_
      have hk2 : ¬ ((k : Int) < (q.Give.length : Int)) := by omega
      have c_a_0_wr := x_a.cell (i := 0) rfl
      have f_a_0_wr := x_a.frozen 0
      have c_a_1_wr := x_a.cell (i := 1) rfl
      have f_a_1_wr := x_a.frozen 1
      have c_b_0_wr := x_b.cell (i := 0) rfl
      have f_b_0_wr := x_b.frozen 0
      have c_b_1_wr := x_b.cell (i := 1) rfl
      have f_b_1_wr := x_b.frozen 1
      have c_r_0_wr := x_r.cell (i := 0) rfl
      have f_r_0_wr := x_r.frozen 0
      have c_r_1_wr := x_r.cell (i := 1) rfl
      have f_r_1_wr := x_r.frozen 1
      have c_o_0_wr := x_o.cell (i := 0) rfl
      have f_o_0_wr := x_o.frozen 0
      have c_o_1_wr := x_o.cell (i := 1) rfl
      have f_o_1_wr := x_o.frozen 1
      by_cases hok : rightsOkB D = true
      case neg =>
        replace hok : rightsOkB D = false := by simpa using hok
        have HK := Lib.hid hok
        have HB0 : Hid (meetB r q = false) := by show _ = _; rw [HE.out, ← HDe.out, hok]
        have HM : Hid (meetM r q = rZ) := if_neg (by rw [HB0.out]; decide)
        clear hok
        go_wp2_with fail
        refine (sDone_no ou.rd HK.out).mono ?_
        rintro e w5 ⟨rfl, h_w5⟩
        clear c_a_0_wr f_a_0_wr c_a_1_wr f_a_1_wr c_b_0_wr f_b_0_wr c_b_1_wr f_b_1_wr c_r_0_wr f_r_0_wr c_r_1_wr f_r_1_wr c_o_0_wr f_o_0_wr c_o_1_wr f_o_1_wr
        replace x_a := x_a.from_ h_w5
        replace x_b := x_b.from_ h_w5
        replace x_r := x_r.from_ h_w5
        replace x_o := x_o.from_ h_w5
        replace ou := ou.below h_w5
        have B_w5 := HB.trans (h_w5.mono HB.size)
        have s_w5 := h_w5.size
        have c_a_0_w5 := x_a.cell (i := 0) rfl
        have f_a_0_w5 := x_a.frozen 0
        have c_a_1_w5 := x_a.cell (i := 1) rfl
        have f_a_1_w5 := x_a.frozen 1
        have c_b_0_w5 := x_b.cell (i := 0) rfl
        have f_b_0_w5 := x_b.frozen 0
        have c_b_1_w5 := x_b.cell (i := 1) rfl
        have f_b_1_w5 := x_b.frozen 1
        have c_r_0_w5 := x_r.cell (i := 0) rfl
        have f_r_0_w5 := x_r.frozen 0
        have c_r_1_w5 := x_r.cell (i := 1) rfl
        have f_r_1_w5 := x_r.frozen 1
        have c_o_0_w5 := x_o.cell (i := 0) rfl
        have f_o_0_w5 := x_o.frozen 0
        have c_o_1_w5 := x_o.cell (i := 1) rfl
        have f_o_1_w5 := x_o.frozen 1
        have i_r_0 := x_r.same (i := 0) rfl
        have i_r_1 := x_r.same (i := 1) rfl
        go_wp2
        refine ret_cell_tmp (by rfl) (by rfl) x_r Try.underlying27 sz_rights (by rfl) ?_
        rw [HM.out, HB0.out]
        exact ⟨_, rfl, ov_rZ (Nat.le_refl _), B_w5⟩
      case pos =>
        have HK := Lib.hid hok
        have HB0 : Hid (meetB r q = true) := by show _ = _; rw [HE.out, ← HDe.out, hok]
        have HM : Hid (meetM r q = D) := by show _ = _; unfold meetM; rw [if_pos HB0.out, HDe.out]
        clear hok
        go_wp2_with fail
        refine (sDone_yes ou.rd HK.out).mono ?_
        rintro e w5 ⟨rfl, h_w5⟩
        clear c_a_0_wr f_a_0_wr c_a_1_wr f_a_1_wr c_b_0_wr f_b_0_wr c_b_1_wr f_b_1_wr c_r_0_wr f_r_0_wr c_r_1_wr f_r_1_wr c_o_0_wr f_o_0_wr c_o_1_wr f_o_1_wr
        replace x_a := x_a.from_ h_w5
        replace x_b := x_b.from_ h_w5
        replace x_r := x_r.from_ h_w5
        replace x_o := x_o.from_ h_w5
        replace ou := ou.below h_w5
        have B_w5 := HB.trans (h_w5.mono HB.size)
        have s_w5 := h_w5.size
        have c_a_0_w5 := x_a.cell (i := 0) rfl
        have f_a_0_w5 := x_a.frozen 0
        have c_a_1_w5 := x_a.cell (i := 1) rfl
        have f_a_1_w5 := x_a.frozen 1
        have c_b_0_w5 := x_b.cell (i := 0) rfl
        have f_b_0_w5 := x_b.frozen 0
        have c_b_1_w5 := x_b.cell (i := 1) rfl
        have f_b_1_w5 := x_b.frozen 1
        have c_r_0_w5 := x_r.cell (i := 0) rfl
        have f_r_0_w5 := x_r.frozen 0
        have c_r_1_w5 := x_r.cell (i := 1) rfl
        have f_r_1_w5 := x_r.frozen 1
        have c_o_0_w5 := x_o.cell (i := 0) rfl
        have f_o_0_w5 := x_o.frozen 0
        have c_o_1_w5 := x_o.cell (i := 1) rfl
        have f_o_1_w5 := x_o.frozen 1
        obtain ⟨w6, e_w6, s_w6, h_w6, y⟩ := store_step x_r [.slice (some ⟨g, 0, none⟩) r.Give.length cg, .slice (some ⟨bs, 0, none⟩) r.Spent.length cb] rfl
        replace e_w6 : ((w5.setCell ⟨w.heap.size + 1 + 1, 0, none⟩ (.slice (some ⟨g, 0, none⟩) r.Give.length cg)).setCell ⟨w.heap.size + 1 + 1, 1, none⟩ (.slice (some ⟨bs, 0, none⟩) r.Spent.length cb)) = w6 := e_w6
        have s_w6_1 := Nat.le_of_eq s_w6
        have s_w6_2 := Nat.le_of_eq s_w6.symm
        clear s_w6
        replace x_a := x_a.chg h_w6 (by omega)
        replace x_b := x_b.chg h_w6 (by omega)
        replace x_o := x_o.chg h_w6 (by omega)
        replace ou := ou.chg h_w6 (by omega)
        have B_w6 := Below.chg_ B_w5 h_w6 (by omega) (by omega)
        replace x_r : Vr w6 (w.heap.size + 1 + 1) 27 [.slice (some ⟨g, 0, none⟩) r.Give.length cg, .slice (some ⟨bs, 0, none⟩) r.Spent.length cb] := y
        clear y
        have c_r_0_w6 := x_r.cell (i := 0) rfl
        have f_r_0_w6 := x_r.frozen 0
        have c_r_1_w6 := x_r.cell (i := 1) rfl
        have f_r_1_w6 := x_r.frozen 1
        go_wp2
        refine ret_cell_tmp (by rfl) (by rfl) x_r Try.underlying27 sz_rights (by rfl) ?_
        rw [HM.out, HB0.out]
        exact ⟨_, rfl, ou.widen (by omega) (by omega) (Nat.le_refl _), B_w6⟩
    have j1 : (k : Int) < (q.Give.length : Int) := by omega
    have j2 : (k : Int) < (r.Spent.length : Int) := by omega
    have j3 : (k : Int) < (q.Spent.length : Int) := by omega
    have j4 : (k : Int) < (r.Give.length : Int) := by omega
    obtain ⟨L, hL⟩ := get_of_lt (xs := q.Give) (k := k) (by omega)
    obtain ⟨n2, -⟩ := form_row (ok_form HQ.out) hL
    have HL := Lib.hid hL
    clear hL
    have dl := HT.out.1.2.1
    obtain ⟨y, hy⟩ : ∃ y, s1 q.Spent k = y := ⟨_, rfl⟩
    obtain ⟨x, hx⟩ : ∃ x, D.Spent.getD k 0 = x := ⟨_, rfl⟩
    obtain ⟨z, hz⟩ : ∃ z, mx x y = z := ⟨_, rfl⟩
    have HT2 : Hid (MeetAt r q ⟨D.Give, D.Spent.set k z⟩ k 0 (k + 1)) := by have h := HT.out.spent hlt; rw [hx, hy, hz] at h; exact h
    have hD1 : k < D.Spent.length := by omega
    clear dl
    obtain ⟨Al, cl, -, hcl, -, -, hrl⟩ := row_in (hrG'.below HB) HL.out
    have c_a_0_wr := x_a.cell (i := 0) rfl
    have f_a_0_wr := x_a.frozen 0
    have c_a_1_wr := x_a.cell (i := 1) rfl
    have f_a_1_wr := x_a.frozen 1
    have c_b_0_wr := x_b.cell (i := 0) rfl
    have f_b_0_wr := x_b.frozen 0
    have c_b_1_wr := x_b.cell (i := 1) rfl
    have f_b_1_wr := x_b.frozen 1
    have c_r_0_wr := x_r.cell (i := 0) rfl
    have f_r_0_wr := x_r.frozen 0
    have c_r_1_wr := x_r.cell (i := 1) rfl
    have f_r_1_wr := x_r.frozen 1
    have c_o_0_wr := x_o.cell (i := 0) rfl
    have f_o_0_wr := x_o.frozen 0
    have c_o_1_wr := x_o.cell (i := 1) rfl
    have f_o_1_wr := x_o.frozen 1
    go_wp2_with fail
    clear c_a_0_wr f_a_0_wr c_a_1_wr f_a_1_wr c_b_0_wr f_b_0_wr c_b_1_wr f_b_1_wr c_r_0_wr f_r_0_wr c_r_1_wr f_r_1_wr c_o_0_wr f_o_0_wr c_o_1_wr f_o_1_wr
    clear hcl
    obtain ⟨wd, hwd⟩ : ∃ x, ({ heap := wr.heap, tape := wr.tape, drawn := wr.drawn + 1, os := wr.os, output := wr.output } : World) = x := ⟨_, rfl⟩
    have hbd : Below wr.heap.size wr wd := by rw [← hwd]; exact (Below.refl wr.heap.size wr).drew
    replace x_a := x_a.from_ hbd
    replace x_b := x_b.from_ hbd
    replace x_r := x_r.from_ hbd
    replace x_o := x_o.from_ hbd
    replace ou := ou.below hbd
    have B_wd := HB.trans (hbd.mono HB.size)
    have s_wd := hbd.size
    obtain ⟨k2, k3, kb, hput⟩ := ou.setS2 hD1
    rw [hx] at k2
    have k4 := (rd_in (hrS'.below B_wd) (j := k) (by omega)).2
    rw [show q.Spent.getD k 0 = y from hy] at k4
    have o3 := hput z
    have hcs := chg_set (w := wd) (j := k) (v := .int .i64 z) kb
    obtain ⟨we, hwe⟩ : ∃ x, wd.setCell ⟨bs, k, none⟩ (.int .i64 z) = x := ⟨_, rfl⟩
    rw [hwe] at o3 hcs
    clear hput ou
    have HZ := Lib.hid hz
    clear hx hy hz
    have kM := sMax_any x y wd
    rw [HZ.out] at kM
    refine wp_region_still_tail 15 (by kernel_rfl) (by kernel_rfl) ?_
    rw [hwd]
    simp only [List.take_succ_cons, List.take_zero, List.drop_succ_cons, List.drop_zero]
    have c_a_0_wd := x_a.cell (i := 0) rfl
    have f_a_0_wd := x_a.frozen 0
    have c_a_1_wd := x_a.cell (i := 1) rfl
    have f_a_1_wd := x_a.frozen 1
    have c_b_0_wd := x_b.cell (i := 0) rfl
    have f_b_0_wd := x_b.frozen 0
    have c_b_1_wd := x_b.cell (i := 1) rfl
    have f_b_1_wd := x_b.frozen 1
    have c_r_0_wd := x_r.cell (i := 0) rfl
    have f_r_0_wd := x_r.frozen 0
    have c_r_1_wd := x_r.cell (i := 1) rfl
    have f_r_1_wd := x_r.frozen 1
    have c_o_0_wd := x_o.cell (i := 0) rfl
    have f_o_0_wd := x_o.frozen 0
    have c_o_1_wd := x_o.cell (i := 1) rfl
    have f_o_1_wd := x_o.frozen 1
    repeat still_step
    still_call kM
    repeat still_step
    refine wpStill_nil ?_
    replace x_a := x_a.chg hcs (by omega)
    replace x_b := x_b.chg hcs (by omega)
    replace x_r := x_r.chg hcs (by omega)
    replace x_o := x_o.chg hcs (by omega)
    have B_we := Below.chg_ B_wd hcs (by omega) (by omega)
    have s_we := hcs.size
    obtain ⟨D2, hD2⟩ : ∃ D2, (⟨D.Give, D.Spent.set k z⟩ : MRights) = D2 := ⟨_, rfl⟩
    rw [hD2] at o3
    have HT3 : Hid (MeetAt r q D2 k 0 (k + 1)) := by have h := HT2.out; rw [hD2] at h; exact h
    clear hD2 HT2 kM
    have c_a_0_we := x_a.cell (i := 0) rfl
    have f_a_0_we := x_a.frozen 0
    have c_a_1_we := x_a.cell (i := 1) rfl
    have f_a_1_we := x_a.frozen 1
    have c_b_0_we := x_b.cell (i := 0) rfl
    have f_b_0_we := x_b.frozen 0
    have c_b_1_we := x_b.cell (i := 1) rfl
    have f_b_1_we := x_b.frozen 1
    have c_r_0_we := x_r.cell (i := 0) rfl
    have f_r_0_we := x_r.frozen 0
    have c_r_1_we := x_r.cell (i := 1) rfl
    have f_r_1_we := x_r.frozen 1
    have c_o_0_we := x_o.cell (i := 0) rfl
    have f_o_0_we := x_o.frozen 0
    have c_o_1_we := x_o.cell (i := 1) rfl
    have f_o_1_we := x_o.frozen 1
    have hse := B_we.size
    go_wp2
    go_loopw [56] (fun t wq => ∃ (j : Nat) (E : MRights), j ≤ L.length ∧ t = .int .i64 j ∧ Hid (MeetAt r q E k j (k + 1)) ∧ Vr wq (w.heap.size) 27 [.slice AG r.Give.length cG, .slice AS r.Spent.length cS] ∧ Vr wq (w.heap.size + 1) 27 [.slice (some ⟨b', off', none⟩) q.Give.length cG', .slice (some ⟨b2', o2', none⟩) q.Spent.length cS'] ∧ Vr wq (w.heap.size + 1 + 1) 27 [.slice none 0 0, .slice none 0 0] ∧ Vr wq (w3.heap.size) 27 [.slice (some ⟨g, 0, none⟩) r.Give.length cg, .slice (some ⟨bs, 0, none⟩) r.Spent.length cb] ∧ OV rightsL wq w2.heap.size w3.heap.size (.agg #[.slice (some ⟨g, 0, none⟩) r.Give.length cg, .slice (some ⟨bs, 0, none⟩) r.Spent.length cb]) E ∧ Below w.heap.size w wq ∧ w3.heap.size + 1 ≤ wq.heap.size) (fun t _ => L.length - (intOf t).toNat)
    case atStart => exact ⟨0, D2, Nat.zero_le _, rfl, HT3, x_a, x_b, x_r, x_o, o3, B_we, by omega⟩
    case round =>
      clear c_a_0_wd f_a_0_wd c_a_1_wd f_a_1_wd c_b_0_wd f_b_0_wd c_b_1_wd f_b_1_wd c_r_0_wd f_r_0_wd c_r_1_wd f_r_1_wd c_o_0_wd f_o_0_wd c_o_1_wd f_o_1_wd c_a_0_we f_a_0_we c_a_1_we f_a_1_we c_b_0_we f_b_0_we c_b_1_we f_b_1_we c_r_0_we f_r_0_we c_r_1_we f_r_1_we c_o_0_we f_o_0_we c_o_1_we f_o_1_we
      clear x_a x_b x_r x_o o3 k2 k3 k4 kb hwd hwe hcs
      obtain ⟨j, E, hj, rfl, HV, x_a, x_b, x_r, x_o, ou, HB2, hsz2⟩ := hrel
      obtain ⟨w7, rfl⟩ : ∃ x, x = wr := ⟨_, rfl⟩
      have hs2 := HB2.size
      by_cases hjl : j < L.length
      case neg =>
        have HT4 : Hid (MeetAt r q E (k + 1) 0 (k + 1)) := by have h := HV.out; rw [show j = r.Give.length by omega] at h; exact h.row
        have hj2 : ¬ ((j : Int) < (L.length : Int)) := by omega
        have c_a_0_w7 := x_a.cell (i := 0) rfl
        have f_a_0_w7 := x_a.frozen 0
        have c_a_1_w7 := x_a.cell (i := 1) rfl
        have f_a_1_w7 := x_a.frozen 1
        have c_b_0_w7 := x_b.cell (i := 0) rfl
        have f_b_0_w7 := x_b.frozen 0
        have c_b_1_w7 := x_b.cell (i := 1) rfl
        have f_b_1_w7 := x_b.frozen 1
        have c_r_0_w7 := x_r.cell (i := 0) rfl
        have f_r_0_w7 := x_r.frozen 0
        have c_r_1_w7 := x_r.cell (i := 1) rfl
        have f_r_1_w7 := x_r.frozen 1
        have c_o_0_w7 := x_o.cell (i := 0) rfl
        have f_o_0_w7 := x_o.frozen 0
        have c_o_1_w7 := x_o.cell (i := 1) rfl
        have f_o_1_w7 := x_o.frozen 1
        go_wp2
        go_roundw
        case rel => exact ⟨k + 1, E, by omega, by go_num, HT4, x_a, x_b, x_r, x_o, ou, HB2, by omega⟩
        case measure => simp [intOf]; omega
      have i1 : (j : Int) < (L.length : Int) := by omega
      have el := HV.out.1.1
      obtain ⟨R, hR⟩ := get_of_lt (xs := E.Give) (k := k) (by omega)
      have rl := HV.out.1.2.2 k R hR
      have rl1 := Nat.le_of_eq rl
      have rl2 := Nat.le_of_eq rl.symm
      clear el rl
      have i2 : (j : Int) < (R.length : Int) := by omega
      obtain ⟨y, hy⟩ : ∃ y, L.getD j 0 = y := ⟨_, rfl⟩
      obtain ⟨x, hx⟩ : ∃ x, R.getD j 0 = x := ⟨_, rfl⟩
      obtain ⟨z, hz⟩ : ∃ z, mx x y = z := ⟨_, rfl⟩
      have HT5 : Hid (MeetAt r q ⟨E.Give.set k (R.set j z), E.Spent⟩ k (j + 1) (k + 1)) := by have h := HV.out.give hR hlt (by omega); rw [hx, g2_of HL.out, hy, hz] at h; exact h
      have HRR := Lib.hid hR
      clear hR
      obtain ⟨b3, o3, rfl, hb3, -⟩ := rd_at hrl hjl
      have hc3 := (rd_in ((hrl.below (Below.refl _ _)).keep (w' := w7) (fun p hp => (HB2.cell hp).trans (HB.cell hp).symm)) hjl).2
      rw [hy] at hc3
      have c_a_0_w7 := x_a.cell (i := 0) rfl
      have f_a_0_w7 := x_a.frozen 0
      have c_a_1_w7 := x_a.cell (i := 1) rfl
      have f_a_1_w7 := x_a.frozen 1
      have c_b_0_w7 := x_b.cell (i := 0) rfl
      have f_b_0_w7 := x_b.frozen 0
      have c_b_1_w7 := x_b.cell (i := 1) rfl
      have f_b_1_w7 := x_b.frozen 1
      have c_r_0_w7 := x_r.cell (i := 0) rfl
      have f_r_0_w7 := x_r.frozen 0
      have c_r_1_w7 := x_r.cell (i := 1) rfl
      have f_r_1_w7 := x_r.frozen 1
      have c_o_0_w7 := x_o.cell (i := 0) rfl
      have f_o_0_w7 := x_o.frozen 0
      have c_o_1_w7 := x_o.cell (i := 1) rfl
      have f_o_1_w7 := x_o.frozen 1
      go_wp2_with fail
      clear c_a_0_w7 f_a_0_w7 c_a_1_w7 f_a_1_w7 c_b_0_w7 f_b_0_w7 c_b_1_w7 f_b_1_w7 c_r_0_w7 f_r_0_w7 c_r_1_w7 f_r_1_w7 c_o_0_w7 f_o_0_w7 c_o_1_w7 f_o_1_w7
      clear hc3
      obtain ⟨wd, hwd⟩ : ∃ x, ({ heap := w7.heap, tape := w7.tape, drawn := w7.drawn + 1, os := w7.os, output := w7.output } : World) = x := ⟨_, rfl⟩
      have hbd : Below w7.heap.size w7 wd := by rw [← hwd]; exact (Below.refl w7.heap.size w7).drew
      replace x_a := x_a.from_ hbd
      replace x_b := x_b.from_ hbd
      replace x_r := x_r.from_ hbd
      replace x_o := x_o.from_ hbd
      replace ou := ou.below hbd
      have B_wd := HB2.trans (hbd.mono HB2.size)
      have s_wd := hbd.size
      obtain ⟨b4, c4, k1, k2, k3, kb, hput⟩ := ou.setG2 HRR.out (j := j) (by omega)
      rw [hx] at k2
      have o4 := hput z
      have hcs := chg_set (w := wd) (j := j) (v := .int .i64 z) kb
      obtain ⟨we2, hwe2⟩ : ∃ x, wd.setCell ⟨b4, j, none⟩ (.int .i64 z) = x := ⟨_, rfl⟩
      rw [hwe2] at o4 hcs
      clear hput ou
      have HZ2 := Lib.hid hz
      clear hx hy hz
      have kM := sMax_any x y wd
      rw [HZ2.out] at kM
      refine wp_region_still_tail 17 (by kernel_rfl) (by kernel_rfl) ?_
      rw [hwd]
      simp only [List.take_succ_cons, List.take_zero, List.drop_succ_cons, List.drop_zero]
      have c_a_0_wd := x_a.cell (i := 0) rfl
      have f_a_0_wd := x_a.frozen 0
      have c_a_1_wd := x_a.cell (i := 1) rfl
      have f_a_1_wd := x_a.frozen 1
      have c_b_0_wd := x_b.cell (i := 0) rfl
      have f_b_0_wd := x_b.frozen 0
      have c_b_1_wd := x_b.cell (i := 1) rfl
      have f_b_1_wd := x_b.frozen 1
      have c_r_0_wd := x_r.cell (i := 0) rfl
      have f_r_0_wd := x_r.frozen 0
      have c_r_1_wd := x_r.cell (i := 1) rfl
      have f_r_1_wd := x_r.frozen 1
      have c_o_0_wd := x_o.cell (i := 0) rfl
      have f_o_0_wd := x_o.frozen 0
      have c_o_1_wd := x_o.cell (i := 1) rfl
      have f_o_1_wd := x_o.frozen 1
      repeat still_step
      still_call kM
      repeat still_step
      refine wpStill_nil ?_
      replace x_a := x_a.chg hcs (by omega)
      replace x_b := x_b.chg hcs (by omega)
      replace x_r := x_r.chg hcs (by omega)
      replace x_o := x_o.chg hcs (by omega)
      have B_we2 := Below.chg_ B_wd hcs (by omega) (by omega)
      have s_we2 := hcs.size
      clear c_a_0_wd f_a_0_wd c_a_1_wd f_a_1_wd c_b_0_wd f_b_0_wd c_b_1_wd f_b_1_wd c_r_0_wd f_r_0_wd c_r_1_wd f_r_1_wd c_o_0_wd f_o_0_wd c_o_1_wd f_o_1_wd
      go_wp2
      go_roundw
      case rel => exact ⟨j + 1, _, by omega, by go_num, HT5, x_a, x_b, x_r, x_o, o4, B_we2, by omega⟩
      case measure => simp [intOf]; omega

end Go.Proofs.Ytmbipgnecjlicaa
