/- The walk of the law FnExactAllOf, laid by a program of ours (lawgen2.py) out of the law's text. -/
import Derived.Test.YtmbipgnecjlicaaRtI
import Derived.Test.YtmbipgnecjlicaaOutC
namespace Go.Proofs.Ytmbipgnecjlicaa
open Go.RowKit
set_option linter.unusedVariables false

set_option maxRecDepth 100000 in
set_option maxHeartbeats 8000000 in
theorem wAllOf (v_aR : Value) (r : MRights) (w : World) (r_aR : RV rightsL w v_aR r) :
    Calls Try.prog 8 #[v_aR] w fun e w' => e = .returned (.bool true) ∧ Below w.heap.size w w' := by
  have h_aR := r_aR
  obtain ⟨AGive_aR, cGive_aR, ASpent_aR, cSpent_aR, rfl, -, -⟩ := rv_rights h_aR
  clear h_aR
  obtain ⟨wa, hwa, B0, sa, x_aR⟩ := frame1 w 38 [.slice AGive_aR r.Give.length cGive_aR, .slice ASpent_aR r.Spent.length cSpent_aR]
  have sa_1 := Nat.le_of_eq sa
  have sa_2 := Nat.le_of_eq sa.symm
  clear sa
  have c_aR_0_wa := x_aR.cell (i := 0) rfl
  have c_aR_1_wa := x_aR.cell (i := 1) rfl
  by_cases hbig_aR : r.bulk ≤ 1048576
  case neg =>
    go_enter Try.func8, Try.ntmps8
    go_wp2_with fail
    refine (szRights_c (r_aR.from_ B0) (by omega) (by omega)).mono ?_
    rintro e w1 ⟨rfl, h_w1⟩
    clear c_aR_0_wa c_aR_1_wa
    replace x_aR := x_aR.from_ h_w1
    have B_w1 := B0.trans (h_w1.mono B0.size)
    have s_w1 := h_w1.size
    rw [show szV (1048576) (r.bulk : Int) = -1 from if_neg (by omega)]
    have c_aR_0_w1 := x_aR.cell (i := 0) rfl
    have c_aR_1_w1 := x_aR.cell (i := 1) rfl
    go_wp2
    go_ret
    exact ⟨rfl, B_w1⟩
  have hz_aR := MRights.steps_le r
  have hbk : r.Give.length ≤ r.bulk := by unfold MRights.bulk sizeSS; omega
  obtain ⟨R0, hR0⟩ : ∃ R, allOf r = R := ⟨_, rfl⟩
  have HR0 := Lib.hid hR0
  clear hR0
  go_enter Try.func8, Try.ntmps8
  go_wp2_with fail
  refine (szRights_c (r_aR.from_ B0) (by omega) (by omega)).mono ?_
  rintro e w1 ⟨rfl, h_w1⟩
  clear c_aR_0_wa c_aR_1_wa
  replace x_aR := x_aR.from_ h_w1
  have B_w1 := B0.trans (h_w1.mono B0.size)
  have s_w1 := h_w1.size
  rw [show szV (1048576) (r.bulk : Int) = 1048576 - (r.bulk : Int) from if_pos (by omega)]
  have gz0 : decide (1048576 - (r.bulk : Int) < 0) = false := decide_eq_false (by omega)
  have c_aR_0_w1 := x_aR.cell (i := 0) rfl
  have c_aR_1_w1 := x_aR.cell (i := 1) rfl
  go_wp2_with fail
  refine (toRights_c (r_aR.from_ B_w1) (by omega)).mono ?_
  rintro e w2 ⟨v_t1, rfl, o_t1, h_w2⟩
  clear c_aR_0_w1 c_aR_1_w1
  replace x_aR := x_aR.from_ h_w2
  have B_w2 := B_w1.trans (h_w2.mono B_w1.size)
  have s_w2 := h_w2.size
  obtain ⟨AGive_t1, cGive_t1, ASpent_t1, cSpent_t1, rfl, -, -⟩ := rv_rights o_t1.rd
  have c_aR_0_w2 := x_aR.cell (i := 0) rfl
  have f_aR_0_w2 := x_aR.frozen 0
  have c_aR_1_w2 := x_aR.cell (i := 1) rfl
  have f_aR_1_w2 := x_aR.frozen 1
  go_wp2_with fail
  refine (sAllOf_c o_t1.rd (by omega)).mono ?_
  rintro e w3 ⟨rfl, h_w3⟩
  clear c_aR_0_w2 f_aR_0_w2 c_aR_1_w2 f_aR_1_w2
  replace x_aR := x_aR.from_ h_w3
  replace o_t1 := o_t1.below h_w3
  have B_w3 := B_w2.trans (h_w3.mono B_w2.size)
  have s_w3 := h_w3.size
  rw [HR0.out]
  have c_aR_0_w3 := x_aR.cell (i := 0) rfl
  have f_aR_0_w3 := x_aR.frozen 0
  have c_aR_1_w3 := x_aR.cell (i := 1) rfl
  have f_aR_1_w3 := x_aR.frozen 1
  go_wp2_with fail
  refine (toRights_c (r_aR.from_ B_w3) (by omega)).mono ?_
  rintro e w4 ⟨v_t2, rfl, o_t2, h_w4⟩
  clear c_aR_0_w3 f_aR_0_w3 c_aR_1_w3 f_aR_1_w3
  replace x_aR := x_aR.from_ h_w4
  replace o_t1 := o_t1.below h_w4
  have B_w4 := B_w3.trans (h_w4.mono B_w3.size)
  have s_w4 := h_w4.size
  obtain ⟨AGive_t2, cGive_t2, ASpent_t2, cSpent_t2, rfl, -, -⟩ := rv_rights o_t2.rd
  have c_aR_0_w4 := x_aR.cell (i := 0) rfl
  have f_aR_0_w4 := x_aR.frozen 0
  have c_aR_1_w4 := x_aR.cell (i := 1) rfl
  have f_aR_1_w4 := x_aR.frozen 1
  obtain ⟨w5, e_w5, s_w5, h_w5, x_x0⟩ := alloc_step w4 27 [.slice AGive_t2 r.Give.length cGive_t2, .slice ASpent_t2 r.Spent.length cSpent_t2]
  have s_w5_1 := Nat.le_of_eq s_w5
  have s_w5_2 := Nat.le_of_eq s_w5.symm
  clear s_w5
  replace x_aR := x_aR.from_ h_w5
  replace o_t1 := o_t1.below h_w5
  replace o_t2 := o_t2.below h_w5
  have B_w5 := B_w4.trans (h_w5.mono B_w4.size)
  have c_aR_0_w5 := x_aR.cell (i := 0) rfl
  have f_aR_0_w5 := x_aR.frozen 0
  have c_aR_1_w5 := x_aR.cell (i := 1) rfl
  have f_aR_1_w5 := x_aR.frozen 1
  have c_x0_0_w5 := x_x0.cell (i := 0) rfl
  have f_x0_0_w5 := x_x0.frozen 0
  have c_x0_1_w5 := x_x0.cell (i := 1) rfl
  have f_x0_1_w5 := x_x0.frozen 1
  go_wp2_with fail
  refine (iAllOf_c o_t2.rd (by omega)).mono ?_
  rintro e w6 ⟨rfl, h_w6⟩
  clear c_aR_0_w4 f_aR_0_w4 c_aR_1_w4 f_aR_1_w4 c_aR_0_w5 f_aR_0_w5 c_aR_1_w5 f_aR_1_w5 c_x0_0_w5 f_x0_0_w5 c_x0_1_w5 f_x0_1_w5
  replace x_aR := x_aR.from_ h_w6
  replace x_x0 := x_x0.from_ h_w6
  replace o_t1 := o_t1.below h_w6
  replace o_t2 := o_t2.below h_w6
  have B_w6 := B_w5.trans (h_w6.mono B_w5.size)
  have s_w6 := h_w6.size
  rw [HR0.out]
  have c_aR_0_w6 := x_aR.cell (i := 0) rfl
  have f_aR_0_w6 := x_aR.frozen 0
  have c_aR_1_w6 := x_aR.cell (i := 1) rfl
  have f_aR_1_w6 := x_aR.frozen 1
  have c_x0_0_w6 := x_x0.cell (i := 0) rfl
  have f_x0_0_w6 := x_x0.frozen 0
  have c_x0_1_w6 := x_x0.cell (i := 1) rfl
  have f_x0_1_w6 := x_x0.frozen 1
  go_wp2_with fail
  go_region_held3 (fun w' => w'.cell? ⟨w4.heap.size, 0, none⟩ = some (.slice AGive_t2 r.Give.length cGive_t2) ∧ w'.cell? ⟨w4.heap.size, 1, none⟩ = some (.slice ASpent_t2 r.Spent.length cSpent_t2) ∧ w'.cell? ⟨w.heap.size, 0, none⟩ = some (.slice AGive_aR r.Give.length cGive_aR) ∧ w'.cell? ⟨w.heap.size, 1, none⟩ = some (.slice ASpent_aR r.Spent.length cSpent_aR))
    (first | exact ⟨c_x0_0_w6, c_x0_1_w6, c_aR_0_w6, c_aR_1_w6⟩ | exact ⟨qz1_x0_0, qz1_x0_1, qz1_aR_0, qz1_aR_1⟩ | exact ⟨qz2_x0_0, qz2_x0_1, qz2_aR_0, qz2_aR_1⟩ | go_keep)
    (first | ((go_at_call 28); (refine (toRights_c (r_aR.from_ (B_w6.drew)) (by omega)).mono ?_); rintro e w_z1 ⟨v_t3, rfl, o_t3, hd_z1⟩; have hb_z1 : Below w6.heap.size w6 w_z1 := (Below.refl w6.heap.size w6).drew.trans hd_z1; have sd_z1 := hd_z1.size; replace sd_z1 : w6.heap.size ≤ w_z1.heap.size := sd_z1; have qz1_x0_0 := (x_x0.from_ hb_z1).cell (i := 0) rfl; have qz1_x0_1 := (x_x0.from_ hb_z1).cell (i := 1) rfl; have qz1_aR_0 := (x_aR.from_ hb_z1).cell (i := 0) rfl; have qz1_aR_1 := (x_aR.from_ hb_z1).cell (i := 1) rfl; obtain ⟨AGive_t3, cGive_t3, ASpent_t3, cSpent_t3, rfl, -, -⟩ := rv_rights o_t3.rd)
           | ((go_at_call 29); (refine (eqRights_same (o_t2.below hb_z1).rd o_t3.rd (by omega)).mono ?_); rintro e w_z2 ⟨rfl, hd_z2⟩; have hb_z2 : Below w6.heap.size w6 w_z2 := hb_z1.trans (hd_z2.mono hb_z1.size); have sd_z2 := hd_z2.size; have qz2_x0_0 := (x_x0.from_ hb_z2).cell (i := 0) rfl; have qz2_x0_1 := (x_x0.from_ hb_z2).cell (i := 1) rfl; have qz2_aR_0 := (x_aR.from_ hb_z2).cell (i := 0) rfl; have qz2_aR_1 := (x_aR.from_ hb_z2).cell (i := 1) rfl; replace o_t3 := o_t3.below hd_z2)
           | fail)
  clear c_aR_0_w6 f_aR_0_w6 c_aR_1_w6 f_aR_1_w6 c_x0_0_w6 f_x0_0_w6 c_x0_1_w6 f_x0_1_w6
  have dz_w6 : w6.drew.heap.size = w6.heap.size := rfl
  replace x_aR := x_aR.from_ hb_z2
  replace x_x0 := x_x0.from_ hb_z2
  replace o_t1 := o_t1.below hb_z2
  replace o_t2 := o_t2.below hb_z2
  have B_z2 := B_w6.trans (hb_z2.mono B_w6.size)
  have sz_z2 := hb_z2.size
  have c_aR_0_w_z2 := x_aR.cell (i := 0) rfl
  have f_aR_0_w_z2 := x_aR.frozen 0
  have c_aR_1_w_z2 := x_aR.cell (i := 1) rfl
  have f_aR_1_w_z2 := x_aR.frozen 1
  have c_x0_0_w_z2 := x_x0.cell (i := 0) rfl
  have f_x0_0_w_z2 := x_x0.frozen 0
  have c_x0_1_w_z2 := x_x0.cell (i := 1) rfl
  have f_x0_1_w_z2 := x_x0.frozen 1
  go_wp2
  go_ret
  exact ⟨rfl, B_z2⟩

end Go.Proofs.Ytmbipgnecjlicaa
