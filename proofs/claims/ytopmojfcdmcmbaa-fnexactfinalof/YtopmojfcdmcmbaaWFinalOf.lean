/- The walk of the law FnExactFinalOf, laid by a program of ours (lawgen2.py) out of the law's text. -/
import Derived.Test.YtopmojfcdmcmbaaAc2
import Derived.Test.YtopmojfcdmcmbaaOutC
namespace Go.Proofs.Ytopmojfcdmcmbaa
open Go.RowKit
set_option linter.unusedVariables false

set_option maxRecDepth 100000 in
set_option maxHeartbeats 8000000 in
theorem wFinalOf (v_aA : Value) (a : MAcct) (w : World) (r_aA : RV acctL w v_aA a) :
    Calls Try.prog 10 #[v_aA] w fun e w' => e = .returned (.bool true) ∧ Below w.heap.size w w' := by
  have h_aA := r_aA
  obtain ⟨AMarks_aA, cMarks_aA, AReps_aA, cReps_aA, rfl, -, -⟩ := rv_acct h_aA
  clear h_aA
  obtain ⟨wa, hwa, B0, sa, x_aA⟩ := frame1 w 40 [.int .i64 a.Have, .int .i64 a.State, .int .i64 a.By, .slice AMarks_aA a.Marks.length cMarks_aA, .slice AReps_aA a.Reps.length cReps_aA]
  have sa_1 := Nat.le_of_eq sa
  have sa_2 := Nat.le_of_eq sa.symm
  clear sa
  have c_aA_0_wa := x_aA.cell (i := 0) rfl
  have c_aA_1_wa := x_aA.cell (i := 1) rfl
  have c_aA_2_wa := x_aA.cell (i := 2) rfl
  have c_aA_3_wa := x_aA.cell (i := 3) rfl
  have c_aA_4_wa := x_aA.cell (i := 4) rfl
  by_cases hbig_aA : a.bulk ≤ 1048576
  case neg =>
    go_enter Try.func10, Try.ntmps10
    go_wp2_with fail
    refine (szAcct_c (r_aA.from_ B0) (by omega) (by omega)).mono ?_
    rintro e w1 ⟨rfl, h_w1⟩
    clear c_aA_0_wa c_aA_1_wa c_aA_2_wa c_aA_3_wa c_aA_4_wa
    replace x_aA := x_aA.from_ h_w1
    have B_w1 := B0.trans (h_w1.mono B0.size)
    have s_w1 := h_w1.size
    rw [show szV (1048576) (a.bulk : Int) = -1 from if_neg (by omega)]
    have c_aA_0_w1 := x_aA.cell (i := 0) rfl
    have c_aA_1_w1 := x_aA.cell (i := 1) rfl
    have c_aA_2_w1 := x_aA.cell (i := 2) rfl
    have c_aA_3_w1 := x_aA.cell (i := 3) rfl
    have c_aA_4_w1 := x_aA.cell (i := 4) rfl
    go_wp2
    go_ret
    exact ⟨rfl, B_w1⟩
  have hz_aA := MAcct.steps_le a
  obtain ⟨R0, hR0⟩ : ∃ R, finalOf a = R := ⟨_, rfl⟩
  have HR0 := Lib.hid hR0
  clear hR0
  obtain ⟨R1, hR1⟩ : ∃ R, finalB a = R := ⟨_, rfl⟩
  have HR1 := Lib.hid hR1
  clear hR1
  go_enter Try.func10, Try.ntmps10
  go_wp2_with fail
  refine (szAcct_c (r_aA.from_ B0) (by omega) (by omega)).mono ?_
  rintro e w1 ⟨rfl, h_w1⟩
  clear c_aA_0_wa c_aA_1_wa c_aA_2_wa c_aA_3_wa c_aA_4_wa
  replace x_aA := x_aA.from_ h_w1
  have B_w1 := B0.trans (h_w1.mono B0.size)
  have s_w1 := h_w1.size
  rw [show szV (1048576) (a.bulk : Int) = 1048576 - (a.bulk : Int) from if_pos (by omega)]
  have gz0 : decide (1048576 - (a.bulk : Int) < 0) = false := decide_eq_false (by omega)
  have c_aA_0_w1 := x_aA.cell (i := 0) rfl
  have c_aA_1_w1 := x_aA.cell (i := 1) rfl
  have c_aA_2_w1 := x_aA.cell (i := 2) rfl
  have c_aA_3_w1 := x_aA.cell (i := 3) rfl
  have c_aA_4_w1 := x_aA.cell (i := 4) rfl
  go_wp2_with fail
  refine (toAcct_c (r_aA.from_ B_w1) (by omega)).mono ?_
  rintro e w2 ⟨v_t1, rfl, o_t1, h_w2⟩
  clear c_aA_0_w1 c_aA_1_w1 c_aA_2_w1 c_aA_3_w1 c_aA_4_w1
  replace x_aA := x_aA.from_ h_w2
  have B_w2 := B_w1.trans (h_w2.mono B_w1.size)
  have s_w2 := h_w2.size
  obtain ⟨AMarks_t1, cMarks_t1, AReps_t1, cReps_t1, rfl, -, -⟩ := rv_acct o_t1.rd
  have c_aA_0_w2 := x_aA.cell (i := 0) rfl
  have f_aA_0_w2 := x_aA.frozen 0
  have c_aA_1_w2 := x_aA.cell (i := 1) rfl
  have f_aA_1_w2 := x_aA.frozen 1
  have c_aA_2_w2 := x_aA.cell (i := 2) rfl
  have f_aA_2_w2 := x_aA.frozen 2
  have c_aA_3_w2 := x_aA.cell (i := 3) rfl
  have f_aA_3_w2 := x_aA.frozen 3
  have c_aA_4_w2 := x_aA.cell (i := 4) rfl
  have f_aA_4_w2 := x_aA.frozen 4
  go_wp2_with fail
  refine (sFinalOf_c o_t1.rd).mono ?_
  rintro e w3 ⟨rfl, h_w3⟩
  clear c_aA_0_w2 f_aA_0_w2 c_aA_1_w2 f_aA_1_w2 c_aA_2_w2 f_aA_2_w2 c_aA_3_w2 f_aA_3_w2 c_aA_4_w2 f_aA_4_w2
  replace x_aA := x_aA.from_ h_w3
  replace o_t1 := o_t1.below h_w3
  have B_w3 := B_w2.trans (h_w3.mono B_w2.size)
  have s_w3 := h_w3.size
  rw [HR0.out]
  rw [HR1.out]
  have c_aA_0_w3 := x_aA.cell (i := 0) rfl
  have f_aA_0_w3 := x_aA.frozen 0
  have c_aA_1_w3 := x_aA.cell (i := 1) rfl
  have f_aA_1_w3 := x_aA.frozen 1
  have c_aA_2_w3 := x_aA.cell (i := 2) rfl
  have f_aA_2_w3 := x_aA.frozen 2
  have c_aA_3_w3 := x_aA.cell (i := 3) rfl
  have f_aA_3_w3 := x_aA.frozen 3
  have c_aA_4_w3 := x_aA.cell (i := 4) rfl
  have f_aA_4_w3 := x_aA.frozen 4
  go_wp2_with fail
  refine (toAcct_c (r_aA.from_ B_w3) (by omega)).mono ?_
  rintro e w4 ⟨v_t2, rfl, o_t2, h_w4⟩
  clear c_aA_0_w3 f_aA_0_w3 c_aA_1_w3 f_aA_1_w3 c_aA_2_w3 f_aA_2_w3 c_aA_3_w3 f_aA_3_w3 c_aA_4_w3 f_aA_4_w3
  replace x_aA := x_aA.from_ h_w4
  replace o_t1 := o_t1.below h_w4
  have B_w4 := B_w3.trans (h_w4.mono B_w3.size)
  have s_w4 := h_w4.size
  obtain ⟨AMarks_t2, cMarks_t2, AReps_t2, cReps_t2, rfl, -, -⟩ := rv_acct o_t2.rd
  have c_aA_0_w4 := x_aA.cell (i := 0) rfl
  have f_aA_0_w4 := x_aA.frozen 0
  have c_aA_1_w4 := x_aA.cell (i := 1) rfl
  have f_aA_1_w4 := x_aA.frozen 1
  have c_aA_2_w4 := x_aA.cell (i := 2) rfl
  have f_aA_2_w4 := x_aA.frozen 2
  have c_aA_3_w4 := x_aA.cell (i := 3) rfl
  have f_aA_3_w4 := x_aA.frozen 3
  have c_aA_4_w4 := x_aA.cell (i := 4) rfl
  have f_aA_4_w4 := x_aA.frozen 4
  obtain ⟨w5, e_w5, s_w5, h_w5, x_x0⟩ := alloc_step w4 27 [.int .i64 a.Have, .int .i64 a.State, .int .i64 a.By, .slice AMarks_t2 a.Marks.length cMarks_t2, .slice AReps_t2 a.Reps.length cReps_t2]
  have s_w5_1 := Nat.le_of_eq s_w5
  have s_w5_2 := Nat.le_of_eq s_w5.symm
  clear s_w5
  replace x_aA := x_aA.from_ h_w5
  replace o_t1 := o_t1.below h_w5
  replace o_t2 := o_t2.below h_w5
  have B_w5 := B_w4.trans (h_w5.mono B_w4.size)
  have c_aA_0_w5 := x_aA.cell (i := 0) rfl
  have f_aA_0_w5 := x_aA.frozen 0
  have c_aA_1_w5 := x_aA.cell (i := 1) rfl
  have f_aA_1_w5 := x_aA.frozen 1
  have c_aA_2_w5 := x_aA.cell (i := 2) rfl
  have f_aA_2_w5 := x_aA.frozen 2
  have c_aA_3_w5 := x_aA.cell (i := 3) rfl
  have f_aA_3_w5 := x_aA.frozen 3
  have c_aA_4_w5 := x_aA.cell (i := 4) rfl
  have f_aA_4_w5 := x_aA.frozen 4
  have c_x0_0_w5 := x_x0.cell (i := 0) rfl
  have f_x0_0_w5 := x_x0.frozen 0
  have c_x0_1_w5 := x_x0.cell (i := 1) rfl
  have f_x0_1_w5 := x_x0.frozen 1
  have c_x0_2_w5 := x_x0.cell (i := 2) rfl
  have f_x0_2_w5 := x_x0.frozen 2
  have c_x0_3_w5 := x_x0.cell (i := 3) rfl
  have f_x0_3_w5 := x_x0.frozen 3
  have c_x0_4_w5 := x_x0.cell (i := 4) rfl
  have f_x0_4_w5 := x_x0.frozen 4
  go_wp2_with fail
  refine (iFinalOf_c o_t2.rd).mono ?_
  rintro e w6 ⟨rfl, h_w6⟩
  clear c_aA_0_w4 f_aA_0_w4 c_aA_1_w4 f_aA_1_w4 c_aA_2_w4 f_aA_2_w4 c_aA_3_w4 f_aA_3_w4 c_aA_4_w4 f_aA_4_w4 c_aA_0_w5 f_aA_0_w5 c_aA_1_w5 f_aA_1_w5 c_aA_2_w5 f_aA_2_w5 c_aA_3_w5 f_aA_3_w5 c_aA_4_w5 f_aA_4_w5 c_x0_0_w5 f_x0_0_w5 c_x0_1_w5 f_x0_1_w5 c_x0_2_w5 f_x0_2_w5 c_x0_3_w5 f_x0_3_w5 c_x0_4_w5 f_x0_4_w5
  replace x_aA := x_aA.from_ h_w6
  replace x_x0 := x_x0.from_ h_w6
  replace o_t1 := o_t1.below h_w6
  replace o_t2 := o_t2.below h_w6
  have B_w6 := B_w5.trans (h_w6.mono B_w5.size)
  have s_w6 := h_w6.size
  rw [HR0.out]
  rw [HR1.out]
  have c_aA_0_w6 := x_aA.cell (i := 0) rfl
  have f_aA_0_w6 := x_aA.frozen 0
  have c_aA_1_w6 := x_aA.cell (i := 1) rfl
  have f_aA_1_w6 := x_aA.frozen 1
  have c_aA_2_w6 := x_aA.cell (i := 2) rfl
  have f_aA_2_w6 := x_aA.frozen 2
  have c_aA_3_w6 := x_aA.cell (i := 3) rfl
  have f_aA_3_w6 := x_aA.frozen 3
  have c_aA_4_w6 := x_aA.cell (i := 4) rfl
  have f_aA_4_w6 := x_aA.frozen 4
  have c_x0_0_w6 := x_x0.cell (i := 0) rfl
  have f_x0_0_w6 := x_x0.frozen 0
  have c_x0_1_w6 := x_x0.cell (i := 1) rfl
  have f_x0_1_w6 := x_x0.frozen 1
  have c_x0_2_w6 := x_x0.cell (i := 2) rfl
  have f_x0_2_w6 := x_x0.frozen 2
  have c_x0_3_w6 := x_x0.cell (i := 3) rfl
  have f_x0_3_w6 := x_x0.frozen 3
  have c_x0_4_w6 := x_x0.cell (i := 4) rfl
  have f_x0_4_w6 := x_x0.frozen 4
  go_wp2_with fail
  go_region_held3 (fun w' => w'.cell? ⟨w4.heap.size, 0, none⟩ = some (.int .i64 a.Have) ∧ w'.cell? ⟨w4.heap.size, 1, none⟩ = some (.int .i64 a.State) ∧ w'.cell? ⟨w4.heap.size, 2, none⟩ = some (.int .i64 a.By) ∧ w'.cell? ⟨w4.heap.size, 3, none⟩ = some (.slice AMarks_t2 a.Marks.length cMarks_t2) ∧ w'.cell? ⟨w4.heap.size, 4, none⟩ = some (.slice AReps_t2 a.Reps.length cReps_t2) ∧ w'.cell? ⟨w.heap.size, 0, none⟩ = some (.int .i64 a.Have) ∧ w'.cell? ⟨w.heap.size, 1, none⟩ = some (.int .i64 a.State) ∧ w'.cell? ⟨w.heap.size, 2, none⟩ = some (.int .i64 a.By) ∧ w'.cell? ⟨w.heap.size, 3, none⟩ = some (.slice AMarks_aA a.Marks.length cMarks_aA) ∧ w'.cell? ⟨w.heap.size, 4, none⟩ = some (.slice AReps_aA a.Reps.length cReps_aA))
    (first | exact ⟨c_x0_0_w6, c_x0_1_w6, c_x0_2_w6, c_x0_3_w6, c_x0_4_w6, c_aA_0_w6, c_aA_1_w6, c_aA_2_w6, c_aA_3_w6, c_aA_4_w6⟩ | exact ⟨qz1_x0_0, qz1_x0_1, qz1_x0_2, qz1_x0_3, qz1_x0_4, qz1_aA_0, qz1_aA_1, qz1_aA_2, qz1_aA_3, qz1_aA_4⟩ | exact ⟨qz2_x0_0, qz2_x0_1, qz2_x0_2, qz2_x0_3, qz2_x0_4, qz2_aA_0, qz2_aA_1, qz2_aA_2, qz2_aA_3, qz2_aA_4⟩ | go_keep)
    (first | ((go_at_call 26); (refine (toAcct_c (r_aA.from_ (B_w6.drew)) (by omega)).mono ?_); rintro e w_z1 ⟨v_t3, rfl, o_t3, hd_z1⟩; have hb_z1 : Below w6.heap.size w6 w_z1 := (Below.refl w6.heap.size w6).drew.trans hd_z1; have sd_z1 := hd_z1.size; replace sd_z1 : w6.heap.size ≤ w_z1.heap.size := sd_z1; have qz1_x0_0 := (x_x0.from_ hb_z1).cell (i := 0) rfl; have qz1_x0_1 := (x_x0.from_ hb_z1).cell (i := 1) rfl; have qz1_x0_2 := (x_x0.from_ hb_z1).cell (i := 2) rfl; have qz1_x0_3 := (x_x0.from_ hb_z1).cell (i := 3) rfl; have qz1_x0_4 := (x_x0.from_ hb_z1).cell (i := 4) rfl; have qz1_aA_0 := (x_aA.from_ hb_z1).cell (i := 0) rfl; have qz1_aA_1 := (x_aA.from_ hb_z1).cell (i := 1) rfl; have qz1_aA_2 := (x_aA.from_ hb_z1).cell (i := 2) rfl; have qz1_aA_3 := (x_aA.from_ hb_z1).cell (i := 3) rfl; have qz1_aA_4 := (x_aA.from_ hb_z1).cell (i := 4) rfl; obtain ⟨AMarks_t3, cMarks_t3, AReps_t3, cReps_t3, rfl, -, -⟩ := rv_acct o_t3.rd)
           | ((go_at_call 27); (refine (eqAcct_same (o_t2.below hb_z1).rd o_t3.rd (by omega)).mono ?_); rintro e w_z2 ⟨rfl, hd_z2⟩; have hb_z2 : Below w6.heap.size w6 w_z2 := hb_z1.trans (hd_z2.mono hb_z1.size); have sd_z2 := hd_z2.size; have qz2_x0_0 := (x_x0.from_ hb_z2).cell (i := 0) rfl; have qz2_x0_1 := (x_x0.from_ hb_z2).cell (i := 1) rfl; have qz2_x0_2 := (x_x0.from_ hb_z2).cell (i := 2) rfl; have qz2_x0_3 := (x_x0.from_ hb_z2).cell (i := 3) rfl; have qz2_x0_4 := (x_x0.from_ hb_z2).cell (i := 4) rfl; have qz2_aA_0 := (x_aA.from_ hb_z2).cell (i := 0) rfl; have qz2_aA_1 := (x_aA.from_ hb_z2).cell (i := 1) rfl; have qz2_aA_2 := (x_aA.from_ hb_z2).cell (i := 2) rfl; have qz2_aA_3 := (x_aA.from_ hb_z2).cell (i := 3) rfl; have qz2_aA_4 := (x_aA.from_ hb_z2).cell (i := 4) rfl; replace o_t3 := o_t3.below hd_z2)
           | fail)
  clear c_aA_0_w6 f_aA_0_w6 c_aA_1_w6 f_aA_1_w6 c_aA_2_w6 f_aA_2_w6 c_aA_3_w6 f_aA_3_w6 c_aA_4_w6 f_aA_4_w6 c_x0_0_w6 f_x0_0_w6 c_x0_1_w6 f_x0_1_w6 c_x0_2_w6 f_x0_2_w6 c_x0_3_w6 f_x0_3_w6 c_x0_4_w6 f_x0_4_w6
  have dz_w6 : w6.drew.heap.size = w6.heap.size := rfl
  replace x_aA := x_aA.from_ hb_z2
  replace x_x0 := x_x0.from_ hb_z2
  replace o_t1 := o_t1.below hb_z2
  replace o_t2 := o_t2.below hb_z2
  have B_z2 := B_w6.trans (hb_z2.mono B_w6.size)
  have sz_z2 := hb_z2.size
  have c_aA_0_w_z2 := x_aA.cell (i := 0) rfl
  have f_aA_0_w_z2 := x_aA.frozen 0
  have c_aA_1_w_z2 := x_aA.cell (i := 1) rfl
  have f_aA_1_w_z2 := x_aA.frozen 1
  have c_aA_2_w_z2 := x_aA.cell (i := 2) rfl
  have f_aA_2_w_z2 := x_aA.frozen 2
  have c_aA_3_w_z2 := x_aA.cell (i := 3) rfl
  have f_aA_3_w_z2 := x_aA.frozen 3
  have c_aA_4_w_z2 := x_aA.cell (i := 4) rfl
  have f_aA_4_w_z2 := x_aA.frozen 4
  have c_x0_0_w_z2 := x_x0.cell (i := 0) rfl
  have f_x0_0_w_z2 := x_x0.frozen 0
  have c_x0_1_w_z2 := x_x0.cell (i := 1) rfl
  have f_x0_1_w_z2 := x_x0.frozen 1
  have c_x0_2_w_z2 := x_x0.cell (i := 2) rfl
  have f_x0_2_w_z2 := x_x0.frozen 2
  have c_x0_3_w_z2 := x_x0.cell (i := 3) rfl
  have f_x0_3_w_z2 := x_x0.frozen 3
  have c_x0_4_w_z2 := x_x0.cell (i := 4) rfl
  have f_x0_4_w_z2 := x_x0.frozen 4
  go_wp2
  go_ret
  exact ⟨rfl, B_z2⟩

end Go.Proofs.Ytopmojfcdmcmbaa
