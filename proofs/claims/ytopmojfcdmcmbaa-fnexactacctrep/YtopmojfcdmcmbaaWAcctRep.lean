/- The walk of the law FnExactAcctRep, laid by a program of ours (lawgen2.py) out of the law's text. -/
import Derived.Test.YtopmojfcdmcmbaaAcI
import Derived.Test.YtopmojfcdmcmbaaOutC
namespace Go.Proofs.Ytopmojfcdmcmbaa
open Go.RowKit
set_option linter.unusedVariables false

set_option maxRecDepth 100000 in
set_option maxHeartbeats 8000000 in
theorem wAcctRep (v_aA : Value) (a : MAcct) (d : Int) (x : Int) (n : Int) (w : World) (r_aA : RV acctL w v_aA a) :
    Calls Try.prog 9 #[v_aA, .int .i64 d, .int .i64 x, .int .i64 n] w fun e w' => e = .returned (.bool true) ∧ Below w.heap.size w w' := by
  have h_aA := r_aA
  obtain ⟨AMarks_aA, cMarks_aA, AReps_aA, cReps_aA, rfl, -, -⟩ := rv_acct h_aA
  clear h_aA
  obtain ⟨wa, hwa, B0, sa, x_aA⟩ := frame1 w 40 [.int .i64 a.Have, .int .i64 a.State, .int .i64 a.By, .slice AMarks_aA a.Marks.length cMarks_aA, .slice AReps_aA a.Reps.length cReps_aA]
  have sa_1 := Nat.le_of_eq sa
  have sa_2 := Nat.le_of_eq sa.symm
  clear sa
  have c_aA_0_wa := x_aA.cell (i := 0) rfl
  have c_aA_1_wa := x_aA.cell (i := 1) rfl
  have c_aA_2_wa := x_aA.cell (i := 2) rfl
  have c_aA_3_wa := x_aA.cell (i := 3) rfl
  have c_aA_4_wa := x_aA.cell (i := 4) rfl
  by_cases hbig_aA : a.bulk ≤ 1048576
  case neg =>
    go_enter Try.func9, Try.ntmps9
    go_wp2_with fail
    refine (szAcct_c (r_aA.from_ B0) (by omega) (by omega)).mono ?_
    rintro e w1 ⟨rfl, h_w1⟩
    clear c_aA_0_wa c_aA_1_wa c_aA_2_wa c_aA_3_wa c_aA_4_wa
    replace x_aA := x_aA.from_ h_w1
    have B_w1 := B0.trans (h_w1.mono B0.size)
    have s_w1 := h_w1.size
    rw [show szV (1048576) (a.bulk : Int) = -1 from if_neg (by omega)]
    have c_aA_0_w1 := x_aA.cell (i := 0) rfl
    have c_aA_1_w1 := x_aA.cell (i := 1) rfl
    have c_aA_2_w1 := x_aA.cell (i := 2) rfl
    have c_aA_3_w1 := x_aA.cell (i := 3) rfl
    have c_aA_4_w1 := x_aA.cell (i := 4) rfl
    go_wp2
    go_ret
    exact ⟨rfl, B_w1⟩
  have hz_aA := MAcct.steps_le a
  obtain ⟨R0, hR0⟩ : ∃ R, acctRep a d x n = R := ⟨_, rfl⟩
  have hl0 : R0.bulk ≤ 16777216 := by rw [← hR0]; exact Nat.le_trans (acctRep_bulk a d x n) (by omega)
  have hz0 := MAcct.steps_le R0
  have HR0 := Lib.hid hR0
  clear hR0
  obtain ⟨R1, hR1⟩ : ∃ R, acctRepB a d x = R := ⟨_, rfl⟩
  have HR1 := Lib.hid hR1
  clear hR1
  go_enter Try.func9, Try.ntmps9
  go_wp2_with fail
  refine (szAcct_c (r_aA.from_ B0) (by omega) (by omega)).mono ?_
  rintro e w1 ⟨rfl, h_w1⟩
  clear c_aA_0_wa c_aA_1_wa c_aA_2_wa c_aA_3_wa c_aA_4_wa
  replace x_aA := x_aA.from_ h_w1
  have B_w1 := B0.trans (h_w1.mono B0.size)
  have s_w1 := h_w1.size
  rw [show szV (1048576) (a.bulk : Int) = 1048576 - (a.bulk : Int) from if_pos (by omega)]
  have gz0 : decide (1048576 - (a.bulk : Int) < 0) = false := decide_eq_false (by omega)
  have c_aA_0_w1 := x_aA.cell (i := 0) rfl
  have c_aA_1_w1 := x_aA.cell (i := 1) rfl
  have c_aA_2_w1 := x_aA.cell (i := 2) rfl
  have c_aA_3_w1 := x_aA.cell (i := 3) rfl
  have c_aA_4_w1 := x_aA.cell (i := 4) rfl
  go_wp2_with fail
  refine (toAcct_c (r_aA.from_ B_w1) (by omega)).mono ?_
  rintro e w2 ⟨v_t1, rfl, o_t1, h_w2⟩
  clear c_aA_0_w1 c_aA_1_w1 c_aA_2_w1 c_aA_3_w1 c_aA_4_w1
  replace x_aA := x_aA.from_ h_w2
  have B_w2 := B_w1.trans (h_w2.mono B_w1.size)
  have s_w2 := h_w2.size
  obtain ⟨AMarks_t1, cMarks_t1, AReps_t1, cReps_t1, rfl, -, -⟩ := rv_acct o_t1.rd
  have c_aA_0_w2 := x_aA.cell (i := 0) rfl
  have f_aA_0_w2 := x_aA.frozen 0
  have c_aA_1_w2 := x_aA.cell (i := 1) rfl
  have f_aA_1_w2 := x_aA.frozen 1
  have c_aA_2_w2 := x_aA.cell (i := 2) rfl
  have f_aA_2_w2 := x_aA.frozen 2
  have c_aA_3_w2 := x_aA.cell (i := 3) rfl
  have f_aA_3_w2 := x_aA.frozen 3
  have c_aA_4_w2 := x_aA.cell (i := 4) rfl
  have f_aA_4_w2 := x_aA.frozen 4
  go_wp2_with fail
  refine (sAcctRep_c o_t1.rd (by omega)).mono ?_
  rintro e w3 ⟨v_w0, rfl, o_w0, h_w3⟩
  clear c_aA_0_w2 f_aA_0_w2 c_aA_1_w2 f_aA_1_w2 c_aA_2_w2 f_aA_2_w2 c_aA_3_w2 f_aA_3_w2 c_aA_4_w2 f_aA_4_w2
  replace x_aA := x_aA.from_ h_w3
  replace o_t1 := o_t1.below h_w3
  have B_w3 := B_w2.trans (h_w3.mono B_w2.size)
  have s_w3 := h_w3.size
  rw [HR0.out] at o_w0
  rw [HR1.out]
  obtain ⟨AMarks_w0, cMarks_w0, AReps_w0, cReps_w0, rfl, -, -⟩ := rv_acct o_w0.rd
  have c_aA_0_w3 := x_aA.cell (i := 0) rfl
  have f_aA_0_w3 := x_aA.frozen 0
  have c_aA_1_w3 := x_aA.cell (i := 1) rfl
  have f_aA_1_w3 := x_aA.frozen 1
  have c_aA_2_w3 := x_aA.cell (i := 2) rfl
  have f_aA_2_w3 := x_aA.frozen 2
  have c_aA_3_w3 := x_aA.cell (i := 3) rfl
  have f_aA_3_w3 := x_aA.frozen 3
  have c_aA_4_w3 := x_aA.cell (i := 4) rfl
  have f_aA_4_w3 := x_aA.frozen 4
  obtain ⟨w4, e_w4, s_w4, h_w4, x_w0⟩ := alloc_step w3 27 [.int .i64 R0.Have, .int .i64 R0.State, .int .i64 R0.By, .slice AMarks_w0 R0.Marks.length cMarks_w0, .slice AReps_w0 R0.Reps.length cReps_w0]
  have s_w4_1 := Nat.le_of_eq s_w4
  have s_w4_2 := Nat.le_of_eq s_w4.symm
  clear s_w4
  replace x_aA := x_aA.from_ h_w4
  replace o_t1 := o_t1.below h_w4
  replace o_w0 := o_w0.below h_w4
  have B_w4 := B_w3.trans (h_w4.mono B_w3.size)
  have c_aA_0_w4 := x_aA.cell (i := 0) rfl
  have f_aA_0_w4 := x_aA.frozen 0
  have c_aA_1_w4 := x_aA.cell (i := 1) rfl
  have f_aA_1_w4 := x_aA.frozen 1
  have c_aA_2_w4 := x_aA.cell (i := 2) rfl
  have f_aA_2_w4 := x_aA.frozen 2
  have c_aA_3_w4 := x_aA.cell (i := 3) rfl
  have f_aA_3_w4 := x_aA.frozen 3
  have c_aA_4_w4 := x_aA.cell (i := 4) rfl
  have f_aA_4_w4 := x_aA.frozen 4
  have c_w0_0_w4 := x_w0.cell (i := 0) rfl
  have f_w0_0_w4 := x_w0.frozen 0
  have c_w0_1_w4 := x_w0.cell (i := 1) rfl
  have f_w0_1_w4 := x_w0.frozen 1
  have c_w0_2_w4 := x_w0.cell (i := 2) rfl
  have f_w0_2_w4 := x_w0.frozen 2
  have c_w0_3_w4 := x_w0.cell (i := 3) rfl
  have f_w0_3_w4 := x_w0.frozen 3
  have c_w0_4_w4 := x_w0.cell (i := 4) rfl
  have f_w0_4_w4 := x_w0.frozen 4
  go_wp2_with fail
  refine (toAcct_c (r_aA.from_ B_w4) (by omega)).mono ?_
  rintro e w5 ⟨v_t2, rfl, o_t2, h_w5⟩
  clear c_aA_0_w3 f_aA_0_w3 c_aA_1_w3 f_aA_1_w3 c_aA_2_w3 f_aA_2_w3 c_aA_3_w3 f_aA_3_w3 c_aA_4_w3 f_aA_4_w3 c_aA_0_w4 f_aA_0_w4 c_aA_1_w4 f_aA_1_w4 c_aA_2_w4 f_aA_2_w4 c_aA_3_w4 f_aA_3_w4 c_aA_4_w4 f_aA_4_w4 c_w0_0_w4 f_w0_0_w4 c_w0_1_w4 f_w0_1_w4 c_w0_2_w4 f_w0_2_w4 c_w0_3_w4 f_w0_3_w4 c_w0_4_w4 f_w0_4_w4
  replace x_aA := x_aA.from_ h_w5
  replace x_w0 := x_w0.from_ h_w5
  replace o_t1 := o_t1.below h_w5
  replace o_w0 := o_w0.below h_w5
  have B_w5 := B_w4.trans (h_w5.mono B_w4.size)
  have s_w5 := h_w5.size
  obtain ⟨AMarks_t2, cMarks_t2, AReps_t2, cReps_t2, rfl, -, -⟩ := rv_acct o_t2.rd
  have c_aA_0_w5 := x_aA.cell (i := 0) rfl
  have f_aA_0_w5 := x_aA.frozen 0
  have c_aA_1_w5 := x_aA.cell (i := 1) rfl
  have f_aA_1_w5 := x_aA.frozen 1
  have c_aA_2_w5 := x_aA.cell (i := 2) rfl
  have f_aA_2_w5 := x_aA.frozen 2
  have c_aA_3_w5 := x_aA.cell (i := 3) rfl
  have f_aA_3_w5 := x_aA.frozen 3
  have c_aA_4_w5 := x_aA.cell (i := 4) rfl
  have f_aA_4_w5 := x_aA.frozen 4
  have c_w0_0_w5 := x_w0.cell (i := 0) rfl
  have f_w0_0_w5 := x_w0.frozen 0
  have c_w0_1_w5 := x_w0.cell (i := 1) rfl
  have f_w0_1_w5 := x_w0.frozen 1
  have c_w0_2_w5 := x_w0.cell (i := 2) rfl
  have f_w0_2_w5 := x_w0.frozen 2
  have c_w0_3_w5 := x_w0.cell (i := 3) rfl
  have f_w0_3_w5 := x_w0.frozen 3
  have c_w0_4_w5 := x_w0.cell (i := 4) rfl
  have f_w0_4_w5 := x_w0.frozen 4
  obtain ⟨w6, e_w6, s_w6, h_w6, x_x0⟩ := alloc_step w5 27 [.int .i64 a.Have, .int .i64 a.State, .int .i64 a.By, .slice AMarks_t2 a.Marks.length cMarks_t2, .slice AReps_t2 a.Reps.length cReps_t2]
  have s_w6_1 := Nat.le_of_eq s_w6
  have s_w6_2 := Nat.le_of_eq s_w6.symm
  clear s_w6
  replace x_aA := x_aA.from_ h_w6
  replace x_w0 := x_w0.from_ h_w6
  replace o_t1 := o_t1.below h_w6
  replace o_w0 := o_w0.below h_w6
  replace o_t2 := o_t2.below h_w6
  have B_w6 := B_w5.trans (h_w6.mono B_w5.size)
  have c_aA_0_w6 := x_aA.cell (i := 0) rfl
  have f_aA_0_w6 := x_aA.frozen 0
  have c_aA_1_w6 := x_aA.cell (i := 1) rfl
  have f_aA_1_w6 := x_aA.frozen 1
  have c_aA_2_w6 := x_aA.cell (i := 2) rfl
  have f_aA_2_w6 := x_aA.frozen 2
  have c_aA_3_w6 := x_aA.cell (i := 3) rfl
  have f_aA_3_w6 := x_aA.frozen 3
  have c_aA_4_w6 := x_aA.cell (i := 4) rfl
  have f_aA_4_w6 := x_aA.frozen 4
  have c_w0_0_w6 := x_w0.cell (i := 0) rfl
  have f_w0_0_w6 := x_w0.frozen 0
  have c_w0_1_w6 := x_w0.cell (i := 1) rfl
  have f_w0_1_w6 := x_w0.frozen 1
  have c_w0_2_w6 := x_w0.cell (i := 2) rfl
  have f_w0_2_w6 := x_w0.frozen 2
  have c_w0_3_w6 := x_w0.cell (i := 3) rfl
  have f_w0_3_w6 := x_w0.frozen 3
  have c_w0_4_w6 := x_w0.cell (i := 4) rfl
  have f_w0_4_w6 := x_w0.frozen 4
  have c_x0_0_w6 := x_x0.cell (i := 0) rfl
  have f_x0_0_w6 := x_x0.frozen 0
  have c_x0_1_w6 := x_x0.cell (i := 1) rfl
  have f_x0_1_w6 := x_x0.frozen 1
  have c_x0_2_w6 := x_x0.cell (i := 2) rfl
  have f_x0_2_w6 := x_x0.frozen 2
  have c_x0_3_w6 := x_x0.cell (i := 3) rfl
  have f_x0_3_w6 := x_x0.frozen 3
  have c_x0_4_w6 := x_x0.cell (i := 4) rfl
  have f_x0_4_w6 := x_x0.frozen 4
  go_wp2_with fail
  refine (iAcctRep_c o_t2.rd (by omega)).mono ?_
  rintro e w7 ⟨v_g0, rfl, o_g0, h_w7⟩
  clear c_aA_0_w5 f_aA_0_w5 c_aA_1_w5 f_aA_1_w5 c_aA_2_w5 f_aA_2_w5 c_aA_3_w5 f_aA_3_w5 c_aA_4_w5 f_aA_4_w5 c_w0_0_w5 f_w0_0_w5 c_w0_1_w5 f_w0_1_w5 c_w0_2_w5 f_w0_2_w5 c_w0_3_w5 f_w0_3_w5 c_w0_4_w5 f_w0_4_w5 c_aA_0_w6 f_aA_0_w6 c_aA_1_w6 f_aA_1_w6 c_aA_2_w6 f_aA_2_w6 c_aA_3_w6 f_aA_3_w6 c_aA_4_w6 f_aA_4_w6 c_w0_0_w6 f_w0_0_w6 c_w0_1_w6 f_w0_1_w6 c_w0_2_w6 f_w0_2_w6 c_w0_3_w6 f_w0_3_w6 c_w0_4_w6 f_w0_4_w6 c_x0_0_w6 f_x0_0_w6 c_x0_1_w6 f_x0_1_w6 c_x0_2_w6 f_x0_2_w6 c_x0_3_w6 f_x0_3_w6 c_x0_4_w6 f_x0_4_w6
  replace x_aA := x_aA.from_ h_w7
  replace x_w0 := x_w0.from_ h_w7
  replace x_x0 := x_x0.from_ h_w7
  replace o_t1 := o_t1.below h_w7
  replace o_w0 := o_w0.below h_w7
  replace o_t2 := o_t2.below h_w7
  have B_w7 := B_w6.trans (h_w7.mono B_w6.size)
  have s_w7 := h_w7.size
  rw [HR0.out] at o_g0
  rw [HR1.out]
  obtain ⟨AMarks_g0, cMarks_g0, AReps_g0, cReps_g0, rfl, -, -⟩ := rv_acct o_g0.rd
  have c_aA_0_w7 := x_aA.cell (i := 0) rfl
  have f_aA_0_w7 := x_aA.frozen 0
  have c_aA_1_w7 := x_aA.cell (i := 1) rfl
  have f_aA_1_w7 := x_aA.frozen 1
  have c_aA_2_w7 := x_aA.cell (i := 2) rfl
  have f_aA_2_w7 := x_aA.frozen 2
  have c_aA_3_w7 := x_aA.cell (i := 3) rfl
  have f_aA_3_w7 := x_aA.frozen 3
  have c_aA_4_w7 := x_aA.cell (i := 4) rfl
  have f_aA_4_w7 := x_aA.frozen 4
  have c_w0_0_w7 := x_w0.cell (i := 0) rfl
  have f_w0_0_w7 := x_w0.frozen 0
  have c_w0_1_w7 := x_w0.cell (i := 1) rfl
  have f_w0_1_w7 := x_w0.frozen 1
  have c_w0_2_w7 := x_w0.cell (i := 2) rfl
  have f_w0_2_w7 := x_w0.frozen 2
  have c_w0_3_w7 := x_w0.cell (i := 3) rfl
  have f_w0_3_w7 := x_w0.frozen 3
  have c_w0_4_w7 := x_w0.cell (i := 4) rfl
  have f_w0_4_w7 := x_w0.frozen 4
  have c_x0_0_w7 := x_x0.cell (i := 0) rfl
  have f_x0_0_w7 := x_x0.frozen 0
  have c_x0_1_w7 := x_x0.cell (i := 1) rfl
  have f_x0_1_w7 := x_x0.frozen 1
  have c_x0_2_w7 := x_x0.cell (i := 2) rfl
  have f_x0_2_w7 := x_x0.frozen 2
  have c_x0_3_w7 := x_x0.cell (i := 3) rfl
  have f_x0_3_w7 := x_x0.frozen 3
  have c_x0_4_w7 := x_x0.cell (i := 4) rfl
  have f_x0_4_w7 := x_x0.frozen 4
  obtain ⟨w8, e_w8, s_w8, h_w8, x_g0⟩ := alloc_step w7 27 [.int .i64 R0.Have, .int .i64 R0.State, .int .i64 R0.By, .slice AMarks_g0 R0.Marks.length cMarks_g0, .slice AReps_g0 R0.Reps.length cReps_g0]
  have s_w8_1 := Nat.le_of_eq s_w8
  have s_w8_2 := Nat.le_of_eq s_w8.symm
  clear s_w8
  replace x_aA := x_aA.from_ h_w8
  replace x_w0 := x_w0.from_ h_w8
  replace x_x0 := x_x0.from_ h_w8
  replace o_t1 := o_t1.below h_w8
  replace o_w0 := o_w0.below h_w8
  replace o_t2 := o_t2.below h_w8
  replace o_g0 := o_g0.below h_w8
  have B_w8 := B_w7.trans (h_w8.mono B_w7.size)
  have c_aA_0_w8 := x_aA.cell (i := 0) rfl
  have f_aA_0_w8 := x_aA.frozen 0
  have c_aA_1_w8 := x_aA.cell (i := 1) rfl
  have f_aA_1_w8 := x_aA.frozen 1
  have c_aA_2_w8 := x_aA.cell (i := 2) rfl
  have f_aA_2_w8 := x_aA.frozen 2
  have c_aA_3_w8 := x_aA.cell (i := 3) rfl
  have f_aA_3_w8 := x_aA.frozen 3
  have c_aA_4_w8 := x_aA.cell (i := 4) rfl
  have f_aA_4_w8 := x_aA.frozen 4
  have c_w0_0_w8 := x_w0.cell (i := 0) rfl
  have f_w0_0_w8 := x_w0.frozen 0
  have c_w0_1_w8 := x_w0.cell (i := 1) rfl
  have f_w0_1_w8 := x_w0.frozen 1
  have c_w0_2_w8 := x_w0.cell (i := 2) rfl
  have f_w0_2_w8 := x_w0.frozen 2
  have c_w0_3_w8 := x_w0.cell (i := 3) rfl
  have f_w0_3_w8 := x_w0.frozen 3
  have c_w0_4_w8 := x_w0.cell (i := 4) rfl
  have f_w0_4_w8 := x_w0.frozen 4
  have c_x0_0_w8 := x_x0.cell (i := 0) rfl
  have f_x0_0_w8 := x_x0.frozen 0
  have c_x0_1_w8 := x_x0.cell (i := 1) rfl
  have f_x0_1_w8 := x_x0.frozen 1
  have c_x0_2_w8 := x_x0.cell (i := 2) rfl
  have f_x0_2_w8 := x_x0.frozen 2
  have c_x0_3_w8 := x_x0.cell (i := 3) rfl
  have f_x0_3_w8 := x_x0.frozen 3
  have c_x0_4_w8 := x_x0.cell (i := 4) rfl
  have f_x0_4_w8 := x_x0.frozen 4
  have c_g0_0_w8 := x_g0.cell (i := 0) rfl
  have f_g0_0_w8 := x_g0.frozen 0
  have c_g0_1_w8 := x_g0.cell (i := 1) rfl
  have f_g0_1_w8 := x_g0.frozen 1
  have c_g0_2_w8 := x_g0.cell (i := 2) rfl
  have f_g0_2_w8 := x_g0.frozen 2
  have c_g0_3_w8 := x_g0.cell (i := 3) rfl
  have f_g0_3_w8 := x_g0.frozen 3
  have c_g0_4_w8 := x_g0.cell (i := 4) rfl
  have f_g0_4_w8 := x_g0.frozen 4
  go_wp2_with fail
  refine (eqAcct_same o_g0.rd o_w0.rd (by omega)).mono ?_
  rintro e w9 ⟨rfl, h_w9⟩
  clear c_aA_0_w7 f_aA_0_w7 c_aA_1_w7 f_aA_1_w7 c_aA_2_w7 f_aA_2_w7 c_aA_3_w7 f_aA_3_w7 c_aA_4_w7 f_aA_4_w7 c_w0_0_w7 f_w0_0_w7 c_w0_1_w7 f_w0_1_w7 c_w0_2_w7 f_w0_2_w7 c_w0_3_w7 f_w0_3_w7 c_w0_4_w7 f_w0_4_w7 c_x0_0_w7 f_x0_0_w7 c_x0_1_w7 f_x0_1_w7 c_x0_2_w7 f_x0_2_w7 c_x0_3_w7 f_x0_3_w7 c_x0_4_w7 f_x0_4_w7 c_aA_0_w8 f_aA_0_w8 c_aA_1_w8 f_aA_1_w8 c_aA_2_w8 f_aA_2_w8 c_aA_3_w8 f_aA_3_w8 c_aA_4_w8 f_aA_4_w8 c_w0_0_w8 f_w0_0_w8 c_w0_1_w8 f_w0_1_w8 c_w0_2_w8 f_w0_2_w8 c_w0_3_w8 f_w0_3_w8 c_w0_4_w8 f_w0_4_w8 c_x0_0_w8 f_x0_0_w8 c_x0_1_w8 f_x0_1_w8 c_x0_2_w8 f_x0_2_w8 c_x0_3_w8 f_x0_3_w8 c_x0_4_w8 f_x0_4_w8 c_g0_0_w8 f_g0_0_w8 c_g0_1_w8 f_g0_1_w8 c_g0_2_w8 f_g0_2_w8 c_g0_3_w8 f_g0_3_w8 c_g0_4_w8 f_g0_4_w8
  replace x_aA := x_aA.from_ h_w9
  replace x_w0 := x_w0.from_ h_w9
  replace x_x0 := x_x0.from_ h_w9
  replace x_g0 := x_g0.from_ h_w9
  replace o_t1 := o_t1.below h_w9
  replace o_w0 := o_w0.below h_w9
  replace o_t2 := o_t2.below h_w9
  replace o_g0 := o_g0.below h_w9
  have B_w9 := B_w8.trans (h_w9.mono B_w8.size)
  have s_w9 := h_w9.size
  have c_aA_0_w9 := x_aA.cell (i := 0) rfl
  have f_aA_0_w9 := x_aA.frozen 0
  have c_aA_1_w9 := x_aA.cell (i := 1) rfl
  have f_aA_1_w9 := x_aA.frozen 1
  have c_aA_2_w9 := x_aA.cell (i := 2) rfl
  have f_aA_2_w9 := x_aA.frozen 2
  have c_aA_3_w9 := x_aA.cell (i := 3) rfl
  have f_aA_3_w9 := x_aA.frozen 3
  have c_aA_4_w9 := x_aA.cell (i := 4) rfl
  have f_aA_4_w9 := x_aA.frozen 4
  have c_w0_0_w9 := x_w0.cell (i := 0) rfl
  have f_w0_0_w9 := x_w0.frozen 0
  have c_w0_1_w9 := x_w0.cell (i := 1) rfl
  have f_w0_1_w9 := x_w0.frozen 1
  have c_w0_2_w9 := x_w0.cell (i := 2) rfl
  have f_w0_2_w9 := x_w0.frozen 2
  have c_w0_3_w9 := x_w0.cell (i := 3) rfl
  have f_w0_3_w9 := x_w0.frozen 3
  have c_w0_4_w9 := x_w0.cell (i := 4) rfl
  have f_w0_4_w9 := x_w0.frozen 4
  have c_x0_0_w9 := x_x0.cell (i := 0) rfl
  have f_x0_0_w9 := x_x0.frozen 0
  have c_x0_1_w9 := x_x0.cell (i := 1) rfl
  have f_x0_1_w9 := x_x0.frozen 1
  have c_x0_2_w9 := x_x0.cell (i := 2) rfl
  have f_x0_2_w9 := x_x0.frozen 2
  have c_x0_3_w9 := x_x0.cell (i := 3) rfl
  have f_x0_3_w9 := x_x0.frozen 3
  have c_x0_4_w9 := x_x0.cell (i := 4) rfl
  have f_x0_4_w9 := x_x0.frozen 4
  have c_g0_0_w9 := x_g0.cell (i := 0) rfl
  have f_g0_0_w9 := x_g0.frozen 0
  have c_g0_1_w9 := x_g0.cell (i := 1) rfl
  have f_g0_1_w9 := x_g0.frozen 1
  have c_g0_2_w9 := x_g0.cell (i := 2) rfl
  have f_g0_2_w9 := x_g0.frozen 2
  have c_g0_3_w9 := x_g0.cell (i := 3) rfl
  have f_g0_3_w9 := x_g0.frozen 3
  have c_g0_4_w9 := x_g0.cell (i := 4) rfl
  have f_g0_4_w9 := x_g0.frozen 4
  go_wp2_with fail
  go_region_held3 (fun w' => w'.cell? ⟨w5.heap.size, 0, none⟩ = some (.int .i64 a.Have) ∧ w'.cell? ⟨w5.heap.size, 1, none⟩ = some (.int .i64 a.State) ∧ w'.cell? ⟨w5.heap.size, 2, none⟩ = some (.int .i64 a.By) ∧ w'.cell? ⟨w5.heap.size, 3, none⟩ = some (.slice AMarks_t2 a.Marks.length cMarks_t2) ∧ w'.cell? ⟨w5.heap.size, 4, none⟩ = some (.slice AReps_t2 a.Reps.length cReps_t2) ∧ w'.cell? ⟨w.heap.size, 0, none⟩ = some (.int .i64 a.Have) ∧ w'.cell? ⟨w.heap.size, 1, none⟩ = some (.int .i64 a.State) ∧ w'.cell? ⟨w.heap.size, 2, none⟩ = some (.int .i64 a.By) ∧ w'.cell? ⟨w.heap.size, 3, none⟩ = some (.slice AMarks_aA a.Marks.length cMarks_aA) ∧ w'.cell? ⟨w.heap.size, 4, none⟩ = some (.slice AReps_aA a.Reps.length cReps_aA))
    (first | exact ⟨c_x0_0_w9, c_x0_1_w9, c_x0_2_w9, c_x0_3_w9, c_x0_4_w9, c_aA_0_w9, c_aA_1_w9, c_aA_2_w9, c_aA_3_w9, c_aA_4_w9⟩ | exact ⟨qz1_x0_0, qz1_x0_1, qz1_x0_2, qz1_x0_3, qz1_x0_4, qz1_aA_0, qz1_aA_1, qz1_aA_2, qz1_aA_3, qz1_aA_4⟩ | exact ⟨qz2_x0_0, qz2_x0_1, qz2_x0_2, qz2_x0_3, qz2_x0_4, qz2_aA_0, qz2_aA_1, qz2_aA_2, qz2_aA_3, qz2_aA_4⟩ | go_keep)
    (first | ((go_at_call 26); (refine (toAcct_c (r_aA.from_ (B_w9.drew)) (by omega)).mono ?_); rintro e w_z1 ⟨v_t3, rfl, o_t3, hd_z1⟩; have hb_z1 : Below w9.heap.size w9 w_z1 := (Below.refl w9.heap.size w9).drew.trans hd_z1; have sd_z1 := hd_z1.size; replace sd_z1 : w9.heap.size ≤ w_z1.heap.size := sd_z1; have qz1_x0_0 := (x_x0.from_ hb_z1).cell (i := 0) rfl; have qz1_x0_1 := (x_x0.from_ hb_z1).cell (i := 1) rfl; have qz1_x0_2 := (x_x0.from_ hb_z1).cell (i := 2) rfl; have qz1_x0_3 := (x_x0.from_ hb_z1).cell (i := 3) rfl; have qz1_x0_4 := (x_x0.from_ hb_z1).cell (i := 4) rfl; have qz1_aA_0 := (x_aA.from_ hb_z1).cell (i := 0) rfl; have qz1_aA_1 := (x_aA.from_ hb_z1).cell (i := 1) rfl; have qz1_aA_2 := (x_aA.from_ hb_z1).cell (i := 2) rfl; have qz1_aA_3 := (x_aA.from_ hb_z1).cell (i := 3) rfl; have qz1_aA_4 := (x_aA.from_ hb_z1).cell (i := 4) rfl; obtain ⟨AMarks_t3, cMarks_t3, AReps_t3, cReps_t3, rfl, -, -⟩ := rv_acct o_t3.rd)
           | ((go_at_call 27); (refine (eqAcct_same (o_t2.below hb_z1).rd o_t3.rd (by omega)).mono ?_); rintro e w_z2 ⟨rfl, hd_z2⟩; have hb_z2 : Below w9.heap.size w9 w_z2 := hb_z1.trans (hd_z2.mono hb_z1.size); have sd_z2 := hd_z2.size; have qz2_x0_0 := (x_x0.from_ hb_z2).cell (i := 0) rfl; have qz2_x0_1 := (x_x0.from_ hb_z2).cell (i := 1) rfl; have qz2_x0_2 := (x_x0.from_ hb_z2).cell (i := 2) rfl; have qz2_x0_3 := (x_x0.from_ hb_z2).cell (i := 3) rfl; have qz2_x0_4 := (x_x0.from_ hb_z2).cell (i := 4) rfl; have qz2_aA_0 := (x_aA.from_ hb_z2).cell (i := 0) rfl; have qz2_aA_1 := (x_aA.from_ hb_z2).cell (i := 1) rfl; have qz2_aA_2 := (x_aA.from_ hb_z2).cell (i := 2) rfl; have qz2_aA_3 := (x_aA.from_ hb_z2).cell (i := 3) rfl; have qz2_aA_4 := (x_aA.from_ hb_z2).cell (i := 4) rfl; replace o_t3 := o_t3.below hd_z2)
           | fail)
  clear c_aA_0_w9 f_aA_0_w9 c_aA_1_w9 f_aA_1_w9 c_aA_2_w9 f_aA_2_w9 c_aA_3_w9 f_aA_3_w9 c_aA_4_w9 f_aA_4_w9 c_w0_0_w9 f_w0_0_w9 c_w0_1_w9 f_w0_1_w9 c_w0_2_w9 f_w0_2_w9 c_w0_3_w9 f_w0_3_w9 c_w0_4_w9 f_w0_4_w9 c_x0_0_w9 f_x0_0_w9 c_x0_1_w9 f_x0_1_w9 c_x0_2_w9 f_x0_2_w9 c_x0_3_w9 f_x0_3_w9 c_x0_4_w9 f_x0_4_w9 c_g0_0_w9 f_g0_0_w9 c_g0_1_w9 f_g0_1_w9 c_g0_2_w9 f_g0_2_w9 c_g0_3_w9 f_g0_3_w9 c_g0_4_w9 f_g0_4_w9
  have dz_w9 : w9.drew.heap.size = w9.heap.size := rfl
  replace x_aA := x_aA.from_ hb_z2
  replace x_w0 := x_w0.from_ hb_z2
  replace x_x0 := x_x0.from_ hb_z2
  replace x_g0 := x_g0.from_ hb_z2
  replace o_t1 := o_t1.below hb_z2
  replace o_w0 := o_w0.below hb_z2
  replace o_t2 := o_t2.below hb_z2
  replace o_g0 := o_g0.below hb_z2
  have B_z2 := B_w9.trans (hb_z2.mono B_w9.size)
  have sz_z2 := hb_z2.size
  have c_aA_0_w_z2 := x_aA.cell (i := 0) rfl
  have f_aA_0_w_z2 := x_aA.frozen 0
  have c_aA_1_w_z2 := x_aA.cell (i := 1) rfl
  have f_aA_1_w_z2 := x_aA.frozen 1
  have c_aA_2_w_z2 := x_aA.cell (i := 2) rfl
  have f_aA_2_w_z2 := x_aA.frozen 2
  have c_aA_3_w_z2 := x_aA.cell (i := 3) rfl
  have f_aA_3_w_z2 := x_aA.frozen 3
  have c_aA_4_w_z2 := x_aA.cell (i := 4) rfl
  have f_aA_4_w_z2 := x_aA.frozen 4
  have c_w0_0_w_z2 := x_w0.cell (i := 0) rfl
  have f_w0_0_w_z2 := x_w0.frozen 0
  have c_w0_1_w_z2 := x_w0.cell (i := 1) rfl
  have f_w0_1_w_z2 := x_w0.frozen 1
  have c_w0_2_w_z2 := x_w0.cell (i := 2) rfl
  have f_w0_2_w_z2 := x_w0.frozen 2
  have c_w0_3_w_z2 := x_w0.cell (i := 3) rfl
  have f_w0_3_w_z2 := x_w0.frozen 3
  have c_w0_4_w_z2 := x_w0.cell (i := 4) rfl
  have f_w0_4_w_z2 := x_w0.frozen 4
  have c_x0_0_w_z2 := x_x0.cell (i := 0) rfl
  have f_x0_0_w_z2 := x_x0.frozen 0
  have c_x0_1_w_z2 := x_x0.cell (i := 1) rfl
  have f_x0_1_w_z2 := x_x0.frozen 1
  have c_x0_2_w_z2 := x_x0.cell (i := 2) rfl
  have f_x0_2_w_z2 := x_x0.frozen 2
  have c_x0_3_w_z2 := x_x0.cell (i := 3) rfl
  have f_x0_3_w_z2 := x_x0.frozen 3
  have c_x0_4_w_z2 := x_x0.cell (i := 4) rfl
  have f_x0_4_w_z2 := x_x0.frozen 4
  have c_g0_0_w_z2 := x_g0.cell (i := 0) rfl
  have f_g0_0_w_z2 := x_g0.frozen 0
  have c_g0_1_w_z2 := x_g0.cell (i := 1) rfl
  have f_g0_1_w_z2 := x_g0.frozen 1
  have c_g0_2_w_z2 := x_g0.cell (i := 2) rfl
  have f_g0_2_w_z2 := x_g0.frozen 2
  have c_g0_3_w_z2 := x_g0.cell (i := 3) rfl
  have f_g0_3_w_z2 := x_g0.frozen 3
  have c_g0_4_w_z2 := x_g0.cell (i := 4) rfl
  have f_g0_4_w_z2 := x_g0.frozen 4
  go_wp2_with fail
  refine (markAcct_c o_t2 (by omega) (by omega) (by omega)).mono ?_
  rintro e w10 ⟨rfl, y, h_w10⟩
  clear c_aA_0_w_z2 f_aA_0_w_z2 c_aA_1_w_z2 f_aA_1_w_z2 c_aA_2_w_z2 f_aA_2_w_z2 c_aA_3_w_z2 f_aA_3_w_z2 c_aA_4_w_z2 f_aA_4_w_z2 c_w0_0_w_z2 f_w0_0_w_z2 c_w0_1_w_z2 f_w0_1_w_z2 c_w0_2_w_z2 f_w0_2_w_z2 c_w0_3_w_z2 f_w0_3_w_z2 c_w0_4_w_z2 f_w0_4_w_z2 c_x0_0_w_z2 f_x0_0_w_z2 c_x0_1_w_z2 f_x0_1_w_z2 c_x0_2_w_z2 f_x0_2_w_z2 c_x0_3_w_z2 f_x0_3_w_z2 c_x0_4_w_z2 f_x0_4_w_z2 c_g0_0_w_z2 f_g0_0_w_z2 c_g0_1_w_z2 f_g0_1_w_z2 c_g0_2_w_z2 f_g0_2_w_z2 c_g0_3_w_z2 f_g0_3_w_z2 c_g0_4_w_z2 f_g0_4_w_z2
  replace x_aA := x_aA.chg h_w10 (by omega)
  replace x_w0 := x_w0.chg h_w10 (by omega)
  replace x_x0 := x_x0.chg h_w10 (by omega)
  replace x_g0 := x_g0.chg h_w10 (by omega)
  replace o_t1 := o_t1.chg h_w10 (by omega)
  replace o_w0 := o_w0.chg h_w10 (by omega)
  replace o_g0 := o_g0.chg h_w10 (by omega)
  have B_w10 := Below.chg_ B_z2 h_w10 (by omega) (by omega)
  have s_w10 := h_w10.size
  replace o_t2 := y
  clear y
  have c_aA_0_w10 := x_aA.cell (i := 0) rfl
  have f_aA_0_w10 := x_aA.frozen 0
  have c_aA_1_w10 := x_aA.cell (i := 1) rfl
  have f_aA_1_w10 := x_aA.frozen 1
  have c_aA_2_w10 := x_aA.cell (i := 2) rfl
  have f_aA_2_w10 := x_aA.frozen 2
  have c_aA_3_w10 := x_aA.cell (i := 3) rfl
  have f_aA_3_w10 := x_aA.frozen 3
  have c_aA_4_w10 := x_aA.cell (i := 4) rfl
  have f_aA_4_w10 := x_aA.frozen 4
  have c_w0_0_w10 := x_w0.cell (i := 0) rfl
  have f_w0_0_w10 := x_w0.frozen 0
  have c_w0_1_w10 := x_w0.cell (i := 1) rfl
  have f_w0_1_w10 := x_w0.frozen 1
  have c_w0_2_w10 := x_w0.cell (i := 2) rfl
  have f_w0_2_w10 := x_w0.frozen 2
  have c_w0_3_w10 := x_w0.cell (i := 3) rfl
  have f_w0_3_w10 := x_w0.frozen 3
  have c_w0_4_w10 := x_w0.cell (i := 4) rfl
  have f_w0_4_w10 := x_w0.frozen 4
  have c_x0_0_w10 := x_x0.cell (i := 0) rfl
  have f_x0_0_w10 := x_x0.frozen 0
  have c_x0_1_w10 := x_x0.cell (i := 1) rfl
  have f_x0_1_w10 := x_x0.frozen 1
  have c_x0_2_w10 := x_x0.cell (i := 2) rfl
  have f_x0_2_w10 := x_x0.frozen 2
  have c_x0_3_w10 := x_x0.cell (i := 3) rfl
  have f_x0_3_w10 := x_x0.frozen 3
  have c_x0_4_w10 := x_x0.cell (i := 4) rfl
  have f_x0_4_w10 := x_x0.frozen 4
  have c_g0_0_w10 := x_g0.cell (i := 0) rfl
  have f_g0_0_w10 := x_g0.frozen 0
  have c_g0_1_w10 := x_g0.cell (i := 1) rfl
  have f_g0_1_w10 := x_g0.frozen 1
  have c_g0_2_w10 := x_g0.cell (i := 2) rfl
  have f_g0_2_w10 := x_g0.frozen 2
  have c_g0_3_w10 := x_g0.cell (i := 3) rfl
  have f_g0_3_w10 := x_g0.frozen 3
  have c_g0_4_w10 := x_g0.cell (i := 4) rfl
  have f_g0_4_w10 := x_g0.frozen 4
  go_wp2_with fail
  refine (eqAcct_same o_g0.rd o_w0.rd (by omega)).mono ?_
  rintro e w11 ⟨rfl, h_w11⟩
  clear c_aA_0_w10 f_aA_0_w10 c_aA_1_w10 f_aA_1_w10 c_aA_2_w10 f_aA_2_w10 c_aA_3_w10 f_aA_3_w10 c_aA_4_w10 f_aA_4_w10 c_w0_0_w10 f_w0_0_w10 c_w0_1_w10 f_w0_1_w10 c_w0_2_w10 f_w0_2_w10 c_w0_3_w10 f_w0_3_w10 c_w0_4_w10 f_w0_4_w10 c_x0_0_w10 f_x0_0_w10 c_x0_1_w10 f_x0_1_w10 c_x0_2_w10 f_x0_2_w10 c_x0_3_w10 f_x0_3_w10 c_x0_4_w10 f_x0_4_w10 c_g0_0_w10 f_g0_0_w10 c_g0_1_w10 f_g0_1_w10 c_g0_2_w10 f_g0_2_w10 c_g0_3_w10 f_g0_3_w10 c_g0_4_w10 f_g0_4_w10
  replace x_aA := x_aA.from_ h_w11
  replace x_w0 := x_w0.from_ h_w11
  replace x_x0 := x_x0.from_ h_w11
  replace x_g0 := x_g0.from_ h_w11
  replace o_t1 := o_t1.below h_w11
  replace o_w0 := o_w0.below h_w11
  replace o_t2 := o_t2.below h_w11
  replace o_g0 := o_g0.below h_w11
  have B_w11 := B_w10.trans (h_w11.mono B_w10.size)
  have s_w11 := h_w11.size
  have c_aA_0_w11 := x_aA.cell (i := 0) rfl
  have f_aA_0_w11 := x_aA.frozen 0
  have c_aA_1_w11 := x_aA.cell (i := 1) rfl
  have f_aA_1_w11 := x_aA.frozen 1
  have c_aA_2_w11 := x_aA.cell (i := 2) rfl
  have f_aA_2_w11 := x_aA.frozen 2
  have c_aA_3_w11 := x_aA.cell (i := 3) rfl
  have f_aA_3_w11 := x_aA.frozen 3
  have c_aA_4_w11 := x_aA.cell (i := 4) rfl
  have f_aA_4_w11 := x_aA.frozen 4
  have c_w0_0_w11 := x_w0.cell (i := 0) rfl
  have f_w0_0_w11 := x_w0.frozen 0
  have c_w0_1_w11 := x_w0.cell (i := 1) rfl
  have f_w0_1_w11 := x_w0.frozen 1
  have c_w0_2_w11 := x_w0.cell (i := 2) rfl
  have f_w0_2_w11 := x_w0.frozen 2
  have c_w0_3_w11 := x_w0.cell (i := 3) rfl
  have f_w0_3_w11 := x_w0.frozen 3
  have c_w0_4_w11 := x_w0.cell (i := 4) rfl
  have f_w0_4_w11 := x_w0.frozen 4
  have c_x0_0_w11 := x_x0.cell (i := 0) rfl
  have f_x0_0_w11 := x_x0.frozen 0
  have c_x0_1_w11 := x_x0.cell (i := 1) rfl
  have f_x0_1_w11 := x_x0.frozen 1
  have c_x0_2_w11 := x_x0.cell (i := 2) rfl
  have f_x0_2_w11 := x_x0.frozen 2
  have c_x0_3_w11 := x_x0.cell (i := 3) rfl
  have f_x0_3_w11 := x_x0.frozen 3
  have c_x0_4_w11 := x_x0.cell (i := 4) rfl
  have f_x0_4_w11 := x_x0.frozen 4
  have c_g0_0_w11 := x_g0.cell (i := 0) rfl
  have f_g0_0_w11 := x_g0.frozen 0
  have c_g0_1_w11 := x_g0.cell (i := 1) rfl
  have f_g0_1_w11 := x_g0.frozen 1
  have c_g0_2_w11 := x_g0.cell (i := 2) rfl
  have f_g0_2_w11 := x_g0.frozen 2
  have c_g0_3_w11 := x_g0.cell (i := 3) rfl
  have f_g0_3_w11 := x_g0.frozen 3
  have c_g0_4_w11 := x_g0.cell (i := 4) rfl
  have f_g0_4_w11 := x_g0.frozen 4
  go_wp2_with fail
  refine (markAcct_c o_g0 (by omega) (by omega) (by omega)).mono ?_
  rintro e w12 ⟨rfl, y, h_w12⟩
  clear c_aA_0_w11 f_aA_0_w11 c_aA_1_w11 f_aA_1_w11 c_aA_2_w11 f_aA_2_w11 c_aA_3_w11 f_aA_3_w11 c_aA_4_w11 f_aA_4_w11 c_w0_0_w11 f_w0_0_w11 c_w0_1_w11 f_w0_1_w11 c_w0_2_w11 f_w0_2_w11 c_w0_3_w11 f_w0_3_w11 c_w0_4_w11 f_w0_4_w11 c_x0_0_w11 f_x0_0_w11 c_x0_1_w11 f_x0_1_w11 c_x0_2_w11 f_x0_2_w11 c_x0_3_w11 f_x0_3_w11 c_x0_4_w11 f_x0_4_w11 c_g0_0_w11 f_g0_0_w11 c_g0_1_w11 f_g0_1_w11 c_g0_2_w11 f_g0_2_w11 c_g0_3_w11 f_g0_3_w11 c_g0_4_w11 f_g0_4_w11
  replace x_aA := x_aA.chg h_w12 (by omega)
  replace x_w0 := x_w0.chg h_w12 (by omega)
  replace x_x0 := x_x0.chg h_w12 (by omega)
  replace x_g0 := x_g0.chg h_w12 (by omega)
  replace o_t1 := o_t1.chg h_w12 (by omega)
  replace o_w0 := o_w0.chg h_w12 (by omega)
  replace o_t2 := o_t2.chg h_w12 (by omega)
  have B_w12 := Below.chg_ B_w11 h_w12 (by omega) (by omega)
  have s_w12 := h_w12.size
  replace o_g0 := y
  clear y
  have c_aA_0_w12 := x_aA.cell (i := 0) rfl
  have f_aA_0_w12 := x_aA.frozen 0
  have c_aA_1_w12 := x_aA.cell (i := 1) rfl
  have f_aA_1_w12 := x_aA.frozen 1
  have c_aA_2_w12 := x_aA.cell (i := 2) rfl
  have f_aA_2_w12 := x_aA.frozen 2
  have c_aA_3_w12 := x_aA.cell (i := 3) rfl
  have f_aA_3_w12 := x_aA.frozen 3
  have c_aA_4_w12 := x_aA.cell (i := 4) rfl
  have f_aA_4_w12 := x_aA.frozen 4
  have c_w0_0_w12 := x_w0.cell (i := 0) rfl
  have f_w0_0_w12 := x_w0.frozen 0
  have c_w0_1_w12 := x_w0.cell (i := 1) rfl
  have f_w0_1_w12 := x_w0.frozen 1
  have c_w0_2_w12 := x_w0.cell (i := 2) rfl
  have f_w0_2_w12 := x_w0.frozen 2
  have c_w0_3_w12 := x_w0.cell (i := 3) rfl
  have f_w0_3_w12 := x_w0.frozen 3
  have c_w0_4_w12 := x_w0.cell (i := 4) rfl
  have f_w0_4_w12 := x_w0.frozen 4
  have c_x0_0_w12 := x_x0.cell (i := 0) rfl
  have f_x0_0_w12 := x_x0.frozen 0
  have c_x0_1_w12 := x_x0.cell (i := 1) rfl
  have f_x0_1_w12 := x_x0.frozen 1
  have c_x0_2_w12 := x_x0.cell (i := 2) rfl
  have f_x0_2_w12 := x_x0.frozen 2
  have c_x0_3_w12 := x_x0.cell (i := 3) rfl
  have f_x0_3_w12 := x_x0.frozen 3
  have c_x0_4_w12 := x_x0.cell (i := 4) rfl
  have f_x0_4_w12 := x_x0.frozen 4
  have c_g0_0_w12 := x_g0.cell (i := 0) rfl
  have f_g0_0_w12 := x_g0.frozen 0
  have c_g0_1_w12 := x_g0.cell (i := 1) rfl
  have f_g0_1_w12 := x_g0.frozen 1
  have c_g0_2_w12 := x_g0.cell (i := 2) rfl
  have f_g0_2_w12 := x_g0.frozen 2
  have c_g0_3_w12 := x_g0.cell (i := 3) rfl
  have f_g0_3_w12 := x_g0.frozen 3
  have c_g0_4_w12 := x_g0.cell (i := 4) rfl
  have f_g0_4_w12 := x_g0.frozen 4
  go_wp2_with fail
  refine (heldAcct_c o_g0.rd (by omega) (by omega) (by omega)).mono ?_
  rintro e w13 ⟨rfl, h_w13⟩
  clear c_aA_0_w12 f_aA_0_w12 c_aA_1_w12 f_aA_1_w12 c_aA_2_w12 f_aA_2_w12 c_aA_3_w12 f_aA_3_w12 c_aA_4_w12 f_aA_4_w12 c_w0_0_w12 f_w0_0_w12 c_w0_1_w12 f_w0_1_w12 c_w0_2_w12 f_w0_2_w12 c_w0_3_w12 f_w0_3_w12 c_w0_4_w12 f_w0_4_w12 c_x0_0_w12 f_x0_0_w12 c_x0_1_w12 f_x0_1_w12 c_x0_2_w12 f_x0_2_w12 c_x0_3_w12 f_x0_3_w12 c_x0_4_w12 f_x0_4_w12 c_g0_0_w12 f_g0_0_w12 c_g0_1_w12 f_g0_1_w12 c_g0_2_w12 f_g0_2_w12 c_g0_3_w12 f_g0_3_w12 c_g0_4_w12 f_g0_4_w12
  replace x_aA := x_aA.from_ h_w13
  replace x_w0 := x_w0.from_ h_w13
  replace x_x0 := x_x0.from_ h_w13
  replace x_g0 := x_g0.from_ h_w13
  replace o_t1 := o_t1.below h_w13
  replace o_w0 := o_w0.below h_w13
  replace o_t2 := o_t2.below h_w13
  replace o_g0 := o_g0.below h_w13
  have B_w13 := B_w12.trans (h_w13.mono B_w12.size)
  have s_w13 := h_w13.size
  have c_aA_0_w13 := x_aA.cell (i := 0) rfl
  have f_aA_0_w13 := x_aA.frozen 0
  have c_aA_1_w13 := x_aA.cell (i := 1) rfl
  have f_aA_1_w13 := x_aA.frozen 1
  have c_aA_2_w13 := x_aA.cell (i := 2) rfl
  have f_aA_2_w13 := x_aA.frozen 2
  have c_aA_3_w13 := x_aA.cell (i := 3) rfl
  have f_aA_3_w13 := x_aA.frozen 3
  have c_aA_4_w13 := x_aA.cell (i := 4) rfl
  have f_aA_4_w13 := x_aA.frozen 4
  have c_w0_0_w13 := x_w0.cell (i := 0) rfl
  have f_w0_0_w13 := x_w0.frozen 0
  have c_w0_1_w13 := x_w0.cell (i := 1) rfl
  have f_w0_1_w13 := x_w0.frozen 1
  have c_w0_2_w13 := x_w0.cell (i := 2) rfl
  have f_w0_2_w13 := x_w0.frozen 2
  have c_w0_3_w13 := x_w0.cell (i := 3) rfl
  have f_w0_3_w13 := x_w0.frozen 3
  have c_w0_4_w13 := x_w0.cell (i := 4) rfl
  have f_w0_4_w13 := x_w0.frozen 4
  have c_x0_0_w13 := x_x0.cell (i := 0) rfl
  have f_x0_0_w13 := x_x0.frozen 0
  have c_x0_1_w13 := x_x0.cell (i := 1) rfl
  have f_x0_1_w13 := x_x0.frozen 1
  have c_x0_2_w13 := x_x0.cell (i := 2) rfl
  have f_x0_2_w13 := x_x0.frozen 2
  have c_x0_3_w13 := x_x0.cell (i := 3) rfl
  have f_x0_3_w13 := x_x0.frozen 3
  have c_x0_4_w13 := x_x0.cell (i := 4) rfl
  have f_x0_4_w13 := x_x0.frozen 4
  have c_g0_0_w13 := x_g0.cell (i := 0) rfl
  have f_g0_0_w13 := x_g0.frozen 0
  have c_g0_1_w13 := x_g0.cell (i := 1) rfl
  have f_g0_1_w13 := x_g0.frozen 1
  have c_g0_2_w13 := x_g0.cell (i := 2) rfl
  have f_g0_2_w13 := x_g0.frozen 2
  have c_g0_3_w13 := x_g0.cell (i := 3) rfl
  have f_g0_3_w13 := x_g0.frozen 3
  have c_g0_4_w13 := x_g0.cell (i := 4) rfl
  have f_g0_4_w13 := x_g0.frozen 4
  go_wp2_with fail
  refine (toAcct_c (r_aA.from_ B_w13) (by omega)).mono ?_
  rintro e w14 ⟨v_t4, rfl, o_t4, h_w14⟩
  clear c_aA_0_w13 f_aA_0_w13 c_aA_1_w13 f_aA_1_w13 c_aA_2_w13 f_aA_2_w13 c_aA_3_w13 f_aA_3_w13 c_aA_4_w13 f_aA_4_w13 c_w0_0_w13 f_w0_0_w13 c_w0_1_w13 f_w0_1_w13 c_w0_2_w13 f_w0_2_w13 c_w0_3_w13 f_w0_3_w13 c_w0_4_w13 f_w0_4_w13 c_x0_0_w13 f_x0_0_w13 c_x0_1_w13 f_x0_1_w13 c_x0_2_w13 f_x0_2_w13 c_x0_3_w13 f_x0_3_w13 c_x0_4_w13 f_x0_4_w13 c_g0_0_w13 f_g0_0_w13 c_g0_1_w13 f_g0_1_w13 c_g0_2_w13 f_g0_2_w13 c_g0_3_w13 f_g0_3_w13 c_g0_4_w13 f_g0_4_w13
  replace x_aA := x_aA.from_ h_w14
  replace x_w0 := x_w0.from_ h_w14
  replace x_x0 := x_x0.from_ h_w14
  replace x_g0 := x_g0.from_ h_w14
  replace o_t1 := o_t1.below h_w14
  replace o_w0 := o_w0.below h_w14
  replace o_t2 := o_t2.below h_w14
  replace o_g0 := o_g0.below h_w14
  have B_w14 := B_w13.trans (h_w14.mono B_w13.size)
  have s_w14 := h_w14.size
  obtain ⟨AMarks_t4, cMarks_t4, AReps_t4, cReps_t4, rfl, -, -⟩ := rv_acct o_t4.rd
  have c_aA_0_w14 := x_aA.cell (i := 0) rfl
  have f_aA_0_w14 := x_aA.frozen 0
  have c_aA_1_w14 := x_aA.cell (i := 1) rfl
  have f_aA_1_w14 := x_aA.frozen 1
  have c_aA_2_w14 := x_aA.cell (i := 2) rfl
  have f_aA_2_w14 := x_aA.frozen 2
  have c_aA_3_w14 := x_aA.cell (i := 3) rfl
  have f_aA_3_w14 := x_aA.frozen 3
  have c_aA_4_w14 := x_aA.cell (i := 4) rfl
  have f_aA_4_w14 := x_aA.frozen 4
  have c_w0_0_w14 := x_w0.cell (i := 0) rfl
  have f_w0_0_w14 := x_w0.frozen 0
  have c_w0_1_w14 := x_w0.cell (i := 1) rfl
  have f_w0_1_w14 := x_w0.frozen 1
  have c_w0_2_w14 := x_w0.cell (i := 2) rfl
  have f_w0_2_w14 := x_w0.frozen 2
  have c_w0_3_w14 := x_w0.cell (i := 3) rfl
  have f_w0_3_w14 := x_w0.frozen 3
  have c_w0_4_w14 := x_w0.cell (i := 4) rfl
  have f_w0_4_w14 := x_w0.frozen 4
  have c_x0_0_w14 := x_x0.cell (i := 0) rfl
  have f_x0_0_w14 := x_x0.frozen 0
  have c_x0_1_w14 := x_x0.cell (i := 1) rfl
  have f_x0_1_w14 := x_x0.frozen 1
  have c_x0_2_w14 := x_x0.cell (i := 2) rfl
  have f_x0_2_w14 := x_x0.frozen 2
  have c_x0_3_w14 := x_x0.cell (i := 3) rfl
  have f_x0_3_w14 := x_x0.frozen 3
  have c_x0_4_w14 := x_x0.cell (i := 4) rfl
  have f_x0_4_w14 := x_x0.frozen 4
  have c_g0_0_w14 := x_g0.cell (i := 0) rfl
  have f_g0_0_w14 := x_g0.frozen 0
  have c_g0_1_w14 := x_g0.cell (i := 1) rfl
  have f_g0_1_w14 := x_g0.frozen 1
  have c_g0_2_w14 := x_g0.cell (i := 2) rfl
  have f_g0_2_w14 := x_g0.frozen 2
  have c_g0_3_w14 := x_g0.cell (i := 3) rfl
  have f_g0_3_w14 := x_g0.frozen 3
  have c_g0_4_w14 := x_g0.cell (i := 4) rfl
  have f_g0_4_w14 := x_g0.frozen 4
  go_wp2_with fail
  refine (iAcctRep_c o_t4.rd (by omega)).mono ?_
  rintro e w15 ⟨v_h0, rfl, o_h0, h_w15⟩
  clear c_aA_0_w14 f_aA_0_w14 c_aA_1_w14 f_aA_1_w14 c_aA_2_w14 f_aA_2_w14 c_aA_3_w14 f_aA_3_w14 c_aA_4_w14 f_aA_4_w14 c_w0_0_w14 f_w0_0_w14 c_w0_1_w14 f_w0_1_w14 c_w0_2_w14 f_w0_2_w14 c_w0_3_w14 f_w0_3_w14 c_w0_4_w14 f_w0_4_w14 c_x0_0_w14 f_x0_0_w14 c_x0_1_w14 f_x0_1_w14 c_x0_2_w14 f_x0_2_w14 c_x0_3_w14 f_x0_3_w14 c_x0_4_w14 f_x0_4_w14 c_g0_0_w14 f_g0_0_w14 c_g0_1_w14 f_g0_1_w14 c_g0_2_w14 f_g0_2_w14 c_g0_3_w14 f_g0_3_w14 c_g0_4_w14 f_g0_4_w14
  replace x_aA := x_aA.from_ h_w15
  replace x_w0 := x_w0.from_ h_w15
  replace x_x0 := x_x0.from_ h_w15
  replace x_g0 := x_g0.from_ h_w15
  replace o_t1 := o_t1.below h_w15
  replace o_w0 := o_w0.below h_w15
  replace o_t2 := o_t2.below h_w15
  replace o_g0 := o_g0.below h_w15
  replace o_t4 := o_t4.below h_w15
  have B_w15 := B_w14.trans (h_w15.mono B_w14.size)
  have s_w15 := h_w15.size
  rw [HR0.out] at o_h0
  rw [HR1.out]
  obtain ⟨AMarks_h0, cMarks_h0, AReps_h0, cReps_h0, rfl, -, -⟩ := rv_acct o_h0.rd
  have c_aA_0_w15 := x_aA.cell (i := 0) rfl
  have f_aA_0_w15 := x_aA.frozen 0
  have c_aA_1_w15 := x_aA.cell (i := 1) rfl
  have f_aA_1_w15 := x_aA.frozen 1
  have c_aA_2_w15 := x_aA.cell (i := 2) rfl
  have f_aA_2_w15 := x_aA.frozen 2
  have c_aA_3_w15 := x_aA.cell (i := 3) rfl
  have f_aA_3_w15 := x_aA.frozen 3
  have c_aA_4_w15 := x_aA.cell (i := 4) rfl
  have f_aA_4_w15 := x_aA.frozen 4
  have c_w0_0_w15 := x_w0.cell (i := 0) rfl
  have f_w0_0_w15 := x_w0.frozen 0
  have c_w0_1_w15 := x_w0.cell (i := 1) rfl
  have f_w0_1_w15 := x_w0.frozen 1
  have c_w0_2_w15 := x_w0.cell (i := 2) rfl
  have f_w0_2_w15 := x_w0.frozen 2
  have c_w0_3_w15 := x_w0.cell (i := 3) rfl
  have f_w0_3_w15 := x_w0.frozen 3
  have c_w0_4_w15 := x_w0.cell (i := 4) rfl
  have f_w0_4_w15 := x_w0.frozen 4
  have c_x0_0_w15 := x_x0.cell (i := 0) rfl
  have f_x0_0_w15 := x_x0.frozen 0
  have c_x0_1_w15 := x_x0.cell (i := 1) rfl
  have f_x0_1_w15 := x_x0.frozen 1
  have c_x0_2_w15 := x_x0.cell (i := 2) rfl
  have f_x0_2_w15 := x_x0.frozen 2
  have c_x0_3_w15 := x_x0.cell (i := 3) rfl
  have f_x0_3_w15 := x_x0.frozen 3
  have c_x0_4_w15 := x_x0.cell (i := 4) rfl
  have f_x0_4_w15 := x_x0.frozen 4
  have c_g0_0_w15 := x_g0.cell (i := 0) rfl
  have f_g0_0_w15 := x_g0.frozen 0
  have c_g0_1_w15 := x_g0.cell (i := 1) rfl
  have f_g0_1_w15 := x_g0.frozen 1
  have c_g0_2_w15 := x_g0.cell (i := 2) rfl
  have f_g0_2_w15 := x_g0.frozen 2
  have c_g0_3_w15 := x_g0.cell (i := 3) rfl
  have f_g0_3_w15 := x_g0.frozen 3
  have c_g0_4_w15 := x_g0.cell (i := 4) rfl
  have f_g0_4_w15 := x_g0.frozen 4
  obtain ⟨w16, e_w16, s_w16, h_w16, x_h0⟩ := alloc_step w15 27 [.int .i64 R0.Have, .int .i64 R0.State, .int .i64 R0.By, .slice AMarks_h0 R0.Marks.length cMarks_h0, .slice AReps_h0 R0.Reps.length cReps_h0]
  have s_w16_1 := Nat.le_of_eq s_w16
  have s_w16_2 := Nat.le_of_eq s_w16.symm
  clear s_w16
  replace x_aA := x_aA.from_ h_w16
  replace x_w0 := x_w0.from_ h_w16
  replace x_x0 := x_x0.from_ h_w16
  replace x_g0 := x_g0.from_ h_w16
  replace o_t1 := o_t1.below h_w16
  replace o_w0 := o_w0.below h_w16
  replace o_t2 := o_t2.below h_w16
  replace o_g0 := o_g0.below h_w16
  replace o_t4 := o_t4.below h_w16
  replace o_h0 := o_h0.below h_w16
  have B_w16 := B_w15.trans (h_w16.mono B_w15.size)
  have c_aA_0_w16 := x_aA.cell (i := 0) rfl
  have f_aA_0_w16 := x_aA.frozen 0
  have c_aA_1_w16 := x_aA.cell (i := 1) rfl
  have f_aA_1_w16 := x_aA.frozen 1
  have c_aA_2_w16 := x_aA.cell (i := 2) rfl
  have f_aA_2_w16 := x_aA.frozen 2
  have c_aA_3_w16 := x_aA.cell (i := 3) rfl
  have f_aA_3_w16 := x_aA.frozen 3
  have c_aA_4_w16 := x_aA.cell (i := 4) rfl
  have f_aA_4_w16 := x_aA.frozen 4
  have c_w0_0_w16 := x_w0.cell (i := 0) rfl
  have f_w0_0_w16 := x_w0.frozen 0
  have c_w0_1_w16 := x_w0.cell (i := 1) rfl
  have f_w0_1_w16 := x_w0.frozen 1
  have c_w0_2_w16 := x_w0.cell (i := 2) rfl
  have f_w0_2_w16 := x_w0.frozen 2
  have c_w0_3_w16 := x_w0.cell (i := 3) rfl
  have f_w0_3_w16 := x_w0.frozen 3
  have c_w0_4_w16 := x_w0.cell (i := 4) rfl
  have f_w0_4_w16 := x_w0.frozen 4
  have c_x0_0_w16 := x_x0.cell (i := 0) rfl
  have f_x0_0_w16 := x_x0.frozen 0
  have c_x0_1_w16 := x_x0.cell (i := 1) rfl
  have f_x0_1_w16 := x_x0.frozen 1
  have c_x0_2_w16 := x_x0.cell (i := 2) rfl
  have f_x0_2_w16 := x_x0.frozen 2
  have c_x0_3_w16 := x_x0.cell (i := 3) rfl
  have f_x0_3_w16 := x_x0.frozen 3
  have c_x0_4_w16 := x_x0.cell (i := 4) rfl
  have f_x0_4_w16 := x_x0.frozen 4
  have c_g0_0_w16 := x_g0.cell (i := 0) rfl
  have f_g0_0_w16 := x_g0.frozen 0
  have c_g0_1_w16 := x_g0.cell (i := 1) rfl
  have f_g0_1_w16 := x_g0.frozen 1
  have c_g0_2_w16 := x_g0.cell (i := 2) rfl
  have f_g0_2_w16 := x_g0.frozen 2
  have c_g0_3_w16 := x_g0.cell (i := 3) rfl
  have f_g0_3_w16 := x_g0.frozen 3
  have c_g0_4_w16 := x_g0.cell (i := 4) rfl
  have f_g0_4_w16 := x_g0.frozen 4
  have c_h0_0_w16 := x_h0.cell (i := 0) rfl
  have f_h0_0_w16 := x_h0.frozen 0
  have c_h0_1_w16 := x_h0.cell (i := 1) rfl
  have f_h0_1_w16 := x_h0.frozen 1
  have c_h0_2_w16 := x_h0.cell (i := 2) rfl
  have f_h0_2_w16 := x_h0.frozen 2
  have c_h0_3_w16 := x_h0.cell (i := 3) rfl
  have f_h0_3_w16 := x_h0.frozen 3
  have c_h0_4_w16 := x_h0.cell (i := 4) rfl
  have f_h0_4_w16 := x_h0.frozen 4
  go_wp2_with fail
  refine (eqAcct_same o_h0.rd o_w0.rd (by omega)).mono ?_
  rintro e w17 ⟨rfl, h_w17⟩
  clear c_aA_0_w15 f_aA_0_w15 c_aA_1_w15 f_aA_1_w15 c_aA_2_w15 f_aA_2_w15 c_aA_3_w15 f_aA_3_w15 c_aA_4_w15 f_aA_4_w15 c_w0_0_w15 f_w0_0_w15 c_w0_1_w15 f_w0_1_w15 c_w0_2_w15 f_w0_2_w15 c_w0_3_w15 f_w0_3_w15 c_w0_4_w15 f_w0_4_w15 c_x0_0_w15 f_x0_0_w15 c_x0_1_w15 f_x0_1_w15 c_x0_2_w15 f_x0_2_w15 c_x0_3_w15 f_x0_3_w15 c_x0_4_w15 f_x0_4_w15 c_g0_0_w15 f_g0_0_w15 c_g0_1_w15 f_g0_1_w15 c_g0_2_w15 f_g0_2_w15 c_g0_3_w15 f_g0_3_w15 c_g0_4_w15 f_g0_4_w15 c_aA_0_w16 f_aA_0_w16 c_aA_1_w16 f_aA_1_w16 c_aA_2_w16 f_aA_2_w16 c_aA_3_w16 f_aA_3_w16 c_aA_4_w16 f_aA_4_w16 c_w0_0_w16 f_w0_0_w16 c_w0_1_w16 f_w0_1_w16 c_w0_2_w16 f_w0_2_w16 c_w0_3_w16 f_w0_3_w16 c_w0_4_w16 f_w0_4_w16 c_x0_0_w16 f_x0_0_w16 c_x0_1_w16 f_x0_1_w16 c_x0_2_w16 f_x0_2_w16 c_x0_3_w16 f_x0_3_w16 c_x0_4_w16 f_x0_4_w16 c_g0_0_w16 f_g0_0_w16 c_g0_1_w16 f_g0_1_w16 c_g0_2_w16 f_g0_2_w16 c_g0_3_w16 f_g0_3_w16 c_g0_4_w16 f_g0_4_w16 c_h0_0_w16 f_h0_0_w16 c_h0_1_w16 f_h0_1_w16 c_h0_2_w16 f_h0_2_w16 c_h0_3_w16 f_h0_3_w16 c_h0_4_w16 f_h0_4_w16
  replace x_aA := x_aA.from_ h_w17
  replace x_w0 := x_w0.from_ h_w17
  replace x_x0 := x_x0.from_ h_w17
  replace x_g0 := x_g0.from_ h_w17
  replace x_h0 := x_h0.from_ h_w17
  replace o_t1 := o_t1.below h_w17
  replace o_w0 := o_w0.below h_w17
  replace o_t2 := o_t2.below h_w17
  replace o_g0 := o_g0.below h_w17
  replace o_t4 := o_t4.below h_w17
  replace o_h0 := o_h0.below h_w17
  have B_w17 := B_w16.trans (h_w17.mono B_w16.size)
  have s_w17 := h_w17.size
  have c_aA_0_w17 := x_aA.cell (i := 0) rfl
  have f_aA_0_w17 := x_aA.frozen 0
  have c_aA_1_w17 := x_aA.cell (i := 1) rfl
  have f_aA_1_w17 := x_aA.frozen 1
  have c_aA_2_w17 := x_aA.cell (i := 2) rfl
  have f_aA_2_w17 := x_aA.frozen 2
  have c_aA_3_w17 := x_aA.cell (i := 3) rfl
  have f_aA_3_w17 := x_aA.frozen 3
  have c_aA_4_w17 := x_aA.cell (i := 4) rfl
  have f_aA_4_w17 := x_aA.frozen 4
  have c_w0_0_w17 := x_w0.cell (i := 0) rfl
  have f_w0_0_w17 := x_w0.frozen 0
  have c_w0_1_w17 := x_w0.cell (i := 1) rfl
  have f_w0_1_w17 := x_w0.frozen 1
  have c_w0_2_w17 := x_w0.cell (i := 2) rfl
  have f_w0_2_w17 := x_w0.frozen 2
  have c_w0_3_w17 := x_w0.cell (i := 3) rfl
  have f_w0_3_w17 := x_w0.frozen 3
  have c_w0_4_w17 := x_w0.cell (i := 4) rfl
  have f_w0_4_w17 := x_w0.frozen 4
  have c_x0_0_w17 := x_x0.cell (i := 0) rfl
  have f_x0_0_w17 := x_x0.frozen 0
  have c_x0_1_w17 := x_x0.cell (i := 1) rfl
  have f_x0_1_w17 := x_x0.frozen 1
  have c_x0_2_w17 := x_x0.cell (i := 2) rfl
  have f_x0_2_w17 := x_x0.frozen 2
  have c_x0_3_w17 := x_x0.cell (i := 3) rfl
  have f_x0_3_w17 := x_x0.frozen 3
  have c_x0_4_w17 := x_x0.cell (i := 4) rfl
  have f_x0_4_w17 := x_x0.frozen 4
  have c_g0_0_w17 := x_g0.cell (i := 0) rfl
  have f_g0_0_w17 := x_g0.frozen 0
  have c_g0_1_w17 := x_g0.cell (i := 1) rfl
  have f_g0_1_w17 := x_g0.frozen 1
  have c_g0_2_w17 := x_g0.cell (i := 2) rfl
  have f_g0_2_w17 := x_g0.frozen 2
  have c_g0_3_w17 := x_g0.cell (i := 3) rfl
  have f_g0_3_w17 := x_g0.frozen 3
  have c_g0_4_w17 := x_g0.cell (i := 4) rfl
  have f_g0_4_w17 := x_g0.frozen 4
  have c_h0_0_w17 := x_h0.cell (i := 0) rfl
  have f_h0_0_w17 := x_h0.frozen 0
  have c_h0_1_w17 := x_h0.cell (i := 1) rfl
  have f_h0_1_w17 := x_h0.frozen 1
  have c_h0_2_w17 := x_h0.cell (i := 2) rfl
  have f_h0_2_w17 := x_h0.frozen 2
  have c_h0_3_w17 := x_h0.cell (i := 3) rfl
  have f_h0_3_w17 := x_h0.frozen 3
  have c_h0_4_w17 := x_h0.cell (i := 4) rfl
  have f_h0_4_w17 := x_h0.frozen 4
  go_wp2_with fail
  refine (heldAcct_c o_g0.rd (by omega) (by omega) (by omega)).mono ?_
  rintro e w18 ⟨rfl, h_w18⟩
  clear c_aA_0_w17 f_aA_0_w17 c_aA_1_w17 f_aA_1_w17 c_aA_2_w17 f_aA_2_w17 c_aA_3_w17 f_aA_3_w17 c_aA_4_w17 f_aA_4_w17 c_w0_0_w17 f_w0_0_w17 c_w0_1_w17 f_w0_1_w17 c_w0_2_w17 f_w0_2_w17 c_w0_3_w17 f_w0_3_w17 c_w0_4_w17 f_w0_4_w17 c_x0_0_w17 f_x0_0_w17 c_x0_1_w17 f_x0_1_w17 c_x0_2_w17 f_x0_2_w17 c_x0_3_w17 f_x0_3_w17 c_x0_4_w17 f_x0_4_w17 c_g0_0_w17 f_g0_0_w17 c_g0_1_w17 f_g0_1_w17 c_g0_2_w17 f_g0_2_w17 c_g0_3_w17 f_g0_3_w17 c_g0_4_w17 f_g0_4_w17 c_h0_0_w17 f_h0_0_w17 c_h0_1_w17 f_h0_1_w17 c_h0_2_w17 f_h0_2_w17 c_h0_3_w17 f_h0_3_w17 c_h0_4_w17 f_h0_4_w17
  replace x_aA := x_aA.from_ h_w18
  replace x_w0 := x_w0.from_ h_w18
  replace x_x0 := x_x0.from_ h_w18
  replace x_g0 := x_g0.from_ h_w18
  replace x_h0 := x_h0.from_ h_w18
  replace o_t1 := o_t1.below h_w18
  replace o_w0 := o_w0.below h_w18
  replace o_t2 := o_t2.below h_w18
  replace o_g0 := o_g0.below h_w18
  replace o_t4 := o_t4.below h_w18
  replace o_h0 := o_h0.below h_w18
  have B_w18 := B_w17.trans (h_w18.mono B_w17.size)
  have s_w18 := h_w18.size
  have c_aA_0_w18 := x_aA.cell (i := 0) rfl
  have f_aA_0_w18 := x_aA.frozen 0
  have c_aA_1_w18 := x_aA.cell (i := 1) rfl
  have f_aA_1_w18 := x_aA.frozen 1
  have c_aA_2_w18 := x_aA.cell (i := 2) rfl
  have f_aA_2_w18 := x_aA.frozen 2
  have c_aA_3_w18 := x_aA.cell (i := 3) rfl
  have f_aA_3_w18 := x_aA.frozen 3
  have c_aA_4_w18 := x_aA.cell (i := 4) rfl
  have f_aA_4_w18 := x_aA.frozen 4
  have c_w0_0_w18 := x_w0.cell (i := 0) rfl
  have f_w0_0_w18 := x_w0.frozen 0
  have c_w0_1_w18 := x_w0.cell (i := 1) rfl
  have f_w0_1_w18 := x_w0.frozen 1
  have c_w0_2_w18 := x_w0.cell (i := 2) rfl
  have f_w0_2_w18 := x_w0.frozen 2
  have c_w0_3_w18 := x_w0.cell (i := 3) rfl
  have f_w0_3_w18 := x_w0.frozen 3
  have c_w0_4_w18 := x_w0.cell (i := 4) rfl
  have f_w0_4_w18 := x_w0.frozen 4
  have c_x0_0_w18 := x_x0.cell (i := 0) rfl
  have f_x0_0_w18 := x_x0.frozen 0
  have c_x0_1_w18 := x_x0.cell (i := 1) rfl
  have f_x0_1_w18 := x_x0.frozen 1
  have c_x0_2_w18 := x_x0.cell (i := 2) rfl
  have f_x0_2_w18 := x_x0.frozen 2
  have c_x0_3_w18 := x_x0.cell (i := 3) rfl
  have f_x0_3_w18 := x_x0.frozen 3
  have c_x0_4_w18 := x_x0.cell (i := 4) rfl
  have f_x0_4_w18 := x_x0.frozen 4
  have c_g0_0_w18 := x_g0.cell (i := 0) rfl
  have f_g0_0_w18 := x_g0.frozen 0
  have c_g0_1_w18 := x_g0.cell (i := 1) rfl
  have f_g0_1_w18 := x_g0.frozen 1
  have c_g0_2_w18 := x_g0.cell (i := 2) rfl
  have f_g0_2_w18 := x_g0.frozen 2
  have c_g0_3_w18 := x_g0.cell (i := 3) rfl
  have f_g0_3_w18 := x_g0.frozen 3
  have c_g0_4_w18 := x_g0.cell (i := 4) rfl
  have f_g0_4_w18 := x_g0.frozen 4
  have c_h0_0_w18 := x_h0.cell (i := 0) rfl
  have f_h0_0_w18 := x_h0.frozen 0
  have c_h0_1_w18 := x_h0.cell (i := 1) rfl
  have f_h0_1_w18 := x_h0.frozen 1
  have c_h0_2_w18 := x_h0.cell (i := 2) rfl
  have f_h0_2_w18 := x_h0.frozen 2
  have c_h0_3_w18 := x_h0.cell (i := 3) rfl
  have f_h0_3_w18 := x_h0.frozen 3
  have c_h0_4_w18 := x_h0.cell (i := 4) rfl
  have f_h0_4_w18 := x_h0.frozen 4
  go_wp2
  go_ret
  exact ⟨rfl, B_w18⟩

end Go.Proofs.Ytopmojfcdmcmbaa
