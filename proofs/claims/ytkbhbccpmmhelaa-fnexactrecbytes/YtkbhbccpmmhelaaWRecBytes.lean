/- The walk of the law FnExactRecBytes, laid by a program of ours (lawgen2.py) out of the law's text. -/
import Derived.Test.YtkbhbccpmmhelaaRcI
import Derived.Test.YtkbhbccpmmhelaaBunL
namespace Go.Proofs.Ytkbhbccpmmhelaa
open Go.RowKit
set_option linter.unusedVariables false

set_option maxRecDepth 100000 in
set_option maxHeartbeats 8000000 in
theorem wRecBytes (v_aR : Value) (r : MRec) (w : World) (r_aR : RV recL w v_aR r) :
    Calls Try.prog 4 #[v_aR] w fun e w' => e = .returned (.bool true) ∧ Below w.heap.size w w' := by
  have h_aR := r_aR
  obtain rfl := rv_rec h_aR
  clear h_aR
  obtain ⟨wa, hwa, B0, sa, x_aR⟩ := frame1 w 25 [.int .i64 r.Kind, .int .i64 r.Acct, .int .i64 r.Other, .int .i64 r.To, .int .i64 r.Amt, .int .i64 r.M.Kind, .int .i64 r.M.Acct, .int .i64 r.M.Amt, .int .i64 r.M.Src]
  have sa_1 := Nat.le_of_eq sa
  have sa_2 := Nat.le_of_eq sa.symm
  clear sa
  have c_aR_0_wa := x_aR.cell (i := 0) rfl
  have c_aR_1_wa := x_aR.cell (i := 1) rfl
  have c_aR_2_wa := x_aR.cell (i := 2) rfl
  have c_aR_3_wa := x_aR.cell (i := 3) rfl
  have c_aR_4_wa := x_aR.cell (i := 4) rfl
  have c_aR_5_wa := x_aR.cell (i := 5) rfl
  have c_aR_6_wa := x_aR.cell (i := 6) rfl
  have c_aR_7_wa := x_aR.cell (i := 7) rfl
  have c_aR_8_wa := x_aR.cell (i := 8) rfl
  obtain ⟨R0, hR0⟩ : ∃ R, recBytes r = R := ⟨_, rfl⟩
  have hl0 : R0.length ≤ 16777216 := by rw [← hR0]; exact Nat.le_trans (recBytes_len r) (by omega)
  have HR0 := Lib.hid hR0
  clear hR0
  obtain ⟨R1, hR1⟩ : ∃ R, recOkB r = R := ⟨_, rfl⟩
  have HR1 := Lib.hid hR1
  clear hR1
  go_enter Try.func4, Try.ntmps4
  go_wp2_with fail
  refine (toRec_c (r_aR.from_ B0)).mono ?_
  rintro e w1 ⟨v_t1, rfl, o_t1, h_w1⟩
  clear c_aR_0_wa c_aR_1_wa c_aR_2_wa c_aR_3_wa c_aR_4_wa c_aR_5_wa c_aR_6_wa c_aR_7_wa c_aR_8_wa
  replace x_aR := x_aR.from_ h_w1
  have B_w1 := B0.trans (h_w1.mono B0.size)
  have s_w1 := h_w1.size
  obtain rfl := rv_rec o_t1.rd
  have c_aR_0_w1 := x_aR.cell (i := 0) rfl
  have f_aR_0_w1 := x_aR.frozen 0
  have c_aR_1_w1 := x_aR.cell (i := 1) rfl
  have f_aR_1_w1 := x_aR.frozen 1
  have c_aR_2_w1 := x_aR.cell (i := 2) rfl
  have f_aR_2_w1 := x_aR.frozen 2
  have c_aR_3_w1 := x_aR.cell (i := 3) rfl
  have f_aR_3_w1 := x_aR.frozen 3
  have c_aR_4_w1 := x_aR.cell (i := 4) rfl
  have f_aR_4_w1 := x_aR.frozen 4
  have c_aR_5_w1 := x_aR.cell (i := 5) rfl
  have f_aR_5_w1 := x_aR.frozen 5
  have c_aR_6_w1 := x_aR.cell (i := 6) rfl
  have f_aR_6_w1 := x_aR.frozen 6
  have c_aR_7_w1 := x_aR.cell (i := 7) rfl
  have f_aR_7_w1 := x_aR.frozen 7
  have c_aR_8_w1 := x_aR.cell (i := 8) rfl
  have f_aR_8_w1 := x_aR.frozen 8
  go_wp2_with fail
  refine (sRecBytes_c o_t1.rd).mono ?_
  rintro e w2 ⟨v_w0, rfl, o_w0, h_w2⟩
  clear c_aR_0_w1 f_aR_0_w1 c_aR_1_w1 f_aR_1_w1 c_aR_2_w1 f_aR_2_w1 c_aR_3_w1 f_aR_3_w1 c_aR_4_w1 f_aR_4_w1 c_aR_5_w1 f_aR_5_w1 c_aR_6_w1 f_aR_6_w1 c_aR_7_w1 f_aR_7_w1 c_aR_8_w1 f_aR_8_w1
  replace x_aR := x_aR.from_ h_w2
  replace o_t1 := o_t1.below h_w2
  have B_w2 := B_w1.trans (h_w2.mono B_w1.size)
  have s_w2 := h_w2.size
  rw [HR0.out] at o_w0
  rw [HR1.out]
  obtain ⟨Aw0, cw0, rfl, -, -, -⟩ := o_w0.rd
  have c_aR_0_w2 := x_aR.cell (i := 0) rfl
  have f_aR_0_w2 := x_aR.frozen 0
  have c_aR_1_w2 := x_aR.cell (i := 1) rfl
  have f_aR_1_w2 := x_aR.frozen 1
  have c_aR_2_w2 := x_aR.cell (i := 2) rfl
  have f_aR_2_w2 := x_aR.frozen 2
  have c_aR_3_w2 := x_aR.cell (i := 3) rfl
  have f_aR_3_w2 := x_aR.frozen 3
  have c_aR_4_w2 := x_aR.cell (i := 4) rfl
  have f_aR_4_w2 := x_aR.frozen 4
  have c_aR_5_w2 := x_aR.cell (i := 5) rfl
  have f_aR_5_w2 := x_aR.frozen 5
  have c_aR_6_w2 := x_aR.cell (i := 6) rfl
  have f_aR_6_w2 := x_aR.frozen 6
  have c_aR_7_w2 := x_aR.cell (i := 7) rfl
  have f_aR_7_w2 := x_aR.frozen 7
  have c_aR_8_w2 := x_aR.cell (i := 8) rfl
  have f_aR_8_w2 := x_aR.frozen 8
  go_wp2_with fail
  refine (toRec_c (r_aR.from_ B_w2)).mono ?_
  rintro e w3 ⟨v_t2, rfl, o_t2, h_w3⟩
  clear c_aR_0_w2 f_aR_0_w2 c_aR_1_w2 f_aR_1_w2 c_aR_2_w2 f_aR_2_w2 c_aR_3_w2 f_aR_3_w2 c_aR_4_w2 f_aR_4_w2 c_aR_5_w2 f_aR_5_w2 c_aR_6_w2 f_aR_6_w2 c_aR_7_w2 f_aR_7_w2 c_aR_8_w2 f_aR_8_w2
  replace x_aR := x_aR.from_ h_w3
  replace o_t1 := o_t1.below h_w3
  replace o_w0 := o_w0.below h_w3
  have B_w3 := B_w2.trans (h_w3.mono B_w2.size)
  have s_w3 := h_w3.size
  obtain rfl := rv_rec o_t2.rd
  have c_aR_0_w3 := x_aR.cell (i := 0) rfl
  have f_aR_0_w3 := x_aR.frozen 0
  have c_aR_1_w3 := x_aR.cell (i := 1) rfl
  have f_aR_1_w3 := x_aR.frozen 1
  have c_aR_2_w3 := x_aR.cell (i := 2) rfl
  have f_aR_2_w3 := x_aR.frozen 2
  have c_aR_3_w3 := x_aR.cell (i := 3) rfl
  have f_aR_3_w3 := x_aR.frozen 3
  have c_aR_4_w3 := x_aR.cell (i := 4) rfl
  have f_aR_4_w3 := x_aR.frozen 4
  have c_aR_5_w3 := x_aR.cell (i := 5) rfl
  have f_aR_5_w3 := x_aR.frozen 5
  have c_aR_6_w3 := x_aR.cell (i := 6) rfl
  have f_aR_6_w3 := x_aR.frozen 6
  have c_aR_7_w3 := x_aR.cell (i := 7) rfl
  have f_aR_7_w3 := x_aR.frozen 7
  have c_aR_8_w3 := x_aR.cell (i := 8) rfl
  have f_aR_8_w3 := x_aR.frozen 8
  go_wp2_with fail
  refine (iRecBytes_c o_t2.rd).mono ?_
  rintro e w4 ⟨v_g0, rfl, o_g0, h_w4⟩
  clear c_aR_0_w3 f_aR_0_w3 c_aR_1_w3 f_aR_1_w3 c_aR_2_w3 f_aR_2_w3 c_aR_3_w3 f_aR_3_w3 c_aR_4_w3 f_aR_4_w3 c_aR_5_w3 f_aR_5_w3 c_aR_6_w3 f_aR_6_w3 c_aR_7_w3 f_aR_7_w3 c_aR_8_w3 f_aR_8_w3
  replace x_aR := x_aR.from_ h_w4
  replace o_t1 := o_t1.below h_w4
  replace o_w0 := o_w0.below h_w4
  replace o_t2 := o_t2.below h_w4
  have B_w4 := B_w3.trans (h_w4.mono B_w3.size)
  have s_w4 := h_w4.size
  rw [HR0.out] at o_g0
  rw [HR1.out]
  obtain ⟨Ag0, cg0, rfl, -, -, -⟩ := o_g0.rd
  have c_aR_0_w4 := x_aR.cell (i := 0) rfl
  have f_aR_0_w4 := x_aR.frozen 0
  have c_aR_1_w4 := x_aR.cell (i := 1) rfl
  have f_aR_1_w4 := x_aR.frozen 1
  have c_aR_2_w4 := x_aR.cell (i := 2) rfl
  have f_aR_2_w4 := x_aR.frozen 2
  have c_aR_3_w4 := x_aR.cell (i := 3) rfl
  have f_aR_3_w4 := x_aR.frozen 3
  have c_aR_4_w4 := x_aR.cell (i := 4) rfl
  have f_aR_4_w4 := x_aR.frozen 4
  have c_aR_5_w4 := x_aR.cell (i := 5) rfl
  have f_aR_5_w4 := x_aR.frozen 5
  have c_aR_6_w4 := x_aR.cell (i := 6) rfl
  have f_aR_6_w4 := x_aR.frozen 6
  have c_aR_7_w4 := x_aR.cell (i := 7) rfl
  have f_aR_7_w4 := x_aR.frozen 7
  have c_aR_8_w4 := x_aR.cell (i := 8) rfl
  have f_aR_8_w4 := x_aR.frozen 8
  go_wp2_with fail
  refine (eqByteS_same o_g0.rd o_w0.rd (by omega)).mono ?_
  rintro e w5 ⟨rfl, h_w5⟩
  clear c_aR_0_w4 f_aR_0_w4 c_aR_1_w4 f_aR_1_w4 c_aR_2_w4 f_aR_2_w4 c_aR_3_w4 f_aR_3_w4 c_aR_4_w4 f_aR_4_w4 c_aR_5_w4 f_aR_5_w4 c_aR_6_w4 f_aR_6_w4 c_aR_7_w4 f_aR_7_w4 c_aR_8_w4 f_aR_8_w4
  replace x_aR := x_aR.from_ h_w5
  replace o_t1 := o_t1.below h_w5
  replace o_w0 := o_w0.below h_w5
  replace o_t2 := o_t2.below h_w5
  replace o_g0 := o_g0.below h_w5
  have B_w5 := B_w4.trans (h_w5.mono B_w4.size)
  have s_w5 := h_w5.size
  have c_aR_0_w5 := x_aR.cell (i := 0) rfl
  have f_aR_0_w5 := x_aR.frozen 0
  have c_aR_1_w5 := x_aR.cell (i := 1) rfl
  have f_aR_1_w5 := x_aR.frozen 1
  have c_aR_2_w5 := x_aR.cell (i := 2) rfl
  have f_aR_2_w5 := x_aR.frozen 2
  have c_aR_3_w5 := x_aR.cell (i := 3) rfl
  have f_aR_3_w5 := x_aR.frozen 3
  have c_aR_4_w5 := x_aR.cell (i := 4) rfl
  have f_aR_4_w5 := x_aR.frozen 4
  have c_aR_5_w5 := x_aR.cell (i := 5) rfl
  have f_aR_5_w5 := x_aR.frozen 5
  have c_aR_6_w5 := x_aR.cell (i := 6) rfl
  have f_aR_6_w5 := x_aR.frozen 6
  have c_aR_7_w5 := x_aR.cell (i := 7) rfl
  have f_aR_7_w5 := x_aR.frozen 7
  have c_aR_8_w5 := x_aR.cell (i := 8) rfl
  have f_aR_8_w5 := x_aR.frozen 8
  go_wp2_with fail
  refine (markByteS_c o_g0 (by omega) (by omega) (by omega)).mono ?_
  rintro e w6 ⟨rfl, y, h_w6⟩
  clear c_aR_0_w5 f_aR_0_w5 c_aR_1_w5 f_aR_1_w5 c_aR_2_w5 f_aR_2_w5 c_aR_3_w5 f_aR_3_w5 c_aR_4_w5 f_aR_4_w5 c_aR_5_w5 f_aR_5_w5 c_aR_6_w5 f_aR_6_w5 c_aR_7_w5 f_aR_7_w5 c_aR_8_w5 f_aR_8_w5
  replace x_aR := x_aR.chg h_w6 (by omega)
  replace o_t1 := o_t1.chg h_w6 (by omega)
  replace o_w0 := o_w0.chg h_w6 (by omega)
  replace o_t2 := o_t2.chg h_w6 (by omega)
  have B_w6 := Below.chg_ B_w5 h_w6 (by omega) (by omega)
  have s_w6 := h_w6.size
  replace o_g0 := y
  clear y
  have c_aR_0_w6 := x_aR.cell (i := 0) rfl
  have f_aR_0_w6 := x_aR.frozen 0
  have c_aR_1_w6 := x_aR.cell (i := 1) rfl
  have f_aR_1_w6 := x_aR.frozen 1
  have c_aR_2_w6 := x_aR.cell (i := 2) rfl
  have f_aR_2_w6 := x_aR.frozen 2
  have c_aR_3_w6 := x_aR.cell (i := 3) rfl
  have f_aR_3_w6 := x_aR.frozen 3
  have c_aR_4_w6 := x_aR.cell (i := 4) rfl
  have f_aR_4_w6 := x_aR.frozen 4
  have c_aR_5_w6 := x_aR.cell (i := 5) rfl
  have f_aR_5_w6 := x_aR.frozen 5
  have c_aR_6_w6 := x_aR.cell (i := 6) rfl
  have f_aR_6_w6 := x_aR.frozen 6
  have c_aR_7_w6 := x_aR.cell (i := 7) rfl
  have f_aR_7_w6 := x_aR.frozen 7
  have c_aR_8_w6 := x_aR.cell (i := 8) rfl
  have f_aR_8_w6 := x_aR.frozen 8
  go_wp2_with fail
  refine (heldByteS_c o_g0.rd (by omega) (by omega) (by omega)).mono ?_
  rintro e w7 ⟨rfl, h_w7⟩
  clear c_aR_0_w6 f_aR_0_w6 c_aR_1_w6 f_aR_1_w6 c_aR_2_w6 f_aR_2_w6 c_aR_3_w6 f_aR_3_w6 c_aR_4_w6 f_aR_4_w6 c_aR_5_w6 f_aR_5_w6 c_aR_6_w6 f_aR_6_w6 c_aR_7_w6 f_aR_7_w6 c_aR_8_w6 f_aR_8_w6
  replace x_aR := x_aR.from_ h_w7
  replace o_t1 := o_t1.below h_w7
  replace o_w0 := o_w0.below h_w7
  replace o_t2 := o_t2.below h_w7
  replace o_g0 := o_g0.below h_w7
  have B_w7 := B_w6.trans (h_w7.mono B_w6.size)
  have s_w7 := h_w7.size
  have c_aR_0_w7 := x_aR.cell (i := 0) rfl
  have f_aR_0_w7 := x_aR.frozen 0
  have c_aR_1_w7 := x_aR.cell (i := 1) rfl
  have f_aR_1_w7 := x_aR.frozen 1
  have c_aR_2_w7 := x_aR.cell (i := 2) rfl
  have f_aR_2_w7 := x_aR.frozen 2
  have c_aR_3_w7 := x_aR.cell (i := 3) rfl
  have f_aR_3_w7 := x_aR.frozen 3
  have c_aR_4_w7 := x_aR.cell (i := 4) rfl
  have f_aR_4_w7 := x_aR.frozen 4
  have c_aR_5_w7 := x_aR.cell (i := 5) rfl
  have f_aR_5_w7 := x_aR.frozen 5
  have c_aR_6_w7 := x_aR.cell (i := 6) rfl
  have f_aR_6_w7 := x_aR.frozen 6
  have c_aR_7_w7 := x_aR.cell (i := 7) rfl
  have f_aR_7_w7 := x_aR.frozen 7
  have c_aR_8_w7 := x_aR.cell (i := 8) rfl
  have f_aR_8_w7 := x_aR.frozen 8
  go_wp2_with fail
  refine (toRec_c (r_aR.from_ B_w7)).mono ?_
  rintro e w8 ⟨v_t3, rfl, o_t3, h_w8⟩
  clear c_aR_0_w7 f_aR_0_w7 c_aR_1_w7 f_aR_1_w7 c_aR_2_w7 f_aR_2_w7 c_aR_3_w7 f_aR_3_w7 c_aR_4_w7 f_aR_4_w7 c_aR_5_w7 f_aR_5_w7 c_aR_6_w7 f_aR_6_w7 c_aR_7_w7 f_aR_7_w7 c_aR_8_w7 f_aR_8_w7
  replace x_aR := x_aR.from_ h_w8
  replace o_t1 := o_t1.below h_w8
  replace o_w0 := o_w0.below h_w8
  replace o_t2 := o_t2.below h_w8
  replace o_g0 := o_g0.below h_w8
  have B_w8 := B_w7.trans (h_w8.mono B_w7.size)
  have s_w8 := h_w8.size
  obtain rfl := rv_rec o_t3.rd
  have c_aR_0_w8 := x_aR.cell (i := 0) rfl
  have f_aR_0_w8 := x_aR.frozen 0
  have c_aR_1_w8 := x_aR.cell (i := 1) rfl
  have f_aR_1_w8 := x_aR.frozen 1
  have c_aR_2_w8 := x_aR.cell (i := 2) rfl
  have f_aR_2_w8 := x_aR.frozen 2
  have c_aR_3_w8 := x_aR.cell (i := 3) rfl
  have f_aR_3_w8 := x_aR.frozen 3
  have c_aR_4_w8 := x_aR.cell (i := 4) rfl
  have f_aR_4_w8 := x_aR.frozen 4
  have c_aR_5_w8 := x_aR.cell (i := 5) rfl
  have f_aR_5_w8 := x_aR.frozen 5
  have c_aR_6_w8 := x_aR.cell (i := 6) rfl
  have f_aR_6_w8 := x_aR.frozen 6
  have c_aR_7_w8 := x_aR.cell (i := 7) rfl
  have f_aR_7_w8 := x_aR.frozen 7
  have c_aR_8_w8 := x_aR.cell (i := 8) rfl
  have f_aR_8_w8 := x_aR.frozen 8
  go_wp2_with fail
  refine (iRecBytes_c o_t3.rd).mono ?_
  rintro e w9 ⟨v_h0, rfl, o_h0, h_w9⟩
  clear c_aR_0_w8 f_aR_0_w8 c_aR_1_w8 f_aR_1_w8 c_aR_2_w8 f_aR_2_w8 c_aR_3_w8 f_aR_3_w8 c_aR_4_w8 f_aR_4_w8 c_aR_5_w8 f_aR_5_w8 c_aR_6_w8 f_aR_6_w8 c_aR_7_w8 f_aR_7_w8 c_aR_8_w8 f_aR_8_w8
  replace x_aR := x_aR.from_ h_w9
  replace o_t1 := o_t1.below h_w9
  replace o_w0 := o_w0.below h_w9
  replace o_t2 := o_t2.below h_w9
  replace o_g0 := o_g0.below h_w9
  replace o_t3 := o_t3.below h_w9
  have B_w9 := B_w8.trans (h_w9.mono B_w8.size)
  have s_w9 := h_w9.size
  rw [HR0.out] at o_h0
  rw [HR1.out]
  obtain ⟨Ah0, ch0, rfl, -, -, -⟩ := o_h0.rd
  have c_aR_0_w9 := x_aR.cell (i := 0) rfl
  have f_aR_0_w9 := x_aR.frozen 0
  have c_aR_1_w9 := x_aR.cell (i := 1) rfl
  have f_aR_1_w9 := x_aR.frozen 1
  have c_aR_2_w9 := x_aR.cell (i := 2) rfl
  have f_aR_2_w9 := x_aR.frozen 2
  have c_aR_3_w9 := x_aR.cell (i := 3) rfl
  have f_aR_3_w9 := x_aR.frozen 3
  have c_aR_4_w9 := x_aR.cell (i := 4) rfl
  have f_aR_4_w9 := x_aR.frozen 4
  have c_aR_5_w9 := x_aR.cell (i := 5) rfl
  have f_aR_5_w9 := x_aR.frozen 5
  have c_aR_6_w9 := x_aR.cell (i := 6) rfl
  have f_aR_6_w9 := x_aR.frozen 6
  have c_aR_7_w9 := x_aR.cell (i := 7) rfl
  have f_aR_7_w9 := x_aR.frozen 7
  have c_aR_8_w9 := x_aR.cell (i := 8) rfl
  have f_aR_8_w9 := x_aR.frozen 8
  go_wp2_with fail
  refine (eqByteS_same o_h0.rd o_w0.rd (by omega)).mono ?_
  rintro e w10 ⟨rfl, h_w10⟩
  clear c_aR_0_w9 f_aR_0_w9 c_aR_1_w9 f_aR_1_w9 c_aR_2_w9 f_aR_2_w9 c_aR_3_w9 f_aR_3_w9 c_aR_4_w9 f_aR_4_w9 c_aR_5_w9 f_aR_5_w9 c_aR_6_w9 f_aR_6_w9 c_aR_7_w9 f_aR_7_w9 c_aR_8_w9 f_aR_8_w9
  replace x_aR := x_aR.from_ h_w10
  replace o_t1 := o_t1.below h_w10
  replace o_w0 := o_w0.below h_w10
  replace o_t2 := o_t2.below h_w10
  replace o_g0 := o_g0.below h_w10
  replace o_t3 := o_t3.below h_w10
  replace o_h0 := o_h0.below h_w10
  have B_w10 := B_w9.trans (h_w10.mono B_w9.size)
  have s_w10 := h_w10.size
  have c_aR_0_w10 := x_aR.cell (i := 0) rfl
  have f_aR_0_w10 := x_aR.frozen 0
  have c_aR_1_w10 := x_aR.cell (i := 1) rfl
  have f_aR_1_w10 := x_aR.frozen 1
  have c_aR_2_w10 := x_aR.cell (i := 2) rfl
  have f_aR_2_w10 := x_aR.frozen 2
  have c_aR_3_w10 := x_aR.cell (i := 3) rfl
  have f_aR_3_w10 := x_aR.frozen 3
  have c_aR_4_w10 := x_aR.cell (i := 4) rfl
  have f_aR_4_w10 := x_aR.frozen 4
  have c_aR_5_w10 := x_aR.cell (i := 5) rfl
  have f_aR_5_w10 := x_aR.frozen 5
  have c_aR_6_w10 := x_aR.cell (i := 6) rfl
  have f_aR_6_w10 := x_aR.frozen 6
  have c_aR_7_w10 := x_aR.cell (i := 7) rfl
  have f_aR_7_w10 := x_aR.frozen 7
  have c_aR_8_w10 := x_aR.cell (i := 8) rfl
  have f_aR_8_w10 := x_aR.frozen 8
  go_wp2_with fail
  refine (heldByteS_c o_g0.rd (by omega) (by omega) (by omega)).mono ?_
  rintro e w11 ⟨rfl, h_w11⟩
  clear c_aR_0_w10 f_aR_0_w10 c_aR_1_w10 f_aR_1_w10 c_aR_2_w10 f_aR_2_w10 c_aR_3_w10 f_aR_3_w10 c_aR_4_w10 f_aR_4_w10 c_aR_5_w10 f_aR_5_w10 c_aR_6_w10 f_aR_6_w10 c_aR_7_w10 f_aR_7_w10 c_aR_8_w10 f_aR_8_w10
  replace x_aR := x_aR.from_ h_w11
  replace o_t1 := o_t1.below h_w11
  replace o_w0 := o_w0.below h_w11
  replace o_t2 := o_t2.below h_w11
  replace o_g0 := o_g0.below h_w11
  replace o_t3 := o_t3.below h_w11
  replace o_h0 := o_h0.below h_w11
  have B_w11 := B_w10.trans (h_w11.mono B_w10.size)
  have s_w11 := h_w11.size
  have c_aR_0_w11 := x_aR.cell (i := 0) rfl
  have f_aR_0_w11 := x_aR.frozen 0
  have c_aR_1_w11 := x_aR.cell (i := 1) rfl
  have f_aR_1_w11 := x_aR.frozen 1
  have c_aR_2_w11 := x_aR.cell (i := 2) rfl
  have f_aR_2_w11 := x_aR.frozen 2
  have c_aR_3_w11 := x_aR.cell (i := 3) rfl
  have f_aR_3_w11 := x_aR.frozen 3
  have c_aR_4_w11 := x_aR.cell (i := 4) rfl
  have f_aR_4_w11 := x_aR.frozen 4
  have c_aR_5_w11 := x_aR.cell (i := 5) rfl
  have f_aR_5_w11 := x_aR.frozen 5
  have c_aR_6_w11 := x_aR.cell (i := 6) rfl
  have f_aR_6_w11 := x_aR.frozen 6
  have c_aR_7_w11 := x_aR.cell (i := 7) rfl
  have f_aR_7_w11 := x_aR.frozen 7
  have c_aR_8_w11 := x_aR.cell (i := 8) rfl
  have f_aR_8_w11 := x_aR.frozen 8
  go_wp2
  go_ret
  exact ⟨rfl, B_w11⟩

end Go.Proofs.Ytkbhbccpmmhelaa
