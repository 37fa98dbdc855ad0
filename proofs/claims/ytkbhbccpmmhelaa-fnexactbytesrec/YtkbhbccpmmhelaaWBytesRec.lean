/- The walk of the law FnExactBytesRec, laid by a program of ours (lawgen2.py) out of the law's text. -/
import Derived.Test.YtkbhbccpmmhelaaRcI
import Derived.Test.YtkbhbccpmmhelaaRcB
import Derived.Test.YtkbhbccpmmhelaaBunL
namespace Go.Proofs.Ytkbhbccpmmhelaa
open Go.RowKit
set_option linter.unusedVariables false

set_option maxRecDepth 100000 in
set_option maxHeartbeats 8000000 in
theorem wBytesRec (v_aB : Value) (zs : List Int) (w : World) (r_aB : RS .u8 w v_aB zs) (hb : Bytes zs) :
    Calls Try.prog 5 #[v_aB] w fun e w' => e = .returned (.bool true) ∧ Below w.heap.size w w' := by
  obtain ⟨AaB, caB, rfl, paB, qaB, hraB⟩ := r_aB
  have r_aB : RS .u8 w (.slice AaB zs.length caB) zs := ⟨_, _, rfl, paB, qaB, hraB⟩
  unfold maxLen at qaB
  have B0 : Below w.heap.size w w := Below.refl _ _
  by_cases hbig_aB : 1048576 < zs.length
  case pos =>
    have i0 : (1048576 : Int) < (zs.length : Int) := by omega
    go_enter Try.func5, Try.ntmps5
    go_wp2
    go_ret
    exact ⟨rfl, B0⟩
  have hm_aB : zs.length ≤ 1048576 := by omega
  obtain ⟨R0, hR0⟩ : ∃ R, bytesRec zs = R := ⟨_, rfl⟩
  have HR0 := Lib.hid hR0
  clear hR0
  obtain ⟨R1, hR1⟩ : ∃ R, bytesRecB zs = R := ⟨_, rfl⟩
  have HR1 := Lib.hid hR1
  clear hR1
  go_enter Try.func5, Try.ntmps5
  go_wp2_with fail
  refine (toByteS_c (r_aB.from_ B0) (by omega)).mono ?_
  rintro e w1 ⟨v_t1, rfl, o_t1, h_w1⟩
  have B_w1 := B0.trans (h_w1.mono B0.size)
  have s_w1 := h_w1.size
  obtain ⟨At1, ct1, rfl, -, -, -⟩ := o_t1.rd
  go_wp2_with fail
  refine (sBytesRec_c o_t1.rd hb (by omega)).mono ?_
  rintro e w2 ⟨v_w0, rfl, o_w0, h_w2⟩
  replace o_t1 := o_t1.below h_w2
  have B_w2 := B_w1.trans (h_w2.mono B_w1.size)
  have s_w2 := h_w2.size
  rw [HR0.out] at o_w0
  rw [HR1.out]
  obtain rfl := rv_rec o_w0.rd
  obtain ⟨w3, e_w3, s_w3, h_w3, x_w0⟩ := alloc_step w2 29 [.int .i64 R0.Kind, .int .i64 R0.Acct, .int .i64 R0.Other, .int .i64 R0.To, .int .i64 R0.Amt, .int .i64 R0.M.Kind, .int .i64 R0.M.Acct, .int .i64 R0.M.Amt, .int .i64 R0.M.Src]
  have s_w3_1 := Nat.le_of_eq s_w3
  have s_w3_2 := Nat.le_of_eq s_w3.symm
  clear s_w3
  replace o_t1 := o_t1.below h_w3
  replace o_w0 := o_w0.below h_w3
  have B_w3 := B_w2.trans (h_w3.mono B_w2.size)
  have c_w0_0_w3 := x_w0.cell (i := 0) rfl
  have f_w0_0_w3 := x_w0.frozen 0
  have c_w0_1_w3 := x_w0.cell (i := 1) rfl
  have f_w0_1_w3 := x_w0.frozen 1
  have c_w0_2_w3 := x_w0.cell (i := 2) rfl
  have f_w0_2_w3 := x_w0.frozen 2
  have c_w0_3_w3 := x_w0.cell (i := 3) rfl
  have f_w0_3_w3 := x_w0.frozen 3
  have c_w0_4_w3 := x_w0.cell (i := 4) rfl
  have f_w0_4_w3 := x_w0.frozen 4
  have c_w0_5_w3 := x_w0.cell (i := 5) rfl
  have f_w0_5_w3 := x_w0.frozen 5
  have c_w0_6_w3 := x_w0.cell (i := 6) rfl
  have f_w0_6_w3 := x_w0.frozen 6
  have c_w0_7_w3 := x_w0.cell (i := 7) rfl
  have f_w0_7_w3 := x_w0.frozen 7
  have c_w0_8_w3 := x_w0.cell (i := 8) rfl
  have f_w0_8_w3 := x_w0.frozen 8
  go_wp2_with fail
  refine (toByteS_c (r_aB.from_ B_w3) (by omega)).mono ?_
  rintro e w4 ⟨v_t2, rfl, o_t2, h_w4⟩
  clear c_w0_0_w3 f_w0_0_w3 c_w0_1_w3 f_w0_1_w3 c_w0_2_w3 f_w0_2_w3 c_w0_3_w3 f_w0_3_w3 c_w0_4_w3 f_w0_4_w3 c_w0_5_w3 f_w0_5_w3 c_w0_6_w3 f_w0_6_w3 c_w0_7_w3 f_w0_7_w3 c_w0_8_w3 f_w0_8_w3
  replace x_w0 := x_w0.from_ h_w4
  replace o_t1 := o_t1.below h_w4
  replace o_w0 := o_w0.below h_w4
  have B_w4 := B_w3.trans (h_w4.mono B_w3.size)
  have s_w4 := h_w4.size
  obtain ⟨At2, ct2, rfl, -, -, -⟩ := o_t2.rd
  have c_w0_0_w4 := x_w0.cell (i := 0) rfl
  have f_w0_0_w4 := x_w0.frozen 0
  have c_w0_1_w4 := x_w0.cell (i := 1) rfl
  have f_w0_1_w4 := x_w0.frozen 1
  have c_w0_2_w4 := x_w0.cell (i := 2) rfl
  have f_w0_2_w4 := x_w0.frozen 2
  have c_w0_3_w4 := x_w0.cell (i := 3) rfl
  have f_w0_3_w4 := x_w0.frozen 3
  have c_w0_4_w4 := x_w0.cell (i := 4) rfl
  have f_w0_4_w4 := x_w0.frozen 4
  have c_w0_5_w4 := x_w0.cell (i := 5) rfl
  have f_w0_5_w4 := x_w0.frozen 5
  have c_w0_6_w4 := x_w0.cell (i := 6) rfl
  have f_w0_6_w4 := x_w0.frozen 6
  have c_w0_7_w4 := x_w0.cell (i := 7) rfl
  have f_w0_7_w4 := x_w0.frozen 7
  have c_w0_8_w4 := x_w0.cell (i := 8) rfl
  have f_w0_8_w4 := x_w0.frozen 8
  go_wp2_with fail
  refine (iBytesRec_c o_t2.rd hb (by omega)).mono ?_
  rintro e w5 ⟨v_g0, rfl, o_g0, h_w5⟩
  clear c_w0_0_w4 f_w0_0_w4 c_w0_1_w4 f_w0_1_w4 c_w0_2_w4 f_w0_2_w4 c_w0_3_w4 f_w0_3_w4 c_w0_4_w4 f_w0_4_w4 c_w0_5_w4 f_w0_5_w4 c_w0_6_w4 f_w0_6_w4 c_w0_7_w4 f_w0_7_w4 c_w0_8_w4 f_w0_8_w4
  replace x_w0 := x_w0.from_ h_w5
  replace o_t1 := o_t1.below h_w5
  replace o_w0 := o_w0.below h_w5
  replace o_t2 := o_t2.below h_w5
  have B_w5 := B_w4.trans (h_w5.mono B_w4.size)
  have s_w5 := h_w5.size
  rw [HR0.out] at o_g0
  rw [HR1.out]
  obtain rfl := rv_rec o_g0.rd
  have c_w0_0_w5 := x_w0.cell (i := 0) rfl
  have f_w0_0_w5 := x_w0.frozen 0
  have c_w0_1_w5 := x_w0.cell (i := 1) rfl
  have f_w0_1_w5 := x_w0.frozen 1
  have c_w0_2_w5 := x_w0.cell (i := 2) rfl
  have f_w0_2_w5 := x_w0.frozen 2
  have c_w0_3_w5 := x_w0.cell (i := 3) rfl
  have f_w0_3_w5 := x_w0.frozen 3
  have c_w0_4_w5 := x_w0.cell (i := 4) rfl
  have f_w0_4_w5 := x_w0.frozen 4
  have c_w0_5_w5 := x_w0.cell (i := 5) rfl
  have f_w0_5_w5 := x_w0.frozen 5
  have c_w0_6_w5 := x_w0.cell (i := 6) rfl
  have f_w0_6_w5 := x_w0.frozen 6
  have c_w0_7_w5 := x_w0.cell (i := 7) rfl
  have f_w0_7_w5 := x_w0.frozen 7
  have c_w0_8_w5 := x_w0.cell (i := 8) rfl
  have f_w0_8_w5 := x_w0.frozen 8
  obtain ⟨w6, e_w6, s_w6, h_w6, x_g0⟩ := alloc_step w5 29 [.int .i64 R0.Kind, .int .i64 R0.Acct, .int .i64 R0.Other, .int .i64 R0.To, .int .i64 R0.Amt, .int .i64 R0.M.Kind, .int .i64 R0.M.Acct, .int .i64 R0.M.Amt, .int .i64 R0.M.Src]
  have s_w6_1 := Nat.le_of_eq s_w6
  have s_w6_2 := Nat.le_of_eq s_w6.symm
  clear s_w6
  replace x_w0 := x_w0.from_ h_w6
  replace o_t1 := o_t1.below h_w6
  replace o_w0 := o_w0.below h_w6
  replace o_t2 := o_t2.below h_w6
  replace o_g0 := o_g0.below h_w6
  have B_w6 := B_w5.trans (h_w6.mono B_w5.size)
  have c_w0_0_w6 := x_w0.cell (i := 0) rfl
  have f_w0_0_w6 := x_w0.frozen 0
  have c_w0_1_w6 := x_w0.cell (i := 1) rfl
  have f_w0_1_w6 := x_w0.frozen 1
  have c_w0_2_w6 := x_w0.cell (i := 2) rfl
  have f_w0_2_w6 := x_w0.frozen 2
  have c_w0_3_w6 := x_w0.cell (i := 3) rfl
  have f_w0_3_w6 := x_w0.frozen 3
  have c_w0_4_w6 := x_w0.cell (i := 4) rfl
  have f_w0_4_w6 := x_w0.frozen 4
  have c_w0_5_w6 := x_w0.cell (i := 5) rfl
  have f_w0_5_w6 := x_w0.frozen 5
  have c_w0_6_w6 := x_w0.cell (i := 6) rfl
  have f_w0_6_w6 := x_w0.frozen 6
  have c_w0_7_w6 := x_w0.cell (i := 7) rfl
  have f_w0_7_w6 := x_w0.frozen 7
  have c_w0_8_w6 := x_w0.cell (i := 8) rfl
  have f_w0_8_w6 := x_w0.frozen 8
  have c_g0_0_w6 := x_g0.cell (i := 0) rfl
  have f_g0_0_w6 := x_g0.frozen 0
  have c_g0_1_w6 := x_g0.cell (i := 1) rfl
  have f_g0_1_w6 := x_g0.frozen 1
  have c_g0_2_w6 := x_g0.cell (i := 2) rfl
  have f_g0_2_w6 := x_g0.frozen 2
  have c_g0_3_w6 := x_g0.cell (i := 3) rfl
  have f_g0_3_w6 := x_g0.frozen 3
  have c_g0_4_w6 := x_g0.cell (i := 4) rfl
  have f_g0_4_w6 := x_g0.frozen 4
  have c_g0_5_w6 := x_g0.cell (i := 5) rfl
  have f_g0_5_w6 := x_g0.frozen 5
  have c_g0_6_w6 := x_g0.cell (i := 6) rfl
  have f_g0_6_w6 := x_g0.frozen 6
  have c_g0_7_w6 := x_g0.cell (i := 7) rfl
  have f_g0_7_w6 := x_g0.frozen 7
  have c_g0_8_w6 := x_g0.cell (i := 8) rfl
  have f_g0_8_w6 := x_g0.frozen 8
  go_wp2_with fail
  refine (eqRec_same o_g0.rd o_w0.rd).mono ?_
  rintro e w7 ⟨rfl, h_w7⟩
  clear c_w0_0_w5 f_w0_0_w5 c_w0_1_w5 f_w0_1_w5 c_w0_2_w5 f_w0_2_w5 c_w0_3_w5 f_w0_3_w5 c_w0_4_w5 f_w0_4_w5 c_w0_5_w5 f_w0_5_w5 c_w0_6_w5 f_w0_6_w5 c_w0_7_w5 f_w0_7_w5 c_w0_8_w5 f_w0_8_w5 c_w0_0_w6 f_w0_0_w6 c_w0_1_w6 f_w0_1_w6 c_w0_2_w6 f_w0_2_w6 c_w0_3_w6 f_w0_3_w6 c_w0_4_w6 f_w0_4_w6 c_w0_5_w6 f_w0_5_w6 c_w0_6_w6 f_w0_6_w6 c_w0_7_w6 f_w0_7_w6 c_w0_8_w6 f_w0_8_w6 c_g0_0_w6 f_g0_0_w6 c_g0_1_w6 f_g0_1_w6 c_g0_2_w6 f_g0_2_w6 c_g0_3_w6 f_g0_3_w6 c_g0_4_w6 f_g0_4_w6 c_g0_5_w6 f_g0_5_w6 c_g0_6_w6 f_g0_6_w6 c_g0_7_w6 f_g0_7_w6 c_g0_8_w6 f_g0_8_w6
  replace x_w0 := x_w0.from_ h_w7
  replace x_g0 := x_g0.from_ h_w7
  replace o_t1 := o_t1.below h_w7
  replace o_w0 := o_w0.below h_w7
  replace o_t2 := o_t2.below h_w7
  replace o_g0 := o_g0.below h_w7
  have B_w7 := B_w6.trans (h_w7.mono B_w6.size)
  have s_w7 := h_w7.size
  have c_w0_0_w7 := x_w0.cell (i := 0) rfl
  have f_w0_0_w7 := x_w0.frozen 0
  have c_w0_1_w7 := x_w0.cell (i := 1) rfl
  have f_w0_1_w7 := x_w0.frozen 1
  have c_w0_2_w7 := x_w0.cell (i := 2) rfl
  have f_w0_2_w7 := x_w0.frozen 2
  have c_w0_3_w7 := x_w0.cell (i := 3) rfl
  have f_w0_3_w7 := x_w0.frozen 3
  have c_w0_4_w7 := x_w0.cell (i := 4) rfl
  have f_w0_4_w7 := x_w0.frozen 4
  have c_w0_5_w7 := x_w0.cell (i := 5) rfl
  have f_w0_5_w7 := x_w0.frozen 5
  have c_w0_6_w7 := x_w0.cell (i := 6) rfl
  have f_w0_6_w7 := x_w0.frozen 6
  have c_w0_7_w7 := x_w0.cell (i := 7) rfl
  have f_w0_7_w7 := x_w0.frozen 7
  have c_w0_8_w7 := x_w0.cell (i := 8) rfl
  have f_w0_8_w7 := x_w0.frozen 8
  have c_g0_0_w7 := x_g0.cell (i := 0) rfl
  have f_g0_0_w7 := x_g0.frozen 0
  have c_g0_1_w7 := x_g0.cell (i := 1) rfl
  have f_g0_1_w7 := x_g0.frozen 1
  have c_g0_2_w7 := x_g0.cell (i := 2) rfl
  have f_g0_2_w7 := x_g0.frozen 2
  have c_g0_3_w7 := x_g0.cell (i := 3) rfl
  have f_g0_3_w7 := x_g0.frozen 3
  have c_g0_4_w7 := x_g0.cell (i := 4) rfl
  have f_g0_4_w7 := x_g0.frozen 4
  have c_g0_5_w7 := x_g0.cell (i := 5) rfl
  have f_g0_5_w7 := x_g0.frozen 5
  have c_g0_6_w7 := x_g0.cell (i := 6) rfl
  have f_g0_6_w7 := x_g0.frozen 6
  have c_g0_7_w7 := x_g0.cell (i := 7) rfl
  have f_g0_7_w7 := x_g0.frozen 7
  have c_g0_8_w7 := x_g0.cell (i := 8) rfl
  have f_g0_8_w7 := x_g0.frozen 8
  go_wp2_with fail
  refine (toByteS_c (r_aB.from_ B_w7) (by omega)).mono ?_
  rintro e w8 ⟨v_t3, rfl, o_t3, h_w8⟩
  clear c_w0_0_w7 f_w0_0_w7 c_w0_1_w7 f_w0_1_w7 c_w0_2_w7 f_w0_2_w7 c_w0_3_w7 f_w0_3_w7 c_w0_4_w7 f_w0_4_w7 c_w0_5_w7 f_w0_5_w7 c_w0_6_w7 f_w0_6_w7 c_w0_7_w7 f_w0_7_w7 c_w0_8_w7 f_w0_8_w7 c_g0_0_w7 f_g0_0_w7 c_g0_1_w7 f_g0_1_w7 c_g0_2_w7 f_g0_2_w7 c_g0_3_w7 f_g0_3_w7 c_g0_4_w7 f_g0_4_w7 c_g0_5_w7 f_g0_5_w7 c_g0_6_w7 f_g0_6_w7 c_g0_7_w7 f_g0_7_w7 c_g0_8_w7 f_g0_8_w7
  replace x_w0 := x_w0.from_ h_w8
  replace x_g0 := x_g0.from_ h_w8
  replace o_t1 := o_t1.below h_w8
  replace o_w0 := o_w0.below h_w8
  replace o_t2 := o_t2.below h_w8
  replace o_g0 := o_g0.below h_w8
  have B_w8 := B_w7.trans (h_w8.mono B_w7.size)
  have s_w8 := h_w8.size
  obtain ⟨At3, ct3, rfl, -, -, -⟩ := o_t3.rd
  have c_w0_0_w8 := x_w0.cell (i := 0) rfl
  have f_w0_0_w8 := x_w0.frozen 0
  have c_w0_1_w8 := x_w0.cell (i := 1) rfl
  have f_w0_1_w8 := x_w0.frozen 1
  have c_w0_2_w8 := x_w0.cell (i := 2) rfl
  have f_w0_2_w8 := x_w0.frozen 2
  have c_w0_3_w8 := x_w0.cell (i := 3) rfl
  have f_w0_3_w8 := x_w0.frozen 3
  have c_w0_4_w8 := x_w0.cell (i := 4) rfl
  have f_w0_4_w8 := x_w0.frozen 4
  have c_w0_5_w8 := x_w0.cell (i := 5) rfl
  have f_w0_5_w8 := x_w0.frozen 5
  have c_w0_6_w8 := x_w0.cell (i := 6) rfl
  have f_w0_6_w8 := x_w0.frozen 6
  have c_w0_7_w8 := x_w0.cell (i := 7) rfl
  have f_w0_7_w8 := x_w0.frozen 7
  have c_w0_8_w8 := x_w0.cell (i := 8) rfl
  have f_w0_8_w8 := x_w0.frozen 8
  have c_g0_0_w8 := x_g0.cell (i := 0) rfl
  have f_g0_0_w8 := x_g0.frozen 0
  have c_g0_1_w8 := x_g0.cell (i := 1) rfl
  have f_g0_1_w8 := x_g0.frozen 1
  have c_g0_2_w8 := x_g0.cell (i := 2) rfl
  have f_g0_2_w8 := x_g0.frozen 2
  have c_g0_3_w8 := x_g0.cell (i := 3) rfl
  have f_g0_3_w8 := x_g0.frozen 3
  have c_g0_4_w8 := x_g0.cell (i := 4) rfl
  have f_g0_4_w8 := x_g0.frozen 4
  have c_g0_5_w8 := x_g0.cell (i := 5) rfl
  have f_g0_5_w8 := x_g0.frozen 5
  have c_g0_6_w8 := x_g0.cell (i := 6) rfl
  have f_g0_6_w8 := x_g0.frozen 6
  have c_g0_7_w8 := x_g0.cell (i := 7) rfl
  have f_g0_7_w8 := x_g0.frozen 7
  have c_g0_8_w8 := x_g0.cell (i := 8) rfl
  have f_g0_8_w8 := x_g0.frozen 8
  go_wp2_with fail
  refine (eqByteS_same o_t2.rd o_t3.rd (by omega)).mono ?_
  rintro e w9 ⟨rfl, h_w9⟩
  clear c_w0_0_w8 f_w0_0_w8 c_w0_1_w8 f_w0_1_w8 c_w0_2_w8 f_w0_2_w8 c_w0_3_w8 f_w0_3_w8 c_w0_4_w8 f_w0_4_w8 c_w0_5_w8 f_w0_5_w8 c_w0_6_w8 f_w0_6_w8 c_w0_7_w8 f_w0_7_w8 c_w0_8_w8 f_w0_8_w8 c_g0_0_w8 f_g0_0_w8 c_g0_1_w8 f_g0_1_w8 c_g0_2_w8 f_g0_2_w8 c_g0_3_w8 f_g0_3_w8 c_g0_4_w8 f_g0_4_w8 c_g0_5_w8 f_g0_5_w8 c_g0_6_w8 f_g0_6_w8 c_g0_7_w8 f_g0_7_w8 c_g0_8_w8 f_g0_8_w8
  replace x_w0 := x_w0.from_ h_w9
  replace x_g0 := x_g0.from_ h_w9
  replace o_t1 := o_t1.below h_w9
  replace o_w0 := o_w0.below h_w9
  replace o_t2 := o_t2.below h_w9
  replace o_g0 := o_g0.below h_w9
  replace o_t3 := o_t3.below h_w9
  have B_w9 := B_w8.trans (h_w9.mono B_w8.size)
  have s_w9 := h_w9.size
  have c_w0_0_w9 := x_w0.cell (i := 0) rfl
  have f_w0_0_w9 := x_w0.frozen 0
  have c_w0_1_w9 := x_w0.cell (i := 1) rfl
  have f_w0_1_w9 := x_w0.frozen 1
  have c_w0_2_w9 := x_w0.cell (i := 2) rfl
  have f_w0_2_w9 := x_w0.frozen 2
  have c_w0_3_w9 := x_w0.cell (i := 3) rfl
  have f_w0_3_w9 := x_w0.frozen 3
  have c_w0_4_w9 := x_w0.cell (i := 4) rfl
  have f_w0_4_w9 := x_w0.frozen 4
  have c_w0_5_w9 := x_w0.cell (i := 5) rfl
  have f_w0_5_w9 := x_w0.frozen 5
  have c_w0_6_w9 := x_w0.cell (i := 6) rfl
  have f_w0_6_w9 := x_w0.frozen 6
  have c_w0_7_w9 := x_w0.cell (i := 7) rfl
  have f_w0_7_w9 := x_w0.frozen 7
  have c_w0_8_w9 := x_w0.cell (i := 8) rfl
  have f_w0_8_w9 := x_w0.frozen 8
  have c_g0_0_w9 := x_g0.cell (i := 0) rfl
  have f_g0_0_w9 := x_g0.frozen 0
  have c_g0_1_w9 := x_g0.cell (i := 1) rfl
  have f_g0_1_w9 := x_g0.frozen 1
  have c_g0_2_w9 := x_g0.cell (i := 2) rfl
  have f_g0_2_w9 := x_g0.frozen 2
  have c_g0_3_w9 := x_g0.cell (i := 3) rfl
  have f_g0_3_w9 := x_g0.frozen 3
  have c_g0_4_w9 := x_g0.cell (i := 4) rfl
  have f_g0_4_w9 := x_g0.frozen 4
  have c_g0_5_w9 := x_g0.cell (i := 5) rfl
  have f_g0_5_w9 := x_g0.frozen 5
  have c_g0_6_w9 := x_g0.cell (i := 6) rfl
  have f_g0_6_w9 := x_g0.frozen 6
  have c_g0_7_w9 := x_g0.cell (i := 7) rfl
  have f_g0_7_w9 := x_g0.frozen 7
  have c_g0_8_w9 := x_g0.cell (i := 8) rfl
  have f_g0_8_w9 := x_g0.frozen 8
  go_wp2
  go_ret
  exact ⟨rfl, B_w9⟩

end Go.Proofs.Ytkbhbccpmmhelaa
