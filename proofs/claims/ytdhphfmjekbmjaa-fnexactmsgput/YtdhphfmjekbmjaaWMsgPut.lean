/- The walk of the law FnExactMsgPut, laid by a program of ours (lawgen2.py) out of the law's text. -/
import Derived.Test.YtdhphfmjekbmjaaMsgI
namespace Go.Proofs.Ytdhphfmjekbmjaa
open Go.RowKit
set_option linter.unusedVariables false

set_option maxRecDepth 100000 in
set_option maxHeartbeats 8000000 in
theorem wMsgPut (v_aB : Value) (zs : List Int) (v_aM : Value) (m : MMsg) (w : World) (r_aB : RS .u8 w v_aB zs) (r_aM : RV msgL w v_aM m) :
    Calls Try.prog 4 #[v_aB, v_aM] w fun e w' => e = .returned (.bool true) ∧ Below w.heap.size w w' := by
  obtain ⟨AaB, caB, rfl, paB, qaB, hraB⟩ := r_aB
  have r_aB : RS .u8 w (.slice AaB zs.length caB) zs := ⟨_, _, rfl, paB, qaB, hraB⟩
  unfold maxLen at qaB
  have h_aM := r_aM
  obtain rfl := rv_msg h_aM
  clear h_aM
  obtain ⟨wa, hwa, B0, sa, x_aM⟩ := frame1 w 23 [.int .i64 m.Kind, .int .i64 m.Acct, .int .i64 m.Amt, .int .i64 m.Src]
  have sa_1 := Nat.le_of_eq sa
  have sa_2 := Nat.le_of_eq sa.symm
  clear sa
  have c_aM_0_wa := x_aM.cell (i := 0) rfl
  have c_aM_1_wa := x_aM.cell (i := 1) rfl
  have c_aM_2_wa := x_aM.cell (i := 2) rfl
  have c_aM_3_wa := x_aM.cell (i := 3) rfl
  by_cases hbig_aB : 1048576 < zs.length
  case pos =>
    have i0 : (1048576 : Int) < (zs.length : Int) := by omega
    go_enter Try.func4, Try.ntmps4
    go_wp2
    go_ret
    exact ⟨rfl, B0⟩
  have hm_aB : zs.length ≤ 1048576 := by omega
  obtain ⟨R0, hR0⟩ : ∃ R, msgPut zs m = R := ⟨_, rfl⟩
  have hl0 : R0.length ≤ 16777216 := by rw [← hR0]; exact Nat.le_trans (msgPut_len zs m) (by omega)
  have HR0 := Lib.hid hR0
  clear hR0
  obtain ⟨R1, hR1⟩ : ∃ R, msgOkB m = R := ⟨_, rfl⟩
  have HR1 := Lib.hid hR1
  clear hR1
  go_enter Try.func4, Try.ntmps4
  go_wp2_with fail
  go_region_held3 (fun w' => w'.cell? ⟨w.heap.size, 0, none⟩ = some (.int .i64 m.Kind) ∧ w'.cell? ⟨w.heap.size, 1, none⟩ = some (.int .i64 m.Acct) ∧ w'.cell? ⟨w.heap.size, 2, none⟩ = some (.int .i64 m.Amt) ∧ w'.cell? ⟨w.heap.size, 3, none⟩ = some (.int .i64 m.Src))
    (first | exact ⟨c_aM_0_wa, c_aM_1_wa, c_aM_2_wa, c_aM_3_wa⟩ | exact ⟨qz1_aM_0, qz1_aM_1, qz1_aM_2, qz1_aM_3⟩ | exact ⟨qz2_aM_0, qz2_aM_1, qz2_aM_2, qz2_aM_3⟩ | exact ⟨qz3_aM_0, qz3_aM_1, qz3_aM_2, qz3_aM_3⟩ | go_keep)
    (first | ((go_at_call 12); (refine (toByteS_c (r_aB.from_ (B0.drew)) (by omega)).mono ?_); rintro e w_z1 ⟨v_t1, rfl, o_t1, hd_z1⟩; have hb_z1 : Below wa.heap.size wa w_z1 := (Below.refl wa.heap.size wa).drew.trans hd_z1; have sd_z1 := hd_z1.size; replace sd_z1 : wa.heap.size ≤ w_z1.heap.size := sd_z1; have qz1_aM_0 := (x_aM.from_ hb_z1).cell (i := 0) rfl; have qz1_aM_1 := (x_aM.from_ hb_z1).cell (i := 1) rfl; have qz1_aM_2 := (x_aM.from_ hb_z1).cell (i := 2) rfl; have qz1_aM_3 := (x_aM.from_ hb_z1).cell (i := 3) rfl; obtain ⟨At1, ct1, rfl, -, -, -⟩ := o_t1.rd)
           | ((go_at_call_of 9 (Value.agg #[.int .i64 m.Kind, .int .i64 m.Acct, .int .i64 m.Amt, .int .i64 m.Src])); (refine (toMsg_c (r_aM.from_ (B0.trans (hb_z1.mono B0.size)))).mono ?_); rintro e w_z2 ⟨v_t2, rfl, o_t2, hd_z2⟩; have hb_z2 : Below wa.heap.size wa w_z2 := hb_z1.trans (hd_z2.mono hb_z1.size); have sd_z2 := hd_z2.size; have qz2_aM_0 := (x_aM.from_ hb_z2).cell (i := 0) rfl; have qz2_aM_1 := (x_aM.from_ hb_z2).cell (i := 1) rfl; have qz2_aM_2 := (x_aM.from_ hb_z2).cell (i := 2) rfl; have qz2_aM_3 := (x_aM.from_ hb_z2).cell (i := 3) rfl; replace o_t1 := o_t1.below hd_z2; obtain rfl := rv_msg o_t2.rd)
           | ((go_at_call 11); (refine (sMsgPut_c o_t1.rd o_t2.rd (by omega)).mono ?_); rintro e w_z3 ⟨v_w0, rfl, o_w0, hd_z3⟩; have hb_z3 : Below wa.heap.size wa w_z3 := hb_z2.trans (hd_z3.mono hb_z2.size); have sd_z3 := hd_z3.size; have qz3_aM_0 := (x_aM.from_ hb_z3).cell (i := 0) rfl; have qz3_aM_1 := (x_aM.from_ hb_z3).cell (i := 1) rfl; have qz3_aM_2 := (x_aM.from_ hb_z3).cell (i := 2) rfl; have qz3_aM_3 := (x_aM.from_ hb_z3).cell (i := 3) rfl; replace o_t1 := o_t1.below hd_z3; replace o_t2 := o_t2.below hd_z3; rw [HR0.out] at o_w0; rw [HR1.out]; obtain ⟨Aw0, cw0, rfl, -, -, -⟩ := o_w0.rd)
           | fail)
  clear c_aM_0_wa c_aM_1_wa c_aM_2_wa c_aM_3_wa
  have dz_wa : wa.drew.heap.size = wa.heap.size := rfl
  replace x_aM := x_aM.from_ hb_z3
  have B_z3 := B0.trans (hb_z3.mono B0.size)
  have sz_z3 := hb_z3.size
  have c_aM_0_w_z3 := x_aM.cell (i := 0) rfl
  have f_aM_0_w_z3 := x_aM.frozen 0
  have c_aM_1_w_z3 := x_aM.cell (i := 1) rfl
  have f_aM_1_w_z3 := x_aM.frozen 1
  have c_aM_2_w_z3 := x_aM.cell (i := 2) rfl
  have f_aM_2_w_z3 := x_aM.frozen 2
  have c_aM_3_w_z3 := x_aM.cell (i := 3) rfl
  have f_aM_3_w_z3 := x_aM.frozen 3
  go_wp2_with fail
  refine (toByteS_c (r_aB.from_ B_z3) (by omega)).mono ?_
  rintro e w1 ⟨v_t3, rfl, o_t3, h_w1⟩
  clear c_aM_0_w_z3 f_aM_0_w_z3 c_aM_1_w_z3 f_aM_1_w_z3 c_aM_2_w_z3 f_aM_2_w_z3 c_aM_3_w_z3 f_aM_3_w_z3
  replace x_aM := x_aM.from_ h_w1
  replace o_t1 := o_t1.below h_w1
  replace o_t2 := o_t2.below h_w1
  replace o_w0 := o_w0.below h_w1
  have B_w1 := B_z3.trans (h_w1.mono B_z3.size)
  have s_w1 := h_w1.size
  obtain ⟨At3, ct3, rfl, -, -, -⟩ := o_t3.rd
  have c_aM_0_w1 := x_aM.cell (i := 0) rfl
  have f_aM_0_w1 := x_aM.frozen 0
  have c_aM_1_w1 := x_aM.cell (i := 1) rfl
  have f_aM_1_w1 := x_aM.frozen 1
  have c_aM_2_w1 := x_aM.cell (i := 2) rfl
  have f_aM_2_w1 := x_aM.frozen 2
  have c_aM_3_w1 := x_aM.cell (i := 3) rfl
  have f_aM_3_w1 := x_aM.frozen 3
  go_wp2_with fail
  refine (toMsg_c (r_aM.from_ B_w1)).mono ?_
  rintro e w2 ⟨v_t4, rfl, o_t4, h_w2⟩
  clear c_aM_0_w1 f_aM_0_w1 c_aM_1_w1 f_aM_1_w1 c_aM_2_w1 f_aM_2_w1 c_aM_3_w1 f_aM_3_w1
  replace x_aM := x_aM.from_ h_w2
  replace o_t1 := o_t1.below h_w2
  replace o_t2 := o_t2.below h_w2
  replace o_w0 := o_w0.below h_w2
  replace o_t3 := o_t3.below h_w2
  have B_w2 := B_w1.trans (h_w2.mono B_w1.size)
  have s_w2 := h_w2.size
  obtain rfl := rv_msg o_t4.rd
  have c_aM_0_w2 := x_aM.cell (i := 0) rfl
  have f_aM_0_w2 := x_aM.frozen 0
  have c_aM_1_w2 := x_aM.cell (i := 1) rfl
  have f_aM_1_w2 := x_aM.frozen 1
  have c_aM_2_w2 := x_aM.cell (i := 2) rfl
  have f_aM_2_w2 := x_aM.frozen 2
  have c_aM_3_w2 := x_aM.cell (i := 3) rfl
  have f_aM_3_w2 := x_aM.frozen 3
  go_wp2_with fail
  refine (iMsgPut_c o_t3.rd o_t4.rd (by omega)).mono ?_
  rintro e w3 ⟨v_g0, rfl, o_g0, h_w3⟩
  clear c_aM_0_w2 f_aM_0_w2 c_aM_1_w2 f_aM_1_w2 c_aM_2_w2 f_aM_2_w2 c_aM_3_w2 f_aM_3_w2
  replace x_aM := x_aM.from_ h_w3
  replace o_t1 := o_t1.below h_w3
  replace o_t2 := o_t2.below h_w3
  replace o_w0 := o_w0.below h_w3
  replace o_t3 := o_t3.below h_w3
  replace o_t4 := o_t4.below h_w3
  have B_w3 := B_w2.trans (h_w3.mono B_w2.size)
  have s_w3 := h_w3.size
  rw [HR0.out] at o_g0
  rw [HR1.out]
  obtain ⟨Ag0, cg0, rfl, -, -, -⟩ := o_g0.rd
  have c_aM_0_w3 := x_aM.cell (i := 0) rfl
  have f_aM_0_w3 := x_aM.frozen 0
  have c_aM_1_w3 := x_aM.cell (i := 1) rfl
  have f_aM_1_w3 := x_aM.frozen 1
  have c_aM_2_w3 := x_aM.cell (i := 2) rfl
  have f_aM_2_w3 := x_aM.frozen 2
  have c_aM_3_w3 := x_aM.cell (i := 3) rfl
  have f_aM_3_w3 := x_aM.frozen 3
  go_wp2_with fail
  refine (eqByteS_same o_g0.rd o_w0.rd (by omega)).mono ?_
  rintro e w4 ⟨rfl, h_w4⟩
  clear c_aM_0_w3 f_aM_0_w3 c_aM_1_w3 f_aM_1_w3 c_aM_2_w3 f_aM_2_w3 c_aM_3_w3 f_aM_3_w3
  replace x_aM := x_aM.from_ h_w4
  replace o_t1 := o_t1.below h_w4
  replace o_t2 := o_t2.below h_w4
  replace o_w0 := o_w0.below h_w4
  replace o_t3 := o_t3.below h_w4
  replace o_t4 := o_t4.below h_w4
  replace o_g0 := o_g0.below h_w4
  have B_w4 := B_w3.trans (h_w4.mono B_w3.size)
  have s_w4 := h_w4.size
  have c_aM_0_w4 := x_aM.cell (i := 0) rfl
  have f_aM_0_w4 := x_aM.frozen 0
  have c_aM_1_w4 := x_aM.cell (i := 1) rfl
  have f_aM_1_w4 := x_aM.frozen 1
  have c_aM_2_w4 := x_aM.cell (i := 2) rfl
  have f_aM_2_w4 := x_aM.frozen 2
  have c_aM_3_w4 := x_aM.cell (i := 3) rfl
  have f_aM_3_w4 := x_aM.frozen 3
  go_wp2_with fail
  refine (toByteS_c (r_aB.from_ B_w4) (by omega)).mono ?_
  rintro e w5 ⟨v_t5, rfl, o_t5, h_w5⟩
  clear c_aM_0_w4 f_aM_0_w4 c_aM_1_w4 f_aM_1_w4 c_aM_2_w4 f_aM_2_w4 c_aM_3_w4 f_aM_3_w4
  replace x_aM := x_aM.from_ h_w5
  replace o_t1 := o_t1.below h_w5
  replace o_t2 := o_t2.below h_w5
  replace o_w0 := o_w0.below h_w5
  replace o_t3 := o_t3.below h_w5
  replace o_t4 := o_t4.below h_w5
  replace o_g0 := o_g0.below h_w5
  have B_w5 := B_w4.trans (h_w5.mono B_w4.size)
  have s_w5 := h_w5.size
  obtain ⟨At5, ct5, rfl, -, -, -⟩ := o_t5.rd
  have c_aM_0_w5 := x_aM.cell (i := 0) rfl
  have f_aM_0_w5 := x_aM.frozen 0
  have c_aM_1_w5 := x_aM.cell (i := 1) rfl
  have f_aM_1_w5 := x_aM.frozen 1
  have c_aM_2_w5 := x_aM.cell (i := 2) rfl
  have f_aM_2_w5 := x_aM.frozen 2
  have c_aM_3_w5 := x_aM.cell (i := 3) rfl
  have f_aM_3_w5 := x_aM.frozen 3
  go_wp2_with fail
  refine (eqByteS_same o_t3.rd o_t5.rd (by omega)).mono ?_
  rintro e w6 ⟨rfl, h_w6⟩
  clear c_aM_0_w5 f_aM_0_w5 c_aM_1_w5 f_aM_1_w5 c_aM_2_w5 f_aM_2_w5 c_aM_3_w5 f_aM_3_w5
  replace x_aM := x_aM.from_ h_w6
  replace o_t1 := o_t1.below h_w6
  replace o_t2 := o_t2.below h_w6
  replace o_w0 := o_w0.below h_w6
  replace o_t3 := o_t3.below h_w6
  replace o_t4 := o_t4.below h_w6
  replace o_g0 := o_g0.below h_w6
  replace o_t5 := o_t5.below h_w6
  have B_w6 := B_w5.trans (h_w6.mono B_w5.size)
  have s_w6 := h_w6.size
  have c_aM_0_w6 := x_aM.cell (i := 0) rfl
  have f_aM_0_w6 := x_aM.frozen 0
  have c_aM_1_w6 := x_aM.cell (i := 1) rfl
  have f_aM_1_w6 := x_aM.frozen 1
  have c_aM_2_w6 := x_aM.cell (i := 2) rfl
  have f_aM_2_w6 := x_aM.frozen 2
  have c_aM_3_w6 := x_aM.cell (i := 3) rfl
  have f_aM_3_w6 := x_aM.frozen 3
  go_wp2_with fail
  refine (markByteS_c o_t3 (by omega) (by omega) (by omega)).mono ?_
  rintro e w7 ⟨rfl, y, h_w7⟩
  clear c_aM_0_w6 f_aM_0_w6 c_aM_1_w6 f_aM_1_w6 c_aM_2_w6 f_aM_2_w6 c_aM_3_w6 f_aM_3_w6
  replace x_aM := x_aM.chg h_w7 (by omega)
  replace o_t1 := o_t1.chg h_w7 (by omega)
  replace o_t2 := o_t2.chg h_w7 (by omega)
  replace o_w0 := o_w0.chg h_w7 (by omega)
  replace o_t4 := o_t4.chg h_w7 (by omega)
  replace o_g0 := o_g0.chg h_w7 (by omega)
  replace o_t5 := o_t5.chg h_w7 (by omega)
  have B_w7 := Below.chg_ B_w6 h_w7 (by omega) (by omega)
  have s_w7 := h_w7.size
  replace o_t3 := y
  clear y
  have c_aM_0_w7 := x_aM.cell (i := 0) rfl
  have f_aM_0_w7 := x_aM.frozen 0
  have c_aM_1_w7 := x_aM.cell (i := 1) rfl
  have f_aM_1_w7 := x_aM.frozen 1
  have c_aM_2_w7 := x_aM.cell (i := 2) rfl
  have f_aM_2_w7 := x_aM.frozen 2
  have c_aM_3_w7 := x_aM.cell (i := 3) rfl
  have f_aM_3_w7 := x_aM.frozen 3
  go_wp2_with fail
  refine (eqByteS_same o_g0.rd o_w0.rd (by omega)).mono ?_
  rintro e w8 ⟨rfl, h_w8⟩
  clear c_aM_0_w7 f_aM_0_w7 c_aM_1_w7 f_aM_1_w7 c_aM_2_w7 f_aM_2_w7 c_aM_3_w7 f_aM_3_w7
  replace x_aM := x_aM.from_ h_w8
  replace o_t1 := o_t1.below h_w8
  replace o_t2 := o_t2.below h_w8
  replace o_w0 := o_w0.below h_w8
  replace o_t3 := o_t3.below h_w8
  replace o_t4 := o_t4.below h_w8
  replace o_g0 := o_g0.below h_w8
  replace o_t5 := o_t5.below h_w8
  have B_w8 := B_w7.trans (h_w8.mono B_w7.size)
  have s_w8 := h_w8.size
  have c_aM_0_w8 := x_aM.cell (i := 0) rfl
  have f_aM_0_w8 := x_aM.frozen 0
  have c_aM_1_w8 := x_aM.cell (i := 1) rfl
  have f_aM_1_w8 := x_aM.frozen 1
  have c_aM_2_w8 := x_aM.cell (i := 2) rfl
  have f_aM_2_w8 := x_aM.frozen 2
  have c_aM_3_w8 := x_aM.cell (i := 3) rfl
  have f_aM_3_w8 := x_aM.frozen 3
  go_wp2_with fail
  refine (markByteS_c o_g0 (by omega) (by omega) (by omega)).mono ?_
  rintro e w9 ⟨rfl, y, h_w9⟩
  clear c_aM_0_w8 f_aM_0_w8 c_aM_1_w8 f_aM_1_w8 c_aM_2_w8 f_aM_2_w8 c_aM_3_w8 f_aM_3_w8
  replace x_aM := x_aM.chg h_w9 (by omega)
  replace o_t1 := o_t1.chg h_w9 (by omega)
  replace o_t2 := o_t2.chg h_w9 (by omega)
  replace o_w0 := o_w0.chg h_w9 (by omega)
  replace o_t3 := o_t3.chg h_w9 (by omega)
  replace o_t4 := o_t4.chg h_w9 (by omega)
  replace o_t5 := o_t5.chg h_w9 (by omega)
  have B_w9 := Below.chg_ B_w8 h_w9 (by omega) (by omega)
  have s_w9 := h_w9.size
  replace o_g0 := y
  clear y
  have c_aM_0_w9 := x_aM.cell (i := 0) rfl
  have f_aM_0_w9 := x_aM.frozen 0
  have c_aM_1_w9 := x_aM.cell (i := 1) rfl
  have f_aM_1_w9 := x_aM.frozen 1
  have c_aM_2_w9 := x_aM.cell (i := 2) rfl
  have f_aM_2_w9 := x_aM.frozen 2
  have c_aM_3_w9 := x_aM.cell (i := 3) rfl
  have f_aM_3_w9 := x_aM.frozen 3
  go_wp2_with fail
  refine (heldByteS_c o_g0.rd (by omega) (by omega) (by omega)).mono ?_
  rintro e w10 ⟨rfl, h_w10⟩
  clear c_aM_0_w9 f_aM_0_w9 c_aM_1_w9 f_aM_1_w9 c_aM_2_w9 f_aM_2_w9 c_aM_3_w9 f_aM_3_w9
  replace x_aM := x_aM.from_ h_w10
  replace o_t1 := o_t1.below h_w10
  replace o_t2 := o_t2.below h_w10
  replace o_w0 := o_w0.below h_w10
  replace o_t3 := o_t3.below h_w10
  replace o_t4 := o_t4.below h_w10
  replace o_g0 := o_g0.below h_w10
  replace o_t5 := o_t5.below h_w10
  have B_w10 := B_w9.trans (h_w10.mono B_w9.size)
  have s_w10 := h_w10.size
  have c_aM_0_w10 := x_aM.cell (i := 0) rfl
  have f_aM_0_w10 := x_aM.frozen 0
  have c_aM_1_w10 := x_aM.cell (i := 1) rfl
  have f_aM_1_w10 := x_aM.frozen 1
  have c_aM_2_w10 := x_aM.cell (i := 2) rfl
  have f_aM_2_w10 := x_aM.frozen 2
  have c_aM_3_w10 := x_aM.cell (i := 3) rfl
  have f_aM_3_w10 := x_aM.frozen 3
  go_wp2_with fail
  go_region_held3 (fun w' => w'.cell? ⟨w.heap.size, 0, none⟩ = some (.int .i64 m.Kind) ∧ w'.cell? ⟨w.heap.size, 1, none⟩ = some (.int .i64 m.Acct) ∧ w'.cell? ⟨w.heap.size, 2, none⟩ = some (.int .i64 m.Amt) ∧ w'.cell? ⟨w.heap.size, 3, none⟩ = some (.int .i64 m.Src))
    (first | exact ⟨c_aM_0_w10, c_aM_1_w10, c_aM_2_w10, c_aM_3_w10⟩ | exact ⟨qz4_aM_0, qz4_aM_1, qz4_aM_2, qz4_aM_3⟩ | exact ⟨qz5_aM_0, qz5_aM_1, qz5_aM_2, qz5_aM_3⟩ | exact ⟨qz6_aM_0, qz6_aM_1, qz6_aM_2, qz6_aM_3⟩ | go_keep)
    (first | ((go_at_call 12); (refine (toByteS_c (r_aB.from_ (B_w10.drew)) (by omega)).mono ?_); rintro e w_z4 ⟨v_t6, rfl, o_t6, hd_z4⟩; have hb_z4 : Below w10.heap.size w10 w_z4 := (Below.refl w10.heap.size w10).drew.trans hd_z4; have sd_z4 := hd_z4.size; replace sd_z4 : w10.heap.size ≤ w_z4.heap.size := sd_z4; have qz4_aM_0 := (x_aM.from_ hb_z4).cell (i := 0) rfl; have qz4_aM_1 := (x_aM.from_ hb_z4).cell (i := 1) rfl; have qz4_aM_2 := (x_aM.from_ hb_z4).cell (i := 2) rfl; have qz4_aM_3 := (x_aM.from_ hb_z4).cell (i := 3) rfl; obtain ⟨At6, ct6, rfl, -, -, -⟩ := o_t6.rd)
           | ((go_at_call_of 9 (Value.agg #[.int .i64 m.Kind, .int .i64 m.Acct, .int .i64 m.Amt, .int .i64 m.Src])); (refine (toMsg_c (r_aM.from_ (B_w10.trans (hb_z4.mono B_w10.size)))).mono ?_); rintro e w_z5 ⟨v_t7, rfl, o_t7, hd_z5⟩; have hb_z5 : Below w10.heap.size w10 w_z5 := hb_z4.trans (hd_z5.mono hb_z4.size); have sd_z5 := hd_z5.size; have qz5_aM_0 := (x_aM.from_ hb_z5).cell (i := 0) rfl; have qz5_aM_1 := (x_aM.from_ hb_z5).cell (i := 1) rfl; have qz5_aM_2 := (x_aM.from_ hb_z5).cell (i := 2) rfl; have qz5_aM_3 := (x_aM.from_ hb_z5).cell (i := 3) rfl; replace o_t6 := o_t6.below hd_z5; obtain rfl := rv_msg o_t7.rd)
           | ((go_at_call 13); (refine (iMsgPut_c o_t6.rd o_t7.rd (by omega)).mono ?_); rintro e w_z6 ⟨v_h0, rfl, o_h0, hd_z6⟩; have hb_z6 : Below w10.heap.size w10 w_z6 := hb_z5.trans (hd_z6.mono hb_z5.size); have sd_z6 := hd_z6.size; have qz6_aM_0 := (x_aM.from_ hb_z6).cell (i := 0) rfl; have qz6_aM_1 := (x_aM.from_ hb_z6).cell (i := 1) rfl; have qz6_aM_2 := (x_aM.from_ hb_z6).cell (i := 2) rfl; have qz6_aM_3 := (x_aM.from_ hb_z6).cell (i := 3) rfl; replace o_t6 := o_t6.below hd_z6; replace o_t7 := o_t7.below hd_z6; rw [HR0.out] at o_h0; rw [HR1.out]; obtain ⟨Ah0, ch0, rfl, -, -, -⟩ := o_h0.rd)
           | fail)
  clear c_aM_0_w10 f_aM_0_w10 c_aM_1_w10 f_aM_1_w10 c_aM_2_w10 f_aM_2_w10 c_aM_3_w10 f_aM_3_w10
  have dz_w10 : w10.drew.heap.size = w10.heap.size := rfl
  replace x_aM := x_aM.from_ hb_z6
  replace o_t1 := o_t1.below hb_z6
  replace o_t2 := o_t2.below hb_z6
  replace o_w0 := o_w0.below hb_z6
  replace o_t3 := o_t3.below hb_z6
  replace o_t4 := o_t4.below hb_z6
  replace o_g0 := o_g0.below hb_z6
  replace o_t5 := o_t5.below hb_z6
  have B_z6 := B_w10.trans (hb_z6.mono B_w10.size)
  have sz_z6 := hb_z6.size
  have c_aM_0_w_z6 := x_aM.cell (i := 0) rfl
  have f_aM_0_w_z6 := x_aM.frozen 0
  have c_aM_1_w_z6 := x_aM.cell (i := 1) rfl
  have f_aM_1_w_z6 := x_aM.frozen 1
  have c_aM_2_w_z6 := x_aM.cell (i := 2) rfl
  have f_aM_2_w_z6 := x_aM.frozen 2
  have c_aM_3_w_z6 := x_aM.cell (i := 3) rfl
  have f_aM_3_w_z6 := x_aM.frozen 3
  go_wp2_with fail
  refine (eqByteS_same o_h0.rd o_w0.rd (by omega)).mono ?_
  rintro e w11 ⟨rfl, h_w11⟩
  clear c_aM_0_w_z6 f_aM_0_w_z6 c_aM_1_w_z6 f_aM_1_w_z6 c_aM_2_w_z6 f_aM_2_w_z6 c_aM_3_w_z6 f_aM_3_w_z6
  replace x_aM := x_aM.from_ h_w11
  replace o_t1 := o_t1.below h_w11
  replace o_t2 := o_t2.below h_w11
  replace o_w0 := o_w0.below h_w11
  replace o_t3 := o_t3.below h_w11
  replace o_t4 := o_t4.below h_w11
  replace o_g0 := o_g0.below h_w11
  replace o_t5 := o_t5.below h_w11
  replace o_t6 := o_t6.below h_w11
  replace o_t7 := o_t7.below h_w11
  replace o_h0 := o_h0.below h_w11
  have B_w11 := B_z6.trans (h_w11.mono B_z6.size)
  have s_w11 := h_w11.size
  have c_aM_0_w11 := x_aM.cell (i := 0) rfl
  have f_aM_0_w11 := x_aM.frozen 0
  have c_aM_1_w11 := x_aM.cell (i := 1) rfl
  have f_aM_1_w11 := x_aM.frozen 1
  have c_aM_2_w11 := x_aM.cell (i := 2) rfl
  have f_aM_2_w11 := x_aM.frozen 2
  have c_aM_3_w11 := x_aM.cell (i := 3) rfl
  have f_aM_3_w11 := x_aM.frozen 3
  go_wp2_with fail
  refine (heldByteS_c o_g0.rd (by omega) (by omega) (by omega)).mono ?_
  rintro e w12 ⟨rfl, h_w12⟩
  clear c_aM_0_w11 f_aM_0_w11 c_aM_1_w11 f_aM_1_w11 c_aM_2_w11 f_aM_2_w11 c_aM_3_w11 f_aM_3_w11
  replace x_aM := x_aM.from_ h_w12
  replace o_t1 := o_t1.below h_w12
  replace o_t2 := o_t2.below h_w12
  replace o_w0 := o_w0.below h_w12
  replace o_t3 := o_t3.below h_w12
  replace o_t4 := o_t4.below h_w12
  replace o_g0 := o_g0.below h_w12
  replace o_t5 := o_t5.below h_w12
  replace o_t6 := o_t6.below h_w12
  replace o_t7 := o_t7.below h_w12
  replace o_h0 := o_h0.below h_w12
  have B_w12 := B_w11.trans (h_w12.mono B_w11.size)
  have s_w12 := h_w12.size
  have c_aM_0_w12 := x_aM.cell (i := 0) rfl
  have f_aM_0_w12 := x_aM.frozen 0
  have c_aM_1_w12 := x_aM.cell (i := 1) rfl
  have f_aM_1_w12 := x_aM.frozen 1
  have c_aM_2_w12 := x_aM.cell (i := 2) rfl
  have f_aM_2_w12 := x_aM.frozen 2
  have c_aM_3_w12 := x_aM.cell (i := 3) rfl
  have f_aM_3_w12 := x_aM.frozen 3
  go_wp2
  go_ret
  exact ⟨rfl, B_w12⟩

end Go.Proofs.Ytdhphfmjekbmjaa
