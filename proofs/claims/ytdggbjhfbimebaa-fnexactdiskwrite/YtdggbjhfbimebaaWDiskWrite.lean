/- The walk of the law FnExactDiskWrite, laid by a program of ours (lawgen2.py) out of the law's text. -/
import Derived.Test.YtdggbjhfbimebaaDisk2
import Derived.Test.YtdggbjhfbimebaaDiskMath
namespace Go.Proofs.Ytdggbjhfbimebaa
open Go.RowKit
set_option linter.unusedVariables false

set_option maxRecDepth 100000 in
set_option maxHeartbeats 8000000 in
theorem wDiskWrite (v_aD : Value) (d : MDisk) (v_aB : Value) (b : List Int) (w : World) (r_aD : RV diskL w v_aD d) (r_aB : RS .u8 w v_aB b) :
    Calls Try.prog 5 #[v_aD, v_aB] w fun e w' => e = .returned (.bool true) ∧ Below w.heap.size w w' := by
  have h_aD := r_aD
  obtain ⟨ASure_aD, cSure_aD, ASoft_aD, cSoft_aD, rfl, -, -⟩ := rv_disk h_aD
  clear h_aD
  obtain ⟨AaB, caB, rfl, paB, qaB, hraB⟩ := r_aB
  have r_aB : RS .u8 w (.slice AaB b.length caB) b := ⟨_, _, rfl, paB, qaB, hraB⟩
  unfold maxLen at qaB
  obtain ⟨wa, hwa, B0, sa, x_aD⟩ := frame1 w 36 [.slice ASure_aD d.Sure.length cSure_aD, .slice ASoft_aD d.Soft.length cSoft_aD]
  have sa_1 := Nat.le_of_eq sa
  have sa_2 := Nat.le_of_eq sa.symm
  clear sa
  have c_aD_0_wa := x_aD.cell (i := 0) rfl
  have c_aD_1_wa := x_aD.cell (i := 1) rfl
  by_cases hbig_aB : 1048576 < b.length
  case pos =>
    have i0 : (1048576 : Int) < (b.length : Int) := by omega
    go_enter Try.func5, Try.ntmps5
    go_wp2
    go_ret
    exact ⟨rfl, B0⟩
  have hm_aB : b.length ≤ 1048576 := by omega
  by_cases hbig_aD : d.bulk ≤ 1048576
  case neg =>
    go_enter Try.func5, Try.ntmps5
    go_wp2_with fail
    refine (szDisk_c (r_aD.from_ B0) (by omega) (by omega)).mono ?_
    rintro e w1 ⟨rfl, h_w1⟩
    clear c_aD_0_wa c_aD_1_wa
    replace x_aD := x_aD.from_ h_w1
    have B_w1 := B0.trans (h_w1.mono B0.size)
    have s_w1 := h_w1.size
    rw [show szV (1048576) (d.bulk : Int) = -1 from if_neg (by omega)]
    have c_aD_0_w1 := x_aD.cell (i := 0) rfl
    have c_aD_1_w1 := x_aD.cell (i := 1) rfl
    go_wp2
    go_ret
    exact ⟨rfl, B_w1⟩
  obtain ⟨R0, hR0⟩ : ∃ R, diskWrite d b = R := ⟨_, rfl⟩
  have hl0 : R0.bulk ≤ 16777216 := by rw [← hR0]; exact Nat.le_trans (diskWrite_bulk d b) (by omega)
  have HR0 := Lib.hid hR0
  clear hR0
  obtain ⟨R1, hR1⟩ : ∃ R, diskWriteB d b = R := ⟨_, rfl⟩
  have HR1 := Lib.hid hR1
  clear hR1
  go_enter Try.func5, Try.ntmps5
  go_wp2_with fail
  refine (szDisk_c (r_aD.from_ B0) (by omega) (by omega)).mono ?_
  rintro e w1 ⟨rfl, h_w1⟩
  clear c_aD_0_wa c_aD_1_wa
  replace x_aD := x_aD.from_ h_w1
  have B_w1 := B0.trans (h_w1.mono B0.size)
  have s_w1 := h_w1.size
  rw [show szV (1048576) (d.bulk : Int) = 1048576 - (d.bulk : Int) from if_pos (by omega)]
  have gz0 : decide (1048576 - (d.bulk : Int) < 0) = false := decide_eq_false (by omega)
  have c_aD_0_w1 := x_aD.cell (i := 0) rfl
  have c_aD_1_w1 := x_aD.cell (i := 1) rfl
  go_wp2_with fail
  refine (toDisk_c (r_aD.from_ B_w1) (by omega)).mono ?_
  rintro e w2 ⟨v_t1, rfl, o_t1, h_w2⟩
  clear c_aD_0_w1 c_aD_1_w1
  replace x_aD := x_aD.from_ h_w2
  have B_w2 := B_w1.trans (h_w2.mono B_w1.size)
  have s_w2 := h_w2.size
  obtain ⟨ASure_t1, cSure_t1, ASoft_t1, cSoft_t1, rfl, -, -⟩ := rv_disk o_t1.rd
  have c_aD_0_w2 := x_aD.cell (i := 0) rfl
  have f_aD_0_w2 := x_aD.frozen 0
  have c_aD_1_w2 := x_aD.cell (i := 1) rfl
  have f_aD_1_w2 := x_aD.frozen 1
  go_wp2_with fail
  refine (toByteS_c (r_aB.from_ B_w2) (by omega)).mono ?_
  rintro e w3 ⟨v_t2, rfl, o_t2, h_w3⟩
  clear c_aD_0_w2 f_aD_0_w2 c_aD_1_w2 f_aD_1_w2
  replace x_aD := x_aD.from_ h_w3
  replace o_t1 := o_t1.below h_w3
  have B_w3 := B_w2.trans (h_w3.mono B_w2.size)
  have s_w3 := h_w3.size
  obtain ⟨At2, ct2, rfl, -, -, -⟩ := o_t2.rd
  have c_aD_0_w3 := x_aD.cell (i := 0) rfl
  have f_aD_0_w3 := x_aD.frozen 0
  have c_aD_1_w3 := x_aD.cell (i := 1) rfl
  have f_aD_1_w3 := x_aD.frozen 1
  go_wp2_with fail
  refine (sDiskWrite_c o_t1.rd o_t2.rd (by omega) (by omega)).mono ?_
  rintro e w4 ⟨v_w0, rfl, o_w0, h_w4⟩
  clear c_aD_0_w3 f_aD_0_w3 c_aD_1_w3 f_aD_1_w3
  replace x_aD := x_aD.from_ h_w4
  replace o_t1 := o_t1.below h_w4
  replace o_t2 := o_t2.below h_w4
  have B_w4 := B_w3.trans (h_w4.mono B_w3.size)
  have s_w4 := h_w4.size
  rw [HR0.out] at o_w0
  rw [HR1.out]
  obtain ⟨ASure_w0, cSure_w0, ASoft_w0, cSoft_w0, rfl, -, -⟩ := rv_disk o_w0.rd
  have c_aD_0_w4 := x_aD.cell (i := 0) rfl
  have f_aD_0_w4 := x_aD.frozen 0
  have c_aD_1_w4 := x_aD.cell (i := 1) rfl
  have f_aD_1_w4 := x_aD.frozen 1
  obtain ⟨w5, e_w5, s_w5, h_w5, x_w0⟩ := alloc_step w4 25 [.slice ASure_w0 R0.Sure.length cSure_w0, .slice ASoft_w0 R0.Soft.length cSoft_w0]
  have s_w5_1 := Nat.le_of_eq s_w5
  have s_w5_2 := Nat.le_of_eq s_w5.symm
  clear s_w5
  replace x_aD := x_aD.from_ h_w5
  replace o_t1 := o_t1.below h_w5
  replace o_t2 := o_t2.below h_w5
  replace o_w0 := o_w0.below h_w5
  have B_w5 := B_w4.trans (h_w5.mono B_w4.size)
  have c_aD_0_w5 := x_aD.cell (i := 0) rfl
  have f_aD_0_w5 := x_aD.frozen 0
  have c_aD_1_w5 := x_aD.cell (i := 1) rfl
  have f_aD_1_w5 := x_aD.frozen 1
  have c_w0_0_w5 := x_w0.cell (i := 0) rfl
  have f_w0_0_w5 := x_w0.frozen 0
  have c_w0_1_w5 := x_w0.cell (i := 1) rfl
  have f_w0_1_w5 := x_w0.frozen 1
  go_wp2_with fail
  refine (toDisk_c (r_aD.from_ B_w5) (by omega)).mono ?_
  rintro e w6 ⟨v_t3, rfl, o_t3, h_w6⟩
  clear c_aD_0_w4 f_aD_0_w4 c_aD_1_w4 f_aD_1_w4 c_aD_0_w5 f_aD_0_w5 c_aD_1_w5 f_aD_1_w5 c_w0_0_w5 f_w0_0_w5 c_w0_1_w5 f_w0_1_w5
  replace x_aD := x_aD.from_ h_w6
  replace x_w0 := x_w0.from_ h_w6
  replace o_t1 := o_t1.below h_w6
  replace o_t2 := o_t2.below h_w6
  replace o_w0 := o_w0.below h_w6
  have B_w6 := B_w5.trans (h_w6.mono B_w5.size)
  have s_w6 := h_w6.size
  obtain ⟨ASure_t3, cSure_t3, ASoft_t3, cSoft_t3, rfl, -, -⟩ := rv_disk o_t3.rd
  have c_aD_0_w6 := x_aD.cell (i := 0) rfl
  have f_aD_0_w6 := x_aD.frozen 0
  have c_aD_1_w6 := x_aD.cell (i := 1) rfl
  have f_aD_1_w6 := x_aD.frozen 1
  have c_w0_0_w6 := x_w0.cell (i := 0) rfl
  have f_w0_0_w6 := x_w0.frozen 0
  have c_w0_1_w6 := x_w0.cell (i := 1) rfl
  have f_w0_1_w6 := x_w0.frozen 1
  obtain ⟨w7, e_w7, s_w7, h_w7, x_x0⟩ := alloc_step w6 25 [.slice ASure_t3 d.Sure.length cSure_t3, .slice ASoft_t3 d.Soft.length cSoft_t3]
  have s_w7_1 := Nat.le_of_eq s_w7
  have s_w7_2 := Nat.le_of_eq s_w7.symm
  clear s_w7
  replace x_aD := x_aD.from_ h_w7
  replace x_w0 := x_w0.from_ h_w7
  replace o_t1 := o_t1.below h_w7
  replace o_t2 := o_t2.below h_w7
  replace o_w0 := o_w0.below h_w7
  replace o_t3 := o_t3.below h_w7
  have B_w7 := B_w6.trans (h_w7.mono B_w6.size)
  have c_aD_0_w7 := x_aD.cell (i := 0) rfl
  have f_aD_0_w7 := x_aD.frozen 0
  have c_aD_1_w7 := x_aD.cell (i := 1) rfl
  have f_aD_1_w7 := x_aD.frozen 1
  have c_w0_0_w7 := x_w0.cell (i := 0) rfl
  have f_w0_0_w7 := x_w0.frozen 0
  have c_w0_1_w7 := x_w0.cell (i := 1) rfl
  have f_w0_1_w7 := x_w0.frozen 1
  have c_x0_0_w7 := x_x0.cell (i := 0) rfl
  have f_x0_0_w7 := x_x0.frozen 0
  have c_x0_1_w7 := x_x0.cell (i := 1) rfl
  have f_x0_1_w7 := x_x0.frozen 1
  go_wp2_with fail
  refine (toByteS_c (r_aB.from_ B_w7) (by omega)).mono ?_
  rintro e w8 ⟨v_t4, rfl, o_t4, h_w8⟩
  clear c_aD_0_w6 f_aD_0_w6 c_aD_1_w6 f_aD_1_w6 c_w0_0_w6 f_w0_0_w6 c_w0_1_w6 f_w0_1_w6 c_aD_0_w7 f_aD_0_w7 c_aD_1_w7 f_aD_1_w7 c_w0_0_w7 f_w0_0_w7 c_w0_1_w7 f_w0_1_w7 c_x0_0_w7 f_x0_0_w7 c_x0_1_w7 f_x0_1_w7
  replace x_aD := x_aD.from_ h_w8
  replace x_w0 := x_w0.from_ h_w8
  replace x_x0 := x_x0.from_ h_w8
  replace o_t1 := o_t1.below h_w8
  replace o_t2 := o_t2.below h_w8
  replace o_w0 := o_w0.below h_w8
  replace o_t3 := o_t3.below h_w8
  have B_w8 := B_w7.trans (h_w8.mono B_w7.size)
  have s_w8 := h_w8.size
  obtain ⟨At4, ct4, rfl, -, -, -⟩ := o_t4.rd
  have c_aD_0_w8 := x_aD.cell (i := 0) rfl
  have f_aD_0_w8 := x_aD.frozen 0
  have c_aD_1_w8 := x_aD.cell (i := 1) rfl
  have f_aD_1_w8 := x_aD.frozen 1
  have c_w0_0_w8 := x_w0.cell (i := 0) rfl
  have f_w0_0_w8 := x_w0.frozen 0
  have c_w0_1_w8 := x_w0.cell (i := 1) rfl
  have f_w0_1_w8 := x_w0.frozen 1
  have c_x0_0_w8 := x_x0.cell (i := 0) rfl
  have f_x0_0_w8 := x_x0.frozen 0
  have c_x0_1_w8 := x_x0.cell (i := 1) rfl
  have f_x0_1_w8 := x_x0.frozen 1
  go_wp2_with fail
  refine (iDiskWrite_c o_t3.rd o_t4.rd (by omega) (by omega)).mono ?_
  rintro e w9 ⟨v_g0, rfl, o_g0, h_w9⟩
  clear c_aD_0_w8 f_aD_0_w8 c_aD_1_w8 f_aD_1_w8 c_w0_0_w8 f_w0_0_w8 c_w0_1_w8 f_w0_1_w8 c_x0_0_w8 f_x0_0_w8 c_x0_1_w8 f_x0_1_w8
  replace x_aD := x_aD.from_ h_w9
  replace x_w0 := x_w0.from_ h_w9
  replace x_x0 := x_x0.from_ h_w9
  replace o_t1 := o_t1.below h_w9
  replace o_t2 := o_t2.below h_w9
  replace o_w0 := o_w0.below h_w9
  replace o_t3 := o_t3.below h_w9
  replace o_t4 := o_t4.below h_w9
  have B_w9 := B_w8.trans (h_w9.mono B_w8.size)
  have s_w9 := h_w9.size
  rw [HR0.out] at o_g0
  rw [HR1.out]
  obtain ⟨ASure_g0, cSure_g0, ASoft_g0, cSoft_g0, rfl, -, -⟩ := rv_disk o_g0.rd
  have c_aD_0_w9 := x_aD.cell (i := 0) rfl
  have f_aD_0_w9 := x_aD.frozen 0
  have c_aD_1_w9 := x_aD.cell (i := 1) rfl
  have f_aD_1_w9 := x_aD.frozen 1
  have c_w0_0_w9 := x_w0.cell (i := 0) rfl
  have f_w0_0_w9 := x_w0.frozen 0
  have c_w0_1_w9 := x_w0.cell (i := 1) rfl
  have f_w0_1_w9 := x_w0.frozen 1
  have c_x0_0_w9 := x_x0.cell (i := 0) rfl
  have f_x0_0_w9 := x_x0.frozen 0
  have c_x0_1_w9 := x_x0.cell (i := 1) rfl
  have f_x0_1_w9 := x_x0.frozen 1
  obtain ⟨w10, e_w10, s_w10, h_w10, x_g0⟩ := alloc_step w9 25 [.slice ASure_g0 R0.Sure.length cSure_g0, .slice ASoft_g0 R0.Soft.length cSoft_g0]
  have s_w10_1 := Nat.le_of_eq s_w10
  have s_w10_2 := Nat.le_of_eq s_w10.symm
  clear s_w10
  replace x_aD := x_aD.from_ h_w10
  replace x_w0 := x_w0.from_ h_w10
  replace x_x0 := x_x0.from_ h_w10
  replace o_t1 := o_t1.below h_w10
  replace o_t2 := o_t2.below h_w10
  replace o_w0 := o_w0.below h_w10
  replace o_t3 := o_t3.below h_w10
  replace o_t4 := o_t4.below h_w10
  replace o_g0 := o_g0.below h_w10
  have B_w10 := B_w9.trans (h_w10.mono B_w9.size)
  have c_aD_0_w10 := x_aD.cell (i := 0) rfl
  have f_aD_0_w10 := x_aD.frozen 0
  have c_aD_1_w10 := x_aD.cell (i := 1) rfl
  have f_aD_1_w10 := x_aD.frozen 1
  have c_w0_0_w10 := x_w0.cell (i := 0) rfl
  have f_w0_0_w10 := x_w0.frozen 0
  have c_w0_1_w10 := x_w0.cell (i := 1) rfl
  have f_w0_1_w10 := x_w0.frozen 1
  have c_x0_0_w10 := x_x0.cell (i := 0) rfl
  have f_x0_0_w10 := x_x0.frozen 0
  have c_x0_1_w10 := x_x0.cell (i := 1) rfl
  have f_x0_1_w10 := x_x0.frozen 1
  have c_g0_0_w10 := x_g0.cell (i := 0) rfl
  have f_g0_0_w10 := x_g0.frozen 0
  have c_g0_1_w10 := x_g0.cell (i := 1) rfl
  have f_g0_1_w10 := x_g0.frozen 1
  go_wp2_with fail
  refine (eqDisk_same o_g0.rd o_w0.rd (by omega)).mono ?_
  rintro e w11 ⟨rfl, h_w11⟩
  clear c_aD_0_w9 f_aD_0_w9 c_aD_1_w9 f_aD_1_w9 c_w0_0_w9 f_w0_0_w9 c_w0_1_w9 f_w0_1_w9 c_x0_0_w9 f_x0_0_w9 c_x0_1_w9 f_x0_1_w9 c_aD_0_w10 f_aD_0_w10 c_aD_1_w10 f_aD_1_w10 c_w0_0_w10 f_w0_0_w10 c_w0_1_w10 f_w0_1_w10 c_x0_0_w10 f_x0_0_w10 c_x0_1_w10 f_x0_1_w10 c_g0_0_w10 f_g0_0_w10 c_g0_1_w10 f_g0_1_w10
  replace x_aD := x_aD.from_ h_w11
  replace x_w0 := x_w0.from_ h_w11
  replace x_x0 := x_x0.from_ h_w11
  replace x_g0 := x_g0.from_ h_w11
  replace o_t1 := o_t1.below h_w11
  replace o_t2 := o_t2.below h_w11
  replace o_w0 := o_w0.below h_w11
  replace o_t3 := o_t3.below h_w11
  replace o_t4 := o_t4.below h_w11
  replace o_g0 := o_g0.below h_w11
  have B_w11 := B_w10.trans (h_w11.mono B_w10.size)
  have s_w11 := h_w11.size
  have c_aD_0_w11 := x_aD.cell (i := 0) rfl
  have f_aD_0_w11 := x_aD.frozen 0
  have c_aD_1_w11 := x_aD.cell (i := 1) rfl
  have f_aD_1_w11 := x_aD.frozen 1
  have c_w0_0_w11 := x_w0.cell (i := 0) rfl
  have f_w0_0_w11 := x_w0.frozen 0
  have c_w0_1_w11 := x_w0.cell (i := 1) rfl
  have f_w0_1_w11 := x_w0.frozen 1
  have c_x0_0_w11 := x_x0.cell (i := 0) rfl
  have f_x0_0_w11 := x_x0.frozen 0
  have c_x0_1_w11 := x_x0.cell (i := 1) rfl
  have f_x0_1_w11 := x_x0.frozen 1
  have c_g0_0_w11 := x_g0.cell (i := 0) rfl
  have f_g0_0_w11 := x_g0.frozen 0
  have c_g0_1_w11 := x_g0.cell (i := 1) rfl
  have f_g0_1_w11 := x_g0.frozen 1
  go_wp2_with fail
  go_region_held3 (fun w' => w'.cell? ⟨w6.heap.size, 0, none⟩ = some (.slice ASure_t3 d.Sure.length cSure_t3) ∧ w'.cell? ⟨w6.heap.size, 1, none⟩ = some (.slice ASoft_t3 d.Soft.length cSoft_t3) ∧ w'.cell? ⟨w.heap.size, 0, none⟩ = some (.slice ASure_aD d.Sure.length cSure_aD) ∧ w'.cell? ⟨w.heap.size, 1, none⟩ = some (.slice ASoft_aD d.Soft.length cSoft_aD))
    (first | exact ⟨c_x0_0_w11, c_x0_1_w11, c_aD_0_w11, c_aD_1_w11⟩ | exact ⟨qz1_x0_0, qz1_x0_1, qz1_aD_0, qz1_aD_1⟩ | exact ⟨qz2_x0_0, qz2_x0_1, qz2_aD_0, qz2_aD_1⟩ | go_keep)
    (first | ((go_at_call 23); (refine (toDisk_c (r_aD.from_ (B_w11.drew)) (by omega)).mono ?_); rintro e w_z1 ⟨v_t5, rfl, o_t5, hd_z1⟩; have hb_z1 : Below w11.heap.size w11 w_z1 := (Below.refl w11.heap.size w11).drew.trans hd_z1; have sd_z1 := hd_z1.size; replace sd_z1 : w11.heap.size ≤ w_z1.heap.size := sd_z1; have qz1_x0_0 := (x_x0.from_ hb_z1).cell (i := 0) rfl; have qz1_x0_1 := (x_x0.from_ hb_z1).cell (i := 1) rfl; have qz1_aD_0 := (x_aD.from_ hb_z1).cell (i := 0) rfl; have qz1_aD_1 := (x_aD.from_ hb_z1).cell (i := 1) rfl; obtain ⟨ASure_t5, cSure_t5, ASoft_t5, cSoft_t5, rfl, -, -⟩ := rv_disk o_t5.rd)
           | ((go_at_call 24); (refine (eqDisk_same (o_t3.below hb_z1).rd o_t5.rd (by omega)).mono ?_); rintro e w_z2 ⟨rfl, hd_z2⟩; have hb_z2 : Below w11.heap.size w11 w_z2 := hb_z1.trans (hd_z2.mono hb_z1.size); have sd_z2 := hd_z2.size; have qz2_x0_0 := (x_x0.from_ hb_z2).cell (i := 0) rfl; have qz2_x0_1 := (x_x0.from_ hb_z2).cell (i := 1) rfl; have qz2_aD_0 := (x_aD.from_ hb_z2).cell (i := 0) rfl; have qz2_aD_1 := (x_aD.from_ hb_z2).cell (i := 1) rfl; replace o_t5 := o_t5.below hd_z2)
           | fail)
  clear c_aD_0_w11 f_aD_0_w11 c_aD_1_w11 f_aD_1_w11 c_w0_0_w11 f_w0_0_w11 c_w0_1_w11 f_w0_1_w11 c_x0_0_w11 f_x0_0_w11 c_x0_1_w11 f_x0_1_w11 c_g0_0_w11 f_g0_0_w11 c_g0_1_w11 f_g0_1_w11
  have dz_w11 : w11.drew.heap.size = w11.heap.size := rfl
  replace x_aD := x_aD.from_ hb_z2
  replace x_w0 := x_w0.from_ hb_z2
  replace x_x0 := x_x0.from_ hb_z2
  replace x_g0 := x_g0.from_ hb_z2
  replace o_t1 := o_t1.below hb_z2
  replace o_t2 := o_t2.below hb_z2
  replace o_w0 := o_w0.below hb_z2
  replace o_t3 := o_t3.below hb_z2
  replace o_t4 := o_t4.below hb_z2
  replace o_g0 := o_g0.below hb_z2
  have B_z2 := B_w11.trans (hb_z2.mono B_w11.size)
  have sz_z2 := hb_z2.size
  have c_aD_0_w_z2 := x_aD.cell (i := 0) rfl
  have f_aD_0_w_z2 := x_aD.frozen 0
  have c_aD_1_w_z2 := x_aD.cell (i := 1) rfl
  have f_aD_1_w_z2 := x_aD.frozen 1
  have c_w0_0_w_z2 := x_w0.cell (i := 0) rfl
  have f_w0_0_w_z2 := x_w0.frozen 0
  have c_w0_1_w_z2 := x_w0.cell (i := 1) rfl
  have f_w0_1_w_z2 := x_w0.frozen 1
  have c_x0_0_w_z2 := x_x0.cell (i := 0) rfl
  have f_x0_0_w_z2 := x_x0.frozen 0
  have c_x0_1_w_z2 := x_x0.cell (i := 1) rfl
  have f_x0_1_w_z2 := x_x0.frozen 1
  have c_g0_0_w_z2 := x_g0.cell (i := 0) rfl
  have f_g0_0_w_z2 := x_g0.frozen 0
  have c_g0_1_w_z2 := x_g0.cell (i := 1) rfl
  have f_g0_1_w_z2 := x_g0.frozen 1
  go_wp2_with fail
  refine (toByteS_c (r_aB.from_ B_z2) (by omega)).mono ?_
  rintro e w12 ⟨v_t6, rfl, o_t6, h_w12⟩
  clear c_aD_0_w_z2 f_aD_0_w_z2 c_aD_1_w_z2 f_aD_1_w_z2 c_w0_0_w_z2 f_w0_0_w_z2 c_w0_1_w_z2 f_w0_1_w_z2 c_x0_0_w_z2 f_x0_0_w_z2 c_x0_1_w_z2 f_x0_1_w_z2 c_g0_0_w_z2 f_g0_0_w_z2 c_g0_1_w_z2 f_g0_1_w_z2
  replace x_aD := x_aD.from_ h_w12
  replace x_w0 := x_w0.from_ h_w12
  replace x_x0 := x_x0.from_ h_w12
  replace x_g0 := x_g0.from_ h_w12
  replace o_t1 := o_t1.below h_w12
  replace o_t2 := o_t2.below h_w12
  replace o_w0 := o_w0.below h_w12
  replace o_t3 := o_t3.below h_w12
  replace o_t4 := o_t4.below h_w12
  replace o_g0 := o_g0.below h_w12
  have B_w12 := B_z2.trans (h_w12.mono B_z2.size)
  have s_w12 := h_w12.size
  obtain ⟨At6, ct6, rfl, -, -, -⟩ := o_t6.rd
  have c_aD_0_w12 := x_aD.cell (i := 0) rfl
  have f_aD_0_w12 := x_aD.frozen 0
  have c_aD_1_w12 := x_aD.cell (i := 1) rfl
  have f_aD_1_w12 := x_aD.frozen 1
  have c_w0_0_w12 := x_w0.cell (i := 0) rfl
  have f_w0_0_w12 := x_w0.frozen 0
  have c_w0_1_w12 := x_w0.cell (i := 1) rfl
  have f_w0_1_w12 := x_w0.frozen 1
  have c_x0_0_w12 := x_x0.cell (i := 0) rfl
  have f_x0_0_w12 := x_x0.frozen 0
  have c_x0_1_w12 := x_x0.cell (i := 1) rfl
  have f_x0_1_w12 := x_x0.frozen 1
  have c_g0_0_w12 := x_g0.cell (i := 0) rfl
  have f_g0_0_w12 := x_g0.frozen 0
  have c_g0_1_w12 := x_g0.cell (i := 1) rfl
  have f_g0_1_w12 := x_g0.frozen 1
  go_wp2_with fail
  refine (eqByteS_same o_t4.rd o_t6.rd (by omega)).mono ?_
  rintro e w13 ⟨rfl, h_w13⟩
  clear c_aD_0_w12 f_aD_0_w12 c_aD_1_w12 f_aD_1_w12 c_w0_0_w12 f_w0_0_w12 c_w0_1_w12 f_w0_1_w12 c_x0_0_w12 f_x0_0_w12 c_x0_1_w12 f_x0_1_w12 c_g0_0_w12 f_g0_0_w12 c_g0_1_w12 f_g0_1_w12
  replace x_aD := x_aD.from_ h_w13
  replace x_w0 := x_w0.from_ h_w13
  replace x_x0 := x_x0.from_ h_w13
  replace x_g0 := x_g0.from_ h_w13
  replace o_t1 := o_t1.below h_w13
  replace o_t2 := o_t2.below h_w13
  replace o_w0 := o_w0.below h_w13
  replace o_t3 := o_t3.below h_w13
  replace o_t4 := o_t4.below h_w13
  replace o_g0 := o_g0.below h_w13
  replace o_t6 := o_t6.below h_w13
  have B_w13 := B_w12.trans (h_w13.mono B_w12.size)
  have s_w13 := h_w13.size
  have c_aD_0_w13 := x_aD.cell (i := 0) rfl
  have f_aD_0_w13 := x_aD.frozen 0
  have c_aD_1_w13 := x_aD.cell (i := 1) rfl
  have f_aD_1_w13 := x_aD.frozen 1
  have c_w0_0_w13 := x_w0.cell (i := 0) rfl
  have f_w0_0_w13 := x_w0.frozen 0
  have c_w0_1_w13 := x_w0.cell (i := 1) rfl
  have f_w0_1_w13 := x_w0.frozen 1
  have c_x0_0_w13 := x_x0.cell (i := 0) rfl
  have f_x0_0_w13 := x_x0.frozen 0
  have c_x0_1_w13 := x_x0.cell (i := 1) rfl
  have f_x0_1_w13 := x_x0.frozen 1
  have c_g0_0_w13 := x_g0.cell (i := 0) rfl
  have f_g0_0_w13 := x_g0.frozen 0
  have c_g0_1_w13 := x_g0.cell (i := 1) rfl
  have f_g0_1_w13 := x_g0.frozen 1
  go_wp2_with fail
  refine (markDisk_c o_t3 (by omega) (by omega) (by omega)).mono ?_
  rintro e w14 ⟨rfl, y, h_w14⟩
  clear c_aD_0_w13 f_aD_0_w13 c_aD_1_w13 f_aD_1_w13 c_w0_0_w13 f_w0_0_w13 c_w0_1_w13 f_w0_1_w13 c_x0_0_w13 f_x0_0_w13 c_x0_1_w13 f_x0_1_w13 c_g0_0_w13 f_g0_0_w13 c_g0_1_w13 f_g0_1_w13
  replace x_aD := x_aD.chg h_w14 (by omega)
  replace x_w0 := x_w0.chg h_w14 (by omega)
  replace x_x0 := x_x0.chg h_w14 (by omega)
  replace x_g0 := x_g0.chg h_w14 (by omega)
  replace o_t1 := o_t1.chg h_w14 (by omega)
  replace o_t2 := o_t2.chg h_w14 (by omega)
  replace o_w0 := o_w0.chg h_w14 (by omega)
  replace o_t4 := o_t4.chg h_w14 (by omega)
  replace o_g0 := o_g0.chg h_w14 (by omega)
  replace o_t6 := o_t6.chg h_w14 (by omega)
  have B_w14 := Below.chg_ B_w13 h_w14 (by omega) (by omega)
  have s_w14 := h_w14.size
  replace o_t3 := y
  clear y
  have c_aD_0_w14 := x_aD.cell (i := 0) rfl
  have f_aD_0_w14 := x_aD.frozen 0
  have c_aD_1_w14 := x_aD.cell (i := 1) rfl
  have f_aD_1_w14 := x_aD.frozen 1
  have c_w0_0_w14 := x_w0.cell (i := 0) rfl
  have f_w0_0_w14 := x_w0.frozen 0
  have c_w0_1_w14 := x_w0.cell (i := 1) rfl
  have f_w0_1_w14 := x_w0.frozen 1
  have c_x0_0_w14 := x_x0.cell (i := 0) rfl
  have f_x0_0_w14 := x_x0.frozen 0
  have c_x0_1_w14 := x_x0.cell (i := 1) rfl
  have f_x0_1_w14 := x_x0.frozen 1
  have c_g0_0_w14 := x_g0.cell (i := 0) rfl
  have f_g0_0_w14 := x_g0.frozen 0
  have c_g0_1_w14 := x_g0.cell (i := 1) rfl
  have f_g0_1_w14 := x_g0.frozen 1
  go_wp2_with fail
  refine (markByteS_c o_t4 (by omega) (by omega) (by omega)).mono ?_
  rintro e w15 ⟨rfl, y, h_w15⟩
  clear c_aD_0_w14 f_aD_0_w14 c_aD_1_w14 f_aD_1_w14 c_w0_0_w14 f_w0_0_w14 c_w0_1_w14 f_w0_1_w14 c_x0_0_w14 f_x0_0_w14 c_x0_1_w14 f_x0_1_w14 c_g0_0_w14 f_g0_0_w14 c_g0_1_w14 f_g0_1_w14
  replace x_aD := x_aD.chg h_w15 (by omega)
  replace x_w0 := x_w0.chg h_w15 (by omega)
  replace x_x0 := x_x0.chg h_w15 (by omega)
  replace x_g0 := x_g0.chg h_w15 (by omega)
  replace o_t1 := o_t1.chg h_w15 (by omega)
  replace o_t2 := o_t2.chg h_w15 (by omega)
  replace o_w0 := o_w0.chg h_w15 (by omega)
  replace o_t3 := o_t3.chg h_w15 (by omega)
  replace o_g0 := o_g0.chg h_w15 (by omega)
  replace o_t6 := o_t6.chg h_w15 (by omega)
  have B_w15 := Below.chg_ B_w14 h_w15 (by omega) (by omega)
  have s_w15 := h_w15.size
  replace o_t4 := y
  clear y
  have c_aD_0_w15 := x_aD.cell (i := 0) rfl
  have f_aD_0_w15 := x_aD.frozen 0
  have c_aD_1_w15 := x_aD.cell (i := 1) rfl
  have f_aD_1_w15 := x_aD.frozen 1
  have c_w0_0_w15 := x_w0.cell (i := 0) rfl
  have f_w0_0_w15 := x_w0.frozen 0
  have c_w0_1_w15 := x_w0.cell (i := 1) rfl
  have f_w0_1_w15 := x_w0.frozen 1
  have c_x0_0_w15 := x_x0.cell (i := 0) rfl
  have f_x0_0_w15 := x_x0.frozen 0
  have c_x0_1_w15 := x_x0.cell (i := 1) rfl
  have f_x0_1_w15 := x_x0.frozen 1
  have c_g0_0_w15 := x_g0.cell (i := 0) rfl
  have f_g0_0_w15 := x_g0.frozen 0
  have c_g0_1_w15 := x_g0.cell (i := 1) rfl
  have f_g0_1_w15 := x_g0.frozen 1
  go_wp2_with fail
  refine (eqDisk_same o_g0.rd o_w0.rd (by omega)).mono ?_
  rintro e w16 ⟨rfl, h_w16⟩
  clear c_aD_0_w15 f_aD_0_w15 c_aD_1_w15 f_aD_1_w15 c_w0_0_w15 f_w0_0_w15 c_w0_1_w15 f_w0_1_w15 c_x0_0_w15 f_x0_0_w15 c_x0_1_w15 f_x0_1_w15 c_g0_0_w15 f_g0_0_w15 c_g0_1_w15 f_g0_1_w15
  replace x_aD := x_aD.from_ h_w16
  replace x_w0 := x_w0.from_ h_w16
  replace x_x0 := x_x0.from_ h_w16
  replace x_g0 := x_g0.from_ h_w16
  replace o_t1 := o_t1.below h_w16
  replace o_t2 := o_t2.below h_w16
  replace o_w0 := o_w0.below h_w16
  replace o_t3 := o_t3.below h_w16
  replace o_t4 := o_t4.below h_w16
  replace o_g0 := o_g0.below h_w16
  replace o_t6 := o_t6.below h_w16
  have B_w16 := B_w15.trans (h_w16.mono B_w15.size)
  have s_w16 := h_w16.size
  have c_aD_0_w16 := x_aD.cell (i := 0) rfl
  have f_aD_0_w16 := x_aD.frozen 0
  have c_aD_1_w16 := x_aD.cell (i := 1) rfl
  have f_aD_1_w16 := x_aD.frozen 1
  have c_w0_0_w16 := x_w0.cell (i := 0) rfl
  have f_w0_0_w16 := x_w0.frozen 0
  have c_w0_1_w16 := x_w0.cell (i := 1) rfl
  have f_w0_1_w16 := x_w0.frozen 1
  have c_x0_0_w16 := x_x0.cell (i := 0) rfl
  have f_x0_0_w16 := x_x0.frozen 0
  have c_x0_1_w16 := x_x0.cell (i := 1) rfl
  have f_x0_1_w16 := x_x0.frozen 1
  have c_g0_0_w16 := x_g0.cell (i := 0) rfl
  have f_g0_0_w16 := x_g0.frozen 0
  have c_g0_1_w16 := x_g0.cell (i := 1) rfl
  have f_g0_1_w16 := x_g0.frozen 1
  go_wp2_with fail
  refine (markDisk_c o_g0 (by omega) (by omega) (by omega)).mono ?_
  rintro e w17 ⟨rfl, y, h_w17⟩
  clear c_aD_0_w16 f_aD_0_w16 c_aD_1_w16 f_aD_1_w16 c_w0_0_w16 f_w0_0_w16 c_w0_1_w16 f_w0_1_w16 c_x0_0_w16 f_x0_0_w16 c_x0_1_w16 f_x0_1_w16 c_g0_0_w16 f_g0_0_w16 c_g0_1_w16 f_g0_1_w16
  replace x_aD := x_aD.chg h_w17 (by omega)
  replace x_w0 := x_w0.chg h_w17 (by omega)
  replace x_x0 := x_x0.chg h_w17 (by omega)
  replace x_g0 := x_g0.chg h_w17 (by omega)
  replace o_t1 := o_t1.chg h_w17 (by omega)
  replace o_t2 := o_t2.chg h_w17 (by omega)
  replace o_w0 := o_w0.chg h_w17 (by omega)
  replace o_t3 := o_t3.chg h_w17 (by omega)
  replace o_t4 := o_t4.chg h_w17 (by omega)
  replace o_t6 := o_t6.chg h_w17 (by omega)
  have B_w17 := Below.chg_ B_w16 h_w17 (by omega) (by omega)
  have s_w17 := h_w17.size
  replace o_g0 := y
  clear y
  have c_aD_0_w17 := x_aD.cell (i := 0) rfl
  have f_aD_0_w17 := x_aD.frozen 0
  have c_aD_1_w17 := x_aD.cell (i := 1) rfl
  have f_aD_1_w17 := x_aD.frozen 1
  have c_w0_0_w17 := x_w0.cell (i := 0) rfl
  have f_w0_0_w17 := x_w0.frozen 0
  have c_w0_1_w17 := x_w0.cell (i := 1) rfl
  have f_w0_1_w17 := x_w0.frozen 1
  have c_x0_0_w17 := x_x0.cell (i := 0) rfl
  have f_x0_0_w17 := x_x0.frozen 0
  have c_x0_1_w17 := x_x0.cell (i := 1) rfl
  have f_x0_1_w17 := x_x0.frozen 1
  have c_g0_0_w17 := x_g0.cell (i := 0) rfl
  have f_g0_0_w17 := x_g0.frozen 0
  have c_g0_1_w17 := x_g0.cell (i := 1) rfl
  have f_g0_1_w17 := x_g0.frozen 1
  go_wp2_with fail
  refine (heldDisk_c o_g0.rd (by omega) (by omega) (by omega)).mono ?_
  rintro e w18 ⟨rfl, h_w18⟩
  clear c_aD_0_w17 f_aD_0_w17 c_aD_1_w17 f_aD_1_w17 c_w0_0_w17 f_w0_0_w17 c_w0_1_w17 f_w0_1_w17 c_x0_0_w17 f_x0_0_w17 c_x0_1_w17 f_x0_1_w17 c_g0_0_w17 f_g0_0_w17 c_g0_1_w17 f_g0_1_w17
  replace x_aD := x_aD.from_ h_w18
  replace x_w0 := x_w0.from_ h_w18
  replace x_x0 := x_x0.from_ h_w18
  replace x_g0 := x_g0.from_ h_w18
  replace o_t1 := o_t1.below h_w18
  replace o_t2 := o_t2.below h_w18
  replace o_w0 := o_w0.below h_w18
  replace o_t3 := o_t3.below h_w18
  replace o_t4 := o_t4.below h_w18
  replace o_g0 := o_g0.below h_w18
  replace o_t6 := o_t6.below h_w18
  have B_w18 := B_w17.trans (h_w18.mono B_w17.size)
  have s_w18 := h_w18.size
  have c_aD_0_w18 := x_aD.cell (i := 0) rfl
  have f_aD_0_w18 := x_aD.frozen 0
  have c_aD_1_w18 := x_aD.cell (i := 1) rfl
  have f_aD_1_w18 := x_aD.frozen 1
  have c_w0_0_w18 := x_w0.cell (i := 0) rfl
  have f_w0_0_w18 := x_w0.frozen 0
  have c_w0_1_w18 := x_w0.cell (i := 1) rfl
  have f_w0_1_w18 := x_w0.frozen 1
  have c_x0_0_w18 := x_x0.cell (i := 0) rfl
  have f_x0_0_w18 := x_x0.frozen 0
  have c_x0_1_w18 := x_x0.cell (i := 1) rfl
  have f_x0_1_w18 := x_x0.frozen 1
  have c_g0_0_w18 := x_g0.cell (i := 0) rfl
  have f_g0_0_w18 := x_g0.frozen 0
  have c_g0_1_w18 := x_g0.cell (i := 1) rfl
  have f_g0_1_w18 := x_g0.frozen 1
  go_wp2_with fail
  refine (toDisk_c (r_aD.from_ B_w18) (by omega)).mono ?_
  rintro e w19 ⟨v_t7, rfl, o_t7, h_w19⟩
  clear c_aD_0_w18 f_aD_0_w18 c_aD_1_w18 f_aD_1_w18 c_w0_0_w18 f_w0_0_w18 c_w0_1_w18 f_w0_1_w18 c_x0_0_w18 f_x0_0_w18 c_x0_1_w18 f_x0_1_w18 c_g0_0_w18 f_g0_0_w18 c_g0_1_w18 f_g0_1_w18
  replace x_aD := x_aD.from_ h_w19
  replace x_w0 := x_w0.from_ h_w19
  replace x_x0 := x_x0.from_ h_w19
  replace x_g0 := x_g0.from_ h_w19
  replace o_t1 := o_t1.below h_w19
  replace o_t2 := o_t2.below h_w19
  replace o_w0 := o_w0.below h_w19
  replace o_t3 := o_t3.below h_w19
  replace o_t4 := o_t4.below h_w19
  replace o_g0 := o_g0.below h_w19
  replace o_t6 := o_t6.below h_w19
  have B_w19 := B_w18.trans (h_w19.mono B_w18.size)
  have s_w19 := h_w19.size
  obtain ⟨ASure_t7, cSure_t7, ASoft_t7, cSoft_t7, rfl, -, -⟩ := rv_disk o_t7.rd
  have c_aD_0_w19 := x_aD.cell (i := 0) rfl
  have f_aD_0_w19 := x_aD.frozen 0
  have c_aD_1_w19 := x_aD.cell (i := 1) rfl
  have f_aD_1_w19 := x_aD.frozen 1
  have c_w0_0_w19 := x_w0.cell (i := 0) rfl
  have f_w0_0_w19 := x_w0.frozen 0
  have c_w0_1_w19 := x_w0.cell (i := 1) rfl
  have f_w0_1_w19 := x_w0.frozen 1
  have c_x0_0_w19 := x_x0.cell (i := 0) rfl
  have f_x0_0_w19 := x_x0.frozen 0
  have c_x0_1_w19 := x_x0.cell (i := 1) rfl
  have f_x0_1_w19 := x_x0.frozen 1
  have c_g0_0_w19 := x_g0.cell (i := 0) rfl
  have f_g0_0_w19 := x_g0.frozen 0
  have c_g0_1_w19 := x_g0.cell (i := 1) rfl
  have f_g0_1_w19 := x_g0.frozen 1
  go_wp2_with fail
  refine (toByteS_c (r_aB.from_ B_w19) (by omega)).mono ?_
  rintro e w20 ⟨v_t8, rfl, o_t8, h_w20⟩
  clear c_aD_0_w19 f_aD_0_w19 c_aD_1_w19 f_aD_1_w19 c_w0_0_w19 f_w0_0_w19 c_w0_1_w19 f_w0_1_w19 c_x0_0_w19 f_x0_0_w19 c_x0_1_w19 f_x0_1_w19 c_g0_0_w19 f_g0_0_w19 c_g0_1_w19 f_g0_1_w19
  replace x_aD := x_aD.from_ h_w20
  replace x_w0 := x_w0.from_ h_w20
  replace x_x0 := x_x0.from_ h_w20
  replace x_g0 := x_g0.from_ h_w20
  replace o_t1 := o_t1.below h_w20
  replace o_t2 := o_t2.below h_w20
  replace o_w0 := o_w0.below h_w20
  replace o_t3 := o_t3.below h_w20
  replace o_t4 := o_t4.below h_w20
  replace o_g0 := o_g0.below h_w20
  replace o_t6 := o_t6.below h_w20
  replace o_t7 := o_t7.below h_w20
  have B_w20 := B_w19.trans (h_w20.mono B_w19.size)
  have s_w20 := h_w20.size
  obtain ⟨At8, ct8, rfl, -, -, -⟩ := o_t8.rd
  have c_aD_0_w20 := x_aD.cell (i := 0) rfl
  have f_aD_0_w20 := x_aD.frozen 0
  have c_aD_1_w20 := x_aD.cell (i := 1) rfl
  have f_aD_1_w20 := x_aD.frozen 1
  have c_w0_0_w20 := x_w0.cell (i := 0) rfl
  have f_w0_0_w20 := x_w0.frozen 0
  have c_w0_1_w20 := x_w0.cell (i := 1) rfl
  have f_w0_1_w20 := x_w0.frozen 1
  have c_x0_0_w20 := x_x0.cell (i := 0) rfl
  have f_x0_0_w20 := x_x0.frozen 0
  have c_x0_1_w20 := x_x0.cell (i := 1) rfl
  have f_x0_1_w20 := x_x0.frozen 1
  have c_g0_0_w20 := x_g0.cell (i := 0) rfl
  have f_g0_0_w20 := x_g0.frozen 0
  have c_g0_1_w20 := x_g0.cell (i := 1) rfl
  have f_g0_1_w20 := x_g0.frozen 1
  go_wp2_with fail
  refine (iDiskWrite_c o_t7.rd o_t8.rd (by omega) (by omega)).mono ?_
  rintro e w21 ⟨v_h0, rfl, o_h0, h_w21⟩
  clear c_aD_0_w20 f_aD_0_w20 c_aD_1_w20 f_aD_1_w20 c_w0_0_w20 f_w0_0_w20 c_w0_1_w20 f_w0_1_w20 c_x0_0_w20 f_x0_0_w20 c_x0_1_w20 f_x0_1_w20 c_g0_0_w20 f_g0_0_w20 c_g0_1_w20 f_g0_1_w20
  replace x_aD := x_aD.from_ h_w21
  replace x_w0 := x_w0.from_ h_w21
  replace x_x0 := x_x0.from_ h_w21
  replace x_g0 := x_g0.from_ h_w21
  replace o_t1 := o_t1.below h_w21
  replace o_t2 := o_t2.below h_w21
  replace o_w0 := o_w0.below h_w21
  replace o_t3 := o_t3.below h_w21
  replace o_t4 := o_t4.below h_w21
  replace o_g0 := o_g0.below h_w21
  replace o_t6 := o_t6.below h_w21
  replace o_t7 := o_t7.below h_w21
  replace o_t8 := o_t8.below h_w21
  have B_w21 := B_w20.trans (h_w21.mono B_w20.size)
  have s_w21 := h_w21.size
  rw [HR0.out] at o_h0
  rw [HR1.out]
  obtain ⟨ASure_h0, cSure_h0, ASoft_h0, cSoft_h0, rfl, -, -⟩ := rv_disk o_h0.rd
  have c_aD_0_w21 := x_aD.cell (i := 0) rfl
  have f_aD_0_w21 := x_aD.frozen 0
  have c_aD_1_w21 := x_aD.cell (i := 1) rfl
  have f_aD_1_w21 := x_aD.frozen 1
  have c_w0_0_w21 := x_w0.cell (i := 0) rfl
  have f_w0_0_w21 := x_w0.frozen 0
  have c_w0_1_w21 := x_w0.cell (i := 1) rfl
  have f_w0_1_w21 := x_w0.frozen 1
  have c_x0_0_w21 := x_x0.cell (i := 0) rfl
  have f_x0_0_w21 := x_x0.frozen 0
  have c_x0_1_w21 := x_x0.cell (i := 1) rfl
  have f_x0_1_w21 := x_x0.frozen 1
  have c_g0_0_w21 := x_g0.cell (i := 0) rfl
  have f_g0_0_w21 := x_g0.frozen 0
  have c_g0_1_w21 := x_g0.cell (i := 1) rfl
  have f_g0_1_w21 := x_g0.frozen 1
  obtain ⟨w22, e_w22, s_w22, h_w22, x_h0⟩ := alloc_step w21 25 [.slice ASure_h0 R0.Sure.length cSure_h0, .slice ASoft_h0 R0.Soft.length cSoft_h0]
  have s_w22_1 := Nat.le_of_eq s_w22
  have s_w22_2 := Nat.le_of_eq s_w22.symm
  clear s_w22
  replace x_aD := x_aD.from_ h_w22
  replace x_w0 := x_w0.from_ h_w22
  replace x_x0 := x_x0.from_ h_w22
  replace x_g0 := x_g0.from_ h_w22
  replace o_t1 := o_t1.below h_w22
  replace o_t2 := o_t2.below h_w22
  replace o_w0 := o_w0.below h_w22
  replace o_t3 := o_t3.below h_w22
  replace o_t4 := o_t4.below h_w22
  replace o_g0 := o_g0.below h_w22
  replace o_t6 := o_t6.below h_w22
  replace o_t7 := o_t7.below h_w22
  replace o_t8 := o_t8.below h_w22
  replace o_h0 := o_h0.below h_w22
  have B_w22 := B_w21.trans (h_w22.mono B_w21.size)
  have c_aD_0_w22 := x_aD.cell (i := 0) rfl
  have f_aD_0_w22 := x_aD.frozen 0
  have c_aD_1_w22 := x_aD.cell (i := 1) rfl
  have f_aD_1_w22 := x_aD.frozen 1
  have c_w0_0_w22 := x_w0.cell (i := 0) rfl
  have f_w0_0_w22 := x_w0.frozen 0
  have c_w0_1_w22 := x_w0.cell (i := 1) rfl
  have f_w0_1_w22 := x_w0.frozen 1
  have c_x0_0_w22 := x_x0.cell (i := 0) rfl
  have f_x0_0_w22 := x_x0.frozen 0
  have c_x0_1_w22 := x_x0.cell (i := 1) rfl
  have f_x0_1_w22 := x_x0.frozen 1
  have c_g0_0_w22 := x_g0.cell (i := 0) rfl
  have f_g0_0_w22 := x_g0.frozen 0
  have c_g0_1_w22 := x_g0.cell (i := 1) rfl
  have f_g0_1_w22 := x_g0.frozen 1
  have c_h0_0_w22 := x_h0.cell (i := 0) rfl
  have f_h0_0_w22 := x_h0.frozen 0
  have c_h0_1_w22 := x_h0.cell (i := 1) rfl
  have f_h0_1_w22 := x_h0.frozen 1
  go_wp2_with fail
  refine (eqDisk_same o_h0.rd o_w0.rd (by omega)).mono ?_
  rintro e w23 ⟨rfl, h_w23⟩
  clear c_aD_0_w21 f_aD_0_w21 c_aD_1_w21 f_aD_1_w21 c_w0_0_w21 f_w0_0_w21 c_w0_1_w21 f_w0_1_w21 c_x0_0_w21 f_x0_0_w21 c_x0_1_w21 f_x0_1_w21 c_g0_0_w21 f_g0_0_w21 c_g0_1_w21 f_g0_1_w21 c_aD_0_w22 f_aD_0_w22 c_aD_1_w22 f_aD_1_w22 c_w0_0_w22 f_w0_0_w22 c_w0_1_w22 f_w0_1_w22 c_x0_0_w22 f_x0_0_w22 c_x0_1_w22 f_x0_1_w22 c_g0_0_w22 f_g0_0_w22 c_g0_1_w22 f_g0_1_w22 c_h0_0_w22 f_h0_0_w22 c_h0_1_w22 f_h0_1_w22
  replace x_aD := x_aD.from_ h_w23
  replace x_w0 := x_w0.from_ h_w23
  replace x_x0 := x_x0.from_ h_w23
  replace x_g0 := x_g0.from_ h_w23
  replace x_h0 := x_h0.from_ h_w23
  replace o_t1 := o_t1.below h_w23
  replace o_t2 := o_t2.below h_w23
  replace o_w0 := o_w0.below h_w23
  replace o_t3 := o_t3.below h_w23
  replace o_t4 := o_t4.below h_w23
  replace o_g0 := o_g0.below h_w23
  replace o_t6 := o_t6.below h_w23
  replace o_t7 := o_t7.below h_w23
  replace o_t8 := o_t8.below h_w23
  replace o_h0 := o_h0.below h_w23
  have B_w23 := B_w22.trans (h_w23.mono B_w22.size)
  have s_w23 := h_w23.size
  have c_aD_0_w23 := x_aD.cell (i := 0) rfl
  have f_aD_0_w23 := x_aD.frozen 0
  have c_aD_1_w23 := x_aD.cell (i := 1) rfl
  have f_aD_1_w23 := x_aD.frozen 1
  have c_w0_0_w23 := x_w0.cell (i := 0) rfl
  have f_w0_0_w23 := x_w0.frozen 0
  have c_w0_1_w23 := x_w0.cell (i := 1) rfl
  have f_w0_1_w23 := x_w0.frozen 1
  have c_x0_0_w23 := x_x0.cell (i := 0) rfl
  have f_x0_0_w23 := x_x0.frozen 0
  have c_x0_1_w23 := x_x0.cell (i := 1) rfl
  have f_x0_1_w23 := x_x0.frozen 1
  have c_g0_0_w23 := x_g0.cell (i := 0) rfl
  have f_g0_0_w23 := x_g0.frozen 0
  have c_g0_1_w23 := x_g0.cell (i := 1) rfl
  have f_g0_1_w23 := x_g0.frozen 1
  have c_h0_0_w23 := x_h0.cell (i := 0) rfl
  have f_h0_0_w23 := x_h0.frozen 0
  have c_h0_1_w23 := x_h0.cell (i := 1) rfl
  have f_h0_1_w23 := x_h0.frozen 1
  go_wp2_with fail
  refine (heldDisk_c o_g0.rd (by omega) (by omega) (by omega)).mono ?_
  rintro e w24 ⟨rfl, h_w24⟩
  clear c_aD_0_w23 f_aD_0_w23 c_aD_1_w23 f_aD_1_w23 c_w0_0_w23 f_w0_0_w23 c_w0_1_w23 f_w0_1_w23 c_x0_0_w23 f_x0_0_w23 c_x0_1_w23 f_x0_1_w23 c_g0_0_w23 f_g0_0_w23 c_g0_1_w23 f_g0_1_w23 c_h0_0_w23 f_h0_0_w23 c_h0_1_w23 f_h0_1_w23
  replace x_aD := x_aD.from_ h_w24
  replace x_w0 := x_w0.from_ h_w24
  replace x_x0 := x_x0.from_ h_w24
  replace x_g0 := x_g0.from_ h_w24
  replace x_h0 := x_h0.from_ h_w24
  replace o_t1 := o_t1.below h_w24
  replace o_t2 := o_t2.below h_w24
  replace o_w0 := o_w0.below h_w24
  replace o_t3 := o_t3.below h_w24
  replace o_t4 := o_t4.below h_w24
  replace o_g0 := o_g0.below h_w24
  replace o_t6 := o_t6.below h_w24
  replace o_t7 := o_t7.below h_w24
  replace o_t8 := o_t8.below h_w24
  replace o_h0 := o_h0.below h_w24
  have B_w24 := B_w23.trans (h_w24.mono B_w23.size)
  have s_w24 := h_w24.size
  have c_aD_0_w24 := x_aD.cell (i := 0) rfl
  have f_aD_0_w24 := x_aD.frozen 0
  have c_aD_1_w24 := x_aD.cell (i := 1) rfl
  have f_aD_1_w24 := x_aD.frozen 1
  have c_w0_0_w24 := x_w0.cell (i := 0) rfl
  have f_w0_0_w24 := x_w0.frozen 0
  have c_w0_1_w24 := x_w0.cell (i := 1) rfl
  have f_w0_1_w24 := x_w0.frozen 1
  have c_x0_0_w24 := x_x0.cell (i := 0) rfl
  have f_x0_0_w24 := x_x0.frozen 0
  have c_x0_1_w24 := x_x0.cell (i := 1) rfl
  have f_x0_1_w24 := x_x0.frozen 1
  have c_g0_0_w24 := x_g0.cell (i := 0) rfl
  have f_g0_0_w24 := x_g0.frozen 0
  have c_g0_1_w24 := x_g0.cell (i := 1) rfl
  have f_g0_1_w24 := x_g0.frozen 1
  have c_h0_0_w24 := x_h0.cell (i := 0) rfl
  have f_h0_0_w24 := x_h0.frozen 0
  have c_h0_1_w24 := x_h0.cell (i := 1) rfl
  have f_h0_1_w24 := x_h0.frozen 1
  go_wp2
  go_ret
  exact ⟨rfl, B_w24⟩

end Go.Proofs.Ytdggbjhfbimebaa
