/- The walk of the law FnExactAccPrep, laid by a program of ours (lawgen2.py) out of the law's text. -/
import Derived.Test.YtaoedgcdcimibaaVtI
import Derived.Test.YtaoedgcdcimibaaOutC
namespace Go.Proofs.Ytaoedgcdcimibaa
open Go.RowKit
set_option linter.unusedVariables false

set_option maxRecDepth 100000 in
set_option maxHeartbeats 8000000 in
theorem wAccPrep (v_aA : Value) (a : MAcc) (b : Int) (w : World) (r_aA : RV accL w v_aA a) (hb : -9223372036854775808 ≤ b ∧ b ≤ 9223372036854775807) :
    Calls Try.prog 9 #[v_aA, .int .i64 b] w fun e w' => e = .returned (.bool true) ∧ Below w.heap.size w w' := by
  have h_aA := r_aA
  obtain rfl := rv_acc h_aA
  clear h_aA
  obtain ⟨wa, hwa, B0, sa, x_aA⟩ := frame1 w 44 [.int .i64 a.Prom, .int .i64 a.Bal, .int .i64 a.Val]
  have sa_1 := Nat.le_of_eq sa
  have sa_2 := Nat.le_of_eq sa.symm
  clear sa
  have c_aA_0_wa := x_aA.cell (i := 0) rfl
  have c_aA_1_wa := x_aA.cell (i := 1) rfl
  have c_aA_2_wa := x_aA.cell (i := 2) rfl
  obtain ⟨R0, hR0⟩ : ∃ R, accPrep a b = R := ⟨_, rfl⟩
  have HR0 := Lib.hid hR0
  clear hR0
  obtain ⟨R1, hR1⟩ : ∃ R, accPrepB a b = R := ⟨_, rfl⟩
  have HR1 := Lib.hid hR1
  clear hR1
  go_enter Try.func9, Try.ntmps9
  go_wp2_with fail
  refine (toAcc_c (r_aA.from_ B0)).mono ?_
  rintro e w1 ⟨v_t1, rfl, o_t1, h_w1⟩
  clear c_aA_0_wa c_aA_1_wa c_aA_2_wa
  replace x_aA := x_aA.from_ h_w1
  have B_w1 := B0.trans (h_w1.mono B0.size)
  have s_w1 := h_w1.size
  obtain rfl := rv_acc o_t1.rd
  have c_aA_0_w1 := x_aA.cell (i := 0) rfl
  have f_aA_0_w1 := x_aA.frozen 0
  have c_aA_1_w1 := x_aA.cell (i := 1) rfl
  have f_aA_1_w1 := x_aA.frozen 1
  have c_aA_2_w1 := x_aA.cell (i := 2) rfl
  have f_aA_2_w1 := x_aA.frozen 2
  go_wp2_with fail
  refine (sAccPrep_c o_t1.rd).mono ?_
  rintro e w2 ⟨v_w0, rfl, o_w0, h_w2⟩
  clear c_aA_0_w1 f_aA_0_w1 c_aA_1_w1 f_aA_1_w1 c_aA_2_w1 f_aA_2_w1
  replace x_aA := x_aA.from_ h_w2
  replace o_t1 := o_t1.below h_w2
  have B_w2 := B_w1.trans (h_w2.mono B_w1.size)
  have s_w2 := h_w2.size
  rw [HR0.out] at o_w0
  rw [HR1.out]
  obtain rfl := rv_acc o_w0.rd
  have c_aA_0_w2 := x_aA.cell (i := 0) rfl
  have f_aA_0_w2 := x_aA.frozen 0
  have c_aA_1_w2 := x_aA.cell (i := 1) rfl
  have f_aA_1_w2 := x_aA.frozen 1
  have c_aA_2_w2 := x_aA.cell (i := 2) rfl
  have f_aA_2_w2 := x_aA.frozen 2
  obtain ⟨w3, e_w3, s_w3, h_w3, x_w0⟩ := alloc_step w2 33 [.int .i64 R0.Prom, .int .i64 R0.Bal, .int .i64 R0.Val]
  have s_w3_1 := Nat.le_of_eq s_w3
  have s_w3_2 := Nat.le_of_eq s_w3.symm
  clear s_w3
  replace x_aA := x_aA.from_ h_w3
  replace o_t1 := o_t1.below h_w3
  replace o_w0 := o_w0.below h_w3
  have B_w3 := B_w2.trans (h_w3.mono B_w2.size)
  have c_aA_0_w3 := x_aA.cell (i := 0) rfl
  have f_aA_0_w3 := x_aA.frozen 0
  have c_aA_1_w3 := x_aA.cell (i := 1) rfl
  have f_aA_1_w3 := x_aA.frozen 1
  have c_aA_2_w3 := x_aA.cell (i := 2) rfl
  have f_aA_2_w3 := x_aA.frozen 2
  have c_w0_0_w3 := x_w0.cell (i := 0) rfl
  have f_w0_0_w3 := x_w0.frozen 0
  have c_w0_1_w3 := x_w0.cell (i := 1) rfl
  have f_w0_1_w3 := x_w0.frozen 1
  have c_w0_2_w3 := x_w0.cell (i := 2) rfl
  have f_w0_2_w3 := x_w0.frozen 2
  go_wp2_with fail
  refine (toAcc_c (r_aA.from_ B_w3)).mono ?_
  rintro e w4 ⟨v_t2, rfl, o_t2, h_w4⟩
  clear c_aA_0_w2 f_aA_0_w2 c_aA_1_w2 f_aA_1_w2 c_aA_2_w2 f_aA_2_w2 c_aA_0_w3 f_aA_0_w3 c_aA_1_w3 f_aA_1_w3 c_aA_2_w3 f_aA_2_w3 c_w0_0_w3 f_w0_0_w3 c_w0_1_w3 f_w0_1_w3 c_w0_2_w3 f_w0_2_w3
  replace x_aA := x_aA.from_ h_w4
  replace x_w0 := x_w0.from_ h_w4
  replace o_t1 := o_t1.below h_w4
  replace o_w0 := o_w0.below h_w4
  have B_w4 := B_w3.trans (h_w4.mono B_w3.size)
  have s_w4 := h_w4.size
  obtain rfl := rv_acc o_t2.rd
  have c_aA_0_w4 := x_aA.cell (i := 0) rfl
  have f_aA_0_w4 := x_aA.frozen 0
  have c_aA_1_w4 := x_aA.cell (i := 1) rfl
  have f_aA_1_w4 := x_aA.frozen 1
  have c_aA_2_w4 := x_aA.cell (i := 2) rfl
  have f_aA_2_w4 := x_aA.frozen 2
  have c_w0_0_w4 := x_w0.cell (i := 0) rfl
  have f_w0_0_w4 := x_w0.frozen 0
  have c_w0_1_w4 := x_w0.cell (i := 1) rfl
  have f_w0_1_w4 := x_w0.frozen 1
  have c_w0_2_w4 := x_w0.cell (i := 2) rfl
  have f_w0_2_w4 := x_w0.frozen 2
  go_wp2_with fail
  refine (iAccPrep_c o_t2.rd hb).mono ?_
  rintro e w5 ⟨v_g0, rfl, o_g0, h_w5⟩
  clear c_aA_0_w4 f_aA_0_w4 c_aA_1_w4 f_aA_1_w4 c_aA_2_w4 f_aA_2_w4 c_w0_0_w4 f_w0_0_w4 c_w0_1_w4 f_w0_1_w4 c_w0_2_w4 f_w0_2_w4
  replace x_aA := x_aA.from_ h_w5
  replace x_w0 := x_w0.from_ h_w5
  replace o_t1 := o_t1.below h_w5
  replace o_w0 := o_w0.below h_w5
  replace o_t2 := o_t2.below h_w5
  have B_w5 := B_w4.trans (h_w5.mono B_w4.size)
  have s_w5 := h_w5.size
  rw [HR0.out] at o_g0
  rw [HR1.out]
  obtain rfl := rv_acc o_g0.rd
  have c_aA_0_w5 := x_aA.cell (i := 0) rfl
  have f_aA_0_w5 := x_aA.frozen 0
  have c_aA_1_w5 := x_aA.cell (i := 1) rfl
  have f_aA_1_w5 := x_aA.frozen 1
  have c_aA_2_w5 := x_aA.cell (i := 2) rfl
  have f_aA_2_w5 := x_aA.frozen 2
  have c_w0_0_w5 := x_w0.cell (i := 0) rfl
  have f_w0_0_w5 := x_w0.frozen 0
  have c_w0_1_w5 := x_w0.cell (i := 1) rfl
  have f_w0_1_w5 := x_w0.frozen 1
  have c_w0_2_w5 := x_w0.cell (i := 2) rfl
  have f_w0_2_w5 := x_w0.frozen 2
  obtain ⟨w6, e_w6, s_w6, h_w6, x_g0⟩ := alloc_step w5 33 [.int .i64 R0.Prom, .int .i64 R0.Bal, .int .i64 R0.Val]
  have s_w6_1 := Nat.le_of_eq s_w6
  have s_w6_2 := Nat.le_of_eq s_w6.symm
  clear s_w6
  replace x_aA := x_aA.from_ h_w6
  replace x_w0 := x_w0.from_ h_w6
  replace o_t1 := o_t1.below h_w6
  replace o_w0 := o_w0.below h_w6
  replace o_t2 := o_t2.below h_w6
  replace o_g0 := o_g0.below h_w6
  have B_w6 := B_w5.trans (h_w6.mono B_w5.size)
  have c_aA_0_w6 := x_aA.cell (i := 0) rfl
  have f_aA_0_w6 := x_aA.frozen 0
  have c_aA_1_w6 := x_aA.cell (i := 1) rfl
  have f_aA_1_w6 := x_aA.frozen 1
  have c_aA_2_w6 := x_aA.cell (i := 2) rfl
  have f_aA_2_w6 := x_aA.frozen 2
  have c_w0_0_w6 := x_w0.cell (i := 0) rfl
  have f_w0_0_w6 := x_w0.frozen 0
  have c_w0_1_w6 := x_w0.cell (i := 1) rfl
  have f_w0_1_w6 := x_w0.frozen 1
  have c_w0_2_w6 := x_w0.cell (i := 2) rfl
  have f_w0_2_w6 := x_w0.frozen 2
  have c_g0_0_w6 := x_g0.cell (i := 0) rfl
  have f_g0_0_w6 := x_g0.frozen 0
  have c_g0_1_w6 := x_g0.cell (i := 1) rfl
  have f_g0_1_w6 := x_g0.frozen 1
  have c_g0_2_w6 := x_g0.cell (i := 2) rfl
  have f_g0_2_w6 := x_g0.frozen 2
  go_wp2_with fail
  refine (eqAcc_same o_g0.rd o_w0.rd).mono ?_
  rintro e w7 ⟨rfl, h_w7⟩
  clear c_aA_0_w5 f_aA_0_w5 c_aA_1_w5 f_aA_1_w5 c_aA_2_w5 f_aA_2_w5 c_w0_0_w5 f_w0_0_w5 c_w0_1_w5 f_w0_1_w5 c_w0_2_w5 f_w0_2_w5 c_aA_0_w6 f_aA_0_w6 c_aA_1_w6 f_aA_1_w6 c_aA_2_w6 f_aA_2_w6 c_w0_0_w6 f_w0_0_w6 c_w0_1_w6 f_w0_1_w6 c_w0_2_w6 f_w0_2_w6 c_g0_0_w6 f_g0_0_w6 c_g0_1_w6 f_g0_1_w6 c_g0_2_w6 f_g0_2_w6
  replace x_aA := x_aA.from_ h_w7
  replace x_w0 := x_w0.from_ h_w7
  replace x_g0 := x_g0.from_ h_w7
  replace o_t1 := o_t1.below h_w7
  replace o_w0 := o_w0.below h_w7
  replace o_t2 := o_t2.below h_w7
  replace o_g0 := o_g0.below h_w7
  have B_w7 := B_w6.trans (h_w7.mono B_w6.size)
  have s_w7 := h_w7.size
  have c_aA_0_w7 := x_aA.cell (i := 0) rfl
  have f_aA_0_w7 := x_aA.frozen 0
  have c_aA_1_w7 := x_aA.cell (i := 1) rfl
  have f_aA_1_w7 := x_aA.frozen 1
  have c_aA_2_w7 := x_aA.cell (i := 2) rfl
  have f_aA_2_w7 := x_aA.frozen 2
  have c_w0_0_w7 := x_w0.cell (i := 0) rfl
  have f_w0_0_w7 := x_w0.frozen 0
  have c_w0_1_w7 := x_w0.cell (i := 1) rfl
  have f_w0_1_w7 := x_w0.frozen 1
  have c_w0_2_w7 := x_w0.cell (i := 2) rfl
  have f_w0_2_w7 := x_w0.frozen 2
  have c_g0_0_w7 := x_g0.cell (i := 0) rfl
  have f_g0_0_w7 := x_g0.frozen 0
  have c_g0_1_w7 := x_g0.cell (i := 1) rfl
  have f_g0_1_w7 := x_g0.frozen 1
  have c_g0_2_w7 := x_g0.cell (i := 2) rfl
  have f_g0_2_w7 := x_g0.frozen 2
  go_wp2
  go_ret
  exact ⟨rfl, B_w7⟩

end Go.Proofs.Ytaoedgcdcimibaa
