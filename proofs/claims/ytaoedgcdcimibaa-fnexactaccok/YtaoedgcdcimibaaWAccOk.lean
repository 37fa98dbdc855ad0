/- The walk of the law FnExactAccOk, laid by a program of ours (lawgen2.py) out of the law's text. -/
import Derived.Test.YtaoedgcdcimibaaVtI
import Derived.Test.YtaoedgcdcimibaaOutC
namespace Go.Proofs.Ytaoedgcdcimibaa
open Go.RowKit
set_option linter.unusedVariables false

set_option maxRecDepth 100000 in
set_option maxHeartbeats 8000000 in
theorem wAccOk (v_aA : Value) (a : MAcc) (w : World) (r_aA : RV accL w v_aA a) :
    Calls Try.prog 8 #[v_aA] w fun e w' => e = .returned (.bool true) ∧ Below w.heap.size w w' := by
  have h_aA := r_aA
  obtain rfl := rv_acc h_aA
  clear h_aA
  obtain ⟨wa, hwa, B0, sa, x_aA⟩ := frame1 w 44 [.int .i64 a.Prom, .int .i64 a.Bal, .int .i64 a.Val]
  have sa_1 := Nat.le_of_eq sa
  have sa_2 := Nat.le_of_eq sa.symm
  clear sa
  have c_aA_0_wa := x_aA.cell (i := 0) rfl
  have c_aA_1_wa := x_aA.cell (i := 1) rfl
  have c_aA_2_wa := x_aA.cell (i := 2) rfl
  obtain ⟨R0, hR0⟩ : ∃ R, accOkB a = R := ⟨_, rfl⟩
  have HR0 := Lib.hid hR0
  clear hR0
  go_enter Try.func8, Try.ntmps8
  go_wp2_with fail
  refine (toAcc_c (r_aA.from_ B0)).mono ?_
  rintro e w1 ⟨v_t1, rfl, o_t1, h_w1⟩
  clear c_aA_0_wa c_aA_1_wa c_aA_2_wa
  replace x_aA := x_aA.from_ h_w1
  have B_w1 := B0.trans (h_w1.mono B0.size)
  have s_w1 := h_w1.size
  obtain rfl := rv_acc o_t1.rd
  have c_aA_0_w1 := x_aA.cell (i := 0) rfl
  have f_aA_0_w1 := x_aA.frozen 0
  have c_aA_1_w1 := x_aA.cell (i := 1) rfl
  have f_aA_1_w1 := x_aA.frozen 1
  have c_aA_2_w1 := x_aA.cell (i := 2) rfl
  have f_aA_2_w1 := x_aA.frozen 2
  go_wp2_with fail
  refine (sAccOk_c o_t1.rd).mono ?_
  rintro e w2 ⟨rfl, h_w2⟩
  clear c_aA_0_w1 f_aA_0_w1 c_aA_1_w1 f_aA_1_w1 c_aA_2_w1 f_aA_2_w1
  replace x_aA := x_aA.from_ h_w2
  replace o_t1 := o_t1.below h_w2
  have B_w2 := B_w1.trans (h_w2.mono B_w1.size)
  have s_w2 := h_w2.size
  rw [HR0.out]
  have c_aA_0_w2 := x_aA.cell (i := 0) rfl
  have f_aA_0_w2 := x_aA.frozen 0
  have c_aA_1_w2 := x_aA.cell (i := 1) rfl
  have f_aA_1_w2 := x_aA.frozen 1
  have c_aA_2_w2 := x_aA.cell (i := 2) rfl
  have f_aA_2_w2 := x_aA.frozen 2
  go_wp2_with fail
  refine (toAcc_c (r_aA.from_ B_w2)).mono ?_
  rintro e w3 ⟨v_t2, rfl, o_t2, h_w3⟩
  clear c_aA_0_w2 f_aA_0_w2 c_aA_1_w2 f_aA_1_w2 c_aA_2_w2 f_aA_2_w2
  replace x_aA := x_aA.from_ h_w3
  replace o_t1 := o_t1.below h_w3
  have B_w3 := B_w2.trans (h_w3.mono B_w2.size)
  have s_w3 := h_w3.size
  obtain rfl := rv_acc o_t2.rd
  have c_aA_0_w3 := x_aA.cell (i := 0) rfl
  have f_aA_0_w3 := x_aA.frozen 0
  have c_aA_1_w3 := x_aA.cell (i := 1) rfl
  have f_aA_1_w3 := x_aA.frozen 1
  have c_aA_2_w3 := x_aA.cell (i := 2) rfl
  have f_aA_2_w3 := x_aA.frozen 2
  go_wp2_with fail
  refine (iAccOk_c o_t2.rd).mono ?_
  rintro e w4 ⟨rfl, h_w4⟩
  clear c_aA_0_w3 f_aA_0_w3 c_aA_1_w3 f_aA_1_w3 c_aA_2_w3 f_aA_2_w3
  replace x_aA := x_aA.from_ h_w4
  replace o_t1 := o_t1.below h_w4
  replace o_t2 := o_t2.below h_w4
  have B_w4 := B_w3.trans (h_w4.mono B_w3.size)
  have s_w4 := h_w4.size
  rw [HR0.out]
  have c_aA_0_w4 := x_aA.cell (i := 0) rfl
  have f_aA_0_w4 := x_aA.frozen 0
  have c_aA_1_w4 := x_aA.cell (i := 1) rfl
  have f_aA_1_w4 := x_aA.frozen 1
  have c_aA_2_w4 := x_aA.cell (i := 2) rfl
  have f_aA_2_w4 := x_aA.frozen 2
  go_wp2
  go_ret
  exact ⟨rfl, B_w4⟩

end Go.Proofs.Ytaoedgcdcimibaa
