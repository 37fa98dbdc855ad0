/- The walk of the law FnExactMsgOk, laid by a program of ours (lawgen2.py) out of the law's text. -/
import Derived.Test.YtdhphfmjekbmjaaMsgI
namespace Go.Proofs.Ytdhphfmjekbmjaa
open Go.RowKit
set_option linter.unusedVariables false

set_option maxRecDepth 100000 in
set_option maxHeartbeats 8000000 in
theorem wMsgOk (v_aM : Value) (m : MMsg) (w : World) (r_aM : RV msgL w v_aM m) :
    Calls Try.prog 3 #[v_aM] w fun e w' => e = .returned (.bool true) ∧ Below w.heap.size w w' := by
  have h_aM := r_aM
  obtain rfl := rv_msg h_aM
  clear h_aM
  obtain ⟨wa, hwa, B0, sa, x_aM⟩ := frame1 w 23 [.int .i64 m.Kind, .int .i64 m.Acct, .int .i64 m.Amt, .int .i64 m.Src]
  have sa_1 := Nat.le_of_eq sa
  have sa_2 := Nat.le_of_eq sa.symm
  clear sa
  have c_aM_0_wa := x_aM.cell (i := 0) rfl
  have c_aM_1_wa := x_aM.cell (i := 1) rfl
  have c_aM_2_wa := x_aM.cell (i := 2) rfl
  have c_aM_3_wa := x_aM.cell (i := 3) rfl
  obtain ⟨R0, hR0⟩ : ∃ R, msgOkB m = R := ⟨_, rfl⟩
  have HR0 := Lib.hid hR0
  clear hR0
  go_enter Try.func3, Try.ntmps3
  go_wp2_with fail
  refine (toMsg_c (r_aM.from_ B0)).mono ?_
  rintro e w1 ⟨v_t1, rfl, o_t1, h_w1⟩
  clear c_aM_0_wa c_aM_1_wa c_aM_2_wa c_aM_3_wa
  replace x_aM := x_aM.from_ h_w1
  have B_w1 := B0.trans (h_w1.mono B0.size)
  have s_w1 := h_w1.size
  obtain rfl := rv_msg o_t1.rd
  have c_aM_0_w1 := x_aM.cell (i := 0) rfl
  have f_aM_0_w1 := x_aM.frozen 0
  have c_aM_1_w1 := x_aM.cell (i := 1) rfl
  have f_aM_1_w1 := x_aM.frozen 1
  have c_aM_2_w1 := x_aM.cell (i := 2) rfl
  have f_aM_2_w1 := x_aM.frozen 2
  have c_aM_3_w1 := x_aM.cell (i := 3) rfl
  have f_aM_3_w1 := x_aM.frozen 3
  go_wp2_with fail
  refine (sMsgOk_c o_t1.rd).mono ?_
  rintro e w2 ⟨rfl, h_w2⟩
  clear c_aM_0_w1 f_aM_0_w1 c_aM_1_w1 f_aM_1_w1 c_aM_2_w1 f_aM_2_w1 c_aM_3_w1 f_aM_3_w1
  replace x_aM := x_aM.from_ h_w2
  replace o_t1 := o_t1.below h_w2
  have B_w2 := B_w1.trans (h_w2.mono B_w1.size)
  have s_w2 := h_w2.size
  rw [HR0.out]
  have c_aM_0_w2 := x_aM.cell (i := 0) rfl
  have f_aM_0_w2 := x_aM.frozen 0
  have c_aM_1_w2 := x_aM.cell (i := 1) rfl
  have f_aM_1_w2 := x_aM.frozen 1
  have c_aM_2_w2 := x_aM.cell (i := 2) rfl
  have f_aM_2_w2 := x_aM.frozen 2
  have c_aM_3_w2 := x_aM.cell (i := 3) rfl
  have f_aM_3_w2 := x_aM.frozen 3
  go_wp2_with fail
  refine (toMsg_c (r_aM.from_ B_w2)).mono ?_
  rintro e w3 ⟨v_t2, rfl, o_t2, h_w3⟩
  clear c_aM_0_w2 f_aM_0_w2 c_aM_1_w2 f_aM_1_w2 c_aM_2_w2 f_aM_2_w2 c_aM_3_w2 f_aM_3_w2
  replace x_aM := x_aM.from_ h_w3
  replace o_t1 := o_t1.below h_w3
  have B_w3 := B_w2.trans (h_w3.mono B_w2.size)
  have s_w3 := h_w3.size
  obtain rfl := rv_msg o_t2.rd
  have c_aM_0_w3 := x_aM.cell (i := 0) rfl
  have f_aM_0_w3 := x_aM.frozen 0
  have c_aM_1_w3 := x_aM.cell (i := 1) rfl
  have f_aM_1_w3 := x_aM.frozen 1
  have c_aM_2_w3 := x_aM.cell (i := 2) rfl
  have f_aM_2_w3 := x_aM.frozen 2
  have c_aM_3_w3 := x_aM.cell (i := 3) rfl
  have f_aM_3_w3 := x_aM.frozen 3
  go_wp2_with fail
  refine (iMsgOk_c o_t2.rd).mono ?_
  rintro e w4 ⟨rfl, h_w4⟩
  clear c_aM_0_w3 f_aM_0_w3 c_aM_1_w3 f_aM_1_w3 c_aM_2_w3 f_aM_2_w3 c_aM_3_w3 f_aM_3_w3
  replace x_aM := x_aM.from_ h_w4
  replace o_t1 := o_t1.below h_w4
  replace o_t2 := o_t2.below h_w4
  have B_w4 := B_w3.trans (h_w4.mono B_w3.size)
  have s_w4 := h_w4.size
  rw [HR0.out]
  have c_aM_0_w4 := x_aM.cell (i := 0) rfl
  have f_aM_0_w4 := x_aM.frozen 0
  have c_aM_1_w4 := x_aM.cell (i := 1) rfl
  have f_aM_1_w4 := x_aM.frozen 1
  have c_aM_2_w4 := x_aM.cell (i := 2) rfl
  have f_aM_2_w4 := x_aM.frozen 2
  have c_aM_3_w4 := x_aM.cell (i := 3) rfl
  have f_aM_3_w4 := x_aM.frozen 3
  go_wp2
  go_ret
  exact ⟨rfl, B_w4⟩

end Go.Proofs.Ytdhphfmjekbmjaa
