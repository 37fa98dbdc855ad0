/- The walk of the law FnExactRecText, laid by a program of ours (lawgen2.py) out of the law's text. -/
import Derived.Test.YtkbhbccpmmhelaaDoorRcJ0
import Derived.Test.YtkbhbccpmmhelaaDoorRc6
namespace Go.Proofs.YtkbhbccpmmhelaaDoor
open Go.RowKit
set_option linter.unusedVariables false

set_option maxRecDepth 100000 in
set_option maxHeartbeats 8000000 in
theorem wRecText (v_aR : Value) (r : MRec) (w : World) (r_aR : RV recL w v_aR r) (ht : Tab10 w) :
    Calls Tryd.prog 4 #[v_aR] w fun e w' => e = .returned (.bool true) ∧ Below w.heap.size w w' := by
  have h_aR := r_aR
  obtain rfl := rv_rec h_aR
  clear h_aR
  obtain ⟨wa, hwa, B0, sa, x_aR⟩ := frame1 w 45 [.int .i64 r.Kind, .int .i64 r.Acct, .int .i64 r.Other, .int .i64 r.To, .int .i64 r.Amt, .int .i64 r.M.Kind, .int .i64 r.M.Acct, .int .i64 r.M.Amt, .int .i64 r.M.Src]
  have sa_1 := Nat.le_of_eq sa
  have sa_2 := Nat.le_of_eq sa.symm
  clear sa
  have c_aR_0_wa := x_aR.cell (i := 0) rfl
  have c_aR_1_wa := x_aR.cell (i := 1) rfl
  have c_aR_2_wa := x_aR.cell (i := 2) rfl
  have c_aR_3_wa := x_aR.cell (i := 3) rfl
  have c_aR_4_wa := x_aR.cell (i := 4) rfl
  have c_aR_5_wa := x_aR.cell (i := 5) rfl
  have c_aR_6_wa := x_aR.cell (i := 6) rfl
  have c_aR_7_wa := x_aR.cell (i := 7) rfl
  have c_aR_8_wa := x_aR.cell (i := 8) rfl
  obtain ⟨R0, hR0⟩ : ∃ R, recText r = R := ⟨_, rfl⟩
  have HR0 := Lib.hid hR0
  clear hR0
  go_enter Tryd.func4, Tryd.ntmps4
  go_wp2_with fail
  refine (toRec_c (r_aR.from_ B0)).mono ?_
  rintro e w1 ⟨v_t1, rfl, o_t1, h_w1⟩
  clear c_aR_0_wa c_aR_1_wa c_aR_2_wa c_aR_3_wa c_aR_4_wa c_aR_5_wa c_aR_6_wa c_aR_7_wa c_aR_8_wa
  replace x_aR := x_aR.from_ h_w1
  have B_w1 := B0.trans (h_w1.mono B0.size)
  have s_w1 := h_w1.size
  obtain rfl := rv_rec o_t1.rd
  have c_aR_0_w1 := x_aR.cell (i := 0) rfl
  have f_aR_0_w1 := x_aR.frozen 0
  have c_aR_1_w1 := x_aR.cell (i := 1) rfl
  have f_aR_1_w1 := x_aR.frozen 1
  have c_aR_2_w1 := x_aR.cell (i := 2) rfl
  have f_aR_2_w1 := x_aR.frozen 2
  have c_aR_3_w1 := x_aR.cell (i := 3) rfl
  have f_aR_3_w1 := x_aR.frozen 3
  have c_aR_4_w1 := x_aR.cell (i := 4) rfl
  have f_aR_4_w1 := x_aR.frozen 4
  have c_aR_5_w1 := x_aR.cell (i := 5) rfl
  have f_aR_5_w1 := x_aR.frozen 5
  have c_aR_6_w1 := x_aR.cell (i := 6) rfl
  have f_aR_6_w1 := x_aR.frozen 6
  have c_aR_7_w1 := x_aR.cell (i := 7) rfl
  have f_aR_7_w1 := x_aR.frozen 7
  have c_aR_8_w1 := x_aR.cell (i := 8) rfl
  have f_aR_8_w1 := x_aR.frozen 8
  go_wp2_with fail
  refine (sRecText_c o_t1.rd).mono ?_
  rintro e w2 ⟨rfl, h_w2⟩
  clear c_aR_0_w1 f_aR_0_w1 c_aR_1_w1 f_aR_1_w1 c_aR_2_w1 f_aR_2_w1 c_aR_3_w1 f_aR_3_w1 c_aR_4_w1 f_aR_4_w1 c_aR_5_w1 f_aR_5_w1 c_aR_6_w1 f_aR_6_w1 c_aR_7_w1 f_aR_7_w1 c_aR_8_w1 f_aR_8_w1
  replace x_aR := x_aR.from_ h_w2
  replace o_t1 := o_t1.below h_w2
  have B_w2 := B_w1.trans (h_w2.mono B_w1.size)
  have s_w2 := h_w2.size
  rw [HR0.out]
  have c_aR_0_w2 := x_aR.cell (i := 0) rfl
  have f_aR_0_w2 := x_aR.frozen 0
  have c_aR_1_w2 := x_aR.cell (i := 1) rfl
  have f_aR_1_w2 := x_aR.frozen 1
  have c_aR_2_w2 := x_aR.cell (i := 2) rfl
  have f_aR_2_w2 := x_aR.frozen 2
  have c_aR_3_w2 := x_aR.cell (i := 3) rfl
  have f_aR_3_w2 := x_aR.frozen 3
  have c_aR_4_w2 := x_aR.cell (i := 4) rfl
  have f_aR_4_w2 := x_aR.frozen 4
  have c_aR_5_w2 := x_aR.cell (i := 5) rfl
  have f_aR_5_w2 := x_aR.frozen 5
  have c_aR_6_w2 := x_aR.cell (i := 6) rfl
  have f_aR_6_w2 := x_aR.frozen 6
  have c_aR_7_w2 := x_aR.cell (i := 7) rfl
  have f_aR_7_w2 := x_aR.frozen 7
  have c_aR_8_w2 := x_aR.cell (i := 8) rfl
  have f_aR_8_w2 := x_aR.frozen 8
  go_wp2_with fail
  refine (toRec_c (r_aR.from_ B_w2)).mono ?_
  rintro e w3 ⟨v_t2, rfl, o_t2, h_w3⟩
  clear c_aR_0_w2 f_aR_0_w2 c_aR_1_w2 f_aR_1_w2 c_aR_2_w2 f_aR_2_w2 c_aR_3_w2 f_aR_3_w2 c_aR_4_w2 f_aR_4_w2 c_aR_5_w2 f_aR_5_w2 c_aR_6_w2 f_aR_6_w2 c_aR_7_w2 f_aR_7_w2 c_aR_8_w2 f_aR_8_w2
  replace x_aR := x_aR.from_ h_w3
  replace o_t1 := o_t1.below h_w3
  have B_w3 := B_w2.trans (h_w3.mono B_w2.size)
  have s_w3 := h_w3.size
  obtain rfl := rv_rec o_t2.rd
  have c_aR_0_w3 := x_aR.cell (i := 0) rfl
  have f_aR_0_w3 := x_aR.frozen 0
  have c_aR_1_w3 := x_aR.cell (i := 1) rfl
  have f_aR_1_w3 := x_aR.frozen 1
  have c_aR_2_w3 := x_aR.cell (i := 2) rfl
  have f_aR_2_w3 := x_aR.frozen 2
  have c_aR_3_w3 := x_aR.cell (i := 3) rfl
  have f_aR_3_w3 := x_aR.frozen 3
  have c_aR_4_w3 := x_aR.cell (i := 4) rfl
  have f_aR_4_w3 := x_aR.frozen 4
  have c_aR_5_w3 := x_aR.cell (i := 5) rfl
  have f_aR_5_w3 := x_aR.frozen 5
  have c_aR_6_w3 := x_aR.cell (i := 6) rfl
  have f_aR_6_w3 := x_aR.frozen 6
  have c_aR_7_w3 := x_aR.cell (i := 7) rfl
  have f_aR_7_w3 := x_aR.frozen 7
  have c_aR_8_w3 := x_aR.cell (i := 8) rfl
  have f_aR_8_w3 := x_aR.frozen 8
  go_wp2_with fail
  refine (iRecText_c (ht.below B_w3) o_t2.rd).mono ?_
  rintro e w4 ⟨rfl, h_w4⟩
  clear c_aR_0_w3 f_aR_0_w3 c_aR_1_w3 f_aR_1_w3 c_aR_2_w3 f_aR_2_w3 c_aR_3_w3 f_aR_3_w3 c_aR_4_w3 f_aR_4_w3 c_aR_5_w3 f_aR_5_w3 c_aR_6_w3 f_aR_6_w3 c_aR_7_w3 f_aR_7_w3 c_aR_8_w3 f_aR_8_w3
  replace x_aR := x_aR.from_ h_w4
  replace o_t1 := o_t1.below h_w4
  replace o_t2 := o_t2.below h_w4
  have B_w4 := B_w3.trans (h_w4.mono B_w3.size)
  have s_w4 := h_w4.size
  rw [HR0.out]
  have c_aR_0_w4 := x_aR.cell (i := 0) rfl
  have f_aR_0_w4 := x_aR.frozen 0
  have c_aR_1_w4 := x_aR.cell (i := 1) rfl
  have f_aR_1_w4 := x_aR.frozen 1
  have c_aR_2_w4 := x_aR.cell (i := 2) rfl
  have f_aR_2_w4 := x_aR.frozen 2
  have c_aR_3_w4 := x_aR.cell (i := 3) rfl
  have f_aR_3_w4 := x_aR.frozen 3
  have c_aR_4_w4 := x_aR.cell (i := 4) rfl
  have f_aR_4_w4 := x_aR.frozen 4
  have c_aR_5_w4 := x_aR.cell (i := 5) rfl
  have f_aR_5_w4 := x_aR.frozen 5
  have c_aR_6_w4 := x_aR.cell (i := 6) rfl
  have f_aR_6_w4 := x_aR.frozen 6
  have c_aR_7_w4 := x_aR.cell (i := 7) rfl
  have f_aR_7_w4 := x_aR.frozen 7
  have c_aR_8_w4 := x_aR.cell (i := 8) rfl
  have f_aR_8_w4 := x_aR.frozen 8
  go_wp2
  go_ret
  exact ⟨rfl, B_w4⟩

end Go.Proofs.YtkbhbccpmmhelaaDoor
