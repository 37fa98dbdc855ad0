/- The walk of the law FnExactTextRec, laid by a program of ours (lawgen2.py) out of the law's text. -/
import Derived.Test.YtkbhbccpmmhelaaDoorRcJ
namespace Go.Proofs.YtkbhbccpmmhelaaDoor
open Go.RowKit
set_option linter.unusedVariables false

set_option maxRecDepth 100000 in
set_option maxHeartbeats 8000000 in
theorem wTextRec (s : ByteArray) (w : World) (ht : Tab10 w) :
    Calls Tryd.prog 5 #[.string s] w fun e w' => e = .returned (.bool true) ∧ Below w.heap.size w w' := by
  have B0 : Below w.heap.size w w := Below.refl _ _
  by_cases hbig_aS : 1048576 < s.size
  case pos =>
    have i0 : (1048576 : Int) < (s.size : Int) := by omega
    go_enter Tryd.func5, Tryd.ntmps5
    go_wp2
    go_ret
    exact ⟨rfl, B0⟩
  have hm_aS : s.size ≤ 1048576 := by omega
  obtain ⟨R0, hR0⟩ : ∃ R, textRec s = R := ⟨_, rfl⟩
  have HR0 := Lib.hid hR0
  clear hR0
  obtain ⟨R1, hR1⟩ : ∃ R, textRecB s = R := ⟨_, rfl⟩
  have HR1 := Lib.hid hR1
  clear hR1
  go_enter Tryd.func5, Tryd.ntmps5
  go_wp2_with fail
  refine (sTextRec_c s (by omega)).mono ?_
  rintro e w1 ⟨v_w0, rfl, o_w0, h_w1⟩
  have B_w1 := B0.trans (h_w1.mono B0.size)
  have s_w1 := h_w1.size
  rw [HR0.out] at o_w0
  rw [HR1.out]
  obtain rfl := rv_rec o_w0.rd
  obtain ⟨w2, e_w2, s_w2, h_w2, x_w0⟩ := alloc_step w1 26 [.int .i64 R0.Kind, .int .i64 R0.Acct, .int .i64 R0.Other, .int .i64 R0.To, .int .i64 R0.Amt, .int .i64 R0.M.Kind, .int .i64 R0.M.Acct, .int .i64 R0.M.Amt, .int .i64 R0.M.Src]
  have s_w2_1 := Nat.le_of_eq s_w2
  have s_w2_2 := Nat.le_of_eq s_w2.symm
  clear s_w2
  replace o_w0 := o_w0.below h_w2
  have B_w2 := B_w1.trans (h_w2.mono B_w1.size)
  have c_w0_0_w2 := x_w0.cell (i := 0) rfl
  have f_w0_0_w2 := x_w0.frozen 0
  have c_w0_1_w2 := x_w0.cell (i := 1) rfl
  have f_w0_1_w2 := x_w0.frozen 1
  have c_w0_2_w2 := x_w0.cell (i := 2) rfl
  have f_w0_2_w2 := x_w0.frozen 2
  have c_w0_3_w2 := x_w0.cell (i := 3) rfl
  have f_w0_3_w2 := x_w0.frozen 3
  have c_w0_4_w2 := x_w0.cell (i := 4) rfl
  have f_w0_4_w2 := x_w0.frozen 4
  have c_w0_5_w2 := x_w0.cell (i := 5) rfl
  have f_w0_5_w2 := x_w0.frozen 5
  have c_w0_6_w2 := x_w0.cell (i := 6) rfl
  have f_w0_6_w2 := x_w0.frozen 6
  have c_w0_7_w2 := x_w0.cell (i := 7) rfl
  have f_w0_7_w2 := x_w0.frozen 7
  have c_w0_8_w2 := x_w0.cell (i := 8) rfl
  have f_w0_8_w2 := x_w0.frozen 8
  go_wp2_with fail
  refine (iTextRec_c (ht.below B_w2) s (by omega)).mono ?_
  rintro e w3 ⟨v_g0, rfl, o_g0, h_w3⟩
  clear c_w0_0_w2 f_w0_0_w2 c_w0_1_w2 f_w0_1_w2 c_w0_2_w2 f_w0_2_w2 c_w0_3_w2 f_w0_3_w2 c_w0_4_w2 f_w0_4_w2 c_w0_5_w2 f_w0_5_w2 c_w0_6_w2 f_w0_6_w2 c_w0_7_w2 f_w0_7_w2 c_w0_8_w2 f_w0_8_w2
  replace x_w0 := x_w0.from_ h_w3
  replace o_w0 := o_w0.below h_w3
  have B_w3 := B_w2.trans (h_w3.mono B_w2.size)
  have s_w3 := h_w3.size
  rw [HR0.out] at o_g0
  rw [HR1.out]
  obtain rfl := rv_rec o_g0.rd
  have c_w0_0_w3 := x_w0.cell (i := 0) rfl
  have f_w0_0_w3 := x_w0.frozen 0
  have c_w0_1_w3 := x_w0.cell (i := 1) rfl
  have f_w0_1_w3 := x_w0.frozen 1
  have c_w0_2_w3 := x_w0.cell (i := 2) rfl
  have f_w0_2_w3 := x_w0.frozen 2
  have c_w0_3_w3 := x_w0.cell (i := 3) rfl
  have f_w0_3_w3 := x_w0.frozen 3
  have c_w0_4_w3 := x_w0.cell (i := 4) rfl
  have f_w0_4_w3 := x_w0.frozen 4
  have c_w0_5_w3 := x_w0.cell (i := 5) rfl
  have f_w0_5_w3 := x_w0.frozen 5
  have c_w0_6_w3 := x_w0.cell (i := 6) rfl
  have f_w0_6_w3 := x_w0.frozen 6
  have c_w0_7_w3 := x_w0.cell (i := 7) rfl
  have f_w0_7_w3 := x_w0.frozen 7
  have c_w0_8_w3 := x_w0.cell (i := 8) rfl
  have f_w0_8_w3 := x_w0.frozen 8
  obtain ⟨w4, e_w4, s_w4, h_w4, x_g0⟩ := alloc_step w3 26 [.int .i64 R0.Kind, .int .i64 R0.Acct, .int .i64 R0.Other, .int .i64 R0.To, .int .i64 R0.Amt, .int .i64 R0.M.Kind, .int .i64 R0.M.Acct, .int .i64 R0.M.Amt, .int .i64 R0.M.Src]
  have s_w4_1 := Nat.le_of_eq s_w4
  have s_w4_2 := Nat.le_of_eq s_w4.symm
  clear s_w4
  replace x_w0 := x_w0.from_ h_w4
  replace o_w0 := o_w0.below h_w4
  replace o_g0 := o_g0.below h_w4
  have B_w4 := B_w3.trans (h_w4.mono B_w3.size)
  have c_w0_0_w4 := x_w0.cell (i := 0) rfl
  have f_w0_0_w4 := x_w0.frozen 0
  have c_w0_1_w4 := x_w0.cell (i := 1) rfl
  have f_w0_1_w4 := x_w0.frozen 1
  have c_w0_2_w4 := x_w0.cell (i := 2) rfl
  have f_w0_2_w4 := x_w0.frozen 2
  have c_w0_3_w4 := x_w0.cell (i := 3) rfl
  have f_w0_3_w4 := x_w0.frozen 3
  have c_w0_4_w4 := x_w0.cell (i := 4) rfl
  have f_w0_4_w4 := x_w0.frozen 4
  have c_w0_5_w4 := x_w0.cell (i := 5) rfl
  have f_w0_5_w4 := x_w0.frozen 5
  have c_w0_6_w4 := x_w0.cell (i := 6) rfl
  have f_w0_6_w4 := x_w0.frozen 6
  have c_w0_7_w4 := x_w0.cell (i := 7) rfl
  have f_w0_7_w4 := x_w0.frozen 7
  have c_w0_8_w4 := x_w0.cell (i := 8) rfl
  have f_w0_8_w4 := x_w0.frozen 8
  have c_g0_0_w4 := x_g0.cell (i := 0) rfl
  have f_g0_0_w4 := x_g0.frozen 0
  have c_g0_1_w4 := x_g0.cell (i := 1) rfl
  have f_g0_1_w4 := x_g0.frozen 1
  have c_g0_2_w4 := x_g0.cell (i := 2) rfl
  have f_g0_2_w4 := x_g0.frozen 2
  have c_g0_3_w4 := x_g0.cell (i := 3) rfl
  have f_g0_3_w4 := x_g0.frozen 3
  have c_g0_4_w4 := x_g0.cell (i := 4) rfl
  have f_g0_4_w4 := x_g0.frozen 4
  have c_g0_5_w4 := x_g0.cell (i := 5) rfl
  have f_g0_5_w4 := x_g0.frozen 5
  have c_g0_6_w4 := x_g0.cell (i := 6) rfl
  have f_g0_6_w4 := x_g0.frozen 6
  have c_g0_7_w4 := x_g0.cell (i := 7) rfl
  have f_g0_7_w4 := x_g0.frozen 7
  have c_g0_8_w4 := x_g0.cell (i := 8) rfl
  have f_g0_8_w4 := x_g0.frozen 8
  go_wp2_with fail
  refine (eqRec_same o_g0.rd o_w0.rd).mono ?_
  rintro e w5 ⟨rfl, h_w5⟩
  clear c_w0_0_w3 f_w0_0_w3 c_w0_1_w3 f_w0_1_w3 c_w0_2_w3 f_w0_2_w3 c_w0_3_w3 f_w0_3_w3 c_w0_4_w3 f_w0_4_w3 c_w0_5_w3 f_w0_5_w3 c_w0_6_w3 f_w0_6_w3 c_w0_7_w3 f_w0_7_w3 c_w0_8_w3 f_w0_8_w3 c_w0_0_w4 f_w0_0_w4 c_w0_1_w4 f_w0_1_w4 c_w0_2_w4 f_w0_2_w4 c_w0_3_w4 f_w0_3_w4 c_w0_4_w4 f_w0_4_w4 c_w0_5_w4 f_w0_5_w4 c_w0_6_w4 f_w0_6_w4 c_w0_7_w4 f_w0_7_w4 c_w0_8_w4 f_w0_8_w4 c_g0_0_w4 f_g0_0_w4 c_g0_1_w4 f_g0_1_w4 c_g0_2_w4 f_g0_2_w4 c_g0_3_w4 f_g0_3_w4 c_g0_4_w4 f_g0_4_w4 c_g0_5_w4 f_g0_5_w4 c_g0_6_w4 f_g0_6_w4 c_g0_7_w4 f_g0_7_w4 c_g0_8_w4 f_g0_8_w4
  replace x_w0 := x_w0.from_ h_w5
  replace x_g0 := x_g0.from_ h_w5
  replace o_w0 := o_w0.below h_w5
  replace o_g0 := o_g0.below h_w5
  have B_w5 := B_w4.trans (h_w5.mono B_w4.size)
  have s_w5 := h_w5.size
  have c_w0_0_w5 := x_w0.cell (i := 0) rfl
  have f_w0_0_w5 := x_w0.frozen 0
  have c_w0_1_w5 := x_w0.cell (i := 1) rfl
  have f_w0_1_w5 := x_w0.frozen 1
  have c_w0_2_w5 := x_w0.cell (i := 2) rfl
  have f_w0_2_w5 := x_w0.frozen 2
  have c_w0_3_w5 := x_w0.cell (i := 3) rfl
  have f_w0_3_w5 := x_w0.frozen 3
  have c_w0_4_w5 := x_w0.cell (i := 4) rfl
  have f_w0_4_w5 := x_w0.frozen 4
  have c_w0_5_w5 := x_w0.cell (i := 5) rfl
  have f_w0_5_w5 := x_w0.frozen 5
  have c_w0_6_w5 := x_w0.cell (i := 6) rfl
  have f_w0_6_w5 := x_w0.frozen 6
  have c_w0_7_w5 := x_w0.cell (i := 7) rfl
  have f_w0_7_w5 := x_w0.frozen 7
  have c_w0_8_w5 := x_w0.cell (i := 8) rfl
  have f_w0_8_w5 := x_w0.frozen 8
  have c_g0_0_w5 := x_g0.cell (i := 0) rfl
  have f_g0_0_w5 := x_g0.frozen 0
  have c_g0_1_w5 := x_g0.cell (i := 1) rfl
  have f_g0_1_w5 := x_g0.frozen 1
  have c_g0_2_w5 := x_g0.cell (i := 2) rfl
  have f_g0_2_w5 := x_g0.frozen 2
  have c_g0_3_w5 := x_g0.cell (i := 3) rfl
  have f_g0_3_w5 := x_g0.frozen 3
  have c_g0_4_w5 := x_g0.cell (i := 4) rfl
  have f_g0_4_w5 := x_g0.frozen 4
  have c_g0_5_w5 := x_g0.cell (i := 5) rfl
  have f_g0_5_w5 := x_g0.frozen 5
  have c_g0_6_w5 := x_g0.cell (i := 6) rfl
  have f_g0_6_w5 := x_g0.frozen 6
  have c_g0_7_w5 := x_g0.cell (i := 7) rfl
  have f_g0_7_w5 := x_g0.frozen 7
  have c_g0_8_w5 := x_g0.cell (i := 8) rfl
  have f_g0_8_w5 := x_g0.frozen 8
  go_wp2
  go_ret
  exact ⟨rfl, B_w5⟩

end Go.Proofs.YtkbhbccpmmhelaaDoor
