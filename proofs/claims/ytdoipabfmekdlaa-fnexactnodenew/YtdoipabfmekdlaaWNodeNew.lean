/- The walk of the law FnExactNodeNew, laid by a program of ours (lawgen2.py) out of the law's text. -/
import Derived.Test.YtdoipabfmekdlaaNoI4
import Derived.Test.YtdoipabfmekdlaaNo4
import Derived.Test.YtdoipabfmekdlaaBunO
import Derived.Test.YtdoipabfmekdlaaOutC
namespace Go.Proofs.Ytdoipabfmekdlaa
open Go.RowKit
set_option linter.unusedVariables false

set_option maxRecDepth 100000 in
set_option maxHeartbeats 8000000 in
theorem wNodeNew (id : Int) (n : Int) (a : Int) (w : World) (hi : -9223372036854775808 ≤ id ∧ id ≤ 9223372036854775807) (hn : -9223372036854775808 ≤ n ∧ n ≤ 9223372036854775807) (ha : -9223372036854775808 ≤ a ∧ a ≤ 9223372036854775807) :
    Calls Try.prog 4 #[.int .i64 id, .int .i64 n, .int .i64 a] w fun e w' => e = .returned (.bool true) ∧ Below w.heap.size w w' := by
  have B0 : Below w.heap.size w w := Below.refl _ _
  obtain ⟨R0, hR0⟩ : ∃ R, nodeNew id n a = R := ⟨_, rfl⟩
  have hl0 : R0.bulk ≤ 16777216 := by rw [← hR0]; exact nodeNew_bulk id n a
  have hz0 := MNode.steps_le R0
  have HR0 := Lib.hid hR0
  clear hR0
  obtain ⟨R1, hR1⟩ : ∃ R, nodeNewB id n a = R := ⟨_, rfl⟩
  have HR1 := Lib.hid hR1
  clear hR1
  go_enter Try.func4, Try.ntmps4
  go_wp2_with fail
  refine (sNodeNew_c).mono ?_
  rintro e w1 ⟨v_w0, rfl, o_w0, h_w1⟩
  have B_w1 := B0.trans (h_w1.mono B0.size)
  have s_w1 := h_w1.size
  rw [HR0.out] at o_w0
  rw [HR1.out]
  obtain ⟨AAccts_w0, cAccts_w0, AOuts_w0, cOuts_w0, AIns_w0, cIns_w0, AAccs_w0, cAccs_w0, rfl, -, -, -, -⟩ := rv_node o_w0.rd
  obtain ⟨w2, e_w2, s_w2, h_w2, x_w0⟩ := alloc_step w1 34 [.int .i64 R0.Id, .int .i64 R0.N, .slice AAccts_w0 R0.Accts.length cAccts_w0, .slice AOuts_w0 R0.Outs.length cOuts_w0, .slice AIns_w0 R0.Ins.length cIns_w0, .slice AAccs_w0 R0.Accs.length cAccs_w0, .int .i64 R0.Stray, .int .i64 R0.Came, .int .i64 R0.Went]
  have s_w2_1 := Nat.le_of_eq s_w2
  have s_w2_2 := Nat.le_of_eq s_w2.symm
  clear s_w2
  replace o_w0 := o_w0.below h_w2
  have B_w2 := B_w1.trans (h_w2.mono B_w1.size)
  have c_w0_0_w2 := x_w0.cell (i := 0) rfl
  have f_w0_0_w2 := x_w0.frozen 0
  have c_w0_1_w2 := x_w0.cell (i := 1) rfl
  have f_w0_1_w2 := x_w0.frozen 1
  have c_w0_2_w2 := x_w0.cell (i := 2) rfl
  have f_w0_2_w2 := x_w0.frozen 2
  have c_w0_3_w2 := x_w0.cell (i := 3) rfl
  have f_w0_3_w2 := x_w0.frozen 3
  have c_w0_4_w2 := x_w0.cell (i := 4) rfl
  have f_w0_4_w2 := x_w0.frozen 4
  have c_w0_5_w2 := x_w0.cell (i := 5) rfl
  have f_w0_5_w2 := x_w0.frozen 5
  have c_w0_6_w2 := x_w0.cell (i := 6) rfl
  have f_w0_6_w2 := x_w0.frozen 6
  have c_w0_7_w2 := x_w0.cell (i := 7) rfl
  have f_w0_7_w2 := x_w0.frozen 7
  have c_w0_8_w2 := x_w0.cell (i := 8) rfl
  have f_w0_8_w2 := x_w0.frozen 8
  go_wp2_with fail
  refine (iNodeNew_c hi hn ha).mono ?_
  rintro e w3 ⟨v_g0, rfl, o_g0, h_w3⟩
  clear c_w0_0_w2 f_w0_0_w2 c_w0_1_w2 f_w0_1_w2 c_w0_2_w2 f_w0_2_w2 c_w0_3_w2 f_w0_3_w2 c_w0_4_w2 f_w0_4_w2 c_w0_5_w2 f_w0_5_w2 c_w0_6_w2 f_w0_6_w2 c_w0_7_w2 f_w0_7_w2 c_w0_8_w2 f_w0_8_w2
  replace x_w0 := x_w0.from_ h_w3
  replace o_w0 := o_w0.below h_w3
  have B_w3 := B_w2.trans (h_w3.mono B_w2.size)
  have s_w3 := h_w3.size
  rw [HR0.out] at o_g0
  rw [HR1.out]
  obtain ⟨AAccts_g0, cAccts_g0, AOuts_g0, cOuts_g0, AIns_g0, cIns_g0, AAccs_g0, cAccs_g0, rfl, -, -, -, -⟩ := rv_node o_g0.rd
  have c_w0_0_w3 := x_w0.cell (i := 0) rfl
  have f_w0_0_w3 := x_w0.frozen 0
  have c_w0_1_w3 := x_w0.cell (i := 1) rfl
  have f_w0_1_w3 := x_w0.frozen 1
  have c_w0_2_w3 := x_w0.cell (i := 2) rfl
  have f_w0_2_w3 := x_w0.frozen 2
  have c_w0_3_w3 := x_w0.cell (i := 3) rfl
  have f_w0_3_w3 := x_w0.frozen 3
  have c_w0_4_w3 := x_w0.cell (i := 4) rfl
  have f_w0_4_w3 := x_w0.frozen 4
  have c_w0_5_w3 := x_w0.cell (i := 5) rfl
  have f_w0_5_w3 := x_w0.frozen 5
  have c_w0_6_w3 := x_w0.cell (i := 6) rfl
  have f_w0_6_w3 := x_w0.frozen 6
  have c_w0_7_w3 := x_w0.cell (i := 7) rfl
  have f_w0_7_w3 := x_w0.frozen 7
  have c_w0_8_w3 := x_w0.cell (i := 8) rfl
  have f_w0_8_w3 := x_w0.frozen 8
  obtain ⟨w4, e_w4, s_w4, h_w4, x_g0⟩ := alloc_step w3 34 [.int .i64 R0.Id, .int .i64 R0.N, .slice AAccts_g0 R0.Accts.length cAccts_g0, .slice AOuts_g0 R0.Outs.length cOuts_g0, .slice AIns_g0 R0.Ins.length cIns_g0, .slice AAccs_g0 R0.Accs.length cAccs_g0, .int .i64 R0.Stray, .int .i64 R0.Came, .int .i64 R0.Went]
  have s_w4_1 := Nat.le_of_eq s_w4
  have s_w4_2 := Nat.le_of_eq s_w4.symm
  clear s_w4
  replace x_w0 := x_w0.from_ h_w4
  replace o_w0 := o_w0.below h_w4
  replace o_g0 := o_g0.below h_w4
  have B_w4 := B_w3.trans (h_w4.mono B_w3.size)
  have c_w0_0_w4 := x_w0.cell (i := 0) rfl
  have f_w0_0_w4 := x_w0.frozen 0
  have c_w0_1_w4 := x_w0.cell (i := 1) rfl
  have f_w0_1_w4 := x_w0.frozen 1
  have c_w0_2_w4 := x_w0.cell (i := 2) rfl
  have f_w0_2_w4 := x_w0.frozen 2
  have c_w0_3_w4 := x_w0.cell (i := 3) rfl
  have f_w0_3_w4 := x_w0.frozen 3
  have c_w0_4_w4 := x_w0.cell (i := 4) rfl
  have f_w0_4_w4 := x_w0.frozen 4
  have c_w0_5_w4 := x_w0.cell (i := 5) rfl
  have f_w0_5_w4 := x_w0.frozen 5
  have c_w0_6_w4 := x_w0.cell (i := 6) rfl
  have f_w0_6_w4 := x_w0.frozen 6
  have c_w0_7_w4 := x_w0.cell (i := 7) rfl
  have f_w0_7_w4 := x_w0.frozen 7
  have c_w0_8_w4 := x_w0.cell (i := 8) rfl
  have f_w0_8_w4 := x_w0.frozen 8
  have c_g0_0_w4 := x_g0.cell (i := 0) rfl
  have f_g0_0_w4 := x_g0.frozen 0
  have c_g0_1_w4 := x_g0.cell (i := 1) rfl
  have f_g0_1_w4 := x_g0.frozen 1
  have c_g0_2_w4 := x_g0.cell (i := 2) rfl
  have f_g0_2_w4 := x_g0.frozen 2
  have c_g0_3_w4 := x_g0.cell (i := 3) rfl
  have f_g0_3_w4 := x_g0.frozen 3
  have c_g0_4_w4 := x_g0.cell (i := 4) rfl
  have f_g0_4_w4 := x_g0.frozen 4
  have c_g0_5_w4 := x_g0.cell (i := 5) rfl
  have f_g0_5_w4 := x_g0.frozen 5
  have c_g0_6_w4 := x_g0.cell (i := 6) rfl
  have f_g0_6_w4 := x_g0.frozen 6
  have c_g0_7_w4 := x_g0.cell (i := 7) rfl
  have f_g0_7_w4 := x_g0.frozen 7
  have c_g0_8_w4 := x_g0.cell (i := 8) rfl
  have f_g0_8_w4 := x_g0.frozen 8
  go_wp2_with fail
  refine (eqNode_same o_g0.rd o_w0.rd (by omega)).mono ?_
  rintro e w5 ⟨rfl, h_w5⟩
  clear c_w0_0_w3 f_w0_0_w3 c_w0_1_w3 f_w0_1_w3 c_w0_2_w3 f_w0_2_w3 c_w0_3_w3 f_w0_3_w3 c_w0_4_w3 f_w0_4_w3 c_w0_5_w3 f_w0_5_w3 c_w0_6_w3 f_w0_6_w3 c_w0_7_w3 f_w0_7_w3 c_w0_8_w3 f_w0_8_w3 c_w0_0_w4 f_w0_0_w4 c_w0_1_w4 f_w0_1_w4 c_w0_2_w4 f_w0_2_w4 c_w0_3_w4 f_w0_3_w4 c_w0_4_w4 f_w0_4_w4 c_w0_5_w4 f_w0_5_w4 c_w0_6_w4 f_w0_6_w4 c_w0_7_w4 f_w0_7_w4 c_w0_8_w4 f_w0_8_w4 c_g0_0_w4 f_g0_0_w4 c_g0_1_w4 f_g0_1_w4 c_g0_2_w4 f_g0_2_w4 c_g0_3_w4 f_g0_3_w4 c_g0_4_w4 f_g0_4_w4 c_g0_5_w4 f_g0_5_w4 c_g0_6_w4 f_g0_6_w4 c_g0_7_w4 f_g0_7_w4 c_g0_8_w4 f_g0_8_w4
  replace x_w0 := x_w0.from_ h_w5
  replace x_g0 := x_g0.from_ h_w5
  replace o_w0 := o_w0.below h_w5
  replace o_g0 := o_g0.below h_w5
  have B_w5 := B_w4.trans (h_w5.mono B_w4.size)
  have s_w5 := h_w5.size
  have c_w0_0_w5 := x_w0.cell (i := 0) rfl
  have f_w0_0_w5 := x_w0.frozen 0
  have c_w0_1_w5 := x_w0.cell (i := 1) rfl
  have f_w0_1_w5 := x_w0.frozen 1
  have c_w0_2_w5 := x_w0.cell (i := 2) rfl
  have f_w0_2_w5 := x_w0.frozen 2
  have c_w0_3_w5 := x_w0.cell (i := 3) rfl
  have f_w0_3_w5 := x_w0.frozen 3
  have c_w0_4_w5 := x_w0.cell (i := 4) rfl
  have f_w0_4_w5 := x_w0.frozen 4
  have c_w0_5_w5 := x_w0.cell (i := 5) rfl
  have f_w0_5_w5 := x_w0.frozen 5
  have c_w0_6_w5 := x_w0.cell (i := 6) rfl
  have f_w0_6_w5 := x_w0.frozen 6
  have c_w0_7_w5 := x_w0.cell (i := 7) rfl
  have f_w0_7_w5 := x_w0.frozen 7
  have c_w0_8_w5 := x_w0.cell (i := 8) rfl
  have f_w0_8_w5 := x_w0.frozen 8
  have c_g0_0_w5 := x_g0.cell (i := 0) rfl
  have f_g0_0_w5 := x_g0.frozen 0
  have c_g0_1_w5 := x_g0.cell (i := 1) rfl
  have f_g0_1_w5 := x_g0.frozen 1
  have c_g0_2_w5 := x_g0.cell (i := 2) rfl
  have f_g0_2_w5 := x_g0.frozen 2
  have c_g0_3_w5 := x_g0.cell (i := 3) rfl
  have f_g0_3_w5 := x_g0.frozen 3
  have c_g0_4_w5 := x_g0.cell (i := 4) rfl
  have f_g0_4_w5 := x_g0.frozen 4
  have c_g0_5_w5 := x_g0.cell (i := 5) rfl
  have f_g0_5_w5 := x_g0.frozen 5
  have c_g0_6_w5 := x_g0.cell (i := 6) rfl
  have f_g0_6_w5 := x_g0.frozen 6
  have c_g0_7_w5 := x_g0.cell (i := 7) rfl
  have f_g0_7_w5 := x_g0.frozen 7
  have c_g0_8_w5 := x_g0.cell (i := 8) rfl
  have f_g0_8_w5 := x_g0.frozen 8
  go_wp2_with fail
  refine (markNode_c o_g0 (by omega) (by omega) (by omega)).mono ?_
  rintro e w6 ⟨rfl, y, h_w6⟩
  clear c_w0_0_w5 f_w0_0_w5 c_w0_1_w5 f_w0_1_w5 c_w0_2_w5 f_w0_2_w5 c_w0_3_w5 f_w0_3_w5 c_w0_4_w5 f_w0_4_w5 c_w0_5_w5 f_w0_5_w5 c_w0_6_w5 f_w0_6_w5 c_w0_7_w5 f_w0_7_w5 c_w0_8_w5 f_w0_8_w5 c_g0_0_w5 f_g0_0_w5 c_g0_1_w5 f_g0_1_w5 c_g0_2_w5 f_g0_2_w5 c_g0_3_w5 f_g0_3_w5 c_g0_4_w5 f_g0_4_w5 c_g0_5_w5 f_g0_5_w5 c_g0_6_w5 f_g0_6_w5 c_g0_7_w5 f_g0_7_w5 c_g0_8_w5 f_g0_8_w5
  replace x_w0 := x_w0.chg h_w6 (by omega)
  replace x_g0 := x_g0.chg h_w6 (by omega)
  replace o_w0 := o_w0.chg h_w6 (by omega)
  have B_w6 := Below.chg_ B_w5 h_w6 (by omega) (by omega)
  have s_w6 := h_w6.size
  replace o_g0 := y
  clear y
  have c_w0_0_w6 := x_w0.cell (i := 0) rfl
  have f_w0_0_w6 := x_w0.frozen 0
  have c_w0_1_w6 := x_w0.cell (i := 1) rfl
  have f_w0_1_w6 := x_w0.frozen 1
  have c_w0_2_w6 := x_w0.cell (i := 2) rfl
  have f_w0_2_w6 := x_w0.frozen 2
  have c_w0_3_w6 := x_w0.cell (i := 3) rfl
  have f_w0_3_w6 := x_w0.frozen 3
  have c_w0_4_w6 := x_w0.cell (i := 4) rfl
  have f_w0_4_w6 := x_w0.frozen 4
  have c_w0_5_w6 := x_w0.cell (i := 5) rfl
  have f_w0_5_w6 := x_w0.frozen 5
  have c_w0_6_w6 := x_w0.cell (i := 6) rfl
  have f_w0_6_w6 := x_w0.frozen 6
  have c_w0_7_w6 := x_w0.cell (i := 7) rfl
  have f_w0_7_w6 := x_w0.frozen 7
  have c_w0_8_w6 := x_w0.cell (i := 8) rfl
  have f_w0_8_w6 := x_w0.frozen 8
  have c_g0_0_w6 := x_g0.cell (i := 0) rfl
  have f_g0_0_w6 := x_g0.frozen 0
  have c_g0_1_w6 := x_g0.cell (i := 1) rfl
  have f_g0_1_w6 := x_g0.frozen 1
  have c_g0_2_w6 := x_g0.cell (i := 2) rfl
  have f_g0_2_w6 := x_g0.frozen 2
  have c_g0_3_w6 := x_g0.cell (i := 3) rfl
  have f_g0_3_w6 := x_g0.frozen 3
  have c_g0_4_w6 := x_g0.cell (i := 4) rfl
  have f_g0_4_w6 := x_g0.frozen 4
  have c_g0_5_w6 := x_g0.cell (i := 5) rfl
  have f_g0_5_w6 := x_g0.frozen 5
  have c_g0_6_w6 := x_g0.cell (i := 6) rfl
  have f_g0_6_w6 := x_g0.frozen 6
  have c_g0_7_w6 := x_g0.cell (i := 7) rfl
  have f_g0_7_w6 := x_g0.frozen 7
  have c_g0_8_w6 := x_g0.cell (i := 8) rfl
  have f_g0_8_w6 := x_g0.frozen 8
  go_wp2_with fail
  refine (heldNode_c o_g0.rd (by omega) (by omega) (by omega)).mono ?_
  rintro e w7 ⟨rfl, h_w7⟩
  clear c_w0_0_w6 f_w0_0_w6 c_w0_1_w6 f_w0_1_w6 c_w0_2_w6 f_w0_2_w6 c_w0_3_w6 f_w0_3_w6 c_w0_4_w6 f_w0_4_w6 c_w0_5_w6 f_w0_5_w6 c_w0_6_w6 f_w0_6_w6 c_w0_7_w6 f_w0_7_w6 c_w0_8_w6 f_w0_8_w6 c_g0_0_w6 f_g0_0_w6 c_g0_1_w6 f_g0_1_w6 c_g0_2_w6 f_g0_2_w6 c_g0_3_w6 f_g0_3_w6 c_g0_4_w6 f_g0_4_w6 c_g0_5_w6 f_g0_5_w6 c_g0_6_w6 f_g0_6_w6 c_g0_7_w6 f_g0_7_w6 c_g0_8_w6 f_g0_8_w6
  replace x_w0 := x_w0.from_ h_w7
  replace x_g0 := x_g0.from_ h_w7
  replace o_w0 := o_w0.below h_w7
  replace o_g0 := o_g0.below h_w7
  have B_w7 := B_w6.trans (h_w7.mono B_w6.size)
  have s_w7 := h_w7.size
  have c_w0_0_w7 := x_w0.cell (i := 0) rfl
  have f_w0_0_w7 := x_w0.frozen 0
  have c_w0_1_w7 := x_w0.cell (i := 1) rfl
  have f_w0_1_w7 := x_w0.frozen 1
  have c_w0_2_w7 := x_w0.cell (i := 2) rfl
  have f_w0_2_w7 := x_w0.frozen 2
  have c_w0_3_w7 := x_w0.cell (i := 3) rfl
  have f_w0_3_w7 := x_w0.frozen 3
  have c_w0_4_w7 := x_w0.cell (i := 4) rfl
  have f_w0_4_w7 := x_w0.frozen 4
  have c_w0_5_w7 := x_w0.cell (i := 5) rfl
  have f_w0_5_w7 := x_w0.frozen 5
  have c_w0_6_w7 := x_w0.cell (i := 6) rfl
  have f_w0_6_w7 := x_w0.frozen 6
  have c_w0_7_w7 := x_w0.cell (i := 7) rfl
  have f_w0_7_w7 := x_w0.frozen 7
  have c_w0_8_w7 := x_w0.cell (i := 8) rfl
  have f_w0_8_w7 := x_w0.frozen 8
  have c_g0_0_w7 := x_g0.cell (i := 0) rfl
  have f_g0_0_w7 := x_g0.frozen 0
  have c_g0_1_w7 := x_g0.cell (i := 1) rfl
  have f_g0_1_w7 := x_g0.frozen 1
  have c_g0_2_w7 := x_g0.cell (i := 2) rfl
  have f_g0_2_w7 := x_g0.frozen 2
  have c_g0_3_w7 := x_g0.cell (i := 3) rfl
  have f_g0_3_w7 := x_g0.frozen 3
  have c_g0_4_w7 := x_g0.cell (i := 4) rfl
  have f_g0_4_w7 := x_g0.frozen 4
  have c_g0_5_w7 := x_g0.cell (i := 5) rfl
  have f_g0_5_w7 := x_g0.frozen 5
  have c_g0_6_w7 := x_g0.cell (i := 6) rfl
  have f_g0_6_w7 := x_g0.frozen 6
  have c_g0_7_w7 := x_g0.cell (i := 7) rfl
  have f_g0_7_w7 := x_g0.frozen 7
  have c_g0_8_w7 := x_g0.cell (i := 8) rfl
  have f_g0_8_w7 := x_g0.frozen 8
  go_wp2_with fail
  refine (iNodeNew_c hi hn ha).mono ?_
  rintro e w8 ⟨v_h0, rfl, o_h0, h_w8⟩
  clear c_w0_0_w7 f_w0_0_w7 c_w0_1_w7 f_w0_1_w7 c_w0_2_w7 f_w0_2_w7 c_w0_3_w7 f_w0_3_w7 c_w0_4_w7 f_w0_4_w7 c_w0_5_w7 f_w0_5_w7 c_w0_6_w7 f_w0_6_w7 c_w0_7_w7 f_w0_7_w7 c_w0_8_w7 f_w0_8_w7 c_g0_0_w7 f_g0_0_w7 c_g0_1_w7 f_g0_1_w7 c_g0_2_w7 f_g0_2_w7 c_g0_3_w7 f_g0_3_w7 c_g0_4_w7 f_g0_4_w7 c_g0_5_w7 f_g0_5_w7 c_g0_6_w7 f_g0_6_w7 c_g0_7_w7 f_g0_7_w7 c_g0_8_w7 f_g0_8_w7
  replace x_w0 := x_w0.from_ h_w8
  replace x_g0 := x_g0.from_ h_w8
  replace o_w0 := o_w0.below h_w8
  replace o_g0 := o_g0.below h_w8
  have B_w8 := B_w7.trans (h_w8.mono B_w7.size)
  have s_w8 := h_w8.size
  rw [HR0.out] at o_h0
  rw [HR1.out]
  obtain ⟨AAccts_h0, cAccts_h0, AOuts_h0, cOuts_h0, AIns_h0, cIns_h0, AAccs_h0, cAccs_h0, rfl, -, -, -, -⟩ := rv_node o_h0.rd
  have c_w0_0_w8 := x_w0.cell (i := 0) rfl
  have f_w0_0_w8 := x_w0.frozen 0
  have c_w0_1_w8 := x_w0.cell (i := 1) rfl
  have f_w0_1_w8 := x_w0.frozen 1
  have c_w0_2_w8 := x_w0.cell (i := 2) rfl
  have f_w0_2_w8 := x_w0.frozen 2
  have c_w0_3_w8 := x_w0.cell (i := 3) rfl
  have f_w0_3_w8 := x_w0.frozen 3
  have c_w0_4_w8 := x_w0.cell (i := 4) rfl
  have f_w0_4_w8 := x_w0.frozen 4
  have c_w0_5_w8 := x_w0.cell (i := 5) rfl
  have f_w0_5_w8 := x_w0.frozen 5
  have c_w0_6_w8 := x_w0.cell (i := 6) rfl
  have f_w0_6_w8 := x_w0.frozen 6
  have c_w0_7_w8 := x_w0.cell (i := 7) rfl
  have f_w0_7_w8 := x_w0.frozen 7
  have c_w0_8_w8 := x_w0.cell (i := 8) rfl
  have f_w0_8_w8 := x_w0.frozen 8
  have c_g0_0_w8 := x_g0.cell (i := 0) rfl
  have f_g0_0_w8 := x_g0.frozen 0
  have c_g0_1_w8 := x_g0.cell (i := 1) rfl
  have f_g0_1_w8 := x_g0.frozen 1
  have c_g0_2_w8 := x_g0.cell (i := 2) rfl
  have f_g0_2_w8 := x_g0.frozen 2
  have c_g0_3_w8 := x_g0.cell (i := 3) rfl
  have f_g0_3_w8 := x_g0.frozen 3
  have c_g0_4_w8 := x_g0.cell (i := 4) rfl
  have f_g0_4_w8 := x_g0.frozen 4
  have c_g0_5_w8 := x_g0.cell (i := 5) rfl
  have f_g0_5_w8 := x_g0.frozen 5
  have c_g0_6_w8 := x_g0.cell (i := 6) rfl
  have f_g0_6_w8 := x_g0.frozen 6
  have c_g0_7_w8 := x_g0.cell (i := 7) rfl
  have f_g0_7_w8 := x_g0.frozen 7
  have c_g0_8_w8 := x_g0.cell (i := 8) rfl
  have f_g0_8_w8 := x_g0.frozen 8
  obtain ⟨w9, e_w9, s_w9, h_w9, x_h0⟩ := alloc_step w8 34 [.int .i64 R0.Id, .int .i64 R0.N, .slice AAccts_h0 R0.Accts.length cAccts_h0, .slice AOuts_h0 R0.Outs.length cOuts_h0, .slice AIns_h0 R0.Ins.length cIns_h0, .slice AAccs_h0 R0.Accs.length cAccs_h0, .int .i64 R0.Stray, .int .i64 R0.Came, .int .i64 R0.Went]
  have s_w9_1 := Nat.le_of_eq s_w9
  have s_w9_2 := Nat.le_of_eq s_w9.symm
  clear s_w9
  replace x_w0 := x_w0.from_ h_w9
  replace x_g0 := x_g0.from_ h_w9
  replace o_w0 := o_w0.below h_w9
  replace o_g0 := o_g0.below h_w9
  replace o_h0 := o_h0.below h_w9
  have B_w9 := B_w8.trans (h_w9.mono B_w8.size)
  have c_w0_0_w9 := x_w0.cell (i := 0) rfl
  have f_w0_0_w9 := x_w0.frozen 0
  have c_w0_1_w9 := x_w0.cell (i := 1) rfl
  have f_w0_1_w9 := x_w0.frozen 1
  have c_w0_2_w9 := x_w0.cell (i := 2) rfl
  have f_w0_2_w9 := x_w0.frozen 2
  have c_w0_3_w9 := x_w0.cell (i := 3) rfl
  have f_w0_3_w9 := x_w0.frozen 3
  have c_w0_4_w9 := x_w0.cell (i := 4) rfl
  have f_w0_4_w9 := x_w0.frozen 4
  have c_w0_5_w9 := x_w0.cell (i := 5) rfl
  have f_w0_5_w9 := x_w0.frozen 5
  have c_w0_6_w9 := x_w0.cell (i := 6) rfl
  have f_w0_6_w9 := x_w0.frozen 6
  have c_w0_7_w9 := x_w0.cell (i := 7) rfl
  have f_w0_7_w9 := x_w0.frozen 7
  have c_w0_8_w9 := x_w0.cell (i := 8) rfl
  have f_w0_8_w9 := x_w0.frozen 8
  have c_g0_0_w9 := x_g0.cell (i := 0) rfl
  have f_g0_0_w9 := x_g0.frozen 0
  have c_g0_1_w9 := x_g0.cell (i := 1) rfl
  have f_g0_1_w9 := x_g0.frozen 1
  have c_g0_2_w9 := x_g0.cell (i := 2) rfl
  have f_g0_2_w9 := x_g0.frozen 2
  have c_g0_3_w9 := x_g0.cell (i := 3) rfl
  have f_g0_3_w9 := x_g0.frozen 3
  have c_g0_4_w9 := x_g0.cell (i := 4) rfl
  have f_g0_4_w9 := x_g0.frozen 4
  have c_g0_5_w9 := x_g0.cell (i := 5) rfl
  have f_g0_5_w9 := x_g0.frozen 5
  have c_g0_6_w9 := x_g0.cell (i := 6) rfl
  have f_g0_6_w9 := x_g0.frozen 6
  have c_g0_7_w9 := x_g0.cell (i := 7) rfl
  have f_g0_7_w9 := x_g0.frozen 7
  have c_g0_8_w9 := x_g0.cell (i := 8) rfl
  have f_g0_8_w9 := x_g0.frozen 8
  have c_h0_0_w9 := x_h0.cell (i := 0) rfl
  have f_h0_0_w9 := x_h0.frozen 0
  have c_h0_1_w9 := x_h0.cell (i := 1) rfl
  have f_h0_1_w9 := x_h0.frozen 1
  have c_h0_2_w9 := x_h0.cell (i := 2) rfl
  have f_h0_2_w9 := x_h0.frozen 2
  have c_h0_3_w9 := x_h0.cell (i := 3) rfl
  have f_h0_3_w9 := x_h0.frozen 3
  have c_h0_4_w9 := x_h0.cell (i := 4) rfl
  have f_h0_4_w9 := x_h0.frozen 4
  have c_h0_5_w9 := x_h0.cell (i := 5) rfl
  have f_h0_5_w9 := x_h0.frozen 5
  have c_h0_6_w9 := x_h0.cell (i := 6) rfl
  have f_h0_6_w9 := x_h0.frozen 6
  have c_h0_7_w9 := x_h0.cell (i := 7) rfl
  have f_h0_7_w9 := x_h0.frozen 7
  have c_h0_8_w9 := x_h0.cell (i := 8) rfl
  have f_h0_8_w9 := x_h0.frozen 8
  go_wp2_with fail
  refine (eqNode_same o_h0.rd o_w0.rd (by omega)).mono ?_
  rintro e w10 ⟨rfl, h_w10⟩
  clear c_w0_0_w8 f_w0_0_w8 c_w0_1_w8 f_w0_1_w8 c_w0_2_w8 f_w0_2_w8 c_w0_3_w8 f_w0_3_w8 c_w0_4_w8 f_w0_4_w8 c_w0_5_w8 f_w0_5_w8 c_w0_6_w8 f_w0_6_w8 c_w0_7_w8 f_w0_7_w8 c_w0_8_w8 f_w0_8_w8 c_g0_0_w8 f_g0_0_w8 c_g0_1_w8 f_g0_1_w8 c_g0_2_w8 f_g0_2_w8 c_g0_3_w8 f_g0_3_w8 c_g0_4_w8 f_g0_4_w8 c_g0_5_w8 f_g0_5_w8 c_g0_6_w8 f_g0_6_w8 c_g0_7_w8 f_g0_7_w8 c_g0_8_w8 f_g0_8_w8 c_w0_0_w9 f_w0_0_w9 c_w0_1_w9 f_w0_1_w9 c_w0_2_w9 f_w0_2_w9 c_w0_3_w9 f_w0_3_w9 c_w0_4_w9 f_w0_4_w9 c_w0_5_w9 f_w0_5_w9 c_w0_6_w9 f_w0_6_w9 c_w0_7_w9 f_w0_7_w9 c_w0_8_w9 f_w0_8_w9 c_g0_0_w9 f_g0_0_w9 c_g0_1_w9 f_g0_1_w9 c_g0_2_w9 f_g0_2_w9 c_g0_3_w9 f_g0_3_w9 c_g0_4_w9 f_g0_4_w9 c_g0_5_w9 f_g0_5_w9 c_g0_6_w9 f_g0_6_w9 c_g0_7_w9 f_g0_7_w9 c_g0_8_w9 f_g0_8_w9 c_h0_0_w9 f_h0_0_w9 c_h0_1_w9 f_h0_1_w9 c_h0_2_w9 f_h0_2_w9 c_h0_3_w9 f_h0_3_w9 c_h0_4_w9 f_h0_4_w9 c_h0_5_w9 f_h0_5_w9 c_h0_6_w9 f_h0_6_w9 c_h0_7_w9 f_h0_7_w9 c_h0_8_w9 f_h0_8_w9
  replace x_w0 := x_w0.from_ h_w10
  replace x_g0 := x_g0.from_ h_w10
  replace x_h0 := x_h0.from_ h_w10
  replace o_w0 := o_w0.below h_w10
  replace o_g0 := o_g0.below h_w10
  replace o_h0 := o_h0.below h_w10
  have B_w10 := B_w9.trans (h_w10.mono B_w9.size)
  have s_w10 := h_w10.size
  have c_w0_0_w10 := x_w0.cell (i := 0) rfl
  have f_w0_0_w10 := x_w0.frozen 0
  have c_w0_1_w10 := x_w0.cell (i := 1) rfl
  have f_w0_1_w10 := x_w0.frozen 1
  have c_w0_2_w10 := x_w0.cell (i := 2) rfl
  have f_w0_2_w10 := x_w0.frozen 2
  have c_w0_3_w10 := x_w0.cell (i := 3) rfl
  have f_w0_3_w10 := x_w0.frozen 3
  have c_w0_4_w10 := x_w0.cell (i := 4) rfl
  have f_w0_4_w10 := x_w0.frozen 4
  have c_w0_5_w10 := x_w0.cell (i := 5) rfl
  have f_w0_5_w10 := x_w0.frozen 5
  have c_w0_6_w10 := x_w0.cell (i := 6) rfl
  have f_w0_6_w10 := x_w0.frozen 6
  have c_w0_7_w10 := x_w0.cell (i := 7) rfl
  have f_w0_7_w10 := x_w0.frozen 7
  have c_w0_8_w10 := x_w0.cell (i := 8) rfl
  have f_w0_8_w10 := x_w0.frozen 8
  have c_g0_0_w10 := x_g0.cell (i := 0) rfl
  have f_g0_0_w10 := x_g0.frozen 0
  have c_g0_1_w10 := x_g0.cell (i := 1) rfl
  have f_g0_1_w10 := x_g0.frozen 1
  have c_g0_2_w10 := x_g0.cell (i := 2) rfl
  have f_g0_2_w10 := x_g0.frozen 2
  have c_g0_3_w10 := x_g0.cell (i := 3) rfl
  have f_g0_3_w10 := x_g0.frozen 3
  have c_g0_4_w10 := x_g0.cell (i := 4) rfl
  have f_g0_4_w10 := x_g0.frozen 4
  have c_g0_5_w10 := x_g0.cell (i := 5) rfl
  have f_g0_5_w10 := x_g0.frozen 5
  have c_g0_6_w10 := x_g0.cell (i := 6) rfl
  have f_g0_6_w10 := x_g0.frozen 6
  have c_g0_7_w10 := x_g0.cell (i := 7) rfl
  have f_g0_7_w10 := x_g0.frozen 7
  have c_g0_8_w10 := x_g0.cell (i := 8) rfl
  have f_g0_8_w10 := x_g0.frozen 8
  have c_h0_0_w10 := x_h0.cell (i := 0) rfl
  have f_h0_0_w10 := x_h0.frozen 0
  have c_h0_1_w10 := x_h0.cell (i := 1) rfl
  have f_h0_1_w10 := x_h0.frozen 1
  have c_h0_2_w10 := x_h0.cell (i := 2) rfl
  have f_h0_2_w10 := x_h0.frozen 2
  have c_h0_3_w10 := x_h0.cell (i := 3) rfl
  have f_h0_3_w10 := x_h0.frozen 3
  have c_h0_4_w10 := x_h0.cell (i := 4) rfl
  have f_h0_4_w10 := x_h0.frozen 4
  have c_h0_5_w10 := x_h0.cell (i := 5) rfl
  have f_h0_5_w10 := x_h0.frozen 5
  have c_h0_6_w10 := x_h0.cell (i := 6) rfl
  have f_h0_6_w10 := x_h0.frozen 6
  have c_h0_7_w10 := x_h0.cell (i := 7) rfl
  have f_h0_7_w10 := x_h0.frozen 7
  have c_h0_8_w10 := x_h0.cell (i := 8) rfl
  have f_h0_8_w10 := x_h0.frozen 8
  go_wp2_with fail
  refine (heldNode_c o_g0.rd (by omega) (by omega) (by omega)).mono ?_
  rintro e w11 ⟨rfl, h_w11⟩
  clear c_w0_0_w10 f_w0_0_w10 c_w0_1_w10 f_w0_1_w10 c_w0_2_w10 f_w0_2_w10 c_w0_3_w10 f_w0_3_w10 c_w0_4_w10 f_w0_4_w10 c_w0_5_w10 f_w0_5_w10 c_w0_6_w10 f_w0_6_w10 c_w0_7_w10 f_w0_7_w10 c_w0_8_w10 f_w0_8_w10 c_g0_0_w10 f_g0_0_w10 c_g0_1_w10 f_g0_1_w10 c_g0_2_w10 f_g0_2_w10 c_g0_3_w10 f_g0_3_w10 c_g0_4_w10 f_g0_4_w10 c_g0_5_w10 f_g0_5_w10 c_g0_6_w10 f_g0_6_w10 c_g0_7_w10 f_g0_7_w10 c_g0_8_w10 f_g0_8_w10 c_h0_0_w10 f_h0_0_w10 c_h0_1_w10 f_h0_1_w10 c_h0_2_w10 f_h0_2_w10 c_h0_3_w10 f_h0_3_w10 c_h0_4_w10 f_h0_4_w10 c_h0_5_w10 f_h0_5_w10 c_h0_6_w10 f_h0_6_w10 c_h0_7_w10 f_h0_7_w10 c_h0_8_w10 f_h0_8_w10
  replace x_w0 := x_w0.from_ h_w11
  replace x_g0 := x_g0.from_ h_w11
  replace x_h0 := x_h0.from_ h_w11
  replace o_w0 := o_w0.below h_w11
  replace o_g0 := o_g0.below h_w11
  replace o_h0 := o_h0.below h_w11
  have B_w11 := B_w10.trans (h_w11.mono B_w10.size)
  have s_w11 := h_w11.size
  have c_w0_0_w11 := x_w0.cell (i := 0) rfl
  have f_w0_0_w11 := x_w0.frozen 0
  have c_w0_1_w11 := x_w0.cell (i := 1) rfl
  have f_w0_1_w11 := x_w0.frozen 1
  have c_w0_2_w11 := x_w0.cell (i := 2) rfl
  have f_w0_2_w11 := x_w0.frozen 2
  have c_w0_3_w11 := x_w0.cell (i := 3) rfl
  have f_w0_3_w11 := x_w0.frozen 3
  have c_w0_4_w11 := x_w0.cell (i := 4) rfl
  have f_w0_4_w11 := x_w0.frozen 4
  have c_w0_5_w11 := x_w0.cell (i := 5) rfl
  have f_w0_5_w11 := x_w0.frozen 5
  have c_w0_6_w11 := x_w0.cell (i := 6) rfl
  have f_w0_6_w11 := x_w0.frozen 6
  have c_w0_7_w11 := x_w0.cell (i := 7) rfl
  have f_w0_7_w11 := x_w0.frozen 7
  have c_w0_8_w11 := x_w0.cell (i := 8) rfl
  have f_w0_8_w11 := x_w0.frozen 8
  have c_g0_0_w11 := x_g0.cell (i := 0) rfl
  have f_g0_0_w11 := x_g0.frozen 0
  have c_g0_1_w11 := x_g0.cell (i := 1) rfl
  have f_g0_1_w11 := x_g0.frozen 1
  have c_g0_2_w11 := x_g0.cell (i := 2) rfl
  have f_g0_2_w11 := x_g0.frozen 2
  have c_g0_3_w11 := x_g0.cell (i := 3) rfl
  have f_g0_3_w11 := x_g0.frozen 3
  have c_g0_4_w11 := x_g0.cell (i := 4) rfl
  have f_g0_4_w11 := x_g0.frozen 4
  have c_g0_5_w11 := x_g0.cell (i := 5) rfl
  have f_g0_5_w11 := x_g0.frozen 5
  have c_g0_6_w11 := x_g0.cell (i := 6) rfl
  have f_g0_6_w11 := x_g0.frozen 6
  have c_g0_7_w11 := x_g0.cell (i := 7) rfl
  have f_g0_7_w11 := x_g0.frozen 7
  have c_g0_8_w11 := x_g0.cell (i := 8) rfl
  have f_g0_8_w11 := x_g0.frozen 8
  have c_h0_0_w11 := x_h0.cell (i := 0) rfl
  have f_h0_0_w11 := x_h0.frozen 0
  have c_h0_1_w11 := x_h0.cell (i := 1) rfl
  have f_h0_1_w11 := x_h0.frozen 1
  have c_h0_2_w11 := x_h0.cell (i := 2) rfl
  have f_h0_2_w11 := x_h0.frozen 2
  have c_h0_3_w11 := x_h0.cell (i := 3) rfl
  have f_h0_3_w11 := x_h0.frozen 3
  have c_h0_4_w11 := x_h0.cell (i := 4) rfl
  have f_h0_4_w11 := x_h0.frozen 4
  have c_h0_5_w11 := x_h0.cell (i := 5) rfl
  have f_h0_5_w11 := x_h0.frozen 5
  have c_h0_6_w11 := x_h0.cell (i := 6) rfl
  have f_h0_6_w11 := x_h0.frozen 6
  have c_h0_7_w11 := x_h0.cell (i := 7) rfl
  have f_h0_7_w11 := x_h0.frozen 7
  have c_h0_8_w11 := x_h0.cell (i := 8) rfl
  have f_h0_8_w11 := x_h0.frozen 8
  go_wp2
  go_ret
  exact ⟨rfl, B_w11⟩

end Go.Proofs.Ytdoipabfmekdlaa
