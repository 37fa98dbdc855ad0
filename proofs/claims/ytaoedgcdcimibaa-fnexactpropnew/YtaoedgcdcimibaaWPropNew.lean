/- The walk of the law FnExactPropNew, laid by a program of ours (lawgen2.py) out of the law's text. -/
import Derived.Test.YtaoedgcdcimibaaVtI
import Derived.Test.YtaoedgcdcimibaaOutC
namespace Go.Proofs.Ytaoedgcdcimibaa
open Go.RowKit
set_option linter.unusedVariables false

set_option maxRecDepth 100000 in
set_option maxHeartbeats 8000000 in
theorem wPropNew (b : Int) (u : Int) (w : World) (hb : -9223372036854775808 ≤ b ∧ b ≤ 9223372036854775807) (hu : -9223372036854775808 ≤ u ∧ u ≤ 9223372036854775807) :
    Calls Try.prog 12 #[.int .i64 b, .int .i64 u] w fun e w' => e = .returned (.bool true) ∧ Below w.heap.size w w' := by
  have B0 : Below w.heap.size w w := Below.refl _ _
  obtain ⟨R0, hR0⟩ : ∃ R, propNew b u = R := ⟨_, rfl⟩
  have hl0 : R0.bulk ≤ 16777216 := by rw [← hR0]; exact propNew_bulk b u
  have HR0 := Lib.hid hR0
  clear hR0
  obtain ⟨R1, hR1⟩ : ∃ R, propNewB b u = R := ⟨_, rfl⟩
  have HR1 := Lib.hid hR1
  clear hR1
  go_enter Try.func12, Try.ntmps12
  go_wp2_with fail
  refine (sPropNew_c).mono ?_
  rintro e w1 ⟨v_w0, rfl, o_w0, h_w1⟩
  have B_w1 := B0.trans (h_w1.mono B0.size)
  have s_w1 := h_w1.size
  rw [HR0.out] at o_w0
  rw [HR1.out]
  obtain ⟨AFrom_w0, cFrom_w0, AGot_w0, cGot_w0, rfl, -, -⟩ := rv_prop o_w0.rd
  obtain ⟨w2, e_w2, s_w2, h_w2, x_w0⟩ := alloc_step w1 26 [.int .i64 R0.Bal, .int .i64 R0.Val, .slice AFrom_w0 R0.From.length cFrom_w0, .int .i64 R0.Best, .slice AGot_w0 R0.Got.length cGot_w0]
  have s_w2_1 := Nat.le_of_eq s_w2
  have s_w2_2 := Nat.le_of_eq s_w2.symm
  clear s_w2
  replace o_w0 := o_w0.below h_w2
  have B_w2 := B_w1.trans (h_w2.mono B_w1.size)
  have c_w0_0_w2 := x_w0.cell (i := 0) rfl
  have f_w0_0_w2 := x_w0.frozen 0
  have c_w0_1_w2 := x_w0.cell (i := 1) rfl
  have f_w0_1_w2 := x_w0.frozen 1
  have c_w0_2_w2 := x_w0.cell (i := 2) rfl
  have f_w0_2_w2 := x_w0.frozen 2
  have c_w0_3_w2 := x_w0.cell (i := 3) rfl
  have f_w0_3_w2 := x_w0.frozen 3
  have c_w0_4_w2 := x_w0.cell (i := 4) rfl
  have f_w0_4_w2 := x_w0.frozen 4
  go_wp2_with fail
  refine (iPropNew_c hb hu).mono ?_
  rintro e w3 ⟨v_g0, rfl, o_g0, h_w3⟩
  clear c_w0_0_w2 f_w0_0_w2 c_w0_1_w2 f_w0_1_w2 c_w0_2_w2 f_w0_2_w2 c_w0_3_w2 f_w0_3_w2 c_w0_4_w2 f_w0_4_w2
  replace x_w0 := x_w0.from_ h_w3
  replace o_w0 := o_w0.below h_w3
  have B_w3 := B_w2.trans (h_w3.mono B_w2.size)
  have s_w3 := h_w3.size
  rw [HR0.out] at o_g0
  rw [HR1.out]
  obtain ⟨AFrom_g0, cFrom_g0, AGot_g0, cGot_g0, rfl, -, -⟩ := rv_prop o_g0.rd
  have c_w0_0_w3 := x_w0.cell (i := 0) rfl
  have f_w0_0_w3 := x_w0.frozen 0
  have c_w0_1_w3 := x_w0.cell (i := 1) rfl
  have f_w0_1_w3 := x_w0.frozen 1
  have c_w0_2_w3 := x_w0.cell (i := 2) rfl
  have f_w0_2_w3 := x_w0.frozen 2
  have c_w0_3_w3 := x_w0.cell (i := 3) rfl
  have f_w0_3_w3 := x_w0.frozen 3
  have c_w0_4_w3 := x_w0.cell (i := 4) rfl
  have f_w0_4_w3 := x_w0.frozen 4
  obtain ⟨w4, e_w4, s_w4, h_w4, x_g0⟩ := alloc_step w3 26 [.int .i64 R0.Bal, .int .i64 R0.Val, .slice AFrom_g0 R0.From.length cFrom_g0, .int .i64 R0.Best, .slice AGot_g0 R0.Got.length cGot_g0]
  have s_w4_1 := Nat.le_of_eq s_w4
  have s_w4_2 := Nat.le_of_eq s_w4.symm
  clear s_w4
  replace x_w0 := x_w0.from_ h_w4
  replace o_w0 := o_w0.below h_w4
  replace o_g0 := o_g0.below h_w4
  have B_w4 := B_w3.trans (h_w4.mono B_w3.size)
  have c_w0_0_w4 := x_w0.cell (i := 0) rfl
  have f_w0_0_w4 := x_w0.frozen 0
  have c_w0_1_w4 := x_w0.cell (i := 1) rfl
  have f_w0_1_w4 := x_w0.frozen 1
  have c_w0_2_w4 := x_w0.cell (i := 2) rfl
  have f_w0_2_w4 := x_w0.frozen 2
  have c_w0_3_w4 := x_w0.cell (i := 3) rfl
  have f_w0_3_w4 := x_w0.frozen 3
  have c_w0_4_w4 := x_w0.cell (i := 4) rfl
  have f_w0_4_w4 := x_w0.frozen 4
  have c_g0_0_w4 := x_g0.cell (i := 0) rfl
  have f_g0_0_w4 := x_g0.frozen 0
  have c_g0_1_w4 := x_g0.cell (i := 1) rfl
  have f_g0_1_w4 := x_g0.frozen 1
  have c_g0_2_w4 := x_g0.cell (i := 2) rfl
  have f_g0_2_w4 := x_g0.frozen 2
  have c_g0_3_w4 := x_g0.cell (i := 3) rfl
  have f_g0_3_w4 := x_g0.frozen 3
  have c_g0_4_w4 := x_g0.cell (i := 4) rfl
  have f_g0_4_w4 := x_g0.frozen 4
  go_wp2_with fail
  refine (eqProp_same o_g0.rd o_w0.rd (by omega)).mono ?_
  rintro e w5 ⟨rfl, h_w5⟩
  clear c_w0_0_w3 f_w0_0_w3 c_w0_1_w3 f_w0_1_w3 c_w0_2_w3 f_w0_2_w3 c_w0_3_w3 f_w0_3_w3 c_w0_4_w3 f_w0_4_w3 c_w0_0_w4 f_w0_0_w4 c_w0_1_w4 f_w0_1_w4 c_w0_2_w4 f_w0_2_w4 c_w0_3_w4 f_w0_3_w4 c_w0_4_w4 f_w0_4_w4 c_g0_0_w4 f_g0_0_w4 c_g0_1_w4 f_g0_1_w4 c_g0_2_w4 f_g0_2_w4 c_g0_3_w4 f_g0_3_w4 c_g0_4_w4 f_g0_4_w4
  replace x_w0 := x_w0.from_ h_w5
  replace x_g0 := x_g0.from_ h_w5
  replace o_w0 := o_w0.below h_w5
  replace o_g0 := o_g0.below h_w5
  have B_w5 := B_w4.trans (h_w5.mono B_w4.size)
  have s_w5 := h_w5.size
  have c_w0_0_w5 := x_w0.cell (i := 0) rfl
  have f_w0_0_w5 := x_w0.frozen 0
  have c_w0_1_w5 := x_w0.cell (i := 1) rfl
  have f_w0_1_w5 := x_w0.frozen 1
  have c_w0_2_w5 := x_w0.cell (i := 2) rfl
  have f_w0_2_w5 := x_w0.frozen 2
  have c_w0_3_w5 := x_w0.cell (i := 3) rfl
  have f_w0_3_w5 := x_w0.frozen 3
  have c_w0_4_w5 := x_w0.cell (i := 4) rfl
  have f_w0_4_w5 := x_w0.frozen 4
  have c_g0_0_w5 := x_g0.cell (i := 0) rfl
  have f_g0_0_w5 := x_g0.frozen 0
  have c_g0_1_w5 := x_g0.cell (i := 1) rfl
  have f_g0_1_w5 := x_g0.frozen 1
  have c_g0_2_w5 := x_g0.cell (i := 2) rfl
  have f_g0_2_w5 := x_g0.frozen 2
  have c_g0_3_w5 := x_g0.cell (i := 3) rfl
  have f_g0_3_w5 := x_g0.frozen 3
  have c_g0_4_w5 := x_g0.cell (i := 4) rfl
  have f_g0_4_w5 := x_g0.frozen 4
  go_wp2_with fail
  refine (markProp_c o_g0 (by omega) (by omega) (by omega)).mono ?_
  rintro e w6 ⟨rfl, y, h_w6⟩
  clear c_w0_0_w5 f_w0_0_w5 c_w0_1_w5 f_w0_1_w5 c_w0_2_w5 f_w0_2_w5 c_w0_3_w5 f_w0_3_w5 c_w0_4_w5 f_w0_4_w5 c_g0_0_w5 f_g0_0_w5 c_g0_1_w5 f_g0_1_w5 c_g0_2_w5 f_g0_2_w5 c_g0_3_w5 f_g0_3_w5 c_g0_4_w5 f_g0_4_w5
  replace x_w0 := x_w0.chg h_w6 (by omega)
  replace x_g0 := x_g0.chg h_w6 (by omega)
  replace o_w0 := o_w0.chg h_w6 (by omega)
  have B_w6 := Below.chg_ B_w5 h_w6 (by omega) (by omega)
  have s_w6 := h_w6.size
  replace o_g0 := y
  clear y
  have c_w0_0_w6 := x_w0.cell (i := 0) rfl
  have f_w0_0_w6 := x_w0.frozen 0
  have c_w0_1_w6 := x_w0.cell (i := 1) rfl
  have f_w0_1_w6 := x_w0.frozen 1
  have c_w0_2_w6 := x_w0.cell (i := 2) rfl
  have f_w0_2_w6 := x_w0.frozen 2
  have c_w0_3_w6 := x_w0.cell (i := 3) rfl
  have f_w0_3_w6 := x_w0.frozen 3
  have c_w0_4_w6 := x_w0.cell (i := 4) rfl
  have f_w0_4_w6 := x_w0.frozen 4
  have c_g0_0_w6 := x_g0.cell (i := 0) rfl
  have f_g0_0_w6 := x_g0.frozen 0
  have c_g0_1_w6 := x_g0.cell (i := 1) rfl
  have f_g0_1_w6 := x_g0.frozen 1
  have c_g0_2_w6 := x_g0.cell (i := 2) rfl
  have f_g0_2_w6 := x_g0.frozen 2
  have c_g0_3_w6 := x_g0.cell (i := 3) rfl
  have f_g0_3_w6 := x_g0.frozen 3
  have c_g0_4_w6 := x_g0.cell (i := 4) rfl
  have f_g0_4_w6 := x_g0.frozen 4
  go_wp2_with fail
  refine (heldProp_c o_g0.rd (by omega) (by omega) (by omega)).mono ?_
  rintro e w7 ⟨rfl, h_w7⟩
  clear c_w0_0_w6 f_w0_0_w6 c_w0_1_w6 f_w0_1_w6 c_w0_2_w6 f_w0_2_w6 c_w0_3_w6 f_w0_3_w6 c_w0_4_w6 f_w0_4_w6 c_g0_0_w6 f_g0_0_w6 c_g0_1_w6 f_g0_1_w6 c_g0_2_w6 f_g0_2_w6 c_g0_3_w6 f_g0_3_w6 c_g0_4_w6 f_g0_4_w6
  replace x_w0 := x_w0.from_ h_w7
  replace x_g0 := x_g0.from_ h_w7
  replace o_w0 := o_w0.below h_w7
  replace o_g0 := o_g0.below h_w7
  have B_w7 := B_w6.trans (h_w7.mono B_w6.size)
  have s_w7 := h_w7.size
  have c_w0_0_w7 := x_w0.cell (i := 0) rfl
  have f_w0_0_w7 := x_w0.frozen 0
  have c_w0_1_w7 := x_w0.cell (i := 1) rfl
  have f_w0_1_w7 := x_w0.frozen 1
  have c_w0_2_w7 := x_w0.cell (i := 2) rfl
  have f_w0_2_w7 := x_w0.frozen 2
  have c_w0_3_w7 := x_w0.cell (i := 3) rfl
  have f_w0_3_w7 := x_w0.frozen 3
  have c_w0_4_w7 := x_w0.cell (i := 4) rfl
  have f_w0_4_w7 := x_w0.frozen 4
  have c_g0_0_w7 := x_g0.cell (i := 0) rfl
  have f_g0_0_w7 := x_g0.frozen 0
  have c_g0_1_w7 := x_g0.cell (i := 1) rfl
  have f_g0_1_w7 := x_g0.frozen 1
  have c_g0_2_w7 := x_g0.cell (i := 2) rfl
  have f_g0_2_w7 := x_g0.frozen 2
  have c_g0_3_w7 := x_g0.cell (i := 3) rfl
  have f_g0_3_w7 := x_g0.frozen 3
  have c_g0_4_w7 := x_g0.cell (i := 4) rfl
  have f_g0_4_w7 := x_g0.frozen 4
  go_wp2_with fail
  refine (iPropNew_c hb hu).mono ?_
  rintro e w8 ⟨v_h0, rfl, o_h0, h_w8⟩
  clear c_w0_0_w7 f_w0_0_w7 c_w0_1_w7 f_w0_1_w7 c_w0_2_w7 f_w0_2_w7 c_w0_3_w7 f_w0_3_w7 c_w0_4_w7 f_w0_4_w7 c_g0_0_w7 f_g0_0_w7 c_g0_1_w7 f_g0_1_w7 c_g0_2_w7 f_g0_2_w7 c_g0_3_w7 f_g0_3_w7 c_g0_4_w7 f_g0_4_w7
  replace x_w0 := x_w0.from_ h_w8
  replace x_g0 := x_g0.from_ h_w8
  replace o_w0 := o_w0.below h_w8
  replace o_g0 := o_g0.below h_w8
  have B_w8 := B_w7.trans (h_w8.mono B_w7.size)
  have s_w8 := h_w8.size
  rw [HR0.out] at o_h0
  rw [HR1.out]
  obtain ⟨AFrom_h0, cFrom_h0, AGot_h0, cGot_h0, rfl, -, -⟩ := rv_prop o_h0.rd
  have c_w0_0_w8 := x_w0.cell (i := 0) rfl
  have f_w0_0_w8 := x_w0.frozen 0
  have c_w0_1_w8 := x_w0.cell (i := 1) rfl
  have f_w0_1_w8 := x_w0.frozen 1
  have c_w0_2_w8 := x_w0.cell (i := 2) rfl
  have f_w0_2_w8 := x_w0.frozen 2
  have c_w0_3_w8 := x_w0.cell (i := 3) rfl
  have f_w0_3_w8 := x_w0.frozen 3
  have c_w0_4_w8 := x_w0.cell (i := 4) rfl
  have f_w0_4_w8 := x_w0.frozen 4
  have c_g0_0_w8 := x_g0.cell (i := 0) rfl
  have f_g0_0_w8 := x_g0.frozen 0
  have c_g0_1_w8 := x_g0.cell (i := 1) rfl
  have f_g0_1_w8 := x_g0.frozen 1
  have c_g0_2_w8 := x_g0.cell (i := 2) rfl
  have f_g0_2_w8 := x_g0.frozen 2
  have c_g0_3_w8 := x_g0.cell (i := 3) rfl
  have f_g0_3_w8 := x_g0.frozen 3
  have c_g0_4_w8 := x_g0.cell (i := 4) rfl
  have f_g0_4_w8 := x_g0.frozen 4
  obtain ⟨w9, e_w9, s_w9, h_w9, x_h0⟩ := alloc_step w8 26 [.int .i64 R0.Bal, .int .i64 R0.Val, .slice AFrom_h0 R0.From.length cFrom_h0, .int .i64 R0.Best, .slice AGot_h0 R0.Got.length cGot_h0]
  have s_w9_1 := Nat.le_of_eq s_w9
  have s_w9_2 := Nat.le_of_eq s_w9.symm
  clear s_w9
  replace x_w0 := x_w0.from_ h_w9
  replace x_g0 := x_g0.from_ h_w9
  replace o_w0 := o_w0.below h_w9
  replace o_g0 := o_g0.below h_w9
  replace o_h0 := o_h0.below h_w9
  have B_w9 := B_w8.trans (h_w9.mono B_w8.size)
  have c_w0_0_w9 := x_w0.cell (i := 0) rfl
  have f_w0_0_w9 := x_w0.frozen 0
  have c_w0_1_w9 := x_w0.cell (i := 1) rfl
  have f_w0_1_w9 := x_w0.frozen 1
  have c_w0_2_w9 := x_w0.cell (i := 2) rfl
  have f_w0_2_w9 := x_w0.frozen 2
  have c_w0_3_w9 := x_w0.cell (i := 3) rfl
  have f_w0_3_w9 := x_w0.frozen 3
  have c_w0_4_w9 := x_w0.cell (i := 4) rfl
  have f_w0_4_w9 := x_w0.frozen 4
  have c_g0_0_w9 := x_g0.cell (i := 0) rfl
  have f_g0_0_w9 := x_g0.frozen 0
  have c_g0_1_w9 := x_g0.cell (i := 1) rfl
  have f_g0_1_w9 := x_g0.frozen 1
  have c_g0_2_w9 := x_g0.cell (i := 2) rfl
  have f_g0_2_w9 := x_g0.frozen 2
  have c_g0_3_w9 := x_g0.cell (i := 3) rfl
  have f_g0_3_w9 := x_g0.frozen 3
  have c_g0_4_w9 := x_g0.cell (i := 4) rfl
  have f_g0_4_w9 := x_g0.frozen 4
  have c_h0_0_w9 := x_h0.cell (i := 0) rfl
  have f_h0_0_w9 := x_h0.frozen 0
  have c_h0_1_w9 := x_h0.cell (i := 1) rfl
  have f_h0_1_w9 := x_h0.frozen 1
  have c_h0_2_w9 := x_h0.cell (i := 2) rfl
  have f_h0_2_w9 := x_h0.frozen 2
  have c_h0_3_w9 := x_h0.cell (i := 3) rfl
  have f_h0_3_w9 := x_h0.frozen 3
  have c_h0_4_w9 := x_h0.cell (i := 4) rfl
  have f_h0_4_w9 := x_h0.frozen 4
  go_wp2_with fail
  refine (eqProp_same o_h0.rd o_w0.rd (by omega)).mono ?_
  rintro e w10 ⟨rfl, h_w10⟩
  clear c_w0_0_w8 f_w0_0_w8 c_w0_1_w8 f_w0_1_w8 c_w0_2_w8 f_w0_2_w8 c_w0_3_w8 f_w0_3_w8 c_w0_4_w8 f_w0_4_w8 c_g0_0_w8 f_g0_0_w8 c_g0_1_w8 f_g0_1_w8 c_g0_2_w8 f_g0_2_w8 c_g0_3_w8 f_g0_3_w8 c_g0_4_w8 f_g0_4_w8 c_w0_0_w9 f_w0_0_w9 c_w0_1_w9 f_w0_1_w9 c_w0_2_w9 f_w0_2_w9 c_w0_3_w9 f_w0_3_w9 c_w0_4_w9 f_w0_4_w9 c_g0_0_w9 f_g0_0_w9 c_g0_1_w9 f_g0_1_w9 c_g0_2_w9 f_g0_2_w9 c_g0_3_w9 f_g0_3_w9 c_g0_4_w9 f_g0_4_w9 c_h0_0_w9 f_h0_0_w9 c_h0_1_w9 f_h0_1_w9 c_h0_2_w9 f_h0_2_w9 c_h0_3_w9 f_h0_3_w9 c_h0_4_w9 f_h0_4_w9
  replace x_w0 := x_w0.from_ h_w10
  replace x_g0 := x_g0.from_ h_w10
  replace x_h0 := x_h0.from_ h_w10
  replace o_w0 := o_w0.below h_w10
  replace o_g0 := o_g0.below h_w10
  replace o_h0 := o_h0.below h_w10
  have B_w10 := B_w9.trans (h_w10.mono B_w9.size)
  have s_w10 := h_w10.size
  have c_w0_0_w10 := x_w0.cell (i := 0) rfl
  have f_w0_0_w10 := x_w0.frozen 0
  have c_w0_1_w10 := x_w0.cell (i := 1) rfl
  have f_w0_1_w10 := x_w0.frozen 1
  have c_w0_2_w10 := x_w0.cell (i := 2) rfl
  have f_w0_2_w10 := x_w0.frozen 2
  have c_w0_3_w10 := x_w0.cell (i := 3) rfl
  have f_w0_3_w10 := x_w0.frozen 3
  have c_w0_4_w10 := x_w0.cell (i := 4) rfl
  have f_w0_4_w10 := x_w0.frozen 4
  have c_g0_0_w10 := x_g0.cell (i := 0) rfl
  have f_g0_0_w10 := x_g0.frozen 0
  have c_g0_1_w10 := x_g0.cell (i := 1) rfl
  have f_g0_1_w10 := x_g0.frozen 1
  have c_g0_2_w10 := x_g0.cell (i := 2) rfl
  have f_g0_2_w10 := x_g0.frozen 2
  have c_g0_3_w10 := x_g0.cell (i := 3) rfl
  have f_g0_3_w10 := x_g0.frozen 3
  have c_g0_4_w10 := x_g0.cell (i := 4) rfl
  have f_g0_4_w10 := x_g0.frozen 4
  have c_h0_0_w10 := x_h0.cell (i := 0) rfl
  have f_h0_0_w10 := x_h0.frozen 0
  have c_h0_1_w10 := x_h0.cell (i := 1) rfl
  have f_h0_1_w10 := x_h0.frozen 1
  have c_h0_2_w10 := x_h0.cell (i := 2) rfl
  have f_h0_2_w10 := x_h0.frozen 2
  have c_h0_3_w10 := x_h0.cell (i := 3) rfl
  have f_h0_3_w10 := x_h0.frozen 3
  have c_h0_4_w10 := x_h0.cell (i := 4) rfl
  have f_h0_4_w10 := x_h0.frozen 4
  go_wp2_with fail
  refine (heldProp_c o_g0.rd (by omega) (by omega) (by omega)).mono ?_
  rintro e w11 ⟨rfl, h_w11⟩
  clear c_w0_0_w10 f_w0_0_w10 c_w0_1_w10 f_w0_1_w10 c_w0_2_w10 f_w0_2_w10 c_w0_3_w10 f_w0_3_w10 c_w0_4_w10 f_w0_4_w10 c_g0_0_w10 f_g0_0_w10 c_g0_1_w10 f_g0_1_w10 c_g0_2_w10 f_g0_2_w10 c_g0_3_w10 f_g0_3_w10 c_g0_4_w10 f_g0_4_w10 c_h0_0_w10 f_h0_0_w10 c_h0_1_w10 f_h0_1_w10 c_h0_2_w10 f_h0_2_w10 c_h0_3_w10 f_h0_3_w10 c_h0_4_w10 f_h0_4_w10
  replace x_w0 := x_w0.from_ h_w11
  replace x_g0 := x_g0.from_ h_w11
  replace x_h0 := x_h0.from_ h_w11
  replace o_w0 := o_w0.below h_w11
  replace o_g0 := o_g0.below h_w11
  replace o_h0 := o_h0.below h_w11
  have B_w11 := B_w10.trans (h_w11.mono B_w10.size)
  have s_w11 := h_w11.size
  have c_w0_0_w11 := x_w0.cell (i := 0) rfl
  have f_w0_0_w11 := x_w0.frozen 0
  have c_w0_1_w11 := x_w0.cell (i := 1) rfl
  have f_w0_1_w11 := x_w0.frozen 1
  have c_w0_2_w11 := x_w0.cell (i := 2) rfl
  have f_w0_2_w11 := x_w0.frozen 2
  have c_w0_3_w11 := x_w0.cell (i := 3) rfl
  have f_w0_3_w11 := x_w0.frozen 3
  have c_w0_4_w11 := x_w0.cell (i := 4) rfl
  have f_w0_4_w11 := x_w0.frozen 4
  have c_g0_0_w11 := x_g0.cell (i := 0) rfl
  have f_g0_0_w11 := x_g0.frozen 0
  have c_g0_1_w11 := x_g0.cell (i := 1) rfl
  have f_g0_1_w11 := x_g0.frozen 1
  have c_g0_2_w11 := x_g0.cell (i := 2) rfl
  have f_g0_2_w11 := x_g0.frozen 2
  have c_g0_3_w11 := x_g0.cell (i := 3) rfl
  have f_g0_3_w11 := x_g0.frozen 3
  have c_g0_4_w11 := x_g0.cell (i := 4) rfl
  have f_g0_4_w11 := x_g0.frozen 4
  have c_h0_0_w11 := x_h0.cell (i := 0) rfl
  have f_h0_0_w11 := x_h0.frozen 0
  have c_h0_1_w11 := x_h0.cell (i := 1) rfl
  have f_h0_1_w11 := x_h0.frozen 1
  have c_h0_2_w11 := x_h0.cell (i := 2) rfl
  have f_h0_2_w11 := x_h0.frozen 2
  have c_h0_3_w11 := x_h0.cell (i := 3) rfl
  have f_h0_3_w11 := x_h0.frozen 3
  have c_h0_4_w11 := x_h0.cell (i := 4) rfl
  have f_h0_4_w11 := x_h0.frozen 4
  go_wp2
  go_ret
  exact ⟨rfl, B_w11⟩

end Go.Proofs.Ytaoedgcdcimibaa
