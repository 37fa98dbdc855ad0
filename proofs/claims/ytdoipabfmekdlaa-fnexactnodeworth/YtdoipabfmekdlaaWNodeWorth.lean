/- The walk of the law FnExactNodeWorth, laid by a program of ours (lawgen2.py) out of the law's text. -/
import Derived.Test.YtdoipabfmekdlaaNoI2
import Derived.Test.YtdoipabfmekdlaaBunO
import Derived.Test.YtdoipabfmekdlaaOutC
namespace Go.Proofs.Ytdoipabfmekdlaa
open Go.RowKit
set_option linter.unusedVariables false

set_option maxRecDepth 100000 in
set_option maxHeartbeats 8000000 in
theorem wNodeWorth (v_aX : Value) (d : MNode) (w : World) (r_aX : RV nodeL w v_aX d) (hq : QNode d) :
    Calls Try.prog 5 #[v_aX] w fun e w' => e = .returned (.bool true) ∧ Below w.heap.size w w' := by
  have h_aX := r_aX
  obtain ⟨AAccts_aX, cAccts_aX, AOuts_aX, cOuts_aX, AIns_aX, cIns_aX, AAccs_aX, cAccs_aX, rfl, -, -, -, -⟩ := rv_node h_aX
  clear h_aX
  obtain ⟨wa, hwa, B0, sa, x_aX⟩ := frame1 w 27 [.int .i64 d.Id, .int .i64 d.N, .slice AAccts_aX d.Accts.length cAccts_aX, .slice AOuts_aX d.Outs.length cOuts_aX, .slice AIns_aX d.Ins.length cIns_aX, .slice AAccs_aX d.Accs.length cAccs_aX, .int .i64 d.Stray, .int .i64 d.Came, .int .i64 d.Went]
  have sa_1 := Nat.le_of_eq sa
  have sa_2 := Nat.le_of_eq sa.symm
  clear sa
  have c_aX_0_wa := x_aX.cell (i := 0) rfl
  have c_aX_1_wa := x_aX.cell (i := 1) rfl
  have c_aX_2_wa := x_aX.cell (i := 2) rfl
  have c_aX_3_wa := x_aX.cell (i := 3) rfl
  have c_aX_4_wa := x_aX.cell (i := 4) rfl
  have c_aX_5_wa := x_aX.cell (i := 5) rfl
  have c_aX_6_wa := x_aX.cell (i := 6) rfl
  have c_aX_7_wa := x_aX.cell (i := 7) rfl
  have c_aX_8_wa := x_aX.cell (i := 8) rfl
  by_cases hbig_aX : d.bulk ≤ 1048576
  case neg =>
    go_enter Try.func5, Try.ntmps5
    go_wp2_with fail
    refine (szNode_c (r_aX.from_ B0) (by omega) (by omega)).mono ?_
    rintro e w1 ⟨rfl, h_w1⟩
    clear c_aX_0_wa c_aX_1_wa c_aX_2_wa c_aX_3_wa c_aX_4_wa c_aX_5_wa c_aX_6_wa c_aX_7_wa c_aX_8_wa
    replace x_aX := x_aX.from_ h_w1
    have B_w1 := B0.trans (h_w1.mono B0.size)
    have s_w1 := h_w1.size
    rw [show szV (1048576) (d.bulk : Int) = -1 from if_neg (by omega)]
    have c_aX_0_w1 := x_aX.cell (i := 0) rfl
    have c_aX_1_w1 := x_aX.cell (i := 1) rfl
    have c_aX_2_w1 := x_aX.cell (i := 2) rfl
    have c_aX_3_w1 := x_aX.cell (i := 3) rfl
    have c_aX_4_w1 := x_aX.cell (i := 4) rfl
    have c_aX_5_w1 := x_aX.cell (i := 5) rfl
    have c_aX_6_w1 := x_aX.cell (i := 6) rfl
    have c_aX_7_w1 := x_aX.cell (i := 7) rfl
    have c_aX_8_w1 := x_aX.cell (i := 8) rfl
    go_wp2
    go_ret
    exact ⟨rfl, B_w1⟩
  have hz_aX := MNode.steps_le d
  obtain ⟨R0, hR0⟩ : ∃ R, nodeWorth d = R := ⟨_, rfl⟩
  have HR0 := Lib.hid hR0
  clear hR0
  go_enter Try.func5, Try.ntmps5
  go_wp2_with fail
  refine (szNode_c (r_aX.from_ B0) (by omega) (by omega)).mono ?_
  rintro e w1 ⟨rfl, h_w1⟩
  clear c_aX_0_wa c_aX_1_wa c_aX_2_wa c_aX_3_wa c_aX_4_wa c_aX_5_wa c_aX_6_wa c_aX_7_wa c_aX_8_wa
  replace x_aX := x_aX.from_ h_w1
  have B_w1 := B0.trans (h_w1.mono B0.size)
  have s_w1 := h_w1.size
  rw [show szV (1048576) (d.bulk : Int) = 1048576 - (d.bulk : Int) from if_pos (by omega)]
  have gz0 : decide (1048576 - (d.bulk : Int) < 0) = false := decide_eq_false (by omega)
  have c_aX_0_w1 := x_aX.cell (i := 0) rfl
  have c_aX_1_w1 := x_aX.cell (i := 1) rfl
  have c_aX_2_w1 := x_aX.cell (i := 2) rfl
  have c_aX_3_w1 := x_aX.cell (i := 3) rfl
  have c_aX_4_w1 := x_aX.cell (i := 4) rfl
  have c_aX_5_w1 := x_aX.cell (i := 5) rfl
  have c_aX_6_w1 := x_aX.cell (i := 6) rfl
  have c_aX_7_w1 := x_aX.cell (i := 7) rfl
  have c_aX_8_w1 := x_aX.cell (i := 8) rfl
  go_wp2_with fail
  refine (toNode_c (r_aX.from_ B_w1) (by omega)).mono ?_
  rintro e w2 ⟨v_t1, rfl, o_t1, h_w2⟩
  clear c_aX_0_w1 c_aX_1_w1 c_aX_2_w1 c_aX_3_w1 c_aX_4_w1 c_aX_5_w1 c_aX_6_w1 c_aX_7_w1 c_aX_8_w1
  replace x_aX := x_aX.from_ h_w2
  have B_w2 := B_w1.trans (h_w2.mono B_w1.size)
  have s_w2 := h_w2.size
  obtain ⟨AAccts_t1, cAccts_t1, AOuts_t1, cOuts_t1, AIns_t1, cIns_t1, AAccs_t1, cAccs_t1, rfl, -, -, -, -⟩ := rv_node o_t1.rd
  have c_aX_0_w2 := x_aX.cell (i := 0) rfl
  have f_aX_0_w2 := x_aX.frozen 0
  have c_aX_1_w2 := x_aX.cell (i := 1) rfl
  have f_aX_1_w2 := x_aX.frozen 1
  have c_aX_2_w2 := x_aX.cell (i := 2) rfl
  have f_aX_2_w2 := x_aX.frozen 2
  have c_aX_3_w2 := x_aX.cell (i := 3) rfl
  have f_aX_3_w2 := x_aX.frozen 3
  have c_aX_4_w2 := x_aX.cell (i := 4) rfl
  have f_aX_4_w2 := x_aX.frozen 4
  have c_aX_5_w2 := x_aX.cell (i := 5) rfl
  have f_aX_5_w2 := x_aX.frozen 5
  have c_aX_6_w2 := x_aX.cell (i := 6) rfl
  have f_aX_6_w2 := x_aX.frozen 6
  have c_aX_7_w2 := x_aX.cell (i := 7) rfl
  have f_aX_7_w2 := x_aX.frozen 7
  have c_aX_8_w2 := x_aX.cell (i := 8) rfl
  have f_aX_8_w2 := x_aX.frozen 8
  go_wp2_with fail
  refine (sNodeWorth_c o_t1.rd (by omega)).mono ?_
  rintro e w3 ⟨rfl, h_w3⟩
  clear c_aX_0_w2 f_aX_0_w2 c_aX_1_w2 f_aX_1_w2 c_aX_2_w2 f_aX_2_w2 c_aX_3_w2 f_aX_3_w2 c_aX_4_w2 f_aX_4_w2 c_aX_5_w2 f_aX_5_w2 c_aX_6_w2 f_aX_6_w2 c_aX_7_w2 f_aX_7_w2 c_aX_8_w2 f_aX_8_w2
  replace x_aX := x_aX.from_ h_w3
  replace o_t1 := o_t1.below h_w3
  have B_w3 := B_w2.trans (h_w3.mono B_w2.size)
  have s_w3 := h_w3.size
  rw [HR0.out]
  have c_aX_0_w3 := x_aX.cell (i := 0) rfl
  have f_aX_0_w3 := x_aX.frozen 0
  have c_aX_1_w3 := x_aX.cell (i := 1) rfl
  have f_aX_1_w3 := x_aX.frozen 1
  have c_aX_2_w3 := x_aX.cell (i := 2) rfl
  have f_aX_2_w3 := x_aX.frozen 2
  have c_aX_3_w3 := x_aX.cell (i := 3) rfl
  have f_aX_3_w3 := x_aX.frozen 3
  have c_aX_4_w3 := x_aX.cell (i := 4) rfl
  have f_aX_4_w3 := x_aX.frozen 4
  have c_aX_5_w3 := x_aX.cell (i := 5) rfl
  have f_aX_5_w3 := x_aX.frozen 5
  have c_aX_6_w3 := x_aX.cell (i := 6) rfl
  have f_aX_6_w3 := x_aX.frozen 6
  have c_aX_7_w3 := x_aX.cell (i := 7) rfl
  have f_aX_7_w3 := x_aX.frozen 7
  have c_aX_8_w3 := x_aX.cell (i := 8) rfl
  have f_aX_8_w3 := x_aX.frozen 8
  go_wp2_with fail
  refine (toNode_c (r_aX.from_ B_w3) (by omega)).mono ?_
  rintro e w4 ⟨v_t2, rfl, o_t2, h_w4⟩
  clear c_aX_0_w3 f_aX_0_w3 c_aX_1_w3 f_aX_1_w3 c_aX_2_w3 f_aX_2_w3 c_aX_3_w3 f_aX_3_w3 c_aX_4_w3 f_aX_4_w3 c_aX_5_w3 f_aX_5_w3 c_aX_6_w3 f_aX_6_w3 c_aX_7_w3 f_aX_7_w3 c_aX_8_w3 f_aX_8_w3
  replace x_aX := x_aX.from_ h_w4
  replace o_t1 := o_t1.below h_w4
  have B_w4 := B_w3.trans (h_w4.mono B_w3.size)
  have s_w4 := h_w4.size
  obtain ⟨AAccts_t2, cAccts_t2, AOuts_t2, cOuts_t2, AIns_t2, cIns_t2, AAccs_t2, cAccs_t2, rfl, -, -, -, -⟩ := rv_node o_t2.rd
  have c_aX_0_w4 := x_aX.cell (i := 0) rfl
  have f_aX_0_w4 := x_aX.frozen 0
  have c_aX_1_w4 := x_aX.cell (i := 1) rfl
  have f_aX_1_w4 := x_aX.frozen 1
  have c_aX_2_w4 := x_aX.cell (i := 2) rfl
  have f_aX_2_w4 := x_aX.frozen 2
  have c_aX_3_w4 := x_aX.cell (i := 3) rfl
  have f_aX_3_w4 := x_aX.frozen 3
  have c_aX_4_w4 := x_aX.cell (i := 4) rfl
  have f_aX_4_w4 := x_aX.frozen 4
  have c_aX_5_w4 := x_aX.cell (i := 5) rfl
  have f_aX_5_w4 := x_aX.frozen 5
  have c_aX_6_w4 := x_aX.cell (i := 6) rfl
  have f_aX_6_w4 := x_aX.frozen 6
  have c_aX_7_w4 := x_aX.cell (i := 7) rfl
  have f_aX_7_w4 := x_aX.frozen 7
  have c_aX_8_w4 := x_aX.cell (i := 8) rfl
  have f_aX_8_w4 := x_aX.frozen 8
  obtain ⟨w5, e_w5, s_w5, h_w5, x_x0⟩ := alloc_step w4 34 [.int .i64 d.Id, .int .i64 d.N, .slice AAccts_t2 d.Accts.length cAccts_t2, .slice AOuts_t2 d.Outs.length cOuts_t2, .slice AIns_t2 d.Ins.length cIns_t2, .slice AAccs_t2 d.Accs.length cAccs_t2, .int .i64 d.Stray, .int .i64 d.Came, .int .i64 d.Went]
  have s_w5_1 := Nat.le_of_eq s_w5
  have s_w5_2 := Nat.le_of_eq s_w5.symm
  clear s_w5
  replace x_aX := x_aX.from_ h_w5
  replace o_t1 := o_t1.below h_w5
  replace o_t2 := o_t2.below h_w5
  have B_w5 := B_w4.trans (h_w5.mono B_w4.size)
  have c_aX_0_w5 := x_aX.cell (i := 0) rfl
  have f_aX_0_w5 := x_aX.frozen 0
  have c_aX_1_w5 := x_aX.cell (i := 1) rfl
  have f_aX_1_w5 := x_aX.frozen 1
  have c_aX_2_w5 := x_aX.cell (i := 2) rfl
  have f_aX_2_w5 := x_aX.frozen 2
  have c_aX_3_w5 := x_aX.cell (i := 3) rfl
  have f_aX_3_w5 := x_aX.frozen 3
  have c_aX_4_w5 := x_aX.cell (i := 4) rfl
  have f_aX_4_w5 := x_aX.frozen 4
  have c_aX_5_w5 := x_aX.cell (i := 5) rfl
  have f_aX_5_w5 := x_aX.frozen 5
  have c_aX_6_w5 := x_aX.cell (i := 6) rfl
  have f_aX_6_w5 := x_aX.frozen 6
  have c_aX_7_w5 := x_aX.cell (i := 7) rfl
  have f_aX_7_w5 := x_aX.frozen 7
  have c_aX_8_w5 := x_aX.cell (i := 8) rfl
  have f_aX_8_w5 := x_aX.frozen 8
  have c_x0_0_w5 := x_x0.cell (i := 0) rfl
  have f_x0_0_w5 := x_x0.frozen 0
  have c_x0_1_w5 := x_x0.cell (i := 1) rfl
  have f_x0_1_w5 := x_x0.frozen 1
  have c_x0_2_w5 := x_x0.cell (i := 2) rfl
  have f_x0_2_w5 := x_x0.frozen 2
  have c_x0_3_w5 := x_x0.cell (i := 3) rfl
  have f_x0_3_w5 := x_x0.frozen 3
  have c_x0_4_w5 := x_x0.cell (i := 4) rfl
  have f_x0_4_w5 := x_x0.frozen 4
  have c_x0_5_w5 := x_x0.cell (i := 5) rfl
  have f_x0_5_w5 := x_x0.frozen 5
  have c_x0_6_w5 := x_x0.cell (i := 6) rfl
  have f_x0_6_w5 := x_x0.frozen 6
  have c_x0_7_w5 := x_x0.cell (i := 7) rfl
  have f_x0_7_w5 := x_x0.frozen 7
  have c_x0_8_w5 := x_x0.cell (i := 8) rfl
  have f_x0_8_w5 := x_x0.frozen 8
  go_wp2_with fail
  refine (iNodeWorth_c o_t2.rd (by omega) hq).mono ?_
  rintro e w6 ⟨rfl, h_w6⟩
  clear c_aX_0_w4 f_aX_0_w4 c_aX_1_w4 f_aX_1_w4 c_aX_2_w4 f_aX_2_w4 c_aX_3_w4 f_aX_3_w4 c_aX_4_w4 f_aX_4_w4 c_aX_5_w4 f_aX_5_w4 c_aX_6_w4 f_aX_6_w4 c_aX_7_w4 f_aX_7_w4 c_aX_8_w4 f_aX_8_w4 c_aX_0_w5 f_aX_0_w5 c_aX_1_w5 f_aX_1_w5 c_aX_2_w5 f_aX_2_w5 c_aX_3_w5 f_aX_3_w5 c_aX_4_w5 f_aX_4_w5 c_aX_5_w5 f_aX_5_w5 c_aX_6_w5 f_aX_6_w5 c_aX_7_w5 f_aX_7_w5 c_aX_8_w5 f_aX_8_w5 c_x0_0_w5 f_x0_0_w5 c_x0_1_w5 f_x0_1_w5 c_x0_2_w5 f_x0_2_w5 c_x0_3_w5 f_x0_3_w5 c_x0_4_w5 f_x0_4_w5 c_x0_5_w5 f_x0_5_w5 c_x0_6_w5 f_x0_6_w5 c_x0_7_w5 f_x0_7_w5 c_x0_8_w5 f_x0_8_w5
  replace x_aX := x_aX.from_ h_w6
  replace x_x0 := x_x0.from_ h_w6
  replace o_t1 := o_t1.below h_w6
  replace o_t2 := o_t2.below h_w6
  have B_w6 := B_w5.trans (h_w6.mono B_w5.size)
  have s_w6 := h_w6.size
  rw [HR0.out]
  have c_aX_0_w6 := x_aX.cell (i := 0) rfl
  have f_aX_0_w6 := x_aX.frozen 0
  have c_aX_1_w6 := x_aX.cell (i := 1) rfl
  have f_aX_1_w6 := x_aX.frozen 1
  have c_aX_2_w6 := x_aX.cell (i := 2) rfl
  have f_aX_2_w6 := x_aX.frozen 2
  have c_aX_3_w6 := x_aX.cell (i := 3) rfl
  have f_aX_3_w6 := x_aX.frozen 3
  have c_aX_4_w6 := x_aX.cell (i := 4) rfl
  have f_aX_4_w6 := x_aX.frozen 4
  have c_aX_5_w6 := x_aX.cell (i := 5) rfl
  have f_aX_5_w6 := x_aX.frozen 5
  have c_aX_6_w6 := x_aX.cell (i := 6) rfl
  have f_aX_6_w6 := x_aX.frozen 6
  have c_aX_7_w6 := x_aX.cell (i := 7) rfl
  have f_aX_7_w6 := x_aX.frozen 7
  have c_aX_8_w6 := x_aX.cell (i := 8) rfl
  have f_aX_8_w6 := x_aX.frozen 8
  have c_x0_0_w6 := x_x0.cell (i := 0) rfl
  have f_x0_0_w6 := x_x0.frozen 0
  have c_x0_1_w6 := x_x0.cell (i := 1) rfl
  have f_x0_1_w6 := x_x0.frozen 1
  have c_x0_2_w6 := x_x0.cell (i := 2) rfl
  have f_x0_2_w6 := x_x0.frozen 2
  have c_x0_3_w6 := x_x0.cell (i := 3) rfl
  have f_x0_3_w6 := x_x0.frozen 3
  have c_x0_4_w6 := x_x0.cell (i := 4) rfl
  have f_x0_4_w6 := x_x0.frozen 4
  have c_x0_5_w6 := x_x0.cell (i := 5) rfl
  have f_x0_5_w6 := x_x0.frozen 5
  have c_x0_6_w6 := x_x0.cell (i := 6) rfl
  have f_x0_6_w6 := x_x0.frozen 6
  have c_x0_7_w6 := x_x0.cell (i := 7) rfl
  have f_x0_7_w6 := x_x0.frozen 7
  have c_x0_8_w6 := x_x0.cell (i := 8) rfl
  have f_x0_8_w6 := x_x0.frozen 8
  go_wp2_with fail
  go_region_held3 (fun w' => w'.cell? ⟨w4.heap.size, 0, none⟩ = some (.int .i64 d.Id) ∧ w'.cell? ⟨w4.heap.size, 1, none⟩ = some (.int .i64 d.N) ∧ w'.cell? ⟨w4.heap.size, 2, none⟩ = some (.slice AAccts_t2 d.Accts.length cAccts_t2) ∧ w'.cell? ⟨w4.heap.size, 3, none⟩ = some (.slice AOuts_t2 d.Outs.length cOuts_t2) ∧ w'.cell? ⟨w4.heap.size, 4, none⟩ = some (.slice AIns_t2 d.Ins.length cIns_t2) ∧ w'.cell? ⟨w4.heap.size, 5, none⟩ = some (.slice AAccs_t2 d.Accs.length cAccs_t2) ∧ w'.cell? ⟨w4.heap.size, 6, none⟩ = some (.int .i64 d.Stray) ∧ w'.cell? ⟨w4.heap.size, 7, none⟩ = some (.int .i64 d.Came) ∧ w'.cell? ⟨w4.heap.size, 8, none⟩ = some (.int .i64 d.Went) ∧ w'.cell? ⟨w.heap.size, 0, none⟩ = some (.int .i64 d.Id) ∧ w'.cell? ⟨w.heap.size, 1, none⟩ = some (.int .i64 d.N) ∧ w'.cell? ⟨w.heap.size, 2, none⟩ = some (.slice AAccts_aX d.Accts.length cAccts_aX) ∧ w'.cell? ⟨w.heap.size, 3, none⟩ = some (.slice AOuts_aX d.Outs.length cOuts_aX) ∧ w'.cell? ⟨w.heap.size, 4, none⟩ = some (.slice AIns_aX d.Ins.length cIns_aX) ∧ w'.cell? ⟨w.heap.size, 5, none⟩ = some (.slice AAccs_aX d.Accs.length cAccs_aX) ∧ w'.cell? ⟨w.heap.size, 6, none⟩ = some (.int .i64 d.Stray) ∧ w'.cell? ⟨w.heap.size, 7, none⟩ = some (.int .i64 d.Came) ∧ w'.cell? ⟨w.heap.size, 8, none⟩ = some (.int .i64 d.Went))
    (first | exact ⟨c_x0_0_w6, c_x0_1_w6, c_x0_2_w6, c_x0_3_w6, c_x0_4_w6, c_x0_5_w6, c_x0_6_w6, c_x0_7_w6, c_x0_8_w6, c_aX_0_w6, c_aX_1_w6, c_aX_2_w6, c_aX_3_w6, c_aX_4_w6, c_aX_5_w6, c_aX_6_w6, c_aX_7_w6, c_aX_8_w6⟩ | exact ⟨qz1_x0_0, qz1_x0_1, qz1_x0_2, qz1_x0_3, qz1_x0_4, qz1_x0_5, qz1_x0_6, qz1_x0_7, qz1_x0_8, qz1_aX_0, qz1_aX_1, qz1_aX_2, qz1_aX_3, qz1_aX_4, qz1_aX_5, qz1_aX_6, qz1_aX_7, qz1_aX_8⟩ | exact ⟨qz2_x0_0, qz2_x0_1, qz2_x0_2, qz2_x0_3, qz2_x0_4, qz2_x0_5, qz2_x0_6, qz2_x0_7, qz2_x0_8, qz2_aX_0, qz2_aX_1, qz2_aX_2, qz2_aX_3, qz2_aX_4, qz2_aX_5, qz2_aX_6, qz2_aX_7, qz2_aX_8⟩ | go_keep)
    (first | ((go_at_call 11); (refine (toNode_c (r_aX.from_ (B_w6.drew)) (by omega)).mono ?_); rintro e w_z1 ⟨v_t3, rfl, o_t3, hd_z1⟩; have hb_z1 : Below w6.heap.size w6 w_z1 := (Below.refl w6.heap.size w6).drew.trans hd_z1; have sd_z1 := hd_z1.size; replace sd_z1 : w6.heap.size ≤ w_z1.heap.size := sd_z1; have qz1_x0_0 := (x_x0.from_ hb_z1).cell (i := 0) rfl; have qz1_x0_1 := (x_x0.from_ hb_z1).cell (i := 1) rfl; have qz1_x0_2 := (x_x0.from_ hb_z1).cell (i := 2) rfl; have qz1_x0_3 := (x_x0.from_ hb_z1).cell (i := 3) rfl; have qz1_x0_4 := (x_x0.from_ hb_z1).cell (i := 4) rfl; have qz1_x0_5 := (x_x0.from_ hb_z1).cell (i := 5) rfl; have qz1_x0_6 := (x_x0.from_ hb_z1).cell (i := 6) rfl; have qz1_x0_7 := (x_x0.from_ hb_z1).cell (i := 7) rfl; have qz1_x0_8 := (x_x0.from_ hb_z1).cell (i := 8) rfl; have qz1_aX_0 := (x_aX.from_ hb_z1).cell (i := 0) rfl; have qz1_aX_1 := (x_aX.from_ hb_z1).cell (i := 1) rfl; have qz1_aX_2 := (x_aX.from_ hb_z1).cell (i := 2) rfl; have qz1_aX_3 := (x_aX.from_ hb_z1).cell (i := 3) rfl; have qz1_aX_4 := (x_aX.from_ hb_z1).cell (i := 4) rfl; have qz1_aX_5 := (x_aX.from_ hb_z1).cell (i := 5) rfl; have qz1_aX_6 := (x_aX.from_ hb_z1).cell (i := 6) rfl; have qz1_aX_7 := (x_aX.from_ hb_z1).cell (i := 7) rfl; have qz1_aX_8 := (x_aX.from_ hb_z1).cell (i := 8) rfl; obtain ⟨AAccts_t3, cAccts_t3, AOuts_t3, cOuts_t3, AIns_t3, cIns_t3, AAccs_t3, cAccs_t3, rfl, -, -, -, -⟩ := rv_node o_t3.rd)
           | ((go_at_call 13); (refine (eqNode_same (o_t2.below hb_z1).rd o_t3.rd (by omega)).mono ?_); rintro e w_z2 ⟨rfl, hd_z2⟩; have hb_z2 : Below w6.heap.size w6 w_z2 := hb_z1.trans (hd_z2.mono hb_z1.size); have sd_z2 := hd_z2.size; have qz2_x0_0 := (x_x0.from_ hb_z2).cell (i := 0) rfl; have qz2_x0_1 := (x_x0.from_ hb_z2).cell (i := 1) rfl; have qz2_x0_2 := (x_x0.from_ hb_z2).cell (i := 2) rfl; have qz2_x0_3 := (x_x0.from_ hb_z2).cell (i := 3) rfl; have qz2_x0_4 := (x_x0.from_ hb_z2).cell (i := 4) rfl; have qz2_x0_5 := (x_x0.from_ hb_z2).cell (i := 5) rfl; have qz2_x0_6 := (x_x0.from_ hb_z2).cell (i := 6) rfl; have qz2_x0_7 := (x_x0.from_ hb_z2).cell (i := 7) rfl; have qz2_x0_8 := (x_x0.from_ hb_z2).cell (i := 8) rfl; have qz2_aX_0 := (x_aX.from_ hb_z2).cell (i := 0) rfl; have qz2_aX_1 := (x_aX.from_ hb_z2).cell (i := 1) rfl; have qz2_aX_2 := (x_aX.from_ hb_z2).cell (i := 2) rfl; have qz2_aX_3 := (x_aX.from_ hb_z2).cell (i := 3) rfl; have qz2_aX_4 := (x_aX.from_ hb_z2).cell (i := 4) rfl; have qz2_aX_5 := (x_aX.from_ hb_z2).cell (i := 5) rfl; have qz2_aX_6 := (x_aX.from_ hb_z2).cell (i := 6) rfl; have qz2_aX_7 := (x_aX.from_ hb_z2).cell (i := 7) rfl; have qz2_aX_8 := (x_aX.from_ hb_z2).cell (i := 8) rfl; replace o_t3 := o_t3.below hd_z2)
           | fail)
  clear c_aX_0_w6 f_aX_0_w6 c_aX_1_w6 f_aX_1_w6 c_aX_2_w6 f_aX_2_w6 c_aX_3_w6 f_aX_3_w6 c_aX_4_w6 f_aX_4_w6 c_aX_5_w6 f_aX_5_w6 c_aX_6_w6 f_aX_6_w6 c_aX_7_w6 f_aX_7_w6 c_aX_8_w6 f_aX_8_w6 c_x0_0_w6 f_x0_0_w6 c_x0_1_w6 f_x0_1_w6 c_x0_2_w6 f_x0_2_w6 c_x0_3_w6 f_x0_3_w6 c_x0_4_w6 f_x0_4_w6 c_x0_5_w6 f_x0_5_w6 c_x0_6_w6 f_x0_6_w6 c_x0_7_w6 f_x0_7_w6 c_x0_8_w6 f_x0_8_w6
  have dz_w6 : w6.drew.heap.size = w6.heap.size := rfl
  replace x_aX := x_aX.from_ hb_z2
  replace x_x0 := x_x0.from_ hb_z2
  replace o_t1 := o_t1.below hb_z2
  replace o_t2 := o_t2.below hb_z2
  have B_z2 := B_w6.trans (hb_z2.mono B_w6.size)
  have sz_z2 := hb_z2.size
  have c_aX_0_w_z2 := x_aX.cell (i := 0) rfl
  have f_aX_0_w_z2 := x_aX.frozen 0
  have c_aX_1_w_z2 := x_aX.cell (i := 1) rfl
  have f_aX_1_w_z2 := x_aX.frozen 1
  have c_aX_2_w_z2 := x_aX.cell (i := 2) rfl
  have f_aX_2_w_z2 := x_aX.frozen 2
  have c_aX_3_w_z2 := x_aX.cell (i := 3) rfl
  have f_aX_3_w_z2 := x_aX.frozen 3
  have c_aX_4_w_z2 := x_aX.cell (i := 4) rfl
  have f_aX_4_w_z2 := x_aX.frozen 4
  have c_aX_5_w_z2 := x_aX.cell (i := 5) rfl
  have f_aX_5_w_z2 := x_aX.frozen 5
  have c_aX_6_w_z2 := x_aX.cell (i := 6) rfl
  have f_aX_6_w_z2 := x_aX.frozen 6
  have c_aX_7_w_z2 := x_aX.cell (i := 7) rfl
  have f_aX_7_w_z2 := x_aX.frozen 7
  have c_aX_8_w_z2 := x_aX.cell (i := 8) rfl
  have f_aX_8_w_z2 := x_aX.frozen 8
  have c_x0_0_w_z2 := x_x0.cell (i := 0) rfl
  have f_x0_0_w_z2 := x_x0.frozen 0
  have c_x0_1_w_z2 := x_x0.cell (i := 1) rfl
  have f_x0_1_w_z2 := x_x0.frozen 1
  have c_x0_2_w_z2 := x_x0.cell (i := 2) rfl
  have f_x0_2_w_z2 := x_x0.frozen 2
  have c_x0_3_w_z2 := x_x0.cell (i := 3) rfl
  have f_x0_3_w_z2 := x_x0.frozen 3
  have c_x0_4_w_z2 := x_x0.cell (i := 4) rfl
  have f_x0_4_w_z2 := x_x0.frozen 4
  have c_x0_5_w_z2 := x_x0.cell (i := 5) rfl
  have f_x0_5_w_z2 := x_x0.frozen 5
  have c_x0_6_w_z2 := x_x0.cell (i := 6) rfl
  have f_x0_6_w_z2 := x_x0.frozen 6
  have c_x0_7_w_z2 := x_x0.cell (i := 7) rfl
  have f_x0_7_w_z2 := x_x0.frozen 7
  have c_x0_8_w_z2 := x_x0.cell (i := 8) rfl
  have f_x0_8_w_z2 := x_x0.frozen 8
  go_wp2
  go_ret
  exact ⟨rfl, B_z2⟩

end Go.Proofs.Ytdoipabfmekdlaa
