/- The walk of the law FnExactNodeSame, laid by a program of ours (lawgen2.py) out of the law's text. -/
import Derived.Test.YtdoipabfmekdlaaNoI3
import Derived.Test.YtdoipabfmekdlaaBunO
import Derived.Test.YtdoipabfmekdlaaOutC
namespace Go.Proofs.Ytdoipabfmekdlaa
open Go.RowKit
set_option linter.unusedVariables false

set_option maxRecDepth 100000 in
set_option maxHeartbeats 8000000 in
theorem wNodeSame (v_aA : Value) (d : MNode) (v_aB : Value) (g : MNode) (w : World) (r_aA : RV nodeL w v_aA d) (r_aB : RV nodeL w v_aB g) (hq : QNode d) (hq' : QNode g) :
    Calls Try.prog 7 #[v_aA, v_aB] w fun e w' => e = .returned (.bool true) ∧ Below w.heap.size w w' := by
  have h_aA := r_aA
  obtain ⟨AAccts_aA, cAccts_aA, AOuts_aA, cOuts_aA, AIns_aA, cIns_aA, AAccs_aA, cAccs_aA, rfl, -, -, -, -⟩ := rv_node h_aA
  clear h_aA
  have h_aB := r_aB
  obtain ⟨AAccts_aB, cAccts_aB, AOuts_aB, cOuts_aB, AIns_aB, cIns_aB, AAccs_aB, cAccs_aB, rfl, -, -, -, -⟩ := rv_node h_aB
  clear h_aB
  obtain ⟨wa, hwa, B0, sa, x_aA, x_aB⟩ := frame2 w 27 [.int .i64 d.Id, .int .i64 d.N, .slice AAccts_aA d.Accts.length cAccts_aA, .slice AOuts_aA d.Outs.length cOuts_aA, .slice AIns_aA d.Ins.length cIns_aA, .slice AAccs_aA d.Accs.length cAccs_aA, .int .i64 d.Stray, .int .i64 d.Came, .int .i64 d.Went] 27 [.int .i64 g.Id, .int .i64 g.N, .slice AAccts_aB g.Accts.length cAccts_aB, .slice AOuts_aB g.Outs.length cOuts_aB, .slice AIns_aB g.Ins.length cIns_aB, .slice AAccs_aB g.Accs.length cAccs_aB, .int .i64 g.Stray, .int .i64 g.Came, .int .i64 g.Went]
  have sa_1 := Nat.le_of_eq sa
  have sa_2 := Nat.le_of_eq sa.symm
  clear sa
  have c_aA_0_wa := x_aA.cell (i := 0) rfl
  have c_aA_1_wa := x_aA.cell (i := 1) rfl
  have c_aA_2_wa := x_aA.cell (i := 2) rfl
  have c_aA_3_wa := x_aA.cell (i := 3) rfl
  have c_aA_4_wa := x_aA.cell (i := 4) rfl
  have c_aA_5_wa := x_aA.cell (i := 5) rfl
  have c_aA_6_wa := x_aA.cell (i := 6) rfl
  have c_aA_7_wa := x_aA.cell (i := 7) rfl
  have c_aA_8_wa := x_aA.cell (i := 8) rfl
  have c_aB_0_wa := x_aB.cell (i := 0) rfl
  have c_aB_1_wa := x_aB.cell (i := 1) rfl
  have c_aB_2_wa := x_aB.cell (i := 2) rfl
  have c_aB_3_wa := x_aB.cell (i := 3) rfl
  have c_aB_4_wa := x_aB.cell (i := 4) rfl
  have c_aB_5_wa := x_aB.cell (i := 5) rfl
  have c_aB_6_wa := x_aB.cell (i := 6) rfl
  have c_aB_7_wa := x_aB.cell (i := 7) rfl
  have c_aB_8_wa := x_aB.cell (i := 8) rfl
  by_cases hbig_aA : d.bulk ≤ 1048576
  case neg =>
    go_enter Try.func7, Try.ntmps7
    go_wp2_with fail
    refine (szNode_c (r_aA.from_ B0) (by omega) (by omega)).mono ?_
    rintro e w1 ⟨rfl, h_w1⟩
    clear c_aA_0_wa c_aA_1_wa c_aA_2_wa c_aA_3_wa c_aA_4_wa c_aA_5_wa c_aA_6_wa c_aA_7_wa c_aA_8_wa c_aB_0_wa c_aB_1_wa c_aB_2_wa c_aB_3_wa c_aB_4_wa c_aB_5_wa c_aB_6_wa c_aB_7_wa c_aB_8_wa
    replace x_aA := x_aA.from_ h_w1
    replace x_aB := x_aB.from_ h_w1
    have B_w1 := B0.trans (h_w1.mono B0.size)
    have s_w1 := h_w1.size
    rw [show szV (1048576) (d.bulk : Int) = -1 from if_neg (by omega)]
    have c_aA_0_w1 := x_aA.cell (i := 0) rfl
    have c_aA_1_w1 := x_aA.cell (i := 1) rfl
    have c_aA_2_w1 := x_aA.cell (i := 2) rfl
    have c_aA_3_w1 := x_aA.cell (i := 3) rfl
    have c_aA_4_w1 := x_aA.cell (i := 4) rfl
    have c_aA_5_w1 := x_aA.cell (i := 5) rfl
    have c_aA_6_w1 := x_aA.cell (i := 6) rfl
    have c_aA_7_w1 := x_aA.cell (i := 7) rfl
    have c_aA_8_w1 := x_aA.cell (i := 8) rfl
    have c_aB_0_w1 := x_aB.cell (i := 0) rfl
    have c_aB_1_w1 := x_aB.cell (i := 1) rfl
    have c_aB_2_w1 := x_aB.cell (i := 2) rfl
    have c_aB_3_w1 := x_aB.cell (i := 3) rfl
    have c_aB_4_w1 := x_aB.cell (i := 4) rfl
    have c_aB_5_w1 := x_aB.cell (i := 5) rfl
    have c_aB_6_w1 := x_aB.cell (i := 6) rfl
    have c_aB_7_w1 := x_aB.cell (i := 7) rfl
    have c_aB_8_w1 := x_aB.cell (i := 8) rfl
    go_wp2
    go_ret
    exact ⟨rfl, B_w1⟩
  by_cases hbig_aB : d.bulk + g.bulk ≤ 1048576
  case neg =>
    go_enter Try.func7, Try.ntmps7
    go_wp2_with fail
    refine (szNode_c (r_aA.from_ B0) (by omega) (by omega)).mono ?_
    rintro e w1 ⟨rfl, h_w1⟩
    clear c_aA_0_wa c_aA_1_wa c_aA_2_wa c_aA_3_wa c_aA_4_wa c_aA_5_wa c_aA_6_wa c_aA_7_wa c_aA_8_wa c_aB_0_wa c_aB_1_wa c_aB_2_wa c_aB_3_wa c_aB_4_wa c_aB_5_wa c_aB_6_wa c_aB_7_wa c_aB_8_wa
    replace x_aA := x_aA.from_ h_w1
    replace x_aB := x_aB.from_ h_w1
    have B_w1 := B0.trans (h_w1.mono B0.size)
    have s_w1 := h_w1.size
    rw [show szV (1048576) (d.bulk : Int) = 1048576 - (d.bulk : Int) from if_pos (by omega)]
    have gz0 : decide (1048576 - (d.bulk : Int) < 0) = false := decide_eq_false (by omega)
    have c_aA_0_w1 := x_aA.cell (i := 0) rfl
    have c_aA_1_w1 := x_aA.cell (i := 1) rfl
    have c_aA_2_w1 := x_aA.cell (i := 2) rfl
    have c_aA_3_w1 := x_aA.cell (i := 3) rfl
    have c_aA_4_w1 := x_aA.cell (i := 4) rfl
    have c_aA_5_w1 := x_aA.cell (i := 5) rfl
    have c_aA_6_w1 := x_aA.cell (i := 6) rfl
    have c_aA_7_w1 := x_aA.cell (i := 7) rfl
    have c_aA_8_w1 := x_aA.cell (i := 8) rfl
    have c_aB_0_w1 := x_aB.cell (i := 0) rfl
    have c_aB_1_w1 := x_aB.cell (i := 1) rfl
    have c_aB_2_w1 := x_aB.cell (i := 2) rfl
    have c_aB_3_w1 := x_aB.cell (i := 3) rfl
    have c_aB_4_w1 := x_aB.cell (i := 4) rfl
    have c_aB_5_w1 := x_aB.cell (i := 5) rfl
    have c_aB_6_w1 := x_aB.cell (i := 6) rfl
    have c_aB_7_w1 := x_aB.cell (i := 7) rfl
    have c_aB_8_w1 := x_aB.cell (i := 8) rfl
    go_wp2_with fail
    refine (szNode_c (r_aB.from_ B_w1) (by omega) (by omega)).mono ?_
    rintro e w2 ⟨rfl, h_w2⟩
    clear c_aA_0_w1 c_aA_1_w1 c_aA_2_w1 c_aA_3_w1 c_aA_4_w1 c_aA_5_w1 c_aA_6_w1 c_aA_7_w1 c_aA_8_w1 c_aB_0_w1 c_aB_1_w1 c_aB_2_w1 c_aB_3_w1 c_aB_4_w1 c_aB_5_w1 c_aB_6_w1 c_aB_7_w1 c_aB_8_w1
    replace x_aA := x_aA.from_ h_w2
    replace x_aB := x_aB.from_ h_w2
    have B_w2 := B_w1.trans (h_w2.mono B_w1.size)
    have s_w2 := h_w2.size
    rw [show szV (1048576 - (d.bulk : Int)) (g.bulk : Int) = -1 from if_neg (by omega)]
    have c_aA_0_w2 := x_aA.cell (i := 0) rfl
    have c_aA_1_w2 := x_aA.cell (i := 1) rfl
    have c_aA_2_w2 := x_aA.cell (i := 2) rfl
    have c_aA_3_w2 := x_aA.cell (i := 3) rfl
    have c_aA_4_w2 := x_aA.cell (i := 4) rfl
    have c_aA_5_w2 := x_aA.cell (i := 5) rfl
    have c_aA_6_w2 := x_aA.cell (i := 6) rfl
    have c_aA_7_w2 := x_aA.cell (i := 7) rfl
    have c_aA_8_w2 := x_aA.cell (i := 8) rfl
    have c_aB_0_w2 := x_aB.cell (i := 0) rfl
    have c_aB_1_w2 := x_aB.cell (i := 1) rfl
    have c_aB_2_w2 := x_aB.cell (i := 2) rfl
    have c_aB_3_w2 := x_aB.cell (i := 3) rfl
    have c_aB_4_w2 := x_aB.cell (i := 4) rfl
    have c_aB_5_w2 := x_aB.cell (i := 5) rfl
    have c_aB_6_w2 := x_aB.cell (i := 6) rfl
    have c_aB_7_w2 := x_aB.cell (i := 7) rfl
    have c_aB_8_w2 := x_aB.cell (i := 8) rfl
    go_wp2
    go_ret
    exact ⟨rfl, B_w2⟩
  have hz_aA := MNode.steps_le d
  have hz_aB := MNode.steps_le g
  obtain ⟨R0, hR0⟩ : ∃ R, nodeSameB d g = R := ⟨_, rfl⟩
  have HR0 := Lib.hid hR0
  clear hR0
  go_enter Try.func7, Try.ntmps7
  go_wp2_with fail
  refine (szNode_c (r_aA.from_ B0) (by omega) (by omega)).mono ?_
  rintro e w1 ⟨rfl, h_w1⟩
  clear c_aA_0_wa c_aA_1_wa c_aA_2_wa c_aA_3_wa c_aA_4_wa c_aA_5_wa c_aA_6_wa c_aA_7_wa c_aA_8_wa c_aB_0_wa c_aB_1_wa c_aB_2_wa c_aB_3_wa c_aB_4_wa c_aB_5_wa c_aB_6_wa c_aB_7_wa c_aB_8_wa
  replace x_aA := x_aA.from_ h_w1
  replace x_aB := x_aB.from_ h_w1
  have B_w1 := B0.trans (h_w1.mono B0.size)
  have s_w1 := h_w1.size
  rw [show szV (1048576) (d.bulk : Int) = 1048576 - (d.bulk : Int) from if_pos (by omega)]
  have gz0 : decide (1048576 - (d.bulk : Int) < 0) = false := decide_eq_false (by omega)
  have c_aA_0_w1 := x_aA.cell (i := 0) rfl
  have c_aA_1_w1 := x_aA.cell (i := 1) rfl
  have c_aA_2_w1 := x_aA.cell (i := 2) rfl
  have c_aA_3_w1 := x_aA.cell (i := 3) rfl
  have c_aA_4_w1 := x_aA.cell (i := 4) rfl
  have c_aA_5_w1 := x_aA.cell (i := 5) rfl
  have c_aA_6_w1 := x_aA.cell (i := 6) rfl
  have c_aA_7_w1 := x_aA.cell (i := 7) rfl
  have c_aA_8_w1 := x_aA.cell (i := 8) rfl
  have c_aB_0_w1 := x_aB.cell (i := 0) rfl
  have c_aB_1_w1 := x_aB.cell (i := 1) rfl
  have c_aB_2_w1 := x_aB.cell (i := 2) rfl
  have c_aB_3_w1 := x_aB.cell (i := 3) rfl
  have c_aB_4_w1 := x_aB.cell (i := 4) rfl
  have c_aB_5_w1 := x_aB.cell (i := 5) rfl
  have c_aB_6_w1 := x_aB.cell (i := 6) rfl
  have c_aB_7_w1 := x_aB.cell (i := 7) rfl
  have c_aB_8_w1 := x_aB.cell (i := 8) rfl
  go_wp2_with fail
  refine (szNode_c (r_aB.from_ B_w1) (by omega) (by omega)).mono ?_
  rintro e w2 ⟨rfl, h_w2⟩
  clear c_aA_0_w1 c_aA_1_w1 c_aA_2_w1 c_aA_3_w1 c_aA_4_w1 c_aA_5_w1 c_aA_6_w1 c_aA_7_w1 c_aA_8_w1 c_aB_0_w1 c_aB_1_w1 c_aB_2_w1 c_aB_3_w1 c_aB_4_w1 c_aB_5_w1 c_aB_6_w1 c_aB_7_w1 c_aB_8_w1
  replace x_aA := x_aA.from_ h_w2
  replace x_aB := x_aB.from_ h_w2
  have B_w2 := B_w1.trans (h_w2.mono B_w1.size)
  have s_w2 := h_w2.size
  rw [show szV (1048576 - (d.bulk : Int)) (g.bulk : Int) = 1048576 - (d.bulk : Int) - (g.bulk : Int) from if_pos (by omega)]
  have gz1 : decide (1048576 - (d.bulk : Int) - (g.bulk : Int) < 0) = false := decide_eq_false (by omega)
  have c_aA_0_w2 := x_aA.cell (i := 0) rfl
  have c_aA_1_w2 := x_aA.cell (i := 1) rfl
  have c_aA_2_w2 := x_aA.cell (i := 2) rfl
  have c_aA_3_w2 := x_aA.cell (i := 3) rfl
  have c_aA_4_w2 := x_aA.cell (i := 4) rfl
  have c_aA_5_w2 := x_aA.cell (i := 5) rfl
  have c_aA_6_w2 := x_aA.cell (i := 6) rfl
  have c_aA_7_w2 := x_aA.cell (i := 7) rfl
  have c_aA_8_w2 := x_aA.cell (i := 8) rfl
  have c_aB_0_w2 := x_aB.cell (i := 0) rfl
  have c_aB_1_w2 := x_aB.cell (i := 1) rfl
  have c_aB_2_w2 := x_aB.cell (i := 2) rfl
  have c_aB_3_w2 := x_aB.cell (i := 3) rfl
  have c_aB_4_w2 := x_aB.cell (i := 4) rfl
  have c_aB_5_w2 := x_aB.cell (i := 5) rfl
  have c_aB_6_w2 := x_aB.cell (i := 6) rfl
  have c_aB_7_w2 := x_aB.cell (i := 7) rfl
  have c_aB_8_w2 := x_aB.cell (i := 8) rfl
  go_wp2_with fail
  go_region_held3 (fun w' => w'.cell? ⟨w.heap.size, 0, none⟩ = some (.int .i64 d.Id) ∧ w'.cell? ⟨w.heap.size, 1, none⟩ = some (.int .i64 d.N) ∧ w'.cell? ⟨w.heap.size, 2, none⟩ = some (.slice AAccts_aA d.Accts.length cAccts_aA) ∧ w'.cell? ⟨w.heap.size, 3, none⟩ = some (.slice AOuts_aA d.Outs.length cOuts_aA) ∧ w'.cell? ⟨w.heap.size, 4, none⟩ = some (.slice AIns_aA d.Ins.length cIns_aA) ∧ w'.cell? ⟨w.heap.size, 5, none⟩ = some (.slice AAccs_aA d.Accs.length cAccs_aA) ∧ w'.cell? ⟨w.heap.size, 6, none⟩ = some (.int .i64 d.Stray) ∧ w'.cell? ⟨w.heap.size, 7, none⟩ = some (.int .i64 d.Came) ∧ w'.cell? ⟨w.heap.size, 8, none⟩ = some (.int .i64 d.Went) ∧ w'.cell? ⟨w.heap.size + 1, 0, none⟩ = some (.int .i64 g.Id) ∧ w'.cell? ⟨w.heap.size + 1, 1, none⟩ = some (.int .i64 g.N) ∧ w'.cell? ⟨w.heap.size + 1, 2, none⟩ = some (.slice AAccts_aB g.Accts.length cAccts_aB) ∧ w'.cell? ⟨w.heap.size + 1, 3, none⟩ = some (.slice AOuts_aB g.Outs.length cOuts_aB) ∧ w'.cell? ⟨w.heap.size + 1, 4, none⟩ = some (.slice AIns_aB g.Ins.length cIns_aB) ∧ w'.cell? ⟨w.heap.size + 1, 5, none⟩ = some (.slice AAccs_aB g.Accs.length cAccs_aB) ∧ w'.cell? ⟨w.heap.size + 1, 6, none⟩ = some (.int .i64 g.Stray) ∧ w'.cell? ⟨w.heap.size + 1, 7, none⟩ = some (.int .i64 g.Came) ∧ w'.cell? ⟨w.heap.size + 1, 8, none⟩ = some (.int .i64 g.Went))
    (first | exact ⟨c_aA_0_w2, c_aA_1_w2, c_aA_2_w2, c_aA_3_w2, c_aA_4_w2, c_aA_5_w2, c_aA_6_w2, c_aA_7_w2, c_aA_8_w2, c_aB_0_w2, c_aB_1_w2, c_aB_2_w2, c_aB_3_w2, c_aB_4_w2, c_aB_5_w2, c_aB_6_w2, c_aB_7_w2, c_aB_8_w2⟩ | exact ⟨qz1_aA_0, qz1_aA_1, qz1_aA_2, qz1_aA_3, qz1_aA_4, qz1_aA_5, qz1_aA_6, qz1_aA_7, qz1_aA_8, qz1_aB_0, qz1_aB_1, qz1_aB_2, qz1_aB_3, qz1_aB_4, qz1_aB_5, qz1_aB_6, qz1_aB_7, qz1_aB_8⟩ | exact ⟨qz2_aA_0, qz2_aA_1, qz2_aA_2, qz2_aA_3, qz2_aA_4, qz2_aA_5, qz2_aA_6, qz2_aA_7, qz2_aA_8, qz2_aB_0, qz2_aB_1, qz2_aB_2, qz2_aB_3, qz2_aB_4, qz2_aB_5, qz2_aB_6, qz2_aB_7, qz2_aB_8⟩ | exact ⟨qz3_aA_0, qz3_aA_1, qz3_aA_2, qz3_aA_3, qz3_aA_4, qz3_aA_5, qz3_aA_6, qz3_aA_7, qz3_aA_8, qz3_aB_0, qz3_aB_1, qz3_aB_2, qz3_aB_3, qz3_aB_4, qz3_aB_5, qz3_aB_6, qz3_aB_7, qz3_aB_8⟩ | go_keep)
    (first | ((go_at_call_of 11 (Value.agg #[.int .i64 d.Id, .int .i64 d.N, .slice AAccts_aA d.Accts.length cAccts_aA, .slice AOuts_aA d.Outs.length cOuts_aA, .slice AIns_aA d.Ins.length cIns_aA, .slice AAccs_aA d.Accs.length cAccs_aA, .int .i64 d.Stray, .int .i64 d.Came, .int .i64 d.Went])); (refine (toNode_c (r_aA.from_ (B_w2.drew)) (by omega)).mono ?_); rintro e w_z1 ⟨v_t1, rfl, o_t1, hd_z1⟩; have hb_z1 : Below w2.heap.size w2 w_z1 := (Below.refl w2.heap.size w2).drew.trans hd_z1; have sd_z1 := hd_z1.size; replace sd_z1 : w2.heap.size ≤ w_z1.heap.size := sd_z1; have qz1_aA_0 := (x_aA.from_ hb_z1).cell (i := 0) rfl; have qz1_aA_1 := (x_aA.from_ hb_z1).cell (i := 1) rfl; have qz1_aA_2 := (x_aA.from_ hb_z1).cell (i := 2) rfl; have qz1_aA_3 := (x_aA.from_ hb_z1).cell (i := 3) rfl; have qz1_aA_4 := (x_aA.from_ hb_z1).cell (i := 4) rfl; have qz1_aA_5 := (x_aA.from_ hb_z1).cell (i := 5) rfl; have qz1_aA_6 := (x_aA.from_ hb_z1).cell (i := 6) rfl; have qz1_aA_7 := (x_aA.from_ hb_z1).cell (i := 7) rfl; have qz1_aA_8 := (x_aA.from_ hb_z1).cell (i := 8) rfl; have qz1_aB_0 := (x_aB.from_ hb_z1).cell (i := 0) rfl; have qz1_aB_1 := (x_aB.from_ hb_z1).cell (i := 1) rfl; have qz1_aB_2 := (x_aB.from_ hb_z1).cell (i := 2) rfl; have qz1_aB_3 := (x_aB.from_ hb_z1).cell (i := 3) rfl; have qz1_aB_4 := (x_aB.from_ hb_z1).cell (i := 4) rfl; have qz1_aB_5 := (x_aB.from_ hb_z1).cell (i := 5) rfl; have qz1_aB_6 := (x_aB.from_ hb_z1).cell (i := 6) rfl; have qz1_aB_7 := (x_aB.from_ hb_z1).cell (i := 7) rfl; have qz1_aB_8 := (x_aB.from_ hb_z1).cell (i := 8) rfl; obtain ⟨AAccts_t1, cAccts_t1, AOuts_t1, cOuts_t1, AIns_t1, cIns_t1, AAccs_t1, cAccs_t1, rfl, -, -, -, -⟩ := rv_node o_t1.rd)
           | ((go_at_call_of 11 (Value.agg #[.int .i64 g.Id, .int .i64 g.N, .slice AAccts_aB g.Accts.length cAccts_aB, .slice AOuts_aB g.Outs.length cOuts_aB, .slice AIns_aB g.Ins.length cIns_aB, .slice AAccs_aB g.Accs.length cAccs_aB, .int .i64 g.Stray, .int .i64 g.Came, .int .i64 g.Went])); (refine (toNode_c (r_aB.from_ (B_w2.trans (hb_z1.mono B_w2.size))) (by omega)).mono ?_); rintro e w_z2 ⟨v_t2, rfl, o_t2, hd_z2⟩; have hb_z2 : Below w2.heap.size w2 w_z2 := hb_z1.trans (hd_z2.mono hb_z1.size); have sd_z2 := hd_z2.size; have qz2_aA_0 := (x_aA.from_ hb_z2).cell (i := 0) rfl; have qz2_aA_1 := (x_aA.from_ hb_z2).cell (i := 1) rfl; have qz2_aA_2 := (x_aA.from_ hb_z2).cell (i := 2) rfl; have qz2_aA_3 := (x_aA.from_ hb_z2).cell (i := 3) rfl; have qz2_aA_4 := (x_aA.from_ hb_z2).cell (i := 4) rfl; have qz2_aA_5 := (x_aA.from_ hb_z2).cell (i := 5) rfl; have qz2_aA_6 := (x_aA.from_ hb_z2).cell (i := 6) rfl; have qz2_aA_7 := (x_aA.from_ hb_z2).cell (i := 7) rfl; have qz2_aA_8 := (x_aA.from_ hb_z2).cell (i := 8) rfl; have qz2_aB_0 := (x_aB.from_ hb_z2).cell (i := 0) rfl; have qz2_aB_1 := (x_aB.from_ hb_z2).cell (i := 1) rfl; have qz2_aB_2 := (x_aB.from_ hb_z2).cell (i := 2) rfl; have qz2_aB_3 := (x_aB.from_ hb_z2).cell (i := 3) rfl; have qz2_aB_4 := (x_aB.from_ hb_z2).cell (i := 4) rfl; have qz2_aB_5 := (x_aB.from_ hb_z2).cell (i := 5) rfl; have qz2_aB_6 := (x_aB.from_ hb_z2).cell (i := 6) rfl; have qz2_aB_7 := (x_aB.from_ hb_z2).cell (i := 7) rfl; have qz2_aB_8 := (x_aB.from_ hb_z2).cell (i := 8) rfl; replace o_t1 := o_t1.below hd_z2; obtain ⟨AAccts_t2, cAccts_t2, AOuts_t2, cOuts_t2, AIns_t2, cIns_t2, AAccs_t2, cAccs_t2, rfl, -, -, -, -⟩ := rv_node o_t2.rd)
           | ((go_at_call 22); (refine (sNodeSame_c o_t1.rd o_t2.rd (by omega) (by omega)).mono ?_); rintro e w_z3 ⟨rfl, hd_z3⟩; have hb_z3 : Below w2.heap.size w2 w_z3 := hb_z2.trans (hd_z3.mono hb_z2.size); have sd_z3 := hd_z3.size; have qz3_aA_0 := (x_aA.from_ hb_z3).cell (i := 0) rfl; have qz3_aA_1 := (x_aA.from_ hb_z3).cell (i := 1) rfl; have qz3_aA_2 := (x_aA.from_ hb_z3).cell (i := 2) rfl; have qz3_aA_3 := (x_aA.from_ hb_z3).cell (i := 3) rfl; have qz3_aA_4 := (x_aA.from_ hb_z3).cell (i := 4) rfl; have qz3_aA_5 := (x_aA.from_ hb_z3).cell (i := 5) rfl; have qz3_aA_6 := (x_aA.from_ hb_z3).cell (i := 6) rfl; have qz3_aA_7 := (x_aA.from_ hb_z3).cell (i := 7) rfl; have qz3_aA_8 := (x_aA.from_ hb_z3).cell (i := 8) rfl; have qz3_aB_0 := (x_aB.from_ hb_z3).cell (i := 0) rfl; have qz3_aB_1 := (x_aB.from_ hb_z3).cell (i := 1) rfl; have qz3_aB_2 := (x_aB.from_ hb_z3).cell (i := 2) rfl; have qz3_aB_3 := (x_aB.from_ hb_z3).cell (i := 3) rfl; have qz3_aB_4 := (x_aB.from_ hb_z3).cell (i := 4) rfl; have qz3_aB_5 := (x_aB.from_ hb_z3).cell (i := 5) rfl; have qz3_aB_6 := (x_aB.from_ hb_z3).cell (i := 6) rfl; have qz3_aB_7 := (x_aB.from_ hb_z3).cell (i := 7) rfl; have qz3_aB_8 := (x_aB.from_ hb_z3).cell (i := 8) rfl; replace o_t1 := o_t1.below hd_z3; replace o_t2 := o_t2.below hd_z3; rw [HR0.out])
           | fail)
  clear c_aA_0_w2 c_aA_1_w2 c_aA_2_w2 c_aA_3_w2 c_aA_4_w2 c_aA_5_w2 c_aA_6_w2 c_aA_7_w2 c_aA_8_w2 c_aB_0_w2 c_aB_1_w2 c_aB_2_w2 c_aB_3_w2 c_aB_4_w2 c_aB_5_w2 c_aB_6_w2 c_aB_7_w2 c_aB_8_w2
  have dz_w2 : w2.drew.heap.size = w2.heap.size := rfl
  replace x_aA := x_aA.from_ hb_z3
  replace x_aB := x_aB.from_ hb_z3
  have B_z3 := B_w2.trans (hb_z3.mono B_w2.size)
  have sz_z3 := hb_z3.size
  have c_aA_0_w_z3 := x_aA.cell (i := 0) rfl
  have f_aA_0_w_z3 := x_aA.frozen 0
  have c_aA_1_w_z3 := x_aA.cell (i := 1) rfl
  have f_aA_1_w_z3 := x_aA.frozen 1
  have c_aA_2_w_z3 := x_aA.cell (i := 2) rfl
  have f_aA_2_w_z3 := x_aA.frozen 2
  have c_aA_3_w_z3 := x_aA.cell (i := 3) rfl
  have f_aA_3_w_z3 := x_aA.frozen 3
  have c_aA_4_w_z3 := x_aA.cell (i := 4) rfl
  have f_aA_4_w_z3 := x_aA.frozen 4
  have c_aA_5_w_z3 := x_aA.cell (i := 5) rfl
  have f_aA_5_w_z3 := x_aA.frozen 5
  have c_aA_6_w_z3 := x_aA.cell (i := 6) rfl
  have f_aA_6_w_z3 := x_aA.frozen 6
  have c_aA_7_w_z3 := x_aA.cell (i := 7) rfl
  have f_aA_7_w_z3 := x_aA.frozen 7
  have c_aA_8_w_z3 := x_aA.cell (i := 8) rfl
  have f_aA_8_w_z3 := x_aA.frozen 8
  have c_aB_0_w_z3 := x_aB.cell (i := 0) rfl
  have f_aB_0_w_z3 := x_aB.frozen 0
  have c_aB_1_w_z3 := x_aB.cell (i := 1) rfl
  have f_aB_1_w_z3 := x_aB.frozen 1
  have c_aB_2_w_z3 := x_aB.cell (i := 2) rfl
  have f_aB_2_w_z3 := x_aB.frozen 2
  have c_aB_3_w_z3 := x_aB.cell (i := 3) rfl
  have f_aB_3_w_z3 := x_aB.frozen 3
  have c_aB_4_w_z3 := x_aB.cell (i := 4) rfl
  have f_aB_4_w_z3 := x_aB.frozen 4
  have c_aB_5_w_z3 := x_aB.cell (i := 5) rfl
  have f_aB_5_w_z3 := x_aB.frozen 5
  have c_aB_6_w_z3 := x_aB.cell (i := 6) rfl
  have f_aB_6_w_z3 := x_aB.frozen 6
  have c_aB_7_w_z3 := x_aB.cell (i := 7) rfl
  have f_aB_7_w_z3 := x_aB.frozen 7
  have c_aB_8_w_z3 := x_aB.cell (i := 8) rfl
  have f_aB_8_w_z3 := x_aB.frozen 8
  go_wp2_with fail
  refine (toNode_c (r_aA.from_ B_z3) (by omega)).mono ?_
  rintro e w3 ⟨v_t3, rfl, o_t3, h_w3⟩
  clear c_aA_0_w_z3 f_aA_0_w_z3 c_aA_1_w_z3 f_aA_1_w_z3 c_aA_2_w_z3 f_aA_2_w_z3 c_aA_3_w_z3 f_aA_3_w_z3 c_aA_4_w_z3 f_aA_4_w_z3 c_aA_5_w_z3 f_aA_5_w_z3 c_aA_6_w_z3 f_aA_6_w_z3 c_aA_7_w_z3 f_aA_7_w_z3 c_aA_8_w_z3 f_aA_8_w_z3 c_aB_0_w_z3 f_aB_0_w_z3 c_aB_1_w_z3 f_aB_1_w_z3 c_aB_2_w_z3 f_aB_2_w_z3 c_aB_3_w_z3 f_aB_3_w_z3 c_aB_4_w_z3 f_aB_4_w_z3 c_aB_5_w_z3 f_aB_5_w_z3 c_aB_6_w_z3 f_aB_6_w_z3 c_aB_7_w_z3 f_aB_7_w_z3 c_aB_8_w_z3 f_aB_8_w_z3
  replace x_aA := x_aA.from_ h_w3
  replace x_aB := x_aB.from_ h_w3
  replace o_t1 := o_t1.below h_w3
  replace o_t2 := o_t2.below h_w3
  have B_w3 := B_z3.trans (h_w3.mono B_z3.size)
  have s_w3 := h_w3.size
  obtain ⟨AAccts_t3, cAccts_t3, AOuts_t3, cOuts_t3, AIns_t3, cIns_t3, AAccs_t3, cAccs_t3, rfl, -, -, -, -⟩ := rv_node o_t3.rd
  have c_aA_0_w3 := x_aA.cell (i := 0) rfl
  have f_aA_0_w3 := x_aA.frozen 0
  have c_aA_1_w3 := x_aA.cell (i := 1) rfl
  have f_aA_1_w3 := x_aA.frozen 1
  have c_aA_2_w3 := x_aA.cell (i := 2) rfl
  have f_aA_2_w3 := x_aA.frozen 2
  have c_aA_3_w3 := x_aA.cell (i := 3) rfl
  have f_aA_3_w3 := x_aA.frozen 3
  have c_aA_4_w3 := x_aA.cell (i := 4) rfl
  have f_aA_4_w3 := x_aA.frozen 4
  have c_aA_5_w3 := x_aA.cell (i := 5) rfl
  have f_aA_5_w3 := x_aA.frozen 5
  have c_aA_6_w3 := x_aA.cell (i := 6) rfl
  have f_aA_6_w3 := x_aA.frozen 6
  have c_aA_7_w3 := x_aA.cell (i := 7) rfl
  have f_aA_7_w3 := x_aA.frozen 7
  have c_aA_8_w3 := x_aA.cell (i := 8) rfl
  have f_aA_8_w3 := x_aA.frozen 8
  have c_aB_0_w3 := x_aB.cell (i := 0) rfl
  have f_aB_0_w3 := x_aB.frozen 0
  have c_aB_1_w3 := x_aB.cell (i := 1) rfl
  have f_aB_1_w3 := x_aB.frozen 1
  have c_aB_2_w3 := x_aB.cell (i := 2) rfl
  have f_aB_2_w3 := x_aB.frozen 2
  have c_aB_3_w3 := x_aB.cell (i := 3) rfl
  have f_aB_3_w3 := x_aB.frozen 3
  have c_aB_4_w3 := x_aB.cell (i := 4) rfl
  have f_aB_4_w3 := x_aB.frozen 4
  have c_aB_5_w3 := x_aB.cell (i := 5) rfl
  have f_aB_5_w3 := x_aB.frozen 5
  have c_aB_6_w3 := x_aB.cell (i := 6) rfl
  have f_aB_6_w3 := x_aB.frozen 6
  have c_aB_7_w3 := x_aB.cell (i := 7) rfl
  have f_aB_7_w3 := x_aB.frozen 7
  have c_aB_8_w3 := x_aB.cell (i := 8) rfl
  have f_aB_8_w3 := x_aB.frozen 8
  obtain ⟨w4, e_w4, s_w4, h_w4, x_x0⟩ := alloc_step w3 34 [.int .i64 d.Id, .int .i64 d.N, .slice AAccts_t3 d.Accts.length cAccts_t3, .slice AOuts_t3 d.Outs.length cOuts_t3, .slice AIns_t3 d.Ins.length cIns_t3, .slice AAccs_t3 d.Accs.length cAccs_t3, .int .i64 d.Stray, .int .i64 d.Came, .int .i64 d.Went]
  have s_w4_1 := Nat.le_of_eq s_w4
  have s_w4_2 := Nat.le_of_eq s_w4.symm
  clear s_w4
  replace x_aA := x_aA.from_ h_w4
  replace x_aB := x_aB.from_ h_w4
  replace o_t1 := o_t1.below h_w4
  replace o_t2 := o_t2.below h_w4
  replace o_t3 := o_t3.below h_w4
  have B_w4 := B_w3.trans (h_w4.mono B_w3.size)
  have c_aA_0_w4 := x_aA.cell (i := 0) rfl
  have f_aA_0_w4 := x_aA.frozen 0
  have c_aA_1_w4 := x_aA.cell (i := 1) rfl
  have f_aA_1_w4 := x_aA.frozen 1
  have c_aA_2_w4 := x_aA.cell (i := 2) rfl
  have f_aA_2_w4 := x_aA.frozen 2
  have c_aA_3_w4 := x_aA.cell (i := 3) rfl
  have f_aA_3_w4 := x_aA.frozen 3
  have c_aA_4_w4 := x_aA.cell (i := 4) rfl
  have f_aA_4_w4 := x_aA.frozen 4
  have c_aA_5_w4 := x_aA.cell (i := 5) rfl
  have f_aA_5_w4 := x_aA.frozen 5
  have c_aA_6_w4 := x_aA.cell (i := 6) rfl
  have f_aA_6_w4 := x_aA.frozen 6
  have c_aA_7_w4 := x_aA.cell (i := 7) rfl
  have f_aA_7_w4 := x_aA.frozen 7
  have c_aA_8_w4 := x_aA.cell (i := 8) rfl
  have f_aA_8_w4 := x_aA.frozen 8
  have c_aB_0_w4 := x_aB.cell (i := 0) rfl
  have f_aB_0_w4 := x_aB.frozen 0
  have c_aB_1_w4 := x_aB.cell (i := 1) rfl
  have f_aB_1_w4 := x_aB.frozen 1
  have c_aB_2_w4 := x_aB.cell (i := 2) rfl
  have f_aB_2_w4 := x_aB.frozen 2
  have c_aB_3_w4 := x_aB.cell (i := 3) rfl
  have f_aB_3_w4 := x_aB.frozen 3
  have c_aB_4_w4 := x_aB.cell (i := 4) rfl
  have f_aB_4_w4 := x_aB.frozen 4
  have c_aB_5_w4 := x_aB.cell (i := 5) rfl
  have f_aB_5_w4 := x_aB.frozen 5
  have c_aB_6_w4 := x_aB.cell (i := 6) rfl
  have f_aB_6_w4 := x_aB.frozen 6
  have c_aB_7_w4 := x_aB.cell (i := 7) rfl
  have f_aB_7_w4 := x_aB.frozen 7
  have c_aB_8_w4 := x_aB.cell (i := 8) rfl
  have f_aB_8_w4 := x_aB.frozen 8
  have c_x0_0_w4 := x_x0.cell (i := 0) rfl
  have f_x0_0_w4 := x_x0.frozen 0
  have c_x0_1_w4 := x_x0.cell (i := 1) rfl
  have f_x0_1_w4 := x_x0.frozen 1
  have c_x0_2_w4 := x_x0.cell (i := 2) rfl
  have f_x0_2_w4 := x_x0.frozen 2
  have c_x0_3_w4 := x_x0.cell (i := 3) rfl
  have f_x0_3_w4 := x_x0.frozen 3
  have c_x0_4_w4 := x_x0.cell (i := 4) rfl
  have f_x0_4_w4 := x_x0.frozen 4
  have c_x0_5_w4 := x_x0.cell (i := 5) rfl
  have f_x0_5_w4 := x_x0.frozen 5
  have c_x0_6_w4 := x_x0.cell (i := 6) rfl
  have f_x0_6_w4 := x_x0.frozen 6
  have c_x0_7_w4 := x_x0.cell (i := 7) rfl
  have f_x0_7_w4 := x_x0.frozen 7
  have c_x0_8_w4 := x_x0.cell (i := 8) rfl
  have f_x0_8_w4 := x_x0.frozen 8
  go_wp2_with fail
  refine (toNode_c (r_aB.from_ B_w4) (by omega)).mono ?_
  rintro e w5 ⟨v_t4, rfl, o_t4, h_w5⟩
  clear c_aA_0_w3 f_aA_0_w3 c_aA_1_w3 f_aA_1_w3 c_aA_2_w3 f_aA_2_w3 c_aA_3_w3 f_aA_3_w3 c_aA_4_w3 f_aA_4_w3 c_aA_5_w3 f_aA_5_w3 c_aA_6_w3 f_aA_6_w3 c_aA_7_w3 f_aA_7_w3 c_aA_8_w3 f_aA_8_w3 c_aB_0_w3 f_aB_0_w3 c_aB_1_w3 f_aB_1_w3 c_aB_2_w3 f_aB_2_w3 c_aB_3_w3 f_aB_3_w3 c_aB_4_w3 f_aB_4_w3 c_aB_5_w3 f_aB_5_w3 c_aB_6_w3 f_aB_6_w3 c_aB_7_w3 f_aB_7_w3 c_aB_8_w3 f_aB_8_w3 c_aA_0_w4 f_aA_0_w4 c_aA_1_w4 f_aA_1_w4 c_aA_2_w4 f_aA_2_w4 c_aA_3_w4 f_aA_3_w4 c_aA_4_w4 f_aA_4_w4 c_aA_5_w4 f_aA_5_w4 c_aA_6_w4 f_aA_6_w4 c_aA_7_w4 f_aA_7_w4 c_aA_8_w4 f_aA_8_w4 c_aB_0_w4 f_aB_0_w4 c_aB_1_w4 f_aB_1_w4 c_aB_2_w4 f_aB_2_w4 c_aB_3_w4 f_aB_3_w4 c_aB_4_w4 f_aB_4_w4 c_aB_5_w4 f_aB_5_w4 c_aB_6_w4 f_aB_6_w4 c_aB_7_w4 f_aB_7_w4 c_aB_8_w4 f_aB_8_w4 c_x0_0_w4 f_x0_0_w4 c_x0_1_w4 f_x0_1_w4 c_x0_2_w4 f_x0_2_w4 c_x0_3_w4 f_x0_3_w4 c_x0_4_w4 f_x0_4_w4 c_x0_5_w4 f_x0_5_w4 c_x0_6_w4 f_x0_6_w4 c_x0_7_w4 f_x0_7_w4 c_x0_8_w4 f_x0_8_w4
  replace x_aA := x_aA.from_ h_w5
  replace x_aB := x_aB.from_ h_w5
  replace x_x0 := x_x0.from_ h_w5
  replace o_t1 := o_t1.below h_w5
  replace o_t2 := o_t2.below h_w5
  replace o_t3 := o_t3.below h_w5
  have B_w5 := B_w4.trans (h_w5.mono B_w4.size)
  have s_w5 := h_w5.size
  obtain ⟨AAccts_t4, cAccts_t4, AOuts_t4, cOuts_t4, AIns_t4, cIns_t4, AAccs_t4, cAccs_t4, rfl, -, -, -, -⟩ := rv_node o_t4.rd
  have c_aA_0_w5 := x_aA.cell (i := 0) rfl
  have f_aA_0_w5 := x_aA.frozen 0
  have c_aA_1_w5 := x_aA.cell (i := 1) rfl
  have f_aA_1_w5 := x_aA.frozen 1
  have c_aA_2_w5 := x_aA.cell (i := 2) rfl
  have f_aA_2_w5 := x_aA.frozen 2
  have c_aA_3_w5 := x_aA.cell (i := 3) rfl
  have f_aA_3_w5 := x_aA.frozen 3
  have c_aA_4_w5 := x_aA.cell (i := 4) rfl
  have f_aA_4_w5 := x_aA.frozen 4
  have c_aA_5_w5 := x_aA.cell (i := 5) rfl
  have f_aA_5_w5 := x_aA.frozen 5
  have c_aA_6_w5 := x_aA.cell (i := 6) rfl
  have f_aA_6_w5 := x_aA.frozen 6
  have c_aA_7_w5 := x_aA.cell (i := 7) rfl
  have f_aA_7_w5 := x_aA.frozen 7
  have c_aA_8_w5 := x_aA.cell (i := 8) rfl
  have f_aA_8_w5 := x_aA.frozen 8
  have c_aB_0_w5 := x_aB.cell (i := 0) rfl
  have f_aB_0_w5 := x_aB.frozen 0
  have c_aB_1_w5 := x_aB.cell (i := 1) rfl
  have f_aB_1_w5 := x_aB.frozen 1
  have c_aB_2_w5 := x_aB.cell (i := 2) rfl
  have f_aB_2_w5 := x_aB.frozen 2
  have c_aB_3_w5 := x_aB.cell (i := 3) rfl
  have f_aB_3_w5 := x_aB.frozen 3
  have c_aB_4_w5 := x_aB.cell (i := 4) rfl
  have f_aB_4_w5 := x_aB.frozen 4
  have c_aB_5_w5 := x_aB.cell (i := 5) rfl
  have f_aB_5_w5 := x_aB.frozen 5
  have c_aB_6_w5 := x_aB.cell (i := 6) rfl
  have f_aB_6_w5 := x_aB.frozen 6
  have c_aB_7_w5 := x_aB.cell (i := 7) rfl
  have f_aB_7_w5 := x_aB.frozen 7
  have c_aB_8_w5 := x_aB.cell (i := 8) rfl
  have f_aB_8_w5 := x_aB.frozen 8
  have c_x0_0_w5 := x_x0.cell (i := 0) rfl
  have f_x0_0_w5 := x_x0.frozen 0
  have c_x0_1_w5 := x_x0.cell (i := 1) rfl
  have f_x0_1_w5 := x_x0.frozen 1
  have c_x0_2_w5 := x_x0.cell (i := 2) rfl
  have f_x0_2_w5 := x_x0.frozen 2
  have c_x0_3_w5 := x_x0.cell (i := 3) rfl
  have f_x0_3_w5 := x_x0.frozen 3
  have c_x0_4_w5 := x_x0.cell (i := 4) rfl
  have f_x0_4_w5 := x_x0.frozen 4
  have c_x0_5_w5 := x_x0.cell (i := 5) rfl
  have f_x0_5_w5 := x_x0.frozen 5
  have c_x0_6_w5 := x_x0.cell (i := 6) rfl
  have f_x0_6_w5 := x_x0.frozen 6
  have c_x0_7_w5 := x_x0.cell (i := 7) rfl
  have f_x0_7_w5 := x_x0.frozen 7
  have c_x0_8_w5 := x_x0.cell (i := 8) rfl
  have f_x0_8_w5 := x_x0.frozen 8
  obtain ⟨w6, e_w6, s_w6, h_w6, x_x1⟩ := alloc_step w5 34 [.int .i64 g.Id, .int .i64 g.N, .slice AAccts_t4 g.Accts.length cAccts_t4, .slice AOuts_t4 g.Outs.length cOuts_t4, .slice AIns_t4 g.Ins.length cIns_t4, .slice AAccs_t4 g.Accs.length cAccs_t4, .int .i64 g.Stray, .int .i64 g.Came, .int .i64 g.Went]
  have s_w6_1 := Nat.le_of_eq s_w6
  have s_w6_2 := Nat.le_of_eq s_w6.symm
  clear s_w6
  replace x_aA := x_aA.from_ h_w6
  replace x_aB := x_aB.from_ h_w6
  replace x_x0 := x_x0.from_ h_w6
  replace o_t1 := o_t1.below h_w6
  replace o_t2 := o_t2.below h_w6
  replace o_t3 := o_t3.below h_w6
  replace o_t4 := o_t4.below h_w6
  have B_w6 := B_w5.trans (h_w6.mono B_w5.size)
  have c_aA_0_w6 := x_aA.cell (i := 0) rfl
  have f_aA_0_w6 := x_aA.frozen 0
  have c_aA_1_w6 := x_aA.cell (i := 1) rfl
  have f_aA_1_w6 := x_aA.frozen 1
  have c_aA_2_w6 := x_aA.cell (i := 2) rfl
  have f_aA_2_w6 := x_aA.frozen 2
  have c_aA_3_w6 := x_aA.cell (i := 3) rfl
  have f_aA_3_w6 := x_aA.frozen 3
  have c_aA_4_w6 := x_aA.cell (i := 4) rfl
  have f_aA_4_w6 := x_aA.frozen 4
  have c_aA_5_w6 := x_aA.cell (i := 5) rfl
  have f_aA_5_w6 := x_aA.frozen 5
  have c_aA_6_w6 := x_aA.cell (i := 6) rfl
  have f_aA_6_w6 := x_aA.frozen 6
  have c_aA_7_w6 := x_aA.cell (i := 7) rfl
  have f_aA_7_w6 := x_aA.frozen 7
  have c_aA_8_w6 := x_aA.cell (i := 8) rfl
  have f_aA_8_w6 := x_aA.frozen 8
  have c_aB_0_w6 := x_aB.cell (i := 0) rfl
  have f_aB_0_w6 := x_aB.frozen 0
  have c_aB_1_w6 := x_aB.cell (i := 1) rfl
  have f_aB_1_w6 := x_aB.frozen 1
  have c_aB_2_w6 := x_aB.cell (i := 2) rfl
  have f_aB_2_w6 := x_aB.frozen 2
  have c_aB_3_w6 := x_aB.cell (i := 3) rfl
  have f_aB_3_w6 := x_aB.frozen 3
  have c_aB_4_w6 := x_aB.cell (i := 4) rfl
  have f_aB_4_w6 := x_aB.frozen 4
  have c_aB_5_w6 := x_aB.cell (i := 5) rfl
  have f_aB_5_w6 := x_aB.frozen 5
  have c_aB_6_w6 := x_aB.cell (i := 6) rfl
  have f_aB_6_w6 := x_aB.frozen 6
  have c_aB_7_w6 := x_aB.cell (i := 7) rfl
  have f_aB_7_w6 := x_aB.frozen 7
  have c_aB_8_w6 := x_aB.cell (i := 8) rfl
  have f_aB_8_w6 := x_aB.frozen 8
  have c_x0_0_w6 := x_x0.cell (i := 0) rfl
  have f_x0_0_w6 := x_x0.frozen 0
  have c_x0_1_w6 := x_x0.cell (i := 1) rfl
  have f_x0_1_w6 := x_x0.frozen 1
  have c_x0_2_w6 := x_x0.cell (i := 2) rfl
  have f_x0_2_w6 := x_x0.frozen 2
  have c_x0_3_w6 := x_x0.cell (i := 3) rfl
  have f_x0_3_w6 := x_x0.frozen 3
  have c_x0_4_w6 := x_x0.cell (i := 4) rfl
  have f_x0_4_w6 := x_x0.frozen 4
  have c_x0_5_w6 := x_x0.cell (i := 5) rfl
  have f_x0_5_w6 := x_x0.frozen 5
  have c_x0_6_w6 := x_x0.cell (i := 6) rfl
  have f_x0_6_w6 := x_x0.frozen 6
  have c_x0_7_w6 := x_x0.cell (i := 7) rfl
  have f_x0_7_w6 := x_x0.frozen 7
  have c_x0_8_w6 := x_x0.cell (i := 8) rfl
  have f_x0_8_w6 := x_x0.frozen 8
  have c_x1_0_w6 := x_x1.cell (i := 0) rfl
  have f_x1_0_w6 := x_x1.frozen 0
  have c_x1_1_w6 := x_x1.cell (i := 1) rfl
  have f_x1_1_w6 := x_x1.frozen 1
  have c_x1_2_w6 := x_x1.cell (i := 2) rfl
  have f_x1_2_w6 := x_x1.frozen 2
  have c_x1_3_w6 := x_x1.cell (i := 3) rfl
  have f_x1_3_w6 := x_x1.frozen 3
  have c_x1_4_w6 := x_x1.cell (i := 4) rfl
  have f_x1_4_w6 := x_x1.frozen 4
  have c_x1_5_w6 := x_x1.cell (i := 5) rfl
  have f_x1_5_w6 := x_x1.frozen 5
  have c_x1_6_w6 := x_x1.cell (i := 6) rfl
  have f_x1_6_w6 := x_x1.frozen 6
  have c_x1_7_w6 := x_x1.cell (i := 7) rfl
  have f_x1_7_w6 := x_x1.frozen 7
  have c_x1_8_w6 := x_x1.cell (i := 8) rfl
  have f_x1_8_w6 := x_x1.frozen 8
  go_wp2_with fail
  refine (iNodeSame_c o_t3.rd o_t4.rd (by omega) (by omega) hq hq').mono ?_
  rintro e w7 ⟨rfl, h_w7⟩
  clear c_aA_0_w5 f_aA_0_w5 c_aA_1_w5 f_aA_1_w5 c_aA_2_w5 f_aA_2_w5 c_aA_3_w5 f_aA_3_w5 c_aA_4_w5 f_aA_4_w5 c_aA_5_w5 f_aA_5_w5 c_aA_6_w5 f_aA_6_w5 c_aA_7_w5 f_aA_7_w5 c_aA_8_w5 f_aA_8_w5 c_aB_0_w5 f_aB_0_w5 c_aB_1_w5 f_aB_1_w5 c_aB_2_w5 f_aB_2_w5 c_aB_3_w5 f_aB_3_w5 c_aB_4_w5 f_aB_4_w5 c_aB_5_w5 f_aB_5_w5 c_aB_6_w5 f_aB_6_w5 c_aB_7_w5 f_aB_7_w5 c_aB_8_w5 f_aB_8_w5 c_x0_0_w5 f_x0_0_w5 c_x0_1_w5 f_x0_1_w5 c_x0_2_w5 f_x0_2_w5 c_x0_3_w5 f_x0_3_w5 c_x0_4_w5 f_x0_4_w5 c_x0_5_w5 f_x0_5_w5 c_x0_6_w5 f_x0_6_w5 c_x0_7_w5 f_x0_7_w5 c_x0_8_w5 f_x0_8_w5 c_aA_0_w6 f_aA_0_w6 c_aA_1_w6 f_aA_1_w6 c_aA_2_w6 f_aA_2_w6 c_aA_3_w6 f_aA_3_w6 c_aA_4_w6 f_aA_4_w6 c_aA_5_w6 f_aA_5_w6 c_aA_6_w6 f_aA_6_w6 c_aA_7_w6 f_aA_7_w6 c_aA_8_w6 f_aA_8_w6 c_aB_0_w6 f_aB_0_w6 c_aB_1_w6 f_aB_1_w6 c_aB_2_w6 f_aB_2_w6 c_aB_3_w6 f_aB_3_w6 c_aB_4_w6 f_aB_4_w6 c_aB_5_w6 f_aB_5_w6 c_aB_6_w6 f_aB_6_w6 c_aB_7_w6 f_aB_7_w6 c_aB_8_w6 f_aB_8_w6 c_x0_0_w6 f_x0_0_w6 c_x0_1_w6 f_x0_1_w6 c_x0_2_w6 f_x0_2_w6 c_x0_3_w6 f_x0_3_w6 c_x0_4_w6 f_x0_4_w6 c_x0_5_w6 f_x0_5_w6 c_x0_6_w6 f_x0_6_w6 c_x0_7_w6 f_x0_7_w6 c_x0_8_w6 f_x0_8_w6 c_x1_0_w6 f_x1_0_w6 c_x1_1_w6 f_x1_1_w6 c_x1_2_w6 f_x1_2_w6 c_x1_3_w6 f_x1_3_w6 c_x1_4_w6 f_x1_4_w6 c_x1_5_w6 f_x1_5_w6 c_x1_6_w6 f_x1_6_w6 c_x1_7_w6 f_x1_7_w6 c_x1_8_w6 f_x1_8_w6
  replace x_aA := x_aA.from_ h_w7
  replace x_aB := x_aB.from_ h_w7
  replace x_x0 := x_x0.from_ h_w7
  replace x_x1 := x_x1.from_ h_w7
  replace o_t1 := o_t1.below h_w7
  replace o_t2 := o_t2.below h_w7
  replace o_t3 := o_t3.below h_w7
  replace o_t4 := o_t4.below h_w7
  have B_w7 := B_w6.trans (h_w7.mono B_w6.size)
  have s_w7 := h_w7.size
  rw [HR0.out]
  have c_aA_0_w7 := x_aA.cell (i := 0) rfl
  have f_aA_0_w7 := x_aA.frozen 0
  have c_aA_1_w7 := x_aA.cell (i := 1) rfl
  have f_aA_1_w7 := x_aA.frozen 1
  have c_aA_2_w7 := x_aA.cell (i := 2) rfl
  have f_aA_2_w7 := x_aA.frozen 2
  have c_aA_3_w7 := x_aA.cell (i := 3) rfl
  have f_aA_3_w7 := x_aA.frozen 3
  have c_aA_4_w7 := x_aA.cell (i := 4) rfl
  have f_aA_4_w7 := x_aA.frozen 4
  have c_aA_5_w7 := x_aA.cell (i := 5) rfl
  have f_aA_5_w7 := x_aA.frozen 5
  have c_aA_6_w7 := x_aA.cell (i := 6) rfl
  have f_aA_6_w7 := x_aA.frozen 6
  have c_aA_7_w7 := x_aA.cell (i := 7) rfl
  have f_aA_7_w7 := x_aA.frozen 7
  have c_aA_8_w7 := x_aA.cell (i := 8) rfl
  have f_aA_8_w7 := x_aA.frozen 8
  have c_aB_0_w7 := x_aB.cell (i := 0) rfl
  have f_aB_0_w7 := x_aB.frozen 0
  have c_aB_1_w7 := x_aB.cell (i := 1) rfl
  have f_aB_1_w7 := x_aB.frozen 1
  have c_aB_2_w7 := x_aB.cell (i := 2) rfl
  have f_aB_2_w7 := x_aB.frozen 2
  have c_aB_3_w7 := x_aB.cell (i := 3) rfl
  have f_aB_3_w7 := x_aB.frozen 3
  have c_aB_4_w7 := x_aB.cell (i := 4) rfl
  have f_aB_4_w7 := x_aB.frozen 4
  have c_aB_5_w7 := x_aB.cell (i := 5) rfl
  have f_aB_5_w7 := x_aB.frozen 5
  have c_aB_6_w7 := x_aB.cell (i := 6) rfl
  have f_aB_6_w7 := x_aB.frozen 6
  have c_aB_7_w7 := x_aB.cell (i := 7) rfl
  have f_aB_7_w7 := x_aB.frozen 7
  have c_aB_8_w7 := x_aB.cell (i := 8) rfl
  have f_aB_8_w7 := x_aB.frozen 8
  have c_x0_0_w7 := x_x0.cell (i := 0) rfl
  have f_x0_0_w7 := x_x0.frozen 0
  have c_x0_1_w7 := x_x0.cell (i := 1) rfl
  have f_x0_1_w7 := x_x0.frozen 1
  have c_x0_2_w7 := x_x0.cell (i := 2) rfl
  have f_x0_2_w7 := x_x0.frozen 2
  have c_x0_3_w7 := x_x0.cell (i := 3) rfl
  have f_x0_3_w7 := x_x0.frozen 3
  have c_x0_4_w7 := x_x0.cell (i := 4) rfl
  have f_x0_4_w7 := x_x0.frozen 4
  have c_x0_5_w7 := x_x0.cell (i := 5) rfl
  have f_x0_5_w7 := x_x0.frozen 5
  have c_x0_6_w7 := x_x0.cell (i := 6) rfl
  have f_x0_6_w7 := x_x0.frozen 6
  have c_x0_7_w7 := x_x0.cell (i := 7) rfl
  have f_x0_7_w7 := x_x0.frozen 7
  have c_x0_8_w7 := x_x0.cell (i := 8) rfl
  have f_x0_8_w7 := x_x0.frozen 8
  have c_x1_0_w7 := x_x1.cell (i := 0) rfl
  have f_x1_0_w7 := x_x1.frozen 0
  have c_x1_1_w7 := x_x1.cell (i := 1) rfl
  have f_x1_1_w7 := x_x1.frozen 1
  have c_x1_2_w7 := x_x1.cell (i := 2) rfl
  have f_x1_2_w7 := x_x1.frozen 2
  have c_x1_3_w7 := x_x1.cell (i := 3) rfl
  have f_x1_3_w7 := x_x1.frozen 3
  have c_x1_4_w7 := x_x1.cell (i := 4) rfl
  have f_x1_4_w7 := x_x1.frozen 4
  have c_x1_5_w7 := x_x1.cell (i := 5) rfl
  have f_x1_5_w7 := x_x1.frozen 5
  have c_x1_6_w7 := x_x1.cell (i := 6) rfl
  have f_x1_6_w7 := x_x1.frozen 6
  have c_x1_7_w7 := x_x1.cell (i := 7) rfl
  have f_x1_7_w7 := x_x1.frozen 7
  have c_x1_8_w7 := x_x1.cell (i := 8) rfl
  have f_x1_8_w7 := x_x1.frozen 8
  go_wp2_with fail
  go_region_held3 (fun w' => w'.cell? ⟨w3.heap.size, 0, none⟩ = some (.int .i64 d.Id) ∧ w'.cell? ⟨w3.heap.size, 1, none⟩ = some (.int .i64 d.N) ∧ w'.cell? ⟨w3.heap.size, 2, none⟩ = some (.slice AAccts_t3 d.Accts.length cAccts_t3) ∧ w'.cell? ⟨w3.heap.size, 3, none⟩ = some (.slice AOuts_t3 d.Outs.length cOuts_t3) ∧ w'.cell? ⟨w3.heap.size, 4, none⟩ = some (.slice AIns_t3 d.Ins.length cIns_t3) ∧ w'.cell? ⟨w3.heap.size, 5, none⟩ = some (.slice AAccs_t3 d.Accs.length cAccs_t3) ∧ w'.cell? ⟨w3.heap.size, 6, none⟩ = some (.int .i64 d.Stray) ∧ w'.cell? ⟨w3.heap.size, 7, none⟩ = some (.int .i64 d.Came) ∧ w'.cell? ⟨w3.heap.size, 8, none⟩ = some (.int .i64 d.Went) ∧ w'.cell? ⟨w.heap.size, 0, none⟩ = some (.int .i64 d.Id) ∧ w'.cell? ⟨w.heap.size, 1, none⟩ = some (.int .i64 d.N) ∧ w'.cell? ⟨w.heap.size, 2, none⟩ = some (.slice AAccts_aA d.Accts.length cAccts_aA) ∧ w'.cell? ⟨w.heap.size, 3, none⟩ = some (.slice AOuts_aA d.Outs.length cOuts_aA) ∧ w'.cell? ⟨w.heap.size, 4, none⟩ = some (.slice AIns_aA d.Ins.length cIns_aA) ∧ w'.cell? ⟨w.heap.size, 5, none⟩ = some (.slice AAccs_aA d.Accs.length cAccs_aA) ∧ w'.cell? ⟨w.heap.size, 6, none⟩ = some (.int .i64 d.Stray) ∧ w'.cell? ⟨w.heap.size, 7, none⟩ = some (.int .i64 d.Came) ∧ w'.cell? ⟨w.heap.size, 8, none⟩ = some (.int .i64 d.Went))
    (first | exact ⟨c_x0_0_w7, c_x0_1_w7, c_x0_2_w7, c_x0_3_w7, c_x0_4_w7, c_x0_5_w7, c_x0_6_w7, c_x0_7_w7, c_x0_8_w7, c_aA_0_w7, c_aA_1_w7, c_aA_2_w7, c_aA_3_w7, c_aA_4_w7, c_aA_5_w7, c_aA_6_w7, c_aA_7_w7, c_aA_8_w7⟩ | exact ⟨qz4_x0_0, qz4_x0_1, qz4_x0_2, qz4_x0_3, qz4_x0_4, qz4_x0_5, qz4_x0_6, qz4_x0_7, qz4_x0_8, qz4_aA_0, qz4_aA_1, qz4_aA_2, qz4_aA_3, qz4_aA_4, qz4_aA_5, qz4_aA_6, qz4_aA_7, qz4_aA_8⟩ | exact ⟨qz5_x0_0, qz5_x0_1, qz5_x0_2, qz5_x0_3, qz5_x0_4, qz5_x0_5, qz5_x0_6, qz5_x0_7, qz5_x0_8, qz5_aA_0, qz5_aA_1, qz5_aA_2, qz5_aA_3, qz5_aA_4, qz5_aA_5, qz5_aA_6, qz5_aA_7, qz5_aA_8⟩ | go_keep)
    (first | ((go_at_call 11); (refine (toNode_c (r_aA.from_ (B_w7.drew)) (by omega)).mono ?_); rintro e w_z4 ⟨v_t5, rfl, o_t5, hd_z4⟩; have hb_z4 : Below w7.heap.size w7 w_z4 := (Below.refl w7.heap.size w7).drew.trans hd_z4; have sd_z4 := hd_z4.size; replace sd_z4 : w7.heap.size ≤ w_z4.heap.size := sd_z4; have qz4_x0_0 := (x_x0.from_ hb_z4).cell (i := 0) rfl; have qz4_x0_1 := (x_x0.from_ hb_z4).cell (i := 1) rfl; have qz4_x0_2 := (x_x0.from_ hb_z4).cell (i := 2) rfl; have qz4_x0_3 := (x_x0.from_ hb_z4).cell (i := 3) rfl; have qz4_x0_4 := (x_x0.from_ hb_z4).cell (i := 4) rfl; have qz4_x0_5 := (x_x0.from_ hb_z4).cell (i := 5) rfl; have qz4_x0_6 := (x_x0.from_ hb_z4).cell (i := 6) rfl; have qz4_x0_7 := (x_x0.from_ hb_z4).cell (i := 7) rfl; have qz4_x0_8 := (x_x0.from_ hb_z4).cell (i := 8) rfl; have qz4_aA_0 := (x_aA.from_ hb_z4).cell (i := 0) rfl; have qz4_aA_1 := (x_aA.from_ hb_z4).cell (i := 1) rfl; have qz4_aA_2 := (x_aA.from_ hb_z4).cell (i := 2) rfl; have qz4_aA_3 := (x_aA.from_ hb_z4).cell (i := 3) rfl; have qz4_aA_4 := (x_aA.from_ hb_z4).cell (i := 4) rfl; have qz4_aA_5 := (x_aA.from_ hb_z4).cell (i := 5) rfl; have qz4_aA_6 := (x_aA.from_ hb_z4).cell (i := 6) rfl; have qz4_aA_7 := (x_aA.from_ hb_z4).cell (i := 7) rfl; have qz4_aA_8 := (x_aA.from_ hb_z4).cell (i := 8) rfl; obtain ⟨AAccts_t5, cAccts_t5, AOuts_t5, cOuts_t5, AIns_t5, cIns_t5, AAccs_t5, cAccs_t5, rfl, -, -, -, -⟩ := rv_node o_t5.rd)
           | ((go_at_call 13); (refine (eqNode_same (o_t3.below hb_z4).rd o_t5.rd (by omega)).mono ?_); rintro e w_z5 ⟨rfl, hd_z5⟩; have hb_z5 : Below w7.heap.size w7 w_z5 := hb_z4.trans (hd_z5.mono hb_z4.size); have sd_z5 := hd_z5.size; have qz5_x0_0 := (x_x0.from_ hb_z5).cell (i := 0) rfl; have qz5_x0_1 := (x_x0.from_ hb_z5).cell (i := 1) rfl; have qz5_x0_2 := (x_x0.from_ hb_z5).cell (i := 2) rfl; have qz5_x0_3 := (x_x0.from_ hb_z5).cell (i := 3) rfl; have qz5_x0_4 := (x_x0.from_ hb_z5).cell (i := 4) rfl; have qz5_x0_5 := (x_x0.from_ hb_z5).cell (i := 5) rfl; have qz5_x0_6 := (x_x0.from_ hb_z5).cell (i := 6) rfl; have qz5_x0_7 := (x_x0.from_ hb_z5).cell (i := 7) rfl; have qz5_x0_8 := (x_x0.from_ hb_z5).cell (i := 8) rfl; have qz5_aA_0 := (x_aA.from_ hb_z5).cell (i := 0) rfl; have qz5_aA_1 := (x_aA.from_ hb_z5).cell (i := 1) rfl; have qz5_aA_2 := (x_aA.from_ hb_z5).cell (i := 2) rfl; have qz5_aA_3 := (x_aA.from_ hb_z5).cell (i := 3) rfl; have qz5_aA_4 := (x_aA.from_ hb_z5).cell (i := 4) rfl; have qz5_aA_5 := (x_aA.from_ hb_z5).cell (i := 5) rfl; have qz5_aA_6 := (x_aA.from_ hb_z5).cell (i := 6) rfl; have qz5_aA_7 := (x_aA.from_ hb_z5).cell (i := 7) rfl; have qz5_aA_8 := (x_aA.from_ hb_z5).cell (i := 8) rfl; replace o_t5 := o_t5.below hd_z5)
           | fail)
  clear c_aA_0_w7 f_aA_0_w7 c_aA_1_w7 f_aA_1_w7 c_aA_2_w7 f_aA_2_w7 c_aA_3_w7 f_aA_3_w7 c_aA_4_w7 f_aA_4_w7 c_aA_5_w7 f_aA_5_w7 c_aA_6_w7 f_aA_6_w7 c_aA_7_w7 f_aA_7_w7 c_aA_8_w7 f_aA_8_w7 c_aB_0_w7 f_aB_0_w7 c_aB_1_w7 f_aB_1_w7 c_aB_2_w7 f_aB_2_w7 c_aB_3_w7 f_aB_3_w7 c_aB_4_w7 f_aB_4_w7 c_aB_5_w7 f_aB_5_w7 c_aB_6_w7 f_aB_6_w7 c_aB_7_w7 f_aB_7_w7 c_aB_8_w7 f_aB_8_w7 c_x0_0_w7 f_x0_0_w7 c_x0_1_w7 f_x0_1_w7 c_x0_2_w7 f_x0_2_w7 c_x0_3_w7 f_x0_3_w7 c_x0_4_w7 f_x0_4_w7 c_x0_5_w7 f_x0_5_w7 c_x0_6_w7 f_x0_6_w7 c_x0_7_w7 f_x0_7_w7 c_x0_8_w7 f_x0_8_w7 c_x1_0_w7 f_x1_0_w7 c_x1_1_w7 f_x1_1_w7 c_x1_2_w7 f_x1_2_w7 c_x1_3_w7 f_x1_3_w7 c_x1_4_w7 f_x1_4_w7 c_x1_5_w7 f_x1_5_w7 c_x1_6_w7 f_x1_6_w7 c_x1_7_w7 f_x1_7_w7 c_x1_8_w7 f_x1_8_w7
  have dz_w7 : w7.drew.heap.size = w7.heap.size := rfl
  replace x_aA := x_aA.from_ hb_z5
  replace x_aB := x_aB.from_ hb_z5
  replace x_x0 := x_x0.from_ hb_z5
  replace x_x1 := x_x1.from_ hb_z5
  replace o_t1 := o_t1.below hb_z5
  replace o_t2 := o_t2.below hb_z5
  replace o_t3 := o_t3.below hb_z5
  replace o_t4 := o_t4.below hb_z5
  have B_z5 := B_w7.trans (hb_z5.mono B_w7.size)
  have sz_z5 := hb_z5.size
  have c_aA_0_w_z5 := x_aA.cell (i := 0) rfl
  have f_aA_0_w_z5 := x_aA.frozen 0
  have c_aA_1_w_z5 := x_aA.cell (i := 1) rfl
  have f_aA_1_w_z5 := x_aA.frozen 1
  have c_aA_2_w_z5 := x_aA.cell (i := 2) rfl
  have f_aA_2_w_z5 := x_aA.frozen 2
  have c_aA_3_w_z5 := x_aA.cell (i := 3) rfl
  have f_aA_3_w_z5 := x_aA.frozen 3
  have c_aA_4_w_z5 := x_aA.cell (i := 4) rfl
  have f_aA_4_w_z5 := x_aA.frozen 4
  have c_aA_5_w_z5 := x_aA.cell (i := 5) rfl
  have f_aA_5_w_z5 := x_aA.frozen 5
  have c_aA_6_w_z5 := x_aA.cell (i := 6) rfl
  have f_aA_6_w_z5 := x_aA.frozen 6
  have c_aA_7_w_z5 := x_aA.cell (i := 7) rfl
  have f_aA_7_w_z5 := x_aA.frozen 7
  have c_aA_8_w_z5 := x_aA.cell (i := 8) rfl
  have f_aA_8_w_z5 := x_aA.frozen 8
  have c_aB_0_w_z5 := x_aB.cell (i := 0) rfl
  have f_aB_0_w_z5 := x_aB.frozen 0
  have c_aB_1_w_z5 := x_aB.cell (i := 1) rfl
  have f_aB_1_w_z5 := x_aB.frozen 1
  have c_aB_2_w_z5 := x_aB.cell (i := 2) rfl
  have f_aB_2_w_z5 := x_aB.frozen 2
  have c_aB_3_w_z5 := x_aB.cell (i := 3) rfl
  have f_aB_3_w_z5 := x_aB.frozen 3
  have c_aB_4_w_z5 := x_aB.cell (i := 4) rfl
  have f_aB_4_w_z5 := x_aB.frozen 4
  have c_aB_5_w_z5 := x_aB.cell (i := 5) rfl
  have f_aB_5_w_z5 := x_aB.frozen 5
  have c_aB_6_w_z5 := x_aB.cell (i := 6) rfl
  have f_aB_6_w_z5 := x_aB.frozen 6
  have c_aB_7_w_z5 := x_aB.cell (i := 7) rfl
  have f_aB_7_w_z5 := x_aB.frozen 7
  have c_aB_8_w_z5 := x_aB.cell (i := 8) rfl
  have f_aB_8_w_z5 := x_aB.frozen 8
  have c_x0_0_w_z5 := x_x0.cell (i := 0) rfl
  have f_x0_0_w_z5 := x_x0.frozen 0
  have c_x0_1_w_z5 := x_x0.cell (i := 1) rfl
  have f_x0_1_w_z5 := x_x0.frozen 1
  have c_x0_2_w_z5 := x_x0.cell (i := 2) rfl
  have f_x0_2_w_z5 := x_x0.frozen 2
  have c_x0_3_w_z5 := x_x0.cell (i := 3) rfl
  have f_x0_3_w_z5 := x_x0.frozen 3
  have c_x0_4_w_z5 := x_x0.cell (i := 4) rfl
  have f_x0_4_w_z5 := x_x0.frozen 4
  have c_x0_5_w_z5 := x_x0.cell (i := 5) rfl
  have f_x0_5_w_z5 := x_x0.frozen 5
  have c_x0_6_w_z5 := x_x0.cell (i := 6) rfl
  have f_x0_6_w_z5 := x_x0.frozen 6
  have c_x0_7_w_z5 := x_x0.cell (i := 7) rfl
  have f_x0_7_w_z5 := x_x0.frozen 7
  have c_x0_8_w_z5 := x_x0.cell (i := 8) rfl
  have f_x0_8_w_z5 := x_x0.frozen 8
  have c_x1_0_w_z5 := x_x1.cell (i := 0) rfl
  have f_x1_0_w_z5 := x_x1.frozen 0
  have c_x1_1_w_z5 := x_x1.cell (i := 1) rfl
  have f_x1_1_w_z5 := x_x1.frozen 1
  have c_x1_2_w_z5 := x_x1.cell (i := 2) rfl
  have f_x1_2_w_z5 := x_x1.frozen 2
  have c_x1_3_w_z5 := x_x1.cell (i := 3) rfl
  have f_x1_3_w_z5 := x_x1.frozen 3
  have c_x1_4_w_z5 := x_x1.cell (i := 4) rfl
  have f_x1_4_w_z5 := x_x1.frozen 4
  have c_x1_5_w_z5 := x_x1.cell (i := 5) rfl
  have f_x1_5_w_z5 := x_x1.frozen 5
  have c_x1_6_w_z5 := x_x1.cell (i := 6) rfl
  have f_x1_6_w_z5 := x_x1.frozen 6
  have c_x1_7_w_z5 := x_x1.cell (i := 7) rfl
  have f_x1_7_w_z5 := x_x1.frozen 7
  have c_x1_8_w_z5 := x_x1.cell (i := 8) rfl
  have f_x1_8_w_z5 := x_x1.frozen 8
  go_wp2_with fail
  go_region_held3 (fun w' => w'.cell? ⟨w5.heap.size, 0, none⟩ = some (.int .i64 g.Id) ∧ w'.cell? ⟨w5.heap.size, 1, none⟩ = some (.int .i64 g.N) ∧ w'.cell? ⟨w5.heap.size, 2, none⟩ = some (.slice AAccts_t4 g.Accts.length cAccts_t4) ∧ w'.cell? ⟨w5.heap.size, 3, none⟩ = some (.slice AOuts_t4 g.Outs.length cOuts_t4) ∧ w'.cell? ⟨w5.heap.size, 4, none⟩ = some (.slice AIns_t4 g.Ins.length cIns_t4) ∧ w'.cell? ⟨w5.heap.size, 5, none⟩ = some (.slice AAccs_t4 g.Accs.length cAccs_t4) ∧ w'.cell? ⟨w5.heap.size, 6, none⟩ = some (.int .i64 g.Stray) ∧ w'.cell? ⟨w5.heap.size, 7, none⟩ = some (.int .i64 g.Came) ∧ w'.cell? ⟨w5.heap.size, 8, none⟩ = some (.int .i64 g.Went) ∧ w'.cell? ⟨w.heap.size + 1, 0, none⟩ = some (.int .i64 g.Id) ∧ w'.cell? ⟨w.heap.size + 1, 1, none⟩ = some (.int .i64 g.N) ∧ w'.cell? ⟨w.heap.size + 1, 2, none⟩ = some (.slice AAccts_aB g.Accts.length cAccts_aB) ∧ w'.cell? ⟨w.heap.size + 1, 3, none⟩ = some (.slice AOuts_aB g.Outs.length cOuts_aB) ∧ w'.cell? ⟨w.heap.size + 1, 4, none⟩ = some (.slice AIns_aB g.Ins.length cIns_aB) ∧ w'.cell? ⟨w.heap.size + 1, 5, none⟩ = some (.slice AAccs_aB g.Accs.length cAccs_aB) ∧ w'.cell? ⟨w.heap.size + 1, 6, none⟩ = some (.int .i64 g.Stray) ∧ w'.cell? ⟨w.heap.size + 1, 7, none⟩ = some (.int .i64 g.Came) ∧ w'.cell? ⟨w.heap.size + 1, 8, none⟩ = some (.int .i64 g.Went))
    (first | exact ⟨c_x1_0_w_z5, c_x1_1_w_z5, c_x1_2_w_z5, c_x1_3_w_z5, c_x1_4_w_z5, c_x1_5_w_z5, c_x1_6_w_z5, c_x1_7_w_z5, c_x1_8_w_z5, c_aB_0_w_z5, c_aB_1_w_z5, c_aB_2_w_z5, c_aB_3_w_z5, c_aB_4_w_z5, c_aB_5_w_z5, c_aB_6_w_z5, c_aB_7_w_z5, c_aB_8_w_z5⟩ | exact ⟨qz6_x1_0, qz6_x1_1, qz6_x1_2, qz6_x1_3, qz6_x1_4, qz6_x1_5, qz6_x1_6, qz6_x1_7, qz6_x1_8, qz6_aB_0, qz6_aB_1, qz6_aB_2, qz6_aB_3, qz6_aB_4, qz6_aB_5, qz6_aB_6, qz6_aB_7, qz6_aB_8⟩ | exact ⟨qz7_x1_0, qz7_x1_1, qz7_x1_2, qz7_x1_3, qz7_x1_4, qz7_x1_5, qz7_x1_6, qz7_x1_7, qz7_x1_8, qz7_aB_0, qz7_aB_1, qz7_aB_2, qz7_aB_3, qz7_aB_4, qz7_aB_5, qz7_aB_6, qz7_aB_7, qz7_aB_8⟩ | go_keep)
    (first | ((go_at_call 11); (refine (toNode_c (r_aB.from_ (B_z5.drew)) (by omega)).mono ?_); rintro e w_z6 ⟨v_t6, rfl, o_t6, hd_z6⟩; have hb_z6 : Below w_z5.heap.size w_z5 w_z6 := (Below.refl w_z5.heap.size w_z5).drew.trans hd_z6; have sd_z6 := hd_z6.size; replace sd_z6 : w_z5.heap.size ≤ w_z6.heap.size := sd_z6; have qz6_x1_0 := (x_x1.from_ hb_z6).cell (i := 0) rfl; have qz6_x1_1 := (x_x1.from_ hb_z6).cell (i := 1) rfl; have qz6_x1_2 := (x_x1.from_ hb_z6).cell (i := 2) rfl; have qz6_x1_3 := (x_x1.from_ hb_z6).cell (i := 3) rfl; have qz6_x1_4 := (x_x1.from_ hb_z6).cell (i := 4) rfl; have qz6_x1_5 := (x_x1.from_ hb_z6).cell (i := 5) rfl; have qz6_x1_6 := (x_x1.from_ hb_z6).cell (i := 6) rfl; have qz6_x1_7 := (x_x1.from_ hb_z6).cell (i := 7) rfl; have qz6_x1_8 := (x_x1.from_ hb_z6).cell (i := 8) rfl; have qz6_aB_0 := (x_aB.from_ hb_z6).cell (i := 0) rfl; have qz6_aB_1 := (x_aB.from_ hb_z6).cell (i := 1) rfl; have qz6_aB_2 := (x_aB.from_ hb_z6).cell (i := 2) rfl; have qz6_aB_3 := (x_aB.from_ hb_z6).cell (i := 3) rfl; have qz6_aB_4 := (x_aB.from_ hb_z6).cell (i := 4) rfl; have qz6_aB_5 := (x_aB.from_ hb_z6).cell (i := 5) rfl; have qz6_aB_6 := (x_aB.from_ hb_z6).cell (i := 6) rfl; have qz6_aB_7 := (x_aB.from_ hb_z6).cell (i := 7) rfl; have qz6_aB_8 := (x_aB.from_ hb_z6).cell (i := 8) rfl; obtain ⟨AAccts_t6, cAccts_t6, AOuts_t6, cOuts_t6, AIns_t6, cIns_t6, AAccs_t6, cAccs_t6, rfl, -, -, -, -⟩ := rv_node o_t6.rd)
           | ((go_at_call 13); (refine (eqNode_same (o_t4.below hb_z6).rd o_t6.rd (by omega)).mono ?_); rintro e w_z7 ⟨rfl, hd_z7⟩; have hb_z7 : Below w_z5.heap.size w_z5 w_z7 := hb_z6.trans (hd_z7.mono hb_z6.size); have sd_z7 := hd_z7.size; have qz7_x1_0 := (x_x1.from_ hb_z7).cell (i := 0) rfl; have qz7_x1_1 := (x_x1.from_ hb_z7).cell (i := 1) rfl; have qz7_x1_2 := (x_x1.from_ hb_z7).cell (i := 2) rfl; have qz7_x1_3 := (x_x1.from_ hb_z7).cell (i := 3) rfl; have qz7_x1_4 := (x_x1.from_ hb_z7).cell (i := 4) rfl; have qz7_x1_5 := (x_x1.from_ hb_z7).cell (i := 5) rfl; have qz7_x1_6 := (x_x1.from_ hb_z7).cell (i := 6) rfl; have qz7_x1_7 := (x_x1.from_ hb_z7).cell (i := 7) rfl; have qz7_x1_8 := (x_x1.from_ hb_z7).cell (i := 8) rfl; have qz7_aB_0 := (x_aB.from_ hb_z7).cell (i := 0) rfl; have qz7_aB_1 := (x_aB.from_ hb_z7).cell (i := 1) rfl; have qz7_aB_2 := (x_aB.from_ hb_z7).cell (i := 2) rfl; have qz7_aB_3 := (x_aB.from_ hb_z7).cell (i := 3) rfl; have qz7_aB_4 := (x_aB.from_ hb_z7).cell (i := 4) rfl; have qz7_aB_5 := (x_aB.from_ hb_z7).cell (i := 5) rfl; have qz7_aB_6 := (x_aB.from_ hb_z7).cell (i := 6) rfl; have qz7_aB_7 := (x_aB.from_ hb_z7).cell (i := 7) rfl; have qz7_aB_8 := (x_aB.from_ hb_z7).cell (i := 8) rfl; replace o_t6 := o_t6.below hd_z7)
           | fail)
  clear c_aA_0_w_z5 f_aA_0_w_z5 c_aA_1_w_z5 f_aA_1_w_z5 c_aA_2_w_z5 f_aA_2_w_z5 c_aA_3_w_z5 f_aA_3_w_z5 c_aA_4_w_z5 f_aA_4_w_z5 c_aA_5_w_z5 f_aA_5_w_z5 c_aA_6_w_z5 f_aA_6_w_z5 c_aA_7_w_z5 f_aA_7_w_z5 c_aA_8_w_z5 f_aA_8_w_z5 c_aB_0_w_z5 f_aB_0_w_z5 c_aB_1_w_z5 f_aB_1_w_z5 c_aB_2_w_z5 f_aB_2_w_z5 c_aB_3_w_z5 f_aB_3_w_z5 c_aB_4_w_z5 f_aB_4_w_z5 c_aB_5_w_z5 f_aB_5_w_z5 c_aB_6_w_z5 f_aB_6_w_z5 c_aB_7_w_z5 f_aB_7_w_z5 c_aB_8_w_z5 f_aB_8_w_z5 c_x0_0_w_z5 f_x0_0_w_z5 c_x0_1_w_z5 f_x0_1_w_z5 c_x0_2_w_z5 f_x0_2_w_z5 c_x0_3_w_z5 f_x0_3_w_z5 c_x0_4_w_z5 f_x0_4_w_z5 c_x0_5_w_z5 f_x0_5_w_z5 c_x0_6_w_z5 f_x0_6_w_z5 c_x0_7_w_z5 f_x0_7_w_z5 c_x0_8_w_z5 f_x0_8_w_z5 c_x1_0_w_z5 f_x1_0_w_z5 c_x1_1_w_z5 f_x1_1_w_z5 c_x1_2_w_z5 f_x1_2_w_z5 c_x1_3_w_z5 f_x1_3_w_z5 c_x1_4_w_z5 f_x1_4_w_z5 c_x1_5_w_z5 f_x1_5_w_z5 c_x1_6_w_z5 f_x1_6_w_z5 c_x1_7_w_z5 f_x1_7_w_z5 c_x1_8_w_z5 f_x1_8_w_z5
  have dz_w_z5 : w_z5.drew.heap.size = w_z5.heap.size := rfl
  replace x_aA := x_aA.from_ hb_z7
  replace x_aB := x_aB.from_ hb_z7
  replace x_x0 := x_x0.from_ hb_z7
  replace x_x1 := x_x1.from_ hb_z7
  replace o_t1 := o_t1.below hb_z7
  replace o_t2 := o_t2.below hb_z7
  replace o_t3 := o_t3.below hb_z7
  replace o_t4 := o_t4.below hb_z7
  have B_z7 := B_z5.trans (hb_z7.mono B_z5.size)
  have sz_z7 := hb_z7.size
  have c_aA_0_w_z7 := x_aA.cell (i := 0) rfl
  have f_aA_0_w_z7 := x_aA.frozen 0
  have c_aA_1_w_z7 := x_aA.cell (i := 1) rfl
  have f_aA_1_w_z7 := x_aA.frozen 1
  have c_aA_2_w_z7 := x_aA.cell (i := 2) rfl
  have f_aA_2_w_z7 := x_aA.frozen 2
  have c_aA_3_w_z7 := x_aA.cell (i := 3) rfl
  have f_aA_3_w_z7 := x_aA.frozen 3
  have c_aA_4_w_z7 := x_aA.cell (i := 4) rfl
  have f_aA_4_w_z7 := x_aA.frozen 4
  have c_aA_5_w_z7 := x_aA.cell (i := 5) rfl
  have f_aA_5_w_z7 := x_aA.frozen 5
  have c_aA_6_w_z7 := x_aA.cell (i := 6) rfl
  have f_aA_6_w_z7 := x_aA.frozen 6
  have c_aA_7_w_z7 := x_aA.cell (i := 7) rfl
  have f_aA_7_w_z7 := x_aA.frozen 7
  have c_aA_8_w_z7 := x_aA.cell (i := 8) rfl
  have f_aA_8_w_z7 := x_aA.frozen 8
  have c_aB_0_w_z7 := x_aB.cell (i := 0) rfl
  have f_aB_0_w_z7 := x_aB.frozen 0
  have c_aB_1_w_z7 := x_aB.cell (i := 1) rfl
  have f_aB_1_w_z7 := x_aB.frozen 1
  have c_aB_2_w_z7 := x_aB.cell (i := 2) rfl
  have f_aB_2_w_z7 := x_aB.frozen 2
  have c_aB_3_w_z7 := x_aB.cell (i := 3) rfl
  have f_aB_3_w_z7 := x_aB.frozen 3
  have c_aB_4_w_z7 := x_aB.cell (i := 4) rfl
  have f_aB_4_w_z7 := x_aB.frozen 4
  have c_aB_5_w_z7 := x_aB.cell (i := 5) rfl
  have f_aB_5_w_z7 := x_aB.frozen 5
  have c_aB_6_w_z7 := x_aB.cell (i := 6) rfl
  have f_aB_6_w_z7 := x_aB.frozen 6
  have c_aB_7_w_z7 := x_aB.cell (i := 7) rfl
  have f_aB_7_w_z7 := x_aB.frozen 7
  have c_aB_8_w_z7 := x_aB.cell (i := 8) rfl
  have f_aB_8_w_z7 := x_aB.frozen 8
  have c_x0_0_w_z7 := x_x0.cell (i := 0) rfl
  have f_x0_0_w_z7 := x_x0.frozen 0
  have c_x0_1_w_z7 := x_x0.cell (i := 1) rfl
  have f_x0_1_w_z7 := x_x0.frozen 1
  have c_x0_2_w_z7 := x_x0.cell (i := 2) rfl
  have f_x0_2_w_z7 := x_x0.frozen 2
  have c_x0_3_w_z7 := x_x0.cell (i := 3) rfl
  have f_x0_3_w_z7 := x_x0.frozen 3
  have c_x0_4_w_z7 := x_x0.cell (i := 4) rfl
  have f_x0_4_w_z7 := x_x0.frozen 4
  have c_x0_5_w_z7 := x_x0.cell (i := 5) rfl
  have f_x0_5_w_z7 := x_x0.frozen 5
  have c_x0_6_w_z7 := x_x0.cell (i := 6) rfl
  have f_x0_6_w_z7 := x_x0.frozen 6
  have c_x0_7_w_z7 := x_x0.cell (i := 7) rfl
  have f_x0_7_w_z7 := x_x0.frozen 7
  have c_x0_8_w_z7 := x_x0.cell (i := 8) rfl
  have f_x0_8_w_z7 := x_x0.frozen 8
  have c_x1_0_w_z7 := x_x1.cell (i := 0) rfl
  have f_x1_0_w_z7 := x_x1.frozen 0
  have c_x1_1_w_z7 := x_x1.cell (i := 1) rfl
  have f_x1_1_w_z7 := x_x1.frozen 1
  have c_x1_2_w_z7 := x_x1.cell (i := 2) rfl
  have f_x1_2_w_z7 := x_x1.frozen 2
  have c_x1_3_w_z7 := x_x1.cell (i := 3) rfl
  have f_x1_3_w_z7 := x_x1.frozen 3
  have c_x1_4_w_z7 := x_x1.cell (i := 4) rfl
  have f_x1_4_w_z7 := x_x1.frozen 4
  have c_x1_5_w_z7 := x_x1.cell (i := 5) rfl
  have f_x1_5_w_z7 := x_x1.frozen 5
  have c_x1_6_w_z7 := x_x1.cell (i := 6) rfl
  have f_x1_6_w_z7 := x_x1.frozen 6
  have c_x1_7_w_z7 := x_x1.cell (i := 7) rfl
  have f_x1_7_w_z7 := x_x1.frozen 7
  have c_x1_8_w_z7 := x_x1.cell (i := 8) rfl
  have f_x1_8_w_z7 := x_x1.frozen 8
  go_wp2
  go_ret
  exact ⟨rfl, B_z7⟩

end Go.Proofs.Ytdoipabfmekdlaa
