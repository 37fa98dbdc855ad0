/- The walk of the law FnExactAcctSame, laid by a program of ours (lawgen2.py) out of the law's text. -/
import Derived.Test.YtopmojfcdmcmbaaAc2
import Derived.Test.YtopmojfcdmcmbaaOutC
namespace Go.Proofs.Ytopmojfcdmcmbaa
open Go.RowKit
set_option linter.unusedVariables false

set_option maxRecDepth 100000 in
set_option maxHeartbeats 8000000 in
theorem wAcctSame (v_aA : Value) (a : MAcct) (v_aB : Value) (d : MAcct) (w : World) (r_aA : RV acctL w v_aA a) (r_aB : RV acctL w v_aB d) :
    Calls Try.prog 11 #[v_aA, v_aB] w fun e w' => e = .returned (.bool true) ∧ Below w.heap.size w w' := by
  have h_aA := r_aA
  obtain ⟨AMarks_aA, cMarks_aA, AReps_aA, cReps_aA, rfl, -, -⟩ := rv_acct h_aA
  clear h_aA
  have h_aB := r_aB
  obtain ⟨AMarks_aB, cMarks_aB, AReps_aB, cReps_aB, rfl, -, -⟩ := rv_acct h_aB
  clear h_aB
  obtain ⟨wa, hwa, B0, sa, x_aA, x_aB⟩ := frame2 w 40 [.int .i64 a.Have, .int .i64 a.State, .int .i64 a.By, .slice AMarks_aA a.Marks.length cMarks_aA, .slice AReps_aA a.Reps.length cReps_aA] 40 [.int .i64 d.Have, .int .i64 d.State, .int .i64 d.By, .slice AMarks_aB d.Marks.length cMarks_aB, .slice AReps_aB d.Reps.length cReps_aB]
  have sa_1 := Nat.le_of_eq sa
  have sa_2 := Nat.le_of_eq sa.symm
  clear sa
  have c_aA_0_wa := x_aA.cell (i := 0) rfl
  have c_aA_1_wa := x_aA.cell (i := 1) rfl
  have c_aA_2_wa := x_aA.cell (i := 2) rfl
  have c_aA_3_wa := x_aA.cell (i := 3) rfl
  have c_aA_4_wa := x_aA.cell (i := 4) rfl
  have c_aB_0_wa := x_aB.cell (i := 0) rfl
  have c_aB_1_wa := x_aB.cell (i := 1) rfl
  have c_aB_2_wa := x_aB.cell (i := 2) rfl
  have c_aB_3_wa := x_aB.cell (i := 3) rfl
  have c_aB_4_wa := x_aB.cell (i := 4) rfl
  by_cases hbig_aA : a.bulk ≤ 1048576
  case neg =>
    go_enter Try.func11, Try.ntmps11
    go_wp2_with fail
    refine (szAcct_c (r_aA.from_ B0) (by omega) (by omega)).mono ?_
    rintro e w1 ⟨rfl, h_w1⟩
    clear c_aA_0_wa c_aA_1_wa c_aA_2_wa c_aA_3_wa c_aA_4_wa c_aB_0_wa c_aB_1_wa c_aB_2_wa c_aB_3_wa c_aB_4_wa
    replace x_aA := x_aA.from_ h_w1
    replace x_aB := x_aB.from_ h_w1
    have B_w1 := B0.trans (h_w1.mono B0.size)
    have s_w1 := h_w1.size
    rw [show szV (1048576) (a.bulk : Int) = -1 from if_neg (by omega)]
    have c_aA_0_w1 := x_aA.cell (i := 0) rfl
    have c_aA_1_w1 := x_aA.cell (i := 1) rfl
    have c_aA_2_w1 := x_aA.cell (i := 2) rfl
    have c_aA_3_w1 := x_aA.cell (i := 3) rfl
    have c_aA_4_w1 := x_aA.cell (i := 4) rfl
    have c_aB_0_w1 := x_aB.cell (i := 0) rfl
    have c_aB_1_w1 := x_aB.cell (i := 1) rfl
    have c_aB_2_w1 := x_aB.cell (i := 2) rfl
    have c_aB_3_w1 := x_aB.cell (i := 3) rfl
    have c_aB_4_w1 := x_aB.cell (i := 4) rfl
    go_wp2
    go_ret
    exact ⟨rfl, B_w1⟩
  by_cases hbig_aB : a.bulk + d.bulk ≤ 1048576
  case neg =>
    go_enter Try.func11, Try.ntmps11
    go_wp2_with fail
    refine (szAcct_c (r_aA.from_ B0) (by omega) (by omega)).mono ?_
    rintro e w1 ⟨rfl, h_w1⟩
    clear c_aA_0_wa c_aA_1_wa c_aA_2_wa c_aA_3_wa c_aA_4_wa c_aB_0_wa c_aB_1_wa c_aB_2_wa c_aB_3_wa c_aB_4_wa
    replace x_aA := x_aA.from_ h_w1
    replace x_aB := x_aB.from_ h_w1
    have B_w1 := B0.trans (h_w1.mono B0.size)
    have s_w1 := h_w1.size
    rw [show szV (1048576) (a.bulk : Int) = 1048576 - (a.bulk : Int) from if_pos (by omega)]
    have gz0 : decide (1048576 - (a.bulk : Int) < 0) = false := decide_eq_false (by omega)
    have c_aA_0_w1 := x_aA.cell (i := 0) rfl
    have c_aA_1_w1 := x_aA.cell (i := 1) rfl
    have c_aA_2_w1 := x_aA.cell (i := 2) rfl
    have c_aA_3_w1 := x_aA.cell (i := 3) rfl
    have c_aA_4_w1 := x_aA.cell (i := 4) rfl
    have c_aB_0_w1 := x_aB.cell (i := 0) rfl
    have c_aB_1_w1 := x_aB.cell (i := 1) rfl
    have c_aB_2_w1 := x_aB.cell (i := 2) rfl
    have c_aB_3_w1 := x_aB.cell (i := 3) rfl
    have c_aB_4_w1 := x_aB.cell (i := 4) rfl
    go_wp2_with fail
    refine (szAcct_c (r_aB.from_ B_w1) (by omega) (by omega)).mono ?_
    rintro e w2 ⟨rfl, h_w2⟩
    clear c_aA_0_w1 c_aA_1_w1 c_aA_2_w1 c_aA_3_w1 c_aA_4_w1 c_aB_0_w1 c_aB_1_w1 c_aB_2_w1 c_aB_3_w1 c_aB_4_w1
    replace x_aA := x_aA.from_ h_w2
    replace x_aB := x_aB.from_ h_w2
    have B_w2 := B_w1.trans (h_w2.mono B_w1.size)
    have s_w2 := h_w2.size
    rw [show szV (1048576 - (a.bulk : Int)) (d.bulk : Int) = -1 from if_neg (by omega)]
    have c_aA_0_w2 := x_aA.cell (i := 0) rfl
    have c_aA_1_w2 := x_aA.cell (i := 1) rfl
    have c_aA_2_w2 := x_aA.cell (i := 2) rfl
    have c_aA_3_w2 := x_aA.cell (i := 3) rfl
    have c_aA_4_w2 := x_aA.cell (i := 4) rfl
    have c_aB_0_w2 := x_aB.cell (i := 0) rfl
    have c_aB_1_w2 := x_aB.cell (i := 1) rfl
    have c_aB_2_w2 := x_aB.cell (i := 2) rfl
    have c_aB_3_w2 := x_aB.cell (i := 3) rfl
    have c_aB_4_w2 := x_aB.cell (i := 4) rfl
    go_wp2
    go_ret
    exact ⟨rfl, B_w2⟩
  have hz_aA := MAcct.steps_le a
  have hz_aB := MAcct.steps_le d
  obtain ⟨R0, hR0⟩ : ∃ R, acctSameB a d = R := ⟨_, rfl⟩
  have HR0 := Lib.hid hR0
  clear hR0
  go_enter Try.func11, Try.ntmps11
  go_wp2_with fail
  refine (szAcct_c (r_aA.from_ B0) (by omega) (by omega)).mono ?_
  rintro e w1 ⟨rfl, h_w1⟩
  clear c_aA_0_wa c_aA_1_wa c_aA_2_wa c_aA_3_wa c_aA_4_wa c_aB_0_wa c_aB_1_wa c_aB_2_wa c_aB_3_wa c_aB_4_wa
  replace x_aA := x_aA.from_ h_w1
  replace x_aB := x_aB.from_ h_w1
  have B_w1 := B0.trans (h_w1.mono B0.size)
  have s_w1 := h_w1.size
  rw [show szV (1048576) (a.bulk : Int) = 1048576 - (a.bulk : Int) from if_pos (by omega)]
  have gz0 : decide (1048576 - (a.bulk : Int) < 0) = false := decide_eq_false (by omega)
  have c_aA_0_w1 := x_aA.cell (i := 0) rfl
  have c_aA_1_w1 := x_aA.cell (i := 1) rfl
  have c_aA_2_w1 := x_aA.cell (i := 2) rfl
  have c_aA_3_w1 := x_aA.cell (i := 3) rfl
  have c_aA_4_w1 := x_aA.cell (i := 4) rfl
  have c_aB_0_w1 := x_aB.cell (i := 0) rfl
  have c_aB_1_w1 := x_aB.cell (i := 1) rfl
  have c_aB_2_w1 := x_aB.cell (i := 2) rfl
  have c_aB_3_w1 := x_aB.cell (i := 3) rfl
  have c_aB_4_w1 := x_aB.cell (i := 4) rfl
  go_wp2_with fail
  refine (szAcct_c (r_aB.from_ B_w1) (by omega) (by omega)).mono ?_
  rintro e w2 ⟨rfl, h_w2⟩
  clear c_aA_0_w1 c_aA_1_w1 c_aA_2_w1 c_aA_3_w1 c_aA_4_w1 c_aB_0_w1 c_aB_1_w1 c_aB_2_w1 c_aB_3_w1 c_aB_4_w1
  replace x_aA := x_aA.from_ h_w2
  replace x_aB := x_aB.from_ h_w2
  have B_w2 := B_w1.trans (h_w2.mono B_w1.size)
  have s_w2 := h_w2.size
  rw [show szV (1048576 - (a.bulk : Int)) (d.bulk : Int) = 1048576 - (a.bulk : Int) - (d.bulk : Int) from if_pos (by omega)]
  have gz1 : decide (1048576 - (a.bulk : Int) - (d.bulk : Int) < 0) = false := decide_eq_false (by omega)
  have c_aA_0_w2 := x_aA.cell (i := 0) rfl
  have c_aA_1_w2 := x_aA.cell (i := 1) rfl
  have c_aA_2_w2 := x_aA.cell (i := 2) rfl
  have c_aA_3_w2 := x_aA.cell (i := 3) rfl
  have c_aA_4_w2 := x_aA.cell (i := 4) rfl
  have c_aB_0_w2 := x_aB.cell (i := 0) rfl
  have c_aB_1_w2 := x_aB.cell (i := 1) rfl
  have c_aB_2_w2 := x_aB.cell (i := 2) rfl
  have c_aB_3_w2 := x_aB.cell (i := 3) rfl
  have c_aB_4_w2 := x_aB.cell (i := 4) rfl
  go_wp2_with fail
  go_region_held3 (fun w' => w'.cell? ⟨w.heap.size, 0, none⟩ = some (.int .i64 a.Have) ∧ w'.cell? ⟨w.heap.size, 1, none⟩ = some (.int .i64 a.State) ∧ w'.cell? ⟨w.heap.size, 2, none⟩ = some (.int .i64 a.By) ∧ w'.cell? ⟨w.heap.size, 3, none⟩ = some (.slice AMarks_aA a.Marks.length cMarks_aA) ∧ w'.cell? ⟨w.heap.size, 4, none⟩ = some (.slice AReps_aA a.Reps.length cReps_aA) ∧ w'.cell? ⟨w.heap.size + 1, 0, none⟩ = some (.int .i64 d.Have) ∧ w'.cell? ⟨w.heap.size + 1, 1, none⟩ = some (.int .i64 d.State) ∧ w'.cell? ⟨w.heap.size + 1, 2, none⟩ = some (.int .i64 d.By) ∧ w'.cell? ⟨w.heap.size + 1, 3, none⟩ = some (.slice AMarks_aB d.Marks.length cMarks_aB) ∧ w'.cell? ⟨w.heap.size + 1, 4, none⟩ = some (.slice AReps_aB d.Reps.length cReps_aB))
    (first | exact ⟨c_aA_0_w2, c_aA_1_w2, c_aA_2_w2, c_aA_3_w2, c_aA_4_w2, c_aB_0_w2, c_aB_1_w2, c_aB_2_w2, c_aB_3_w2, c_aB_4_w2⟩ | exact ⟨qz1_aA_0, qz1_aA_1, qz1_aA_2, qz1_aA_3, qz1_aA_4, qz1_aB_0, qz1_aB_1, qz1_aB_2, qz1_aB_3, qz1_aB_4⟩ | exact ⟨qz2_aA_0, qz2_aA_1, qz2_aA_2, qz2_aA_3, qz2_aA_4, qz2_aB_0, qz2_aB_1, qz2_aB_2, qz2_aB_3, qz2_aB_4⟩ | exact ⟨qz3_aA_0, qz3_aA_1, qz3_aA_2, qz3_aA_3, qz3_aA_4, qz3_aB_0, qz3_aB_1, qz3_aB_2, qz3_aB_3, qz3_aB_4⟩ | go_keep)
    (first | ((go_at_call_of 26 (Value.agg #[.int .i64 a.Have, .int .i64 a.State, .int .i64 a.By, .slice AMarks_aA a.Marks.length cMarks_aA, .slice AReps_aA a.Reps.length cReps_aA])); (refine (toAcct_c (r_aA.from_ (B_w2.drew)) (by omega)).mono ?_); rintro e w_z1 ⟨v_t1, rfl, o_t1, hd_z1⟩; have hb_z1 : Below w2.heap.size w2 w_z1 := (Below.refl w2.heap.size w2).drew.trans hd_z1; have sd_z1 := hd_z1.size; replace sd_z1 : w2.heap.size ≤ w_z1.heap.size := sd_z1; have qz1_aA_0 := (x_aA.from_ hb_z1).cell (i := 0) rfl; have qz1_aA_1 := (x_aA.from_ hb_z1).cell (i := 1) rfl; have qz1_aA_2 := (x_aA.from_ hb_z1).cell (i := 2) rfl; have qz1_aA_3 := (x_aA.from_ hb_z1).cell (i := 3) rfl; have qz1_aA_4 := (x_aA.from_ hb_z1).cell (i := 4) rfl; have qz1_aB_0 := (x_aB.from_ hb_z1).cell (i := 0) rfl; have qz1_aB_1 := (x_aB.from_ hb_z1).cell (i := 1) rfl; have qz1_aB_2 := (x_aB.from_ hb_z1).cell (i := 2) rfl; have qz1_aB_3 := (x_aB.from_ hb_z1).cell (i := 3) rfl; have qz1_aB_4 := (x_aB.from_ hb_z1).cell (i := 4) rfl; obtain ⟨AMarks_t1, cMarks_t1, AReps_t1, cReps_t1, rfl, -, -⟩ := rv_acct o_t1.rd)
           | ((go_at_call_of 26 (Value.agg #[.int .i64 d.Have, .int .i64 d.State, .int .i64 d.By, .slice AMarks_aB d.Marks.length cMarks_aB, .slice AReps_aB d.Reps.length cReps_aB])); (refine (toAcct_c (r_aB.from_ (B_w2.trans (hb_z1.mono B_w2.size))) (by omega)).mono ?_); rintro e w_z2 ⟨v_t2, rfl, o_t2, hd_z2⟩; have hb_z2 : Below w2.heap.size w2 w_z2 := hb_z1.trans (hd_z2.mono hb_z1.size); have sd_z2 := hd_z2.size; have qz2_aA_0 := (x_aA.from_ hb_z2).cell (i := 0) rfl; have qz2_aA_1 := (x_aA.from_ hb_z2).cell (i := 1) rfl; have qz2_aA_2 := (x_aA.from_ hb_z2).cell (i := 2) rfl; have qz2_aA_3 := (x_aA.from_ hb_z2).cell (i := 3) rfl; have qz2_aA_4 := (x_aA.from_ hb_z2).cell (i := 4) rfl; have qz2_aB_0 := (x_aB.from_ hb_z2).cell (i := 0) rfl; have qz2_aB_1 := (x_aB.from_ hb_z2).cell (i := 1) rfl; have qz2_aB_2 := (x_aB.from_ hb_z2).cell (i := 2) rfl; have qz2_aB_3 := (x_aB.from_ hb_z2).cell (i := 3) rfl; have qz2_aB_4 := (x_aB.from_ hb_z2).cell (i := 4) rfl; replace o_t1 := o_t1.below hd_z2; obtain ⟨AMarks_t2, cMarks_t2, AReps_t2, cReps_t2, rfl, -, -⟩ := rv_acct o_t2.rd)
           | ((go_at_call 35); (refine (sAcctSame_c o_t1.rd o_t2.rd).mono ?_); rintro e w_z3 ⟨rfl, hd_z3⟩; have hb_z3 : Below w2.heap.size w2 w_z3 := hb_z2.trans (hd_z3.mono hb_z2.size); have sd_z3 := hd_z3.size; have qz3_aA_0 := (x_aA.from_ hb_z3).cell (i := 0) rfl; have qz3_aA_1 := (x_aA.from_ hb_z3).cell (i := 1) rfl; have qz3_aA_2 := (x_aA.from_ hb_z3).cell (i := 2) rfl; have qz3_aA_3 := (x_aA.from_ hb_z3).cell (i := 3) rfl; have qz3_aA_4 := (x_aA.from_ hb_z3).cell (i := 4) rfl; have qz3_aB_0 := (x_aB.from_ hb_z3).cell (i := 0) rfl; have qz3_aB_1 := (x_aB.from_ hb_z3).cell (i := 1) rfl; have qz3_aB_2 := (x_aB.from_ hb_z3).cell (i := 2) rfl; have qz3_aB_3 := (x_aB.from_ hb_z3).cell (i := 3) rfl; have qz3_aB_4 := (x_aB.from_ hb_z3).cell (i := 4) rfl; replace o_t1 := o_t1.below hd_z3; replace o_t2 := o_t2.below hd_z3; rw [HR0.out])
           | fail)
  clear c_aA_0_w2 c_aA_1_w2 c_aA_2_w2 c_aA_3_w2 c_aA_4_w2 c_aB_0_w2 c_aB_1_w2 c_aB_2_w2 c_aB_3_w2 c_aB_4_w2
  have dz_w2 : w2.drew.heap.size = w2.heap.size := rfl
  replace x_aA := x_aA.from_ hb_z3
  replace x_aB := x_aB.from_ hb_z3
  have B_z3 := B_w2.trans (hb_z3.mono B_w2.size)
  have sz_z3 := hb_z3.size
  have c_aA_0_w_z3 := x_aA.cell (i := 0) rfl
  have f_aA_0_w_z3 := x_aA.frozen 0
  have c_aA_1_w_z3 := x_aA.cell (i := 1) rfl
  have f_aA_1_w_z3 := x_aA.frozen 1
  have c_aA_2_w_z3 := x_aA.cell (i := 2) rfl
  have f_aA_2_w_z3 := x_aA.frozen 2
  have c_aA_3_w_z3 := x_aA.cell (i := 3) rfl
  have f_aA_3_w_z3 := x_aA.frozen 3
  have c_aA_4_w_z3 := x_aA.cell (i := 4) rfl
  have f_aA_4_w_z3 := x_aA.frozen 4
  have c_aB_0_w_z3 := x_aB.cell (i := 0) rfl
  have f_aB_0_w_z3 := x_aB.frozen 0
  have c_aB_1_w_z3 := x_aB.cell (i := 1) rfl
  have f_aB_1_w_z3 := x_aB.frozen 1
  have c_aB_2_w_z3 := x_aB.cell (i := 2) rfl
  have f_aB_2_w_z3 := x_aB.frozen 2
  have c_aB_3_w_z3 := x_aB.cell (i := 3) rfl
  have f_aB_3_w_z3 := x_aB.frozen 3
  have c_aB_4_w_z3 := x_aB.cell (i := 4) rfl
  have f_aB_4_w_z3 := x_aB.frozen 4
  go_wp2_with fail
  refine (toAcct_c (r_aA.from_ B_z3) (by omega)).mono ?_
  rintro e w3 ⟨v_t3, rfl, o_t3, h_w3⟩
  clear c_aA_0_w_z3 f_aA_0_w_z3 c_aA_1_w_z3 f_aA_1_w_z3 c_aA_2_w_z3 f_aA_2_w_z3 c_aA_3_w_z3 f_aA_3_w_z3 c_aA_4_w_z3 f_aA_4_w_z3 c_aB_0_w_z3 f_aB_0_w_z3 c_aB_1_w_z3 f_aB_1_w_z3 c_aB_2_w_z3 f_aB_2_w_z3 c_aB_3_w_z3 f_aB_3_w_z3 c_aB_4_w_z3 f_aB_4_w_z3
  replace x_aA := x_aA.from_ h_w3
  replace x_aB := x_aB.from_ h_w3
  replace o_t1 := o_t1.below h_w3
  replace o_t2 := o_t2.below h_w3
  have B_w3 := B_z3.trans (h_w3.mono B_z3.size)
  have s_w3 := h_w3.size
  obtain ⟨AMarks_t3, cMarks_t3, AReps_t3, cReps_t3, rfl, -, -⟩ := rv_acct o_t3.rd
  have c_aA_0_w3 := x_aA.cell (i := 0) rfl
  have f_aA_0_w3 := x_aA.frozen 0
  have c_aA_1_w3 := x_aA.cell (i := 1) rfl
  have f_aA_1_w3 := x_aA.frozen 1
  have c_aA_2_w3 := x_aA.cell (i := 2) rfl
  have f_aA_2_w3 := x_aA.frozen 2
  have c_aA_3_w3 := x_aA.cell (i := 3) rfl
  have f_aA_3_w3 := x_aA.frozen 3
  have c_aA_4_w3 := x_aA.cell (i := 4) rfl
  have f_aA_4_w3 := x_aA.frozen 4
  have c_aB_0_w3 := x_aB.cell (i := 0) rfl
  have f_aB_0_w3 := x_aB.frozen 0
  have c_aB_1_w3 := x_aB.cell (i := 1) rfl
  have f_aB_1_w3 := x_aB.frozen 1
  have c_aB_2_w3 := x_aB.cell (i := 2) rfl
  have f_aB_2_w3 := x_aB.frozen 2
  have c_aB_3_w3 := x_aB.cell (i := 3) rfl
  have f_aB_3_w3 := x_aB.frozen 3
  have c_aB_4_w3 := x_aB.cell (i := 4) rfl
  have f_aB_4_w3 := x_aB.frozen 4
  obtain ⟨w4, e_w4, s_w4, h_w4, x_x0⟩ := alloc_step w3 27 [.int .i64 a.Have, .int .i64 a.State, .int .i64 a.By, .slice AMarks_t3 a.Marks.length cMarks_t3, .slice AReps_t3 a.Reps.length cReps_t3]
  have s_w4_1 := Nat.le_of_eq s_w4
  have s_w4_2 := Nat.le_of_eq s_w4.symm
  clear s_w4
  replace x_aA := x_aA.from_ h_w4
  replace x_aB := x_aB.from_ h_w4
  replace o_t1 := o_t1.below h_w4
  replace o_t2 := o_t2.below h_w4
  replace o_t3 := o_t3.below h_w4
  have B_w4 := B_w3.trans (h_w4.mono B_w3.size)
  have c_aA_0_w4 := x_aA.cell (i := 0) rfl
  have f_aA_0_w4 := x_aA.frozen 0
  have c_aA_1_w4 := x_aA.cell (i := 1) rfl
  have f_aA_1_w4 := x_aA.frozen 1
  have c_aA_2_w4 := x_aA.cell (i := 2) rfl
  have f_aA_2_w4 := x_aA.frozen 2
  have c_aA_3_w4 := x_aA.cell (i := 3) rfl
  have f_aA_3_w4 := x_aA.frozen 3
  have c_aA_4_w4 := x_aA.cell (i := 4) rfl
  have f_aA_4_w4 := x_aA.frozen 4
  have c_aB_0_w4 := x_aB.cell (i := 0) rfl
  have f_aB_0_w4 := x_aB.frozen 0
  have c_aB_1_w4 := x_aB.cell (i := 1) rfl
  have f_aB_1_w4 := x_aB.frozen 1
  have c_aB_2_w4 := x_aB.cell (i := 2) rfl
  have f_aB_2_w4 := x_aB.frozen 2
  have c_aB_3_w4 := x_aB.cell (i := 3) rfl
  have f_aB_3_w4 := x_aB.frozen 3
  have c_aB_4_w4 := x_aB.cell (i := 4) rfl
  have f_aB_4_w4 := x_aB.frozen 4
  have c_x0_0_w4 := x_x0.cell (i := 0) rfl
  have f_x0_0_w4 := x_x0.frozen 0
  have c_x0_1_w4 := x_x0.cell (i := 1) rfl
  have f_x0_1_w4 := x_x0.frozen 1
  have c_x0_2_w4 := x_x0.cell (i := 2) rfl
  have f_x0_2_w4 := x_x0.frozen 2
  have c_x0_3_w4 := x_x0.cell (i := 3) rfl
  have f_x0_3_w4 := x_x0.frozen 3
  have c_x0_4_w4 := x_x0.cell (i := 4) rfl
  have f_x0_4_w4 := x_x0.frozen 4
  go_wp2_with fail
  refine (toAcct_c (r_aB.from_ B_w4) (by omega)).mono ?_
  rintro e w5 ⟨v_t4, rfl, o_t4, h_w5⟩
  clear c_aA_0_w3 f_aA_0_w3 c_aA_1_w3 f_aA_1_w3 c_aA_2_w3 f_aA_2_w3 c_aA_3_w3 f_aA_3_w3 c_aA_4_w3 f_aA_4_w3 c_aB_0_w3 f_aB_0_w3 c_aB_1_w3 f_aB_1_w3 c_aB_2_w3 f_aB_2_w3 c_aB_3_w3 f_aB_3_w3 c_aB_4_w3 f_aB_4_w3 c_aA_0_w4 f_aA_0_w4 c_aA_1_w4 f_aA_1_w4 c_aA_2_w4 f_aA_2_w4 c_aA_3_w4 f_aA_3_w4 c_aA_4_w4 f_aA_4_w4 c_aB_0_w4 f_aB_0_w4 c_aB_1_w4 f_aB_1_w4 c_aB_2_w4 f_aB_2_w4 c_aB_3_w4 f_aB_3_w4 c_aB_4_w4 f_aB_4_w4 c_x0_0_w4 f_x0_0_w4 c_x0_1_w4 f_x0_1_w4 c_x0_2_w4 f_x0_2_w4 c_x0_3_w4 f_x0_3_w4 c_x0_4_w4 f_x0_4_w4
  replace x_aA := x_aA.from_ h_w5
  replace x_aB := x_aB.from_ h_w5
  replace x_x0 := x_x0.from_ h_w5
  replace o_t1 := o_t1.below h_w5
  replace o_t2 := o_t2.below h_w5
  replace o_t3 := o_t3.below h_w5
  have B_w5 := B_w4.trans (h_w5.mono B_w4.size)
  have s_w5 := h_w5.size
  obtain ⟨AMarks_t4, cMarks_t4, AReps_t4, cReps_t4, rfl, -, -⟩ := rv_acct o_t4.rd
  have c_aA_0_w5 := x_aA.cell (i := 0) rfl
  have f_aA_0_w5 := x_aA.frozen 0
  have c_aA_1_w5 := x_aA.cell (i := 1) rfl
  have f_aA_1_w5 := x_aA.frozen 1
  have c_aA_2_w5 := x_aA.cell (i := 2) rfl
  have f_aA_2_w5 := x_aA.frozen 2
  have c_aA_3_w5 := x_aA.cell (i := 3) rfl
  have f_aA_3_w5 := x_aA.frozen 3
  have c_aA_4_w5 := x_aA.cell (i := 4) rfl
  have f_aA_4_w5 := x_aA.frozen 4
  have c_aB_0_w5 := x_aB.cell (i := 0) rfl
  have f_aB_0_w5 := x_aB.frozen 0
  have c_aB_1_w5 := x_aB.cell (i := 1) rfl
  have f_aB_1_w5 := x_aB.frozen 1
  have c_aB_2_w5 := x_aB.cell (i := 2) rfl
  have f_aB_2_w5 := x_aB.frozen 2
  have c_aB_3_w5 := x_aB.cell (i := 3) rfl
  have f_aB_3_w5 := x_aB.frozen 3
  have c_aB_4_w5 := x_aB.cell (i := 4) rfl
  have f_aB_4_w5 := x_aB.frozen 4
  have c_x0_0_w5 := x_x0.cell (i := 0) rfl
  have f_x0_0_w5 := x_x0.frozen 0
  have c_x0_1_w5 := x_x0.cell (i := 1) rfl
  have f_x0_1_w5 := x_x0.frozen 1
  have c_x0_2_w5 := x_x0.cell (i := 2) rfl
  have f_x0_2_w5 := x_x0.frozen 2
  have c_x0_3_w5 := x_x0.cell (i := 3) rfl
  have f_x0_3_w5 := x_x0.frozen 3
  have c_x0_4_w5 := x_x0.cell (i := 4) rfl
  have f_x0_4_w5 := x_x0.frozen 4
  obtain ⟨w6, e_w6, s_w6, h_w6, x_x1⟩ := alloc_step w5 27 [.int .i64 d.Have, .int .i64 d.State, .int .i64 d.By, .slice AMarks_t4 d.Marks.length cMarks_t4, .slice AReps_t4 d.Reps.length cReps_t4]
  have s_w6_1 := Nat.le_of_eq s_w6
  have s_w6_2 := Nat.le_of_eq s_w6.symm
  clear s_w6
  replace x_aA := x_aA.from_ h_w6
  replace x_aB := x_aB.from_ h_w6
  replace x_x0 := x_x0.from_ h_w6
  replace o_t1 := o_t1.below h_w6
  replace o_t2 := o_t2.below h_w6
  replace o_t3 := o_t3.below h_w6
  replace o_t4 := o_t4.below h_w6
  have B_w6 := B_w5.trans (h_w6.mono B_w5.size)
  have c_aA_0_w6 := x_aA.cell (i := 0) rfl
  have f_aA_0_w6 := x_aA.frozen 0
  have c_aA_1_w6 := x_aA.cell (i := 1) rfl
  have f_aA_1_w6 := x_aA.frozen 1
  have c_aA_2_w6 := x_aA.cell (i := 2) rfl
  have f_aA_2_w6 := x_aA.frozen 2
  have c_aA_3_w6 := x_aA.cell (i := 3) rfl
  have f_aA_3_w6 := x_aA.frozen 3
  have c_aA_4_w6 := x_aA.cell (i := 4) rfl
  have f_aA_4_w6 := x_aA.frozen 4
  have c_aB_0_w6 := x_aB.cell (i := 0) rfl
  have f_aB_0_w6 := x_aB.frozen 0
  have c_aB_1_w6 := x_aB.cell (i := 1) rfl
  have f_aB_1_w6 := x_aB.frozen 1
  have c_aB_2_w6 := x_aB.cell (i := 2) rfl
  have f_aB_2_w6 := x_aB.frozen 2
  have c_aB_3_w6 := x_aB.cell (i := 3) rfl
  have f_aB_3_w6 := x_aB.frozen 3
  have c_aB_4_w6 := x_aB.cell (i := 4) rfl
  have f_aB_4_w6 := x_aB.frozen 4
  have c_x0_0_w6 := x_x0.cell (i := 0) rfl
  have f_x0_0_w6 := x_x0.frozen 0
  have c_x0_1_w6 := x_x0.cell (i := 1) rfl
  have f_x0_1_w6 := x_x0.frozen 1
  have c_x0_2_w6 := x_x0.cell (i := 2) rfl
  have f_x0_2_w6 := x_x0.frozen 2
  have c_x0_3_w6 := x_x0.cell (i := 3) rfl
  have f_x0_3_w6 := x_x0.frozen 3
  have c_x0_4_w6 := x_x0.cell (i := 4) rfl
  have f_x0_4_w6 := x_x0.frozen 4
  have c_x1_0_w6 := x_x1.cell (i := 0) rfl
  have f_x1_0_w6 := x_x1.frozen 0
  have c_x1_1_w6 := x_x1.cell (i := 1) rfl
  have f_x1_1_w6 := x_x1.frozen 1
  have c_x1_2_w6 := x_x1.cell (i := 2) rfl
  have f_x1_2_w6 := x_x1.frozen 2
  have c_x1_3_w6 := x_x1.cell (i := 3) rfl
  have f_x1_3_w6 := x_x1.frozen 3
  have c_x1_4_w6 := x_x1.cell (i := 4) rfl
  have f_x1_4_w6 := x_x1.frozen 4
  go_wp2_with fail
  refine (iAcctSame_c o_t3.rd o_t4.rd).mono ?_
  rintro e w7 ⟨rfl, h_w7⟩
  clear c_aA_0_w5 f_aA_0_w5 c_aA_1_w5 f_aA_1_w5 c_aA_2_w5 f_aA_2_w5 c_aA_3_w5 f_aA_3_w5 c_aA_4_w5 f_aA_4_w5 c_aB_0_w5 f_aB_0_w5 c_aB_1_w5 f_aB_1_w5 c_aB_2_w5 f_aB_2_w5 c_aB_3_w5 f_aB_3_w5 c_aB_4_w5 f_aB_4_w5 c_x0_0_w5 f_x0_0_w5 c_x0_1_w5 f_x0_1_w5 c_x0_2_w5 f_x0_2_w5 c_x0_3_w5 f_x0_3_w5 c_x0_4_w5 f_x0_4_w5 c_aA_0_w6 f_aA_0_w6 c_aA_1_w6 f_aA_1_w6 c_aA_2_w6 f_aA_2_w6 c_aA_3_w6 f_aA_3_w6 c_aA_4_w6 f_aA_4_w6 c_aB_0_w6 f_aB_0_w6 c_aB_1_w6 f_aB_1_w6 c_aB_2_w6 f_aB_2_w6 c_aB_3_w6 f_aB_3_w6 c_aB_4_w6 f_aB_4_w6 c_x0_0_w6 f_x0_0_w6 c_x0_1_w6 f_x0_1_w6 c_x0_2_w6 f_x0_2_w6 c_x0_3_w6 f_x0_3_w6 c_x0_4_w6 f_x0_4_w6 c_x1_0_w6 f_x1_0_w6 c_x1_1_w6 f_x1_1_w6 c_x1_2_w6 f_x1_2_w6 c_x1_3_w6 f_x1_3_w6 c_x1_4_w6 f_x1_4_w6
  replace x_aA := x_aA.from_ h_w7
  replace x_aB := x_aB.from_ h_w7
  replace x_x0 := x_x0.from_ h_w7
  replace x_x1 := x_x1.from_ h_w7
  replace o_t1 := o_t1.below h_w7
  replace o_t2 := o_t2.below h_w7
  replace o_t3 := o_t3.below h_w7
  replace o_t4 := o_t4.below h_w7
  have B_w7 := B_w6.trans (h_w7.mono B_w6.size)
  have s_w7 := h_w7.size
  rw [HR0.out]
  have c_aA_0_w7 := x_aA.cell (i := 0) rfl
  have f_aA_0_w7 := x_aA.frozen 0
  have c_aA_1_w7 := x_aA.cell (i := 1) rfl
  have f_aA_1_w7 := x_aA.frozen 1
  have c_aA_2_w7 := x_aA.cell (i := 2) rfl
  have f_aA_2_w7 := x_aA.frozen 2
  have c_aA_3_w7 := x_aA.cell (i := 3) rfl
  have f_aA_3_w7 := x_aA.frozen 3
  have c_aA_4_w7 := x_aA.cell (i := 4) rfl
  have f_aA_4_w7 := x_aA.frozen 4
  have c_aB_0_w7 := x_aB.cell (i := 0) rfl
  have f_aB_0_w7 := x_aB.frozen 0
  have c_aB_1_w7 := x_aB.cell (i := 1) rfl
  have f_aB_1_w7 := x_aB.frozen 1
  have c_aB_2_w7 := x_aB.cell (i := 2) rfl
  have f_aB_2_w7 := x_aB.frozen 2
  have c_aB_3_w7 := x_aB.cell (i := 3) rfl
  have f_aB_3_w7 := x_aB.frozen 3
  have c_aB_4_w7 := x_aB.cell (i := 4) rfl
  have f_aB_4_w7 := x_aB.frozen 4
  have c_x0_0_w7 := x_x0.cell (i := 0) rfl
  have f_x0_0_w7 := x_x0.frozen 0
  have c_x0_1_w7 := x_x0.cell (i := 1) rfl
  have f_x0_1_w7 := x_x0.frozen 1
  have c_x0_2_w7 := x_x0.cell (i := 2) rfl
  have f_x0_2_w7 := x_x0.frozen 2
  have c_x0_3_w7 := x_x0.cell (i := 3) rfl
  have f_x0_3_w7 := x_x0.frozen 3
  have c_x0_4_w7 := x_x0.cell (i := 4) rfl
  have f_x0_4_w7 := x_x0.frozen 4
  have c_x1_0_w7 := x_x1.cell (i := 0) rfl
  have f_x1_0_w7 := x_x1.frozen 0
  have c_x1_1_w7 := x_x1.cell (i := 1) rfl
  have f_x1_1_w7 := x_x1.frozen 1
  have c_x1_2_w7 := x_x1.cell (i := 2) rfl
  have f_x1_2_w7 := x_x1.frozen 2
  have c_x1_3_w7 := x_x1.cell (i := 3) rfl
  have f_x1_3_w7 := x_x1.frozen 3
  have c_x1_4_w7 := x_x1.cell (i := 4) rfl
  have f_x1_4_w7 := x_x1.frozen 4
  go_wp2_with fail
  go_region_held3 (fun w' => w'.cell? ⟨w3.heap.size, 0, none⟩ = some (.int .i64 a.Have) ∧ w'.cell? ⟨w3.heap.size, 1, none⟩ = some (.int .i64 a.State) ∧ w'.cell? ⟨w3.heap.size, 2, none⟩ = some (.int .i64 a.By) ∧ w'.cell? ⟨w3.heap.size, 3, none⟩ = some (.slice AMarks_t3 a.Marks.length cMarks_t3) ∧ w'.cell? ⟨w3.heap.size, 4, none⟩ = some (.slice AReps_t3 a.Reps.length cReps_t3) ∧ w'.cell? ⟨w.heap.size, 0, none⟩ = some (.int .i64 a.Have) ∧ w'.cell? ⟨w.heap.size, 1, none⟩ = some (.int .i64 a.State) ∧ w'.cell? ⟨w.heap.size, 2, none⟩ = some (.int .i64 a.By) ∧ w'.cell? ⟨w.heap.size, 3, none⟩ = some (.slice AMarks_aA a.Marks.length cMarks_aA) ∧ w'.cell? ⟨w.heap.size, 4, none⟩ = some (.slice AReps_aA a.Reps.length cReps_aA))
    (first | exact ⟨c_x0_0_w7, c_x0_1_w7, c_x0_2_w7, c_x0_3_w7, c_x0_4_w7, c_aA_0_w7, c_aA_1_w7, c_aA_2_w7, c_aA_3_w7, c_aA_4_w7⟩ | exact ⟨qz4_x0_0, qz4_x0_1, qz4_x0_2, qz4_x0_3, qz4_x0_4, qz4_aA_0, qz4_aA_1, qz4_aA_2, qz4_aA_3, qz4_aA_4⟩ | exact ⟨qz5_x0_0, qz5_x0_1, qz5_x0_2, qz5_x0_3, qz5_x0_4, qz5_aA_0, qz5_aA_1, qz5_aA_2, qz5_aA_3, qz5_aA_4⟩ | go_keep)
    (first | ((go_at_call 26); (refine (toAcct_c (r_aA.from_ (B_w7.drew)) (by omega)).mono ?_); rintro e w_z4 ⟨v_t5, rfl, o_t5, hd_z4⟩; have hb_z4 : Below w7.heap.size w7 w_z4 := (Below.refl w7.heap.size w7).drew.trans hd_z4; have sd_z4 := hd_z4.size; replace sd_z4 : w7.heap.size ≤ w_z4.heap.size := sd_z4; have qz4_x0_0 := (x_x0.from_ hb_z4).cell (i := 0) rfl; have qz4_x0_1 := (x_x0.from_ hb_z4).cell (i := 1) rfl; have qz4_x0_2 := (x_x0.from_ hb_z4).cell (i := 2) rfl; have qz4_x0_3 := (x_x0.from_ hb_z4).cell (i := 3) rfl; have qz4_x0_4 := (x_x0.from_ hb_z4).cell (i := 4) rfl; have qz4_aA_0 := (x_aA.from_ hb_z4).cell (i := 0) rfl; have qz4_aA_1 := (x_aA.from_ hb_z4).cell (i := 1) rfl; have qz4_aA_2 := (x_aA.from_ hb_z4).cell (i := 2) rfl; have qz4_aA_3 := (x_aA.from_ hb_z4).cell (i := 3) rfl; have qz4_aA_4 := (x_aA.from_ hb_z4).cell (i := 4) rfl; obtain ⟨AMarks_t5, cMarks_t5, AReps_t5, cReps_t5, rfl, -, -⟩ := rv_acct o_t5.rd)
           | ((go_at_call 27); (refine (eqAcct_same (o_t3.below hb_z4).rd o_t5.rd (by omega)).mono ?_); rintro e w_z5 ⟨rfl, hd_z5⟩; have hb_z5 : Below w7.heap.size w7 w_z5 := hb_z4.trans (hd_z5.mono hb_z4.size); have sd_z5 := hd_z5.size; have qz5_x0_0 := (x_x0.from_ hb_z5).cell (i := 0) rfl; have qz5_x0_1 := (x_x0.from_ hb_z5).cell (i := 1) rfl; have qz5_x0_2 := (x_x0.from_ hb_z5).cell (i := 2) rfl; have qz5_x0_3 := (x_x0.from_ hb_z5).cell (i := 3) rfl; have qz5_x0_4 := (x_x0.from_ hb_z5).cell (i := 4) rfl; have qz5_aA_0 := (x_aA.from_ hb_z5).cell (i := 0) rfl; have qz5_aA_1 := (x_aA.from_ hb_z5).cell (i := 1) rfl; have qz5_aA_2 := (x_aA.from_ hb_z5).cell (i := 2) rfl; have qz5_aA_3 := (x_aA.from_ hb_z5).cell (i := 3) rfl; have qz5_aA_4 := (x_aA.from_ hb_z5).cell (i := 4) rfl; replace o_t5 := o_t5.below hd_z5)
           | fail)
  clear c_aA_0_w7 f_aA_0_w7 c_aA_1_w7 f_aA_1_w7 c_aA_2_w7 f_aA_2_w7 c_aA_3_w7 f_aA_3_w7 c_aA_4_w7 f_aA_4_w7 c_aB_0_w7 f_aB_0_w7 c_aB_1_w7 f_aB_1_w7 c_aB_2_w7 f_aB_2_w7 c_aB_3_w7 f_aB_3_w7 c_aB_4_w7 f_aB_4_w7 c_x0_0_w7 f_x0_0_w7 c_x0_1_w7 f_x0_1_w7 c_x0_2_w7 f_x0_2_w7 c_x0_3_w7 f_x0_3_w7 c_x0_4_w7 f_x0_4_w7 c_x1_0_w7 f_x1_0_w7 c_x1_1_w7 f_x1_1_w7 c_x1_2_w7 f_x1_2_w7 c_x1_3_w7 f_x1_3_w7 c_x1_4_w7 f_x1_4_w7
  have dz_w7 : w7.drew.heap.size = w7.heap.size := rfl
  replace x_aA := x_aA.from_ hb_z5
  replace x_aB := x_aB.from_ hb_z5
  replace x_x0 := x_x0.from_ hb_z5
  replace x_x1 := x_x1.from_ hb_z5
  replace o_t1 := o_t1.below hb_z5
  replace o_t2 := o_t2.below hb_z5
  replace o_t3 := o_t3.below hb_z5
  replace o_t4 := o_t4.below hb_z5
  have B_z5 := B_w7.trans (hb_z5.mono B_w7.size)
  have sz_z5 := hb_z5.size
  have c_aA_0_w_z5 := x_aA.cell (i := 0) rfl
  have f_aA_0_w_z5 := x_aA.frozen 0
  have c_aA_1_w_z5 := x_aA.cell (i := 1) rfl
  have f_aA_1_w_z5 := x_aA.frozen 1
  have c_aA_2_w_z5 := x_aA.cell (i := 2) rfl
  have f_aA_2_w_z5 := x_aA.frozen 2
  have c_aA_3_w_z5 := x_aA.cell (i := 3) rfl
  have f_aA_3_w_z5 := x_aA.frozen 3
  have c_aA_4_w_z5 := x_aA.cell (i := 4) rfl
  have f_aA_4_w_z5 := x_aA.frozen 4
  have c_aB_0_w_z5 := x_aB.cell (i := 0) rfl
  have f_aB_0_w_z5 := x_aB.frozen 0
  have c_aB_1_w_z5 := x_aB.cell (i := 1) rfl
  have f_aB_1_w_z5 := x_aB.frozen 1
  have c_aB_2_w_z5 := x_aB.cell (i := 2) rfl
  have f_aB_2_w_z5 := x_aB.frozen 2
  have c_aB_3_w_z5 := x_aB.cell (i := 3) rfl
  have f_aB_3_w_z5 := x_aB.frozen 3
  have c_aB_4_w_z5 := x_aB.cell (i := 4) rfl
  have f_aB_4_w_z5 := x_aB.frozen 4
  have c_x0_0_w_z5 := x_x0.cell (i := 0) rfl
  have f_x0_0_w_z5 := x_x0.frozen 0
  have c_x0_1_w_z5 := x_x0.cell (i := 1) rfl
  have f_x0_1_w_z5 := x_x0.frozen 1
  have c_x0_2_w_z5 := x_x0.cell (i := 2) rfl
  have f_x0_2_w_z5 := x_x0.frozen 2
  have c_x0_3_w_z5 := x_x0.cell (i := 3) rfl
  have f_x0_3_w_z5 := x_x0.frozen 3
  have c_x0_4_w_z5 := x_x0.cell (i := 4) rfl
  have f_x0_4_w_z5 := x_x0.frozen 4
  have c_x1_0_w_z5 := x_x1.cell (i := 0) rfl
  have f_x1_0_w_z5 := x_x1.frozen 0
  have c_x1_1_w_z5 := x_x1.cell (i := 1) rfl
  have f_x1_1_w_z5 := x_x1.frozen 1
  have c_x1_2_w_z5 := x_x1.cell (i := 2) rfl
  have f_x1_2_w_z5 := x_x1.frozen 2
  have c_x1_3_w_z5 := x_x1.cell (i := 3) rfl
  have f_x1_3_w_z5 := x_x1.frozen 3
  have c_x1_4_w_z5 := x_x1.cell (i := 4) rfl
  have f_x1_4_w_z5 := x_x1.frozen 4
  go_wp2_with fail
  go_region_held3 (fun w' => w'.cell? ⟨w5.heap.size, 0, none⟩ = some (.int .i64 d.Have) ∧ w'.cell? ⟨w5.heap.size, 1, none⟩ = some (.int .i64 d.State) ∧ w'.cell? ⟨w5.heap.size, 2, none⟩ = some (.int .i64 d.By) ∧ w'.cell? ⟨w5.heap.size, 3, none⟩ = some (.slice AMarks_t4 d.Marks.length cMarks_t4) ∧ w'.cell? ⟨w5.heap.size, 4, none⟩ = some (.slice AReps_t4 d.Reps.length cReps_t4) ∧ w'.cell? ⟨w.heap.size + 1, 0, none⟩ = some (.int .i64 d.Have) ∧ w'.cell? ⟨w.heap.size + 1, 1, none⟩ = some (.int .i64 d.State) ∧ w'.cell? ⟨w.heap.size + 1, 2, none⟩ = some (.int .i64 d.By) ∧ w'.cell? ⟨w.heap.size + 1, 3, none⟩ = some (.slice AMarks_aB d.Marks.length cMarks_aB) ∧ w'.cell? ⟨w.heap.size + 1, 4, none⟩ = some (.slice AReps_aB d.Reps.length cReps_aB))
    (first | exact ⟨c_x1_0_w_z5, c_x1_1_w_z5, c_x1_2_w_z5, c_x1_3_w_z5, c_x1_4_w_z5, c_aB_0_w_z5, c_aB_1_w_z5, c_aB_2_w_z5, c_aB_3_w_z5, c_aB_4_w_z5⟩ | exact ⟨qz6_x1_0, qz6_x1_1, qz6_x1_2, qz6_x1_3, qz6_x1_4, qz6_aB_0, qz6_aB_1, qz6_aB_2, qz6_aB_3, qz6_aB_4⟩ | exact ⟨qz7_x1_0, qz7_x1_1, qz7_x1_2, qz7_x1_3, qz7_x1_4, qz7_aB_0, qz7_aB_1, qz7_aB_2, qz7_aB_3, qz7_aB_4⟩ | go_keep)
    (first | ((go_at_call 26); (refine (toAcct_c (r_aB.from_ (B_z5.drew)) (by omega)).mono ?_); rintro e w_z6 ⟨v_t6, rfl, o_t6, hd_z6⟩; have hb_z6 : Below w_z5.heap.size w_z5 w_z6 := (Below.refl w_z5.heap.size w_z5).drew.trans hd_z6; have sd_z6 := hd_z6.size; replace sd_z6 : w_z5.heap.size ≤ w_z6.heap.size := sd_z6; have qz6_x1_0 := (x_x1.from_ hb_z6).cell (i := 0) rfl; have qz6_x1_1 := (x_x1.from_ hb_z6).cell (i := 1) rfl; have qz6_x1_2 := (x_x1.from_ hb_z6).cell (i := 2) rfl; have qz6_x1_3 := (x_x1.from_ hb_z6).cell (i := 3) rfl; have qz6_x1_4 := (x_x1.from_ hb_z6).cell (i := 4) rfl; have qz6_aB_0 := (x_aB.from_ hb_z6).cell (i := 0) rfl; have qz6_aB_1 := (x_aB.from_ hb_z6).cell (i := 1) rfl; have qz6_aB_2 := (x_aB.from_ hb_z6).cell (i := 2) rfl; have qz6_aB_3 := (x_aB.from_ hb_z6).cell (i := 3) rfl; have qz6_aB_4 := (x_aB.from_ hb_z6).cell (i := 4) rfl; obtain ⟨AMarks_t6, cMarks_t6, AReps_t6, cReps_t6, rfl, -, -⟩ := rv_acct o_t6.rd)
           | ((go_at_call 27); (refine (eqAcct_same (o_t4.below hb_z6).rd o_t6.rd (by omega)).mono ?_); rintro e w_z7 ⟨rfl, hd_z7⟩; have hb_z7 : Below w_z5.heap.size w_z5 w_z7 := hb_z6.trans (hd_z7.mono hb_z6.size); have sd_z7 := hd_z7.size; have qz7_x1_0 := (x_x1.from_ hb_z7).cell (i := 0) rfl; have qz7_x1_1 := (x_x1.from_ hb_z7).cell (i := 1) rfl; have qz7_x1_2 := (x_x1.from_ hb_z7).cell (i := 2) rfl; have qz7_x1_3 := (x_x1.from_ hb_z7).cell (i := 3) rfl; have qz7_x1_4 := (x_x1.from_ hb_z7).cell (i := 4) rfl; have qz7_aB_0 := (x_aB.from_ hb_z7).cell (i := 0) rfl; have qz7_aB_1 := (x_aB.from_ hb_z7).cell (i := 1) rfl; have qz7_aB_2 := (x_aB.from_ hb_z7).cell (i := 2) rfl; have qz7_aB_3 := (x_aB.from_ hb_z7).cell (i := 3) rfl; have qz7_aB_4 := (x_aB.from_ hb_z7).cell (i := 4) rfl; replace o_t6 := o_t6.below hd_z7)
           | fail)
  clear c_aA_0_w_z5 f_aA_0_w_z5 c_aA_1_w_z5 f_aA_1_w_z5 c_aA_2_w_z5 f_aA_2_w_z5 c_aA_3_w_z5 f_aA_3_w_z5 c_aA_4_w_z5 f_aA_4_w_z5 c_aB_0_w_z5 f_aB_0_w_z5 c_aB_1_w_z5 f_aB_1_w_z5 c_aB_2_w_z5 f_aB_2_w_z5 c_aB_3_w_z5 f_aB_3_w_z5 c_aB_4_w_z5 f_aB_4_w_z5 c_x0_0_w_z5 f_x0_0_w_z5 c_x0_1_w_z5 f_x0_1_w_z5 c_x0_2_w_z5 f_x0_2_w_z5 c_x0_3_w_z5 f_x0_3_w_z5 c_x0_4_w_z5 f_x0_4_w_z5 c_x1_0_w_z5 f_x1_0_w_z5 c_x1_1_w_z5 f_x1_1_w_z5 c_x1_2_w_z5 f_x1_2_w_z5 c_x1_3_w_z5 f_x1_3_w_z5 c_x1_4_w_z5 f_x1_4_w_z5
  have dz_w_z5 : w_z5.drew.heap.size = w_z5.heap.size := rfl
  replace x_aA := x_aA.from_ hb_z7
  replace x_aB := x_aB.from_ hb_z7
  replace x_x0 := x_x0.from_ hb_z7
  replace x_x1 := x_x1.from_ hb_z7
  replace o_t1 := o_t1.below hb_z7
  replace o_t2 := o_t2.below hb_z7
  replace o_t3 := o_t3.below hb_z7
  replace o_t4 := o_t4.below hb_z7
  have B_z7 := B_z5.trans (hb_z7.mono B_z5.size)
  have sz_z7 := hb_z7.size
  have c_aA_0_w_z7 := x_aA.cell (i := 0) rfl
  have f_aA_0_w_z7 := x_aA.frozen 0
  have c_aA_1_w_z7 := x_aA.cell (i := 1) rfl
  have f_aA_1_w_z7 := x_aA.frozen 1
  have c_aA_2_w_z7 := x_aA.cell (i := 2) rfl
  have f_aA_2_w_z7 := x_aA.frozen 2
  have c_aA_3_w_z7 := x_aA.cell (i := 3) rfl
  have f_aA_3_w_z7 := x_aA.frozen 3
  have c_aA_4_w_z7 := x_aA.cell (i := 4) rfl
  have f_aA_4_w_z7 := x_aA.frozen 4
  have c_aB_0_w_z7 := x_aB.cell (i := 0) rfl
  have f_aB_0_w_z7 := x_aB.frozen 0
  have c_aB_1_w_z7 := x_aB.cell (i := 1) rfl
  have f_aB_1_w_z7 := x_aB.frozen 1
  have c_aB_2_w_z7 := x_aB.cell (i := 2) rfl
  have f_aB_2_w_z7 := x_aB.frozen 2
  have c_aB_3_w_z7 := x_aB.cell (i := 3) rfl
  have f_aB_3_w_z7 := x_aB.frozen 3
  have c_aB_4_w_z7 := x_aB.cell (i := 4) rfl
  have f_aB_4_w_z7 := x_aB.frozen 4
  have c_x0_0_w_z7 := x_x0.cell (i := 0) rfl
  have f_x0_0_w_z7 := x_x0.frozen 0
  have c_x0_1_w_z7 := x_x0.cell (i := 1) rfl
  have f_x0_1_w_z7 := x_x0.frozen 1
  have c_x0_2_w_z7 := x_x0.cell (i := 2) rfl
  have f_x0_2_w_z7 := x_x0.frozen 2
  have c_x0_3_w_z7 := x_x0.cell (i := 3) rfl
  have f_x0_3_w_z7 := x_x0.frozen 3
  have c_x0_4_w_z7 := x_x0.cell (i := 4) rfl
  have f_x0_4_w_z7 := x_x0.frozen 4
  have c_x1_0_w_z7 := x_x1.cell (i := 0) rfl
  have f_x1_0_w_z7 := x_x1.frozen 0
  have c_x1_1_w_z7 := x_x1.cell (i := 1) rfl
  have f_x1_1_w_z7 := x_x1.frozen 1
  have c_x1_2_w_z7 := x_x1.cell (i := 2) rfl
  have f_x1_2_w_z7 := x_x1.frozen 2
  have c_x1_3_w_z7 := x_x1.cell (i := 3) rfl
  have f_x1_3_w_z7 := x_x1.frozen 3
  have c_x1_4_w_z7 := x_x1.cell (i := 4) rfl
  have f_x1_4_w_z7 := x_x1.frozen 4
  go_wp2
  go_ret
  exact ⟨rfl, B_z7⟩

end Go.Proofs.Ytopmojfcdmcmbaa
