/- The walk of the law FnExactMeet, laid by a program of ours (lawgen2.py) out of the law's text. -/
import Derived.Test.YtmbipgnecjlicaaRtI
import Derived.Test.YtmbipgnecjlicaaOutC
namespace Go.Proofs.Ytmbipgnecjlicaa
open Go.RowKit
set_option linter.unusedVariables false

set_option maxRecDepth 100000 in
set_option maxHeartbeats 8000000 in
theorem wMeet (v_aA : Value) (r : MRights) (v_aB : Value) (q : MRights) (w : World) (r_aA : RV rightsL w v_aA r) (r_aB : RV rightsL w v_aB q) :
    Calls Try.prog 13 #[v_aA, v_aB] w fun e w' => e = .returned (.bool true) ∧ Below w.heap.size w w' := by
  have h_aA := r_aA
  obtain ⟨AGive_aA, cGive_aA, ASpent_aA, cSpent_aA, rfl, -, -⟩ := rv_rights h_aA
  clear h_aA
  have h_aB := r_aB
  obtain ⟨AGive_aB, cGive_aB, ASpent_aB, cSpent_aB, rfl, -, -⟩ := rv_rights h_aB
  clear h_aB
  obtain ⟨wa, hwa, B0, sa, x_aA, x_aB⟩ := frame2 w 38 [.slice AGive_aA r.Give.length cGive_aA, .slice ASpent_aA r.Spent.length cSpent_aA] 38 [.slice AGive_aB q.Give.length cGive_aB, .slice ASpent_aB q.Spent.length cSpent_aB]
  have sa_1 := Nat.le_of_eq sa
  have sa_2 := Nat.le_of_eq sa.symm
  clear sa
  have c_aA_0_wa := x_aA.cell (i := 0) rfl
  have c_aA_1_wa := x_aA.cell (i := 1) rfl
  have c_aB_0_wa := x_aB.cell (i := 0) rfl
  have c_aB_1_wa := x_aB.cell (i := 1) rfl
  by_cases hbig_aA : r.bulk ≤ 1048576
  case neg =>
    go_enter Try.func13, Try.ntmps13
    go_wp2_with fail
    refine (szRights_c (r_aA.from_ B0) (by omega) (by omega)).mono ?_
    rintro e w1 ⟨rfl, h_w1⟩
    clear c_aA_0_wa c_aA_1_wa c_aB_0_wa c_aB_1_wa
    replace x_aA := x_aA.from_ h_w1
    replace x_aB := x_aB.from_ h_w1
    have B_w1 := B0.trans (h_w1.mono B0.size)
    have s_w1 := h_w1.size
    rw [show szV (1048576) (r.bulk : Int) = -1 from if_neg (by omega)]
    have c_aA_0_w1 := x_aA.cell (i := 0) rfl
    have c_aA_1_w1 := x_aA.cell (i := 1) rfl
    have c_aB_0_w1 := x_aB.cell (i := 0) rfl
    have c_aB_1_w1 := x_aB.cell (i := 1) rfl
    go_wp2
    go_ret
    exact ⟨rfl, B_w1⟩
  by_cases hbig_aB : r.bulk + q.bulk ≤ 1048576
  case neg =>
    go_enter Try.func13, Try.ntmps13
    go_wp2_with fail
    refine (szRights_c (r_aA.from_ B0) (by omega) (by omega)).mono ?_
    rintro e w1 ⟨rfl, h_w1⟩
    clear c_aA_0_wa c_aA_1_wa c_aB_0_wa c_aB_1_wa
    replace x_aA := x_aA.from_ h_w1
    replace x_aB := x_aB.from_ h_w1
    have B_w1 := B0.trans (h_w1.mono B0.size)
    have s_w1 := h_w1.size
    rw [show szV (1048576) (r.bulk : Int) = 1048576 - (r.bulk : Int) from if_pos (by omega)]
    have gz0 : decide (1048576 - (r.bulk : Int) < 0) = false := decide_eq_false (by omega)
    have c_aA_0_w1 := x_aA.cell (i := 0) rfl
    have c_aA_1_w1 := x_aA.cell (i := 1) rfl
    have c_aB_0_w1 := x_aB.cell (i := 0) rfl
    have c_aB_1_w1 := x_aB.cell (i := 1) rfl
    go_wp2_with fail
    refine (szRights_c (r_aB.from_ B_w1) (by omega) (by omega)).mono ?_
    rintro e w2 ⟨rfl, h_w2⟩
    clear c_aA_0_w1 c_aA_1_w1 c_aB_0_w1 c_aB_1_w1
    replace x_aA := x_aA.from_ h_w2
    replace x_aB := x_aB.from_ h_w2
    have B_w2 := B_w1.trans (h_w2.mono B_w1.size)
    have s_w2 := h_w2.size
    rw [show szV (1048576 - (r.bulk : Int)) (q.bulk : Int) = -1 from if_neg (by omega)]
    have c_aA_0_w2 := x_aA.cell (i := 0) rfl
    have c_aA_1_w2 := x_aA.cell (i := 1) rfl
    have c_aB_0_w2 := x_aB.cell (i := 0) rfl
    have c_aB_1_w2 := x_aB.cell (i := 1) rfl
    go_wp2
    go_ret
    exact ⟨rfl, B_w2⟩
  have hz_aA := MRights.steps_le r
  have hz_aB := MRights.steps_le q
  obtain ⟨R0, hR0⟩ : ∃ R, meetM r q = R := ⟨_, rfl⟩
  have hl0 : R0.bulk ≤ 16777216 := by rw [← hR0]; exact Nat.le_trans (meetM_bulk r q) (by omega)
  have hz0 := MRights.steps_le R0
  have HR0 := Lib.hid hR0
  clear hR0
  obtain ⟨R1, hR1⟩ : ∃ R, meetB r q = R := ⟨_, rfl⟩
  have HR1 := Lib.hid hR1
  clear hR1
  go_enter Try.func13, Try.ntmps13
  go_wp2_with fail
  refine (szRights_c (r_aA.from_ B0) (by omega) (by omega)).mono ?_
  rintro e w1 ⟨rfl, h_w1⟩
  clear c_aA_0_wa c_aA_1_wa c_aB_0_wa c_aB_1_wa
  replace x_aA := x_aA.from_ h_w1
  replace x_aB := x_aB.from_ h_w1
  have B_w1 := B0.trans (h_w1.mono B0.size)
  have s_w1 := h_w1.size
  rw [show szV (1048576) (r.bulk : Int) = 1048576 - (r.bulk : Int) from if_pos (by omega)]
  have gz0 : decide (1048576 - (r.bulk : Int) < 0) = false := decide_eq_false (by omega)
  have c_aA_0_w1 := x_aA.cell (i := 0) rfl
  have c_aA_1_w1 := x_aA.cell (i := 1) rfl
  have c_aB_0_w1 := x_aB.cell (i := 0) rfl
  have c_aB_1_w1 := x_aB.cell (i := 1) rfl
  go_wp2_with fail
  refine (szRights_c (r_aB.from_ B_w1) (by omega) (by omega)).mono ?_
  rintro e w2 ⟨rfl, h_w2⟩
  clear c_aA_0_w1 c_aA_1_w1 c_aB_0_w1 c_aB_1_w1
  replace x_aA := x_aA.from_ h_w2
  replace x_aB := x_aB.from_ h_w2
  have B_w2 := B_w1.trans (h_w2.mono B_w1.size)
  have s_w2 := h_w2.size
  rw [show szV (1048576 - (r.bulk : Int)) (q.bulk : Int) = 1048576 - (r.bulk : Int) - (q.bulk : Int) from if_pos (by omega)]
  have gz1 : decide (1048576 - (r.bulk : Int) - (q.bulk : Int) < 0) = false := decide_eq_false (by omega)
  have c_aA_0_w2 := x_aA.cell (i := 0) rfl
  have c_aA_1_w2 := x_aA.cell (i := 1) rfl
  have c_aB_0_w2 := x_aB.cell (i := 0) rfl
  have c_aB_1_w2 := x_aB.cell (i := 1) rfl
  go_upto_region 8 with fail
  go_cut [6, 7] (fun s0 s1 wx => OutCall rightsL 27 w2 R0 s0 wx ∧ s1 = .bool R1)
  case first =>
    go_region_held3 (fun w' => w'.cell? ⟨w.heap.size, 0, none⟩ = some (.slice AGive_aA r.Give.length cGive_aA) ∧ w'.cell? ⟨w.heap.size, 1, none⟩ = some (.slice ASpent_aA r.Spent.length cSpent_aA) ∧ w'.cell? ⟨w.heap.size + 1, 0, none⟩ = some (.slice AGive_aB q.Give.length cGive_aB) ∧ w'.cell? ⟨w.heap.size + 1, 1, none⟩ = some (.slice ASpent_aB q.Spent.length cSpent_aB))
      (first | exact ⟨c_aA_0_w2, c_aA_1_w2, c_aB_0_w2, c_aB_1_w2⟩ | exact ⟨(x_aA.alloc _).cell (i := 0) rfl, (x_aA.alloc _).cell (i := 1) rfl, (x_aB.alloc _).cell (i := 0) rfl, (x_aB.alloc _).cell (i := 1) rfl⟩ | exact ⟨qz1_aA.cell (i := 0) rfl, qz1_aA.cell (i := 1) rfl, qz1_aB.cell (i := 0) rfl, qz1_aB.cell (i := 1) rfl⟩ | exact ⟨(qz1_aA.alloc _).cell (i := 0) rfl, (qz1_aA.alloc _).cell (i := 1) rfl, (qz1_aB.alloc _).cell (i := 0) rfl, (qz1_aB.alloc _).cell (i := 1) rfl⟩ | exact ⟨qz2_aA.cell (i := 0) rfl, qz2_aA.cell (i := 1) rfl, qz2_aB.cell (i := 0) rfl, qz2_aB.cell (i := 1) rfl⟩ | exact ⟨(qz2_aA.alloc _).cell (i := 0) rfl, (qz2_aA.alloc _).cell (i := 1) rfl, (qz2_aB.alloc _).cell (i := 0) rfl, (qz2_aB.alloc _).cell (i := 1) rfl⟩ | exact ⟨qz3_aA.cell (i := 0) rfl, qz3_aA.cell (i := 1) rfl, qz3_aB.cell (i := 0) rfl, qz3_aB.cell (i := 1) rfl⟩ | exact ⟨(qz3_aA.alloc _).cell (i := 0) rfl, (qz3_aA.alloc _).cell (i := 1) rfl, (qz3_aB.alloc _).cell (i := 0) rfl, (qz3_aB.alloc _).cell (i := 1) rfl⟩ | exact ⟨((qz3_aA.set_ne (by omega) _ _).set_ne (by omega) _ _).cell (i := 0) rfl, ((qz3_aA.set_ne (by omega) _ _).set_ne (by omega) _ _).cell (i := 1) rfl, ((qz3_aB.set_ne (by omega) _ _).set_ne (by omega) _ _).cell (i := 0) rfl, ((qz3_aB.set_ne (by omega) _ _).set_ne (by omega) _ _).cell (i := 1) rfl⟩ | go_keep)
      (first | ((go_at_call_of 28 (Value.agg #[.slice AGive_aA r.Give.length cGive_aA, .slice ASpent_aA r.Spent.length cSpent_aA])); (refine (toRights_c (r_aA.from_ (by first | exact (B_w2.drew) | exact ((B_w2.drew)).alloc ((B_w2.drew)).size _)) (by omega)).mono ?_); rintro e w_z1 ⟨v_t1, rfl, o_t1, hd_z1⟩; have hk_z1 : Below w2.drew.heap.size w2.drew w_z1 := (by first | exact hd_z1 | exact below_of_alloc hd_z1); (try (have x_w0 : Vr w_z1 w2.heap.size 27 [.slice none 0 0, .slice none 0 0] := Vr.from_ (Vr.new (w2.drew) 27 [.slice none 0 0, .slice none 0 0]) hd_z1)); have se_z1 := hd_z1.size; (try rw [sz_drew] at o_t1); (try rw [sz_alloc] at o_t1); (try rw [sz_drew] at o_t1); (try rw [sz_drew] at se_z1); (try rw [sz_alloc] at se_z1); (try rw [sz_drew] at se_z1); have hb_z1 : Below w2.heap.size w2 w_z1 := (Below.refl w2.heap.size w2).drew.trans hk_z1; have sd_z1 : w2.heap.size ≤ w_z1.heap.size := hk_z1.size; have qz1_aA := x_aA.from_ hb_z1; have qz1_aB := x_aB.from_ hb_z1; (try (have := x_w0.cell (i := 0) rfl)); (try (have := x_w0.frozen 0)); (try (have := x_w0.cell (i := 1) rfl)); (try (have := x_w0.frozen 1)); obtain ⟨AGive_t1, cGive_t1, ASpent_t1, cSpent_t1, rfl, -, -⟩ := rv_rights o_t1.rd)
             | ((go_at_call_of 28 (Value.agg #[.slice AGive_aB q.Give.length cGive_aB, .slice ASpent_aB q.Spent.length cSpent_aB])); (refine (toRights_c (r_aB.from_ (by first | exact (B_w2.trans (hb_z1.mono B_w2.size)) | exact ((B_w2.trans (hb_z1.mono B_w2.size))).alloc ((B_w2.trans (hb_z1.mono B_w2.size))).size _)) (by omega)).mono ?_); rintro e w_z2 ⟨v_t2, rfl, o_t2, hd_z2⟩; have hk_z2 : Below w_z1.heap.size w_z1 w_z2 := (by first | exact hd_z2 | exact below_of_alloc hd_z2); (try (have x_w0 : Vr w_z2 w_z1.heap.size 27 [.slice none 0 0, .slice none 0 0] := Vr.from_ (Vr.new (w_z1) 27 [.slice none 0 0, .slice none 0 0]) hd_z2)); (try (replace x_w0 := x_w0.from_ hk_z2)); replace o_t1 := o_t1.below hk_z2; have se_z2 := hd_z2.size; (try rw [sz_alloc] at o_t2); (try rw [sz_alloc] at se_z2); have hb_z2 : Below w2.heap.size w2 w_z2 := hb_z1.trans (hk_z2.mono hb_z1.size); have sd_z2 : w_z1.heap.size ≤ w_z2.heap.size := hk_z2.size; have qz2_aA := x_aA.from_ hb_z2; have qz2_aB := x_aB.from_ hb_z2; (try (have := x_w0.cell (i := 0) rfl)); (try (have := x_w0.frozen 0)); (try (have := x_w0.cell (i := 1) rfl)); (try (have := x_w0.frozen 1)); obtain ⟨AGive_t2, cGive_t2, ASpent_t2, cSpent_t2, rfl, -, -⟩ := rv_rights o_t2.rd)
             | ((go_at_call 40); (refine (sMeet_c (by first | exact o_t1.rd | exact (o_t1.below ((Below.refl _ _).alloc (Nat.le_refl _) _)).rd | exact (o_t1.below ((Below.refl _ _).drew)).rd | exact (o_t1.below (((Below.refl _ _).drew).alloc (Nat.le_refl _) _)).rd) (by first | exact o_t2.rd | exact (o_t2.below ((Below.refl _ _).alloc (Nat.le_refl _) _)).rd | exact (o_t2.below ((Below.refl _ _).drew)).rd | exact (o_t2.below (((Below.refl _ _).drew).alloc (Nat.le_refl _) _)).rd) (by omega)).mono ?_); rintro e w_z3 ⟨v_w0, rfl, o_w0, hd_z3⟩; have hk_z3 : Below w_z2.heap.size w_z2 w_z3 := (by first | exact hd_z3 | exact below_of_alloc hd_z3); (try (have x_w0 : Vr w_z3 w_z2.heap.size 27 [.slice none 0 0, .slice none 0 0] := Vr.from_ (Vr.new (w_z2) 27 [.slice none 0 0, .slice none 0 0]) hd_z3)); (try (replace x_w0 := x_w0.from_ hk_z3)); replace o_t1 := o_t1.below hk_z3; replace o_t2 := o_t2.below hk_z3; have se_z3 := hd_z3.size; (try rw [sz_alloc] at o_w0); (try rw [sz_alloc] at se_z3); have hb_z3 : Below w2.heap.size w2 w_z3 := hb_z2.trans (hk_z3.mono hb_z2.size); have sd_z3 : w_z2.heap.size ≤ w_z3.heap.size := hk_z3.size; have qz3_aA := x_aA.from_ hb_z3; have qz3_aB := x_aB.from_ hb_z3; (try (have := x_w0.cell (i := 0) rfl)); (try (have := x_w0.frozen 0)); (try (have := x_w0.cell (i := 1) rfl)); (try (have := x_w0.frozen 1)); rw [HR0.out] at o_w0; rw [HR1.out]; obtain ⟨AGive_w0, cGive_w0, ASpent_w0, cSpent_w0, rfl, -, -⟩ := rv_rights o_w0.rd)
             | fail)
    all_goals have dz : w2.drew.heap.size = w2.heap.size := rfl
    all_goals go_wp2_with fail
    all_goals go_meet
    all_goals first
      | (obtain ⟨wz, ez, sz, hz, xz⟩ := alloc_step w_z3 27 [.slice AGive_w0 R0.Give.length cGive_w0, .slice ASpent_w0 R0.Spent.length cSpent_w0]; rw [ez]; have sz1 := hz.size; have hl := hb_z3.size; have hi9 := o_w0.le; replace o_w0 := o_w0.below hz; exact ⟨⟨_, _, _, _, rfl, (by omega), (by omega), (by omega), xz, o_w0, hb_z3.trans (hz.mono hb_z3.size)⟩, rfl⟩)
      | (obtain ⟨wz, ez, sz, hz, xz⟩ := store_step x_w0 [.slice AGive_w0 R0.Give.length cGive_w0, .slice ASpent_w0 R0.Spent.length cSpent_w0] rfl; change OutCall _ _ _ _ _ (setAll w_z3 _ 0 [.slice AGive_w0 R0.Give.length cGive_w0, .slice ASpent_w0 R0.Spent.length cSpent_w0]) ∧ _; rw [ez]; have hl := hb_z3.size; replace o_w0 := o_w0.chg hz (by omega); exact ⟨⟨_, _, _, _, rfl, (by omega), (by omega), (by omega), xz, o_w0, Below.chg_ hb_z3 hz (by omega) (by omega)⟩, rfl⟩)
      | fail
  case rest =>
    clear c_aA_0_w2 c_aA_1_w2 c_aB_0_w2 c_aB_1_w2
    obtain ⟨⟨b_w0, cs, l_w0, u_w0, rfl, g1_w0, g2_w0, g3_w0, x_w0, o_w0, h_wc2⟩, rfl⟩ := hcut
    obtain ⟨wc2, rfl⟩ : ∃ x, x = wc := ⟨_, rfl⟩
    have g4_w0 := o_w0.le
    have g5_w0 := x_w0.lt
    obtain ⟨AGive_w0, cGive_w0, ASpent_w0, cSpent_w0, he, -⟩ := rv_rights o_w0.rd
    obtain rfl : cs = [.slice AGive_w0 R0.Give.length cGive_w0, .slice ASpent_w0 R0.Spent.length cSpent_w0] := congrArg Array.toList (Value.agg.inj he)
    clear he
    replace x_aA := x_aA.from_ h_wc2
    replace x_aB := x_aB.from_ h_wc2
    have B_wc2 := B_w2.trans (h_wc2.mono B_w2.size)
    have s_wc2 := h_wc2.size
    have c_aA_0_wc2 := x_aA.cell (i := 0) rfl
    have f_aA_0_wc2 := x_aA.frozen 0
    have c_aA_1_wc2 := x_aA.cell (i := 1) rfl
    have f_aA_1_wc2 := x_aA.frozen 1
    have c_aB_0_wc2 := x_aB.cell (i := 0) rfl
    have f_aB_0_wc2 := x_aB.frozen 0
    have c_aB_1_wc2 := x_aB.cell (i := 1) rfl
    have f_aB_1_wc2 := x_aB.frozen 1
    have c_w0_0_wc2 := x_w0.cell (i := 0) rfl
    have f_w0_0_wc2 := x_w0.frozen 0
    have c_w0_1_wc2 := x_w0.cell (i := 1) rfl
    have f_w0_1_wc2 := x_w0.frozen 1
    go_wp2_with fail
    refine (toRights_c (r_aA.from_ B_wc2) (by omega)).mono ?_
    rintro e w4 ⟨v_t3, rfl, o_t3, h_w4⟩
    clear c_aA_0_wc2 f_aA_0_wc2 c_aA_1_wc2 f_aA_1_wc2 c_aB_0_wc2 f_aB_0_wc2 c_aB_1_wc2 f_aB_1_wc2 c_w0_0_wc2 f_w0_0_wc2 c_w0_1_wc2 f_w0_1_wc2
    replace x_aA := x_aA.from_ h_w4
    replace x_aB := x_aB.from_ h_w4
    replace x_w0 := x_w0.from_ h_w4
    replace o_w0 := o_w0.below h_w4
    have B_w4 := B_wc2.trans (h_w4.mono B_wc2.size)
    have s_w4 := h_w4.size
    obtain ⟨AGive_t3, cGive_t3, ASpent_t3, cSpent_t3, rfl, -, -⟩ := rv_rights o_t3.rd
    have c_aA_0_w4 := x_aA.cell (i := 0) rfl
    have f_aA_0_w4 := x_aA.frozen 0
    have c_aA_1_w4 := x_aA.cell (i := 1) rfl
    have f_aA_1_w4 := x_aA.frozen 1
    have c_aB_0_w4 := x_aB.cell (i := 0) rfl
    have f_aB_0_w4 := x_aB.frozen 0
    have c_aB_1_w4 := x_aB.cell (i := 1) rfl
    have f_aB_1_w4 := x_aB.frozen 1
    have c_w0_0_w4 := x_w0.cell (i := 0) rfl
    have f_w0_0_w4 := x_w0.frozen 0
    have c_w0_1_w4 := x_w0.cell (i := 1) rfl
    have f_w0_1_w4 := x_w0.frozen 1
    obtain ⟨w5, e_w5, s_w5, h_w5, x_x0⟩ := alloc_step w4 27 [.slice AGive_t3 r.Give.length cGive_t3, .slice ASpent_t3 r.Spent.length cSpent_t3]
    have s_w5_1 := Nat.le_of_eq s_w5
    have s_w5_2 := Nat.le_of_eq s_w5.symm
    clear s_w5
    replace x_aA := x_aA.from_ h_w5
    replace x_aB := x_aB.from_ h_w5
    replace x_w0 := x_w0.from_ h_w5
    replace o_w0 := o_w0.below h_w5
    replace o_t3 := o_t3.below h_w5
    have B_w5 := B_w4.trans (h_w5.mono B_w4.size)
    have c_aA_0_w5 := x_aA.cell (i := 0) rfl
    have f_aA_0_w5 := x_aA.frozen 0
    have c_aA_1_w5 := x_aA.cell (i := 1) rfl
    have f_aA_1_w5 := x_aA.frozen 1
    have c_aB_0_w5 := x_aB.cell (i := 0) rfl
    have f_aB_0_w5 := x_aB.frozen 0
    have c_aB_1_w5 := x_aB.cell (i := 1) rfl
    have f_aB_1_w5 := x_aB.frozen 1
    have c_w0_0_w5 := x_w0.cell (i := 0) rfl
    have f_w0_0_w5 := x_w0.frozen 0
    have c_w0_1_w5 := x_w0.cell (i := 1) rfl
    have f_w0_1_w5 := x_w0.frozen 1
    have c_x0_0_w5 := x_x0.cell (i := 0) rfl
    have f_x0_0_w5 := x_x0.frozen 0
    have c_x0_1_w5 := x_x0.cell (i := 1) rfl
    have f_x0_1_w5 := x_x0.frozen 1
    go_wp2_with fail
    refine (toRights_c (r_aB.from_ B_w5) (by omega)).mono ?_
    rintro e w6 ⟨v_t4, rfl, o_t4, h_w6⟩
    clear c_aA_0_w4 f_aA_0_w4 c_aA_1_w4 f_aA_1_w4 c_aB_0_w4 f_aB_0_w4 c_aB_1_w4 f_aB_1_w4 c_w0_0_w4 f_w0_0_w4 c_w0_1_w4 f_w0_1_w4 c_aA_0_w5 f_aA_0_w5 c_aA_1_w5 f_aA_1_w5 c_aB_0_w5 f_aB_0_w5 c_aB_1_w5 f_aB_1_w5 c_w0_0_w5 f_w0_0_w5 c_w0_1_w5 f_w0_1_w5 c_x0_0_w5 f_x0_0_w5 c_x0_1_w5 f_x0_1_w5
    replace x_aA := x_aA.from_ h_w6
    replace x_aB := x_aB.from_ h_w6
    replace x_w0 := x_w0.from_ h_w6
    replace x_x0 := x_x0.from_ h_w6
    replace o_w0 := o_w0.below h_w6
    replace o_t3 := o_t3.below h_w6
    have B_w6 := B_w5.trans (h_w6.mono B_w5.size)
    have s_w6 := h_w6.size
    obtain ⟨AGive_t4, cGive_t4, ASpent_t4, cSpent_t4, rfl, -, -⟩ := rv_rights o_t4.rd
    have c_aA_0_w6 := x_aA.cell (i := 0) rfl
    have f_aA_0_w6 := x_aA.frozen 0
    have c_aA_1_w6 := x_aA.cell (i := 1) rfl
    have f_aA_1_w6 := x_aA.frozen 1
    have c_aB_0_w6 := x_aB.cell (i := 0) rfl
    have f_aB_0_w6 := x_aB.frozen 0
    have c_aB_1_w6 := x_aB.cell (i := 1) rfl
    have f_aB_1_w6 := x_aB.frozen 1
    have c_w0_0_w6 := x_w0.cell (i := 0) rfl
    have f_w0_0_w6 := x_w0.frozen 0
    have c_w0_1_w6 := x_w0.cell (i := 1) rfl
    have f_w0_1_w6 := x_w0.frozen 1
    have c_x0_0_w6 := x_x0.cell (i := 0) rfl
    have f_x0_0_w6 := x_x0.frozen 0
    have c_x0_1_w6 := x_x0.cell (i := 1) rfl
    have f_x0_1_w6 := x_x0.frozen 1
    obtain ⟨w7, e_w7, s_w7, h_w7, x_x1⟩ := alloc_step w6 27 [.slice AGive_t4 q.Give.length cGive_t4, .slice ASpent_t4 q.Spent.length cSpent_t4]
    have s_w7_1 := Nat.le_of_eq s_w7
    have s_w7_2 := Nat.le_of_eq s_w7.symm
    clear s_w7
    replace x_aA := x_aA.from_ h_w7
    replace x_aB := x_aB.from_ h_w7
    replace x_w0 := x_w0.from_ h_w7
    replace x_x0 := x_x0.from_ h_w7
    replace o_w0 := o_w0.below h_w7
    replace o_t3 := o_t3.below h_w7
    replace o_t4 := o_t4.below h_w7
    have B_w7 := B_w6.trans (h_w7.mono B_w6.size)
    have c_aA_0_w7 := x_aA.cell (i := 0) rfl
    have f_aA_0_w7 := x_aA.frozen 0
    have c_aA_1_w7 := x_aA.cell (i := 1) rfl
    have f_aA_1_w7 := x_aA.frozen 1
    have c_aB_0_w7 := x_aB.cell (i := 0) rfl
    have f_aB_0_w7 := x_aB.frozen 0
    have c_aB_1_w7 := x_aB.cell (i := 1) rfl
    have f_aB_1_w7 := x_aB.frozen 1
    have c_w0_0_w7 := x_w0.cell (i := 0) rfl
    have f_w0_0_w7 := x_w0.frozen 0
    have c_w0_1_w7 := x_w0.cell (i := 1) rfl
    have f_w0_1_w7 := x_w0.frozen 1
    have c_x0_0_w7 := x_x0.cell (i := 0) rfl
    have f_x0_0_w7 := x_x0.frozen 0
    have c_x0_1_w7 := x_x0.cell (i := 1) rfl
    have f_x0_1_w7 := x_x0.frozen 1
    have c_x1_0_w7 := x_x1.cell (i := 0) rfl
    have f_x1_0_w7 := x_x1.frozen 0
    have c_x1_1_w7 := x_x1.cell (i := 1) rfl
    have f_x1_1_w7 := x_x1.frozen 1
    go_wp2_with fail
    refine (iMeet_c o_t3.rd o_t4.rd (by omega) (by omega)).mono ?_
    rintro e w8 ⟨v_g0, rfl, o_g0, h_w8⟩
    clear c_aA_0_w6 f_aA_0_w6 c_aA_1_w6 f_aA_1_w6 c_aB_0_w6 f_aB_0_w6 c_aB_1_w6 f_aB_1_w6 c_w0_0_w6 f_w0_0_w6 c_w0_1_w6 f_w0_1_w6 c_x0_0_w6 f_x0_0_w6 c_x0_1_w6 f_x0_1_w6 c_aA_0_w7 f_aA_0_w7 c_aA_1_w7 f_aA_1_w7 c_aB_0_w7 f_aB_0_w7 c_aB_1_w7 f_aB_1_w7 c_w0_0_w7 f_w0_0_w7 c_w0_1_w7 f_w0_1_w7 c_x0_0_w7 f_x0_0_w7 c_x0_1_w7 f_x0_1_w7 c_x1_0_w7 f_x1_0_w7 c_x1_1_w7 f_x1_1_w7
    replace x_aA := x_aA.from_ h_w8
    replace x_aB := x_aB.from_ h_w8
    replace x_w0 := x_w0.from_ h_w8
    replace x_x0 := x_x0.from_ h_w8
    replace x_x1 := x_x1.from_ h_w8
    replace o_w0 := o_w0.below h_w8
    replace o_t3 := o_t3.below h_w8
    replace o_t4 := o_t4.below h_w8
    have B_w8 := B_w7.trans (h_w8.mono B_w7.size)
    have s_w8 := h_w8.size
    rw [HR0.out] at o_g0
    rw [HR1.out]
    obtain ⟨AGive_g0, cGive_g0, ASpent_g0, cSpent_g0, rfl, -, -⟩ := rv_rights o_g0.rd
    have c_aA_0_w8 := x_aA.cell (i := 0) rfl
    have f_aA_0_w8 := x_aA.frozen 0
    have c_aA_1_w8 := x_aA.cell (i := 1) rfl
    have f_aA_1_w8 := x_aA.frozen 1
    have c_aB_0_w8 := x_aB.cell (i := 0) rfl
    have f_aB_0_w8 := x_aB.frozen 0
    have c_aB_1_w8 := x_aB.cell (i := 1) rfl
    have f_aB_1_w8 := x_aB.frozen 1
    have c_w0_0_w8 := x_w0.cell (i := 0) rfl
    have f_w0_0_w8 := x_w0.frozen 0
    have c_w0_1_w8 := x_w0.cell (i := 1) rfl
    have f_w0_1_w8 := x_w0.frozen 1
    have c_x0_0_w8 := x_x0.cell (i := 0) rfl
    have f_x0_0_w8 := x_x0.frozen 0
    have c_x0_1_w8 := x_x0.cell (i := 1) rfl
    have f_x0_1_w8 := x_x0.frozen 1
    have c_x1_0_w8 := x_x1.cell (i := 0) rfl
    have f_x1_0_w8 := x_x1.frozen 0
    have c_x1_1_w8 := x_x1.cell (i := 1) rfl
    have f_x1_1_w8 := x_x1.frozen 1
    obtain ⟨w9, e_w9, s_w9, h_w9, x_g0⟩ := alloc_step w8 27 [.slice AGive_g0 R0.Give.length cGive_g0, .slice ASpent_g0 R0.Spent.length cSpent_g0]
    have s_w9_1 := Nat.le_of_eq s_w9
    have s_w9_2 := Nat.le_of_eq s_w9.symm
    clear s_w9
    replace x_aA := x_aA.from_ h_w9
    replace x_aB := x_aB.from_ h_w9
    replace x_w0 := x_w0.from_ h_w9
    replace x_x0 := x_x0.from_ h_w9
    replace x_x1 := x_x1.from_ h_w9
    replace o_w0 := o_w0.below h_w9
    replace o_t3 := o_t3.below h_w9
    replace o_t4 := o_t4.below h_w9
    replace o_g0 := o_g0.below h_w9
    have B_w9 := B_w8.trans (h_w9.mono B_w8.size)
    have c_aA_0_w9 := x_aA.cell (i := 0) rfl
    have f_aA_0_w9 := x_aA.frozen 0
    have c_aA_1_w9 := x_aA.cell (i := 1) rfl
    have f_aA_1_w9 := x_aA.frozen 1
    have c_aB_0_w9 := x_aB.cell (i := 0) rfl
    have f_aB_0_w9 := x_aB.frozen 0
    have c_aB_1_w9 := x_aB.cell (i := 1) rfl
    have f_aB_1_w9 := x_aB.frozen 1
    have c_w0_0_w9 := x_w0.cell (i := 0) rfl
    have f_w0_0_w9 := x_w0.frozen 0
    have c_w0_1_w9 := x_w0.cell (i := 1) rfl
    have f_w0_1_w9 := x_w0.frozen 1
    have c_x0_0_w9 := x_x0.cell (i := 0) rfl
    have f_x0_0_w9 := x_x0.frozen 0
    have c_x0_1_w9 := x_x0.cell (i := 1) rfl
    have f_x0_1_w9 := x_x0.frozen 1
    have c_x1_0_w9 := x_x1.cell (i := 0) rfl
    have f_x1_0_w9 := x_x1.frozen 0
    have c_x1_1_w9 := x_x1.cell (i := 1) rfl
    have f_x1_1_w9 := x_x1.frozen 1
    have c_g0_0_w9 := x_g0.cell (i := 0) rfl
    have f_g0_0_w9 := x_g0.frozen 0
    have c_g0_1_w9 := x_g0.cell (i := 1) rfl
    have f_g0_1_w9 := x_g0.frozen 1
    go_wp2_with fail
    refine (eqRights_same o_g0.rd o_w0.rd (by omega)).mono ?_
    rintro e w10 ⟨rfl, h_w10⟩
    clear c_aA_0_w8 f_aA_0_w8 c_aA_1_w8 f_aA_1_w8 c_aB_0_w8 f_aB_0_w8 c_aB_1_w8 f_aB_1_w8 c_w0_0_w8 f_w0_0_w8 c_w0_1_w8 f_w0_1_w8 c_x0_0_w8 f_x0_0_w8 c_x0_1_w8 f_x0_1_w8 c_x1_0_w8 f_x1_0_w8 c_x1_1_w8 f_x1_1_w8 c_aA_0_w9 f_aA_0_w9 c_aA_1_w9 f_aA_1_w9 c_aB_0_w9 f_aB_0_w9 c_aB_1_w9 f_aB_1_w9 c_w0_0_w9 f_w0_0_w9 c_w0_1_w9 f_w0_1_w9 c_x0_0_w9 f_x0_0_w9 c_x0_1_w9 f_x0_1_w9 c_x1_0_w9 f_x1_0_w9 c_x1_1_w9 f_x1_1_w9 c_g0_0_w9 f_g0_0_w9 c_g0_1_w9 f_g0_1_w9
    replace x_aA := x_aA.from_ h_w10
    replace x_aB := x_aB.from_ h_w10
    replace x_w0 := x_w0.from_ h_w10
    replace x_x0 := x_x0.from_ h_w10
    replace x_x1 := x_x1.from_ h_w10
    replace x_g0 := x_g0.from_ h_w10
    replace o_w0 := o_w0.below h_w10
    replace o_t3 := o_t3.below h_w10
    replace o_t4 := o_t4.below h_w10
    replace o_g0 := o_g0.below h_w10
    have B_w10 := B_w9.trans (h_w10.mono B_w9.size)
    have s_w10 := h_w10.size
    have c_aA_0_w10 := x_aA.cell (i := 0) rfl
    have f_aA_0_w10 := x_aA.frozen 0
    have c_aA_1_w10 := x_aA.cell (i := 1) rfl
    have f_aA_1_w10 := x_aA.frozen 1
    have c_aB_0_w10 := x_aB.cell (i := 0) rfl
    have f_aB_0_w10 := x_aB.frozen 0
    have c_aB_1_w10 := x_aB.cell (i := 1) rfl
    have f_aB_1_w10 := x_aB.frozen 1
    have c_w0_0_w10 := x_w0.cell (i := 0) rfl
    have f_w0_0_w10 := x_w0.frozen 0
    have c_w0_1_w10 := x_w0.cell (i := 1) rfl
    have f_w0_1_w10 := x_w0.frozen 1
    have c_x0_0_w10 := x_x0.cell (i := 0) rfl
    have f_x0_0_w10 := x_x0.frozen 0
    have c_x0_1_w10 := x_x0.cell (i := 1) rfl
    have f_x0_1_w10 := x_x0.frozen 1
    have c_x1_0_w10 := x_x1.cell (i := 0) rfl
    have f_x1_0_w10 := x_x1.frozen 0
    have c_x1_1_w10 := x_x1.cell (i := 1) rfl
    have f_x1_1_w10 := x_x1.frozen 1
    have c_g0_0_w10 := x_g0.cell (i := 0) rfl
    have f_g0_0_w10 := x_g0.frozen 0
    have c_g0_1_w10 := x_g0.cell (i := 1) rfl
    have f_g0_1_w10 := x_g0.frozen 1
    go_wp2_with fail
    go_region_held3 (fun w' => w'.cell? ⟨w4.heap.size, 0, none⟩ = some (.slice AGive_t3 r.Give.length cGive_t3) ∧ w'.cell? ⟨w4.heap.size, 1, none⟩ = some (.slice ASpent_t3 r.Spent.length cSpent_t3) ∧ w'.cell? ⟨w.heap.size, 0, none⟩ = some (.slice AGive_aA r.Give.length cGive_aA) ∧ w'.cell? ⟨w.heap.size, 1, none⟩ = some (.slice ASpent_aA r.Spent.length cSpent_aA))
      (first | exact ⟨c_x0_0_w10, c_x0_1_w10, c_aA_0_w10, c_aA_1_w10⟩ | exact ⟨qz4_x0_0, qz4_x0_1, qz4_aA_0, qz4_aA_1⟩ | exact ⟨qz5_x0_0, qz5_x0_1, qz5_aA_0, qz5_aA_1⟩ | go_keep)
      (first | ((go_at_call 28); (refine (toRights_c (r_aA.from_ (B_w10.drew)) (by omega)).mono ?_); rintro e w_z4 ⟨v_t5, rfl, o_t5, hd_z4⟩; have hb_z4 : Below w10.heap.size w10 w_z4 := (Below.refl w10.heap.size w10).drew.trans hd_z4; have sd_z4 := hd_z4.size; replace sd_z4 : w10.heap.size ≤ w_z4.heap.size := sd_z4; have qz4_x0_0 := (x_x0.from_ hb_z4).cell (i := 0) rfl; have qz4_x0_1 := (x_x0.from_ hb_z4).cell (i := 1) rfl; have qz4_aA_0 := (x_aA.from_ hb_z4).cell (i := 0) rfl; have qz4_aA_1 := (x_aA.from_ hb_z4).cell (i := 1) rfl; obtain ⟨AGive_t5, cGive_t5, ASpent_t5, cSpent_t5, rfl, -, -⟩ := rv_rights o_t5.rd)
             | ((go_at_call 29); (refine (eqRights_same (o_t3.below hb_z4).rd o_t5.rd (by omega)).mono ?_); rintro e w_z5 ⟨rfl, hd_z5⟩; have hb_z5 : Below w10.heap.size w10 w_z5 := hb_z4.trans (hd_z5.mono hb_z4.size); have sd_z5 := hd_z5.size; have qz5_x0_0 := (x_x0.from_ hb_z5).cell (i := 0) rfl; have qz5_x0_1 := (x_x0.from_ hb_z5).cell (i := 1) rfl; have qz5_aA_0 := (x_aA.from_ hb_z5).cell (i := 0) rfl; have qz5_aA_1 := (x_aA.from_ hb_z5).cell (i := 1) rfl; replace o_t5 := o_t5.below hd_z5)
             | fail)
    clear c_aA_0_w10 f_aA_0_w10 c_aA_1_w10 f_aA_1_w10 c_aB_0_w10 f_aB_0_w10 c_aB_1_w10 f_aB_1_w10 c_w0_0_w10 f_w0_0_w10 c_w0_1_w10 f_w0_1_w10 c_x0_0_w10 f_x0_0_w10 c_x0_1_w10 f_x0_1_w10 c_x1_0_w10 f_x1_0_w10 c_x1_1_w10 f_x1_1_w10 c_g0_0_w10 f_g0_0_w10 c_g0_1_w10 f_g0_1_w10
    have dz_w10 : w10.drew.heap.size = w10.heap.size := rfl
    replace x_aA := x_aA.from_ hb_z5
    replace x_aB := x_aB.from_ hb_z5
    replace x_w0 := x_w0.from_ hb_z5
    replace x_x0 := x_x0.from_ hb_z5
    replace x_x1 := x_x1.from_ hb_z5
    replace x_g0 := x_g0.from_ hb_z5
    replace o_w0 := o_w0.below hb_z5
    replace o_t3 := o_t3.below hb_z5
    replace o_t4 := o_t4.below hb_z5
    replace o_g0 := o_g0.below hb_z5
    have B_z5 := B_w10.trans (hb_z5.mono B_w10.size)
    have sz_z5 := hb_z5.size
    have c_aA_0_w_z5 := x_aA.cell (i := 0) rfl
    have f_aA_0_w_z5 := x_aA.frozen 0
    have c_aA_1_w_z5 := x_aA.cell (i := 1) rfl
    have f_aA_1_w_z5 := x_aA.frozen 1
    have c_aB_0_w_z5 := x_aB.cell (i := 0) rfl
    have f_aB_0_w_z5 := x_aB.frozen 0
    have c_aB_1_w_z5 := x_aB.cell (i := 1) rfl
    have f_aB_1_w_z5 := x_aB.frozen 1
    have c_w0_0_w_z5 := x_w0.cell (i := 0) rfl
    have f_w0_0_w_z5 := x_w0.frozen 0
    have c_w0_1_w_z5 := x_w0.cell (i := 1) rfl
    have f_w0_1_w_z5 := x_w0.frozen 1
    have c_x0_0_w_z5 := x_x0.cell (i := 0) rfl
    have f_x0_0_w_z5 := x_x0.frozen 0
    have c_x0_1_w_z5 := x_x0.cell (i := 1) rfl
    have f_x0_1_w_z5 := x_x0.frozen 1
    have c_x1_0_w_z5 := x_x1.cell (i := 0) rfl
    have f_x1_0_w_z5 := x_x1.frozen 0
    have c_x1_1_w_z5 := x_x1.cell (i := 1) rfl
    have f_x1_1_w_z5 := x_x1.frozen 1
    have c_g0_0_w_z5 := x_g0.cell (i := 0) rfl
    have f_g0_0_w_z5 := x_g0.frozen 0
    have c_g0_1_w_z5 := x_g0.cell (i := 1) rfl
    have f_g0_1_w_z5 := x_g0.frozen 1
    go_wp2_with fail
    go_region_held3 (fun w' => w'.cell? ⟨w6.heap.size, 0, none⟩ = some (.slice AGive_t4 q.Give.length cGive_t4) ∧ w'.cell? ⟨w6.heap.size, 1, none⟩ = some (.slice ASpent_t4 q.Spent.length cSpent_t4) ∧ w'.cell? ⟨w.heap.size + 1, 0, none⟩ = some (.slice AGive_aB q.Give.length cGive_aB) ∧ w'.cell? ⟨w.heap.size + 1, 1, none⟩ = some (.slice ASpent_aB q.Spent.length cSpent_aB))
      (first | exact ⟨c_x1_0_w_z5, c_x1_1_w_z5, c_aB_0_w_z5, c_aB_1_w_z5⟩ | exact ⟨qz6_x1_0, qz6_x1_1, qz6_aB_0, qz6_aB_1⟩ | exact ⟨qz7_x1_0, qz7_x1_1, qz7_aB_0, qz7_aB_1⟩ | go_keep)
      (first | ((go_at_call 28); (refine (toRights_c (r_aB.from_ (B_z5.drew)) (by omega)).mono ?_); rintro e w_z6 ⟨v_t6, rfl, o_t6, hd_z6⟩; have hb_z6 : Below w_z5.heap.size w_z5 w_z6 := (Below.refl w_z5.heap.size w_z5).drew.trans hd_z6; have sd_z6 := hd_z6.size; replace sd_z6 : w_z5.heap.size ≤ w_z6.heap.size := sd_z6; have qz6_x1_0 := (x_x1.from_ hb_z6).cell (i := 0) rfl; have qz6_x1_1 := (x_x1.from_ hb_z6).cell (i := 1) rfl; have qz6_aB_0 := (x_aB.from_ hb_z6).cell (i := 0) rfl; have qz6_aB_1 := (x_aB.from_ hb_z6).cell (i := 1) rfl; obtain ⟨AGive_t6, cGive_t6, ASpent_t6, cSpent_t6, rfl, -, -⟩ := rv_rights o_t6.rd)
             | ((go_at_call 29); (refine (eqRights_same (o_t4.below hb_z6).rd o_t6.rd (by omega)).mono ?_); rintro e w_z7 ⟨rfl, hd_z7⟩; have hb_z7 : Below w_z5.heap.size w_z5 w_z7 := hb_z6.trans (hd_z7.mono hb_z6.size); have sd_z7 := hd_z7.size; have qz7_x1_0 := (x_x1.from_ hb_z7).cell (i := 0) rfl; have qz7_x1_1 := (x_x1.from_ hb_z7).cell (i := 1) rfl; have qz7_aB_0 := (x_aB.from_ hb_z7).cell (i := 0) rfl; have qz7_aB_1 := (x_aB.from_ hb_z7).cell (i := 1) rfl; replace o_t6 := o_t6.below hd_z7)
             | fail)
    clear c_aA_0_w_z5 f_aA_0_w_z5 c_aA_1_w_z5 f_aA_1_w_z5 c_aB_0_w_z5 f_aB_0_w_z5 c_aB_1_w_z5 f_aB_1_w_z5 c_w0_0_w_z5 f_w0_0_w_z5 c_w0_1_w_z5 f_w0_1_w_z5 c_x0_0_w_z5 f_x0_0_w_z5 c_x0_1_w_z5 f_x0_1_w_z5 c_x1_0_w_z5 f_x1_0_w_z5 c_x1_1_w_z5 f_x1_1_w_z5 c_g0_0_w_z5 f_g0_0_w_z5 c_g0_1_w_z5 f_g0_1_w_z5
    have dz_w_z5 : w_z5.drew.heap.size = w_z5.heap.size := rfl
    replace x_aA := x_aA.from_ hb_z7
    replace x_aB := x_aB.from_ hb_z7
    replace x_w0 := x_w0.from_ hb_z7
    replace x_x0 := x_x0.from_ hb_z7
    replace x_x1 := x_x1.from_ hb_z7
    replace x_g0 := x_g0.from_ hb_z7
    replace o_w0 := o_w0.below hb_z7
    replace o_t3 := o_t3.below hb_z7
    replace o_t4 := o_t4.below hb_z7
    replace o_g0 := o_g0.below hb_z7
    have B_z7 := B_z5.trans (hb_z7.mono B_z5.size)
    have sz_z7 := hb_z7.size
    have c_aA_0_w_z7 := x_aA.cell (i := 0) rfl
    have f_aA_0_w_z7 := x_aA.frozen 0
    have c_aA_1_w_z7 := x_aA.cell (i := 1) rfl
    have f_aA_1_w_z7 := x_aA.frozen 1
    have c_aB_0_w_z7 := x_aB.cell (i := 0) rfl
    have f_aB_0_w_z7 := x_aB.frozen 0
    have c_aB_1_w_z7 := x_aB.cell (i := 1) rfl
    have f_aB_1_w_z7 := x_aB.frozen 1
    have c_w0_0_w_z7 := x_w0.cell (i := 0) rfl
    have f_w0_0_w_z7 := x_w0.frozen 0
    have c_w0_1_w_z7 := x_w0.cell (i := 1) rfl
    have f_w0_1_w_z7 := x_w0.frozen 1
    have c_x0_0_w_z7 := x_x0.cell (i := 0) rfl
    have f_x0_0_w_z7 := x_x0.frozen 0
    have c_x0_1_w_z7 := x_x0.cell (i := 1) rfl
    have f_x0_1_w_z7 := x_x0.frozen 1
    have c_x1_0_w_z7 := x_x1.cell (i := 0) rfl
    have f_x1_0_w_z7 := x_x1.frozen 0
    have c_x1_1_w_z7 := x_x1.cell (i := 1) rfl
    have f_x1_1_w_z7 := x_x1.frozen 1
    have c_g0_0_w_z7 := x_g0.cell (i := 0) rfl
    have f_g0_0_w_z7 := x_g0.frozen 0
    have c_g0_1_w_z7 := x_g0.cell (i := 1) rfl
    have f_g0_1_w_z7 := x_g0.frozen 1
    go_wp2_with fail
    refine (markRights_c o_t3 (by omega) (by omega) (by omega)).mono ?_
    rintro e w11 ⟨rfl, y, h_w11⟩
    clear c_aA_0_w_z7 f_aA_0_w_z7 c_aA_1_w_z7 f_aA_1_w_z7 c_aB_0_w_z7 f_aB_0_w_z7 c_aB_1_w_z7 f_aB_1_w_z7 c_w0_0_w_z7 f_w0_0_w_z7 c_w0_1_w_z7 f_w0_1_w_z7 c_x0_0_w_z7 f_x0_0_w_z7 c_x0_1_w_z7 f_x0_1_w_z7 c_x1_0_w_z7 f_x1_0_w_z7 c_x1_1_w_z7 f_x1_1_w_z7 c_g0_0_w_z7 f_g0_0_w_z7 c_g0_1_w_z7 f_g0_1_w_z7
    replace x_aA := x_aA.chg h_w11 (by omega)
    replace x_aB := x_aB.chg h_w11 (by omega)
    replace x_w0 := x_w0.chg h_w11 (by omega)
    replace x_x0 := x_x0.chg h_w11 (by omega)
    replace x_x1 := x_x1.chg h_w11 (by omega)
    replace x_g0 := x_g0.chg h_w11 (by omega)
    replace o_w0 := o_w0.chg h_w11 (by omega)
    replace o_t4 := o_t4.chg h_w11 (by omega)
    replace o_g0 := o_g0.chg h_w11 (by omega)
    have B_w11 := Below.chg_ B_z7 h_w11 (by omega) (by omega)
    have s_w11 := h_w11.size
    replace o_t3 := y
    clear y
    have c_aA_0_w11 := x_aA.cell (i := 0) rfl
    have f_aA_0_w11 := x_aA.frozen 0
    have c_aA_1_w11 := x_aA.cell (i := 1) rfl
    have f_aA_1_w11 := x_aA.frozen 1
    have c_aB_0_w11 := x_aB.cell (i := 0) rfl
    have f_aB_0_w11 := x_aB.frozen 0
    have c_aB_1_w11 := x_aB.cell (i := 1) rfl
    have f_aB_1_w11 := x_aB.frozen 1
    have c_w0_0_w11 := x_w0.cell (i := 0) rfl
    have f_w0_0_w11 := x_w0.frozen 0
    have c_w0_1_w11 := x_w0.cell (i := 1) rfl
    have f_w0_1_w11 := x_w0.frozen 1
    have c_x0_0_w11 := x_x0.cell (i := 0) rfl
    have f_x0_0_w11 := x_x0.frozen 0
    have c_x0_1_w11 := x_x0.cell (i := 1) rfl
    have f_x0_1_w11 := x_x0.frozen 1
    have c_x1_0_w11 := x_x1.cell (i := 0) rfl
    have f_x1_0_w11 := x_x1.frozen 0
    have c_x1_1_w11 := x_x1.cell (i := 1) rfl
    have f_x1_1_w11 := x_x1.frozen 1
    have c_g0_0_w11 := x_g0.cell (i := 0) rfl
    have f_g0_0_w11 := x_g0.frozen 0
    have c_g0_1_w11 := x_g0.cell (i := 1) rfl
    have f_g0_1_w11 := x_g0.frozen 1
    go_wp2_with fail
    refine (markRights_c o_t4 (by omega) (by omega) (by omega)).mono ?_
    rintro e w12 ⟨rfl, y, h_w12⟩
    clear c_aA_0_w11 f_aA_0_w11 c_aA_1_w11 f_aA_1_w11 c_aB_0_w11 f_aB_0_w11 c_aB_1_w11 f_aB_1_w11 c_w0_0_w11 f_w0_0_w11 c_w0_1_w11 f_w0_1_w11 c_x0_0_w11 f_x0_0_w11 c_x0_1_w11 f_x0_1_w11 c_x1_0_w11 f_x1_0_w11 c_x1_1_w11 f_x1_1_w11 c_g0_0_w11 f_g0_0_w11 c_g0_1_w11 f_g0_1_w11
    replace x_aA := x_aA.chg h_w12 (by omega)
    replace x_aB := x_aB.chg h_w12 (by omega)
    replace x_w0 := x_w0.chg h_w12 (by omega)
    replace x_x0 := x_x0.chg h_w12 (by omega)
    replace x_x1 := x_x1.chg h_w12 (by omega)
    replace x_g0 := x_g0.chg h_w12 (by omega)
    replace o_w0 := o_w0.chg h_w12 (by omega)
    replace o_t3 := o_t3.chg h_w12 (by omega)
    replace o_g0 := o_g0.chg h_w12 (by omega)
    have B_w12 := Below.chg_ B_w11 h_w12 (by omega) (by omega)
    have s_w12 := h_w12.size
    replace o_t4 := y
    clear y
    have c_aA_0_w12 := x_aA.cell (i := 0) rfl
    have f_aA_0_w12 := x_aA.frozen 0
    have c_aA_1_w12 := x_aA.cell (i := 1) rfl
    have f_aA_1_w12 := x_aA.frozen 1
    have c_aB_0_w12 := x_aB.cell (i := 0) rfl
    have f_aB_0_w12 := x_aB.frozen 0
    have c_aB_1_w12 := x_aB.cell (i := 1) rfl
    have f_aB_1_w12 := x_aB.frozen 1
    have c_w0_0_w12 := x_w0.cell (i := 0) rfl
    have f_w0_0_w12 := x_w0.frozen 0
    have c_w0_1_w12 := x_w0.cell (i := 1) rfl
    have f_w0_1_w12 := x_w0.frozen 1
    have c_x0_0_w12 := x_x0.cell (i := 0) rfl
    have f_x0_0_w12 := x_x0.frozen 0
    have c_x0_1_w12 := x_x0.cell (i := 1) rfl
    have f_x0_1_w12 := x_x0.frozen 1
    have c_x1_0_w12 := x_x1.cell (i := 0) rfl
    have f_x1_0_w12 := x_x1.frozen 0
    have c_x1_1_w12 := x_x1.cell (i := 1) rfl
    have f_x1_1_w12 := x_x1.frozen 1
    have c_g0_0_w12 := x_g0.cell (i := 0) rfl
    have f_g0_0_w12 := x_g0.frozen 0
    have c_g0_1_w12 := x_g0.cell (i := 1) rfl
    have f_g0_1_w12 := x_g0.frozen 1
    go_wp2_with fail
    refine (eqRights_same o_g0.rd o_w0.rd (by omega)).mono ?_
    rintro e w13 ⟨rfl, h_w13⟩
    clear c_aA_0_w12 f_aA_0_w12 c_aA_1_w12 f_aA_1_w12 c_aB_0_w12 f_aB_0_w12 c_aB_1_w12 f_aB_1_w12 c_w0_0_w12 f_w0_0_w12 c_w0_1_w12 f_w0_1_w12 c_x0_0_w12 f_x0_0_w12 c_x0_1_w12 f_x0_1_w12 c_x1_0_w12 f_x1_0_w12 c_x1_1_w12 f_x1_1_w12 c_g0_0_w12 f_g0_0_w12 c_g0_1_w12 f_g0_1_w12
    replace x_aA := x_aA.from_ h_w13
    replace x_aB := x_aB.from_ h_w13
    replace x_w0 := x_w0.from_ h_w13
    replace x_x0 := x_x0.from_ h_w13
    replace x_x1 := x_x1.from_ h_w13
    replace x_g0 := x_g0.from_ h_w13
    replace o_w0 := o_w0.below h_w13
    replace o_t3 := o_t3.below h_w13
    replace o_t4 := o_t4.below h_w13
    replace o_g0 := o_g0.below h_w13
    have B_w13 := B_w12.trans (h_w13.mono B_w12.size)
    have s_w13 := h_w13.size
    have c_aA_0_w13 := x_aA.cell (i := 0) rfl
    have f_aA_0_w13 := x_aA.frozen 0
    have c_aA_1_w13 := x_aA.cell (i := 1) rfl
    have f_aA_1_w13 := x_aA.frozen 1
    have c_aB_0_w13 := x_aB.cell (i := 0) rfl
    have f_aB_0_w13 := x_aB.frozen 0
    have c_aB_1_w13 := x_aB.cell (i := 1) rfl
    have f_aB_1_w13 := x_aB.frozen 1
    have c_w0_0_w13 := x_w0.cell (i := 0) rfl
    have f_w0_0_w13 := x_w0.frozen 0
    have c_w0_1_w13 := x_w0.cell (i := 1) rfl
    have f_w0_1_w13 := x_w0.frozen 1
    have c_x0_0_w13 := x_x0.cell (i := 0) rfl
    have f_x0_0_w13 := x_x0.frozen 0
    have c_x0_1_w13 := x_x0.cell (i := 1) rfl
    have f_x0_1_w13 := x_x0.frozen 1
    have c_x1_0_w13 := x_x1.cell (i := 0) rfl
    have f_x1_0_w13 := x_x1.frozen 0
    have c_x1_1_w13 := x_x1.cell (i := 1) rfl
    have f_x1_1_w13 := x_x1.frozen 1
    have c_g0_0_w13 := x_g0.cell (i := 0) rfl
    have f_g0_0_w13 := x_g0.frozen 0
    have c_g0_1_w13 := x_g0.cell (i := 1) rfl
    have f_g0_1_w13 := x_g0.frozen 1
    go_wp2_with fail
    refine (markRights_c o_g0 (by omega) (by omega) (by omega)).mono ?_
    rintro e w14 ⟨rfl, y, h_w14⟩
    clear c_aA_0_w13 f_aA_0_w13 c_aA_1_w13 f_aA_1_w13 c_aB_0_w13 f_aB_0_w13 c_aB_1_w13 f_aB_1_w13 c_w0_0_w13 f_w0_0_w13 c_w0_1_w13 f_w0_1_w13 c_x0_0_w13 f_x0_0_w13 c_x0_1_w13 f_x0_1_w13 c_x1_0_w13 f_x1_0_w13 c_x1_1_w13 f_x1_1_w13 c_g0_0_w13 f_g0_0_w13 c_g0_1_w13 f_g0_1_w13
    replace x_aA := x_aA.chg h_w14 (by omega)
    replace x_aB := x_aB.chg h_w14 (by omega)
    replace x_w0 := x_w0.chg h_w14 (by omega)
    replace x_x0 := x_x0.chg h_w14 (by omega)
    replace x_x1 := x_x1.chg h_w14 (by omega)
    replace x_g0 := x_g0.chg h_w14 (by omega)
    replace o_w0 := o_w0.chg h_w14 (by omega)
    replace o_t3 := o_t3.chg h_w14 (by omega)
    replace o_t4 := o_t4.chg h_w14 (by omega)
    have B_w14 := Below.chg_ B_w13 h_w14 (by omega) (by omega)
    have s_w14 := h_w14.size
    replace o_g0 := y
    clear y
    have c_aA_0_w14 := x_aA.cell (i := 0) rfl
    have f_aA_0_w14 := x_aA.frozen 0
    have c_aA_1_w14 := x_aA.cell (i := 1) rfl
    have f_aA_1_w14 := x_aA.frozen 1
    have c_aB_0_w14 := x_aB.cell (i := 0) rfl
    have f_aB_0_w14 := x_aB.frozen 0
    have c_aB_1_w14 := x_aB.cell (i := 1) rfl
    have f_aB_1_w14 := x_aB.frozen 1
    have c_w0_0_w14 := x_w0.cell (i := 0) rfl
    have f_w0_0_w14 := x_w0.frozen 0
    have c_w0_1_w14 := x_w0.cell (i := 1) rfl
    have f_w0_1_w14 := x_w0.frozen 1
    have c_x0_0_w14 := x_x0.cell (i := 0) rfl
    have f_x0_0_w14 := x_x0.frozen 0
    have c_x0_1_w14 := x_x0.cell (i := 1) rfl
    have f_x0_1_w14 := x_x0.frozen 1
    have c_x1_0_w14 := x_x1.cell (i := 0) rfl
    have f_x1_0_w14 := x_x1.frozen 0
    have c_x1_1_w14 := x_x1.cell (i := 1) rfl
    have f_x1_1_w14 := x_x1.frozen 1
    have c_g0_0_w14 := x_g0.cell (i := 0) rfl
    have f_g0_0_w14 := x_g0.frozen 0
    have c_g0_1_w14 := x_g0.cell (i := 1) rfl
    have f_g0_1_w14 := x_g0.frozen 1
    go_wp2_with fail
    refine (heldRights_c o_g0.rd (by omega) (by omega) (by omega)).mono ?_
    rintro e w15 ⟨rfl, h_w15⟩
    clear c_aA_0_w14 f_aA_0_w14 c_aA_1_w14 f_aA_1_w14 c_aB_0_w14 f_aB_0_w14 c_aB_1_w14 f_aB_1_w14 c_w0_0_w14 f_w0_0_w14 c_w0_1_w14 f_w0_1_w14 c_x0_0_w14 f_x0_0_w14 c_x0_1_w14 f_x0_1_w14 c_x1_0_w14 f_x1_0_w14 c_x1_1_w14 f_x1_1_w14 c_g0_0_w14 f_g0_0_w14 c_g0_1_w14 f_g0_1_w14
    replace x_aA := x_aA.from_ h_w15
    replace x_aB := x_aB.from_ h_w15
    replace x_w0 := x_w0.from_ h_w15
    replace x_x0 := x_x0.from_ h_w15
    replace x_x1 := x_x1.from_ h_w15
    replace x_g0 := x_g0.from_ h_w15
    replace o_w0 := o_w0.below h_w15
    replace o_t3 := o_t3.below h_w15
    replace o_t4 := o_t4.below h_w15
    replace o_g0 := o_g0.below h_w15
    have B_w15 := B_w14.trans (h_w15.mono B_w14.size)
    have s_w15 := h_w15.size
    have c_aA_0_w15 := x_aA.cell (i := 0) rfl
    have f_aA_0_w15 := x_aA.frozen 0
    have c_aA_1_w15 := x_aA.cell (i := 1) rfl
    have f_aA_1_w15 := x_aA.frozen 1
    have c_aB_0_w15 := x_aB.cell (i := 0) rfl
    have f_aB_0_w15 := x_aB.frozen 0
    have c_aB_1_w15 := x_aB.cell (i := 1) rfl
    have f_aB_1_w15 := x_aB.frozen 1
    have c_w0_0_w15 := x_w0.cell (i := 0) rfl
    have f_w0_0_w15 := x_w0.frozen 0
    have c_w0_1_w15 := x_w0.cell (i := 1) rfl
    have f_w0_1_w15 := x_w0.frozen 1
    have c_x0_0_w15 := x_x0.cell (i := 0) rfl
    have f_x0_0_w15 := x_x0.frozen 0
    have c_x0_1_w15 := x_x0.cell (i := 1) rfl
    have f_x0_1_w15 := x_x0.frozen 1
    have c_x1_0_w15 := x_x1.cell (i := 0) rfl
    have f_x1_0_w15 := x_x1.frozen 0
    have c_x1_1_w15 := x_x1.cell (i := 1) rfl
    have f_x1_1_w15 := x_x1.frozen 1
    have c_g0_0_w15 := x_g0.cell (i := 0) rfl
    have f_g0_0_w15 := x_g0.frozen 0
    have c_g0_1_w15 := x_g0.cell (i := 1) rfl
    have f_g0_1_w15 := x_g0.frozen 1
    go_upto_region 31 with fail
    go_cut [15, 16] (fun s0 s1 wx => OutCall rightsL 27 w15 R0 s0 wx ∧ s1 = .bool R1)
    case first =>
      go_region_held3 (fun w' => w'.cell? ⟨w.heap.size, 0, none⟩ = some (.slice AGive_aA r.Give.length cGive_aA) ∧ w'.cell? ⟨w.heap.size, 1, none⟩ = some (.slice ASpent_aA r.Spent.length cSpent_aA) ∧ w'.cell? ⟨w.heap.size + 1, 0, none⟩ = some (.slice AGive_aB q.Give.length cGive_aB) ∧ w'.cell? ⟨w.heap.size + 1, 1, none⟩ = some (.slice ASpent_aB q.Spent.length cSpent_aB))
        (first | exact ⟨c_aA_0_w15, c_aA_1_w15, c_aB_0_w15, c_aB_1_w15⟩ | exact ⟨(x_aA.alloc _).cell (i := 0) rfl, (x_aA.alloc _).cell (i := 1) rfl, (x_aB.alloc _).cell (i := 0) rfl, (x_aB.alloc _).cell (i := 1) rfl⟩ | exact ⟨qz8_aA.cell (i := 0) rfl, qz8_aA.cell (i := 1) rfl, qz8_aB.cell (i := 0) rfl, qz8_aB.cell (i := 1) rfl⟩ | exact ⟨(qz8_aA.alloc _).cell (i := 0) rfl, (qz8_aA.alloc _).cell (i := 1) rfl, (qz8_aB.alloc _).cell (i := 0) rfl, (qz8_aB.alloc _).cell (i := 1) rfl⟩ | exact ⟨qz9_aA.cell (i := 0) rfl, qz9_aA.cell (i := 1) rfl, qz9_aB.cell (i := 0) rfl, qz9_aB.cell (i := 1) rfl⟩ | exact ⟨(qz9_aA.alloc _).cell (i := 0) rfl, (qz9_aA.alloc _).cell (i := 1) rfl, (qz9_aB.alloc _).cell (i := 0) rfl, (qz9_aB.alloc _).cell (i := 1) rfl⟩ | exact ⟨qz10_aA.cell (i := 0) rfl, qz10_aA.cell (i := 1) rfl, qz10_aB.cell (i := 0) rfl, qz10_aB.cell (i := 1) rfl⟩ | exact ⟨(qz10_aA.alloc _).cell (i := 0) rfl, (qz10_aA.alloc _).cell (i := 1) rfl, (qz10_aB.alloc _).cell (i := 0) rfl, (qz10_aB.alloc _).cell (i := 1) rfl⟩ | exact ⟨((qz10_aA.set_ne (by omega) _ _).set_ne (by omega) _ _).cell (i := 0) rfl, ((qz10_aA.set_ne (by omega) _ _).set_ne (by omega) _ _).cell (i := 1) rfl, ((qz10_aB.set_ne (by omega) _ _).set_ne (by omega) _ _).cell (i := 0) rfl, ((qz10_aB.set_ne (by omega) _ _).set_ne (by omega) _ _).cell (i := 1) rfl⟩ | go_keep)
        (first | ((go_at_call_of 28 (Value.agg #[.slice AGive_aA r.Give.length cGive_aA, .slice ASpent_aA r.Spent.length cSpent_aA])); (refine (toRights_c (r_aA.from_ (by first | exact (B_w15.drew) | exact ((B_w15.drew)).alloc ((B_w15.drew)).size _)) (by omega)).mono ?_); rintro e w_z8 ⟨v_t7, rfl, o_t7, hd_z8⟩; have hk_z8 : Below w15.drew.heap.size w15.drew w_z8 := (by first | exact hd_z8 | exact below_of_alloc hd_z8); (try (have x_h0 : Vr w_z8 w15.heap.size 27 [.slice none 0 0, .slice none 0 0] := Vr.from_ (Vr.new (w15.drew) 27 [.slice none 0 0, .slice none 0 0]) hd_z8)); have se_z8 := hd_z8.size; (try rw [sz_drew] at o_t7); (try rw [sz_alloc] at o_t7); (try rw [sz_drew] at o_t7); (try rw [sz_drew] at se_z8); (try rw [sz_alloc] at se_z8); (try rw [sz_drew] at se_z8); have hb_z8 : Below w15.heap.size w15 w_z8 := (Below.refl w15.heap.size w15).drew.trans hk_z8; have sd_z8 : w15.heap.size ≤ w_z8.heap.size := hk_z8.size; have qz8_aA := x_aA.from_ hb_z8; have qz8_aB := x_aB.from_ hb_z8; (try (have := x_h0.cell (i := 0) rfl)); (try (have := x_h0.frozen 0)); (try (have := x_h0.cell (i := 1) rfl)); (try (have := x_h0.frozen 1)); obtain ⟨AGive_t7, cGive_t7, ASpent_t7, cSpent_t7, rfl, -, -⟩ := rv_rights o_t7.rd)
               | ((go_at_call_of 28 (Value.agg #[.slice AGive_aB q.Give.length cGive_aB, .slice ASpent_aB q.Spent.length cSpent_aB])); (refine (toRights_c (r_aB.from_ (by first | exact (B_w15.trans (hb_z8.mono B_w15.size)) | exact ((B_w15.trans (hb_z8.mono B_w15.size))).alloc ((B_w15.trans (hb_z8.mono B_w15.size))).size _)) (by omega)).mono ?_); rintro e w_z9 ⟨v_t8, rfl, o_t8, hd_z9⟩; have hk_z9 : Below w_z8.heap.size w_z8 w_z9 := (by first | exact hd_z9 | exact below_of_alloc hd_z9); (try (have x_h0 : Vr w_z9 w_z8.heap.size 27 [.slice none 0 0, .slice none 0 0] := Vr.from_ (Vr.new (w_z8) 27 [.slice none 0 0, .slice none 0 0]) hd_z9)); (try (replace x_h0 := x_h0.from_ hk_z9)); replace o_t7 := o_t7.below hk_z9; have se_z9 := hd_z9.size; (try rw [sz_alloc] at o_t8); (try rw [sz_alloc] at se_z9); have hb_z9 : Below w15.heap.size w15 w_z9 := hb_z8.trans (hk_z9.mono hb_z8.size); have sd_z9 : w_z8.heap.size ≤ w_z9.heap.size := hk_z9.size; have qz9_aA := x_aA.from_ hb_z9; have qz9_aB := x_aB.from_ hb_z9; (try (have := x_h0.cell (i := 0) rfl)); (try (have := x_h0.frozen 0)); (try (have := x_h0.cell (i := 1) rfl)); (try (have := x_h0.frozen 1)); obtain ⟨AGive_t8, cGive_t8, ASpent_t8, cSpent_t8, rfl, -, -⟩ := rv_rights o_t8.rd)
               | ((go_at_call 18); (refine (iMeet_c (by first | exact o_t7.rd | exact (o_t7.below ((Below.refl _ _).alloc (Nat.le_refl _) _)).rd | exact (o_t7.below ((Below.refl _ _).drew)).rd | exact (o_t7.below (((Below.refl _ _).drew).alloc (Nat.le_refl _) _)).rd) (by first | exact o_t8.rd | exact (o_t8.below ((Below.refl _ _).alloc (Nat.le_refl _) _)).rd | exact (o_t8.below ((Below.refl _ _).drew)).rd | exact (o_t8.below (((Below.refl _ _).drew).alloc (Nat.le_refl _) _)).rd) (by omega) (by omega)).mono ?_); rintro e w_z10 ⟨v_h0, rfl, o_h0, hd_z10⟩; have hk_z10 : Below w_z9.heap.size w_z9 w_z10 := (by first | exact hd_z10 | exact below_of_alloc hd_z10); (try (have x_h0 : Vr w_z10 w_z9.heap.size 27 [.slice none 0 0, .slice none 0 0] := Vr.from_ (Vr.new (w_z9) 27 [.slice none 0 0, .slice none 0 0]) hd_z10)); (try (replace x_h0 := x_h0.from_ hk_z10)); replace o_t7 := o_t7.below hk_z10; replace o_t8 := o_t8.below hk_z10; have se_z10 := hd_z10.size; (try rw [sz_alloc] at o_h0); (try rw [sz_alloc] at se_z10); have hb_z10 : Below w15.heap.size w15 w_z10 := hb_z9.trans (hk_z10.mono hb_z9.size); have sd_z10 : w_z9.heap.size ≤ w_z10.heap.size := hk_z10.size; have qz10_aA := x_aA.from_ hb_z10; have qz10_aB := x_aB.from_ hb_z10; (try (have := x_h0.cell (i := 0) rfl)); (try (have := x_h0.frozen 0)); (try (have := x_h0.cell (i := 1) rfl)); (try (have := x_h0.frozen 1)); rw [HR0.out] at o_h0; rw [HR1.out]; obtain ⟨AGive_h0, cGive_h0, ASpent_h0, cSpent_h0, rfl, -, -⟩ := rv_rights o_h0.rd)
               | fail)
      all_goals have dz : w15.drew.heap.size = w15.heap.size := rfl
      all_goals go_wp2_with fail
      all_goals go_meet
      all_goals first
        | (obtain ⟨wz, ez, sz, hz, xz⟩ := alloc_step w_z10 27 [.slice AGive_h0 R0.Give.length cGive_h0, .slice ASpent_h0 R0.Spent.length cSpent_h0]; rw [ez]; have sz1 := hz.size; have hl := hb_z10.size; have hi9 := o_h0.le; replace o_h0 := o_h0.below hz; exact ⟨⟨_, _, _, _, rfl, (by omega), (by omega), (by omega), xz, o_h0, hb_z10.trans (hz.mono hb_z10.size)⟩, rfl⟩)
        | (obtain ⟨wz, ez, sz, hz, xz⟩ := store_step x_h0 [.slice AGive_h0 R0.Give.length cGive_h0, .slice ASpent_h0 R0.Spent.length cSpent_h0] rfl; change OutCall _ _ _ _ _ (setAll w_z10 _ 0 [.slice AGive_h0 R0.Give.length cGive_h0, .slice ASpent_h0 R0.Spent.length cSpent_h0]) ∧ _; rw [ez]; have hl := hb_z10.size; replace o_h0 := o_h0.chg hz (by omega); exact ⟨⟨_, _, _, _, rfl, (by omega), (by omega), (by omega), xz, o_h0, Below.chg_ hb_z10 hz (by omega) (by omega)⟩, rfl⟩)
        | fail
    case rest =>
      clear c_aA_0_w15 f_aA_0_w15 c_aA_1_w15 f_aA_1_w15 c_aB_0_w15 f_aB_0_w15 c_aB_1_w15 f_aB_1_w15 c_w0_0_w15 f_w0_0_w15 c_w0_1_w15 f_w0_1_w15 c_x0_0_w15 f_x0_0_w15 c_x0_1_w15 f_x0_1_w15 c_x1_0_w15 f_x1_0_w15 c_x1_1_w15 f_x1_1_w15 c_g0_0_w15 f_g0_0_w15 c_g0_1_w15 f_g0_1_w15
      obtain ⟨⟨b_h0, cs, l_h0, u_h0, rfl, g1_h0, g2_h0, g3_h0, x_h0, o_h0, h_wc15⟩, rfl⟩ := hcut
      obtain ⟨wc15, rfl⟩ : ∃ x, x = wc := ⟨_, rfl⟩
      have g4_h0 := o_h0.le
      have g5_h0 := x_h0.lt
      obtain ⟨AGive_h0, cGive_h0, ASpent_h0, cSpent_h0, he, -⟩ := rv_rights o_h0.rd
      obtain rfl : cs = [.slice AGive_h0 R0.Give.length cGive_h0, .slice ASpent_h0 R0.Spent.length cSpent_h0] := congrArg Array.toList (Value.agg.inj he)
      clear he
      replace x_aA := x_aA.from_ h_wc15
      replace x_aB := x_aB.from_ h_wc15
      replace x_w0 := x_w0.from_ h_wc15
      replace x_x0 := x_x0.from_ h_wc15
      replace x_x1 := x_x1.from_ h_wc15
      replace x_g0 := x_g0.from_ h_wc15
      replace o_w0 := o_w0.below h_wc15
      replace o_t3 := o_t3.below h_wc15
      replace o_t4 := o_t4.below h_wc15
      replace o_g0 := o_g0.below h_wc15
      have B_wc15 := B_w15.trans (h_wc15.mono B_w15.size)
      have s_wc15 := h_wc15.size
      have c_aA_0_wc15 := x_aA.cell (i := 0) rfl
      have f_aA_0_wc15 := x_aA.frozen 0
      have c_aA_1_wc15 := x_aA.cell (i := 1) rfl
      have f_aA_1_wc15 := x_aA.frozen 1
      have c_aB_0_wc15 := x_aB.cell (i := 0) rfl
      have f_aB_0_wc15 := x_aB.frozen 0
      have c_aB_1_wc15 := x_aB.cell (i := 1) rfl
      have f_aB_1_wc15 := x_aB.frozen 1
      have c_w0_0_wc15 := x_w0.cell (i := 0) rfl
      have f_w0_0_wc15 := x_w0.frozen 0
      have c_w0_1_wc15 := x_w0.cell (i := 1) rfl
      have f_w0_1_wc15 := x_w0.frozen 1
      have c_x0_0_wc15 := x_x0.cell (i := 0) rfl
      have f_x0_0_wc15 := x_x0.frozen 0
      have c_x0_1_wc15 := x_x0.cell (i := 1) rfl
      have f_x0_1_wc15 := x_x0.frozen 1
      have c_x1_0_wc15 := x_x1.cell (i := 0) rfl
      have f_x1_0_wc15 := x_x1.frozen 0
      have c_x1_1_wc15 := x_x1.cell (i := 1) rfl
      have f_x1_1_wc15 := x_x1.frozen 1
      have c_g0_0_wc15 := x_g0.cell (i := 0) rfl
      have f_g0_0_wc15 := x_g0.frozen 0
      have c_g0_1_wc15 := x_g0.cell (i := 1) rfl
      have f_g0_1_wc15 := x_g0.frozen 1
      have c_h0_0_wc15 := x_h0.cell (i := 0) rfl
      have f_h0_0_wc15 := x_h0.frozen 0
      have c_h0_1_wc15 := x_h0.cell (i := 1) rfl
      have f_h0_1_wc15 := x_h0.frozen 1
      go_wp2_with fail
      refine (eqRights_same o_h0.rd o_w0.rd (by omega)).mono ?_
      rintro e w17 ⟨rfl, h_w17⟩
      clear c_aA_0_wc15 f_aA_0_wc15 c_aA_1_wc15 f_aA_1_wc15 c_aB_0_wc15 f_aB_0_wc15 c_aB_1_wc15 f_aB_1_wc15 c_w0_0_wc15 f_w0_0_wc15 c_w0_1_wc15 f_w0_1_wc15 c_x0_0_wc15 f_x0_0_wc15 c_x0_1_wc15 f_x0_1_wc15 c_x1_0_wc15 f_x1_0_wc15 c_x1_1_wc15 f_x1_1_wc15 c_g0_0_wc15 f_g0_0_wc15 c_g0_1_wc15 f_g0_1_wc15 c_h0_0_wc15 f_h0_0_wc15 c_h0_1_wc15 f_h0_1_wc15
      replace x_aA := x_aA.from_ h_w17
      replace x_aB := x_aB.from_ h_w17
      replace x_w0 := x_w0.from_ h_w17
      replace x_x0 := x_x0.from_ h_w17
      replace x_x1 := x_x1.from_ h_w17
      replace x_g0 := x_g0.from_ h_w17
      replace x_h0 := x_h0.from_ h_w17
      replace o_w0 := o_w0.below h_w17
      replace o_t3 := o_t3.below h_w17
      replace o_t4 := o_t4.below h_w17
      replace o_g0 := o_g0.below h_w17
      replace o_h0 := o_h0.below h_w17
      have B_w17 := B_wc15.trans (h_w17.mono B_wc15.size)
      have s_w17 := h_w17.size
      have c_aA_0_w17 := x_aA.cell (i := 0) rfl
      have f_aA_0_w17 := x_aA.frozen 0
      have c_aA_1_w17 := x_aA.cell (i := 1) rfl
      have f_aA_1_w17 := x_aA.frozen 1
      have c_aB_0_w17 := x_aB.cell (i := 0) rfl
      have f_aB_0_w17 := x_aB.frozen 0
      have c_aB_1_w17 := x_aB.cell (i := 1) rfl
      have f_aB_1_w17 := x_aB.frozen 1
      have c_w0_0_w17 := x_w0.cell (i := 0) rfl
      have f_w0_0_w17 := x_w0.frozen 0
      have c_w0_1_w17 := x_w0.cell (i := 1) rfl
      have f_w0_1_w17 := x_w0.frozen 1
      have c_x0_0_w17 := x_x0.cell (i := 0) rfl
      have f_x0_0_w17 := x_x0.frozen 0
      have c_x0_1_w17 := x_x0.cell (i := 1) rfl
      have f_x0_1_w17 := x_x0.frozen 1
      have c_x1_0_w17 := x_x1.cell (i := 0) rfl
      have f_x1_0_w17 := x_x1.frozen 0
      have c_x1_1_w17 := x_x1.cell (i := 1) rfl
      have f_x1_1_w17 := x_x1.frozen 1
      have c_g0_0_w17 := x_g0.cell (i := 0) rfl
      have f_g0_0_w17 := x_g0.frozen 0
      have c_g0_1_w17 := x_g0.cell (i := 1) rfl
      have f_g0_1_w17 := x_g0.frozen 1
      have c_h0_0_w17 := x_h0.cell (i := 0) rfl
      have f_h0_0_w17 := x_h0.frozen 0
      have c_h0_1_w17 := x_h0.cell (i := 1) rfl
      have f_h0_1_w17 := x_h0.frozen 1
      go_wp2_with fail
      refine (heldRights_c o_g0.rd (by omega) (by omega) (by omega)).mono ?_
      rintro e w18 ⟨rfl, h_w18⟩
      clear c_aA_0_w17 f_aA_0_w17 c_aA_1_w17 f_aA_1_w17 c_aB_0_w17 f_aB_0_w17 c_aB_1_w17 f_aB_1_w17 c_w0_0_w17 f_w0_0_w17 c_w0_1_w17 f_w0_1_w17 c_x0_0_w17 f_x0_0_w17 c_x0_1_w17 f_x0_1_w17 c_x1_0_w17 f_x1_0_w17 c_x1_1_w17 f_x1_1_w17 c_g0_0_w17 f_g0_0_w17 c_g0_1_w17 f_g0_1_w17 c_h0_0_w17 f_h0_0_w17 c_h0_1_w17 f_h0_1_w17
      replace x_aA := x_aA.from_ h_w18
      replace x_aB := x_aB.from_ h_w18
      replace x_w0 := x_w0.from_ h_w18
      replace x_x0 := x_x0.from_ h_w18
      replace x_x1 := x_x1.from_ h_w18
      replace x_g0 := x_g0.from_ h_w18
      replace x_h0 := x_h0.from_ h_w18
      replace o_w0 := o_w0.below h_w18
      replace o_t3 := o_t3.below h_w18
      replace o_t4 := o_t4.below h_w18
      replace o_g0 := o_g0.below h_w18
      replace o_h0 := o_h0.below h_w18
      have B_w18 := B_w17.trans (h_w18.mono B_w17.size)
      have s_w18 := h_w18.size
      have c_aA_0_w18 := x_aA.cell (i := 0) rfl
      have f_aA_0_w18 := x_aA.frozen 0
      have c_aA_1_w18 := x_aA.cell (i := 1) rfl
      have f_aA_1_w18 := x_aA.frozen 1
      have c_aB_0_w18 := x_aB.cell (i := 0) rfl
      have f_aB_0_w18 := x_aB.frozen 0
      have c_aB_1_w18 := x_aB.cell (i := 1) rfl
      have f_aB_1_w18 := x_aB.frozen 1
      have c_w0_0_w18 := x_w0.cell (i := 0) rfl
      have f_w0_0_w18 := x_w0.frozen 0
      have c_w0_1_w18 := x_w0.cell (i := 1) rfl
      have f_w0_1_w18 := x_w0.frozen 1
      have c_x0_0_w18 := x_x0.cell (i := 0) rfl
      have f_x0_0_w18 := x_x0.frozen 0
      have c_x0_1_w18 := x_x0.cell (i := 1) rfl
      have f_x0_1_w18 := x_x0.frozen 1
      have c_x1_0_w18 := x_x1.cell (i := 0) rfl
      have f_x1_0_w18 := x_x1.frozen 0
      have c_x1_1_w18 := x_x1.cell (i := 1) rfl
      have f_x1_1_w18 := x_x1.frozen 1
      have c_g0_0_w18 := x_g0.cell (i := 0) rfl
      have f_g0_0_w18 := x_g0.frozen 0
      have c_g0_1_w18 := x_g0.cell (i := 1) rfl
      have f_g0_1_w18 := x_g0.frozen 1
      have c_h0_0_w18 := x_h0.cell (i := 0) rfl
      have f_h0_0_w18 := x_h0.frozen 0
      have c_h0_1_w18 := x_h0.cell (i := 1) rfl
      have f_h0_1_w18 := x_h0.frozen 1
      go_wp2
      go_ret
      exact ⟨rfl, B_w18⟩

end Go.Proofs.Ytmbipgnecjlicaa
