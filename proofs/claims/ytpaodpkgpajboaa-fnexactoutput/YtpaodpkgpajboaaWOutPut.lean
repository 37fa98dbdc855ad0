/- The walk of the law FnExactOutPut, laid by a program of ours (lawgen2.py) out of the law's text. -/
import Derived.Test.YtpaodpkgpajboaaBoxI
import Derived.Test.YtpaodpkgpajboaaBxI5
import Derived.Test.YtpaodpkgpajboaaOutC
namespace Go.Proofs.Ytpaodpkgpajboaa
open Go.RowKit
set_option linter.unusedVariables false

set_option maxRecDepth 100000 in
set_option maxHeartbeats 8000000 in
theorem wOutPut (v_aO : Value) (o : MOut) (v_aM : Value) (m : MMsg) (w : World) (r_aO : RV outL w v_aO o) (r_aM : RV msgL w v_aM m) :
    Calls Try.prog 6 #[v_aO, v_aM] w fun e w' => e = .returned (.bool true) ∧ Below w.heap.size w w' := by
  have h_aO := r_aO
  obtain ⟨AList_aO, cList_aO, rfl, -⟩ := rv_out h_aO
  clear h_aO
  have h_aM := r_aM
  obtain rfl := rv_msg h_aM
  clear h_aM
  obtain ⟨wa, hwa, B0, sa, x_aO, x_aM⟩ := frame2 w 47 [.int .i64 o.Next, .slice AList_aO o.List.length cList_aO] 51 [.int .i64 m.Kind, .int .i64 m.Acct, .int .i64 m.Amt, .int .i64 m.Src]
  have sa_1 := Nat.le_of_eq sa
  have sa_2 := Nat.le_of_eq sa.symm
  clear sa
  have c_aO_0_wa := x_aO.cell (i := 0) rfl
  have c_aO_1_wa := x_aO.cell (i := 1) rfl
  have c_aM_0_wa := x_aM.cell (i := 0) rfl
  have c_aM_1_wa := x_aM.cell (i := 1) rfl
  have c_aM_2_wa := x_aM.cell (i := 2) rfl
  have c_aM_3_wa := x_aM.cell (i := 3) rfl
  by_cases hbig_aO : o.bulk ≤ 1048576
  case neg =>
    go_enter Try.func6, Try.ntmps6
    go_wp2_with fail
    refine (szOut_c (r_aO.from_ B0) (by omega) (by omega)).mono ?_
    rintro e w1 ⟨rfl, h_w1⟩
    clear c_aO_0_wa c_aO_1_wa c_aM_0_wa c_aM_1_wa c_aM_2_wa c_aM_3_wa
    replace x_aO := x_aO.from_ h_w1
    replace x_aM := x_aM.from_ h_w1
    have B_w1 := B0.trans (h_w1.mono B0.size)
    have s_w1 := h_w1.size
    rw [show szV (1048576) (o.bulk : Int) = -1 from if_neg (by omega)]
    have c_aO_0_w1 := x_aO.cell (i := 0) rfl
    have c_aO_1_w1 := x_aO.cell (i := 1) rfl
    have c_aM_0_w1 := x_aM.cell (i := 0) rfl
    have c_aM_1_w1 := x_aM.cell (i := 1) rfl
    have c_aM_2_w1 := x_aM.cell (i := 2) rfl
    have c_aM_3_w1 := x_aM.cell (i := 3) rfl
    go_wp2
    go_ret
    exact ⟨rfl, B_w1⟩
  have hz_aO := MOut.steps_le o
  have hbk : o.List.length ≤ o.bulk := Nat.le_refl _
  obtain ⟨R0, hR0⟩ : ∃ R, outPut o m = R := ⟨_, rfl⟩
  have hl0 : R0.bulk ≤ 16777216 := by rw [← hR0]; exact Nat.le_trans (outPut_len o m) (by omega)
  have hz0 := MOut.steps_le R0
  have HR0 := Lib.hid hR0
  clear hR0
  obtain ⟨R1, hR1⟩ : ∃ R, outPutB o m = R := ⟨_, rfl⟩
  have HR1 := Lib.hid hR1
  clear hR1
  go_enter Try.func6, Try.ntmps6
  go_wp2_with fail
  refine (szOut_c (r_aO.from_ B0) (by omega) (by omega)).mono ?_
  rintro e w1 ⟨rfl, h_w1⟩
  clear c_aO_0_wa c_aO_1_wa c_aM_0_wa c_aM_1_wa c_aM_2_wa c_aM_3_wa
  replace x_aO := x_aO.from_ h_w1
  replace x_aM := x_aM.from_ h_w1
  have B_w1 := B0.trans (h_w1.mono B0.size)
  have s_w1 := h_w1.size
  rw [show szV (1048576) (o.bulk : Int) = 1048576 - (o.bulk : Int) from if_pos (by omega)]
  have gz0 : decide (1048576 - (o.bulk : Int) < 0) = false := decide_eq_false (by omega)
  have c_aO_0_w1 := x_aO.cell (i := 0) rfl
  have c_aO_1_w1 := x_aO.cell (i := 1) rfl
  have c_aM_0_w1 := x_aM.cell (i := 0) rfl
  have c_aM_1_w1 := x_aM.cell (i := 1) rfl
  have c_aM_2_w1 := x_aM.cell (i := 2) rfl
  have c_aM_3_w1 := x_aM.cell (i := 3) rfl
  go_upto_region 5 with fail
  go_cut [6, 7] (fun s0 s1 wx => OutCall outL 26 w1 R0 s0 wx ∧ s1 = .bool R1)
  case first =>
    go_region_held3 (fun w' => w'.cell? ⟨w.heap.size, 0, none⟩ = some (.int .i64 o.Next) ∧ w'.cell? ⟨w.heap.size, 1, none⟩ = some (.slice AList_aO o.List.length cList_aO) ∧ w'.cell? ⟨w.heap.size + 1, 0, none⟩ = some (.int .i64 m.Kind) ∧ w'.cell? ⟨w.heap.size + 1, 1, none⟩ = some (.int .i64 m.Acct) ∧ w'.cell? ⟨w.heap.size + 1, 2, none⟩ = some (.int .i64 m.Amt) ∧ w'.cell? ⟨w.heap.size + 1, 3, none⟩ = some (.int .i64 m.Src))
      (first | exact ⟨c_aO_0_w1, c_aO_1_w1, c_aM_0_w1, c_aM_1_w1, c_aM_2_w1, c_aM_3_w1⟩ | exact ⟨(x_aO.alloc _).cell (i := 0) rfl, (x_aO.alloc _).cell (i := 1) rfl, (x_aM.alloc _).cell (i := 0) rfl, (x_aM.alloc _).cell (i := 1) rfl, (x_aM.alloc _).cell (i := 2) rfl, (x_aM.alloc _).cell (i := 3) rfl⟩ | exact ⟨qz1_aO.cell (i := 0) rfl, qz1_aO.cell (i := 1) rfl, qz1_aM.cell (i := 0) rfl, qz1_aM.cell (i := 1) rfl, qz1_aM.cell (i := 2) rfl, qz1_aM.cell (i := 3) rfl⟩ | exact ⟨(qz1_aO.alloc _).cell (i := 0) rfl, (qz1_aO.alloc _).cell (i := 1) rfl, (qz1_aM.alloc _).cell (i := 0) rfl, (qz1_aM.alloc _).cell (i := 1) rfl, (qz1_aM.alloc _).cell (i := 2) rfl, (qz1_aM.alloc _).cell (i := 3) rfl⟩ | exact ⟨qz2_aO.cell (i := 0) rfl, qz2_aO.cell (i := 1) rfl, qz2_aM.cell (i := 0) rfl, qz2_aM.cell (i := 1) rfl, qz2_aM.cell (i := 2) rfl, qz2_aM.cell (i := 3) rfl⟩ | exact ⟨(qz2_aO.alloc _).cell (i := 0) rfl, (qz2_aO.alloc _).cell (i := 1) rfl, (qz2_aM.alloc _).cell (i := 0) rfl, (qz2_aM.alloc _).cell (i := 1) rfl, (qz2_aM.alloc _).cell (i := 2) rfl, (qz2_aM.alloc _).cell (i := 3) rfl⟩ | exact ⟨qz3_aO.cell (i := 0) rfl, qz3_aO.cell (i := 1) rfl, qz3_aM.cell (i := 0) rfl, qz3_aM.cell (i := 1) rfl, qz3_aM.cell (i := 2) rfl, qz3_aM.cell (i := 3) rfl⟩ | exact ⟨(qz3_aO.alloc _).cell (i := 0) rfl, (qz3_aO.alloc _).cell (i := 1) rfl, (qz3_aM.alloc _).cell (i := 0) rfl, (qz3_aM.alloc _).cell (i := 1) rfl, (qz3_aM.alloc _).cell (i := 2) rfl, (qz3_aM.alloc _).cell (i := 3) rfl⟩ | exact ⟨((qz3_aO.set_ne (by omega) _ _).set_ne (by omega) _ _).cell (i := 0) rfl, ((qz3_aO.set_ne (by omega) _ _).set_ne (by omega) _ _).cell (i := 1) rfl, ((qz3_aM.set_ne (by omega) _ _).set_ne (by omega) _ _).cell (i := 0) rfl, ((qz3_aM.set_ne (by omega) _ _).set_ne (by omega) _ _).cell (i := 1) rfl, ((qz3_aM.set_ne (by omega) _ _).set_ne (by omega) _ _).cell (i := 2) rfl, ((qz3_aM.set_ne (by omega) _ _).set_ne (by omega) _ _).cell (i := 3) rfl⟩ | go_keep)
      (first | ((go_at_call_of 29 (Value.agg #[.int .i64 o.Next, .slice AList_aO o.List.length cList_aO])); (refine (toOut_c (r_aO.from_ (by first | exact (B_w1.drew) | exact ((B_w1.drew)).alloc ((B_w1.drew)).size _)) (by omega)).mono ?_); rintro e w_z1 ⟨v_t1, rfl, o_t1, hd_z1⟩; have hk_z1 : Below w1.drew.heap.size w1.drew w_z1 := (by first | exact hd_z1 | exact below_of_alloc hd_z1); (try (have x_w0 : Vr w_z1 w1.heap.size 26 [.int .i64 0, .slice none 0 0] := Vr.from_ (Vr.new (w1.drew) 26 [.int .i64 0, .slice none 0 0]) hd_z1)); have se_z1 := hd_z1.size; (try rw [sz_drew] at o_t1); (try rw [sz_alloc] at o_t1); (try rw [sz_drew] at o_t1); (try rw [sz_drew] at se_z1); (try rw [sz_alloc] at se_z1); (try rw [sz_drew] at se_z1); have hb_z1 : Below w1.heap.size w1 w_z1 := (Below.refl w1.heap.size w1).drew.trans hk_z1; have sd_z1 : w1.heap.size ≤ w_z1.heap.size := hk_z1.size; have qz1_aO := x_aO.from_ hb_z1; have qz1_aM := x_aM.from_ hb_z1; (try (have := x_w0.cell (i := 0) rfl)); (try (have := x_w0.frozen 0)); (try (have := x_w0.cell (i := 1) rfl)); (try (have := x_w0.frozen 1)); obtain ⟨AList_t1, cList_t1, rfl, -⟩ := rv_out o_t1.rd)
             | ((go_at_call_of 31 (Value.agg #[.int .i64 m.Kind, .int .i64 m.Acct, .int .i64 m.Amt, .int .i64 m.Src])); (refine (toMsg_c (r_aM.from_ (by first | exact (B_w1.trans (hb_z1.mono B_w1.size)) | exact ((B_w1.trans (hb_z1.mono B_w1.size))).alloc ((B_w1.trans (hb_z1.mono B_w1.size))).size _))).mono ?_); rintro e w_z2 ⟨v_t2, rfl, o_t2, hd_z2⟩; have hk_z2 : Below w_z1.heap.size w_z1 w_z2 := (by first | exact hd_z2 | exact below_of_alloc hd_z2); (try (have x_w0 : Vr w_z2 w_z1.heap.size 26 [.int .i64 0, .slice none 0 0] := Vr.from_ (Vr.new (w_z1) 26 [.int .i64 0, .slice none 0 0]) hd_z2)); (try (replace x_w0 := x_w0.from_ hk_z2)); replace o_t1 := o_t1.below hk_z2; have se_z2 := hd_z2.size; (try rw [sz_alloc] at o_t2); (try rw [sz_alloc] at se_z2); have hb_z2 : Below w1.heap.size w1 w_z2 := hb_z1.trans (hk_z2.mono hb_z1.size); have sd_z2 : w_z1.heap.size ≤ w_z2.heap.size := hk_z2.size; have qz2_aO := x_aO.from_ hb_z2; have qz2_aM := x_aM.from_ hb_z2; (try (have := x_w0.cell (i := 0) rfl)); (try (have := x_w0.frozen 0)); (try (have := x_w0.cell (i := 1) rfl)); (try (have := x_w0.frozen 1)); obtain rfl := rv_msg o_t2.rd)
             | ((go_at_call 30); (refine (sOutPut_c (by first | exact o_t1.rd | exact (o_t1.below ((Below.refl _ _).alloc (Nat.le_refl _) _)).rd | exact (o_t1.below ((Below.refl _ _).drew)).rd | exact (o_t1.below (((Below.refl _ _).drew).alloc (Nat.le_refl _) _)).rd) (by first | exact o_t2.rd | exact (o_t2.below ((Below.refl _ _).alloc (Nat.le_refl _) _)).rd | exact (o_t2.below ((Below.refl _ _).drew)).rd | exact (o_t2.below (((Below.refl _ _).drew).alloc (Nat.le_refl _) _)).rd) (by omega)).mono ?_); rintro e w_z3 ⟨v_w0, rfl, o_w0, hd_z3⟩; have hk_z3 : Below w_z2.heap.size w_z2 w_z3 := (by first | exact hd_z3 | exact below_of_alloc hd_z3); (try (have x_w0 : Vr w_z3 w_z2.heap.size 26 [.int .i64 0, .slice none 0 0] := Vr.from_ (Vr.new (w_z2) 26 [.int .i64 0, .slice none 0 0]) hd_z3)); (try (replace x_w0 := x_w0.from_ hk_z3)); replace o_t1 := o_t1.below hk_z3; replace o_t2 := o_t2.below hk_z3; have se_z3 := hd_z3.size; (try rw [sz_alloc] at o_w0); (try rw [sz_alloc] at se_z3); have hb_z3 : Below w1.heap.size w1 w_z3 := hb_z2.trans (hk_z3.mono hb_z2.size); have sd_z3 : w_z2.heap.size ≤ w_z3.heap.size := hk_z3.size; have qz3_aO := x_aO.from_ hb_z3; have qz3_aM := x_aM.from_ hb_z3; (try (have := x_w0.cell (i := 0) rfl)); (try (have := x_w0.frozen 0)); (try (have := x_w0.cell (i := 1) rfl)); (try (have := x_w0.frozen 1)); rw [HR0.out] at o_w0; rw [HR1.out]; obtain ⟨AList_w0, cList_w0, rfl, -⟩ := rv_out o_w0.rd)
             | fail)
    all_goals have dz : w1.drew.heap.size = w1.heap.size := rfl
    all_goals go_wp2_with fail
    all_goals go_meet
    all_goals first
      | (obtain ⟨wz, ez, sz, hz, xz⟩ := alloc_step w_z3 26 [.int .i64 R0.Next, .slice AList_w0 R0.List.length cList_w0]; rw [ez]; have sz1 := hz.size; have hl := hb_z3.size; have hi9 := o_w0.le; replace o_w0 := o_w0.below hz; exact ⟨⟨_, _, _, _, rfl, (by omega), (by omega), (by omega), xz, o_w0, hb_z3.trans (hz.mono hb_z3.size)⟩, rfl⟩)
      | (obtain ⟨wz, ez, sz, hz, xz⟩ := store_step x_w0 [.int .i64 R0.Next, .slice AList_w0 R0.List.length cList_w0] rfl; change OutCall _ _ _ _ _ (setAll w_z3 _ 0 [.int .i64 R0.Next, .slice AList_w0 R0.List.length cList_w0]) ∧ _; rw [ez]; have hl := hb_z3.size; replace o_w0 := o_w0.chg hz (by omega); exact ⟨⟨_, _, _, _, rfl, (by omega), (by omega), (by omega), xz, o_w0, Below.chg_ hb_z3 hz (by omega) (by omega)⟩, rfl⟩)
      | fail
  case rest =>
    clear c_aO_0_w1 c_aO_1_w1 c_aM_0_w1 c_aM_1_w1 c_aM_2_w1 c_aM_3_w1
    obtain ⟨⟨b_w0, cs, l_w0, u_w0, rfl, g1_w0, g2_w0, g3_w0, x_w0, o_w0, h_wc1⟩, rfl⟩ := hcut
    obtain ⟨wc1, rfl⟩ : ∃ x, x = wc := ⟨_, rfl⟩
    have g4_w0 := o_w0.le
    have g5_w0 := x_w0.lt
    obtain ⟨AList_w0, cList_w0, he, -⟩ := rv_out o_w0.rd
    obtain rfl : cs = [.int .i64 R0.Next, .slice AList_w0 R0.List.length cList_w0] := congrArg Array.toList (Value.agg.inj he)
    clear he
    replace x_aO := x_aO.from_ h_wc1
    replace x_aM := x_aM.from_ h_wc1
    have B_wc1 := B_w1.trans (h_wc1.mono B_w1.size)
    have s_wc1 := h_wc1.size
    have c_aO_0_wc1 := x_aO.cell (i := 0) rfl
    have f_aO_0_wc1 := x_aO.frozen 0
    have c_aO_1_wc1 := x_aO.cell (i := 1) rfl
    have f_aO_1_wc1 := x_aO.frozen 1
    have c_aM_0_wc1 := x_aM.cell (i := 0) rfl
    have f_aM_0_wc1 := x_aM.frozen 0
    have c_aM_1_wc1 := x_aM.cell (i := 1) rfl
    have f_aM_1_wc1 := x_aM.frozen 1
    have c_aM_2_wc1 := x_aM.cell (i := 2) rfl
    have f_aM_2_wc1 := x_aM.frozen 2
    have c_aM_3_wc1 := x_aM.cell (i := 3) rfl
    have f_aM_3_wc1 := x_aM.frozen 3
    have c_w0_0_wc1 := x_w0.cell (i := 0) rfl
    have f_w0_0_wc1 := x_w0.frozen 0
    have c_w0_1_wc1 := x_w0.cell (i := 1) rfl
    have f_w0_1_wc1 := x_w0.frozen 1
    go_wp2_with fail
    refine (toOut_c (r_aO.from_ B_wc1) (by omega)).mono ?_
    rintro e w3 ⟨v_t3, rfl, o_t3, h_w3⟩
    clear c_aO_0_wc1 f_aO_0_wc1 c_aO_1_wc1 f_aO_1_wc1 c_aM_0_wc1 f_aM_0_wc1 c_aM_1_wc1 f_aM_1_wc1 c_aM_2_wc1 f_aM_2_wc1 c_aM_3_wc1 f_aM_3_wc1 c_w0_0_wc1 f_w0_0_wc1 c_w0_1_wc1 f_w0_1_wc1
    replace x_aO := x_aO.from_ h_w3
    replace x_aM := x_aM.from_ h_w3
    replace x_w0 := x_w0.from_ h_w3
    replace o_w0 := o_w0.below h_w3
    have B_w3 := B_wc1.trans (h_w3.mono B_wc1.size)
    have s_w3 := h_w3.size
    obtain ⟨AList_t3, cList_t3, rfl, -⟩ := rv_out o_t3.rd
    have c_aO_0_w3 := x_aO.cell (i := 0) rfl
    have f_aO_0_w3 := x_aO.frozen 0
    have c_aO_1_w3 := x_aO.cell (i := 1) rfl
    have f_aO_1_w3 := x_aO.frozen 1
    have c_aM_0_w3 := x_aM.cell (i := 0) rfl
    have f_aM_0_w3 := x_aM.frozen 0
    have c_aM_1_w3 := x_aM.cell (i := 1) rfl
    have f_aM_1_w3 := x_aM.frozen 1
    have c_aM_2_w3 := x_aM.cell (i := 2) rfl
    have f_aM_2_w3 := x_aM.frozen 2
    have c_aM_3_w3 := x_aM.cell (i := 3) rfl
    have f_aM_3_w3 := x_aM.frozen 3
    have c_w0_0_w3 := x_w0.cell (i := 0) rfl
    have f_w0_0_w3 := x_w0.frozen 0
    have c_w0_1_w3 := x_w0.cell (i := 1) rfl
    have f_w0_1_w3 := x_w0.frozen 1
    obtain ⟨w4, e_w4, s_w4, h_w4, x_x0⟩ := alloc_step w3 26 [.int .i64 o.Next, .slice AList_t3 o.List.length cList_t3]
    have s_w4_1 := Nat.le_of_eq s_w4
    have s_w4_2 := Nat.le_of_eq s_w4.symm
    clear s_w4
    replace x_aO := x_aO.from_ h_w4
    replace x_aM := x_aM.from_ h_w4
    replace x_w0 := x_w0.from_ h_w4
    replace o_w0 := o_w0.below h_w4
    replace o_t3 := o_t3.below h_w4
    have B_w4 := B_w3.trans (h_w4.mono B_w3.size)
    have c_aO_0_w4 := x_aO.cell (i := 0) rfl
    have f_aO_0_w4 := x_aO.frozen 0
    have c_aO_1_w4 := x_aO.cell (i := 1) rfl
    have f_aO_1_w4 := x_aO.frozen 1
    have c_aM_0_w4 := x_aM.cell (i := 0) rfl
    have f_aM_0_w4 := x_aM.frozen 0
    have c_aM_1_w4 := x_aM.cell (i := 1) rfl
    have f_aM_1_w4 := x_aM.frozen 1
    have c_aM_2_w4 := x_aM.cell (i := 2) rfl
    have f_aM_2_w4 := x_aM.frozen 2
    have c_aM_3_w4 := x_aM.cell (i := 3) rfl
    have f_aM_3_w4 := x_aM.frozen 3
    have c_w0_0_w4 := x_w0.cell (i := 0) rfl
    have f_w0_0_w4 := x_w0.frozen 0
    have c_w0_1_w4 := x_w0.cell (i := 1) rfl
    have f_w0_1_w4 := x_w0.frozen 1
    have c_x0_0_w4 := x_x0.cell (i := 0) rfl
    have f_x0_0_w4 := x_x0.frozen 0
    have c_x0_1_w4 := x_x0.cell (i := 1) rfl
    have f_x0_1_w4 := x_x0.frozen 1
    go_upto_region 7 with fail
    go_cut [9, 10] (fun s0 s1 wx => OutCall outL 26 w4 R0 s0 wx ∧ s1 = .bool R1)
    case first =>
      go_region_held3 (fun w' => w'.cell? ⟨w3.heap.size, 0, none⟩ = some (.int .i64 o.Next) ∧ w'.cell? ⟨w3.heap.size, 1, none⟩ = some (.slice AList_t3 o.List.length cList_t3) ∧ w'.cell? ⟨w.heap.size + 1, 0, none⟩ = some (.int .i64 m.Kind) ∧ w'.cell? ⟨w.heap.size + 1, 1, none⟩ = some (.int .i64 m.Acct) ∧ w'.cell? ⟨w.heap.size + 1, 2, none⟩ = some (.int .i64 m.Amt) ∧ w'.cell? ⟨w.heap.size + 1, 3, none⟩ = some (.int .i64 m.Src))
        (first | exact ⟨c_x0_0_w4, c_x0_1_w4, c_aM_0_w4, c_aM_1_w4, c_aM_2_w4, c_aM_3_w4⟩ | exact ⟨(x_x0.alloc _).cell (i := 0) rfl, (x_x0.alloc _).cell (i := 1) rfl, (x_aM.alloc _).cell (i := 0) rfl, (x_aM.alloc _).cell (i := 1) rfl, (x_aM.alloc _).cell (i := 2) rfl, (x_aM.alloc _).cell (i := 3) rfl⟩ | exact ⟨qz4_x0.cell (i := 0) rfl, qz4_x0.cell (i := 1) rfl, qz4_aM.cell (i := 0) rfl, qz4_aM.cell (i := 1) rfl, qz4_aM.cell (i := 2) rfl, qz4_aM.cell (i := 3) rfl⟩ | exact ⟨(qz4_x0.alloc _).cell (i := 0) rfl, (qz4_x0.alloc _).cell (i := 1) rfl, (qz4_aM.alloc _).cell (i := 0) rfl, (qz4_aM.alloc _).cell (i := 1) rfl, (qz4_aM.alloc _).cell (i := 2) rfl, (qz4_aM.alloc _).cell (i := 3) rfl⟩ | exact ⟨qz5_x0.cell (i := 0) rfl, qz5_x0.cell (i := 1) rfl, qz5_aM.cell (i := 0) rfl, qz5_aM.cell (i := 1) rfl, qz5_aM.cell (i := 2) rfl, qz5_aM.cell (i := 3) rfl⟩ | exact ⟨(qz5_x0.alloc _).cell (i := 0) rfl, (qz5_x0.alloc _).cell (i := 1) rfl, (qz5_aM.alloc _).cell (i := 0) rfl, (qz5_aM.alloc _).cell (i := 1) rfl, (qz5_aM.alloc _).cell (i := 2) rfl, (qz5_aM.alloc _).cell (i := 3) rfl⟩ | exact ⟨((qz5_x0.set_ne (by omega) _ _).set_ne (by omega) _ _).cell (i := 0) rfl, ((qz5_x0.set_ne (by omega) _ _).set_ne (by omega) _ _).cell (i := 1) rfl, ((qz5_aM.set_ne (by omega) _ _).set_ne (by omega) _ _).cell (i := 0) rfl, ((qz5_aM.set_ne (by omega) _ _).set_ne (by omega) _ _).cell (i := 1) rfl, ((qz5_aM.set_ne (by omega) _ _).set_ne (by omega) _ _).cell (i := 2) rfl, ((qz5_aM.set_ne (by omega) _ _).set_ne (by omega) _ _).cell (i := 3) rfl⟩ | go_keep)
        (first | ((go_at_call_of 31 (Value.agg #[.int .i64 m.Kind, .int .i64 m.Acct, .int .i64 m.Amt, .int .i64 m.Src])); (refine (toMsg_c (r_aM.from_ (by first | exact (B_w4.drew) | exact ((B_w4.drew)).alloc ((B_w4.drew)).size _))).mono ?_); rintro e w_z4 ⟨v_t4, rfl, o_t4, hd_z4⟩; have hk_z4 : Below w4.drew.heap.size w4.drew w_z4 := (by first | exact hd_z4 | exact below_of_alloc hd_z4); (try (have x_g0 : Vr w_z4 w4.heap.size 26 [.int .i64 0, .slice none 0 0] := Vr.from_ (Vr.new (w4.drew) 26 [.int .i64 0, .slice none 0 0]) hd_z4)); have se_z4 := hd_z4.size; (try rw [sz_drew] at o_t4); (try rw [sz_alloc] at o_t4); (try rw [sz_drew] at o_t4); (try rw [sz_drew] at se_z4); (try rw [sz_alloc] at se_z4); (try rw [sz_drew] at se_z4); have hb_z4 : Below w4.heap.size w4 w_z4 := (Below.refl w4.heap.size w4).drew.trans hk_z4; have sd_z4 : w4.heap.size ≤ w_z4.heap.size := hk_z4.size; have qz4_x0 := x_x0.from_ hb_z4; have qz4_aM := x_aM.from_ hb_z4; (try (have := x_g0.cell (i := 0) rfl)); (try (have := x_g0.frozen 0)); (try (have := x_g0.cell (i := 1) rfl)); (try (have := x_g0.frozen 1)); obtain rfl := rv_msg o_t4.rd)
               | ((go_at_call 15); (refine (iOutPut_c (by first | exact (o_t3.below hb_z4).rd | exact (o_t3.below ((hb_z4).alloc (hb_z4).size _)).rd) (by first | exact o_t4.rd | exact (o_t4.below ((Below.refl _ _).alloc (Nat.le_refl _) _)).rd | exact (o_t4.below ((Below.refl _ _).drew)).rd | exact (o_t4.below (((Below.refl _ _).drew).alloc (Nat.le_refl _) _)).rd) (by omega)).mono ?_); rintro e w_z5 ⟨v_g0, rfl, o_g0, hd_z5⟩; have hk_z5 : Below w_z4.heap.size w_z4 w_z5 := (by first | exact hd_z5 | exact below_of_alloc hd_z5); (try (have x_g0 : Vr w_z5 w_z4.heap.size 26 [.int .i64 0, .slice none 0 0] := Vr.from_ (Vr.new (w_z4) 26 [.int .i64 0, .slice none 0 0]) hd_z5)); (try (replace x_g0 := x_g0.from_ hk_z5)); replace o_t4 := o_t4.below hk_z5; have se_z5 := hd_z5.size; (try rw [sz_alloc] at o_g0); (try rw [sz_alloc] at se_z5); have hb_z5 : Below w4.heap.size w4 w_z5 := hb_z4.trans (hk_z5.mono hb_z4.size); have sd_z5 : w_z4.heap.size ≤ w_z5.heap.size := hk_z5.size; have qz5_x0 := x_x0.from_ hb_z5; have qz5_aM := x_aM.from_ hb_z5; (try (have := x_g0.cell (i := 0) rfl)); (try (have := x_g0.frozen 0)); (try (have := x_g0.cell (i := 1) rfl)); (try (have := x_g0.frozen 1)); rw [HR0.out] at o_g0; rw [HR1.out]; obtain ⟨AList_g0, cList_g0, rfl, -⟩ := rv_out o_g0.rd)
               | fail)
      all_goals have dz : w4.drew.heap.size = w4.heap.size := rfl
      all_goals go_wp2_with fail
      all_goals go_meet
      all_goals first
        | (obtain ⟨wz, ez, sz, hz, xz⟩ := alloc_step w_z5 26 [.int .i64 R0.Next, .slice AList_g0 R0.List.length cList_g0]; rw [ez]; have sz1 := hz.size; have hl := hb_z5.size; have hi9 := o_g0.le; replace o_g0 := o_g0.below hz; exact ⟨⟨_, _, _, _, rfl, (by omega), (by omega), (by omega), xz, o_g0, hb_z5.trans (hz.mono hb_z5.size)⟩, rfl⟩)
        | (obtain ⟨wz, ez, sz, hz, xz⟩ := store_step x_g0 [.int .i64 R0.Next, .slice AList_g0 R0.List.length cList_g0] rfl; change OutCall _ _ _ _ _ (setAll w_z5 _ 0 [.int .i64 R0.Next, .slice AList_g0 R0.List.length cList_g0]) ∧ _; rw [ez]; have hl := hb_z5.size; replace o_g0 := o_g0.chg hz (by omega); exact ⟨⟨_, _, _, _, rfl, (by omega), (by omega), (by omega), xz, o_g0, Below.chg_ hb_z5 hz (by omega) (by omega)⟩, rfl⟩)
        | fail
    case rest =>
      clear c_aO_0_w3 f_aO_0_w3 c_aO_1_w3 f_aO_1_w3 c_aM_0_w3 f_aM_0_w3 c_aM_1_w3 f_aM_1_w3 c_aM_2_w3 f_aM_2_w3 c_aM_3_w3 f_aM_3_w3 c_w0_0_w3 f_w0_0_w3 c_w0_1_w3 f_w0_1_w3 c_aO_0_w4 f_aO_0_w4 c_aO_1_w4 f_aO_1_w4 c_aM_0_w4 f_aM_0_w4 c_aM_1_w4 f_aM_1_w4 c_aM_2_w4 f_aM_2_w4 c_aM_3_w4 f_aM_3_w4 c_w0_0_w4 f_w0_0_w4 c_w0_1_w4 f_w0_1_w4 c_x0_0_w4 f_x0_0_w4 c_x0_1_w4 f_x0_1_w4
      obtain ⟨⟨b_g0, cs, l_g0, u_g0, rfl, g1_g0, g2_g0, g3_g0, x_g0, o_g0, h_wc4⟩, rfl⟩ := hcut
      obtain ⟨wc4, rfl⟩ : ∃ x, x = wc := ⟨_, rfl⟩
      have g4_g0 := o_g0.le
      have g5_g0 := x_g0.lt
      obtain ⟨AList_g0, cList_g0, he, -⟩ := rv_out o_g0.rd
      obtain rfl : cs = [.int .i64 R0.Next, .slice AList_g0 R0.List.length cList_g0] := congrArg Array.toList (Value.agg.inj he)
      clear he
      replace x_aO := x_aO.from_ h_wc4
      replace x_aM := x_aM.from_ h_wc4
      replace x_w0 := x_w0.from_ h_wc4
      replace x_x0 := x_x0.from_ h_wc4
      replace o_w0 := o_w0.below h_wc4
      replace o_t3 := o_t3.below h_wc4
      have B_wc4 := B_w4.trans (h_wc4.mono B_w4.size)
      have s_wc4 := h_wc4.size
      have c_aO_0_wc4 := x_aO.cell (i := 0) rfl
      have f_aO_0_wc4 := x_aO.frozen 0
      have c_aO_1_wc4 := x_aO.cell (i := 1) rfl
      have f_aO_1_wc4 := x_aO.frozen 1
      have c_aM_0_wc4 := x_aM.cell (i := 0) rfl
      have f_aM_0_wc4 := x_aM.frozen 0
      have c_aM_1_wc4 := x_aM.cell (i := 1) rfl
      have f_aM_1_wc4 := x_aM.frozen 1
      have c_aM_2_wc4 := x_aM.cell (i := 2) rfl
      have f_aM_2_wc4 := x_aM.frozen 2
      have c_aM_3_wc4 := x_aM.cell (i := 3) rfl
      have f_aM_3_wc4 := x_aM.frozen 3
      have c_w0_0_wc4 := x_w0.cell (i := 0) rfl
      have f_w0_0_wc4 := x_w0.frozen 0
      have c_w0_1_wc4 := x_w0.cell (i := 1) rfl
      have f_w0_1_wc4 := x_w0.frozen 1
      have c_x0_0_wc4 := x_x0.cell (i := 0) rfl
      have f_x0_0_wc4 := x_x0.frozen 0
      have c_x0_1_wc4 := x_x0.cell (i := 1) rfl
      have f_x0_1_wc4 := x_x0.frozen 1
      have c_g0_0_wc4 := x_g0.cell (i := 0) rfl
      have f_g0_0_wc4 := x_g0.frozen 0
      have c_g0_1_wc4 := x_g0.cell (i := 1) rfl
      have f_g0_1_wc4 := x_g0.frozen 1
      go_wp2_with fail
      refine (eqOut_same o_g0.rd o_w0.rd (by omega)).mono ?_
      rintro e w6 ⟨rfl, h_w6⟩
      clear c_aO_0_wc4 f_aO_0_wc4 c_aO_1_wc4 f_aO_1_wc4 c_aM_0_wc4 f_aM_0_wc4 c_aM_1_wc4 f_aM_1_wc4 c_aM_2_wc4 f_aM_2_wc4 c_aM_3_wc4 f_aM_3_wc4 c_w0_0_wc4 f_w0_0_wc4 c_w0_1_wc4 f_w0_1_wc4 c_x0_0_wc4 f_x0_0_wc4 c_x0_1_wc4 f_x0_1_wc4 c_g0_0_wc4 f_g0_0_wc4 c_g0_1_wc4 f_g0_1_wc4
      replace x_aO := x_aO.from_ h_w6
      replace x_aM := x_aM.from_ h_w6
      replace x_w0 := x_w0.from_ h_w6
      replace x_x0 := x_x0.from_ h_w6
      replace x_g0 := x_g0.from_ h_w6
      replace o_w0 := o_w0.below h_w6
      replace o_t3 := o_t3.below h_w6
      replace o_g0 := o_g0.below h_w6
      have B_w6 := B_wc4.trans (h_w6.mono B_wc4.size)
      have s_w6 := h_w6.size
      have c_aO_0_w6 := x_aO.cell (i := 0) rfl
      have f_aO_0_w6 := x_aO.frozen 0
      have c_aO_1_w6 := x_aO.cell (i := 1) rfl
      have f_aO_1_w6 := x_aO.frozen 1
      have c_aM_0_w6 := x_aM.cell (i := 0) rfl
      have f_aM_0_w6 := x_aM.frozen 0
      have c_aM_1_w6 := x_aM.cell (i := 1) rfl
      have f_aM_1_w6 := x_aM.frozen 1
      have c_aM_2_w6 := x_aM.cell (i := 2) rfl
      have f_aM_2_w6 := x_aM.frozen 2
      have c_aM_3_w6 := x_aM.cell (i := 3) rfl
      have f_aM_3_w6 := x_aM.frozen 3
      have c_w0_0_w6 := x_w0.cell (i := 0) rfl
      have f_w0_0_w6 := x_w0.frozen 0
      have c_w0_1_w6 := x_w0.cell (i := 1) rfl
      have f_w0_1_w6 := x_w0.frozen 1
      have c_x0_0_w6 := x_x0.cell (i := 0) rfl
      have f_x0_0_w6 := x_x0.frozen 0
      have c_x0_1_w6 := x_x0.cell (i := 1) rfl
      have f_x0_1_w6 := x_x0.frozen 1
      have c_g0_0_w6 := x_g0.cell (i := 0) rfl
      have f_g0_0_w6 := x_g0.frozen 0
      have c_g0_1_w6 := x_g0.cell (i := 1) rfl
      have f_g0_1_w6 := x_g0.frozen 1
      go_wp2_with fail
      go_region_held3 (fun w' => w'.cell? ⟨w3.heap.size, 0, none⟩ = some (.int .i64 o.Next) ∧ w'.cell? ⟨w3.heap.size, 1, none⟩ = some (.slice AList_t3 o.List.length cList_t3) ∧ w'.cell? ⟨w.heap.size, 0, none⟩ = some (.int .i64 o.Next) ∧ w'.cell? ⟨w.heap.size, 1, none⟩ = some (.slice AList_aO o.List.length cList_aO))
        (first | exact ⟨c_x0_0_w6, c_x0_1_w6, c_aO_0_w6, c_aO_1_w6⟩ | exact ⟨qz6_x0_0, qz6_x0_1, qz6_aO_0, qz6_aO_1⟩ | exact ⟨qz7_x0_0, qz7_x0_1, qz7_aO_0, qz7_aO_1⟩ | go_keep)
        (first | ((go_at_call 29); (refine (toOut_c (r_aO.from_ (B_w6.drew)) (by omega)).mono ?_); rintro e w_z6 ⟨v_t5, rfl, o_t5, hd_z6⟩; have hb_z6 : Below w6.heap.size w6 w_z6 := (Below.refl w6.heap.size w6).drew.trans hd_z6; have sd_z6 := hd_z6.size; replace sd_z6 : w6.heap.size ≤ w_z6.heap.size := sd_z6; have qz6_x0_0 := (x_x0.from_ hb_z6).cell (i := 0) rfl; have qz6_x0_1 := (x_x0.from_ hb_z6).cell (i := 1) rfl; have qz6_aO_0 := (x_aO.from_ hb_z6).cell (i := 0) rfl; have qz6_aO_1 := (x_aO.from_ hb_z6).cell (i := 1) rfl; obtain ⟨AList_t5, cList_t5, rfl, -⟩ := rv_out o_t5.rd)
               | ((go_at_call 24); (refine (eqOut_same (o_t3.below hb_z6).rd o_t5.rd (by omega)).mono ?_); rintro e w_z7 ⟨rfl, hd_z7⟩; have hb_z7 : Below w6.heap.size w6 w_z7 := hb_z6.trans (hd_z7.mono hb_z6.size); have sd_z7 := hd_z7.size; have qz7_x0_0 := (x_x0.from_ hb_z7).cell (i := 0) rfl; have qz7_x0_1 := (x_x0.from_ hb_z7).cell (i := 1) rfl; have qz7_aO_0 := (x_aO.from_ hb_z7).cell (i := 0) rfl; have qz7_aO_1 := (x_aO.from_ hb_z7).cell (i := 1) rfl; replace o_t5 := o_t5.below hd_z7)
               | fail)
      clear c_aO_0_w6 f_aO_0_w6 c_aO_1_w6 f_aO_1_w6 c_aM_0_w6 f_aM_0_w6 c_aM_1_w6 f_aM_1_w6 c_aM_2_w6 f_aM_2_w6 c_aM_3_w6 f_aM_3_w6 c_w0_0_w6 f_w0_0_w6 c_w0_1_w6 f_w0_1_w6 c_x0_0_w6 f_x0_0_w6 c_x0_1_w6 f_x0_1_w6 c_g0_0_w6 f_g0_0_w6 c_g0_1_w6 f_g0_1_w6
      have dz_w6 : w6.drew.heap.size = w6.heap.size := rfl
      replace x_aO := x_aO.from_ hb_z7
      replace x_aM := x_aM.from_ hb_z7
      replace x_w0 := x_w0.from_ hb_z7
      replace x_x0 := x_x0.from_ hb_z7
      replace x_g0 := x_g0.from_ hb_z7
      replace o_w0 := o_w0.below hb_z7
      replace o_t3 := o_t3.below hb_z7
      replace o_g0 := o_g0.below hb_z7
      have B_z7 := B_w6.trans (hb_z7.mono B_w6.size)
      have sz_z7 := hb_z7.size
      have c_aO_0_w_z7 := x_aO.cell (i := 0) rfl
      have f_aO_0_w_z7 := x_aO.frozen 0
      have c_aO_1_w_z7 := x_aO.cell (i := 1) rfl
      have f_aO_1_w_z7 := x_aO.frozen 1
      have c_aM_0_w_z7 := x_aM.cell (i := 0) rfl
      have f_aM_0_w_z7 := x_aM.frozen 0
      have c_aM_1_w_z7 := x_aM.cell (i := 1) rfl
      have f_aM_1_w_z7 := x_aM.frozen 1
      have c_aM_2_w_z7 := x_aM.cell (i := 2) rfl
      have f_aM_2_w_z7 := x_aM.frozen 2
      have c_aM_3_w_z7 := x_aM.cell (i := 3) rfl
      have f_aM_3_w_z7 := x_aM.frozen 3
      have c_w0_0_w_z7 := x_w0.cell (i := 0) rfl
      have f_w0_0_w_z7 := x_w0.frozen 0
      have c_w0_1_w_z7 := x_w0.cell (i := 1) rfl
      have f_w0_1_w_z7 := x_w0.frozen 1
      have c_x0_0_w_z7 := x_x0.cell (i := 0) rfl
      have f_x0_0_w_z7 := x_x0.frozen 0
      have c_x0_1_w_z7 := x_x0.cell (i := 1) rfl
      have f_x0_1_w_z7 := x_x0.frozen 1
      have c_g0_0_w_z7 := x_g0.cell (i := 0) rfl
      have f_g0_0_w_z7 := x_g0.frozen 0
      have c_g0_1_w_z7 := x_g0.cell (i := 1) rfl
      have f_g0_1_w_z7 := x_g0.frozen 1
      go_wp2_with fail
      refine (markOut_c o_t3 (by omega) (by omega) (by omega)).mono ?_
      rintro e w7 ⟨rfl, y, h_w7⟩
      clear c_aO_0_w_z7 f_aO_0_w_z7 c_aO_1_w_z7 f_aO_1_w_z7 c_aM_0_w_z7 f_aM_0_w_z7 c_aM_1_w_z7 f_aM_1_w_z7 c_aM_2_w_z7 f_aM_2_w_z7 c_aM_3_w_z7 f_aM_3_w_z7 c_w0_0_w_z7 f_w0_0_w_z7 c_w0_1_w_z7 f_w0_1_w_z7 c_x0_0_w_z7 f_x0_0_w_z7 c_x0_1_w_z7 f_x0_1_w_z7 c_g0_0_w_z7 f_g0_0_w_z7 c_g0_1_w_z7 f_g0_1_w_z7
      replace x_aO := x_aO.chg h_w7 (by omega)
      replace x_aM := x_aM.chg h_w7 (by omega)
      replace x_w0 := x_w0.chg h_w7 (by omega)
      replace x_x0 := x_x0.chg h_w7 (by omega)
      replace x_g0 := x_g0.chg h_w7 (by omega)
      replace o_w0 := o_w0.chg h_w7 (by omega)
      replace o_g0 := o_g0.chg h_w7 (by omega)
      have B_w7 := Below.chg_ B_z7 h_w7 (by omega) (by omega)
      have s_w7 := h_w7.size
      replace o_t3 := y
      clear y
      have c_aO_0_w7 := x_aO.cell (i := 0) rfl
      have f_aO_0_w7 := x_aO.frozen 0
      have c_aO_1_w7 := x_aO.cell (i := 1) rfl
      have f_aO_1_w7 := x_aO.frozen 1
      have c_aM_0_w7 := x_aM.cell (i := 0) rfl
      have f_aM_0_w7 := x_aM.frozen 0
      have c_aM_1_w7 := x_aM.cell (i := 1) rfl
      have f_aM_1_w7 := x_aM.frozen 1
      have c_aM_2_w7 := x_aM.cell (i := 2) rfl
      have f_aM_2_w7 := x_aM.frozen 2
      have c_aM_3_w7 := x_aM.cell (i := 3) rfl
      have f_aM_3_w7 := x_aM.frozen 3
      have c_w0_0_w7 := x_w0.cell (i := 0) rfl
      have f_w0_0_w7 := x_w0.frozen 0
      have c_w0_1_w7 := x_w0.cell (i := 1) rfl
      have f_w0_1_w7 := x_w0.frozen 1
      have c_x0_0_w7 := x_x0.cell (i := 0) rfl
      have f_x0_0_w7 := x_x0.frozen 0
      have c_x0_1_w7 := x_x0.cell (i := 1) rfl
      have f_x0_1_w7 := x_x0.frozen 1
      have c_g0_0_w7 := x_g0.cell (i := 0) rfl
      have f_g0_0_w7 := x_g0.frozen 0
      have c_g0_1_w7 := x_g0.cell (i := 1) rfl
      have f_g0_1_w7 := x_g0.frozen 1
      go_wp2_with fail
      refine (eqOut_same o_g0.rd o_w0.rd (by omega)).mono ?_
      rintro e w8 ⟨rfl, h_w8⟩
      clear c_aO_0_w7 f_aO_0_w7 c_aO_1_w7 f_aO_1_w7 c_aM_0_w7 f_aM_0_w7 c_aM_1_w7 f_aM_1_w7 c_aM_2_w7 f_aM_2_w7 c_aM_3_w7 f_aM_3_w7 c_w0_0_w7 f_w0_0_w7 c_w0_1_w7 f_w0_1_w7 c_x0_0_w7 f_x0_0_w7 c_x0_1_w7 f_x0_1_w7 c_g0_0_w7 f_g0_0_w7 c_g0_1_w7 f_g0_1_w7
      replace x_aO := x_aO.from_ h_w8
      replace x_aM := x_aM.from_ h_w8
      replace x_w0 := x_w0.from_ h_w8
      replace x_x0 := x_x0.from_ h_w8
      replace x_g0 := x_g0.from_ h_w8
      replace o_w0 := o_w0.below h_w8
      replace o_t3 := o_t3.below h_w8
      replace o_g0 := o_g0.below h_w8
      have B_w8 := B_w7.trans (h_w8.mono B_w7.size)
      have s_w8 := h_w8.size
      have c_aO_0_w8 := x_aO.cell (i := 0) rfl
      have f_aO_0_w8 := x_aO.frozen 0
      have c_aO_1_w8 := x_aO.cell (i := 1) rfl
      have f_aO_1_w8 := x_aO.frozen 1
      have c_aM_0_w8 := x_aM.cell (i := 0) rfl
      have f_aM_0_w8 := x_aM.frozen 0
      have c_aM_1_w8 := x_aM.cell (i := 1) rfl
      have f_aM_1_w8 := x_aM.frozen 1
      have c_aM_2_w8 := x_aM.cell (i := 2) rfl
      have f_aM_2_w8 := x_aM.frozen 2
      have c_aM_3_w8 := x_aM.cell (i := 3) rfl
      have f_aM_3_w8 := x_aM.frozen 3
      have c_w0_0_w8 := x_w0.cell (i := 0) rfl
      have f_w0_0_w8 := x_w0.frozen 0
      have c_w0_1_w8 := x_w0.cell (i := 1) rfl
      have f_w0_1_w8 := x_w0.frozen 1
      have c_x0_0_w8 := x_x0.cell (i := 0) rfl
      have f_x0_0_w8 := x_x0.frozen 0
      have c_x0_1_w8 := x_x0.cell (i := 1) rfl
      have f_x0_1_w8 := x_x0.frozen 1
      have c_g0_0_w8 := x_g0.cell (i := 0) rfl
      have f_g0_0_w8 := x_g0.frozen 0
      have c_g0_1_w8 := x_g0.cell (i := 1) rfl
      have f_g0_1_w8 := x_g0.frozen 1
      go_wp2_with fail
      refine (markOut_c o_g0 (by omega) (by omega) (by omega)).mono ?_
      rintro e w9 ⟨rfl, y, h_w9⟩
      clear c_aO_0_w8 f_aO_0_w8 c_aO_1_w8 f_aO_1_w8 c_aM_0_w8 f_aM_0_w8 c_aM_1_w8 f_aM_1_w8 c_aM_2_w8 f_aM_2_w8 c_aM_3_w8 f_aM_3_w8 c_w0_0_w8 f_w0_0_w8 c_w0_1_w8 f_w0_1_w8 c_x0_0_w8 f_x0_0_w8 c_x0_1_w8 f_x0_1_w8 c_g0_0_w8 f_g0_0_w8 c_g0_1_w8 f_g0_1_w8
      replace x_aO := x_aO.chg h_w9 (by omega)
      replace x_aM := x_aM.chg h_w9 (by omega)
      replace x_w0 := x_w0.chg h_w9 (by omega)
      replace x_x0 := x_x0.chg h_w9 (by omega)
      replace x_g0 := x_g0.chg h_w9 (by omega)
      replace o_w0 := o_w0.chg h_w9 (by omega)
      replace o_t3 := o_t3.chg h_w9 (by omega)
      have B_w9 := Below.chg_ B_w8 h_w9 (by omega) (by omega)
      have s_w9 := h_w9.size
      replace o_g0 := y
      clear y
      have c_aO_0_w9 := x_aO.cell (i := 0) rfl
      have f_aO_0_w9 := x_aO.frozen 0
      have c_aO_1_w9 := x_aO.cell (i := 1) rfl
      have f_aO_1_w9 := x_aO.frozen 1
      have c_aM_0_w9 := x_aM.cell (i := 0) rfl
      have f_aM_0_w9 := x_aM.frozen 0
      have c_aM_1_w9 := x_aM.cell (i := 1) rfl
      have f_aM_1_w9 := x_aM.frozen 1
      have c_aM_2_w9 := x_aM.cell (i := 2) rfl
      have f_aM_2_w9 := x_aM.frozen 2
      have c_aM_3_w9 := x_aM.cell (i := 3) rfl
      have f_aM_3_w9 := x_aM.frozen 3
      have c_w0_0_w9 := x_w0.cell (i := 0) rfl
      have f_w0_0_w9 := x_w0.frozen 0
      have c_w0_1_w9 := x_w0.cell (i := 1) rfl
      have f_w0_1_w9 := x_w0.frozen 1
      have c_x0_0_w9 := x_x0.cell (i := 0) rfl
      have f_x0_0_w9 := x_x0.frozen 0
      have c_x0_1_w9 := x_x0.cell (i := 1) rfl
      have f_x0_1_w9 := x_x0.frozen 1
      have c_g0_0_w9 := x_g0.cell (i := 0) rfl
      have f_g0_0_w9 := x_g0.frozen 0
      have c_g0_1_w9 := x_g0.cell (i := 1) rfl
      have f_g0_1_w9 := x_g0.frozen 1
      go_wp2_with fail
      refine (heldOut_c o_g0.rd (by omega) (by omega) (by omega)).mono ?_
      rintro e w10 ⟨rfl, h_w10⟩
      clear c_aO_0_w9 f_aO_0_w9 c_aO_1_w9 f_aO_1_w9 c_aM_0_w9 f_aM_0_w9 c_aM_1_w9 f_aM_1_w9 c_aM_2_w9 f_aM_2_w9 c_aM_3_w9 f_aM_3_w9 c_w0_0_w9 f_w0_0_w9 c_w0_1_w9 f_w0_1_w9 c_x0_0_w9 f_x0_0_w9 c_x0_1_w9 f_x0_1_w9 c_g0_0_w9 f_g0_0_w9 c_g0_1_w9 f_g0_1_w9
      replace x_aO := x_aO.from_ h_w10
      replace x_aM := x_aM.from_ h_w10
      replace x_w0 := x_w0.from_ h_w10
      replace x_x0 := x_x0.from_ h_w10
      replace x_g0 := x_g0.from_ h_w10
      replace o_w0 := o_w0.below h_w10
      replace o_t3 := o_t3.below h_w10
      replace o_g0 := o_g0.below h_w10
      have B_w10 := B_w9.trans (h_w10.mono B_w9.size)
      have s_w10 := h_w10.size
      have c_aO_0_w10 := x_aO.cell (i := 0) rfl
      have f_aO_0_w10 := x_aO.frozen 0
      have c_aO_1_w10 := x_aO.cell (i := 1) rfl
      have f_aO_1_w10 := x_aO.frozen 1
      have c_aM_0_w10 := x_aM.cell (i := 0) rfl
      have f_aM_0_w10 := x_aM.frozen 0
      have c_aM_1_w10 := x_aM.cell (i := 1) rfl
      have f_aM_1_w10 := x_aM.frozen 1
      have c_aM_2_w10 := x_aM.cell (i := 2) rfl
      have f_aM_2_w10 := x_aM.frozen 2
      have c_aM_3_w10 := x_aM.cell (i := 3) rfl
      have f_aM_3_w10 := x_aM.frozen 3
      have c_w0_0_w10 := x_w0.cell (i := 0) rfl
      have f_w0_0_w10 := x_w0.frozen 0
      have c_w0_1_w10 := x_w0.cell (i := 1) rfl
      have f_w0_1_w10 := x_w0.frozen 1
      have c_x0_0_w10 := x_x0.cell (i := 0) rfl
      have f_x0_0_w10 := x_x0.frozen 0
      have c_x0_1_w10 := x_x0.cell (i := 1) rfl
      have f_x0_1_w10 := x_x0.frozen 1
      have c_g0_0_w10 := x_g0.cell (i := 0) rfl
      have f_g0_0_w10 := x_g0.frozen 0
      have c_g0_1_w10 := x_g0.cell (i := 1) rfl
      have f_g0_1_w10 := x_g0.frozen 1
      go_upto_region 24 with fail
      go_cut [14, 15] (fun s0 s1 wx => OutCall outL 26 w10 R0 s0 wx ∧ s1 = .bool R1)
      case first =>
        go_region_held3 (fun w' => w'.cell? ⟨w.heap.size, 0, none⟩ = some (.int .i64 o.Next) ∧ w'.cell? ⟨w.heap.size, 1, none⟩ = some (.slice AList_aO o.List.length cList_aO) ∧ w'.cell? ⟨w.heap.size + 1, 0, none⟩ = some (.int .i64 m.Kind) ∧ w'.cell? ⟨w.heap.size + 1, 1, none⟩ = some (.int .i64 m.Acct) ∧ w'.cell? ⟨w.heap.size + 1, 2, none⟩ = some (.int .i64 m.Amt) ∧ w'.cell? ⟨w.heap.size + 1, 3, none⟩ = some (.int .i64 m.Src))
          (first | exact ⟨c_aO_0_w10, c_aO_1_w10, c_aM_0_w10, c_aM_1_w10, c_aM_2_w10, c_aM_3_w10⟩ | exact ⟨(x_aO.alloc _).cell (i := 0) rfl, (x_aO.alloc _).cell (i := 1) rfl, (x_aM.alloc _).cell (i := 0) rfl, (x_aM.alloc _).cell (i := 1) rfl, (x_aM.alloc _).cell (i := 2) rfl, (x_aM.alloc _).cell (i := 3) rfl⟩ | exact ⟨qz8_aO.cell (i := 0) rfl, qz8_aO.cell (i := 1) rfl, qz8_aM.cell (i := 0) rfl, qz8_aM.cell (i := 1) rfl, qz8_aM.cell (i := 2) rfl, qz8_aM.cell (i := 3) rfl⟩ | exact ⟨(qz8_aO.alloc _).cell (i := 0) rfl, (qz8_aO.alloc _).cell (i := 1) rfl, (qz8_aM.alloc _).cell (i := 0) rfl, (qz8_aM.alloc _).cell (i := 1) rfl, (qz8_aM.alloc _).cell (i := 2) rfl, (qz8_aM.alloc _).cell (i := 3) rfl⟩ | exact ⟨qz9_aO.cell (i := 0) rfl, qz9_aO.cell (i := 1) rfl, qz9_aM.cell (i := 0) rfl, qz9_aM.cell (i := 1) rfl, qz9_aM.cell (i := 2) rfl, qz9_aM.cell (i := 3) rfl⟩ | exact ⟨(qz9_aO.alloc _).cell (i := 0) rfl, (qz9_aO.alloc _).cell (i := 1) rfl, (qz9_aM.alloc _).cell (i := 0) rfl, (qz9_aM.alloc _).cell (i := 1) rfl, (qz9_aM.alloc _).cell (i := 2) rfl, (qz9_aM.alloc _).cell (i := 3) rfl⟩ | exact ⟨qz10_aO.cell (i := 0) rfl, qz10_aO.cell (i := 1) rfl, qz10_aM.cell (i := 0) rfl, qz10_aM.cell (i := 1) rfl, qz10_aM.cell (i := 2) rfl, qz10_aM.cell (i := 3) rfl⟩ | exact ⟨(qz10_aO.alloc _).cell (i := 0) rfl, (qz10_aO.alloc _).cell (i := 1) rfl, (qz10_aM.alloc _).cell (i := 0) rfl, (qz10_aM.alloc _).cell (i := 1) rfl, (qz10_aM.alloc _).cell (i := 2) rfl, (qz10_aM.alloc _).cell (i := 3) rfl⟩ | exact ⟨((qz10_aO.set_ne (by omega) _ _).set_ne (by omega) _ _).cell (i := 0) rfl, ((qz10_aO.set_ne (by omega) _ _).set_ne (by omega) _ _).cell (i := 1) rfl, ((qz10_aM.set_ne (by omega) _ _).set_ne (by omega) _ _).cell (i := 0) rfl, ((qz10_aM.set_ne (by omega) _ _).set_ne (by omega) _ _).cell (i := 1) rfl, ((qz10_aM.set_ne (by omega) _ _).set_ne (by omega) _ _).cell (i := 2) rfl, ((qz10_aM.set_ne (by omega) _ _).set_ne (by omega) _ _).cell (i := 3) rfl⟩ | go_keep)
          (first | ((go_at_call_of 29 (Value.agg #[.int .i64 o.Next, .slice AList_aO o.List.length cList_aO])); (refine (toOut_c (r_aO.from_ (by first | exact (B_w10.drew) | exact ((B_w10.drew)).alloc ((B_w10.drew)).size _)) (by omega)).mono ?_); rintro e w_z8 ⟨v_t6, rfl, o_t6, hd_z8⟩; have hk_z8 : Below w10.drew.heap.size w10.drew w_z8 := (by first | exact hd_z8 | exact below_of_alloc hd_z8); (try (have x_h0 : Vr w_z8 w10.heap.size 26 [.int .i64 0, .slice none 0 0] := Vr.from_ (Vr.new (w10.drew) 26 [.int .i64 0, .slice none 0 0]) hd_z8)); have se_z8 := hd_z8.size; (try rw [sz_drew] at o_t6); (try rw [sz_alloc] at o_t6); (try rw [sz_drew] at o_t6); (try rw [sz_drew] at se_z8); (try rw [sz_alloc] at se_z8); (try rw [sz_drew] at se_z8); have hb_z8 : Below w10.heap.size w10 w_z8 := (Below.refl w10.heap.size w10).drew.trans hk_z8; have sd_z8 : w10.heap.size ≤ w_z8.heap.size := hk_z8.size; have qz8_aO := x_aO.from_ hb_z8; have qz8_aM := x_aM.from_ hb_z8; (try (have := x_h0.cell (i := 0) rfl)); (try (have := x_h0.frozen 0)); (try (have := x_h0.cell (i := 1) rfl)); (try (have := x_h0.frozen 1)); obtain ⟨AList_t6, cList_t6, rfl, -⟩ := rv_out o_t6.rd)
                 | ((go_at_call_of 31 (Value.agg #[.int .i64 m.Kind, .int .i64 m.Acct, .int .i64 m.Amt, .int .i64 m.Src])); (refine (toMsg_c (r_aM.from_ (by first | exact (B_w10.trans (hb_z8.mono B_w10.size)) | exact ((B_w10.trans (hb_z8.mono B_w10.size))).alloc ((B_w10.trans (hb_z8.mono B_w10.size))).size _))).mono ?_); rintro e w_z9 ⟨v_t7, rfl, o_t7, hd_z9⟩; have hk_z9 : Below w_z8.heap.size w_z8 w_z9 := (by first | exact hd_z9 | exact below_of_alloc hd_z9); (try (have x_h0 : Vr w_z9 w_z8.heap.size 26 [.int .i64 0, .slice none 0 0] := Vr.from_ (Vr.new (w_z8) 26 [.int .i64 0, .slice none 0 0]) hd_z9)); (try (replace x_h0 := x_h0.from_ hk_z9)); replace o_t6 := o_t6.below hk_z9; have se_z9 := hd_z9.size; (try rw [sz_alloc] at o_t7); (try rw [sz_alloc] at se_z9); have hb_z9 : Below w10.heap.size w10 w_z9 := hb_z8.trans (hk_z9.mono hb_z8.size); have sd_z9 : w_z8.heap.size ≤ w_z9.heap.size := hk_z9.size; have qz9_aO := x_aO.from_ hb_z9; have qz9_aM := x_aM.from_ hb_z9; (try (have := x_h0.cell (i := 0) rfl)); (try (have := x_h0.frozen 0)); (try (have := x_h0.cell (i := 1) rfl)); (try (have := x_h0.frozen 1)); obtain rfl := rv_msg o_t7.rd)
                 | ((go_at_call 15); (refine (iOutPut_c (by first | exact o_t6.rd | exact (o_t6.below ((Below.refl _ _).alloc (Nat.le_refl _) _)).rd | exact (o_t6.below ((Below.refl _ _).drew)).rd | exact (o_t6.below (((Below.refl _ _).drew).alloc (Nat.le_refl _) _)).rd) (by first | exact o_t7.rd | exact (o_t7.below ((Below.refl _ _).alloc (Nat.le_refl _) _)).rd | exact (o_t7.below ((Below.refl _ _).drew)).rd | exact (o_t7.below (((Below.refl _ _).drew).alloc (Nat.le_refl _) _)).rd) (by omega)).mono ?_); rintro e w_z10 ⟨v_h0, rfl, o_h0, hd_z10⟩; have hk_z10 : Below w_z9.heap.size w_z9 w_z10 := (by first | exact hd_z10 | exact below_of_alloc hd_z10); (try (have x_h0 : Vr w_z10 w_z9.heap.size 26 [.int .i64 0, .slice none 0 0] := Vr.from_ (Vr.new (w_z9) 26 [.int .i64 0, .slice none 0 0]) hd_z10)); (try (replace x_h0 := x_h0.from_ hk_z10)); replace o_t6 := o_t6.below hk_z10; replace o_t7 := o_t7.below hk_z10; have se_z10 := hd_z10.size; (try rw [sz_alloc] at o_h0); (try rw [sz_alloc] at se_z10); have hb_z10 : Below w10.heap.size w10 w_z10 := hb_z9.trans (hk_z10.mono hb_z9.size); have sd_z10 : w_z9.heap.size ≤ w_z10.heap.size := hk_z10.size; have qz10_aO := x_aO.from_ hb_z10; have qz10_aM := x_aM.from_ hb_z10; (try (have := x_h0.cell (i := 0) rfl)); (try (have := x_h0.frozen 0)); (try (have := x_h0.cell (i := 1) rfl)); (try (have := x_h0.frozen 1)); rw [HR0.out] at o_h0; rw [HR1.out]; obtain ⟨AList_h0, cList_h0, rfl, -⟩ := rv_out o_h0.rd)
                 | fail)
        all_goals have dz : w10.drew.heap.size = w10.heap.size := rfl
        all_goals go_wp2_with fail
        all_goals go_meet
        all_goals first
          | (obtain ⟨wz, ez, sz, hz, xz⟩ := alloc_step w_z10 26 [.int .i64 R0.Next, .slice AList_h0 R0.List.length cList_h0]; rw [ez]; have sz1 := hz.size; have hl := hb_z10.size; have hi9 := o_h0.le; replace o_h0 := o_h0.below hz; exact ⟨⟨_, _, _, _, rfl, (by omega), (by omega), (by omega), xz, o_h0, hb_z10.trans (hz.mono hb_z10.size)⟩, rfl⟩)
          | (obtain ⟨wz, ez, sz, hz, xz⟩ := store_step x_h0 [.int .i64 R0.Next, .slice AList_h0 R0.List.length cList_h0] rfl; change OutCall _ _ _ _ _ (setAll w_z10 _ 0 [.int .i64 R0.Next, .slice AList_h0 R0.List.length cList_h0]) ∧ _; rw [ez]; have hl := hb_z10.size; replace o_h0 := o_h0.chg hz (by omega); exact ⟨⟨_, _, _, _, rfl, (by omega), (by omega), (by omega), xz, o_h0, Below.chg_ hb_z10 hz (by omega) (by omega)⟩, rfl⟩)
          | fail
      case rest =>
        clear c_aO_0_w10 f_aO_0_w10 c_aO_1_w10 f_aO_1_w10 c_aM_0_w10 f_aM_0_w10 c_aM_1_w10 f_aM_1_w10 c_aM_2_w10 f_aM_2_w10 c_aM_3_w10 f_aM_3_w10 c_w0_0_w10 f_w0_0_w10 c_w0_1_w10 f_w0_1_w10 c_x0_0_w10 f_x0_0_w10 c_x0_1_w10 f_x0_1_w10 c_g0_0_w10 f_g0_0_w10 c_g0_1_w10 f_g0_1_w10
        obtain ⟨⟨b_h0, cs, l_h0, u_h0, rfl, g1_h0, g2_h0, g3_h0, x_h0, o_h0, h_wc10⟩, rfl⟩ := hcut
        obtain ⟨wc10, rfl⟩ : ∃ x, x = wc := ⟨_, rfl⟩
        have g4_h0 := o_h0.le
        have g5_h0 := x_h0.lt
        obtain ⟨AList_h0, cList_h0, he, -⟩ := rv_out o_h0.rd
        obtain rfl : cs = [.int .i64 R0.Next, .slice AList_h0 R0.List.length cList_h0] := congrArg Array.toList (Value.agg.inj he)
        clear he
        replace x_aO := x_aO.from_ h_wc10
        replace x_aM := x_aM.from_ h_wc10
        replace x_w0 := x_w0.from_ h_wc10
        replace x_x0 := x_x0.from_ h_wc10
        replace x_g0 := x_g0.from_ h_wc10
        replace o_w0 := o_w0.below h_wc10
        replace o_t3 := o_t3.below h_wc10
        replace o_g0 := o_g0.below h_wc10
        have B_wc10 := B_w10.trans (h_wc10.mono B_w10.size)
        have s_wc10 := h_wc10.size
        have c_aO_0_wc10 := x_aO.cell (i := 0) rfl
        have f_aO_0_wc10 := x_aO.frozen 0
        have c_aO_1_wc10 := x_aO.cell (i := 1) rfl
        have f_aO_1_wc10 := x_aO.frozen 1
        have c_aM_0_wc10 := x_aM.cell (i := 0) rfl
        have f_aM_0_wc10 := x_aM.frozen 0
        have c_aM_1_wc10 := x_aM.cell (i := 1) rfl
        have f_aM_1_wc10 := x_aM.frozen 1
        have c_aM_2_wc10 := x_aM.cell (i := 2) rfl
        have f_aM_2_wc10 := x_aM.frozen 2
        have c_aM_3_wc10 := x_aM.cell (i := 3) rfl
        have f_aM_3_wc10 := x_aM.frozen 3
        have c_w0_0_wc10 := x_w0.cell (i := 0) rfl
        have f_w0_0_wc10 := x_w0.frozen 0
        have c_w0_1_wc10 := x_w0.cell (i := 1) rfl
        have f_w0_1_wc10 := x_w0.frozen 1
        have c_x0_0_wc10 := x_x0.cell (i := 0) rfl
        have f_x0_0_wc10 := x_x0.frozen 0
        have c_x0_1_wc10 := x_x0.cell (i := 1) rfl
        have f_x0_1_wc10 := x_x0.frozen 1
        have c_g0_0_wc10 := x_g0.cell (i := 0) rfl
        have f_g0_0_wc10 := x_g0.frozen 0
        have c_g0_1_wc10 := x_g0.cell (i := 1) rfl
        have f_g0_1_wc10 := x_g0.frozen 1
        have c_h0_0_wc10 := x_h0.cell (i := 0) rfl
        have f_h0_0_wc10 := x_h0.frozen 0
        have c_h0_1_wc10 := x_h0.cell (i := 1) rfl
        have f_h0_1_wc10 := x_h0.frozen 1
        go_wp2_with fail
        refine (eqOut_same o_h0.rd o_w0.rd (by omega)).mono ?_
        rintro e w12 ⟨rfl, h_w12⟩
        clear c_aO_0_wc10 f_aO_0_wc10 c_aO_1_wc10 f_aO_1_wc10 c_aM_0_wc10 f_aM_0_wc10 c_aM_1_wc10 f_aM_1_wc10 c_aM_2_wc10 f_aM_2_wc10 c_aM_3_wc10 f_aM_3_wc10 c_w0_0_wc10 f_w0_0_wc10 c_w0_1_wc10 f_w0_1_wc10 c_x0_0_wc10 f_x0_0_wc10 c_x0_1_wc10 f_x0_1_wc10 c_g0_0_wc10 f_g0_0_wc10 c_g0_1_wc10 f_g0_1_wc10 c_h0_0_wc10 f_h0_0_wc10 c_h0_1_wc10 f_h0_1_wc10
        replace x_aO := x_aO.from_ h_w12
        replace x_aM := x_aM.from_ h_w12
        replace x_w0 := x_w0.from_ h_w12
        replace x_x0 := x_x0.from_ h_w12
        replace x_g0 := x_g0.from_ h_w12
        replace x_h0 := x_h0.from_ h_w12
        replace o_w0 := o_w0.below h_w12
        replace o_t3 := o_t3.below h_w12
        replace o_g0 := o_g0.below h_w12
        replace o_h0 := o_h0.below h_w12
        have B_w12 := B_wc10.trans (h_w12.mono B_wc10.size)
        have s_w12 := h_w12.size
        have c_aO_0_w12 := x_aO.cell (i := 0) rfl
        have f_aO_0_w12 := x_aO.frozen 0
        have c_aO_1_w12 := x_aO.cell (i := 1) rfl
        have f_aO_1_w12 := x_aO.frozen 1
        have c_aM_0_w12 := x_aM.cell (i := 0) rfl
        have f_aM_0_w12 := x_aM.frozen 0
        have c_aM_1_w12 := x_aM.cell (i := 1) rfl
        have f_aM_1_w12 := x_aM.frozen 1
        have c_aM_2_w12 := x_aM.cell (i := 2) rfl
        have f_aM_2_w12 := x_aM.frozen 2
        have c_aM_3_w12 := x_aM.cell (i := 3) rfl
        have f_aM_3_w12 := x_aM.frozen 3
        have c_w0_0_w12 := x_w0.cell (i := 0) rfl
        have f_w0_0_w12 := x_w0.frozen 0
        have c_w0_1_w12 := x_w0.cell (i := 1) rfl
        have f_w0_1_w12 := x_w0.frozen 1
        have c_x0_0_w12 := x_x0.cell (i := 0) rfl
        have f_x0_0_w12 := x_x0.frozen 0
        have c_x0_1_w12 := x_x0.cell (i := 1) rfl
        have f_x0_1_w12 := x_x0.frozen 1
        have c_g0_0_w12 := x_g0.cell (i := 0) rfl
        have f_g0_0_w12 := x_g0.frozen 0
        have c_g0_1_w12 := x_g0.cell (i := 1) rfl
        have f_g0_1_w12 := x_g0.frozen 1
        have c_h0_0_w12 := x_h0.cell (i := 0) rfl
        have f_h0_0_w12 := x_h0.frozen 0
        have c_h0_1_w12 := x_h0.cell (i := 1) rfl
        have f_h0_1_w12 := x_h0.frozen 1
        go_wp2_with fail
        refine (heldOut_c o_g0.rd (by omega) (by omega) (by omega)).mono ?_
        rintro e w13 ⟨rfl, h_w13⟩
        clear c_aO_0_w12 f_aO_0_w12 c_aO_1_w12 f_aO_1_w12 c_aM_0_w12 f_aM_0_w12 c_aM_1_w12 f_aM_1_w12 c_aM_2_w12 f_aM_2_w12 c_aM_3_w12 f_aM_3_w12 c_w0_0_w12 f_w0_0_w12 c_w0_1_w12 f_w0_1_w12 c_x0_0_w12 f_x0_0_w12 c_x0_1_w12 f_x0_1_w12 c_g0_0_w12 f_g0_0_w12 c_g0_1_w12 f_g0_1_w12 c_h0_0_w12 f_h0_0_w12 c_h0_1_w12 f_h0_1_w12
        replace x_aO := x_aO.from_ h_w13
        replace x_aM := x_aM.from_ h_w13
        replace x_w0 := x_w0.from_ h_w13
        replace x_x0 := x_x0.from_ h_w13
        replace x_g0 := x_g0.from_ h_w13
        replace x_h0 := x_h0.from_ h_w13
        replace o_w0 := o_w0.below h_w13
        replace o_t3 := o_t3.below h_w13
        replace o_g0 := o_g0.below h_w13
        replace o_h0 := o_h0.below h_w13
        have B_w13 := B_w12.trans (h_w13.mono B_w12.size)
        have s_w13 := h_w13.size
        have c_aO_0_w13 := x_aO.cell (i := 0) rfl
        have f_aO_0_w13 := x_aO.frozen 0
        have c_aO_1_w13 := x_aO.cell (i := 1) rfl
        have f_aO_1_w13 := x_aO.frozen 1
        have c_aM_0_w13 := x_aM.cell (i := 0) rfl
        have f_aM_0_w13 := x_aM.frozen 0
        have c_aM_1_w13 := x_aM.cell (i := 1) rfl
        have f_aM_1_w13 := x_aM.frozen 1
        have c_aM_2_w13 := x_aM.cell (i := 2) rfl
        have f_aM_2_w13 := x_aM.frozen 2
        have c_aM_3_w13 := x_aM.cell (i := 3) rfl
        have f_aM_3_w13 := x_aM.frozen 3
        have c_w0_0_w13 := x_w0.cell (i := 0) rfl
        have f_w0_0_w13 := x_w0.frozen 0
        have c_w0_1_w13 := x_w0.cell (i := 1) rfl
        have f_w0_1_w13 := x_w0.frozen 1
        have c_x0_0_w13 := x_x0.cell (i := 0) rfl
        have f_x0_0_w13 := x_x0.frozen 0
        have c_x0_1_w13 := x_x0.cell (i := 1) rfl
        have f_x0_1_w13 := x_x0.frozen 1
        have c_g0_0_w13 := x_g0.cell (i := 0) rfl
        have f_g0_0_w13 := x_g0.frozen 0
        have c_g0_1_w13 := x_g0.cell (i := 1) rfl
        have f_g0_1_w13 := x_g0.frozen 1
        have c_h0_0_w13 := x_h0.cell (i := 0) rfl
        have f_h0_0_w13 := x_h0.frozen 0
        have c_h0_1_w13 := x_h0.cell (i := 1) rfl
        have f_h0_1_w13 := x_h0.frozen 1
        go_wp2
        go_ret
        exact ⟨rfl, B_w13⟩

end Go.Proofs.Ytpaodpkgpajboaa
