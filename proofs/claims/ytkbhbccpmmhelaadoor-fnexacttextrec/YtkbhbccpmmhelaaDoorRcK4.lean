/- Records out of texts: impl.TextRec, the kinds 0, 1, 2. Laid by a program of ours (src/rck.py). -/
import Derived.Test.YtkbhbccpmmhelaaDoorRcK3
namespace Go.Proofs.YtkbhbccpmmhelaaDoor
open Go.RowKit
set_option linter.unusedVariables false
set_option linter.unusedSimpArgs false

set_option maxRecDepth 100000 in
set_option maxHeartbeats 8000000 in
theorem iText_0 {w : World} (ht : Tab10 w) (s : ByteArray) (hs : s.size ≤ 1048576) (hk0 : kindTo ((splitL s 32).getD 0 ByteArray.empty) 9 = 0) : Calls Tryd.prog 9 #[.string s] w (NewVB recL w (textRec s) (textRecB s)) := by
  obtain ⟨wa, hwa, B0, sa, x_q⟩ := frame1 w 26 [.int .i64 0, .int .i64 0, .int .i64 0, .int .i64 0, .int .i64 0, .int .i64 0, .int .i64 0, .int .i64 0, .int .i64 0]
  have sa_1 := Nat.le_of_eq sa
  have sa_2 := Nat.le_of_eq sa.symm
  clear sa
  obtain ⟨ws, hws⟩ : ∃ ws, splitL s 32 = ws := ⟨_, rfl⟩
  have hne : ws ≠ [] := by rw [← hws]; exact splitL_ne s 32
  have hlen : ws.length ≤ 16777216 := by rw [← hws]; have := splitL_len s 32; omega
  have hz : ∀ x ∈ ws, x.size ≤ 1048576 := by rw [← hws]; exact fun x hx => Nat.le_trans (splitL_size s 32 x hx) hs
  have hn : 1 ≤ ws.length := by cases ws with | nil => exact absurd rfl hne | cons a l => simp
  rw [hws] at hk0
  have HK0 := Lib.hid hk0
  have HWS := Lib.hid hws
  go_enter Tryd.func9, Tryd.ntmps9
  go_wp2_with fail
  refine (iCut_c s hs).mono ?_
  rintro e w1 ⟨v, rfl, o_v, h_w1⟩
  replace x_q := x_q.from_ h_w1
  have B_w1 := B0.trans (h_w1.mono B0.size)
  have s_w1 := h_w1.size
  rw [hws] at o_v
  clear hws hne
  obtain ⟨A, c, rfl, hc1, hc2, hr⟩ := o_v.rd (d := ByteArray.empty)
  clear o_v
  obtain ⟨B0, hB0⟩ : ∃ n, w1.heap.size = n := ⟨_, rfl⟩
  have B0l := Nat.le_of_eq hB0
  have B0r := Nat.le_of_eq hB0.symm
  rw [hB0] at hr
  clear hB0
  have hWS : WS w1 B0 (.slice A ws.length c) ws := ⟨A, c, rfl, hc1, hc2, hr⟩
  have hdr := run_wdrop A c 1 ws.length 1 rfl hn
  have hWD := hWS.drop hn
  clear hWS
  obtain ⟨g, off, hA, hg, hcell⟩ := hr (by omega)
  clear hr
  obtain ⟨y0, hy0⟩ : ∃ y, ws.getD 0 ByteArray.empty = y := ⟨_, rfl⟩
  have e0 := hcell 0 (by omega)
  rw [hy0] at e0
  simp only [Nat.add_zero] at e0
  clear hcell
  have i2 : (0 : Int) < (ws.length : Int) := by omega
  generalize hdX : (if c = 1 then A else A.map (·.add (1 * 1))) = X at hdr hWD
  clear hdX
  subst hA
  rw [hy0] at hk0
  have HK := Lib.hid hk0
  clear hk0 hy0
  go_wp2_with fail
  refine (iKindR_c y0 _).mono ?_
  rintro e w2 ⟨rfl, h_w2⟩
  replace x_q := x_q.from_ h_w2
  have B_w2 := B_w1.trans (h_w2.mono B_w1.size)
  have s_w2 := h_w2.size
  rw [HK.out]
  replace hWD := hWD.below h_w2 (by omega)
  obtain ⟨w3, e_w3, s_w3, h_w3, x_r⟩ := alloc_step w2 26 [.int .i64 0, .int .i64 0, .int .i64 0, .int .i64 0, .int .i64 0, .int .i64 0, .int .i64 0, .int .i64 0, .int .i64 0]
  have s_w3_1 := Nat.le_of_eq s_w3
  have s_w3_2 := Nat.le_of_eq s_w3.symm
  clear s_w3
  replace x_q := x_q.from_ h_w3
  have B_w3 := B_w2.trans (h_w3.mono B_w2.size)
  have i_w3_8 := x_r.same (i := 8) rfl
  have i_w3_7 := x_r.same (i := 7) rfl
  have i_w3_6 := x_r.same (i := 6) rfl
  have i_w3_5 := x_r.same (i := 5) rfl
  have i_w3_4 := x_r.same (i := 4) rfl
  have i_w3_3 := x_r.same (i := 3) rfl
  have i_w3_2 := x_r.same (i := 2) rfl
  have i_w3_1 := x_r.same (i := 1) rfl
  have i_w3_0 := x_r.same (i := 0) rfl
  replace hWD := hWD.below h_w3 (by omega)
  have hz1 : ∀ x ∈ ws.drop 1, x.size ≤ 1048576 := fun x hx => hz x (List.mem_of_mem_drop hx)
  have hm1 : (ws.drop 1).length ≤ 16777216 := by rw [List.length_drop]; omega
  have c_r_0_w3 := x_r.cell (i := 0) rfl
  have f_r_0_w3 := x_r.frozen 0
  have c_r_1_w3 := x_r.cell (i := 1) rfl
  have f_r_1_w3 := x_r.frozen 1
  have c_r_2_w3 := x_r.cell (i := 2) rfl
  have f_r_2_w3 := x_r.frozen 2
  have c_r_3_w3 := x_r.cell (i := 3) rfl
  have f_r_3_w3 := x_r.frozen 3
  have c_r_4_w3 := x_r.cell (i := 4) rfl
  have f_r_4_w3 := x_r.frozen 4
  have c_r_5_w3 := x_r.cell (i := 5) rfl
  have f_r_5_w3 := x_r.frozen 5
  have c_r_6_w3 := x_r.cell (i := 6) rfl
  have f_r_6_w3 := x_r.frozen 6
  have c_r_7_w3 := x_r.cell (i := 7) rfl
  have f_r_7_w3 := x_r.frozen 7
  have c_r_8_w3 := x_r.cell (i := 8) rfl
  have f_r_8_w3 := x_r.frozen 8
  go_wp2_with fail
  clear i_w3_8 i_w3_7 i_w3_6 i_w3_5 i_w3_4 i_w3_3 i_w3_2 i_w3_1 i_w3_0 c_r_0_w3 f_r_0_w3 c_r_1_w3 f_r_1_w3 c_r_2_w3 f_r_2_w3 c_r_3_w3 f_r_3_w3 c_r_4_w3 f_r_4_w3 c_r_5_w3 f_r_5_w3 c_r_6_w3 f_r_6_w3 c_r_7_w3 f_r_7_w3 c_r_8_w3 f_r_8_w3
  have HN := Lib.hid (textNo0 HWS.out HK0.out)
  go_region_with (first | (go_at_call 28; refine (iUsed_0 (w := w3.drew) x_r rfl).mono ?_; rintro e wu ⟨rfl, hbu⟩; have hb2 : Below w3.heap.size w3 wu := (Below.refl _ w3).drew.trans hbu) | (go_at_call 27; refine (iRead_none (hWD.below hb2 (by omega))).mono ?_; rintro e w' ⟨v9, rfl, hws9, rfl⟩))
  replace x_q := x_q.from_ hb2
  replace x_r := x_r.from_ hb2
  have B_wu := B_w3.trans (hb2.mono B_w3.size)
  have s_wu := hb2.size
  have c_r_0_wu := x_r.cell (i := 0) rfl
  obtain ⟨Ar, cr, rfl, -, -, -⟩ := hws9
  obtain ⟨M, hM⟩ : ∃ m, (ws.drop 1).length = m := ⟨_, rfl⟩
  rw [hM]
  by_cases hM0 : M = 0
  case neg =>
    have m1 : (0 : Int) < (M : Int) := by omega
    have sB9 := B_wu.size
    go_wp2_with (refine wpl_rstore (zs := [0, 0, 0, 0, 0, 0, 0, 0, 0]) x_q rfl rfl rfl rfl rfl rfl ?_; intro wz x_z h_z s_z)
    refine ret_cell_tmp (by rfl) (by rfl) x_z Tryd.underlying26 sz_rec (by rfl) ?_
    rw [HN.out.1, HN.out.2]
    exact ⟨_, rfl, ov_rec (d := recZ) (Nat.le_refl _), Below.chg_ B_wu h_z (by omega) (by omega)⟩
  have m1 : ¬ ((0 : Int) < (M : Int)) := by omega
  have HO : Hid (recOkB (recZ : MRec) = false) := recOk_kind (by decide)
  have rv : RV recL wu (.agg #[.int .i64 0, .int .i64 0, .int .i64 0, .int .i64 0, .int .i64 0, .int .i64 0, .int .i64 0, .int .i64 0, .int .i64 0]) recZ := rv_rec_mk (zM := ⟨0, 0, 0, 0⟩)
  go_wp2_with (refine wpl_rload x_r rfl rfl rfl rfl ?_)
  refine (iRecOk_c rv).mono ?_
  rintro e w4 ⟨rfl, h_w4⟩
  clear c_r_0_wu
  replace x_q := x_q.from_ h_w4
  replace x_r := x_r.from_ h_w4
  have B_w4 := B_wu.trans (h_w4.mono B_wu.size)
  have s_w4 := h_w4.size
  rw [HO.out]
  have sB9 := B_w4.size
  go_wp2_with (refine wpl_rstore (zs := [0, 0, 0, 0, 0, 0, 0, 0, 0]) x_q rfl rfl rfl rfl rfl rfl ?_; intro wz x_z h_z s_z)
  refine ret_cell_tmp (by rfl) (by rfl) x_z Tryd.underlying26 sz_rec (by rfl) ?_
  rw [HN.out.1, HN.out.2]
  exact ⟨_, rfl, ov_rec (d := recZ) (Nat.le_refl _), Below.chg_ B_w4 h_z (by omega) (by omega)⟩

set_option maxRecDepth 100000 in
set_option maxHeartbeats 8000000 in
theorem iText_1 {w : World} (ht : Tab10 w) (s : ByteArray) (hs : s.size ≤ 1048576) (hk0 : kindTo ((splitL s 32).getD 0 ByteArray.empty) 9 = 1) : Calls Tryd.prog 9 #[.string s] w (NewVB recL w (textRec s) (textRecB s)) := by
  obtain ⟨wa, hwa, B0, sa, x_q⟩ := frame1 w 26 [.int .i64 0, .int .i64 0, .int .i64 0, .int .i64 0, .int .i64 0, .int .i64 0, .int .i64 0, .int .i64 0, .int .i64 0]
  have sa_1 := Nat.le_of_eq sa
  have sa_2 := Nat.le_of_eq sa.symm
  clear sa
  obtain ⟨ws, hws⟩ : ∃ ws, splitL s 32 = ws := ⟨_, rfl⟩
  have hne : ws ≠ [] := by rw [← hws]; exact splitL_ne s 32
  have hlen : ws.length ≤ 16777216 := by rw [← hws]; have := splitL_len s 32; omega
  have hz : ∀ x ∈ ws, x.size ≤ 1048576 := by rw [← hws]; exact fun x hx => Nat.le_trans (splitL_size s 32 x hx) hs
  have hn : 1 ≤ ws.length := by cases ws with | nil => exact absurd rfl hne | cons a l => simp
  rw [hws] at hk0
  have HK0 := Lib.hid hk0
  have HWS := Lib.hid hws
  go_enter Tryd.func9, Tryd.ntmps9
  go_wp2_with fail
  refine (iCut_c s hs).mono ?_
  rintro e w1 ⟨v, rfl, o_v, h_w1⟩
  replace x_q := x_q.from_ h_w1
  have B_w1 := B0.trans (h_w1.mono B0.size)
  have s_w1 := h_w1.size
  rw [hws] at o_v
  clear hws hne
  obtain ⟨A, c, rfl, hc1, hc2, hr⟩ := o_v.rd (d := ByteArray.empty)
  clear o_v
  obtain ⟨B0, hB0⟩ : ∃ n, w1.heap.size = n := ⟨_, rfl⟩
  have B0l := Nat.le_of_eq hB0
  have B0r := Nat.le_of_eq hB0.symm
  rw [hB0] at hr
  clear hB0
  have hWS : WS w1 B0 (.slice A ws.length c) ws := ⟨A, c, rfl, hc1, hc2, hr⟩
  have hdr := run_wdrop A c 1 ws.length 1 rfl hn
  have hWD := hWS.drop hn
  clear hWS
  obtain ⟨g, off, hA, hg, hcell⟩ := hr (by omega)
  clear hr
  obtain ⟨y0, hy0⟩ : ∃ y, ws.getD 0 ByteArray.empty = y := ⟨_, rfl⟩
  have e0 := hcell 0 (by omega)
  rw [hy0] at e0
  simp only [Nat.add_zero] at e0
  clear hcell
  have i2 : (0 : Int) < (ws.length : Int) := by omega
  generalize hdX : (if c = 1 then A else A.map (·.add (1 * 1))) = X at hdr hWD
  clear hdX
  subst hA
  rw [hy0] at hk0
  have HK := Lib.hid hk0
  clear hk0 hy0
  go_wp2_with fail
  refine (iKindR_c y0 _).mono ?_
  rintro e w2 ⟨rfl, h_w2⟩
  replace x_q := x_q.from_ h_w2
  have B_w2 := B_w1.trans (h_w2.mono B_w1.size)
  have s_w2 := h_w2.size
  rw [HK.out]
  replace hWD := hWD.below h_w2 (by omega)
  obtain ⟨w3, e_w3, s_w3, h_w3, x_r⟩ := alloc_step w2 26 [.int .i64 1, .int .i64 0, .int .i64 0, .int .i64 0, .int .i64 0, .int .i64 0, .int .i64 0, .int .i64 0, .int .i64 0]
  have s_w3_1 := Nat.le_of_eq s_w3
  have s_w3_2 := Nat.le_of_eq s_w3.symm
  clear s_w3
  replace x_q := x_q.from_ h_w3
  have B_w3 := B_w2.trans (h_w3.mono B_w2.size)
  have i_w3_8 := x_r.same (i := 8) rfl
  have i_w3_7 := x_r.same (i := 7) rfl
  have i_w3_6 := x_r.same (i := 6) rfl
  have i_w3_5 := x_r.same (i := 5) rfl
  have i_w3_4 := x_r.same (i := 4) rfl
  have i_w3_3 := x_r.same (i := 3) rfl
  have i_w3_2 := x_r.same (i := 2) rfl
  have i_w3_1 := x_r.same (i := 1) rfl
  replace hWD := hWD.below h_w3 (by omega)
  have hz1 : ∀ x ∈ ws.drop 1, x.size ≤ 1048576 := fun x hx => hz x (List.mem_of_mem_drop hx)
  have hm1 : (ws.drop 1).length ≤ 16777216 := by rw [List.length_drop]; omega
  have c_r_0_w3 := x_r.cell (i := 0) rfl
  have f_r_0_w3 := x_r.frozen 0
  have c_r_1_w3 := x_r.cell (i := 1) rfl
  have f_r_1_w3 := x_r.frozen 1
  have c_r_2_w3 := x_r.cell (i := 2) rfl
  have f_r_2_w3 := x_r.frozen 2
  have c_r_3_w3 := x_r.cell (i := 3) rfl
  have f_r_3_w3 := x_r.frozen 3
  have c_r_4_w3 := x_r.cell (i := 4) rfl
  have f_r_4_w3 := x_r.frozen 4
  have c_r_5_w3 := x_r.cell (i := 5) rfl
  have f_r_5_w3 := x_r.frozen 5
  have c_r_6_w3 := x_r.cell (i := 6) rfl
  have f_r_6_w3 := x_r.frozen 6
  have c_r_7_w3 := x_r.cell (i := 7) rfl
  have f_r_7_w3 := x_r.frozen 7
  have c_r_8_w3 := x_r.cell (i := 8) rfl
  have f_r_8_w3 := x_r.frozen 8
  go_wp2_with fail
  clear i_w3_8 i_w3_7 i_w3_6 i_w3_5 i_w3_4 i_w3_3 i_w3_2 i_w3_1 c_r_0_w3 f_r_0_w3 c_r_1_w3 f_r_1_w3 c_r_2_w3 f_r_2_w3 c_r_3_w3 f_r_3_w3 c_r_4_w3 f_r_4_w3 c_r_5_w3 f_r_5_w3 c_r_6_w3 f_r_6_w3 c_r_7_w3 f_r_7_w3 c_r_8_w3 f_r_8_w3
  go_region_with (first | (go_at_call 28; refine (iUsed_1 (w := w3.drew) x_r rfl).mono ?_; rintro e wu ⟨B, U, rfl, x_l, hB, hbu⟩; replace hB : w3.heap.size ≤ B := hB; have hb2 : Below w3.heap.size w3 wu := (Below.refl _ w3).drew.trans hbu) | (go_at_call 27; refine (iRead_acctAmt ht (B_w3.trans (hb2.mono B_w3.size)) (by omega) (by omega) (x_r.from_ hb2) x_l (by omega) (hWD.below hb2 (by omega)) hz1 hm1).mono ?_; rintro e wz ⟨v9, ok, rfl, hp, hC⟩))
  replace x_q := x_q.from_ hb2
  replace x_r := x_r.from_ hb2
  have B_wu := B_w3.trans (hb2.mono B_w3.size)
  have s_wu := hb2.size
  replace x_q := x_q.chg hC (by omega)
  have B_wz := Below.chg_ B_wu hC (by omega) (by omega)
  have s_wz := hC.size
  rcases hp with ⟨rfl, p2, x_r, p4⟩ | ⟨rfl, p2, rfl, cs9, x_r⟩
  case inr =>
    have HN := Lib.hid (textNo1 HWS.out (by rw [okT_ne HK0.out (by decide) (show nF 1 = 2 from rfl) hn, p2]; rfl))
    have sB9 := B_wz.size
    go_wp2_with (refine wpl_rstore (zs := [0, 0, 0, 0, 0, 0, 0, 0, 0]) x_q rfl rfl rfl rfl rfl rfl ?_; intro wz x_z h_z s_z)
    refine ret_cell_tmp (by rfl) (by rfl) x_z Tryd.underlying26 sz_rec (by rfl) ?_
    rw [HN.out.1, HN.out.2]
    exact ⟨_, rfl, ov_rec (d := recZ) (Nat.le_refl _), Below.chg_ B_wz h_z (by omega) (by omega)⟩
  obtain ⟨t1, ht1⟩ : ∃ z, txN ((ws.drop 1).getD 0 ByteArray.empty) = z := ⟨_, rfl⟩
  obtain ⟨t4, ht4⟩ : ∃ z, txN ((ws.drop 1).getD 1 ByteArray.empty) = z := ⟨_, rfl⟩
  rw [ht1, ht4] at x_r
  have pl : 2 ≤ (ws.drop 1).length := ((okN_iff _ _).1 p2).1
  have c_r_0_wz := x_r.cell (i := 0) rfl
  have hOf := recOf_1 HK0.out pl
  rw [ht1, ht4] at hOf
  have HOf := Lib.hid hOf
  clear hOf ht1 ht4
  have hT := okT_ne HK0.out (by decide) (show nF 1 = 2 from rfl) hn
  rw [p2] at hT
  have HT := Lib.hid hT
  clear hT p2
  obtain ⟨Ar, cr, rfl, -, -, -⟩ := p4
  obtain ⟨M, hM⟩ : ∃ m, ((ws.drop 1).drop 2).length = m := ⟨_, rfl⟩
  rw [hM]
  have HTM := HT.out
  rw [hM] at HTM
  have HTM := Lib.hid HTM
  by_cases hM0 : M = 0
  case neg =>
    have m1 : (0 : Int) < (M : Int) := by omega
    have HN := Lib.hid (textNo1 HWS.out (by rw [HTM.out]; simp [hM0]))
    have sB9 := B_wz.size
    go_wp2_with (refine wpl_rstore (zs := [0, 0, 0, 0, 0, 0, 0, 0, 0]) x_q rfl rfl rfl rfl rfl rfl ?_; intro wz x_z h_z s_z)
    refine ret_cell_tmp (by rfl) (by rfl) x_z Tryd.underlying26 sz_rec (by rfl) ?_
    rw [HN.out.1, HN.out.2]
    exact ⟨_, rfl, ov_rec (d := recZ) (Nat.le_refl _), Below.chg_ B_wz h_z (by omega) (by omega)⟩
  have m1 : ¬ ((0 : Int) < (M : Int)) := by omega
  obtain ⟨ob, hob⟩ : ∃ b, recOkB (⟨1, t1, 0, 0, t4, ⟨0, 0, 0, 0⟩⟩ : MRec) = b := ⟨_, rfl⟩
  have HO := Lib.hid hob
  clear hob
  have rv : RV recL wz (.agg #[.int .i64 1, .int .i64 t1, .int .i64 0, .int .i64 0, .int .i64 t4, .int .i64 0, .int .i64 0, .int .i64 0, .int .i64 0]) (⟨1, t1, 0, 0, t4, ⟨0, 0, 0, 0⟩⟩ : MRec) := rv_rec_mk (zM := ⟨0, 0, 0, 0⟩)
  go_wp2_with (refine wpl_rload x_r rfl rfl rfl rfl ?_)
  refine (iRecOk_c rv).mono ?_
  rintro e w4 ⟨rfl, h_w4⟩
  clear c_r_0_wz
  replace x_q := x_q.from_ h_w4
  replace x_r := x_r.from_ h_w4
  have B_w4 := B_wz.trans (h_w4.mono B_wz.size)
  have s_w4 := h_w4.size
  rw [HO.out]
  cases ob with
  | false =>
    have HN := Lib.hid (textNo2 HWS.out HOf.out HO.out)
    have sB9 := B_w4.size
    go_wp2_with (refine wpl_rstore (zs := [0, 0, 0, 0, 0, 0, 0, 0, 0]) x_q rfl rfl rfl rfl rfl rfl ?_; intro wz x_z h_z s_z)
    refine ret_cell_tmp (by rfl) (by rfl) x_z Tryd.underlying26 sz_rec (by rfl) ?_
    rw [HN.out.1, HN.out.2]
    exact ⟨_, rfl, ov_rec (d := recZ) (Nat.le_refl _), Below.chg_ B_w4 h_z (by omega) (by omega)⟩
  | true =>
    have HN := Lib.hid (textYes HWS.out HOf.out (by rw [HTM.out]; simp [hM0]) HO.out)
    have sB9 := B_w4.size
    go_wp2_with (first | refine wpl_rload x_r rfl rfl rfl rfl ?_ | (refine wpl_rstore (zs := [1, t1, 0, 0, t4, 0, 0, 0, 0]) x_q rfl rfl rfl rfl rfl rfl ?_; intro wz x_z h_z s_z))
    refine ret_cell_tmp (by rfl) (by rfl) x_z Tryd.underlying26 sz_rec (by rfl) ?_
    rw [HN.out.1, HN.out.2]
    exact ⟨_, rfl, ov_rec (d := ⟨1, t1, 0, 0, t4, ⟨0, 0, 0, 0⟩⟩) (Nat.le_refl _), Below.chg_ B_w4 h_z (by omega) (by omega)⟩

set_option maxRecDepth 100000 in
set_option maxHeartbeats 8000000 in
theorem iText_2 {w : World} (ht : Tab10 w) (s : ByteArray) (hs : s.size ≤ 1048576) (hk0 : kindTo ((splitL s 32).getD 0 ByteArray.empty) 9 = 2) : Calls Tryd.prog 9 #[.string s] w (NewVB recL w (textRec s) (textRecB s)) := by
  obtain ⟨wa, hwa, B0, sa, x_q⟩ := frame1 w 26 [.int .i64 0, .int .i64 0, .int .i64 0, .int .i64 0, .int .i64 0, .int .i64 0, .int .i64 0, .int .i64 0, .int .i64 0]
  have sa_1 := Nat.le_of_eq sa
  have sa_2 := Nat.le_of_eq sa.symm
  clear sa
  obtain ⟨ws, hws⟩ : ∃ ws, splitL s 32 = ws := ⟨_, rfl⟩
  have hne : ws ≠ [] := by rw [← hws]; exact splitL_ne s 32
  have hlen : ws.length ≤ 16777216 := by rw [← hws]; have := splitL_len s 32; omega
  have hz : ∀ x ∈ ws, x.size ≤ 1048576 := by rw [← hws]; exact fun x hx => Nat.le_trans (splitL_size s 32 x hx) hs
  have hn : 1 ≤ ws.length := by cases ws with | nil => exact absurd rfl hne | cons a l => simp
  rw [hws] at hk0
  have HK0 := Lib.hid hk0
  have HWS := Lib.hid hws
  go_enter Tryd.func9, Tryd.ntmps9
  go_wp2_with fail
  refine (iCut_c s hs).mono ?_
  rintro e w1 ⟨v, rfl, o_v, h_w1⟩
  replace x_q := x_q.from_ h_w1
  have B_w1 := B0.trans (h_w1.mono B0.size)
  have s_w1 := h_w1.size
  rw [hws] at o_v
  clear hws hne
  obtain ⟨A, c, rfl, hc1, hc2, hr⟩ := o_v.rd (d := ByteArray.empty)
  clear o_v
  obtain ⟨B0, hB0⟩ : ∃ n, w1.heap.size = n := ⟨_, rfl⟩
  have B0l := Nat.le_of_eq hB0
  have B0r := Nat.le_of_eq hB0.symm
  rw [hB0] at hr
  clear hB0
  have hWS : WS w1 B0 (.slice A ws.length c) ws := ⟨A, c, rfl, hc1, hc2, hr⟩
  have hdr := run_wdrop A c 1 ws.length 1 rfl hn
  have hWD := hWS.drop hn
  clear hWS
  obtain ⟨g, off, hA, hg, hcell⟩ := hr (by omega)
  clear hr
  obtain ⟨y0, hy0⟩ : ∃ y, ws.getD 0 ByteArray.empty = y := ⟨_, rfl⟩
  have e0 := hcell 0 (by omega)
  rw [hy0] at e0
  simp only [Nat.add_zero] at e0
  clear hcell
  have i2 : (0 : Int) < (ws.length : Int) := by omega
  generalize hdX : (if c = 1 then A else A.map (·.add (1 * 1))) = X at hdr hWD
  clear hdX
  subst hA
  rw [hy0] at hk0
  have HK := Lib.hid hk0
  clear hk0 hy0
  go_wp2_with fail
  refine (iKindR_c y0 _).mono ?_
  rintro e w2 ⟨rfl, h_w2⟩
  replace x_q := x_q.from_ h_w2
  have B_w2 := B_w1.trans (h_w2.mono B_w1.size)
  have s_w2 := h_w2.size
  rw [HK.out]
  replace hWD := hWD.below h_w2 (by omega)
  obtain ⟨w3, e_w3, s_w3, h_w3, x_r⟩ := alloc_step w2 26 [.int .i64 2, .int .i64 0, .int .i64 0, .int .i64 0, .int .i64 0, .int .i64 0, .int .i64 0, .int .i64 0, .int .i64 0]
  have s_w3_1 := Nat.le_of_eq s_w3
  have s_w3_2 := Nat.le_of_eq s_w3.symm
  clear s_w3
  replace x_q := x_q.from_ h_w3
  have B_w3 := B_w2.trans (h_w3.mono B_w2.size)
  have i_w3_8 := x_r.same (i := 8) rfl
  have i_w3_7 := x_r.same (i := 7) rfl
  have i_w3_6 := x_r.same (i := 6) rfl
  have i_w3_5 := x_r.same (i := 5) rfl
  have i_w3_4 := x_r.same (i := 4) rfl
  have i_w3_3 := x_r.same (i := 3) rfl
  have i_w3_2 := x_r.same (i := 2) rfl
  have i_w3_1 := x_r.same (i := 1) rfl
  replace hWD := hWD.below h_w3 (by omega)
  have hz1 : ∀ x ∈ ws.drop 1, x.size ≤ 1048576 := fun x hx => hz x (List.mem_of_mem_drop hx)
  have hm1 : (ws.drop 1).length ≤ 16777216 := by rw [List.length_drop]; omega
  have c_r_0_w3 := x_r.cell (i := 0) rfl
  have f_r_0_w3 := x_r.frozen 0
  have c_r_1_w3 := x_r.cell (i := 1) rfl
  have f_r_1_w3 := x_r.frozen 1
  have c_r_2_w3 := x_r.cell (i := 2) rfl
  have f_r_2_w3 := x_r.frozen 2
  have c_r_3_w3 := x_r.cell (i := 3) rfl
  have f_r_3_w3 := x_r.frozen 3
  have c_r_4_w3 := x_r.cell (i := 4) rfl
  have f_r_4_w3 := x_r.frozen 4
  have c_r_5_w3 := x_r.cell (i := 5) rfl
  have f_r_5_w3 := x_r.frozen 5
  have c_r_6_w3 := x_r.cell (i := 6) rfl
  have f_r_6_w3 := x_r.frozen 6
  have c_r_7_w3 := x_r.cell (i := 7) rfl
  have f_r_7_w3 := x_r.frozen 7
  have c_r_8_w3 := x_r.cell (i := 8) rfl
  have f_r_8_w3 := x_r.frozen 8
  go_wp2_with fail
  clear i_w3_8 i_w3_7 i_w3_6 i_w3_5 i_w3_4 i_w3_3 i_w3_2 i_w3_1 c_r_0_w3 f_r_0_w3 c_r_1_w3 f_r_1_w3 c_r_2_w3 f_r_2_w3 c_r_3_w3 f_r_3_w3 c_r_4_w3 f_r_4_w3 c_r_5_w3 f_r_5_w3 c_r_6_w3 f_r_6_w3 c_r_7_w3 f_r_7_w3 c_r_8_w3 f_r_8_w3
  go_region_with (first | (go_at_call 28; refine (iUsed_2 (w := w3.drew) x_r rfl).mono ?_; rintro e wu ⟨B, U, rfl, x_l, hB, hbu⟩; replace hB : w3.heap.size ≤ B := hB; have hb2 : Below w3.heap.size w3 wu := (Below.refl _ w3).drew.trans hbu) | (go_at_call 27; refine (iRead_acctAmt ht (B_w3.trans (hb2.mono B_w3.size)) (by omega) (by omega) (x_r.from_ hb2) x_l (by omega) (hWD.below hb2 (by omega)) hz1 hm1).mono ?_; rintro e wz ⟨v9, ok, rfl, hp, hC⟩))
  replace x_q := x_q.from_ hb2
  replace x_r := x_r.from_ hb2
  have B_wu := B_w3.trans (hb2.mono B_w3.size)
  have s_wu := hb2.size
  replace x_q := x_q.chg hC (by omega)
  have B_wz := Below.chg_ B_wu hC (by omega) (by omega)
  have s_wz := hC.size
  rcases hp with ⟨rfl, p2, x_r, p4⟩ | ⟨rfl, p2, rfl, cs9, x_r⟩
  case inr =>
    have HN := Lib.hid (textNo1 HWS.out (by rw [okT_ne HK0.out (by decide) (show nF 2 = 2 from rfl) hn, p2]; rfl))
    have sB9 := B_wz.size
    go_wp2_with (refine wpl_rstore (zs := [0, 0, 0, 0, 0, 0, 0, 0, 0]) x_q rfl rfl rfl rfl rfl rfl ?_; intro wz x_z h_z s_z)
    refine ret_cell_tmp (by rfl) (by rfl) x_z Tryd.underlying26 sz_rec (by rfl) ?_
    rw [HN.out.1, HN.out.2]
    exact ⟨_, rfl, ov_rec (d := recZ) (Nat.le_refl _), Below.chg_ B_wz h_z (by omega) (by omega)⟩
  obtain ⟨t1, ht1⟩ : ∃ z, txN ((ws.drop 1).getD 0 ByteArray.empty) = z := ⟨_, rfl⟩
  obtain ⟨t4, ht4⟩ : ∃ z, txN ((ws.drop 1).getD 1 ByteArray.empty) = z := ⟨_, rfl⟩
  rw [ht1, ht4] at x_r
  have pl : 2 ≤ (ws.drop 1).length := ((okN_iff _ _).1 p2).1
  have c_r_0_wz := x_r.cell (i := 0) rfl
  have hOf := recOf_2 HK0.out pl
  rw [ht1, ht4] at hOf
  have HOf := Lib.hid hOf
  clear hOf ht1 ht4
  have hT := okT_ne HK0.out (by decide) (show nF 2 = 2 from rfl) hn
  rw [p2] at hT
  have HT := Lib.hid hT
  clear hT p2
  obtain ⟨Ar, cr, rfl, -, -, -⟩ := p4
  obtain ⟨M, hM⟩ : ∃ m, ((ws.drop 1).drop 2).length = m := ⟨_, rfl⟩
  rw [hM]
  have HTM := HT.out
  rw [hM] at HTM
  have HTM := Lib.hid HTM
  by_cases hM0 : M = 0
  case neg =>
    have m1 : (0 : Int) < (M : Int) := by omega
    have HN := Lib.hid (textNo1 HWS.out (by rw [HTM.out]; simp [hM0]))
    have sB9 := B_wz.size
    go_wp2_with (refine wpl_rstore (zs := [0, 0, 0, 0, 0, 0, 0, 0, 0]) x_q rfl rfl rfl rfl rfl rfl ?_; intro wz x_z h_z s_z)
    refine ret_cell_tmp (by rfl) (by rfl) x_z Tryd.underlying26 sz_rec (by rfl) ?_
    rw [HN.out.1, HN.out.2]
    exact ⟨_, rfl, ov_rec (d := recZ) (Nat.le_refl _), Below.chg_ B_wz h_z (by omega) (by omega)⟩
  have m1 : ¬ ((0 : Int) < (M : Int)) := by omega
  obtain ⟨ob, hob⟩ : ∃ b, recOkB (⟨2, t1, 0, 0, t4, ⟨0, 0, 0, 0⟩⟩ : MRec) = b := ⟨_, rfl⟩
  have HO := Lib.hid hob
  clear hob
  have rv : RV recL wz (.agg #[.int .i64 2, .int .i64 t1, .int .i64 0, .int .i64 0, .int .i64 t4, .int .i64 0, .int .i64 0, .int .i64 0, .int .i64 0]) (⟨2, t1, 0, 0, t4, ⟨0, 0, 0, 0⟩⟩ : MRec) := rv_rec_mk (zM := ⟨0, 0, 0, 0⟩)
  go_wp2_with (refine wpl_rload x_r rfl rfl rfl rfl ?_)
  refine (iRecOk_c rv).mono ?_
  rintro e w4 ⟨rfl, h_w4⟩
  clear c_r_0_wz
  replace x_q := x_q.from_ h_w4
  replace x_r := x_r.from_ h_w4
  have B_w4 := B_wz.trans (h_w4.mono B_wz.size)
  have s_w4 := h_w4.size
  rw [HO.out]
  cases ob with
  | false =>
    have HN := Lib.hid (textNo2 HWS.out HOf.out HO.out)
    have sB9 := B_w4.size
    go_wp2_with (refine wpl_rstore (zs := [0, 0, 0, 0, 0, 0, 0, 0, 0]) x_q rfl rfl rfl rfl rfl rfl ?_; intro wz x_z h_z s_z)
    refine ret_cell_tmp (by rfl) (by rfl) x_z Tryd.underlying26 sz_rec (by rfl) ?_
    rw [HN.out.1, HN.out.2]
    exact ⟨_, rfl, ov_rec (d := recZ) (Nat.le_refl _), Below.chg_ B_w4 h_z (by omega) (by omega)⟩
  | true =>
    have HN := Lib.hid (textYes HWS.out HOf.out (by rw [HTM.out]; simp [hM0]) HO.out)
    have sB9 := B_w4.size
    go_wp2_with (first | refine wpl_rload x_r rfl rfl rfl rfl ?_ | (refine wpl_rstore (zs := [2, t1, 0, 0, t4, 0, 0, 0, 0]) x_q rfl rfl rfl rfl rfl rfl ?_; intro wz x_z h_z s_z))
    refine ret_cell_tmp (by rfl) (by rfl) x_z Tryd.underlying26 sz_rec (by rfl) ?_
    rw [HN.out.1, HN.out.2]
    exact ⟨_, rfl, ov_rec (d := ⟨2, t1, 0, 0, t4, ⟨0, 0, 0, 0⟩⟩) (Nat.le_refl _), Below.chg_ B_w4 h_z (by omega) (by omega)⟩

end Go.Proofs.YtkbhbccpmmhelaaDoor
