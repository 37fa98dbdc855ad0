/- Texts joined: RcK4, RcK5, RcK6, RcK7, Rc6, Rc8, RcJ, RcI, RcP, MsgI3, RcB. -/
import Derived.Test.YtkbhbccpmmhelaaDoorZ6
import Derived.LoopN
namespace Go.Proofs.YtkbhbccpmmhelaaDoor
open Go.RowKit
set_option linter.unusedVariables false
set_option linter.unusedSimpArgs false
set_option maxRecDepth 100000 in
set_option maxHeartbeats 8000000 in
theorem iText_0 {w : World} (ht : Tab10 w) (s : ByteArray) (hs : s.size ≤ 1048576) (hk0 : kindTo ((splitL s 32).getD 0 ByteArray.empty) 9 = 0) : Calls Tryd.prog 9 #[.string s] w (NewVB recL w (textRec s) (textRecB s)) := by
  obtain ⟨wa, hwa, B0, sa, x_q⟩ := frame1 w 26 [.int .i64 0, .int .i64 0, .int .i64 0, .int .i64 0, .int .i64 0, .int .i64 0, .int .i64 0, .int .i64 0, .int .i64 0]
  have sa_1 := Nat.le_of_eq sa
  have sa_2 := Nat.le_of_eq sa.symm
  clear sa
  obtain ⟨ws, hws⟩ : ∃ ws, splitL s 32 = ws := ⟨_, rfl⟩
  have hne : ws ≠ [] := by rw [← hws]; exact splitL_ne s 32
  have hlen : ws.length ≤ 16777216 := by rw [← hws]; have := splitL_len s 32; omega
  have hz : ∀ x ∈ ws, x.size ≤ 1048576 := by rw [← hws]; exact fun x hx => Nat.le_trans (splitL_size s 32 x hx) hs
  have hn : 1 ≤ ws.length := by cases ws with | nil => exact absurd rfl hne | cons a l => simp
  rw [hws] at hk0
  have HK0 := Lib.hid hk0
  have HWS := Lib.hid hws
  go_enter Tryd.func9, Tryd.ntmps9
  go_wp2_with fail
  refine (iCut_c s hs).mono ?_
  rintro e w1 ⟨v, rfl, o_v, h_w1⟩
  replace x_q := x_q.from_ h_w1
  have B_w1 := B0.trans (h_w1.mono B0.size)
  have s_w1 := h_w1.size
  rw [hws] at o_v
  clear hws hne
  obtain ⟨A, c, rfl, hc1, hc2, hr⟩ := o_v.rd (d := ByteArray.empty)
  clear o_v
  obtain ⟨B0, hB0⟩ : ∃ n, w1.heap.size = n := ⟨_, rfl⟩
  have B0l := Nat.le_of_eq hB0
  have B0r := Nat.le_of_eq hB0.symm
  rw [hB0] at hr
  clear hB0
  have hWS : WS w1 B0 (.slice A ws.length c) ws := ⟨A, c, rfl, hc1, hc2, hr⟩
  have hdr := run_wdrop A c 1 ws.length 1 rfl hn
  have hWD := hWS.drop hn
  clear hWS
  obtain ⟨g, off, hA, hg, hcell⟩ := hr (by omega)
  clear hr
  obtain ⟨y0, hy0⟩ : ∃ y, ws.getD 0 ByteArray.empty = y := ⟨_, rfl⟩
  have e0 := hcell 0 (by omega)
  rw [hy0] at e0
  simp only [Nat.add_zero] at e0
  clear hcell
  have i2 : (0 : Int) < (ws.length : Int) := by omega
  generalize hdX : (if c = 1 then A else A.map (·.add (1 * 1))) = X at hdr hWD
  clear hdX
  subst hA
  rw [hy0] at hk0
  have HK := Lib.hid hk0
  clear hk0 hy0
  go_wp2_with fail
  refine (iKindR_c y0 _).mono ?_
  rintro e w2 ⟨rfl, h_w2⟩
  replace x_q := x_q.from_ h_w2
  have B_w2 := B_w1.trans (h_w2.mono B_w1.size)
  have s_w2 := h_w2.size
  rw [HK.out]
  replace hWD := hWD.below h_w2 (by omega)
  obtain ⟨w3, e_w3, s_w3, h_w3, x_r⟩ := alloc_step w2 26 [.int .i64 0, .int .i64 0, .int .i64 0, .int .i64 0, .int .i64 0, .int .i64 0, .int .i64 0, .int .i64 0, .int .i64 0]
  have s_w3_1 := Nat.le_of_eq s_w3
  have s_w3_2 := Nat.le_of_eq s_w3.symm
  clear s_w3
  replace x_q := x_q.from_ h_w3
  have B_w3 := B_w2.trans (h_w3.mono B_w2.size)
  have i_w3_8 := x_r.same (i := 8) rfl
  have i_w3_7 := x_r.same (i := 7) rfl
  have i_w3_6 := x_r.same (i := 6) rfl
  have i_w3_5 := x_r.same (i := 5) rfl
  have i_w3_4 := x_r.same (i := 4) rfl
  have i_w3_3 := x_r.same (i := 3) rfl
  have i_w3_2 := x_r.same (i := 2) rfl
  have i_w3_1 := x_r.same (i := 1) rfl
  have i_w3_0 := x_r.same (i := 0) rfl
  replace hWD := hWD.below h_w3 (by omega)
  have hz1 : ∀ x ∈ ws.drop 1, x.size ≤ 1048576 := fun x hx => hz x (List.mem_of_mem_drop hx)
  have hm1 : (ws.drop 1).length ≤ 16777216 := by rw [List.length_drop]; omega
  have c_r_0_w3 := x_r.cell (i := 0) rfl
  have f_r_0_w3 := x_r.frozen 0
  have c_r_1_w3 := x_r.cell (i := 1) rfl
  have f_r_1_w3 := x_r.frozen 1
  have c_r_2_w3 := x_r.cell (i := 2) rfl
  have f_r_2_w3 := x_r.frozen 2
  have c_r_3_w3 := x_r.cell (i := 3) rfl
  have f_r_3_w3 := x_r.frozen 3
  have c_r_4_w3 := x_r.cell (i := 4) rfl
  have f_r_4_w3 := x_r.frozen 4
  have c_r_5_w3 := x_r.cell (i := 5) rfl
  have f_r_5_w3 := x_r.frozen 5
  have c_r_6_w3 := x_r.cell (i := 6) rfl
  have f_r_6_w3 := x_r.frozen 6
  have c_r_7_w3 := x_r.cell (i := 7) rfl
  have f_r_7_w3 := x_r.frozen 7
  have c_r_8_w3 := x_r.cell (i := 8) rfl
  have f_r_8_w3 := x_r.frozen 8
  go_wp2_with fail
  clear i_w3_8 i_w3_7 i_w3_6 i_w3_5 i_w3_4 i_w3_3 i_w3_2 i_w3_1 i_w3_0 c_r_0_w3 f_r_0_w3 c_r_1_w3 f_r_1_w3 c_r_2_w3 f_r_2_w3 c_r_3_w3 f_r_3_w3 c_r_4_w3 f_r_4_w3 c_r_5_w3 f_r_5_w3 c_r_6_w3 f_r_6_w3 c_r_7_w3 f_r_7_w3 c_r_8_w3 f_r_8_w3
  have HN := Lib.hid (textNo0 HWS.out HK0.out)
  go_region_with (first | (go_at_call 28; refine (iUsed_0 (w := w3.drew) x_r rfl).mono ?_; rintro e wu ⟨rfl, hbu⟩; have hb2 : Below w3.heap.size w3 wu := (Below.refl _ w3).drew.trans hbu) | (go_at_call 27; refine (iRead_none (hWD.below hb2 (by omega))).mono ?_; rintro e w' ⟨v9, rfl, hws9, rfl⟩))
  replace x_q := x_q.from_ hb2
  replace x_r := x_r.from_ hb2
  have B_wu := B_w3.trans (hb2.mono B_w3.size)
  have s_wu := hb2.size
  have c_r_0_wu := x_r.cell (i := 0) rfl
  obtain ⟨Ar, cr, rfl, -, -, -⟩ := hws9
  obtain ⟨M, hM⟩ : ∃ m, (ws.drop 1).length = m := ⟨_, rfl⟩
  rw [hM]
  by_cases hM0 : M = 0
  case neg =>
    have m1 : (0 : Int) < (M : Int) := by omega
    have sB9 := B_wu.size
    go_wp2_with (refine wpl_rstore (zs := [0, 0, 0, 0, 0, 0, 0, 0, 0]) x_q rfl rfl rfl rfl rfl rfl ?_; intro wz x_z h_z s_z)
    refine ret_cell_tmp (by rfl) (by rfl) x_z Tryd.underlying26 sz_rec (by rfl) ?_
    rw [HN.out.1, HN.out.2]
    exact ⟨_, rfl, ov_rec (d := recZ) (Nat.le_refl _), Below.chg_ B_wu h_z (by omega) (by omega)⟩
  have m1 : ¬ ((0 : Int) < (M : Int)) := by omega
  have HO : Hid (recOkB (recZ : MRec) = false) := recOk_kind (by decide)
  have rv : RV recL wu (.agg #[.int .i64 0, .int .i64 0, .int .i64 0, .int .i64 0, .int .i64 0, .int .i64 0, .int .i64 0, .int .i64 0, .int .i64 0]) recZ := rv_rec_mk (zM := ⟨0, 0, 0, 0⟩)
  go_wp2_with (refine wpl_rload x_r rfl rfl rfl rfl ?_)
  refine (iRecOk_c rv).mono ?_
  rintro e w4 ⟨rfl, h_w4⟩
  clear c_r_0_wu
  replace x_q := x_q.from_ h_w4
  replace x_r := x_r.from_ h_w4
  have B_w4 := B_wu.trans (h_w4.mono B_wu.size)
  have s_w4 := h_w4.size
  rw [HO.out]
  have sB9 := B_w4.size
  go_wp2_with (refine wpl_rstore (zs := [0, 0, 0, 0, 0, 0, 0, 0, 0]) x_q rfl rfl rfl rfl rfl rfl ?_; intro wz x_z h_z s_z)
  refine ret_cell_tmp (by rfl) (by rfl) x_z Tryd.underlying26 sz_rec (by rfl) ?_
  rw [HN.out.1, HN.out.2]
  exact ⟨_, rfl, ov_rec (d := recZ) (Nat.le_refl _), Below.chg_ B_w4 h_z (by omega) (by omega)⟩
set_option maxRecDepth 100000 in
set_option maxHeartbeats 8000000 in
theorem iText_1 {w : World} (ht : Tab10 w) (s : ByteArray) (hs : s.size ≤ 1048576) (hk0 : kindTo ((splitL s 32).getD 0 ByteArray.empty) 9 = 1) : Calls Tryd.prog 9 #[.string s] w (NewVB recL w (textRec s) (textRecB s)) := by
  obtain ⟨wa, hwa, B0, sa, x_q⟩ := frame1 w 26 [.int .i64 0, .int .i64 0, .int .i64 0, .int .i64 0, .int .i64 0, .int .i64 0, .int .i64 0, .int .i64 0, .int .i64 0]
  have sa_1 := Nat.le_of_eq sa
  have sa_2 := Nat.le_of_eq sa.symm
  clear sa
  obtain ⟨ws, hws⟩ : ∃ ws, splitL s 32 = ws := ⟨_, rfl⟩
  have hne : ws ≠ [] := by rw [← hws]; exact splitL_ne s 32
  have hlen : ws.length ≤ 16777216 := by rw [← hws]; have := splitL_len s 32; omega
  have hz : ∀ x ∈ ws, x.size ≤ 1048576 := by rw [← hws]; exact fun x hx => Nat.le_trans (splitL_size s 32 x hx) hs
  have hn : 1 ≤ ws.length := by cases ws with | nil => exact absurd rfl hne | cons a l => simp
  rw [hws] at hk0
  have HK0 := Lib.hid hk0
  have HWS := Lib.hid hws
  go_enter Tryd.func9, Tryd.ntmps9
  go_wp2_with fail
  refine (iCut_c s hs).mono ?_
  rintro e w1 ⟨v, rfl, o_v, h_w1⟩
  replace x_q := x_q.from_ h_w1
  have B_w1 := B0.trans (h_w1.mono B0.size)
  have s_w1 := h_w1.size
  rw [hws] at o_v
  clear hws hne
  obtain ⟨A, c, rfl, hc1, hc2, hr⟩ := o_v.rd (d := ByteArray.empty)
  clear o_v
  obtain ⟨B0, hB0⟩ : ∃ n, w1.heap.size = n := ⟨_, rfl⟩
  have B0l := Nat.le_of_eq hB0
  have B0r := Nat.le_of_eq hB0.symm
  rw [hB0] at hr
  clear hB0
  have hWS : WS w1 B0 (.slice A ws.length c) ws := ⟨A, c, rfl, hc1, hc2, hr⟩
  have hdr := run_wdrop A c 1 ws.length 1 rfl hn
  have hWD := hWS.drop hn
  clear hWS
  obtain ⟨g, off, hA, hg, hcell⟩ := hr (by omega)
  clear hr
  obtain ⟨y0, hy0⟩ : ∃ y, ws.getD 0 ByteArray.empty = y := ⟨_, rfl⟩
  have e0 := hcell 0 (by omega)
  rw [hy0] at e0
  simp only [Nat.add_zero] at e0
  clear hcell
  have i2 : (0 : Int) < (ws.length : Int) := by omega
  generalize hdX : (if c = 1 then A else A.map (·.add (1 * 1))) = X at hdr hWD
  clear hdX
  subst hA
  rw [hy0] at hk0
  have HK := Lib.hid hk0
  clear hk0 hy0
  go_wp2_with fail
  refine (iKindR_c y0 _).mono ?_
  rintro e w2 ⟨rfl, h_w2⟩
  replace x_q := x_q.from_ h_w2
  have B_w2 := B_w1.trans (h_w2.mono B_w1.size)
  have s_w2 := h_w2.size
  rw [HK.out]
  replace hWD := hWD.below h_w2 (by omega)
  obtain ⟨w3, e_w3, s_w3, h_w3, x_r⟩ := alloc_step w2 26 [.int .i64 1, .int .i64 0, .int .i64 0, .int .i64 0, .int .i64 0, .int .i64 0, .int .i64 0, .int .i64 0, .int .i64 0]
  have s_w3_1 := Nat.le_of_eq s_w3
  have s_w3_2 := Nat.le_of_eq s_w3.symm
  clear s_w3
  replace x_q := x_q.from_ h_w3
  have B_w3 := B_w2.trans (h_w3.mono B_w2.size)
  have i_w3_8 := x_r.same (i := 8) rfl
  have i_w3_7 := x_r.same (i := 7) rfl
  have i_w3_6 := x_r.same (i := 6) rfl
  have i_w3_5 := x_r.same (i := 5) rfl
  have i_w3_4 := x_r.same (i := 4) rfl
  have i_w3_3 := x_r.same (i := 3) rfl
  have i_w3_2 := x_r.same (i := 2) rfl
  have i_w3_1 := x_r.same (i := 1) rfl
  replace hWD := hWD.below h_w3 (by omega)
  have hz1 : ∀ x ∈ ws.drop 1, x.size ≤ 1048576 := fun x hx => hz x (List.mem_of_mem_drop hx)
  have hm1 : (ws.drop 1).length ≤ 16777216 := by rw [List.length_drop]; omega
  have c_r_0_w3 := x_r.cell (i := 0) rfl
  have f_r_0_w3 := x_r.frozen 0
  have c_r_1_w3 := x_r.cell (i := 1) rfl
  have f_r_1_w3 := x_r.frozen 1
  have c_r_2_w3 := x_r.cell (i := 2) rfl
  have f_r_2_w3 := x_r.frozen 2
  have c_r_3_w3 := x_r.cell (i := 3) rfl
  have f_r_3_w3 := x_r.frozen 3
  have c_r_4_w3 := x_r.cell (i := 4) rfl
  have f_r_4_w3 := x_r.frozen 4
  have c_r_5_w3 := x_r.cell (i := 5) rfl
  have f_r_5_w3 := x_r.frozen 5
  have c_r_6_w3 := x_r.cell (i := 6) rfl
  have f_r_6_w3 := x_r.frozen 6
  have c_r_7_w3 := x_r.cell (i := 7) rfl
  have f_r_7_w3 := x_r.frozen 7
  have c_r_8_w3 := x_r.cell (i := 8) rfl
  have f_r_8_w3 := x_r.frozen 8
  go_wp2_with fail
  clear i_w3_8 i_w3_7 i_w3_6 i_w3_5 i_w3_4 i_w3_3 i_w3_2 i_w3_1 c_r_0_w3 f_r_0_w3 c_r_1_w3 f_r_1_w3 c_r_2_w3 f_r_2_w3 c_r_3_w3 f_r_3_w3 c_r_4_w3 f_r_4_w3 c_r_5_w3 f_r_5_w3 c_r_6_w3 f_r_6_w3 c_r_7_w3 f_r_7_w3 c_r_8_w3 f_r_8_w3
  go_region_with (first | (go_at_call 28; refine (iUsed_1 (w := w3.drew) x_r rfl).mono ?_; rintro e wu ⟨B, U, rfl, x_l, hB, hbu⟩; replace hB : w3.heap.size ≤ B := hB; have hb2 : Below w3.heap.size w3 wu := (Below.refl _ w3).drew.trans hbu) | (go_at_call 27; refine (iRead_acctAmt ht (B_w3.trans (hb2.mono B_w3.size)) (by omega) (by omega) (x_r.from_ hb2) x_l (by omega) (hWD.below hb2 (by omega)) hz1 hm1).mono ?_; rintro e wz ⟨v9, ok, rfl, hp, hC⟩))
  replace x_q := x_q.from_ hb2
  replace x_r := x_r.from_ hb2
  have B_wu := B_w3.trans (hb2.mono B_w3.size)
  have s_wu := hb2.size
  replace x_q := x_q.chg hC (by omega)
  have B_wz := Below.chg_ B_wu hC (by omega) (by omega)
  have s_wz := hC.size
  rcases hp with ⟨rfl, p2, x_r, p4⟩ | ⟨rfl, p2, rfl, cs9, x_r⟩
  case inr =>
    have HN := Lib.hid (textNo1 HWS.out (by rw [okT_ne HK0.out (by decide) (show nF 1 = 2 from rfl) hn, p2]; rfl))
    have sB9 := B_wz.size
    go_wp2_with (refine wpl_rstore (zs := [0, 0, 0, 0, 0, 0, 0, 0, 0]) x_q rfl rfl rfl rfl rfl rfl ?_; intro wz x_z h_z s_z)
    refine ret_cell_tmp (by rfl) (by rfl) x_z Tryd.underlying26 sz_rec (by rfl) ?_
    rw [HN.out.1, HN.out.2]
    exact ⟨_, rfl, ov_rec (d := recZ) (Nat.le_refl _), Below.chg_ B_wz h_z (by omega) (by omega)⟩
  obtain ⟨t1, ht1⟩ : ∃ z, txN ((ws.drop 1).getD 0 ByteArray.empty) = z := ⟨_, rfl⟩
  obtain ⟨t4, ht4⟩ : ∃ z, txN ((ws.drop 1).getD 1 ByteArray.empty) = z := ⟨_, rfl⟩
  rw [ht1, ht4] at x_r
  have pl : 2 ≤ (ws.drop 1).length := ((okN_iff _ _).1 p2).1
  have c_r_0_wz := x_r.cell (i := 0) rfl
  have hOf := recOf_1 HK0.out pl
  rw [ht1, ht4] at hOf
  have HOf := Lib.hid hOf
  clear hOf ht1 ht4
  have hT := okT_ne HK0.out (by decide) (show nF 1 = 2 from rfl) hn
  rw [p2] at hT
  have HT := Lib.hid hT
  clear hT p2
  obtain ⟨Ar, cr, rfl, -, -, -⟩ := p4
  obtain ⟨M, hM⟩ : ∃ m, ((ws.drop 1).drop 2).length = m := ⟨_, rfl⟩
  rw [hM]
  have HTM := HT.out
  rw [hM] at HTM
  have HTM := Lib.hid HTM
  by_cases hM0 : M = 0
  case neg =>
    have m1 : (0 : Int) < (M : Int) := by omega
    have HN := Lib.hid (textNo1 HWS.out (by rw [HTM.out]; simp [hM0]))
    have sB9 := B_wz.size
    go_wp2_with (refine wpl_rstore (zs := [0, 0, 0, 0, 0, 0, 0, 0, 0]) x_q rfl rfl rfl rfl rfl rfl ?_; intro wz x_z h_z s_z)
    refine ret_cell_tmp (by rfl) (by rfl) x_z Tryd.underlying26 sz_rec (by rfl) ?_
    rw [HN.out.1, HN.out.2]
    exact ⟨_, rfl, ov_rec (d := recZ) (Nat.le_refl _), Below.chg_ B_wz h_z (by omega) (by omega)⟩
  have m1 : ¬ ((0 : Int) < (M : Int)) := by omega
  obtain ⟨ob, hob⟩ : ∃ b, recOkB (⟨1, t1, 0, 0, t4, ⟨0, 0, 0, 0⟩⟩ : MRec) = b := ⟨_, rfl⟩
  have HO := Lib.hid hob
  clear hob
  have rv : RV recL wz (.agg #[.int .i64 1, .int .i64 t1, .int .i64 0, .int .i64 0, .int .i64 t4, .int .i64 0, .int .i64 0, .int .i64 0, .int .i64 0]) (⟨1, t1, 0, 0, t4, ⟨0, 0, 0, 0⟩⟩ : MRec) := rv_rec_mk (zM := ⟨0, 0, 0, 0⟩)
  go_wp2_with (refine wpl_rload x_r rfl rfl rfl rfl ?_)
  refine (iRecOk_c rv).mono ?_
  rintro e w4 ⟨rfl, h_w4⟩
  clear c_r_0_wz
  replace x_q := x_q.from_ h_w4
  replace x_r := x_r.from_ h_w4
  have B_w4 := B_wz.trans (h_w4.mono B_wz.size)
  have s_w4 := h_w4.size
  rw [HO.out]
  cases ob with
  | false =>
    have HN := Lib.hid (textNo2 HWS.out HOf.out HO.out)
    have sB9 := B_w4.size
    go_wp2_with (refine wpl_rstore (zs := [0, 0, 0, 0, 0, 0, 0, 0, 0]) x_q rfl rfl rfl rfl rfl rfl ?_; intro wz x_z h_z s_z)
    refine ret_cell_tmp (by rfl) (by rfl) x_z Tryd.underlying26 sz_rec (by rfl) ?_
    rw [HN.out.1, HN.out.2]
    exact ⟨_, rfl, ov_rec (d := recZ) (Nat.le_refl _), Below.chg_ B_w4 h_z (by omega) (by omega)⟩
  | true =>
    have HN := Lib.hid (textYes HWS.out HOf.out (by rw [HTM.out]; simp [hM0]) HO.out)
    have sB9 := B_w4.size
    go_wp2_with (first | refine wpl_rload x_r rfl rfl rfl rfl ?_ | (refine wpl_rstore (zs := [1, t1, 0, 0, t4, 0, 0, 0, 0]) x_q rfl rfl rfl rfl rfl rfl ?_; intro wz x_z h_z s_z))
    refine ret_cell_tmp (by rfl) (by rfl) x_z Tryd.underlying26 sz_rec (by rfl) ?_
    rw [HN.out.1, HN.out.2]
    exact ⟨_, rfl, ov_rec (d := ⟨1, t1, 0, 0, t4, ⟨0, 0, 0, 0⟩⟩) (Nat.le_refl _), Below.chg_ B_w4 h_z (by omega) (by omega)⟩
set_option maxRecDepth 100000 in
set_option maxHeartbeats 8000000 in
theorem iText_2 {w : World} (ht : Tab10 w) (s : ByteArray) (hs : s.size ≤ 1048576) (hk0 : kindTo ((splitL s 32).getD 0 ByteArray.empty) 9 = 2) : Calls Tryd.prog 9 #[.string s] w (NewVB recL w (textRec s) (textRecB s)) := by
  obtain ⟨wa, hwa, B0, sa, x_q⟩ := frame1 w 26 [.int .i64 0, .int .i64 0, .int .i64 0, .int .i64 0, .int .i64 0, .int .i64 0, .int .i64 0, .int .i64 0, .int .i64 0]
  have sa_1 := Nat.le_of_eq sa
  have sa_2 := Nat.le_of_eq sa.symm
  clear sa
  obtain ⟨ws, hws⟩ : ∃ ws, splitL s 32 = ws := ⟨_, rfl⟩
  have hne : ws ≠ [] := by rw [← hws]; exact splitL_ne s 32
  have hlen : ws.length ≤ 16777216 := by rw [← hws]; have := splitL_len s 32; omega
  have hz : ∀ x ∈ ws, x.size ≤ 1048576 := by rw [← hws]; exact fun x hx => Nat.le_trans (splitL_size s 32 x hx) hs
  have hn : 1 ≤ ws.length := by cases ws with | nil => exact absurd rfl hne | cons a l => simp
  rw [hws] at hk0
  have HK0 := Lib.hid hk0
  have HWS := Lib.hid hws
  go_enter Tryd.func9, Tryd.ntmps9
  go_wp2_with fail
  refine (iCut_c s hs).mono ?_
  rintro e w1 ⟨v, rfl, o_v, h_w1⟩
  replace x_q := x_q.from_ h_w1
  have B_w1 := B0.trans (h_w1.mono B0.size)
  have s_w1 := h_w1.size
  rw [hws] at o_v
  clear hws hne
  obtain ⟨A, c, rfl, hc1, hc2, hr⟩ := o_v.rd (d := ByteArray.empty)
  clear o_v
  obtain ⟨B0, hB0⟩ : ∃ n, w1.heap.size = n := ⟨_, rfl⟩
  have B0l := Nat.le_of_eq hB0
  have B0r := Nat.le_of_eq hB0.symm
  rw [hB0] at hr
  clear hB0
  have hWS : WS w1 B0 (.slice A ws.length c) ws := ⟨A, c, rfl, hc1, hc2, hr⟩
  have hdr := run_wdrop A c 1 ws.length 1 rfl hn
  have hWD := hWS.drop hn
  clear hWS
  obtain ⟨g, off, hA, hg, hcell⟩ := hr (by omega)
  clear hr
  obtain ⟨y0, hy0⟩ : ∃ y, ws.getD 0 ByteArray.empty = y := ⟨_, rfl⟩
  have e0 := hcell 0 (by omega)
  rw [hy0] at e0
  simp only [Nat.add_zero] at e0
  clear hcell
  have i2 : (0 : Int) < (ws.length : Int) := by omega
  generalize hdX : (if c = 1 then A else A.map (·.add (1 * 1))) = X at hdr hWD
  clear hdX
  subst hA
  rw [hy0] at hk0
  have HK := Lib.hid hk0
  clear hk0 hy0
  go_wp2_with fail
  refine (iKindR_c y0 _).mono ?_
  rintro e w2 ⟨rfl, h_w2⟩
  replace x_q := x_q.from_ h_w2
  have B_w2 := B_w1.trans (h_w2.mono B_w1.size)
  have s_w2 := h_w2.size
  rw [HK.out]
  replace hWD := hWD.below h_w2 (by omega)
  obtain ⟨w3, e_w3, s_w3, h_w3, x_r⟩ := alloc_step w2 26 [.int .i64 2, .int .i64 0, .int .i64 0, .int .i64 0, .int .i64 0, .int .i64 0, .int .i64 0, .int .i64 0, .int .i64 0]
  have s_w3_1 := Nat.le_of_eq s_w3
  have s_w3_2 := Nat.le_of_eq s_w3.symm
  clear s_w3
  replace x_q := x_q.from_ h_w3
  have B_w3 := B_w2.trans (h_w3.mono B_w2.size)
  have i_w3_8 := x_r.same (i := 8) rfl
  have i_w3_7 := x_r.same (i := 7) rfl
  have i_w3_6 := x_r.same (i := 6) rfl
  have i_w3_5 := x_r.same (i := 5) rfl
  have i_w3_4 := x_r.same (i := 4) rfl
  have i_w3_3 := x_r.same (i := 3) rfl
  have i_w3_2 := x_r.same (i := 2) rfl
  have i_w3_1 := x_r.same (i := 1) rfl
  replace hWD := hWD.below h_w3 (by omega)
  have hz1 : ∀ x ∈ ws.drop 1, x.size ≤ 1048576 := fun x hx => hz x (List.mem_of_mem_drop hx)
  have hm1 : (ws.drop 1).length ≤ 16777216 := by rw [List.length_drop]; omega
  have c_r_0_w3 := x_r.cell (i := 0) rfl
  have f_r_0_w3 := x_r.frozen 0
  have c_r_1_w3 := x_r.cell (i := 1) rfl
  have f_r_1_w3 := x_r.frozen 1
  have c_r_2_w3 := x_r.cell (i := 2) rfl
  have f_r_2_w3 := x_r.frozen 2
  have c_r_3_w3 := x_r.cell (i := 3) rfl
  have f_r_3_w3 := x_r.frozen 3
  have c_r_4_w3 := x_r.cell (i := 4) rfl
  have f_r_4_w3 := x_r.frozen 4
  have c_r_5_w3 := x_r.cell (i := 5) rfl
  have f_r_5_w3 := x_r.frozen 5
  have c_r_6_w3 := x_r.cell (i := 6) rfl
  have f_r_6_w3 := x_r.frozen 6
  have c_r_7_w3 := x_r.cell (i := 7) rfl
  have f_r_7_w3 := x_r.frozen 7
  have c_r_8_w3 := x_r.cell (i := 8) rfl
  have f_r_8_w3 := x_r.frozen 8
  go_wp2_with fail
  clear i_w3_8 i_w3_7 i_w3_6 i_w3_5 i_w3_4 i_w3_3 i_w3_2 i_w3_1 c_r_0_w3 f_r_0_w3 c_r_1_w3 f_r_1_w3 c_r_2_w3 f_r_2_w3 c_r_3_w3 f_r_3_w3 c_r_4_w3 f_r_4_w3 c_r_5_w3 f_r_5_w3 c_r_6_w3 f_r_6_w3 c_r_7_w3 f_r_7_w3 c_r_8_w3 f_r_8_w3
  go_region_with (first | (go_at_call 28; refine (iUsed_2 (w := w3.drew) x_r rfl).mono ?_; rintro e wu ⟨B, U, rfl, x_l, hB, hbu⟩; replace hB : w3.heap.size ≤ B := hB; have hb2 : Below w3.heap.size w3 wu := (Below.refl _ w3).drew.trans hbu) | (go_at_call 27; refine (iRead_acctAmt ht (B_w3.trans (hb2.mono B_w3.size)) (by omega) (by omega) (x_r.from_ hb2) x_l (by omega) (hWD.below hb2 (by omega)) hz1 hm1).mono ?_; rintro e wz ⟨v9, ok, rfl, hp, hC⟩))
  replace x_q := x_q.from_ hb2
  replace x_r := x_r.from_ hb2
  have B_wu := B_w3.trans (hb2.mono B_w3.size)
  have s_wu := hb2.size
  replace x_q := x_q.chg hC (by omega)
  have B_wz := Below.chg_ B_wu hC (by omega) (by omega)
  have s_wz := hC.size
  rcases hp with ⟨rfl, p2, x_r, p4⟩ | ⟨rfl, p2, rfl, cs9, x_r⟩
  case inr =>
    have HN := Lib.hid (textNo1 HWS.out (by rw [okT_ne HK0.out (by decide) (show nF 2 = 2 from rfl) hn, p2]; rfl))
    have sB9 := B_wz.size
    go_wp2_with (refine wpl_rstore (zs := [0, 0, 0, 0, 0, 0, 0, 0, 0]) x_q rfl rfl rfl rfl rfl rfl ?_; intro wz x_z h_z s_z)
    refine ret_cell_tmp (by rfl) (by rfl) x_z Tryd.underlying26 sz_rec (by rfl) ?_
    rw [HN.out.1, HN.out.2]
    exact ⟨_, rfl, ov_rec (d := recZ) (Nat.le_refl _), Below.chg_ B_wz h_z (by omega) (by omega)⟩
  obtain ⟨t1, ht1⟩ : ∃ z, txN ((ws.drop 1).getD 0 ByteArray.empty) = z := ⟨_, rfl⟩
  obtain ⟨t4, ht4⟩ : ∃ z, txN ((ws.drop 1).getD 1 ByteArray.empty) = z := ⟨_, rfl⟩
  rw [ht1, ht4] at x_r
  have pl : 2 ≤ (ws.drop 1).length := ((okN_iff _ _).1 p2).1
  have c_r_0_wz := x_r.cell (i := 0) rfl
  have hOf := recOf_2 HK0.out pl
  rw [ht1, ht4] at hOf
  have HOf := Lib.hid hOf
  clear hOf ht1 ht4
  have hT := okT_ne HK0.out (by decide) (show nF 2 = 2 from rfl) hn
  rw [p2] at hT
  have HT := Lib.hid hT
  clear hT p2
  obtain ⟨Ar, cr, rfl, -, -, -⟩ := p4
  obtain ⟨M, hM⟩ : ∃ m, ((ws.drop 1).drop 2).length = m := ⟨_, rfl⟩
  rw [hM]
  have HTM := HT.out
  rw [hM] at HTM
  have HTM := Lib.hid HTM
  by_cases hM0 : M = 0
  case neg =>
    have m1 : (0 : Int) < (M : Int) := by omega
    have HN := Lib.hid (textNo1 HWS.out (by rw [HTM.out]; simp [hM0]))
    have sB9 := B_wz.size
    go_wp2_with (refine wpl_rstore (zs := [0, 0, 0, 0, 0, 0, 0, 0, 0]) x_q rfl rfl rfl rfl rfl rfl ?_; intro wz x_z h_z s_z)
    refine ret_cell_tmp (by rfl) (by rfl) x_z Tryd.underlying26 sz_rec (by rfl) ?_
    rw [HN.out.1, HN.out.2]
    exact ⟨_, rfl, ov_rec (d := recZ) (Nat.le_refl _), Below.chg_ B_wz h_z (by omega) (by omega)⟩
  have m1 : ¬ ((0 : Int) < (M : Int)) := by omega
  obtain ⟨ob, hob⟩ : ∃ b, recOkB (⟨2, t1, 0, 0, t4, ⟨0, 0, 0, 0⟩⟩ : MRec) = b := ⟨_, rfl⟩
  have HO := Lib.hid hob
  clear hob
  have rv : RV recL wz (.agg #[.int .i64 2, .int .i64 t1, .int .i64 0, .int .i64 0, .int .i64 t4, .int .i64 0, .int .i64 0, .int .i64 0, .int .i64 0]) (⟨2, t1, 0, 0, t4, ⟨0, 0, 0, 0⟩⟩ : MRec) := rv_rec_mk (zM := ⟨0, 0, 0, 0⟩)
  go_wp2_with (refine wpl_rload x_r rfl rfl rfl rfl ?_)
  refine (iRecOk_c rv).mono ?_
  rintro e w4 ⟨rfl, h_w4⟩
  clear c_r_0_wz
  replace x_q := x_q.from_ h_w4
  replace x_r := x_r.from_ h_w4
  have B_w4 := B_wz.trans (h_w4.mono B_wz.size)
  have s_w4 := h_w4.size
  rw [HO.out]
  cases ob with
  | false =>
    have HN := Lib.hid (textNo2 HWS.out HOf.out HO.out)
    have sB9 := B_w4.size
    go_wp2_with (refine wpl_rstore (zs := [0, 0, 0, 0, 0, 0, 0, 0, 0]) x_q rfl rfl rfl rfl rfl rfl ?_; intro wz x_z h_z s_z)
    refine ret_cell_tmp (by rfl) (by rfl) x_z Tryd.underlying26 sz_rec (by rfl) ?_
    rw [HN.out.1, HN.out.2]
    exact ⟨_, rfl, ov_rec (d := recZ) (Nat.le_refl _), Below.chg_ B_w4 h_z (by omega) (by omega)⟩
  | true =>
    have HN := Lib.hid (textYes HWS.out HOf.out (by rw [HTM.out]; simp [hM0]) HO.out)
    have sB9 := B_w4.size
    go_wp2_with (first | refine wpl_rload x_r rfl rfl rfl rfl ?_ | (refine wpl_rstore (zs := [2, t1, 0, 0, t4, 0, 0, 0, 0]) x_q rfl rfl rfl rfl rfl rfl ?_; intro wz x_z h_z s_z))
    refine ret_cell_tmp (by rfl) (by rfl) x_z Tryd.underlying26 sz_rec (by rfl) ?_
    rw [HN.out.1, HN.out.2]
    exact ⟨_, rfl, ov_rec (d := ⟨2, t1, 0, 0, t4, ⟨0, 0, 0, 0⟩⟩) (Nat.le_refl _), Below.chg_ B_w4 h_z (by omega) (by omega)⟩
end Go.Proofs.YtkbhbccpmmhelaaDoor
namespace Go.Proofs.YtkbhbccpmmhelaaDoor
open Go.RowKit
set_option linter.unusedVariables false
set_option linter.unusedSimpArgs false
set_option maxRecDepth 100000 in
set_option maxHeartbeats 8000000 in
theorem iText_3 {w : World} (ht : Tab10 w) (s : ByteArray) (hs : s.size ≤ 1048576) (hk0 : kindTo ((splitL s 32).getD 0 ByteArray.empty) 9 = 3) : Calls Tryd.prog 9 #[.string s] w (NewVB recL w (textRec s) (textRecB s)) := by
  obtain ⟨wa, hwa, B0, sa, x_q⟩ := frame1 w 26 [.int .i64 0, .int .i64 0, .int .i64 0, .int .i64 0, .int .i64 0, .int .i64 0, .int .i64 0, .int .i64 0, .int .i64 0]
  have sa_1 := Nat.le_of_eq sa
  have sa_2 := Nat.le_of_eq sa.symm
  clear sa
  obtain ⟨ws, hws⟩ : ∃ ws, splitL s 32 = ws := ⟨_, rfl⟩
  have hne : ws ≠ [] := by rw [← hws]; exact splitL_ne s 32
  have hlen : ws.length ≤ 16777216 := by rw [← hws]; have := splitL_len s 32; omega
  have hz : ∀ x ∈ ws, x.size ≤ 1048576 := by rw [← hws]; exact fun x hx => Nat.le_trans (splitL_size s 32 x hx) hs
  have hn : 1 ≤ ws.length := by cases ws with | nil => exact absurd rfl hne | cons a l => simp
  rw [hws] at hk0
  have HK0 := Lib.hid hk0
  have HWS := Lib.hid hws
  go_enter Tryd.func9, Tryd.ntmps9
  go_wp2_with fail
  refine (iCut_c s hs).mono ?_
  rintro e w1 ⟨v, rfl, o_v, h_w1⟩
  replace x_q := x_q.from_ h_w1
  have B_w1 := B0.trans (h_w1.mono B0.size)
  have s_w1 := h_w1.size
  rw [hws] at o_v
  clear hws hne
  obtain ⟨A, c, rfl, hc1, hc2, hr⟩ := o_v.rd (d := ByteArray.empty)
  clear o_v
  obtain ⟨B0, hB0⟩ : ∃ n, w1.heap.size = n := ⟨_, rfl⟩
  have B0l := Nat.le_of_eq hB0
  have B0r := Nat.le_of_eq hB0.symm
  rw [hB0] at hr
  clear hB0
  have hWS : WS w1 B0 (.slice A ws.length c) ws := ⟨A, c, rfl, hc1, hc2, hr⟩
  have hdr := run_wdrop A c 1 ws.length 1 rfl hn
  have hWD := hWS.drop hn
  clear hWS
  obtain ⟨g, off, hA, hg, hcell⟩ := hr (by omega)
  clear hr
  obtain ⟨y0, hy0⟩ : ∃ y, ws.getD 0 ByteArray.empty = y := ⟨_, rfl⟩
  have e0 := hcell 0 (by omega)
  rw [hy0] at e0
  simp only [Nat.add_zero] at e0
  clear hcell
  have i2 : (0 : Int) < (ws.length : Int) := by omega
  generalize hdX : (if c = 1 then A else A.map (·.add (1 * 1))) = X at hdr hWD
  clear hdX
  subst hA
  rw [hy0] at hk0
  have HK := Lib.hid hk0
  clear hk0 hy0
  go_wp2_with fail
  refine (iKindR_c y0 _).mono ?_
  rintro e w2 ⟨rfl, h_w2⟩
  replace x_q := x_q.from_ h_w2
  have B_w2 := B_w1.trans (h_w2.mono B_w1.size)
  have s_w2 := h_w2.size
  rw [HK.out]
  replace hWD := hWD.below h_w2 (by omega)
  obtain ⟨w3, e_w3, s_w3, h_w3, x_r⟩ := alloc_step w2 26 [.int .i64 3, .int .i64 0, .int .i64 0, .int .i64 0, .int .i64 0, .int .i64 0, .int .i64 0, .int .i64 0, .int .i64 0]
  have s_w3_1 := Nat.le_of_eq s_w3
  have s_w3_2 := Nat.le_of_eq s_w3.symm
  clear s_w3
  replace x_q := x_q.from_ h_w3
  have B_w3 := B_w2.trans (h_w3.mono B_w2.size)
  have i_w3_8 := x_r.same (i := 8) rfl
  have i_w3_7 := x_r.same (i := 7) rfl
  have i_w3_6 := x_r.same (i := 6) rfl
  have i_w3_5 := x_r.same (i := 5) rfl
  have i_w3_4 := x_r.same (i := 4) rfl
  have i_w3_3 := x_r.same (i := 3) rfl
  have i_w3_2 := x_r.same (i := 2) rfl
  have i_w3_1 := x_r.same (i := 1) rfl
  replace hWD := hWD.below h_w3 (by omega)
  have hz1 : ∀ x ∈ ws.drop 1, x.size ≤ 1048576 := fun x hx => hz x (List.mem_of_mem_drop hx)
  have hm1 : (ws.drop 1).length ≤ 16777216 := by rw [List.length_drop]; omega
  have c_r_0_w3 := x_r.cell (i := 0) rfl
  have f_r_0_w3 := x_r.frozen 0
  have c_r_1_w3 := x_r.cell (i := 1) rfl
  have f_r_1_w3 := x_r.frozen 1
  have c_r_2_w3 := x_r.cell (i := 2) rfl
  have f_r_2_w3 := x_r.frozen 2
  have c_r_3_w3 := x_r.cell (i := 3) rfl
  have f_r_3_w3 := x_r.frozen 3
  have c_r_4_w3 := x_r.cell (i := 4) rfl
  have f_r_4_w3 := x_r.frozen 4
  have c_r_5_w3 := x_r.cell (i := 5) rfl
  have f_r_5_w3 := x_r.frozen 5
  have c_r_6_w3 := x_r.cell (i := 6) rfl
  have f_r_6_w3 := x_r.frozen 6
  have c_r_7_w3 := x_r.cell (i := 7) rfl
  have f_r_7_w3 := x_r.frozen 7
  have c_r_8_w3 := x_r.cell (i := 8) rfl
  have f_r_8_w3 := x_r.frozen 8
  go_wp2_with fail
  clear i_w3_8 i_w3_7 i_w3_6 i_w3_5 i_w3_4 i_w3_3 i_w3_2 i_w3_1 c_r_0_w3 f_r_0_w3 c_r_1_w3 f_r_1_w3 c_r_2_w3 f_r_2_w3 c_r_3_w3 f_r_3_w3 c_r_4_w3 f_r_4_w3 c_r_5_w3 f_r_5_w3 c_r_6_w3 f_r_6_w3 c_r_7_w3 f_r_7_w3 c_r_8_w3 f_r_8_w3
  go_region_with (first | (go_at_call 28; refine (iUsed_3 (w := w3.drew) x_r rfl).mono ?_; rintro e wu ⟨B, U, rfl, x_l, hB, hbu⟩; replace hB : w3.heap.size ≤ B := hB; have hb2 : Below w3.heap.size w3 wu := (Below.refl _ w3).drew.trans hbu) | (go_at_call 27; refine (iRead_acctToAmt ht (B_w3.trans (hb2.mono B_w3.size)) (by omega) (by omega) (x_r.from_ hb2) x_l (by omega) (hWD.below hb2 (by omega)) hz1 hm1).mono ?_; rintro e wz ⟨v9, ok, rfl, hp, hC⟩))
  replace x_q := x_q.from_ hb2
  replace x_r := x_r.from_ hb2
  have B_wu := B_w3.trans (hb2.mono B_w3.size)
  have s_wu := hb2.size
  replace x_q := x_q.chg hC (by omega)
  have B_wz := Below.chg_ B_wu hC (by omega) (by omega)
  have s_wz := hC.size
  rcases hp with ⟨rfl, p2, x_r, p4⟩ | ⟨rfl, p2, rfl, cs9, x_r⟩
  case inr =>
    have HN := Lib.hid (textNo1 HWS.out (by rw [okT_ne HK0.out (by decide) (show nF 3 = 3 from rfl) hn, p2]; rfl))
    have sB9 := B_wz.size
    go_wp2_with (refine wpl_rstore (zs := [0, 0, 0, 0, 0, 0, 0, 0, 0]) x_q rfl rfl rfl rfl rfl rfl ?_; intro wz x_z h_z s_z)
    refine ret_cell_tmp (by rfl) (by rfl) x_z Tryd.underlying26 sz_rec (by rfl) ?_
    rw [HN.out.1, HN.out.2]
    exact ⟨_, rfl, ov_rec (d := recZ) (Nat.le_refl _), Below.chg_ B_wz h_z (by omega) (by omega)⟩
  obtain ⟨t1, ht1⟩ : ∃ z, txN ((ws.drop 1).getD 0 ByteArray.empty) = z := ⟨_, rfl⟩
  obtain ⟨t3, ht3⟩ : ∃ z, txN ((ws.drop 1).getD 1 ByteArray.empty) = z := ⟨_, rfl⟩
  obtain ⟨t4, ht4⟩ : ∃ z, txN ((ws.drop 1).getD 2 ByteArray.empty) = z := ⟨_, rfl⟩
  rw [ht1, ht3, ht4] at x_r
  have pl : 3 ≤ (ws.drop 1).length := ((okN_iff _ _).1 p2).1
  have c_r_0_wz := x_r.cell (i := 0) rfl
  have hOf := recOf_3 HK0.out pl
  rw [ht1, ht3, ht4] at hOf
  have HOf := Lib.hid hOf
  clear hOf ht1 ht3 ht4
  have hT := okT_ne HK0.out (by decide) (show nF 3 = 3 from rfl) hn
  rw [p2] at hT
  have HT := Lib.hid hT
  clear hT p2
  obtain ⟨Ar, cr, rfl, -, -, -⟩ := p4
  obtain ⟨M, hM⟩ : ∃ m, ((ws.drop 1).drop 3).length = m := ⟨_, rfl⟩
  rw [hM]
  have HTM := HT.out
  rw [hM] at HTM
  have HTM := Lib.hid HTM
  by_cases hM0 : M = 0
  case neg =>
    have m1 : (0 : Int) < (M : Int) := by omega
    have HN := Lib.hid (textNo1 HWS.out (by rw [HTM.out]; simp [hM0]))
    have sB9 := B_wz.size
    go_wp2_with (refine wpl_rstore (zs := [0, 0, 0, 0, 0, 0, 0, 0, 0]) x_q rfl rfl rfl rfl rfl rfl ?_; intro wz x_z h_z s_z)
    refine ret_cell_tmp (by rfl) (by rfl) x_z Tryd.underlying26 sz_rec (by rfl) ?_
    rw [HN.out.1, HN.out.2]
    exact ⟨_, rfl, ov_rec (d := recZ) (Nat.le_refl _), Below.chg_ B_wz h_z (by omega) (by omega)⟩
  have m1 : ¬ ((0 : Int) < (M : Int)) := by omega
  obtain ⟨ob, hob⟩ : ∃ b, recOkB (⟨3, t1, 0, t3, t4, ⟨0, 0, 0, 0⟩⟩ : MRec) = b := ⟨_, rfl⟩
  have HO := Lib.hid hob
  clear hob
  have rv : RV recL wz (.agg #[.int .i64 3, .int .i64 t1, .int .i64 0, .int .i64 t3, .int .i64 t4, .int .i64 0, .int .i64 0, .int .i64 0, .int .i64 0]) (⟨3, t1, 0, t3, t4, ⟨0, 0, 0, 0⟩⟩ : MRec) := rv_rec_mk (zM := ⟨0, 0, 0, 0⟩)
  go_wp2_with (refine wpl_rload x_r rfl rfl rfl rfl ?_)
  refine (iRecOk_c rv).mono ?_
  rintro e w4 ⟨rfl, h_w4⟩
  clear c_r_0_wz
  replace x_q := x_q.from_ h_w4
  replace x_r := x_r.from_ h_w4
  have B_w4 := B_wz.trans (h_w4.mono B_wz.size)
  have s_w4 := h_w4.size
  rw [HO.out]
  cases ob with
  | false =>
    have HN := Lib.hid (textNo2 HWS.out HOf.out HO.out)
    have sB9 := B_w4.size
    go_wp2_with (refine wpl_rstore (zs := [0, 0, 0, 0, 0, 0, 0, 0, 0]) x_q rfl rfl rfl rfl rfl rfl ?_; intro wz x_z h_z s_z)
    refine ret_cell_tmp (by rfl) (by rfl) x_z Tryd.underlying26 sz_rec (by rfl) ?_
    rw [HN.out.1, HN.out.2]
    exact ⟨_, rfl, ov_rec (d := recZ) (Nat.le_refl _), Below.chg_ B_w4 h_z (by omega) (by omega)⟩
  | true =>
    have HN := Lib.hid (textYes HWS.out HOf.out (by rw [HTM.out]; simp [hM0]) HO.out)
    have sB9 := B_w4.size
    go_wp2_with (first | refine wpl_rload x_r rfl rfl rfl rfl ?_ | (refine wpl_rstore (zs := [3, t1, 0, t3, t4, 0, 0, 0, 0]) x_q rfl rfl rfl rfl rfl rfl ?_; intro wz x_z h_z s_z))
    refine ret_cell_tmp (by rfl) (by rfl) x_z Tryd.underlying26 sz_rec (by rfl) ?_
    rw [HN.out.1, HN.out.2]
    exact ⟨_, rfl, ov_rec (d := ⟨3, t1, 0, t3, t4, ⟨0, 0, 0, 0⟩⟩) (Nat.le_refl _), Below.chg_ B_w4 h_z (by omega) (by omega)⟩
set_option maxRecDepth 100000 in
set_option maxHeartbeats 8000000 in
theorem iText_4 {w : World} (ht : Tab10 w) (s : ByteArray) (hs : s.size ≤ 1048576) (hk0 : kindTo ((splitL s 32).getD 0 ByteArray.empty) 9 = 4) : Calls Tryd.prog 9 #[.string s] w (NewVB recL w (textRec s) (textRecB s)) := by
  obtain ⟨wa, hwa, B0, sa, x_q⟩ := frame1 w 26 [.int .i64 0, .int .i64 0, .int .i64 0, .int .i64 0, .int .i64 0, .int .i64 0, .int .i64 0, .int .i64 0, .int .i64 0]
  have sa_1 := Nat.le_of_eq sa
  have sa_2 := Nat.le_of_eq sa.symm
  clear sa
  obtain ⟨ws, hws⟩ : ∃ ws, splitL s 32 = ws := ⟨_, rfl⟩
  have hne : ws ≠ [] := by rw [← hws]; exact splitL_ne s 32
  have hlen : ws.length ≤ 16777216 := by rw [← hws]; have := splitL_len s 32; omega
  have hz : ∀ x ∈ ws, x.size ≤ 1048576 := by rw [← hws]; exact fun x hx => Nat.le_trans (splitL_size s 32 x hx) hs
  have hn : 1 ≤ ws.length := by cases ws with | nil => exact absurd rfl hne | cons a l => simp
  rw [hws] at hk0
  have HK0 := Lib.hid hk0
  have HWS := Lib.hid hws
  go_enter Tryd.func9, Tryd.ntmps9
  go_wp2_with fail
  refine (iCut_c s hs).mono ?_
  rintro e w1 ⟨v, rfl, o_v, h_w1⟩
  replace x_q := x_q.from_ h_w1
  have B_w1 := B0.trans (h_w1.mono B0.size)
  have s_w1 := h_w1.size
  rw [hws] at o_v
  clear hws hne
  obtain ⟨A, c, rfl, hc1, hc2, hr⟩ := o_v.rd (d := ByteArray.empty)
  clear o_v
  obtain ⟨B0, hB0⟩ : ∃ n, w1.heap.size = n := ⟨_, rfl⟩
  have B0l := Nat.le_of_eq hB0
  have B0r := Nat.le_of_eq hB0.symm
  rw [hB0] at hr
  clear hB0
  have hWS : WS w1 B0 (.slice A ws.length c) ws := ⟨A, c, rfl, hc1, hc2, hr⟩
  have hdr := run_wdrop A c 1 ws.length 1 rfl hn
  have hWD := hWS.drop hn
  clear hWS
  obtain ⟨g, off, hA, hg, hcell⟩ := hr (by omega)
  clear hr
  obtain ⟨y0, hy0⟩ : ∃ y, ws.getD 0 ByteArray.empty = y := ⟨_, rfl⟩
  have e0 := hcell 0 (by omega)
  rw [hy0] at e0
  simp only [Nat.add_zero] at e0
  clear hcell
  have i2 : (0 : Int) < (ws.length : Int) := by omega
  generalize hdX : (if c = 1 then A else A.map (·.add (1 * 1))) = X at hdr hWD
  clear hdX
  subst hA
  rw [hy0] at hk0
  have HK := Lib.hid hk0
  clear hk0 hy0
  go_wp2_with fail
  refine (iKindR_c y0 _).mono ?_
  rintro e w2 ⟨rfl, h_w2⟩
  replace x_q := x_q.from_ h_w2
  have B_w2 := B_w1.trans (h_w2.mono B_w1.size)
  have s_w2 := h_w2.size
  rw [HK.out]
  replace hWD := hWD.below h_w2 (by omega)
  obtain ⟨w3, e_w3, s_w3, h_w3, x_r⟩ := alloc_step w2 26 [.int .i64 4, .int .i64 0, .int .i64 0, .int .i64 0, .int .i64 0, .int .i64 0, .int .i64 0, .int .i64 0, .int .i64 0]
  have s_w3_1 := Nat.le_of_eq s_w3
  have s_w3_2 := Nat.le_of_eq s_w3.symm
  clear s_w3
  replace x_q := x_q.from_ h_w3
  have B_w3 := B_w2.trans (h_w3.mono B_w2.size)
  have i_w3_8 := x_r.same (i := 8) rfl
  have i_w3_7 := x_r.same (i := 7) rfl
  have i_w3_6 := x_r.same (i := 6) rfl
  have i_w3_5 := x_r.same (i := 5) rfl
  have i_w3_4 := x_r.same (i := 4) rfl
  have i_w3_3 := x_r.same (i := 3) rfl
  have i_w3_2 := x_r.same (i := 2) rfl
  have i_w3_1 := x_r.same (i := 1) rfl
  replace hWD := hWD.below h_w3 (by omega)
  have hz1 : ∀ x ∈ ws.drop 1, x.size ≤ 1048576 := fun x hx => hz x (List.mem_of_mem_drop hx)
  have hm1 : (ws.drop 1).length ≤ 16777216 := by rw [List.length_drop]; omega
  have c_r_0_w3 := x_r.cell (i := 0) rfl
  have f_r_0_w3 := x_r.frozen 0
  have c_r_1_w3 := x_r.cell (i := 1) rfl
  have f_r_1_w3 := x_r.frozen 1
  have c_r_2_w3 := x_r.cell (i := 2) rfl
  have f_r_2_w3 := x_r.frozen 2
  have c_r_3_w3 := x_r.cell (i := 3) rfl
  have f_r_3_w3 := x_r.frozen 3
  have c_r_4_w3 := x_r.cell (i := 4) rfl
  have f_r_4_w3 := x_r.frozen 4
  have c_r_5_w3 := x_r.cell (i := 5) rfl
  have f_r_5_w3 := x_r.frozen 5
  have c_r_6_w3 := x_r.cell (i := 6) rfl
  have f_r_6_w3 := x_r.frozen 6
  have c_r_7_w3 := x_r.cell (i := 7) rfl
  have f_r_7_w3 := x_r.frozen 7
  have c_r_8_w3 := x_r.cell (i := 8) rfl
  have f_r_8_w3 := x_r.frozen 8
  go_wp2_with fail
  clear i_w3_8 i_w3_7 i_w3_6 i_w3_5 i_w3_4 i_w3_3 i_w3_2 i_w3_1 c_r_0_w3 f_r_0_w3 c_r_1_w3 f_r_1_w3 c_r_2_w3 f_r_2_w3 c_r_3_w3 f_r_3_w3 c_r_4_w3 f_r_4_w3 c_r_5_w3 f_r_5_w3 c_r_6_w3 f_r_6_w3 c_r_7_w3 f_r_7_w3 c_r_8_w3 f_r_8_w3
  go_region_with (first | (go_at_call 28; refine (iUsed_4 (w := w3.drew) x_r rfl).mono ?_; rintro e wu ⟨B, U, rfl, x_l, hB, hbu⟩; replace hB : w3.heap.size ≤ B := hB; have hb2 : Below w3.heap.size w3 wu := (Below.refl _ w3).drew.trans hbu) | (go_at_call 27; refine (iRead_allNums ht (B_w3.trans (hb2.mono B_w3.size)) (by omega) (by omega) (x_r.from_ hb2) x_l (by omega) (hWD.below hb2 (by omega)) hz1 hm1).mono ?_; rintro e wz ⟨v9, ok, rfl, hp, hC⟩))
  replace x_q := x_q.from_ hb2
  replace x_r := x_r.from_ hb2
  have B_wu := B_w3.trans (hb2.mono B_w3.size)
  have s_wu := hb2.size
  replace x_q := x_q.chg hC (by omega)
  have B_wz := Below.chg_ B_wu hC (by omega) (by omega)
  have s_wz := hC.size
  rcases hp with ⟨rfl, p2, x_r, p4⟩ | ⟨rfl, p2, rfl, cs9, x_r⟩
  case inr =>
    have HN := Lib.hid (textNo1 HWS.out (by rw [okT_ne HK0.out (by decide) (show nF 4 = 4 from rfl) hn, p2]; rfl))
    have sB9 := B_wz.size
    go_wp2_with (refine wpl_rstore (zs := [0, 0, 0, 0, 0, 0, 0, 0, 0]) x_q rfl rfl rfl rfl rfl rfl ?_; intro wz x_z h_z s_z)
    refine ret_cell_tmp (by rfl) (by rfl) x_z Tryd.underlying26 sz_rec (by rfl) ?_
    rw [HN.out.1, HN.out.2]
    exact ⟨_, rfl, ov_rec (d := recZ) (Nat.le_refl _), Below.chg_ B_wz h_z (by omega) (by omega)⟩
  obtain ⟨t1, ht1⟩ : ∃ z, txN ((ws.drop 1).getD 0 ByteArray.empty) = z := ⟨_, rfl⟩
  obtain ⟨t2, ht2⟩ : ∃ z, txN ((ws.drop 1).getD 1 ByteArray.empty) = z := ⟨_, rfl⟩
  obtain ⟨t3, ht3⟩ : ∃ z, txN ((ws.drop 1).getD 2 ByteArray.empty) = z := ⟨_, rfl⟩
  obtain ⟨t4, ht4⟩ : ∃ z, txN ((ws.drop 1).getD 3 ByteArray.empty) = z := ⟨_, rfl⟩
  rw [ht1, ht2, ht3, ht4] at x_r
  have pl : 4 ≤ (ws.drop 1).length := ((okN_iff _ _).1 p2).1
  have c_r_0_wz := x_r.cell (i := 0) rfl
  have hOf := recOf_4 HK0.out pl
  rw [ht1, ht2, ht3, ht4] at hOf
  have HOf := Lib.hid hOf
  clear hOf ht1 ht2 ht3 ht4
  have hT := okT_ne HK0.out (by decide) (show nF 4 = 4 from rfl) hn
  rw [p2] at hT
  have HT := Lib.hid hT
  clear hT p2
  obtain ⟨Ar, cr, rfl, -, -, -⟩ := p4
  obtain ⟨M, hM⟩ : ∃ m, ((ws.drop 1).drop 4).length = m := ⟨_, rfl⟩
  rw [hM]
  have HTM := HT.out
  rw [hM] at HTM
  have HTM := Lib.hid HTM
  by_cases hM0 : M = 0
  case neg =>
    have m1 : (0 : Int) < (M : Int) := by omega
    have HN := Lib.hid (textNo1 HWS.out (by rw [HTM.out]; simp [hM0]))
    have sB9 := B_wz.size
    go_wp2_with (refine wpl_rstore (zs := [0, 0, 0, 0, 0, 0, 0, 0, 0]) x_q rfl rfl rfl rfl rfl rfl ?_; intro wz x_z h_z s_z)
    refine ret_cell_tmp (by rfl) (by rfl) x_z Tryd.underlying26 sz_rec (by rfl) ?_
    rw [HN.out.1, HN.out.2]
    exact ⟨_, rfl, ov_rec (d := recZ) (Nat.le_refl _), Below.chg_ B_wz h_z (by omega) (by omega)⟩
  have m1 : ¬ ((0 : Int) < (M : Int)) := by omega
  obtain ⟨ob, hob⟩ : ∃ b, recOkB (⟨4, t1, t2, t3, t4, ⟨0, 0, 0, 0⟩⟩ : MRec) = b := ⟨_, rfl⟩
  have HO := Lib.hid hob
  clear hob
  have rv : RV recL wz (.agg #[.int .i64 4, .int .i64 t1, .int .i64 t2, .int .i64 t3, .int .i64 t4, .int .i64 0, .int .i64 0, .int .i64 0, .int .i64 0]) (⟨4, t1, t2, t3, t4, ⟨0, 0, 0, 0⟩⟩ : MRec) := rv_rec_mk (zM := ⟨0, 0, 0, 0⟩)
  go_wp2_with (refine wpl_rload x_r rfl rfl rfl rfl ?_)
  refine (iRecOk_c rv).mono ?_
  rintro e w4 ⟨rfl, h_w4⟩
  clear c_r_0_wz
  replace x_q := x_q.from_ h_w4
  replace x_r := x_r.from_ h_w4
  have B_w4 := B_wz.trans (h_w4.mono B_wz.size)
  have s_w4 := h_w4.size
  rw [HO.out]
  cases ob with
  | false =>
    have HN := Lib.hid (textNo2 HWS.out HOf.out HO.out)
    have sB9 := B_w4.size
    go_wp2_with (refine wpl_rstore (zs := [0, 0, 0, 0, 0, 0, 0, 0, 0]) x_q rfl rfl rfl rfl rfl rfl ?_; intro wz x_z h_z s_z)
    refine ret_cell_tmp (by rfl) (by rfl) x_z Tryd.underlying26 sz_rec (by rfl) ?_
    rw [HN.out.1, HN.out.2]
    exact ⟨_, rfl, ov_rec (d := recZ) (Nat.le_refl _), Below.chg_ B_w4 h_z (by omega) (by omega)⟩
  | true =>
    have HN := Lib.hid (textYes HWS.out HOf.out (by rw [HTM.out]; simp [hM0]) HO.out)
    have sB9 := B_w4.size
    go_wp2_with (first | refine wpl_rload x_r rfl rfl rfl rfl ?_ | (refine wpl_rstore (zs := [4, t1, t2, t3, t4, 0, 0, 0, 0]) x_q rfl rfl rfl rfl rfl rfl ?_; intro wz x_z h_z s_z))
    refine ret_cell_tmp (by rfl) (by rfl) x_z Tryd.underlying26 sz_rec (by rfl) ?_
    rw [HN.out.1, HN.out.2]
    exact ⟨_, rfl, ov_rec (d := ⟨4, t1, t2, t3, t4, ⟨0, 0, 0, 0⟩⟩) (Nat.le_refl _), Below.chg_ B_w4 h_z (by omega) (by omega)⟩
set_option maxRecDepth 100000 in
set_option maxHeartbeats 8000000 in
theorem iText_6 {w : World} (ht : Tab10 w) (s : ByteArray) (hs : s.size ≤ 1048576) (hk0 : kindTo ((splitL s 32).getD 0 ByteArray.empty) 9 = 6) : Calls Tryd.prog 9 #[.string s] w (NewVB recL w (textRec s) (textRecB s)) := by
  obtain ⟨wa, hwa, B0, sa, x_q⟩ := frame1 w 26 [.int .i64 0, .int .i64 0, .int .i64 0, .int .i64 0, .int .i64 0, .int .i64 0, .int .i64 0, .int .i64 0, .int .i64 0]
  have sa_1 := Nat.le_of_eq sa
  have sa_2 := Nat.le_of_eq sa.symm
  clear sa
  obtain ⟨ws, hws⟩ : ∃ ws, splitL s 32 = ws := ⟨_, rfl⟩
  have hne : ws ≠ [] := by rw [← hws]; exact splitL_ne s 32
  have hlen : ws.length ≤ 16777216 := by rw [← hws]; have := splitL_len s 32; omega
  have hz : ∀ x ∈ ws, x.size ≤ 1048576 := by rw [← hws]; exact fun x hx => Nat.le_trans (splitL_size s 32 x hx) hs
  have hn : 1 ≤ ws.length := by cases ws with | nil => exact absurd rfl hne | cons a l => simp
  rw [hws] at hk0
  have HK0 := Lib.hid hk0
  have HWS := Lib.hid hws
  go_enter Tryd.func9, Tryd.ntmps9
  go_wp2_with fail
  refine (iCut_c s hs).mono ?_
  rintro e w1 ⟨v, rfl, o_v, h_w1⟩
  replace x_q := x_q.from_ h_w1
  have B_w1 := B0.trans (h_w1.mono B0.size)
  have s_w1 := h_w1.size
  rw [hws] at o_v
  clear hws hne
  obtain ⟨A, c, rfl, hc1, hc2, hr⟩ := o_v.rd (d := ByteArray.empty)
  clear o_v
  obtain ⟨B0, hB0⟩ : ∃ n, w1.heap.size = n := ⟨_, rfl⟩
  have B0l := Nat.le_of_eq hB0
  have B0r := Nat.le_of_eq hB0.symm
  rw [hB0] at hr
  clear hB0
  have hWS : WS w1 B0 (.slice A ws.length c) ws := ⟨A, c, rfl, hc1, hc2, hr⟩
  have hdr := run_wdrop A c 1 ws.length 1 rfl hn
  have hWD := hWS.drop hn
  clear hWS
  obtain ⟨g, off, hA, hg, hcell⟩ := hr (by omega)
  clear hr
  obtain ⟨y0, hy0⟩ : ∃ y, ws.getD 0 ByteArray.empty = y := ⟨_, rfl⟩
  have e0 := hcell 0 (by omega)
  rw [hy0] at e0
  simp only [Nat.add_zero] at e0
  clear hcell
  have i2 : (0 : Int) < (ws.length : Int) := by omega
  generalize hdX : (if c = 1 then A else A.map (·.add (1 * 1))) = X at hdr hWD
  clear hdX
  subst hA
  rw [hy0] at hk0
  have HK := Lib.hid hk0
  clear hk0 hy0
  go_wp2_with fail
  refine (iKindR_c y0 _).mono ?_
  rintro e w2 ⟨rfl, h_w2⟩
  replace x_q := x_q.from_ h_w2
  have B_w2 := B_w1.trans (h_w2.mono B_w1.size)
  have s_w2 := h_w2.size
  rw [HK.out]
  replace hWD := hWD.below h_w2 (by omega)
  obtain ⟨w3, e_w3, s_w3, h_w3, x_r⟩ := alloc_step w2 26 [.int .i64 6, .int .i64 0, .int .i64 0, .int .i64 0, .int .i64 0, .int .i64 0, .int .i64 0, .int .i64 0, .int .i64 0]
  have s_w3_1 := Nat.le_of_eq s_w3
  have s_w3_2 := Nat.le_of_eq s_w3.symm
  clear s_w3
  replace x_q := x_q.from_ h_w3
  have B_w3 := B_w2.trans (h_w3.mono B_w2.size)
  have i_w3_8 := x_r.same (i := 8) rfl
  have i_w3_7 := x_r.same (i := 7) rfl
  have i_w3_6 := x_r.same (i := 6) rfl
  have i_w3_5 := x_r.same (i := 5) rfl
  have i_w3_4 := x_r.same (i := 4) rfl
  have i_w3_3 := x_r.same (i := 3) rfl
  have i_w3_2 := x_r.same (i := 2) rfl
  have i_w3_1 := x_r.same (i := 1) rfl
  replace hWD := hWD.below h_w3 (by omega)
  have hz1 : ∀ x ∈ ws.drop 1, x.size ≤ 1048576 := fun x hx => hz x (List.mem_of_mem_drop hx)
  have hm1 : (ws.drop 1).length ≤ 16777216 := by rw [List.length_drop]; omega
  have c_r_0_w3 := x_r.cell (i := 0) rfl
  have f_r_0_w3 := x_r.frozen 0
  have c_r_1_w3 := x_r.cell (i := 1) rfl
  have f_r_1_w3 := x_r.frozen 1
  have c_r_2_w3 := x_r.cell (i := 2) rfl
  have f_r_2_w3 := x_r.frozen 2
  have c_r_3_w3 := x_r.cell (i := 3) rfl
  have f_r_3_w3 := x_r.frozen 3
  have c_r_4_w3 := x_r.cell (i := 4) rfl
  have f_r_4_w3 := x_r.frozen 4
  have c_r_5_w3 := x_r.cell (i := 5) rfl
  have f_r_5_w3 := x_r.frozen 5
  have c_r_6_w3 := x_r.cell (i := 6) rfl
  have f_r_6_w3 := x_r.frozen 6
  have c_r_7_w3 := x_r.cell (i := 7) rfl
  have f_r_7_w3 := x_r.frozen 7
  have c_r_8_w3 := x_r.cell (i := 8) rfl
  have f_r_8_w3 := x_r.frozen 8
  go_wp2_with fail
  clear i_w3_8 i_w3_7 i_w3_6 i_w3_5 i_w3_4 i_w3_3 i_w3_2 i_w3_1 c_r_0_w3 f_r_0_w3 c_r_1_w3 f_r_1_w3 c_r_2_w3 f_r_2_w3 c_r_3_w3 f_r_3_w3 c_r_4_w3 f_r_4_w3 c_r_5_w3 f_r_5_w3 c_r_6_w3 f_r_6_w3 c_r_7_w3 f_r_7_w3 c_r_8_w3 f_r_8_w3
  go_region_with (first | (go_at_call 28; refine (iUsed_6 (w := w3.drew) x_r rfl).mono ?_; rintro e wu ⟨B, U, rfl, x_l, hB, hbu⟩; replace hB : w3.heap.size ≤ B := hB; have hb2 : Below w3.heap.size w3 wu := (Below.refl _ w3).drew.trans hbu) | (go_at_call 27; refine (iRead_toAmt ht (B_w3.trans (hb2.mono B_w3.size)) (by omega) (by omega) (x_r.from_ hb2) x_l (by omega) (hWD.below hb2 (by omega)) hz1 hm1).mono ?_; rintro e wz ⟨v9, ok, rfl, hp, hC⟩))
  replace x_q := x_q.from_ hb2
  replace x_r := x_r.from_ hb2
  have B_wu := B_w3.trans (hb2.mono B_w3.size)
  have s_wu := hb2.size
  replace x_q := x_q.chg hC (by omega)
  have B_wz := Below.chg_ B_wu hC (by omega) (by omega)
  have s_wz := hC.size
  rcases hp with ⟨rfl, p2, x_r, p4⟩ | ⟨rfl, p2, rfl, cs9, x_r⟩
  case inr =>
    have HN := Lib.hid (textNo1 HWS.out (by rw [okT_ne HK0.out (by decide) (show nF 6 = 2 from rfl) hn, p2]; rfl))
    have sB9 := B_wz.size
    go_wp2_with (refine wpl_rstore (zs := [0, 0, 0, 0, 0, 0, 0, 0, 0]) x_q rfl rfl rfl rfl rfl rfl ?_; intro wz x_z h_z s_z)
    refine ret_cell_tmp (by rfl) (by rfl) x_z Tryd.underlying26 sz_rec (by rfl) ?_
    rw [HN.out.1, HN.out.2]
    exact ⟨_, rfl, ov_rec (d := recZ) (Nat.le_refl _), Below.chg_ B_wz h_z (by omega) (by omega)⟩
  obtain ⟨t3, ht3⟩ : ∃ z, txN ((ws.drop 1).getD 0 ByteArray.empty) = z := ⟨_, rfl⟩
  obtain ⟨t4, ht4⟩ : ∃ z, txN ((ws.drop 1).getD 1 ByteArray.empty) = z := ⟨_, rfl⟩
  rw [ht3, ht4] at x_r
  have pl : 2 ≤ (ws.drop 1).length := ((okN_iff _ _).1 p2).1
  have c_r_0_wz := x_r.cell (i := 0) rfl
  have hOf := recOf_6 HK0.out pl
  rw [ht3, ht4] at hOf
  have HOf := Lib.hid hOf
  clear hOf ht3 ht4
  have hT := okT_ne HK0.out (by decide) (show nF 6 = 2 from rfl) hn
  rw [p2] at hT
  have HT := Lib.hid hT
  clear hT p2
  obtain ⟨Ar, cr, rfl, -, -, -⟩ := p4
  obtain ⟨M, hM⟩ : ∃ m, ((ws.drop 1).drop 2).length = m := ⟨_, rfl⟩
  rw [hM]
  have HTM := HT.out
  rw [hM] at HTM
  have HTM := Lib.hid HTM
  by_cases hM0 : M = 0
  case neg =>
    have m1 : (0 : Int) < (M : Int) := by omega
    have HN := Lib.hid (textNo1 HWS.out (by rw [HTM.out]; simp [hM0]))
    have sB9 := B_wz.size
    go_wp2_with (refine wpl_rstore (zs := [0, 0, 0, 0, 0, 0, 0, 0, 0]) x_q rfl rfl rfl rfl rfl rfl ?_; intro wz x_z h_z s_z)
    refine ret_cell_tmp (by rfl) (by rfl) x_z Tryd.underlying26 sz_rec (by rfl) ?_
    rw [HN.out.1, HN.out.2]
    exact ⟨_, rfl, ov_rec (d := recZ) (Nat.le_refl _), Below.chg_ B_wz h_z (by omega) (by omega)⟩
  have m1 : ¬ ((0 : Int) < (M : Int)) := by omega
  obtain ⟨ob, hob⟩ : ∃ b, recOkB (⟨6, 0, 0, t3, t4, ⟨0, 0, 0, 0⟩⟩ : MRec) = b := ⟨_, rfl⟩
  have HO := Lib.hid hob
  clear hob
  have rv : RV recL wz (.agg #[.int .i64 6, .int .i64 0, .int .i64 0, .int .i64 t3, .int .i64 t4, .int .i64 0, .int .i64 0, .int .i64 0, .int .i64 0]) (⟨6, 0, 0, t3, t4, ⟨0, 0, 0, 0⟩⟩ : MRec) := rv_rec_mk (zM := ⟨0, 0, 0, 0⟩)
  go_wp2_with (refine wpl_rload x_r rfl rfl rfl rfl ?_)
  refine (iRecOk_c rv).mono ?_
  rintro e w4 ⟨rfl, h_w4⟩
  clear c_r_0_wz
  replace x_q := x_q.from_ h_w4
  replace x_r := x_r.from_ h_w4
  have B_w4 := B_wz.trans (h_w4.mono B_wz.size)
  have s_w4 := h_w4.size
  rw [HO.out]
  cases ob with
  | false =>
    have HN := Lib.hid (textNo2 HWS.out HOf.out HO.out)
    have sB9 := B_w4.size
    go_wp2_with (refine wpl_rstore (zs := [0, 0, 0, 0, 0, 0, 0, 0, 0]) x_q rfl rfl rfl rfl rfl rfl ?_; intro wz x_z h_z s_z)
    refine ret_cell_tmp (by rfl) (by rfl) x_z Tryd.underlying26 sz_rec (by rfl) ?_
    rw [HN.out.1, HN.out.2]
    exact ⟨_, rfl, ov_rec (d := recZ) (Nat.le_refl _), Below.chg_ B_w4 h_z (by omega) (by omega)⟩
  | true =>
    have HN := Lib.hid (textYes HWS.out HOf.out (by rw [HTM.out]; simp [hM0]) HO.out)
    have sB9 := B_w4.size
    go_wp2_with (first | refine wpl_rload x_r rfl rfl rfl rfl ?_ | (refine wpl_rstore (zs := [6, 0, 0, t3, t4, 0, 0, 0, 0]) x_q rfl rfl rfl rfl rfl rfl ?_; intro wz x_z h_z s_z))
    refine ret_cell_tmp (by rfl) (by rfl) x_z Tryd.underlying26 sz_rec (by rfl) ?_
    rw [HN.out.1, HN.out.2]
    exact ⟨_, rfl, ov_rec (d := ⟨6, 0, 0, t3, t4, ⟨0, 0, 0, 0⟩⟩) (Nat.le_refl _), Below.chg_ B_w4 h_z (by omega) (by omega)⟩
end Go.Proofs.YtkbhbccpmmhelaaDoor
namespace Go.Proofs.YtkbhbccpmmhelaaDoor
open Go.RowKit
set_option linter.unusedVariables false
set_option linter.unusedSimpArgs false
set_option maxRecDepth 100000 in
set_option maxHeartbeats 8000000 in
theorem iText_7 {w : World} (ht : Tab10 w) (s : ByteArray) (hs : s.size ≤ 1048576) (hk0 : kindTo ((splitL s 32).getD 0 ByteArray.empty) 9 = 7) : Calls Tryd.prog 9 #[.string s] w (NewVB recL w (textRec s) (textRecB s)) := by
  obtain ⟨wa, hwa, B0, sa, x_q⟩ := frame1 w 26 [.int .i64 0, .int .i64 0, .int .i64 0, .int .i64 0, .int .i64 0, .int .i64 0, .int .i64 0, .int .i64 0, .int .i64 0]
  have sa_1 := Nat.le_of_eq sa
  have sa_2 := Nat.le_of_eq sa.symm
  clear sa
  obtain ⟨ws, hws⟩ : ∃ ws, splitL s 32 = ws := ⟨_, rfl⟩
  have hne : ws ≠ [] := by rw [← hws]; exact splitL_ne s 32
  have hlen : ws.length ≤ 16777216 := by rw [← hws]; have := splitL_len s 32; omega
  have hz : ∀ x ∈ ws, x.size ≤ 1048576 := by rw [← hws]; exact fun x hx => Nat.le_trans (splitL_size s 32 x hx) hs
  have hn : 1 ≤ ws.length := by cases ws with | nil => exact absurd rfl hne | cons a l => simp
  rw [hws] at hk0
  have HK0 := Lib.hid hk0
  have HWS := Lib.hid hws
  go_enter Tryd.func9, Tryd.ntmps9
  go_wp2_with fail
  refine (iCut_c s hs).mono ?_
  rintro e w1 ⟨v, rfl, o_v, h_w1⟩
  replace x_q := x_q.from_ h_w1
  have B_w1 := B0.trans (h_w1.mono B0.size)
  have s_w1 := h_w1.size
  rw [hws] at o_v
  clear hws hne
  obtain ⟨A, c, rfl, hc1, hc2, hr⟩ := o_v.rd (d := ByteArray.empty)
  clear o_v
  obtain ⟨B0, hB0⟩ : ∃ n, w1.heap.size = n := ⟨_, rfl⟩
  have B0l := Nat.le_of_eq hB0
  have B0r := Nat.le_of_eq hB0.symm
  rw [hB0] at hr
  clear hB0
  have hWS : WS w1 B0 (.slice A ws.length c) ws := ⟨A, c, rfl, hc1, hc2, hr⟩
  have hdr := run_wdrop A c 1 ws.length 1 rfl hn
  have hWD := hWS.drop hn
  clear hWS
  obtain ⟨g, off, hA, hg, hcell⟩ := hr (by omega)
  clear hr
  obtain ⟨y0, hy0⟩ : ∃ y, ws.getD 0 ByteArray.empty = y := ⟨_, rfl⟩
  have e0 := hcell 0 (by omega)
  rw [hy0] at e0
  simp only [Nat.add_zero] at e0
  clear hcell
  have i2 : (0 : Int) < (ws.length : Int) := by omega
  generalize hdX : (if c = 1 then A else A.map (·.add (1 * 1))) = X at hdr hWD
  clear hdX
  subst hA
  rw [hy0] at hk0
  have HK := Lib.hid hk0
  clear hk0 hy0
  go_wp2_with fail
  refine (iKindR_c y0 _).mono ?_
  rintro e w2 ⟨rfl, h_w2⟩
  replace x_q := x_q.from_ h_w2
  have B_w2 := B_w1.trans (h_w2.mono B_w1.size)
  have s_w2 := h_w2.size
  rw [HK.out]
  replace hWD := hWD.below h_w2 (by omega)
  obtain ⟨w3, e_w3, s_w3, h_w3, x_r⟩ := alloc_step w2 26 [.int .i64 7, .int .i64 0, .int .i64 0, .int .i64 0, .int .i64 0, .int .i64 0, .int .i64 0, .int .i64 0, .int .i64 0]
  have s_w3_1 := Nat.le_of_eq s_w3
  have s_w3_2 := Nat.le_of_eq s_w3.symm
  clear s_w3
  replace x_q := x_q.from_ h_w3
  have B_w3 := B_w2.trans (h_w3.mono B_w2.size)
  have i_w3_8 := x_r.same (i := 8) rfl
  have i_w3_7 := x_r.same (i := 7) rfl
  have i_w3_6 := x_r.same (i := 6) rfl
  have i_w3_5 := x_r.same (i := 5) rfl
  have i_w3_4 := x_r.same (i := 4) rfl
  have i_w3_3 := x_r.same (i := 3) rfl
  have i_w3_2 := x_r.same (i := 2) rfl
  have i_w3_1 := x_r.same (i := 1) rfl
  replace hWD := hWD.below h_w3 (by omega)
  have hz1 : ∀ x ∈ ws.drop 1, x.size ≤ 1048576 := fun x hx => hz x (List.mem_of_mem_drop hx)
  have hm1 : (ws.drop 1).length ≤ 16777216 := by rw [List.length_drop]; omega
  have c_r_0_w3 := x_r.cell (i := 0) rfl
  have f_r_0_w3 := x_r.frozen 0
  have c_r_1_w3 := x_r.cell (i := 1) rfl
  have f_r_1_w3 := x_r.frozen 1
  have c_r_2_w3 := x_r.cell (i := 2) rfl
  have f_r_2_w3 := x_r.frozen 2
  have c_r_3_w3 := x_r.cell (i := 3) rfl
  have f_r_3_w3 := x_r.frozen 3
  have c_r_4_w3 := x_r.cell (i := 4) rfl
  have f_r_4_w3 := x_r.frozen 4
  have c_r_5_w3 := x_r.cell (i := 5) rfl
  have f_r_5_w3 := x_r.frozen 5
  have c_r_6_w3 := x_r.cell (i := 6) rfl
  have f_r_6_w3 := x_r.frozen 6
  have c_r_7_w3 := x_r.cell (i := 7) rfl
  have f_r_7_w3 := x_r.frozen 7
  have c_r_8_w3 := x_r.cell (i := 8) rfl
  have f_r_8_w3 := x_r.frozen 8
  go_wp2_with fail
  clear i_w3_8 i_w3_7 i_w3_6 i_w3_5 i_w3_4 i_w3_3 i_w3_2 i_w3_1 c_r_0_w3 f_r_0_w3 c_r_1_w3 f_r_1_w3 c_r_2_w3 f_r_2_w3 c_r_3_w3 f_r_3_w3 c_r_4_w3 f_r_4_w3 c_r_5_w3 f_r_5_w3 c_r_6_w3 f_r_6_w3 c_r_7_w3 f_r_7_w3 c_r_8_w3 f_r_8_w3
  go_region_with (first | (go_at_call 28; refine (iUsed_7 (w := w3.drew) x_r rfl).mono ?_; rintro e wu ⟨B, U, rfl, x_l, hB, hbu⟩; replace hB : w3.heap.size ≤ B := hB; have hb2 : Below w3.heap.size w3 wu := (Below.refl _ w3).drew.trans hbu) | (go_at_call 27; refine (iRead_acctAmt ht (B_w3.trans (hb2.mono B_w3.size)) (by omega) (by omega) (x_r.from_ hb2) x_l (by omega) (hWD.below hb2 (by omega)) hz1 hm1).mono ?_; rintro e wz ⟨v9, ok, rfl, hp, hC⟩))
  replace x_q := x_q.from_ hb2
  replace x_r := x_r.from_ hb2
  have B_wu := B_w3.trans (hb2.mono B_w3.size)
  have s_wu := hb2.size
  replace x_q := x_q.chg hC (by omega)
  have B_wz := Below.chg_ B_wu hC (by omega) (by omega)
  have s_wz := hC.size
  rcases hp with ⟨rfl, p2, x_r, p4⟩ | ⟨rfl, p2, rfl, cs9, x_r⟩
  case inr =>
    have HN := Lib.hid (textNo1 HWS.out (by rw [okT_ne HK0.out (by decide) (show nF 7 = 2 from rfl) hn, p2]; rfl))
    have sB9 := B_wz.size
    go_wp2_with (refine wpl_rstore (zs := [0, 0, 0, 0, 0, 0, 0, 0, 0]) x_q rfl rfl rfl rfl rfl rfl ?_; intro wz x_z h_z s_z)
    refine ret_cell_tmp (by rfl) (by rfl) x_z Tryd.underlying26 sz_rec (by rfl) ?_
    rw [HN.out.1, HN.out.2]
    exact ⟨_, rfl, ov_rec (d := recZ) (Nat.le_refl _), Below.chg_ B_wz h_z (by omega) (by omega)⟩
  obtain ⟨t1, ht1⟩ : ∃ z, txN ((ws.drop 1).getD 0 ByteArray.empty) = z := ⟨_, rfl⟩
  obtain ⟨t4, ht4⟩ : ∃ z, txN ((ws.drop 1).getD 1 ByteArray.empty) = z := ⟨_, rfl⟩
  rw [ht1, ht4] at x_r
  have pl : 2 ≤ (ws.drop 1).length := ((okN_iff _ _).1 p2).1
  have c_r_0_wz := x_r.cell (i := 0) rfl
  have hOf := recOf_7 HK0.out pl
  rw [ht1, ht4] at hOf
  have HOf := Lib.hid hOf
  clear hOf ht1 ht4
  have hT := okT_ne HK0.out (by decide) (show nF 7 = 2 from rfl) hn
  rw [p2] at hT
  have HT := Lib.hid hT
  clear hT p2
  obtain ⟨Ar, cr, rfl, -, -, -⟩ := p4
  obtain ⟨M, hM⟩ : ∃ m, ((ws.drop 1).drop 2).length = m := ⟨_, rfl⟩
  rw [hM]
  have HTM := HT.out
  rw [hM] at HTM
  have HTM := Lib.hid HTM
  by_cases hM0 : M = 0
  case neg =>
    have m1 : (0 : Int) < (M : Int) := by omega
    have HN := Lib.hid (textNo1 HWS.out (by rw [HTM.out]; simp [hM0]))
    have sB9 := B_wz.size
    go_wp2_with (refine wpl_rstore (zs := [0, 0, 0, 0, 0, 0, 0, 0, 0]) x_q rfl rfl rfl rfl rfl rfl ?_; intro wz x_z h_z s_z)
    refine ret_cell_tmp (by rfl) (by rfl) x_z Tryd.underlying26 sz_rec (by rfl) ?_
    rw [HN.out.1, HN.out.2]
    exact ⟨_, rfl, ov_rec (d := recZ) (Nat.le_refl _), Below.chg_ B_wz h_z (by omega) (by omega)⟩
  have m1 : ¬ ((0 : Int) < (M : Int)) := by omega
  obtain ⟨ob, hob⟩ : ∃ b, recOkB (⟨7, t1, 0, 0, t4, ⟨0, 0, 0, 0⟩⟩ : MRec) = b := ⟨_, rfl⟩
  have HO := Lib.hid hob
  clear hob
  have rv : RV recL wz (.agg #[.int .i64 7, .int .i64 t1, .int .i64 0, .int .i64 0, .int .i64 t4, .int .i64 0, .int .i64 0, .int .i64 0, .int .i64 0]) (⟨7, t1, 0, 0, t4, ⟨0, 0, 0, 0⟩⟩ : MRec) := rv_rec_mk (zM := ⟨0, 0, 0, 0⟩)
  go_wp2_with (refine wpl_rload x_r rfl rfl rfl rfl ?_)
  refine (iRecOk_c rv).mono ?_
  rintro e w4 ⟨rfl, h_w4⟩
  clear c_r_0_wz
  replace x_q := x_q.from_ h_w4
  replace x_r := x_r.from_ h_w4
  have B_w4 := B_wz.trans (h_w4.mono B_wz.size)
  have s_w4 := h_w4.size
  rw [HO.out]
  cases ob with
  | false =>
    have HN := Lib.hid (textNo2 HWS.out HOf.out HO.out)
    have sB9 := B_w4.size
    go_wp2_with (refine wpl_rstore (zs := [0, 0, 0, 0, 0, 0, 0, 0, 0]) x_q rfl rfl rfl rfl rfl rfl ?_; intro wz x_z h_z s_z)
    refine ret_cell_tmp (by rfl) (by rfl) x_z Tryd.underlying26 sz_rec (by rfl) ?_
    rw [HN.out.1, HN.out.2]
    exact ⟨_, rfl, ov_rec (d := recZ) (Nat.le_refl _), Below.chg_ B_w4 h_z (by omega) (by omega)⟩
  | true =>
    have HN := Lib.hid (textYes HWS.out HOf.out (by rw [HTM.out]; simp [hM0]) HO.out)
    have sB9 := B_w4.size
    go_wp2_with (first | refine wpl_rload x_r rfl rfl rfl rfl ?_ | (refine wpl_rstore (zs := [7, t1, 0, 0, t4, 0, 0, 0, 0]) x_q rfl rfl rfl rfl rfl rfl ?_; intro wz x_z h_z s_z))
    refine ret_cell_tmp (by rfl) (by rfl) x_z Tryd.underlying26 sz_rec (by rfl) ?_
    rw [HN.out.1, HN.out.2]
    exact ⟨_, rfl, ov_rec (d := ⟨7, t1, 0, 0, t4, ⟨0, 0, 0, 0⟩⟩) (Nat.le_refl _), Below.chg_ B_w4 h_z (by omega) (by omega)⟩
set_option maxRecDepth 100000 in
set_option maxHeartbeats 8000000 in
theorem iText_8 {w : World} (ht : Tab10 w) (s : ByteArray) (hs : s.size ≤ 1048576) (hk0 : kindTo ((splitL s 32).getD 0 ByteArray.empty) 9 = 8) : Calls Tryd.prog 9 #[.string s] w (NewVB recL w (textRec s) (textRecB s)) := by
  obtain ⟨wa, hwa, B0, sa, x_q⟩ := frame1 w 26 [.int .i64 0, .int .i64 0, .int .i64 0, .int .i64 0, .int .i64 0, .int .i64 0, .int .i64 0, .int .i64 0, .int .i64 0]
  have sa_1 := Nat.le_of_eq sa
  have sa_2 := Nat.le_of_eq sa.symm
  clear sa
  obtain ⟨ws, hws⟩ : ∃ ws, splitL s 32 = ws := ⟨_, rfl⟩
  have hne : ws ≠ [] := by rw [← hws]; exact splitL_ne s 32
  have hlen : ws.length ≤ 16777216 := by rw [← hws]; have := splitL_len s 32; omega
  have hz : ∀ x ∈ ws, x.size ≤ 1048576 := by rw [← hws]; exact fun x hx => Nat.le_trans (splitL_size s 32 x hx) hs
  have hn : 1 ≤ ws.length := by cases ws with | nil => exact absurd rfl hne | cons a l => simp
  rw [hws] at hk0
  have HK0 := Lib.hid hk0
  have HWS := Lib.hid hws
  go_enter Tryd.func9, Tryd.ntmps9
  go_wp2_with fail
  refine (iCut_c s hs).mono ?_
  rintro e w1 ⟨v, rfl, o_v, h_w1⟩
  replace x_q := x_q.from_ h_w1
  have B_w1 := B0.trans (h_w1.mono B0.size)
  have s_w1 := h_w1.size
  rw [hws] at o_v
  clear hws hne
  obtain ⟨A, c, rfl, hc1, hc2, hr⟩ := o_v.rd (d := ByteArray.empty)
  clear o_v
  obtain ⟨B0, hB0⟩ : ∃ n, w1.heap.size = n := ⟨_, rfl⟩
  have B0l := Nat.le_of_eq hB0
  have B0r := Nat.le_of_eq hB0.symm
  rw [hB0] at hr
  clear hB0
  have hWS : WS w1 B0 (.slice A ws.length c) ws := ⟨A, c, rfl, hc1, hc2, hr⟩
  have hdr := run_wdrop A c 1 ws.length 1 rfl hn
  have hWD := hWS.drop hn
  clear hWS
  obtain ⟨g, off, hA, hg, hcell⟩ := hr (by omega)
  clear hr
  obtain ⟨y0, hy0⟩ : ∃ y, ws.getD 0 ByteArray.empty = y := ⟨_, rfl⟩
  have e0 := hcell 0 (by omega)
  rw [hy0] at e0
  simp only [Nat.add_zero] at e0
  clear hcell
  have i2 : (0 : Int) < (ws.length : Int) := by omega
  generalize hdX : (if c = 1 then A else A.map (·.add (1 * 1))) = X at hdr hWD
  clear hdX
  subst hA
  rw [hy0] at hk0
  have HK := Lib.hid hk0
  clear hk0 hy0
  go_wp2_with fail
  refine (iKindR_c y0 _).mono ?_
  rintro e w2 ⟨rfl, h_w2⟩
  replace x_q := x_q.from_ h_w2
  have B_w2 := B_w1.trans (h_w2.mono B_w1.size)
  have s_w2 := h_w2.size
  rw [HK.out]
  replace hWD := hWD.below h_w2 (by omega)
  obtain ⟨w3, e_w3, s_w3, h_w3, x_r⟩ := alloc_step w2 26 [.int .i64 8, .int .i64 0, .int .i64 0, .int .i64 0, .int .i64 0, .int .i64 0, .int .i64 0, .int .i64 0, .int .i64 0]
  have s_w3_1 := Nat.le_of_eq s_w3
  have s_w3_2 := Nat.le_of_eq s_w3.symm
  clear s_w3
  replace x_q := x_q.from_ h_w3
  have B_w3 := B_w2.trans (h_w3.mono B_w2.size)
  have i_w3_8 := x_r.same (i := 8) rfl
  have i_w3_7 := x_r.same (i := 7) rfl
  have i_w3_6 := x_r.same (i := 6) rfl
  have i_w3_5 := x_r.same (i := 5) rfl
  have i_w3_4 := x_r.same (i := 4) rfl
  have i_w3_3 := x_r.same (i := 3) rfl
  have i_w3_2 := x_r.same (i := 2) rfl
  have i_w3_1 := x_r.same (i := 1) rfl
  replace hWD := hWD.below h_w3 (by omega)
  have hz1 : ∀ x ∈ ws.drop 1, x.size ≤ 1048576 := fun x hx => hz x (List.mem_of_mem_drop hx)
  have hm1 : (ws.drop 1).length ≤ 16777216 := by rw [List.length_drop]; omega
  have c_r_0_w3 := x_r.cell (i := 0) rfl
  have f_r_0_w3 := x_r.frozen 0
  have c_r_1_w3 := x_r.cell (i := 1) rfl
  have f_r_1_w3 := x_r.frozen 1
  have c_r_2_w3 := x_r.cell (i := 2) rfl
  have f_r_2_w3 := x_r.frozen 2
  have c_r_3_w3 := x_r.cell (i := 3) rfl
  have f_r_3_w3 := x_r.frozen 3
  have c_r_4_w3 := x_r.cell (i := 4) rfl
  have f_r_4_w3 := x_r.frozen 4
  have c_r_5_w3 := x_r.cell (i := 5) rfl
  have f_r_5_w3 := x_r.frozen 5
  have c_r_6_w3 := x_r.cell (i := 6) rfl
  have f_r_6_w3 := x_r.frozen 6
  have c_r_7_w3 := x_r.cell (i := 7) rfl
  have f_r_7_w3 := x_r.frozen 7
  have c_r_8_w3 := x_r.cell (i := 8) rfl
  have f_r_8_w3 := x_r.frozen 8
  go_wp2_with fail
  clear i_w3_8 i_w3_7 i_w3_6 i_w3_5 i_w3_4 i_w3_3 i_w3_2 i_w3_1 c_r_0_w3 f_r_0_w3 c_r_1_w3 f_r_1_w3 c_r_2_w3 f_r_2_w3 c_r_3_w3 f_r_3_w3 c_r_4_w3 f_r_4_w3 c_r_5_w3 f_r_5_w3 c_r_6_w3 f_r_6_w3 c_r_7_w3 f_r_7_w3 c_r_8_w3 f_r_8_w3
  go_region_with (first | (go_at_call 28; refine (iUsed_8 (w := w3.drew) x_r rfl).mono ?_; rintro e wu ⟨B, U, rfl, x_l, hB, hbu⟩; replace hB : w3.heap.size ≤ B := hB; have hb2 : Below w3.heap.size w3 wu := (Below.refl _ w3).drew.trans hbu) | (go_at_call 27; refine (iRead_acctToAmt ht (B_w3.trans (hb2.mono B_w3.size)) (by omega) (by omega) (x_r.from_ hb2) x_l (by omega) (hWD.below hb2 (by omega)) hz1 hm1).mono ?_; rintro e wz ⟨v9, ok, rfl, hp, hC⟩))
  replace x_q := x_q.from_ hb2
  replace x_r := x_r.from_ hb2
  have B_wu := B_w3.trans (hb2.mono B_w3.size)
  have s_wu := hb2.size
  replace x_q := x_q.chg hC (by omega)
  have B_wz := Below.chg_ B_wu hC (by omega) (by omega)
  have s_wz := hC.size
  rcases hp with ⟨rfl, p2, x_r, p4⟩ | ⟨rfl, p2, rfl, cs9, x_r⟩
  case inr =>
    have HN := Lib.hid (textNo1 HWS.out (by rw [okT_ne HK0.out (by decide) (show nF 8 = 3 from rfl) hn, p2]; rfl))
    have sB9 := B_wz.size
    go_wp2_with (refine wpl_rstore (zs := [0, 0, 0, 0, 0, 0, 0, 0, 0]) x_q rfl rfl rfl rfl rfl rfl ?_; intro wz x_z h_z s_z)
    refine ret_cell_tmp (by rfl) (by rfl) x_z Tryd.underlying26 sz_rec (by rfl) ?_
    rw [HN.out.1, HN.out.2]
    exact ⟨_, rfl, ov_rec (d := recZ) (Nat.le_refl _), Below.chg_ B_wz h_z (by omega) (by omega)⟩
  obtain ⟨t1, ht1⟩ : ∃ z, txN ((ws.drop 1).getD 0 ByteArray.empty) = z := ⟨_, rfl⟩
  obtain ⟨t3, ht3⟩ : ∃ z, txN ((ws.drop 1).getD 1 ByteArray.empty) = z := ⟨_, rfl⟩
  obtain ⟨t4, ht4⟩ : ∃ z, txN ((ws.drop 1).getD 2 ByteArray.empty) = z := ⟨_, rfl⟩
  rw [ht1, ht3, ht4] at x_r
  have pl : 3 ≤ (ws.drop 1).length := ((okN_iff _ _).1 p2).1
  have c_r_0_wz := x_r.cell (i := 0) rfl
  have hOf := recOf_8 HK0.out pl
  rw [ht1, ht3, ht4] at hOf
  have HOf := Lib.hid hOf
  clear hOf ht1 ht3 ht4
  have hT := okT_ne HK0.out (by decide) (show nF 8 = 3 from rfl) hn
  rw [p2] at hT
  have HT := Lib.hid hT
  clear hT p2
  obtain ⟨Ar, cr, rfl, -, -, -⟩ := p4
  obtain ⟨M, hM⟩ : ∃ m, ((ws.drop 1).drop 3).length = m := ⟨_, rfl⟩
  rw [hM]
  have HTM := HT.out
  rw [hM] at HTM
  have HTM := Lib.hid HTM
  by_cases hM0 : M = 0
  case neg =>
    have m1 : (0 : Int) < (M : Int) := by omega
    have HN := Lib.hid (textNo1 HWS.out (by rw [HTM.out]; simp [hM0]))
    have sB9 := B_wz.size
    go_wp2_with (refine wpl_rstore (zs := [0, 0, 0, 0, 0, 0, 0, 0, 0]) x_q rfl rfl rfl rfl rfl rfl ?_; intro wz x_z h_z s_z)
    refine ret_cell_tmp (by rfl) (by rfl) x_z Tryd.underlying26 sz_rec (by rfl) ?_
    rw [HN.out.1, HN.out.2]
    exact ⟨_, rfl, ov_rec (d := recZ) (Nat.le_refl _), Below.chg_ B_wz h_z (by omega) (by omega)⟩
  have m1 : ¬ ((0 : Int) < (M : Int)) := by omega
  obtain ⟨ob, hob⟩ : ∃ b, recOkB (⟨8, t1, 0, t3, t4, ⟨0, 0, 0, 0⟩⟩ : MRec) = b := ⟨_, rfl⟩
  have HO := Lib.hid hob
  clear hob
  have rv : RV recL wz (.agg #[.int .i64 8, .int .i64 t1, .int .i64 0, .int .i64 t3, .int .i64 t4, .int .i64 0, .int .i64 0, .int .i64 0, .int .i64 0]) (⟨8, t1, 0, t3, t4, ⟨0, 0, 0, 0⟩⟩ : MRec) := rv_rec_mk (zM := ⟨0, 0, 0, 0⟩)
  go_wp2_with (refine wpl_rload x_r rfl rfl rfl rfl ?_)
  refine (iRecOk_c rv).mono ?_
  rintro e w4 ⟨rfl, h_w4⟩
  clear c_r_0_wz
  replace x_q := x_q.from_ h_w4
  replace x_r := x_r.from_ h_w4
  have B_w4 := B_wz.trans (h_w4.mono B_wz.size)
  have s_w4 := h_w4.size
  rw [HO.out]
  cases ob with
  | false =>
    have HN := Lib.hid (textNo2 HWS.out HOf.out HO.out)
    have sB9 := B_w4.size
    go_wp2_with (refine wpl_rstore (zs := [0, 0, 0, 0, 0, 0, 0, 0, 0]) x_q rfl rfl rfl rfl rfl rfl ?_; intro wz x_z h_z s_z)
    refine ret_cell_tmp (by rfl) (by rfl) x_z Tryd.underlying26 sz_rec (by rfl) ?_
    rw [HN.out.1, HN.out.2]
    exact ⟨_, rfl, ov_rec (d := recZ) (Nat.le_refl _), Below.chg_ B_w4 h_z (by omega) (by omega)⟩
  | true =>
    have HN := Lib.hid (textYes HWS.out HOf.out (by rw [HTM.out]; simp [hM0]) HO.out)
    have sB9 := B_w4.size
    go_wp2_with (first | refine wpl_rload x_r rfl rfl rfl rfl ?_ | (refine wpl_rstore (zs := [8, t1, 0, t3, t4, 0, 0, 0, 0]) x_q rfl rfl rfl rfl rfl rfl ?_; intro wz x_z h_z s_z))
    refine ret_cell_tmp (by rfl) (by rfl) x_z Tryd.underlying26 sz_rec (by rfl) ?_
    rw [HN.out.1, HN.out.2]
    exact ⟨_, rfl, ov_rec (d := ⟨8, t1, 0, t3, t4, ⟨0, 0, 0, 0⟩⟩) (Nat.le_refl _), Below.chg_ B_w4 h_z (by omega) (by omega)⟩
set_option maxRecDepth 100000 in
set_option maxHeartbeats 8000000 in
theorem iText_9 {w : World} (ht : Tab10 w) (s : ByteArray) (hs : s.size ≤ 1048576) (hk0 : kindTo ((splitL s 32).getD 0 ByteArray.empty) 9 = 9) : Calls Tryd.prog 9 #[.string s] w (NewVB recL w (textRec s) (textRecB s)) := by
  obtain ⟨wa, hwa, B0, sa, x_q⟩ := frame1 w 26 [.int .i64 0, .int .i64 0, .int .i64 0, .int .i64 0, .int .i64 0, .int .i64 0, .int .i64 0, .int .i64 0, .int .i64 0]
  have sa_1 := Nat.le_of_eq sa
  have sa_2 := Nat.le_of_eq sa.symm
  clear sa
  obtain ⟨ws, hws⟩ : ∃ ws, splitL s 32 = ws := ⟨_, rfl⟩
  have hne : ws ≠ [] := by rw [← hws]; exact splitL_ne s 32
  have hlen : ws.length ≤ 16777216 := by rw [← hws]; have := splitL_len s 32; omega
  have hz : ∀ x ∈ ws, x.size ≤ 1048576 := by rw [← hws]; exact fun x hx => Nat.le_trans (splitL_size s 32 x hx) hs
  have hn : 1 ≤ ws.length := by cases ws with | nil => exact absurd rfl hne | cons a l => simp
  rw [hws] at hk0
  have HK0 := Lib.hid hk0
  have HWS := Lib.hid hws
  go_enter Tryd.func9, Tryd.ntmps9
  go_wp2_with fail
  refine (iCut_c s hs).mono ?_
  rintro e w1 ⟨v, rfl, o_v, h_w1⟩
  replace x_q := x_q.from_ h_w1
  have B_w1 := B0.trans (h_w1.mono B0.size)
  have s_w1 := h_w1.size
  rw [hws] at o_v
  clear hws hne
  obtain ⟨A, c, rfl, hc1, hc2, hr⟩ := o_v.rd (d := ByteArray.empty)
  clear o_v
  obtain ⟨B0, hB0⟩ : ∃ n, w1.heap.size = n := ⟨_, rfl⟩
  have B0l := Nat.le_of_eq hB0
  have B0r := Nat.le_of_eq hB0.symm
  rw [hB0] at hr
  clear hB0
  have hWS : WS w1 B0 (.slice A ws.length c) ws := ⟨A, c, rfl, hc1, hc2, hr⟩
  have hdr := run_wdrop A c 1 ws.length 1 rfl hn
  have hWD := hWS.drop hn
  clear hWS
  obtain ⟨g, off, hA, hg, hcell⟩ := hr (by omega)
  clear hr
  obtain ⟨y0, hy0⟩ : ∃ y, ws.getD 0 ByteArray.empty = y := ⟨_, rfl⟩
  have e0 := hcell 0 (by omega)
  rw [hy0] at e0
  simp only [Nat.add_zero] at e0
  clear hcell
  have i2 : (0 : Int) < (ws.length : Int) := by omega
  generalize hdX : (if c = 1 then A else A.map (·.add (1 * 1))) = X at hdr hWD
  clear hdX
  subst hA
  rw [hy0] at hk0
  have HK := Lib.hid hk0
  clear hk0 hy0
  go_wp2_with fail
  refine (iKindR_c y0 _).mono ?_
  rintro e w2 ⟨rfl, h_w2⟩
  replace x_q := x_q.from_ h_w2
  have B_w2 := B_w1.trans (h_w2.mono B_w1.size)
  have s_w2 := h_w2.size
  rw [HK.out]
  replace hWD := hWD.below h_w2 (by omega)
  obtain ⟨w3, e_w3, s_w3, h_w3, x_r⟩ := alloc_step w2 26 [.int .i64 9, .int .i64 0, .int .i64 0, .int .i64 0, .int .i64 0, .int .i64 0, .int .i64 0, .int .i64 0, .int .i64 0]
  have s_w3_1 := Nat.le_of_eq s_w3
  have s_w3_2 := Nat.le_of_eq s_w3.symm
  clear s_w3
  replace x_q := x_q.from_ h_w3
  have B_w3 := B_w2.trans (h_w3.mono B_w2.size)
  have i_w3_8 := x_r.same (i := 8) rfl
  have i_w3_7 := x_r.same (i := 7) rfl
  have i_w3_6 := x_r.same (i := 6) rfl
  have i_w3_5 := x_r.same (i := 5) rfl
  have i_w3_4 := x_r.same (i := 4) rfl
  have i_w3_3 := x_r.same (i := 3) rfl
  have i_w3_2 := x_r.same (i := 2) rfl
  have i_w3_1 := x_r.same (i := 1) rfl
  replace hWD := hWD.below h_w3 (by omega)
  have hz1 : ∀ x ∈ ws.drop 1, x.size ≤ 1048576 := fun x hx => hz x (List.mem_of_mem_drop hx)
  have hm1 : (ws.drop 1).length ≤ 16777216 := by rw [List.length_drop]; omega
  have c_r_0_w3 := x_r.cell (i := 0) rfl
  have f_r_0_w3 := x_r.frozen 0
  have c_r_1_w3 := x_r.cell (i := 1) rfl
  have f_r_1_w3 := x_r.frozen 1
  have c_r_2_w3 := x_r.cell (i := 2) rfl
  have f_r_2_w3 := x_r.frozen 2
  have c_r_3_w3 := x_r.cell (i := 3) rfl
  have f_r_3_w3 := x_r.frozen 3
  have c_r_4_w3 := x_r.cell (i := 4) rfl
  have f_r_4_w3 := x_r.frozen 4
  have c_r_5_w3 := x_r.cell (i := 5) rfl
  have f_r_5_w3 := x_r.frozen 5
  have c_r_6_w3 := x_r.cell (i := 6) rfl
  have f_r_6_w3 := x_r.frozen 6
  have c_r_7_w3 := x_r.cell (i := 7) rfl
  have f_r_7_w3 := x_r.frozen 7
  have c_r_8_w3 := x_r.cell (i := 8) rfl
  have f_r_8_w3 := x_r.frozen 8
  go_wp2_with fail
  clear i_w3_8 i_w3_7 i_w3_6 i_w3_5 i_w3_4 i_w3_3 i_w3_2 i_w3_1 c_r_0_w3 f_r_0_w3 c_r_1_w3 f_r_1_w3 c_r_2_w3 f_r_2_w3 c_r_3_w3 f_r_3_w3 c_r_4_w3 f_r_4_w3 c_r_5_w3 f_r_5_w3 c_r_6_w3 f_r_6_w3 c_r_7_w3 f_r_7_w3 c_r_8_w3 f_r_8_w3
  go_region_with (first | (go_at_call 28; refine (iUsed_9 (w := w3.drew) x_r rfl).mono ?_; rintro e wu ⟨B, U, rfl, x_l, hB, hbu⟩; replace hB : w3.heap.size ≤ B := hB; have hb2 : Below w3.heap.size w3 wu := (Below.refl _ w3).drew.trans hbu) | (go_at_call 27; refine (iRead_acctTo ht (B_w3.trans (hb2.mono B_w3.size)) (by omega) (by omega) (x_r.from_ hb2) x_l (by omega) (hWD.below hb2 (by omega)) hz1 hm1).mono ?_; rintro e wz ⟨v9, ok, rfl, hp, hC⟩))
  replace x_q := x_q.from_ hb2
  replace x_r := x_r.from_ hb2
  have B_wu := B_w3.trans (hb2.mono B_w3.size)
  have s_wu := hb2.size
  replace x_q := x_q.chg hC (by omega)
  have B_wz := Below.chg_ B_wu hC (by omega) (by omega)
  have s_wz := hC.size
  rcases hp with ⟨rfl, p2, x_r, p4⟩ | ⟨rfl, p2, rfl, cs9, x_r⟩
  case inr =>
    have HN := Lib.hid (textNo1 HWS.out (by rw [okT_ne HK0.out (by decide) (show nF 9 = 2 from rfl) hn, p2]; rfl))
    have sB9 := B_wz.size
    go_wp2_with (refine wpl_rstore (zs := [0, 0, 0, 0, 0, 0, 0, 0, 0]) x_q rfl rfl rfl rfl rfl rfl ?_; intro wz x_z h_z s_z)
    refine ret_cell_tmp (by rfl) (by rfl) x_z Tryd.underlying26 sz_rec (by rfl) ?_
    rw [HN.out.1, HN.out.2]
    exact ⟨_, rfl, ov_rec (d := recZ) (Nat.le_refl _), Below.chg_ B_wz h_z (by omega) (by omega)⟩
  obtain ⟨t1, ht1⟩ : ∃ z, txN ((ws.drop 1).getD 0 ByteArray.empty) = z := ⟨_, rfl⟩
  obtain ⟨t3, ht3⟩ : ∃ z, txN ((ws.drop 1).getD 1 ByteArray.empty) = z := ⟨_, rfl⟩
  rw [ht1, ht3] at x_r
  have pl : 2 ≤ (ws.drop 1).length := ((okN_iff _ _).1 p2).1
  have c_r_0_wz := x_r.cell (i := 0) rfl
  have hOf := recOf_9 HK0.out pl
  rw [ht1, ht3] at hOf
  have HOf := Lib.hid hOf
  clear hOf ht1 ht3
  have hT := okT_ne HK0.out (by decide) (show nF 9 = 2 from rfl) hn
  rw [p2] at hT
  have HT := Lib.hid hT
  clear hT p2
  obtain ⟨Ar, cr, rfl, -, -, -⟩ := p4
  obtain ⟨M, hM⟩ : ∃ m, ((ws.drop 1).drop 2).length = m := ⟨_, rfl⟩
  rw [hM]
  have HTM := HT.out
  rw [hM] at HTM
  have HTM := Lib.hid HTM
  by_cases hM0 : M = 0
  case neg =>
    have m1 : (0 : Int) < (M : Int) := by omega
    have HN := Lib.hid (textNo1 HWS.out (by rw [HTM.out]; simp [hM0]))
    have sB9 := B_wz.size
    go_wp2_with (refine wpl_rstore (zs := [0, 0, 0, 0, 0, 0, 0, 0, 0]) x_q rfl rfl rfl rfl rfl rfl ?_; intro wz x_z h_z s_z)
    refine ret_cell_tmp (by rfl) (by rfl) x_z Tryd.underlying26 sz_rec (by rfl) ?_
    rw [HN.out.1, HN.out.2]
    exact ⟨_, rfl, ov_rec (d := recZ) (Nat.le_refl _), Below.chg_ B_wz h_z (by omega) (by omega)⟩
  have m1 : ¬ ((0 : Int) < (M : Int)) := by omega
  obtain ⟨ob, hob⟩ : ∃ b, recOkB (⟨9, t1, 0, t3, 0, ⟨0, 0, 0, 0⟩⟩ : MRec) = b := ⟨_, rfl⟩
  have HO := Lib.hid hob
  clear hob
  have rv : RV recL wz (.agg #[.int .i64 9, .int .i64 t1, .int .i64 0, .int .i64 t3, .int .i64 0, .int .i64 0, .int .i64 0, .int .i64 0, .int .i64 0]) (⟨9, t1, 0, t3, 0, ⟨0, 0, 0, 0⟩⟩ : MRec) := rv_rec_mk (zM := ⟨0, 0, 0, 0⟩)
  go_wp2_with (refine wpl_rload x_r rfl rfl rfl rfl ?_)
  refine (iRecOk_c rv).mono ?_
  rintro e w4 ⟨rfl, h_w4⟩
  clear c_r_0_wz
  replace x_q := x_q.from_ h_w4
  replace x_r := x_r.from_ h_w4
  have B_w4 := B_wz.trans (h_w4.mono B_wz.size)
  have s_w4 := h_w4.size
  rw [HO.out]
  cases ob with
  | false =>
    have HN := Lib.hid (textNo2 HWS.out HOf.out HO.out)
    have sB9 := B_w4.size
    go_wp2_with (refine wpl_rstore (zs := [0, 0, 0, 0, 0, 0, 0, 0, 0]) x_q rfl rfl rfl rfl rfl rfl ?_; intro wz x_z h_z s_z)
    refine ret_cell_tmp (by rfl) (by rfl) x_z Tryd.underlying26 sz_rec (by rfl) ?_
    rw [HN.out.1, HN.out.2]
    exact ⟨_, rfl, ov_rec (d := recZ) (Nat.le_refl _), Below.chg_ B_w4 h_z (by omega) (by omega)⟩
  | true =>
    have HN := Lib.hid (textYes HWS.out HOf.out (by rw [HTM.out]; simp [hM0]) HO.out)
    have sB9 := B_w4.size
    go_wp2_with (first | refine wpl_rload x_r rfl rfl rfl rfl ?_ | (refine wpl_rstore (zs := [9, t1, 0, t3, 0, 0, 0, 0, 0]) x_q rfl rfl rfl rfl rfl rfl ?_; intro wz x_z h_z s_z))
    refine ret_cell_tmp (by rfl) (by rfl) x_z Tryd.underlying26 sz_rec (by rfl) ?_
    rw [HN.out.1, HN.out.2]
    exact ⟨_, rfl, ov_rec (d := ⟨9, t1, 0, t3, 0, ⟨0, 0, 0, 0⟩⟩) (Nat.le_refl _), Below.chg_ B_w4 h_z (by omega) (by omega)⟩
end Go.Proofs.YtkbhbccpmmhelaaDoor
namespace Go.Proofs.YtkbhbccpmmhelaaDoor
open Go.RowKit
set_option linter.unusedVariables false
set_option linter.unusedSimpArgs false
set_option maxRecDepth 100000 in
set_option maxHeartbeats 8000000 in
theorem iText_5 {w : World} (ht : Tab10 w) (s : ByteArray) (hs : s.size ≤ 1048576) (hk0 : kindTo ((splitL s 32).getD 0 ByteArray.empty) 9 = 5) : Calls Tryd.prog 9 #[.string s] w (NewVB recL w (textRec s) (textRecB s)) := by
  obtain ⟨wa, hwa, B0, sa, x_q⟩ := frame1 w 26 [.int .i64 0, .int .i64 0, .int .i64 0, .int .i64 0, .int .i64 0, .int .i64 0, .int .i64 0, .int .i64 0, .int .i64 0]
  have sa_1 := Nat.le_of_eq sa
  have sa_2 := Nat.le_of_eq sa.symm
  clear sa
  obtain ⟨ws, hws⟩ : ∃ ws, splitL s 32 = ws := ⟨_, rfl⟩
  have hne : ws ≠ [] := by rw [← hws]; exact splitL_ne s 32
  have hlen : ws.length ≤ 16777216 := by rw [← hws]; have := splitL_len s 32; omega
  have hz : ∀ x ∈ ws, x.size ≤ 1048576 := by rw [← hws]; exact fun x hx => Nat.le_trans (splitL_size s 32 x hx) hs
  have hn : 1 ≤ ws.length := by cases ws with | nil => exact absurd rfl hne | cons a l => simp
  rw [hws] at hk0
  have HK0 := Lib.hid hk0
  have HWS := Lib.hid hws
  go_enter Tryd.func9, Tryd.ntmps9
  go_wp2_with fail
  refine (iCut_c s hs).mono ?_
  rintro e w1 ⟨v, rfl, o_v, h_w1⟩
  replace x_q := x_q.from_ h_w1
  have B_w1 := B0.trans (h_w1.mono B0.size)
  have s_w1 := h_w1.size
  rw [hws] at o_v
  clear hws hne
  obtain ⟨A, c, rfl, hc1, hc2, hr⟩ := o_v.rd (d := ByteArray.empty)
  clear o_v
  obtain ⟨B0, hB0⟩ : ∃ n, w1.heap.size = n := ⟨_, rfl⟩
  have B0l := Nat.le_of_eq hB0
  have B0r := Nat.le_of_eq hB0.symm
  rw [hB0] at hr
  clear hB0
  have hWS : WS w1 B0 (.slice A ws.length c) ws := ⟨A, c, rfl, hc1, hc2, hr⟩
  have hdr := run_wdrop A c 1 ws.length 1 rfl hn
  have hWD := hWS.drop hn
  clear hWS
  obtain ⟨g, off, hA, hg, hcell⟩ := hr (by omega)
  clear hr
  obtain ⟨y0, hy0⟩ : ∃ y, ws.getD 0 ByteArray.empty = y := ⟨_, rfl⟩
  have e0 := hcell 0 (by omega)
  rw [hy0] at e0
  simp only [Nat.add_zero] at e0
  clear hcell
  have i2 : (0 : Int) < (ws.length : Int) := by omega
  generalize hdX : (if c = 1 then A else A.map (·.add (1 * 1))) = X at hdr hWD
  clear hdX
  subst hA
  rw [hy0] at hk0
  have HK := Lib.hid hk0
  clear hk0 hy0
  go_wp2_with fail
  refine (iKindR_c y0 _).mono ?_
  rintro e w2 ⟨rfl, h_w2⟩
  replace x_q := x_q.from_ h_w2
  have B_w2 := B_w1.trans (h_w2.mono B_w1.size)
  have s_w2 := h_w2.size
  rw [HK.out]
  replace hWD := hWD.below h_w2 (by omega)
  obtain ⟨w3, e_w3, s_w3, h_w3, x_r⟩ := alloc_step w2 26 [.int .i64 5, .int .i64 0, .int .i64 0, .int .i64 0, .int .i64 0, .int .i64 0, .int .i64 0, .int .i64 0, .int .i64 0]
  have s_w3_1 := Nat.le_of_eq s_w3
  have s_w3_2 := Nat.le_of_eq s_w3.symm
  clear s_w3
  replace x_q := x_q.from_ h_w3
  have B_w3 := B_w2.trans (h_w3.mono B_w2.size)
  have i_w3_8 := x_r.same (i := 8) rfl
  have i_w3_7 := x_r.same (i := 7) rfl
  have i_w3_6 := x_r.same (i := 6) rfl
  have i_w3_5 := x_r.same (i := 5) rfl
  have i_w3_4 := x_r.same (i := 4) rfl
  have i_w3_3 := x_r.same (i := 3) rfl
  have i_w3_2 := x_r.same (i := 2) rfl
  have i_w3_1 := x_r.same (i := 1) rfl
  replace hWD := hWD.below h_w3 (by omega)
  have hz1 : ∀ x ∈ ws.drop 1, x.size ≤ 1048576 := fun x hx => hz x (List.mem_of_mem_drop hx)
  have hm1 : (ws.drop 1).length ≤ 16777216 := by rw [List.length_drop]; omega
  have c_r_0_w3 := x_r.cell (i := 0) rfl
  have f_r_0_w3 := x_r.frozen 0
  have c_r_1_w3 := x_r.cell (i := 1) rfl
  have f_r_1_w3 := x_r.frozen 1
  have c_r_2_w3 := x_r.cell (i := 2) rfl
  have f_r_2_w3 := x_r.frozen 2
  have c_r_3_w3 := x_r.cell (i := 3) rfl
  have f_r_3_w3 := x_r.frozen 3
  have c_r_4_w3 := x_r.cell (i := 4) rfl
  have f_r_4_w3 := x_r.frozen 4
  have c_r_5_w3 := x_r.cell (i := 5) rfl
  have f_r_5_w3 := x_r.frozen 5
  have c_r_6_w3 := x_r.cell (i := 6) rfl
  have f_r_6_w3 := x_r.frozen 6
  have c_r_7_w3 := x_r.cell (i := 7) rfl
  have f_r_7_w3 := x_r.frozen 7
  have c_r_8_w3 := x_r.cell (i := 8) rfl
  have f_r_8_w3 := x_r.frozen 8
  go_wp2_with fail
  clear i_w3_8 i_w3_7 i_w3_6 i_w3_5 i_w3_4 i_w3_3 i_w3_2 i_w3_1 c_r_0_w3 f_r_0_w3 c_r_1_w3 f_r_1_w3 c_r_2_w3 f_r_2_w3 c_r_3_w3 f_r_3_w3 c_r_4_w3 f_r_4_w3 c_r_5_w3 f_r_5_w3 c_r_6_w3 f_r_6_w3 c_r_7_w3 f_r_7_w3 c_r_8_w3 f_r_8_w3
  go_region_with (first | (go_at_call 28; refine (iUsed_5 (w := w3.drew) x_r rfl).mono ?_; rintro e wu ⟨B, U, rfl, x_l, hB, hbu⟩; replace hB : w3.heap.size ≤ B := hB; have hb2 : Below w3.heap.size w3 wu := (Below.refl _ w3).drew.trans hbu) | (go_at_call 27; refine (iRead_toAmt ht (B_w3.trans (hb2.mono B_w3.size)) (by omega) (by omega) (x_r.from_ hb2) x_l (by omega) (hWD.below hb2 (by omega)) hz1 hm1).mono ?_; rintro e wz ⟨v9, ok, rfl, hp, hC⟩))
  replace x_q := x_q.from_ hb2
  replace x_r := x_r.from_ hb2
  have B_wu := B_w3.trans (hb2.mono B_w3.size)
  have s_wu := hb2.size
  replace x_q := x_q.chg hC (by omega)
  have B_wz := Below.chg_ B_wu hC (by omega) (by omega)
  have s_wz := hC.size
  rcases hp with ⟨rfl, p2, x_r, p4⟩ | ⟨rfl, p2, rfl, cs9, x_r⟩
  case inr =>
    have HN := Lib.hid (textNo1 HWS.out (by rw [okT_5 HK0.out hn, p2]; rfl))
    have sB9 := B_wz.size
    go_wp2_with (refine wpl_rstore (zs := [0, 0, 0, 0, 0, 0, 0, 0, 0]) x_q rfl rfl rfl rfl rfl rfl ?_; intro wz x_z h_z s_z)
    refine ret_cell_tmp (by rfl) (by rfl) x_z Tryd.underlying26 sz_rec (by rfl) ?_
    rw [HN.out.1, HN.out.2]
    exact ⟨_, rfl, ov_rec (d := recZ) (Nat.le_refl _), Below.chg_ B_wz h_z (by omega) (by omega)⟩
  obtain ⟨t3, ht3⟩ : ∃ z, txN ((ws.drop 1).getD 0 ByteArray.empty) = z := ⟨_, rfl⟩
  obtain ⟨t4, ht4⟩ : ∃ z, txN ((ws.drop 1).getD 1 ByteArray.empty) = z := ⟨_, rfl⟩
  rw [ht3, ht4] at x_r
  have pl : 2 ≤ (ws.drop 1).length := ((okN_iff _ _).1 p2).1
  have c_r_0_wz := x_r.cell (i := 0) rfl
  have hz2 : ∀ x ∈ (ws.drop 1).drop 2, x.size ≤ 1048576 := fun x hx => hz1 x (List.mem_of_mem_drop hx)
  have hm2 : ((ws.drop 1).drop 2).length ≤ 16777216 := by rw [List.length_drop]; omega
  go_wp2_with fail
  refine (iReadMsg_c ht B_wz (by omega) (by omega) x_r p4 hz2 hm2).mono ?_
  rintro e wm ⟨v8, ok8, rfl, hp8, hC8⟩
  clear c_r_0_wz
  replace x_q := x_q.chg hC8 (by omega)
  have B_wm := Below.chg_ B_wz hC8 (by omega) (by omega)
  have s_wm := hC8.size
  rcases hp8 with ⟨rfl, ⟨p5, p6⟩, x_r, p8⟩ | ⟨rfl, p5, rfl, cs8, x_r⟩
  case inr =>
    have hT5 : okT ws = false := by
      rw [okT_5 HK0.out hn]
      rcases p5 with p5 | p5
      · rw [decide_eq_false p5]; simp
      · rw [p5]; simp
    have HN := Lib.hid (textNo1 HWS.out hT5)
    clear hT5
    have sB9 := B_wm.size
    go_wp2_with (refine wpl_rstore (zs := [0, 0, 0, 0, 0, 0, 0, 0, 0]) x_q rfl rfl rfl rfl rfl rfl ?_; intro wz x_z h_z s_z)
    refine ret_cell_tmp (by rfl) (by rfl) x_z Tryd.underlying26 sz_rec (by rfl) ?_
    rw [HN.out.1, HN.out.2]
    exact ⟨_, rfl, ov_rec (d := recZ) (Nat.le_refl _), Below.chg_ B_wm h_z (by omega) (by omega)⟩
  obtain ⟨u0, hu0⟩ : ∃ z, mkindTo (((ws.drop 1).drop 2).getD 0 ByteArray.empty) 5 = z := ⟨_, rfl⟩
  obtain ⟨u1, hu1⟩ : ∃ z, txN ((((ws.drop 1).drop 2).drop 1).getD 0 ByteArray.empty) = z := ⟨_, rfl⟩
  obtain ⟨u2, hu2⟩ : ∃ z, txN ((((ws.drop 1).drop 2).drop 1).getD 1 ByteArray.empty) = z := ⟨_, rfl⟩
  obtain ⟨u3, hu3⟩ : ∃ z, txN ((((ws.drop 1).drop 2).drop 1).getD 2 ByteArray.empty) = z := ⟨_, rfl⟩
  rw [hu0, hu1, hu2, hu3] at x_r
  have pl2 : 4 ≤ ((ws.drop 1).drop 2).length := by have := ((okN_iff _ _).1 p6).1; simp only [List.length_drop] at this p5 ⊢; omega
  have hOf := recOf_5 HK0.out pl pl2
  rw [ht3, ht4, hu0, hu1, hu2, hu3] at hOf
  have HOf := Lib.hid hOf
  clear hOf ht3 ht4 hu0 hu1 hu2 hu3
  have hT := okT_5 HK0.out hn
  rw [p2, p6] at hT
  have HT := Lib.hid hT
  clear hT
  obtain ⟨Ar, cr, rfl, -, -, -⟩ := p8
  obtain ⟨M, hM⟩ : ∃ m, ((((ws.drop 1).drop 2).drop 1).drop 3).length = m := ⟨_, rfl⟩
  rw [hM]
  have HTM := HT.out
  rw [hM] at HTM
  have HTM := Lib.hid HTM
  by_cases hM0 : M = 0
  case neg =>
    have m1 : (0 : Int) < (M : Int) := by omega
    have HN := Lib.hid (textNo1 HWS.out (by rw [HTM.out]; simp [hM0]))
    have sB9 := B_wm.size
    go_wp2_with (refine wpl_rstore (zs := [0, 0, 0, 0, 0, 0, 0, 0, 0]) x_q rfl rfl rfl rfl rfl rfl ?_; intro wz x_z h_z s_z)
    refine ret_cell_tmp (by rfl) (by rfl) x_z Tryd.underlying26 sz_rec (by rfl) ?_
    rw [HN.out.1, HN.out.2]
    exact ⟨_, rfl, ov_rec (d := recZ) (Nat.le_refl _), Below.chg_ B_wm h_z (by omega) (by omega)⟩
  have m1 : ¬ ((0 : Int) < (M : Int)) := by omega
  obtain ⟨ob, hob⟩ : ∃ b, recOkB (⟨5, 0, 0, t3, t4, ⟨u0, u1, u2, u3⟩⟩ : MRec) = b := ⟨_, rfl⟩
  have HO := Lib.hid hob
  clear hob
  have rv : RV recL wm (.agg #[.int .i64 5, .int .i64 0, .int .i64 0, .int .i64 t3, .int .i64 t4, .int .i64 u0, .int .i64 u1, .int .i64 u2, .int .i64 u3]) (⟨5, 0, 0, t3, t4, ⟨u0, u1, u2, u3⟩⟩ : MRec) := rv_rec_mk (zM := ⟨u0, u1, u2, u3⟩)
  go_wp2_with (refine wpl_rload x_r rfl rfl rfl rfl ?_)
  refine (iRecOk_c rv).mono ?_
  rintro e w4 ⟨rfl, h_w4⟩
  replace x_q := x_q.from_ h_w4
  replace x_r := x_r.from_ h_w4
  have B_w4 := B_wm.trans (h_w4.mono B_wm.size)
  have s_w4 := h_w4.size
  rw [HO.out]
  cases ob with
  | false =>
    have HN := Lib.hid (textNo2 HWS.out HOf.out HO.out)
    have sB9 := B_w4.size
    go_wp2_with (refine wpl_rstore (zs := [0, 0, 0, 0, 0, 0, 0, 0, 0]) x_q rfl rfl rfl rfl rfl rfl ?_; intro wz x_z h_z s_z)
    refine ret_cell_tmp (by rfl) (by rfl) x_z Tryd.underlying26 sz_rec (by rfl) ?_
    rw [HN.out.1, HN.out.2]
    exact ⟨_, rfl, ov_rec (d := recZ) (Nat.le_refl _), Below.chg_ B_w4 h_z (by omega) (by omega)⟩
  | true =>
    have HN := Lib.hid (textYes HWS.out HOf.out (by rw [HTM.out, decide_eq_true p5, decide_eq_true hM0]; rfl) HO.out)
    have sB9 := B_w4.size
    go_wp2_with (first | refine wpl_rload x_r rfl rfl rfl rfl ?_ | (refine wpl_rstore (zs := [5, 0, 0, t3, t4, u0, u1, u2, u3]) x_q rfl rfl rfl rfl rfl rfl ?_; intro wz x_z h_z s_z))
    refine ret_cell_tmp (by rfl) (by rfl) x_z Tryd.underlying26 sz_rec (by rfl) ?_
    rw [HN.out.1, HN.out.2]
    exact ⟨_, rfl, ov_rec (d := ⟨5, 0, 0, t3, t4, ⟨u0, u1, u2, u3⟩⟩) (Nat.le_refl _), Below.chg_ B_w4 h_z (by omega) (by omega)⟩
end Go.Proofs.YtkbhbccpmmhelaaDoor
namespace Go.Proofs.YtkbhbccpmmhelaaDoor
open Go.RowKit
set_option linter.unusedVariables false
theorem rkName_ne {k : Int} (h : 1 ≤ k ∧ k ≤ 9) : (rkName k).size ≠ 0 := by
  have h5 : k = 1 ∨ k = 2 ∨ k = 3 ∨ k = 4 ∨ k = 5 ∨ k = 6 ∨ k = 7 ∨ k = 8 ∨ k = 9 := by omega
  rcases h5 with rfl | rfl | rfl | rfl | rfl | rfl | rfl | rfl | rfl <;> decide
end Go.Proofs.YtkbhbccpmmhelaaDoor
namespace Go.Proofs.YtkbhbccpmmhelaaDoor
open Go.RowKit
theorem iTextRec_c {w : World} (ht : Tab10 w) (s : ByteArray) (hs : s.size ≤ 1048576) : Calls Tryd.prog 9 #[.string s] w (NewVB recL w (textRec s) (textRecB s)) := by
  have hKr := kindTo_range ((splitL s 32).getD 0 ByteArray.empty) 9
  have h10 : kindTo ((splitL s 32).getD 0 ByteArray.empty) 9 = 0 ∨ kindTo ((splitL s 32).getD 0 ByteArray.empty) 9 = 1 ∨ kindTo ((splitL s 32).getD 0 ByteArray.empty) 9 = 2 ∨ kindTo ((splitL s 32).getD 0 ByteArray.empty) 9 = 3 ∨ kindTo ((splitL s 32).getD 0 ByteArray.empty) 9 = 4 ∨ kindTo ((splitL s 32).getD 0 ByteArray.empty) 9 = 5 ∨ kindTo ((splitL s 32).getD 0 ByteArray.empty) 9 = 6 ∨ kindTo ((splitL s 32).getD 0 ByteArray.empty) 9 = 7 ∨ kindTo ((splitL s 32).getD 0 ByteArray.empty) 9 = 8 ∨ kindTo ((splitL s 32).getD 0 ByteArray.empty) 9 = 9 := by omega
  rcases h10 with h | h | h | h | h | h | h | h | h | h
  · exact iText_0 ht s hs h
  · exact iText_1 ht s hs h
  · exact iText_2 ht s hs h
  · exact iText_3 ht s hs h
  · exact iText_4 ht s hs h
  · exact iText_5 ht s hs h
  · exact iText_6 ht s hs h
  · exact iText_7 ht s hs h
  · exact iText_8 ht s hs h
  · exact iText_9 ht s hs h
end Go.Proofs.YtkbhbccpmmhelaaDoor
namespace Go.Proofs.YtkbhbccpmmhelaaDoor
set_option linter.unusedVariables false
set_option linter.unusedSimpArgs false
theorem gnum_inv : ∀ (l : List Int) (i : Nat) (acc n : Int) (c : Nat), (∀ x ∈ l, 0 ≤ x ∧ x ≤ 255) → gnum l i acc = some (n, c) → ∃ m : Nat, n = acc + (m : Int) * p128 i ∧ i + 1 ≤ c ∧ l = enc m ++ l.drop (c - i) ∧ (0 < i → 0 < m)
  | [], i, acc, n, c, hl, h => by simp [gnum] at h
  | x :: r, i, acc, n, c, hl, h => by
    have hx := hl x (by simp)
    have hr : ∀ y ∈ r, 0 ≤ y ∧ y ≤ 255 := fun y hy => hl y (by simp [hy])
    unfold gnum at h
    split at h
    · split at h
      · split at h
        · cases h
        · rename_i h8 hlt hbad
          have e := Option.some.inj h
          have e1 := congrArg Prod.fst e
          have e2 := congrArg Prod.snd e
          simp only at e1 e2
          refine ⟨x.toNat, ?_, by omega, ?_, fun hi => ?_⟩
          · have k1 : x % 128 = ((x.toNat : Nat) : Int) := by omega
            rw [← e1, k1]
          · have k2 : c - i = 1 := by omega
            have k3 : ((x.toNat : Nat) : Int) = x := by omega
            rw [enc_small _ (by omega), k2, k3]; rfl
          · rcases Nat.eq_zero_or_pos x.toNat with h0 | h0
            · exact absurd (Or.inr ⟨by omega, hi⟩) hbad
            · exact h0
      · rename_i h8 hge
        obtain ⟨m, e1, e2, e3, e4⟩ := gnum_inv r (i + 1) _ n c hr h
        have hm := e4 (by omega)
        refine ⟨(x % 128).toNat + 128 * m, ?_, by omega, ?_, fun _ => by omega⟩
        · have k1 : (((x % 128).toNat + 128 * m : Nat) : Int) = x % 128 + 128 * (m : Int) := by omega
          rw [e1, p128_succ, k1, Int.add_mul, Int.add_assoc]
          congr 2
          rw [Int.mul_comm (p128 i) 128, ← Int.mul_assoc, Int.mul_comm (m : Int) 128]
        · have a1 : ((x % 128).toNat + 128 * m) % 128 = (x % 128).toNat := by omega
          have a2 : ((x % 128).toNat + 128 * m) / 128 = m := by omega
          have a3 : c - i = (c - (i + 1)) + 1 := by omega
          have a4 : (128 : Int) + (((x % 128).toNat : Nat) : Int) = x := by omega
          rw [enc_big _ (by omega), a1, a2, a3, List.drop_succ_cons, List.cons_append, ← e3, a4]
    · cases h
theorem all_of_bytes {zs : List Int} (hb : Bytes zs) : ∀ x ∈ zs, 0 ≤ x ∧ x ≤ 255 := by
  intro x hx
  obtain ⟨j, hj, rfl⟩ := List.getElem_of_mem hx
  have := hb j
  simpa [hj] using this
theorem getNum_inv {zs : List Int} {a n : Int} {c : Nat} (hb : Bytes zs) (h : getNum zs a = some (n, c)) : zs.drop a.toNat = enc n.toNat ++ zs.drop (a + c).toNat := by
  have hs := getNum_some h
  unfold getNum at h
  split at h
  · cases h
  · rename_i ha
    obtain ⟨m, e1, -, e3, -⟩ := gnum_inv _ 0 0 n c (fun x hx => all_of_bytes hb x (List.mem_of_mem_drop hx)) h
    rw [p128_zero] at e1
    have k1 : n.toNat = m := by omega
    have k2 : (a + c).toNat = a.toNat + c := by omega
    rw [k1, k2]
    rw [Nat.sub_zero, List.drop_drop] at e3
    exact e3
theorem rdNum_inv {zs : List Int} {p : Int} {bad : Bool} (hb : Bytes zs) (h : (rdNum zs p bad).2.2 = false) : bad = false ∧ zs.drop p.toNat = enc (rdNum zs p bad).1.toNat ++ zs.drop (rdNum zs p bad).2.1.toNat ∧ 0 ≤ (rdNum zs p bad).2.1 ∧ (rdNum zs p bad).2.1 ≤ zs.length := by
  cases bad with
  | true => rw [rdNum_bad] at h; cases h
  | false =>
    cases hg : getNum zs p with
    | none => rw [rdNum_none hg] at h; cases h
    | some x =>
      obtain ⟨n, c⟩ := x
      have hs := getNum_some hg
      rw [rdNum_some hg]
      exact ⟨rfl, getNum_inv hb hg, by dsimp only; omega, by dsimp only; omega⟩
theorem rdMsg_inv {zs : List Int} {p : Int} {bad : Bool} (hb : Bytes zs) (h : (rdMsg zs p bad).2.2 = false) : bad = false ∧ zs.drop p.toNat = encs (msgNums (rdMsg zs p bad).1) ++ zs.drop (rdMsg zs p bad).2.1.toNat ∧ 0 ≤ (rdMsg zs p bad).2.1 ∧ (rdMsg zs p bad).2.1 ≤ zs.length := by
  unfold rdMsg at h ⊢
  dsimp only at h ⊢
  obtain ⟨h, -⟩ := Bool.or_eq_false_iff.1 h
  obtain ⟨h3, d3, l3⟩ := rdNum_inv hb h
  obtain ⟨h2, d2, -⟩ := rdNum_inv hb h3
  obtain ⟨h1, d1, -⟩ := rdNum_inv hb h2
  obtain ⟨h0, d0, -⟩ := rdNum_inv hb h1
  refine ⟨h0, ?_, l3⟩
  rw [d0, d1, d2, d3]
  simp [encs, msgNums, List.append_assoc]
def recEnd (zs : List Int) : Int :=
  let a := rdNum zs 0 false
  let b := rdNum zs a.2.1 a.2.2
  let c := rdNum zs b.2.1 b.2.2
  let d := rdNum zs c.2.1 c.2.2
  let e := rdNum zs d.2.1 d.2.2
  if a.1 = 5 then (rdMsg zs e.2.1 e.2.2).2.1 else e.2.1
theorem recRd_inv {zs : List Int} (hb : Bytes zs) (h : (recRd zs).2 = false) : zs = (if (recRd zs).1.Kind = 5 then encs (recHead (recRd zs).1) ++ encs (msgNums (recRd zs).1.M) else encs (recHead (recRd zs).1)) ++ zs.drop (recEnd zs).toNat ∧ 0 ≤ recEnd zs ∧ recEnd zs ≤ zs.length := by
  have hz : zs = zs.drop (0 : Int).toNat := rfl
  generalize ea : rdNum zs 0 false = a at *
  generalize eb : rdNum zs a.2.1 a.2.2 = b at *
  generalize ec : rdNum zs b.2.1 b.2.2 = c at *
  generalize ed : rdNum zs c.2.1 c.2.2 = d at *
  generalize ee : rdNum zs d.2.1 d.2.2 = e at *
  have he : e.2.2 = false → zs = encs [a.1, b.1, c.1, d.1, e.1] ++ zs.drop e.2.1.toNat ∧ 0 ≤ e.2.1 ∧ e.2.1 ≤ zs.length := by
    intro he
    obtain ⟨h4, d4, l4⟩ := rdNum_inv hb (ee ▸ he)
    obtain ⟨h3, d3, -⟩ := rdNum_inv hb (ed ▸ h4)
    obtain ⟨h2, d2, -⟩ := rdNum_inv hb (ec ▸ h3)
    obtain ⟨h1, d1, -⟩ := rdNum_inv hb (eb ▸ h2)
    obtain ⟨-, d0, -⟩ := rdNum_inv hb (ea ▸ h1)
    rw [ea] at d0; rw [eb] at d1; rw [ec] at d2; rw [ed] at d3; rw [ee] at d4 l4
    refine ⟨?_, l4⟩
    rw [d1, d2, d3, d4] at d0
    refine Eq.trans d0 ?_
    simp [encs, List.append_assoc]
  have e1 : recRd zs = if a.1 = 5 then (⟨a.1, b.1, c.1, d.1, e.1, (rdMsg zs e.2.1 e.2.2).1⟩, (rdMsg zs e.2.1 e.2.2).2.2) else (⟨a.1, b.1, c.1, d.1, e.1, ⟨0, 0, 0, 0⟩⟩, e.2.2) := by
    unfold recRd; simp only [ea, eb, ec, ed, ee]
  have e2 : recEnd zs = if a.1 = 5 then (rdMsg zs e.2.1 e.2.2).2.1 else e.2.1 := by
    unfold recEnd; simp only [ea, eb, ec, ed, ee]
  by_cases h5 : a.1 = 5
  · rw [if_pos h5] at e1 e2
    rw [e1] at h ⊢
    rw [e2]
    obtain ⟨m0, m1, m2⟩ := rdMsg_inv hb h
    obtain ⟨q1, -⟩ := he m0
    refine ⟨?_, m2⟩
    rw [if_pos (show (a.1 : Int) = 5 from h5)]
    rw [m1] at q1
    refine Eq.trans q1 ?_
    rw [List.append_assoc]; rfl
  · rw [if_neg h5] at e1 e2
    rw [e1] at h ⊢
    rw [e2]
    obtain ⟨q1, q2⟩ := he h
    refine ⟨?_, q2⟩
    rw [if_neg (show ¬ (a.1 : Int) = 5 from h5)]
    exact q1
theorem recB_eq {zs : List Int} (hb : Bytes zs) : bytesRecB zs = (!(recRd zs).2 && (decide (recEnd zs = (zs.length : Int)) && recOkB (recRd zs).1)) := by
  unfold bytesRecB
  cases hB : (recRd zs).2 with
  | true => rfl
  | false =>
    cases hO : recOkB (recRd zs).1 with
    | false => simp
    | true =>
      obtain ⟨h1, h2, h3⟩ := recRd_inv hb hB
      have e : recBytes (recRd zs).1 ++ zs.drop (recEnd zs).toNat = zs := by
        unfold recBytes; rw [if_pos hO]; exact h1.symm
      have key : recBytes (recRd zs).1 = zs ↔ recEnd zs = (zs.length : Int) := by
        constructor
        · intro h
          have := congrArg List.length e
          rw [h, List.length_append, List.length_drop] at this
          omega
        · intro h
          rw [h] at e
          simpa using e
      simp [key]
theorem bytesRec_no {zs : List Int} (h : bytesRecB zs = false) : bytesRec zs = recZ := by unfold bytesRec; rw [h]; rfl
theorem bytesRec_yes {zs : List Int} (h : bytesRecB zs = true) : bytesRec zs = (recRd zs).1 := by unfold bytesRec; rw [if_pos h]
theorem bytesRec_bad {zs : List Int} (h : (recRd zs).2 = true) : bytesRecB zs = false ∧ bytesRec zs = recZ := by
  have h1 : bytesRecB zs = false := by unfold bytesRecB; rw [h]; rfl
  exact ⟨h1, bytesRec_no h1⟩
theorem rdMsg_bad (zs : List Int) (p : Int) : (rdMsg zs p true).2.2 = true := by simp [rdMsg, rdNum_bad]
section
variable {zs : List Int} {n1 n2 n3 n4 n5 p1 p2 p3 p4 p5 : Int} {c1 c2 c3 c4 c5 : Nat}
theorem recRd_1 (h1 : getNum zs 0 = none) : (recRd zs).2 = true := by
  unfold recRd; simp only [rdNum_none h1, rdNum_bad]; split <;> simp [rdMsg_bad]
theorem recRd_2 (h1 : getNum zs 0 = some (n1, c1)) (e1 : 0 + (c1 : Int) = p1) (h2 : getNum zs p1 = none) : (recRd zs).2 = true := by
  unfold recRd; simp only [rdNum_some h1, e1, rdNum_none h2, rdNum_bad]; split <;> simp [rdMsg_bad]
theorem recRd_3 (h1 : getNum zs 0 = some (n1, c1)) (e1 : 0 + (c1 : Int) = p1) (h2 : getNum zs p1 = some (n2, c2)) (e2 : p1 + c2 = p2) (h3 : getNum zs p2 = none) : (recRd zs).2 = true := by
  unfold recRd; simp only [rdNum_some h1, e1, rdNum_some h2, e2, rdNum_none h3, rdNum_bad]; split <;> simp [rdMsg_bad]
theorem recRd_4 (h1 : getNum zs 0 = some (n1, c1)) (e1 : 0 + (c1 : Int) = p1) (h2 : getNum zs p1 = some (n2, c2)) (e2 : p1 + c2 = p2) (h3 : getNum zs p2 = some (n3, c3)) (e3 : p2 + c3 = p3) (h4 : getNum zs p3 = none) : (recRd zs).2 = true := by
  unfold recRd; simp only [rdNum_some h1, e1, rdNum_some h2, e2, rdNum_some h3, e3, rdNum_none h4, rdNum_bad]; split <;> simp [rdMsg_bad]
theorem recRd_5 (h1 : getNum zs 0 = some (n1, c1)) (e1 : 0 + (c1 : Int) = p1) (h2 : getNum zs p1 = some (n2, c2)) (e2 : p1 + c2 = p2) (h3 : getNum zs p2 = some (n3, c3)) (e3 : p2 + c3 = p3) (h4 : getNum zs p3 = some (n4, c4)) (e4 : p3 + c4 = p4) (h5 : getNum zs p4 = none) : (recRd zs).2 = true := by
  unfold recRd; simp only [rdNum_some h1, e1, rdNum_some h2, e2, rdNum_some h3, e3, rdNum_some h4, e4, rdNum_none h5]; split <;> simp [rdMsg_bad]
theorem recRd_all (h1 : getNum zs 0 = some (n1, c1)) (e1 : 0 + (c1 : Int) = p1) (h2 : getNum zs p1 = some (n2, c2)) (e2 : p1 + c2 = p2) (h3 : getNum zs p2 = some (n3, c3)) (e3 : p2 + c3 = p3) (h4 : getNum zs p3 = some (n4, c4)) (e4 : p3 + c4 = p4) (h5 : getNum zs p4 = some (n5, c5)) (e5 : p4 + c5 = p5) :
    (recRd zs = if n1 = 5 then (⟨n1, n2, n3, n4, n5, (rdMsg zs p5 false).1⟩, (rdMsg zs p5 false).2.2) else (⟨n1, n2, n3, n4, n5, ⟨0, 0, 0, 0⟩⟩, false)) ∧ recEnd zs = if n1 = 5 then (rdMsg zs p5 false).2.1 else p5 := by
  unfold recRd recEnd
  simp only [rdNum_some h1, e1, rdNum_some h2, e2, rdNum_some h3, e3, rdNum_some h4, e4, rdNum_some h5, e5]
  exact ⟨trivial, trivial⟩
end
end Go.Proofs.YtkbhbccpmmhelaaDoor
namespace Go.Proofs.YtkbhbccpmmhelaaDoor
open Go.RowKit
set_option linter.unusedVariables false
theorem get_no {zs : List Int} {a : Int} (h : (rdMsg zs a false).2.2 = true) : msgGetB zs a = false ∧ msgGetM zs a = msgZ ∧ msgGetP zs a = 0 := by
  have hb : msgGetB zs a = false := by unfold msgGetB; rw [h]; rfl
  unfold msgGetM msgGetP
  rw [hb]
  exact ⟨rfl, rfl, rfl⟩
theorem get_none1 {zs : List Int} {a : Int}   (h1 : getNum zs a = none) : (rdMsg zs a false).2.2 = true := by
  simp [rdMsg, rdNum_none h1, rdNum_bad]
theorem get_none2 {zs : List Int} {a : Int} {n1 p1 : Int} {c1 : Nat} (h1 : getNum zs a = some (n1, c1)) (e1 : a + c1 = p1) (h2 : getNum zs p1 = none) : (rdMsg zs a false).2.2 = true := by
  simp [rdMsg, rdNum_some h1, e1, rdNum_none h2, rdNum_bad]
theorem get_none3 {zs : List Int} {a : Int} {n1 p1 : Int} {c1 : Nat} {n2 p2 : Int} {c2 : Nat} (h1 : getNum zs a = some (n1, c1)) (e1 : a + c1 = p1) (h2 : getNum zs p1 = some (n2, c2)) (e2 : p1 + c2 = p2) (h3 : getNum zs p2 = none) : (rdMsg zs a false).2.2 = true := by
  simp [rdMsg, rdNum_some h1, e1, rdNum_some h2, e2, rdNum_none h3, rdNum_bad]
theorem get_none4 {zs : List Int} {a : Int} {n1 p1 : Int} {c1 : Nat} {n2 p2 : Int} {c2 : Nat} {n3 p3 : Int} {c3 : Nat} (h1 : getNum zs a = some (n1, c1)) (e1 : a + c1 = p1) (h2 : getNum zs p1 = some (n2, c2)) (e2 : p1 + c2 = p2) (h3 : getNum zs p2 = some (n3, c3)) (e3 : p2 + c3 = p3) (h4 : getNum zs p3 = none) : (rdMsg zs a false).2.2 = true := by
  simp [rdMsg, rdNum_some h1, e1, rdNum_some h2, e2, rdNum_some h3, e3, rdNum_none h4]
theorem get_all {zs : List Int} {a : Int} {n1 p1 : Int} {c1 : Nat} {n2 p2 : Int} {c2 : Nat} {n3 p3 : Int} {c3 : Nat} {n4 p4 : Int} {c4 : Nat} (h1 : getNum zs a = some (n1, c1)) (e1 : a + c1 = p1) (h2 : getNum zs p1 = some (n2, c2)) (e2 : p1 + c2 = p2) (h3 : getNum zs p2 = some (n3, c3)) (e3 : p2 + c3 = p3) (h4 : getNum zs p3 = some (n4, c4)) (e4 : p3 + c4 = p4) : rdMsg zs a false = (⟨n1, n2, n3, n4⟩, p4, !msgOkB ⟨n1, n2, n3, n4⟩) := by
  simp [rdMsg, rdNum_some h1, e1, rdNum_some h2, e2, rdNum_some h3, e3, rdNum_some h4, e4]
set_option maxRecDepth 100000 in
set_option maxHeartbeats 8000000 in
theorem iMsgGet_c {w : World} {v : Value} {zs : List Int} {a : Int} (h : RS .u8 w v zs) (hb : Bytes zs) (hm : zs.length ≤ 16777216) (ha : -9223372036854775808 ≤ a ∧ a ≤ 9223372036854775807) :
    Calls Tryd.prog 16 #[v, .int .i64 a] w (NewVIB msgL w (msgGetM zs a) (msgGetP zs a) (msgGetB zs a)) := by
  obtain ⟨A, c, rfl, q1, q2, hr⟩ := h
  obtain ⟨wa, hwa, B0, sa, x_r⟩ := frame1 w 24 [.int .i64 0, .int .i64 0, .int .i64 0, .int .i64 0]
  have sa_1 := Nat.le_of_eq sa
  have sa_2 := Nat.le_of_eq sa.symm
  clear sa
  have c_r_0_wa := x_r.cell (i := 0) rfl
  have f_r_0_wa := x_r.frozen 0
  have c_r_1_wa := x_r.cell (i := 1) rfl
  have f_r_1_wa := x_r.frozen 1
  have c_r_2_wa := x_r.cell (i := 2) rfl
  have f_r_2_wa := x_r.frozen 2
  have c_r_3_wa := x_r.cell (i := 3) rfl
  have f_r_3_wa := x_r.frozen 3
  obtain ⟨w1, e_w1, s_w1, h_w1, x_f⟩ := alloc_step wa 77 [.int .i64 0, .int .i64 0, .int .i64 0, .int .i64 0]
  have s_w1_1 := Nat.le_of_eq s_w1
  have s_w1_2 := Nat.le_of_eq s_w1.symm
  clear s_w1
  replace x_r := x_r.from_ h_w1
  have B_w1 := B0.trans (h_w1.mono B0.size)
  have i_w1_3 := x_f.same (i := 3) rfl
  have i_w1_2 := x_f.same (i := 2) rfl
  have i_w1_1 := x_f.same (i := 1) rfl
  have i_w1_0 := x_f.same (i := 0) rfl
  have c_r_0_w1 := x_r.cell (i := 0) rfl
  have f_r_0_w1 := x_r.frozen 0
  have c_r_1_w1 := x_r.cell (i := 1) rfl
  have f_r_1_w1 := x_r.frozen 1
  have c_r_2_w1 := x_r.cell (i := 2) rfl
  have f_r_2_w1 := x_r.frozen 2
  have c_r_3_w1 := x_r.cell (i := 3) rfl
  have f_r_3_w1 := x_r.frozen 3
  have c_f_0_w1 := x_f.cell (i := 0) rfl
  have f_f_0_w1 := x_f.frozen 0
  have c_f_1_w1 := x_f.cell (i := 1) rfl
  have f_f_1_w1 := x_f.frozen 1
  have c_f_2_w1 := x_f.cell (i := 2) rfl
  have f_f_2_w1 := x_f.frozen 2
  have c_f_3_w1 := x_f.cell (i := 3) rfl
  have f_f_3_w1 := x_f.frozen 3
  go_enter Tryd.func16, Tryd.ntmps16
  go_wp2_with fail
  refine wp_loop_rounds 5 ?_
  rcases hg1 : getNum zs a with _ | ⟨n1, c1⟩
  case none =>
    have HV := Lib.hid (getVal_none hg1)
    have HN := Lib.hid (get_no (get_none1 hg1))
    clear hg1
    have i_r_0 := x_r.same (i := 0) rfl
    have i_r_1 := x_r.same (i := 1) rfl
    have i_r_2 := x_r.same (i := 2) rfl
    have i_r_3 := x_r.same (i := 3) rfl
    rw [rounds_succ]
    go_wp2_with fail
    refine (iGetNum_any A c zs a _ w.heap.size (hr.below B_w1) hb (by omega) q1 q2 (by omega) (by omega)).mono ?_
    rintro e w' ⟨rfl, rfl⟩
    rw [HV.out]
    go_wp2
    refine ret_cell_tmp2 (by rfl) (by rfl) x_r Tryd.underlying24 sz_msg (by rfl) ?_
    rw [HN.out.1, HN.out.2.1, HN.out.2.2]
    exact ⟨_, rfl, ov_msg (d := msgZ) (Nat.le_refl _), B_w1⟩
  case some =>
    have ge1 := getNum_some hg1
    obtain ⟨p1, hp1⟩ : ∃ p, a + (c1 : Int) = p := ⟨_, rfl⟩
    have lp1 : 0 ≤ p1 ∧ p1 ≤ 16777216 := by omega
    have hv := getVal_some hg1
    rw [hp1] at hv
    have HV1 := Lib.hid hv
    replace hg1 := Lib.hid hg1
    replace hp1 := Lib.hid hp1
    clear hv ge1
    rw [rounds_succ]
    go_wp2_with fail
    refine (iGetNum_any A c zs a _ w.heap.size (hr.below B_w1) hb (by omega) q1 q2 (by omega) (by omega)).mono ?_
    rintro e w' ⟨rfl, rfl⟩
    rw [HV1.out]
    clear c_r_0_wa f_r_0_wa c_r_1_wa f_r_1_wa c_r_2_wa f_r_2_wa c_r_3_wa f_r_3_wa i_w1_3 i_w1_2 i_w1_1 i_w1_0 c_r_0_w1 f_r_0_w1 c_r_1_w1 f_r_1_w1 c_r_2_w1 f_r_2_w1 c_r_3_w1 f_r_3_w1 c_f_0_w1 f_f_0_w1 c_f_1_w1 f_f_1_w1 c_f_2_w1 f_f_2_w1 c_f_3_w1 f_f_3_w1
    have c_r_0_w1 := x_r.cell (i := 0) rfl
    have f_r_0_w1 := x_r.frozen 0
    have c_r_1_w1 := x_r.cell (i := 1) rfl
    have f_r_1_w1 := x_r.frozen 1
    have c_r_2_w1 := x_r.cell (i := 2) rfl
    have f_r_2_w1 := x_r.frozen 2
    have c_r_3_w1 := x_r.cell (i := 3) rfl
    have f_r_3_w1 := x_r.frozen 3
    have c_f_0_w1 := x_f.cell (i := 0) rfl
    have f_f_0_w1 := x_f.frozen 0
    have c_f_1_w1 := x_f.cell (i := 1) rfl
    have f_f_1_w1 := x_f.frozen 1
    have c_f_2_w1 := x_f.cell (i := 2) rfl
    have f_f_2_w1 := x_f.frozen 2
    have c_f_3_w1 := x_f.cell (i := 3) rfl
    have f_f_3_w1 := x_f.frozen 3
    obtain ⟨w2, e_w2, s_w2, h_w2, y⟩ := set_step x_f 0 (.int .i64 n1)
    have s_w2_1 := Nat.le_of_eq s_w2
    have s_w2_2 := Nat.le_of_eq s_w2.symm
    clear s_w2
    replace x_r := x_r.chg h_w2 (by omega)
    have B_w2 := Below.chg_ B_w1 h_w2 (by omega) (by omega)
    replace x_f : Vr w2 (wa.heap.size) 77 [.int .i64 n1, .int .i64 0, .int .i64 0, .int .i64 0] := y
    clear y
    have c_r_0_w2 := x_r.cell (i := 0) rfl
    have f_r_0_w2 := x_r.frozen 0
    have c_r_1_w2 := x_r.cell (i := 1) rfl
    have f_r_1_w2 := x_r.frozen 1
    have c_r_2_w2 := x_r.cell (i := 2) rfl
    have f_r_2_w2 := x_r.frozen 2
    have c_r_3_w2 := x_r.cell (i := 3) rfl
    have f_r_3_w2 := x_r.frozen 3
    have c_f_0_w2 := x_f.cell (i := 0) rfl
    have f_f_0_w2 := x_f.frozen 0
    have c_f_1_w2 := x_f.cell (i := 1) rfl
    have f_f_1_w2 := x_f.frozen 1
    have c_f_2_w2 := x_f.cell (i := 2) rfl
    have f_f_2_w2 := x_f.frozen 2
    have c_f_3_w2 := x_f.cell (i := 3) rfl
    have f_f_3_w2 := x_f.frozen 3
    go_wp2_with fail
    rcases hg2 : getNum zs p1 with _ | ⟨n2, c2⟩
    case none =>
      have HV := Lib.hid (getVal_none hg2)
      have HN := Lib.hid (get_no (get_none2 hg1.out hp1.out hg2))
      clear hg2
      have i_r_0 := x_r.same (i := 0) rfl
      have i_r_1 := x_r.same (i := 1) rfl
      have i_r_2 := x_r.same (i := 2) rfl
      have i_r_3 := x_r.same (i := 3) rfl
      rw [rounds_succ]
      go_wp2_with fail
      refine (iGetNum_any A c zs p1 _ w.heap.size (hr.below B_w2) hb (by omega) q1 q2 (by omega) (by omega)).mono ?_
      rintro e w' ⟨rfl, rfl⟩
      rw [HV.out]
      go_wp2
      refine ret_cell_tmp2 (by rfl) (by rfl) x_r Tryd.underlying24 sz_msg (by rfl) ?_
      rw [HN.out.1, HN.out.2.1, HN.out.2.2]
      exact ⟨_, rfl, ov_msg (d := msgZ) (Nat.le_refl _), B_w2⟩
    case some =>
      have ge2 := getNum_some hg2
      obtain ⟨p2, hp2⟩ : ∃ p, p1 + (c2 : Int) = p := ⟨_, rfl⟩
      have lp2 : 0 ≤ p2 ∧ p2 ≤ 16777216 := by omega
      have hv := getVal_some hg2
      rw [hp2] at hv
      have HV2 := Lib.hid hv
      replace hg2 := Lib.hid hg2
      replace hp2 := Lib.hid hp2
      clear hv ge2
      rw [rounds_succ]
      go_wp2_with fail
      refine (iGetNum_any A c zs p1 _ w.heap.size (hr.below B_w2) hb (by omega) q1 q2 (by omega) (by omega)).mono ?_
      rintro e w' ⟨rfl, rfl⟩
      rw [HV2.out]
      clear c_r_0_w1 f_r_0_w1 c_r_1_w1 f_r_1_w1 c_r_2_w1 f_r_2_w1 c_r_3_w1 f_r_3_w1 c_f_0_w1 f_f_0_w1 c_f_1_w1 f_f_1_w1 c_f_2_w1 f_f_2_w1 c_f_3_w1 f_f_3_w1 c_r_0_w2 f_r_0_w2 c_r_1_w2 f_r_1_w2 c_r_2_w2 f_r_2_w2 c_r_3_w2 f_r_3_w2 c_f_0_w2 f_f_0_w2 c_f_1_w2 f_f_1_w2 c_f_2_w2 f_f_2_w2 c_f_3_w2 f_f_3_w2
      have c_r_0_w2 := x_r.cell (i := 0) rfl
      have f_r_0_w2 := x_r.frozen 0
      have c_r_1_w2 := x_r.cell (i := 1) rfl
      have f_r_1_w2 := x_r.frozen 1
      have c_r_2_w2 := x_r.cell (i := 2) rfl
      have f_r_2_w2 := x_r.frozen 2
      have c_r_3_w2 := x_r.cell (i := 3) rfl
      have f_r_3_w2 := x_r.frozen 3
      have c_f_0_w2 := x_f.cell (i := 0) rfl
      have f_f_0_w2 := x_f.frozen 0
      have c_f_1_w2 := x_f.cell (i := 1) rfl
      have f_f_1_w2 := x_f.frozen 1
      have c_f_2_w2 := x_f.cell (i := 2) rfl
      have f_f_2_w2 := x_f.frozen 2
      have c_f_3_w2 := x_f.cell (i := 3) rfl
      have f_f_3_w2 := x_f.frozen 3
      obtain ⟨w3, e_w3, s_w3, h_w3, y⟩ := set_step x_f 1 (.int .i64 n2)
      have s_w3_1 := Nat.le_of_eq s_w3
      have s_w3_2 := Nat.le_of_eq s_w3.symm
      clear s_w3
      replace x_r := x_r.chg h_w3 (by omega)
      have B_w3 := Below.chg_ B_w2 h_w3 (by omega) (by omega)
      replace x_f : Vr w3 (wa.heap.size) 77 [.int .i64 n1, .int .i64 n2, .int .i64 0, .int .i64 0] := y
      clear y
      have c_r_0_w3 := x_r.cell (i := 0) rfl
      have f_r_0_w3 := x_r.frozen 0
      have c_r_1_w3 := x_r.cell (i := 1) rfl
      have f_r_1_w3 := x_r.frozen 1
      have c_r_2_w3 := x_r.cell (i := 2) rfl
      have f_r_2_w3 := x_r.frozen 2
      have c_r_3_w3 := x_r.cell (i := 3) rfl
      have f_r_3_w3 := x_r.frozen 3
      have c_f_0_w3 := x_f.cell (i := 0) rfl
      have f_f_0_w3 := x_f.frozen 0
      have c_f_1_w3 := x_f.cell (i := 1) rfl
      have f_f_1_w3 := x_f.frozen 1
      have c_f_2_w3 := x_f.cell (i := 2) rfl
      have f_f_2_w3 := x_f.frozen 2
      have c_f_3_w3 := x_f.cell (i := 3) rfl
      have f_f_3_w3 := x_f.frozen 3
      go_wp2_with fail
      rcases hg3 : getNum zs p2 with _ | ⟨n3, c3⟩
      case none =>
        have HV := Lib.hid (getVal_none hg3)
        have HN := Lib.hid (get_no (get_none3 hg1.out hp1.out hg2.out hp2.out hg3))
        clear hg3
        have i_r_0 := x_r.same (i := 0) rfl
        have i_r_1 := x_r.same (i := 1) rfl
        have i_r_2 := x_r.same (i := 2) rfl
        have i_r_3 := x_r.same (i := 3) rfl
        rw [rounds_succ]
        go_wp2_with fail
        refine (iGetNum_any A c zs p2 _ w.heap.size (hr.below B_w3) hb (by omega) q1 q2 (by omega) (by omega)).mono ?_
        rintro e w' ⟨rfl, rfl⟩
        rw [HV.out]
        go_wp2
        refine ret_cell_tmp2 (by rfl) (by rfl) x_r Tryd.underlying24 sz_msg (by rfl) ?_
        rw [HN.out.1, HN.out.2.1, HN.out.2.2]
        exact ⟨_, rfl, ov_msg (d := msgZ) (Nat.le_refl _), B_w3⟩
      case some =>
        have ge3 := getNum_some hg3
        obtain ⟨p3, hp3⟩ : ∃ p, p2 + (c3 : Int) = p := ⟨_, rfl⟩
        have lp3 : 0 ≤ p3 ∧ p3 ≤ 16777216 := by omega
        have hv := getVal_some hg3
        rw [hp3] at hv
        have HV3 := Lib.hid hv
        replace hg3 := Lib.hid hg3
        replace hp3 := Lib.hid hp3
        clear hv ge3
        rw [rounds_succ]
        go_wp2_with fail
        refine (iGetNum_any A c zs p2 _ w.heap.size (hr.below B_w3) hb (by omega) q1 q2 (by omega) (by omega)).mono ?_
        rintro e w' ⟨rfl, rfl⟩
        rw [HV3.out]
        clear c_r_0_w2 f_r_0_w2 c_r_1_w2 f_r_1_w2 c_r_2_w2 f_r_2_w2 c_r_3_w2 f_r_3_w2 c_f_0_w2 f_f_0_w2 c_f_1_w2 f_f_1_w2 c_f_2_w2 f_f_2_w2 c_f_3_w2 f_f_3_w2 c_r_0_w3 f_r_0_w3 c_r_1_w3 f_r_1_w3 c_r_2_w3 f_r_2_w3 c_r_3_w3 f_r_3_w3 c_f_0_w3 f_f_0_w3 c_f_1_w3 f_f_1_w3 c_f_2_w3 f_f_2_w3 c_f_3_w3 f_f_3_w3
        have c_r_0_w3 := x_r.cell (i := 0) rfl
        have f_r_0_w3 := x_r.frozen 0
        have c_r_1_w3 := x_r.cell (i := 1) rfl
        have f_r_1_w3 := x_r.frozen 1
        have c_r_2_w3 := x_r.cell (i := 2) rfl
        have f_r_2_w3 := x_r.frozen 2
        have c_r_3_w3 := x_r.cell (i := 3) rfl
        have f_r_3_w3 := x_r.frozen 3
        have c_f_0_w3 := x_f.cell (i := 0) rfl
        have f_f_0_w3 := x_f.frozen 0
        have c_f_1_w3 := x_f.cell (i := 1) rfl
        have f_f_1_w3 := x_f.frozen 1
        have c_f_2_w3 := x_f.cell (i := 2) rfl
        have f_f_2_w3 := x_f.frozen 2
        have c_f_3_w3 := x_f.cell (i := 3) rfl
        have f_f_3_w3 := x_f.frozen 3
        obtain ⟨w4, e_w4, s_w4, h_w4, y⟩ := set_step x_f 2 (.int .i64 n3)
        have s_w4_1 := Nat.le_of_eq s_w4
        have s_w4_2 := Nat.le_of_eq s_w4.symm
        clear s_w4
        replace x_r := x_r.chg h_w4 (by omega)
        have B_w4 := Below.chg_ B_w3 h_w4 (by omega) (by omega)
        replace x_f : Vr w4 (wa.heap.size) 77 [.int .i64 n1, .int .i64 n2, .int .i64 n3, .int .i64 0] := y
        clear y
        have c_r_0_w4 := x_r.cell (i := 0) rfl
        have f_r_0_w4 := x_r.frozen 0
        have c_r_1_w4 := x_r.cell (i := 1) rfl
        have f_r_1_w4 := x_r.frozen 1
        have c_r_2_w4 := x_r.cell (i := 2) rfl
        have f_r_2_w4 := x_r.frozen 2
        have c_r_3_w4 := x_r.cell (i := 3) rfl
        have f_r_3_w4 := x_r.frozen 3
        have c_f_0_w4 := x_f.cell (i := 0) rfl
        have f_f_0_w4 := x_f.frozen 0
        have c_f_1_w4 := x_f.cell (i := 1) rfl
        have f_f_1_w4 := x_f.frozen 1
        have c_f_2_w4 := x_f.cell (i := 2) rfl
        have f_f_2_w4 := x_f.frozen 2
        have c_f_3_w4 := x_f.cell (i := 3) rfl
        have f_f_3_w4 := x_f.frozen 3
        go_wp2_with fail
        rcases hg4 : getNum zs p3 with _ | ⟨n4, c4⟩
        case none =>
          have HV := Lib.hid (getVal_none hg4)
          have HN := Lib.hid (get_no (get_none4 hg1.out hp1.out hg2.out hp2.out hg3.out hp3.out hg4))
          clear hg4
          have i_r_0 := x_r.same (i := 0) rfl
          have i_r_1 := x_r.same (i := 1) rfl
          have i_r_2 := x_r.same (i := 2) rfl
          have i_r_3 := x_r.same (i := 3) rfl
          rw [rounds_succ]
          go_wp2_with fail
          refine (iGetNum_any A c zs p3 _ w.heap.size (hr.below B_w4) hb (by omega) q1 q2 (by omega) (by omega)).mono ?_
          rintro e w' ⟨rfl, rfl⟩
          rw [HV.out]
          go_wp2
          refine ret_cell_tmp2 (by rfl) (by rfl) x_r Tryd.underlying24 sz_msg (by rfl) ?_
          rw [HN.out.1, HN.out.2.1, HN.out.2.2]
          exact ⟨_, rfl, ov_msg (d := msgZ) (Nat.le_refl _), B_w4⟩
        case some =>
          have ge4 := getNum_some hg4
          obtain ⟨p4, hp4⟩ : ∃ p, p3 + (c4 : Int) = p := ⟨_, rfl⟩
          have lp4 : 0 ≤ p4 ∧ p4 ≤ 16777216 := by omega
          have hv := getVal_some hg4
          rw [hp4] at hv
          have HV4 := Lib.hid hv
          replace hg4 := Lib.hid hg4
          replace hp4 := Lib.hid hp4
          clear hv ge4
          rw [rounds_succ]
          go_wp2_with fail
          refine (iGetNum_any A c zs p3 _ w.heap.size (hr.below B_w4) hb (by omega) q1 q2 (by omega) (by omega)).mono ?_
          rintro e w' ⟨rfl, rfl⟩
          rw [HV4.out]
          clear c_r_0_w3 f_r_0_w3 c_r_1_w3 f_r_1_w3 c_r_2_w3 f_r_2_w3 c_r_3_w3 f_r_3_w3 c_f_0_w3 f_f_0_w3 c_f_1_w3 f_f_1_w3 c_f_2_w3 f_f_2_w3 c_f_3_w3 f_f_3_w3 c_r_0_w4 f_r_0_w4 c_r_1_w4 f_r_1_w4 c_r_2_w4 f_r_2_w4 c_r_3_w4 f_r_3_w4 c_f_0_w4 f_f_0_w4 c_f_1_w4 f_f_1_w4 c_f_2_w4 f_f_2_w4 c_f_3_w4 f_f_3_w4
          have c_r_0_w4 := x_r.cell (i := 0) rfl
          have f_r_0_w4 := x_r.frozen 0
          have c_r_1_w4 := x_r.cell (i := 1) rfl
          have f_r_1_w4 := x_r.frozen 1
          have c_r_2_w4 := x_r.cell (i := 2) rfl
          have f_r_2_w4 := x_r.frozen 2
          have c_r_3_w4 := x_r.cell (i := 3) rfl
          have f_r_3_w4 := x_r.frozen 3
          have c_f_0_w4 := x_f.cell (i := 0) rfl
          have f_f_0_w4 := x_f.frozen 0
          have c_f_1_w4 := x_f.cell (i := 1) rfl
          have f_f_1_w4 := x_f.frozen 1
          have c_f_2_w4 := x_f.cell (i := 2) rfl
          have f_f_2_w4 := x_f.frozen 2
          have c_f_3_w4 := x_f.cell (i := 3) rfl
          have f_f_3_w4 := x_f.frozen 3
          obtain ⟨w5, e_w5, s_w5, h_w5, y⟩ := set_step x_f 3 (.int .i64 n4)
          have s_w5_1 := Nat.le_of_eq s_w5
          have s_w5_2 := Nat.le_of_eq s_w5.symm
          clear s_w5
          replace x_r := x_r.chg h_w5 (by omega)
          have B_w5 := Below.chg_ B_w4 h_w5 (by omega) (by omega)
          replace x_f : Vr w5 (wa.heap.size) 77 [.int .i64 n1, .int .i64 n2, .int .i64 n3, .int .i64 n4] := y
          clear y
          have c_r_0_w5 := x_r.cell (i := 0) rfl
          have f_r_0_w5 := x_r.frozen 0
          have c_r_1_w5 := x_r.cell (i := 1) rfl
          have f_r_1_w5 := x_r.frozen 1
          have c_r_2_w5 := x_r.cell (i := 2) rfl
          have f_r_2_w5 := x_r.frozen 2
          have c_r_3_w5 := x_r.cell (i := 3) rfl
          have f_r_3_w5 := x_r.frozen 3
          have c_f_0_w5 := x_f.cell (i := 0) rfl
          have f_f_0_w5 := x_f.frozen 0
          have c_f_1_w5 := x_f.cell (i := 1) rfl
          have f_f_1_w5 := x_f.frozen 1
          have c_f_2_w5 := x_f.cell (i := 2) rfl
          have f_f_2_w5 := x_f.frozen 2
          have c_f_3_w5 := x_f.cell (i := 3) rfl
          have f_f_3_w5 := x_f.frozen 3
          go_wp2_with fail
          have hall := get_all hg1.out hp1.out hg2.out hp2.out hg3.out hp3.out hg4.out hp4.out
          obtain ⟨ob, hob⟩ : ∃ b, msgOkB ⟨n1, n2, n3, n4⟩ = b := ⟨_, rfl⟩
          rw [hob] at hall
          have HA := Lib.hid hall
          have HO := Lib.hid hob
          clear hall hob
          obtain ⟨w6, e_w6, s_w6, h_w6, x_m⟩ := alloc_step w5 24 [.int .i64 n1, .int .i64 n2, .int .i64 n3, .int .i64 n4]
          have s_w6_1 := Nat.le_of_eq s_w6
          have s_w6_2 := Nat.le_of_eq s_w6.symm
          clear s_w6
          replace x_r := x_r.from_ h_w6
          replace x_f := x_f.from_ h_w6
          have B_w6 := B_w5.trans (h_w6.mono B_w5.size)
          have c_r_0_w6 := x_r.cell (i := 0) rfl
          have f_r_0_w6 := x_r.frozen 0
          have c_r_1_w6 := x_r.cell (i := 1) rfl
          have f_r_1_w6 := x_r.frozen 1
          have c_r_2_w6 := x_r.cell (i := 2) rfl
          have f_r_2_w6 := x_r.frozen 2
          have c_r_3_w6 := x_r.cell (i := 3) rfl
          have f_r_3_w6 := x_r.frozen 3
          have c_m_0_w6 := x_m.cell (i := 0) rfl
          have f_m_0_w6 := x_m.frozen 0
          have c_m_1_w6 := x_m.cell (i := 1) rfl
          have f_m_1_w6 := x_m.frozen 1
          have c_m_2_w6 := x_m.cell (i := 2) rfl
          have f_m_2_w6 := x_m.frozen 2
          have c_m_3_w6 := x_m.cell (i := 3) rfl
          have f_m_3_w6 := x_m.frozen 3
          rw [rounds_succ]
          go_wp2_with fail
          refine (iMsgOk_c rv_msg_mk).mono ?_
          rintro e w7 ⟨rfl, h_w7⟩
          clear c_r_0_w4 f_r_0_w4 c_r_1_w4 f_r_1_w4 c_r_2_w4 f_r_2_w4 c_r_3_w4 f_r_3_w4 c_f_0_w4 f_f_0_w4 c_f_1_w4 f_f_1_w4 c_f_2_w4 f_f_2_w4 c_f_3_w4 f_f_3_w4 c_r_0_w5 f_r_0_w5 c_r_1_w5 f_r_1_w5 c_r_2_w5 f_r_2_w5 c_r_3_w5 f_r_3_w5 c_f_0_w5 f_f_0_w5 c_f_1_w5 f_f_1_w5 c_f_2_w5 f_f_2_w5 c_f_3_w5 f_f_3_w5 c_r_0_w6 f_r_0_w6 c_r_1_w6 f_r_1_w6 c_r_2_w6 f_r_2_w6 c_r_3_w6 f_r_3_w6 c_m_0_w6 f_m_0_w6 c_m_1_w6 f_m_1_w6 c_m_2_w6 f_m_2_w6 c_m_3_w6 f_m_3_w6
          replace x_r := x_r.from_ h_w7
          replace x_f := x_f.from_ h_w7
          replace x_m := x_m.from_ h_w7
          have B_w7 := B_w6.trans (h_w7.mono B_w6.size)
          have s_w7 := h_w7.size
          rw [HO.out]
          have c_r_0_w7 := x_r.cell (i := 0) rfl
          have f_r_0_w7 := x_r.frozen 0
          have c_r_1_w7 := x_r.cell (i := 1) rfl
          have f_r_1_w7 := x_r.frozen 1
          have c_r_2_w7 := x_r.cell (i := 2) rfl
          have f_r_2_w7 := x_r.frozen 2
          have c_r_3_w7 := x_r.cell (i := 3) rfl
          have f_r_3_w7 := x_r.frozen 3
          have c_m_0_w7 := x_m.cell (i := 0) rfl
          have f_m_0_w7 := x_m.frozen 0
          have c_m_1_w7 := x_m.cell (i := 1) rfl
          have f_m_1_w7 := x_m.frozen 1
          have c_m_2_w7 := x_m.cell (i := 2) rfl
          have f_m_2_w7 := x_m.frozen 2
          have c_m_3_w7 := x_m.cell (i := 3) rfl
          have f_m_3_w7 := x_m.frozen 3
          cases ob with
          | false =>
            have HN := Lib.hid (get_no (congrArg (fun x => x.2.2) HA.out))
            have i_r_0 := x_r.same (i := 0) rfl
            have i_r_1 := x_r.same (i := 1) rfl
            have i_r_2 := x_r.same (i := 2) rfl
            have i_r_3 := x_r.same (i := 3) rfl
            go_wp2
            refine ret_cell_tmp2 (by rfl) (by rfl) x_r Tryd.underlying24 sz_msg (by rfl) ?_
            rw [HN.out.1, HN.out.2.1, HN.out.2.2]
            exact ⟨_, rfl, ov_msg (d := msgZ) (Nat.le_refl _), B_w7⟩
          | true =>
            have HY : Hid (msgGetB zs a = true ∧ msgGetM zs a = ⟨n1, n2, n3, n4⟩ ∧ msgGetP zs a = p4) := by show _ ∧ _; have hb : msgGetB zs a = true := by { unfold msgGetB; rw [HA.out]; rfl }; unfold msgGetM msgGetP; rw [hb, HA.out]; exact ⟨rfl, rfl, rfl⟩
            obtain ⟨w8, e_w8, s_w8, h_w8, y⟩ := store_step x_r [.int .i64 n1, .int .i64 n2, .int .i64 n3, .int .i64 n4] rfl
            replace e_w8 : ((((w7.setCell ⟨w.heap.size, 0, none⟩ (.int .i64 n1)).setCell ⟨w.heap.size, 1, none⟩ (.int .i64 n2)).setCell ⟨w.heap.size, 2, none⟩ (.int .i64 n3)).setCell ⟨w.heap.size, 3, none⟩ (.int .i64 n4)) = w8 := e_w8
            have s_w8_1 := Nat.le_of_eq s_w8
            have s_w8_2 := Nat.le_of_eq s_w8.symm
            clear s_w8
            replace x_f := x_f.chg h_w8 (by omega)
            replace x_m := x_m.chg h_w8 (by omega)
            have B_w8 := Below.chg_ B_w7 h_w8 (by omega) (by omega)
            replace x_r : Vr w8 (w.heap.size) 24 [.int .i64 n1, .int .i64 n2, .int .i64 n3, .int .i64 n4] := y
            clear y
            go_wp2
            refine ret_cell_tmp2 (by rfl) (by rfl) x_r Tryd.underlying24 sz_msg (by rfl) ?_
            rw [HY.out.1, HY.out.2.1, HY.out.2.2]
            exact ⟨_, rfl, ov_msg (d := ⟨n1, n2, n3, n4⟩) (Nat.le_refl _), B_w8⟩
end Go.Proofs.YtkbhbccpmmhelaaDoor
namespace Go.Proofs.YtkbhbccpmmhelaaDoor
open Go.RowKit
set_option linter.unusedVariables false
set_option linter.unusedSimpArgs false
section
variable {zs : List Int} {r : MRec} {p : Int}
theorem fin_no1 (hb : Bytes zs) (h1 : recRd zs = (r, false)) (h2 : recEnd zs = p) (hne : p ≠ (zs.length : Int)) : bytesRecB zs = false ∧ bytesRec zs = recZ := by
  have h : bytesRecB zs = false := by rw [recB_eq hb, h1, h2]; simp [hne]
  exact ⟨h, bytesRec_no h⟩
theorem fin_no2 (hb : Bytes zs) (h1 : recRd zs = (r, false)) (ho : recOkB r = false) : bytesRecB zs = false ∧ bytesRec zs = recZ := by
  have h : bytesRecB zs = false := by rw [recB_eq hb, h1]; simp [ho]
  exact ⟨h, bytesRec_no h⟩
theorem fin_yes (hb : Bytes zs) (h1 : recRd zs = (r, false)) (h2 : recEnd zs = p) (he : p = (zs.length : Int)) (ho : recOkB r = true) : bytesRecB zs = true ∧ bytesRec zs = r := by
  have h : bytesRecB zs = true := by rw [recB_eq hb, h1, h2]; simp [he, ho]
  exact ⟨h, by rw [bytesRec_yes h, h1]⟩
theorem msgGet_of (h : (rdMsg zs p false).2.2 = false) : msgGetB zs p = true ∧ msgGetM zs p = (rdMsg zs p false).1 ∧ msgGetP zs p = (rdMsg zs p false).2.1 := by
  have hb : msgGetB zs p = true := by unfold msgGetB; rw [h]; rfl
  unfold msgGetM msgGetP
  rw [hb]
  exact ⟨rfl, rfl, rfl⟩
end
section
variable {zs l : List Int} {p q n n1 n2 n3 n4 n5 : Int} {k c : Nat}
theorem gm_none (h1 : getNum zs p = some (n, c)) (h : getMany zs (k + 1) p = none) : getMany zs k (p + c) = none := by
  simpa [getMany, h1] using h
theorem gm_some (h : getMany zs (k + 1) p = some (n :: l, q)) : ∃ c, getNum zs p = some (n, c) ∧ getMany zs k (p + (c : Nat)) = some (l, q) := by
  cases h1 : getNum zs p with
  | none => simp [getMany, h1] at h
  | some x =>
    obtain ⟨m, c⟩ := x
    simp only [getMany, h1, Option.map_eq_some_iff] at h
    obtain ⟨⟨a, b⟩, h2, h3⟩ := h
    injection h3 with h3 h4
    injection h3 with h5 h6
    dsimp only at h4 h5 h6
    subst h4; subst h5; subst h6
    exact ⟨c, rfl, h2⟩
theorem recRd_none5 (h : getMany zs 5 0 = none) : (recRd zs).2 = true := by
  cases h1 : getNum zs 0 with
  | none => exact recRd_1 h1
  | some x =>
    obtain ⟨n1, c1⟩ := x
    have g1 := gm_none h1 h
    cases h2 : getNum zs (0 + (c1 : Int)) with
    | none => exact recRd_2 h1 rfl h2
    | some x =>
      obtain ⟨n2, c2⟩ := x
      have g2 := gm_none h2 g1
      cases h3 : getNum zs (0 + (c1 : Int) + c2) with
      | none => exact recRd_3 h1 rfl h2 rfl h3
      | some x =>
        obtain ⟨n3, c3⟩ := x
        have g3 := gm_none h3 g2
        cases h4 : getNum zs (0 + (c1 : Int) + c2 + c3) with
        | none => exact recRd_4 h1 rfl h2 rfl h3 rfl h4
        | some x =>
          obtain ⟨n4, c4⟩ := x
          have g4 := gm_none h4 g3
          cases h5 : getNum zs (0 + (c1 : Int) + c2 + c3 + c4) with
          | none => exact recRd_5 h1 rfl h2 rfl h3 rfl h4 rfl h5
          | some x =>
            obtain ⟨n5, c5⟩ := x
            have g5 := gm_none h5 g4
            simp [getMany] at g5
theorem recRd_some5 (h : getMany zs 5 0 = some ([n1, n2, n3, n4, n5], p)) :
    (recRd zs = if n1 = 5 then (⟨n1, n2, n3, n4, n5, (rdMsg zs p false).1⟩, (rdMsg zs p false).2.2) else (⟨n1, n2, n3, n4, n5, ⟨0, 0, 0, 0⟩⟩, false)) ∧ recEnd zs = if n1 = 5 then (rdMsg zs p false).2.1 else p := by
  obtain ⟨c1, h1, g1⟩ := gm_some h
  obtain ⟨c2, h2, g2⟩ := gm_some g1
  obtain ⟨c3, h3, g3⟩ := gm_some g2
  obtain ⟨c4, h4, g4⟩ := gm_some g3
  obtain ⟨c5, h5, g5⟩ := gm_some g4
  have e : 0 + (c1 : Int) + c2 + c3 + c4 + c5 = p := by simpa [getMany] using g5
  exact recRd_all h1 rfl h2 rfl h3 rfl h4 rfl h5 e
theorem len5 (h : l.length = 5) : ∃ n1 n2 n3 n4 n5, l = [n1, n2, n3, n4, n5] := by
  match l, h with
  | [a, b, c, d, e], _ => exact ⟨a, b, c, d, e, rfl⟩
def padL (l : List Int) : List Value := (l ++ List.replicate (9 - l.length) 0).map (Value.int .i64)
theorem pad_get (h : l.length < 9) : (padL l)[l.length]? = some (.int .i64 0) := by
  unfold padL
  rw [List.getElem?_map, List.getElem?_append_right (Nat.le_refl _), Nat.sub_self]
  rw [List.getElem?_replicate, if_pos (by omega)]
  rfl
theorem pad_set (h : l.length < 9) : (padL l).set l.length (.int .i64 n) = padL (l ++ [n]) := by
  unfold padL
  rw [← List.map_set, List.set_append_right _ _ (Nat.le_refl _), Nat.sub_self]
  obtain ⟨m, hm⟩ : ∃ m, 9 - l.length = m + 1 := ⟨8 - l.length, by omega⟩
  have hm2 : 9 - (l ++ [n]).length = m := by rw [List.length_append, List.length_singleton]; omega
  rw [hm, hm2, List.replicate_succ, List.set_cons_zero, List.append_assoc]
  rfl
theorem ptr_get (b : Nat) {j : Nat} (h : j < 5) : [Value.pointer (some ⟨b, 0, none⟩), Value.pointer (some ⟨b, 1, none⟩), Value.pointer (some ⟨b, 2, none⟩), Value.pointer (some ⟨b, 3, none⟩), Value.pointer (some ⟨b, 4, none⟩)][j]? = some (Value.pointer (some ⟨b, j, none⟩)) := by
  have h5 : j = 0 ∨ j = 1 ∨ j = 2 ∨ j = 3 ∨ j = 4 := by omega
  rcases h5 with rfl | rfl | rfl | rfl | rfl <;> rfl
end
set_option maxRecDepth 100000 in
set_option maxHeartbeats 16000000 in
theorem iBytesRec_c {w : World} {v : Value} {zs : List Int} (h : RS .u8 w v zs) (hb : Bytes zs) (hm : zs.length ≤ 16777216) :
    Calls Tryd.prog 8 #[v] w (NewVB recL w (bytesRec zs) (bytesRecB zs)) := by
  have h0 := h
  obtain ⟨A, c, rfl, q1, q2, hr⟩ := h0
  obtain ⟨wa, hwa, B0, sa, x_q⟩ := frame1 w 26 [.int .i64 0, .int .i64 0, .int .i64 0, .int .i64 0, .int .i64 0, .int .i64 0, .int .i64 0, .int .i64 0, .int .i64 0]
  have sa_1 := Nat.le_of_eq sa
  have sa_2 := Nat.le_of_eq sa.symm
  clear sa
  obtain ⟨w1, e_w1, s_w1, h_w1, x_r⟩ := alloc_step wa 26 [.int .i64 0, .int .i64 0, .int .i64 0, .int .i64 0, .int .i64 0, .int .i64 0, .int .i64 0, .int .i64 0, .int .i64 0]
  have s_w1_1 := Nat.le_of_eq s_w1
  have s_w1_2 := Nat.le_of_eq s_w1.symm
  clear s_w1
  replace x_q := x_q.from_ h_w1
  have B_w1 := B0.trans (h_w1.mono B0.size)
  have i_w1_8 := x_r.same (i := 8) rfl
  have i_w1_7 := x_r.same (i := 7) rfl
  have i_w1_6 := x_r.same (i := 6) rfl
  have i_w1_5 := x_r.same (i := 5) rfl
  have i_w1_4 := x_r.same (i := 4) rfl
  have i_w1_3 := x_r.same (i := 3) rfl
  have i_w1_2 := x_r.same (i := 2) rfl
  have i_w1_1 := x_r.same (i := 1) rfl
  have i_w1_0 := x_r.same (i := 0) rfl
  have c_r_0_w1 := x_r.cell (i := 0) rfl
  have f_r_0_w1 := x_r.frozen 0
  have c_r_1_w1 := x_r.cell (i := 1) rfl
  have f_r_1_w1 := x_r.frozen 1
  have c_r_2_w1 := x_r.cell (i := 2) rfl
  have f_r_2_w1 := x_r.frozen 2
  have c_r_3_w1 := x_r.cell (i := 3) rfl
  have f_r_3_w1 := x_r.frozen 3
  have c_r_4_w1 := x_r.cell (i := 4) rfl
  have f_r_4_w1 := x_r.frozen 4
  have c_r_5_w1 := x_r.cell (i := 5) rfl
  have f_r_5_w1 := x_r.frozen 5
  have c_r_6_w1 := x_r.cell (i := 6) rfl
  have f_r_6_w1 := x_r.frozen 6
  have c_r_7_w1 := x_r.cell (i := 7) rfl
  have f_r_7_w1 := x_r.frozen 7
  have c_r_8_w1 := x_r.cell (i := 8) rfl
  have f_r_8_w1 := x_r.frozen 8
  obtain ⟨w2, e_w2, s_w2, h_w2, x_l⟩ := alloc_step w1 54 [.pointer (some ⟨wa.heap.size, 0, none⟩), .pointer (some ⟨wa.heap.size, 1, none⟩), .pointer (some ⟨wa.heap.size, 2, none⟩), .pointer (some ⟨wa.heap.size, 3, none⟩), .pointer (some ⟨wa.heap.size, 4, none⟩)]
  have s_w2_1 := Nat.le_of_eq s_w2
  have s_w2_2 := Nat.le_of_eq s_w2.symm
  clear s_w2
  replace x_q := x_q.from_ h_w2
  replace x_r := x_r.from_ h_w2
  have B_w2 := B_w1.trans (h_w2.mono B_w1.size)
  go_enter Tryd.func8, Tryd.ntmps8
  go_wp2
  clear i_w1_8 i_w1_7 i_w1_6 i_w1_5 i_w1_4 i_w1_3 i_w1_2 i_w1_1 i_w1_0 c_r_0_w1 f_r_0_w1 c_r_1_w1 f_r_1_w1 c_r_2_w1 f_r_2_w1 c_r_3_w1 f_r_3_w1 c_r_4_w1 f_r_4_w1 c_r_5_w1 f_r_5_w1 c_r_6_w1 f_r_6_w1 c_r_7_w1 f_r_7_w1 c_r_8_w1 f_r_8_w1
  go_loopw [5, 22] (fun s5 s22 wr => ∃ (l : List Int) (p : Int), Gets zs 5 0 l p ∧ s5 = .int .i64 p ∧ s22 = .int .i64 l.length ∧ Vr wr wa.heap.size 26 (padL l) ∧ Vr wr w1.heap.size 54 [.pointer (some ⟨wa.heap.size, 0, none⟩), .pointer (some ⟨wa.heap.size, 1, none⟩), .pointer (some ⟨wa.heap.size, 2, none⟩), .pointer (some ⟨wa.heap.size, 3, none⟩), .pointer (some ⟨wa.heap.size, 4, none⟩)] ∧ Vr wr w.heap.size 26 [.int .i64 0, .int .i64 0, .int .i64 0, .int .i64 0, .int .i64 0, .int .i64 0, .int .i64 0, .int .i64 0, .int .i64 0] ∧ Below w.heap.size w wr) (fun _ s22 _ => 5 - (intOf s22).toNat)
  case atStart => exact ⟨[], 0, Gets.start (by omega) (by omega), rfl, rfl, x_r, x_l, x_q, B_w2⟩
  case round =>
    clear x_r x_l x_q B_w2 e_w1 h_w1 e_w2 h_w2 B_w1
    obtain ⟨l, p, hG, rfl, rfl, x_r, x_l, x_q, HB⟩ := hrel
    have h1 := hG.lo
    have h2 := hG.hi
    have h4 := hG.le
    have sB := HB.size
    have lq := x_r.lt
    by_cases hlt : l.length < 5
    case pos =>
      have i1 : (l.length : Int) < 5 := by omega
      have cl := x_l.cell (ptr_get wa.heap.size hlt)
      have cr := x_r.cell (pad_get (l := l) (by omega))
      have fr := x_r.frozen l.length
      rcases hg : getNum zs p with _ | ⟨n, c1⟩
      case none =>
        have HV := Lib.hid (getVal_none hg)
        have HN := Lib.hid (bytesRec_bad (recRd_none5 (hG.fails hlt hg)))
        clear hg
        go_wp2_with fail
        refine (iGetNum_any A c zs p _ w.heap.size (hr.below HB) hb (by omega) q1 q2 (by omega) (by omega)).mono ?_
        rintro e w' ⟨rfl, rfl⟩
        rw [HV.out]
        have sB9 := HB.size
        go_wp2_with (refine wpl_rstore (zs := [0, 0, 0, 0, 0, 0, 0, 0, 0]) x_q rfl rfl rfl rfl rfl rfl ?_; intro wz x_z h_z s_z)
        refine ret_cell_tmp (by rfl) (by rfl) x_z Tryd.underlying26 sz_rec (by rfl) ?_
        rw [HN.out.1, HN.out.2]
        exact ⟨_, rfl, ov_rec (d := recZ) (Nat.le_refl _), Below.chg_ HB h_z (by omega) (by omega)⟩
      have HV := Lib.hid (getVal_some hg)
      have HG := Lib.hid (hG.next hlt hg)
      clear hg
      obtain ⟨w9, e_w9, s_w9, h_w9, y⟩ := set_step x_r l.length (.int .i64 n)
      rw [pad_set (by omega)] at y
      replace x_l := x_l.chg h_w9 (by omega)
      replace x_q := x_q.chg h_w9 (by omega)
      have B9 := Below.chg_ HB h_w9 (by omega) (by omega)
      clear s_w9 h_w9
      go_wp2_with fail
      refine (iGetNum_any A c zs p _ w.heap.size (hr.below HB) hb (by omega) q1 q2 (by omega) (by omega)).mono ?_
      rintro e w' ⟨rfl, rfl⟩
      rw [HV.out]
      go_wp2
      go_roundw
      case rel => exact ⟨l ++ [n], p + c1, HG.out, rfl, by first | go_num | (rw [List.length_append]; go_num) | simp, y, x_l, x_q, B9⟩
      case measure => first | (simp [intOf]; done) | (simp [intOf]; omega)
    have hl5 : l.length = 5 := by omega
    have hd := hG.done hl5
    obtain ⟨n1, n2, n3, n4, n5, rfl⟩ := len5 hl5
    have hall := recRd_some5 hd
    clear hd hG hlt hl5 x_l h4
    replace x_r : Vr wr wa.heap.size 26 [.int .i64 n1, .int .i64 n2, .int .i64 n3, .int .i64 n4, .int .i64 n5, .int .i64 0, .int .i64 0, .int .i64 0, .int .i64 0] := x_r
    have c_r_0_wr := x_r.cell (i := 0) rfl
    by_cases e5 : n1 = 5
    case neg =>
      rw [if_neg e5, if_neg e5] at hall
      have H1 := Lib.hid hall.1
      have H2 := Lib.hid hall.2
      have t5 : (n1 == 5) = false := by simpa using e5
      clear hall e5
      obtain ⟨ob, hob⟩ : ∃ b, recOkB (⟨n1, n2, n3, n4, n5, ⟨0, 0, 0, 0⟩⟩ : MRec) = b := ⟨_, rfl⟩
      have HO := Lib.hid hob
      clear hob
      by_cases he : p = (zs.length : Int)
      case neg =>
        have HN := Lib.hid (fin_no1 hb H1.out H2.out he)
        have hb1 : (p != (zs.length : Int)) = true := by simpa using he
        clear he
        have sB9 := HB.size
        go_wp2_with (refine wpl_rstore (zs := [0, 0, 0, 0, 0, 0, 0, 0, 0]) x_q rfl rfl rfl rfl rfl rfl ?_; intro wz x_z h_z s_z)
        refine ret_cell_tmp (by rfl) (by rfl) x_z Tryd.underlying26 sz_rec (by rfl) ?_
        rw [HN.out.1, HN.out.2]
        exact ⟨_, rfl, ov_rec (d := recZ) (Nat.le_refl _), Below.chg_ HB h_z (by omega) (by omega)⟩
      have hb1 : (p != (zs.length : Int)) = false := by simpa using he
      have HE := Lib.hid he
      clear he
      have rv : RV recL wr (.agg #[.int .i64 n1, .int .i64 n2, .int .i64 n3, .int .i64 n4, .int .i64 n5, .int .i64 0, .int .i64 0, .int .i64 0, .int .i64 0]) (⟨n1, n2, n3, n4, n5, ⟨0, 0, 0, 0⟩⟩ : MRec) := rv_rec_mk (zM := ⟨0, 0, 0, 0⟩)
      go_wp2_with (refine wpl_rload x_r rfl rfl rfl rfl ?_)
      refine (iRecOk_c rv).mono ?_
      rintro e w21 ⟨rfl, h_w21⟩
      clear c_r_0_wr
      replace x_q := x_q.from_ h_w21
      replace x_r := x_r.from_ h_w21
      have B_w21 := HB.trans (h_w21.mono HB.size)
      have s_w21 := h_w21.size
      rw [HO.out]
      cases ob with
      | false =>
        have HN := Lib.hid (fin_no2 hb H1.out HO.out)
        have sB9 := B_w21.size
        go_wp2_with (refine wpl_rstore (zs := [0, 0, 0, 0, 0, 0, 0, 0, 0]) x_q rfl rfl rfl rfl rfl rfl ?_; intro wz x_z h_z s_z)
        refine ret_cell_tmp (by rfl) (by rfl) x_z Tryd.underlying26 sz_rec (by rfl) ?_
        rw [HN.out.1, HN.out.2]
        exact ⟨_, rfl, ov_rec (d := recZ) (Nat.le_refl _), Below.chg_ B_w21 h_z (by omega) (by omega)⟩
      | true =>
        have HN := Lib.hid (fin_yes hb H1.out H2.out HE.out HO.out)
        have sB9 := B_w21.size
        go_wp2_with (first | refine wpl_rload x_r rfl rfl rfl rfl ?_ | (refine wpl_rstore (zs := [n1, n2, n3, n4, n5, 0, 0, 0, 0]) x_q rfl rfl rfl rfl rfl rfl ?_; intro wz x_z h_z s_z))
        refine ret_cell_tmp (by rfl) (by rfl) x_z Tryd.underlying26 sz_rec (by rfl) ?_
        rw [HN.out.1, HN.out.2]
        exact ⟨_, rfl, ov_rec (d := ⟨n1, n2, n3, n4, n5, ⟨0, 0, 0, 0⟩⟩) (Nat.le_refl _), Below.chg_ B_w21 h_z (by omega) (by omega)⟩
    rw [if_pos e5, if_pos e5] at hall
    have t5 : (n1 == 5) = true := by simpa using e5
    clear e5
    obtain ⟨bad, hbad⟩ : ∃ b, (rdMsg zs p false).2.2 = b := ⟨_, rfl⟩
    cases bad with
    | true =>
      have HG := Lib.hid (get_no hbad)
      have HN := Lib.hid (bytesRec_bad (by rw [hall.1]; exact hbad))
      clear hall hbad
      go_wp2_with fail
      refine (iMsgGet_c (h.from_ HB) hb hm (by omega)).mono ?_
      rintro e w21 ⟨vm, rfl, o_m, h_w21⟩
      clear c_r_0_wr
      replace x_q := x_q.from_ h_w21
      replace x_r := x_r.from_ h_w21
      have B_w21 := HB.trans (h_w21.mono HB.size)
      have s_w21 := h_w21.size
      rw [HG.out.1, HG.out.2.2]
      rw [HG.out.2.1] at o_m
      obtain rfl := rv_msg o_m.rd
      obtain ⟨w22, e_w22, s_w22, h_w22, x_m⟩ := alloc_step w21 24 [.int .i64 msgZ.Kind, .int .i64 msgZ.Acct, .int .i64 msgZ.Amt, .int .i64 msgZ.Src]
      have s_w22_1 := Nat.le_of_eq s_w22
      have s_w22_2 := Nat.le_of_eq s_w22.symm
      clear s_w22
      replace x_q := x_q.from_ h_w22
      replace x_r := x_r.from_ h_w22
      have B_w22 := B_w21.trans (h_w22.mono B_w21.size)
      have c_m_0_w22 := x_m.cell (i := 0) rfl
      have c_m_1_w22 := x_m.cell (i := 1) rfl
      have c_m_2_w22 := x_m.cell (i := 2) rfl
      have c_m_3_w22 := x_m.cell (i := 3) rfl
      have sB9 := B_w22.size
      go_wp2_with (refine wpl_rstore (zs := [0, 0, 0, 0, 0, 0, 0, 0, 0]) x_q rfl rfl rfl rfl rfl rfl ?_; intro wz x_z h_z s_z)
      refine ret_cell_tmp (by rfl) (by rfl) x_z Tryd.underlying26 sz_rec (by rfl) ?_
      rw [HN.out.1, HN.out.2]
      exact ⟨_, rfl, ov_rec (d := recZ) (Nat.le_refl _), Below.chg_ B_w22 h_z (by omega) (by omega)⟩
    | false =>
      have HG := Lib.hid (msgGet_of hbad)
      obtain ⟨M, hM⟩ : ∃ M, (rdMsg zs p false).1 = M := ⟨_, rfl⟩
      obtain ⟨p6, hp6⟩ : ∃ q, (rdMsg zs p false).2.1 = q := ⟨_, rfl⟩
      rw [hM, hp6] at HG
      rw [hM, hp6, hbad] at hall
      have H1 := Lib.hid hall.1
      have H2 := Lib.hid hall.2
      clear hall hbad hM hp6
      go_wp2_with fail
      refine (iMsgGet_c (h.from_ HB) hb hm (by omega)).mono ?_
      rintro e w21 ⟨vm, rfl, o_m, h_w21⟩
      clear c_r_0_wr
      replace x_q := x_q.from_ h_w21
      replace x_r := x_r.from_ h_w21
      have B_w21 := HB.trans (h_w21.mono HB.size)
      have s_w21 := h_w21.size
      rw [HG.out.1, HG.out.2.2]
      rw [HG.out.2.1] at o_m
      obtain rfl := rv_msg o_m.rd
      obtain ⟨w22, e_w22, s_w22, h_w22, x_m⟩ := alloc_step w21 24 [.int .i64 M.Kind, .int .i64 M.Acct, .int .i64 M.Amt, .int .i64 M.Src]
      have s_w22_1 := Nat.le_of_eq s_w22
      have s_w22_2 := Nat.le_of_eq s_w22.symm
      clear s_w22
      replace x_q := x_q.from_ h_w22
      replace x_r := x_r.from_ h_w22
      have B_w22 := B_w21.trans (h_w22.mono B_w21.size)
      have c_m_0_w22 := x_m.cell (i := 0) rfl
      have c_m_1_w22 := x_m.cell (i := 1) rfl
      have c_m_2_w22 := x_m.cell (i := 2) rfl
      have c_m_3_w22 := x_m.cell (i := 3) rfl
      have c_r_5_w22 := x_r.cell (i := 5) rfl
      have f_r_5_w22 := x_r.frozen 5
      obtain ⟨w23, e_w23, s_w23, h_w23, y⟩ := set_step x_r 5 (.int .i64 M.Kind)
      have s_w23_1 := Nat.le_of_eq s_w23
      have s_w23_2 := Nat.le_of_eq s_w23.symm
      clear s_w23
      replace x_q := x_q.chg h_w23 (by omega)
      replace x_m := x_m.chg h_w23 (by omega)
      have B_w23 := Below.chg_ B_w22 h_w23 (by omega) (by omega)
      replace x_r : Vr w23 (wa.heap.size) 26 [.int .i64 n1, .int .i64 n2, .int .i64 n3, .int .i64 n4, .int .i64 n5, .int .i64 M.Kind, .int .i64 0, .int .i64 0, .int .i64 0] := y
      clear y
      have c_r_6_w23 := x_r.cell (i := 6) rfl
      have f_r_6_w23 := x_r.frozen 6
      obtain ⟨w24, e_w24, s_w24, h_w24, y⟩ := set_step x_r 6 (.int .i64 M.Acct)
      have s_w24_1 := Nat.le_of_eq s_w24
      have s_w24_2 := Nat.le_of_eq s_w24.symm
      clear s_w24
      replace x_q := x_q.chg h_w24 (by omega)
      replace x_m := x_m.chg h_w24 (by omega)
      have B_w24 := Below.chg_ B_w23 h_w24 (by omega) (by omega)
      replace x_r : Vr w24 (wa.heap.size) 26 [.int .i64 n1, .int .i64 n2, .int .i64 n3, .int .i64 n4, .int .i64 n5, .int .i64 M.Kind, .int .i64 M.Acct, .int .i64 0, .int .i64 0] := y
      clear y
      have c_r_7_w24 := x_r.cell (i := 7) rfl
      have f_r_7_w24 := x_r.frozen 7
      obtain ⟨w25, e_w25, s_w25, h_w25, y⟩ := set_step x_r 7 (.int .i64 M.Amt)
      have s_w25_1 := Nat.le_of_eq s_w25
      have s_w25_2 := Nat.le_of_eq s_w25.symm
      clear s_w25
      replace x_q := x_q.chg h_w25 (by omega)
      replace x_m := x_m.chg h_w25 (by omega)
      have B_w25 := Below.chg_ B_w24 h_w25 (by omega) (by omega)
      replace x_r : Vr w25 (wa.heap.size) 26 [.int .i64 n1, .int .i64 n2, .int .i64 n3, .int .i64 n4, .int .i64 n5, .int .i64 M.Kind, .int .i64 M.Acct, .int .i64 M.Amt, .int .i64 0] := y
      clear y
      have c_r_8_w25 := x_r.cell (i := 8) rfl
      have f_r_8_w25 := x_r.frozen 8
      obtain ⟨w26, e_w26, s_w26, h_w26, y⟩ := set_step x_r 8 (.int .i64 M.Src)
      have s_w26_1 := Nat.le_of_eq s_w26
      have s_w26_2 := Nat.le_of_eq s_w26.symm
      clear s_w26
      replace x_q := x_q.chg h_w26 (by omega)
      replace x_m := x_m.chg h_w26 (by omega)
      have B_w26 := Below.chg_ B_w25 h_w26 (by omega) (by omega)
      replace x_r : Vr w26 (wa.heap.size) 26 [.int .i64 n1, .int .i64 n2, .int .i64 n3, .int .i64 n4, .int .i64 n5, .int .i64 M.Kind, .int .i64 M.Acct, .int .i64 M.Amt, .int .i64 M.Src] := y
      clear y
      obtain ⟨ob, hob⟩ : ∃ b, recOkB (⟨n1, n2, n3, n4, n5, ⟨M.Kind, M.Acct, M.Amt, M.Src⟩⟩ : MRec) = b := ⟨_, rfl⟩
      have HO := Lib.hid hob
      clear hob
      by_cases he : p6 = (zs.length : Int)
      case neg =>
        have HN := Lib.hid (fin_no1 hb H1.out H2.out he)
        have hb1 : (p6 != (zs.length : Int)) = true := by simpa using he
        clear he
        have sB9 := B_w26.size
        go_wp2_with (refine wpl_rstore (zs := [0, 0, 0, 0, 0, 0, 0, 0, 0]) x_q rfl rfl rfl rfl rfl rfl ?_; intro wz x_z h_z s_z)
        refine ret_cell_tmp (by rfl) (by rfl) x_z Tryd.underlying26 sz_rec (by rfl) ?_
        rw [HN.out.1, HN.out.2]
        exact ⟨_, rfl, ov_rec (d := recZ) (Nat.le_refl _), Below.chg_ B_w26 h_z (by omega) (by omega)⟩
      have hb1 : (p6 != (zs.length : Int)) = false := by simpa using he
      have HE := Lib.hid he
      clear he
      have rv : RV recL w26 (.agg #[.int .i64 n1, .int .i64 n2, .int .i64 n3, .int .i64 n4, .int .i64 n5, .int .i64 M.Kind, .int .i64 M.Acct, .int .i64 M.Amt, .int .i64 M.Src]) (⟨n1, n2, n3, n4, n5, ⟨M.Kind, M.Acct, M.Amt, M.Src⟩⟩ : MRec) := rv_rec_mk (zM := ⟨M.Kind, M.Acct, M.Amt, M.Src⟩)
      go_wp2_with (refine wpl_rload x_r rfl rfl rfl rfl ?_)
      refine (iRecOk_c rv).mono ?_
      rintro e w27 ⟨rfl, h_w27⟩
      clear c_m_0_w22 c_m_1_w22 c_m_2_w22 c_m_3_w22 c_r_5_w22 f_r_5_w22 c_r_6_w23 f_r_6_w23 c_r_7_w24 f_r_7_w24 c_r_8_w25 f_r_8_w25
      replace x_q := x_q.from_ h_w27
      replace x_r := x_r.from_ h_w27
      have B_w27 := B_w26.trans (h_w27.mono B_w26.size)
      have s_w27 := h_w27.size
      rw [HO.out]
      cases ob with
      | false =>
        have HN := Lib.hid (fin_no2 hb H1.out HO.out)
        have sB9 := B_w27.size
        go_wp2_with (refine wpl_rstore (zs := [0, 0, 0, 0, 0, 0, 0, 0, 0]) x_q rfl rfl rfl rfl rfl rfl ?_; intro wz x_z h_z s_z)
        refine ret_cell_tmp (by rfl) (by rfl) x_z Tryd.underlying26 sz_rec (by rfl) ?_
        rw [HN.out.1, HN.out.2]
        exact ⟨_, rfl, ov_rec (d := recZ) (Nat.le_refl _), Below.chg_ B_w27 h_z (by omega) (by omega)⟩
      | true =>
        have HN := Lib.hid (fin_yes hb H1.out H2.out HE.out HO.out)
        have sB9 := B_w27.size
        go_wp2_with (first | refine wpl_rload x_r rfl rfl rfl rfl ?_ | (refine wpl_rstore (zs := [n1, n2, n3, n4, n5, M.Kind, M.Acct, M.Amt, M.Src]) x_q rfl rfl rfl rfl rfl rfl ?_; intro wz x_z h_z s_z))
        refine ret_cell_tmp (by rfl) (by rfl) x_z Tryd.underlying26 sz_rec (by rfl) ?_
        rw [HN.out.1, HN.out.2]
        exact ⟨_, rfl, ov_rec (d := ⟨n1, n2, n3, n4, n5, ⟨M.Kind, M.Acct, M.Amt, M.Src⟩⟩) (Nat.le_refl _), Below.chg_ B_w27 h_z (by omega) (by omega)⟩
end Go.Proofs.YtkbhbccpmmhelaaDoor
