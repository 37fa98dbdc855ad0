/- Votes: the contracts of impl's orderedSet.within, isNodeList, has, clone, PropOk, PropNew, PropReady, PropWon, cloneProp. Laid by a program of ours (src/vti3.py). -/
import Derived.Test.YtaoedgcdcimibaaVtI2
namespace Go.Proofs.Ytaoedgcdcimibaa
open Go.RowKit
set_option linter.unusedVariables false

set_option maxHeartbeats 1000000 in
theorem iWithin_c {w : World} {v : Value} {l : List Int} (h : RS .i64 w v l) : Calls Try.prog 72 #[v, .int .i64 0, .int .i64 3] w fun e w' => e = .returned (.bool (riseB l)) ∧ Below w.heap.size w w' := by
  have h0 := h
  obtain ⟨A, c, rfl, h1, h2, hr⟩ := h
  unfold maxLen at h2
  by_cases ha : ascB l = true
  case neg =>
    replace ha : ascB l = false := by simpa using ha
    have HA := Lib.hid ha
    have HO : Hid (riseB l = false) := Bool.eq_false_iff.2 (fun c => by have := rise_asc c; rw [ha] at this; cases this)
    clear ha
    go_enter Try.func72, Try.ntmps72
    go_wp2_with fail
    refine (iAsc_c h0).mono ?_
    rintro e w1 ⟨rfl, h_w1⟩
    rw [HA.out]
    go_wp2
    go_ret
    exact ⟨ret_eq (by rw [HO.out]; rfl), h_w1⟩
  have HA := Lib.hid ha
  rcases Nat.eq_zero_or_pos l.length with e0 | e0
  case inl =>
    have HO : Hid (riseB l = true) := rise_ends ha (fun h => by omega) (fun h => by omega)
    have i0 : ((l.length : Int) == 0) = true := by simp [e0]
    clear ha e0
    go_enter Try.func72, Try.ntmps72
    go_wp2_with fail
    refine (iAsc_c h0).mono ?_
    rintro e w1 ⟨rfl, h_w1⟩
    rw [HA.out]
    go_wp2
    go_ret
    exact ⟨ret_eq (by rw [HO.out]; rfl), h_w1⟩
  obtain ⟨b, off, rfl, hb, hc⟩ := hr e0
  obtain ⟨m, hm⟩ : ∃ m, l.length = m + 1 := ⟨l.length - 1, by omega⟩
  have c0 := hc 0 e0
  have cn := hc m (by omega)
  obtain ⟨x, hx⟩ : ∃ x, l.getD 0 0 = x := ⟨_, rfl⟩
  obtain ⟨y, hy⟩ : ∃ y, l.getD m 0 = y := ⟨_, rfl⟩
  rw [hx] at c0
  rw [hy] at cn
  have i0 : ((l.length : Int) == 0) = false := by rw [hm]; exact beq_eq_false_iff_ne.2 (by omega)
  have i1 : (0 : Int) < (l.length : Int) := by omega
  have i2 : (m : Int) < (l.length : Int) := by omega
  have i3 : (0 : Int) ≤ (m : Int) := by omega
  have e1 : IntKind.i64.wrap ((l.length : Int) - 1) = (m : Int) := by rw [show (l.length : Int) - 1 = (m : Int) by omega]; exact IntWalk.i64_in _ (by omega)
  have e1' : (l.length : Int) - 1 = (m : Int) := by omega
  clear hc hr
  by_cases hx0 : 0 ≤ x
  case neg =>
    have HO : Hid (riseB l = false) := Bool.eq_false_iff.2 (fun c => by have := (rise_in c 0 e0).1; rw [hx] at this; exact hx0 this)
    have g0 : decide (0 ≤ x) = false := decide_eq_false hx0
    clear ha hx hy e0 hm e1'
    go_enter Try.func72, Try.ntmps72
    go_wp2_with fail
    refine (iAsc_c h0).mono ?_
    rintro e w1 ⟨rfl, h_w1⟩
    rw [HA.out]
    have c01 := (h_w1.cell (p := ⟨b, off + 0, none⟩) hb).trans c0
    have c02 : w1.cell? ⟨b, off, none⟩ = some (.int .i64 x) := c01
    have cn1 := (h_w1.cell (p := ⟨b, off + m, none⟩) hb).trans cn
    clear c0 cn
    go_wp2
    go_ret
    exact ⟨ret_eq (by rw [HO.out]; rfl), h_w1⟩
  have g0 : decide (0 ≤ x) = true := decide_eq_true hx0
  by_cases hy3 : y ≤ 3
  all_goals (
    have HO : Hid (riseB l = decide (y ≤ 3)) := by
      show _ = _
      first
        | (rw [decide_eq_true hy3]; exact rise_ends ha (fun _ => by rw [hx]; exact hx0) (fun _ => by rw [hm, show m + 1 - 1 = m from rfl, hy]; exact hy3))
        | (rw [decide_eq_false hy3]; exact Bool.eq_false_iff.2 (fun c => by have := (rise_in c m (by omega)).2; rw [hy] at this; exact hy3 this))
    clear ha hx hy e0 hm e1'
    go_enter Try.func72, Try.ntmps72
    go_wp2_with fail
    refine (iAsc_c h0).mono ?_
    rintro e w1 ⟨rfl, h_w1⟩
    rw [HA.out]
    have c01 := (h_w1.cell (p := ⟨b, off + 0, none⟩) hb).trans c0
    have c02 : w1.cell? ⟨b, off, none⟩ = some (.int .i64 x) := c01
    have cn1 := (h_w1.cell (p := ⟨b, off + m, none⟩) hb).trans cn
    clear c0 cn
    go_wp2
    go_ret
    exact ⟨ret_eq (by rw [HO.out]; first | rfl | (rw [decide_eq_true hy3]; rfl) | (rw [decide_eq_false hy3]; rfl)), h_w1⟩)

theorem iNodes_c {w : World} {v : Value} {l : List Int} (h : RS .i64 w v l) : Calls Try.prog 48 #[v] w fun e w' => e = .returned v ∧ w = w' := by
  obtain ⟨A, c, rfl, h1, h2, hr⟩ := h
  exact iNodesOf_any _ A _ c rfl w

theorem iNodeList_c {w : World} {v : Value} {l : List Int} (h : RS .i64 w v l) : Calls Try.prog 54 #[v] w fun e w' => e = .returned (.bool (riseB l)) ∧ Below w.heap.size w w' := by
  have h0 := h
  obtain ⟨A, c, rfl, h1, h2, hr⟩ := h
  go_enter Try.func54, Try.ntmps54
  go_wp2_with fail
  refine (iNodes_c h0).mono ?_
  rintro e w' ⟨rfl, rfl⟩
  go_wp2_with fail
  refine (iWithin_c h0).mono ?_
  rintro e w1 ⟨rfl, h_w1⟩
  go_wp2
  go_ret
  exact ⟨rfl, h_w1⟩

theorem iHas_c {w : World} {v : Value} {l : List Int} {n : Int} (h : RS .i64 w v l) (hl : riseB l = true) : Calls Try.prog 49 #[v, .int .i64 n] w fun e w' => e = .returned (.bool (hasI l n)) ∧ Below w.heap.size w w' := by
  have h0 := h
  have hm := rise_len hl
  obtain ⟨A, c, rfl, h1, h2, hr⟩ := h
  go_enter Try.func49, Try.ntmps49
  go_wp2_with fail
  refine (iFind_c h0 (rise_asc hl) (by omega)).mono ?_
  rintro e w1 ⟨rfl, h_w1⟩
  go_wp2
  go_ret
  exact ⟨rfl, h_w1⟩

theorem iClone_c {w : World} {v : Value} {l : List Int} (h : RS .i64 w v l) (hm : l.length ≤ 16777216) : Calls Try.prog 69 #[v] w (NewS .i64 3 w l) := by
  obtain ⟨A, c, rfl, hc1, hc2, hr⟩ := h
  obtain ⟨i0, hi, hz0, hz1, hz2⟩ := info_parts Try.info_i64
  have hr2 : Rd .i64 (w.alloc (.cells #[] 3)) w.heap.size A l := hr.below ((Below.refl _ _).alloc (Nat.le_refl _) _)
  have ho := own_none .i64 w w.heap.size 3 (Nat.le_refl _)
  go_enter Try.func69, Try.ntmps69
  go_wp2_with (at_builtin; refine wpl_appI _ .i64 rfl (.tmp 3) (.tmp 4) 64 rfl w.heap.size 3 i0 8 Try.underlying64 hi hz0 hz1 hz2 _ [] rfl ho _ A c l.length l rfl rfl hr2 ?d1 (by omega) ?d2 ?_)
  case d1 => simp; omega
  case d2 => simp
  intro v2 w2 ho2 hg2 hat2
  have hb : Below w.heap.size w w2 := grown_below ((Below.refl _ _).alloc (Nat.le_refl _) _) ho hg2 (Nat.le_refl _) (by simp)
  go_wp2
  go_ret
  exact ⟨_, rfl, OS.mk_ (by simpa using ho2), hb⟩

set_option maxHeartbeats 2000000 in
theorem iPropOk_x {w : World} {v : Value} {p : MProp} (h : RV propL w v p) : Calls Try.prog 23 #[v] w fun e w' => e = .returned (.bool (propOkB p)) ∧ Below w.heap.size w w' := by
  obtain ⟨AF, cF, AT, cT, rfl, rF, rT⟩ := rv_prop h
  clear h
  obtain ⟨wa, hwa, B0, sa, x_p⟩ := frame1 w 26 [.int .i64 p.Bal, .int .i64 p.Val, .slice AF p.From.length cF, .int .i64 p.Best, .slice AT p.Got.length cT]
  have sa_1 := Nat.le_of_eq sa
  have sa_2 := Nat.le_of_eq sa.symm
  clear sa
  have c_p_0_wa := x_p.cell (i := 0) rfl
  have c_p_1_wa := x_p.cell (i := 1) rfl
  have c_p_2_wa := x_p.cell (i := 2) rfl
  have c_p_3_wa := x_p.cell (i := 3) rfl
  have c_p_4_wa := x_p.cell (i := 4) rfl
  by_cases hB : inB p.Bal 1 1125899906842624 = true
  case neg =>
    replace hB : inB p.Bal 1 1125899906842624 = false := by simpa using hB
    have HB := Lib.hid hB
    have HO : Hid (propOkB p = false) := by show _ = _; unfold propOkB; rw [hB]; simp
    clear hB
    go_enter Try.func23, Try.ntmps23
    go_wp2_with fail
    refine (iBallot_any _ _).mono ?_
    rintro e w' ⟨rfl, rfl⟩
    rw [HB.out]
    go_wp2
    go_ret
    exact ⟨ret_eq (by rw [HO.out]; rfl), B0⟩
  have HB := Lib.hid hB
  by_cases hV : inB p.Val 1 4 = true
  case neg =>
    replace hV : inB p.Val 1 4 = false := by simpa using hV
    have HV := Lib.hid hV
    have HO : Hid (propOkB p = false) := by show _ = _; unfold propOkB; rw [hV]; simp
    clear hB hV
    go_enter Try.func23, Try.ntmps23
    go_wp2_with fail
    refine (iBallot_any _ _).mono ?_
    rintro e w' ⟨rfl, rfl⟩
    rw [HB.out]
    go_wp2_with fail
    refine (iChoice_any _ _).mono ?_
    rintro e w' ⟨rfl, rfl⟩
    rw [HV.out]
    go_wp2
    go_ret
    exact ⟨ret_eq (by rw [HO.out]; rfl), B0⟩
  have HV := Lib.hid hV
  by_cases hL : decide (0 ≤ p.Best) = true
  case neg =>
    replace hL : decide (0 ≤ p.Best) = false := Bool.eq_false_iff.2 hL
    have HL := Lib.hid hL
    have HO : Hid (propOkB p = false) := by show _ = _; unfold propOkB; rw [show inB p.Best 0 (p.Bal - 1) = false from inB_false.2 (by have := of_decide_eq_false hL; omega)]; simp
    clear hB hV
    go_enter Try.func23, Try.ntmps23
    go_wp2_with fail
    refine (iBallot_any _ _).mono ?_
    rintro e w' ⟨rfl, rfl⟩
    rw [HB.out]
    go_wp2_with fail
    refine (iChoice_any _ _).mono ?_
    rintro e w' ⟨rfl, rfl⟩
    rw [HV.out]
    go_wp2
    go_ret
    exact ⟨ret_eq (by rw [HO.out]; rfl), B0⟩
  have HL := Lib.hid hL
  by_cases hG : decide (p.Best < p.Bal) = true
  case neg =>
    replace hG : decide (p.Best < p.Bal) = false := Bool.eq_false_iff.2 hG
    have HG := Lib.hid hG
    have HO : Hid (propOkB p = false) := by show _ = _; unfold propOkB; rw [show inB p.Best 0 (p.Bal - 1) = false from inB_false.2 (by have := of_decide_eq_false hG; omega)]; simp
    clear hB hV
    go_enter Try.func23, Try.ntmps23
    go_wp2_with fail
    refine (iBallot_any _ _).mono ?_
    rintro e w' ⟨rfl, rfl⟩
    rw [HB.out]
    go_wp2_with fail
    refine (iChoice_any _ _).mono ?_
    rintro e w' ⟨rfl, rfl⟩
    rw [HV.out]
    go_wp2
    go_ret
    exact ⟨ret_eq (by rw [HO.out]; rfl), B0⟩
  have HG := Lib.hid hG
  by_cases hF : riseB p.From = true
  case neg =>
    replace hF : riseB p.From = false := by simpa using hF
    have HF := Lib.hid hF
    have HO : Hid (propOkB p = false) := by show _ = _; unfold propOkB; rw [hF]; simp
    clear hB hV hF
    go_enter Try.func23, Try.ntmps23
    go_wp2_with fail
    refine (iBallot_any _ _).mono ?_
    rintro e w' ⟨rfl, rfl⟩
    rw [HB.out]
    go_wp2_with fail
    refine (iChoice_any _ _).mono ?_
    rintro e w' ⟨rfl, rfl⟩
    rw [HV.out]
    go_wp2_with fail
    refine (iNodeList_c (rF.from_ B0)).mono ?_
    rintro e w1 ⟨rfl, h_w1⟩
    clear c_p_0_wa c_p_1_wa c_p_2_wa c_p_3_wa c_p_4_wa
    replace x_p := x_p.from_ h_w1
    have B_w1 := B0.trans (h_w1.mono B0.size)
    have s_w1 := h_w1.size
    rw [HF.out]
    have c_p_0_w1 := x_p.cell (i := 0) rfl
    have c_p_1_w1 := x_p.cell (i := 1) rfl
    have c_p_2_w1 := x_p.cell (i := 2) rfl
    have c_p_3_w1 := x_p.cell (i := 3) rfl
    have c_p_4_w1 := x_p.cell (i := 4) rfl
    go_wp2
    go_ret
    exact ⟨ret_eq (by rw [HO.out]; rfl), B_w1⟩
  have HF := Lib.hid hF
  by_cases hT : riseB p.Got = true
  case neg =>
    replace hT : riseB p.Got = false := by simpa using hT
    have HT := Lib.hid hT
    have HO : Hid (propOkB p = false) := by show _ = _; unfold propOkB; rw [hT]; simp
    clear hB hV hF hT
    go_enter Try.func23, Try.ntmps23
    go_wp2_with fail
    refine (iBallot_any _ _).mono ?_
    rintro e w' ⟨rfl, rfl⟩
    rw [HB.out]
    go_wp2_with fail
    refine (iChoice_any _ _).mono ?_
    rintro e w' ⟨rfl, rfl⟩
    rw [HV.out]
    go_wp2_with fail
    refine (iNodeList_c (rF.from_ B0)).mono ?_
    rintro e w1 ⟨rfl, h_w1⟩
    clear c_p_0_wa c_p_1_wa c_p_2_wa c_p_3_wa c_p_4_wa
    replace x_p := x_p.from_ h_w1
    have B_w1 := B0.trans (h_w1.mono B0.size)
    have s_w1 := h_w1.size
    rw [HF.out]
    have c_p_0_w1 := x_p.cell (i := 0) rfl
    have c_p_1_w1 := x_p.cell (i := 1) rfl
    have c_p_2_w1 := x_p.cell (i := 2) rfl
    have c_p_3_w1 := x_p.cell (i := 3) rfl
    have c_p_4_w1 := x_p.cell (i := 4) rfl
    go_wp2_with fail
    refine (iNodeList_c (rT.from_ B_w1)).mono ?_
    rintro e w2 ⟨rfl, h_w2⟩
    clear c_p_0_w1 c_p_1_w1 c_p_2_w1 c_p_3_w1 c_p_4_w1
    replace x_p := x_p.from_ h_w2
    have B_w2 := B_w1.trans (h_w2.mono B_w1.size)
    have s_w2 := h_w2.size
    rw [HT.out]
    have c_p_0_w2 := x_p.cell (i := 0) rfl
    have c_p_1_w2 := x_p.cell (i := 1) rfl
    have c_p_2_w2 := x_p.cell (i := 2) rfl
    have c_p_3_w2 := x_p.cell (i := 3) rfl
    have c_p_4_w2 := x_p.cell (i := 4) rfl
    go_wp2
    go_ret
    exact ⟨ret_eq (by rw [HO.out]; rfl), B_w2⟩
  have HT := Lib.hid hT
  have HO : Hid (propOkB p = true) := by show _ = _; unfold propOkB; rw [hB, hV, hF, hT, inB_true.2 (by have := of_decide_eq_true hL; have := of_decide_eq_true hG; omega)]; rfl
  clear hB hV hF hT
  go_enter Try.func23, Try.ntmps23
  go_wp2_with fail
  refine (iBallot_any _ _).mono ?_
  rintro e w' ⟨rfl, rfl⟩
  rw [HB.out]
  go_wp2_with fail
  refine (iChoice_any _ _).mono ?_
  rintro e w' ⟨rfl, rfl⟩
  rw [HV.out]
  go_wp2_with fail
  refine (iNodeList_c (rF.from_ B0)).mono ?_
  rintro e w1 ⟨rfl, h_w1⟩
  clear c_p_0_wa c_p_1_wa c_p_2_wa c_p_3_wa c_p_4_wa
  replace x_p := x_p.from_ h_w1
  have B_w1 := B0.trans (h_w1.mono B0.size)
  have s_w1 := h_w1.size
  rw [HF.out]
  have c_p_0_w1 := x_p.cell (i := 0) rfl
  have c_p_1_w1 := x_p.cell (i := 1) rfl
  have c_p_2_w1 := x_p.cell (i := 2) rfl
  have c_p_3_w1 := x_p.cell (i := 3) rfl
  have c_p_4_w1 := x_p.cell (i := 4) rfl
  go_wp2_with fail
  refine (iNodeList_c (rT.from_ B_w1)).mono ?_
  rintro e w2 ⟨rfl, h_w2⟩
  clear c_p_0_w1 c_p_1_w1 c_p_2_w1 c_p_3_w1 c_p_4_w1
  replace x_p := x_p.from_ h_w2
  have B_w2 := B_w1.trans (h_w2.mono B_w1.size)
  have s_w2 := h_w2.size
  rw [HT.out]
  have c_p_0_w2 := x_p.cell (i := 0) rfl
  have c_p_1_w2 := x_p.cell (i := 1) rfl
  have c_p_2_w2 := x_p.cell (i := 2) rfl
  have c_p_3_w2 := x_p.cell (i := 3) rfl
  have c_p_4_w2 := x_p.cell (i := 4) rfl
  go_wp2
  go_ret
  exact ⟨ret_eq (by rw [HO.out]; rfl), B_w2⟩

set_option maxHeartbeats 2000000 in
theorem iPropNew_c {w : World} {b u : Int} (hb : -9223372036854775808 ≤ b ∧ b ≤ 9223372036854775807) (hu : -9223372036854775808 ≤ u ∧ u ≤ 9223372036854775807) : Calls Try.prog 14 #[.int .i64 b, .int .i64 u] w (NewVB propL w (propNew b u) (propNewB b u)) := by
  obtain ⟨wa, hwa, B0, sa, x_r⟩ := frame1 w 26 [.int .i64 0, .int .i64 0, .slice none 0 0, .int .i64 0, .slice none 0 0]
  have sa_1 := Nat.le_of_eq sa
  have sa_2 := Nat.le_of_eq sa.symm
  clear sa
  have c_r_0_wa := x_r.cell (i := 0) rfl
  have f_r_0_wa := x_r.frozen 0
  have c_r_1_wa := x_r.cell (i := 1) rfl
  have f_r_1_wa := x_r.frozen 1
  have c_r_2_wa := x_r.cell (i := 2) rfl
  have f_r_2_wa := x_r.frozen 2
  have c_r_3_wa := x_r.cell (i := 3) rfl
  have f_r_3_wa := x_r.frozen 3
  have c_r_4_wa := x_r.cell (i := 4) rfl
  have f_r_4_wa := x_r.frozen 4
  by_cases hk : propOkB ⟨b, u, [], 0, []⟩ = true
  case neg =>
    replace hk : propOkB ⟨b, u, [], 0, []⟩ = false := by simpa using hk
    have HB9 : Hid (propNewB b u = false) := hk
    have HK := Lib.hid hk
    have HM : Hid (propNew b u = propZ) := if_neg (by rw [HB9.out]; decide)
    clear hk
    go_enter Try.func14, Try.ntmps14
    obtain ⟨w1, e_w1, s_w1, h_w1, x_p⟩ := alloc_step wa 26 [.int .i64 b, .int .i64 u, .slice none 0 0, .int .i64 0, .slice none 0 0]
    have s_w1_1 := Nat.le_of_eq s_w1
    have s_w1_2 := Nat.le_of_eq s_w1.symm
    clear s_w1
    replace x_r := x_r.from_ h_w1
    have B_w1 := B0.trans (h_w1.mono B0.size)
    have i_w1_4 := x_p.same (i := 4) rfl
    have i_w1_3 := x_p.same (i := 3) rfl
    have i_w1_2 := x_p.same (i := 2) rfl
    have c_r_0_w1 := x_r.cell (i := 0) rfl
    have f_r_0_w1 := x_r.frozen 0
    have c_r_1_w1 := x_r.cell (i := 1) rfl
    have f_r_1_w1 := x_r.frozen 1
    have c_r_2_w1 := x_r.cell (i := 2) rfl
    have f_r_2_w1 := x_r.frozen 2
    have c_r_3_w1 := x_r.cell (i := 3) rfl
    have f_r_3_w1 := x_r.frozen 3
    have c_r_4_w1 := x_r.cell (i := 4) rfl
    have f_r_4_w1 := x_r.frozen 4
    have c_p_0_w1 := x_p.cell (i := 0) rfl
    have f_p_0_w1 := x_p.frozen 0
    have c_p_1_w1 := x_p.cell (i := 1) rfl
    have f_p_1_w1 := x_p.frozen 1
    have c_p_2_w1 := x_p.cell (i := 2) rfl
    have f_p_2_w1 := x_p.frozen 2
    have c_p_3_w1 := x_p.cell (i := 3) rfl
    have f_p_3_w1 := x_p.frozen 3
    have c_p_4_w1 := x_p.cell (i := 4) rfl
    have f_p_4_w1 := x_p.frozen 4
    have rD : RV propL w1 (.agg #[.int .i64 b, .int .i64 u, .slice none 0 0, .int .i64 0, .slice none 0 0]) ⟨b, u, [], 0, []⟩ := (ov_prop (d := ⟨b, u, [], 0, []⟩) (lo := 0) (hi := 0) (os_nil (lo := 0) (hi := 0) (Nat.zero_le _)) (os_nil (lo := 0) (hi := 0) (Nat.zero_le _)) (by omega)).rd
    go_wp2_with fail
    refine (iPropOk_x rD).mono ?_
    rintro e w2 ⟨rfl, h_w2⟩
    clear c_r_0_wa f_r_0_wa c_r_1_wa f_r_1_wa c_r_2_wa f_r_2_wa c_r_3_wa f_r_3_wa c_r_4_wa f_r_4_wa i_w1_4 i_w1_3 i_w1_2 c_r_0_w1 f_r_0_w1 c_r_1_w1 f_r_1_w1 c_r_2_w1 f_r_2_w1 c_r_3_w1 f_r_3_w1 c_r_4_w1 f_r_4_w1 c_p_0_w1 f_p_0_w1 c_p_1_w1 f_p_1_w1 c_p_2_w1 f_p_2_w1 c_p_3_w1 f_p_3_w1 c_p_4_w1 f_p_4_w1
    replace x_r := x_r.from_ h_w2
    replace x_p := x_p.from_ h_w2
    have B_w2 := B_w1.trans (h_w2.mono B_w1.size)
    have s_w2 := h_w2.size
    rw [HK.out]
    have c_r_0_w2 := x_r.cell (i := 0) rfl
    have f_r_0_w2 := x_r.frozen 0
    have c_r_1_w2 := x_r.cell (i := 1) rfl
    have f_r_1_w2 := x_r.frozen 1
    have c_r_2_w2 := x_r.cell (i := 2) rfl
    have f_r_2_w2 := x_r.frozen 2
    have c_r_3_w2 := x_r.cell (i := 3) rfl
    have f_r_3_w2 := x_r.frozen 3
    have c_r_4_w2 := x_r.cell (i := 4) rfl
    have f_r_4_w2 := x_r.frozen 4
    have c_p_0_w2 := x_p.cell (i := 0) rfl
    have f_p_0_w2 := x_p.frozen 0
    have c_p_1_w2 := x_p.cell (i := 1) rfl
    have f_p_1_w2 := x_p.frozen 1
    have c_p_2_w2 := x_p.cell (i := 2) rfl
    have f_p_2_w2 := x_p.frozen 2
    have c_p_3_w2 := x_p.cell (i := 3) rfl
    have f_p_3_w2 := x_p.frozen 3
    have c_p_4_w2 := x_p.cell (i := 4) rfl
    have f_p_4_w2 := x_p.frozen 4
    have i_r_0 := x_r.same (i := 0) rfl
    have i_r_1 := x_r.same (i := 1) rfl
    have i_r_2 := x_r.same (i := 2) rfl
    have i_r_3 := x_r.same (i := 3) rfl
    have i_r_4 := x_r.same (i := 4) rfl
    go_wp2
    refine ret_cell_tmp (by rfl) (by rfl) x_r Try.underlying26 sz_prop (by rfl) ?_
    rw [HM.out, HB9.out]
    exact ⟨_, rfl, ov_prop (d := propZ) (os_nil (lo := w.heap.size) (hi := w.heap.size) (by omega)) (os_nil (lo := w.heap.size) (hi := w.heap.size) (by omega)) (by omega), B_w2⟩
  case pos =>
    have HB9 : Hid (propNewB b u = true) := hk
    have HK := Lib.hid hk
    have HM : Hid (propNew b u = ⟨b, u, [], 0, []⟩) := if_pos HB9.out
    clear hk
    go_enter Try.func14, Try.ntmps14
    obtain ⟨w1, e_w1, s_w1, h_w1, x_p⟩ := alloc_step wa 26 [.int .i64 b, .int .i64 u, .slice none 0 0, .int .i64 0, .slice none 0 0]
    have s_w1_1 := Nat.le_of_eq s_w1
    have s_w1_2 := Nat.le_of_eq s_w1.symm
    clear s_w1
    replace x_r := x_r.from_ h_w1
    have B_w1 := B0.trans (h_w1.mono B0.size)
    have i_w1_4 := x_p.same (i := 4) rfl
    have i_w1_3 := x_p.same (i := 3) rfl
    have i_w1_2 := x_p.same (i := 2) rfl
    have c_r_0_w1 := x_r.cell (i := 0) rfl
    have f_r_0_w1 := x_r.frozen 0
    have c_r_1_w1 := x_r.cell (i := 1) rfl
    have f_r_1_w1 := x_r.frozen 1
    have c_r_2_w1 := x_r.cell (i := 2) rfl
    have f_r_2_w1 := x_r.frozen 2
    have c_r_3_w1 := x_r.cell (i := 3) rfl
    have f_r_3_w1 := x_r.frozen 3
    have c_r_4_w1 := x_r.cell (i := 4) rfl
    have f_r_4_w1 := x_r.frozen 4
    have c_p_0_w1 := x_p.cell (i := 0) rfl
    have f_p_0_w1 := x_p.frozen 0
    have c_p_1_w1 := x_p.cell (i := 1) rfl
    have f_p_1_w1 := x_p.frozen 1
    have c_p_2_w1 := x_p.cell (i := 2) rfl
    have f_p_2_w1 := x_p.frozen 2
    have c_p_3_w1 := x_p.cell (i := 3) rfl
    have f_p_3_w1 := x_p.frozen 3
    have c_p_4_w1 := x_p.cell (i := 4) rfl
    have f_p_4_w1 := x_p.frozen 4
    have rD : RV propL w1 (.agg #[.int .i64 b, .int .i64 u, .slice none 0 0, .int .i64 0, .slice none 0 0]) ⟨b, u, [], 0, []⟩ := (ov_prop (d := ⟨b, u, [], 0, []⟩) (lo := 0) (hi := 0) (os_nil (lo := 0) (hi := 0) (Nat.zero_le _)) (os_nil (lo := 0) (hi := 0) (Nat.zero_le _)) (by omega)).rd
    go_wp2_with fail
    refine (iPropOk_x rD).mono ?_
    rintro e w2 ⟨rfl, h_w2⟩
    clear c_r_0_wa f_r_0_wa c_r_1_wa f_r_1_wa c_r_2_wa f_r_2_wa c_r_3_wa f_r_3_wa c_r_4_wa f_r_4_wa i_w1_4 i_w1_3 i_w1_2 c_r_0_w1 f_r_0_w1 c_r_1_w1 f_r_1_w1 c_r_2_w1 f_r_2_w1 c_r_3_w1 f_r_3_w1 c_r_4_w1 f_r_4_w1 c_p_0_w1 f_p_0_w1 c_p_1_w1 f_p_1_w1 c_p_2_w1 f_p_2_w1 c_p_3_w1 f_p_3_w1 c_p_4_w1 f_p_4_w1
    replace x_r := x_r.from_ h_w2
    replace x_p := x_p.from_ h_w2
    have B_w2 := B_w1.trans (h_w2.mono B_w1.size)
    have s_w2 := h_w2.size
    rw [HK.out]
    have c_r_0_w2 := x_r.cell (i := 0) rfl
    have f_r_0_w2 := x_r.frozen 0
    have c_r_1_w2 := x_r.cell (i := 1) rfl
    have f_r_1_w2 := x_r.frozen 1
    have c_r_2_w2 := x_r.cell (i := 2) rfl
    have f_r_2_w2 := x_r.frozen 2
    have c_r_3_w2 := x_r.cell (i := 3) rfl
    have f_r_3_w2 := x_r.frozen 3
    have c_r_4_w2 := x_r.cell (i := 4) rfl
    have f_r_4_w2 := x_r.frozen 4
    have c_p_0_w2 := x_p.cell (i := 0) rfl
    have f_p_0_w2 := x_p.frozen 0
    have c_p_1_w2 := x_p.cell (i := 1) rfl
    have f_p_1_w2 := x_p.frozen 1
    have c_p_2_w2 := x_p.cell (i := 2) rfl
    have f_p_2_w2 := x_p.frozen 2
    have c_p_3_w2 := x_p.cell (i := 3) rfl
    have f_p_3_w2 := x_p.frozen 3
    have c_p_4_w2 := x_p.cell (i := 4) rfl
    have f_p_4_w2 := x_p.frozen 4
    obtain ⟨w3, e_w3, s_w3, h_w3, y⟩ := store_step x_r [.int .i64 b, .int .i64 u, .slice none 0 0, .int .i64 0, .slice none 0 0] rfl
    replace e_w3 : (((((w2.setCell ⟨w.heap.size, 0, none⟩ (.int .i64 b)).setCell ⟨w.heap.size, 1, none⟩ (.int .i64 u)).setCell ⟨w.heap.size, 2, none⟩ (.slice none 0 0)).setCell ⟨w.heap.size, 3, none⟩ (.int .i64 0)).setCell ⟨w.heap.size, 4, none⟩ (.slice none 0 0)) = w3 := e_w3
    have s_w3_1 := Nat.le_of_eq s_w3
    have s_w3_2 := Nat.le_of_eq s_w3.symm
    clear s_w3
    replace x_p := x_p.chg h_w3 (by omega)
    have B_w3 := Below.chg_ B_w2 h_w3 (by omega) (by omega)
    replace x_r : Vr w3 (w.heap.size) 26 [.int .i64 b, .int .i64 u, .slice none 0 0, .int .i64 0, .slice none 0 0] := y
    clear y
    have c_r_0_w3 := x_r.cell (i := 0) rfl
    have f_r_0_w3 := x_r.frozen 0
    have c_r_1_w3 := x_r.cell (i := 1) rfl
    have f_r_1_w3 := x_r.frozen 1
    have c_r_2_w3 := x_r.cell (i := 2) rfl
    have f_r_2_w3 := x_r.frozen 2
    have c_r_3_w3 := x_r.cell (i := 3) rfl
    have f_r_3_w3 := x_r.frozen 3
    have c_r_4_w3 := x_r.cell (i := 4) rfl
    have f_r_4_w3 := x_r.frozen 4
    go_wp2
    refine ret_cell_tmp (by rfl) (by rfl) x_r Try.underlying26 sz_prop (by rfl) ?_
    rw [HM.out, HB9.out]
    exact ⟨_, rfl, ov_prop (d := ⟨b, u, [], 0, []⟩) (os_nil (lo := w.heap.size) (hi := w.heap.size) (by omega)) (os_nil (lo := w.heap.size) (hi := w.heap.size) (by omega)) (by omega), B_w3⟩

set_option maxHeartbeats 1000000 in
theorem iPropReady_x {w : World} {v : Value} {p : MProp} {n : Int} (h : RV propL w v p) (hm : p.bulk ≤ 16777216) (hn : 0 ≤ n ∧ n ≤ 1000) : Calls Try.prog 17 #[v, .int .i64 n] w fun e w' => e = .returned (.bool (propReadyB p n)) ∧ Below w.heap.size w w' := by
  have h0 := h
  have hl : 0 ≤ (p.From.length : Int) ∧ (p.From.length : Int) ≤ 1099511627776 := by unfold MProp.bulk at hm; omega
  obtain ⟨AF, cF, AT, cT, rfl, -, -⟩ := rv_prop h
  clear h
  obtain ⟨wa, hwa, B0, sa, x_p⟩ := frame1 w 26 [.int .i64 p.Bal, .int .i64 p.Val, .slice AF p.From.length cF, .int .i64 p.Best, .slice AT p.Got.length cT]
  have sa_1 := Nat.le_of_eq sa
  have sa_2 := Nat.le_of_eq sa.symm
  clear sa
  have c_p_0_wa := x_p.cell (i := 0) rfl
  have c_p_1_wa := x_p.cell (i := 1) rfl
  have c_p_2_wa := x_p.cell (i := 2) rfl
  have c_p_3_wa := x_p.cell (i := 3) rfl
  have c_p_4_wa := x_p.cell (i := 4) rfl
  by_cases hk : propOkB p = true
  case neg =>
    replace hk : propOkB p = false := by simpa using hk
    have HK := Lib.hid hk
    have HO : Hid (propReadyB p n = false) := by show _ = _; unfold propReadyB; rw [hk]; rfl
    clear hk
    go_enter Try.func17, Try.ntmps17
    go_wp2_with fail
    refine (iPropOk_x (h0.from_ B0)).mono ?_
    rintro e w1 ⟨rfl, h_w1⟩
    clear c_p_0_wa c_p_1_wa c_p_2_wa c_p_3_wa c_p_4_wa
    replace x_p := x_p.from_ h_w1
    have B_w1 := B0.trans (h_w1.mono B0.size)
    have s_w1 := h_w1.size
    rw [HK.out]
    have c_p_0_w1 := x_p.cell (i := 0) rfl
    have c_p_1_w1 := x_p.cell (i := 1) rfl
    have c_p_2_w1 := x_p.cell (i := 2) rfl
    have c_p_3_w1 := x_p.cell (i := 3) rfl
    have c_p_4_w1 := x_p.cell (i := 4) rfl
    go_wp2
    go_ret
    exact ⟨ret_eq (by rw [HO.out]; rfl), B_w1⟩
  have HK := Lib.hid hk
  have HO : Hid (propReadyB p n = isMostB (p.From.length : Int) n) := by show _ = _; unfold propReadyB; rw [hk]; rfl
  clear hk
  go_enter Try.func17, Try.ntmps17
  go_wp2_with fail
  refine (iPropOk_x (h0.from_ B0)).mono ?_
  rintro e w1 ⟨rfl, h_w1⟩
  clear c_p_0_wa c_p_1_wa c_p_2_wa c_p_3_wa c_p_4_wa
  replace x_p := x_p.from_ h_w1
  have B_w1 := B0.trans (h_w1.mono B0.size)
  have s_w1 := h_w1.size
  rw [HK.out]
  have c_p_0_w1 := x_p.cell (i := 0) rfl
  have c_p_1_w1 := x_p.cell (i := 1) rfl
  have c_p_2_w1 := x_p.cell (i := 2) rfl
  have c_p_3_w1 := x_p.cell (i := 3) rfl
  have c_p_4_w1 := x_p.cell (i := 4) rfl
  go_wp2_with fail
  refine (iIsMost_x _ _ _ hl hn).mono ?_
  rintro e w' ⟨rfl, rfl⟩
  go_wp2
  go_ret
  exact ⟨ret_eq (by rw [HO.out]; rfl), B_w1⟩

set_option maxHeartbeats 1000000 in
theorem iPropWon_x {w : World} {v : Value} {p : MProp} {n : Int} (h : RV propL w v p) (hm : p.bulk ≤ 16777216) (hn : 0 ≤ n ∧ n ≤ 1000) : Calls Try.prog 24 #[v, .int .i64 n] w fun e w' => e = .returned (.bool (propWonB p n)) ∧ Below w.heap.size w w' := by
  have h0 := h
  have hl : 0 ≤ (p.Got.length : Int) ∧ (p.Got.length : Int) ≤ 1099511627776 := by unfold MProp.bulk at hm; omega
  obtain ⟨AF, cF, AT, cT, rfl, -, -⟩ := rv_prop h
  clear h
  obtain ⟨wa, hwa, B0, sa, x_p⟩ := frame1 w 26 [.int .i64 p.Bal, .int .i64 p.Val, .slice AF p.From.length cF, .int .i64 p.Best, .slice AT p.Got.length cT]
  have sa_1 := Nat.le_of_eq sa
  have sa_2 := Nat.le_of_eq sa.symm
  clear sa
  have c_p_0_wa := x_p.cell (i := 0) rfl
  have c_p_1_wa := x_p.cell (i := 1) rfl
  have c_p_2_wa := x_p.cell (i := 2) rfl
  have c_p_3_wa := x_p.cell (i := 3) rfl
  have c_p_4_wa := x_p.cell (i := 4) rfl
  by_cases hk : propReadyB p n = true
  case neg =>
    replace hk : propReadyB p n = false := by simpa using hk
    have HK := Lib.hid hk
    have HO : Hid (propWonB p n = false) := by show _ = _; unfold propWonB; rw [hk]; rfl
    clear hk
    go_enter Try.func24, Try.ntmps24
    go_wp2_with fail
    refine (iPropReady_x (h0.from_ B0) hm hn).mono ?_
    rintro e w1 ⟨rfl, h_w1⟩
    clear c_p_0_wa c_p_1_wa c_p_2_wa c_p_3_wa c_p_4_wa
    replace x_p := x_p.from_ h_w1
    have B_w1 := B0.trans (h_w1.mono B0.size)
    have s_w1 := h_w1.size
    rw [HK.out]
    have c_p_0_w1 := x_p.cell (i := 0) rfl
    have c_p_1_w1 := x_p.cell (i := 1) rfl
    have c_p_2_w1 := x_p.cell (i := 2) rfl
    have c_p_3_w1 := x_p.cell (i := 3) rfl
    have c_p_4_w1 := x_p.cell (i := 4) rfl
    go_wp2
    go_ret
    exact ⟨ret_eq (by rw [HO.out]; rfl), B_w1⟩
  have HK := Lib.hid hk
  have HO : Hid (propWonB p n = isMostB (p.Got.length : Int) n) := by show _ = _; unfold propWonB; rw [hk]; rfl
  clear hk
  go_enter Try.func24, Try.ntmps24
  go_wp2_with fail
  refine (iPropReady_x (h0.from_ B0) hm hn).mono ?_
  rintro e w1 ⟨rfl, h_w1⟩
  clear c_p_0_wa c_p_1_wa c_p_2_wa c_p_3_wa c_p_4_wa
  replace x_p := x_p.from_ h_w1
  have B_w1 := B0.trans (h_w1.mono B0.size)
  have s_w1 := h_w1.size
  rw [HK.out]
  have c_p_0_w1 := x_p.cell (i := 0) rfl
  have c_p_1_w1 := x_p.cell (i := 1) rfl
  have c_p_2_w1 := x_p.cell (i := 2) rfl
  have c_p_3_w1 := x_p.cell (i := 3) rfl
  have c_p_4_w1 := x_p.cell (i := 4) rfl
  go_wp2_with fail
  refine (iIsMost_x _ _ _ hl hn).mono ?_
  rintro e w' ⟨rfl, rfl⟩
  go_wp2
  go_ret
  exact ⟨ret_eq (by rw [HO.out]; rfl), B_w1⟩

set_option maxRecDepth 100000 in
set_option maxHeartbeats 2000000 in
theorem iCloneProp_c {w : World} {v : Value} {p : MProp} (h : RV propL w v p) (hm : p.bulk ≤ 16777216) : Calls Try.prog 47 #[v] w (NewV propL w p) := by
  unfold MProp.bulk at hm
  obtain ⟨AF, cF, AT, cT, rfl, rF, rT⟩ := rv_prop h
  clear h
  obtain ⟨wa, hwa, B0, sa, x_p, x_r⟩ := frame2 w 26 [.int .i64 p.Bal, .int .i64 p.Val, .slice AF p.From.length cF, .int .i64 p.Best, .slice AT p.Got.length cT] 26 [.int .i64 0, .int .i64 0, .slice none 0 0, .int .i64 0, .slice none 0 0]
  have sa_1 := Nat.le_of_eq sa
  have sa_2 := Nat.le_of_eq sa.symm
  clear sa
  have c_p_0_wa := x_p.cell (i := 0) rfl
  have f_p_0_wa := x_p.frozen 0
  have c_p_1_wa := x_p.cell (i := 1) rfl
  have f_p_1_wa := x_p.frozen 1
  have c_p_2_wa := x_p.cell (i := 2) rfl
  have f_p_2_wa := x_p.frozen 2
  have c_p_3_wa := x_p.cell (i := 3) rfl
  have f_p_3_wa := x_p.frozen 3
  have c_p_4_wa := x_p.cell (i := 4) rfl
  have f_p_4_wa := x_p.frozen 4
  have c_r_0_wa := x_r.cell (i := 0) rfl
  have f_r_0_wa := x_r.frozen 0
  have c_r_1_wa := x_r.cell (i := 1) rfl
  have f_r_1_wa := x_r.frozen 1
  have c_r_2_wa := x_r.cell (i := 2) rfl
  have f_r_2_wa := x_r.frozen 2
  have c_r_3_wa := x_r.cell (i := 3) rfl
  have f_r_3_wa := x_r.frozen 3
  have c_r_4_wa := x_r.cell (i := 4) rfl
  have f_r_4_wa := x_r.frozen 4
  go_enter Try.func47, Try.ntmps47
  go_wp2_with fail
  refine (iNodes_c (rF.from_ B0)).mono ?_
  rintro e w' ⟨rfl, rfl⟩
  go_wp2_with fail
  refine (iClone_c (rF.from_ B0) (by omega)).mono ?_
  rintro e w1 ⟨v2, rfl, o_f, h_w1⟩
  clear c_p_0_wa f_p_0_wa c_p_1_wa f_p_1_wa c_p_2_wa f_p_2_wa c_p_3_wa f_p_3_wa c_p_4_wa f_p_4_wa c_r_0_wa f_r_0_wa c_r_1_wa f_r_1_wa c_r_2_wa f_r_2_wa c_r_3_wa f_r_3_wa c_r_4_wa f_r_4_wa
  replace x_p := x_p.from_ h_w1
  replace x_r := x_r.from_ h_w1
  have B_w1 := B0.trans (h_w1.mono B0.size)
  have s_w1 := h_w1.size
  obtain ⟨Af2, cf2, rfl, -, -, -⟩ := o_f.rd
  have c_p_0_w1 := x_p.cell (i := 0) rfl
  have f_p_0_w1 := x_p.frozen 0
  have c_p_1_w1 := x_p.cell (i := 1) rfl
  have f_p_1_w1 := x_p.frozen 1
  have c_p_2_w1 := x_p.cell (i := 2) rfl
  have f_p_2_w1 := x_p.frozen 2
  have c_p_3_w1 := x_p.cell (i := 3) rfl
  have f_p_3_w1 := x_p.frozen 3
  have c_p_4_w1 := x_p.cell (i := 4) rfl
  have f_p_4_w1 := x_p.frozen 4
  have c_r_0_w1 := x_r.cell (i := 0) rfl
  have f_r_0_w1 := x_r.frozen 0
  have c_r_1_w1 := x_r.cell (i := 1) rfl
  have f_r_1_w1 := x_r.frozen 1
  have c_r_2_w1 := x_r.cell (i := 2) rfl
  have f_r_2_w1 := x_r.frozen 2
  have c_r_3_w1 := x_r.cell (i := 3) rfl
  have f_r_3_w1 := x_r.frozen 3
  have c_r_4_w1 := x_r.cell (i := 4) rfl
  have f_r_4_w1 := x_r.frozen 4
  obtain ⟨w2, e_w2, s_w2, h_w2, y⟩ := set_step x_p 2 (.slice Af2 p.From.length cf2)
  have s_w2_1 := Nat.le_of_eq s_w2
  have s_w2_2 := Nat.le_of_eq s_w2.symm
  clear s_w2
  replace x_r := x_r.chg h_w2 (by omega)
  replace o_f := o_f.chg h_w2 (by omega)
  have B_w2 := Below.chg_ B_w1 h_w2 (by omega) (by omega)
  replace x_p : Vr w2 (w.heap.size) 26 [.int .i64 p.Bal, .int .i64 p.Val, .slice Af2 p.From.length cf2, .int .i64 p.Best, .slice AT p.Got.length cT] := y
  clear y
  have c_p_0_w2 := x_p.cell (i := 0) rfl
  have f_p_0_w2 := x_p.frozen 0
  have c_p_1_w2 := x_p.cell (i := 1) rfl
  have f_p_1_w2 := x_p.frozen 1
  have c_p_2_w2 := x_p.cell (i := 2) rfl
  have f_p_2_w2 := x_p.frozen 2
  have c_p_3_w2 := x_p.cell (i := 3) rfl
  have f_p_3_w2 := x_p.frozen 3
  have c_p_4_w2 := x_p.cell (i := 4) rfl
  have f_p_4_w2 := x_p.frozen 4
  have c_r_0_w2 := x_r.cell (i := 0) rfl
  have f_r_0_w2 := x_r.frozen 0
  have c_r_1_w2 := x_r.cell (i := 1) rfl
  have f_r_1_w2 := x_r.frozen 1
  have c_r_2_w2 := x_r.cell (i := 2) rfl
  have f_r_2_w2 := x_r.frozen 2
  have c_r_3_w2 := x_r.cell (i := 3) rfl
  have f_r_3_w2 := x_r.frozen 3
  have c_r_4_w2 := x_r.cell (i := 4) rfl
  have f_r_4_w2 := x_r.frozen 4
  go_wp2_with fail
  refine (iNodes_c (rT.from_ B_w2)).mono ?_
  rintro e w' ⟨rfl, rfl⟩
  go_wp2_with fail
  refine (iClone_c (rT.from_ B_w2) (by omega)).mono ?_
  rintro e w3 ⟨v2, rfl, o_t, h_w3⟩
  clear c_p_0_w1 f_p_0_w1 c_p_1_w1 f_p_1_w1 c_p_2_w1 f_p_2_w1 c_p_3_w1 f_p_3_w1 c_p_4_w1 f_p_4_w1 c_r_0_w1 f_r_0_w1 c_r_1_w1 f_r_1_w1 c_r_2_w1 f_r_2_w1 c_r_3_w1 f_r_3_w1 c_r_4_w1 f_r_4_w1 c_p_0_w2 f_p_0_w2 c_p_1_w2 f_p_1_w2 c_p_2_w2 f_p_2_w2 c_p_3_w2 f_p_3_w2 c_p_4_w2 f_p_4_w2 c_r_0_w2 f_r_0_w2 c_r_1_w2 f_r_1_w2 c_r_2_w2 f_r_2_w2 c_r_3_w2 f_r_3_w2 c_r_4_w2 f_r_4_w2
  replace x_p := x_p.from_ h_w3
  replace x_r := x_r.from_ h_w3
  replace o_f := o_f.below h_w3
  have B_w3 := B_w2.trans (h_w3.mono B_w2.size)
  have s_w3 := h_w3.size
  obtain ⟨At2, ct2, rfl, -, -, -⟩ := o_t.rd
  have c_p_0_w3 := x_p.cell (i := 0) rfl
  have f_p_0_w3 := x_p.frozen 0
  have c_p_1_w3 := x_p.cell (i := 1) rfl
  have f_p_1_w3 := x_p.frozen 1
  have c_p_2_w3 := x_p.cell (i := 2) rfl
  have f_p_2_w3 := x_p.frozen 2
  have c_p_3_w3 := x_p.cell (i := 3) rfl
  have f_p_3_w3 := x_p.frozen 3
  have c_p_4_w3 := x_p.cell (i := 4) rfl
  have f_p_4_w3 := x_p.frozen 4
  have c_r_0_w3 := x_r.cell (i := 0) rfl
  have f_r_0_w3 := x_r.frozen 0
  have c_r_1_w3 := x_r.cell (i := 1) rfl
  have f_r_1_w3 := x_r.frozen 1
  have c_r_2_w3 := x_r.cell (i := 2) rfl
  have f_r_2_w3 := x_r.frozen 2
  have c_r_3_w3 := x_r.cell (i := 3) rfl
  have f_r_3_w3 := x_r.frozen 3
  have c_r_4_w3 := x_r.cell (i := 4) rfl
  have f_r_4_w3 := x_r.frozen 4
  obtain ⟨w4, e_w4, s_w4, h_w4, y⟩ := set_step x_p 4 (.slice At2 p.Got.length ct2)
  have s_w4_1 := Nat.le_of_eq s_w4
  have s_w4_2 := Nat.le_of_eq s_w4.symm
  clear s_w4
  replace x_r := x_r.chg h_w4 (by omega)
  replace o_f := o_f.chg h_w4 (by omega)
  replace o_t := o_t.chg h_w4 (by omega)
  have B_w4 := Below.chg_ B_w3 h_w4 (by omega) (by omega)
  replace x_p : Vr w4 (w.heap.size) 26 [.int .i64 p.Bal, .int .i64 p.Val, .slice Af2 p.From.length cf2, .int .i64 p.Best, .slice At2 p.Got.length ct2] := y
  clear y
  have c_p_0_w4 := x_p.cell (i := 0) rfl
  have f_p_0_w4 := x_p.frozen 0
  have c_p_1_w4 := x_p.cell (i := 1) rfl
  have f_p_1_w4 := x_p.frozen 1
  have c_p_2_w4 := x_p.cell (i := 2) rfl
  have f_p_2_w4 := x_p.frozen 2
  have c_p_3_w4 := x_p.cell (i := 3) rfl
  have f_p_3_w4 := x_p.frozen 3
  have c_p_4_w4 := x_p.cell (i := 4) rfl
  have f_p_4_w4 := x_p.frozen 4
  have c_r_0_w4 := x_r.cell (i := 0) rfl
  have f_r_0_w4 := x_r.frozen 0
  have c_r_1_w4 := x_r.cell (i := 1) rfl
  have f_r_1_w4 := x_r.frozen 1
  have c_r_2_w4 := x_r.cell (i := 2) rfl
  have f_r_2_w4 := x_r.frozen 2
  have c_r_3_w4 := x_r.cell (i := 3) rfl
  have f_r_3_w4 := x_r.frozen 3
  have c_r_4_w4 := x_r.cell (i := 4) rfl
  have f_r_4_w4 := x_r.frozen 4
  obtain ⟨w5, e_w5, s_w5, h_w5, y⟩ := store_step x_r [.int .i64 p.Bal, .int .i64 p.Val, .slice Af2 p.From.length cf2, .int .i64 p.Best, .slice At2 p.Got.length ct2] rfl
  replace e_w5 : (((((w4.setCell ⟨w.heap.size + 1, 0, none⟩ (.int .i64 p.Bal)).setCell ⟨w.heap.size + 1, 1, none⟩ (.int .i64 p.Val)).setCell ⟨w.heap.size + 1, 2, none⟩ (.slice Af2 p.From.length cf2)).setCell ⟨w.heap.size + 1, 3, none⟩ (.int .i64 p.Best)).setCell ⟨w.heap.size + 1, 4, none⟩ (.slice At2 p.Got.length ct2)) = w5 := e_w5
  have s_w5_1 := Nat.le_of_eq s_w5
  have s_w5_2 := Nat.le_of_eq s_w5.symm
  clear s_w5
  replace x_p := x_p.chg h_w5 (by omega)
  replace o_f := o_f.chg h_w5 (by omega)
  replace o_t := o_t.chg h_w5 (by omega)
  have B_w5 := Below.chg_ B_w4 h_w5 (by omega) (by omega)
  replace x_r : Vr w5 (w.heap.size + 1) 26 [.int .i64 p.Bal, .int .i64 p.Val, .slice Af2 p.From.length cf2, .int .i64 p.Best, .slice At2 p.Got.length ct2] := y
  clear y
  have c_r_0_w5 := x_r.cell (i := 0) rfl
  have f_r_0_w5 := x_r.frozen 0
  have c_r_1_w5 := x_r.cell (i := 1) rfl
  have f_r_1_w5 := x_r.frozen 1
  have c_r_2_w5 := x_r.cell (i := 2) rfl
  have f_r_2_w5 := x_r.frozen 2
  have c_r_3_w5 := x_r.cell (i := 3) rfl
  have f_r_3_w5 := x_r.frozen 3
  have c_r_4_w5 := x_r.cell (i := 4) rfl
  have f_r_4_w5 := x_r.frozen 4
  go_wp2
  refine ret_cell (by rfl) (by rfl) x_r Try.underlying26 sz_prop (by rfl) ?_
  exact ⟨_, rfl, ov_prop (d := p) o_f o_t (by omega), B_w5⟩

end Go.Proofs.Ytaoedgcdcimibaa
