/- Votes: the contracts of impl.PropHear, PropGot, and the names that the laws' walks use. Laid by a program of ours (src/vti5.py). -/
import Derived.Test.YtaoedgcdcimibaaVtI4
namespace Go.Proofs.Ytaoedgcdcimibaa
open Go.RowKit
set_option linter.unusedVariables false

theorem iIsMost_c (k n : Int) (w : World) (hk : 0 ≤ k ∧ k ≤ 1099511627776) (hn : 0 ≤ n ∧ n ≤ 1000) : Calls Try.prog 27 #[.int .i64 k, .int .i64 n] w fun e w' => e = .returned (.bool (isMostB k n)) ∧ Below w.heap.size w w' :=
  (iIsMost_x k n w hk hn).mono (by rintro e w' ⟨rfl, rfl⟩; exact ⟨rfl, Below.refl _ _⟩)
theorem iPropOk_c {w : World} {v : Value} {p : MProp} (h : RV propL w v p) (hm : p.bulk ≤ 16777216) : Calls Try.prog 23 #[v] w fun e w' => e = .returned (.bool (propOkB p)) ∧ Below w.heap.size w w' := iPropOk_x h
theorem iPropReady_c {w : World} {v : Value} {p : MProp} {n : Int} (h : RV propL w v p) (hm : p.bulk ≤ 16777216) (hn : 0 ≤ n ∧ n ≤ 1000) : Calls Try.prog 17 #[v, .int .i64 n] w fun e w' => e = .returned (.bool (propReadyB p n)) ∧ Below w.heap.size w w' := iPropReady_x h hm hn
theorem iPropWon_c {w : World} {v : Value} {p : MProp} {n : Int} (h : RV propL w v p) (hm : p.bulk ≤ 16777216) (hn : 0 ≤ n ∧ n ≤ 1000) : Calls Try.prog 24 #[v, .int .i64 n] w fun e w' => e = .returned (.bool (propWonB p n)) ∧ Below w.heap.size w w' := iPropWon_x h hm hn

theorem propOk_rise {p : MProp} (h : propOkB p = true) : riseB p.From = true ∧ riseB p.Got = true := by
  unfold propOkB at h
  simp only [Bool.and_eq_true] at h
  exact ⟨h.2.2.1, h.2.2.2.1⟩
theorem hear_eq {p : MProp} {n b u : Int} : hearB p n b u = (propOkB p && (inB n 0 3 && (!hasI p.From n && promB p.Bal b u))) := rfl

set_option maxRecDepth 100000 in
set_option maxHeartbeats 4000000 in
theorem iPropGot_c {w : World} {v : Value} {p : MProp} {n : Int} (h : RV propL w v p) (hm : p.bulk ≤ 16777216) (hn : -9223372036854775808 ≤ n ∧ n ≤ 9223372036854775807) : Calls Try.prog 21 #[v, .int .i64 n] w (NewV propL w (propGot p n)) := by
  have h0 := h
  clear hn
  obtain ⟨AF, cF, AT, cT, rfl, rF, rT⟩ := rv_prop h
  clear h
  obtain ⟨wa, hwa, B0, sa, x_p, x_r⟩ := frame2 w 26 [.int .i64 p.Bal, .int .i64 p.Val, .slice AF p.From.length cF, .int .i64 p.Best, .slice AT p.Got.length cT] 26 [.int .i64 0, .int .i64 0, .slice none 0 0, .int .i64 0, .slice none 0 0]
  have sa_1 := Nat.le_of_eq sa
  have sa_2 := Nat.le_of_eq sa.symm
  clear sa
  have c_p_0_wa := x_p.cell (i := 0) rfl
  have f_p_0_wa := x_p.frozen 0
  have c_p_1_wa := x_p.cell (i := 1) rfl
  have f_p_1_wa := x_p.frozen 1
  have c_p_2_wa := x_p.cell (i := 2) rfl
  have f_p_2_wa := x_p.frozen 2
  have c_p_3_wa := x_p.cell (i := 3) rfl
  have f_p_3_wa := x_p.frozen 3
  have c_p_4_wa := x_p.cell (i := 4) rfl
  have f_p_4_wa := x_p.frozen 4
  have c_r_0_wa := x_r.cell (i := 0) rfl
  have f_r_0_wa := x_r.frozen 0
  have c_r_1_wa := x_r.cell (i := 1) rfl
  have f_r_1_wa := x_r.frozen 1
  have c_r_2_wa := x_r.cell (i := 2) rfl
  have f_r_2_wa := x_r.frozen 2
  have c_r_3_wa := x_r.cell (i := 3) rfl
  have f_r_3_wa := x_r.frozen 3
  have c_r_4_wa := x_r.cell (i := 4) rfl
  have f_r_4_wa := x_r.frozen 4
  by_cases hK : propOkB p = true
  case neg =>
    replace hK : propOkB p = false := by simpa using hK
    have HK := Lib.hid hK
    have HB9 : Hid (gotB p n = false) := by show _ = _; unfold gotB; rw [hK]; simp
    have HM : Hid (propGot p n = p) := if_neg (by rw [HB9.out]; decide)
    clear hK
    go_enter Try.func21, Try.ntmps21
    go_wp2_with fail
    refine (iCloneProp_c (h0.from_ B0) hm).mono ?_
    rintro e w1 ⟨u_, rfl, ou, h_w1⟩
    clear c_p_0_wa f_p_0_wa c_p_1_wa f_p_1_wa c_p_2_wa f_p_2_wa c_p_3_wa f_p_3_wa c_p_4_wa f_p_4_wa c_r_0_wa f_r_0_wa c_r_1_wa f_r_1_wa c_r_2_wa f_r_2_wa c_r_3_wa f_r_3_wa c_r_4_wa f_r_4_wa
    replace x_p := x_p.from_ h_w1
    replace x_r := x_r.from_ h_w1
    have B_w1 := B0.trans (h_w1.mono B0.size)
    have s_w1 := h_w1.size
    obtain ⟨A1, c1, A2, c2, rfl, oF, oT⟩ := ov_prop_parts ou
    have c_p_0_w1 := x_p.cell (i := 0) rfl
    have f_p_0_w1 := x_p.frozen 0
    have c_p_1_w1 := x_p.cell (i := 1) rfl
    have f_p_1_w1 := x_p.frozen 1
    have c_p_2_w1 := x_p.cell (i := 2) rfl
    have f_p_2_w1 := x_p.frozen 2
    have c_p_3_w1 := x_p.cell (i := 3) rfl
    have f_p_3_w1 := x_p.frozen 3
    have c_p_4_w1 := x_p.cell (i := 4) rfl
    have f_p_4_w1 := x_p.frozen 4
    have c_r_0_w1 := x_r.cell (i := 0) rfl
    have f_r_0_w1 := x_r.frozen 0
    have c_r_1_w1 := x_r.cell (i := 1) rfl
    have f_r_1_w1 := x_r.frozen 1
    have c_r_2_w1 := x_r.cell (i := 2) rfl
    have f_r_2_w1 := x_r.frozen 2
    have c_r_3_w1 := x_r.cell (i := 3) rfl
    have f_r_3_w1 := x_r.frozen 3
    have c_r_4_w1 := x_r.cell (i := 4) rfl
    have f_r_4_w1 := x_r.frozen 4
    obtain ⟨w2, e_w2, s_w2, h_w2, x_o⟩ := alloc_step w1 26 [.int .i64 p.Bal, .int .i64 p.Val, .slice A1 p.From.length c1, .int .i64 p.Best, .slice A2 p.Got.length c2]
    have s_w2_1 := Nat.le_of_eq s_w2
    have s_w2_2 := Nat.le_of_eq s_w2.symm
    clear s_w2
    replace x_p := x_p.from_ h_w2
    replace x_r := x_r.from_ h_w2
    replace ou := ou.below h_w2
    replace oF := oF.below h_w2
    replace oT := oT.below h_w2
    have B_w2 := B_w1.trans (h_w2.mono B_w1.size)
    have c_p_0_w2 := x_p.cell (i := 0) rfl
    have f_p_0_w2 := x_p.frozen 0
    have c_p_1_w2 := x_p.cell (i := 1) rfl
    have f_p_1_w2 := x_p.frozen 1
    have c_p_2_w2 := x_p.cell (i := 2) rfl
    have f_p_2_w2 := x_p.frozen 2
    have c_p_3_w2 := x_p.cell (i := 3) rfl
    have f_p_3_w2 := x_p.frozen 3
    have c_p_4_w2 := x_p.cell (i := 4) rfl
    have f_p_4_w2 := x_p.frozen 4
    have c_r_0_w2 := x_r.cell (i := 0) rfl
    have f_r_0_w2 := x_r.frozen 0
    have c_r_1_w2 := x_r.cell (i := 1) rfl
    have f_r_1_w2 := x_r.frozen 1
    have c_r_2_w2 := x_r.cell (i := 2) rfl
    have f_r_2_w2 := x_r.frozen 2
    have c_r_3_w2 := x_r.cell (i := 3) rfl
    have f_r_3_w2 := x_r.frozen 3
    have c_r_4_w2 := x_r.cell (i := 4) rfl
    have f_r_4_w2 := x_r.frozen 4
    have c_o_0_w2 := x_o.cell (i := 0) rfl
    have f_o_0_w2 := x_o.frozen 0
    have c_o_1_w2 := x_o.cell (i := 1) rfl
    have f_o_1_w2 := x_o.frozen 1
    have c_o_2_w2 := x_o.cell (i := 2) rfl
    have f_o_2_w2 := x_o.frozen 2
    have c_o_3_w2 := x_o.cell (i := 3) rfl
    have f_o_3_w2 := x_o.frozen 3
    have c_o_4_w2 := x_o.cell (i := 4) rfl
    have f_o_4_w2 := x_o.frozen 4
    go_wp2_with fail
    refine (iPropOk_x (h0.from_ B_w2)).mono ?_
    rintro e w3 ⟨rfl, h_w3⟩
    clear c_p_0_w1 f_p_0_w1 c_p_1_w1 f_p_1_w1 c_p_2_w1 f_p_2_w1 c_p_3_w1 f_p_3_w1 c_p_4_w1 f_p_4_w1 c_r_0_w1 f_r_0_w1 c_r_1_w1 f_r_1_w1 c_r_2_w1 f_r_2_w1 c_r_3_w1 f_r_3_w1 c_r_4_w1 f_r_4_w1 c_p_0_w2 f_p_0_w2 c_p_1_w2 f_p_1_w2 c_p_2_w2 f_p_2_w2 c_p_3_w2 f_p_3_w2 c_p_4_w2 f_p_4_w2 c_r_0_w2 f_r_0_w2 c_r_1_w2 f_r_1_w2 c_r_2_w2 f_r_2_w2 c_r_3_w2 f_r_3_w2 c_r_4_w2 f_r_4_w2 c_o_0_w2 f_o_0_w2 c_o_1_w2 f_o_1_w2 c_o_2_w2 f_o_2_w2 c_o_3_w2 f_o_3_w2 c_o_4_w2 f_o_4_w2
    replace x_p := x_p.from_ h_w3
    replace x_r := x_r.from_ h_w3
    replace x_o := x_o.from_ h_w3
    replace ou := ou.below h_w3
    replace oF := oF.below h_w3
    replace oT := oT.below h_w3
    have B_w3 := B_w2.trans (h_w3.mono B_w2.size)
    have s_w3 := h_w3.size
    rw [HK.out]
    have c_p_0_w3 := x_p.cell (i := 0) rfl
    have f_p_0_w3 := x_p.frozen 0
    have c_p_1_w3 := x_p.cell (i := 1) rfl
    have f_p_1_w3 := x_p.frozen 1
    have c_p_2_w3 := x_p.cell (i := 2) rfl
    have f_p_2_w3 := x_p.frozen 2
    have c_p_3_w3 := x_p.cell (i := 3) rfl
    have f_p_3_w3 := x_p.frozen 3
    have c_p_4_w3 := x_p.cell (i := 4) rfl
    have f_p_4_w3 := x_p.frozen 4
    have c_r_0_w3 := x_r.cell (i := 0) rfl
    have f_r_0_w3 := x_r.frozen 0
    have c_r_1_w3 := x_r.cell (i := 1) rfl
    have f_r_1_w3 := x_r.frozen 1
    have c_r_2_w3 := x_r.cell (i := 2) rfl
    have f_r_2_w3 := x_r.frozen 2
    have c_r_3_w3 := x_r.cell (i := 3) rfl
    have f_r_3_w3 := x_r.frozen 3
    have c_r_4_w3 := x_r.cell (i := 4) rfl
    have f_r_4_w3 := x_r.frozen 4
    have c_o_0_w3 := x_o.cell (i := 0) rfl
    have f_o_0_w3 := x_o.frozen 0
    have c_o_1_w3 := x_o.cell (i := 1) rfl
    have f_o_1_w3 := x_o.frozen 1
    have c_o_2_w3 := x_o.cell (i := 2) rfl
    have f_o_2_w3 := x_o.frozen 2
    have c_o_3_w3 := x_o.cell (i := 3) rfl
    have f_o_3_w3 := x_o.frozen 3
    have c_o_4_w3 := x_o.cell (i := 4) rfl
    have f_o_4_w3 := x_o.frozen 4
    obtain ⟨w4, e_w4, s_w4, h_w4, y⟩ := store_step x_r [.int .i64 p.Bal, .int .i64 p.Val, .slice A1 p.From.length c1, .int .i64 p.Best, .slice A2 p.Got.length c2] rfl
    replace e_w4 : (((((w3.setCell ⟨w.heap.size + 1, 0, none⟩ (.int .i64 p.Bal)).setCell ⟨w.heap.size + 1, 1, none⟩ (.int .i64 p.Val)).setCell ⟨w.heap.size + 1, 2, none⟩ (.slice A1 p.From.length c1)).setCell ⟨w.heap.size + 1, 3, none⟩ (.int .i64 p.Best)).setCell ⟨w.heap.size + 1, 4, none⟩ (.slice A2 p.Got.length c2)) = w4 := e_w4
    have s_w4_1 := Nat.le_of_eq s_w4
    have s_w4_2 := Nat.le_of_eq s_w4.symm
    clear s_w4
    replace x_p := x_p.chg h_w4 (by omega)
    replace x_o := x_o.chg h_w4 (by omega)
    replace ou := ou.chg h_w4 (by omega)
    replace oF := oF.chg h_w4 (by omega)
    replace oT := oT.chg h_w4 (by omega)
    have B_w4 := Below.chg_ B_w3 h_w4 (by omega) (by omega)
    replace x_r : Vr w4 (w.heap.size + 1) 26 [.int .i64 p.Bal, .int .i64 p.Val, .slice A1 p.From.length c1, .int .i64 p.Best, .slice A2 p.Got.length c2] := y
    clear y
    have c_r_0_w4 := x_r.cell (i := 0) rfl
    have f_r_0_w4 := x_r.frozen 0
    have c_r_1_w4 := x_r.cell (i := 1) rfl
    have f_r_1_w4 := x_r.frozen 1
    have c_r_2_w4 := x_r.cell (i := 2) rfl
    have f_r_2_w4 := x_r.frozen 2
    have c_r_3_w4 := x_r.cell (i := 3) rfl
    have f_r_3_w4 := x_r.frozen 3
    have c_r_4_w4 := x_r.cell (i := 4) rfl
    have f_r_4_w4 := x_r.frozen 4
    go_wp2
    refine ret_cell (by rfl) (by rfl) x_r Try.underlying26 sz_prop (by rfl) ?_
    rw [HM.out]
    exact ⟨_, rfl, ou.widen (by omega) (by omega) (Nat.le_refl _), B_w4⟩
  have HK := Lib.hid hK
  by_cases hN : inB n 0 3 = true
  case neg =>
    replace hN : inB n 0 3 = false := by simpa using hN
    have HN := Lib.hid hN
    have HB9 : Hid (gotB p n = false) := by show _ = _; unfold gotB; rw [hN]; simp
    have HM : Hid (propGot p n = p) := if_neg (by rw [HB9.out]; decide)
    clear hK hN
    have HR : Hid (riseB p.From = true) := (propOk_rise HK.out).1
    go_enter Try.func21, Try.ntmps21
    go_wp2_with fail
    refine (iCloneProp_c (h0.from_ B0) hm).mono ?_
    rintro e w1 ⟨u_, rfl, ou, h_w1⟩
    clear c_p_0_wa f_p_0_wa c_p_1_wa f_p_1_wa c_p_2_wa f_p_2_wa c_p_3_wa f_p_3_wa c_p_4_wa f_p_4_wa c_r_0_wa f_r_0_wa c_r_1_wa f_r_1_wa c_r_2_wa f_r_2_wa c_r_3_wa f_r_3_wa c_r_4_wa f_r_4_wa
    replace x_p := x_p.from_ h_w1
    replace x_r := x_r.from_ h_w1
    have B_w1 := B0.trans (h_w1.mono B0.size)
    have s_w1 := h_w1.size
    obtain ⟨A1, c1, A2, c2, rfl, oF, oT⟩ := ov_prop_parts ou
    have c_p_0_w1 := x_p.cell (i := 0) rfl
    have f_p_0_w1 := x_p.frozen 0
    have c_p_1_w1 := x_p.cell (i := 1) rfl
    have f_p_1_w1 := x_p.frozen 1
    have c_p_2_w1 := x_p.cell (i := 2) rfl
    have f_p_2_w1 := x_p.frozen 2
    have c_p_3_w1 := x_p.cell (i := 3) rfl
    have f_p_3_w1 := x_p.frozen 3
    have c_p_4_w1 := x_p.cell (i := 4) rfl
    have f_p_4_w1 := x_p.frozen 4
    have c_r_0_w1 := x_r.cell (i := 0) rfl
    have f_r_0_w1 := x_r.frozen 0
    have c_r_1_w1 := x_r.cell (i := 1) rfl
    have f_r_1_w1 := x_r.frozen 1
    have c_r_2_w1 := x_r.cell (i := 2) rfl
    have f_r_2_w1 := x_r.frozen 2
    have c_r_3_w1 := x_r.cell (i := 3) rfl
    have f_r_3_w1 := x_r.frozen 3
    have c_r_4_w1 := x_r.cell (i := 4) rfl
    have f_r_4_w1 := x_r.frozen 4
    obtain ⟨w2, e_w2, s_w2, h_w2, x_o⟩ := alloc_step w1 26 [.int .i64 p.Bal, .int .i64 p.Val, .slice A1 p.From.length c1, .int .i64 p.Best, .slice A2 p.Got.length c2]
    have s_w2_1 := Nat.le_of_eq s_w2
    have s_w2_2 := Nat.le_of_eq s_w2.symm
    clear s_w2
    replace x_p := x_p.from_ h_w2
    replace x_r := x_r.from_ h_w2
    replace ou := ou.below h_w2
    replace oF := oF.below h_w2
    replace oT := oT.below h_w2
    have B_w2 := B_w1.trans (h_w2.mono B_w1.size)
    have c_p_0_w2 := x_p.cell (i := 0) rfl
    have f_p_0_w2 := x_p.frozen 0
    have c_p_1_w2 := x_p.cell (i := 1) rfl
    have f_p_1_w2 := x_p.frozen 1
    have c_p_2_w2 := x_p.cell (i := 2) rfl
    have f_p_2_w2 := x_p.frozen 2
    have c_p_3_w2 := x_p.cell (i := 3) rfl
    have f_p_3_w2 := x_p.frozen 3
    have c_p_4_w2 := x_p.cell (i := 4) rfl
    have f_p_4_w2 := x_p.frozen 4
    have c_r_0_w2 := x_r.cell (i := 0) rfl
    have f_r_0_w2 := x_r.frozen 0
    have c_r_1_w2 := x_r.cell (i := 1) rfl
    have f_r_1_w2 := x_r.frozen 1
    have c_r_2_w2 := x_r.cell (i := 2) rfl
    have f_r_2_w2 := x_r.frozen 2
    have c_r_3_w2 := x_r.cell (i := 3) rfl
    have f_r_3_w2 := x_r.frozen 3
    have c_r_4_w2 := x_r.cell (i := 4) rfl
    have f_r_4_w2 := x_r.frozen 4
    have c_o_0_w2 := x_o.cell (i := 0) rfl
    have f_o_0_w2 := x_o.frozen 0
    have c_o_1_w2 := x_o.cell (i := 1) rfl
    have f_o_1_w2 := x_o.frozen 1
    have c_o_2_w2 := x_o.cell (i := 2) rfl
    have f_o_2_w2 := x_o.frozen 2
    have c_o_3_w2 := x_o.cell (i := 3) rfl
    have f_o_3_w2 := x_o.frozen 3
    have c_o_4_w2 := x_o.cell (i := 4) rfl
    have f_o_4_w2 := x_o.frozen 4
    go_wp2_with fail
    refine (iPropOk_x (h0.from_ B_w2)).mono ?_
    rintro e w3 ⟨rfl, h_w3⟩
    clear c_p_0_w1 f_p_0_w1 c_p_1_w1 f_p_1_w1 c_p_2_w1 f_p_2_w1 c_p_3_w1 f_p_3_w1 c_p_4_w1 f_p_4_w1 c_r_0_w1 f_r_0_w1 c_r_1_w1 f_r_1_w1 c_r_2_w1 f_r_2_w1 c_r_3_w1 f_r_3_w1 c_r_4_w1 f_r_4_w1 c_p_0_w2 f_p_0_w2 c_p_1_w2 f_p_1_w2 c_p_2_w2 f_p_2_w2 c_p_3_w2 f_p_3_w2 c_p_4_w2 f_p_4_w2 c_r_0_w2 f_r_0_w2 c_r_1_w2 f_r_1_w2 c_r_2_w2 f_r_2_w2 c_r_3_w2 f_r_3_w2 c_r_4_w2 f_r_4_w2 c_o_0_w2 f_o_0_w2 c_o_1_w2 f_o_1_w2 c_o_2_w2 f_o_2_w2 c_o_3_w2 f_o_3_w2 c_o_4_w2 f_o_4_w2
    replace x_p := x_p.from_ h_w3
    replace x_r := x_r.from_ h_w3
    replace x_o := x_o.from_ h_w3
    replace ou := ou.below h_w3
    replace oF := oF.below h_w3
    replace oT := oT.below h_w3
    have B_w3 := B_w2.trans (h_w3.mono B_w2.size)
    have s_w3 := h_w3.size
    rw [HK.out]
    have c_p_0_w3 := x_p.cell (i := 0) rfl
    have f_p_0_w3 := x_p.frozen 0
    have c_p_1_w3 := x_p.cell (i := 1) rfl
    have f_p_1_w3 := x_p.frozen 1
    have c_p_2_w3 := x_p.cell (i := 2) rfl
    have f_p_2_w3 := x_p.frozen 2
    have c_p_3_w3 := x_p.cell (i := 3) rfl
    have f_p_3_w3 := x_p.frozen 3
    have c_p_4_w3 := x_p.cell (i := 4) rfl
    have f_p_4_w3 := x_p.frozen 4
    have c_r_0_w3 := x_r.cell (i := 0) rfl
    have f_r_0_w3 := x_r.frozen 0
    have c_r_1_w3 := x_r.cell (i := 1) rfl
    have f_r_1_w3 := x_r.frozen 1
    have c_r_2_w3 := x_r.cell (i := 2) rfl
    have f_r_2_w3 := x_r.frozen 2
    have c_r_3_w3 := x_r.cell (i := 3) rfl
    have f_r_3_w3 := x_r.frozen 3
    have c_r_4_w3 := x_r.cell (i := 4) rfl
    have f_r_4_w3 := x_r.frozen 4
    have c_o_0_w3 := x_o.cell (i := 0) rfl
    have f_o_0_w3 := x_o.frozen 0
    have c_o_1_w3 := x_o.cell (i := 1) rfl
    have f_o_1_w3 := x_o.frozen 1
    have c_o_2_w3 := x_o.cell (i := 2) rfl
    have f_o_2_w3 := x_o.frozen 2
    have c_o_3_w3 := x_o.cell (i := 3) rfl
    have f_o_3_w3 := x_o.frozen 3
    have c_o_4_w3 := x_o.cell (i := 4) rfl
    have f_o_4_w3 := x_o.frozen 4
    go_wp2_with fail
    refine (iNode_any _ _).mono ?_
    rintro e w' ⟨rfl, rfl⟩
    rw [HN.out]
    obtain ⟨w4, e_w4, s_w4, h_w4, y⟩ := store_step x_r [.int .i64 p.Bal, .int .i64 p.Val, .slice A1 p.From.length c1, .int .i64 p.Best, .slice A2 p.Got.length c2] rfl
    replace e_w4 : (((((w3.setCell ⟨w.heap.size + 1, 0, none⟩ (.int .i64 p.Bal)).setCell ⟨w.heap.size + 1, 1, none⟩ (.int .i64 p.Val)).setCell ⟨w.heap.size + 1, 2, none⟩ (.slice A1 p.From.length c1)).setCell ⟨w.heap.size + 1, 3, none⟩ (.int .i64 p.Best)).setCell ⟨w.heap.size + 1, 4, none⟩ (.slice A2 p.Got.length c2)) = w4 := e_w4
    have s_w4_1 := Nat.le_of_eq s_w4
    have s_w4_2 := Nat.le_of_eq s_w4.symm
    clear s_w4
    replace x_p := x_p.chg h_w4 (by omega)
    replace x_o := x_o.chg h_w4 (by omega)
    replace ou := ou.chg h_w4 (by omega)
    replace oF := oF.chg h_w4 (by omega)
    replace oT := oT.chg h_w4 (by omega)
    have B_w4 := Below.chg_ B_w3 h_w4 (by omega) (by omega)
    replace x_r : Vr w4 (w.heap.size + 1) 26 [.int .i64 p.Bal, .int .i64 p.Val, .slice A1 p.From.length c1, .int .i64 p.Best, .slice A2 p.Got.length c2] := y
    clear y
    have c_r_0_w4 := x_r.cell (i := 0) rfl
    have f_r_0_w4 := x_r.frozen 0
    have c_r_1_w4 := x_r.cell (i := 1) rfl
    have f_r_1_w4 := x_r.frozen 1
    have c_r_2_w4 := x_r.cell (i := 2) rfl
    have f_r_2_w4 := x_r.frozen 2
    have c_r_3_w4 := x_r.cell (i := 3) rfl
    have f_r_3_w4 := x_r.frozen 3
    have c_r_4_w4 := x_r.cell (i := 4) rfl
    have f_r_4_w4 := x_r.frozen 4
    go_wp2
    refine ret_cell (by rfl) (by rfl) x_r Try.underlying26 sz_prop (by rfl) ?_
    rw [HM.out]
    exact ⟨_, rfl, ou.widen (by omega) (by omega) (Nat.le_refl _), B_w4⟩
  have HN := Lib.hid hN
  have HR : Hid (riseB p.From = true) := (propOk_rise HK.out).1
  have HT : Hid (riseB p.Got = true) := (propOk_rise HK.out).2
  by_cases hH : hasI p.Got n = true
  case pos =>
    have HH := Lib.hid hH
    have HB9 : Hid (gotB p n = false) := by show _ = _; unfold gotB; rw [hH]; simp
    obtain ⟨G, hG⟩ : ∃ G, p.Got = G := ⟨_, rfl⟩
    have HM : Hid (propGot p n = ⟨p.Bal, p.Val, p.From, p.Best, G⟩) := by show _ = _; rw [← hG]; exact if_neg (by rw [HB9.out]; decide)
    have HG := Lib.hid hG
    clear hG
    clear hK hN hH
    go_enter Try.func21, Try.ntmps21
    go_wp2_with fail
    refine (iCloneProp_c (h0.from_ B0) hm).mono ?_
    rintro e w1 ⟨u_, rfl, ou, h_w1⟩
    clear c_p_0_wa f_p_0_wa c_p_1_wa f_p_1_wa c_p_2_wa f_p_2_wa c_p_3_wa f_p_3_wa c_p_4_wa f_p_4_wa c_r_0_wa f_r_0_wa c_r_1_wa f_r_1_wa c_r_2_wa f_r_2_wa c_r_3_wa f_r_3_wa c_r_4_wa f_r_4_wa
    replace x_p := x_p.from_ h_w1
    replace x_r := x_r.from_ h_w1
    have B_w1 := B0.trans (h_w1.mono B0.size)
    have s_w1 := h_w1.size
    obtain ⟨A1, c1, A2, c2, rfl, oF, oT⟩ := ov_prop_parts ou
    have c_p_0_w1 := x_p.cell (i := 0) rfl
    have f_p_0_w1 := x_p.frozen 0
    have c_p_1_w1 := x_p.cell (i := 1) rfl
    have f_p_1_w1 := x_p.frozen 1
    have c_p_2_w1 := x_p.cell (i := 2) rfl
    have f_p_2_w1 := x_p.frozen 2
    have c_p_3_w1 := x_p.cell (i := 3) rfl
    have f_p_3_w1 := x_p.frozen 3
    have c_p_4_w1 := x_p.cell (i := 4) rfl
    have f_p_4_w1 := x_p.frozen 4
    have c_r_0_w1 := x_r.cell (i := 0) rfl
    have f_r_0_w1 := x_r.frozen 0
    have c_r_1_w1 := x_r.cell (i := 1) rfl
    have f_r_1_w1 := x_r.frozen 1
    have c_r_2_w1 := x_r.cell (i := 2) rfl
    have f_r_2_w1 := x_r.frozen 2
    have c_r_3_w1 := x_r.cell (i := 3) rfl
    have f_r_3_w1 := x_r.frozen 3
    have c_r_4_w1 := x_r.cell (i := 4) rfl
    have f_r_4_w1 := x_r.frozen 4
    obtain ⟨w2, e_w2, s_w2, h_w2, x_o⟩ := alloc_step w1 26 [.int .i64 p.Bal, .int .i64 p.Val, .slice A1 p.From.length c1, .int .i64 p.Best, .slice A2 p.Got.length c2]
    have s_w2_1 := Nat.le_of_eq s_w2
    have s_w2_2 := Nat.le_of_eq s_w2.symm
    clear s_w2
    replace x_p := x_p.from_ h_w2
    replace x_r := x_r.from_ h_w2
    replace ou := ou.below h_w2
    replace oF := oF.below h_w2
    replace oT := oT.below h_w2
    have B_w2 := B_w1.trans (h_w2.mono B_w1.size)
    have c_p_0_w2 := x_p.cell (i := 0) rfl
    have f_p_0_w2 := x_p.frozen 0
    have c_p_1_w2 := x_p.cell (i := 1) rfl
    have f_p_1_w2 := x_p.frozen 1
    have c_p_2_w2 := x_p.cell (i := 2) rfl
    have f_p_2_w2 := x_p.frozen 2
    have c_p_3_w2 := x_p.cell (i := 3) rfl
    have f_p_3_w2 := x_p.frozen 3
    have c_p_4_w2 := x_p.cell (i := 4) rfl
    have f_p_4_w2 := x_p.frozen 4
    have c_r_0_w2 := x_r.cell (i := 0) rfl
    have f_r_0_w2 := x_r.frozen 0
    have c_r_1_w2 := x_r.cell (i := 1) rfl
    have f_r_1_w2 := x_r.frozen 1
    have c_r_2_w2 := x_r.cell (i := 2) rfl
    have f_r_2_w2 := x_r.frozen 2
    have c_r_3_w2 := x_r.cell (i := 3) rfl
    have f_r_3_w2 := x_r.frozen 3
    have c_r_4_w2 := x_r.cell (i := 4) rfl
    have f_r_4_w2 := x_r.frozen 4
    have c_o_0_w2 := x_o.cell (i := 0) rfl
    have f_o_0_w2 := x_o.frozen 0
    have c_o_1_w2 := x_o.cell (i := 1) rfl
    have f_o_1_w2 := x_o.frozen 1
    have c_o_2_w2 := x_o.cell (i := 2) rfl
    have f_o_2_w2 := x_o.frozen 2
    have c_o_3_w2 := x_o.cell (i := 3) rfl
    have f_o_3_w2 := x_o.frozen 3
    have c_o_4_w2 := x_o.cell (i := 4) rfl
    have f_o_4_w2 := x_o.frozen 4
    go_wp2_with fail
    refine (iPropOk_x (h0.from_ B_w2)).mono ?_
    rintro e w3 ⟨rfl, h_w3⟩
    clear c_p_0_w1 f_p_0_w1 c_p_1_w1 f_p_1_w1 c_p_2_w1 f_p_2_w1 c_p_3_w1 f_p_3_w1 c_p_4_w1 f_p_4_w1 c_r_0_w1 f_r_0_w1 c_r_1_w1 f_r_1_w1 c_r_2_w1 f_r_2_w1 c_r_3_w1 f_r_3_w1 c_r_4_w1 f_r_4_w1 c_p_0_w2 f_p_0_w2 c_p_1_w2 f_p_1_w2 c_p_2_w2 f_p_2_w2 c_p_3_w2 f_p_3_w2 c_p_4_w2 f_p_4_w2 c_r_0_w2 f_r_0_w2 c_r_1_w2 f_r_1_w2 c_r_2_w2 f_r_2_w2 c_r_3_w2 f_r_3_w2 c_r_4_w2 f_r_4_w2 c_o_0_w2 f_o_0_w2 c_o_1_w2 f_o_1_w2 c_o_2_w2 f_o_2_w2 c_o_3_w2 f_o_3_w2 c_o_4_w2 f_o_4_w2
    replace x_p := x_p.from_ h_w3
    replace x_r := x_r.from_ h_w3
    replace x_o := x_o.from_ h_w3
    replace ou := ou.below h_w3
    replace oF := oF.below h_w3
    replace oT := oT.below h_w3
    have B_w3 := B_w2.trans (h_w3.mono B_w2.size)
    have s_w3 := h_w3.size
    rw [HK.out]
    have c_p_0_w3 := x_p.cell (i := 0) rfl
    have f_p_0_w3 := x_p.frozen 0
    have c_p_1_w3 := x_p.cell (i := 1) rfl
    have f_p_1_w3 := x_p.frozen 1
    have c_p_2_w3 := x_p.cell (i := 2) rfl
    have f_p_2_w3 := x_p.frozen 2
    have c_p_3_w3 := x_p.cell (i := 3) rfl
    have f_p_3_w3 := x_p.frozen 3
    have c_p_4_w3 := x_p.cell (i := 4) rfl
    have f_p_4_w3 := x_p.frozen 4
    have c_r_0_w3 := x_r.cell (i := 0) rfl
    have f_r_0_w3 := x_r.frozen 0
    have c_r_1_w3 := x_r.cell (i := 1) rfl
    have f_r_1_w3 := x_r.frozen 1
    have c_r_2_w3 := x_r.cell (i := 2) rfl
    have f_r_2_w3 := x_r.frozen 2
    have c_r_3_w3 := x_r.cell (i := 3) rfl
    have f_r_3_w3 := x_r.frozen 3
    have c_r_4_w3 := x_r.cell (i := 4) rfl
    have f_r_4_w3 := x_r.frozen 4
    have c_o_0_w3 := x_o.cell (i := 0) rfl
    have f_o_0_w3 := x_o.frozen 0
    have c_o_1_w3 := x_o.cell (i := 1) rfl
    have f_o_1_w3 := x_o.frozen 1
    have c_o_2_w3 := x_o.cell (i := 2) rfl
    have f_o_2_w3 := x_o.frozen 2
    have c_o_3_w3 := x_o.cell (i := 3) rfl
    have f_o_3_w3 := x_o.frozen 3
    have c_o_4_w3 := x_o.cell (i := 4) rfl
    have f_o_4_w3 := x_o.frozen 4
    go_wp2_with fail
    refine (iNode_any _ _).mono ?_
    rintro e w' ⟨rfl, rfl⟩
    rw [HN.out]
    go_wp2_with fail
    refine (iNodes_c (rT.from_ B_w3)).mono ?_
    rintro e w' ⟨rfl, rfl⟩
    go_wp2_with fail
    refine (iWith_has (n := n) (rT.from_ B_w3) HT.out HH.out).mono ?_
    rintro e w4 ⟨v2, rfl, o_g, h_w4⟩
    clear c_p_0_w3 f_p_0_w3 c_p_1_w3 f_p_1_w3 c_p_2_w3 f_p_2_w3 c_p_3_w3 f_p_3_w3 c_p_4_w3 f_p_4_w3 c_r_0_w3 f_r_0_w3 c_r_1_w3 f_r_1_w3 c_r_2_w3 f_r_2_w3 c_r_3_w3 f_r_3_w3 c_r_4_w3 f_r_4_w3 c_o_0_w3 f_o_0_w3 c_o_1_w3 f_o_1_w3 c_o_2_w3 f_o_2_w3 c_o_3_w3 f_o_3_w3 c_o_4_w3 f_o_4_w3
    replace x_p := x_p.from_ h_w4
    replace x_r := x_r.from_ h_w4
    replace x_o := x_o.from_ h_w4
    replace ou := ou.below h_w4
    replace oF := oF.below h_w4
    replace oT := oT.below h_w4
    have B_w4 := B_w3.trans (h_w4.mono B_w3.size)
    have s_w4 := h_w4.size
    rw [HG.out] at o_g
    obtain ⟨Ag, cg, rfl, -, -, -⟩ := o_g.rd
    have c_p_0_w4 := x_p.cell (i := 0) rfl
    have f_p_0_w4 := x_p.frozen 0
    have c_p_1_w4 := x_p.cell (i := 1) rfl
    have f_p_1_w4 := x_p.frozen 1
    have c_p_2_w4 := x_p.cell (i := 2) rfl
    have f_p_2_w4 := x_p.frozen 2
    have c_p_3_w4 := x_p.cell (i := 3) rfl
    have f_p_3_w4 := x_p.frozen 3
    have c_p_4_w4 := x_p.cell (i := 4) rfl
    have f_p_4_w4 := x_p.frozen 4
    have c_r_0_w4 := x_r.cell (i := 0) rfl
    have f_r_0_w4 := x_r.frozen 0
    have c_r_1_w4 := x_r.cell (i := 1) rfl
    have f_r_1_w4 := x_r.frozen 1
    have c_r_2_w4 := x_r.cell (i := 2) rfl
    have f_r_2_w4 := x_r.frozen 2
    have c_r_3_w4 := x_r.cell (i := 3) rfl
    have f_r_3_w4 := x_r.frozen 3
    have c_r_4_w4 := x_r.cell (i := 4) rfl
    have f_r_4_w4 := x_r.frozen 4
    have c_o_0_w4 := x_o.cell (i := 0) rfl
    have f_o_0_w4 := x_o.frozen 0
    have c_o_1_w4 := x_o.cell (i := 1) rfl
    have f_o_1_w4 := x_o.frozen 1
    have c_o_2_w4 := x_o.cell (i := 2) rfl
    have f_o_2_w4 := x_o.frozen 2
    have c_o_3_w4 := x_o.cell (i := 3) rfl
    have f_o_3_w4 := x_o.frozen 3
    have c_o_4_w4 := x_o.cell (i := 4) rfl
    have f_o_4_w4 := x_o.frozen 4
    obtain ⟨w5, e_w5, s_w5, h_w5, y⟩ := set_step x_o 4 (.slice Ag G.length cg)
    have s_w5_1 := Nat.le_of_eq s_w5
    have s_w5_2 := Nat.le_of_eq s_w5.symm
    clear s_w5
    replace x_p := x_p.chg h_w5 (by omega)
    replace x_r := x_r.chg h_w5 (by omega)
    replace ou := ou.chg h_w5 (by omega)
    replace oF := oF.chg h_w5 (by omega)
    replace oT := oT.chg h_w5 (by omega)
    replace o_g := o_g.chg h_w5 (by omega)
    have B_w5 := Below.chg_ B_w4 h_w5 (by omega) (by omega)
    replace x_o : Vr w5 (w1.heap.size) 26 [.int .i64 p.Bal, .int .i64 p.Val, .slice A1 p.From.length c1, .int .i64 p.Best, .slice Ag G.length cg] := y
    clear y
    have c_p_0_w5 := x_p.cell (i := 0) rfl
    have f_p_0_w5 := x_p.frozen 0
    have c_p_1_w5 := x_p.cell (i := 1) rfl
    have f_p_1_w5 := x_p.frozen 1
    have c_p_2_w5 := x_p.cell (i := 2) rfl
    have f_p_2_w5 := x_p.frozen 2
    have c_p_3_w5 := x_p.cell (i := 3) rfl
    have f_p_3_w5 := x_p.frozen 3
    have c_p_4_w5 := x_p.cell (i := 4) rfl
    have f_p_4_w5 := x_p.frozen 4
    have c_r_0_w5 := x_r.cell (i := 0) rfl
    have f_r_0_w5 := x_r.frozen 0
    have c_r_1_w5 := x_r.cell (i := 1) rfl
    have f_r_1_w5 := x_r.frozen 1
    have c_r_2_w5 := x_r.cell (i := 2) rfl
    have f_r_2_w5 := x_r.frozen 2
    have c_r_3_w5 := x_r.cell (i := 3) rfl
    have f_r_3_w5 := x_r.frozen 3
    have c_r_4_w5 := x_r.cell (i := 4) rfl
    have f_r_4_w5 := x_r.frozen 4
    have c_o_0_w5 := x_o.cell (i := 0) rfl
    have f_o_0_w5 := x_o.frozen 0
    have c_o_1_w5 := x_o.cell (i := 1) rfl
    have f_o_1_w5 := x_o.frozen 1
    have c_o_2_w5 := x_o.cell (i := 2) rfl
    have f_o_2_w5 := x_o.frozen 2
    have c_o_3_w5 := x_o.cell (i := 3) rfl
    have f_o_3_w5 := x_o.frozen 3
    have c_o_4_w5 := x_o.cell (i := 4) rfl
    have f_o_4_w5 := x_o.frozen 4
    obtain ⟨w6, e_w6, s_w6, h_w6, y⟩ := store_step x_r [.int .i64 p.Bal, .int .i64 p.Val, .slice A1 p.From.length c1, .int .i64 p.Best, .slice Ag G.length cg] rfl
    replace e_w6 : (((((w5.setCell ⟨w.heap.size + 1, 0, none⟩ (.int .i64 p.Bal)).setCell ⟨w.heap.size + 1, 1, none⟩ (.int .i64 p.Val)).setCell ⟨w.heap.size + 1, 2, none⟩ (.slice A1 p.From.length c1)).setCell ⟨w.heap.size + 1, 3, none⟩ (.int .i64 p.Best)).setCell ⟨w.heap.size + 1, 4, none⟩ (.slice Ag G.length cg)) = w6 := e_w6
    have s_w6_1 := Nat.le_of_eq s_w6
    have s_w6_2 := Nat.le_of_eq s_w6.symm
    clear s_w6
    replace x_p := x_p.chg h_w6 (by omega)
    replace x_o := x_o.chg h_w6 (by omega)
    replace ou := ou.chg h_w6 (by omega)
    replace oF := oF.chg h_w6 (by omega)
    replace oT := oT.chg h_w6 (by omega)
    replace o_g := o_g.chg h_w6 (by omega)
    have B_w6 := Below.chg_ B_w5 h_w6 (by omega) (by omega)
    replace x_r : Vr w6 (w.heap.size + 1) 26 [.int .i64 p.Bal, .int .i64 p.Val, .slice A1 p.From.length c1, .int .i64 p.Best, .slice Ag G.length cg] := y
    clear y
    have c_r_0_w6 := x_r.cell (i := 0) rfl
    have f_r_0_w6 := x_r.frozen 0
    have c_r_1_w6 := x_r.cell (i := 1) rfl
    have f_r_1_w6 := x_r.frozen 1
    have c_r_2_w6 := x_r.cell (i := 2) rfl
    have f_r_2_w6 := x_r.frozen 2
    have c_r_3_w6 := x_r.cell (i := 3) rfl
    have f_r_3_w6 := x_r.frozen 3
    have c_r_4_w6 := x_r.cell (i := 4) rfl
    have f_r_4_w6 := x_r.frozen 4
    go_wp2
    refine ret_cell (by rfl) (by rfl) x_r Try.underlying26 sz_prop (by rfl) ?_
    rw [HM.out]
    exact ⟨_, rfl, ov_prop (d := ⟨p.Bal, p.Val, p.From, p.Best, G⟩) oF o_g (by omega), B_w6⟩
  case neg =>
    replace hH : hasI p.Got n = false := by simpa using hH
    have HH := Lib.hid hH
    have HB9 : Hid (gotB p n = true) := by show _ = _; unfold gotB; rw [hK, hN, hH]; rfl
    obtain ⟨G, hG⟩ : ∃ G, addI p.Got n = G := ⟨_, rfl⟩
    have HM : Hid (propGot p n = ⟨p.Bal, p.Val, p.From, p.Best, G⟩) := by show _ = _; unfold propGot; rw [if_pos HB9.out, hG]
    have HG := Lib.hid hG
    clear hG
    clear hK hN hH
    go_enter Try.func21, Try.ntmps21
    go_wp2_with fail
    refine (iCloneProp_c (h0.from_ B0) hm).mono ?_
    rintro e w1 ⟨u_, rfl, ou, h_w1⟩
    clear c_p_0_wa f_p_0_wa c_p_1_wa f_p_1_wa c_p_2_wa f_p_2_wa c_p_3_wa f_p_3_wa c_p_4_wa f_p_4_wa c_r_0_wa f_r_0_wa c_r_1_wa f_r_1_wa c_r_2_wa f_r_2_wa c_r_3_wa f_r_3_wa c_r_4_wa f_r_4_wa
    replace x_p := x_p.from_ h_w1
    replace x_r := x_r.from_ h_w1
    have B_w1 := B0.trans (h_w1.mono B0.size)
    have s_w1 := h_w1.size
    obtain ⟨A1, c1, A2, c2, rfl, oF, oT⟩ := ov_prop_parts ou
    have c_p_0_w1 := x_p.cell (i := 0) rfl
    have f_p_0_w1 := x_p.frozen 0
    have c_p_1_w1 := x_p.cell (i := 1) rfl
    have f_p_1_w1 := x_p.frozen 1
    have c_p_2_w1 := x_p.cell (i := 2) rfl
    have f_p_2_w1 := x_p.frozen 2
    have c_p_3_w1 := x_p.cell (i := 3) rfl
    have f_p_3_w1 := x_p.frozen 3
    have c_p_4_w1 := x_p.cell (i := 4) rfl
    have f_p_4_w1 := x_p.frozen 4
    have c_r_0_w1 := x_r.cell (i := 0) rfl
    have f_r_0_w1 := x_r.frozen 0
    have c_r_1_w1 := x_r.cell (i := 1) rfl
    have f_r_1_w1 := x_r.frozen 1
    have c_r_2_w1 := x_r.cell (i := 2) rfl
    have f_r_2_w1 := x_r.frozen 2
    have c_r_3_w1 := x_r.cell (i := 3) rfl
    have f_r_3_w1 := x_r.frozen 3
    have c_r_4_w1 := x_r.cell (i := 4) rfl
    have f_r_4_w1 := x_r.frozen 4
    obtain ⟨w2, e_w2, s_w2, h_w2, x_o⟩ := alloc_step w1 26 [.int .i64 p.Bal, .int .i64 p.Val, .slice A1 p.From.length c1, .int .i64 p.Best, .slice A2 p.Got.length c2]
    have s_w2_1 := Nat.le_of_eq s_w2
    have s_w2_2 := Nat.le_of_eq s_w2.symm
    clear s_w2
    replace x_p := x_p.from_ h_w2
    replace x_r := x_r.from_ h_w2
    replace ou := ou.below h_w2
    replace oF := oF.below h_w2
    replace oT := oT.below h_w2
    have B_w2 := B_w1.trans (h_w2.mono B_w1.size)
    have c_p_0_w2 := x_p.cell (i := 0) rfl
    have f_p_0_w2 := x_p.frozen 0
    have c_p_1_w2 := x_p.cell (i := 1) rfl
    have f_p_1_w2 := x_p.frozen 1
    have c_p_2_w2 := x_p.cell (i := 2) rfl
    have f_p_2_w2 := x_p.frozen 2
    have c_p_3_w2 := x_p.cell (i := 3) rfl
    have f_p_3_w2 := x_p.frozen 3
    have c_p_4_w2 := x_p.cell (i := 4) rfl
    have f_p_4_w2 := x_p.frozen 4
    have c_r_0_w2 := x_r.cell (i := 0) rfl
    have f_r_0_w2 := x_r.frozen 0
    have c_r_1_w2 := x_r.cell (i := 1) rfl
    have f_r_1_w2 := x_r.frozen 1
    have c_r_2_w2 := x_r.cell (i := 2) rfl
    have f_r_2_w2 := x_r.frozen 2
    have c_r_3_w2 := x_r.cell (i := 3) rfl
    have f_r_3_w2 := x_r.frozen 3
    have c_r_4_w2 := x_r.cell (i := 4) rfl
    have f_r_4_w2 := x_r.frozen 4
    have c_o_0_w2 := x_o.cell (i := 0) rfl
    have f_o_0_w2 := x_o.frozen 0
    have c_o_1_w2 := x_o.cell (i := 1) rfl
    have f_o_1_w2 := x_o.frozen 1
    have c_o_2_w2 := x_o.cell (i := 2) rfl
    have f_o_2_w2 := x_o.frozen 2
    have c_o_3_w2 := x_o.cell (i := 3) rfl
    have f_o_3_w2 := x_o.frozen 3
    have c_o_4_w2 := x_o.cell (i := 4) rfl
    have f_o_4_w2 := x_o.frozen 4
    go_wp2_with fail
    refine (iPropOk_x (h0.from_ B_w2)).mono ?_
    rintro e w3 ⟨rfl, h_w3⟩
    clear c_p_0_w1 f_p_0_w1 c_p_1_w1 f_p_1_w1 c_p_2_w1 f_p_2_w1 c_p_3_w1 f_p_3_w1 c_p_4_w1 f_p_4_w1 c_r_0_w1 f_r_0_w1 c_r_1_w1 f_r_1_w1 c_r_2_w1 f_r_2_w1 c_r_3_w1 f_r_3_w1 c_r_4_w1 f_r_4_w1 c_p_0_w2 f_p_0_w2 c_p_1_w2 f_p_1_w2 c_p_2_w2 f_p_2_w2 c_p_3_w2 f_p_3_w2 c_p_4_w2 f_p_4_w2 c_r_0_w2 f_r_0_w2 c_r_1_w2 f_r_1_w2 c_r_2_w2 f_r_2_w2 c_r_3_w2 f_r_3_w2 c_r_4_w2 f_r_4_w2 c_o_0_w2 f_o_0_w2 c_o_1_w2 f_o_1_w2 c_o_2_w2 f_o_2_w2 c_o_3_w2 f_o_3_w2 c_o_4_w2 f_o_4_w2
    replace x_p := x_p.from_ h_w3
    replace x_r := x_r.from_ h_w3
    replace x_o := x_o.from_ h_w3
    replace ou := ou.below h_w3
    replace oF := oF.below h_w3
    replace oT := oT.below h_w3
    have B_w3 := B_w2.trans (h_w3.mono B_w2.size)
    have s_w3 := h_w3.size
    rw [HK.out]
    have c_p_0_w3 := x_p.cell (i := 0) rfl
    have f_p_0_w3 := x_p.frozen 0
    have c_p_1_w3 := x_p.cell (i := 1) rfl
    have f_p_1_w3 := x_p.frozen 1
    have c_p_2_w3 := x_p.cell (i := 2) rfl
    have f_p_2_w3 := x_p.frozen 2
    have c_p_3_w3 := x_p.cell (i := 3) rfl
    have f_p_3_w3 := x_p.frozen 3
    have c_p_4_w3 := x_p.cell (i := 4) rfl
    have f_p_4_w3 := x_p.frozen 4
    have c_r_0_w3 := x_r.cell (i := 0) rfl
    have f_r_0_w3 := x_r.frozen 0
    have c_r_1_w3 := x_r.cell (i := 1) rfl
    have f_r_1_w3 := x_r.frozen 1
    have c_r_2_w3 := x_r.cell (i := 2) rfl
    have f_r_2_w3 := x_r.frozen 2
    have c_r_3_w3 := x_r.cell (i := 3) rfl
    have f_r_3_w3 := x_r.frozen 3
    have c_r_4_w3 := x_r.cell (i := 4) rfl
    have f_r_4_w3 := x_r.frozen 4
    have c_o_0_w3 := x_o.cell (i := 0) rfl
    have f_o_0_w3 := x_o.frozen 0
    have c_o_1_w3 := x_o.cell (i := 1) rfl
    have f_o_1_w3 := x_o.frozen 1
    have c_o_2_w3 := x_o.cell (i := 2) rfl
    have f_o_2_w3 := x_o.frozen 2
    have c_o_3_w3 := x_o.cell (i := 3) rfl
    have f_o_3_w3 := x_o.frozen 3
    have c_o_4_w3 := x_o.cell (i := 4) rfl
    have f_o_4_w3 := x_o.frozen 4
    go_wp2_with fail
    refine (iNode_any _ _).mono ?_
    rintro e w' ⟨rfl, rfl⟩
    rw [HN.out]
    go_wp2_with fail
    refine (iNodes_c (rT.from_ B_w3)).mono ?_
    rintro e w' ⟨rfl, rfl⟩
    go_wp2_with fail
    refine (iWith_new (n := n) (rT.from_ B_w3) HT.out HH.out).mono ?_
    rintro e w4 ⟨v2, rfl, o_g, h_w4⟩
    clear c_p_0_w3 f_p_0_w3 c_p_1_w3 f_p_1_w3 c_p_2_w3 f_p_2_w3 c_p_3_w3 f_p_3_w3 c_p_4_w3 f_p_4_w3 c_r_0_w3 f_r_0_w3 c_r_1_w3 f_r_1_w3 c_r_2_w3 f_r_2_w3 c_r_3_w3 f_r_3_w3 c_r_4_w3 f_r_4_w3 c_o_0_w3 f_o_0_w3 c_o_1_w3 f_o_1_w3 c_o_2_w3 f_o_2_w3 c_o_3_w3 f_o_3_w3 c_o_4_w3 f_o_4_w3
    replace x_p := x_p.from_ h_w4
    replace x_r := x_r.from_ h_w4
    replace x_o := x_o.from_ h_w4
    replace ou := ou.below h_w4
    replace oF := oF.below h_w4
    replace oT := oT.below h_w4
    have B_w4 := B_w3.trans (h_w4.mono B_w3.size)
    have s_w4 := h_w4.size
    rw [HG.out] at o_g
    obtain ⟨Ag, cg, rfl, -, -, -⟩ := o_g.rd
    have c_p_0_w4 := x_p.cell (i := 0) rfl
    have f_p_0_w4 := x_p.frozen 0
    have c_p_1_w4 := x_p.cell (i := 1) rfl
    have f_p_1_w4 := x_p.frozen 1
    have c_p_2_w4 := x_p.cell (i := 2) rfl
    have f_p_2_w4 := x_p.frozen 2
    have c_p_3_w4 := x_p.cell (i := 3) rfl
    have f_p_3_w4 := x_p.frozen 3
    have c_p_4_w4 := x_p.cell (i := 4) rfl
    have f_p_4_w4 := x_p.frozen 4
    have c_r_0_w4 := x_r.cell (i := 0) rfl
    have f_r_0_w4 := x_r.frozen 0
    have c_r_1_w4 := x_r.cell (i := 1) rfl
    have f_r_1_w4 := x_r.frozen 1
    have c_r_2_w4 := x_r.cell (i := 2) rfl
    have f_r_2_w4 := x_r.frozen 2
    have c_r_3_w4 := x_r.cell (i := 3) rfl
    have f_r_3_w4 := x_r.frozen 3
    have c_r_4_w4 := x_r.cell (i := 4) rfl
    have f_r_4_w4 := x_r.frozen 4
    have c_o_0_w4 := x_o.cell (i := 0) rfl
    have f_o_0_w4 := x_o.frozen 0
    have c_o_1_w4 := x_o.cell (i := 1) rfl
    have f_o_1_w4 := x_o.frozen 1
    have c_o_2_w4 := x_o.cell (i := 2) rfl
    have f_o_2_w4 := x_o.frozen 2
    have c_o_3_w4 := x_o.cell (i := 3) rfl
    have f_o_3_w4 := x_o.frozen 3
    have c_o_4_w4 := x_o.cell (i := 4) rfl
    have f_o_4_w4 := x_o.frozen 4
    obtain ⟨w5, e_w5, s_w5, h_w5, y⟩ := set_step x_o 4 (.slice Ag G.length cg)
    have s_w5_1 := Nat.le_of_eq s_w5
    have s_w5_2 := Nat.le_of_eq s_w5.symm
    clear s_w5
    replace x_p := x_p.chg h_w5 (by omega)
    replace x_r := x_r.chg h_w5 (by omega)
    replace ou := ou.chg h_w5 (by omega)
    replace oF := oF.chg h_w5 (by omega)
    replace oT := oT.chg h_w5 (by omega)
    replace o_g := o_g.chg h_w5 (by omega)
    have B_w5 := Below.chg_ B_w4 h_w5 (by omega) (by omega)
    replace x_o : Vr w5 (w1.heap.size) 26 [.int .i64 p.Bal, .int .i64 p.Val, .slice A1 p.From.length c1, .int .i64 p.Best, .slice Ag G.length cg] := y
    clear y
    have c_p_0_w5 := x_p.cell (i := 0) rfl
    have f_p_0_w5 := x_p.frozen 0
    have c_p_1_w5 := x_p.cell (i := 1) rfl
    have f_p_1_w5 := x_p.frozen 1
    have c_p_2_w5 := x_p.cell (i := 2) rfl
    have f_p_2_w5 := x_p.frozen 2
    have c_p_3_w5 := x_p.cell (i := 3) rfl
    have f_p_3_w5 := x_p.frozen 3
    have c_p_4_w5 := x_p.cell (i := 4) rfl
    have f_p_4_w5 := x_p.frozen 4
    have c_r_0_w5 := x_r.cell (i := 0) rfl
    have f_r_0_w5 := x_r.frozen 0
    have c_r_1_w5 := x_r.cell (i := 1) rfl
    have f_r_1_w5 := x_r.frozen 1
    have c_r_2_w5 := x_r.cell (i := 2) rfl
    have f_r_2_w5 := x_r.frozen 2
    have c_r_3_w5 := x_r.cell (i := 3) rfl
    have f_r_3_w5 := x_r.frozen 3
    have c_r_4_w5 := x_r.cell (i := 4) rfl
    have f_r_4_w5 := x_r.frozen 4
    have c_o_0_w5 := x_o.cell (i := 0) rfl
    have f_o_0_w5 := x_o.frozen 0
    have c_o_1_w5 := x_o.cell (i := 1) rfl
    have f_o_1_w5 := x_o.frozen 1
    have c_o_2_w5 := x_o.cell (i := 2) rfl
    have f_o_2_w5 := x_o.frozen 2
    have c_o_3_w5 := x_o.cell (i := 3) rfl
    have f_o_3_w5 := x_o.frozen 3
    have c_o_4_w5 := x_o.cell (i := 4) rfl
    have f_o_4_w5 := x_o.frozen 4
    obtain ⟨w6, e_w6, s_w6, h_w6, y⟩ := store_step x_r [.int .i64 p.Bal, .int .i64 p.Val, .slice A1 p.From.length c1, .int .i64 p.Best, .slice Ag G.length cg] rfl
    replace e_w6 : (((((w5.setCell ⟨w.heap.size + 1, 0, none⟩ (.int .i64 p.Bal)).setCell ⟨w.heap.size + 1, 1, none⟩ (.int .i64 p.Val)).setCell ⟨w.heap.size + 1, 2, none⟩ (.slice A1 p.From.length c1)).setCell ⟨w.heap.size + 1, 3, none⟩ (.int .i64 p.Best)).setCell ⟨w.heap.size + 1, 4, none⟩ (.slice Ag G.length cg)) = w6 := e_w6
    have s_w6_1 := Nat.le_of_eq s_w6
    have s_w6_2 := Nat.le_of_eq s_w6.symm
    clear s_w6
    replace x_p := x_p.chg h_w6 (by omega)
    replace x_o := x_o.chg h_w6 (by omega)
    replace ou := ou.chg h_w6 (by omega)
    replace oF := oF.chg h_w6 (by omega)
    replace oT := oT.chg h_w6 (by omega)
    replace o_g := o_g.chg h_w6 (by omega)
    have B_w6 := Below.chg_ B_w5 h_w6 (by omega) (by omega)
    replace x_r : Vr w6 (w.heap.size + 1) 26 [.int .i64 p.Bal, .int .i64 p.Val, .slice A1 p.From.length c1, .int .i64 p.Best, .slice Ag G.length cg] := y
    clear y
    have c_r_0_w6 := x_r.cell (i := 0) rfl
    have f_r_0_w6 := x_r.frozen 0
    have c_r_1_w6 := x_r.cell (i := 1) rfl
    have f_r_1_w6 := x_r.frozen 1
    have c_r_2_w6 := x_r.cell (i := 2) rfl
    have f_r_2_w6 := x_r.frozen 2
    have c_r_3_w6 := x_r.cell (i := 3) rfl
    have f_r_3_w6 := x_r.frozen 3
    have c_r_4_w6 := x_r.cell (i := 4) rfl
    have f_r_4_w6 := x_r.frozen 4
    go_wp2
    refine ret_cell (by rfl) (by rfl) x_r Try.underlying26 sz_prop (by rfl) ?_
    rw [HM.out]
    exact ⟨_, rfl, ov_prop (d := ⟨p.Bal, p.Val, p.From, p.Best, G⟩) oF o_g (by omega), B_w6⟩

set_option maxRecDepth 100000 in
set_option maxHeartbeats 4000000 in
theorem iPropHear_c {w : World} {v : Value} {p : MProp} {n b u : Int} (h : RV propL w v p) (hm : p.bulk ≤ 16777216) (hn : -9223372036854775808 ≤ n ∧ n ≤ 9223372036854775807) (hb : -9223372036854775808 ≤ b ∧ b ≤ 9223372036854775807) (hu : -9223372036854775808 ≤ u ∧ u ≤ 9223372036854775807) : Calls Try.prog 19 #[v, .int .i64 n, .int .i64 b, .int .i64 u] w (NewV propL w (propHear p n b u)) := by
  have h0 := h
  clear hn hb hu
  obtain ⟨AF, cF, AT, cT, rfl, rF, rT⟩ := rv_prop h
  clear h
  obtain ⟨wa, hwa, B0, sa, x_p, x_r⟩ := frame2 w 26 [.int .i64 p.Bal, .int .i64 p.Val, .slice AF p.From.length cF, .int .i64 p.Best, .slice AT p.Got.length cT] 26 [.int .i64 0, .int .i64 0, .slice none 0 0, .int .i64 0, .slice none 0 0]
  have sa_1 := Nat.le_of_eq sa
  have sa_2 := Nat.le_of_eq sa.symm
  clear sa
  have c_p_0_wa := x_p.cell (i := 0) rfl
  have f_p_0_wa := x_p.frozen 0
  have c_p_1_wa := x_p.cell (i := 1) rfl
  have f_p_1_wa := x_p.frozen 1
  have c_p_2_wa := x_p.cell (i := 2) rfl
  have f_p_2_wa := x_p.frozen 2
  have c_p_3_wa := x_p.cell (i := 3) rfl
  have f_p_3_wa := x_p.frozen 3
  have c_p_4_wa := x_p.cell (i := 4) rfl
  have f_p_4_wa := x_p.frozen 4
  have c_r_0_wa := x_r.cell (i := 0) rfl
  have f_r_0_wa := x_r.frozen 0
  have c_r_1_wa := x_r.cell (i := 1) rfl
  have f_r_1_wa := x_r.frozen 1
  have c_r_2_wa := x_r.cell (i := 2) rfl
  have f_r_2_wa := x_r.frozen 2
  have c_r_3_wa := x_r.cell (i := 3) rfl
  have f_r_3_wa := x_r.frozen 3
  have c_r_4_wa := x_r.cell (i := 4) rfl
  have f_r_4_wa := x_r.frozen 4
  by_cases hK : propOkB p = true
  case neg =>
    replace hK : propOkB p = false := by simpa using hK
    have HK := Lib.hid hK
    have HB9 : Hid (hearB p n b u = false) := by show _ = _; rw [hear_eq]; rw [hK]; simp
    have HM : Hid (propHear p n b u = p) := if_neg (by rw [HB9.out]; decide)
    clear hK
    go_enter Try.func19, Try.ntmps19
    go_wp2_with fail
    refine (iCloneProp_c (h0.from_ B0) hm).mono ?_
    rintro e w1 ⟨u_, rfl, ou, h_w1⟩
    clear c_p_0_wa f_p_0_wa c_p_1_wa f_p_1_wa c_p_2_wa f_p_2_wa c_p_3_wa f_p_3_wa c_p_4_wa f_p_4_wa c_r_0_wa f_r_0_wa c_r_1_wa f_r_1_wa c_r_2_wa f_r_2_wa c_r_3_wa f_r_3_wa c_r_4_wa f_r_4_wa
    replace x_p := x_p.from_ h_w1
    replace x_r := x_r.from_ h_w1
    have B_w1 := B0.trans (h_w1.mono B0.size)
    have s_w1 := h_w1.size
    obtain ⟨A1, c1, A2, c2, rfl, oF, oT⟩ := ov_prop_parts ou
    have c_p_0_w1 := x_p.cell (i := 0) rfl
    have f_p_0_w1 := x_p.frozen 0
    have c_p_1_w1 := x_p.cell (i := 1) rfl
    have f_p_1_w1 := x_p.frozen 1
    have c_p_2_w1 := x_p.cell (i := 2) rfl
    have f_p_2_w1 := x_p.frozen 2
    have c_p_3_w1 := x_p.cell (i := 3) rfl
    have f_p_3_w1 := x_p.frozen 3
    have c_p_4_w1 := x_p.cell (i := 4) rfl
    have f_p_4_w1 := x_p.frozen 4
    have c_r_0_w1 := x_r.cell (i := 0) rfl
    have f_r_0_w1 := x_r.frozen 0
    have c_r_1_w1 := x_r.cell (i := 1) rfl
    have f_r_1_w1 := x_r.frozen 1
    have c_r_2_w1 := x_r.cell (i := 2) rfl
    have f_r_2_w1 := x_r.frozen 2
    have c_r_3_w1 := x_r.cell (i := 3) rfl
    have f_r_3_w1 := x_r.frozen 3
    have c_r_4_w1 := x_r.cell (i := 4) rfl
    have f_r_4_w1 := x_r.frozen 4
    obtain ⟨w2, e_w2, s_w2, h_w2, x_o⟩ := alloc_step w1 26 [.int .i64 p.Bal, .int .i64 p.Val, .slice A1 p.From.length c1, .int .i64 p.Best, .slice A2 p.Got.length c2]
    have s_w2_1 := Nat.le_of_eq s_w2
    have s_w2_2 := Nat.le_of_eq s_w2.symm
    clear s_w2
    replace x_p := x_p.from_ h_w2
    replace x_r := x_r.from_ h_w2
    replace ou := ou.below h_w2
    replace oF := oF.below h_w2
    replace oT := oT.below h_w2
    have B_w2 := B_w1.trans (h_w2.mono B_w1.size)
    have c_p_0_w2 := x_p.cell (i := 0) rfl
    have f_p_0_w2 := x_p.frozen 0
    have c_p_1_w2 := x_p.cell (i := 1) rfl
    have f_p_1_w2 := x_p.frozen 1
    have c_p_2_w2 := x_p.cell (i := 2) rfl
    have f_p_2_w2 := x_p.frozen 2
    have c_p_3_w2 := x_p.cell (i := 3) rfl
    have f_p_3_w2 := x_p.frozen 3
    have c_p_4_w2 := x_p.cell (i := 4) rfl
    have f_p_4_w2 := x_p.frozen 4
    have c_r_0_w2 := x_r.cell (i := 0) rfl
    have f_r_0_w2 := x_r.frozen 0
    have c_r_1_w2 := x_r.cell (i := 1) rfl
    have f_r_1_w2 := x_r.frozen 1
    have c_r_2_w2 := x_r.cell (i := 2) rfl
    have f_r_2_w2 := x_r.frozen 2
    have c_r_3_w2 := x_r.cell (i := 3) rfl
    have f_r_3_w2 := x_r.frozen 3
    have c_r_4_w2 := x_r.cell (i := 4) rfl
    have f_r_4_w2 := x_r.frozen 4
    have c_o_0_w2 := x_o.cell (i := 0) rfl
    have f_o_0_w2 := x_o.frozen 0
    have c_o_1_w2 := x_o.cell (i := 1) rfl
    have f_o_1_w2 := x_o.frozen 1
    have c_o_2_w2 := x_o.cell (i := 2) rfl
    have f_o_2_w2 := x_o.frozen 2
    have c_o_3_w2 := x_o.cell (i := 3) rfl
    have f_o_3_w2 := x_o.frozen 3
    have c_o_4_w2 := x_o.cell (i := 4) rfl
    have f_o_4_w2 := x_o.frozen 4
    go_wp2_with fail
    refine (iPropOk_x (h0.from_ B_w2)).mono ?_
    rintro e w3 ⟨rfl, h_w3⟩
    clear c_p_0_w1 f_p_0_w1 c_p_1_w1 f_p_1_w1 c_p_2_w1 f_p_2_w1 c_p_3_w1 f_p_3_w1 c_p_4_w1 f_p_4_w1 c_r_0_w1 f_r_0_w1 c_r_1_w1 f_r_1_w1 c_r_2_w1 f_r_2_w1 c_r_3_w1 f_r_3_w1 c_r_4_w1 f_r_4_w1 c_p_0_w2 f_p_0_w2 c_p_1_w2 f_p_1_w2 c_p_2_w2 f_p_2_w2 c_p_3_w2 f_p_3_w2 c_p_4_w2 f_p_4_w2 c_r_0_w2 f_r_0_w2 c_r_1_w2 f_r_1_w2 c_r_2_w2 f_r_2_w2 c_r_3_w2 f_r_3_w2 c_r_4_w2 f_r_4_w2 c_o_0_w2 f_o_0_w2 c_o_1_w2 f_o_1_w2 c_o_2_w2 f_o_2_w2 c_o_3_w2 f_o_3_w2 c_o_4_w2 f_o_4_w2
    replace x_p := x_p.from_ h_w3
    replace x_r := x_r.from_ h_w3
    replace x_o := x_o.from_ h_w3
    replace ou := ou.below h_w3
    replace oF := oF.below h_w3
    replace oT := oT.below h_w3
    have B_w3 := B_w2.trans (h_w3.mono B_w2.size)
    have s_w3 := h_w3.size
    rw [HK.out]
    have c_p_0_w3 := x_p.cell (i := 0) rfl
    have f_p_0_w3 := x_p.frozen 0
    have c_p_1_w3 := x_p.cell (i := 1) rfl
    have f_p_1_w3 := x_p.frozen 1
    have c_p_2_w3 := x_p.cell (i := 2) rfl
    have f_p_2_w3 := x_p.frozen 2
    have c_p_3_w3 := x_p.cell (i := 3) rfl
    have f_p_3_w3 := x_p.frozen 3
    have c_p_4_w3 := x_p.cell (i := 4) rfl
    have f_p_4_w3 := x_p.frozen 4
    have c_r_0_w3 := x_r.cell (i := 0) rfl
    have f_r_0_w3 := x_r.frozen 0
    have c_r_1_w3 := x_r.cell (i := 1) rfl
    have f_r_1_w3 := x_r.frozen 1
    have c_r_2_w3 := x_r.cell (i := 2) rfl
    have f_r_2_w3 := x_r.frozen 2
    have c_r_3_w3 := x_r.cell (i := 3) rfl
    have f_r_3_w3 := x_r.frozen 3
    have c_r_4_w3 := x_r.cell (i := 4) rfl
    have f_r_4_w3 := x_r.frozen 4
    have c_o_0_w3 := x_o.cell (i := 0) rfl
    have f_o_0_w3 := x_o.frozen 0
    have c_o_1_w3 := x_o.cell (i := 1) rfl
    have f_o_1_w3 := x_o.frozen 1
    have c_o_2_w3 := x_o.cell (i := 2) rfl
    have f_o_2_w3 := x_o.frozen 2
    have c_o_3_w3 := x_o.cell (i := 3) rfl
    have f_o_3_w3 := x_o.frozen 3
    have c_o_4_w3 := x_o.cell (i := 4) rfl
    have f_o_4_w3 := x_o.frozen 4
    obtain ⟨w4, e_w4, s_w4, h_w4, y⟩ := store_step x_r [.int .i64 p.Bal, .int .i64 p.Val, .slice A1 p.From.length c1, .int .i64 p.Best, .slice A2 p.Got.length c2] rfl
    replace e_w4 : (((((w3.setCell ⟨w.heap.size + 1, 0, none⟩ (.int .i64 p.Bal)).setCell ⟨w.heap.size + 1, 1, none⟩ (.int .i64 p.Val)).setCell ⟨w.heap.size + 1, 2, none⟩ (.slice A1 p.From.length c1)).setCell ⟨w.heap.size + 1, 3, none⟩ (.int .i64 p.Best)).setCell ⟨w.heap.size + 1, 4, none⟩ (.slice A2 p.Got.length c2)) = w4 := e_w4
    have s_w4_1 := Nat.le_of_eq s_w4
    have s_w4_2 := Nat.le_of_eq s_w4.symm
    clear s_w4
    replace x_p := x_p.chg h_w4 (by omega)
    replace x_o := x_o.chg h_w4 (by omega)
    replace ou := ou.chg h_w4 (by omega)
    replace oF := oF.chg h_w4 (by omega)
    replace oT := oT.chg h_w4 (by omega)
    have B_w4 := Below.chg_ B_w3 h_w4 (by omega) (by omega)
    replace x_r : Vr w4 (w.heap.size + 1) 26 [.int .i64 p.Bal, .int .i64 p.Val, .slice A1 p.From.length c1, .int .i64 p.Best, .slice A2 p.Got.length c2] := y
    clear y
    have c_r_0_w4 := x_r.cell (i := 0) rfl
    have f_r_0_w4 := x_r.frozen 0
    have c_r_1_w4 := x_r.cell (i := 1) rfl
    have f_r_1_w4 := x_r.frozen 1
    have c_r_2_w4 := x_r.cell (i := 2) rfl
    have f_r_2_w4 := x_r.frozen 2
    have c_r_3_w4 := x_r.cell (i := 3) rfl
    have f_r_3_w4 := x_r.frozen 3
    have c_r_4_w4 := x_r.cell (i := 4) rfl
    have f_r_4_w4 := x_r.frozen 4
    go_wp2
    refine ret_cell (by rfl) (by rfl) x_r Try.underlying26 sz_prop (by rfl) ?_
    rw [HM.out]
    exact ⟨_, rfl, ou.widen (by omega) (by omega) (Nat.le_refl _), B_w4⟩
  have HK := Lib.hid hK
  by_cases hN : inB n 0 3 = true
  case neg =>
    replace hN : inB n 0 3 = false := by simpa using hN
    have HN := Lib.hid hN
    have HB9 : Hid (hearB p n b u = false) := by show _ = _; rw [hear_eq]; rw [hN]; simp
    have HM : Hid (propHear p n b u = p) := if_neg (by rw [HB9.out]; decide)
    clear hK hN
    have HR : Hid (riseB p.From = true) := (propOk_rise HK.out).1
    go_enter Try.func19, Try.ntmps19
    go_wp2_with fail
    refine (iCloneProp_c (h0.from_ B0) hm).mono ?_
    rintro e w1 ⟨u_, rfl, ou, h_w1⟩
    clear c_p_0_wa f_p_0_wa c_p_1_wa f_p_1_wa c_p_2_wa f_p_2_wa c_p_3_wa f_p_3_wa c_p_4_wa f_p_4_wa c_r_0_wa f_r_0_wa c_r_1_wa f_r_1_wa c_r_2_wa f_r_2_wa c_r_3_wa f_r_3_wa c_r_4_wa f_r_4_wa
    replace x_p := x_p.from_ h_w1
    replace x_r := x_r.from_ h_w1
    have B_w1 := B0.trans (h_w1.mono B0.size)
    have s_w1 := h_w1.size
    obtain ⟨A1, c1, A2, c2, rfl, oF, oT⟩ := ov_prop_parts ou
    have c_p_0_w1 := x_p.cell (i := 0) rfl
    have f_p_0_w1 := x_p.frozen 0
    have c_p_1_w1 := x_p.cell (i := 1) rfl
    have f_p_1_w1 := x_p.frozen 1
    have c_p_2_w1 := x_p.cell (i := 2) rfl
    have f_p_2_w1 := x_p.frozen 2
    have c_p_3_w1 := x_p.cell (i := 3) rfl
    have f_p_3_w1 := x_p.frozen 3
    have c_p_4_w1 := x_p.cell (i := 4) rfl
    have f_p_4_w1 := x_p.frozen 4
    have c_r_0_w1 := x_r.cell (i := 0) rfl
    have f_r_0_w1 := x_r.frozen 0
    have c_r_1_w1 := x_r.cell (i := 1) rfl
    have f_r_1_w1 := x_r.frozen 1
    have c_r_2_w1 := x_r.cell (i := 2) rfl
    have f_r_2_w1 := x_r.frozen 2
    have c_r_3_w1 := x_r.cell (i := 3) rfl
    have f_r_3_w1 := x_r.frozen 3
    have c_r_4_w1 := x_r.cell (i := 4) rfl
    have f_r_4_w1 := x_r.frozen 4
    obtain ⟨w2, e_w2, s_w2, h_w2, x_o⟩ := alloc_step w1 26 [.int .i64 p.Bal, .int .i64 p.Val, .slice A1 p.From.length c1, .int .i64 p.Best, .slice A2 p.Got.length c2]
    have s_w2_1 := Nat.le_of_eq s_w2
    have s_w2_2 := Nat.le_of_eq s_w2.symm
    clear s_w2
    replace x_p := x_p.from_ h_w2
    replace x_r := x_r.from_ h_w2
    replace ou := ou.below h_w2
    replace oF := oF.below h_w2
    replace oT := oT.below h_w2
    have B_w2 := B_w1.trans (h_w2.mono B_w1.size)
    have c_p_0_w2 := x_p.cell (i := 0) rfl
    have f_p_0_w2 := x_p.frozen 0
    have c_p_1_w2 := x_p.cell (i := 1) rfl
    have f_p_1_w2 := x_p.frozen 1
    have c_p_2_w2 := x_p.cell (i := 2) rfl
    have f_p_2_w2 := x_p.frozen 2
    have c_p_3_w2 := x_p.cell (i := 3) rfl
    have f_p_3_w2 := x_p.frozen 3
    have c_p_4_w2 := x_p.cell (i := 4) rfl
    have f_p_4_w2 := x_p.frozen 4
    have c_r_0_w2 := x_r.cell (i := 0) rfl
    have f_r_0_w2 := x_r.frozen 0
    have c_r_1_w2 := x_r.cell (i := 1) rfl
    have f_r_1_w2 := x_r.frozen 1
    have c_r_2_w2 := x_r.cell (i := 2) rfl
    have f_r_2_w2 := x_r.frozen 2
    have c_r_3_w2 := x_r.cell (i := 3) rfl
    have f_r_3_w2 := x_r.frozen 3
    have c_r_4_w2 := x_r.cell (i := 4) rfl
    have f_r_4_w2 := x_r.frozen 4
    have c_o_0_w2 := x_o.cell (i := 0) rfl
    have f_o_0_w2 := x_o.frozen 0
    have c_o_1_w2 := x_o.cell (i := 1) rfl
    have f_o_1_w2 := x_o.frozen 1
    have c_o_2_w2 := x_o.cell (i := 2) rfl
    have f_o_2_w2 := x_o.frozen 2
    have c_o_3_w2 := x_o.cell (i := 3) rfl
    have f_o_3_w2 := x_o.frozen 3
    have c_o_4_w2 := x_o.cell (i := 4) rfl
    have f_o_4_w2 := x_o.frozen 4
    go_wp2_with fail
    refine (iPropOk_x (h0.from_ B_w2)).mono ?_
    rintro e w3 ⟨rfl, h_w3⟩
    clear c_p_0_w1 f_p_0_w1 c_p_1_w1 f_p_1_w1 c_p_2_w1 f_p_2_w1 c_p_3_w1 f_p_3_w1 c_p_4_w1 f_p_4_w1 c_r_0_w1 f_r_0_w1 c_r_1_w1 f_r_1_w1 c_r_2_w1 f_r_2_w1 c_r_3_w1 f_r_3_w1 c_r_4_w1 f_r_4_w1 c_p_0_w2 f_p_0_w2 c_p_1_w2 f_p_1_w2 c_p_2_w2 f_p_2_w2 c_p_3_w2 f_p_3_w2 c_p_4_w2 f_p_4_w2 c_r_0_w2 f_r_0_w2 c_r_1_w2 f_r_1_w2 c_r_2_w2 f_r_2_w2 c_r_3_w2 f_r_3_w2 c_r_4_w2 f_r_4_w2 c_o_0_w2 f_o_0_w2 c_o_1_w2 f_o_1_w2 c_o_2_w2 f_o_2_w2 c_o_3_w2 f_o_3_w2 c_o_4_w2 f_o_4_w2
    replace x_p := x_p.from_ h_w3
    replace x_r := x_r.from_ h_w3
    replace x_o := x_o.from_ h_w3
    replace ou := ou.below h_w3
    replace oF := oF.below h_w3
    replace oT := oT.below h_w3
    have B_w3 := B_w2.trans (h_w3.mono B_w2.size)
    have s_w3 := h_w3.size
    rw [HK.out]
    have c_p_0_w3 := x_p.cell (i := 0) rfl
    have f_p_0_w3 := x_p.frozen 0
    have c_p_1_w3 := x_p.cell (i := 1) rfl
    have f_p_1_w3 := x_p.frozen 1
    have c_p_2_w3 := x_p.cell (i := 2) rfl
    have f_p_2_w3 := x_p.frozen 2
    have c_p_3_w3 := x_p.cell (i := 3) rfl
    have f_p_3_w3 := x_p.frozen 3
    have c_p_4_w3 := x_p.cell (i := 4) rfl
    have f_p_4_w3 := x_p.frozen 4
    have c_r_0_w3 := x_r.cell (i := 0) rfl
    have f_r_0_w3 := x_r.frozen 0
    have c_r_1_w3 := x_r.cell (i := 1) rfl
    have f_r_1_w3 := x_r.frozen 1
    have c_r_2_w3 := x_r.cell (i := 2) rfl
    have f_r_2_w3 := x_r.frozen 2
    have c_r_3_w3 := x_r.cell (i := 3) rfl
    have f_r_3_w3 := x_r.frozen 3
    have c_r_4_w3 := x_r.cell (i := 4) rfl
    have f_r_4_w3 := x_r.frozen 4
    have c_o_0_w3 := x_o.cell (i := 0) rfl
    have f_o_0_w3 := x_o.frozen 0
    have c_o_1_w3 := x_o.cell (i := 1) rfl
    have f_o_1_w3 := x_o.frozen 1
    have c_o_2_w3 := x_o.cell (i := 2) rfl
    have f_o_2_w3 := x_o.frozen 2
    have c_o_3_w3 := x_o.cell (i := 3) rfl
    have f_o_3_w3 := x_o.frozen 3
    have c_o_4_w3 := x_o.cell (i := 4) rfl
    have f_o_4_w3 := x_o.frozen 4
    go_wp2_with fail
    refine (iNode_any _ _).mono ?_
    rintro e w' ⟨rfl, rfl⟩
    rw [HN.out]
    obtain ⟨w4, e_w4, s_w4, h_w4, y⟩ := store_step x_r [.int .i64 p.Bal, .int .i64 p.Val, .slice A1 p.From.length c1, .int .i64 p.Best, .slice A2 p.Got.length c2] rfl
    replace e_w4 : (((((w3.setCell ⟨w.heap.size + 1, 0, none⟩ (.int .i64 p.Bal)).setCell ⟨w.heap.size + 1, 1, none⟩ (.int .i64 p.Val)).setCell ⟨w.heap.size + 1, 2, none⟩ (.slice A1 p.From.length c1)).setCell ⟨w.heap.size + 1, 3, none⟩ (.int .i64 p.Best)).setCell ⟨w.heap.size + 1, 4, none⟩ (.slice A2 p.Got.length c2)) = w4 := e_w4
    have s_w4_1 := Nat.le_of_eq s_w4
    have s_w4_2 := Nat.le_of_eq s_w4.symm
    clear s_w4
    replace x_p := x_p.chg h_w4 (by omega)
    replace x_o := x_o.chg h_w4 (by omega)
    replace ou := ou.chg h_w4 (by omega)
    replace oF := oF.chg h_w4 (by omega)
    replace oT := oT.chg h_w4 (by omega)
    have B_w4 := Below.chg_ B_w3 h_w4 (by omega) (by omega)
    replace x_r : Vr w4 (w.heap.size + 1) 26 [.int .i64 p.Bal, .int .i64 p.Val, .slice A1 p.From.length c1, .int .i64 p.Best, .slice A2 p.Got.length c2] := y
    clear y
    have c_r_0_w4 := x_r.cell (i := 0) rfl
    have f_r_0_w4 := x_r.frozen 0
    have c_r_1_w4 := x_r.cell (i := 1) rfl
    have f_r_1_w4 := x_r.frozen 1
    have c_r_2_w4 := x_r.cell (i := 2) rfl
    have f_r_2_w4 := x_r.frozen 2
    have c_r_3_w4 := x_r.cell (i := 3) rfl
    have f_r_3_w4 := x_r.frozen 3
    have c_r_4_w4 := x_r.cell (i := 4) rfl
    have f_r_4_w4 := x_r.frozen 4
    go_wp2
    refine ret_cell (by rfl) (by rfl) x_r Try.underlying26 sz_prop (by rfl) ?_
    rw [HM.out]
    exact ⟨_, rfl, ou.widen (by omega) (by omega) (Nat.le_refl _), B_w4⟩
  have HN := Lib.hid hN
  by_cases hH : hasI p.From n = false
  case neg =>
    replace hH : hasI p.From n = true := by simpa using hH
    have HH := Lib.hid hH
    have HB9 : Hid (hearB p n b u = false) := by show _ = _; rw [hear_eq]; rw [hH]; simp
    have HM : Hid (propHear p n b u = p) := if_neg (by rw [HB9.out]; decide)
    clear hK hN hH
    have HR : Hid (riseB p.From = true) := (propOk_rise HK.out).1
    go_enter Try.func19, Try.ntmps19
    go_wp2_with fail
    refine (iCloneProp_c (h0.from_ B0) hm).mono ?_
    rintro e w1 ⟨u_, rfl, ou, h_w1⟩
    clear c_p_0_wa f_p_0_wa c_p_1_wa f_p_1_wa c_p_2_wa f_p_2_wa c_p_3_wa f_p_3_wa c_p_4_wa f_p_4_wa c_r_0_wa f_r_0_wa c_r_1_wa f_r_1_wa c_r_2_wa f_r_2_wa c_r_3_wa f_r_3_wa c_r_4_wa f_r_4_wa
    replace x_p := x_p.from_ h_w1
    replace x_r := x_r.from_ h_w1
    have B_w1 := B0.trans (h_w1.mono B0.size)
    have s_w1 := h_w1.size
    obtain ⟨A1, c1, A2, c2, rfl, oF, oT⟩ := ov_prop_parts ou
    have c_p_0_w1 := x_p.cell (i := 0) rfl
    have f_p_0_w1 := x_p.frozen 0
    have c_p_1_w1 := x_p.cell (i := 1) rfl
    have f_p_1_w1 := x_p.frozen 1
    have c_p_2_w1 := x_p.cell (i := 2) rfl
    have f_p_2_w1 := x_p.frozen 2
    have c_p_3_w1 := x_p.cell (i := 3) rfl
    have f_p_3_w1 := x_p.frozen 3
    have c_p_4_w1 := x_p.cell (i := 4) rfl
    have f_p_4_w1 := x_p.frozen 4
    have c_r_0_w1 := x_r.cell (i := 0) rfl
    have f_r_0_w1 := x_r.frozen 0
    have c_r_1_w1 := x_r.cell (i := 1) rfl
    have f_r_1_w1 := x_r.frozen 1
    have c_r_2_w1 := x_r.cell (i := 2) rfl
    have f_r_2_w1 := x_r.frozen 2
    have c_r_3_w1 := x_r.cell (i := 3) rfl
    have f_r_3_w1 := x_r.frozen 3
    have c_r_4_w1 := x_r.cell (i := 4) rfl
    have f_r_4_w1 := x_r.frozen 4
    obtain ⟨w2, e_w2, s_w2, h_w2, x_o⟩ := alloc_step w1 26 [.int .i64 p.Bal, .int .i64 p.Val, .slice A1 p.From.length c1, .int .i64 p.Best, .slice A2 p.Got.length c2]
    have s_w2_1 := Nat.le_of_eq s_w2
    have s_w2_2 := Nat.le_of_eq s_w2.symm
    clear s_w2
    replace x_p := x_p.from_ h_w2
    replace x_r := x_r.from_ h_w2
    replace ou := ou.below h_w2
    replace oF := oF.below h_w2
    replace oT := oT.below h_w2
    have B_w2 := B_w1.trans (h_w2.mono B_w1.size)
    have c_p_0_w2 := x_p.cell (i := 0) rfl
    have f_p_0_w2 := x_p.frozen 0
    have c_p_1_w2 := x_p.cell (i := 1) rfl
    have f_p_1_w2 := x_p.frozen 1
    have c_p_2_w2 := x_p.cell (i := 2) rfl
    have f_p_2_w2 := x_p.frozen 2
    have c_p_3_w2 := x_p.cell (i := 3) rfl
    have f_p_3_w2 := x_p.frozen 3
    have c_p_4_w2 := x_p.cell (i := 4) rfl
    have f_p_4_w2 := x_p.frozen 4
    have c_r_0_w2 := x_r.cell (i := 0) rfl
    have f_r_0_w2 := x_r.frozen 0
    have c_r_1_w2 := x_r.cell (i := 1) rfl
    have f_r_1_w2 := x_r.frozen 1
    have c_r_2_w2 := x_r.cell (i := 2) rfl
    have f_r_2_w2 := x_r.frozen 2
    have c_r_3_w2 := x_r.cell (i := 3) rfl
    have f_r_3_w2 := x_r.frozen 3
    have c_r_4_w2 := x_r.cell (i := 4) rfl
    have f_r_4_w2 := x_r.frozen 4
    have c_o_0_w2 := x_o.cell (i := 0) rfl
    have f_o_0_w2 := x_o.frozen 0
    have c_o_1_w2 := x_o.cell (i := 1) rfl
    have f_o_1_w2 := x_o.frozen 1
    have c_o_2_w2 := x_o.cell (i := 2) rfl
    have f_o_2_w2 := x_o.frozen 2
    have c_o_3_w2 := x_o.cell (i := 3) rfl
    have f_o_3_w2 := x_o.frozen 3
    have c_o_4_w2 := x_o.cell (i := 4) rfl
    have f_o_4_w2 := x_o.frozen 4
    go_wp2_with fail
    refine (iPropOk_x (h0.from_ B_w2)).mono ?_
    rintro e w3 ⟨rfl, h_w3⟩
    clear c_p_0_w1 f_p_0_w1 c_p_1_w1 f_p_1_w1 c_p_2_w1 f_p_2_w1 c_p_3_w1 f_p_3_w1 c_p_4_w1 f_p_4_w1 c_r_0_w1 f_r_0_w1 c_r_1_w1 f_r_1_w1 c_r_2_w1 f_r_2_w1 c_r_3_w1 f_r_3_w1 c_r_4_w1 f_r_4_w1 c_p_0_w2 f_p_0_w2 c_p_1_w2 f_p_1_w2 c_p_2_w2 f_p_2_w2 c_p_3_w2 f_p_3_w2 c_p_4_w2 f_p_4_w2 c_r_0_w2 f_r_0_w2 c_r_1_w2 f_r_1_w2 c_r_2_w2 f_r_2_w2 c_r_3_w2 f_r_3_w2 c_r_4_w2 f_r_4_w2 c_o_0_w2 f_o_0_w2 c_o_1_w2 f_o_1_w2 c_o_2_w2 f_o_2_w2 c_o_3_w2 f_o_3_w2 c_o_4_w2 f_o_4_w2
    replace x_p := x_p.from_ h_w3
    replace x_r := x_r.from_ h_w3
    replace x_o := x_o.from_ h_w3
    replace ou := ou.below h_w3
    replace oF := oF.below h_w3
    replace oT := oT.below h_w3
    have B_w3 := B_w2.trans (h_w3.mono B_w2.size)
    have s_w3 := h_w3.size
    rw [HK.out]
    have c_p_0_w3 := x_p.cell (i := 0) rfl
    have f_p_0_w3 := x_p.frozen 0
    have c_p_1_w3 := x_p.cell (i := 1) rfl
    have f_p_1_w3 := x_p.frozen 1
    have c_p_2_w3 := x_p.cell (i := 2) rfl
    have f_p_2_w3 := x_p.frozen 2
    have c_p_3_w3 := x_p.cell (i := 3) rfl
    have f_p_3_w3 := x_p.frozen 3
    have c_p_4_w3 := x_p.cell (i := 4) rfl
    have f_p_4_w3 := x_p.frozen 4
    have c_r_0_w3 := x_r.cell (i := 0) rfl
    have f_r_0_w3 := x_r.frozen 0
    have c_r_1_w3 := x_r.cell (i := 1) rfl
    have f_r_1_w3 := x_r.frozen 1
    have c_r_2_w3 := x_r.cell (i := 2) rfl
    have f_r_2_w3 := x_r.frozen 2
    have c_r_3_w3 := x_r.cell (i := 3) rfl
    have f_r_3_w3 := x_r.frozen 3
    have c_r_4_w3 := x_r.cell (i := 4) rfl
    have f_r_4_w3 := x_r.frozen 4
    have c_o_0_w3 := x_o.cell (i := 0) rfl
    have f_o_0_w3 := x_o.frozen 0
    have c_o_1_w3 := x_o.cell (i := 1) rfl
    have f_o_1_w3 := x_o.frozen 1
    have c_o_2_w3 := x_o.cell (i := 2) rfl
    have f_o_2_w3 := x_o.frozen 2
    have c_o_3_w3 := x_o.cell (i := 3) rfl
    have f_o_3_w3 := x_o.frozen 3
    have c_o_4_w3 := x_o.cell (i := 4) rfl
    have f_o_4_w3 := x_o.frozen 4
    go_wp2_with fail
    refine (iNode_any _ _).mono ?_
    rintro e w' ⟨rfl, rfl⟩
    rw [HN.out]
    go_wp2_with fail
    refine (iNodes_c (rF.from_ B_w3)).mono ?_
    rintro e w' ⟨rfl, rfl⟩
    go_wp2_with fail
    refine (iHas_c (rF.from_ B_w3) HR.out).mono ?_
    rintro e w4 ⟨rfl, h_w4⟩
    clear c_p_0_w3 f_p_0_w3 c_p_1_w3 f_p_1_w3 c_p_2_w3 f_p_2_w3 c_p_3_w3 f_p_3_w3 c_p_4_w3 f_p_4_w3 c_r_0_w3 f_r_0_w3 c_r_1_w3 f_r_1_w3 c_r_2_w3 f_r_2_w3 c_r_3_w3 f_r_3_w3 c_r_4_w3 f_r_4_w3 c_o_0_w3 f_o_0_w3 c_o_1_w3 f_o_1_w3 c_o_2_w3 f_o_2_w3 c_o_3_w3 f_o_3_w3 c_o_4_w3 f_o_4_w3
    replace x_p := x_p.from_ h_w4
    replace x_r := x_r.from_ h_w4
    replace x_o := x_o.from_ h_w4
    replace ou := ou.below h_w4
    replace oF := oF.below h_w4
    replace oT := oT.below h_w4
    have B_w4 := B_w3.trans (h_w4.mono B_w3.size)
    have s_w4 := h_w4.size
    rw [HH.out]
    have c_p_0_w4 := x_p.cell (i := 0) rfl
    have f_p_0_w4 := x_p.frozen 0
    have c_p_1_w4 := x_p.cell (i := 1) rfl
    have f_p_1_w4 := x_p.frozen 1
    have c_p_2_w4 := x_p.cell (i := 2) rfl
    have f_p_2_w4 := x_p.frozen 2
    have c_p_3_w4 := x_p.cell (i := 3) rfl
    have f_p_3_w4 := x_p.frozen 3
    have c_p_4_w4 := x_p.cell (i := 4) rfl
    have f_p_4_w4 := x_p.frozen 4
    have c_r_0_w4 := x_r.cell (i := 0) rfl
    have f_r_0_w4 := x_r.frozen 0
    have c_r_1_w4 := x_r.cell (i := 1) rfl
    have f_r_1_w4 := x_r.frozen 1
    have c_r_2_w4 := x_r.cell (i := 2) rfl
    have f_r_2_w4 := x_r.frozen 2
    have c_r_3_w4 := x_r.cell (i := 3) rfl
    have f_r_3_w4 := x_r.frozen 3
    have c_r_4_w4 := x_r.cell (i := 4) rfl
    have f_r_4_w4 := x_r.frozen 4
    have c_o_0_w4 := x_o.cell (i := 0) rfl
    have f_o_0_w4 := x_o.frozen 0
    have c_o_1_w4 := x_o.cell (i := 1) rfl
    have f_o_1_w4 := x_o.frozen 1
    have c_o_2_w4 := x_o.cell (i := 2) rfl
    have f_o_2_w4 := x_o.frozen 2
    have c_o_3_w4 := x_o.cell (i := 3) rfl
    have f_o_3_w4 := x_o.frozen 3
    have c_o_4_w4 := x_o.cell (i := 4) rfl
    have f_o_4_w4 := x_o.frozen 4
    obtain ⟨w5, e_w5, s_w5, h_w5, y⟩ := store_step x_r [.int .i64 p.Bal, .int .i64 p.Val, .slice A1 p.From.length c1, .int .i64 p.Best, .slice A2 p.Got.length c2] rfl
    replace e_w5 : (((((w4.setCell ⟨w.heap.size + 1, 0, none⟩ (.int .i64 p.Bal)).setCell ⟨w.heap.size + 1, 1, none⟩ (.int .i64 p.Val)).setCell ⟨w.heap.size + 1, 2, none⟩ (.slice A1 p.From.length c1)).setCell ⟨w.heap.size + 1, 3, none⟩ (.int .i64 p.Best)).setCell ⟨w.heap.size + 1, 4, none⟩ (.slice A2 p.Got.length c2)) = w5 := e_w5
    have s_w5_1 := Nat.le_of_eq s_w5
    have s_w5_2 := Nat.le_of_eq s_w5.symm
    clear s_w5
    replace x_p := x_p.chg h_w5 (by omega)
    replace x_o := x_o.chg h_w5 (by omega)
    replace ou := ou.chg h_w5 (by omega)
    replace oF := oF.chg h_w5 (by omega)
    replace oT := oT.chg h_w5 (by omega)
    have B_w5 := Below.chg_ B_w4 h_w5 (by omega) (by omega)
    replace x_r : Vr w5 (w.heap.size + 1) 26 [.int .i64 p.Bal, .int .i64 p.Val, .slice A1 p.From.length c1, .int .i64 p.Best, .slice A2 p.Got.length c2] := y
    clear y
    have c_r_0_w5 := x_r.cell (i := 0) rfl
    have f_r_0_w5 := x_r.frozen 0
    have c_r_1_w5 := x_r.cell (i := 1) rfl
    have f_r_1_w5 := x_r.frozen 1
    have c_r_2_w5 := x_r.cell (i := 2) rfl
    have f_r_2_w5 := x_r.frozen 2
    have c_r_3_w5 := x_r.cell (i := 3) rfl
    have f_r_3_w5 := x_r.frozen 3
    have c_r_4_w5 := x_r.cell (i := 4) rfl
    have f_r_4_w5 := x_r.frozen 4
    go_wp2
    refine ret_cell (by rfl) (by rfl) x_r Try.underlying26 sz_prop (by rfl) ?_
    rw [HM.out]
    exact ⟨_, rfl, ou.widen (by omega) (by omega) (Nat.le_refl _), B_w5⟩
  have HH := Lib.hid hH
  have hBl := (propOk_bal hK).1
  by_cases hP : promB p.Bal b u = true
  case neg =>
    replace hP : promB p.Bal b u = false := by simpa using hP
    have HP := Lib.hid hP
    have HB9 : Hid (hearB p n b u = false) := by show _ = _; rw [hear_eq]; rw [hP]; simp
    have HM : Hid (propHear p n b u = p) := if_neg (by rw [HB9.out]; decide)
    clear hK hN hH hP
    have HR : Hid (riseB p.From = true) := (propOk_rise HK.out).1
    go_enter Try.func19, Try.ntmps19
    go_wp2_with fail
    refine (iCloneProp_c (h0.from_ B0) hm).mono ?_
    rintro e w1 ⟨u_, rfl, ou, h_w1⟩
    clear c_p_0_wa f_p_0_wa c_p_1_wa f_p_1_wa c_p_2_wa f_p_2_wa c_p_3_wa f_p_3_wa c_p_4_wa f_p_4_wa c_r_0_wa f_r_0_wa c_r_1_wa f_r_1_wa c_r_2_wa f_r_2_wa c_r_3_wa f_r_3_wa c_r_4_wa f_r_4_wa
    replace x_p := x_p.from_ h_w1
    replace x_r := x_r.from_ h_w1
    have B_w1 := B0.trans (h_w1.mono B0.size)
    have s_w1 := h_w1.size
    obtain ⟨A1, c1, A2, c2, rfl, oF, oT⟩ := ov_prop_parts ou
    have c_p_0_w1 := x_p.cell (i := 0) rfl
    have f_p_0_w1 := x_p.frozen 0
    have c_p_1_w1 := x_p.cell (i := 1) rfl
    have f_p_1_w1 := x_p.frozen 1
    have c_p_2_w1 := x_p.cell (i := 2) rfl
    have f_p_2_w1 := x_p.frozen 2
    have c_p_3_w1 := x_p.cell (i := 3) rfl
    have f_p_3_w1 := x_p.frozen 3
    have c_p_4_w1 := x_p.cell (i := 4) rfl
    have f_p_4_w1 := x_p.frozen 4
    have c_r_0_w1 := x_r.cell (i := 0) rfl
    have f_r_0_w1 := x_r.frozen 0
    have c_r_1_w1 := x_r.cell (i := 1) rfl
    have f_r_1_w1 := x_r.frozen 1
    have c_r_2_w1 := x_r.cell (i := 2) rfl
    have f_r_2_w1 := x_r.frozen 2
    have c_r_3_w1 := x_r.cell (i := 3) rfl
    have f_r_3_w1 := x_r.frozen 3
    have c_r_4_w1 := x_r.cell (i := 4) rfl
    have f_r_4_w1 := x_r.frozen 4
    obtain ⟨w2, e_w2, s_w2, h_w2, x_o⟩ := alloc_step w1 26 [.int .i64 p.Bal, .int .i64 p.Val, .slice A1 p.From.length c1, .int .i64 p.Best, .slice A2 p.Got.length c2]
    have s_w2_1 := Nat.le_of_eq s_w2
    have s_w2_2 := Nat.le_of_eq s_w2.symm
    clear s_w2
    replace x_p := x_p.from_ h_w2
    replace x_r := x_r.from_ h_w2
    replace ou := ou.below h_w2
    replace oF := oF.below h_w2
    replace oT := oT.below h_w2
    have B_w2 := B_w1.trans (h_w2.mono B_w1.size)
    have c_p_0_w2 := x_p.cell (i := 0) rfl
    have f_p_0_w2 := x_p.frozen 0
    have c_p_1_w2 := x_p.cell (i := 1) rfl
    have f_p_1_w2 := x_p.frozen 1
    have c_p_2_w2 := x_p.cell (i := 2) rfl
    have f_p_2_w2 := x_p.frozen 2
    have c_p_3_w2 := x_p.cell (i := 3) rfl
    have f_p_3_w2 := x_p.frozen 3
    have c_p_4_w2 := x_p.cell (i := 4) rfl
    have f_p_4_w2 := x_p.frozen 4
    have c_r_0_w2 := x_r.cell (i := 0) rfl
    have f_r_0_w2 := x_r.frozen 0
    have c_r_1_w2 := x_r.cell (i := 1) rfl
    have f_r_1_w2 := x_r.frozen 1
    have c_r_2_w2 := x_r.cell (i := 2) rfl
    have f_r_2_w2 := x_r.frozen 2
    have c_r_3_w2 := x_r.cell (i := 3) rfl
    have f_r_3_w2 := x_r.frozen 3
    have c_r_4_w2 := x_r.cell (i := 4) rfl
    have f_r_4_w2 := x_r.frozen 4
    have c_o_0_w2 := x_o.cell (i := 0) rfl
    have f_o_0_w2 := x_o.frozen 0
    have c_o_1_w2 := x_o.cell (i := 1) rfl
    have f_o_1_w2 := x_o.frozen 1
    have c_o_2_w2 := x_o.cell (i := 2) rfl
    have f_o_2_w2 := x_o.frozen 2
    have c_o_3_w2 := x_o.cell (i := 3) rfl
    have f_o_3_w2 := x_o.frozen 3
    have c_o_4_w2 := x_o.cell (i := 4) rfl
    have f_o_4_w2 := x_o.frozen 4
    go_wp2_with fail
    refine (iPropOk_x (h0.from_ B_w2)).mono ?_
    rintro e w3 ⟨rfl, h_w3⟩
    clear c_p_0_w1 f_p_0_w1 c_p_1_w1 f_p_1_w1 c_p_2_w1 f_p_2_w1 c_p_3_w1 f_p_3_w1 c_p_4_w1 f_p_4_w1 c_r_0_w1 f_r_0_w1 c_r_1_w1 f_r_1_w1 c_r_2_w1 f_r_2_w1 c_r_3_w1 f_r_3_w1 c_r_4_w1 f_r_4_w1 c_p_0_w2 f_p_0_w2 c_p_1_w2 f_p_1_w2 c_p_2_w2 f_p_2_w2 c_p_3_w2 f_p_3_w2 c_p_4_w2 f_p_4_w2 c_r_0_w2 f_r_0_w2 c_r_1_w2 f_r_1_w2 c_r_2_w2 f_r_2_w2 c_r_3_w2 f_r_3_w2 c_r_4_w2 f_r_4_w2 c_o_0_w2 f_o_0_w2 c_o_1_w2 f_o_1_w2 c_o_2_w2 f_o_2_w2 c_o_3_w2 f_o_3_w2 c_o_4_w2 f_o_4_w2
    replace x_p := x_p.from_ h_w3
    replace x_r := x_r.from_ h_w3
    replace x_o := x_o.from_ h_w3
    replace ou := ou.below h_w3
    replace oF := oF.below h_w3
    replace oT := oT.below h_w3
    have B_w3 := B_w2.trans (h_w3.mono B_w2.size)
    have s_w3 := h_w3.size
    rw [HK.out]
    have c_p_0_w3 := x_p.cell (i := 0) rfl
    have f_p_0_w3 := x_p.frozen 0
    have c_p_1_w3 := x_p.cell (i := 1) rfl
    have f_p_1_w3 := x_p.frozen 1
    have c_p_2_w3 := x_p.cell (i := 2) rfl
    have f_p_2_w3 := x_p.frozen 2
    have c_p_3_w3 := x_p.cell (i := 3) rfl
    have f_p_3_w3 := x_p.frozen 3
    have c_p_4_w3 := x_p.cell (i := 4) rfl
    have f_p_4_w3 := x_p.frozen 4
    have c_r_0_w3 := x_r.cell (i := 0) rfl
    have f_r_0_w3 := x_r.frozen 0
    have c_r_1_w3 := x_r.cell (i := 1) rfl
    have f_r_1_w3 := x_r.frozen 1
    have c_r_2_w3 := x_r.cell (i := 2) rfl
    have f_r_2_w3 := x_r.frozen 2
    have c_r_3_w3 := x_r.cell (i := 3) rfl
    have f_r_3_w3 := x_r.frozen 3
    have c_r_4_w3 := x_r.cell (i := 4) rfl
    have f_r_4_w3 := x_r.frozen 4
    have c_o_0_w3 := x_o.cell (i := 0) rfl
    have f_o_0_w3 := x_o.frozen 0
    have c_o_1_w3 := x_o.cell (i := 1) rfl
    have f_o_1_w3 := x_o.frozen 1
    have c_o_2_w3 := x_o.cell (i := 2) rfl
    have f_o_2_w3 := x_o.frozen 2
    have c_o_3_w3 := x_o.cell (i := 3) rfl
    have f_o_3_w3 := x_o.frozen 3
    have c_o_4_w3 := x_o.cell (i := 4) rfl
    have f_o_4_w3 := x_o.frozen 4
    go_wp2_with fail
    refine (iNode_any _ _).mono ?_
    rintro e w' ⟨rfl, rfl⟩
    rw [HN.out]
    go_wp2_with fail
    refine (iNodes_c (rF.from_ B_w3)).mono ?_
    rintro e w' ⟨rfl, rfl⟩
    go_wp2_with fail
    refine (iHas_c (rF.from_ B_w3) HR.out).mono ?_
    rintro e w4 ⟨rfl, h_w4⟩
    clear c_p_0_w3 f_p_0_w3 c_p_1_w3 f_p_1_w3 c_p_2_w3 f_p_2_w3 c_p_3_w3 f_p_3_w3 c_p_4_w3 f_p_4_w3 c_r_0_w3 f_r_0_w3 c_r_1_w3 f_r_1_w3 c_r_2_w3 f_r_2_w3 c_r_3_w3 f_r_3_w3 c_r_4_w3 f_r_4_w3 c_o_0_w3 f_o_0_w3 c_o_1_w3 f_o_1_w3 c_o_2_w3 f_o_2_w3 c_o_3_w3 f_o_3_w3 c_o_4_w3 f_o_4_w3
    replace x_p := x_p.from_ h_w4
    replace x_r := x_r.from_ h_w4
    replace x_o := x_o.from_ h_w4
    replace ou := ou.below h_w4
    replace oF := oF.below h_w4
    replace oT := oT.below h_w4
    have B_w4 := B_w3.trans (h_w4.mono B_w3.size)
    have s_w4 := h_w4.size
    rw [HH.out]
    have c_p_0_w4 := x_p.cell (i := 0) rfl
    have f_p_0_w4 := x_p.frozen 0
    have c_p_1_w4 := x_p.cell (i := 1) rfl
    have f_p_1_w4 := x_p.frozen 1
    have c_p_2_w4 := x_p.cell (i := 2) rfl
    have f_p_2_w4 := x_p.frozen 2
    have c_p_3_w4 := x_p.cell (i := 3) rfl
    have f_p_3_w4 := x_p.frozen 3
    have c_p_4_w4 := x_p.cell (i := 4) rfl
    have f_p_4_w4 := x_p.frozen 4
    have c_r_0_w4 := x_r.cell (i := 0) rfl
    have f_r_0_w4 := x_r.frozen 0
    have c_r_1_w4 := x_r.cell (i := 1) rfl
    have f_r_1_w4 := x_r.frozen 1
    have c_r_2_w4 := x_r.cell (i := 2) rfl
    have f_r_2_w4 := x_r.frozen 2
    have c_r_3_w4 := x_r.cell (i := 3) rfl
    have f_r_3_w4 := x_r.frozen 3
    have c_r_4_w4 := x_r.cell (i := 4) rfl
    have f_r_4_w4 := x_r.frozen 4
    have c_o_0_w4 := x_o.cell (i := 0) rfl
    have f_o_0_w4 := x_o.frozen 0
    have c_o_1_w4 := x_o.cell (i := 1) rfl
    have f_o_1_w4 := x_o.frozen 1
    have c_o_2_w4 := x_o.cell (i := 2) rfl
    have f_o_2_w4 := x_o.frozen 2
    have c_o_3_w4 := x_o.cell (i := 3) rfl
    have f_o_3_w4 := x_o.frozen 3
    have c_o_4_w4 := x_o.cell (i := 4) rfl
    have f_o_4_w4 := x_o.frozen 4
    go_wp2_with fail
    refine (iProm_any _ _ _ hBl _).mono ?_
    rintro e w' ⟨rfl, rfl⟩
    rw [HP.out]
    obtain ⟨w5, e_w5, s_w5, h_w5, y⟩ := store_step x_r [.int .i64 p.Bal, .int .i64 p.Val, .slice A1 p.From.length c1, .int .i64 p.Best, .slice A2 p.Got.length c2] rfl
    replace e_w5 : (((((w4.setCell ⟨w.heap.size + 1, 0, none⟩ (.int .i64 p.Bal)).setCell ⟨w.heap.size + 1, 1, none⟩ (.int .i64 p.Val)).setCell ⟨w.heap.size + 1, 2, none⟩ (.slice A1 p.From.length c1)).setCell ⟨w.heap.size + 1, 3, none⟩ (.int .i64 p.Best)).setCell ⟨w.heap.size + 1, 4, none⟩ (.slice A2 p.Got.length c2)) = w5 := e_w5
    have s_w5_1 := Nat.le_of_eq s_w5
    have s_w5_2 := Nat.le_of_eq s_w5.symm
    clear s_w5
    replace x_p := x_p.chg h_w5 (by omega)
    replace x_o := x_o.chg h_w5 (by omega)
    replace ou := ou.chg h_w5 (by omega)
    replace oF := oF.chg h_w5 (by omega)
    replace oT := oT.chg h_w5 (by omega)
    have B_w5 := Below.chg_ B_w4 h_w5 (by omega) (by omega)
    replace x_r : Vr w5 (w.heap.size + 1) 26 [.int .i64 p.Bal, .int .i64 p.Val, .slice A1 p.From.length c1, .int .i64 p.Best, .slice A2 p.Got.length c2] := y
    clear y
    have c_r_0_w5 := x_r.cell (i := 0) rfl
    have f_r_0_w5 := x_r.frozen 0
    have c_r_1_w5 := x_r.cell (i := 1) rfl
    have f_r_1_w5 := x_r.frozen 1
    have c_r_2_w5 := x_r.cell (i := 2) rfl
    have f_r_2_w5 := x_r.frozen 2
    have c_r_3_w5 := x_r.cell (i := 3) rfl
    have f_r_3_w5 := x_r.frozen 3
    have c_r_4_w5 := x_r.cell (i := 4) rfl
    have f_r_4_w5 := x_r.frozen 4
    go_wp2
    refine ret_cell (by rfl) (by rfl) x_r Try.underlying26 sz_prop (by rfl) ?_
    rw [HM.out]
    exact ⟨_, rfl, ou.widen (by omega) (by omega) (Nat.le_refl _), B_w5⟩
  have HP := Lib.hid hP
  have HB9 : Hid (hearB p n b u = true) := by show _ = _; rw [hear_eq, hK, hN, hH, hP]; rfl
  have HR : Hid (riseB p.From = true) := (propOk_rise HK.out).1
  obtain ⟨G, hG⟩ : ∃ G, addI p.From n = G := ⟨_, rfl⟩
  have HG := Lib.hid hG
  by_cases hbest : p.Best < b
  case pos =>
    have HM : Hid (propHear p n b u = ⟨p.Bal, u, G, b, p.Got⟩) := by show _ = _; unfold propHear; rw [if_pos HB9.out, if_pos hbest, hG]
    have g5 : decide (p.Best < b) = true := decide_eq_true hbest
    clear hG hK hN hH hP
    go_enter Try.func19, Try.ntmps19
    go_wp2_with fail
    refine (iCloneProp_c (h0.from_ B0) hm).mono ?_
    rintro e w1 ⟨u_, rfl, ou, h_w1⟩
    clear c_p_0_wa f_p_0_wa c_p_1_wa f_p_1_wa c_p_2_wa f_p_2_wa c_p_3_wa f_p_3_wa c_p_4_wa f_p_4_wa c_r_0_wa f_r_0_wa c_r_1_wa f_r_1_wa c_r_2_wa f_r_2_wa c_r_3_wa f_r_3_wa c_r_4_wa f_r_4_wa
    replace x_p := x_p.from_ h_w1
    replace x_r := x_r.from_ h_w1
    have B_w1 := B0.trans (h_w1.mono B0.size)
    have s_w1 := h_w1.size
    obtain ⟨A1, c1, A2, c2, rfl, oF, oT⟩ := ov_prop_parts ou
    have c_p_0_w1 := x_p.cell (i := 0) rfl
    have f_p_0_w1 := x_p.frozen 0
    have c_p_1_w1 := x_p.cell (i := 1) rfl
    have f_p_1_w1 := x_p.frozen 1
    have c_p_2_w1 := x_p.cell (i := 2) rfl
    have f_p_2_w1 := x_p.frozen 2
    have c_p_3_w1 := x_p.cell (i := 3) rfl
    have f_p_3_w1 := x_p.frozen 3
    have c_p_4_w1 := x_p.cell (i := 4) rfl
    have f_p_4_w1 := x_p.frozen 4
    have c_r_0_w1 := x_r.cell (i := 0) rfl
    have f_r_0_w1 := x_r.frozen 0
    have c_r_1_w1 := x_r.cell (i := 1) rfl
    have f_r_1_w1 := x_r.frozen 1
    have c_r_2_w1 := x_r.cell (i := 2) rfl
    have f_r_2_w1 := x_r.frozen 2
    have c_r_3_w1 := x_r.cell (i := 3) rfl
    have f_r_3_w1 := x_r.frozen 3
    have c_r_4_w1 := x_r.cell (i := 4) rfl
    have f_r_4_w1 := x_r.frozen 4
    obtain ⟨w2, e_w2, s_w2, h_w2, x_o⟩ := alloc_step w1 26 [.int .i64 p.Bal, .int .i64 p.Val, .slice A1 p.From.length c1, .int .i64 p.Best, .slice A2 p.Got.length c2]
    have s_w2_1 := Nat.le_of_eq s_w2
    have s_w2_2 := Nat.le_of_eq s_w2.symm
    clear s_w2
    replace x_p := x_p.from_ h_w2
    replace x_r := x_r.from_ h_w2
    replace ou := ou.below h_w2
    replace oF := oF.below h_w2
    replace oT := oT.below h_w2
    have B_w2 := B_w1.trans (h_w2.mono B_w1.size)
    have c_p_0_w2 := x_p.cell (i := 0) rfl
    have f_p_0_w2 := x_p.frozen 0
    have c_p_1_w2 := x_p.cell (i := 1) rfl
    have f_p_1_w2 := x_p.frozen 1
    have c_p_2_w2 := x_p.cell (i := 2) rfl
    have f_p_2_w2 := x_p.frozen 2
    have c_p_3_w2 := x_p.cell (i := 3) rfl
    have f_p_3_w2 := x_p.frozen 3
    have c_p_4_w2 := x_p.cell (i := 4) rfl
    have f_p_4_w2 := x_p.frozen 4
    have c_r_0_w2 := x_r.cell (i := 0) rfl
    have f_r_0_w2 := x_r.frozen 0
    have c_r_1_w2 := x_r.cell (i := 1) rfl
    have f_r_1_w2 := x_r.frozen 1
    have c_r_2_w2 := x_r.cell (i := 2) rfl
    have f_r_2_w2 := x_r.frozen 2
    have c_r_3_w2 := x_r.cell (i := 3) rfl
    have f_r_3_w2 := x_r.frozen 3
    have c_r_4_w2 := x_r.cell (i := 4) rfl
    have f_r_4_w2 := x_r.frozen 4
    have c_o_0_w2 := x_o.cell (i := 0) rfl
    have f_o_0_w2 := x_o.frozen 0
    have c_o_1_w2 := x_o.cell (i := 1) rfl
    have f_o_1_w2 := x_o.frozen 1
    have c_o_2_w2 := x_o.cell (i := 2) rfl
    have f_o_2_w2 := x_o.frozen 2
    have c_o_3_w2 := x_o.cell (i := 3) rfl
    have f_o_3_w2 := x_o.frozen 3
    have c_o_4_w2 := x_o.cell (i := 4) rfl
    have f_o_4_w2 := x_o.frozen 4
    go_wp2_with fail
    refine (iPropOk_x (h0.from_ B_w2)).mono ?_
    rintro e w3 ⟨rfl, h_w3⟩
    clear c_p_0_w1 f_p_0_w1 c_p_1_w1 f_p_1_w1 c_p_2_w1 f_p_2_w1 c_p_3_w1 f_p_3_w1 c_p_4_w1 f_p_4_w1 c_r_0_w1 f_r_0_w1 c_r_1_w1 f_r_1_w1 c_r_2_w1 f_r_2_w1 c_r_3_w1 f_r_3_w1 c_r_4_w1 f_r_4_w1 c_p_0_w2 f_p_0_w2 c_p_1_w2 f_p_1_w2 c_p_2_w2 f_p_2_w2 c_p_3_w2 f_p_3_w2 c_p_4_w2 f_p_4_w2 c_r_0_w2 f_r_0_w2 c_r_1_w2 f_r_1_w2 c_r_2_w2 f_r_2_w2 c_r_3_w2 f_r_3_w2 c_r_4_w2 f_r_4_w2 c_o_0_w2 f_o_0_w2 c_o_1_w2 f_o_1_w2 c_o_2_w2 f_o_2_w2 c_o_3_w2 f_o_3_w2 c_o_4_w2 f_o_4_w2
    replace x_p := x_p.from_ h_w3
    replace x_r := x_r.from_ h_w3
    replace x_o := x_o.from_ h_w3
    replace ou := ou.below h_w3
    replace oF := oF.below h_w3
    replace oT := oT.below h_w3
    have B_w3 := B_w2.trans (h_w3.mono B_w2.size)
    have s_w3 := h_w3.size
    rw [HK.out]
    have c_p_0_w3 := x_p.cell (i := 0) rfl
    have f_p_0_w3 := x_p.frozen 0
    have c_p_1_w3 := x_p.cell (i := 1) rfl
    have f_p_1_w3 := x_p.frozen 1
    have c_p_2_w3 := x_p.cell (i := 2) rfl
    have f_p_2_w3 := x_p.frozen 2
    have c_p_3_w3 := x_p.cell (i := 3) rfl
    have f_p_3_w3 := x_p.frozen 3
    have c_p_4_w3 := x_p.cell (i := 4) rfl
    have f_p_4_w3 := x_p.frozen 4
    have c_r_0_w3 := x_r.cell (i := 0) rfl
    have f_r_0_w3 := x_r.frozen 0
    have c_r_1_w3 := x_r.cell (i := 1) rfl
    have f_r_1_w3 := x_r.frozen 1
    have c_r_2_w3 := x_r.cell (i := 2) rfl
    have f_r_2_w3 := x_r.frozen 2
    have c_r_3_w3 := x_r.cell (i := 3) rfl
    have f_r_3_w3 := x_r.frozen 3
    have c_r_4_w3 := x_r.cell (i := 4) rfl
    have f_r_4_w3 := x_r.frozen 4
    have c_o_0_w3 := x_o.cell (i := 0) rfl
    have f_o_0_w3 := x_o.frozen 0
    have c_o_1_w3 := x_o.cell (i := 1) rfl
    have f_o_1_w3 := x_o.frozen 1
    have c_o_2_w3 := x_o.cell (i := 2) rfl
    have f_o_2_w3 := x_o.frozen 2
    have c_o_3_w3 := x_o.cell (i := 3) rfl
    have f_o_3_w3 := x_o.frozen 3
    have c_o_4_w3 := x_o.cell (i := 4) rfl
    have f_o_4_w3 := x_o.frozen 4
    go_wp2_with fail
    refine (iNode_any _ _).mono ?_
    rintro e w' ⟨rfl, rfl⟩
    rw [HN.out]
    go_wp2_with fail
    refine (iNodes_c (rF.from_ B_w3)).mono ?_
    rintro e w' ⟨rfl, rfl⟩
    go_wp2_with fail
    refine (iHas_c (rF.from_ B_w3) HR.out).mono ?_
    rintro e w4 ⟨rfl, h_w4⟩
    clear c_p_0_w3 f_p_0_w3 c_p_1_w3 f_p_1_w3 c_p_2_w3 f_p_2_w3 c_p_3_w3 f_p_3_w3 c_p_4_w3 f_p_4_w3 c_r_0_w3 f_r_0_w3 c_r_1_w3 f_r_1_w3 c_r_2_w3 f_r_2_w3 c_r_3_w3 f_r_3_w3 c_r_4_w3 f_r_4_w3 c_o_0_w3 f_o_0_w3 c_o_1_w3 f_o_1_w3 c_o_2_w3 f_o_2_w3 c_o_3_w3 f_o_3_w3 c_o_4_w3 f_o_4_w3
    replace x_p := x_p.from_ h_w4
    replace x_r := x_r.from_ h_w4
    replace x_o := x_o.from_ h_w4
    replace ou := ou.below h_w4
    replace oF := oF.below h_w4
    replace oT := oT.below h_w4
    have B_w4 := B_w3.trans (h_w4.mono B_w3.size)
    have s_w4 := h_w4.size
    rw [HH.out]
    have c_p_0_w4 := x_p.cell (i := 0) rfl
    have f_p_0_w4 := x_p.frozen 0
    have c_p_1_w4 := x_p.cell (i := 1) rfl
    have f_p_1_w4 := x_p.frozen 1
    have c_p_2_w4 := x_p.cell (i := 2) rfl
    have f_p_2_w4 := x_p.frozen 2
    have c_p_3_w4 := x_p.cell (i := 3) rfl
    have f_p_3_w4 := x_p.frozen 3
    have c_p_4_w4 := x_p.cell (i := 4) rfl
    have f_p_4_w4 := x_p.frozen 4
    have c_r_0_w4 := x_r.cell (i := 0) rfl
    have f_r_0_w4 := x_r.frozen 0
    have c_r_1_w4 := x_r.cell (i := 1) rfl
    have f_r_1_w4 := x_r.frozen 1
    have c_r_2_w4 := x_r.cell (i := 2) rfl
    have f_r_2_w4 := x_r.frozen 2
    have c_r_3_w4 := x_r.cell (i := 3) rfl
    have f_r_3_w4 := x_r.frozen 3
    have c_r_4_w4 := x_r.cell (i := 4) rfl
    have f_r_4_w4 := x_r.frozen 4
    have c_o_0_w4 := x_o.cell (i := 0) rfl
    have f_o_0_w4 := x_o.frozen 0
    have c_o_1_w4 := x_o.cell (i := 1) rfl
    have f_o_1_w4 := x_o.frozen 1
    have c_o_2_w4 := x_o.cell (i := 2) rfl
    have f_o_2_w4 := x_o.frozen 2
    have c_o_3_w4 := x_o.cell (i := 3) rfl
    have f_o_3_w4 := x_o.frozen 3
    have c_o_4_w4 := x_o.cell (i := 4) rfl
    have f_o_4_w4 := x_o.frozen 4
    go_wp2_with fail
    refine (iProm_any _ _ _ hBl _).mono ?_
    rintro e w' ⟨rfl, rfl⟩
    rw [HP.out]
    go_wp2_with fail
    refine (iNodes_c (rF.from_ B_w4)).mono ?_
    rintro e w' ⟨rfl, rfl⟩
    go_wp2_with fail
    refine (iWith_new (n := n) (rF.from_ B_w4) HR.out HH.out).mono ?_
    rintro e w5 ⟨v2, rfl, o_g, h_w5⟩
    clear c_p_0_w4 f_p_0_w4 c_p_1_w4 f_p_1_w4 c_p_2_w4 f_p_2_w4 c_p_3_w4 f_p_3_w4 c_p_4_w4 f_p_4_w4 c_r_0_w4 f_r_0_w4 c_r_1_w4 f_r_1_w4 c_r_2_w4 f_r_2_w4 c_r_3_w4 f_r_3_w4 c_r_4_w4 f_r_4_w4 c_o_0_w4 f_o_0_w4 c_o_1_w4 f_o_1_w4 c_o_2_w4 f_o_2_w4 c_o_3_w4 f_o_3_w4 c_o_4_w4 f_o_4_w4
    replace x_p := x_p.from_ h_w5
    replace x_r := x_r.from_ h_w5
    replace x_o := x_o.from_ h_w5
    replace ou := ou.below h_w5
    replace oF := oF.below h_w5
    replace oT := oT.below h_w5
    have B_w5 := B_w4.trans (h_w5.mono B_w4.size)
    have s_w5 := h_w5.size
    rw [HG.out] at o_g
    obtain ⟨Ag, cg, rfl, -, -, -⟩ := o_g.rd
    have c_p_0_w5 := x_p.cell (i := 0) rfl
    have f_p_0_w5 := x_p.frozen 0
    have c_p_1_w5 := x_p.cell (i := 1) rfl
    have f_p_1_w5 := x_p.frozen 1
    have c_p_2_w5 := x_p.cell (i := 2) rfl
    have f_p_2_w5 := x_p.frozen 2
    have c_p_3_w5 := x_p.cell (i := 3) rfl
    have f_p_3_w5 := x_p.frozen 3
    have c_p_4_w5 := x_p.cell (i := 4) rfl
    have f_p_4_w5 := x_p.frozen 4
    have c_r_0_w5 := x_r.cell (i := 0) rfl
    have f_r_0_w5 := x_r.frozen 0
    have c_r_1_w5 := x_r.cell (i := 1) rfl
    have f_r_1_w5 := x_r.frozen 1
    have c_r_2_w5 := x_r.cell (i := 2) rfl
    have f_r_2_w5 := x_r.frozen 2
    have c_r_3_w5 := x_r.cell (i := 3) rfl
    have f_r_3_w5 := x_r.frozen 3
    have c_r_4_w5 := x_r.cell (i := 4) rfl
    have f_r_4_w5 := x_r.frozen 4
    have c_o_0_w5 := x_o.cell (i := 0) rfl
    have f_o_0_w5 := x_o.frozen 0
    have c_o_1_w5 := x_o.cell (i := 1) rfl
    have f_o_1_w5 := x_o.frozen 1
    have c_o_2_w5 := x_o.cell (i := 2) rfl
    have f_o_2_w5 := x_o.frozen 2
    have c_o_3_w5 := x_o.cell (i := 3) rfl
    have f_o_3_w5 := x_o.frozen 3
    have c_o_4_w5 := x_o.cell (i := 4) rfl
    have f_o_4_w5 := x_o.frozen 4
    obtain ⟨w6, e_w6, s_w6, h_w6, y⟩ := set_step x_o 2 (.slice Ag G.length cg)
    have s_w6_1 := Nat.le_of_eq s_w6
    have s_w6_2 := Nat.le_of_eq s_w6.symm
    clear s_w6
    replace x_p := x_p.chg h_w6 (by omega)
    replace x_r := x_r.chg h_w6 (by omega)
    replace ou := ou.chg h_w6 (by omega)
    replace oF := oF.chg h_w6 (by omega)
    replace oT := oT.chg h_w6 (by omega)
    replace o_g := o_g.chg h_w6 (by omega)
    have B_w6 := Below.chg_ B_w5 h_w6 (by omega) (by omega)
    replace x_o : Vr w6 (w1.heap.size) 26 [.int .i64 p.Bal, .int .i64 p.Val, .slice Ag G.length cg, .int .i64 p.Best, .slice A2 p.Got.length c2] := y
    clear y
    have c_p_0_w6 := x_p.cell (i := 0) rfl
    have f_p_0_w6 := x_p.frozen 0
    have c_p_1_w6 := x_p.cell (i := 1) rfl
    have f_p_1_w6 := x_p.frozen 1
    have c_p_2_w6 := x_p.cell (i := 2) rfl
    have f_p_2_w6 := x_p.frozen 2
    have c_p_3_w6 := x_p.cell (i := 3) rfl
    have f_p_3_w6 := x_p.frozen 3
    have c_p_4_w6 := x_p.cell (i := 4) rfl
    have f_p_4_w6 := x_p.frozen 4
    have c_r_0_w6 := x_r.cell (i := 0) rfl
    have f_r_0_w6 := x_r.frozen 0
    have c_r_1_w6 := x_r.cell (i := 1) rfl
    have f_r_1_w6 := x_r.frozen 1
    have c_r_2_w6 := x_r.cell (i := 2) rfl
    have f_r_2_w6 := x_r.frozen 2
    have c_r_3_w6 := x_r.cell (i := 3) rfl
    have f_r_3_w6 := x_r.frozen 3
    have c_r_4_w6 := x_r.cell (i := 4) rfl
    have f_r_4_w6 := x_r.frozen 4
    have c_o_0_w6 := x_o.cell (i := 0) rfl
    have f_o_0_w6 := x_o.frozen 0
    have c_o_1_w6 := x_o.cell (i := 1) rfl
    have f_o_1_w6 := x_o.frozen 1
    have c_o_2_w6 := x_o.cell (i := 2) rfl
    have f_o_2_w6 := x_o.frozen 2
    have c_o_3_w6 := x_o.cell (i := 3) rfl
    have f_o_3_w6 := x_o.frozen 3
    have c_o_4_w6 := x_o.cell (i := 4) rfl
    have f_o_4_w6 := x_o.frozen 4
    obtain ⟨w7, e_w7, s_w7, h_w7, y⟩ := set_step x_o 3 (.int .i64 b)
    have s_w7_1 := Nat.le_of_eq s_w7
    have s_w7_2 := Nat.le_of_eq s_w7.symm
    clear s_w7
    replace x_p := x_p.chg h_w7 (by omega)
    replace x_r := x_r.chg h_w7 (by omega)
    replace ou := ou.chg h_w7 (by omega)
    replace oF := oF.chg h_w7 (by omega)
    replace oT := oT.chg h_w7 (by omega)
    replace o_g := o_g.chg h_w7 (by omega)
    have B_w7 := Below.chg_ B_w6 h_w7 (by omega) (by omega)
    replace x_o : Vr w7 (w1.heap.size) 26 [.int .i64 p.Bal, .int .i64 p.Val, .slice Ag G.length cg, .int .i64 b, .slice A2 p.Got.length c2] := y
    clear y
    have c_p_0_w7 := x_p.cell (i := 0) rfl
    have f_p_0_w7 := x_p.frozen 0
    have c_p_1_w7 := x_p.cell (i := 1) rfl
    have f_p_1_w7 := x_p.frozen 1
    have c_p_2_w7 := x_p.cell (i := 2) rfl
    have f_p_2_w7 := x_p.frozen 2
    have c_p_3_w7 := x_p.cell (i := 3) rfl
    have f_p_3_w7 := x_p.frozen 3
    have c_p_4_w7 := x_p.cell (i := 4) rfl
    have f_p_4_w7 := x_p.frozen 4
    have c_r_0_w7 := x_r.cell (i := 0) rfl
    have f_r_0_w7 := x_r.frozen 0
    have c_r_1_w7 := x_r.cell (i := 1) rfl
    have f_r_1_w7 := x_r.frozen 1
    have c_r_2_w7 := x_r.cell (i := 2) rfl
    have f_r_2_w7 := x_r.frozen 2
    have c_r_3_w7 := x_r.cell (i := 3) rfl
    have f_r_3_w7 := x_r.frozen 3
    have c_r_4_w7 := x_r.cell (i := 4) rfl
    have f_r_4_w7 := x_r.frozen 4
    have c_o_0_w7 := x_o.cell (i := 0) rfl
    have f_o_0_w7 := x_o.frozen 0
    have c_o_1_w7 := x_o.cell (i := 1) rfl
    have f_o_1_w7 := x_o.frozen 1
    have c_o_2_w7 := x_o.cell (i := 2) rfl
    have f_o_2_w7 := x_o.frozen 2
    have c_o_3_w7 := x_o.cell (i := 3) rfl
    have f_o_3_w7 := x_o.frozen 3
    have c_o_4_w7 := x_o.cell (i := 4) rfl
    have f_o_4_w7 := x_o.frozen 4
    obtain ⟨w8, e_w8, s_w8, h_w8, y⟩ := set_step x_o 1 (.int .i64 u)
    have s_w8_1 := Nat.le_of_eq s_w8
    have s_w8_2 := Nat.le_of_eq s_w8.symm
    clear s_w8
    replace x_p := x_p.chg h_w8 (by omega)
    replace x_r := x_r.chg h_w8 (by omega)
    replace ou := ou.chg h_w8 (by omega)
    replace oF := oF.chg h_w8 (by omega)
    replace oT := oT.chg h_w8 (by omega)
    replace o_g := o_g.chg h_w8 (by omega)
    have B_w8 := Below.chg_ B_w7 h_w8 (by omega) (by omega)
    replace x_o : Vr w8 (w1.heap.size) 26 [.int .i64 p.Bal, .int .i64 u, .slice Ag G.length cg, .int .i64 b, .slice A2 p.Got.length c2] := y
    clear y
    have c_p_0_w8 := x_p.cell (i := 0) rfl
    have f_p_0_w8 := x_p.frozen 0
    have c_p_1_w8 := x_p.cell (i := 1) rfl
    have f_p_1_w8 := x_p.frozen 1
    have c_p_2_w8 := x_p.cell (i := 2) rfl
    have f_p_2_w8 := x_p.frozen 2
    have c_p_3_w8 := x_p.cell (i := 3) rfl
    have f_p_3_w8 := x_p.frozen 3
    have c_p_4_w8 := x_p.cell (i := 4) rfl
    have f_p_4_w8 := x_p.frozen 4
    have c_r_0_w8 := x_r.cell (i := 0) rfl
    have f_r_0_w8 := x_r.frozen 0
    have c_r_1_w8 := x_r.cell (i := 1) rfl
    have f_r_1_w8 := x_r.frozen 1
    have c_r_2_w8 := x_r.cell (i := 2) rfl
    have f_r_2_w8 := x_r.frozen 2
    have c_r_3_w8 := x_r.cell (i := 3) rfl
    have f_r_3_w8 := x_r.frozen 3
    have c_r_4_w8 := x_r.cell (i := 4) rfl
    have f_r_4_w8 := x_r.frozen 4
    have c_o_0_w8 := x_o.cell (i := 0) rfl
    have f_o_0_w8 := x_o.frozen 0
    have c_o_1_w8 := x_o.cell (i := 1) rfl
    have f_o_1_w8 := x_o.frozen 1
    have c_o_2_w8 := x_o.cell (i := 2) rfl
    have f_o_2_w8 := x_o.frozen 2
    have c_o_3_w8 := x_o.cell (i := 3) rfl
    have f_o_3_w8 := x_o.frozen 3
    have c_o_4_w8 := x_o.cell (i := 4) rfl
    have f_o_4_w8 := x_o.frozen 4
    obtain ⟨w9, e_w9, s_w9, h_w9, y⟩ := store_step x_r [.int .i64 p.Bal, .int .i64 u, .slice Ag G.length cg, .int .i64 b, .slice A2 p.Got.length c2] rfl
    replace e_w9 : (((((w8.setCell ⟨w.heap.size + 1, 0, none⟩ (.int .i64 p.Bal)).setCell ⟨w.heap.size + 1, 1, none⟩ (.int .i64 u)).setCell ⟨w.heap.size + 1, 2, none⟩ (.slice Ag G.length cg)).setCell ⟨w.heap.size + 1, 3, none⟩ (.int .i64 b)).setCell ⟨w.heap.size + 1, 4, none⟩ (.slice A2 p.Got.length c2)) = w9 := e_w9
    have s_w9_1 := Nat.le_of_eq s_w9
    have s_w9_2 := Nat.le_of_eq s_w9.symm
    clear s_w9
    replace x_p := x_p.chg h_w9 (by omega)
    replace x_o := x_o.chg h_w9 (by omega)
    replace ou := ou.chg h_w9 (by omega)
    replace oF := oF.chg h_w9 (by omega)
    replace oT := oT.chg h_w9 (by omega)
    replace o_g := o_g.chg h_w9 (by omega)
    have B_w9 := Below.chg_ B_w8 h_w9 (by omega) (by omega)
    replace x_r : Vr w9 (w.heap.size + 1) 26 [.int .i64 p.Bal, .int .i64 u, .slice Ag G.length cg, .int .i64 b, .slice A2 p.Got.length c2] := y
    clear y
    have c_r_0_w9 := x_r.cell (i := 0) rfl
    have f_r_0_w9 := x_r.frozen 0
    have c_r_1_w9 := x_r.cell (i := 1) rfl
    have f_r_1_w9 := x_r.frozen 1
    have c_r_2_w9 := x_r.cell (i := 2) rfl
    have f_r_2_w9 := x_r.frozen 2
    have c_r_3_w9 := x_r.cell (i := 3) rfl
    have f_r_3_w9 := x_r.frozen 3
    have c_r_4_w9 := x_r.cell (i := 4) rfl
    have f_r_4_w9 := x_r.frozen 4
    go_wp2
    refine ret_cell (by rfl) (by rfl) x_r Try.underlying26 sz_prop (by rfl) ?_
    rw [HM.out]
    exact ⟨_, rfl, ov_prop (d := ⟨p.Bal, u, G, b, p.Got⟩) o_g oT (by omega), B_w9⟩
  case neg =>
    have HM : Hid (propHear p n b u = ⟨p.Bal, p.Val, G, p.Best, p.Got⟩) := by show _ = _; unfold propHear; rw [if_pos HB9.out, if_neg hbest, hG]
    have g5 : decide (p.Best < b) = false := decide_eq_false hbest
    clear hG hK hN hH hP
    go_enter Try.func19, Try.ntmps19
    go_wp2_with fail
    refine (iCloneProp_c (h0.from_ B0) hm).mono ?_
    rintro e w1 ⟨u_, rfl, ou, h_w1⟩
    clear c_p_0_wa f_p_0_wa c_p_1_wa f_p_1_wa c_p_2_wa f_p_2_wa c_p_3_wa f_p_3_wa c_p_4_wa f_p_4_wa c_r_0_wa f_r_0_wa c_r_1_wa f_r_1_wa c_r_2_wa f_r_2_wa c_r_3_wa f_r_3_wa c_r_4_wa f_r_4_wa
    replace x_p := x_p.from_ h_w1
    replace x_r := x_r.from_ h_w1
    have B_w1 := B0.trans (h_w1.mono B0.size)
    have s_w1 := h_w1.size
    obtain ⟨A1, c1, A2, c2, rfl, oF, oT⟩ := ov_prop_parts ou
    have c_p_0_w1 := x_p.cell (i := 0) rfl
    have f_p_0_w1 := x_p.frozen 0
    have c_p_1_w1 := x_p.cell (i := 1) rfl
    have f_p_1_w1 := x_p.frozen 1
    have c_p_2_w1 := x_p.cell (i := 2) rfl
    have f_p_2_w1 := x_p.frozen 2
    have c_p_3_w1 := x_p.cell (i := 3) rfl
    have f_p_3_w1 := x_p.frozen 3
    have c_p_4_w1 := x_p.cell (i := 4) rfl
    have f_p_4_w1 := x_p.frozen 4
    have c_r_0_w1 := x_r.cell (i := 0) rfl
    have f_r_0_w1 := x_r.frozen 0
    have c_r_1_w1 := x_r.cell (i := 1) rfl
    have f_r_1_w1 := x_r.frozen 1
    have c_r_2_w1 := x_r.cell (i := 2) rfl
    have f_r_2_w1 := x_r.frozen 2
    have c_r_3_w1 := x_r.cell (i := 3) rfl
    have f_r_3_w1 := x_r.frozen 3
    have c_r_4_w1 := x_r.cell (i := 4) rfl
    have f_r_4_w1 := x_r.frozen 4
    obtain ⟨w2, e_w2, s_w2, h_w2, x_o⟩ := alloc_step w1 26 [.int .i64 p.Bal, .int .i64 p.Val, .slice A1 p.From.length c1, .int .i64 p.Best, .slice A2 p.Got.length c2]
    have s_w2_1 := Nat.le_of_eq s_w2
    have s_w2_2 := Nat.le_of_eq s_w2.symm
    clear s_w2
    replace x_p := x_p.from_ h_w2
    replace x_r := x_r.from_ h_w2
    replace ou := ou.below h_w2
    replace oF := oF.below h_w2
    replace oT := oT.below h_w2
    have B_w2 := B_w1.trans (h_w2.mono B_w1.size)
    have c_p_0_w2 := x_p.cell (i := 0) rfl
    have f_p_0_w2 := x_p.frozen 0
    have c_p_1_w2 := x_p.cell (i := 1) rfl
    have f_p_1_w2 := x_p.frozen 1
    have c_p_2_w2 := x_p.cell (i := 2) rfl
    have f_p_2_w2 := x_p.frozen 2
    have c_p_3_w2 := x_p.cell (i := 3) rfl
    have f_p_3_w2 := x_p.frozen 3
    have c_p_4_w2 := x_p.cell (i := 4) rfl
    have f_p_4_w2 := x_p.frozen 4
    have c_r_0_w2 := x_r.cell (i := 0) rfl
    have f_r_0_w2 := x_r.frozen 0
    have c_r_1_w2 := x_r.cell (i := 1) rfl
    have f_r_1_w2 := x_r.frozen 1
    have c_r_2_w2 := x_r.cell (i := 2) rfl
    have f_r_2_w2 := x_r.frozen 2
    have c_r_3_w2 := x_r.cell (i := 3) rfl
    have f_r_3_w2 := x_r.frozen 3
    have c_r_4_w2 := x_r.cell (i := 4) rfl
    have f_r_4_w2 := x_r.frozen 4
    have c_o_0_w2 := x_o.cell (i := 0) rfl
    have f_o_0_w2 := x_o.frozen 0
    have c_o_1_w2 := x_o.cell (i := 1) rfl
    have f_o_1_w2 := x_o.frozen 1
    have c_o_2_w2 := x_o.cell (i := 2) rfl
    have f_o_2_w2 := x_o.frozen 2
    have c_o_3_w2 := x_o.cell (i := 3) rfl
    have f_o_3_w2 := x_o.frozen 3
    have c_o_4_w2 := x_o.cell (i := 4) rfl
    have f_o_4_w2 := x_o.frozen 4
    go_wp2_with fail
    refine (iPropOk_x (h0.from_ B_w2)).mono ?_
    rintro e w3 ⟨rfl, h_w3⟩
    clear c_p_0_w1 f_p_0_w1 c_p_1_w1 f_p_1_w1 c_p_2_w1 f_p_2_w1 c_p_3_w1 f_p_3_w1 c_p_4_w1 f_p_4_w1 c_r_0_w1 f_r_0_w1 c_r_1_w1 f_r_1_w1 c_r_2_w1 f_r_2_w1 c_r_3_w1 f_r_3_w1 c_r_4_w1 f_r_4_w1 c_p_0_w2 f_p_0_w2 c_p_1_w2 f_p_1_w2 c_p_2_w2 f_p_2_w2 c_p_3_w2 f_p_3_w2 c_p_4_w2 f_p_4_w2 c_r_0_w2 f_r_0_w2 c_r_1_w2 f_r_1_w2 c_r_2_w2 f_r_2_w2 c_r_3_w2 f_r_3_w2 c_r_4_w2 f_r_4_w2 c_o_0_w2 f_o_0_w2 c_o_1_w2 f_o_1_w2 c_o_2_w2 f_o_2_w2 c_o_3_w2 f_o_3_w2 c_o_4_w2 f_o_4_w2
    replace x_p := x_p.from_ h_w3
    replace x_r := x_r.from_ h_w3
    replace x_o := x_o.from_ h_w3
    replace ou := ou.below h_w3
    replace oF := oF.below h_w3
    replace oT := oT.below h_w3
    have B_w3 := B_w2.trans (h_w3.mono B_w2.size)
    have s_w3 := h_w3.size
    rw [HK.out]
    have c_p_0_w3 := x_p.cell (i := 0) rfl
    have f_p_0_w3 := x_p.frozen 0
    have c_p_1_w3 := x_p.cell (i := 1) rfl
    have f_p_1_w3 := x_p.frozen 1
    have c_p_2_w3 := x_p.cell (i := 2) rfl
    have f_p_2_w3 := x_p.frozen 2
    have c_p_3_w3 := x_p.cell (i := 3) rfl
    have f_p_3_w3 := x_p.frozen 3
    have c_p_4_w3 := x_p.cell (i := 4) rfl
    have f_p_4_w3 := x_p.frozen 4
    have c_r_0_w3 := x_r.cell (i := 0) rfl
    have f_r_0_w3 := x_r.frozen 0
    have c_r_1_w3 := x_r.cell (i := 1) rfl
    have f_r_1_w3 := x_r.frozen 1
    have c_r_2_w3 := x_r.cell (i := 2) rfl
    have f_r_2_w3 := x_r.frozen 2
    have c_r_3_w3 := x_r.cell (i := 3) rfl
    have f_r_3_w3 := x_r.frozen 3
    have c_r_4_w3 := x_r.cell (i := 4) rfl
    have f_r_4_w3 := x_r.frozen 4
    have c_o_0_w3 := x_o.cell (i := 0) rfl
    have f_o_0_w3 := x_o.frozen 0
    have c_o_1_w3 := x_o.cell (i := 1) rfl
    have f_o_1_w3 := x_o.frozen 1
    have c_o_2_w3 := x_o.cell (i := 2) rfl
    have f_o_2_w3 := x_o.frozen 2
    have c_o_3_w3 := x_o.cell (i := 3) rfl
    have f_o_3_w3 := x_o.frozen 3
    have c_o_4_w3 := x_o.cell (i := 4) rfl
    have f_o_4_w3 := x_o.frozen 4
    go_wp2_with fail
    refine (iNode_any _ _).mono ?_
    rintro e w' ⟨rfl, rfl⟩
    rw [HN.out]
    go_wp2_with fail
    refine (iNodes_c (rF.from_ B_w3)).mono ?_
    rintro e w' ⟨rfl, rfl⟩
    go_wp2_with fail
    refine (iHas_c (rF.from_ B_w3) HR.out).mono ?_
    rintro e w4 ⟨rfl, h_w4⟩
    clear c_p_0_w3 f_p_0_w3 c_p_1_w3 f_p_1_w3 c_p_2_w3 f_p_2_w3 c_p_3_w3 f_p_3_w3 c_p_4_w3 f_p_4_w3 c_r_0_w3 f_r_0_w3 c_r_1_w3 f_r_1_w3 c_r_2_w3 f_r_2_w3 c_r_3_w3 f_r_3_w3 c_r_4_w3 f_r_4_w3 c_o_0_w3 f_o_0_w3 c_o_1_w3 f_o_1_w3 c_o_2_w3 f_o_2_w3 c_o_3_w3 f_o_3_w3 c_o_4_w3 f_o_4_w3
    replace x_p := x_p.from_ h_w4
    replace x_r := x_r.from_ h_w4
    replace x_o := x_o.from_ h_w4
    replace ou := ou.below h_w4
    replace oF := oF.below h_w4
    replace oT := oT.below h_w4
    have B_w4 := B_w3.trans (h_w4.mono B_w3.size)
    have s_w4 := h_w4.size
    rw [HH.out]
    have c_p_0_w4 := x_p.cell (i := 0) rfl
    have f_p_0_w4 := x_p.frozen 0
    have c_p_1_w4 := x_p.cell (i := 1) rfl
    have f_p_1_w4 := x_p.frozen 1
    have c_p_2_w4 := x_p.cell (i := 2) rfl
    have f_p_2_w4 := x_p.frozen 2
    have c_p_3_w4 := x_p.cell (i := 3) rfl
    have f_p_3_w4 := x_p.frozen 3
    have c_p_4_w4 := x_p.cell (i := 4) rfl
    have f_p_4_w4 := x_p.frozen 4
    have c_r_0_w4 := x_r.cell (i := 0) rfl
    have f_r_0_w4 := x_r.frozen 0
    have c_r_1_w4 := x_r.cell (i := 1) rfl
    have f_r_1_w4 := x_r.frozen 1
    have c_r_2_w4 := x_r.cell (i := 2) rfl
    have f_r_2_w4 := x_r.frozen 2
    have c_r_3_w4 := x_r.cell (i := 3) rfl
    have f_r_3_w4 := x_r.frozen 3
    have c_r_4_w4 := x_r.cell (i := 4) rfl
    have f_r_4_w4 := x_r.frozen 4
    have c_o_0_w4 := x_o.cell (i := 0) rfl
    have f_o_0_w4 := x_o.frozen 0
    have c_o_1_w4 := x_o.cell (i := 1) rfl
    have f_o_1_w4 := x_o.frozen 1
    have c_o_2_w4 := x_o.cell (i := 2) rfl
    have f_o_2_w4 := x_o.frozen 2
    have c_o_3_w4 := x_o.cell (i := 3) rfl
    have f_o_3_w4 := x_o.frozen 3
    have c_o_4_w4 := x_o.cell (i := 4) rfl
    have f_o_4_w4 := x_o.frozen 4
    go_wp2_with fail
    refine (iProm_any _ _ _ hBl _).mono ?_
    rintro e w' ⟨rfl, rfl⟩
    rw [HP.out]
    go_wp2_with fail
    refine (iNodes_c (rF.from_ B_w4)).mono ?_
    rintro e w' ⟨rfl, rfl⟩
    go_wp2_with fail
    refine (iWith_new (n := n) (rF.from_ B_w4) HR.out HH.out).mono ?_
    rintro e w5 ⟨v2, rfl, o_g, h_w5⟩
    clear c_p_0_w4 f_p_0_w4 c_p_1_w4 f_p_1_w4 c_p_2_w4 f_p_2_w4 c_p_3_w4 f_p_3_w4 c_p_4_w4 f_p_4_w4 c_r_0_w4 f_r_0_w4 c_r_1_w4 f_r_1_w4 c_r_2_w4 f_r_2_w4 c_r_3_w4 f_r_3_w4 c_r_4_w4 f_r_4_w4 c_o_0_w4 f_o_0_w4 c_o_1_w4 f_o_1_w4 c_o_2_w4 f_o_2_w4 c_o_3_w4 f_o_3_w4 c_o_4_w4 f_o_4_w4
    replace x_p := x_p.from_ h_w5
    replace x_r := x_r.from_ h_w5
    replace x_o := x_o.from_ h_w5
    replace ou := ou.below h_w5
    replace oF := oF.below h_w5
    replace oT := oT.below h_w5
    have B_w5 := B_w4.trans (h_w5.mono B_w4.size)
    have s_w5 := h_w5.size
    rw [HG.out] at o_g
    obtain ⟨Ag, cg, rfl, -, -, -⟩ := o_g.rd
    have c_p_0_w5 := x_p.cell (i := 0) rfl
    have f_p_0_w5 := x_p.frozen 0
    have c_p_1_w5 := x_p.cell (i := 1) rfl
    have f_p_1_w5 := x_p.frozen 1
    have c_p_2_w5 := x_p.cell (i := 2) rfl
    have f_p_2_w5 := x_p.frozen 2
    have c_p_3_w5 := x_p.cell (i := 3) rfl
    have f_p_3_w5 := x_p.frozen 3
    have c_p_4_w5 := x_p.cell (i := 4) rfl
    have f_p_4_w5 := x_p.frozen 4
    have c_r_0_w5 := x_r.cell (i := 0) rfl
    have f_r_0_w5 := x_r.frozen 0
    have c_r_1_w5 := x_r.cell (i := 1) rfl
    have f_r_1_w5 := x_r.frozen 1
    have c_r_2_w5 := x_r.cell (i := 2) rfl
    have f_r_2_w5 := x_r.frozen 2
    have c_r_3_w5 := x_r.cell (i := 3) rfl
    have f_r_3_w5 := x_r.frozen 3
    have c_r_4_w5 := x_r.cell (i := 4) rfl
    have f_r_4_w5 := x_r.frozen 4
    have c_o_0_w5 := x_o.cell (i := 0) rfl
    have f_o_0_w5 := x_o.frozen 0
    have c_o_1_w5 := x_o.cell (i := 1) rfl
    have f_o_1_w5 := x_o.frozen 1
    have c_o_2_w5 := x_o.cell (i := 2) rfl
    have f_o_2_w5 := x_o.frozen 2
    have c_o_3_w5 := x_o.cell (i := 3) rfl
    have f_o_3_w5 := x_o.frozen 3
    have c_o_4_w5 := x_o.cell (i := 4) rfl
    have f_o_4_w5 := x_o.frozen 4
    obtain ⟨w6, e_w6, s_w6, h_w6, y⟩ := set_step x_o 2 (.slice Ag G.length cg)
    have s_w6_1 := Nat.le_of_eq s_w6
    have s_w6_2 := Nat.le_of_eq s_w6.symm
    clear s_w6
    replace x_p := x_p.chg h_w6 (by omega)
    replace x_r := x_r.chg h_w6 (by omega)
    replace ou := ou.chg h_w6 (by omega)
    replace oF := oF.chg h_w6 (by omega)
    replace oT := oT.chg h_w6 (by omega)
    replace o_g := o_g.chg h_w6 (by omega)
    have B_w6 := Below.chg_ B_w5 h_w6 (by omega) (by omega)
    replace x_o : Vr w6 (w1.heap.size) 26 [.int .i64 p.Bal, .int .i64 p.Val, .slice Ag G.length cg, .int .i64 p.Best, .slice A2 p.Got.length c2] := y
    clear y
    have c_p_0_w6 := x_p.cell (i := 0) rfl
    have f_p_0_w6 := x_p.frozen 0
    have c_p_1_w6 := x_p.cell (i := 1) rfl
    have f_p_1_w6 := x_p.frozen 1
    have c_p_2_w6 := x_p.cell (i := 2) rfl
    have f_p_2_w6 := x_p.frozen 2
    have c_p_3_w6 := x_p.cell (i := 3) rfl
    have f_p_3_w6 := x_p.frozen 3
    have c_p_4_w6 := x_p.cell (i := 4) rfl
    have f_p_4_w6 := x_p.frozen 4
    have c_r_0_w6 := x_r.cell (i := 0) rfl
    have f_r_0_w6 := x_r.frozen 0
    have c_r_1_w6 := x_r.cell (i := 1) rfl
    have f_r_1_w6 := x_r.frozen 1
    have c_r_2_w6 := x_r.cell (i := 2) rfl
    have f_r_2_w6 := x_r.frozen 2
    have c_r_3_w6 := x_r.cell (i := 3) rfl
    have f_r_3_w6 := x_r.frozen 3
    have c_r_4_w6 := x_r.cell (i := 4) rfl
    have f_r_4_w6 := x_r.frozen 4
    have c_o_0_w6 := x_o.cell (i := 0) rfl
    have f_o_0_w6 := x_o.frozen 0
    have c_o_1_w6 := x_o.cell (i := 1) rfl
    have f_o_1_w6 := x_o.frozen 1
    have c_o_2_w6 := x_o.cell (i := 2) rfl
    have f_o_2_w6 := x_o.frozen 2
    have c_o_3_w6 := x_o.cell (i := 3) rfl
    have f_o_3_w6 := x_o.frozen 3
    have c_o_4_w6 := x_o.cell (i := 4) rfl
    have f_o_4_w6 := x_o.frozen 4
    obtain ⟨w7, e_w7, s_w7, h_w7, y⟩ := store_step x_r [.int .i64 p.Bal, .int .i64 p.Val, .slice Ag G.length cg, .int .i64 p.Best, .slice A2 p.Got.length c2] rfl
    replace e_w7 : (((((w6.setCell ⟨w.heap.size + 1, 0, none⟩ (.int .i64 p.Bal)).setCell ⟨w.heap.size + 1, 1, none⟩ (.int .i64 p.Val)).setCell ⟨w.heap.size + 1, 2, none⟩ (.slice Ag G.length cg)).setCell ⟨w.heap.size + 1, 3, none⟩ (.int .i64 p.Best)).setCell ⟨w.heap.size + 1, 4, none⟩ (.slice A2 p.Got.length c2)) = w7 := e_w7
    have s_w7_1 := Nat.le_of_eq s_w7
    have s_w7_2 := Nat.le_of_eq s_w7.symm
    clear s_w7
    replace x_p := x_p.chg h_w7 (by omega)
    replace x_o := x_o.chg h_w7 (by omega)
    replace ou := ou.chg h_w7 (by omega)
    replace oF := oF.chg h_w7 (by omega)
    replace oT := oT.chg h_w7 (by omega)
    replace o_g := o_g.chg h_w7 (by omega)
    have B_w7 := Below.chg_ B_w6 h_w7 (by omega) (by omega)
    replace x_r : Vr w7 (w.heap.size + 1) 26 [.int .i64 p.Bal, .int .i64 p.Val, .slice Ag G.length cg, .int .i64 p.Best, .slice A2 p.Got.length c2] := y
    clear y
    have c_r_0_w7 := x_r.cell (i := 0) rfl
    have f_r_0_w7 := x_r.frozen 0
    have c_r_1_w7 := x_r.cell (i := 1) rfl
    have f_r_1_w7 := x_r.frozen 1
    have c_r_2_w7 := x_r.cell (i := 2) rfl
    have f_r_2_w7 := x_r.frozen 2
    have c_r_3_w7 := x_r.cell (i := 3) rfl
    have f_r_3_w7 := x_r.frozen 3
    have c_r_4_w7 := x_r.cell (i := 4) rfl
    have f_r_4_w7 := x_r.frozen 4
    go_wp2
    refine ret_cell (by rfl) (by rfl) x_r Try.underlying26 sz_prop (by rfl) ?_
    rw [HM.out]
    exact ⟨_, rfl, ov_prop (d := ⟨p.Bal, p.Val, G, p.Best, p.Got⟩) o_g oT (by omega), B_w7⟩

end Go.Proofs.Ytaoedgcdcimibaa
