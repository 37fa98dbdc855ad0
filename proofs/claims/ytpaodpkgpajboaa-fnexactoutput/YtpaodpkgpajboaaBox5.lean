/- Boxes: the contract of spec.OutPut. Laid by a program of ours (src/box5.py). -/
import Derived.Test.YtpaodpkgpajboaaBox4
namespace Go.Proofs.Ytpaodpkgpajboaa
open Go.RowKit
set_option linter.unusedVariables false

def outAdd (o : MOut) (m : MMsg) : MOut := ⟨o.Next + 1, o.List ++ [m]⟩
def outPutB (o : MOut) (m : MMsg) : Bool := outOkB o && outOkB (outAdd o m)
def outPut (o : MOut) (m : MMsg) : MOut := if outPutB o m = true then outAdd o m else outZ
theorem outPut_len (o : MOut) (m : MMsg) : (outPut o m).List.length ≤ o.List.length + 1 := by
  unfold outPut outAdd outZ
  split <;> simp

theorem ov_out_parts {w : World} {lo hi : Nat} {v : Value} {d : MOut} (h : OV outL w lo hi v d) : ∃ A c, v = .agg #[.int .i64 d.Next, .slice A d.List.length c] ∧ OV msgSL w lo hi (.slice A d.List.length c) d.List := by
  obtain ⟨cs, S, rfl, ho, hn, hS, hh⟩ := h
  obtain ⟨_, _, S1, S2, rfl, rfl, ⟨rfl, rfl⟩, u, rfl, hO⟩ := ho
  obtain ⟨A, c, rfl, -⟩ := hO.form
  exact ⟨A, c, rfl, ⟨[_], S2, rfl, ⟨_, rfl, hO⟩, by simpa using hn, fun j hj => hS j (by simpa using hj), hh⟩⟩

set_option maxRecDepth 100000 in
set_option maxHeartbeats 4000000 in
theorem sOutPut_c {w : World} {v v' : Value} {o : MOut} {m : MMsg} (h : RV outL w v o) (h' : RV msgL w v' m) (hm : o.List.length ≤ 16777216) : Calls Try.prog 30 #[v, v'] w (NewVB outL w (outPut o m) (outPutB o m)) := by
  have h0 := h
  obtain ⟨A, c, rfl, hr0⟩ := rv_out h
  obtain rfl := rv_msg h'
  clear h h'
  obtain ⟨i0, hi, hz0, hz1, hz2⟩ := info_parts Try.info_msg
  obtain ⟨wa, hwa, B0, sa, x_a, x_m, x_r⟩ := frame3 w 26 [.int .i64 o.Next, .slice A o.List.length c] 29 [.int .i64 m.Kind, .int .i64 m.Acct, .int .i64 m.Amt, .int .i64 m.Src] 26 [.int .i64 0, .slice none 0 0]
  have sa_1 := Nat.le_of_eq sa
  have sa_2 := Nat.le_of_eq sa.symm
  clear sa
  have c_a_0_wa := x_a.cell (i := 0) rfl
  have f_a_0_wa := x_a.frozen 0
  have c_a_1_wa := x_a.cell (i := 1) rfl
  have f_a_1_wa := x_a.frozen 1
  have c_m_0_wa := x_m.cell (i := 0) rfl
  have f_m_0_wa := x_m.frozen 0
  have c_m_1_wa := x_m.cell (i := 1) rfl
  have f_m_1_wa := x_m.frozen 1
  have c_m_2_wa := x_m.cell (i := 2) rfl
  have f_m_2_wa := x_m.frozen 2
  have c_m_3_wa := x_m.cell (i := 3) rfl
  have f_m_3_wa := x_m.frozen 3
  have c_r_0_wa := x_r.cell (i := 0) rfl
  have f_r_0_wa := x_r.frozen 0
  have c_r_1_wa := x_r.cell (i := 1) rfl
  have f_r_1_wa := x_r.frozen 1
  obtain ⟨X, hX⟩ : ∃ X : List MMsg, X = o.List ++ [m] := ⟨_, rfl⟩
  have lX := congrArg List.length hX
  simp only [List.length_append, List.length_singleton] at lX
  have HX := Lib.hid hX
  clear hX
  have lX_1 := Nat.le_of_eq lX
  have lX_2 := Nat.le_of_eq lX.symm
  clear lX
  by_cases hok : outOkB o = true
  case neg =>
    have hB : outPutB o m = false := by unfold outPutB; simp [hok]
    have HB := Lib.hid hB
    have HP : Hid (outPut o m = outZ) := if_neg (by rw [hB]; decide)
    have hok' : outOkB o = false := by simpa using hok
    have HK := Lib.hid hok'
    clear hok hok' hB
    obtain ⟨N, hN⟩ : ∃ N, IntKind.i64.wrap (o.Next + 1) = N := ⟨_, rfl⟩
    go_enter Try.func30, Try.ntmps30
    go_wp2_with fail
    refine (sOutCopy_c (h0.from_ B0) hm).mono ?_
    rintro e w1 ⟨u, rfl, ou, h_w1⟩
    clear c_a_0_wa f_a_0_wa c_a_1_wa f_a_1_wa c_m_0_wa f_m_0_wa c_m_1_wa f_m_1_wa c_m_2_wa f_m_2_wa c_m_3_wa f_m_3_wa c_r_0_wa f_r_0_wa c_r_1_wa f_r_1_wa
    replace x_a := x_a.from_ h_w1
    replace x_m := x_m.from_ h_w1
    replace x_r := x_r.from_ h_w1
    have B_w1 := B0.trans (h_w1.mono B0.size)
    have s_w1 := h_w1.size
    obtain ⟨A1, c1, rfl, oL⟩ := ov_out_parts ou
    clear ou
    have c_a_0_w1 := x_a.cell (i := 0) rfl
    have f_a_0_w1 := x_a.frozen 0
    have c_a_1_w1 := x_a.cell (i := 1) rfl
    have f_a_1_w1 := x_a.frozen 1
    have c_m_0_w1 := x_m.cell (i := 0) rfl
    have f_m_0_w1 := x_m.frozen 0
    have c_m_1_w1 := x_m.cell (i := 1) rfl
    have f_m_1_w1 := x_m.frozen 1
    have c_m_2_w1 := x_m.cell (i := 2) rfl
    have f_m_2_w1 := x_m.frozen 2
    have c_m_3_w1 := x_m.cell (i := 3) rfl
    have f_m_3_w1 := x_m.frozen 3
    have c_r_0_w1 := x_r.cell (i := 0) rfl
    have f_r_0_w1 := x_r.frozen 0
    have c_r_1_w1 := x_r.cell (i := 1) rfl
    have f_r_1_w1 := x_r.frozen 1
    obtain ⟨w2, e_w2, s_w2, h_w2, x_out⟩ := alloc_step w1 26 [.int .i64 o.Next, .slice A1 o.List.length c1]
    have s_w2_1 := Nat.le_of_eq s_w2
    have s_w2_2 := Nat.le_of_eq s_w2.symm
    clear s_w2
    replace x_a := x_a.from_ h_w2
    replace x_m := x_m.from_ h_w2
    replace x_r := x_r.from_ h_w2
    replace oL := oL.below h_w2
    have B_w2 := B_w1.trans (h_w2.mono B_w1.size)
    have c_a_0_w2 := x_a.cell (i := 0) rfl
    have f_a_0_w2 := x_a.frozen 0
    have c_a_1_w2 := x_a.cell (i := 1) rfl
    have f_a_1_w2 := x_a.frozen 1
    have c_m_0_w2 := x_m.cell (i := 0) rfl
    have f_m_0_w2 := x_m.frozen 0
    have c_m_1_w2 := x_m.cell (i := 1) rfl
    have f_m_1_w2 := x_m.frozen 1
    have c_m_2_w2 := x_m.cell (i := 2) rfl
    have f_m_2_w2 := x_m.frozen 2
    have c_m_3_w2 := x_m.cell (i := 3) rfl
    have f_m_3_w2 := x_m.frozen 3
    have c_r_0_w2 := x_r.cell (i := 0) rfl
    have f_r_0_w2 := x_r.frozen 0
    have c_r_1_w2 := x_r.cell (i := 1) rfl
    have f_r_1_w2 := x_r.frozen 1
    have c_out_0_w2 := x_out.cell (i := 0) rfl
    have f_out_0_w2 := x_out.frozen 0
    have c_out_1_w2 := x_out.cell (i := 1) rfl
    have f_out_1_w2 := x_out.frozen 1
    obtain ⟨w3, e_w3, s_w3, h_w3, x_t⟩ := alloc_step w2 29 [.int .i64 m.Kind, .int .i64 m.Acct, .int .i64 m.Amt, .int .i64 m.Src]
    have s_w3_1 := Nat.le_of_eq s_w3
    have s_w3_2 := Nat.le_of_eq s_w3.symm
    clear s_w3
    replace x_a := x_a.from_ h_w3
    replace x_m := x_m.from_ h_w3
    replace x_r := x_r.from_ h_w3
    replace x_out := x_out.from_ h_w3
    replace oL := oL.below h_w3
    have B_w3 := B_w2.trans (h_w3.mono B_w2.size)
    have c_a_0_w3 := x_a.cell (i := 0) rfl
    have f_a_0_w3 := x_a.frozen 0
    have c_a_1_w3 := x_a.cell (i := 1) rfl
    have f_a_1_w3 := x_a.frozen 1
    have c_m_0_w3 := x_m.cell (i := 0) rfl
    have f_m_0_w3 := x_m.frozen 0
    have c_m_1_w3 := x_m.cell (i := 1) rfl
    have f_m_1_w3 := x_m.frozen 1
    have c_m_2_w3 := x_m.cell (i := 2) rfl
    have f_m_2_w3 := x_m.frozen 2
    have c_m_3_w3 := x_m.cell (i := 3) rfl
    have f_m_3_w3 := x_m.frozen 3
    have c_r_0_w3 := x_r.cell (i := 0) rfl
    have f_r_0_w3 := x_r.frozen 0
    have c_r_1_w3 := x_r.cell (i := 1) rfl
    have f_r_1_w3 := x_r.frozen 1
    have c_out_0_w3 := x_out.cell (i := 0) rfl
    have f_out_0_w3 := x_out.frozen 0
    have c_out_1_w3 := x_out.cell (i := 1) rfl
    have f_out_1_w3 := x_out.frozen 1
    have c_t_0_w3 := x_t.cell (i := 0) rfl
    have f_t_0_w3 := x_t.frozen 0
    have c_t_1_w3 := x_t.cell (i := 1) rfl
    have f_t_1_w3 := x_t.frozen 1
    have c_t_2_w3 := x_t.cell (i := 2) rfl
    have f_t_2_w3 := x_t.frozen 2
    have c_t_3_w3 := x_t.cell (i := 3) rfl
    have f_t_3_w3 := x_t.frozen 3
    have hRV := x_t.rdV
    obtain ⟨ys, R, hback⟩ := OV.app_n2 own_msg_nil oL (cs := [.int .i64 m.Kind, .int .i64 m.Acct, .int .i64 m.Amt, .int .i64 m.Src]) rfl (fun w => own_msg w m) (by omega)
    go_wp2_with (at_builtin; refine wpl_appN _ rfl (.tmp 10) (.tmp 12) 23 rfl 0 4 29 i0 (.agg #[.int .i64 0, .int .i64 0, .int .i64 0, .int .i64 0]) 32 Try.underlying23 hi hz0 hz1 hz2 rfl (by decide) _ o.List.length ys rfl R _ _ _ 1 [.int .i64 m.Kind, .int .i64 m.Acct, .int .i64 m.Amt, .int .i64 m.Src] rfl rfl hRV ?d0 ?d1 (by decide) (Nat.zero_le _) ?_)
    case d0 => intro u hu; simp only [List.mem_cons, List.not_mem_nil, or_false] at hu; rcases hu with rfl | rfl | rfl | rfl <;> rfl
    case d1 => omega
    intro v4 w4 ho4 hg4 hat4
    obtain ⟨h_w4, o4⟩ := hback v4 w4 ho4 hg4 hat4
    clear hback R ho4 hg4 hat4 hRV
    rw [← HX.out] at o4
    clear c_a_0_w1 f_a_0_w1 c_a_1_w1 f_a_1_w1 c_m_0_w1 f_m_0_w1 c_m_1_w1 f_m_1_w1 c_m_2_w1 f_m_2_w1 c_m_3_w1 f_m_3_w1 c_r_0_w1 f_r_0_w1 c_r_1_w1 f_r_1_w1 c_a_0_w2 f_a_0_w2 c_a_1_w2 f_a_1_w2 c_m_0_w2 f_m_0_w2 c_m_1_w2 f_m_1_w2 c_m_2_w2 f_m_2_w2 c_m_3_w2 f_m_3_w2 c_r_0_w2 f_r_0_w2 c_r_1_w2 f_r_1_w2 c_out_0_w2 f_out_0_w2 c_out_1_w2 f_out_1_w2 c_a_0_w3 f_a_0_w3 c_a_1_w3 f_a_1_w3 c_m_0_w3 f_m_0_w3 c_m_1_w3 f_m_1_w3 c_m_2_w3 f_m_2_w3 c_m_3_w3 f_m_3_w3 c_r_0_w3 f_r_0_w3 c_r_1_w3 f_r_1_w3 c_out_0_w3 f_out_0_w3 c_out_1_w3 f_out_1_w3 c_t_0_w3 f_t_0_w3 c_t_1_w3 f_t_1_w3 c_t_2_w3 f_t_2_w3 c_t_3_w3 f_t_3_w3
    clear oL
    replace x_a := x_a.chg h_w4 (by omega)
    replace x_m := x_m.chg h_w4 (by omega)
    replace x_r := x_r.chg h_w4 (by omega)
    replace x_out := x_out.chg h_w4 (by omega)
    replace x_t := x_t.chg h_w4 (by omega)
    have B_w4 := Below.chg_ B_w3 h_w4 (by omega) (by omega)
    have s_w4 := h_w4.size
    obtain ⟨A4, c4, rfl⟩ : ∃ A4 c4, v4 = .slice A4 X.length c4 := by
      rcases o4 with o4 | o4 <;> (obtain ⟨A4, c4, rfl, -, -, -⟩ := rv_slice o4.rd; exact ⟨A4, c4, rfl⟩)
    have c_a_0_w4 := x_a.cell (i := 0) rfl
    have f_a_0_w4 := x_a.frozen 0
    have c_a_1_w4 := x_a.cell (i := 1) rfl
    have f_a_1_w4 := x_a.frozen 1
    have c_m_0_w4 := x_m.cell (i := 0) rfl
    have f_m_0_w4 := x_m.frozen 0
    have c_m_1_w4 := x_m.cell (i := 1) rfl
    have f_m_1_w4 := x_m.frozen 1
    have c_m_2_w4 := x_m.cell (i := 2) rfl
    have f_m_2_w4 := x_m.frozen 2
    have c_m_3_w4 := x_m.cell (i := 3) rfl
    have f_m_3_w4 := x_m.frozen 3
    have c_r_0_w4 := x_r.cell (i := 0) rfl
    have f_r_0_w4 := x_r.frozen 0
    have c_r_1_w4 := x_r.cell (i := 1) rfl
    have f_r_1_w4 := x_r.frozen 1
    have c_out_0_w4 := x_out.cell (i := 0) rfl
    have f_out_0_w4 := x_out.frozen 0
    have c_out_1_w4 := x_out.cell (i := 1) rfl
    have f_out_1_w4 := x_out.frozen 1
    rcases o4 with o4 | o4
    case inl =>
      obtain ⟨w5, e_w5, s_w5, h_w5, y⟩ := set_step x_out 1 (.slice A4 X.length c4)
      have s_w5_1 := Nat.le_of_eq s_w5
      have s_w5_2 := Nat.le_of_eq s_w5.symm
      clear s_w5
      replace x_a := x_a.chg h_w5 (by omega)
      replace x_m := x_m.chg h_w5 (by omega)
      replace x_r := x_r.chg h_w5 (by omega)
      replace x_t := x_t.chg h_w5 (by omega)
      replace o4 := o4.chg h_w5 (by omega)
      have B_w5 := Below.chg_ B_w4 h_w5 (by omega) (by omega)
      replace x_out : Vr w5 (w1.heap.size) 26 [.int .i64 o.Next, .slice A4 X.length c4] := y
      clear y
      have c_a_0_w5 := x_a.cell (i := 0) rfl
      have f_a_0_w5 := x_a.frozen 0
      have c_a_1_w5 := x_a.cell (i := 1) rfl
      have f_a_1_w5 := x_a.frozen 1
      have c_m_0_w5 := x_m.cell (i := 0) rfl
      have f_m_0_w5 := x_m.frozen 0
      have c_m_1_w5 := x_m.cell (i := 1) rfl
      have f_m_1_w5 := x_m.frozen 1
      have c_m_2_w5 := x_m.cell (i := 2) rfl
      have f_m_2_w5 := x_m.frozen 2
      have c_m_3_w5 := x_m.cell (i := 3) rfl
      have f_m_3_w5 := x_m.frozen 3
      have c_r_0_w5 := x_r.cell (i := 0) rfl
      have f_r_0_w5 := x_r.frozen 0
      have c_r_1_w5 := x_r.cell (i := 1) rfl
      have f_r_1_w5 := x_r.frozen 1
      have c_out_0_w5 := x_out.cell (i := 0) rfl
      have f_out_0_w5 := x_out.frozen 0
      have c_out_1_w5 := x_out.cell (i := 1) rfl
      have f_out_1_w5 := x_out.frozen 1
      obtain ⟨w6, e_w6, s_w6, h_w6, y⟩ := set_step x_out 0 (.int .i64 N)
      have s_w6_1 := Nat.le_of_eq s_w6
      have s_w6_2 := Nat.le_of_eq s_w6.symm
      clear s_w6
      replace x_a := x_a.chg h_w6 (by omega)
      replace x_m := x_m.chg h_w6 (by omega)
      replace x_r := x_r.chg h_w6 (by omega)
      replace x_t := x_t.chg h_w6 (by omega)
      replace o4 := o4.chg h_w6 (by omega)
      have B_w6 := Below.chg_ B_w5 h_w6 (by omega) (by omega)
      replace x_out : Vr w6 (w1.heap.size) 26 [.int .i64 N, .slice A4 X.length c4] := y
      clear y
      have c_a_0_w6 := x_a.cell (i := 0) rfl
      have f_a_0_w6 := x_a.frozen 0
      have c_a_1_w6 := x_a.cell (i := 1) rfl
      have f_a_1_w6 := x_a.frozen 1
      have c_m_0_w6 := x_m.cell (i := 0) rfl
      have f_m_0_w6 := x_m.frozen 0
      have c_m_1_w6 := x_m.cell (i := 1) rfl
      have f_m_1_w6 := x_m.frozen 1
      have c_m_2_w6 := x_m.cell (i := 2) rfl
      have f_m_2_w6 := x_m.frozen 2
      have c_m_3_w6 := x_m.cell (i := 3) rfl
      have f_m_3_w6 := x_m.frozen 3
      have c_r_0_w6 := x_r.cell (i := 0) rfl
      have f_r_0_w6 := x_r.frozen 0
      have c_r_1_w6 := x_r.cell (i := 1) rfl
      have f_r_1_w6 := x_r.frozen 1
      have c_out_0_w6 := x_out.cell (i := 0) rfl
      have f_out_0_w6 := x_out.frozen 0
      have c_out_1_w6 := x_out.cell (i := 1) rfl
      have f_out_1_w6 := x_out.frozen 1
      have i_r_0_w6 := x_r.same (i := 0) rfl
      have i_r_1_w6 := x_r.same (i := 1) rfl
      go_wp2_with fail
      refine (sOutOk_c (h0.from_ B_w6) hm).mono ?_
      rintro e w7 ⟨rfl, h_w7⟩
      clear c_a_0_w4 f_a_0_w4 c_a_1_w4 f_a_1_w4 c_m_0_w4 f_m_0_w4 c_m_1_w4 f_m_1_w4 c_m_2_w4 f_m_2_w4 c_m_3_w4 f_m_3_w4 c_r_0_w4 f_r_0_w4 c_r_1_w4 f_r_1_w4 c_out_0_w4 f_out_0_w4 c_out_1_w4 f_out_1_w4 c_a_0_w5 f_a_0_w5 c_a_1_w5 f_a_1_w5 c_m_0_w5 f_m_0_w5 c_m_1_w5 f_m_1_w5 c_m_2_w5 f_m_2_w5 c_m_3_w5 f_m_3_w5 c_r_0_w5 f_r_0_w5 c_r_1_w5 f_r_1_w5 c_out_0_w5 f_out_0_w5 c_out_1_w5 f_out_1_w5 c_a_0_w6 f_a_0_w6 c_a_1_w6 f_a_1_w6 c_m_0_w6 f_m_0_w6 c_m_1_w6 f_m_1_w6 c_m_2_w6 f_m_2_w6 c_m_3_w6 f_m_3_w6 c_r_0_w6 f_r_0_w6 c_r_1_w6 f_r_1_w6 c_out_0_w6 f_out_0_w6 c_out_1_w6 f_out_1_w6
      replace x_a := x_a.from_ h_w7
      replace x_m := x_m.from_ h_w7
      replace x_r := x_r.from_ h_w7
      replace x_out := x_out.from_ h_w7
      replace x_t := x_t.from_ h_w7
      replace o4 := o4.below h_w7
      have B_w7 := B_w6.trans (h_w7.mono B_w6.size)
      have s_w7 := h_w7.size
      rw [HK.out]
      have c_a_0_w7 := x_a.cell (i := 0) rfl
      have f_a_0_w7 := x_a.frozen 0
      have c_a_1_w7 := x_a.cell (i := 1) rfl
      have f_a_1_w7 := x_a.frozen 1
      have c_m_0_w7 := x_m.cell (i := 0) rfl
      have f_m_0_w7 := x_m.frozen 0
      have c_m_1_w7 := x_m.cell (i := 1) rfl
      have f_m_1_w7 := x_m.frozen 1
      have c_m_2_w7 := x_m.cell (i := 2) rfl
      have f_m_2_w7 := x_m.frozen 2
      have c_m_3_w7 := x_m.cell (i := 3) rfl
      have f_m_3_w7 := x_m.frozen 3
      have c_r_0_w7 := x_r.cell (i := 0) rfl
      have f_r_0_w7 := x_r.frozen 0
      have c_r_1_w7 := x_r.cell (i := 1) rfl
      have f_r_1_w7 := x_r.frozen 1
      have c_out_0_w7 := x_out.cell (i := 0) rfl
      have f_out_0_w7 := x_out.frozen 0
      have c_out_1_w7 := x_out.cell (i := 1) rfl
      have f_out_1_w7 := x_out.frozen 1
      have i_r_0_w7 := x_r.same (i := 0) rfl
      have i_r_1_w7 := x_r.same (i := 1) rfl
      go_wp2
      refine ret_cell_tmp (by rfl) (by rfl) x_r Try.underlying26 sz_out (by rfl) ?_
      rw [HP.out, HB.out]
      exact ⟨_, rfl, ov_out (d := outZ) (ov_msgs_nil (lo := w.heap.size) (by omega)) (by omega), B_w7⟩
    case inr =>
      obtain ⟨w5, e_w5, s_w5, h_w5, y⟩ := set_step x_out 1 (.slice A4 X.length c4)
      have s_w5_1 := Nat.le_of_eq s_w5
      have s_w5_2 := Nat.le_of_eq s_w5.symm
      clear s_w5
      replace x_a := x_a.chg h_w5 (by omega)
      replace x_m := x_m.chg h_w5 (by omega)
      replace x_r := x_r.chg h_w5 (by omega)
      replace x_t := x_t.chg h_w5 (by omega)
      replace o4 := o4.chg h_w5 (by omega)
      have B_w5 := Below.chg_ B_w4 h_w5 (by omega) (by omega)
      replace x_out : Vr w5 (w1.heap.size) 26 [.int .i64 o.Next, .slice A4 X.length c4] := y
      clear y
      have c_a_0_w5 := x_a.cell (i := 0) rfl
      have f_a_0_w5 := x_a.frozen 0
      have c_a_1_w5 := x_a.cell (i := 1) rfl
      have f_a_1_w5 := x_a.frozen 1
      have c_m_0_w5 := x_m.cell (i := 0) rfl
      have f_m_0_w5 := x_m.frozen 0
      have c_m_1_w5 := x_m.cell (i := 1) rfl
      have f_m_1_w5 := x_m.frozen 1
      have c_m_2_w5 := x_m.cell (i := 2) rfl
      have f_m_2_w5 := x_m.frozen 2
      have c_m_3_w5 := x_m.cell (i := 3) rfl
      have f_m_3_w5 := x_m.frozen 3
      have c_r_0_w5 := x_r.cell (i := 0) rfl
      have f_r_0_w5 := x_r.frozen 0
      have c_r_1_w5 := x_r.cell (i := 1) rfl
      have f_r_1_w5 := x_r.frozen 1
      have c_out_0_w5 := x_out.cell (i := 0) rfl
      have f_out_0_w5 := x_out.frozen 0
      have c_out_1_w5 := x_out.cell (i := 1) rfl
      have f_out_1_w5 := x_out.frozen 1
      obtain ⟨w6, e_w6, s_w6, h_w6, y⟩ := set_step x_out 0 (.int .i64 N)
      have s_w6_1 := Nat.le_of_eq s_w6
      have s_w6_2 := Nat.le_of_eq s_w6.symm
      clear s_w6
      replace x_a := x_a.chg h_w6 (by omega)
      replace x_m := x_m.chg h_w6 (by omega)
      replace x_r := x_r.chg h_w6 (by omega)
      replace x_t := x_t.chg h_w6 (by omega)
      replace o4 := o4.chg h_w6 (by omega)
      have B_w6 := Below.chg_ B_w5 h_w6 (by omega) (by omega)
      replace x_out : Vr w6 (w1.heap.size) 26 [.int .i64 N, .slice A4 X.length c4] := y
      clear y
      have c_a_0_w6 := x_a.cell (i := 0) rfl
      have f_a_0_w6 := x_a.frozen 0
      have c_a_1_w6 := x_a.cell (i := 1) rfl
      have f_a_1_w6 := x_a.frozen 1
      have c_m_0_w6 := x_m.cell (i := 0) rfl
      have f_m_0_w6 := x_m.frozen 0
      have c_m_1_w6 := x_m.cell (i := 1) rfl
      have f_m_1_w6 := x_m.frozen 1
      have c_m_2_w6 := x_m.cell (i := 2) rfl
      have f_m_2_w6 := x_m.frozen 2
      have c_m_3_w6 := x_m.cell (i := 3) rfl
      have f_m_3_w6 := x_m.frozen 3
      have c_r_0_w6 := x_r.cell (i := 0) rfl
      have f_r_0_w6 := x_r.frozen 0
      have c_r_1_w6 := x_r.cell (i := 1) rfl
      have f_r_1_w6 := x_r.frozen 1
      have c_out_0_w6 := x_out.cell (i := 0) rfl
      have f_out_0_w6 := x_out.frozen 0
      have c_out_1_w6 := x_out.cell (i := 1) rfl
      have f_out_1_w6 := x_out.frozen 1
      have i_r_0_w6 := x_r.same (i := 0) rfl
      have i_r_1_w6 := x_r.same (i := 1) rfl
      go_wp2_with fail
      refine (sOutOk_c (h0.from_ B_w6) hm).mono ?_
      rintro e w7 ⟨rfl, h_w7⟩
      clear c_a_0_w4 f_a_0_w4 c_a_1_w4 f_a_1_w4 c_m_0_w4 f_m_0_w4 c_m_1_w4 f_m_1_w4 c_m_2_w4 f_m_2_w4 c_m_3_w4 f_m_3_w4 c_r_0_w4 f_r_0_w4 c_r_1_w4 f_r_1_w4 c_out_0_w4 f_out_0_w4 c_out_1_w4 f_out_1_w4 c_a_0_w5 f_a_0_w5 c_a_1_w5 f_a_1_w5 c_m_0_w5 f_m_0_w5 c_m_1_w5 f_m_1_w5 c_m_2_w5 f_m_2_w5 c_m_3_w5 f_m_3_w5 c_r_0_w5 f_r_0_w5 c_r_1_w5 f_r_1_w5 c_out_0_w5 f_out_0_w5 c_out_1_w5 f_out_1_w5 c_a_0_w6 f_a_0_w6 c_a_1_w6 f_a_1_w6 c_m_0_w6 f_m_0_w6 c_m_1_w6 f_m_1_w6 c_m_2_w6 f_m_2_w6 c_m_3_w6 f_m_3_w6 c_r_0_w6 f_r_0_w6 c_r_1_w6 f_r_1_w6 c_out_0_w6 f_out_0_w6 c_out_1_w6 f_out_1_w6
      replace x_a := x_a.from_ h_w7
      replace x_m := x_m.from_ h_w7
      replace x_r := x_r.from_ h_w7
      replace x_out := x_out.from_ h_w7
      replace x_t := x_t.from_ h_w7
      replace o4 := o4.below h_w7
      have B_w7 := B_w6.trans (h_w7.mono B_w6.size)
      have s_w7 := h_w7.size
      rw [HK.out]
      have c_a_0_w7 := x_a.cell (i := 0) rfl
      have f_a_0_w7 := x_a.frozen 0
      have c_a_1_w7 := x_a.cell (i := 1) rfl
      have f_a_1_w7 := x_a.frozen 1
      have c_m_0_w7 := x_m.cell (i := 0) rfl
      have f_m_0_w7 := x_m.frozen 0
      have c_m_1_w7 := x_m.cell (i := 1) rfl
      have f_m_1_w7 := x_m.frozen 1
      have c_m_2_w7 := x_m.cell (i := 2) rfl
      have f_m_2_w7 := x_m.frozen 2
      have c_m_3_w7 := x_m.cell (i := 3) rfl
      have f_m_3_w7 := x_m.frozen 3
      have c_r_0_w7 := x_r.cell (i := 0) rfl
      have f_r_0_w7 := x_r.frozen 0
      have c_r_1_w7 := x_r.cell (i := 1) rfl
      have f_r_1_w7 := x_r.frozen 1
      have c_out_0_w7 := x_out.cell (i := 0) rfl
      have f_out_0_w7 := x_out.frozen 0
      have c_out_1_w7 := x_out.cell (i := 1) rfl
      have f_out_1_w7 := x_out.frozen 1
      have i_r_0_w7 := x_r.same (i := 0) rfl
      have i_r_1_w7 := x_r.same (i := 1) rfl
      go_wp2
      refine ret_cell_tmp (by rfl) (by rfl) x_r Try.underlying26 sz_out (by rfl) ?_
      rw [HP.out, HB.out]
      exact ⟨_, rfl, ov_out (d := outZ) (ov_msgs_nil (lo := w.heap.size) (by omega)) (by omega), B_w7⟩
  have HK := Lib.hid hok
  have hp := outOk_parts hok
  have b1 := hp.1
  have b2 := hp.2.1
  clear hp
  by_cases ha : outOkB ⟨o.Next + 1, X⟩ = true
  case neg =>
    have ha' : outOkB ⟨o.Next + 1, X⟩ = false := by simpa using ha
    have HA := Lib.hid ha'
    have hB : outPutB o m = false := by unfold outPutB outAdd; rw [← HX.out, ha']; simp
    have HP : Hid (outPut o m = outZ) := if_neg (by rw [hB]; decide)
    clear ha'
    have HB := Lib.hid hB
    clear hB ha hok
    go_enter Try.func30, Try.ntmps30
    go_wp2_with fail
    refine (sOutCopy_c (h0.from_ B0) hm).mono ?_
    rintro e w1 ⟨u, rfl, ou, h_w1⟩
    clear c_a_0_wa f_a_0_wa c_a_1_wa f_a_1_wa c_m_0_wa f_m_0_wa c_m_1_wa f_m_1_wa c_m_2_wa f_m_2_wa c_m_3_wa f_m_3_wa c_r_0_wa f_r_0_wa c_r_1_wa f_r_1_wa
    replace x_a := x_a.from_ h_w1
    replace x_m := x_m.from_ h_w1
    replace x_r := x_r.from_ h_w1
    have B_w1 := B0.trans (h_w1.mono B0.size)
    have s_w1 := h_w1.size
    obtain ⟨A1, c1, rfl, oL⟩ := ov_out_parts ou
    clear ou
    have c_a_0_w1 := x_a.cell (i := 0) rfl
    have f_a_0_w1 := x_a.frozen 0
    have c_a_1_w1 := x_a.cell (i := 1) rfl
    have f_a_1_w1 := x_a.frozen 1
    have c_m_0_w1 := x_m.cell (i := 0) rfl
    have f_m_0_w1 := x_m.frozen 0
    have c_m_1_w1 := x_m.cell (i := 1) rfl
    have f_m_1_w1 := x_m.frozen 1
    have c_m_2_w1 := x_m.cell (i := 2) rfl
    have f_m_2_w1 := x_m.frozen 2
    have c_m_3_w1 := x_m.cell (i := 3) rfl
    have f_m_3_w1 := x_m.frozen 3
    have c_r_0_w1 := x_r.cell (i := 0) rfl
    have f_r_0_w1 := x_r.frozen 0
    have c_r_1_w1 := x_r.cell (i := 1) rfl
    have f_r_1_w1 := x_r.frozen 1
    obtain ⟨w2, e_w2, s_w2, h_w2, x_out⟩ := alloc_step w1 26 [.int .i64 o.Next, .slice A1 o.List.length c1]
    have s_w2_1 := Nat.le_of_eq s_w2
    have s_w2_2 := Nat.le_of_eq s_w2.symm
    clear s_w2
    replace x_a := x_a.from_ h_w2
    replace x_m := x_m.from_ h_w2
    replace x_r := x_r.from_ h_w2
    replace oL := oL.below h_w2
    have B_w2 := B_w1.trans (h_w2.mono B_w1.size)
    have c_a_0_w2 := x_a.cell (i := 0) rfl
    have f_a_0_w2 := x_a.frozen 0
    have c_a_1_w2 := x_a.cell (i := 1) rfl
    have f_a_1_w2 := x_a.frozen 1
    have c_m_0_w2 := x_m.cell (i := 0) rfl
    have f_m_0_w2 := x_m.frozen 0
    have c_m_1_w2 := x_m.cell (i := 1) rfl
    have f_m_1_w2 := x_m.frozen 1
    have c_m_2_w2 := x_m.cell (i := 2) rfl
    have f_m_2_w2 := x_m.frozen 2
    have c_m_3_w2 := x_m.cell (i := 3) rfl
    have f_m_3_w2 := x_m.frozen 3
    have c_r_0_w2 := x_r.cell (i := 0) rfl
    have f_r_0_w2 := x_r.frozen 0
    have c_r_1_w2 := x_r.cell (i := 1) rfl
    have f_r_1_w2 := x_r.frozen 1
    have c_out_0_w2 := x_out.cell (i := 0) rfl
    have f_out_0_w2 := x_out.frozen 0
    have c_out_1_w2 := x_out.cell (i := 1) rfl
    have f_out_1_w2 := x_out.frozen 1
    obtain ⟨w3, e_w3, s_w3, h_w3, x_t⟩ := alloc_step w2 29 [.int .i64 m.Kind, .int .i64 m.Acct, .int .i64 m.Amt, .int .i64 m.Src]
    have s_w3_1 := Nat.le_of_eq s_w3
    have s_w3_2 := Nat.le_of_eq s_w3.symm
    clear s_w3
    replace x_a := x_a.from_ h_w3
    replace x_m := x_m.from_ h_w3
    replace x_r := x_r.from_ h_w3
    replace x_out := x_out.from_ h_w3
    replace oL := oL.below h_w3
    have B_w3 := B_w2.trans (h_w3.mono B_w2.size)
    have c_a_0_w3 := x_a.cell (i := 0) rfl
    have f_a_0_w3 := x_a.frozen 0
    have c_a_1_w3 := x_a.cell (i := 1) rfl
    have f_a_1_w3 := x_a.frozen 1
    have c_m_0_w3 := x_m.cell (i := 0) rfl
    have f_m_0_w3 := x_m.frozen 0
    have c_m_1_w3 := x_m.cell (i := 1) rfl
    have f_m_1_w3 := x_m.frozen 1
    have c_m_2_w3 := x_m.cell (i := 2) rfl
    have f_m_2_w3 := x_m.frozen 2
    have c_m_3_w3 := x_m.cell (i := 3) rfl
    have f_m_3_w3 := x_m.frozen 3
    have c_r_0_w3 := x_r.cell (i := 0) rfl
    have f_r_0_w3 := x_r.frozen 0
    have c_r_1_w3 := x_r.cell (i := 1) rfl
    have f_r_1_w3 := x_r.frozen 1
    have c_out_0_w3 := x_out.cell (i := 0) rfl
    have f_out_0_w3 := x_out.frozen 0
    have c_out_1_w3 := x_out.cell (i := 1) rfl
    have f_out_1_w3 := x_out.frozen 1
    have c_t_0_w3 := x_t.cell (i := 0) rfl
    have f_t_0_w3 := x_t.frozen 0
    have c_t_1_w3 := x_t.cell (i := 1) rfl
    have f_t_1_w3 := x_t.frozen 1
    have c_t_2_w3 := x_t.cell (i := 2) rfl
    have f_t_2_w3 := x_t.frozen 2
    have c_t_3_w3 := x_t.cell (i := 3) rfl
    have f_t_3_w3 := x_t.frozen 3
    have hRV := x_t.rdV
    obtain ⟨ys, R, hback⟩ := OV.app_n2 own_msg_nil oL (cs := [.int .i64 m.Kind, .int .i64 m.Acct, .int .i64 m.Amt, .int .i64 m.Src]) rfl (fun w => own_msg w m) (by omega)
    go_wp2_with (at_builtin; refine wpl_appN _ rfl (.tmp 10) (.tmp 12) 23 rfl 0 4 29 i0 (.agg #[.int .i64 0, .int .i64 0, .int .i64 0, .int .i64 0]) 32 Try.underlying23 hi hz0 hz1 hz2 rfl (by decide) _ o.List.length ys rfl R _ _ _ 1 [.int .i64 m.Kind, .int .i64 m.Acct, .int .i64 m.Amt, .int .i64 m.Src] rfl rfl hRV ?d0 ?d1 (by decide) (Nat.zero_le _) ?_)
    case d0 => intro u hu; simp only [List.mem_cons, List.not_mem_nil, or_false] at hu; rcases hu with rfl | rfl | rfl | rfl <;> rfl
    case d1 => omega
    intro v4 w4 ho4 hg4 hat4
    obtain ⟨h_w4, o4⟩ := hback v4 w4 ho4 hg4 hat4
    clear hback R ho4 hg4 hat4 hRV
    rw [← HX.out] at o4
    clear c_a_0_w1 f_a_0_w1 c_a_1_w1 f_a_1_w1 c_m_0_w1 f_m_0_w1 c_m_1_w1 f_m_1_w1 c_m_2_w1 f_m_2_w1 c_m_3_w1 f_m_3_w1 c_r_0_w1 f_r_0_w1 c_r_1_w1 f_r_1_w1 c_a_0_w2 f_a_0_w2 c_a_1_w2 f_a_1_w2 c_m_0_w2 f_m_0_w2 c_m_1_w2 f_m_1_w2 c_m_2_w2 f_m_2_w2 c_m_3_w2 f_m_3_w2 c_r_0_w2 f_r_0_w2 c_r_1_w2 f_r_1_w2 c_out_0_w2 f_out_0_w2 c_out_1_w2 f_out_1_w2 c_a_0_w3 f_a_0_w3 c_a_1_w3 f_a_1_w3 c_m_0_w3 f_m_0_w3 c_m_1_w3 f_m_1_w3 c_m_2_w3 f_m_2_w3 c_m_3_w3 f_m_3_w3 c_r_0_w3 f_r_0_w3 c_r_1_w3 f_r_1_w3 c_out_0_w3 f_out_0_w3 c_out_1_w3 f_out_1_w3 c_t_0_w3 f_t_0_w3 c_t_1_w3 f_t_1_w3 c_t_2_w3 f_t_2_w3 c_t_3_w3 f_t_3_w3
    clear oL
    replace x_a := x_a.chg h_w4 (by omega)
    replace x_m := x_m.chg h_w4 (by omega)
    replace x_r := x_r.chg h_w4 (by omega)
    replace x_out := x_out.chg h_w4 (by omega)
    replace x_t := x_t.chg h_w4 (by omega)
    have B_w4 := Below.chg_ B_w3 h_w4 (by omega) (by omega)
    have s_w4 := h_w4.size
    obtain ⟨A4, c4, rfl⟩ : ∃ A4 c4, v4 = .slice A4 X.length c4 := by
      rcases o4 with o4 | o4 <;> (obtain ⟨A4, c4, rfl, -, -, -⟩ := rv_slice o4.rd; exact ⟨A4, c4, rfl⟩)
    have c_a_0_w4 := x_a.cell (i := 0) rfl
    have f_a_0_w4 := x_a.frozen 0
    have c_a_1_w4 := x_a.cell (i := 1) rfl
    have f_a_1_w4 := x_a.frozen 1
    have c_m_0_w4 := x_m.cell (i := 0) rfl
    have f_m_0_w4 := x_m.frozen 0
    have c_m_1_w4 := x_m.cell (i := 1) rfl
    have f_m_1_w4 := x_m.frozen 1
    have c_m_2_w4 := x_m.cell (i := 2) rfl
    have f_m_2_w4 := x_m.frozen 2
    have c_m_3_w4 := x_m.cell (i := 3) rfl
    have f_m_3_w4 := x_m.frozen 3
    have c_r_0_w4 := x_r.cell (i := 0) rfl
    have f_r_0_w4 := x_r.frozen 0
    have c_r_1_w4 := x_r.cell (i := 1) rfl
    have f_r_1_w4 := x_r.frozen 1
    have c_out_0_w4 := x_out.cell (i := 0) rfl
    have f_out_0_w4 := x_out.frozen 0
    have c_out_1_w4 := x_out.cell (i := 1) rfl
    have f_out_1_w4 := x_out.frozen 1
    rcases o4 with o4 | o4
    case inl =>
      obtain ⟨w5, e_w5, s_w5, h_w5, y⟩ := set_step x_out 1 (.slice A4 X.length c4)
      have s_w5_1 := Nat.le_of_eq s_w5
      have s_w5_2 := Nat.le_of_eq s_w5.symm
      clear s_w5
      replace x_a := x_a.chg h_w5 (by omega)
      replace x_m := x_m.chg h_w5 (by omega)
      replace x_r := x_r.chg h_w5 (by omega)
      replace x_t := x_t.chg h_w5 (by omega)
      replace o4 := o4.chg h_w5 (by omega)
      have B_w5 := Below.chg_ B_w4 h_w5 (by omega) (by omega)
      replace x_out : Vr w5 (w1.heap.size) 26 [.int .i64 o.Next, .slice A4 X.length c4] := y
      clear y
      have c_a_0_w5 := x_a.cell (i := 0) rfl
      have f_a_0_w5 := x_a.frozen 0
      have c_a_1_w5 := x_a.cell (i := 1) rfl
      have f_a_1_w5 := x_a.frozen 1
      have c_m_0_w5 := x_m.cell (i := 0) rfl
      have f_m_0_w5 := x_m.frozen 0
      have c_m_1_w5 := x_m.cell (i := 1) rfl
      have f_m_1_w5 := x_m.frozen 1
      have c_m_2_w5 := x_m.cell (i := 2) rfl
      have f_m_2_w5 := x_m.frozen 2
      have c_m_3_w5 := x_m.cell (i := 3) rfl
      have f_m_3_w5 := x_m.frozen 3
      have c_r_0_w5 := x_r.cell (i := 0) rfl
      have f_r_0_w5 := x_r.frozen 0
      have c_r_1_w5 := x_r.cell (i := 1) rfl
      have f_r_1_w5 := x_r.frozen 1
      have c_out_0_w5 := x_out.cell (i := 0) rfl
      have f_out_0_w5 := x_out.frozen 0
      have c_out_1_w5 := x_out.cell (i := 1) rfl
      have f_out_1_w5 := x_out.frozen 1
      obtain ⟨w6, e_w6, s_w6, h_w6, y⟩ := set_step x_out 0 (.int .i64 (o.Next + 1))
      have s_w6_1 := Nat.le_of_eq s_w6
      have s_w6_2 := Nat.le_of_eq s_w6.symm
      clear s_w6
      replace x_a := x_a.chg h_w6 (by omega)
      replace x_m := x_m.chg h_w6 (by omega)
      replace x_r := x_r.chg h_w6 (by omega)
      replace x_t := x_t.chg h_w6 (by omega)
      replace o4 := o4.chg h_w6 (by omega)
      have B_w6 := Below.chg_ B_w5 h_w6 (by omega) (by omega)
      replace x_out : Vr w6 (w1.heap.size) 26 [.int .i64 (o.Next + 1), .slice A4 X.length c4] := y
      clear y
      have c_a_0_w6 := x_a.cell (i := 0) rfl
      have f_a_0_w6 := x_a.frozen 0
      have c_a_1_w6 := x_a.cell (i := 1) rfl
      have f_a_1_w6 := x_a.frozen 1
      have c_m_0_w6 := x_m.cell (i := 0) rfl
      have f_m_0_w6 := x_m.frozen 0
      have c_m_1_w6 := x_m.cell (i := 1) rfl
      have f_m_1_w6 := x_m.frozen 1
      have c_m_2_w6 := x_m.cell (i := 2) rfl
      have f_m_2_w6 := x_m.frozen 2
      have c_m_3_w6 := x_m.cell (i := 3) rfl
      have f_m_3_w6 := x_m.frozen 3
      have c_r_0_w6 := x_r.cell (i := 0) rfl
      have f_r_0_w6 := x_r.frozen 0
      have c_r_1_w6 := x_r.cell (i := 1) rfl
      have f_r_1_w6 := x_r.frozen 1
      have c_out_0_w6 := x_out.cell (i := 0) rfl
      have f_out_0_w6 := x_out.frozen 0
      have c_out_1_w6 := x_out.cell (i := 1) rfl
      have f_out_1_w6 := x_out.frozen 1
      have i_r_0_w6 := x_r.same (i := 0) rfl
      have i_r_1_w6 := x_r.same (i := 1) rfl
      go_wp2_with fail
      refine (sOutOk_c (h0.from_ B_w6) hm).mono ?_
      rintro e w7 ⟨rfl, h_w7⟩
      clear c_a_0_w4 f_a_0_w4 c_a_1_w4 f_a_1_w4 c_m_0_w4 f_m_0_w4 c_m_1_w4 f_m_1_w4 c_m_2_w4 f_m_2_w4 c_m_3_w4 f_m_3_w4 c_r_0_w4 f_r_0_w4 c_r_1_w4 f_r_1_w4 c_out_0_w4 f_out_0_w4 c_out_1_w4 f_out_1_w4 c_a_0_w5 f_a_0_w5 c_a_1_w5 f_a_1_w5 c_m_0_w5 f_m_0_w5 c_m_1_w5 f_m_1_w5 c_m_2_w5 f_m_2_w5 c_m_3_w5 f_m_3_w5 c_r_0_w5 f_r_0_w5 c_r_1_w5 f_r_1_w5 c_out_0_w5 f_out_0_w5 c_out_1_w5 f_out_1_w5 c_a_0_w6 f_a_0_w6 c_a_1_w6 f_a_1_w6 c_m_0_w6 f_m_0_w6 c_m_1_w6 f_m_1_w6 c_m_2_w6 f_m_2_w6 c_m_3_w6 f_m_3_w6 c_r_0_w6 f_r_0_w6 c_r_1_w6 f_r_1_w6 c_out_0_w6 f_out_0_w6 c_out_1_w6 f_out_1_w6
      replace x_a := x_a.from_ h_w7
      replace x_m := x_m.from_ h_w7
      replace x_r := x_r.from_ h_w7
      replace x_out := x_out.from_ h_w7
      replace x_t := x_t.from_ h_w7
      replace o4 := o4.below h_w7
      have B_w7 := B_w6.trans (h_w7.mono B_w6.size)
      have s_w7 := h_w7.size
      rw [HK.out]
      have c_a_0_w7 := x_a.cell (i := 0) rfl
      have f_a_0_w7 := x_a.frozen 0
      have c_a_1_w7 := x_a.cell (i := 1) rfl
      have f_a_1_w7 := x_a.frozen 1
      have c_m_0_w7 := x_m.cell (i := 0) rfl
      have f_m_0_w7 := x_m.frozen 0
      have c_m_1_w7 := x_m.cell (i := 1) rfl
      have f_m_1_w7 := x_m.frozen 1
      have c_m_2_w7 := x_m.cell (i := 2) rfl
      have f_m_2_w7 := x_m.frozen 2
      have c_m_3_w7 := x_m.cell (i := 3) rfl
      have f_m_3_w7 := x_m.frozen 3
      have c_r_0_w7 := x_r.cell (i := 0) rfl
      have f_r_0_w7 := x_r.frozen 0
      have c_r_1_w7 := x_r.cell (i := 1) rfl
      have f_r_1_w7 := x_r.frozen 1
      have c_out_0_w7 := x_out.cell (i := 0) rfl
      have f_out_0_w7 := x_out.frozen 0
      have c_out_1_w7 := x_out.cell (i := 1) rfl
      have f_out_1_w7 := x_out.frozen 1
      have i_r_0_w7 := x_r.same (i := 0) rfl
      have i_r_1_w7 := x_r.same (i := 1) rfl
      have rO : RV outL w7 (.agg #[.int .i64 (o.Next + 1), .slice A4 X.length c4]) ⟨o.Next + 1, X⟩ := rv_out_mk o4.rd
      go_wp2_with fail
      refine (sOutOk_c rO (by show X.length ≤ _; omega)).mono ?_
      rintro e w8 ⟨rfl, h_w8⟩
      clear c_a_0_w7 f_a_0_w7 c_a_1_w7 f_a_1_w7 c_m_0_w7 f_m_0_w7 c_m_1_w7 f_m_1_w7 c_m_2_w7 f_m_2_w7 c_m_3_w7 f_m_3_w7 c_r_0_w7 f_r_0_w7 c_r_1_w7 f_r_1_w7 c_out_0_w7 f_out_0_w7 c_out_1_w7 f_out_1_w7
      replace x_a := x_a.from_ h_w8
      replace x_m := x_m.from_ h_w8
      replace x_r := x_r.from_ h_w8
      replace x_out := x_out.from_ h_w8
      replace x_t := x_t.from_ h_w8
      replace o4 := o4.below h_w8
      have B_w8 := B_w7.trans (h_w8.mono B_w7.size)
      have s_w8 := h_w8.size
      rw [HA.out]
      have c_a_0_w8 := x_a.cell (i := 0) rfl
      have f_a_0_w8 := x_a.frozen 0
      have c_a_1_w8 := x_a.cell (i := 1) rfl
      have f_a_1_w8 := x_a.frozen 1
      have c_m_0_w8 := x_m.cell (i := 0) rfl
      have f_m_0_w8 := x_m.frozen 0
      have c_m_1_w8 := x_m.cell (i := 1) rfl
      have f_m_1_w8 := x_m.frozen 1
      have c_m_2_w8 := x_m.cell (i := 2) rfl
      have f_m_2_w8 := x_m.frozen 2
      have c_m_3_w8 := x_m.cell (i := 3) rfl
      have f_m_3_w8 := x_m.frozen 3
      have c_r_0_w8 := x_r.cell (i := 0) rfl
      have f_r_0_w8 := x_r.frozen 0
      have c_r_1_w8 := x_r.cell (i := 1) rfl
      have f_r_1_w8 := x_r.frozen 1
      have c_out_0_w8 := x_out.cell (i := 0) rfl
      have f_out_0_w8 := x_out.frozen 0
      have c_out_1_w8 := x_out.cell (i := 1) rfl
      have f_out_1_w8 := x_out.frozen 1
      have i_r_0_w8 := x_r.same (i := 0) rfl
      have i_r_1_w8 := x_r.same (i := 1) rfl
      go_wp2
      refine ret_cell_tmp (by rfl) (by rfl) x_r Try.underlying26 sz_out (by rfl) ?_
      rw [HP.out, HB.out]
      exact ⟨_, rfl, ov_out (d := outZ) (ov_msgs_nil (lo := w.heap.size) (by omega)) (by omega), B_w8⟩
    case inr =>
      obtain ⟨w5, e_w5, s_w5, h_w5, y⟩ := set_step x_out 1 (.slice A4 X.length c4)
      have s_w5_1 := Nat.le_of_eq s_w5
      have s_w5_2 := Nat.le_of_eq s_w5.symm
      clear s_w5
      replace x_a := x_a.chg h_w5 (by omega)
      replace x_m := x_m.chg h_w5 (by omega)
      replace x_r := x_r.chg h_w5 (by omega)
      replace x_t := x_t.chg h_w5 (by omega)
      replace o4 := o4.chg h_w5 (by omega)
      have B_w5 := Below.chg_ B_w4 h_w5 (by omega) (by omega)
      replace x_out : Vr w5 (w1.heap.size) 26 [.int .i64 o.Next, .slice A4 X.length c4] := y
      clear y
      have c_a_0_w5 := x_a.cell (i := 0) rfl
      have f_a_0_w5 := x_a.frozen 0
      have c_a_1_w5 := x_a.cell (i := 1) rfl
      have f_a_1_w5 := x_a.frozen 1
      have c_m_0_w5 := x_m.cell (i := 0) rfl
      have f_m_0_w5 := x_m.frozen 0
      have c_m_1_w5 := x_m.cell (i := 1) rfl
      have f_m_1_w5 := x_m.frozen 1
      have c_m_2_w5 := x_m.cell (i := 2) rfl
      have f_m_2_w5 := x_m.frozen 2
      have c_m_3_w5 := x_m.cell (i := 3) rfl
      have f_m_3_w5 := x_m.frozen 3
      have c_r_0_w5 := x_r.cell (i := 0) rfl
      have f_r_0_w5 := x_r.frozen 0
      have c_r_1_w5 := x_r.cell (i := 1) rfl
      have f_r_1_w5 := x_r.frozen 1
      have c_out_0_w5 := x_out.cell (i := 0) rfl
      have f_out_0_w5 := x_out.frozen 0
      have c_out_1_w5 := x_out.cell (i := 1) rfl
      have f_out_1_w5 := x_out.frozen 1
      obtain ⟨w6, e_w6, s_w6, h_w6, y⟩ := set_step x_out 0 (.int .i64 (o.Next + 1))
      have s_w6_1 := Nat.le_of_eq s_w6
      have s_w6_2 := Nat.le_of_eq s_w6.symm
      clear s_w6
      replace x_a := x_a.chg h_w6 (by omega)
      replace x_m := x_m.chg h_w6 (by omega)
      replace x_r := x_r.chg h_w6 (by omega)
      replace x_t := x_t.chg h_w6 (by omega)
      replace o4 := o4.chg h_w6 (by omega)
      have B_w6 := Below.chg_ B_w5 h_w6 (by omega) (by omega)
      replace x_out : Vr w6 (w1.heap.size) 26 [.int .i64 (o.Next + 1), .slice A4 X.length c4] := y
      clear y
      have c_a_0_w6 := x_a.cell (i := 0) rfl
      have f_a_0_w6 := x_a.frozen 0
      have c_a_1_w6 := x_a.cell (i := 1) rfl
      have f_a_1_w6 := x_a.frozen 1
      have c_m_0_w6 := x_m.cell (i := 0) rfl
      have f_m_0_w6 := x_m.frozen 0
      have c_m_1_w6 := x_m.cell (i := 1) rfl
      have f_m_1_w6 := x_m.frozen 1
      have c_m_2_w6 := x_m.cell (i := 2) rfl
      have f_m_2_w6 := x_m.frozen 2
      have c_m_3_w6 := x_m.cell (i := 3) rfl
      have f_m_3_w6 := x_m.frozen 3
      have c_r_0_w6 := x_r.cell (i := 0) rfl
      have f_r_0_w6 := x_r.frozen 0
      have c_r_1_w6 := x_r.cell (i := 1) rfl
      have f_r_1_w6 := x_r.frozen 1
      have c_out_0_w6 := x_out.cell (i := 0) rfl
      have f_out_0_w6 := x_out.frozen 0
      have c_out_1_w6 := x_out.cell (i := 1) rfl
      have f_out_1_w6 := x_out.frozen 1
      have i_r_0_w6 := x_r.same (i := 0) rfl
      have i_r_1_w6 := x_r.same (i := 1) rfl
      go_wp2_with fail
      refine (sOutOk_c (h0.from_ B_w6) hm).mono ?_
      rintro e w7 ⟨rfl, h_w7⟩
      clear c_a_0_w4 f_a_0_w4 c_a_1_w4 f_a_1_w4 c_m_0_w4 f_m_0_w4 c_m_1_w4 f_m_1_w4 c_m_2_w4 f_m_2_w4 c_m_3_w4 f_m_3_w4 c_r_0_w4 f_r_0_w4 c_r_1_w4 f_r_1_w4 c_out_0_w4 f_out_0_w4 c_out_1_w4 f_out_1_w4 c_a_0_w5 f_a_0_w5 c_a_1_w5 f_a_1_w5 c_m_0_w5 f_m_0_w5 c_m_1_w5 f_m_1_w5 c_m_2_w5 f_m_2_w5 c_m_3_w5 f_m_3_w5 c_r_0_w5 f_r_0_w5 c_r_1_w5 f_r_1_w5 c_out_0_w5 f_out_0_w5 c_out_1_w5 f_out_1_w5 c_a_0_w6 f_a_0_w6 c_a_1_w6 f_a_1_w6 c_m_0_w6 f_m_0_w6 c_m_1_w6 f_m_1_w6 c_m_2_w6 f_m_2_w6 c_m_3_w6 f_m_3_w6 c_r_0_w6 f_r_0_w6 c_r_1_w6 f_r_1_w6 c_out_0_w6 f_out_0_w6 c_out_1_w6 f_out_1_w6
      replace x_a := x_a.from_ h_w7
      replace x_m := x_m.from_ h_w7
      replace x_r := x_r.from_ h_w7
      replace x_out := x_out.from_ h_w7
      replace x_t := x_t.from_ h_w7
      replace o4 := o4.below h_w7
      have B_w7 := B_w6.trans (h_w7.mono B_w6.size)
      have s_w7 := h_w7.size
      rw [HK.out]
      have c_a_0_w7 := x_a.cell (i := 0) rfl
      have f_a_0_w7 := x_a.frozen 0
      have c_a_1_w7 := x_a.cell (i := 1) rfl
      have f_a_1_w7 := x_a.frozen 1
      have c_m_0_w7 := x_m.cell (i := 0) rfl
      have f_m_0_w7 := x_m.frozen 0
      have c_m_1_w7 := x_m.cell (i := 1) rfl
      have f_m_1_w7 := x_m.frozen 1
      have c_m_2_w7 := x_m.cell (i := 2) rfl
      have f_m_2_w7 := x_m.frozen 2
      have c_m_3_w7 := x_m.cell (i := 3) rfl
      have f_m_3_w7 := x_m.frozen 3
      have c_r_0_w7 := x_r.cell (i := 0) rfl
      have f_r_0_w7 := x_r.frozen 0
      have c_r_1_w7 := x_r.cell (i := 1) rfl
      have f_r_1_w7 := x_r.frozen 1
      have c_out_0_w7 := x_out.cell (i := 0) rfl
      have f_out_0_w7 := x_out.frozen 0
      have c_out_1_w7 := x_out.cell (i := 1) rfl
      have f_out_1_w7 := x_out.frozen 1
      have i_r_0_w7 := x_r.same (i := 0) rfl
      have i_r_1_w7 := x_r.same (i := 1) rfl
      have rO : RV outL w7 (.agg #[.int .i64 (o.Next + 1), .slice A4 X.length c4]) ⟨o.Next + 1, X⟩ := rv_out_mk o4.rd
      go_wp2_with fail
      refine (sOutOk_c rO (by show X.length ≤ _; omega)).mono ?_
      rintro e w8 ⟨rfl, h_w8⟩
      clear c_a_0_w7 f_a_0_w7 c_a_1_w7 f_a_1_w7 c_m_0_w7 f_m_0_w7 c_m_1_w7 f_m_1_w7 c_m_2_w7 f_m_2_w7 c_m_3_w7 f_m_3_w7 c_r_0_w7 f_r_0_w7 c_r_1_w7 f_r_1_w7 c_out_0_w7 f_out_0_w7 c_out_1_w7 f_out_1_w7
      replace x_a := x_a.from_ h_w8
      replace x_m := x_m.from_ h_w8
      replace x_r := x_r.from_ h_w8
      replace x_out := x_out.from_ h_w8
      replace x_t := x_t.from_ h_w8
      replace o4 := o4.below h_w8
      have B_w8 := B_w7.trans (h_w8.mono B_w7.size)
      have s_w8 := h_w8.size
      rw [HA.out]
      have c_a_0_w8 := x_a.cell (i := 0) rfl
      have f_a_0_w8 := x_a.frozen 0
      have c_a_1_w8 := x_a.cell (i := 1) rfl
      have f_a_1_w8 := x_a.frozen 1
      have c_m_0_w8 := x_m.cell (i := 0) rfl
      have f_m_0_w8 := x_m.frozen 0
      have c_m_1_w8 := x_m.cell (i := 1) rfl
      have f_m_1_w8 := x_m.frozen 1
      have c_m_2_w8 := x_m.cell (i := 2) rfl
      have f_m_2_w8 := x_m.frozen 2
      have c_m_3_w8 := x_m.cell (i := 3) rfl
      have f_m_3_w8 := x_m.frozen 3
      have c_r_0_w8 := x_r.cell (i := 0) rfl
      have f_r_0_w8 := x_r.frozen 0
      have c_r_1_w8 := x_r.cell (i := 1) rfl
      have f_r_1_w8 := x_r.frozen 1
      have c_out_0_w8 := x_out.cell (i := 0) rfl
      have f_out_0_w8 := x_out.frozen 0
      have c_out_1_w8 := x_out.cell (i := 1) rfl
      have f_out_1_w8 := x_out.frozen 1
      have i_r_0_w8 := x_r.same (i := 0) rfl
      have i_r_1_w8 := x_r.same (i := 1) rfl
      go_wp2
      refine ret_cell_tmp (by rfl) (by rfl) x_r Try.underlying26 sz_out (by rfl) ?_
      rw [HP.out, HB.out]
      exact ⟨_, rfl, ov_out (d := outZ) (ov_msgs_nil (lo := w.heap.size) (by omega)) (by omega), B_w8⟩
  case pos =>
    have HA := Lib.hid ha
    have hB : outPutB o m = true := by unfold outPutB outAdd; rw [← HX.out, ha, hok]; rfl
    have HP : Hid (outPut o m = ⟨o.Next + 1, X⟩) := by show _ = _; unfold outPut; rw [if_pos hB, HX.out]; rfl
    have HB := Lib.hid hB
    clear hB ha hok
    go_enter Try.func30, Try.ntmps30
    go_wp2_with fail
    refine (sOutCopy_c (h0.from_ B0) hm).mono ?_
    rintro e w1 ⟨u, rfl, ou, h_w1⟩
    clear c_a_0_wa f_a_0_wa c_a_1_wa f_a_1_wa c_m_0_wa f_m_0_wa c_m_1_wa f_m_1_wa c_m_2_wa f_m_2_wa c_m_3_wa f_m_3_wa c_r_0_wa f_r_0_wa c_r_1_wa f_r_1_wa
    replace x_a := x_a.from_ h_w1
    replace x_m := x_m.from_ h_w1
    replace x_r := x_r.from_ h_w1
    have B_w1 := B0.trans (h_w1.mono B0.size)
    have s_w1 := h_w1.size
    obtain ⟨A1, c1, rfl, oL⟩ := ov_out_parts ou
    clear ou
    have c_a_0_w1 := x_a.cell (i := 0) rfl
    have f_a_0_w1 := x_a.frozen 0
    have c_a_1_w1 := x_a.cell (i := 1) rfl
    have f_a_1_w1 := x_a.frozen 1
    have c_m_0_w1 := x_m.cell (i := 0) rfl
    have f_m_0_w1 := x_m.frozen 0
    have c_m_1_w1 := x_m.cell (i := 1) rfl
    have f_m_1_w1 := x_m.frozen 1
    have c_m_2_w1 := x_m.cell (i := 2) rfl
    have f_m_2_w1 := x_m.frozen 2
    have c_m_3_w1 := x_m.cell (i := 3) rfl
    have f_m_3_w1 := x_m.frozen 3
    have c_r_0_w1 := x_r.cell (i := 0) rfl
    have f_r_0_w1 := x_r.frozen 0
    have c_r_1_w1 := x_r.cell (i := 1) rfl
    have f_r_1_w1 := x_r.frozen 1
    obtain ⟨w2, e_w2, s_w2, h_w2, x_out⟩ := alloc_step w1 26 [.int .i64 o.Next, .slice A1 o.List.length c1]
    have s_w2_1 := Nat.le_of_eq s_w2
    have s_w2_2 := Nat.le_of_eq s_w2.symm
    clear s_w2
    replace x_a := x_a.from_ h_w2
    replace x_m := x_m.from_ h_w2
    replace x_r := x_r.from_ h_w2
    replace oL := oL.below h_w2
    have B_w2 := B_w1.trans (h_w2.mono B_w1.size)
    have c_a_0_w2 := x_a.cell (i := 0) rfl
    have f_a_0_w2 := x_a.frozen 0
    have c_a_1_w2 := x_a.cell (i := 1) rfl
    have f_a_1_w2 := x_a.frozen 1
    have c_m_0_w2 := x_m.cell (i := 0) rfl
    have f_m_0_w2 := x_m.frozen 0
    have c_m_1_w2 := x_m.cell (i := 1) rfl
    have f_m_1_w2 := x_m.frozen 1
    have c_m_2_w2 := x_m.cell (i := 2) rfl
    have f_m_2_w2 := x_m.frozen 2
    have c_m_3_w2 := x_m.cell (i := 3) rfl
    have f_m_3_w2 := x_m.frozen 3
    have c_r_0_w2 := x_r.cell (i := 0) rfl
    have f_r_0_w2 := x_r.frozen 0
    have c_r_1_w2 := x_r.cell (i := 1) rfl
    have f_r_1_w2 := x_r.frozen 1
    have c_out_0_w2 := x_out.cell (i := 0) rfl
    have f_out_0_w2 := x_out.frozen 0
    have c_out_1_w2 := x_out.cell (i := 1) rfl
    have f_out_1_w2 := x_out.frozen 1
    obtain ⟨w3, e_w3, s_w3, h_w3, x_t⟩ := alloc_step w2 29 [.int .i64 m.Kind, .int .i64 m.Acct, .int .i64 m.Amt, .int .i64 m.Src]
    have s_w3_1 := Nat.le_of_eq s_w3
    have s_w3_2 := Nat.le_of_eq s_w3.symm
    clear s_w3
    replace x_a := x_a.from_ h_w3
    replace x_m := x_m.from_ h_w3
    replace x_r := x_r.from_ h_w3
    replace x_out := x_out.from_ h_w3
    replace oL := oL.below h_w3
    have B_w3 := B_w2.trans (h_w3.mono B_w2.size)
    have c_a_0_w3 := x_a.cell (i := 0) rfl
    have f_a_0_w3 := x_a.frozen 0
    have c_a_1_w3 := x_a.cell (i := 1) rfl
    have f_a_1_w3 := x_a.frozen 1
    have c_m_0_w3 := x_m.cell (i := 0) rfl
    have f_m_0_w3 := x_m.frozen 0
    have c_m_1_w3 := x_m.cell (i := 1) rfl
    have f_m_1_w3 := x_m.frozen 1
    have c_m_2_w3 := x_m.cell (i := 2) rfl
    have f_m_2_w3 := x_m.frozen 2
    have c_m_3_w3 := x_m.cell (i := 3) rfl
    have f_m_3_w3 := x_m.frozen 3
    have c_r_0_w3 := x_r.cell (i := 0) rfl
    have f_r_0_w3 := x_r.frozen 0
    have c_r_1_w3 := x_r.cell (i := 1) rfl
    have f_r_1_w3 := x_r.frozen 1
    have c_out_0_w3 := x_out.cell (i := 0) rfl
    have f_out_0_w3 := x_out.frozen 0
    have c_out_1_w3 := x_out.cell (i := 1) rfl
    have f_out_1_w3 := x_out.frozen 1
    have c_t_0_w3 := x_t.cell (i := 0) rfl
    have f_t_0_w3 := x_t.frozen 0
    have c_t_1_w3 := x_t.cell (i := 1) rfl
    have f_t_1_w3 := x_t.frozen 1
    have c_t_2_w3 := x_t.cell (i := 2) rfl
    have f_t_2_w3 := x_t.frozen 2
    have c_t_3_w3 := x_t.cell (i := 3) rfl
    have f_t_3_w3 := x_t.frozen 3
    have hRV := x_t.rdV
    obtain ⟨ys, R, hback⟩ := OV.app_n2 own_msg_nil oL (cs := [.int .i64 m.Kind, .int .i64 m.Acct, .int .i64 m.Amt, .int .i64 m.Src]) rfl (fun w => own_msg w m) (by omega)
    go_wp2_with (at_builtin; refine wpl_appN _ rfl (.tmp 10) (.tmp 12) 23 rfl 0 4 29 i0 (.agg #[.int .i64 0, .int .i64 0, .int .i64 0, .int .i64 0]) 32 Try.underlying23 hi hz0 hz1 hz2 rfl (by decide) _ o.List.length ys rfl R _ _ _ 1 [.int .i64 m.Kind, .int .i64 m.Acct, .int .i64 m.Amt, .int .i64 m.Src] rfl rfl hRV ?d0 ?d1 (by decide) (Nat.zero_le _) ?_)
    case d0 => intro u hu; simp only [List.mem_cons, List.not_mem_nil, or_false] at hu; rcases hu with rfl | rfl | rfl | rfl <;> rfl
    case d1 => omega
    intro v4 w4 ho4 hg4 hat4
    obtain ⟨h_w4, o4⟩ := hback v4 w4 ho4 hg4 hat4
    clear hback R ho4 hg4 hat4 hRV
    rw [← HX.out] at o4
    clear c_a_0_w1 f_a_0_w1 c_a_1_w1 f_a_1_w1 c_m_0_w1 f_m_0_w1 c_m_1_w1 f_m_1_w1 c_m_2_w1 f_m_2_w1 c_m_3_w1 f_m_3_w1 c_r_0_w1 f_r_0_w1 c_r_1_w1 f_r_1_w1 c_a_0_w2 f_a_0_w2 c_a_1_w2 f_a_1_w2 c_m_0_w2 f_m_0_w2 c_m_1_w2 f_m_1_w2 c_m_2_w2 f_m_2_w2 c_m_3_w2 f_m_3_w2 c_r_0_w2 f_r_0_w2 c_r_1_w2 f_r_1_w2 c_out_0_w2 f_out_0_w2 c_out_1_w2 f_out_1_w2 c_a_0_w3 f_a_0_w3 c_a_1_w3 f_a_1_w3 c_m_0_w3 f_m_0_w3 c_m_1_w3 f_m_1_w3 c_m_2_w3 f_m_2_w3 c_m_3_w3 f_m_3_w3 c_r_0_w3 f_r_0_w3 c_r_1_w3 f_r_1_w3 c_out_0_w3 f_out_0_w3 c_out_1_w3 f_out_1_w3 c_t_0_w3 f_t_0_w3 c_t_1_w3 f_t_1_w3 c_t_2_w3 f_t_2_w3 c_t_3_w3 f_t_3_w3
    clear oL
    replace x_a := x_a.chg h_w4 (by omega)
    replace x_m := x_m.chg h_w4 (by omega)
    replace x_r := x_r.chg h_w4 (by omega)
    replace x_out := x_out.chg h_w4 (by omega)
    replace x_t := x_t.chg h_w4 (by omega)
    have B_w4 := Below.chg_ B_w3 h_w4 (by omega) (by omega)
    have s_w4 := h_w4.size
    obtain ⟨A4, c4, rfl⟩ : ∃ A4 c4, v4 = .slice A4 X.length c4 := by
      rcases o4 with o4 | o4 <;> (obtain ⟨A4, c4, rfl, -, -, -⟩ := rv_slice o4.rd; exact ⟨A4, c4, rfl⟩)
    have c_a_0_w4 := x_a.cell (i := 0) rfl
    have f_a_0_w4 := x_a.frozen 0
    have c_a_1_w4 := x_a.cell (i := 1) rfl
    have f_a_1_w4 := x_a.frozen 1
    have c_m_0_w4 := x_m.cell (i := 0) rfl
    have f_m_0_w4 := x_m.frozen 0
    have c_m_1_w4 := x_m.cell (i := 1) rfl
    have f_m_1_w4 := x_m.frozen 1
    have c_m_2_w4 := x_m.cell (i := 2) rfl
    have f_m_2_w4 := x_m.frozen 2
    have c_m_3_w4 := x_m.cell (i := 3) rfl
    have f_m_3_w4 := x_m.frozen 3
    have c_r_0_w4 := x_r.cell (i := 0) rfl
    have f_r_0_w4 := x_r.frozen 0
    have c_r_1_w4 := x_r.cell (i := 1) rfl
    have f_r_1_w4 := x_r.frozen 1
    have c_out_0_w4 := x_out.cell (i := 0) rfl
    have f_out_0_w4 := x_out.frozen 0
    have c_out_1_w4 := x_out.cell (i := 1) rfl
    have f_out_1_w4 := x_out.frozen 1
    rcases o4 with o4 | o4
    case inl =>
      obtain ⟨w5, e_w5, s_w5, h_w5, y⟩ := set_step x_out 1 (.slice A4 X.length c4)
      have s_w5_1 := Nat.le_of_eq s_w5
      have s_w5_2 := Nat.le_of_eq s_w5.symm
      clear s_w5
      replace x_a := x_a.chg h_w5 (by omega)
      replace x_m := x_m.chg h_w5 (by omega)
      replace x_r := x_r.chg h_w5 (by omega)
      replace x_t := x_t.chg h_w5 (by omega)
      replace o4 := o4.chg h_w5 (by omega)
      have B_w5 := Below.chg_ B_w4 h_w5 (by omega) (by omega)
      replace x_out : Vr w5 (w1.heap.size) 26 [.int .i64 o.Next, .slice A4 X.length c4] := y
      clear y
      have c_a_0_w5 := x_a.cell (i := 0) rfl
      have f_a_0_w5 := x_a.frozen 0
      have c_a_1_w5 := x_a.cell (i := 1) rfl
      have f_a_1_w5 := x_a.frozen 1
      have c_m_0_w5 := x_m.cell (i := 0) rfl
      have f_m_0_w5 := x_m.frozen 0
      have c_m_1_w5 := x_m.cell (i := 1) rfl
      have f_m_1_w5 := x_m.frozen 1
      have c_m_2_w5 := x_m.cell (i := 2) rfl
      have f_m_2_w5 := x_m.frozen 2
      have c_m_3_w5 := x_m.cell (i := 3) rfl
      have f_m_3_w5 := x_m.frozen 3
      have c_r_0_w5 := x_r.cell (i := 0) rfl
      have f_r_0_w5 := x_r.frozen 0
      have c_r_1_w5 := x_r.cell (i := 1) rfl
      have f_r_1_w5 := x_r.frozen 1
      have c_out_0_w5 := x_out.cell (i := 0) rfl
      have f_out_0_w5 := x_out.frozen 0
      have c_out_1_w5 := x_out.cell (i := 1) rfl
      have f_out_1_w5 := x_out.frozen 1
      obtain ⟨w6, e_w6, s_w6, h_w6, y⟩ := set_step x_out 0 (.int .i64 (o.Next + 1))
      have s_w6_1 := Nat.le_of_eq s_w6
      have s_w6_2 := Nat.le_of_eq s_w6.symm
      clear s_w6
      replace x_a := x_a.chg h_w6 (by omega)
      replace x_m := x_m.chg h_w6 (by omega)
      replace x_r := x_r.chg h_w6 (by omega)
      replace x_t := x_t.chg h_w6 (by omega)
      replace o4 := o4.chg h_w6 (by omega)
      have B_w6 := Below.chg_ B_w5 h_w6 (by omega) (by omega)
      replace x_out : Vr w6 (w1.heap.size) 26 [.int .i64 (o.Next + 1), .slice A4 X.length c4] := y
      clear y
      have c_a_0_w6 := x_a.cell (i := 0) rfl
      have f_a_0_w6 := x_a.frozen 0
      have c_a_1_w6 := x_a.cell (i := 1) rfl
      have f_a_1_w6 := x_a.frozen 1
      have c_m_0_w6 := x_m.cell (i := 0) rfl
      have f_m_0_w6 := x_m.frozen 0
      have c_m_1_w6 := x_m.cell (i := 1) rfl
      have f_m_1_w6 := x_m.frozen 1
      have c_m_2_w6 := x_m.cell (i := 2) rfl
      have f_m_2_w6 := x_m.frozen 2
      have c_m_3_w6 := x_m.cell (i := 3) rfl
      have f_m_3_w6 := x_m.frozen 3
      have c_r_0_w6 := x_r.cell (i := 0) rfl
      have f_r_0_w6 := x_r.frozen 0
      have c_r_1_w6 := x_r.cell (i := 1) rfl
      have f_r_1_w6 := x_r.frozen 1
      have c_out_0_w6 := x_out.cell (i := 0) rfl
      have f_out_0_w6 := x_out.frozen 0
      have c_out_1_w6 := x_out.cell (i := 1) rfl
      have f_out_1_w6 := x_out.frozen 1
      have i_r_0_w6 := x_r.same (i := 0) rfl
      have i_r_1_w6 := x_r.same (i := 1) rfl
      go_wp2_with fail
      refine (sOutOk_c (h0.from_ B_w6) hm).mono ?_
      rintro e w7 ⟨rfl, h_w7⟩
      clear c_a_0_w4 f_a_0_w4 c_a_1_w4 f_a_1_w4 c_m_0_w4 f_m_0_w4 c_m_1_w4 f_m_1_w4 c_m_2_w4 f_m_2_w4 c_m_3_w4 f_m_3_w4 c_r_0_w4 f_r_0_w4 c_r_1_w4 f_r_1_w4 c_out_0_w4 f_out_0_w4 c_out_1_w4 f_out_1_w4 c_a_0_w5 f_a_0_w5 c_a_1_w5 f_a_1_w5 c_m_0_w5 f_m_0_w5 c_m_1_w5 f_m_1_w5 c_m_2_w5 f_m_2_w5 c_m_3_w5 f_m_3_w5 c_r_0_w5 f_r_0_w5 c_r_1_w5 f_r_1_w5 c_out_0_w5 f_out_0_w5 c_out_1_w5 f_out_1_w5 c_a_0_w6 f_a_0_w6 c_a_1_w6 f_a_1_w6 c_m_0_w6 f_m_0_w6 c_m_1_w6 f_m_1_w6 c_m_2_w6 f_m_2_w6 c_m_3_w6 f_m_3_w6 c_r_0_w6 f_r_0_w6 c_r_1_w6 f_r_1_w6 c_out_0_w6 f_out_0_w6 c_out_1_w6 f_out_1_w6
      replace x_a := x_a.from_ h_w7
      replace x_m := x_m.from_ h_w7
      replace x_r := x_r.from_ h_w7
      replace x_out := x_out.from_ h_w7
      replace x_t := x_t.from_ h_w7
      replace o4 := o4.below h_w7
      have B_w7 := B_w6.trans (h_w7.mono B_w6.size)
      have s_w7 := h_w7.size
      rw [HK.out]
      have c_a_0_w7 := x_a.cell (i := 0) rfl
      have f_a_0_w7 := x_a.frozen 0
      have c_a_1_w7 := x_a.cell (i := 1) rfl
      have f_a_1_w7 := x_a.frozen 1
      have c_m_0_w7 := x_m.cell (i := 0) rfl
      have f_m_0_w7 := x_m.frozen 0
      have c_m_1_w7 := x_m.cell (i := 1) rfl
      have f_m_1_w7 := x_m.frozen 1
      have c_m_2_w7 := x_m.cell (i := 2) rfl
      have f_m_2_w7 := x_m.frozen 2
      have c_m_3_w7 := x_m.cell (i := 3) rfl
      have f_m_3_w7 := x_m.frozen 3
      have c_r_0_w7 := x_r.cell (i := 0) rfl
      have f_r_0_w7 := x_r.frozen 0
      have c_r_1_w7 := x_r.cell (i := 1) rfl
      have f_r_1_w7 := x_r.frozen 1
      have c_out_0_w7 := x_out.cell (i := 0) rfl
      have f_out_0_w7 := x_out.frozen 0
      have c_out_1_w7 := x_out.cell (i := 1) rfl
      have f_out_1_w7 := x_out.frozen 1
      have i_r_0_w7 := x_r.same (i := 0) rfl
      have i_r_1_w7 := x_r.same (i := 1) rfl
      have rO : RV outL w7 (.agg #[.int .i64 (o.Next + 1), .slice A4 X.length c4]) ⟨o.Next + 1, X⟩ := rv_out_mk o4.rd
      go_wp2_with fail
      refine (sOutOk_c rO (by show X.length ≤ _; omega)).mono ?_
      rintro e w8 ⟨rfl, h_w8⟩
      clear c_a_0_w7 f_a_0_w7 c_a_1_w7 f_a_1_w7 c_m_0_w7 f_m_0_w7 c_m_1_w7 f_m_1_w7 c_m_2_w7 f_m_2_w7 c_m_3_w7 f_m_3_w7 c_r_0_w7 f_r_0_w7 c_r_1_w7 f_r_1_w7 c_out_0_w7 f_out_0_w7 c_out_1_w7 f_out_1_w7
      replace x_a := x_a.from_ h_w8
      replace x_m := x_m.from_ h_w8
      replace x_r := x_r.from_ h_w8
      replace x_out := x_out.from_ h_w8
      replace x_t := x_t.from_ h_w8
      replace o4 := o4.below h_w8
      have B_w8 := B_w7.trans (h_w8.mono B_w7.size)
      have s_w8 := h_w8.size
      rw [HA.out]
      have c_a_0_w8 := x_a.cell (i := 0) rfl
      have f_a_0_w8 := x_a.frozen 0
      have c_a_1_w8 := x_a.cell (i := 1) rfl
      have f_a_1_w8 := x_a.frozen 1
      have c_m_0_w8 := x_m.cell (i := 0) rfl
      have f_m_0_w8 := x_m.frozen 0
      have c_m_1_w8 := x_m.cell (i := 1) rfl
      have f_m_1_w8 := x_m.frozen 1
      have c_m_2_w8 := x_m.cell (i := 2) rfl
      have f_m_2_w8 := x_m.frozen 2
      have c_m_3_w8 := x_m.cell (i := 3) rfl
      have f_m_3_w8 := x_m.frozen 3
      have c_r_0_w8 := x_r.cell (i := 0) rfl
      have f_r_0_w8 := x_r.frozen 0
      have c_r_1_w8 := x_r.cell (i := 1) rfl
      have f_r_1_w8 := x_r.frozen 1
      have c_out_0_w8 := x_out.cell (i := 0) rfl
      have f_out_0_w8 := x_out.frozen 0
      have c_out_1_w8 := x_out.cell (i := 1) rfl
      have f_out_1_w8 := x_out.frozen 1
      have i_r_0_w8 := x_r.same (i := 0) rfl
      have i_r_1_w8 := x_r.same (i := 1) rfl
      obtain ⟨w9, e_w9, s_w9, h_w9, y⟩ := store_step x_r [.int .i64 (o.Next + 1), .slice A4 X.length c4] rfl
      replace e_w9 : ((w8.setCell ⟨w.heap.size + 1 + 1, 0, none⟩ (.int .i64 (o.Next + 1))).setCell ⟨w.heap.size + 1 + 1, 1, none⟩ (.slice A4 X.length c4)) = w9 := e_w9
      have s_w9_1 := Nat.le_of_eq s_w9
      have s_w9_2 := Nat.le_of_eq s_w9.symm
      clear s_w9
      replace x_a := x_a.chg h_w9 (by omega)
      replace x_m := x_m.chg h_w9 (by omega)
      replace x_out := x_out.chg h_w9 (by omega)
      replace x_t := x_t.chg h_w9 (by omega)
      replace o4 := o4.chg h_w9 (by omega)
      have B_w9 := Below.chg_ B_w8 h_w9 (by omega) (by omega)
      replace x_r : Vr w9 (w.heap.size + 1 + 1) 26 [.int .i64 (o.Next + 1), .slice A4 X.length c4] := y
      clear y
      have c_r_0_w9 := x_r.cell (i := 0) rfl
      have f_r_0_w9 := x_r.frozen 0
      have c_r_1_w9 := x_r.cell (i := 1) rfl
      have f_r_1_w9 := x_r.frozen 1
      go_wp2
      refine ret_cell_tmp (by rfl) (by rfl) x_r Try.underlying26 sz_out (by rfl) ?_
      rw [HP.out, HB.out]
      exact ⟨_, rfl, ov_out (d := ⟨o.Next + 1, X⟩) o4 (by omega), B_w9⟩
    case inr =>
      obtain ⟨w5, e_w5, s_w5, h_w5, y⟩ := set_step x_out 1 (.slice A4 X.length c4)
      have s_w5_1 := Nat.le_of_eq s_w5
      have s_w5_2 := Nat.le_of_eq s_w5.symm
      clear s_w5
      replace x_a := x_a.chg h_w5 (by omega)
      replace x_m := x_m.chg h_w5 (by omega)
      replace x_r := x_r.chg h_w5 (by omega)
      replace x_t := x_t.chg h_w5 (by omega)
      replace o4 := o4.chg h_w5 (by omega)
      have B_w5 := Below.chg_ B_w4 h_w5 (by omega) (by omega)
      replace x_out : Vr w5 (w1.heap.size) 26 [.int .i64 o.Next, .slice A4 X.length c4] := y
      clear y
      have c_a_0_w5 := x_a.cell (i := 0) rfl
      have f_a_0_w5 := x_a.frozen 0
      have c_a_1_w5 := x_a.cell (i := 1) rfl
      have f_a_1_w5 := x_a.frozen 1
      have c_m_0_w5 := x_m.cell (i := 0) rfl
      have f_m_0_w5 := x_m.frozen 0
      have c_m_1_w5 := x_m.cell (i := 1) rfl
      have f_m_1_w5 := x_m.frozen 1
      have c_m_2_w5 := x_m.cell (i := 2) rfl
      have f_m_2_w5 := x_m.frozen 2
      have c_m_3_w5 := x_m.cell (i := 3) rfl
      have f_m_3_w5 := x_m.frozen 3
      have c_r_0_w5 := x_r.cell (i := 0) rfl
      have f_r_0_w5 := x_r.frozen 0
      have c_r_1_w5 := x_r.cell (i := 1) rfl
      have f_r_1_w5 := x_r.frozen 1
      have c_out_0_w5 := x_out.cell (i := 0) rfl
      have f_out_0_w5 := x_out.frozen 0
      have c_out_1_w5 := x_out.cell (i := 1) rfl
      have f_out_1_w5 := x_out.frozen 1
      obtain ⟨w6, e_w6, s_w6, h_w6, y⟩ := set_step x_out 0 (.int .i64 (o.Next + 1))
      have s_w6_1 := Nat.le_of_eq s_w6
      have s_w6_2 := Nat.le_of_eq s_w6.symm
      clear s_w6
      replace x_a := x_a.chg h_w6 (by omega)
      replace x_m := x_m.chg h_w6 (by omega)
      replace x_r := x_r.chg h_w6 (by omega)
      replace x_t := x_t.chg h_w6 (by omega)
      replace o4 := o4.chg h_w6 (by omega)
      have B_w6 := Below.chg_ B_w5 h_w6 (by omega) (by omega)
      replace x_out : Vr w6 (w1.heap.size) 26 [.int .i64 (o.Next + 1), .slice A4 X.length c4] := y
      clear y
      have c_a_0_w6 := x_a.cell (i := 0) rfl
      have f_a_0_w6 := x_a.frozen 0
      have c_a_1_w6 := x_a.cell (i := 1) rfl
      have f_a_1_w6 := x_a.frozen 1
      have c_m_0_w6 := x_m.cell (i := 0) rfl
      have f_m_0_w6 := x_m.frozen 0
      have c_m_1_w6 := x_m.cell (i := 1) rfl
      have f_m_1_w6 := x_m.frozen 1
      have c_m_2_w6 := x_m.cell (i := 2) rfl
      have f_m_2_w6 := x_m.frozen 2
      have c_m_3_w6 := x_m.cell (i := 3) rfl
      have f_m_3_w6 := x_m.frozen 3
      have c_r_0_w6 := x_r.cell (i := 0) rfl
      have f_r_0_w6 := x_r.frozen 0
      have c_r_1_w6 := x_r.cell (i := 1) rfl
      have f_r_1_w6 := x_r.frozen 1
      have c_out_0_w6 := x_out.cell (i := 0) rfl
      have f_out_0_w6 := x_out.frozen 0
      have c_out_1_w6 := x_out.cell (i := 1) rfl
      have f_out_1_w6 := x_out.frozen 1
      have i_r_0_w6 := x_r.same (i := 0) rfl
      have i_r_1_w6 := x_r.same (i := 1) rfl
      go_wp2_with fail
      refine (sOutOk_c (h0.from_ B_w6) hm).mono ?_
      rintro e w7 ⟨rfl, h_w7⟩
      clear c_a_0_w4 f_a_0_w4 c_a_1_w4 f_a_1_w4 c_m_0_w4 f_m_0_w4 c_m_1_w4 f_m_1_w4 c_m_2_w4 f_m_2_w4 c_m_3_w4 f_m_3_w4 c_r_0_w4 f_r_0_w4 c_r_1_w4 f_r_1_w4 c_out_0_w4 f_out_0_w4 c_out_1_w4 f_out_1_w4 c_a_0_w5 f_a_0_w5 c_a_1_w5 f_a_1_w5 c_m_0_w5 f_m_0_w5 c_m_1_w5 f_m_1_w5 c_m_2_w5 f_m_2_w5 c_m_3_w5 f_m_3_w5 c_r_0_w5 f_r_0_w5 c_r_1_w5 f_r_1_w5 c_out_0_w5 f_out_0_w5 c_out_1_w5 f_out_1_w5 c_a_0_w6 f_a_0_w6 c_a_1_w6 f_a_1_w6 c_m_0_w6 f_m_0_w6 c_m_1_w6 f_m_1_w6 c_m_2_w6 f_m_2_w6 c_m_3_w6 f_m_3_w6 c_r_0_w6 f_r_0_w6 c_r_1_w6 f_r_1_w6 c_out_0_w6 f_out_0_w6 c_out_1_w6 f_out_1_w6
      replace x_a := x_a.from_ h_w7
      replace x_m := x_m.from_ h_w7
      replace x_r := x_r.from_ h_w7
      replace x_out := x_out.from_ h_w7
      replace x_t := x_t.from_ h_w7
      replace o4 := o4.below h_w7
      have B_w7 := B_w6.trans (h_w7.mono B_w6.size)
      have s_w7 := h_w7.size
      rw [HK.out]
      have c_a_0_w7 := x_a.cell (i := 0) rfl
      have f_a_0_w7 := x_a.frozen 0
      have c_a_1_w7 := x_a.cell (i := 1) rfl
      have f_a_1_w7 := x_a.frozen 1
      have c_m_0_w7 := x_m.cell (i := 0) rfl
      have f_m_0_w7 := x_m.frozen 0
      have c_m_1_w7 := x_m.cell (i := 1) rfl
      have f_m_1_w7 := x_m.frozen 1
      have c_m_2_w7 := x_m.cell (i := 2) rfl
      have f_m_2_w7 := x_m.frozen 2
      have c_m_3_w7 := x_m.cell (i := 3) rfl
      have f_m_3_w7 := x_m.frozen 3
      have c_r_0_w7 := x_r.cell (i := 0) rfl
      have f_r_0_w7 := x_r.frozen 0
      have c_r_1_w7 := x_r.cell (i := 1) rfl
      have f_r_1_w7 := x_r.frozen 1
      have c_out_0_w7 := x_out.cell (i := 0) rfl
      have f_out_0_w7 := x_out.frozen 0
      have c_out_1_w7 := x_out.cell (i := 1) rfl
      have f_out_1_w7 := x_out.frozen 1
      have i_r_0_w7 := x_r.same (i := 0) rfl
      have i_r_1_w7 := x_r.same (i := 1) rfl
      have rO : RV outL w7 (.agg #[.int .i64 (o.Next + 1), .slice A4 X.length c4]) ⟨o.Next + 1, X⟩ := rv_out_mk o4.rd
      go_wp2_with fail
      refine (sOutOk_c rO (by show X.length ≤ _; omega)).mono ?_
      rintro e w8 ⟨rfl, h_w8⟩
      clear c_a_0_w7 f_a_0_w7 c_a_1_w7 f_a_1_w7 c_m_0_w7 f_m_0_w7 c_m_1_w7 f_m_1_w7 c_m_2_w7 f_m_2_w7 c_m_3_w7 f_m_3_w7 c_r_0_w7 f_r_0_w7 c_r_1_w7 f_r_1_w7 c_out_0_w7 f_out_0_w7 c_out_1_w7 f_out_1_w7
      replace x_a := x_a.from_ h_w8
      replace x_m := x_m.from_ h_w8
      replace x_r := x_r.from_ h_w8
      replace x_out := x_out.from_ h_w8
      replace x_t := x_t.from_ h_w8
      replace o4 := o4.below h_w8
      have B_w8 := B_w7.trans (h_w8.mono B_w7.size)
      have s_w8 := h_w8.size
      rw [HA.out]
      have c_a_0_w8 := x_a.cell (i := 0) rfl
      have f_a_0_w8 := x_a.frozen 0
      have c_a_1_w8 := x_a.cell (i := 1) rfl
      have f_a_1_w8 := x_a.frozen 1
      have c_m_0_w8 := x_m.cell (i := 0) rfl
      have f_m_0_w8 := x_m.frozen 0
      have c_m_1_w8 := x_m.cell (i := 1) rfl
      have f_m_1_w8 := x_m.frozen 1
      have c_m_2_w8 := x_m.cell (i := 2) rfl
      have f_m_2_w8 := x_m.frozen 2
      have c_m_3_w8 := x_m.cell (i := 3) rfl
      have f_m_3_w8 := x_m.frozen 3
      have c_r_0_w8 := x_r.cell (i := 0) rfl
      have f_r_0_w8 := x_r.frozen 0
      have c_r_1_w8 := x_r.cell (i := 1) rfl
      have f_r_1_w8 := x_r.frozen 1
      have c_out_0_w8 := x_out.cell (i := 0) rfl
      have f_out_0_w8 := x_out.frozen 0
      have c_out_1_w8 := x_out.cell (i := 1) rfl
      have f_out_1_w8 := x_out.frozen 1
      have i_r_0_w8 := x_r.same (i := 0) rfl
      have i_r_1_w8 := x_r.same (i := 1) rfl
      obtain ⟨w9, e_w9, s_w9, h_w9, y⟩ := store_step x_r [.int .i64 (o.Next + 1), .slice A4 X.length c4] rfl
      replace e_w9 : ((w8.setCell ⟨w.heap.size + 1 + 1, 0, none⟩ (.int .i64 (o.Next + 1))).setCell ⟨w.heap.size + 1 + 1, 1, none⟩ (.slice A4 X.length c4)) = w9 := e_w9
      have s_w9_1 := Nat.le_of_eq s_w9
      have s_w9_2 := Nat.le_of_eq s_w9.symm
      clear s_w9
      replace x_a := x_a.chg h_w9 (by omega)
      replace x_m := x_m.chg h_w9 (by omega)
      replace x_out := x_out.chg h_w9 (by omega)
      replace x_t := x_t.chg h_w9 (by omega)
      replace o4 := o4.chg h_w9 (by omega)
      have B_w9 := Below.chg_ B_w8 h_w9 (by omega) (by omega)
      replace x_r : Vr w9 (w.heap.size + 1 + 1) 26 [.int .i64 (o.Next + 1), .slice A4 X.length c4] := y
      clear y
      have c_r_0_w9 := x_r.cell (i := 0) rfl
      have f_r_0_w9 := x_r.frozen 0
      have c_r_1_w9 := x_r.cell (i := 1) rfl
      have f_r_1_w9 := x_r.frozen 1
      go_wp2
      refine ret_cell_tmp (by rfl) (by rfl) x_r Try.underlying26 sz_out (by rfl) ?_
      rw [HP.out, HB.out]
      exact ⟨_, rfl, ov_out (d := ⟨o.Next + 1, X⟩) o4 (by omega), B_w9⟩

end Go.Proofs.Ytpaodpkgpajboaa
