/- Boxes: the contract of spec.OutAck. Laid by a program of ours (src/box6.py). -/
import Derived.Test.YtpaodpkgpajboaaBox5
namespace Go.Proofs.Ytpaodpkgpajboaa
open Go.RowKit
set_option linter.unusedVariables false

def outAckB (o : MOut) (q : Int) : Bool := outOkB o && inB q 0 (o.Next - 1)
def outAck (o : MOut) (q : Int) : MOut := if outAckB o q = true then ⟨o.Next, o.List.drop (q + 1 - outFirst o).toNat⟩ else outZ
theorem RdL.drop {α : Type} {L : Lay α} {n : Nat} {w : World} {B b off : Nat} {xs : List α} (h : RdL L n w B (some ⟨b, off, none⟩) xs) (k : Nat) : RdL L n w B (some ⟨b, off + k * n, none⟩) (xs.drop k) := by
  obtain ⟨cf, h1, h2⟩ := h
  refine ⟨fun j => cf (k + j), fun j x hx => h1 (k + j) x (by rw [List.getElem?_drop] at hx; exact hx), fun hp => ?_⟩
  rw [List.length_drop] at hp
  obtain ⟨b', off', e, hb, hc⟩ := h2 (by omega)
  simp only [Option.some.injEq, Addr.mk.injEq, and_true] at e
  obtain ⟨rfl, rfl⟩ := e
  refine ⟨b, off + k * n, rfl, hb, fun j i v hj hv => ?_⟩
  rw [List.length_drop] at hj
  have := hc (k + j) i v (by omega) hv
  rw [show off + k * n + (j * n + i) = off + ((k + j) * n + i) by rw [Nat.add_mul]; omega]
  exact this
theorem outAck_len (o : MOut) (q : Int) : (outAck o q).List.length ≤ o.List.length := by
  unfold outAck outZ
  split <;> simp

set_option maxRecDepth 100000 in
set_option maxHeartbeats 4000000 in
theorem sOutAck_c {w : World} {v : Value} {o : MOut} {q : Int} (h : RV outL w v o) (hm : o.List.length ≤ 16777216) : Calls Try.prog 35 #[v, .int .i64 q] w (NewVB outL w (outAck o q) (outAckB o q)) := by
  have h0 := h
  obtain ⟨A, c, rfl, hr0⟩ := rv_out h
  obtain ⟨A', c', he, hc1, hc2, hr⟩ := rv_slice hr0
  simp only [Value.slice.injEq, true_and] at he
  obtain ⟨rfl, rfl⟩ := he
  clear h
  obtain ⟨i0, hi, hz0, hz1, hz2⟩ := info_parts Try.info_msg
  obtain ⟨wa, hwa, B0, sa, x_a, x_r⟩ := frame2 w 26 [.int .i64 o.Next, .slice A o.List.length c] 26 [.int .i64 0, .slice none 0 0]
  have sa_1 := Nat.le_of_eq sa
  have sa_2 := Nat.le_of_eq sa.symm
  clear sa
  have c_a_0_wa := x_a.cell (i := 0) rfl
  have f_a_0_wa := x_a.frozen 0
  have c_a_1_wa := x_a.cell (i := 1) rfl
  have f_a_1_wa := x_a.frozen 1
  have c_r_0_wa := x_r.cell (i := 0) rfl
  have f_r_0_wa := x_r.frozen 0
  have c_r_1_wa := x_r.cell (i := 1) rfl
  have f_r_1_wa := x_r.frozen 1
  have i_r_0_wa := x_r.same (i := 0) rfl
  have i_r_1_wa := x_r.same (i := 1) rfl
  by_cases hok : outOkB o = true
  case neg =>
    have hB : outAckB o q = false := by unfold outAckB; simp [hok]
    have HB := Lib.hid hB
    have HP : Hid (outAck o q = outZ) := if_neg (by rw [hB]; decide)
    have hok' : outOkB o = false := by simpa using hok
    have HK := Lib.hid hok'
    clear hok hok' hB
    go_enter Try.func35, Try.ntmps35
    go_wp2_with fail
    refine (sOutOk_c (h0.from_ B0) hm).mono ?_
    rintro e w1 ⟨rfl, h_w1⟩
    clear c_a_0_wa f_a_0_wa c_a_1_wa f_a_1_wa c_r_0_wa f_r_0_wa c_r_1_wa f_r_1_wa
    replace x_a := x_a.from_ h_w1
    replace x_r := x_r.from_ h_w1
    have B_w1 := B0.trans (h_w1.mono B0.size)
    have s_w1 := h_w1.size
    rw [HK.out]
    have c_a_0_w1 := x_a.cell (i := 0) rfl
    have f_a_0_w1 := x_a.frozen 0
    have c_a_1_w1 := x_a.cell (i := 1) rfl
    have f_a_1_w1 := x_a.frozen 1
    have c_r_0_w1 := x_r.cell (i := 0) rfl
    have f_r_0_w1 := x_r.frozen 0
    have c_r_1_w1 := x_r.cell (i := 1) rfl
    have f_r_1_w1 := x_r.frozen 1
    have i_r_0_w1 := x_r.same (i := 0) rfl
    have i_r_1_w1 := x_r.same (i := 1) rfl
    go_wp2
    refine ret_cell_tmp (by rfl) (by rfl) x_r Try.underlying26 sz_out (by rfl) ?_
    rw [HP.out, HB.out]
    exact ⟨_, rfl, ov_out (d := outZ) (ov_msgs_nil (lo := w.heap.size) (by omega)) (by omega), B_w1⟩
  have HK := Lib.hid hok
  have hp := outOk_parts hok
  have b1 := hp.1
  have b2 := hp.2.1
  have b3 := hp.2.2.1
  clear hp
  by_cases hin : inB q 0 (o.Next - 1) = true
  case neg =>
    have hin' : inB q 0 (o.Next - 1) = false := by simpa using hin
    have HI := Lib.hid hin'
    have hB : outAckB o q = false := by unfold outAckB; rw [hin']; simp
    have HB := Lib.hid hB
    have HP : Hid (outAck o q = outZ) := if_neg (by rw [hB]; decide)
    clear hin hin' hB hok
    go_enter Try.func35, Try.ntmps35
    go_wp2_with fail
    refine (sOutOk_c (h0.from_ B0) hm).mono ?_
    rintro e w1 ⟨rfl, h_w1⟩
    clear c_a_0_wa f_a_0_wa c_a_1_wa f_a_1_wa c_r_0_wa f_r_0_wa c_r_1_wa f_r_1_wa
    replace x_a := x_a.from_ h_w1
    replace x_r := x_r.from_ h_w1
    have B_w1 := B0.trans (h_w1.mono B0.size)
    have s_w1 := h_w1.size
    rw [HK.out]
    have c_a_0_w1 := x_a.cell (i := 0) rfl
    have f_a_0_w1 := x_a.frozen 0
    have c_a_1_w1 := x_a.cell (i := 1) rfl
    have f_a_1_w1 := x_a.frozen 1
    have c_r_0_w1 := x_r.cell (i := 0) rfl
    have f_r_0_w1 := x_r.frozen 0
    have c_r_1_w1 := x_r.cell (i := 1) rfl
    have f_r_1_w1 := x_r.frozen 1
    have i_r_0_w1 := x_r.same (i := 0) rfl
    have i_r_1_w1 := x_r.same (i := 1) rfl
    go_wp2_with fail
    refine (sIn_any _ _ _ _).mono ?_
    rintro e wi ⟨rfl, rfl⟩
    rw [HI.out]
    go_wp2
    refine ret_cell_tmp (by rfl) (by rfl) x_r Try.underlying26 sz_out (by rfl) ?_
    rw [HP.out, HB.out]
    exact ⟨_, rfl, ov_out (d := outZ) (ov_msgs_nil (lo := w.heap.size) (by omega)) (by omega), B_w1⟩
  have HI := Lib.hid hin
  have hqr := hin
  rw [inB_true] at hqr
  have hB : outAckB o q = true := by unfold outAckB; rw [hok, hin]; rfl
  have HB := Lib.hid hB
  obtain ⟨f, hf⟩ : ∃ f, outFirst o = f := ⟨_, rfl⟩
  have hfv : f = o.Next - (o.List.length : Int) := by rw [← hf]; exact if_pos hok
  have b4 : 1 ≤ f ∧ f ≤ 1125899906842624 := by omega
  have b5 : q + 1 - f ≤ (o.List.length : Int) := by omega
  have HF := Lib.hid hf
  have hP : outAck o q = ⟨o.Next, o.List.drop (q + 1 - f).toNat⟩ := by unfold outAck; rw [if_pos hB, hf]
  clear hB hin hok hf hfv
  by_cases hk : 0 < q + 1 - f
  case neg =>
    rw [show (q + 1 - f).toNat = 0 by omega, List.drop_zero] at hP
    have HP := Lib.hid hP
    clear hP
    go_enter Try.func35, Try.ntmps35
    go_wp2_with fail
    refine (sOutOk_c (h0.from_ B0) hm).mono ?_
    rintro e w1 ⟨rfl, h_w1⟩
    clear c_a_0_wa f_a_0_wa c_a_1_wa f_a_1_wa c_r_0_wa f_r_0_wa c_r_1_wa f_r_1_wa
    replace x_a := x_a.from_ h_w1
    replace x_r := x_r.from_ h_w1
    have B_w1 := B0.trans (h_w1.mono B0.size)
    have s_w1 := h_w1.size
    rw [HK.out]
    have c_a_0_w1 := x_a.cell (i := 0) rfl
    have f_a_0_w1 := x_a.frozen 0
    have c_a_1_w1 := x_a.cell (i := 1) rfl
    have f_a_1_w1 := x_a.frozen 1
    have c_r_0_w1 := x_r.cell (i := 0) rfl
    have f_r_0_w1 := x_r.frozen 0
    have c_r_1_w1 := x_r.cell (i := 1) rfl
    have f_r_1_w1 := x_r.frozen 1
    have i_r_0_w1 := x_r.same (i := 0) rfl
    have i_r_1_w1 := x_r.same (i := 1) rfl
    go_wp2_with fail
    refine (sIn_any _ _ _ _).mono ?_
    rintro e wi ⟨rfl, rfl⟩
    rw [HI.out]
    go_wp2_with fail
    refine (sOutCopy_c (h0.from_ B_w1) hm).mono ?_
    rintro e w2 ⟨u, rfl, ou, h_w2⟩
    clear c_a_0_w1 f_a_0_w1 c_a_1_w1 f_a_1_w1 c_r_0_w1 f_r_0_w1 c_r_1_w1 f_r_1_w1
    replace x_a := x_a.from_ h_w2
    replace x_r := x_r.from_ h_w2
    have B_w2 := B_w1.trans (h_w2.mono B_w1.size)
    have s_w2 := h_w2.size
    obtain ⟨A1, c1, rfl, oL⟩ := ov_out_parts ou
    clear ou
    have c_a_0_w2 := x_a.cell (i := 0) rfl
    have f_a_0_w2 := x_a.frozen 0
    have c_a_1_w2 := x_a.cell (i := 1) rfl
    have f_a_1_w2 := x_a.frozen 1
    have c_r_0_w2 := x_r.cell (i := 0) rfl
    have f_r_0_w2 := x_r.frozen 0
    have c_r_1_w2 := x_r.cell (i := 1) rfl
    have f_r_1_w2 := x_r.frozen 1
    obtain ⟨w3, e_w3, s_w3, h_w3, x_out⟩ := alloc_step w2 26 [.int .i64 o.Next, .slice A1 o.List.length c1]
    have s_w3_1 := Nat.le_of_eq s_w3
    have s_w3_2 := Nat.le_of_eq s_w3.symm
    clear s_w3
    replace x_a := x_a.from_ h_w3
    replace x_r := x_r.from_ h_w3
    replace oL := oL.below h_w3
    have B_w3 := B_w2.trans (h_w3.mono B_w2.size)
    have c_a_0_w3 := x_a.cell (i := 0) rfl
    have f_a_0_w3 := x_a.frozen 0
    have c_a_1_w3 := x_a.cell (i := 1) rfl
    have f_a_1_w3 := x_a.frozen 1
    have c_r_0_w3 := x_r.cell (i := 0) rfl
    have f_r_0_w3 := x_r.frozen 0
    have c_r_1_w3 := x_r.cell (i := 1) rfl
    have f_r_1_w3 := x_r.frozen 1
    have c_out_0_w3 := x_out.cell (i := 0) rfl
    have f_out_0_w3 := x_out.frozen 0
    have c_out_1_w3 := x_out.cell (i := 1) rfl
    have f_out_1_w3 := x_out.frozen 1
    go_wp2_with fail
    refine (sOutFirst_c (h0.from_ B_w3) hm).mono ?_
    rintro e w4 ⟨rfl, h_w4⟩
    clear c_a_0_w2 f_a_0_w2 c_a_1_w2 f_a_1_w2 c_r_0_w2 f_r_0_w2 c_r_1_w2 f_r_1_w2 c_a_0_w3 f_a_0_w3 c_a_1_w3 f_a_1_w3 c_r_0_w3 f_r_0_w3 c_r_1_w3 f_r_1_w3 c_out_0_w3 f_out_0_w3 c_out_1_w3 f_out_1_w3
    replace x_a := x_a.from_ h_w4
    replace x_r := x_r.from_ h_w4
    replace x_out := x_out.from_ h_w4
    replace oL := oL.below h_w4
    have B_w4 := B_w3.trans (h_w4.mono B_w3.size)
    have s_w4 := h_w4.size
    rw [HF.out]
    have c_a_0_w4 := x_a.cell (i := 0) rfl
    have f_a_0_w4 := x_a.frozen 0
    have c_a_1_w4 := x_a.cell (i := 1) rfl
    have f_a_1_w4 := x_a.frozen 1
    have c_r_0_w4 := x_r.cell (i := 0) rfl
    have f_r_0_w4 := x_r.frozen 0
    have c_r_1_w4 := x_r.cell (i := 1) rfl
    have f_r_1_w4 := x_r.frozen 1
    have c_out_0_w4 := x_out.cell (i := 0) rfl
    have f_out_0_w4 := x_out.frozen 0
    have c_out_1_w4 := x_out.cell (i := 1) rfl
    have f_out_1_w4 := x_out.frozen 1
    obtain ⟨w5, e_w5, s_w5, h_w5, y⟩ := store_step x_r [.int .i64 o.Next, .slice A1 o.List.length c1] rfl
    replace e_w5 : ((w4.setCell ⟨w.heap.size + 1, 0, none⟩ (.int .i64 o.Next)).setCell ⟨w.heap.size + 1, 1, none⟩ (.slice A1 o.List.length c1)) = w5 := e_w5
    have s_w5_1 := Nat.le_of_eq s_w5
    have s_w5_2 := Nat.le_of_eq s_w5.symm
    clear s_w5
    replace x_a := x_a.chg h_w5 (by omega)
    replace x_out := x_out.chg h_w5 (by omega)
    replace oL := oL.chg h_w5 (by omega)
    have B_w5 := Below.chg_ B_w4 h_w5 (by omega) (by omega)
    replace x_r : Vr w5 (w.heap.size + 1) 26 [.int .i64 o.Next, .slice A1 o.List.length c1] := y
    clear y
    have c_r_0_w5 := x_r.cell (i := 0) rfl
    have f_r_0_w5 := x_r.frozen 0
    have c_r_1_w5 := x_r.cell (i := 1) rfl
    have f_r_1_w5 := x_r.frozen 1
    go_wp2
    refine ret_cell_tmp (by rfl) (by rfl) x_r Try.underlying26 sz_out (by rfl) ?_
    rw [HP.out, HB.out]
    exact ⟨_, rfl, ov_out (d := ⟨o.Next, o.List⟩) oL (by omega), B_w5⟩
  case pos =>
    obtain ⟨k, hkk⟩ : ∃ k : Nat, q = f + (k : Int) - 1 := ⟨(q + 1 - f).toNat, by omega⟩
    have k1 : 0 < k := by omega
    have k2 : k ≤ o.List.length := by omega
    rw [show (q + 1 - f).toNat = k by omega] at hP
    obtain ⟨X, hX⟩ : ∃ X, o.List.drop k = X := ⟨_, rfl⟩
    rw [hX] at hP
    have lX : o.List.length - k = X.length := by rw [← hX, List.length_drop]
    have HLX := Lib.hid lX
    have HX := Lib.hid hX
    have HP := Lib.hid hP
    clear hP hX
    have lX_1 := Nat.le_of_eq lX
    have lX_2 := Nat.le_of_eq lX.symm
    clear lX
    have e5 : q + 1 - f = (k : Int) := by omega
    have gk : ((k : Int)).toNat = k := by simp
    have gk2 : (k : Int) ≤ (o.List.length : Int) := by omega
    have gk3 : (0 : Int) < (k : Int) := by omega
    clear hkk
    obtain ⟨x0, hx0⟩ := get_of_lt (xs := o.List) (k := 0) (by omega)
    obtain ⟨b, off, rfl, hb, -, -, -, -⟩ := el_msg hr hx0
    clear hx0
    go_enter Try.func35, Try.ntmps35
    go_wp2_with fail
    refine (sOutOk_c (h0.from_ B0) hm).mono ?_
    rintro e w1 ⟨rfl, h_w1⟩
    clear c_a_0_wa f_a_0_wa c_a_1_wa f_a_1_wa c_r_0_wa f_r_0_wa c_r_1_wa f_r_1_wa
    replace x_a := x_a.from_ h_w1
    replace x_r := x_r.from_ h_w1
    have B_w1 := B0.trans (h_w1.mono B0.size)
    have s_w1 := h_w1.size
    rw [HK.out]
    have c_a_0_w1 := x_a.cell (i := 0) rfl
    have f_a_0_w1 := x_a.frozen 0
    have c_a_1_w1 := x_a.cell (i := 1) rfl
    have f_a_1_w1 := x_a.frozen 1
    have c_r_0_w1 := x_r.cell (i := 0) rfl
    have f_r_0_w1 := x_r.frozen 0
    have c_r_1_w1 := x_r.cell (i := 1) rfl
    have f_r_1_w1 := x_r.frozen 1
    have i_r_0_w1 := x_r.same (i := 0) rfl
    have i_r_1_w1 := x_r.same (i := 1) rfl
    go_wp2_with fail
    refine (sIn_any _ _ _ _).mono ?_
    rintro e wi ⟨rfl, rfl⟩
    rw [HI.out]
    go_wp2_with fail
    refine (sOutCopy_c (h0.from_ B_w1) hm).mono ?_
    rintro e w2 ⟨u, rfl, ou, h_w2⟩
    clear c_a_0_w1 f_a_0_w1 c_a_1_w1 f_a_1_w1 c_r_0_w1 f_r_0_w1 c_r_1_w1 f_r_1_w1
    replace x_a := x_a.from_ h_w2
    replace x_r := x_r.from_ h_w2
    have B_w2 := B_w1.trans (h_w2.mono B_w1.size)
    have s_w2 := h_w2.size
    obtain ⟨A1, c1, rfl, oL⟩ := ov_out_parts ou
    clear ou
    have c_a_0_w2 := x_a.cell (i := 0) rfl
    have f_a_0_w2 := x_a.frozen 0
    have c_a_1_w2 := x_a.cell (i := 1) rfl
    have f_a_1_w2 := x_a.frozen 1
    have c_r_0_w2 := x_r.cell (i := 0) rfl
    have f_r_0_w2 := x_r.frozen 0
    have c_r_1_w2 := x_r.cell (i := 1) rfl
    have f_r_1_w2 := x_r.frozen 1
    obtain ⟨w3, e_w3, s_w3, h_w3, x_out⟩ := alloc_step w2 26 [.int .i64 o.Next, .slice A1 o.List.length c1]
    have s_w3_1 := Nat.le_of_eq s_w3
    have s_w3_2 := Nat.le_of_eq s_w3.symm
    clear s_w3
    replace x_a := x_a.from_ h_w3
    replace x_r := x_r.from_ h_w3
    replace oL := oL.below h_w3
    have B_w3 := B_w2.trans (h_w3.mono B_w2.size)
    have c_a_0_w3 := x_a.cell (i := 0) rfl
    have f_a_0_w3 := x_a.frozen 0
    have c_a_1_w3 := x_a.cell (i := 1) rfl
    have f_a_1_w3 := x_a.frozen 1
    have c_r_0_w3 := x_r.cell (i := 0) rfl
    have f_r_0_w3 := x_r.frozen 0
    have c_r_1_w3 := x_r.cell (i := 1) rfl
    have f_r_1_w3 := x_r.frozen 1
    have c_out_0_w3 := x_out.cell (i := 0) rfl
    have f_out_0_w3 := x_out.frozen 0
    have c_out_1_w3 := x_out.cell (i := 1) rfl
    have f_out_1_w3 := x_out.frozen 1
    go_wp2_with fail
    refine (sOutFirst_c (h0.from_ B_w3) hm).mono ?_
    rintro e w4 ⟨rfl, h_w4⟩
    clear c_a_0_w2 f_a_0_w2 c_a_1_w2 f_a_1_w2 c_r_0_w2 f_r_0_w2 c_r_1_w2 f_r_1_w2 c_a_0_w3 f_a_0_w3 c_a_1_w3 f_a_1_w3 c_r_0_w3 f_r_0_w3 c_r_1_w3 f_r_1_w3 c_out_0_w3 f_out_0_w3 c_out_1_w3 f_out_1_w3
    replace x_a := x_a.from_ h_w4
    replace x_r := x_r.from_ h_w4
    replace x_out := x_out.from_ h_w4
    replace oL := oL.below h_w4
    have B_w4 := B_w3.trans (h_w4.mono B_w3.size)
    have s_w4 := h_w4.size
    rw [HF.out]
    have c_a_0_w4 := x_a.cell (i := 0) rfl
    have f_a_0_w4 := x_a.frozen 0
    have c_a_1_w4 := x_a.cell (i := 1) rfl
    have f_a_1_w4 := x_a.frozen 1
    have c_r_0_w4 := x_r.cell (i := 0) rfl
    have f_r_0_w4 := x_r.frozen 0
    have c_r_1_w4 := x_r.cell (i := 1) rfl
    have f_r_1_w4 := x_r.frozen 1
    have c_out_0_w4 := x_out.cell (i := 0) rfl
    have f_out_0_w4 := x_out.frozen 0
    have c_out_1_w4 := x_out.cell (i := 1) rfl
    have f_out_1_w4 := x_out.frozen 1
    obtain ⟨w5, e_w5, s_w5, h_w5, x_e⟩ := alloc_step w4 29 []
    have s_w5_1 := Nat.le_of_eq s_w5
    have s_w5_2 := Nat.le_of_eq s_w5.symm
    clear s_w5
    replace x_a := x_a.from_ h_w5
    replace x_r := x_r.from_ h_w5
    replace x_out := x_out.from_ h_w5
    replace oL := oL.below h_w5
    have B_w5 := B_w4.trans (h_w5.mono B_w4.size)
    have c_a_0_w5 := x_a.cell (i := 0) rfl
    have f_a_0_w5 := x_a.frozen 0
    have c_a_1_w5 := x_a.cell (i := 1) rfl
    have f_a_1_w5 := x_a.frozen 1
    have c_r_0_w5 := x_r.cell (i := 0) rfl
    have f_r_0_w5 := x_r.frozen 0
    have c_r_1_w5 := x_r.cell (i := 1) rfl
    have f_r_1_w5 := x_r.frozen 1
    have c_out_0_w5 := x_out.cell (i := 0) rfl
    have f_out_0_w5 := x_out.frozen 0
    have c_out_1_w5 := x_out.cell (i := 1) rfl
    have f_out_1_w5 := x_out.frozen 1
    have oE := ov_msgs_lit w4
    rw [show (#[] : Array Value) = ([] : List Value).toArray from rfl, e_w5] at oE
    obtain ⟨AX, hAX⟩ : ∃ AX, (if c = k then some (⟨b, off, none⟩ : Addr) else some ⟨b, off + k * 4, none⟩) = AX := ⟨_, rfl⟩
    have hrX : RdL msgL 4 w5 w.heap.size AX X := by
      rw [← hAX, ← HX.out]
      by_cases hck : c = k
      · rw [List.drop_of_length_le (by omega)]; exact ⟨fun _ => [], fun j x hx => by simp at hx, fun hp => by simp at hp⟩
      · rw [if_neg hck]; exact (hr.below B_w5).drop k
    obtain ⟨zs, us, R, hul, hrd, hus, hend⟩ := OV.app_all own_msg_nil msg_own_of_rd oE hrX (by omega)
    have h1c := msg_one hus
    clear hus
    go_wp2_with (at_builtin; refine wpl_appN _ rfl (.tmp 29) (.tmp 33) 23 rfl 0 4 29 i0 (.agg #[.int .i64 0, .int .i64 0, .int .i64 0, .int .i64 0]) 32 Try.underlying23 hi hz0 hz1 hz2 rfl (by decide) _ 0 zs rfl R _ AX _ (o.List.length - k) us rfl ?e0 hrd h1c ?e1 (by decide) (Nat.zero_le _) ?_)
    case e0 => rw [HLX.out]; exact hul
    case e1 => omega
    intro v6 w6 ho6 hg6 hat6
    obtain ⟨o6, hb6⟩ := hend v6 w6 (by rw [HLX.out] at ho6; simpa using ho6) hg6 hat6
    rw [List.nil_append] at o6
    clear hend R hul hrd h1c ho6 hg6 hat6
    obtain ⟨A6, c6, rfl, -, -, -⟩ := rv_slice o6.rd
    clear c_a_0_w4 f_a_0_w4 c_a_1_w4 f_a_1_w4 c_r_0_w4 f_r_0_w4 c_r_1_w4 f_r_1_w4 c_out_0_w4 f_out_0_w4 c_out_1_w4 f_out_1_w4 c_a_0_w5 f_a_0_w5 c_a_1_w5 f_a_1_w5 c_r_0_w5 f_r_0_w5 c_r_1_w5 f_r_1_w5 c_out_0_w5 f_out_0_w5 c_out_1_w5 f_out_1_w5
    clear oL oE x_e
    replace x_a := x_a.below hb6 (by omega)
    replace x_r := x_r.below hb6 (by omega)
    replace x_out := x_out.below hb6 (by omega)
    have B_w6 := B_w5.trans (hb6.mono (by omega))
    have s_w6 := hb6.size
    have c_a_0_w6 := x_a.cell (i := 0) rfl
    have f_a_0_w6 := x_a.frozen 0
    have c_a_1_w6 := x_a.cell (i := 1) rfl
    have f_a_1_w6 := x_a.frozen 1
    have c_r_0_w6 := x_r.cell (i := 0) rfl
    have f_r_0_w6 := x_r.frozen 0
    have c_r_1_w6 := x_r.cell (i := 1) rfl
    have f_r_1_w6 := x_r.frozen 1
    have c_out_0_w6 := x_out.cell (i := 0) rfl
    have f_out_0_w6 := x_out.frozen 0
    have c_out_1_w6 := x_out.cell (i := 1) rfl
    have f_out_1_w6 := x_out.frozen 1
    obtain ⟨w7, e_w7, s_w7, h_w7, y⟩ := set_step x_out 1 (.slice A6 X.length c6)
    have s_w7_1 := Nat.le_of_eq s_w7
    have s_w7_2 := Nat.le_of_eq s_w7.symm
    clear s_w7
    replace x_a := x_a.chg h_w7 (by omega)
    replace x_r := x_r.chg h_w7 (by omega)
    replace o6 := o6.chg h_w7 (by omega)
    have B_w7 := Below.chg_ B_w6 h_w7 (by omega) (by omega)
    replace x_out : Vr w7 (w2.heap.size) 26 [.int .i64 o.Next, .slice A6 X.length c6] := y
    clear y
    have c_a_0_w7 := x_a.cell (i := 0) rfl
    have f_a_0_w7 := x_a.frozen 0
    have c_a_1_w7 := x_a.cell (i := 1) rfl
    have f_a_1_w7 := x_a.frozen 1
    have c_r_0_w7 := x_r.cell (i := 0) rfl
    have f_r_0_w7 := x_r.frozen 0
    have c_r_1_w7 := x_r.cell (i := 1) rfl
    have f_r_1_w7 := x_r.frozen 1
    have c_out_0_w7 := x_out.cell (i := 0) rfl
    have f_out_0_w7 := x_out.frozen 0
    have c_out_1_w7 := x_out.cell (i := 1) rfl
    have f_out_1_w7 := x_out.frozen 1
    obtain ⟨w8, e_w8, s_w8, h_w8, y⟩ := store_step x_r [.int .i64 o.Next, .slice A6 X.length c6] rfl
    replace e_w8 : ((w7.setCell ⟨w.heap.size + 1, 0, none⟩ (.int .i64 o.Next)).setCell ⟨w.heap.size + 1, 1, none⟩ (.slice A6 X.length c6)) = w8 := e_w8
    have s_w8_1 := Nat.le_of_eq s_w8
    have s_w8_2 := Nat.le_of_eq s_w8.symm
    clear s_w8
    replace x_a := x_a.chg h_w8 (by omega)
    replace x_out := x_out.chg h_w8 (by omega)
    replace o6 := o6.chg h_w8 (by omega)
    have B_w8 := Below.chg_ B_w7 h_w8 (by omega) (by omega)
    replace x_r : Vr w8 (w.heap.size + 1) 26 [.int .i64 o.Next, .slice A6 X.length c6] := y
    clear y
    have c_r_0_w8 := x_r.cell (i := 0) rfl
    have f_r_0_w8 := x_r.frozen 0
    have c_r_1_w8 := x_r.cell (i := 1) rfl
    have f_r_1_w8 := x_r.frozen 1
    go_wp2
    refine ret_cell_tmp (by rfl) (by rfl) x_r Try.underlying26 sz_out (by rfl) ?_
    rw [HP.out, HB.out]
    exact ⟨_, rfl, ov_out (d := ⟨o.Next, X⟩) o6 (by omega), B_w8⟩

end Go.Proofs.Ytpaodpkgpajboaa
