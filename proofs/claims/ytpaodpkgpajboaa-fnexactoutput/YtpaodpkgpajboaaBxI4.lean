/- Boxes: the contract of impl.OutAck. Laid by a program of ours (src/boxi4.py). -/
import Derived.Test.YtpaodpkgpajboaaBxI3
namespace Go.Proofs.Ytpaodpkgpajboaa
open Go.RowKit
set_option linter.unusedVariables false
set_option maxRecDepth 100000 in
set_option maxHeartbeats 4000000 in
theorem iOutAck_c {w : World} {v : Value} {o : MOut} {q : Int} (h : RV outL w v o) (hm : o.List.length ≤ 16777216) (hq : -9223372036854775808 ≤ q ∧ q ≤ 9223372036854775807) : Calls Try.prog 19 #[v, .int .i64 q] w (NewVB outL w (outAck o q) (outAckB o q)) := by
  have h0 := h
  obtain ⟨A, c, rfl, hr0⟩ := rv_out h
  clear h
  obtain ⟨wa, hwa, B0, sa, x_a, x_r⟩ := frame2 w 26 [.int .i64 o.Next, .slice A o.List.length c] 26 [.int .i64 0, .slice none 0 0]
  have sa_1 := Nat.le_of_eq sa
  have sa_2 := Nat.le_of_eq sa.symm
  clear sa
  have c_a_0_wa := x_a.cell (i := 0) rfl
  have f_a_0_wa := x_a.frozen 0
  have c_a_1_wa := x_a.cell (i := 1) rfl
  have f_a_1_wa := x_a.frozen 1
  have c_r_0_wa := x_r.cell (i := 0) rfl
  have f_r_0_wa := x_r.frozen 0
  have c_r_1_wa := x_r.cell (i := 1) rfl
  have f_r_1_wa := x_r.frozen 1
  have i_r_0_wa := x_r.same (i := 0) rfl
  have i_r_1_wa := x_r.same (i := 1) rfl
  by_cases hok : outOkB o = true
  case neg =>
    have hok' : outOkB o = false := by simpa using hok
    have HK := Lib.hid hok'
    clear hok'
    have hB : outAckB o q = false := by unfold outAckB; simp [hok]
    have HB := Lib.hid hB
    have HP : Hid (outAck o q = outZ) := if_neg (by rw [hB]; decide)
    clear hok hB
    go_enter Try.func19, Try.ntmps19
    go_wp2_with fail
    refine (iQueueOf_c (hr0.from_ B0) hm).mono ?_
    rintro e w1 ⟨rfl, h_w1⟩
    clear c_a_0_wa f_a_0_wa c_a_1_wa f_a_1_wa c_r_0_wa f_r_0_wa c_r_1_wa f_r_1_wa
    replace x_a := x_a.from_ h_w1
    replace x_r := x_r.from_ h_w1
    have B_w1 := B0.trans (h_w1.mono B0.size)
    have s_w1 := h_w1.size
    rw [HK.out]
    have c_a_0_w1 := x_a.cell (i := 0) rfl
    have f_a_0_w1 := x_a.frozen 0
    have c_a_1_w1 := x_a.cell (i := 1) rfl
    have f_a_1_w1 := x_a.frozen 1
    have c_r_0_w1 := x_r.cell (i := 0) rfl
    have f_r_0_w1 := x_r.frozen 0
    have c_r_1_w1 := x_r.cell (i := 1) rfl
    have f_r_1_w1 := x_r.frozen 1
    obtain ⟨w2, e_w2, s_w2, h_w2, x_q⟩ := alloc_step w1 64 [.slice A o.List.length c, .int .i64 o.Next]
    have s_w2_1 := Nat.le_of_eq s_w2
    have s_w2_2 := Nat.le_of_eq s_w2.symm
    clear s_w2
    replace x_a := x_a.from_ h_w2
    replace x_r := x_r.from_ h_w2
    have B_w2 := B_w1.trans (h_w2.mono B_w1.size)
    have c_a_0_w2 := x_a.cell (i := 0) rfl
    have f_a_0_w2 := x_a.frozen 0
    have c_a_1_w2 := x_a.cell (i := 1) rfl
    have f_a_1_w2 := x_a.frozen 1
    have c_r_0_w2 := x_r.cell (i := 0) rfl
    have f_r_0_w2 := x_r.frozen 0
    have c_r_1_w2 := x_r.cell (i := 1) rfl
    have f_r_1_w2 := x_r.frozen 1
    have c_q_0_w2 := x_q.cell (i := 0) rfl
    have f_q_0_w2 := x_q.frozen 0
    have c_q_1_w2 := x_q.cell (i := 1) rfl
    have f_q_1_w2 := x_q.frozen 1
    have i_r_0_w2 := x_r.same (i := 0) rfl
    have i_r_1_w2 := x_r.same (i := 1) rfl
    go_wp2
    refine ret_cell_tmp (by rfl) (by rfl) x_r Try.underlying26 sz_out (by rfl) ?_
    rw [HP.out, HB.out]
    exact ⟨_, rfl, ov_out (d := outZ) (ov_msgs_nil (lo := w.heap.size) (by omega)) (by omega), B_w2⟩
  have hp := outOk_parts hok
  have b1 := hp.1
  have b2 := hp.2.1
  have b3 := hp.2.2.1
  clear hp
  have HK := Lib.hid hok
  by_cases hin : inB q 0 (o.Next - 1) = true
  case neg =>
    have hin' : inB q 0 (o.Next - 1) = false := by simpa using hin
    have hB : outAckB o q = false := by unfold outAckB; rw [hin']; simp
    have HB := Lib.hid hB
    have HP : Hid (outAck o q = outZ) := if_neg (by rw [hB]; decide)
    rw [inB_false] at hin'
    clear hin hB hok
    by_cases h1 : q < 0
    case pos =>
      clear hin'
      go_enter Try.func19, Try.ntmps19
      go_wp2_with fail
      refine (iQueueOf_c (hr0.from_ B0) hm).mono ?_
      rintro e w1 ⟨rfl, h_w1⟩
      clear c_a_0_wa f_a_0_wa c_a_1_wa f_a_1_wa c_r_0_wa f_r_0_wa c_r_1_wa f_r_1_wa
      replace x_a := x_a.from_ h_w1
      replace x_r := x_r.from_ h_w1
      have B_w1 := B0.trans (h_w1.mono B0.size)
      have s_w1 := h_w1.size
      rw [HK.out]
      have c_a_0_w1 := x_a.cell (i := 0) rfl
      have f_a_0_w1 := x_a.frozen 0
      have c_a_1_w1 := x_a.cell (i := 1) rfl
      have f_a_1_w1 := x_a.frozen 1
      have c_r_0_w1 := x_r.cell (i := 0) rfl
      have f_r_0_w1 := x_r.frozen 0
      have c_r_1_w1 := x_r.cell (i := 1) rfl
      have f_r_1_w1 := x_r.frozen 1
      obtain ⟨w2, e_w2, s_w2, h_w2, x_q⟩ := alloc_step w1 64 [.slice A o.List.length c, .int .i64 o.Next]
      have s_w2_1 := Nat.le_of_eq s_w2
      have s_w2_2 := Nat.le_of_eq s_w2.symm
      clear s_w2
      replace x_a := x_a.from_ h_w2
      replace x_r := x_r.from_ h_w2
      have B_w2 := B_w1.trans (h_w2.mono B_w1.size)
      have c_a_0_w2 := x_a.cell (i := 0) rfl
      have f_a_0_w2 := x_a.frozen 0
      have c_a_1_w2 := x_a.cell (i := 1) rfl
      have f_a_1_w2 := x_a.frozen 1
      have c_r_0_w2 := x_r.cell (i := 0) rfl
      have f_r_0_w2 := x_r.frozen 0
      have c_r_1_w2 := x_r.cell (i := 1) rfl
      have f_r_1_w2 := x_r.frozen 1
      have c_q_0_w2 := x_q.cell (i := 0) rfl
      have f_q_0_w2 := x_q.frozen 0
      have c_q_1_w2 := x_q.cell (i := 1) rfl
      have f_q_1_w2 := x_q.frozen 1
      have i_r_0_w2 := x_r.same (i := 0) rfl
      have i_r_1_w2 := x_r.same (i := 1) rfl
      go_wp2
      refine ret_cell_tmp (by rfl) (by rfl) x_r Try.underlying26 sz_out (by rfl) ?_
      rw [HP.out, HB.out]
      exact ⟨_, rfl, ov_out (d := outZ) (ov_msgs_nil (lo := w.heap.size) (by omega)) (by omega), B_w2⟩
    case neg =>
      have h2 : o.Next ≤ q := by omega
      clear hin'
      go_enter Try.func19, Try.ntmps19
      go_wp2_with fail
      refine (iQueueOf_c (hr0.from_ B0) hm).mono ?_
      rintro e w1 ⟨rfl, h_w1⟩
      clear c_a_0_wa f_a_0_wa c_a_1_wa f_a_1_wa c_r_0_wa f_r_0_wa c_r_1_wa f_r_1_wa
      replace x_a := x_a.from_ h_w1
      replace x_r := x_r.from_ h_w1
      have B_w1 := B0.trans (h_w1.mono B0.size)
      have s_w1 := h_w1.size
      rw [HK.out]
      have c_a_0_w1 := x_a.cell (i := 0) rfl
      have f_a_0_w1 := x_a.frozen 0
      have c_a_1_w1 := x_a.cell (i := 1) rfl
      have f_a_1_w1 := x_a.frozen 1
      have c_r_0_w1 := x_r.cell (i := 0) rfl
      have f_r_0_w1 := x_r.frozen 0
      have c_r_1_w1 := x_r.cell (i := 1) rfl
      have f_r_1_w1 := x_r.frozen 1
      obtain ⟨w2, e_w2, s_w2, h_w2, x_q⟩ := alloc_step w1 64 [.slice A o.List.length c, .int .i64 o.Next]
      have s_w2_1 := Nat.le_of_eq s_w2
      have s_w2_2 := Nat.le_of_eq s_w2.symm
      clear s_w2
      replace x_a := x_a.from_ h_w2
      replace x_r := x_r.from_ h_w2
      have B_w2 := B_w1.trans (h_w2.mono B_w1.size)
      have c_a_0_w2 := x_a.cell (i := 0) rfl
      have f_a_0_w2 := x_a.frozen 0
      have c_a_1_w2 := x_a.cell (i := 1) rfl
      have f_a_1_w2 := x_a.frozen 1
      have c_r_0_w2 := x_r.cell (i := 0) rfl
      have f_r_0_w2 := x_r.frozen 0
      have c_r_1_w2 := x_r.cell (i := 1) rfl
      have f_r_1_w2 := x_r.frozen 1
      have c_q_0_w2 := x_q.cell (i := 0) rfl
      have f_q_0_w2 := x_q.frozen 0
      have c_q_1_w2 := x_q.cell (i := 1) rfl
      have f_q_1_w2 := x_q.frozen 1
      have i_r_0_w2 := x_r.same (i := 0) rfl
      have i_r_1_w2 := x_r.same (i := 1) rfl
      go_wp2
      refine ret_cell_tmp (by rfl) (by rfl) x_r Try.underlying26 sz_out (by rfl) ?_
      rw [HP.out, HB.out]
      exact ⟨_, rfl, ov_out (d := outZ) (ov_msgs_nil (lo := w.heap.size) (by omega)) (by omega), B_w2⟩
  have hqr := hin
  rw [inB_true] at hqr
  have hB : outAckB o q = true := by unfold outAckB; rw [hok, hin]; rfl
  have HB := Lib.hid hB
  obtain ⟨X, hX⟩ : ∃ X, o.List.drop (afterK o q) = X := ⟨_, rfl⟩
  have HP : Hid (outAck o q = ⟨o.Next, X⟩) := by show _ = _; unfold outAck; rw [if_pos hB, ← hX]; unfold afterK outFirst; rw [if_pos hok]
  have lX : X.length ≤ 16777216 := by rw [← hX, List.length_drop]; omega
  have kA := fun (W : World) (hW : RV msgSL W (.slice A o.List.length c) o.List) => iAfter_c (q := q) hW hm b1 b2 b3 hq
  rw [hX] at kA
  have q1 : ¬ q < 0 := by omega
  have q2 : ¬ o.Next ≤ q := by omega
  clear hB hin hok hX
  go_enter Try.func19, Try.ntmps19
  go_wp2_with fail
  refine (iQueueOf_c (hr0.from_ B0) hm).mono ?_
  rintro e w1 ⟨rfl, h_w1⟩
  clear c_a_0_wa f_a_0_wa c_a_1_wa f_a_1_wa c_r_0_wa f_r_0_wa c_r_1_wa f_r_1_wa
  replace x_a := x_a.from_ h_w1
  replace x_r := x_r.from_ h_w1
  have B_w1 := B0.trans (h_w1.mono B0.size)
  have s_w1 := h_w1.size
  rw [HK.out]
  have c_a_0_w1 := x_a.cell (i := 0) rfl
  have f_a_0_w1 := x_a.frozen 0
  have c_a_1_w1 := x_a.cell (i := 1) rfl
  have f_a_1_w1 := x_a.frozen 1
  have c_r_0_w1 := x_r.cell (i := 0) rfl
  have f_r_0_w1 := x_r.frozen 0
  have c_r_1_w1 := x_r.cell (i := 1) rfl
  have f_r_1_w1 := x_r.frozen 1
  obtain ⟨w2, e_w2, s_w2, h_w2, x_q⟩ := alloc_step w1 64 [.slice A o.List.length c, .int .i64 o.Next]
  have s_w2_1 := Nat.le_of_eq s_w2
  have s_w2_2 := Nat.le_of_eq s_w2.symm
  clear s_w2
  replace x_a := x_a.from_ h_w2
  replace x_r := x_r.from_ h_w2
  have B_w2 := B_w1.trans (h_w2.mono B_w1.size)
  have c_a_0_w2 := x_a.cell (i := 0) rfl
  have f_a_0_w2 := x_a.frozen 0
  have c_a_1_w2 := x_a.cell (i := 1) rfl
  have f_a_1_w2 := x_a.frozen 1
  have c_r_0_w2 := x_r.cell (i := 0) rfl
  have f_r_0_w2 := x_r.frozen 0
  have c_r_1_w2 := x_r.cell (i := 1) rfl
  have f_r_1_w2 := x_r.frozen 1
  have c_q_0_w2 := x_q.cell (i := 0) rfl
  have f_q_0_w2 := x_q.frozen 0
  have c_q_1_w2 := x_q.cell (i := 1) rfl
  have f_q_1_w2 := x_q.frozen 1
  go_wp2_with fail
  go_region_held3 (fun w' => w'.cell? ⟨w1.heap.size, 0, none⟩ = some (.slice A o.List.length c) ∧ w'.cell? ⟨w1.heap.size, 1, none⟩ = some (.int .i64 o.Next))
    (first | exact ⟨c_q_0_w2, c_q_1_w2⟩ | exact ⟨qa_q_0, qa_q_1⟩ | exact ⟨qb_q_0, qb_q_1⟩ | exact ⟨(cell_sa (b := w.heap.size + 1) (p := ⟨w1.heap.size, 0, none⟩) (by show w1.heap.size ≠ w.heap.size + 1; omega) [.int .i64 o.Next, .slice A6 X.length c6] 0 w_b).trans qb_q_0, (cell_sa (b := w.heap.size + 1) (p := ⟨w1.heap.size, 1, none⟩) (by show w1.heap.size ≠ w.heap.size + 1; omega) [.int .i64 o.Next, .slice A6 X.length c6] 0 w_b).trans qb_q_1⟩ | go_keep)
    (first | ((go_at_call 46); (refine (kA _ (hr0.from_ (B_w2.drew))).mono ?_); rintro e w_a ⟨AX, cX, rfl, rX, hd_a⟩; have hb_a : Below w2.heap.size w2 w_a := (Below.refl w2.heap.size w2).drew.trans hd_a; have sd_a := hd_a.size; replace sd_a : w2.heap.size ≤ w_a.heap.size := sd_a; have qa_q_0 := (x_q.from_ hb_a).cell (i := 0) rfl; have qa_q_1 := (x_q.from_ hb_a).cell (i := 1) rfl; have qa_r_0 := (x_r.from_ hb_a).cell (i := 0) rfl; have pa_r_0 := (x_r.from_ hb_a).frozen 0; have qa_r_1 := (x_r.from_ hb_a).cell (i := 1) rfl; have pa_r_1 := (x_r.from_ hb_a).frozen 1; replace rX := rX.from_ hd_a)
           | ((go_at_call 44); (refine (iWith_c rX (rv_msgs_none (A := none) (c := 0) (X := []) rfl (Nat.zero_le _)) lX (Nat.zero_le _)).mono ?_); rintro e w_b ⟨u, rfl, ou, hd_b⟩; have hb_b : Below w2.heap.size w2 w_b := hb_a.trans (hd_b.mono hb_a.size); have sd_b := hd_b.size; have qb_q_0 := (x_q.from_ hb_b).cell (i := 0) rfl; have qb_q_1 := (x_q.from_ hb_b).cell (i := 1) rfl; have qb_r_0 := (x_r.from_ hb_b).cell (i := 0) rfl; have pb_r_0 := (x_r.from_ hb_b).frozen 0; have qb_r_1 := (x_r.from_ hb_b).cell (i := 1) rfl; have pb_r_1 := (x_r.from_ hb_b).frozen 1; rw [List.append_nil] at ou; obtain ⟨A6, c6, rfl, -, -, -⟩ := rv_slice ou.rd)
           | fail)
  clear c_a_0_w1 f_a_0_w1 c_a_1_w1 f_a_1_w1 c_r_0_w1 f_r_0_w1 c_r_1_w1 f_r_1_w1 c_a_0_w2 f_a_0_w2 c_a_1_w2 f_a_1_w2 c_r_0_w2 f_r_0_w2 c_r_1_w2 f_r_1_w2 c_q_0_w2 f_q_0_w2 c_q_1_w2 f_q_1_w2
  have dz_w2 : w2.drew.heap.size = w2.heap.size := rfl
  replace x_a := x_a.from_ hb_b
  replace x_r := x_r.from_ hb_b
  replace x_q := x_q.from_ hb_b
  have B_b := B_w2.trans (hb_b.mono B_w2.size)
  have sz_b := hb_b.size
  have c_r_0_w_b := x_r.cell (i := 0) rfl
  have f_r_0_w_b := x_r.frozen 0
  have c_r_1_w_b := x_r.cell (i := 1) rfl
  have f_r_1_w_b := x_r.frozen 1
  obtain ⟨w3, e_w3, s_w3, h_w3, y⟩ := store_step x_r [.int .i64 o.Next, .slice A6 X.length c6] rfl
  replace e_w3 : ((w_b.setCell ⟨w.heap.size + 1, 0, none⟩ (.int .i64 o.Next)).setCell ⟨w.heap.size + 1, 1, none⟩ (.slice A6 X.length c6)) = w3 := e_w3
  have s_w3_1 := Nat.le_of_eq s_w3
  have s_w3_2 := Nat.le_of_eq s_w3.symm
  clear s_w3
  replace x_a := x_a.chg h_w3 (by omega)
  replace x_q := x_q.chg h_w3 (by omega)
  replace ou := ou.chg h_w3 (by omega)
  have B_w3 := Below.chg_ B_b h_w3 (by omega) (by omega)
  replace x_r : Vr w3 (w.heap.size + 1) 26 [.int .i64 o.Next, .slice A6 X.length c6] := y
  clear y
  have c_r_0_w3 := x_r.cell (i := 0) rfl
  have f_r_0_w3 := x_r.frozen 0
  have c_r_1_w3 := x_r.cell (i := 1) rfl
  have f_r_1_w3 := x_r.frozen 1
  rw [e_w3]
  go_wp2
  refine ret_cell_tmp (by rfl) (by rfl) x_r Try.underlying26 sz_out (by rfl) ?_
  rw [HP.out, HB.out]
  exact ⟨_, rfl, ov_out (d := ⟨o.Next, X⟩) ou (by omega), B_w3⟩

end Go.Proofs.Ytpaodpkgpajboaa
