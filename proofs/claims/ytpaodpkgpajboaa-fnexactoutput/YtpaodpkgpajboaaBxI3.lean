/- Boxes: contracts of impl's OutNew, OutOk, OutFirst, OutAt, OutPut, OutAck, InTake, OutSame, OutWorth. Laid by a program of ours (src/boxi3.py). -/
import Derived.Test.YtpaodpkgpajboaaBxI2
namespace Go.Proofs.Ytpaodpkgpajboaa
open Go.RowKit
set_option linter.unusedVariables false
set_option maxHeartbeats 1000000 in
theorem iOutNew_c {w : World} : Calls Try.prog 14 #[] w (NewV outL w outNew) := by
  obtain ⟨wa, hwa, B0, sa, x_r⟩ := frame1 w 26 [.int .i64 0, .slice none 0 0]
  have sa_1 := Nat.le_of_eq sa
  have sa_2 := Nat.le_of_eq sa.symm
  clear sa
  have c_r_0_wa := x_r.cell (i := 0) rfl
  have f_r_0_wa := x_r.frozen 0
  have c_r_1_wa := x_r.cell (i := 1) rfl
  have f_r_1_wa := x_r.frozen 1
  go_enter Try.func14, Try.ntmps14
  obtain ⟨w1, e_w1, s_w1, h_w1, y⟩ := store_step x_r [.int .i64 1, .slice none 0 0] rfl
  replace e_w1 : ((wa.setCell ⟨w.heap.size, 0, none⟩ (.int .i64 1)).setCell ⟨w.heap.size, 1, none⟩ (.slice none 0 0)) = w1 := e_w1
  have s_w1_1 := Nat.le_of_eq s_w1
  have s_w1_2 := Nat.le_of_eq s_w1.symm
  clear s_w1
  have B_w1 := Below.chg_ B0 h_w1 (by omega) (by omega)
  replace x_r : Vr w1 (w.heap.size) 26 [.int .i64 1, .slice none 0 0] := y
  clear y
  have c_r_0_w1 := x_r.cell (i := 0) rfl
  have f_r_0_w1 := x_r.frozen 0
  have c_r_1_w1 := x_r.cell (i := 1) rfl
  have f_r_1_w1 := x_r.frozen 1
  go_wp2
  refine ret_cell (by rfl) (by rfl) x_r Try.underlying26 sz_out (by rfl) ?_
  exact ⟨_, rfl, ov_out (d := outNew) (ov_msgs_nil (lo := w.heap.size) (by omega)) (by omega), B_w1⟩

set_option maxHeartbeats 1000000 in
theorem iOutOk_c {w : World} {v : Value} {o : MOut} (h : RV outL w v o) (hm : o.List.length ≤ 16777216) : Calls Try.prog 22 #[v] w fun e w' => e = .returned (.bool (outOkB o)) ∧ Below w.heap.size w w' := by
  have h0 := h
  obtain ⟨A, c, rfl, hr0⟩ := rv_out h
  clear h
  obtain ⟨z, hz⟩ : ∃ z, outOkB o = z := ⟨_, rfl⟩
  rw [hz]
  have HK := Lib.hid hz
  clear hz
  obtain ⟨wa, hwa, B0, sa, x_a⟩ := frame1 w 26 [.int .i64 o.Next, .slice A o.List.length c]
  have sa_1 := Nat.le_of_eq sa
  have sa_2 := Nat.le_of_eq sa.symm
  clear sa
  have c_a_0_wa := x_a.cell (i := 0) rfl
  have f_a_0_wa := x_a.frozen 0
  have c_a_1_wa := x_a.cell (i := 1) rfl
  have f_a_1_wa := x_a.frozen 1
  go_enter Try.func22, Try.ntmps22
  go_wp2_with fail
  refine (iQueueOf_c (hr0.from_ B0) hm).mono ?_
  rintro e w1 ⟨rfl, h_w1⟩
  clear c_a_0_wa f_a_0_wa c_a_1_wa f_a_1_wa
  replace x_a := x_a.from_ h_w1
  have B_w1 := B0.trans (h_w1.mono B0.size)
  have s_w1 := h_w1.size
  rw [HK.out]
  have c_a_0_w1 := x_a.cell (i := 0) rfl
  have f_a_0_w1 := x_a.frozen 0
  have c_a_1_w1 := x_a.cell (i := 1) rfl
  have f_a_1_w1 := x_a.frozen 1
  obtain ⟨w2, e_w2, s_w2, h_w2, x_q⟩ := alloc_step w1 64 [.slice A o.List.length c, .int .i64 o.Next]
  have s_w2_1 := Nat.le_of_eq s_w2
  have s_w2_2 := Nat.le_of_eq s_w2.symm
  clear s_w2
  replace x_a := x_a.from_ h_w2
  have B_w2 := B_w1.trans (h_w2.mono B_w1.size)
  have c_a_0_w2 := x_a.cell (i := 0) rfl
  have f_a_0_w2 := x_a.frozen 0
  have c_a_1_w2 := x_a.cell (i := 1) rfl
  have f_a_1_w2 := x_a.frozen 1
  have c_q_0_w2 := x_q.cell (i := 0) rfl
  have f_q_0_w2 := x_q.frozen 0
  have c_q_1_w2 := x_q.cell (i := 1) rfl
  have f_q_1_w2 := x_q.frozen 1
  go_wp2
  go_ret
  exact ⟨rfl, B_w2⟩

set_option maxHeartbeats 1000000 in
theorem iOutFirst_c {w : World} {v : Value} {o : MOut} (h : RV outL w v o) (hm : o.List.length ≤ 16777216) : Calls Try.prog 20 #[v] w fun e w' => e = .returned (.int .i64 (outFirst o)) ∧ Below w.heap.size w w' := by
  have h0 := h
  obtain ⟨A, c, rfl, hr0⟩ := rv_out h
  clear h
  obtain ⟨wa, hwa, B0, sa, x_a⟩ := frame1 w 26 [.int .i64 o.Next, .slice A o.List.length c]
  have sa_1 := Nat.le_of_eq sa
  have sa_2 := Nat.le_of_eq sa.symm
  clear sa
  have c_a_0_wa := x_a.cell (i := 0) rfl
  have f_a_0_wa := x_a.frozen 0
  have c_a_1_wa := x_a.cell (i := 1) rfl
  have f_a_1_wa := x_a.frozen 1
  by_cases hok : outOkB o = true
  case pos =>
    have hp := outOk_parts hok
    have b1 := hp.1
    have b2 := hp.2.1
    have b3 := hp.2.2.1
    clear hp
    have HK := Lib.hid hok
    have HV : Hid (outFirst o = o.Next - (o.List.length : Int)) := if_pos hok
    clear hok
    go_enter Try.func20, Try.ntmps20
    go_wp2_with fail
    refine (iQueueOf_c (hr0.from_ B0) hm).mono ?_
    rintro e w1 ⟨rfl, h_w1⟩
    clear c_a_0_wa f_a_0_wa c_a_1_wa f_a_1_wa
    replace x_a := x_a.from_ h_w1
    have B_w1 := B0.trans (h_w1.mono B0.size)
    have s_w1 := h_w1.size
    rw [HK.out]
    have c_a_0_w1 := x_a.cell (i := 0) rfl
    have f_a_0_w1 := x_a.frozen 0
    have c_a_1_w1 := x_a.cell (i := 1) rfl
    have f_a_1_w1 := x_a.frozen 1
    obtain ⟨w2, e_w2, s_w2, h_w2, x_q⟩ := alloc_step w1 64 [.slice A o.List.length c, .int .i64 o.Next]
    have s_w2_1 := Nat.le_of_eq s_w2
    have s_w2_2 := Nat.le_of_eq s_w2.symm
    clear s_w2
    replace x_a := x_a.from_ h_w2
    have B_w2 := B_w1.trans (h_w2.mono B_w1.size)
    have c_a_0_w2 := x_a.cell (i := 0) rfl
    have f_a_0_w2 := x_a.frozen 0
    have c_a_1_w2 := x_a.cell (i := 1) rfl
    have f_a_1_w2 := x_a.frozen 1
    have c_q_0_w2 := x_q.cell (i := 0) rfl
    have f_q_0_w2 := x_q.frozen 0
    have c_q_1_w2 := x_q.cell (i := 1) rfl
    have f_q_1_w2 := x_q.frozen 1
    go_wp2_with fail
    refine (iQFirst_c b1 b2).mono ?_
    rintro e w3 ⟨rfl, h_w3⟩
    clear c_a_0_w1 f_a_0_w1 c_a_1_w1 f_a_1_w1 c_a_0_w2 f_a_0_w2 c_a_1_w2 f_a_1_w2 c_q_0_w2 f_q_0_w2 c_q_1_w2 f_q_1_w2
    replace x_a := x_a.from_ h_w3
    replace x_q := x_q.from_ h_w3
    have B_w3 := B_w2.trans (h_w3.mono B_w2.size)
    have s_w3 := h_w3.size
    go_wp2
    go_ret
    exact ⟨ret_eq (by rw [HV.out]; rfl), B_w3⟩
  case neg =>
    have hok' : outOkB o = false := by simpa using hok
    have HK := Lib.hid hok'
    clear hok'
    have HV : Hid (outFirst o = 0) := if_neg hok
    clear hok
    go_enter Try.func20, Try.ntmps20
    go_wp2_with fail
    refine (iQueueOf_c (hr0.from_ B0) hm).mono ?_
    rintro e w1 ⟨rfl, h_w1⟩
    clear c_a_0_wa f_a_0_wa c_a_1_wa f_a_1_wa
    replace x_a := x_a.from_ h_w1
    have B_w1 := B0.trans (h_w1.mono B0.size)
    have s_w1 := h_w1.size
    rw [HK.out]
    have c_a_0_w1 := x_a.cell (i := 0) rfl
    have f_a_0_w1 := x_a.frozen 0
    have c_a_1_w1 := x_a.cell (i := 1) rfl
    have f_a_1_w1 := x_a.frozen 1
    obtain ⟨w2, e_w2, s_w2, h_w2, x_q⟩ := alloc_step w1 64 [.slice A o.List.length c, .int .i64 o.Next]
    have s_w2_1 := Nat.le_of_eq s_w2
    have s_w2_2 := Nat.le_of_eq s_w2.symm
    clear s_w2
    replace x_a := x_a.from_ h_w2
    have B_w2 := B_w1.trans (h_w2.mono B_w1.size)
    have c_a_0_w2 := x_a.cell (i := 0) rfl
    have f_a_0_w2 := x_a.frozen 0
    have c_a_1_w2 := x_a.cell (i := 1) rfl
    have f_a_1_w2 := x_a.frozen 1
    have c_q_0_w2 := x_q.cell (i := 0) rfl
    have f_q_0_w2 := x_q.frozen 0
    have c_q_1_w2 := x_q.cell (i := 1) rfl
    have f_q_1_w2 := x_q.frozen 1
    go_wp2
    go_ret
    exact ⟨ret_eq (by rw [HV.out]; rfl), B_w2⟩

theorem outW_none {o : MOut} {q : Int} (h : outOkB o = false) : ∀ k, outW o q k = 0
  | 0 => rfl
  | k + 1 => by rw [outW, outW_none h k, if_neg (by rw [h]; simp)]; rfl
theorem outW_take {o : MOut} {q : Int} (h : outOkB o = true) : ∀ k, k ≤ o.List.length → outW o q k = worths ((o.List.take k).drop (afterK o q))
  | 0, _ => by simp [outW, worths]
  | k + 1, hk => by
    have hf : outFirst o = o.Next - (o.List.length : Int) := if_pos h
    have hb := outOk_parts h
    obtain ⟨x, hx⟩ := get_of_lt (xs := o.List) (k := k) (by omega)
    have hg : o.List.getD k ⟨0, 0, 0, 0⟩ = x := by rw [List.getD_eq_getElem?_getD, hx]; rfl
    rw [outW, outW_take h k (by omega), hg, List.take_add_one, hx]
    have hl : (o.List.take k).length = k := by rw [List.length_take]; omega
    by_cases hq : q < outFirst o + (k : Int)
    · rw [if_pos ⟨h, hq⟩, hf] at *
      rw [List.drop_append_of_le_length (by rw [hl]; unfold afterK; omega), worths_append]
      simp [worths]
    · rw [if_neg (fun e => hq e.2), List.drop_of_length_le (by rw [hl]; unfold afterK; rw [hf] at hq; omega), List.drop_of_length_le (by simp only [List.length_append, hl, Option.toList_some, List.length_singleton]; unfold afterK; rw [hf] at hq; omega)]
      rfl
theorem outWorth_eq {o : MOut} {q : Int} (h : outOkB o = true) : outWorth o q = worths (o.List.drop (afterK o q)) := by
  unfold outWorth
  rw [outW_take h _ (Nat.le_refl _), List.take_of_length_le (Nat.le_refl _)]

set_option maxHeartbeats 1000000 in
theorem iOutWorth_c {w : World} {v : Value} {o : MOut} {q : Int} (h : RV outL w v o) (hm : o.List.length ≤ 16777216) (hq : -9223372036854775808 ≤ q ∧ q ≤ 9223372036854775807) : Calls Try.prog 21 #[v, .int .i64 q] w fun e w' => e = .returned (.int .i64 (outWorth o q)) ∧ Below w.heap.size w w' := by
  have h0 := h
  obtain ⟨A, c, rfl, hr0⟩ := rv_out h
  clear h
  obtain ⟨wa, hwa, B0, sa, x_a⟩ := frame1 w 26 [.int .i64 o.Next, .slice A o.List.length c]
  have sa_1 := Nat.le_of_eq sa
  have sa_2 := Nat.le_of_eq sa.symm
  clear sa
  have c_a_0_wa := x_a.cell (i := 0) rfl
  have f_a_0_wa := x_a.frozen 0
  have c_a_1_wa := x_a.cell (i := 1) rfl
  have f_a_1_wa := x_a.frozen 1
  by_cases hok : outOkB o = true
  case pos =>
    have hp := outOk_parts hok
    have b1 := hp.1
    have b2 := hp.2.1
    have b3 := hp.2.2.1
    clear hp
    have HK := Lib.hid hok
    have HV : Hid (outWorth o q = worths (o.List.drop (afterK o q))) := outWorth_eq hok
    clear hok
    obtain ⟨X, hX⟩ : ∃ X, o.List.drop (afterK o q) = X := ⟨_, rfl⟩
    have lX : X.length ≤ 16777216 := by rw [← hX, List.length_drop]; omega
    rw [hX] at HV
    have kA := fun (W : World) (hW : RV msgSL W (.slice A o.List.length c) o.List) => iAfter_c (q := q) hW hm b1 b2 b3 hq
    rw [hX] at kA
    go_enter Try.func21, Try.ntmps21
    go_wp2_with fail
    refine (iQueueOf_c (hr0.from_ B0) hm).mono ?_
    rintro e w1 ⟨rfl, h_w1⟩
    clear c_a_0_wa f_a_0_wa c_a_1_wa f_a_1_wa
    replace x_a := x_a.from_ h_w1
    have B_w1 := B0.trans (h_w1.mono B0.size)
    have s_w1 := h_w1.size
    rw [HK.out]
    have c_a_0_w1 := x_a.cell (i := 0) rfl
    have f_a_0_w1 := x_a.frozen 0
    have c_a_1_w1 := x_a.cell (i := 1) rfl
    have f_a_1_w1 := x_a.frozen 1
    obtain ⟨w2, e_w2, s_w2, h_w2, x_q⟩ := alloc_step w1 64 [.slice A o.List.length c, .int .i64 o.Next]
    have s_w2_1 := Nat.le_of_eq s_w2
    have s_w2_2 := Nat.le_of_eq s_w2.symm
    clear s_w2
    replace x_a := x_a.from_ h_w2
    have B_w2 := B_w1.trans (h_w2.mono B_w1.size)
    have c_a_0_w2 := x_a.cell (i := 0) rfl
    have f_a_0_w2 := x_a.frozen 0
    have c_a_1_w2 := x_a.cell (i := 1) rfl
    have f_a_1_w2 := x_a.frozen 1
    have c_q_0_w2 := x_q.cell (i := 0) rfl
    have f_q_0_w2 := x_q.frozen 0
    have c_q_1_w2 := x_q.cell (i := 1) rfl
    have f_q_1_w2 := x_q.frozen 1
    go_wp2_with fail
    refine (kA _ (hr0.from_ B_w2)).mono ?_
    rintro e w3 ⟨AX, cX, rfl, rX, h_w3⟩
    clear c_a_0_w1 f_a_0_w1 c_a_1_w1 f_a_1_w1 c_a_0_w2 f_a_0_w2 c_a_1_w2 f_a_1_w2 c_q_0_w2 f_q_0_w2 c_q_1_w2 f_q_1_w2
    replace x_a := x_a.from_ h_w3
    replace x_q := x_q.from_ h_w3
    have B_w3 := B_w2.trans (h_w3.mono B_w2.size)
    have s_w3 := h_w3.size
    replace rX := rX.from_ h_w3
    go_wp2_with fail
    refine (iWorths_c rX lX).mono ?_
    rintro e w4 ⟨rfl, h_w4⟩
    replace x_a := x_a.from_ h_w4
    replace x_q := x_q.from_ h_w4
    have B_w4 := B_w3.trans (h_w4.mono B_w3.size)
    have s_w4 := h_w4.size
    go_wp2
    go_ret
    exact ⟨ret_eq (by rw [HV.out]; rfl), B_w4⟩
  case neg =>
    have hok' : outOkB o = false := by simpa using hok
    have HK := Lib.hid hok'
    clear hok'
    have HV : Hid (outWorth o q = 0) := outW_none HK.out _
    clear hok
    go_enter Try.func21, Try.ntmps21
    go_wp2_with fail
    refine (iQueueOf_c (hr0.from_ B0) hm).mono ?_
    rintro e w1 ⟨rfl, h_w1⟩
    clear c_a_0_wa f_a_0_wa c_a_1_wa f_a_1_wa
    replace x_a := x_a.from_ h_w1
    have B_w1 := B0.trans (h_w1.mono B0.size)
    have s_w1 := h_w1.size
    rw [HK.out]
    have c_a_0_w1 := x_a.cell (i := 0) rfl
    have f_a_0_w1 := x_a.frozen 0
    have c_a_1_w1 := x_a.cell (i := 1) rfl
    have f_a_1_w1 := x_a.frozen 1
    obtain ⟨w2, e_w2, s_w2, h_w2, x_q⟩ := alloc_step w1 64 [.slice A o.List.length c, .int .i64 o.Next]
    have s_w2_1 := Nat.le_of_eq s_w2
    have s_w2_2 := Nat.le_of_eq s_w2.symm
    clear s_w2
    replace x_a := x_a.from_ h_w2
    have B_w2 := B_w1.trans (h_w2.mono B_w1.size)
    have c_a_0_w2 := x_a.cell (i := 0) rfl
    have f_a_0_w2 := x_a.frozen 0
    have c_a_1_w2 := x_a.cell (i := 1) rfl
    have f_a_1_w2 := x_a.frozen 1
    have c_q_0_w2 := x_q.cell (i := 0) rfl
    have f_q_0_w2 := x_q.frozen 0
    have c_q_1_w2 := x_q.cell (i := 1) rfl
    have f_q_1_w2 := x_q.frozen 1
    go_wp2
    go_ret
    exact ⟨ret_eq (by rw [HV.out]; rfl), B_w2⟩

set_option maxHeartbeats 1000000 in
theorem iInTake_c (a b : Int) (w : World) (ha : -9223372036854775808 ≤ a ∧ a ≤ 9223372036854775807) (hb : -9223372036854775808 ≤ b ∧ b ≤ 9223372036854775807) : Calls Try.prog 18 #[.int .i64 a, .int .i64 b] w fun e w' => e = .returned (.tuple #[.int .i64 (inTakeN a b), .bool (inTakeB a b)]) ∧ Below w.heap.size w w' := by
  by_cases h1 : a < b
  · by_cases h2 : a = b - 1
    · have HN : Hid (inTakeN a b = b) := if_pos ⟨h1, h2⟩
      have HB : Hid (inTakeB a b = true) := decide_eq_true ⟨h1, h2⟩
      have g : (b - 1 == a) = true := by simp; omega
      clear h2
      go_enter Try.func18, Try.ntmps18
      go_wp2
      go_ret2
      exact ⟨ret_eq (by rw [HN.out, HB.out]; rfl), Below.refl _ _⟩
    · have HN : Hid (inTakeN a b = a) := if_neg (fun h => h2 h.2)
      have HB : Hid (inTakeB a b = false) := decide_eq_false (fun h => h2 h.2)
      have g : (b - 1 == a) = false := by simp; omega
      clear h2
      go_enter Try.func18, Try.ntmps18
      go_wp2
      go_ret2
      exact ⟨ret_eq (by rw [HN.out, HB.out]; rfl), Below.refl _ _⟩
  · have HN : Hid (inTakeN a b = a) := if_neg (fun h => h1 h.1)
    have HB : Hid (inTakeB a b = false) := decide_eq_false (fun h => h1 h.1)
    go_enter Try.func18, Try.ntmps18
    go_wp2
    go_ret2
    exact ⟨ret_eq (by rw [HN.out, HB.out]; rfl), Below.refl _ _⟩

set_option maxHeartbeats 1000000 in
theorem iOutSame_c {w : World} {v v' : Value} {o p : MOut} (h : RV outL w v o) (hp : RV outL w v' p) (hm : o.List.length ≤ 16777216) (hm2 : p.List.length ≤ 16777216) : Calls Try.prog 38 #[v, v'] w fun e w' => e = .returned (.bool (outSameB o p)) ∧ Below w.heap.size w w' := by
  have h0 := h
  obtain ⟨A, c, rfl, hr0⟩ := rv_out h
  clear h
  obtain ⟨A2, c2, rfl, hp0⟩ := rv_out hp
  clear hp
  obtain ⟨wa, hwa, B0, sa, x_a, x_b⟩ := frame2 w 26 [.int .i64 o.Next, .slice A o.List.length c] 26 [.int .i64 p.Next, .slice A2 p.List.length c2]
  have sa_1 := Nat.le_of_eq sa
  have sa_2 := Nat.le_of_eq sa.symm
  clear sa
  have c_a_0_wa := x_a.cell (i := 0) rfl
  have c_a_1_wa := x_a.cell (i := 1) rfl
  have c_b_0_wa := x_b.cell (i := 0) rfl
  have c_b_1_wa := x_b.cell (i := 1) rfl
  by_cases hn : o.Next = p.Next
  case neg =>
    have HO : Hid (outSameB o p = false) := decide_eq_false (fun h => hn h.1)
    have g : (o.Next == p.Next) = false := by simpa using hn
    clear hn
    go_enter Try.func38, Try.ntmps38
    go_wp2
    go_ret
    exact ⟨ret_eq (by rw [HO.out]; rfl), B0⟩
  have HO : Hid (outSameB o p = decide (o.List = p.List)) := by show _ = _; unfold outSameB; simp [hn]
  have g : (o.Next == p.Next) = true := by simpa using hn
  clear hn
  go_enter Try.func38, Try.ntmps38
  go_wp2_with fail
  refine (iEqual_c (hr0.from_ B0) (hp0.from_ B0) hm hm2).mono ?_
  rintro e w1 ⟨rfl, h_w1⟩
  clear c_a_0_wa c_a_1_wa c_b_0_wa c_b_1_wa
  replace x_a := x_a.from_ h_w1
  replace x_b := x_b.from_ h_w1
  have B_w1 := B0.trans (h_w1.mono B0.size)
  have s_w1 := h_w1.size
  go_wp2
  go_ret
  exact ⟨ret_eq (by rw [HO.out]; rfl), B_w1⟩

set_option maxHeartbeats 2000000 in
theorem iOutAt_c {w : World} {v : Value} {o : MOut} {q : Int} (h : RV outL w v o) (hm : o.List.length ≤ 16777216) (hq : -9223372036854775808 ≤ q ∧ q ≤ 9223372036854775807) : Calls Try.prog 17 #[v, .int .i64 q] w (NewVB msgL w (outAtM o q) (outAtB o q)) := by
  have h0 := h
  obtain ⟨A, c, rfl, hr0⟩ := rv_out h
  clear h
  obtain ⟨wa, hwa, B0, sa, x_a, x_r⟩ := frame2 w 26 [.int .i64 o.Next, .slice A o.List.length c] 29 [.int .i64 0, .int .i64 0, .int .i64 0, .int .i64 0]
  have sa_1 := Nat.le_of_eq sa
  have sa_2 := Nat.le_of_eq sa.symm
  clear sa
  have c_a_0_wa := x_a.cell (i := 0) rfl
  have f_a_0_wa := x_a.frozen 0
  have c_a_1_wa := x_a.cell (i := 1) rfl
  have f_a_1_wa := x_a.frozen 1
  have c_r_0_wa := x_r.cell (i := 0) rfl
  have f_r_0_wa := x_r.frozen 0
  have c_r_1_wa := x_r.cell (i := 1) rfl
  have f_r_1_wa := x_r.frozen 1
  have c_r_2_wa := x_r.cell (i := 2) rfl
  have f_r_2_wa := x_r.frozen 2
  have c_r_3_wa := x_r.cell (i := 3) rfl
  have f_r_3_wa := x_r.frozen 3
  have i_r_0_wa := x_r.same (i := 0) rfl
  have i_r_1_wa := x_r.same (i := 1) rfl
  have i_r_2_wa := x_r.same (i := 2) rfl
  have i_r_3_wa := x_r.same (i := 3) rfl
  by_cases hok : outOkB o = true
  case neg =>
    have hok' : outOkB o = false := by simpa using hok
    have HK := Lib.hid hok'
    clear hok'
    have HB : Hid (outAtB o q = false) := by show _ = _; unfold outAtB; rw [HK.out]; rfl
    clear hok
    have HM : Hid (outAtM o q = ⟨0, 0, 0, 0⟩) := if_neg (by rw [HB.out]; decide)
    go_enter Try.func17, Try.ntmps17
    go_wp2_with fail
    refine (iQueueOf_c (hr0.from_ B0) hm).mono ?_
    rintro e w1 ⟨rfl, h_w1⟩
    clear c_a_0_wa f_a_0_wa c_a_1_wa f_a_1_wa c_r_0_wa f_r_0_wa c_r_1_wa f_r_1_wa c_r_2_wa f_r_2_wa c_r_3_wa f_r_3_wa
    replace x_a := x_a.from_ h_w1
    replace x_r := x_r.from_ h_w1
    have B_w1 := B0.trans (h_w1.mono B0.size)
    have s_w1 := h_w1.size
    rw [HK.out]
    have c_a_0_w1 := x_a.cell (i := 0) rfl
    have f_a_0_w1 := x_a.frozen 0
    have c_a_1_w1 := x_a.cell (i := 1) rfl
    have f_a_1_w1 := x_a.frozen 1
    have c_r_0_w1 := x_r.cell (i := 0) rfl
    have f_r_0_w1 := x_r.frozen 0
    have c_r_1_w1 := x_r.cell (i := 1) rfl
    have f_r_1_w1 := x_r.frozen 1
    have c_r_2_w1 := x_r.cell (i := 2) rfl
    have f_r_2_w1 := x_r.frozen 2
    have c_r_3_w1 := x_r.cell (i := 3) rfl
    have f_r_3_w1 := x_r.frozen 3
    obtain ⟨w2, e_w2, s_w2, h_w2, x_q⟩ := alloc_step w1 64 [.slice A o.List.length c, .int .i64 o.Next]
    have s_w2_1 := Nat.le_of_eq s_w2
    have s_w2_2 := Nat.le_of_eq s_w2.symm
    clear s_w2
    replace x_a := x_a.from_ h_w2
    replace x_r := x_r.from_ h_w2
    have B_w2 := B_w1.trans (h_w2.mono B_w1.size)
    have c_a_0_w2 := x_a.cell (i := 0) rfl
    have f_a_0_w2 := x_a.frozen 0
    have c_a_1_w2 := x_a.cell (i := 1) rfl
    have f_a_1_w2 := x_a.frozen 1
    have c_r_0_w2 := x_r.cell (i := 0) rfl
    have f_r_0_w2 := x_r.frozen 0
    have c_r_1_w2 := x_r.cell (i := 1) rfl
    have f_r_1_w2 := x_r.frozen 1
    have c_r_2_w2 := x_r.cell (i := 2) rfl
    have f_r_2_w2 := x_r.frozen 2
    have c_r_3_w2 := x_r.cell (i := 3) rfl
    have f_r_3_w2 := x_r.frozen 3
    have c_q_0_w2 := x_q.cell (i := 0) rfl
    have f_q_0_w2 := x_q.frozen 0
    have c_q_1_w2 := x_q.cell (i := 1) rfl
    have f_q_1_w2 := x_q.frozen 1
    have i_r_0_w2 := x_r.same (i := 0) rfl
    have i_r_1_w2 := x_r.same (i := 1) rfl
    have i_r_2_w2 := x_r.same (i := 2) rfl
    have i_r_3_w2 := x_r.same (i := 3) rfl
    go_wp2
    refine ret_cell_tmp (by rfl) (by rfl) x_r Try.underlying29 sz_msg (by rfl) ?_
    rw [HB.out, HM.out]
    exact ⟨_, rfl, ov_msg (d := ⟨0, 0, 0, 0⟩) (Nat.le_refl _), B_w2⟩
  have hp := outOk_parts hok
  have b1 := hp.1
  have b2 := hp.2.1
  have b3 := hp.2.2.1
  clear hp
  have HK := Lib.hid hok
  obtain ⟨f, hf⟩ : ∃ f, outFirst o = f := ⟨_, rfl⟩
  have hfv : o.Next - (o.List.length : Int) = f := by rw [← hf]; exact (if_pos hok).symm
  have b4 : 1 ≤ f ∧ f ≤ 1125899906842624 := by omega
  have HV := Lib.hid hfv
  by_cases h1 : q < f
  case pos =>
    have HB : Hid (outAtB o q = false) := by show _ = _; unfold outAtB; rw [hf, decide_eq_false (by omega : ¬ f ≤ q)]; simp
    clear hok hf hfv
    have HM : Hid (outAtM o q = ⟨0, 0, 0, 0⟩) := if_neg (by rw [HB.out]; decide)
    go_enter Try.func17, Try.ntmps17
    go_wp2_with fail
    refine (iQueueOf_c (hr0.from_ B0) hm).mono ?_
    rintro e w1 ⟨rfl, h_w1⟩
    clear c_a_0_wa f_a_0_wa c_a_1_wa f_a_1_wa c_r_0_wa f_r_0_wa c_r_1_wa f_r_1_wa c_r_2_wa f_r_2_wa c_r_3_wa f_r_3_wa
    replace x_a := x_a.from_ h_w1
    replace x_r := x_r.from_ h_w1
    have B_w1 := B0.trans (h_w1.mono B0.size)
    have s_w1 := h_w1.size
    rw [HK.out]
    have c_a_0_w1 := x_a.cell (i := 0) rfl
    have f_a_0_w1 := x_a.frozen 0
    have c_a_1_w1 := x_a.cell (i := 1) rfl
    have f_a_1_w1 := x_a.frozen 1
    have c_r_0_w1 := x_r.cell (i := 0) rfl
    have f_r_0_w1 := x_r.frozen 0
    have c_r_1_w1 := x_r.cell (i := 1) rfl
    have f_r_1_w1 := x_r.frozen 1
    have c_r_2_w1 := x_r.cell (i := 2) rfl
    have f_r_2_w1 := x_r.frozen 2
    have c_r_3_w1 := x_r.cell (i := 3) rfl
    have f_r_3_w1 := x_r.frozen 3
    obtain ⟨w2, e_w2, s_w2, h_w2, x_q⟩ := alloc_step w1 64 [.slice A o.List.length c, .int .i64 o.Next]
    have s_w2_1 := Nat.le_of_eq s_w2
    have s_w2_2 := Nat.le_of_eq s_w2.symm
    clear s_w2
    replace x_a := x_a.from_ h_w2
    replace x_r := x_r.from_ h_w2
    have B_w2 := B_w1.trans (h_w2.mono B_w1.size)
    have c_a_0_w2 := x_a.cell (i := 0) rfl
    have f_a_0_w2 := x_a.frozen 0
    have c_a_1_w2 := x_a.cell (i := 1) rfl
    have f_a_1_w2 := x_a.frozen 1
    have c_r_0_w2 := x_r.cell (i := 0) rfl
    have f_r_0_w2 := x_r.frozen 0
    have c_r_1_w2 := x_r.cell (i := 1) rfl
    have f_r_1_w2 := x_r.frozen 1
    have c_r_2_w2 := x_r.cell (i := 2) rfl
    have f_r_2_w2 := x_r.frozen 2
    have c_r_3_w2 := x_r.cell (i := 3) rfl
    have f_r_3_w2 := x_r.frozen 3
    have c_q_0_w2 := x_q.cell (i := 0) rfl
    have f_q_0_w2 := x_q.frozen 0
    have c_q_1_w2 := x_q.cell (i := 1) rfl
    have f_q_1_w2 := x_q.frozen 1
    have i_r_0_w2 := x_r.same (i := 0) rfl
    have i_r_1_w2 := x_r.same (i := 1) rfl
    have i_r_2_w2 := x_r.same (i := 2) rfl
    have i_r_3_w2 := x_r.same (i := 3) rfl
    go_wp2_with fail
    refine (iQFirst_c b1 b2).mono ?_
    rintro e w3 ⟨rfl, h_w3⟩
    clear c_a_0_w1 f_a_0_w1 c_a_1_w1 f_a_1_w1 c_r_0_w1 f_r_0_w1 c_r_1_w1 f_r_1_w1 c_r_2_w1 f_r_2_w1 c_r_3_w1 f_r_3_w1 c_a_0_w2 f_a_0_w2 c_a_1_w2 f_a_1_w2 c_r_0_w2 f_r_0_w2 c_r_1_w2 f_r_1_w2 c_r_2_w2 f_r_2_w2 c_r_3_w2 f_r_3_w2 c_q_0_w2 f_q_0_w2 c_q_1_w2 f_q_1_w2
    replace x_a := x_a.from_ h_w3
    replace x_r := x_r.from_ h_w3
    replace x_q := x_q.from_ h_w3
    have B_w3 := B_w2.trans (h_w3.mono B_w2.size)
    have s_w3 := h_w3.size
    rw [HV.out]
    have c_a_0_w3 := x_a.cell (i := 0) rfl
    have f_a_0_w3 := x_a.frozen 0
    have c_a_1_w3 := x_a.cell (i := 1) rfl
    have f_a_1_w3 := x_a.frozen 1
    have c_r_0_w3 := x_r.cell (i := 0) rfl
    have f_r_0_w3 := x_r.frozen 0
    have c_r_1_w3 := x_r.cell (i := 1) rfl
    have f_r_1_w3 := x_r.frozen 1
    have c_r_2_w3 := x_r.cell (i := 2) rfl
    have f_r_2_w3 := x_r.frozen 2
    have c_r_3_w3 := x_r.cell (i := 3) rfl
    have f_r_3_w3 := x_r.frozen 3
    have c_q_0_w3 := x_q.cell (i := 0) rfl
    have f_q_0_w3 := x_q.frozen 0
    have c_q_1_w3 := x_q.cell (i := 1) rfl
    have f_q_1_w3 := x_q.frozen 1
    have i_r_0_w3 := x_r.same (i := 0) rfl
    have i_r_1_w3 := x_r.same (i := 1) rfl
    have i_r_2_w3 := x_r.same (i := 2) rfl
    have i_r_3_w3 := x_r.same (i := 3) rfl
    go_wp2
    refine ret_cell_tmp (by rfl) (by rfl) x_r Try.underlying29 sz_msg (by rfl) ?_
    rw [HB.out, HM.out]
    exact ⟨_, rfl, ov_msg (d := ⟨0, 0, 0, 0⟩) (Nat.le_refl _), B_w3⟩
  by_cases h2 : q < o.Next
  case neg =>
    have HB : Hid (outAtB o q = false) := by show _ = _; unfold outAtB; rw [decide_eq_false h2]; simp
    clear hok hf hfv
    have HM : Hid (outAtM o q = ⟨0, 0, 0, 0⟩) := if_neg (by rw [HB.out]; decide)
    go_enter Try.func17, Try.ntmps17
    go_wp2_with fail
    refine (iQueueOf_c (hr0.from_ B0) hm).mono ?_
    rintro e w1 ⟨rfl, h_w1⟩
    clear c_a_0_wa f_a_0_wa c_a_1_wa f_a_1_wa c_r_0_wa f_r_0_wa c_r_1_wa f_r_1_wa c_r_2_wa f_r_2_wa c_r_3_wa f_r_3_wa
    replace x_a := x_a.from_ h_w1
    replace x_r := x_r.from_ h_w1
    have B_w1 := B0.trans (h_w1.mono B0.size)
    have s_w1 := h_w1.size
    rw [HK.out]
    have c_a_0_w1 := x_a.cell (i := 0) rfl
    have f_a_0_w1 := x_a.frozen 0
    have c_a_1_w1 := x_a.cell (i := 1) rfl
    have f_a_1_w1 := x_a.frozen 1
    have c_r_0_w1 := x_r.cell (i := 0) rfl
    have f_r_0_w1 := x_r.frozen 0
    have c_r_1_w1 := x_r.cell (i := 1) rfl
    have f_r_1_w1 := x_r.frozen 1
    have c_r_2_w1 := x_r.cell (i := 2) rfl
    have f_r_2_w1 := x_r.frozen 2
    have c_r_3_w1 := x_r.cell (i := 3) rfl
    have f_r_3_w1 := x_r.frozen 3
    obtain ⟨w2, e_w2, s_w2, h_w2, x_q⟩ := alloc_step w1 64 [.slice A o.List.length c, .int .i64 o.Next]
    have s_w2_1 := Nat.le_of_eq s_w2
    have s_w2_2 := Nat.le_of_eq s_w2.symm
    clear s_w2
    replace x_a := x_a.from_ h_w2
    replace x_r := x_r.from_ h_w2
    have B_w2 := B_w1.trans (h_w2.mono B_w1.size)
    have c_a_0_w2 := x_a.cell (i := 0) rfl
    have f_a_0_w2 := x_a.frozen 0
    have c_a_1_w2 := x_a.cell (i := 1) rfl
    have f_a_1_w2 := x_a.frozen 1
    have c_r_0_w2 := x_r.cell (i := 0) rfl
    have f_r_0_w2 := x_r.frozen 0
    have c_r_1_w2 := x_r.cell (i := 1) rfl
    have f_r_1_w2 := x_r.frozen 1
    have c_r_2_w2 := x_r.cell (i := 2) rfl
    have f_r_2_w2 := x_r.frozen 2
    have c_r_3_w2 := x_r.cell (i := 3) rfl
    have f_r_3_w2 := x_r.frozen 3
    have c_q_0_w2 := x_q.cell (i := 0) rfl
    have f_q_0_w2 := x_q.frozen 0
    have c_q_1_w2 := x_q.cell (i := 1) rfl
    have f_q_1_w2 := x_q.frozen 1
    have i_r_0_w2 := x_r.same (i := 0) rfl
    have i_r_1_w2 := x_r.same (i := 1) rfl
    have i_r_2_w2 := x_r.same (i := 2) rfl
    have i_r_3_w2 := x_r.same (i := 3) rfl
    go_wp2_with fail
    refine (iQFirst_c b1 b2).mono ?_
    rintro e w3 ⟨rfl, h_w3⟩
    clear c_a_0_w1 f_a_0_w1 c_a_1_w1 f_a_1_w1 c_r_0_w1 f_r_0_w1 c_r_1_w1 f_r_1_w1 c_r_2_w1 f_r_2_w1 c_r_3_w1 f_r_3_w1 c_a_0_w2 f_a_0_w2 c_a_1_w2 f_a_1_w2 c_r_0_w2 f_r_0_w2 c_r_1_w2 f_r_1_w2 c_r_2_w2 f_r_2_w2 c_r_3_w2 f_r_3_w2 c_q_0_w2 f_q_0_w2 c_q_1_w2 f_q_1_w2
    replace x_a := x_a.from_ h_w3
    replace x_r := x_r.from_ h_w3
    replace x_q := x_q.from_ h_w3
    have B_w3 := B_w2.trans (h_w3.mono B_w2.size)
    have s_w3 := h_w3.size
    rw [HV.out]
    have c_a_0_w3 := x_a.cell (i := 0) rfl
    have f_a_0_w3 := x_a.frozen 0
    have c_a_1_w3 := x_a.cell (i := 1) rfl
    have f_a_1_w3 := x_a.frozen 1
    have c_r_0_w3 := x_r.cell (i := 0) rfl
    have f_r_0_w3 := x_r.frozen 0
    have c_r_1_w3 := x_r.cell (i := 1) rfl
    have f_r_1_w3 := x_r.frozen 1
    have c_r_2_w3 := x_r.cell (i := 2) rfl
    have f_r_2_w3 := x_r.frozen 2
    have c_r_3_w3 := x_r.cell (i := 3) rfl
    have f_r_3_w3 := x_r.frozen 3
    have c_q_0_w3 := x_q.cell (i := 0) rfl
    have f_q_0_w3 := x_q.frozen 0
    have c_q_1_w3 := x_q.cell (i := 1) rfl
    have f_q_1_w3 := x_q.frozen 1
    have i_r_0_w3 := x_r.same (i := 0) rfl
    have i_r_1_w3 := x_r.same (i := 1) rfl
    have i_r_2_w3 := x_r.same (i := 2) rfl
    have i_r_3_w3 := x_r.same (i := 3) rfl
    go_wp2
    refine ret_cell_tmp (by rfl) (by rfl) x_r Try.underlying29 sz_msg (by rfl) ?_
    rw [HB.out, HM.out]
    exact ⟨_, rfl, ov_msg (d := ⟨0, 0, 0, 0⟩) (Nat.le_refl _), B_w3⟩
  have hB : outAtB o q = true := by unfold outAtB; rw [hok, hf, decide_eq_true (by omega : f ≤ q), decide_eq_true h2]; rfl
  obtain ⟨k, hk⟩ : ∃ k : Nat, q = f + (k : Int) := ⟨(q - f).toNat, by omega⟩
  have hkl : k < o.List.length := by omega
  obtain ⟨x, hxe⟩ := get_of_lt hkl
  have HM : Hid (outAtM o q = x) := by
    show _ = _
    unfold outAtM
    rw [if_pos hB, hf, show (q - f).toNat = k by omega, List.getD_eq_getElem?_getD, hxe]
    rfl
  have HB := Lib.hid hB
  obtain ⟨A', c', he, hc1, hc2, hrd⟩ := rv_slice hr0
  simp only [Value.slice.injEq, true_and] at he
  obtain ⟨rfl, rfl⟩ := he
  obtain ⟨b, off, rfl, hb, e0, e1, e2, e3⟩ := el_msg hrd hxe
  have gk1 : (0 : Int) ≤ (k : Int) := by omega
  have gk2 : (k : Int) < (o.List.length : Int) := by omega
  clear hok hf hfv hB hxe hrd
  subst hk
  go_enter Try.func17, Try.ntmps17
  go_wp2_with fail
  refine (iQueueOf_c (hr0.from_ B0) hm).mono ?_
  rintro e w1 ⟨rfl, h_w1⟩
  clear c_a_0_wa f_a_0_wa c_a_1_wa f_a_1_wa c_r_0_wa f_r_0_wa c_r_1_wa f_r_1_wa c_r_2_wa f_r_2_wa c_r_3_wa f_r_3_wa
  replace x_a := x_a.from_ h_w1
  replace x_r := x_r.from_ h_w1
  have B_w1 := B0.trans (h_w1.mono B0.size)
  have s_w1 := h_w1.size
  rw [HK.out]
  have c_a_0_w1 := x_a.cell (i := 0) rfl
  have f_a_0_w1 := x_a.frozen 0
  have c_a_1_w1 := x_a.cell (i := 1) rfl
  have f_a_1_w1 := x_a.frozen 1
  have c_r_0_w1 := x_r.cell (i := 0) rfl
  have f_r_0_w1 := x_r.frozen 0
  have c_r_1_w1 := x_r.cell (i := 1) rfl
  have f_r_1_w1 := x_r.frozen 1
  have c_r_2_w1 := x_r.cell (i := 2) rfl
  have f_r_2_w1 := x_r.frozen 2
  have c_r_3_w1 := x_r.cell (i := 3) rfl
  have f_r_3_w1 := x_r.frozen 3
  obtain ⟨w2, e_w2, s_w2, h_w2, x_q⟩ := alloc_step w1 64 [.slice (some ⟨b, off, none⟩) o.List.length c, .int .i64 o.Next]
  have s_w2_1 := Nat.le_of_eq s_w2
  have s_w2_2 := Nat.le_of_eq s_w2.symm
  clear s_w2
  replace x_a := x_a.from_ h_w2
  replace x_r := x_r.from_ h_w2
  have B_w2 := B_w1.trans (h_w2.mono B_w1.size)
  have c_a_0_w2 := x_a.cell (i := 0) rfl
  have f_a_0_w2 := x_a.frozen 0
  have c_a_1_w2 := x_a.cell (i := 1) rfl
  have f_a_1_w2 := x_a.frozen 1
  have c_r_0_w2 := x_r.cell (i := 0) rfl
  have f_r_0_w2 := x_r.frozen 0
  have c_r_1_w2 := x_r.cell (i := 1) rfl
  have f_r_1_w2 := x_r.frozen 1
  have c_r_2_w2 := x_r.cell (i := 2) rfl
  have f_r_2_w2 := x_r.frozen 2
  have c_r_3_w2 := x_r.cell (i := 3) rfl
  have f_r_3_w2 := x_r.frozen 3
  have c_q_0_w2 := x_q.cell (i := 0) rfl
  have f_q_0_w2 := x_q.frozen 0
  have c_q_1_w2 := x_q.cell (i := 1) rfl
  have f_q_1_w2 := x_q.frozen 1
  go_wp2_with fail
  refine (iQFirst_c b1 b2).mono ?_
  rintro e w3 ⟨rfl, h_w3⟩
  clear c_a_0_w1 f_a_0_w1 c_a_1_w1 f_a_1_w1 c_r_0_w1 f_r_0_w1 c_r_1_w1 f_r_1_w1 c_r_2_w1 f_r_2_w1 c_r_3_w1 f_r_3_w1 c_a_0_w2 f_a_0_w2 c_a_1_w2 f_a_1_w2 c_r_0_w2 f_r_0_w2 c_r_1_w2 f_r_1_w2 c_r_2_w2 f_r_2_w2 c_r_3_w2 f_r_3_w2 c_q_0_w2 f_q_0_w2 c_q_1_w2 f_q_1_w2
  replace x_a := x_a.from_ h_w3
  replace x_r := x_r.from_ h_w3
  replace x_q := x_q.from_ h_w3
  have B_w3 := B_w2.trans (h_w3.mono B_w2.size)
  have s_w3 := h_w3.size
  rw [HV.out]
  have c_a_0_w3 := x_a.cell (i := 0) rfl
  have f_a_0_w3 := x_a.frozen 0
  have c_a_1_w3 := x_a.cell (i := 1) rfl
  have f_a_1_w3 := x_a.frozen 1
  have c_r_0_w3 := x_r.cell (i := 0) rfl
  have f_r_0_w3 := x_r.frozen 0
  have c_r_1_w3 := x_r.cell (i := 1) rfl
  have f_r_1_w3 := x_r.frozen 1
  have c_r_2_w3 := x_r.cell (i := 2) rfl
  have f_r_2_w3 := x_r.frozen 2
  have c_r_3_w3 := x_r.cell (i := 3) rfl
  have f_r_3_w3 := x_r.frozen 3
  have c_q_0_w3 := x_q.cell (i := 0) rfl
  have f_q_0_w3 := x_q.frozen 0
  have c_q_1_w3 := x_q.cell (i := 1) rfl
  have f_q_1_w3 := x_q.frozen 1
  replace e0 := (B_w3.cell (p := ⟨b, off + k * 4, none⟩) hb).trans e0
  replace e1 := (B_w3.cell (p := ⟨b, off + k * 4 + 1, none⟩) hb).trans e1
  replace e2 := (B_w3.cell (p := ⟨b, off + k * 4 + 2, none⟩) hb).trans e2
  replace e3 := (B_w3.cell (p := ⟨b, off + k * 4 + 3, none⟩) hb).trans e3
  have gw : IntKind.i64.wrap (f + (k : Int) - f) = (k : Int) := by rw [show f + (k : Int) - f = (k : Int) by omega]; exact IntWalk.i64_in _ (by omega)
  have gt : ((k : Int)).toNat = k := by simp
  go_wp2_with fail
  go_region_held3 (fun w' => w'.cell? ⟨w1.heap.size, 0, none⟩ = some (.slice (some ⟨b, off, none⟩) o.List.length c) ∧ w'.cell? ⟨w1.heap.size, 1, none⟩ = some (.int .i64 o.Next) ∧ w'.cell? ⟨b, off + k * 4, none⟩ = some (.int .i64 x.Kind) ∧ w'.cell? ⟨b, off + k * 4 + 1, none⟩ = some (.int .i64 x.Acct) ∧ w'.cell? ⟨b, off + k * 4 + 2, none⟩ = some (.int .i64 x.Amt) ∧ w'.cell? ⟨b, off + k * 4 + 3, none⟩ = some (.int .i64 x.Src))
    (first | exact ⟨c_q_0_w3, c_q_1_w3, e0, e1, e2, e3⟩ | exact ⟨q0, q1, k0, k1, k2, k3⟩ | exact ⟨(cell_sa (b := w.heap.size + 1) (p := ⟨w1.heap.size, 0, none⟩) (by show w1.heap.size ≠ w.heap.size + 1; omega) [.int .i64 x.Kind, .int .i64 x.Acct, .int .i64 x.Amt, .int .i64 x.Src] 0 w9).trans q0, (cell_sa (b := w.heap.size + 1) (p := ⟨w1.heap.size, 1, none⟩) (by show w1.heap.size ≠ w.heap.size + 1; omega) [.int .i64 x.Kind, .int .i64 x.Acct, .int .i64 x.Amt, .int .i64 x.Src] 0 w9).trans q1, (cell_sa (b := w.heap.size + 1) (p := ⟨b, off + k * 4, none⟩) (by show b ≠ w.heap.size + 1; omega) [.int .i64 x.Kind, .int .i64 x.Acct, .int .i64 x.Amt, .int .i64 x.Src] 0 w9).trans k0, (cell_sa (b := w.heap.size + 1) (p := ⟨b, off + k * 4 + 1, none⟩) (by show b ≠ w.heap.size + 1; omega) [.int .i64 x.Kind, .int .i64 x.Acct, .int .i64 x.Amt, .int .i64 x.Src] 0 w9).trans k1, (cell_sa (b := w.heap.size + 1) (p := ⟨b, off + k * 4 + 2, none⟩) (by show b ≠ w.heap.size + 1; omega) [.int .i64 x.Kind, .int .i64 x.Acct, .int .i64 x.Amt, .int .i64 x.Src] 0 w9).trans k2, (cell_sa (b := w.heap.size + 1) (p := ⟨b, off + k * 4 + 3, none⟩) (by show b ≠ w.heap.size + 1; omega) [.int .i64 x.Kind, .int .i64 x.Acct, .int .i64 x.Amt, .int .i64 x.Src] 0 w9).trans k3⟩)
    (first | (go_at_call 45; refine (iQFirst_c b1 b2).mono ?_; rintro e w9 ⟨rfl, hd⟩; rw [HV.out]; have hb9 : Below w3.heap.size w3 w9 := (Below.refl _ _).drew.trans hd; have B9 := B_w3.trans (hb9.mono B_w3.size); have q0 := (x_q.from_ hb9).cell (i := 0) rfl; have q1 := (x_q.from_ hb9).cell (i := 1) rfl; have k0 := (hb9.cell (p := ⟨b, off + k * 4, none⟩) (by show b < w3.heap.size; have := B_w3.size; omega)).trans e0; have k1 := (hb9.cell (p := ⟨b, off + k * 4 + 1, none⟩) (by show b < w3.heap.size; have := B_w3.size; omega)).trans e1; have k2 := (hb9.cell (p := ⟨b, off + k * 4 + 2, none⟩) (by show b < w3.heap.size; have := B_w3.size; omega)).trans e2; have k3 := (hb9.cell (p := ⟨b, off + k * 4 + 3, none⟩) (by show b < w3.heap.size; have := B_w3.size; omega)).trans e3; have x_r9 := x_r.from_ hb9; have z0 := x_r9.cell (i := 0) rfl; have z1 := x_r9.cell (i := 1) rfl; have z2 := x_r9.cell (i := 2) rfl; have z3 := x_r9.cell (i := 3) rfl; have y0 := x_r9.frozen 0; have y1 := x_r9.frozen 1; have y2 := x_r9.frozen 2; have y3 := x_r9.frozen 3))
  obtain ⟨w10, e_w10, s_w10, h_w10, x_r10⟩ := store_step x_r9 [.int .i64 x.Kind, .int .i64 x.Acct, .int .i64 x.Amt, .int .i64 x.Src] rfl
  replace e_w10 : ((((w9.setCell ⟨w.heap.size + 1, 0, none⟩ (.int .i64 x.Kind)).setCell ⟨w.heap.size + 1, 1, none⟩ (.int .i64 x.Acct)).setCell ⟨w.heap.size + 1, 2, none⟩ (.int .i64 x.Amt)).setCell ⟨w.heap.size + 1, 3, none⟩ (.int .i64 x.Src)) = w10 := e_w10
  rw [e_w10]
  have B10 := Below.chg_ B9 h_w10 (by omega) B9.size
  go_wp2
  refine ret_cell_tmp (by rfl) (by rfl) x_r10 Try.underlying29 sz_msg (by rfl) ?_
  rw [HB.out, HM.out]
  exact ⟨_, rfl, ov_msg (d := x) (Nat.le_refl _), B10⟩

end Go.Proofs.Ytpaodpkgpajboaa
