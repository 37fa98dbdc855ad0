/- Texts joined: RcJ0, Rc4, RcM, RcQ. -/
import Derived.Test.YtkbhbccpmmhelaaDoorZ4
import Derived.LoopN
namespace Go.Proofs.YtkbhbccpmmhelaaDoor
open Go.RowKit
set_option linter.unusedVariables false
set_option linter.unusedSimpArgs false
theorem own_vr {w : World} {base b : Nat} {t : TypeId} {xs : List ByteArray} (h : Vr w b t (xs.map Value.string)) (hb : base ≤ b) (hm : xs.length ≤ 1000) : OwnF Value.string w base t (.slice (some ⟨b, 0, none⟩) xs.length xs.length) xs :=
  ⟨by simp, .inr ⟨b, xs.length, _, rfl, hb, h, Nat.le_refl _, by unfold maxLen; omega, by simp, by simp [List.take_of_length_le]⟩⟩
theorem Vr.grow {w w' : World} {b : Nat} {t : TypeId} {cs : List Value} {row : Option Nat} (h : Vr w b t cs) (hg : w.grownBy w' row) (hne : some b ≠ row) : Vr w' b t cs := by
  have hl := h.lt
  unfold Vr at h ⊢
  rw [hg.block b hl hne]
  exact h
theorem join_eq (ws : List ByteArray) : ∀ s : ByteArray, (⟨(Lib.join ((s :: ws).map (·.data.toList)) (⟨#[32]⟩ : ByteArray).data.toList).toArray⟩ : ByteArray) = joinSp s ws := by
  induction ws with
  | nil => intro s; apply ByteArray.ext; apply Array.toList_inj.1; simp [Lib.join, List.intercalate, joinSp]
  | cons x l ih =>
    intro s
    rw [joinSp_cons, ← ih x]
    apply ByteArray.ext
    apply Array.toList_inj.1
    simp [Lib.join, List.intercalate, ByteArray.data_append]
theorem join_len (s : ByteArray) (ws : List ByteArray) : (Lib.join ((s :: ws).map (·.data.toList)) (⟨#[32]⟩ : ByteArray).data.toList).length = (joinSp s ws).size := by
  rw [← join_eq]
  show _ = (List.toArray _).size
  rw [List.size_toArray]
theorem joinSp_flat (s n : ByteArray) (xs ws : List ByteArray) : joinSp s (xs ++ [joinSp n ws]) = joinSp s (xs ++ n :: ws) := by
  rw [joinSp_append, joinSp_append, joinSp_cons, joinSp_cons]
  rfl
set_option maxRecDepth 100000 in
set_option maxHeartbeats 4000000 in
theorem rtext_1 {w : World} (ht : Tab10 w) (a o t m k1 k2 k3 k4 : Int) (ho : recOkB ⟨1, a, o, t, m, ⟨k1, k2, k3, k4⟩⟩ = true) : Calls Tryd.prog 10 #[.agg #[.int .i64 1, .int .i64 a, .int .i64 o, .int .i64 t, .int .i64 m, .int .i64 k1, .int .i64 k2, .int .i64 k3, .int .i64 k4]] w fun e w' => e = .returned (.string (recText ⟨1, a, o, t, m, ⟨k1, k2, k3, k4⟩⟩)) ∧ Below w.heap.size w w' := by
  have hp := recOk_parts ho
  obtain ⟨-, q1, q2, q3, q4, q5, -⟩ := hp
  simp only at q1 q2 q3 q4
  have hsz := recText_size (⟨1, a, o, t, m, ⟨k1, k2, k3, k4⟩⟩ : MRec)
  have HP0 : recText ⟨1, a, o, t, m, ⟨k1, k2, k3, k4⟩⟩ = joinSp (rkName 1) [numText a, numText m] := by
    unfold recText; rw [if_pos ho]; simp [recWords, recFields, kAcct, kOther, kTo, kAmt]
  clear q5
  obtain ⟨s0, hs0⟩ : ∃ z, rkName 1 = z := ⟨_, rfl⟩
  obtain ⟨s1, hs1⟩ : ∃ z, numText a = z := ⟨_, rfl⟩
  obtain ⟨s4, hs4⟩ : ∃ z, numText m = z := ⟨_, rfl⟩
  rw [hs0, hs1, hs4] at HP0
  obtain ⟨R, hR⟩ : ∃ z, joinSp s0 [s1, s4] = z := ⟨_, rfl⟩
  rw [hR] at HP0
  rw [HP0] at hsz
  have HP := Lib.hid HP0
  have HR := Lib.hid hR
  have Hs0 := Lib.hid hs0
  have Hs1 := Lib.hid hs1
  have Hs4 := Lib.hid hs4
  have HO := Lib.hid ho
  clear ho HP0 hR hs0 hs1 hs4
  obtain ⟨i0, hi, hz0, hz1, hz2⟩ := info_parts Tryd.info_str
  obtain ⟨wa, hwa, B0, sa, x_a⟩ := frame1 w 26 [.int .i64 1, .int .i64 a, .int .i64 o, .int .i64 t, .int .i64 m, .int .i64 k1, .int .i64 k2, .int .i64 k3, .int .i64 k4]
  have sa_1 := Nat.le_of_eq sa
  have sa_2 := Nat.le_of_eq sa.symm
  clear sa
  have c_a_0_wa := x_a.cell (i := 0) rfl
  have c_a_1_wa := x_a.cell (i := 1) rfl
  have c_a_2_wa := x_a.cell (i := 2) rfl
  have c_a_3_wa := x_a.cell (i := 3) rfl
  have c_a_4_wa := x_a.cell (i := 4) rfl
  have c_a_5_wa := x_a.cell (i := 5) rfl
  have c_a_6_wa := x_a.cell (i := 6) rfl
  have c_a_7_wa := x_a.cell (i := 7) rfl
  have c_a_8_wa := x_a.cell (i := 8) rfl
  have rv : RV recL wa (.agg #[.int .i64 1, .int .i64 a, .int .i64 o, .int .i64 t, .int .i64 m, .int .i64 k1, .int .i64 k2, .int .i64 k3, .int .i64 k4]) ⟨1, a, o, t, m, ⟨k1, k2, k3, k4⟩⟩ := rv_rec_mk (zM := ⟨k1, k2, k3, k4⟩)
  go_enter Tryd.func10, Tryd.ntmps10
  go_wp2_with fail
  refine (iRecOk_c rv).mono ?_
  rintro e w1 ⟨rfl, h_w1⟩
  clear c_a_0_wa c_a_1_wa c_a_2_wa c_a_3_wa c_a_4_wa c_a_5_wa c_a_6_wa c_a_7_wa c_a_8_wa
  replace x_a := x_a.from_ h_w1
  have B_w1 := B0.trans (h_w1.mono B0.size)
  have s_w1 := h_w1.size
  rw [HO.out]
  clear rv
  have c_a_0_w1 := x_a.cell (i := 0) rfl
  have c_a_1_w1 := x_a.cell (i := 1) rfl
  have c_a_2_w1 := x_a.cell (i := 2) rfl
  have c_a_3_w1 := x_a.cell (i := 3) rfl
  have c_a_4_w1 := x_a.cell (i := 4) rfl
  have c_a_5_w1 := x_a.cell (i := 5) rfl
  have c_a_6_w1 := x_a.cell (i := 6) rfl
  have c_a_7_w1 := x_a.cell (i := 7) rfl
  have c_a_8_w1 := x_a.cell (i := 8) rfl
  go_wp2_with fail
  refine (iRkName_w _ _).mono ?_
  rintro e w' ⟨rfl, rfl⟩
  rw [Hs0.out]
  obtain ⟨w2, e_w2, s_w2, h_w2, x_s⟩ := alloc_step w1 9 [.string s0]
  have s_w2_1 := Nat.le_of_eq s_w2
  have s_w2_2 := Nat.le_of_eq s_w2.symm
  clear s_w2
  replace x_a := x_a.from_ h_w2
  have B_w2 := B_w1.trans (h_w2.mono B_w1.size)
  have own := own_vr (base := w1.heap.size) (xs := [s0]) x_s (Nat.le_refl _) (by simp)
  have c_a_0_w2 := x_a.cell (i := 0) rfl
  have f_a_0_w2 := x_a.frozen 0
  have c_a_1_w2 := x_a.cell (i := 1) rfl
  have f_a_1_w2 := x_a.frozen 1
  have c_a_2_w2 := x_a.cell (i := 2) rfl
  have f_a_2_w2 := x_a.frozen 2
  have c_a_3_w2 := x_a.cell (i := 3) rfl
  have f_a_3_w2 := x_a.frozen 3
  have c_a_4_w2 := x_a.cell (i := 4) rfl
  have f_a_4_w2 := x_a.frozen 4
  have c_a_5_w2 := x_a.cell (i := 5) rfl
  have f_a_5_w2 := x_a.frozen 5
  have c_a_6_w2 := x_a.cell (i := 6) rfl
  have f_a_6_w2 := x_a.frozen 6
  have c_a_7_w2 := x_a.cell (i := 7) rfl
  have f_a_7_w2 := x_a.frozen 7
  have c_a_8_w2 := x_a.cell (i := 8) rfl
  have f_a_8_w2 := x_a.frozen 8
  go_wp2_with fail
  refine (iUsed_1 x_a rfl).mono ?_
  rintro e w3 ⟨B, T, rfl, x_l, hB, h_w3⟩
  clear c_a_0_w1 c_a_1_w1 c_a_2_w1 c_a_3_w1 c_a_4_w1 c_a_5_w1 c_a_6_w1 c_a_7_w1 c_a_8_w1 c_a_0_w2 f_a_0_w2 c_a_1_w2 f_a_1_w2 c_a_2_w2 f_a_2_w2 c_a_3_w2 f_a_3_w2 c_a_4_w2 f_a_4_w2 c_a_5_w2 f_a_5_w2 c_a_6_w2 f_a_6_w2 c_a_7_w2 f_a_7_w2 c_a_8_w2 f_a_8_w2
  replace x_a := x_a.from_ h_w3
  have B_w3 := B_w2.trans (h_w3.mono B_w2.size)
  have s_w3 := h_w3.size
  replace own := own.below h_w3 (Nat.le_refl _)
  have hne : ∀ j, (Value.slice (some ⟨w1.heap.size, 0, none⟩) [s0].length [s0].length).ownBlock = some j → j ≠ B := by
    intro j hj
    have : w1.heap.size = j := by simpa [Value.ownBlock] using hj
    omega
  have c_a_0_w3 := x_a.cell (i := 0) rfl
  have c_a_1_w3 := x_a.cell (i := 1) rfl
  have c_a_2_w3 := x_a.cell (i := 2) rfl
  have c_a_3_w3 := x_a.cell (i := 3) rfl
  have c_a_4_w3 := x_a.cell (i := 4) rfl
  have c_a_5_w3 := x_a.cell (i := 5) rfl
  have c_a_6_w3 := x_a.cell (i := 6) rfl
  have c_a_7_w3 := x_a.cell (i := 7) rfl
  have c_a_8_w3 := x_a.cell (i := 8) rfl
  have c_l_0_w3 := x_l.cell (i := 0) rfl
  have c_l_1_w3 := x_l.cell (i := 1) rfl
  go_wp2_with fail
  refine wp_loop_rounds 3 ?_
  rw [rounds_succ]
  clear c_a_0_w3 c_a_1_w3 c_a_2_w3 c_a_3_w3 c_a_4_w3 c_a_5_w3 c_a_6_w3 c_a_7_w3 c_a_8_w3 c_l_0_w3 c_l_1_w3
  have c_a_0_w3 := x_a.cell (i := 0) rfl
  have c_a_1_w3 := x_a.cell (i := 1) rfl
  have c_a_2_w3 := x_a.cell (i := 2) rfl
  have c_a_3_w3 := x_a.cell (i := 3) rfl
  have c_a_4_w3 := x_a.cell (i := 4) rfl
  have c_a_5_w3 := x_a.cell (i := 5) rfl
  have c_a_6_w3 := x_a.cell (i := 6) rfl
  have c_a_7_w3 := x_a.cell (i := 7) rfl
  have c_a_8_w3 := x_a.cell (i := 8) rfl
  have c_l_0_w3 := x_l.cell (i := 0) rfl
  have c_l_1_w3 := x_l.cell (i := 1) rfl
  go_wp2_with fail
  refine (iNumText_any _ _ (ht.below B_w3) (by omega) (by omega)).mono ?_
  rintro e w4 ⟨rfl, h_w4⟩
  clear c_a_0_w3 c_a_1_w3 c_a_2_w3 c_a_3_w3 c_a_4_w3 c_a_5_w3 c_a_6_w3 c_a_7_w3 c_a_8_w3 c_l_0_w3 c_l_1_w3
  replace x_a := x_a.from_ h_w4
  replace x_l := x_l.from_ h_w4
  have B_w4 := B_w3.trans (h_w4.mono B_w3.size)
  have s_w4 := h_w4.size
  rw [Hs1.out]
  replace own := own.below h_w4 (Nat.le_refl _)
  go_wp2_with (at_builtin; refine wpl_appF Value.string ByteArray.empty _ one_str rfl (.tmp 19) (.tmp 24) 58 rfl (w1.heap.size) 9 i0 _ 16 Tryd.underlying58 hi hz0 hz1 hz2 rfl _ [s0] rfl (own.alloc_ _) _ _ _ 1 [s1] rfl rfl (rdF_one _ _ _ _ _) (by simp) (by omega) (by simp; omega) ?_)
  intro v_w5 w5 o_w5 g_w5 at_w5
  have B_w5 : Below w.heap.size w w5 := grown_belowF (B_w4.alloc B_w4.size _) (own.alloc_ _) g_w5 (by omega) (by simp; omega)
  replace x_a := (x_a.alloc _).grow g_w5 (fun e => by have := (own.lt _ e.symm).1; omega)
  have lt_l := x_l.lt
  replace x_l := (x_l.alloc _).grow g_w5 (fun e => hne _ e.symm rfl)
  replace hne : ∀ j, v_w5.ownBlock = some j → j ≠ B := by
    intro j hj
    rcases at_w5 with e | e
    · rw [e] at hj; exact hne j hj
    · rw [e] at hj; have : w4.heap.size + 1 = j := by simpa using hj
      omega
  replace own : OwnF Value.string w5 (w1.heap.size) 9 v_w5 [s0, s1] := o_w5
  have s_w5 := B_w5.size
  have sz_w5 : w4.heap.size ≤ w5.heap.size := by have := g_w5.size; simp at this; omega
  clear o_w5 g_w5 at_w5
  go_wp2_with fail
  rw [rounds_succ]
  have c_a_0_w5 := x_a.cell (i := 0) rfl
  have c_a_1_w5 := x_a.cell (i := 1) rfl
  have c_a_2_w5 := x_a.cell (i := 2) rfl
  have c_a_3_w5 := x_a.cell (i := 3) rfl
  have c_a_4_w5 := x_a.cell (i := 4) rfl
  have c_a_5_w5 := x_a.cell (i := 5) rfl
  have c_a_6_w5 := x_a.cell (i := 6) rfl
  have c_a_7_w5 := x_a.cell (i := 7) rfl
  have c_a_8_w5 := x_a.cell (i := 8) rfl
  have c_l_0_w5 := x_l.cell (i := 0) rfl
  have c_l_1_w5 := x_l.cell (i := 1) rfl
  go_wp2_with fail
  refine (iNumText_any _ _ (ht.below B_w5) (by omega) (by omega)).mono ?_
  rintro e w6 ⟨rfl, h_w6⟩
  clear c_a_0_w5 c_a_1_w5 c_a_2_w5 c_a_3_w5 c_a_4_w5 c_a_5_w5 c_a_6_w5 c_a_7_w5 c_a_8_w5 c_l_0_w5 c_l_1_w5
  replace x_a := x_a.from_ h_w6
  replace x_l := x_l.from_ h_w6
  have B_w6 := B_w5.trans (h_w6.mono B_w5.size)
  have s_w6 := h_w6.size
  rw [Hs4.out]
  replace own := own.below h_w6 (Nat.le_refl _)
  go_wp2_with (at_builtin; refine wpl_appF Value.string ByteArray.empty _ one_str rfl (.tmp 19) (.tmp 24) 58 rfl (w1.heap.size) 9 i0 _ 16 Tryd.underlying58 hi hz0 hz1 hz2 rfl _ [s0, s1] rfl (own.alloc_ _) _ _ _ 1 [s4] rfl rfl (rdF_one _ _ _ _ _) (by simp) (by omega) (by simp; omega) ?_)
  intro v_w7 w7 o_w7 g_w7 at_w7
  have B_w7 : Below w.heap.size w w7 := grown_belowF (B_w6.alloc B_w6.size _) (own.alloc_ _) g_w7 (by omega) (by simp; omega)
  replace x_a := (x_a.alloc _).grow g_w7 (fun e => by have := (own.lt _ e.symm).1; omega)
  have lt_l := x_l.lt
  replace x_l := (x_l.alloc _).grow g_w7 (fun e => hne _ e.symm rfl)
  replace hne : ∀ j, v_w7.ownBlock = some j → j ≠ B := by
    intro j hj
    rcases at_w7 with e | e
    · rw [e] at hj; exact hne j hj
    · rw [e] at hj; have : w6.heap.size + 1 = j := by simpa using hj
      omega
  replace own : OwnF Value.string w7 (w1.heap.size) 9 v_w7 [s0, s1, s4] := o_w7
  have s_w7 := B_w7.size
  have sz_w7 : w6.heap.size ≤ w7.heap.size := by have := g_w7.size; simp at this; omega
  clear o_w7 g_w7 at_w7
  go_wp2_with fail
  rw [rounds_succ]
  have c_a_0_w7 := x_a.cell (i := 0) rfl
  have c_a_1_w7 := x_a.cell (i := 1) rfl
  have c_a_2_w7 := x_a.cell (i := 2) rfl
  have c_a_3_w7 := x_a.cell (i := 3) rfl
  have c_a_4_w7 := x_a.cell (i := 4) rfl
  have c_a_5_w7 := x_a.cell (i := 5) rfl
  have c_a_6_w7 := x_a.cell (i := 6) rfl
  have c_a_7_w7 := x_a.cell (i := 7) rfl
  have c_a_8_w7 := x_a.cell (i := 8) rfl
  obtain ⟨A, c, rfl, hc1, hc2, hr⟩ := own.form (d := ByteArray.empty)
  obtain ⟨g, off, rfl, hg, hcell⟩ := hr (by simp)
  have hcs : ∀ (j : Nat) x, [s0, s1, s4][j]? = some x → w7.cell? ⟨g, off + j, none⟩ = some (.string x) := by
    intro j x hj
    have hlt : j < [s0, s1, s4].length := by rcases Nat.lt_or_ge j [s0, s1, s4].length with h | h; exact h; rw [List.getElem?_eq_none h] at hj; cases hj
    have := hcell j hlt
    rw [List.getD_eq_getElem?_getD, hj] at this
    exact this
  have hlen : (Lib.join ([s0, s1, s4].map (·.data.toList)) (⟨#[32]⟩ : ByteArray).data.toList).length ≤ 140737488355328 := by rw [join_len, HR.out]; omega
  clear hr hcell own
  go_wp2_with fail
  refine (Tryd.strings_Join g off c [s0, s1, s4] ⟨#[32]⟩ _ hcs hg (by simp) hc1 hlen).mono ?_
  rintro e w8 ⟨rfl, h_w8⟩
  clear c_a_0_w7 c_a_1_w7 c_a_2_w7 c_a_3_w7 c_a_4_w7 c_a_5_w7 c_a_6_w7 c_a_7_w7 c_a_8_w7
  replace x_a := x_a.from_ h_w8
  have B_w8 := B_w7.trans (h_w8.mono B_w7.size)
  have s_w8 := h_w8.size
  rw [join_eq, HR.out]
  go_wp2
  go_ret
  exact ⟨ret_eq (by rw [HP.out]; rfl), B_w8⟩
set_option maxRecDepth 100000 in
set_option maxHeartbeats 4000000 in
theorem rtext_2 {w : World} (ht : Tab10 w) (a o t m k1 k2 k3 k4 : Int) (ho : recOkB ⟨2, a, o, t, m, ⟨k1, k2, k3, k4⟩⟩ = true) : Calls Tryd.prog 10 #[.agg #[.int .i64 2, .int .i64 a, .int .i64 o, .int .i64 t, .int .i64 m, .int .i64 k1, .int .i64 k2, .int .i64 k3, .int .i64 k4]] w fun e w' => e = .returned (.string (recText ⟨2, a, o, t, m, ⟨k1, k2, k3, k4⟩⟩)) ∧ Below w.heap.size w w' := by
  have hp := recOk_parts ho
  obtain ⟨-, q1, q2, q3, q4, q5, -⟩ := hp
  simp only at q1 q2 q3 q4
  have hsz := recText_size (⟨2, a, o, t, m, ⟨k1, k2, k3, k4⟩⟩ : MRec)
  have HP0 : recText ⟨2, a, o, t, m, ⟨k1, k2, k3, k4⟩⟩ = joinSp (rkName 2) [numText a, numText m] := by
    unfold recText; rw [if_pos ho]; simp [recWords, recFields, kAcct, kOther, kTo, kAmt]
  clear q5
  obtain ⟨s0, hs0⟩ : ∃ z, rkName 2 = z := ⟨_, rfl⟩
  obtain ⟨s1, hs1⟩ : ∃ z, numText a = z := ⟨_, rfl⟩
  obtain ⟨s4, hs4⟩ : ∃ z, numText m = z := ⟨_, rfl⟩
  rw [hs0, hs1, hs4] at HP0
  obtain ⟨R, hR⟩ : ∃ z, joinSp s0 [s1, s4] = z := ⟨_, rfl⟩
  rw [hR] at HP0
  rw [HP0] at hsz
  have HP := Lib.hid HP0
  have HR := Lib.hid hR
  have Hs0 := Lib.hid hs0
  have Hs1 := Lib.hid hs1
  have Hs4 := Lib.hid hs4
  have HO := Lib.hid ho
  clear ho HP0 hR hs0 hs1 hs4
  obtain ⟨i0, hi, hz0, hz1, hz2⟩ := info_parts Tryd.info_str
  obtain ⟨wa, hwa, B0, sa, x_a⟩ := frame1 w 26 [.int .i64 2, .int .i64 a, .int .i64 o, .int .i64 t, .int .i64 m, .int .i64 k1, .int .i64 k2, .int .i64 k3, .int .i64 k4]
  have sa_1 := Nat.le_of_eq sa
  have sa_2 := Nat.le_of_eq sa.symm
  clear sa
  have c_a_0_wa := x_a.cell (i := 0) rfl
  have c_a_1_wa := x_a.cell (i := 1) rfl
  have c_a_2_wa := x_a.cell (i := 2) rfl
  have c_a_3_wa := x_a.cell (i := 3) rfl
  have c_a_4_wa := x_a.cell (i := 4) rfl
  have c_a_5_wa := x_a.cell (i := 5) rfl
  have c_a_6_wa := x_a.cell (i := 6) rfl
  have c_a_7_wa := x_a.cell (i := 7) rfl
  have c_a_8_wa := x_a.cell (i := 8) rfl
  have rv : RV recL wa (.agg #[.int .i64 2, .int .i64 a, .int .i64 o, .int .i64 t, .int .i64 m, .int .i64 k1, .int .i64 k2, .int .i64 k3, .int .i64 k4]) ⟨2, a, o, t, m, ⟨k1, k2, k3, k4⟩⟩ := rv_rec_mk (zM := ⟨k1, k2, k3, k4⟩)
  go_enter Tryd.func10, Tryd.ntmps10
  go_wp2_with fail
  refine (iRecOk_c rv).mono ?_
  rintro e w1 ⟨rfl, h_w1⟩
  clear c_a_0_wa c_a_1_wa c_a_2_wa c_a_3_wa c_a_4_wa c_a_5_wa c_a_6_wa c_a_7_wa c_a_8_wa
  replace x_a := x_a.from_ h_w1
  have B_w1 := B0.trans (h_w1.mono B0.size)
  have s_w1 := h_w1.size
  rw [HO.out]
  clear rv
  have c_a_0_w1 := x_a.cell (i := 0) rfl
  have c_a_1_w1 := x_a.cell (i := 1) rfl
  have c_a_2_w1 := x_a.cell (i := 2) rfl
  have c_a_3_w1 := x_a.cell (i := 3) rfl
  have c_a_4_w1 := x_a.cell (i := 4) rfl
  have c_a_5_w1 := x_a.cell (i := 5) rfl
  have c_a_6_w1 := x_a.cell (i := 6) rfl
  have c_a_7_w1 := x_a.cell (i := 7) rfl
  have c_a_8_w1 := x_a.cell (i := 8) rfl
  go_wp2_with fail
  refine (iRkName_w _ _).mono ?_
  rintro e w' ⟨rfl, rfl⟩
  rw [Hs0.out]
  obtain ⟨w2, e_w2, s_w2, h_w2, x_s⟩ := alloc_step w1 9 [.string s0]
  have s_w2_1 := Nat.le_of_eq s_w2
  have s_w2_2 := Nat.le_of_eq s_w2.symm
  clear s_w2
  replace x_a := x_a.from_ h_w2
  have B_w2 := B_w1.trans (h_w2.mono B_w1.size)
  have own := own_vr (base := w1.heap.size) (xs := [s0]) x_s (Nat.le_refl _) (by simp)
  have c_a_0_w2 := x_a.cell (i := 0) rfl
  have f_a_0_w2 := x_a.frozen 0
  have c_a_1_w2 := x_a.cell (i := 1) rfl
  have f_a_1_w2 := x_a.frozen 1
  have c_a_2_w2 := x_a.cell (i := 2) rfl
  have f_a_2_w2 := x_a.frozen 2
  have c_a_3_w2 := x_a.cell (i := 3) rfl
  have f_a_3_w2 := x_a.frozen 3
  have c_a_4_w2 := x_a.cell (i := 4) rfl
  have f_a_4_w2 := x_a.frozen 4
  have c_a_5_w2 := x_a.cell (i := 5) rfl
  have f_a_5_w2 := x_a.frozen 5
  have c_a_6_w2 := x_a.cell (i := 6) rfl
  have f_a_6_w2 := x_a.frozen 6
  have c_a_7_w2 := x_a.cell (i := 7) rfl
  have f_a_7_w2 := x_a.frozen 7
  have c_a_8_w2 := x_a.cell (i := 8) rfl
  have f_a_8_w2 := x_a.frozen 8
  go_wp2_with fail
  refine (iUsed_2 x_a rfl).mono ?_
  rintro e w3 ⟨B, T, rfl, x_l, hB, h_w3⟩
  clear c_a_0_w1 c_a_1_w1 c_a_2_w1 c_a_3_w1 c_a_4_w1 c_a_5_w1 c_a_6_w1 c_a_7_w1 c_a_8_w1 c_a_0_w2 f_a_0_w2 c_a_1_w2 f_a_1_w2 c_a_2_w2 f_a_2_w2 c_a_3_w2 f_a_3_w2 c_a_4_w2 f_a_4_w2 c_a_5_w2 f_a_5_w2 c_a_6_w2 f_a_6_w2 c_a_7_w2 f_a_7_w2 c_a_8_w2 f_a_8_w2
  replace x_a := x_a.from_ h_w3
  have B_w3 := B_w2.trans (h_w3.mono B_w2.size)
  have s_w3 := h_w3.size
  replace own := own.below h_w3 (Nat.le_refl _)
  have hne : ∀ j, (Value.slice (some ⟨w1.heap.size, 0, none⟩) [s0].length [s0].length).ownBlock = some j → j ≠ B := by
    intro j hj
    have : w1.heap.size = j := by simpa [Value.ownBlock] using hj
    omega
  have c_a_0_w3 := x_a.cell (i := 0) rfl
  have c_a_1_w3 := x_a.cell (i := 1) rfl
  have c_a_2_w3 := x_a.cell (i := 2) rfl
  have c_a_3_w3 := x_a.cell (i := 3) rfl
  have c_a_4_w3 := x_a.cell (i := 4) rfl
  have c_a_5_w3 := x_a.cell (i := 5) rfl
  have c_a_6_w3 := x_a.cell (i := 6) rfl
  have c_a_7_w3 := x_a.cell (i := 7) rfl
  have c_a_8_w3 := x_a.cell (i := 8) rfl
  have c_l_0_w3 := x_l.cell (i := 0) rfl
  have c_l_1_w3 := x_l.cell (i := 1) rfl
  go_wp2_with fail
  refine wp_loop_rounds 3 ?_
  rw [rounds_succ]
  clear c_a_0_w3 c_a_1_w3 c_a_2_w3 c_a_3_w3 c_a_4_w3 c_a_5_w3 c_a_6_w3 c_a_7_w3 c_a_8_w3 c_l_0_w3 c_l_1_w3
  have c_a_0_w3 := x_a.cell (i := 0) rfl
  have c_a_1_w3 := x_a.cell (i := 1) rfl
  have c_a_2_w3 := x_a.cell (i := 2) rfl
  have c_a_3_w3 := x_a.cell (i := 3) rfl
  have c_a_4_w3 := x_a.cell (i := 4) rfl
  have c_a_5_w3 := x_a.cell (i := 5) rfl
  have c_a_6_w3 := x_a.cell (i := 6) rfl
  have c_a_7_w3 := x_a.cell (i := 7) rfl
  have c_a_8_w3 := x_a.cell (i := 8) rfl
  have c_l_0_w3 := x_l.cell (i := 0) rfl
  have c_l_1_w3 := x_l.cell (i := 1) rfl
  go_wp2_with fail
  refine (iNumText_any _ _ (ht.below B_w3) (by omega) (by omega)).mono ?_
  rintro e w4 ⟨rfl, h_w4⟩
  clear c_a_0_w3 c_a_1_w3 c_a_2_w3 c_a_3_w3 c_a_4_w3 c_a_5_w3 c_a_6_w3 c_a_7_w3 c_a_8_w3 c_l_0_w3 c_l_1_w3
  replace x_a := x_a.from_ h_w4
  replace x_l := x_l.from_ h_w4
  have B_w4 := B_w3.trans (h_w4.mono B_w3.size)
  have s_w4 := h_w4.size
  rw [Hs1.out]
  replace own := own.below h_w4 (Nat.le_refl _)
  go_wp2_with (at_builtin; refine wpl_appF Value.string ByteArray.empty _ one_str rfl (.tmp 19) (.tmp 24) 58 rfl (w1.heap.size) 9 i0 _ 16 Tryd.underlying58 hi hz0 hz1 hz2 rfl _ [s0] rfl (own.alloc_ _) _ _ _ 1 [s1] rfl rfl (rdF_one _ _ _ _ _) (by simp) (by omega) (by simp; omega) ?_)
  intro v_w5 w5 o_w5 g_w5 at_w5
  have B_w5 : Below w.heap.size w w5 := grown_belowF (B_w4.alloc B_w4.size _) (own.alloc_ _) g_w5 (by omega) (by simp; omega)
  replace x_a := (x_a.alloc _).grow g_w5 (fun e => by have := (own.lt _ e.symm).1; omega)
  have lt_l := x_l.lt
  replace x_l := (x_l.alloc _).grow g_w5 (fun e => hne _ e.symm rfl)
  replace hne : ∀ j, v_w5.ownBlock = some j → j ≠ B := by
    intro j hj
    rcases at_w5 with e | e
    · rw [e] at hj; exact hne j hj
    · rw [e] at hj; have : w4.heap.size + 1 = j := by simpa using hj
      omega
  replace own : OwnF Value.string w5 (w1.heap.size) 9 v_w5 [s0, s1] := o_w5
  have s_w5 := B_w5.size
  have sz_w5 : w4.heap.size ≤ w5.heap.size := by have := g_w5.size; simp at this; omega
  clear o_w5 g_w5 at_w5
  go_wp2_with fail
  rw [rounds_succ]
  have c_a_0_w5 := x_a.cell (i := 0) rfl
  have c_a_1_w5 := x_a.cell (i := 1) rfl
  have c_a_2_w5 := x_a.cell (i := 2) rfl
  have c_a_3_w5 := x_a.cell (i := 3) rfl
  have c_a_4_w5 := x_a.cell (i := 4) rfl
  have c_a_5_w5 := x_a.cell (i := 5) rfl
  have c_a_6_w5 := x_a.cell (i := 6) rfl
  have c_a_7_w5 := x_a.cell (i := 7) rfl
  have c_a_8_w5 := x_a.cell (i := 8) rfl
  have c_l_0_w5 := x_l.cell (i := 0) rfl
  have c_l_1_w5 := x_l.cell (i := 1) rfl
  go_wp2_with fail
  refine (iNumText_any _ _ (ht.below B_w5) (by omega) (by omega)).mono ?_
  rintro e w6 ⟨rfl, h_w6⟩
  clear c_a_0_w5 c_a_1_w5 c_a_2_w5 c_a_3_w5 c_a_4_w5 c_a_5_w5 c_a_6_w5 c_a_7_w5 c_a_8_w5 c_l_0_w5 c_l_1_w5
  replace x_a := x_a.from_ h_w6
  replace x_l := x_l.from_ h_w6
  have B_w6 := B_w5.trans (h_w6.mono B_w5.size)
  have s_w6 := h_w6.size
  rw [Hs4.out]
  replace own := own.below h_w6 (Nat.le_refl _)
  go_wp2_with (at_builtin; refine wpl_appF Value.string ByteArray.empty _ one_str rfl (.tmp 19) (.tmp 24) 58 rfl (w1.heap.size) 9 i0 _ 16 Tryd.underlying58 hi hz0 hz1 hz2 rfl _ [s0, s1] rfl (own.alloc_ _) _ _ _ 1 [s4] rfl rfl (rdF_one _ _ _ _ _) (by simp) (by omega) (by simp; omega) ?_)
  intro v_w7 w7 o_w7 g_w7 at_w7
  have B_w7 : Below w.heap.size w w7 := grown_belowF (B_w6.alloc B_w6.size _) (own.alloc_ _) g_w7 (by omega) (by simp; omega)
  replace x_a := (x_a.alloc _).grow g_w7 (fun e => by have := (own.lt _ e.symm).1; omega)
  have lt_l := x_l.lt
  replace x_l := (x_l.alloc _).grow g_w7 (fun e => hne _ e.symm rfl)
  replace hne : ∀ j, v_w7.ownBlock = some j → j ≠ B := by
    intro j hj
    rcases at_w7 with e | e
    · rw [e] at hj; exact hne j hj
    · rw [e] at hj; have : w6.heap.size + 1 = j := by simpa using hj
      omega
  replace own : OwnF Value.string w7 (w1.heap.size) 9 v_w7 [s0, s1, s4] := o_w7
  have s_w7 := B_w7.size
  have sz_w7 : w6.heap.size ≤ w7.heap.size := by have := g_w7.size; simp at this; omega
  clear o_w7 g_w7 at_w7
  go_wp2_with fail
  rw [rounds_succ]
  have c_a_0_w7 := x_a.cell (i := 0) rfl
  have c_a_1_w7 := x_a.cell (i := 1) rfl
  have c_a_2_w7 := x_a.cell (i := 2) rfl
  have c_a_3_w7 := x_a.cell (i := 3) rfl
  have c_a_4_w7 := x_a.cell (i := 4) rfl
  have c_a_5_w7 := x_a.cell (i := 5) rfl
  have c_a_6_w7 := x_a.cell (i := 6) rfl
  have c_a_7_w7 := x_a.cell (i := 7) rfl
  have c_a_8_w7 := x_a.cell (i := 8) rfl
  obtain ⟨A, c, rfl, hc1, hc2, hr⟩ := own.form (d := ByteArray.empty)
  obtain ⟨g, off, rfl, hg, hcell⟩ := hr (by simp)
  have hcs : ∀ (j : Nat) x, [s0, s1, s4][j]? = some x → w7.cell? ⟨g, off + j, none⟩ = some (.string x) := by
    intro j x hj
    have hlt : j < [s0, s1, s4].length := by rcases Nat.lt_or_ge j [s0, s1, s4].length with h | h; exact h; rw [List.getElem?_eq_none h] at hj; cases hj
    have := hcell j hlt
    rw [List.getD_eq_getElem?_getD, hj] at this
    exact this
  have hlen : (Lib.join ([s0, s1, s4].map (·.data.toList)) (⟨#[32]⟩ : ByteArray).data.toList).length ≤ 140737488355328 := by rw [join_len, HR.out]; omega
  clear hr hcell own
  go_wp2_with fail
  refine (Tryd.strings_Join g off c [s0, s1, s4] ⟨#[32]⟩ _ hcs hg (by simp) hc1 hlen).mono ?_
  rintro e w8 ⟨rfl, h_w8⟩
  clear c_a_0_w7 c_a_1_w7 c_a_2_w7 c_a_3_w7 c_a_4_w7 c_a_5_w7 c_a_6_w7 c_a_7_w7 c_a_8_w7
  replace x_a := x_a.from_ h_w8
  have B_w8 := B_w7.trans (h_w8.mono B_w7.size)
  have s_w8 := h_w8.size
  rw [join_eq, HR.out]
  go_wp2
  go_ret
  exact ⟨ret_eq (by rw [HP.out]; rfl), B_w8⟩
set_option maxRecDepth 100000 in
set_option maxHeartbeats 4000000 in
theorem rtext_3 {w : World} (ht : Tab10 w) (a o t m k1 k2 k3 k4 : Int) (ho : recOkB ⟨3, a, o, t, m, ⟨k1, k2, k3, k4⟩⟩ = true) : Calls Tryd.prog 10 #[.agg #[.int .i64 3, .int .i64 a, .int .i64 o, .int .i64 t, .int .i64 m, .int .i64 k1, .int .i64 k2, .int .i64 k3, .int .i64 k4]] w fun e w' => e = .returned (.string (recText ⟨3, a, o, t, m, ⟨k1, k2, k3, k4⟩⟩)) ∧ Below w.heap.size w w' := by
  have hp := recOk_parts ho
  obtain ⟨-, q1, q2, q3, q4, q5, -⟩ := hp
  simp only at q1 q2 q3 q4
  have hsz := recText_size (⟨3, a, o, t, m, ⟨k1, k2, k3, k4⟩⟩ : MRec)
  have HP0 : recText ⟨3, a, o, t, m, ⟨k1, k2, k3, k4⟩⟩ = joinSp (rkName 3) [numText a, numText t, numText m] := by
    unfold recText; rw [if_pos ho]; simp [recWords, recFields, kAcct, kOther, kTo, kAmt]
  clear q5
  obtain ⟨s0, hs0⟩ : ∃ z, rkName 3 = z := ⟨_, rfl⟩
  obtain ⟨s1, hs1⟩ : ∃ z, numText a = z := ⟨_, rfl⟩
  obtain ⟨s3, hs3⟩ : ∃ z, numText t = z := ⟨_, rfl⟩
  obtain ⟨s4, hs4⟩ : ∃ z, numText m = z := ⟨_, rfl⟩
  rw [hs0, hs1, hs3, hs4] at HP0
  obtain ⟨R, hR⟩ : ∃ z, joinSp s0 [s1, s3, s4] = z := ⟨_, rfl⟩
  rw [hR] at HP0
  rw [HP0] at hsz
  have HP := Lib.hid HP0
  have HR := Lib.hid hR
  have Hs0 := Lib.hid hs0
  have Hs1 := Lib.hid hs1
  have Hs3 := Lib.hid hs3
  have Hs4 := Lib.hid hs4
  have HO := Lib.hid ho
  clear ho HP0 hR hs0 hs1 hs3 hs4
  obtain ⟨i0, hi, hz0, hz1, hz2⟩ := info_parts Tryd.info_str
  obtain ⟨wa, hwa, B0, sa, x_a⟩ := frame1 w 26 [.int .i64 3, .int .i64 a, .int .i64 o, .int .i64 t, .int .i64 m, .int .i64 k1, .int .i64 k2, .int .i64 k3, .int .i64 k4]
  have sa_1 := Nat.le_of_eq sa
  have sa_2 := Nat.le_of_eq sa.symm
  clear sa
  have c_a_0_wa := x_a.cell (i := 0) rfl
  have c_a_1_wa := x_a.cell (i := 1) rfl
  have c_a_2_wa := x_a.cell (i := 2) rfl
  have c_a_3_wa := x_a.cell (i := 3) rfl
  have c_a_4_wa := x_a.cell (i := 4) rfl
  have c_a_5_wa := x_a.cell (i := 5) rfl
  have c_a_6_wa := x_a.cell (i := 6) rfl
  have c_a_7_wa := x_a.cell (i := 7) rfl
  have c_a_8_wa := x_a.cell (i := 8) rfl
  have rv : RV recL wa (.agg #[.int .i64 3, .int .i64 a, .int .i64 o, .int .i64 t, .int .i64 m, .int .i64 k1, .int .i64 k2, .int .i64 k3, .int .i64 k4]) ⟨3, a, o, t, m, ⟨k1, k2, k3, k4⟩⟩ := rv_rec_mk (zM := ⟨k1, k2, k3, k4⟩)
  go_enter Tryd.func10, Tryd.ntmps10
  go_wp2_with fail
  refine (iRecOk_c rv).mono ?_
  rintro e w1 ⟨rfl, h_w1⟩
  clear c_a_0_wa c_a_1_wa c_a_2_wa c_a_3_wa c_a_4_wa c_a_5_wa c_a_6_wa c_a_7_wa c_a_8_wa
  replace x_a := x_a.from_ h_w1
  have B_w1 := B0.trans (h_w1.mono B0.size)
  have s_w1 := h_w1.size
  rw [HO.out]
  clear rv
  have c_a_0_w1 := x_a.cell (i := 0) rfl
  have c_a_1_w1 := x_a.cell (i := 1) rfl
  have c_a_2_w1 := x_a.cell (i := 2) rfl
  have c_a_3_w1 := x_a.cell (i := 3) rfl
  have c_a_4_w1 := x_a.cell (i := 4) rfl
  have c_a_5_w1 := x_a.cell (i := 5) rfl
  have c_a_6_w1 := x_a.cell (i := 6) rfl
  have c_a_7_w1 := x_a.cell (i := 7) rfl
  have c_a_8_w1 := x_a.cell (i := 8) rfl
  go_wp2_with fail
  refine (iRkName_w _ _).mono ?_
  rintro e w' ⟨rfl, rfl⟩
  rw [Hs0.out]
  obtain ⟨w2, e_w2, s_w2, h_w2, x_s⟩ := alloc_step w1 9 [.string s0]
  have s_w2_1 := Nat.le_of_eq s_w2
  have s_w2_2 := Nat.le_of_eq s_w2.symm
  clear s_w2
  replace x_a := x_a.from_ h_w2
  have B_w2 := B_w1.trans (h_w2.mono B_w1.size)
  have own := own_vr (base := w1.heap.size) (xs := [s0]) x_s (Nat.le_refl _) (by simp)
  have c_a_0_w2 := x_a.cell (i := 0) rfl
  have f_a_0_w2 := x_a.frozen 0
  have c_a_1_w2 := x_a.cell (i := 1) rfl
  have f_a_1_w2 := x_a.frozen 1
  have c_a_2_w2 := x_a.cell (i := 2) rfl
  have f_a_2_w2 := x_a.frozen 2
  have c_a_3_w2 := x_a.cell (i := 3) rfl
  have f_a_3_w2 := x_a.frozen 3
  have c_a_4_w2 := x_a.cell (i := 4) rfl
  have f_a_4_w2 := x_a.frozen 4
  have c_a_5_w2 := x_a.cell (i := 5) rfl
  have f_a_5_w2 := x_a.frozen 5
  have c_a_6_w2 := x_a.cell (i := 6) rfl
  have f_a_6_w2 := x_a.frozen 6
  have c_a_7_w2 := x_a.cell (i := 7) rfl
  have f_a_7_w2 := x_a.frozen 7
  have c_a_8_w2 := x_a.cell (i := 8) rfl
  have f_a_8_w2 := x_a.frozen 8
  go_wp2_with fail
  refine (iUsed_3 x_a rfl).mono ?_
  rintro e w3 ⟨B, T, rfl, x_l, hB, h_w3⟩
  clear c_a_0_w1 c_a_1_w1 c_a_2_w1 c_a_3_w1 c_a_4_w1 c_a_5_w1 c_a_6_w1 c_a_7_w1 c_a_8_w1 c_a_0_w2 f_a_0_w2 c_a_1_w2 f_a_1_w2 c_a_2_w2 f_a_2_w2 c_a_3_w2 f_a_3_w2 c_a_4_w2 f_a_4_w2 c_a_5_w2 f_a_5_w2 c_a_6_w2 f_a_6_w2 c_a_7_w2 f_a_7_w2 c_a_8_w2 f_a_8_w2
  replace x_a := x_a.from_ h_w3
  have B_w3 := B_w2.trans (h_w3.mono B_w2.size)
  have s_w3 := h_w3.size
  replace own := own.below h_w3 (Nat.le_refl _)
  have hne : ∀ j, (Value.slice (some ⟨w1.heap.size, 0, none⟩) [s0].length [s0].length).ownBlock = some j → j ≠ B := by
    intro j hj
    have : w1.heap.size = j := by simpa [Value.ownBlock] using hj
    omega
  have c_a_0_w3 := x_a.cell (i := 0) rfl
  have c_a_1_w3 := x_a.cell (i := 1) rfl
  have c_a_2_w3 := x_a.cell (i := 2) rfl
  have c_a_3_w3 := x_a.cell (i := 3) rfl
  have c_a_4_w3 := x_a.cell (i := 4) rfl
  have c_a_5_w3 := x_a.cell (i := 5) rfl
  have c_a_6_w3 := x_a.cell (i := 6) rfl
  have c_a_7_w3 := x_a.cell (i := 7) rfl
  have c_a_8_w3 := x_a.cell (i := 8) rfl
  have c_l_0_w3 := x_l.cell (i := 0) rfl
  have c_l_1_w3 := x_l.cell (i := 1) rfl
  have c_l_2_w3 := x_l.cell (i := 2) rfl
  go_wp2_with fail
  refine wp_loop_rounds 4 ?_
  rw [rounds_succ]
  clear c_a_0_w3 c_a_1_w3 c_a_2_w3 c_a_3_w3 c_a_4_w3 c_a_5_w3 c_a_6_w3 c_a_7_w3 c_a_8_w3 c_l_0_w3 c_l_1_w3 c_l_2_w3
  have c_a_0_w3 := x_a.cell (i := 0) rfl
  have c_a_1_w3 := x_a.cell (i := 1) rfl
  have c_a_2_w3 := x_a.cell (i := 2) rfl
  have c_a_3_w3 := x_a.cell (i := 3) rfl
  have c_a_4_w3 := x_a.cell (i := 4) rfl
  have c_a_5_w3 := x_a.cell (i := 5) rfl
  have c_a_6_w3 := x_a.cell (i := 6) rfl
  have c_a_7_w3 := x_a.cell (i := 7) rfl
  have c_a_8_w3 := x_a.cell (i := 8) rfl
  have c_l_0_w3 := x_l.cell (i := 0) rfl
  have c_l_1_w3 := x_l.cell (i := 1) rfl
  have c_l_2_w3 := x_l.cell (i := 2) rfl
  go_wp2_with fail
  refine (iNumText_any _ _ (ht.below B_w3) (by omega) (by omega)).mono ?_
  rintro e w4 ⟨rfl, h_w4⟩
  clear c_a_0_w3 c_a_1_w3 c_a_2_w3 c_a_3_w3 c_a_4_w3 c_a_5_w3 c_a_6_w3 c_a_7_w3 c_a_8_w3 c_l_0_w3 c_l_1_w3 c_l_2_w3
  replace x_a := x_a.from_ h_w4
  replace x_l := x_l.from_ h_w4
  have B_w4 := B_w3.trans (h_w4.mono B_w3.size)
  have s_w4 := h_w4.size
  rw [Hs1.out]
  replace own := own.below h_w4 (Nat.le_refl _)
  go_wp2_with (at_builtin; refine wpl_appF Value.string ByteArray.empty _ one_str rfl (.tmp 19) (.tmp 24) 58 rfl (w1.heap.size) 9 i0 _ 16 Tryd.underlying58 hi hz0 hz1 hz2 rfl _ [s0] rfl (own.alloc_ _) _ _ _ 1 [s1] rfl rfl (rdF_one _ _ _ _ _) (by simp) (by omega) (by simp; omega) ?_)
  intro v_w5 w5 o_w5 g_w5 at_w5
  have B_w5 : Below w.heap.size w w5 := grown_belowF (B_w4.alloc B_w4.size _) (own.alloc_ _) g_w5 (by omega) (by simp; omega)
  replace x_a := (x_a.alloc _).grow g_w5 (fun e => by have := (own.lt _ e.symm).1; omega)
  have lt_l := x_l.lt
  replace x_l := (x_l.alloc _).grow g_w5 (fun e => hne _ e.symm rfl)
  replace hne : ∀ j, v_w5.ownBlock = some j → j ≠ B := by
    intro j hj
    rcases at_w5 with e | e
    · rw [e] at hj; exact hne j hj
    · rw [e] at hj; have : w4.heap.size + 1 = j := by simpa using hj
      omega
  replace own : OwnF Value.string w5 (w1.heap.size) 9 v_w5 [s0, s1] := o_w5
  have s_w5 := B_w5.size
  have sz_w5 : w4.heap.size ≤ w5.heap.size := by have := g_w5.size; simp at this; omega
  clear o_w5 g_w5 at_w5
  go_wp2_with fail
  rw [rounds_succ]
  have c_a_0_w5 := x_a.cell (i := 0) rfl
  have c_a_1_w5 := x_a.cell (i := 1) rfl
  have c_a_2_w5 := x_a.cell (i := 2) rfl
  have c_a_3_w5 := x_a.cell (i := 3) rfl
  have c_a_4_w5 := x_a.cell (i := 4) rfl
  have c_a_5_w5 := x_a.cell (i := 5) rfl
  have c_a_6_w5 := x_a.cell (i := 6) rfl
  have c_a_7_w5 := x_a.cell (i := 7) rfl
  have c_a_8_w5 := x_a.cell (i := 8) rfl
  have c_l_0_w5 := x_l.cell (i := 0) rfl
  have c_l_1_w5 := x_l.cell (i := 1) rfl
  have c_l_2_w5 := x_l.cell (i := 2) rfl
  go_wp2_with fail
  refine (iNumText_any _ _ (ht.below B_w5) (by omega) (by omega)).mono ?_
  rintro e w6 ⟨rfl, h_w6⟩
  clear c_a_0_w5 c_a_1_w5 c_a_2_w5 c_a_3_w5 c_a_4_w5 c_a_5_w5 c_a_6_w5 c_a_7_w5 c_a_8_w5 c_l_0_w5 c_l_1_w5 c_l_2_w5
  replace x_a := x_a.from_ h_w6
  replace x_l := x_l.from_ h_w6
  have B_w6 := B_w5.trans (h_w6.mono B_w5.size)
  have s_w6 := h_w6.size
  rw [Hs3.out]
  replace own := own.below h_w6 (Nat.le_refl _)
  go_wp2_with (at_builtin; refine wpl_appF Value.string ByteArray.empty _ one_str rfl (.tmp 19) (.tmp 24) 58 rfl (w1.heap.size) 9 i0 _ 16 Tryd.underlying58 hi hz0 hz1 hz2 rfl _ [s0, s1] rfl (own.alloc_ _) _ _ _ 1 [s3] rfl rfl (rdF_one _ _ _ _ _) (by simp) (by omega) (by simp; omega) ?_)
  intro v_w7 w7 o_w7 g_w7 at_w7
  have B_w7 : Below w.heap.size w w7 := grown_belowF (B_w6.alloc B_w6.size _) (own.alloc_ _) g_w7 (by omega) (by simp; omega)
  replace x_a := (x_a.alloc _).grow g_w7 (fun e => by have := (own.lt _ e.symm).1; omega)
  have lt_l := x_l.lt
  replace x_l := (x_l.alloc _).grow g_w7 (fun e => hne _ e.symm rfl)
  replace hne : ∀ j, v_w7.ownBlock = some j → j ≠ B := by
    intro j hj
    rcases at_w7 with e | e
    · rw [e] at hj; exact hne j hj
    · rw [e] at hj; have : w6.heap.size + 1 = j := by simpa using hj
      omega
  replace own : OwnF Value.string w7 (w1.heap.size) 9 v_w7 [s0, s1, s3] := o_w7
  have s_w7 := B_w7.size
  have sz_w7 : w6.heap.size ≤ w7.heap.size := by have := g_w7.size; simp at this; omega
  clear o_w7 g_w7 at_w7
  go_wp2_with fail
  rw [rounds_succ]
  have c_a_0_w7 := x_a.cell (i := 0) rfl
  have c_a_1_w7 := x_a.cell (i := 1) rfl
  have c_a_2_w7 := x_a.cell (i := 2) rfl
  have c_a_3_w7 := x_a.cell (i := 3) rfl
  have c_a_4_w7 := x_a.cell (i := 4) rfl
  have c_a_5_w7 := x_a.cell (i := 5) rfl
  have c_a_6_w7 := x_a.cell (i := 6) rfl
  have c_a_7_w7 := x_a.cell (i := 7) rfl
  have c_a_8_w7 := x_a.cell (i := 8) rfl
  have c_l_0_w7 := x_l.cell (i := 0) rfl
  have c_l_1_w7 := x_l.cell (i := 1) rfl
  have c_l_2_w7 := x_l.cell (i := 2) rfl
  go_wp2_with fail
  refine (iNumText_any _ _ (ht.below B_w7) (by omega) (by omega)).mono ?_
  rintro e w8 ⟨rfl, h_w8⟩
  clear c_a_0_w7 c_a_1_w7 c_a_2_w7 c_a_3_w7 c_a_4_w7 c_a_5_w7 c_a_6_w7 c_a_7_w7 c_a_8_w7 c_l_0_w7 c_l_1_w7 c_l_2_w7
  replace x_a := x_a.from_ h_w8
  replace x_l := x_l.from_ h_w8
  have B_w8 := B_w7.trans (h_w8.mono B_w7.size)
  have s_w8 := h_w8.size
  rw [Hs4.out]
  replace own := own.below h_w8 (Nat.le_refl _)
  go_wp2_with (at_builtin; refine wpl_appF Value.string ByteArray.empty _ one_str rfl (.tmp 19) (.tmp 24) 58 rfl (w1.heap.size) 9 i0 _ 16 Tryd.underlying58 hi hz0 hz1 hz2 rfl _ [s0, s1, s3] rfl (own.alloc_ _) _ _ _ 1 [s4] rfl rfl (rdF_one _ _ _ _ _) (by simp) (by omega) (by simp; omega) ?_)
  intro v_w9 w9 o_w9 g_w9 at_w9
  have B_w9 : Below w.heap.size w w9 := grown_belowF (B_w8.alloc B_w8.size _) (own.alloc_ _) g_w9 (by omega) (by simp; omega)
  replace x_a := (x_a.alloc _).grow g_w9 (fun e => by have := (own.lt _ e.symm).1; omega)
  have lt_l := x_l.lt
  replace x_l := (x_l.alloc _).grow g_w9 (fun e => hne _ e.symm rfl)
  replace hne : ∀ j, v_w9.ownBlock = some j → j ≠ B := by
    intro j hj
    rcases at_w9 with e | e
    · rw [e] at hj; exact hne j hj
    · rw [e] at hj; have : w8.heap.size + 1 = j := by simpa using hj
      omega
  replace own : OwnF Value.string w9 (w1.heap.size) 9 v_w9 [s0, s1, s3, s4] := o_w9
  have s_w9 := B_w9.size
  have sz_w9 : w8.heap.size ≤ w9.heap.size := by have := g_w9.size; simp at this; omega
  clear o_w9 g_w9 at_w9
  go_wp2_with fail
  rw [rounds_succ]
  have c_a_0_w9 := x_a.cell (i := 0) rfl
  have c_a_1_w9 := x_a.cell (i := 1) rfl
  have c_a_2_w9 := x_a.cell (i := 2) rfl
  have c_a_3_w9 := x_a.cell (i := 3) rfl
  have c_a_4_w9 := x_a.cell (i := 4) rfl
  have c_a_5_w9 := x_a.cell (i := 5) rfl
  have c_a_6_w9 := x_a.cell (i := 6) rfl
  have c_a_7_w9 := x_a.cell (i := 7) rfl
  have c_a_8_w9 := x_a.cell (i := 8) rfl
  obtain ⟨A, c, rfl, hc1, hc2, hr⟩ := own.form (d := ByteArray.empty)
  obtain ⟨g, off, rfl, hg, hcell⟩ := hr (by simp)
  have hcs : ∀ (j : Nat) x, [s0, s1, s3, s4][j]? = some x → w9.cell? ⟨g, off + j, none⟩ = some (.string x) := by
    intro j x hj
    have hlt : j < [s0, s1, s3, s4].length := by rcases Nat.lt_or_ge j [s0, s1, s3, s4].length with h | h; exact h; rw [List.getElem?_eq_none h] at hj; cases hj
    have := hcell j hlt
    rw [List.getD_eq_getElem?_getD, hj] at this
    exact this
  have hlen : (Lib.join ([s0, s1, s3, s4].map (·.data.toList)) (⟨#[32]⟩ : ByteArray).data.toList).length ≤ 140737488355328 := by rw [join_len, HR.out]; omega
  clear hr hcell own
  go_wp2_with fail
  refine (Tryd.strings_Join g off c [s0, s1, s3, s4] ⟨#[32]⟩ _ hcs hg (by simp) hc1 hlen).mono ?_
  rintro e w10 ⟨rfl, h_w10⟩
  clear c_a_0_w9 c_a_1_w9 c_a_2_w9 c_a_3_w9 c_a_4_w9 c_a_5_w9 c_a_6_w9 c_a_7_w9 c_a_8_w9
  replace x_a := x_a.from_ h_w10
  have B_w10 := B_w9.trans (h_w10.mono B_w9.size)
  have s_w10 := h_w10.size
  rw [join_eq, HR.out]
  go_wp2
  go_ret
  exact ⟨ret_eq (by rw [HP.out]; rfl), B_w10⟩
set_option maxRecDepth 100000 in
set_option maxHeartbeats 4000000 in
theorem rtext_4 {w : World} (ht : Tab10 w) (a o t m k1 k2 k3 k4 : Int) (ho : recOkB ⟨4, a, o, t, m, ⟨k1, k2, k3, k4⟩⟩ = true) : Calls Tryd.prog 10 #[.agg #[.int .i64 4, .int .i64 a, .int .i64 o, .int .i64 t, .int .i64 m, .int .i64 k1, .int .i64 k2, .int .i64 k3, .int .i64 k4]] w fun e w' => e = .returned (.string (recText ⟨4, a, o, t, m, ⟨k1, k2, k3, k4⟩⟩)) ∧ Below w.heap.size w w' := by
  have hp := recOk_parts ho
  obtain ⟨-, q1, q2, q3, q4, q5, -⟩ := hp
  simp only at q1 q2 q3 q4
  have hsz := recText_size (⟨4, a, o, t, m, ⟨k1, k2, k3, k4⟩⟩ : MRec)
  have HP0 : recText ⟨4, a, o, t, m, ⟨k1, k2, k3, k4⟩⟩ = joinSp (rkName 4) [numText a, numText o, numText t, numText m] := by
    unfold recText; rw [if_pos ho]; simp [recWords, recFields, kAcct, kOther, kTo, kAmt]
  clear q5
  obtain ⟨s0, hs0⟩ : ∃ z, rkName 4 = z := ⟨_, rfl⟩
  obtain ⟨s1, hs1⟩ : ∃ z, numText a = z := ⟨_, rfl⟩
  obtain ⟨s2, hs2⟩ : ∃ z, numText o = z := ⟨_, rfl⟩
  obtain ⟨s3, hs3⟩ : ∃ z, numText t = z := ⟨_, rfl⟩
  obtain ⟨s4, hs4⟩ : ∃ z, numText m = z := ⟨_, rfl⟩
  rw [hs0, hs1, hs2, hs3, hs4] at HP0
  obtain ⟨R, hR⟩ : ∃ z, joinSp s0 [s1, s2, s3, s4] = z := ⟨_, rfl⟩
  rw [hR] at HP0
  rw [HP0] at hsz
  have HP := Lib.hid HP0
  have HR := Lib.hid hR
  have Hs0 := Lib.hid hs0
  have Hs1 := Lib.hid hs1
  have Hs2 := Lib.hid hs2
  have Hs3 := Lib.hid hs3
  have Hs4 := Lib.hid hs4
  have HO := Lib.hid ho
  clear ho HP0 hR hs0 hs1 hs2 hs3 hs4
  obtain ⟨i0, hi, hz0, hz1, hz2⟩ := info_parts Tryd.info_str
  obtain ⟨wa, hwa, B0, sa, x_a⟩ := frame1 w 26 [.int .i64 4, .int .i64 a, .int .i64 o, .int .i64 t, .int .i64 m, .int .i64 k1, .int .i64 k2, .int .i64 k3, .int .i64 k4]
  have sa_1 := Nat.le_of_eq sa
  have sa_2 := Nat.le_of_eq sa.symm
  clear sa
  have c_a_0_wa := x_a.cell (i := 0) rfl
  have c_a_1_wa := x_a.cell (i := 1) rfl
  have c_a_2_wa := x_a.cell (i := 2) rfl
  have c_a_3_wa := x_a.cell (i := 3) rfl
  have c_a_4_wa := x_a.cell (i := 4) rfl
  have c_a_5_wa := x_a.cell (i := 5) rfl
  have c_a_6_wa := x_a.cell (i := 6) rfl
  have c_a_7_wa := x_a.cell (i := 7) rfl
  have c_a_8_wa := x_a.cell (i := 8) rfl
  have rv : RV recL wa (.agg #[.int .i64 4, .int .i64 a, .int .i64 o, .int .i64 t, .int .i64 m, .int .i64 k1, .int .i64 k2, .int .i64 k3, .int .i64 k4]) ⟨4, a, o, t, m, ⟨k1, k2, k3, k4⟩⟩ := rv_rec_mk (zM := ⟨k1, k2, k3, k4⟩)
  go_enter Tryd.func10, Tryd.ntmps10
  go_wp2_with fail
  refine (iRecOk_c rv).mono ?_
  rintro e w1 ⟨rfl, h_w1⟩
  clear c_a_0_wa c_a_1_wa c_a_2_wa c_a_3_wa c_a_4_wa c_a_5_wa c_a_6_wa c_a_7_wa c_a_8_wa
  replace x_a := x_a.from_ h_w1
  have B_w1 := B0.trans (h_w1.mono B0.size)
  have s_w1 := h_w1.size
  rw [HO.out]
  clear rv
  have c_a_0_w1 := x_a.cell (i := 0) rfl
  have c_a_1_w1 := x_a.cell (i := 1) rfl
  have c_a_2_w1 := x_a.cell (i := 2) rfl
  have c_a_3_w1 := x_a.cell (i := 3) rfl
  have c_a_4_w1 := x_a.cell (i := 4) rfl
  have c_a_5_w1 := x_a.cell (i := 5) rfl
  have c_a_6_w1 := x_a.cell (i := 6) rfl
  have c_a_7_w1 := x_a.cell (i := 7) rfl
  have c_a_8_w1 := x_a.cell (i := 8) rfl
  go_wp2_with fail
  refine (iRkName_w _ _).mono ?_
  rintro e w' ⟨rfl, rfl⟩
  rw [Hs0.out]
  obtain ⟨w2, e_w2, s_w2, h_w2, x_s⟩ := alloc_step w1 9 [.string s0]
  have s_w2_1 := Nat.le_of_eq s_w2
  have s_w2_2 := Nat.le_of_eq s_w2.symm
  clear s_w2
  replace x_a := x_a.from_ h_w2
  have B_w2 := B_w1.trans (h_w2.mono B_w1.size)
  have own := own_vr (base := w1.heap.size) (xs := [s0]) x_s (Nat.le_refl _) (by simp)
  have c_a_0_w2 := x_a.cell (i := 0) rfl
  have f_a_0_w2 := x_a.frozen 0
  have c_a_1_w2 := x_a.cell (i := 1) rfl
  have f_a_1_w2 := x_a.frozen 1
  have c_a_2_w2 := x_a.cell (i := 2) rfl
  have f_a_2_w2 := x_a.frozen 2
  have c_a_3_w2 := x_a.cell (i := 3) rfl
  have f_a_3_w2 := x_a.frozen 3
  have c_a_4_w2 := x_a.cell (i := 4) rfl
  have f_a_4_w2 := x_a.frozen 4
  have c_a_5_w2 := x_a.cell (i := 5) rfl
  have f_a_5_w2 := x_a.frozen 5
  have c_a_6_w2 := x_a.cell (i := 6) rfl
  have f_a_6_w2 := x_a.frozen 6
  have c_a_7_w2 := x_a.cell (i := 7) rfl
  have f_a_7_w2 := x_a.frozen 7
  have c_a_8_w2 := x_a.cell (i := 8) rfl
  have f_a_8_w2 := x_a.frozen 8
  go_wp2_with fail
  refine (iUsed_4 x_a rfl).mono ?_
  rintro e w3 ⟨B, T, rfl, x_l, hB, h_w3⟩
  clear c_a_0_w1 c_a_1_w1 c_a_2_w1 c_a_3_w1 c_a_4_w1 c_a_5_w1 c_a_6_w1 c_a_7_w1 c_a_8_w1 c_a_0_w2 f_a_0_w2 c_a_1_w2 f_a_1_w2 c_a_2_w2 f_a_2_w2 c_a_3_w2 f_a_3_w2 c_a_4_w2 f_a_4_w2 c_a_5_w2 f_a_5_w2 c_a_6_w2 f_a_6_w2 c_a_7_w2 f_a_7_w2 c_a_8_w2 f_a_8_w2
  replace x_a := x_a.from_ h_w3
  have B_w3 := B_w2.trans (h_w3.mono B_w2.size)
  have s_w3 := h_w3.size
  replace own := own.below h_w3 (Nat.le_refl _)
  have hne : ∀ j, (Value.slice (some ⟨w1.heap.size, 0, none⟩) [s0].length [s0].length).ownBlock = some j → j ≠ B := by
    intro j hj
    have : w1.heap.size = j := by simpa [Value.ownBlock] using hj
    omega
  have c_a_0_w3 := x_a.cell (i := 0) rfl
  have c_a_1_w3 := x_a.cell (i := 1) rfl
  have c_a_2_w3 := x_a.cell (i := 2) rfl
  have c_a_3_w3 := x_a.cell (i := 3) rfl
  have c_a_4_w3 := x_a.cell (i := 4) rfl
  have c_a_5_w3 := x_a.cell (i := 5) rfl
  have c_a_6_w3 := x_a.cell (i := 6) rfl
  have c_a_7_w3 := x_a.cell (i := 7) rfl
  have c_a_8_w3 := x_a.cell (i := 8) rfl
  have c_l_0_w3 := x_l.cell (i := 0) rfl
  have c_l_1_w3 := x_l.cell (i := 1) rfl
  have c_l_2_w3 := x_l.cell (i := 2) rfl
  have c_l_3_w3 := x_l.cell (i := 3) rfl
  go_wp2_with fail
  refine wp_loop_rounds 5 ?_
  rw [rounds_succ]
  clear c_a_0_w3 c_a_1_w3 c_a_2_w3 c_a_3_w3 c_a_4_w3 c_a_5_w3 c_a_6_w3 c_a_7_w3 c_a_8_w3 c_l_0_w3 c_l_1_w3 c_l_2_w3 c_l_3_w3
  have c_a_0_w3 := x_a.cell (i := 0) rfl
  have c_a_1_w3 := x_a.cell (i := 1) rfl
  have c_a_2_w3 := x_a.cell (i := 2) rfl
  have c_a_3_w3 := x_a.cell (i := 3) rfl
  have c_a_4_w3 := x_a.cell (i := 4) rfl
  have c_a_5_w3 := x_a.cell (i := 5) rfl
  have c_a_6_w3 := x_a.cell (i := 6) rfl
  have c_a_7_w3 := x_a.cell (i := 7) rfl
  have c_a_8_w3 := x_a.cell (i := 8) rfl
  have c_l_0_w3 := x_l.cell (i := 0) rfl
  have c_l_1_w3 := x_l.cell (i := 1) rfl
  have c_l_2_w3 := x_l.cell (i := 2) rfl
  have c_l_3_w3 := x_l.cell (i := 3) rfl
  go_wp2_with fail
  refine (iNumText_any _ _ (ht.below B_w3) (by omega) (by omega)).mono ?_
  rintro e w4 ⟨rfl, h_w4⟩
  clear c_a_0_w3 c_a_1_w3 c_a_2_w3 c_a_3_w3 c_a_4_w3 c_a_5_w3 c_a_6_w3 c_a_7_w3 c_a_8_w3 c_l_0_w3 c_l_1_w3 c_l_2_w3 c_l_3_w3
  replace x_a := x_a.from_ h_w4
  replace x_l := x_l.from_ h_w4
  have B_w4 := B_w3.trans (h_w4.mono B_w3.size)
  have s_w4 := h_w4.size
  rw [Hs1.out]
  replace own := own.below h_w4 (Nat.le_refl _)
  go_wp2_with (at_builtin; refine wpl_appF Value.string ByteArray.empty _ one_str rfl (.tmp 19) (.tmp 24) 58 rfl (w1.heap.size) 9 i0 _ 16 Tryd.underlying58 hi hz0 hz1 hz2 rfl _ [s0] rfl (own.alloc_ _) _ _ _ 1 [s1] rfl rfl (rdF_one _ _ _ _ _) (by simp) (by omega) (by simp; omega) ?_)
  intro v_w5 w5 o_w5 g_w5 at_w5
  have B_w5 : Below w.heap.size w w5 := grown_belowF (B_w4.alloc B_w4.size _) (own.alloc_ _) g_w5 (by omega) (by simp; omega)
  replace x_a := (x_a.alloc _).grow g_w5 (fun e => by have := (own.lt _ e.symm).1; omega)
  have lt_l := x_l.lt
  replace x_l := (x_l.alloc _).grow g_w5 (fun e => hne _ e.symm rfl)
  replace hne : ∀ j, v_w5.ownBlock = some j → j ≠ B := by
    intro j hj
    rcases at_w5 with e | e
    · rw [e] at hj; exact hne j hj
    · rw [e] at hj; have : w4.heap.size + 1 = j := by simpa using hj
      omega
  replace own : OwnF Value.string w5 (w1.heap.size) 9 v_w5 [s0, s1] := o_w5
  have s_w5 := B_w5.size
  have sz_w5 : w4.heap.size ≤ w5.heap.size := by have := g_w5.size; simp at this; omega
  clear o_w5 g_w5 at_w5
  go_wp2_with fail
  rw [rounds_succ]
  have c_a_0_w5 := x_a.cell (i := 0) rfl
  have c_a_1_w5 := x_a.cell (i := 1) rfl
  have c_a_2_w5 := x_a.cell (i := 2) rfl
  have c_a_3_w5 := x_a.cell (i := 3) rfl
  have c_a_4_w5 := x_a.cell (i := 4) rfl
  have c_a_5_w5 := x_a.cell (i := 5) rfl
  have c_a_6_w5 := x_a.cell (i := 6) rfl
  have c_a_7_w5 := x_a.cell (i := 7) rfl
  have c_a_8_w5 := x_a.cell (i := 8) rfl
  have c_l_0_w5 := x_l.cell (i := 0) rfl
  have c_l_1_w5 := x_l.cell (i := 1) rfl
  have c_l_2_w5 := x_l.cell (i := 2) rfl
  have c_l_3_w5 := x_l.cell (i := 3) rfl
  go_wp2_with fail
  refine (iNumText_any _ _ (ht.below B_w5) (by omega) (by omega)).mono ?_
  rintro e w6 ⟨rfl, h_w6⟩
  clear c_a_0_w5 c_a_1_w5 c_a_2_w5 c_a_3_w5 c_a_4_w5 c_a_5_w5 c_a_6_w5 c_a_7_w5 c_a_8_w5 c_l_0_w5 c_l_1_w5 c_l_2_w5 c_l_3_w5
  replace x_a := x_a.from_ h_w6
  replace x_l := x_l.from_ h_w6
  have B_w6 := B_w5.trans (h_w6.mono B_w5.size)
  have s_w6 := h_w6.size
  rw [Hs2.out]
  replace own := own.below h_w6 (Nat.le_refl _)
  go_wp2_with (at_builtin; refine wpl_appF Value.string ByteArray.empty _ one_str rfl (.tmp 19) (.tmp 24) 58 rfl (w1.heap.size) 9 i0 _ 16 Tryd.underlying58 hi hz0 hz1 hz2 rfl _ [s0, s1] rfl (own.alloc_ _) _ _ _ 1 [s2] rfl rfl (rdF_one _ _ _ _ _) (by simp) (by omega) (by simp; omega) ?_)
  intro v_w7 w7 o_w7 g_w7 at_w7
  have B_w7 : Below w.heap.size w w7 := grown_belowF (B_w6.alloc B_w6.size _) (own.alloc_ _) g_w7 (by omega) (by simp; omega)
  replace x_a := (x_a.alloc _).grow g_w7 (fun e => by have := (own.lt _ e.symm).1; omega)
  have lt_l := x_l.lt
  replace x_l := (x_l.alloc _).grow g_w7 (fun e => hne _ e.symm rfl)
  replace hne : ∀ j, v_w7.ownBlock = some j → j ≠ B := by
    intro j hj
    rcases at_w7 with e | e
    · rw [e] at hj; exact hne j hj
    · rw [e] at hj; have : w6.heap.size + 1 = j := by simpa using hj
      omega
  replace own : OwnF Value.string w7 (w1.heap.size) 9 v_w7 [s0, s1, s2] := o_w7
  have s_w7 := B_w7.size
  have sz_w7 : w6.heap.size ≤ w7.heap.size := by have := g_w7.size; simp at this; omega
  clear o_w7 g_w7 at_w7
  go_wp2_with fail
  rw [rounds_succ]
  have c_a_0_w7 := x_a.cell (i := 0) rfl
  have c_a_1_w7 := x_a.cell (i := 1) rfl
  have c_a_2_w7 := x_a.cell (i := 2) rfl
  have c_a_3_w7 := x_a.cell (i := 3) rfl
  have c_a_4_w7 := x_a.cell (i := 4) rfl
  have c_a_5_w7 := x_a.cell (i := 5) rfl
  have c_a_6_w7 := x_a.cell (i := 6) rfl
  have c_a_7_w7 := x_a.cell (i := 7) rfl
  have c_a_8_w7 := x_a.cell (i := 8) rfl
  have c_l_0_w7 := x_l.cell (i := 0) rfl
  have c_l_1_w7 := x_l.cell (i := 1) rfl
  have c_l_2_w7 := x_l.cell (i := 2) rfl
  have c_l_3_w7 := x_l.cell (i := 3) rfl
  go_wp2_with fail
  refine (iNumText_any _ _ (ht.below B_w7) (by omega) (by omega)).mono ?_
  rintro e w8 ⟨rfl, h_w8⟩
  clear c_a_0_w7 c_a_1_w7 c_a_2_w7 c_a_3_w7 c_a_4_w7 c_a_5_w7 c_a_6_w7 c_a_7_w7 c_a_8_w7 c_l_0_w7 c_l_1_w7 c_l_2_w7 c_l_3_w7
  replace x_a := x_a.from_ h_w8
  replace x_l := x_l.from_ h_w8
  have B_w8 := B_w7.trans (h_w8.mono B_w7.size)
  have s_w8 := h_w8.size
  rw [Hs3.out]
  replace own := own.below h_w8 (Nat.le_refl _)
  go_wp2_with (at_builtin; refine wpl_appF Value.string ByteArray.empty _ one_str rfl (.tmp 19) (.tmp 24) 58 rfl (w1.heap.size) 9 i0 _ 16 Tryd.underlying58 hi hz0 hz1 hz2 rfl _ [s0, s1, s2] rfl (own.alloc_ _) _ _ _ 1 [s3] rfl rfl (rdF_one _ _ _ _ _) (by simp) (by omega) (by simp; omega) ?_)
  intro v_w9 w9 o_w9 g_w9 at_w9
  have B_w9 : Below w.heap.size w w9 := grown_belowF (B_w8.alloc B_w8.size _) (own.alloc_ _) g_w9 (by omega) (by simp; omega)
  replace x_a := (x_a.alloc _).grow g_w9 (fun e => by have := (own.lt _ e.symm).1; omega)
  have lt_l := x_l.lt
  replace x_l := (x_l.alloc _).grow g_w9 (fun e => hne _ e.symm rfl)
  replace hne : ∀ j, v_w9.ownBlock = some j → j ≠ B := by
    intro j hj
    rcases at_w9 with e | e
    · rw [e] at hj; exact hne j hj
    · rw [e] at hj; have : w8.heap.size + 1 = j := by simpa using hj
      omega
  replace own : OwnF Value.string w9 (w1.heap.size) 9 v_w9 [s0, s1, s2, s3] := o_w9
  have s_w9 := B_w9.size
  have sz_w9 : w8.heap.size ≤ w9.heap.size := by have := g_w9.size; simp at this; omega
  clear o_w9 g_w9 at_w9
  go_wp2_with fail
  rw [rounds_succ]
  have c_a_0_w9 := x_a.cell (i := 0) rfl
  have c_a_1_w9 := x_a.cell (i := 1) rfl
  have c_a_2_w9 := x_a.cell (i := 2) rfl
  have c_a_3_w9 := x_a.cell (i := 3) rfl
  have c_a_4_w9 := x_a.cell (i := 4) rfl
  have c_a_5_w9 := x_a.cell (i := 5) rfl
  have c_a_6_w9 := x_a.cell (i := 6) rfl
  have c_a_7_w9 := x_a.cell (i := 7) rfl
  have c_a_8_w9 := x_a.cell (i := 8) rfl
  have c_l_0_w9 := x_l.cell (i := 0) rfl
  have c_l_1_w9 := x_l.cell (i := 1) rfl
  have c_l_2_w9 := x_l.cell (i := 2) rfl
  have c_l_3_w9 := x_l.cell (i := 3) rfl
  go_wp2_with fail
  refine (iNumText_any _ _ (ht.below B_w9) (by omega) (by omega)).mono ?_
  rintro e w10 ⟨rfl, h_w10⟩
  clear c_a_0_w9 c_a_1_w9 c_a_2_w9 c_a_3_w9 c_a_4_w9 c_a_5_w9 c_a_6_w9 c_a_7_w9 c_a_8_w9 c_l_0_w9 c_l_1_w9 c_l_2_w9 c_l_3_w9
  replace x_a := x_a.from_ h_w10
  replace x_l := x_l.from_ h_w10
  have B_w10 := B_w9.trans (h_w10.mono B_w9.size)
  have s_w10 := h_w10.size
  rw [Hs4.out]
  replace own := own.below h_w10 (Nat.le_refl _)
  go_wp2_with (at_builtin; refine wpl_appF Value.string ByteArray.empty _ one_str rfl (.tmp 19) (.tmp 24) 58 rfl (w1.heap.size) 9 i0 _ 16 Tryd.underlying58 hi hz0 hz1 hz2 rfl _ [s0, s1, s2, s3] rfl (own.alloc_ _) _ _ _ 1 [s4] rfl rfl (rdF_one _ _ _ _ _) (by simp) (by omega) (by simp; omega) ?_)
  intro v_w11 w11 o_w11 g_w11 at_w11
  have B_w11 : Below w.heap.size w w11 := grown_belowF (B_w10.alloc B_w10.size _) (own.alloc_ _) g_w11 (by omega) (by simp; omega)
  replace x_a := (x_a.alloc _).grow g_w11 (fun e => by have := (own.lt _ e.symm).1; omega)
  have lt_l := x_l.lt
  replace x_l := (x_l.alloc _).grow g_w11 (fun e => hne _ e.symm rfl)
  replace hne : ∀ j, v_w11.ownBlock = some j → j ≠ B := by
    intro j hj
    rcases at_w11 with e | e
    · rw [e] at hj; exact hne j hj
    · rw [e] at hj; have : w10.heap.size + 1 = j := by simpa using hj
      omega
  replace own : OwnF Value.string w11 (w1.heap.size) 9 v_w11 [s0, s1, s2, s3, s4] := o_w11
  have s_w11 := B_w11.size
  have sz_w11 : w10.heap.size ≤ w11.heap.size := by have := g_w11.size; simp at this; omega
  clear o_w11 g_w11 at_w11
  go_wp2_with fail
  rw [rounds_succ]
  have c_a_0_w11 := x_a.cell (i := 0) rfl
  have c_a_1_w11 := x_a.cell (i := 1) rfl
  have c_a_2_w11 := x_a.cell (i := 2) rfl
  have c_a_3_w11 := x_a.cell (i := 3) rfl
  have c_a_4_w11 := x_a.cell (i := 4) rfl
  have c_a_5_w11 := x_a.cell (i := 5) rfl
  have c_a_6_w11 := x_a.cell (i := 6) rfl
  have c_a_7_w11 := x_a.cell (i := 7) rfl
  have c_a_8_w11 := x_a.cell (i := 8) rfl
  obtain ⟨A, c, rfl, hc1, hc2, hr⟩ := own.form (d := ByteArray.empty)
  obtain ⟨g, off, rfl, hg, hcell⟩ := hr (by simp)
  have hcs : ∀ (j : Nat) x, [s0, s1, s2, s3, s4][j]? = some x → w11.cell? ⟨g, off + j, none⟩ = some (.string x) := by
    intro j x hj
    have hlt : j < [s0, s1, s2, s3, s4].length := by rcases Nat.lt_or_ge j [s0, s1, s2, s3, s4].length with h | h; exact h; rw [List.getElem?_eq_none h] at hj; cases hj
    have := hcell j hlt
    rw [List.getD_eq_getElem?_getD, hj] at this
    exact this
  have hlen : (Lib.join ([s0, s1, s2, s3, s4].map (·.data.toList)) (⟨#[32]⟩ : ByteArray).data.toList).length ≤ 140737488355328 := by rw [join_len, HR.out]; omega
  clear hr hcell own
  go_wp2_with fail
  refine (Tryd.strings_Join g off c [s0, s1, s2, s3, s4] ⟨#[32]⟩ _ hcs hg (by simp) hc1 hlen).mono ?_
  rintro e w12 ⟨rfl, h_w12⟩
  clear c_a_0_w11 c_a_1_w11 c_a_2_w11 c_a_3_w11 c_a_4_w11 c_a_5_w11 c_a_6_w11 c_a_7_w11 c_a_8_w11
  replace x_a := x_a.from_ h_w12
  have B_w12 := B_w11.trans (h_w12.mono B_w11.size)
  have s_w12 := h_w12.size
  rw [join_eq, HR.out]
  go_wp2
  go_ret
  exact ⟨ret_eq (by rw [HP.out]; rfl), B_w12⟩
set_option maxRecDepth 100000 in
set_option maxHeartbeats 4000000 in
theorem rtext_5 {w : World} (ht : Tab10 w) (a o t m k1 k2 k3 k4 : Int) (ho : recOkB ⟨5, a, o, t, m, ⟨k1, k2, k3, k4⟩⟩ = true) : Calls Tryd.prog 10 #[.agg #[.int .i64 5, .int .i64 a, .int .i64 o, .int .i64 t, .int .i64 m, .int .i64 k1, .int .i64 k2, .int .i64 k3, .int .i64 k4]] w fun e w' => e = .returned (.string (recText ⟨5, a, o, t, m, ⟨k1, k2, k3, k4⟩⟩)) ∧ Below w.heap.size w w' := by
  have hp := recOk_parts ho
  obtain ⟨-, q1, q2, q3, q4, q5, -⟩ := hp
  simp only at q1 q2 q3 q4
  have hsz := recText_size (⟨5, a, o, t, m, ⟨k1, k2, k3, k4⟩⟩ : MRec)
  have hM := q5 rfl
  have HP0 : recText ⟨5, a, o, t, m, ⟨k1, k2, k3, k4⟩⟩ = joinSp (rkName 5) [numText t, numText m, msgText ⟨k1, k2, k3, k4⟩] := by
    unfold recText; rw [if_pos ho, msgText_join hM]
    refine Eq.trans ?_ (joinSp_flat (rkName 5) (msgName k1) [numText t, numText m] (msgWords ⟨k1, k2, k3, k4⟩)).symm
    simp [recWords, recFields, kAcct, kOther, kTo, kAmt]
  clear q5
  obtain ⟨s0, hs0⟩ : ∃ z, rkName 5 = z := ⟨_, rfl⟩
  obtain ⟨s3, hs3⟩ : ∃ z, numText t = z := ⟨_, rfl⟩
  obtain ⟨s4, hs4⟩ : ∃ z, numText m = z := ⟨_, rfl⟩
  obtain ⟨sm, hsm⟩ : ∃ z, msgText ⟨k1, k2, k3, k4⟩ = z := ⟨_, rfl⟩
  rw [hs0, hs3, hs4, hsm] at HP0
  obtain ⟨R, hR⟩ : ∃ z, joinSp s0 [s3, s4, sm] = z := ⟨_, rfl⟩
  rw [hR] at HP0
  rw [HP0] at hsz
  have HP := Lib.hid HP0
  have HR := Lib.hid hR
  have Hs0 := Lib.hid hs0
  have Hs3 := Lib.hid hs3
  have Hs4 := Lib.hid hs4
  have Hsm := Lib.hid hsm
  have HO := Lib.hid ho
  clear ho HP0 hR hs0 hs3 hs4 hsm
  obtain ⟨i0, hi, hz0, hz1, hz2⟩ := info_parts Tryd.info_str
  obtain ⟨wa, hwa, B0, sa, x_a⟩ := frame1 w 26 [.int .i64 5, .int .i64 a, .int .i64 o, .int .i64 t, .int .i64 m, .int .i64 k1, .int .i64 k2, .int .i64 k3, .int .i64 k4]
  have sa_1 := Nat.le_of_eq sa
  have sa_2 := Nat.le_of_eq sa.symm
  clear sa
  have c_a_0_wa := x_a.cell (i := 0) rfl
  have c_a_1_wa := x_a.cell (i := 1) rfl
  have c_a_2_wa := x_a.cell (i := 2) rfl
  have c_a_3_wa := x_a.cell (i := 3) rfl
  have c_a_4_wa := x_a.cell (i := 4) rfl
  have c_a_5_wa := x_a.cell (i := 5) rfl
  have c_a_6_wa := x_a.cell (i := 6) rfl
  have c_a_7_wa := x_a.cell (i := 7) rfl
  have c_a_8_wa := x_a.cell (i := 8) rfl
  have rv : RV recL wa (.agg #[.int .i64 5, .int .i64 a, .int .i64 o, .int .i64 t, .int .i64 m, .int .i64 k1, .int .i64 k2, .int .i64 k3, .int .i64 k4]) ⟨5, a, o, t, m, ⟨k1, k2, k3, k4⟩⟩ := rv_rec_mk (zM := ⟨k1, k2, k3, k4⟩)
  go_enter Tryd.func10, Tryd.ntmps10
  go_wp2_with fail
  refine (iRecOk_c rv).mono ?_
  rintro e w1 ⟨rfl, h_w1⟩
  clear c_a_0_wa c_a_1_wa c_a_2_wa c_a_3_wa c_a_4_wa c_a_5_wa c_a_6_wa c_a_7_wa c_a_8_wa
  replace x_a := x_a.from_ h_w1
  have B_w1 := B0.trans (h_w1.mono B0.size)
  have s_w1 := h_w1.size
  rw [HO.out]
  clear rv
  have c_a_0_w1 := x_a.cell (i := 0) rfl
  have c_a_1_w1 := x_a.cell (i := 1) rfl
  have c_a_2_w1 := x_a.cell (i := 2) rfl
  have c_a_3_w1 := x_a.cell (i := 3) rfl
  have c_a_4_w1 := x_a.cell (i := 4) rfl
  have c_a_5_w1 := x_a.cell (i := 5) rfl
  have c_a_6_w1 := x_a.cell (i := 6) rfl
  have c_a_7_w1 := x_a.cell (i := 7) rfl
  have c_a_8_w1 := x_a.cell (i := 8) rfl
  go_wp2_with fail
  refine (iRkName_w _ _).mono ?_
  rintro e w' ⟨rfl, rfl⟩
  rw [Hs0.out]
  obtain ⟨w2, e_w2, s_w2, h_w2, x_s⟩ := alloc_step w1 9 [.string s0]
  have s_w2_1 := Nat.le_of_eq s_w2
  have s_w2_2 := Nat.le_of_eq s_w2.symm
  clear s_w2
  replace x_a := x_a.from_ h_w2
  have B_w2 := B_w1.trans (h_w2.mono B_w1.size)
  have own := own_vr (base := w1.heap.size) (xs := [s0]) x_s (Nat.le_refl _) (by simp)
  have c_a_0_w2 := x_a.cell (i := 0) rfl
  have f_a_0_w2 := x_a.frozen 0
  have c_a_1_w2 := x_a.cell (i := 1) rfl
  have f_a_1_w2 := x_a.frozen 1
  have c_a_2_w2 := x_a.cell (i := 2) rfl
  have f_a_2_w2 := x_a.frozen 2
  have c_a_3_w2 := x_a.cell (i := 3) rfl
  have f_a_3_w2 := x_a.frozen 3
  have c_a_4_w2 := x_a.cell (i := 4) rfl
  have f_a_4_w2 := x_a.frozen 4
  have c_a_5_w2 := x_a.cell (i := 5) rfl
  have f_a_5_w2 := x_a.frozen 5
  have c_a_6_w2 := x_a.cell (i := 6) rfl
  have f_a_6_w2 := x_a.frozen 6
  have c_a_7_w2 := x_a.cell (i := 7) rfl
  have f_a_7_w2 := x_a.frozen 7
  have c_a_8_w2 := x_a.cell (i := 8) rfl
  have f_a_8_w2 := x_a.frozen 8
  go_wp2_with fail
  refine (iUsed_5 x_a rfl).mono ?_
  rintro e w3 ⟨B, T, rfl, x_l, hB, h_w3⟩
  clear c_a_0_w1 c_a_1_w1 c_a_2_w1 c_a_3_w1 c_a_4_w1 c_a_5_w1 c_a_6_w1 c_a_7_w1 c_a_8_w1 c_a_0_w2 f_a_0_w2 c_a_1_w2 f_a_1_w2 c_a_2_w2 f_a_2_w2 c_a_3_w2 f_a_3_w2 c_a_4_w2 f_a_4_w2 c_a_5_w2 f_a_5_w2 c_a_6_w2 f_a_6_w2 c_a_7_w2 f_a_7_w2 c_a_8_w2 f_a_8_w2
  replace x_a := x_a.from_ h_w3
  have B_w3 := B_w2.trans (h_w3.mono B_w2.size)
  have s_w3 := h_w3.size
  replace own := own.below h_w3 (Nat.le_refl _)
  have hne : ∀ j, (Value.slice (some ⟨w1.heap.size, 0, none⟩) [s0].length [s0].length).ownBlock = some j → j ≠ B := by
    intro j hj
    have : w1.heap.size = j := by simpa [Value.ownBlock] using hj
    omega
  have c_a_0_w3 := x_a.cell (i := 0) rfl
  have c_a_1_w3 := x_a.cell (i := 1) rfl
  have c_a_2_w3 := x_a.cell (i := 2) rfl
  have c_a_3_w3 := x_a.cell (i := 3) rfl
  have c_a_4_w3 := x_a.cell (i := 4) rfl
  have c_a_5_w3 := x_a.cell (i := 5) rfl
  have c_a_6_w3 := x_a.cell (i := 6) rfl
  have c_a_7_w3 := x_a.cell (i := 7) rfl
  have c_a_8_w3 := x_a.cell (i := 8) rfl
  have c_l_0_w3 := x_l.cell (i := 0) rfl
  have c_l_1_w3 := x_l.cell (i := 1) rfl
  go_wp2_with fail
  refine wp_loop_rounds 3 ?_
  rw [rounds_succ]
  clear c_a_0_w3 c_a_1_w3 c_a_2_w3 c_a_3_w3 c_a_4_w3 c_a_5_w3 c_a_6_w3 c_a_7_w3 c_a_8_w3 c_l_0_w3 c_l_1_w3
  have c_a_0_w3 := x_a.cell (i := 0) rfl
  have c_a_1_w3 := x_a.cell (i := 1) rfl
  have c_a_2_w3 := x_a.cell (i := 2) rfl
  have c_a_3_w3 := x_a.cell (i := 3) rfl
  have c_a_4_w3 := x_a.cell (i := 4) rfl
  have c_a_5_w3 := x_a.cell (i := 5) rfl
  have c_a_6_w3 := x_a.cell (i := 6) rfl
  have c_a_7_w3 := x_a.cell (i := 7) rfl
  have c_a_8_w3 := x_a.cell (i := 8) rfl
  have c_l_0_w3 := x_l.cell (i := 0) rfl
  have c_l_1_w3 := x_l.cell (i := 1) rfl
  go_wp2_with fail
  refine (iNumText_any _ _ (ht.below B_w3) (by omega) (by omega)).mono ?_
  rintro e w4 ⟨rfl, h_w4⟩
  clear c_a_0_w3 c_a_1_w3 c_a_2_w3 c_a_3_w3 c_a_4_w3 c_a_5_w3 c_a_6_w3 c_a_7_w3 c_a_8_w3 c_l_0_w3 c_l_1_w3
  replace x_a := x_a.from_ h_w4
  replace x_l := x_l.from_ h_w4
  have B_w4 := B_w3.trans (h_w4.mono B_w3.size)
  have s_w4 := h_w4.size
  rw [Hs3.out]
  replace own := own.below h_w4 (Nat.le_refl _)
  go_wp2_with (at_builtin; refine wpl_appF Value.string ByteArray.empty _ one_str rfl (.tmp 19) (.tmp 24) 58 rfl (w1.heap.size) 9 i0 _ 16 Tryd.underlying58 hi hz0 hz1 hz2 rfl _ [s0] rfl (own.alloc_ _) _ _ _ 1 [s3] rfl rfl (rdF_one _ _ _ _ _) (by simp) (by omega) (by simp; omega) ?_)
  intro v_w5 w5 o_w5 g_w5 at_w5
  have B_w5 : Below w.heap.size w w5 := grown_belowF (B_w4.alloc B_w4.size _) (own.alloc_ _) g_w5 (by omega) (by simp; omega)
  replace x_a := (x_a.alloc _).grow g_w5 (fun e => by have := (own.lt _ e.symm).1; omega)
  have lt_l := x_l.lt
  replace x_l := (x_l.alloc _).grow g_w5 (fun e => hne _ e.symm rfl)
  replace hne : ∀ j, v_w5.ownBlock = some j → j ≠ B := by
    intro j hj
    rcases at_w5 with e | e
    · rw [e] at hj; exact hne j hj
    · rw [e] at hj; have : w4.heap.size + 1 = j := by simpa using hj
      omega
  replace own : OwnF Value.string w5 (w1.heap.size) 9 v_w5 [s0, s3] := o_w5
  have s_w5 := B_w5.size
  have sz_w5 : w4.heap.size ≤ w5.heap.size := by have := g_w5.size; simp at this; omega
  clear o_w5 g_w5 at_w5
  go_wp2_with fail
  rw [rounds_succ]
  have c_a_0_w5 := x_a.cell (i := 0) rfl
  have c_a_1_w5 := x_a.cell (i := 1) rfl
  have c_a_2_w5 := x_a.cell (i := 2) rfl
  have c_a_3_w5 := x_a.cell (i := 3) rfl
  have c_a_4_w5 := x_a.cell (i := 4) rfl
  have c_a_5_w5 := x_a.cell (i := 5) rfl
  have c_a_6_w5 := x_a.cell (i := 6) rfl
  have c_a_7_w5 := x_a.cell (i := 7) rfl
  have c_a_8_w5 := x_a.cell (i := 8) rfl
  have c_l_0_w5 := x_l.cell (i := 0) rfl
  have c_l_1_w5 := x_l.cell (i := 1) rfl
  go_wp2_with fail
  refine (iNumText_any _ _ (ht.below B_w5) (by omega) (by omega)).mono ?_
  rintro e w6 ⟨rfl, h_w6⟩
  clear c_a_0_w5 c_a_1_w5 c_a_2_w5 c_a_3_w5 c_a_4_w5 c_a_5_w5 c_a_6_w5 c_a_7_w5 c_a_8_w5 c_l_0_w5 c_l_1_w5
  replace x_a := x_a.from_ h_w6
  replace x_l := x_l.from_ h_w6
  have B_w6 := B_w5.trans (h_w6.mono B_w5.size)
  have s_w6 := h_w6.size
  rw [Hs4.out]
  replace own := own.below h_w6 (Nat.le_refl _)
  go_wp2_with (at_builtin; refine wpl_appF Value.string ByteArray.empty _ one_str rfl (.tmp 19) (.tmp 24) 58 rfl (w1.heap.size) 9 i0 _ 16 Tryd.underlying58 hi hz0 hz1 hz2 rfl _ [s0, s3] rfl (own.alloc_ _) _ _ _ 1 [s4] rfl rfl (rdF_one _ _ _ _ _) (by simp) (by omega) (by simp; omega) ?_)
  intro v_w7 w7 o_w7 g_w7 at_w7
  have B_w7 : Below w.heap.size w w7 := grown_belowF (B_w6.alloc B_w6.size _) (own.alloc_ _) g_w7 (by omega) (by simp; omega)
  replace x_a := (x_a.alloc _).grow g_w7 (fun e => by have := (own.lt _ e.symm).1; omega)
  have lt_l := x_l.lt
  replace x_l := (x_l.alloc _).grow g_w7 (fun e => hne _ e.symm rfl)
  replace hne : ∀ j, v_w7.ownBlock = some j → j ≠ B := by
    intro j hj
    rcases at_w7 with e | e
    · rw [e] at hj; exact hne j hj
    · rw [e] at hj; have : w6.heap.size + 1 = j := by simpa using hj
      omega
  replace own : OwnF Value.string w7 (w1.heap.size) 9 v_w7 [s0, s3, s4] := o_w7
  have s_w7 := B_w7.size
  have sz_w7 : w6.heap.size ≤ w7.heap.size := by have := g_w7.size; simp at this; omega
  clear o_w7 g_w7 at_w7
  go_wp2_with fail
  rw [rounds_succ]
  have c_a_0_w7 := x_a.cell (i := 0) rfl
  have c_a_1_w7 := x_a.cell (i := 1) rfl
  have c_a_2_w7 := x_a.cell (i := 2) rfl
  have c_a_3_w7 := x_a.cell (i := 3) rfl
  have c_a_4_w7 := x_a.cell (i := 4) rfl
  have c_a_5_w7 := x_a.cell (i := 5) rfl
  have c_a_6_w7 := x_a.cell (i := 6) rfl
  have c_a_7_w7 := x_a.cell (i := 7) rfl
  have c_a_8_w7 := x_a.cell (i := 8) rfl
  go_wp2_with fail
  refine (iMsgText_c (m := ⟨k1, k2, k3, k4⟩) (ht.below B_w7) rv_msg_mk).mono ?_
  rintro e w8 ⟨rfl, h_w8⟩
  clear c_a_0_w7 c_a_1_w7 c_a_2_w7 c_a_3_w7 c_a_4_w7 c_a_5_w7 c_a_6_w7 c_a_7_w7 c_a_8_w7
  replace x_a := x_a.from_ h_w8
  have B_w8 := B_w7.trans (h_w8.mono B_w7.size)
  have s_w8 := h_w8.size
  rw [Hsm.out]
  replace own := own.below h_w8 (Nat.le_refl _)
  go_wp2_with (at_builtin; refine wpl_appF Value.string ByteArray.empty _ one_str rfl (.tmp 30) (.tmp 34) 58 rfl (w1.heap.size) 9 i0 _ 16 Tryd.underlying58 hi hz0 hz1 hz2 rfl _ [s0, s3, s4] rfl (own.alloc_ _) _ _ _ 1 [sm] rfl rfl (rdF_one _ _ _ _ _) (by simp) (by omega) (by simp; omega) ?_)
  intro v_w9 w9 o_w9 g_w9 at_w9
  have B_w9 : Below w.heap.size w w9 := grown_belowF (B_w8.alloc B_w8.size _) (own.alloc_ _) g_w9 (by omega) (by simp; omega)
  replace x_a := (x_a.alloc _).grow g_w9 (fun e => by have := (own.lt _ e.symm).1; omega)
  replace own : OwnF Value.string w9 (w1.heap.size) 9 v_w9 [s0, s3, s4, sm] := o_w9
  have s_w9 := B_w9.size
  have sz_w9 : w8.heap.size ≤ w9.heap.size := by have := g_w9.size; simp at this; omega
  clear o_w9 g_w9 at_w9
  obtain ⟨A, c, rfl, hc1, hc2, hr⟩ := own.form (d := ByteArray.empty)
  obtain ⟨g, off, rfl, hg, hcell⟩ := hr (by simp)
  have hcs : ∀ (j : Nat) x, [s0, s3, s4, sm][j]? = some x → w9.cell? ⟨g, off + j, none⟩ = some (.string x) := by
    intro j x hj
    have hlt : j < [s0, s3, s4, sm].length := by rcases Nat.lt_or_ge j [s0, s3, s4, sm].length with h | h; exact h; rw [List.getElem?_eq_none h] at hj; cases hj
    have := hcell j hlt
    rw [List.getD_eq_getElem?_getD, hj] at this
    exact this
  have hlen : (Lib.join ([s0, s3, s4, sm].map (·.data.toList)) (⟨#[32]⟩ : ByteArray).data.toList).length ≤ 140737488355328 := by rw [join_len, HR.out]; omega
  clear hr hcell own
  go_wp2_with fail
  refine (Tryd.strings_Join g off c [s0, s3, s4, sm] ⟨#[32]⟩ _ hcs hg (by simp) hc1 hlen).mono ?_
  rintro e w10 ⟨rfl, h_w10⟩
  replace x_a := x_a.from_ h_w10
  have B_w10 := B_w9.trans (h_w10.mono B_w9.size)
  have s_w10 := h_w10.size
  rw [join_eq, HR.out]
  go_wp2
  go_ret
  exact ⟨ret_eq (by rw [HP.out]; rfl), B_w10⟩
set_option maxRecDepth 100000 in
set_option maxHeartbeats 4000000 in
theorem rtext_6 {w : World} (ht : Tab10 w) (a o t m k1 k2 k3 k4 : Int) (ho : recOkB ⟨6, a, o, t, m, ⟨k1, k2, k3, k4⟩⟩ = true) : Calls Tryd.prog 10 #[.agg #[.int .i64 6, .int .i64 a, .int .i64 o, .int .i64 t, .int .i64 m, .int .i64 k1, .int .i64 k2, .int .i64 k3, .int .i64 k4]] w fun e w' => e = .returned (.string (recText ⟨6, a, o, t, m, ⟨k1, k2, k3, k4⟩⟩)) ∧ Below w.heap.size w w' := by
  have hp := recOk_parts ho
  obtain ⟨-, q1, q2, q3, q4, q5, -⟩ := hp
  simp only at q1 q2 q3 q4
  have hsz := recText_size (⟨6, a, o, t, m, ⟨k1, k2, k3, k4⟩⟩ : MRec)
  have HP0 : recText ⟨6, a, o, t, m, ⟨k1, k2, k3, k4⟩⟩ = joinSp (rkName 6) [numText t, numText m] := by
    unfold recText; rw [if_pos ho]; simp [recWords, recFields, kAcct, kOther, kTo, kAmt]
  clear q5
  obtain ⟨s0, hs0⟩ : ∃ z, rkName 6 = z := ⟨_, rfl⟩
  obtain ⟨s3, hs3⟩ : ∃ z, numText t = z := ⟨_, rfl⟩
  obtain ⟨s4, hs4⟩ : ∃ z, numText m = z := ⟨_, rfl⟩
  rw [hs0, hs3, hs4] at HP0
  obtain ⟨R, hR⟩ : ∃ z, joinSp s0 [s3, s4] = z := ⟨_, rfl⟩
  rw [hR] at HP0
  rw [HP0] at hsz
  have HP := Lib.hid HP0
  have HR := Lib.hid hR
  have Hs0 := Lib.hid hs0
  have Hs3 := Lib.hid hs3
  have Hs4 := Lib.hid hs4
  have HO := Lib.hid ho
  clear ho HP0 hR hs0 hs3 hs4
  obtain ⟨i0, hi, hz0, hz1, hz2⟩ := info_parts Tryd.info_str
  obtain ⟨wa, hwa, B0, sa, x_a⟩ := frame1 w 26 [.int .i64 6, .int .i64 a, .int .i64 o, .int .i64 t, .int .i64 m, .int .i64 k1, .int .i64 k2, .int .i64 k3, .int .i64 k4]
  have sa_1 := Nat.le_of_eq sa
  have sa_2 := Nat.le_of_eq sa.symm
  clear sa
  have c_a_0_wa := x_a.cell (i := 0) rfl
  have c_a_1_wa := x_a.cell (i := 1) rfl
  have c_a_2_wa := x_a.cell (i := 2) rfl
  have c_a_3_wa := x_a.cell (i := 3) rfl
  have c_a_4_wa := x_a.cell (i := 4) rfl
  have c_a_5_wa := x_a.cell (i := 5) rfl
  have c_a_6_wa := x_a.cell (i := 6) rfl
  have c_a_7_wa := x_a.cell (i := 7) rfl
  have c_a_8_wa := x_a.cell (i := 8) rfl
  have rv : RV recL wa (.agg #[.int .i64 6, .int .i64 a, .int .i64 o, .int .i64 t, .int .i64 m, .int .i64 k1, .int .i64 k2, .int .i64 k3, .int .i64 k4]) ⟨6, a, o, t, m, ⟨k1, k2, k3, k4⟩⟩ := rv_rec_mk (zM := ⟨k1, k2, k3, k4⟩)
  go_enter Tryd.func10, Tryd.ntmps10
  go_wp2_with fail
  refine (iRecOk_c rv).mono ?_
  rintro e w1 ⟨rfl, h_w1⟩
  clear c_a_0_wa c_a_1_wa c_a_2_wa c_a_3_wa c_a_4_wa c_a_5_wa c_a_6_wa c_a_7_wa c_a_8_wa
  replace x_a := x_a.from_ h_w1
  have B_w1 := B0.trans (h_w1.mono B0.size)
  have s_w1 := h_w1.size
  rw [HO.out]
  clear rv
  have c_a_0_w1 := x_a.cell (i := 0) rfl
  have c_a_1_w1 := x_a.cell (i := 1) rfl
  have c_a_2_w1 := x_a.cell (i := 2) rfl
  have c_a_3_w1 := x_a.cell (i := 3) rfl
  have c_a_4_w1 := x_a.cell (i := 4) rfl
  have c_a_5_w1 := x_a.cell (i := 5) rfl
  have c_a_6_w1 := x_a.cell (i := 6) rfl
  have c_a_7_w1 := x_a.cell (i := 7) rfl
  have c_a_8_w1 := x_a.cell (i := 8) rfl
  go_wp2_with fail
  refine (iRkName_w _ _).mono ?_
  rintro e w' ⟨rfl, rfl⟩
  rw [Hs0.out]
  obtain ⟨w2, e_w2, s_w2, h_w2, x_s⟩ := alloc_step w1 9 [.string s0]
  have s_w2_1 := Nat.le_of_eq s_w2
  have s_w2_2 := Nat.le_of_eq s_w2.symm
  clear s_w2
  replace x_a := x_a.from_ h_w2
  have B_w2 := B_w1.trans (h_w2.mono B_w1.size)
  have own := own_vr (base := w1.heap.size) (xs := [s0]) x_s (Nat.le_refl _) (by simp)
  have c_a_0_w2 := x_a.cell (i := 0) rfl
  have f_a_0_w2 := x_a.frozen 0
  have c_a_1_w2 := x_a.cell (i := 1) rfl
  have f_a_1_w2 := x_a.frozen 1
  have c_a_2_w2 := x_a.cell (i := 2) rfl
  have f_a_2_w2 := x_a.frozen 2
  have c_a_3_w2 := x_a.cell (i := 3) rfl
  have f_a_3_w2 := x_a.frozen 3
  have c_a_4_w2 := x_a.cell (i := 4) rfl
  have f_a_4_w2 := x_a.frozen 4
  have c_a_5_w2 := x_a.cell (i := 5) rfl
  have f_a_5_w2 := x_a.frozen 5
  have c_a_6_w2 := x_a.cell (i := 6) rfl
  have f_a_6_w2 := x_a.frozen 6
  have c_a_7_w2 := x_a.cell (i := 7) rfl
  have f_a_7_w2 := x_a.frozen 7
  have c_a_8_w2 := x_a.cell (i := 8) rfl
  have f_a_8_w2 := x_a.frozen 8
  go_wp2_with fail
  refine (iUsed_6 x_a rfl).mono ?_
  rintro e w3 ⟨B, T, rfl, x_l, hB, h_w3⟩
  clear c_a_0_w1 c_a_1_w1 c_a_2_w1 c_a_3_w1 c_a_4_w1 c_a_5_w1 c_a_6_w1 c_a_7_w1 c_a_8_w1 c_a_0_w2 f_a_0_w2 c_a_1_w2 f_a_1_w2 c_a_2_w2 f_a_2_w2 c_a_3_w2 f_a_3_w2 c_a_4_w2 f_a_4_w2 c_a_5_w2 f_a_5_w2 c_a_6_w2 f_a_6_w2 c_a_7_w2 f_a_7_w2 c_a_8_w2 f_a_8_w2
  replace x_a := x_a.from_ h_w3
  have B_w3 := B_w2.trans (h_w3.mono B_w2.size)
  have s_w3 := h_w3.size
  replace own := own.below h_w3 (Nat.le_refl _)
  have hne : ∀ j, (Value.slice (some ⟨w1.heap.size, 0, none⟩) [s0].length [s0].length).ownBlock = some j → j ≠ B := by
    intro j hj
    have : w1.heap.size = j := by simpa [Value.ownBlock] using hj
    omega
  have c_a_0_w3 := x_a.cell (i := 0) rfl
  have c_a_1_w3 := x_a.cell (i := 1) rfl
  have c_a_2_w3 := x_a.cell (i := 2) rfl
  have c_a_3_w3 := x_a.cell (i := 3) rfl
  have c_a_4_w3 := x_a.cell (i := 4) rfl
  have c_a_5_w3 := x_a.cell (i := 5) rfl
  have c_a_6_w3 := x_a.cell (i := 6) rfl
  have c_a_7_w3 := x_a.cell (i := 7) rfl
  have c_a_8_w3 := x_a.cell (i := 8) rfl
  have c_l_0_w3 := x_l.cell (i := 0) rfl
  have c_l_1_w3 := x_l.cell (i := 1) rfl
  go_wp2_with fail
  refine wp_loop_rounds 3 ?_
  rw [rounds_succ]
  clear c_a_0_w3 c_a_1_w3 c_a_2_w3 c_a_3_w3 c_a_4_w3 c_a_5_w3 c_a_6_w3 c_a_7_w3 c_a_8_w3 c_l_0_w3 c_l_1_w3
  have c_a_0_w3 := x_a.cell (i := 0) rfl
  have c_a_1_w3 := x_a.cell (i := 1) rfl
  have c_a_2_w3 := x_a.cell (i := 2) rfl
  have c_a_3_w3 := x_a.cell (i := 3) rfl
  have c_a_4_w3 := x_a.cell (i := 4) rfl
  have c_a_5_w3 := x_a.cell (i := 5) rfl
  have c_a_6_w3 := x_a.cell (i := 6) rfl
  have c_a_7_w3 := x_a.cell (i := 7) rfl
  have c_a_8_w3 := x_a.cell (i := 8) rfl
  have c_l_0_w3 := x_l.cell (i := 0) rfl
  have c_l_1_w3 := x_l.cell (i := 1) rfl
  go_wp2_with fail
  refine (iNumText_any _ _ (ht.below B_w3) (by omega) (by omega)).mono ?_
  rintro e w4 ⟨rfl, h_w4⟩
  clear c_a_0_w3 c_a_1_w3 c_a_2_w3 c_a_3_w3 c_a_4_w3 c_a_5_w3 c_a_6_w3 c_a_7_w3 c_a_8_w3 c_l_0_w3 c_l_1_w3
  replace x_a := x_a.from_ h_w4
  replace x_l := x_l.from_ h_w4
  have B_w4 := B_w3.trans (h_w4.mono B_w3.size)
  have s_w4 := h_w4.size
  rw [Hs3.out]
  replace own := own.below h_w4 (Nat.le_refl _)
  go_wp2_with (at_builtin; refine wpl_appF Value.string ByteArray.empty _ one_str rfl (.tmp 19) (.tmp 24) 58 rfl (w1.heap.size) 9 i0 _ 16 Tryd.underlying58 hi hz0 hz1 hz2 rfl _ [s0] rfl (own.alloc_ _) _ _ _ 1 [s3] rfl rfl (rdF_one _ _ _ _ _) (by simp) (by omega) (by simp; omega) ?_)
  intro v_w5 w5 o_w5 g_w5 at_w5
  have B_w5 : Below w.heap.size w w5 := grown_belowF (B_w4.alloc B_w4.size _) (own.alloc_ _) g_w5 (by omega) (by simp; omega)
  replace x_a := (x_a.alloc _).grow g_w5 (fun e => by have := (own.lt _ e.symm).1; omega)
  have lt_l := x_l.lt
  replace x_l := (x_l.alloc _).grow g_w5 (fun e => hne _ e.symm rfl)
  replace hne : ∀ j, v_w5.ownBlock = some j → j ≠ B := by
    intro j hj
    rcases at_w5 with e | e
    · rw [e] at hj; exact hne j hj
    · rw [e] at hj; have : w4.heap.size + 1 = j := by simpa using hj
      omega
  replace own : OwnF Value.string w5 (w1.heap.size) 9 v_w5 [s0, s3] := o_w5
  have s_w5 := B_w5.size
  have sz_w5 : w4.heap.size ≤ w5.heap.size := by have := g_w5.size; simp at this; omega
  clear o_w5 g_w5 at_w5
  go_wp2_with fail
  rw [rounds_succ]
  have c_a_0_w5 := x_a.cell (i := 0) rfl
  have c_a_1_w5 := x_a.cell (i := 1) rfl
  have c_a_2_w5 := x_a.cell (i := 2) rfl
  have c_a_3_w5 := x_a.cell (i := 3) rfl
  have c_a_4_w5 := x_a.cell (i := 4) rfl
  have c_a_5_w5 := x_a.cell (i := 5) rfl
  have c_a_6_w5 := x_a.cell (i := 6) rfl
  have c_a_7_w5 := x_a.cell (i := 7) rfl
  have c_a_8_w5 := x_a.cell (i := 8) rfl
  have c_l_0_w5 := x_l.cell (i := 0) rfl
  have c_l_1_w5 := x_l.cell (i := 1) rfl
  go_wp2_with fail
  refine (iNumText_any _ _ (ht.below B_w5) (by omega) (by omega)).mono ?_
  rintro e w6 ⟨rfl, h_w6⟩
  clear c_a_0_w5 c_a_1_w5 c_a_2_w5 c_a_3_w5 c_a_4_w5 c_a_5_w5 c_a_6_w5 c_a_7_w5 c_a_8_w5 c_l_0_w5 c_l_1_w5
  replace x_a := x_a.from_ h_w6
  replace x_l := x_l.from_ h_w6
  have B_w6 := B_w5.trans (h_w6.mono B_w5.size)
  have s_w6 := h_w6.size
  rw [Hs4.out]
  replace own := own.below h_w6 (Nat.le_refl _)
  go_wp2_with (at_builtin; refine wpl_appF Value.string ByteArray.empty _ one_str rfl (.tmp 19) (.tmp 24) 58 rfl (w1.heap.size) 9 i0 _ 16 Tryd.underlying58 hi hz0 hz1 hz2 rfl _ [s0, s3] rfl (own.alloc_ _) _ _ _ 1 [s4] rfl rfl (rdF_one _ _ _ _ _) (by simp) (by omega) (by simp; omega) ?_)
  intro v_w7 w7 o_w7 g_w7 at_w7
  have B_w7 : Below w.heap.size w w7 := grown_belowF (B_w6.alloc B_w6.size _) (own.alloc_ _) g_w7 (by omega) (by simp; omega)
  replace x_a := (x_a.alloc _).grow g_w7 (fun e => by have := (own.lt _ e.symm).1; omega)
  have lt_l := x_l.lt
  replace x_l := (x_l.alloc _).grow g_w7 (fun e => hne _ e.symm rfl)
  replace hne : ∀ j, v_w7.ownBlock = some j → j ≠ B := by
    intro j hj
    rcases at_w7 with e | e
    · rw [e] at hj; exact hne j hj
    · rw [e] at hj; have : w6.heap.size + 1 = j := by simpa using hj
      omega
  replace own : OwnF Value.string w7 (w1.heap.size) 9 v_w7 [s0, s3, s4] := o_w7
  have s_w7 := B_w7.size
  have sz_w7 : w6.heap.size ≤ w7.heap.size := by have := g_w7.size; simp at this; omega
  clear o_w7 g_w7 at_w7
  go_wp2_with fail
  rw [rounds_succ]
  have c_a_0_w7 := x_a.cell (i := 0) rfl
  have c_a_1_w7 := x_a.cell (i := 1) rfl
  have c_a_2_w7 := x_a.cell (i := 2) rfl
  have c_a_3_w7 := x_a.cell (i := 3) rfl
  have c_a_4_w7 := x_a.cell (i := 4) rfl
  have c_a_5_w7 := x_a.cell (i := 5) rfl
  have c_a_6_w7 := x_a.cell (i := 6) rfl
  have c_a_7_w7 := x_a.cell (i := 7) rfl
  have c_a_8_w7 := x_a.cell (i := 8) rfl
  obtain ⟨A, c, rfl, hc1, hc2, hr⟩ := own.form (d := ByteArray.empty)
  obtain ⟨g, off, rfl, hg, hcell⟩ := hr (by simp)
  have hcs : ∀ (j : Nat) x, [s0, s3, s4][j]? = some x → w7.cell? ⟨g, off + j, none⟩ = some (.string x) := by
    intro j x hj
    have hlt : j < [s0, s3, s4].length := by rcases Nat.lt_or_ge j [s0, s3, s4].length with h | h; exact h; rw [List.getElem?_eq_none h] at hj; cases hj
    have := hcell j hlt
    rw [List.getD_eq_getElem?_getD, hj] at this
    exact this
  have hlen : (Lib.join ([s0, s3, s4].map (·.data.toList)) (⟨#[32]⟩ : ByteArray).data.toList).length ≤ 140737488355328 := by rw [join_len, HR.out]; omega
  clear hr hcell own
  go_wp2_with fail
  refine (Tryd.strings_Join g off c [s0, s3, s4] ⟨#[32]⟩ _ hcs hg (by simp) hc1 hlen).mono ?_
  rintro e w8 ⟨rfl, h_w8⟩
  clear c_a_0_w7 c_a_1_w7 c_a_2_w7 c_a_3_w7 c_a_4_w7 c_a_5_w7 c_a_6_w7 c_a_7_w7 c_a_8_w7
  replace x_a := x_a.from_ h_w8
  have B_w8 := B_w7.trans (h_w8.mono B_w7.size)
  have s_w8 := h_w8.size
  rw [join_eq, HR.out]
  go_wp2
  go_ret
  exact ⟨ret_eq (by rw [HP.out]; rfl), B_w8⟩
set_option maxRecDepth 100000 in
set_option maxHeartbeats 4000000 in
theorem rtext_7 {w : World} (ht : Tab10 w) (a o t m k1 k2 k3 k4 : Int) (ho : recOkB ⟨7, a, o, t, m, ⟨k1, k2, k3, k4⟩⟩ = true) : Calls Tryd.prog 10 #[.agg #[.int .i64 7, .int .i64 a, .int .i64 o, .int .i64 t, .int .i64 m, .int .i64 k1, .int .i64 k2, .int .i64 k3, .int .i64 k4]] w fun e w' => e = .returned (.string (recText ⟨7, a, o, t, m, ⟨k1, k2, k3, k4⟩⟩)) ∧ Below w.heap.size w w' := by
  have hp := recOk_parts ho
  obtain ⟨-, q1, q2, q3, q4, q5, -⟩ := hp
  simp only at q1 q2 q3 q4
  have hsz := recText_size (⟨7, a, o, t, m, ⟨k1, k2, k3, k4⟩⟩ : MRec)
  have HP0 : recText ⟨7, a, o, t, m, ⟨k1, k2, k3, k4⟩⟩ = joinSp (rkName 7) [numText a, numText m] := by
    unfold recText; rw [if_pos ho]; simp [recWords, recFields, kAcct, kOther, kTo, kAmt]
  clear q5
  obtain ⟨s0, hs0⟩ : ∃ z, rkName 7 = z := ⟨_, rfl⟩
  obtain ⟨s1, hs1⟩ : ∃ z, numText a = z := ⟨_, rfl⟩
  obtain ⟨s4, hs4⟩ : ∃ z, numText m = z := ⟨_, rfl⟩
  rw [hs0, hs1, hs4] at HP0
  obtain ⟨R, hR⟩ : ∃ z, joinSp s0 [s1, s4] = z := ⟨_, rfl⟩
  rw [hR] at HP0
  rw [HP0] at hsz
  have HP := Lib.hid HP0
  have HR := Lib.hid hR
  have Hs0 := Lib.hid hs0
  have Hs1 := Lib.hid hs1
  have Hs4 := Lib.hid hs4
  have HO := Lib.hid ho
  clear ho HP0 hR hs0 hs1 hs4
  obtain ⟨i0, hi, hz0, hz1, hz2⟩ := info_parts Tryd.info_str
  obtain ⟨wa, hwa, B0, sa, x_a⟩ := frame1 w 26 [.int .i64 7, .int .i64 a, .int .i64 o, .int .i64 t, .int .i64 m, .int .i64 k1, .int .i64 k2, .int .i64 k3, .int .i64 k4]
  have sa_1 := Nat.le_of_eq sa
  have sa_2 := Nat.le_of_eq sa.symm
  clear sa
  have c_a_0_wa := x_a.cell (i := 0) rfl
  have c_a_1_wa := x_a.cell (i := 1) rfl
  have c_a_2_wa := x_a.cell (i := 2) rfl
  have c_a_3_wa := x_a.cell (i := 3) rfl
  have c_a_4_wa := x_a.cell (i := 4) rfl
  have c_a_5_wa := x_a.cell (i := 5) rfl
  have c_a_6_wa := x_a.cell (i := 6) rfl
  have c_a_7_wa := x_a.cell (i := 7) rfl
  have c_a_8_wa := x_a.cell (i := 8) rfl
  have rv : RV recL wa (.agg #[.int .i64 7, .int .i64 a, .int .i64 o, .int .i64 t, .int .i64 m, .int .i64 k1, .int .i64 k2, .int .i64 k3, .int .i64 k4]) ⟨7, a, o, t, m, ⟨k1, k2, k3, k4⟩⟩ := rv_rec_mk (zM := ⟨k1, k2, k3, k4⟩)
  go_enter Tryd.func10, Tryd.ntmps10
  go_wp2_with fail
  refine (iRecOk_c rv).mono ?_
  rintro e w1 ⟨rfl, h_w1⟩
  clear c_a_0_wa c_a_1_wa c_a_2_wa c_a_3_wa c_a_4_wa c_a_5_wa c_a_6_wa c_a_7_wa c_a_8_wa
  replace x_a := x_a.from_ h_w1
  have B_w1 := B0.trans (h_w1.mono B0.size)
  have s_w1 := h_w1.size
  rw [HO.out]
  clear rv
  have c_a_0_w1 := x_a.cell (i := 0) rfl
  have c_a_1_w1 := x_a.cell (i := 1) rfl
  have c_a_2_w1 := x_a.cell (i := 2) rfl
  have c_a_3_w1 := x_a.cell (i := 3) rfl
  have c_a_4_w1 := x_a.cell (i := 4) rfl
  have c_a_5_w1 := x_a.cell (i := 5) rfl
  have c_a_6_w1 := x_a.cell (i := 6) rfl
  have c_a_7_w1 := x_a.cell (i := 7) rfl
  have c_a_8_w1 := x_a.cell (i := 8) rfl
  go_wp2_with fail
  refine (iRkName_w _ _).mono ?_
  rintro e w' ⟨rfl, rfl⟩
  rw [Hs0.out]
  obtain ⟨w2, e_w2, s_w2, h_w2, x_s⟩ := alloc_step w1 9 [.string s0]
  have s_w2_1 := Nat.le_of_eq s_w2
  have s_w2_2 := Nat.le_of_eq s_w2.symm
  clear s_w2
  replace x_a := x_a.from_ h_w2
  have B_w2 := B_w1.trans (h_w2.mono B_w1.size)
  have own := own_vr (base := w1.heap.size) (xs := [s0]) x_s (Nat.le_refl _) (by simp)
  have c_a_0_w2 := x_a.cell (i := 0) rfl
  have f_a_0_w2 := x_a.frozen 0
  have c_a_1_w2 := x_a.cell (i := 1) rfl
  have f_a_1_w2 := x_a.frozen 1
  have c_a_2_w2 := x_a.cell (i := 2) rfl
  have f_a_2_w2 := x_a.frozen 2
  have c_a_3_w2 := x_a.cell (i := 3) rfl
  have f_a_3_w2 := x_a.frozen 3
  have c_a_4_w2 := x_a.cell (i := 4) rfl
  have f_a_4_w2 := x_a.frozen 4
  have c_a_5_w2 := x_a.cell (i := 5) rfl
  have f_a_5_w2 := x_a.frozen 5
  have c_a_6_w2 := x_a.cell (i := 6) rfl
  have f_a_6_w2 := x_a.frozen 6
  have c_a_7_w2 := x_a.cell (i := 7) rfl
  have f_a_7_w2 := x_a.frozen 7
  have c_a_8_w2 := x_a.cell (i := 8) rfl
  have f_a_8_w2 := x_a.frozen 8
  go_wp2_with fail
  refine (iUsed_7 x_a rfl).mono ?_
  rintro e w3 ⟨B, T, rfl, x_l, hB, h_w3⟩
  clear c_a_0_w1 c_a_1_w1 c_a_2_w1 c_a_3_w1 c_a_4_w1 c_a_5_w1 c_a_6_w1 c_a_7_w1 c_a_8_w1 c_a_0_w2 f_a_0_w2 c_a_1_w2 f_a_1_w2 c_a_2_w2 f_a_2_w2 c_a_3_w2 f_a_3_w2 c_a_4_w2 f_a_4_w2 c_a_5_w2 f_a_5_w2 c_a_6_w2 f_a_6_w2 c_a_7_w2 f_a_7_w2 c_a_8_w2 f_a_8_w2
  replace x_a := x_a.from_ h_w3
  have B_w3 := B_w2.trans (h_w3.mono B_w2.size)
  have s_w3 := h_w3.size
  replace own := own.below h_w3 (Nat.le_refl _)
  have hne : ∀ j, (Value.slice (some ⟨w1.heap.size, 0, none⟩) [s0].length [s0].length).ownBlock = some j → j ≠ B := by
    intro j hj
    have : w1.heap.size = j := by simpa [Value.ownBlock] using hj
    omega
  have c_a_0_w3 := x_a.cell (i := 0) rfl
  have c_a_1_w3 := x_a.cell (i := 1) rfl
  have c_a_2_w3 := x_a.cell (i := 2) rfl
  have c_a_3_w3 := x_a.cell (i := 3) rfl
  have c_a_4_w3 := x_a.cell (i := 4) rfl
  have c_a_5_w3 := x_a.cell (i := 5) rfl
  have c_a_6_w3 := x_a.cell (i := 6) rfl
  have c_a_7_w3 := x_a.cell (i := 7) rfl
  have c_a_8_w3 := x_a.cell (i := 8) rfl
  have c_l_0_w3 := x_l.cell (i := 0) rfl
  have c_l_1_w3 := x_l.cell (i := 1) rfl
  go_wp2_with fail
  refine wp_loop_rounds 3 ?_
  rw [rounds_succ]
  clear c_a_0_w3 c_a_1_w3 c_a_2_w3 c_a_3_w3 c_a_4_w3 c_a_5_w3 c_a_6_w3 c_a_7_w3 c_a_8_w3 c_l_0_w3 c_l_1_w3
  have c_a_0_w3 := x_a.cell (i := 0) rfl
  have c_a_1_w3 := x_a.cell (i := 1) rfl
  have c_a_2_w3 := x_a.cell (i := 2) rfl
  have c_a_3_w3 := x_a.cell (i := 3) rfl
  have c_a_4_w3 := x_a.cell (i := 4) rfl
  have c_a_5_w3 := x_a.cell (i := 5) rfl
  have c_a_6_w3 := x_a.cell (i := 6) rfl
  have c_a_7_w3 := x_a.cell (i := 7) rfl
  have c_a_8_w3 := x_a.cell (i := 8) rfl
  have c_l_0_w3 := x_l.cell (i := 0) rfl
  have c_l_1_w3 := x_l.cell (i := 1) rfl
  go_wp2_with fail
  refine (iNumText_any _ _ (ht.below B_w3) (by omega) (by omega)).mono ?_
  rintro e w4 ⟨rfl, h_w4⟩
  clear c_a_0_w3 c_a_1_w3 c_a_2_w3 c_a_3_w3 c_a_4_w3 c_a_5_w3 c_a_6_w3 c_a_7_w3 c_a_8_w3 c_l_0_w3 c_l_1_w3
  replace x_a := x_a.from_ h_w4
  replace x_l := x_l.from_ h_w4
  have B_w4 := B_w3.trans (h_w4.mono B_w3.size)
  have s_w4 := h_w4.size
  rw [Hs1.out]
  replace own := own.below h_w4 (Nat.le_refl _)
  go_wp2_with (at_builtin; refine wpl_appF Value.string ByteArray.empty _ one_str rfl (.tmp 19) (.tmp 24) 58 rfl (w1.heap.size) 9 i0 _ 16 Tryd.underlying58 hi hz0 hz1 hz2 rfl _ [s0] rfl (own.alloc_ _) _ _ _ 1 [s1] rfl rfl (rdF_one _ _ _ _ _) (by simp) (by omega) (by simp; omega) ?_)
  intro v_w5 w5 o_w5 g_w5 at_w5
  have B_w5 : Below w.heap.size w w5 := grown_belowF (B_w4.alloc B_w4.size _) (own.alloc_ _) g_w5 (by omega) (by simp; omega)
  replace x_a := (x_a.alloc _).grow g_w5 (fun e => by have := (own.lt _ e.symm).1; omega)
  have lt_l := x_l.lt
  replace x_l := (x_l.alloc _).grow g_w5 (fun e => hne _ e.symm rfl)
  replace hne : ∀ j, v_w5.ownBlock = some j → j ≠ B := by
    intro j hj
    rcases at_w5 with e | e
    · rw [e] at hj; exact hne j hj
    · rw [e] at hj; have : w4.heap.size + 1 = j := by simpa using hj
      omega
  replace own : OwnF Value.string w5 (w1.heap.size) 9 v_w5 [s0, s1] := o_w5
  have s_w5 := B_w5.size
  have sz_w5 : w4.heap.size ≤ w5.heap.size := by have := g_w5.size; simp at this; omega
  clear o_w5 g_w5 at_w5
  go_wp2_with fail
  rw [rounds_succ]
  have c_a_0_w5 := x_a.cell (i := 0) rfl
  have c_a_1_w5 := x_a.cell (i := 1) rfl
  have c_a_2_w5 := x_a.cell (i := 2) rfl
  have c_a_3_w5 := x_a.cell (i := 3) rfl
  have c_a_4_w5 := x_a.cell (i := 4) rfl
  have c_a_5_w5 := x_a.cell (i := 5) rfl
  have c_a_6_w5 := x_a.cell (i := 6) rfl
  have c_a_7_w5 := x_a.cell (i := 7) rfl
  have c_a_8_w5 := x_a.cell (i := 8) rfl
  have c_l_0_w5 := x_l.cell (i := 0) rfl
  have c_l_1_w5 := x_l.cell (i := 1) rfl
  go_wp2_with fail
  refine (iNumText_any _ _ (ht.below B_w5) (by omega) (by omega)).mono ?_
  rintro e w6 ⟨rfl, h_w6⟩
  clear c_a_0_w5 c_a_1_w5 c_a_2_w5 c_a_3_w5 c_a_4_w5 c_a_5_w5 c_a_6_w5 c_a_7_w5 c_a_8_w5 c_l_0_w5 c_l_1_w5
  replace x_a := x_a.from_ h_w6
  replace x_l := x_l.from_ h_w6
  have B_w6 := B_w5.trans (h_w6.mono B_w5.size)
  have s_w6 := h_w6.size
  rw [Hs4.out]
  replace own := own.below h_w6 (Nat.le_refl _)
  go_wp2_with (at_builtin; refine wpl_appF Value.string ByteArray.empty _ one_str rfl (.tmp 19) (.tmp 24) 58 rfl (w1.heap.size) 9 i0 _ 16 Tryd.underlying58 hi hz0 hz1 hz2 rfl _ [s0, s1] rfl (own.alloc_ _) _ _ _ 1 [s4] rfl rfl (rdF_one _ _ _ _ _) (by simp) (by omega) (by simp; omega) ?_)
  intro v_w7 w7 o_w7 g_w7 at_w7
  have B_w7 : Below w.heap.size w w7 := grown_belowF (B_w6.alloc B_w6.size _) (own.alloc_ _) g_w7 (by omega) (by simp; omega)
  replace x_a := (x_a.alloc _).grow g_w7 (fun e => by have := (own.lt _ e.symm).1; omega)
  have lt_l := x_l.lt
  replace x_l := (x_l.alloc _).grow g_w7 (fun e => hne _ e.symm rfl)
  replace hne : ∀ j, v_w7.ownBlock = some j → j ≠ B := by
    intro j hj
    rcases at_w7 with e | e
    · rw [e] at hj; exact hne j hj
    · rw [e] at hj; have : w6.heap.size + 1 = j := by simpa using hj
      omega
  replace own : OwnF Value.string w7 (w1.heap.size) 9 v_w7 [s0, s1, s4] := o_w7
  have s_w7 := B_w7.size
  have sz_w7 : w6.heap.size ≤ w7.heap.size := by have := g_w7.size; simp at this; omega
  clear o_w7 g_w7 at_w7
  go_wp2_with fail
  rw [rounds_succ]
  have c_a_0_w7 := x_a.cell (i := 0) rfl
  have c_a_1_w7 := x_a.cell (i := 1) rfl
  have c_a_2_w7 := x_a.cell (i := 2) rfl
  have c_a_3_w7 := x_a.cell (i := 3) rfl
  have c_a_4_w7 := x_a.cell (i := 4) rfl
  have c_a_5_w7 := x_a.cell (i := 5) rfl
  have c_a_6_w7 := x_a.cell (i := 6) rfl
  have c_a_7_w7 := x_a.cell (i := 7) rfl
  have c_a_8_w7 := x_a.cell (i := 8) rfl
  obtain ⟨A, c, rfl, hc1, hc2, hr⟩ := own.form (d := ByteArray.empty)
  obtain ⟨g, off, rfl, hg, hcell⟩ := hr (by simp)
  have hcs : ∀ (j : Nat) x, [s0, s1, s4][j]? = some x → w7.cell? ⟨g, off + j, none⟩ = some (.string x) := by
    intro j x hj
    have hlt : j < [s0, s1, s4].length := by rcases Nat.lt_or_ge j [s0, s1, s4].length with h | h; exact h; rw [List.getElem?_eq_none h] at hj; cases hj
    have := hcell j hlt
    rw [List.getD_eq_getElem?_getD, hj] at this
    exact this
  have hlen : (Lib.join ([s0, s1, s4].map (·.data.toList)) (⟨#[32]⟩ : ByteArray).data.toList).length ≤ 140737488355328 := by rw [join_len, HR.out]; omega
  clear hr hcell own
  go_wp2_with fail
  refine (Tryd.strings_Join g off c [s0, s1, s4] ⟨#[32]⟩ _ hcs hg (by simp) hc1 hlen).mono ?_
  rintro e w8 ⟨rfl, h_w8⟩
  clear c_a_0_w7 c_a_1_w7 c_a_2_w7 c_a_3_w7 c_a_4_w7 c_a_5_w7 c_a_6_w7 c_a_7_w7 c_a_8_w7
  replace x_a := x_a.from_ h_w8
  have B_w8 := B_w7.trans (h_w8.mono B_w7.size)
  have s_w8 := h_w8.size
  rw [join_eq, HR.out]
  go_wp2
  go_ret
  exact ⟨ret_eq (by rw [HP.out]; rfl), B_w8⟩
set_option maxRecDepth 100000 in
set_option maxHeartbeats 4000000 in
theorem rtext_8 {w : World} (ht : Tab10 w) (a o t m k1 k2 k3 k4 : Int) (ho : recOkB ⟨8, a, o, t, m, ⟨k1, k2, k3, k4⟩⟩ = true) : Calls Tryd.prog 10 #[.agg #[.int .i64 8, .int .i64 a, .int .i64 o, .int .i64 t, .int .i64 m, .int .i64 k1, .int .i64 k2, .int .i64 k3, .int .i64 k4]] w fun e w' => e = .returned (.string (recText ⟨8, a, o, t, m, ⟨k1, k2, k3, k4⟩⟩)) ∧ Below w.heap.size w w' := by
  have hp := recOk_parts ho
  obtain ⟨-, q1, q2, q3, q4, q5, -⟩ := hp
  simp only at q1 q2 q3 q4
  have hsz := recText_size (⟨8, a, o, t, m, ⟨k1, k2, k3, k4⟩⟩ : MRec)
  have HP0 : recText ⟨8, a, o, t, m, ⟨k1, k2, k3, k4⟩⟩ = joinSp (rkName 8) [numText a, numText t, numText m] := by
    unfold recText; rw [if_pos ho]; simp [recWords, recFields, kAcct, kOther, kTo, kAmt]
  clear q5
  obtain ⟨s0, hs0⟩ : ∃ z, rkName 8 = z := ⟨_, rfl⟩
  obtain ⟨s1, hs1⟩ : ∃ z, numText a = z := ⟨_, rfl⟩
  obtain ⟨s3, hs3⟩ : ∃ z, numText t = z := ⟨_, rfl⟩
  obtain ⟨s4, hs4⟩ : ∃ z, numText m = z := ⟨_, rfl⟩
  rw [hs0, hs1, hs3, hs4] at HP0
  obtain ⟨R, hR⟩ : ∃ z, joinSp s0 [s1, s3, s4] = z := ⟨_, rfl⟩
  rw [hR] at HP0
  rw [HP0] at hsz
  have HP := Lib.hid HP0
  have HR := Lib.hid hR
  have Hs0 := Lib.hid hs0
  have Hs1 := Lib.hid hs1
  have Hs3 := Lib.hid hs3
  have Hs4 := Lib.hid hs4
  have HO := Lib.hid ho
  clear ho HP0 hR hs0 hs1 hs3 hs4
  obtain ⟨i0, hi, hz0, hz1, hz2⟩ := info_parts Tryd.info_str
  obtain ⟨wa, hwa, B0, sa, x_a⟩ := frame1 w 26 [.int .i64 8, .int .i64 a, .int .i64 o, .int .i64 t, .int .i64 m, .int .i64 k1, .int .i64 k2, .int .i64 k3, .int .i64 k4]
  have sa_1 := Nat.le_of_eq sa
  have sa_2 := Nat.le_of_eq sa.symm
  clear sa
  have c_a_0_wa := x_a.cell (i := 0) rfl
  have c_a_1_wa := x_a.cell (i := 1) rfl
  have c_a_2_wa := x_a.cell (i := 2) rfl
  have c_a_3_wa := x_a.cell (i := 3) rfl
  have c_a_4_wa := x_a.cell (i := 4) rfl
  have c_a_5_wa := x_a.cell (i := 5) rfl
  have c_a_6_wa := x_a.cell (i := 6) rfl
  have c_a_7_wa := x_a.cell (i := 7) rfl
  have c_a_8_wa := x_a.cell (i := 8) rfl
  have rv : RV recL wa (.agg #[.int .i64 8, .int .i64 a, .int .i64 o, .int .i64 t, .int .i64 m, .int .i64 k1, .int .i64 k2, .int .i64 k3, .int .i64 k4]) ⟨8, a, o, t, m, ⟨k1, k2, k3, k4⟩⟩ := rv_rec_mk (zM := ⟨k1, k2, k3, k4⟩)
  go_enter Tryd.func10, Tryd.ntmps10
  go_wp2_with fail
  refine (iRecOk_c rv).mono ?_
  rintro e w1 ⟨rfl, h_w1⟩
  clear c_a_0_wa c_a_1_wa c_a_2_wa c_a_3_wa c_a_4_wa c_a_5_wa c_a_6_wa c_a_7_wa c_a_8_wa
  replace x_a := x_a.from_ h_w1
  have B_w1 := B0.trans (h_w1.mono B0.size)
  have s_w1 := h_w1.size
  rw [HO.out]
  clear rv
  have c_a_0_w1 := x_a.cell (i := 0) rfl
  have c_a_1_w1 := x_a.cell (i := 1) rfl
  have c_a_2_w1 := x_a.cell (i := 2) rfl
  have c_a_3_w1 := x_a.cell (i := 3) rfl
  have c_a_4_w1 := x_a.cell (i := 4) rfl
  have c_a_5_w1 := x_a.cell (i := 5) rfl
  have c_a_6_w1 := x_a.cell (i := 6) rfl
  have c_a_7_w1 := x_a.cell (i := 7) rfl
  have c_a_8_w1 := x_a.cell (i := 8) rfl
  go_wp2_with fail
  refine (iRkName_w _ _).mono ?_
  rintro e w' ⟨rfl, rfl⟩
  rw [Hs0.out]
  obtain ⟨w2, e_w2, s_w2, h_w2, x_s⟩ := alloc_step w1 9 [.string s0]
  have s_w2_1 := Nat.le_of_eq s_w2
  have s_w2_2 := Nat.le_of_eq s_w2.symm
  clear s_w2
  replace x_a := x_a.from_ h_w2
  have B_w2 := B_w1.trans (h_w2.mono B_w1.size)
  have own := own_vr (base := w1.heap.size) (xs := [s0]) x_s (Nat.le_refl _) (by simp)
  have c_a_0_w2 := x_a.cell (i := 0) rfl
  have f_a_0_w2 := x_a.frozen 0
  have c_a_1_w2 := x_a.cell (i := 1) rfl
  have f_a_1_w2 := x_a.frozen 1
  have c_a_2_w2 := x_a.cell (i := 2) rfl
  have f_a_2_w2 := x_a.frozen 2
  have c_a_3_w2 := x_a.cell (i := 3) rfl
  have f_a_3_w2 := x_a.frozen 3
  have c_a_4_w2 := x_a.cell (i := 4) rfl
  have f_a_4_w2 := x_a.frozen 4
  have c_a_5_w2 := x_a.cell (i := 5) rfl
  have f_a_5_w2 := x_a.frozen 5
  have c_a_6_w2 := x_a.cell (i := 6) rfl
  have f_a_6_w2 := x_a.frozen 6
  have c_a_7_w2 := x_a.cell (i := 7) rfl
  have f_a_7_w2 := x_a.frozen 7
  have c_a_8_w2 := x_a.cell (i := 8) rfl
  have f_a_8_w2 := x_a.frozen 8
  go_wp2_with fail
  refine (iUsed_8 x_a rfl).mono ?_
  rintro e w3 ⟨B, T, rfl, x_l, hB, h_w3⟩
  clear c_a_0_w1 c_a_1_w1 c_a_2_w1 c_a_3_w1 c_a_4_w1 c_a_5_w1 c_a_6_w1 c_a_7_w1 c_a_8_w1 c_a_0_w2 f_a_0_w2 c_a_1_w2 f_a_1_w2 c_a_2_w2 f_a_2_w2 c_a_3_w2 f_a_3_w2 c_a_4_w2 f_a_4_w2 c_a_5_w2 f_a_5_w2 c_a_6_w2 f_a_6_w2 c_a_7_w2 f_a_7_w2 c_a_8_w2 f_a_8_w2
  replace x_a := x_a.from_ h_w3
  have B_w3 := B_w2.trans (h_w3.mono B_w2.size)
  have s_w3 := h_w3.size
  replace own := own.below h_w3 (Nat.le_refl _)
  have hne : ∀ j, (Value.slice (some ⟨w1.heap.size, 0, none⟩) [s0].length [s0].length).ownBlock = some j → j ≠ B := by
    intro j hj
    have : w1.heap.size = j := by simpa [Value.ownBlock] using hj
    omega
  have c_a_0_w3 := x_a.cell (i := 0) rfl
  have c_a_1_w3 := x_a.cell (i := 1) rfl
  have c_a_2_w3 := x_a.cell (i := 2) rfl
  have c_a_3_w3 := x_a.cell (i := 3) rfl
  have c_a_4_w3 := x_a.cell (i := 4) rfl
  have c_a_5_w3 := x_a.cell (i := 5) rfl
  have c_a_6_w3 := x_a.cell (i := 6) rfl
  have c_a_7_w3 := x_a.cell (i := 7) rfl
  have c_a_8_w3 := x_a.cell (i := 8) rfl
  have c_l_0_w3 := x_l.cell (i := 0) rfl
  have c_l_1_w3 := x_l.cell (i := 1) rfl
  have c_l_2_w3 := x_l.cell (i := 2) rfl
  go_wp2_with fail
  refine wp_loop_rounds 4 ?_
  rw [rounds_succ]
  clear c_a_0_w3 c_a_1_w3 c_a_2_w3 c_a_3_w3 c_a_4_w3 c_a_5_w3 c_a_6_w3 c_a_7_w3 c_a_8_w3 c_l_0_w3 c_l_1_w3 c_l_2_w3
  have c_a_0_w3 := x_a.cell (i := 0) rfl
  have c_a_1_w3 := x_a.cell (i := 1) rfl
  have c_a_2_w3 := x_a.cell (i := 2) rfl
  have c_a_3_w3 := x_a.cell (i := 3) rfl
  have c_a_4_w3 := x_a.cell (i := 4) rfl
  have c_a_5_w3 := x_a.cell (i := 5) rfl
  have c_a_6_w3 := x_a.cell (i := 6) rfl
  have c_a_7_w3 := x_a.cell (i := 7) rfl
  have c_a_8_w3 := x_a.cell (i := 8) rfl
  have c_l_0_w3 := x_l.cell (i := 0) rfl
  have c_l_1_w3 := x_l.cell (i := 1) rfl
  have c_l_2_w3 := x_l.cell (i := 2) rfl
  go_wp2_with fail
  refine (iNumText_any _ _ (ht.below B_w3) (by omega) (by omega)).mono ?_
  rintro e w4 ⟨rfl, h_w4⟩
  clear c_a_0_w3 c_a_1_w3 c_a_2_w3 c_a_3_w3 c_a_4_w3 c_a_5_w3 c_a_6_w3 c_a_7_w3 c_a_8_w3 c_l_0_w3 c_l_1_w3 c_l_2_w3
  replace x_a := x_a.from_ h_w4
  replace x_l := x_l.from_ h_w4
  have B_w4 := B_w3.trans (h_w4.mono B_w3.size)
  have s_w4 := h_w4.size
  rw [Hs1.out]
  replace own := own.below h_w4 (Nat.le_refl _)
  go_wp2_with (at_builtin; refine wpl_appF Value.string ByteArray.empty _ one_str rfl (.tmp 19) (.tmp 24) 58 rfl (w1.heap.size) 9 i0 _ 16 Tryd.underlying58 hi hz0 hz1 hz2 rfl _ [s0] rfl (own.alloc_ _) _ _ _ 1 [s1] rfl rfl (rdF_one _ _ _ _ _) (by simp) (by omega) (by simp; omega) ?_)
  intro v_w5 w5 o_w5 g_w5 at_w5
  have B_w5 : Below w.heap.size w w5 := grown_belowF (B_w4.alloc B_w4.size _) (own.alloc_ _) g_w5 (by omega) (by simp; omega)
  replace x_a := (x_a.alloc _).grow g_w5 (fun e => by have := (own.lt _ e.symm).1; omega)
  have lt_l := x_l.lt
  replace x_l := (x_l.alloc _).grow g_w5 (fun e => hne _ e.symm rfl)
  replace hne : ∀ j, v_w5.ownBlock = some j → j ≠ B := by
    intro j hj
    rcases at_w5 with e | e
    · rw [e] at hj; exact hne j hj
    · rw [e] at hj; have : w4.heap.size + 1 = j := by simpa using hj
      omega
  replace own : OwnF Value.string w5 (w1.heap.size) 9 v_w5 [s0, s1] := o_w5
  have s_w5 := B_w5.size
  have sz_w5 : w4.heap.size ≤ w5.heap.size := by have := g_w5.size; simp at this; omega
  clear o_w5 g_w5 at_w5
  go_wp2_with fail
  rw [rounds_succ]
  have c_a_0_w5 := x_a.cell (i := 0) rfl
  have c_a_1_w5 := x_a.cell (i := 1) rfl
  have c_a_2_w5 := x_a.cell (i := 2) rfl
  have c_a_3_w5 := x_a.cell (i := 3) rfl
  have c_a_4_w5 := x_a.cell (i := 4) rfl
  have c_a_5_w5 := x_a.cell (i := 5) rfl
  have c_a_6_w5 := x_a.cell (i := 6) rfl
  have c_a_7_w5 := x_a.cell (i := 7) rfl
  have c_a_8_w5 := x_a.cell (i := 8) rfl
  have c_l_0_w5 := x_l.cell (i := 0) rfl
  have c_l_1_w5 := x_l.cell (i := 1) rfl
  have c_l_2_w5 := x_l.cell (i := 2) rfl
  go_wp2_with fail
  refine (iNumText_any _ _ (ht.below B_w5) (by omega) (by omega)).mono ?_
  rintro e w6 ⟨rfl, h_w6⟩
  clear c_a_0_w5 c_a_1_w5 c_a_2_w5 c_a_3_w5 c_a_4_w5 c_a_5_w5 c_a_6_w5 c_a_7_w5 c_a_8_w5 c_l_0_w5 c_l_1_w5 c_l_2_w5
  replace x_a := x_a.from_ h_w6
  replace x_l := x_l.from_ h_w6
  have B_w6 := B_w5.trans (h_w6.mono B_w5.size)
  have s_w6 := h_w6.size
  rw [Hs3.out]
  replace own := own.below h_w6 (Nat.le_refl _)
  go_wp2_with (at_builtin; refine wpl_appF Value.string ByteArray.empty _ one_str rfl (.tmp 19) (.tmp 24) 58 rfl (w1.heap.size) 9 i0 _ 16 Tryd.underlying58 hi hz0 hz1 hz2 rfl _ [s0, s1] rfl (own.alloc_ _) _ _ _ 1 [s3] rfl rfl (rdF_one _ _ _ _ _) (by simp) (by omega) (by simp; omega) ?_)
  intro v_w7 w7 o_w7 g_w7 at_w7
  have B_w7 : Below w.heap.size w w7 := grown_belowF (B_w6.alloc B_w6.size _) (own.alloc_ _) g_w7 (by omega) (by simp; omega)
  replace x_a := (x_a.alloc _).grow g_w7 (fun e => by have := (own.lt _ e.symm).1; omega)
  have lt_l := x_l.lt
  replace x_l := (x_l.alloc _).grow g_w7 (fun e => hne _ e.symm rfl)
  replace hne : ∀ j, v_w7.ownBlock = some j → j ≠ B := by
    intro j hj
    rcases at_w7 with e | e
    · rw [e] at hj; exact hne j hj
    · rw [e] at hj; have : w6.heap.size + 1 = j := by simpa using hj
      omega
  replace own : OwnF Value.string w7 (w1.heap.size) 9 v_w7 [s0, s1, s3] := o_w7
  have s_w7 := B_w7.size
  have sz_w7 : w6.heap.size ≤ w7.heap.size := by have := g_w7.size; simp at this; omega
  clear o_w7 g_w7 at_w7
  go_wp2_with fail
  rw [rounds_succ]
  have c_a_0_w7 := x_a.cell (i := 0) rfl
  have c_a_1_w7 := x_a.cell (i := 1) rfl
  have c_a_2_w7 := x_a.cell (i := 2) rfl
  have c_a_3_w7 := x_a.cell (i := 3) rfl
  have c_a_4_w7 := x_a.cell (i := 4) rfl
  have c_a_5_w7 := x_a.cell (i := 5) rfl
  have c_a_6_w7 := x_a.cell (i := 6) rfl
  have c_a_7_w7 := x_a.cell (i := 7) rfl
  have c_a_8_w7 := x_a.cell (i := 8) rfl
  have c_l_0_w7 := x_l.cell (i := 0) rfl
  have c_l_1_w7 := x_l.cell (i := 1) rfl
  have c_l_2_w7 := x_l.cell (i := 2) rfl
  go_wp2_with fail
  refine (iNumText_any _ _ (ht.below B_w7) (by omega) (by omega)).mono ?_
  rintro e w8 ⟨rfl, h_w8⟩
  clear c_a_0_w7 c_a_1_w7 c_a_2_w7 c_a_3_w7 c_a_4_w7 c_a_5_w7 c_a_6_w7 c_a_7_w7 c_a_8_w7 c_l_0_w7 c_l_1_w7 c_l_2_w7
  replace x_a := x_a.from_ h_w8
  replace x_l := x_l.from_ h_w8
  have B_w8 := B_w7.trans (h_w8.mono B_w7.size)
  have s_w8 := h_w8.size
  rw [Hs4.out]
  replace own := own.below h_w8 (Nat.le_refl _)
  go_wp2_with (at_builtin; refine wpl_appF Value.string ByteArray.empty _ one_str rfl (.tmp 19) (.tmp 24) 58 rfl (w1.heap.size) 9 i0 _ 16 Tryd.underlying58 hi hz0 hz1 hz2 rfl _ [s0, s1, s3] rfl (own.alloc_ _) _ _ _ 1 [s4] rfl rfl (rdF_one _ _ _ _ _) (by simp) (by omega) (by simp; omega) ?_)
  intro v_w9 w9 o_w9 g_w9 at_w9
  have B_w9 : Below w.heap.size w w9 := grown_belowF (B_w8.alloc B_w8.size _) (own.alloc_ _) g_w9 (by omega) (by simp; omega)
  replace x_a := (x_a.alloc _).grow g_w9 (fun e => by have := (own.lt _ e.symm).1; omega)
  have lt_l := x_l.lt
  replace x_l := (x_l.alloc _).grow g_w9 (fun e => hne _ e.symm rfl)
  replace hne : ∀ j, v_w9.ownBlock = some j → j ≠ B := by
    intro j hj
    rcases at_w9 with e | e
    · rw [e] at hj; exact hne j hj
    · rw [e] at hj; have : w8.heap.size + 1 = j := by simpa using hj
      omega
  replace own : OwnF Value.string w9 (w1.heap.size) 9 v_w9 [s0, s1, s3, s4] := o_w9
  have s_w9 := B_w9.size
  have sz_w9 : w8.heap.size ≤ w9.heap.size := by have := g_w9.size; simp at this; omega
  clear o_w9 g_w9 at_w9
  go_wp2_with fail
  rw [rounds_succ]
  have c_a_0_w9 := x_a.cell (i := 0) rfl
  have c_a_1_w9 := x_a.cell (i := 1) rfl
  have c_a_2_w9 := x_a.cell (i := 2) rfl
  have c_a_3_w9 := x_a.cell (i := 3) rfl
  have c_a_4_w9 := x_a.cell (i := 4) rfl
  have c_a_5_w9 := x_a.cell (i := 5) rfl
  have c_a_6_w9 := x_a.cell (i := 6) rfl
  have c_a_7_w9 := x_a.cell (i := 7) rfl
  have c_a_8_w9 := x_a.cell (i := 8) rfl
  obtain ⟨A, c, rfl, hc1, hc2, hr⟩ := own.form (d := ByteArray.empty)
  obtain ⟨g, off, rfl, hg, hcell⟩ := hr (by simp)
  have hcs : ∀ (j : Nat) x, [s0, s1, s3, s4][j]? = some x → w9.cell? ⟨g, off + j, none⟩ = some (.string x) := by
    intro j x hj
    have hlt : j < [s0, s1, s3, s4].length := by rcases Nat.lt_or_ge j [s0, s1, s3, s4].length with h | h; exact h; rw [List.getElem?_eq_none h] at hj; cases hj
    have := hcell j hlt
    rw [List.getD_eq_getElem?_getD, hj] at this
    exact this
  have hlen : (Lib.join ([s0, s1, s3, s4].map (·.data.toList)) (⟨#[32]⟩ : ByteArray).data.toList).length ≤ 140737488355328 := by rw [join_len, HR.out]; omega
  clear hr hcell own
  go_wp2_with fail
  refine (Tryd.strings_Join g off c [s0, s1, s3, s4] ⟨#[32]⟩ _ hcs hg (by simp) hc1 hlen).mono ?_
  rintro e w10 ⟨rfl, h_w10⟩
  clear c_a_0_w9 c_a_1_w9 c_a_2_w9 c_a_3_w9 c_a_4_w9 c_a_5_w9 c_a_6_w9 c_a_7_w9 c_a_8_w9
  replace x_a := x_a.from_ h_w10
  have B_w10 := B_w9.trans (h_w10.mono B_w9.size)
  have s_w10 := h_w10.size
  rw [join_eq, HR.out]
  go_wp2
  go_ret
  exact ⟨ret_eq (by rw [HP.out]; rfl), B_w10⟩
set_option maxRecDepth 100000 in
set_option maxHeartbeats 4000000 in
theorem rtext_9 {w : World} (ht : Tab10 w) (a o t m k1 k2 k3 k4 : Int) (ho : recOkB ⟨9, a, o, t, m, ⟨k1, k2, k3, k4⟩⟩ = true) : Calls Tryd.prog 10 #[.agg #[.int .i64 9, .int .i64 a, .int .i64 o, .int .i64 t, .int .i64 m, .int .i64 k1, .int .i64 k2, .int .i64 k3, .int .i64 k4]] w fun e w' => e = .returned (.string (recText ⟨9, a, o, t, m, ⟨k1, k2, k3, k4⟩⟩)) ∧ Below w.heap.size w w' := by
  have hp := recOk_parts ho
  obtain ⟨-, q1, q2, q3, q4, q5, -⟩ := hp
  simp only at q1 q2 q3 q4
  have hsz := recText_size (⟨9, a, o, t, m, ⟨k1, k2, k3, k4⟩⟩ : MRec)
  have HP0 : recText ⟨9, a, o, t, m, ⟨k1, k2, k3, k4⟩⟩ = joinSp (rkName 9) [numText a, numText t] := by
    unfold recText; rw [if_pos ho]; simp [recWords, recFields, kAcct, kOther, kTo, kAmt]
  clear q5
  obtain ⟨s0, hs0⟩ : ∃ z, rkName 9 = z := ⟨_, rfl⟩
  obtain ⟨s1, hs1⟩ : ∃ z, numText a = z := ⟨_, rfl⟩
  obtain ⟨s3, hs3⟩ : ∃ z, numText t = z := ⟨_, rfl⟩
  rw [hs0, hs1, hs3] at HP0
  obtain ⟨R, hR⟩ : ∃ z, joinSp s0 [s1, s3] = z := ⟨_, rfl⟩
  rw [hR] at HP0
  rw [HP0] at hsz
  have HP := Lib.hid HP0
  have HR := Lib.hid hR
  have Hs0 := Lib.hid hs0
  have Hs1 := Lib.hid hs1
  have Hs3 := Lib.hid hs3
  have HO := Lib.hid ho
  clear ho HP0 hR hs0 hs1 hs3
  obtain ⟨i0, hi, hz0, hz1, hz2⟩ := info_parts Tryd.info_str
  obtain ⟨wa, hwa, B0, sa, x_a⟩ := frame1 w 26 [.int .i64 9, .int .i64 a, .int .i64 o, .int .i64 t, .int .i64 m, .int .i64 k1, .int .i64 k2, .int .i64 k3, .int .i64 k4]
  have sa_1 := Nat.le_of_eq sa
  have sa_2 := Nat.le_of_eq sa.symm
  clear sa
  have c_a_0_wa := x_a.cell (i := 0) rfl
  have c_a_1_wa := x_a.cell (i := 1) rfl
  have c_a_2_wa := x_a.cell (i := 2) rfl
  have c_a_3_wa := x_a.cell (i := 3) rfl
  have c_a_4_wa := x_a.cell (i := 4) rfl
  have c_a_5_wa := x_a.cell (i := 5) rfl
  have c_a_6_wa := x_a.cell (i := 6) rfl
  have c_a_7_wa := x_a.cell (i := 7) rfl
  have c_a_8_wa := x_a.cell (i := 8) rfl
  have rv : RV recL wa (.agg #[.int .i64 9, .int .i64 a, .int .i64 o, .int .i64 t, .int .i64 m, .int .i64 k1, .int .i64 k2, .int .i64 k3, .int .i64 k4]) ⟨9, a, o, t, m, ⟨k1, k2, k3, k4⟩⟩ := rv_rec_mk (zM := ⟨k1, k2, k3, k4⟩)
  go_enter Tryd.func10, Tryd.ntmps10
  go_wp2_with fail
  refine (iRecOk_c rv).mono ?_
  rintro e w1 ⟨rfl, h_w1⟩
  clear c_a_0_wa c_a_1_wa c_a_2_wa c_a_3_wa c_a_4_wa c_a_5_wa c_a_6_wa c_a_7_wa c_a_8_wa
  replace x_a := x_a.from_ h_w1
  have B_w1 := B0.trans (h_w1.mono B0.size)
  have s_w1 := h_w1.size
  rw [HO.out]
  clear rv
  have c_a_0_w1 := x_a.cell (i := 0) rfl
  have c_a_1_w1 := x_a.cell (i := 1) rfl
  have c_a_2_w1 := x_a.cell (i := 2) rfl
  have c_a_3_w1 := x_a.cell (i := 3) rfl
  have c_a_4_w1 := x_a.cell (i := 4) rfl
  have c_a_5_w1 := x_a.cell (i := 5) rfl
  have c_a_6_w1 := x_a.cell (i := 6) rfl
  have c_a_7_w1 := x_a.cell (i := 7) rfl
  have c_a_8_w1 := x_a.cell (i := 8) rfl
  go_wp2_with fail
  refine (iRkName_w _ _).mono ?_
  rintro e w' ⟨rfl, rfl⟩
  rw [Hs0.out]
  obtain ⟨w2, e_w2, s_w2, h_w2, x_s⟩ := alloc_step w1 9 [.string s0]
  have s_w2_1 := Nat.le_of_eq s_w2
  have s_w2_2 := Nat.le_of_eq s_w2.symm
  clear s_w2
  replace x_a := x_a.from_ h_w2
  have B_w2 := B_w1.trans (h_w2.mono B_w1.size)
  have own := own_vr (base := w1.heap.size) (xs := [s0]) x_s (Nat.le_refl _) (by simp)
  have c_a_0_w2 := x_a.cell (i := 0) rfl
  have f_a_0_w2 := x_a.frozen 0
  have c_a_1_w2 := x_a.cell (i := 1) rfl
  have f_a_1_w2 := x_a.frozen 1
  have c_a_2_w2 := x_a.cell (i := 2) rfl
  have f_a_2_w2 := x_a.frozen 2
  have c_a_3_w2 := x_a.cell (i := 3) rfl
  have f_a_3_w2 := x_a.frozen 3
  have c_a_4_w2 := x_a.cell (i := 4) rfl
  have f_a_4_w2 := x_a.frozen 4
  have c_a_5_w2 := x_a.cell (i := 5) rfl
  have f_a_5_w2 := x_a.frozen 5
  have c_a_6_w2 := x_a.cell (i := 6) rfl
  have f_a_6_w2 := x_a.frozen 6
  have c_a_7_w2 := x_a.cell (i := 7) rfl
  have f_a_7_w2 := x_a.frozen 7
  have c_a_8_w2 := x_a.cell (i := 8) rfl
  have f_a_8_w2 := x_a.frozen 8
  go_wp2_with fail
  refine (iUsed_9 x_a rfl).mono ?_
  rintro e w3 ⟨B, T, rfl, x_l, hB, h_w3⟩
  clear c_a_0_w1 c_a_1_w1 c_a_2_w1 c_a_3_w1 c_a_4_w1 c_a_5_w1 c_a_6_w1 c_a_7_w1 c_a_8_w1 c_a_0_w2 f_a_0_w2 c_a_1_w2 f_a_1_w2 c_a_2_w2 f_a_2_w2 c_a_3_w2 f_a_3_w2 c_a_4_w2 f_a_4_w2 c_a_5_w2 f_a_5_w2 c_a_6_w2 f_a_6_w2 c_a_7_w2 f_a_7_w2 c_a_8_w2 f_a_8_w2
  replace x_a := x_a.from_ h_w3
  have B_w3 := B_w2.trans (h_w3.mono B_w2.size)
  have s_w3 := h_w3.size
  replace own := own.below h_w3 (Nat.le_refl _)
  have hne : ∀ j, (Value.slice (some ⟨w1.heap.size, 0, none⟩) [s0].length [s0].length).ownBlock = some j → j ≠ B := by
    intro j hj
    have : w1.heap.size = j := by simpa [Value.ownBlock] using hj
    omega
  have c_a_0_w3 := x_a.cell (i := 0) rfl
  have c_a_1_w3 := x_a.cell (i := 1) rfl
  have c_a_2_w3 := x_a.cell (i := 2) rfl
  have c_a_3_w3 := x_a.cell (i := 3) rfl
  have c_a_4_w3 := x_a.cell (i := 4) rfl
  have c_a_5_w3 := x_a.cell (i := 5) rfl
  have c_a_6_w3 := x_a.cell (i := 6) rfl
  have c_a_7_w3 := x_a.cell (i := 7) rfl
  have c_a_8_w3 := x_a.cell (i := 8) rfl
  have c_l_0_w3 := x_l.cell (i := 0) rfl
  have c_l_1_w3 := x_l.cell (i := 1) rfl
  go_wp2_with fail
  refine wp_loop_rounds 3 ?_
  rw [rounds_succ]
  clear c_a_0_w3 c_a_1_w3 c_a_2_w3 c_a_3_w3 c_a_4_w3 c_a_5_w3 c_a_6_w3 c_a_7_w3 c_a_8_w3 c_l_0_w3 c_l_1_w3
  have c_a_0_w3 := x_a.cell (i := 0) rfl
  have c_a_1_w3 := x_a.cell (i := 1) rfl
  have c_a_2_w3 := x_a.cell (i := 2) rfl
  have c_a_3_w3 := x_a.cell (i := 3) rfl
  have c_a_4_w3 := x_a.cell (i := 4) rfl
  have c_a_5_w3 := x_a.cell (i := 5) rfl
  have c_a_6_w3 := x_a.cell (i := 6) rfl
  have c_a_7_w3 := x_a.cell (i := 7) rfl
  have c_a_8_w3 := x_a.cell (i := 8) rfl
  have c_l_0_w3 := x_l.cell (i := 0) rfl
  have c_l_1_w3 := x_l.cell (i := 1) rfl
  go_wp2_with fail
  refine (iNumText_any _ _ (ht.below B_w3) (by omega) (by omega)).mono ?_
  rintro e w4 ⟨rfl, h_w4⟩
  clear c_a_0_w3 c_a_1_w3 c_a_2_w3 c_a_3_w3 c_a_4_w3 c_a_5_w3 c_a_6_w3 c_a_7_w3 c_a_8_w3 c_l_0_w3 c_l_1_w3
  replace x_a := x_a.from_ h_w4
  replace x_l := x_l.from_ h_w4
  have B_w4 := B_w3.trans (h_w4.mono B_w3.size)
  have s_w4 := h_w4.size
  rw [Hs1.out]
  replace own := own.below h_w4 (Nat.le_refl _)
  go_wp2_with (at_builtin; refine wpl_appF Value.string ByteArray.empty _ one_str rfl (.tmp 19) (.tmp 24) 58 rfl (w1.heap.size) 9 i0 _ 16 Tryd.underlying58 hi hz0 hz1 hz2 rfl _ [s0] rfl (own.alloc_ _) _ _ _ 1 [s1] rfl rfl (rdF_one _ _ _ _ _) (by simp) (by omega) (by simp; omega) ?_)
  intro v_w5 w5 o_w5 g_w5 at_w5
  have B_w5 : Below w.heap.size w w5 := grown_belowF (B_w4.alloc B_w4.size _) (own.alloc_ _) g_w5 (by omega) (by simp; omega)
  replace x_a := (x_a.alloc _).grow g_w5 (fun e => by have := (own.lt _ e.symm).1; omega)
  have lt_l := x_l.lt
  replace x_l := (x_l.alloc _).grow g_w5 (fun e => hne _ e.symm rfl)
  replace hne : ∀ j, v_w5.ownBlock = some j → j ≠ B := by
    intro j hj
    rcases at_w5 with e | e
    · rw [e] at hj; exact hne j hj
    · rw [e] at hj; have : w4.heap.size + 1 = j := by simpa using hj
      omega
  replace own : OwnF Value.string w5 (w1.heap.size) 9 v_w5 [s0, s1] := o_w5
  have s_w5 := B_w5.size
  have sz_w5 : w4.heap.size ≤ w5.heap.size := by have := g_w5.size; simp at this; omega
  clear o_w5 g_w5 at_w5
  go_wp2_with fail
  rw [rounds_succ]
  have c_a_0_w5 := x_a.cell (i := 0) rfl
  have c_a_1_w5 := x_a.cell (i := 1) rfl
  have c_a_2_w5 := x_a.cell (i := 2) rfl
  have c_a_3_w5 := x_a.cell (i := 3) rfl
  have c_a_4_w5 := x_a.cell (i := 4) rfl
  have c_a_5_w5 := x_a.cell (i := 5) rfl
  have c_a_6_w5 := x_a.cell (i := 6) rfl
  have c_a_7_w5 := x_a.cell (i := 7) rfl
  have c_a_8_w5 := x_a.cell (i := 8) rfl
  have c_l_0_w5 := x_l.cell (i := 0) rfl
  have c_l_1_w5 := x_l.cell (i := 1) rfl
  go_wp2_with fail
  refine (iNumText_any _ _ (ht.below B_w5) (by omega) (by omega)).mono ?_
  rintro e w6 ⟨rfl, h_w6⟩
  clear c_a_0_w5 c_a_1_w5 c_a_2_w5 c_a_3_w5 c_a_4_w5 c_a_5_w5 c_a_6_w5 c_a_7_w5 c_a_8_w5 c_l_0_w5 c_l_1_w5
  replace x_a := x_a.from_ h_w6
  replace x_l := x_l.from_ h_w6
  have B_w6 := B_w5.trans (h_w6.mono B_w5.size)
  have s_w6 := h_w6.size
  rw [Hs3.out]
  replace own := own.below h_w6 (Nat.le_refl _)
  go_wp2_with (at_builtin; refine wpl_appF Value.string ByteArray.empty _ one_str rfl (.tmp 19) (.tmp 24) 58 rfl (w1.heap.size) 9 i0 _ 16 Tryd.underlying58 hi hz0 hz1 hz2 rfl _ [s0, s1] rfl (own.alloc_ _) _ _ _ 1 [s3] rfl rfl (rdF_one _ _ _ _ _) (by simp) (by omega) (by simp; omega) ?_)
  intro v_w7 w7 o_w7 g_w7 at_w7
  have B_w7 : Below w.heap.size w w7 := grown_belowF (B_w6.alloc B_w6.size _) (own.alloc_ _) g_w7 (by omega) (by simp; omega)
  replace x_a := (x_a.alloc _).grow g_w7 (fun e => by have := (own.lt _ e.symm).1; omega)
  have lt_l := x_l.lt
  replace x_l := (x_l.alloc _).grow g_w7 (fun e => hne _ e.symm rfl)
  replace hne : ∀ j, v_w7.ownBlock = some j → j ≠ B := by
    intro j hj
    rcases at_w7 with e | e
    · rw [e] at hj; exact hne j hj
    · rw [e] at hj; have : w6.heap.size + 1 = j := by simpa using hj
      omega
  replace own : OwnF Value.string w7 (w1.heap.size) 9 v_w7 [s0, s1, s3] := o_w7
  have s_w7 := B_w7.size
  have sz_w7 : w6.heap.size ≤ w7.heap.size := by have := g_w7.size; simp at this; omega
  clear o_w7 g_w7 at_w7
  go_wp2_with fail
  rw [rounds_succ]
  have c_a_0_w7 := x_a.cell (i := 0) rfl
  have c_a_1_w7 := x_a.cell (i := 1) rfl
  have c_a_2_w7 := x_a.cell (i := 2) rfl
  have c_a_3_w7 := x_a.cell (i := 3) rfl
  have c_a_4_w7 := x_a.cell (i := 4) rfl
  have c_a_5_w7 := x_a.cell (i := 5) rfl
  have c_a_6_w7 := x_a.cell (i := 6) rfl
  have c_a_7_w7 := x_a.cell (i := 7) rfl
  have c_a_8_w7 := x_a.cell (i := 8) rfl
  obtain ⟨A, c, rfl, hc1, hc2, hr⟩ := own.form (d := ByteArray.empty)
  obtain ⟨g, off, rfl, hg, hcell⟩ := hr (by simp)
  have hcs : ∀ (j : Nat) x, [s0, s1, s3][j]? = some x → w7.cell? ⟨g, off + j, none⟩ = some (.string x) := by
    intro j x hj
    have hlt : j < [s0, s1, s3].length := by rcases Nat.lt_or_ge j [s0, s1, s3].length with h | h; exact h; rw [List.getElem?_eq_none h] at hj; cases hj
    have := hcell j hlt
    rw [List.getD_eq_getElem?_getD, hj] at this
    exact this
  have hlen : (Lib.join ([s0, s1, s3].map (·.data.toList)) (⟨#[32]⟩ : ByteArray).data.toList).length ≤ 140737488355328 := by rw [join_len, HR.out]; omega
  clear hr hcell own
  go_wp2_with fail
  refine (Tryd.strings_Join g off c [s0, s1, s3] ⟨#[32]⟩ _ hcs hg (by simp) hc1 hlen).mono ?_
  rintro e w8 ⟨rfl, h_w8⟩
  clear c_a_0_w7 c_a_1_w7 c_a_2_w7 c_a_3_w7 c_a_4_w7 c_a_5_w7 c_a_6_w7 c_a_7_w7 c_a_8_w7
  replace x_a := x_a.from_ h_w8
  have B_w8 := B_w7.trans (h_w8.mono B_w7.size)
  have s_w8 := h_w8.size
  rw [join_eq, HR.out]
  go_wp2
  go_ret
  exact ⟨ret_eq (by rw [HP.out]; rfl), B_w8⟩
set_option maxRecDepth 100000 in
set_option maxHeartbeats 4000000 in
theorem iRecText_c {w : World} {v : Value} {r : MRec} (ht : Tab10 w) (h : RV recL w v r) : Calls Tryd.prog 10 #[v] w fun e w' => e = .returned (.string (recText r)) ∧ Below w.heap.size w w' := by
  by_cases ho : recOkB r = true
  case neg =>
    have ho' : recOkB r = false := by simpa using ho
    have HP : Hid (recText r = ⟨#[]⟩) := by show _ = _; unfold recText; rw [if_neg ho]
    have HO := Lib.hid ho'
    clear ho ho'
    have h1 := h
    obtain rfl := rv_rec h1
    clear h1
    obtain ⟨wa, hwa, B0, sa, x_a⟩ := frame1 w 26 [.int .i64 r.Kind, .int .i64 r.Acct, .int .i64 r.Other, .int .i64 r.To, .int .i64 r.Amt, .int .i64 r.M.Kind, .int .i64 r.M.Acct, .int .i64 r.M.Amt, .int .i64 r.M.Src]
    have c0 := x_a.cell (i := 0) rfl
    have c1 := x_a.cell (i := 1) rfl
    have c2 := x_a.cell (i := 2) rfl
    have c3 := x_a.cell (i := 3) rfl
    have c4 := x_a.cell (i := 4) rfl
    have c5 := x_a.cell (i := 5) rfl
    have c6 := x_a.cell (i := 6) rfl
    have c7 := x_a.cell (i := 7) rfl
    have c8 := x_a.cell (i := 8) rfl
    clear sa
    go_enter Tryd.func10, Tryd.ntmps10
    go_wp2_with fail
    refine (iRecOk_c (h.from_ B0)).mono ?_
    rintro e w1 ⟨rfl, h1⟩
    rw [HO.out]
    go_wp2
    go_ret
    exact ⟨ret_eq (by rw [HP.out]; rfl), B0.trans (h1.mono B0.size)⟩
  obtain rfl := rv_rec h
  obtain ⟨k, a, o, t, m, ⟨k1, k2, k3, k4⟩⟩ := r
  have h9 := kinds9 (recOk_parts ho).1
  dsimp only at h9
  rcases h9 with rfl | rfl | rfl | rfl | rfl | rfl | rfl | rfl | rfl
  · exact rtext_1 ht a o t m k1 k2 k3 k4 ho
  · exact rtext_2 ht a o t m k1 k2 k3 k4 ho
  · exact rtext_3 ht a o t m k1 k2 k3 k4 ho
  · exact rtext_4 ht a o t m k1 k2 k3 k4 ho
  · exact rtext_5 ht a o t m k1 k2 k3 k4 ho
  · exact rtext_6 ht a o t m k1 k2 k3 k4 ho
  · exact rtext_7 ht a o t m k1 k2 k3 k4 ho
  · exact rtext_8 ht a o t m k1 k2 k3 k4 ho
  · exact rtext_9 ht a o t m k1 k2 k3 k4 ho
end Go.Proofs.YtkbhbccpmmhelaaDoor
namespace Go.Proofs.YtkbhbccpmmhelaaDoor
open Go.RowKit
set_option linter.unusedVariables false
def recRd (zs : List Int) : MRec × Bool :=
  let a := rdNum zs 0 false
  let b := rdNum zs a.2.1 a.2.2
  let c := rdNum zs b.2.1 b.2.2
  let d := rdNum zs c.2.1 c.2.2
  let e := rdNum zs d.2.1 d.2.2
  if a.1 = 5 then (⟨a.1, b.1, c.1, d.1, e.1, (rdMsg zs e.2.1 e.2.2).1⟩, (rdMsg zs e.2.1 e.2.2).2.2) else (⟨a.1, b.1, c.1, d.1, e.1, ⟨0, 0, 0, 0⟩⟩, e.2.2)
def bytesRecB (zs : List Int) : Bool := !(recRd zs).2 && (recOkB (recRd zs).1 && decide (recBytes (recRd zs).1 = zs))
def bytesRec (zs : List Int) : MRec := if bytesRecB zs = true then (recRd zs).1 else recZ
theorem bytes_of_all {zs : List Int} (h : ∀ x ∈ zs, 0 ≤ x ∧ x ≤ 255) : Bytes zs := by
  intro j
  by_cases hj : j < zs.length
  · rw [show zs.getD j 0 = zs[j] by simp [hj]]
    exact h _ (List.getElem_mem hj)
  · rw [show zs.getD j 0 = 0 by simp; rw [List.getElem?_eq_none (by omega)]; rfl]
    omega
theorem encs_all (ns : List Int) : ∀ x ∈ encs ns, 0 ≤ x ∧ x ≤ 255 := by
  intro x hx
  unfold encs at hx
  rw [List.mem_flatten] at hx
  obtain ⟨l, hl, hx⟩ := hx
  rw [List.mem_map] at hl
  obtain ⟨n, -, rfl⟩ := hl
  exact enc_bytes _ _ hx
theorem recBytes_bytes (r : MRec) : Bytes (recBytes r) := by
  apply bytes_of_all
  intro x hx
  unfold recBytes at hx
  split at hx
  · split at hx
    · rcases List.mem_append.1 hx with h | h
      · exact encs_all _ _ h
      · exact encs_all _ _ h
    · exact encs_all _ _ hx
  · cases hx
end Go.Proofs.YtkbhbccpmmhelaaDoor
namespace Go.Proofs.YtkbhbccpmmhelaaDoor
set_option linter.unusedVariables false
set_option linter.unusedSimpArgs false
theorem rdNum_enc (xs ys : List Int) {n : Int} (h : 0 ≤ n ∧ n ≤ 1125899906842624) : rdNum (xs ++ (enc n.toNat ++ ys)) (xs.length : Int) false = (n, (((xs ++ enc n.toNat).length : Nat) : Int), false) := by
  obtain ⟨k, rfl⟩ : ∃ k : Nat, n = (k : Int) := ⟨n.toNat, by omega⟩
  rw [Int.toNat_natCast, rdNum_some (getNum_enc xs ys k (by omega)), List.length_append]
  rw [Int.natCast_add]
theorem rdNum_at {zs xs ys : List Int} {n p : Int} (h : 0 ≤ n ∧ n ≤ 1125899906842624) (hz : zs = xs ++ (enc n.toNat ++ ys)) (hp : p = (xs.length : Int)) : rdNum zs p false = (n, (((xs ++ enc n.toNat).length : Nat) : Int), false) := by
  subst hz; subst hp; exact rdNum_enc xs ys h
theorem rdMsg_at {zs xs ys : List Int} {m : MMsg} {p : Int} (h : msgOkB m = true) (hz : zs = xs ++ (encs (msgNums m) ++ ys)) (hp : p = (xs.length : Int)) : rdMsg zs p false = (m, (((xs ++ encs (msgNums m)).length : Nat) : Int), false) := by
  obtain ⟨q1, q2, -, q3, q4⟩ := msgOk_parts h
  have e : encs (msgNums m) = enc m.Kind.toNat ++ (enc m.Acct.toNat ++ (enc m.Amt.toNat ++ enc m.Src.toNat)) := by simp [encs, msgNums]
  rw [e] at hz ⊢
  have h1 := rdNum_at (zs := zs) (xs := xs) (ys := enc m.Acct.toNat ++ (enc m.Amt.toNat ++ (enc m.Src.toNat ++ ys))) (n := m.Kind) (p := p) (by omega) (by rw [hz]; simp [List.append_assoc]) hp
  have h2 := rdNum_at (zs := zs) (xs := xs ++ enc m.Kind.toNat) (ys := enc m.Amt.toNat ++ (enc m.Src.toNat ++ ys)) (n := m.Acct) (p := ((xs ++ enc m.Kind.toNat).length : Nat)) (by omega) (by rw [hz]; simp [List.append_assoc]) rfl
  have h3 := rdNum_at (zs := zs) (xs := (xs ++ enc m.Kind.toNat) ++ enc m.Acct.toNat) (ys := enc m.Src.toNat ++ ys) (n := m.Amt) (p := (((xs ++ enc m.Kind.toNat) ++ enc m.Acct.toNat).length : Nat)) (by omega) (by rw [hz]; simp [List.append_assoc]) rfl
  have h4 := rdNum_at (zs := zs) (xs := ((xs ++ enc m.Kind.toNat) ++ enc m.Acct.toNat) ++ enc m.Amt.toNat) (ys := ys) (n := m.Src) (p := ((((xs ++ enc m.Kind.toNat) ++ enc m.Acct.toNat) ++ enc m.Amt.toNat).length : Nat)) (by omega) (by rw [hz]; simp [List.append_assoc]) rfl
  unfold rdMsg
  simp only [h1, h2, h3, h4]
  have hm : (⟨m.Kind, m.Acct, m.Amt, m.Src⟩ : MMsg) = m := rfl
  rw [hm, h]
  simp [List.append_assoc]
theorem recRd_bytes {r : MRec} (h : recOkB r = true) (ys : List Int) : recRd (recBytes r ++ ys) = (r, false) := by
  obtain ⟨q1, q2, q3, q4, q5, q6, q7⟩ := recOk_parts h
  have e : encs (recHead r) = enc r.Kind.toNat ++ (enc r.Acct.toNat ++ (enc r.Other.toNat ++ (enc r.To.toNat ++ enc r.Amt.toNat))) := by simp [encs, recHead]
  obtain ⟨tl, htl⟩ : ∃ tl, recBytes r ++ ys = enc r.Kind.toNat ++ (enc r.Acct.toNat ++ (enc r.Other.toNat ++ (enc r.To.toNat ++ (enc r.Amt.toNat ++ tl)))) ∧ (r.Kind = 5 → tl = encs (msgNums r.M) ++ ys) := by
    by_cases h5 : r.Kind = 5
    · refine ⟨encs (msgNums r.M) ++ ys, ?_, fun _ => rfl⟩
      unfold recBytes
      rw [if_pos h, if_pos h5, e]
      simp only [List.append_assoc]
    · refine ⟨ys, ?_, fun h => absurd h h5⟩
      unfold recBytes
      rw [if_pos h, if_neg h5, e]
      simp only [List.append_assoc]
  generalize hz : recBytes r ++ ys = zs at htl
  have h1 := rdNum_at (zs := zs) (xs := []) (ys := enc r.Acct.toNat ++ (enc r.Other.toNat ++ (enc r.To.toNat ++ (enc r.Amt.toNat ++ tl)))) (n := r.Kind) (p := 0) (by omega) (by rw [htl.1]; simp [List.append_assoc]) rfl
  have h2 := rdNum_at (zs := zs) (xs := [] ++ enc r.Kind.toNat) (ys := enc r.Other.toNat ++ (enc r.To.toNat ++ (enc r.Amt.toNat ++ tl))) (n := r.Acct) (p := (([] ++ enc r.Kind.toNat).length : Nat)) (by omega) (by rw [htl.1]; simp [List.append_assoc]) rfl
  have h3 := rdNum_at (zs := zs) (xs := ([] ++ enc r.Kind.toNat) ++ enc r.Acct.toNat) (ys := enc r.To.toNat ++ (enc r.Amt.toNat ++ tl)) (n := r.Other) (p := ((([] ++ enc r.Kind.toNat) ++ enc r.Acct.toNat).length : Nat)) (by omega) (by rw [htl.1]; simp [List.append_assoc]) rfl
  have h4 := rdNum_at (zs := zs) (xs := (([] ++ enc r.Kind.toNat) ++ enc r.Acct.toNat) ++ enc r.Other.toNat) (ys := enc r.Amt.toNat ++ tl) (n := r.To) (p := (((([] ++ enc r.Kind.toNat) ++ enc r.Acct.toNat) ++ enc r.Other.toNat).length : Nat)) (by omega) (by rw [htl.1]; simp [List.append_assoc]) rfl
  have h5 := rdNum_at (zs := zs) (xs := ((([] ++ enc r.Kind.toNat) ++ enc r.Acct.toNat) ++ enc r.Other.toNat) ++ enc r.To.toNat) (ys := tl) (n := r.Amt) (p := ((((([] ++ enc r.Kind.toNat) ++ enc r.Acct.toNat) ++ enc r.Other.toNat) ++ enc r.To.toNat).length : Nat)) (by omega) (by rw [htl.1]; simp [List.append_assoc]) rfl
  unfold recRd
  simp only [h1, h2, h3, h4, h5]
  by_cases k5 : r.Kind = 5
  · have h6 := rdMsg_at (zs := zs) (xs := (((([] ++ enc r.Kind.toNat) ++ enc r.Acct.toNat) ++ enc r.Other.toNat) ++ enc r.To.toNat) ++ enc r.Amt.toNat) (ys := ys) (m := r.M) (p := (((((([] ++ enc r.Kind.toNat) ++ enc r.Acct.toNat) ++ enc r.Other.toNat) ++ enc r.To.toNat) ++ enc r.Amt.toNat).length : Nat)) (q6 k5) (by rw [htl.1, htl.2 k5]; simp [List.append_assoc]) rfl
    rw [if_pos k5, h6]
  · rw [if_neg k5, ← q7 k5]
theorem bytesRec_bytes {r : MRec} (h : recOkB r = true) : bytesRecB (recBytes r) = true ∧ bytesRec (recBytes r) = r := by
  have e := recRd_bytes h []
  rw [List.append_nil] at e
  have hB : bytesRecB (recBytes r) = true := by
    unfold bytesRecB
    rw [e]
    show (!false && (recOkB r && decide (recBytes r = recBytes r))) = true
    rw [h, decide_eq_true rfl]
    rfl
  refine ⟨hB, ?_⟩
  unfold bytesRec
  rw [if_pos hB, e]
theorem bytesRec_more {r : MRec} (h : recOkB r = true) : bytesRecB (recBytes r ++ [0]) = false := by
  unfold bytesRecB
  rw [recRd_bytes h]
  show (!false && (recOkB r && decide (recBytes r = recBytes r ++ [0]))) = false
  rw [decide_eq_false (by intro e; have := congrArg List.length e; simp at this), h]
  rfl
theorem msgGet_at {zs xs ys : List Int} {m : MMsg} {p : Int} (h : msgOkB m = true) (hz : zs = xs ++ (encs (msgNums m) ++ ys)) (hp : p = (xs.length : Int)) : msgGetB zs p = true ∧ msgGetM zs p = m ∧ msgGetP zs p = (((xs ++ encs (msgNums m)).length : Nat) : Int) := by
  have e := rdMsg_at h hz hp
  have hB : msgGetB zs p = true := by unfold msgGetB; rw [e]; rfl
  refine ⟨hB, ?_, ?_⟩
  · unfold msgGetM; rw [if_pos hB, e]
  · unfold msgGetP; rw [if_pos hB, e]
def msgsEnc (l : List MMsg) : List Int := (l.map fun m => encs (msgNums m)).flatten
theorem msgsEnc_snoc (l : List MMsg) (m : MMsg) : msgsEnc (l ++ [m]) = msgsEnc l ++ encs (msgNums m) := by simp [msgsEnc]
def NoSp (x : ByteArray) : Prop := ∀ j, j < x.size → (x.get! j).toNat ≠ 32
theorem get_left (a b : ByteArray) {j : Nat} (h : j < a.size) : (a ++ b).get! j = a.get! j := by
  rw [get_toList _ _ (by rw [ByteArray.size_append]; omega), get_toList _ _ h]
  simp only [ByteArray.data_append, Array.toList_append]
  rw [List.getElem_append_left]
theorem get_right (a b : ByteArray) {j : Nat} (h : j < b.size) : (a ++ b).get! (a.size + j) = b.get! j := by
  rw [get_toList _ _ (by rw [ByteArray.size_append]; omega), get_toList _ _ h]
  simp only [ByteArray.data_append, Array.toList_append]
  rw [List.getElem_append_right (by simp)]
  simp
theorem extract_left (a b : ByteArray) {i n : Nat} (h : n ≤ a.size) : (a ++ b).extract i n = a.extract i n := by
  apply WideShapes.bytes_inj
  simp only [ByteArray.data_extract, ByteArray.data_append, Array.toList_extract, Array.toList_append, List.extract_eq_take_drop]
  have hl : a.data.toList.length = a.size := by simp
  rcases Nat.lt_or_ge n i with hi | hi
  · rw [show n - i = 0 by omega]; simp
  · rw [List.drop_append_of_le_length (by omega), List.take_append_of_le_length (by simp; omega)]
theorem extract_right (a b : ByteArray) : (a ++ b).extract a.size (a.size + b.size) = b := by
  apply WideShapes.bytes_inj
  simp only [ByteArray.data_extract, ByteArray.data_append, Array.toList_extract, Array.toList_append, List.extract_eq_take_drop]
  have hl : a.data.toList.length = a.size := by simp
  have hb : b.data.toList.length = b.size := by simp
  rw [← hl, List.drop_left, List.take_of_length_le (by omega)]
theorem extract_all (b : ByteArray) : b.extract 0 b.size = b := by
  apply WideShapes.bytes_inj
  simp only [ByteArray.data_extract, Array.toList_extract, List.extract_eq_take_drop]
  have hb : b.data.toList.length = b.size := by simp
  rw [List.drop_zero, List.take_of_length_le (by omega)]
theorem splitSt_left (a b : ByteArray) (c : Nat) : ∀ k, k ≤ a.size → splitSt (a ++ b) c k = splitSt a c k := by
  intro k
  induction k with
  | zero => intro _; rfl
  | succ k ih =>
    intro hk
    unfold splitSt
    rw [ih (by omega), get_left a b (by omega)]
    split
    · rw [extract_left a b (by omega)]
    · rfl
theorem splitL_one {s : ByteArray} (h : NoSp s) : splitL s 32 = [s] := by
  have e : splitSt s 32 (0 + s.size) = splitSt s 32 0 := splitSt_skip 0 s.size (fun j hj => by rw [Nat.zero_add]; exact h j hj)
  rw [Nat.zero_add] at e
  unfold splitL
  rw [e]
  show [] ++ [s.extract 0 s.size] = [s]
  rw [extract_all]
  rfl
theorem splitL_snoc (s : ByteArray) {x : ByteArray} (h : NoSp x) : splitL (s ++ ⟨#[32]⟩ ++ x) 32 = splitL s 32 ++ [x] := by
  have h1 : (⟨#[32]⟩ : ByteArray).size = 1 := rfl
  have hz : (s ++ ⟨#[32]⟩ ++ x).size = s.size + 1 + x.size := by simp only [ByteArray.size_append]; omega
  have e0 : splitSt (s ++ ⟨#[32]⟩ ++ x) 32 s.size = splitSt s 32 s.size := by rw [ByteArray.append_assoc]; exact splitSt_left _ _ _ _ (Nat.le_refl _)
  have g0 : ((s ++ ⟨#[32]⟩ ++ x).get! s.size).toNat = 32 := by
    rw [ByteArray.append_assoc]
    have := get_right s (⟨#[32]⟩ ++ x) (j := 0) (by rw [ByteArray.size_append]; omega)
    rw [Nat.add_zero] at this
    rw [this, get_left _ _ (by omega)]
    rfl
  have e1 := splitSt_hit (s := s ++ ⟨#[32]⟩ ++ x) (b := 32) (k := s.size) g0
  have e2 : splitSt (s ++ ⟨#[32]⟩ ++ x) 32 (s.size + 1 + x.size) = splitSt (s ++ ⟨#[32]⟩ ++ x) 32 (s.size + 1) :=
    splitSt_skip (s.size + 1) x.size (fun j hj => by
      have := get_right (s ++ ⟨#[32]⟩) x hj
      rw [ByteArray.size_append, h1] at this
      rw [this]
      exact h j hj)
  unfold splitL
  rw [hz, e2, e1, e0]
  show ((splitSt s 32 s.size).1 ++ [(s ++ ⟨#[32]⟩ ++ x).extract (splitSt s 32 s.size).2 s.size]) ++ [(s ++ ⟨#[32]⟩ ++ x).extract (s.size + 1) (s.size + 1 + x.size)] = _
  congr 1
  · congr 2
    rw [ByteArray.append_assoc]
    exact extract_left _ _ (Nat.le_refl _)
  · have := extract_right (s ++ ⟨#[32]⟩) x
    rw [ByteArray.size_append, h1] at this
    rw [this]
theorem splitL_join (ws : List ByteArray) : ∀ s, (∀ x ∈ ws, NoSp x) → splitL (joinSp s ws) 32 = splitL s 32 ++ ws := by
  induction ws with
  | nil => intro s _; simp [joinSp]
  | cons x xs ih =>
    intro s h
    have e : joinSp s (x :: xs) = joinSp (s ++ ⟨#[32]⟩ ++ x) xs := rfl
    rw [e, ih _ (fun y hy => h y (List.mem_cons_of_mem _ hy)), splitL_snoc s (h x (List.mem_cons_self ..)), List.append_assoc]
    rfl
theorem noSp_num (n : Int) : NoSp (numText n) := by
  intro j hj
  unfold numText at hj ⊢
  split
  · rename_i hn
    rw [if_pos hn] at hj
    have h1 := (dec_val n.toNat).2
    rw [List.all_eq_true] at h1
    have h2 := h1 _ (List.getElem_mem (l := Lib.decDigits n.toNat) (n := j) (by simpa [ByteArray.size] using hj))
    rw [get_toList _ _ hj]
    unfold isDig at h2
    simp only [Bool.and_eq_true, decide_eq_true_eq] at h2
    intro e
    simp only [List.toList_toArray] at e
    omega
  · rename_i hn
    rw [if_neg hn] at hj
    exact absurd hj (by show ¬ j < 0; omega)
theorem noSp_dec {x : ByteArray} (h : (List.range x.size).all (fun j => (x.get! j).toNat != 32) = true) : NoSp x := by
  intro j hj
  rw [List.all_eq_true] at h
  have := h j (List.mem_range.2 hj)
  simpa using this
theorem noSp_rk (k : Int) : NoSp (rkName k) := by
  unfold rkName
  repeat (split; exact noSp_dec (by decide))
  exact noSp_dec (by decide)
theorem noSp_msg (k : Int) : NoSp (msgName k) := by
  unfold msgName
  repeat (split; exact noSp_dec (by decide))
  exact noSp_dec (by decide)
theorem noSp_words (r : MRec) : ∀ x ∈ recWords r, NoSp x := by
  intro x hx
  unfold recWords recFields msgWords at hx
  simp only [List.mem_append] at hx
  rcases hx with (h | h | h | h) | h
  · split at h
    · rw [List.mem_singleton] at h; subst h; exact noSp_num _
    · cases h
  · split at h
    · rw [List.mem_singleton] at h; subst h; exact noSp_num _
    · cases h
  · split at h
    · rw [List.mem_singleton] at h; subst h; exact noSp_num _
    · cases h
  · split at h
    · rw [List.mem_singleton] at h; subst h; exact noSp_num _
    · cases h
  · split at h
    · simp only [List.mem_cons, List.not_mem_nil, or_false] at h
      rcases h with rfl | rfl | rfl | rfl
      · exact noSp_msg _
      · exact noSp_num _
      · exact noSp_num _
      · exact noSp_num _
    · cases h
theorem splitL_text {r : MRec} (h : recOkB r = true) : splitL (recText r) 32 = rkName r.Kind :: recWords r := by
  unfold recText
  rw [if_pos h, splitL_join _ _ (noSp_words r), splitL_one (noSp_rk _)]
  rfl
theorem kindTo_name {k : Int} (h : 1 ≤ k ∧ k ≤ 9) : kindTo (rkName k) 9 = k := by
  have h5 : k = 1 ∨ k = 2 ∨ k = 3 ∨ k = 4 ∨ k = 5 ∨ k = 6 ∨ k = 7 ∨ k = 8 ∨ k = 9 := by omega
  rcases h5 with rfl | rfl | rfl | rfl | rfl | rfl | rfl | rfl | rfl <;> decide
theorem mkindTo_name {k : Int} (h : 1 ≤ k ∧ k ≤ 5) : mkindTo (msgName k) 5 = k := by
  have h5 : k = 1 ∨ k = 2 ∨ k = 3 ∨ k = 4 ∨ k = 5 := by omega
  rcases h5 with rfl | rfl | rfl | rfl | rfl <;> decide
theorem recOf_words {r : MRec} (h : recOkB r = true) : recOf (rkName r.Kind :: recWords r) = r := by
  obtain ⟨q1, q2, q3, q4, q5, q6, q7⟩ := recOk_parts h
  have n2 := txN_numText (n := r.Acct) (by omega)
  have n3 := txN_numText (n := r.Other) (by omega)
  have n4 := txN_numText (n := r.To) (by omega)
  have n5 := txN_numText (n := r.Amt) (by omega)
  have z : ∀ b : Bool, (b || r.Acct == 0) = true → b = false → r.Acct = 0 := by intro b hb e; subst e; simpa using hb
  have h' := h
  simp only [recOkB, Bool.and_eq_true] at h'
  obtain ⟨-, -, -, -, zA, zO, zT, zM, -⟩ := h'
  obtain ⟨K, A, O, T, M, m⟩ := r
  simp only at q1 q2 q3 q4 q5 q6 q7 n2 n3 n4 n5 zA zO zT zM
  have hk := kindTo_name q1
  have h5 : K = 1 ∨ K = 2 ∨ K = 3 ∨ K = 4 ∨ K = 5 ∨ K = 6 ∨ K = 7 ∨ K = 8 ∨ K = 9 := by omega
  unfold recOf
  simp only [List.getD_cons_zero, hk]
  by_cases k5 : K = 5
  · subst k5
    have hm := q6 rfl
    obtain ⟨p1, p2, -, p3, p4⟩ := msgOk_parts hm
    have m1 := mkindTo_name p3
    have m2 := txN_numText (n := m.Acct) (by omega)
    have m3 := txN_numText (n := m.Amt) (by omega)
    have m4 := txN_numText (n := m.Src) (by omega)
    simp [recWords, recFields, msgWords, kAcct, kOther, kTo, kAmt, numsOf, msgOf, n4, n5, m1, m2, m3, m4] at zA zO ⊢
    exact ⟨zA.symm, zO.symm⟩
  · have e7 := q7 k5
    subst e7
    rcases h5 with rfl | rfl | rfl | rfl | rfl | rfl | rfl | rfl | rfl
    all_goals simp [recWords, recFields, kAcct, kOther, kTo, kAmt, numsOf, n2, n3, n4, n5] at zA zO zT zM k5 ⊢
    all_goals first | done | omega | (simp only [zA, zO, zT, zM]; done) | (refine ⟨?_, ?_⟩ <;> omega) | (refine ⟨?_, ?_, ?_⟩ <;> omega)
theorem textRec_text {r : MRec} (h : recOkB r = true) : textRecB (recText r) = true ∧ textRec (recText r) = r := by
  have e : recOf (splitL (recText r) 32) = r := by rw [splitL_text h, recOf_words h]
  have hB : textRecB (recText r) = true := by
    unfold textRecB
    rw [e, h, decide_eq_true rfl]
    rfl
  exact ⟨hB, by unfold textRec; rw [if_pos hB, e]⟩
end Go.Proofs.YtkbhbccpmmhelaaDoor
namespace Go.Proofs.YtkbhbccpmmhelaaDoor
set_option linter.unusedVariables false
set_option linter.unusedSimpArgs false
theorem extract_snoc (s : ByteArray) (k : Nat) (h : k < s.size) (hb : (s.get! k).toNat = 32) : s.extract 0 (k + 1) = s.extract 0 k ++ ⟨#[32]⟩ := by
  have e : s.get! k = s.data[k]'(by simpa using h) := by
    have : s.get! k = s.data[k]! := rfl
    rw [this, getElem!_pos s.data k (by simpa using h)]
  have e2 : s.data[k]'(by simpa using h) = 32 := by
    rw [← e]; exact UInt8.toNat_inj.1 hb
  apply ByteArray.ext
  rw [ByteArray.data_append, ByteArray.data_extract, ByteArray.data_extract]
  apply Array.toList_inj.1
  simp
  rw [List.take_succ_eq_append_getElem (by simpa using h)]
  simp [e2]
theorem extract_glue (s : ByteArray) (a b : Nat) (h : a ≤ b) : s.extract 0 a ++ s.extract a b = s.extract 0 b := by
  apply ByteArray.ext
  rw [ByteArray.data_append, ByteArray.data_extract, ByteArray.data_extract, ByteArray.data_extract]
  apply Array.toList_inj.1
  simp [Nat.max_eq_right h]
theorem joinSp_snoc (s x : ByteArray) (ws : List ByteArray) : joinSp s (ws ++ [x]) = joinSp s ws ++ ⟨#[32]⟩ ++ x := by rw [joinSp_append]; rfl
theorem split_st (s : ByteArray) : ∀ k, k ≤ s.size → ((splitSt s 32 k).1 = [] ∧ (splitSt s 32 k).2 = 0) ∨ ∃ w ws, (splitSt s 32 k).1 = w :: ws ∧ joinSp w ws ++ ⟨#[32]⟩ = s.extract 0 (splitSt s 32 k).2 := by
  intro k
  induction k with
  | zero => intro _; exact .inl ⟨rfl, rfl⟩
  | succ k ih =>
    intro hk
    have ih := ih (by omega)
    have hle := (splitSt_le s 32 k).1
    unfold splitSt
    split
    · rename_i hb
      right
      rcases ih with ⟨h1, h2⟩ | ⟨w, ws, h1, h2⟩
      · refine ⟨s.extract 0 k, [], ?_, ?_⟩
        · rw [h1, h2]; rfl
        · rw [extract_snoc s k (by omega) hb]; rfl
      · refine ⟨w, ws ++ [s.extract (splitSt s 32 k).2 k], ?_, ?_⟩
        · rw [h1]; rfl
        · rw [joinSp_snoc, h2, extract_glue s _ _ hle, extract_snoc s k (by omega) hb]
    · exact ih
theorem splitL_joins {s w : ByteArray} {ws : List ByteArray} (h : splitL s 32 = w :: ws) : joinSp w ws = s := by
  have hle := (splitSt_le s 32 s.size).1
  have e0 : s.extract 0 s.size = s := by
    apply ByteArray.ext
    rw [ByteArray.data_extract]
    apply Array.toList_inj.1
    simp
    exact List.take_of_length_le (Nat.le_of_eq rfl)
  unfold splitL at h
  rcases split_st s s.size (Nat.le_refl _) with ⟨h1, h2⟩ | ⟨w', ws', h1, h2⟩
  · rw [h1, h2] at h
    obtain ⟨rfl, rfl⟩ := List.cons.inj h
    exact e0
  · rw [h1, List.cons_append] at h
    obtain ⟨rfl, rfl⟩ := List.cons.inj h
    rw [joinSp_snoc, h2, extract_glue s _ _ hle, e0]
theorem txN_back {x : ByteArray} (h : (textNum x).isSome = true) : numText (txN x) = x := by
  unfold txN
  cases hx : textNum x with
  | none => rw [hx] at h; cases h
  | some n =>
    unfold textNum at hx
    split at hx
    · rename_i hc
      obtain rfl := Option.some.inj hx
      exact (numText_eq hc.1).2 hc.2
    · cases hx
theorem isSome_num {n : Int} (h : 0 ≤ n ∧ n ≤ 1125899906842624) : (textNum (numText n)).isSome = true := by
  obtain ⟨k, rfl⟩ : ∃ k : Nat, n = (k : Int) := ⟨n.toNat, by omega⟩
  rw [textNum_numText k (by omega)]; rfl
theorem kindTo_back {x : ByteArray} : ∀ n, kindTo x n ≠ 0 → rkName (kindTo x n) = x
  | 0, h => absurd rfl h
  | n + 1, h => by
    unfold kindTo at h ⊢
    split
    · rename_i e; exact e
    · rename_i e; rw [if_neg e] at h; exact kindTo_back n h
theorem mkindTo_back {x : ByteArray} : ∀ n, mkindTo x n ≠ 0 → msgName (mkindTo x n) = x
  | 0, h => absurd rfl h
  | n + 1, h => by
    unfold mkindTo at h ⊢
    split
    · rename_i e; exact e
    · rename_i e; rw [if_neg e] at h; exact mkindTo_back n h
def nF (k : Int) : Nat := (kAcct k).toNat + (kOther k).toNat + (kTo k).toNat + (kAmt k).toNat
def allN (l : List ByteArray) : Bool := l.all fun x => (textNum x).isSome
def okT (ws : List ByteArray) : Bool :=
  if kindTo (ws.getD 0 ByteArray.empty) 9 = 5 then decide (ws.length = 7) && (allN ((ws.drop 1).take 2) && allN ((ws.drop 4).take 3))
  else decide (ws.length = nF (kindTo (ws.getD 0 ByteArray.empty) 9) + 1) && allN (ws.drop 1)
theorem len_2 {ws : List ByteArray} (h : ws.length = 3) : ∃ a b c, ws = [a, b, c] := by
  match ws, h with
  | [a, b, c], _ => exact ⟨a, b, c, rfl⟩
theorem len_3 {ws : List ByteArray} (h : ws.length = 4) : ∃ a b c d, ws = [a, b, c, d] := by
  match ws, h with
  | [a, b, c, d], _ => exact ⟨a, b, c, d, rfl⟩
theorem len_4 {ws : List ByteArray} (h : ws.length = 5) : ∃ a b c d e, ws = [a, b, c, d, e] := by
  match ws, h with
  | [a, b, c, d, e], _ => exact ⟨a, b, c, d, e, rfl⟩
theorem len_6 {ws : List ByteArray} (h : ws.length = 7) : ∃ a b c d e f g, ws = [a, b, c, d, e, f, g] := by
  match ws, h with
  | [a, b, c, d, e, f, g], _ => exact ⟨a, b, c, d, e, f, g, rfl⟩
theorem recOf_kind (ws : List ByteArray) : (recOf ws).Kind = kindTo (ws.getD 0 ByteArray.empty) 9 := rfl
theorem words_1 {ws : List ByteArray} (hkk : kindTo (ws.getD 0 ByteArray.empty) 9 = 1) (hl : ws.length = 3) (ha : allN (ws.drop 1) = true) : recWords (recOf ws) = ws.drop 1 := by
  obtain ⟨a, b, c, rfl⟩ := len_2 hl
  have e0 : [a, b, c].getD 0 ByteArray.empty = a := rfl
  rw [e0] at hkk
  simp [allN] at ha
  obtain ⟨hb, hc⟩ := ha
  simp [recOf, hkk, numsOf, kAcct, kOther, kTo, kAmt, recWords, recFields, txN_back hb, txN_back hc]
theorem words_2 {ws : List ByteArray} (hkk : kindTo (ws.getD 0 ByteArray.empty) 9 = 2) (hl : ws.length = 3) (ha : allN (ws.drop 1) = true) : recWords (recOf ws) = ws.drop 1 := by
  obtain ⟨a, b, c, rfl⟩ := len_2 hl
  have e0 : [a, b, c].getD 0 ByteArray.empty = a := rfl
  rw [e0] at hkk
  simp [allN] at ha
  obtain ⟨hb, hc⟩ := ha
  simp [recOf, hkk, numsOf, kAcct, kOther, kTo, kAmt, recWords, recFields, txN_back hb, txN_back hc]
theorem words_3 {ws : List ByteArray} (hkk : kindTo (ws.getD 0 ByteArray.empty) 9 = 3) (hl : ws.length = 4) (ha : allN (ws.drop 1) = true) : recWords (recOf ws) = ws.drop 1 := by
  obtain ⟨a, b, c, d, rfl⟩ := len_3 hl
  have e0 : [a, b, c, d].getD 0 ByteArray.empty = a := rfl
  rw [e0] at hkk
  simp [allN] at ha
  obtain ⟨hb, hc, hd⟩ := ha
  simp [recOf, hkk, numsOf, kAcct, kOther, kTo, kAmt, recWords, recFields, txN_back hb, txN_back hc, txN_back hd]
theorem words_4 {ws : List ByteArray} (hkk : kindTo (ws.getD 0 ByteArray.empty) 9 = 4) (hl : ws.length = 5) (ha : allN (ws.drop 1) = true) : recWords (recOf ws) = ws.drop 1 := by
  obtain ⟨a, b, c, d, e, rfl⟩ := len_4 hl
  have e0 : [a, b, c, d, e].getD 0 ByteArray.empty = a := rfl
  rw [e0] at hkk
  simp [allN] at ha
  obtain ⟨hb, hc, hd, he⟩ := ha
  simp [recOf, hkk, numsOf, kAcct, kOther, kTo, kAmt, recWords, recFields, txN_back hb, txN_back hc, txN_back hd, txN_back he]
theorem words_6 {ws : List ByteArray} (hkk : kindTo (ws.getD 0 ByteArray.empty) 9 = 6) (hl : ws.length = 3) (ha : allN (ws.drop 1) = true) : recWords (recOf ws) = ws.drop 1 := by
  obtain ⟨a, b, c, rfl⟩ := len_2 hl
  have e0 : [a, b, c].getD 0 ByteArray.empty = a := rfl
  rw [e0] at hkk
  simp [allN] at ha
  obtain ⟨hb, hc⟩ := ha
  simp [recOf, hkk, numsOf, kAcct, kOther, kTo, kAmt, recWords, recFields, txN_back hb, txN_back hc]
theorem words_7 {ws : List ByteArray} (hkk : kindTo (ws.getD 0 ByteArray.empty) 9 = 7) (hl : ws.length = 3) (ha : allN (ws.drop 1) = true) : recWords (recOf ws) = ws.drop 1 := by
  obtain ⟨a, b, c, rfl⟩ := len_2 hl
  have e0 : [a, b, c].getD 0 ByteArray.empty = a := rfl
  rw [e0] at hkk
  simp [allN] at ha
  obtain ⟨hb, hc⟩ := ha
  simp [recOf, hkk, numsOf, kAcct, kOther, kTo, kAmt, recWords, recFields, txN_back hb, txN_back hc]
theorem words_8 {ws : List ByteArray} (hkk : kindTo (ws.getD 0 ByteArray.empty) 9 = 8) (hl : ws.length = 4) (ha : allN (ws.drop 1) = true) : recWords (recOf ws) = ws.drop 1 := by
  obtain ⟨a, b, c, d, rfl⟩ := len_3 hl
  have e0 : [a, b, c, d].getD 0 ByteArray.empty = a := rfl
  rw [e0] at hkk
  simp [allN] at ha
  obtain ⟨hb, hc, hd⟩ := ha
  simp [recOf, hkk, numsOf, kAcct, kOther, kTo, kAmt, recWords, recFields, txN_back hb, txN_back hc, txN_back hd]
theorem words_9 {ws : List ByteArray} (hkk : kindTo (ws.getD 0 ByteArray.empty) 9 = 9) (hl : ws.length = 3) (ha : allN (ws.drop 1) = true) : recWords (recOf ws) = ws.drop 1 := by
  obtain ⟨a, b, c, rfl⟩ := len_2 hl
  have e0 : [a, b, c].getD 0 ByteArray.empty = a := rfl
  rw [e0] at hkk
  simp [allN] at ha
  obtain ⟨hb, hc⟩ := ha
  simp [recOf, hkk, numsOf, kAcct, kOther, kTo, kAmt, recWords, recFields, txN_back hb, txN_back hc]
theorem words_5 {ws : List ByteArray} (hkk : kindTo (ws.getD 0 ByteArray.empty) 9 = 5) (hl : ws.length = 7) (ha : allN ((ws.drop 1).take 2) = true) (ha2 : allN ((ws.drop 4).take 3) = true) (hm : mkindTo (ws.getD 3 ByteArray.empty) 5 ≠ 0) : recWords (recOf ws) = ws.drop 1 := by
  obtain ⟨a, b, c, d, e, f, g, rfl⟩ := len_6 hl
  have e0 : [a, b, c, d, e, f, g].getD 0 ByteArray.empty = a := rfl
  have e3 : [a, b, c, d, e, f, g].getD 3 ByteArray.empty = d := rfl
  rw [e0] at hkk
  rw [e3] at hm
  simp [allN] at ha ha2
  obtain ⟨hb, hc⟩ := ha
  obtain ⟨he, hf, hg⟩ := ha2
  simp [recOf, hkk, numsOf, kAcct, kOther, kTo, kAmt, recWords, recFields, msgOf, msgWords, mkindTo_back 5 hm, txN_back hb, txN_back hc, txN_back he, txN_back hf, txN_back hg]
theorem recOf_msg {ws : List ByteArray} (hkk : kindTo (ws.getD 0 ByteArray.empty) 9 = 5) (hl : ws.length = 7) : (recOf ws).M.Kind = mkindTo (ws.getD 3 ByteArray.empty) 5 := by
  have h1 : (recOf ws).M = msgOf ws 3 := by
    unfold recOf
    simp only [hkk]
    rfl
  rw [h1]
  unfold msgOf
  rw [if_neg (by omega)]
theorem words_all {ws : List ByteArray} (ho : okT ws = true) (hr : recOkB (recOf ws) = true) : rkName (recOf ws).Kind = ws.getD 0 ByteArray.empty ∧ recWords (recOf ws) = ws.drop 1 := by
  obtain ⟨q1, q2, q3, q4, q5, q6, q7⟩ := recOk_parts hr
  rw [recOf_kind] at q1 q6 ⊢
  refine ⟨kindTo_back 9 (by omega), ?_⟩
  unfold okT at ho
  have h9 : kindTo (ws.getD 0 ByteArray.empty) 9 = 1 ∨ kindTo (ws.getD 0 ByteArray.empty) 9 = 2 ∨ kindTo (ws.getD 0 ByteArray.empty) 9 = 3 ∨ kindTo (ws.getD 0 ByteArray.empty) 9 = 4 ∨ kindTo (ws.getD 0 ByteArray.empty) 9 = 5 ∨ kindTo (ws.getD 0 ByteArray.empty) 9 = 6 ∨ kindTo (ws.getD 0 ByteArray.empty) 9 = 7 ∨ kindTo (ws.getD 0 ByteArray.empty) 9 = 8 ∨ kindTo (ws.getD 0 ByteArray.empty) 9 = 9 := by omega
  rcases h9 with hk | hk | hk | hk | hk | hk | hk | hk | hk
  case inr.inr.inr.inr.inl =>
    rw [if_pos hk] at ho
    simp only [Bool.and_eq_true, decide_eq_true_eq] at ho
    have hm := (msgOk_parts (q6 hk)).2.2.2.1
    rw [recOf_msg hk ho.1] at hm
    exact words_5 hk ho.1 ho.2.1 ho.2.2 (by omega)
  · rw [if_neg (by omega), hk] at ho
    simp only [Bool.and_eq_true, decide_eq_true_eq] at ho
    exact words_1 hk ho.1 ho.2
  · rw [if_neg (by omega), hk] at ho
    simp only [Bool.and_eq_true, decide_eq_true_eq] at ho
    exact words_2 hk ho.1 ho.2
  · rw [if_neg (by omega), hk] at ho
    simp only [Bool.and_eq_true, decide_eq_true_eq] at ho
    exact words_3 hk ho.1 ho.2
  · rw [if_neg (by omega), hk] at ho
    simp only [Bool.and_eq_true, decide_eq_true_eq] at ho
    exact words_4 hk ho.1 ho.2
  · rw [if_neg (by omega), hk] at ho
    simp only [Bool.and_eq_true, decide_eq_true_eq] at ho
    exact words_6 hk ho.1 ho.2
  · rw [if_neg (by omega), hk] at ho
    simp only [Bool.and_eq_true, decide_eq_true_eq] at ho
    exact words_7 hk ho.1 ho.2
  · rw [if_neg (by omega), hk] at ho
    simp only [Bool.and_eq_true, decide_eq_true_eq] at ho
    exact words_8 hk ho.1 ho.2
  · rw [if_neg (by omega), hk] at ho
    simp only [Bool.and_eq_true, decide_eq_true_eq] at ho
    exact words_9 hk ho.1 ho.2
theorem words_ok {r : MRec} (h : recOkB r = true) : okT (rkName r.Kind :: recWords r) = true := by
  obtain ⟨q1, q2, q3, q4, q5, q6, q7⟩ := recOk_parts h
  have hk := kindTo_name q1
  unfold okT
  have e0 : (rkName r.Kind :: recWords r).getD 0 ByteArray.empty = rkName r.Kind := rfl
  rw [e0, hk]
  have n1 := isSome_num (n := r.Acct) (by omega)
  have n2 := isSome_num (n := r.Other) (by omega)
  have n3 := isSome_num (n := r.To) (by omega)
  have n4 := isSome_num (n := r.Amt) (by omega)
  have h9 : r.Kind = 1 ∨ r.Kind = 2 ∨ r.Kind = 3 ∨ r.Kind = 4 ∨ r.Kind = 5 ∨ r.Kind = 6 ∨ r.Kind = 7 ∨ r.Kind = 8 ∨ r.Kind = 9 := by omega
  rcases h9 with e | e | e | e | e | e | e | e | e
  case inr.inr.inr.inr.inl =>
    obtain ⟨m1, m2, -, m3, m4⟩ := msgOk_parts (q6 e)
    have n5 := isSome_num (n := r.M.Acct) (by omega)
    have n6 := isSome_num (n := r.M.Amt) (by omega)
    have n7 := isSome_num (n := r.M.Src) (by omega)
    simp [e, recWords, recFields, kAcct, kOther, kTo, kAmt, msgWords, allN, n3, n4, n5, n6, n7]
  all_goals simp [e, nF, recWords, recFields, kAcct, kOther, kTo, kAmt, allN, n1, n2, n3, n4]
theorem textB_eq (s : ByteArray) : textRecB s = (okT (splitL s 32) && recOkB (recOf (splitL s 32))) := by
  unfold textRecB
  cases hr : recOkB (recOf (splitL s 32)) with
  | false => simp
  | true =>
    have key : recText (recOf (splitL s 32)) = s ↔ okT (splitL s 32) = true := by
      constructor
      · intro h
        have h1 := splitL_text hr
        rw [h] at h1
        have h2 := words_ok hr
        rw [← h1] at h2
        exact h2
      · intro ho
        obtain ⟨h1, h2⟩ := words_all ho hr
        unfold recText
        rw [if_pos hr, h1, h2]
        generalize hw : splitL s 32 = ws
        cases ws with
        | nil => exact absurd hw (splitL_ne s 32)
        | cons w l => exact splitL_joins hw
    cases ho : okT (splitL s 32) with
    | true => simp [key.2 ho]
    | false =>
      have : ¬ recText (recOf (splitL s 32)) = s := fun h => by rw [key.1 h] at ho; cases ho
      simp [this]
theorem textRec_no {s : ByteArray} (h : textRecB s = false) : textRec s = recZ := by unfold textRec; rw [h]; rfl
theorem textRec_yes {s : ByteArray} (h : textRecB s = true) : textRec s = recOf (splitL s 32) := by unfold textRec; rw [if_pos h]
end Go.Proofs.YtkbhbccpmmhelaaDoor
