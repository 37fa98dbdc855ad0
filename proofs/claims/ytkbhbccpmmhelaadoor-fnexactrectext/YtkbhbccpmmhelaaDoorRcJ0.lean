/- Records: impl.RecText. Laid by a program of ours (src/rcj.py). -/
import Derived.Test.YtkbhbccpmmhelaaDoorRcV2
import Derived.Test.YtkbhbccpmmhelaaDoorMsgI4
import Derived.Test.YtkbhbccpmmhelaaDoorBunT
import Derived.Test.YtkbhbccpmmhelaaDoorBunS
import Derived.LoopN
namespace Go.Proofs.YtkbhbccpmmhelaaDoor
open Go.RowKit
set_option linter.unusedVariables false
set_option linter.unusedSimpArgs false

theorem own_vr {w : World} {base b : Nat} {t : TypeId} {xs : List ByteArray} (h : Vr w b t (xs.map Value.string)) (hb : base ≤ b) (hm : xs.length ≤ 1000) : OwnF Value.string w base t (.slice (some ⟨b, 0, none⟩) xs.length xs.length) xs :=
  ⟨by simp, .inr ⟨b, xs.length, _, rfl, hb, h, Nat.le_refl _, by unfold maxLen; omega, by simp, by simp [List.take_of_length_le]⟩⟩
theorem Vr.grow {w w' : World} {b : Nat} {t : TypeId} {cs : List Value} {row : Option Nat} (h : Vr w b t cs) (hg : w.grownBy w' row) (hne : some b ≠ row) : Vr w' b t cs := by
  have hl := h.lt
  unfold Vr at h ⊢
  rw [hg.block b hl hne]
  exact h
theorem join_eq (ws : List ByteArray) : ∀ s : ByteArray, (⟨(Lib.join ((s :: ws).map (·.data.toList)) (⟨#[32]⟩ : ByteArray).data.toList).toArray⟩ : ByteArray) = joinSp s ws := by
  induction ws with
  | nil => intro s; apply ByteArray.ext; apply Array.toList_inj.1; simp [Lib.join, List.intercalate, joinSp]
  | cons x l ih =>
    intro s
    rw [joinSp_cons, ← ih x]
    apply ByteArray.ext
    apply Array.toList_inj.1
    simp [Lib.join, List.intercalate, ByteArray.data_append]
theorem join_len (s : ByteArray) (ws : List ByteArray) : (Lib.join ((s :: ws).map (·.data.toList)) (⟨#[32]⟩ : ByteArray).data.toList).length = (joinSp s ws).size := by
  rw [← join_eq]
  show _ = (List.toArray _).size
  rw [List.size_toArray]
theorem joinSp_flat (s n : ByteArray) (xs ws : List ByteArray) : joinSp s (xs ++ [joinSp n ws]) = joinSp s (xs ++ n :: ws) := by
  rw [joinSp_append, joinSp_append, joinSp_cons, joinSp_cons]
  rfl

set_option maxRecDepth 100000 in
set_option maxHeartbeats 4000000 in
theorem rtext_1 {w : World} (ht : Tab10 w) (a o t m k1 k2 k3 k4 : Int) (ho : recOkB ⟨1, a, o, t, m, ⟨k1, k2, k3, k4⟩⟩ = true) : Calls Tryd.prog 10 #[.agg #[.int .i64 1, .int .i64 a, .int .i64 o, .int .i64 t, .int .i64 m, .int .i64 k1, .int .i64 k2, .int .i64 k3, .int .i64 k4]] w fun e w' => e = .returned (.string (recText ⟨1, a, o, t, m, ⟨k1, k2, k3, k4⟩⟩)) ∧ Below w.heap.size w w' := by
  have hp := recOk_parts ho
  obtain ⟨-, q1, q2, q3, q4, q5, -⟩ := hp
  simp only at q1 q2 q3 q4
  have hsz := recText_size (⟨1, a, o, t, m, ⟨k1, k2, k3, k4⟩⟩ : MRec)
  have HP0 : recText ⟨1, a, o, t, m, ⟨k1, k2, k3, k4⟩⟩ = joinSp (rkName 1) [numText a, numText m] := by
    unfold recText; rw [if_pos ho]; simp [recWords, recFields, kAcct, kOther, kTo, kAmt]
  clear q5
  obtain ⟨s0, hs0⟩ : ∃ z, rkName 1 = z := ⟨_, rfl⟩
  obtain ⟨s1, hs1⟩ : ∃ z, numText a = z := ⟨_, rfl⟩
  obtain ⟨s4, hs4⟩ : ∃ z, numText m = z := ⟨_, rfl⟩
  rw [hs0, hs1, hs4] at HP0
  obtain ⟨R, hR⟩ : ∃ z, joinSp s0 [s1, s4] = z := ⟨_, rfl⟩
  rw [hR] at HP0
  rw [HP0] at hsz
  have HP := Lib.hid HP0
  have HR := Lib.hid hR
  have Hs0 := Lib.hid hs0
  have Hs1 := Lib.hid hs1
  have Hs4 := Lib.hid hs4
  have HO := Lib.hid ho
  clear ho HP0 hR hs0 hs1 hs4
  obtain ⟨i0, hi, hz0, hz1, hz2⟩ := info_parts Tryd.info_str
  obtain ⟨wa, hwa, B0, sa, x_a⟩ := frame1 w 26 [.int .i64 1, .int .i64 a, .int .i64 o, .int .i64 t, .int .i64 m, .int .i64 k1, .int .i64 k2, .int .i64 k3, .int .i64 k4]
  have sa_1 := Nat.le_of_eq sa
  have sa_2 := Nat.le_of_eq sa.symm
  clear sa
  have c_a_0_wa := x_a.cell (i := 0) rfl
  have c_a_1_wa := x_a.cell (i := 1) rfl
  have c_a_2_wa := x_a.cell (i := 2) rfl
  have c_a_3_wa := x_a.cell (i := 3) rfl
  have c_a_4_wa := x_a.cell (i := 4) rfl
  have c_a_5_wa := x_a.cell (i := 5) rfl
  have c_a_6_wa := x_a.cell (i := 6) rfl
  have c_a_7_wa := x_a.cell (i := 7) rfl
  have c_a_8_wa := x_a.cell (i := 8) rfl
  have rv : RV recL wa (.agg #[.int .i64 1, .int .i64 a, .int .i64 o, .int .i64 t, .int .i64 m, .int .i64 k1, .int .i64 k2, .int .i64 k3, .int .i64 k4]) ⟨1, a, o, t, m, ⟨k1, k2, k3, k4⟩⟩ := rv_rec_mk (zM := ⟨k1, k2, k3, k4⟩)
  go_enter Tryd.func10, Tryd.ntmps10
  go_wp2_with fail
  refine (iRecOk_c rv).mono ?_
  rintro e w1 ⟨rfl, h_w1⟩
  clear c_a_0_wa c_a_1_wa c_a_2_wa c_a_3_wa c_a_4_wa c_a_5_wa c_a_6_wa c_a_7_wa c_a_8_wa
  replace x_a := x_a.from_ h_w1
  have B_w1 := B0.trans (h_w1.mono B0.size)
  have s_w1 := h_w1.size
  rw [HO.out]
  clear rv
  have c_a_0_w1 := x_a.cell (i := 0) rfl
  have c_a_1_w1 := x_a.cell (i := 1) rfl
  have c_a_2_w1 := x_a.cell (i := 2) rfl
  have c_a_3_w1 := x_a.cell (i := 3) rfl
  have c_a_4_w1 := x_a.cell (i := 4) rfl
  have c_a_5_w1 := x_a.cell (i := 5) rfl
  have c_a_6_w1 := x_a.cell (i := 6) rfl
  have c_a_7_w1 := x_a.cell (i := 7) rfl
  have c_a_8_w1 := x_a.cell (i := 8) rfl
  go_wp2_with fail
  refine (iRkName_w _ _).mono ?_
  rintro e w' ⟨rfl, rfl⟩
  rw [Hs0.out]
  obtain ⟨w2, e_w2, s_w2, h_w2, x_s⟩ := alloc_step w1 9 [.string s0]
  have s_w2_1 := Nat.le_of_eq s_w2
  have s_w2_2 := Nat.le_of_eq s_w2.symm
  clear s_w2
  replace x_a := x_a.from_ h_w2
  have B_w2 := B_w1.trans (h_w2.mono B_w1.size)
  have own := own_vr (base := w1.heap.size) (xs := [s0]) x_s (Nat.le_refl _) (by simp)
  have c_a_0_w2 := x_a.cell (i := 0) rfl
  have f_a_0_w2 := x_a.frozen 0
  have c_a_1_w2 := x_a.cell (i := 1) rfl
  have f_a_1_w2 := x_a.frozen 1
  have c_a_2_w2 := x_a.cell (i := 2) rfl
  have f_a_2_w2 := x_a.frozen 2
  have c_a_3_w2 := x_a.cell (i := 3) rfl
  have f_a_3_w2 := x_a.frozen 3
  have c_a_4_w2 := x_a.cell (i := 4) rfl
  have f_a_4_w2 := x_a.frozen 4
  have c_a_5_w2 := x_a.cell (i := 5) rfl
  have f_a_5_w2 := x_a.frozen 5
  have c_a_6_w2 := x_a.cell (i := 6) rfl
  have f_a_6_w2 := x_a.frozen 6
  have c_a_7_w2 := x_a.cell (i := 7) rfl
  have f_a_7_w2 := x_a.frozen 7
  have c_a_8_w2 := x_a.cell (i := 8) rfl
  have f_a_8_w2 := x_a.frozen 8
  go_wp2_with fail
  refine (iUsed_1 x_a rfl).mono ?_
  rintro e w3 ⟨B, T, rfl, x_l, hB, h_w3⟩
  clear c_a_0_w1 c_a_1_w1 c_a_2_w1 c_a_3_w1 c_a_4_w1 c_a_5_w1 c_a_6_w1 c_a_7_w1 c_a_8_w1 c_a_0_w2 f_a_0_w2 c_a_1_w2 f_a_1_w2 c_a_2_w2 f_a_2_w2 c_a_3_w2 f_a_3_w2 c_a_4_w2 f_a_4_w2 c_a_5_w2 f_a_5_w2 c_a_6_w2 f_a_6_w2 c_a_7_w2 f_a_7_w2 c_a_8_w2 f_a_8_w2
  replace x_a := x_a.from_ h_w3
  have B_w3 := B_w2.trans (h_w3.mono B_w2.size)
  have s_w3 := h_w3.size
  replace own := own.below h_w3 (Nat.le_refl _)
  have hne : ∀ j, (Value.slice (some ⟨w1.heap.size, 0, none⟩) [s0].length [s0].length).ownBlock = some j → j ≠ B := by
    intro j hj
    have : w1.heap.size = j := by simpa [Value.ownBlock] using hj
    omega
  have c_a_0_w3 := x_a.cell (i := 0) rfl
  have c_a_1_w3 := x_a.cell (i := 1) rfl
  have c_a_2_w3 := x_a.cell (i := 2) rfl
  have c_a_3_w3 := x_a.cell (i := 3) rfl
  have c_a_4_w3 := x_a.cell (i := 4) rfl
  have c_a_5_w3 := x_a.cell (i := 5) rfl
  have c_a_6_w3 := x_a.cell (i := 6) rfl
  have c_a_7_w3 := x_a.cell (i := 7) rfl
  have c_a_8_w3 := x_a.cell (i := 8) rfl
  have c_l_0_w3 := x_l.cell (i := 0) rfl
  have c_l_1_w3 := x_l.cell (i := 1) rfl
  go_wp2_with fail
  refine wp_loop_rounds 3 ?_
  rw [rounds_succ]
  clear c_a_0_w3 c_a_1_w3 c_a_2_w3 c_a_3_w3 c_a_4_w3 c_a_5_w3 c_a_6_w3 c_a_7_w3 c_a_8_w3 c_l_0_w3 c_l_1_w3
  have c_a_0_w3 := x_a.cell (i := 0) rfl
  have c_a_1_w3 := x_a.cell (i := 1) rfl
  have c_a_2_w3 := x_a.cell (i := 2) rfl
  have c_a_3_w3 := x_a.cell (i := 3) rfl
  have c_a_4_w3 := x_a.cell (i := 4) rfl
  have c_a_5_w3 := x_a.cell (i := 5) rfl
  have c_a_6_w3 := x_a.cell (i := 6) rfl
  have c_a_7_w3 := x_a.cell (i := 7) rfl
  have c_a_8_w3 := x_a.cell (i := 8) rfl
  have c_l_0_w3 := x_l.cell (i := 0) rfl
  have c_l_1_w3 := x_l.cell (i := 1) rfl
  go_wp2_with fail
  refine (iNumText_any _ _ (ht.below B_w3) (by omega) (by omega)).mono ?_
  rintro e w4 ⟨rfl, h_w4⟩
  clear c_a_0_w3 c_a_1_w3 c_a_2_w3 c_a_3_w3 c_a_4_w3 c_a_5_w3 c_a_6_w3 c_a_7_w3 c_a_8_w3 c_l_0_w3 c_l_1_w3
  replace x_a := x_a.from_ h_w4
  replace x_l := x_l.from_ h_w4
  have B_w4 := B_w3.trans (h_w4.mono B_w3.size)
  have s_w4 := h_w4.size
  rw [Hs1.out]
  replace own := own.below h_w4 (Nat.le_refl _)
  go_wp2_with (at_builtin; refine wpl_appF Value.string ByteArray.empty _ one_str rfl (.tmp 19) (.tmp 24) 58 rfl (w1.heap.size) 9 i0 _ 16 Tryd.underlying58 hi hz0 hz1 hz2 rfl _ [s0] rfl (own.alloc_ _) _ _ _ 1 [s1] rfl rfl (rdF_one _ _ _ _ _) (by simp) (by omega) (by simp; omega) ?_)
  intro v_w5 w5 o_w5 g_w5 at_w5
  have B_w5 : Below w.heap.size w w5 := grown_belowF (B_w4.alloc B_w4.size _) (own.alloc_ _) g_w5 (by omega) (by simp; omega)
  replace x_a := (x_a.alloc _).grow g_w5 (fun e => by have := (own.lt _ e.symm).1; omega)
  have lt_l := x_l.lt
  replace x_l := (x_l.alloc _).grow g_w5 (fun e => hne _ e.symm rfl)
  replace hne : ∀ j, v_w5.ownBlock = some j → j ≠ B := by
    intro j hj
    rcases at_w5 with e | e
    · rw [e] at hj; exact hne j hj
    · rw [e] at hj; have : w4.heap.size + 1 = j := by simpa using hj
      omega
  replace own : OwnF Value.string w5 (w1.heap.size) 9 v_w5 [s0, s1] := o_w5
  have s_w5 := B_w5.size
  have sz_w5 : w4.heap.size ≤ w5.heap.size := by have := g_w5.size; simp at this; omega
  clear o_w5 g_w5 at_w5
  go_wp2_with fail
  rw [rounds_succ]
  have c_a_0_w5 := x_a.cell (i := 0) rfl
  have c_a_1_w5 := x_a.cell (i := 1) rfl
  have c_a_2_w5 := x_a.cell (i := 2) rfl
  have c_a_3_w5 := x_a.cell (i := 3) rfl
  have c_a_4_w5 := x_a.cell (i := 4) rfl
  have c_a_5_w5 := x_a.cell (i := 5) rfl
  have c_a_6_w5 := x_a.cell (i := 6) rfl
  have c_a_7_w5 := x_a.cell (i := 7) rfl
  have c_a_8_w5 := x_a.cell (i := 8) rfl
  have c_l_0_w5 := x_l.cell (i := 0) rfl
  have c_l_1_w5 := x_l.cell (i := 1) rfl
  go_wp2_with fail
  refine (iNumText_any _ _ (ht.below B_w5) (by omega) (by omega)).mono ?_
  rintro e w6 ⟨rfl, h_w6⟩
  clear c_a_0_w5 c_a_1_w5 c_a_2_w5 c_a_3_w5 c_a_4_w5 c_a_5_w5 c_a_6_w5 c_a_7_w5 c_a_8_w5 c_l_0_w5 c_l_1_w5
  replace x_a := x_a.from_ h_w6
  replace x_l := x_l.from_ h_w6
  have B_w6 := B_w5.trans (h_w6.mono B_w5.size)
  have s_w6 := h_w6.size
  rw [Hs4.out]
  replace own := own.below h_w6 (Nat.le_refl _)
  go_wp2_with (at_builtin; refine wpl_appF Value.string ByteArray.empty _ one_str rfl (.tmp 19) (.tmp 24) 58 rfl (w1.heap.size) 9 i0 _ 16 Tryd.underlying58 hi hz0 hz1 hz2 rfl _ [s0, s1] rfl (own.alloc_ _) _ _ _ 1 [s4] rfl rfl (rdF_one _ _ _ _ _) (by simp) (by omega) (by simp; omega) ?_)
  intro v_w7 w7 o_w7 g_w7 at_w7
  have B_w7 : Below w.heap.size w w7 := grown_belowF (B_w6.alloc B_w6.size _) (own.alloc_ _) g_w7 (by omega) (by simp; omega)
  replace x_a := (x_a.alloc _).grow g_w7 (fun e => by have := (own.lt _ e.symm).1; omega)
  have lt_l := x_l.lt
  replace x_l := (x_l.alloc _).grow g_w7 (fun e => hne _ e.symm rfl)
  replace hne : ∀ j, v_w7.ownBlock = some j → j ≠ B := by
    intro j hj
    rcases at_w7 with e | e
    · rw [e] at hj; exact hne j hj
    · rw [e] at hj; have : w6.heap.size + 1 = j := by simpa using hj
      omega
  replace own : OwnF Value.string w7 (w1.heap.size) 9 v_w7 [s0, s1, s4] := o_w7
  have s_w7 := B_w7.size
  have sz_w7 : w6.heap.size ≤ w7.heap.size := by have := g_w7.size; simp at this; omega
  clear o_w7 g_w7 at_w7
  go_wp2_with fail
  rw [rounds_succ]
  have c_a_0_w7 := x_a.cell (i := 0) rfl
  have c_a_1_w7 := x_a.cell (i := 1) rfl
  have c_a_2_w7 := x_a.cell (i := 2) rfl
  have c_a_3_w7 := x_a.cell (i := 3) rfl
  have c_a_4_w7 := x_a.cell (i := 4) rfl
  have c_a_5_w7 := x_a.cell (i := 5) rfl
  have c_a_6_w7 := x_a.cell (i := 6) rfl
  have c_a_7_w7 := x_a.cell (i := 7) rfl
  have c_a_8_w7 := x_a.cell (i := 8) rfl
  obtain ⟨A, c, rfl, hc1, hc2, hr⟩ := own.form (d := ByteArray.empty)
  obtain ⟨g, off, rfl, hg, hcell⟩ := hr (by simp)
  have hcs : ∀ (j : Nat) x, [s0, s1, s4][j]? = some x → w7.cell? ⟨g, off + j, none⟩ = some (.string x) := by
    intro j x hj
    have hlt : j < [s0, s1, s4].length := by rcases Nat.lt_or_ge j [s0, s1, s4].length with h | h; exact h; rw [List.getElem?_eq_none h] at hj; cases hj
    have := hcell j hlt
    rw [List.getD_eq_getElem?_getD, hj] at this
    exact this
  have hlen : (Lib.join ([s0, s1, s4].map (·.data.toList)) (⟨#[32]⟩ : ByteArray).data.toList).length ≤ 140737488355328 := by rw [join_len, HR.out]; omega
  clear hr hcell own
  go_wp2_with fail
  refine (Tryd.strings_Join g off c [s0, s1, s4] ⟨#[32]⟩ _ hcs hg (by simp) hc1 hlen).mono ?_
  rintro e w8 ⟨rfl, h_w8⟩
  clear c_a_0_w7 c_a_1_w7 c_a_2_w7 c_a_3_w7 c_a_4_w7 c_a_5_w7 c_a_6_w7 c_a_7_w7 c_a_8_w7
  replace x_a := x_a.from_ h_w8
  have B_w8 := B_w7.trans (h_w8.mono B_w7.size)
  have s_w8 := h_w8.size
  rw [join_eq, HR.out]
  go_wp2
  go_ret
  exact ⟨ret_eq (by rw [HP.out]; rfl), B_w8⟩

set_option maxRecDepth 100000 in
set_option maxHeartbeats 4000000 in
theorem rtext_2 {w : World} (ht : Tab10 w) (a o t m k1 k2 k3 k4 : Int) (ho : recOkB ⟨2, a, o, t, m, ⟨k1, k2, k3, k4⟩⟩ = true) : Calls Tryd.prog 10 #[.agg #[.int .i64 2, .int .i64 a, .int .i64 o, .int .i64 t, .int .i64 m, .int .i64 k1, .int .i64 k2, .int .i64 k3, .int .i64 k4]] w fun e w' => e = .returned (.string (recText ⟨2, a, o, t, m, ⟨k1, k2, k3, k4⟩⟩)) ∧ Below w.heap.size w w' := by
  have hp := recOk_parts ho
  obtain ⟨-, q1, q2, q3, q4, q5, -⟩ := hp
  simp only at q1 q2 q3 q4
  have hsz := recText_size (⟨2, a, o, t, m, ⟨k1, k2, k3, k4⟩⟩ : MRec)
  have HP0 : recText ⟨2, a, o, t, m, ⟨k1, k2, k3, k4⟩⟩ = joinSp (rkName 2) [numText a, numText m] := by
    unfold recText; rw [if_pos ho]; simp [recWords, recFields, kAcct, kOther, kTo, kAmt]
  clear q5
  obtain ⟨s0, hs0⟩ : ∃ z, rkName 2 = z := ⟨_, rfl⟩
  obtain ⟨s1, hs1⟩ : ∃ z, numText a = z := ⟨_, rfl⟩
  obtain ⟨s4, hs4⟩ : ∃ z, numText m = z := ⟨_, rfl⟩
  rw [hs0, hs1, hs4] at HP0
  obtain ⟨R, hR⟩ : ∃ z, joinSp s0 [s1, s4] = z := ⟨_, rfl⟩
  rw [hR] at HP0
  rw [HP0] at hsz
  have HP := Lib.hid HP0
  have HR := Lib.hid hR
  have Hs0 := Lib.hid hs0
  have Hs1 := Lib.hid hs1
  have Hs4 := Lib.hid hs4
  have HO := Lib.hid ho
  clear ho HP0 hR hs0 hs1 hs4
  obtain ⟨i0, hi, hz0, hz1, hz2⟩ := info_parts Tryd.info_str
  obtain ⟨wa, hwa, B0, sa, x_a⟩ := frame1 w 26 [.int .i64 2, .int .i64 a, .int .i64 o, .int .i64 t, .int .i64 m, .int .i64 k1, .int .i64 k2, .int .i64 k3, .int .i64 k4]
  have sa_1 := Nat.le_of_eq sa
  have sa_2 := Nat.le_of_eq sa.symm
  clear sa
  have c_a_0_wa := x_a.cell (i := 0) rfl
  have c_a_1_wa := x_a.cell (i := 1) rfl
  have c_a_2_wa := x_a.cell (i := 2) rfl
  have c_a_3_wa := x_a.cell (i := 3) rfl
  have c_a_4_wa := x_a.cell (i := 4) rfl
  have c_a_5_wa := x_a.cell (i := 5) rfl
  have c_a_6_wa := x_a.cell (i := 6) rfl
  have c_a_7_wa := x_a.cell (i := 7) rfl
  have c_a_8_wa := x_a.cell (i := 8) rfl
  have rv : RV recL wa (.agg #[.int .i64 2, .int .i64 a, .int .i64 o, .int .i64 t, .int .i64 m, .int .i64 k1, .int .i64 k2, .int .i64 k3, .int .i64 k4]) ⟨2, a, o, t, m, ⟨k1, k2, k3, k4⟩⟩ := rv_rec_mk (zM := ⟨k1, k2, k3, k4⟩)
  go_enter Tryd.func10, Tryd.ntmps10
  go_wp2_with fail
  refine (iRecOk_c rv).mono ?_
  rintro e w1 ⟨rfl, h_w1⟩
  clear c_a_0_wa c_a_1_wa c_a_2_wa c_a_3_wa c_a_4_wa c_a_5_wa c_a_6_wa c_a_7_wa c_a_8_wa
  replace x_a := x_a.from_ h_w1
  have B_w1 := B0.trans (h_w1.mono B0.size)
  have s_w1 := h_w1.size
  rw [HO.out]
  clear rv
  have c_a_0_w1 := x_a.cell (i := 0) rfl
  have c_a_1_w1 := x_a.cell (i := 1) rfl
  have c_a_2_w1 := x_a.cell (i := 2) rfl
  have c_a_3_w1 := x_a.cell (i := 3) rfl
  have c_a_4_w1 := x_a.cell (i := 4) rfl
  have c_a_5_w1 := x_a.cell (i := 5) rfl
  have c_a_6_w1 := x_a.cell (i := 6) rfl
  have c_a_7_w1 := x_a.cell (i := 7) rfl
  have c_a_8_w1 := x_a.cell (i := 8) rfl
  go_wp2_with fail
  refine (iRkName_w _ _).mono ?_
  rintro e w' ⟨rfl, rfl⟩
  rw [Hs0.out]
  obtain ⟨w2, e_w2, s_w2, h_w2, x_s⟩ := alloc_step w1 9 [.string s0]
  have s_w2_1 := Nat.le_of_eq s_w2
  have s_w2_2 := Nat.le_of_eq s_w2.symm
  clear s_w2
  replace x_a := x_a.from_ h_w2
  have B_w2 := B_w1.trans (h_w2.mono B_w1.size)
  have own := own_vr (base := w1.heap.size) (xs := [s0]) x_s (Nat.le_refl _) (by simp)
  have c_a_0_w2 := x_a.cell (i := 0) rfl
  have f_a_0_w2 := x_a.frozen 0
  have c_a_1_w2 := x_a.cell (i := 1) rfl
  have f_a_1_w2 := x_a.frozen 1
  have c_a_2_w2 := x_a.cell (i := 2) rfl
  have f_a_2_w2 := x_a.frozen 2
  have c_a_3_w2 := x_a.cell (i := 3) rfl
  have f_a_3_w2 := x_a.frozen 3
  have c_a_4_w2 := x_a.cell (i := 4) rfl
  have f_a_4_w2 := x_a.frozen 4
  have c_a_5_w2 := x_a.cell (i := 5) rfl
  have f_a_5_w2 := x_a.frozen 5
  have c_a_6_w2 := x_a.cell (i := 6) rfl
  have f_a_6_w2 := x_a.frozen 6
  have c_a_7_w2 := x_a.cell (i := 7) rfl
  have f_a_7_w2 := x_a.frozen 7
  have c_a_8_w2 := x_a.cell (i := 8) rfl
  have f_a_8_w2 := x_a.frozen 8
  go_wp2_with fail
  refine (iUsed_2 x_a rfl).mono ?_
  rintro e w3 ⟨B, T, rfl, x_l, hB, h_w3⟩
  clear c_a_0_w1 c_a_1_w1 c_a_2_w1 c_a_3_w1 c_a_4_w1 c_a_5_w1 c_a_6_w1 c_a_7_w1 c_a_8_w1 c_a_0_w2 f_a_0_w2 c_a_1_w2 f_a_1_w2 c_a_2_w2 f_a_2_w2 c_a_3_w2 f_a_3_w2 c_a_4_w2 f_a_4_w2 c_a_5_w2 f_a_5_w2 c_a_6_w2 f_a_6_w2 c_a_7_w2 f_a_7_w2 c_a_8_w2 f_a_8_w2
  replace x_a := x_a.from_ h_w3
  have B_w3 := B_w2.trans (h_w3.mono B_w2.size)
  have s_w3 := h_w3.size
  replace own := own.below h_w3 (Nat.le_refl _)
  have hne : ∀ j, (Value.slice (some ⟨w1.heap.size, 0, none⟩) [s0].length [s0].length).ownBlock = some j → j ≠ B := by
    intro j hj
    have : w1.heap.size = j := by simpa [Value.ownBlock] using hj
    omega
  have c_a_0_w3 := x_a.cell (i := 0) rfl
  have c_a_1_w3 := x_a.cell (i := 1) rfl
  have c_a_2_w3 := x_a.cell (i := 2) rfl
  have c_a_3_w3 := x_a.cell (i := 3) rfl
  have c_a_4_w3 := x_a.cell (i := 4) rfl
  have c_a_5_w3 := x_a.cell (i := 5) rfl
  have c_a_6_w3 := x_a.cell (i := 6) rfl
  have c_a_7_w3 := x_a.cell (i := 7) rfl
  have c_a_8_w3 := x_a.cell (i := 8) rfl
  have c_l_0_w3 := x_l.cell (i := 0) rfl
  have c_l_1_w3 := x_l.cell (i := 1) rfl
  go_wp2_with fail
  refine wp_loop_rounds 3 ?_
  rw [rounds_succ]
  clear c_a_0_w3 c_a_1_w3 c_a_2_w3 c_a_3_w3 c_a_4_w3 c_a_5_w3 c_a_6_w3 c_a_7_w3 c_a_8_w3 c_l_0_w3 c_l_1_w3
  have c_a_0_w3 := x_a.cell (i := 0) rfl
  have c_a_1_w3 := x_a.cell (i := 1) rfl
  have c_a_2_w3 := x_a.cell (i := 2) rfl
  have c_a_3_w3 := x_a.cell (i := 3) rfl
  have c_a_4_w3 := x_a.cell (i := 4) rfl
  have c_a_5_w3 := x_a.cell (i := 5) rfl
  have c_a_6_w3 := x_a.cell (i := 6) rfl
  have c_a_7_w3 := x_a.cell (i := 7) rfl
  have c_a_8_w3 := x_a.cell (i := 8) rfl
  have c_l_0_w3 := x_l.cell (i := 0) rfl
  have c_l_1_w3 := x_l.cell (i := 1) rfl
  go_wp2_with fail
  refine (iNumText_any _ _ (ht.below B_w3) (by omega) (by omega)).mono ?_
  rintro e w4 ⟨rfl, h_w4⟩
  clear c_a_0_w3 c_a_1_w3 c_a_2_w3 c_a_3_w3 c_a_4_w3 c_a_5_w3 c_a_6_w3 c_a_7_w3 c_a_8_w3 c_l_0_w3 c_l_1_w3
  replace x_a := x_a.from_ h_w4
  replace x_l := x_l.from_ h_w4
  have B_w4 := B_w3.trans (h_w4.mono B_w3.size)
  have s_w4 := h_w4.size
  rw [Hs1.out]
  replace own := own.below h_w4 (Nat.le_refl _)
  go_wp2_with (at_builtin; refine wpl_appF Value.string ByteArray.empty _ one_str rfl (.tmp 19) (.tmp 24) 58 rfl (w1.heap.size) 9 i0 _ 16 Tryd.underlying58 hi hz0 hz1 hz2 rfl _ [s0] rfl (own.alloc_ _) _ _ _ 1 [s1] rfl rfl (rdF_one _ _ _ _ _) (by simp) (by omega) (by simp; omega) ?_)
  intro v_w5 w5 o_w5 g_w5 at_w5
  have B_w5 : Below w.heap.size w w5 := grown_belowF (B_w4.alloc B_w4.size _) (own.alloc_ _) g_w5 (by omega) (by simp; omega)
  replace x_a := (x_a.alloc _).grow g_w5 (fun e => by have := (own.lt _ e.symm).1; omega)
  have lt_l := x_l.lt
  replace x_l := (x_l.alloc _).grow g_w5 (fun e => hne _ e.symm rfl)
  replace hne : ∀ j, v_w5.ownBlock = some j → j ≠ B := by
    intro j hj
    rcases at_w5 with e | e
    · rw [e] at hj; exact hne j hj
    · rw [e] at hj; have : w4.heap.size + 1 = j := by simpa using hj
      omega
  replace own : OwnF Value.string w5 (w1.heap.size) 9 v_w5 [s0, s1] := o_w5
  have s_w5 := B_w5.size
  have sz_w5 : w4.heap.size ≤ w5.heap.size := by have := g_w5.size; simp at this; omega
  clear o_w5 g_w5 at_w5
  go_wp2_with fail
  rw [rounds_succ]
  have c_a_0_w5 := x_a.cell (i := 0) rfl
  have c_a_1_w5 := x_a.cell (i := 1) rfl
  have c_a_2_w5 := x_a.cell (i := 2) rfl
  have c_a_3_w5 := x_a.cell (i := 3) rfl
  have c_a_4_w5 := x_a.cell (i := 4) rfl
  have c_a_5_w5 := x_a.cell (i := 5) rfl
  have c_a_6_w5 := x_a.cell (i := 6) rfl
  have c_a_7_w5 := x_a.cell (i := 7) rfl
  have c_a_8_w5 := x_a.cell (i := 8) rfl
  have c_l_0_w5 := x_l.cell (i := 0) rfl
  have c_l_1_w5 := x_l.cell (i := 1) rfl
  go_wp2_with fail
  refine (iNumText_any _ _ (ht.below B_w5) (by omega) (by omega)).mono ?_
  rintro e w6 ⟨rfl, h_w6⟩
  clear c_a_0_w5 c_a_1_w5 c_a_2_w5 c_a_3_w5 c_a_4_w5 c_a_5_w5 c_a_6_w5 c_a_7_w5 c_a_8_w5 c_l_0_w5 c_l_1_w5
  replace x_a := x_a.from_ h_w6
  replace x_l := x_l.from_ h_w6
  have B_w6 := B_w5.trans (h_w6.mono B_w5.size)
  have s_w6 := h_w6.size
  rw [Hs4.out]
  replace own := own.below h_w6 (Nat.le_refl _)
  go_wp2_with (at_builtin; refine wpl_appF Value.string ByteArray.empty _ one_str rfl (.tmp 19) (.tmp 24) 58 rfl (w1.heap.size) 9 i0 _ 16 Tryd.underlying58 hi hz0 hz1 hz2 rfl _ [s0, s1] rfl (own.alloc_ _) _ _ _ 1 [s4] rfl rfl (rdF_one _ _ _ _ _) (by simp) (by omega) (by simp; omega) ?_)
  intro v_w7 w7 o_w7 g_w7 at_w7
  have B_w7 : Below w.heap.size w w7 := grown_belowF (B_w6.alloc B_w6.size _) (own.alloc_ _) g_w7 (by omega) (by simp; omega)
  replace x_a := (x_a.alloc _).grow g_w7 (fun e => by have := (own.lt _ e.symm).1; omega)
  have lt_l := x_l.lt
  replace x_l := (x_l.alloc _).grow g_w7 (fun e => hne _ e.symm rfl)
  replace hne : ∀ j, v_w7.ownBlock = some j → j ≠ B := by
    intro j hj
    rcases at_w7 with e | e
    · rw [e] at hj; exact hne j hj
    · rw [e] at hj; have : w6.heap.size + 1 = j := by simpa using hj
      omega
  replace own : OwnF Value.string w7 (w1.heap.size) 9 v_w7 [s0, s1, s4] := o_w7
  have s_w7 := B_w7.size
  have sz_w7 : w6.heap.size ≤ w7.heap.size := by have := g_w7.size; simp at this; omega
  clear o_w7 g_w7 at_w7
  go_wp2_with fail
  rw [rounds_succ]
  have c_a_0_w7 := x_a.cell (i := 0) rfl
  have c_a_1_w7 := x_a.cell (i := 1) rfl
  have c_a_2_w7 := x_a.cell (i := 2) rfl
  have c_a_3_w7 := x_a.cell (i := 3) rfl
  have c_a_4_w7 := x_a.cell (i := 4) rfl
  have c_a_5_w7 := x_a.cell (i := 5) rfl
  have c_a_6_w7 := x_a.cell (i := 6) rfl
  have c_a_7_w7 := x_a.cell (i := 7) rfl
  have c_a_8_w7 := x_a.cell (i := 8) rfl
  obtain ⟨A, c, rfl, hc1, hc2, hr⟩ := own.form (d := ByteArray.empty)
  obtain ⟨g, off, rfl, hg, hcell⟩ := hr (by simp)
  have hcs : ∀ (j : Nat) x, [s0, s1, s4][j]? = some x → w7.cell? ⟨g, off + j, none⟩ = some (.string x) := by
    intro j x hj
    have hlt : j < [s0, s1, s4].length := by rcases Nat.lt_or_ge j [s0, s1, s4].length with h | h; exact h; rw [List.getElem?_eq_none h] at hj; cases hj
    have := hcell j hlt
    rw [List.getD_eq_getElem?_getD, hj] at this
    exact this
  have hlen : (Lib.join ([s0, s1, s4].map (·.data.toList)) (⟨#[32]⟩ : ByteArray).data.toList).length ≤ 140737488355328 := by rw [join_len, HR.out]; omega
  clear hr hcell own
  go_wp2_with fail
  refine (Tryd.strings_Join g off c [s0, s1, s4] ⟨#[32]⟩ _ hcs hg (by simp) hc1 hlen).mono ?_
  rintro e w8 ⟨rfl, h_w8⟩
  clear c_a_0_w7 c_a_1_w7 c_a_2_w7 c_a_3_w7 c_a_4_w7 c_a_5_w7 c_a_6_w7 c_a_7_w7 c_a_8_w7
  replace x_a := x_a.from_ h_w8
  have B_w8 := B_w7.trans (h_w8.mono B_w7.size)
  have s_w8 := h_w8.size
  rw [join_eq, HR.out]
  go_wp2
  go_ret
  exact ⟨ret_eq (by rw [HP.out]; rfl), B_w8⟩

set_option maxRecDepth 100000 in
set_option maxHeartbeats 4000000 in
theorem rtext_3 {w : World} (ht : Tab10 w) (a o t m k1 k2 k3 k4 : Int) (ho : recOkB ⟨3, a, o, t, m, ⟨k1, k2, k3, k4⟩⟩ = true) : Calls Tryd.prog 10 #[.agg #[.int .i64 3, .int .i64 a, .int .i64 o, .int .i64 t, .int .i64 m, .int .i64 k1, .int .i64 k2, .int .i64 k3, .int .i64 k4]] w fun e w' => e = .returned (.string (recText ⟨3, a, o, t, m, ⟨k1, k2, k3, k4⟩⟩)) ∧ Below w.heap.size w w' := by
  have hp := recOk_parts ho
  obtain ⟨-, q1, q2, q3, q4, q5, -⟩ := hp
  simp only at q1 q2 q3 q4
  have hsz := recText_size (⟨3, a, o, t, m, ⟨k1, k2, k3, k4⟩⟩ : MRec)
  have HP0 : recText ⟨3, a, o, t, m, ⟨k1, k2, k3, k4⟩⟩ = joinSp (rkName 3) [numText a, numText t, numText m] := by
    unfold recText; rw [if_pos ho]; simp [recWords, recFields, kAcct, kOther, kTo, kAmt]
  clear q5
  obtain ⟨s0, hs0⟩ : ∃ z, rkName 3 = z := ⟨_, rfl⟩
  obtain ⟨s1, hs1⟩ : ∃ z, numText a = z := ⟨_, rfl⟩
  obtain ⟨s3, hs3⟩ : ∃ z, numText t = z := ⟨_, rfl⟩
  obtain ⟨s4, hs4⟩ : ∃ z, numText m = z := ⟨_, rfl⟩
  rw [hs0, hs1, hs3, hs4] at HP0
  obtain ⟨R, hR⟩ : ∃ z, joinSp s0 [s1, s3, s4] = z := ⟨_, rfl⟩
  rw [hR] at HP0
  rw [HP0] at hsz
  have HP := Lib.hid HP0
  have HR := Lib.hid hR
  have Hs0 := Lib.hid hs0
  have Hs1 := Lib.hid hs1
  have Hs3 := Lib.hid hs3
  have Hs4 := Lib.hid hs4
  have HO := Lib.hid ho
  clear ho HP0 hR hs0 hs1 hs3 hs4
  obtain ⟨i0, hi, hz0, hz1, hz2⟩ := info_parts Tryd.info_str
  obtain ⟨wa, hwa, B0, sa, x_a⟩ := frame1 w 26 [.int .i64 3, .int .i64 a, .int .i64 o, .int .i64 t, .int .i64 m, .int .i64 k1, .int .i64 k2, .int .i64 k3, .int .i64 k4]
  have sa_1 := Nat.le_of_eq sa
  have sa_2 := Nat.le_of_eq sa.symm
  clear sa
  have c_a_0_wa := x_a.cell (i := 0) rfl
  have c_a_1_wa := x_a.cell (i := 1) rfl
  have c_a_2_wa := x_a.cell (i := 2) rfl
  have c_a_3_wa := x_a.cell (i := 3) rfl
  have c_a_4_wa := x_a.cell (i := 4) rfl
  have c_a_5_wa := x_a.cell (i := 5) rfl
  have c_a_6_wa := x_a.cell (i := 6) rfl
  have c_a_7_wa := x_a.cell (i := 7) rfl
  have c_a_8_wa := x_a.cell (i := 8) rfl
  have rv : RV recL wa (.agg #[.int .i64 3, .int .i64 a, .int .i64 o, .int .i64 t, .int .i64 m, .int .i64 k1, .int .i64 k2, .int .i64 k3, .int .i64 k4]) ⟨3, a, o, t, m, ⟨k1, k2, k3, k4⟩⟩ := rv_rec_mk (zM := ⟨k1, k2, k3, k4⟩)
  go_enter Tryd.func10, Tryd.ntmps10
  go_wp2_with fail
  refine (iRecOk_c rv).mono ?_
  rintro e w1 ⟨rfl, h_w1⟩
  clear c_a_0_wa c_a_1_wa c_a_2_wa c_a_3_wa c_a_4_wa c_a_5_wa c_a_6_wa c_a_7_wa c_a_8_wa
  replace x_a := x_a.from_ h_w1
  have B_w1 := B0.trans (h_w1.mono B0.size)
  have s_w1 := h_w1.size
  rw [HO.out]
  clear rv
  have c_a_0_w1 := x_a.cell (i := 0) rfl
  have c_a_1_w1 := x_a.cell (i := 1) rfl
  have c_a_2_w1 := x_a.cell (i := 2) rfl
  have c_a_3_w1 := x_a.cell (i := 3) rfl
  have c_a_4_w1 := x_a.cell (i := 4) rfl
  have c_a_5_w1 := x_a.cell (i := 5) rfl
  have c_a_6_w1 := x_a.cell (i := 6) rfl
  have c_a_7_w1 := x_a.cell (i := 7) rfl
  have c_a_8_w1 := x_a.cell (i := 8) rfl
  go_wp2_with fail
  refine (iRkName_w _ _).mono ?_
  rintro e w' ⟨rfl, rfl⟩
  rw [Hs0.out]
  obtain ⟨w2, e_w2, s_w2, h_w2, x_s⟩ := alloc_step w1 9 [.string s0]
  have s_w2_1 := Nat.le_of_eq s_w2
  have s_w2_2 := Nat.le_of_eq s_w2.symm
  clear s_w2
  replace x_a := x_a.from_ h_w2
  have B_w2 := B_w1.trans (h_w2.mono B_w1.size)
  have own := own_vr (base := w1.heap.size) (xs := [s0]) x_s (Nat.le_refl _) (by simp)
  have c_a_0_w2 := x_a.cell (i := 0) rfl
  have f_a_0_w2 := x_a.frozen 0
  have c_a_1_w2 := x_a.cell (i := 1) rfl
  have f_a_1_w2 := x_a.frozen 1
  have c_a_2_w2 := x_a.cell (i := 2) rfl
  have f_a_2_w2 := x_a.frozen 2
  have c_a_3_w2 := x_a.cell (i := 3) rfl
  have f_a_3_w2 := x_a.frozen 3
  have c_a_4_w2 := x_a.cell (i := 4) rfl
  have f_a_4_w2 := x_a.frozen 4
  have c_a_5_w2 := x_a.cell (i := 5) rfl
  have f_a_5_w2 := x_a.frozen 5
  have c_a_6_w2 := x_a.cell (i := 6) rfl
  have f_a_6_w2 := x_a.frozen 6
  have c_a_7_w2 := x_a.cell (i := 7) rfl
  have f_a_7_w2 := x_a.frozen 7
  have c_a_8_w2 := x_a.cell (i := 8) rfl
  have f_a_8_w2 := x_a.frozen 8
  go_wp2_with fail
  refine (iUsed_3 x_a rfl).mono ?_
  rintro e w3 ⟨B, T, rfl, x_l, hB, h_w3⟩
  clear c_a_0_w1 c_a_1_w1 c_a_2_w1 c_a_3_w1 c_a_4_w1 c_a_5_w1 c_a_6_w1 c_a_7_w1 c_a_8_w1 c_a_0_w2 f_a_0_w2 c_a_1_w2 f_a_1_w2 c_a_2_w2 f_a_2_w2 c_a_3_w2 f_a_3_w2 c_a_4_w2 f_a_4_w2 c_a_5_w2 f_a_5_w2 c_a_6_w2 f_a_6_w2 c_a_7_w2 f_a_7_w2 c_a_8_w2 f_a_8_w2
  replace x_a := x_a.from_ h_w3
  have B_w3 := B_w2.trans (h_w3.mono B_w2.size)
  have s_w3 := h_w3.size
  replace own := own.below h_w3 (Nat.le_refl _)
  have hne : ∀ j, (Value.slice (some ⟨w1.heap.size, 0, none⟩) [s0].length [s0].length).ownBlock = some j → j ≠ B := by
    intro j hj
    have : w1.heap.size = j := by simpa [Value.ownBlock] using hj
    omega
  have c_a_0_w3 := x_a.cell (i := 0) rfl
  have c_a_1_w3 := x_a.cell (i := 1) rfl
  have c_a_2_w3 := x_a.cell (i := 2) rfl
  have c_a_3_w3 := x_a.cell (i := 3) rfl
  have c_a_4_w3 := x_a.cell (i := 4) rfl
  have c_a_5_w3 := x_a.cell (i := 5) rfl
  have c_a_6_w3 := x_a.cell (i := 6) rfl
  have c_a_7_w3 := x_a.cell (i := 7) rfl
  have c_a_8_w3 := x_a.cell (i := 8) rfl
  have c_l_0_w3 := x_l.cell (i := 0) rfl
  have c_l_1_w3 := x_l.cell (i := 1) rfl
  have c_l_2_w3 := x_l.cell (i := 2) rfl
  go_wp2_with fail
  refine wp_loop_rounds 4 ?_
  rw [rounds_succ]
  clear c_a_0_w3 c_a_1_w3 c_a_2_w3 c_a_3_w3 c_a_4_w3 c_a_5_w3 c_a_6_w3 c_a_7_w3 c_a_8_w3 c_l_0_w3 c_l_1_w3 c_l_2_w3
  have c_a_0_w3 := x_a.cell (i := 0) rfl
  have c_a_1_w3 := x_a.cell (i := 1) rfl
  have c_a_2_w3 := x_a.cell (i := 2) rfl
  have c_a_3_w3 := x_a.cell (i := 3) rfl
  have c_a_4_w3 := x_a.cell (i := 4) rfl
  have c_a_5_w3 := x_a.cell (i := 5) rfl
  have c_a_6_w3 := x_a.cell (i := 6) rfl
  have c_a_7_w3 := x_a.cell (i := 7) rfl
  have c_a_8_w3 := x_a.cell (i := 8) rfl
  have c_l_0_w3 := x_l.cell (i := 0) rfl
  have c_l_1_w3 := x_l.cell (i := 1) rfl
  have c_l_2_w3 := x_l.cell (i := 2) rfl
  go_wp2_with fail
  refine (iNumText_any _ _ (ht.below B_w3) (by omega) (by omega)).mono ?_
  rintro e w4 ⟨rfl, h_w4⟩
  clear c_a_0_w3 c_a_1_w3 c_a_2_w3 c_a_3_w3 c_a_4_w3 c_a_5_w3 c_a_6_w3 c_a_7_w3 c_a_8_w3 c_l_0_w3 c_l_1_w3 c_l_2_w3
  replace x_a := x_a.from_ h_w4
  replace x_l := x_l.from_ h_w4
  have B_w4 := B_w3.trans (h_w4.mono B_w3.size)
  have s_w4 := h_w4.size
  rw [Hs1.out]
  replace own := own.below h_w4 (Nat.le_refl _)
  go_wp2_with (at_builtin; refine wpl_appF Value.string ByteArray.empty _ one_str rfl (.tmp 19) (.tmp 24) 58 rfl (w1.heap.size) 9 i0 _ 16 Tryd.underlying58 hi hz0 hz1 hz2 rfl _ [s0] rfl (own.alloc_ _) _ _ _ 1 [s1] rfl rfl (rdF_one _ _ _ _ _) (by simp) (by omega) (by simp; omega) ?_)
  intro v_w5 w5 o_w5 g_w5 at_w5
  have B_w5 : Below w.heap.size w w5 := grown_belowF (B_w4.alloc B_w4.size _) (own.alloc_ _) g_w5 (by omega) (by simp; omega)
  replace x_a := (x_a.alloc _).grow g_w5 (fun e => by have := (own.lt _ e.symm).1; omega)
  have lt_l := x_l.lt
  replace x_l := (x_l.alloc _).grow g_w5 (fun e => hne _ e.symm rfl)
  replace hne : ∀ j, v_w5.ownBlock = some j → j ≠ B := by
    intro j hj
    rcases at_w5 with e | e
    · rw [e] at hj; exact hne j hj
    · rw [e] at hj; have : w4.heap.size + 1 = j := by simpa using hj
      omega
  replace own : OwnF Value.string w5 (w1.heap.size) 9 v_w5 [s0, s1] := o_w5
  have s_w5 := B_w5.size
  have sz_w5 : w4.heap.size ≤ w5.heap.size := by have := g_w5.size; simp at this; omega
  clear o_w5 g_w5 at_w5
  go_wp2_with fail
  rw [rounds_succ]
  have c_a_0_w5 := x_a.cell (i := 0) rfl
  have c_a_1_w5 := x_a.cell (i := 1) rfl
  have c_a_2_w5 := x_a.cell (i := 2) rfl
  have c_a_3_w5 := x_a.cell (i := 3) rfl
  have c_a_4_w5 := x_a.cell (i := 4) rfl
  have c_a_5_w5 := x_a.cell (i := 5) rfl
  have c_a_6_w5 := x_a.cell (i := 6) rfl
  have c_a_7_w5 := x_a.cell (i := 7) rfl
  have c_a_8_w5 := x_a.cell (i := 8) rfl
  have c_l_0_w5 := x_l.cell (i := 0) rfl
  have c_l_1_w5 := x_l.cell (i := 1) rfl
  have c_l_2_w5 := x_l.cell (i := 2) rfl
  go_wp2_with fail
  refine (iNumText_any _ _ (ht.below B_w5) (by omega) (by omega)).mono ?_
  rintro e w6 ⟨rfl, h_w6⟩
  clear c_a_0_w5 c_a_1_w5 c_a_2_w5 c_a_3_w5 c_a_4_w5 c_a_5_w5 c_a_6_w5 c_a_7_w5 c_a_8_w5 c_l_0_w5 c_l_1_w5 c_l_2_w5
  replace x_a := x_a.from_ h_w6
  replace x_l := x_l.from_ h_w6
  have B_w6 := B_w5.trans (h_w6.mono B_w5.size)
  have s_w6 := h_w6.size
  rw [Hs3.out]
  replace own := own.below h_w6 (Nat.le_refl _)
  go_wp2_with (at_builtin; refine wpl_appF Value.string ByteArray.empty _ one_str rfl (.tmp 19) (.tmp 24) 58 rfl (w1.heap.size) 9 i0 _ 16 Tryd.underlying58 hi hz0 hz1 hz2 rfl _ [s0, s1] rfl (own.alloc_ _) _ _ _ 1 [s3] rfl rfl (rdF_one _ _ _ _ _) (by simp) (by omega) (by simp; omega) ?_)
  intro v_w7 w7 o_w7 g_w7 at_w7
  have B_w7 : Below w.heap.size w w7 := grown_belowF (B_w6.alloc B_w6.size _) (own.alloc_ _) g_w7 (by omega) (by simp; omega)
  replace x_a := (x_a.alloc _).grow g_w7 (fun e => by have := (own.lt _ e.symm).1; omega)
  have lt_l := x_l.lt
  replace x_l := (x_l.alloc _).grow g_w7 (fun e => hne _ e.symm rfl)
  replace hne : ∀ j, v_w7.ownBlock = some j → j ≠ B := by
    intro j hj
    rcases at_w7 with e | e
    · rw [e] at hj; exact hne j hj
    · rw [e] at hj; have : w6.heap.size + 1 = j := by simpa using hj
      omega
  replace own : OwnF Value.string w7 (w1.heap.size) 9 v_w7 [s0, s1, s3] := o_w7
  have s_w7 := B_w7.size
  have sz_w7 : w6.heap.size ≤ w7.heap.size := by have := g_w7.size; simp at this; omega
  clear o_w7 g_w7 at_w7
  go_wp2_with fail
  rw [rounds_succ]
  have c_a_0_w7 := x_a.cell (i := 0) rfl
  have c_a_1_w7 := x_a.cell (i := 1) rfl
  have c_a_2_w7 := x_a.cell (i := 2) rfl
  have c_a_3_w7 := x_a.cell (i := 3) rfl
  have c_a_4_w7 := x_a.cell (i := 4) rfl
  have c_a_5_w7 := x_a.cell (i := 5) rfl
  have c_a_6_w7 := x_a.cell (i := 6) rfl
  have c_a_7_w7 := x_a.cell (i := 7) rfl
  have c_a_8_w7 := x_a.cell (i := 8) rfl
  have c_l_0_w7 := x_l.cell (i := 0) rfl
  have c_l_1_w7 := x_l.cell (i := 1) rfl
  have c_l_2_w7 := x_l.cell (i := 2) rfl
  go_wp2_with fail
  refine (iNumText_any _ _ (ht.below B_w7) (by omega) (by omega)).mono ?_
  rintro e w8 ⟨rfl, h_w8⟩
  clear c_a_0_w7 c_a_1_w7 c_a_2_w7 c_a_3_w7 c_a_4_w7 c_a_5_w7 c_a_6_w7 c_a_7_w7 c_a_8_w7 c_l_0_w7 c_l_1_w7 c_l_2_w7
  replace x_a := x_a.from_ h_w8
  replace x_l := x_l.from_ h_w8
  have B_w8 := B_w7.trans (h_w8.mono B_w7.size)
  have s_w8 := h_w8.size
  rw [Hs4.out]
  replace own := own.below h_w8 (Nat.le_refl _)
  go_wp2_with (at_builtin; refine wpl_appF Value.string ByteArray.empty _ one_str rfl (.tmp 19) (.tmp 24) 58 rfl (w1.heap.size) 9 i0 _ 16 Tryd.underlying58 hi hz0 hz1 hz2 rfl _ [s0, s1, s3] rfl (own.alloc_ _) _ _ _ 1 [s4] rfl rfl (rdF_one _ _ _ _ _) (by simp) (by omega) (by simp; omega) ?_)
  intro v_w9 w9 o_w9 g_w9 at_w9
  have B_w9 : Below w.heap.size w w9 := grown_belowF (B_w8.alloc B_w8.size _) (own.alloc_ _) g_w9 (by omega) (by simp; omega)
  replace x_a := (x_a.alloc _).grow g_w9 (fun e => by have := (own.lt _ e.symm).1; omega)
  have lt_l := x_l.lt
  replace x_l := (x_l.alloc _).grow g_w9 (fun e => hne _ e.symm rfl)
  replace hne : ∀ j, v_w9.ownBlock = some j → j ≠ B := by
    intro j hj
    rcases at_w9 with e | e
    · rw [e] at hj; exact hne j hj
    · rw [e] at hj; have : w8.heap.size + 1 = j := by simpa using hj
      omega
  replace own : OwnF Value.string w9 (w1.heap.size) 9 v_w9 [s0, s1, s3, s4] := o_w9
  have s_w9 := B_w9.size
  have sz_w9 : w8.heap.size ≤ w9.heap.size := by have := g_w9.size; simp at this; omega
  clear o_w9 g_w9 at_w9
  go_wp2_with fail
  rw [rounds_succ]
  have c_a_0_w9 := x_a.cell (i := 0) rfl
  have c_a_1_w9 := x_a.cell (i := 1) rfl
  have c_a_2_w9 := x_a.cell (i := 2) rfl
  have c_a_3_w9 := x_a.cell (i := 3) rfl
  have c_a_4_w9 := x_a.cell (i := 4) rfl
  have c_a_5_w9 := x_a.cell (i := 5) rfl
  have c_a_6_w9 := x_a.cell (i := 6) rfl
  have c_a_7_w9 := x_a.cell (i := 7) rfl
  have c_a_8_w9 := x_a.cell (i := 8) rfl
  obtain ⟨A, c, rfl, hc1, hc2, hr⟩ := own.form (d := ByteArray.empty)
  obtain ⟨g, off, rfl, hg, hcell⟩ := hr (by simp)
  have hcs : ∀ (j : Nat) x, [s0, s1, s3, s4][j]? = some x → w9.cell? ⟨g, off + j, none⟩ = some (.string x) := by
    intro j x hj
    have hlt : j < [s0, s1, s3, s4].length := by rcases Nat.lt_or_ge j [s0, s1, s3, s4].length with h | h; exact h; rw [List.getElem?_eq_none h] at hj; cases hj
    have := hcell j hlt
    rw [List.getD_eq_getElem?_getD, hj] at this
    exact this
  have hlen : (Lib.join ([s0, s1, s3, s4].map (·.data.toList)) (⟨#[32]⟩ : ByteArray).data.toList).length ≤ 140737488355328 := by rw [join_len, HR.out]; omega
  clear hr hcell own
  go_wp2_with fail
  refine (Tryd.strings_Join g off c [s0, s1, s3, s4] ⟨#[32]⟩ _ hcs hg (by simp) hc1 hlen).mono ?_
  rintro e w10 ⟨rfl, h_w10⟩
  clear c_a_0_w9 c_a_1_w9 c_a_2_w9 c_a_3_w9 c_a_4_w9 c_a_5_w9 c_a_6_w9 c_a_7_w9 c_a_8_w9
  replace x_a := x_a.from_ h_w10
  have B_w10 := B_w9.trans (h_w10.mono B_w9.size)
  have s_w10 := h_w10.size
  rw [join_eq, HR.out]
  go_wp2
  go_ret
  exact ⟨ret_eq (by rw [HP.out]; rfl), B_w10⟩

set_option maxRecDepth 100000 in
set_option maxHeartbeats 4000000 in
theorem rtext_4 {w : World} (ht : Tab10 w) (a o t m k1 k2 k3 k4 : Int) (ho : recOkB ⟨4, a, o, t, m, ⟨k1, k2, k3, k4⟩⟩ = true) : Calls Tryd.prog 10 #[.agg #[.int .i64 4, .int .i64 a, .int .i64 o, .int .i64 t, .int .i64 m, .int .i64 k1, .int .i64 k2, .int .i64 k3, .int .i64 k4]] w fun e w' => e = .returned (.string (recText ⟨4, a, o, t, m, ⟨k1, k2, k3, k4⟩⟩)) ∧ Below w.heap.size w w' := by
  have hp := recOk_parts ho
  obtain ⟨-, q1, q2, q3, q4, q5, -⟩ := hp
  simp only at q1 q2 q3 q4
  have hsz := recText_size (⟨4, a, o, t, m, ⟨k1, k2, k3, k4⟩⟩ : MRec)
  have HP0 : recText ⟨4, a, o, t, m, ⟨k1, k2, k3, k4⟩⟩ = joinSp (rkName 4) [numText a, numText o, numText t, numText m] := by
    unfold recText; rw [if_pos ho]; simp [recWords, recFields, kAcct, kOther, kTo, kAmt]
  clear q5
  obtain ⟨s0, hs0⟩ : ∃ z, rkName 4 = z := ⟨_, rfl⟩
  obtain ⟨s1, hs1⟩ : ∃ z, numText a = z := ⟨_, rfl⟩
  obtain ⟨s2, hs2⟩ : ∃ z, numText o = z := ⟨_, rfl⟩
  obtain ⟨s3, hs3⟩ : ∃ z, numText t = z := ⟨_, rfl⟩
  obtain ⟨s4, hs4⟩ : ∃ z, numText m = z := ⟨_, rfl⟩
  rw [hs0, hs1, hs2, hs3, hs4] at HP0
  obtain ⟨R, hR⟩ : ∃ z, joinSp s0 [s1, s2, s3, s4] = z := ⟨_, rfl⟩
  rw [hR] at HP0
  rw [HP0] at hsz
  have HP := Lib.hid HP0
  have HR := Lib.hid hR
  have Hs0 := Lib.hid hs0
  have Hs1 := Lib.hid hs1
  have Hs2 := Lib.hid hs2
  have Hs3 := Lib.hid hs3
  have Hs4 := Lib.hid hs4
  have HO := Lib.hid ho
  clear ho HP0 hR hs0 hs1 hs2 hs3 hs4
  obtain ⟨i0, hi, hz0, hz1, hz2⟩ := info_parts Tryd.info_str
  obtain ⟨wa, hwa, B0, sa, x_a⟩ := frame1 w 26 [.int .i64 4, .int .i64 a, .int .i64 o, .int .i64 t, .int .i64 m, .int .i64 k1, .int .i64 k2, .int .i64 k3, .int .i64 k4]
  have sa_1 := Nat.le_of_eq sa
  have sa_2 := Nat.le_of_eq sa.symm
  clear sa
  have c_a_0_wa := x_a.cell (i := 0) rfl
  have c_a_1_wa := x_a.cell (i := 1) rfl
  have c_a_2_wa := x_a.cell (i := 2) rfl
  have c_a_3_wa := x_a.cell (i := 3) rfl
  have c_a_4_wa := x_a.cell (i := 4) rfl
  have c_a_5_wa := x_a.cell (i := 5) rfl
  have c_a_6_wa := x_a.cell (i := 6) rfl
  have c_a_7_wa := x_a.cell (i := 7) rfl
  have c_a_8_wa := x_a.cell (i := 8) rfl
  have rv : RV recL wa (.agg #[.int .i64 4, .int .i64 a, .int .i64 o, .int .i64 t, .int .i64 m, .int .i64 k1, .int .i64 k2, .int .i64 k3, .int .i64 k4]) ⟨4, a, o, t, m, ⟨k1, k2, k3, k4⟩⟩ := rv_rec_mk (zM := ⟨k1, k2, k3, k4⟩)
  go_enter Tryd.func10, Tryd.ntmps10
  go_wp2_with fail
  refine (iRecOk_c rv).mono ?_
  rintro e w1 ⟨rfl, h_w1⟩
  clear c_a_0_wa c_a_1_wa c_a_2_wa c_a_3_wa c_a_4_wa c_a_5_wa c_a_6_wa c_a_7_wa c_a_8_wa
  replace x_a := x_a.from_ h_w1
  have B_w1 := B0.trans (h_w1.mono B0.size)
  have s_w1 := h_w1.size
  rw [HO.out]
  clear rv
  have c_a_0_w1 := x_a.cell (i := 0) rfl
  have c_a_1_w1 := x_a.cell (i := 1) rfl
  have c_a_2_w1 := x_a.cell (i := 2) rfl
  have c_a_3_w1 := x_a.cell (i := 3) rfl
  have c_a_4_w1 := x_a.cell (i := 4) rfl
  have c_a_5_w1 := x_a.cell (i := 5) rfl
  have c_a_6_w1 := x_a.cell (i := 6) rfl
  have c_a_7_w1 := x_a.cell (i := 7) rfl
  have c_a_8_w1 := x_a.cell (i := 8) rfl
  go_wp2_with fail
  refine (iRkName_w _ _).mono ?_
  rintro e w' ⟨rfl, rfl⟩
  rw [Hs0.out]
  obtain ⟨w2, e_w2, s_w2, h_w2, x_s⟩ := alloc_step w1 9 [.string s0]
  have s_w2_1 := Nat.le_of_eq s_w2
  have s_w2_2 := Nat.le_of_eq s_w2.symm
  clear s_w2
  replace x_a := x_a.from_ h_w2
  have B_w2 := B_w1.trans (h_w2.mono B_w1.size)
  have own := own_vr (base := w1.heap.size) (xs := [s0]) x_s (Nat.le_refl _) (by simp)
  have c_a_0_w2 := x_a.cell (i := 0) rfl
  have f_a_0_w2 := x_a.frozen 0
  have c_a_1_w2 := x_a.cell (i := 1) rfl
  have f_a_1_w2 := x_a.frozen 1
  have c_a_2_w2 := x_a.cell (i := 2) rfl
  have f_a_2_w2 := x_a.frozen 2
  have c_a_3_w2 := x_a.cell (i := 3) rfl
  have f_a_3_w2 := x_a.frozen 3
  have c_a_4_w2 := x_a.cell (i := 4) rfl
  have f_a_4_w2 := x_a.frozen 4
  have c_a_5_w2 := x_a.cell (i := 5) rfl
  have f_a_5_w2 := x_a.frozen 5
  have c_a_6_w2 := x_a.cell (i := 6) rfl
  have f_a_6_w2 := x_a.frozen 6
  have c_a_7_w2 := x_a.cell (i := 7) rfl
  have f_a_7_w2 := x_a.frozen 7
  have c_a_8_w2 := x_a.cell (i := 8) rfl
  have f_a_8_w2 := x_a.frozen 8
  go_wp2_with fail
  refine (iUsed_4 x_a rfl).mono ?_
  rintro e w3 ⟨B, T, rfl, x_l, hB, h_w3⟩
  clear c_a_0_w1 c_a_1_w1 c_a_2_w1 c_a_3_w1 c_a_4_w1 c_a_5_w1 c_a_6_w1 c_a_7_w1 c_a_8_w1 c_a_0_w2 f_a_0_w2 c_a_1_w2 f_a_1_w2 c_a_2_w2 f_a_2_w2 c_a_3_w2 f_a_3_w2 c_a_4_w2 f_a_4_w2 c_a_5_w2 f_a_5_w2 c_a_6_w2 f_a_6_w2 c_a_7_w2 f_a_7_w2 c_a_8_w2 f_a_8_w2
  replace x_a := x_a.from_ h_w3
  have B_w3 := B_w2.trans (h_w3.mono B_w2.size)
  have s_w3 := h_w3.size
  replace own := own.below h_w3 (Nat.le_refl _)
  have hne : ∀ j, (Value.slice (some ⟨w1.heap.size, 0, none⟩) [s0].length [s0].length).ownBlock = some j → j ≠ B := by
    intro j hj
    have : w1.heap.size = j := by simpa [Value.ownBlock] using hj
    omega
  have c_a_0_w3 := x_a.cell (i := 0) rfl
  have c_a_1_w3 := x_a.cell (i := 1) rfl
  have c_a_2_w3 := x_a.cell (i := 2) rfl
  have c_a_3_w3 := x_a.cell (i := 3) rfl
  have c_a_4_w3 := x_a.cell (i := 4) rfl
  have c_a_5_w3 := x_a.cell (i := 5) rfl
  have c_a_6_w3 := x_a.cell (i := 6) rfl
  have c_a_7_w3 := x_a.cell (i := 7) rfl
  have c_a_8_w3 := x_a.cell (i := 8) rfl
  have c_l_0_w3 := x_l.cell (i := 0) rfl
  have c_l_1_w3 := x_l.cell (i := 1) rfl
  have c_l_2_w3 := x_l.cell (i := 2) rfl
  have c_l_3_w3 := x_l.cell (i := 3) rfl
  go_wp2_with fail
  refine wp_loop_rounds 5 ?_
  rw [rounds_succ]
  clear c_a_0_w3 c_a_1_w3 c_a_2_w3 c_a_3_w3 c_a_4_w3 c_a_5_w3 c_a_6_w3 c_a_7_w3 c_a_8_w3 c_l_0_w3 c_l_1_w3 c_l_2_w3 c_l_3_w3
  have c_a_0_w3 := x_a.cell (i := 0) rfl
  have c_a_1_w3 := x_a.cell (i := 1) rfl
  have c_a_2_w3 := x_a.cell (i := 2) rfl
  have c_a_3_w3 := x_a.cell (i := 3) rfl
  have c_a_4_w3 := x_a.cell (i := 4) rfl
  have c_a_5_w3 := x_a.cell (i := 5) rfl
  have c_a_6_w3 := x_a.cell (i := 6) rfl
  have c_a_7_w3 := x_a.cell (i := 7) rfl
  have c_a_8_w3 := x_a.cell (i := 8) rfl
  have c_l_0_w3 := x_l.cell (i := 0) rfl
  have c_l_1_w3 := x_l.cell (i := 1) rfl
  have c_l_2_w3 := x_l.cell (i := 2) rfl
  have c_l_3_w3 := x_l.cell (i := 3) rfl
  go_wp2_with fail
  refine (iNumText_any _ _ (ht.below B_w3) (by omega) (by omega)).mono ?_
  rintro e w4 ⟨rfl, h_w4⟩
  clear c_a_0_w3 c_a_1_w3 c_a_2_w3 c_a_3_w3 c_a_4_w3 c_a_5_w3 c_a_6_w3 c_a_7_w3 c_a_8_w3 c_l_0_w3 c_l_1_w3 c_l_2_w3 c_l_3_w3
  replace x_a := x_a.from_ h_w4
  replace x_l := x_l.from_ h_w4
  have B_w4 := B_w3.trans (h_w4.mono B_w3.size)
  have s_w4 := h_w4.size
  rw [Hs1.out]
  replace own := own.below h_w4 (Nat.le_refl _)
  go_wp2_with (at_builtin; refine wpl_appF Value.string ByteArray.empty _ one_str rfl (.tmp 19) (.tmp 24) 58 rfl (w1.heap.size) 9 i0 _ 16 Tryd.underlying58 hi hz0 hz1 hz2 rfl _ [s0] rfl (own.alloc_ _) _ _ _ 1 [s1] rfl rfl (rdF_one _ _ _ _ _) (by simp) (by omega) (by simp; omega) ?_)
  intro v_w5 w5 o_w5 g_w5 at_w5
  have B_w5 : Below w.heap.size w w5 := grown_belowF (B_w4.alloc B_w4.size _) (own.alloc_ _) g_w5 (by omega) (by simp; omega)
  replace x_a := (x_a.alloc _).grow g_w5 (fun e => by have := (own.lt _ e.symm).1; omega)
  have lt_l := x_l.lt
  replace x_l := (x_l.alloc _).grow g_w5 (fun e => hne _ e.symm rfl)
  replace hne : ∀ j, v_w5.ownBlock = some j → j ≠ B := by
    intro j hj
    rcases at_w5 with e | e
    · rw [e] at hj; exact hne j hj
    · rw [e] at hj; have : w4.heap.size + 1 = j := by simpa using hj
      omega
  replace own : OwnF Value.string w5 (w1.heap.size) 9 v_w5 [s0, s1] := o_w5
  have s_w5 := B_w5.size
  have sz_w5 : w4.heap.size ≤ w5.heap.size := by have := g_w5.size; simp at this; omega
  clear o_w5 g_w5 at_w5
  go_wp2_with fail
  rw [rounds_succ]
  have c_a_0_w5 := x_a.cell (i := 0) rfl
  have c_a_1_w5 := x_a.cell (i := 1) rfl
  have c_a_2_w5 := x_a.cell (i := 2) rfl
  have c_a_3_w5 := x_a.cell (i := 3) rfl
  have c_a_4_w5 := x_a.cell (i := 4) rfl
  have c_a_5_w5 := x_a.cell (i := 5) rfl
  have c_a_6_w5 := x_a.cell (i := 6) rfl
  have c_a_7_w5 := x_a.cell (i := 7) rfl
  have c_a_8_w5 := x_a.cell (i := 8) rfl
  have c_l_0_w5 := x_l.cell (i := 0) rfl
  have c_l_1_w5 := x_l.cell (i := 1) rfl
  have c_l_2_w5 := x_l.cell (i := 2) rfl
  have c_l_3_w5 := x_l.cell (i := 3) rfl
  go_wp2_with fail
  refine (iNumText_any _ _ (ht.below B_w5) (by omega) (by omega)).mono ?_
  rintro e w6 ⟨rfl, h_w6⟩
  clear c_a_0_w5 c_a_1_w5 c_a_2_w5 c_a_3_w5 c_a_4_w5 c_a_5_w5 c_a_6_w5 c_a_7_w5 c_a_8_w5 c_l_0_w5 c_l_1_w5 c_l_2_w5 c_l_3_w5
  replace x_a := x_a.from_ h_w6
  replace x_l := x_l.from_ h_w6
  have B_w6 := B_w5.trans (h_w6.mono B_w5.size)
  have s_w6 := h_w6.size
  rw [Hs2.out]
  replace own := own.below h_w6 (Nat.le_refl _)
  go_wp2_with (at_builtin; refine wpl_appF Value.string ByteArray.empty _ one_str rfl (.tmp 19) (.tmp 24) 58 rfl (w1.heap.size) 9 i0 _ 16 Tryd.underlying58 hi hz0 hz1 hz2 rfl _ [s0, s1] rfl (own.alloc_ _) _ _ _ 1 [s2] rfl rfl (rdF_one _ _ _ _ _) (by simp) (by omega) (by simp; omega) ?_)
  intro v_w7 w7 o_w7 g_w7 at_w7
  have B_w7 : Below w.heap.size w w7 := grown_belowF (B_w6.alloc B_w6.size _) (own.alloc_ _) g_w7 (by omega) (by simp; omega)
  replace x_a := (x_a.alloc _).grow g_w7 (fun e => by have := (own.lt _ e.symm).1; omega)
  have lt_l := x_l.lt
  replace x_l := (x_l.alloc _).grow g_w7 (fun e => hne _ e.symm rfl)
  replace hne : ∀ j, v_w7.ownBlock = some j → j ≠ B := by
    intro j hj
    rcases at_w7 with e | e
    · rw [e] at hj; exact hne j hj
    · rw [e] at hj; have : w6.heap.size + 1 = j := by simpa using hj
      omega
  replace own : OwnF Value.string w7 (w1.heap.size) 9 v_w7 [s0, s1, s2] := o_w7
  have s_w7 := B_w7.size
  have sz_w7 : w6.heap.size ≤ w7.heap.size := by have := g_w7.size; simp at this; omega
  clear o_w7 g_w7 at_w7
  go_wp2_with fail
  rw [rounds_succ]
  have c_a_0_w7 := x_a.cell (i := 0) rfl
  have c_a_1_w7 := x_a.cell (i := 1) rfl
  have c_a_2_w7 := x_a.cell (i := 2) rfl
  have c_a_3_w7 := x_a.cell (i := 3) rfl
  have c_a_4_w7 := x_a.cell (i := 4) rfl
  have c_a_5_w7 := x_a.cell (i := 5) rfl
  have c_a_6_w7 := x_a.cell (i := 6) rfl
  have c_a_7_w7 := x_a.cell (i := 7) rfl
  have c_a_8_w7 := x_a.cell (i := 8) rfl
  have c_l_0_w7 := x_l.cell (i := 0) rfl
  have c_l_1_w7 := x_l.cell (i := 1) rfl
  have c_l_2_w7 := x_l.cell (i := 2) rfl
  have c_l_3_w7 := x_l.cell (i := 3) rfl
  go_wp2_with fail
  refine (iNumText_any _ _ (ht.below B_w7) (by omega) (by omega)).mono ?_
  rintro e w8 ⟨rfl, h_w8⟩
  clear c_a_0_w7 c_a_1_w7 c_a_2_w7 c_a_3_w7 c_a_4_w7 c_a_5_w7 c_a_6_w7 c_a_7_w7 c_a_8_w7 c_l_0_w7 c_l_1_w7 c_l_2_w7 c_l_3_w7
  replace x_a := x_a.from_ h_w8
  replace x_l := x_l.from_ h_w8
  have B_w8 := B_w7.trans (h_w8.mono B_w7.size)
  have s_w8 := h_w8.size
  rw [Hs3.out]
  replace own := own.below h_w8 (Nat.le_refl _)
  go_wp2_with (at_builtin; refine wpl_appF Value.string ByteArray.empty _ one_str rfl (.tmp 19) (.tmp 24) 58 rfl (w1.heap.size) 9 i0 _ 16 Tryd.underlying58 hi hz0 hz1 hz2 rfl _ [s0, s1, s2] rfl (own.alloc_ _) _ _ _ 1 [s3] rfl rfl (rdF_one _ _ _ _ _) (by simp) (by omega) (by simp; omega) ?_)
  intro v_w9 w9 o_w9 g_w9 at_w9
  have B_w9 : Below w.heap.size w w9 := grown_belowF (B_w8.alloc B_w8.size _) (own.alloc_ _) g_w9 (by omega) (by simp; omega)
  replace x_a := (x_a.alloc _).grow g_w9 (fun e => by have := (own.lt _ e.symm).1; omega)
  have lt_l := x_l.lt
  replace x_l := (x_l.alloc _).grow g_w9 (fun e => hne _ e.symm rfl)
  replace hne : ∀ j, v_w9.ownBlock = some j → j ≠ B := by
    intro j hj
    rcases at_w9 with e | e
    · rw [e] at hj; exact hne j hj
    · rw [e] at hj; have : w8.heap.size + 1 = j := by simpa using hj
      omega
  replace own : OwnF Value.string w9 (w1.heap.size) 9 v_w9 [s0, s1, s2, s3] := o_w9
  have s_w9 := B_w9.size
  have sz_w9 : w8.heap.size ≤ w9.heap.size := by have := g_w9.size; simp at this; omega
  clear o_w9 g_w9 at_w9
  go_wp2_with fail
  rw [rounds_succ]
  have c_a_0_w9 := x_a.cell (i := 0) rfl
  have c_a_1_w9 := x_a.cell (i := 1) rfl
  have c_a_2_w9 := x_a.cell (i := 2) rfl
  have c_a_3_w9 := x_a.cell (i := 3) rfl
  have c_a_4_w9 := x_a.cell (i := 4) rfl
  have c_a_5_w9 := x_a.cell (i := 5) rfl
  have c_a_6_w9 := x_a.cell (i := 6) rfl
  have c_a_7_w9 := x_a.cell (i := 7) rfl
  have c_a_8_w9 := x_a.cell (i := 8) rfl
  have c_l_0_w9 := x_l.cell (i := 0) rfl
  have c_l_1_w9 := x_l.cell (i := 1) rfl
  have c_l_2_w9 := x_l.cell (i := 2) rfl
  have c_l_3_w9 := x_l.cell (i := 3) rfl
  go_wp2_with fail
  refine (iNumText_any _ _ (ht.below B_w9) (by omega) (by omega)).mono ?_
  rintro e w10 ⟨rfl, h_w10⟩
  clear c_a_0_w9 c_a_1_w9 c_a_2_w9 c_a_3_w9 c_a_4_w9 c_a_5_w9 c_a_6_w9 c_a_7_w9 c_a_8_w9 c_l_0_w9 c_l_1_w9 c_l_2_w9 c_l_3_w9
  replace x_a := x_a.from_ h_w10
  replace x_l := x_l.from_ h_w10
  have B_w10 := B_w9.trans (h_w10.mono B_w9.size)
  have s_w10 := h_w10.size
  rw [Hs4.out]
  replace own := own.below h_w10 (Nat.le_refl _)
  go_wp2_with (at_builtin; refine wpl_appF Value.string ByteArray.empty _ one_str rfl (.tmp 19) (.tmp 24) 58 rfl (w1.heap.size) 9 i0 _ 16 Tryd.underlying58 hi hz0 hz1 hz2 rfl _ [s0, s1, s2, s3] rfl (own.alloc_ _) _ _ _ 1 [s4] rfl rfl (rdF_one _ _ _ _ _) (by simp) (by omega) (by simp; omega) ?_)
  intro v_w11 w11 o_w11 g_w11 at_w11
  have B_w11 : Below w.heap.size w w11 := grown_belowF (B_w10.alloc B_w10.size _) (own.alloc_ _) g_w11 (by omega) (by simp; omega)
  replace x_a := (x_a.alloc _).grow g_w11 (fun e => by have := (own.lt _ e.symm).1; omega)
  have lt_l := x_l.lt
  replace x_l := (x_l.alloc _).grow g_w11 (fun e => hne _ e.symm rfl)
  replace hne : ∀ j, v_w11.ownBlock = some j → j ≠ B := by
    intro j hj
    rcases at_w11 with e | e
    · rw [e] at hj; exact hne j hj
    · rw [e] at hj; have : w10.heap.size + 1 = j := by simpa using hj
      omega
  replace own : OwnF Value.string w11 (w1.heap.size) 9 v_w11 [s0, s1, s2, s3, s4] := o_w11
  have s_w11 := B_w11.size
  have sz_w11 : w10.heap.size ≤ w11.heap.size := by have := g_w11.size; simp at this; omega
  clear o_w11 g_w11 at_w11
  go_wp2_with fail
  rw [rounds_succ]
  have c_a_0_w11 := x_a.cell (i := 0) rfl
  have c_a_1_w11 := x_a.cell (i := 1) rfl
  have c_a_2_w11 := x_a.cell (i := 2) rfl
  have c_a_3_w11 := x_a.cell (i := 3) rfl
  have c_a_4_w11 := x_a.cell (i := 4) rfl
  have c_a_5_w11 := x_a.cell (i := 5) rfl
  have c_a_6_w11 := x_a.cell (i := 6) rfl
  have c_a_7_w11 := x_a.cell (i := 7) rfl
  have c_a_8_w11 := x_a.cell (i := 8) rfl
  obtain ⟨A, c, rfl, hc1, hc2, hr⟩ := own.form (d := ByteArray.empty)
  obtain ⟨g, off, rfl, hg, hcell⟩ := hr (by simp)
  have hcs : ∀ (j : Nat) x, [s0, s1, s2, s3, s4][j]? = some x → w11.cell? ⟨g, off + j, none⟩ = some (.string x) := by
    intro j x hj
    have hlt : j < [s0, s1, s2, s3, s4].length := by rcases Nat.lt_or_ge j [s0, s1, s2, s3, s4].length with h | h; exact h; rw [List.getElem?_eq_none h] at hj; cases hj
    have := hcell j hlt
    rw [List.getD_eq_getElem?_getD, hj] at this
    exact this
  have hlen : (Lib.join ([s0, s1, s2, s3, s4].map (·.data.toList)) (⟨#[32]⟩ : ByteArray).data.toList).length ≤ 140737488355328 := by rw [join_len, HR.out]; omega
  clear hr hcell own
  go_wp2_with fail
  refine (Tryd.strings_Join g off c [s0, s1, s2, s3, s4] ⟨#[32]⟩ _ hcs hg (by simp) hc1 hlen).mono ?_
  rintro e w12 ⟨rfl, h_w12⟩
  clear c_a_0_w11 c_a_1_w11 c_a_2_w11 c_a_3_w11 c_a_4_w11 c_a_5_w11 c_a_6_w11 c_a_7_w11 c_a_8_w11
  replace x_a := x_a.from_ h_w12
  have B_w12 := B_w11.trans (h_w12.mono B_w11.size)
  have s_w12 := h_w12.size
  rw [join_eq, HR.out]
  go_wp2
  go_ret
  exact ⟨ret_eq (by rw [HP.out]; rfl), B_w12⟩

set_option maxRecDepth 100000 in
set_option maxHeartbeats 4000000 in
theorem rtext_5 {w : World} (ht : Tab10 w) (a o t m k1 k2 k3 k4 : Int) (ho : recOkB ⟨5, a, o, t, m, ⟨k1, k2, k3, k4⟩⟩ = true) : Calls Tryd.prog 10 #[.agg #[.int .i64 5, .int .i64 a, .int .i64 o, .int .i64 t, .int .i64 m, .int .i64 k1, .int .i64 k2, .int .i64 k3, .int .i64 k4]] w fun e w' => e = .returned (.string (recText ⟨5, a, o, t, m, ⟨k1, k2, k3, k4⟩⟩)) ∧ Below w.heap.size w w' := by
  have hp := recOk_parts ho
  obtain ⟨-, q1, q2, q3, q4, q5, -⟩ := hp
  simp only at q1 q2 q3 q4
  have hsz := recText_size (⟨5, a, o, t, m, ⟨k1, k2, k3, k4⟩⟩ : MRec)
  have hM := q5 rfl
  have HP0 : recText ⟨5, a, o, t, m, ⟨k1, k2, k3, k4⟩⟩ = joinSp (rkName 5) [numText t, numText m, msgText ⟨k1, k2, k3, k4⟩] := by
    unfold recText; rw [if_pos ho, msgText_join hM]
    refine Eq.trans ?_ (joinSp_flat (rkName 5) (msgName k1) [numText t, numText m] (msgWords ⟨k1, k2, k3, k4⟩)).symm
    simp [recWords, recFields, kAcct, kOther, kTo, kAmt]
  clear q5
  obtain ⟨s0, hs0⟩ : ∃ z, rkName 5 = z := ⟨_, rfl⟩
  obtain ⟨s3, hs3⟩ : ∃ z, numText t = z := ⟨_, rfl⟩
  obtain ⟨s4, hs4⟩ : ∃ z, numText m = z := ⟨_, rfl⟩
  obtain ⟨sm, hsm⟩ : ∃ z, msgText ⟨k1, k2, k3, k4⟩ = z := ⟨_, rfl⟩
  rw [hs0, hs3, hs4, hsm] at HP0
  obtain ⟨R, hR⟩ : ∃ z, joinSp s0 [s3, s4, sm] = z := ⟨_, rfl⟩
  rw [hR] at HP0
  rw [HP0] at hsz
  have HP := Lib.hid HP0
  have HR := Lib.hid hR
  have Hs0 := Lib.hid hs0
  have Hs3 := Lib.hid hs3
  have Hs4 := Lib.hid hs4
  have Hsm := Lib.hid hsm
  have HO := Lib.hid ho
  clear ho HP0 hR hs0 hs3 hs4 hsm
  obtain ⟨i0, hi, hz0, hz1, hz2⟩ := info_parts Tryd.info_str
  obtain ⟨wa, hwa, B0, sa, x_a⟩ := frame1 w 26 [.int .i64 5, .int .i64 a, .int .i64 o, .int .i64 t, .int .i64 m, .int .i64 k1, .int .i64 k2, .int .i64 k3, .int .i64 k4]
  have sa_1 := Nat.le_of_eq sa
  have sa_2 := Nat.le_of_eq sa.symm
  clear sa
  have c_a_0_wa := x_a.cell (i := 0) rfl
  have c_a_1_wa := x_a.cell (i := 1) rfl
  have c_a_2_wa := x_a.cell (i := 2) rfl
  have c_a_3_wa := x_a.cell (i := 3) rfl
  have c_a_4_wa := x_a.cell (i := 4) rfl
  have c_a_5_wa := x_a.cell (i := 5) rfl
  have c_a_6_wa := x_a.cell (i := 6) rfl
  have c_a_7_wa := x_a.cell (i := 7) rfl
  have c_a_8_wa := x_a.cell (i := 8) rfl
  have rv : RV recL wa (.agg #[.int .i64 5, .int .i64 a, .int .i64 o, .int .i64 t, .int .i64 m, .int .i64 k1, .int .i64 k2, .int .i64 k3, .int .i64 k4]) ⟨5, a, o, t, m, ⟨k1, k2, k3, k4⟩⟩ := rv_rec_mk (zM := ⟨k1, k2, k3, k4⟩)
  go_enter Tryd.func10, Tryd.ntmps10
  go_wp2_with fail
  refine (iRecOk_c rv).mono ?_
  rintro e w1 ⟨rfl, h_w1⟩
  clear c_a_0_wa c_a_1_wa c_a_2_wa c_a_3_wa c_a_4_wa c_a_5_wa c_a_6_wa c_a_7_wa c_a_8_wa
  replace x_a := x_a.from_ h_w1
  have B_w1 := B0.trans (h_w1.mono B0.size)
  have s_w1 := h_w1.size
  rw [HO.out]
  clear rv
  have c_a_0_w1 := x_a.cell (i := 0) rfl
  have c_a_1_w1 := x_a.cell (i := 1) rfl
  have c_a_2_w1 := x_a.cell (i := 2) rfl
  have c_a_3_w1 := x_a.cell (i := 3) rfl
  have c_a_4_w1 := x_a.cell (i := 4) rfl
  have c_a_5_w1 := x_a.cell (i := 5) rfl
  have c_a_6_w1 := x_a.cell (i := 6) rfl
  have c_a_7_w1 := x_a.cell (i := 7) rfl
  have c_a_8_w1 := x_a.cell (i := 8) rfl
  go_wp2_with fail
  refine (iRkName_w _ _).mono ?_
  rintro e w' ⟨rfl, rfl⟩
  rw [Hs0.out]
  obtain ⟨w2, e_w2, s_w2, h_w2, x_s⟩ := alloc_step w1 9 [.string s0]
  have s_w2_1 := Nat.le_of_eq s_w2
  have s_w2_2 := Nat.le_of_eq s_w2.symm
  clear s_w2
  replace x_a := x_a.from_ h_w2
  have B_w2 := B_w1.trans (h_w2.mono B_w1.size)
  have own := own_vr (base := w1.heap.size) (xs := [s0]) x_s (Nat.le_refl _) (by simp)
  have c_a_0_w2 := x_a.cell (i := 0) rfl
  have f_a_0_w2 := x_a.frozen 0
  have c_a_1_w2 := x_a.cell (i := 1) rfl
  have f_a_1_w2 := x_a.frozen 1
  have c_a_2_w2 := x_a.cell (i := 2) rfl
  have f_a_2_w2 := x_a.frozen 2
  have c_a_3_w2 := x_a.cell (i := 3) rfl
  have f_a_3_w2 := x_a.frozen 3
  have c_a_4_w2 := x_a.cell (i := 4) rfl
  have f_a_4_w2 := x_a.frozen 4
  have c_a_5_w2 := x_a.cell (i := 5) rfl
  have f_a_5_w2 := x_a.frozen 5
  have c_a_6_w2 := x_a.cell (i := 6) rfl
  have f_a_6_w2 := x_a.frozen 6
  have c_a_7_w2 := x_a.cell (i := 7) rfl
  have f_a_7_w2 := x_a.frozen 7
  have c_a_8_w2 := x_a.cell (i := 8) rfl
  have f_a_8_w2 := x_a.frozen 8
  go_wp2_with fail
  refine (iUsed_5 x_a rfl).mono ?_
  rintro e w3 ⟨B, T, rfl, x_l, hB, h_w3⟩
  clear c_a_0_w1 c_a_1_w1 c_a_2_w1 c_a_3_w1 c_a_4_w1 c_a_5_w1 c_a_6_w1 c_a_7_w1 c_a_8_w1 c_a_0_w2 f_a_0_w2 c_a_1_w2 f_a_1_w2 c_a_2_w2 f_a_2_w2 c_a_3_w2 f_a_3_w2 c_a_4_w2 f_a_4_w2 c_a_5_w2 f_a_5_w2 c_a_6_w2 f_a_6_w2 c_a_7_w2 f_a_7_w2 c_a_8_w2 f_a_8_w2
  replace x_a := x_a.from_ h_w3
  have B_w3 := B_w2.trans (h_w3.mono B_w2.size)
  have s_w3 := h_w3.size
  replace own := own.below h_w3 (Nat.le_refl _)
  have hne : ∀ j, (Value.slice (some ⟨w1.heap.size, 0, none⟩) [s0].length [s0].length).ownBlock = some j → j ≠ B := by
    intro j hj
    have : w1.heap.size = j := by simpa [Value.ownBlock] using hj
    omega
  have c_a_0_w3 := x_a.cell (i := 0) rfl
  have c_a_1_w3 := x_a.cell (i := 1) rfl
  have c_a_2_w3 := x_a.cell (i := 2) rfl
  have c_a_3_w3 := x_a.cell (i := 3) rfl
  have c_a_4_w3 := x_a.cell (i := 4) rfl
  have c_a_5_w3 := x_a.cell (i := 5) rfl
  have c_a_6_w3 := x_a.cell (i := 6) rfl
  have c_a_7_w3 := x_a.cell (i := 7) rfl
  have c_a_8_w3 := x_a.cell (i := 8) rfl
  have c_l_0_w3 := x_l.cell (i := 0) rfl
  have c_l_1_w3 := x_l.cell (i := 1) rfl
  go_wp2_with fail
  refine wp_loop_rounds 3 ?_
  rw [rounds_succ]
  clear c_a_0_w3 c_a_1_w3 c_a_2_w3 c_a_3_w3 c_a_4_w3 c_a_5_w3 c_a_6_w3 c_a_7_w3 c_a_8_w3 c_l_0_w3 c_l_1_w3
  have c_a_0_w3 := x_a.cell (i := 0) rfl
  have c_a_1_w3 := x_a.cell (i := 1) rfl
  have c_a_2_w3 := x_a.cell (i := 2) rfl
  have c_a_3_w3 := x_a.cell (i := 3) rfl
  have c_a_4_w3 := x_a.cell (i := 4) rfl
  have c_a_5_w3 := x_a.cell (i := 5) rfl
  have c_a_6_w3 := x_a.cell (i := 6) rfl
  have c_a_7_w3 := x_a.cell (i := 7) rfl
  have c_a_8_w3 := x_a.cell (i := 8) rfl
  have c_l_0_w3 := x_l.cell (i := 0) rfl
  have c_l_1_w3 := x_l.cell (i := 1) rfl
  go_wp2_with fail
  refine (iNumText_any _ _ (ht.below B_w3) (by omega) (by omega)).mono ?_
  rintro e w4 ⟨rfl, h_w4⟩
  clear c_a_0_w3 c_a_1_w3 c_a_2_w3 c_a_3_w3 c_a_4_w3 c_a_5_w3 c_a_6_w3 c_a_7_w3 c_a_8_w3 c_l_0_w3 c_l_1_w3
  replace x_a := x_a.from_ h_w4
  replace x_l := x_l.from_ h_w4
  have B_w4 := B_w3.trans (h_w4.mono B_w3.size)
  have s_w4 := h_w4.size
  rw [Hs3.out]
  replace own := own.below h_w4 (Nat.le_refl _)
  go_wp2_with (at_builtin; refine wpl_appF Value.string ByteArray.empty _ one_str rfl (.tmp 19) (.tmp 24) 58 rfl (w1.heap.size) 9 i0 _ 16 Tryd.underlying58 hi hz0 hz1 hz2 rfl _ [s0] rfl (own.alloc_ _) _ _ _ 1 [s3] rfl rfl (rdF_one _ _ _ _ _) (by simp) (by omega) (by simp; omega) ?_)
  intro v_w5 w5 o_w5 g_w5 at_w5
  have B_w5 : Below w.heap.size w w5 := grown_belowF (B_w4.alloc B_w4.size _) (own.alloc_ _) g_w5 (by omega) (by simp; omega)
  replace x_a := (x_a.alloc _).grow g_w5 (fun e => by have := (own.lt _ e.symm).1; omega)
  have lt_l := x_l.lt
  replace x_l := (x_l.alloc _).grow g_w5 (fun e => hne _ e.symm rfl)
  replace hne : ∀ j, v_w5.ownBlock = some j → j ≠ B := by
    intro j hj
    rcases at_w5 with e | e
    · rw [e] at hj; exact hne j hj
    · rw [e] at hj; have : w4.heap.size + 1 = j := by simpa using hj
      omega
  replace own : OwnF Value.string w5 (w1.heap.size) 9 v_w5 [s0, s3] := o_w5
  have s_w5 := B_w5.size
  have sz_w5 : w4.heap.size ≤ w5.heap.size := by have := g_w5.size; simp at this; omega
  clear o_w5 g_w5 at_w5
  go_wp2_with fail
  rw [rounds_succ]
  have c_a_0_w5 := x_a.cell (i := 0) rfl
  have c_a_1_w5 := x_a.cell (i := 1) rfl
  have c_a_2_w5 := x_a.cell (i := 2) rfl
  have c_a_3_w5 := x_a.cell (i := 3) rfl
  have c_a_4_w5 := x_a.cell (i := 4) rfl
  have c_a_5_w5 := x_a.cell (i := 5) rfl
  have c_a_6_w5 := x_a.cell (i := 6) rfl
  have c_a_7_w5 := x_a.cell (i := 7) rfl
  have c_a_8_w5 := x_a.cell (i := 8) rfl
  have c_l_0_w5 := x_l.cell (i := 0) rfl
  have c_l_1_w5 := x_l.cell (i := 1) rfl
  go_wp2_with fail
  refine (iNumText_any _ _ (ht.below B_w5) (by omega) (by omega)).mono ?_
  rintro e w6 ⟨rfl, h_w6⟩
  clear c_a_0_w5 c_a_1_w5 c_a_2_w5 c_a_3_w5 c_a_4_w5 c_a_5_w5 c_a_6_w5 c_a_7_w5 c_a_8_w5 c_l_0_w5 c_l_1_w5
  replace x_a := x_a.from_ h_w6
  replace x_l := x_l.from_ h_w6
  have B_w6 := B_w5.trans (h_w6.mono B_w5.size)
  have s_w6 := h_w6.size
  rw [Hs4.out]
  replace own := own.below h_w6 (Nat.le_refl _)
  go_wp2_with (at_builtin; refine wpl_appF Value.string ByteArray.empty _ one_str rfl (.tmp 19) (.tmp 24) 58 rfl (w1.heap.size) 9 i0 _ 16 Tryd.underlying58 hi hz0 hz1 hz2 rfl _ [s0, s3] rfl (own.alloc_ _) _ _ _ 1 [s4] rfl rfl (rdF_one _ _ _ _ _) (by simp) (by omega) (by simp; omega) ?_)
  intro v_w7 w7 o_w7 g_w7 at_w7
  have B_w7 : Below w.heap.size w w7 := grown_belowF (B_w6.alloc B_w6.size _) (own.alloc_ _) g_w7 (by omega) (by simp; omega)
  replace x_a := (x_a.alloc _).grow g_w7 (fun e => by have := (own.lt _ e.symm).1; omega)
  have lt_l := x_l.lt
  replace x_l := (x_l.alloc _).grow g_w7 (fun e => hne _ e.symm rfl)
  replace hne : ∀ j, v_w7.ownBlock = some j → j ≠ B := by
    intro j hj
    rcases at_w7 with e | e
    · rw [e] at hj; exact hne j hj
    · rw [e] at hj; have : w6.heap.size + 1 = j := by simpa using hj
      omega
  replace own : OwnF Value.string w7 (w1.heap.size) 9 v_w7 [s0, s3, s4] := o_w7
  have s_w7 := B_w7.size
  have sz_w7 : w6.heap.size ≤ w7.heap.size := by have := g_w7.size; simp at this; omega
  clear o_w7 g_w7 at_w7
  go_wp2_with fail
  rw [rounds_succ]
  have c_a_0_w7 := x_a.cell (i := 0) rfl
  have c_a_1_w7 := x_a.cell (i := 1) rfl
  have c_a_2_w7 := x_a.cell (i := 2) rfl
  have c_a_3_w7 := x_a.cell (i := 3) rfl
  have c_a_4_w7 := x_a.cell (i := 4) rfl
  have c_a_5_w7 := x_a.cell (i := 5) rfl
  have c_a_6_w7 := x_a.cell (i := 6) rfl
  have c_a_7_w7 := x_a.cell (i := 7) rfl
  have c_a_8_w7 := x_a.cell (i := 8) rfl
  go_wp2_with fail
  refine (iMsgText_c (m := ⟨k1, k2, k3, k4⟩) (ht.below B_w7) rv_msg_mk).mono ?_
  rintro e w8 ⟨rfl, h_w8⟩
  clear c_a_0_w7 c_a_1_w7 c_a_2_w7 c_a_3_w7 c_a_4_w7 c_a_5_w7 c_a_6_w7 c_a_7_w7 c_a_8_w7
  replace x_a := x_a.from_ h_w8
  have B_w8 := B_w7.trans (h_w8.mono B_w7.size)
  have s_w8 := h_w8.size
  rw [Hsm.out]
  replace own := own.below h_w8 (Nat.le_refl _)
  go_wp2_with (at_builtin; refine wpl_appF Value.string ByteArray.empty _ one_str rfl (.tmp 30) (.tmp 34) 58 rfl (w1.heap.size) 9 i0 _ 16 Tryd.underlying58 hi hz0 hz1 hz2 rfl _ [s0, s3, s4] rfl (own.alloc_ _) _ _ _ 1 [sm] rfl rfl (rdF_one _ _ _ _ _) (by simp) (by omega) (by simp; omega) ?_)
  intro v_w9 w9 o_w9 g_w9 at_w9
  have B_w9 : Below w.heap.size w w9 := grown_belowF (B_w8.alloc B_w8.size _) (own.alloc_ _) g_w9 (by omega) (by simp; omega)
  replace x_a := (x_a.alloc _).grow g_w9 (fun e => by have := (own.lt _ e.symm).1; omega)
  replace own : OwnF Value.string w9 (w1.heap.size) 9 v_w9 [s0, s3, s4, sm] := o_w9
  have s_w9 := B_w9.size
  have sz_w9 : w8.heap.size ≤ w9.heap.size := by have := g_w9.size; simp at this; omega
  clear o_w9 g_w9 at_w9
  obtain ⟨A, c, rfl, hc1, hc2, hr⟩ := own.form (d := ByteArray.empty)
  obtain ⟨g, off, rfl, hg, hcell⟩ := hr (by simp)
  have hcs : ∀ (j : Nat) x, [s0, s3, s4, sm][j]? = some x → w9.cell? ⟨g, off + j, none⟩ = some (.string x) := by
    intro j x hj
    have hlt : j < [s0, s3, s4, sm].length := by rcases Nat.lt_or_ge j [s0, s3, s4, sm].length with h | h; exact h; rw [List.getElem?_eq_none h] at hj; cases hj
    have := hcell j hlt
    rw [List.getD_eq_getElem?_getD, hj] at this
    exact this
  have hlen : (Lib.join ([s0, s3, s4, sm].map (·.data.toList)) (⟨#[32]⟩ : ByteArray).data.toList).length ≤ 140737488355328 := by rw [join_len, HR.out]; omega
  clear hr hcell own
  go_wp2_with fail
  refine (Tryd.strings_Join g off c [s0, s3, s4, sm] ⟨#[32]⟩ _ hcs hg (by simp) hc1 hlen).mono ?_
  rintro e w10 ⟨rfl, h_w10⟩
  replace x_a := x_a.from_ h_w10
  have B_w10 := B_w9.trans (h_w10.mono B_w9.size)
  have s_w10 := h_w10.size
  rw [join_eq, HR.out]
  go_wp2
  go_ret
  exact ⟨ret_eq (by rw [HP.out]; rfl), B_w10⟩

set_option maxRecDepth 100000 in
set_option maxHeartbeats 4000000 in
theorem rtext_6 {w : World} (ht : Tab10 w) (a o t m k1 k2 k3 k4 : Int) (ho : recOkB ⟨6, a, o, t, m, ⟨k1, k2, k3, k4⟩⟩ = true) : Calls Tryd.prog 10 #[.agg #[.int .i64 6, .int .i64 a, .int .i64 o, .int .i64 t, .int .i64 m, .int .i64 k1, .int .i64 k2, .int .i64 k3, .int .i64 k4]] w fun e w' => e = .returned (.string (recText ⟨6, a, o, t, m, ⟨k1, k2, k3, k4⟩⟩)) ∧ Below w.heap.size w w' := by
  have hp := recOk_parts ho
  obtain ⟨-, q1, q2, q3, q4, q5, -⟩ := hp
  simp only at q1 q2 q3 q4
  have hsz := recText_size (⟨6, a, o, t, m, ⟨k1, k2, k3, k4⟩⟩ : MRec)
  have HP0 : recText ⟨6, a, o, t, m, ⟨k1, k2, k3, k4⟩⟩ = joinSp (rkName 6) [numText t, numText m] := by
    unfold recText; rw [if_pos ho]; simp [recWords, recFields, kAcct, kOther, kTo, kAmt]
  clear q5
  obtain ⟨s0, hs0⟩ : ∃ z, rkName 6 = z := ⟨_, rfl⟩
  obtain ⟨s3, hs3⟩ : ∃ z, numText t = z := ⟨_, rfl⟩
  obtain ⟨s4, hs4⟩ : ∃ z, numText m = z := ⟨_, rfl⟩
  rw [hs0, hs3, hs4] at HP0
  obtain ⟨R, hR⟩ : ∃ z, joinSp s0 [s3, s4] = z := ⟨_, rfl⟩
  rw [hR] at HP0
  rw [HP0] at hsz
  have HP := Lib.hid HP0
  have HR := Lib.hid hR
  have Hs0 := Lib.hid hs0
  have Hs3 := Lib.hid hs3
  have Hs4 := Lib.hid hs4
  have HO := Lib.hid ho
  clear ho HP0 hR hs0 hs3 hs4
  obtain ⟨i0, hi, hz0, hz1, hz2⟩ := info_parts Tryd.info_str
  obtain ⟨wa, hwa, B0, sa, x_a⟩ := frame1 w 26 [.int .i64 6, .int .i64 a, .int .i64 o, .int .i64 t, .int .i64 m, .int .i64 k1, .int .i64 k2, .int .i64 k3, .int .i64 k4]
  have sa_1 := Nat.le_of_eq sa
  have sa_2 := Nat.le_of_eq sa.symm
  clear sa
  have c_a_0_wa := x_a.cell (i := 0) rfl
  have c_a_1_wa := x_a.cell (i := 1) rfl
  have c_a_2_wa := x_a.cell (i := 2) rfl
  have c_a_3_wa := x_a.cell (i := 3) rfl
  have c_a_4_wa := x_a.cell (i := 4) rfl
  have c_a_5_wa := x_a.cell (i := 5) rfl
  have c_a_6_wa := x_a.cell (i := 6) rfl
  have c_a_7_wa := x_a.cell (i := 7) rfl
  have c_a_8_wa := x_a.cell (i := 8) rfl
  have rv : RV recL wa (.agg #[.int .i64 6, .int .i64 a, .int .i64 o, .int .i64 t, .int .i64 m, .int .i64 k1, .int .i64 k2, .int .i64 k3, .int .i64 k4]) ⟨6, a, o, t, m, ⟨k1, k2, k3, k4⟩⟩ := rv_rec_mk (zM := ⟨k1, k2, k3, k4⟩)
  go_enter Tryd.func10, Tryd.ntmps10
  go_wp2_with fail
  refine (iRecOk_c rv).mono ?_
  rintro e w1 ⟨rfl, h_w1⟩
  clear c_a_0_wa c_a_1_wa c_a_2_wa c_a_3_wa c_a_4_wa c_a_5_wa c_a_6_wa c_a_7_wa c_a_8_wa
  replace x_a := x_a.from_ h_w1
  have B_w1 := B0.trans (h_w1.mono B0.size)
  have s_w1 := h_w1.size
  rw [HO.out]
  clear rv
  have c_a_0_w1 := x_a.cell (i := 0) rfl
  have c_a_1_w1 := x_a.cell (i := 1) rfl
  have c_a_2_w1 := x_a.cell (i := 2) rfl
  have c_a_3_w1 := x_a.cell (i := 3) rfl
  have c_a_4_w1 := x_a.cell (i := 4) rfl
  have c_a_5_w1 := x_a.cell (i := 5) rfl
  have c_a_6_w1 := x_a.cell (i := 6) rfl
  have c_a_7_w1 := x_a.cell (i := 7) rfl
  have c_a_8_w1 := x_a.cell (i := 8) rfl
  go_wp2_with fail
  refine (iRkName_w _ _).mono ?_
  rintro e w' ⟨rfl, rfl⟩
  rw [Hs0.out]
  obtain ⟨w2, e_w2, s_w2, h_w2, x_s⟩ := alloc_step w1 9 [.string s0]
  have s_w2_1 := Nat.le_of_eq s_w2
  have s_w2_2 := Nat.le_of_eq s_w2.symm
  clear s_w2
  replace x_a := x_a.from_ h_w2
  have B_w2 := B_w1.trans (h_w2.mono B_w1.size)
  have own := own_vr (base := w1.heap.size) (xs := [s0]) x_s (Nat.le_refl _) (by simp)
  have c_a_0_w2 := x_a.cell (i := 0) rfl
  have f_a_0_w2 := x_a.frozen 0
  have c_a_1_w2 := x_a.cell (i := 1) rfl
  have f_a_1_w2 := x_a.frozen 1
  have c_a_2_w2 := x_a.cell (i := 2) rfl
  have f_a_2_w2 := x_a.frozen 2
  have c_a_3_w2 := x_a.cell (i := 3) rfl
  have f_a_3_w2 := x_a.frozen 3
  have c_a_4_w2 := x_a.cell (i := 4) rfl
  have f_a_4_w2 := x_a.frozen 4
  have c_a_5_w2 := x_a.cell (i := 5) rfl
  have f_a_5_w2 := x_a.frozen 5
  have c_a_6_w2 := x_a.cell (i := 6) rfl
  have f_a_6_w2 := x_a.frozen 6
  have c_a_7_w2 := x_a.cell (i := 7) rfl
  have f_a_7_w2 := x_a.frozen 7
  have c_a_8_w2 := x_a.cell (i := 8) rfl
  have f_a_8_w2 := x_a.frozen 8
  go_wp2_with fail
  refine (iUsed_6 x_a rfl).mono ?_
  rintro e w3 ⟨B, T, rfl, x_l, hB, h_w3⟩
  clear c_a_0_w1 c_a_1_w1 c_a_2_w1 c_a_3_w1 c_a_4_w1 c_a_5_w1 c_a_6_w1 c_a_7_w1 c_a_8_w1 c_a_0_w2 f_a_0_w2 c_a_1_w2 f_a_1_w2 c_a_2_w2 f_a_2_w2 c_a_3_w2 f_a_3_w2 c_a_4_w2 f_a_4_w2 c_a_5_w2 f_a_5_w2 c_a_6_w2 f_a_6_w2 c_a_7_w2 f_a_7_w2 c_a_8_w2 f_a_8_w2
  replace x_a := x_a.from_ h_w3
  have B_w3 := B_w2.trans (h_w3.mono B_w2.size)
  have s_w3 := h_w3.size
  replace own := own.below h_w3 (Nat.le_refl _)
  have hne : ∀ j, (Value.slice (some ⟨w1.heap.size, 0, none⟩) [s0].length [s0].length).ownBlock = some j → j ≠ B := by
    intro j hj
    have : w1.heap.size = j := by simpa [Value.ownBlock] using hj
    omega
  have c_a_0_w3 := x_a.cell (i := 0) rfl
  have c_a_1_w3 := x_a.cell (i := 1) rfl
  have c_a_2_w3 := x_a.cell (i := 2) rfl
  have c_a_3_w3 := x_a.cell (i := 3) rfl
  have c_a_4_w3 := x_a.cell (i := 4) rfl
  have c_a_5_w3 := x_a.cell (i := 5) rfl
  have c_a_6_w3 := x_a.cell (i := 6) rfl
  have c_a_7_w3 := x_a.cell (i := 7) rfl
  have c_a_8_w3 := x_a.cell (i := 8) rfl
  have c_l_0_w3 := x_l.cell (i := 0) rfl
  have c_l_1_w3 := x_l.cell (i := 1) rfl
  go_wp2_with fail
  refine wp_loop_rounds 3 ?_
  rw [rounds_succ]
  clear c_a_0_w3 c_a_1_w3 c_a_2_w3 c_a_3_w3 c_a_4_w3 c_a_5_w3 c_a_6_w3 c_a_7_w3 c_a_8_w3 c_l_0_w3 c_l_1_w3
  have c_a_0_w3 := x_a.cell (i := 0) rfl
  have c_a_1_w3 := x_a.cell (i := 1) rfl
  have c_a_2_w3 := x_a.cell (i := 2) rfl
  have c_a_3_w3 := x_a.cell (i := 3) rfl
  have c_a_4_w3 := x_a.cell (i := 4) rfl
  have c_a_5_w3 := x_a.cell (i := 5) rfl
  have c_a_6_w3 := x_a.cell (i := 6) rfl
  have c_a_7_w3 := x_a.cell (i := 7) rfl
  have c_a_8_w3 := x_a.cell (i := 8) rfl
  have c_l_0_w3 := x_l.cell (i := 0) rfl
  have c_l_1_w3 := x_l.cell (i := 1) rfl
  go_wp2_with fail
  refine (iNumText_any _ _ (ht.below B_w3) (by omega) (by omega)).mono ?_
  rintro e w4 ⟨rfl, h_w4⟩
  clear c_a_0_w3 c_a_1_w3 c_a_2_w3 c_a_3_w3 c_a_4_w3 c_a_5_w3 c_a_6_w3 c_a_7_w3 c_a_8_w3 c_l_0_w3 c_l_1_w3
  replace x_a := x_a.from_ h_w4
  replace x_l := x_l.from_ h_w4
  have B_w4 := B_w3.trans (h_w4.mono B_w3.size)
  have s_w4 := h_w4.size
  rw [Hs3.out]
  replace own := own.below h_w4 (Nat.le_refl _)
  go_wp2_with (at_builtin; refine wpl_appF Value.string ByteArray.empty _ one_str rfl (.tmp 19) (.tmp 24) 58 rfl (w1.heap.size) 9 i0 _ 16 Tryd.underlying58 hi hz0 hz1 hz2 rfl _ [s0] rfl (own.alloc_ _) _ _ _ 1 [s3] rfl rfl (rdF_one _ _ _ _ _) (by simp) (by omega) (by simp; omega) ?_)
  intro v_w5 w5 o_w5 g_w5 at_w5
  have B_w5 : Below w.heap.size w w5 := grown_belowF (B_w4.alloc B_w4.size _) (own.alloc_ _) g_w5 (by omega) (by simp; omega)
  replace x_a := (x_a.alloc _).grow g_w5 (fun e => by have := (own.lt _ e.symm).1; omega)
  have lt_l := x_l.lt
  replace x_l := (x_l.alloc _).grow g_w5 (fun e => hne _ e.symm rfl)
  replace hne : ∀ j, v_w5.ownBlock = some j → j ≠ B := by
    intro j hj
    rcases at_w5 with e | e
    · rw [e] at hj; exact hne j hj
    · rw [e] at hj; have : w4.heap.size + 1 = j := by simpa using hj
      omega
  replace own : OwnF Value.string w5 (w1.heap.size) 9 v_w5 [s0, s3] := o_w5
  have s_w5 := B_w5.size
  have sz_w5 : w4.heap.size ≤ w5.heap.size := by have := g_w5.size; simp at this; omega
  clear o_w5 g_w5 at_w5
  go_wp2_with fail
  rw [rounds_succ]
  have c_a_0_w5 := x_a.cell (i := 0) rfl
  have c_a_1_w5 := x_a.cell (i := 1) rfl
  have c_a_2_w5 := x_a.cell (i := 2) rfl
  have c_a_3_w5 := x_a.cell (i := 3) rfl
  have c_a_4_w5 := x_a.cell (i := 4) rfl
  have c_a_5_w5 := x_a.cell (i := 5) rfl
  have c_a_6_w5 := x_a.cell (i := 6) rfl
  have c_a_7_w5 := x_a.cell (i := 7) rfl
  have c_a_8_w5 := x_a.cell (i := 8) rfl
  have c_l_0_w5 := x_l.cell (i := 0) rfl
  have c_l_1_w5 := x_l.cell (i := 1) rfl
  go_wp2_with fail
  refine (iNumText_any _ _ (ht.below B_w5) (by omega) (by omega)).mono ?_
  rintro e w6 ⟨rfl, h_w6⟩
  clear c_a_0_w5 c_a_1_w5 c_a_2_w5 c_a_3_w5 c_a_4_w5 c_a_5_w5 c_a_6_w5 c_a_7_w5 c_a_8_w5 c_l_0_w5 c_l_1_w5
  replace x_a := x_a.from_ h_w6
  replace x_l := x_l.from_ h_w6
  have B_w6 := B_w5.trans (h_w6.mono B_w5.size)
  have s_w6 := h_w6.size
  rw [Hs4.out]
  replace own := own.below h_w6 (Nat.le_refl _)
  go_wp2_with (at_builtin; refine wpl_appF Value.string ByteArray.empty _ one_str rfl (.tmp 19) (.tmp 24) 58 rfl (w1.heap.size) 9 i0 _ 16 Tryd.underlying58 hi hz0 hz1 hz2 rfl _ [s0, s3] rfl (own.alloc_ _) _ _ _ 1 [s4] rfl rfl (rdF_one _ _ _ _ _) (by simp) (by omega) (by simp; omega) ?_)
  intro v_w7 w7 o_w7 g_w7 at_w7
  have B_w7 : Below w.heap.size w w7 := grown_belowF (B_w6.alloc B_w6.size _) (own.alloc_ _) g_w7 (by omega) (by simp; omega)
  replace x_a := (x_a.alloc _).grow g_w7 (fun e => by have := (own.lt _ e.symm).1; omega)
  have lt_l := x_l.lt
  replace x_l := (x_l.alloc _).grow g_w7 (fun e => hne _ e.symm rfl)
  replace hne : ∀ j, v_w7.ownBlock = some j → j ≠ B := by
    intro j hj
    rcases at_w7 with e | e
    · rw [e] at hj; exact hne j hj
    · rw [e] at hj; have : w6.heap.size + 1 = j := by simpa using hj
      omega
  replace own : OwnF Value.string w7 (w1.heap.size) 9 v_w7 [s0, s3, s4] := o_w7
  have s_w7 := B_w7.size
  have sz_w7 : w6.heap.size ≤ w7.heap.size := by have := g_w7.size; simp at this; omega
  clear o_w7 g_w7 at_w7
  go_wp2_with fail
  rw [rounds_succ]
  have c_a_0_w7 := x_a.cell (i := 0) rfl
  have c_a_1_w7 := x_a.cell (i := 1) rfl
  have c_a_2_w7 := x_a.cell (i := 2) rfl
  have c_a_3_w7 := x_a.cell (i := 3) rfl
  have c_a_4_w7 := x_a.cell (i := 4) rfl
  have c_a_5_w7 := x_a.cell (i := 5) rfl
  have c_a_6_w7 := x_a.cell (i := 6) rfl
  have c_a_7_w7 := x_a.cell (i := 7) rfl
  have c_a_8_w7 := x_a.cell (i := 8) rfl
  obtain ⟨A, c, rfl, hc1, hc2, hr⟩ := own.form (d := ByteArray.empty)
  obtain ⟨g, off, rfl, hg, hcell⟩ := hr (by simp)
  have hcs : ∀ (j : Nat) x, [s0, s3, s4][j]? = some x → w7.cell? ⟨g, off + j, none⟩ = some (.string x) := by
    intro j x hj
    have hlt : j < [s0, s3, s4].length := by rcases Nat.lt_or_ge j [s0, s3, s4].length with h | h; exact h; rw [List.getElem?_eq_none h] at hj; cases hj
    have := hcell j hlt
    rw [List.getD_eq_getElem?_getD, hj] at this
    exact this
  have hlen : (Lib.join ([s0, s3, s4].map (·.data.toList)) (⟨#[32]⟩ : ByteArray).data.toList).length ≤ 140737488355328 := by rw [join_len, HR.out]; omega
  clear hr hcell own
  go_wp2_with fail
  refine (Tryd.strings_Join g off c [s0, s3, s4] ⟨#[32]⟩ _ hcs hg (by simp) hc1 hlen).mono ?_
  rintro e w8 ⟨rfl, h_w8⟩
  clear c_a_0_w7 c_a_1_w7 c_a_2_w7 c_a_3_w7 c_a_4_w7 c_a_5_w7 c_a_6_w7 c_a_7_w7 c_a_8_w7
  replace x_a := x_a.from_ h_w8
  have B_w8 := B_w7.trans (h_w8.mono B_w7.size)
  have s_w8 := h_w8.size
  rw [join_eq, HR.out]
  go_wp2
  go_ret
  exact ⟨ret_eq (by rw [HP.out]; rfl), B_w8⟩

set_option maxRecDepth 100000 in
set_option maxHeartbeats 4000000 in
theorem rtext_7 {w : World} (ht : Tab10 w) (a o t m k1 k2 k3 k4 : Int) (ho : recOkB ⟨7, a, o, t, m, ⟨k1, k2, k3, k4⟩⟩ = true) : Calls Tryd.prog 10 #[.agg #[.int .i64 7, .int .i64 a, .int .i64 o, .int .i64 t, .int .i64 m, .int .i64 k1, .int .i64 k2, .int .i64 k3, .int .i64 k4]] w fun e w' => e = .returned (.string (recText ⟨7, a, o, t, m, ⟨k1, k2, k3, k4⟩⟩)) ∧ Below w.heap.size w w' := by
  have hp := recOk_parts ho
  obtain ⟨-, q1, q2, q3, q4, q5, -⟩ := hp
  simp only at q1 q2 q3 q4
  have hsz := recText_size (⟨7, a, o, t, m, ⟨k1, k2, k3, k4⟩⟩ : MRec)
  have HP0 : recText ⟨7, a, o, t, m, ⟨k1, k2, k3, k4⟩⟩ = joinSp (rkName 7) [numText a, numText m] := by
    unfold recText; rw [if_pos ho]; simp [recWords, recFields, kAcct, kOther, kTo, kAmt]
  clear q5
  obtain ⟨s0, hs0⟩ : ∃ z, rkName 7 = z := ⟨_, rfl⟩
  obtain ⟨s1, hs1⟩ : ∃ z, numText a = z := ⟨_, rfl⟩
  obtain ⟨s4, hs4⟩ : ∃ z, numText m = z := ⟨_, rfl⟩
  rw [hs0, hs1, hs4] at HP0
  obtain ⟨R, hR⟩ : ∃ z, joinSp s0 [s1, s4] = z := ⟨_, rfl⟩
  rw [hR] at HP0
  rw [HP0] at hsz
  have HP := Lib.hid HP0
  have HR := Lib.hid hR
  have Hs0 := Lib.hid hs0
  have Hs1 := Lib.hid hs1
  have Hs4 := Lib.hid hs4
  have HO := Lib.hid ho
  clear ho HP0 hR hs0 hs1 hs4
  obtain ⟨i0, hi, hz0, hz1, hz2⟩ := info_parts Tryd.info_str
  obtain ⟨wa, hwa, B0, sa, x_a⟩ := frame1 w 26 [.int .i64 7, .int .i64 a, .int .i64 o, .int .i64 t, .int .i64 m, .int .i64 k1, .int .i64 k2, .int .i64 k3, .int .i64 k4]
  have sa_1 := Nat.le_of_eq sa
  have sa_2 := Nat.le_of_eq sa.symm
  clear sa
  have c_a_0_wa := x_a.cell (i := 0) rfl
  have c_a_1_wa := x_a.cell (i := 1) rfl
  have c_a_2_wa := x_a.cell (i := 2) rfl
  have c_a_3_wa := x_a.cell (i := 3) rfl
  have c_a_4_wa := x_a.cell (i := 4) rfl
  have c_a_5_wa := x_a.cell (i := 5) rfl
  have c_a_6_wa := x_a.cell (i := 6) rfl
  have c_a_7_wa := x_a.cell (i := 7) rfl
  have c_a_8_wa := x_a.cell (i := 8) rfl
  have rv : RV recL wa (.agg #[.int .i64 7, .int .i64 a, .int .i64 o, .int .i64 t, .int .i64 m, .int .i64 k1, .int .i64 k2, .int .i64 k3, .int .i64 k4]) ⟨7, a, o, t, m, ⟨k1, k2, k3, k4⟩⟩ := rv_rec_mk (zM := ⟨k1, k2, k3, k4⟩)
  go_enter Tryd.func10, Tryd.ntmps10
  go_wp2_with fail
  refine (iRecOk_c rv).mono ?_
  rintro e w1 ⟨rfl, h_w1⟩
  clear c_a_0_wa c_a_1_wa c_a_2_wa c_a_3_wa c_a_4_wa c_a_5_wa c_a_6_wa c_a_7_wa c_a_8_wa
  replace x_a := x_a.from_ h_w1
  have B_w1 := B0.trans (h_w1.mono B0.size)
  have s_w1 := h_w1.size
  rw [HO.out]
  clear rv
  have c_a_0_w1 := x_a.cell (i := 0) rfl
  have c_a_1_w1 := x_a.cell (i := 1) rfl
  have c_a_2_w1 := x_a.cell (i := 2) rfl
  have c_a_3_w1 := x_a.cell (i := 3) rfl
  have c_a_4_w1 := x_a.cell (i := 4) rfl
  have c_a_5_w1 := x_a.cell (i := 5) rfl
  have c_a_6_w1 := x_a.cell (i := 6) rfl
  have c_a_7_w1 := x_a.cell (i := 7) rfl
  have c_a_8_w1 := x_a.cell (i := 8) rfl
  go_wp2_with fail
  refine (iRkName_w _ _).mono ?_
  rintro e w' ⟨rfl, rfl⟩
  rw [Hs0.out]
  obtain ⟨w2, e_w2, s_w2, h_w2, x_s⟩ := alloc_step w1 9 [.string s0]
  have s_w2_1 := Nat.le_of_eq s_w2
  have s_w2_2 := Nat.le_of_eq s_w2.symm
  clear s_w2
  replace x_a := x_a.from_ h_w2
  have B_w2 := B_w1.trans (h_w2.mono B_w1.size)
  have own := own_vr (base := w1.heap.size) (xs := [s0]) x_s (Nat.le_refl _) (by simp)
  have c_a_0_w2 := x_a.cell (i := 0) rfl
  have f_a_0_w2 := x_a.frozen 0
  have c_a_1_w2 := x_a.cell (i := 1) rfl
  have f_a_1_w2 := x_a.frozen 1
  have c_a_2_w2 := x_a.cell (i := 2) rfl
  have f_a_2_w2 := x_a.frozen 2
  have c_a_3_w2 := x_a.cell (i := 3) rfl
  have f_a_3_w2 := x_a.frozen 3
  have c_a_4_w2 := x_a.cell (i := 4) rfl
  have f_a_4_w2 := x_a.frozen 4
  have c_a_5_w2 := x_a.cell (i := 5) rfl
  have f_a_5_w2 := x_a.frozen 5
  have c_a_6_w2 := x_a.cell (i := 6) rfl
  have f_a_6_w2 := x_a.frozen 6
  have c_a_7_w2 := x_a.cell (i := 7) rfl
  have f_a_7_w2 := x_a.frozen 7
  have c_a_8_w2 := x_a.cell (i := 8) rfl
  have f_a_8_w2 := x_a.frozen 8
  go_wp2_with fail
  refine (iUsed_7 x_a rfl).mono ?_
  rintro e w3 ⟨B, T, rfl, x_l, hB, h_w3⟩
  clear c_a_0_w1 c_a_1_w1 c_a_2_w1 c_a_3_w1 c_a_4_w1 c_a_5_w1 c_a_6_w1 c_a_7_w1 c_a_8_w1 c_a_0_w2 f_a_0_w2 c_a_1_w2 f_a_1_w2 c_a_2_w2 f_a_2_w2 c_a_3_w2 f_a_3_w2 c_a_4_w2 f_a_4_w2 c_a_5_w2 f_a_5_w2 c_a_6_w2 f_a_6_w2 c_a_7_w2 f_a_7_w2 c_a_8_w2 f_a_8_w2
  replace x_a := x_a.from_ h_w3
  have B_w3 := B_w2.trans (h_w3.mono B_w2.size)
  have s_w3 := h_w3.size
  replace own := own.below h_w3 (Nat.le_refl _)
  have hne : ∀ j, (Value.slice (some ⟨w1.heap.size, 0, none⟩) [s0].length [s0].length).ownBlock = some j → j ≠ B := by
    intro j hj
    have : w1.heap.size = j := by simpa [Value.ownBlock] using hj
    omega
  have c_a_0_w3 := x_a.cell (i := 0) rfl
  have c_a_1_w3 := x_a.cell (i := 1) rfl
  have c_a_2_w3 := x_a.cell (i := 2) rfl
  have c_a_3_w3 := x_a.cell (i := 3) rfl
  have c_a_4_w3 := x_a.cell (i := 4) rfl
  have c_a_5_w3 := x_a.cell (i := 5) rfl
  have c_a_6_w3 := x_a.cell (i := 6) rfl
  have c_a_7_w3 := x_a.cell (i := 7) rfl
  have c_a_8_w3 := x_a.cell (i := 8) rfl
  have c_l_0_w3 := x_l.cell (i := 0) rfl
  have c_l_1_w3 := x_l.cell (i := 1) rfl
  go_wp2_with fail
  refine wp_loop_rounds 3 ?_
  rw [rounds_succ]
  clear c_a_0_w3 c_a_1_w3 c_a_2_w3 c_a_3_w3 c_a_4_w3 c_a_5_w3 c_a_6_w3 c_a_7_w3 c_a_8_w3 c_l_0_w3 c_l_1_w3
  have c_a_0_w3 := x_a.cell (i := 0) rfl
  have c_a_1_w3 := x_a.cell (i := 1) rfl
  have c_a_2_w3 := x_a.cell (i := 2) rfl
  have c_a_3_w3 := x_a.cell (i := 3) rfl
  have c_a_4_w3 := x_a.cell (i := 4) rfl
  have c_a_5_w3 := x_a.cell (i := 5) rfl
  have c_a_6_w3 := x_a.cell (i := 6) rfl
  have c_a_7_w3 := x_a.cell (i := 7) rfl
  have c_a_8_w3 := x_a.cell (i := 8) rfl
  have c_l_0_w3 := x_l.cell (i := 0) rfl
  have c_l_1_w3 := x_l.cell (i := 1) rfl
  go_wp2_with fail
  refine (iNumText_any _ _ (ht.below B_w3) (by omega) (by omega)).mono ?_
  rintro e w4 ⟨rfl, h_w4⟩
  clear c_a_0_w3 c_a_1_w3 c_a_2_w3 c_a_3_w3 c_a_4_w3 c_a_5_w3 c_a_6_w3 c_a_7_w3 c_a_8_w3 c_l_0_w3 c_l_1_w3
  replace x_a := x_a.from_ h_w4
  replace x_l := x_l.from_ h_w4
  have B_w4 := B_w3.trans (h_w4.mono B_w3.size)
  have s_w4 := h_w4.size
  rw [Hs1.out]
  replace own := own.below h_w4 (Nat.le_refl _)
  go_wp2_with (at_builtin; refine wpl_appF Value.string ByteArray.empty _ one_str rfl (.tmp 19) (.tmp 24) 58 rfl (w1.heap.size) 9 i0 _ 16 Tryd.underlying58 hi hz0 hz1 hz2 rfl _ [s0] rfl (own.alloc_ _) _ _ _ 1 [s1] rfl rfl (rdF_one _ _ _ _ _) (by simp) (by omega) (by simp; omega) ?_)
  intro v_w5 w5 o_w5 g_w5 at_w5
  have B_w5 : Below w.heap.size w w5 := grown_belowF (B_w4.alloc B_w4.size _) (own.alloc_ _) g_w5 (by omega) (by simp; omega)
  replace x_a := (x_a.alloc _).grow g_w5 (fun e => by have := (own.lt _ e.symm).1; omega)
  have lt_l := x_l.lt
  replace x_l := (x_l.alloc _).grow g_w5 (fun e => hne _ e.symm rfl)
  replace hne : ∀ j, v_w5.ownBlock = some j → j ≠ B := by
    intro j hj
    rcases at_w5 with e | e
    · rw [e] at hj; exact hne j hj
    · rw [e] at hj; have : w4.heap.size + 1 = j := by simpa using hj
      omega
  replace own : OwnF Value.string w5 (w1.heap.size) 9 v_w5 [s0, s1] := o_w5
  have s_w5 := B_w5.size
  have sz_w5 : w4.heap.size ≤ w5.heap.size := by have := g_w5.size; simp at this; omega
  clear o_w5 g_w5 at_w5
  go_wp2_with fail
  rw [rounds_succ]
  have c_a_0_w5 := x_a.cell (i := 0) rfl
  have c_a_1_w5 := x_a.cell (i := 1) rfl
  have c_a_2_w5 := x_a.cell (i := 2) rfl
  have c_a_3_w5 := x_a.cell (i := 3) rfl
  have c_a_4_w5 := x_a.cell (i := 4) rfl
  have c_a_5_w5 := x_a.cell (i := 5) rfl
  have c_a_6_w5 := x_a.cell (i := 6) rfl
  have c_a_7_w5 := x_a.cell (i := 7) rfl
  have c_a_8_w5 := x_a.cell (i := 8) rfl
  have c_l_0_w5 := x_l.cell (i := 0) rfl
  have c_l_1_w5 := x_l.cell (i := 1) rfl
  go_wp2_with fail
  refine (iNumText_any _ _ (ht.below B_w5) (by omega) (by omega)).mono ?_
  rintro e w6 ⟨rfl, h_w6⟩
  clear c_a_0_w5 c_a_1_w5 c_a_2_w5 c_a_3_w5 c_a_4_w5 c_a_5_w5 c_a_6_w5 c_a_7_w5 c_a_8_w5 c_l_0_w5 c_l_1_w5
  replace x_a := x_a.from_ h_w6
  replace x_l := x_l.from_ h_w6
  have B_w6 := B_w5.trans (h_w6.mono B_w5.size)
  have s_w6 := h_w6.size
  rw [Hs4.out]
  replace own := own.below h_w6 (Nat.le_refl _)
  go_wp2_with (at_builtin; refine wpl_appF Value.string ByteArray.empty _ one_str rfl (.tmp 19) (.tmp 24) 58 rfl (w1.heap.size) 9 i0 _ 16 Tryd.underlying58 hi hz0 hz1 hz2 rfl _ [s0, s1] rfl (own.alloc_ _) _ _ _ 1 [s4] rfl rfl (rdF_one _ _ _ _ _) (by simp) (by omega) (by simp; omega) ?_)
  intro v_w7 w7 o_w7 g_w7 at_w7
  have B_w7 : Below w.heap.size w w7 := grown_belowF (B_w6.alloc B_w6.size _) (own.alloc_ _) g_w7 (by omega) (by simp; omega)
  replace x_a := (x_a.alloc _).grow g_w7 (fun e => by have := (own.lt _ e.symm).1; omega)
  have lt_l := x_l.lt
  replace x_l := (x_l.alloc _).grow g_w7 (fun e => hne _ e.symm rfl)
  replace hne : ∀ j, v_w7.ownBlock = some j → j ≠ B := by
    intro j hj
    rcases at_w7 with e | e
    · rw [e] at hj; exact hne j hj
    · rw [e] at hj; have : w6.heap.size + 1 = j := by simpa using hj
      omega
  replace own : OwnF Value.string w7 (w1.heap.size) 9 v_w7 [s0, s1, s4] := o_w7
  have s_w7 := B_w7.size
  have sz_w7 : w6.heap.size ≤ w7.heap.size := by have := g_w7.size; simp at this; omega
  clear o_w7 g_w7 at_w7
  go_wp2_with fail
  rw [rounds_succ]
  have c_a_0_w7 := x_a.cell (i := 0) rfl
  have c_a_1_w7 := x_a.cell (i := 1) rfl
  have c_a_2_w7 := x_a.cell (i := 2) rfl
  have c_a_3_w7 := x_a.cell (i := 3) rfl
  have c_a_4_w7 := x_a.cell (i := 4) rfl
  have c_a_5_w7 := x_a.cell (i := 5) rfl
  have c_a_6_w7 := x_a.cell (i := 6) rfl
  have c_a_7_w7 := x_a.cell (i := 7) rfl
  have c_a_8_w7 := x_a.cell (i := 8) rfl
  obtain ⟨A, c, rfl, hc1, hc2, hr⟩ := own.form (d := ByteArray.empty)
  obtain ⟨g, off, rfl, hg, hcell⟩ := hr (by simp)
  have hcs : ∀ (j : Nat) x, [s0, s1, s4][j]? = some x → w7.cell? ⟨g, off + j, none⟩ = some (.string x) := by
    intro j x hj
    have hlt : j < [s0, s1, s4].length := by rcases Nat.lt_or_ge j [s0, s1, s4].length with h | h; exact h; rw [List.getElem?_eq_none h] at hj; cases hj
    have := hcell j hlt
    rw [List.getD_eq_getElem?_getD, hj] at this
    exact this
  have hlen : (Lib.join ([s0, s1, s4].map (·.data.toList)) (⟨#[32]⟩ : ByteArray).data.toList).length ≤ 140737488355328 := by rw [join_len, HR.out]; omega
  clear hr hcell own
  go_wp2_with fail
  refine (Tryd.strings_Join g off c [s0, s1, s4] ⟨#[32]⟩ _ hcs hg (by simp) hc1 hlen).mono ?_
  rintro e w8 ⟨rfl, h_w8⟩
  clear c_a_0_w7 c_a_1_w7 c_a_2_w7 c_a_3_w7 c_a_4_w7 c_a_5_w7 c_a_6_w7 c_a_7_w7 c_a_8_w7
  replace x_a := x_a.from_ h_w8
  have B_w8 := B_w7.trans (h_w8.mono B_w7.size)
  have s_w8 := h_w8.size
  rw [join_eq, HR.out]
  go_wp2
  go_ret
  exact ⟨ret_eq (by rw [HP.out]; rfl), B_w8⟩

set_option maxRecDepth 100000 in
set_option maxHeartbeats 4000000 in
theorem rtext_8 {w : World} (ht : Tab10 w) (a o t m k1 k2 k3 k4 : Int) (ho : recOkB ⟨8, a, o, t, m, ⟨k1, k2, k3, k4⟩⟩ = true) : Calls Tryd.prog 10 #[.agg #[.int .i64 8, .int .i64 a, .int .i64 o, .int .i64 t, .int .i64 m, .int .i64 k1, .int .i64 k2, .int .i64 k3, .int .i64 k4]] w fun e w' => e = .returned (.string (recText ⟨8, a, o, t, m, ⟨k1, k2, k3, k4⟩⟩)) ∧ Below w.heap.size w w' := by
  have hp := recOk_parts ho
  obtain ⟨-, q1, q2, q3, q4, q5, -⟩ := hp
  simp only at q1 q2 q3 q4
  have hsz := recText_size (⟨8, a, o, t, m, ⟨k1, k2, k3, k4⟩⟩ : MRec)
  have HP0 : recText ⟨8, a, o, t, m, ⟨k1, k2, k3, k4⟩⟩ = joinSp (rkName 8) [numText a, numText t, numText m] := by
    unfold recText; rw [if_pos ho]; simp [recWords, recFields, kAcct, kOther, kTo, kAmt]
  clear q5
  obtain ⟨s0, hs0⟩ : ∃ z, rkName 8 = z := ⟨_, rfl⟩
  obtain ⟨s1, hs1⟩ : ∃ z, numText a = z := ⟨_, rfl⟩
  obtain ⟨s3, hs3⟩ : ∃ z, numText t = z := ⟨_, rfl⟩
  obtain ⟨s4, hs4⟩ : ∃ z, numText m = z := ⟨_, rfl⟩
  rw [hs0, hs1, hs3, hs4] at HP0
  obtain ⟨R, hR⟩ : ∃ z, joinSp s0 [s1, s3, s4] = z := ⟨_, rfl⟩
  rw [hR] at HP0
  rw [HP0] at hsz
  have HP := Lib.hid HP0
  have HR := Lib.hid hR
  have Hs0 := Lib.hid hs0
  have Hs1 := Lib.hid hs1
  have Hs3 := Lib.hid hs3
  have Hs4 := Lib.hid hs4
  have HO := Lib.hid ho
  clear ho HP0 hR hs0 hs1 hs3 hs4
  obtain ⟨i0, hi, hz0, hz1, hz2⟩ := info_parts Tryd.info_str
  obtain ⟨wa, hwa, B0, sa, x_a⟩ := frame1 w 26 [.int .i64 8, .int .i64 a, .int .i64 o, .int .i64 t, .int .i64 m, .int .i64 k1, .int .i64 k2, .int .i64 k3, .int .i64 k4]
  have sa_1 := Nat.le_of_eq sa
  have sa_2 := Nat.le_of_eq sa.symm
  clear sa
  have c_a_0_wa := x_a.cell (i := 0) rfl
  have c_a_1_wa := x_a.cell (i := 1) rfl
  have c_a_2_wa := x_a.cell (i := 2) rfl
  have c_a_3_wa := x_a.cell (i := 3) rfl
  have c_a_4_wa := x_a.cell (i := 4) rfl
  have c_a_5_wa := x_a.cell (i := 5) rfl
  have c_a_6_wa := x_a.cell (i := 6) rfl
  have c_a_7_wa := x_a.cell (i := 7) rfl
  have c_a_8_wa := x_a.cell (i := 8) rfl
  have rv : RV recL wa (.agg #[.int .i64 8, .int .i64 a, .int .i64 o, .int .i64 t, .int .i64 m, .int .i64 k1, .int .i64 k2, .int .i64 k3, .int .i64 k4]) ⟨8, a, o, t, m, ⟨k1, k2, k3, k4⟩⟩ := rv_rec_mk (zM := ⟨k1, k2, k3, k4⟩)
  go_enter Tryd.func10, Tryd.ntmps10
  go_wp2_with fail
  refine (iRecOk_c rv).mono ?_
  rintro e w1 ⟨rfl, h_w1⟩
  clear c_a_0_wa c_a_1_wa c_a_2_wa c_a_3_wa c_a_4_wa c_a_5_wa c_a_6_wa c_a_7_wa c_a_8_wa
  replace x_a := x_a.from_ h_w1
  have B_w1 := B0.trans (h_w1.mono B0.size)
  have s_w1 := h_w1.size
  rw [HO.out]
  clear rv
  have c_a_0_w1 := x_a.cell (i := 0) rfl
  have c_a_1_w1 := x_a.cell (i := 1) rfl
  have c_a_2_w1 := x_a.cell (i := 2) rfl
  have c_a_3_w1 := x_a.cell (i := 3) rfl
  have c_a_4_w1 := x_a.cell (i := 4) rfl
  have c_a_5_w1 := x_a.cell (i := 5) rfl
  have c_a_6_w1 := x_a.cell (i := 6) rfl
  have c_a_7_w1 := x_a.cell (i := 7) rfl
  have c_a_8_w1 := x_a.cell (i := 8) rfl
  go_wp2_with fail
  refine (iRkName_w _ _).mono ?_
  rintro e w' ⟨rfl, rfl⟩
  rw [Hs0.out]
  obtain ⟨w2, e_w2, s_w2, h_w2, x_s⟩ := alloc_step w1 9 [.string s0]
  have s_w2_1 := Nat.le_of_eq s_w2
  have s_w2_2 := Nat.le_of_eq s_w2.symm
  clear s_w2
  replace x_a := x_a.from_ h_w2
  have B_w2 := B_w1.trans (h_w2.mono B_w1.size)
  have own := own_vr (base := w1.heap.size) (xs := [s0]) x_s (Nat.le_refl _) (by simp)
  have c_a_0_w2 := x_a.cell (i := 0) rfl
  have f_a_0_w2 := x_a.frozen 0
  have c_a_1_w2 := x_a.cell (i := 1) rfl
  have f_a_1_w2 := x_a.frozen 1
  have c_a_2_w2 := x_a.cell (i := 2) rfl
  have f_a_2_w2 := x_a.frozen 2
  have c_a_3_w2 := x_a.cell (i := 3) rfl
  have f_a_3_w2 := x_a.frozen 3
  have c_a_4_w2 := x_a.cell (i := 4) rfl
  have f_a_4_w2 := x_a.frozen 4
  have c_a_5_w2 := x_a.cell (i := 5) rfl
  have f_a_5_w2 := x_a.frozen 5
  have c_a_6_w2 := x_a.cell (i := 6) rfl
  have f_a_6_w2 := x_a.frozen 6
  have c_a_7_w2 := x_a.cell (i := 7) rfl
  have f_a_7_w2 := x_a.frozen 7
  have c_a_8_w2 := x_a.cell (i := 8) rfl
  have f_a_8_w2 := x_a.frozen 8
  go_wp2_with fail
  refine (iUsed_8 x_a rfl).mono ?_
  rintro e w3 ⟨B, T, rfl, x_l, hB, h_w3⟩
  clear c_a_0_w1 c_a_1_w1 c_a_2_w1 c_a_3_w1 c_a_4_w1 c_a_5_w1 c_a_6_w1 c_a_7_w1 c_a_8_w1 c_a_0_w2 f_a_0_w2 c_a_1_w2 f_a_1_w2 c_a_2_w2 f_a_2_w2 c_a_3_w2 f_a_3_w2 c_a_4_w2 f_a_4_w2 c_a_5_w2 f_a_5_w2 c_a_6_w2 f_a_6_w2 c_a_7_w2 f_a_7_w2 c_a_8_w2 f_a_8_w2
  replace x_a := x_a.from_ h_w3
  have B_w3 := B_w2.trans (h_w3.mono B_w2.size)
  have s_w3 := h_w3.size
  replace own := own.below h_w3 (Nat.le_refl _)
  have hne : ∀ j, (Value.slice (some ⟨w1.heap.size, 0, none⟩) [s0].length [s0].length).ownBlock = some j → j ≠ B := by
    intro j hj
    have : w1.heap.size = j := by simpa [Value.ownBlock] using hj
    omega
  have c_a_0_w3 := x_a.cell (i := 0) rfl
  have c_a_1_w3 := x_a.cell (i := 1) rfl
  have c_a_2_w3 := x_a.cell (i := 2) rfl
  have c_a_3_w3 := x_a.cell (i := 3) rfl
  have c_a_4_w3 := x_a.cell (i := 4) rfl
  have c_a_5_w3 := x_a.cell (i := 5) rfl
  have c_a_6_w3 := x_a.cell (i := 6) rfl
  have c_a_7_w3 := x_a.cell (i := 7) rfl
  have c_a_8_w3 := x_a.cell (i := 8) rfl
  have c_l_0_w3 := x_l.cell (i := 0) rfl
  have c_l_1_w3 := x_l.cell (i := 1) rfl
  have c_l_2_w3 := x_l.cell (i := 2) rfl
  go_wp2_with fail
  refine wp_loop_rounds 4 ?_
  rw [rounds_succ]
  clear c_a_0_w3 c_a_1_w3 c_a_2_w3 c_a_3_w3 c_a_4_w3 c_a_5_w3 c_a_6_w3 c_a_7_w3 c_a_8_w3 c_l_0_w3 c_l_1_w3 c_l_2_w3
  have c_a_0_w3 := x_a.cell (i := 0) rfl
  have c_a_1_w3 := x_a.cell (i := 1) rfl
  have c_a_2_w3 := x_a.cell (i := 2) rfl
  have c_a_3_w3 := x_a.cell (i := 3) rfl
  have c_a_4_w3 := x_a.cell (i := 4) rfl
  have c_a_5_w3 := x_a.cell (i := 5) rfl
  have c_a_6_w3 := x_a.cell (i := 6) rfl
  have c_a_7_w3 := x_a.cell (i := 7) rfl
  have c_a_8_w3 := x_a.cell (i := 8) rfl
  have c_l_0_w3 := x_l.cell (i := 0) rfl
  have c_l_1_w3 := x_l.cell (i := 1) rfl
  have c_l_2_w3 := x_l.cell (i := 2) rfl
  go_wp2_with fail
  refine (iNumText_any _ _ (ht.below B_w3) (by omega) (by omega)).mono ?_
  rintro e w4 ⟨rfl, h_w4⟩
  clear c_a_0_w3 c_a_1_w3 c_a_2_w3 c_a_3_w3 c_a_4_w3 c_a_5_w3 c_a_6_w3 c_a_7_w3 c_a_8_w3 c_l_0_w3 c_l_1_w3 c_l_2_w3
  replace x_a := x_a.from_ h_w4
  replace x_l := x_l.from_ h_w4
  have B_w4 := B_w3.trans (h_w4.mono B_w3.size)
  have s_w4 := h_w4.size
  rw [Hs1.out]
  replace own := own.below h_w4 (Nat.le_refl _)
  go_wp2_with (at_builtin; refine wpl_appF Value.string ByteArray.empty _ one_str rfl (.tmp 19) (.tmp 24) 58 rfl (w1.heap.size) 9 i0 _ 16 Tryd.underlying58 hi hz0 hz1 hz2 rfl _ [s0] rfl (own.alloc_ _) _ _ _ 1 [s1] rfl rfl (rdF_one _ _ _ _ _) (by simp) (by omega) (by simp; omega) ?_)
  intro v_w5 w5 o_w5 g_w5 at_w5
  have B_w5 : Below w.heap.size w w5 := grown_belowF (B_w4.alloc B_w4.size _) (own.alloc_ _) g_w5 (by omega) (by simp; omega)
  replace x_a := (x_a.alloc _).grow g_w5 (fun e => by have := (own.lt _ e.symm).1; omega)
  have lt_l := x_l.lt
  replace x_l := (x_l.alloc _).grow g_w5 (fun e => hne _ e.symm rfl)
  replace hne : ∀ j, v_w5.ownBlock = some j → j ≠ B := by
    intro j hj
    rcases at_w5 with e | e
    · rw [e] at hj; exact hne j hj
    · rw [e] at hj; have : w4.heap.size + 1 = j := by simpa using hj
      omega
  replace own : OwnF Value.string w5 (w1.heap.size) 9 v_w5 [s0, s1] := o_w5
  have s_w5 := B_w5.size
  have sz_w5 : w4.heap.size ≤ w5.heap.size := by have := g_w5.size; simp at this; omega
  clear o_w5 g_w5 at_w5
  go_wp2_with fail
  rw [rounds_succ]
  have c_a_0_w5 := x_a.cell (i := 0) rfl
  have c_a_1_w5 := x_a.cell (i := 1) rfl
  have c_a_2_w5 := x_a.cell (i := 2) rfl
  have c_a_3_w5 := x_a.cell (i := 3) rfl
  have c_a_4_w5 := x_a.cell (i := 4) rfl
  have c_a_5_w5 := x_a.cell (i := 5) rfl
  have c_a_6_w5 := x_a.cell (i := 6) rfl
  have c_a_7_w5 := x_a.cell (i := 7) rfl
  have c_a_8_w5 := x_a.cell (i := 8) rfl
  have c_l_0_w5 := x_l.cell (i := 0) rfl
  have c_l_1_w5 := x_l.cell (i := 1) rfl
  have c_l_2_w5 := x_l.cell (i := 2) rfl
  go_wp2_with fail
  refine (iNumText_any _ _ (ht.below B_w5) (by omega) (by omega)).mono ?_
  rintro e w6 ⟨rfl, h_w6⟩
  clear c_a_0_w5 c_a_1_w5 c_a_2_w5 c_a_3_w5 c_a_4_w5 c_a_5_w5 c_a_6_w5 c_a_7_w5 c_a_8_w5 c_l_0_w5 c_l_1_w5 c_l_2_w5
  replace x_a := x_a.from_ h_w6
  replace x_l := x_l.from_ h_w6
  have B_w6 := B_w5.trans (h_w6.mono B_w5.size)
  have s_w6 := h_w6.size
  rw [Hs3.out]
  replace own := own.below h_w6 (Nat.le_refl _)
  go_wp2_with (at_builtin; refine wpl_appF Value.string ByteArray.empty _ one_str rfl (.tmp 19) (.tmp 24) 58 rfl (w1.heap.size) 9 i0 _ 16 Tryd.underlying58 hi hz0 hz1 hz2 rfl _ [s0, s1] rfl (own.alloc_ _) _ _ _ 1 [s3] rfl rfl (rdF_one _ _ _ _ _) (by simp) (by omega) (by simp; omega) ?_)
  intro v_w7 w7 o_w7 g_w7 at_w7
  have B_w7 : Below w.heap.size w w7 := grown_belowF (B_w6.alloc B_w6.size _) (own.alloc_ _) g_w7 (by omega) (by simp; omega)
  replace x_a := (x_a.alloc _).grow g_w7 (fun e => by have := (own.lt _ e.symm).1; omega)
  have lt_l := x_l.lt
  replace x_l := (x_l.alloc _).grow g_w7 (fun e => hne _ e.symm rfl)
  replace hne : ∀ j, v_w7.ownBlock = some j → j ≠ B := by
    intro j hj
    rcases at_w7 with e | e
    · rw [e] at hj; exact hne j hj
    · rw [e] at hj; have : w6.heap.size + 1 = j := by simpa using hj
      omega
  replace own : OwnF Value.string w7 (w1.heap.size) 9 v_w7 [s0, s1, s3] := o_w7
  have s_w7 := B_w7.size
  have sz_w7 : w6.heap.size ≤ w7.heap.size := by have := g_w7.size; simp at this; omega
  clear o_w7 g_w7 at_w7
  go_wp2_with fail
  rw [rounds_succ]
  have c_a_0_w7 := x_a.cell (i := 0) rfl
  have c_a_1_w7 := x_a.cell (i := 1) rfl
  have c_a_2_w7 := x_a.cell (i := 2) rfl
  have c_a_3_w7 := x_a.cell (i := 3) rfl
  have c_a_4_w7 := x_a.cell (i := 4) rfl
  have c_a_5_w7 := x_a.cell (i := 5) rfl
  have c_a_6_w7 := x_a.cell (i := 6) rfl
  have c_a_7_w7 := x_a.cell (i := 7) rfl
  have c_a_8_w7 := x_a.cell (i := 8) rfl
  have c_l_0_w7 := x_l.cell (i := 0) rfl
  have c_l_1_w7 := x_l.cell (i := 1) rfl
  have c_l_2_w7 := x_l.cell (i := 2) rfl
  go_wp2_with fail
  refine (iNumText_any _ _ (ht.below B_w7) (by omega) (by omega)).mono ?_
  rintro e w8 ⟨rfl, h_w8⟩
  clear c_a_0_w7 c_a_1_w7 c_a_2_w7 c_a_3_w7 c_a_4_w7 c_a_5_w7 c_a_6_w7 c_a_7_w7 c_a_8_w7 c_l_0_w7 c_l_1_w7 c_l_2_w7
  replace x_a := x_a.from_ h_w8
  replace x_l := x_l.from_ h_w8
  have B_w8 := B_w7.trans (h_w8.mono B_w7.size)
  have s_w8 := h_w8.size
  rw [Hs4.out]
  replace own := own.below h_w8 (Nat.le_refl _)
  go_wp2_with (at_builtin; refine wpl_appF Value.string ByteArray.empty _ one_str rfl (.tmp 19) (.tmp 24) 58 rfl (w1.heap.size) 9 i0 _ 16 Tryd.underlying58 hi hz0 hz1 hz2 rfl _ [s0, s1, s3] rfl (own.alloc_ _) _ _ _ 1 [s4] rfl rfl (rdF_one _ _ _ _ _) (by simp) (by omega) (by simp; omega) ?_)
  intro v_w9 w9 o_w9 g_w9 at_w9
  have B_w9 : Below w.heap.size w w9 := grown_belowF (B_w8.alloc B_w8.size _) (own.alloc_ _) g_w9 (by omega) (by simp; omega)
  replace x_a := (x_a.alloc _).grow g_w9 (fun e => by have := (own.lt _ e.symm).1; omega)
  have lt_l := x_l.lt
  replace x_l := (x_l.alloc _).grow g_w9 (fun e => hne _ e.symm rfl)
  replace hne : ∀ j, v_w9.ownBlock = some j → j ≠ B := by
    intro j hj
    rcases at_w9 with e | e
    · rw [e] at hj; exact hne j hj
    · rw [e] at hj; have : w8.heap.size + 1 = j := by simpa using hj
      omega
  replace own : OwnF Value.string w9 (w1.heap.size) 9 v_w9 [s0, s1, s3, s4] := o_w9
  have s_w9 := B_w9.size
  have sz_w9 : w8.heap.size ≤ w9.heap.size := by have := g_w9.size; simp at this; omega
  clear o_w9 g_w9 at_w9
  go_wp2_with fail
  rw [rounds_succ]
  have c_a_0_w9 := x_a.cell (i := 0) rfl
  have c_a_1_w9 := x_a.cell (i := 1) rfl
  have c_a_2_w9 := x_a.cell (i := 2) rfl
  have c_a_3_w9 := x_a.cell (i := 3) rfl
  have c_a_4_w9 := x_a.cell (i := 4) rfl
  have c_a_5_w9 := x_a.cell (i := 5) rfl
  have c_a_6_w9 := x_a.cell (i := 6) rfl
  have c_a_7_w9 := x_a.cell (i := 7) rfl
  have c_a_8_w9 := x_a.cell (i := 8) rfl
  obtain ⟨A, c, rfl, hc1, hc2, hr⟩ := own.form (d := ByteArray.empty)
  obtain ⟨g, off, rfl, hg, hcell⟩ := hr (by simp)
  have hcs : ∀ (j : Nat) x, [s0, s1, s3, s4][j]? = some x → w9.cell? ⟨g, off + j, none⟩ = some (.string x) := by
    intro j x hj
    have hlt : j < [s0, s1, s3, s4].length := by rcases Nat.lt_or_ge j [s0, s1, s3, s4].length with h | h; exact h; rw [List.getElem?_eq_none h] at hj; cases hj
    have := hcell j hlt
    rw [List.getD_eq_getElem?_getD, hj] at this
    exact this
  have hlen : (Lib.join ([s0, s1, s3, s4].map (·.data.toList)) (⟨#[32]⟩ : ByteArray).data.toList).length ≤ 140737488355328 := by rw [join_len, HR.out]; omega
  clear hr hcell own
  go_wp2_with fail
  refine (Tryd.strings_Join g off c [s0, s1, s3, s4] ⟨#[32]⟩ _ hcs hg (by simp) hc1 hlen).mono ?_
  rintro e w10 ⟨rfl, h_w10⟩
  clear c_a_0_w9 c_a_1_w9 c_a_2_w9 c_a_3_w9 c_a_4_w9 c_a_5_w9 c_a_6_w9 c_a_7_w9 c_a_8_w9
  replace x_a := x_a.from_ h_w10
  have B_w10 := B_w9.trans (h_w10.mono B_w9.size)
  have s_w10 := h_w10.size
  rw [join_eq, HR.out]
  go_wp2
  go_ret
  exact ⟨ret_eq (by rw [HP.out]; rfl), B_w10⟩

set_option maxRecDepth 100000 in
set_option maxHeartbeats 4000000 in
theorem rtext_9 {w : World} (ht : Tab10 w) (a o t m k1 k2 k3 k4 : Int) (ho : recOkB ⟨9, a, o, t, m, ⟨k1, k2, k3, k4⟩⟩ = true) : Calls Tryd.prog 10 #[.agg #[.int .i64 9, .int .i64 a, .int .i64 o, .int .i64 t, .int .i64 m, .int .i64 k1, .int .i64 k2, .int .i64 k3, .int .i64 k4]] w fun e w' => e = .returned (.string (recText ⟨9, a, o, t, m, ⟨k1, k2, k3, k4⟩⟩)) ∧ Below w.heap.size w w' := by
  have hp := recOk_parts ho
  obtain ⟨-, q1, q2, q3, q4, q5, -⟩ := hp
  simp only at q1 q2 q3 q4
  have hsz := recText_size (⟨9, a, o, t, m, ⟨k1, k2, k3, k4⟩⟩ : MRec)
  have HP0 : recText ⟨9, a, o, t, m, ⟨k1, k2, k3, k4⟩⟩ = joinSp (rkName 9) [numText a, numText t] := by
    unfold recText; rw [if_pos ho]; simp [recWords, recFields, kAcct, kOther, kTo, kAmt]
  clear q5
  obtain ⟨s0, hs0⟩ : ∃ z, rkName 9 = z := ⟨_, rfl⟩
  obtain ⟨s1, hs1⟩ : ∃ z, numText a = z := ⟨_, rfl⟩
  obtain ⟨s3, hs3⟩ : ∃ z, numText t = z := ⟨_, rfl⟩
  rw [hs0, hs1, hs3] at HP0
  obtain ⟨R, hR⟩ : ∃ z, joinSp s0 [s1, s3] = z := ⟨_, rfl⟩
  rw [hR] at HP0
  rw [HP0] at hsz
  have HP := Lib.hid HP0
  have HR := Lib.hid hR
  have Hs0 := Lib.hid hs0
  have Hs1 := Lib.hid hs1
  have Hs3 := Lib.hid hs3
  have HO := Lib.hid ho
  clear ho HP0 hR hs0 hs1 hs3
  obtain ⟨i0, hi, hz0, hz1, hz2⟩ := info_parts Tryd.info_str
  obtain ⟨wa, hwa, B0, sa, x_a⟩ := frame1 w 26 [.int .i64 9, .int .i64 a, .int .i64 o, .int .i64 t, .int .i64 m, .int .i64 k1, .int .i64 k2, .int .i64 k3, .int .i64 k4]
  have sa_1 := Nat.le_of_eq sa
  have sa_2 := Nat.le_of_eq sa.symm
  clear sa
  have c_a_0_wa := x_a.cell (i := 0) rfl
  have c_a_1_wa := x_a.cell (i := 1) rfl
  have c_a_2_wa := x_a.cell (i := 2) rfl
  have c_a_3_wa := x_a.cell (i := 3) rfl
  have c_a_4_wa := x_a.cell (i := 4) rfl
  have c_a_5_wa := x_a.cell (i := 5) rfl
  have c_a_6_wa := x_a.cell (i := 6) rfl
  have c_a_7_wa := x_a.cell (i := 7) rfl
  have c_a_8_wa := x_a.cell (i := 8) rfl
  have rv : RV recL wa (.agg #[.int .i64 9, .int .i64 a, .int .i64 o, .int .i64 t, .int .i64 m, .int .i64 k1, .int .i64 k2, .int .i64 k3, .int .i64 k4]) ⟨9, a, o, t, m, ⟨k1, k2, k3, k4⟩⟩ := rv_rec_mk (zM := ⟨k1, k2, k3, k4⟩)
  go_enter Tryd.func10, Tryd.ntmps10
  go_wp2_with fail
  refine (iRecOk_c rv).mono ?_
  rintro e w1 ⟨rfl, h_w1⟩
  clear c_a_0_wa c_a_1_wa c_a_2_wa c_a_3_wa c_a_4_wa c_a_5_wa c_a_6_wa c_a_7_wa c_a_8_wa
  replace x_a := x_a.from_ h_w1
  have B_w1 := B0.trans (h_w1.mono B0.size)
  have s_w1 := h_w1.size
  rw [HO.out]
  clear rv
  have c_a_0_w1 := x_a.cell (i := 0) rfl
  have c_a_1_w1 := x_a.cell (i := 1) rfl
  have c_a_2_w1 := x_a.cell (i := 2) rfl
  have c_a_3_w1 := x_a.cell (i := 3) rfl
  have c_a_4_w1 := x_a.cell (i := 4) rfl
  have c_a_5_w1 := x_a.cell (i := 5) rfl
  have c_a_6_w1 := x_a.cell (i := 6) rfl
  have c_a_7_w1 := x_a.cell (i := 7) rfl
  have c_a_8_w1 := x_a.cell (i := 8) rfl
  go_wp2_with fail
  refine (iRkName_w _ _).mono ?_
  rintro e w' ⟨rfl, rfl⟩
  rw [Hs0.out]
  obtain ⟨w2, e_w2, s_w2, h_w2, x_s⟩ := alloc_step w1 9 [.string s0]
  have s_w2_1 := Nat.le_of_eq s_w2
  have s_w2_2 := Nat.le_of_eq s_w2.symm
  clear s_w2
  replace x_a := x_a.from_ h_w2
  have B_w2 := B_w1.trans (h_w2.mono B_w1.size)
  have own := own_vr (base := w1.heap.size) (xs := [s0]) x_s (Nat.le_refl _) (by simp)
  have c_a_0_w2 := x_a.cell (i := 0) rfl
  have f_a_0_w2 := x_a.frozen 0
  have c_a_1_w2 := x_a.cell (i := 1) rfl
  have f_a_1_w2 := x_a.frozen 1
  have c_a_2_w2 := x_a.cell (i := 2) rfl
  have f_a_2_w2 := x_a.frozen 2
  have c_a_3_w2 := x_a.cell (i := 3) rfl
  have f_a_3_w2 := x_a.frozen 3
  have c_a_4_w2 := x_a.cell (i := 4) rfl
  have f_a_4_w2 := x_a.frozen 4
  have c_a_5_w2 := x_a.cell (i := 5) rfl
  have f_a_5_w2 := x_a.frozen 5
  have c_a_6_w2 := x_a.cell (i := 6) rfl
  have f_a_6_w2 := x_a.frozen 6
  have c_a_7_w2 := x_a.cell (i := 7) rfl
  have f_a_7_w2 := x_a.frozen 7
  have c_a_8_w2 := x_a.cell (i := 8) rfl
  have f_a_8_w2 := x_a.frozen 8
  go_wp2_with fail
  refine (iUsed_9 x_a rfl).mono ?_
  rintro e w3 ⟨B, T, rfl, x_l, hB, h_w3⟩
  clear c_a_0_w1 c_a_1_w1 c_a_2_w1 c_a_3_w1 c_a_4_w1 c_a_5_w1 c_a_6_w1 c_a_7_w1 c_a_8_w1 c_a_0_w2 f_a_0_w2 c_a_1_w2 f_a_1_w2 c_a_2_w2 f_a_2_w2 c_a_3_w2 f_a_3_w2 c_a_4_w2 f_a_4_w2 c_a_5_w2 f_a_5_w2 c_a_6_w2 f_a_6_w2 c_a_7_w2 f_a_7_w2 c_a_8_w2 f_a_8_w2
  replace x_a := x_a.from_ h_w3
  have B_w3 := B_w2.trans (h_w3.mono B_w2.size)
  have s_w3 := h_w3.size
  replace own := own.below h_w3 (Nat.le_refl _)
  have hne : ∀ j, (Value.slice (some ⟨w1.heap.size, 0, none⟩) [s0].length [s0].length).ownBlock = some j → j ≠ B := by
    intro j hj
    have : w1.heap.size = j := by simpa [Value.ownBlock] using hj
    omega
  have c_a_0_w3 := x_a.cell (i := 0) rfl
  have c_a_1_w3 := x_a.cell (i := 1) rfl
  have c_a_2_w3 := x_a.cell (i := 2) rfl
  have c_a_3_w3 := x_a.cell (i := 3) rfl
  have c_a_4_w3 := x_a.cell (i := 4) rfl
  have c_a_5_w3 := x_a.cell (i := 5) rfl
  have c_a_6_w3 := x_a.cell (i := 6) rfl
  have c_a_7_w3 := x_a.cell (i := 7) rfl
  have c_a_8_w3 := x_a.cell (i := 8) rfl
  have c_l_0_w3 := x_l.cell (i := 0) rfl
  have c_l_1_w3 := x_l.cell (i := 1) rfl
  go_wp2_with fail
  refine wp_loop_rounds 3 ?_
  rw [rounds_succ]
  clear c_a_0_w3 c_a_1_w3 c_a_2_w3 c_a_3_w3 c_a_4_w3 c_a_5_w3 c_a_6_w3 c_a_7_w3 c_a_8_w3 c_l_0_w3 c_l_1_w3
  have c_a_0_w3 := x_a.cell (i := 0) rfl
  have c_a_1_w3 := x_a.cell (i := 1) rfl
  have c_a_2_w3 := x_a.cell (i := 2) rfl
  have c_a_3_w3 := x_a.cell (i := 3) rfl
  have c_a_4_w3 := x_a.cell (i := 4) rfl
  have c_a_5_w3 := x_a.cell (i := 5) rfl
  have c_a_6_w3 := x_a.cell (i := 6) rfl
  have c_a_7_w3 := x_a.cell (i := 7) rfl
  have c_a_8_w3 := x_a.cell (i := 8) rfl
  have c_l_0_w3 := x_l.cell (i := 0) rfl
  have c_l_1_w3 := x_l.cell (i := 1) rfl
  go_wp2_with fail
  refine (iNumText_any _ _ (ht.below B_w3) (by omega) (by omega)).mono ?_
  rintro e w4 ⟨rfl, h_w4⟩
  clear c_a_0_w3 c_a_1_w3 c_a_2_w3 c_a_3_w3 c_a_4_w3 c_a_5_w3 c_a_6_w3 c_a_7_w3 c_a_8_w3 c_l_0_w3 c_l_1_w3
  replace x_a := x_a.from_ h_w4
  replace x_l := x_l.from_ h_w4
  have B_w4 := B_w3.trans (h_w4.mono B_w3.size)
  have s_w4 := h_w4.size
  rw [Hs1.out]
  replace own := own.below h_w4 (Nat.le_refl _)
  go_wp2_with (at_builtin; refine wpl_appF Value.string ByteArray.empty _ one_str rfl (.tmp 19) (.tmp 24) 58 rfl (w1.heap.size) 9 i0 _ 16 Tryd.underlying58 hi hz0 hz1 hz2 rfl _ [s0] rfl (own.alloc_ _) _ _ _ 1 [s1] rfl rfl (rdF_one _ _ _ _ _) (by simp) (by omega) (by simp; omega) ?_)
  intro v_w5 w5 o_w5 g_w5 at_w5
  have B_w5 : Below w.heap.size w w5 := grown_belowF (B_w4.alloc B_w4.size _) (own.alloc_ _) g_w5 (by omega) (by simp; omega)
  replace x_a := (x_a.alloc _).grow g_w5 (fun e => by have := (own.lt _ e.symm).1; omega)
  have lt_l := x_l.lt
  replace x_l := (x_l.alloc _).grow g_w5 (fun e => hne _ e.symm rfl)
  replace hne : ∀ j, v_w5.ownBlock = some j → j ≠ B := by
    intro j hj
    rcases at_w5 with e | e
    · rw [e] at hj; exact hne j hj
    · rw [e] at hj; have : w4.heap.size + 1 = j := by simpa using hj
      omega
  replace own : OwnF Value.string w5 (w1.heap.size) 9 v_w5 [s0, s1] := o_w5
  have s_w5 := B_w5.size
  have sz_w5 : w4.heap.size ≤ w5.heap.size := by have := g_w5.size; simp at this; omega
  clear o_w5 g_w5 at_w5
  go_wp2_with fail
  rw [rounds_succ]
  have c_a_0_w5 := x_a.cell (i := 0) rfl
  have c_a_1_w5 := x_a.cell (i := 1) rfl
  have c_a_2_w5 := x_a.cell (i := 2) rfl
  have c_a_3_w5 := x_a.cell (i := 3) rfl
  have c_a_4_w5 := x_a.cell (i := 4) rfl
  have c_a_5_w5 := x_a.cell (i := 5) rfl
  have c_a_6_w5 := x_a.cell (i := 6) rfl
  have c_a_7_w5 := x_a.cell (i := 7) rfl
  have c_a_8_w5 := x_a.cell (i := 8) rfl
  have c_l_0_w5 := x_l.cell (i := 0) rfl
  have c_l_1_w5 := x_l.cell (i := 1) rfl
  go_wp2_with fail
  refine (iNumText_any _ _ (ht.below B_w5) (by omega) (by omega)).mono ?_
  rintro e w6 ⟨rfl, h_w6⟩
  clear c_a_0_w5 c_a_1_w5 c_a_2_w5 c_a_3_w5 c_a_4_w5 c_a_5_w5 c_a_6_w5 c_a_7_w5 c_a_8_w5 c_l_0_w5 c_l_1_w5
  replace x_a := x_a.from_ h_w6
  replace x_l := x_l.from_ h_w6
  have B_w6 := B_w5.trans (h_w6.mono B_w5.size)
  have s_w6 := h_w6.size
  rw [Hs3.out]
  replace own := own.below h_w6 (Nat.le_refl _)
  go_wp2_with (at_builtin; refine wpl_appF Value.string ByteArray.empty _ one_str rfl (.tmp 19) (.tmp 24) 58 rfl (w1.heap.size) 9 i0 _ 16 Tryd.underlying58 hi hz0 hz1 hz2 rfl _ [s0, s1] rfl (own.alloc_ _) _ _ _ 1 [s3] rfl rfl (rdF_one _ _ _ _ _) (by simp) (by omega) (by simp; omega) ?_)
  intro v_w7 w7 o_w7 g_w7 at_w7
  have B_w7 : Below w.heap.size w w7 := grown_belowF (B_w6.alloc B_w6.size _) (own.alloc_ _) g_w7 (by omega) (by simp; omega)
  replace x_a := (x_a.alloc _).grow g_w7 (fun e => by have := (own.lt _ e.symm).1; omega)
  have lt_l := x_l.lt
  replace x_l := (x_l.alloc _).grow g_w7 (fun e => hne _ e.symm rfl)
  replace hne : ∀ j, v_w7.ownBlock = some j → j ≠ B := by
    intro j hj
    rcases at_w7 with e | e
    · rw [e] at hj; exact hne j hj
    · rw [e] at hj; have : w6.heap.size + 1 = j := by simpa using hj
      omega
  replace own : OwnF Value.string w7 (w1.heap.size) 9 v_w7 [s0, s1, s3] := o_w7
  have s_w7 := B_w7.size
  have sz_w7 : w6.heap.size ≤ w7.heap.size := by have := g_w7.size; simp at this; omega
  clear o_w7 g_w7 at_w7
  go_wp2_with fail
  rw [rounds_succ]
  have c_a_0_w7 := x_a.cell (i := 0) rfl
  have c_a_1_w7 := x_a.cell (i := 1) rfl
  have c_a_2_w7 := x_a.cell (i := 2) rfl
  have c_a_3_w7 := x_a.cell (i := 3) rfl
  have c_a_4_w7 := x_a.cell (i := 4) rfl
  have c_a_5_w7 := x_a.cell (i := 5) rfl
  have c_a_6_w7 := x_a.cell (i := 6) rfl
  have c_a_7_w7 := x_a.cell (i := 7) rfl
  have c_a_8_w7 := x_a.cell (i := 8) rfl
  obtain ⟨A, c, rfl, hc1, hc2, hr⟩ := own.form (d := ByteArray.empty)
  obtain ⟨g, off, rfl, hg, hcell⟩ := hr (by simp)
  have hcs : ∀ (j : Nat) x, [s0, s1, s3][j]? = some x → w7.cell? ⟨g, off + j, none⟩ = some (.string x) := by
    intro j x hj
    have hlt : j < [s0, s1, s3].length := by rcases Nat.lt_or_ge j [s0, s1, s3].length with h | h; exact h; rw [List.getElem?_eq_none h] at hj; cases hj
    have := hcell j hlt
    rw [List.getD_eq_getElem?_getD, hj] at this
    exact this
  have hlen : (Lib.join ([s0, s1, s3].map (·.data.toList)) (⟨#[32]⟩ : ByteArray).data.toList).length ≤ 140737488355328 := by rw [join_len, HR.out]; omega
  clear hr hcell own
  go_wp2_with fail
  refine (Tryd.strings_Join g off c [s0, s1, s3] ⟨#[32]⟩ _ hcs hg (by simp) hc1 hlen).mono ?_
  rintro e w8 ⟨rfl, h_w8⟩
  clear c_a_0_w7 c_a_1_w7 c_a_2_w7 c_a_3_w7 c_a_4_w7 c_a_5_w7 c_a_6_w7 c_a_7_w7 c_a_8_w7
  replace x_a := x_a.from_ h_w8
  have B_w8 := B_w7.trans (h_w8.mono B_w7.size)
  have s_w8 := h_w8.size
  rw [join_eq, HR.out]
  go_wp2
  go_ret
  exact ⟨ret_eq (by rw [HP.out]; rfl), B_w8⟩

set_option maxRecDepth 100000 in
set_option maxHeartbeats 4000000 in
theorem iRecText_c {w : World} {v : Value} {r : MRec} (ht : Tab10 w) (h : RV recL w v r) : Calls Tryd.prog 10 #[v] w fun e w' => e = .returned (.string (recText r)) ∧ Below w.heap.size w w' := by
  by_cases ho : recOkB r = true
  case neg =>
    have ho' : recOkB r = false := by simpa using ho
    have HP : Hid (recText r = ⟨#[]⟩) := by show _ = _; unfold recText; rw [if_neg ho]
    have HO := Lib.hid ho'
    clear ho ho'
    have h1 := h
    obtain rfl := rv_rec h1
    clear h1
    obtain ⟨wa, hwa, B0, sa, x_a⟩ := frame1 w 26 [.int .i64 r.Kind, .int .i64 r.Acct, .int .i64 r.Other, .int .i64 r.To, .int .i64 r.Amt, .int .i64 r.M.Kind, .int .i64 r.M.Acct, .int .i64 r.M.Amt, .int .i64 r.M.Src]
    have c0 := x_a.cell (i := 0) rfl
    have c1 := x_a.cell (i := 1) rfl
    have c2 := x_a.cell (i := 2) rfl
    have c3 := x_a.cell (i := 3) rfl
    have c4 := x_a.cell (i := 4) rfl
    have c5 := x_a.cell (i := 5) rfl
    have c6 := x_a.cell (i := 6) rfl
    have c7 := x_a.cell (i := 7) rfl
    have c8 := x_a.cell (i := 8) rfl
    clear sa
    go_enter Tryd.func10, Tryd.ntmps10
    go_wp2_with fail
    refine (iRecOk_c (h.from_ B0)).mono ?_
    rintro e w1 ⟨rfl, h1⟩
    rw [HO.out]
    go_wp2
    go_ret
    exact ⟨ret_eq (by rw [HP.out]; rfl), B0.trans (h1.mono B0.size)⟩
  obtain rfl := rv_rec h
  obtain ⟨k, a, o, t, m, ⟨k1, k2, k3, k4⟩⟩ := r
  have h9 := kinds9 (recOk_parts ho).1
  dsimp only at h9
  rcases h9 with rfl | rfl | rfl | rfl | rfl | rfl | rfl | rfl | rfl
  · exact rtext_1 ht a o t m k1 k2 k3 k4 ho
  · exact rtext_2 ht a o t m k1 k2 k3 k4 ho
  · exact rtext_3 ht a o t m k1 k2 k3 k4 ho
  · exact rtext_4 ht a o t m k1 k2 k3 k4 ho
  · exact rtext_5 ht a o t m k1 k2 k3 k4 ho
  · exact rtext_6 ht a o t m k1 k2 k3 k4 ho
  · exact rtext_7 ht a o t m k1 k2 k3 k4 ho
  · exact rtext_8 ht a o t m k1 k2 k3 k4 ho
  · exact rtext_9 ht a o t m k1 k2 k3 k4 ho
end Go.Proofs.YtkbhbccpmmhelaaDoor
