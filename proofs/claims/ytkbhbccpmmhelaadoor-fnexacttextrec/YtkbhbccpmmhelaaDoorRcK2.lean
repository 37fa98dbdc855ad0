/- Records out of texts: impl.readMsg, and what the words tell. Laid by a program of ours (src/rck.py). -/
import Derived.Test.YtkbhbccpmmhelaaDoorRcK
namespace Go.Proofs.YtkbhbccpmmhelaaDoor
open Go.RowKit
set_option linter.unusedVariables false
set_option linter.unusedSimpArgs false

theorem allN_iff (l : List ByteArray) : allN l = true ↔ ∀ j, j < l.length → (textNum (l.getD j ByteArray.empty)).isSome = true := by
  unfold allN
  rw [List.all_eq_true]
  constructor
  · intro h j hj
    rw [List.getD_eq_getElem?_getD, List.getElem?_eq_getElem hj]
    exact h _ (List.getElem_mem hj)
  · intro h x hx
    obtain ⟨j, hj, rfl⟩ := List.getElem_of_mem hx
    have := h j hj
    rw [List.getD_eq_getElem?_getD, List.getElem?_eq_getElem hj] at this
    exact this
theorem okT_ne {ws : List ByteArray} {k : Int} {n : Nat} (hk : kindTo (ws.getD 0 ByteArray.empty) 9 = k) (h5 : k ≠ 5) (hn : nF k = n) (h1 : 1 ≤ ws.length) : okT ws = (okN (ws.drop 1) n && decide (((ws.drop 1).drop n).length = 0)) := by
  rw [Bool.eq_iff_iff]
  unfold okT
  rw [hk, if_neg h5, hn]
  simp only [Bool.and_eq_true, decide_eq_true_eq, okN_iff, allN_iff, List.length_drop]
  constructor
  · rintro ⟨h2, h3⟩
    exact ⟨⟨by omega, fun j hj => h3 j (by omega)⟩, by omega⟩
  · rintro ⟨⟨h2, h3⟩, h4⟩
    exact ⟨by omega, fun j hj => h3 j (by omega)⟩
theorem okT_5 {ws : List ByteArray} (hk : kindTo (ws.getD 0 ByteArray.empty) 9 = 5) (h1 : 1 ≤ ws.length) : okT ws = (okN (ws.drop 1) 2 && (decide (1 ≤ ((ws.drop 1).drop 2).length) && (okN (((ws.drop 1).drop 2).drop 1) 3 && decide (((((ws.drop 1).drop 2).drop 1).drop 3).length = 0)))) := by
  rw [Bool.eq_iff_iff]
  unfold okT
  rw [hk, if_pos rfl]
  have e4 : ((ws.drop 1).drop 2).drop 1 = ws.drop 4 := by simp [List.drop_drop]
  rw [e4]
  have t1 : ∀ (l : List ByteArray) (n j : Nat), j < n → (l.take n).getD j ByteArray.empty = l.getD j ByteArray.empty := by
    intro l n j hj
    rw [List.getD_eq_getElem?_getD, List.getD_eq_getElem?_getD, List.getElem?_take_of_lt hj]
  simp only [Bool.and_eq_true, decide_eq_true_eq, okN_iff, allN_iff, List.length_drop, List.length_take]
  constructor
  · rintro ⟨h2, h3, h4⟩
    refine ⟨⟨by omega, fun j hj => ?_⟩, by omega, ⟨by omega, fun j hj => ?_⟩, by omega⟩
    · rw [← t1 _ 2 j hj]; exact h3 j (by omega)
    · rw [← t1 _ 3 j hj]; exact h4 j (by omega)
  · rintro ⟨⟨h2, h3⟩, h4, ⟨h5, h6⟩, h7⟩
    refine ⟨by omega, fun j hj => ?_, fun j hj => ?_⟩
    · rw [t1 _ 2 j (by omega)]; exact h3 j (by omega)
    · rw [t1 _ 3 j (by omega)]; exact h6 j (by omega)
theorem numsOf_get {ws : List ByteArray} {a i : Nat} (h : i < (ws.drop a).length) : (numsOf ws a).getD i 0 = txN ((ws.drop a).getD i ByteArray.empty) := by
  unfold numsOf
  rw [List.getD_eq_getElem?_getD, List.getElem?_append_left (by simpa using h), List.getElem?_map, List.getElem?_eq_getElem h, List.getD_eq_getElem?_getD, List.getElem?_eq_getElem h]
  rfl

theorem recOf_1 {ws : List ByteArray} (hk : kindTo (ws.getD 0 ByteArray.empty) 9 = 1) (h : 2 ≤ (ws.drop 1).length) : recOf ws = ⟨1, txN ((ws.drop 1).getD 0 ByteArray.empty), 0, 0, txN ((ws.drop 1).getD 1 ByteArray.empty), ⟨0, 0, 0, 0⟩⟩ := by
  have g0 := numsOf_get (ws := ws) (a := 1) (i := 0) (by omega)
  have g1 := numsOf_get (ws := ws) (a := 1) (i := 1) (by omega)
  unfold recOf
  simp only [hk]
  simp [kAcct, kOther, kTo, kAmt, -List.getD_eq_getElem?_getD, g0, g1]
theorem recOf_2 {ws : List ByteArray} (hk : kindTo (ws.getD 0 ByteArray.empty) 9 = 2) (h : 2 ≤ (ws.drop 1).length) : recOf ws = ⟨2, txN ((ws.drop 1).getD 0 ByteArray.empty), 0, 0, txN ((ws.drop 1).getD 1 ByteArray.empty), ⟨0, 0, 0, 0⟩⟩ := by
  have g0 := numsOf_get (ws := ws) (a := 1) (i := 0) (by omega)
  have g1 := numsOf_get (ws := ws) (a := 1) (i := 1) (by omega)
  unfold recOf
  simp only [hk]
  simp [kAcct, kOther, kTo, kAmt, -List.getD_eq_getElem?_getD, g0, g1]
theorem recOf_3 {ws : List ByteArray} (hk : kindTo (ws.getD 0 ByteArray.empty) 9 = 3) (h : 3 ≤ (ws.drop 1).length) : recOf ws = ⟨3, txN ((ws.drop 1).getD 0 ByteArray.empty), 0, txN ((ws.drop 1).getD 1 ByteArray.empty), txN ((ws.drop 1).getD 2 ByteArray.empty), ⟨0, 0, 0, 0⟩⟩ := by
  have g0 := numsOf_get (ws := ws) (a := 1) (i := 0) (by omega)
  have g1 := numsOf_get (ws := ws) (a := 1) (i := 1) (by omega)
  have g2 := numsOf_get (ws := ws) (a := 1) (i := 2) (by omega)
  unfold recOf
  simp only [hk]
  simp [kAcct, kOther, kTo, kAmt, -List.getD_eq_getElem?_getD, g0, g1, g2]
theorem recOf_4 {ws : List ByteArray} (hk : kindTo (ws.getD 0 ByteArray.empty) 9 = 4) (h : 4 ≤ (ws.drop 1).length) : recOf ws = ⟨4, txN ((ws.drop 1).getD 0 ByteArray.empty), txN ((ws.drop 1).getD 1 ByteArray.empty), txN ((ws.drop 1).getD 2 ByteArray.empty), txN ((ws.drop 1).getD 3 ByteArray.empty), ⟨0, 0, 0, 0⟩⟩ := by
  have g0 := numsOf_get (ws := ws) (a := 1) (i := 0) (by omega)
  have g1 := numsOf_get (ws := ws) (a := 1) (i := 1) (by omega)
  have g2 := numsOf_get (ws := ws) (a := 1) (i := 2) (by omega)
  have g3 := numsOf_get (ws := ws) (a := 1) (i := 3) (by omega)
  unfold recOf
  simp only [hk]
  simp [kAcct, kOther, kTo, kAmt, -List.getD_eq_getElem?_getD, g0, g1, g2, g3]
theorem recOf_5 {ws : List ByteArray} (hk : kindTo (ws.getD 0 ByteArray.empty) 9 = 5) (h : 2 ≤ (ws.drop 1).length) (h2 : 4 ≤ ((ws.drop 1).drop 2).length) : recOf ws = ⟨5, 0, 0, txN ((ws.drop 1).getD 0 ByteArray.empty), txN ((ws.drop 1).getD 1 ByteArray.empty), ⟨mkindTo (((ws.drop 1).drop 2).getD 0 ByteArray.empty) 5, txN ((((ws.drop 1).drop 2).drop 1).getD 0 ByteArray.empty), txN ((((ws.drop 1).drop 2).drop 1).getD 1 ByteArray.empty), txN ((((ws.drop 1).drop 2).drop 1).getD 2 ByteArray.empty)⟩⟩ := by
  have g0 := numsOf_get (ws := ws) (a := 1) (i := 0) (by omega)
  have g1 := numsOf_get (ws := ws) (a := 1) (i := 1) (by omega)
  have hd : ((ws.drop 1).drop 2).drop 1 = ws.drop 4 := by simp [List.drop_drop]
  have h3 : ((ws.drop 1).drop 2).getD 0 ByteArray.empty = ws.getD 3 ByteArray.empty := by simp [List.getD_eq_getElem?_getD, List.getElem?_drop]
  rw [hd, h3]
  simp only [List.length_drop] at h2
  have m0 := numsOf_get (ws := ws) (a := 4) (i := 0) (by simp only [List.length_drop]; omega)
  have m1 := numsOf_get (ws := ws) (a := 4) (i := 1) (by simp only [List.length_drop]; omega)
  have m2 := numsOf_get (ws := ws) (a := 4) (i := 2) (by simp only [List.length_drop]; omega)
  have hmo : msgOf ws 3 = ⟨mkindTo (ws.getD 3 ByteArray.empty) 5, txN ((ws.drop 4).getD 0 ByteArray.empty), txN ((ws.drop 4).getD 1 ByteArray.empty), txN ((ws.drop 4).getD 2 ByteArray.empty)⟩ := by
    unfold msgOf
    rw [if_neg (by omega), m0, m1, m2]
  unfold recOf
  simp only [hk]
  simp [kAcct, kOther, kTo, kAmt, -List.getD_eq_getElem?_getD, g0, g1, hmo]
theorem recOf_6 {ws : List ByteArray} (hk : kindTo (ws.getD 0 ByteArray.empty) 9 = 6) (h : 2 ≤ (ws.drop 1).length) : recOf ws = ⟨6, 0, 0, txN ((ws.drop 1).getD 0 ByteArray.empty), txN ((ws.drop 1).getD 1 ByteArray.empty), ⟨0, 0, 0, 0⟩⟩ := by
  have g0 := numsOf_get (ws := ws) (a := 1) (i := 0) (by omega)
  have g1 := numsOf_get (ws := ws) (a := 1) (i := 1) (by omega)
  unfold recOf
  simp only [hk]
  simp [kAcct, kOther, kTo, kAmt, -List.getD_eq_getElem?_getD, g0, g1]
theorem recOf_7 {ws : List ByteArray} (hk : kindTo (ws.getD 0 ByteArray.empty) 9 = 7) (h : 2 ≤ (ws.drop 1).length) : recOf ws = ⟨7, txN ((ws.drop 1).getD 0 ByteArray.empty), 0, 0, txN ((ws.drop 1).getD 1 ByteArray.empty), ⟨0, 0, 0, 0⟩⟩ := by
  have g0 := numsOf_get (ws := ws) (a := 1) (i := 0) (by omega)
  have g1 := numsOf_get (ws := ws) (a := 1) (i := 1) (by omega)
  unfold recOf
  simp only [hk]
  simp [kAcct, kOther, kTo, kAmt, -List.getD_eq_getElem?_getD, g0, g1]
theorem recOf_8 {ws : List ByteArray} (hk : kindTo (ws.getD 0 ByteArray.empty) 9 = 8) (h : 3 ≤ (ws.drop 1).length) : recOf ws = ⟨8, txN ((ws.drop 1).getD 0 ByteArray.empty), 0, txN ((ws.drop 1).getD 1 ByteArray.empty), txN ((ws.drop 1).getD 2 ByteArray.empty), ⟨0, 0, 0, 0⟩⟩ := by
  have g0 := numsOf_get (ws := ws) (a := 1) (i := 0) (by omega)
  have g1 := numsOf_get (ws := ws) (a := 1) (i := 1) (by omega)
  have g2 := numsOf_get (ws := ws) (a := 1) (i := 2) (by omega)
  unfold recOf
  simp only [hk]
  simp [kAcct, kOther, kTo, kAmt, -List.getD_eq_getElem?_getD, g0, g1, g2]
theorem recOf_9 {ws : List ByteArray} (hk : kindTo (ws.getD 0 ByteArray.empty) 9 = 9) (h : 2 ≤ (ws.drop 1).length) : recOf ws = ⟨9, txN ((ws.drop 1).getD 0 ByteArray.empty), 0, txN ((ws.drop 1).getD 1 ByteArray.empty), 0, ⟨0, 0, 0, 0⟩⟩ := by
  have g0 := numsOf_get (ws := ws) (a := 1) (i := 0) (by omega)
  have g1 := numsOf_get (ws := ws) (a := 1) (i := 1) (by omega)
  unfold recOf
  simp only [hk]
  simp [kAcct, kOther, kTo, kAmt, -List.getD_eq_getElem?_getD, g0, g1]
set_option maxRecDepth 100000 in
set_option maxHeartbeats 4000000 in
theorem iReadMsg_c {W0 w : World} (ht : Tab10 W0) (hW : Below W0.heap.size W0 w) {b B0 : Nat} {T : TypeId} {z0 z1 z2 z3 z4 z5 z6 z7 z8 v : Value} {ws : List ByteArray} (h0 : W0.heap.size ≤ b) (hB0 : B0 ≤ b) (x_r : Vr w b T [z0, z1, z2, z3, z4, z5, z6, z7, z8]) (h : WS w B0 v ws) (hz : ∀ x ∈ ws, x.size ≤ 1048576) (hm : ws.length ≤ 16777216) :
    Calls Tryd.prog 29 #[v, .pointer (some ⟨b, 5, none⟩)] w fun e w' => ∃ v' ok, e = .returned (.tuple #[v', .bool ok]) ∧ ((ok = true ∧ (1 ≤ ws.length ∧ okN (ws.drop 1) 3 = true) ∧ Vr w' b T [z0, z1, z2, z3, z4, .int .i64 (mkindTo (ws.getD 0 ByteArray.empty) 5), .int .i64 (txN ((ws.drop 1).getD 0 ByteArray.empty)), .int .i64 (txN ((ws.drop 1).getD 1 ByteArray.empty)), .int .i64 (txN ((ws.drop 1).getD 2 ByteArray.empty))] ∧ WS w' B0 v' ((ws.drop 1).drop 3)) ∨ (ok = false ∧ (¬ 1 ≤ ws.length ∨ okN (ws.drop 1) 3 = false) ∧ v' = .slice none 0 0 ∧ ∃ cs, Vr w' b T cs)) ∧ Chg b (b + 1) w w' := by
  have C0 : Chg b (b + 1) w w := Chg.refl _ _ _
  have lb := x_r.lt
  obtain ⟨A, c, rfl, hc1, hc2, hr⟩ := h
  by_cases hn : 1 ≤ ws.length
  case neg =>
    have i1 : ((ws.length : Int) == 0) = true := by rw [beq_iff_eq]; omega
    go_enter Tryd.func29, Tryd.ntmps29
    go_wp2
    go_ret2
    exact ⟨_, _, rfl, .inr ⟨rfl, .inl hn, rfl, _, x_r⟩, C0⟩
  have i1 : ((ws.length : Int) == 0) = false := by rw [beq_eq_false_iff_ne]; omega
  have i2 : (0 : Int) < (ws.length : Int) := by omega
  have hdr := run_wdrop A c 1 ws.length 1 rfl hn
  have hWS : WS w B0 (.slice A ws.length c) ws := ⟨A, c, rfl, hc1, hc2, hr⟩
  have hWD := hWS.drop hn
  obtain ⟨g, off, hA, hg, hcell⟩ := hr (by omega)
  clear hr hWS
  obtain ⟨y0, hy0⟩ : ∃ y, ws.getD 0 ByteArray.empty = y := ⟨_, rfl⟩
  have e0 := hcell 0 (by omega)
  rw [hy0] at e0
  simp only [Nat.add_zero] at e0
  have HY0 := Lib.hid hy0
  clear hcell hy0
  have hgw : g < w.heap.size := by omega
  generalize hdX : (if c = 1 then A else A.map (·.add (1 * 1))) = X at hdr hWD
  clear hdX
  subst hA
  obtain ⟨K, hK⟩ : ∃ z, mkindTo y0 5 = z := ⟨_, rfl⟩
  have HK := Lib.hid hK
  clear hK
  have c_r_0_w := x_r.cell (i := 0) rfl
  have f_r_0_w := x_r.frozen 0
  have c_r_1_w := x_r.cell (i := 1) rfl
  have f_r_1_w := x_r.frozen 1
  have c_r_2_w := x_r.cell (i := 2) rfl
  have f_r_2_w := x_r.frozen 2
  have c_r_3_w := x_r.cell (i := 3) rfl
  have f_r_3_w := x_r.frozen 3
  have c_r_4_w := x_r.cell (i := 4) rfl
  have f_r_4_w := x_r.frozen 4
  have c_r_5_w := x_r.cell (i := 5) rfl
  have f_r_5_w := x_r.frozen 5
  have c_r_6_w := x_r.cell (i := 6) rfl
  have f_r_6_w := x_r.frozen 6
  have c_r_7_w := x_r.cell (i := 7) rfl
  have f_r_7_w := x_r.frozen 7
  have c_r_8_w := x_r.cell (i := 8) rfl
  have f_r_8_w := x_r.frozen 8
  go_enter Tryd.func29, Tryd.ntmps29
  go_wp2_with fail
  refine (iKindM_c y0 _).mono ?_
  rintro e w1 ⟨rfl, h_w1⟩
  clear c_r_0_w f_r_0_w c_r_1_w f_r_1_w c_r_2_w f_r_2_w c_r_3_w f_r_3_w c_r_4_w f_r_4_w c_r_5_w f_r_5_w c_r_6_w f_r_6_w c_r_7_w f_r_7_w c_r_8_w f_r_8_w
  replace x_r := x_r.from_ h_w1
  have B_w1 := hW.trans (h_w1.mono hW.size)
  have s_w1 := h_w1.size
  have C_w1 := C0.then_below h_w1
  rw [HK.out]
  replace hWD := hWD.below h_w1 (by omega)
  have c_r_0_w1 := x_r.cell (i := 0) rfl
  have f_r_0_w1 := x_r.frozen 0
  have c_r_1_w1 := x_r.cell (i := 1) rfl
  have f_r_1_w1 := x_r.frozen 1
  have c_r_2_w1 := x_r.cell (i := 2) rfl
  have f_r_2_w1 := x_r.frozen 2
  have c_r_3_w1 := x_r.cell (i := 3) rfl
  have f_r_3_w1 := x_r.frozen 3
  have c_r_4_w1 := x_r.cell (i := 4) rfl
  have f_r_4_w1 := x_r.frozen 4
  have c_r_5_w1 := x_r.cell (i := 5) rfl
  have f_r_5_w1 := x_r.frozen 5
  have c_r_6_w1 := x_r.cell (i := 6) rfl
  have f_r_6_w1 := x_r.frozen 6
  have c_r_7_w1 := x_r.cell (i := 7) rfl
  have f_r_7_w1 := x_r.frozen 7
  have c_r_8_w1 := x_r.cell (i := 8) rfl
  have f_r_8_w1 := x_r.frozen 8
  obtain ⟨w2, e_w2, s_w2, h_w2, y⟩ := set_step x_r 5 (.int .i64 K)
  have s_w2_1 := Nat.le_of_eq s_w2
  have s_w2_2 := Nat.le_of_eq s_w2.symm
  clear s_w2
  have B_w2 := Below.chg_ B_w1 h_w2 (by omega) (by omega)
  have C_w2 := C_w1.then_same h_w2
  replace x_r : Vr w2 (b) T [z0, z1, z2, z3, z4, .int .i64 K, z6, z7, z8] := y
  clear y
  replace hWD := hWD.chg h_w2 hB0 (by omega)
  have hz1 : ∀ x ∈ ws.drop 1, x.size ≤ 1048576 := fun x hx => hz x (List.mem_of_mem_drop hx)
  have hm1 : (ws.drop 1).length ≤ 16777216 := by rw [List.length_drop]; omega
  have hgo : ∀ W, Below w2.heap.size w2 W → Calls Tryd.prog 27 #[.slice X (ws.length - 1) (c - 1), .slice (some ⟨W.heap.size, 0, none⟩) 3 3] (W.alloc (.cells #[.pointer (some ⟨b, 6, none⟩), .pointer (some ⟨b, 7, none⟩), .pointer (some ⟨b, 8, none⟩)] 54)) fun e w' => ∃ v' ok, e = .returned (.tuple #[v', .bool ok]) ∧ ((ok = true ∧ okN (ws.drop 1) 3 = true ∧ Vr w' b T [z0, z1, z2, z3, z4, .int .i64 K, .int .i64 (txN ((ws.drop 1).getD 0 ByteArray.empty)), .int .i64 (txN ((ws.drop 1).getD 1 ByteArray.empty)), .int .i64 (txN ((ws.drop 1).getD 2 ByteArray.empty))] ∧ WS w' B0 v' ((ws.drop 1).drop 3)) ∨ (ok = false ∧ okN (ws.drop 1) 3 = false ∧ v' = .slice none 0 0 ∧ ∃ cs, Vr w' b T cs)) ∧ Chg b (b + 1) w w' := by
    intro W hW2
    obtain ⟨w8, e8, s8, b8, x8⟩ := alloc_step W 54 [.pointer (some ⟨b, 6, none⟩), .pointer (some ⟨b, 7, none⟩), .pointer (some ⟨b, 8, none⟩)]
    rw [show W.alloc (.cells #[.pointer (some ⟨b, 6, none⟩), .pointer (some ⟨b, 7, none⟩), .pointer (some ⟨b, 8, none⟩)] 54) = w8 from e8]
    have q1 := hW2.trans (b8.mono hW2.size)
    have q2 := hW2.size
    refine (iRead_msg ht (B_w2.trans (q1.mono B_w2.size)) h0 hB0 (x_r.from_ q1) x8 (by omega) (hWD.below q1 (by omega)) hz1 hm1).mono ?_
    rintro e w' ⟨v', ok, rfl, hp, hC⟩
    exact ⟨v', ok, rfl, hp, (C_w2.then_below q1).then_same hC⟩
  have c_r_0_w2 := x_r.cell (i := 0) rfl
  have f_r_0_w2 := x_r.frozen 0
  have c_r_1_w2 := x_r.cell (i := 1) rfl
  have f_r_1_w2 := x_r.frozen 1
  have c_r_2_w2 := x_r.cell (i := 2) rfl
  have f_r_2_w2 := x_r.frozen 2
  have c_r_3_w2 := x_r.cell (i := 3) rfl
  have f_r_3_w2 := x_r.frozen 3
  have c_r_4_w2 := x_r.cell (i := 4) rfl
  have f_r_4_w2 := x_r.frozen 4
  have c_r_5_w2 := x_r.cell (i := 5) rfl
  have f_r_5_w2 := x_r.frozen 5
  have c_r_6_w2 := x_r.cell (i := 6) rfl
  have f_r_6_w2 := x_r.frozen 6
  have c_r_7_w2 := x_r.cell (i := 7) rfl
  have f_r_7_w2 := x_r.frozen 7
  have c_r_8_w2 := x_r.cell (i := 8) rfl
  have f_r_8_w2 := x_r.frozen 8
  go_wp2_with fail
  go_region_with (go_at_call 27; refine (hgo w2.drew (Below.refl _ _).drew).mono ?_; rintro e w9 ⟨v9, ok, rfl, hp, hC⟩)
  go_wp2
  go_ret2
  refine ⟨_, _, rfl, ?_, hC⟩
  rcases hp with ⟨rfl, p2, p3, p4⟩ | ⟨rfl, p2, p3, p4⟩
  · exact .inl ⟨rfl, ⟨hn, p2⟩, by rw [HY0.out, HK.out]; exact p3, p4⟩
  · exact .inr ⟨rfl, .inr p2, p3, p4⟩

end Go.Proofs.YtkbhbccpmmhelaaDoor
