/- Records: the contract of spec.TextRec. Laid by a program of ours (src/rc8.py). -/
import Derived.Test.YtkbhbccpmmhelaaDoorRc6
import Derived.Test.YtkbhbccpmmhelaaDoorBunS
namespace Go.Proofs.YtkbhbccpmmhelaaDoor
open Go.RowKit
set_option linter.unusedVariables false

theorem sHas_0 (w : World) : Calls Tryd.prog 42 #[.int .i64 0] w fun e w' => e = .returned (.tuple #[.bool true, .bool false, .bool false, .bool true]) ∧ w = w' := by
  have hh := sHas_c 0 w
  rw [show kAcct 0 = true from rfl, show kOther 0 = false from rfl, show kTo 0 = false from rfl, show kAmt 0 = true from rfl] at hh
  exact hh
theorem sNums1_c {w : World} {v : Value} {ws : List ByteArray} (h : RSF Value.string ByteArray.empty w v ws) (hz : ∀ x ∈ ws, x.size ≤ 1048576) (hm : ws.length ≤ 16777216) : Calls Tryd.prog 48 #[v, .int .i64 1] w (NewS .i64 3 w (numsOf ws 1)) := sNumsOf_c (q := 1) h (by omega) hz hm
theorem sMsg3_c {w : World} {v : Value} {ws : List ByteArray} (h : RSF Value.string ByteArray.empty w v ws) (hz : ∀ x ∈ ws, x.size ≤ 1048576) (hm : ws.length ≤ 16777216) : Calls Tryd.prog 49 #[v, .int .i64 3] w (NewV msgL w (msgOf ws 3)) := sMsgOf_c (q := 3) h (by omega) hz hm
theorem kindTo_at (x : ByteArray) {k : Nat} (h : 1 ≤ k) : kindTo x k = if rkName (k : Int) = x then (k : Int) else kindTo x (k - 1) := by
  obtain ⟨j, rfl⟩ : ∃ j, k = j + 1 := ⟨k - 1, by omega⟩
  rfl
theorem rkName_ne {k : Int} (h : 1 ≤ k ∧ k ≤ 9) : (rkName k).size ≠ 0 := by
  have h5 : k = 1 ∨ k = 2 ∨ k = 3 ∨ k = 4 ∨ k = 5 ∨ k = 6 ∨ k = 7 ∨ k = 8 ∨ k = 9 := by omega
  rcases h5 with rfl | rfl | rfl | rfl | rfl | rfl | rfl | rfl | rfl <;> decide
theorem joinSp_size (s : ByteArray) (ws : List ByteArray) : s.size ≤ (joinSp s ws).size := by
  unfold joinSp
  induction ws generalizing s with
  | nil => exact Nat.le_refl _
  | cons x xs ih => rw [List.foldl_cons]; refine Nat.le_trans ?_ (ih _); simp only [ByteArray.size_append]; omega
theorem recText_empty (r : MRec) : decide (recText r = ByteArray.empty) = !recOkB r := by
  by_cases h : recOkB r = true
  · rw [h]
    have h1 := rkName_ne (recOk_parts h).1
    have h2 := joinSp_size (rkName r.Kind) (recWords r)
    apply decide_eq_false
    unfold recText
    rw [if_pos h]
    intro e
    rw [e] at h2
    have : ByteArray.empty.size = 0 := rfl
    omega
  · have h' : recOkB r = false := by simpa using h
    rw [h']
    apply decide_eq_true
    unfold recText
    rw [if_neg h]
    rfl

set_option maxRecDepth 100000 in
set_option maxHeartbeats 16000000 in
theorem sTextRec_c {w : World} (s : ByteArray) (hs : s.size ≤ 1048576) : Calls Tryd.prog 19 #[.string s] w (NewVB recL w (textRec s) (textRecB s)) := by
  obtain ⟨ws, hws⟩ : ∃ ws, splitL s 32 = ws := ⟨_, rfl⟩
  have hwn := splitL_ne s 32
  have hwl := splitL_len s 32
  have hwz := splitL_size s 32
  rw [hws] at hwn hwl hwz
  have hwz2 : ∀ x ∈ ws, x.size ≤ 1048576 := fun x hx => Nat.le_trans (hwz x hx) hs
  have hwm : ws.length ≤ 16777216 := by omega
  have hw0 := List.length_pos_iff.2 hwn
  clear hwz hwl
  obtain ⟨x, hx⟩ : ∃ x, ws.getD 0 ByteArray.empty = x := ⟨_, rfl⟩
  have HWS := Lib.hid hws
  have HX := Lib.hid hx
  clear hws hx
  obtain ⟨wa, hwa, B0, sa, x_r⟩ := frame1 w 26 [.int .i64 0, .int .i64 0, .int .i64 0, .int .i64 0, .int .i64 0, .int .i64 0, .int .i64 0, .int .i64 0, .int .i64 0]
  have sa_1 := Nat.le_of_eq sa
  have sa_2 := Nat.le_of_eq sa.symm
  clear sa
  have c_r_0_wa := x_r.cell (i := 0) rfl
  have f_r_0_wa := x_r.frozen 0
  have c_r_1_wa := x_r.cell (i := 1) rfl
  have f_r_1_wa := x_r.frozen 1
  have c_r_2_wa := x_r.cell (i := 2) rfl
  have f_r_2_wa := x_r.frozen 2
  have c_r_3_wa := x_r.cell (i := 3) rfl
  have f_r_3_wa := x_r.frozen 3
  have c_r_4_wa := x_r.cell (i := 4) rfl
  have f_r_4_wa := x_r.frozen 4
  have c_r_5_wa := x_r.cell (i := 5) rfl
  have f_r_5_wa := x_r.frozen 5
  have c_r_6_wa := x_r.cell (i := 6) rfl
  have f_r_6_wa := x_r.frozen 6
  have c_r_7_wa := x_r.cell (i := 7) rfl
  have f_r_7_wa := x_r.frozen 7
  have c_r_8_wa := x_r.cell (i := 8) rfl
  have f_r_8_wa := x_r.frozen 8
  go_enter Tryd.func19, Tryd.ntmps19
  go_wp2_with fail
  refine (sCut_c s hs).mono ?_
  rintro e w1 ⟨vW, rfl, o_W, h_w1⟩
  clear c_r_0_wa f_r_0_wa c_r_1_wa f_r_1_wa c_r_2_wa f_r_2_wa c_r_3_wa f_r_3_wa c_r_4_wa f_r_4_wa c_r_5_wa f_r_5_wa c_r_6_wa f_r_6_wa c_r_7_wa f_r_7_wa c_r_8_wa f_r_8_wa
  replace x_r := x_r.from_ h_w1
  have B_w1 := B0.trans (h_w1.mono B0.size)
  have s_w1 := h_w1.size
  rw [HWS.out] at o_W
  obtain ⟨g, cW, rfl, -, -⟩ := own_slice o_W hwn
  have c_r_0_w1 := x_r.cell (i := 0) rfl
  have f_r_0_w1 := x_r.frozen 0
  have c_r_1_w1 := x_r.cell (i := 1) rfl
  have f_r_1_w1 := x_r.frozen 1
  have c_r_2_w1 := x_r.cell (i := 2) rfl
  have f_r_2_w1 := x_r.frozen 2
  have c_r_3_w1 := x_r.cell (i := 3) rfl
  have f_r_3_w1 := x_r.frozen 3
  have c_r_4_w1 := x_r.cell (i := 4) rfl
  have f_r_4_w1 := x_r.frozen 4
  have c_r_5_w1 := x_r.cell (i := 5) rfl
  have f_r_5_w1 := x_r.frozen 5
  have c_r_6_w1 := x_r.cell (i := 6) rfl
  have f_r_6_w1 := x_r.frozen 6
  have c_r_7_w1 := x_r.cell (i := 7) rfl
  have f_r_7_w1 := x_r.frozen 7
  have c_r_8_w1 := x_r.cell (i := 8) rfl
  have f_r_8_w1 := x_r.frozen 8
  obtain ⟨w2, e_w2, s_w2, h_w2, x_v⟩ := alloc_step w1 26 [.int .i64 0, .int .i64 0, .int .i64 0, .int .i64 0, .int .i64 0, .int .i64 0, .int .i64 0, .int .i64 0, .int .i64 0]
  have s_w2_1 := Nat.le_of_eq s_w2
  have s_w2_2 := Nat.le_of_eq s_w2.symm
  clear s_w2
  replace x_r := x_r.from_ h_w2
  replace o_W := o_W.below h_w2
  have B_w2 := B_w1.trans (h_w2.mono B_w1.size)
  have i_w2_8 := x_v.same (i := 8) rfl
  have i_w2_7 := x_v.same (i := 7) rfl
  have i_w2_6 := x_v.same (i := 6) rfl
  have i_w2_5 := x_v.same (i := 5) rfl
  have i_w2_4 := x_v.same (i := 4) rfl
  have i_w2_3 := x_v.same (i := 3) rfl
  have i_w2_2 := x_v.same (i := 2) rfl
  have i_w2_1 := x_v.same (i := 1) rfl
  have i_w2_0 := x_v.same (i := 0) rfl
  have c_r_0_w2 := x_r.cell (i := 0) rfl
  have f_r_0_w2 := x_r.frozen 0
  have c_r_1_w2 := x_r.cell (i := 1) rfl
  have f_r_1_w2 := x_r.frozen 1
  have c_r_2_w2 := x_r.cell (i := 2) rfl
  have f_r_2_w2 := x_r.frozen 2
  have c_r_3_w2 := x_r.cell (i := 3) rfl
  have f_r_3_w2 := x_r.frozen 3
  have c_r_4_w2 := x_r.cell (i := 4) rfl
  have f_r_4_w2 := x_r.frozen 4
  have c_r_5_w2 := x_r.cell (i := 5) rfl
  have f_r_5_w2 := x_r.frozen 5
  have c_r_6_w2 := x_r.cell (i := 6) rfl
  have f_r_6_w2 := x_r.frozen 6
  have c_r_7_w2 := x_r.cell (i := 7) rfl
  have f_r_7_w2 := x_r.frozen 7
  have c_r_8_w2 := x_r.cell (i := 8) rfl
  have f_r_8_w2 := x_r.frozen 8
  have c_v_0_w2 := x_v.cell (i := 0) rfl
  have f_v_0_w2 := x_v.frozen 0
  have c_v_1_w2 := x_v.cell (i := 1) rfl
  have f_v_1_w2 := x_v.frozen 1
  have c_v_2_w2 := x_v.cell (i := 2) rfl
  have f_v_2_w2 := x_v.frozen 2
  have c_v_3_w2 := x_v.cell (i := 3) rfl
  have f_v_3_w2 := x_v.frozen 3
  have c_v_4_w2 := x_v.cell (i := 4) rfl
  have f_v_4_w2 := x_v.frozen 4
  have c_v_5_w2 := x_v.cell (i := 5) rfl
  have f_v_5_w2 := x_v.frozen 5
  have c_v_6_w2 := x_v.cell (i := 6) rfl
  have f_v_6_w2 := x_v.frozen 6
  have c_v_7_w2 := x_v.cell (i := 7) rfl
  have f_v_7_w2 := x_v.frozen 7
  have c_v_8_w2 := x_v.cell (i := 8) rfl
  have f_v_8_w2 := x_v.frozen 8
  go_wp2
  go_loopw [6] (fun j wr => ∃ k : Nat, 1 ≤ k ∧ k ≤ 10 ∧ j = .int .i64 k ∧ Vr wr (w1.heap.size) 26 [.int .i64 (kindTo x (k - 1)), .int .i64 0, .int .i64 0, .int .i64 0, .int .i64 0, .int .i64 0, .int .i64 0, .int .i64 0, .int .i64 0] ∧ Vr wr (w.heap.size) 26 [.int .i64 0, .int .i64 0, .int .i64 0, .int .i64 0, .int .i64 0, .int .i64 0, .int .i64 0, .int .i64 0, .int .i64 0] ∧ OSF Value.string 9 wr wa.heap.size w1.heap.size (.slice (some ⟨g, 0, none⟩) ws.length cW) ws ∧ Below w.heap.size w wr) (fun j _ => 11 - (intOf j).toNat)
  case atStart => exact ⟨1, by omega, by omega, rfl, x_v, x_r, o_W, B_w2⟩
  case round =>
    clear c_r_0_w1 f_r_0_w1 c_r_1_w1 f_r_1_w1 c_r_2_w1 f_r_2_w1 c_r_3_w1 f_r_3_w1 c_r_4_w1 f_r_4_w1 c_r_5_w1 f_r_5_w1 c_r_6_w1 f_r_6_w1 c_r_7_w1 f_r_7_w1 c_r_8_w1 f_r_8_w1 i_w2_8 i_w2_7 i_w2_6 i_w2_5 i_w2_4 i_w2_3 i_w2_2 i_w2_1 i_w2_0 c_r_0_w2 f_r_0_w2 c_r_1_w2 f_r_1_w2 c_r_2_w2 f_r_2_w2 c_r_3_w2 f_r_3_w2 c_r_4_w2 f_r_4_w2 c_r_5_w2 f_r_5_w2 c_r_6_w2 f_r_6_w2 c_r_7_w2 f_r_7_w2 c_r_8_w2 f_r_8_w2 c_v_0_w2 f_v_0_w2 c_v_1_w2 f_v_1_w2 c_v_2_w2 f_v_2_w2 c_v_3_w2 f_v_3_w2 c_v_4_w2 f_v_4_w2 c_v_5_w2 f_v_5_w2 c_v_6_w2 f_v_6_w2 c_v_7_w2 f_v_7_w2 c_v_8_w2 f_v_8_w2
    clear x_v x_r o_W
    obtain ⟨k, hk1, hk, rfl, x_v, x_r, o_W, HB⟩ := hrel
    have hs0 := HB.size
    have hsv := x_v.lt
    have hsr := x_r.lt
    have e1 := o_W.1.cell_ (d := ByteArray.empty) (j := 0) hw0
    rw [HX.out] at e1
    have hgw : g < wr.heap.size := (o_W.1.lt g rfl).2
    by_cases hk5 : k = 10
    case neg =>
      have hk4 : k < 10 := by omega
      have i2 : (k : Int) ≤ 9 := by omega
      have j0 : (0 : Int) < (ws.length : Int) := by omega
      obtain ⟨kk, hkk⟩ : ∃ z, kindTo x (k - 1) = z := ⟨_, rfl⟩
      rw [hkk] at x_v
      obtain ⟨nm, hnm⟩ : ∃ z, rkName (k : Int) = z := ⟨_, rfl⟩
      have HNM := Lib.hid hnm
      by_cases hnx : nm = x
      case pos =>
        have HK : Hid (kindTo x (k + 1 - 1) = (k : Int)) := by show _ = _; rw [Nat.add_sub_cancel, kindTo_at x hk1, hnm]; rw [if_pos hnx]
        have hc : (nm.toList == x.toList) = true := by rw [beq_str]; exact decide_eq_true hnx
        clear hnx hkk hnm
        have c_v_0_wr := x_v.cell (i := 0) rfl
        have f_v_0_wr := x_v.frozen 0
        have c_v_1_wr := x_v.cell (i := 1) rfl
        have f_v_1_wr := x_v.frozen 1
        have c_v_2_wr := x_v.cell (i := 2) rfl
        have f_v_2_wr := x_v.frozen 2
        have c_v_3_wr := x_v.cell (i := 3) rfl
        have f_v_3_wr := x_v.frozen 3
        have c_v_4_wr := x_v.cell (i := 4) rfl
        have f_v_4_wr := x_v.frozen 4
        have c_v_5_wr := x_v.cell (i := 5) rfl
        have f_v_5_wr := x_v.frozen 5
        have c_v_6_wr := x_v.cell (i := 6) rfl
        have f_v_6_wr := x_v.frozen 6
        have c_v_7_wr := x_v.cell (i := 7) rfl
        have f_v_7_wr := x_v.frozen 7
        have c_v_8_wr := x_v.cell (i := 8) rfl
        have f_v_8_wr := x_v.frozen 8
        have c_r_0_wr := x_r.cell (i := 0) rfl
        have f_r_0_wr := x_r.frozen 0
        have c_r_1_wr := x_r.cell (i := 1) rfl
        have f_r_1_wr := x_r.frozen 1
        have c_r_2_wr := x_r.cell (i := 2) rfl
        have f_r_2_wr := x_r.frozen 2
        have c_r_3_wr := x_r.cell (i := 3) rfl
        have f_r_3_wr := x_r.frozen 3
        have c_r_4_wr := x_r.cell (i := 4) rfl
        have f_r_4_wr := x_r.frozen 4
        have c_r_5_wr := x_r.cell (i := 5) rfl
        have f_r_5_wr := x_r.frozen 5
        have c_r_6_wr := x_r.cell (i := 6) rfl
        have f_r_6_wr := x_r.frozen 6
        have c_r_7_wr := x_r.cell (i := 7) rfl
        have f_r_7_wr := x_r.frozen 7
        have c_r_8_wr := x_r.cell (i := 8) rfl
        have f_r_8_wr := x_r.frozen 8
        go_wp2_with fail
        go_region_held3 (fun w' => w'.cell? ⟨g, 0, none⟩ = some (Value.string x))
          (first | exact e1 | exact (kp1 _ hgw).trans e1)
          (first | (go_at_call 43; refine (sRkName_c _ _).mono ?_; rintro e w5 ⟨rfl, hd1⟩; rw [HNM.out]; have hb1 : Below wr.heap.size wr w5 := (Below.refl wr.heap.size wr).drew.trans hd1; have kp1 : ∀ p : Addr, p.block < wr.heap.size → w5.cell? p = wr.cell? p := (fun p hp => hd1.cell hp)) | fail)
        clear c_v_0_wr f_v_0_wr c_v_1_wr f_v_1_wr c_v_2_wr f_v_2_wr c_v_3_wr f_v_3_wr c_v_4_wr f_v_4_wr c_v_5_wr f_v_5_wr c_v_6_wr f_v_6_wr c_v_7_wr f_v_7_wr c_v_8_wr f_v_8_wr c_r_0_wr f_r_0_wr c_r_1_wr f_r_1_wr c_r_2_wr f_r_2_wr c_r_3_wr f_r_3_wr c_r_4_wr f_r_4_wr c_r_5_wr f_r_5_wr c_r_6_wr f_r_6_wr c_r_7_wr f_r_7_wr c_r_8_wr f_r_8_wr
        clear kp1 hd1 e1
        replace x_v := x_v.from_ hb1
        replace x_r := x_r.from_ hb1
        replace o_W := o_W.below hb1
        have HB1 := HB.trans (hb1.mono HB.size)
        have s_w5 := hb1.size
        have c_v_0_w5 := x_v.cell (i := 0) rfl
        have f_v_0_w5 := x_v.frozen 0
        have c_v_1_w5 := x_v.cell (i := 1) rfl
        have f_v_1_w5 := x_v.frozen 1
        have c_v_2_w5 := x_v.cell (i := 2) rfl
        have f_v_2_w5 := x_v.frozen 2
        have c_v_3_w5 := x_v.cell (i := 3) rfl
        have f_v_3_w5 := x_v.frozen 3
        have c_v_4_w5 := x_v.cell (i := 4) rfl
        have f_v_4_w5 := x_v.frozen 4
        have c_v_5_w5 := x_v.cell (i := 5) rfl
        have f_v_5_w5 := x_v.frozen 5
        have c_v_6_w5 := x_v.cell (i := 6) rfl
        have f_v_6_w5 := x_v.frozen 6
        have c_v_7_w5 := x_v.cell (i := 7) rfl
        have f_v_7_w5 := x_v.frozen 7
        have c_v_8_w5 := x_v.cell (i := 8) rfl
        have f_v_8_w5 := x_v.frozen 8
        have c_r_0_w5 := x_r.cell (i := 0) rfl
        have f_r_0_w5 := x_r.frozen 0
        have c_r_1_w5 := x_r.cell (i := 1) rfl
        have f_r_1_w5 := x_r.frozen 1
        have c_r_2_w5 := x_r.cell (i := 2) rfl
        have f_r_2_w5 := x_r.frozen 2
        have c_r_3_w5 := x_r.cell (i := 3) rfl
        have f_r_3_w5 := x_r.frozen 3
        have c_r_4_w5 := x_r.cell (i := 4) rfl
        have f_r_4_w5 := x_r.frozen 4
        have c_r_5_w5 := x_r.cell (i := 5) rfl
        have f_r_5_w5 := x_r.frozen 5
        have c_r_6_w5 := x_r.cell (i := 6) rfl
        have f_r_6_w5 := x_r.frozen 6
        have c_r_7_w5 := x_r.cell (i := 7) rfl
        have f_r_7_w5 := x_r.frozen 7
        have c_r_8_w5 := x_r.cell (i := 8) rfl
        have f_r_8_w5 := x_r.frozen 8
        obtain ⟨w6, e_w6, s_w6, h_w6, y⟩ := set_step x_v 0 (.int .i64 (k : Int))
        have s_w6_1 := Nat.le_of_eq s_w6
        have s_w6_2 := Nat.le_of_eq s_w6.symm
        clear s_w6
        replace x_r := x_r.chg h_w6 (by omega)
        replace o_W := o_W.chg h_w6 (by omega)
        have B_w6 := Below.chg_ HB1 h_w6 (by omega) (by omega)
        replace x_v : Vr w6 (w1.heap.size) 26 [.int .i64 (k : Int), .int .i64 0, .int .i64 0, .int .i64 0, .int .i64 0, .int .i64 0, .int .i64 0, .int .i64 0, .int .i64 0] := y
        clear y
        have c_v_0_w6 := x_v.cell (i := 0) rfl
        have f_v_0_w6 := x_v.frozen 0
        have c_v_1_w6 := x_v.cell (i := 1) rfl
        have f_v_1_w6 := x_v.frozen 1
        have c_v_2_w6 := x_v.cell (i := 2) rfl
        have f_v_2_w6 := x_v.frozen 2
        have c_v_3_w6 := x_v.cell (i := 3) rfl
        have f_v_3_w6 := x_v.frozen 3
        have c_v_4_w6 := x_v.cell (i := 4) rfl
        have f_v_4_w6 := x_v.frozen 4
        have c_v_5_w6 := x_v.cell (i := 5) rfl
        have f_v_5_w6 := x_v.frozen 5
        have c_v_6_w6 := x_v.cell (i := 6) rfl
        have f_v_6_w6 := x_v.frozen 6
        have c_v_7_w6 := x_v.cell (i := 7) rfl
        have f_v_7_w6 := x_v.frozen 7
        have c_v_8_w6 := x_v.cell (i := 8) rfl
        have f_v_8_w6 := x_v.frozen 8
        have c_r_0_w6 := x_r.cell (i := 0) rfl
        have f_r_0_w6 := x_r.frozen 0
        have c_r_1_w6 := x_r.cell (i := 1) rfl
        have f_r_1_w6 := x_r.frozen 1
        have c_r_2_w6 := x_r.cell (i := 2) rfl
        have f_r_2_w6 := x_r.frozen 2
        have c_r_3_w6 := x_r.cell (i := 3) rfl
        have f_r_3_w6 := x_r.frozen 3
        have c_r_4_w6 := x_r.cell (i := 4) rfl
        have f_r_4_w6 := x_r.frozen 4
        have c_r_5_w6 := x_r.cell (i := 5) rfl
        have f_r_5_w6 := x_r.frozen 5
        have c_r_6_w6 := x_r.cell (i := 6) rfl
        have f_r_6_w6 := x_r.frozen 6
        have c_r_7_w6 := x_r.cell (i := 7) rfl
        have f_r_7_w6 := x_r.frozen 7
        have c_r_8_w6 := x_r.cell (i := 8) rfl
        have f_r_8_w6 := x_r.frozen 8
        go_wp2
        go_roundw
        case rel => exact ⟨k + 1, by omega, by omega, by go_num, by rw [HK.out]; exact x_v, x_r, o_W, B_w6⟩
        case measure => simp [intOf]; omega
      case neg =>
        have HK : Hid (kindTo x (k + 1 - 1) = kk) := by show _ = _; rw [Nat.add_sub_cancel, kindTo_at x hk1, hnm]; rw [if_neg hnx]; exact hkk
        have hc : (nm.toList == x.toList) = false := by rw [beq_str]; exact decide_eq_false hnx
        clear hnx hkk hnm
        have c_v_0_wr := x_v.cell (i := 0) rfl
        have f_v_0_wr := x_v.frozen 0
        have c_v_1_wr := x_v.cell (i := 1) rfl
        have f_v_1_wr := x_v.frozen 1
        have c_v_2_wr := x_v.cell (i := 2) rfl
        have f_v_2_wr := x_v.frozen 2
        have c_v_3_wr := x_v.cell (i := 3) rfl
        have f_v_3_wr := x_v.frozen 3
        have c_v_4_wr := x_v.cell (i := 4) rfl
        have f_v_4_wr := x_v.frozen 4
        have c_v_5_wr := x_v.cell (i := 5) rfl
        have f_v_5_wr := x_v.frozen 5
        have c_v_6_wr := x_v.cell (i := 6) rfl
        have f_v_6_wr := x_v.frozen 6
        have c_v_7_wr := x_v.cell (i := 7) rfl
        have f_v_7_wr := x_v.frozen 7
        have c_v_8_wr := x_v.cell (i := 8) rfl
        have f_v_8_wr := x_v.frozen 8
        have c_r_0_wr := x_r.cell (i := 0) rfl
        have f_r_0_wr := x_r.frozen 0
        have c_r_1_wr := x_r.cell (i := 1) rfl
        have f_r_1_wr := x_r.frozen 1
        have c_r_2_wr := x_r.cell (i := 2) rfl
        have f_r_2_wr := x_r.frozen 2
        have c_r_3_wr := x_r.cell (i := 3) rfl
        have f_r_3_wr := x_r.frozen 3
        have c_r_4_wr := x_r.cell (i := 4) rfl
        have f_r_4_wr := x_r.frozen 4
        have c_r_5_wr := x_r.cell (i := 5) rfl
        have f_r_5_wr := x_r.frozen 5
        have c_r_6_wr := x_r.cell (i := 6) rfl
        have f_r_6_wr := x_r.frozen 6
        have c_r_7_wr := x_r.cell (i := 7) rfl
        have f_r_7_wr := x_r.frozen 7
        have c_r_8_wr := x_r.cell (i := 8) rfl
        have f_r_8_wr := x_r.frozen 8
        go_wp2_with fail
        go_region_held3 (fun w' => w'.cell? ⟨g, 0, none⟩ = some (Value.string x))
          (first | exact e1 | exact (kp1 _ hgw).trans e1)
          (first | (go_at_call 43; refine (sRkName_c _ _).mono ?_; rintro e w5 ⟨rfl, hd1⟩; rw [HNM.out]; have hb1 : Below wr.heap.size wr w5 := (Below.refl wr.heap.size wr).drew.trans hd1; have kp1 : ∀ p : Addr, p.block < wr.heap.size → w5.cell? p = wr.cell? p := (fun p hp => hd1.cell hp)) | fail)
        clear c_v_0_wr f_v_0_wr c_v_1_wr f_v_1_wr c_v_2_wr f_v_2_wr c_v_3_wr f_v_3_wr c_v_4_wr f_v_4_wr c_v_5_wr f_v_5_wr c_v_6_wr f_v_6_wr c_v_7_wr f_v_7_wr c_v_8_wr f_v_8_wr c_r_0_wr f_r_0_wr c_r_1_wr f_r_1_wr c_r_2_wr f_r_2_wr c_r_3_wr f_r_3_wr c_r_4_wr f_r_4_wr c_r_5_wr f_r_5_wr c_r_6_wr f_r_6_wr c_r_7_wr f_r_7_wr c_r_8_wr f_r_8_wr
        clear kp1 hd1 e1
        replace x_v := x_v.from_ hb1
        replace x_r := x_r.from_ hb1
        replace o_W := o_W.below hb1
        have HB1 := HB.trans (hb1.mono HB.size)
        have s_w5 := hb1.size
        have c_v_0_w5 := x_v.cell (i := 0) rfl
        have f_v_0_w5 := x_v.frozen 0
        have c_v_1_w5 := x_v.cell (i := 1) rfl
        have f_v_1_w5 := x_v.frozen 1
        have c_v_2_w5 := x_v.cell (i := 2) rfl
        have f_v_2_w5 := x_v.frozen 2
        have c_v_3_w5 := x_v.cell (i := 3) rfl
        have f_v_3_w5 := x_v.frozen 3
        have c_v_4_w5 := x_v.cell (i := 4) rfl
        have f_v_4_w5 := x_v.frozen 4
        have c_v_5_w5 := x_v.cell (i := 5) rfl
        have f_v_5_w5 := x_v.frozen 5
        have c_v_6_w5 := x_v.cell (i := 6) rfl
        have f_v_6_w5 := x_v.frozen 6
        have c_v_7_w5 := x_v.cell (i := 7) rfl
        have f_v_7_w5 := x_v.frozen 7
        have c_v_8_w5 := x_v.cell (i := 8) rfl
        have f_v_8_w5 := x_v.frozen 8
        have c_r_0_w5 := x_r.cell (i := 0) rfl
        have f_r_0_w5 := x_r.frozen 0
        have c_r_1_w5 := x_r.cell (i := 1) rfl
        have f_r_1_w5 := x_r.frozen 1
        have c_r_2_w5 := x_r.cell (i := 2) rfl
        have f_r_2_w5 := x_r.frozen 2
        have c_r_3_w5 := x_r.cell (i := 3) rfl
        have f_r_3_w5 := x_r.frozen 3
        have c_r_4_w5 := x_r.cell (i := 4) rfl
        have f_r_4_w5 := x_r.frozen 4
        have c_r_5_w5 := x_r.cell (i := 5) rfl
        have f_r_5_w5 := x_r.frozen 5
        have c_r_6_w5 := x_r.cell (i := 6) rfl
        have f_r_6_w5 := x_r.frozen 6
        have c_r_7_w5 := x_r.cell (i := 7) rfl
        have f_r_7_w5 := x_r.frozen 7
        have c_r_8_w5 := x_r.cell (i := 8) rfl
        have f_r_8_w5 := x_r.frozen 8
        go_wp2
        go_roundw
        case rel => exact ⟨k + 1, by omega, by omega, by go_num, by rw [HK.out]; exact x_v, x_r, o_W, HB1⟩
        case measure => simp [intOf]; omega
    subst hk5
    have i2 : ¬ ((10 : Nat) : Int) ≤ 9 := by omega
    clear e1
    obtain ⟨K, hK⟩ : ∃ z, kindTo x 9 = z := ⟨_, rfl⟩
    have hKr := kindTo_range x 9
    rw [hK] at hKr
    replace x_v : Vr wr (w1.heap.size) 26 [.int .i64 K, .int .i64 0, .int .i64 0, .int .i64 0, .int .i64 0, .int .i64 0, .int .i64 0, .int .i64 0, .int .i64 0] := by rw [← hK]; exact x_v
    have HK := Lib.hid hK
    clear hK
    obtain ⟨L, hL⟩ : ∃ L, numsOf ws 1 = L := ⟨_, rfl⟩
    have lL := numsOf_len ws 1
    rw [hL] at lL
    have HL := Lib.hid hL
    clear hL
    obtain ⟨l0, hl0⟩ : ∃ z, L.getD 0 0 = z := ⟨_, rfl⟩
    have HL0 := Lib.hid hl0
    clear hl0
    obtain ⟨l1, hl1⟩ : ∃ z, L.getD 1 0 = z := ⟨_, rfl⟩
    have HL1 := Lib.hid hl1
    clear hl1
    obtain ⟨l2, hl2⟩ : ∃ z, L.getD 2 0 = z := ⟨_, rfl⟩
    have HL2 := Lib.hid hl2
    clear hl2
    obtain ⟨l3, hl3⟩ : ∃ z, L.getD 3 0 = z := ⟨_, rfl⟩
    have HL3 := Lib.hid hl3
    clear hl3
    have h10 : K = 0 ∨ K = 1 ∨ K = 2 ∨ K = 3 ∨ K = 4 ∨ K = 5 ∨ K = 6 ∨ K = 7 ∨ K = 8 ∨ K = 9 := by omega
    clear hKr
    rcases h10 with rfl | rfl | rfl | rfl | rfl | rfl | rfl | rfl | rfl | rfl
    · -- 0
      have c_v_0_wr := x_v.cell (i := 0) rfl
      have f_v_0_wr := x_v.frozen 0
      have c_v_1_wr := x_v.cell (i := 1) rfl
      have f_v_1_wr := x_v.frozen 1
      have c_v_2_wr := x_v.cell (i := 2) rfl
      have f_v_2_wr := x_v.frozen 2
      have c_v_3_wr := x_v.cell (i := 3) rfl
      have f_v_3_wr := x_v.frozen 3
      have c_v_4_wr := x_v.cell (i := 4) rfl
      have f_v_4_wr := x_v.frozen 4
      have c_v_5_wr := x_v.cell (i := 5) rfl
      have f_v_5_wr := x_v.frozen 5
      have c_v_6_wr := x_v.cell (i := 6) rfl
      have f_v_6_wr := x_v.frozen 6
      have c_v_7_wr := x_v.cell (i := 7) rfl
      have f_v_7_wr := x_v.frozen 7
      have c_v_8_wr := x_v.cell (i := 8) rfl
      have f_v_8_wr := x_v.frozen 8
      have c_r_0_wr := x_r.cell (i := 0) rfl
      have f_r_0_wr := x_r.frozen 0
      have c_r_1_wr := x_r.cell (i := 1) rfl
      have f_r_1_wr := x_r.frozen 1
      have c_r_2_wr := x_r.cell (i := 2) rfl
      have f_r_2_wr := x_r.frozen 2
      have c_r_3_wr := x_r.cell (i := 3) rfl
      have f_r_3_wr := x_r.frozen 3
      have c_r_4_wr := x_r.cell (i := 4) rfl
      have f_r_4_wr := x_r.frozen 4
      have c_r_5_wr := x_r.cell (i := 5) rfl
      have f_r_5_wr := x_r.frozen 5
      have c_r_6_wr := x_r.cell (i := 6) rfl
      have f_r_6_wr := x_r.frozen 6
      have c_r_7_wr := x_r.cell (i := 7) rfl
      have f_r_7_wr := x_r.frozen 7
      have c_r_8_wr := x_r.cell (i := 8) rfl
      have f_r_8_wr := x_r.frozen 8
      go_wp2_with fail
      refine (sHas_0 _).mono ?_
      rintro e w' ⟨rfl, rfl⟩
      go_wp2_with fail
      refine (sNums1_c (o_W.rd) hwz2 hwm).mono ?_
      rintro e w11 ⟨vL, rfl, o_L, h_w11⟩
      clear c_v_0_wr f_v_0_wr c_v_1_wr f_v_1_wr c_v_2_wr f_v_2_wr c_v_3_wr f_v_3_wr c_v_4_wr f_v_4_wr c_v_5_wr f_v_5_wr c_v_6_wr f_v_6_wr c_v_7_wr f_v_7_wr c_v_8_wr f_v_8_wr c_r_0_wr f_r_0_wr c_r_1_wr f_r_1_wr c_r_2_wr f_r_2_wr c_r_3_wr f_r_3_wr c_r_4_wr f_r_4_wr c_r_5_wr f_r_5_wr c_r_6_wr f_r_6_wr c_r_7_wr f_r_7_wr c_r_8_wr f_r_8_wr
      replace x_r := x_r.from_ h_w11
      replace x_v := x_v.from_ h_w11
      replace o_W := o_W.below h_w11
      have B_w11 := HB.trans (h_w11.mono HB.size)
      have s_w11 := h_w11.size
      rw [HL.out] at o_L
      obtain ⟨bL, cL, rfl⟩ := own_slice64 o_L (by omega)
      have j0 : (0 : Int) < (L.length : Int) := by omega
      have j1 : (1 : Int) < (L.length : Int) := by omega
      have j2 : (2 : Int) < (L.length : Int) := by omega
      have j3 : (3 : Int) < (L.length : Int) := by omega
      have d0 := o_L.1.cell_ (j := 0) (by omega)
      rw [HL0.out] at d0
      have c_v_0_w11 := x_v.cell (i := 0) rfl
      have f_v_0_w11 := x_v.frozen 0
      have c_v_1_w11 := x_v.cell (i := 1) rfl
      have f_v_1_w11 := x_v.frozen 1
      have c_v_2_w11 := x_v.cell (i := 2) rfl
      have f_v_2_w11 := x_v.frozen 2
      have c_v_3_w11 := x_v.cell (i := 3) rfl
      have f_v_3_w11 := x_v.frozen 3
      have c_v_4_w11 := x_v.cell (i := 4) rfl
      have f_v_4_w11 := x_v.frozen 4
      have c_v_5_w11 := x_v.cell (i := 5) rfl
      have f_v_5_w11 := x_v.frozen 5
      have c_v_6_w11 := x_v.cell (i := 6) rfl
      have f_v_6_w11 := x_v.frozen 6
      have c_v_7_w11 := x_v.cell (i := 7) rfl
      have f_v_7_w11 := x_v.frozen 7
      have c_v_8_w11 := x_v.cell (i := 8) rfl
      have f_v_8_w11 := x_v.frozen 8
      have c_r_0_w11 := x_r.cell (i := 0) rfl
      have f_r_0_w11 := x_r.frozen 0
      have c_r_1_w11 := x_r.cell (i := 1) rfl
      have f_r_1_w11 := x_r.frozen 1
      have c_r_2_w11 := x_r.cell (i := 2) rfl
      have f_r_2_w11 := x_r.frozen 2
      have c_r_3_w11 := x_r.cell (i := 3) rfl
      have f_r_3_w11 := x_r.frozen 3
      have c_r_4_w11 := x_r.cell (i := 4) rfl
      have f_r_4_w11 := x_r.frozen 4
      have c_r_5_w11 := x_r.cell (i := 5) rfl
      have f_r_5_w11 := x_r.frozen 5
      have c_r_6_w11 := x_r.cell (i := 6) rfl
      have f_r_6_w11 := x_r.frozen 6
      have c_r_7_w11 := x_r.cell (i := 7) rfl
      have f_r_7_w11 := x_r.frozen 7
      have c_r_8_w11 := x_r.cell (i := 8) rfl
      have f_r_8_w11 := x_r.frozen 8
      obtain ⟨w12, e_w12, s_w12, h_w12, y⟩ := set_step x_v 1 (.int .i64 l0)
      have s_w12_1 := Nat.le_of_eq s_w12
      have s_w12_2 := Nat.le_of_eq s_w12.symm
      clear s_w12
      replace x_r := x_r.chg h_w12 (by omega)
      replace o_W := o_W.chg h_w12 (by omega)
      replace o_L := o_L.chg h_w12 (by omega)
      have B_w12 := Below.chg_ B_w11 h_w12 (by omega) (by omega)
      replace x_v : Vr w12 (w1.heap.size) 26 [.int .i64 0, .int .i64 l0, .int .i64 0, .int .i64 0, .int .i64 0, .int .i64 0, .int .i64 0, .int .i64 0, .int .i64 0] := y
      clear y
      have d1 := o_L.1.cell_ (j := 1) (by omega)
      rw [HL1.out] at d1
      have c_v_0_w12 := x_v.cell (i := 0) rfl
      have f_v_0_w12 := x_v.frozen 0
      have c_v_1_w12 := x_v.cell (i := 1) rfl
      have f_v_1_w12 := x_v.frozen 1
      have c_v_2_w12 := x_v.cell (i := 2) rfl
      have f_v_2_w12 := x_v.frozen 2
      have c_v_3_w12 := x_v.cell (i := 3) rfl
      have f_v_3_w12 := x_v.frozen 3
      have c_v_4_w12 := x_v.cell (i := 4) rfl
      have f_v_4_w12 := x_v.frozen 4
      have c_v_5_w12 := x_v.cell (i := 5) rfl
      have f_v_5_w12 := x_v.frozen 5
      have c_v_6_w12 := x_v.cell (i := 6) rfl
      have f_v_6_w12 := x_v.frozen 6
      have c_v_7_w12 := x_v.cell (i := 7) rfl
      have f_v_7_w12 := x_v.frozen 7
      have c_v_8_w12 := x_v.cell (i := 8) rfl
      have f_v_8_w12 := x_v.frozen 8
      have c_r_0_w12 := x_r.cell (i := 0) rfl
      have f_r_0_w12 := x_r.frozen 0
      have c_r_1_w12 := x_r.cell (i := 1) rfl
      have f_r_1_w12 := x_r.frozen 1
      have c_r_2_w12 := x_r.cell (i := 2) rfl
      have f_r_2_w12 := x_r.frozen 2
      have c_r_3_w12 := x_r.cell (i := 3) rfl
      have f_r_3_w12 := x_r.frozen 3
      have c_r_4_w12 := x_r.cell (i := 4) rfl
      have f_r_4_w12 := x_r.frozen 4
      have c_r_5_w12 := x_r.cell (i := 5) rfl
      have f_r_5_w12 := x_r.frozen 5
      have c_r_6_w12 := x_r.cell (i := 6) rfl
      have f_r_6_w12 := x_r.frozen 6
      have c_r_7_w12 := x_r.cell (i := 7) rfl
      have f_r_7_w12 := x_r.frozen 7
      have c_r_8_w12 := x_r.cell (i := 8) rfl
      have f_r_8_w12 := x_r.frozen 8
      obtain ⟨w13, e_w13, s_w13, h_w13, y⟩ := set_step x_v 4 (.int .i64 l1)
      have s_w13_1 := Nat.le_of_eq s_w13
      have s_w13_2 := Nat.le_of_eq s_w13.symm
      clear s_w13
      replace x_r := x_r.chg h_w13 (by omega)
      replace o_W := o_W.chg h_w13 (by omega)
      replace o_L := o_L.chg h_w13 (by omega)
      have B_w13 := Below.chg_ B_w12 h_w13 (by omega) (by omega)
      replace x_v : Vr w13 (w1.heap.size) 26 [.int .i64 0, .int .i64 l0, .int .i64 0, .int .i64 0, .int .i64 l1, .int .i64 0, .int .i64 0, .int .i64 0, .int .i64 0] := y
      clear y
      have c_v_0_w13 := x_v.cell (i := 0) rfl
      have f_v_0_w13 := x_v.frozen 0
      have c_v_1_w13 := x_v.cell (i := 1) rfl
      have f_v_1_w13 := x_v.frozen 1
      have c_v_2_w13 := x_v.cell (i := 2) rfl
      have f_v_2_w13 := x_v.frozen 2
      have c_v_3_w13 := x_v.cell (i := 3) rfl
      have f_v_3_w13 := x_v.frozen 3
      have c_v_4_w13 := x_v.cell (i := 4) rfl
      have f_v_4_w13 := x_v.frozen 4
      have c_v_5_w13 := x_v.cell (i := 5) rfl
      have f_v_5_w13 := x_v.frozen 5
      have c_v_6_w13 := x_v.cell (i := 6) rfl
      have f_v_6_w13 := x_v.frozen 6
      have c_v_7_w13 := x_v.cell (i := 7) rfl
      have f_v_7_w13 := x_v.frozen 7
      have c_v_8_w13 := x_v.cell (i := 8) rfl
      have f_v_8_w13 := x_v.frozen 8
      have c_r_0_w13 := x_r.cell (i := 0) rfl
      have f_r_0_w13 := x_r.frozen 0
      have c_r_1_w13 := x_r.cell (i := 1) rfl
      have f_r_1_w13 := x_r.frozen 1
      have c_r_2_w13 := x_r.cell (i := 2) rfl
      have f_r_2_w13 := x_r.frozen 2
      have c_r_3_w13 := x_r.cell (i := 3) rfl
      have f_r_3_w13 := x_r.frozen 3
      have c_r_4_w13 := x_r.cell (i := 4) rfl
      have f_r_4_w13 := x_r.frozen 4
      have c_r_5_w13 := x_r.cell (i := 5) rfl
      have f_r_5_w13 := x_r.frozen 5
      have c_r_6_w13 := x_r.cell (i := 6) rfl
      have f_r_6_w13 := x_r.frozen 6
      have c_r_7_w13 := x_r.cell (i := 7) rfl
      have f_r_7_w13 := x_r.frozen 7
      have c_r_8_w13 := x_r.cell (i := 8) rfl
      have f_r_8_w13 := x_r.frozen 8
      have HR : Hid (recOf (splitL s 32) = ⟨0, l0, 0, 0, l1, ⟨0, 0, 0, 0⟩⟩) := by
        show _ = _
        unfold recOf
        rw [HWS.out, HX.out, HK.out, HL.out, ← HL0.out, ← HL1.out]
        rfl
      obtain ⟨T, hT⟩ : ∃ T, recText ⟨0, l0, 0, 0, l1, ⟨0, 0, 0, 0⟩⟩ = T := ⟨_, rfl⟩
      obtain ⟨ok, hok⟩ : ∃ b, recOkB ⟨0, l0, 0, 0, l1, ⟨0, 0, 0, 0⟩⟩ = b := ⟨_, rfl⟩
      have hE := str_empty T
      have hE1 := recText_empty ⟨0, l0, 0, 0, l1, ⟨0, 0, 0, 0⟩⟩
      rw [hT, hok] at hE1
      rw [hE1] at hE
      clear hE1
      have HT := Lib.hid hT
      have HOK := Lib.hid hok
      clear hT hok
      have rv : RV recL w13 (.agg #[.int .i64 0, .int .i64 l0, .int .i64 0, .int .i64 0, .int .i64 l1, .int .i64 0, .int .i64 0, .int .i64 0, .int .i64 0]) ⟨0, l0, 0, 0, l1, ⟨0, 0, 0, 0⟩⟩ := rv_rec_mk (zM := ⟨0, 0, 0, 0⟩)
      go_wp2_with fail
      refine (sRecText_c rv).mono ?_
      rintro e w14 ⟨rfl, h_w14⟩
      clear c_v_0_w11 f_v_0_w11 c_v_1_w11 f_v_1_w11 c_v_2_w11 f_v_2_w11 c_v_3_w11 f_v_3_w11 c_v_4_w11 f_v_4_w11 c_v_5_w11 f_v_5_w11 c_v_6_w11 f_v_6_w11 c_v_7_w11 f_v_7_w11 c_v_8_w11 f_v_8_w11 c_r_0_w11 f_r_0_w11 c_r_1_w11 f_r_1_w11 c_r_2_w11 f_r_2_w11 c_r_3_w11 f_r_3_w11 c_r_4_w11 f_r_4_w11 c_r_5_w11 f_r_5_w11 c_r_6_w11 f_r_6_w11 c_r_7_w11 f_r_7_w11 c_r_8_w11 f_r_8_w11 d0 c_v_0_w12 f_v_0_w12 c_v_1_w12 f_v_1_w12 c_v_2_w12 f_v_2_w12 c_v_3_w12 f_v_3_w12 c_v_4_w12 f_v_4_w12 c_v_5_w12 f_v_5_w12 c_v_6_w12 f_v_6_w12 c_v_7_w12 f_v_7_w12 c_v_8_w12 f_v_8_w12 c_r_0_w12 f_r_0_w12 c_r_1_w12 f_r_1_w12 c_r_2_w12 f_r_2_w12 c_r_3_w12 f_r_3_w12 c_r_4_w12 f_r_4_w12 c_r_5_w12 f_r_5_w12 c_r_6_w12 f_r_6_w12 c_r_7_w12 f_r_7_w12 c_r_8_w12 f_r_8_w12 d1 c_v_0_w13 f_v_0_w13 c_v_1_w13 f_v_1_w13 c_v_2_w13 f_v_2_w13 c_v_3_w13 f_v_3_w13 c_v_4_w13 f_v_4_w13 c_v_5_w13 f_v_5_w13 c_v_6_w13 f_v_6_w13 c_v_7_w13 f_v_7_w13 c_v_8_w13 f_v_8_w13 c_r_0_w13 f_r_0_w13 c_r_1_w13 f_r_1_w13 c_r_2_w13 f_r_2_w13 c_r_3_w13 f_r_3_w13 c_r_4_w13 f_r_4_w13 c_r_5_w13 f_r_5_w13 c_r_6_w13 f_r_6_w13 c_r_7_w13 f_r_7_w13 c_r_8_w13 f_r_8_w13
      replace x_r := x_r.from_ h_w14
      replace x_v := x_v.from_ h_w14
      replace o_W := o_W.below h_w14
      replace o_L := o_L.below h_w14
      have B_w14 := B_w13.trans (h_w14.mono B_w13.size)
      have s_w14 := h_w14.size
      rw [HT.out]
      clear rv
      have c_v_0_w14 := x_v.cell (i := 0) rfl
      have f_v_0_w14 := x_v.frozen 0
      have c_v_1_w14 := x_v.cell (i := 1) rfl
      have f_v_1_w14 := x_v.frozen 1
      have c_v_2_w14 := x_v.cell (i := 2) rfl
      have f_v_2_w14 := x_v.frozen 2
      have c_v_3_w14 := x_v.cell (i := 3) rfl
      have f_v_3_w14 := x_v.frozen 3
      have c_v_4_w14 := x_v.cell (i := 4) rfl
      have f_v_4_w14 := x_v.frozen 4
      have c_v_5_w14 := x_v.cell (i := 5) rfl
      have f_v_5_w14 := x_v.frozen 5
      have c_v_6_w14 := x_v.cell (i := 6) rfl
      have f_v_6_w14 := x_v.frozen 6
      have c_v_7_w14 := x_v.cell (i := 7) rfl
      have f_v_7_w14 := x_v.frozen 7
      have c_v_8_w14 := x_v.cell (i := 8) rfl
      have f_v_8_w14 := x_v.frozen 8
      have c_r_0_w14 := x_r.cell (i := 0) rfl
      have f_r_0_w14 := x_r.frozen 0
      have c_r_1_w14 := x_r.cell (i := 1) rfl
      have f_r_1_w14 := x_r.frozen 1
      have c_r_2_w14 := x_r.cell (i := 2) rfl
      have f_r_2_w14 := x_r.frozen 2
      have c_r_3_w14 := x_r.cell (i := 3) rfl
      have f_r_3_w14 := x_r.frozen 3
      have c_r_4_w14 := x_r.cell (i := 4) rfl
      have f_r_4_w14 := x_r.frozen 4
      have c_r_5_w14 := x_r.cell (i := 5) rfl
      have f_r_5_w14 := x_r.frozen 5
      have c_r_6_w14 := x_r.cell (i := 6) rfl
      have f_r_6_w14 := x_r.frozen 6
      have c_r_7_w14 := x_r.cell (i := 7) rfl
      have f_r_7_w14 := x_r.frozen 7
      have c_r_8_w14 := x_r.cell (i := 8) rfl
      have f_r_8_w14 := x_r.frozen 8
      cases ok
      case false =>
        have hE2 : (T.toList == []) = true := hE
        clear hE
        have HF : Hid (textRecB s = false) := by show _ = _; unfold textRecB; rw [HR.out, HOK.out]; rfl
        have i_r_0 := x_r.same (i := 0) rfl
        have i_r_1 := x_r.same (i := 1) rfl
        have i_r_2 := x_r.same (i := 2) rfl
        have i_r_3 := x_r.same (i := 3) rfl
        have i_r_4 := x_r.same (i := 4) rfl
        have i_r_5 := x_r.same (i := 5) rfl
        have i_r_6 := x_r.same (i := 6) rfl
        have i_r_7 := x_r.same (i := 7) rfl
        have i_r_8 := x_r.same (i := 8) rfl
        have HF2 : Hid (textRec s = recZ) := by show _ = _; unfold textRec; rw [HF.out]; rfl
        go_wp2
        refine ret_cell_tmp (by rfl) (by rfl) x_r Tryd.underlying26 sz_rec (by rfl) ?_
        rw [HF.out, HF2.out]
        exact ⟨_, rfl, ov_rec (d := recZ) (Nat.le_refl _), B_w14⟩
      case true =>
        have hE2 : (T.toList == []) = false := hE
        clear hE
        have rv : RV recL w14 (.agg #[.int .i64 0, .int .i64 l0, .int .i64 0, .int .i64 0, .int .i64 l1, .int .i64 0, .int .i64 0, .int .i64 0, .int .i64 0]) ⟨0, l0, 0, 0, l1, ⟨0, 0, 0, 0⟩⟩ := rv_rec_mk (zM := ⟨0, 0, 0, 0⟩)
        go_wp2_with fail
        refine (sRecText_c rv).mono ?_
        rintro e w15 ⟨rfl, h_w15⟩
        clear c_v_0_w14 f_v_0_w14 c_v_1_w14 f_v_1_w14 c_v_2_w14 f_v_2_w14 c_v_3_w14 f_v_3_w14 c_v_4_w14 f_v_4_w14 c_v_5_w14 f_v_5_w14 c_v_6_w14 f_v_6_w14 c_v_7_w14 f_v_7_w14 c_v_8_w14 f_v_8_w14 c_r_0_w14 f_r_0_w14 c_r_1_w14 f_r_1_w14 c_r_2_w14 f_r_2_w14 c_r_3_w14 f_r_3_w14 c_r_4_w14 f_r_4_w14 c_r_5_w14 f_r_5_w14 c_r_6_w14 f_r_6_w14 c_r_7_w14 f_r_7_w14 c_r_8_w14 f_r_8_w14
        replace x_r := x_r.from_ h_w15
        replace x_v := x_v.from_ h_w15
        replace o_W := o_W.below h_w15
        replace o_L := o_L.below h_w15
        have B_w15 := B_w14.trans (h_w15.mono B_w14.size)
        have s_w15 := h_w15.size
        rw [HT.out]
        clear rv
        have c_v_0_w15 := x_v.cell (i := 0) rfl
        have f_v_0_w15 := x_v.frozen 0
        have c_v_1_w15 := x_v.cell (i := 1) rfl
        have f_v_1_w15 := x_v.frozen 1
        have c_v_2_w15 := x_v.cell (i := 2) rfl
        have f_v_2_w15 := x_v.frozen 2
        have c_v_3_w15 := x_v.cell (i := 3) rfl
        have f_v_3_w15 := x_v.frozen 3
        have c_v_4_w15 := x_v.cell (i := 4) rfl
        have f_v_4_w15 := x_v.frozen 4
        have c_v_5_w15 := x_v.cell (i := 5) rfl
        have f_v_5_w15 := x_v.frozen 5
        have c_v_6_w15 := x_v.cell (i := 6) rfl
        have f_v_6_w15 := x_v.frozen 6
        have c_v_7_w15 := x_v.cell (i := 7) rfl
        have f_v_7_w15 := x_v.frozen 7
        have c_v_8_w15 := x_v.cell (i := 8) rfl
        have f_v_8_w15 := x_v.frozen 8
        have c_r_0_w15 := x_r.cell (i := 0) rfl
        have f_r_0_w15 := x_r.frozen 0
        have c_r_1_w15 := x_r.cell (i := 1) rfl
        have f_r_1_w15 := x_r.frozen 1
        have c_r_2_w15 := x_r.cell (i := 2) rfl
        have f_r_2_w15 := x_r.frozen 2
        have c_r_3_w15 := x_r.cell (i := 3) rfl
        have f_r_3_w15 := x_r.frozen 3
        have c_r_4_w15 := x_r.cell (i := 4) rfl
        have f_r_4_w15 := x_r.frozen 4
        have c_r_5_w15 := x_r.cell (i := 5) rfl
        have f_r_5_w15 := x_r.frozen 5
        have c_r_6_w15 := x_r.cell (i := 6) rfl
        have f_r_6_w15 := x_r.frozen 6
        have c_r_7_w15 := x_r.cell (i := 7) rfl
        have f_r_7_w15 := x_r.frozen 7
        have c_r_8_w15 := x_r.cell (i := 8) rfl
        have f_r_8_w15 := x_r.frozen 8
        by_cases hTs : T = s
        case neg =>
          have hE3 : (T.toList == s.toList) = false := by rw [beq_str]; exact decide_eq_false hTs
          have HF : Hid (textRecB s = false) := by show _ = _; unfold textRecB; rw [HR.out, HOK.out, HT.out]; simpa using hTs
          clear hTs
          have i_r_0 := x_r.same (i := 0) rfl
          have i_r_1 := x_r.same (i := 1) rfl
          have i_r_2 := x_r.same (i := 2) rfl
          have i_r_3 := x_r.same (i := 3) rfl
          have i_r_4 := x_r.same (i := 4) rfl
          have i_r_5 := x_r.same (i := 5) rfl
          have i_r_6 := x_r.same (i := 6) rfl
          have i_r_7 := x_r.same (i := 7) rfl
          have i_r_8 := x_r.same (i := 8) rfl
          have HF2 : Hid (textRec s = recZ) := by show _ = _; unfold textRec; rw [HF.out]; rfl
          go_wp2
          refine ret_cell_tmp (by rfl) (by rfl) x_r Tryd.underlying26 sz_rec (by rfl) ?_
          rw [HF.out, HF2.out]
          exact ⟨_, rfl, ov_rec (d := recZ) (Nat.le_refl _), B_w15⟩
        have hE3 : (T.toList == s.toList) = true := by rw [beq_str]; exact decide_eq_true hTs
        have HF : Hid (textRecB s = true) := by show _ = _; unfold textRecB; rw [HR.out, HOK.out, HT.out]; simpa using hTs
        clear hTs
        have HF2 : Hid (textRec s = ⟨0, l0, 0, 0, l1, ⟨0, 0, 0, 0⟩⟩) := by show _ = _; unfold textRec; rw [HF.out, HR.out]; rfl
        obtain ⟨w16, e_w16, s_w16, h_w16, y⟩ := store_step x_r [.int .i64 0, .int .i64 l0, .int .i64 0, .int .i64 0, .int .i64 l1, .int .i64 0, .int .i64 0, .int .i64 0, .int .i64 0] rfl
        replace e_w16 : (((((((((w15.setCell ⟨w.heap.size, 0, none⟩ (.int .i64 0)).setCell ⟨w.heap.size, 1, none⟩ (.int .i64 l0)).setCell ⟨w.heap.size, 2, none⟩ (.int .i64 0)).setCell ⟨w.heap.size, 3, none⟩ (.int .i64 0)).setCell ⟨w.heap.size, 4, none⟩ (.int .i64 l1)).setCell ⟨w.heap.size, 5, none⟩ (.int .i64 0)).setCell ⟨w.heap.size, 6, none⟩ (.int .i64 0)).setCell ⟨w.heap.size, 7, none⟩ (.int .i64 0)).setCell ⟨w.heap.size, 8, none⟩ (.int .i64 0)) = w16 := e_w16
        have s_w16_1 := Nat.le_of_eq s_w16
        have s_w16_2 := Nat.le_of_eq s_w16.symm
        clear s_w16
        replace x_v := x_v.chg h_w16 (by omega)
        replace o_W := o_W.chg h_w16 (by omega)
        replace o_L := o_L.chg h_w16 (by omega)
        have B_w16 := Below.chg_ B_w15 h_w16 (by omega) (by omega)
        replace x_r : Vr w16 (w.heap.size) 26 [.int .i64 0, .int .i64 l0, .int .i64 0, .int .i64 0, .int .i64 l1, .int .i64 0, .int .i64 0, .int .i64 0, .int .i64 0] := y
        clear y
        have c_r_0_w16 := x_r.cell (i := 0) rfl
        have f_r_0_w16 := x_r.frozen 0
        have c_r_1_w16 := x_r.cell (i := 1) rfl
        have f_r_1_w16 := x_r.frozen 1
        have c_r_2_w16 := x_r.cell (i := 2) rfl
        have f_r_2_w16 := x_r.frozen 2
        have c_r_3_w16 := x_r.cell (i := 3) rfl
        have f_r_3_w16 := x_r.frozen 3
        have c_r_4_w16 := x_r.cell (i := 4) rfl
        have f_r_4_w16 := x_r.frozen 4
        have c_r_5_w16 := x_r.cell (i := 5) rfl
        have f_r_5_w16 := x_r.frozen 5
        have c_r_6_w16 := x_r.cell (i := 6) rfl
        have f_r_6_w16 := x_r.frozen 6
        have c_r_7_w16 := x_r.cell (i := 7) rfl
        have f_r_7_w16 := x_r.frozen 7
        have c_r_8_w16 := x_r.cell (i := 8) rfl
        have f_r_8_w16 := x_r.frozen 8
        go_wp2
        refine ret_cell_tmp (by rfl) (by rfl) x_r Tryd.underlying26 sz_rec (by rfl) ?_
        rw [HF.out, HF2.out]
        exact ⟨_, rfl, ov_rec (d := ⟨0, l0, 0, 0, l1, ⟨0, 0, 0, 0⟩⟩) (Nat.le_refl _), B_w16⟩
    · -- 1
      have c_v_0_wr := x_v.cell (i := 0) rfl
      have f_v_0_wr := x_v.frozen 0
      have c_v_1_wr := x_v.cell (i := 1) rfl
      have f_v_1_wr := x_v.frozen 1
      have c_v_2_wr := x_v.cell (i := 2) rfl
      have f_v_2_wr := x_v.frozen 2
      have c_v_3_wr := x_v.cell (i := 3) rfl
      have f_v_3_wr := x_v.frozen 3
      have c_v_4_wr := x_v.cell (i := 4) rfl
      have f_v_4_wr := x_v.frozen 4
      have c_v_5_wr := x_v.cell (i := 5) rfl
      have f_v_5_wr := x_v.frozen 5
      have c_v_6_wr := x_v.cell (i := 6) rfl
      have f_v_6_wr := x_v.frozen 6
      have c_v_7_wr := x_v.cell (i := 7) rfl
      have f_v_7_wr := x_v.frozen 7
      have c_v_8_wr := x_v.cell (i := 8) rfl
      have f_v_8_wr := x_v.frozen 8
      have c_r_0_wr := x_r.cell (i := 0) rfl
      have f_r_0_wr := x_r.frozen 0
      have c_r_1_wr := x_r.cell (i := 1) rfl
      have f_r_1_wr := x_r.frozen 1
      have c_r_2_wr := x_r.cell (i := 2) rfl
      have f_r_2_wr := x_r.frozen 2
      have c_r_3_wr := x_r.cell (i := 3) rfl
      have f_r_3_wr := x_r.frozen 3
      have c_r_4_wr := x_r.cell (i := 4) rfl
      have f_r_4_wr := x_r.frozen 4
      have c_r_5_wr := x_r.cell (i := 5) rfl
      have f_r_5_wr := x_r.frozen 5
      have c_r_6_wr := x_r.cell (i := 6) rfl
      have f_r_6_wr := x_r.frozen 6
      have c_r_7_wr := x_r.cell (i := 7) rfl
      have f_r_7_wr := x_r.frozen 7
      have c_r_8_wr := x_r.cell (i := 8) rfl
      have f_r_8_wr := x_r.frozen 8
      go_wp2_with fail
      refine (sHas_1 _).mono ?_
      rintro e w' ⟨rfl, rfl⟩
      go_wp2_with fail
      refine (sNums1_c (o_W.rd) hwz2 hwm).mono ?_
      rintro e w11 ⟨vL, rfl, o_L, h_w11⟩
      clear c_v_0_wr f_v_0_wr c_v_1_wr f_v_1_wr c_v_2_wr f_v_2_wr c_v_3_wr f_v_3_wr c_v_4_wr f_v_4_wr c_v_5_wr f_v_5_wr c_v_6_wr f_v_6_wr c_v_7_wr f_v_7_wr c_v_8_wr f_v_8_wr c_r_0_wr f_r_0_wr c_r_1_wr f_r_1_wr c_r_2_wr f_r_2_wr c_r_3_wr f_r_3_wr c_r_4_wr f_r_4_wr c_r_5_wr f_r_5_wr c_r_6_wr f_r_6_wr c_r_7_wr f_r_7_wr c_r_8_wr f_r_8_wr
      replace x_r := x_r.from_ h_w11
      replace x_v := x_v.from_ h_w11
      replace o_W := o_W.below h_w11
      have B_w11 := HB.trans (h_w11.mono HB.size)
      have s_w11 := h_w11.size
      rw [HL.out] at o_L
      obtain ⟨bL, cL, rfl⟩ := own_slice64 o_L (by omega)
      have j0 : (0 : Int) < (L.length : Int) := by omega
      have j1 : (1 : Int) < (L.length : Int) := by omega
      have j2 : (2 : Int) < (L.length : Int) := by omega
      have j3 : (3 : Int) < (L.length : Int) := by omega
      have d0 := o_L.1.cell_ (j := 0) (by omega)
      rw [HL0.out] at d0
      have c_v_0_w11 := x_v.cell (i := 0) rfl
      have f_v_0_w11 := x_v.frozen 0
      have c_v_1_w11 := x_v.cell (i := 1) rfl
      have f_v_1_w11 := x_v.frozen 1
      have c_v_2_w11 := x_v.cell (i := 2) rfl
      have f_v_2_w11 := x_v.frozen 2
      have c_v_3_w11 := x_v.cell (i := 3) rfl
      have f_v_3_w11 := x_v.frozen 3
      have c_v_4_w11 := x_v.cell (i := 4) rfl
      have f_v_4_w11 := x_v.frozen 4
      have c_v_5_w11 := x_v.cell (i := 5) rfl
      have f_v_5_w11 := x_v.frozen 5
      have c_v_6_w11 := x_v.cell (i := 6) rfl
      have f_v_6_w11 := x_v.frozen 6
      have c_v_7_w11 := x_v.cell (i := 7) rfl
      have f_v_7_w11 := x_v.frozen 7
      have c_v_8_w11 := x_v.cell (i := 8) rfl
      have f_v_8_w11 := x_v.frozen 8
      have c_r_0_w11 := x_r.cell (i := 0) rfl
      have f_r_0_w11 := x_r.frozen 0
      have c_r_1_w11 := x_r.cell (i := 1) rfl
      have f_r_1_w11 := x_r.frozen 1
      have c_r_2_w11 := x_r.cell (i := 2) rfl
      have f_r_2_w11 := x_r.frozen 2
      have c_r_3_w11 := x_r.cell (i := 3) rfl
      have f_r_3_w11 := x_r.frozen 3
      have c_r_4_w11 := x_r.cell (i := 4) rfl
      have f_r_4_w11 := x_r.frozen 4
      have c_r_5_w11 := x_r.cell (i := 5) rfl
      have f_r_5_w11 := x_r.frozen 5
      have c_r_6_w11 := x_r.cell (i := 6) rfl
      have f_r_6_w11 := x_r.frozen 6
      have c_r_7_w11 := x_r.cell (i := 7) rfl
      have f_r_7_w11 := x_r.frozen 7
      have c_r_8_w11 := x_r.cell (i := 8) rfl
      have f_r_8_w11 := x_r.frozen 8
      obtain ⟨w12, e_w12, s_w12, h_w12, y⟩ := set_step x_v 1 (.int .i64 l0)
      have s_w12_1 := Nat.le_of_eq s_w12
      have s_w12_2 := Nat.le_of_eq s_w12.symm
      clear s_w12
      replace x_r := x_r.chg h_w12 (by omega)
      replace o_W := o_W.chg h_w12 (by omega)
      replace o_L := o_L.chg h_w12 (by omega)
      have B_w12 := Below.chg_ B_w11 h_w12 (by omega) (by omega)
      replace x_v : Vr w12 (w1.heap.size) 26 [.int .i64 1, .int .i64 l0, .int .i64 0, .int .i64 0, .int .i64 0, .int .i64 0, .int .i64 0, .int .i64 0, .int .i64 0] := y
      clear y
      have d1 := o_L.1.cell_ (j := 1) (by omega)
      rw [HL1.out] at d1
      have c_v_0_w12 := x_v.cell (i := 0) rfl
      have f_v_0_w12 := x_v.frozen 0
      have c_v_1_w12 := x_v.cell (i := 1) rfl
      have f_v_1_w12 := x_v.frozen 1
      have c_v_2_w12 := x_v.cell (i := 2) rfl
      have f_v_2_w12 := x_v.frozen 2
      have c_v_3_w12 := x_v.cell (i := 3) rfl
      have f_v_3_w12 := x_v.frozen 3
      have c_v_4_w12 := x_v.cell (i := 4) rfl
      have f_v_4_w12 := x_v.frozen 4
      have c_v_5_w12 := x_v.cell (i := 5) rfl
      have f_v_5_w12 := x_v.frozen 5
      have c_v_6_w12 := x_v.cell (i := 6) rfl
      have f_v_6_w12 := x_v.frozen 6
      have c_v_7_w12 := x_v.cell (i := 7) rfl
      have f_v_7_w12 := x_v.frozen 7
      have c_v_8_w12 := x_v.cell (i := 8) rfl
      have f_v_8_w12 := x_v.frozen 8
      have c_r_0_w12 := x_r.cell (i := 0) rfl
      have f_r_0_w12 := x_r.frozen 0
      have c_r_1_w12 := x_r.cell (i := 1) rfl
      have f_r_1_w12 := x_r.frozen 1
      have c_r_2_w12 := x_r.cell (i := 2) rfl
      have f_r_2_w12 := x_r.frozen 2
      have c_r_3_w12 := x_r.cell (i := 3) rfl
      have f_r_3_w12 := x_r.frozen 3
      have c_r_4_w12 := x_r.cell (i := 4) rfl
      have f_r_4_w12 := x_r.frozen 4
      have c_r_5_w12 := x_r.cell (i := 5) rfl
      have f_r_5_w12 := x_r.frozen 5
      have c_r_6_w12 := x_r.cell (i := 6) rfl
      have f_r_6_w12 := x_r.frozen 6
      have c_r_7_w12 := x_r.cell (i := 7) rfl
      have f_r_7_w12 := x_r.frozen 7
      have c_r_8_w12 := x_r.cell (i := 8) rfl
      have f_r_8_w12 := x_r.frozen 8
      obtain ⟨w13, e_w13, s_w13, h_w13, y⟩ := set_step x_v 4 (.int .i64 l1)
      have s_w13_1 := Nat.le_of_eq s_w13
      have s_w13_2 := Nat.le_of_eq s_w13.symm
      clear s_w13
      replace x_r := x_r.chg h_w13 (by omega)
      replace o_W := o_W.chg h_w13 (by omega)
      replace o_L := o_L.chg h_w13 (by omega)
      have B_w13 := Below.chg_ B_w12 h_w13 (by omega) (by omega)
      replace x_v : Vr w13 (w1.heap.size) 26 [.int .i64 1, .int .i64 l0, .int .i64 0, .int .i64 0, .int .i64 l1, .int .i64 0, .int .i64 0, .int .i64 0, .int .i64 0] := y
      clear y
      have c_v_0_w13 := x_v.cell (i := 0) rfl
      have f_v_0_w13 := x_v.frozen 0
      have c_v_1_w13 := x_v.cell (i := 1) rfl
      have f_v_1_w13 := x_v.frozen 1
      have c_v_2_w13 := x_v.cell (i := 2) rfl
      have f_v_2_w13 := x_v.frozen 2
      have c_v_3_w13 := x_v.cell (i := 3) rfl
      have f_v_3_w13 := x_v.frozen 3
      have c_v_4_w13 := x_v.cell (i := 4) rfl
      have f_v_4_w13 := x_v.frozen 4
      have c_v_5_w13 := x_v.cell (i := 5) rfl
      have f_v_5_w13 := x_v.frozen 5
      have c_v_6_w13 := x_v.cell (i := 6) rfl
      have f_v_6_w13 := x_v.frozen 6
      have c_v_7_w13 := x_v.cell (i := 7) rfl
      have f_v_7_w13 := x_v.frozen 7
      have c_v_8_w13 := x_v.cell (i := 8) rfl
      have f_v_8_w13 := x_v.frozen 8
      have c_r_0_w13 := x_r.cell (i := 0) rfl
      have f_r_0_w13 := x_r.frozen 0
      have c_r_1_w13 := x_r.cell (i := 1) rfl
      have f_r_1_w13 := x_r.frozen 1
      have c_r_2_w13 := x_r.cell (i := 2) rfl
      have f_r_2_w13 := x_r.frozen 2
      have c_r_3_w13 := x_r.cell (i := 3) rfl
      have f_r_3_w13 := x_r.frozen 3
      have c_r_4_w13 := x_r.cell (i := 4) rfl
      have f_r_4_w13 := x_r.frozen 4
      have c_r_5_w13 := x_r.cell (i := 5) rfl
      have f_r_5_w13 := x_r.frozen 5
      have c_r_6_w13 := x_r.cell (i := 6) rfl
      have f_r_6_w13 := x_r.frozen 6
      have c_r_7_w13 := x_r.cell (i := 7) rfl
      have f_r_7_w13 := x_r.frozen 7
      have c_r_8_w13 := x_r.cell (i := 8) rfl
      have f_r_8_w13 := x_r.frozen 8
      have HR : Hid (recOf (splitL s 32) = ⟨1, l0, 0, 0, l1, ⟨0, 0, 0, 0⟩⟩) := by
        show _ = _
        unfold recOf
        rw [HWS.out, HX.out, HK.out, HL.out, ← HL0.out, ← HL1.out]
        rfl
      obtain ⟨T, hT⟩ : ∃ T, recText ⟨1, l0, 0, 0, l1, ⟨0, 0, 0, 0⟩⟩ = T := ⟨_, rfl⟩
      obtain ⟨ok, hok⟩ : ∃ b, recOkB ⟨1, l0, 0, 0, l1, ⟨0, 0, 0, 0⟩⟩ = b := ⟨_, rfl⟩
      have hE := str_empty T
      have hE1 := recText_empty ⟨1, l0, 0, 0, l1, ⟨0, 0, 0, 0⟩⟩
      rw [hT, hok] at hE1
      rw [hE1] at hE
      clear hE1
      have HT := Lib.hid hT
      have HOK := Lib.hid hok
      clear hT hok
      have rv : RV recL w13 (.agg #[.int .i64 1, .int .i64 l0, .int .i64 0, .int .i64 0, .int .i64 l1, .int .i64 0, .int .i64 0, .int .i64 0, .int .i64 0]) ⟨1, l0, 0, 0, l1, ⟨0, 0, 0, 0⟩⟩ := rv_rec_mk (zM := ⟨0, 0, 0, 0⟩)
      go_wp2_with fail
      refine (sRecText_c rv).mono ?_
      rintro e w14 ⟨rfl, h_w14⟩
      clear c_v_0_w11 f_v_0_w11 c_v_1_w11 f_v_1_w11 c_v_2_w11 f_v_2_w11 c_v_3_w11 f_v_3_w11 c_v_4_w11 f_v_4_w11 c_v_5_w11 f_v_5_w11 c_v_6_w11 f_v_6_w11 c_v_7_w11 f_v_7_w11 c_v_8_w11 f_v_8_w11 c_r_0_w11 f_r_0_w11 c_r_1_w11 f_r_1_w11 c_r_2_w11 f_r_2_w11 c_r_3_w11 f_r_3_w11 c_r_4_w11 f_r_4_w11 c_r_5_w11 f_r_5_w11 c_r_6_w11 f_r_6_w11 c_r_7_w11 f_r_7_w11 c_r_8_w11 f_r_8_w11 d0 c_v_0_w12 f_v_0_w12 c_v_1_w12 f_v_1_w12 c_v_2_w12 f_v_2_w12 c_v_3_w12 f_v_3_w12 c_v_4_w12 f_v_4_w12 c_v_5_w12 f_v_5_w12 c_v_6_w12 f_v_6_w12 c_v_7_w12 f_v_7_w12 c_v_8_w12 f_v_8_w12 c_r_0_w12 f_r_0_w12 c_r_1_w12 f_r_1_w12 c_r_2_w12 f_r_2_w12 c_r_3_w12 f_r_3_w12 c_r_4_w12 f_r_4_w12 c_r_5_w12 f_r_5_w12 c_r_6_w12 f_r_6_w12 c_r_7_w12 f_r_7_w12 c_r_8_w12 f_r_8_w12 d1 c_v_0_w13 f_v_0_w13 c_v_1_w13 f_v_1_w13 c_v_2_w13 f_v_2_w13 c_v_3_w13 f_v_3_w13 c_v_4_w13 f_v_4_w13 c_v_5_w13 f_v_5_w13 c_v_6_w13 f_v_6_w13 c_v_7_w13 f_v_7_w13 c_v_8_w13 f_v_8_w13 c_r_0_w13 f_r_0_w13 c_r_1_w13 f_r_1_w13 c_r_2_w13 f_r_2_w13 c_r_3_w13 f_r_3_w13 c_r_4_w13 f_r_4_w13 c_r_5_w13 f_r_5_w13 c_r_6_w13 f_r_6_w13 c_r_7_w13 f_r_7_w13 c_r_8_w13 f_r_8_w13
      replace x_r := x_r.from_ h_w14
      replace x_v := x_v.from_ h_w14
      replace o_W := o_W.below h_w14
      replace o_L := o_L.below h_w14
      have B_w14 := B_w13.trans (h_w14.mono B_w13.size)
      have s_w14 := h_w14.size
      rw [HT.out]
      clear rv
      have c_v_0_w14 := x_v.cell (i := 0) rfl
      have f_v_0_w14 := x_v.frozen 0
      have c_v_1_w14 := x_v.cell (i := 1) rfl
      have f_v_1_w14 := x_v.frozen 1
      have c_v_2_w14 := x_v.cell (i := 2) rfl
      have f_v_2_w14 := x_v.frozen 2
      have c_v_3_w14 := x_v.cell (i := 3) rfl
      have f_v_3_w14 := x_v.frozen 3
      have c_v_4_w14 := x_v.cell (i := 4) rfl
      have f_v_4_w14 := x_v.frozen 4
      have c_v_5_w14 := x_v.cell (i := 5) rfl
      have f_v_5_w14 := x_v.frozen 5
      have c_v_6_w14 := x_v.cell (i := 6) rfl
      have f_v_6_w14 := x_v.frozen 6
      have c_v_7_w14 := x_v.cell (i := 7) rfl
      have f_v_7_w14 := x_v.frozen 7
      have c_v_8_w14 := x_v.cell (i := 8) rfl
      have f_v_8_w14 := x_v.frozen 8
      have c_r_0_w14 := x_r.cell (i := 0) rfl
      have f_r_0_w14 := x_r.frozen 0
      have c_r_1_w14 := x_r.cell (i := 1) rfl
      have f_r_1_w14 := x_r.frozen 1
      have c_r_2_w14 := x_r.cell (i := 2) rfl
      have f_r_2_w14 := x_r.frozen 2
      have c_r_3_w14 := x_r.cell (i := 3) rfl
      have f_r_3_w14 := x_r.frozen 3
      have c_r_4_w14 := x_r.cell (i := 4) rfl
      have f_r_4_w14 := x_r.frozen 4
      have c_r_5_w14 := x_r.cell (i := 5) rfl
      have f_r_5_w14 := x_r.frozen 5
      have c_r_6_w14 := x_r.cell (i := 6) rfl
      have f_r_6_w14 := x_r.frozen 6
      have c_r_7_w14 := x_r.cell (i := 7) rfl
      have f_r_7_w14 := x_r.frozen 7
      have c_r_8_w14 := x_r.cell (i := 8) rfl
      have f_r_8_w14 := x_r.frozen 8
      cases ok
      case false =>
        have hE2 : (T.toList == []) = true := hE
        clear hE
        have HF : Hid (textRecB s = false) := by show _ = _; unfold textRecB; rw [HR.out, HOK.out]; rfl
        have i_r_0 := x_r.same (i := 0) rfl
        have i_r_1 := x_r.same (i := 1) rfl
        have i_r_2 := x_r.same (i := 2) rfl
        have i_r_3 := x_r.same (i := 3) rfl
        have i_r_4 := x_r.same (i := 4) rfl
        have i_r_5 := x_r.same (i := 5) rfl
        have i_r_6 := x_r.same (i := 6) rfl
        have i_r_7 := x_r.same (i := 7) rfl
        have i_r_8 := x_r.same (i := 8) rfl
        have HF2 : Hid (textRec s = recZ) := by show _ = _; unfold textRec; rw [HF.out]; rfl
        go_wp2
        refine ret_cell_tmp (by rfl) (by rfl) x_r Tryd.underlying26 sz_rec (by rfl) ?_
        rw [HF.out, HF2.out]
        exact ⟨_, rfl, ov_rec (d := recZ) (Nat.le_refl _), B_w14⟩
      case true =>
        have hE2 : (T.toList == []) = false := hE
        clear hE
        have rv : RV recL w14 (.agg #[.int .i64 1, .int .i64 l0, .int .i64 0, .int .i64 0, .int .i64 l1, .int .i64 0, .int .i64 0, .int .i64 0, .int .i64 0]) ⟨1, l0, 0, 0, l1, ⟨0, 0, 0, 0⟩⟩ := rv_rec_mk (zM := ⟨0, 0, 0, 0⟩)
        go_wp2_with fail
        refine (sRecText_c rv).mono ?_
        rintro e w15 ⟨rfl, h_w15⟩
        clear c_v_0_w14 f_v_0_w14 c_v_1_w14 f_v_1_w14 c_v_2_w14 f_v_2_w14 c_v_3_w14 f_v_3_w14 c_v_4_w14 f_v_4_w14 c_v_5_w14 f_v_5_w14 c_v_6_w14 f_v_6_w14 c_v_7_w14 f_v_7_w14 c_v_8_w14 f_v_8_w14 c_r_0_w14 f_r_0_w14 c_r_1_w14 f_r_1_w14 c_r_2_w14 f_r_2_w14 c_r_3_w14 f_r_3_w14 c_r_4_w14 f_r_4_w14 c_r_5_w14 f_r_5_w14 c_r_6_w14 f_r_6_w14 c_r_7_w14 f_r_7_w14 c_r_8_w14 f_r_8_w14
        replace x_r := x_r.from_ h_w15
        replace x_v := x_v.from_ h_w15
        replace o_W := o_W.below h_w15
        replace o_L := o_L.below h_w15
        have B_w15 := B_w14.trans (h_w15.mono B_w14.size)
        have s_w15 := h_w15.size
        rw [HT.out]
        clear rv
        have c_v_0_w15 := x_v.cell (i := 0) rfl
        have f_v_0_w15 := x_v.frozen 0
        have c_v_1_w15 := x_v.cell (i := 1) rfl
        have f_v_1_w15 := x_v.frozen 1
        have c_v_2_w15 := x_v.cell (i := 2) rfl
        have f_v_2_w15 := x_v.frozen 2
        have c_v_3_w15 := x_v.cell (i := 3) rfl
        have f_v_3_w15 := x_v.frozen 3
        have c_v_4_w15 := x_v.cell (i := 4) rfl
        have f_v_4_w15 := x_v.frozen 4
        have c_v_5_w15 := x_v.cell (i := 5) rfl
        have f_v_5_w15 := x_v.frozen 5
        have c_v_6_w15 := x_v.cell (i := 6) rfl
        have f_v_6_w15 := x_v.frozen 6
        have c_v_7_w15 := x_v.cell (i := 7) rfl
        have f_v_7_w15 := x_v.frozen 7
        have c_v_8_w15 := x_v.cell (i := 8) rfl
        have f_v_8_w15 := x_v.frozen 8
        have c_r_0_w15 := x_r.cell (i := 0) rfl
        have f_r_0_w15 := x_r.frozen 0
        have c_r_1_w15 := x_r.cell (i := 1) rfl
        have f_r_1_w15 := x_r.frozen 1
        have c_r_2_w15 := x_r.cell (i := 2) rfl
        have f_r_2_w15 := x_r.frozen 2
        have c_r_3_w15 := x_r.cell (i := 3) rfl
        have f_r_3_w15 := x_r.frozen 3
        have c_r_4_w15 := x_r.cell (i := 4) rfl
        have f_r_4_w15 := x_r.frozen 4
        have c_r_5_w15 := x_r.cell (i := 5) rfl
        have f_r_5_w15 := x_r.frozen 5
        have c_r_6_w15 := x_r.cell (i := 6) rfl
        have f_r_6_w15 := x_r.frozen 6
        have c_r_7_w15 := x_r.cell (i := 7) rfl
        have f_r_7_w15 := x_r.frozen 7
        have c_r_8_w15 := x_r.cell (i := 8) rfl
        have f_r_8_w15 := x_r.frozen 8
        by_cases hTs : T = s
        case neg =>
          have hE3 : (T.toList == s.toList) = false := by rw [beq_str]; exact decide_eq_false hTs
          have HF : Hid (textRecB s = false) := by show _ = _; unfold textRecB; rw [HR.out, HOK.out, HT.out]; simpa using hTs
          clear hTs
          have i_r_0 := x_r.same (i := 0) rfl
          have i_r_1 := x_r.same (i := 1) rfl
          have i_r_2 := x_r.same (i := 2) rfl
          have i_r_3 := x_r.same (i := 3) rfl
          have i_r_4 := x_r.same (i := 4) rfl
          have i_r_5 := x_r.same (i := 5) rfl
          have i_r_6 := x_r.same (i := 6) rfl
          have i_r_7 := x_r.same (i := 7) rfl
          have i_r_8 := x_r.same (i := 8) rfl
          have HF2 : Hid (textRec s = recZ) := by show _ = _; unfold textRec; rw [HF.out]; rfl
          go_wp2
          refine ret_cell_tmp (by rfl) (by rfl) x_r Tryd.underlying26 sz_rec (by rfl) ?_
          rw [HF.out, HF2.out]
          exact ⟨_, rfl, ov_rec (d := recZ) (Nat.le_refl _), B_w15⟩
        have hE3 : (T.toList == s.toList) = true := by rw [beq_str]; exact decide_eq_true hTs
        have HF : Hid (textRecB s = true) := by show _ = _; unfold textRecB; rw [HR.out, HOK.out, HT.out]; simpa using hTs
        clear hTs
        have HF2 : Hid (textRec s = ⟨1, l0, 0, 0, l1, ⟨0, 0, 0, 0⟩⟩) := by show _ = _; unfold textRec; rw [HF.out, HR.out]; rfl
        obtain ⟨w16, e_w16, s_w16, h_w16, y⟩ := store_step x_r [.int .i64 1, .int .i64 l0, .int .i64 0, .int .i64 0, .int .i64 l1, .int .i64 0, .int .i64 0, .int .i64 0, .int .i64 0] rfl
        replace e_w16 : (((((((((w15.setCell ⟨w.heap.size, 0, none⟩ (.int .i64 1)).setCell ⟨w.heap.size, 1, none⟩ (.int .i64 l0)).setCell ⟨w.heap.size, 2, none⟩ (.int .i64 0)).setCell ⟨w.heap.size, 3, none⟩ (.int .i64 0)).setCell ⟨w.heap.size, 4, none⟩ (.int .i64 l1)).setCell ⟨w.heap.size, 5, none⟩ (.int .i64 0)).setCell ⟨w.heap.size, 6, none⟩ (.int .i64 0)).setCell ⟨w.heap.size, 7, none⟩ (.int .i64 0)).setCell ⟨w.heap.size, 8, none⟩ (.int .i64 0)) = w16 := e_w16
        have s_w16_1 := Nat.le_of_eq s_w16
        have s_w16_2 := Nat.le_of_eq s_w16.symm
        clear s_w16
        replace x_v := x_v.chg h_w16 (by omega)
        replace o_W := o_W.chg h_w16 (by omega)
        replace o_L := o_L.chg h_w16 (by omega)
        have B_w16 := Below.chg_ B_w15 h_w16 (by omega) (by omega)
        replace x_r : Vr w16 (w.heap.size) 26 [.int .i64 1, .int .i64 l0, .int .i64 0, .int .i64 0, .int .i64 l1, .int .i64 0, .int .i64 0, .int .i64 0, .int .i64 0] := y
        clear y
        have c_r_0_w16 := x_r.cell (i := 0) rfl
        have f_r_0_w16 := x_r.frozen 0
        have c_r_1_w16 := x_r.cell (i := 1) rfl
        have f_r_1_w16 := x_r.frozen 1
        have c_r_2_w16 := x_r.cell (i := 2) rfl
        have f_r_2_w16 := x_r.frozen 2
        have c_r_3_w16 := x_r.cell (i := 3) rfl
        have f_r_3_w16 := x_r.frozen 3
        have c_r_4_w16 := x_r.cell (i := 4) rfl
        have f_r_4_w16 := x_r.frozen 4
        have c_r_5_w16 := x_r.cell (i := 5) rfl
        have f_r_5_w16 := x_r.frozen 5
        have c_r_6_w16 := x_r.cell (i := 6) rfl
        have f_r_6_w16 := x_r.frozen 6
        have c_r_7_w16 := x_r.cell (i := 7) rfl
        have f_r_7_w16 := x_r.frozen 7
        have c_r_8_w16 := x_r.cell (i := 8) rfl
        have f_r_8_w16 := x_r.frozen 8
        go_wp2
        refine ret_cell_tmp (by rfl) (by rfl) x_r Tryd.underlying26 sz_rec (by rfl) ?_
        rw [HF.out, HF2.out]
        exact ⟨_, rfl, ov_rec (d := ⟨1, l0, 0, 0, l1, ⟨0, 0, 0, 0⟩⟩) (Nat.le_refl _), B_w16⟩
    · -- 2
      have c_v_0_wr := x_v.cell (i := 0) rfl
      have f_v_0_wr := x_v.frozen 0
      have c_v_1_wr := x_v.cell (i := 1) rfl
      have f_v_1_wr := x_v.frozen 1
      have c_v_2_wr := x_v.cell (i := 2) rfl
      have f_v_2_wr := x_v.frozen 2
      have c_v_3_wr := x_v.cell (i := 3) rfl
      have f_v_3_wr := x_v.frozen 3
      have c_v_4_wr := x_v.cell (i := 4) rfl
      have f_v_4_wr := x_v.frozen 4
      have c_v_5_wr := x_v.cell (i := 5) rfl
      have f_v_5_wr := x_v.frozen 5
      have c_v_6_wr := x_v.cell (i := 6) rfl
      have f_v_6_wr := x_v.frozen 6
      have c_v_7_wr := x_v.cell (i := 7) rfl
      have f_v_7_wr := x_v.frozen 7
      have c_v_8_wr := x_v.cell (i := 8) rfl
      have f_v_8_wr := x_v.frozen 8
      have c_r_0_wr := x_r.cell (i := 0) rfl
      have f_r_0_wr := x_r.frozen 0
      have c_r_1_wr := x_r.cell (i := 1) rfl
      have f_r_1_wr := x_r.frozen 1
      have c_r_2_wr := x_r.cell (i := 2) rfl
      have f_r_2_wr := x_r.frozen 2
      have c_r_3_wr := x_r.cell (i := 3) rfl
      have f_r_3_wr := x_r.frozen 3
      have c_r_4_wr := x_r.cell (i := 4) rfl
      have f_r_4_wr := x_r.frozen 4
      have c_r_5_wr := x_r.cell (i := 5) rfl
      have f_r_5_wr := x_r.frozen 5
      have c_r_6_wr := x_r.cell (i := 6) rfl
      have f_r_6_wr := x_r.frozen 6
      have c_r_7_wr := x_r.cell (i := 7) rfl
      have f_r_7_wr := x_r.frozen 7
      have c_r_8_wr := x_r.cell (i := 8) rfl
      have f_r_8_wr := x_r.frozen 8
      go_wp2_with fail
      refine (sHas_2 _).mono ?_
      rintro e w' ⟨rfl, rfl⟩
      go_wp2_with fail
      refine (sNums1_c (o_W.rd) hwz2 hwm).mono ?_
      rintro e w11 ⟨vL, rfl, o_L, h_w11⟩
      clear c_v_0_wr f_v_0_wr c_v_1_wr f_v_1_wr c_v_2_wr f_v_2_wr c_v_3_wr f_v_3_wr c_v_4_wr f_v_4_wr c_v_5_wr f_v_5_wr c_v_6_wr f_v_6_wr c_v_7_wr f_v_7_wr c_v_8_wr f_v_8_wr c_r_0_wr f_r_0_wr c_r_1_wr f_r_1_wr c_r_2_wr f_r_2_wr c_r_3_wr f_r_3_wr c_r_4_wr f_r_4_wr c_r_5_wr f_r_5_wr c_r_6_wr f_r_6_wr c_r_7_wr f_r_7_wr c_r_8_wr f_r_8_wr
      replace x_r := x_r.from_ h_w11
      replace x_v := x_v.from_ h_w11
      replace o_W := o_W.below h_w11
      have B_w11 := HB.trans (h_w11.mono HB.size)
      have s_w11 := h_w11.size
      rw [HL.out] at o_L
      obtain ⟨bL, cL, rfl⟩ := own_slice64 o_L (by omega)
      have j0 : (0 : Int) < (L.length : Int) := by omega
      have j1 : (1 : Int) < (L.length : Int) := by omega
      have j2 : (2 : Int) < (L.length : Int) := by omega
      have j3 : (3 : Int) < (L.length : Int) := by omega
      have d0 := o_L.1.cell_ (j := 0) (by omega)
      rw [HL0.out] at d0
      have c_v_0_w11 := x_v.cell (i := 0) rfl
      have f_v_0_w11 := x_v.frozen 0
      have c_v_1_w11 := x_v.cell (i := 1) rfl
      have f_v_1_w11 := x_v.frozen 1
      have c_v_2_w11 := x_v.cell (i := 2) rfl
      have f_v_2_w11 := x_v.frozen 2
      have c_v_3_w11 := x_v.cell (i := 3) rfl
      have f_v_3_w11 := x_v.frozen 3
      have c_v_4_w11 := x_v.cell (i := 4) rfl
      have f_v_4_w11 := x_v.frozen 4
      have c_v_5_w11 := x_v.cell (i := 5) rfl
      have f_v_5_w11 := x_v.frozen 5
      have c_v_6_w11 := x_v.cell (i := 6) rfl
      have f_v_6_w11 := x_v.frozen 6
      have c_v_7_w11 := x_v.cell (i := 7) rfl
      have f_v_7_w11 := x_v.frozen 7
      have c_v_8_w11 := x_v.cell (i := 8) rfl
      have f_v_8_w11 := x_v.frozen 8
      have c_r_0_w11 := x_r.cell (i := 0) rfl
      have f_r_0_w11 := x_r.frozen 0
      have c_r_1_w11 := x_r.cell (i := 1) rfl
      have f_r_1_w11 := x_r.frozen 1
      have c_r_2_w11 := x_r.cell (i := 2) rfl
      have f_r_2_w11 := x_r.frozen 2
      have c_r_3_w11 := x_r.cell (i := 3) rfl
      have f_r_3_w11 := x_r.frozen 3
      have c_r_4_w11 := x_r.cell (i := 4) rfl
      have f_r_4_w11 := x_r.frozen 4
      have c_r_5_w11 := x_r.cell (i := 5) rfl
      have f_r_5_w11 := x_r.frozen 5
      have c_r_6_w11 := x_r.cell (i := 6) rfl
      have f_r_6_w11 := x_r.frozen 6
      have c_r_7_w11 := x_r.cell (i := 7) rfl
      have f_r_7_w11 := x_r.frozen 7
      have c_r_8_w11 := x_r.cell (i := 8) rfl
      have f_r_8_w11 := x_r.frozen 8
      obtain ⟨w12, e_w12, s_w12, h_w12, y⟩ := set_step x_v 1 (.int .i64 l0)
      have s_w12_1 := Nat.le_of_eq s_w12
      have s_w12_2 := Nat.le_of_eq s_w12.symm
      clear s_w12
      replace x_r := x_r.chg h_w12 (by omega)
      replace o_W := o_W.chg h_w12 (by omega)
      replace o_L := o_L.chg h_w12 (by omega)
      have B_w12 := Below.chg_ B_w11 h_w12 (by omega) (by omega)
      replace x_v : Vr w12 (w1.heap.size) 26 [.int .i64 2, .int .i64 l0, .int .i64 0, .int .i64 0, .int .i64 0, .int .i64 0, .int .i64 0, .int .i64 0, .int .i64 0] := y
      clear y
      have d1 := o_L.1.cell_ (j := 1) (by omega)
      rw [HL1.out] at d1
      have c_v_0_w12 := x_v.cell (i := 0) rfl
      have f_v_0_w12 := x_v.frozen 0
      have c_v_1_w12 := x_v.cell (i := 1) rfl
      have f_v_1_w12 := x_v.frozen 1
      have c_v_2_w12 := x_v.cell (i := 2) rfl
      have f_v_2_w12 := x_v.frozen 2
      have c_v_3_w12 := x_v.cell (i := 3) rfl
      have f_v_3_w12 := x_v.frozen 3
      have c_v_4_w12 := x_v.cell (i := 4) rfl
      have f_v_4_w12 := x_v.frozen 4
      have c_v_5_w12 := x_v.cell (i := 5) rfl
      have f_v_5_w12 := x_v.frozen 5
      have c_v_6_w12 := x_v.cell (i := 6) rfl
      have f_v_6_w12 := x_v.frozen 6
      have c_v_7_w12 := x_v.cell (i := 7) rfl
      have f_v_7_w12 := x_v.frozen 7
      have c_v_8_w12 := x_v.cell (i := 8) rfl
      have f_v_8_w12 := x_v.frozen 8
      have c_r_0_w12 := x_r.cell (i := 0) rfl
      have f_r_0_w12 := x_r.frozen 0
      have c_r_1_w12 := x_r.cell (i := 1) rfl
      have f_r_1_w12 := x_r.frozen 1
      have c_r_2_w12 := x_r.cell (i := 2) rfl
      have f_r_2_w12 := x_r.frozen 2
      have c_r_3_w12 := x_r.cell (i := 3) rfl
      have f_r_3_w12 := x_r.frozen 3
      have c_r_4_w12 := x_r.cell (i := 4) rfl
      have f_r_4_w12 := x_r.frozen 4
      have c_r_5_w12 := x_r.cell (i := 5) rfl
      have f_r_5_w12 := x_r.frozen 5
      have c_r_6_w12 := x_r.cell (i := 6) rfl
      have f_r_6_w12 := x_r.frozen 6
      have c_r_7_w12 := x_r.cell (i := 7) rfl
      have f_r_7_w12 := x_r.frozen 7
      have c_r_8_w12 := x_r.cell (i := 8) rfl
      have f_r_8_w12 := x_r.frozen 8
      obtain ⟨w13, e_w13, s_w13, h_w13, y⟩ := set_step x_v 4 (.int .i64 l1)
      have s_w13_1 := Nat.le_of_eq s_w13
      have s_w13_2 := Nat.le_of_eq s_w13.symm
      clear s_w13
      replace x_r := x_r.chg h_w13 (by omega)
      replace o_W := o_W.chg h_w13 (by omega)
      replace o_L := o_L.chg h_w13 (by omega)
      have B_w13 := Below.chg_ B_w12 h_w13 (by omega) (by omega)
      replace x_v : Vr w13 (w1.heap.size) 26 [.int .i64 2, .int .i64 l0, .int .i64 0, .int .i64 0, .int .i64 l1, .int .i64 0, .int .i64 0, .int .i64 0, .int .i64 0] := y
      clear y
      have c_v_0_w13 := x_v.cell (i := 0) rfl
      have f_v_0_w13 := x_v.frozen 0
      have c_v_1_w13 := x_v.cell (i := 1) rfl
      have f_v_1_w13 := x_v.frozen 1
      have c_v_2_w13 := x_v.cell (i := 2) rfl
      have f_v_2_w13 := x_v.frozen 2
      have c_v_3_w13 := x_v.cell (i := 3) rfl
      have f_v_3_w13 := x_v.frozen 3
      have c_v_4_w13 := x_v.cell (i := 4) rfl
      have f_v_4_w13 := x_v.frozen 4
      have c_v_5_w13 := x_v.cell (i := 5) rfl
      have f_v_5_w13 := x_v.frozen 5
      have c_v_6_w13 := x_v.cell (i := 6) rfl
      have f_v_6_w13 := x_v.frozen 6
      have c_v_7_w13 := x_v.cell (i := 7) rfl
      have f_v_7_w13 := x_v.frozen 7
      have c_v_8_w13 := x_v.cell (i := 8) rfl
      have f_v_8_w13 := x_v.frozen 8
      have c_r_0_w13 := x_r.cell (i := 0) rfl
      have f_r_0_w13 := x_r.frozen 0
      have c_r_1_w13 := x_r.cell (i := 1) rfl
      have f_r_1_w13 := x_r.frozen 1
      have c_r_2_w13 := x_r.cell (i := 2) rfl
      have f_r_2_w13 := x_r.frozen 2
      have c_r_3_w13 := x_r.cell (i := 3) rfl
      have f_r_3_w13 := x_r.frozen 3
      have c_r_4_w13 := x_r.cell (i := 4) rfl
      have f_r_4_w13 := x_r.frozen 4
      have c_r_5_w13 := x_r.cell (i := 5) rfl
      have f_r_5_w13 := x_r.frozen 5
      have c_r_6_w13 := x_r.cell (i := 6) rfl
      have f_r_6_w13 := x_r.frozen 6
      have c_r_7_w13 := x_r.cell (i := 7) rfl
      have f_r_7_w13 := x_r.frozen 7
      have c_r_8_w13 := x_r.cell (i := 8) rfl
      have f_r_8_w13 := x_r.frozen 8
      have HR : Hid (recOf (splitL s 32) = ⟨2, l0, 0, 0, l1, ⟨0, 0, 0, 0⟩⟩) := by
        show _ = _
        unfold recOf
        rw [HWS.out, HX.out, HK.out, HL.out, ← HL0.out, ← HL1.out]
        rfl
      obtain ⟨T, hT⟩ : ∃ T, recText ⟨2, l0, 0, 0, l1, ⟨0, 0, 0, 0⟩⟩ = T := ⟨_, rfl⟩
      obtain ⟨ok, hok⟩ : ∃ b, recOkB ⟨2, l0, 0, 0, l1, ⟨0, 0, 0, 0⟩⟩ = b := ⟨_, rfl⟩
      have hE := str_empty T
      have hE1 := recText_empty ⟨2, l0, 0, 0, l1, ⟨0, 0, 0, 0⟩⟩
      rw [hT, hok] at hE1
      rw [hE1] at hE
      clear hE1
      have HT := Lib.hid hT
      have HOK := Lib.hid hok
      clear hT hok
      have rv : RV recL w13 (.agg #[.int .i64 2, .int .i64 l0, .int .i64 0, .int .i64 0, .int .i64 l1, .int .i64 0, .int .i64 0, .int .i64 0, .int .i64 0]) ⟨2, l0, 0, 0, l1, ⟨0, 0, 0, 0⟩⟩ := rv_rec_mk (zM := ⟨0, 0, 0, 0⟩)
      go_wp2_with fail
      refine (sRecText_c rv).mono ?_
      rintro e w14 ⟨rfl, h_w14⟩
      clear c_v_0_w11 f_v_0_w11 c_v_1_w11 f_v_1_w11 c_v_2_w11 f_v_2_w11 c_v_3_w11 f_v_3_w11 c_v_4_w11 f_v_4_w11 c_v_5_w11 f_v_5_w11 c_v_6_w11 f_v_6_w11 c_v_7_w11 f_v_7_w11 c_v_8_w11 f_v_8_w11 c_r_0_w11 f_r_0_w11 c_r_1_w11 f_r_1_w11 c_r_2_w11 f_r_2_w11 c_r_3_w11 f_r_3_w11 c_r_4_w11 f_r_4_w11 c_r_5_w11 f_r_5_w11 c_r_6_w11 f_r_6_w11 c_r_7_w11 f_r_7_w11 c_r_8_w11 f_r_8_w11 d0 c_v_0_w12 f_v_0_w12 c_v_1_w12 f_v_1_w12 c_v_2_w12 f_v_2_w12 c_v_3_w12 f_v_3_w12 c_v_4_w12 f_v_4_w12 c_v_5_w12 f_v_5_w12 c_v_6_w12 f_v_6_w12 c_v_7_w12 f_v_7_w12 c_v_8_w12 f_v_8_w12 c_r_0_w12 f_r_0_w12 c_r_1_w12 f_r_1_w12 c_r_2_w12 f_r_2_w12 c_r_3_w12 f_r_3_w12 c_r_4_w12 f_r_4_w12 c_r_5_w12 f_r_5_w12 c_r_6_w12 f_r_6_w12 c_r_7_w12 f_r_7_w12 c_r_8_w12 f_r_8_w12 d1 c_v_0_w13 f_v_0_w13 c_v_1_w13 f_v_1_w13 c_v_2_w13 f_v_2_w13 c_v_3_w13 f_v_3_w13 c_v_4_w13 f_v_4_w13 c_v_5_w13 f_v_5_w13 c_v_6_w13 f_v_6_w13 c_v_7_w13 f_v_7_w13 c_v_8_w13 f_v_8_w13 c_r_0_w13 f_r_0_w13 c_r_1_w13 f_r_1_w13 c_r_2_w13 f_r_2_w13 c_r_3_w13 f_r_3_w13 c_r_4_w13 f_r_4_w13 c_r_5_w13 f_r_5_w13 c_r_6_w13 f_r_6_w13 c_r_7_w13 f_r_7_w13 c_r_8_w13 f_r_8_w13
      replace x_r := x_r.from_ h_w14
      replace x_v := x_v.from_ h_w14
      replace o_W := o_W.below h_w14
      replace o_L := o_L.below h_w14
      have B_w14 := B_w13.trans (h_w14.mono B_w13.size)
      have s_w14 := h_w14.size
      rw [HT.out]
      clear rv
      have c_v_0_w14 := x_v.cell (i := 0) rfl
      have f_v_0_w14 := x_v.frozen 0
      have c_v_1_w14 := x_v.cell (i := 1) rfl
      have f_v_1_w14 := x_v.frozen 1
      have c_v_2_w14 := x_v.cell (i := 2) rfl
      have f_v_2_w14 := x_v.frozen 2
      have c_v_3_w14 := x_v.cell (i := 3) rfl
      have f_v_3_w14 := x_v.frozen 3
      have c_v_4_w14 := x_v.cell (i := 4) rfl
      have f_v_4_w14 := x_v.frozen 4
      have c_v_5_w14 := x_v.cell (i := 5) rfl
      have f_v_5_w14 := x_v.frozen 5
      have c_v_6_w14 := x_v.cell (i := 6) rfl
      have f_v_6_w14 := x_v.frozen 6
      have c_v_7_w14 := x_v.cell (i := 7) rfl
      have f_v_7_w14 := x_v.frozen 7
      have c_v_8_w14 := x_v.cell (i := 8) rfl
      have f_v_8_w14 := x_v.frozen 8
      have c_r_0_w14 := x_r.cell (i := 0) rfl
      have f_r_0_w14 := x_r.frozen 0
      have c_r_1_w14 := x_r.cell (i := 1) rfl
      have f_r_1_w14 := x_r.frozen 1
      have c_r_2_w14 := x_r.cell (i := 2) rfl
      have f_r_2_w14 := x_r.frozen 2
      have c_r_3_w14 := x_r.cell (i := 3) rfl
      have f_r_3_w14 := x_r.frozen 3
      have c_r_4_w14 := x_r.cell (i := 4) rfl
      have f_r_4_w14 := x_r.frozen 4
      have c_r_5_w14 := x_r.cell (i := 5) rfl
      have f_r_5_w14 := x_r.frozen 5
      have c_r_6_w14 := x_r.cell (i := 6) rfl
      have f_r_6_w14 := x_r.frozen 6
      have c_r_7_w14 := x_r.cell (i := 7) rfl
      have f_r_7_w14 := x_r.frozen 7
      have c_r_8_w14 := x_r.cell (i := 8) rfl
      have f_r_8_w14 := x_r.frozen 8
      cases ok
      case false =>
        have hE2 : (T.toList == []) = true := hE
        clear hE
        have HF : Hid (textRecB s = false) := by show _ = _; unfold textRecB; rw [HR.out, HOK.out]; rfl
        have i_r_0 := x_r.same (i := 0) rfl
        have i_r_1 := x_r.same (i := 1) rfl
        have i_r_2 := x_r.same (i := 2) rfl
        have i_r_3 := x_r.same (i := 3) rfl
        have i_r_4 := x_r.same (i := 4) rfl
        have i_r_5 := x_r.same (i := 5) rfl
        have i_r_6 := x_r.same (i := 6) rfl
        have i_r_7 := x_r.same (i := 7) rfl
        have i_r_8 := x_r.same (i := 8) rfl
        have HF2 : Hid (textRec s = recZ) := by show _ = _; unfold textRec; rw [HF.out]; rfl
        go_wp2
        refine ret_cell_tmp (by rfl) (by rfl) x_r Tryd.underlying26 sz_rec (by rfl) ?_
        rw [HF.out, HF2.out]
        exact ⟨_, rfl, ov_rec (d := recZ) (Nat.le_refl _), B_w14⟩
      case true =>
        have hE2 : (T.toList == []) = false := hE
        clear hE
        have rv : RV recL w14 (.agg #[.int .i64 2, .int .i64 l0, .int .i64 0, .int .i64 0, .int .i64 l1, .int .i64 0, .int .i64 0, .int .i64 0, .int .i64 0]) ⟨2, l0, 0, 0, l1, ⟨0, 0, 0, 0⟩⟩ := rv_rec_mk (zM := ⟨0, 0, 0, 0⟩)
        go_wp2_with fail
        refine (sRecText_c rv).mono ?_
        rintro e w15 ⟨rfl, h_w15⟩
        clear c_v_0_w14 f_v_0_w14 c_v_1_w14 f_v_1_w14 c_v_2_w14 f_v_2_w14 c_v_3_w14 f_v_3_w14 c_v_4_w14 f_v_4_w14 c_v_5_w14 f_v_5_w14 c_v_6_w14 f_v_6_w14 c_v_7_w14 f_v_7_w14 c_v_8_w14 f_v_8_w14 c_r_0_w14 f_r_0_w14 c_r_1_w14 f_r_1_w14 c_r_2_w14 f_r_2_w14 c_r_3_w14 f_r_3_w14 c_r_4_w14 f_r_4_w14 c_r_5_w14 f_r_5_w14 c_r_6_w14 f_r_6_w14 c_r_7_w14 f_r_7_w14 c_r_8_w14 f_r_8_w14
        replace x_r := x_r.from_ h_w15
        replace x_v := x_v.from_ h_w15
        replace o_W := o_W.below h_w15
        replace o_L := o_L.below h_w15
        have B_w15 := B_w14.trans (h_w15.mono B_w14.size)
        have s_w15 := h_w15.size
        rw [HT.out]
        clear rv
        have c_v_0_w15 := x_v.cell (i := 0) rfl
        have f_v_0_w15 := x_v.frozen 0
        have c_v_1_w15 := x_v.cell (i := 1) rfl
        have f_v_1_w15 := x_v.frozen 1
        have c_v_2_w15 := x_v.cell (i := 2) rfl
        have f_v_2_w15 := x_v.frozen 2
        have c_v_3_w15 := x_v.cell (i := 3) rfl
        have f_v_3_w15 := x_v.frozen 3
        have c_v_4_w15 := x_v.cell (i := 4) rfl
        have f_v_4_w15 := x_v.frozen 4
        have c_v_5_w15 := x_v.cell (i := 5) rfl
        have f_v_5_w15 := x_v.frozen 5
        have c_v_6_w15 := x_v.cell (i := 6) rfl
        have f_v_6_w15 := x_v.frozen 6
        have c_v_7_w15 := x_v.cell (i := 7) rfl
        have f_v_7_w15 := x_v.frozen 7
        have c_v_8_w15 := x_v.cell (i := 8) rfl
        have f_v_8_w15 := x_v.frozen 8
        have c_r_0_w15 := x_r.cell (i := 0) rfl
        have f_r_0_w15 := x_r.frozen 0
        have c_r_1_w15 := x_r.cell (i := 1) rfl
        have f_r_1_w15 := x_r.frozen 1
        have c_r_2_w15 := x_r.cell (i := 2) rfl
        have f_r_2_w15 := x_r.frozen 2
        have c_r_3_w15 := x_r.cell (i := 3) rfl
        have f_r_3_w15 := x_r.frozen 3
        have c_r_4_w15 := x_r.cell (i := 4) rfl
        have f_r_4_w15 := x_r.frozen 4
        have c_r_5_w15 := x_r.cell (i := 5) rfl
        have f_r_5_w15 := x_r.frozen 5
        have c_r_6_w15 := x_r.cell (i := 6) rfl
        have f_r_6_w15 := x_r.frozen 6
        have c_r_7_w15 := x_r.cell (i := 7) rfl
        have f_r_7_w15 := x_r.frozen 7
        have c_r_8_w15 := x_r.cell (i := 8) rfl
        have f_r_8_w15 := x_r.frozen 8
        by_cases hTs : T = s
        case neg =>
          have hE3 : (T.toList == s.toList) = false := by rw [beq_str]; exact decide_eq_false hTs
          have HF : Hid (textRecB s = false) := by show _ = _; unfold textRecB; rw [HR.out, HOK.out, HT.out]; simpa using hTs
          clear hTs
          have i_r_0 := x_r.same (i := 0) rfl
          have i_r_1 := x_r.same (i := 1) rfl
          have i_r_2 := x_r.same (i := 2) rfl
          have i_r_3 := x_r.same (i := 3) rfl
          have i_r_4 := x_r.same (i := 4) rfl
          have i_r_5 := x_r.same (i := 5) rfl
          have i_r_6 := x_r.same (i := 6) rfl
          have i_r_7 := x_r.same (i := 7) rfl
          have i_r_8 := x_r.same (i := 8) rfl
          have HF2 : Hid (textRec s = recZ) := by show _ = _; unfold textRec; rw [HF.out]; rfl
          go_wp2
          refine ret_cell_tmp (by rfl) (by rfl) x_r Tryd.underlying26 sz_rec (by rfl) ?_
          rw [HF.out, HF2.out]
          exact ⟨_, rfl, ov_rec (d := recZ) (Nat.le_refl _), B_w15⟩
        have hE3 : (T.toList == s.toList) = true := by rw [beq_str]; exact decide_eq_true hTs
        have HF : Hid (textRecB s = true) := by show _ = _; unfold textRecB; rw [HR.out, HOK.out, HT.out]; simpa using hTs
        clear hTs
        have HF2 : Hid (textRec s = ⟨2, l0, 0, 0, l1, ⟨0, 0, 0, 0⟩⟩) := by show _ = _; unfold textRec; rw [HF.out, HR.out]; rfl
        obtain ⟨w16, e_w16, s_w16, h_w16, y⟩ := store_step x_r [.int .i64 2, .int .i64 l0, .int .i64 0, .int .i64 0, .int .i64 l1, .int .i64 0, .int .i64 0, .int .i64 0, .int .i64 0] rfl
        replace e_w16 : (((((((((w15.setCell ⟨w.heap.size, 0, none⟩ (.int .i64 2)).setCell ⟨w.heap.size, 1, none⟩ (.int .i64 l0)).setCell ⟨w.heap.size, 2, none⟩ (.int .i64 0)).setCell ⟨w.heap.size, 3, none⟩ (.int .i64 0)).setCell ⟨w.heap.size, 4, none⟩ (.int .i64 l1)).setCell ⟨w.heap.size, 5, none⟩ (.int .i64 0)).setCell ⟨w.heap.size, 6, none⟩ (.int .i64 0)).setCell ⟨w.heap.size, 7, none⟩ (.int .i64 0)).setCell ⟨w.heap.size, 8, none⟩ (.int .i64 0)) = w16 := e_w16
        have s_w16_1 := Nat.le_of_eq s_w16
        have s_w16_2 := Nat.le_of_eq s_w16.symm
        clear s_w16
        replace x_v := x_v.chg h_w16 (by omega)
        replace o_W := o_W.chg h_w16 (by omega)
        replace o_L := o_L.chg h_w16 (by omega)
        have B_w16 := Below.chg_ B_w15 h_w16 (by omega) (by omega)
        replace x_r : Vr w16 (w.heap.size) 26 [.int .i64 2, .int .i64 l0, .int .i64 0, .int .i64 0, .int .i64 l1, .int .i64 0, .int .i64 0, .int .i64 0, .int .i64 0] := y
        clear y
        have c_r_0_w16 := x_r.cell (i := 0) rfl
        have f_r_0_w16 := x_r.frozen 0
        have c_r_1_w16 := x_r.cell (i := 1) rfl
        have f_r_1_w16 := x_r.frozen 1
        have c_r_2_w16 := x_r.cell (i := 2) rfl
        have f_r_2_w16 := x_r.frozen 2
        have c_r_3_w16 := x_r.cell (i := 3) rfl
        have f_r_3_w16 := x_r.frozen 3
        have c_r_4_w16 := x_r.cell (i := 4) rfl
        have f_r_4_w16 := x_r.frozen 4
        have c_r_5_w16 := x_r.cell (i := 5) rfl
        have f_r_5_w16 := x_r.frozen 5
        have c_r_6_w16 := x_r.cell (i := 6) rfl
        have f_r_6_w16 := x_r.frozen 6
        have c_r_7_w16 := x_r.cell (i := 7) rfl
        have f_r_7_w16 := x_r.frozen 7
        have c_r_8_w16 := x_r.cell (i := 8) rfl
        have f_r_8_w16 := x_r.frozen 8
        go_wp2
        refine ret_cell_tmp (by rfl) (by rfl) x_r Tryd.underlying26 sz_rec (by rfl) ?_
        rw [HF.out, HF2.out]
        exact ⟨_, rfl, ov_rec (d := ⟨2, l0, 0, 0, l1, ⟨0, 0, 0, 0⟩⟩) (Nat.le_refl _), B_w16⟩
    · -- 3
      have c_v_0_wr := x_v.cell (i := 0) rfl
      have f_v_0_wr := x_v.frozen 0
      have c_v_1_wr := x_v.cell (i := 1) rfl
      have f_v_1_wr := x_v.frozen 1
      have c_v_2_wr := x_v.cell (i := 2) rfl
      have f_v_2_wr := x_v.frozen 2
      have c_v_3_wr := x_v.cell (i := 3) rfl
      have f_v_3_wr := x_v.frozen 3
      have c_v_4_wr := x_v.cell (i := 4) rfl
      have f_v_4_wr := x_v.frozen 4
      have c_v_5_wr := x_v.cell (i := 5) rfl
      have f_v_5_wr := x_v.frozen 5
      have c_v_6_wr := x_v.cell (i := 6) rfl
      have f_v_6_wr := x_v.frozen 6
      have c_v_7_wr := x_v.cell (i := 7) rfl
      have f_v_7_wr := x_v.frozen 7
      have c_v_8_wr := x_v.cell (i := 8) rfl
      have f_v_8_wr := x_v.frozen 8
      have c_r_0_wr := x_r.cell (i := 0) rfl
      have f_r_0_wr := x_r.frozen 0
      have c_r_1_wr := x_r.cell (i := 1) rfl
      have f_r_1_wr := x_r.frozen 1
      have c_r_2_wr := x_r.cell (i := 2) rfl
      have f_r_2_wr := x_r.frozen 2
      have c_r_3_wr := x_r.cell (i := 3) rfl
      have f_r_3_wr := x_r.frozen 3
      have c_r_4_wr := x_r.cell (i := 4) rfl
      have f_r_4_wr := x_r.frozen 4
      have c_r_5_wr := x_r.cell (i := 5) rfl
      have f_r_5_wr := x_r.frozen 5
      have c_r_6_wr := x_r.cell (i := 6) rfl
      have f_r_6_wr := x_r.frozen 6
      have c_r_7_wr := x_r.cell (i := 7) rfl
      have f_r_7_wr := x_r.frozen 7
      have c_r_8_wr := x_r.cell (i := 8) rfl
      have f_r_8_wr := x_r.frozen 8
      go_wp2_with fail
      refine (sHas_3 _).mono ?_
      rintro e w' ⟨rfl, rfl⟩
      go_wp2_with fail
      refine (sNums1_c (o_W.rd) hwz2 hwm).mono ?_
      rintro e w11 ⟨vL, rfl, o_L, h_w11⟩
      clear c_v_0_wr f_v_0_wr c_v_1_wr f_v_1_wr c_v_2_wr f_v_2_wr c_v_3_wr f_v_3_wr c_v_4_wr f_v_4_wr c_v_5_wr f_v_5_wr c_v_6_wr f_v_6_wr c_v_7_wr f_v_7_wr c_v_8_wr f_v_8_wr c_r_0_wr f_r_0_wr c_r_1_wr f_r_1_wr c_r_2_wr f_r_2_wr c_r_3_wr f_r_3_wr c_r_4_wr f_r_4_wr c_r_5_wr f_r_5_wr c_r_6_wr f_r_6_wr c_r_7_wr f_r_7_wr c_r_8_wr f_r_8_wr
      replace x_r := x_r.from_ h_w11
      replace x_v := x_v.from_ h_w11
      replace o_W := o_W.below h_w11
      have B_w11 := HB.trans (h_w11.mono HB.size)
      have s_w11 := h_w11.size
      rw [HL.out] at o_L
      obtain ⟨bL, cL, rfl⟩ := own_slice64 o_L (by omega)
      have j0 : (0 : Int) < (L.length : Int) := by omega
      have j1 : (1 : Int) < (L.length : Int) := by omega
      have j2 : (2 : Int) < (L.length : Int) := by omega
      have j3 : (3 : Int) < (L.length : Int) := by omega
      have d0 := o_L.1.cell_ (j := 0) (by omega)
      rw [HL0.out] at d0
      have c_v_0_w11 := x_v.cell (i := 0) rfl
      have f_v_0_w11 := x_v.frozen 0
      have c_v_1_w11 := x_v.cell (i := 1) rfl
      have f_v_1_w11 := x_v.frozen 1
      have c_v_2_w11 := x_v.cell (i := 2) rfl
      have f_v_2_w11 := x_v.frozen 2
      have c_v_3_w11 := x_v.cell (i := 3) rfl
      have f_v_3_w11 := x_v.frozen 3
      have c_v_4_w11 := x_v.cell (i := 4) rfl
      have f_v_4_w11 := x_v.frozen 4
      have c_v_5_w11 := x_v.cell (i := 5) rfl
      have f_v_5_w11 := x_v.frozen 5
      have c_v_6_w11 := x_v.cell (i := 6) rfl
      have f_v_6_w11 := x_v.frozen 6
      have c_v_7_w11 := x_v.cell (i := 7) rfl
      have f_v_7_w11 := x_v.frozen 7
      have c_v_8_w11 := x_v.cell (i := 8) rfl
      have f_v_8_w11 := x_v.frozen 8
      have c_r_0_w11 := x_r.cell (i := 0) rfl
      have f_r_0_w11 := x_r.frozen 0
      have c_r_1_w11 := x_r.cell (i := 1) rfl
      have f_r_1_w11 := x_r.frozen 1
      have c_r_2_w11 := x_r.cell (i := 2) rfl
      have f_r_2_w11 := x_r.frozen 2
      have c_r_3_w11 := x_r.cell (i := 3) rfl
      have f_r_3_w11 := x_r.frozen 3
      have c_r_4_w11 := x_r.cell (i := 4) rfl
      have f_r_4_w11 := x_r.frozen 4
      have c_r_5_w11 := x_r.cell (i := 5) rfl
      have f_r_5_w11 := x_r.frozen 5
      have c_r_6_w11 := x_r.cell (i := 6) rfl
      have f_r_6_w11 := x_r.frozen 6
      have c_r_7_w11 := x_r.cell (i := 7) rfl
      have f_r_7_w11 := x_r.frozen 7
      have c_r_8_w11 := x_r.cell (i := 8) rfl
      have f_r_8_w11 := x_r.frozen 8
      obtain ⟨w12, e_w12, s_w12, h_w12, y⟩ := set_step x_v 1 (.int .i64 l0)
      have s_w12_1 := Nat.le_of_eq s_w12
      have s_w12_2 := Nat.le_of_eq s_w12.symm
      clear s_w12
      replace x_r := x_r.chg h_w12 (by omega)
      replace o_W := o_W.chg h_w12 (by omega)
      replace o_L := o_L.chg h_w12 (by omega)
      have B_w12 := Below.chg_ B_w11 h_w12 (by omega) (by omega)
      replace x_v : Vr w12 (w1.heap.size) 26 [.int .i64 3, .int .i64 l0, .int .i64 0, .int .i64 0, .int .i64 0, .int .i64 0, .int .i64 0, .int .i64 0, .int .i64 0] := y
      clear y
      have d1 := o_L.1.cell_ (j := 1) (by omega)
      rw [HL1.out] at d1
      have c_v_0_w12 := x_v.cell (i := 0) rfl
      have f_v_0_w12 := x_v.frozen 0
      have c_v_1_w12 := x_v.cell (i := 1) rfl
      have f_v_1_w12 := x_v.frozen 1
      have c_v_2_w12 := x_v.cell (i := 2) rfl
      have f_v_2_w12 := x_v.frozen 2
      have c_v_3_w12 := x_v.cell (i := 3) rfl
      have f_v_3_w12 := x_v.frozen 3
      have c_v_4_w12 := x_v.cell (i := 4) rfl
      have f_v_4_w12 := x_v.frozen 4
      have c_v_5_w12 := x_v.cell (i := 5) rfl
      have f_v_5_w12 := x_v.frozen 5
      have c_v_6_w12 := x_v.cell (i := 6) rfl
      have f_v_6_w12 := x_v.frozen 6
      have c_v_7_w12 := x_v.cell (i := 7) rfl
      have f_v_7_w12 := x_v.frozen 7
      have c_v_8_w12 := x_v.cell (i := 8) rfl
      have f_v_8_w12 := x_v.frozen 8
      have c_r_0_w12 := x_r.cell (i := 0) rfl
      have f_r_0_w12 := x_r.frozen 0
      have c_r_1_w12 := x_r.cell (i := 1) rfl
      have f_r_1_w12 := x_r.frozen 1
      have c_r_2_w12 := x_r.cell (i := 2) rfl
      have f_r_2_w12 := x_r.frozen 2
      have c_r_3_w12 := x_r.cell (i := 3) rfl
      have f_r_3_w12 := x_r.frozen 3
      have c_r_4_w12 := x_r.cell (i := 4) rfl
      have f_r_4_w12 := x_r.frozen 4
      have c_r_5_w12 := x_r.cell (i := 5) rfl
      have f_r_5_w12 := x_r.frozen 5
      have c_r_6_w12 := x_r.cell (i := 6) rfl
      have f_r_6_w12 := x_r.frozen 6
      have c_r_7_w12 := x_r.cell (i := 7) rfl
      have f_r_7_w12 := x_r.frozen 7
      have c_r_8_w12 := x_r.cell (i := 8) rfl
      have f_r_8_w12 := x_r.frozen 8
      obtain ⟨w13, e_w13, s_w13, h_w13, y⟩ := set_step x_v 3 (.int .i64 l1)
      have s_w13_1 := Nat.le_of_eq s_w13
      have s_w13_2 := Nat.le_of_eq s_w13.symm
      clear s_w13
      replace x_r := x_r.chg h_w13 (by omega)
      replace o_W := o_W.chg h_w13 (by omega)
      replace o_L := o_L.chg h_w13 (by omega)
      have B_w13 := Below.chg_ B_w12 h_w13 (by omega) (by omega)
      replace x_v : Vr w13 (w1.heap.size) 26 [.int .i64 3, .int .i64 l0, .int .i64 0, .int .i64 l1, .int .i64 0, .int .i64 0, .int .i64 0, .int .i64 0, .int .i64 0] := y
      clear y
      have d2 := o_L.1.cell_ (j := 2) (by omega)
      rw [HL2.out] at d2
      have c_v_0_w13 := x_v.cell (i := 0) rfl
      have f_v_0_w13 := x_v.frozen 0
      have c_v_1_w13 := x_v.cell (i := 1) rfl
      have f_v_1_w13 := x_v.frozen 1
      have c_v_2_w13 := x_v.cell (i := 2) rfl
      have f_v_2_w13 := x_v.frozen 2
      have c_v_3_w13 := x_v.cell (i := 3) rfl
      have f_v_3_w13 := x_v.frozen 3
      have c_v_4_w13 := x_v.cell (i := 4) rfl
      have f_v_4_w13 := x_v.frozen 4
      have c_v_5_w13 := x_v.cell (i := 5) rfl
      have f_v_5_w13 := x_v.frozen 5
      have c_v_6_w13 := x_v.cell (i := 6) rfl
      have f_v_6_w13 := x_v.frozen 6
      have c_v_7_w13 := x_v.cell (i := 7) rfl
      have f_v_7_w13 := x_v.frozen 7
      have c_v_8_w13 := x_v.cell (i := 8) rfl
      have f_v_8_w13 := x_v.frozen 8
      have c_r_0_w13 := x_r.cell (i := 0) rfl
      have f_r_0_w13 := x_r.frozen 0
      have c_r_1_w13 := x_r.cell (i := 1) rfl
      have f_r_1_w13 := x_r.frozen 1
      have c_r_2_w13 := x_r.cell (i := 2) rfl
      have f_r_2_w13 := x_r.frozen 2
      have c_r_3_w13 := x_r.cell (i := 3) rfl
      have f_r_3_w13 := x_r.frozen 3
      have c_r_4_w13 := x_r.cell (i := 4) rfl
      have f_r_4_w13 := x_r.frozen 4
      have c_r_5_w13 := x_r.cell (i := 5) rfl
      have f_r_5_w13 := x_r.frozen 5
      have c_r_6_w13 := x_r.cell (i := 6) rfl
      have f_r_6_w13 := x_r.frozen 6
      have c_r_7_w13 := x_r.cell (i := 7) rfl
      have f_r_7_w13 := x_r.frozen 7
      have c_r_8_w13 := x_r.cell (i := 8) rfl
      have f_r_8_w13 := x_r.frozen 8
      obtain ⟨w14, e_w14, s_w14, h_w14, y⟩ := set_step x_v 4 (.int .i64 l2)
      have s_w14_1 := Nat.le_of_eq s_w14
      have s_w14_2 := Nat.le_of_eq s_w14.symm
      clear s_w14
      replace x_r := x_r.chg h_w14 (by omega)
      replace o_W := o_W.chg h_w14 (by omega)
      replace o_L := o_L.chg h_w14 (by omega)
      have B_w14 := Below.chg_ B_w13 h_w14 (by omega) (by omega)
      replace x_v : Vr w14 (w1.heap.size) 26 [.int .i64 3, .int .i64 l0, .int .i64 0, .int .i64 l1, .int .i64 l2, .int .i64 0, .int .i64 0, .int .i64 0, .int .i64 0] := y
      clear y
      have c_v_0_w14 := x_v.cell (i := 0) rfl
      have f_v_0_w14 := x_v.frozen 0
      have c_v_1_w14 := x_v.cell (i := 1) rfl
      have f_v_1_w14 := x_v.frozen 1
      have c_v_2_w14 := x_v.cell (i := 2) rfl
      have f_v_2_w14 := x_v.frozen 2
      have c_v_3_w14 := x_v.cell (i := 3) rfl
      have f_v_3_w14 := x_v.frozen 3
      have c_v_4_w14 := x_v.cell (i := 4) rfl
      have f_v_4_w14 := x_v.frozen 4
      have c_v_5_w14 := x_v.cell (i := 5) rfl
      have f_v_5_w14 := x_v.frozen 5
      have c_v_6_w14 := x_v.cell (i := 6) rfl
      have f_v_6_w14 := x_v.frozen 6
      have c_v_7_w14 := x_v.cell (i := 7) rfl
      have f_v_7_w14 := x_v.frozen 7
      have c_v_8_w14 := x_v.cell (i := 8) rfl
      have f_v_8_w14 := x_v.frozen 8
      have c_r_0_w14 := x_r.cell (i := 0) rfl
      have f_r_0_w14 := x_r.frozen 0
      have c_r_1_w14 := x_r.cell (i := 1) rfl
      have f_r_1_w14 := x_r.frozen 1
      have c_r_2_w14 := x_r.cell (i := 2) rfl
      have f_r_2_w14 := x_r.frozen 2
      have c_r_3_w14 := x_r.cell (i := 3) rfl
      have f_r_3_w14 := x_r.frozen 3
      have c_r_4_w14 := x_r.cell (i := 4) rfl
      have f_r_4_w14 := x_r.frozen 4
      have c_r_5_w14 := x_r.cell (i := 5) rfl
      have f_r_5_w14 := x_r.frozen 5
      have c_r_6_w14 := x_r.cell (i := 6) rfl
      have f_r_6_w14 := x_r.frozen 6
      have c_r_7_w14 := x_r.cell (i := 7) rfl
      have f_r_7_w14 := x_r.frozen 7
      have c_r_8_w14 := x_r.cell (i := 8) rfl
      have f_r_8_w14 := x_r.frozen 8
      have HR : Hid (recOf (splitL s 32) = ⟨3, l0, 0, l1, l2, ⟨0, 0, 0, 0⟩⟩) := by
        show _ = _
        unfold recOf
        rw [HWS.out, HX.out, HK.out, HL.out, ← HL0.out, ← HL1.out, ← HL2.out]
        rfl
      obtain ⟨T, hT⟩ : ∃ T, recText ⟨3, l0, 0, l1, l2, ⟨0, 0, 0, 0⟩⟩ = T := ⟨_, rfl⟩
      obtain ⟨ok, hok⟩ : ∃ b, recOkB ⟨3, l0, 0, l1, l2, ⟨0, 0, 0, 0⟩⟩ = b := ⟨_, rfl⟩
      have hE := str_empty T
      have hE1 := recText_empty ⟨3, l0, 0, l1, l2, ⟨0, 0, 0, 0⟩⟩
      rw [hT, hok] at hE1
      rw [hE1] at hE
      clear hE1
      have HT := Lib.hid hT
      have HOK := Lib.hid hok
      clear hT hok
      have rv : RV recL w14 (.agg #[.int .i64 3, .int .i64 l0, .int .i64 0, .int .i64 l1, .int .i64 l2, .int .i64 0, .int .i64 0, .int .i64 0, .int .i64 0]) ⟨3, l0, 0, l1, l2, ⟨0, 0, 0, 0⟩⟩ := rv_rec_mk (zM := ⟨0, 0, 0, 0⟩)
      go_wp2_with fail
      refine (sRecText_c rv).mono ?_
      rintro e w15 ⟨rfl, h_w15⟩
      clear c_v_0_w11 f_v_0_w11 c_v_1_w11 f_v_1_w11 c_v_2_w11 f_v_2_w11 c_v_3_w11 f_v_3_w11 c_v_4_w11 f_v_4_w11 c_v_5_w11 f_v_5_w11 c_v_6_w11 f_v_6_w11 c_v_7_w11 f_v_7_w11 c_v_8_w11 f_v_8_w11 c_r_0_w11 f_r_0_w11 c_r_1_w11 f_r_1_w11 c_r_2_w11 f_r_2_w11 c_r_3_w11 f_r_3_w11 c_r_4_w11 f_r_4_w11 c_r_5_w11 f_r_5_w11 c_r_6_w11 f_r_6_w11 c_r_7_w11 f_r_7_w11 c_r_8_w11 f_r_8_w11 d0 c_v_0_w12 f_v_0_w12 c_v_1_w12 f_v_1_w12 c_v_2_w12 f_v_2_w12 c_v_3_w12 f_v_3_w12 c_v_4_w12 f_v_4_w12 c_v_5_w12 f_v_5_w12 c_v_6_w12 f_v_6_w12 c_v_7_w12 f_v_7_w12 c_v_8_w12 f_v_8_w12 c_r_0_w12 f_r_0_w12 c_r_1_w12 f_r_1_w12 c_r_2_w12 f_r_2_w12 c_r_3_w12 f_r_3_w12 c_r_4_w12 f_r_4_w12 c_r_5_w12 f_r_5_w12 c_r_6_w12 f_r_6_w12 c_r_7_w12 f_r_7_w12 c_r_8_w12 f_r_8_w12 d1 c_v_0_w13 f_v_0_w13 c_v_1_w13 f_v_1_w13 c_v_2_w13 f_v_2_w13 c_v_3_w13 f_v_3_w13 c_v_4_w13 f_v_4_w13 c_v_5_w13 f_v_5_w13 c_v_6_w13 f_v_6_w13 c_v_7_w13 f_v_7_w13 c_v_8_w13 f_v_8_w13 c_r_0_w13 f_r_0_w13 c_r_1_w13 f_r_1_w13 c_r_2_w13 f_r_2_w13 c_r_3_w13 f_r_3_w13 c_r_4_w13 f_r_4_w13 c_r_5_w13 f_r_5_w13 c_r_6_w13 f_r_6_w13 c_r_7_w13 f_r_7_w13 c_r_8_w13 f_r_8_w13 d2 c_v_0_w14 f_v_0_w14 c_v_1_w14 f_v_1_w14 c_v_2_w14 f_v_2_w14 c_v_3_w14 f_v_3_w14 c_v_4_w14 f_v_4_w14 c_v_5_w14 f_v_5_w14 c_v_6_w14 f_v_6_w14 c_v_7_w14 f_v_7_w14 c_v_8_w14 f_v_8_w14 c_r_0_w14 f_r_0_w14 c_r_1_w14 f_r_1_w14 c_r_2_w14 f_r_2_w14 c_r_3_w14 f_r_3_w14 c_r_4_w14 f_r_4_w14 c_r_5_w14 f_r_5_w14 c_r_6_w14 f_r_6_w14 c_r_7_w14 f_r_7_w14 c_r_8_w14 f_r_8_w14
      replace x_r := x_r.from_ h_w15
      replace x_v := x_v.from_ h_w15
      replace o_W := o_W.below h_w15
      replace o_L := o_L.below h_w15
      have B_w15 := B_w14.trans (h_w15.mono B_w14.size)
      have s_w15 := h_w15.size
      rw [HT.out]
      clear rv
      have c_v_0_w15 := x_v.cell (i := 0) rfl
      have f_v_0_w15 := x_v.frozen 0
      have c_v_1_w15 := x_v.cell (i := 1) rfl
      have f_v_1_w15 := x_v.frozen 1
      have c_v_2_w15 := x_v.cell (i := 2) rfl
      have f_v_2_w15 := x_v.frozen 2
      have c_v_3_w15 := x_v.cell (i := 3) rfl
      have f_v_3_w15 := x_v.frozen 3
      have c_v_4_w15 := x_v.cell (i := 4) rfl
      have f_v_4_w15 := x_v.frozen 4
      have c_v_5_w15 := x_v.cell (i := 5) rfl
      have f_v_5_w15 := x_v.frozen 5
      have c_v_6_w15 := x_v.cell (i := 6) rfl
      have f_v_6_w15 := x_v.frozen 6
      have c_v_7_w15 := x_v.cell (i := 7) rfl
      have f_v_7_w15 := x_v.frozen 7
      have c_v_8_w15 := x_v.cell (i := 8) rfl
      have f_v_8_w15 := x_v.frozen 8
      have c_r_0_w15 := x_r.cell (i := 0) rfl
      have f_r_0_w15 := x_r.frozen 0
      have c_r_1_w15 := x_r.cell (i := 1) rfl
      have f_r_1_w15 := x_r.frozen 1
      have c_r_2_w15 := x_r.cell (i := 2) rfl
      have f_r_2_w15 := x_r.frozen 2
      have c_r_3_w15 := x_r.cell (i := 3) rfl
      have f_r_3_w15 := x_r.frozen 3
      have c_r_4_w15 := x_r.cell (i := 4) rfl
      have f_r_4_w15 := x_r.frozen 4
      have c_r_5_w15 := x_r.cell (i := 5) rfl
      have f_r_5_w15 := x_r.frozen 5
      have c_r_6_w15 := x_r.cell (i := 6) rfl
      have f_r_6_w15 := x_r.frozen 6
      have c_r_7_w15 := x_r.cell (i := 7) rfl
      have f_r_7_w15 := x_r.frozen 7
      have c_r_8_w15 := x_r.cell (i := 8) rfl
      have f_r_8_w15 := x_r.frozen 8
      cases ok
      case false =>
        have hE2 : (T.toList == []) = true := hE
        clear hE
        have HF : Hid (textRecB s = false) := by show _ = _; unfold textRecB; rw [HR.out, HOK.out]; rfl
        have i_r_0 := x_r.same (i := 0) rfl
        have i_r_1 := x_r.same (i := 1) rfl
        have i_r_2 := x_r.same (i := 2) rfl
        have i_r_3 := x_r.same (i := 3) rfl
        have i_r_4 := x_r.same (i := 4) rfl
        have i_r_5 := x_r.same (i := 5) rfl
        have i_r_6 := x_r.same (i := 6) rfl
        have i_r_7 := x_r.same (i := 7) rfl
        have i_r_8 := x_r.same (i := 8) rfl
        have HF2 : Hid (textRec s = recZ) := by show _ = _; unfold textRec; rw [HF.out]; rfl
        go_wp2
        refine ret_cell_tmp (by rfl) (by rfl) x_r Tryd.underlying26 sz_rec (by rfl) ?_
        rw [HF.out, HF2.out]
        exact ⟨_, rfl, ov_rec (d := recZ) (Nat.le_refl _), B_w15⟩
      case true =>
        have hE2 : (T.toList == []) = false := hE
        clear hE
        have rv : RV recL w15 (.agg #[.int .i64 3, .int .i64 l0, .int .i64 0, .int .i64 l1, .int .i64 l2, .int .i64 0, .int .i64 0, .int .i64 0, .int .i64 0]) ⟨3, l0, 0, l1, l2, ⟨0, 0, 0, 0⟩⟩ := rv_rec_mk (zM := ⟨0, 0, 0, 0⟩)
        go_wp2_with fail
        refine (sRecText_c rv).mono ?_
        rintro e w16 ⟨rfl, h_w16⟩
        clear c_v_0_w15 f_v_0_w15 c_v_1_w15 f_v_1_w15 c_v_2_w15 f_v_2_w15 c_v_3_w15 f_v_3_w15 c_v_4_w15 f_v_4_w15 c_v_5_w15 f_v_5_w15 c_v_6_w15 f_v_6_w15 c_v_7_w15 f_v_7_w15 c_v_8_w15 f_v_8_w15 c_r_0_w15 f_r_0_w15 c_r_1_w15 f_r_1_w15 c_r_2_w15 f_r_2_w15 c_r_3_w15 f_r_3_w15 c_r_4_w15 f_r_4_w15 c_r_5_w15 f_r_5_w15 c_r_6_w15 f_r_6_w15 c_r_7_w15 f_r_7_w15 c_r_8_w15 f_r_8_w15
        replace x_r := x_r.from_ h_w16
        replace x_v := x_v.from_ h_w16
        replace o_W := o_W.below h_w16
        replace o_L := o_L.below h_w16
        have B_w16 := B_w15.trans (h_w16.mono B_w15.size)
        have s_w16 := h_w16.size
        rw [HT.out]
        clear rv
        have c_v_0_w16 := x_v.cell (i := 0) rfl
        have f_v_0_w16 := x_v.frozen 0
        have c_v_1_w16 := x_v.cell (i := 1) rfl
        have f_v_1_w16 := x_v.frozen 1
        have c_v_2_w16 := x_v.cell (i := 2) rfl
        have f_v_2_w16 := x_v.frozen 2
        have c_v_3_w16 := x_v.cell (i := 3) rfl
        have f_v_3_w16 := x_v.frozen 3
        have c_v_4_w16 := x_v.cell (i := 4) rfl
        have f_v_4_w16 := x_v.frozen 4
        have c_v_5_w16 := x_v.cell (i := 5) rfl
        have f_v_5_w16 := x_v.frozen 5
        have c_v_6_w16 := x_v.cell (i := 6) rfl
        have f_v_6_w16 := x_v.frozen 6
        have c_v_7_w16 := x_v.cell (i := 7) rfl
        have f_v_7_w16 := x_v.frozen 7
        have c_v_8_w16 := x_v.cell (i := 8) rfl
        have f_v_8_w16 := x_v.frozen 8
        have c_r_0_w16 := x_r.cell (i := 0) rfl
        have f_r_0_w16 := x_r.frozen 0
        have c_r_1_w16 := x_r.cell (i := 1) rfl
        have f_r_1_w16 := x_r.frozen 1
        have c_r_2_w16 := x_r.cell (i := 2) rfl
        have f_r_2_w16 := x_r.frozen 2
        have c_r_3_w16 := x_r.cell (i := 3) rfl
        have f_r_3_w16 := x_r.frozen 3
        have c_r_4_w16 := x_r.cell (i := 4) rfl
        have f_r_4_w16 := x_r.frozen 4
        have c_r_5_w16 := x_r.cell (i := 5) rfl
        have f_r_5_w16 := x_r.frozen 5
        have c_r_6_w16 := x_r.cell (i := 6) rfl
        have f_r_6_w16 := x_r.frozen 6
        have c_r_7_w16 := x_r.cell (i := 7) rfl
        have f_r_7_w16 := x_r.frozen 7
        have c_r_8_w16 := x_r.cell (i := 8) rfl
        have f_r_8_w16 := x_r.frozen 8
        by_cases hTs : T = s
        case neg =>
          have hE3 : (T.toList == s.toList) = false := by rw [beq_str]; exact decide_eq_false hTs
          have HF : Hid (textRecB s = false) := by show _ = _; unfold textRecB; rw [HR.out, HOK.out, HT.out]; simpa using hTs
          clear hTs
          have i_r_0 := x_r.same (i := 0) rfl
          have i_r_1 := x_r.same (i := 1) rfl
          have i_r_2 := x_r.same (i := 2) rfl
          have i_r_3 := x_r.same (i := 3) rfl
          have i_r_4 := x_r.same (i := 4) rfl
          have i_r_5 := x_r.same (i := 5) rfl
          have i_r_6 := x_r.same (i := 6) rfl
          have i_r_7 := x_r.same (i := 7) rfl
          have i_r_8 := x_r.same (i := 8) rfl
          have HF2 : Hid (textRec s = recZ) := by show _ = _; unfold textRec; rw [HF.out]; rfl
          go_wp2
          refine ret_cell_tmp (by rfl) (by rfl) x_r Tryd.underlying26 sz_rec (by rfl) ?_
          rw [HF.out, HF2.out]
          exact ⟨_, rfl, ov_rec (d := recZ) (Nat.le_refl _), B_w16⟩
        have hE3 : (T.toList == s.toList) = true := by rw [beq_str]; exact decide_eq_true hTs
        have HF : Hid (textRecB s = true) := by show _ = _; unfold textRecB; rw [HR.out, HOK.out, HT.out]; simpa using hTs
        clear hTs
        have HF2 : Hid (textRec s = ⟨3, l0, 0, l1, l2, ⟨0, 0, 0, 0⟩⟩) := by show _ = _; unfold textRec; rw [HF.out, HR.out]; rfl
        obtain ⟨w17, e_w17, s_w17, h_w17, y⟩ := store_step x_r [.int .i64 3, .int .i64 l0, .int .i64 0, .int .i64 l1, .int .i64 l2, .int .i64 0, .int .i64 0, .int .i64 0, .int .i64 0] rfl
        replace e_w17 : (((((((((w16.setCell ⟨w.heap.size, 0, none⟩ (.int .i64 3)).setCell ⟨w.heap.size, 1, none⟩ (.int .i64 l0)).setCell ⟨w.heap.size, 2, none⟩ (.int .i64 0)).setCell ⟨w.heap.size, 3, none⟩ (.int .i64 l1)).setCell ⟨w.heap.size, 4, none⟩ (.int .i64 l2)).setCell ⟨w.heap.size, 5, none⟩ (.int .i64 0)).setCell ⟨w.heap.size, 6, none⟩ (.int .i64 0)).setCell ⟨w.heap.size, 7, none⟩ (.int .i64 0)).setCell ⟨w.heap.size, 8, none⟩ (.int .i64 0)) = w17 := e_w17
        have s_w17_1 := Nat.le_of_eq s_w17
        have s_w17_2 := Nat.le_of_eq s_w17.symm
        clear s_w17
        replace x_v := x_v.chg h_w17 (by omega)
        replace o_W := o_W.chg h_w17 (by omega)
        replace o_L := o_L.chg h_w17 (by omega)
        have B_w17 := Below.chg_ B_w16 h_w17 (by omega) (by omega)
        replace x_r : Vr w17 (w.heap.size) 26 [.int .i64 3, .int .i64 l0, .int .i64 0, .int .i64 l1, .int .i64 l2, .int .i64 0, .int .i64 0, .int .i64 0, .int .i64 0] := y
        clear y
        have c_r_0_w17 := x_r.cell (i := 0) rfl
        have f_r_0_w17 := x_r.frozen 0
        have c_r_1_w17 := x_r.cell (i := 1) rfl
        have f_r_1_w17 := x_r.frozen 1
        have c_r_2_w17 := x_r.cell (i := 2) rfl
        have f_r_2_w17 := x_r.frozen 2
        have c_r_3_w17 := x_r.cell (i := 3) rfl
        have f_r_3_w17 := x_r.frozen 3
        have c_r_4_w17 := x_r.cell (i := 4) rfl
        have f_r_4_w17 := x_r.frozen 4
        have c_r_5_w17 := x_r.cell (i := 5) rfl
        have f_r_5_w17 := x_r.frozen 5
        have c_r_6_w17 := x_r.cell (i := 6) rfl
        have f_r_6_w17 := x_r.frozen 6
        have c_r_7_w17 := x_r.cell (i := 7) rfl
        have f_r_7_w17 := x_r.frozen 7
        have c_r_8_w17 := x_r.cell (i := 8) rfl
        have f_r_8_w17 := x_r.frozen 8
        go_wp2
        refine ret_cell_tmp (by rfl) (by rfl) x_r Tryd.underlying26 sz_rec (by rfl) ?_
        rw [HF.out, HF2.out]
        exact ⟨_, rfl, ov_rec (d := ⟨3, l0, 0, l1, l2, ⟨0, 0, 0, 0⟩⟩) (Nat.le_refl _), B_w17⟩
    · -- 4
      have c_v_0_wr := x_v.cell (i := 0) rfl
      have f_v_0_wr := x_v.frozen 0
      have c_v_1_wr := x_v.cell (i := 1) rfl
      have f_v_1_wr := x_v.frozen 1
      have c_v_2_wr := x_v.cell (i := 2) rfl
      have f_v_2_wr := x_v.frozen 2
      have c_v_3_wr := x_v.cell (i := 3) rfl
      have f_v_3_wr := x_v.frozen 3
      have c_v_4_wr := x_v.cell (i := 4) rfl
      have f_v_4_wr := x_v.frozen 4
      have c_v_5_wr := x_v.cell (i := 5) rfl
      have f_v_5_wr := x_v.frozen 5
      have c_v_6_wr := x_v.cell (i := 6) rfl
      have f_v_6_wr := x_v.frozen 6
      have c_v_7_wr := x_v.cell (i := 7) rfl
      have f_v_7_wr := x_v.frozen 7
      have c_v_8_wr := x_v.cell (i := 8) rfl
      have f_v_8_wr := x_v.frozen 8
      have c_r_0_wr := x_r.cell (i := 0) rfl
      have f_r_0_wr := x_r.frozen 0
      have c_r_1_wr := x_r.cell (i := 1) rfl
      have f_r_1_wr := x_r.frozen 1
      have c_r_2_wr := x_r.cell (i := 2) rfl
      have f_r_2_wr := x_r.frozen 2
      have c_r_3_wr := x_r.cell (i := 3) rfl
      have f_r_3_wr := x_r.frozen 3
      have c_r_4_wr := x_r.cell (i := 4) rfl
      have f_r_4_wr := x_r.frozen 4
      have c_r_5_wr := x_r.cell (i := 5) rfl
      have f_r_5_wr := x_r.frozen 5
      have c_r_6_wr := x_r.cell (i := 6) rfl
      have f_r_6_wr := x_r.frozen 6
      have c_r_7_wr := x_r.cell (i := 7) rfl
      have f_r_7_wr := x_r.frozen 7
      have c_r_8_wr := x_r.cell (i := 8) rfl
      have f_r_8_wr := x_r.frozen 8
      go_wp2_with fail
      refine (sHas_4 _).mono ?_
      rintro e w' ⟨rfl, rfl⟩
      go_wp2_with fail
      refine (sNums1_c (o_W.rd) hwz2 hwm).mono ?_
      rintro e w11 ⟨vL, rfl, o_L, h_w11⟩
      clear c_v_0_wr f_v_0_wr c_v_1_wr f_v_1_wr c_v_2_wr f_v_2_wr c_v_3_wr f_v_3_wr c_v_4_wr f_v_4_wr c_v_5_wr f_v_5_wr c_v_6_wr f_v_6_wr c_v_7_wr f_v_7_wr c_v_8_wr f_v_8_wr c_r_0_wr f_r_0_wr c_r_1_wr f_r_1_wr c_r_2_wr f_r_2_wr c_r_3_wr f_r_3_wr c_r_4_wr f_r_4_wr c_r_5_wr f_r_5_wr c_r_6_wr f_r_6_wr c_r_7_wr f_r_7_wr c_r_8_wr f_r_8_wr
      replace x_r := x_r.from_ h_w11
      replace x_v := x_v.from_ h_w11
      replace o_W := o_W.below h_w11
      have B_w11 := HB.trans (h_w11.mono HB.size)
      have s_w11 := h_w11.size
      rw [HL.out] at o_L
      obtain ⟨bL, cL, rfl⟩ := own_slice64 o_L (by omega)
      have j0 : (0 : Int) < (L.length : Int) := by omega
      have j1 : (1 : Int) < (L.length : Int) := by omega
      have j2 : (2 : Int) < (L.length : Int) := by omega
      have j3 : (3 : Int) < (L.length : Int) := by omega
      have d0 := o_L.1.cell_ (j := 0) (by omega)
      rw [HL0.out] at d0
      have c_v_0_w11 := x_v.cell (i := 0) rfl
      have f_v_0_w11 := x_v.frozen 0
      have c_v_1_w11 := x_v.cell (i := 1) rfl
      have f_v_1_w11 := x_v.frozen 1
      have c_v_2_w11 := x_v.cell (i := 2) rfl
      have f_v_2_w11 := x_v.frozen 2
      have c_v_3_w11 := x_v.cell (i := 3) rfl
      have f_v_3_w11 := x_v.frozen 3
      have c_v_4_w11 := x_v.cell (i := 4) rfl
      have f_v_4_w11 := x_v.frozen 4
      have c_v_5_w11 := x_v.cell (i := 5) rfl
      have f_v_5_w11 := x_v.frozen 5
      have c_v_6_w11 := x_v.cell (i := 6) rfl
      have f_v_6_w11 := x_v.frozen 6
      have c_v_7_w11 := x_v.cell (i := 7) rfl
      have f_v_7_w11 := x_v.frozen 7
      have c_v_8_w11 := x_v.cell (i := 8) rfl
      have f_v_8_w11 := x_v.frozen 8
      have c_r_0_w11 := x_r.cell (i := 0) rfl
      have f_r_0_w11 := x_r.frozen 0
      have c_r_1_w11 := x_r.cell (i := 1) rfl
      have f_r_1_w11 := x_r.frozen 1
      have c_r_2_w11 := x_r.cell (i := 2) rfl
      have f_r_2_w11 := x_r.frozen 2
      have c_r_3_w11 := x_r.cell (i := 3) rfl
      have f_r_3_w11 := x_r.frozen 3
      have c_r_4_w11 := x_r.cell (i := 4) rfl
      have f_r_4_w11 := x_r.frozen 4
      have c_r_5_w11 := x_r.cell (i := 5) rfl
      have f_r_5_w11 := x_r.frozen 5
      have c_r_6_w11 := x_r.cell (i := 6) rfl
      have f_r_6_w11 := x_r.frozen 6
      have c_r_7_w11 := x_r.cell (i := 7) rfl
      have f_r_7_w11 := x_r.frozen 7
      have c_r_8_w11 := x_r.cell (i := 8) rfl
      have f_r_8_w11 := x_r.frozen 8
      obtain ⟨w12, e_w12, s_w12, h_w12, y⟩ := set_step x_v 1 (.int .i64 l0)
      have s_w12_1 := Nat.le_of_eq s_w12
      have s_w12_2 := Nat.le_of_eq s_w12.symm
      clear s_w12
      replace x_r := x_r.chg h_w12 (by omega)
      replace o_W := o_W.chg h_w12 (by omega)
      replace o_L := o_L.chg h_w12 (by omega)
      have B_w12 := Below.chg_ B_w11 h_w12 (by omega) (by omega)
      replace x_v : Vr w12 (w1.heap.size) 26 [.int .i64 4, .int .i64 l0, .int .i64 0, .int .i64 0, .int .i64 0, .int .i64 0, .int .i64 0, .int .i64 0, .int .i64 0] := y
      clear y
      have d1 := o_L.1.cell_ (j := 1) (by omega)
      rw [HL1.out] at d1
      have c_v_0_w12 := x_v.cell (i := 0) rfl
      have f_v_0_w12 := x_v.frozen 0
      have c_v_1_w12 := x_v.cell (i := 1) rfl
      have f_v_1_w12 := x_v.frozen 1
      have c_v_2_w12 := x_v.cell (i := 2) rfl
      have f_v_2_w12 := x_v.frozen 2
      have c_v_3_w12 := x_v.cell (i := 3) rfl
      have f_v_3_w12 := x_v.frozen 3
      have c_v_4_w12 := x_v.cell (i := 4) rfl
      have f_v_4_w12 := x_v.frozen 4
      have c_v_5_w12 := x_v.cell (i := 5) rfl
      have f_v_5_w12 := x_v.frozen 5
      have c_v_6_w12 := x_v.cell (i := 6) rfl
      have f_v_6_w12 := x_v.frozen 6
      have c_v_7_w12 := x_v.cell (i := 7) rfl
      have f_v_7_w12 := x_v.frozen 7
      have c_v_8_w12 := x_v.cell (i := 8) rfl
      have f_v_8_w12 := x_v.frozen 8
      have c_r_0_w12 := x_r.cell (i := 0) rfl
      have f_r_0_w12 := x_r.frozen 0
      have c_r_1_w12 := x_r.cell (i := 1) rfl
      have f_r_1_w12 := x_r.frozen 1
      have c_r_2_w12 := x_r.cell (i := 2) rfl
      have f_r_2_w12 := x_r.frozen 2
      have c_r_3_w12 := x_r.cell (i := 3) rfl
      have f_r_3_w12 := x_r.frozen 3
      have c_r_4_w12 := x_r.cell (i := 4) rfl
      have f_r_4_w12 := x_r.frozen 4
      have c_r_5_w12 := x_r.cell (i := 5) rfl
      have f_r_5_w12 := x_r.frozen 5
      have c_r_6_w12 := x_r.cell (i := 6) rfl
      have f_r_6_w12 := x_r.frozen 6
      have c_r_7_w12 := x_r.cell (i := 7) rfl
      have f_r_7_w12 := x_r.frozen 7
      have c_r_8_w12 := x_r.cell (i := 8) rfl
      have f_r_8_w12 := x_r.frozen 8
      obtain ⟨w13, e_w13, s_w13, h_w13, y⟩ := set_step x_v 2 (.int .i64 l1)
      have s_w13_1 := Nat.le_of_eq s_w13
      have s_w13_2 := Nat.le_of_eq s_w13.symm
      clear s_w13
      replace x_r := x_r.chg h_w13 (by omega)
      replace o_W := o_W.chg h_w13 (by omega)
      replace o_L := o_L.chg h_w13 (by omega)
      have B_w13 := Below.chg_ B_w12 h_w13 (by omega) (by omega)
      replace x_v : Vr w13 (w1.heap.size) 26 [.int .i64 4, .int .i64 l0, .int .i64 l1, .int .i64 0, .int .i64 0, .int .i64 0, .int .i64 0, .int .i64 0, .int .i64 0] := y
      clear y
      have d2 := o_L.1.cell_ (j := 2) (by omega)
      rw [HL2.out] at d2
      have c_v_0_w13 := x_v.cell (i := 0) rfl
      have f_v_0_w13 := x_v.frozen 0
      have c_v_1_w13 := x_v.cell (i := 1) rfl
      have f_v_1_w13 := x_v.frozen 1
      have c_v_2_w13 := x_v.cell (i := 2) rfl
      have f_v_2_w13 := x_v.frozen 2
      have c_v_3_w13 := x_v.cell (i := 3) rfl
      have f_v_3_w13 := x_v.frozen 3
      have c_v_4_w13 := x_v.cell (i := 4) rfl
      have f_v_4_w13 := x_v.frozen 4
      have c_v_5_w13 := x_v.cell (i := 5) rfl
      have f_v_5_w13 := x_v.frozen 5
      have c_v_6_w13 := x_v.cell (i := 6) rfl
      have f_v_6_w13 := x_v.frozen 6
      have c_v_7_w13 := x_v.cell (i := 7) rfl
      have f_v_7_w13 := x_v.frozen 7
      have c_v_8_w13 := x_v.cell (i := 8) rfl
      have f_v_8_w13 := x_v.frozen 8
      have c_r_0_w13 := x_r.cell (i := 0) rfl
      have f_r_0_w13 := x_r.frozen 0
      have c_r_1_w13 := x_r.cell (i := 1) rfl
      have f_r_1_w13 := x_r.frozen 1
      have c_r_2_w13 := x_r.cell (i := 2) rfl
      have f_r_2_w13 := x_r.frozen 2
      have c_r_3_w13 := x_r.cell (i := 3) rfl
      have f_r_3_w13 := x_r.frozen 3
      have c_r_4_w13 := x_r.cell (i := 4) rfl
      have f_r_4_w13 := x_r.frozen 4
      have c_r_5_w13 := x_r.cell (i := 5) rfl
      have f_r_5_w13 := x_r.frozen 5
      have c_r_6_w13 := x_r.cell (i := 6) rfl
      have f_r_6_w13 := x_r.frozen 6
      have c_r_7_w13 := x_r.cell (i := 7) rfl
      have f_r_7_w13 := x_r.frozen 7
      have c_r_8_w13 := x_r.cell (i := 8) rfl
      have f_r_8_w13 := x_r.frozen 8
      obtain ⟨w14, e_w14, s_w14, h_w14, y⟩ := set_step x_v 3 (.int .i64 l2)
      have s_w14_1 := Nat.le_of_eq s_w14
      have s_w14_2 := Nat.le_of_eq s_w14.symm
      clear s_w14
      replace x_r := x_r.chg h_w14 (by omega)
      replace o_W := o_W.chg h_w14 (by omega)
      replace o_L := o_L.chg h_w14 (by omega)
      have B_w14 := Below.chg_ B_w13 h_w14 (by omega) (by omega)
      replace x_v : Vr w14 (w1.heap.size) 26 [.int .i64 4, .int .i64 l0, .int .i64 l1, .int .i64 l2, .int .i64 0, .int .i64 0, .int .i64 0, .int .i64 0, .int .i64 0] := y
      clear y
      have d3 := o_L.1.cell_ (j := 3) (by omega)
      rw [HL3.out] at d3
      have c_v_0_w14 := x_v.cell (i := 0) rfl
      have f_v_0_w14 := x_v.frozen 0
      have c_v_1_w14 := x_v.cell (i := 1) rfl
      have f_v_1_w14 := x_v.frozen 1
      have c_v_2_w14 := x_v.cell (i := 2) rfl
      have f_v_2_w14 := x_v.frozen 2
      have c_v_3_w14 := x_v.cell (i := 3) rfl
      have f_v_3_w14 := x_v.frozen 3
      have c_v_4_w14 := x_v.cell (i := 4) rfl
      have f_v_4_w14 := x_v.frozen 4
      have c_v_5_w14 := x_v.cell (i := 5) rfl
      have f_v_5_w14 := x_v.frozen 5
      have c_v_6_w14 := x_v.cell (i := 6) rfl
      have f_v_6_w14 := x_v.frozen 6
      have c_v_7_w14 := x_v.cell (i := 7) rfl
      have f_v_7_w14 := x_v.frozen 7
      have c_v_8_w14 := x_v.cell (i := 8) rfl
      have f_v_8_w14 := x_v.frozen 8
      have c_r_0_w14 := x_r.cell (i := 0) rfl
      have f_r_0_w14 := x_r.frozen 0
      have c_r_1_w14 := x_r.cell (i := 1) rfl
      have f_r_1_w14 := x_r.frozen 1
      have c_r_2_w14 := x_r.cell (i := 2) rfl
      have f_r_2_w14 := x_r.frozen 2
      have c_r_3_w14 := x_r.cell (i := 3) rfl
      have f_r_3_w14 := x_r.frozen 3
      have c_r_4_w14 := x_r.cell (i := 4) rfl
      have f_r_4_w14 := x_r.frozen 4
      have c_r_5_w14 := x_r.cell (i := 5) rfl
      have f_r_5_w14 := x_r.frozen 5
      have c_r_6_w14 := x_r.cell (i := 6) rfl
      have f_r_6_w14 := x_r.frozen 6
      have c_r_7_w14 := x_r.cell (i := 7) rfl
      have f_r_7_w14 := x_r.frozen 7
      have c_r_8_w14 := x_r.cell (i := 8) rfl
      have f_r_8_w14 := x_r.frozen 8
      obtain ⟨w15, e_w15, s_w15, h_w15, y⟩ := set_step x_v 4 (.int .i64 l3)
      have s_w15_1 := Nat.le_of_eq s_w15
      have s_w15_2 := Nat.le_of_eq s_w15.symm
      clear s_w15
      replace x_r := x_r.chg h_w15 (by omega)
      replace o_W := o_W.chg h_w15 (by omega)
      replace o_L := o_L.chg h_w15 (by omega)
      have B_w15 := Below.chg_ B_w14 h_w15 (by omega) (by omega)
      replace x_v : Vr w15 (w1.heap.size) 26 [.int .i64 4, .int .i64 l0, .int .i64 l1, .int .i64 l2, .int .i64 l3, .int .i64 0, .int .i64 0, .int .i64 0, .int .i64 0] := y
      clear y
      have c_v_0_w15 := x_v.cell (i := 0) rfl
      have f_v_0_w15 := x_v.frozen 0
      have c_v_1_w15 := x_v.cell (i := 1) rfl
      have f_v_1_w15 := x_v.frozen 1
      have c_v_2_w15 := x_v.cell (i := 2) rfl
      have f_v_2_w15 := x_v.frozen 2
      have c_v_3_w15 := x_v.cell (i := 3) rfl
      have f_v_3_w15 := x_v.frozen 3
      have c_v_4_w15 := x_v.cell (i := 4) rfl
      have f_v_4_w15 := x_v.frozen 4
      have c_v_5_w15 := x_v.cell (i := 5) rfl
      have f_v_5_w15 := x_v.frozen 5
      have c_v_6_w15 := x_v.cell (i := 6) rfl
      have f_v_6_w15 := x_v.frozen 6
      have c_v_7_w15 := x_v.cell (i := 7) rfl
      have f_v_7_w15 := x_v.frozen 7
      have c_v_8_w15 := x_v.cell (i := 8) rfl
      have f_v_8_w15 := x_v.frozen 8
      have c_r_0_w15 := x_r.cell (i := 0) rfl
      have f_r_0_w15 := x_r.frozen 0
      have c_r_1_w15 := x_r.cell (i := 1) rfl
      have f_r_1_w15 := x_r.frozen 1
      have c_r_2_w15 := x_r.cell (i := 2) rfl
      have f_r_2_w15 := x_r.frozen 2
      have c_r_3_w15 := x_r.cell (i := 3) rfl
      have f_r_3_w15 := x_r.frozen 3
      have c_r_4_w15 := x_r.cell (i := 4) rfl
      have f_r_4_w15 := x_r.frozen 4
      have c_r_5_w15 := x_r.cell (i := 5) rfl
      have f_r_5_w15 := x_r.frozen 5
      have c_r_6_w15 := x_r.cell (i := 6) rfl
      have f_r_6_w15 := x_r.frozen 6
      have c_r_7_w15 := x_r.cell (i := 7) rfl
      have f_r_7_w15 := x_r.frozen 7
      have c_r_8_w15 := x_r.cell (i := 8) rfl
      have f_r_8_w15 := x_r.frozen 8
      have HR : Hid (recOf (splitL s 32) = ⟨4, l0, l1, l2, l3, ⟨0, 0, 0, 0⟩⟩) := by
        show _ = _
        unfold recOf
        rw [HWS.out, HX.out, HK.out, HL.out, ← HL0.out, ← HL1.out, ← HL2.out, ← HL3.out]
        rfl
      obtain ⟨T, hT⟩ : ∃ T, recText ⟨4, l0, l1, l2, l3, ⟨0, 0, 0, 0⟩⟩ = T := ⟨_, rfl⟩
      obtain ⟨ok, hok⟩ : ∃ b, recOkB ⟨4, l0, l1, l2, l3, ⟨0, 0, 0, 0⟩⟩ = b := ⟨_, rfl⟩
      have hE := str_empty T
      have hE1 := recText_empty ⟨4, l0, l1, l2, l3, ⟨0, 0, 0, 0⟩⟩
      rw [hT, hok] at hE1
      rw [hE1] at hE
      clear hE1
      have HT := Lib.hid hT
      have HOK := Lib.hid hok
      clear hT hok
      have rv : RV recL w15 (.agg #[.int .i64 4, .int .i64 l0, .int .i64 l1, .int .i64 l2, .int .i64 l3, .int .i64 0, .int .i64 0, .int .i64 0, .int .i64 0]) ⟨4, l0, l1, l2, l3, ⟨0, 0, 0, 0⟩⟩ := rv_rec_mk (zM := ⟨0, 0, 0, 0⟩)
      go_wp2_with fail
      refine (sRecText_c rv).mono ?_
      rintro e w16 ⟨rfl, h_w16⟩
      clear c_v_0_w11 f_v_0_w11 c_v_1_w11 f_v_1_w11 c_v_2_w11 f_v_2_w11 c_v_3_w11 f_v_3_w11 c_v_4_w11 f_v_4_w11 c_v_5_w11 f_v_5_w11 c_v_6_w11 f_v_6_w11 c_v_7_w11 f_v_7_w11 c_v_8_w11 f_v_8_w11 c_r_0_w11 f_r_0_w11 c_r_1_w11 f_r_1_w11 c_r_2_w11 f_r_2_w11 c_r_3_w11 f_r_3_w11 c_r_4_w11 f_r_4_w11 c_r_5_w11 f_r_5_w11 c_r_6_w11 f_r_6_w11 c_r_7_w11 f_r_7_w11 c_r_8_w11 f_r_8_w11 d0 c_v_0_w12 f_v_0_w12 c_v_1_w12 f_v_1_w12 c_v_2_w12 f_v_2_w12 c_v_3_w12 f_v_3_w12 c_v_4_w12 f_v_4_w12 c_v_5_w12 f_v_5_w12 c_v_6_w12 f_v_6_w12 c_v_7_w12 f_v_7_w12 c_v_8_w12 f_v_8_w12 c_r_0_w12 f_r_0_w12 c_r_1_w12 f_r_1_w12 c_r_2_w12 f_r_2_w12 c_r_3_w12 f_r_3_w12 c_r_4_w12 f_r_4_w12 c_r_5_w12 f_r_5_w12 c_r_6_w12 f_r_6_w12 c_r_7_w12 f_r_7_w12 c_r_8_w12 f_r_8_w12 d1 c_v_0_w13 f_v_0_w13 c_v_1_w13 f_v_1_w13 c_v_2_w13 f_v_2_w13 c_v_3_w13 f_v_3_w13 c_v_4_w13 f_v_4_w13 c_v_5_w13 f_v_5_w13 c_v_6_w13 f_v_6_w13 c_v_7_w13 f_v_7_w13 c_v_8_w13 f_v_8_w13 c_r_0_w13 f_r_0_w13 c_r_1_w13 f_r_1_w13 c_r_2_w13 f_r_2_w13 c_r_3_w13 f_r_3_w13 c_r_4_w13 f_r_4_w13 c_r_5_w13 f_r_5_w13 c_r_6_w13 f_r_6_w13 c_r_7_w13 f_r_7_w13 c_r_8_w13 f_r_8_w13 d2 c_v_0_w14 f_v_0_w14 c_v_1_w14 f_v_1_w14 c_v_2_w14 f_v_2_w14 c_v_3_w14 f_v_3_w14 c_v_4_w14 f_v_4_w14 c_v_5_w14 f_v_5_w14 c_v_6_w14 f_v_6_w14 c_v_7_w14 f_v_7_w14 c_v_8_w14 f_v_8_w14 c_r_0_w14 f_r_0_w14 c_r_1_w14 f_r_1_w14 c_r_2_w14 f_r_2_w14 c_r_3_w14 f_r_3_w14 c_r_4_w14 f_r_4_w14 c_r_5_w14 f_r_5_w14 c_r_6_w14 f_r_6_w14 c_r_7_w14 f_r_7_w14 c_r_8_w14 f_r_8_w14 d3 c_v_0_w15 f_v_0_w15 c_v_1_w15 f_v_1_w15 c_v_2_w15 f_v_2_w15 c_v_3_w15 f_v_3_w15 c_v_4_w15 f_v_4_w15 c_v_5_w15 f_v_5_w15 c_v_6_w15 f_v_6_w15 c_v_7_w15 f_v_7_w15 c_v_8_w15 f_v_8_w15 c_r_0_w15 f_r_0_w15 c_r_1_w15 f_r_1_w15 c_r_2_w15 f_r_2_w15 c_r_3_w15 f_r_3_w15 c_r_4_w15 f_r_4_w15 c_r_5_w15 f_r_5_w15 c_r_6_w15 f_r_6_w15 c_r_7_w15 f_r_7_w15 c_r_8_w15 f_r_8_w15
      replace x_r := x_r.from_ h_w16
      replace x_v := x_v.from_ h_w16
      replace o_W := o_W.below h_w16
      replace o_L := o_L.below h_w16
      have B_w16 := B_w15.trans (h_w16.mono B_w15.size)
      have s_w16 := h_w16.size
      rw [HT.out]
      clear rv
      have c_v_0_w16 := x_v.cell (i := 0) rfl
      have f_v_0_w16 := x_v.frozen 0
      have c_v_1_w16 := x_v.cell (i := 1) rfl
      have f_v_1_w16 := x_v.frozen 1
      have c_v_2_w16 := x_v.cell (i := 2) rfl
      have f_v_2_w16 := x_v.frozen 2
      have c_v_3_w16 := x_v.cell (i := 3) rfl
      have f_v_3_w16 := x_v.frozen 3
      have c_v_4_w16 := x_v.cell (i := 4) rfl
      have f_v_4_w16 := x_v.frozen 4
      have c_v_5_w16 := x_v.cell (i := 5) rfl
      have f_v_5_w16 := x_v.frozen 5
      have c_v_6_w16 := x_v.cell (i := 6) rfl
      have f_v_6_w16 := x_v.frozen 6
      have c_v_7_w16 := x_v.cell (i := 7) rfl
      have f_v_7_w16 := x_v.frozen 7
      have c_v_8_w16 := x_v.cell (i := 8) rfl
      have f_v_8_w16 := x_v.frozen 8
      have c_r_0_w16 := x_r.cell (i := 0) rfl
      have f_r_0_w16 := x_r.frozen 0
      have c_r_1_w16 := x_r.cell (i := 1) rfl
      have f_r_1_w16 := x_r.frozen 1
      have c_r_2_w16 := x_r.cell (i := 2) rfl
      have f_r_2_w16 := x_r.frozen 2
      have c_r_3_w16 := x_r.cell (i := 3) rfl
      have f_r_3_w16 := x_r.frozen 3
      have c_r_4_w16 := x_r.cell (i := 4) rfl
      have f_r_4_w16 := x_r.frozen 4
      have c_r_5_w16 := x_r.cell (i := 5) rfl
      have f_r_5_w16 := x_r.frozen 5
      have c_r_6_w16 := x_r.cell (i := 6) rfl
      have f_r_6_w16 := x_r.frozen 6
      have c_r_7_w16 := x_r.cell (i := 7) rfl
      have f_r_7_w16 := x_r.frozen 7
      have c_r_8_w16 := x_r.cell (i := 8) rfl
      have f_r_8_w16 := x_r.frozen 8
      cases ok
      case false =>
        have hE2 : (T.toList == []) = true := hE
        clear hE
        have HF : Hid (textRecB s = false) := by show _ = _; unfold textRecB; rw [HR.out, HOK.out]; rfl
        have i_r_0 := x_r.same (i := 0) rfl
        have i_r_1 := x_r.same (i := 1) rfl
        have i_r_2 := x_r.same (i := 2) rfl
        have i_r_3 := x_r.same (i := 3) rfl
        have i_r_4 := x_r.same (i := 4) rfl
        have i_r_5 := x_r.same (i := 5) rfl
        have i_r_6 := x_r.same (i := 6) rfl
        have i_r_7 := x_r.same (i := 7) rfl
        have i_r_8 := x_r.same (i := 8) rfl
        have HF2 : Hid (textRec s = recZ) := by show _ = _; unfold textRec; rw [HF.out]; rfl
        go_wp2
        refine ret_cell_tmp (by rfl) (by rfl) x_r Tryd.underlying26 sz_rec (by rfl) ?_
        rw [HF.out, HF2.out]
        exact ⟨_, rfl, ov_rec (d := recZ) (Nat.le_refl _), B_w16⟩
      case true =>
        have hE2 : (T.toList == []) = false := hE
        clear hE
        have rv : RV recL w16 (.agg #[.int .i64 4, .int .i64 l0, .int .i64 l1, .int .i64 l2, .int .i64 l3, .int .i64 0, .int .i64 0, .int .i64 0, .int .i64 0]) ⟨4, l0, l1, l2, l3, ⟨0, 0, 0, 0⟩⟩ := rv_rec_mk (zM := ⟨0, 0, 0, 0⟩)
        go_wp2_with fail
        refine (sRecText_c rv).mono ?_
        rintro e w17 ⟨rfl, h_w17⟩
        clear c_v_0_w16 f_v_0_w16 c_v_1_w16 f_v_1_w16 c_v_2_w16 f_v_2_w16 c_v_3_w16 f_v_3_w16 c_v_4_w16 f_v_4_w16 c_v_5_w16 f_v_5_w16 c_v_6_w16 f_v_6_w16 c_v_7_w16 f_v_7_w16 c_v_8_w16 f_v_8_w16 c_r_0_w16 f_r_0_w16 c_r_1_w16 f_r_1_w16 c_r_2_w16 f_r_2_w16 c_r_3_w16 f_r_3_w16 c_r_4_w16 f_r_4_w16 c_r_5_w16 f_r_5_w16 c_r_6_w16 f_r_6_w16 c_r_7_w16 f_r_7_w16 c_r_8_w16 f_r_8_w16
        replace x_r := x_r.from_ h_w17
        replace x_v := x_v.from_ h_w17
        replace o_W := o_W.below h_w17
        replace o_L := o_L.below h_w17
        have B_w17 := B_w16.trans (h_w17.mono B_w16.size)
        have s_w17 := h_w17.size
        rw [HT.out]
        clear rv
        have c_v_0_w17 := x_v.cell (i := 0) rfl
        have f_v_0_w17 := x_v.frozen 0
        have c_v_1_w17 := x_v.cell (i := 1) rfl
        have f_v_1_w17 := x_v.frozen 1
        have c_v_2_w17 := x_v.cell (i := 2) rfl
        have f_v_2_w17 := x_v.frozen 2
        have c_v_3_w17 := x_v.cell (i := 3) rfl
        have f_v_3_w17 := x_v.frozen 3
        have c_v_4_w17 := x_v.cell (i := 4) rfl
        have f_v_4_w17 := x_v.frozen 4
        have c_v_5_w17 := x_v.cell (i := 5) rfl
        have f_v_5_w17 := x_v.frozen 5
        have c_v_6_w17 := x_v.cell (i := 6) rfl
        have f_v_6_w17 := x_v.frozen 6
        have c_v_7_w17 := x_v.cell (i := 7) rfl
        have f_v_7_w17 := x_v.frozen 7
        have c_v_8_w17 := x_v.cell (i := 8) rfl
        have f_v_8_w17 := x_v.frozen 8
        have c_r_0_w17 := x_r.cell (i := 0) rfl
        have f_r_0_w17 := x_r.frozen 0
        have c_r_1_w17 := x_r.cell (i := 1) rfl
        have f_r_1_w17 := x_r.frozen 1
        have c_r_2_w17 := x_r.cell (i := 2) rfl
        have f_r_2_w17 := x_r.frozen 2
        have c_r_3_w17 := x_r.cell (i := 3) rfl
        have f_r_3_w17 := x_r.frozen 3
        have c_r_4_w17 := x_r.cell (i := 4) rfl
        have f_r_4_w17 := x_r.frozen 4
        have c_r_5_w17 := x_r.cell (i := 5) rfl
        have f_r_5_w17 := x_r.frozen 5
        have c_r_6_w17 := x_r.cell (i := 6) rfl
        have f_r_6_w17 := x_r.frozen 6
        have c_r_7_w17 := x_r.cell (i := 7) rfl
        have f_r_7_w17 := x_r.frozen 7
        have c_r_8_w17 := x_r.cell (i := 8) rfl
        have f_r_8_w17 := x_r.frozen 8
        by_cases hTs : T = s
        case neg =>
          have hE3 : (T.toList == s.toList) = false := by rw [beq_str]; exact decide_eq_false hTs
          have HF : Hid (textRecB s = false) := by show _ = _; unfold textRecB; rw [HR.out, HOK.out, HT.out]; simpa using hTs
          clear hTs
          have i_r_0 := x_r.same (i := 0) rfl
          have i_r_1 := x_r.same (i := 1) rfl
          have i_r_2 := x_r.same (i := 2) rfl
          have i_r_3 := x_r.same (i := 3) rfl
          have i_r_4 := x_r.same (i := 4) rfl
          have i_r_5 := x_r.same (i := 5) rfl
          have i_r_6 := x_r.same (i := 6) rfl
          have i_r_7 := x_r.same (i := 7) rfl
          have i_r_8 := x_r.same (i := 8) rfl
          have HF2 : Hid (textRec s = recZ) := by show _ = _; unfold textRec; rw [HF.out]; rfl
          go_wp2
          refine ret_cell_tmp (by rfl) (by rfl) x_r Tryd.underlying26 sz_rec (by rfl) ?_
          rw [HF.out, HF2.out]
          exact ⟨_, rfl, ov_rec (d := recZ) (Nat.le_refl _), B_w17⟩
        have hE3 : (T.toList == s.toList) = true := by rw [beq_str]; exact decide_eq_true hTs
        have HF : Hid (textRecB s = true) := by show _ = _; unfold textRecB; rw [HR.out, HOK.out, HT.out]; simpa using hTs
        clear hTs
        have HF2 : Hid (textRec s = ⟨4, l0, l1, l2, l3, ⟨0, 0, 0, 0⟩⟩) := by show _ = _; unfold textRec; rw [HF.out, HR.out]; rfl
        obtain ⟨w18, e_w18, s_w18, h_w18, y⟩ := store_step x_r [.int .i64 4, .int .i64 l0, .int .i64 l1, .int .i64 l2, .int .i64 l3, .int .i64 0, .int .i64 0, .int .i64 0, .int .i64 0] rfl
        replace e_w18 : (((((((((w17.setCell ⟨w.heap.size, 0, none⟩ (.int .i64 4)).setCell ⟨w.heap.size, 1, none⟩ (.int .i64 l0)).setCell ⟨w.heap.size, 2, none⟩ (.int .i64 l1)).setCell ⟨w.heap.size, 3, none⟩ (.int .i64 l2)).setCell ⟨w.heap.size, 4, none⟩ (.int .i64 l3)).setCell ⟨w.heap.size, 5, none⟩ (.int .i64 0)).setCell ⟨w.heap.size, 6, none⟩ (.int .i64 0)).setCell ⟨w.heap.size, 7, none⟩ (.int .i64 0)).setCell ⟨w.heap.size, 8, none⟩ (.int .i64 0)) = w18 := e_w18
        have s_w18_1 := Nat.le_of_eq s_w18
        have s_w18_2 := Nat.le_of_eq s_w18.symm
        clear s_w18
        replace x_v := x_v.chg h_w18 (by omega)
        replace o_W := o_W.chg h_w18 (by omega)
        replace o_L := o_L.chg h_w18 (by omega)
        have B_w18 := Below.chg_ B_w17 h_w18 (by omega) (by omega)
        replace x_r : Vr w18 (w.heap.size) 26 [.int .i64 4, .int .i64 l0, .int .i64 l1, .int .i64 l2, .int .i64 l3, .int .i64 0, .int .i64 0, .int .i64 0, .int .i64 0] := y
        clear y
        have c_r_0_w18 := x_r.cell (i := 0) rfl
        have f_r_0_w18 := x_r.frozen 0
        have c_r_1_w18 := x_r.cell (i := 1) rfl
        have f_r_1_w18 := x_r.frozen 1
        have c_r_2_w18 := x_r.cell (i := 2) rfl
        have f_r_2_w18 := x_r.frozen 2
        have c_r_3_w18 := x_r.cell (i := 3) rfl
        have f_r_3_w18 := x_r.frozen 3
        have c_r_4_w18 := x_r.cell (i := 4) rfl
        have f_r_4_w18 := x_r.frozen 4
        have c_r_5_w18 := x_r.cell (i := 5) rfl
        have f_r_5_w18 := x_r.frozen 5
        have c_r_6_w18 := x_r.cell (i := 6) rfl
        have f_r_6_w18 := x_r.frozen 6
        have c_r_7_w18 := x_r.cell (i := 7) rfl
        have f_r_7_w18 := x_r.frozen 7
        have c_r_8_w18 := x_r.cell (i := 8) rfl
        have f_r_8_w18 := x_r.frozen 8
        go_wp2
        refine ret_cell_tmp (by rfl) (by rfl) x_r Tryd.underlying26 sz_rec (by rfl) ?_
        rw [HF.out, HF2.out]
        exact ⟨_, rfl, ov_rec (d := ⟨4, l0, l1, l2, l3, ⟨0, 0, 0, 0⟩⟩) (Nat.le_refl _), B_w18⟩
    · -- 5
      have c_v_0_wr := x_v.cell (i := 0) rfl
      have f_v_0_wr := x_v.frozen 0
      have c_v_1_wr := x_v.cell (i := 1) rfl
      have f_v_1_wr := x_v.frozen 1
      have c_v_2_wr := x_v.cell (i := 2) rfl
      have f_v_2_wr := x_v.frozen 2
      have c_v_3_wr := x_v.cell (i := 3) rfl
      have f_v_3_wr := x_v.frozen 3
      have c_v_4_wr := x_v.cell (i := 4) rfl
      have f_v_4_wr := x_v.frozen 4
      have c_v_5_wr := x_v.cell (i := 5) rfl
      have f_v_5_wr := x_v.frozen 5
      have c_v_6_wr := x_v.cell (i := 6) rfl
      have f_v_6_wr := x_v.frozen 6
      have c_v_7_wr := x_v.cell (i := 7) rfl
      have f_v_7_wr := x_v.frozen 7
      have c_v_8_wr := x_v.cell (i := 8) rfl
      have f_v_8_wr := x_v.frozen 8
      have c_r_0_wr := x_r.cell (i := 0) rfl
      have f_r_0_wr := x_r.frozen 0
      have c_r_1_wr := x_r.cell (i := 1) rfl
      have f_r_1_wr := x_r.frozen 1
      have c_r_2_wr := x_r.cell (i := 2) rfl
      have f_r_2_wr := x_r.frozen 2
      have c_r_3_wr := x_r.cell (i := 3) rfl
      have f_r_3_wr := x_r.frozen 3
      have c_r_4_wr := x_r.cell (i := 4) rfl
      have f_r_4_wr := x_r.frozen 4
      have c_r_5_wr := x_r.cell (i := 5) rfl
      have f_r_5_wr := x_r.frozen 5
      have c_r_6_wr := x_r.cell (i := 6) rfl
      have f_r_6_wr := x_r.frozen 6
      have c_r_7_wr := x_r.cell (i := 7) rfl
      have f_r_7_wr := x_r.frozen 7
      have c_r_8_wr := x_r.cell (i := 8) rfl
      have f_r_8_wr := x_r.frozen 8
      go_wp2_with fail
      refine (sHas_5 _).mono ?_
      rintro e w' ⟨rfl, rfl⟩
      go_wp2_with fail
      refine (sNums1_c (o_W.rd) hwz2 hwm).mono ?_
      rintro e w11 ⟨vL, rfl, o_L, h_w11⟩
      clear c_v_0_wr f_v_0_wr c_v_1_wr f_v_1_wr c_v_2_wr f_v_2_wr c_v_3_wr f_v_3_wr c_v_4_wr f_v_4_wr c_v_5_wr f_v_5_wr c_v_6_wr f_v_6_wr c_v_7_wr f_v_7_wr c_v_8_wr f_v_8_wr c_r_0_wr f_r_0_wr c_r_1_wr f_r_1_wr c_r_2_wr f_r_2_wr c_r_3_wr f_r_3_wr c_r_4_wr f_r_4_wr c_r_5_wr f_r_5_wr c_r_6_wr f_r_6_wr c_r_7_wr f_r_7_wr c_r_8_wr f_r_8_wr
      replace x_r := x_r.from_ h_w11
      replace x_v := x_v.from_ h_w11
      replace o_W := o_W.below h_w11
      have B_w11 := HB.trans (h_w11.mono HB.size)
      have s_w11 := h_w11.size
      rw [HL.out] at o_L
      obtain ⟨bL, cL, rfl⟩ := own_slice64 o_L (by omega)
      have j0 : (0 : Int) < (L.length : Int) := by omega
      have j1 : (1 : Int) < (L.length : Int) := by omega
      have j2 : (2 : Int) < (L.length : Int) := by omega
      have j3 : (3 : Int) < (L.length : Int) := by omega
      have d0 := o_L.1.cell_ (j := 0) (by omega)
      rw [HL0.out] at d0
      have c_v_0_w11 := x_v.cell (i := 0) rfl
      have f_v_0_w11 := x_v.frozen 0
      have c_v_1_w11 := x_v.cell (i := 1) rfl
      have f_v_1_w11 := x_v.frozen 1
      have c_v_2_w11 := x_v.cell (i := 2) rfl
      have f_v_2_w11 := x_v.frozen 2
      have c_v_3_w11 := x_v.cell (i := 3) rfl
      have f_v_3_w11 := x_v.frozen 3
      have c_v_4_w11 := x_v.cell (i := 4) rfl
      have f_v_4_w11 := x_v.frozen 4
      have c_v_5_w11 := x_v.cell (i := 5) rfl
      have f_v_5_w11 := x_v.frozen 5
      have c_v_6_w11 := x_v.cell (i := 6) rfl
      have f_v_6_w11 := x_v.frozen 6
      have c_v_7_w11 := x_v.cell (i := 7) rfl
      have f_v_7_w11 := x_v.frozen 7
      have c_v_8_w11 := x_v.cell (i := 8) rfl
      have f_v_8_w11 := x_v.frozen 8
      have c_r_0_w11 := x_r.cell (i := 0) rfl
      have f_r_0_w11 := x_r.frozen 0
      have c_r_1_w11 := x_r.cell (i := 1) rfl
      have f_r_1_w11 := x_r.frozen 1
      have c_r_2_w11 := x_r.cell (i := 2) rfl
      have f_r_2_w11 := x_r.frozen 2
      have c_r_3_w11 := x_r.cell (i := 3) rfl
      have f_r_3_w11 := x_r.frozen 3
      have c_r_4_w11 := x_r.cell (i := 4) rfl
      have f_r_4_w11 := x_r.frozen 4
      have c_r_5_w11 := x_r.cell (i := 5) rfl
      have f_r_5_w11 := x_r.frozen 5
      have c_r_6_w11 := x_r.cell (i := 6) rfl
      have f_r_6_w11 := x_r.frozen 6
      have c_r_7_w11 := x_r.cell (i := 7) rfl
      have f_r_7_w11 := x_r.frozen 7
      have c_r_8_w11 := x_r.cell (i := 8) rfl
      have f_r_8_w11 := x_r.frozen 8
      obtain ⟨w12, e_w12, s_w12, h_w12, y⟩ := set_step x_v 3 (.int .i64 l0)
      have s_w12_1 := Nat.le_of_eq s_w12
      have s_w12_2 := Nat.le_of_eq s_w12.symm
      clear s_w12
      replace x_r := x_r.chg h_w12 (by omega)
      replace o_W := o_W.chg h_w12 (by omega)
      replace o_L := o_L.chg h_w12 (by omega)
      have B_w12 := Below.chg_ B_w11 h_w12 (by omega) (by omega)
      replace x_v : Vr w12 (w1.heap.size) 26 [.int .i64 5, .int .i64 0, .int .i64 0, .int .i64 l0, .int .i64 0, .int .i64 0, .int .i64 0, .int .i64 0, .int .i64 0] := y
      clear y
      have d1 := o_L.1.cell_ (j := 1) (by omega)
      rw [HL1.out] at d1
      have c_v_0_w12 := x_v.cell (i := 0) rfl
      have f_v_0_w12 := x_v.frozen 0
      have c_v_1_w12 := x_v.cell (i := 1) rfl
      have f_v_1_w12 := x_v.frozen 1
      have c_v_2_w12 := x_v.cell (i := 2) rfl
      have f_v_2_w12 := x_v.frozen 2
      have c_v_3_w12 := x_v.cell (i := 3) rfl
      have f_v_3_w12 := x_v.frozen 3
      have c_v_4_w12 := x_v.cell (i := 4) rfl
      have f_v_4_w12 := x_v.frozen 4
      have c_v_5_w12 := x_v.cell (i := 5) rfl
      have f_v_5_w12 := x_v.frozen 5
      have c_v_6_w12 := x_v.cell (i := 6) rfl
      have f_v_6_w12 := x_v.frozen 6
      have c_v_7_w12 := x_v.cell (i := 7) rfl
      have f_v_7_w12 := x_v.frozen 7
      have c_v_8_w12 := x_v.cell (i := 8) rfl
      have f_v_8_w12 := x_v.frozen 8
      have c_r_0_w12 := x_r.cell (i := 0) rfl
      have f_r_0_w12 := x_r.frozen 0
      have c_r_1_w12 := x_r.cell (i := 1) rfl
      have f_r_1_w12 := x_r.frozen 1
      have c_r_2_w12 := x_r.cell (i := 2) rfl
      have f_r_2_w12 := x_r.frozen 2
      have c_r_3_w12 := x_r.cell (i := 3) rfl
      have f_r_3_w12 := x_r.frozen 3
      have c_r_4_w12 := x_r.cell (i := 4) rfl
      have f_r_4_w12 := x_r.frozen 4
      have c_r_5_w12 := x_r.cell (i := 5) rfl
      have f_r_5_w12 := x_r.frozen 5
      have c_r_6_w12 := x_r.cell (i := 6) rfl
      have f_r_6_w12 := x_r.frozen 6
      have c_r_7_w12 := x_r.cell (i := 7) rfl
      have f_r_7_w12 := x_r.frozen 7
      have c_r_8_w12 := x_r.cell (i := 8) rfl
      have f_r_8_w12 := x_r.frozen 8
      obtain ⟨w13, e_w13, s_w13, h_w13, y⟩ := set_step x_v 4 (.int .i64 l1)
      have s_w13_1 := Nat.le_of_eq s_w13
      have s_w13_2 := Nat.le_of_eq s_w13.symm
      clear s_w13
      replace x_r := x_r.chg h_w13 (by omega)
      replace o_W := o_W.chg h_w13 (by omega)
      replace o_L := o_L.chg h_w13 (by omega)
      have B_w13 := Below.chg_ B_w12 h_w13 (by omega) (by omega)
      replace x_v : Vr w13 (w1.heap.size) 26 [.int .i64 5, .int .i64 0, .int .i64 0, .int .i64 l0, .int .i64 l1, .int .i64 0, .int .i64 0, .int .i64 0, .int .i64 0] := y
      clear y
      have c_v_0_w13 := x_v.cell (i := 0) rfl
      have f_v_0_w13 := x_v.frozen 0
      have c_v_1_w13 := x_v.cell (i := 1) rfl
      have f_v_1_w13 := x_v.frozen 1
      have c_v_2_w13 := x_v.cell (i := 2) rfl
      have f_v_2_w13 := x_v.frozen 2
      have c_v_3_w13 := x_v.cell (i := 3) rfl
      have f_v_3_w13 := x_v.frozen 3
      have c_v_4_w13 := x_v.cell (i := 4) rfl
      have f_v_4_w13 := x_v.frozen 4
      have c_v_5_w13 := x_v.cell (i := 5) rfl
      have f_v_5_w13 := x_v.frozen 5
      have c_v_6_w13 := x_v.cell (i := 6) rfl
      have f_v_6_w13 := x_v.frozen 6
      have c_v_7_w13 := x_v.cell (i := 7) rfl
      have f_v_7_w13 := x_v.frozen 7
      have c_v_8_w13 := x_v.cell (i := 8) rfl
      have f_v_8_w13 := x_v.frozen 8
      have c_r_0_w13 := x_r.cell (i := 0) rfl
      have f_r_0_w13 := x_r.frozen 0
      have c_r_1_w13 := x_r.cell (i := 1) rfl
      have f_r_1_w13 := x_r.frozen 1
      have c_r_2_w13 := x_r.cell (i := 2) rfl
      have f_r_2_w13 := x_r.frozen 2
      have c_r_3_w13 := x_r.cell (i := 3) rfl
      have f_r_3_w13 := x_r.frozen 3
      have c_r_4_w13 := x_r.cell (i := 4) rfl
      have f_r_4_w13 := x_r.frozen 4
      have c_r_5_w13 := x_r.cell (i := 5) rfl
      have f_r_5_w13 := x_r.frozen 5
      have c_r_6_w13 := x_r.cell (i := 6) rfl
      have f_r_6_w13 := x_r.frozen 6
      have c_r_7_w13 := x_r.cell (i := 7) rfl
      have f_r_7_w13 := x_r.frozen 7
      have c_r_8_w13 := x_r.cell (i := 8) rfl
      have f_r_8_w13 := x_r.frozen 8
      obtain ⟨m, hm⟩ : ∃ m, msgOf ws 3 = m := ⟨_, rfl⟩
      have HM := Lib.hid hm
      clear hm
      go_wp2_with fail
      refine (sMsg3_c (o_W.rd) hwz2 hwm).mono ?_
      rintro e w14 ⟨vM, rfl, o_M, h_w14⟩
      clear c_v_0_w11 f_v_0_w11 c_v_1_w11 f_v_1_w11 c_v_2_w11 f_v_2_w11 c_v_3_w11 f_v_3_w11 c_v_4_w11 f_v_4_w11 c_v_5_w11 f_v_5_w11 c_v_6_w11 f_v_6_w11 c_v_7_w11 f_v_7_w11 c_v_8_w11 f_v_8_w11 c_r_0_w11 f_r_0_w11 c_r_1_w11 f_r_1_w11 c_r_2_w11 f_r_2_w11 c_r_3_w11 f_r_3_w11 c_r_4_w11 f_r_4_w11 c_r_5_w11 f_r_5_w11 c_r_6_w11 f_r_6_w11 c_r_7_w11 f_r_7_w11 c_r_8_w11 f_r_8_w11 d0 c_v_0_w12 f_v_0_w12 c_v_1_w12 f_v_1_w12 c_v_2_w12 f_v_2_w12 c_v_3_w12 f_v_3_w12 c_v_4_w12 f_v_4_w12 c_v_5_w12 f_v_5_w12 c_v_6_w12 f_v_6_w12 c_v_7_w12 f_v_7_w12 c_v_8_w12 f_v_8_w12 c_r_0_w12 f_r_0_w12 c_r_1_w12 f_r_1_w12 c_r_2_w12 f_r_2_w12 c_r_3_w12 f_r_3_w12 c_r_4_w12 f_r_4_w12 c_r_5_w12 f_r_5_w12 c_r_6_w12 f_r_6_w12 c_r_7_w12 f_r_7_w12 c_r_8_w12 f_r_8_w12 d1 c_v_0_w13 f_v_0_w13 c_v_1_w13 f_v_1_w13 c_v_2_w13 f_v_2_w13 c_v_3_w13 f_v_3_w13 c_v_4_w13 f_v_4_w13 c_v_5_w13 f_v_5_w13 c_v_6_w13 f_v_6_w13 c_v_7_w13 f_v_7_w13 c_v_8_w13 f_v_8_w13 c_r_0_w13 f_r_0_w13 c_r_1_w13 f_r_1_w13 c_r_2_w13 f_r_2_w13 c_r_3_w13 f_r_3_w13 c_r_4_w13 f_r_4_w13 c_r_5_w13 f_r_5_w13 c_r_6_w13 f_r_6_w13 c_r_7_w13 f_r_7_w13 c_r_8_w13 f_r_8_w13
      replace x_r := x_r.from_ h_w14
      replace x_v := x_v.from_ h_w14
      replace o_W := o_W.below h_w14
      replace o_L := o_L.below h_w14
      have B_w14 := B_w13.trans (h_w14.mono B_w13.size)
      have s_w14 := h_w14.size
      rw [HM.out] at o_M
      obtain rfl := rv_msg o_M.rd
      clear o_M
      have c_v_0_w14 := x_v.cell (i := 0) rfl
      have f_v_0_w14 := x_v.frozen 0
      have c_v_1_w14 := x_v.cell (i := 1) rfl
      have f_v_1_w14 := x_v.frozen 1
      have c_v_2_w14 := x_v.cell (i := 2) rfl
      have f_v_2_w14 := x_v.frozen 2
      have c_v_3_w14 := x_v.cell (i := 3) rfl
      have f_v_3_w14 := x_v.frozen 3
      have c_v_4_w14 := x_v.cell (i := 4) rfl
      have f_v_4_w14 := x_v.frozen 4
      have c_v_5_w14 := x_v.cell (i := 5) rfl
      have f_v_5_w14 := x_v.frozen 5
      have c_v_6_w14 := x_v.cell (i := 6) rfl
      have f_v_6_w14 := x_v.frozen 6
      have c_v_7_w14 := x_v.cell (i := 7) rfl
      have f_v_7_w14 := x_v.frozen 7
      have c_v_8_w14 := x_v.cell (i := 8) rfl
      have f_v_8_w14 := x_v.frozen 8
      have c_r_0_w14 := x_r.cell (i := 0) rfl
      have f_r_0_w14 := x_r.frozen 0
      have c_r_1_w14 := x_r.cell (i := 1) rfl
      have f_r_1_w14 := x_r.frozen 1
      have c_r_2_w14 := x_r.cell (i := 2) rfl
      have f_r_2_w14 := x_r.frozen 2
      have c_r_3_w14 := x_r.cell (i := 3) rfl
      have f_r_3_w14 := x_r.frozen 3
      have c_r_4_w14 := x_r.cell (i := 4) rfl
      have f_r_4_w14 := x_r.frozen 4
      have c_r_5_w14 := x_r.cell (i := 5) rfl
      have f_r_5_w14 := x_r.frozen 5
      have c_r_6_w14 := x_r.cell (i := 6) rfl
      have f_r_6_w14 := x_r.frozen 6
      have c_r_7_w14 := x_r.cell (i := 7) rfl
      have f_r_7_w14 := x_r.frozen 7
      have c_r_8_w14 := x_r.cell (i := 8) rfl
      have f_r_8_w14 := x_r.frozen 8
      obtain ⟨w15, e_w15, s_w15, h_w15, y⟩ := set_step x_v 5 (.int .i64 m.Kind)
      have s_w15_1 := Nat.le_of_eq s_w15
      have s_w15_2 := Nat.le_of_eq s_w15.symm
      clear s_w15
      replace x_r := x_r.chg h_w15 (by omega)
      replace o_W := o_W.chg h_w15 (by omega)
      replace o_L := o_L.chg h_w15 (by omega)
      have B_w15 := Below.chg_ B_w14 h_w15 (by omega) (by omega)
      replace x_v : Vr w15 (w1.heap.size) 26 [.int .i64 5, .int .i64 0, .int .i64 0, .int .i64 l0, .int .i64 l1, .int .i64 m.Kind, .int .i64 0, .int .i64 0, .int .i64 0] := y
      clear y
      have c_v_0_w15 := x_v.cell (i := 0) rfl
      have f_v_0_w15 := x_v.frozen 0
      have c_v_1_w15 := x_v.cell (i := 1) rfl
      have f_v_1_w15 := x_v.frozen 1
      have c_v_2_w15 := x_v.cell (i := 2) rfl
      have f_v_2_w15 := x_v.frozen 2
      have c_v_3_w15 := x_v.cell (i := 3) rfl
      have f_v_3_w15 := x_v.frozen 3
      have c_v_4_w15 := x_v.cell (i := 4) rfl
      have f_v_4_w15 := x_v.frozen 4
      have c_v_5_w15 := x_v.cell (i := 5) rfl
      have f_v_5_w15 := x_v.frozen 5
      have c_v_6_w15 := x_v.cell (i := 6) rfl
      have f_v_6_w15 := x_v.frozen 6
      have c_v_7_w15 := x_v.cell (i := 7) rfl
      have f_v_7_w15 := x_v.frozen 7
      have c_v_8_w15 := x_v.cell (i := 8) rfl
      have f_v_8_w15 := x_v.frozen 8
      have c_r_0_w15 := x_r.cell (i := 0) rfl
      have f_r_0_w15 := x_r.frozen 0
      have c_r_1_w15 := x_r.cell (i := 1) rfl
      have f_r_1_w15 := x_r.frozen 1
      have c_r_2_w15 := x_r.cell (i := 2) rfl
      have f_r_2_w15 := x_r.frozen 2
      have c_r_3_w15 := x_r.cell (i := 3) rfl
      have f_r_3_w15 := x_r.frozen 3
      have c_r_4_w15 := x_r.cell (i := 4) rfl
      have f_r_4_w15 := x_r.frozen 4
      have c_r_5_w15 := x_r.cell (i := 5) rfl
      have f_r_5_w15 := x_r.frozen 5
      have c_r_6_w15 := x_r.cell (i := 6) rfl
      have f_r_6_w15 := x_r.frozen 6
      have c_r_7_w15 := x_r.cell (i := 7) rfl
      have f_r_7_w15 := x_r.frozen 7
      have c_r_8_w15 := x_r.cell (i := 8) rfl
      have f_r_8_w15 := x_r.frozen 8
      obtain ⟨w16, e_w16, s_w16, h_w16, y⟩ := set_step x_v 6 (.int .i64 m.Acct)
      have s_w16_1 := Nat.le_of_eq s_w16
      have s_w16_2 := Nat.le_of_eq s_w16.symm
      clear s_w16
      replace x_r := x_r.chg h_w16 (by omega)
      replace o_W := o_W.chg h_w16 (by omega)
      replace o_L := o_L.chg h_w16 (by omega)
      have B_w16 := Below.chg_ B_w15 h_w16 (by omega) (by omega)
      replace x_v : Vr w16 (w1.heap.size) 26 [.int .i64 5, .int .i64 0, .int .i64 0, .int .i64 l0, .int .i64 l1, .int .i64 m.Kind, .int .i64 m.Acct, .int .i64 0, .int .i64 0] := y
      clear y
      have c_v_0_w16 := x_v.cell (i := 0) rfl
      have f_v_0_w16 := x_v.frozen 0
      have c_v_1_w16 := x_v.cell (i := 1) rfl
      have f_v_1_w16 := x_v.frozen 1
      have c_v_2_w16 := x_v.cell (i := 2) rfl
      have f_v_2_w16 := x_v.frozen 2
      have c_v_3_w16 := x_v.cell (i := 3) rfl
      have f_v_3_w16 := x_v.frozen 3
      have c_v_4_w16 := x_v.cell (i := 4) rfl
      have f_v_4_w16 := x_v.frozen 4
      have c_v_5_w16 := x_v.cell (i := 5) rfl
      have f_v_5_w16 := x_v.frozen 5
      have c_v_6_w16 := x_v.cell (i := 6) rfl
      have f_v_6_w16 := x_v.frozen 6
      have c_v_7_w16 := x_v.cell (i := 7) rfl
      have f_v_7_w16 := x_v.frozen 7
      have c_v_8_w16 := x_v.cell (i := 8) rfl
      have f_v_8_w16 := x_v.frozen 8
      have c_r_0_w16 := x_r.cell (i := 0) rfl
      have f_r_0_w16 := x_r.frozen 0
      have c_r_1_w16 := x_r.cell (i := 1) rfl
      have f_r_1_w16 := x_r.frozen 1
      have c_r_2_w16 := x_r.cell (i := 2) rfl
      have f_r_2_w16 := x_r.frozen 2
      have c_r_3_w16 := x_r.cell (i := 3) rfl
      have f_r_3_w16 := x_r.frozen 3
      have c_r_4_w16 := x_r.cell (i := 4) rfl
      have f_r_4_w16 := x_r.frozen 4
      have c_r_5_w16 := x_r.cell (i := 5) rfl
      have f_r_5_w16 := x_r.frozen 5
      have c_r_6_w16 := x_r.cell (i := 6) rfl
      have f_r_6_w16 := x_r.frozen 6
      have c_r_7_w16 := x_r.cell (i := 7) rfl
      have f_r_7_w16 := x_r.frozen 7
      have c_r_8_w16 := x_r.cell (i := 8) rfl
      have f_r_8_w16 := x_r.frozen 8
      obtain ⟨w17, e_w17, s_w17, h_w17, y⟩ := set_step x_v 7 (.int .i64 m.Amt)
      have s_w17_1 := Nat.le_of_eq s_w17
      have s_w17_2 := Nat.le_of_eq s_w17.symm
      clear s_w17
      replace x_r := x_r.chg h_w17 (by omega)
      replace o_W := o_W.chg h_w17 (by omega)
      replace o_L := o_L.chg h_w17 (by omega)
      have B_w17 := Below.chg_ B_w16 h_w17 (by omega) (by omega)
      replace x_v : Vr w17 (w1.heap.size) 26 [.int .i64 5, .int .i64 0, .int .i64 0, .int .i64 l0, .int .i64 l1, .int .i64 m.Kind, .int .i64 m.Acct, .int .i64 m.Amt, .int .i64 0] := y
      clear y
      have c_v_0_w17 := x_v.cell (i := 0) rfl
      have f_v_0_w17 := x_v.frozen 0
      have c_v_1_w17 := x_v.cell (i := 1) rfl
      have f_v_1_w17 := x_v.frozen 1
      have c_v_2_w17 := x_v.cell (i := 2) rfl
      have f_v_2_w17 := x_v.frozen 2
      have c_v_3_w17 := x_v.cell (i := 3) rfl
      have f_v_3_w17 := x_v.frozen 3
      have c_v_4_w17 := x_v.cell (i := 4) rfl
      have f_v_4_w17 := x_v.frozen 4
      have c_v_5_w17 := x_v.cell (i := 5) rfl
      have f_v_5_w17 := x_v.frozen 5
      have c_v_6_w17 := x_v.cell (i := 6) rfl
      have f_v_6_w17 := x_v.frozen 6
      have c_v_7_w17 := x_v.cell (i := 7) rfl
      have f_v_7_w17 := x_v.frozen 7
      have c_v_8_w17 := x_v.cell (i := 8) rfl
      have f_v_8_w17 := x_v.frozen 8
      have c_r_0_w17 := x_r.cell (i := 0) rfl
      have f_r_0_w17 := x_r.frozen 0
      have c_r_1_w17 := x_r.cell (i := 1) rfl
      have f_r_1_w17 := x_r.frozen 1
      have c_r_2_w17 := x_r.cell (i := 2) rfl
      have f_r_2_w17 := x_r.frozen 2
      have c_r_3_w17 := x_r.cell (i := 3) rfl
      have f_r_3_w17 := x_r.frozen 3
      have c_r_4_w17 := x_r.cell (i := 4) rfl
      have f_r_4_w17 := x_r.frozen 4
      have c_r_5_w17 := x_r.cell (i := 5) rfl
      have f_r_5_w17 := x_r.frozen 5
      have c_r_6_w17 := x_r.cell (i := 6) rfl
      have f_r_6_w17 := x_r.frozen 6
      have c_r_7_w17 := x_r.cell (i := 7) rfl
      have f_r_7_w17 := x_r.frozen 7
      have c_r_8_w17 := x_r.cell (i := 8) rfl
      have f_r_8_w17 := x_r.frozen 8
      obtain ⟨w18, e_w18, s_w18, h_w18, y⟩ := set_step x_v 8 (.int .i64 m.Src)
      have s_w18_1 := Nat.le_of_eq s_w18
      have s_w18_2 := Nat.le_of_eq s_w18.symm
      clear s_w18
      replace x_r := x_r.chg h_w18 (by omega)
      replace o_W := o_W.chg h_w18 (by omega)
      replace o_L := o_L.chg h_w18 (by omega)
      have B_w18 := Below.chg_ B_w17 h_w18 (by omega) (by omega)
      replace x_v : Vr w18 (w1.heap.size) 26 [.int .i64 5, .int .i64 0, .int .i64 0, .int .i64 l0, .int .i64 l1, .int .i64 m.Kind, .int .i64 m.Acct, .int .i64 m.Amt, .int .i64 m.Src] := y
      clear y
      have c_v_0_w18 := x_v.cell (i := 0) rfl
      have f_v_0_w18 := x_v.frozen 0
      have c_v_1_w18 := x_v.cell (i := 1) rfl
      have f_v_1_w18 := x_v.frozen 1
      have c_v_2_w18 := x_v.cell (i := 2) rfl
      have f_v_2_w18 := x_v.frozen 2
      have c_v_3_w18 := x_v.cell (i := 3) rfl
      have f_v_3_w18 := x_v.frozen 3
      have c_v_4_w18 := x_v.cell (i := 4) rfl
      have f_v_4_w18 := x_v.frozen 4
      have c_v_5_w18 := x_v.cell (i := 5) rfl
      have f_v_5_w18 := x_v.frozen 5
      have c_v_6_w18 := x_v.cell (i := 6) rfl
      have f_v_6_w18 := x_v.frozen 6
      have c_v_7_w18 := x_v.cell (i := 7) rfl
      have f_v_7_w18 := x_v.frozen 7
      have c_v_8_w18 := x_v.cell (i := 8) rfl
      have f_v_8_w18 := x_v.frozen 8
      have c_r_0_w18 := x_r.cell (i := 0) rfl
      have f_r_0_w18 := x_r.frozen 0
      have c_r_1_w18 := x_r.cell (i := 1) rfl
      have f_r_1_w18 := x_r.frozen 1
      have c_r_2_w18 := x_r.cell (i := 2) rfl
      have f_r_2_w18 := x_r.frozen 2
      have c_r_3_w18 := x_r.cell (i := 3) rfl
      have f_r_3_w18 := x_r.frozen 3
      have c_r_4_w18 := x_r.cell (i := 4) rfl
      have f_r_4_w18 := x_r.frozen 4
      have c_r_5_w18 := x_r.cell (i := 5) rfl
      have f_r_5_w18 := x_r.frozen 5
      have c_r_6_w18 := x_r.cell (i := 6) rfl
      have f_r_6_w18 := x_r.frozen 6
      have c_r_7_w18 := x_r.cell (i := 7) rfl
      have f_r_7_w18 := x_r.frozen 7
      have c_r_8_w18 := x_r.cell (i := 8) rfl
      have f_r_8_w18 := x_r.frozen 8
      have HR : Hid (recOf (splitL s 32) = ⟨5, 0, 0, l0, l1, m⟩) := by
        show _ = _
        unfold recOf
        rw [HWS.out, HX.out, HK.out, HL.out, ← HL0.out, ← HL1.out]
        rw [← HM.out]; rfl
      obtain ⟨T, hT⟩ : ∃ T, recText ⟨5, 0, 0, l0, l1, m⟩ = T := ⟨_, rfl⟩
      obtain ⟨ok, hok⟩ : ∃ b, recOkB ⟨5, 0, 0, l0, l1, m⟩ = b := ⟨_, rfl⟩
      have hE := str_empty T
      have hE1 := recText_empty ⟨5, 0, 0, l0, l1, m⟩
      rw [hT, hok] at hE1
      rw [hE1] at hE
      clear hE1
      have HT := Lib.hid hT
      have HOK := Lib.hid hok
      clear hT hok
      have rv : RV recL w18 (.agg #[.int .i64 5, .int .i64 0, .int .i64 0, .int .i64 l0, .int .i64 l1, .int .i64 m.Kind, .int .i64 m.Acct, .int .i64 m.Amt, .int .i64 m.Src]) ⟨5, 0, 0, l0, l1, m⟩ := rv_rec_mk (zM := m)
      go_wp2_with fail
      refine (sRecText_c rv).mono ?_
      rintro e w19 ⟨rfl, h_w19⟩
      clear c_v_0_w14 f_v_0_w14 c_v_1_w14 f_v_1_w14 c_v_2_w14 f_v_2_w14 c_v_3_w14 f_v_3_w14 c_v_4_w14 f_v_4_w14 c_v_5_w14 f_v_5_w14 c_v_6_w14 f_v_6_w14 c_v_7_w14 f_v_7_w14 c_v_8_w14 f_v_8_w14 c_r_0_w14 f_r_0_w14 c_r_1_w14 f_r_1_w14 c_r_2_w14 f_r_2_w14 c_r_3_w14 f_r_3_w14 c_r_4_w14 f_r_4_w14 c_r_5_w14 f_r_5_w14 c_r_6_w14 f_r_6_w14 c_r_7_w14 f_r_7_w14 c_r_8_w14 f_r_8_w14 c_v_0_w15 f_v_0_w15 c_v_1_w15 f_v_1_w15 c_v_2_w15 f_v_2_w15 c_v_3_w15 f_v_3_w15 c_v_4_w15 f_v_4_w15 c_v_5_w15 f_v_5_w15 c_v_6_w15 f_v_6_w15 c_v_7_w15 f_v_7_w15 c_v_8_w15 f_v_8_w15 c_r_0_w15 f_r_0_w15 c_r_1_w15 f_r_1_w15 c_r_2_w15 f_r_2_w15 c_r_3_w15 f_r_3_w15 c_r_4_w15 f_r_4_w15 c_r_5_w15 f_r_5_w15 c_r_6_w15 f_r_6_w15 c_r_7_w15 f_r_7_w15 c_r_8_w15 f_r_8_w15 c_v_0_w16 f_v_0_w16 c_v_1_w16 f_v_1_w16 c_v_2_w16 f_v_2_w16 c_v_3_w16 f_v_3_w16 c_v_4_w16 f_v_4_w16 c_v_5_w16 f_v_5_w16 c_v_6_w16 f_v_6_w16 c_v_7_w16 f_v_7_w16 c_v_8_w16 f_v_8_w16 c_r_0_w16 f_r_0_w16 c_r_1_w16 f_r_1_w16 c_r_2_w16 f_r_2_w16 c_r_3_w16 f_r_3_w16 c_r_4_w16 f_r_4_w16 c_r_5_w16 f_r_5_w16 c_r_6_w16 f_r_6_w16 c_r_7_w16 f_r_7_w16 c_r_8_w16 f_r_8_w16 c_v_0_w17 f_v_0_w17 c_v_1_w17 f_v_1_w17 c_v_2_w17 f_v_2_w17 c_v_3_w17 f_v_3_w17 c_v_4_w17 f_v_4_w17 c_v_5_w17 f_v_5_w17 c_v_6_w17 f_v_6_w17 c_v_7_w17 f_v_7_w17 c_v_8_w17 f_v_8_w17 c_r_0_w17 f_r_0_w17 c_r_1_w17 f_r_1_w17 c_r_2_w17 f_r_2_w17 c_r_3_w17 f_r_3_w17 c_r_4_w17 f_r_4_w17 c_r_5_w17 f_r_5_w17 c_r_6_w17 f_r_6_w17 c_r_7_w17 f_r_7_w17 c_r_8_w17 f_r_8_w17 c_v_0_w18 f_v_0_w18 c_v_1_w18 f_v_1_w18 c_v_2_w18 f_v_2_w18 c_v_3_w18 f_v_3_w18 c_v_4_w18 f_v_4_w18 c_v_5_w18 f_v_5_w18 c_v_6_w18 f_v_6_w18 c_v_7_w18 f_v_7_w18 c_v_8_w18 f_v_8_w18 c_r_0_w18 f_r_0_w18 c_r_1_w18 f_r_1_w18 c_r_2_w18 f_r_2_w18 c_r_3_w18 f_r_3_w18 c_r_4_w18 f_r_4_w18 c_r_5_w18 f_r_5_w18 c_r_6_w18 f_r_6_w18 c_r_7_w18 f_r_7_w18 c_r_8_w18 f_r_8_w18
      replace x_r := x_r.from_ h_w19
      replace x_v := x_v.from_ h_w19
      replace o_W := o_W.below h_w19
      replace o_L := o_L.below h_w19
      have B_w19 := B_w18.trans (h_w19.mono B_w18.size)
      have s_w19 := h_w19.size
      rw [HT.out]
      clear rv
      have c_v_0_w19 := x_v.cell (i := 0) rfl
      have f_v_0_w19 := x_v.frozen 0
      have c_v_1_w19 := x_v.cell (i := 1) rfl
      have f_v_1_w19 := x_v.frozen 1
      have c_v_2_w19 := x_v.cell (i := 2) rfl
      have f_v_2_w19 := x_v.frozen 2
      have c_v_3_w19 := x_v.cell (i := 3) rfl
      have f_v_3_w19 := x_v.frozen 3
      have c_v_4_w19 := x_v.cell (i := 4) rfl
      have f_v_4_w19 := x_v.frozen 4
      have c_v_5_w19 := x_v.cell (i := 5) rfl
      have f_v_5_w19 := x_v.frozen 5
      have c_v_6_w19 := x_v.cell (i := 6) rfl
      have f_v_6_w19 := x_v.frozen 6
      have c_v_7_w19 := x_v.cell (i := 7) rfl
      have f_v_7_w19 := x_v.frozen 7
      have c_v_8_w19 := x_v.cell (i := 8) rfl
      have f_v_8_w19 := x_v.frozen 8
      have c_r_0_w19 := x_r.cell (i := 0) rfl
      have f_r_0_w19 := x_r.frozen 0
      have c_r_1_w19 := x_r.cell (i := 1) rfl
      have f_r_1_w19 := x_r.frozen 1
      have c_r_2_w19 := x_r.cell (i := 2) rfl
      have f_r_2_w19 := x_r.frozen 2
      have c_r_3_w19 := x_r.cell (i := 3) rfl
      have f_r_3_w19 := x_r.frozen 3
      have c_r_4_w19 := x_r.cell (i := 4) rfl
      have f_r_4_w19 := x_r.frozen 4
      have c_r_5_w19 := x_r.cell (i := 5) rfl
      have f_r_5_w19 := x_r.frozen 5
      have c_r_6_w19 := x_r.cell (i := 6) rfl
      have f_r_6_w19 := x_r.frozen 6
      have c_r_7_w19 := x_r.cell (i := 7) rfl
      have f_r_7_w19 := x_r.frozen 7
      have c_r_8_w19 := x_r.cell (i := 8) rfl
      have f_r_8_w19 := x_r.frozen 8
      cases ok
      case false =>
        have hE2 : (T.toList == []) = true := hE
        clear hE
        have HF : Hid (textRecB s = false) := by show _ = _; unfold textRecB; rw [HR.out, HOK.out]; rfl
        have i_r_0 := x_r.same (i := 0) rfl
        have i_r_1 := x_r.same (i := 1) rfl
        have i_r_2 := x_r.same (i := 2) rfl
        have i_r_3 := x_r.same (i := 3) rfl
        have i_r_4 := x_r.same (i := 4) rfl
        have i_r_5 := x_r.same (i := 5) rfl
        have i_r_6 := x_r.same (i := 6) rfl
        have i_r_7 := x_r.same (i := 7) rfl
        have i_r_8 := x_r.same (i := 8) rfl
        have HF2 : Hid (textRec s = recZ) := by show _ = _; unfold textRec; rw [HF.out]; rfl
        go_wp2
        refine ret_cell_tmp (by rfl) (by rfl) x_r Tryd.underlying26 sz_rec (by rfl) ?_
        rw [HF.out, HF2.out]
        exact ⟨_, rfl, ov_rec (d := recZ) (Nat.le_refl _), B_w19⟩
      case true =>
        have hE2 : (T.toList == []) = false := hE
        clear hE
        have rv : RV recL w19 (.agg #[.int .i64 5, .int .i64 0, .int .i64 0, .int .i64 l0, .int .i64 l1, .int .i64 m.Kind, .int .i64 m.Acct, .int .i64 m.Amt, .int .i64 m.Src]) ⟨5, 0, 0, l0, l1, m⟩ := rv_rec_mk (zM := m)
        go_wp2_with fail
        refine (sRecText_c rv).mono ?_
        rintro e w20 ⟨rfl, h_w20⟩
        clear c_v_0_w19 f_v_0_w19 c_v_1_w19 f_v_1_w19 c_v_2_w19 f_v_2_w19 c_v_3_w19 f_v_3_w19 c_v_4_w19 f_v_4_w19 c_v_5_w19 f_v_5_w19 c_v_6_w19 f_v_6_w19 c_v_7_w19 f_v_7_w19 c_v_8_w19 f_v_8_w19 c_r_0_w19 f_r_0_w19 c_r_1_w19 f_r_1_w19 c_r_2_w19 f_r_2_w19 c_r_3_w19 f_r_3_w19 c_r_4_w19 f_r_4_w19 c_r_5_w19 f_r_5_w19 c_r_6_w19 f_r_6_w19 c_r_7_w19 f_r_7_w19 c_r_8_w19 f_r_8_w19
        replace x_r := x_r.from_ h_w20
        replace x_v := x_v.from_ h_w20
        replace o_W := o_W.below h_w20
        replace o_L := o_L.below h_w20
        have B_w20 := B_w19.trans (h_w20.mono B_w19.size)
        have s_w20 := h_w20.size
        rw [HT.out]
        clear rv
        have c_v_0_w20 := x_v.cell (i := 0) rfl
        have f_v_0_w20 := x_v.frozen 0
        have c_v_1_w20 := x_v.cell (i := 1) rfl
        have f_v_1_w20 := x_v.frozen 1
        have c_v_2_w20 := x_v.cell (i := 2) rfl
        have f_v_2_w20 := x_v.frozen 2
        have c_v_3_w20 := x_v.cell (i := 3) rfl
        have f_v_3_w20 := x_v.frozen 3
        have c_v_4_w20 := x_v.cell (i := 4) rfl
        have f_v_4_w20 := x_v.frozen 4
        have c_v_5_w20 := x_v.cell (i := 5) rfl
        have f_v_5_w20 := x_v.frozen 5
        have c_v_6_w20 := x_v.cell (i := 6) rfl
        have f_v_6_w20 := x_v.frozen 6
        have c_v_7_w20 := x_v.cell (i := 7) rfl
        have f_v_7_w20 := x_v.frozen 7
        have c_v_8_w20 := x_v.cell (i := 8) rfl
        have f_v_8_w20 := x_v.frozen 8
        have c_r_0_w20 := x_r.cell (i := 0) rfl
        have f_r_0_w20 := x_r.frozen 0
        have c_r_1_w20 := x_r.cell (i := 1) rfl
        have f_r_1_w20 := x_r.frozen 1
        have c_r_2_w20 := x_r.cell (i := 2) rfl
        have f_r_2_w20 := x_r.frozen 2
        have c_r_3_w20 := x_r.cell (i := 3) rfl
        have f_r_3_w20 := x_r.frozen 3
        have c_r_4_w20 := x_r.cell (i := 4) rfl
        have f_r_4_w20 := x_r.frozen 4
        have c_r_5_w20 := x_r.cell (i := 5) rfl
        have f_r_5_w20 := x_r.frozen 5
        have c_r_6_w20 := x_r.cell (i := 6) rfl
        have f_r_6_w20 := x_r.frozen 6
        have c_r_7_w20 := x_r.cell (i := 7) rfl
        have f_r_7_w20 := x_r.frozen 7
        have c_r_8_w20 := x_r.cell (i := 8) rfl
        have f_r_8_w20 := x_r.frozen 8
        by_cases hTs : T = s
        case neg =>
          have hE3 : (T.toList == s.toList) = false := by rw [beq_str]; exact decide_eq_false hTs
          have HF : Hid (textRecB s = false) := by show _ = _; unfold textRecB; rw [HR.out, HOK.out, HT.out]; simpa using hTs
          clear hTs
          have i_r_0 := x_r.same (i := 0) rfl
          have i_r_1 := x_r.same (i := 1) rfl
          have i_r_2 := x_r.same (i := 2) rfl
          have i_r_3 := x_r.same (i := 3) rfl
          have i_r_4 := x_r.same (i := 4) rfl
          have i_r_5 := x_r.same (i := 5) rfl
          have i_r_6 := x_r.same (i := 6) rfl
          have i_r_7 := x_r.same (i := 7) rfl
          have i_r_8 := x_r.same (i := 8) rfl
          have HF2 : Hid (textRec s = recZ) := by show _ = _; unfold textRec; rw [HF.out]; rfl
          go_wp2
          refine ret_cell_tmp (by rfl) (by rfl) x_r Tryd.underlying26 sz_rec (by rfl) ?_
          rw [HF.out, HF2.out]
          exact ⟨_, rfl, ov_rec (d := recZ) (Nat.le_refl _), B_w20⟩
        have hE3 : (T.toList == s.toList) = true := by rw [beq_str]; exact decide_eq_true hTs
        have HF : Hid (textRecB s = true) := by show _ = _; unfold textRecB; rw [HR.out, HOK.out, HT.out]; simpa using hTs
        clear hTs
        have HF2 : Hid (textRec s = ⟨5, 0, 0, l0, l1, m⟩) := by show _ = _; unfold textRec; rw [HF.out, HR.out]; rfl
        obtain ⟨w21, e_w21, s_w21, h_w21, y⟩ := store_step x_r [.int .i64 5, .int .i64 0, .int .i64 0, .int .i64 l0, .int .i64 l1, .int .i64 m.Kind, .int .i64 m.Acct, .int .i64 m.Amt, .int .i64 m.Src] rfl
        replace e_w21 : (((((((((w20.setCell ⟨w.heap.size, 0, none⟩ (.int .i64 5)).setCell ⟨w.heap.size, 1, none⟩ (.int .i64 0)).setCell ⟨w.heap.size, 2, none⟩ (.int .i64 0)).setCell ⟨w.heap.size, 3, none⟩ (.int .i64 l0)).setCell ⟨w.heap.size, 4, none⟩ (.int .i64 l1)).setCell ⟨w.heap.size, 5, none⟩ (.int .i64 m.Kind)).setCell ⟨w.heap.size, 6, none⟩ (.int .i64 m.Acct)).setCell ⟨w.heap.size, 7, none⟩ (.int .i64 m.Amt)).setCell ⟨w.heap.size, 8, none⟩ (.int .i64 m.Src)) = w21 := e_w21
        have s_w21_1 := Nat.le_of_eq s_w21
        have s_w21_2 := Nat.le_of_eq s_w21.symm
        clear s_w21
        replace x_v := x_v.chg h_w21 (by omega)
        replace o_W := o_W.chg h_w21 (by omega)
        replace o_L := o_L.chg h_w21 (by omega)
        have B_w21 := Below.chg_ B_w20 h_w21 (by omega) (by omega)
        replace x_r : Vr w21 (w.heap.size) 26 [.int .i64 5, .int .i64 0, .int .i64 0, .int .i64 l0, .int .i64 l1, .int .i64 m.Kind, .int .i64 m.Acct, .int .i64 m.Amt, .int .i64 m.Src] := y
        clear y
        have c_r_0_w21 := x_r.cell (i := 0) rfl
        have f_r_0_w21 := x_r.frozen 0
        have c_r_1_w21 := x_r.cell (i := 1) rfl
        have f_r_1_w21 := x_r.frozen 1
        have c_r_2_w21 := x_r.cell (i := 2) rfl
        have f_r_2_w21 := x_r.frozen 2
        have c_r_3_w21 := x_r.cell (i := 3) rfl
        have f_r_3_w21 := x_r.frozen 3
        have c_r_4_w21 := x_r.cell (i := 4) rfl
        have f_r_4_w21 := x_r.frozen 4
        have c_r_5_w21 := x_r.cell (i := 5) rfl
        have f_r_5_w21 := x_r.frozen 5
        have c_r_6_w21 := x_r.cell (i := 6) rfl
        have f_r_6_w21 := x_r.frozen 6
        have c_r_7_w21 := x_r.cell (i := 7) rfl
        have f_r_7_w21 := x_r.frozen 7
        have c_r_8_w21 := x_r.cell (i := 8) rfl
        have f_r_8_w21 := x_r.frozen 8
        go_wp2
        refine ret_cell_tmp (by rfl) (by rfl) x_r Tryd.underlying26 sz_rec (by rfl) ?_
        rw [HF.out, HF2.out]
        exact ⟨_, rfl, ov_rec (d := ⟨5, 0, 0, l0, l1, m⟩) (Nat.le_refl _), B_w21⟩
    · -- 6
      have c_v_0_wr := x_v.cell (i := 0) rfl
      have f_v_0_wr := x_v.frozen 0
      have c_v_1_wr := x_v.cell (i := 1) rfl
      have f_v_1_wr := x_v.frozen 1
      have c_v_2_wr := x_v.cell (i := 2) rfl
      have f_v_2_wr := x_v.frozen 2
      have c_v_3_wr := x_v.cell (i := 3) rfl
      have f_v_3_wr := x_v.frozen 3
      have c_v_4_wr := x_v.cell (i := 4) rfl
      have f_v_4_wr := x_v.frozen 4
      have c_v_5_wr := x_v.cell (i := 5) rfl
      have f_v_5_wr := x_v.frozen 5
      have c_v_6_wr := x_v.cell (i := 6) rfl
      have f_v_6_wr := x_v.frozen 6
      have c_v_7_wr := x_v.cell (i := 7) rfl
      have f_v_7_wr := x_v.frozen 7
      have c_v_8_wr := x_v.cell (i := 8) rfl
      have f_v_8_wr := x_v.frozen 8
      have c_r_0_wr := x_r.cell (i := 0) rfl
      have f_r_0_wr := x_r.frozen 0
      have c_r_1_wr := x_r.cell (i := 1) rfl
      have f_r_1_wr := x_r.frozen 1
      have c_r_2_wr := x_r.cell (i := 2) rfl
      have f_r_2_wr := x_r.frozen 2
      have c_r_3_wr := x_r.cell (i := 3) rfl
      have f_r_3_wr := x_r.frozen 3
      have c_r_4_wr := x_r.cell (i := 4) rfl
      have f_r_4_wr := x_r.frozen 4
      have c_r_5_wr := x_r.cell (i := 5) rfl
      have f_r_5_wr := x_r.frozen 5
      have c_r_6_wr := x_r.cell (i := 6) rfl
      have f_r_6_wr := x_r.frozen 6
      have c_r_7_wr := x_r.cell (i := 7) rfl
      have f_r_7_wr := x_r.frozen 7
      have c_r_8_wr := x_r.cell (i := 8) rfl
      have f_r_8_wr := x_r.frozen 8
      go_wp2_with fail
      refine (sHas_6 _).mono ?_
      rintro e w' ⟨rfl, rfl⟩
      go_wp2_with fail
      refine (sNums1_c (o_W.rd) hwz2 hwm).mono ?_
      rintro e w11 ⟨vL, rfl, o_L, h_w11⟩
      clear c_v_0_wr f_v_0_wr c_v_1_wr f_v_1_wr c_v_2_wr f_v_2_wr c_v_3_wr f_v_3_wr c_v_4_wr f_v_4_wr c_v_5_wr f_v_5_wr c_v_6_wr f_v_6_wr c_v_7_wr f_v_7_wr c_v_8_wr f_v_8_wr c_r_0_wr f_r_0_wr c_r_1_wr f_r_1_wr c_r_2_wr f_r_2_wr c_r_3_wr f_r_3_wr c_r_4_wr f_r_4_wr c_r_5_wr f_r_5_wr c_r_6_wr f_r_6_wr c_r_7_wr f_r_7_wr c_r_8_wr f_r_8_wr
      replace x_r := x_r.from_ h_w11
      replace x_v := x_v.from_ h_w11
      replace o_W := o_W.below h_w11
      have B_w11 := HB.trans (h_w11.mono HB.size)
      have s_w11 := h_w11.size
      rw [HL.out] at o_L
      obtain ⟨bL, cL, rfl⟩ := own_slice64 o_L (by omega)
      have j0 : (0 : Int) < (L.length : Int) := by omega
      have j1 : (1 : Int) < (L.length : Int) := by omega
      have j2 : (2 : Int) < (L.length : Int) := by omega
      have j3 : (3 : Int) < (L.length : Int) := by omega
      have d0 := o_L.1.cell_ (j := 0) (by omega)
      rw [HL0.out] at d0
      have c_v_0_w11 := x_v.cell (i := 0) rfl
      have f_v_0_w11 := x_v.frozen 0
      have c_v_1_w11 := x_v.cell (i := 1) rfl
      have f_v_1_w11 := x_v.frozen 1
      have c_v_2_w11 := x_v.cell (i := 2) rfl
      have f_v_2_w11 := x_v.frozen 2
      have c_v_3_w11 := x_v.cell (i := 3) rfl
      have f_v_3_w11 := x_v.frozen 3
      have c_v_4_w11 := x_v.cell (i := 4) rfl
      have f_v_4_w11 := x_v.frozen 4
      have c_v_5_w11 := x_v.cell (i := 5) rfl
      have f_v_5_w11 := x_v.frozen 5
      have c_v_6_w11 := x_v.cell (i := 6) rfl
      have f_v_6_w11 := x_v.frozen 6
      have c_v_7_w11 := x_v.cell (i := 7) rfl
      have f_v_7_w11 := x_v.frozen 7
      have c_v_8_w11 := x_v.cell (i := 8) rfl
      have f_v_8_w11 := x_v.frozen 8
      have c_r_0_w11 := x_r.cell (i := 0) rfl
      have f_r_0_w11 := x_r.frozen 0
      have c_r_1_w11 := x_r.cell (i := 1) rfl
      have f_r_1_w11 := x_r.frozen 1
      have c_r_2_w11 := x_r.cell (i := 2) rfl
      have f_r_2_w11 := x_r.frozen 2
      have c_r_3_w11 := x_r.cell (i := 3) rfl
      have f_r_3_w11 := x_r.frozen 3
      have c_r_4_w11 := x_r.cell (i := 4) rfl
      have f_r_4_w11 := x_r.frozen 4
      have c_r_5_w11 := x_r.cell (i := 5) rfl
      have f_r_5_w11 := x_r.frozen 5
      have c_r_6_w11 := x_r.cell (i := 6) rfl
      have f_r_6_w11 := x_r.frozen 6
      have c_r_7_w11 := x_r.cell (i := 7) rfl
      have f_r_7_w11 := x_r.frozen 7
      have c_r_8_w11 := x_r.cell (i := 8) rfl
      have f_r_8_w11 := x_r.frozen 8
      obtain ⟨w12, e_w12, s_w12, h_w12, y⟩ := set_step x_v 3 (.int .i64 l0)
      have s_w12_1 := Nat.le_of_eq s_w12
      have s_w12_2 := Nat.le_of_eq s_w12.symm
      clear s_w12
      replace x_r := x_r.chg h_w12 (by omega)
      replace o_W := o_W.chg h_w12 (by omega)
      replace o_L := o_L.chg h_w12 (by omega)
      have B_w12 := Below.chg_ B_w11 h_w12 (by omega) (by omega)
      replace x_v : Vr w12 (w1.heap.size) 26 [.int .i64 6, .int .i64 0, .int .i64 0, .int .i64 l0, .int .i64 0, .int .i64 0, .int .i64 0, .int .i64 0, .int .i64 0] := y
      clear y
      have d1 := o_L.1.cell_ (j := 1) (by omega)
      rw [HL1.out] at d1
      have c_v_0_w12 := x_v.cell (i := 0) rfl
      have f_v_0_w12 := x_v.frozen 0
      have c_v_1_w12 := x_v.cell (i := 1) rfl
      have f_v_1_w12 := x_v.frozen 1
      have c_v_2_w12 := x_v.cell (i := 2) rfl
      have f_v_2_w12 := x_v.frozen 2
      have c_v_3_w12 := x_v.cell (i := 3) rfl
      have f_v_3_w12 := x_v.frozen 3
      have c_v_4_w12 := x_v.cell (i := 4) rfl
      have f_v_4_w12 := x_v.frozen 4
      have c_v_5_w12 := x_v.cell (i := 5) rfl
      have f_v_5_w12 := x_v.frozen 5
      have c_v_6_w12 := x_v.cell (i := 6) rfl
      have f_v_6_w12 := x_v.frozen 6
      have c_v_7_w12 := x_v.cell (i := 7) rfl
      have f_v_7_w12 := x_v.frozen 7
      have c_v_8_w12 := x_v.cell (i := 8) rfl
      have f_v_8_w12 := x_v.frozen 8
      have c_r_0_w12 := x_r.cell (i := 0) rfl
      have f_r_0_w12 := x_r.frozen 0
      have c_r_1_w12 := x_r.cell (i := 1) rfl
      have f_r_1_w12 := x_r.frozen 1
      have c_r_2_w12 := x_r.cell (i := 2) rfl
      have f_r_2_w12 := x_r.frozen 2
      have c_r_3_w12 := x_r.cell (i := 3) rfl
      have f_r_3_w12 := x_r.frozen 3
      have c_r_4_w12 := x_r.cell (i := 4) rfl
      have f_r_4_w12 := x_r.frozen 4
      have c_r_5_w12 := x_r.cell (i := 5) rfl
      have f_r_5_w12 := x_r.frozen 5
      have c_r_6_w12 := x_r.cell (i := 6) rfl
      have f_r_6_w12 := x_r.frozen 6
      have c_r_7_w12 := x_r.cell (i := 7) rfl
      have f_r_7_w12 := x_r.frozen 7
      have c_r_8_w12 := x_r.cell (i := 8) rfl
      have f_r_8_w12 := x_r.frozen 8
      obtain ⟨w13, e_w13, s_w13, h_w13, y⟩ := set_step x_v 4 (.int .i64 l1)
      have s_w13_1 := Nat.le_of_eq s_w13
      have s_w13_2 := Nat.le_of_eq s_w13.symm
      clear s_w13
      replace x_r := x_r.chg h_w13 (by omega)
      replace o_W := o_W.chg h_w13 (by omega)
      replace o_L := o_L.chg h_w13 (by omega)
      have B_w13 := Below.chg_ B_w12 h_w13 (by omega) (by omega)
      replace x_v : Vr w13 (w1.heap.size) 26 [.int .i64 6, .int .i64 0, .int .i64 0, .int .i64 l0, .int .i64 l1, .int .i64 0, .int .i64 0, .int .i64 0, .int .i64 0] := y
      clear y
      have c_v_0_w13 := x_v.cell (i := 0) rfl
      have f_v_0_w13 := x_v.frozen 0
      have c_v_1_w13 := x_v.cell (i := 1) rfl
      have f_v_1_w13 := x_v.frozen 1
      have c_v_2_w13 := x_v.cell (i := 2) rfl
      have f_v_2_w13 := x_v.frozen 2
      have c_v_3_w13 := x_v.cell (i := 3) rfl
      have f_v_3_w13 := x_v.frozen 3
      have c_v_4_w13 := x_v.cell (i := 4) rfl
      have f_v_4_w13 := x_v.frozen 4
      have c_v_5_w13 := x_v.cell (i := 5) rfl
      have f_v_5_w13 := x_v.frozen 5
      have c_v_6_w13 := x_v.cell (i := 6) rfl
      have f_v_6_w13 := x_v.frozen 6
      have c_v_7_w13 := x_v.cell (i := 7) rfl
      have f_v_7_w13 := x_v.frozen 7
      have c_v_8_w13 := x_v.cell (i := 8) rfl
      have f_v_8_w13 := x_v.frozen 8
      have c_r_0_w13 := x_r.cell (i := 0) rfl
      have f_r_0_w13 := x_r.frozen 0
      have c_r_1_w13 := x_r.cell (i := 1) rfl
      have f_r_1_w13 := x_r.frozen 1
      have c_r_2_w13 := x_r.cell (i := 2) rfl
      have f_r_2_w13 := x_r.frozen 2
      have c_r_3_w13 := x_r.cell (i := 3) rfl
      have f_r_3_w13 := x_r.frozen 3
      have c_r_4_w13 := x_r.cell (i := 4) rfl
      have f_r_4_w13 := x_r.frozen 4
      have c_r_5_w13 := x_r.cell (i := 5) rfl
      have f_r_5_w13 := x_r.frozen 5
      have c_r_6_w13 := x_r.cell (i := 6) rfl
      have f_r_6_w13 := x_r.frozen 6
      have c_r_7_w13 := x_r.cell (i := 7) rfl
      have f_r_7_w13 := x_r.frozen 7
      have c_r_8_w13 := x_r.cell (i := 8) rfl
      have f_r_8_w13 := x_r.frozen 8
      have HR : Hid (recOf (splitL s 32) = ⟨6, 0, 0, l0, l1, ⟨0, 0, 0, 0⟩⟩) := by
        show _ = _
        unfold recOf
        rw [HWS.out, HX.out, HK.out, HL.out, ← HL0.out, ← HL1.out]
        rfl
      obtain ⟨T, hT⟩ : ∃ T, recText ⟨6, 0, 0, l0, l1, ⟨0, 0, 0, 0⟩⟩ = T := ⟨_, rfl⟩
      obtain ⟨ok, hok⟩ : ∃ b, recOkB ⟨6, 0, 0, l0, l1, ⟨0, 0, 0, 0⟩⟩ = b := ⟨_, rfl⟩
      have hE := str_empty T
      have hE1 := recText_empty ⟨6, 0, 0, l0, l1, ⟨0, 0, 0, 0⟩⟩
      rw [hT, hok] at hE1
      rw [hE1] at hE
      clear hE1
      have HT := Lib.hid hT
      have HOK := Lib.hid hok
      clear hT hok
      have rv : RV recL w13 (.agg #[.int .i64 6, .int .i64 0, .int .i64 0, .int .i64 l0, .int .i64 l1, .int .i64 0, .int .i64 0, .int .i64 0, .int .i64 0]) ⟨6, 0, 0, l0, l1, ⟨0, 0, 0, 0⟩⟩ := rv_rec_mk (zM := ⟨0, 0, 0, 0⟩)
      go_wp2_with fail
      refine (sRecText_c rv).mono ?_
      rintro e w14 ⟨rfl, h_w14⟩
      clear c_v_0_w11 f_v_0_w11 c_v_1_w11 f_v_1_w11 c_v_2_w11 f_v_2_w11 c_v_3_w11 f_v_3_w11 c_v_4_w11 f_v_4_w11 c_v_5_w11 f_v_5_w11 c_v_6_w11 f_v_6_w11 c_v_7_w11 f_v_7_w11 c_v_8_w11 f_v_8_w11 c_r_0_w11 f_r_0_w11 c_r_1_w11 f_r_1_w11 c_r_2_w11 f_r_2_w11 c_r_3_w11 f_r_3_w11 c_r_4_w11 f_r_4_w11 c_r_5_w11 f_r_5_w11 c_r_6_w11 f_r_6_w11 c_r_7_w11 f_r_7_w11 c_r_8_w11 f_r_8_w11 d0 c_v_0_w12 f_v_0_w12 c_v_1_w12 f_v_1_w12 c_v_2_w12 f_v_2_w12 c_v_3_w12 f_v_3_w12 c_v_4_w12 f_v_4_w12 c_v_5_w12 f_v_5_w12 c_v_6_w12 f_v_6_w12 c_v_7_w12 f_v_7_w12 c_v_8_w12 f_v_8_w12 c_r_0_w12 f_r_0_w12 c_r_1_w12 f_r_1_w12 c_r_2_w12 f_r_2_w12 c_r_3_w12 f_r_3_w12 c_r_4_w12 f_r_4_w12 c_r_5_w12 f_r_5_w12 c_r_6_w12 f_r_6_w12 c_r_7_w12 f_r_7_w12 c_r_8_w12 f_r_8_w12 d1 c_v_0_w13 f_v_0_w13 c_v_1_w13 f_v_1_w13 c_v_2_w13 f_v_2_w13 c_v_3_w13 f_v_3_w13 c_v_4_w13 f_v_4_w13 c_v_5_w13 f_v_5_w13 c_v_6_w13 f_v_6_w13 c_v_7_w13 f_v_7_w13 c_v_8_w13 f_v_8_w13 c_r_0_w13 f_r_0_w13 c_r_1_w13 f_r_1_w13 c_r_2_w13 f_r_2_w13 c_r_3_w13 f_r_3_w13 c_r_4_w13 f_r_4_w13 c_r_5_w13 f_r_5_w13 c_r_6_w13 f_r_6_w13 c_r_7_w13 f_r_7_w13 c_r_8_w13 f_r_8_w13
      replace x_r := x_r.from_ h_w14
      replace x_v := x_v.from_ h_w14
      replace o_W := o_W.below h_w14
      replace o_L := o_L.below h_w14
      have B_w14 := B_w13.trans (h_w14.mono B_w13.size)
      have s_w14 := h_w14.size
      rw [HT.out]
      clear rv
      have c_v_0_w14 := x_v.cell (i := 0) rfl
      have f_v_0_w14 := x_v.frozen 0
      have c_v_1_w14 := x_v.cell (i := 1) rfl
      have f_v_1_w14 := x_v.frozen 1
      have c_v_2_w14 := x_v.cell (i := 2) rfl
      have f_v_2_w14 := x_v.frozen 2
      have c_v_3_w14 := x_v.cell (i := 3) rfl
      have f_v_3_w14 := x_v.frozen 3
      have c_v_4_w14 := x_v.cell (i := 4) rfl
      have f_v_4_w14 := x_v.frozen 4
      have c_v_5_w14 := x_v.cell (i := 5) rfl
      have f_v_5_w14 := x_v.frozen 5
      have c_v_6_w14 := x_v.cell (i := 6) rfl
      have f_v_6_w14 := x_v.frozen 6
      have c_v_7_w14 := x_v.cell (i := 7) rfl
      have f_v_7_w14 := x_v.frozen 7
      have c_v_8_w14 := x_v.cell (i := 8) rfl
      have f_v_8_w14 := x_v.frozen 8
      have c_r_0_w14 := x_r.cell (i := 0) rfl
      have f_r_0_w14 := x_r.frozen 0
      have c_r_1_w14 := x_r.cell (i := 1) rfl
      have f_r_1_w14 := x_r.frozen 1
      have c_r_2_w14 := x_r.cell (i := 2) rfl
      have f_r_2_w14 := x_r.frozen 2
      have c_r_3_w14 := x_r.cell (i := 3) rfl
      have f_r_3_w14 := x_r.frozen 3
      have c_r_4_w14 := x_r.cell (i := 4) rfl
      have f_r_4_w14 := x_r.frozen 4
      have c_r_5_w14 := x_r.cell (i := 5) rfl
      have f_r_5_w14 := x_r.frozen 5
      have c_r_6_w14 := x_r.cell (i := 6) rfl
      have f_r_6_w14 := x_r.frozen 6
      have c_r_7_w14 := x_r.cell (i := 7) rfl
      have f_r_7_w14 := x_r.frozen 7
      have c_r_8_w14 := x_r.cell (i := 8) rfl
      have f_r_8_w14 := x_r.frozen 8
      cases ok
      case false =>
        have hE2 : (T.toList == []) = true := hE
        clear hE
        have HF : Hid (textRecB s = false) := by show _ = _; unfold textRecB; rw [HR.out, HOK.out]; rfl
        have i_r_0 := x_r.same (i := 0) rfl
        have i_r_1 := x_r.same (i := 1) rfl
        have i_r_2 := x_r.same (i := 2) rfl
        have i_r_3 := x_r.same (i := 3) rfl
        have i_r_4 := x_r.same (i := 4) rfl
        have i_r_5 := x_r.same (i := 5) rfl
        have i_r_6 := x_r.same (i := 6) rfl
        have i_r_7 := x_r.same (i := 7) rfl
        have i_r_8 := x_r.same (i := 8) rfl
        have HF2 : Hid (textRec s = recZ) := by show _ = _; unfold textRec; rw [HF.out]; rfl
        go_wp2
        refine ret_cell_tmp (by rfl) (by rfl) x_r Tryd.underlying26 sz_rec (by rfl) ?_
        rw [HF.out, HF2.out]
        exact ⟨_, rfl, ov_rec (d := recZ) (Nat.le_refl _), B_w14⟩
      case true =>
        have hE2 : (T.toList == []) = false := hE
        clear hE
        have rv : RV recL w14 (.agg #[.int .i64 6, .int .i64 0, .int .i64 0, .int .i64 l0, .int .i64 l1, .int .i64 0, .int .i64 0, .int .i64 0, .int .i64 0]) ⟨6, 0, 0, l0, l1, ⟨0, 0, 0, 0⟩⟩ := rv_rec_mk (zM := ⟨0, 0, 0, 0⟩)
        go_wp2_with fail
        refine (sRecText_c rv).mono ?_
        rintro e w15 ⟨rfl, h_w15⟩
        clear c_v_0_w14 f_v_0_w14 c_v_1_w14 f_v_1_w14 c_v_2_w14 f_v_2_w14 c_v_3_w14 f_v_3_w14 c_v_4_w14 f_v_4_w14 c_v_5_w14 f_v_5_w14 c_v_6_w14 f_v_6_w14 c_v_7_w14 f_v_7_w14 c_v_8_w14 f_v_8_w14 c_r_0_w14 f_r_0_w14 c_r_1_w14 f_r_1_w14 c_r_2_w14 f_r_2_w14 c_r_3_w14 f_r_3_w14 c_r_4_w14 f_r_4_w14 c_r_5_w14 f_r_5_w14 c_r_6_w14 f_r_6_w14 c_r_7_w14 f_r_7_w14 c_r_8_w14 f_r_8_w14
        replace x_r := x_r.from_ h_w15
        replace x_v := x_v.from_ h_w15
        replace o_W := o_W.below h_w15
        replace o_L := o_L.below h_w15
        have B_w15 := B_w14.trans (h_w15.mono B_w14.size)
        have s_w15 := h_w15.size
        rw [HT.out]
        clear rv
        have c_v_0_w15 := x_v.cell (i := 0) rfl
        have f_v_0_w15 := x_v.frozen 0
        have c_v_1_w15 := x_v.cell (i := 1) rfl
        have f_v_1_w15 := x_v.frozen 1
        have c_v_2_w15 := x_v.cell (i := 2) rfl
        have f_v_2_w15 := x_v.frozen 2
        have c_v_3_w15 := x_v.cell (i := 3) rfl
        have f_v_3_w15 := x_v.frozen 3
        have c_v_4_w15 := x_v.cell (i := 4) rfl
        have f_v_4_w15 := x_v.frozen 4
        have c_v_5_w15 := x_v.cell (i := 5) rfl
        have f_v_5_w15 := x_v.frozen 5
        have c_v_6_w15 := x_v.cell (i := 6) rfl
        have f_v_6_w15 := x_v.frozen 6
        have c_v_7_w15 := x_v.cell (i := 7) rfl
        have f_v_7_w15 := x_v.frozen 7
        have c_v_8_w15 := x_v.cell (i := 8) rfl
        have f_v_8_w15 := x_v.frozen 8
        have c_r_0_w15 := x_r.cell (i := 0) rfl
        have f_r_0_w15 := x_r.frozen 0
        have c_r_1_w15 := x_r.cell (i := 1) rfl
        have f_r_1_w15 := x_r.frozen 1
        have c_r_2_w15 := x_r.cell (i := 2) rfl
        have f_r_2_w15 := x_r.frozen 2
        have c_r_3_w15 := x_r.cell (i := 3) rfl
        have f_r_3_w15 := x_r.frozen 3
        have c_r_4_w15 := x_r.cell (i := 4) rfl
        have f_r_4_w15 := x_r.frozen 4
        have c_r_5_w15 := x_r.cell (i := 5) rfl
        have f_r_5_w15 := x_r.frozen 5
        have c_r_6_w15 := x_r.cell (i := 6) rfl
        have f_r_6_w15 := x_r.frozen 6
        have c_r_7_w15 := x_r.cell (i := 7) rfl
        have f_r_7_w15 := x_r.frozen 7
        have c_r_8_w15 := x_r.cell (i := 8) rfl
        have f_r_8_w15 := x_r.frozen 8
        by_cases hTs : T = s
        case neg =>
          have hE3 : (T.toList == s.toList) = false := by rw [beq_str]; exact decide_eq_false hTs
          have HF : Hid (textRecB s = false) := by show _ = _; unfold textRecB; rw [HR.out, HOK.out, HT.out]; simpa using hTs
          clear hTs
          have i_r_0 := x_r.same (i := 0) rfl
          have i_r_1 := x_r.same (i := 1) rfl
          have i_r_2 := x_r.same (i := 2) rfl
          have i_r_3 := x_r.same (i := 3) rfl
          have i_r_4 := x_r.same (i := 4) rfl
          have i_r_5 := x_r.same (i := 5) rfl
          have i_r_6 := x_r.same (i := 6) rfl
          have i_r_7 := x_r.same (i := 7) rfl
          have i_r_8 := x_r.same (i := 8) rfl
          have HF2 : Hid (textRec s = recZ) := by show _ = _; unfold textRec; rw [HF.out]; rfl
          go_wp2
          refine ret_cell_tmp (by rfl) (by rfl) x_r Tryd.underlying26 sz_rec (by rfl) ?_
          rw [HF.out, HF2.out]
          exact ⟨_, rfl, ov_rec (d := recZ) (Nat.le_refl _), B_w15⟩
        have hE3 : (T.toList == s.toList) = true := by rw [beq_str]; exact decide_eq_true hTs
        have HF : Hid (textRecB s = true) := by show _ = _; unfold textRecB; rw [HR.out, HOK.out, HT.out]; simpa using hTs
        clear hTs
        have HF2 : Hid (textRec s = ⟨6, 0, 0, l0, l1, ⟨0, 0, 0, 0⟩⟩) := by show _ = _; unfold textRec; rw [HF.out, HR.out]; rfl
        obtain ⟨w16, e_w16, s_w16, h_w16, y⟩ := store_step x_r [.int .i64 6, .int .i64 0, .int .i64 0, .int .i64 l0, .int .i64 l1, .int .i64 0, .int .i64 0, .int .i64 0, .int .i64 0] rfl
        replace e_w16 : (((((((((w15.setCell ⟨w.heap.size, 0, none⟩ (.int .i64 6)).setCell ⟨w.heap.size, 1, none⟩ (.int .i64 0)).setCell ⟨w.heap.size, 2, none⟩ (.int .i64 0)).setCell ⟨w.heap.size, 3, none⟩ (.int .i64 l0)).setCell ⟨w.heap.size, 4, none⟩ (.int .i64 l1)).setCell ⟨w.heap.size, 5, none⟩ (.int .i64 0)).setCell ⟨w.heap.size, 6, none⟩ (.int .i64 0)).setCell ⟨w.heap.size, 7, none⟩ (.int .i64 0)).setCell ⟨w.heap.size, 8, none⟩ (.int .i64 0)) = w16 := e_w16
        have s_w16_1 := Nat.le_of_eq s_w16
        have s_w16_2 := Nat.le_of_eq s_w16.symm
        clear s_w16
        replace x_v := x_v.chg h_w16 (by omega)
        replace o_W := o_W.chg h_w16 (by omega)
        replace o_L := o_L.chg h_w16 (by omega)
        have B_w16 := Below.chg_ B_w15 h_w16 (by omega) (by omega)
        replace x_r : Vr w16 (w.heap.size) 26 [.int .i64 6, .int .i64 0, .int .i64 0, .int .i64 l0, .int .i64 l1, .int .i64 0, .int .i64 0, .int .i64 0, .int .i64 0] := y
        clear y
        have c_r_0_w16 := x_r.cell (i := 0) rfl
        have f_r_0_w16 := x_r.frozen 0
        have c_r_1_w16 := x_r.cell (i := 1) rfl
        have f_r_1_w16 := x_r.frozen 1
        have c_r_2_w16 := x_r.cell (i := 2) rfl
        have f_r_2_w16 := x_r.frozen 2
        have c_r_3_w16 := x_r.cell (i := 3) rfl
        have f_r_3_w16 := x_r.frozen 3
        have c_r_4_w16 := x_r.cell (i := 4) rfl
        have f_r_4_w16 := x_r.frozen 4
        have c_r_5_w16 := x_r.cell (i := 5) rfl
        have f_r_5_w16 := x_r.frozen 5
        have c_r_6_w16 := x_r.cell (i := 6) rfl
        have f_r_6_w16 := x_r.frozen 6
        have c_r_7_w16 := x_r.cell (i := 7) rfl
        have f_r_7_w16 := x_r.frozen 7
        have c_r_8_w16 := x_r.cell (i := 8) rfl
        have f_r_8_w16 := x_r.frozen 8
        go_wp2
        refine ret_cell_tmp (by rfl) (by rfl) x_r Tryd.underlying26 sz_rec (by rfl) ?_
        rw [HF.out, HF2.out]
        exact ⟨_, rfl, ov_rec (d := ⟨6, 0, 0, l0, l1, ⟨0, 0, 0, 0⟩⟩) (Nat.le_refl _), B_w16⟩
    · -- 7
      have c_v_0_wr := x_v.cell (i := 0) rfl
      have f_v_0_wr := x_v.frozen 0
      have c_v_1_wr := x_v.cell (i := 1) rfl
      have f_v_1_wr := x_v.frozen 1
      have c_v_2_wr := x_v.cell (i := 2) rfl
      have f_v_2_wr := x_v.frozen 2
      have c_v_3_wr := x_v.cell (i := 3) rfl
      have f_v_3_wr := x_v.frozen 3
      have c_v_4_wr := x_v.cell (i := 4) rfl
      have f_v_4_wr := x_v.frozen 4
      have c_v_5_wr := x_v.cell (i := 5) rfl
      have f_v_5_wr := x_v.frozen 5
      have c_v_6_wr := x_v.cell (i := 6) rfl
      have f_v_6_wr := x_v.frozen 6
      have c_v_7_wr := x_v.cell (i := 7) rfl
      have f_v_7_wr := x_v.frozen 7
      have c_v_8_wr := x_v.cell (i := 8) rfl
      have f_v_8_wr := x_v.frozen 8
      have c_r_0_wr := x_r.cell (i := 0) rfl
      have f_r_0_wr := x_r.frozen 0
      have c_r_1_wr := x_r.cell (i := 1) rfl
      have f_r_1_wr := x_r.frozen 1
      have c_r_2_wr := x_r.cell (i := 2) rfl
      have f_r_2_wr := x_r.frozen 2
      have c_r_3_wr := x_r.cell (i := 3) rfl
      have f_r_3_wr := x_r.frozen 3
      have c_r_4_wr := x_r.cell (i := 4) rfl
      have f_r_4_wr := x_r.frozen 4
      have c_r_5_wr := x_r.cell (i := 5) rfl
      have f_r_5_wr := x_r.frozen 5
      have c_r_6_wr := x_r.cell (i := 6) rfl
      have f_r_6_wr := x_r.frozen 6
      have c_r_7_wr := x_r.cell (i := 7) rfl
      have f_r_7_wr := x_r.frozen 7
      have c_r_8_wr := x_r.cell (i := 8) rfl
      have f_r_8_wr := x_r.frozen 8
      go_wp2_with fail
      refine (sHas_7 _).mono ?_
      rintro e w' ⟨rfl, rfl⟩
      go_wp2_with fail
      refine (sNums1_c (o_W.rd) hwz2 hwm).mono ?_
      rintro e w11 ⟨vL, rfl, o_L, h_w11⟩
      clear c_v_0_wr f_v_0_wr c_v_1_wr f_v_1_wr c_v_2_wr f_v_2_wr c_v_3_wr f_v_3_wr c_v_4_wr f_v_4_wr c_v_5_wr f_v_5_wr c_v_6_wr f_v_6_wr c_v_7_wr f_v_7_wr c_v_8_wr f_v_8_wr c_r_0_wr f_r_0_wr c_r_1_wr f_r_1_wr c_r_2_wr f_r_2_wr c_r_3_wr f_r_3_wr c_r_4_wr f_r_4_wr c_r_5_wr f_r_5_wr c_r_6_wr f_r_6_wr c_r_7_wr f_r_7_wr c_r_8_wr f_r_8_wr
      replace x_r := x_r.from_ h_w11
      replace x_v := x_v.from_ h_w11
      replace o_W := o_W.below h_w11
      have B_w11 := HB.trans (h_w11.mono HB.size)
      have s_w11 := h_w11.size
      rw [HL.out] at o_L
      obtain ⟨bL, cL, rfl⟩ := own_slice64 o_L (by omega)
      have j0 : (0 : Int) < (L.length : Int) := by omega
      have j1 : (1 : Int) < (L.length : Int) := by omega
      have j2 : (2 : Int) < (L.length : Int) := by omega
      have j3 : (3 : Int) < (L.length : Int) := by omega
      have d0 := o_L.1.cell_ (j := 0) (by omega)
      rw [HL0.out] at d0
      have c_v_0_w11 := x_v.cell (i := 0) rfl
      have f_v_0_w11 := x_v.frozen 0
      have c_v_1_w11 := x_v.cell (i := 1) rfl
      have f_v_1_w11 := x_v.frozen 1
      have c_v_2_w11 := x_v.cell (i := 2) rfl
      have f_v_2_w11 := x_v.frozen 2
      have c_v_3_w11 := x_v.cell (i := 3) rfl
      have f_v_3_w11 := x_v.frozen 3
      have c_v_4_w11 := x_v.cell (i := 4) rfl
      have f_v_4_w11 := x_v.frozen 4
      have c_v_5_w11 := x_v.cell (i := 5) rfl
      have f_v_5_w11 := x_v.frozen 5
      have c_v_6_w11 := x_v.cell (i := 6) rfl
      have f_v_6_w11 := x_v.frozen 6
      have c_v_7_w11 := x_v.cell (i := 7) rfl
      have f_v_7_w11 := x_v.frozen 7
      have c_v_8_w11 := x_v.cell (i := 8) rfl
      have f_v_8_w11 := x_v.frozen 8
      have c_r_0_w11 := x_r.cell (i := 0) rfl
      have f_r_0_w11 := x_r.frozen 0
      have c_r_1_w11 := x_r.cell (i := 1) rfl
      have f_r_1_w11 := x_r.frozen 1
      have c_r_2_w11 := x_r.cell (i := 2) rfl
      have f_r_2_w11 := x_r.frozen 2
      have c_r_3_w11 := x_r.cell (i := 3) rfl
      have f_r_3_w11 := x_r.frozen 3
      have c_r_4_w11 := x_r.cell (i := 4) rfl
      have f_r_4_w11 := x_r.frozen 4
      have c_r_5_w11 := x_r.cell (i := 5) rfl
      have f_r_5_w11 := x_r.frozen 5
      have c_r_6_w11 := x_r.cell (i := 6) rfl
      have f_r_6_w11 := x_r.frozen 6
      have c_r_7_w11 := x_r.cell (i := 7) rfl
      have f_r_7_w11 := x_r.frozen 7
      have c_r_8_w11 := x_r.cell (i := 8) rfl
      have f_r_8_w11 := x_r.frozen 8
      obtain ⟨w12, e_w12, s_w12, h_w12, y⟩ := set_step x_v 1 (.int .i64 l0)
      have s_w12_1 := Nat.le_of_eq s_w12
      have s_w12_2 := Nat.le_of_eq s_w12.symm
      clear s_w12
      replace x_r := x_r.chg h_w12 (by omega)
      replace o_W := o_W.chg h_w12 (by omega)
      replace o_L := o_L.chg h_w12 (by omega)
      have B_w12 := Below.chg_ B_w11 h_w12 (by omega) (by omega)
      replace x_v : Vr w12 (w1.heap.size) 26 [.int .i64 7, .int .i64 l0, .int .i64 0, .int .i64 0, .int .i64 0, .int .i64 0, .int .i64 0, .int .i64 0, .int .i64 0] := y
      clear y
      have d1 := o_L.1.cell_ (j := 1) (by omega)
      rw [HL1.out] at d1
      have c_v_0_w12 := x_v.cell (i := 0) rfl
      have f_v_0_w12 := x_v.frozen 0
      have c_v_1_w12 := x_v.cell (i := 1) rfl
      have f_v_1_w12 := x_v.frozen 1
      have c_v_2_w12 := x_v.cell (i := 2) rfl
      have f_v_2_w12 := x_v.frozen 2
      have c_v_3_w12 := x_v.cell (i := 3) rfl
      have f_v_3_w12 := x_v.frozen 3
      have c_v_4_w12 := x_v.cell (i := 4) rfl
      have f_v_4_w12 := x_v.frozen 4
      have c_v_5_w12 := x_v.cell (i := 5) rfl
      have f_v_5_w12 := x_v.frozen 5
      have c_v_6_w12 := x_v.cell (i := 6) rfl
      have f_v_6_w12 := x_v.frozen 6
      have c_v_7_w12 := x_v.cell (i := 7) rfl
      have f_v_7_w12 := x_v.frozen 7
      have c_v_8_w12 := x_v.cell (i := 8) rfl
      have f_v_8_w12 := x_v.frozen 8
      have c_r_0_w12 := x_r.cell (i := 0) rfl
      have f_r_0_w12 := x_r.frozen 0
      have c_r_1_w12 := x_r.cell (i := 1) rfl
      have f_r_1_w12 := x_r.frozen 1
      have c_r_2_w12 := x_r.cell (i := 2) rfl
      have f_r_2_w12 := x_r.frozen 2
      have c_r_3_w12 := x_r.cell (i := 3) rfl
      have f_r_3_w12 := x_r.frozen 3
      have c_r_4_w12 := x_r.cell (i := 4) rfl
      have f_r_4_w12 := x_r.frozen 4
      have c_r_5_w12 := x_r.cell (i := 5) rfl
      have f_r_5_w12 := x_r.frozen 5
      have c_r_6_w12 := x_r.cell (i := 6) rfl
      have f_r_6_w12 := x_r.frozen 6
      have c_r_7_w12 := x_r.cell (i := 7) rfl
      have f_r_7_w12 := x_r.frozen 7
      have c_r_8_w12 := x_r.cell (i := 8) rfl
      have f_r_8_w12 := x_r.frozen 8
      obtain ⟨w13, e_w13, s_w13, h_w13, y⟩ := set_step x_v 4 (.int .i64 l1)
      have s_w13_1 := Nat.le_of_eq s_w13
      have s_w13_2 := Nat.le_of_eq s_w13.symm
      clear s_w13
      replace x_r := x_r.chg h_w13 (by omega)
      replace o_W := o_W.chg h_w13 (by omega)
      replace o_L := o_L.chg h_w13 (by omega)
      have B_w13 := Below.chg_ B_w12 h_w13 (by omega) (by omega)
      replace x_v : Vr w13 (w1.heap.size) 26 [.int .i64 7, .int .i64 l0, .int .i64 0, .int .i64 0, .int .i64 l1, .int .i64 0, .int .i64 0, .int .i64 0, .int .i64 0] := y
      clear y
      have c_v_0_w13 := x_v.cell (i := 0) rfl
      have f_v_0_w13 := x_v.frozen 0
      have c_v_1_w13 := x_v.cell (i := 1) rfl
      have f_v_1_w13 := x_v.frozen 1
      have c_v_2_w13 := x_v.cell (i := 2) rfl
      have f_v_2_w13 := x_v.frozen 2
      have c_v_3_w13 := x_v.cell (i := 3) rfl
      have f_v_3_w13 := x_v.frozen 3
      have c_v_4_w13 := x_v.cell (i := 4) rfl
      have f_v_4_w13 := x_v.frozen 4
      have c_v_5_w13 := x_v.cell (i := 5) rfl
      have f_v_5_w13 := x_v.frozen 5
      have c_v_6_w13 := x_v.cell (i := 6) rfl
      have f_v_6_w13 := x_v.frozen 6
      have c_v_7_w13 := x_v.cell (i := 7) rfl
      have f_v_7_w13 := x_v.frozen 7
      have c_v_8_w13 := x_v.cell (i := 8) rfl
      have f_v_8_w13 := x_v.frozen 8
      have c_r_0_w13 := x_r.cell (i := 0) rfl
      have f_r_0_w13 := x_r.frozen 0
      have c_r_1_w13 := x_r.cell (i := 1) rfl
      have f_r_1_w13 := x_r.frozen 1
      have c_r_2_w13 := x_r.cell (i := 2) rfl
      have f_r_2_w13 := x_r.frozen 2
      have c_r_3_w13 := x_r.cell (i := 3) rfl
      have f_r_3_w13 := x_r.frozen 3
      have c_r_4_w13 := x_r.cell (i := 4) rfl
      have f_r_4_w13 := x_r.frozen 4
      have c_r_5_w13 := x_r.cell (i := 5) rfl
      have f_r_5_w13 := x_r.frozen 5
      have c_r_6_w13 := x_r.cell (i := 6) rfl
      have f_r_6_w13 := x_r.frozen 6
      have c_r_7_w13 := x_r.cell (i := 7) rfl
      have f_r_7_w13 := x_r.frozen 7
      have c_r_8_w13 := x_r.cell (i := 8) rfl
      have f_r_8_w13 := x_r.frozen 8
      have HR : Hid (recOf (splitL s 32) = ⟨7, l0, 0, 0, l1, ⟨0, 0, 0, 0⟩⟩) := by
        show _ = _
        unfold recOf
        rw [HWS.out, HX.out, HK.out, HL.out, ← HL0.out, ← HL1.out]
        rfl
      obtain ⟨T, hT⟩ : ∃ T, recText ⟨7, l0, 0, 0, l1, ⟨0, 0, 0, 0⟩⟩ = T := ⟨_, rfl⟩
      obtain ⟨ok, hok⟩ : ∃ b, recOkB ⟨7, l0, 0, 0, l1, ⟨0, 0, 0, 0⟩⟩ = b := ⟨_, rfl⟩
      have hE := str_empty T
      have hE1 := recText_empty ⟨7, l0, 0, 0, l1, ⟨0, 0, 0, 0⟩⟩
      rw [hT, hok] at hE1
      rw [hE1] at hE
      clear hE1
      have HT := Lib.hid hT
      have HOK := Lib.hid hok
      clear hT hok
      have rv : RV recL w13 (.agg #[.int .i64 7, .int .i64 l0, .int .i64 0, .int .i64 0, .int .i64 l1, .int .i64 0, .int .i64 0, .int .i64 0, .int .i64 0]) ⟨7, l0, 0, 0, l1, ⟨0, 0, 0, 0⟩⟩ := rv_rec_mk (zM := ⟨0, 0, 0, 0⟩)
      go_wp2_with fail
      refine (sRecText_c rv).mono ?_
      rintro e w14 ⟨rfl, h_w14⟩
      clear c_v_0_w11 f_v_0_w11 c_v_1_w11 f_v_1_w11 c_v_2_w11 f_v_2_w11 c_v_3_w11 f_v_3_w11 c_v_4_w11 f_v_4_w11 c_v_5_w11 f_v_5_w11 c_v_6_w11 f_v_6_w11 c_v_7_w11 f_v_7_w11 c_v_8_w11 f_v_8_w11 c_r_0_w11 f_r_0_w11 c_r_1_w11 f_r_1_w11 c_r_2_w11 f_r_2_w11 c_r_3_w11 f_r_3_w11 c_r_4_w11 f_r_4_w11 c_r_5_w11 f_r_5_w11 c_r_6_w11 f_r_6_w11 c_r_7_w11 f_r_7_w11 c_r_8_w11 f_r_8_w11 d0 c_v_0_w12 f_v_0_w12 c_v_1_w12 f_v_1_w12 c_v_2_w12 f_v_2_w12 c_v_3_w12 f_v_3_w12 c_v_4_w12 f_v_4_w12 c_v_5_w12 f_v_5_w12 c_v_6_w12 f_v_6_w12 c_v_7_w12 f_v_7_w12 c_v_8_w12 f_v_8_w12 c_r_0_w12 f_r_0_w12 c_r_1_w12 f_r_1_w12 c_r_2_w12 f_r_2_w12 c_r_3_w12 f_r_3_w12 c_r_4_w12 f_r_4_w12 c_r_5_w12 f_r_5_w12 c_r_6_w12 f_r_6_w12 c_r_7_w12 f_r_7_w12 c_r_8_w12 f_r_8_w12 d1 c_v_0_w13 f_v_0_w13 c_v_1_w13 f_v_1_w13 c_v_2_w13 f_v_2_w13 c_v_3_w13 f_v_3_w13 c_v_4_w13 f_v_4_w13 c_v_5_w13 f_v_5_w13 c_v_6_w13 f_v_6_w13 c_v_7_w13 f_v_7_w13 c_v_8_w13 f_v_8_w13 c_r_0_w13 f_r_0_w13 c_r_1_w13 f_r_1_w13 c_r_2_w13 f_r_2_w13 c_r_3_w13 f_r_3_w13 c_r_4_w13 f_r_4_w13 c_r_5_w13 f_r_5_w13 c_r_6_w13 f_r_6_w13 c_r_7_w13 f_r_7_w13 c_r_8_w13 f_r_8_w13
      replace x_r := x_r.from_ h_w14
      replace x_v := x_v.from_ h_w14
      replace o_W := o_W.below h_w14
      replace o_L := o_L.below h_w14
      have B_w14 := B_w13.trans (h_w14.mono B_w13.size)
      have s_w14 := h_w14.size
      rw [HT.out]
      clear rv
      have c_v_0_w14 := x_v.cell (i := 0) rfl
      have f_v_0_w14 := x_v.frozen 0
      have c_v_1_w14 := x_v.cell (i := 1) rfl
      have f_v_1_w14 := x_v.frozen 1
      have c_v_2_w14 := x_v.cell (i := 2) rfl
      have f_v_2_w14 := x_v.frozen 2
      have c_v_3_w14 := x_v.cell (i := 3) rfl
      have f_v_3_w14 := x_v.frozen 3
      have c_v_4_w14 := x_v.cell (i := 4) rfl
      have f_v_4_w14 := x_v.frozen 4
      have c_v_5_w14 := x_v.cell (i := 5) rfl
      have f_v_5_w14 := x_v.frozen 5
      have c_v_6_w14 := x_v.cell (i := 6) rfl
      have f_v_6_w14 := x_v.frozen 6
      have c_v_7_w14 := x_v.cell (i := 7) rfl
      have f_v_7_w14 := x_v.frozen 7
      have c_v_8_w14 := x_v.cell (i := 8) rfl
      have f_v_8_w14 := x_v.frozen 8
      have c_r_0_w14 := x_r.cell (i := 0) rfl
      have f_r_0_w14 := x_r.frozen 0
      have c_r_1_w14 := x_r.cell (i := 1) rfl
      have f_r_1_w14 := x_r.frozen 1
      have c_r_2_w14 := x_r.cell (i := 2) rfl
      have f_r_2_w14 := x_r.frozen 2
      have c_r_3_w14 := x_r.cell (i := 3) rfl
      have f_r_3_w14 := x_r.frozen 3
      have c_r_4_w14 := x_r.cell (i := 4) rfl
      have f_r_4_w14 := x_r.frozen 4
      have c_r_5_w14 := x_r.cell (i := 5) rfl
      have f_r_5_w14 := x_r.frozen 5
      have c_r_6_w14 := x_r.cell (i := 6) rfl
      have f_r_6_w14 := x_r.frozen 6
      have c_r_7_w14 := x_r.cell (i := 7) rfl
      have f_r_7_w14 := x_r.frozen 7
      have c_r_8_w14 := x_r.cell (i := 8) rfl
      have f_r_8_w14 := x_r.frozen 8
      cases ok
      case false =>
        have hE2 : (T.toList == []) = true := hE
        clear hE
        have HF : Hid (textRecB s = false) := by show _ = _; unfold textRecB; rw [HR.out, HOK.out]; rfl
        have i_r_0 := x_r.same (i := 0) rfl
        have i_r_1 := x_r.same (i := 1) rfl
        have i_r_2 := x_r.same (i := 2) rfl
        have i_r_3 := x_r.same (i := 3) rfl
        have i_r_4 := x_r.same (i := 4) rfl
        have i_r_5 := x_r.same (i := 5) rfl
        have i_r_6 := x_r.same (i := 6) rfl
        have i_r_7 := x_r.same (i := 7) rfl
        have i_r_8 := x_r.same (i := 8) rfl
        have HF2 : Hid (textRec s = recZ) := by show _ = _; unfold textRec; rw [HF.out]; rfl
        go_wp2
        refine ret_cell_tmp (by rfl) (by rfl) x_r Tryd.underlying26 sz_rec (by rfl) ?_
        rw [HF.out, HF2.out]
        exact ⟨_, rfl, ov_rec (d := recZ) (Nat.le_refl _), B_w14⟩
      case true =>
        have hE2 : (T.toList == []) = false := hE
        clear hE
        have rv : RV recL w14 (.agg #[.int .i64 7, .int .i64 l0, .int .i64 0, .int .i64 0, .int .i64 l1, .int .i64 0, .int .i64 0, .int .i64 0, .int .i64 0]) ⟨7, l0, 0, 0, l1, ⟨0, 0, 0, 0⟩⟩ := rv_rec_mk (zM := ⟨0, 0, 0, 0⟩)
        go_wp2_with fail
        refine (sRecText_c rv).mono ?_
        rintro e w15 ⟨rfl, h_w15⟩
        clear c_v_0_w14 f_v_0_w14 c_v_1_w14 f_v_1_w14 c_v_2_w14 f_v_2_w14 c_v_3_w14 f_v_3_w14 c_v_4_w14 f_v_4_w14 c_v_5_w14 f_v_5_w14 c_v_6_w14 f_v_6_w14 c_v_7_w14 f_v_7_w14 c_v_8_w14 f_v_8_w14 c_r_0_w14 f_r_0_w14 c_r_1_w14 f_r_1_w14 c_r_2_w14 f_r_2_w14 c_r_3_w14 f_r_3_w14 c_r_4_w14 f_r_4_w14 c_r_5_w14 f_r_5_w14 c_r_6_w14 f_r_6_w14 c_r_7_w14 f_r_7_w14 c_r_8_w14 f_r_8_w14
        replace x_r := x_r.from_ h_w15
        replace x_v := x_v.from_ h_w15
        replace o_W := o_W.below h_w15
        replace o_L := o_L.below h_w15
        have B_w15 := B_w14.trans (h_w15.mono B_w14.size)
        have s_w15 := h_w15.size
        rw [HT.out]
        clear rv
        have c_v_0_w15 := x_v.cell (i := 0) rfl
        have f_v_0_w15 := x_v.frozen 0
        have c_v_1_w15 := x_v.cell (i := 1) rfl
        have f_v_1_w15 := x_v.frozen 1
        have c_v_2_w15 := x_v.cell (i := 2) rfl
        have f_v_2_w15 := x_v.frozen 2
        have c_v_3_w15 := x_v.cell (i := 3) rfl
        have f_v_3_w15 := x_v.frozen 3
        have c_v_4_w15 := x_v.cell (i := 4) rfl
        have f_v_4_w15 := x_v.frozen 4
        have c_v_5_w15 := x_v.cell (i := 5) rfl
        have f_v_5_w15 := x_v.frozen 5
        have c_v_6_w15 := x_v.cell (i := 6) rfl
        have f_v_6_w15 := x_v.frozen 6
        have c_v_7_w15 := x_v.cell (i := 7) rfl
        have f_v_7_w15 := x_v.frozen 7
        have c_v_8_w15 := x_v.cell (i := 8) rfl
        have f_v_8_w15 := x_v.frozen 8
        have c_r_0_w15 := x_r.cell (i := 0) rfl
        have f_r_0_w15 := x_r.frozen 0
        have c_r_1_w15 := x_r.cell (i := 1) rfl
        have f_r_1_w15 := x_r.frozen 1
        have c_r_2_w15 := x_r.cell (i := 2) rfl
        have f_r_2_w15 := x_r.frozen 2
        have c_r_3_w15 := x_r.cell (i := 3) rfl
        have f_r_3_w15 := x_r.frozen 3
        have c_r_4_w15 := x_r.cell (i := 4) rfl
        have f_r_4_w15 := x_r.frozen 4
        have c_r_5_w15 := x_r.cell (i := 5) rfl
        have f_r_5_w15 := x_r.frozen 5
        have c_r_6_w15 := x_r.cell (i := 6) rfl
        have f_r_6_w15 := x_r.frozen 6
        have c_r_7_w15 := x_r.cell (i := 7) rfl
        have f_r_7_w15 := x_r.frozen 7
        have c_r_8_w15 := x_r.cell (i := 8) rfl
        have f_r_8_w15 := x_r.frozen 8
        by_cases hTs : T = s
        case neg =>
          have hE3 : (T.toList == s.toList) = false := by rw [beq_str]; exact decide_eq_false hTs
          have HF : Hid (textRecB s = false) := by show _ = _; unfold textRecB; rw [HR.out, HOK.out, HT.out]; simpa using hTs
          clear hTs
          have i_r_0 := x_r.same (i := 0) rfl
          have i_r_1 := x_r.same (i := 1) rfl
          have i_r_2 := x_r.same (i := 2) rfl
          have i_r_3 := x_r.same (i := 3) rfl
          have i_r_4 := x_r.same (i := 4) rfl
          have i_r_5 := x_r.same (i := 5) rfl
          have i_r_6 := x_r.same (i := 6) rfl
          have i_r_7 := x_r.same (i := 7) rfl
          have i_r_8 := x_r.same (i := 8) rfl
          have HF2 : Hid (textRec s = recZ) := by show _ = _; unfold textRec; rw [HF.out]; rfl
          go_wp2
          refine ret_cell_tmp (by rfl) (by rfl) x_r Tryd.underlying26 sz_rec (by rfl) ?_
          rw [HF.out, HF2.out]
          exact ⟨_, rfl, ov_rec (d := recZ) (Nat.le_refl _), B_w15⟩
        have hE3 : (T.toList == s.toList) = true := by rw [beq_str]; exact decide_eq_true hTs
        have HF : Hid (textRecB s = true) := by show _ = _; unfold textRecB; rw [HR.out, HOK.out, HT.out]; simpa using hTs
        clear hTs
        have HF2 : Hid (textRec s = ⟨7, l0, 0, 0, l1, ⟨0, 0, 0, 0⟩⟩) := by show _ = _; unfold textRec; rw [HF.out, HR.out]; rfl
        obtain ⟨w16, e_w16, s_w16, h_w16, y⟩ := store_step x_r [.int .i64 7, .int .i64 l0, .int .i64 0, .int .i64 0, .int .i64 l1, .int .i64 0, .int .i64 0, .int .i64 0, .int .i64 0] rfl
        replace e_w16 : (((((((((w15.setCell ⟨w.heap.size, 0, none⟩ (.int .i64 7)).setCell ⟨w.heap.size, 1, none⟩ (.int .i64 l0)).setCell ⟨w.heap.size, 2, none⟩ (.int .i64 0)).setCell ⟨w.heap.size, 3, none⟩ (.int .i64 0)).setCell ⟨w.heap.size, 4, none⟩ (.int .i64 l1)).setCell ⟨w.heap.size, 5, none⟩ (.int .i64 0)).setCell ⟨w.heap.size, 6, none⟩ (.int .i64 0)).setCell ⟨w.heap.size, 7, none⟩ (.int .i64 0)).setCell ⟨w.heap.size, 8, none⟩ (.int .i64 0)) = w16 := e_w16
        have s_w16_1 := Nat.le_of_eq s_w16
        have s_w16_2 := Nat.le_of_eq s_w16.symm
        clear s_w16
        replace x_v := x_v.chg h_w16 (by omega)
        replace o_W := o_W.chg h_w16 (by omega)
        replace o_L := o_L.chg h_w16 (by omega)
        have B_w16 := Below.chg_ B_w15 h_w16 (by omega) (by omega)
        replace x_r : Vr w16 (w.heap.size) 26 [.int .i64 7, .int .i64 l0, .int .i64 0, .int .i64 0, .int .i64 l1, .int .i64 0, .int .i64 0, .int .i64 0, .int .i64 0] := y
        clear y
        have c_r_0_w16 := x_r.cell (i := 0) rfl
        have f_r_0_w16 := x_r.frozen 0
        have c_r_1_w16 := x_r.cell (i := 1) rfl
        have f_r_1_w16 := x_r.frozen 1
        have c_r_2_w16 := x_r.cell (i := 2) rfl
        have f_r_2_w16 := x_r.frozen 2
        have c_r_3_w16 := x_r.cell (i := 3) rfl
        have f_r_3_w16 := x_r.frozen 3
        have c_r_4_w16 := x_r.cell (i := 4) rfl
        have f_r_4_w16 := x_r.frozen 4
        have c_r_5_w16 := x_r.cell (i := 5) rfl
        have f_r_5_w16 := x_r.frozen 5
        have c_r_6_w16 := x_r.cell (i := 6) rfl
        have f_r_6_w16 := x_r.frozen 6
        have c_r_7_w16 := x_r.cell (i := 7) rfl
        have f_r_7_w16 := x_r.frozen 7
        have c_r_8_w16 := x_r.cell (i := 8) rfl
        have f_r_8_w16 := x_r.frozen 8
        go_wp2
        refine ret_cell_tmp (by rfl) (by rfl) x_r Tryd.underlying26 sz_rec (by rfl) ?_
        rw [HF.out, HF2.out]
        exact ⟨_, rfl, ov_rec (d := ⟨7, l0, 0, 0, l1, ⟨0, 0, 0, 0⟩⟩) (Nat.le_refl _), B_w16⟩
    · -- 8
      have c_v_0_wr := x_v.cell (i := 0) rfl
      have f_v_0_wr := x_v.frozen 0
      have c_v_1_wr := x_v.cell (i := 1) rfl
      have f_v_1_wr := x_v.frozen 1
      have c_v_2_wr := x_v.cell (i := 2) rfl
      have f_v_2_wr := x_v.frozen 2
      have c_v_3_wr := x_v.cell (i := 3) rfl
      have f_v_3_wr := x_v.frozen 3
      have c_v_4_wr := x_v.cell (i := 4) rfl
      have f_v_4_wr := x_v.frozen 4
      have c_v_5_wr := x_v.cell (i := 5) rfl
      have f_v_5_wr := x_v.frozen 5
      have c_v_6_wr := x_v.cell (i := 6) rfl
      have f_v_6_wr := x_v.frozen 6
      have c_v_7_wr := x_v.cell (i := 7) rfl
      have f_v_7_wr := x_v.frozen 7
      have c_v_8_wr := x_v.cell (i := 8) rfl
      have f_v_8_wr := x_v.frozen 8
      have c_r_0_wr := x_r.cell (i := 0) rfl
      have f_r_0_wr := x_r.frozen 0
      have c_r_1_wr := x_r.cell (i := 1) rfl
      have f_r_1_wr := x_r.frozen 1
      have c_r_2_wr := x_r.cell (i := 2) rfl
      have f_r_2_wr := x_r.frozen 2
      have c_r_3_wr := x_r.cell (i := 3) rfl
      have f_r_3_wr := x_r.frozen 3
      have c_r_4_wr := x_r.cell (i := 4) rfl
      have f_r_4_wr := x_r.frozen 4
      have c_r_5_wr := x_r.cell (i := 5) rfl
      have f_r_5_wr := x_r.frozen 5
      have c_r_6_wr := x_r.cell (i := 6) rfl
      have f_r_6_wr := x_r.frozen 6
      have c_r_7_wr := x_r.cell (i := 7) rfl
      have f_r_7_wr := x_r.frozen 7
      have c_r_8_wr := x_r.cell (i := 8) rfl
      have f_r_8_wr := x_r.frozen 8
      go_wp2_with fail
      refine (sHas_8 _).mono ?_
      rintro e w' ⟨rfl, rfl⟩
      go_wp2_with fail
      refine (sNums1_c (o_W.rd) hwz2 hwm).mono ?_
      rintro e w11 ⟨vL, rfl, o_L, h_w11⟩
      clear c_v_0_wr f_v_0_wr c_v_1_wr f_v_1_wr c_v_2_wr f_v_2_wr c_v_3_wr f_v_3_wr c_v_4_wr f_v_4_wr c_v_5_wr f_v_5_wr c_v_6_wr f_v_6_wr c_v_7_wr f_v_7_wr c_v_8_wr f_v_8_wr c_r_0_wr f_r_0_wr c_r_1_wr f_r_1_wr c_r_2_wr f_r_2_wr c_r_3_wr f_r_3_wr c_r_4_wr f_r_4_wr c_r_5_wr f_r_5_wr c_r_6_wr f_r_6_wr c_r_7_wr f_r_7_wr c_r_8_wr f_r_8_wr
      replace x_r := x_r.from_ h_w11
      replace x_v := x_v.from_ h_w11
      replace o_W := o_W.below h_w11
      have B_w11 := HB.trans (h_w11.mono HB.size)
      have s_w11 := h_w11.size
      rw [HL.out] at o_L
      obtain ⟨bL, cL, rfl⟩ := own_slice64 o_L (by omega)
      have j0 : (0 : Int) < (L.length : Int) := by omega
      have j1 : (1 : Int) < (L.length : Int) := by omega
      have j2 : (2 : Int) < (L.length : Int) := by omega
      have j3 : (3 : Int) < (L.length : Int) := by omega
      have d0 := o_L.1.cell_ (j := 0) (by omega)
      rw [HL0.out] at d0
      have c_v_0_w11 := x_v.cell (i := 0) rfl
      have f_v_0_w11 := x_v.frozen 0
      have c_v_1_w11 := x_v.cell (i := 1) rfl
      have f_v_1_w11 := x_v.frozen 1
      have c_v_2_w11 := x_v.cell (i := 2) rfl
      have f_v_2_w11 := x_v.frozen 2
      have c_v_3_w11 := x_v.cell (i := 3) rfl
      have f_v_3_w11 := x_v.frozen 3
      have c_v_4_w11 := x_v.cell (i := 4) rfl
      have f_v_4_w11 := x_v.frozen 4
      have c_v_5_w11 := x_v.cell (i := 5) rfl
      have f_v_5_w11 := x_v.frozen 5
      have c_v_6_w11 := x_v.cell (i := 6) rfl
      have f_v_6_w11 := x_v.frozen 6
      have c_v_7_w11 := x_v.cell (i := 7) rfl
      have f_v_7_w11 := x_v.frozen 7
      have c_v_8_w11 := x_v.cell (i := 8) rfl
      have f_v_8_w11 := x_v.frozen 8
      have c_r_0_w11 := x_r.cell (i := 0) rfl
      have f_r_0_w11 := x_r.frozen 0
      have c_r_1_w11 := x_r.cell (i := 1) rfl
      have f_r_1_w11 := x_r.frozen 1
      have c_r_2_w11 := x_r.cell (i := 2) rfl
      have f_r_2_w11 := x_r.frozen 2
      have c_r_3_w11 := x_r.cell (i := 3) rfl
      have f_r_3_w11 := x_r.frozen 3
      have c_r_4_w11 := x_r.cell (i := 4) rfl
      have f_r_4_w11 := x_r.frozen 4
      have c_r_5_w11 := x_r.cell (i := 5) rfl
      have f_r_5_w11 := x_r.frozen 5
      have c_r_6_w11 := x_r.cell (i := 6) rfl
      have f_r_6_w11 := x_r.frozen 6
      have c_r_7_w11 := x_r.cell (i := 7) rfl
      have f_r_7_w11 := x_r.frozen 7
      have c_r_8_w11 := x_r.cell (i := 8) rfl
      have f_r_8_w11 := x_r.frozen 8
      obtain ⟨w12, e_w12, s_w12, h_w12, y⟩ := set_step x_v 1 (.int .i64 l0)
      have s_w12_1 := Nat.le_of_eq s_w12
      have s_w12_2 := Nat.le_of_eq s_w12.symm
      clear s_w12
      replace x_r := x_r.chg h_w12 (by omega)
      replace o_W := o_W.chg h_w12 (by omega)
      replace o_L := o_L.chg h_w12 (by omega)
      have B_w12 := Below.chg_ B_w11 h_w12 (by omega) (by omega)
      replace x_v : Vr w12 (w1.heap.size) 26 [.int .i64 8, .int .i64 l0, .int .i64 0, .int .i64 0, .int .i64 0, .int .i64 0, .int .i64 0, .int .i64 0, .int .i64 0] := y
      clear y
      have d1 := o_L.1.cell_ (j := 1) (by omega)
      rw [HL1.out] at d1
      have c_v_0_w12 := x_v.cell (i := 0) rfl
      have f_v_0_w12 := x_v.frozen 0
      have c_v_1_w12 := x_v.cell (i := 1) rfl
      have f_v_1_w12 := x_v.frozen 1
      have c_v_2_w12 := x_v.cell (i := 2) rfl
      have f_v_2_w12 := x_v.frozen 2
      have c_v_3_w12 := x_v.cell (i := 3) rfl
      have f_v_3_w12 := x_v.frozen 3
      have c_v_4_w12 := x_v.cell (i := 4) rfl
      have f_v_4_w12 := x_v.frozen 4
      have c_v_5_w12 := x_v.cell (i := 5) rfl
      have f_v_5_w12 := x_v.frozen 5
      have c_v_6_w12 := x_v.cell (i := 6) rfl
      have f_v_6_w12 := x_v.frozen 6
      have c_v_7_w12 := x_v.cell (i := 7) rfl
      have f_v_7_w12 := x_v.frozen 7
      have c_v_8_w12 := x_v.cell (i := 8) rfl
      have f_v_8_w12 := x_v.frozen 8
      have c_r_0_w12 := x_r.cell (i := 0) rfl
      have f_r_0_w12 := x_r.frozen 0
      have c_r_1_w12 := x_r.cell (i := 1) rfl
      have f_r_1_w12 := x_r.frozen 1
      have c_r_2_w12 := x_r.cell (i := 2) rfl
      have f_r_2_w12 := x_r.frozen 2
      have c_r_3_w12 := x_r.cell (i := 3) rfl
      have f_r_3_w12 := x_r.frozen 3
      have c_r_4_w12 := x_r.cell (i := 4) rfl
      have f_r_4_w12 := x_r.frozen 4
      have c_r_5_w12 := x_r.cell (i := 5) rfl
      have f_r_5_w12 := x_r.frozen 5
      have c_r_6_w12 := x_r.cell (i := 6) rfl
      have f_r_6_w12 := x_r.frozen 6
      have c_r_7_w12 := x_r.cell (i := 7) rfl
      have f_r_7_w12 := x_r.frozen 7
      have c_r_8_w12 := x_r.cell (i := 8) rfl
      have f_r_8_w12 := x_r.frozen 8
      obtain ⟨w13, e_w13, s_w13, h_w13, y⟩ := set_step x_v 3 (.int .i64 l1)
      have s_w13_1 := Nat.le_of_eq s_w13
      have s_w13_2 := Nat.le_of_eq s_w13.symm
      clear s_w13
      replace x_r := x_r.chg h_w13 (by omega)
      replace o_W := o_W.chg h_w13 (by omega)
      replace o_L := o_L.chg h_w13 (by omega)
      have B_w13 := Below.chg_ B_w12 h_w13 (by omega) (by omega)
      replace x_v : Vr w13 (w1.heap.size) 26 [.int .i64 8, .int .i64 l0, .int .i64 0, .int .i64 l1, .int .i64 0, .int .i64 0, .int .i64 0, .int .i64 0, .int .i64 0] := y
      clear y
      have d2 := o_L.1.cell_ (j := 2) (by omega)
      rw [HL2.out] at d2
      have c_v_0_w13 := x_v.cell (i := 0) rfl
      have f_v_0_w13 := x_v.frozen 0
      have c_v_1_w13 := x_v.cell (i := 1) rfl
      have f_v_1_w13 := x_v.frozen 1
      have c_v_2_w13 := x_v.cell (i := 2) rfl
      have f_v_2_w13 := x_v.frozen 2
      have c_v_3_w13 := x_v.cell (i := 3) rfl
      have f_v_3_w13 := x_v.frozen 3
      have c_v_4_w13 := x_v.cell (i := 4) rfl
      have f_v_4_w13 := x_v.frozen 4
      have c_v_5_w13 := x_v.cell (i := 5) rfl
      have f_v_5_w13 := x_v.frozen 5
      have c_v_6_w13 := x_v.cell (i := 6) rfl
      have f_v_6_w13 := x_v.frozen 6
      have c_v_7_w13 := x_v.cell (i := 7) rfl
      have f_v_7_w13 := x_v.frozen 7
      have c_v_8_w13 := x_v.cell (i := 8) rfl
      have f_v_8_w13 := x_v.frozen 8
      have c_r_0_w13 := x_r.cell (i := 0) rfl
      have f_r_0_w13 := x_r.frozen 0
      have c_r_1_w13 := x_r.cell (i := 1) rfl
      have f_r_1_w13 := x_r.frozen 1
      have c_r_2_w13 := x_r.cell (i := 2) rfl
      have f_r_2_w13 := x_r.frozen 2
      have c_r_3_w13 := x_r.cell (i := 3) rfl
      have f_r_3_w13 := x_r.frozen 3
      have c_r_4_w13 := x_r.cell (i := 4) rfl
      have f_r_4_w13 := x_r.frozen 4
      have c_r_5_w13 := x_r.cell (i := 5) rfl
      have f_r_5_w13 := x_r.frozen 5
      have c_r_6_w13 := x_r.cell (i := 6) rfl
      have f_r_6_w13 := x_r.frozen 6
      have c_r_7_w13 := x_r.cell (i := 7) rfl
      have f_r_7_w13 := x_r.frozen 7
      have c_r_8_w13 := x_r.cell (i := 8) rfl
      have f_r_8_w13 := x_r.frozen 8
      obtain ⟨w14, e_w14, s_w14, h_w14, y⟩ := set_step x_v 4 (.int .i64 l2)
      have s_w14_1 := Nat.le_of_eq s_w14
      have s_w14_2 := Nat.le_of_eq s_w14.symm
      clear s_w14
      replace x_r := x_r.chg h_w14 (by omega)
      replace o_W := o_W.chg h_w14 (by omega)
      replace o_L := o_L.chg h_w14 (by omega)
      have B_w14 := Below.chg_ B_w13 h_w14 (by omega) (by omega)
      replace x_v : Vr w14 (w1.heap.size) 26 [.int .i64 8, .int .i64 l0, .int .i64 0, .int .i64 l1, .int .i64 l2, .int .i64 0, .int .i64 0, .int .i64 0, .int .i64 0] := y
      clear y
      have c_v_0_w14 := x_v.cell (i := 0) rfl
      have f_v_0_w14 := x_v.frozen 0
      have c_v_1_w14 := x_v.cell (i := 1) rfl
      have f_v_1_w14 := x_v.frozen 1
      have c_v_2_w14 := x_v.cell (i := 2) rfl
      have f_v_2_w14 := x_v.frozen 2
      have c_v_3_w14 := x_v.cell (i := 3) rfl
      have f_v_3_w14 := x_v.frozen 3
      have c_v_4_w14 := x_v.cell (i := 4) rfl
      have f_v_4_w14 := x_v.frozen 4
      have c_v_5_w14 := x_v.cell (i := 5) rfl
      have f_v_5_w14 := x_v.frozen 5
      have c_v_6_w14 := x_v.cell (i := 6) rfl
      have f_v_6_w14 := x_v.frozen 6
      have c_v_7_w14 := x_v.cell (i := 7) rfl
      have f_v_7_w14 := x_v.frozen 7
      have c_v_8_w14 := x_v.cell (i := 8) rfl
      have f_v_8_w14 := x_v.frozen 8
      have c_r_0_w14 := x_r.cell (i := 0) rfl
      have f_r_0_w14 := x_r.frozen 0
      have c_r_1_w14 := x_r.cell (i := 1) rfl
      have f_r_1_w14 := x_r.frozen 1
      have c_r_2_w14 := x_r.cell (i := 2) rfl
      have f_r_2_w14 := x_r.frozen 2
      have c_r_3_w14 := x_r.cell (i := 3) rfl
      have f_r_3_w14 := x_r.frozen 3
      have c_r_4_w14 := x_r.cell (i := 4) rfl
      have f_r_4_w14 := x_r.frozen 4
      have c_r_5_w14 := x_r.cell (i := 5) rfl
      have f_r_5_w14 := x_r.frozen 5
      have c_r_6_w14 := x_r.cell (i := 6) rfl
      have f_r_6_w14 := x_r.frozen 6
      have c_r_7_w14 := x_r.cell (i := 7) rfl
      have f_r_7_w14 := x_r.frozen 7
      have c_r_8_w14 := x_r.cell (i := 8) rfl
      have f_r_8_w14 := x_r.frozen 8
      have HR : Hid (recOf (splitL s 32) = ⟨8, l0, 0, l1, l2, ⟨0, 0, 0, 0⟩⟩) := by
        show _ = _
        unfold recOf
        rw [HWS.out, HX.out, HK.out, HL.out, ← HL0.out, ← HL1.out, ← HL2.out]
        rfl
      obtain ⟨T, hT⟩ : ∃ T, recText ⟨8, l0, 0, l1, l2, ⟨0, 0, 0, 0⟩⟩ = T := ⟨_, rfl⟩
      obtain ⟨ok, hok⟩ : ∃ b, recOkB ⟨8, l0, 0, l1, l2, ⟨0, 0, 0, 0⟩⟩ = b := ⟨_, rfl⟩
      have hE := str_empty T
      have hE1 := recText_empty ⟨8, l0, 0, l1, l2, ⟨0, 0, 0, 0⟩⟩
      rw [hT, hok] at hE1
      rw [hE1] at hE
      clear hE1
      have HT := Lib.hid hT
      have HOK := Lib.hid hok
      clear hT hok
      have rv : RV recL w14 (.agg #[.int .i64 8, .int .i64 l0, .int .i64 0, .int .i64 l1, .int .i64 l2, .int .i64 0, .int .i64 0, .int .i64 0, .int .i64 0]) ⟨8, l0, 0, l1, l2, ⟨0, 0, 0, 0⟩⟩ := rv_rec_mk (zM := ⟨0, 0, 0, 0⟩)
      go_wp2_with fail
      refine (sRecText_c rv).mono ?_
      rintro e w15 ⟨rfl, h_w15⟩
      clear c_v_0_w11 f_v_0_w11 c_v_1_w11 f_v_1_w11 c_v_2_w11 f_v_2_w11 c_v_3_w11 f_v_3_w11 c_v_4_w11 f_v_4_w11 c_v_5_w11 f_v_5_w11 c_v_6_w11 f_v_6_w11 c_v_7_w11 f_v_7_w11 c_v_8_w11 f_v_8_w11 c_r_0_w11 f_r_0_w11 c_r_1_w11 f_r_1_w11 c_r_2_w11 f_r_2_w11 c_r_3_w11 f_r_3_w11 c_r_4_w11 f_r_4_w11 c_r_5_w11 f_r_5_w11 c_r_6_w11 f_r_6_w11 c_r_7_w11 f_r_7_w11 c_r_8_w11 f_r_8_w11 d0 c_v_0_w12 f_v_0_w12 c_v_1_w12 f_v_1_w12 c_v_2_w12 f_v_2_w12 c_v_3_w12 f_v_3_w12 c_v_4_w12 f_v_4_w12 c_v_5_w12 f_v_5_w12 c_v_6_w12 f_v_6_w12 c_v_7_w12 f_v_7_w12 c_v_8_w12 f_v_8_w12 c_r_0_w12 f_r_0_w12 c_r_1_w12 f_r_1_w12 c_r_2_w12 f_r_2_w12 c_r_3_w12 f_r_3_w12 c_r_4_w12 f_r_4_w12 c_r_5_w12 f_r_5_w12 c_r_6_w12 f_r_6_w12 c_r_7_w12 f_r_7_w12 c_r_8_w12 f_r_8_w12 d1 c_v_0_w13 f_v_0_w13 c_v_1_w13 f_v_1_w13 c_v_2_w13 f_v_2_w13 c_v_3_w13 f_v_3_w13 c_v_4_w13 f_v_4_w13 c_v_5_w13 f_v_5_w13 c_v_6_w13 f_v_6_w13 c_v_7_w13 f_v_7_w13 c_v_8_w13 f_v_8_w13 c_r_0_w13 f_r_0_w13 c_r_1_w13 f_r_1_w13 c_r_2_w13 f_r_2_w13 c_r_3_w13 f_r_3_w13 c_r_4_w13 f_r_4_w13 c_r_5_w13 f_r_5_w13 c_r_6_w13 f_r_6_w13 c_r_7_w13 f_r_7_w13 c_r_8_w13 f_r_8_w13 d2 c_v_0_w14 f_v_0_w14 c_v_1_w14 f_v_1_w14 c_v_2_w14 f_v_2_w14 c_v_3_w14 f_v_3_w14 c_v_4_w14 f_v_4_w14 c_v_5_w14 f_v_5_w14 c_v_6_w14 f_v_6_w14 c_v_7_w14 f_v_7_w14 c_v_8_w14 f_v_8_w14 c_r_0_w14 f_r_0_w14 c_r_1_w14 f_r_1_w14 c_r_2_w14 f_r_2_w14 c_r_3_w14 f_r_3_w14 c_r_4_w14 f_r_4_w14 c_r_5_w14 f_r_5_w14 c_r_6_w14 f_r_6_w14 c_r_7_w14 f_r_7_w14 c_r_8_w14 f_r_8_w14
      replace x_r := x_r.from_ h_w15
      replace x_v := x_v.from_ h_w15
      replace o_W := o_W.below h_w15
      replace o_L := o_L.below h_w15
      have B_w15 := B_w14.trans (h_w15.mono B_w14.size)
      have s_w15 := h_w15.size
      rw [HT.out]
      clear rv
      have c_v_0_w15 := x_v.cell (i := 0) rfl
      have f_v_0_w15 := x_v.frozen 0
      have c_v_1_w15 := x_v.cell (i := 1) rfl
      have f_v_1_w15 := x_v.frozen 1
      have c_v_2_w15 := x_v.cell (i := 2) rfl
      have f_v_2_w15 := x_v.frozen 2
      have c_v_3_w15 := x_v.cell (i := 3) rfl
      have f_v_3_w15 := x_v.frozen 3
      have c_v_4_w15 := x_v.cell (i := 4) rfl
      have f_v_4_w15 := x_v.frozen 4
      have c_v_5_w15 := x_v.cell (i := 5) rfl
      have f_v_5_w15 := x_v.frozen 5
      have c_v_6_w15 := x_v.cell (i := 6) rfl
      have f_v_6_w15 := x_v.frozen 6
      have c_v_7_w15 := x_v.cell (i := 7) rfl
      have f_v_7_w15 := x_v.frozen 7
      have c_v_8_w15 := x_v.cell (i := 8) rfl
      have f_v_8_w15 := x_v.frozen 8
      have c_r_0_w15 := x_r.cell (i := 0) rfl
      have f_r_0_w15 := x_r.frozen 0
      have c_r_1_w15 := x_r.cell (i := 1) rfl
      have f_r_1_w15 := x_r.frozen 1
      have c_r_2_w15 := x_r.cell (i := 2) rfl
      have f_r_2_w15 := x_r.frozen 2
      have c_r_3_w15 := x_r.cell (i := 3) rfl
      have f_r_3_w15 := x_r.frozen 3
      have c_r_4_w15 := x_r.cell (i := 4) rfl
      have f_r_4_w15 := x_r.frozen 4
      have c_r_5_w15 := x_r.cell (i := 5) rfl
      have f_r_5_w15 := x_r.frozen 5
      have c_r_6_w15 := x_r.cell (i := 6) rfl
      have f_r_6_w15 := x_r.frozen 6
      have c_r_7_w15 := x_r.cell (i := 7) rfl
      have f_r_7_w15 := x_r.frozen 7
      have c_r_8_w15 := x_r.cell (i := 8) rfl
      have f_r_8_w15 := x_r.frozen 8
      cases ok
      case false =>
        have hE2 : (T.toList == []) = true := hE
        clear hE
        have HF : Hid (textRecB s = false) := by show _ = _; unfold textRecB; rw [HR.out, HOK.out]; rfl
        have i_r_0 := x_r.same (i := 0) rfl
        have i_r_1 := x_r.same (i := 1) rfl
        have i_r_2 := x_r.same (i := 2) rfl
        have i_r_3 := x_r.same (i := 3) rfl
        have i_r_4 := x_r.same (i := 4) rfl
        have i_r_5 := x_r.same (i := 5) rfl
        have i_r_6 := x_r.same (i := 6) rfl
        have i_r_7 := x_r.same (i := 7) rfl
        have i_r_8 := x_r.same (i := 8) rfl
        have HF2 : Hid (textRec s = recZ) := by show _ = _; unfold textRec; rw [HF.out]; rfl
        go_wp2
        refine ret_cell_tmp (by rfl) (by rfl) x_r Tryd.underlying26 sz_rec (by rfl) ?_
        rw [HF.out, HF2.out]
        exact ⟨_, rfl, ov_rec (d := recZ) (Nat.le_refl _), B_w15⟩
      case true =>
        have hE2 : (T.toList == []) = false := hE
        clear hE
        have rv : RV recL w15 (.agg #[.int .i64 8, .int .i64 l0, .int .i64 0, .int .i64 l1, .int .i64 l2, .int .i64 0, .int .i64 0, .int .i64 0, .int .i64 0]) ⟨8, l0, 0, l1, l2, ⟨0, 0, 0, 0⟩⟩ := rv_rec_mk (zM := ⟨0, 0, 0, 0⟩)
        go_wp2_with fail
        refine (sRecText_c rv).mono ?_
        rintro e w16 ⟨rfl, h_w16⟩
        clear c_v_0_w15 f_v_0_w15 c_v_1_w15 f_v_1_w15 c_v_2_w15 f_v_2_w15 c_v_3_w15 f_v_3_w15 c_v_4_w15 f_v_4_w15 c_v_5_w15 f_v_5_w15 c_v_6_w15 f_v_6_w15 c_v_7_w15 f_v_7_w15 c_v_8_w15 f_v_8_w15 c_r_0_w15 f_r_0_w15 c_r_1_w15 f_r_1_w15 c_r_2_w15 f_r_2_w15 c_r_3_w15 f_r_3_w15 c_r_4_w15 f_r_4_w15 c_r_5_w15 f_r_5_w15 c_r_6_w15 f_r_6_w15 c_r_7_w15 f_r_7_w15 c_r_8_w15 f_r_8_w15
        replace x_r := x_r.from_ h_w16
        replace x_v := x_v.from_ h_w16
        replace o_W := o_W.below h_w16
        replace o_L := o_L.below h_w16
        have B_w16 := B_w15.trans (h_w16.mono B_w15.size)
        have s_w16 := h_w16.size
        rw [HT.out]
        clear rv
        have c_v_0_w16 := x_v.cell (i := 0) rfl
        have f_v_0_w16 := x_v.frozen 0
        have c_v_1_w16 := x_v.cell (i := 1) rfl
        have f_v_1_w16 := x_v.frozen 1
        have c_v_2_w16 := x_v.cell (i := 2) rfl
        have f_v_2_w16 := x_v.frozen 2
        have c_v_3_w16 := x_v.cell (i := 3) rfl
        have f_v_3_w16 := x_v.frozen 3
        have c_v_4_w16 := x_v.cell (i := 4) rfl
        have f_v_4_w16 := x_v.frozen 4
        have c_v_5_w16 := x_v.cell (i := 5) rfl
        have f_v_5_w16 := x_v.frozen 5
        have c_v_6_w16 := x_v.cell (i := 6) rfl
        have f_v_6_w16 := x_v.frozen 6
        have c_v_7_w16 := x_v.cell (i := 7) rfl
        have f_v_7_w16 := x_v.frozen 7
        have c_v_8_w16 := x_v.cell (i := 8) rfl
        have f_v_8_w16 := x_v.frozen 8
        have c_r_0_w16 := x_r.cell (i := 0) rfl
        have f_r_0_w16 := x_r.frozen 0
        have c_r_1_w16 := x_r.cell (i := 1) rfl
        have f_r_1_w16 := x_r.frozen 1
        have c_r_2_w16 := x_r.cell (i := 2) rfl
        have f_r_2_w16 := x_r.frozen 2
        have c_r_3_w16 := x_r.cell (i := 3) rfl
        have f_r_3_w16 := x_r.frozen 3
        have c_r_4_w16 := x_r.cell (i := 4) rfl
        have f_r_4_w16 := x_r.frozen 4
        have c_r_5_w16 := x_r.cell (i := 5) rfl
        have f_r_5_w16 := x_r.frozen 5
        have c_r_6_w16 := x_r.cell (i := 6) rfl
        have f_r_6_w16 := x_r.frozen 6
        have c_r_7_w16 := x_r.cell (i := 7) rfl
        have f_r_7_w16 := x_r.frozen 7
        have c_r_8_w16 := x_r.cell (i := 8) rfl
        have f_r_8_w16 := x_r.frozen 8
        by_cases hTs : T = s
        case neg =>
          have hE3 : (T.toList == s.toList) = false := by rw [beq_str]; exact decide_eq_false hTs
          have HF : Hid (textRecB s = false) := by show _ = _; unfold textRecB; rw [HR.out, HOK.out, HT.out]; simpa using hTs
          clear hTs
          have i_r_0 := x_r.same (i := 0) rfl
          have i_r_1 := x_r.same (i := 1) rfl
          have i_r_2 := x_r.same (i := 2) rfl
          have i_r_3 := x_r.same (i := 3) rfl
          have i_r_4 := x_r.same (i := 4) rfl
          have i_r_5 := x_r.same (i := 5) rfl
          have i_r_6 := x_r.same (i := 6) rfl
          have i_r_7 := x_r.same (i := 7) rfl
          have i_r_8 := x_r.same (i := 8) rfl
          have HF2 : Hid (textRec s = recZ) := by show _ = _; unfold textRec; rw [HF.out]; rfl
          go_wp2
          refine ret_cell_tmp (by rfl) (by rfl) x_r Tryd.underlying26 sz_rec (by rfl) ?_
          rw [HF.out, HF2.out]
          exact ⟨_, rfl, ov_rec (d := recZ) (Nat.le_refl _), B_w16⟩
        have hE3 : (T.toList == s.toList) = true := by rw [beq_str]; exact decide_eq_true hTs
        have HF : Hid (textRecB s = true) := by show _ = _; unfold textRecB; rw [HR.out, HOK.out, HT.out]; simpa using hTs
        clear hTs
        have HF2 : Hid (textRec s = ⟨8, l0, 0, l1, l2, ⟨0, 0, 0, 0⟩⟩) := by show _ = _; unfold textRec; rw [HF.out, HR.out]; rfl
        obtain ⟨w17, e_w17, s_w17, h_w17, y⟩ := store_step x_r [.int .i64 8, .int .i64 l0, .int .i64 0, .int .i64 l1, .int .i64 l2, .int .i64 0, .int .i64 0, .int .i64 0, .int .i64 0] rfl
        replace e_w17 : (((((((((w16.setCell ⟨w.heap.size, 0, none⟩ (.int .i64 8)).setCell ⟨w.heap.size, 1, none⟩ (.int .i64 l0)).setCell ⟨w.heap.size, 2, none⟩ (.int .i64 0)).setCell ⟨w.heap.size, 3, none⟩ (.int .i64 l1)).setCell ⟨w.heap.size, 4, none⟩ (.int .i64 l2)).setCell ⟨w.heap.size, 5, none⟩ (.int .i64 0)).setCell ⟨w.heap.size, 6, none⟩ (.int .i64 0)).setCell ⟨w.heap.size, 7, none⟩ (.int .i64 0)).setCell ⟨w.heap.size, 8, none⟩ (.int .i64 0)) = w17 := e_w17
        have s_w17_1 := Nat.le_of_eq s_w17
        have s_w17_2 := Nat.le_of_eq s_w17.symm
        clear s_w17
        replace x_v := x_v.chg h_w17 (by omega)
        replace o_W := o_W.chg h_w17 (by omega)
        replace o_L := o_L.chg h_w17 (by omega)
        have B_w17 := Below.chg_ B_w16 h_w17 (by omega) (by omega)
        replace x_r : Vr w17 (w.heap.size) 26 [.int .i64 8, .int .i64 l0, .int .i64 0, .int .i64 l1, .int .i64 l2, .int .i64 0, .int .i64 0, .int .i64 0, .int .i64 0] := y
        clear y
        have c_r_0_w17 := x_r.cell (i := 0) rfl
        have f_r_0_w17 := x_r.frozen 0
        have c_r_1_w17 := x_r.cell (i := 1) rfl
        have f_r_1_w17 := x_r.frozen 1
        have c_r_2_w17 := x_r.cell (i := 2) rfl
        have f_r_2_w17 := x_r.frozen 2
        have c_r_3_w17 := x_r.cell (i := 3) rfl
        have f_r_3_w17 := x_r.frozen 3
        have c_r_4_w17 := x_r.cell (i := 4) rfl
        have f_r_4_w17 := x_r.frozen 4
        have c_r_5_w17 := x_r.cell (i := 5) rfl
        have f_r_5_w17 := x_r.frozen 5
        have c_r_6_w17 := x_r.cell (i := 6) rfl
        have f_r_6_w17 := x_r.frozen 6
        have c_r_7_w17 := x_r.cell (i := 7) rfl
        have f_r_7_w17 := x_r.frozen 7
        have c_r_8_w17 := x_r.cell (i := 8) rfl
        have f_r_8_w17 := x_r.frozen 8
        go_wp2
        refine ret_cell_tmp (by rfl) (by rfl) x_r Tryd.underlying26 sz_rec (by rfl) ?_
        rw [HF.out, HF2.out]
        exact ⟨_, rfl, ov_rec (d := ⟨8, l0, 0, l1, l2, ⟨0, 0, 0, 0⟩⟩) (Nat.le_refl _), B_w17⟩
    · -- 9
      have c_v_0_wr := x_v.cell (i := 0) rfl
      have f_v_0_wr := x_v.frozen 0
      have c_v_1_wr := x_v.cell (i := 1) rfl
      have f_v_1_wr := x_v.frozen 1
      have c_v_2_wr := x_v.cell (i := 2) rfl
      have f_v_2_wr := x_v.frozen 2
      have c_v_3_wr := x_v.cell (i := 3) rfl
      have f_v_3_wr := x_v.frozen 3
      have c_v_4_wr := x_v.cell (i := 4) rfl
      have f_v_4_wr := x_v.frozen 4
      have c_v_5_wr := x_v.cell (i := 5) rfl
      have f_v_5_wr := x_v.frozen 5
      have c_v_6_wr := x_v.cell (i := 6) rfl
      have f_v_6_wr := x_v.frozen 6
      have c_v_7_wr := x_v.cell (i := 7) rfl
      have f_v_7_wr := x_v.frozen 7
      have c_v_8_wr := x_v.cell (i := 8) rfl
      have f_v_8_wr := x_v.frozen 8
      have c_r_0_wr := x_r.cell (i := 0) rfl
      have f_r_0_wr := x_r.frozen 0
      have c_r_1_wr := x_r.cell (i := 1) rfl
      have f_r_1_wr := x_r.frozen 1
      have c_r_2_wr := x_r.cell (i := 2) rfl
      have f_r_2_wr := x_r.frozen 2
      have c_r_3_wr := x_r.cell (i := 3) rfl
      have f_r_3_wr := x_r.frozen 3
      have c_r_4_wr := x_r.cell (i := 4) rfl
      have f_r_4_wr := x_r.frozen 4
      have c_r_5_wr := x_r.cell (i := 5) rfl
      have f_r_5_wr := x_r.frozen 5
      have c_r_6_wr := x_r.cell (i := 6) rfl
      have f_r_6_wr := x_r.frozen 6
      have c_r_7_wr := x_r.cell (i := 7) rfl
      have f_r_7_wr := x_r.frozen 7
      have c_r_8_wr := x_r.cell (i := 8) rfl
      have f_r_8_wr := x_r.frozen 8
      go_wp2_with fail
      refine (sHas_9 _).mono ?_
      rintro e w' ⟨rfl, rfl⟩
      go_wp2_with fail
      refine (sNums1_c (o_W.rd) hwz2 hwm).mono ?_
      rintro e w11 ⟨vL, rfl, o_L, h_w11⟩
      clear c_v_0_wr f_v_0_wr c_v_1_wr f_v_1_wr c_v_2_wr f_v_2_wr c_v_3_wr f_v_3_wr c_v_4_wr f_v_4_wr c_v_5_wr f_v_5_wr c_v_6_wr f_v_6_wr c_v_7_wr f_v_7_wr c_v_8_wr f_v_8_wr c_r_0_wr f_r_0_wr c_r_1_wr f_r_1_wr c_r_2_wr f_r_2_wr c_r_3_wr f_r_3_wr c_r_4_wr f_r_4_wr c_r_5_wr f_r_5_wr c_r_6_wr f_r_6_wr c_r_7_wr f_r_7_wr c_r_8_wr f_r_8_wr
      replace x_r := x_r.from_ h_w11
      replace x_v := x_v.from_ h_w11
      replace o_W := o_W.below h_w11
      have B_w11 := HB.trans (h_w11.mono HB.size)
      have s_w11 := h_w11.size
      rw [HL.out] at o_L
      obtain ⟨bL, cL, rfl⟩ := own_slice64 o_L (by omega)
      have j0 : (0 : Int) < (L.length : Int) := by omega
      have j1 : (1 : Int) < (L.length : Int) := by omega
      have j2 : (2 : Int) < (L.length : Int) := by omega
      have j3 : (3 : Int) < (L.length : Int) := by omega
      have d0 := o_L.1.cell_ (j := 0) (by omega)
      rw [HL0.out] at d0
      have c_v_0_w11 := x_v.cell (i := 0) rfl
      have f_v_0_w11 := x_v.frozen 0
      have c_v_1_w11 := x_v.cell (i := 1) rfl
      have f_v_1_w11 := x_v.frozen 1
      have c_v_2_w11 := x_v.cell (i := 2) rfl
      have f_v_2_w11 := x_v.frozen 2
      have c_v_3_w11 := x_v.cell (i := 3) rfl
      have f_v_3_w11 := x_v.frozen 3
      have c_v_4_w11 := x_v.cell (i := 4) rfl
      have f_v_4_w11 := x_v.frozen 4
      have c_v_5_w11 := x_v.cell (i := 5) rfl
      have f_v_5_w11 := x_v.frozen 5
      have c_v_6_w11 := x_v.cell (i := 6) rfl
      have f_v_6_w11 := x_v.frozen 6
      have c_v_7_w11 := x_v.cell (i := 7) rfl
      have f_v_7_w11 := x_v.frozen 7
      have c_v_8_w11 := x_v.cell (i := 8) rfl
      have f_v_8_w11 := x_v.frozen 8
      have c_r_0_w11 := x_r.cell (i := 0) rfl
      have f_r_0_w11 := x_r.frozen 0
      have c_r_1_w11 := x_r.cell (i := 1) rfl
      have f_r_1_w11 := x_r.frozen 1
      have c_r_2_w11 := x_r.cell (i := 2) rfl
      have f_r_2_w11 := x_r.frozen 2
      have c_r_3_w11 := x_r.cell (i := 3) rfl
      have f_r_3_w11 := x_r.frozen 3
      have c_r_4_w11 := x_r.cell (i := 4) rfl
      have f_r_4_w11 := x_r.frozen 4
      have c_r_5_w11 := x_r.cell (i := 5) rfl
      have f_r_5_w11 := x_r.frozen 5
      have c_r_6_w11 := x_r.cell (i := 6) rfl
      have f_r_6_w11 := x_r.frozen 6
      have c_r_7_w11 := x_r.cell (i := 7) rfl
      have f_r_7_w11 := x_r.frozen 7
      have c_r_8_w11 := x_r.cell (i := 8) rfl
      have f_r_8_w11 := x_r.frozen 8
      obtain ⟨w12, e_w12, s_w12, h_w12, y⟩ := set_step x_v 1 (.int .i64 l0)
      have s_w12_1 := Nat.le_of_eq s_w12
      have s_w12_2 := Nat.le_of_eq s_w12.symm
      clear s_w12
      replace x_r := x_r.chg h_w12 (by omega)
      replace o_W := o_W.chg h_w12 (by omega)
      replace o_L := o_L.chg h_w12 (by omega)
      have B_w12 := Below.chg_ B_w11 h_w12 (by omega) (by omega)
      replace x_v : Vr w12 (w1.heap.size) 26 [.int .i64 9, .int .i64 l0, .int .i64 0, .int .i64 0, .int .i64 0, .int .i64 0, .int .i64 0, .int .i64 0, .int .i64 0] := y
      clear y
      have d1 := o_L.1.cell_ (j := 1) (by omega)
      rw [HL1.out] at d1
      have c_v_0_w12 := x_v.cell (i := 0) rfl
      have f_v_0_w12 := x_v.frozen 0
      have c_v_1_w12 := x_v.cell (i := 1) rfl
      have f_v_1_w12 := x_v.frozen 1
      have c_v_2_w12 := x_v.cell (i := 2) rfl
      have f_v_2_w12 := x_v.frozen 2
      have c_v_3_w12 := x_v.cell (i := 3) rfl
      have f_v_3_w12 := x_v.frozen 3
      have c_v_4_w12 := x_v.cell (i := 4) rfl
      have f_v_4_w12 := x_v.frozen 4
      have c_v_5_w12 := x_v.cell (i := 5) rfl
      have f_v_5_w12 := x_v.frozen 5
      have c_v_6_w12 := x_v.cell (i := 6) rfl
      have f_v_6_w12 := x_v.frozen 6
      have c_v_7_w12 := x_v.cell (i := 7) rfl
      have f_v_7_w12 := x_v.frozen 7
      have c_v_8_w12 := x_v.cell (i := 8) rfl
      have f_v_8_w12 := x_v.frozen 8
      have c_r_0_w12 := x_r.cell (i := 0) rfl
      have f_r_0_w12 := x_r.frozen 0
      have c_r_1_w12 := x_r.cell (i := 1) rfl
      have f_r_1_w12 := x_r.frozen 1
      have c_r_2_w12 := x_r.cell (i := 2) rfl
      have f_r_2_w12 := x_r.frozen 2
      have c_r_3_w12 := x_r.cell (i := 3) rfl
      have f_r_3_w12 := x_r.frozen 3
      have c_r_4_w12 := x_r.cell (i := 4) rfl
      have f_r_4_w12 := x_r.frozen 4
      have c_r_5_w12 := x_r.cell (i := 5) rfl
      have f_r_5_w12 := x_r.frozen 5
      have c_r_6_w12 := x_r.cell (i := 6) rfl
      have f_r_6_w12 := x_r.frozen 6
      have c_r_7_w12 := x_r.cell (i := 7) rfl
      have f_r_7_w12 := x_r.frozen 7
      have c_r_8_w12 := x_r.cell (i := 8) rfl
      have f_r_8_w12 := x_r.frozen 8
      obtain ⟨w13, e_w13, s_w13, h_w13, y⟩ := set_step x_v 3 (.int .i64 l1)
      have s_w13_1 := Nat.le_of_eq s_w13
      have s_w13_2 := Nat.le_of_eq s_w13.symm
      clear s_w13
      replace x_r := x_r.chg h_w13 (by omega)
      replace o_W := o_W.chg h_w13 (by omega)
      replace o_L := o_L.chg h_w13 (by omega)
      have B_w13 := Below.chg_ B_w12 h_w13 (by omega) (by omega)
      replace x_v : Vr w13 (w1.heap.size) 26 [.int .i64 9, .int .i64 l0, .int .i64 0, .int .i64 l1, .int .i64 0, .int .i64 0, .int .i64 0, .int .i64 0, .int .i64 0] := y
      clear y
      have c_v_0_w13 := x_v.cell (i := 0) rfl
      have f_v_0_w13 := x_v.frozen 0
      have c_v_1_w13 := x_v.cell (i := 1) rfl
      have f_v_1_w13 := x_v.frozen 1
      have c_v_2_w13 := x_v.cell (i := 2) rfl
      have f_v_2_w13 := x_v.frozen 2
      have c_v_3_w13 := x_v.cell (i := 3) rfl
      have f_v_3_w13 := x_v.frozen 3
      have c_v_4_w13 := x_v.cell (i := 4) rfl
      have f_v_4_w13 := x_v.frozen 4
      have c_v_5_w13 := x_v.cell (i := 5) rfl
      have f_v_5_w13 := x_v.frozen 5
      have c_v_6_w13 := x_v.cell (i := 6) rfl
      have f_v_6_w13 := x_v.frozen 6
      have c_v_7_w13 := x_v.cell (i := 7) rfl
      have f_v_7_w13 := x_v.frozen 7
      have c_v_8_w13 := x_v.cell (i := 8) rfl
      have f_v_8_w13 := x_v.frozen 8
      have c_r_0_w13 := x_r.cell (i := 0) rfl
      have f_r_0_w13 := x_r.frozen 0
      have c_r_1_w13 := x_r.cell (i := 1) rfl
      have f_r_1_w13 := x_r.frozen 1
      have c_r_2_w13 := x_r.cell (i := 2) rfl
      have f_r_2_w13 := x_r.frozen 2
      have c_r_3_w13 := x_r.cell (i := 3) rfl
      have f_r_3_w13 := x_r.frozen 3
      have c_r_4_w13 := x_r.cell (i := 4) rfl
      have f_r_4_w13 := x_r.frozen 4
      have c_r_5_w13 := x_r.cell (i := 5) rfl
      have f_r_5_w13 := x_r.frozen 5
      have c_r_6_w13 := x_r.cell (i := 6) rfl
      have f_r_6_w13 := x_r.frozen 6
      have c_r_7_w13 := x_r.cell (i := 7) rfl
      have f_r_7_w13 := x_r.frozen 7
      have c_r_8_w13 := x_r.cell (i := 8) rfl
      have f_r_8_w13 := x_r.frozen 8
      have HR : Hid (recOf (splitL s 32) = ⟨9, l0, 0, l1, 0, ⟨0, 0, 0, 0⟩⟩) := by
        show _ = _
        unfold recOf
        rw [HWS.out, HX.out, HK.out, HL.out, ← HL0.out, ← HL1.out]
        rfl
      obtain ⟨T, hT⟩ : ∃ T, recText ⟨9, l0, 0, l1, 0, ⟨0, 0, 0, 0⟩⟩ = T := ⟨_, rfl⟩
      obtain ⟨ok, hok⟩ : ∃ b, recOkB ⟨9, l0, 0, l1, 0, ⟨0, 0, 0, 0⟩⟩ = b := ⟨_, rfl⟩
      have hE := str_empty T
      have hE1 := recText_empty ⟨9, l0, 0, l1, 0, ⟨0, 0, 0, 0⟩⟩
      rw [hT, hok] at hE1
      rw [hE1] at hE
      clear hE1
      have HT := Lib.hid hT
      have HOK := Lib.hid hok
      clear hT hok
      have rv : RV recL w13 (.agg #[.int .i64 9, .int .i64 l0, .int .i64 0, .int .i64 l1, .int .i64 0, .int .i64 0, .int .i64 0, .int .i64 0, .int .i64 0]) ⟨9, l0, 0, l1, 0, ⟨0, 0, 0, 0⟩⟩ := rv_rec_mk (zM := ⟨0, 0, 0, 0⟩)
      go_wp2_with fail
      refine (sRecText_c rv).mono ?_
      rintro e w14 ⟨rfl, h_w14⟩
      clear c_v_0_w11 f_v_0_w11 c_v_1_w11 f_v_1_w11 c_v_2_w11 f_v_2_w11 c_v_3_w11 f_v_3_w11 c_v_4_w11 f_v_4_w11 c_v_5_w11 f_v_5_w11 c_v_6_w11 f_v_6_w11 c_v_7_w11 f_v_7_w11 c_v_8_w11 f_v_8_w11 c_r_0_w11 f_r_0_w11 c_r_1_w11 f_r_1_w11 c_r_2_w11 f_r_2_w11 c_r_3_w11 f_r_3_w11 c_r_4_w11 f_r_4_w11 c_r_5_w11 f_r_5_w11 c_r_6_w11 f_r_6_w11 c_r_7_w11 f_r_7_w11 c_r_8_w11 f_r_8_w11 d0 c_v_0_w12 f_v_0_w12 c_v_1_w12 f_v_1_w12 c_v_2_w12 f_v_2_w12 c_v_3_w12 f_v_3_w12 c_v_4_w12 f_v_4_w12 c_v_5_w12 f_v_5_w12 c_v_6_w12 f_v_6_w12 c_v_7_w12 f_v_7_w12 c_v_8_w12 f_v_8_w12 c_r_0_w12 f_r_0_w12 c_r_1_w12 f_r_1_w12 c_r_2_w12 f_r_2_w12 c_r_3_w12 f_r_3_w12 c_r_4_w12 f_r_4_w12 c_r_5_w12 f_r_5_w12 c_r_6_w12 f_r_6_w12 c_r_7_w12 f_r_7_w12 c_r_8_w12 f_r_8_w12 d1 c_v_0_w13 f_v_0_w13 c_v_1_w13 f_v_1_w13 c_v_2_w13 f_v_2_w13 c_v_3_w13 f_v_3_w13 c_v_4_w13 f_v_4_w13 c_v_5_w13 f_v_5_w13 c_v_6_w13 f_v_6_w13 c_v_7_w13 f_v_7_w13 c_v_8_w13 f_v_8_w13 c_r_0_w13 f_r_0_w13 c_r_1_w13 f_r_1_w13 c_r_2_w13 f_r_2_w13 c_r_3_w13 f_r_3_w13 c_r_4_w13 f_r_4_w13 c_r_5_w13 f_r_5_w13 c_r_6_w13 f_r_6_w13 c_r_7_w13 f_r_7_w13 c_r_8_w13 f_r_8_w13
      replace x_r := x_r.from_ h_w14
      replace x_v := x_v.from_ h_w14
      replace o_W := o_W.below h_w14
      replace o_L := o_L.below h_w14
      have B_w14 := B_w13.trans (h_w14.mono B_w13.size)
      have s_w14 := h_w14.size
      rw [HT.out]
      clear rv
      have c_v_0_w14 := x_v.cell (i := 0) rfl
      have f_v_0_w14 := x_v.frozen 0
      have c_v_1_w14 := x_v.cell (i := 1) rfl
      have f_v_1_w14 := x_v.frozen 1
      have c_v_2_w14 := x_v.cell (i := 2) rfl
      have f_v_2_w14 := x_v.frozen 2
      have c_v_3_w14 := x_v.cell (i := 3) rfl
      have f_v_3_w14 := x_v.frozen 3
      have c_v_4_w14 := x_v.cell (i := 4) rfl
      have f_v_4_w14 := x_v.frozen 4
      have c_v_5_w14 := x_v.cell (i := 5) rfl
      have f_v_5_w14 := x_v.frozen 5
      have c_v_6_w14 := x_v.cell (i := 6) rfl
      have f_v_6_w14 := x_v.frozen 6
      have c_v_7_w14 := x_v.cell (i := 7) rfl
      have f_v_7_w14 := x_v.frozen 7
      have c_v_8_w14 := x_v.cell (i := 8) rfl
      have f_v_8_w14 := x_v.frozen 8
      have c_r_0_w14 := x_r.cell (i := 0) rfl
      have f_r_0_w14 := x_r.frozen 0
      have c_r_1_w14 := x_r.cell (i := 1) rfl
      have f_r_1_w14 := x_r.frozen 1
      have c_r_2_w14 := x_r.cell (i := 2) rfl
      have f_r_2_w14 := x_r.frozen 2
      have c_r_3_w14 := x_r.cell (i := 3) rfl
      have f_r_3_w14 := x_r.frozen 3
      have c_r_4_w14 := x_r.cell (i := 4) rfl
      have f_r_4_w14 := x_r.frozen 4
      have c_r_5_w14 := x_r.cell (i := 5) rfl
      have f_r_5_w14 := x_r.frozen 5
      have c_r_6_w14 := x_r.cell (i := 6) rfl
      have f_r_6_w14 := x_r.frozen 6
      have c_r_7_w14 := x_r.cell (i := 7) rfl
      have f_r_7_w14 := x_r.frozen 7
      have c_r_8_w14 := x_r.cell (i := 8) rfl
      have f_r_8_w14 := x_r.frozen 8
      cases ok
      case false =>
        have hE2 : (T.toList == []) = true := hE
        clear hE
        have HF : Hid (textRecB s = false) := by show _ = _; unfold textRecB; rw [HR.out, HOK.out]; rfl
        have i_r_0 := x_r.same (i := 0) rfl
        have i_r_1 := x_r.same (i := 1) rfl
        have i_r_2 := x_r.same (i := 2) rfl
        have i_r_3 := x_r.same (i := 3) rfl
        have i_r_4 := x_r.same (i := 4) rfl
        have i_r_5 := x_r.same (i := 5) rfl
        have i_r_6 := x_r.same (i := 6) rfl
        have i_r_7 := x_r.same (i := 7) rfl
        have i_r_8 := x_r.same (i := 8) rfl
        have HF2 : Hid (textRec s = recZ) := by show _ = _; unfold textRec; rw [HF.out]; rfl
        go_wp2
        refine ret_cell_tmp (by rfl) (by rfl) x_r Tryd.underlying26 sz_rec (by rfl) ?_
        rw [HF.out, HF2.out]
        exact ⟨_, rfl, ov_rec (d := recZ) (Nat.le_refl _), B_w14⟩
      case true =>
        have hE2 : (T.toList == []) = false := hE
        clear hE
        have rv : RV recL w14 (.agg #[.int .i64 9, .int .i64 l0, .int .i64 0, .int .i64 l1, .int .i64 0, .int .i64 0, .int .i64 0, .int .i64 0, .int .i64 0]) ⟨9, l0, 0, l1, 0, ⟨0, 0, 0, 0⟩⟩ := rv_rec_mk (zM := ⟨0, 0, 0, 0⟩)
        go_wp2_with fail
        refine (sRecText_c rv).mono ?_
        rintro e w15 ⟨rfl, h_w15⟩
        clear c_v_0_w14 f_v_0_w14 c_v_1_w14 f_v_1_w14 c_v_2_w14 f_v_2_w14 c_v_3_w14 f_v_3_w14 c_v_4_w14 f_v_4_w14 c_v_5_w14 f_v_5_w14 c_v_6_w14 f_v_6_w14 c_v_7_w14 f_v_7_w14 c_v_8_w14 f_v_8_w14 c_r_0_w14 f_r_0_w14 c_r_1_w14 f_r_1_w14 c_r_2_w14 f_r_2_w14 c_r_3_w14 f_r_3_w14 c_r_4_w14 f_r_4_w14 c_r_5_w14 f_r_5_w14 c_r_6_w14 f_r_6_w14 c_r_7_w14 f_r_7_w14 c_r_8_w14 f_r_8_w14
        replace x_r := x_r.from_ h_w15
        replace x_v := x_v.from_ h_w15
        replace o_W := o_W.below h_w15
        replace o_L := o_L.below h_w15
        have B_w15 := B_w14.trans (h_w15.mono B_w14.size)
        have s_w15 := h_w15.size
        rw [HT.out]
        clear rv
        have c_v_0_w15 := x_v.cell (i := 0) rfl
        have f_v_0_w15 := x_v.frozen 0
        have c_v_1_w15 := x_v.cell (i := 1) rfl
        have f_v_1_w15 := x_v.frozen 1
        have c_v_2_w15 := x_v.cell (i := 2) rfl
        have f_v_2_w15 := x_v.frozen 2
        have c_v_3_w15 := x_v.cell (i := 3) rfl
        have f_v_3_w15 := x_v.frozen 3
        have c_v_4_w15 := x_v.cell (i := 4) rfl
        have f_v_4_w15 := x_v.frozen 4
        have c_v_5_w15 := x_v.cell (i := 5) rfl
        have f_v_5_w15 := x_v.frozen 5
        have c_v_6_w15 := x_v.cell (i := 6) rfl
        have f_v_6_w15 := x_v.frozen 6
        have c_v_7_w15 := x_v.cell (i := 7) rfl
        have f_v_7_w15 := x_v.frozen 7
        have c_v_8_w15 := x_v.cell (i := 8) rfl
        have f_v_8_w15 := x_v.frozen 8
        have c_r_0_w15 := x_r.cell (i := 0) rfl
        have f_r_0_w15 := x_r.frozen 0
        have c_r_1_w15 := x_r.cell (i := 1) rfl
        have f_r_1_w15 := x_r.frozen 1
        have c_r_2_w15 := x_r.cell (i := 2) rfl
        have f_r_2_w15 := x_r.frozen 2
        have c_r_3_w15 := x_r.cell (i := 3) rfl
        have f_r_3_w15 := x_r.frozen 3
        have c_r_4_w15 := x_r.cell (i := 4) rfl
        have f_r_4_w15 := x_r.frozen 4
        have c_r_5_w15 := x_r.cell (i := 5) rfl
        have f_r_5_w15 := x_r.frozen 5
        have c_r_6_w15 := x_r.cell (i := 6) rfl
        have f_r_6_w15 := x_r.frozen 6
        have c_r_7_w15 := x_r.cell (i := 7) rfl
        have f_r_7_w15 := x_r.frozen 7
        have c_r_8_w15 := x_r.cell (i := 8) rfl
        have f_r_8_w15 := x_r.frozen 8
        by_cases hTs : T = s
        case neg =>
          have hE3 : (T.toList == s.toList) = false := by rw [beq_str]; exact decide_eq_false hTs
          have HF : Hid (textRecB s = false) := by show _ = _; unfold textRecB; rw [HR.out, HOK.out, HT.out]; simpa using hTs
          clear hTs
          have i_r_0 := x_r.same (i := 0) rfl
          have i_r_1 := x_r.same (i := 1) rfl
          have i_r_2 := x_r.same (i := 2) rfl
          have i_r_3 := x_r.same (i := 3) rfl
          have i_r_4 := x_r.same (i := 4) rfl
          have i_r_5 := x_r.same (i := 5) rfl
          have i_r_6 := x_r.same (i := 6) rfl
          have i_r_7 := x_r.same (i := 7) rfl
          have i_r_8 := x_r.same (i := 8) rfl
          have HF2 : Hid (textRec s = recZ) := by show _ = _; unfold textRec; rw [HF.out]; rfl
          go_wp2
          refine ret_cell_tmp (by rfl) (by rfl) x_r Tryd.underlying26 sz_rec (by rfl) ?_
          rw [HF.out, HF2.out]
          exact ⟨_, rfl, ov_rec (d := recZ) (Nat.le_refl _), B_w15⟩
        have hE3 : (T.toList == s.toList) = true := by rw [beq_str]; exact decide_eq_true hTs
        have HF : Hid (textRecB s = true) := by show _ = _; unfold textRecB; rw [HR.out, HOK.out, HT.out]; simpa using hTs
        clear hTs
        have HF2 : Hid (textRec s = ⟨9, l0, 0, l1, 0, ⟨0, 0, 0, 0⟩⟩) := by show _ = _; unfold textRec; rw [HF.out, HR.out]; rfl
        obtain ⟨w16, e_w16, s_w16, h_w16, y⟩ := store_step x_r [.int .i64 9, .int .i64 l0, .int .i64 0, .int .i64 l1, .int .i64 0, .int .i64 0, .int .i64 0, .int .i64 0, .int .i64 0] rfl
        replace e_w16 : (((((((((w15.setCell ⟨w.heap.size, 0, none⟩ (.int .i64 9)).setCell ⟨w.heap.size, 1, none⟩ (.int .i64 l0)).setCell ⟨w.heap.size, 2, none⟩ (.int .i64 0)).setCell ⟨w.heap.size, 3, none⟩ (.int .i64 l1)).setCell ⟨w.heap.size, 4, none⟩ (.int .i64 0)).setCell ⟨w.heap.size, 5, none⟩ (.int .i64 0)).setCell ⟨w.heap.size, 6, none⟩ (.int .i64 0)).setCell ⟨w.heap.size, 7, none⟩ (.int .i64 0)).setCell ⟨w.heap.size, 8, none⟩ (.int .i64 0)) = w16 := e_w16
        have s_w16_1 := Nat.le_of_eq s_w16
        have s_w16_2 := Nat.le_of_eq s_w16.symm
        clear s_w16
        replace x_v := x_v.chg h_w16 (by omega)
        replace o_W := o_W.chg h_w16 (by omega)
        replace o_L := o_L.chg h_w16 (by omega)
        have B_w16 := Below.chg_ B_w15 h_w16 (by omega) (by omega)
        replace x_r : Vr w16 (w.heap.size) 26 [.int .i64 9, .int .i64 l0, .int .i64 0, .int .i64 l1, .int .i64 0, .int .i64 0, .int .i64 0, .int .i64 0, .int .i64 0] := y
        clear y
        have c_r_0_w16 := x_r.cell (i := 0) rfl
        have f_r_0_w16 := x_r.frozen 0
        have c_r_1_w16 := x_r.cell (i := 1) rfl
        have f_r_1_w16 := x_r.frozen 1
        have c_r_2_w16 := x_r.cell (i := 2) rfl
        have f_r_2_w16 := x_r.frozen 2
        have c_r_3_w16 := x_r.cell (i := 3) rfl
        have f_r_3_w16 := x_r.frozen 3
        have c_r_4_w16 := x_r.cell (i := 4) rfl
        have f_r_4_w16 := x_r.frozen 4
        have c_r_5_w16 := x_r.cell (i := 5) rfl
        have f_r_5_w16 := x_r.frozen 5
        have c_r_6_w16 := x_r.cell (i := 6) rfl
        have f_r_6_w16 := x_r.frozen 6
        have c_r_7_w16 := x_r.cell (i := 7) rfl
        have f_r_7_w16 := x_r.frozen 7
        have c_r_8_w16 := x_r.cell (i := 8) rfl
        have f_r_8_w16 := x_r.frozen 8
        go_wp2
        refine ret_cell_tmp (by rfl) (by rfl) x_r Tryd.underlying26 sz_rec (by rfl) ?_
        rw [HF.out, HF2.out]
        exact ⟨_, rfl, ov_rec (d := ⟨9, l0, 0, l1, 0, ⟨0, 0, 0, 0⟩⟩) (Nat.le_refl _), B_w16⟩

end Go.Proofs.YtkbhbccpmmhelaaDoor
