/- Records: the contract of spec.BytesRec. Laid by a program of ours (src/rc4.py). -/
import Derived.Test.YtkbhbccpmmhelaaBunR
import Derived.Test.YtkbhbccpmmhelaaBunB
namespace Go.Proofs.Ytkbhbccpmmhelaa
open Go.RowKit
set_option linter.unusedVariables false

/-- a record read: the record, has reading failed -/
def recRd (zs : List Int) : MRec × Bool :=
  let a := rdNum zs 0 false
  let b := rdNum zs a.2.1 a.2.2
  let c := rdNum zs b.2.1 b.2.2
  let d := rdNum zs c.2.1 c.2.2
  let e := rdNum zs d.2.1 d.2.2
  if a.1 = 5 then (⟨a.1, b.1, c.1, d.1, e.1, (rdMsg zs e.2.1 e.2.2).1⟩, (rdMsg zs e.2.1 e.2.2).2.2) else (⟨a.1, b.1, c.1, d.1, e.1, ⟨0, 0, 0, 0⟩⟩, e.2.2)
/-- what BytesRec answers -/
def bytesRecB (zs : List Int) : Bool := !(recRd zs).2 && (recOkB (recRd zs).1 && decide (recBytes (recRd zs).1 = zs))
def bytesRec (zs : List Int) : MRec := if bytesRecB zs = true then (recRd zs).1 else recZ

theorem bytes_of_all {zs : List Int} (h : ∀ x ∈ zs, 0 ≤ x ∧ x ≤ 255) : Bytes zs := by
  intro j
  by_cases hj : j < zs.length
  · rw [show zs.getD j 0 = zs[j] by simp [hj]]
    exact h _ (List.getElem_mem hj)
  · rw [show zs.getD j 0 = 0 by simp; rw [List.getElem?_eq_none (by omega)]; rfl]
    omega
theorem encs_all (ns : List Int) : ∀ x ∈ encs ns, 0 ≤ x ∧ x ≤ 255 := by
  intro x hx
  unfold encs at hx
  rw [List.mem_flatten] at hx
  obtain ⟨l, hl, hx⟩ := hx
  rw [List.mem_map] at hl
  obtain ⟨n, -, rfl⟩ := hl
  exact enc_bytes _ _ hx
theorem recBytes_bytes (r : MRec) : Bytes (recBytes r) := by
  apply bytes_of_all
  intro x hx
  unfold recBytes at hx
  split at hx
  · split at hx
    · rcases List.mem_append.1 hx with h | h
      · exact encs_all _ _ h
      · exact encs_all _ _ h
    · exact encs_all _ _ hx
  · cases hx

set_option maxRecDepth 100000 in
set_option maxHeartbeats 8000000 in
theorem sBytesRec_c {w : World} {v : Value} {zs : List Int} (h : RS .u8 w v zs) (hb : Bytes zs) (hm : zs.length ≤ 16777216) :
    Calls Try.prog 15 #[v] w (NewVB recL w (bytesRec zs) (bytesRecB zs)) := by
  have h0 := h
  obtain ⟨A, c, rfl, p1, p2, hr⟩ := h0
  clear p1 p2
  have hz0 : (-9223372036854775808 : Int) ≤ 0 ∧ (0 : Int) ≤ 9223372036854775807 := by omega
  have g1 := rdNum_range zs (0 : Int) false (by omega) hz0
  obtain ⟨n1, hn1⟩ : ∃ n, (rdNum zs (0 : Int) false).1 = n := ⟨_, rfl⟩
  obtain ⟨p1, hp1⟩ : ∃ q, (rdNum zs (0 : Int) false).2.1 = q := ⟨_, rfl⟩
  obtain ⟨b1, hb1⟩ : ∃ q, (rdNum zs (0 : Int) false).2.2 = q := ⟨_, rfl⟩
  rw [hn1, hp1] at g1
  have g2 := rdNum_range zs p1 b1 (by omega) g1.2
  obtain ⟨n2, hn2⟩ : ∃ n, (rdNum zs p1 b1).1 = n := ⟨_, rfl⟩
  obtain ⟨p2, hp2⟩ : ∃ q, (rdNum zs p1 b1).2.1 = q := ⟨_, rfl⟩
  obtain ⟨b2, hb2⟩ : ∃ q, (rdNum zs p1 b1).2.2 = q := ⟨_, rfl⟩
  rw [hn2, hp2] at g2
  have g3 := rdNum_range zs p2 b2 (by omega) g2.2
  obtain ⟨n3, hn3⟩ : ∃ n, (rdNum zs p2 b2).1 = n := ⟨_, rfl⟩
  obtain ⟨p3, hp3⟩ : ∃ q, (rdNum zs p2 b2).2.1 = q := ⟨_, rfl⟩
  obtain ⟨b3, hb3⟩ : ∃ q, (rdNum zs p2 b2).2.2 = q := ⟨_, rfl⟩
  rw [hn3, hp3] at g3
  have g4 := rdNum_range zs p3 b3 (by omega) g3.2
  obtain ⟨n4, hn4⟩ : ∃ n, (rdNum zs p3 b3).1 = n := ⟨_, rfl⟩
  obtain ⟨p4, hp4⟩ : ∃ q, (rdNum zs p3 b3).2.1 = q := ⟨_, rfl⟩
  obtain ⟨b4, hb4⟩ : ∃ q, (rdNum zs p3 b3).2.2 = q := ⟨_, rfl⟩
  rw [hn4, hp4] at g4
  have g5 := rdNum_range zs p4 b4 (by omega) g4.2
  obtain ⟨n5, hn5⟩ : ∃ n, (rdNum zs p4 b4).1 = n := ⟨_, rfl⟩
  obtain ⟨p5, hp5⟩ : ∃ q, (rdNum zs p4 b4).2.1 = q := ⟨_, rfl⟩
  obtain ⟨b5, hb5⟩ : ∃ q, (rdNum zs p4 b4).2.2 = q := ⟨_, rfl⟩
  rw [hn5, hp5] at g5
  obtain ⟨m, hmm⟩ : ∃ m, (rdMsg zs p5 b5).1 = m := ⟨_, rfl⟩
  obtain ⟨q, hq⟩ : ∃ q, (rdMsg zs p5 b5).2.1 = q := ⟨_, rfl⟩
  obtain ⟨bm, hbm⟩ : ∃ q, (rdMsg zs p5 b5).2.2 = q := ⟨_, rfl⟩
  have HR : Hid (recRd zs = if n1 = 5 then (⟨n1, n2, n3, n4, n5, m⟩, bm) else (⟨n1, n2, n3, n4, n5, ⟨0, 0, 0, 0⟩⟩, b5)) := by show _ = _; unfold recRd; simp only [hn1, hn2, hn3, hn4, hn5, hp1, hp2, hp3, hp4, hp5, hb1, hb2, hb3, hb4, hb5, hmm, hbm]
  have HN1 := Lib.hid hn1
  have HP1 := Lib.hid hp1
  have HB1 := Lib.hid hb1
  clear hn1 hp1 hb1
  have HN2 := Lib.hid hn2
  have HP2 := Lib.hid hp2
  have HB2 := Lib.hid hb2
  clear hn2 hp2 hb2
  have HN3 := Lib.hid hn3
  have HP3 := Lib.hid hp3
  have HB3 := Lib.hid hb3
  clear hn3 hp3 hb3
  have HN4 := Lib.hid hn4
  have HP4 := Lib.hid hp4
  have HB4 := Lib.hid hb4
  clear hn4 hp4 hb4
  have HN5 := Lib.hid hn5
  have HP5 := Lib.hid hp5
  have HB5 := Lib.hid hb5
  clear hn5 hp5 hb5
  have H1 := Lib.hid hmm
  have H2 := Lib.hid hq
  have H3 := Lib.hid hbm
  clear hmm hq hbm
  obtain ⟨wa, hwa, B0, sa, x_r⟩ := frame1 w 29 [.int .i64 0, .int .i64 0, .int .i64 0, .int .i64 0, .int .i64 0, .int .i64 0, .int .i64 0, .int .i64 0, .int .i64 0]
  have sa_1 := Nat.le_of_eq sa
  have sa_2 := Nat.le_of_eq sa.symm
  clear sa
  have c_r_0_wa := x_r.cell (i := 0) rfl
  have f_r_0_wa := x_r.frozen 0
  have c_r_1_wa := x_r.cell (i := 1) rfl
  have f_r_1_wa := x_r.frozen 1
  have c_r_2_wa := x_r.cell (i := 2) rfl
  have f_r_2_wa := x_r.frozen 2
  have c_r_3_wa := x_r.cell (i := 3) rfl
  have f_r_3_wa := x_r.frozen 3
  have c_r_4_wa := x_r.cell (i := 4) rfl
  have f_r_4_wa := x_r.frozen 4
  have c_r_5_wa := x_r.cell (i := 5) rfl
  have f_r_5_wa := x_r.frozen 5
  have c_r_6_wa := x_r.cell (i := 6) rfl
  have f_r_6_wa := x_r.frozen 6
  have c_r_7_wa := x_r.cell (i := 7) rfl
  have f_r_7_wa := x_r.frozen 7
  have c_r_8_wa := x_r.cell (i := 8) rfl
  have f_r_8_wa := x_r.frozen 8
  have hle : w.heap.size ≤ wa.heap.size := B0.size
  obtain ⟨w1, e_w1, s_w1, h_w1, x_R⟩ := alloc_step wa 55 [.slice A zs.length c, .int .i64 0, .bool false]
  have s_w1_1 := Nat.le_of_eq s_w1
  have s_w1_2 := Nat.le_of_eq s_w1.symm
  clear s_w1
  replace x_r := x_r.from_ h_w1
  have B_w1 := B0.trans (h_w1.mono B0.size)
  have i_w1_2 := x_R.same (i := 2) rfl
  have i_w1_1 := x_R.same (i := 1) rfl
  have c_r_0_w1 := x_r.cell (i := 0) rfl
  have f_r_0_w1 := x_r.frozen 0
  have c_r_1_w1 := x_r.cell (i := 1) rfl
  have f_r_1_w1 := x_r.frozen 1
  have c_r_2_w1 := x_r.cell (i := 2) rfl
  have f_r_2_w1 := x_r.frozen 2
  have c_r_3_w1 := x_r.cell (i := 3) rfl
  have f_r_3_w1 := x_r.frozen 3
  have c_r_4_w1 := x_r.cell (i := 4) rfl
  have f_r_4_w1 := x_r.frozen 4
  have c_r_5_w1 := x_r.cell (i := 5) rfl
  have f_r_5_w1 := x_r.frozen 5
  have c_r_6_w1 := x_r.cell (i := 6) rfl
  have f_r_6_w1 := x_r.frozen 6
  have c_r_7_w1 := x_r.cell (i := 7) rfl
  have f_r_7_w1 := x_r.frozen 7
  have c_r_8_w1 := x_r.cell (i := 8) rfl
  have f_r_8_w1 := x_r.frozen 8
  have c_R_0_w1 := x_R.cell (i := 0) rfl
  have f_R_0_w1 := x_R.frozen 0
  have c_R_1_w1 := x_R.cell (i := 1) rfl
  have f_R_1_w1 := x_R.frozen 1
  have c_R_2_w1 := x_R.cell (i := 2) rfl
  have f_R_2_w1 := x_R.frozen 2
  by_cases e5 : n1 = 5
  case pos =>
    have t5 : (n1 == 5) = true := by simpa using e5
    have HR2 : Hid (recRd zs = (⟨n1, n2, n3, n4, n5, m⟩, bm)) := by show _ = _; rw [HR.out, if_pos e5]
    clear e5 HR
    go_enter Try.func15, Try.ntmps15
    go_wp2_with fail
    refine (sGet_c x_R ((hr.below B_w1).more hle) hb hm hz0).mono ?_
    rintro e w2 ⟨rfl, y, h_w2⟩
    clear c_r_0_wa f_r_0_wa c_r_1_wa f_r_1_wa c_r_2_wa f_r_2_wa c_r_3_wa f_r_3_wa c_r_4_wa f_r_4_wa c_r_5_wa f_r_5_wa c_r_6_wa f_r_6_wa c_r_7_wa f_r_7_wa c_r_8_wa f_r_8_wa i_w1_2 i_w1_1 c_r_0_w1 f_r_0_w1 c_r_1_w1 f_r_1_w1 c_r_2_w1 f_r_2_w1 c_r_3_w1 f_r_3_w1 c_r_4_w1 f_r_4_w1 c_r_5_w1 f_r_5_w1 c_r_6_w1 f_r_6_w1 c_r_7_w1 f_r_7_w1 c_r_8_w1 f_r_8_w1 c_R_0_w1 f_R_0_w1 c_R_1_w1 f_R_1_w1 c_R_2_w1 f_R_2_w1
    replace x_r := x_r.chg h_w2 (by omega)
    have B_w2 := Below.chg_ B_w1 h_w2 (by omega) (by omega)
    have s_w2 := h_w2.size
    rw [HP1.out, HB1.out] at y
    rw [HN1.out]
    replace x_R := y
    clear y
    have c_r_0_w2 := x_r.cell (i := 0) rfl
    have f_r_0_w2 := x_r.frozen 0
    have c_r_1_w2 := x_r.cell (i := 1) rfl
    have f_r_1_w2 := x_r.frozen 1
    have c_r_2_w2 := x_r.cell (i := 2) rfl
    have f_r_2_w2 := x_r.frozen 2
    have c_r_3_w2 := x_r.cell (i := 3) rfl
    have f_r_3_w2 := x_r.frozen 3
    have c_r_4_w2 := x_r.cell (i := 4) rfl
    have f_r_4_w2 := x_r.frozen 4
    have c_r_5_w2 := x_r.cell (i := 5) rfl
    have f_r_5_w2 := x_r.frozen 5
    have c_r_6_w2 := x_r.cell (i := 6) rfl
    have f_r_6_w2 := x_r.frozen 6
    have c_r_7_w2 := x_r.cell (i := 7) rfl
    have f_r_7_w2 := x_r.frozen 7
    have c_r_8_w2 := x_r.cell (i := 8) rfl
    have f_r_8_w2 := x_r.frozen 8
    have c_R_0_w2 := x_R.cell (i := 0) rfl
    have f_R_0_w2 := x_R.frozen 0
    have c_R_1_w2 := x_R.cell (i := 1) rfl
    have f_R_1_w2 := x_R.frozen 1
    have c_R_2_w2 := x_R.cell (i := 2) rfl
    have f_R_2_w2 := x_R.frozen 2
    obtain ⟨w3, e_w3, s_w3, h_w3, x_v⟩ := alloc_step w2 29 [.int .i64 n1, .int .i64 0, .int .i64 0, .int .i64 0, .int .i64 0, .int .i64 0, .int .i64 0, .int .i64 0, .int .i64 0]
    have s_w3_1 := Nat.le_of_eq s_w3
    have s_w3_2 := Nat.le_of_eq s_w3.symm
    clear s_w3
    replace x_r := x_r.from_ h_w3
    replace x_R := x_R.from_ h_w3
    have B_w3 := B_w2.trans (h_w3.mono B_w2.size)
    have i_w3_8 := x_v.same (i := 8) rfl
    have i_w3_7 := x_v.same (i := 7) rfl
    have i_w3_6 := x_v.same (i := 6) rfl
    have i_w3_5 := x_v.same (i := 5) rfl
    have i_w3_4 := x_v.same (i := 4) rfl
    have i_w3_3 := x_v.same (i := 3) rfl
    have i_w3_2 := x_v.same (i := 2) rfl
    have i_w3_1 := x_v.same (i := 1) rfl
    have c_r_0_w3 := x_r.cell (i := 0) rfl
    have f_r_0_w3 := x_r.frozen 0
    have c_r_1_w3 := x_r.cell (i := 1) rfl
    have f_r_1_w3 := x_r.frozen 1
    have c_r_2_w3 := x_r.cell (i := 2) rfl
    have f_r_2_w3 := x_r.frozen 2
    have c_r_3_w3 := x_r.cell (i := 3) rfl
    have f_r_3_w3 := x_r.frozen 3
    have c_r_4_w3 := x_r.cell (i := 4) rfl
    have f_r_4_w3 := x_r.frozen 4
    have c_r_5_w3 := x_r.cell (i := 5) rfl
    have f_r_5_w3 := x_r.frozen 5
    have c_r_6_w3 := x_r.cell (i := 6) rfl
    have f_r_6_w3 := x_r.frozen 6
    have c_r_7_w3 := x_r.cell (i := 7) rfl
    have f_r_7_w3 := x_r.frozen 7
    have c_r_8_w3 := x_r.cell (i := 8) rfl
    have f_r_8_w3 := x_r.frozen 8
    have c_R_0_w3 := x_R.cell (i := 0) rfl
    have f_R_0_w3 := x_R.frozen 0
    have c_R_1_w3 := x_R.cell (i := 1) rfl
    have f_R_1_w3 := x_R.frozen 1
    have c_R_2_w3 := x_R.cell (i := 2) rfl
    have f_R_2_w3 := x_R.frozen 2
    have c_v_0_w3 := x_v.cell (i := 0) rfl
    have f_v_0_w3 := x_v.frozen 0
    have c_v_1_w3 := x_v.cell (i := 1) rfl
    have f_v_1_w3 := x_v.frozen 1
    have c_v_2_w3 := x_v.cell (i := 2) rfl
    have f_v_2_w3 := x_v.frozen 2
    have c_v_3_w3 := x_v.cell (i := 3) rfl
    have f_v_3_w3 := x_v.frozen 3
    have c_v_4_w3 := x_v.cell (i := 4) rfl
    have f_v_4_w3 := x_v.frozen 4
    have c_v_5_w3 := x_v.cell (i := 5) rfl
    have f_v_5_w3 := x_v.frozen 5
    have c_v_6_w3 := x_v.cell (i := 6) rfl
    have f_v_6_w3 := x_v.frozen 6
    have c_v_7_w3 := x_v.cell (i := 7) rfl
    have f_v_7_w3 := x_v.frozen 7
    have c_v_8_w3 := x_v.cell (i := 8) rfl
    have f_v_8_w3 := x_v.frozen 8
    go_wp2_with fail
    refine (sGet_c x_R ((hr.below B_w3).more hle) hb hm g1.2).mono ?_
    rintro e w4 ⟨rfl, y, h_w4⟩
    clear c_r_0_w2 f_r_0_w2 c_r_1_w2 f_r_1_w2 c_r_2_w2 f_r_2_w2 c_r_3_w2 f_r_3_w2 c_r_4_w2 f_r_4_w2 c_r_5_w2 f_r_5_w2 c_r_6_w2 f_r_6_w2 c_r_7_w2 f_r_7_w2 c_r_8_w2 f_r_8_w2 c_R_0_w2 f_R_0_w2 c_R_1_w2 f_R_1_w2 c_R_2_w2 f_R_2_w2 i_w3_8 i_w3_7 i_w3_6 i_w3_5 i_w3_4 i_w3_3 i_w3_2 i_w3_1 c_r_0_w3 f_r_0_w3 c_r_1_w3 f_r_1_w3 c_r_2_w3 f_r_2_w3 c_r_3_w3 f_r_3_w3 c_r_4_w3 f_r_4_w3 c_r_5_w3 f_r_5_w3 c_r_6_w3 f_r_6_w3 c_r_7_w3 f_r_7_w3 c_r_8_w3 f_r_8_w3 c_R_0_w3 f_R_0_w3 c_R_1_w3 f_R_1_w3 c_R_2_w3 f_R_2_w3 c_v_0_w3 f_v_0_w3 c_v_1_w3 f_v_1_w3 c_v_2_w3 f_v_2_w3 c_v_3_w3 f_v_3_w3 c_v_4_w3 f_v_4_w3 c_v_5_w3 f_v_5_w3 c_v_6_w3 f_v_6_w3 c_v_7_w3 f_v_7_w3 c_v_8_w3 f_v_8_w3
    replace x_r := x_r.chg h_w4 (by omega)
    replace x_v := x_v.chg h_w4 (by omega)
    have B_w4 := Below.chg_ B_w3 h_w4 (by omega) (by omega)
    have s_w4 := h_w4.size
    rw [HP2.out, HB2.out] at y
    rw [HN2.out]
    replace x_R := y
    clear y
    have c_r_0_w4 := x_r.cell (i := 0) rfl
    have f_r_0_w4 := x_r.frozen 0
    have c_r_1_w4 := x_r.cell (i := 1) rfl
    have f_r_1_w4 := x_r.frozen 1
    have c_r_2_w4 := x_r.cell (i := 2) rfl
    have f_r_2_w4 := x_r.frozen 2
    have c_r_3_w4 := x_r.cell (i := 3) rfl
    have f_r_3_w4 := x_r.frozen 3
    have c_r_4_w4 := x_r.cell (i := 4) rfl
    have f_r_4_w4 := x_r.frozen 4
    have c_r_5_w4 := x_r.cell (i := 5) rfl
    have f_r_5_w4 := x_r.frozen 5
    have c_r_6_w4 := x_r.cell (i := 6) rfl
    have f_r_6_w4 := x_r.frozen 6
    have c_r_7_w4 := x_r.cell (i := 7) rfl
    have f_r_7_w4 := x_r.frozen 7
    have c_r_8_w4 := x_r.cell (i := 8) rfl
    have f_r_8_w4 := x_r.frozen 8
    have c_R_0_w4 := x_R.cell (i := 0) rfl
    have f_R_0_w4 := x_R.frozen 0
    have c_R_1_w4 := x_R.cell (i := 1) rfl
    have f_R_1_w4 := x_R.frozen 1
    have c_R_2_w4 := x_R.cell (i := 2) rfl
    have f_R_2_w4 := x_R.frozen 2
    have c_v_0_w4 := x_v.cell (i := 0) rfl
    have f_v_0_w4 := x_v.frozen 0
    have c_v_1_w4 := x_v.cell (i := 1) rfl
    have f_v_1_w4 := x_v.frozen 1
    have c_v_2_w4 := x_v.cell (i := 2) rfl
    have f_v_2_w4 := x_v.frozen 2
    have c_v_3_w4 := x_v.cell (i := 3) rfl
    have f_v_3_w4 := x_v.frozen 3
    have c_v_4_w4 := x_v.cell (i := 4) rfl
    have f_v_4_w4 := x_v.frozen 4
    have c_v_5_w4 := x_v.cell (i := 5) rfl
    have f_v_5_w4 := x_v.frozen 5
    have c_v_6_w4 := x_v.cell (i := 6) rfl
    have f_v_6_w4 := x_v.frozen 6
    have c_v_7_w4 := x_v.cell (i := 7) rfl
    have f_v_7_w4 := x_v.frozen 7
    have c_v_8_w4 := x_v.cell (i := 8) rfl
    have f_v_8_w4 := x_v.frozen 8
    obtain ⟨w5, e_w5, s_w5, h_w5, y⟩ := set_step x_v 1 (.int .i64 n2)
    have s_w5_1 := Nat.le_of_eq s_w5
    have s_w5_2 := Nat.le_of_eq s_w5.symm
    clear s_w5
    replace x_r := x_r.chg h_w5 (by omega)
    replace x_R := x_R.chg h_w5 (by omega)
    have B_w5 := Below.chg_ B_w4 h_w5 (by omega) (by omega)
    replace x_v : Vr w5 (w2.heap.size) 29 [.int .i64 n1, .int .i64 n2, .int .i64 0, .int .i64 0, .int .i64 0, .int .i64 0, .int .i64 0, .int .i64 0, .int .i64 0] := y
    clear y
    have c_r_0_w5 := x_r.cell (i := 0) rfl
    have f_r_0_w5 := x_r.frozen 0
    have c_r_1_w5 := x_r.cell (i := 1) rfl
    have f_r_1_w5 := x_r.frozen 1
    have c_r_2_w5 := x_r.cell (i := 2) rfl
    have f_r_2_w5 := x_r.frozen 2
    have c_r_3_w5 := x_r.cell (i := 3) rfl
    have f_r_3_w5 := x_r.frozen 3
    have c_r_4_w5 := x_r.cell (i := 4) rfl
    have f_r_4_w5 := x_r.frozen 4
    have c_r_5_w5 := x_r.cell (i := 5) rfl
    have f_r_5_w5 := x_r.frozen 5
    have c_r_6_w5 := x_r.cell (i := 6) rfl
    have f_r_6_w5 := x_r.frozen 6
    have c_r_7_w5 := x_r.cell (i := 7) rfl
    have f_r_7_w5 := x_r.frozen 7
    have c_r_8_w5 := x_r.cell (i := 8) rfl
    have f_r_8_w5 := x_r.frozen 8
    have c_R_0_w5 := x_R.cell (i := 0) rfl
    have f_R_0_w5 := x_R.frozen 0
    have c_R_1_w5 := x_R.cell (i := 1) rfl
    have f_R_1_w5 := x_R.frozen 1
    have c_R_2_w5 := x_R.cell (i := 2) rfl
    have f_R_2_w5 := x_R.frozen 2
    have c_v_0_w5 := x_v.cell (i := 0) rfl
    have f_v_0_w5 := x_v.frozen 0
    have c_v_1_w5 := x_v.cell (i := 1) rfl
    have f_v_1_w5 := x_v.frozen 1
    have c_v_2_w5 := x_v.cell (i := 2) rfl
    have f_v_2_w5 := x_v.frozen 2
    have c_v_3_w5 := x_v.cell (i := 3) rfl
    have f_v_3_w5 := x_v.frozen 3
    have c_v_4_w5 := x_v.cell (i := 4) rfl
    have f_v_4_w5 := x_v.frozen 4
    have c_v_5_w5 := x_v.cell (i := 5) rfl
    have f_v_5_w5 := x_v.frozen 5
    have c_v_6_w5 := x_v.cell (i := 6) rfl
    have f_v_6_w5 := x_v.frozen 6
    have c_v_7_w5 := x_v.cell (i := 7) rfl
    have f_v_7_w5 := x_v.frozen 7
    have c_v_8_w5 := x_v.cell (i := 8) rfl
    have f_v_8_w5 := x_v.frozen 8
    go_wp2_with fail
    refine (sGet_c x_R ((hr.below B_w5).more hle) hb hm g2.2).mono ?_
    rintro e w6 ⟨rfl, y, h_w6⟩
    clear c_r_0_w4 f_r_0_w4 c_r_1_w4 f_r_1_w4 c_r_2_w4 f_r_2_w4 c_r_3_w4 f_r_3_w4 c_r_4_w4 f_r_4_w4 c_r_5_w4 f_r_5_w4 c_r_6_w4 f_r_6_w4 c_r_7_w4 f_r_7_w4 c_r_8_w4 f_r_8_w4 c_R_0_w4 f_R_0_w4 c_R_1_w4 f_R_1_w4 c_R_2_w4 f_R_2_w4 c_v_0_w4 f_v_0_w4 c_v_1_w4 f_v_1_w4 c_v_2_w4 f_v_2_w4 c_v_3_w4 f_v_3_w4 c_v_4_w4 f_v_4_w4 c_v_5_w4 f_v_5_w4 c_v_6_w4 f_v_6_w4 c_v_7_w4 f_v_7_w4 c_v_8_w4 f_v_8_w4 c_r_0_w5 f_r_0_w5 c_r_1_w5 f_r_1_w5 c_r_2_w5 f_r_2_w5 c_r_3_w5 f_r_3_w5 c_r_4_w5 f_r_4_w5 c_r_5_w5 f_r_5_w5 c_r_6_w5 f_r_6_w5 c_r_7_w5 f_r_7_w5 c_r_8_w5 f_r_8_w5 c_R_0_w5 f_R_0_w5 c_R_1_w5 f_R_1_w5 c_R_2_w5 f_R_2_w5 c_v_0_w5 f_v_0_w5 c_v_1_w5 f_v_1_w5 c_v_2_w5 f_v_2_w5 c_v_3_w5 f_v_3_w5 c_v_4_w5 f_v_4_w5 c_v_5_w5 f_v_5_w5 c_v_6_w5 f_v_6_w5 c_v_7_w5 f_v_7_w5 c_v_8_w5 f_v_8_w5
    replace x_r := x_r.chg h_w6 (by omega)
    replace x_v := x_v.chg h_w6 (by omega)
    have B_w6 := Below.chg_ B_w5 h_w6 (by omega) (by omega)
    have s_w6 := h_w6.size
    rw [HP3.out, HB3.out] at y
    rw [HN3.out]
    replace x_R := y
    clear y
    have c_r_0_w6 := x_r.cell (i := 0) rfl
    have f_r_0_w6 := x_r.frozen 0
    have c_r_1_w6 := x_r.cell (i := 1) rfl
    have f_r_1_w6 := x_r.frozen 1
    have c_r_2_w6 := x_r.cell (i := 2) rfl
    have f_r_2_w6 := x_r.frozen 2
    have c_r_3_w6 := x_r.cell (i := 3) rfl
    have f_r_3_w6 := x_r.frozen 3
    have c_r_4_w6 := x_r.cell (i := 4) rfl
    have f_r_4_w6 := x_r.frozen 4
    have c_r_5_w6 := x_r.cell (i := 5) rfl
    have f_r_5_w6 := x_r.frozen 5
    have c_r_6_w6 := x_r.cell (i := 6) rfl
    have f_r_6_w6 := x_r.frozen 6
    have c_r_7_w6 := x_r.cell (i := 7) rfl
    have f_r_7_w6 := x_r.frozen 7
    have c_r_8_w6 := x_r.cell (i := 8) rfl
    have f_r_8_w6 := x_r.frozen 8
    have c_R_0_w6 := x_R.cell (i := 0) rfl
    have f_R_0_w6 := x_R.frozen 0
    have c_R_1_w6 := x_R.cell (i := 1) rfl
    have f_R_1_w6 := x_R.frozen 1
    have c_R_2_w6 := x_R.cell (i := 2) rfl
    have f_R_2_w6 := x_R.frozen 2
    have c_v_0_w6 := x_v.cell (i := 0) rfl
    have f_v_0_w6 := x_v.frozen 0
    have c_v_1_w6 := x_v.cell (i := 1) rfl
    have f_v_1_w6 := x_v.frozen 1
    have c_v_2_w6 := x_v.cell (i := 2) rfl
    have f_v_2_w6 := x_v.frozen 2
    have c_v_3_w6 := x_v.cell (i := 3) rfl
    have f_v_3_w6 := x_v.frozen 3
    have c_v_4_w6 := x_v.cell (i := 4) rfl
    have f_v_4_w6 := x_v.frozen 4
    have c_v_5_w6 := x_v.cell (i := 5) rfl
    have f_v_5_w6 := x_v.frozen 5
    have c_v_6_w6 := x_v.cell (i := 6) rfl
    have f_v_6_w6 := x_v.frozen 6
    have c_v_7_w6 := x_v.cell (i := 7) rfl
    have f_v_7_w6 := x_v.frozen 7
    have c_v_8_w6 := x_v.cell (i := 8) rfl
    have f_v_8_w6 := x_v.frozen 8
    obtain ⟨w7, e_w7, s_w7, h_w7, y⟩ := set_step x_v 2 (.int .i64 n3)
    have s_w7_1 := Nat.le_of_eq s_w7
    have s_w7_2 := Nat.le_of_eq s_w7.symm
    clear s_w7
    replace x_r := x_r.chg h_w7 (by omega)
    replace x_R := x_R.chg h_w7 (by omega)
    have B_w7 := Below.chg_ B_w6 h_w7 (by omega) (by omega)
    replace x_v : Vr w7 (w2.heap.size) 29 [.int .i64 n1, .int .i64 n2, .int .i64 n3, .int .i64 0, .int .i64 0, .int .i64 0, .int .i64 0, .int .i64 0, .int .i64 0] := y
    clear y
    have c_r_0_w7 := x_r.cell (i := 0) rfl
    have f_r_0_w7 := x_r.frozen 0
    have c_r_1_w7 := x_r.cell (i := 1) rfl
    have f_r_1_w7 := x_r.frozen 1
    have c_r_2_w7 := x_r.cell (i := 2) rfl
    have f_r_2_w7 := x_r.frozen 2
    have c_r_3_w7 := x_r.cell (i := 3) rfl
    have f_r_3_w7 := x_r.frozen 3
    have c_r_4_w7 := x_r.cell (i := 4) rfl
    have f_r_4_w7 := x_r.frozen 4
    have c_r_5_w7 := x_r.cell (i := 5) rfl
    have f_r_5_w7 := x_r.frozen 5
    have c_r_6_w7 := x_r.cell (i := 6) rfl
    have f_r_6_w7 := x_r.frozen 6
    have c_r_7_w7 := x_r.cell (i := 7) rfl
    have f_r_7_w7 := x_r.frozen 7
    have c_r_8_w7 := x_r.cell (i := 8) rfl
    have f_r_8_w7 := x_r.frozen 8
    have c_R_0_w7 := x_R.cell (i := 0) rfl
    have f_R_0_w7 := x_R.frozen 0
    have c_R_1_w7 := x_R.cell (i := 1) rfl
    have f_R_1_w7 := x_R.frozen 1
    have c_R_2_w7 := x_R.cell (i := 2) rfl
    have f_R_2_w7 := x_R.frozen 2
    have c_v_0_w7 := x_v.cell (i := 0) rfl
    have f_v_0_w7 := x_v.frozen 0
    have c_v_1_w7 := x_v.cell (i := 1) rfl
    have f_v_1_w7 := x_v.frozen 1
    have c_v_2_w7 := x_v.cell (i := 2) rfl
    have f_v_2_w7 := x_v.frozen 2
    have c_v_3_w7 := x_v.cell (i := 3) rfl
    have f_v_3_w7 := x_v.frozen 3
    have c_v_4_w7 := x_v.cell (i := 4) rfl
    have f_v_4_w7 := x_v.frozen 4
    have c_v_5_w7 := x_v.cell (i := 5) rfl
    have f_v_5_w7 := x_v.frozen 5
    have c_v_6_w7 := x_v.cell (i := 6) rfl
    have f_v_6_w7 := x_v.frozen 6
    have c_v_7_w7 := x_v.cell (i := 7) rfl
    have f_v_7_w7 := x_v.frozen 7
    have c_v_8_w7 := x_v.cell (i := 8) rfl
    have f_v_8_w7 := x_v.frozen 8
    go_wp2_with fail
    refine (sGet_c x_R ((hr.below B_w7).more hle) hb hm g3.2).mono ?_
    rintro e w8 ⟨rfl, y, h_w8⟩
    clear c_r_0_w6 f_r_0_w6 c_r_1_w6 f_r_1_w6 c_r_2_w6 f_r_2_w6 c_r_3_w6 f_r_3_w6 c_r_4_w6 f_r_4_w6 c_r_5_w6 f_r_5_w6 c_r_6_w6 f_r_6_w6 c_r_7_w6 f_r_7_w6 c_r_8_w6 f_r_8_w6 c_R_0_w6 f_R_0_w6 c_R_1_w6 f_R_1_w6 c_R_2_w6 f_R_2_w6 c_v_0_w6 f_v_0_w6 c_v_1_w6 f_v_1_w6 c_v_2_w6 f_v_2_w6 c_v_3_w6 f_v_3_w6 c_v_4_w6 f_v_4_w6 c_v_5_w6 f_v_5_w6 c_v_6_w6 f_v_6_w6 c_v_7_w6 f_v_7_w6 c_v_8_w6 f_v_8_w6 c_r_0_w7 f_r_0_w7 c_r_1_w7 f_r_1_w7 c_r_2_w7 f_r_2_w7 c_r_3_w7 f_r_3_w7 c_r_4_w7 f_r_4_w7 c_r_5_w7 f_r_5_w7 c_r_6_w7 f_r_6_w7 c_r_7_w7 f_r_7_w7 c_r_8_w7 f_r_8_w7 c_R_0_w7 f_R_0_w7 c_R_1_w7 f_R_1_w7 c_R_2_w7 f_R_2_w7 c_v_0_w7 f_v_0_w7 c_v_1_w7 f_v_1_w7 c_v_2_w7 f_v_2_w7 c_v_3_w7 f_v_3_w7 c_v_4_w7 f_v_4_w7 c_v_5_w7 f_v_5_w7 c_v_6_w7 f_v_6_w7 c_v_7_w7 f_v_7_w7 c_v_8_w7 f_v_8_w7
    replace x_r := x_r.chg h_w8 (by omega)
    replace x_v := x_v.chg h_w8 (by omega)
    have B_w8 := Below.chg_ B_w7 h_w8 (by omega) (by omega)
    have s_w8 := h_w8.size
    rw [HP4.out, HB4.out] at y
    rw [HN4.out]
    replace x_R := y
    clear y
    have c_r_0_w8 := x_r.cell (i := 0) rfl
    have f_r_0_w8 := x_r.frozen 0
    have c_r_1_w8 := x_r.cell (i := 1) rfl
    have f_r_1_w8 := x_r.frozen 1
    have c_r_2_w8 := x_r.cell (i := 2) rfl
    have f_r_2_w8 := x_r.frozen 2
    have c_r_3_w8 := x_r.cell (i := 3) rfl
    have f_r_3_w8 := x_r.frozen 3
    have c_r_4_w8 := x_r.cell (i := 4) rfl
    have f_r_4_w8 := x_r.frozen 4
    have c_r_5_w8 := x_r.cell (i := 5) rfl
    have f_r_5_w8 := x_r.frozen 5
    have c_r_6_w8 := x_r.cell (i := 6) rfl
    have f_r_6_w8 := x_r.frozen 6
    have c_r_7_w8 := x_r.cell (i := 7) rfl
    have f_r_7_w8 := x_r.frozen 7
    have c_r_8_w8 := x_r.cell (i := 8) rfl
    have f_r_8_w8 := x_r.frozen 8
    have c_R_0_w8 := x_R.cell (i := 0) rfl
    have f_R_0_w8 := x_R.frozen 0
    have c_R_1_w8 := x_R.cell (i := 1) rfl
    have f_R_1_w8 := x_R.frozen 1
    have c_R_2_w8 := x_R.cell (i := 2) rfl
    have f_R_2_w8 := x_R.frozen 2
    have c_v_0_w8 := x_v.cell (i := 0) rfl
    have f_v_0_w8 := x_v.frozen 0
    have c_v_1_w8 := x_v.cell (i := 1) rfl
    have f_v_1_w8 := x_v.frozen 1
    have c_v_2_w8 := x_v.cell (i := 2) rfl
    have f_v_2_w8 := x_v.frozen 2
    have c_v_3_w8 := x_v.cell (i := 3) rfl
    have f_v_3_w8 := x_v.frozen 3
    have c_v_4_w8 := x_v.cell (i := 4) rfl
    have f_v_4_w8 := x_v.frozen 4
    have c_v_5_w8 := x_v.cell (i := 5) rfl
    have f_v_5_w8 := x_v.frozen 5
    have c_v_6_w8 := x_v.cell (i := 6) rfl
    have f_v_6_w8 := x_v.frozen 6
    have c_v_7_w8 := x_v.cell (i := 7) rfl
    have f_v_7_w8 := x_v.frozen 7
    have c_v_8_w8 := x_v.cell (i := 8) rfl
    have f_v_8_w8 := x_v.frozen 8
    obtain ⟨w9, e_w9, s_w9, h_w9, y⟩ := set_step x_v 3 (.int .i64 n4)
    have s_w9_1 := Nat.le_of_eq s_w9
    have s_w9_2 := Nat.le_of_eq s_w9.symm
    clear s_w9
    replace x_r := x_r.chg h_w9 (by omega)
    replace x_R := x_R.chg h_w9 (by omega)
    have B_w9 := Below.chg_ B_w8 h_w9 (by omega) (by omega)
    replace x_v : Vr w9 (w2.heap.size) 29 [.int .i64 n1, .int .i64 n2, .int .i64 n3, .int .i64 n4, .int .i64 0, .int .i64 0, .int .i64 0, .int .i64 0, .int .i64 0] := y
    clear y
    have c_r_0_w9 := x_r.cell (i := 0) rfl
    have f_r_0_w9 := x_r.frozen 0
    have c_r_1_w9 := x_r.cell (i := 1) rfl
    have f_r_1_w9 := x_r.frozen 1
    have c_r_2_w9 := x_r.cell (i := 2) rfl
    have f_r_2_w9 := x_r.frozen 2
    have c_r_3_w9 := x_r.cell (i := 3) rfl
    have f_r_3_w9 := x_r.frozen 3
    have c_r_4_w9 := x_r.cell (i := 4) rfl
    have f_r_4_w9 := x_r.frozen 4
    have c_r_5_w9 := x_r.cell (i := 5) rfl
    have f_r_5_w9 := x_r.frozen 5
    have c_r_6_w9 := x_r.cell (i := 6) rfl
    have f_r_6_w9 := x_r.frozen 6
    have c_r_7_w9 := x_r.cell (i := 7) rfl
    have f_r_7_w9 := x_r.frozen 7
    have c_r_8_w9 := x_r.cell (i := 8) rfl
    have f_r_8_w9 := x_r.frozen 8
    have c_R_0_w9 := x_R.cell (i := 0) rfl
    have f_R_0_w9 := x_R.frozen 0
    have c_R_1_w9 := x_R.cell (i := 1) rfl
    have f_R_1_w9 := x_R.frozen 1
    have c_R_2_w9 := x_R.cell (i := 2) rfl
    have f_R_2_w9 := x_R.frozen 2
    have c_v_0_w9 := x_v.cell (i := 0) rfl
    have f_v_0_w9 := x_v.frozen 0
    have c_v_1_w9 := x_v.cell (i := 1) rfl
    have f_v_1_w9 := x_v.frozen 1
    have c_v_2_w9 := x_v.cell (i := 2) rfl
    have f_v_2_w9 := x_v.frozen 2
    have c_v_3_w9 := x_v.cell (i := 3) rfl
    have f_v_3_w9 := x_v.frozen 3
    have c_v_4_w9 := x_v.cell (i := 4) rfl
    have f_v_4_w9 := x_v.frozen 4
    have c_v_5_w9 := x_v.cell (i := 5) rfl
    have f_v_5_w9 := x_v.frozen 5
    have c_v_6_w9 := x_v.cell (i := 6) rfl
    have f_v_6_w9 := x_v.frozen 6
    have c_v_7_w9 := x_v.cell (i := 7) rfl
    have f_v_7_w9 := x_v.frozen 7
    have c_v_8_w9 := x_v.cell (i := 8) rfl
    have f_v_8_w9 := x_v.frozen 8
    go_wp2_with fail
    refine (sGet_c x_R ((hr.below B_w9).more hle) hb hm g4.2).mono ?_
    rintro e w10 ⟨rfl, y, h_w10⟩
    clear c_r_0_w8 f_r_0_w8 c_r_1_w8 f_r_1_w8 c_r_2_w8 f_r_2_w8 c_r_3_w8 f_r_3_w8 c_r_4_w8 f_r_4_w8 c_r_5_w8 f_r_5_w8 c_r_6_w8 f_r_6_w8 c_r_7_w8 f_r_7_w8 c_r_8_w8 f_r_8_w8 c_R_0_w8 f_R_0_w8 c_R_1_w8 f_R_1_w8 c_R_2_w8 f_R_2_w8 c_v_0_w8 f_v_0_w8 c_v_1_w8 f_v_1_w8 c_v_2_w8 f_v_2_w8 c_v_3_w8 f_v_3_w8 c_v_4_w8 f_v_4_w8 c_v_5_w8 f_v_5_w8 c_v_6_w8 f_v_6_w8 c_v_7_w8 f_v_7_w8 c_v_8_w8 f_v_8_w8 c_r_0_w9 f_r_0_w9 c_r_1_w9 f_r_1_w9 c_r_2_w9 f_r_2_w9 c_r_3_w9 f_r_3_w9 c_r_4_w9 f_r_4_w9 c_r_5_w9 f_r_5_w9 c_r_6_w9 f_r_6_w9 c_r_7_w9 f_r_7_w9 c_r_8_w9 f_r_8_w9 c_R_0_w9 f_R_0_w9 c_R_1_w9 f_R_1_w9 c_R_2_w9 f_R_2_w9 c_v_0_w9 f_v_0_w9 c_v_1_w9 f_v_1_w9 c_v_2_w9 f_v_2_w9 c_v_3_w9 f_v_3_w9 c_v_4_w9 f_v_4_w9 c_v_5_w9 f_v_5_w9 c_v_6_w9 f_v_6_w9 c_v_7_w9 f_v_7_w9 c_v_8_w9 f_v_8_w9
    replace x_r := x_r.chg h_w10 (by omega)
    replace x_v := x_v.chg h_w10 (by omega)
    have B_w10 := Below.chg_ B_w9 h_w10 (by omega) (by omega)
    have s_w10 := h_w10.size
    rw [HP5.out, HB5.out] at y
    rw [HN5.out]
    replace x_R := y
    clear y
    have c_r_0_w10 := x_r.cell (i := 0) rfl
    have f_r_0_w10 := x_r.frozen 0
    have c_r_1_w10 := x_r.cell (i := 1) rfl
    have f_r_1_w10 := x_r.frozen 1
    have c_r_2_w10 := x_r.cell (i := 2) rfl
    have f_r_2_w10 := x_r.frozen 2
    have c_r_3_w10 := x_r.cell (i := 3) rfl
    have f_r_3_w10 := x_r.frozen 3
    have c_r_4_w10 := x_r.cell (i := 4) rfl
    have f_r_4_w10 := x_r.frozen 4
    have c_r_5_w10 := x_r.cell (i := 5) rfl
    have f_r_5_w10 := x_r.frozen 5
    have c_r_6_w10 := x_r.cell (i := 6) rfl
    have f_r_6_w10 := x_r.frozen 6
    have c_r_7_w10 := x_r.cell (i := 7) rfl
    have f_r_7_w10 := x_r.frozen 7
    have c_r_8_w10 := x_r.cell (i := 8) rfl
    have f_r_8_w10 := x_r.frozen 8
    have c_R_0_w10 := x_R.cell (i := 0) rfl
    have f_R_0_w10 := x_R.frozen 0
    have c_R_1_w10 := x_R.cell (i := 1) rfl
    have f_R_1_w10 := x_R.frozen 1
    have c_R_2_w10 := x_R.cell (i := 2) rfl
    have f_R_2_w10 := x_R.frozen 2
    have c_v_0_w10 := x_v.cell (i := 0) rfl
    have f_v_0_w10 := x_v.frozen 0
    have c_v_1_w10 := x_v.cell (i := 1) rfl
    have f_v_1_w10 := x_v.frozen 1
    have c_v_2_w10 := x_v.cell (i := 2) rfl
    have f_v_2_w10 := x_v.frozen 2
    have c_v_3_w10 := x_v.cell (i := 3) rfl
    have f_v_3_w10 := x_v.frozen 3
    have c_v_4_w10 := x_v.cell (i := 4) rfl
    have f_v_4_w10 := x_v.frozen 4
    have c_v_5_w10 := x_v.cell (i := 5) rfl
    have f_v_5_w10 := x_v.frozen 5
    have c_v_6_w10 := x_v.cell (i := 6) rfl
    have f_v_6_w10 := x_v.frozen 6
    have c_v_7_w10 := x_v.cell (i := 7) rfl
    have f_v_7_w10 := x_v.frozen 7
    have c_v_8_w10 := x_v.cell (i := 8) rfl
    have f_v_8_w10 := x_v.frozen 8
    obtain ⟨w11, e_w11, s_w11, h_w11, y⟩ := set_step x_v 4 (.int .i64 n5)
    have s_w11_1 := Nat.le_of_eq s_w11
    have s_w11_2 := Nat.le_of_eq s_w11.symm
    clear s_w11
    replace x_r := x_r.chg h_w11 (by omega)
    replace x_R := x_R.chg h_w11 (by omega)
    have B_w11 := Below.chg_ B_w10 h_w11 (by omega) (by omega)
    replace x_v : Vr w11 (w2.heap.size) 29 [.int .i64 n1, .int .i64 n2, .int .i64 n3, .int .i64 n4, .int .i64 n5, .int .i64 0, .int .i64 0, .int .i64 0, .int .i64 0] := y
    clear y
    have c_r_0_w11 := x_r.cell (i := 0) rfl
    have f_r_0_w11 := x_r.frozen 0
    have c_r_1_w11 := x_r.cell (i := 1) rfl
    have f_r_1_w11 := x_r.frozen 1
    have c_r_2_w11 := x_r.cell (i := 2) rfl
    have f_r_2_w11 := x_r.frozen 2
    have c_r_3_w11 := x_r.cell (i := 3) rfl
    have f_r_3_w11 := x_r.frozen 3
    have c_r_4_w11 := x_r.cell (i := 4) rfl
    have f_r_4_w11 := x_r.frozen 4
    have c_r_5_w11 := x_r.cell (i := 5) rfl
    have f_r_5_w11 := x_r.frozen 5
    have c_r_6_w11 := x_r.cell (i := 6) rfl
    have f_r_6_w11 := x_r.frozen 6
    have c_r_7_w11 := x_r.cell (i := 7) rfl
    have f_r_7_w11 := x_r.frozen 7
    have c_r_8_w11 := x_r.cell (i := 8) rfl
    have f_r_8_w11 := x_r.frozen 8
    have c_R_0_w11 := x_R.cell (i := 0) rfl
    have f_R_0_w11 := x_R.frozen 0
    have c_R_1_w11 := x_R.cell (i := 1) rfl
    have f_R_1_w11 := x_R.frozen 1
    have c_R_2_w11 := x_R.cell (i := 2) rfl
    have f_R_2_w11 := x_R.frozen 2
    have c_v_0_w11 := x_v.cell (i := 0) rfl
    have f_v_0_w11 := x_v.frozen 0
    have c_v_1_w11 := x_v.cell (i := 1) rfl
    have f_v_1_w11 := x_v.frozen 1
    have c_v_2_w11 := x_v.cell (i := 2) rfl
    have f_v_2_w11 := x_v.frozen 2
    have c_v_3_w11 := x_v.cell (i := 3) rfl
    have f_v_3_w11 := x_v.frozen 3
    have c_v_4_w11 := x_v.cell (i := 4) rfl
    have f_v_4_w11 := x_v.frozen 4
    have c_v_5_w11 := x_v.cell (i := 5) rfl
    have f_v_5_w11 := x_v.frozen 5
    have c_v_6_w11 := x_v.cell (i := 6) rfl
    have f_v_6_w11 := x_v.frozen 6
    have c_v_7_w11 := x_v.cell (i := 7) rfl
    have f_v_7_w11 := x_v.frozen 7
    have c_v_8_w11 := x_v.cell (i := 8) rfl
    have f_v_8_w11 := x_v.frozen 8
    go_wp2_with fail
    refine (sMsgRd_c x_R ((hr.below B_w11).more hle) hb hm g5.2).mono ?_
    rintro e w12 ⟨rfl, y, h_w12⟩
    clear c_r_0_w10 f_r_0_w10 c_r_1_w10 f_r_1_w10 c_r_2_w10 f_r_2_w10 c_r_3_w10 f_r_3_w10 c_r_4_w10 f_r_4_w10 c_r_5_w10 f_r_5_w10 c_r_6_w10 f_r_6_w10 c_r_7_w10 f_r_7_w10 c_r_8_w10 f_r_8_w10 c_R_0_w10 f_R_0_w10 c_R_1_w10 f_R_1_w10 c_R_2_w10 f_R_2_w10 c_v_0_w10 f_v_0_w10 c_v_1_w10 f_v_1_w10 c_v_2_w10 f_v_2_w10 c_v_3_w10 f_v_3_w10 c_v_4_w10 f_v_4_w10 c_v_5_w10 f_v_5_w10 c_v_6_w10 f_v_6_w10 c_v_7_w10 f_v_7_w10 c_v_8_w10 f_v_8_w10 c_r_0_w11 f_r_0_w11 c_r_1_w11 f_r_1_w11 c_r_2_w11 f_r_2_w11 c_r_3_w11 f_r_3_w11 c_r_4_w11 f_r_4_w11 c_r_5_w11 f_r_5_w11 c_r_6_w11 f_r_6_w11 c_r_7_w11 f_r_7_w11 c_r_8_w11 f_r_8_w11 c_R_0_w11 f_R_0_w11 c_R_1_w11 f_R_1_w11 c_R_2_w11 f_R_2_w11 c_v_0_w11 f_v_0_w11 c_v_1_w11 f_v_1_w11 c_v_2_w11 f_v_2_w11 c_v_3_w11 f_v_3_w11 c_v_4_w11 f_v_4_w11 c_v_5_w11 f_v_5_w11 c_v_6_w11 f_v_6_w11 c_v_7_w11 f_v_7_w11 c_v_8_w11 f_v_8_w11
    replace x_r := x_r.chg h_w12 (by omega)
    replace x_v := x_v.chg h_w12 (by omega)
    have B_w12 := Below.chg_ B_w11 h_w12 (by omega) (by omega)
    have s_w12 := h_w12.size
    rw [H2.out, H3.out] at y
    rw [H1.out]
    replace x_R := y
    clear y
    have hmc : (msgCells m).toArray = #[.int .i64 m.Kind, .int .i64 m.Acct, .int .i64 m.Amt, .int .i64 m.Src] := rfl
    rw [hmc]
    clear hmc
    have c_r_0_w12 := x_r.cell (i := 0) rfl
    have f_r_0_w12 := x_r.frozen 0
    have c_r_1_w12 := x_r.cell (i := 1) rfl
    have f_r_1_w12 := x_r.frozen 1
    have c_r_2_w12 := x_r.cell (i := 2) rfl
    have f_r_2_w12 := x_r.frozen 2
    have c_r_3_w12 := x_r.cell (i := 3) rfl
    have f_r_3_w12 := x_r.frozen 3
    have c_r_4_w12 := x_r.cell (i := 4) rfl
    have f_r_4_w12 := x_r.frozen 4
    have c_r_5_w12 := x_r.cell (i := 5) rfl
    have f_r_5_w12 := x_r.frozen 5
    have c_r_6_w12 := x_r.cell (i := 6) rfl
    have f_r_6_w12 := x_r.frozen 6
    have c_r_7_w12 := x_r.cell (i := 7) rfl
    have f_r_7_w12 := x_r.frozen 7
    have c_r_8_w12 := x_r.cell (i := 8) rfl
    have f_r_8_w12 := x_r.frozen 8
    have c_R_0_w12 := x_R.cell (i := 0) rfl
    have f_R_0_w12 := x_R.frozen 0
    have c_R_1_w12 := x_R.cell (i := 1) rfl
    have f_R_1_w12 := x_R.frozen 1
    have c_R_2_w12 := x_R.cell (i := 2) rfl
    have f_R_2_w12 := x_R.frozen 2
    have c_v_0_w12 := x_v.cell (i := 0) rfl
    have f_v_0_w12 := x_v.frozen 0
    have c_v_1_w12 := x_v.cell (i := 1) rfl
    have f_v_1_w12 := x_v.frozen 1
    have c_v_2_w12 := x_v.cell (i := 2) rfl
    have f_v_2_w12 := x_v.frozen 2
    have c_v_3_w12 := x_v.cell (i := 3) rfl
    have f_v_3_w12 := x_v.frozen 3
    have c_v_4_w12 := x_v.cell (i := 4) rfl
    have f_v_4_w12 := x_v.frozen 4
    have c_v_5_w12 := x_v.cell (i := 5) rfl
    have f_v_5_w12 := x_v.frozen 5
    have c_v_6_w12 := x_v.cell (i := 6) rfl
    have f_v_6_w12 := x_v.frozen 6
    have c_v_7_w12 := x_v.cell (i := 7) rfl
    have f_v_7_w12 := x_v.frozen 7
    have c_v_8_w12 := x_v.cell (i := 8) rfl
    have f_v_8_w12 := x_v.frozen 8
    obtain ⟨w13, e_w13, s_w13, h_w13, y⟩ := set_step x_v 5 (.int .i64 m.Kind)
    have s_w13_1 := Nat.le_of_eq s_w13
    have s_w13_2 := Nat.le_of_eq s_w13.symm
    clear s_w13
    replace x_r := x_r.chg h_w13 (by omega)
    replace x_R := x_R.chg h_w13 (by omega)
    have B_w13 := Below.chg_ B_w12 h_w13 (by omega) (by omega)
    replace x_v : Vr w13 (w2.heap.size) 29 [.int .i64 n1, .int .i64 n2, .int .i64 n3, .int .i64 n4, .int .i64 n5, .int .i64 m.Kind, .int .i64 0, .int .i64 0, .int .i64 0] := y
    clear y
    have c_r_0_w13 := x_r.cell (i := 0) rfl
    have f_r_0_w13 := x_r.frozen 0
    have c_r_1_w13 := x_r.cell (i := 1) rfl
    have f_r_1_w13 := x_r.frozen 1
    have c_r_2_w13 := x_r.cell (i := 2) rfl
    have f_r_2_w13 := x_r.frozen 2
    have c_r_3_w13 := x_r.cell (i := 3) rfl
    have f_r_3_w13 := x_r.frozen 3
    have c_r_4_w13 := x_r.cell (i := 4) rfl
    have f_r_4_w13 := x_r.frozen 4
    have c_r_5_w13 := x_r.cell (i := 5) rfl
    have f_r_5_w13 := x_r.frozen 5
    have c_r_6_w13 := x_r.cell (i := 6) rfl
    have f_r_6_w13 := x_r.frozen 6
    have c_r_7_w13 := x_r.cell (i := 7) rfl
    have f_r_7_w13 := x_r.frozen 7
    have c_r_8_w13 := x_r.cell (i := 8) rfl
    have f_r_8_w13 := x_r.frozen 8
    have c_R_0_w13 := x_R.cell (i := 0) rfl
    have f_R_0_w13 := x_R.frozen 0
    have c_R_1_w13 := x_R.cell (i := 1) rfl
    have f_R_1_w13 := x_R.frozen 1
    have c_R_2_w13 := x_R.cell (i := 2) rfl
    have f_R_2_w13 := x_R.frozen 2
    have c_v_0_w13 := x_v.cell (i := 0) rfl
    have f_v_0_w13 := x_v.frozen 0
    have c_v_1_w13 := x_v.cell (i := 1) rfl
    have f_v_1_w13 := x_v.frozen 1
    have c_v_2_w13 := x_v.cell (i := 2) rfl
    have f_v_2_w13 := x_v.frozen 2
    have c_v_3_w13 := x_v.cell (i := 3) rfl
    have f_v_3_w13 := x_v.frozen 3
    have c_v_4_w13 := x_v.cell (i := 4) rfl
    have f_v_4_w13 := x_v.frozen 4
    have c_v_5_w13 := x_v.cell (i := 5) rfl
    have f_v_5_w13 := x_v.frozen 5
    have c_v_6_w13 := x_v.cell (i := 6) rfl
    have f_v_6_w13 := x_v.frozen 6
    have c_v_7_w13 := x_v.cell (i := 7) rfl
    have f_v_7_w13 := x_v.frozen 7
    have c_v_8_w13 := x_v.cell (i := 8) rfl
    have f_v_8_w13 := x_v.frozen 8
    obtain ⟨w14, e_w14, s_w14, h_w14, y⟩ := set_step x_v 6 (.int .i64 m.Acct)
    have s_w14_1 := Nat.le_of_eq s_w14
    have s_w14_2 := Nat.le_of_eq s_w14.symm
    clear s_w14
    replace x_r := x_r.chg h_w14 (by omega)
    replace x_R := x_R.chg h_w14 (by omega)
    have B_w14 := Below.chg_ B_w13 h_w14 (by omega) (by omega)
    replace x_v : Vr w14 (w2.heap.size) 29 [.int .i64 n1, .int .i64 n2, .int .i64 n3, .int .i64 n4, .int .i64 n5, .int .i64 m.Kind, .int .i64 m.Acct, .int .i64 0, .int .i64 0] := y
    clear y
    have c_r_0_w14 := x_r.cell (i := 0) rfl
    have f_r_0_w14 := x_r.frozen 0
    have c_r_1_w14 := x_r.cell (i := 1) rfl
    have f_r_1_w14 := x_r.frozen 1
    have c_r_2_w14 := x_r.cell (i := 2) rfl
    have f_r_2_w14 := x_r.frozen 2
    have c_r_3_w14 := x_r.cell (i := 3) rfl
    have f_r_3_w14 := x_r.frozen 3
    have c_r_4_w14 := x_r.cell (i := 4) rfl
    have f_r_4_w14 := x_r.frozen 4
    have c_r_5_w14 := x_r.cell (i := 5) rfl
    have f_r_5_w14 := x_r.frozen 5
    have c_r_6_w14 := x_r.cell (i := 6) rfl
    have f_r_6_w14 := x_r.frozen 6
    have c_r_7_w14 := x_r.cell (i := 7) rfl
    have f_r_7_w14 := x_r.frozen 7
    have c_r_8_w14 := x_r.cell (i := 8) rfl
    have f_r_8_w14 := x_r.frozen 8
    have c_R_0_w14 := x_R.cell (i := 0) rfl
    have f_R_0_w14 := x_R.frozen 0
    have c_R_1_w14 := x_R.cell (i := 1) rfl
    have f_R_1_w14 := x_R.frozen 1
    have c_R_2_w14 := x_R.cell (i := 2) rfl
    have f_R_2_w14 := x_R.frozen 2
    have c_v_0_w14 := x_v.cell (i := 0) rfl
    have f_v_0_w14 := x_v.frozen 0
    have c_v_1_w14 := x_v.cell (i := 1) rfl
    have f_v_1_w14 := x_v.frozen 1
    have c_v_2_w14 := x_v.cell (i := 2) rfl
    have f_v_2_w14 := x_v.frozen 2
    have c_v_3_w14 := x_v.cell (i := 3) rfl
    have f_v_3_w14 := x_v.frozen 3
    have c_v_4_w14 := x_v.cell (i := 4) rfl
    have f_v_4_w14 := x_v.frozen 4
    have c_v_5_w14 := x_v.cell (i := 5) rfl
    have f_v_5_w14 := x_v.frozen 5
    have c_v_6_w14 := x_v.cell (i := 6) rfl
    have f_v_6_w14 := x_v.frozen 6
    have c_v_7_w14 := x_v.cell (i := 7) rfl
    have f_v_7_w14 := x_v.frozen 7
    have c_v_8_w14 := x_v.cell (i := 8) rfl
    have f_v_8_w14 := x_v.frozen 8
    obtain ⟨w15, e_w15, s_w15, h_w15, y⟩ := set_step x_v 7 (.int .i64 m.Amt)
    have s_w15_1 := Nat.le_of_eq s_w15
    have s_w15_2 := Nat.le_of_eq s_w15.symm
    clear s_w15
    replace x_r := x_r.chg h_w15 (by omega)
    replace x_R := x_R.chg h_w15 (by omega)
    have B_w15 := Below.chg_ B_w14 h_w15 (by omega) (by omega)
    replace x_v : Vr w15 (w2.heap.size) 29 [.int .i64 n1, .int .i64 n2, .int .i64 n3, .int .i64 n4, .int .i64 n5, .int .i64 m.Kind, .int .i64 m.Acct, .int .i64 m.Amt, .int .i64 0] := y
    clear y
    have c_r_0_w15 := x_r.cell (i := 0) rfl
    have f_r_0_w15 := x_r.frozen 0
    have c_r_1_w15 := x_r.cell (i := 1) rfl
    have f_r_1_w15 := x_r.frozen 1
    have c_r_2_w15 := x_r.cell (i := 2) rfl
    have f_r_2_w15 := x_r.frozen 2
    have c_r_3_w15 := x_r.cell (i := 3) rfl
    have f_r_3_w15 := x_r.frozen 3
    have c_r_4_w15 := x_r.cell (i := 4) rfl
    have f_r_4_w15 := x_r.frozen 4
    have c_r_5_w15 := x_r.cell (i := 5) rfl
    have f_r_5_w15 := x_r.frozen 5
    have c_r_6_w15 := x_r.cell (i := 6) rfl
    have f_r_6_w15 := x_r.frozen 6
    have c_r_7_w15 := x_r.cell (i := 7) rfl
    have f_r_7_w15 := x_r.frozen 7
    have c_r_8_w15 := x_r.cell (i := 8) rfl
    have f_r_8_w15 := x_r.frozen 8
    have c_R_0_w15 := x_R.cell (i := 0) rfl
    have f_R_0_w15 := x_R.frozen 0
    have c_R_1_w15 := x_R.cell (i := 1) rfl
    have f_R_1_w15 := x_R.frozen 1
    have c_R_2_w15 := x_R.cell (i := 2) rfl
    have f_R_2_w15 := x_R.frozen 2
    have c_v_0_w15 := x_v.cell (i := 0) rfl
    have f_v_0_w15 := x_v.frozen 0
    have c_v_1_w15 := x_v.cell (i := 1) rfl
    have f_v_1_w15 := x_v.frozen 1
    have c_v_2_w15 := x_v.cell (i := 2) rfl
    have f_v_2_w15 := x_v.frozen 2
    have c_v_3_w15 := x_v.cell (i := 3) rfl
    have f_v_3_w15 := x_v.frozen 3
    have c_v_4_w15 := x_v.cell (i := 4) rfl
    have f_v_4_w15 := x_v.frozen 4
    have c_v_5_w15 := x_v.cell (i := 5) rfl
    have f_v_5_w15 := x_v.frozen 5
    have c_v_6_w15 := x_v.cell (i := 6) rfl
    have f_v_6_w15 := x_v.frozen 6
    have c_v_7_w15 := x_v.cell (i := 7) rfl
    have f_v_7_w15 := x_v.frozen 7
    have c_v_8_w15 := x_v.cell (i := 8) rfl
    have f_v_8_w15 := x_v.frozen 8
    obtain ⟨w16, e_w16, s_w16, h_w16, y⟩ := set_step x_v 8 (.int .i64 m.Src)
    have s_w16_1 := Nat.le_of_eq s_w16
    have s_w16_2 := Nat.le_of_eq s_w16.symm
    clear s_w16
    replace x_r := x_r.chg h_w16 (by omega)
    replace x_R := x_R.chg h_w16 (by omega)
    have B_w16 := Below.chg_ B_w15 h_w16 (by omega) (by omega)
    replace x_v : Vr w16 (w2.heap.size) 29 [.int .i64 n1, .int .i64 n2, .int .i64 n3, .int .i64 n4, .int .i64 n5, .int .i64 m.Kind, .int .i64 m.Acct, .int .i64 m.Amt, .int .i64 m.Src] := y
    clear y
    have c_r_0_w16 := x_r.cell (i := 0) rfl
    have f_r_0_w16 := x_r.frozen 0
    have c_r_1_w16 := x_r.cell (i := 1) rfl
    have f_r_1_w16 := x_r.frozen 1
    have c_r_2_w16 := x_r.cell (i := 2) rfl
    have f_r_2_w16 := x_r.frozen 2
    have c_r_3_w16 := x_r.cell (i := 3) rfl
    have f_r_3_w16 := x_r.frozen 3
    have c_r_4_w16 := x_r.cell (i := 4) rfl
    have f_r_4_w16 := x_r.frozen 4
    have c_r_5_w16 := x_r.cell (i := 5) rfl
    have f_r_5_w16 := x_r.frozen 5
    have c_r_6_w16 := x_r.cell (i := 6) rfl
    have f_r_6_w16 := x_r.frozen 6
    have c_r_7_w16 := x_r.cell (i := 7) rfl
    have f_r_7_w16 := x_r.frozen 7
    have c_r_8_w16 := x_r.cell (i := 8) rfl
    have f_r_8_w16 := x_r.frozen 8
    have c_R_0_w16 := x_R.cell (i := 0) rfl
    have f_R_0_w16 := x_R.frozen 0
    have c_R_1_w16 := x_R.cell (i := 1) rfl
    have f_R_1_w16 := x_R.frozen 1
    have c_R_2_w16 := x_R.cell (i := 2) rfl
    have f_R_2_w16 := x_R.frozen 2
    have c_v_0_w16 := x_v.cell (i := 0) rfl
    have f_v_0_w16 := x_v.frozen 0
    have c_v_1_w16 := x_v.cell (i := 1) rfl
    have f_v_1_w16 := x_v.frozen 1
    have c_v_2_w16 := x_v.cell (i := 2) rfl
    have f_v_2_w16 := x_v.frozen 2
    have c_v_3_w16 := x_v.cell (i := 3) rfl
    have f_v_3_w16 := x_v.frozen 3
    have c_v_4_w16 := x_v.cell (i := 4) rfl
    have f_v_4_w16 := x_v.frozen 4
    have c_v_5_w16 := x_v.cell (i := 5) rfl
    have f_v_5_w16 := x_v.frozen 5
    have c_v_6_w16 := x_v.cell (i := 6) rfl
    have f_v_6_w16 := x_v.frozen 6
    have c_v_7_w16 := x_v.cell (i := 7) rfl
    have f_v_7_w16 := x_v.frozen 7
    have c_v_8_w16 := x_v.cell (i := 8) rfl
    have f_v_8_w16 := x_v.frozen 8
    have rv : RV recL w16 (.agg #[.int .i64 n1, .int .i64 n2, .int .i64 n3, .int .i64 n4, .int .i64 n5, .int .i64 m.Kind, .int .i64 m.Acct, .int .i64 m.Amt, .int .i64 m.Src]) ⟨n1, n2, n3, n4, n5, m⟩ := rv_rec_mk (zM := m)
    obtain ⟨ok, hok⟩ : ∃ b, recOkB ⟨n1, n2, n3, n4, n5, m⟩ = b := ⟨_, rfl⟩
    have HOK := Lib.hid hok
    clear hok
    obtain ⟨bs, hbs⟩ : ∃ b, recBytes ⟨n1, n2, n3, n4, n5, m⟩ = b := ⟨_, rfl⟩
    have bbs : Bytes bs := by rw [← hbs]; exact recBytes_bytes _
    have HBS := Lib.hid hbs
    clear hbs
    go_wp2_with fail
    refine (sRecBytes_c rv).mono ?_
    rintro e w17 ⟨vb, rfl, o_b, h_w17⟩
    clear c_r_0_w12 f_r_0_w12 c_r_1_w12 f_r_1_w12 c_r_2_w12 f_r_2_w12 c_r_3_w12 f_r_3_w12 c_r_4_w12 f_r_4_w12 c_r_5_w12 f_r_5_w12 c_r_6_w12 f_r_6_w12 c_r_7_w12 f_r_7_w12 c_r_8_w12 f_r_8_w12 c_R_0_w12 f_R_0_w12 c_R_1_w12 f_R_1_w12 c_R_2_w12 f_R_2_w12 c_v_0_w12 f_v_0_w12 c_v_1_w12 f_v_1_w12 c_v_2_w12 f_v_2_w12 c_v_3_w12 f_v_3_w12 c_v_4_w12 f_v_4_w12 c_v_5_w12 f_v_5_w12 c_v_6_w12 f_v_6_w12 c_v_7_w12 f_v_7_w12 c_v_8_w12 f_v_8_w12 c_r_0_w13 f_r_0_w13 c_r_1_w13 f_r_1_w13 c_r_2_w13 f_r_2_w13 c_r_3_w13 f_r_3_w13 c_r_4_w13 f_r_4_w13 c_r_5_w13 f_r_5_w13 c_r_6_w13 f_r_6_w13 c_r_7_w13 f_r_7_w13 c_r_8_w13 f_r_8_w13 c_R_0_w13 f_R_0_w13 c_R_1_w13 f_R_1_w13 c_R_2_w13 f_R_2_w13 c_v_0_w13 f_v_0_w13 c_v_1_w13 f_v_1_w13 c_v_2_w13 f_v_2_w13 c_v_3_w13 f_v_3_w13 c_v_4_w13 f_v_4_w13 c_v_5_w13 f_v_5_w13 c_v_6_w13 f_v_6_w13 c_v_7_w13 f_v_7_w13 c_v_8_w13 f_v_8_w13 c_r_0_w14 f_r_0_w14 c_r_1_w14 f_r_1_w14 c_r_2_w14 f_r_2_w14 c_r_3_w14 f_r_3_w14 c_r_4_w14 f_r_4_w14 c_r_5_w14 f_r_5_w14 c_r_6_w14 f_r_6_w14 c_r_7_w14 f_r_7_w14 c_r_8_w14 f_r_8_w14 c_R_0_w14 f_R_0_w14 c_R_1_w14 f_R_1_w14 c_R_2_w14 f_R_2_w14 c_v_0_w14 f_v_0_w14 c_v_1_w14 f_v_1_w14 c_v_2_w14 f_v_2_w14 c_v_3_w14 f_v_3_w14 c_v_4_w14 f_v_4_w14 c_v_5_w14 f_v_5_w14 c_v_6_w14 f_v_6_w14 c_v_7_w14 f_v_7_w14 c_v_8_w14 f_v_8_w14 c_r_0_w15 f_r_0_w15 c_r_1_w15 f_r_1_w15 c_r_2_w15 f_r_2_w15 c_r_3_w15 f_r_3_w15 c_r_4_w15 f_r_4_w15 c_r_5_w15 f_r_5_w15 c_r_6_w15 f_r_6_w15 c_r_7_w15 f_r_7_w15 c_r_8_w15 f_r_8_w15 c_R_0_w15 f_R_0_w15 c_R_1_w15 f_R_1_w15 c_R_2_w15 f_R_2_w15 c_v_0_w15 f_v_0_w15 c_v_1_w15 f_v_1_w15 c_v_2_w15 f_v_2_w15 c_v_3_w15 f_v_3_w15 c_v_4_w15 f_v_4_w15 c_v_5_w15 f_v_5_w15 c_v_6_w15 f_v_6_w15 c_v_7_w15 f_v_7_w15 c_v_8_w15 f_v_8_w15 c_r_0_w16 f_r_0_w16 c_r_1_w16 f_r_1_w16 c_r_2_w16 f_r_2_w16 c_r_3_w16 f_r_3_w16 c_r_4_w16 f_r_4_w16 c_r_5_w16 f_r_5_w16 c_r_6_w16 f_r_6_w16 c_r_7_w16 f_r_7_w16 c_r_8_w16 f_r_8_w16 c_R_0_w16 f_R_0_w16 c_R_1_w16 f_R_1_w16 c_R_2_w16 f_R_2_w16 c_v_0_w16 f_v_0_w16 c_v_1_w16 f_v_1_w16 c_v_2_w16 f_v_2_w16 c_v_3_w16 f_v_3_w16 c_v_4_w16 f_v_4_w16 c_v_5_w16 f_v_5_w16 c_v_6_w16 f_v_6_w16 c_v_7_w16 f_v_7_w16 c_v_8_w16 f_v_8_w16
    replace x_r := x_r.from_ h_w17
    replace x_R := x_R.from_ h_w17
    replace x_v := x_v.from_ h_w17
    have B_w17 := B_w16.trans (h_w17.mono B_w16.size)
    have s_w17 := h_w17.size
    clear rv
    rw [HBS.out] at o_b
    rw [HOK.out]
    obtain ⟨Ab, cb, rfl, -, -, -⟩ := o_b.rd
    by_cases hff : bm = true
    case pos =>
      subst hff
      have c_r_0_w17 := x_r.cell (i := 0) rfl
      have f_r_0_w17 := x_r.frozen 0
      have c_r_1_w17 := x_r.cell (i := 1) rfl
      have f_r_1_w17 := x_r.frozen 1
      have c_r_2_w17 := x_r.cell (i := 2) rfl
      have f_r_2_w17 := x_r.frozen 2
      have c_r_3_w17 := x_r.cell (i := 3) rfl
      have f_r_3_w17 := x_r.frozen 3
      have c_r_4_w17 := x_r.cell (i := 4) rfl
      have f_r_4_w17 := x_r.frozen 4
      have c_r_5_w17 := x_r.cell (i := 5) rfl
      have f_r_5_w17 := x_r.frozen 5
      have c_r_6_w17 := x_r.cell (i := 6) rfl
      have f_r_6_w17 := x_r.frozen 6
      have c_r_7_w17 := x_r.cell (i := 7) rfl
      have f_r_7_w17 := x_r.frozen 7
      have c_r_8_w17 := x_r.cell (i := 8) rfl
      have f_r_8_w17 := x_r.frozen 8
      have c_R_0_w17 := x_R.cell (i := 0) rfl
      have f_R_0_w17 := x_R.frozen 0
      have c_R_1_w17 := x_R.cell (i := 1) rfl
      have f_R_1_w17 := x_R.frozen 1
      have c_R_2_w17 := x_R.cell (i := 2) rfl
      have f_R_2_w17 := x_R.frozen 2
      have c_v_0_w17 := x_v.cell (i := 0) rfl
      have f_v_0_w17 := x_v.frozen 0
      have c_v_1_w17 := x_v.cell (i := 1) rfl
      have f_v_1_w17 := x_v.frozen 1
      have c_v_2_w17 := x_v.cell (i := 2) rfl
      have f_v_2_w17 := x_v.frozen 2
      have c_v_3_w17 := x_v.cell (i := 3) rfl
      have f_v_3_w17 := x_v.frozen 3
      have c_v_4_w17 := x_v.cell (i := 4) rfl
      have f_v_4_w17 := x_v.frozen 4
      have c_v_5_w17 := x_v.cell (i := 5) rfl
      have f_v_5_w17 := x_v.frozen 5
      have c_v_6_w17 := x_v.cell (i := 6) rfl
      have f_v_6_w17 := x_v.frozen 6
      have c_v_7_w17 := x_v.cell (i := 7) rfl
      have f_v_7_w17 := x_v.frozen 7
      have c_v_8_w17 := x_v.cell (i := 8) rfl
      have f_v_8_w17 := x_v.frozen 8
      have i_r_0 := x_r.same (i := 0) rfl
      have i_r_1 := x_r.same (i := 1) rfl
      have i_r_2 := x_r.same (i := 2) rfl
      have i_r_3 := x_r.same (i := 3) rfl
      have i_r_4 := x_r.same (i := 4) rfl
      have i_r_5 := x_r.same (i := 5) rfl
      have i_r_6 := x_r.same (i := 6) rfl
      have i_r_7 := x_r.same (i := 7) rfl
      have i_r_8 := x_r.same (i := 8) rfl
      have HF : Hid (bytesRecB zs = false) := by show _ = _; unfold bytesRecB; rw [HR2.out]; rfl
      have HF2 : Hid (bytesRec zs = recZ) := by show _ = _; unfold bytesRec; rw [HF.out]; rfl
      go_wp2
      refine ret_cell_tmp (by rfl) (by rfl) x_r Try.underlying29 sz_rec (by rfl) ?_
      rw [HF.out, HF2.out]
      exact ⟨_, rfl, ov_rec (d := recZ) (Nat.le_refl _), B_w17⟩
    obtain rfl : bm = false := by simpa using hff
    clear hff
    by_cases hko : ok = true
    case neg =>
      obtain rfl : ok = false := by simpa using hko
      clear hko
      have c_r_0_w17 := x_r.cell (i := 0) rfl
      have f_r_0_w17 := x_r.frozen 0
      have c_r_1_w17 := x_r.cell (i := 1) rfl
      have f_r_1_w17 := x_r.frozen 1
      have c_r_2_w17 := x_r.cell (i := 2) rfl
      have f_r_2_w17 := x_r.frozen 2
      have c_r_3_w17 := x_r.cell (i := 3) rfl
      have f_r_3_w17 := x_r.frozen 3
      have c_r_4_w17 := x_r.cell (i := 4) rfl
      have f_r_4_w17 := x_r.frozen 4
      have c_r_5_w17 := x_r.cell (i := 5) rfl
      have f_r_5_w17 := x_r.frozen 5
      have c_r_6_w17 := x_r.cell (i := 6) rfl
      have f_r_6_w17 := x_r.frozen 6
      have c_r_7_w17 := x_r.cell (i := 7) rfl
      have f_r_7_w17 := x_r.frozen 7
      have c_r_8_w17 := x_r.cell (i := 8) rfl
      have f_r_8_w17 := x_r.frozen 8
      have c_R_0_w17 := x_R.cell (i := 0) rfl
      have f_R_0_w17 := x_R.frozen 0
      have c_R_1_w17 := x_R.cell (i := 1) rfl
      have f_R_1_w17 := x_R.frozen 1
      have c_R_2_w17 := x_R.cell (i := 2) rfl
      have f_R_2_w17 := x_R.frozen 2
      have c_v_0_w17 := x_v.cell (i := 0) rfl
      have f_v_0_w17 := x_v.frozen 0
      have c_v_1_w17 := x_v.cell (i := 1) rfl
      have f_v_1_w17 := x_v.frozen 1
      have c_v_2_w17 := x_v.cell (i := 2) rfl
      have f_v_2_w17 := x_v.frozen 2
      have c_v_3_w17 := x_v.cell (i := 3) rfl
      have f_v_3_w17 := x_v.frozen 3
      have c_v_4_w17 := x_v.cell (i := 4) rfl
      have f_v_4_w17 := x_v.frozen 4
      have c_v_5_w17 := x_v.cell (i := 5) rfl
      have f_v_5_w17 := x_v.frozen 5
      have c_v_6_w17 := x_v.cell (i := 6) rfl
      have f_v_6_w17 := x_v.frozen 6
      have c_v_7_w17 := x_v.cell (i := 7) rfl
      have f_v_7_w17 := x_v.frozen 7
      have c_v_8_w17 := x_v.cell (i := 8) rfl
      have f_v_8_w17 := x_v.frozen 8
      have i_r_0 := x_r.same (i := 0) rfl
      have i_r_1 := x_r.same (i := 1) rfl
      have i_r_2 := x_r.same (i := 2) rfl
      have i_r_3 := x_r.same (i := 3) rfl
      have i_r_4 := x_r.same (i := 4) rfl
      have i_r_5 := x_r.same (i := 5) rfl
      have i_r_6 := x_r.same (i := 6) rfl
      have i_r_7 := x_r.same (i := 7) rfl
      have i_r_8 := x_r.same (i := 8) rfl
      have HF : Hid (bytesRecB zs = false) := by show _ = _; unfold bytesRecB; rw [HR2.out]; show (!false && (recOkB _ && _)) = _; rw [HOK.out]; rfl
      have HF2 : Hid (bytesRec zs = recZ) := by show _ = _; unfold bytesRec; rw [HF.out]; rfl
      go_wp2
      refine ret_cell_tmp (by rfl) (by rfl) x_r Try.underlying29 sz_rec (by rfl) ?_
      rw [HF.out, HF2.out]
      exact ⟨_, rfl, ov_rec (d := recZ) (Nat.le_refl _), B_w17⟩
    subst hko
    by_cases hqq : bs = zs
    case neg =>
      have HQ := Lib.hid (decide_eq_false hqq)
      clear hqq
      have c_r_0_w17 := x_r.cell (i := 0) rfl
      have f_r_0_w17 := x_r.frozen 0
      have c_r_1_w17 := x_r.cell (i := 1) rfl
      have f_r_1_w17 := x_r.frozen 1
      have c_r_2_w17 := x_r.cell (i := 2) rfl
      have f_r_2_w17 := x_r.frozen 2
      have c_r_3_w17 := x_r.cell (i := 3) rfl
      have f_r_3_w17 := x_r.frozen 3
      have c_r_4_w17 := x_r.cell (i := 4) rfl
      have f_r_4_w17 := x_r.frozen 4
      have c_r_5_w17 := x_r.cell (i := 5) rfl
      have f_r_5_w17 := x_r.frozen 5
      have c_r_6_w17 := x_r.cell (i := 6) rfl
      have f_r_6_w17 := x_r.frozen 6
      have c_r_7_w17 := x_r.cell (i := 7) rfl
      have f_r_7_w17 := x_r.frozen 7
      have c_r_8_w17 := x_r.cell (i := 8) rfl
      have f_r_8_w17 := x_r.frozen 8
      have c_R_0_w17 := x_R.cell (i := 0) rfl
      have f_R_0_w17 := x_R.frozen 0
      have c_R_1_w17 := x_R.cell (i := 1) rfl
      have f_R_1_w17 := x_R.frozen 1
      have c_R_2_w17 := x_R.cell (i := 2) rfl
      have f_R_2_w17 := x_R.frozen 2
      have c_v_0_w17 := x_v.cell (i := 0) rfl
      have f_v_0_w17 := x_v.frozen 0
      have c_v_1_w17 := x_v.cell (i := 1) rfl
      have f_v_1_w17 := x_v.frozen 1
      have c_v_2_w17 := x_v.cell (i := 2) rfl
      have f_v_2_w17 := x_v.frozen 2
      have c_v_3_w17 := x_v.cell (i := 3) rfl
      have f_v_3_w17 := x_v.frozen 3
      have c_v_4_w17 := x_v.cell (i := 4) rfl
      have f_v_4_w17 := x_v.frozen 4
      have c_v_5_w17 := x_v.cell (i := 5) rfl
      have f_v_5_w17 := x_v.frozen 5
      have c_v_6_w17 := x_v.cell (i := 6) rfl
      have f_v_6_w17 := x_v.frozen 6
      have c_v_7_w17 := x_v.cell (i := 7) rfl
      have f_v_7_w17 := x_v.frozen 7
      have c_v_8_w17 := x_v.cell (i := 8) rfl
      have f_v_8_w17 := x_v.frozen 8
      have i_r_0 := x_r.same (i := 0) rfl
      have i_r_1 := x_r.same (i := 1) rfl
      have i_r_2 := x_r.same (i := 2) rfl
      have i_r_3 := x_r.same (i := 3) rfl
      have i_r_4 := x_r.same (i := 4) rfl
      have i_r_5 := x_r.same (i := 5) rfl
      have i_r_6 := x_r.same (i := 6) rfl
      have i_r_7 := x_r.same (i := 7) rfl
      have i_r_8 := x_r.same (i := 8) rfl
      go_wp2_with fail
      refine (sSameBytes_b o_b.rd (h.from_ B_w17) bbs hb).mono ?_
      rintro e w18 ⟨rfl, h_w18⟩
      clear c_r_0_w17 f_r_0_w17 c_r_1_w17 f_r_1_w17 c_r_2_w17 f_r_2_w17 c_r_3_w17 f_r_3_w17 c_r_4_w17 f_r_4_w17 c_r_5_w17 f_r_5_w17 c_r_6_w17 f_r_6_w17 c_r_7_w17 f_r_7_w17 c_r_8_w17 f_r_8_w17 c_R_0_w17 f_R_0_w17 c_R_1_w17 f_R_1_w17 c_R_2_w17 f_R_2_w17 c_v_0_w17 f_v_0_w17 c_v_1_w17 f_v_1_w17 c_v_2_w17 f_v_2_w17 c_v_3_w17 f_v_3_w17 c_v_4_w17 f_v_4_w17 c_v_5_w17 f_v_5_w17 c_v_6_w17 f_v_6_w17 c_v_7_w17 f_v_7_w17 c_v_8_w17 f_v_8_w17
      replace x_r := x_r.from_ h_w18
      replace x_R := x_R.from_ h_w18
      replace x_v := x_v.from_ h_w18
      replace o_b := o_b.below h_w18
      have B_w18 := B_w17.trans (h_w18.mono B_w17.size)
      have s_w18 := h_w18.size
      rw [HQ.out]
      have c_r_0_w18 := x_r.cell (i := 0) rfl
      have f_r_0_w18 := x_r.frozen 0
      have c_r_1_w18 := x_r.cell (i := 1) rfl
      have f_r_1_w18 := x_r.frozen 1
      have c_r_2_w18 := x_r.cell (i := 2) rfl
      have f_r_2_w18 := x_r.frozen 2
      have c_r_3_w18 := x_r.cell (i := 3) rfl
      have f_r_3_w18 := x_r.frozen 3
      have c_r_4_w18 := x_r.cell (i := 4) rfl
      have f_r_4_w18 := x_r.frozen 4
      have c_r_5_w18 := x_r.cell (i := 5) rfl
      have f_r_5_w18 := x_r.frozen 5
      have c_r_6_w18 := x_r.cell (i := 6) rfl
      have f_r_6_w18 := x_r.frozen 6
      have c_r_7_w18 := x_r.cell (i := 7) rfl
      have f_r_7_w18 := x_r.frozen 7
      have c_r_8_w18 := x_r.cell (i := 8) rfl
      have f_r_8_w18 := x_r.frozen 8
      have c_R_0_w18 := x_R.cell (i := 0) rfl
      have f_R_0_w18 := x_R.frozen 0
      have c_R_1_w18 := x_R.cell (i := 1) rfl
      have f_R_1_w18 := x_R.frozen 1
      have c_R_2_w18 := x_R.cell (i := 2) rfl
      have f_R_2_w18 := x_R.frozen 2
      have c_v_0_w18 := x_v.cell (i := 0) rfl
      have f_v_0_w18 := x_v.frozen 0
      have c_v_1_w18 := x_v.cell (i := 1) rfl
      have f_v_1_w18 := x_v.frozen 1
      have c_v_2_w18 := x_v.cell (i := 2) rfl
      have f_v_2_w18 := x_v.frozen 2
      have c_v_3_w18 := x_v.cell (i := 3) rfl
      have f_v_3_w18 := x_v.frozen 3
      have c_v_4_w18 := x_v.cell (i := 4) rfl
      have f_v_4_w18 := x_v.frozen 4
      have c_v_5_w18 := x_v.cell (i := 5) rfl
      have f_v_5_w18 := x_v.frozen 5
      have c_v_6_w18 := x_v.cell (i := 6) rfl
      have f_v_6_w18 := x_v.frozen 6
      have c_v_7_w18 := x_v.cell (i := 7) rfl
      have f_v_7_w18 := x_v.frozen 7
      have c_v_8_w18 := x_v.cell (i := 8) rfl
      have f_v_8_w18 := x_v.frozen 8
      have i_r_0 := x_r.same (i := 0) rfl
      have i_r_1 := x_r.same (i := 1) rfl
      have i_r_2 := x_r.same (i := 2) rfl
      have i_r_3 := x_r.same (i := 3) rfl
      have i_r_4 := x_r.same (i := 4) rfl
      have i_r_5 := x_r.same (i := 5) rfl
      have i_r_6 := x_r.same (i := 6) rfl
      have i_r_7 := x_r.same (i := 7) rfl
      have i_r_8 := x_r.same (i := 8) rfl
      have HF : Hid (bytesRecB zs = false) := by show _ = _; unfold bytesRecB; rw [HR2.out]; show (!false && (recOkB _ && decide (recBytes _ = zs))) = _; rw [HOK.out, HBS.out, HQ.out]; rfl
      have HF2 : Hid (bytesRec zs = recZ) := by show _ = _; unfold bytesRec; rw [HF.out]; rfl
      go_wp2
      refine ret_cell_tmp (by rfl) (by rfl) x_r Try.underlying29 sz_rec (by rfl) ?_
      rw [HF.out, HF2.out]
      exact ⟨_, rfl, ov_rec (d := recZ) (Nat.le_refl _), B_w18⟩
    have HQ := Lib.hid (decide_eq_true hqq)
    clear hqq
    have c_r_0_w17 := x_r.cell (i := 0) rfl
    have f_r_0_w17 := x_r.frozen 0
    have c_r_1_w17 := x_r.cell (i := 1) rfl
    have f_r_1_w17 := x_r.frozen 1
    have c_r_2_w17 := x_r.cell (i := 2) rfl
    have f_r_2_w17 := x_r.frozen 2
    have c_r_3_w17 := x_r.cell (i := 3) rfl
    have f_r_3_w17 := x_r.frozen 3
    have c_r_4_w17 := x_r.cell (i := 4) rfl
    have f_r_4_w17 := x_r.frozen 4
    have c_r_5_w17 := x_r.cell (i := 5) rfl
    have f_r_5_w17 := x_r.frozen 5
    have c_r_6_w17 := x_r.cell (i := 6) rfl
    have f_r_6_w17 := x_r.frozen 6
    have c_r_7_w17 := x_r.cell (i := 7) rfl
    have f_r_7_w17 := x_r.frozen 7
    have c_r_8_w17 := x_r.cell (i := 8) rfl
    have f_r_8_w17 := x_r.frozen 8
    have c_R_0_w17 := x_R.cell (i := 0) rfl
    have f_R_0_w17 := x_R.frozen 0
    have c_R_1_w17 := x_R.cell (i := 1) rfl
    have f_R_1_w17 := x_R.frozen 1
    have c_R_2_w17 := x_R.cell (i := 2) rfl
    have f_R_2_w17 := x_R.frozen 2
    have c_v_0_w17 := x_v.cell (i := 0) rfl
    have f_v_0_w17 := x_v.frozen 0
    have c_v_1_w17 := x_v.cell (i := 1) rfl
    have f_v_1_w17 := x_v.frozen 1
    have c_v_2_w17 := x_v.cell (i := 2) rfl
    have f_v_2_w17 := x_v.frozen 2
    have c_v_3_w17 := x_v.cell (i := 3) rfl
    have f_v_3_w17 := x_v.frozen 3
    have c_v_4_w17 := x_v.cell (i := 4) rfl
    have f_v_4_w17 := x_v.frozen 4
    have c_v_5_w17 := x_v.cell (i := 5) rfl
    have f_v_5_w17 := x_v.frozen 5
    have c_v_6_w17 := x_v.cell (i := 6) rfl
    have f_v_6_w17 := x_v.frozen 6
    have c_v_7_w17 := x_v.cell (i := 7) rfl
    have f_v_7_w17 := x_v.frozen 7
    have c_v_8_w17 := x_v.cell (i := 8) rfl
    have f_v_8_w17 := x_v.frozen 8
    go_wp2_with fail
    refine (sSameBytes_b o_b.rd (h.from_ B_w17) bbs hb).mono ?_
    rintro e w18 ⟨rfl, h_w18⟩
    clear c_r_0_w17 f_r_0_w17 c_r_1_w17 f_r_1_w17 c_r_2_w17 f_r_2_w17 c_r_3_w17 f_r_3_w17 c_r_4_w17 f_r_4_w17 c_r_5_w17 f_r_5_w17 c_r_6_w17 f_r_6_w17 c_r_7_w17 f_r_7_w17 c_r_8_w17 f_r_8_w17 c_R_0_w17 f_R_0_w17 c_R_1_w17 f_R_1_w17 c_R_2_w17 f_R_2_w17 c_v_0_w17 f_v_0_w17 c_v_1_w17 f_v_1_w17 c_v_2_w17 f_v_2_w17 c_v_3_w17 f_v_3_w17 c_v_4_w17 f_v_4_w17 c_v_5_w17 f_v_5_w17 c_v_6_w17 f_v_6_w17 c_v_7_w17 f_v_7_w17 c_v_8_w17 f_v_8_w17
    replace x_r := x_r.from_ h_w18
    replace x_R := x_R.from_ h_w18
    replace x_v := x_v.from_ h_w18
    replace o_b := o_b.below h_w18
    have B_w18 := B_w17.trans (h_w18.mono B_w17.size)
    have s_w18 := h_w18.size
    rw [HQ.out]
    have c_r_0_w18 := x_r.cell (i := 0) rfl
    have f_r_0_w18 := x_r.frozen 0
    have c_r_1_w18 := x_r.cell (i := 1) rfl
    have f_r_1_w18 := x_r.frozen 1
    have c_r_2_w18 := x_r.cell (i := 2) rfl
    have f_r_2_w18 := x_r.frozen 2
    have c_r_3_w18 := x_r.cell (i := 3) rfl
    have f_r_3_w18 := x_r.frozen 3
    have c_r_4_w18 := x_r.cell (i := 4) rfl
    have f_r_4_w18 := x_r.frozen 4
    have c_r_5_w18 := x_r.cell (i := 5) rfl
    have f_r_5_w18 := x_r.frozen 5
    have c_r_6_w18 := x_r.cell (i := 6) rfl
    have f_r_6_w18 := x_r.frozen 6
    have c_r_7_w18 := x_r.cell (i := 7) rfl
    have f_r_7_w18 := x_r.frozen 7
    have c_r_8_w18 := x_r.cell (i := 8) rfl
    have f_r_8_w18 := x_r.frozen 8
    have c_R_0_w18 := x_R.cell (i := 0) rfl
    have f_R_0_w18 := x_R.frozen 0
    have c_R_1_w18 := x_R.cell (i := 1) rfl
    have f_R_1_w18 := x_R.frozen 1
    have c_R_2_w18 := x_R.cell (i := 2) rfl
    have f_R_2_w18 := x_R.frozen 2
    have c_v_0_w18 := x_v.cell (i := 0) rfl
    have f_v_0_w18 := x_v.frozen 0
    have c_v_1_w18 := x_v.cell (i := 1) rfl
    have f_v_1_w18 := x_v.frozen 1
    have c_v_2_w18 := x_v.cell (i := 2) rfl
    have f_v_2_w18 := x_v.frozen 2
    have c_v_3_w18 := x_v.cell (i := 3) rfl
    have f_v_3_w18 := x_v.frozen 3
    have c_v_4_w18 := x_v.cell (i := 4) rfl
    have f_v_4_w18 := x_v.frozen 4
    have c_v_5_w18 := x_v.cell (i := 5) rfl
    have f_v_5_w18 := x_v.frozen 5
    have c_v_6_w18 := x_v.cell (i := 6) rfl
    have f_v_6_w18 := x_v.frozen 6
    have c_v_7_w18 := x_v.cell (i := 7) rfl
    have f_v_7_w18 := x_v.frozen 7
    have c_v_8_w18 := x_v.cell (i := 8) rfl
    have f_v_8_w18 := x_v.frozen 8
    have HF : Hid (bytesRecB zs = true) := by show _ = _; unfold bytesRecB; rw [HR2.out]; show (!false && (recOkB _ && decide (recBytes _ = zs))) = _; rw [HOK.out, HBS.out, HQ.out]; rfl
    have HF2 : Hid (bytesRec zs = ⟨n1, n2, n3, n4, n5, m⟩) := by show _ = _; unfold bytesRec; rw [HF.out, HR2.out]; rfl
    obtain ⟨w19, e_w19, s_w19, h_w19, y⟩ := store_step x_r [.int .i64 n1, .int .i64 n2, .int .i64 n3, .int .i64 n4, .int .i64 n5, .int .i64 m.Kind, .int .i64 m.Acct, .int .i64 m.Amt, .int .i64 m.Src] rfl
    replace e_w19 : (((((((((w18.setCell ⟨w.heap.size, 0, none⟩ (.int .i64 n1)).setCell ⟨w.heap.size, 1, none⟩ (.int .i64 n2)).setCell ⟨w.heap.size, 2, none⟩ (.int .i64 n3)).setCell ⟨w.heap.size, 3, none⟩ (.int .i64 n4)).setCell ⟨w.heap.size, 4, none⟩ (.int .i64 n5)).setCell ⟨w.heap.size, 5, none⟩ (.int .i64 m.Kind)).setCell ⟨w.heap.size, 6, none⟩ (.int .i64 m.Acct)).setCell ⟨w.heap.size, 7, none⟩ (.int .i64 m.Amt)).setCell ⟨w.heap.size, 8, none⟩ (.int .i64 m.Src)) = w19 := e_w19
    have s_w19_1 := Nat.le_of_eq s_w19
    have s_w19_2 := Nat.le_of_eq s_w19.symm
    clear s_w19
    replace x_R := x_R.chg h_w19 (by omega)
    replace x_v := x_v.chg h_w19 (by omega)
    replace o_b := o_b.chg h_w19 (by omega)
    have B_w19 := Below.chg_ B_w18 h_w19 (by omega) (by omega)
    replace x_r : Vr w19 (w.heap.size) 29 [.int .i64 n1, .int .i64 n2, .int .i64 n3, .int .i64 n4, .int .i64 n5, .int .i64 m.Kind, .int .i64 m.Acct, .int .i64 m.Amt, .int .i64 m.Src] := y
    clear y
    have c_r_0_w19 := x_r.cell (i := 0) rfl
    have f_r_0_w19 := x_r.frozen 0
    have c_r_1_w19 := x_r.cell (i := 1) rfl
    have f_r_1_w19 := x_r.frozen 1
    have c_r_2_w19 := x_r.cell (i := 2) rfl
    have f_r_2_w19 := x_r.frozen 2
    have c_r_3_w19 := x_r.cell (i := 3) rfl
    have f_r_3_w19 := x_r.frozen 3
    have c_r_4_w19 := x_r.cell (i := 4) rfl
    have f_r_4_w19 := x_r.frozen 4
    have c_r_5_w19 := x_r.cell (i := 5) rfl
    have f_r_5_w19 := x_r.frozen 5
    have c_r_6_w19 := x_r.cell (i := 6) rfl
    have f_r_6_w19 := x_r.frozen 6
    have c_r_7_w19 := x_r.cell (i := 7) rfl
    have f_r_7_w19 := x_r.frozen 7
    have c_r_8_w19 := x_r.cell (i := 8) rfl
    have f_r_8_w19 := x_r.frozen 8
    go_wp2
    refine ret_cell_tmp (by rfl) (by rfl) x_r Try.underlying29 sz_rec (by rfl) ?_
    rw [HF.out, HF2.out]
    exact ⟨_, rfl, ov_rec (d := ⟨n1, n2, n3, n4, n5, m⟩) (Nat.le_refl _), B_w19⟩
  have t5 : (n1 == 5) = false := by simpa using e5
  have HR2 : Hid (recRd zs = (⟨n1, n2, n3, n4, n5, ⟨0, 0, 0, 0⟩⟩, b5)) := by show _ = _; rw [HR.out, if_neg e5]
  clear e5 HR
  go_enter Try.func15, Try.ntmps15
  go_wp2_with fail
  refine (sGet_c x_R ((hr.below B_w1).more hle) hb hm hz0).mono ?_
  rintro e w2 ⟨rfl, y, h_w2⟩
  clear c_r_0_wa f_r_0_wa c_r_1_wa f_r_1_wa c_r_2_wa f_r_2_wa c_r_3_wa f_r_3_wa c_r_4_wa f_r_4_wa c_r_5_wa f_r_5_wa c_r_6_wa f_r_6_wa c_r_7_wa f_r_7_wa c_r_8_wa f_r_8_wa i_w1_2 i_w1_1 c_r_0_w1 f_r_0_w1 c_r_1_w1 f_r_1_w1 c_r_2_w1 f_r_2_w1 c_r_3_w1 f_r_3_w1 c_r_4_w1 f_r_4_w1 c_r_5_w1 f_r_5_w1 c_r_6_w1 f_r_6_w1 c_r_7_w1 f_r_7_w1 c_r_8_w1 f_r_8_w1 c_R_0_w1 f_R_0_w1 c_R_1_w1 f_R_1_w1 c_R_2_w1 f_R_2_w1
  replace x_r := x_r.chg h_w2 (by omega)
  have B_w2 := Below.chg_ B_w1 h_w2 (by omega) (by omega)
  have s_w2 := h_w2.size
  rw [HP1.out, HB1.out] at y
  rw [HN1.out]
  replace x_R := y
  clear y
  have c_r_0_w2 := x_r.cell (i := 0) rfl
  have f_r_0_w2 := x_r.frozen 0
  have c_r_1_w2 := x_r.cell (i := 1) rfl
  have f_r_1_w2 := x_r.frozen 1
  have c_r_2_w2 := x_r.cell (i := 2) rfl
  have f_r_2_w2 := x_r.frozen 2
  have c_r_3_w2 := x_r.cell (i := 3) rfl
  have f_r_3_w2 := x_r.frozen 3
  have c_r_4_w2 := x_r.cell (i := 4) rfl
  have f_r_4_w2 := x_r.frozen 4
  have c_r_5_w2 := x_r.cell (i := 5) rfl
  have f_r_5_w2 := x_r.frozen 5
  have c_r_6_w2 := x_r.cell (i := 6) rfl
  have f_r_6_w2 := x_r.frozen 6
  have c_r_7_w2 := x_r.cell (i := 7) rfl
  have f_r_7_w2 := x_r.frozen 7
  have c_r_8_w2 := x_r.cell (i := 8) rfl
  have f_r_8_w2 := x_r.frozen 8
  have c_R_0_w2 := x_R.cell (i := 0) rfl
  have f_R_0_w2 := x_R.frozen 0
  have c_R_1_w2 := x_R.cell (i := 1) rfl
  have f_R_1_w2 := x_R.frozen 1
  have c_R_2_w2 := x_R.cell (i := 2) rfl
  have f_R_2_w2 := x_R.frozen 2
  obtain ⟨w3, e_w3, s_w3, h_w3, x_v⟩ := alloc_step w2 29 [.int .i64 n1, .int .i64 0, .int .i64 0, .int .i64 0, .int .i64 0, .int .i64 0, .int .i64 0, .int .i64 0, .int .i64 0]
  have s_w3_1 := Nat.le_of_eq s_w3
  have s_w3_2 := Nat.le_of_eq s_w3.symm
  clear s_w3
  replace x_r := x_r.from_ h_w3
  replace x_R := x_R.from_ h_w3
  have B_w3 := B_w2.trans (h_w3.mono B_w2.size)
  have i_w3_8 := x_v.same (i := 8) rfl
  have i_w3_7 := x_v.same (i := 7) rfl
  have i_w3_6 := x_v.same (i := 6) rfl
  have i_w3_5 := x_v.same (i := 5) rfl
  have i_w3_4 := x_v.same (i := 4) rfl
  have i_w3_3 := x_v.same (i := 3) rfl
  have i_w3_2 := x_v.same (i := 2) rfl
  have i_w3_1 := x_v.same (i := 1) rfl
  have c_r_0_w3 := x_r.cell (i := 0) rfl
  have f_r_0_w3 := x_r.frozen 0
  have c_r_1_w3 := x_r.cell (i := 1) rfl
  have f_r_1_w3 := x_r.frozen 1
  have c_r_2_w3 := x_r.cell (i := 2) rfl
  have f_r_2_w3 := x_r.frozen 2
  have c_r_3_w3 := x_r.cell (i := 3) rfl
  have f_r_3_w3 := x_r.frozen 3
  have c_r_4_w3 := x_r.cell (i := 4) rfl
  have f_r_4_w3 := x_r.frozen 4
  have c_r_5_w3 := x_r.cell (i := 5) rfl
  have f_r_5_w3 := x_r.frozen 5
  have c_r_6_w3 := x_r.cell (i := 6) rfl
  have f_r_6_w3 := x_r.frozen 6
  have c_r_7_w3 := x_r.cell (i := 7) rfl
  have f_r_7_w3 := x_r.frozen 7
  have c_r_8_w3 := x_r.cell (i := 8) rfl
  have f_r_8_w3 := x_r.frozen 8
  have c_R_0_w3 := x_R.cell (i := 0) rfl
  have f_R_0_w3 := x_R.frozen 0
  have c_R_1_w3 := x_R.cell (i := 1) rfl
  have f_R_1_w3 := x_R.frozen 1
  have c_R_2_w3 := x_R.cell (i := 2) rfl
  have f_R_2_w3 := x_R.frozen 2
  have c_v_0_w3 := x_v.cell (i := 0) rfl
  have f_v_0_w3 := x_v.frozen 0
  have c_v_1_w3 := x_v.cell (i := 1) rfl
  have f_v_1_w3 := x_v.frozen 1
  have c_v_2_w3 := x_v.cell (i := 2) rfl
  have f_v_2_w3 := x_v.frozen 2
  have c_v_3_w3 := x_v.cell (i := 3) rfl
  have f_v_3_w3 := x_v.frozen 3
  have c_v_4_w3 := x_v.cell (i := 4) rfl
  have f_v_4_w3 := x_v.frozen 4
  have c_v_5_w3 := x_v.cell (i := 5) rfl
  have f_v_5_w3 := x_v.frozen 5
  have c_v_6_w3 := x_v.cell (i := 6) rfl
  have f_v_6_w3 := x_v.frozen 6
  have c_v_7_w3 := x_v.cell (i := 7) rfl
  have f_v_7_w3 := x_v.frozen 7
  have c_v_8_w3 := x_v.cell (i := 8) rfl
  have f_v_8_w3 := x_v.frozen 8
  go_wp2_with fail
  refine (sGet_c x_R ((hr.below B_w3).more hle) hb hm g1.2).mono ?_
  rintro e w4 ⟨rfl, y, h_w4⟩
  clear c_r_0_w2 f_r_0_w2 c_r_1_w2 f_r_1_w2 c_r_2_w2 f_r_2_w2 c_r_3_w2 f_r_3_w2 c_r_4_w2 f_r_4_w2 c_r_5_w2 f_r_5_w2 c_r_6_w2 f_r_6_w2 c_r_7_w2 f_r_7_w2 c_r_8_w2 f_r_8_w2 c_R_0_w2 f_R_0_w2 c_R_1_w2 f_R_1_w2 c_R_2_w2 f_R_2_w2 i_w3_8 i_w3_7 i_w3_6 i_w3_5 i_w3_4 i_w3_3 i_w3_2 i_w3_1 c_r_0_w3 f_r_0_w3 c_r_1_w3 f_r_1_w3 c_r_2_w3 f_r_2_w3 c_r_3_w3 f_r_3_w3 c_r_4_w3 f_r_4_w3 c_r_5_w3 f_r_5_w3 c_r_6_w3 f_r_6_w3 c_r_7_w3 f_r_7_w3 c_r_8_w3 f_r_8_w3 c_R_0_w3 f_R_0_w3 c_R_1_w3 f_R_1_w3 c_R_2_w3 f_R_2_w3 c_v_0_w3 f_v_0_w3 c_v_1_w3 f_v_1_w3 c_v_2_w3 f_v_2_w3 c_v_3_w3 f_v_3_w3 c_v_4_w3 f_v_4_w3 c_v_5_w3 f_v_5_w3 c_v_6_w3 f_v_6_w3 c_v_7_w3 f_v_7_w3 c_v_8_w3 f_v_8_w3
  replace x_r := x_r.chg h_w4 (by omega)
  replace x_v := x_v.chg h_w4 (by omega)
  have B_w4 := Below.chg_ B_w3 h_w4 (by omega) (by omega)
  have s_w4 := h_w4.size
  rw [HP2.out, HB2.out] at y
  rw [HN2.out]
  replace x_R := y
  clear y
  have c_r_0_w4 := x_r.cell (i := 0) rfl
  have f_r_0_w4 := x_r.frozen 0
  have c_r_1_w4 := x_r.cell (i := 1) rfl
  have f_r_1_w4 := x_r.frozen 1
  have c_r_2_w4 := x_r.cell (i := 2) rfl
  have f_r_2_w4 := x_r.frozen 2
  have c_r_3_w4 := x_r.cell (i := 3) rfl
  have f_r_3_w4 := x_r.frozen 3
  have c_r_4_w4 := x_r.cell (i := 4) rfl
  have f_r_4_w4 := x_r.frozen 4
  have c_r_5_w4 := x_r.cell (i := 5) rfl
  have f_r_5_w4 := x_r.frozen 5
  have c_r_6_w4 := x_r.cell (i := 6) rfl
  have f_r_6_w4 := x_r.frozen 6
  have c_r_7_w4 := x_r.cell (i := 7) rfl
  have f_r_7_w4 := x_r.frozen 7
  have c_r_8_w4 := x_r.cell (i := 8) rfl
  have f_r_8_w4 := x_r.frozen 8
  have c_R_0_w4 := x_R.cell (i := 0) rfl
  have f_R_0_w4 := x_R.frozen 0
  have c_R_1_w4 := x_R.cell (i := 1) rfl
  have f_R_1_w4 := x_R.frozen 1
  have c_R_2_w4 := x_R.cell (i := 2) rfl
  have f_R_2_w4 := x_R.frozen 2
  have c_v_0_w4 := x_v.cell (i := 0) rfl
  have f_v_0_w4 := x_v.frozen 0
  have c_v_1_w4 := x_v.cell (i := 1) rfl
  have f_v_1_w4 := x_v.frozen 1
  have c_v_2_w4 := x_v.cell (i := 2) rfl
  have f_v_2_w4 := x_v.frozen 2
  have c_v_3_w4 := x_v.cell (i := 3) rfl
  have f_v_3_w4 := x_v.frozen 3
  have c_v_4_w4 := x_v.cell (i := 4) rfl
  have f_v_4_w4 := x_v.frozen 4
  have c_v_5_w4 := x_v.cell (i := 5) rfl
  have f_v_5_w4 := x_v.frozen 5
  have c_v_6_w4 := x_v.cell (i := 6) rfl
  have f_v_6_w4 := x_v.frozen 6
  have c_v_7_w4 := x_v.cell (i := 7) rfl
  have f_v_7_w4 := x_v.frozen 7
  have c_v_8_w4 := x_v.cell (i := 8) rfl
  have f_v_8_w4 := x_v.frozen 8
  obtain ⟨w5, e_w5, s_w5, h_w5, y⟩ := set_step x_v 1 (.int .i64 n2)
  have s_w5_1 := Nat.le_of_eq s_w5
  have s_w5_2 := Nat.le_of_eq s_w5.symm
  clear s_w5
  replace x_r := x_r.chg h_w5 (by omega)
  replace x_R := x_R.chg h_w5 (by omega)
  have B_w5 := Below.chg_ B_w4 h_w5 (by omega) (by omega)
  replace x_v : Vr w5 (w2.heap.size) 29 [.int .i64 n1, .int .i64 n2, .int .i64 0, .int .i64 0, .int .i64 0, .int .i64 0, .int .i64 0, .int .i64 0, .int .i64 0] := y
  clear y
  have c_r_0_w5 := x_r.cell (i := 0) rfl
  have f_r_0_w5 := x_r.frozen 0
  have c_r_1_w5 := x_r.cell (i := 1) rfl
  have f_r_1_w5 := x_r.frozen 1
  have c_r_2_w5 := x_r.cell (i := 2) rfl
  have f_r_2_w5 := x_r.frozen 2
  have c_r_3_w5 := x_r.cell (i := 3) rfl
  have f_r_3_w5 := x_r.frozen 3
  have c_r_4_w5 := x_r.cell (i := 4) rfl
  have f_r_4_w5 := x_r.frozen 4
  have c_r_5_w5 := x_r.cell (i := 5) rfl
  have f_r_5_w5 := x_r.frozen 5
  have c_r_6_w5 := x_r.cell (i := 6) rfl
  have f_r_6_w5 := x_r.frozen 6
  have c_r_7_w5 := x_r.cell (i := 7) rfl
  have f_r_7_w5 := x_r.frozen 7
  have c_r_8_w5 := x_r.cell (i := 8) rfl
  have f_r_8_w5 := x_r.frozen 8
  have c_R_0_w5 := x_R.cell (i := 0) rfl
  have f_R_0_w5 := x_R.frozen 0
  have c_R_1_w5 := x_R.cell (i := 1) rfl
  have f_R_1_w5 := x_R.frozen 1
  have c_R_2_w5 := x_R.cell (i := 2) rfl
  have f_R_2_w5 := x_R.frozen 2
  have c_v_0_w5 := x_v.cell (i := 0) rfl
  have f_v_0_w5 := x_v.frozen 0
  have c_v_1_w5 := x_v.cell (i := 1) rfl
  have f_v_1_w5 := x_v.frozen 1
  have c_v_2_w5 := x_v.cell (i := 2) rfl
  have f_v_2_w5 := x_v.frozen 2
  have c_v_3_w5 := x_v.cell (i := 3) rfl
  have f_v_3_w5 := x_v.frozen 3
  have c_v_4_w5 := x_v.cell (i := 4) rfl
  have f_v_4_w5 := x_v.frozen 4
  have c_v_5_w5 := x_v.cell (i := 5) rfl
  have f_v_5_w5 := x_v.frozen 5
  have c_v_6_w5 := x_v.cell (i := 6) rfl
  have f_v_6_w5 := x_v.frozen 6
  have c_v_7_w5 := x_v.cell (i := 7) rfl
  have f_v_7_w5 := x_v.frozen 7
  have c_v_8_w5 := x_v.cell (i := 8) rfl
  have f_v_8_w5 := x_v.frozen 8
  go_wp2_with fail
  refine (sGet_c x_R ((hr.below B_w5).more hle) hb hm g2.2).mono ?_
  rintro e w6 ⟨rfl, y, h_w6⟩
  clear c_r_0_w4 f_r_0_w4 c_r_1_w4 f_r_1_w4 c_r_2_w4 f_r_2_w4 c_r_3_w4 f_r_3_w4 c_r_4_w4 f_r_4_w4 c_r_5_w4 f_r_5_w4 c_r_6_w4 f_r_6_w4 c_r_7_w4 f_r_7_w4 c_r_8_w4 f_r_8_w4 c_R_0_w4 f_R_0_w4 c_R_1_w4 f_R_1_w4 c_R_2_w4 f_R_2_w4 c_v_0_w4 f_v_0_w4 c_v_1_w4 f_v_1_w4 c_v_2_w4 f_v_2_w4 c_v_3_w4 f_v_3_w4 c_v_4_w4 f_v_4_w4 c_v_5_w4 f_v_5_w4 c_v_6_w4 f_v_6_w4 c_v_7_w4 f_v_7_w4 c_v_8_w4 f_v_8_w4 c_r_0_w5 f_r_0_w5 c_r_1_w5 f_r_1_w5 c_r_2_w5 f_r_2_w5 c_r_3_w5 f_r_3_w5 c_r_4_w5 f_r_4_w5 c_r_5_w5 f_r_5_w5 c_r_6_w5 f_r_6_w5 c_r_7_w5 f_r_7_w5 c_r_8_w5 f_r_8_w5 c_R_0_w5 f_R_0_w5 c_R_1_w5 f_R_1_w5 c_R_2_w5 f_R_2_w5 c_v_0_w5 f_v_0_w5 c_v_1_w5 f_v_1_w5 c_v_2_w5 f_v_2_w5 c_v_3_w5 f_v_3_w5 c_v_4_w5 f_v_4_w5 c_v_5_w5 f_v_5_w5 c_v_6_w5 f_v_6_w5 c_v_7_w5 f_v_7_w5 c_v_8_w5 f_v_8_w5
  replace x_r := x_r.chg h_w6 (by omega)
  replace x_v := x_v.chg h_w6 (by omega)
  have B_w6 := Below.chg_ B_w5 h_w6 (by omega) (by omega)
  have s_w6 := h_w6.size
  rw [HP3.out, HB3.out] at y
  rw [HN3.out]
  replace x_R := y
  clear y
  have c_r_0_w6 := x_r.cell (i := 0) rfl
  have f_r_0_w6 := x_r.frozen 0
  have c_r_1_w6 := x_r.cell (i := 1) rfl
  have f_r_1_w6 := x_r.frozen 1
  have c_r_2_w6 := x_r.cell (i := 2) rfl
  have f_r_2_w6 := x_r.frozen 2
  have c_r_3_w6 := x_r.cell (i := 3) rfl
  have f_r_3_w6 := x_r.frozen 3
  have c_r_4_w6 := x_r.cell (i := 4) rfl
  have f_r_4_w6 := x_r.frozen 4
  have c_r_5_w6 := x_r.cell (i := 5) rfl
  have f_r_5_w6 := x_r.frozen 5
  have c_r_6_w6 := x_r.cell (i := 6) rfl
  have f_r_6_w6 := x_r.frozen 6
  have c_r_7_w6 := x_r.cell (i := 7) rfl
  have f_r_7_w6 := x_r.frozen 7
  have c_r_8_w6 := x_r.cell (i := 8) rfl
  have f_r_8_w6 := x_r.frozen 8
  have c_R_0_w6 := x_R.cell (i := 0) rfl
  have f_R_0_w6 := x_R.frozen 0
  have c_R_1_w6 := x_R.cell (i := 1) rfl
  have f_R_1_w6 := x_R.frozen 1
  have c_R_2_w6 := x_R.cell (i := 2) rfl
  have f_R_2_w6 := x_R.frozen 2
  have c_v_0_w6 := x_v.cell (i := 0) rfl
  have f_v_0_w6 := x_v.frozen 0
  have c_v_1_w6 := x_v.cell (i := 1) rfl
  have f_v_1_w6 := x_v.frozen 1
  have c_v_2_w6 := x_v.cell (i := 2) rfl
  have f_v_2_w6 := x_v.frozen 2
  have c_v_3_w6 := x_v.cell (i := 3) rfl
  have f_v_3_w6 := x_v.frozen 3
  have c_v_4_w6 := x_v.cell (i := 4) rfl
  have f_v_4_w6 := x_v.frozen 4
  have c_v_5_w6 := x_v.cell (i := 5) rfl
  have f_v_5_w6 := x_v.frozen 5
  have c_v_6_w6 := x_v.cell (i := 6) rfl
  have f_v_6_w6 := x_v.frozen 6
  have c_v_7_w6 := x_v.cell (i := 7) rfl
  have f_v_7_w6 := x_v.frozen 7
  have c_v_8_w6 := x_v.cell (i := 8) rfl
  have f_v_8_w6 := x_v.frozen 8
  obtain ⟨w7, e_w7, s_w7, h_w7, y⟩ := set_step x_v 2 (.int .i64 n3)
  have s_w7_1 := Nat.le_of_eq s_w7
  have s_w7_2 := Nat.le_of_eq s_w7.symm
  clear s_w7
  replace x_r := x_r.chg h_w7 (by omega)
  replace x_R := x_R.chg h_w7 (by omega)
  have B_w7 := Below.chg_ B_w6 h_w7 (by omega) (by omega)
  replace x_v : Vr w7 (w2.heap.size) 29 [.int .i64 n1, .int .i64 n2, .int .i64 n3, .int .i64 0, .int .i64 0, .int .i64 0, .int .i64 0, .int .i64 0, .int .i64 0] := y
  clear y
  have c_r_0_w7 := x_r.cell (i := 0) rfl
  have f_r_0_w7 := x_r.frozen 0
  have c_r_1_w7 := x_r.cell (i := 1) rfl
  have f_r_1_w7 := x_r.frozen 1
  have c_r_2_w7 := x_r.cell (i := 2) rfl
  have f_r_2_w7 := x_r.frozen 2
  have c_r_3_w7 := x_r.cell (i := 3) rfl
  have f_r_3_w7 := x_r.frozen 3
  have c_r_4_w7 := x_r.cell (i := 4) rfl
  have f_r_4_w7 := x_r.frozen 4
  have c_r_5_w7 := x_r.cell (i := 5) rfl
  have f_r_5_w7 := x_r.frozen 5
  have c_r_6_w7 := x_r.cell (i := 6) rfl
  have f_r_6_w7 := x_r.frozen 6
  have c_r_7_w7 := x_r.cell (i := 7) rfl
  have f_r_7_w7 := x_r.frozen 7
  have c_r_8_w7 := x_r.cell (i := 8) rfl
  have f_r_8_w7 := x_r.frozen 8
  have c_R_0_w7 := x_R.cell (i := 0) rfl
  have f_R_0_w7 := x_R.frozen 0
  have c_R_1_w7 := x_R.cell (i := 1) rfl
  have f_R_1_w7 := x_R.frozen 1
  have c_R_2_w7 := x_R.cell (i := 2) rfl
  have f_R_2_w7 := x_R.frozen 2
  have c_v_0_w7 := x_v.cell (i := 0) rfl
  have f_v_0_w7 := x_v.frozen 0
  have c_v_1_w7 := x_v.cell (i := 1) rfl
  have f_v_1_w7 := x_v.frozen 1
  have c_v_2_w7 := x_v.cell (i := 2) rfl
  have f_v_2_w7 := x_v.frozen 2
  have c_v_3_w7 := x_v.cell (i := 3) rfl
  have f_v_3_w7 := x_v.frozen 3
  have c_v_4_w7 := x_v.cell (i := 4) rfl
  have f_v_4_w7 := x_v.frozen 4
  have c_v_5_w7 := x_v.cell (i := 5) rfl
  have f_v_5_w7 := x_v.frozen 5
  have c_v_6_w7 := x_v.cell (i := 6) rfl
  have f_v_6_w7 := x_v.frozen 6
  have c_v_7_w7 := x_v.cell (i := 7) rfl
  have f_v_7_w7 := x_v.frozen 7
  have c_v_8_w7 := x_v.cell (i := 8) rfl
  have f_v_8_w7 := x_v.frozen 8
  go_wp2_with fail
  refine (sGet_c x_R ((hr.below B_w7).more hle) hb hm g3.2).mono ?_
  rintro e w8 ⟨rfl, y, h_w8⟩
  clear c_r_0_w6 f_r_0_w6 c_r_1_w6 f_r_1_w6 c_r_2_w6 f_r_2_w6 c_r_3_w6 f_r_3_w6 c_r_4_w6 f_r_4_w6 c_r_5_w6 f_r_5_w6 c_r_6_w6 f_r_6_w6 c_r_7_w6 f_r_7_w6 c_r_8_w6 f_r_8_w6 c_R_0_w6 f_R_0_w6 c_R_1_w6 f_R_1_w6 c_R_2_w6 f_R_2_w6 c_v_0_w6 f_v_0_w6 c_v_1_w6 f_v_1_w6 c_v_2_w6 f_v_2_w6 c_v_3_w6 f_v_3_w6 c_v_4_w6 f_v_4_w6 c_v_5_w6 f_v_5_w6 c_v_6_w6 f_v_6_w6 c_v_7_w6 f_v_7_w6 c_v_8_w6 f_v_8_w6 c_r_0_w7 f_r_0_w7 c_r_1_w7 f_r_1_w7 c_r_2_w7 f_r_2_w7 c_r_3_w7 f_r_3_w7 c_r_4_w7 f_r_4_w7 c_r_5_w7 f_r_5_w7 c_r_6_w7 f_r_6_w7 c_r_7_w7 f_r_7_w7 c_r_8_w7 f_r_8_w7 c_R_0_w7 f_R_0_w7 c_R_1_w7 f_R_1_w7 c_R_2_w7 f_R_2_w7 c_v_0_w7 f_v_0_w7 c_v_1_w7 f_v_1_w7 c_v_2_w7 f_v_2_w7 c_v_3_w7 f_v_3_w7 c_v_4_w7 f_v_4_w7 c_v_5_w7 f_v_5_w7 c_v_6_w7 f_v_6_w7 c_v_7_w7 f_v_7_w7 c_v_8_w7 f_v_8_w7
  replace x_r := x_r.chg h_w8 (by omega)
  replace x_v := x_v.chg h_w8 (by omega)
  have B_w8 := Below.chg_ B_w7 h_w8 (by omega) (by omega)
  have s_w8 := h_w8.size
  rw [HP4.out, HB4.out] at y
  rw [HN4.out]
  replace x_R := y
  clear y
  have c_r_0_w8 := x_r.cell (i := 0) rfl
  have f_r_0_w8 := x_r.frozen 0
  have c_r_1_w8 := x_r.cell (i := 1) rfl
  have f_r_1_w8 := x_r.frozen 1
  have c_r_2_w8 := x_r.cell (i := 2) rfl
  have f_r_2_w8 := x_r.frozen 2
  have c_r_3_w8 := x_r.cell (i := 3) rfl
  have f_r_3_w8 := x_r.frozen 3
  have c_r_4_w8 := x_r.cell (i := 4) rfl
  have f_r_4_w8 := x_r.frozen 4
  have c_r_5_w8 := x_r.cell (i := 5) rfl
  have f_r_5_w8 := x_r.frozen 5
  have c_r_6_w8 := x_r.cell (i := 6) rfl
  have f_r_6_w8 := x_r.frozen 6
  have c_r_7_w8 := x_r.cell (i := 7) rfl
  have f_r_7_w8 := x_r.frozen 7
  have c_r_8_w8 := x_r.cell (i := 8) rfl
  have f_r_8_w8 := x_r.frozen 8
  have c_R_0_w8 := x_R.cell (i := 0) rfl
  have f_R_0_w8 := x_R.frozen 0
  have c_R_1_w8 := x_R.cell (i := 1) rfl
  have f_R_1_w8 := x_R.frozen 1
  have c_R_2_w8 := x_R.cell (i := 2) rfl
  have f_R_2_w8 := x_R.frozen 2
  have c_v_0_w8 := x_v.cell (i := 0) rfl
  have f_v_0_w8 := x_v.frozen 0
  have c_v_1_w8 := x_v.cell (i := 1) rfl
  have f_v_1_w8 := x_v.frozen 1
  have c_v_2_w8 := x_v.cell (i := 2) rfl
  have f_v_2_w8 := x_v.frozen 2
  have c_v_3_w8 := x_v.cell (i := 3) rfl
  have f_v_3_w8 := x_v.frozen 3
  have c_v_4_w8 := x_v.cell (i := 4) rfl
  have f_v_4_w8 := x_v.frozen 4
  have c_v_5_w8 := x_v.cell (i := 5) rfl
  have f_v_5_w8 := x_v.frozen 5
  have c_v_6_w8 := x_v.cell (i := 6) rfl
  have f_v_6_w8 := x_v.frozen 6
  have c_v_7_w8 := x_v.cell (i := 7) rfl
  have f_v_7_w8 := x_v.frozen 7
  have c_v_8_w8 := x_v.cell (i := 8) rfl
  have f_v_8_w8 := x_v.frozen 8
  obtain ⟨w9, e_w9, s_w9, h_w9, y⟩ := set_step x_v 3 (.int .i64 n4)
  have s_w9_1 := Nat.le_of_eq s_w9
  have s_w9_2 := Nat.le_of_eq s_w9.symm
  clear s_w9
  replace x_r := x_r.chg h_w9 (by omega)
  replace x_R := x_R.chg h_w9 (by omega)
  have B_w9 := Below.chg_ B_w8 h_w9 (by omega) (by omega)
  replace x_v : Vr w9 (w2.heap.size) 29 [.int .i64 n1, .int .i64 n2, .int .i64 n3, .int .i64 n4, .int .i64 0, .int .i64 0, .int .i64 0, .int .i64 0, .int .i64 0] := y
  clear y
  have c_r_0_w9 := x_r.cell (i := 0) rfl
  have f_r_0_w9 := x_r.frozen 0
  have c_r_1_w9 := x_r.cell (i := 1) rfl
  have f_r_1_w9 := x_r.frozen 1
  have c_r_2_w9 := x_r.cell (i := 2) rfl
  have f_r_2_w9 := x_r.frozen 2
  have c_r_3_w9 := x_r.cell (i := 3) rfl
  have f_r_3_w9 := x_r.frozen 3
  have c_r_4_w9 := x_r.cell (i := 4) rfl
  have f_r_4_w9 := x_r.frozen 4
  have c_r_5_w9 := x_r.cell (i := 5) rfl
  have f_r_5_w9 := x_r.frozen 5
  have c_r_6_w9 := x_r.cell (i := 6) rfl
  have f_r_6_w9 := x_r.frozen 6
  have c_r_7_w9 := x_r.cell (i := 7) rfl
  have f_r_7_w9 := x_r.frozen 7
  have c_r_8_w9 := x_r.cell (i := 8) rfl
  have f_r_8_w9 := x_r.frozen 8
  have c_R_0_w9 := x_R.cell (i := 0) rfl
  have f_R_0_w9 := x_R.frozen 0
  have c_R_1_w9 := x_R.cell (i := 1) rfl
  have f_R_1_w9 := x_R.frozen 1
  have c_R_2_w9 := x_R.cell (i := 2) rfl
  have f_R_2_w9 := x_R.frozen 2
  have c_v_0_w9 := x_v.cell (i := 0) rfl
  have f_v_0_w9 := x_v.frozen 0
  have c_v_1_w9 := x_v.cell (i := 1) rfl
  have f_v_1_w9 := x_v.frozen 1
  have c_v_2_w9 := x_v.cell (i := 2) rfl
  have f_v_2_w9 := x_v.frozen 2
  have c_v_3_w9 := x_v.cell (i := 3) rfl
  have f_v_3_w9 := x_v.frozen 3
  have c_v_4_w9 := x_v.cell (i := 4) rfl
  have f_v_4_w9 := x_v.frozen 4
  have c_v_5_w9 := x_v.cell (i := 5) rfl
  have f_v_5_w9 := x_v.frozen 5
  have c_v_6_w9 := x_v.cell (i := 6) rfl
  have f_v_6_w9 := x_v.frozen 6
  have c_v_7_w9 := x_v.cell (i := 7) rfl
  have f_v_7_w9 := x_v.frozen 7
  have c_v_8_w9 := x_v.cell (i := 8) rfl
  have f_v_8_w9 := x_v.frozen 8
  go_wp2_with fail
  refine (sGet_c x_R ((hr.below B_w9).more hle) hb hm g4.2).mono ?_
  rintro e w10 ⟨rfl, y, h_w10⟩
  clear c_r_0_w8 f_r_0_w8 c_r_1_w8 f_r_1_w8 c_r_2_w8 f_r_2_w8 c_r_3_w8 f_r_3_w8 c_r_4_w8 f_r_4_w8 c_r_5_w8 f_r_5_w8 c_r_6_w8 f_r_6_w8 c_r_7_w8 f_r_7_w8 c_r_8_w8 f_r_8_w8 c_R_0_w8 f_R_0_w8 c_R_1_w8 f_R_1_w8 c_R_2_w8 f_R_2_w8 c_v_0_w8 f_v_0_w8 c_v_1_w8 f_v_1_w8 c_v_2_w8 f_v_2_w8 c_v_3_w8 f_v_3_w8 c_v_4_w8 f_v_4_w8 c_v_5_w8 f_v_5_w8 c_v_6_w8 f_v_6_w8 c_v_7_w8 f_v_7_w8 c_v_8_w8 f_v_8_w8 c_r_0_w9 f_r_0_w9 c_r_1_w9 f_r_1_w9 c_r_2_w9 f_r_2_w9 c_r_3_w9 f_r_3_w9 c_r_4_w9 f_r_4_w9 c_r_5_w9 f_r_5_w9 c_r_6_w9 f_r_6_w9 c_r_7_w9 f_r_7_w9 c_r_8_w9 f_r_8_w9 c_R_0_w9 f_R_0_w9 c_R_1_w9 f_R_1_w9 c_R_2_w9 f_R_2_w9 c_v_0_w9 f_v_0_w9 c_v_1_w9 f_v_1_w9 c_v_2_w9 f_v_2_w9 c_v_3_w9 f_v_3_w9 c_v_4_w9 f_v_4_w9 c_v_5_w9 f_v_5_w9 c_v_6_w9 f_v_6_w9 c_v_7_w9 f_v_7_w9 c_v_8_w9 f_v_8_w9
  replace x_r := x_r.chg h_w10 (by omega)
  replace x_v := x_v.chg h_w10 (by omega)
  have B_w10 := Below.chg_ B_w9 h_w10 (by omega) (by omega)
  have s_w10 := h_w10.size
  rw [HP5.out, HB5.out] at y
  rw [HN5.out]
  replace x_R := y
  clear y
  have c_r_0_w10 := x_r.cell (i := 0) rfl
  have f_r_0_w10 := x_r.frozen 0
  have c_r_1_w10 := x_r.cell (i := 1) rfl
  have f_r_1_w10 := x_r.frozen 1
  have c_r_2_w10 := x_r.cell (i := 2) rfl
  have f_r_2_w10 := x_r.frozen 2
  have c_r_3_w10 := x_r.cell (i := 3) rfl
  have f_r_3_w10 := x_r.frozen 3
  have c_r_4_w10 := x_r.cell (i := 4) rfl
  have f_r_4_w10 := x_r.frozen 4
  have c_r_5_w10 := x_r.cell (i := 5) rfl
  have f_r_5_w10 := x_r.frozen 5
  have c_r_6_w10 := x_r.cell (i := 6) rfl
  have f_r_6_w10 := x_r.frozen 6
  have c_r_7_w10 := x_r.cell (i := 7) rfl
  have f_r_7_w10 := x_r.frozen 7
  have c_r_8_w10 := x_r.cell (i := 8) rfl
  have f_r_8_w10 := x_r.frozen 8
  have c_R_0_w10 := x_R.cell (i := 0) rfl
  have f_R_0_w10 := x_R.frozen 0
  have c_R_1_w10 := x_R.cell (i := 1) rfl
  have f_R_1_w10 := x_R.frozen 1
  have c_R_2_w10 := x_R.cell (i := 2) rfl
  have f_R_2_w10 := x_R.frozen 2
  have c_v_0_w10 := x_v.cell (i := 0) rfl
  have f_v_0_w10 := x_v.frozen 0
  have c_v_1_w10 := x_v.cell (i := 1) rfl
  have f_v_1_w10 := x_v.frozen 1
  have c_v_2_w10 := x_v.cell (i := 2) rfl
  have f_v_2_w10 := x_v.frozen 2
  have c_v_3_w10 := x_v.cell (i := 3) rfl
  have f_v_3_w10 := x_v.frozen 3
  have c_v_4_w10 := x_v.cell (i := 4) rfl
  have f_v_4_w10 := x_v.frozen 4
  have c_v_5_w10 := x_v.cell (i := 5) rfl
  have f_v_5_w10 := x_v.frozen 5
  have c_v_6_w10 := x_v.cell (i := 6) rfl
  have f_v_6_w10 := x_v.frozen 6
  have c_v_7_w10 := x_v.cell (i := 7) rfl
  have f_v_7_w10 := x_v.frozen 7
  have c_v_8_w10 := x_v.cell (i := 8) rfl
  have f_v_8_w10 := x_v.frozen 8
  obtain ⟨w11, e_w11, s_w11, h_w11, y⟩ := set_step x_v 4 (.int .i64 n5)
  have s_w11_1 := Nat.le_of_eq s_w11
  have s_w11_2 := Nat.le_of_eq s_w11.symm
  clear s_w11
  replace x_r := x_r.chg h_w11 (by omega)
  replace x_R := x_R.chg h_w11 (by omega)
  have B_w11 := Below.chg_ B_w10 h_w11 (by omega) (by omega)
  replace x_v : Vr w11 (w2.heap.size) 29 [.int .i64 n1, .int .i64 n2, .int .i64 n3, .int .i64 n4, .int .i64 n5, .int .i64 0, .int .i64 0, .int .i64 0, .int .i64 0] := y
  clear y
  have c_r_0_w11 := x_r.cell (i := 0) rfl
  have f_r_0_w11 := x_r.frozen 0
  have c_r_1_w11 := x_r.cell (i := 1) rfl
  have f_r_1_w11 := x_r.frozen 1
  have c_r_2_w11 := x_r.cell (i := 2) rfl
  have f_r_2_w11 := x_r.frozen 2
  have c_r_3_w11 := x_r.cell (i := 3) rfl
  have f_r_3_w11 := x_r.frozen 3
  have c_r_4_w11 := x_r.cell (i := 4) rfl
  have f_r_4_w11 := x_r.frozen 4
  have c_r_5_w11 := x_r.cell (i := 5) rfl
  have f_r_5_w11 := x_r.frozen 5
  have c_r_6_w11 := x_r.cell (i := 6) rfl
  have f_r_6_w11 := x_r.frozen 6
  have c_r_7_w11 := x_r.cell (i := 7) rfl
  have f_r_7_w11 := x_r.frozen 7
  have c_r_8_w11 := x_r.cell (i := 8) rfl
  have f_r_8_w11 := x_r.frozen 8
  have c_R_0_w11 := x_R.cell (i := 0) rfl
  have f_R_0_w11 := x_R.frozen 0
  have c_R_1_w11 := x_R.cell (i := 1) rfl
  have f_R_1_w11 := x_R.frozen 1
  have c_R_2_w11 := x_R.cell (i := 2) rfl
  have f_R_2_w11 := x_R.frozen 2
  have c_v_0_w11 := x_v.cell (i := 0) rfl
  have f_v_0_w11 := x_v.frozen 0
  have c_v_1_w11 := x_v.cell (i := 1) rfl
  have f_v_1_w11 := x_v.frozen 1
  have c_v_2_w11 := x_v.cell (i := 2) rfl
  have f_v_2_w11 := x_v.frozen 2
  have c_v_3_w11 := x_v.cell (i := 3) rfl
  have f_v_3_w11 := x_v.frozen 3
  have c_v_4_w11 := x_v.cell (i := 4) rfl
  have f_v_4_w11 := x_v.frozen 4
  have c_v_5_w11 := x_v.cell (i := 5) rfl
  have f_v_5_w11 := x_v.frozen 5
  have c_v_6_w11 := x_v.cell (i := 6) rfl
  have f_v_6_w11 := x_v.frozen 6
  have c_v_7_w11 := x_v.cell (i := 7) rfl
  have f_v_7_w11 := x_v.frozen 7
  have c_v_8_w11 := x_v.cell (i := 8) rfl
  have f_v_8_w11 := x_v.frozen 8
  have rv : RV recL w11 (.agg #[.int .i64 n1, .int .i64 n2, .int .i64 n3, .int .i64 n4, .int .i64 n5, .int .i64 0, .int .i64 0, .int .i64 0, .int .i64 0]) ⟨n1, n2, n3, n4, n5, ⟨0, 0, 0, 0⟩⟩ := rv_rec_mk (zM := ⟨0, 0, 0, 0⟩)
  obtain ⟨ok, hok⟩ : ∃ b, recOkB ⟨n1, n2, n3, n4, n5, ⟨0, 0, 0, 0⟩⟩ = b := ⟨_, rfl⟩
  have HOK := Lib.hid hok
  clear hok
  obtain ⟨bs, hbs⟩ : ∃ b, recBytes ⟨n1, n2, n3, n4, n5, ⟨0, 0, 0, 0⟩⟩ = b := ⟨_, rfl⟩
  have bbs : Bytes bs := by rw [← hbs]; exact recBytes_bytes _
  have HBS := Lib.hid hbs
  clear hbs
  go_wp2_with fail
  refine (sRecBytes_c rv).mono ?_
  rintro e w12 ⟨vb, rfl, o_b, h_w12⟩
  clear c_r_0_w10 f_r_0_w10 c_r_1_w10 f_r_1_w10 c_r_2_w10 f_r_2_w10 c_r_3_w10 f_r_3_w10 c_r_4_w10 f_r_4_w10 c_r_5_w10 f_r_5_w10 c_r_6_w10 f_r_6_w10 c_r_7_w10 f_r_7_w10 c_r_8_w10 f_r_8_w10 c_R_0_w10 f_R_0_w10 c_R_1_w10 f_R_1_w10 c_R_2_w10 f_R_2_w10 c_v_0_w10 f_v_0_w10 c_v_1_w10 f_v_1_w10 c_v_2_w10 f_v_2_w10 c_v_3_w10 f_v_3_w10 c_v_4_w10 f_v_4_w10 c_v_5_w10 f_v_5_w10 c_v_6_w10 f_v_6_w10 c_v_7_w10 f_v_7_w10 c_v_8_w10 f_v_8_w10 c_r_0_w11 f_r_0_w11 c_r_1_w11 f_r_1_w11 c_r_2_w11 f_r_2_w11 c_r_3_w11 f_r_3_w11 c_r_4_w11 f_r_4_w11 c_r_5_w11 f_r_5_w11 c_r_6_w11 f_r_6_w11 c_r_7_w11 f_r_7_w11 c_r_8_w11 f_r_8_w11 c_R_0_w11 f_R_0_w11 c_R_1_w11 f_R_1_w11 c_R_2_w11 f_R_2_w11 c_v_0_w11 f_v_0_w11 c_v_1_w11 f_v_1_w11 c_v_2_w11 f_v_2_w11 c_v_3_w11 f_v_3_w11 c_v_4_w11 f_v_4_w11 c_v_5_w11 f_v_5_w11 c_v_6_w11 f_v_6_w11 c_v_7_w11 f_v_7_w11 c_v_8_w11 f_v_8_w11
  replace x_r := x_r.from_ h_w12
  replace x_R := x_R.from_ h_w12
  replace x_v := x_v.from_ h_w12
  have B_w12 := B_w11.trans (h_w12.mono B_w11.size)
  have s_w12 := h_w12.size
  clear rv
  rw [HBS.out] at o_b
  rw [HOK.out]
  obtain ⟨Ab, cb, rfl, -, -, -⟩ := o_b.rd
  by_cases hff : b5 = true
  case pos =>
    subst hff
    have c_r_0_w12 := x_r.cell (i := 0) rfl
    have f_r_0_w12 := x_r.frozen 0
    have c_r_1_w12 := x_r.cell (i := 1) rfl
    have f_r_1_w12 := x_r.frozen 1
    have c_r_2_w12 := x_r.cell (i := 2) rfl
    have f_r_2_w12 := x_r.frozen 2
    have c_r_3_w12 := x_r.cell (i := 3) rfl
    have f_r_3_w12 := x_r.frozen 3
    have c_r_4_w12 := x_r.cell (i := 4) rfl
    have f_r_4_w12 := x_r.frozen 4
    have c_r_5_w12 := x_r.cell (i := 5) rfl
    have f_r_5_w12 := x_r.frozen 5
    have c_r_6_w12 := x_r.cell (i := 6) rfl
    have f_r_6_w12 := x_r.frozen 6
    have c_r_7_w12 := x_r.cell (i := 7) rfl
    have f_r_7_w12 := x_r.frozen 7
    have c_r_8_w12 := x_r.cell (i := 8) rfl
    have f_r_8_w12 := x_r.frozen 8
    have c_R_0_w12 := x_R.cell (i := 0) rfl
    have f_R_0_w12 := x_R.frozen 0
    have c_R_1_w12 := x_R.cell (i := 1) rfl
    have f_R_1_w12 := x_R.frozen 1
    have c_R_2_w12 := x_R.cell (i := 2) rfl
    have f_R_2_w12 := x_R.frozen 2
    have c_v_0_w12 := x_v.cell (i := 0) rfl
    have f_v_0_w12 := x_v.frozen 0
    have c_v_1_w12 := x_v.cell (i := 1) rfl
    have f_v_1_w12 := x_v.frozen 1
    have c_v_2_w12 := x_v.cell (i := 2) rfl
    have f_v_2_w12 := x_v.frozen 2
    have c_v_3_w12 := x_v.cell (i := 3) rfl
    have f_v_3_w12 := x_v.frozen 3
    have c_v_4_w12 := x_v.cell (i := 4) rfl
    have f_v_4_w12 := x_v.frozen 4
    have c_v_5_w12 := x_v.cell (i := 5) rfl
    have f_v_5_w12 := x_v.frozen 5
    have c_v_6_w12 := x_v.cell (i := 6) rfl
    have f_v_6_w12 := x_v.frozen 6
    have c_v_7_w12 := x_v.cell (i := 7) rfl
    have f_v_7_w12 := x_v.frozen 7
    have c_v_8_w12 := x_v.cell (i := 8) rfl
    have f_v_8_w12 := x_v.frozen 8
    have i_r_0 := x_r.same (i := 0) rfl
    have i_r_1 := x_r.same (i := 1) rfl
    have i_r_2 := x_r.same (i := 2) rfl
    have i_r_3 := x_r.same (i := 3) rfl
    have i_r_4 := x_r.same (i := 4) rfl
    have i_r_5 := x_r.same (i := 5) rfl
    have i_r_6 := x_r.same (i := 6) rfl
    have i_r_7 := x_r.same (i := 7) rfl
    have i_r_8 := x_r.same (i := 8) rfl
    have HF : Hid (bytesRecB zs = false) := by show _ = _; unfold bytesRecB; rw [HR2.out]; rfl
    have HF2 : Hid (bytesRec zs = recZ) := by show _ = _; unfold bytesRec; rw [HF.out]; rfl
    go_wp2
    refine ret_cell_tmp (by rfl) (by rfl) x_r Try.underlying29 sz_rec (by rfl) ?_
    rw [HF.out, HF2.out]
    exact ⟨_, rfl, ov_rec (d := recZ) (Nat.le_refl _), B_w12⟩
  obtain rfl : b5 = false := by simpa using hff
  clear hff
  by_cases hko : ok = true
  case neg =>
    obtain rfl : ok = false := by simpa using hko
    clear hko
    have c_r_0_w12 := x_r.cell (i := 0) rfl
    have f_r_0_w12 := x_r.frozen 0
    have c_r_1_w12 := x_r.cell (i := 1) rfl
    have f_r_1_w12 := x_r.frozen 1
    have c_r_2_w12 := x_r.cell (i := 2) rfl
    have f_r_2_w12 := x_r.frozen 2
    have c_r_3_w12 := x_r.cell (i := 3) rfl
    have f_r_3_w12 := x_r.frozen 3
    have c_r_4_w12 := x_r.cell (i := 4) rfl
    have f_r_4_w12 := x_r.frozen 4
    have c_r_5_w12 := x_r.cell (i := 5) rfl
    have f_r_5_w12 := x_r.frozen 5
    have c_r_6_w12 := x_r.cell (i := 6) rfl
    have f_r_6_w12 := x_r.frozen 6
    have c_r_7_w12 := x_r.cell (i := 7) rfl
    have f_r_7_w12 := x_r.frozen 7
    have c_r_8_w12 := x_r.cell (i := 8) rfl
    have f_r_8_w12 := x_r.frozen 8
    have c_R_0_w12 := x_R.cell (i := 0) rfl
    have f_R_0_w12 := x_R.frozen 0
    have c_R_1_w12 := x_R.cell (i := 1) rfl
    have f_R_1_w12 := x_R.frozen 1
    have c_R_2_w12 := x_R.cell (i := 2) rfl
    have f_R_2_w12 := x_R.frozen 2
    have c_v_0_w12 := x_v.cell (i := 0) rfl
    have f_v_0_w12 := x_v.frozen 0
    have c_v_1_w12 := x_v.cell (i := 1) rfl
    have f_v_1_w12 := x_v.frozen 1
    have c_v_2_w12 := x_v.cell (i := 2) rfl
    have f_v_2_w12 := x_v.frozen 2
    have c_v_3_w12 := x_v.cell (i := 3) rfl
    have f_v_3_w12 := x_v.frozen 3
    have c_v_4_w12 := x_v.cell (i := 4) rfl
    have f_v_4_w12 := x_v.frozen 4
    have c_v_5_w12 := x_v.cell (i := 5) rfl
    have f_v_5_w12 := x_v.frozen 5
    have c_v_6_w12 := x_v.cell (i := 6) rfl
    have f_v_6_w12 := x_v.frozen 6
    have c_v_7_w12 := x_v.cell (i := 7) rfl
    have f_v_7_w12 := x_v.frozen 7
    have c_v_8_w12 := x_v.cell (i := 8) rfl
    have f_v_8_w12 := x_v.frozen 8
    have i_r_0 := x_r.same (i := 0) rfl
    have i_r_1 := x_r.same (i := 1) rfl
    have i_r_2 := x_r.same (i := 2) rfl
    have i_r_3 := x_r.same (i := 3) rfl
    have i_r_4 := x_r.same (i := 4) rfl
    have i_r_5 := x_r.same (i := 5) rfl
    have i_r_6 := x_r.same (i := 6) rfl
    have i_r_7 := x_r.same (i := 7) rfl
    have i_r_8 := x_r.same (i := 8) rfl
    have HF : Hid (bytesRecB zs = false) := by show _ = _; unfold bytesRecB; rw [HR2.out]; show (!false && (recOkB _ && _)) = _; rw [HOK.out]; rfl
    have HF2 : Hid (bytesRec zs = recZ) := by show _ = _; unfold bytesRec; rw [HF.out]; rfl
    go_wp2
    refine ret_cell_tmp (by rfl) (by rfl) x_r Try.underlying29 sz_rec (by rfl) ?_
    rw [HF.out, HF2.out]
    exact ⟨_, rfl, ov_rec (d := recZ) (Nat.le_refl _), B_w12⟩
  subst hko
  by_cases hqq : bs = zs
  case neg =>
    have HQ := Lib.hid (decide_eq_false hqq)
    clear hqq
    have c_r_0_w12 := x_r.cell (i := 0) rfl
    have f_r_0_w12 := x_r.frozen 0
    have c_r_1_w12 := x_r.cell (i := 1) rfl
    have f_r_1_w12 := x_r.frozen 1
    have c_r_2_w12 := x_r.cell (i := 2) rfl
    have f_r_2_w12 := x_r.frozen 2
    have c_r_3_w12 := x_r.cell (i := 3) rfl
    have f_r_3_w12 := x_r.frozen 3
    have c_r_4_w12 := x_r.cell (i := 4) rfl
    have f_r_4_w12 := x_r.frozen 4
    have c_r_5_w12 := x_r.cell (i := 5) rfl
    have f_r_5_w12 := x_r.frozen 5
    have c_r_6_w12 := x_r.cell (i := 6) rfl
    have f_r_6_w12 := x_r.frozen 6
    have c_r_7_w12 := x_r.cell (i := 7) rfl
    have f_r_7_w12 := x_r.frozen 7
    have c_r_8_w12 := x_r.cell (i := 8) rfl
    have f_r_8_w12 := x_r.frozen 8
    have c_R_0_w12 := x_R.cell (i := 0) rfl
    have f_R_0_w12 := x_R.frozen 0
    have c_R_1_w12 := x_R.cell (i := 1) rfl
    have f_R_1_w12 := x_R.frozen 1
    have c_R_2_w12 := x_R.cell (i := 2) rfl
    have f_R_2_w12 := x_R.frozen 2
    have c_v_0_w12 := x_v.cell (i := 0) rfl
    have f_v_0_w12 := x_v.frozen 0
    have c_v_1_w12 := x_v.cell (i := 1) rfl
    have f_v_1_w12 := x_v.frozen 1
    have c_v_2_w12 := x_v.cell (i := 2) rfl
    have f_v_2_w12 := x_v.frozen 2
    have c_v_3_w12 := x_v.cell (i := 3) rfl
    have f_v_3_w12 := x_v.frozen 3
    have c_v_4_w12 := x_v.cell (i := 4) rfl
    have f_v_4_w12 := x_v.frozen 4
    have c_v_5_w12 := x_v.cell (i := 5) rfl
    have f_v_5_w12 := x_v.frozen 5
    have c_v_6_w12 := x_v.cell (i := 6) rfl
    have f_v_6_w12 := x_v.frozen 6
    have c_v_7_w12 := x_v.cell (i := 7) rfl
    have f_v_7_w12 := x_v.frozen 7
    have c_v_8_w12 := x_v.cell (i := 8) rfl
    have f_v_8_w12 := x_v.frozen 8
    have i_r_0 := x_r.same (i := 0) rfl
    have i_r_1 := x_r.same (i := 1) rfl
    have i_r_2 := x_r.same (i := 2) rfl
    have i_r_3 := x_r.same (i := 3) rfl
    have i_r_4 := x_r.same (i := 4) rfl
    have i_r_5 := x_r.same (i := 5) rfl
    have i_r_6 := x_r.same (i := 6) rfl
    have i_r_7 := x_r.same (i := 7) rfl
    have i_r_8 := x_r.same (i := 8) rfl
    go_wp2_with fail
    refine (sSameBytes_b o_b.rd (h.from_ B_w12) bbs hb).mono ?_
    rintro e w13 ⟨rfl, h_w13⟩
    clear c_r_0_w12 f_r_0_w12 c_r_1_w12 f_r_1_w12 c_r_2_w12 f_r_2_w12 c_r_3_w12 f_r_3_w12 c_r_4_w12 f_r_4_w12 c_r_5_w12 f_r_5_w12 c_r_6_w12 f_r_6_w12 c_r_7_w12 f_r_7_w12 c_r_8_w12 f_r_8_w12 c_R_0_w12 f_R_0_w12 c_R_1_w12 f_R_1_w12 c_R_2_w12 f_R_2_w12 c_v_0_w12 f_v_0_w12 c_v_1_w12 f_v_1_w12 c_v_2_w12 f_v_2_w12 c_v_3_w12 f_v_3_w12 c_v_4_w12 f_v_4_w12 c_v_5_w12 f_v_5_w12 c_v_6_w12 f_v_6_w12 c_v_7_w12 f_v_7_w12 c_v_8_w12 f_v_8_w12
    replace x_r := x_r.from_ h_w13
    replace x_R := x_R.from_ h_w13
    replace x_v := x_v.from_ h_w13
    replace o_b := o_b.below h_w13
    have B_w13 := B_w12.trans (h_w13.mono B_w12.size)
    have s_w13 := h_w13.size
    rw [HQ.out]
    have c_r_0_w13 := x_r.cell (i := 0) rfl
    have f_r_0_w13 := x_r.frozen 0
    have c_r_1_w13 := x_r.cell (i := 1) rfl
    have f_r_1_w13 := x_r.frozen 1
    have c_r_2_w13 := x_r.cell (i := 2) rfl
    have f_r_2_w13 := x_r.frozen 2
    have c_r_3_w13 := x_r.cell (i := 3) rfl
    have f_r_3_w13 := x_r.frozen 3
    have c_r_4_w13 := x_r.cell (i := 4) rfl
    have f_r_4_w13 := x_r.frozen 4
    have c_r_5_w13 := x_r.cell (i := 5) rfl
    have f_r_5_w13 := x_r.frozen 5
    have c_r_6_w13 := x_r.cell (i := 6) rfl
    have f_r_6_w13 := x_r.frozen 6
    have c_r_7_w13 := x_r.cell (i := 7) rfl
    have f_r_7_w13 := x_r.frozen 7
    have c_r_8_w13 := x_r.cell (i := 8) rfl
    have f_r_8_w13 := x_r.frozen 8
    have c_R_0_w13 := x_R.cell (i := 0) rfl
    have f_R_0_w13 := x_R.frozen 0
    have c_R_1_w13 := x_R.cell (i := 1) rfl
    have f_R_1_w13 := x_R.frozen 1
    have c_R_2_w13 := x_R.cell (i := 2) rfl
    have f_R_2_w13 := x_R.frozen 2
    have c_v_0_w13 := x_v.cell (i := 0) rfl
    have f_v_0_w13 := x_v.frozen 0
    have c_v_1_w13 := x_v.cell (i := 1) rfl
    have f_v_1_w13 := x_v.frozen 1
    have c_v_2_w13 := x_v.cell (i := 2) rfl
    have f_v_2_w13 := x_v.frozen 2
    have c_v_3_w13 := x_v.cell (i := 3) rfl
    have f_v_3_w13 := x_v.frozen 3
    have c_v_4_w13 := x_v.cell (i := 4) rfl
    have f_v_4_w13 := x_v.frozen 4
    have c_v_5_w13 := x_v.cell (i := 5) rfl
    have f_v_5_w13 := x_v.frozen 5
    have c_v_6_w13 := x_v.cell (i := 6) rfl
    have f_v_6_w13 := x_v.frozen 6
    have c_v_7_w13 := x_v.cell (i := 7) rfl
    have f_v_7_w13 := x_v.frozen 7
    have c_v_8_w13 := x_v.cell (i := 8) rfl
    have f_v_8_w13 := x_v.frozen 8
    have i_r_0 := x_r.same (i := 0) rfl
    have i_r_1 := x_r.same (i := 1) rfl
    have i_r_2 := x_r.same (i := 2) rfl
    have i_r_3 := x_r.same (i := 3) rfl
    have i_r_4 := x_r.same (i := 4) rfl
    have i_r_5 := x_r.same (i := 5) rfl
    have i_r_6 := x_r.same (i := 6) rfl
    have i_r_7 := x_r.same (i := 7) rfl
    have i_r_8 := x_r.same (i := 8) rfl
    have HF : Hid (bytesRecB zs = false) := by show _ = _; unfold bytesRecB; rw [HR2.out]; show (!false && (recOkB _ && decide (recBytes _ = zs))) = _; rw [HOK.out, HBS.out, HQ.out]; rfl
    have HF2 : Hid (bytesRec zs = recZ) := by show _ = _; unfold bytesRec; rw [HF.out]; rfl
    go_wp2
    refine ret_cell_tmp (by rfl) (by rfl) x_r Try.underlying29 sz_rec (by rfl) ?_
    rw [HF.out, HF2.out]
    exact ⟨_, rfl, ov_rec (d := recZ) (Nat.le_refl _), B_w13⟩
  have HQ := Lib.hid (decide_eq_true hqq)
  clear hqq
  have c_r_0_w12 := x_r.cell (i := 0) rfl
  have f_r_0_w12 := x_r.frozen 0
  have c_r_1_w12 := x_r.cell (i := 1) rfl
  have f_r_1_w12 := x_r.frozen 1
  have c_r_2_w12 := x_r.cell (i := 2) rfl
  have f_r_2_w12 := x_r.frozen 2
  have c_r_3_w12 := x_r.cell (i := 3) rfl
  have f_r_3_w12 := x_r.frozen 3
  have c_r_4_w12 := x_r.cell (i := 4) rfl
  have f_r_4_w12 := x_r.frozen 4
  have c_r_5_w12 := x_r.cell (i := 5) rfl
  have f_r_5_w12 := x_r.frozen 5
  have c_r_6_w12 := x_r.cell (i := 6) rfl
  have f_r_6_w12 := x_r.frozen 6
  have c_r_7_w12 := x_r.cell (i := 7) rfl
  have f_r_7_w12 := x_r.frozen 7
  have c_r_8_w12 := x_r.cell (i := 8) rfl
  have f_r_8_w12 := x_r.frozen 8
  have c_R_0_w12 := x_R.cell (i := 0) rfl
  have f_R_0_w12 := x_R.frozen 0
  have c_R_1_w12 := x_R.cell (i := 1) rfl
  have f_R_1_w12 := x_R.frozen 1
  have c_R_2_w12 := x_R.cell (i := 2) rfl
  have f_R_2_w12 := x_R.frozen 2
  have c_v_0_w12 := x_v.cell (i := 0) rfl
  have f_v_0_w12 := x_v.frozen 0
  have c_v_1_w12 := x_v.cell (i := 1) rfl
  have f_v_1_w12 := x_v.frozen 1
  have c_v_2_w12 := x_v.cell (i := 2) rfl
  have f_v_2_w12 := x_v.frozen 2
  have c_v_3_w12 := x_v.cell (i := 3) rfl
  have f_v_3_w12 := x_v.frozen 3
  have c_v_4_w12 := x_v.cell (i := 4) rfl
  have f_v_4_w12 := x_v.frozen 4
  have c_v_5_w12 := x_v.cell (i := 5) rfl
  have f_v_5_w12 := x_v.frozen 5
  have c_v_6_w12 := x_v.cell (i := 6) rfl
  have f_v_6_w12 := x_v.frozen 6
  have c_v_7_w12 := x_v.cell (i := 7) rfl
  have f_v_7_w12 := x_v.frozen 7
  have c_v_8_w12 := x_v.cell (i := 8) rfl
  have f_v_8_w12 := x_v.frozen 8
  go_wp2_with fail
  refine (sSameBytes_b o_b.rd (h.from_ B_w12) bbs hb).mono ?_
  rintro e w13 ⟨rfl, h_w13⟩
  clear c_r_0_w12 f_r_0_w12 c_r_1_w12 f_r_1_w12 c_r_2_w12 f_r_2_w12 c_r_3_w12 f_r_3_w12 c_r_4_w12 f_r_4_w12 c_r_5_w12 f_r_5_w12 c_r_6_w12 f_r_6_w12 c_r_7_w12 f_r_7_w12 c_r_8_w12 f_r_8_w12 c_R_0_w12 f_R_0_w12 c_R_1_w12 f_R_1_w12 c_R_2_w12 f_R_2_w12 c_v_0_w12 f_v_0_w12 c_v_1_w12 f_v_1_w12 c_v_2_w12 f_v_2_w12 c_v_3_w12 f_v_3_w12 c_v_4_w12 f_v_4_w12 c_v_5_w12 f_v_5_w12 c_v_6_w12 f_v_6_w12 c_v_7_w12 f_v_7_w12 c_v_8_w12 f_v_8_w12
  replace x_r := x_r.from_ h_w13
  replace x_R := x_R.from_ h_w13
  replace x_v := x_v.from_ h_w13
  replace o_b := o_b.below h_w13
  have B_w13 := B_w12.trans (h_w13.mono B_w12.size)
  have s_w13 := h_w13.size
  rw [HQ.out]
  have c_r_0_w13 := x_r.cell (i := 0) rfl
  have f_r_0_w13 := x_r.frozen 0
  have c_r_1_w13 := x_r.cell (i := 1) rfl
  have f_r_1_w13 := x_r.frozen 1
  have c_r_2_w13 := x_r.cell (i := 2) rfl
  have f_r_2_w13 := x_r.frozen 2
  have c_r_3_w13 := x_r.cell (i := 3) rfl
  have f_r_3_w13 := x_r.frozen 3
  have c_r_4_w13 := x_r.cell (i := 4) rfl
  have f_r_4_w13 := x_r.frozen 4
  have c_r_5_w13 := x_r.cell (i := 5) rfl
  have f_r_5_w13 := x_r.frozen 5
  have c_r_6_w13 := x_r.cell (i := 6) rfl
  have f_r_6_w13 := x_r.frozen 6
  have c_r_7_w13 := x_r.cell (i := 7) rfl
  have f_r_7_w13 := x_r.frozen 7
  have c_r_8_w13 := x_r.cell (i := 8) rfl
  have f_r_8_w13 := x_r.frozen 8
  have c_R_0_w13 := x_R.cell (i := 0) rfl
  have f_R_0_w13 := x_R.frozen 0
  have c_R_1_w13 := x_R.cell (i := 1) rfl
  have f_R_1_w13 := x_R.frozen 1
  have c_R_2_w13 := x_R.cell (i := 2) rfl
  have f_R_2_w13 := x_R.frozen 2
  have c_v_0_w13 := x_v.cell (i := 0) rfl
  have f_v_0_w13 := x_v.frozen 0
  have c_v_1_w13 := x_v.cell (i := 1) rfl
  have f_v_1_w13 := x_v.frozen 1
  have c_v_2_w13 := x_v.cell (i := 2) rfl
  have f_v_2_w13 := x_v.frozen 2
  have c_v_3_w13 := x_v.cell (i := 3) rfl
  have f_v_3_w13 := x_v.frozen 3
  have c_v_4_w13 := x_v.cell (i := 4) rfl
  have f_v_4_w13 := x_v.frozen 4
  have c_v_5_w13 := x_v.cell (i := 5) rfl
  have f_v_5_w13 := x_v.frozen 5
  have c_v_6_w13 := x_v.cell (i := 6) rfl
  have f_v_6_w13 := x_v.frozen 6
  have c_v_7_w13 := x_v.cell (i := 7) rfl
  have f_v_7_w13 := x_v.frozen 7
  have c_v_8_w13 := x_v.cell (i := 8) rfl
  have f_v_8_w13 := x_v.frozen 8
  have HF : Hid (bytesRecB zs = true) := by show _ = _; unfold bytesRecB; rw [HR2.out]; show (!false && (recOkB _ && decide (recBytes _ = zs))) = _; rw [HOK.out, HBS.out, HQ.out]; rfl
  have HF2 : Hid (bytesRec zs = ⟨n1, n2, n3, n4, n5, ⟨0, 0, 0, 0⟩⟩) := by show _ = _; unfold bytesRec; rw [HF.out, HR2.out]; rfl
  obtain ⟨w14, e_w14, s_w14, h_w14, y⟩ := store_step x_r [.int .i64 n1, .int .i64 n2, .int .i64 n3, .int .i64 n4, .int .i64 n5, .int .i64 0, .int .i64 0, .int .i64 0, .int .i64 0] rfl
  replace e_w14 : (((((((((w13.setCell ⟨w.heap.size, 0, none⟩ (.int .i64 n1)).setCell ⟨w.heap.size, 1, none⟩ (.int .i64 n2)).setCell ⟨w.heap.size, 2, none⟩ (.int .i64 n3)).setCell ⟨w.heap.size, 3, none⟩ (.int .i64 n4)).setCell ⟨w.heap.size, 4, none⟩ (.int .i64 n5)).setCell ⟨w.heap.size, 5, none⟩ (.int .i64 0)).setCell ⟨w.heap.size, 6, none⟩ (.int .i64 0)).setCell ⟨w.heap.size, 7, none⟩ (.int .i64 0)).setCell ⟨w.heap.size, 8, none⟩ (.int .i64 0)) = w14 := e_w14
  have s_w14_1 := Nat.le_of_eq s_w14
  have s_w14_2 := Nat.le_of_eq s_w14.symm
  clear s_w14
  replace x_R := x_R.chg h_w14 (by omega)
  replace x_v := x_v.chg h_w14 (by omega)
  replace o_b := o_b.chg h_w14 (by omega)
  have B_w14 := Below.chg_ B_w13 h_w14 (by omega) (by omega)
  replace x_r : Vr w14 (w.heap.size) 29 [.int .i64 n1, .int .i64 n2, .int .i64 n3, .int .i64 n4, .int .i64 n5, .int .i64 0, .int .i64 0, .int .i64 0, .int .i64 0] := y
  clear y
  have c_r_0_w14 := x_r.cell (i := 0) rfl
  have f_r_0_w14 := x_r.frozen 0
  have c_r_1_w14 := x_r.cell (i := 1) rfl
  have f_r_1_w14 := x_r.frozen 1
  have c_r_2_w14 := x_r.cell (i := 2) rfl
  have f_r_2_w14 := x_r.frozen 2
  have c_r_3_w14 := x_r.cell (i := 3) rfl
  have f_r_3_w14 := x_r.frozen 3
  have c_r_4_w14 := x_r.cell (i := 4) rfl
  have f_r_4_w14 := x_r.frozen 4
  have c_r_5_w14 := x_r.cell (i := 5) rfl
  have f_r_5_w14 := x_r.frozen 5
  have c_r_6_w14 := x_r.cell (i := 6) rfl
  have f_r_6_w14 := x_r.frozen 6
  have c_r_7_w14 := x_r.cell (i := 7) rfl
  have f_r_7_w14 := x_r.frozen 7
  have c_r_8_w14 := x_r.cell (i := 8) rfl
  have f_r_8_w14 := x_r.frozen 8
  go_wp2
  refine ret_cell_tmp (by rfl) (by rfl) x_r Try.underlying29 sz_rec (by rfl) ?_
  rw [HF.out, HF2.out]
  exact ⟨_, rfl, ov_rec (d := ⟨n1, n2, n3, n4, n5, ⟨0, 0, 0, 0⟩⟩) (Nat.le_refl _), B_w14⟩

end Go.Proofs.Ytkbhbccpmmhelaa
