/- Contract: impl.MsgGet. -/
import Derived.Test.YtkbhbccpmmhelaaBunM
import Derived.Test.YtkbhbccpmmhelaaBunB
import Derived.LoopN
namespace Go.Proofs.Ytkbhbccpmmhelaa
open Go.RowKit
set_option linter.unusedVariables false

theorem get_no {zs : List Int} {a : Int} (h : (rdMsg zs a false).2.2 = true) : msgGetB zs a = false ∧ msgGetM zs a = msgZ ∧ msgGetP zs a = 0 := by
  have hb : msgGetB zs a = false := by unfold msgGetB; rw [h]; rfl
  unfold msgGetM msgGetP
  rw [hb]
  exact ⟨rfl, rfl, rfl⟩

theorem get_none1 {zs : List Int} {a : Int}   (h1 : getNum zs a = none) : (rdMsg zs a false).2.2 = true := by
  simp [rdMsg, rdNum_none h1, rdNum_bad]

theorem get_none2 {zs : List Int} {a : Int} {n1 p1 : Int} {c1 : Nat} (h1 : getNum zs a = some (n1, c1)) (e1 : a + c1 = p1) (h2 : getNum zs p1 = none) : (rdMsg zs a false).2.2 = true := by
  simp [rdMsg, rdNum_some h1, e1, rdNum_none h2, rdNum_bad]

theorem get_none3 {zs : List Int} {a : Int} {n1 p1 : Int} {c1 : Nat} {n2 p2 : Int} {c2 : Nat} (h1 : getNum zs a = some (n1, c1)) (e1 : a + c1 = p1) (h2 : getNum zs p1 = some (n2, c2)) (e2 : p1 + c2 = p2) (h3 : getNum zs p2 = none) : (rdMsg zs a false).2.2 = true := by
  simp [rdMsg, rdNum_some h1, e1, rdNum_some h2, e2, rdNum_none h3, rdNum_bad]

theorem get_none4 {zs : List Int} {a : Int} {n1 p1 : Int} {c1 : Nat} {n2 p2 : Int} {c2 : Nat} {n3 p3 : Int} {c3 : Nat} (h1 : getNum zs a = some (n1, c1)) (e1 : a + c1 = p1) (h2 : getNum zs p1 = some (n2, c2)) (e2 : p1 + c2 = p2) (h3 : getNum zs p2 = some (n3, c3)) (e3 : p2 + c3 = p3) (h4 : getNum zs p3 = none) : (rdMsg zs a false).2.2 = true := by
  simp [rdMsg, rdNum_some h1, e1, rdNum_some h2, e2, rdNum_some h3, e3, rdNum_none h4]

theorem get_all {zs : List Int} {a : Int} {n1 p1 : Int} {c1 : Nat} {n2 p2 : Int} {c2 : Nat} {n3 p3 : Int} {c3 : Nat} {n4 p4 : Int} {c4 : Nat} (h1 : getNum zs a = some (n1, c1)) (e1 : a + c1 = p1) (h2 : getNum zs p1 = some (n2, c2)) (e2 : p1 + c2 = p2) (h3 : getNum zs p2 = some (n3, c3)) (e3 : p2 + c3 = p3) (h4 : getNum zs p3 = some (n4, c4)) (e4 : p3 + c4 = p4) : rdMsg zs a false = (⟨n1, n2, n3, n4⟩, p4, !msgOkB ⟨n1, n2, n3, n4⟩) := by
  simp [rdMsg, rdNum_some h1, e1, rdNum_some h2, e2, rdNum_some h3, e3, rdNum_some h4, e4]

set_option maxRecDepth 100000 in
set_option maxHeartbeats 8000000 in
theorem iMsgGet_c {w : World} {v : Value} {zs : List Int} {a : Int} (h : RS .u8 w v zs) (hb : Bytes zs) (hm : zs.length ≤ 16777216) (ha : -9223372036854775808 ≤ a ∧ a ≤ 9223372036854775807) :
    Calls Try.prog 41 #[v, .int .i64 a] w (NewVIB msgL w (msgGetM zs a) (msgGetP zs a) (msgGetB zs a)) := by
  obtain ⟨A, c, rfl, q1, q2, hr⟩ := h
  obtain ⟨wa, hwa, B0, sa, x_r⟩ := frame1 w 27 [.int .i64 0, .int .i64 0, .int .i64 0, .int .i64 0]
  have sa_1 := Nat.le_of_eq sa
  have sa_2 := Nat.le_of_eq sa.symm
  clear sa
  have c_r_0_wa := x_r.cell (i := 0) rfl
  have f_r_0_wa := x_r.frozen 0
  have c_r_1_wa := x_r.cell (i := 1) rfl
  have f_r_1_wa := x_r.frozen 1
  have c_r_2_wa := x_r.cell (i := 2) rfl
  have f_r_2_wa := x_r.frozen 2
  have c_r_3_wa := x_r.cell (i := 3) rfl
  have f_r_3_wa := x_r.frozen 3
  obtain ⟨w1, e_w1, s_w1, h_w1, x_f⟩ := alloc_step wa 69 [.int .i64 0, .int .i64 0, .int .i64 0, .int .i64 0]
  have s_w1_1 := Nat.le_of_eq s_w1
  have s_w1_2 := Nat.le_of_eq s_w1.symm
  clear s_w1
  replace x_r := x_r.from_ h_w1
  have B_w1 := B0.trans (h_w1.mono B0.size)
  have i_w1_3 := x_f.same (i := 3) rfl
  have i_w1_2 := x_f.same (i := 2) rfl
  have i_w1_1 := x_f.same (i := 1) rfl
  have i_w1_0 := x_f.same (i := 0) rfl
  have c_r_0_w1 := x_r.cell (i := 0) rfl
  have f_r_0_w1 := x_r.frozen 0
  have c_r_1_w1 := x_r.cell (i := 1) rfl
  have f_r_1_w1 := x_r.frozen 1
  have c_r_2_w1 := x_r.cell (i := 2) rfl
  have f_r_2_w1 := x_r.frozen 2
  have c_r_3_w1 := x_r.cell (i := 3) rfl
  have f_r_3_w1 := x_r.frozen 3
  have c_f_0_w1 := x_f.cell (i := 0) rfl
  have f_f_0_w1 := x_f.frozen 0
  have c_f_1_w1 := x_f.cell (i := 1) rfl
  have f_f_1_w1 := x_f.frozen 1
  have c_f_2_w1 := x_f.cell (i := 2) rfl
  have f_f_2_w1 := x_f.frozen 2
  have c_f_3_w1 := x_f.cell (i := 3) rfl
  have f_f_3_w1 := x_f.frozen 3
  go_enter Try.func41, Try.ntmps41
  go_wp2_with fail
  refine wp_loop_rounds 5 ?_
  rcases hg1 : getNum zs a with _ | ⟨n1, c1⟩
  case none =>
    have HV := Lib.hid (getVal_none hg1)
    have HN := Lib.hid (get_no (get_none1 hg1))
    clear hg1
    have i_r_0 := x_r.same (i := 0) rfl
    have i_r_1 := x_r.same (i := 1) rfl
    have i_r_2 := x_r.same (i := 2) rfl
    have i_r_3 := x_r.same (i := 3) rfl
    rw [rounds_succ]
    go_wp2_with fail
    refine (iGetNum_any A c zs a _ w.heap.size (hr.below B_w1) hb (by omega) q1 q2 (by omega) (by omega)).mono ?_
    rintro e w' ⟨rfl, rfl⟩
    rw [HV.out]
    go_wp2
    refine ret_cell_tmp2 (by rfl) (by rfl) x_r Try.underlying27 sz_msg (by rfl) ?_
    rw [HN.out.1, HN.out.2.1, HN.out.2.2]
    exact ⟨_, rfl, ov_msg (d := msgZ) (Nat.le_refl _), B_w1⟩
  case some =>
    have ge1 := getNum_some hg1
    obtain ⟨p1, hp1⟩ : ∃ p, a + (c1 : Int) = p := ⟨_, rfl⟩
    have lp1 : 0 ≤ p1 ∧ p1 ≤ 16777216 := by omega
    have hv := getVal_some hg1
    rw [hp1] at hv
    have HV1 := Lib.hid hv
    replace hg1 := Lib.hid hg1
    replace hp1 := Lib.hid hp1
    clear hv ge1
    rw [rounds_succ]
    go_wp2_with fail
    refine (iGetNum_any A c zs a _ w.heap.size (hr.below B_w1) hb (by omega) q1 q2 (by omega) (by omega)).mono ?_
    rintro e w' ⟨rfl, rfl⟩
    rw [HV1.out]
    clear c_r_0_wa f_r_0_wa c_r_1_wa f_r_1_wa c_r_2_wa f_r_2_wa c_r_3_wa f_r_3_wa i_w1_3 i_w1_2 i_w1_1 i_w1_0 c_r_0_w1 f_r_0_w1 c_r_1_w1 f_r_1_w1 c_r_2_w1 f_r_2_w1 c_r_3_w1 f_r_3_w1 c_f_0_w1 f_f_0_w1 c_f_1_w1 f_f_1_w1 c_f_2_w1 f_f_2_w1 c_f_3_w1 f_f_3_w1
    have c_r_0_w1 := x_r.cell (i := 0) rfl
    have f_r_0_w1 := x_r.frozen 0
    have c_r_1_w1 := x_r.cell (i := 1) rfl
    have f_r_1_w1 := x_r.frozen 1
    have c_r_2_w1 := x_r.cell (i := 2) rfl
    have f_r_2_w1 := x_r.frozen 2
    have c_r_3_w1 := x_r.cell (i := 3) rfl
    have f_r_3_w1 := x_r.frozen 3
    have c_f_0_w1 := x_f.cell (i := 0) rfl
    have f_f_0_w1 := x_f.frozen 0
    have c_f_1_w1 := x_f.cell (i := 1) rfl
    have f_f_1_w1 := x_f.frozen 1
    have c_f_2_w1 := x_f.cell (i := 2) rfl
    have f_f_2_w1 := x_f.frozen 2
    have c_f_3_w1 := x_f.cell (i := 3) rfl
    have f_f_3_w1 := x_f.frozen 3
    obtain ⟨w2, e_w2, s_w2, h_w2, y⟩ := set_step x_f 0 (.int .i64 n1)
    have s_w2_1 := Nat.le_of_eq s_w2
    have s_w2_2 := Nat.le_of_eq s_w2.symm
    clear s_w2
    replace x_r := x_r.chg h_w2 (by omega)
    have B_w2 := Below.chg_ B_w1 h_w2 (by omega) (by omega)
    replace x_f : Vr w2 (wa.heap.size) 69 [.int .i64 n1, .int .i64 0, .int .i64 0, .int .i64 0] := y
    clear y
    have c_r_0_w2 := x_r.cell (i := 0) rfl
    have f_r_0_w2 := x_r.frozen 0
    have c_r_1_w2 := x_r.cell (i := 1) rfl
    have f_r_1_w2 := x_r.frozen 1
    have c_r_2_w2 := x_r.cell (i := 2) rfl
    have f_r_2_w2 := x_r.frozen 2
    have c_r_3_w2 := x_r.cell (i := 3) rfl
    have f_r_3_w2 := x_r.frozen 3
    have c_f_0_w2 := x_f.cell (i := 0) rfl
    have f_f_0_w2 := x_f.frozen 0
    have c_f_1_w2 := x_f.cell (i := 1) rfl
    have f_f_1_w2 := x_f.frozen 1
    have c_f_2_w2 := x_f.cell (i := 2) rfl
    have f_f_2_w2 := x_f.frozen 2
    have c_f_3_w2 := x_f.cell (i := 3) rfl
    have f_f_3_w2 := x_f.frozen 3
    go_wp2_with fail
    rcases hg2 : getNum zs p1 with _ | ⟨n2, c2⟩
    case none =>
      have HV := Lib.hid (getVal_none hg2)
      have HN := Lib.hid (get_no (get_none2 hg1.out hp1.out hg2))
      clear hg2
      have i_r_0 := x_r.same (i := 0) rfl
      have i_r_1 := x_r.same (i := 1) rfl
      have i_r_2 := x_r.same (i := 2) rfl
      have i_r_3 := x_r.same (i := 3) rfl
      rw [rounds_succ]
      go_wp2_with fail
      refine (iGetNum_any A c zs p1 _ w.heap.size (hr.below B_w2) hb (by omega) q1 q2 (by omega) (by omega)).mono ?_
      rintro e w' ⟨rfl, rfl⟩
      rw [HV.out]
      go_wp2
      refine ret_cell_tmp2 (by rfl) (by rfl) x_r Try.underlying27 sz_msg (by rfl) ?_
      rw [HN.out.1, HN.out.2.1, HN.out.2.2]
      exact ⟨_, rfl, ov_msg (d := msgZ) (Nat.le_refl _), B_w2⟩
    case some =>
      have ge2 := getNum_some hg2
      obtain ⟨p2, hp2⟩ : ∃ p, p1 + (c2 : Int) = p := ⟨_, rfl⟩
      have lp2 : 0 ≤ p2 ∧ p2 ≤ 16777216 := by omega
      have hv := getVal_some hg2
      rw [hp2] at hv
      have HV2 := Lib.hid hv
      replace hg2 := Lib.hid hg2
      replace hp2 := Lib.hid hp2
      clear hv ge2
      rw [rounds_succ]
      go_wp2_with fail
      refine (iGetNum_any A c zs p1 _ w.heap.size (hr.below B_w2) hb (by omega) q1 q2 (by omega) (by omega)).mono ?_
      rintro e w' ⟨rfl, rfl⟩
      rw [HV2.out]
      clear c_r_0_w1 f_r_0_w1 c_r_1_w1 f_r_1_w1 c_r_2_w1 f_r_2_w1 c_r_3_w1 f_r_3_w1 c_f_0_w1 f_f_0_w1 c_f_1_w1 f_f_1_w1 c_f_2_w1 f_f_2_w1 c_f_3_w1 f_f_3_w1 c_r_0_w2 f_r_0_w2 c_r_1_w2 f_r_1_w2 c_r_2_w2 f_r_2_w2 c_r_3_w2 f_r_3_w2 c_f_0_w2 f_f_0_w2 c_f_1_w2 f_f_1_w2 c_f_2_w2 f_f_2_w2 c_f_3_w2 f_f_3_w2
      have c_r_0_w2 := x_r.cell (i := 0) rfl
      have f_r_0_w2 := x_r.frozen 0
      have c_r_1_w2 := x_r.cell (i := 1) rfl
      have f_r_1_w2 := x_r.frozen 1
      have c_r_2_w2 := x_r.cell (i := 2) rfl
      have f_r_2_w2 := x_r.frozen 2
      have c_r_3_w2 := x_r.cell (i := 3) rfl
      have f_r_3_w2 := x_r.frozen 3
      have c_f_0_w2 := x_f.cell (i := 0) rfl
      have f_f_0_w2 := x_f.frozen 0
      have c_f_1_w2 := x_f.cell (i := 1) rfl
      have f_f_1_w2 := x_f.frozen 1
      have c_f_2_w2 := x_f.cell (i := 2) rfl
      have f_f_2_w2 := x_f.frozen 2
      have c_f_3_w2 := x_f.cell (i := 3) rfl
      have f_f_3_w2 := x_f.frozen 3
      obtain ⟨w3, e_w3, s_w3, h_w3, y⟩ := set_step x_f 1 (.int .i64 n2)
      have s_w3_1 := Nat.le_of_eq s_w3
      have s_w3_2 := Nat.le_of_eq s_w3.symm
      clear s_w3
      replace x_r := x_r.chg h_w3 (by omega)
      have B_w3 := Below.chg_ B_w2 h_w3 (by omega) (by omega)
      replace x_f : Vr w3 (wa.heap.size) 69 [.int .i64 n1, .int .i64 n2, .int .i64 0, .int .i64 0] := y
      clear y
      have c_r_0_w3 := x_r.cell (i := 0) rfl
      have f_r_0_w3 := x_r.frozen 0
      have c_r_1_w3 := x_r.cell (i := 1) rfl
      have f_r_1_w3 := x_r.frozen 1
      have c_r_2_w3 := x_r.cell (i := 2) rfl
      have f_r_2_w3 := x_r.frozen 2
      have c_r_3_w3 := x_r.cell (i := 3) rfl
      have f_r_3_w3 := x_r.frozen 3
      have c_f_0_w3 := x_f.cell (i := 0) rfl
      have f_f_0_w3 := x_f.frozen 0
      have c_f_1_w3 := x_f.cell (i := 1) rfl
      have f_f_1_w3 := x_f.frozen 1
      have c_f_2_w3 := x_f.cell (i := 2) rfl
      have f_f_2_w3 := x_f.frozen 2
      have c_f_3_w3 := x_f.cell (i := 3) rfl
      have f_f_3_w3 := x_f.frozen 3
      go_wp2_with fail
      rcases hg3 : getNum zs p2 with _ | ⟨n3, c3⟩
      case none =>
        have HV := Lib.hid (getVal_none hg3)
        have HN := Lib.hid (get_no (get_none3 hg1.out hp1.out hg2.out hp2.out hg3))
        clear hg3
        have i_r_0 := x_r.same (i := 0) rfl
        have i_r_1 := x_r.same (i := 1) rfl
        have i_r_2 := x_r.same (i := 2) rfl
        have i_r_3 := x_r.same (i := 3) rfl
        rw [rounds_succ]
        go_wp2_with fail
        refine (iGetNum_any A c zs p2 _ w.heap.size (hr.below B_w3) hb (by omega) q1 q2 (by omega) (by omega)).mono ?_
        rintro e w' ⟨rfl, rfl⟩
        rw [HV.out]
        go_wp2
        refine ret_cell_tmp2 (by rfl) (by rfl) x_r Try.underlying27 sz_msg (by rfl) ?_
        rw [HN.out.1, HN.out.2.1, HN.out.2.2]
        exact ⟨_, rfl, ov_msg (d := msgZ) (Nat.le_refl _), B_w3⟩
      case some =>
        have ge3 := getNum_some hg3
        obtain ⟨p3, hp3⟩ : ∃ p, p2 + (c3 : Int) = p := ⟨_, rfl⟩
        have lp3 : 0 ≤ p3 ∧ p3 ≤ 16777216 := by omega
        have hv := getVal_some hg3
        rw [hp3] at hv
        have HV3 := Lib.hid hv
        replace hg3 := Lib.hid hg3
        replace hp3 := Lib.hid hp3
        clear hv ge3
        rw [rounds_succ]
        go_wp2_with fail
        refine (iGetNum_any A c zs p2 _ w.heap.size (hr.below B_w3) hb (by omega) q1 q2 (by omega) (by omega)).mono ?_
        rintro e w' ⟨rfl, rfl⟩
        rw [HV3.out]
        clear c_r_0_w2 f_r_0_w2 c_r_1_w2 f_r_1_w2 c_r_2_w2 f_r_2_w2 c_r_3_w2 f_r_3_w2 c_f_0_w2 f_f_0_w2 c_f_1_w2 f_f_1_w2 c_f_2_w2 f_f_2_w2 c_f_3_w2 f_f_3_w2 c_r_0_w3 f_r_0_w3 c_r_1_w3 f_r_1_w3 c_r_2_w3 f_r_2_w3 c_r_3_w3 f_r_3_w3 c_f_0_w3 f_f_0_w3 c_f_1_w3 f_f_1_w3 c_f_2_w3 f_f_2_w3 c_f_3_w3 f_f_3_w3
        have c_r_0_w3 := x_r.cell (i := 0) rfl
        have f_r_0_w3 := x_r.frozen 0
        have c_r_1_w3 := x_r.cell (i := 1) rfl
        have f_r_1_w3 := x_r.frozen 1
        have c_r_2_w3 := x_r.cell (i := 2) rfl
        have f_r_2_w3 := x_r.frozen 2
        have c_r_3_w3 := x_r.cell (i := 3) rfl
        have f_r_3_w3 := x_r.frozen 3
        have c_f_0_w3 := x_f.cell (i := 0) rfl
        have f_f_0_w3 := x_f.frozen 0
        have c_f_1_w3 := x_f.cell (i := 1) rfl
        have f_f_1_w3 := x_f.frozen 1
        have c_f_2_w3 := x_f.cell (i := 2) rfl
        have f_f_2_w3 := x_f.frozen 2
        have c_f_3_w3 := x_f.cell (i := 3) rfl
        have f_f_3_w3 := x_f.frozen 3
        obtain ⟨w4, e_w4, s_w4, h_w4, y⟩ := set_step x_f 2 (.int .i64 n3)
        have s_w4_1 := Nat.le_of_eq s_w4
        have s_w4_2 := Nat.le_of_eq s_w4.symm
        clear s_w4
        replace x_r := x_r.chg h_w4 (by omega)
        have B_w4 := Below.chg_ B_w3 h_w4 (by omega) (by omega)
        replace x_f : Vr w4 (wa.heap.size) 69 [.int .i64 n1, .int .i64 n2, .int .i64 n3, .int .i64 0] := y
        clear y
        have c_r_0_w4 := x_r.cell (i := 0) rfl
        have f_r_0_w4 := x_r.frozen 0
        have c_r_1_w4 := x_r.cell (i := 1) rfl
        have f_r_1_w4 := x_r.frozen 1
        have c_r_2_w4 := x_r.cell (i := 2) rfl
        have f_r_2_w4 := x_r.frozen 2
        have c_r_3_w4 := x_r.cell (i := 3) rfl
        have f_r_3_w4 := x_r.frozen 3
        have c_f_0_w4 := x_f.cell (i := 0) rfl
        have f_f_0_w4 := x_f.frozen 0
        have c_f_1_w4 := x_f.cell (i := 1) rfl
        have f_f_1_w4 := x_f.frozen 1
        have c_f_2_w4 := x_f.cell (i := 2) rfl
        have f_f_2_w4 := x_f.frozen 2
        have c_f_3_w4 := x_f.cell (i := 3) rfl
        have f_f_3_w4 := x_f.frozen 3
        go_wp2_with fail
        rcases hg4 : getNum zs p3 with _ | ⟨n4, c4⟩
        case none =>
          have HV := Lib.hid (getVal_none hg4)
          have HN := Lib.hid (get_no (get_none4 hg1.out hp1.out hg2.out hp2.out hg3.out hp3.out hg4))
          clear hg4
          have i_r_0 := x_r.same (i := 0) rfl
          have i_r_1 := x_r.same (i := 1) rfl
          have i_r_2 := x_r.same (i := 2) rfl
          have i_r_3 := x_r.same (i := 3) rfl
          rw [rounds_succ]
          go_wp2_with fail
          refine (iGetNum_any A c zs p3 _ w.heap.size (hr.below B_w4) hb (by omega) q1 q2 (by omega) (by omega)).mono ?_
          rintro e w' ⟨rfl, rfl⟩
          rw [HV.out]
          go_wp2
          refine ret_cell_tmp2 (by rfl) (by rfl) x_r Try.underlying27 sz_msg (by rfl) ?_
          rw [HN.out.1, HN.out.2.1, HN.out.2.2]
          exact ⟨_, rfl, ov_msg (d := msgZ) (Nat.le_refl _), B_w4⟩
        case some =>
          have ge4 := getNum_some hg4
          obtain ⟨p4, hp4⟩ : ∃ p, p3 + (c4 : Int) = p := ⟨_, rfl⟩
          have lp4 : 0 ≤ p4 ∧ p4 ≤ 16777216 := by omega
          have hv := getVal_some hg4
          rw [hp4] at hv
          have HV4 := Lib.hid hv
          replace hg4 := Lib.hid hg4
          replace hp4 := Lib.hid hp4
          clear hv ge4
          rw [rounds_succ]
          go_wp2_with fail
          refine (iGetNum_any A c zs p3 _ w.heap.size (hr.below B_w4) hb (by omega) q1 q2 (by omega) (by omega)).mono ?_
          rintro e w' ⟨rfl, rfl⟩
          rw [HV4.out]
          clear c_r_0_w3 f_r_0_w3 c_r_1_w3 f_r_1_w3 c_r_2_w3 f_r_2_w3 c_r_3_w3 f_r_3_w3 c_f_0_w3 f_f_0_w3 c_f_1_w3 f_f_1_w3 c_f_2_w3 f_f_2_w3 c_f_3_w3 f_f_3_w3 c_r_0_w4 f_r_0_w4 c_r_1_w4 f_r_1_w4 c_r_2_w4 f_r_2_w4 c_r_3_w4 f_r_3_w4 c_f_0_w4 f_f_0_w4 c_f_1_w4 f_f_1_w4 c_f_2_w4 f_f_2_w4 c_f_3_w4 f_f_3_w4
          have c_r_0_w4 := x_r.cell (i := 0) rfl
          have f_r_0_w4 := x_r.frozen 0
          have c_r_1_w4 := x_r.cell (i := 1) rfl
          have f_r_1_w4 := x_r.frozen 1
          have c_r_2_w4 := x_r.cell (i := 2) rfl
          have f_r_2_w4 := x_r.frozen 2
          have c_r_3_w4 := x_r.cell (i := 3) rfl
          have f_r_3_w4 := x_r.frozen 3
          have c_f_0_w4 := x_f.cell (i := 0) rfl
          have f_f_0_w4 := x_f.frozen 0
          have c_f_1_w4 := x_f.cell (i := 1) rfl
          have f_f_1_w4 := x_f.frozen 1
          have c_f_2_w4 := x_f.cell (i := 2) rfl
          have f_f_2_w4 := x_f.frozen 2
          have c_f_3_w4 := x_f.cell (i := 3) rfl
          have f_f_3_w4 := x_f.frozen 3
          obtain ⟨w5, e_w5, s_w5, h_w5, y⟩ := set_step x_f 3 (.int .i64 n4)
          have s_w5_1 := Nat.le_of_eq s_w5
          have s_w5_2 := Nat.le_of_eq s_w5.symm
          clear s_w5
          replace x_r := x_r.chg h_w5 (by omega)
          have B_w5 := Below.chg_ B_w4 h_w5 (by omega) (by omega)
          replace x_f : Vr w5 (wa.heap.size) 69 [.int .i64 n1, .int .i64 n2, .int .i64 n3, .int .i64 n4] := y
          clear y
          have c_r_0_w5 := x_r.cell (i := 0) rfl
          have f_r_0_w5 := x_r.frozen 0
          have c_r_1_w5 := x_r.cell (i := 1) rfl
          have f_r_1_w5 := x_r.frozen 1
          have c_r_2_w5 := x_r.cell (i := 2) rfl
          have f_r_2_w5 := x_r.frozen 2
          have c_r_3_w5 := x_r.cell (i := 3) rfl
          have f_r_3_w5 := x_r.frozen 3
          have c_f_0_w5 := x_f.cell (i := 0) rfl
          have f_f_0_w5 := x_f.frozen 0
          have c_f_1_w5 := x_f.cell (i := 1) rfl
          have f_f_1_w5 := x_f.frozen 1
          have c_f_2_w5 := x_f.cell (i := 2) rfl
          have f_f_2_w5 := x_f.frozen 2
          have c_f_3_w5 := x_f.cell (i := 3) rfl
          have f_f_3_w5 := x_f.frozen 3
          go_wp2_with fail
          have hall := get_all hg1.out hp1.out hg2.out hp2.out hg3.out hp3.out hg4.out hp4.out
          obtain ⟨ob, hob⟩ : ∃ b, msgOkB ⟨n1, n2, n3, n4⟩ = b := ⟨_, rfl⟩
          rw [hob] at hall
          have HA := Lib.hid hall
          have HO := Lib.hid hob
          clear hall hob
          obtain ⟨w6, e_w6, s_w6, h_w6, x_m⟩ := alloc_step w5 27 [.int .i64 n1, .int .i64 n2, .int .i64 n3, .int .i64 n4]
          have s_w6_1 := Nat.le_of_eq s_w6
          have s_w6_2 := Nat.le_of_eq s_w6.symm
          clear s_w6
          replace x_r := x_r.from_ h_w6
          replace x_f := x_f.from_ h_w6
          have B_w6 := B_w5.trans (h_w6.mono B_w5.size)
          have c_r_0_w6 := x_r.cell (i := 0) rfl
          have f_r_0_w6 := x_r.frozen 0
          have c_r_1_w6 := x_r.cell (i := 1) rfl
          have f_r_1_w6 := x_r.frozen 1
          have c_r_2_w6 := x_r.cell (i := 2) rfl
          have f_r_2_w6 := x_r.frozen 2
          have c_r_3_w6 := x_r.cell (i := 3) rfl
          have f_r_3_w6 := x_r.frozen 3
          have c_m_0_w6 := x_m.cell (i := 0) rfl
          have f_m_0_w6 := x_m.frozen 0
          have c_m_1_w6 := x_m.cell (i := 1) rfl
          have f_m_1_w6 := x_m.frozen 1
          have c_m_2_w6 := x_m.cell (i := 2) rfl
          have f_m_2_w6 := x_m.frozen 2
          have c_m_3_w6 := x_m.cell (i := 3) rfl
          have f_m_3_w6 := x_m.frozen 3
          rw [rounds_succ]
          go_wp2_with fail
          refine (iMsgOk_c rv_msg_mk).mono ?_
          rintro e w7 ⟨rfl, h_w7⟩
          clear c_r_0_w4 f_r_0_w4 c_r_1_w4 f_r_1_w4 c_r_2_w4 f_r_2_w4 c_r_3_w4 f_r_3_w4 c_f_0_w4 f_f_0_w4 c_f_1_w4 f_f_1_w4 c_f_2_w4 f_f_2_w4 c_f_3_w4 f_f_3_w4 c_r_0_w5 f_r_0_w5 c_r_1_w5 f_r_1_w5 c_r_2_w5 f_r_2_w5 c_r_3_w5 f_r_3_w5 c_f_0_w5 f_f_0_w5 c_f_1_w5 f_f_1_w5 c_f_2_w5 f_f_2_w5 c_f_3_w5 f_f_3_w5 c_r_0_w6 f_r_0_w6 c_r_1_w6 f_r_1_w6 c_r_2_w6 f_r_2_w6 c_r_3_w6 f_r_3_w6 c_m_0_w6 f_m_0_w6 c_m_1_w6 f_m_1_w6 c_m_2_w6 f_m_2_w6 c_m_3_w6 f_m_3_w6
          replace x_r := x_r.from_ h_w7
          replace x_f := x_f.from_ h_w7
          replace x_m := x_m.from_ h_w7
          have B_w7 := B_w6.trans (h_w7.mono B_w6.size)
          have s_w7 := h_w7.size
          rw [HO.out]
          have c_r_0_w7 := x_r.cell (i := 0) rfl
          have f_r_0_w7 := x_r.frozen 0
          have c_r_1_w7 := x_r.cell (i := 1) rfl
          have f_r_1_w7 := x_r.frozen 1
          have c_r_2_w7 := x_r.cell (i := 2) rfl
          have f_r_2_w7 := x_r.frozen 2
          have c_r_3_w7 := x_r.cell (i := 3) rfl
          have f_r_3_w7 := x_r.frozen 3
          have c_m_0_w7 := x_m.cell (i := 0) rfl
          have f_m_0_w7 := x_m.frozen 0
          have c_m_1_w7 := x_m.cell (i := 1) rfl
          have f_m_1_w7 := x_m.frozen 1
          have c_m_2_w7 := x_m.cell (i := 2) rfl
          have f_m_2_w7 := x_m.frozen 2
          have c_m_3_w7 := x_m.cell (i := 3) rfl
          have f_m_3_w7 := x_m.frozen 3
          cases ob with
          | false =>
            have HN := Lib.hid (get_no (congrArg (fun x => x.2.2) HA.out))
            have i_r_0 := x_r.same (i := 0) rfl
            have i_r_1 := x_r.same (i := 1) rfl
            have i_r_2 := x_r.same (i := 2) rfl
            have i_r_3 := x_r.same (i := 3) rfl
            go_wp2
            refine ret_cell_tmp2 (by rfl) (by rfl) x_r Try.underlying27 sz_msg (by rfl) ?_
            rw [HN.out.1, HN.out.2.1, HN.out.2.2]
            exact ⟨_, rfl, ov_msg (d := msgZ) (Nat.le_refl _), B_w7⟩
          | true =>
            have HY : Hid (msgGetB zs a = true ∧ msgGetM zs a = ⟨n1, n2, n3, n4⟩ ∧ msgGetP zs a = p4) := by show _ ∧ _; have hb : msgGetB zs a = true := by { unfold msgGetB; rw [HA.out]; rfl }; unfold msgGetM msgGetP; rw [hb, HA.out]; exact ⟨rfl, rfl, rfl⟩
            obtain ⟨w8, e_w8, s_w8, h_w8, y⟩ := store_step x_r [.int .i64 n1, .int .i64 n2, .int .i64 n3, .int .i64 n4] rfl
            replace e_w8 : ((((w7.setCell ⟨w.heap.size, 0, none⟩ (.int .i64 n1)).setCell ⟨w.heap.size, 1, none⟩ (.int .i64 n2)).setCell ⟨w.heap.size, 2, none⟩ (.int .i64 n3)).setCell ⟨w.heap.size, 3, none⟩ (.int .i64 n4)) = w8 := e_w8
            have s_w8_1 := Nat.le_of_eq s_w8
            have s_w8_2 := Nat.le_of_eq s_w8.symm
            clear s_w8
            replace x_f := x_f.chg h_w8 (by omega)
            replace x_m := x_m.chg h_w8 (by omega)
            have B_w8 := Below.chg_ B_w7 h_w8 (by omega) (by omega)
            replace x_r : Vr w8 (w.heap.size) 27 [.int .i64 n1, .int .i64 n2, .int .i64 n3, .int .i64 n4] := y
            clear y
            go_wp2
            refine ret_cell_tmp2 (by rfl) (by rfl) x_r Try.underlying27 sz_msg (by rfl) ?_
            rw [HY.out.1, HY.out.2.1, HY.out.2.2]
            exact ⟨_, rfl, ov_msg (d := ⟨n1, n2, n3, n4⟩) (Nat.le_refl _), B_w8⟩

end Go.Proofs.Ytkbhbccpmmhelaa
