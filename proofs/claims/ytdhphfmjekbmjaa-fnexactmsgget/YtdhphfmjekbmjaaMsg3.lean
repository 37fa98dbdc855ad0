/- Contracts: spec.l04Get, spec.MsgGet. -/
import Derived.Test.YtdhphfmjekbmjaaMsg1
import Derived.Test.YtdhphfmjekbmjaaReader
namespace Go.Proofs.Ytdhphfmjekbmjaa
open Go.RowKit
set_option linter.unusedVariables false

/-- a message read: the message, the place behind it, has reading failed -/
def rdMsg (zs : List Int) (p : Int) (bad : Bool) : MMsg × Int × Bool :=
  let a := rdNum zs p bad
  let b := rdNum zs a.2.1 a.2.2
  let c := rdNum zs b.2.1 b.2.2
  let d := rdNum zs c.2.1 c.2.2
  (⟨a.1, b.1, c.1, d.1⟩, d.2.1, d.2.2 || !msgOkB ⟨a.1, b.1, c.1, d.1⟩)
theorem rdMsg_range (zs : List Int) (p : Int) (bad : Bool) (hz : zs.length ≤ 1073741824) (hp : -9223372036854775808 ≤ p ∧ p ≤ 9223372036854775807) :
    -9223372036854775808 ≤ (rdMsg zs p bad).2.1 ∧ (rdMsg zs p bad).2.1 ≤ 9223372036854775807 :=
  (rdNum_range zs _ _ hz (rdNum_range zs _ _ hz (rdNum_range zs _ _ hz (rdNum_range zs p bad hz hp).2).2).2).2

def msgCells (m : MMsg) : List Value := [.int .i64 m.Kind, .int .i64 m.Acct, .int .i64 m.Amt, .int .i64 m.Src]

set_option maxRecDepth 100000 in
set_option maxHeartbeats 4000000 in
theorem sMsgRd_c {w : World} {g : Nat} {A : Option Addr} {c : Nat} {zs : List Int} {p : Int} {bad : Bool} (x_R : RdVr w g A c zs p bad) (hr : Rd .u8 w g A zs) (hb : Bytes zs) (hm : zs.length ≤ 16777216) (hp : -9223372036854775808 ≤ p ∧ p ≤ 9223372036854775807) :
    Calls Try.prog 30 #[.pointer (some ⟨g, 0, none⟩)] w fun e w' => e = .returned (.agg (msgCells (rdMsg zs p bad).1).toArray) ∧ RdVr w' g A c zs (rdMsg zs p bad).2.1 (rdMsg zs p bad).2.2 ∧ Chg g (g + 1) w w' := by
  have hgl := x_R.lt
  have hgle := Nat.le_of_lt hgl
  have g1 := rdNum_range zs p bad (by omega) hp
  obtain ⟨n1, hn1⟩ : ∃ n, (rdNum zs p bad).1 = n := ⟨_, rfl⟩
  obtain ⟨p1, hp1⟩ : ∃ q, (rdNum zs p bad).2.1 = q := ⟨_, rfl⟩
  obtain ⟨b1, hb1⟩ : ∃ q, (rdNum zs p bad).2.2 = q := ⟨_, rfl⟩
  rw [hn1, hp1] at g1
  have g2 := rdNum_range zs p1 b1 (by omega) g1.2
  obtain ⟨n2, hn2⟩ : ∃ n, (rdNum zs p1 b1).1 = n := ⟨_, rfl⟩
  obtain ⟨p2, hp2⟩ : ∃ q, (rdNum zs p1 b1).2.1 = q := ⟨_, rfl⟩
  obtain ⟨b2, hb2⟩ : ∃ q, (rdNum zs p1 b1).2.2 = q := ⟨_, rfl⟩
  rw [hn2, hp2] at g2
  have g3 := rdNum_range zs p2 b2 (by omega) g2.2
  obtain ⟨n3, hn3⟩ : ∃ n, (rdNum zs p2 b2).1 = n := ⟨_, rfl⟩
  obtain ⟨p3, hp3⟩ : ∃ q, (rdNum zs p2 b2).2.1 = q := ⟨_, rfl⟩
  obtain ⟨b3, hb3⟩ : ∃ q, (rdNum zs p2 b2).2.2 = q := ⟨_, rfl⟩
  rw [hn3, hp3] at g3
  have g4 := rdNum_range zs p3 b3 (by omega) g3.2
  obtain ⟨n4, hn4⟩ : ∃ n, (rdNum zs p3 b3).1 = n := ⟨_, rfl⟩
  obtain ⟨p4, hp4⟩ : ∃ q, (rdNum zs p3 b3).2.1 = q := ⟨_, rfl⟩
  obtain ⟨b4, hb4⟩ : ∃ q, (rdNum zs p3 b3).2.2 = q := ⟨_, rfl⟩
  rw [hn4, hp4] at g4
  have HM : Hid (rdMsg zs p bad = (⟨n1, n2, n3, n4⟩, p4, b4 || !msgOkB ⟨n1, n2, n3, n4⟩)) := by show _ = _; unfold rdMsg; simp only [hn1, hn2, hn3, hn4, hp1, hp2, hp3, hp4, hb1, hb2, hb3, hb4]
  rw [HM.out]
  obtain ⟨o, ho⟩ : ∃ o, msgOkB ⟨n1, n2, n3, n4⟩ = o := ⟨_, rfl⟩
  have HO := Lib.hid ho
  obtain ⟨f, hf⟩ : ∃ f, (b4 || !msgOkB ⟨n1, n2, n3, n4⟩) = f := ⟨_, rfl⟩
  rw [hf]
  rw [ho] at hf
  have HN1 := Lib.hid hn1
  have HP1 := Lib.hid hp1
  have HB1 := Lib.hid hb1
  clear hn1 hp1 hb1
  have HN2 := Lib.hid hn2
  have HP2 := Lib.hid hp2
  have HB2 := Lib.hid hb2
  clear hn2 hp2 hb2
  have HN3 := Lib.hid hn3
  have HP3 := Lib.hid hp3
  have HB3 := Lib.hid hb3
  clear hn3 hp3 hb3
  have HN4 := Lib.hid hn4
  have HP4 := Lib.hid hp4
  have HB4 := Lib.hid hb4
  clear hn4 hp4 hb4
  have HF := Lib.hid hf
  clear hf ho
  obtain ⟨wa, hwa, B0, sa, x_r⟩ := frame1 w 25 [.int .i64 0, .int .i64 0, .int .i64 0, .int .i64 0]
  have sa_1 := Nat.le_of_eq sa
  have sa_2 := Nat.le_of_eq sa.symm
  clear sa
  have Bg := B0.mono hgle
  have C0 := (Chg.refl g (g + 1) w).then_below B0
  replace x_R := x_R.from_ B0
  have c_r_0_wa := x_r.cell (i := 0) rfl
  have f_r_0_wa := x_r.frozen 0
  have c_r_1_wa := x_r.cell (i := 1) rfl
  have f_r_1_wa := x_r.frozen 1
  have c_r_2_wa := x_r.cell (i := 2) rfl
  have f_r_2_wa := x_r.frozen 2
  have c_r_3_wa := x_r.cell (i := 3) rfl
  have f_r_3_wa := x_r.frozen 3
  have c_R_0_wa := x_R.cell (i := 0) rfl
  have f_R_0_wa := x_R.frozen 0
  have c_R_1_wa := x_R.cell (i := 1) rfl
  have f_R_1_wa := x_R.frozen 1
  have c_R_2_wa := x_R.cell (i := 2) rfl
  have f_R_2_wa := x_R.frozen 2
  go_enter Try.func30, Try.ntmps30
  go_wp2_with fail
  refine (sGet_c x_R (hr.below Bg) hb hm hp).mono ?_
  rintro e w1 ⟨rfl, y, h_w1⟩
  clear c_r_0_wa f_r_0_wa c_r_1_wa f_r_1_wa c_r_2_wa f_r_2_wa c_r_3_wa f_r_3_wa c_R_0_wa f_R_0_wa c_R_1_wa f_R_1_wa c_R_2_wa f_R_2_wa
  replace x_r := x_r.chg h_w1 (by omega)
  have B_w1 := Below.chg_ Bg h_w1 (by omega) (by omega)
  have C_w1 := C0.then_same h_w1
  have s_w1 := h_w1.size
  rw [HP1.out, HB1.out] at y
  rw [HN1.out]
  have x_R := y
  clear y
  have c_r_0_w1 := x_r.cell (i := 0) rfl
  have f_r_0_w1 := x_r.frozen 0
  have c_r_1_w1 := x_r.cell (i := 1) rfl
  have f_r_1_w1 := x_r.frozen 1
  have c_r_2_w1 := x_r.cell (i := 2) rfl
  have f_r_2_w1 := x_r.frozen 2
  have c_r_3_w1 := x_r.cell (i := 3) rfl
  have f_r_3_w1 := x_r.frozen 3
  have c_R_0_w1 := x_R.cell (i := 0) rfl
  have f_R_0_w1 := x_R.frozen 0
  have c_R_1_w1 := x_R.cell (i := 1) rfl
  have f_R_1_w1 := x_R.frozen 1
  have c_R_2_w1 := x_R.cell (i := 2) rfl
  have f_R_2_w1 := x_R.frozen 2
  obtain ⟨w2, e_w2, s_w2, h_w2, x_m⟩ := alloc_step w1 25 [.int .i64 n1, .int .i64 0, .int .i64 0, .int .i64 0]
  have s_w2_1 := Nat.le_of_eq s_w2
  have s_w2_2 := Nat.le_of_eq s_w2.symm
  clear s_w2
  replace x_r := x_r.from_ h_w2
  replace x_R := x_R.from_ h_w2
  have B_w2 := B_w1.trans (h_w2.mono (Nat.le_trans hgle B_w1.size))
  have C_w2 := C_w1.then_below h_w2
  have i_w2_3 := x_m.same (i := 3) rfl
  have i_w2_2 := x_m.same (i := 2) rfl
  have i_w2_1 := x_m.same (i := 1) rfl
  have c_r_0_w2 := x_r.cell (i := 0) rfl
  have f_r_0_w2 := x_r.frozen 0
  have c_r_1_w2 := x_r.cell (i := 1) rfl
  have f_r_1_w2 := x_r.frozen 1
  have c_r_2_w2 := x_r.cell (i := 2) rfl
  have f_r_2_w2 := x_r.frozen 2
  have c_r_3_w2 := x_r.cell (i := 3) rfl
  have f_r_3_w2 := x_r.frozen 3
  have c_R_0_w2 := x_R.cell (i := 0) rfl
  have f_R_0_w2 := x_R.frozen 0
  have c_R_1_w2 := x_R.cell (i := 1) rfl
  have f_R_1_w2 := x_R.frozen 1
  have c_R_2_w2 := x_R.cell (i := 2) rfl
  have f_R_2_w2 := x_R.frozen 2
  have c_m_0_w2 := x_m.cell (i := 0) rfl
  have f_m_0_w2 := x_m.frozen 0
  have c_m_1_w2 := x_m.cell (i := 1) rfl
  have f_m_1_w2 := x_m.frozen 1
  have c_m_2_w2 := x_m.cell (i := 2) rfl
  have f_m_2_w2 := x_m.frozen 2
  have c_m_3_w2 := x_m.cell (i := 3) rfl
  have f_m_3_w2 := x_m.frozen 3
  go_wp2_with fail
  refine (sGet_c x_R (hr.below B_w2) hb hm g1.2).mono ?_
  rintro e w3 ⟨rfl, y, h_w3⟩
  clear c_r_0_w1 f_r_0_w1 c_r_1_w1 f_r_1_w1 c_r_2_w1 f_r_2_w1 c_r_3_w1 f_r_3_w1 c_R_0_w1 f_R_0_w1 c_R_1_w1 f_R_1_w1 c_R_2_w1 f_R_2_w1 i_w2_3 i_w2_2 i_w2_1 c_r_0_w2 f_r_0_w2 c_r_1_w2 f_r_1_w2 c_r_2_w2 f_r_2_w2 c_r_3_w2 f_r_3_w2 c_R_0_w2 f_R_0_w2 c_R_1_w2 f_R_1_w2 c_R_2_w2 f_R_2_w2 c_m_0_w2 f_m_0_w2 c_m_1_w2 f_m_1_w2 c_m_2_w2 f_m_2_w2 c_m_3_w2 f_m_3_w2
  replace x_r := x_r.chg h_w3 (by omega)
  replace x_m := x_m.chg h_w3 (by omega)
  have B_w3 := Below.chg_ B_w2 h_w3 (by omega) (by omega)
  have C_w3 := C_w2.then_same h_w3
  have s_w3 := h_w3.size
  rw [HP2.out, HB2.out] at y
  rw [HN2.out]
  have x_R := y
  clear y
  have c_r_0_w3 := x_r.cell (i := 0) rfl
  have f_r_0_w3 := x_r.frozen 0
  have c_r_1_w3 := x_r.cell (i := 1) rfl
  have f_r_1_w3 := x_r.frozen 1
  have c_r_2_w3 := x_r.cell (i := 2) rfl
  have f_r_2_w3 := x_r.frozen 2
  have c_r_3_w3 := x_r.cell (i := 3) rfl
  have f_r_3_w3 := x_r.frozen 3
  have c_R_0_w3 := x_R.cell (i := 0) rfl
  have f_R_0_w3 := x_R.frozen 0
  have c_R_1_w3 := x_R.cell (i := 1) rfl
  have f_R_1_w3 := x_R.frozen 1
  have c_R_2_w3 := x_R.cell (i := 2) rfl
  have f_R_2_w3 := x_R.frozen 2
  have c_m_0_w3 := x_m.cell (i := 0) rfl
  have f_m_0_w3 := x_m.frozen 0
  have c_m_1_w3 := x_m.cell (i := 1) rfl
  have f_m_1_w3 := x_m.frozen 1
  have c_m_2_w3 := x_m.cell (i := 2) rfl
  have f_m_2_w3 := x_m.frozen 2
  have c_m_3_w3 := x_m.cell (i := 3) rfl
  have f_m_3_w3 := x_m.frozen 3
  obtain ⟨w4, e_w4, s_w4, h_w4, y⟩ := set_step x_m 1 (.int .i64 n2)
  have s_w4_1 := Nat.le_of_eq s_w4
  have s_w4_2 := Nat.le_of_eq s_w4.symm
  clear s_w4
  replace x_r := x_r.chg h_w4 (by omega)
  replace x_R := x_R.chg h_w4 (by omega)
  have B_w4 := Below.chg_ B_w3 h_w4 (by omega) (by omega)
  have C_w4 := C_w3.then_new h_w4 (by omega)
  replace x_m : Vr w4 (w1.heap.size) 25 [.int .i64 n1, .int .i64 n2, .int .i64 0, .int .i64 0] := y
  clear y
  have c_r_0_w4 := x_r.cell (i := 0) rfl
  have f_r_0_w4 := x_r.frozen 0
  have c_r_1_w4 := x_r.cell (i := 1) rfl
  have f_r_1_w4 := x_r.frozen 1
  have c_r_2_w4 := x_r.cell (i := 2) rfl
  have f_r_2_w4 := x_r.frozen 2
  have c_r_3_w4 := x_r.cell (i := 3) rfl
  have f_r_3_w4 := x_r.frozen 3
  have c_R_0_w4 := x_R.cell (i := 0) rfl
  have f_R_0_w4 := x_R.frozen 0
  have c_R_1_w4 := x_R.cell (i := 1) rfl
  have f_R_1_w4 := x_R.frozen 1
  have c_R_2_w4 := x_R.cell (i := 2) rfl
  have f_R_2_w4 := x_R.frozen 2
  have c_m_0_w4 := x_m.cell (i := 0) rfl
  have f_m_0_w4 := x_m.frozen 0
  have c_m_1_w4 := x_m.cell (i := 1) rfl
  have f_m_1_w4 := x_m.frozen 1
  have c_m_2_w4 := x_m.cell (i := 2) rfl
  have f_m_2_w4 := x_m.frozen 2
  have c_m_3_w4 := x_m.cell (i := 3) rfl
  have f_m_3_w4 := x_m.frozen 3
  go_wp2_with fail
  refine (sGet_c x_R (hr.below B_w4) hb hm g2.2).mono ?_
  rintro e w5 ⟨rfl, y, h_w5⟩
  clear c_r_0_w3 f_r_0_w3 c_r_1_w3 f_r_1_w3 c_r_2_w3 f_r_2_w3 c_r_3_w3 f_r_3_w3 c_R_0_w3 f_R_0_w3 c_R_1_w3 f_R_1_w3 c_R_2_w3 f_R_2_w3 c_m_0_w3 f_m_0_w3 c_m_1_w3 f_m_1_w3 c_m_2_w3 f_m_2_w3 c_m_3_w3 f_m_3_w3 c_r_0_w4 f_r_0_w4 c_r_1_w4 f_r_1_w4 c_r_2_w4 f_r_2_w4 c_r_3_w4 f_r_3_w4 c_R_0_w4 f_R_0_w4 c_R_1_w4 f_R_1_w4 c_R_2_w4 f_R_2_w4 c_m_0_w4 f_m_0_w4 c_m_1_w4 f_m_1_w4 c_m_2_w4 f_m_2_w4 c_m_3_w4 f_m_3_w4
  replace x_r := x_r.chg h_w5 (by omega)
  replace x_m := x_m.chg h_w5 (by omega)
  have B_w5 := Below.chg_ B_w4 h_w5 (by omega) (by omega)
  have C_w5 := C_w4.then_same h_w5
  have s_w5 := h_w5.size
  rw [HP3.out, HB3.out] at y
  rw [HN3.out]
  have x_R := y
  clear y
  have c_r_0_w5 := x_r.cell (i := 0) rfl
  have f_r_0_w5 := x_r.frozen 0
  have c_r_1_w5 := x_r.cell (i := 1) rfl
  have f_r_1_w5 := x_r.frozen 1
  have c_r_2_w5 := x_r.cell (i := 2) rfl
  have f_r_2_w5 := x_r.frozen 2
  have c_r_3_w5 := x_r.cell (i := 3) rfl
  have f_r_3_w5 := x_r.frozen 3
  have c_R_0_w5 := x_R.cell (i := 0) rfl
  have f_R_0_w5 := x_R.frozen 0
  have c_R_1_w5 := x_R.cell (i := 1) rfl
  have f_R_1_w5 := x_R.frozen 1
  have c_R_2_w5 := x_R.cell (i := 2) rfl
  have f_R_2_w5 := x_R.frozen 2
  have c_m_0_w5 := x_m.cell (i := 0) rfl
  have f_m_0_w5 := x_m.frozen 0
  have c_m_1_w5 := x_m.cell (i := 1) rfl
  have f_m_1_w5 := x_m.frozen 1
  have c_m_2_w5 := x_m.cell (i := 2) rfl
  have f_m_2_w5 := x_m.frozen 2
  have c_m_3_w5 := x_m.cell (i := 3) rfl
  have f_m_3_w5 := x_m.frozen 3
  obtain ⟨w6, e_w6, s_w6, h_w6, y⟩ := set_step x_m 2 (.int .i64 n3)
  have s_w6_1 := Nat.le_of_eq s_w6
  have s_w6_2 := Nat.le_of_eq s_w6.symm
  clear s_w6
  replace x_r := x_r.chg h_w6 (by omega)
  replace x_R := x_R.chg h_w6 (by omega)
  have B_w6 := Below.chg_ B_w5 h_w6 (by omega) (by omega)
  have C_w6 := C_w5.then_new h_w6 (by omega)
  replace x_m : Vr w6 (w1.heap.size) 25 [.int .i64 n1, .int .i64 n2, .int .i64 n3, .int .i64 0] := y
  clear y
  have c_r_0_w6 := x_r.cell (i := 0) rfl
  have f_r_0_w6 := x_r.frozen 0
  have c_r_1_w6 := x_r.cell (i := 1) rfl
  have f_r_1_w6 := x_r.frozen 1
  have c_r_2_w6 := x_r.cell (i := 2) rfl
  have f_r_2_w6 := x_r.frozen 2
  have c_r_3_w6 := x_r.cell (i := 3) rfl
  have f_r_3_w6 := x_r.frozen 3
  have c_R_0_w6 := x_R.cell (i := 0) rfl
  have f_R_0_w6 := x_R.frozen 0
  have c_R_1_w6 := x_R.cell (i := 1) rfl
  have f_R_1_w6 := x_R.frozen 1
  have c_R_2_w6 := x_R.cell (i := 2) rfl
  have f_R_2_w6 := x_R.frozen 2
  have c_m_0_w6 := x_m.cell (i := 0) rfl
  have f_m_0_w6 := x_m.frozen 0
  have c_m_1_w6 := x_m.cell (i := 1) rfl
  have f_m_1_w6 := x_m.frozen 1
  have c_m_2_w6 := x_m.cell (i := 2) rfl
  have f_m_2_w6 := x_m.frozen 2
  have c_m_3_w6 := x_m.cell (i := 3) rfl
  have f_m_3_w6 := x_m.frozen 3
  go_wp2_with fail
  refine (sGet_c x_R (hr.below B_w6) hb hm g3.2).mono ?_
  rintro e w7 ⟨rfl, y, h_w7⟩
  clear c_r_0_w5 f_r_0_w5 c_r_1_w5 f_r_1_w5 c_r_2_w5 f_r_2_w5 c_r_3_w5 f_r_3_w5 c_R_0_w5 f_R_0_w5 c_R_1_w5 f_R_1_w5 c_R_2_w5 f_R_2_w5 c_m_0_w5 f_m_0_w5 c_m_1_w5 f_m_1_w5 c_m_2_w5 f_m_2_w5 c_m_3_w5 f_m_3_w5 c_r_0_w6 f_r_0_w6 c_r_1_w6 f_r_1_w6 c_r_2_w6 f_r_2_w6 c_r_3_w6 f_r_3_w6 c_R_0_w6 f_R_0_w6 c_R_1_w6 f_R_1_w6 c_R_2_w6 f_R_2_w6 c_m_0_w6 f_m_0_w6 c_m_1_w6 f_m_1_w6 c_m_2_w6 f_m_2_w6 c_m_3_w6 f_m_3_w6
  replace x_r := x_r.chg h_w7 (by omega)
  replace x_m := x_m.chg h_w7 (by omega)
  have B_w7 := Below.chg_ B_w6 h_w7 (by omega) (by omega)
  have C_w7 := C_w6.then_same h_w7
  have s_w7 := h_w7.size
  rw [HP4.out, HB4.out] at y
  rw [HN4.out]
  have x_R := y
  clear y
  have c_r_0_w7 := x_r.cell (i := 0) rfl
  have f_r_0_w7 := x_r.frozen 0
  have c_r_1_w7 := x_r.cell (i := 1) rfl
  have f_r_1_w7 := x_r.frozen 1
  have c_r_2_w7 := x_r.cell (i := 2) rfl
  have f_r_2_w7 := x_r.frozen 2
  have c_r_3_w7 := x_r.cell (i := 3) rfl
  have f_r_3_w7 := x_r.frozen 3
  have c_R_0_w7 := x_R.cell (i := 0) rfl
  have f_R_0_w7 := x_R.frozen 0
  have c_R_1_w7 := x_R.cell (i := 1) rfl
  have f_R_1_w7 := x_R.frozen 1
  have c_R_2_w7 := x_R.cell (i := 2) rfl
  have f_R_2_w7 := x_R.frozen 2
  have c_m_0_w7 := x_m.cell (i := 0) rfl
  have f_m_0_w7 := x_m.frozen 0
  have c_m_1_w7 := x_m.cell (i := 1) rfl
  have f_m_1_w7 := x_m.frozen 1
  have c_m_2_w7 := x_m.cell (i := 2) rfl
  have f_m_2_w7 := x_m.frozen 2
  have c_m_3_w7 := x_m.cell (i := 3) rfl
  have f_m_3_w7 := x_m.frozen 3
  obtain ⟨w8, e_w8, s_w8, h_w8, y⟩ := set_step x_m 3 (.int .i64 n4)
  have s_w8_1 := Nat.le_of_eq s_w8
  have s_w8_2 := Nat.le_of_eq s_w8.symm
  clear s_w8
  replace x_r := x_r.chg h_w8 (by omega)
  replace x_R := x_R.chg h_w8 (by omega)
  have B_w8 := Below.chg_ B_w7 h_w8 (by omega) (by omega)
  have C_w8 := C_w7.then_new h_w8 (by omega)
  replace x_m : Vr w8 (w1.heap.size) 25 [.int .i64 n1, .int .i64 n2, .int .i64 n3, .int .i64 n4] := y
  clear y
  have c_r_0_w8 := x_r.cell (i := 0) rfl
  have f_r_0_w8 := x_r.frozen 0
  have c_r_1_w8 := x_r.cell (i := 1) rfl
  have f_r_1_w8 := x_r.frozen 1
  have c_r_2_w8 := x_r.cell (i := 2) rfl
  have f_r_2_w8 := x_r.frozen 2
  have c_r_3_w8 := x_r.cell (i := 3) rfl
  have f_r_3_w8 := x_r.frozen 3
  have c_R_0_w8 := x_R.cell (i := 0) rfl
  have f_R_0_w8 := x_R.frozen 0
  have c_R_1_w8 := x_R.cell (i := 1) rfl
  have f_R_1_w8 := x_R.frozen 1
  have c_R_2_w8 := x_R.cell (i := 2) rfl
  have f_R_2_w8 := x_R.frozen 2
  have c_m_0_w8 := x_m.cell (i := 0) rfl
  have f_m_0_w8 := x_m.frozen 0
  have c_m_1_w8 := x_m.cell (i := 1) rfl
  have f_m_1_w8 := x_m.frozen 1
  have c_m_2_w8 := x_m.cell (i := 2) rfl
  have f_m_2_w8 := x_m.frozen 2
  have c_m_3_w8 := x_m.cell (i := 3) rfl
  have f_m_3_w8 := x_m.frozen 3
  have rM : RV msgL w8 (.agg #[.int .i64 n1, .int .i64 n2, .int .i64 n3, .int .i64 n4]) ⟨n1, n2, n3, n4⟩ := ⟨_, rfl, _, _, rfl, rfl, _, _, rfl, rfl, _, _, rfl, rfl, rfl⟩
  by_cases h4 : b4 = true
  case pos =>
    subst h4
    obtain rfl : true = f := by have := HF.out; simpa using this
    have c_R_2_w8 := x_R.cell (i := 2) rfl
    obtain ⟨w9, e_w9, s_w9, h_w9, y⟩ := set_step x_R 2 (.bool true)
    have s_w9_1 := Nat.le_of_eq s_w9
    have s_w9_2 := Nat.le_of_eq s_w9.symm
    clear s_w9
    replace x_r := x_r.chg h_w9 (by omega)
    replace x_m := x_m.chg h_w9 (by omega)
    have B_w9 := Below.chg_ B_w8 h_w9 (by omega) (by omega)
    have C_w9 := C_w8.then_same h_w9
    replace x_R : Vr w9 (g) 51 [.slice A zs.length c, .int .i64 p4, .bool true] := y
    clear y
    have c_r_0_w9 := x_r.cell (i := 0) rfl
    have f_r_0_w9 := x_r.frozen 0
    have c_r_1_w9 := x_r.cell (i := 1) rfl
    have f_r_1_w9 := x_r.frozen 1
    have c_r_2_w9 := x_r.cell (i := 2) rfl
    have f_r_2_w9 := x_r.frozen 2
    have c_r_3_w9 := x_r.cell (i := 3) rfl
    have f_r_3_w9 := x_r.frozen 3
    have c_R_0_w9 := x_R.cell (i := 0) rfl
    have f_R_0_w9 := x_R.frozen 0
    have c_R_1_w9 := x_R.cell (i := 1) rfl
    have f_R_1_w9 := x_R.frozen 1
    have c_R_2_w9 := x_R.cell (i := 2) rfl
    have f_R_2_w9 := x_R.frozen 2
    have c_m_0_w9 := x_m.cell (i := 0) rfl
    have f_m_0_w9 := x_m.frozen 0
    have c_m_1_w9 := x_m.cell (i := 1) rfl
    have f_m_1_w9 := x_m.frozen 1
    have c_m_2_w9 := x_m.cell (i := 2) rfl
    have f_m_2_w9 := x_m.frozen 2
    have c_m_3_w9 := x_m.cell (i := 3) rfl
    have f_m_3_w9 := x_m.frozen 3
    obtain ⟨w10, e_w10, s_w10, h_w10, y⟩ := store_step x_r [.int .i64 n1, .int .i64 n2, .int .i64 n3, .int .i64 n4] rfl
    replace e_w10 : ((((w9.setCell ⟨w.heap.size, 0, none⟩ (.int .i64 n1)).setCell ⟨w.heap.size, 1, none⟩ (.int .i64 n2)).setCell ⟨w.heap.size, 2, none⟩ (.int .i64 n3)).setCell ⟨w.heap.size, 3, none⟩ (.int .i64 n4)) = w10 := e_w10
    have s_w10_1 := Nat.le_of_eq s_w10
    have s_w10_2 := Nat.le_of_eq s_w10.symm
    clear s_w10
    replace x_R := x_R.chg h_w10 (by omega)
    replace x_m := x_m.chg h_w10 (by omega)
    have B_w10 := Below.chg_ B_w9 h_w10 (by omega) (by omega)
    have C_w10 := C_w9.then_new h_w10 (by omega)
    replace x_r : Vr w10 (w.heap.size) 25 [.int .i64 n1, .int .i64 n2, .int .i64 n3, .int .i64 n4] := y
    clear y
    have c_r_0_w10 := x_r.cell (i := 0) rfl
    have f_r_0_w10 := x_r.frozen 0
    have c_r_1_w10 := x_r.cell (i := 1) rfl
    have f_r_1_w10 := x_r.frozen 1
    have c_r_2_w10 := x_r.cell (i := 2) rfl
    have f_r_2_w10 := x_r.frozen 2
    have c_r_3_w10 := x_r.cell (i := 3) rfl
    have f_r_3_w10 := x_r.frozen 3
    go_wp2
    refine ret_cell (by rfl) (by rfl) x_r Try.underlying25 sz_msg (by rfl) ?_
    exact ⟨rfl, x_R, C_w10⟩
  case neg =>
    obtain rfl : b4 = false := by simpa using h4
    clear h4
    obtain rfl : (!o) = f := by have := HF.out; simpa using this
    go_wp2_with fail
    refine (sMsgOk_c rM).mono ?_
    rintro e w9 ⟨rfl, h_w9⟩
    clear c_r_0_w7 f_r_0_w7 c_r_1_w7 f_r_1_w7 c_r_2_w7 f_r_2_w7 c_r_3_w7 f_r_3_w7 c_R_0_w7 f_R_0_w7 c_R_1_w7 f_R_1_w7 c_R_2_w7 f_R_2_w7 c_m_0_w7 f_m_0_w7 c_m_1_w7 f_m_1_w7 c_m_2_w7 f_m_2_w7 c_m_3_w7 f_m_3_w7 c_r_0_w8 f_r_0_w8 c_r_1_w8 f_r_1_w8 c_r_2_w8 f_r_2_w8 c_r_3_w8 f_r_3_w8 c_R_0_w8 f_R_0_w8 c_R_1_w8 f_R_1_w8 c_R_2_w8 f_R_2_w8 c_m_0_w8 f_m_0_w8 c_m_1_w8 f_m_1_w8 c_m_2_w8 f_m_2_w8 c_m_3_w8 f_m_3_w8
    replace x_r := x_r.from_ h_w9
    replace x_R := x_R.from_ h_w9
    replace x_m := x_m.from_ h_w9
    have B_w9 := B_w8.trans (h_w9.mono (Nat.le_trans hgle B_w8.size))
    have s_w9 := h_w9.size
    have C_w9 := C_w8.then_below h_w9
    rw [HO.out]
    have c_r_0_w9 := x_r.cell (i := 0) rfl
    have f_r_0_w9 := x_r.frozen 0
    have c_r_1_w9 := x_r.cell (i := 1) rfl
    have f_r_1_w9 := x_r.frozen 1
    have c_r_2_w9 := x_r.cell (i := 2) rfl
    have f_r_2_w9 := x_r.frozen 2
    have c_r_3_w9 := x_r.cell (i := 3) rfl
    have f_r_3_w9 := x_r.frozen 3
    have c_R_0_w9 := x_R.cell (i := 0) rfl
    have f_R_0_w9 := x_R.frozen 0
    have c_R_1_w9 := x_R.cell (i := 1) rfl
    have f_R_1_w9 := x_R.frozen 1
    have c_R_2_w9 := x_R.cell (i := 2) rfl
    have f_R_2_w9 := x_R.frozen 2
    have c_m_0_w9 := x_m.cell (i := 0) rfl
    have f_m_0_w9 := x_m.frozen 0
    have c_m_1_w9 := x_m.cell (i := 1) rfl
    have f_m_1_w9 := x_m.frozen 1
    have c_m_2_w9 := x_m.cell (i := 2) rfl
    have f_m_2_w9 := x_m.frozen 2
    have c_m_3_w9 := x_m.cell (i := 3) rfl
    have f_m_3_w9 := x_m.frozen 3
    obtain ⟨w10, e_w10, s_w10, h_w10, y⟩ := set_step x_R 2 (.bool (!o))
    have s_w10_1 := Nat.le_of_eq s_w10
    have s_w10_2 := Nat.le_of_eq s_w10.symm
    clear s_w10
    replace x_r := x_r.chg h_w10 (by omega)
    replace x_m := x_m.chg h_w10 (by omega)
    have B_w10 := Below.chg_ B_w9 h_w10 (by omega) (by omega)
    have C_w10 := C_w9.then_same h_w10
    replace x_R : Vr w10 (g) 51 [.slice A zs.length c, .int .i64 p4, .bool (!o)] := y
    clear y
    have c_r_0_w10 := x_r.cell (i := 0) rfl
    have f_r_0_w10 := x_r.frozen 0
    have c_r_1_w10 := x_r.cell (i := 1) rfl
    have f_r_1_w10 := x_r.frozen 1
    have c_r_2_w10 := x_r.cell (i := 2) rfl
    have f_r_2_w10 := x_r.frozen 2
    have c_r_3_w10 := x_r.cell (i := 3) rfl
    have f_r_3_w10 := x_r.frozen 3
    have c_R_0_w10 := x_R.cell (i := 0) rfl
    have f_R_0_w10 := x_R.frozen 0
    have c_R_1_w10 := x_R.cell (i := 1) rfl
    have f_R_1_w10 := x_R.frozen 1
    have c_R_2_w10 := x_R.cell (i := 2) rfl
    have f_R_2_w10 := x_R.frozen 2
    have c_m_0_w10 := x_m.cell (i := 0) rfl
    have f_m_0_w10 := x_m.frozen 0
    have c_m_1_w10 := x_m.cell (i := 1) rfl
    have f_m_1_w10 := x_m.frozen 1
    have c_m_2_w10 := x_m.cell (i := 2) rfl
    have f_m_2_w10 := x_m.frozen 2
    have c_m_3_w10 := x_m.cell (i := 3) rfl
    have f_m_3_w10 := x_m.frozen 3
    obtain ⟨w11, e_w11, s_w11, h_w11, y⟩ := store_step x_r [.int .i64 n1, .int .i64 n2, .int .i64 n3, .int .i64 n4] rfl
    replace e_w11 : ((((w10.setCell ⟨w.heap.size, 0, none⟩ (.int .i64 n1)).setCell ⟨w.heap.size, 1, none⟩ (.int .i64 n2)).setCell ⟨w.heap.size, 2, none⟩ (.int .i64 n3)).setCell ⟨w.heap.size, 3, none⟩ (.int .i64 n4)) = w11 := e_w11
    have s_w11_1 := Nat.le_of_eq s_w11
    have s_w11_2 := Nat.le_of_eq s_w11.symm
    clear s_w11
    replace x_R := x_R.chg h_w11 (by omega)
    replace x_m := x_m.chg h_w11 (by omega)
    have B_w11 := Below.chg_ B_w10 h_w11 (by omega) (by omega)
    have C_w11 := C_w10.then_new h_w11 (by omega)
    replace x_r : Vr w11 (w.heap.size) 25 [.int .i64 n1, .int .i64 n2, .int .i64 n3, .int .i64 n4] := y
    clear y
    have c_r_0_w11 := x_r.cell (i := 0) rfl
    have f_r_0_w11 := x_r.frozen 0
    have c_r_1_w11 := x_r.cell (i := 1) rfl
    have f_r_1_w11 := x_r.frozen 1
    have c_r_2_w11 := x_r.cell (i := 2) rfl
    have f_r_2_w11 := x_r.frozen 2
    have c_r_3_w11 := x_r.cell (i := 3) rfl
    have f_r_3_w11 := x_r.frozen 3
    go_wp2
    refine ret_cell (by rfl) (by rfl) x_r Try.underlying25 sz_msg (by rfl) ?_
    exact ⟨rfl, x_R, C_w11⟩

def msgZ : MMsg := ⟨0, 0, 0, 0⟩
/-- what MsgGet answers -/
def msgGetB (zs : List Int) (a : Int) : Bool := !(rdMsg zs a false).2.2
def msgGetM (zs : List Int) (a : Int) : MMsg := if msgGetB zs a then (rdMsg zs a false).1 else msgZ
def msgGetP (zs : List Int) (a : Int) : Int := if msgGetB zs a then (rdMsg zs a false).2.1 else 0

set_option maxRecDepth 100000 in
set_option maxHeartbeats 4000000 in
theorem sMsgGet_c {w : World} {v : Value} {zs : List Int} {a : Int} (h : RS .u8 w v zs) (hb : Bytes zs) (hm : zs.length ≤ 16777216) (ha : -9223372036854775808 ≤ a ∧ a ≤ 9223372036854775807) :
    Calls Try.prog 17 #[v, .int .i64 a] w (NewVIB msgL w (msgGetM zs a) (msgGetP zs a) (msgGetB zs a)) := by
  obtain ⟨A, c, rfl, p1, p2, hr⟩ := h
  have g4 := rdMsg_range zs a false (by omega) ha
  obtain ⟨m, hmm⟩ : ∃ m, (rdMsg zs a false).1 = m := ⟨_, rfl⟩
  obtain ⟨q, hq⟩ : ∃ q, (rdMsg zs a false).2.1 = q := ⟨_, rfl⟩
  obtain ⟨f, hf⟩ : ∃ f, (rdMsg zs a false).2.2 = f := ⟨_, rfl⟩
  rw [hq] at g4
  have HB : Hid (msgGetB zs a = !f) := by show _ = _; unfold msgGetB; rw [hf]
  have HM : Hid (msgGetM zs a = if !f then m else msgZ) := by show _ = _; unfold msgGetM; rw [HB.out, hmm]
  have HP : Hid (msgGetP zs a = if !f then q else 0) := by show _ = _; unfold msgGetP; rw [HB.out, hq]
  have H1 := Lib.hid hmm
  have H2 := Lib.hid hq
  have H3 := Lib.hid hf
  clear hmm hq hf
  obtain ⟨wa, hwa, B0, sa, x_r⟩ := frame1 w 25 [.int .i64 0, .int .i64 0, .int .i64 0, .int .i64 0]
  have sa_1 := Nat.le_of_eq sa
  have sa_2 := Nat.le_of_eq sa.symm
  clear sa
  have c_r_0_wa := x_r.cell (i := 0) rfl
  have f_r_0_wa := x_r.frozen 0
  have c_r_1_wa := x_r.cell (i := 1) rfl
  have f_r_1_wa := x_r.frozen 1
  have c_r_2_wa := x_r.cell (i := 2) rfl
  have f_r_2_wa := x_r.frozen 2
  have c_r_3_wa := x_r.cell (i := 3) rfl
  have f_r_3_wa := x_r.frozen 3
  obtain ⟨w1, e_w1, s_w1, h_w1, x_R⟩ := alloc_step wa 51 [.slice A zs.length c, .int .i64 a, .bool false]
  have s_w1_1 := Nat.le_of_eq s_w1
  have s_w1_2 := Nat.le_of_eq s_w1.symm
  clear s_w1
  replace x_r := x_r.from_ h_w1
  have B_w1 := B0.trans (h_w1.mono B0.size)
  have i_w1_2 := x_R.same (i := 2) rfl
  have c_r_0_w1 := x_r.cell (i := 0) rfl
  have f_r_0_w1 := x_r.frozen 0
  have c_r_1_w1 := x_r.cell (i := 1) rfl
  have f_r_1_w1 := x_r.frozen 1
  have c_r_2_w1 := x_r.cell (i := 2) rfl
  have f_r_2_w1 := x_r.frozen 2
  have c_r_3_w1 := x_r.cell (i := 3) rfl
  have f_r_3_w1 := x_r.frozen 3
  have c_R_0_w1 := x_R.cell (i := 0) rfl
  have f_R_0_w1 := x_R.frozen 0
  have c_R_1_w1 := x_R.cell (i := 1) rfl
  have f_R_1_w1 := x_R.frozen 1
  have c_R_2_w1 := x_R.cell (i := 2) rfl
  have f_R_2_w1 := x_R.frozen 2
  have hle : w.heap.size ≤ wa.heap.size := B0.size
  go_enter Try.func17, Try.ntmps17
  go_wp2_with fail
  refine (sMsgRd_c x_R ((hr.below B_w1).more hle) hb hm ha).mono ?_
  rintro e w2 ⟨rfl, y, h_w2⟩
  clear c_r_0_wa f_r_0_wa c_r_1_wa f_r_1_wa c_r_2_wa f_r_2_wa c_r_3_wa f_r_3_wa i_w1_2 c_r_0_w1 f_r_0_w1 c_r_1_w1 f_r_1_w1 c_r_2_w1 f_r_2_w1 c_r_3_w1 f_r_3_w1 c_R_0_w1 f_R_0_w1 c_R_1_w1 f_R_1_w1 c_R_2_w1 f_R_2_w1
  replace x_r := x_r.chg h_w2 (by omega)
  have B_w2 := Below.chg_ B_w1 h_w2 (by omega) (by omega)
  have s_w2 := h_w2.size
  rw [H2.out, H3.out] at y
  rw [H1.out]
  replace x_R := y
  clear y
  obtain ⟨m1, m2, m3, m4⟩ := m
  have hmc : (msgCells ⟨m1, m2, m3, m4⟩).toArray = #[.int .i64 m1, .int .i64 m2, .int .i64 m3, .int .i64 m4] := rfl
  rw [hmc]
  clear hmc
  have c_r_0_w2 := x_r.cell (i := 0) rfl
  have f_r_0_w2 := x_r.frozen 0
  have c_r_1_w2 := x_r.cell (i := 1) rfl
  have f_r_1_w2 := x_r.frozen 1
  have c_r_2_w2 := x_r.cell (i := 2) rfl
  have f_r_2_w2 := x_r.frozen 2
  have c_r_3_w2 := x_r.cell (i := 3) rfl
  have f_r_3_w2 := x_r.frozen 3
  have c_R_0_w2 := x_R.cell (i := 0) rfl
  have f_R_0_w2 := x_R.frozen 0
  have c_R_1_w2 := x_R.cell (i := 1) rfl
  have f_R_1_w2 := x_R.frozen 1
  have c_R_2_w2 := x_R.cell (i := 2) rfl
  have f_R_2_w2 := x_R.frozen 2
  obtain ⟨w3, e_w3, s_w3, h_w3, x_m⟩ := alloc_step w2 25 [.int .i64 m1, .int .i64 m2, .int .i64 m3, .int .i64 m4]
  have s_w3_1 := Nat.le_of_eq s_w3
  have s_w3_2 := Nat.le_of_eq s_w3.symm
  clear s_w3
  replace x_r := x_r.from_ h_w3
  replace x_R := x_R.from_ h_w3
  have B_w3 := B_w2.trans (h_w3.mono B_w2.size)
  have c_r_0_w3 := x_r.cell (i := 0) rfl
  have f_r_0_w3 := x_r.frozen 0
  have c_r_1_w3 := x_r.cell (i := 1) rfl
  have f_r_1_w3 := x_r.frozen 1
  have c_r_2_w3 := x_r.cell (i := 2) rfl
  have f_r_2_w3 := x_r.frozen 2
  have c_r_3_w3 := x_r.cell (i := 3) rfl
  have f_r_3_w3 := x_r.frozen 3
  have c_R_0_w3 := x_R.cell (i := 0) rfl
  have f_R_0_w3 := x_R.frozen 0
  have c_R_1_w3 := x_R.cell (i := 1) rfl
  have f_R_1_w3 := x_R.frozen 1
  have c_R_2_w3 := x_R.cell (i := 2) rfl
  have f_R_2_w3 := x_R.frozen 2
  have c_m_0_w3 := x_m.cell (i := 0) rfl
  have f_m_0_w3 := x_m.frozen 0
  have c_m_1_w3 := x_m.cell (i := 1) rfl
  have f_m_1_w3 := x_m.frozen 1
  have c_m_2_w3 := x_m.cell (i := 2) rfl
  have f_m_2_w3 := x_m.frozen 2
  have c_m_3_w3 := x_m.cell (i := 3) rfl
  have f_m_3_w3 := x_m.frozen 3
  by_cases hff : f = true
  case pos =>
    subst hff
    have i_r_0 := x_r.same (i := 0) rfl
    have i_r_1 := x_r.same (i := 1) rfl
    have i_r_2 := x_r.same (i := 2) rfl
    have i_r_3 := x_r.same (i := 3) rfl
    go_wp2
    refine ret_cell_tmp2 (by rfl) (by rfl) x_r Try.underlying25 sz_msg (by rfl) ?_
    rw [HB.out, HM.out, HP.out]
    exact ⟨_, rfl, ov_msg (d := msgZ) (Nat.le_refl _), B_w3⟩
  case neg =>
    obtain rfl : f = false := by simpa using hff
    clear hff
    go_wp2
    go_region
    obtain ⟨w4, e_w4, s_w4, h_w4, y⟩ := store_step x_r [.int .i64 m1, .int .i64 m2, .int .i64 m3, .int .i64 m4] rfl
    replace e_w4 : ((((w3.setCell ⟨w.heap.size, 0, none⟩ (.int .i64 m1)).setCell ⟨w.heap.size, 1, none⟩ (.int .i64 m2)).setCell ⟨w.heap.size, 2, none⟩ (.int .i64 m3)).setCell ⟨w.heap.size, 3, none⟩ (.int .i64 m4)) = w4 := e_w4
    have s_w4_1 := Nat.le_of_eq s_w4
    have s_w4_2 := Nat.le_of_eq s_w4.symm
    clear s_w4
    replace x_R := x_R.chg h_w4 (by omega)
    replace x_m := x_m.chg h_w4 (by omega)
    have B_w4 := Below.chg_ B_w3 h_w4 (by omega) (by omega)
    replace x_r : Vr w4 (w.heap.size) 25 [.int .i64 m1, .int .i64 m2, .int .i64 m3, .int .i64 m4] := y
    clear y
    rw [e_w4]
    go_wp2
    refine ret_cell_tmp2 (w := w4.drew) (by rfl) (by rfl) x_r Try.underlying25 sz_msg (by rfl) ?_
    rw [HB.out, HM.out, HP.out]
    exact ⟨_, rfl, ov_msg (d := ⟨m1, m2, m3, m4⟩) (Nat.le_refl _), B_w4.drew⟩

end Go.Proofs.Ytdhphfmjekbmjaa
