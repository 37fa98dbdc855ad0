/- Votes: the contracts of spec.l07Node, l07Val, BallotOf, BallotAbove, IsMost, AccOk, AccPrep, AccTake. Laid by a program of ours (src/vt1.py). -/
import Derived.Test.YtaoedgcdcimibaaTAcc
import Derived.Test.YtaoedgcdcimibaaPrims
import Derived.Test.YtaoedgcdcimibaaPutNum
import Derived.IntWalk
namespace Go.Proofs.Ytaoedgcdcimibaa
open Go.RowKit
set_option linter.unusedVariables false

def ballotOf (r n : Int) : Int := if inB r 0 1000000000 = true ∧ inB n 0 3 = true then r * 4 + n + 1 else 0
def ballotAbove (b n : Int) : Int := if inB b 0 1000000000 = true ∧ inB n 0 3 = true then (if b < ballotOf (b / 4) n then ballotOf (b / 4) n else ballotOf (b / 4) n + 4) else 0
def isMostB (k n : Int) : Bool := decide (IntKind.i64.wrap (n - k) < k)
def accOkB (a : MAcc) : Bool := numB a.Prom && (inB a.Bal 0 a.Prom && ((inB a.Val 1 4 && decide (0 < a.Bal)) || (decide (a.Val = 0) && decide (a.Bal = 0))))
def accZ : MAcc := ⟨0, 0, 0⟩
def accPrepB (a : MAcc) (b : Int) : Bool := accOkB a && (numB b && decide (a.Prom < b))
def accPrep (a : MAcc) (b : Int) : MAcc := if accPrepB a b = true then ⟨b, a.Bal, a.Val⟩ else accZ
def accTakeB (a : MAcc) (b v : Int) : Bool := accOkB a && (inB v 1 4 && (inB b 1 1125899906842624 && decide (a.Prom ≤ b)))
def accTake (a : MAcc) (b v : Int) : MAcc := if accTakeB a b v = true then ⟨b, b, v⟩ else accZ

theorem sNode_any (n : Int) (w : World) : Calls Try.prog 56 #[.int .i64 n] w fun e w' => e = .returned (.bool (inB n 0 3)) ∧ w = w' := by
  go_enter Try.func56, Try.ntmps56
  go_wp2_with fail
  refine (sIn_any _ _ _ _).mono ?_
  rintro e w' ⟨rfl, rfl⟩
  go_wp2
  go_ret
  exact ⟨rfl, rfl⟩

theorem sVal_any (n : Int) (w : World) : Calls Try.prog 58 #[.int .i64 n] w fun e w' => e = .returned (.bool (inB n 1 4)) ∧ w = w' := by
  go_enter Try.func58, Try.ntmps58
  go_wp2_with fail
  refine (sIn_any _ _ _ _).mono ?_
  rintro e w' ⟨rfl, rfl⟩
  go_wp2
  go_ret
  exact ⟨rfl, rfl⟩

set_option maxHeartbeats 1000000 in
theorem sBallotOf_c (r n : Int) (w : World) : Calls Try.prog 28 #[.int .i64 r, .int .i64 n] w fun e w' => e = .returned (.int .i64 (ballotOf r n)) ∧ w = w' := by
  by_cases h1 : inB r 0 1000000000 = true
  case neg =>
    replace h1 : inB r 0 1000000000 = false := by simpa using h1
    have H1 := Lib.hid h1
    have HO : Hid (ballotOf r n = 0) := if_neg (fun c => by rw [h1] at c; exact absurd c.1 (by decide))
    clear h1
    go_enter Try.func28, Try.ntmps28
    go_wp2_with fail
    refine (sIn_any _ _ _ _).mono ?_
    rintro e w' ⟨rfl, rfl⟩
    rw [H1.out]
    go_wp2
    go_ret
    exact ⟨ret_eq (by rw [HO.out]; rfl), rfl⟩
  by_cases h2 : inB n 0 3 = true
  case neg =>
    replace h2 : inB n 0 3 = false := by simpa using h2
    have H1 := Lib.hid h1
    have H2 := Lib.hid h2
    have HO : Hid (ballotOf r n = 0) := if_neg (fun c => by rw [h2] at c; exact absurd c.2 (by decide))
    clear h1 h2
    go_enter Try.func28, Try.ntmps28
    go_wp2_with fail
    refine (sIn_any _ _ _ _).mono ?_
    rintro e w' ⟨rfl, rfl⟩
    rw [H1.out]
    go_wp2_with fail
    refine (sNode_any _ _).mono ?_
    rintro e w' ⟨rfl, rfl⟩
    rw [H2.out]
    go_wp2
    go_ret
    exact ⟨ret_eq (by rw [HO.out]; rfl), rfl⟩
  have H1 := Lib.hid h1
  have H2 := Lib.hid h2
  have b1 := inB_true.1 h1
  have b2 := inB_true.1 h2
  have HO : Hid (ballotOf r n = r * 4 + n + 1) := if_pos ⟨h1, h2⟩
  clear h1 h2
  have t1 : IntKind.i64.wrap (r * 4) = r * 4 := IntWalk.i64_in _ (by omega)
  have t2 : IntKind.i64.wrap (r * 4 + n) = r * 4 + n := IntWalk.i64_in _ (by omega)
  have t3 : IntKind.i64.wrap (r * 4 + n + 1) = r * 4 + n + 1 := IntWalk.i64_in _ (by omega)
  go_enter Try.func28, Try.ntmps28
  go_wp2_with fail
  refine (sIn_any _ _ _ _).mono ?_
  rintro e w' ⟨rfl, rfl⟩
  rw [H1.out]
  go_wp2_with fail
  refine (sNode_any _ _).mono ?_
  rintro e w' ⟨rfl, rfl⟩
  rw [H2.out]
  go_wp2
  go_ret
  exact ⟨ret_eq (by rw [HO.out]; rfl), rfl⟩

set_option maxHeartbeats 1000000 in
theorem sBallotAbove_c (r n : Int) (w : World) : Calls Try.prog 29 #[.int .i64 r, .int .i64 n] w fun e w' => e = .returned (.int .i64 (ballotAbove r n)) ∧ w = w' := by
  by_cases h1 : inB r 0 1000000000 = true
  case neg =>
    replace h1 : inB r 0 1000000000 = false := by simpa using h1
    have H1 := Lib.hid h1
    have HO : Hid (ballotAbove r n = 0) := if_neg (fun c => by rw [h1] at c; exact absurd c.1 (by decide))
    clear h1
    go_enter Try.func29, Try.ntmps29
    go_wp2_with fail
    refine (sIn_any _ _ _ _).mono ?_
    rintro e w' ⟨rfl, rfl⟩
    rw [H1.out]
    go_wp2
    go_ret
    exact ⟨ret_eq (by rw [HO.out]; rfl), rfl⟩
  by_cases h2 : inB n 0 3 = true
  case neg =>
    replace h2 : inB n 0 3 = false := by simpa using h2
    have H1 := Lib.hid h1
    have H2 := Lib.hid h2
    have HO : Hid (ballotAbove r n = 0) := if_neg (fun c => by rw [h2] at c; exact absurd c.2 (by decide))
    clear h1 h2
    go_enter Try.func29, Try.ntmps29
    go_wp2_with fail
    refine (sIn_any _ _ _ _).mono ?_
    rintro e w' ⟨rfl, rfl⟩
    rw [H1.out]
    go_wp2_with fail
    refine (sNode_any _ _).mono ?_
    rintro e w' ⟨rfl, rfl⟩
    rw [H2.out]
    go_wp2
    go_ret
    exact ⟨ret_eq (by rw [HO.out]; rfl), rfl⟩
  have H1 := Lib.hid h1
  have H2 := Lib.hid h2
  have b1 := inB_true.1 h1
  have b2 := inB_true.1 h2
  have b3 : inB (r / 4) 0 1000000000 = true := inB_true.2 (by omega)
  have e0 : ballotOf (r / 4) n = r / 4 * 4 + n + 1 := if_pos ⟨b3, h2⟩
  obtain ⟨x, hx⟩ : ∃ x, ballotOf (r / 4) n = x := ⟨_, rfl⟩
  have bx : 1 ≤ x ∧ x ≤ 1000000004 := by rw [← hx, e0]; omega
  have d1 : IntKind.i64.wrap (r.tdiv 4) = r / 4 := by rw [Int.tdiv_eq_ediv_of_nonneg (by omega)]; exact IntWalk.i64_in _ (by omega)
  have d2 : r.tdiv 4 = r / 4 := Int.tdiv_eq_ediv_of_nonneg (by omega)
  have d3 : IntKind.i64.wrap (r / 4) = r / 4 := IntWalk.i64_in _ (by omega)
  by_cases hc : r < x
  case pos =>
    have HO : Hid (ballotAbove r n = x) := by show _ = _; unfold ballotAbove; rw [if_pos ⟨h1, h2⟩, hx, if_pos hc]
    have HX := Lib.hid hx
    have g : decide (r < x) = true := decide_eq_true hc
    have t4 : IntKind.i64.wrap (x + 4) = x + 4 := IntWalk.i64_in _ (by omega)
    clear h1 h2 b3 e0 hx
    go_enter Try.func29, Try.ntmps29
    go_wp2_with fail
    refine (sIn_any _ _ _ _).mono ?_
    rintro e w' ⟨rfl, rfl⟩
    rw [H1.out]
    go_wp2_with fail
    refine (sNode_any _ _).mono ?_
    rintro e w' ⟨rfl, rfl⟩
    rw [H2.out]
    go_wp2_with fail
    refine (sBallotOf_c (r / 4) n _).mono ?_
    rintro e w' ⟨rfl, rfl⟩
    rw [HX.out]
    go_wp2
    go_ret
    exact ⟨ret_eq (by rw [HO.out]; rfl), rfl⟩
  case neg =>
    have HO : Hid (ballotAbove r n = x + 4) := by show _ = _; unfold ballotAbove; rw [if_pos ⟨h1, h2⟩, hx, if_neg hc]
    have HX := Lib.hid hx
    have g : decide (r < x) = false := decide_eq_false hc
    have t4 : IntKind.i64.wrap (x + 4) = x + 4 := IntWalk.i64_in _ (by omega)
    clear h1 h2 b3 e0 hx
    go_enter Try.func29, Try.ntmps29
    go_wp2_with fail
    refine (sIn_any _ _ _ _).mono ?_
    rintro e w' ⟨rfl, rfl⟩
    rw [H1.out]
    go_wp2_with fail
    refine (sNode_any _ _).mono ?_
    rintro e w' ⟨rfl, rfl⟩
    rw [H2.out]
    go_wp2_with fail
    refine (sBallotOf_c (r / 4) n _).mono ?_
    rintro e w' ⟨rfl, rfl⟩
    rw [HX.out]
    go_wp2
    go_ret
    exact ⟨ret_eq (by rw [HO.out]; rfl), rfl⟩

set_option maxHeartbeats 1000000 in
theorem sAccOk_c {w : World} {v : Value} {a : MAcc} (h : RV accL w v a) : Calls Try.prog 30 #[v] w fun e w' => e = .returned (.bool (accOkB a)) ∧ Below w.heap.size w w' := by
  obtain rfl := rv_acc h
  clear h
  obtain ⟨wa, hwa, B0, sa, x_a⟩ := frame1 w 33 [.int .i64 a.Prom, .int .i64 a.Bal, .int .i64 a.Val]
  have sa_1 := Nat.le_of_eq sa
  have sa_2 := Nat.le_of_eq sa.symm
  clear sa
  have c_a_0_wa := x_a.cell (i := 0) rfl
  have c_a_1_wa := x_a.cell (i := 1) rfl
  have c_a_2_wa := x_a.cell (i := 2) rfl
  by_cases hP : numB a.Prom = true
  case neg =>
    replace hP : numB a.Prom = false := by simpa using hP
    have HP := Lib.hid hP
    have HO : Hid (accOkB a = false) := by show _ = _; unfold accOkB; rw [hP]; rfl
    clear hP
    go_enter Try.func30, Try.ntmps30
    go_wp2_with fail
    refine (sNum_any _ _).mono ?_
    rintro e w' ⟨rfl, rfl⟩
    rw [HP.out]
    go_wp2
    go_ret
    exact ⟨ret_eq (by rw [HO.out]; rfl), B0⟩
  have HP := Lib.hid hP
  by_cases hB : inB a.Bal 0 a.Prom = true
  case neg =>
    replace hB : inB a.Bal 0 a.Prom = false := by simpa using hB
    have HB := Lib.hid hB
    have HO : Hid (accOkB a = false) := by show _ = _; unfold accOkB; rw [hB]; simp
    clear hP hB
    go_enter Try.func30, Try.ntmps30
    go_wp2_with fail
    refine (sNum_any _ _).mono ?_
    rintro e w' ⟨rfl, rfl⟩
    rw [HP.out]
    go_wp2_with fail
    refine (sIn_any _ _ _ _).mono ?_
    rintro e w' ⟨rfl, rfl⟩
    rw [HB.out]
    go_wp2
    go_ret
    exact ⟨ret_eq (by rw [HO.out]; rfl), B0⟩
  have HB := Lib.hid hB
  have bB := inB_true.1 hB
  by_cases h0 : a.Val = 0
  case pos =>
    have hV : inB a.Val 1 4 = false := inB_false.2 (by omega)
    have HV := Lib.hid hV
    have g0 : (a.Val == 0) = true := by simpa using h0
    by_cases h1 : a.Bal = 0
    case pos =>
      have HO : Hid (accOkB a = true) := by show _ = _; unfold accOkB; rw [hP, hB, hV, decide_eq_true h0, decide_eq_true h1]; rfl
      have g1 : (a.Bal == 0) = true := by simpa using h1
      clear h0 h1 hP hB hV
      go_enter Try.func30, Try.ntmps30
      go_wp2_with fail
      refine (sNum_any _ _).mono ?_
      rintro e w' ⟨rfl, rfl⟩
      rw [HP.out]
      go_wp2_with fail
      refine (sIn_any _ _ _ _).mono ?_
      rintro e w' ⟨rfl, rfl⟩
      rw [HB.out]
      go_wp2_with fail
      refine (sVal_any _ _).mono ?_
      rintro e w' ⟨rfl, rfl⟩
      rw [HV.out]
      go_wp2
      go_ret
      exact ⟨ret_eq (by rw [HO.out]; rfl), B0⟩
    case neg =>
      have HO : Hid (accOkB a = false) := by show _ = _; unfold accOkB; rw [hP, hB, hV, decide_eq_true h0, decide_eq_false h1]; rfl
      have g1 : (a.Bal == 0) = false := by simpa using h1
      clear h0 h1 hP hB hV
      go_enter Try.func30, Try.ntmps30
      go_wp2_with fail
      refine (sNum_any _ _).mono ?_
      rintro e w' ⟨rfl, rfl⟩
      rw [HP.out]
      go_wp2_with fail
      refine (sIn_any _ _ _ _).mono ?_
      rintro e w' ⟨rfl, rfl⟩
      rw [HB.out]
      go_wp2_with fail
      refine (sVal_any _ _).mono ?_
      rintro e w' ⟨rfl, rfl⟩
      rw [HV.out]
      go_wp2
      go_ret
      exact ⟨ret_eq (by rw [HO.out]; rfl), B0⟩
  have g0 : (a.Val == 0) = false := by simpa using h0
  by_cases hV : inB a.Val 1 4 = true
  case neg =>
    replace hV : inB a.Val 1 4 = false := by simpa using hV
    have HV := Lib.hid hV
    have HO : Hid (accOkB a = false) := by show _ = _; unfold accOkB; rw [hV, decide_eq_false h0]; simp
    clear h0 hP hB hV
    go_enter Try.func30, Try.ntmps30
    go_wp2_with fail
    refine (sNum_any _ _).mono ?_
    rintro e w' ⟨rfl, rfl⟩
    rw [HP.out]
    go_wp2_with fail
    refine (sIn_any _ _ _ _).mono ?_
    rintro e w' ⟨rfl, rfl⟩
    rw [HB.out]
    go_wp2_with fail
    refine (sVal_any _ _).mono ?_
    rintro e w' ⟨rfl, rfl⟩
    rw [HV.out]
    go_wp2
    go_ret
    exact ⟨ret_eq (by rw [HO.out]; rfl), B0⟩
  have HV := Lib.hid hV
  by_cases h1 : 0 < a.Bal
  case pos =>
    have HO : Hid (accOkB a = true) := by show _ = _; unfold accOkB; rw [hP, hB, hV, decide_eq_false h0, decide_eq_true h1]; rfl
    have g1 : decide (0 < a.Bal) = true := decide_eq_true h1
    clear h0 h1 hP hB hV
    go_enter Try.func30, Try.ntmps30
    go_wp2_with fail
    refine (sNum_any _ _).mono ?_
    rintro e w' ⟨rfl, rfl⟩
    rw [HP.out]
    go_wp2_with fail
    refine (sIn_any _ _ _ _).mono ?_
    rintro e w' ⟨rfl, rfl⟩
    rw [HB.out]
    go_wp2_with fail
    refine (sVal_any _ _).mono ?_
    rintro e w' ⟨rfl, rfl⟩
    rw [HV.out]
    go_wp2
    go_ret
    exact ⟨ret_eq (by rw [HO.out]; rfl), B0⟩
  case neg =>
    have HO : Hid (accOkB a = false) := by show _ = _; unfold accOkB; rw [hP, hB, hV, decide_eq_false h0, decide_eq_false h1]; rfl
    have g1 : decide (0 < a.Bal) = false := decide_eq_false h1
    clear h0 h1 hP hB hV
    go_enter Try.func30, Try.ntmps30
    go_wp2_with fail
    refine (sNum_any _ _).mono ?_
    rintro e w' ⟨rfl, rfl⟩
    rw [HP.out]
    go_wp2_with fail
    refine (sIn_any _ _ _ _).mono ?_
    rintro e w' ⟨rfl, rfl⟩
    rw [HB.out]
    go_wp2_with fail
    refine (sVal_any _ _).mono ?_
    rintro e w' ⟨rfl, rfl⟩
    rw [HV.out]
    go_wp2
    go_ret
    exact ⟨ret_eq (by rw [HO.out]; rfl), B0⟩

set_option maxHeartbeats 2000000 in
theorem sAccPrep_c {w : World} {v : Value} {a : MAcc} {b : Int} (h : RV accL w v a) : Calls Try.prog 32 #[v, .int .i64 b] w (NewVB accL w (accPrep a b) (accPrepB a b)) := by
  have h0 := h
  obtain rfl := rv_acc h
  clear h
  obtain ⟨wa, hwa, B0, sa, x_a, x_r⟩ := frame2 w 33 [.int .i64 a.Prom, .int .i64 a.Bal, .int .i64 a.Val] 33 [.int .i64 0, .int .i64 0, .int .i64 0]
  have sa_1 := Nat.le_of_eq sa
  have sa_2 := Nat.le_of_eq sa.symm
  clear sa
  have c_a_0_wa := x_a.cell (i := 0) rfl
  have f_a_0_wa := x_a.frozen 0
  have c_a_1_wa := x_a.cell (i := 1) rfl
  have f_a_1_wa := x_a.frozen 1
  have c_a_2_wa := x_a.cell (i := 2) rfl
  have f_a_2_wa := x_a.frozen 2
  have c_r_0_wa := x_r.cell (i := 0) rfl
  have f_r_0_wa := x_r.frozen 0
  have c_r_1_wa := x_r.cell (i := 1) rfl
  have f_r_1_wa := x_r.frozen 1
  have c_r_2_wa := x_r.cell (i := 2) rfl
  have f_r_2_wa := x_r.frozen 2
  by_cases hK : accOkB a = true
  case neg =>
    replace hK : accOkB a = false := by simpa using hK
    have HK := Lib.hid hK
    have HB9 : Hid (accPrepB a b = false) := by show _ = _; unfold accPrepB; rw [hK]; simp
    have HM : Hid (accPrep a b = accZ) := if_neg (by rw [HB9.out]; decide)
    clear hK
    go_enter Try.func32, Try.ntmps32
    go_wp2_with fail
    refine (sAccOk_c (h0.from_ B0)).mono ?_
    rintro e w1 ⟨rfl, h_w1⟩
    clear c_a_0_wa f_a_0_wa c_a_1_wa f_a_1_wa c_a_2_wa f_a_2_wa c_r_0_wa f_r_0_wa c_r_1_wa f_r_1_wa c_r_2_wa f_r_2_wa
    replace x_a := x_a.from_ h_w1
    replace x_r := x_r.from_ h_w1
    have B_w1 := B0.trans (h_w1.mono B0.size)
    have s_w1 := h_w1.size
    rw [HK.out]
    have c_a_0_w1 := x_a.cell (i := 0) rfl
    have f_a_0_w1 := x_a.frozen 0
    have c_a_1_w1 := x_a.cell (i := 1) rfl
    have f_a_1_w1 := x_a.frozen 1
    have c_a_2_w1 := x_a.cell (i := 2) rfl
    have f_a_2_w1 := x_a.frozen 2
    have c_r_0_w1 := x_r.cell (i := 0) rfl
    have f_r_0_w1 := x_r.frozen 0
    have c_r_1_w1 := x_r.cell (i := 1) rfl
    have f_r_1_w1 := x_r.frozen 1
    have c_r_2_w1 := x_r.cell (i := 2) rfl
    have f_r_2_w1 := x_r.frozen 2
    have i_r_0 := x_r.same (i := 0) rfl
    have i_r_1 := x_r.same (i := 1) rfl
    have i_r_2 := x_r.same (i := 2) rfl
    go_wp2
    refine ret_cell_tmp (by rfl) (by rfl) x_r Try.underlying33 sz_acc (by rfl) ?_
    rw [HM.out, HB9.out]
    exact ⟨_, rfl, ov_acc (d := accZ) (Nat.le_refl _), B_w1⟩
  have HK := Lib.hid hK
  by_cases hN : numB b = true
  case neg =>
    replace hN : numB b = false := by simpa using hN
    have HN := Lib.hid hN
    have HB9 : Hid (accPrepB a b = false) := by show _ = _; unfold accPrepB; rw [hN]; simp
    have HM : Hid (accPrep a b = accZ) := if_neg (by rw [HB9.out]; decide)
    clear hK hN
    go_enter Try.func32, Try.ntmps32
    go_wp2_with fail
    refine (sAccOk_c (h0.from_ B0)).mono ?_
    rintro e w1 ⟨rfl, h_w1⟩
    clear c_a_0_wa f_a_0_wa c_a_1_wa f_a_1_wa c_a_2_wa f_a_2_wa c_r_0_wa f_r_0_wa c_r_1_wa f_r_1_wa c_r_2_wa f_r_2_wa
    replace x_a := x_a.from_ h_w1
    replace x_r := x_r.from_ h_w1
    have B_w1 := B0.trans (h_w1.mono B0.size)
    have s_w1 := h_w1.size
    rw [HK.out]
    have c_a_0_w1 := x_a.cell (i := 0) rfl
    have f_a_0_w1 := x_a.frozen 0
    have c_a_1_w1 := x_a.cell (i := 1) rfl
    have f_a_1_w1 := x_a.frozen 1
    have c_a_2_w1 := x_a.cell (i := 2) rfl
    have f_a_2_w1 := x_a.frozen 2
    have c_r_0_w1 := x_r.cell (i := 0) rfl
    have f_r_0_w1 := x_r.frozen 0
    have c_r_1_w1 := x_r.cell (i := 1) rfl
    have f_r_1_w1 := x_r.frozen 1
    have c_r_2_w1 := x_r.cell (i := 2) rfl
    have f_r_2_w1 := x_r.frozen 2
    go_wp2_with fail
    refine (sNum_any _ _).mono ?_
    rintro e w' ⟨rfl, rfl⟩
    rw [HN.out]
    have i_r_0 := x_r.same (i := 0) rfl
    have i_r_1 := x_r.same (i := 1) rfl
    have i_r_2 := x_r.same (i := 2) rfl
    go_wp2
    refine ret_cell_tmp (by rfl) (by rfl) x_r Try.underlying33 sz_acc (by rfl) ?_
    rw [HM.out, HB9.out]
    exact ⟨_, rfl, ov_acc (d := accZ) (Nat.le_refl _), B_w1⟩
  have HN := Lib.hid hN
  by_cases hD : decide (a.Prom < b) = true
  case neg =>
    replace hD : decide (a.Prom < b) = false := by simpa using hD
    have HD := Lib.hid hD
    have HB9 : Hid (accPrepB a b = false) := by show _ = _; unfold accPrepB; rw [hD]; simp
    have HM : Hid (accPrep a b = accZ) := if_neg (by rw [HB9.out]; decide)
    clear hK hN hD
    have gq : decide (b ≤ a.Prom) = true := decide_eq_true (by have := of_decide_eq_false HD.out; omega)
    go_enter Try.func32, Try.ntmps32
    go_wp2_with fail
    refine (sAccOk_c (h0.from_ B0)).mono ?_
    rintro e w1 ⟨rfl, h_w1⟩
    clear c_a_0_wa f_a_0_wa c_a_1_wa f_a_1_wa c_a_2_wa f_a_2_wa c_r_0_wa f_r_0_wa c_r_1_wa f_r_1_wa c_r_2_wa f_r_2_wa
    replace x_a := x_a.from_ h_w1
    replace x_r := x_r.from_ h_w1
    have B_w1 := B0.trans (h_w1.mono B0.size)
    have s_w1 := h_w1.size
    rw [HK.out]
    have c_a_0_w1 := x_a.cell (i := 0) rfl
    have f_a_0_w1 := x_a.frozen 0
    have c_a_1_w1 := x_a.cell (i := 1) rfl
    have f_a_1_w1 := x_a.frozen 1
    have c_a_2_w1 := x_a.cell (i := 2) rfl
    have f_a_2_w1 := x_a.frozen 2
    have c_r_0_w1 := x_r.cell (i := 0) rfl
    have f_r_0_w1 := x_r.frozen 0
    have c_r_1_w1 := x_r.cell (i := 1) rfl
    have f_r_1_w1 := x_r.frozen 1
    have c_r_2_w1 := x_r.cell (i := 2) rfl
    have f_r_2_w1 := x_r.frozen 2
    go_wp2_with fail
    refine (sNum_any _ _).mono ?_
    rintro e w' ⟨rfl, rfl⟩
    rw [HN.out]
    have i_r_0 := x_r.same (i := 0) rfl
    have i_r_1 := x_r.same (i := 1) rfl
    have i_r_2 := x_r.same (i := 2) rfl
    go_wp2
    refine ret_cell_tmp (by rfl) (by rfl) x_r Try.underlying33 sz_acc (by rfl) ?_
    rw [HM.out, HB9.out]
    exact ⟨_, rfl, ov_acc (d := accZ) (Nat.le_refl _), B_w1⟩
  have HD := Lib.hid hD
  have HB9 : Hid (accPrepB a b = true) := by show _ = _; unfold accPrepB; rw [hK, hN, hD]; rfl
  have HM : Hid (accPrep a b = ⟨b, a.Bal, a.Val⟩) := if_pos HB9.out
  clear hK hN hD
  have gq : decide (b ≤ a.Prom) = false := decide_eq_false (by have := of_decide_eq_true HD.out; omega)
  go_enter Try.func32, Try.ntmps32
  go_wp2_with fail
  refine (sAccOk_c (h0.from_ B0)).mono ?_
  rintro e w1 ⟨rfl, h_w1⟩
  clear c_a_0_wa f_a_0_wa c_a_1_wa f_a_1_wa c_a_2_wa f_a_2_wa c_r_0_wa f_r_0_wa c_r_1_wa f_r_1_wa c_r_2_wa f_r_2_wa
  replace x_a := x_a.from_ h_w1
  replace x_r := x_r.from_ h_w1
  have B_w1 := B0.trans (h_w1.mono B0.size)
  have s_w1 := h_w1.size
  rw [HK.out]
  have c_a_0_w1 := x_a.cell (i := 0) rfl
  have f_a_0_w1 := x_a.frozen 0
  have c_a_1_w1 := x_a.cell (i := 1) rfl
  have f_a_1_w1 := x_a.frozen 1
  have c_a_2_w1 := x_a.cell (i := 2) rfl
  have f_a_2_w1 := x_a.frozen 2
  have c_r_0_w1 := x_r.cell (i := 0) rfl
  have f_r_0_w1 := x_r.frozen 0
  have c_r_1_w1 := x_r.cell (i := 1) rfl
  have f_r_1_w1 := x_r.frozen 1
  have c_r_2_w1 := x_r.cell (i := 2) rfl
  have f_r_2_w1 := x_r.frozen 2
  go_wp2_with fail
  refine (sNum_any _ _).mono ?_
  rintro e w' ⟨rfl, rfl⟩
  rw [HN.out]
  obtain ⟨w2, e_w2, s_w2, h_w2, y⟩ := store_step x_r [.int .i64 b, .int .i64 a.Bal, .int .i64 a.Val] rfl
  replace e_w2 : (((w1.setCell ⟨w.heap.size + 1, 0, none⟩ (.int .i64 b)).setCell ⟨w.heap.size + 1, 1, none⟩ (.int .i64 a.Bal)).setCell ⟨w.heap.size + 1, 2, none⟩ (.int .i64 a.Val)) = w2 := e_w2
  have s_w2_1 := Nat.le_of_eq s_w2
  have s_w2_2 := Nat.le_of_eq s_w2.symm
  clear s_w2
  replace x_a := x_a.chg h_w2 (by omega)
  have B_w2 := Below.chg_ B_w1 h_w2 (by omega) (by omega)
  replace x_r : Vr w2 (w.heap.size + 1) 33 [.int .i64 b, .int .i64 a.Bal, .int .i64 a.Val] := y
  clear y
  have c_r_0_w2 := x_r.cell (i := 0) rfl
  have f_r_0_w2 := x_r.frozen 0
  have c_r_1_w2 := x_r.cell (i := 1) rfl
  have f_r_1_w2 := x_r.frozen 1
  have c_r_2_w2 := x_r.cell (i := 2) rfl
  have f_r_2_w2 := x_r.frozen 2
  go_wp2
  refine ret_cell_tmp (by rfl) (by rfl) x_r Try.underlying33 sz_acc (by rfl) ?_
  rw [HM.out, HB9.out]
  exact ⟨_, rfl, ov_acc (d := ⟨b, a.Bal, a.Val⟩) (Nat.le_refl _), B_w2⟩

set_option maxHeartbeats 2000000 in
theorem sAccTake_c {w : World} {v : Value} {a : MAcc} {b u : Int} (h : RV accL w v a) : Calls Try.prog 34 #[v, .int .i64 b, .int .i64 u] w (NewVB accL w (accTake a b u) (accTakeB a b u)) := by
  have h0 := h
  obtain rfl := rv_acc h
  clear h
  obtain ⟨wa, hwa, B0, sa, x_a, x_r⟩ := frame2 w 33 [.int .i64 a.Prom, .int .i64 a.Bal, .int .i64 a.Val] 33 [.int .i64 0, .int .i64 0, .int .i64 0]
  have sa_1 := Nat.le_of_eq sa
  have sa_2 := Nat.le_of_eq sa.symm
  clear sa
  have c_a_0_wa := x_a.cell (i := 0) rfl
  have f_a_0_wa := x_a.frozen 0
  have c_a_1_wa := x_a.cell (i := 1) rfl
  have f_a_1_wa := x_a.frozen 1
  have c_a_2_wa := x_a.cell (i := 2) rfl
  have f_a_2_wa := x_a.frozen 2
  have c_r_0_wa := x_r.cell (i := 0) rfl
  have f_r_0_wa := x_r.frozen 0
  have c_r_1_wa := x_r.cell (i := 1) rfl
  have f_r_1_wa := x_r.frozen 1
  have c_r_2_wa := x_r.cell (i := 2) rfl
  have f_r_2_wa := x_r.frozen 2
  by_cases hK : accOkB a = true
  case neg =>
    replace hK : accOkB a = false := by simpa using hK
    have HK := Lib.hid hK
    have HB9 : Hid (accTakeB a b u = false) := by show _ = _; unfold accTakeB; rw [hK]; simp
    have HM : Hid (accTake a b u = accZ) := if_neg (by rw [HB9.out]; decide)
    clear hK
    go_enter Try.func34, Try.ntmps34
    go_wp2_with fail
    refine (sAccOk_c (h0.from_ B0)).mono ?_
    rintro e w1 ⟨rfl, h_w1⟩
    clear c_a_0_wa f_a_0_wa c_a_1_wa f_a_1_wa c_a_2_wa f_a_2_wa c_r_0_wa f_r_0_wa c_r_1_wa f_r_1_wa c_r_2_wa f_r_2_wa
    replace x_a := x_a.from_ h_w1
    replace x_r := x_r.from_ h_w1
    have B_w1 := B0.trans (h_w1.mono B0.size)
    have s_w1 := h_w1.size
    rw [HK.out]
    have c_a_0_w1 := x_a.cell (i := 0) rfl
    have f_a_0_w1 := x_a.frozen 0
    have c_a_1_w1 := x_a.cell (i := 1) rfl
    have f_a_1_w1 := x_a.frozen 1
    have c_a_2_w1 := x_a.cell (i := 2) rfl
    have f_a_2_w1 := x_a.frozen 2
    have c_r_0_w1 := x_r.cell (i := 0) rfl
    have f_r_0_w1 := x_r.frozen 0
    have c_r_1_w1 := x_r.cell (i := 1) rfl
    have f_r_1_w1 := x_r.frozen 1
    have c_r_2_w1 := x_r.cell (i := 2) rfl
    have f_r_2_w1 := x_r.frozen 2
    have i_r_0 := x_r.same (i := 0) rfl
    have i_r_1 := x_r.same (i := 1) rfl
    have i_r_2 := x_r.same (i := 2) rfl
    go_wp2
    refine ret_cell_tmp (by rfl) (by rfl) x_r Try.underlying33 sz_acc (by rfl) ?_
    rw [HM.out, HB9.out]
    exact ⟨_, rfl, ov_acc (d := accZ) (Nat.le_refl _), B_w1⟩
  have HK := Lib.hid hK
  by_cases hV : inB u 1 4 = true
  case neg =>
    replace hV : inB u 1 4 = false := by simpa using hV
    have HV := Lib.hid hV
    have HB9 : Hid (accTakeB a b u = false) := by show _ = _; unfold accTakeB; rw [hV]; simp
    have HM : Hid (accTake a b u = accZ) := if_neg (by rw [HB9.out]; decide)
    clear hK hV
    go_enter Try.func34, Try.ntmps34
    go_wp2_with fail
    refine (sAccOk_c (h0.from_ B0)).mono ?_
    rintro e w1 ⟨rfl, h_w1⟩
    clear c_a_0_wa f_a_0_wa c_a_1_wa f_a_1_wa c_a_2_wa f_a_2_wa c_r_0_wa f_r_0_wa c_r_1_wa f_r_1_wa c_r_2_wa f_r_2_wa
    replace x_a := x_a.from_ h_w1
    replace x_r := x_r.from_ h_w1
    have B_w1 := B0.trans (h_w1.mono B0.size)
    have s_w1 := h_w1.size
    rw [HK.out]
    have c_a_0_w1 := x_a.cell (i := 0) rfl
    have f_a_0_w1 := x_a.frozen 0
    have c_a_1_w1 := x_a.cell (i := 1) rfl
    have f_a_1_w1 := x_a.frozen 1
    have c_a_2_w1 := x_a.cell (i := 2) rfl
    have f_a_2_w1 := x_a.frozen 2
    have c_r_0_w1 := x_r.cell (i := 0) rfl
    have f_r_0_w1 := x_r.frozen 0
    have c_r_1_w1 := x_r.cell (i := 1) rfl
    have f_r_1_w1 := x_r.frozen 1
    have c_r_2_w1 := x_r.cell (i := 2) rfl
    have f_r_2_w1 := x_r.frozen 2
    go_wp2_with fail
    refine (sVal_any _ _).mono ?_
    rintro e w' ⟨rfl, rfl⟩
    rw [HV.out]
    have i_r_0 := x_r.same (i := 0) rfl
    have i_r_1 := x_r.same (i := 1) rfl
    have i_r_2 := x_r.same (i := 2) rfl
    go_wp2
    refine ret_cell_tmp (by rfl) (by rfl) x_r Try.underlying33 sz_acc (by rfl) ?_
    rw [HM.out, HB9.out]
    exact ⟨_, rfl, ov_acc (d := accZ) (Nat.le_refl _), B_w1⟩
  have HV := Lib.hid hV
  by_cases hN : inB b 1 1125899906842624 = true
  case neg =>
    replace hN : inB b 1 1125899906842624 = false := by simpa using hN
    have HN := Lib.hid hN
    have HB9 : Hid (accTakeB a b u = false) := by show _ = _; unfold accTakeB; rw [hN]; simp
    have HM : Hid (accTake a b u = accZ) := if_neg (by rw [HB9.out]; decide)
    clear hK hV hN
    go_enter Try.func34, Try.ntmps34
    go_wp2_with fail
    refine (sAccOk_c (h0.from_ B0)).mono ?_
    rintro e w1 ⟨rfl, h_w1⟩
    clear c_a_0_wa f_a_0_wa c_a_1_wa f_a_1_wa c_a_2_wa f_a_2_wa c_r_0_wa f_r_0_wa c_r_1_wa f_r_1_wa c_r_2_wa f_r_2_wa
    replace x_a := x_a.from_ h_w1
    replace x_r := x_r.from_ h_w1
    have B_w1 := B0.trans (h_w1.mono B0.size)
    have s_w1 := h_w1.size
    rw [HK.out]
    have c_a_0_w1 := x_a.cell (i := 0) rfl
    have f_a_0_w1 := x_a.frozen 0
    have c_a_1_w1 := x_a.cell (i := 1) rfl
    have f_a_1_w1 := x_a.frozen 1
    have c_a_2_w1 := x_a.cell (i := 2) rfl
    have f_a_2_w1 := x_a.frozen 2
    have c_r_0_w1 := x_r.cell (i := 0) rfl
    have f_r_0_w1 := x_r.frozen 0
    have c_r_1_w1 := x_r.cell (i := 1) rfl
    have f_r_1_w1 := x_r.frozen 1
    have c_r_2_w1 := x_r.cell (i := 2) rfl
    have f_r_2_w1 := x_r.frozen 2
    go_wp2_with fail
    refine (sVal_any _ _).mono ?_
    rintro e w' ⟨rfl, rfl⟩
    rw [HV.out]
    go_wp2_with fail
    refine (sIn_any _ _ _ _).mono ?_
    rintro e w' ⟨rfl, rfl⟩
    rw [HN.out]
    have i_r_0 := x_r.same (i := 0) rfl
    have i_r_1 := x_r.same (i := 1) rfl
    have i_r_2 := x_r.same (i := 2) rfl
    go_wp2
    refine ret_cell_tmp (by rfl) (by rfl) x_r Try.underlying33 sz_acc (by rfl) ?_
    rw [HM.out, HB9.out]
    exact ⟨_, rfl, ov_acc (d := accZ) (Nat.le_refl _), B_w1⟩
  have HN := Lib.hid hN
  by_cases hD : decide (a.Prom ≤ b) = true
  case neg =>
    replace hD : decide (a.Prom ≤ b) = false := by simpa using hD
    have HD := Lib.hid hD
    have HB9 : Hid (accTakeB a b u = false) := by show _ = _; unfold accTakeB; rw [hD]; simp
    have HM : Hid (accTake a b u = accZ) := if_neg (by rw [HB9.out]; decide)
    clear hK hV hN hD
    have gq : decide (b < a.Prom) = true := decide_eq_true (by have := of_decide_eq_false HD.out; omega)
    go_enter Try.func34, Try.ntmps34
    go_wp2_with fail
    refine (sAccOk_c (h0.from_ B0)).mono ?_
    rintro e w1 ⟨rfl, h_w1⟩
    clear c_a_0_wa f_a_0_wa c_a_1_wa f_a_1_wa c_a_2_wa f_a_2_wa c_r_0_wa f_r_0_wa c_r_1_wa f_r_1_wa c_r_2_wa f_r_2_wa
    replace x_a := x_a.from_ h_w1
    replace x_r := x_r.from_ h_w1
    have B_w1 := B0.trans (h_w1.mono B0.size)
    have s_w1 := h_w1.size
    rw [HK.out]
    have c_a_0_w1 := x_a.cell (i := 0) rfl
    have f_a_0_w1 := x_a.frozen 0
    have c_a_1_w1 := x_a.cell (i := 1) rfl
    have f_a_1_w1 := x_a.frozen 1
    have c_a_2_w1 := x_a.cell (i := 2) rfl
    have f_a_2_w1 := x_a.frozen 2
    have c_r_0_w1 := x_r.cell (i := 0) rfl
    have f_r_0_w1 := x_r.frozen 0
    have c_r_1_w1 := x_r.cell (i := 1) rfl
    have f_r_1_w1 := x_r.frozen 1
    have c_r_2_w1 := x_r.cell (i := 2) rfl
    have f_r_2_w1 := x_r.frozen 2
    go_wp2_with fail
    refine (sVal_any _ _).mono ?_
    rintro e w' ⟨rfl, rfl⟩
    rw [HV.out]
    go_wp2_with fail
    refine (sIn_any _ _ _ _).mono ?_
    rintro e w' ⟨rfl, rfl⟩
    rw [HN.out]
    have i_r_0 := x_r.same (i := 0) rfl
    have i_r_1 := x_r.same (i := 1) rfl
    have i_r_2 := x_r.same (i := 2) rfl
    go_wp2
    refine ret_cell_tmp (by rfl) (by rfl) x_r Try.underlying33 sz_acc (by rfl) ?_
    rw [HM.out, HB9.out]
    exact ⟨_, rfl, ov_acc (d := accZ) (Nat.le_refl _), B_w1⟩
  have HD := Lib.hid hD
  have HB9 : Hid (accTakeB a b u = true) := by show _ = _; unfold accTakeB; rw [hK, hV, hN, hD]; rfl
  have HM : Hid (accTake a b u = ⟨b, b, u⟩) := if_pos HB9.out
  clear hK hV hN hD
  have gq : decide (b < a.Prom) = false := decide_eq_false (by have := of_decide_eq_true HD.out; omega)
  go_enter Try.func34, Try.ntmps34
  go_wp2_with fail
  refine (sAccOk_c (h0.from_ B0)).mono ?_
  rintro e w1 ⟨rfl, h_w1⟩
  clear c_a_0_wa f_a_0_wa c_a_1_wa f_a_1_wa c_a_2_wa f_a_2_wa c_r_0_wa f_r_0_wa c_r_1_wa f_r_1_wa c_r_2_wa f_r_2_wa
  replace x_a := x_a.from_ h_w1
  replace x_r := x_r.from_ h_w1
  have B_w1 := B0.trans (h_w1.mono B0.size)
  have s_w1 := h_w1.size
  rw [HK.out]
  have c_a_0_w1 := x_a.cell (i := 0) rfl
  have f_a_0_w1 := x_a.frozen 0
  have c_a_1_w1 := x_a.cell (i := 1) rfl
  have f_a_1_w1 := x_a.frozen 1
  have c_a_2_w1 := x_a.cell (i := 2) rfl
  have f_a_2_w1 := x_a.frozen 2
  have c_r_0_w1 := x_r.cell (i := 0) rfl
  have f_r_0_w1 := x_r.frozen 0
  have c_r_1_w1 := x_r.cell (i := 1) rfl
  have f_r_1_w1 := x_r.frozen 1
  have c_r_2_w1 := x_r.cell (i := 2) rfl
  have f_r_2_w1 := x_r.frozen 2
  go_wp2_with fail
  refine (sVal_any _ _).mono ?_
  rintro e w' ⟨rfl, rfl⟩
  rw [HV.out]
  go_wp2_with fail
  refine (sIn_any _ _ _ _).mono ?_
  rintro e w' ⟨rfl, rfl⟩
  rw [HN.out]
  obtain ⟨w2, e_w2, s_w2, h_w2, y⟩ := store_step x_r [.int .i64 b, .int .i64 b, .int .i64 u] rfl
  replace e_w2 : (((w1.setCell ⟨w.heap.size + 1, 0, none⟩ (.int .i64 b)).setCell ⟨w.heap.size + 1, 1, none⟩ (.int .i64 b)).setCell ⟨w.heap.size + 1, 2, none⟩ (.int .i64 u)) = w2 := e_w2
  have s_w2_1 := Nat.le_of_eq s_w2
  have s_w2_2 := Nat.le_of_eq s_w2.symm
  clear s_w2
  replace x_a := x_a.chg h_w2 (by omega)
  have B_w2 := Below.chg_ B_w1 h_w2 (by omega) (by omega)
  replace x_r : Vr w2 (w.heap.size + 1) 33 [.int .i64 b, .int .i64 b, .int .i64 u] := y
  clear y
  have c_r_0_w2 := x_r.cell (i := 0) rfl
  have f_r_0_w2 := x_r.frozen 0
  have c_r_1_w2 := x_r.cell (i := 1) rfl
  have f_r_1_w2 := x_r.frozen 1
  have c_r_2_w2 := x_r.cell (i := 2) rfl
  have f_r_2_w2 := x_r.frozen 2
  go_wp2
  refine ret_cell_tmp (by rfl) (by rfl) x_r Try.underlying33 sz_acc (by rfl) ?_
  rw [HM.out, HB9.out]
  exact ⟨_, rfl, ov_acc (d := ⟨b, b, u⟩) (Nat.le_refl _), B_w2⟩

end Go.Proofs.Ytaoedgcdcimibaa
