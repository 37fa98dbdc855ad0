/- Votes: the contracts of impl.isNode, isChoice, isBallot, isPromise, nodesOf, BallotOf, BallotAbove, IsMost, AccOk, AccPrep, AccTake. Laid by a program of ours (src/vti1.py). -/
import Derived.Test.YtaoedgcdcimibaaVt5
import Derived.IntWalk
namespace Go.Proofs.Ytaoedgcdcimibaa
open Go.RowKit
set_option linter.unusedVariables false

def promB (B b u : Int) : Bool := inB b 0 (B - 1) && !(decide (0 < b) && !inB u 1 4)
theorem wrange {x : Int} (h : -9223372036854775808 ≤ x ∧ x ≤ 9223372036854775807) : IntKind.i64.wrap x = x := IntWalk.i64_in _ (by omega)

theorem iNode_any (n : Int) (w : World) : Calls Try.prog 43 #[.int .i64 n] w fun e w' => e = .returned (.bool (inB n 0 3)) ∧ w = w' := by
  by_cases h0 : 0 ≤ n
  · by_cases h1 : n < 4
    · rw [inB_true.2 (by omega)]
      have i0 : decide (0 ≤ n) = true := decide_eq_true h0
      have i1 : decide (n < 4) = true := decide_eq_true h1
      go_enter Try.func43, Try.ntmps43
      go_wp2
      go_ret
      exact ⟨rfl, rfl⟩
    · rw [inB_false.2 (by omega)]
      have i0 : decide (0 ≤ n) = true := decide_eq_true h0
      have i1 : decide (n < 4) = false := decide_eq_false h1
      go_enter Try.func43, Try.ntmps43
      go_wp2
      go_ret
      exact ⟨rfl, rfl⟩
  · rw [inB_false.2 (by omega)]
    have i1 : decide (0 ≤ n) = false := decide_eq_false h0
    go_enter Try.func43, Try.ntmps43
    go_wp2
    go_ret
    exact ⟨rfl, rfl⟩

theorem iChoice_any (n : Int) (w : World) : Calls Try.prog 52 #[.int .i64 n] w fun e w' => e = .returned (.bool (inB n 1 4)) ∧ w = w' := by
  by_cases h0 : 1 ≤ n
  · by_cases h1 : n ≤ 4
    · rw [inB_true.2 (by omega)]
      have i0 : decide (1 ≤ n) = true := decide_eq_true h0
      have i1 : decide (n ≤ 4) = true := decide_eq_true h1
      go_enter Try.func52, Try.ntmps52
      go_wp2
      go_ret
      exact ⟨rfl, rfl⟩
    · rw [inB_false.2 (by omega)]
      have i0 : decide (1 ≤ n) = true := decide_eq_true h0
      have i1 : decide (n ≤ 4) = false := decide_eq_false h1
      go_enter Try.func52, Try.ntmps52
      go_wp2
      go_ret
      exact ⟨rfl, rfl⟩
  · rw [inB_false.2 (by omega)]
    have i1 : decide (1 ≤ n) = false := decide_eq_false h0
    go_enter Try.func52, Try.ntmps52
    go_wp2
    go_ret
    exact ⟨rfl, rfl⟩

theorem iBallot_any (n : Int) (w : World) : Calls Try.prog 53 #[.int .i64 n] w fun e w' => e = .returned (.bool (inB n 1 1125899906842624)) ∧ w = w' := by
  by_cases h0 : numB n = true
  · have b0 : 0 ≤ n ∧ n ≤ 1125899906842624 := by simpa [numB] using h0
    have H0 := Lib.hid h0
    clear h0
    by_cases h1 : 1 ≤ n
    · have HO : Hid (inB n 1 1125899906842624 = true) := inB_true.2 (by omega)
      have i1 : decide (1 ≤ n) = true := decide_eq_true h1
      go_enter Try.func53, Try.ntmps53
      go_wp2_with fail
      refine (iNum_any _ _).mono ?_
      rintro e w' ⟨rfl, rfl⟩
      rw [H0.out]
      go_wp2
      go_ret
      exact ⟨ret_eq (by rw [HO.out]; rfl), rfl⟩
    · have HO : Hid (inB n 1 1125899906842624 = false) := inB_false.2 (by omega)
      have i1 : decide (1 ≤ n) = false := decide_eq_false h1
      go_enter Try.func53, Try.ntmps53
      go_wp2_with fail
      refine (iNum_any _ _).mono ?_
      rintro e w' ⟨rfl, rfl⟩
      rw [H0.out]
      go_wp2
      go_ret
      exact ⟨ret_eq (by rw [HO.out]; rfl), rfl⟩
  · replace h0 : numB n = false := by simpa using h0
    have HO : Hid (inB n 1 1125899906842624 = false) := inB_false.2 (fun c => absurd (show numB n = true by simp [numB]; omega) (by rw [h0]; decide))
    have H0 := Lib.hid h0
    clear h0
    go_enter Try.func53, Try.ntmps53
    go_wp2_with fail
    refine (iNum_any _ _).mono ?_
    rintro e w' ⟨rfl, rfl⟩
    rw [H0.out]
    go_wp2
    go_ret
    exact ⟨ret_eq (by rw [HO.out]; rfl), rfl⟩

theorem iNodesOf_any (v : Value) (A : Option Addr) (n c : Nat) (hv : v = .slice A n c) (w : World) : Calls Try.prog 48 #[v] w fun e w' => e = .returned v ∧ w = w' := by
  subst hv
  go_enter Try.func48, Try.ntmps48
  go_wp2
  go_ret
  exact ⟨rfl, rfl⟩

theorem iProm_any (B b u : Int) (hB : 1 ≤ B) (w : World) : Calls Try.prog 50 #[.int .i64 B, .int .i64 b, .int .i64 u] w fun e w' => e = .returned (.bool (promB B b u)) ∧ w = w' := by
  by_cases h0 : b = 0
  · have HO : Hid (promB B b u = true) := by show _ = _; unfold promB; rw [inB_true.2 (by omega), decide_eq_false (by omega)]; rfl
    have i0 : (b == 0) = true := by simpa using h0
    clear h0
    go_enter Try.func50, Try.ntmps50
    go_wp2
    go_ret
    exact ⟨ret_eq (by rw [HO.out]; rfl), rfl⟩
  have i0 : (b == 0) = false := by simpa using h0
  by_cases h1 : 0 < b
  case neg =>
    have HO : Hid (promB B b u = false) := by show _ = _; unfold promB; rw [inB_false.2 (by omega)]; rfl
    have i1 : decide (0 < b) = false := decide_eq_false h1
    clear h0
    go_enter Try.func50, Try.ntmps50
    go_wp2
    go_ret
    exact ⟨ret_eq (by rw [HO.out]; rfl), rfl⟩
  have i1 : decide (0 < b) = true := decide_eq_true h1
  by_cases h2 : b < B
  case neg =>
    have HO : Hid (promB B b u = false) := by show _ = _; unfold promB; rw [inB_false.2 (by omega)]; rfl
    have i2 : decide (b < B) = false := decide_eq_false h2
    clear h0
    go_enter Try.func50, Try.ntmps50
    go_wp2
    go_ret
    exact ⟨ret_eq (by rw [HO.out]; rfl), rfl⟩
  have i2 : decide (b < B) = true := decide_eq_true h2
  have HO : Hid (promB B b u = inB u 1 4) := by show _ = _; unfold promB; rw [inB_true.2 (by omega), i1]; simp
  clear h0
  go_enter Try.func50, Try.ntmps50
  go_wp2_with fail
  refine (iChoice_any _ _).mono ?_
  rintro e w' ⟨rfl, rfl⟩
  go_wp2
  go_ret
  exact ⟨ret_eq (by rw [HO.out]; rfl), rfl⟩

set_option maxHeartbeats 1000000 in
theorem iBallotOf_x (r n : Int) (w : World) : Calls Try.prog 15 #[.int .i64 r, .int .i64 n] w fun e w' => e = .returned (.int .i64 (ballotOf r n)) ∧ w = w' := by
  by_cases h1 : r < 0
  case pos =>
    have HO : Hid (ballotOf r n = 0) := if_neg (fun c => by have := inB_true.1 c.1; omega)
    have i1 : decide (r < 0) = true := decide_eq_true h1
    go_enter Try.func15, Try.ntmps15
    go_wp2
    go_ret
    exact ⟨ret_eq (by rw [HO.out]; rfl), rfl⟩
  have i1 : decide (r < 0) = false := decide_eq_false h1
  by_cases h2 : 1000000000 < r
  case pos =>
    have HO : Hid (ballotOf r n = 0) := if_neg (fun c => by have := inB_true.1 c.1; omega)
    have i2 : decide (1000000000 < r) = true := decide_eq_true h2
    go_enter Try.func15, Try.ntmps15
    go_wp2
    go_ret
    exact ⟨ret_eq (by rw [HO.out]; rfl), rfl⟩
  have i2 : decide (1000000000 < r) = false := decide_eq_false h2
  by_cases h3 : inB n 0 3 = true
  case neg =>
    replace h3 : inB n 0 3 = false := by simpa using h3
    have HO : Hid (ballotOf r n = 0) := if_neg (fun c => by rw [h3] at c; exact absurd c.2 (by decide))
    have H3 := Lib.hid h3
    clear h3
    go_enter Try.func15, Try.ntmps15
    go_wp2_with fail
    refine (iNode_any _ _).mono ?_
    rintro e w' ⟨rfl, rfl⟩
    rw [H3.out]
    go_wp2
    go_ret
    exact ⟨ret_eq (by rw [HO.out]; rfl), rfl⟩
  have b3 := inB_true.1 h3
  have H3 := Lib.hid h3
  have b1 : inB r 0 1000000000 = true := inB_true.2 (by omega)
  have HO : Hid (ballotOf r n = r * 4 + n + 1) := if_pos ⟨b1, h3⟩
  clear h3 b1
  have t1 : IntKind.i64.wrap (r * 4) = r * 4 := wrange (by omega)
  have t2 : IntKind.i64.wrap (r * 4 + n) = r * 4 + n := wrange (by omega)
  have t3 : IntKind.i64.wrap (r * 4 + n + 1) = r * 4 + n + 1 := wrange (by omega)
  go_enter Try.func15, Try.ntmps15
  go_wp2_with fail
  refine (iNode_any _ _).mono ?_
  rintro e w' ⟨rfl, rfl⟩
  rw [H3.out]
  go_wp2
  go_ret
  exact ⟨ret_eq (by rw [HO.out]; rfl), rfl⟩

set_option maxHeartbeats 1000000 in
theorem iBallotAbove_x (r n : Int) (w : World) : Calls Try.prog 26 #[.int .i64 r, .int .i64 n] w fun e w' => e = .returned (.int .i64 (ballotAbove r n)) ∧ w = w' := by
  by_cases h1 : r < 0
  case pos =>
    have HO : Hid (ballotAbove r n = 0) := if_neg (fun c => by have := inB_true.1 c.1; omega)
    have i1 : decide (r < 0) = true := decide_eq_true h1
    go_enter Try.func26, Try.ntmps26
    go_wp2
    go_ret
    exact ⟨ret_eq (by rw [HO.out]; rfl), rfl⟩
  have i1 : decide (r < 0) = false := decide_eq_false h1
  by_cases h2 : 1000000000 < r
  case pos =>
    have HO : Hid (ballotAbove r n = 0) := if_neg (fun c => by have := inB_true.1 c.1; omega)
    have i2 : decide (1000000000 < r) = true := decide_eq_true h2
    go_enter Try.func26, Try.ntmps26
    go_wp2
    go_ret
    exact ⟨ret_eq (by rw [HO.out]; rfl), rfl⟩
  have i2 : decide (1000000000 < r) = false := decide_eq_false h2
  by_cases h3 : inB n 0 3 = true
  case neg =>
    replace h3 : inB n 0 3 = false := by simpa using h3
    have HO : Hid (ballotAbove r n = 0) := if_neg (fun c => by rw [h3] at c; exact absurd c.2 (by decide))
    have H3 := Lib.hid h3
    clear h3
    go_enter Try.func26, Try.ntmps26
    go_wp2_with fail
    refine (iNode_any _ _).mono ?_
    rintro e w' ⟨rfl, rfl⟩
    rw [H3.out]
    go_wp2
    go_ret
    exact ⟨ret_eq (by rw [HO.out]; rfl), rfl⟩
  have b3 := inB_true.1 h3
  have H3 := Lib.hid h3
  have b1 : inB r 0 1000000000 = true := inB_true.2 (by omega)
  obtain ⟨z, hz⟩ : ∃ z, z = r - n + 4 - 1 := ⟨_, rfl⟩
  have b4 : inB (z / 4) 0 1000000000 = true := inB_true.2 (by omega)
  have e0 : ballotOf (z / 4) n = z / 4 * 4 + n + 1 := if_pos ⟨b4, h3⟩
  have b5 : inB (r / 4) 0 1000000000 = true := inB_true.2 (by omega)
  have e1 : ballotOf (r / 4) n = r / 4 * 4 + n + 1 := if_pos ⟨b5, h3⟩
  have HO : Hid (ballotOf (z / 4) n = ballotAbove r n) := by
    show _ = _
    unfold ballotAbove
    rw [if_pos ⟨b1, h3⟩, e0, e1]
    split <;> omega
  clear h3 b1 b4 b5 e0 e1
  have t1 : IntKind.i64.wrap (r - n) = r - n := wrange (by omega)
  have t2 : IntKind.i64.wrap (r - n + 4) = r - n + 4 := wrange (by omega)
  have t3 : IntKind.i64.wrap (r - n + 4 - 1) = z := by rw [← hz]; exact wrange (by omega)
  have d2 : z.tdiv 4 = z / 4 := Int.tdiv_eq_ediv_of_nonneg (by omega)
  have d3 : IntKind.i64.wrap (z / 4) = z / 4 := wrange (by omega)
  have HZ := Lib.hid hz
  have bz : 0 ≤ z ∧ z ≤ 1000000003 := by omega
  clear hz
  go_enter Try.func26, Try.ntmps26
  go_wp2_with fail
  refine (iNode_any _ _).mono ?_
  rintro e w' ⟨rfl, rfl⟩
  rw [H3.out]
  go_wp2_with fail
  refine (iBallotOf_x (z / 4) n _).mono ?_
  rintro e w' ⟨rfl, rfl⟩
  rw [HO.out]
  go_wp2
  go_ret
  exact ⟨rfl, rfl⟩

theorem iBallotOf_c (r n : Int) (w : World) (hr : -9223372036854775808 ≤ r ∧ r ≤ 9223372036854775807) (hn : -9223372036854775808 ≤ n ∧ n ≤ 9223372036854775807) : Calls Try.prog 15 #[.int .i64 r, .int .i64 n] w fun e w' => e = .returned (.int .i64 (ballotOf r n)) ∧ Below w.heap.size w w' :=
  (iBallotOf_x r n w).mono (by rintro e w' ⟨rfl, rfl⟩; exact ⟨rfl, Below.refl _ _⟩)

theorem iBallotAbove_c (r n : Int) (w : World) (hr : -9223372036854775808 ≤ r ∧ r ≤ 9223372036854775807) (hn : -9223372036854775808 ≤ n ∧ n ≤ 9223372036854775807) : Calls Try.prog 26 #[.int .i64 r, .int .i64 n] w fun e w' => e = .returned (.int .i64 (ballotAbove r n)) ∧ Below w.heap.size w w' :=
  (iBallotAbove_x r n w).mono (by rintro e w' ⟨rfl, rfl⟩; exact ⟨rfl, Below.refl _ _⟩)

theorem iIsMost_x (k n : Int) (w : World) (hk : 0 ≤ k ∧ k ≤ 1099511627776) (hn : 0 ≤ n ∧ n ≤ 1000) : Calls Try.prog 27 #[.int .i64 k, .int .i64 n] w fun e w' => e = .returned (.bool (isMostB k n)) ∧ w = w' := by
  have HO : Hid (isMostB k n = decide (n / 2 < k)) := by
    show _ = _
    unfold isMostB
    rw [wrange (by omega)]
    exact decide_eq_decide.2 (by omega)
  have d3 : IntKind.i64.wrap (n / 2) = n / 2 := wrange (by omega)
  go_enter Try.func27, Try.ntmps27
  go_wp2
  go_ret
  exact ⟨ret_eq (by rw [HO.out]; rfl), rfl⟩

set_option maxHeartbeats 1000000 in
theorem iAccOk_c {w : World} {v : Value} {a : MAcc} (h : RV accL w v a) : Calls Try.prog 22 #[v] w fun e w' => e = .returned (.bool (accOkB a)) ∧ Below w.heap.size w w' := by
  obtain rfl := rv_acc h
  clear h
  obtain ⟨wa, hwa, B0, sa, x_a⟩ := frame1 w 33 [.int .i64 a.Prom, .int .i64 a.Bal, .int .i64 a.Val]
  have sa_1 := Nat.le_of_eq sa
  have sa_2 := Nat.le_of_eq sa.symm
  clear sa
  have c_a_0_wa := x_a.cell (i := 0) rfl
  have c_a_1_wa := x_a.cell (i := 1) rfl
  have c_a_2_wa := x_a.cell (i := 2) rfl
  by_cases h1 : a.Bal = 0
  case pos =>
    have i1 : (a.Bal == 0) = true := by simpa using h1
    by_cases h2 : a.Val = 0
    case pos =>
      have i2 : (a.Val == 0) = true := by simpa using h2
      have HO : Hid (accOkB a = numB a.Prom) := by
        show _ = _
        unfold accOkB
        rw [decide_eq_true h1, decide_eq_true h2]
        cases hp : numB a.Prom
        · rfl
        · have b0 : 0 ≤ a.Prom ∧ a.Prom ≤ 1125899906842624 := by simpa [numB] using hp
          rw [inB_true.2 (by omega)]
          simp
      clear h1 h2
      go_enter Try.func22, Try.ntmps22
      go_wp2_with fail
      refine (iNum_any _ _).mono ?_
      rintro e w' ⟨rfl, rfl⟩
      go_wp2
      go_ret
      exact ⟨ret_eq (by rw [HO.out]; rfl), B0⟩
    case neg =>
      have i2 : (a.Val == 0) = false := by simpa using h2
      have hz : ¬ (a.Bal = 0 ∧ a.Val = 0) := fun c => h2 c.2
      clear h2
      have hb0 := Lib.hid h1
      clear h1
      have h1 := hb0.out
      have i3 : decide (1 ≤ a.Bal) = false := decide_eq_false (by omega)
      have HO : Hid (accOkB a = false) := by
        show _ = _
        refine Bool.eq_false_iff.2 (fun c => ?_)
        simp only [accOkB, Bool.and_eq_true, Bool.or_eq_true, decide_eq_true_eq] at c
        obtain ⟨c1, c2, c3⟩ := c
        rcases c3 with ⟨c3, c4⟩ | ⟨c3, c4⟩
        · omega
        · exact hz ⟨c4, c3⟩
      clear h1 hz
      cases hP : numB a.Prom
      case false =>
        have HP := Lib.hid hP
        clear hP
        go_enter Try.func22, Try.ntmps22
        go_wp2_with fail
        refine (iNum_any _ _).mono ?_
        rintro e w' ⟨rfl, rfl⟩
        rw [HP.out]
        go_wp2
        go_ret
        exact ⟨ret_eq (by rw [HO.out]; rfl), B0⟩
      case true =>
        have HP := Lib.hid hP
        clear hP
        go_enter Try.func22, Try.ntmps22
        go_wp2_with fail
        refine (iNum_any _ _).mono ?_
        rintro e w' ⟨rfl, rfl⟩
        rw [HP.out]
        go_wp2
        go_ret
        exact ⟨ret_eq (by rw [HO.out]; rfl), B0⟩
  case neg =>
    have i1 : (a.Bal == 0) = false := by simpa using h1
    have hz : ¬ (a.Bal = 0 ∧ a.Val = 0) := fun c => h1 c.1
    clear h1
    by_cases hP : numB a.Prom = true
    case neg =>
      replace hP : numB a.Prom = false := by simpa using hP
      have HO : Hid (accOkB a = false) := by
        show _ = _
        refine Bool.eq_false_iff.2 (fun c => ?_)
        simp only [accOkB, Bool.and_eq_true, Bool.or_eq_true, decide_eq_true_eq] at c
        obtain ⟨c1, c2, c3⟩ := c
        have c2 := inB_true.1 c2
        rcases c3 with ⟨c3, c4⟩ | ⟨c3, c4⟩
        · rw [hP] at c1; cases c1
        · exact hz ⟨c4, c3⟩
      have HP := Lib.hid hP
      clear hP hz
      go_enter Try.func22, Try.ntmps22
      go_wp2_with fail
      refine (iNum_any _ _).mono ?_
      rintro e w' ⟨rfl, rfl⟩
      rw [HP.out]
      go_wp2
      go_ret
      exact ⟨ret_eq (by rw [HO.out]; rfl), B0⟩
    have HP := Lib.hid hP
    by_cases hB : 1 ≤ a.Bal
    case neg =>
      have HO : Hid (accOkB a = false) := by
        show _ = _
        refine Bool.eq_false_iff.2 (fun c => ?_)
        simp only [accOkB, Bool.and_eq_true, Bool.or_eq_true, decide_eq_true_eq] at c
        obtain ⟨c1, c2, c3⟩ := c
        have c2 := inB_true.1 c2
        rcases c3 with ⟨c3, c4⟩ | ⟨c3, c4⟩
        · omega
        · exact hz ⟨c4, c3⟩
      have i3 : decide (1 ≤ a.Bal) = false := decide_eq_false hB
      clear hP hz
      go_enter Try.func22, Try.ntmps22
      go_wp2_with fail
      refine (iNum_any _ _).mono ?_
      rintro e w' ⟨rfl, rfl⟩
      rw [HP.out]
      go_wp2
      go_ret
      exact ⟨ret_eq (by rw [HO.out]; rfl), B0⟩
    have i3 : decide (1 ≤ a.Bal) = true := decide_eq_true hB
    by_cases hC : a.Bal ≤ a.Prom
    case neg =>
      have HO : Hid (accOkB a = false) := by
        show _ = _
        refine Bool.eq_false_iff.2 (fun c => ?_)
        simp only [accOkB, Bool.and_eq_true, Bool.or_eq_true, decide_eq_true_eq] at c
        obtain ⟨c1, c2, c3⟩ := c
        have c2 := inB_true.1 c2
        rcases c3 with ⟨c3, c4⟩ | ⟨c3, c4⟩
        · omega
        · exact hz ⟨c4, c3⟩
      have i4 : decide (a.Bal ≤ a.Prom) = false := decide_eq_false hC
      clear hP hz
      go_enter Try.func22, Try.ntmps22
      go_wp2_with fail
      refine (iNum_any _ _).mono ?_
      rintro e w' ⟨rfl, rfl⟩
      rw [HP.out]
      go_wp2
      go_ret
      exact ⟨ret_eq (by rw [HO.out]; rfl), B0⟩
    have i4 : decide (a.Bal ≤ a.Prom) = true := decide_eq_true hC
    have HO : Hid (accOkB a = inB a.Val 1 4) := by
      show _ = _
      unfold accOkB
      rw [hP, inB_true.2 ⟨by omega, hC⟩, decide_eq_true (by omega : 0 < a.Bal), decide_eq_false (by omega : ¬ a.Bal = 0)]
      simp
    clear hP hz
    go_enter Try.func22, Try.ntmps22
    go_wp2_with fail
    refine (iNum_any _ _).mono ?_
    rintro e w' ⟨rfl, rfl⟩
    rw [HP.out]
    go_wp2_with fail
    refine (iChoice_any _ _).mono ?_
    rintro e w' ⟨rfl, rfl⟩
    go_wp2
    go_ret
    exact ⟨ret_eq (by rw [HO.out]; rfl), B0⟩

set_option maxHeartbeats 2000000 in
theorem iAccPrep_c {w : World} {v : Value} {a : MAcc} {b : Int} (h : RV accL w v a) (hb : -9223372036854775808 ≤ b ∧ b ≤ 9223372036854775807) : Calls Try.prog 18 #[v, .int .i64 b] w (NewVB accL w (accPrep a b) (accPrepB a b)) := by
  have h0 := h
  obtain rfl := rv_acc h
  clear h
  obtain ⟨wa, hwa, B0, sa, x_a, x_r⟩ := frame2 w 33 [.int .i64 a.Prom, .int .i64 a.Bal, .int .i64 a.Val] 33 [.int .i64 0, .int .i64 0, .int .i64 0]
  have sa_1 := Nat.le_of_eq sa
  have sa_2 := Nat.le_of_eq sa.symm
  clear sa
  have c_a_0_wa := x_a.cell (i := 0) rfl
  have f_a_0_wa := x_a.frozen 0
  have c_a_1_wa := x_a.cell (i := 1) rfl
  have f_a_1_wa := x_a.frozen 1
  have c_a_2_wa := x_a.cell (i := 2) rfl
  have f_a_2_wa := x_a.frozen 2
  have c_r_0_wa := x_r.cell (i := 0) rfl
  have f_r_0_wa := x_r.frozen 0
  have c_r_1_wa := x_r.cell (i := 1) rfl
  have f_r_1_wa := x_r.frozen 1
  have c_r_2_wa := x_r.cell (i := 2) rfl
  have f_r_2_wa := x_r.frozen 2
  by_cases hK : accOkB a = true
  case neg =>
    replace hK : accOkB a = false := by simpa using hK
    have HK := Lib.hid hK
    have HB9 : Hid (accPrepB a b = false) := by show _ = _; unfold accPrepB; rw [hK]; simp
    have HM : Hid (accPrep a b = accZ) := if_neg (by rw [HB9.out]; decide)
    clear hK
    go_enter Try.func18, Try.ntmps18
    go_wp2_with fail
    refine (iAccOk_c (h0.from_ B0)).mono ?_
    rintro e w1 ⟨rfl, h_w1⟩
    clear c_a_0_wa f_a_0_wa c_a_1_wa f_a_1_wa c_a_2_wa f_a_2_wa c_r_0_wa f_r_0_wa c_r_1_wa f_r_1_wa c_r_2_wa f_r_2_wa
    replace x_a := x_a.from_ h_w1
    replace x_r := x_r.from_ h_w1
    have B_w1 := B0.trans (h_w1.mono B0.size)
    have s_w1 := h_w1.size
    rw [HK.out]
    have c_a_0_w1 := x_a.cell (i := 0) rfl
    have f_a_0_w1 := x_a.frozen 0
    have c_a_1_w1 := x_a.cell (i := 1) rfl
    have f_a_1_w1 := x_a.frozen 1
    have c_a_2_w1 := x_a.cell (i := 2) rfl
    have f_a_2_w1 := x_a.frozen 2
    have c_r_0_w1 := x_r.cell (i := 0) rfl
    have f_r_0_w1 := x_r.frozen 0
    have c_r_1_w1 := x_r.cell (i := 1) rfl
    have f_r_1_w1 := x_r.frozen 1
    have c_r_2_w1 := x_r.cell (i := 2) rfl
    have f_r_2_w1 := x_r.frozen 2
    have i_r_0 := x_r.same (i := 0) rfl
    have i_r_1 := x_r.same (i := 1) rfl
    have i_r_2 := x_r.same (i := 2) rfl
    go_wp2
    refine ret_cell_tmp (by rfl) (by rfl) x_r Try.underlying33 sz_acc (by rfl) ?_
    rw [HM.out, HB9.out]
    exact ⟨_, rfl, ov_acc (d := accZ) (Nat.le_refl _), B_w1⟩
  have HK := Lib.hid hK
  by_cases hN : numB b = true
  case neg =>
    replace hN : numB b = false := by simpa using hN
    have HN := Lib.hid hN
    have HB9 : Hid (accPrepB a b = false) := by show _ = _; unfold accPrepB; rw [hN]; simp
    have HM : Hid (accPrep a b = accZ) := if_neg (by rw [HB9.out]; decide)
    clear hK hN
    go_enter Try.func18, Try.ntmps18
    go_wp2_with fail
    refine (iAccOk_c (h0.from_ B0)).mono ?_
    rintro e w1 ⟨rfl, h_w1⟩
    clear c_a_0_wa f_a_0_wa c_a_1_wa f_a_1_wa c_a_2_wa f_a_2_wa c_r_0_wa f_r_0_wa c_r_1_wa f_r_1_wa c_r_2_wa f_r_2_wa
    replace x_a := x_a.from_ h_w1
    replace x_r := x_r.from_ h_w1
    have B_w1 := B0.trans (h_w1.mono B0.size)
    have s_w1 := h_w1.size
    rw [HK.out]
    have c_a_0_w1 := x_a.cell (i := 0) rfl
    have f_a_0_w1 := x_a.frozen 0
    have c_a_1_w1 := x_a.cell (i := 1) rfl
    have f_a_1_w1 := x_a.frozen 1
    have c_a_2_w1 := x_a.cell (i := 2) rfl
    have f_a_2_w1 := x_a.frozen 2
    have c_r_0_w1 := x_r.cell (i := 0) rfl
    have f_r_0_w1 := x_r.frozen 0
    have c_r_1_w1 := x_r.cell (i := 1) rfl
    have f_r_1_w1 := x_r.frozen 1
    have c_r_2_w1 := x_r.cell (i := 2) rfl
    have f_r_2_w1 := x_r.frozen 2
    go_wp2_with fail
    refine (iNum_any _ _).mono ?_
    rintro e w' ⟨rfl, rfl⟩
    rw [HN.out]
    have i_r_0 := x_r.same (i := 0) rfl
    have i_r_1 := x_r.same (i := 1) rfl
    have i_r_2 := x_r.same (i := 2) rfl
    go_wp2
    refine ret_cell_tmp (by rfl) (by rfl) x_r Try.underlying33 sz_acc (by rfl) ?_
    rw [HM.out, HB9.out]
    exact ⟨_, rfl, ov_acc (d := accZ) (Nat.le_refl _), B_w1⟩
  have HN := Lib.hid hN
  by_cases hD : decide (a.Prom < b) = true
  case neg =>
    replace hD : decide (a.Prom < b) = false := by simpa using hD
    have HD := Lib.hid hD
    have HB9 : Hid (accPrepB a b = false) := by show _ = _; unfold accPrepB; rw [hD]; simp
    have HM : Hid (accPrep a b = accZ) := if_neg (by rw [HB9.out]; decide)
    clear hK hN hD
    have gq : decide (b ≤ a.Prom) = true := decide_eq_true (by have := of_decide_eq_false HD.out; omega)
    go_enter Try.func18, Try.ntmps18
    go_wp2_with fail
    refine (iAccOk_c (h0.from_ B0)).mono ?_
    rintro e w1 ⟨rfl, h_w1⟩
    clear c_a_0_wa f_a_0_wa c_a_1_wa f_a_1_wa c_a_2_wa f_a_2_wa c_r_0_wa f_r_0_wa c_r_1_wa f_r_1_wa c_r_2_wa f_r_2_wa
    replace x_a := x_a.from_ h_w1
    replace x_r := x_r.from_ h_w1
    have B_w1 := B0.trans (h_w1.mono B0.size)
    have s_w1 := h_w1.size
    rw [HK.out]
    have c_a_0_w1 := x_a.cell (i := 0) rfl
    have f_a_0_w1 := x_a.frozen 0
    have c_a_1_w1 := x_a.cell (i := 1) rfl
    have f_a_1_w1 := x_a.frozen 1
    have c_a_2_w1 := x_a.cell (i := 2) rfl
    have f_a_2_w1 := x_a.frozen 2
    have c_r_0_w1 := x_r.cell (i := 0) rfl
    have f_r_0_w1 := x_r.frozen 0
    have c_r_1_w1 := x_r.cell (i := 1) rfl
    have f_r_1_w1 := x_r.frozen 1
    have c_r_2_w1 := x_r.cell (i := 2) rfl
    have f_r_2_w1 := x_r.frozen 2
    go_wp2_with fail
    refine (iNum_any _ _).mono ?_
    rintro e w' ⟨rfl, rfl⟩
    rw [HN.out]
    have i_r_0 := x_r.same (i := 0) rfl
    have i_r_1 := x_r.same (i := 1) rfl
    have i_r_2 := x_r.same (i := 2) rfl
    go_wp2
    refine ret_cell_tmp (by rfl) (by rfl) x_r Try.underlying33 sz_acc (by rfl) ?_
    rw [HM.out, HB9.out]
    exact ⟨_, rfl, ov_acc (d := accZ) (Nat.le_refl _), B_w1⟩
  have HD := Lib.hid hD
  have HB9 : Hid (accPrepB a b = true) := by show _ = _; unfold accPrepB; rw [hK, hN, hD]; rfl
  have HM : Hid (accPrep a b = ⟨b, a.Bal, a.Val⟩) := if_pos HB9.out
  clear hK hN hD
  have gq : decide (b ≤ a.Prom) = false := decide_eq_false (by have := of_decide_eq_true HD.out; omega)
  go_enter Try.func18, Try.ntmps18
  go_wp2_with fail
  refine (iAccOk_c (h0.from_ B0)).mono ?_
  rintro e w1 ⟨rfl, h_w1⟩
  clear c_a_0_wa f_a_0_wa c_a_1_wa f_a_1_wa c_a_2_wa f_a_2_wa c_r_0_wa f_r_0_wa c_r_1_wa f_r_1_wa c_r_2_wa f_r_2_wa
  replace x_a := x_a.from_ h_w1
  replace x_r := x_r.from_ h_w1
  have B_w1 := B0.trans (h_w1.mono B0.size)
  have s_w1 := h_w1.size
  rw [HK.out]
  have c_a_0_w1 := x_a.cell (i := 0) rfl
  have f_a_0_w1 := x_a.frozen 0
  have c_a_1_w1 := x_a.cell (i := 1) rfl
  have f_a_1_w1 := x_a.frozen 1
  have c_a_2_w1 := x_a.cell (i := 2) rfl
  have f_a_2_w1 := x_a.frozen 2
  have c_r_0_w1 := x_r.cell (i := 0) rfl
  have f_r_0_w1 := x_r.frozen 0
  have c_r_1_w1 := x_r.cell (i := 1) rfl
  have f_r_1_w1 := x_r.frozen 1
  have c_r_2_w1 := x_r.cell (i := 2) rfl
  have f_r_2_w1 := x_r.frozen 2
  go_wp2_with fail
  refine (iNum_any _ _).mono ?_
  rintro e w' ⟨rfl, rfl⟩
  rw [HN.out]
  obtain ⟨w2, e_w2, s_w2, h_w2, y⟩ := store_step x_r [.int .i64 b, .int .i64 a.Bal, .int .i64 a.Val] rfl
  replace e_w2 : (((w1.setCell ⟨w.heap.size + 1, 0, none⟩ (.int .i64 b)).setCell ⟨w.heap.size + 1, 1, none⟩ (.int .i64 a.Bal)).setCell ⟨w.heap.size + 1, 2, none⟩ (.int .i64 a.Val)) = w2 := e_w2
  have s_w2_1 := Nat.le_of_eq s_w2
  have s_w2_2 := Nat.le_of_eq s_w2.symm
  clear s_w2
  replace x_a := x_a.chg h_w2 (by omega)
  have B_w2 := Below.chg_ B_w1 h_w2 (by omega) (by omega)
  replace x_r : Vr w2 (w.heap.size + 1) 33 [.int .i64 b, .int .i64 a.Bal, .int .i64 a.Val] := y
  clear y
  have c_r_0_w2 := x_r.cell (i := 0) rfl
  have f_r_0_w2 := x_r.frozen 0
  have c_r_1_w2 := x_r.cell (i := 1) rfl
  have f_r_1_w2 := x_r.frozen 1
  have c_r_2_w2 := x_r.cell (i := 2) rfl
  have f_r_2_w2 := x_r.frozen 2
  go_wp2
  refine ret_cell_tmp (by rfl) (by rfl) x_r Try.underlying33 sz_acc (by rfl) ?_
  rw [HM.out, HB9.out]
  exact ⟨_, rfl, ov_acc (d := ⟨b, a.Bal, a.Val⟩) (Nat.le_refl _), B_w2⟩

set_option maxHeartbeats 2000000 in
theorem iAccTake_c {w : World} {v : Value} {a : MAcc} {b u : Int} (h : RV accL w v a) (hb : -9223372036854775808 ≤ b ∧ b ≤ 9223372036854775807) (hu : -9223372036854775808 ≤ u ∧ u ≤ 9223372036854775807) : Calls Try.prog 20 #[v, .int .i64 b, .int .i64 u] w (NewVB accL w (accTake a b u) (accTakeB a b u)) := by
  have h0 := h
  obtain rfl := rv_acc h
  clear h
  obtain ⟨wa, hwa, B0, sa, x_a, x_r⟩ := frame2 w 33 [.int .i64 a.Prom, .int .i64 a.Bal, .int .i64 a.Val] 33 [.int .i64 0, .int .i64 0, .int .i64 0]
  have sa_1 := Nat.le_of_eq sa
  have sa_2 := Nat.le_of_eq sa.symm
  clear sa
  have c_a_0_wa := x_a.cell (i := 0) rfl
  have f_a_0_wa := x_a.frozen 0
  have c_a_1_wa := x_a.cell (i := 1) rfl
  have f_a_1_wa := x_a.frozen 1
  have c_a_2_wa := x_a.cell (i := 2) rfl
  have f_a_2_wa := x_a.frozen 2
  have c_r_0_wa := x_r.cell (i := 0) rfl
  have f_r_0_wa := x_r.frozen 0
  have c_r_1_wa := x_r.cell (i := 1) rfl
  have f_r_1_wa := x_r.frozen 1
  have c_r_2_wa := x_r.cell (i := 2) rfl
  have f_r_2_wa := x_r.frozen 2
  by_cases hK : accOkB a = true
  case neg =>
    replace hK : accOkB a = false := by simpa using hK
    have HK := Lib.hid hK
    have HB9 : Hid (accTakeB a b u = false) := by show _ = _; unfold accTakeB; rw [hK]; simp
    have HM : Hid (accTake a b u = accZ) := if_neg (by rw [HB9.out]; decide)
    clear hK
    go_enter Try.func20, Try.ntmps20
    go_wp2_with fail
    refine (iAccOk_c (h0.from_ B0)).mono ?_
    rintro e w1 ⟨rfl, h_w1⟩
    clear c_a_0_wa f_a_0_wa c_a_1_wa f_a_1_wa c_a_2_wa f_a_2_wa c_r_0_wa f_r_0_wa c_r_1_wa f_r_1_wa c_r_2_wa f_r_2_wa
    replace x_a := x_a.from_ h_w1
    replace x_r := x_r.from_ h_w1
    have B_w1 := B0.trans (h_w1.mono B0.size)
    have s_w1 := h_w1.size
    rw [HK.out]
    have c_a_0_w1 := x_a.cell (i := 0) rfl
    have f_a_0_w1 := x_a.frozen 0
    have c_a_1_w1 := x_a.cell (i := 1) rfl
    have f_a_1_w1 := x_a.frozen 1
    have c_a_2_w1 := x_a.cell (i := 2) rfl
    have f_a_2_w1 := x_a.frozen 2
    have c_r_0_w1 := x_r.cell (i := 0) rfl
    have f_r_0_w1 := x_r.frozen 0
    have c_r_1_w1 := x_r.cell (i := 1) rfl
    have f_r_1_w1 := x_r.frozen 1
    have c_r_2_w1 := x_r.cell (i := 2) rfl
    have f_r_2_w1 := x_r.frozen 2
    have i_r_0 := x_r.same (i := 0) rfl
    have i_r_1 := x_r.same (i := 1) rfl
    have i_r_2 := x_r.same (i := 2) rfl
    go_wp2
    refine ret_cell_tmp (by rfl) (by rfl) x_r Try.underlying33 sz_acc (by rfl) ?_
    rw [HM.out, HB9.out]
    exact ⟨_, rfl, ov_acc (d := accZ) (Nat.le_refl _), B_w1⟩
  have HK := Lib.hid hK
  by_cases hV : inB u 1 4 = true
  case neg =>
    replace hV : inB u 1 4 = false := by simpa using hV
    have HV := Lib.hid hV
    have HB9 : Hid (accTakeB a b u = false) := by show _ = _; unfold accTakeB; rw [hV]; simp
    have HM : Hid (accTake a b u = accZ) := if_neg (by rw [HB9.out]; decide)
    clear hK hV
    go_enter Try.func20, Try.ntmps20
    go_wp2_with fail
    refine (iAccOk_c (h0.from_ B0)).mono ?_
    rintro e w1 ⟨rfl, h_w1⟩
    clear c_a_0_wa f_a_0_wa c_a_1_wa f_a_1_wa c_a_2_wa f_a_2_wa c_r_0_wa f_r_0_wa c_r_1_wa f_r_1_wa c_r_2_wa f_r_2_wa
    replace x_a := x_a.from_ h_w1
    replace x_r := x_r.from_ h_w1
    have B_w1 := B0.trans (h_w1.mono B0.size)
    have s_w1 := h_w1.size
    rw [HK.out]
    have c_a_0_w1 := x_a.cell (i := 0) rfl
    have f_a_0_w1 := x_a.frozen 0
    have c_a_1_w1 := x_a.cell (i := 1) rfl
    have f_a_1_w1 := x_a.frozen 1
    have c_a_2_w1 := x_a.cell (i := 2) rfl
    have f_a_2_w1 := x_a.frozen 2
    have c_r_0_w1 := x_r.cell (i := 0) rfl
    have f_r_0_w1 := x_r.frozen 0
    have c_r_1_w1 := x_r.cell (i := 1) rfl
    have f_r_1_w1 := x_r.frozen 1
    have c_r_2_w1 := x_r.cell (i := 2) rfl
    have f_r_2_w1 := x_r.frozen 2
    go_wp2_with fail
    refine (iChoice_any _ _).mono ?_
    rintro e w' ⟨rfl, rfl⟩
    rw [HV.out]
    have i_r_0 := x_r.same (i := 0) rfl
    have i_r_1 := x_r.same (i := 1) rfl
    have i_r_2 := x_r.same (i := 2) rfl
    go_wp2
    refine ret_cell_tmp (by rfl) (by rfl) x_r Try.underlying33 sz_acc (by rfl) ?_
    rw [HM.out, HB9.out]
    exact ⟨_, rfl, ov_acc (d := accZ) (Nat.le_refl _), B_w1⟩
  have HV := Lib.hid hV
  by_cases hN : inB b 1 1125899906842624 = true
  case neg =>
    replace hN : inB b 1 1125899906842624 = false := by simpa using hN
    have HN := Lib.hid hN
    have HB9 : Hid (accTakeB a b u = false) := by show _ = _; unfold accTakeB; rw [hN]; simp
    have HM : Hid (accTake a b u = accZ) := if_neg (by rw [HB9.out]; decide)
    clear hK hV hN
    go_enter Try.func20, Try.ntmps20
    go_wp2_with fail
    refine (iAccOk_c (h0.from_ B0)).mono ?_
    rintro e w1 ⟨rfl, h_w1⟩
    clear c_a_0_wa f_a_0_wa c_a_1_wa f_a_1_wa c_a_2_wa f_a_2_wa c_r_0_wa f_r_0_wa c_r_1_wa f_r_1_wa c_r_2_wa f_r_2_wa
    replace x_a := x_a.from_ h_w1
    replace x_r := x_r.from_ h_w1
    have B_w1 := B0.trans (h_w1.mono B0.size)
    have s_w1 := h_w1.size
    rw [HK.out]
    have c_a_0_w1 := x_a.cell (i := 0) rfl
    have f_a_0_w1 := x_a.frozen 0
    have c_a_1_w1 := x_a.cell (i := 1) rfl
    have f_a_1_w1 := x_a.frozen 1
    have c_a_2_w1 := x_a.cell (i := 2) rfl
    have f_a_2_w1 := x_a.frozen 2
    have c_r_0_w1 := x_r.cell (i := 0) rfl
    have f_r_0_w1 := x_r.frozen 0
    have c_r_1_w1 := x_r.cell (i := 1) rfl
    have f_r_1_w1 := x_r.frozen 1
    have c_r_2_w1 := x_r.cell (i := 2) rfl
    have f_r_2_w1 := x_r.frozen 2
    go_wp2_with fail
    refine (iChoice_any _ _).mono ?_
    rintro e w' ⟨rfl, rfl⟩
    rw [HV.out]
    go_wp2_with fail
    refine (iBallot_any _ _).mono ?_
    rintro e w' ⟨rfl, rfl⟩
    rw [HN.out]
    have i_r_0 := x_r.same (i := 0) rfl
    have i_r_1 := x_r.same (i := 1) rfl
    have i_r_2 := x_r.same (i := 2) rfl
    go_wp2
    refine ret_cell_tmp (by rfl) (by rfl) x_r Try.underlying33 sz_acc (by rfl) ?_
    rw [HM.out, HB9.out]
    exact ⟨_, rfl, ov_acc (d := accZ) (Nat.le_refl _), B_w1⟩
  have HN := Lib.hid hN
  by_cases hD : decide (a.Prom ≤ b) = true
  case neg =>
    replace hD : decide (a.Prom ≤ b) = false := by simpa using hD
    have HD := Lib.hid hD
    have HB9 : Hid (accTakeB a b u = false) := by show _ = _; unfold accTakeB; rw [hD]; simp
    have HM : Hid (accTake a b u = accZ) := if_neg (by rw [HB9.out]; decide)
    clear hK hV hN hD
    have gq : decide (b < a.Prom) = true := decide_eq_true (by have := of_decide_eq_false HD.out; omega)
    go_enter Try.func20, Try.ntmps20
    go_wp2_with fail
    refine (iAccOk_c (h0.from_ B0)).mono ?_
    rintro e w1 ⟨rfl, h_w1⟩
    clear c_a_0_wa f_a_0_wa c_a_1_wa f_a_1_wa c_a_2_wa f_a_2_wa c_r_0_wa f_r_0_wa c_r_1_wa f_r_1_wa c_r_2_wa f_r_2_wa
    replace x_a := x_a.from_ h_w1
    replace x_r := x_r.from_ h_w1
    have B_w1 := B0.trans (h_w1.mono B0.size)
    have s_w1 := h_w1.size
    rw [HK.out]
    have c_a_0_w1 := x_a.cell (i := 0) rfl
    have f_a_0_w1 := x_a.frozen 0
    have c_a_1_w1 := x_a.cell (i := 1) rfl
    have f_a_1_w1 := x_a.frozen 1
    have c_a_2_w1 := x_a.cell (i := 2) rfl
    have f_a_2_w1 := x_a.frozen 2
    have c_r_0_w1 := x_r.cell (i := 0) rfl
    have f_r_0_w1 := x_r.frozen 0
    have c_r_1_w1 := x_r.cell (i := 1) rfl
    have f_r_1_w1 := x_r.frozen 1
    have c_r_2_w1 := x_r.cell (i := 2) rfl
    have f_r_2_w1 := x_r.frozen 2
    go_wp2_with fail
    refine (iChoice_any _ _).mono ?_
    rintro e w' ⟨rfl, rfl⟩
    rw [HV.out]
    go_wp2_with fail
    refine (iBallot_any _ _).mono ?_
    rintro e w' ⟨rfl, rfl⟩
    rw [HN.out]
    have i_r_0 := x_r.same (i := 0) rfl
    have i_r_1 := x_r.same (i := 1) rfl
    have i_r_2 := x_r.same (i := 2) rfl
    go_wp2
    refine ret_cell_tmp (by rfl) (by rfl) x_r Try.underlying33 sz_acc (by rfl) ?_
    rw [HM.out, HB9.out]
    exact ⟨_, rfl, ov_acc (d := accZ) (Nat.le_refl _), B_w1⟩
  have HD := Lib.hid hD
  have HB9 : Hid (accTakeB a b u = true) := by show _ = _; unfold accTakeB; rw [hK, hV, hN, hD]; rfl
  have HM : Hid (accTake a b u = ⟨b, b, u⟩) := if_pos HB9.out
  clear hK hV hN hD
  have gq : decide (b < a.Prom) = false := decide_eq_false (by have := of_decide_eq_true HD.out; omega)
  go_enter Try.func20, Try.ntmps20
  go_wp2_with fail
  refine (iAccOk_c (h0.from_ B0)).mono ?_
  rintro e w1 ⟨rfl, h_w1⟩
  clear c_a_0_wa f_a_0_wa c_a_1_wa f_a_1_wa c_a_2_wa f_a_2_wa c_r_0_wa f_r_0_wa c_r_1_wa f_r_1_wa c_r_2_wa f_r_2_wa
  replace x_a := x_a.from_ h_w1
  replace x_r := x_r.from_ h_w1
  have B_w1 := B0.trans (h_w1.mono B0.size)
  have s_w1 := h_w1.size
  rw [HK.out]
  have c_a_0_w1 := x_a.cell (i := 0) rfl
  have f_a_0_w1 := x_a.frozen 0
  have c_a_1_w1 := x_a.cell (i := 1) rfl
  have f_a_1_w1 := x_a.frozen 1
  have c_a_2_w1 := x_a.cell (i := 2) rfl
  have f_a_2_w1 := x_a.frozen 2
  have c_r_0_w1 := x_r.cell (i := 0) rfl
  have f_r_0_w1 := x_r.frozen 0
  have c_r_1_w1 := x_r.cell (i := 1) rfl
  have f_r_1_w1 := x_r.frozen 1
  have c_r_2_w1 := x_r.cell (i := 2) rfl
  have f_r_2_w1 := x_r.frozen 2
  go_wp2_with fail
  refine (iChoice_any _ _).mono ?_
  rintro e w' ⟨rfl, rfl⟩
  rw [HV.out]
  go_wp2_with fail
  refine (iBallot_any _ _).mono ?_
  rintro e w' ⟨rfl, rfl⟩
  rw [HN.out]
  obtain ⟨w2, e_w2, s_w2, h_w2, y⟩ := store_step x_r [.int .i64 b, .int .i64 b, .int .i64 u] rfl
  replace e_w2 : (((w1.setCell ⟨w.heap.size + 1, 0, none⟩ (.int .i64 b)).setCell ⟨w.heap.size + 1, 1, none⟩ (.int .i64 b)).setCell ⟨w.heap.size + 1, 2, none⟩ (.int .i64 u)) = w2 := e_w2
  have s_w2_1 := Nat.le_of_eq s_w2
  have s_w2_2 := Nat.le_of_eq s_w2.symm
  clear s_w2
  replace x_a := x_a.chg h_w2 (by omega)
  have B_w2 := Below.chg_ B_w1 h_w2 (by omega) (by omega)
  replace x_r : Vr w2 (w.heap.size + 1) 33 [.int .i64 b, .int .i64 b, .int .i64 u] := y
  clear y
  have c_r_0_w2 := x_r.cell (i := 0) rfl
  have f_r_0_w2 := x_r.frozen 0
  have c_r_1_w2 := x_r.cell (i := 1) rfl
  have f_r_1_w2 := x_r.frozen 1
  have c_r_2_w2 := x_r.cell (i := 2) rfl
  have f_r_2_w2 := x_r.frozen 2
  go_wp2
  refine ret_cell_tmp (by rfl) (by rfl) x_r Try.underlying33 sz_acc (by rfl) ?_
  rw [HM.out, HB9.out]
  exact ⟨_, rfl, ov_acc (d := ⟨b, b, u⟩) (Nat.le_refl _), B_w2⟩

end Go.Proofs.Ytaoedgcdcimibaa
