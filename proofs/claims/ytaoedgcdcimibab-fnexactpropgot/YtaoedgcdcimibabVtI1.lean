/- Votes: the contracts of impl.isNode, isChoice, isBallot, isPromise, nodesOf, BallotOf, BallotAbove, IsMost, AccOk, AccPrep, AccTake. Laid by a program of ours (src/vti1.py). -/
import Derived.Test.YtaoedgcdcimibabVt5
import Derived.IntWalk
namespace Go.Proofs.Ytaoedgcdcimibab
open Go.RowKit
set_option linter.unusedVariables false

def promB (B b u : Int) : Bool := inB b 0 (B - 1) && !(decide (0 < b) && !inB u 1 4)
theorem wrange {x : Int} (h : -9223372036854775808 ≤ x ∧ x ≤ 9223372036854775807) : IntKind.i64.wrap x = x := IntWalk.i64_in _ (by omega)

theorem iNode_any (n : Int) (w : World) : Calls Try.prog 29 #[.int .i64 n] w fun e w' => e = .returned (.bool (inB n 0 3)) ∧ w = w' := by
  by_cases h0 : 0 ≤ n
  · by_cases h1 : n < 4
    · rw [inB_true.2 (by omega)]
      have i0 : decide (0 ≤ n) = true := decide_eq_true h0
      have i1 : decide (n < 4) = true := decide_eq_true h1
      go_enter Try.func29, Try.ntmps29
      go_wp2
      go_ret
      exact ⟨rfl, rfl⟩
    · rw [inB_false.2 (by omega)]
      have i0 : decide (0 ≤ n) = true := decide_eq_true h0
      have i1 : decide (n < 4) = false := decide_eq_false h1
      go_enter Try.func29, Try.ntmps29
      go_wp2
      go_ret
      exact ⟨rfl, rfl⟩
  · rw [inB_false.2 (by omega)]
    have i1 : decide (0 ≤ n) = false := decide_eq_false h0
    go_enter Try.func29, Try.ntmps29
    go_wp2
    go_ret
    exact ⟨rfl, rfl⟩

theorem iChoice_any (n : Int) (w : World) : Calls Try.prog 38 #[.int .i64 n] w fun e w' => e = .returned (.bool (inB n 1 4)) ∧ w = w' := by
  by_cases h0 : 1 ≤ n
  · by_cases h1 : n ≤ 4
    · rw [inB_true.2 (by omega)]
      have i0 : decide (1 ≤ n) = true := decide_eq_true h0
      have i1 : decide (n ≤ 4) = true := decide_eq_true h1
      go_enter Try.func38, Try.ntmps38
      go_wp2
      go_ret
      exact ⟨rfl, rfl⟩
    · rw [inB_false.2 (by omega)]
      have i0 : decide (1 ≤ n) = true := decide_eq_true h0
      have i1 : decide (n ≤ 4) = false := decide_eq_false h1
      go_enter Try.func38, Try.ntmps38
      go_wp2
      go_ret
      exact ⟨rfl, rfl⟩
  · rw [inB_false.2 (by omega)]
    have i1 : decide (1 ≤ n) = false := decide_eq_false h0
    go_enter Try.func38, Try.ntmps38
    go_wp2
    go_ret
    exact ⟨rfl, rfl⟩

theorem iBallot_any (n : Int) (w : World) : Calls Try.prog 37 #[.int .i64 n] w fun e w' => e = .returned (.bool (inB n 1 1125899906842624)) ∧ w = w' := by
  by_cases h0 : numB n = true
  · have b0 : 0 ≤ n ∧ n ≤ 1125899906842624 := by simpa [numB] using h0
    have H0 := Lib.hid h0
    clear h0
    by_cases h1 : 1 ≤ n
    · have HO : Hid (inB n 1 1125899906842624 = true) := inB_true.2 (by omega)
      have i1 : decide (1 ≤ n) = true := decide_eq_true h1
      go_enter Try.func37, Try.ntmps37
      go_wp2_with fail
      refine (iNum_any _ _).mono ?_
      rintro e w' ⟨rfl, rfl⟩
      rw [H0.out]
      go_wp2
      go_ret
      exact ⟨ret_eq (by rw [HO.out]; rfl), rfl⟩
    · have HO : Hid (inB n 1 1125899906842624 = false) := inB_false.2 (by omega)
      have i1 : decide (1 ≤ n) = false := decide_eq_false h1
      go_enter Try.func37, Try.ntmps37
      go_wp2_with fail
      refine (iNum_any _ _).mono ?_
      rintro e w' ⟨rfl, rfl⟩
      rw [H0.out]
      go_wp2
      go_ret
      exact ⟨ret_eq (by rw [HO.out]; rfl), rfl⟩
  · replace h0 : numB n = false := by simpa using h0
    have HO : Hid (inB n 1 1125899906842624 = false) := inB_false.2 (fun c => absurd (show numB n = true by simp [numB]; omega) (by rw [h0]; decide))
    have H0 := Lib.hid h0
    clear h0
    go_enter Try.func37, Try.ntmps37
    go_wp2_with fail
    refine (iNum_any _ _).mono ?_
    rintro e w' ⟨rfl, rfl⟩
    rw [H0.out]
    go_wp2
    go_ret
    exact ⟨ret_eq (by rw [HO.out]; rfl), rfl⟩

theorem iNodesOf_any (v : Value) (A : Option Addr) (n c : Nat) (hv : v = .slice A n c) (w : World) : Calls Try.prog 30 #[v] w fun e w' => e = .returned v ∧ w = w' := by
  subst hv
  go_enter Try.func30, Try.ntmps30
  go_wp2
  go_ret
  exact ⟨rfl, rfl⟩

theorem iIsMost_x (k n : Int) (w : World) (hk : 0 ≤ k ∧ k ≤ 1099511627776) (hn : 0 ≤ n ∧ n ≤ 1000) : Calls Try.prog 22 #[.int .i64 k, .int .i64 n] w fun e w' => e = .returned (.bool (isMostB k n)) ∧ w = w' := by
  have HO : Hid (isMostB k n = decide (n / 2 < k)) := by
    show _ = _
    unfold isMostB
    rw [wrange (by omega)]
    exact decide_eq_decide.2 (by omega)
  have d3 : IntKind.i64.wrap (n / 2) = n / 2 := wrange (by omega)
  go_enter Try.func22, Try.ntmps22
  go_wp2
  go_ret
  exact ⟨ret_eq (by rw [HO.out]; rfl), rfl⟩

end Go.Proofs.Ytaoedgcdcimibab
