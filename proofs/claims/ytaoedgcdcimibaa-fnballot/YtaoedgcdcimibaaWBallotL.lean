/- The walk of the law FnBallot. Laid by a program of ours (src/fnballot.py). -/
import Derived.Test.YtaoedgcdcimibaaMakes
import Derived.Test.YtaoedgcdcimibaaVtI
import Derived.IntWalk
namespace Go.Proofs.Ytaoedgcdcimibaa
open Go.RowKit
set_option linter.unusedVariables false

theorem rdB {w w' : World} {A : Option Addr} {zs : List Int} (h : Rd .u8 w w.heap.size A zs) (hb : Below w.heap.size w w') : Rd .u8 w' w'.heap.size A zs := (h.below hb).more hb.size
theorem above_facts {b n : Int} (hb : 0 ≤ b ∧ b < 1000) (hn : 0 ≤ n ∧ n < 4) : b < ballotAbove b n ∧ ballotAbove b n - b ≤ 4 ∧ ballotOf ((ballotAbove b n - 1) / 4) n = ballotAbove b n := by
  have i1 : inB b 0 1000000000 = true := inB_true.2 (by omega)
  have i2 : inB n 0 3 = true := inB_true.2 (by omega)
  have e0 : ballotOf (b / 4) n = b / 4 * 4 + n + 1 := if_pos ⟨inB_true.2 (by omega), i2⟩
  have ex : ballotAbove b n = (if b < b / 4 * 4 + n + 1 then b / 4 * 4 + n + 1 else b / 4 * 4 + n + 1 + 4) := by
    unfold ballotAbove
    rw [if_pos ⟨i1, i2⟩, e0]
  obtain ⟨x, hx⟩ : ∃ x, ballotAbove b n = x := ⟨_, rfl⟩
  rw [hx] at ex ⊢
  have h1 : b < x ∧ x - b ≤ 4 ∧ (x - 1) / 4 * 4 + n + 1 = x ∧ 0 ≤ (x - 1) / 4 ∧ (x - 1) / 4 ≤ 1000 := by
    rw [ex]
    split <;> omega
  refine ⟨h1.1, h1.2.1, ?_⟩
  unfold ballotOf
  rw [if_pos ⟨inB_true.2 (by omega), i2⟩]
  exact h1.2.2.1
theorem most35 : isMostB 3 5 = true := by decide
theorem most24 : isMostB 2 4 = false := by decide
theorem most11 : isMostB 1 1 = true := by decide

set_option maxRecDepth 100000 in
set_option maxHeartbeats 2000000 in
theorem wBallotL (v : Value) (zs : List Int) (w : World) (r : RS .u8 w v zs) (hb : Bytes zs) :
    Calls Try.prog 4 #[v] w fun e w' => e = .returned (.bool true) ∧ Below w.heap.size w w' := by
  obtain ⟨A, c, rfl, p1, p2, hr⟩ := r
  unfold maxLen at p2
  by_cases hbig : 1048576 < zs.length
  case pos =>
    have i0 : (1048576 : Int) < (zs.length : Int) := by omega
    go_enter Try.func4, Try.ntmps4
    go_wp2
    go_ret
    exact ⟨rfl, Below.refl _ _⟩
  have hm : zs.length ≤ 1048576 := by omega
  have B0 : Below w.heap.size w w := Below.refl _ _
  go_enter Try.func4, Try.ntmps4
  go_wp2_with fail
  refine (makeNum_any A c zs 1000 _ (rdB hr B0) hb hm (by omega) (by omega)).mono ?_
  rintro e w1 ⟨b, rfl, b1, b2, h_w1⟩
  have B_w1 := B0.trans (h_w1.mono B0.size)
  have s_w1 := h_w1.size
  go_wp2_with fail
  refine (makeNum_any A c zs 4 _ (rdB hr B_w1) hb hm (by omega) (by omega)).mono ?_
  rintro e w2 ⟨n, rfl, n1, n2, h_w2⟩
  have B_w2 := B_w1.trans (h_w2.mono B_w1.size)
  have s_w2 := h_w2.size
  obtain ⟨f1, f2, f3⟩ := above_facts (b := b) (n := n) (by omega) (by omega)
  obtain ⟨x, hx⟩ : ∃ x, ballotAbove b n = x := ⟨_, rfl⟩
  rw [hx] at f1 f2 f3
  have HX := Lib.hid hx
  have HF := Lib.hid f3
  clear hx f3
  go_wp2_with fail
  refine (iBallotAbove_c b n _ (by omega) (by omega)).mono ?_
  rintro e w3 ⟨rfl, h_w3⟩
  have B_w3 := B_w2.trans (h_w3.mono B_w2.size)
  have s_w3 := h_w3.size
  rw [HX.out]
  have t1 : IntKind.i64.wrap (x - 1) = x - 1 := IntWalk.i64_in _ (by omega)
  have t2 : (x - 1).tdiv 4 = (x - 1) / 4 := Int.tdiv_eq_ediv_of_nonneg (by omega)
  have t3 : IntKind.i64.wrap ((x - 1) / 4) = (x - 1) / 4 := IntWalk.i64_in _ (by omega)
  go_wp2_with fail
  refine (iBallotOf_c ((x - 1) / 4) n _ (by omega) (by omega)).mono ?_
  rintro e w4 ⟨rfl, h_w4⟩
  have B_w4 := B_w3.trans (h_w4.mono B_w3.size)
  have s_w4 := h_w4.size
  rw [HF.out]
  have g1 : decide (b < x) = true := decide_eq_true f1
  have t4 : IntKind.i64.wrap (x - b) = x - b := IntWalk.i64_in _ (by omega)
  have g2 : decide (x - b ≤ 4) = true := decide_eq_true f2
  go_wp2_with fail
  refine (iIsMost_c 3 5 _ (by omega) (by omega)).mono ?_
  rintro e w5 ⟨rfl, h_w5⟩
  have B_w5 := B_w4.trans (h_w5.mono B_w4.size)
  have s_w5 := h_w5.size
  rw [most35]
  go_wp2_with fail
  refine (iIsMost_c 2 4 _ (by omega) (by omega)).mono ?_
  rintro e w6 ⟨rfl, h_w6⟩
  have B_w6 := B_w5.trans (h_w6.mono B_w5.size)
  have s_w6 := h_w6.size
  rw [most24]
  go_wp2_with fail
  refine (iIsMost_c 1 1 _ (by omega) (by omega)).mono ?_
  rintro e w7 ⟨rfl, h_w7⟩
  have B_w7 := B_w6.trans (h_w7.mono B_w6.size)
  have s_w7 := h_w7.size
  rw [most11]
  go_wp2
  go_ret
  exact ⟨rfl, B_w7⟩

end Go.Proofs.Ytaoedgcdcimibaa
