/- The walk of the law FnAcct. Laid by a program of ours (src/fnacct.py). -/
import Derived.Test.YtopmojfcdmcmbaaMakes
import Derived.Test.YtopmojfcdmcmbaaAcI
import Derived.Test.YtopmojfcdmcmbaaAc2
import Derived.Test.YtopmojfcdmcmbaaAc4
import Derived.IntWalk
namespace Go.Proofs.Ytopmojfcdmcmbaa
open Go.RowKit
set_option linter.unusedVariables false

theorem rdA {w w' : World} {A : Option Addr} {zs : List Int} (h : Rd .u8 w w.heap.size A zs) (hb : Below w.heap.size w w') : Rd .u8 w' w'.heap.size A zs := (h.below hb).more hb.size
theorem al_add {x : Int} (h : 1 ≤ x ∧ x ≤ 1000) : acctAddB acctZ x = true ∧ acctAdd acctZ x = ⟨x, 0, 0, [], []⟩ := by
  have e : acctAddB acctZ x = true := by unfold acctAddB; rw [show amtB x = true from inB_true.2 (by omega), inB_true.2 (show 0 ≤ acctZ.Have ∧ acctZ.Have ≤ 1125899906842624 - x by show 0 ≤ (0 : Int) ∧ (0 : Int) ≤ _; omega)]; rfl
  exact ⟨e, by unfold acctAdd; rw [if_pos e]; show (⟨(0 : Int) + x, 0, 0, [], []⟩ : MAcct) = _; rw [Int.zero_add]⟩
theorem al_take {x k : Int} (h : 1 ≤ k ∧ k ≤ x ∧ k ≤ 1000) : acctTakeB ⟨x, 0, 0, [], []⟩ k = true ∧ acctTake ⟨x, 0, 0, [], []⟩ k = ⟨x - k, 0, 0, [], []⟩ := by
  have e : acctTakeB ⟨x, 0, 0, [], []⟩ k = true := by unfold acctTakeB; rw [show amtB k = true from inB_true.2 (by omega), decide_eq_true (show k ≤ x by omega)]; rfl
  exact ⟨e, if_pos e⟩
theorem al_much {x k : Int} (h : x < k) : acctTakeB ⟨x, 0, 0, [], []⟩ k = false ∧ acctTake ⟨x, 0, 0, [], []⟩ k = acctZ := by
  have e : acctTakeB ⟨x, 0, 0, [], []⟩ k = false := by unfold acctTakeB; rw [decide_eq_false (show ¬ k ≤ x by omega)]; simp
  exact ⟨e, if_neg (by rw [e]; decide)⟩
theorem al_shut (x : Int) : acctShutB ⟨x, 0, 0, [], []⟩ 2 = true ∧ acctShut ⟨x, 0, 0, [], []⟩ 2 = ⟨x, 1, 2, [], []⟩ := ⟨rfl, rfl⟩
theorem al_again (x : Int) : acctShutB ⟨x, 1, 2, [], []⟩ 2 = false ∧ acctShut ⟨x, 1, 2, [], []⟩ 2 = acctZ := ⟨rfl, rfl⟩
theorem al_mark (x : Int) : acctMarkB ⟨x, 1, 2, [], []⟩ 1 = true ∧ acctMark ⟨x, 1, 2, [], []⟩ 1 = ⟨x, 1, 2, [1], []⟩ := ⟨rfl, rfl⟩
theorem al_open (x : Int) : acctMarkB ⟨x, 0, 0, [], []⟩ 1 = false ∧ acctMark ⟨x, 0, 0, [], []⟩ 1 = acctZ := ⟨rfl, rfl⟩
theorem al_ok0 {x : Int} (h : 0 ≤ x ∧ x ≤ 1000) : acctOkB ⟨x, 0, 0, [], []⟩ 3 0 = true := by
  unfold acctOkB; rw [show numB (⟨x, 0, 0, [], []⟩ : MAcct).Have = true from numB_true.2 (show 0 ≤ x ∧ x ≤ 1125899906842624 by omega)]; rfl
theorem al_ok1 {x : Int} (h : 0 ≤ x ∧ x ≤ 1000) : acctOkB ⟨x, 1, 2, [], []⟩ 3 0 = true := by
  unfold acctOkB; rw [show numB (⟨x, 1, 2, [], []⟩ : MAcct).Have = true from numB_true.2 (show 0 ≤ x ∧ x ≤ 1125899906842624 by omega)]; rfl
theorem al_ok2 {x : Int} (h : 0 ≤ x ∧ x ≤ 1000) : acctOkB ⟨x, 1, 2, [1], []⟩ 3 0 = true := by
  unfold acctOkB; rw [show numB (⟨x, 1, 2, [1], []⟩ : MAcct).Have = true from numB_true.2 (show 0 ≤ x ∧ x ≤ 1125899906842624 by omega)]; rfl
theorem al_rng {l : List Int} (h : l = [] ∨ l = [1]) : ∀ i, i < l.length → i64R (l.getD i 0) := fun i hi => by
  rcases h with rfl | rfl
  · exact absurd hi (Nat.not_lt_zero _)
  · have : i = 0 := by simp at hi; omega
    subst this
    show i64R 1
    unfold i64R; omega
theorem al_same (a : MAcct) : acctSameB a a = true := by simp [acctSameB]
theorem al_other (x : Int) : acctSameB ⟨x, 1, 2, [], []⟩ ⟨x, 1, 2, [1], []⟩ = false := by simp [acctSameB]

set_option maxRecDepth 100000 in
set_option maxHeartbeats 8000000 in
theorem wAcctL (v : Value) (zs : List Int) (w : World) (r : RS .u8 w v zs) (hb : Bytes zs) :
    Calls Try.prog 4 #[v] w fun e w' => e = .returned (.bool true) ∧ Below w.heap.size w w' := by
  obtain ⟨A, c, rfl, p1, p2, hr⟩ := r
  unfold maxLen at p2
  by_cases hbig : 1048576 < zs.length
  case pos =>
    have i0 : (1048576 : Int) < (zs.length : Int) := by omega
    go_enter Try.func4, Try.ntmps4
    go_wp2
    go_ret
    exact ⟨rfl, Below.refl _ _⟩
  have hm : zs.length ≤ 1048576 := by omega
  have B0 : Below w.heap.size w w := Below.refl _ _
  go_enter Try.func4, Try.ntmps4
  go_wp2_with fail
  refine (makeNum_any A c zs 1000 _ (rdA hr B0) hb hm (by omega) (by omega)).mono ?_
  rintro e w1 ⟨x1, rfl, hx1, hx2, h_w1⟩
  have B_w1 := B0.trans (h_w1.mono B0.size)
  have s_w1 := h_w1.size
  obtain ⟨x, hx⟩ : ∃ x, 1 + x1 = x := ⟨_, rfl⟩
  have bx : 1 ≤ x ∧ x ≤ 1000 := by omega
  have tx : IntKind.i64.wrap (1 + x1) = x := by rw [hx]; exact IntWalk.i64_in _ (by omega)
  have HX := Lib.hid hx
  go_wp2_with fail
  refine (iAcctNew_c).mono ?_
  rintro e w2 ⟨u0, rfl, o0, h_w2⟩
  have B_w2 := B_w1.trans (h_w2.mono B_w1.size)
  have s_w2 := h_w2.size
  obtain ⟨a, ha⟩ : ∃ q : MAcct, q = ⟨x, 0, 0, [], []⟩ := ⟨_, rfl⟩
  go_wp2_with fail
  refine (iAcctAdd_c (x := x) o0.rd (by decide)).mono ?_
  rintro e w3 ⟨u_a, rfl, o_a, h_w3⟩
  replace o0 := o0.below h_w3
  have B_w3 := B_w2.trans (h_w3.mono B_w2.size)
  have s_w3 := h_w3.size
  rw [(al_add bx).1]
  rw [(al_add bx).2, ← ha] at o_a
  obtain ⟨Ma, ma, Ra, ra, rfl, -, -⟩ := ov_acct_parts o_a
  have Ha := Lib.hid ha
  clear ha
  obtain ⟨w4, e_w4, s_w4, h_w4, x_a⟩ := alloc_step w3 27 [.int .i64 a.Have, .int .i64 a.State, .int .i64 a.By, .slice Ma a.Marks.length ma, .slice Ra a.Reps.length ra]
  have s_w4_1 := Nat.le_of_eq s_w4
  have s_w4_2 := Nat.le_of_eq s_w4.symm
  clear s_w4
  replace o0 := o0.below h_w4
  replace o_a := o_a.below h_w4
  have B_w4 := B_w3.trans (h_w4.mono B_w3.size)
  have c_a_0_w4 := x_a.cell (i := 0) rfl
  have f_a_0_w4 := x_a.frozen 0
  have c_a_1_w4 := x_a.cell (i := 1) rfl
  have f_a_1_w4 := x_a.frozen 1
  have c_a_2_w4 := x_a.cell (i := 2) rfl
  have f_a_2_w4 := x_a.frozen 2
  have c_a_3_w4 := x_a.cell (i := 3) rfl
  have f_a_3_w4 := x_a.frozen 3
  have c_a_4_w4 := x_a.cell (i := 4) rfl
  have f_a_4_w4 := x_a.frozen 4
  have ba : a.bulk ≤ 16777216 := by rw [Ha.out]; simp [MAcct.bulk]
  have ha1 : a.Have ≤ 9223372036854775807 := by rw [Ha.out]; show x ≤ _; omega
  go_wp2_with fail
  refine (makeNum_any A c zs x _ (rdA hr B_w4) hb hm (by omega) (by omega)).mono ?_
  rintro e w5 ⟨x2, rfl, hx3, hx4, h_w5⟩
  clear c_a_0_w4 f_a_0_w4 c_a_1_w4 f_a_1_w4 c_a_2_w4 f_a_2_w4 c_a_3_w4 f_a_3_w4 c_a_4_w4 f_a_4_w4
  replace x_a := x_a.from_ h_w5
  replace o_a := o_a.below h_w5
  have B_w5 := B_w4.trans (h_w5.mono B_w4.size)
  have s_w5 := h_w5.size
  have c_a_0_w5 := x_a.cell (i := 0) rfl
  have f_a_0_w5 := x_a.frozen 0
  have c_a_1_w5 := x_a.cell (i := 1) rfl
  have f_a_1_w5 := x_a.frozen 1
  have c_a_2_w5 := x_a.cell (i := 2) rfl
  have f_a_2_w5 := x_a.frozen 2
  have c_a_3_w5 := x_a.cell (i := 3) rfl
  have f_a_3_w5 := x_a.frozen 3
  have c_a_4_w5 := x_a.cell (i := 4) rfl
  have f_a_4_w5 := x_a.frozen 4
  obtain ⟨k, hk⟩ : ∃ k, 1 + x2 = k := ⟨_, rfl⟩
  have bk : 1 ≤ k ∧ k ≤ x := by omega
  have tk : IntKind.i64.wrap (1 + x2) = k := by rw [hk]; exact IntWalk.i64_in _ (by omega)
  have ty : IntKind.i64.wrap (x + 1) = x + 1 := IntWalk.i64_in _ (by omega)
  have tz : IntKind.i64.wrap (x - k) = x - k := IntWalk.i64_in _ (by omega)
  have Lb : acctTakeB a k = true ∧ acctTake a k = ⟨x - k, 0, 0, [], []⟩ := by rw [Ha.out]; exact al_take (by omega)
  have L1 := Lib.hid Lb.1
  have L2 := Lib.hid Lb.2
  clear Lb
  obtain ⟨b, hb⟩ : ∃ q : MAcct, q = ⟨x - k, 0, 0, [], []⟩ := ⟨_, rfl⟩
  have Hb := Lib.hid hb
  clear hb
  go_wp2_with fail
  refine (iAcctTake_c (x := k) o_a.rd ba ha1).mono ?_
  rintro e w6 ⟨u_b, rfl, o_b, h_w6⟩
  clear c_a_0_w5 f_a_0_w5 c_a_1_w5 f_a_1_w5 c_a_2_w5 f_a_2_w5 c_a_3_w5 f_a_3_w5 c_a_4_w5 f_a_4_w5
  replace x_a := x_a.from_ h_w6
  replace o_a := o_a.below h_w6
  have B_w6 := B_w5.trans (h_w6.mono B_w5.size)
  have s_w6 := h_w6.size
  rw [L1.out]
  rw [L2.out, ← Hb.out] at o_b
  clear L1 L2
  obtain ⟨Mb, mb, Rb, rb, rfl, -, -⟩ := ov_acct_parts o_b
  have c_a_0_w6 := x_a.cell (i := 0) rfl
  have f_a_0_w6 := x_a.frozen 0
  have c_a_1_w6 := x_a.cell (i := 1) rfl
  have f_a_1_w6 := x_a.frozen 1
  have c_a_2_w6 := x_a.cell (i := 2) rfl
  have f_a_2_w6 := x_a.frozen 2
  have c_a_3_w6 := x_a.cell (i := 3) rfl
  have f_a_3_w6 := x_a.frozen 3
  have c_a_4_w6 := x_a.cell (i := 4) rfl
  have f_a_4_w6 := x_a.frozen 4
  obtain ⟨w7, e_w7, s_w7, h_w7, x_b⟩ := alloc_step w6 27 [.int .i64 b.Have, .int .i64 b.State, .int .i64 b.By, .slice Mb b.Marks.length mb, .slice Rb b.Reps.length rb]
  have s_w7_1 := Nat.le_of_eq s_w7
  have s_w7_2 := Nat.le_of_eq s_w7.symm
  clear s_w7
  replace x_a := x_a.from_ h_w7
  replace o_a := o_a.below h_w7
  replace o_b := o_b.below h_w7
  have B_w7 := B_w6.trans (h_w7.mono B_w6.size)
  have c_a_0_w7 := x_a.cell (i := 0) rfl
  have f_a_0_w7 := x_a.frozen 0
  have c_a_1_w7 := x_a.cell (i := 1) rfl
  have f_a_1_w7 := x_a.frozen 1
  have c_a_2_w7 := x_a.cell (i := 2) rfl
  have f_a_2_w7 := x_a.frozen 2
  have c_a_3_w7 := x_a.cell (i := 3) rfl
  have f_a_3_w7 := x_a.frozen 3
  have c_a_4_w7 := x_a.cell (i := 4) rfl
  have f_a_4_w7 := x_a.frozen 4
  have c_b_0_w7 := x_b.cell (i := 0) rfl
  have f_b_0_w7 := x_b.frozen 0
  have c_b_1_w7 := x_b.cell (i := 1) rfl
  have f_b_1_w7 := x_b.frozen 1
  have c_b_2_w7 := x_b.cell (i := 2) rfl
  have f_b_2_w7 := x_b.frozen 2
  have c_b_3_w7 := x_b.cell (i := 3) rfl
  have f_b_3_w7 := x_b.frozen 3
  have c_b_4_w7 := x_b.cell (i := 4) rfl
  have f_b_4_w7 := x_b.frozen 4
  have bb : b.bulk ≤ 16777216 := by rw [Hb.out]; simp [MAcct.bulk]
  have Ld : acctTakeB a (x + 1) = false ∧ acctTake a (x + 1) = acctZ := by rw [Ha.out]; exact al_much (by omega)
  have L1 := Lib.hid Ld.1
  have L2 := Lib.hid Ld.2
  clear Ld
  obtain ⟨d, hd⟩ : ∃ q : MAcct, q = acctZ := ⟨_, rfl⟩
  have Hd := Lib.hid hd
  clear hd
  go_wp2_with fail
  refine (iAcctTake_c (x := x + 1) o_a.rd ba ha1).mono ?_
  rintro e w8 ⟨u_d, rfl, o_d, h_w8⟩
  clear c_a_0_w6 f_a_0_w6 c_a_1_w6 f_a_1_w6 c_a_2_w6 f_a_2_w6 c_a_3_w6 f_a_3_w6 c_a_4_w6 f_a_4_w6 c_a_0_w7 f_a_0_w7 c_a_1_w7 f_a_1_w7 c_a_2_w7 f_a_2_w7 c_a_3_w7 f_a_3_w7 c_a_4_w7 f_a_4_w7 c_b_0_w7 f_b_0_w7 c_b_1_w7 f_b_1_w7 c_b_2_w7 f_b_2_w7 c_b_3_w7 f_b_3_w7 c_b_4_w7 f_b_4_w7
  replace x_a := x_a.from_ h_w8
  replace x_b := x_b.from_ h_w8
  replace o_a := o_a.below h_w8
  replace o_b := o_b.below h_w8
  have B_w8 := B_w7.trans (h_w8.mono B_w7.size)
  have s_w8 := h_w8.size
  rw [L1.out]
  rw [L2.out, ← Hd.out] at o_d
  clear L1 L2
  obtain ⟨Md, md, Rd, rd, rfl, -, -⟩ := ov_acct_parts o_d
  have c_a_0_w8 := x_a.cell (i := 0) rfl
  have f_a_0_w8 := x_a.frozen 0
  have c_a_1_w8 := x_a.cell (i := 1) rfl
  have f_a_1_w8 := x_a.frozen 1
  have c_a_2_w8 := x_a.cell (i := 2) rfl
  have f_a_2_w8 := x_a.frozen 2
  have c_a_3_w8 := x_a.cell (i := 3) rfl
  have f_a_3_w8 := x_a.frozen 3
  have c_a_4_w8 := x_a.cell (i := 4) rfl
  have f_a_4_w8 := x_a.frozen 4
  have c_b_0_w8 := x_b.cell (i := 0) rfl
  have f_b_0_w8 := x_b.frozen 0
  have c_b_1_w8 := x_b.cell (i := 1) rfl
  have f_b_1_w8 := x_b.frozen 1
  have c_b_2_w8 := x_b.cell (i := 2) rfl
  have f_b_2_w8 := x_b.frozen 2
  have c_b_3_w8 := x_b.cell (i := 3) rfl
  have f_b_3_w8 := x_b.frozen 3
  have c_b_4_w8 := x_b.cell (i := 4) rfl
  have f_b_4_w8 := x_b.frozen 4
  obtain ⟨w9, e_w9, s_w9, h_w9, x_d⟩ := alloc_step w8 27 [.int .i64 d.Have, .int .i64 d.State, .int .i64 d.By, .slice Md d.Marks.length md, .slice Rd d.Reps.length rd]
  have s_w9_1 := Nat.le_of_eq s_w9
  have s_w9_2 := Nat.le_of_eq s_w9.symm
  clear s_w9
  replace x_a := x_a.from_ h_w9
  replace x_b := x_b.from_ h_w9
  replace o_a := o_a.below h_w9
  replace o_b := o_b.below h_w9
  replace o_d := o_d.below h_w9
  have B_w9 := B_w8.trans (h_w9.mono B_w8.size)
  clear x_d o_d
  have c_a_0_w9 := x_a.cell (i := 0) rfl
  have f_a_0_w9 := x_a.frozen 0
  have c_a_1_w9 := x_a.cell (i := 1) rfl
  have f_a_1_w9 := x_a.frozen 1
  have c_a_2_w9 := x_a.cell (i := 2) rfl
  have f_a_2_w9 := x_a.frozen 2
  have c_a_3_w9 := x_a.cell (i := 3) rfl
  have f_a_3_w9 := x_a.frozen 3
  have c_a_4_w9 := x_a.cell (i := 4) rfl
  have f_a_4_w9 := x_a.frozen 4
  have c_b_0_w9 := x_b.cell (i := 0) rfl
  have f_b_0_w9 := x_b.frozen 0
  have c_b_1_w9 := x_b.cell (i := 1) rfl
  have f_b_1_w9 := x_b.frozen 1
  have c_b_2_w9 := x_b.cell (i := 2) rfl
  have f_b_2_w9 := x_b.frozen 2
  have c_b_3_w9 := x_b.cell (i := 3) rfl
  have f_b_3_w9 := x_b.frozen 3
  have c_b_4_w9 := x_b.cell (i := 4) rfl
  have f_b_4_w9 := x_b.frozen 4
  have Ls : acctShutB b 2 = true ∧ acctShut b 2 = ⟨x - k, 1, 2, [], []⟩ := by rw [Hb.out]; exact al_shut _
  have L1 := Lib.hid Ls.1
  have L2 := Lib.hid Ls.2
  clear Ls
  obtain ⟨s, hs⟩ : ∃ q : MAcct, q = ⟨x - k, 1, 2, [], []⟩ := ⟨_, rfl⟩
  have Hs := Lib.hid hs
  clear hs
  go_wp2_with fail
  refine (iAcctShut_c (x := 2) o_b.rd bb).mono ?_
  rintro e w10 ⟨u_s, rfl, o_s, h_w10⟩
  clear c_a_0_w8 f_a_0_w8 c_a_1_w8 f_a_1_w8 c_a_2_w8 f_a_2_w8 c_a_3_w8 f_a_3_w8 c_a_4_w8 f_a_4_w8 c_b_0_w8 f_b_0_w8 c_b_1_w8 f_b_1_w8 c_b_2_w8 f_b_2_w8 c_b_3_w8 f_b_3_w8 c_b_4_w8 f_b_4_w8 c_a_0_w9 f_a_0_w9 c_a_1_w9 f_a_1_w9 c_a_2_w9 f_a_2_w9 c_a_3_w9 f_a_3_w9 c_a_4_w9 f_a_4_w9 c_b_0_w9 f_b_0_w9 c_b_1_w9 f_b_1_w9 c_b_2_w9 f_b_2_w9 c_b_3_w9 f_b_3_w9 c_b_4_w9 f_b_4_w9
  replace x_a := x_a.from_ h_w10
  replace x_b := x_b.from_ h_w10
  replace o_a := o_a.below h_w10
  replace o_b := o_b.below h_w10
  have B_w10 := B_w9.trans (h_w10.mono B_w9.size)
  have s_w10 := h_w10.size
  rw [L1.out]
  rw [L2.out, ← Hs.out] at o_s
  clear L1 L2
  obtain ⟨Ms, ms, Rs, rs, rfl, -, -⟩ := ov_acct_parts o_s
  have c_a_0_w10 := x_a.cell (i := 0) rfl
  have f_a_0_w10 := x_a.frozen 0
  have c_a_1_w10 := x_a.cell (i := 1) rfl
  have f_a_1_w10 := x_a.frozen 1
  have c_a_2_w10 := x_a.cell (i := 2) rfl
  have f_a_2_w10 := x_a.frozen 2
  have c_a_3_w10 := x_a.cell (i := 3) rfl
  have f_a_3_w10 := x_a.frozen 3
  have c_a_4_w10 := x_a.cell (i := 4) rfl
  have f_a_4_w10 := x_a.frozen 4
  have c_b_0_w10 := x_b.cell (i := 0) rfl
  have f_b_0_w10 := x_b.frozen 0
  have c_b_1_w10 := x_b.cell (i := 1) rfl
  have f_b_1_w10 := x_b.frozen 1
  have c_b_2_w10 := x_b.cell (i := 2) rfl
  have f_b_2_w10 := x_b.frozen 2
  have c_b_3_w10 := x_b.cell (i := 3) rfl
  have f_b_3_w10 := x_b.frozen 3
  have c_b_4_w10 := x_b.cell (i := 4) rfl
  have f_b_4_w10 := x_b.frozen 4
  obtain ⟨w11, e_w11, s_w11, h_w11, x_s⟩ := alloc_step w10 27 [.int .i64 s.Have, .int .i64 s.State, .int .i64 s.By, .slice Ms s.Marks.length ms, .slice Rs s.Reps.length rs]
  have s_w11_1 := Nat.le_of_eq s_w11
  have s_w11_2 := Nat.le_of_eq s_w11.symm
  clear s_w11
  replace x_a := x_a.from_ h_w11
  replace x_b := x_b.from_ h_w11
  replace o_a := o_a.below h_w11
  replace o_b := o_b.below h_w11
  replace o_s := o_s.below h_w11
  have B_w11 := B_w10.trans (h_w11.mono B_w10.size)
  have c_a_0_w11 := x_a.cell (i := 0) rfl
  have f_a_0_w11 := x_a.frozen 0
  have c_a_1_w11 := x_a.cell (i := 1) rfl
  have f_a_1_w11 := x_a.frozen 1
  have c_a_2_w11 := x_a.cell (i := 2) rfl
  have f_a_2_w11 := x_a.frozen 2
  have c_a_3_w11 := x_a.cell (i := 3) rfl
  have f_a_3_w11 := x_a.frozen 3
  have c_a_4_w11 := x_a.cell (i := 4) rfl
  have f_a_4_w11 := x_a.frozen 4
  have c_b_0_w11 := x_b.cell (i := 0) rfl
  have f_b_0_w11 := x_b.frozen 0
  have c_b_1_w11 := x_b.cell (i := 1) rfl
  have f_b_1_w11 := x_b.frozen 1
  have c_b_2_w11 := x_b.cell (i := 2) rfl
  have f_b_2_w11 := x_b.frozen 2
  have c_b_3_w11 := x_b.cell (i := 3) rfl
  have f_b_3_w11 := x_b.frozen 3
  have c_b_4_w11 := x_b.cell (i := 4) rfl
  have f_b_4_w11 := x_b.frozen 4
  have c_s_0_w11 := x_s.cell (i := 0) rfl
  have f_s_0_w11 := x_s.frozen 0
  have c_s_1_w11 := x_s.cell (i := 1) rfl
  have f_s_1_w11 := x_s.frozen 1
  have c_s_2_w11 := x_s.cell (i := 2) rfl
  have f_s_2_w11 := x_s.frozen 2
  have c_s_3_w11 := x_s.cell (i := 3) rfl
  have f_s_3_w11 := x_s.frozen 3
  have c_s_4_w11 := x_s.cell (i := 4) rfl
  have f_s_4_w11 := x_s.frozen 4
  have bs : s.bulk ≤ 16777216 := by rw [Hs.out]; simp [MAcct.bulk]
  have Le9 : acctShutB s 2 = false ∧ acctShut s 2 = acctZ := by rw [Hs.out]; exact al_again _
  have L1 := Lib.hid Le9.1
  have L2 := Lib.hid Le9.2
  clear Le9
  obtain ⟨e9, he9⟩ : ∃ q : MAcct, q = acctZ := ⟨_, rfl⟩
  have He9 := Lib.hid he9
  clear he9
  go_wp2_with fail
  refine (iAcctShut_c (x := 2) o_s.rd bs).mono ?_
  rintro e w12 ⟨u_e9, rfl, o_e9, h_w12⟩
  clear c_a_0_w10 f_a_0_w10 c_a_1_w10 f_a_1_w10 c_a_2_w10 f_a_2_w10 c_a_3_w10 f_a_3_w10 c_a_4_w10 f_a_4_w10 c_b_0_w10 f_b_0_w10 c_b_1_w10 f_b_1_w10 c_b_2_w10 f_b_2_w10 c_b_3_w10 f_b_3_w10 c_b_4_w10 f_b_4_w10 c_a_0_w11 f_a_0_w11 c_a_1_w11 f_a_1_w11 c_a_2_w11 f_a_2_w11 c_a_3_w11 f_a_3_w11 c_a_4_w11 f_a_4_w11 c_b_0_w11 f_b_0_w11 c_b_1_w11 f_b_1_w11 c_b_2_w11 f_b_2_w11 c_b_3_w11 f_b_3_w11 c_b_4_w11 f_b_4_w11 c_s_0_w11 f_s_0_w11 c_s_1_w11 f_s_1_w11 c_s_2_w11 f_s_2_w11 c_s_3_w11 f_s_3_w11 c_s_4_w11 f_s_4_w11
  replace x_a := x_a.from_ h_w12
  replace x_b := x_b.from_ h_w12
  replace x_s := x_s.from_ h_w12
  replace o_a := o_a.below h_w12
  replace o_b := o_b.below h_w12
  replace o_s := o_s.below h_w12
  have B_w12 := B_w11.trans (h_w12.mono B_w11.size)
  have s_w12 := h_w12.size
  rw [L1.out]
  rw [L2.out, ← He9.out] at o_e9
  clear L1 L2
  obtain ⟨Me9, me9, Re9, re9, rfl, -, -⟩ := ov_acct_parts o_e9
  have c_a_0_w12 := x_a.cell (i := 0) rfl
  have f_a_0_w12 := x_a.frozen 0
  have c_a_1_w12 := x_a.cell (i := 1) rfl
  have f_a_1_w12 := x_a.frozen 1
  have c_a_2_w12 := x_a.cell (i := 2) rfl
  have f_a_2_w12 := x_a.frozen 2
  have c_a_3_w12 := x_a.cell (i := 3) rfl
  have f_a_3_w12 := x_a.frozen 3
  have c_a_4_w12 := x_a.cell (i := 4) rfl
  have f_a_4_w12 := x_a.frozen 4
  have c_b_0_w12 := x_b.cell (i := 0) rfl
  have f_b_0_w12 := x_b.frozen 0
  have c_b_1_w12 := x_b.cell (i := 1) rfl
  have f_b_1_w12 := x_b.frozen 1
  have c_b_2_w12 := x_b.cell (i := 2) rfl
  have f_b_2_w12 := x_b.frozen 2
  have c_b_3_w12 := x_b.cell (i := 3) rfl
  have f_b_3_w12 := x_b.frozen 3
  have c_b_4_w12 := x_b.cell (i := 4) rfl
  have f_b_4_w12 := x_b.frozen 4
  have c_s_0_w12 := x_s.cell (i := 0) rfl
  have f_s_0_w12 := x_s.frozen 0
  have c_s_1_w12 := x_s.cell (i := 1) rfl
  have f_s_1_w12 := x_s.frozen 1
  have c_s_2_w12 := x_s.cell (i := 2) rfl
  have f_s_2_w12 := x_s.frozen 2
  have c_s_3_w12 := x_s.cell (i := 3) rfl
  have f_s_3_w12 := x_s.frozen 3
  have c_s_4_w12 := x_s.cell (i := 4) rfl
  have f_s_4_w12 := x_s.frozen 4
  obtain ⟨w13, e_w13, s_w13, h_w13, x_e9⟩ := alloc_step w12 27 [.int .i64 e9.Have, .int .i64 e9.State, .int .i64 e9.By, .slice Me9 e9.Marks.length me9, .slice Re9 e9.Reps.length re9]
  have s_w13_1 := Nat.le_of_eq s_w13
  have s_w13_2 := Nat.le_of_eq s_w13.symm
  clear s_w13
  replace x_a := x_a.from_ h_w13
  replace x_b := x_b.from_ h_w13
  replace x_s := x_s.from_ h_w13
  replace o_a := o_a.below h_w13
  replace o_b := o_b.below h_w13
  replace o_s := o_s.below h_w13
  replace o_e9 := o_e9.below h_w13
  have B_w13 := B_w12.trans (h_w13.mono B_w12.size)
  clear x_e9 o_e9
  have c_a_0_w13 := x_a.cell (i := 0) rfl
  have f_a_0_w13 := x_a.frozen 0
  have c_a_1_w13 := x_a.cell (i := 1) rfl
  have f_a_1_w13 := x_a.frozen 1
  have c_a_2_w13 := x_a.cell (i := 2) rfl
  have f_a_2_w13 := x_a.frozen 2
  have c_a_3_w13 := x_a.cell (i := 3) rfl
  have f_a_3_w13 := x_a.frozen 3
  have c_a_4_w13 := x_a.cell (i := 4) rfl
  have f_a_4_w13 := x_a.frozen 4
  have c_b_0_w13 := x_b.cell (i := 0) rfl
  have f_b_0_w13 := x_b.frozen 0
  have c_b_1_w13 := x_b.cell (i := 1) rfl
  have f_b_1_w13 := x_b.frozen 1
  have c_b_2_w13 := x_b.cell (i := 2) rfl
  have f_b_2_w13 := x_b.frozen 2
  have c_b_3_w13 := x_b.cell (i := 3) rfl
  have f_b_3_w13 := x_b.frozen 3
  have c_b_4_w13 := x_b.cell (i := 4) rfl
  have f_b_4_w13 := x_b.frozen 4
  have c_s_0_w13 := x_s.cell (i := 0) rfl
  have f_s_0_w13 := x_s.frozen 0
  have c_s_1_w13 := x_s.cell (i := 1) rfl
  have f_s_1_w13 := x_s.frozen 1
  have c_s_2_w13 := x_s.cell (i := 2) rfl
  have f_s_2_w13 := x_s.frozen 2
  have c_s_3_w13 := x_s.cell (i := 3) rfl
  have f_s_3_w13 := x_s.frozen 3
  have c_s_4_w13 := x_s.cell (i := 4) rfl
  have f_s_4_w13 := x_s.frozen 4
  have Lm : acctMarkB s 1 = true ∧ acctMark s 1 = ⟨x - k, 1, 2, [1], []⟩ := by rw [Hs.out]; exact al_mark _
  have L1 := Lib.hid Lm.1
  have L2 := Lib.hid Lm.2
  clear Lm
  obtain ⟨m, hm⟩ : ∃ q : MAcct, q = ⟨x - k, 1, 2, [1], []⟩ := ⟨_, rfl⟩
  have Hm := Lib.hid hm
  clear hm
  go_wp2_with fail
  refine (iAcctMark_c (x := 1) o_s.rd bs).mono ?_
  rintro e w14 ⟨u_m, rfl, o_m, h_w14⟩
  clear c_a_0_w12 f_a_0_w12 c_a_1_w12 f_a_1_w12 c_a_2_w12 f_a_2_w12 c_a_3_w12 f_a_3_w12 c_a_4_w12 f_a_4_w12 c_b_0_w12 f_b_0_w12 c_b_1_w12 f_b_1_w12 c_b_2_w12 f_b_2_w12 c_b_3_w12 f_b_3_w12 c_b_4_w12 f_b_4_w12 c_s_0_w12 f_s_0_w12 c_s_1_w12 f_s_1_w12 c_s_2_w12 f_s_2_w12 c_s_3_w12 f_s_3_w12 c_s_4_w12 f_s_4_w12 c_a_0_w13 f_a_0_w13 c_a_1_w13 f_a_1_w13 c_a_2_w13 f_a_2_w13 c_a_3_w13 f_a_3_w13 c_a_4_w13 f_a_4_w13 c_b_0_w13 f_b_0_w13 c_b_1_w13 f_b_1_w13 c_b_2_w13 f_b_2_w13 c_b_3_w13 f_b_3_w13 c_b_4_w13 f_b_4_w13 c_s_0_w13 f_s_0_w13 c_s_1_w13 f_s_1_w13 c_s_2_w13 f_s_2_w13 c_s_3_w13 f_s_3_w13 c_s_4_w13 f_s_4_w13
  replace x_a := x_a.from_ h_w14
  replace x_b := x_b.from_ h_w14
  replace x_s := x_s.from_ h_w14
  replace o_a := o_a.below h_w14
  replace o_b := o_b.below h_w14
  replace o_s := o_s.below h_w14
  have B_w14 := B_w13.trans (h_w14.mono B_w13.size)
  have s_w14 := h_w14.size
  rw [L1.out]
  rw [L2.out, ← Hm.out] at o_m
  clear L1 L2
  obtain ⟨Mm, mm, Rm, rm, rfl, -, -⟩ := ov_acct_parts o_m
  have c_a_0_w14 := x_a.cell (i := 0) rfl
  have f_a_0_w14 := x_a.frozen 0
  have c_a_1_w14 := x_a.cell (i := 1) rfl
  have f_a_1_w14 := x_a.frozen 1
  have c_a_2_w14 := x_a.cell (i := 2) rfl
  have f_a_2_w14 := x_a.frozen 2
  have c_a_3_w14 := x_a.cell (i := 3) rfl
  have f_a_3_w14 := x_a.frozen 3
  have c_a_4_w14 := x_a.cell (i := 4) rfl
  have f_a_4_w14 := x_a.frozen 4
  have c_b_0_w14 := x_b.cell (i := 0) rfl
  have f_b_0_w14 := x_b.frozen 0
  have c_b_1_w14 := x_b.cell (i := 1) rfl
  have f_b_1_w14 := x_b.frozen 1
  have c_b_2_w14 := x_b.cell (i := 2) rfl
  have f_b_2_w14 := x_b.frozen 2
  have c_b_3_w14 := x_b.cell (i := 3) rfl
  have f_b_3_w14 := x_b.frozen 3
  have c_b_4_w14 := x_b.cell (i := 4) rfl
  have f_b_4_w14 := x_b.frozen 4
  have c_s_0_w14 := x_s.cell (i := 0) rfl
  have f_s_0_w14 := x_s.frozen 0
  have c_s_1_w14 := x_s.cell (i := 1) rfl
  have f_s_1_w14 := x_s.frozen 1
  have c_s_2_w14 := x_s.cell (i := 2) rfl
  have f_s_2_w14 := x_s.frozen 2
  have c_s_3_w14 := x_s.cell (i := 3) rfl
  have f_s_3_w14 := x_s.frozen 3
  have c_s_4_w14 := x_s.cell (i := 4) rfl
  have f_s_4_w14 := x_s.frozen 4
  obtain ⟨w15, e_w15, s_w15, h_w15, x_m⟩ := alloc_step w14 27 [.int .i64 m.Have, .int .i64 m.State, .int .i64 m.By, .slice Mm m.Marks.length mm, .slice Rm m.Reps.length rm]
  have s_w15_1 := Nat.le_of_eq s_w15
  have s_w15_2 := Nat.le_of_eq s_w15.symm
  clear s_w15
  replace x_a := x_a.from_ h_w15
  replace x_b := x_b.from_ h_w15
  replace x_s := x_s.from_ h_w15
  replace o_a := o_a.below h_w15
  replace o_b := o_b.below h_w15
  replace o_s := o_s.below h_w15
  replace o_m := o_m.below h_w15
  have B_w15 := B_w14.trans (h_w15.mono B_w14.size)
  have c_a_0_w15 := x_a.cell (i := 0) rfl
  have f_a_0_w15 := x_a.frozen 0
  have c_a_1_w15 := x_a.cell (i := 1) rfl
  have f_a_1_w15 := x_a.frozen 1
  have c_a_2_w15 := x_a.cell (i := 2) rfl
  have f_a_2_w15 := x_a.frozen 2
  have c_a_3_w15 := x_a.cell (i := 3) rfl
  have f_a_3_w15 := x_a.frozen 3
  have c_a_4_w15 := x_a.cell (i := 4) rfl
  have f_a_4_w15 := x_a.frozen 4
  have c_b_0_w15 := x_b.cell (i := 0) rfl
  have f_b_0_w15 := x_b.frozen 0
  have c_b_1_w15 := x_b.cell (i := 1) rfl
  have f_b_1_w15 := x_b.frozen 1
  have c_b_2_w15 := x_b.cell (i := 2) rfl
  have f_b_2_w15 := x_b.frozen 2
  have c_b_3_w15 := x_b.cell (i := 3) rfl
  have f_b_3_w15 := x_b.frozen 3
  have c_b_4_w15 := x_b.cell (i := 4) rfl
  have f_b_4_w15 := x_b.frozen 4
  have c_s_0_w15 := x_s.cell (i := 0) rfl
  have f_s_0_w15 := x_s.frozen 0
  have c_s_1_w15 := x_s.cell (i := 1) rfl
  have f_s_1_w15 := x_s.frozen 1
  have c_s_2_w15 := x_s.cell (i := 2) rfl
  have f_s_2_w15 := x_s.frozen 2
  have c_s_3_w15 := x_s.cell (i := 3) rfl
  have f_s_3_w15 := x_s.frozen 3
  have c_s_4_w15 := x_s.cell (i := 4) rfl
  have f_s_4_w15 := x_s.frozen 4
  have c_m_0_w15 := x_m.cell (i := 0) rfl
  have f_m_0_w15 := x_m.frozen 0
  have c_m_1_w15 := x_m.cell (i := 1) rfl
  have f_m_1_w15 := x_m.frozen 1
  have c_m_2_w15 := x_m.cell (i := 2) rfl
  have f_m_2_w15 := x_m.frozen 2
  have c_m_3_w15 := x_m.cell (i := 3) rfl
  have f_m_3_w15 := x_m.frozen 3
  have c_m_4_w15 := x_m.cell (i := 4) rfl
  have f_m_4_w15 := x_m.frozen 4
  have bm : m.bulk ≤ 16777216 := by rw [Hm.out]; simp [MAcct.bulk]
  have Lp9 : acctMarkB b 1 = false ∧ acctMark b 1 = acctZ := by rw [Hb.out]; exact al_open _
  have L1 := Lib.hid Lp9.1
  have L2 := Lib.hid Lp9.2
  clear Lp9
  obtain ⟨p9, hp9⟩ : ∃ q : MAcct, q = acctZ := ⟨_, rfl⟩
  have Hp9 := Lib.hid hp9
  clear hp9
  go_wp2_with fail
  refine (iAcctMark_c (x := 1) o_b.rd bb).mono ?_
  rintro e w16 ⟨u_p9, rfl, o_p9, h_w16⟩
  clear c_a_0_w14 f_a_0_w14 c_a_1_w14 f_a_1_w14 c_a_2_w14 f_a_2_w14 c_a_3_w14 f_a_3_w14 c_a_4_w14 f_a_4_w14 c_b_0_w14 f_b_0_w14 c_b_1_w14 f_b_1_w14 c_b_2_w14 f_b_2_w14 c_b_3_w14 f_b_3_w14 c_b_4_w14 f_b_4_w14 c_s_0_w14 f_s_0_w14 c_s_1_w14 f_s_1_w14 c_s_2_w14 f_s_2_w14 c_s_3_w14 f_s_3_w14 c_s_4_w14 f_s_4_w14 c_a_0_w15 f_a_0_w15 c_a_1_w15 f_a_1_w15 c_a_2_w15 f_a_2_w15 c_a_3_w15 f_a_3_w15 c_a_4_w15 f_a_4_w15 c_b_0_w15 f_b_0_w15 c_b_1_w15 f_b_1_w15 c_b_2_w15 f_b_2_w15 c_b_3_w15 f_b_3_w15 c_b_4_w15 f_b_4_w15 c_s_0_w15 f_s_0_w15 c_s_1_w15 f_s_1_w15 c_s_2_w15 f_s_2_w15 c_s_3_w15 f_s_3_w15 c_s_4_w15 f_s_4_w15 c_m_0_w15 f_m_0_w15 c_m_1_w15 f_m_1_w15 c_m_2_w15 f_m_2_w15 c_m_3_w15 f_m_3_w15 c_m_4_w15 f_m_4_w15
  replace x_a := x_a.from_ h_w16
  replace x_b := x_b.from_ h_w16
  replace x_s := x_s.from_ h_w16
  replace x_m := x_m.from_ h_w16
  replace o_a := o_a.below h_w16
  replace o_b := o_b.below h_w16
  replace o_s := o_s.below h_w16
  replace o_m := o_m.below h_w16
  have B_w16 := B_w15.trans (h_w16.mono B_w15.size)
  have s_w16 := h_w16.size
  rw [L1.out]
  rw [L2.out, ← Hp9.out] at o_p9
  clear L1 L2
  obtain ⟨Mp9, mp9, Rp9, rp9, rfl, -, -⟩ := ov_acct_parts o_p9
  have c_a_0_w16 := x_a.cell (i := 0) rfl
  have f_a_0_w16 := x_a.frozen 0
  have c_a_1_w16 := x_a.cell (i := 1) rfl
  have f_a_1_w16 := x_a.frozen 1
  have c_a_2_w16 := x_a.cell (i := 2) rfl
  have f_a_2_w16 := x_a.frozen 2
  have c_a_3_w16 := x_a.cell (i := 3) rfl
  have f_a_3_w16 := x_a.frozen 3
  have c_a_4_w16 := x_a.cell (i := 4) rfl
  have f_a_4_w16 := x_a.frozen 4
  have c_b_0_w16 := x_b.cell (i := 0) rfl
  have f_b_0_w16 := x_b.frozen 0
  have c_b_1_w16 := x_b.cell (i := 1) rfl
  have f_b_1_w16 := x_b.frozen 1
  have c_b_2_w16 := x_b.cell (i := 2) rfl
  have f_b_2_w16 := x_b.frozen 2
  have c_b_3_w16 := x_b.cell (i := 3) rfl
  have f_b_3_w16 := x_b.frozen 3
  have c_b_4_w16 := x_b.cell (i := 4) rfl
  have f_b_4_w16 := x_b.frozen 4
  have c_s_0_w16 := x_s.cell (i := 0) rfl
  have f_s_0_w16 := x_s.frozen 0
  have c_s_1_w16 := x_s.cell (i := 1) rfl
  have f_s_1_w16 := x_s.frozen 1
  have c_s_2_w16 := x_s.cell (i := 2) rfl
  have f_s_2_w16 := x_s.frozen 2
  have c_s_3_w16 := x_s.cell (i := 3) rfl
  have f_s_3_w16 := x_s.frozen 3
  have c_s_4_w16 := x_s.cell (i := 4) rfl
  have f_s_4_w16 := x_s.frozen 4
  have c_m_0_w16 := x_m.cell (i := 0) rfl
  have f_m_0_w16 := x_m.frozen 0
  have c_m_1_w16 := x_m.cell (i := 1) rfl
  have f_m_1_w16 := x_m.frozen 1
  have c_m_2_w16 := x_m.cell (i := 2) rfl
  have f_m_2_w16 := x_m.frozen 2
  have c_m_3_w16 := x_m.cell (i := 3) rfl
  have f_m_3_w16 := x_m.frozen 3
  have c_m_4_w16 := x_m.cell (i := 4) rfl
  have f_m_4_w16 := x_m.frozen 4
  obtain ⟨w17, e_w17, s_w17, h_w17, x_p9⟩ := alloc_step w16 27 [.int .i64 p9.Have, .int .i64 p9.State, .int .i64 p9.By, .slice Mp9 p9.Marks.length mp9, .slice Rp9 p9.Reps.length rp9]
  have s_w17_1 := Nat.le_of_eq s_w17
  have s_w17_2 := Nat.le_of_eq s_w17.symm
  clear s_w17
  replace x_a := x_a.from_ h_w17
  replace x_b := x_b.from_ h_w17
  replace x_s := x_s.from_ h_w17
  replace x_m := x_m.from_ h_w17
  replace o_a := o_a.below h_w17
  replace o_b := o_b.below h_w17
  replace o_s := o_s.below h_w17
  replace o_m := o_m.below h_w17
  replace o_p9 := o_p9.below h_w17
  have B_w17 := B_w16.trans (h_w17.mono B_w16.size)
  clear x_p9 o_p9
  have c_a_0_w17 := x_a.cell (i := 0) rfl
  have f_a_0_w17 := x_a.frozen 0
  have c_a_1_w17 := x_a.cell (i := 1) rfl
  have f_a_1_w17 := x_a.frozen 1
  have c_a_2_w17 := x_a.cell (i := 2) rfl
  have f_a_2_w17 := x_a.frozen 2
  have c_a_3_w17 := x_a.cell (i := 3) rfl
  have f_a_3_w17 := x_a.frozen 3
  have c_a_4_w17 := x_a.cell (i := 4) rfl
  have f_a_4_w17 := x_a.frozen 4
  have c_b_0_w17 := x_b.cell (i := 0) rfl
  have f_b_0_w17 := x_b.frozen 0
  have c_b_1_w17 := x_b.cell (i := 1) rfl
  have f_b_1_w17 := x_b.frozen 1
  have c_b_2_w17 := x_b.cell (i := 2) rfl
  have f_b_2_w17 := x_b.frozen 2
  have c_b_3_w17 := x_b.cell (i := 3) rfl
  have f_b_3_w17 := x_b.frozen 3
  have c_b_4_w17 := x_b.cell (i := 4) rfl
  have f_b_4_w17 := x_b.frozen 4
  have c_s_0_w17 := x_s.cell (i := 0) rfl
  have f_s_0_w17 := x_s.frozen 0
  have c_s_1_w17 := x_s.cell (i := 1) rfl
  have f_s_1_w17 := x_s.frozen 1
  have c_s_2_w17 := x_s.cell (i := 2) rfl
  have f_s_2_w17 := x_s.frozen 2
  have c_s_3_w17 := x_s.cell (i := 3) rfl
  have f_s_3_w17 := x_s.frozen 3
  have c_s_4_w17 := x_s.cell (i := 4) rfl
  have f_s_4_w17 := x_s.frozen 4
  have c_m_0_w17 := x_m.cell (i := 0) rfl
  have f_m_0_w17 := x_m.frozen 0
  have c_m_1_w17 := x_m.cell (i := 1) rfl
  have f_m_1_w17 := x_m.frozen 1
  have c_m_2_w17 := x_m.cell (i := 2) rfl
  have f_m_2_w17 := x_m.frozen 2
  have c_m_3_w17 := x_m.cell (i := 3) rfl
  have f_m_3_w17 := x_m.frozen 3
  have c_m_4_w17 := x_m.cell (i := 4) rfl
  have f_m_4_w17 := x_m.frozen 4
  have ga : (a.Have == x) = true := by rw [Ha.out]; exact beq_self_eq_true _
  have gb : (b.Have == x - k) = true := by rw [Hb.out]; exact beq_self_eq_true _
  have G : Hid (acctOkB a 3 0 = true) := by show _ = _; rw [Ha.out]; exact al_ok0 (by omega)
  go_wp2_with fail
  refine (iAcctOk_c (n := 3) (id := 0) o_a.rd ba (al_rng (.inl (by rw [Ha.out])))).mono ?_
  rintro e w18 ⟨rfl, h_w18⟩
  clear c_a_0_w16 f_a_0_w16 c_a_1_w16 f_a_1_w16 c_a_2_w16 f_a_2_w16 c_a_3_w16 f_a_3_w16 c_a_4_w16 f_a_4_w16 c_b_0_w16 f_b_0_w16 c_b_1_w16 f_b_1_w16 c_b_2_w16 f_b_2_w16 c_b_3_w16 f_b_3_w16 c_b_4_w16 f_b_4_w16 c_s_0_w16 f_s_0_w16 c_s_1_w16 f_s_1_w16 c_s_2_w16 f_s_2_w16 c_s_3_w16 f_s_3_w16 c_s_4_w16 f_s_4_w16 c_m_0_w16 f_m_0_w16 c_m_1_w16 f_m_1_w16 c_m_2_w16 f_m_2_w16 c_m_3_w16 f_m_3_w16 c_m_4_w16 f_m_4_w16 c_a_0_w17 f_a_0_w17 c_a_1_w17 f_a_1_w17 c_a_2_w17 f_a_2_w17 c_a_3_w17 f_a_3_w17 c_a_4_w17 f_a_4_w17 c_b_0_w17 f_b_0_w17 c_b_1_w17 f_b_1_w17 c_b_2_w17 f_b_2_w17 c_b_3_w17 f_b_3_w17 c_b_4_w17 f_b_4_w17 c_s_0_w17 f_s_0_w17 c_s_1_w17 f_s_1_w17 c_s_2_w17 f_s_2_w17 c_s_3_w17 f_s_3_w17 c_s_4_w17 f_s_4_w17 c_m_0_w17 f_m_0_w17 c_m_1_w17 f_m_1_w17 c_m_2_w17 f_m_2_w17 c_m_3_w17 f_m_3_w17 c_m_4_w17 f_m_4_w17
  replace x_a := x_a.from_ h_w18
  replace x_b := x_b.from_ h_w18
  replace x_s := x_s.from_ h_w18
  replace x_m := x_m.from_ h_w18
  replace o_a := o_a.below h_w18
  replace o_b := o_b.below h_w18
  replace o_s := o_s.below h_w18
  replace o_m := o_m.below h_w18
  have B_w18 := B_w17.trans (h_w18.mono B_w17.size)
  have s_w18 := h_w18.size
  rw [G.out]
  clear G
  have c_a_0_w18 := x_a.cell (i := 0) rfl
  have f_a_0_w18 := x_a.frozen 0
  have c_a_1_w18 := x_a.cell (i := 1) rfl
  have f_a_1_w18 := x_a.frozen 1
  have c_a_2_w18 := x_a.cell (i := 2) rfl
  have f_a_2_w18 := x_a.frozen 2
  have c_a_3_w18 := x_a.cell (i := 3) rfl
  have f_a_3_w18 := x_a.frozen 3
  have c_a_4_w18 := x_a.cell (i := 4) rfl
  have f_a_4_w18 := x_a.frozen 4
  have c_b_0_w18 := x_b.cell (i := 0) rfl
  have f_b_0_w18 := x_b.frozen 0
  have c_b_1_w18 := x_b.cell (i := 1) rfl
  have f_b_1_w18 := x_b.frozen 1
  have c_b_2_w18 := x_b.cell (i := 2) rfl
  have f_b_2_w18 := x_b.frozen 2
  have c_b_3_w18 := x_b.cell (i := 3) rfl
  have f_b_3_w18 := x_b.frozen 3
  have c_b_4_w18 := x_b.cell (i := 4) rfl
  have f_b_4_w18 := x_b.frozen 4
  have c_s_0_w18 := x_s.cell (i := 0) rfl
  have f_s_0_w18 := x_s.frozen 0
  have c_s_1_w18 := x_s.cell (i := 1) rfl
  have f_s_1_w18 := x_s.frozen 1
  have c_s_2_w18 := x_s.cell (i := 2) rfl
  have f_s_2_w18 := x_s.frozen 2
  have c_s_3_w18 := x_s.cell (i := 3) rfl
  have f_s_3_w18 := x_s.frozen 3
  have c_s_4_w18 := x_s.cell (i := 4) rfl
  have f_s_4_w18 := x_s.frozen 4
  have c_m_0_w18 := x_m.cell (i := 0) rfl
  have f_m_0_w18 := x_m.frozen 0
  have c_m_1_w18 := x_m.cell (i := 1) rfl
  have f_m_1_w18 := x_m.frozen 1
  have c_m_2_w18 := x_m.cell (i := 2) rfl
  have f_m_2_w18 := x_m.frozen 2
  have c_m_3_w18 := x_m.cell (i := 3) rfl
  have f_m_3_w18 := x_m.frozen 3
  have c_m_4_w18 := x_m.cell (i := 4) rfl
  have f_m_4_w18 := x_m.frozen 4
  have G : Hid (acctOkB s 3 0 = true) := by show _ = _; rw [Hs.out]; exact al_ok1 (by omega)
  go_wp2_with fail
  refine (iAcctOk_c (n := 3) (id := 0) o_s.rd bs (al_rng (.inl (by rw [Hs.out])))).mono ?_
  rintro e w19 ⟨rfl, h_w19⟩
  clear c_a_0_w18 f_a_0_w18 c_a_1_w18 f_a_1_w18 c_a_2_w18 f_a_2_w18 c_a_3_w18 f_a_3_w18 c_a_4_w18 f_a_4_w18 c_b_0_w18 f_b_0_w18 c_b_1_w18 f_b_1_w18 c_b_2_w18 f_b_2_w18 c_b_3_w18 f_b_3_w18 c_b_4_w18 f_b_4_w18 c_s_0_w18 f_s_0_w18 c_s_1_w18 f_s_1_w18 c_s_2_w18 f_s_2_w18 c_s_3_w18 f_s_3_w18 c_s_4_w18 f_s_4_w18 c_m_0_w18 f_m_0_w18 c_m_1_w18 f_m_1_w18 c_m_2_w18 f_m_2_w18 c_m_3_w18 f_m_3_w18 c_m_4_w18 f_m_4_w18
  replace x_a := x_a.from_ h_w19
  replace x_b := x_b.from_ h_w19
  replace x_s := x_s.from_ h_w19
  replace x_m := x_m.from_ h_w19
  replace o_a := o_a.below h_w19
  replace o_b := o_b.below h_w19
  replace o_s := o_s.below h_w19
  replace o_m := o_m.below h_w19
  have B_w19 := B_w18.trans (h_w19.mono B_w18.size)
  have s_w19 := h_w19.size
  rw [G.out]
  clear G
  have c_a_0_w19 := x_a.cell (i := 0) rfl
  have f_a_0_w19 := x_a.frozen 0
  have c_a_1_w19 := x_a.cell (i := 1) rfl
  have f_a_1_w19 := x_a.frozen 1
  have c_a_2_w19 := x_a.cell (i := 2) rfl
  have f_a_2_w19 := x_a.frozen 2
  have c_a_3_w19 := x_a.cell (i := 3) rfl
  have f_a_3_w19 := x_a.frozen 3
  have c_a_4_w19 := x_a.cell (i := 4) rfl
  have f_a_4_w19 := x_a.frozen 4
  have c_b_0_w19 := x_b.cell (i := 0) rfl
  have f_b_0_w19 := x_b.frozen 0
  have c_b_1_w19 := x_b.cell (i := 1) rfl
  have f_b_1_w19 := x_b.frozen 1
  have c_b_2_w19 := x_b.cell (i := 2) rfl
  have f_b_2_w19 := x_b.frozen 2
  have c_b_3_w19 := x_b.cell (i := 3) rfl
  have f_b_3_w19 := x_b.frozen 3
  have c_b_4_w19 := x_b.cell (i := 4) rfl
  have f_b_4_w19 := x_b.frozen 4
  have c_s_0_w19 := x_s.cell (i := 0) rfl
  have f_s_0_w19 := x_s.frozen 0
  have c_s_1_w19 := x_s.cell (i := 1) rfl
  have f_s_1_w19 := x_s.frozen 1
  have c_s_2_w19 := x_s.cell (i := 2) rfl
  have f_s_2_w19 := x_s.frozen 2
  have c_s_3_w19 := x_s.cell (i := 3) rfl
  have f_s_3_w19 := x_s.frozen 3
  have c_s_4_w19 := x_s.cell (i := 4) rfl
  have f_s_4_w19 := x_s.frozen 4
  have c_m_0_w19 := x_m.cell (i := 0) rfl
  have f_m_0_w19 := x_m.frozen 0
  have c_m_1_w19 := x_m.cell (i := 1) rfl
  have f_m_1_w19 := x_m.frozen 1
  have c_m_2_w19 := x_m.cell (i := 2) rfl
  have f_m_2_w19 := x_m.frozen 2
  have c_m_3_w19 := x_m.cell (i := 3) rfl
  have f_m_3_w19 := x_m.frozen 3
  have c_m_4_w19 := x_m.cell (i := 4) rfl
  have f_m_4_w19 := x_m.frozen 4
  have G : Hid (acctOkB m 3 0 = true) := by show _ = _; rw [Hm.out]; exact al_ok2 (by omega)
  go_wp2_with fail
  refine (iAcctOk_c (n := 3) (id := 0) o_m.rd bm (al_rng (.inr (by rw [Hm.out])))).mono ?_
  rintro e w20 ⟨rfl, h_w20⟩
  clear c_a_0_w19 f_a_0_w19 c_a_1_w19 f_a_1_w19 c_a_2_w19 f_a_2_w19 c_a_3_w19 f_a_3_w19 c_a_4_w19 f_a_4_w19 c_b_0_w19 f_b_0_w19 c_b_1_w19 f_b_1_w19 c_b_2_w19 f_b_2_w19 c_b_3_w19 f_b_3_w19 c_b_4_w19 f_b_4_w19 c_s_0_w19 f_s_0_w19 c_s_1_w19 f_s_1_w19 c_s_2_w19 f_s_2_w19 c_s_3_w19 f_s_3_w19 c_s_4_w19 f_s_4_w19 c_m_0_w19 f_m_0_w19 c_m_1_w19 f_m_1_w19 c_m_2_w19 f_m_2_w19 c_m_3_w19 f_m_3_w19 c_m_4_w19 f_m_4_w19
  replace x_a := x_a.from_ h_w20
  replace x_b := x_b.from_ h_w20
  replace x_s := x_s.from_ h_w20
  replace x_m := x_m.from_ h_w20
  replace o_a := o_a.below h_w20
  replace o_b := o_b.below h_w20
  replace o_s := o_s.below h_w20
  replace o_m := o_m.below h_w20
  have B_w20 := B_w19.trans (h_w20.mono B_w19.size)
  have s_w20 := h_w20.size
  rw [G.out]
  clear G
  have c_a_0_w20 := x_a.cell (i := 0) rfl
  have f_a_0_w20 := x_a.frozen 0
  have c_a_1_w20 := x_a.cell (i := 1) rfl
  have f_a_1_w20 := x_a.frozen 1
  have c_a_2_w20 := x_a.cell (i := 2) rfl
  have f_a_2_w20 := x_a.frozen 2
  have c_a_3_w20 := x_a.cell (i := 3) rfl
  have f_a_3_w20 := x_a.frozen 3
  have c_a_4_w20 := x_a.cell (i := 4) rfl
  have f_a_4_w20 := x_a.frozen 4
  have c_b_0_w20 := x_b.cell (i := 0) rfl
  have f_b_0_w20 := x_b.frozen 0
  have c_b_1_w20 := x_b.cell (i := 1) rfl
  have f_b_1_w20 := x_b.frozen 1
  have c_b_2_w20 := x_b.cell (i := 2) rfl
  have f_b_2_w20 := x_b.frozen 2
  have c_b_3_w20 := x_b.cell (i := 3) rfl
  have f_b_3_w20 := x_b.frozen 3
  have c_b_4_w20 := x_b.cell (i := 4) rfl
  have f_b_4_w20 := x_b.frozen 4
  have c_s_0_w20 := x_s.cell (i := 0) rfl
  have f_s_0_w20 := x_s.frozen 0
  have c_s_1_w20 := x_s.cell (i := 1) rfl
  have f_s_1_w20 := x_s.frozen 1
  have c_s_2_w20 := x_s.cell (i := 2) rfl
  have f_s_2_w20 := x_s.frozen 2
  have c_s_3_w20 := x_s.cell (i := 3) rfl
  have f_s_3_w20 := x_s.frozen 3
  have c_s_4_w20 := x_s.cell (i := 4) rfl
  have f_s_4_w20 := x_s.frozen 4
  have c_m_0_w20 := x_m.cell (i := 0) rfl
  have f_m_0_w20 := x_m.frozen 0
  have c_m_1_w20 := x_m.cell (i := 1) rfl
  have f_m_1_w20 := x_m.frozen 1
  have c_m_2_w20 := x_m.cell (i := 2) rfl
  have f_m_2_w20 := x_m.frozen 2
  have c_m_3_w20 := x_m.cell (i := 3) rfl
  have f_m_3_w20 := x_m.frozen 3
  have c_m_4_w20 := x_m.cell (i := 4) rfl
  have f_m_4_w20 := x_m.frozen 4
  have G1 : Hid (acctSameB s s = true) := al_same s
  go_wp2_with fail
  refine (iAcctSame_c o_s.rd o_s.rd).mono ?_
  rintro e w21 ⟨rfl, h_w21⟩
  clear c_a_0_w20 f_a_0_w20 c_a_1_w20 f_a_1_w20 c_a_2_w20 f_a_2_w20 c_a_3_w20 f_a_3_w20 c_a_4_w20 f_a_4_w20 c_b_0_w20 f_b_0_w20 c_b_1_w20 f_b_1_w20 c_b_2_w20 f_b_2_w20 c_b_3_w20 f_b_3_w20 c_b_4_w20 f_b_4_w20 c_s_0_w20 f_s_0_w20 c_s_1_w20 f_s_1_w20 c_s_2_w20 f_s_2_w20 c_s_3_w20 f_s_3_w20 c_s_4_w20 f_s_4_w20 c_m_0_w20 f_m_0_w20 c_m_1_w20 f_m_1_w20 c_m_2_w20 f_m_2_w20 c_m_3_w20 f_m_3_w20 c_m_4_w20 f_m_4_w20
  replace x_a := x_a.from_ h_w21
  replace x_b := x_b.from_ h_w21
  replace x_s := x_s.from_ h_w21
  replace x_m := x_m.from_ h_w21
  replace o_a := o_a.below h_w21
  replace o_b := o_b.below h_w21
  replace o_s := o_s.below h_w21
  replace o_m := o_m.below h_w21
  have B_w21 := B_w20.trans (h_w21.mono B_w20.size)
  have s_w21 := h_w21.size
  rw [G1.out]
  have c_a_0_w21 := x_a.cell (i := 0) rfl
  have f_a_0_w21 := x_a.frozen 0
  have c_a_1_w21 := x_a.cell (i := 1) rfl
  have f_a_1_w21 := x_a.frozen 1
  have c_a_2_w21 := x_a.cell (i := 2) rfl
  have f_a_2_w21 := x_a.frozen 2
  have c_a_3_w21 := x_a.cell (i := 3) rfl
  have f_a_3_w21 := x_a.frozen 3
  have c_a_4_w21 := x_a.cell (i := 4) rfl
  have f_a_4_w21 := x_a.frozen 4
  have c_b_0_w21 := x_b.cell (i := 0) rfl
  have f_b_0_w21 := x_b.frozen 0
  have c_b_1_w21 := x_b.cell (i := 1) rfl
  have f_b_1_w21 := x_b.frozen 1
  have c_b_2_w21 := x_b.cell (i := 2) rfl
  have f_b_2_w21 := x_b.frozen 2
  have c_b_3_w21 := x_b.cell (i := 3) rfl
  have f_b_3_w21 := x_b.frozen 3
  have c_b_4_w21 := x_b.cell (i := 4) rfl
  have f_b_4_w21 := x_b.frozen 4
  have c_s_0_w21 := x_s.cell (i := 0) rfl
  have f_s_0_w21 := x_s.frozen 0
  have c_s_1_w21 := x_s.cell (i := 1) rfl
  have f_s_1_w21 := x_s.frozen 1
  have c_s_2_w21 := x_s.cell (i := 2) rfl
  have f_s_2_w21 := x_s.frozen 2
  have c_s_3_w21 := x_s.cell (i := 3) rfl
  have f_s_3_w21 := x_s.frozen 3
  have c_s_4_w21 := x_s.cell (i := 4) rfl
  have f_s_4_w21 := x_s.frozen 4
  have c_m_0_w21 := x_m.cell (i := 0) rfl
  have f_m_0_w21 := x_m.frozen 0
  have c_m_1_w21 := x_m.cell (i := 1) rfl
  have f_m_1_w21 := x_m.frozen 1
  have c_m_2_w21 := x_m.cell (i := 2) rfl
  have f_m_2_w21 := x_m.frozen 2
  have c_m_3_w21 := x_m.cell (i := 3) rfl
  have f_m_3_w21 := x_m.frozen 3
  have c_m_4_w21 := x_m.cell (i := 4) rfl
  have f_m_4_w21 := x_m.frozen 4
  have G2 : Hid (acctSameB s m = false) := by show _ = _; rw [Hs.out, Hm.out]; exact al_other _
  go_wp2_with fail
  refine (iAcctSame_c o_s.rd o_m.rd).mono ?_
  rintro e w22 ⟨rfl, h_w22⟩
  clear c_a_0_w21 f_a_0_w21 c_a_1_w21 f_a_1_w21 c_a_2_w21 f_a_2_w21 c_a_3_w21 f_a_3_w21 c_a_4_w21 f_a_4_w21 c_b_0_w21 f_b_0_w21 c_b_1_w21 f_b_1_w21 c_b_2_w21 f_b_2_w21 c_b_3_w21 f_b_3_w21 c_b_4_w21 f_b_4_w21 c_s_0_w21 f_s_0_w21 c_s_1_w21 f_s_1_w21 c_s_2_w21 f_s_2_w21 c_s_3_w21 f_s_3_w21 c_s_4_w21 f_s_4_w21 c_m_0_w21 f_m_0_w21 c_m_1_w21 f_m_1_w21 c_m_2_w21 f_m_2_w21 c_m_3_w21 f_m_3_w21 c_m_4_w21 f_m_4_w21
  replace x_a := x_a.from_ h_w22
  replace x_b := x_b.from_ h_w22
  replace x_s := x_s.from_ h_w22
  replace x_m := x_m.from_ h_w22
  replace o_a := o_a.below h_w22
  replace o_b := o_b.below h_w22
  replace o_s := o_s.below h_w22
  replace o_m := o_m.below h_w22
  have B_w22 := B_w21.trans (h_w22.mono B_w21.size)
  have s_w22 := h_w22.size
  rw [G2.out]
  have c_a_0_w22 := x_a.cell (i := 0) rfl
  have f_a_0_w22 := x_a.frozen 0
  have c_a_1_w22 := x_a.cell (i := 1) rfl
  have f_a_1_w22 := x_a.frozen 1
  have c_a_2_w22 := x_a.cell (i := 2) rfl
  have f_a_2_w22 := x_a.frozen 2
  have c_a_3_w22 := x_a.cell (i := 3) rfl
  have f_a_3_w22 := x_a.frozen 3
  have c_a_4_w22 := x_a.cell (i := 4) rfl
  have f_a_4_w22 := x_a.frozen 4
  have c_b_0_w22 := x_b.cell (i := 0) rfl
  have f_b_0_w22 := x_b.frozen 0
  have c_b_1_w22 := x_b.cell (i := 1) rfl
  have f_b_1_w22 := x_b.frozen 1
  have c_b_2_w22 := x_b.cell (i := 2) rfl
  have f_b_2_w22 := x_b.frozen 2
  have c_b_3_w22 := x_b.cell (i := 3) rfl
  have f_b_3_w22 := x_b.frozen 3
  have c_b_4_w22 := x_b.cell (i := 4) rfl
  have f_b_4_w22 := x_b.frozen 4
  have c_s_0_w22 := x_s.cell (i := 0) rfl
  have f_s_0_w22 := x_s.frozen 0
  have c_s_1_w22 := x_s.cell (i := 1) rfl
  have f_s_1_w22 := x_s.frozen 1
  have c_s_2_w22 := x_s.cell (i := 2) rfl
  have f_s_2_w22 := x_s.frozen 2
  have c_s_3_w22 := x_s.cell (i := 3) rfl
  have f_s_3_w22 := x_s.frozen 3
  have c_s_4_w22 := x_s.cell (i := 4) rfl
  have f_s_4_w22 := x_s.frozen 4
  have c_m_0_w22 := x_m.cell (i := 0) rfl
  have f_m_0_w22 := x_m.frozen 0
  have c_m_1_w22 := x_m.cell (i := 1) rfl
  have f_m_1_w22 := x_m.frozen 1
  have c_m_2_w22 := x_m.cell (i := 2) rfl
  have f_m_2_w22 := x_m.frozen 2
  have c_m_3_w22 := x_m.cell (i := 3) rfl
  have f_m_3_w22 := x_m.frozen 3
  have c_m_4_w22 := x_m.cell (i := 4) rfl
  have f_m_4_w22 := x_m.frozen 4
  go_wp2
  go_ret
  exact ⟨rfl, B_w22⟩

end Go.Proofs.Ytopmojfcdmcmbaa
