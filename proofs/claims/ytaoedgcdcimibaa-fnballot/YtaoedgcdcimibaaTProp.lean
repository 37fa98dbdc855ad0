/- The type Prop: its model, its layout, and the contracts of the laws' own helpers on it. Laid by a program of ours (typegen.py). -/
import Derived.Test.YtaoedgcdcimibaaProg
import Derived.Test.YtaoedgcdcimibaaVars
import Derived.Test.YtaoedgcdcimibaaSInts
namespace Go.Proofs.Ytaoedgcdcimibaa
open Go.RowKit
set_option linter.unusedVariables false

structure MProp where
  Bal : Int
  Val : Int
  From : List Int
  Best : Int
  Got : List Int

def propL : Lay MProp := isoL (fun d => (d.Bal, d.Val, d.From, d.Best, d.Got)) (consL (intL .i64) (consL (intL .i64) (consL (numsL) (consL (intL .i64) (numsL)))))

theorem sz_prop : (Try.prog.info? 26).map (·.size) = some 5 := by kernel_rfl

/-- how many values lie behind it -/
def MProp.bulk (d : MProp) : Nat := d.From.length + d.Got.length

/-- what a marking from k on makes of it -/
def MProp.mark (d : MProp) (k : Int) : MProp := ⟨d.Bal, d.Val, marks64 (k) d.From.length, d.Best, marks64 (k + (d.From.length : Int)) d.Got.length⟩

theorem rv_prop {w : World} {v : Value} {d : MProp} (h : RV propL w v d) : ∃ AFrom cFrom AGot cGot, v = .agg #[.int .i64 d.Bal, .int .i64 d.Val, .slice AFrom d.From.length cFrom, .int .i64 d.Best, .slice AGot d.Got.length cGot] ∧ RS .i64 w (.slice AFrom d.From.length cFrom) d.From ∧ RS .i64 w (.slice AGot d.Got.length cGot) d.Got := by
  obtain ⟨cs, rfl, hcs⟩ := h
  obtain ⟨_, _, rfl, rfl, ⟨_, _, rfl, rfl, ⟨_, _, rfl, ⟨AFrom, cFrom, rfl, hFrom⟩, ⟨_, _, rfl, rfl, ⟨AGot, cGot, rfl, hGot⟩⟩⟩⟩⟩ := hcs
  exact ⟨AFrom, cFrom, AGot, cGot, rfl, ⟨_, _, rfl, hFrom⟩, ⟨_, _, rfl, hGot⟩⟩

theorem cs_prop {w : World} {B : Nat} {cs : List Value} {d : MProp} (h : propL.rd w B cs d) : ∃ AFrom cFrom AGot cGot, cs = [.int .i64 d.Bal, .int .i64 d.Val, .slice AFrom d.From.length cFrom, .int .i64 d.Best, .slice AGot d.Got.length cGot] := by
  obtain ⟨_, _, rfl, rfl, ⟨_, _, rfl, rfl, ⟨_, _, rfl, ⟨AFrom, cFrom, rfl, hFrom⟩, ⟨_, _, rfl, rfl, ⟨AGot, cGot, rfl, hGot⟩⟩⟩⟩⟩ := h
  exact ⟨AFrom, cFrom, AGot, cGot, rfl⟩

theorem rv_prop_mk {w : World} {vFrom vGot : Value} {zBal : Int} {zVal : Int} {zFrom : List Int} {zBest : Int} {zGot : List Int} (hFrom : RS .i64 w vFrom zFrom) (hGot : RS .i64 w vGot zGot) : RV propL w (.agg #[.int .i64 zBal, .int .i64 zVal, vFrom, .int .i64 zBest, vGot]) ⟨zBal, zVal, zFrom, zBest, zGot⟩ := by
  obtain ⟨AFrom, cFrom, rfl, pFrom⟩ := hFrom
  obtain ⟨AGot, cGot, rfl, pGot⟩ := hGot
  exact ⟨_, rfl, [_], _, rfl, rfl, [_], _, rfl, rfl, [_], _, rfl, ⟨AFrom, cFrom, rfl, pFrom⟩, [_], _, rfl, rfl, ⟨AGot, cGot, rfl, pGot⟩⟩

theorem ovp_prop {w : World} {d : MProp} {lo hi lFrom hFrom lGot hGot : Nat} {vFrom vGot : Value} (oFrom : OS .i64 3 w lFrom hFrom vFrom d.From) (oGot : OS .i64 3 w lGot hGot vGot d.Got) (hc : hi ≤ w.heap.size ∧ lo ≤ lFrom ∧ hFrom ≤ hi ∧ lo ≤ lGot ∧ hGot ≤ hi ∧ (hFrom ≤ lGot ∨ hGot ≤ lFrom)) : OVp propL w (fun j => lo ≤ j ∧ j < hi) [.int .i64 d.Bal, .int .i64 d.Val, vFrom, .int .i64 d.Best, vGot] d := by
  have h : OVp propL w _ [.int .i64 d.Bal, .int .i64 d.Val, vFrom, .int .i64 d.Best, vGot] d := OVp.iso (f := fun d : MProp => (d.Bal, d.Val, d.From, d.Best, d.Got)) (OVp.cons1 (OVp.cons1 (OVp.cons (OVp.ints oFrom) (OVp.cons1 (OVp.ints oGot)) (by intro j; omega))))
  exact h.imp (by intro j; omega)

theorem ov_prop {w : World} {d : MProp} {lo hi lFrom hFrom lGot hGot : Nat} {vFrom vGot : Value} (oFrom : OS .i64 3 w lFrom hFrom vFrom d.From) (oGot : OS .i64 3 w lGot hGot vGot d.Got) (hc : hi ≤ w.heap.size ∧ lo ≤ lFrom ∧ hFrom ≤ hi ∧ lo ≤ lGot ∧ hGot ≤ hi ∧ (hFrom ≤ lGot ∨ hGot ≤ lFrom)) : OV propL w lo hi (.agg #[.int .i64 d.Bal, .int .i64 d.Val, vFrom, .int .i64 d.Best, vGot]) d :=
  (ovp_prop (lo := lo) (hi := hi) oFrom oGot hc).ov (fun _ h => h) hc.1

set_option maxHeartbeats 1000000 in
theorem toProp_c {w : World} {v : Value} {d : MProp} (h : RV propL w v d) (hm : d.bulk ≤ 16777216) : Calls Try.prog 37 #[v] w (NewV propL w d) := by
  obtain ⟨AFrom, cFrom, AGot, cGot, rfl, rFrom, rGot⟩ := rv_prop h
  unfold MProp.bulk at hm
  obtain ⟨wa, hwa, B0, sa, x_a, x_r, x_out⟩ := frame3 w 50 [.int .i64 d.Bal, .int .i64 d.Val, .slice AFrom d.From.length cFrom, .int .i64 d.Best, .slice AGot d.Got.length cGot] 26 [.int .i64 0, .int .i64 0, .slice none 0 0, .int .i64 0, .slice none 0 0] 26 [.int .i64 0, .int .i64 0, .slice none 0 0, .int .i64 0, .slice none 0 0]
  have sa_1 := Nat.le_of_eq sa
  have sa_2 := Nat.le_of_eq sa.symm
  clear sa
  have c_a_0_wa := x_a.cell (i := 0) rfl
  have f_a_0_wa := x_a.frozen 0
  have c_a_1_wa := x_a.cell (i := 1) rfl
  have f_a_1_wa := x_a.frozen 1
  have c_a_2_wa := x_a.cell (i := 2) rfl
  have f_a_2_wa := x_a.frozen 2
  have c_a_3_wa := x_a.cell (i := 3) rfl
  have f_a_3_wa := x_a.frozen 3
  have c_a_4_wa := x_a.cell (i := 4) rfl
  have f_a_4_wa := x_a.frozen 4
  have c_out_0_wa := x_out.cell (i := 0) rfl
  have f_out_0_wa := x_out.frozen 0
  have c_out_1_wa := x_out.cell (i := 1) rfl
  have f_out_1_wa := x_out.frozen 1
  have c_out_2_wa := x_out.cell (i := 2) rfl
  have f_out_2_wa := x_out.frozen 2
  have c_out_3_wa := x_out.cell (i := 3) rfl
  have f_out_3_wa := x_out.frozen 3
  have c_out_4_wa := x_out.cell (i := 4) rfl
  have f_out_4_wa := x_out.frozen 4
  go_enter Try.func37, Try.ntmps37
  have c_r_0_wa := x_r.cell (i := 0) rfl
  have f_r_0_wa := x_r.frozen 0
  have c_r_1_wa := x_r.cell (i := 1) rfl
  have f_r_1_wa := x_r.frozen 1
  have c_r_2_wa := x_r.cell (i := 2) rfl
  have f_r_2_wa := x_r.frozen 2
  have c_r_3_wa := x_r.cell (i := 3) rfl
  have f_r_3_wa := x_r.frozen 3
  have c_r_4_wa := x_r.cell (i := 4) rfl
  have f_r_4_wa := x_r.frozen 4
  obtain ⟨w1, e_w1, s_w1, h_w1, y⟩ := set_step x_out 0 (.int .i64 d.Bal)
  have s_w1_1 := Nat.le_of_eq s_w1
  have s_w1_2 := Nat.le_of_eq s_w1.symm
  clear s_w1
  replace x_a := x_a.chg h_w1 (by omega)
  replace x_r := x_r.chg h_w1 (by omega)
  have B_w1 := Below.chg_ B0 h_w1 (by omega) (by omega)
  replace x_out : Vr w1 (w.heap.size + 1 + 1) 26 [.int .i64 d.Bal, .int .i64 0, .slice none 0 0, .int .i64 0, .slice none 0 0] := y
  clear y
  have c_a_0_w1 := x_a.cell (i := 0) rfl
  have f_a_0_w1 := x_a.frozen 0
  have c_a_1_w1 := x_a.cell (i := 1) rfl
  have f_a_1_w1 := x_a.frozen 1
  have c_a_2_w1 := x_a.cell (i := 2) rfl
  have f_a_2_w1 := x_a.frozen 2
  have c_a_3_w1 := x_a.cell (i := 3) rfl
  have f_a_3_w1 := x_a.frozen 3
  have c_a_4_w1 := x_a.cell (i := 4) rfl
  have f_a_4_w1 := x_a.frozen 4
  have c_out_0_w1 := x_out.cell (i := 0) rfl
  have f_out_0_w1 := x_out.frozen 0
  have c_out_1_w1 := x_out.cell (i := 1) rfl
  have f_out_1_w1 := x_out.frozen 1
  have c_out_2_w1 := x_out.cell (i := 2) rfl
  have f_out_2_w1 := x_out.frozen 2
  have c_out_3_w1 := x_out.cell (i := 3) rfl
  have f_out_3_w1 := x_out.frozen 3
  have c_out_4_w1 := x_out.cell (i := 4) rfl
  have f_out_4_w1 := x_out.frozen 4
  have c_r_0_w1 := x_r.cell (i := 0) rfl
  have f_r_0_w1 := x_r.frozen 0
  have c_r_1_w1 := x_r.cell (i := 1) rfl
  have f_r_1_w1 := x_r.frozen 1
  have c_r_2_w1 := x_r.cell (i := 2) rfl
  have f_r_2_w1 := x_r.frozen 2
  have c_r_3_w1 := x_r.cell (i := 3) rfl
  have f_r_3_w1 := x_r.frozen 3
  have c_r_4_w1 := x_r.cell (i := 4) rfl
  have f_r_4_w1 := x_r.frozen 4
  obtain ⟨w2, e_w2, s_w2, h_w2, y⟩ := set_step x_out 1 (.int .i64 d.Val)
  have s_w2_1 := Nat.le_of_eq s_w2
  have s_w2_2 := Nat.le_of_eq s_w2.symm
  clear s_w2
  replace x_a := x_a.chg h_w2 (by omega)
  replace x_r := x_r.chg h_w2 (by omega)
  have B_w2 := Below.chg_ B_w1 h_w2 (by omega) (by omega)
  replace x_out : Vr w2 (w.heap.size + 1 + 1) 26 [.int .i64 d.Bal, .int .i64 d.Val, .slice none 0 0, .int .i64 0, .slice none 0 0] := y
  clear y
  have c_a_0_w2 := x_a.cell (i := 0) rfl
  have f_a_0_w2 := x_a.frozen 0
  have c_a_1_w2 := x_a.cell (i := 1) rfl
  have f_a_1_w2 := x_a.frozen 1
  have c_a_2_w2 := x_a.cell (i := 2) rfl
  have f_a_2_w2 := x_a.frozen 2
  have c_a_3_w2 := x_a.cell (i := 3) rfl
  have f_a_3_w2 := x_a.frozen 3
  have c_a_4_w2 := x_a.cell (i := 4) rfl
  have f_a_4_w2 := x_a.frozen 4
  have c_out_0_w2 := x_out.cell (i := 0) rfl
  have f_out_0_w2 := x_out.frozen 0
  have c_out_1_w2 := x_out.cell (i := 1) rfl
  have f_out_1_w2 := x_out.frozen 1
  have c_out_2_w2 := x_out.cell (i := 2) rfl
  have f_out_2_w2 := x_out.frozen 2
  have c_out_3_w2 := x_out.cell (i := 3) rfl
  have f_out_3_w2 := x_out.frozen 3
  have c_out_4_w2 := x_out.cell (i := 4) rfl
  have f_out_4_w2 := x_out.frozen 4
  have c_r_0_w2 := x_r.cell (i := 0) rfl
  have f_r_0_w2 := x_r.frozen 0
  have c_r_1_w2 := x_r.cell (i := 1) rfl
  have f_r_1_w2 := x_r.frozen 1
  have c_r_2_w2 := x_r.cell (i := 2) rfl
  have f_r_2_w2 := x_r.frozen 2
  have c_r_3_w2 := x_r.cell (i := 3) rfl
  have f_r_3_w2 := x_r.frozen 3
  have c_r_4_w2 := x_r.cell (i := 4) rfl
  have f_r_4_w2 := x_r.frozen 4
  go_wp2_with fail
  refine (toIntS_c (rFrom.from_ B_w2) (by omega)).mono ?_
  rintro e w3 ⟨uFrom, rfl, oFrom, h_w3⟩
  clear c_a_0_wa f_a_0_wa c_a_1_wa f_a_1_wa c_a_2_wa f_a_2_wa c_a_3_wa f_a_3_wa c_a_4_wa f_a_4_wa c_out_0_wa f_out_0_wa c_out_1_wa f_out_1_wa c_out_2_wa f_out_2_wa c_out_3_wa f_out_3_wa c_out_4_wa f_out_4_wa c_r_0_wa f_r_0_wa c_r_1_wa f_r_1_wa c_r_2_wa f_r_2_wa c_r_3_wa f_r_3_wa c_r_4_wa f_r_4_wa c_a_0_w1 f_a_0_w1 c_a_1_w1 f_a_1_w1 c_a_2_w1 f_a_2_w1 c_a_3_w1 f_a_3_w1 c_a_4_w1 f_a_4_w1 c_out_0_w1 f_out_0_w1 c_out_1_w1 f_out_1_w1 c_out_2_w1 f_out_2_w1 c_out_3_w1 f_out_3_w1 c_out_4_w1 f_out_4_w1 c_r_0_w1 f_r_0_w1 c_r_1_w1 f_r_1_w1 c_r_2_w1 f_r_2_w1 c_r_3_w1 f_r_3_w1 c_r_4_w1 f_r_4_w1 c_a_0_w2 f_a_0_w2 c_a_1_w2 f_a_1_w2 c_a_2_w2 f_a_2_w2 c_a_3_w2 f_a_3_w2 c_a_4_w2 f_a_4_w2 c_out_0_w2 f_out_0_w2 c_out_1_w2 f_out_1_w2 c_out_2_w2 f_out_2_w2 c_out_3_w2 f_out_3_w2 c_out_4_w2 f_out_4_w2 c_r_0_w2 f_r_0_w2 c_r_1_w2 f_r_1_w2 c_r_2_w2 f_r_2_w2 c_r_3_w2 f_r_3_w2 c_r_4_w2 f_r_4_w2
  replace x_a := x_a.from_ h_w3
  replace x_r := x_r.from_ h_w3
  replace x_out := x_out.from_ h_w3
  have B_w3 := B_w2.trans (h_w3.mono B_w2.size)
  have s_w3 := h_w3.size
  obtain ⟨BFrom, eFrom, rfl, -, -, -⟩ := oFrom.rd
  have c_a_0_w3 := x_a.cell (i := 0) rfl
  have f_a_0_w3 := x_a.frozen 0
  have c_a_1_w3 := x_a.cell (i := 1) rfl
  have f_a_1_w3 := x_a.frozen 1
  have c_a_2_w3 := x_a.cell (i := 2) rfl
  have f_a_2_w3 := x_a.frozen 2
  have c_a_3_w3 := x_a.cell (i := 3) rfl
  have f_a_3_w3 := x_a.frozen 3
  have c_a_4_w3 := x_a.cell (i := 4) rfl
  have f_a_4_w3 := x_a.frozen 4
  have c_out_0_w3 := x_out.cell (i := 0) rfl
  have f_out_0_w3 := x_out.frozen 0
  have c_out_1_w3 := x_out.cell (i := 1) rfl
  have f_out_1_w3 := x_out.frozen 1
  have c_out_2_w3 := x_out.cell (i := 2) rfl
  have f_out_2_w3 := x_out.frozen 2
  have c_out_3_w3 := x_out.cell (i := 3) rfl
  have f_out_3_w3 := x_out.frozen 3
  have c_out_4_w3 := x_out.cell (i := 4) rfl
  have f_out_4_w3 := x_out.frozen 4
  have c_r_0_w3 := x_r.cell (i := 0) rfl
  have f_r_0_w3 := x_r.frozen 0
  have c_r_1_w3 := x_r.cell (i := 1) rfl
  have f_r_1_w3 := x_r.frozen 1
  have c_r_2_w3 := x_r.cell (i := 2) rfl
  have f_r_2_w3 := x_r.frozen 2
  have c_r_3_w3 := x_r.cell (i := 3) rfl
  have f_r_3_w3 := x_r.frozen 3
  have c_r_4_w3 := x_r.cell (i := 4) rfl
  have f_r_4_w3 := x_r.frozen 4
  obtain ⟨w4, e_w4, s_w4, h_w4, y⟩ := set_step x_out 2 (.slice BFrom d.From.length eFrom)
  have s_w4_1 := Nat.le_of_eq s_w4
  have s_w4_2 := Nat.le_of_eq s_w4.symm
  clear s_w4
  replace x_a := x_a.chg h_w4 (by omega)
  replace x_r := x_r.chg h_w4 (by omega)
  replace oFrom := oFrom.chg h_w4 (by omega)
  have B_w4 := Below.chg_ B_w3 h_w4 (by omega) (by omega)
  replace x_out : Vr w4 (w.heap.size + 1 + 1) 26 [.int .i64 d.Bal, .int .i64 d.Val, .slice BFrom d.From.length eFrom, .int .i64 0, .slice none 0 0] := y
  clear y
  have c_a_0_w4 := x_a.cell (i := 0) rfl
  have f_a_0_w4 := x_a.frozen 0
  have c_a_1_w4 := x_a.cell (i := 1) rfl
  have f_a_1_w4 := x_a.frozen 1
  have c_a_2_w4 := x_a.cell (i := 2) rfl
  have f_a_2_w4 := x_a.frozen 2
  have c_a_3_w4 := x_a.cell (i := 3) rfl
  have f_a_3_w4 := x_a.frozen 3
  have c_a_4_w4 := x_a.cell (i := 4) rfl
  have f_a_4_w4 := x_a.frozen 4
  have c_out_0_w4 := x_out.cell (i := 0) rfl
  have f_out_0_w4 := x_out.frozen 0
  have c_out_1_w4 := x_out.cell (i := 1) rfl
  have f_out_1_w4 := x_out.frozen 1
  have c_out_2_w4 := x_out.cell (i := 2) rfl
  have f_out_2_w4 := x_out.frozen 2
  have c_out_3_w4 := x_out.cell (i := 3) rfl
  have f_out_3_w4 := x_out.frozen 3
  have c_out_4_w4 := x_out.cell (i := 4) rfl
  have f_out_4_w4 := x_out.frozen 4
  have c_r_0_w4 := x_r.cell (i := 0) rfl
  have f_r_0_w4 := x_r.frozen 0
  have c_r_1_w4 := x_r.cell (i := 1) rfl
  have f_r_1_w4 := x_r.frozen 1
  have c_r_2_w4 := x_r.cell (i := 2) rfl
  have f_r_2_w4 := x_r.frozen 2
  have c_r_3_w4 := x_r.cell (i := 3) rfl
  have f_r_3_w4 := x_r.frozen 3
  have c_r_4_w4 := x_r.cell (i := 4) rfl
  have f_r_4_w4 := x_r.frozen 4
  obtain ⟨w5, e_w5, s_w5, h_w5, y⟩ := set_step x_out 3 (.int .i64 d.Best)
  have s_w5_1 := Nat.le_of_eq s_w5
  have s_w5_2 := Nat.le_of_eq s_w5.symm
  clear s_w5
  replace x_a := x_a.chg h_w5 (by omega)
  replace x_r := x_r.chg h_w5 (by omega)
  replace oFrom := oFrom.chg h_w5 (by omega)
  have B_w5 := Below.chg_ B_w4 h_w5 (by omega) (by omega)
  replace x_out : Vr w5 (w.heap.size + 1 + 1) 26 [.int .i64 d.Bal, .int .i64 d.Val, .slice BFrom d.From.length eFrom, .int .i64 d.Best, .slice none 0 0] := y
  clear y
  have c_a_0_w5 := x_a.cell (i := 0) rfl
  have f_a_0_w5 := x_a.frozen 0
  have c_a_1_w5 := x_a.cell (i := 1) rfl
  have f_a_1_w5 := x_a.frozen 1
  have c_a_2_w5 := x_a.cell (i := 2) rfl
  have f_a_2_w5 := x_a.frozen 2
  have c_a_3_w5 := x_a.cell (i := 3) rfl
  have f_a_3_w5 := x_a.frozen 3
  have c_a_4_w5 := x_a.cell (i := 4) rfl
  have f_a_4_w5 := x_a.frozen 4
  have c_out_0_w5 := x_out.cell (i := 0) rfl
  have f_out_0_w5 := x_out.frozen 0
  have c_out_1_w5 := x_out.cell (i := 1) rfl
  have f_out_1_w5 := x_out.frozen 1
  have c_out_2_w5 := x_out.cell (i := 2) rfl
  have f_out_2_w5 := x_out.frozen 2
  have c_out_3_w5 := x_out.cell (i := 3) rfl
  have f_out_3_w5 := x_out.frozen 3
  have c_out_4_w5 := x_out.cell (i := 4) rfl
  have f_out_4_w5 := x_out.frozen 4
  have c_r_0_w5 := x_r.cell (i := 0) rfl
  have f_r_0_w5 := x_r.frozen 0
  have c_r_1_w5 := x_r.cell (i := 1) rfl
  have f_r_1_w5 := x_r.frozen 1
  have c_r_2_w5 := x_r.cell (i := 2) rfl
  have f_r_2_w5 := x_r.frozen 2
  have c_r_3_w5 := x_r.cell (i := 3) rfl
  have f_r_3_w5 := x_r.frozen 3
  have c_r_4_w5 := x_r.cell (i := 4) rfl
  have f_r_4_w5 := x_r.frozen 4
  go_wp2_with fail
  refine (toIntS_c (rGot.from_ B_w5) (by omega)).mono ?_
  rintro e w6 ⟨uGot, rfl, oGot, h_w6⟩
  clear c_a_0_w3 f_a_0_w3 c_a_1_w3 f_a_1_w3 c_a_2_w3 f_a_2_w3 c_a_3_w3 f_a_3_w3 c_a_4_w3 f_a_4_w3 c_out_0_w3 f_out_0_w3 c_out_1_w3 f_out_1_w3 c_out_2_w3 f_out_2_w3 c_out_3_w3 f_out_3_w3 c_out_4_w3 f_out_4_w3 c_r_0_w3 f_r_0_w3 c_r_1_w3 f_r_1_w3 c_r_2_w3 f_r_2_w3 c_r_3_w3 f_r_3_w3 c_r_4_w3 f_r_4_w3 c_a_0_w4 f_a_0_w4 c_a_1_w4 f_a_1_w4 c_a_2_w4 f_a_2_w4 c_a_3_w4 f_a_3_w4 c_a_4_w4 f_a_4_w4 c_out_0_w4 f_out_0_w4 c_out_1_w4 f_out_1_w4 c_out_2_w4 f_out_2_w4 c_out_3_w4 f_out_3_w4 c_out_4_w4 f_out_4_w4 c_r_0_w4 f_r_0_w4 c_r_1_w4 f_r_1_w4 c_r_2_w4 f_r_2_w4 c_r_3_w4 f_r_3_w4 c_r_4_w4 f_r_4_w4 c_a_0_w5 f_a_0_w5 c_a_1_w5 f_a_1_w5 c_a_2_w5 f_a_2_w5 c_a_3_w5 f_a_3_w5 c_a_4_w5 f_a_4_w5 c_out_0_w5 f_out_0_w5 c_out_1_w5 f_out_1_w5 c_out_2_w5 f_out_2_w5 c_out_3_w5 f_out_3_w5 c_out_4_w5 f_out_4_w5 c_r_0_w5 f_r_0_w5 c_r_1_w5 f_r_1_w5 c_r_2_w5 f_r_2_w5 c_r_3_w5 f_r_3_w5 c_r_4_w5 f_r_4_w5
  replace x_a := x_a.from_ h_w6
  replace x_r := x_r.from_ h_w6
  replace x_out := x_out.from_ h_w6
  replace oFrom := oFrom.below h_w6
  have B_w6 := B_w5.trans (h_w6.mono B_w5.size)
  have s_w6 := h_w6.size
  obtain ⟨BGot, eGot, rfl, -, -, -⟩ := oGot.rd
  have c_a_0_w6 := x_a.cell (i := 0) rfl
  have f_a_0_w6 := x_a.frozen 0
  have c_a_1_w6 := x_a.cell (i := 1) rfl
  have f_a_1_w6 := x_a.frozen 1
  have c_a_2_w6 := x_a.cell (i := 2) rfl
  have f_a_2_w6 := x_a.frozen 2
  have c_a_3_w6 := x_a.cell (i := 3) rfl
  have f_a_3_w6 := x_a.frozen 3
  have c_a_4_w6 := x_a.cell (i := 4) rfl
  have f_a_4_w6 := x_a.frozen 4
  have c_out_0_w6 := x_out.cell (i := 0) rfl
  have f_out_0_w6 := x_out.frozen 0
  have c_out_1_w6 := x_out.cell (i := 1) rfl
  have f_out_1_w6 := x_out.frozen 1
  have c_out_2_w6 := x_out.cell (i := 2) rfl
  have f_out_2_w6 := x_out.frozen 2
  have c_out_3_w6 := x_out.cell (i := 3) rfl
  have f_out_3_w6 := x_out.frozen 3
  have c_out_4_w6 := x_out.cell (i := 4) rfl
  have f_out_4_w6 := x_out.frozen 4
  have c_r_0_w6 := x_r.cell (i := 0) rfl
  have f_r_0_w6 := x_r.frozen 0
  have c_r_1_w6 := x_r.cell (i := 1) rfl
  have f_r_1_w6 := x_r.frozen 1
  have c_r_2_w6 := x_r.cell (i := 2) rfl
  have f_r_2_w6 := x_r.frozen 2
  have c_r_3_w6 := x_r.cell (i := 3) rfl
  have f_r_3_w6 := x_r.frozen 3
  have c_r_4_w6 := x_r.cell (i := 4) rfl
  have f_r_4_w6 := x_r.frozen 4
  obtain ⟨w7, e_w7, s_w7, h_w7, y⟩ := set_step x_out 4 (.slice BGot d.Got.length eGot)
  have s_w7_1 := Nat.le_of_eq s_w7
  have s_w7_2 := Nat.le_of_eq s_w7.symm
  clear s_w7
  replace x_a := x_a.chg h_w7 (by omega)
  replace x_r := x_r.chg h_w7 (by omega)
  replace oFrom := oFrom.chg h_w7 (by omega)
  replace oGot := oGot.chg h_w7 (by omega)
  have B_w7 := Below.chg_ B_w6 h_w7 (by omega) (by omega)
  replace x_out : Vr w7 (w.heap.size + 1 + 1) 26 [.int .i64 d.Bal, .int .i64 d.Val, .slice BFrom d.From.length eFrom, .int .i64 d.Best, .slice BGot d.Got.length eGot] := y
  clear y
  have c_a_0_w7 := x_a.cell (i := 0) rfl
  have f_a_0_w7 := x_a.frozen 0
  have c_a_1_w7 := x_a.cell (i := 1) rfl
  have f_a_1_w7 := x_a.frozen 1
  have c_a_2_w7 := x_a.cell (i := 2) rfl
  have f_a_2_w7 := x_a.frozen 2
  have c_a_3_w7 := x_a.cell (i := 3) rfl
  have f_a_3_w7 := x_a.frozen 3
  have c_a_4_w7 := x_a.cell (i := 4) rfl
  have f_a_4_w7 := x_a.frozen 4
  have c_out_0_w7 := x_out.cell (i := 0) rfl
  have f_out_0_w7 := x_out.frozen 0
  have c_out_1_w7 := x_out.cell (i := 1) rfl
  have f_out_1_w7 := x_out.frozen 1
  have c_out_2_w7 := x_out.cell (i := 2) rfl
  have f_out_2_w7 := x_out.frozen 2
  have c_out_3_w7 := x_out.cell (i := 3) rfl
  have f_out_3_w7 := x_out.frozen 3
  have c_out_4_w7 := x_out.cell (i := 4) rfl
  have f_out_4_w7 := x_out.frozen 4
  have c_r_0_w7 := x_r.cell (i := 0) rfl
  have f_r_0_w7 := x_r.frozen 0
  have c_r_1_w7 := x_r.cell (i := 1) rfl
  have f_r_1_w7 := x_r.frozen 1
  have c_r_2_w7 := x_r.cell (i := 2) rfl
  have f_r_2_w7 := x_r.frozen 2
  have c_r_3_w7 := x_r.cell (i := 3) rfl
  have f_r_3_w7 := x_r.frozen 3
  have c_r_4_w7 := x_r.cell (i := 4) rfl
  have f_r_4_w7 := x_r.frozen 4
  obtain ⟨w8, e_w8, s_w8, h_w8, y⟩ := store_step x_r [.int .i64 d.Bal, .int .i64 d.Val, .slice BFrom d.From.length eFrom, .int .i64 d.Best, .slice BGot d.Got.length eGot] rfl
  replace e_w8 : (((((w7.setCell ⟨w.heap.size + 1, 0, none⟩ (.int .i64 d.Bal)).setCell ⟨w.heap.size + 1, 1, none⟩ (.int .i64 d.Val)).setCell ⟨w.heap.size + 1, 2, none⟩ (.slice BFrom d.From.length eFrom)).setCell ⟨w.heap.size + 1, 3, none⟩ (.int .i64 d.Best)).setCell ⟨w.heap.size + 1, 4, none⟩ (.slice BGot d.Got.length eGot)) = w8 := e_w8
  have s_w8_1 := Nat.le_of_eq s_w8
  have s_w8_2 := Nat.le_of_eq s_w8.symm
  clear s_w8
  replace x_a := x_a.chg h_w8 (by omega)
  replace x_out := x_out.chg h_w8 (by omega)
  replace oFrom := oFrom.chg h_w8 (by omega)
  replace oGot := oGot.chg h_w8 (by omega)
  have B_w8 := Below.chg_ B_w7 h_w8 (by omega) (by omega)
  replace x_r : Vr w8 (w.heap.size + 1) 26 [.int .i64 d.Bal, .int .i64 d.Val, .slice BFrom d.From.length eFrom, .int .i64 d.Best, .slice BGot d.Got.length eGot] := y
  clear y
  have c_r_0_w8 := x_r.cell (i := 0) rfl
  have f_r_0_w8 := x_r.frozen 0
  have c_r_1_w8 := x_r.cell (i := 1) rfl
  have f_r_1_w8 := x_r.frozen 1
  have c_r_2_w8 := x_r.cell (i := 2) rfl
  have f_r_2_w8 := x_r.frozen 2
  have c_r_3_w8 := x_r.cell (i := 3) rfl
  have f_r_3_w8 := x_r.frozen 3
  have c_r_4_w8 := x_r.cell (i := 4) rfl
  have f_r_4_w8 := x_r.frozen 4
  go_wp2
  refine ret_cell (by rfl) (by rfl) x_r Try.underlying26 sz_prop (by rfl) ?_
  exact ⟨_, rfl, ov_prop oFrom oGot (by omega), B_w8⟩

set_option maxHeartbeats 1000000 in
theorem eqProp_same {w : World} {v v' : Value} {d : MProp} (h : RV propL w v d) (h' : RV propL w v' d) (hm : d.bulk ≤ 1073741824) : Calls Try.prog 38 #[v, v'] w fun e w' => e = .returned (.bool true) ∧ Below w.heap.size w w' := by
  obtain ⟨AFrom, cFrom, AGot, cGot, rfl, rFrom, rGot⟩ := rv_prop h
  obtain ⟨AFromx, cFromx, AGotx, cGotx, rfl, rxFrom, rxGot⟩ := rv_prop h'
  unfold MProp.bulk at hm
  obtain ⟨wa, hwa, B0, sa, x_a, x_b⟩ := frame2 w 26 [.int .i64 d.Bal, .int .i64 d.Val, .slice AFrom d.From.length cFrom, .int .i64 d.Best, .slice AGot d.Got.length cGot] 26 [.int .i64 d.Bal, .int .i64 d.Val, .slice AFromx d.From.length cFromx, .int .i64 d.Best, .slice AGotx d.Got.length cGotx]
  have sa_1 := Nat.le_of_eq sa
  have sa_2 := Nat.le_of_eq sa.symm
  clear sa
  have c_a_0_wa := x_a.cell (i := 0) rfl
  have c_a_1_wa := x_a.cell (i := 1) rfl
  have c_a_2_wa := x_a.cell (i := 2) rfl
  have c_a_3_wa := x_a.cell (i := 3) rfl
  have c_a_4_wa := x_a.cell (i := 4) rfl
  have c_b_0_wa := x_b.cell (i := 0) rfl
  have c_b_1_wa := x_b.cell (i := 1) rfl
  have c_b_2_wa := x_b.cell (i := 2) rfl
  have c_b_3_wa := x_b.cell (i := 3) rfl
  have c_b_4_wa := x_b.cell (i := 4) rfl
  go_enter Try.func38, Try.ntmps38
  go_wp2_with fail
  refine (eqIntS_same (rFrom.from_ B0) (rxFrom.from_ B0) (by omega)).mono ?_
  rintro e w1 ⟨rfl, h_w1⟩
  clear c_a_0_wa c_a_1_wa c_a_2_wa c_a_3_wa c_a_4_wa c_b_0_wa c_b_1_wa c_b_2_wa c_b_3_wa c_b_4_wa
  replace x_a := x_a.from_ h_w1
  replace x_b := x_b.from_ h_w1
  have B_w1 := B0.trans (h_w1.mono B0.size)
  have s_w1 := h_w1.size
  have c_a_0_w1 := x_a.cell (i := 0) rfl
  have c_a_1_w1 := x_a.cell (i := 1) rfl
  have c_a_2_w1 := x_a.cell (i := 2) rfl
  have c_a_3_w1 := x_a.cell (i := 3) rfl
  have c_a_4_w1 := x_a.cell (i := 4) rfl
  have c_b_0_w1 := x_b.cell (i := 0) rfl
  have c_b_1_w1 := x_b.cell (i := 1) rfl
  have c_b_2_w1 := x_b.cell (i := 2) rfl
  have c_b_3_w1 := x_b.cell (i := 3) rfl
  have c_b_4_w1 := x_b.cell (i := 4) rfl
  go_wp2_with fail
  refine (eqIntS_same (rGot.from_ B_w1) (rxGot.from_ B_w1) (by omega)).mono ?_
  rintro e w2 ⟨rfl, h_w2⟩
  clear c_a_0_w1 c_a_1_w1 c_a_2_w1 c_a_3_w1 c_a_4_w1 c_b_0_w1 c_b_1_w1 c_b_2_w1 c_b_3_w1 c_b_4_w1
  replace x_a := x_a.from_ h_w2
  replace x_b := x_b.from_ h_w2
  have B_w2 := B_w1.trans (h_w2.mono B_w1.size)
  have s_w2 := h_w2.size
  have c_a_0_w2 := x_a.cell (i := 0) rfl
  have c_a_1_w2 := x_a.cell (i := 1) rfl
  have c_a_2_w2 := x_a.cell (i := 2) rfl
  have c_a_3_w2 := x_a.cell (i := 3) rfl
  have c_a_4_w2 := x_a.cell (i := 4) rfl
  have c_b_0_w2 := x_b.cell (i := 0) rfl
  have c_b_1_w2 := x_b.cell (i := 1) rfl
  have c_b_2_w2 := x_b.cell (i := 2) rfl
  have c_b_3_w2 := x_b.cell (i := 3) rfl
  have c_b_4_w2 := x_b.cell (i := 4) rfl
  go_wp2
  go_ret
  exact ⟨rfl, B_w2⟩

set_option maxHeartbeats 1000000 in
theorem markProp_s {w : World} {S : List Nat} {cs : List Value} {d : MProp} {k : Int} (h : propL.own w S cs d) (hS : S.Nodup) (hm : d.bulk ≤ 1073741824) (hk0 : 0 ≤ k) (hk1 : k ≤ 1073741824) :
    Calls Try.prog 40 #[valOf cs, .int .i64 k] w (MarkS propL w S cs (k + (d.bulk : Int)) (d.mark k)) := by
  unfold MProp.bulk at hm ⊢
  have hlt := propL.own_lt h
  obtain ⟨zBal, yBal, SBal, TBal, rfl, rfl, oBal, ⟨zVal, yVal, SVal, TVal, rfl, rfl, oVal, ⟨zFrom, yFrom, SFrom, TFrom, rfl, rfl, oFrom, ⟨zBest, yBest, SBest, TBest, rfl, rfl, oBest, oGot⟩⟩⟩⟩ := h
  obtain ⟨rfl, rfl⟩ := oBal
  obtain ⟨rfl, rfl⟩ := oVal
  obtain ⟨AFrom, cFrom, rfl, -, -, -⟩ := numsL.own_rd oFrom
  obtain ⟨rfl, rfl⟩ := oBest
  obtain ⟨AGot, cGot, rfl, -, -, -⟩ := numsL.own_rd oGot
  obtain ⟨nBal, mBal, dBal, eBal⟩ := nodup_app hS
  obtain ⟨nVal, mVal, dVal, eVal⟩ := nodup_app mBal
  obtain ⟨nFrom, mFrom, dFrom, eFrom⟩ := nodup_app mVal
  obtain ⟨nBest, mBest, dBest, eBest⟩ := nodup_app mFrom
  rw [show valOf ([.int .i64 d.Bal] ++ ([.int .i64 d.Val] ++ ([.slice AFrom d.From.length cFrom] ++ ([.int .i64 d.Best] ++ ([.slice AGot d.Got.length cGot]))))) = Value.agg #[.int .i64 d.Bal, .int .i64 d.Val, .slice AFrom d.From.length cFrom, .int .i64 d.Best, .slice AGot d.Got.length cGot] from rfl]
  obtain ⟨wa, hwa, B0, sa, x_a⟩ := frame1 w 26 [.int .i64 d.Bal, .int .i64 d.Val, .slice AFrom d.From.length cFrom, .int .i64 d.Best, .slice AGot d.Got.length cGot]
  have sa_1 := Nat.le_of_eq sa
  have sa_2 := Nat.le_of_eq sa.symm
  clear sa
  have c_a_0_wa := x_a.cell (i := 0) rfl
  have c_a_1_wa := x_a.cell (i := 1) rfl
  have c_a_2_wa := x_a.cell (i := 2) rfl
  have c_a_3_wa := x_a.cell (i := 3) rfl
  have c_a_4_wa := x_a.cell (i := 4) rfl
  have C0 : ChgS ([] ++ ([] ++ (SFrom ++ ([] ++ (TBest))))) w wa := ChgS.of_below B0
  have hFrom := fun j hj => hlt j (List.mem_append.2 (.inr (List.mem_append.2 (.inr (List.mem_append.2 (.inl hj))))))
  replace oFrom := numsL.own_below oFrom B0
  have hGot := fun j hj => hlt j (List.mem_append.2 (.inr (List.mem_append.2 (.inr (List.mem_append.2 (.inr (List.mem_append.2 (.inr hj))))))))
  replace oGot := numsL.own_below oGot B0
  go_enter Try.func40, Try.ntmps40
  go_wp2_with fail
  refine (markIntS_s oFrom (by omega) (by omega) (by omega)).mono ?_
  rintro e w1 ⟨rfl, oFrom, h_w1⟩
  clear c_a_0_wa c_a_1_wa c_a_2_wa c_a_3_wa c_a_4_wa
  have s_w1 := h_w1.size
  replace oGot := numsL.own_chg oGot h_w1 (fun a ha hj => dFrom a hj (List.mem_append.2 (.inr (ha))))
  replace x_a := x_a.chgS h_w1 (fun hj => by have := hFrom _ hj; omega)
  have Cw1 := C0.trans (h_w1.more (fun j hj => List.mem_append.2 (.inr (List.mem_append.2 (.inr (List.mem_append.2 (.inl hj)))))))
  have c_a_0_w1 := x_a.cell (i := 0) rfl
  have c_a_1_w1 := x_a.cell (i := 1) rfl
  have c_a_2_w1 := x_a.cell (i := 2) rfl
  have c_a_3_w1 := x_a.cell (i := 3) rfl
  have c_a_4_w1 := x_a.cell (i := 4) rfl
  go_wp2_with fail
  refine (markIntS_s oGot (by omega) (by omega) (by omega)).mono ?_
  rintro e w2 ⟨rfl, oGot, h_w2⟩
  clear c_a_0_w1 c_a_1_w1 c_a_2_w1 c_a_3_w1 c_a_4_w1
  have s_w2 := h_w2.size
  replace oFrom := numsL.own_chg oFrom h_w2 (fun a ha hj => dFrom a ha (List.mem_append.2 (.inr (hj))))
  replace x_a := x_a.chgS h_w2 (fun hj => by have := hGot _ hj; omega)
  have Cw2 := Cw1.trans (h_w2.more (fun j hj => List.mem_append.2 (.inr (List.mem_append.2 (.inr (List.mem_append.2 (.inr (List.mem_append.2 (.inr hj)))))))))
  have c_a_0_w2 := x_a.cell (i := 0) rfl
  have c_a_1_w2 := x_a.cell (i := 1) rfl
  have c_a_2_w2 := x_a.cell (i := 2) rfl
  have c_a_3_w2 := x_a.cell (i := 3) rfl
  have c_a_4_w2 := x_a.cell (i := 4) rfl
  go_wp2
  go_ret
  exact ⟨ret_int (by omega), ⟨_, _, [], _, rfl, rfl, ⟨rfl, rfl⟩, ⟨_, _, [], _, rfl, rfl, ⟨rfl, rfl⟩, ⟨_, _, SFrom, _, rfl, rfl, oFrom, ⟨_, _, [], _, rfl, rfl, ⟨rfl, rfl⟩, oGot⟩⟩⟩⟩, Cw2⟩

theorem markProp_c {w : World} {v : Value} {d : MProp} {lo hi : Nat} {k : Int} (h : OV propL w lo hi v d) (hm : d.bulk ≤ 1073741824) (hk0 : 0 ≤ k) (hk1 : k ≤ 1073741824) :
    Calls Try.prog 40 #[v, .int .i64 k] w fun e w' => e = .returned (.int .i64 (k + (d.bulk : Int))) ∧ OV propL w' lo hi v (d.mark k) ∧ Chg lo hi w w' := by
  obtain ⟨cs, S, rfl, ho, hn, hS, hh⟩ := h
  exact (markProp_s ho hn hm hk0 hk1).mono fun e w' hr => hr.up hn hS hh

set_option maxHeartbeats 1000000 in
theorem heldProp_c {w : World} {v : Value} {d : MProp} {k : Int} (h : RV propL w v (d.mark k)) (hm : d.bulk ≤ 1073741824) (hk0 : 0 ≤ k) (hk1 : k ≤ 1073741824) :
    Calls Try.prog 41 #[v, .int .i64 k] w fun e w' => e = .returned (.int .i64 (k + (d.bulk : Int))) ∧ Below w.heap.size w w' := by
  unfold MProp.bulk at hm ⊢
  obtain ⟨AFrom, cFrom, AGot, cGot, rfl, rFrom, rGot⟩ := rv_prop h
  obtain ⟨wa, hwa, B0, sa, x_a⟩ := frame1 w 26 [.int .i64 (d.mark k).Bal, .int .i64 (d.mark k).Val, .slice AFrom (d.mark k).From.length cFrom, .int .i64 (d.mark k).Best, .slice AGot (d.mark k).Got.length cGot]
  have sa_1 := Nat.le_of_eq sa
  have sa_2 := Nat.le_of_eq sa.symm
  clear sa
  have c_a_0_wa := x_a.cell (i := 0) rfl
  have c_a_1_wa := x_a.cell (i := 1) rfl
  have c_a_2_wa := x_a.cell (i := 2) rfl
  have c_a_3_wa := x_a.cell (i := 3) rfl
  have c_a_4_wa := x_a.cell (i := 4) rfl
  go_enter Try.func41, Try.ntmps41
  go_wp2_with fail
  refine (heldIntS_c (n := d.From.length) (rFrom.from_ B0) (by omega) (by omega) (by omega)).mono ?_
  rintro e w1 ⟨rfl, h_w1⟩
  clear c_a_0_wa c_a_1_wa c_a_2_wa c_a_3_wa c_a_4_wa
  replace x_a := x_a.from_ h_w1
  have B_w1 := B0.trans (h_w1.mono B0.size)
  have s_w1 := h_w1.size
  have c_a_0_w1 := x_a.cell (i := 0) rfl
  have c_a_1_w1 := x_a.cell (i := 1) rfl
  have c_a_2_w1 := x_a.cell (i := 2) rfl
  have c_a_3_w1 := x_a.cell (i := 3) rfl
  have c_a_4_w1 := x_a.cell (i := 4) rfl
  go_wp2_with fail
  refine (heldIntS_c (n := d.Got.length) (rGot.from_ B_w1) (by omega) (by omega) (by omega)).mono ?_
  rintro e w2 ⟨rfl, h_w2⟩
  clear c_a_0_w1 c_a_1_w1 c_a_2_w1 c_a_3_w1 c_a_4_w1
  replace x_a := x_a.from_ h_w2
  have B_w2 := B_w1.trans (h_w2.mono B_w1.size)
  have s_w2 := h_w2.size
  have c_a_0_w2 := x_a.cell (i := 0) rfl
  have c_a_1_w2 := x_a.cell (i := 1) rfl
  have c_a_2_w2 := x_a.cell (i := 2) rfl
  have c_a_3_w2 := x_a.cell (i := 3) rfl
  have c_a_4_w2 := x_a.cell (i := 4) rfl
  go_wp2
  go_ret
  exact ⟨ret_int (by omega), B_w2⟩

set_option maxHeartbeats 1000000 in
theorem szProp_c {w : World} {v : Value} {d : MProp} {left : Int} (h : RV propL w v d) (h0 : 0 ≤ left) (h1 : left ≤ 1073741824) :
    Calls Try.prog 35 #[v, .int .i64 left] w fun e w' => e = .returned (.int .i64 (szV left (d.bulk : Int))) ∧ Below w.heap.size w w' := by
  obtain ⟨AFrom, cFrom, AGot, cGot, rfl, rFrom, rGot⟩ := rv_prop h
  obtain ⟨wa, hwa, B0, sa, x_a⟩ := frame1 w 50 [.int .i64 d.Bal, .int .i64 d.Val, .slice AFrom d.From.length cFrom, .int .i64 d.Best, .slice AGot d.Got.length cGot]
  have sa_1 := Nat.le_of_eq sa
  have sa_2 := Nat.le_of_eq sa.symm
  clear sa
  have c_a_0_wa := x_a.cell (i := 0) rfl
  have c_a_1_wa := x_a.cell (i := 1) rfl
  have c_a_2_wa := x_a.cell (i := 2) rfl
  have c_a_3_wa := x_a.cell (i := 3) rfl
  have c_a_4_wa := x_a.cell (i := 4) rfl
  have eb : (d.bulk : Int) = (d.From.length : Int) + (d.Got.length : Int) := by unfold MProp.bulk; omega
  by_cases g0 : (d.From.length : Int) ≤ left
  case neg =>
    have ez : szV left (d.bulk : Int) = -1 := by unfold szV; rw [if_neg (by omega)]
    rw [ez]
    go_enter Try.func35, Try.ntmps35
    go_wp2_with fail
    refine (szIntS_b (rFrom.from_ B0) (by omega) (by omega)).mono ?_
    rintro e w1 ⟨rfl, h_w1⟩
    clear c_a_0_wa c_a_1_wa c_a_2_wa c_a_3_wa c_a_4_wa
    replace x_a := x_a.from_ h_w1
    have B_w1 := B0.trans (h_w1.mono B0.size)
    have s_w1 := h_w1.size
    rw [show szV (left) (d.From.length : Int) = -1 from if_neg (by omega)]
    go_wp2
    go_ret
    exact ⟨ret_int (by omega), B_w1⟩
  by_cases g1 : (d.From.length : Int) + (d.Got.length : Int) ≤ left
  case neg =>
    have ez : szV left (d.bulk : Int) = -1 := by unfold szV; rw [if_neg (by omega)]
    rw [ez]
    go_enter Try.func35, Try.ntmps35
    go_wp2_with fail
    refine (szIntS_b (rFrom.from_ B0) (by omega) (by omega)).mono ?_
    rintro e w1 ⟨rfl, h_w1⟩
    clear c_a_0_wa c_a_1_wa c_a_2_wa c_a_3_wa c_a_4_wa
    replace x_a := x_a.from_ h_w1
    have B_w1 := B0.trans (h_w1.mono B0.size)
    have s_w1 := h_w1.size
    rw [show szV (left) (d.From.length : Int) = left - (d.From.length : Int) from if_pos (by omega)]
    have gd0 : decide (left - (d.From.length : Int) < 0) = false := by simp; omega
    have c_a_0_w1 := x_a.cell (i := 0) rfl
    have c_a_1_w1 := x_a.cell (i := 1) rfl
    have c_a_2_w1 := x_a.cell (i := 2) rfl
    have c_a_3_w1 := x_a.cell (i := 3) rfl
    have c_a_4_w1 := x_a.cell (i := 4) rfl
    go_wp2_with fail
    refine (szIntS_b (rGot.from_ B_w1) (by omega) (by omega)).mono ?_
    rintro e w2 ⟨rfl, h_w2⟩
    clear c_a_0_w1 c_a_1_w1 c_a_2_w1 c_a_3_w1 c_a_4_w1
    replace x_a := x_a.from_ h_w2
    have B_w2 := B_w1.trans (h_w2.mono B_w1.size)
    have s_w2 := h_w2.size
    rw [show szV (left - (d.From.length : Int)) (d.Got.length : Int) = -1 from if_neg (by omega)]
    go_wp2
    go_ret
    exact ⟨ret_int (by omega), B_w2⟩
  have ez : szV left (d.bulk : Int) = left - (d.bulk : Int) := by unfold szV; rw [if_pos (by omega)]
  rw [ez]
  go_enter Try.func35, Try.ntmps35
  go_wp2_with fail
  refine (szIntS_b (rFrom.from_ B0) (by omega) (by omega)).mono ?_
  rintro e w1 ⟨rfl, h_w1⟩
  clear c_a_0_wa c_a_1_wa c_a_2_wa c_a_3_wa c_a_4_wa
  replace x_a := x_a.from_ h_w1
  have B_w1 := B0.trans (h_w1.mono B0.size)
  have s_w1 := h_w1.size
  rw [show szV (left) (d.From.length : Int) = left - (d.From.length : Int) from if_pos (by omega)]
  have gd0 : decide (left - (d.From.length : Int) < 0) = false := by simp; omega
  have c_a_0_w1 := x_a.cell (i := 0) rfl
  have c_a_1_w1 := x_a.cell (i := 1) rfl
  have c_a_2_w1 := x_a.cell (i := 2) rfl
  have c_a_3_w1 := x_a.cell (i := 3) rfl
  have c_a_4_w1 := x_a.cell (i := 4) rfl
  go_wp2_with fail
  refine (szIntS_b (rGot.from_ B_w1) (by omega) (by omega)).mono ?_
  rintro e w2 ⟨rfl, h_w2⟩
  clear c_a_0_w1 c_a_1_w1 c_a_2_w1 c_a_3_w1 c_a_4_w1
  replace x_a := x_a.from_ h_w2
  have B_w2 := B_w1.trans (h_w2.mono B_w1.size)
  have s_w2 := h_w2.size
  rw [show szV (left - (d.From.length : Int)) (d.Got.length : Int) = left - (d.From.length : Int) - (d.Got.length : Int) from if_pos (by omega)]
  have gd1 : decide (left - (d.From.length : Int) - (d.Got.length : Int) < 0) = false := by simp; omega
  have c_a_0_w2 := x_a.cell (i := 0) rfl
  have c_a_1_w2 := x_a.cell (i := 1) rfl
  have c_a_2_w2 := x_a.cell (i := 2) rfl
  have c_a_3_w2 := x_a.cell (i := 3) rfl
  have c_a_4_w2 := x_a.cell (i := 4) rfl
  go_wp2
  go_ret
  exact ⟨ret_int (by omega), B_w2⟩

end Go.Proofs.Ytaoedgcdcimibaa
