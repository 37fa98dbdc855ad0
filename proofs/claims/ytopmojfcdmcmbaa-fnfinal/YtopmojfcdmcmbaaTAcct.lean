/- The type Acct: its model, its layout, and the contracts of the laws' own helpers on it. Laid by a program of ours (typegen.py). -/
import Derived.Test.YtopmojfcdmcmbaaProg
import Derived.Test.YtopmojfcdmcmbaaVars
import Derived.Test.YtopmojfcdmcmbaaSInts
import Derived.Test.YtopmojfcdmcmbaaSRepS
namespace Go.Proofs.Ytopmojfcdmcmbaa
open Go.RowKit
set_option linter.unusedVariables false

structure MAcct where
  Have : Int
  State : Int
  By : Int
  Marks : List Int
  Reps : List MRep

def acctL : Lay MAcct := isoL (fun d => (d.Have, d.State, d.By, d.Marks, d.Reps)) (consL (intL .i64) (consL (intL .i64) (consL (intL .i64) (consL (numsL) (repSL)))))

theorem sz_acct : (Try.prog.info? 27).map (·.size) = some 5 := by kernel_rfl

/-- how many values lie behind it -/
def MAcct.bulk (d : MAcct) : Nat := d.Marks.length + d.Reps.length

/-- how many marks it takes -/
def MAcct.steps (d : MAcct) : Nat := d.Marks.length + 2 * d.Reps.length

theorem MAcct.steps_le (d : MAcct) : d.steps ≤ 2 * d.bulk := by unfold MAcct.steps MAcct.bulk; omega

/-- what a marking from k on makes of it -/
def MAcct.mark (d : MAcct) (k : Int) : MAcct := ⟨d.Have, d.State, d.By, marks64 (k) d.Marks.length, marksRep (k + (d.Marks.length : Int)) d.Reps.length⟩

theorem rv_acct {w : World} {v : Value} {d : MAcct} (h : RV acctL w v d) : ∃ AMarks cMarks AReps cReps, v = .agg #[.int .i64 d.Have, .int .i64 d.State, .int .i64 d.By, .slice AMarks d.Marks.length cMarks, .slice AReps d.Reps.length cReps] ∧ RS .i64 w (.slice AMarks d.Marks.length cMarks) d.Marks ∧ RV repSL w (.slice AReps d.Reps.length cReps) d.Reps := by
  obtain ⟨cs, rfl, hcs⟩ := h
  obtain ⟨_, _, rfl, rfl, ⟨_, _, rfl, rfl, ⟨_, _, rfl, rfl, ⟨_, _, rfl, ⟨AMarks, cMarks, rfl, hMarks⟩, ⟨AReps, cReps, rfl, hReps⟩⟩⟩⟩⟩ := hcs
  exact ⟨AMarks, cMarks, AReps, cReps, rfl, ⟨_, _, rfl, hMarks⟩, ⟨[_], rfl, _, _, rfl, hReps⟩⟩

theorem cs_acct {w : World} {B : Nat} {cs : List Value} {d : MAcct} (h : acctL.rd w B cs d) : ∃ AMarks cMarks AReps cReps, cs = [.int .i64 d.Have, .int .i64 d.State, .int .i64 d.By, .slice AMarks d.Marks.length cMarks, .slice AReps d.Reps.length cReps] := by
  obtain ⟨_, _, rfl, rfl, ⟨_, _, rfl, rfl, ⟨_, _, rfl, rfl, ⟨_, _, rfl, ⟨AMarks, cMarks, rfl, hMarks⟩, ⟨AReps, cReps, rfl, hReps⟩⟩⟩⟩⟩ := h
  exact ⟨AMarks, cMarks, AReps, cReps, rfl⟩

theorem rv_acct_mk {w : World} {vMarks vReps : Value} {zHave : Int} {zState : Int} {zBy : Int} {zMarks : List Int} {zReps : List MRep} (hMarks : RS .i64 w vMarks zMarks) (hReps : RV repSL w vReps zReps) : RV acctL w (.agg #[.int .i64 zHave, .int .i64 zState, .int .i64 zBy, vMarks, vReps]) ⟨zHave, zState, zBy, zMarks, zReps⟩ := by
  obtain ⟨AMarks, cMarks, rfl, pMarks⟩ := hMarks
  obtain ⟨_, rfl, AReps, cReps, rfl, pReps⟩ := hReps
  exact ⟨_, rfl, [_], _, rfl, rfl, [_], _, rfl, rfl, [_], _, rfl, rfl, [_], _, rfl, ⟨AMarks, cMarks, rfl, pMarks⟩, ⟨AReps, cReps, rfl, pReps⟩⟩

theorem ovp_acct {w : World} {d : MAcct} {lo hi lMarks hMarks lReps hReps : Nat} {vMarks vReps : Value} (oMarks : OS .i64 3 w lMarks hMarks vMarks d.Marks) (oReps : OV repSL w lReps hReps vReps d.Reps) (hc : hi ≤ w.heap.size ∧ lo ≤ lMarks ∧ hMarks ≤ hi ∧ lo ≤ lReps ∧ hReps ≤ hi ∧ (hMarks ≤ lReps ∨ hReps ≤ lMarks)) : OVp acctL w (fun j => lo ≤ j ∧ j < hi) [.int .i64 d.Have, .int .i64 d.State, .int .i64 d.By, vMarks, vReps] d := by
  have h : OVp acctL w _ [.int .i64 d.Have, .int .i64 d.State, .int .i64 d.By, vMarks, vReps] d := OVp.iso (f := fun d : MAcct => (d.Have, d.State, d.By, d.Marks, d.Reps)) (OVp.cons1 (OVp.cons1 (OVp.cons1 (OVp.cons (OVp.ints oMarks) (OVp.sl oReps) (by intro j; omega)))))
  exact h.imp (by intro j; omega)

theorem ov_acct {w : World} {d : MAcct} {lo hi lMarks hMarks lReps hReps : Nat} {vMarks vReps : Value} (oMarks : OS .i64 3 w lMarks hMarks vMarks d.Marks) (oReps : OV repSL w lReps hReps vReps d.Reps) (hc : hi ≤ w.heap.size ∧ lo ≤ lMarks ∧ hMarks ≤ hi ∧ lo ≤ lReps ∧ hReps ≤ hi ∧ (hMarks ≤ lReps ∨ hReps ≤ lMarks)) : OV acctL w lo hi (.agg #[.int .i64 d.Have, .int .i64 d.State, .int .i64 d.By, vMarks, vReps]) d :=
  (ovp_acct (lo := lo) (hi := hi) oMarks oReps hc).ov (fun _ h => h) hc.1

set_option maxHeartbeats 1000000 in
theorem toAcct_c {w : World} {v : Value} {d : MAcct} (h : RV acctL w v d) (hm : d.bulk ≤ 16777216) : Calls Try.prog 26 #[v] w (NewV acctL w d) := by
  obtain ⟨AMarks, cMarks, AReps, cReps, rfl, rMarks, rReps⟩ := rv_acct h
  unfold MAcct.bulk at hm
  obtain ⟨wa, hwa, B0, sa, x_a, x_r, x_out⟩ := frame3 w 40 [.int .i64 d.Have, .int .i64 d.State, .int .i64 d.By, .slice AMarks d.Marks.length cMarks, .slice AReps d.Reps.length cReps] 27 [.int .i64 0, .int .i64 0, .int .i64 0, .slice none 0 0, .slice none 0 0] 27 [.int .i64 0, .int .i64 0, .int .i64 0, .slice none 0 0, .slice none 0 0]
  have sa_1 := Nat.le_of_eq sa
  have sa_2 := Nat.le_of_eq sa.symm
  clear sa
  have c_a_0_wa := x_a.cell (i := 0) rfl
  have f_a_0_wa := x_a.frozen 0
  have c_a_1_wa := x_a.cell (i := 1) rfl
  have f_a_1_wa := x_a.frozen 1
  have c_a_2_wa := x_a.cell (i := 2) rfl
  have f_a_2_wa := x_a.frozen 2
  have c_a_3_wa := x_a.cell (i := 3) rfl
  have f_a_3_wa := x_a.frozen 3
  have c_a_4_wa := x_a.cell (i := 4) rfl
  have f_a_4_wa := x_a.frozen 4
  have c_out_0_wa := x_out.cell (i := 0) rfl
  have f_out_0_wa := x_out.frozen 0
  have c_out_1_wa := x_out.cell (i := 1) rfl
  have f_out_1_wa := x_out.frozen 1
  have c_out_2_wa := x_out.cell (i := 2) rfl
  have f_out_2_wa := x_out.frozen 2
  have c_out_3_wa := x_out.cell (i := 3) rfl
  have f_out_3_wa := x_out.frozen 3
  have c_out_4_wa := x_out.cell (i := 4) rfl
  have f_out_4_wa := x_out.frozen 4
  go_enter Try.func26, Try.ntmps26
  have c_r_0_wa := x_r.cell (i := 0) rfl
  have f_r_0_wa := x_r.frozen 0
  have c_r_1_wa := x_r.cell (i := 1) rfl
  have f_r_1_wa := x_r.frozen 1
  have c_r_2_wa := x_r.cell (i := 2) rfl
  have f_r_2_wa := x_r.frozen 2
  have c_r_3_wa := x_r.cell (i := 3) rfl
  have f_r_3_wa := x_r.frozen 3
  have c_r_4_wa := x_r.cell (i := 4) rfl
  have f_r_4_wa := x_r.frozen 4
  obtain ⟨w1, e_w1, s_w1, h_w1, y⟩ := set_step x_out 0 (.int .i64 d.Have)
  have s_w1_1 := Nat.le_of_eq s_w1
  have s_w1_2 := Nat.le_of_eq s_w1.symm
  clear s_w1
  replace x_a := x_a.chg h_w1 (by omega)
  replace x_r := x_r.chg h_w1 (by omega)
  have B_w1 := Below.chg_ B0 h_w1 (by omega) (by omega)
  replace x_out : Vr w1 (w.heap.size + 1 + 1) 27 [.int .i64 d.Have, .int .i64 0, .int .i64 0, .slice none 0 0, .slice none 0 0] := y
  clear y
  have c_a_0_w1 := x_a.cell (i := 0) rfl
  have f_a_0_w1 := x_a.frozen 0
  have c_a_1_w1 := x_a.cell (i := 1) rfl
  have f_a_1_w1 := x_a.frozen 1
  have c_a_2_w1 := x_a.cell (i := 2) rfl
  have f_a_2_w1 := x_a.frozen 2
  have c_a_3_w1 := x_a.cell (i := 3) rfl
  have f_a_3_w1 := x_a.frozen 3
  have c_a_4_w1 := x_a.cell (i := 4) rfl
  have f_a_4_w1 := x_a.frozen 4
  have c_out_0_w1 := x_out.cell (i := 0) rfl
  have f_out_0_w1 := x_out.frozen 0
  have c_out_1_w1 := x_out.cell (i := 1) rfl
  have f_out_1_w1 := x_out.frozen 1
  have c_out_2_w1 := x_out.cell (i := 2) rfl
  have f_out_2_w1 := x_out.frozen 2
  have c_out_3_w1 := x_out.cell (i := 3) rfl
  have f_out_3_w1 := x_out.frozen 3
  have c_out_4_w1 := x_out.cell (i := 4) rfl
  have f_out_4_w1 := x_out.frozen 4
  have c_r_0_w1 := x_r.cell (i := 0) rfl
  have f_r_0_w1 := x_r.frozen 0
  have c_r_1_w1 := x_r.cell (i := 1) rfl
  have f_r_1_w1 := x_r.frozen 1
  have c_r_2_w1 := x_r.cell (i := 2) rfl
  have f_r_2_w1 := x_r.frozen 2
  have c_r_3_w1 := x_r.cell (i := 3) rfl
  have f_r_3_w1 := x_r.frozen 3
  have c_r_4_w1 := x_r.cell (i := 4) rfl
  have f_r_4_w1 := x_r.frozen 4
  obtain ⟨w2, e_w2, s_w2, h_w2, y⟩ := set_step x_out 1 (.int .i64 d.State)
  have s_w2_1 := Nat.le_of_eq s_w2
  have s_w2_2 := Nat.le_of_eq s_w2.symm
  clear s_w2
  replace x_a := x_a.chg h_w2 (by omega)
  replace x_r := x_r.chg h_w2 (by omega)
  have B_w2 := Below.chg_ B_w1 h_w2 (by omega) (by omega)
  replace x_out : Vr w2 (w.heap.size + 1 + 1) 27 [.int .i64 d.Have, .int .i64 d.State, .int .i64 0, .slice none 0 0, .slice none 0 0] := y
  clear y
  have c_a_0_w2 := x_a.cell (i := 0) rfl
  have f_a_0_w2 := x_a.frozen 0
  have c_a_1_w2 := x_a.cell (i := 1) rfl
  have f_a_1_w2 := x_a.frozen 1
  have c_a_2_w2 := x_a.cell (i := 2) rfl
  have f_a_2_w2 := x_a.frozen 2
  have c_a_3_w2 := x_a.cell (i := 3) rfl
  have f_a_3_w2 := x_a.frozen 3
  have c_a_4_w2 := x_a.cell (i := 4) rfl
  have f_a_4_w2 := x_a.frozen 4
  have c_out_0_w2 := x_out.cell (i := 0) rfl
  have f_out_0_w2 := x_out.frozen 0
  have c_out_1_w2 := x_out.cell (i := 1) rfl
  have f_out_1_w2 := x_out.frozen 1
  have c_out_2_w2 := x_out.cell (i := 2) rfl
  have f_out_2_w2 := x_out.frozen 2
  have c_out_3_w2 := x_out.cell (i := 3) rfl
  have f_out_3_w2 := x_out.frozen 3
  have c_out_4_w2 := x_out.cell (i := 4) rfl
  have f_out_4_w2 := x_out.frozen 4
  have c_r_0_w2 := x_r.cell (i := 0) rfl
  have f_r_0_w2 := x_r.frozen 0
  have c_r_1_w2 := x_r.cell (i := 1) rfl
  have f_r_1_w2 := x_r.frozen 1
  have c_r_2_w2 := x_r.cell (i := 2) rfl
  have f_r_2_w2 := x_r.frozen 2
  have c_r_3_w2 := x_r.cell (i := 3) rfl
  have f_r_3_w2 := x_r.frozen 3
  have c_r_4_w2 := x_r.cell (i := 4) rfl
  have f_r_4_w2 := x_r.frozen 4
  obtain ⟨w3, e_w3, s_w3, h_w3, y⟩ := set_step x_out 2 (.int .i64 d.By)
  have s_w3_1 := Nat.le_of_eq s_w3
  have s_w3_2 := Nat.le_of_eq s_w3.symm
  clear s_w3
  replace x_a := x_a.chg h_w3 (by omega)
  replace x_r := x_r.chg h_w3 (by omega)
  have B_w3 := Below.chg_ B_w2 h_w3 (by omega) (by omega)
  replace x_out : Vr w3 (w.heap.size + 1 + 1) 27 [.int .i64 d.Have, .int .i64 d.State, .int .i64 d.By, .slice none 0 0, .slice none 0 0] := y
  clear y
  have c_a_0_w3 := x_a.cell (i := 0) rfl
  have f_a_0_w3 := x_a.frozen 0
  have c_a_1_w3 := x_a.cell (i := 1) rfl
  have f_a_1_w3 := x_a.frozen 1
  have c_a_2_w3 := x_a.cell (i := 2) rfl
  have f_a_2_w3 := x_a.frozen 2
  have c_a_3_w3 := x_a.cell (i := 3) rfl
  have f_a_3_w3 := x_a.frozen 3
  have c_a_4_w3 := x_a.cell (i := 4) rfl
  have f_a_4_w3 := x_a.frozen 4
  have c_out_0_w3 := x_out.cell (i := 0) rfl
  have f_out_0_w3 := x_out.frozen 0
  have c_out_1_w3 := x_out.cell (i := 1) rfl
  have f_out_1_w3 := x_out.frozen 1
  have c_out_2_w3 := x_out.cell (i := 2) rfl
  have f_out_2_w3 := x_out.frozen 2
  have c_out_3_w3 := x_out.cell (i := 3) rfl
  have f_out_3_w3 := x_out.frozen 3
  have c_out_4_w3 := x_out.cell (i := 4) rfl
  have f_out_4_w3 := x_out.frozen 4
  have c_r_0_w3 := x_r.cell (i := 0) rfl
  have f_r_0_w3 := x_r.frozen 0
  have c_r_1_w3 := x_r.cell (i := 1) rfl
  have f_r_1_w3 := x_r.frozen 1
  have c_r_2_w3 := x_r.cell (i := 2) rfl
  have f_r_2_w3 := x_r.frozen 2
  have c_r_3_w3 := x_r.cell (i := 3) rfl
  have f_r_3_w3 := x_r.frozen 3
  have c_r_4_w3 := x_r.cell (i := 4) rfl
  have f_r_4_w3 := x_r.frozen 4
  go_wp2_with fail
  refine (toIntS_c (rMarks.from_ B_w3) (by omega)).mono ?_
  rintro e w4 ⟨uMarks, rfl, oMarks, h_w4⟩
  clear c_a_0_wa f_a_0_wa c_a_1_wa f_a_1_wa c_a_2_wa f_a_2_wa c_a_3_wa f_a_3_wa c_a_4_wa f_a_4_wa c_out_0_wa f_out_0_wa c_out_1_wa f_out_1_wa c_out_2_wa f_out_2_wa c_out_3_wa f_out_3_wa c_out_4_wa f_out_4_wa c_r_0_wa f_r_0_wa c_r_1_wa f_r_1_wa c_r_2_wa f_r_2_wa c_r_3_wa f_r_3_wa c_r_4_wa f_r_4_wa c_a_0_w1 f_a_0_w1 c_a_1_w1 f_a_1_w1 c_a_2_w1 f_a_2_w1 c_a_3_w1 f_a_3_w1 c_a_4_w1 f_a_4_w1 c_out_0_w1 f_out_0_w1 c_out_1_w1 f_out_1_w1 c_out_2_w1 f_out_2_w1 c_out_3_w1 f_out_3_w1 c_out_4_w1 f_out_4_w1 c_r_0_w1 f_r_0_w1 c_r_1_w1 f_r_1_w1 c_r_2_w1 f_r_2_w1 c_r_3_w1 f_r_3_w1 c_r_4_w1 f_r_4_w1 c_a_0_w2 f_a_0_w2 c_a_1_w2 f_a_1_w2 c_a_2_w2 f_a_2_w2 c_a_3_w2 f_a_3_w2 c_a_4_w2 f_a_4_w2 c_out_0_w2 f_out_0_w2 c_out_1_w2 f_out_1_w2 c_out_2_w2 f_out_2_w2 c_out_3_w2 f_out_3_w2 c_out_4_w2 f_out_4_w2 c_r_0_w2 f_r_0_w2 c_r_1_w2 f_r_1_w2 c_r_2_w2 f_r_2_w2 c_r_3_w2 f_r_3_w2 c_r_4_w2 f_r_4_w2 c_a_0_w3 f_a_0_w3 c_a_1_w3 f_a_1_w3 c_a_2_w3 f_a_2_w3 c_a_3_w3 f_a_3_w3 c_a_4_w3 f_a_4_w3 c_out_0_w3 f_out_0_w3 c_out_1_w3 f_out_1_w3 c_out_2_w3 f_out_2_w3 c_out_3_w3 f_out_3_w3 c_out_4_w3 f_out_4_w3 c_r_0_w3 f_r_0_w3 c_r_1_w3 f_r_1_w3 c_r_2_w3 f_r_2_w3 c_r_3_w3 f_r_3_w3 c_r_4_w3 f_r_4_w3
  replace x_a := x_a.from_ h_w4
  replace x_r := x_r.from_ h_w4
  replace x_out := x_out.from_ h_w4
  have B_w4 := B_w3.trans (h_w4.mono B_w3.size)
  have s_w4 := h_w4.size
  obtain ⟨BMarks, eMarks, rfl, -, -, -⟩ := oMarks.rd
  have c_a_0_w4 := x_a.cell (i := 0) rfl
  have f_a_0_w4 := x_a.frozen 0
  have c_a_1_w4 := x_a.cell (i := 1) rfl
  have f_a_1_w4 := x_a.frozen 1
  have c_a_2_w4 := x_a.cell (i := 2) rfl
  have f_a_2_w4 := x_a.frozen 2
  have c_a_3_w4 := x_a.cell (i := 3) rfl
  have f_a_3_w4 := x_a.frozen 3
  have c_a_4_w4 := x_a.cell (i := 4) rfl
  have f_a_4_w4 := x_a.frozen 4
  have c_out_0_w4 := x_out.cell (i := 0) rfl
  have f_out_0_w4 := x_out.frozen 0
  have c_out_1_w4 := x_out.cell (i := 1) rfl
  have f_out_1_w4 := x_out.frozen 1
  have c_out_2_w4 := x_out.cell (i := 2) rfl
  have f_out_2_w4 := x_out.frozen 2
  have c_out_3_w4 := x_out.cell (i := 3) rfl
  have f_out_3_w4 := x_out.frozen 3
  have c_out_4_w4 := x_out.cell (i := 4) rfl
  have f_out_4_w4 := x_out.frozen 4
  have c_r_0_w4 := x_r.cell (i := 0) rfl
  have f_r_0_w4 := x_r.frozen 0
  have c_r_1_w4 := x_r.cell (i := 1) rfl
  have f_r_1_w4 := x_r.frozen 1
  have c_r_2_w4 := x_r.cell (i := 2) rfl
  have f_r_2_w4 := x_r.frozen 2
  have c_r_3_w4 := x_r.cell (i := 3) rfl
  have f_r_3_w4 := x_r.frozen 3
  have c_r_4_w4 := x_r.cell (i := 4) rfl
  have f_r_4_w4 := x_r.frozen 4
  obtain ⟨w5, e_w5, s_w5, h_w5, y⟩ := set_step x_out 3 (.slice BMarks d.Marks.length eMarks)
  have s_w5_1 := Nat.le_of_eq s_w5
  have s_w5_2 := Nat.le_of_eq s_w5.symm
  clear s_w5
  replace x_a := x_a.chg h_w5 (by omega)
  replace x_r := x_r.chg h_w5 (by omega)
  replace oMarks := oMarks.chg h_w5 (by omega)
  have B_w5 := Below.chg_ B_w4 h_w5 (by omega) (by omega)
  replace x_out : Vr w5 (w.heap.size + 1 + 1) 27 [.int .i64 d.Have, .int .i64 d.State, .int .i64 d.By, .slice BMarks d.Marks.length eMarks, .slice none 0 0] := y
  clear y
  have c_a_0_w5 := x_a.cell (i := 0) rfl
  have f_a_0_w5 := x_a.frozen 0
  have c_a_1_w5 := x_a.cell (i := 1) rfl
  have f_a_1_w5 := x_a.frozen 1
  have c_a_2_w5 := x_a.cell (i := 2) rfl
  have f_a_2_w5 := x_a.frozen 2
  have c_a_3_w5 := x_a.cell (i := 3) rfl
  have f_a_3_w5 := x_a.frozen 3
  have c_a_4_w5 := x_a.cell (i := 4) rfl
  have f_a_4_w5 := x_a.frozen 4
  have c_out_0_w5 := x_out.cell (i := 0) rfl
  have f_out_0_w5 := x_out.frozen 0
  have c_out_1_w5 := x_out.cell (i := 1) rfl
  have f_out_1_w5 := x_out.frozen 1
  have c_out_2_w5 := x_out.cell (i := 2) rfl
  have f_out_2_w5 := x_out.frozen 2
  have c_out_3_w5 := x_out.cell (i := 3) rfl
  have f_out_3_w5 := x_out.frozen 3
  have c_out_4_w5 := x_out.cell (i := 4) rfl
  have f_out_4_w5 := x_out.frozen 4
  have c_r_0_w5 := x_r.cell (i := 0) rfl
  have f_r_0_w5 := x_r.frozen 0
  have c_r_1_w5 := x_r.cell (i := 1) rfl
  have f_r_1_w5 := x_r.frozen 1
  have c_r_2_w5 := x_r.cell (i := 2) rfl
  have f_r_2_w5 := x_r.frozen 2
  have c_r_3_w5 := x_r.cell (i := 3) rfl
  have f_r_3_w5 := x_r.frozen 3
  have c_r_4_w5 := x_r.cell (i := 4) rfl
  have f_r_4_w5 := x_r.frozen 4
  go_wp2_with fail
  refine (toRepS_c (rReps.from_ B_w5) (by omega)).mono ?_
  rintro e w6 ⟨uReps, rfl, oReps, h_w6⟩
  clear c_a_0_w4 f_a_0_w4 c_a_1_w4 f_a_1_w4 c_a_2_w4 f_a_2_w4 c_a_3_w4 f_a_3_w4 c_a_4_w4 f_a_4_w4 c_out_0_w4 f_out_0_w4 c_out_1_w4 f_out_1_w4 c_out_2_w4 f_out_2_w4 c_out_3_w4 f_out_3_w4 c_out_4_w4 f_out_4_w4 c_r_0_w4 f_r_0_w4 c_r_1_w4 f_r_1_w4 c_r_2_w4 f_r_2_w4 c_r_3_w4 f_r_3_w4 c_r_4_w4 f_r_4_w4 c_a_0_w5 f_a_0_w5 c_a_1_w5 f_a_1_w5 c_a_2_w5 f_a_2_w5 c_a_3_w5 f_a_3_w5 c_a_4_w5 f_a_4_w5 c_out_0_w5 f_out_0_w5 c_out_1_w5 f_out_1_w5 c_out_2_w5 f_out_2_w5 c_out_3_w5 f_out_3_w5 c_out_4_w5 f_out_4_w5 c_r_0_w5 f_r_0_w5 c_r_1_w5 f_r_1_w5 c_r_2_w5 f_r_2_w5 c_r_3_w5 f_r_3_w5 c_r_4_w5 f_r_4_w5
  replace x_a := x_a.from_ h_w6
  replace x_r := x_r.from_ h_w6
  replace x_out := x_out.from_ h_w6
  replace oMarks := oMarks.below h_w6
  have B_w6 := B_w5.trans (h_w6.mono B_w5.size)
  have s_w6 := h_w6.size
  obtain ⟨BReps, eReps, rfl, -, -, -⟩ := rv_slice oReps.rd
  have c_a_0_w6 := x_a.cell (i := 0) rfl
  have f_a_0_w6 := x_a.frozen 0
  have c_a_1_w6 := x_a.cell (i := 1) rfl
  have f_a_1_w6 := x_a.frozen 1
  have c_a_2_w6 := x_a.cell (i := 2) rfl
  have f_a_2_w6 := x_a.frozen 2
  have c_a_3_w6 := x_a.cell (i := 3) rfl
  have f_a_3_w6 := x_a.frozen 3
  have c_a_4_w6 := x_a.cell (i := 4) rfl
  have f_a_4_w6 := x_a.frozen 4
  have c_out_0_w6 := x_out.cell (i := 0) rfl
  have f_out_0_w6 := x_out.frozen 0
  have c_out_1_w6 := x_out.cell (i := 1) rfl
  have f_out_1_w6 := x_out.frozen 1
  have c_out_2_w6 := x_out.cell (i := 2) rfl
  have f_out_2_w6 := x_out.frozen 2
  have c_out_3_w6 := x_out.cell (i := 3) rfl
  have f_out_3_w6 := x_out.frozen 3
  have c_out_4_w6 := x_out.cell (i := 4) rfl
  have f_out_4_w6 := x_out.frozen 4
  have c_r_0_w6 := x_r.cell (i := 0) rfl
  have f_r_0_w6 := x_r.frozen 0
  have c_r_1_w6 := x_r.cell (i := 1) rfl
  have f_r_1_w6 := x_r.frozen 1
  have c_r_2_w6 := x_r.cell (i := 2) rfl
  have f_r_2_w6 := x_r.frozen 2
  have c_r_3_w6 := x_r.cell (i := 3) rfl
  have f_r_3_w6 := x_r.frozen 3
  have c_r_4_w6 := x_r.cell (i := 4) rfl
  have f_r_4_w6 := x_r.frozen 4
  obtain ⟨w7, e_w7, s_w7, h_w7, y⟩ := set_step x_out 4 (.slice BReps d.Reps.length eReps)
  have s_w7_1 := Nat.le_of_eq s_w7
  have s_w7_2 := Nat.le_of_eq s_w7.symm
  clear s_w7
  replace x_a := x_a.chg h_w7 (by omega)
  replace x_r := x_r.chg h_w7 (by omega)
  replace oMarks := oMarks.chg h_w7 (by omega)
  replace oReps := oReps.chg h_w7 (by omega)
  have B_w7 := Below.chg_ B_w6 h_w7 (by omega) (by omega)
  replace x_out : Vr w7 (w.heap.size + 1 + 1) 27 [.int .i64 d.Have, .int .i64 d.State, .int .i64 d.By, .slice BMarks d.Marks.length eMarks, .slice BReps d.Reps.length eReps] := y
  clear y
  have c_a_0_w7 := x_a.cell (i := 0) rfl
  have f_a_0_w7 := x_a.frozen 0
  have c_a_1_w7 := x_a.cell (i := 1) rfl
  have f_a_1_w7 := x_a.frozen 1
  have c_a_2_w7 := x_a.cell (i := 2) rfl
  have f_a_2_w7 := x_a.frozen 2
  have c_a_3_w7 := x_a.cell (i := 3) rfl
  have f_a_3_w7 := x_a.frozen 3
  have c_a_4_w7 := x_a.cell (i := 4) rfl
  have f_a_4_w7 := x_a.frozen 4
  have c_out_0_w7 := x_out.cell (i := 0) rfl
  have f_out_0_w7 := x_out.frozen 0
  have c_out_1_w7 := x_out.cell (i := 1) rfl
  have f_out_1_w7 := x_out.frozen 1
  have c_out_2_w7 := x_out.cell (i := 2) rfl
  have f_out_2_w7 := x_out.frozen 2
  have c_out_3_w7 := x_out.cell (i := 3) rfl
  have f_out_3_w7 := x_out.frozen 3
  have c_out_4_w7 := x_out.cell (i := 4) rfl
  have f_out_4_w7 := x_out.frozen 4
  have c_r_0_w7 := x_r.cell (i := 0) rfl
  have f_r_0_w7 := x_r.frozen 0
  have c_r_1_w7 := x_r.cell (i := 1) rfl
  have f_r_1_w7 := x_r.frozen 1
  have c_r_2_w7 := x_r.cell (i := 2) rfl
  have f_r_2_w7 := x_r.frozen 2
  have c_r_3_w7 := x_r.cell (i := 3) rfl
  have f_r_3_w7 := x_r.frozen 3
  have c_r_4_w7 := x_r.cell (i := 4) rfl
  have f_r_4_w7 := x_r.frozen 4
  obtain ⟨w8, e_w8, s_w8, h_w8, y⟩ := store_step x_r [.int .i64 d.Have, .int .i64 d.State, .int .i64 d.By, .slice BMarks d.Marks.length eMarks, .slice BReps d.Reps.length eReps] rfl
  replace e_w8 : (((((w7.setCell ⟨w.heap.size + 1, 0, none⟩ (.int .i64 d.Have)).setCell ⟨w.heap.size + 1, 1, none⟩ (.int .i64 d.State)).setCell ⟨w.heap.size + 1, 2, none⟩ (.int .i64 d.By)).setCell ⟨w.heap.size + 1, 3, none⟩ (.slice BMarks d.Marks.length eMarks)).setCell ⟨w.heap.size + 1, 4, none⟩ (.slice BReps d.Reps.length eReps)) = w8 := e_w8
  have s_w8_1 := Nat.le_of_eq s_w8
  have s_w8_2 := Nat.le_of_eq s_w8.symm
  clear s_w8
  replace x_a := x_a.chg h_w8 (by omega)
  replace x_out := x_out.chg h_w8 (by omega)
  replace oMarks := oMarks.chg h_w8 (by omega)
  replace oReps := oReps.chg h_w8 (by omega)
  have B_w8 := Below.chg_ B_w7 h_w8 (by omega) (by omega)
  replace x_r : Vr w8 (w.heap.size + 1) 27 [.int .i64 d.Have, .int .i64 d.State, .int .i64 d.By, .slice BMarks d.Marks.length eMarks, .slice BReps d.Reps.length eReps] := y
  clear y
  have c_r_0_w8 := x_r.cell (i := 0) rfl
  have f_r_0_w8 := x_r.frozen 0
  have c_r_1_w8 := x_r.cell (i := 1) rfl
  have f_r_1_w8 := x_r.frozen 1
  have c_r_2_w8 := x_r.cell (i := 2) rfl
  have f_r_2_w8 := x_r.frozen 2
  have c_r_3_w8 := x_r.cell (i := 3) rfl
  have f_r_3_w8 := x_r.frozen 3
  have c_r_4_w8 := x_r.cell (i := 4) rfl
  have f_r_4_w8 := x_r.frozen 4
  go_wp2
  refine ret_cell (by rfl) (by rfl) x_r Try.underlying27 sz_acct (by rfl) ?_
  exact ⟨_, rfl, ov_acct oMarks oReps (by omega), B_w8⟩

set_option maxHeartbeats 1000000 in
theorem eqAcct_same {w : World} {v v' : Value} {d : MAcct} (h : RV acctL w v d) (h' : RV acctL w v' d) (hm : d.bulk ≤ 1073741824) : Calls Try.prog 27 #[v, v'] w fun e w' => e = .returned (.bool true) ∧ Below w.heap.size w w' := by
  obtain ⟨AMarks, cMarks, AReps, cReps, rfl, rMarks, rReps⟩ := rv_acct h
  obtain ⟨AMarksx, cMarksx, ARepsx, cRepsx, rfl, rxMarks, rxReps⟩ := rv_acct h'
  unfold MAcct.bulk at hm
  obtain ⟨wa, hwa, B0, sa, x_a, x_b⟩ := frame2 w 27 [.int .i64 d.Have, .int .i64 d.State, .int .i64 d.By, .slice AMarks d.Marks.length cMarks, .slice AReps d.Reps.length cReps] 27 [.int .i64 d.Have, .int .i64 d.State, .int .i64 d.By, .slice AMarksx d.Marks.length cMarksx, .slice ARepsx d.Reps.length cRepsx]
  have sa_1 := Nat.le_of_eq sa
  have sa_2 := Nat.le_of_eq sa.symm
  clear sa
  have c_a_0_wa := x_a.cell (i := 0) rfl
  have c_a_1_wa := x_a.cell (i := 1) rfl
  have c_a_2_wa := x_a.cell (i := 2) rfl
  have c_a_3_wa := x_a.cell (i := 3) rfl
  have c_a_4_wa := x_a.cell (i := 4) rfl
  have c_b_0_wa := x_b.cell (i := 0) rfl
  have c_b_1_wa := x_b.cell (i := 1) rfl
  have c_b_2_wa := x_b.cell (i := 2) rfl
  have c_b_3_wa := x_b.cell (i := 3) rfl
  have c_b_4_wa := x_b.cell (i := 4) rfl
  go_enter Try.func27, Try.ntmps27
  go_wp2_with fail
  refine (eqIntS_same (rMarks.from_ B0) (rxMarks.from_ B0) (by omega)).mono ?_
  rintro e w1 ⟨rfl, h_w1⟩
  clear c_a_0_wa c_a_1_wa c_a_2_wa c_a_3_wa c_a_4_wa c_b_0_wa c_b_1_wa c_b_2_wa c_b_3_wa c_b_4_wa
  replace x_a := x_a.from_ h_w1
  replace x_b := x_b.from_ h_w1
  have B_w1 := B0.trans (h_w1.mono B0.size)
  have s_w1 := h_w1.size
  have c_a_0_w1 := x_a.cell (i := 0) rfl
  have c_a_1_w1 := x_a.cell (i := 1) rfl
  have c_a_2_w1 := x_a.cell (i := 2) rfl
  have c_a_3_w1 := x_a.cell (i := 3) rfl
  have c_a_4_w1 := x_a.cell (i := 4) rfl
  have c_b_0_w1 := x_b.cell (i := 0) rfl
  have c_b_1_w1 := x_b.cell (i := 1) rfl
  have c_b_2_w1 := x_b.cell (i := 2) rfl
  have c_b_3_w1 := x_b.cell (i := 3) rfl
  have c_b_4_w1 := x_b.cell (i := 4) rfl
  go_wp2_with fail
  refine (eqRepS_same (rReps.from_ B_w1) (rxReps.from_ B_w1) (by omega)).mono ?_
  rintro e w2 ⟨rfl, h_w2⟩
  clear c_a_0_w1 c_a_1_w1 c_a_2_w1 c_a_3_w1 c_a_4_w1 c_b_0_w1 c_b_1_w1 c_b_2_w1 c_b_3_w1 c_b_4_w1
  replace x_a := x_a.from_ h_w2
  replace x_b := x_b.from_ h_w2
  have B_w2 := B_w1.trans (h_w2.mono B_w1.size)
  have s_w2 := h_w2.size
  have c_a_0_w2 := x_a.cell (i := 0) rfl
  have c_a_1_w2 := x_a.cell (i := 1) rfl
  have c_a_2_w2 := x_a.cell (i := 2) rfl
  have c_a_3_w2 := x_a.cell (i := 3) rfl
  have c_a_4_w2 := x_a.cell (i := 4) rfl
  have c_b_0_w2 := x_b.cell (i := 0) rfl
  have c_b_1_w2 := x_b.cell (i := 1) rfl
  have c_b_2_w2 := x_b.cell (i := 2) rfl
  have c_b_3_w2 := x_b.cell (i := 3) rfl
  have c_b_4_w2 := x_b.cell (i := 4) rfl
  go_wp2
  go_ret
  exact ⟨rfl, B_w2⟩

set_option maxHeartbeats 1000000 in
theorem markAcct_s {w : World} {S : List Nat} {cs : List Value} {d : MAcct} {k : Int} (h : acctL.own w S cs d) (hS : S.Nodup) (hm : d.steps ≤ 1073741824) (hk0 : 0 ≤ k) (hk1 : k ≤ 1073741824) :
    Calls Try.prog 29 #[valOf cs, .int .i64 k] w (MarkS acctL w S cs (k + (d.steps : Int)) (d.mark k)) := by
  unfold MAcct.steps at hm ⊢
  have hlt := acctL.own_lt h
  obtain ⟨zHave, yHave, SHave, THave, rfl, rfl, oHave, ⟨zState, yState, SState, TState, rfl, rfl, oState, ⟨zBy, yBy, SBy, TBy, rfl, rfl, oBy, ⟨zMarks, yMarks, SMarks, TMarks, rfl, rfl, oMarks, oReps⟩⟩⟩⟩ := h
  obtain ⟨rfl, rfl⟩ := oHave
  obtain ⟨rfl, rfl⟩ := oState
  obtain ⟨rfl, rfl⟩ := oBy
  obtain ⟨AMarks, cMarks, rfl, -, -, -⟩ := numsL.own_rd oMarks
  obtain ⟨AReps, cReps, rfl, -, -, -⟩ := repSL.own_rd oReps
  obtain ⟨nHave, mHave, dHave, eHave⟩ := nodup_app hS
  obtain ⟨nState, mState, dState, eState⟩ := nodup_app mHave
  obtain ⟨nBy, mBy, dBy, eBy⟩ := nodup_app mState
  obtain ⟨nMarks, mMarks, dMarks, eMarks⟩ := nodup_app mBy
  rw [show valOf ([.int .i64 d.Have] ++ ([.int .i64 d.State] ++ ([.int .i64 d.By] ++ ([.slice AMarks d.Marks.length cMarks] ++ ([.slice AReps d.Reps.length cReps]))))) = Value.agg #[.int .i64 d.Have, .int .i64 d.State, .int .i64 d.By, .slice AMarks d.Marks.length cMarks, .slice AReps d.Reps.length cReps] from rfl]
  obtain ⟨wa, hwa, B0, sa, x_a⟩ := frame1 w 27 [.int .i64 d.Have, .int .i64 d.State, .int .i64 d.By, .slice AMarks d.Marks.length cMarks, .slice AReps d.Reps.length cReps]
  have sa_1 := Nat.le_of_eq sa
  have sa_2 := Nat.le_of_eq sa.symm
  clear sa
  have c_a_0_wa := x_a.cell (i := 0) rfl
  have c_a_1_wa := x_a.cell (i := 1) rfl
  have c_a_2_wa := x_a.cell (i := 2) rfl
  have c_a_3_wa := x_a.cell (i := 3) rfl
  have c_a_4_wa := x_a.cell (i := 4) rfl
  have C0 : ChgS ([] ++ ([] ++ ([] ++ (SMarks ++ (TMarks))))) w wa := ChgS.of_below B0
  have hMarks := fun j hj => hlt j (List.mem_append.2 (.inr (List.mem_append.2 (.inr (List.mem_append.2 (.inr (List.mem_append.2 (.inl hj))))))))
  replace oMarks := numsL.own_below oMarks B0
  have hReps := fun j hj => hlt j (List.mem_append.2 (.inr (List.mem_append.2 (.inr (List.mem_append.2 (.inr (List.mem_append.2 (.inr hj))))))))
  replace oReps := repSL.own_below oReps B0
  go_enter Try.func29, Try.ntmps29
  go_wp2_with fail
  refine (markIntS_s oMarks (by omega) (by omega) (by omega)).mono ?_
  rintro e w1 ⟨rfl, oMarks, h_w1⟩
  clear c_a_0_wa c_a_1_wa c_a_2_wa c_a_3_wa c_a_4_wa
  have s_w1 := h_w1.size
  replace oReps := repSL.own_chg oReps h_w1 (fun a ha hj => dMarks a hj (ha))
  replace x_a := x_a.chgS h_w1 (fun hj => by have := hMarks _ hj; omega)
  have Cw1 := C0.trans (h_w1.more (fun j hj => List.mem_append.2 (.inr (List.mem_append.2 (.inr (List.mem_append.2 (.inr (List.mem_append.2 (.inl hj)))))))))
  have c_a_0_w1 := x_a.cell (i := 0) rfl
  have c_a_1_w1 := x_a.cell (i := 1) rfl
  have c_a_2_w1 := x_a.cell (i := 2) rfl
  have c_a_3_w1 := x_a.cell (i := 3) rfl
  have c_a_4_w1 := x_a.cell (i := 4) rfl
  go_wp2_with fail
  refine (markRepS_s oReps (by omega) (by omega) (by omega)).mono ?_
  rintro e w2 ⟨rfl, oReps, h_w2⟩
  clear c_a_0_w1 c_a_1_w1 c_a_2_w1 c_a_3_w1 c_a_4_w1
  have s_w2 := h_w2.size
  replace oMarks := numsL.own_chg oMarks h_w2 (fun a ha hj => dMarks a ha (hj))
  replace x_a := x_a.chgS h_w2 (fun hj => by have := hReps _ hj; omega)
  have Cw2 := Cw1.trans (h_w2.more (fun j hj => List.mem_append.2 (.inr (List.mem_append.2 (.inr (List.mem_append.2 (.inr (List.mem_append.2 (.inr hj)))))))))
  have c_a_0_w2 := x_a.cell (i := 0) rfl
  have c_a_1_w2 := x_a.cell (i := 1) rfl
  have c_a_2_w2 := x_a.cell (i := 2) rfl
  have c_a_3_w2 := x_a.cell (i := 3) rfl
  have c_a_4_w2 := x_a.cell (i := 4) rfl
  go_wp2
  go_ret
  exact ⟨ret_int (by omega), ⟨_, _, [], _, rfl, rfl, ⟨rfl, rfl⟩, ⟨_, _, [], _, rfl, rfl, ⟨rfl, rfl⟩, ⟨_, _, [], _, rfl, rfl, ⟨rfl, rfl⟩, ⟨_, _, SMarks, _, rfl, rfl, oMarks, oReps⟩⟩⟩⟩, Cw2⟩

theorem markAcct_c {w : World} {v : Value} {d : MAcct} {lo hi : Nat} {k : Int} (h : OV acctL w lo hi v d) (hm : d.steps ≤ 1073741824) (hk0 : 0 ≤ k) (hk1 : k ≤ 1073741824) :
    Calls Try.prog 29 #[v, .int .i64 k] w fun e w' => e = .returned (.int .i64 (k + (d.steps : Int))) ∧ OV acctL w' lo hi v (d.mark k) ∧ Chg lo hi w w' := by
  obtain ⟨cs, S, rfl, ho, hn, hS, hh⟩ := h
  exact (markAcct_s ho hn hm hk0 hk1).mono fun e w' hr => hr.up hn hS hh

set_option maxHeartbeats 1000000 in
theorem heldAcct_c {w : World} {v : Value} {d : MAcct} {k : Int} (h : RV acctL w v (d.mark k)) (hm : d.steps ≤ 1073741824) (hk0 : 0 ≤ k) (hk1 : k ≤ 1073741824) :
    Calls Try.prog 30 #[v, .int .i64 k] w fun e w' => e = .returned (.int .i64 (k + (d.steps : Int))) ∧ Below w.heap.size w w' := by
  unfold MAcct.steps at hm ⊢
  obtain ⟨AMarks, cMarks, AReps, cReps, rfl, rMarks, rReps⟩ := rv_acct h
  obtain ⟨wa, hwa, B0, sa, x_a⟩ := frame1 w 27 [.int .i64 (d.mark k).Have, .int .i64 (d.mark k).State, .int .i64 (d.mark k).By, .slice AMarks (d.mark k).Marks.length cMarks, .slice AReps (d.mark k).Reps.length cReps]
  have sa_1 := Nat.le_of_eq sa
  have sa_2 := Nat.le_of_eq sa.symm
  clear sa
  have c_a_0_wa := x_a.cell (i := 0) rfl
  have c_a_1_wa := x_a.cell (i := 1) rfl
  have c_a_2_wa := x_a.cell (i := 2) rfl
  have c_a_3_wa := x_a.cell (i := 3) rfl
  have c_a_4_wa := x_a.cell (i := 4) rfl
  go_enter Try.func30, Try.ntmps30
  go_wp2_with fail
  refine (heldIntS_c (n := d.Marks.length) (rMarks.from_ B0) (by omega) (by omega) (by omega)).mono ?_
  rintro e w1 ⟨rfl, h_w1⟩
  clear c_a_0_wa c_a_1_wa c_a_2_wa c_a_3_wa c_a_4_wa
  replace x_a := x_a.from_ h_w1
  have B_w1 := B0.trans (h_w1.mono B0.size)
  have s_w1 := h_w1.size
  have c_a_0_w1 := x_a.cell (i := 0) rfl
  have c_a_1_w1 := x_a.cell (i := 1) rfl
  have c_a_2_w1 := x_a.cell (i := 2) rfl
  have c_a_3_w1 := x_a.cell (i := 3) rfl
  have c_a_4_w1 := x_a.cell (i := 4) rfl
  go_wp2_with fail
  refine (heldRepS_c (N := d.Reps.length) (rReps.from_ B_w1) (by omega) (by omega) (by omega)).mono ?_
  rintro e w2 ⟨rfl, h_w2⟩
  clear c_a_0_w1 c_a_1_w1 c_a_2_w1 c_a_3_w1 c_a_4_w1
  replace x_a := x_a.from_ h_w2
  have B_w2 := B_w1.trans (h_w2.mono B_w1.size)
  have s_w2 := h_w2.size
  have c_a_0_w2 := x_a.cell (i := 0) rfl
  have c_a_1_w2 := x_a.cell (i := 1) rfl
  have c_a_2_w2 := x_a.cell (i := 2) rfl
  have c_a_3_w2 := x_a.cell (i := 3) rfl
  have c_a_4_w2 := x_a.cell (i := 4) rfl
  go_wp2
  go_ret
  exact ⟨ret_int (by omega), B_w2⟩

set_option maxHeartbeats 1000000 in
theorem szAcct_c {w : World} {v : Value} {d : MAcct} {left : Int} (h : RV acctL w v d) (h0 : 0 ≤ left) (h1 : left ≤ 1073741824) :
    Calls Try.prog 24 #[v, .int .i64 left] w fun e w' => e = .returned (.int .i64 (szV left (d.bulk : Int))) ∧ Below w.heap.size w w' := by
  obtain ⟨AMarks, cMarks, AReps, cReps, rfl, rMarks, rReps⟩ := rv_acct h
  obtain ⟨wa, hwa, B0, sa, x_a⟩ := frame1 w 40 [.int .i64 d.Have, .int .i64 d.State, .int .i64 d.By, .slice AMarks d.Marks.length cMarks, .slice AReps d.Reps.length cReps]
  have sa_1 := Nat.le_of_eq sa
  have sa_2 := Nat.le_of_eq sa.symm
  clear sa
  have c_a_0_wa := x_a.cell (i := 0) rfl
  have c_a_1_wa := x_a.cell (i := 1) rfl
  have c_a_2_wa := x_a.cell (i := 2) rfl
  have c_a_3_wa := x_a.cell (i := 3) rfl
  have c_a_4_wa := x_a.cell (i := 4) rfl
  have eb : (d.bulk : Int) = (d.Marks.length : Int) + (d.Reps.length : Int) := by unfold MAcct.bulk; omega
  by_cases g0 : (d.Marks.length : Int) ≤ left
  case neg =>
    have ez : szV left (d.bulk : Int) = -1 := by unfold szV; rw [if_neg (by omega)]
    rw [ez]
    go_enter Try.func24, Try.ntmps24
    go_wp2_with fail
    refine (szIntS_b (rMarks.from_ B0) (by omega) (by omega)).mono ?_
    rintro e w1 ⟨rfl, h_w1⟩
    clear c_a_0_wa c_a_1_wa c_a_2_wa c_a_3_wa c_a_4_wa
    replace x_a := x_a.from_ h_w1
    have B_w1 := B0.trans (h_w1.mono B0.size)
    have s_w1 := h_w1.size
    rw [show szV (left) (d.Marks.length : Int) = -1 from if_neg (by omega)]
    go_wp2
    go_ret
    exact ⟨ret_int (by omega), B_w1⟩
  by_cases g1 : (d.Marks.length : Int) + (d.Reps.length : Int) ≤ left
  case neg =>
    have ez : szV left (d.bulk : Int) = -1 := by unfold szV; rw [if_neg (by omega)]
    rw [ez]
    go_enter Try.func24, Try.ntmps24
    go_wp2_with fail
    refine (szIntS_b (rMarks.from_ B0) (by omega) (by omega)).mono ?_
    rintro e w1 ⟨rfl, h_w1⟩
    clear c_a_0_wa c_a_1_wa c_a_2_wa c_a_3_wa c_a_4_wa
    replace x_a := x_a.from_ h_w1
    have B_w1 := B0.trans (h_w1.mono B0.size)
    have s_w1 := h_w1.size
    rw [show szV (left) (d.Marks.length : Int) = left - (d.Marks.length : Int) from if_pos (by omega)]
    have gd0 : decide (left - (d.Marks.length : Int) < 0) = false := by simp; omega
    have c_a_0_w1 := x_a.cell (i := 0) rfl
    have c_a_1_w1 := x_a.cell (i := 1) rfl
    have c_a_2_w1 := x_a.cell (i := 2) rfl
    have c_a_3_w1 := x_a.cell (i := 3) rfl
    have c_a_4_w1 := x_a.cell (i := 4) rfl
    go_wp2_with fail
    refine (szRepS_c (rReps.from_ B_w1) (by omega) (by omega)).mono ?_
    rintro e w2 ⟨rfl, h_w2⟩
    clear c_a_0_w1 c_a_1_w1 c_a_2_w1 c_a_3_w1 c_a_4_w1
    replace x_a := x_a.from_ h_w2
    have B_w2 := B_w1.trans (h_w2.mono B_w1.size)
    have s_w2 := h_w2.size
    rw [show szV (left - (d.Marks.length : Int)) (d.Reps.length : Int) = -1 from if_neg (by omega)]
    go_wp2
    go_ret
    exact ⟨ret_int (by omega), B_w2⟩
  have ez : szV left (d.bulk : Int) = left - (d.bulk : Int) := by unfold szV; rw [if_pos (by omega)]
  rw [ez]
  go_enter Try.func24, Try.ntmps24
  go_wp2_with fail
  refine (szIntS_b (rMarks.from_ B0) (by omega) (by omega)).mono ?_
  rintro e w1 ⟨rfl, h_w1⟩
  clear c_a_0_wa c_a_1_wa c_a_2_wa c_a_3_wa c_a_4_wa
  replace x_a := x_a.from_ h_w1
  have B_w1 := B0.trans (h_w1.mono B0.size)
  have s_w1 := h_w1.size
  rw [show szV (left) (d.Marks.length : Int) = left - (d.Marks.length : Int) from if_pos (by omega)]
  have gd0 : decide (left - (d.Marks.length : Int) < 0) = false := by simp; omega
  have c_a_0_w1 := x_a.cell (i := 0) rfl
  have c_a_1_w1 := x_a.cell (i := 1) rfl
  have c_a_2_w1 := x_a.cell (i := 2) rfl
  have c_a_3_w1 := x_a.cell (i := 3) rfl
  have c_a_4_w1 := x_a.cell (i := 4) rfl
  go_wp2_with fail
  refine (szRepS_c (rReps.from_ B_w1) (by omega) (by omega)).mono ?_
  rintro e w2 ⟨rfl, h_w2⟩
  clear c_a_0_w1 c_a_1_w1 c_a_2_w1 c_a_3_w1 c_a_4_w1
  replace x_a := x_a.from_ h_w2
  have B_w2 := B_w1.trans (h_w2.mono B_w1.size)
  have s_w2 := h_w2.size
  rw [show szV (left - (d.Marks.length : Int)) (d.Reps.length : Int) = left - (d.Marks.length : Int) - (d.Reps.length : Int) from if_pos (by omega)]
  have gd1 : decide (left - (d.Marks.length : Int) - (d.Reps.length : Int) < 0) = false := by simp; omega
  have c_a_0_w2 := x_a.cell (i := 0) rfl
  have c_a_1_w2 := x_a.cell (i := 1) rfl
  have c_a_2_w2 := x_a.cell (i := 2) rfl
  have c_a_3_w2 := x_a.cell (i := 3) rfl
  have c_a_4_w2 := x_a.cell (i := 4) rfl
  go_wp2
  go_ret
  exact ⟨ret_int (by omega), B_w2⟩

end Go.Proofs.Ytopmojfcdmcmbaa
