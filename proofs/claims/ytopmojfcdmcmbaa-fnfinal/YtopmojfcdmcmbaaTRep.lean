/- The type Rep: its model, its layout, and the contracts of the laws' own helpers on it. Laid by a program of ours (typegen.py). -/
import Derived.Test.YtopmojfcdmcmbaaProg
import Derived.Test.YtopmojfcdmcmbaaVars
namespace Go.Proofs.Ytopmojfcdmcmbaa
open Go.RowKit
set_option linter.unusedVariables false

structure MRep where
  Node : Int
  Amt : Int

def repL : Lay MRep := isoL (fun d => (d.Node, d.Amt)) (consL (intL .i64) (intL .i64))

theorem sz_rep : (Try.prog.info? 57).map (·.size) = some 2 := by kernel_rfl

/-- how many values lie behind it -/
def MRep.bulk (d : MRep) : Nat := 0

/-- what a marking from k on makes of it -/
def MRep.mark (d : MRep) (k : Int) : MRep := ⟨d.Node, d.Amt⟩

theorem rv_rep {w : World} {v : Value} {d : MRep} (h : RV repL w v d) : v = .agg #[.int .i64 d.Node, .int .i64 d.Amt] := by
  obtain ⟨cs, rfl, hcs⟩ := h
  obtain ⟨_, _, rfl, rfl, rfl⟩ := hcs
  rfl

theorem cs_rep {w : World} {B : Nat} {cs : List Value} {d : MRep} (h : repL.rd w B cs d) : cs = [.int .i64 d.Node, .int .i64 d.Amt] := by
  obtain ⟨_, _, rfl, rfl, rfl⟩ := h
  rfl

theorem rv_rep_mk {w : World} {zNode : Int} {zAmt : Int} : RV repL w (.agg #[.int .i64 zNode, .int .i64 zAmt]) ⟨zNode, zAmt⟩ := by
  exact ⟨_, rfl, [_], _, rfl, rfl, rfl⟩

theorem ovp_rep {w : World} {d : MRep} {lo hi : Nat} (hc : hi ≤ w.heap.size) : OVp repL w (fun j => lo ≤ j ∧ j < hi) [.int .i64 d.Node, .int .i64 d.Amt] d := by
  have h : OVp repL w _ [.int .i64 d.Node, .int .i64 d.Amt] d := OVp.iso (f := fun d : MRep => (d.Node, d.Amt)) (OVp.cons1 OVp.one)
  exact h.imp (fun _ h => h.elim)

theorem ov_rep {w : World} {d : MRep} {lo hi : Nat} (hc : hi ≤ w.heap.size) : OV repL w lo hi (.agg #[.int .i64 d.Node, .int .i64 d.Amt]) d :=
  (ovp_rep (lo := lo) (hi := hi) hc).ov (fun _ h => h) hc

set_option maxHeartbeats 1000000 in
theorem toRep_c {w : World} {v : Value} {d : MRep} (h : RV repL w v d) : Calls Try.prog 83 #[v] w (NewV repL w d) := by
  obtain rfl := rv_rep h
  obtain ⟨wa, hwa, B0, sa, x_a, x_r, x_out⟩ := frame3 w 89 [.int .i64 d.Node, .int .i64 d.Amt] 57 [.int .i64 0, .int .i64 0] 57 [.int .i64 0, .int .i64 0]
  have sa_1 := Nat.le_of_eq sa
  have sa_2 := Nat.le_of_eq sa.symm
  clear sa
  have c_a_0_wa := x_a.cell (i := 0) rfl
  have f_a_0_wa := x_a.frozen 0
  have c_a_1_wa := x_a.cell (i := 1) rfl
  have f_a_1_wa := x_a.frozen 1
  have c_out_0_wa := x_out.cell (i := 0) rfl
  have f_out_0_wa := x_out.frozen 0
  have c_out_1_wa := x_out.cell (i := 1) rfl
  have f_out_1_wa := x_out.frozen 1
  go_enter Try.func83, Try.ntmps83
  have c_r_0_wa := x_r.cell (i := 0) rfl
  have f_r_0_wa := x_r.frozen 0
  have c_r_1_wa := x_r.cell (i := 1) rfl
  have f_r_1_wa := x_r.frozen 1
  obtain ⟨w1, e_w1, s_w1, h_w1, y⟩ := set_step x_out 0 (.int .i64 d.Node)
  have s_w1_1 := Nat.le_of_eq s_w1
  have s_w1_2 := Nat.le_of_eq s_w1.symm
  clear s_w1
  replace x_a := x_a.chg h_w1 (by omega)
  replace x_r := x_r.chg h_w1 (by omega)
  have B_w1 := Below.chg_ B0 h_w1 (by omega) (by omega)
  replace x_out : Vr w1 (w.heap.size + 1 + 1) 57 [.int .i64 d.Node, .int .i64 0] := y
  clear y
  have c_a_0_w1 := x_a.cell (i := 0) rfl
  have f_a_0_w1 := x_a.frozen 0
  have c_a_1_w1 := x_a.cell (i := 1) rfl
  have f_a_1_w1 := x_a.frozen 1
  have c_out_0_w1 := x_out.cell (i := 0) rfl
  have f_out_0_w1 := x_out.frozen 0
  have c_out_1_w1 := x_out.cell (i := 1) rfl
  have f_out_1_w1 := x_out.frozen 1
  have c_r_0_w1 := x_r.cell (i := 0) rfl
  have f_r_0_w1 := x_r.frozen 0
  have c_r_1_w1 := x_r.cell (i := 1) rfl
  have f_r_1_w1 := x_r.frozen 1
  obtain ⟨w2, e_w2, s_w2, h_w2, y⟩ := set_step x_out 1 (.int .i64 d.Amt)
  have s_w2_1 := Nat.le_of_eq s_w2
  have s_w2_2 := Nat.le_of_eq s_w2.symm
  clear s_w2
  replace x_a := x_a.chg h_w2 (by omega)
  replace x_r := x_r.chg h_w2 (by omega)
  have B_w2 := Below.chg_ B_w1 h_w2 (by omega) (by omega)
  replace x_out : Vr w2 (w.heap.size + 1 + 1) 57 [.int .i64 d.Node, .int .i64 d.Amt] := y
  clear y
  have c_a_0_w2 := x_a.cell (i := 0) rfl
  have f_a_0_w2 := x_a.frozen 0
  have c_a_1_w2 := x_a.cell (i := 1) rfl
  have f_a_1_w2 := x_a.frozen 1
  have c_out_0_w2 := x_out.cell (i := 0) rfl
  have f_out_0_w2 := x_out.frozen 0
  have c_out_1_w2 := x_out.cell (i := 1) rfl
  have f_out_1_w2 := x_out.frozen 1
  have c_r_0_w2 := x_r.cell (i := 0) rfl
  have f_r_0_w2 := x_r.frozen 0
  have c_r_1_w2 := x_r.cell (i := 1) rfl
  have f_r_1_w2 := x_r.frozen 1
  obtain ⟨w3, e_w3, s_w3, h_w3, y⟩ := store_step x_r [.int .i64 d.Node, .int .i64 d.Amt] rfl
  replace e_w3 : ((w2.setCell ⟨w.heap.size + 1, 0, none⟩ (.int .i64 d.Node)).setCell ⟨w.heap.size + 1, 1, none⟩ (.int .i64 d.Amt)) = w3 := e_w3
  have s_w3_1 := Nat.le_of_eq s_w3
  have s_w3_2 := Nat.le_of_eq s_w3.symm
  clear s_w3
  replace x_a := x_a.chg h_w3 (by omega)
  replace x_out := x_out.chg h_w3 (by omega)
  have B_w3 := Below.chg_ B_w2 h_w3 (by omega) (by omega)
  replace x_r : Vr w3 (w.heap.size + 1) 57 [.int .i64 d.Node, .int .i64 d.Amt] := y
  clear y
  have c_r_0_w3 := x_r.cell (i := 0) rfl
  have f_r_0_w3 := x_r.frozen 0
  have c_r_1_w3 := x_r.cell (i := 1) rfl
  have f_r_1_w3 := x_r.frozen 1
  go_wp2
  refine ret_cell (by rfl) (by rfl) x_r Try.underlying57 sz_rep (by rfl) ?_
  exact ⟨_, rfl, ov_rep (by omega), B_w3⟩

set_option maxHeartbeats 1000000 in
theorem eqRep_same {w : World} {v v' : Value} {d : MRep} (h : RV repL w v d) (h' : RV repL w v' d) : Calls Try.prog 84 #[v, v'] w fun e w' => e = .returned (.bool true) ∧ Below w.heap.size w w' := by
  obtain rfl := rv_rep h
  obtain rfl := rv_rep h'
  obtain ⟨wa, hwa, B0, sa, x_a, x_b⟩ := frame2 w 57 [.int .i64 d.Node, .int .i64 d.Amt] 57 [.int .i64 d.Node, .int .i64 d.Amt]
  have sa_1 := Nat.le_of_eq sa
  have sa_2 := Nat.le_of_eq sa.symm
  clear sa
  have c_a_0_wa := x_a.cell (i := 0) rfl
  have c_a_1_wa := x_a.cell (i := 1) rfl
  have c_b_0_wa := x_b.cell (i := 0) rfl
  have c_b_1_wa := x_b.cell (i := 1) rfl
  go_enter Try.func84, Try.ntmps84
  go_wp2
  go_ret
  exact ⟨rfl, B0⟩

end Go.Proofs.Ytopmojfcdmcmbaa
