/- The type Acc: its model, its layout, and the contracts of the laws' own helpers on it. Laid by a program of ours (typegen.py). -/
import Derived.Test.YtaoedgcdcimibaaProg
import Derived.Test.YtaoedgcdcimibaaVars
namespace Go.Proofs.Ytaoedgcdcimibaa
open Go.RowKit
set_option linter.unusedVariables false

structure MAcc where
  Prom : Int
  Bal : Int
  Val : Int

def accL : Lay MAcc := isoL (fun d => (d.Prom, d.Bal, d.Val)) (consL (intL .i64) (consL (intL .i64) (intL .i64)))

theorem sz_acc : (Try.prog.info? 33).map (·.size) = some 3 := by kernel_rfl

/-- how many values lie behind it -/
def MAcc.bulk (d : MAcc) : Nat := 0

/-- what a marking from k on makes of it -/
def MAcc.mark (d : MAcc) (k : Int) : MAcc := ⟨d.Prom, d.Bal, d.Val⟩

theorem rv_acc {w : World} {v : Value} {d : MAcc} (h : RV accL w v d) : v = .agg #[.int .i64 d.Prom, .int .i64 d.Bal, .int .i64 d.Val] := by
  obtain ⟨cs, rfl, hcs⟩ := h
  obtain ⟨_, _, rfl, rfl, ⟨_, _, rfl, rfl, rfl⟩⟩ := hcs
  rfl

theorem cs_acc {w : World} {B : Nat} {cs : List Value} {d : MAcc} (h : accL.rd w B cs d) : cs = [.int .i64 d.Prom, .int .i64 d.Bal, .int .i64 d.Val] := by
  obtain ⟨_, _, rfl, rfl, ⟨_, _, rfl, rfl, rfl⟩⟩ := h
  rfl

theorem rv_acc_mk {w : World} {zProm : Int} {zBal : Int} {zVal : Int} : RV accL w (.agg #[.int .i64 zProm, .int .i64 zBal, .int .i64 zVal]) ⟨zProm, zBal, zVal⟩ := by
  exact ⟨_, rfl, [_], _, rfl, rfl, [_], _, rfl, rfl, rfl⟩

theorem ovp_acc {w : World} {d : MAcc} {lo hi : Nat} (hc : hi ≤ w.heap.size) : OVp accL w (fun j => lo ≤ j ∧ j < hi) [.int .i64 d.Prom, .int .i64 d.Bal, .int .i64 d.Val] d := by
  have h : OVp accL w _ [.int .i64 d.Prom, .int .i64 d.Bal, .int .i64 d.Val] d := OVp.iso (f := fun d : MAcc => (d.Prom, d.Bal, d.Val)) (OVp.cons1 (OVp.cons1 OVp.one))
  exact h.imp (fun _ h => h.elim)

theorem ov_acc {w : World} {d : MAcc} {lo hi : Nat} (hc : hi ≤ w.heap.size) : OV accL w lo hi (.agg #[.int .i64 d.Prom, .int .i64 d.Bal, .int .i64 d.Val]) d :=
  (ovp_acc (lo := lo) (hi := hi) hc).ov (fun _ h => h) hc

set_option maxHeartbeats 1000000 in
theorem toAcc_c {w : World} {v : Value} {d : MAcc} (h : RV accL w v d) : Calls Try.prog 31 #[v] w (NewV accL w d) := by
  obtain rfl := rv_acc h
  obtain ⟨wa, hwa, B0, sa, x_a, x_r, x_out⟩ := frame3 w 44 [.int .i64 d.Prom, .int .i64 d.Bal, .int .i64 d.Val] 33 [.int .i64 0, .int .i64 0, .int .i64 0] 33 [.int .i64 0, .int .i64 0, .int .i64 0]
  have sa_1 := Nat.le_of_eq sa
  have sa_2 := Nat.le_of_eq sa.symm
  clear sa
  have c_a_0_wa := x_a.cell (i := 0) rfl
  have f_a_0_wa := x_a.frozen 0
  have c_a_1_wa := x_a.cell (i := 1) rfl
  have f_a_1_wa := x_a.frozen 1
  have c_a_2_wa := x_a.cell (i := 2) rfl
  have f_a_2_wa := x_a.frozen 2
  have c_out_0_wa := x_out.cell (i := 0) rfl
  have f_out_0_wa := x_out.frozen 0
  have c_out_1_wa := x_out.cell (i := 1) rfl
  have f_out_1_wa := x_out.frozen 1
  have c_out_2_wa := x_out.cell (i := 2) rfl
  have f_out_2_wa := x_out.frozen 2
  go_enter Try.func31, Try.ntmps31
  have c_r_0_wa := x_r.cell (i := 0) rfl
  have f_r_0_wa := x_r.frozen 0
  have c_r_1_wa := x_r.cell (i := 1) rfl
  have f_r_1_wa := x_r.frozen 1
  have c_r_2_wa := x_r.cell (i := 2) rfl
  have f_r_2_wa := x_r.frozen 2
  obtain ⟨w1, e_w1, s_w1, h_w1, y⟩ := set_step x_out 0 (.int .i64 d.Prom)
  have s_w1_1 := Nat.le_of_eq s_w1
  have s_w1_2 := Nat.le_of_eq s_w1.symm
  clear s_w1
  replace x_a := x_a.chg h_w1 (by omega)
  replace x_r := x_r.chg h_w1 (by omega)
  have B_w1 := Below.chg_ B0 h_w1 (by omega) (by omega)
  replace x_out : Vr w1 (w.heap.size + 1 + 1) 33 [.int .i64 d.Prom, .int .i64 0, .int .i64 0] := y
  clear y
  have c_a_0_w1 := x_a.cell (i := 0) rfl
  have f_a_0_w1 := x_a.frozen 0
  have c_a_1_w1 := x_a.cell (i := 1) rfl
  have f_a_1_w1 := x_a.frozen 1
  have c_a_2_w1 := x_a.cell (i := 2) rfl
  have f_a_2_w1 := x_a.frozen 2
  have c_out_0_w1 := x_out.cell (i := 0) rfl
  have f_out_0_w1 := x_out.frozen 0
  have c_out_1_w1 := x_out.cell (i := 1) rfl
  have f_out_1_w1 := x_out.frozen 1
  have c_out_2_w1 := x_out.cell (i := 2) rfl
  have f_out_2_w1 := x_out.frozen 2
  have c_r_0_w1 := x_r.cell (i := 0) rfl
  have f_r_0_w1 := x_r.frozen 0
  have c_r_1_w1 := x_r.cell (i := 1) rfl
  have f_r_1_w1 := x_r.frozen 1
  have c_r_2_w1 := x_r.cell (i := 2) rfl
  have f_r_2_w1 := x_r.frozen 2
  obtain ⟨w2, e_w2, s_w2, h_w2, y⟩ := set_step x_out 1 (.int .i64 d.Bal)
  have s_w2_1 := Nat.le_of_eq s_w2
  have s_w2_2 := Nat.le_of_eq s_w2.symm
  clear s_w2
  replace x_a := x_a.chg h_w2 (by omega)
  replace x_r := x_r.chg h_w2 (by omega)
  have B_w2 := Below.chg_ B_w1 h_w2 (by omega) (by omega)
  replace x_out : Vr w2 (w.heap.size + 1 + 1) 33 [.int .i64 d.Prom, .int .i64 d.Bal, .int .i64 0] := y
  clear y
  have c_a_0_w2 := x_a.cell (i := 0) rfl
  have f_a_0_w2 := x_a.frozen 0
  have c_a_1_w2 := x_a.cell (i := 1) rfl
  have f_a_1_w2 := x_a.frozen 1
  have c_a_2_w2 := x_a.cell (i := 2) rfl
  have f_a_2_w2 := x_a.frozen 2
  have c_out_0_w2 := x_out.cell (i := 0) rfl
  have f_out_0_w2 := x_out.frozen 0
  have c_out_1_w2 := x_out.cell (i := 1) rfl
  have f_out_1_w2 := x_out.frozen 1
  have c_out_2_w2 := x_out.cell (i := 2) rfl
  have f_out_2_w2 := x_out.frozen 2
  have c_r_0_w2 := x_r.cell (i := 0) rfl
  have f_r_0_w2 := x_r.frozen 0
  have c_r_1_w2 := x_r.cell (i := 1) rfl
  have f_r_1_w2 := x_r.frozen 1
  have c_r_2_w2 := x_r.cell (i := 2) rfl
  have f_r_2_w2 := x_r.frozen 2
  obtain ⟨w3, e_w3, s_w3, h_w3, y⟩ := set_step x_out 2 (.int .i64 d.Val)
  have s_w3_1 := Nat.le_of_eq s_w3
  have s_w3_2 := Nat.le_of_eq s_w3.symm
  clear s_w3
  replace x_a := x_a.chg h_w3 (by omega)
  replace x_r := x_r.chg h_w3 (by omega)
  have B_w3 := Below.chg_ B_w2 h_w3 (by omega) (by omega)
  replace x_out : Vr w3 (w.heap.size + 1 + 1) 33 [.int .i64 d.Prom, .int .i64 d.Bal, .int .i64 d.Val] := y
  clear y
  have c_a_0_w3 := x_a.cell (i := 0) rfl
  have f_a_0_w3 := x_a.frozen 0
  have c_a_1_w3 := x_a.cell (i := 1) rfl
  have f_a_1_w3 := x_a.frozen 1
  have c_a_2_w3 := x_a.cell (i := 2) rfl
  have f_a_2_w3 := x_a.frozen 2
  have c_out_0_w3 := x_out.cell (i := 0) rfl
  have f_out_0_w3 := x_out.frozen 0
  have c_out_1_w3 := x_out.cell (i := 1) rfl
  have f_out_1_w3 := x_out.frozen 1
  have c_out_2_w3 := x_out.cell (i := 2) rfl
  have f_out_2_w3 := x_out.frozen 2
  have c_r_0_w3 := x_r.cell (i := 0) rfl
  have f_r_0_w3 := x_r.frozen 0
  have c_r_1_w3 := x_r.cell (i := 1) rfl
  have f_r_1_w3 := x_r.frozen 1
  have c_r_2_w3 := x_r.cell (i := 2) rfl
  have f_r_2_w3 := x_r.frozen 2
  obtain ⟨w4, e_w4, s_w4, h_w4, y⟩ := store_step x_r [.int .i64 d.Prom, .int .i64 d.Bal, .int .i64 d.Val] rfl
  replace e_w4 : (((w3.setCell ⟨w.heap.size + 1, 0, none⟩ (.int .i64 d.Prom)).setCell ⟨w.heap.size + 1, 1, none⟩ (.int .i64 d.Bal)).setCell ⟨w.heap.size + 1, 2, none⟩ (.int .i64 d.Val)) = w4 := e_w4
  have s_w4_1 := Nat.le_of_eq s_w4
  have s_w4_2 := Nat.le_of_eq s_w4.symm
  clear s_w4
  replace x_a := x_a.chg h_w4 (by omega)
  replace x_out := x_out.chg h_w4 (by omega)
  have B_w4 := Below.chg_ B_w3 h_w4 (by omega) (by omega)
  replace x_r : Vr w4 (w.heap.size + 1) 33 [.int .i64 d.Prom, .int .i64 d.Bal, .int .i64 d.Val] := y
  clear y
  have c_r_0_w4 := x_r.cell (i := 0) rfl
  have f_r_0_w4 := x_r.frozen 0
  have c_r_1_w4 := x_r.cell (i := 1) rfl
  have f_r_1_w4 := x_r.frozen 1
  have c_r_2_w4 := x_r.cell (i := 2) rfl
  have f_r_2_w4 := x_r.frozen 2
  go_wp2
  refine ret_cell (by rfl) (by rfl) x_r Try.underlying33 sz_acc (by rfl) ?_
  exact ⟨_, rfl, ov_acc (by omega), B_w4⟩

set_option maxHeartbeats 1000000 in
theorem eqAcc_same {w : World} {v v' : Value} {d : MAcc} (h : RV accL w v d) (h' : RV accL w v' d) : Calls Try.prog 33 #[v, v'] w fun e w' => e = .returned (.bool true) ∧ Below w.heap.size w w' := by
  obtain rfl := rv_acc h
  obtain rfl := rv_acc h'
  obtain ⟨wa, hwa, B0, sa, x_a, x_b⟩ := frame2 w 33 [.int .i64 d.Prom, .int .i64 d.Bal, .int .i64 d.Val] 33 [.int .i64 d.Prom, .int .i64 d.Bal, .int .i64 d.Val]
  have sa_1 := Nat.le_of_eq sa
  have sa_2 := Nat.le_of_eq sa.symm
  clear sa
  have c_a_0_wa := x_a.cell (i := 0) rfl
  have c_a_1_wa := x_a.cell (i := 1) rfl
  have c_a_2_wa := x_a.cell (i := 2) rfl
  have c_b_0_wa := x_b.cell (i := 0) rfl
  have c_b_1_wa := x_b.cell (i := 1) rfl
  have c_b_2_wa := x_b.cell (i := 2) rfl
  go_enter Try.func33, Try.ntmps33
  go_wp2
  go_ret
  exact ⟨rfl, B0⟩

end Go.Proofs.Ytaoedgcdcimibaa
