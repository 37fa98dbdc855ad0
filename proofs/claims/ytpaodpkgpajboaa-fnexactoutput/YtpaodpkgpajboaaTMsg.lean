/- The type Msg: its model, its layout, and the contracts of the laws' own helpers on it. Laid by a program of ours (typegen.py). -/
import Derived.Test.YtpaodpkgpajboaaProg
import Derived.Test.YtpaodpkgpajboaaVars
namespace Go.Proofs.Ytpaodpkgpajboaa
open Go.RowKit
set_option linter.unusedVariables false

structure MMsg where
  Kind : Int
  Acct : Int
  Amt : Int
  Src : Int

def msgL : Lay MMsg := isoL (fun d => (d.Kind, d.Acct, d.Amt, d.Src)) (consL (intL .i64) (consL (intL .i64) (consL (intL .i64) (intL .i64))))

theorem sz_msg : (Try.prog.info? 29).map (·.size) = some 4 := by kernel_rfl

/-- how many values lie behind it -/
def MMsg.bulk (d : MMsg) : Nat := 0

/-- what a marking from k on makes of it -/
def MMsg.mark (d : MMsg) (k : Int) : MMsg := ⟨d.Kind, d.Acct, d.Amt, d.Src⟩

theorem rv_msg {w : World} {v : Value} {d : MMsg} (h : RV msgL w v d) : v = .agg #[.int .i64 d.Kind, .int .i64 d.Acct, .int .i64 d.Amt, .int .i64 d.Src] := by
  obtain ⟨cs, rfl, hcs⟩ := h
  obtain ⟨_, _, rfl, rfl, ⟨_, _, rfl, rfl, ⟨_, _, rfl, rfl, rfl⟩⟩⟩ := hcs
  rfl

theorem cs_msg {w : World} {B : Nat} {cs : List Value} {d : MMsg} (h : msgL.rd w B cs d) : cs = [.int .i64 d.Kind, .int .i64 d.Acct, .int .i64 d.Amt, .int .i64 d.Src] := by
  obtain ⟨_, _, rfl, rfl, ⟨_, _, rfl, rfl, ⟨_, _, rfl, rfl, rfl⟩⟩⟩ := h
  rfl

theorem rv_msg_mk {w : World} {zKind : Int} {zAcct : Int} {zAmt : Int} {zSrc : Int} : RV msgL w (.agg #[.int .i64 zKind, .int .i64 zAcct, .int .i64 zAmt, .int .i64 zSrc]) ⟨zKind, zAcct, zAmt, zSrc⟩ := by
  exact ⟨_, rfl, [_], _, rfl, rfl, [_], _, rfl, rfl, [_], _, rfl, rfl, rfl⟩

theorem ovp_msg {w : World} {d : MMsg} {lo hi : Nat} (hc : hi ≤ w.heap.size) : OVp msgL w (fun j => lo ≤ j ∧ j < hi) [.int .i64 d.Kind, .int .i64 d.Acct, .int .i64 d.Amt, .int .i64 d.Src] d := by
  have h : OVp msgL w _ [.int .i64 d.Kind, .int .i64 d.Acct, .int .i64 d.Amt, .int .i64 d.Src] d := OVp.iso (f := fun d : MMsg => (d.Kind, d.Acct, d.Amt, d.Src)) (OVp.cons1 (OVp.cons1 (OVp.cons1 OVp.one)))
  exact h.imp (fun _ h => h.elim)

theorem ov_msg {w : World} {d : MMsg} {lo hi : Nat} (hc : hi ≤ w.heap.size) : OV msgL w lo hi (.agg #[.int .i64 d.Kind, .int .i64 d.Acct, .int .i64 d.Amt, .int .i64 d.Src]) d :=
  (ovp_msg (lo := lo) (hi := hi) hc).ov (fun _ h => h) hc

set_option maxHeartbeats 1000000 in
theorem toMsg_c {w : World} {v : Value} {d : MMsg} (h : RV msgL w v d) : Calls Try.prog 31 #[v] w (NewV msgL w d) := by
  obtain rfl := rv_msg h
  obtain ⟨wa, hwa, B0, sa, x_a, x_r, x_out⟩ := frame3 w 51 [.int .i64 d.Kind, .int .i64 d.Acct, .int .i64 d.Amt, .int .i64 d.Src] 29 [.int .i64 0, .int .i64 0, .int .i64 0, .int .i64 0] 29 [.int .i64 0, .int .i64 0, .int .i64 0, .int .i64 0]
  have sa_1 := Nat.le_of_eq sa
  have sa_2 := Nat.le_of_eq sa.symm
  clear sa
  have c_a_0_wa := x_a.cell (i := 0) rfl
  have f_a_0_wa := x_a.frozen 0
  have c_a_1_wa := x_a.cell (i := 1) rfl
  have f_a_1_wa := x_a.frozen 1
  have c_a_2_wa := x_a.cell (i := 2) rfl
  have f_a_2_wa := x_a.frozen 2
  have c_a_3_wa := x_a.cell (i := 3) rfl
  have f_a_3_wa := x_a.frozen 3
  have c_out_0_wa := x_out.cell (i := 0) rfl
  have f_out_0_wa := x_out.frozen 0
  have c_out_1_wa := x_out.cell (i := 1) rfl
  have f_out_1_wa := x_out.frozen 1
  have c_out_2_wa := x_out.cell (i := 2) rfl
  have f_out_2_wa := x_out.frozen 2
  have c_out_3_wa := x_out.cell (i := 3) rfl
  have f_out_3_wa := x_out.frozen 3
  go_enter Try.func31, Try.ntmps31
  have c_r_0_wa := x_r.cell (i := 0) rfl
  have f_r_0_wa := x_r.frozen 0
  have c_r_1_wa := x_r.cell (i := 1) rfl
  have f_r_1_wa := x_r.frozen 1
  have c_r_2_wa := x_r.cell (i := 2) rfl
  have f_r_2_wa := x_r.frozen 2
  have c_r_3_wa := x_r.cell (i := 3) rfl
  have f_r_3_wa := x_r.frozen 3
  obtain ⟨w1, e_w1, s_w1, h_w1, y⟩ := set_step x_out 0 (.int .i64 d.Kind)
  have s_w1_1 := Nat.le_of_eq s_w1
  have s_w1_2 := Nat.le_of_eq s_w1.symm
  clear s_w1
  replace x_a := x_a.chg h_w1 (by omega)
  replace x_r := x_r.chg h_w1 (by omega)
  have B_w1 := Below.chg_ B0 h_w1 (by omega) (by omega)
  replace x_out : Vr w1 (w.heap.size + 1 + 1) 29 [.int .i64 d.Kind, .int .i64 0, .int .i64 0, .int .i64 0] := y
  clear y
  have c_a_0_w1 := x_a.cell (i := 0) rfl
  have f_a_0_w1 := x_a.frozen 0
  have c_a_1_w1 := x_a.cell (i := 1) rfl
  have f_a_1_w1 := x_a.frozen 1
  have c_a_2_w1 := x_a.cell (i := 2) rfl
  have f_a_2_w1 := x_a.frozen 2
  have c_a_3_w1 := x_a.cell (i := 3) rfl
  have f_a_3_w1 := x_a.frozen 3
  have c_out_0_w1 := x_out.cell (i := 0) rfl
  have f_out_0_w1 := x_out.frozen 0
  have c_out_1_w1 := x_out.cell (i := 1) rfl
  have f_out_1_w1 := x_out.frozen 1
  have c_out_2_w1 := x_out.cell (i := 2) rfl
  have f_out_2_w1 := x_out.frozen 2
  have c_out_3_w1 := x_out.cell (i := 3) rfl
  have f_out_3_w1 := x_out.frozen 3
  have c_r_0_w1 := x_r.cell (i := 0) rfl
  have f_r_0_w1 := x_r.frozen 0
  have c_r_1_w1 := x_r.cell (i := 1) rfl
  have f_r_1_w1 := x_r.frozen 1
  have c_r_2_w1 := x_r.cell (i := 2) rfl
  have f_r_2_w1 := x_r.frozen 2
  have c_r_3_w1 := x_r.cell (i := 3) rfl
  have f_r_3_w1 := x_r.frozen 3
  obtain ⟨w2, e_w2, s_w2, h_w2, y⟩ := set_step x_out 1 (.int .i64 d.Acct)
  have s_w2_1 := Nat.le_of_eq s_w2
  have s_w2_2 := Nat.le_of_eq s_w2.symm
  clear s_w2
  replace x_a := x_a.chg h_w2 (by omega)
  replace x_r := x_r.chg h_w2 (by omega)
  have B_w2 := Below.chg_ B_w1 h_w2 (by omega) (by omega)
  replace x_out : Vr w2 (w.heap.size + 1 + 1) 29 [.int .i64 d.Kind, .int .i64 d.Acct, .int .i64 0, .int .i64 0] := y
  clear y
  have c_a_0_w2 := x_a.cell (i := 0) rfl
  have f_a_0_w2 := x_a.frozen 0
  have c_a_1_w2 := x_a.cell (i := 1) rfl
  have f_a_1_w2 := x_a.frozen 1
  have c_a_2_w2 := x_a.cell (i := 2) rfl
  have f_a_2_w2 := x_a.frozen 2
  have c_a_3_w2 := x_a.cell (i := 3) rfl
  have f_a_3_w2 := x_a.frozen 3
  have c_out_0_w2 := x_out.cell (i := 0) rfl
  have f_out_0_w2 := x_out.frozen 0
  have c_out_1_w2 := x_out.cell (i := 1) rfl
  have f_out_1_w2 := x_out.frozen 1
  have c_out_2_w2 := x_out.cell (i := 2) rfl
  have f_out_2_w2 := x_out.frozen 2
  have c_out_3_w2 := x_out.cell (i := 3) rfl
  have f_out_3_w2 := x_out.frozen 3
  have c_r_0_w2 := x_r.cell (i := 0) rfl
  have f_r_0_w2 := x_r.frozen 0
  have c_r_1_w2 := x_r.cell (i := 1) rfl
  have f_r_1_w2 := x_r.frozen 1
  have c_r_2_w2 := x_r.cell (i := 2) rfl
  have f_r_2_w2 := x_r.frozen 2
  have c_r_3_w2 := x_r.cell (i := 3) rfl
  have f_r_3_w2 := x_r.frozen 3
  obtain ⟨w3, e_w3, s_w3, h_w3, y⟩ := set_step x_out 2 (.int .i64 d.Amt)
  have s_w3_1 := Nat.le_of_eq s_w3
  have s_w3_2 := Nat.le_of_eq s_w3.symm
  clear s_w3
  replace x_a := x_a.chg h_w3 (by omega)
  replace x_r := x_r.chg h_w3 (by omega)
  have B_w3 := Below.chg_ B_w2 h_w3 (by omega) (by omega)
  replace x_out : Vr w3 (w.heap.size + 1 + 1) 29 [.int .i64 d.Kind, .int .i64 d.Acct, .int .i64 d.Amt, .int .i64 0] := y
  clear y
  have c_a_0_w3 := x_a.cell (i := 0) rfl
  have f_a_0_w3 := x_a.frozen 0
  have c_a_1_w3 := x_a.cell (i := 1) rfl
  have f_a_1_w3 := x_a.frozen 1
  have c_a_2_w3 := x_a.cell (i := 2) rfl
  have f_a_2_w3 := x_a.frozen 2
  have c_a_3_w3 := x_a.cell (i := 3) rfl
  have f_a_3_w3 := x_a.frozen 3
  have c_out_0_w3 := x_out.cell (i := 0) rfl
  have f_out_0_w3 := x_out.frozen 0
  have c_out_1_w3 := x_out.cell (i := 1) rfl
  have f_out_1_w3 := x_out.frozen 1
  have c_out_2_w3 := x_out.cell (i := 2) rfl
  have f_out_2_w3 := x_out.frozen 2
  have c_out_3_w3 := x_out.cell (i := 3) rfl
  have f_out_3_w3 := x_out.frozen 3
  have c_r_0_w3 := x_r.cell (i := 0) rfl
  have f_r_0_w3 := x_r.frozen 0
  have c_r_1_w3 := x_r.cell (i := 1) rfl
  have f_r_1_w3 := x_r.frozen 1
  have c_r_2_w3 := x_r.cell (i := 2) rfl
  have f_r_2_w3 := x_r.frozen 2
  have c_r_3_w3 := x_r.cell (i := 3) rfl
  have f_r_3_w3 := x_r.frozen 3
  obtain ⟨w4, e_w4, s_w4, h_w4, y⟩ := set_step x_out 3 (.int .i64 d.Src)
  have s_w4_1 := Nat.le_of_eq s_w4
  have s_w4_2 := Nat.le_of_eq s_w4.symm
  clear s_w4
  replace x_a := x_a.chg h_w4 (by omega)
  replace x_r := x_r.chg h_w4 (by omega)
  have B_w4 := Below.chg_ B_w3 h_w4 (by omega) (by omega)
  replace x_out : Vr w4 (w.heap.size + 1 + 1) 29 [.int .i64 d.Kind, .int .i64 d.Acct, .int .i64 d.Amt, .int .i64 d.Src] := y
  clear y
  have c_a_0_w4 := x_a.cell (i := 0) rfl
  have f_a_0_w4 := x_a.frozen 0
  have c_a_1_w4 := x_a.cell (i := 1) rfl
  have f_a_1_w4 := x_a.frozen 1
  have c_a_2_w4 := x_a.cell (i := 2) rfl
  have f_a_2_w4 := x_a.frozen 2
  have c_a_3_w4 := x_a.cell (i := 3) rfl
  have f_a_3_w4 := x_a.frozen 3
  have c_out_0_w4 := x_out.cell (i := 0) rfl
  have f_out_0_w4 := x_out.frozen 0
  have c_out_1_w4 := x_out.cell (i := 1) rfl
  have f_out_1_w4 := x_out.frozen 1
  have c_out_2_w4 := x_out.cell (i := 2) rfl
  have f_out_2_w4 := x_out.frozen 2
  have c_out_3_w4 := x_out.cell (i := 3) rfl
  have f_out_3_w4 := x_out.frozen 3
  have c_r_0_w4 := x_r.cell (i := 0) rfl
  have f_r_0_w4 := x_r.frozen 0
  have c_r_1_w4 := x_r.cell (i := 1) rfl
  have f_r_1_w4 := x_r.frozen 1
  have c_r_2_w4 := x_r.cell (i := 2) rfl
  have f_r_2_w4 := x_r.frozen 2
  have c_r_3_w4 := x_r.cell (i := 3) rfl
  have f_r_3_w4 := x_r.frozen 3
  obtain ⟨w5, e_w5, s_w5, h_w5, y⟩ := store_step x_r [.int .i64 d.Kind, .int .i64 d.Acct, .int .i64 d.Amt, .int .i64 d.Src] rfl
  replace e_w5 : ((((w4.setCell ⟨w.heap.size + 1, 0, none⟩ (.int .i64 d.Kind)).setCell ⟨w.heap.size + 1, 1, none⟩ (.int .i64 d.Acct)).setCell ⟨w.heap.size + 1, 2, none⟩ (.int .i64 d.Amt)).setCell ⟨w.heap.size + 1, 3, none⟩ (.int .i64 d.Src)) = w5 := e_w5
  have s_w5_1 := Nat.le_of_eq s_w5
  have s_w5_2 := Nat.le_of_eq s_w5.symm
  clear s_w5
  replace x_a := x_a.chg h_w5 (by omega)
  replace x_out := x_out.chg h_w5 (by omega)
  have B_w5 := Below.chg_ B_w4 h_w5 (by omega) (by omega)
  replace x_r : Vr w5 (w.heap.size + 1) 29 [.int .i64 d.Kind, .int .i64 d.Acct, .int .i64 d.Amt, .int .i64 d.Src] := y
  clear y
  have c_r_0_w5 := x_r.cell (i := 0) rfl
  have f_r_0_w5 := x_r.frozen 0
  have c_r_1_w5 := x_r.cell (i := 1) rfl
  have f_r_1_w5 := x_r.frozen 1
  have c_r_2_w5 := x_r.cell (i := 2) rfl
  have f_r_2_w5 := x_r.frozen 2
  have c_r_3_w5 := x_r.cell (i := 3) rfl
  have f_r_3_w5 := x_r.frozen 3
  go_wp2
  refine ret_cell (by rfl) (by rfl) x_r Try.underlying29 sz_msg (by rfl) ?_
  exact ⟨_, rfl, ov_msg (by omega), B_w5⟩

set_option maxHeartbeats 1000000 in
theorem eqMsg_same {w : World} {v v' : Value} {d : MMsg} (h : RV msgL w v d) (h' : RV msgL w v' d) : Calls Try.prog 34 #[v, v'] w fun e w' => e = .returned (.bool true) ∧ Below w.heap.size w w' := by
  obtain rfl := rv_msg h
  obtain rfl := rv_msg h'
  obtain ⟨wa, hwa, B0, sa, x_a, x_b⟩ := frame2 w 29 [.int .i64 d.Kind, .int .i64 d.Acct, .int .i64 d.Amt, .int .i64 d.Src] 29 [.int .i64 d.Kind, .int .i64 d.Acct, .int .i64 d.Amt, .int .i64 d.Src]
  have sa_1 := Nat.le_of_eq sa
  have sa_2 := Nat.le_of_eq sa.symm
  clear sa
  have c_a_0_wa := x_a.cell (i := 0) rfl
  have c_a_1_wa := x_a.cell (i := 1) rfl
  have c_a_2_wa := x_a.cell (i := 2) rfl
  have c_a_3_wa := x_a.cell (i := 3) rfl
  have c_b_0_wa := x_b.cell (i := 0) rfl
  have c_b_1_wa := x_b.cell (i := 1) rfl
  have c_b_2_wa := x_b.cell (i := 2) rfl
  have c_b_3_wa := x_b.cell (i := 3) rfl
  go_enter Try.func34, Try.ntmps34
  go_wp2
  go_ret
  exact ⟨rfl, B0⟩

end Go.Proofs.Ytpaodpkgpajboaa
