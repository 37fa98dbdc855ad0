/- Texts joined: TMsg, TRec, Msg1, MsgEq, Rc0, Rc1, PutNums, Msg2, Msg3, SameBytes. -/
import Derived.Test.YtkbhbccpmmhelaaProg
import Derived.Test.YtkbhbccpmmhelaaBunA
import Derived.Laws.StructEq
import Derived.Deep.RegionHeld3

namespace Go.Proofs.Ytkbhbccpmmhelaa
open Go.RowKit
set_option linter.unusedVariables false

structure MMsg where
  Kind : Int
  Acct : Int
  Amt : Int
  Src : Int

def msgL : Lay MMsg := isoL (fun d => (d.Kind, d.Acct, d.Amt, d.Src)) (consL (intL .i64) (consL (intL .i64) (consL (intL .i64) (intL .i64))))

theorem sz_msg : (Try.prog.info? 27).map (·.size) = some 4 := by kernel_rfl

/-- how many values lie behind it -/
def MMsg.bulk (d : MMsg) : Nat := 0

/-- what a marking from k on makes of it -/
def MMsg.mark (d : MMsg) (k : Int) : MMsg := ⟨d.Kind, d.Acct, d.Amt, d.Src⟩

theorem rv_msg {w : World} {v : Value} {d : MMsg} (h : RV msgL w v d) : v = .agg #[.int .i64 d.Kind, .int .i64 d.Acct, .int .i64 d.Amt, .int .i64 d.Src] := by
  obtain ⟨cs, rfl, hcs⟩ := h
  obtain ⟨_, _, rfl, rfl, ⟨_, _, rfl, rfl, ⟨_, _, rfl, rfl, rfl⟩⟩⟩ := hcs
  rfl

theorem cs_msg {w : World} {B : Nat} {cs : List Value} {d : MMsg} (h : msgL.rd w B cs d) : cs = [.int .i64 d.Kind, .int .i64 d.Acct, .int .i64 d.Amt, .int .i64 d.Src] := by
  obtain ⟨_, _, rfl, rfl, ⟨_, _, rfl, rfl, ⟨_, _, rfl, rfl, rfl⟩⟩⟩ := h
  rfl

theorem rv_msg_mk {w : World} {zKind : Int} {zAcct : Int} {zAmt : Int} {zSrc : Int} : RV msgL w (.agg #[.int .i64 zKind, .int .i64 zAcct, .int .i64 zAmt, .int .i64 zSrc]) ⟨zKind, zAcct, zAmt, zSrc⟩ := by
  exact ⟨_, rfl, [_], _, rfl, rfl, [_], _, rfl, rfl, [_], _, rfl, rfl, rfl⟩

theorem ovp_msg {w : World} {d : MMsg} {lo hi : Nat} (hc : hi ≤ w.heap.size) : OVp msgL w (fun j => lo ≤ j ∧ j < hi) [.int .i64 d.Kind, .int .i64 d.Acct, .int .i64 d.Amt, .int .i64 d.Src] d := by
  have h : OVp msgL w _ [.int .i64 d.Kind, .int .i64 d.Acct, .int .i64 d.Amt, .int .i64 d.Src] d := OVp.iso (f := fun d : MMsg => (d.Kind, d.Acct, d.Amt, d.Src)) (OVp.cons1 (OVp.cons1 (OVp.cons1 OVp.one)))
  exact h.imp (fun _ h => h.elim)

theorem ov_msg {w : World} {d : MMsg} {lo hi : Nat} (hc : hi ≤ w.heap.size) : OV msgL w lo hi (.agg #[.int .i64 d.Kind, .int .i64 d.Acct, .int .i64 d.Amt, .int .i64 d.Src]) d :=
  (ovp_msg (lo := lo) (hi := hi) hc).ov (fun _ h => h) hc

set_option maxHeartbeats 1000000 in
theorem toMsg_c {w : World} {v : Value} {d : MMsg} (h : RV msgL w v d) : Calls Try.prog 27 #[v] w (NewV msgL w d) := by
  obtain rfl := rv_msg h
  obtain ⟨wa, hwa, B0, sa, x_a, x_r, x_out⟩ := frame3 w 23 [.int .i64 d.Kind, .int .i64 d.Acct, .int .i64 d.Amt, .int .i64 d.Src] 27 [.int .i64 0, .int .i64 0, .int .i64 0, .int .i64 0] 27 [.int .i64 0, .int .i64 0, .int .i64 0, .int .i64 0]
  have sa_1 := Nat.le_of_eq sa
  have sa_2 := Nat.le_of_eq sa.symm
  clear sa
  have c_a_0_wa := x_a.cell (i := 0) rfl
  have f_a_0_wa := x_a.frozen 0
  have c_a_1_wa := x_a.cell (i := 1) rfl
  have f_a_1_wa := x_a.frozen 1
  have c_a_2_wa := x_a.cell (i := 2) rfl
  have f_a_2_wa := x_a.frozen 2
  have c_a_3_wa := x_a.cell (i := 3) rfl
  have f_a_3_wa := x_a.frozen 3
  have c_out_0_wa := x_out.cell (i := 0) rfl
  have f_out_0_wa := x_out.frozen 0
  have c_out_1_wa := x_out.cell (i := 1) rfl
  have f_out_1_wa := x_out.frozen 1
  have c_out_2_wa := x_out.cell (i := 2) rfl
  have f_out_2_wa := x_out.frozen 2
  have c_out_3_wa := x_out.cell (i := 3) rfl
  have f_out_3_wa := x_out.frozen 3
  go_enter Try.func27, Try.ntmps27
  have c_r_0_wa := x_r.cell (i := 0) rfl
  have f_r_0_wa := x_r.frozen 0
  have c_r_1_wa := x_r.cell (i := 1) rfl
  have f_r_1_wa := x_r.frozen 1
  have c_r_2_wa := x_r.cell (i := 2) rfl
  have f_r_2_wa := x_r.frozen 2
  have c_r_3_wa := x_r.cell (i := 3) rfl
  have f_r_3_wa := x_r.frozen 3
  obtain ⟨w1, e_w1, s_w1, h_w1, y⟩ := set_step x_out 0 (.int .i64 d.Kind)
  have s_w1_1 := Nat.le_of_eq s_w1
  have s_w1_2 := Nat.le_of_eq s_w1.symm
  clear s_w1
  replace x_a := x_a.chg h_w1 (by omega)
  replace x_r := x_r.chg h_w1 (by omega)
  have B_w1 := Below.chg_ B0 h_w1 (by omega) (by omega)
  replace x_out : Vr w1 (w.heap.size + 1 + 1) 27 [.int .i64 d.Kind, .int .i64 0, .int .i64 0, .int .i64 0] := y
  clear y
  have c_a_0_w1 := x_a.cell (i := 0) rfl
  have f_a_0_w1 := x_a.frozen 0
  have c_a_1_w1 := x_a.cell (i := 1) rfl
  have f_a_1_w1 := x_a.frozen 1
  have c_a_2_w1 := x_a.cell (i := 2) rfl
  have f_a_2_w1 := x_a.frozen 2
  have c_a_3_w1 := x_a.cell (i := 3) rfl
  have f_a_3_w1 := x_a.frozen 3
  have c_out_0_w1 := x_out.cell (i := 0) rfl
  have f_out_0_w1 := x_out.frozen 0
  have c_out_1_w1 := x_out.cell (i := 1) rfl
  have f_out_1_w1 := x_out.frozen 1
  have c_out_2_w1 := x_out.cell (i := 2) rfl
  have f_out_2_w1 := x_out.frozen 2
  have c_out_3_w1 := x_out.cell (i := 3) rfl
  have f_out_3_w1 := x_out.frozen 3
  have c_r_0_w1 := x_r.cell (i := 0) rfl
  have f_r_0_w1 := x_r.frozen 0
  have c_r_1_w1 := x_r.cell (i := 1) rfl
  have f_r_1_w1 := x_r.frozen 1
  have c_r_2_w1 := x_r.cell (i := 2) rfl
  have f_r_2_w1 := x_r.frozen 2
  have c_r_3_w1 := x_r.cell (i := 3) rfl
  have f_r_3_w1 := x_r.frozen 3
  obtain ⟨w2, e_w2, s_w2, h_w2, y⟩ := set_step x_out 1 (.int .i64 d.Acct)
  have s_w2_1 := Nat.le_of_eq s_w2
  have s_w2_2 := Nat.le_of_eq s_w2.symm
  clear s_w2
  replace x_a := x_a.chg h_w2 (by omega)
  replace x_r := x_r.chg h_w2 (by omega)
  have B_w2 := Below.chg_ B_w1 h_w2 (by omega) (by omega)
  replace x_out : Vr w2 (w.heap.size + 1 + 1) 27 [.int .i64 d.Kind, .int .i64 d.Acct, .int .i64 0, .int .i64 0] := y
  clear y
  have c_a_0_w2 := x_a.cell (i := 0) rfl
  have f_a_0_w2 := x_a.frozen 0
  have c_a_1_w2 := x_a.cell (i := 1) rfl
  have f_a_1_w2 := x_a.frozen 1
  have c_a_2_w2 := x_a.cell (i := 2) rfl
  have f_a_2_w2 := x_a.frozen 2
  have c_a_3_w2 := x_a.cell (i := 3) rfl
  have f_a_3_w2 := x_a.frozen 3
  have c_out_0_w2 := x_out.cell (i := 0) rfl
  have f_out_0_w2 := x_out.frozen 0
  have c_out_1_w2 := x_out.cell (i := 1) rfl
  have f_out_1_w2 := x_out.frozen 1
  have c_out_2_w2 := x_out.cell (i := 2) rfl
  have f_out_2_w2 := x_out.frozen 2
  have c_out_3_w2 := x_out.cell (i := 3) rfl
  have f_out_3_w2 := x_out.frozen 3
  have c_r_0_w2 := x_r.cell (i := 0) rfl
  have f_r_0_w2 := x_r.frozen 0
  have c_r_1_w2 := x_r.cell (i := 1) rfl
  have f_r_1_w2 := x_r.frozen 1
  have c_r_2_w2 := x_r.cell (i := 2) rfl
  have f_r_2_w2 := x_r.frozen 2
  have c_r_3_w2 := x_r.cell (i := 3) rfl
  have f_r_3_w2 := x_r.frozen 3
  obtain ⟨w3, e_w3, s_w3, h_w3, y⟩ := set_step x_out 2 (.int .i64 d.Amt)
  have s_w3_1 := Nat.le_of_eq s_w3
  have s_w3_2 := Nat.le_of_eq s_w3.symm
  clear s_w3
  replace x_a := x_a.chg h_w3 (by omega)
  replace x_r := x_r.chg h_w3 (by omega)
  have B_w3 := Below.chg_ B_w2 h_w3 (by omega) (by omega)
  replace x_out : Vr w3 (w.heap.size + 1 + 1) 27 [.int .i64 d.Kind, .int .i64 d.Acct, .int .i64 d.Amt, .int .i64 0] := y
  clear y
  have c_a_0_w3 := x_a.cell (i := 0) rfl
  have f_a_0_w3 := x_a.frozen 0
  have c_a_1_w3 := x_a.cell (i := 1) rfl
  have f_a_1_w3 := x_a.frozen 1
  have c_a_2_w3 := x_a.cell (i := 2) rfl
  have f_a_2_w3 := x_a.frozen 2
  have c_a_3_w3 := x_a.cell (i := 3) rfl
  have f_a_3_w3 := x_a.frozen 3
  have c_out_0_w3 := x_out.cell (i := 0) rfl
  have f_out_0_w3 := x_out.frozen 0
  have c_out_1_w3 := x_out.cell (i := 1) rfl
  have f_out_1_w3 := x_out.frozen 1
  have c_out_2_w3 := x_out.cell (i := 2) rfl
  have f_out_2_w3 := x_out.frozen 2
  have c_out_3_w3 := x_out.cell (i := 3) rfl
  have f_out_3_w3 := x_out.frozen 3
  have c_r_0_w3 := x_r.cell (i := 0) rfl
  have f_r_0_w3 := x_r.frozen 0
  have c_r_1_w3 := x_r.cell (i := 1) rfl
  have f_r_1_w3 := x_r.frozen 1
  have c_r_2_w3 := x_r.cell (i := 2) rfl
  have f_r_2_w3 := x_r.frozen 2
  have c_r_3_w3 := x_r.cell (i := 3) rfl
  have f_r_3_w3 := x_r.frozen 3
  obtain ⟨w4, e_w4, s_w4, h_w4, y⟩ := set_step x_out 3 (.int .i64 d.Src)
  have s_w4_1 := Nat.le_of_eq s_w4
  have s_w4_2 := Nat.le_of_eq s_w4.symm
  clear s_w4
  replace x_a := x_a.chg h_w4 (by omega)
  replace x_r := x_r.chg h_w4 (by omega)
  have B_w4 := Below.chg_ B_w3 h_w4 (by omega) (by omega)
  replace x_out : Vr w4 (w.heap.size + 1 + 1) 27 [.int .i64 d.Kind, .int .i64 d.Acct, .int .i64 d.Amt, .int .i64 d.Src] := y
  clear y
  have c_a_0_w4 := x_a.cell (i := 0) rfl
  have f_a_0_w4 := x_a.frozen 0
  have c_a_1_w4 := x_a.cell (i := 1) rfl
  have f_a_1_w4 := x_a.frozen 1
  have c_a_2_w4 := x_a.cell (i := 2) rfl
  have f_a_2_w4 := x_a.frozen 2
  have c_a_3_w4 := x_a.cell (i := 3) rfl
  have f_a_3_w4 := x_a.frozen 3
  have c_out_0_w4 := x_out.cell (i := 0) rfl
  have f_out_0_w4 := x_out.frozen 0
  have c_out_1_w4 := x_out.cell (i := 1) rfl
  have f_out_1_w4 := x_out.frozen 1
  have c_out_2_w4 := x_out.cell (i := 2) rfl
  have f_out_2_w4 := x_out.frozen 2
  have c_out_3_w4 := x_out.cell (i := 3) rfl
  have f_out_3_w4 := x_out.frozen 3
  have c_r_0_w4 := x_r.cell (i := 0) rfl
  have f_r_0_w4 := x_r.frozen 0
  have c_r_1_w4 := x_r.cell (i := 1) rfl
  have f_r_1_w4 := x_r.frozen 1
  have c_r_2_w4 := x_r.cell (i := 2) rfl
  have f_r_2_w4 := x_r.frozen 2
  have c_r_3_w4 := x_r.cell (i := 3) rfl
  have f_r_3_w4 := x_r.frozen 3
  obtain ⟨w5, e_w5, s_w5, h_w5, y⟩ := store_step x_r [.int .i64 d.Kind, .int .i64 d.Acct, .int .i64 d.Amt, .int .i64 d.Src] rfl
  replace e_w5 : ((((w4.setCell ⟨w.heap.size + 1, 0, none⟩ (.int .i64 d.Kind)).setCell ⟨w.heap.size + 1, 1, none⟩ (.int .i64 d.Acct)).setCell ⟨w.heap.size + 1, 2, none⟩ (.int .i64 d.Amt)).setCell ⟨w.heap.size + 1, 3, none⟩ (.int .i64 d.Src)) = w5 := e_w5
  have s_w5_1 := Nat.le_of_eq s_w5
  have s_w5_2 := Nat.le_of_eq s_w5.symm
  clear s_w5
  replace x_a := x_a.chg h_w5 (by omega)
  replace x_out := x_out.chg h_w5 (by omega)
  have B_w5 := Below.chg_ B_w4 h_w5 (by omega) (by omega)
  replace x_r : Vr w5 (w.heap.size + 1) 27 [.int .i64 d.Kind, .int .i64 d.Acct, .int .i64 d.Amt, .int .i64 d.Src] := y
  clear y
  have c_r_0_w5 := x_r.cell (i := 0) rfl
  have f_r_0_w5 := x_r.frozen 0
  have c_r_1_w5 := x_r.cell (i := 1) rfl
  have f_r_1_w5 := x_r.frozen 1
  have c_r_2_w5 := x_r.cell (i := 2) rfl
  have f_r_2_w5 := x_r.frozen 2
  have c_r_3_w5 := x_r.cell (i := 3) rfl
  have f_r_3_w5 := x_r.frozen 3
  go_wp2
  refine ret_cell (by rfl) (by rfl) x_r Try.underlying27 sz_msg (by rfl) ?_
  exact ⟨_, rfl, ov_msg (by omega), B_w5⟩

set_option maxHeartbeats 1000000 in
theorem eqMsg_same {w : World} {v v' : Value} {d : MMsg} (h : RV msgL w v d) (h' : RV msgL w v' d) : Calls Try.prog 42 #[v, v'] w fun e w' => e = .returned (.bool true) ∧ Below w.heap.size w w' := by
  obtain rfl := rv_msg h
  obtain rfl := rv_msg h'
  obtain ⟨wa, hwa, B0, sa, x_a, x_b⟩ := frame2 w 27 [.int .i64 d.Kind, .int .i64 d.Acct, .int .i64 d.Amt, .int .i64 d.Src] 27 [.int .i64 d.Kind, .int .i64 d.Acct, .int .i64 d.Amt, .int .i64 d.Src]
  have sa_1 := Nat.le_of_eq sa
  have sa_2 := Nat.le_of_eq sa.symm
  clear sa
  have c_a_0_wa := x_a.cell (i := 0) rfl
  have c_a_1_wa := x_a.cell (i := 1) rfl
  have c_a_2_wa := x_a.cell (i := 2) rfl
  have c_a_3_wa := x_a.cell (i := 3) rfl
  have c_b_0_wa := x_b.cell (i := 0) rfl
  have c_b_1_wa := x_b.cell (i := 1) rfl
  have c_b_2_wa := x_b.cell (i := 2) rfl
  have c_b_3_wa := x_b.cell (i := 3) rfl
  go_enter Try.func42, Try.ntmps42
  go_wp2
  go_ret
  exact ⟨rfl, B0⟩

end Go.Proofs.Ytkbhbccpmmhelaa

namespace Go.Proofs.Ytkbhbccpmmhelaa
open Go.RowKit
set_option linter.unusedVariables false

structure MRec where
  Kind : Int
  Acct : Int
  Other : Int
  To : Int
  Amt : Int
  M : MMsg

def recL : Lay MRec := isoL (fun d => (d.Kind, d.Acct, d.Other, d.To, d.Amt, d.M)) (consL (intL .i64) (consL (intL .i64) (consL (intL .i64) (consL (intL .i64) (consL (intL .i64) (msgL))))))

theorem sz_rec : (Try.prog.info? 29).map (·.size) = some 9 := by kernel_rfl

/-- how many values lie behind it -/
def MRec.bulk (d : MRec) : Nat := 0

/-- what a marking from k on makes of it -/
def MRec.mark (d : MRec) (k : Int) : MRec := ⟨d.Kind, d.Acct, d.Other, d.To, d.Amt, d.M⟩

theorem rv_rec {w : World} {v : Value} {d : MRec} (h : RV recL w v d) : v = .agg #[.int .i64 d.Kind, .int .i64 d.Acct, .int .i64 d.Other, .int .i64 d.To, .int .i64 d.Amt, .int .i64 d.M.Kind, .int .i64 d.M.Acct, .int .i64 d.M.Amt, .int .i64 d.M.Src] := by
  obtain ⟨cs, rfl, hcs⟩ := h
  obtain ⟨_, _, rfl, rfl, ⟨_, _, rfl, rfl, ⟨_, _, rfl, rfl, ⟨_, _, rfl, rfl, ⟨_, _, rfl, rfl, ⟨_, _, rfl, rfl, ⟨_, _, rfl, rfl, ⟨_, _, rfl, rfl, rfl⟩⟩⟩⟩⟩⟩⟩⟩ := hcs
  rfl

theorem cs_rec {w : World} {B : Nat} {cs : List Value} {d : MRec} (h : recL.rd w B cs d) : cs = [.int .i64 d.Kind, .int .i64 d.Acct, .int .i64 d.Other, .int .i64 d.To, .int .i64 d.Amt, .int .i64 d.M.Kind, .int .i64 d.M.Acct, .int .i64 d.M.Amt, .int .i64 d.M.Src] := by
  obtain ⟨_, _, rfl, rfl, ⟨_, _, rfl, rfl, ⟨_, _, rfl, rfl, ⟨_, _, rfl, rfl, ⟨_, _, rfl, rfl, ⟨_, _, rfl, rfl, ⟨_, _, rfl, rfl, ⟨_, _, rfl, rfl, rfl⟩⟩⟩⟩⟩⟩⟩⟩ := h
  rfl

theorem rv_rec_mk {w : World} {zKind : Int} {zAcct : Int} {zOther : Int} {zTo : Int} {zAmt : Int} {zM : MMsg} : RV recL w (.agg #[.int .i64 zKind, .int .i64 zAcct, .int .i64 zOther, .int .i64 zTo, .int .i64 zAmt, .int .i64 zM.Kind, .int .i64 zM.Acct, .int .i64 zM.Amt, .int .i64 zM.Src]) ⟨zKind, zAcct, zOther, zTo, zAmt, zM⟩ := by
  exact ⟨_, rfl, [_], _, rfl, rfl, [_], _, rfl, rfl, [_], _, rfl, rfl, [_], _, rfl, rfl, [_], _, rfl, rfl, ⟨[_], _, rfl, rfl, ⟨[_], _, rfl, rfl, ⟨[_], _, rfl, rfl, rfl⟩⟩⟩⟩

theorem ovp_rec {w : World} {d : MRec} {lo hi : Nat} (hc : hi ≤ w.heap.size) : OVp recL w (fun j => lo ≤ j ∧ j < hi) [.int .i64 d.Kind, .int .i64 d.Acct, .int .i64 d.Other, .int .i64 d.To, .int .i64 d.Amt, .int .i64 d.M.Kind, .int .i64 d.M.Acct, .int .i64 d.M.Amt, .int .i64 d.M.Src] d := by
  have h : OVp recL w _ [.int .i64 d.Kind, .int .i64 d.Acct, .int .i64 d.Other, .int .i64 d.To, .int .i64 d.Amt, .int .i64 d.M.Kind, .int .i64 d.M.Acct, .int .i64 d.M.Amt, .int .i64 d.M.Src] d := OVp.iso (f := fun d : MRec => (d.Kind, d.Acct, d.Other, d.To, d.Amt, d.M)) (OVp.cons1 (OVp.cons1 (OVp.cons1 (OVp.cons1 (OVp.cons1 (OVp.iso (f := fun d : MMsg => (d.Kind, d.Acct, d.Amt, d.Src)) (OVp.cons1 (OVp.cons1 (OVp.cons1 OVp.one)))))))))
  exact h.imp (fun _ h => h.elim)

theorem ov_rec {w : World} {d : MRec} {lo hi : Nat} (hc : hi ≤ w.heap.size) : OV recL w lo hi (.agg #[.int .i64 d.Kind, .int .i64 d.Acct, .int .i64 d.Other, .int .i64 d.To, .int .i64 d.Amt, .int .i64 d.M.Kind, .int .i64 d.M.Acct, .int .i64 d.M.Amt, .int .i64 d.M.Src]) d :=
  (ovp_rec (lo := lo) (hi := hi) hc).ov (fun _ h => h) hc

set_option maxHeartbeats 1000000 in
theorem toRec_c {w : World} {v : Value} {d : MRec} (h : RV recL w v d) : Calls Try.prog 8 #[v] w (NewV recL w d) := by
  obtain rfl := rv_rec h
  obtain ⟨wa, hwa, B0, sa, x_a, x_r, x_out⟩ := frame3 w 25 [.int .i64 d.Kind, .int .i64 d.Acct, .int .i64 d.Other, .int .i64 d.To, .int .i64 d.Amt, .int .i64 d.M.Kind, .int .i64 d.M.Acct, .int .i64 d.M.Amt, .int .i64 d.M.Src] 29 [.int .i64 0, .int .i64 0, .int .i64 0, .int .i64 0, .int .i64 0, .int .i64 0, .int .i64 0, .int .i64 0, .int .i64 0] 29 [.int .i64 0, .int .i64 0, .int .i64 0, .int .i64 0, .int .i64 0, .int .i64 0, .int .i64 0, .int .i64 0, .int .i64 0]
  have sa_1 := Nat.le_of_eq sa
  have sa_2 := Nat.le_of_eq sa.symm
  clear sa
  have c_a_0_wa := x_a.cell (i := 0) rfl
  have f_a_0_wa := x_a.frozen 0
  have c_a_1_wa := x_a.cell (i := 1) rfl
  have f_a_1_wa := x_a.frozen 1
  have c_a_2_wa := x_a.cell (i := 2) rfl
  have f_a_2_wa := x_a.frozen 2
  have c_a_3_wa := x_a.cell (i := 3) rfl
  have f_a_3_wa := x_a.frozen 3
  have c_a_4_wa := x_a.cell (i := 4) rfl
  have f_a_4_wa := x_a.frozen 4
  have c_a_5_wa := x_a.cell (i := 5) rfl
  have f_a_5_wa := x_a.frozen 5
  have c_a_6_wa := x_a.cell (i := 6) rfl
  have f_a_6_wa := x_a.frozen 6
  have c_a_7_wa := x_a.cell (i := 7) rfl
  have f_a_7_wa := x_a.frozen 7
  have c_a_8_wa := x_a.cell (i := 8) rfl
  have f_a_8_wa := x_a.frozen 8
  have c_out_0_wa := x_out.cell (i := 0) rfl
  have f_out_0_wa := x_out.frozen 0
  have c_out_1_wa := x_out.cell (i := 1) rfl
  have f_out_1_wa := x_out.frozen 1
  have c_out_2_wa := x_out.cell (i := 2) rfl
  have f_out_2_wa := x_out.frozen 2
  have c_out_3_wa := x_out.cell (i := 3) rfl
  have f_out_3_wa := x_out.frozen 3
  have c_out_4_wa := x_out.cell (i := 4) rfl
  have f_out_4_wa := x_out.frozen 4
  have c_out_5_wa := x_out.cell (i := 5) rfl
  have f_out_5_wa := x_out.frozen 5
  have c_out_6_wa := x_out.cell (i := 6) rfl
  have f_out_6_wa := x_out.frozen 6
  have c_out_7_wa := x_out.cell (i := 7) rfl
  have f_out_7_wa := x_out.frozen 7
  have c_out_8_wa := x_out.cell (i := 8) rfl
  have f_out_8_wa := x_out.frozen 8
  go_enter Try.func8, Try.ntmps8
  have c_r_0_wa := x_r.cell (i := 0) rfl
  have f_r_0_wa := x_r.frozen 0
  have c_r_1_wa := x_r.cell (i := 1) rfl
  have f_r_1_wa := x_r.frozen 1
  have c_r_2_wa := x_r.cell (i := 2) rfl
  have f_r_2_wa := x_r.frozen 2
  have c_r_3_wa := x_r.cell (i := 3) rfl
  have f_r_3_wa := x_r.frozen 3
  have c_r_4_wa := x_r.cell (i := 4) rfl
  have f_r_4_wa := x_r.frozen 4
  have c_r_5_wa := x_r.cell (i := 5) rfl
  have f_r_5_wa := x_r.frozen 5
  have c_r_6_wa := x_r.cell (i := 6) rfl
  have f_r_6_wa := x_r.frozen 6
  have c_r_7_wa := x_r.cell (i := 7) rfl
  have f_r_7_wa := x_r.frozen 7
  have c_r_8_wa := x_r.cell (i := 8) rfl
  have f_r_8_wa := x_r.frozen 8
  obtain ⟨w1, e_w1, s_w1, h_w1, y⟩ := set_step x_out 0 (.int .i64 d.Kind)
  have s_w1_1 := Nat.le_of_eq s_w1
  have s_w1_2 := Nat.le_of_eq s_w1.symm
  clear s_w1
  replace x_a := x_a.chg h_w1 (by omega)
  replace x_r := x_r.chg h_w1 (by omega)
  have B_w1 := Below.chg_ B0 h_w1 (by omega) (by omega)
  replace x_out : Vr w1 (w.heap.size + 1 + 1) 29 [.int .i64 d.Kind, .int .i64 0, .int .i64 0, .int .i64 0, .int .i64 0, .int .i64 0, .int .i64 0, .int .i64 0, .int .i64 0] := y
  clear y
  have c_a_0_w1 := x_a.cell (i := 0) rfl
  have f_a_0_w1 := x_a.frozen 0
  have c_a_1_w1 := x_a.cell (i := 1) rfl
  have f_a_1_w1 := x_a.frozen 1
  have c_a_2_w1 := x_a.cell (i := 2) rfl
  have f_a_2_w1 := x_a.frozen 2
  have c_a_3_w1 := x_a.cell (i := 3) rfl
  have f_a_3_w1 := x_a.frozen 3
  have c_a_4_w1 := x_a.cell (i := 4) rfl
  have f_a_4_w1 := x_a.frozen 4
  have c_a_5_w1 := x_a.cell (i := 5) rfl
  have f_a_5_w1 := x_a.frozen 5
  have c_a_6_w1 := x_a.cell (i := 6) rfl
  have f_a_6_w1 := x_a.frozen 6
  have c_a_7_w1 := x_a.cell (i := 7) rfl
  have f_a_7_w1 := x_a.frozen 7
  have c_a_8_w1 := x_a.cell (i := 8) rfl
  have f_a_8_w1 := x_a.frozen 8
  have c_out_0_w1 := x_out.cell (i := 0) rfl
  have f_out_0_w1 := x_out.frozen 0
  have c_out_1_w1 := x_out.cell (i := 1) rfl
  have f_out_1_w1 := x_out.frozen 1
  have c_out_2_w1 := x_out.cell (i := 2) rfl
  have f_out_2_w1 := x_out.frozen 2
  have c_out_3_w1 := x_out.cell (i := 3) rfl
  have f_out_3_w1 := x_out.frozen 3
  have c_out_4_w1 := x_out.cell (i := 4) rfl
  have f_out_4_w1 := x_out.frozen 4
  have c_out_5_w1 := x_out.cell (i := 5) rfl
  have f_out_5_w1 := x_out.frozen 5
  have c_out_6_w1 := x_out.cell (i := 6) rfl
  have f_out_6_w1 := x_out.frozen 6
  have c_out_7_w1 := x_out.cell (i := 7) rfl
  have f_out_7_w1 := x_out.frozen 7
  have c_out_8_w1 := x_out.cell (i := 8) rfl
  have f_out_8_w1 := x_out.frozen 8
  have c_r_0_w1 := x_r.cell (i := 0) rfl
  have f_r_0_w1 := x_r.frozen 0
  have c_r_1_w1 := x_r.cell (i := 1) rfl
  have f_r_1_w1 := x_r.frozen 1
  have c_r_2_w1 := x_r.cell (i := 2) rfl
  have f_r_2_w1 := x_r.frozen 2
  have c_r_3_w1 := x_r.cell (i := 3) rfl
  have f_r_3_w1 := x_r.frozen 3
  have c_r_4_w1 := x_r.cell (i := 4) rfl
  have f_r_4_w1 := x_r.frozen 4
  have c_r_5_w1 := x_r.cell (i := 5) rfl
  have f_r_5_w1 := x_r.frozen 5
  have c_r_6_w1 := x_r.cell (i := 6) rfl
  have f_r_6_w1 := x_r.frozen 6
  have c_r_7_w1 := x_r.cell (i := 7) rfl
  have f_r_7_w1 := x_r.frozen 7
  have c_r_8_w1 := x_r.cell (i := 8) rfl
  have f_r_8_w1 := x_r.frozen 8
  obtain ⟨w2, e_w2, s_w2, h_w2, y⟩ := set_step x_out 1 (.int .i64 d.Acct)
  have s_w2_1 := Nat.le_of_eq s_w2
  have s_w2_2 := Nat.le_of_eq s_w2.symm
  clear s_w2
  replace x_a := x_a.chg h_w2 (by omega)
  replace x_r := x_r.chg h_w2 (by omega)
  have B_w2 := Below.chg_ B_w1 h_w2 (by omega) (by omega)
  replace x_out : Vr w2 (w.heap.size + 1 + 1) 29 [.int .i64 d.Kind, .int .i64 d.Acct, .int .i64 0, .int .i64 0, .int .i64 0, .int .i64 0, .int .i64 0, .int .i64 0, .int .i64 0] := y
  clear y
  have c_a_0_w2 := x_a.cell (i := 0) rfl
  have f_a_0_w2 := x_a.frozen 0
  have c_a_1_w2 := x_a.cell (i := 1) rfl
  have f_a_1_w2 := x_a.frozen 1
  have c_a_2_w2 := x_a.cell (i := 2) rfl
  have f_a_2_w2 := x_a.frozen 2
  have c_a_3_w2 := x_a.cell (i := 3) rfl
  have f_a_3_w2 := x_a.frozen 3
  have c_a_4_w2 := x_a.cell (i := 4) rfl
  have f_a_4_w2 := x_a.frozen 4
  have c_a_5_w2 := x_a.cell (i := 5) rfl
  have f_a_5_w2 := x_a.frozen 5
  have c_a_6_w2 := x_a.cell (i := 6) rfl
  have f_a_6_w2 := x_a.frozen 6
  have c_a_7_w2 := x_a.cell (i := 7) rfl
  have f_a_7_w2 := x_a.frozen 7
  have c_a_8_w2 := x_a.cell (i := 8) rfl
  have f_a_8_w2 := x_a.frozen 8
  have c_out_0_w2 := x_out.cell (i := 0) rfl
  have f_out_0_w2 := x_out.frozen 0
  have c_out_1_w2 := x_out.cell (i := 1) rfl
  have f_out_1_w2 := x_out.frozen 1
  have c_out_2_w2 := x_out.cell (i := 2) rfl
  have f_out_2_w2 := x_out.frozen 2
  have c_out_3_w2 := x_out.cell (i := 3) rfl
  have f_out_3_w2 := x_out.frozen 3
  have c_out_4_w2 := x_out.cell (i := 4) rfl
  have f_out_4_w2 := x_out.frozen 4
  have c_out_5_w2 := x_out.cell (i := 5) rfl
  have f_out_5_w2 := x_out.frozen 5
  have c_out_6_w2 := x_out.cell (i := 6) rfl
  have f_out_6_w2 := x_out.frozen 6
  have c_out_7_w2 := x_out.cell (i := 7) rfl
  have f_out_7_w2 := x_out.frozen 7
  have c_out_8_w2 := x_out.cell (i := 8) rfl
  have f_out_8_w2 := x_out.frozen 8
  have c_r_0_w2 := x_r.cell (i := 0) rfl
  have f_r_0_w2 := x_r.frozen 0
  have c_r_1_w2 := x_r.cell (i := 1) rfl
  have f_r_1_w2 := x_r.frozen 1
  have c_r_2_w2 := x_r.cell (i := 2) rfl
  have f_r_2_w2 := x_r.frozen 2
  have c_r_3_w2 := x_r.cell (i := 3) rfl
  have f_r_3_w2 := x_r.frozen 3
  have c_r_4_w2 := x_r.cell (i := 4) rfl
  have f_r_4_w2 := x_r.frozen 4
  have c_r_5_w2 := x_r.cell (i := 5) rfl
  have f_r_5_w2 := x_r.frozen 5
  have c_r_6_w2 := x_r.cell (i := 6) rfl
  have f_r_6_w2 := x_r.frozen 6
  have c_r_7_w2 := x_r.cell (i := 7) rfl
  have f_r_7_w2 := x_r.frozen 7
  have c_r_8_w2 := x_r.cell (i := 8) rfl
  have f_r_8_w2 := x_r.frozen 8
  obtain ⟨w3, e_w3, s_w3, h_w3, y⟩ := set_step x_out 2 (.int .i64 d.Other)
  have s_w3_1 := Nat.le_of_eq s_w3
  have s_w3_2 := Nat.le_of_eq s_w3.symm
  clear s_w3
  replace x_a := x_a.chg h_w3 (by omega)
  replace x_r := x_r.chg h_w3 (by omega)
  have B_w3 := Below.chg_ B_w2 h_w3 (by omega) (by omega)
  replace x_out : Vr w3 (w.heap.size + 1 + 1) 29 [.int .i64 d.Kind, .int .i64 d.Acct, .int .i64 d.Other, .int .i64 0, .int .i64 0, .int .i64 0, .int .i64 0, .int .i64 0, .int .i64 0] := y
  clear y
  have c_a_0_w3 := x_a.cell (i := 0) rfl
  have f_a_0_w3 := x_a.frozen 0
  have c_a_1_w3 := x_a.cell (i := 1) rfl
  have f_a_1_w3 := x_a.frozen 1
  have c_a_2_w3 := x_a.cell (i := 2) rfl
  have f_a_2_w3 := x_a.frozen 2
  have c_a_3_w3 := x_a.cell (i := 3) rfl
  have f_a_3_w3 := x_a.frozen 3
  have c_a_4_w3 := x_a.cell (i := 4) rfl
  have f_a_4_w3 := x_a.frozen 4
  have c_a_5_w3 := x_a.cell (i := 5) rfl
  have f_a_5_w3 := x_a.frozen 5
  have c_a_6_w3 := x_a.cell (i := 6) rfl
  have f_a_6_w3 := x_a.frozen 6
  have c_a_7_w3 := x_a.cell (i := 7) rfl
  have f_a_7_w3 := x_a.frozen 7
  have c_a_8_w3 := x_a.cell (i := 8) rfl
  have f_a_8_w3 := x_a.frozen 8
  have c_out_0_w3 := x_out.cell (i := 0) rfl
  have f_out_0_w3 := x_out.frozen 0
  have c_out_1_w3 := x_out.cell (i := 1) rfl
  have f_out_1_w3 := x_out.frozen 1
  have c_out_2_w3 := x_out.cell (i := 2) rfl
  have f_out_2_w3 := x_out.frozen 2
  have c_out_3_w3 := x_out.cell (i := 3) rfl
  have f_out_3_w3 := x_out.frozen 3
  have c_out_4_w3 := x_out.cell (i := 4) rfl
  have f_out_4_w3 := x_out.frozen 4
  have c_out_5_w3 := x_out.cell (i := 5) rfl
  have f_out_5_w3 := x_out.frozen 5
  have c_out_6_w3 := x_out.cell (i := 6) rfl
  have f_out_6_w3 := x_out.frozen 6
  have c_out_7_w3 := x_out.cell (i := 7) rfl
  have f_out_7_w3 := x_out.frozen 7
  have c_out_8_w3 := x_out.cell (i := 8) rfl
  have f_out_8_w3 := x_out.frozen 8
  have c_r_0_w3 := x_r.cell (i := 0) rfl
  have f_r_0_w3 := x_r.frozen 0
  have c_r_1_w3 := x_r.cell (i := 1) rfl
  have f_r_1_w3 := x_r.frozen 1
  have c_r_2_w3 := x_r.cell (i := 2) rfl
  have f_r_2_w3 := x_r.frozen 2
  have c_r_3_w3 := x_r.cell (i := 3) rfl
  have f_r_3_w3 := x_r.frozen 3
  have c_r_4_w3 := x_r.cell (i := 4) rfl
  have f_r_4_w3 := x_r.frozen 4
  have c_r_5_w3 := x_r.cell (i := 5) rfl
  have f_r_5_w3 := x_r.frozen 5
  have c_r_6_w3 := x_r.cell (i := 6) rfl
  have f_r_6_w3 := x_r.frozen 6
  have c_r_7_w3 := x_r.cell (i := 7) rfl
  have f_r_7_w3 := x_r.frozen 7
  have c_r_8_w3 := x_r.cell (i := 8) rfl
  have f_r_8_w3 := x_r.frozen 8
  obtain ⟨w4, e_w4, s_w4, h_w4, y⟩ := set_step x_out 3 (.int .i64 d.To)
  have s_w4_1 := Nat.le_of_eq s_w4
  have s_w4_2 := Nat.le_of_eq s_w4.symm
  clear s_w4
  replace x_a := x_a.chg h_w4 (by omega)
  replace x_r := x_r.chg h_w4 (by omega)
  have B_w4 := Below.chg_ B_w3 h_w4 (by omega) (by omega)
  replace x_out : Vr w4 (w.heap.size + 1 + 1) 29 [.int .i64 d.Kind, .int .i64 d.Acct, .int .i64 d.Other, .int .i64 d.To, .int .i64 0, .int .i64 0, .int .i64 0, .int .i64 0, .int .i64 0] := y
  clear y
  have c_a_0_w4 := x_a.cell (i := 0) rfl
  have f_a_0_w4 := x_a.frozen 0
  have c_a_1_w4 := x_a.cell (i := 1) rfl
  have f_a_1_w4 := x_a.frozen 1
  have c_a_2_w4 := x_a.cell (i := 2) rfl
  have f_a_2_w4 := x_a.frozen 2
  have c_a_3_w4 := x_a.cell (i := 3) rfl
  have f_a_3_w4 := x_a.frozen 3
  have c_a_4_w4 := x_a.cell (i := 4) rfl
  have f_a_4_w4 := x_a.frozen 4
  have c_a_5_w4 := x_a.cell (i := 5) rfl
  have f_a_5_w4 := x_a.frozen 5
  have c_a_6_w4 := x_a.cell (i := 6) rfl
  have f_a_6_w4 := x_a.frozen 6
  have c_a_7_w4 := x_a.cell (i := 7) rfl
  have f_a_7_w4 := x_a.frozen 7
  have c_a_8_w4 := x_a.cell (i := 8) rfl
  have f_a_8_w4 := x_a.frozen 8
  have c_out_0_w4 := x_out.cell (i := 0) rfl
  have f_out_0_w4 := x_out.frozen 0
  have c_out_1_w4 := x_out.cell (i := 1) rfl
  have f_out_1_w4 := x_out.frozen 1
  have c_out_2_w4 := x_out.cell (i := 2) rfl
  have f_out_2_w4 := x_out.frozen 2
  have c_out_3_w4 := x_out.cell (i := 3) rfl
  have f_out_3_w4 := x_out.frozen 3
  have c_out_4_w4 := x_out.cell (i := 4) rfl
  have f_out_4_w4 := x_out.frozen 4
  have c_out_5_w4 := x_out.cell (i := 5) rfl
  have f_out_5_w4 := x_out.frozen 5
  have c_out_6_w4 := x_out.cell (i := 6) rfl
  have f_out_6_w4 := x_out.frozen 6
  have c_out_7_w4 := x_out.cell (i := 7) rfl
  have f_out_7_w4 := x_out.frozen 7
  have c_out_8_w4 := x_out.cell (i := 8) rfl
  have f_out_8_w4 := x_out.frozen 8
  have c_r_0_w4 := x_r.cell (i := 0) rfl
  have f_r_0_w4 := x_r.frozen 0
  have c_r_1_w4 := x_r.cell (i := 1) rfl
  have f_r_1_w4 := x_r.frozen 1
  have c_r_2_w4 := x_r.cell (i := 2) rfl
  have f_r_2_w4 := x_r.frozen 2
  have c_r_3_w4 := x_r.cell (i := 3) rfl
  have f_r_3_w4 := x_r.frozen 3
  have c_r_4_w4 := x_r.cell (i := 4) rfl
  have f_r_4_w4 := x_r.frozen 4
  have c_r_5_w4 := x_r.cell (i := 5) rfl
  have f_r_5_w4 := x_r.frozen 5
  have c_r_6_w4 := x_r.cell (i := 6) rfl
  have f_r_6_w4 := x_r.frozen 6
  have c_r_7_w4 := x_r.cell (i := 7) rfl
  have f_r_7_w4 := x_r.frozen 7
  have c_r_8_w4 := x_r.cell (i := 8) rfl
  have f_r_8_w4 := x_r.frozen 8
  obtain ⟨w5, e_w5, s_w5, h_w5, y⟩ := set_step x_out 4 (.int .i64 d.Amt)
  have s_w5_1 := Nat.le_of_eq s_w5
  have s_w5_2 := Nat.le_of_eq s_w5.symm
  clear s_w5
  replace x_a := x_a.chg h_w5 (by omega)
  replace x_r := x_r.chg h_w5 (by omega)
  have B_w5 := Below.chg_ B_w4 h_w5 (by omega) (by omega)
  replace x_out : Vr w5 (w.heap.size + 1 + 1) 29 [.int .i64 d.Kind, .int .i64 d.Acct, .int .i64 d.Other, .int .i64 d.To, .int .i64 d.Amt, .int .i64 0, .int .i64 0, .int .i64 0, .int .i64 0] := y
  clear y
  have c_a_0_w5 := x_a.cell (i := 0) rfl
  have f_a_0_w5 := x_a.frozen 0
  have c_a_1_w5 := x_a.cell (i := 1) rfl
  have f_a_1_w5 := x_a.frozen 1
  have c_a_2_w5 := x_a.cell (i := 2) rfl
  have f_a_2_w5 := x_a.frozen 2
  have c_a_3_w5 := x_a.cell (i := 3) rfl
  have f_a_3_w5 := x_a.frozen 3
  have c_a_4_w5 := x_a.cell (i := 4) rfl
  have f_a_4_w5 := x_a.frozen 4
  have c_a_5_w5 := x_a.cell (i := 5) rfl
  have f_a_5_w5 := x_a.frozen 5
  have c_a_6_w5 := x_a.cell (i := 6) rfl
  have f_a_6_w5 := x_a.frozen 6
  have c_a_7_w5 := x_a.cell (i := 7) rfl
  have f_a_7_w5 := x_a.frozen 7
  have c_a_8_w5 := x_a.cell (i := 8) rfl
  have f_a_8_w5 := x_a.frozen 8
  have c_out_0_w5 := x_out.cell (i := 0) rfl
  have f_out_0_w5 := x_out.frozen 0
  have c_out_1_w5 := x_out.cell (i := 1) rfl
  have f_out_1_w5 := x_out.frozen 1
  have c_out_2_w5 := x_out.cell (i := 2) rfl
  have f_out_2_w5 := x_out.frozen 2
  have c_out_3_w5 := x_out.cell (i := 3) rfl
  have f_out_3_w5 := x_out.frozen 3
  have c_out_4_w5 := x_out.cell (i := 4) rfl
  have f_out_4_w5 := x_out.frozen 4
  have c_out_5_w5 := x_out.cell (i := 5) rfl
  have f_out_5_w5 := x_out.frozen 5
  have c_out_6_w5 := x_out.cell (i := 6) rfl
  have f_out_6_w5 := x_out.frozen 6
  have c_out_7_w5 := x_out.cell (i := 7) rfl
  have f_out_7_w5 := x_out.frozen 7
  have c_out_8_w5 := x_out.cell (i := 8) rfl
  have f_out_8_w5 := x_out.frozen 8
  have c_r_0_w5 := x_r.cell (i := 0) rfl
  have f_r_0_w5 := x_r.frozen 0
  have c_r_1_w5 := x_r.cell (i := 1) rfl
  have f_r_1_w5 := x_r.frozen 1
  have c_r_2_w5 := x_r.cell (i := 2) rfl
  have f_r_2_w5 := x_r.frozen 2
  have c_r_3_w5 := x_r.cell (i := 3) rfl
  have f_r_3_w5 := x_r.frozen 3
  have c_r_4_w5 := x_r.cell (i := 4) rfl
  have f_r_4_w5 := x_r.frozen 4
  have c_r_5_w5 := x_r.cell (i := 5) rfl
  have f_r_5_w5 := x_r.frozen 5
  have c_r_6_w5 := x_r.cell (i := 6) rfl
  have f_r_6_w5 := x_r.frozen 6
  have c_r_7_w5 := x_r.cell (i := 7) rfl
  have f_r_7_w5 := x_r.frozen 7
  have c_r_8_w5 := x_r.cell (i := 8) rfl
  have f_r_8_w5 := x_r.frozen 8
  go_wp2_with fail
  refine (toMsg_c (d := d.M) rv_msg_mk).mono ?_
  rintro e w6 ⟨uM, rfl, oM, h_w6⟩
  clear c_a_0_wa f_a_0_wa c_a_1_wa f_a_1_wa c_a_2_wa f_a_2_wa c_a_3_wa f_a_3_wa c_a_4_wa f_a_4_wa c_a_5_wa f_a_5_wa c_a_6_wa f_a_6_wa c_a_7_wa f_a_7_wa c_a_8_wa f_a_8_wa c_out_0_wa f_out_0_wa c_out_1_wa f_out_1_wa c_out_2_wa f_out_2_wa c_out_3_wa f_out_3_wa c_out_4_wa f_out_4_wa c_out_5_wa f_out_5_wa c_out_6_wa f_out_6_wa c_out_7_wa f_out_7_wa c_out_8_wa f_out_8_wa c_r_0_wa f_r_0_wa c_r_1_wa f_r_1_wa c_r_2_wa f_r_2_wa c_r_3_wa f_r_3_wa c_r_4_wa f_r_4_wa c_r_5_wa f_r_5_wa c_r_6_wa f_r_6_wa c_r_7_wa f_r_7_wa c_r_8_wa f_r_8_wa c_a_0_w1 f_a_0_w1 c_a_1_w1 f_a_1_w1 c_a_2_w1 f_a_2_w1 c_a_3_w1 f_a_3_w1 c_a_4_w1 f_a_4_w1 c_a_5_w1 f_a_5_w1 c_a_6_w1 f_a_6_w1 c_a_7_w1 f_a_7_w1 c_a_8_w1 f_a_8_w1 c_out_0_w1 f_out_0_w1 c_out_1_w1 f_out_1_w1 c_out_2_w1 f_out_2_w1 c_out_3_w1 f_out_3_w1 c_out_4_w1 f_out_4_w1 c_out_5_w1 f_out_5_w1 c_out_6_w1 f_out_6_w1 c_out_7_w1 f_out_7_w1 c_out_8_w1 f_out_8_w1 c_r_0_w1 f_r_0_w1 c_r_1_w1 f_r_1_w1 c_r_2_w1 f_r_2_w1 c_r_3_w1 f_r_3_w1 c_r_4_w1 f_r_4_w1 c_r_5_w1 f_r_5_w1 c_r_6_w1 f_r_6_w1 c_r_7_w1 f_r_7_w1 c_r_8_w1 f_r_8_w1 c_a_0_w2 f_a_0_w2 c_a_1_w2 f_a_1_w2 c_a_2_w2 f_a_2_w2 c_a_3_w2 f_a_3_w2 c_a_4_w2 f_a_4_w2 c_a_5_w2 f_a_5_w2 c_a_6_w2 f_a_6_w2 c_a_7_w2 f_a_7_w2 c_a_8_w2 f_a_8_w2 c_out_0_w2 f_out_0_w2 c_out_1_w2 f_out_1_w2 c_out_2_w2 f_out_2_w2 c_out_3_w2 f_out_3_w2 c_out_4_w2 f_out_4_w2 c_out_5_w2 f_out_5_w2 c_out_6_w2 f_out_6_w2 c_out_7_w2 f_out_7_w2 c_out_8_w2 f_out_8_w2 c_r_0_w2 f_r_0_w2 c_r_1_w2 f_r_1_w2 c_r_2_w2 f_r_2_w2 c_r_3_w2 f_r_3_w2 c_r_4_w2 f_r_4_w2 c_r_5_w2 f_r_5_w2 c_r_6_w2 f_r_6_w2 c_r_7_w2 f_r_7_w2 c_r_8_w2 f_r_8_w2 c_a_0_w3 f_a_0_w3 c_a_1_w3 f_a_1_w3 c_a_2_w3 f_a_2_w3 c_a_3_w3 f_a_3_w3 c_a_4_w3 f_a_4_w3 c_a_5_w3 f_a_5_w3 c_a_6_w3 f_a_6_w3 c_a_7_w3 f_a_7_w3 c_a_8_w3 f_a_8_w3 c_out_0_w3 f_out_0_w3 c_out_1_w3 f_out_1_w3 c_out_2_w3 f_out_2_w3 c_out_3_w3 f_out_3_w3 c_out_4_w3 f_out_4_w3 c_out_5_w3 f_out_5_w3 c_out_6_w3 f_out_6_w3 c_out_7_w3 f_out_7_w3 c_out_8_w3 f_out_8_w3 c_r_0_w3 f_r_0_w3 c_r_1_w3 f_r_1_w3 c_r_2_w3 f_r_2_w3 c_r_3_w3 f_r_3_w3 c_r_4_w3 f_r_4_w3 c_r_5_w3 f_r_5_w3 c_r_6_w3 f_r_6_w3 c_r_7_w3 f_r_7_w3 c_r_8_w3 f_r_8_w3 c_a_0_w4 f_a_0_w4 c_a_1_w4 f_a_1_w4 c_a_2_w4 f_a_2_w4 c_a_3_w4 f_a_3_w4 c_a_4_w4 f_a_4_w4 c_a_5_w4 f_a_5_w4 c_a_6_w4 f_a_6_w4 c_a_7_w4 f_a_7_w4 c_a_8_w4 f_a_8_w4 c_out_0_w4 f_out_0_w4 c_out_1_w4 f_out_1_w4 c_out_2_w4 f_out_2_w4 c_out_3_w4 f_out_3_w4 c_out_4_w4 f_out_4_w4 c_out_5_w4 f_out_5_w4 c_out_6_w4 f_out_6_w4 c_out_7_w4 f_out_7_w4 c_out_8_w4 f_out_8_w4 c_r_0_w4 f_r_0_w4 c_r_1_w4 f_r_1_w4 c_r_2_w4 f_r_2_w4 c_r_3_w4 f_r_3_w4 c_r_4_w4 f_r_4_w4 c_r_5_w4 f_r_5_w4 c_r_6_w4 f_r_6_w4 c_r_7_w4 f_r_7_w4 c_r_8_w4 f_r_8_w4 c_a_0_w5 f_a_0_w5 c_a_1_w5 f_a_1_w5 c_a_2_w5 f_a_2_w5 c_a_3_w5 f_a_3_w5 c_a_4_w5 f_a_4_w5 c_a_5_w5 f_a_5_w5 c_a_6_w5 f_a_6_w5 c_a_7_w5 f_a_7_w5 c_a_8_w5 f_a_8_w5 c_out_0_w5 f_out_0_w5 c_out_1_w5 f_out_1_w5 c_out_2_w5 f_out_2_w5 c_out_3_w5 f_out_3_w5 c_out_4_w5 f_out_4_w5 c_out_5_w5 f_out_5_w5 c_out_6_w5 f_out_6_w5 c_out_7_w5 f_out_7_w5 c_out_8_w5 f_out_8_w5 c_r_0_w5 f_r_0_w5 c_r_1_w5 f_r_1_w5 c_r_2_w5 f_r_2_w5 c_r_3_w5 f_r_3_w5 c_r_4_w5 f_r_4_w5 c_r_5_w5 f_r_5_w5 c_r_6_w5 f_r_6_w5 c_r_7_w5 f_r_7_w5 c_r_8_w5 f_r_8_w5
  replace x_a := x_a.from_ h_w6
  replace x_r := x_r.from_ h_w6
  replace x_out := x_out.from_ h_w6
  have B_w6 := B_w5.trans (h_w6.mono B_w5.size)
  have s_w6 := h_w6.size
  obtain rfl := rv_msg oM.rd
  have c_a_0_w6 := x_a.cell (i := 0) rfl
  have f_a_0_w6 := x_a.frozen 0
  have c_a_1_w6 := x_a.cell (i := 1) rfl
  have f_a_1_w6 := x_a.frozen 1
  have c_a_2_w6 := x_a.cell (i := 2) rfl
  have f_a_2_w6 := x_a.frozen 2
  have c_a_3_w6 := x_a.cell (i := 3) rfl
  have f_a_3_w6 := x_a.frozen 3
  have c_a_4_w6 := x_a.cell (i := 4) rfl
  have f_a_4_w6 := x_a.frozen 4
  have c_a_5_w6 := x_a.cell (i := 5) rfl
  have f_a_5_w6 := x_a.frozen 5
  have c_a_6_w6 := x_a.cell (i := 6) rfl
  have f_a_6_w6 := x_a.frozen 6
  have c_a_7_w6 := x_a.cell (i := 7) rfl
  have f_a_7_w6 := x_a.frozen 7
  have c_a_8_w6 := x_a.cell (i := 8) rfl
  have f_a_8_w6 := x_a.frozen 8
  have c_out_0_w6 := x_out.cell (i := 0) rfl
  have f_out_0_w6 := x_out.frozen 0
  have c_out_1_w6 := x_out.cell (i := 1) rfl
  have f_out_1_w6 := x_out.frozen 1
  have c_out_2_w6 := x_out.cell (i := 2) rfl
  have f_out_2_w6 := x_out.frozen 2
  have c_out_3_w6 := x_out.cell (i := 3) rfl
  have f_out_3_w6 := x_out.frozen 3
  have c_out_4_w6 := x_out.cell (i := 4) rfl
  have f_out_4_w6 := x_out.frozen 4
  have c_out_5_w6 := x_out.cell (i := 5) rfl
  have f_out_5_w6 := x_out.frozen 5
  have c_out_6_w6 := x_out.cell (i := 6) rfl
  have f_out_6_w6 := x_out.frozen 6
  have c_out_7_w6 := x_out.cell (i := 7) rfl
  have f_out_7_w6 := x_out.frozen 7
  have c_out_8_w6 := x_out.cell (i := 8) rfl
  have f_out_8_w6 := x_out.frozen 8
  have c_r_0_w6 := x_r.cell (i := 0) rfl
  have f_r_0_w6 := x_r.frozen 0
  have c_r_1_w6 := x_r.cell (i := 1) rfl
  have f_r_1_w6 := x_r.frozen 1
  have c_r_2_w6 := x_r.cell (i := 2) rfl
  have f_r_2_w6 := x_r.frozen 2
  have c_r_3_w6 := x_r.cell (i := 3) rfl
  have f_r_3_w6 := x_r.frozen 3
  have c_r_4_w6 := x_r.cell (i := 4) rfl
  have f_r_4_w6 := x_r.frozen 4
  have c_r_5_w6 := x_r.cell (i := 5) rfl
  have f_r_5_w6 := x_r.frozen 5
  have c_r_6_w6 := x_r.cell (i := 6) rfl
  have f_r_6_w6 := x_r.frozen 6
  have c_r_7_w6 := x_r.cell (i := 7) rfl
  have f_r_7_w6 := x_r.frozen 7
  have c_r_8_w6 := x_r.cell (i := 8) rfl
  have f_r_8_w6 := x_r.frozen 8
  obtain ⟨w7, e_w7, s_w7, h_w7, y⟩ := set_step x_out 5 (.int .i64 d.M.Kind)
  have s_w7_1 := Nat.le_of_eq s_w7
  have s_w7_2 := Nat.le_of_eq s_w7.symm
  clear s_w7
  replace x_a := x_a.chg h_w7 (by omega)
  replace x_r := x_r.chg h_w7 (by omega)
  have B_w7 := Below.chg_ B_w6 h_w7 (by omega) (by omega)
  replace x_out : Vr w7 (w.heap.size + 1 + 1) 29 [.int .i64 d.Kind, .int .i64 d.Acct, .int .i64 d.Other, .int .i64 d.To, .int .i64 d.Amt, .int .i64 d.M.Kind, .int .i64 0, .int .i64 0, .int .i64 0] := y
  clear y
  have c_a_0_w7 := x_a.cell (i := 0) rfl
  have f_a_0_w7 := x_a.frozen 0
  have c_a_1_w7 := x_a.cell (i := 1) rfl
  have f_a_1_w7 := x_a.frozen 1
  have c_a_2_w7 := x_a.cell (i := 2) rfl
  have f_a_2_w7 := x_a.frozen 2
  have c_a_3_w7 := x_a.cell (i := 3) rfl
  have f_a_3_w7 := x_a.frozen 3
  have c_a_4_w7 := x_a.cell (i := 4) rfl
  have f_a_4_w7 := x_a.frozen 4
  have c_a_5_w7 := x_a.cell (i := 5) rfl
  have f_a_5_w7 := x_a.frozen 5
  have c_a_6_w7 := x_a.cell (i := 6) rfl
  have f_a_6_w7 := x_a.frozen 6
  have c_a_7_w7 := x_a.cell (i := 7) rfl
  have f_a_7_w7 := x_a.frozen 7
  have c_a_8_w7 := x_a.cell (i := 8) rfl
  have f_a_8_w7 := x_a.frozen 8
  have c_out_0_w7 := x_out.cell (i := 0) rfl
  have f_out_0_w7 := x_out.frozen 0
  have c_out_1_w7 := x_out.cell (i := 1) rfl
  have f_out_1_w7 := x_out.frozen 1
  have c_out_2_w7 := x_out.cell (i := 2) rfl
  have f_out_2_w7 := x_out.frozen 2
  have c_out_3_w7 := x_out.cell (i := 3) rfl
  have f_out_3_w7 := x_out.frozen 3
  have c_out_4_w7 := x_out.cell (i := 4) rfl
  have f_out_4_w7 := x_out.frozen 4
  have c_out_5_w7 := x_out.cell (i := 5) rfl
  have f_out_5_w7 := x_out.frozen 5
  have c_out_6_w7 := x_out.cell (i := 6) rfl
  have f_out_6_w7 := x_out.frozen 6
  have c_out_7_w7 := x_out.cell (i := 7) rfl
  have f_out_7_w7 := x_out.frozen 7
  have c_out_8_w7 := x_out.cell (i := 8) rfl
  have f_out_8_w7 := x_out.frozen 8
  have c_r_0_w7 := x_r.cell (i := 0) rfl
  have f_r_0_w7 := x_r.frozen 0
  have c_r_1_w7 := x_r.cell (i := 1) rfl
  have f_r_1_w7 := x_r.frozen 1
  have c_r_2_w7 := x_r.cell (i := 2) rfl
  have f_r_2_w7 := x_r.frozen 2
  have c_r_3_w7 := x_r.cell (i := 3) rfl
  have f_r_3_w7 := x_r.frozen 3
  have c_r_4_w7 := x_r.cell (i := 4) rfl
  have f_r_4_w7 := x_r.frozen 4
  have c_r_5_w7 := x_r.cell (i := 5) rfl
  have f_r_5_w7 := x_r.frozen 5
  have c_r_6_w7 := x_r.cell (i := 6) rfl
  have f_r_6_w7 := x_r.frozen 6
  have c_r_7_w7 := x_r.cell (i := 7) rfl
  have f_r_7_w7 := x_r.frozen 7
  have c_r_8_w7 := x_r.cell (i := 8) rfl
  have f_r_8_w7 := x_r.frozen 8
  obtain ⟨w8, e_w8, s_w8, h_w8, y⟩ := set_step x_out 6 (.int .i64 d.M.Acct)
  have s_w8_1 := Nat.le_of_eq s_w8
  have s_w8_2 := Nat.le_of_eq s_w8.symm
  clear s_w8
  replace x_a := x_a.chg h_w8 (by omega)
  replace x_r := x_r.chg h_w8 (by omega)
  have B_w8 := Below.chg_ B_w7 h_w8 (by omega) (by omega)
  replace x_out : Vr w8 (w.heap.size + 1 + 1) 29 [.int .i64 d.Kind, .int .i64 d.Acct, .int .i64 d.Other, .int .i64 d.To, .int .i64 d.Amt, .int .i64 d.M.Kind, .int .i64 d.M.Acct, .int .i64 0, .int .i64 0] := y
  clear y
  have c_a_0_w8 := x_a.cell (i := 0) rfl
  have f_a_0_w8 := x_a.frozen 0
  have c_a_1_w8 := x_a.cell (i := 1) rfl
  have f_a_1_w8 := x_a.frozen 1
  have c_a_2_w8 := x_a.cell (i := 2) rfl
  have f_a_2_w8 := x_a.frozen 2
  have c_a_3_w8 := x_a.cell (i := 3) rfl
  have f_a_3_w8 := x_a.frozen 3
  have c_a_4_w8 := x_a.cell (i := 4) rfl
  have f_a_4_w8 := x_a.frozen 4
  have c_a_5_w8 := x_a.cell (i := 5) rfl
  have f_a_5_w8 := x_a.frozen 5
  have c_a_6_w8 := x_a.cell (i := 6) rfl
  have f_a_6_w8 := x_a.frozen 6
  have c_a_7_w8 := x_a.cell (i := 7) rfl
  have f_a_7_w8 := x_a.frozen 7
  have c_a_8_w8 := x_a.cell (i := 8) rfl
  have f_a_8_w8 := x_a.frozen 8
  have c_out_0_w8 := x_out.cell (i := 0) rfl
  have f_out_0_w8 := x_out.frozen 0
  have c_out_1_w8 := x_out.cell (i := 1) rfl
  have f_out_1_w8 := x_out.frozen 1
  have c_out_2_w8 := x_out.cell (i := 2) rfl
  have f_out_2_w8 := x_out.frozen 2
  have c_out_3_w8 := x_out.cell (i := 3) rfl
  have f_out_3_w8 := x_out.frozen 3
  have c_out_4_w8 := x_out.cell (i := 4) rfl
  have f_out_4_w8 := x_out.frozen 4
  have c_out_5_w8 := x_out.cell (i := 5) rfl
  have f_out_5_w8 := x_out.frozen 5
  have c_out_6_w8 := x_out.cell (i := 6) rfl
  have f_out_6_w8 := x_out.frozen 6
  have c_out_7_w8 := x_out.cell (i := 7) rfl
  have f_out_7_w8 := x_out.frozen 7
  have c_out_8_w8 := x_out.cell (i := 8) rfl
  have f_out_8_w8 := x_out.frozen 8
  have c_r_0_w8 := x_r.cell (i := 0) rfl
  have f_r_0_w8 := x_r.frozen 0
  have c_r_1_w8 := x_r.cell (i := 1) rfl
  have f_r_1_w8 := x_r.frozen 1
  have c_r_2_w8 := x_r.cell (i := 2) rfl
  have f_r_2_w8 := x_r.frozen 2
  have c_r_3_w8 := x_r.cell (i := 3) rfl
  have f_r_3_w8 := x_r.frozen 3
  have c_r_4_w8 := x_r.cell (i := 4) rfl
  have f_r_4_w8 := x_r.frozen 4
  have c_r_5_w8 := x_r.cell (i := 5) rfl
  have f_r_5_w8 := x_r.frozen 5
  have c_r_6_w8 := x_r.cell (i := 6) rfl
  have f_r_6_w8 := x_r.frozen 6
  have c_r_7_w8 := x_r.cell (i := 7) rfl
  have f_r_7_w8 := x_r.frozen 7
  have c_r_8_w8 := x_r.cell (i := 8) rfl
  have f_r_8_w8 := x_r.frozen 8
  obtain ⟨w9, e_w9, s_w9, h_w9, y⟩ := set_step x_out 7 (.int .i64 d.M.Amt)
  have s_w9_1 := Nat.le_of_eq s_w9
  have s_w9_2 := Nat.le_of_eq s_w9.symm
  clear s_w9
  replace x_a := x_a.chg h_w9 (by omega)
  replace x_r := x_r.chg h_w9 (by omega)
  have B_w9 := Below.chg_ B_w8 h_w9 (by omega) (by omega)
  replace x_out : Vr w9 (w.heap.size + 1 + 1) 29 [.int .i64 d.Kind, .int .i64 d.Acct, .int .i64 d.Other, .int .i64 d.To, .int .i64 d.Amt, .int .i64 d.M.Kind, .int .i64 d.M.Acct, .int .i64 d.M.Amt, .int .i64 0] := y
  clear y
  have c_a_0_w9 := x_a.cell (i := 0) rfl
  have f_a_0_w9 := x_a.frozen 0
  have c_a_1_w9 := x_a.cell (i := 1) rfl
  have f_a_1_w9 := x_a.frozen 1
  have c_a_2_w9 := x_a.cell (i := 2) rfl
  have f_a_2_w9 := x_a.frozen 2
  have c_a_3_w9 := x_a.cell (i := 3) rfl
  have f_a_3_w9 := x_a.frozen 3
  have c_a_4_w9 := x_a.cell (i := 4) rfl
  have f_a_4_w9 := x_a.frozen 4
  have c_a_5_w9 := x_a.cell (i := 5) rfl
  have f_a_5_w9 := x_a.frozen 5
  have c_a_6_w9 := x_a.cell (i := 6) rfl
  have f_a_6_w9 := x_a.frozen 6
  have c_a_7_w9 := x_a.cell (i := 7) rfl
  have f_a_7_w9 := x_a.frozen 7
  have c_a_8_w9 := x_a.cell (i := 8) rfl
  have f_a_8_w9 := x_a.frozen 8
  have c_out_0_w9 := x_out.cell (i := 0) rfl
  have f_out_0_w9 := x_out.frozen 0
  have c_out_1_w9 := x_out.cell (i := 1) rfl
  have f_out_1_w9 := x_out.frozen 1
  have c_out_2_w9 := x_out.cell (i := 2) rfl
  have f_out_2_w9 := x_out.frozen 2
  have c_out_3_w9 := x_out.cell (i := 3) rfl
  have f_out_3_w9 := x_out.frozen 3
  have c_out_4_w9 := x_out.cell (i := 4) rfl
  have f_out_4_w9 := x_out.frozen 4
  have c_out_5_w9 := x_out.cell (i := 5) rfl
  have f_out_5_w9 := x_out.frozen 5
  have c_out_6_w9 := x_out.cell (i := 6) rfl
  have f_out_6_w9 := x_out.frozen 6
  have c_out_7_w9 := x_out.cell (i := 7) rfl
  have f_out_7_w9 := x_out.frozen 7
  have c_out_8_w9 := x_out.cell (i := 8) rfl
  have f_out_8_w9 := x_out.frozen 8
  have c_r_0_w9 := x_r.cell (i := 0) rfl
  have f_r_0_w9 := x_r.frozen 0
  have c_r_1_w9 := x_r.cell (i := 1) rfl
  have f_r_1_w9 := x_r.frozen 1
  have c_r_2_w9 := x_r.cell (i := 2) rfl
  have f_r_2_w9 := x_r.frozen 2
  have c_r_3_w9 := x_r.cell (i := 3) rfl
  have f_r_3_w9 := x_r.frozen 3
  have c_r_4_w9 := x_r.cell (i := 4) rfl
  have f_r_4_w9 := x_r.frozen 4
  have c_r_5_w9 := x_r.cell (i := 5) rfl
  have f_r_5_w9 := x_r.frozen 5
  have c_r_6_w9 := x_r.cell (i := 6) rfl
  have f_r_6_w9 := x_r.frozen 6
  have c_r_7_w9 := x_r.cell (i := 7) rfl
  have f_r_7_w9 := x_r.frozen 7
  have c_r_8_w9 := x_r.cell (i := 8) rfl
  have f_r_8_w9 := x_r.frozen 8
  obtain ⟨w10, e_w10, s_w10, h_w10, y⟩ := set_step x_out 8 (.int .i64 d.M.Src)
  have s_w10_1 := Nat.le_of_eq s_w10
  have s_w10_2 := Nat.le_of_eq s_w10.symm
  clear s_w10
  replace x_a := x_a.chg h_w10 (by omega)
  replace x_r := x_r.chg h_w10 (by omega)
  have B_w10 := Below.chg_ B_w9 h_w10 (by omega) (by omega)
  replace x_out : Vr w10 (w.heap.size + 1 + 1) 29 [.int .i64 d.Kind, .int .i64 d.Acct, .int .i64 d.Other, .int .i64 d.To, .int .i64 d.Amt, .int .i64 d.M.Kind, .int .i64 d.M.Acct, .int .i64 d.M.Amt, .int .i64 d.M.Src] := y
  clear y
  have c_a_0_w10 := x_a.cell (i := 0) rfl
  have f_a_0_w10 := x_a.frozen 0
  have c_a_1_w10 := x_a.cell (i := 1) rfl
  have f_a_1_w10 := x_a.frozen 1
  have c_a_2_w10 := x_a.cell (i := 2) rfl
  have f_a_2_w10 := x_a.frozen 2
  have c_a_3_w10 := x_a.cell (i := 3) rfl
  have f_a_3_w10 := x_a.frozen 3
  have c_a_4_w10 := x_a.cell (i := 4) rfl
  have f_a_4_w10 := x_a.frozen 4
  have c_a_5_w10 := x_a.cell (i := 5) rfl
  have f_a_5_w10 := x_a.frozen 5
  have c_a_6_w10 := x_a.cell (i := 6) rfl
  have f_a_6_w10 := x_a.frozen 6
  have c_a_7_w10 := x_a.cell (i := 7) rfl
  have f_a_7_w10 := x_a.frozen 7
  have c_a_8_w10 := x_a.cell (i := 8) rfl
  have f_a_8_w10 := x_a.frozen 8
  have c_out_0_w10 := x_out.cell (i := 0) rfl
  have f_out_0_w10 := x_out.frozen 0
  have c_out_1_w10 := x_out.cell (i := 1) rfl
  have f_out_1_w10 := x_out.frozen 1
  have c_out_2_w10 := x_out.cell (i := 2) rfl
  have f_out_2_w10 := x_out.frozen 2
  have c_out_3_w10 := x_out.cell (i := 3) rfl
  have f_out_3_w10 := x_out.frozen 3
  have c_out_4_w10 := x_out.cell (i := 4) rfl
  have f_out_4_w10 := x_out.frozen 4
  have c_out_5_w10 := x_out.cell (i := 5) rfl
  have f_out_5_w10 := x_out.frozen 5
  have c_out_6_w10 := x_out.cell (i := 6) rfl
  have f_out_6_w10 := x_out.frozen 6
  have c_out_7_w10 := x_out.cell (i := 7) rfl
  have f_out_7_w10 := x_out.frozen 7
  have c_out_8_w10 := x_out.cell (i := 8) rfl
  have f_out_8_w10 := x_out.frozen 8
  have c_r_0_w10 := x_r.cell (i := 0) rfl
  have f_r_0_w10 := x_r.frozen 0
  have c_r_1_w10 := x_r.cell (i := 1) rfl
  have f_r_1_w10 := x_r.frozen 1
  have c_r_2_w10 := x_r.cell (i := 2) rfl
  have f_r_2_w10 := x_r.frozen 2
  have c_r_3_w10 := x_r.cell (i := 3) rfl
  have f_r_3_w10 := x_r.frozen 3
  have c_r_4_w10 := x_r.cell (i := 4) rfl
  have f_r_4_w10 := x_r.frozen 4
  have c_r_5_w10 := x_r.cell (i := 5) rfl
  have f_r_5_w10 := x_r.frozen 5
  have c_r_6_w10 := x_r.cell (i := 6) rfl
  have f_r_6_w10 := x_r.frozen 6
  have c_r_7_w10 := x_r.cell (i := 7) rfl
  have f_r_7_w10 := x_r.frozen 7
  have c_r_8_w10 := x_r.cell (i := 8) rfl
  have f_r_8_w10 := x_r.frozen 8
  obtain ⟨w11, e_w11, s_w11, h_w11, y⟩ := store_step x_r [.int .i64 d.Kind, .int .i64 d.Acct, .int .i64 d.Other, .int .i64 d.To, .int .i64 d.Amt, .int .i64 d.M.Kind, .int .i64 d.M.Acct, .int .i64 d.M.Amt, .int .i64 d.M.Src] rfl
  replace e_w11 : (((((((((w10.setCell ⟨w.heap.size + 1, 0, none⟩ (.int .i64 d.Kind)).setCell ⟨w.heap.size + 1, 1, none⟩ (.int .i64 d.Acct)).setCell ⟨w.heap.size + 1, 2, none⟩ (.int .i64 d.Other)).setCell ⟨w.heap.size + 1, 3, none⟩ (.int .i64 d.To)).setCell ⟨w.heap.size + 1, 4, none⟩ (.int .i64 d.Amt)).setCell ⟨w.heap.size + 1, 5, none⟩ (.int .i64 d.M.Kind)).setCell ⟨w.heap.size + 1, 6, none⟩ (.int .i64 d.M.Acct)).setCell ⟨w.heap.size + 1, 7, none⟩ (.int .i64 d.M.Amt)).setCell ⟨w.heap.size + 1, 8, none⟩ (.int .i64 d.M.Src)) = w11 := e_w11
  have s_w11_1 := Nat.le_of_eq s_w11
  have s_w11_2 := Nat.le_of_eq s_w11.symm
  clear s_w11
  replace x_a := x_a.chg h_w11 (by omega)
  replace x_out := x_out.chg h_w11 (by omega)
  have B_w11 := Below.chg_ B_w10 h_w11 (by omega) (by omega)
  replace x_r : Vr w11 (w.heap.size + 1) 29 [.int .i64 d.Kind, .int .i64 d.Acct, .int .i64 d.Other, .int .i64 d.To, .int .i64 d.Amt, .int .i64 d.M.Kind, .int .i64 d.M.Acct, .int .i64 d.M.Amt, .int .i64 d.M.Src] := y
  clear y
  have c_r_0_w11 := x_r.cell (i := 0) rfl
  have f_r_0_w11 := x_r.frozen 0
  have c_r_1_w11 := x_r.cell (i := 1) rfl
  have f_r_1_w11 := x_r.frozen 1
  have c_r_2_w11 := x_r.cell (i := 2) rfl
  have f_r_2_w11 := x_r.frozen 2
  have c_r_3_w11 := x_r.cell (i := 3) rfl
  have f_r_3_w11 := x_r.frozen 3
  have c_r_4_w11 := x_r.cell (i := 4) rfl
  have f_r_4_w11 := x_r.frozen 4
  have c_r_5_w11 := x_r.cell (i := 5) rfl
  have f_r_5_w11 := x_r.frozen 5
  have c_r_6_w11 := x_r.cell (i := 6) rfl
  have f_r_6_w11 := x_r.frozen 6
  have c_r_7_w11 := x_r.cell (i := 7) rfl
  have f_r_7_w11 := x_r.frozen 7
  have c_r_8_w11 := x_r.cell (i := 8) rfl
  have f_r_8_w11 := x_r.frozen 8
  go_wp2
  refine ret_cell (by rfl) (by rfl) x_r Try.underlying29 sz_rec (by rfl) ?_
  exact ⟨_, rfl, ov_rec (by omega), B_w11⟩

set_option maxHeartbeats 1000000 in
theorem eqRec_same {w : World} {v v' : Value} {d : MRec} (h : RV recL w v d) (h' : RV recL w v' d) : Calls Try.prog 18 #[v, v'] w fun e w' => e = .returned (.bool true) ∧ Below w.heap.size w w' := by
  obtain rfl := rv_rec h
  obtain rfl := rv_rec h'
  obtain ⟨wa, hwa, B0, sa, x_a, x_b⟩ := frame2 w 29 [.int .i64 d.Kind, .int .i64 d.Acct, .int .i64 d.Other, .int .i64 d.To, .int .i64 d.Amt, .int .i64 d.M.Kind, .int .i64 d.M.Acct, .int .i64 d.M.Amt, .int .i64 d.M.Src] 29 [.int .i64 d.Kind, .int .i64 d.Acct, .int .i64 d.Other, .int .i64 d.To, .int .i64 d.Amt, .int .i64 d.M.Kind, .int .i64 d.M.Acct, .int .i64 d.M.Amt, .int .i64 d.M.Src]
  have sa_1 := Nat.le_of_eq sa
  have sa_2 := Nat.le_of_eq sa.symm
  clear sa
  have c_a_0_wa := x_a.cell (i := 0) rfl
  have c_a_1_wa := x_a.cell (i := 1) rfl
  have c_a_2_wa := x_a.cell (i := 2) rfl
  have c_a_3_wa := x_a.cell (i := 3) rfl
  have c_a_4_wa := x_a.cell (i := 4) rfl
  have c_a_5_wa := x_a.cell (i := 5) rfl
  have c_a_6_wa := x_a.cell (i := 6) rfl
  have c_a_7_wa := x_a.cell (i := 7) rfl
  have c_a_8_wa := x_a.cell (i := 8) rfl
  have c_b_0_wa := x_b.cell (i := 0) rfl
  have c_b_1_wa := x_b.cell (i := 1) rfl
  have c_b_2_wa := x_b.cell (i := 2) rfl
  have c_b_3_wa := x_b.cell (i := 3) rfl
  have c_b_4_wa := x_b.cell (i := 4) rfl
  have c_b_5_wa := x_b.cell (i := 5) rfl
  have c_b_6_wa := x_b.cell (i := 6) rfl
  have c_b_7_wa := x_b.cell (i := 7) rfl
  have c_b_8_wa := x_b.cell (i := 8) rfl
  go_enter Try.func18, Try.ntmps18
  go_wp2_with fail
  refine (eqMsg_same (d := d.M) rv_msg_mk rv_msg_mk).mono ?_
  rintro e w1 ⟨rfl, h_w1⟩
  clear c_a_0_wa c_a_1_wa c_a_2_wa c_a_3_wa c_a_4_wa c_a_5_wa c_a_6_wa c_a_7_wa c_a_8_wa c_b_0_wa c_b_1_wa c_b_2_wa c_b_3_wa c_b_4_wa c_b_5_wa c_b_6_wa c_b_7_wa c_b_8_wa
  replace x_a := x_a.from_ h_w1
  replace x_b := x_b.from_ h_w1
  have B_w1 := B0.trans (h_w1.mono B0.size)
  have s_w1 := h_w1.size
  have c_a_0_w1 := x_a.cell (i := 0) rfl
  have c_a_1_w1 := x_a.cell (i := 1) rfl
  have c_a_2_w1 := x_a.cell (i := 2) rfl
  have c_a_3_w1 := x_a.cell (i := 3) rfl
  have c_a_4_w1 := x_a.cell (i := 4) rfl
  have c_a_5_w1 := x_a.cell (i := 5) rfl
  have c_a_6_w1 := x_a.cell (i := 6) rfl
  have c_a_7_w1 := x_a.cell (i := 7) rfl
  have c_a_8_w1 := x_a.cell (i := 8) rfl
  have c_b_0_w1 := x_b.cell (i := 0) rfl
  have c_b_1_w1 := x_b.cell (i := 1) rfl
  have c_b_2_w1 := x_b.cell (i := 2) rfl
  have c_b_3_w1 := x_b.cell (i := 3) rfl
  have c_b_4_w1 := x_b.cell (i := 4) rfl
  have c_b_5_w1 := x_b.cell (i := 5) rfl
  have c_b_6_w1 := x_b.cell (i := 6) rfl
  have c_b_7_w1 := x_b.cell (i := 7) rfl
  have c_b_8_w1 := x_b.cell (i := 8) rfl
  go_wp2
  go_ret
  exact ⟨rfl, B_w1⟩

end Go.Proofs.Ytkbhbccpmmhelaa

namespace Go.Proofs.Ytkbhbccpmmhelaa
open Go.RowKit
set_option linter.unusedVariables false

/-- what Amt may be, by kind -/
def amtOkB (k a : Int) : Bool := if k = 1 ∨ k = 2 ∨ k = 3 then amtB a else if k = 4 then inB a 0 3 else if k = 5 then numB a else false
def msgOkB (m : MMsg) : Bool := inB m.Acct 0 2 && (inB m.Src 0 2 && ((m.Kind == 2 || m.Src == 0) && amtOkB m.Kind m.Amt))
/-- what MsgWorth answers -/
def msgWorth (m : MMsg) : Int := if msgOkB m = true ∧ m.Kind ≤ 3 then m.Amt else 0

theorem msgOk_acct {m : MMsg} (h : inB m.Acct 0 2 = false) : msgOkB m = false := by simp [msgOkB, h]
theorem msgOk_src {m : MMsg} (h : inB m.Src 0 2 = false) : msgOkB m = false := by simp [msgOkB, h]
theorem msgOk_two {m : MMsg} (h : m.Kind ≠ 2) (h2 : m.Src ≠ 0) : msgOkB m = false := by simp [msgOkB, h, h2]
theorem msgOk_rest {m : MMsg} (h0 : inB m.Acct 0 2 = true) (h1 : inB m.Src 0 2 = true) (h : m.Kind = 2 ∨ m.Src = 0) : msgOkB m = amtOkB m.Kind m.Amt := by
  unfold msgOkB
  rw [h0, h1]
  rcases h with h | h <;> simp [h]
theorem msgOk_parts {m : MMsg} (h : msgOkB m = true) : (0 ≤ m.Acct ∧ m.Acct ≤ 2) ∧ (0 ≤ m.Src ∧ m.Src ≤ 2) ∧ (m.Kind = 2 ∨ m.Src = 0) ∧ (1 ≤ m.Kind ∧ m.Kind ≤ 5) ∧ (0 ≤ m.Amt ∧ m.Amt ≤ 1125899906842624) := by
  simp only [msgOkB, Bool.and_eq_true, Bool.or_eq_true, beq_iff_eq, inB_true] at h
  obtain ⟨h1, h2, h3, h4⟩ := h
  have h5 : (1 ≤ m.Kind ∧ m.Kind ≤ 5) ∧ (0 ≤ m.Amt ∧ m.Amt ≤ 1125899906842624) := by
    unfold amtOkB at h4
    split at h4
    · unfold amtB at h4; rw [inB_true] at h4; omega
    · split at h4
      · rw [inB_true] at h4; omega
      · split at h4
        · rw [numB_true] at h4; omega
        · cases h4
  exact ⟨h1, h2, h3, h5.1, h5.2⟩

set_option maxHeartbeats 2000000 in
theorem sMsgOk_c {w : World} {v : Value} {m : MMsg} (h : RV msgL w v m) : Calls Try.prog 26 #[v] w fun e w' => e = .returned (.bool (msgOkB m)) ∧ Below w.heap.size w w' := by
  obtain rfl := rv_msg h
  obtain ⟨wa, hwa, B0, sa, x_a⟩ := frame1 w 27 [.int .i64 m.Kind, .int .i64 m.Acct, .int .i64 m.Amt, .int .i64 m.Src]
  have sa_1 := Nat.le_of_eq sa
  have sa_2 := Nat.le_of_eq sa.symm
  clear sa h
  by_cases ha : inB m.Acct 0 2 = true
  case neg =>
    have ha' : inB m.Acct 0 2 = false := by simpa using ha
    rw [msgOk_acct ha']
    have HA := Lib.hid ha'
    clear ha ha'
    have c0 := x_a.cell (i := 0) rfl
    have c1 := x_a.cell (i := 1) rfl
    have c2 := x_a.cell (i := 2) rfl
    have c3 := x_a.cell (i := 3) rfl
    go_enter Try.func26, Try.ntmps26
    go_wp2_with fail
    refine (sIn_any _ _ _ _).mono ?_
    rintro e w' ⟨rfl, rfl⟩
    rw [HA.out]
    go_wp2
    go_ret
    exact ⟨rfl, B0⟩
  have HA := Lib.hid ha
  by_cases hs : inB m.Src 0 2 = true
  case neg =>
    have hs' : inB m.Src 0 2 = false := by simpa using hs
    rw [msgOk_src hs']
    have HS := Lib.hid hs'
    clear ha hs hs'
    have c0 := x_a.cell (i := 0) rfl
    have c1 := x_a.cell (i := 1) rfl
    have c2 := x_a.cell (i := 2) rfl
    have c3 := x_a.cell (i := 3) rfl
    go_enter Try.func26, Try.ntmps26
    go_wp2_with fail
    refine (sIn_any _ _ _ _).mono ?_
    rintro e w' ⟨rfl, rfl⟩
    rw [HA.out]
    go_wp2_with fail
    refine (sIn_any _ _ _ _).mono ?_
    rintro e w' ⟨rfl, rfl⟩
    rw [HS.out]
    go_wp2
    go_ret
    exact ⟨rfl, B0⟩
  have HS := Lib.hid hs
  by_cases h2 : m.Kind = 2 ∨ m.Src = 0
  case neg =>
    rw [msgOk_two (fun e => h2 (.inl e)) (fun e => h2 (.inr e))]
    have k2 : (m.Kind != 2) = true := by simp; exact fun e => h2 (.inl e)
    have k0 : (m.Src != 0) = true := by simp; exact fun e => h2 (.inr e)
    clear ha hs h2
    have c0 := x_a.cell (i := 0) rfl
    have c1 := x_a.cell (i := 1) rfl
    have c2 := x_a.cell (i := 2) rfl
    have c3 := x_a.cell (i := 3) rfl
    go_enter Try.func26, Try.ntmps26
    go_wp2_with fail
    refine (sIn_any _ _ _ _).mono ?_
    rintro e w' ⟨rfl, rfl⟩
    rw [HA.out]
    go_wp2_with fail
    refine (sIn_any _ _ _ _).mono ?_
    rintro e w' ⟨rfl, rfl⟩
    rw [HS.out]
    go_wp2
    go_ret
    exact ⟨rfl, B0⟩
  rw [msgOk_rest ha hs h2]
  clear ha hs
  by_cases e1 : m.Kind = 1
  case pos =>
    rw [show amtOkB m.Kind m.Amt = amtB m.Amt by unfold amtOkB; rw [e1]; simp]
    have k2 : (m.Kind != 2) = true := by simp [e1]
    have k0 : (m.Src != 0) = false := by simp; omega
    rw [e1] at x_a hwa k2 ⊢
    clear h2
    clear e1
    have c0 := x_a.cell (i := 0) rfl
    have c1 := x_a.cell (i := 1) rfl
    have c2 := x_a.cell (i := 2) rfl
    have c3 := x_a.cell (i := 3) rfl
    go_enter Try.func26, Try.ntmps26
    go_wp2_with fail
    refine (sIn_any _ _ _ _).mono ?_
    rintro e w' ⟨rfl, rfl⟩
    rw [HA.out]
    go_wp2_with fail
    refine (sIn_any _ _ _ _).mono ?_
    rintro e w' ⟨rfl, rfl⟩
    rw [HS.out]
    go_wp2_with fail
    refine (sAmt_any _ _).mono ?_
    rintro e w' ⟨rfl, rfl⟩
    go_wp2
    go_ret
    exact ⟨rfl, B0⟩
  by_cases e2 : m.Kind = 2
  case pos =>
    rw [show amtOkB m.Kind m.Amt = amtB m.Amt by unfold amtOkB; rw [e2]; simp]
    have k2 : (m.Kind != 2) = false := by simp [e2]
    rw [e2] at x_a hwa k2 ⊢
    clear h2
    clear e2
    have c0 := x_a.cell (i := 0) rfl
    have c1 := x_a.cell (i := 1) rfl
    have c2 := x_a.cell (i := 2) rfl
    have c3 := x_a.cell (i := 3) rfl
    go_enter Try.func26, Try.ntmps26
    go_wp2_with fail
    refine (sIn_any _ _ _ _).mono ?_
    rintro e w' ⟨rfl, rfl⟩
    rw [HA.out]
    go_wp2_with fail
    refine (sIn_any _ _ _ _).mono ?_
    rintro e w' ⟨rfl, rfl⟩
    rw [HS.out]
    go_wp2_with fail
    refine (sAmt_any _ _).mono ?_
    rintro e w' ⟨rfl, rfl⟩
    go_wp2
    go_ret
    exact ⟨rfl, B0⟩
  by_cases e3 : m.Kind = 3
  case pos =>
    rw [show amtOkB m.Kind m.Amt = amtB m.Amt by unfold amtOkB; rw [e3]; simp]
    have k2 : (m.Kind != 2) = true := by simp [e3]
    have k0 : (m.Src != 0) = false := by simp; omega
    rw [e3] at x_a hwa k2 ⊢
    clear h2
    clear e3
    have c0 := x_a.cell (i := 0) rfl
    have c1 := x_a.cell (i := 1) rfl
    have c2 := x_a.cell (i := 2) rfl
    have c3 := x_a.cell (i := 3) rfl
    go_enter Try.func26, Try.ntmps26
    go_wp2_with fail
    refine (sIn_any _ _ _ _).mono ?_
    rintro e w' ⟨rfl, rfl⟩
    rw [HA.out]
    go_wp2_with fail
    refine (sIn_any _ _ _ _).mono ?_
    rintro e w' ⟨rfl, rfl⟩
    rw [HS.out]
    go_wp2_with fail
    refine (sAmt_any _ _).mono ?_
    rintro e w' ⟨rfl, rfl⟩
    go_wp2
    go_ret
    exact ⟨rfl, B0⟩
  by_cases e4 : m.Kind = 4
  case pos =>
    rw [show amtOkB m.Kind m.Amt = inB m.Amt 0 3 by unfold amtOkB; rw [e4]; simp]
    have k2 : (m.Kind != 2) = true := by simp [e4]
    have k0 : (m.Src != 0) = false := by simp; omega
    rw [e4] at x_a hwa k2 ⊢
    clear h2
    clear e4
    have c0 := x_a.cell (i := 0) rfl
    have c1 := x_a.cell (i := 1) rfl
    have c2 := x_a.cell (i := 2) rfl
    have c3 := x_a.cell (i := 3) rfl
    go_enter Try.func26, Try.ntmps26
    go_wp2_with fail
    refine (sIn_any _ _ _ _).mono ?_
    rintro e w' ⟨rfl, rfl⟩
    rw [HA.out]
    go_wp2_with fail
    refine (sIn_any _ _ _ _).mono ?_
    rintro e w' ⟨rfl, rfl⟩
    rw [HS.out]
    go_wp2_with fail
    refine (sIn_any _ _ _ _).mono ?_
    rintro e w' ⟨rfl, rfl⟩
    go_wp2
    go_ret
    exact ⟨rfl, B0⟩
  by_cases e5 : m.Kind = 5
  case pos =>
    rw [show amtOkB m.Kind m.Amt = numB m.Amt by unfold amtOkB; rw [e5]; simp]
    have k2 : (m.Kind != 2) = true := by simp [e5]
    have k0 : (m.Src != 0) = false := by simp; omega
    rw [e5] at x_a hwa k2 ⊢
    clear h2
    clear e5
    have c0 := x_a.cell (i := 0) rfl
    have c1 := x_a.cell (i := 1) rfl
    have c2 := x_a.cell (i := 2) rfl
    have c3 := x_a.cell (i := 3) rfl
    go_enter Try.func26, Try.ntmps26
    go_wp2_with fail
    refine (sIn_any _ _ _ _).mono ?_
    rintro e w' ⟨rfl, rfl⟩
    rw [HA.out]
    go_wp2_with fail
    refine (sIn_any _ _ _ _).mono ?_
    rintro e w' ⟨rfl, rfl⟩
    rw [HS.out]
    go_wp2_with fail
    refine (sNum_any _ _).mono ?_
    rintro e w' ⟨rfl, rfl⟩
    go_wp2
    go_ret
    exact ⟨rfl, B0⟩
  rw [show amtOkB m.Kind m.Amt = false by simp [amtOkB, e1, e2, e3, e4, e5]]
  have k2 : (m.Kind != 2) = true := by simp [e2]
  have k0 : (m.Src != 0) = false := by simp; omega
  have q1 : (m.Kind == 1) = false := by simp [e1]
  have q2 : (m.Kind == 2) = false := by simp [e2]
  have q3 : (m.Kind == 3) = false := by simp [e3]
  have q4 : (m.Kind == 4) = false := by simp [e4]
  have q5 : (m.Kind == 5) = false := by simp [e5]
  clear h2 e1 e2 e3 e4 e5
  have c0 := x_a.cell (i := 0) rfl
  have c1 := x_a.cell (i := 1) rfl
  have c2 := x_a.cell (i := 2) rfl
  have c3 := x_a.cell (i := 3) rfl
  go_enter Try.func26, Try.ntmps26
  go_wp2_with fail
  refine (sIn_any _ _ _ _).mono ?_
  rintro e w' ⟨rfl, rfl⟩
  rw [HA.out]
  go_wp2_with fail
  refine (sIn_any _ _ _ _).mono ?_
  rintro e w' ⟨rfl, rfl⟩
  rw [HS.out]
  go_wp2
  go_ret
  exact ⟨rfl, B0⟩

/-- the words of the kinds: rights, credit, bounce, mark, report -/
def msgName (k : Int) : ByteArray :=
  if k = 1 then ⟨#[114, 105, 103, 104, 116, 115]⟩ else if k = 2 then ⟨#[99, 114, 101, 100, 105, 116]⟩ else if k = 3 then ⟨#[98, 111, 117, 110, 99, 101]⟩ else if k = 4 then ⟨#[109, 97, 114, 107]⟩ else if k = 5 then ⟨#[114, 101, 112, 111, 114, 116]⟩ else ⟨#[]⟩

end Go.Proofs.Ytkbhbccpmmhelaa

namespace Go.Proofs.Ytkbhbccpmmhelaa
open Go.RowKit
set_option linter.unusedVariables false

deriving instance DecidableEq for MMsg

theorem msg_held : Try.prog.stoodInHeld 27 = false := by kernel_rfl
theorem msg_guard : Try.prog.eqGuardType Try.prog.depth 27 = false := by kernel_rfl

theorem msg_fields : Try.prog.underlying 27 = some (.struct (Try.prog.fieldsOf 27)) := by
  unfold Program.fieldsOf; rw [Try.underlying27]

theorem eq_msg_run (d : Nat) (W : World) (a b : MMsg) : (Op.equalIn (d + 2) 27 (.agg #[.int .i64 a.Kind, .int .i64 a.Acct, .int .i64 a.Amt, .int .i64 a.Src]) (.agg #[.int .i64 b.Kind, .int .i64 b.Acct, .int .i64 b.Amt, .int .i64 b.Src])).run Try.prog W = .ok (decide (a = b)) W := by
  rw [run_equalIn_agg W (d + 1) _ _ _ msg_fields msg_held]
  unfold Program.fieldsOf
  rw [Try.underlying27]
  have hu : Try.prog.underlying 3 = some (.int .i64) := Try.underlying3
  obtain ⟨a1, a2, a3, a4⟩ := a
  obtain ⟨b1, b2, b3, b4⟩ := b
  simp [Op.eqFields, go_sem, hu]
  by_cases e1 : a1 = b1 <;> by_cases e2 : a2 = b2 <;> by_cases e3 : a3 = b3 <;> by_cases e4 : a4 = b4 <;> simp [e1, e2, e3, e4]

theorem neq_msg_run (W : World) (a b : MMsg) : (binOp .neq 27 (.agg #[.int .i64 a.Kind, .int .i64 a.Acct, .int .i64 a.Amt, .int .i64 a.Src]) (.agg #[.int .i64 b.Kind, .int .i64 b.Acct, .int .i64 b.Amt, .int .i64 b.Src])).run Try.prog W = .ok (.bool (!decide (a = b))) W := by
  rw [run_neq_struct, eq_msg_run 9998]; rfl
theorem eql_msg_run (W : World) (a b : MMsg) : (binOp .eql 27 (.agg #[.int .i64 a.Kind, .int .i64 a.Acct, .int .i64 a.Amt, .int .i64 a.Src]) (.agg #[.int .i64 b.Kind, .int .i64 b.Acct, .int .i64 b.Amt, .int .i64 b.Src])).run Try.prog W = .ok (.bool (decide (a = b))) W := by
  rw [run_eql_struct, eq_msg_run 9998]; rfl
theorem guard_msg_run (op : BinOp) (x y : Operand) (W : World) (xs ys : Array Value) : (eqGuard op 27 x y (.agg xs) (.agg ys)).run Try.prog W = .ok () W := run_eqGuard_agg W op _ x y xs ys msg_guard

end Go.Proofs.Ytkbhbccpmmhelaa

namespace Go.Proofs.Ytkbhbccpmmhelaa
open Go.RowKit
set_option linter.unusedVariables false

/-- which of Acct, Other, To, Amt a kind uses -/
def kAcct (k : Int) : Bool := k != 5 && k != 6
def kOther (k : Int) : Bool := k == 4
def kTo (k : Int) : Bool := k == 3 || k == 4 || k == 5 || k == 6 || k == 8 || k == 9
def kAmt (k : Int) : Bool := k != 9
/-- what Amt may be, by kind -/
def recAmtB (k a : Int) : Bool := if k ≤ 4 then amtB a else (numB a && (k == 6 || k == 9 || a != 0))
def recMsgB (r : MRec) : Bool := if r.Kind = 5 then msgOkB r.M else decide (r.M = ⟨0, 0, 0, 0⟩)
def recOkB (r : MRec) : Bool := inB r.Kind 1 9 && (inB r.Acct 0 2 && (inB r.Other 0 2 && (inB r.To 0 3 && ((kAcct r.Kind || r.Acct == 0) && ((kOther r.Kind || r.Other == 0) && ((kTo r.Kind || r.To == 0) && ((kAmt r.Kind || r.Amt == 0) && (recAmtB r.Kind r.Amt && recMsgB r))))))))
def recZ : MRec := ⟨0, 0, 0, 0, 0, ⟨0, 0, 0, 0⟩⟩

/-- the words of the kinds -/
def rkName (k : Int) : ByteArray :=
  if k = 1 then ⟨#[99, 111, 109, 101]⟩ else if k = 2 then ⟨#[119, 101, 110, 116]⟩ else if k = 3 then ⟨#[103, 105, 118, 101]⟩ else if k = 4 then ⟨#[109, 111, 118, 101]⟩ else if k = 5 then ⟨#[116, 111, 111, 107]⟩ else if k = 6 then ⟨#[104, 101, 97, 114, 100]⟩ else if k = 7 then ⟨#[112, 114, 111, 109]⟩ else if k = 8 then ⟨#[118, 111, 116, 101]⟩ else if k = 9 then ⟨#[115, 104, 117, 116]⟩ else ⟨#[]⟩
theorem recOk_kind {r : MRec} (h : inB r.Kind 1 9 = false) : recOkB r = false := by simp [recOkB, h]
theorem recOk_acct {r : MRec} (h : inB r.Acct 0 2 = false) : recOkB r = false := by simp [recOkB, h]
theorem recOk_other {r : MRec} (h : inB r.Other 0 2 = false) : recOkB r = false := by simp [recOkB, h]
theorem recOk_to {r : MRec} (h : inB r.To 0 3 = false) : recOkB r = false := by simp [recOkB, h]
theorem amtB_parts {a : Int} (h : amtB a = true) : 1 ≤ a ∧ a ≤ 1000000000 := by unfold amtB at h; exact inB_true.1 h
/-- what a valid record's numbers are -/
theorem recOk_parts {r : MRec} (h : recOkB r = true) : (1 ≤ r.Kind ∧ r.Kind ≤ 9) ∧ (0 ≤ r.Acct ∧ r.Acct ≤ 2) ∧ (0 ≤ r.Other ∧ r.Other ≤ 2) ∧ (0 ≤ r.To ∧ r.To ≤ 3) ∧ (0 ≤ r.Amt ∧ r.Amt ≤ 1125899906842624) ∧ (r.Kind = 5 → msgOkB r.M = true) ∧ (r.Kind ≠ 5 → r.M = ⟨0, 0, 0, 0⟩) := by
  simp only [recOkB, Bool.and_eq_true, inB_true] at h
  obtain ⟨h1, h2, h3, h4, h5, h6, h7, h8, h9, h10⟩ := h
  refine ⟨h1, h2, h3, h4, ?_, ?_, ?_⟩
  · unfold recAmtB at h9
    split at h9
    · have := amtB_parts h9; omega
    · simp only [Bool.and_eq_true, numB_true] at h9; omega
  · intro e; simpa [recMsgB, e] using h10
  · intro e; simpa [recMsgB, e] using h10

end Go.Proofs.Ytkbhbccpmmhelaa

namespace Go.Proofs.Ytkbhbccpmmhelaa
open Go.RowKit
set_option linter.unusedVariables false

theorem sNode4_any (n : Int) (w : World) : Calls Try.prog 23 #[.int .i64 n] w fun e w' => e = .returned (.bool (inB n 0 3)) ∧ w = w' := by
  go_enter Try.func23, Try.ntmps23
  go_wp2_with fail
  refine (sIn_any _ _ _ _).mono ?_
  rintro e w' ⟨rfl, rfl⟩
  go_wp2
  go_ret
  exact ⟨rfl, rfl⟩

theorem results_tmp4 {fn : Func} {t u v x : Tmp} (h : fn.results = #[.tmp t, .tmp u, .tmp v, .tmp x]) (tmps : Array Value) (P : Program) (w : World) :
    (results fn tmps).run P w = .ok (.tuple #[tmps.getD t undef, tmps.getD u undef, tmps.getD v undef, tmps.getD x undef]) w := by
  simp [results, h]

set_option maxHeartbeats 2000000 in
theorem sHas_c (k : Int) (w : World) : Calls Try.prog 21 #[.int .i64 k] w fun e w' => e = .returned (.tuple #[.bool (kAcct k), .bool (kOther k), .bool (kTo k), .bool (kAmt k)]) ∧ w = w' := by
  by_cases h15 : 1 ≤ k ∧ k ≤ 9
  case pos =>
    have h5 : k = 1 ∨ k = 2 ∨ k = 3 ∨ k = 4 ∨ k = 5 ∨ k = 6 ∨ k = 7 ∨ k = 8 ∨ k = 9 := by omega
    clear h15
    rcases h5 with rfl | rfl | rfl | rfl | rfl | rfl | rfl | rfl | rfl
    all_goals
      go_enter Try.func21, Try.ntmps21
      go_wp2
      refine bodyPost_ret (results_tmp4 rfl _ _ _) rfl ?_
      exact ⟨rfl, rfl⟩
  have e0 : kAcct k = true ∧ kOther k = false ∧ kTo k = false ∧ kAmt k = true := by simp [kAcct, kOther, kTo, kAmt]; omega
  rw [e0.1, e0.2.1, e0.2.2.1, e0.2.2.2]
  have n5 : (k != 5) = true := by simp; omega
  have n6 : (k != 6) = true := by simp; omega
  have n9 : (k != 9) = true := by simp; omega
  have q3 : (k == 3) = false := by simp; omega
  have q4 : (k == 4) = false := by simp; omega
  have q5 : (k == 5) = false := by simp; omega
  have q6 : (k == 6) = false := by simp; omega
  have q8 : (k == 8) = false := by simp; omega
  have q9 : (k == 9) = false := by simp; omega
  clear h15 e0
  go_enter Try.func21, Try.ntmps21
  go_wp2
  refine bodyPost_ret (results_tmp4 rfl _ _ _) rfl ?_
  exact ⟨rfl, rfl⟩

theorem sHas_1 (w : World) : Calls Try.prog 21 #[.int .i64 1] w fun e w' => e = .returned (.tuple #[.bool true, .bool false, .bool false, .bool true]) ∧ w = w' := by
  have hh := sHas_c 1 w
  rw [show kAcct 1 = true from rfl, show kOther 1 = false from rfl, show kTo 1 = false from rfl, show kAmt 1 = true from rfl] at hh
  exact hh
theorem sHas_2 (w : World) : Calls Try.prog 21 #[.int .i64 2] w fun e w' => e = .returned (.tuple #[.bool true, .bool false, .bool false, .bool true]) ∧ w = w' := by
  have hh := sHas_c 2 w
  rw [show kAcct 2 = true from rfl, show kOther 2 = false from rfl, show kTo 2 = false from rfl, show kAmt 2 = true from rfl] at hh
  exact hh
theorem sHas_3 (w : World) : Calls Try.prog 21 #[.int .i64 3] w fun e w' => e = .returned (.tuple #[.bool true, .bool false, .bool true, .bool true]) ∧ w = w' := by
  have hh := sHas_c 3 w
  rw [show kAcct 3 = true from rfl, show kOther 3 = false from rfl, show kTo 3 = true from rfl, show kAmt 3 = true from rfl] at hh
  exact hh
theorem sHas_4 (w : World) : Calls Try.prog 21 #[.int .i64 4] w fun e w' => e = .returned (.tuple #[.bool true, .bool true, .bool true, .bool true]) ∧ w = w' := by
  have hh := sHas_c 4 w
  rw [show kAcct 4 = true from rfl, show kOther 4 = true from rfl, show kTo 4 = true from rfl, show kAmt 4 = true from rfl] at hh
  exact hh
theorem sHas_5 (w : World) : Calls Try.prog 21 #[.int .i64 5] w fun e w' => e = .returned (.tuple #[.bool false, .bool false, .bool true, .bool true]) ∧ w = w' := by
  have hh := sHas_c 5 w
  rw [show kAcct 5 = false from rfl, show kOther 5 = false from rfl, show kTo 5 = true from rfl, show kAmt 5 = true from rfl] at hh
  exact hh
theorem sHas_6 (w : World) : Calls Try.prog 21 #[.int .i64 6] w fun e w' => e = .returned (.tuple #[.bool false, .bool false, .bool true, .bool true]) ∧ w = w' := by
  have hh := sHas_c 6 w
  rw [show kAcct 6 = false from rfl, show kOther 6 = false from rfl, show kTo 6 = true from rfl, show kAmt 6 = true from rfl] at hh
  exact hh
theorem sHas_7 (w : World) : Calls Try.prog 21 #[.int .i64 7] w fun e w' => e = .returned (.tuple #[.bool true, .bool false, .bool false, .bool true]) ∧ w = w' := by
  have hh := sHas_c 7 w
  rw [show kAcct 7 = true from rfl, show kOther 7 = false from rfl, show kTo 7 = false from rfl, show kAmt 7 = true from rfl] at hh
  exact hh
theorem sHas_8 (w : World) : Calls Try.prog 21 #[.int .i64 8] w fun e w' => e = .returned (.tuple #[.bool true, .bool false, .bool true, .bool true]) ∧ w = w' := by
  have hh := sHas_c 8 w
  rw [show kAcct 8 = true from rfl, show kOther 8 = false from rfl, show kTo 8 = true from rfl, show kAmt 8 = true from rfl] at hh
  exact hh
theorem sHas_9 (w : World) : Calls Try.prog 21 #[.int .i64 9] w fun e w' => e = .returned (.tuple #[.bool true, .bool false, .bool true, .bool false]) ∧ w = w' := by
  have hh := sHas_c 9 w
  rw [show kAcct 9 = true from rfl, show kOther 9 = false from rfl, show kTo 9 = true from rfl, show kAmt 9 = false from rfl] at hh
  exact hh
end Go.Proofs.Ytkbhbccpmmhelaa

namespace Go.Proofs.Ytkbhbccpmmhelaa
open Go.RowKit
set_option linter.unusedVariables false

set_option maxHeartbeats 400000 in
theorem sPut_any (A : Option Addr) (c : Nat) (zs : List Int) (N : Nat) (w : World) (hr : Rd .u8 w w.heap.size A zs) (hm : zs.length ≤ 1073741824) (hN : N ≤ 1125899906842624) :
    Calls Try.prog 33 #[.slice A zs.length c, .int .i64 N] w (Grows w.heap.size w (zs ++ enc N)) := by
  go_enter Try.func33, Try.ntmps33
  go_wp2_with fail
  refine (sPutNum_any A c zs (N : Int) w hr hm (by omega) (by omega)).mono ?_
  rintro e w1 ⟨v, rfl, ho, hb⟩
  have hp : putL zs (N : Int) = zs ++ enc N := by unfold putL; rw [if_pos (numB_true.2 (by omega)), Int.toNat_natCast]
  rw [hp] at ho
  clear hp
  go_wp2
  go_ret
  exact ⟨v, rfl, ho, hb⟩

theorem putsL_true {zs ns : List Int} (h : ns.all numB = true) : putsL zs ns = zs ++ encs ns := by unfold putsL; rw [if_pos h]
theorem putsL_false {zs ns : List Int} (h : ns.all numB = false) : putsL zs ns = [] := by unfold putsL; rw [h]; simp
theorem all_cons {N : Nat} {ns : List Int} (hN : N ≤ 1125899906842624) : ((N : Int) :: ns).all numB = ns.all numB := by
  rw [List.all_cons, numB_true.2 (by omega), Bool.true_and]
theorem encs_cons (N : Nat) (ns : List Int) : encs ((N : Int) :: ns) = enc N ++ encs ns := by simp [encs]

end Go.Proofs.Ytkbhbccpmmhelaa

namespace Go.Proofs.Ytkbhbccpmmhelaa
open Go.RowKit
set_option linter.unusedVariables false

theorem sPut_c {w : World} {v : Value} {zs : List Int} {n : Int} (h : RS .u8 w v zs) (hn : 0 ≤ n ∧ n ≤ 1125899906842624) (hm : zs.length ≤ 1073741824) : Calls Try.prog 33 #[v, .int .i64 n] w (NewS .u8 5 w (zs ++ enc n.toNat)) := by
  obtain ⟨A, c, rfl, _, _, hr⟩ := h
  obtain ⟨N, rfl⟩ : ∃ N : Nat, n = (N : Int) := ⟨n.toNat, by omega⟩
  rw [Int.toNat_natCast]
  exact (sPut_any A c zs N w hr hm (by omega)).mono fun e w' ⟨v, he, ho, hb⟩ => ⟨v, he, OS.mk_ ho, hb⟩

/-- the numbers of a message -/
def msgNums (m : MMsg) : List Int := [m.Kind, m.Acct, m.Amt, m.Src]
/-- what MsgPut answers -/
def msgPut (zs : List Int) (m : MMsg) : List Int := if msgOkB m then zs ++ encs (msgNums m) else []
theorem msgNums_ok {m : MMsg} (h : msgOkB m = true) : (msgNums m).all numB = true := by
  obtain ⟨h1, h2, h3, h4, h5⟩ := msgOk_parts h
  have k1 := numB_true.2 (show 0 ≤ m.Kind ∧ m.Kind ≤ 1125899906842624 by omega)
  have k2 := numB_true.2 (show 0 ≤ m.Acct ∧ m.Acct ≤ 1125899906842624 by omega)
  have k3 := numB_true.2 (show 0 ≤ m.Amt ∧ m.Amt ≤ 1125899906842624 by omega)
  have k4 := numB_true.2 (show 0 ≤ m.Src ∧ m.Src ≤ 1125899906842624 by omega)
  simp [msgNums, k1, k2, k3, k4]
theorem msgPut_len (zs : List Int) (m : MMsg) : (msgPut zs m).length ≤ zs.length + 32 := by
  unfold msgPut
  split
  · rename_i h
    have := encs_len _ (msgNums_ok h)
    rw [List.length_append]
    simp [msgNums] at this ⊢
    omega
  · simp

set_option maxRecDepth 100000 in
set_option maxHeartbeats 4000000 in
theorem sMsgPut_c {w : World} {v v' : Value} {zs : List Int} {m : MMsg} (h : RS .u8 w v zs) (h' : RV msgL w v' m) (hm : zs.length ≤ 1073741000) :
    Calls Try.prog 34 #[v, v'] w (NewSB w (msgPut zs m) (msgOkB m)) := by
  have h0 := h
  obtain ⟨A, c, rfl, p1, p2, hr⟩ := h0
  have h1 := h'
  obtain rfl := rv_msg h1
  clear h1
  obtain ⟨wa, hwa, B0, sa, x_a⟩ := frame1 w 27 [.int .i64 m.Kind, .int .i64 m.Acct, .int .i64 m.Amt, .int .i64 m.Src]
  have sa_1 := Nat.le_of_eq sa
  have sa_2 := Nat.le_of_eq sa.symm
  clear sa
  have c_a_0_wa := x_a.cell (i := 0) rfl
  have c_a_1_wa := x_a.cell (i := 1) rfl
  have c_a_2_wa := x_a.cell (i := 2) rfl
  have c_a_3_wa := x_a.cell (i := 3) rfl
  by_cases ho : msgOkB m = true
  case neg =>
    have ho' : msgOkB m = false := by simpa using ho
    have HO := Lib.hid ho'
    have HP : Hid (msgPut zs m = []) := by show _ = _; unfold msgPut; rw [if_neg ho]
    clear ho ho'
    go_enter Try.func34, Try.ntmps34
    go_wp2_with fail
    refine (sMsgOk_c (h'.from_ B0)).mono ?_
    rintro e w1 ⟨rfl, h_w1⟩
    clear c_a_0_wa c_a_1_wa c_a_2_wa c_a_3_wa
    replace x_a := x_a.from_ h_w1
    have B_w1 := B0.trans (h_w1.mono B0.size)
    have s_w1 := h_w1.size
    rw [HO.out]
    go_wp2
    go_ret2
    exact ⟨_, by rw [HO.out]; rfl, by rw [HP.out]; exact os_none _ _, B_w1⟩
  have hp := msgOk_parts ho
  obtain ⟨q1, q2, -, q3, q4⟩ := hp
  obtain ⟨L1, hL1⟩ : ∃ L, zs ++ enc m.Kind.toNat = L := ⟨_, rfl⟩
  have lL1 : L1.length ≤ zs.length + 8 := by rw [← hL1, List.length_append]; have := enc_len8 m.Kind.toNat (by omega); omega
  have HL1 := Lib.hid hL1
  obtain ⟨L2, hL2⟩ : ∃ L, L1 ++ enc m.Acct.toNat = L := ⟨_, rfl⟩
  have lL2 : L2.length ≤ L1.length + 8 := by rw [← hL2, List.length_append]; have := enc_len8 m.Acct.toNat (by omega); omega
  have HL2 := Lib.hid hL2
  obtain ⟨L3, hL3⟩ : ∃ L, L2 ++ enc m.Amt.toNat = L := ⟨_, rfl⟩
  have lL3 : L3.length ≤ L2.length + 8 := by rw [← hL3, List.length_append]; have := enc_len8 m.Amt.toNat (by omega); omega
  have HL3 := Lib.hid hL3
  obtain ⟨L4, hL4⟩ : ∃ L, L3 ++ enc m.Src.toNat = L := ⟨_, rfl⟩
  have lL4 : L4.length ≤ L3.length + 8 := by rw [← hL4, List.length_append]; have := enc_len8 m.Src.toNat (by omega); omega
  have HL4 := Lib.hid hL4
  have HP : Hid (msgPut zs m = L4) := by show _ = _; unfold msgPut; rw [if_pos ho, ← hL4, ← hL3, ← hL2, ← hL1]; simp [encs, msgNums]
  have HO := Lib.hid ho
  clear ho hL1 hL2 hL3 hL4
  go_enter Try.func34, Try.ntmps34
  go_wp2_with fail
  refine (sMsgOk_c (h'.from_ B0)).mono ?_
  rintro e w1 ⟨rfl, h_w1⟩
  clear c_a_0_wa c_a_1_wa c_a_2_wa c_a_3_wa
  replace x_a := x_a.from_ h_w1
  have B_w1 := B0.trans (h_w1.mono B0.size)
  have s_w1 := h_w1.size
  rw [HO.out]
  have c_a_0_w1 := x_a.cell (i := 0) rfl
  have c_a_1_w1 := x_a.cell (i := 1) rfl
  have c_a_2_w1 := x_a.cell (i := 2) rfl
  have c_a_3_w1 := x_a.cell (i := 3) rfl
  have r_b := h.from_ B_w1
  go_wp2_with fail
  go_region_held3 (fun w' => w'.cell? ⟨w.heap.size, 0, none⟩ = some (.int .i64 m.Kind) ∧ w'.cell? ⟨w.heap.size, 1, none⟩ = some (.int .i64 m.Acct) ∧ w'.cell? ⟨w.heap.size, 2, none⟩ = some (.int .i64 m.Amt) ∧ w'.cell? ⟨w.heap.size, 3, none⟩ = some (.int .i64 m.Src))
    (first | exact ⟨c_a_0_w1, c_a_1_w1, c_a_2_w1, c_a_3_w1⟩ | exact ⟨qz1_a_0, qz1_a_1, qz1_a_2, qz1_a_3⟩ | exact ⟨qz2_a_0, qz2_a_1, qz2_a_2, qz2_a_3⟩ | exact ⟨qz3_a_0, qz3_a_1, qz3_a_2, qz3_a_3⟩ | exact ⟨qz4_a_0, qz4_a_1, qz4_a_2, qz4_a_3⟩ | go_keep)
    (first | ((go_at_call_of 33 (Value.slice A zs.length c)); (refine (sPut_c (r_b.from_ ((Below.refl w1.heap.size w1).drew)) (by omega) (by omega)).mono ?_); rintro e w_z1 ⟨v_z1, rfl, o_z1, hd_z1⟩; have hb_z1 : Below w1.heap.size w1 w_z1 := (Below.refl w1.heap.size w1).drew.trans hd_z1; have sd_z1 := hd_z1.size; replace sd_z1 : w1.heap.size ≤ w_z1.heap.size := sd_z1; have qz1_a_0 := (x_a.from_ hb_z1).cell (i := 0) rfl; have qz1_a_1 := (x_a.from_ hb_z1).cell (i := 1) rfl; have qz1_a_2 := (x_a.from_ hb_z1).cell (i := 2) rfl; have qz1_a_3 := (x_a.from_ hb_z1).cell (i := 3) rfl; rw [HL1.out] at o_z1; obtain ⟨Az1, cz1, rfl, -, -, -⟩ := o_z1.rd)
           | ((go_at_call_of 33 (Value.slice Az1 L1.length cz1)); (refine (sPut_c o_z1.rd (by omega) (by omega)).mono ?_); rintro e w_z2 ⟨v_z2, rfl, o_z2, hd_z2⟩; have hb_z2 : Below w1.heap.size w1 w_z2 := hb_z1.trans (hd_z2.mono hb_z1.size); have sd_z2 := hd_z2.size; have qz2_a_0 := (x_a.from_ hb_z2).cell (i := 0) rfl; have qz2_a_1 := (x_a.from_ hb_z2).cell (i := 1) rfl; have qz2_a_2 := (x_a.from_ hb_z2).cell (i := 2) rfl; have qz2_a_3 := (x_a.from_ hb_z2).cell (i := 3) rfl; replace o_z1 := o_z1.below hd_z2; rw [HL2.out] at o_z2; obtain ⟨Az2, cz2, rfl, -, -, -⟩ := o_z2.rd)
           | ((go_at_call_of 33 (Value.slice Az2 L2.length cz2)); (refine (sPut_c o_z2.rd (by omega) (by omega)).mono ?_); rintro e w_z3 ⟨v_z3, rfl, o_z3, hd_z3⟩; have hb_z3 : Below w1.heap.size w1 w_z3 := hb_z2.trans (hd_z3.mono hb_z2.size); have sd_z3 := hd_z3.size; have qz3_a_0 := (x_a.from_ hb_z3).cell (i := 0) rfl; have qz3_a_1 := (x_a.from_ hb_z3).cell (i := 1) rfl; have qz3_a_2 := (x_a.from_ hb_z3).cell (i := 2) rfl; have qz3_a_3 := (x_a.from_ hb_z3).cell (i := 3) rfl; replace o_z1 := o_z1.below hd_z3; replace o_z2 := o_z2.below hd_z3; rw [HL3.out] at o_z3; obtain ⟨Az3, cz3, rfl, -, -, -⟩ := o_z3.rd)
           | ((go_at_call_of 33 (Value.slice Az3 L3.length cz3)); (refine (sPut_c o_z3.rd (by omega) (by omega)).mono ?_); rintro e w_z4 ⟨v_z4, rfl, o_z4, hd_z4⟩; have hb_z4 : Below w1.heap.size w1 w_z4 := hb_z3.trans (hd_z4.mono hb_z3.size); have sd_z4 := hd_z4.size; have qz4_a_0 := (x_a.from_ hb_z4).cell (i := 0) rfl; have qz4_a_1 := (x_a.from_ hb_z4).cell (i := 1) rfl; have qz4_a_2 := (x_a.from_ hb_z4).cell (i := 2) rfl; have qz4_a_3 := (x_a.from_ hb_z4).cell (i := 3) rfl; replace o_z1 := o_z1.below hd_z4; replace o_z2 := o_z2.below hd_z4; replace o_z3 := o_z3.below hd_z4; rw [HL4.out] at o_z4; obtain ⟨Az4, cz4, rfl, -, -, -⟩ := o_z4.rd)
           | fail)
  clear c_a_0_w1 c_a_1_w1 c_a_2_w1 c_a_3_w1
  have dz_w1 : w1.drew.heap.size = w1.heap.size := rfl
  replace x_a := x_a.from_ hb_z4
  have B_z4 := B_w1.trans (hb_z4.mono B_w1.size)
  have sz_z4 := hb_z4.size
  go_wp2
  go_ret2
  have sq := B_z4.size
  exact ⟨_, by rw [HO.out]; rfl, by rw [HP.out]; exact o_z4.widen (by omega) (Nat.le_refl _) (Nat.le_refl _), B_z4⟩

end Go.Proofs.Ytkbhbccpmmhelaa

namespace Go.Proofs.Ytkbhbccpmmhelaa
open Go.RowKit
set_option linter.unusedVariables false

/-- a message read: the message, the place behind it, has reading failed -/
def rdMsg (zs : List Int) (p : Int) (bad : Bool) : MMsg × Int × Bool :=
  let a := rdNum zs p bad
  let b := rdNum zs a.2.1 a.2.2
  let c := rdNum zs b.2.1 b.2.2
  let d := rdNum zs c.2.1 c.2.2
  (⟨a.1, b.1, c.1, d.1⟩, d.2.1, d.2.2 || !msgOkB ⟨a.1, b.1, c.1, d.1⟩)
theorem rdMsg_range (zs : List Int) (p : Int) (bad : Bool) (hz : zs.length ≤ 1073741824) (hp : -9223372036854775808 ≤ p ∧ p ≤ 9223372036854775807) :
    -9223372036854775808 ≤ (rdMsg zs p bad).2.1 ∧ (rdMsg zs p bad).2.1 ≤ 9223372036854775807 :=
  (rdNum_range zs _ _ hz (rdNum_range zs _ _ hz (rdNum_range zs _ _ hz (rdNum_range zs p bad hz hp).2).2).2).2

def msgCells (m : MMsg) : List Value := [.int .i64 m.Kind, .int .i64 m.Acct, .int .i64 m.Amt, .int .i64 m.Src]

set_option maxRecDepth 100000 in
set_option maxHeartbeats 4000000 in
theorem sMsgRd_c {w : World} {g : Nat} {A : Option Addr} {c : Nat} {zs : List Int} {p : Int} {bad : Bool} (x_R : RdVr w g A c zs p bad) (hr : Rd .u8 w g A zs) (hb : Bytes zs) (hm : zs.length ≤ 16777216) (hp : -9223372036854775808 ≤ p ∧ p ≤ 9223372036854775807) :
    Calls Try.prog 38 #[.pointer (some ⟨g, 0, none⟩)] w fun e w' => e = .returned (.agg (msgCells (rdMsg zs p bad).1).toArray) ∧ RdVr w' g A c zs (rdMsg zs p bad).2.1 (rdMsg zs p bad).2.2 ∧ Chg g (g + 1) w w' := by
  have hgl := x_R.lt
  have hgle := Nat.le_of_lt hgl
  have g1 := rdNum_range zs p bad (by omega) hp
  obtain ⟨n1, hn1⟩ : ∃ n, (rdNum zs p bad).1 = n := ⟨_, rfl⟩
  obtain ⟨p1, hp1⟩ : ∃ q, (rdNum zs p bad).2.1 = q := ⟨_, rfl⟩
  obtain ⟨b1, hb1⟩ : ∃ q, (rdNum zs p bad).2.2 = q := ⟨_, rfl⟩
  rw [hn1, hp1] at g1
  have g2 := rdNum_range zs p1 b1 (by omega) g1.2
  obtain ⟨n2, hn2⟩ : ∃ n, (rdNum zs p1 b1).1 = n := ⟨_, rfl⟩
  obtain ⟨p2, hp2⟩ : ∃ q, (rdNum zs p1 b1).2.1 = q := ⟨_, rfl⟩
  obtain ⟨b2, hb2⟩ : ∃ q, (rdNum zs p1 b1).2.2 = q := ⟨_, rfl⟩
  rw [hn2, hp2] at g2
  have g3 := rdNum_range zs p2 b2 (by omega) g2.2
  obtain ⟨n3, hn3⟩ : ∃ n, (rdNum zs p2 b2).1 = n := ⟨_, rfl⟩
  obtain ⟨p3, hp3⟩ : ∃ q, (rdNum zs p2 b2).2.1 = q := ⟨_, rfl⟩
  obtain ⟨b3, hb3⟩ : ∃ q, (rdNum zs p2 b2).2.2 = q := ⟨_, rfl⟩
  rw [hn3, hp3] at g3
  have g4 := rdNum_range zs p3 b3 (by omega) g3.2
  obtain ⟨n4, hn4⟩ : ∃ n, (rdNum zs p3 b3).1 = n := ⟨_, rfl⟩
  obtain ⟨p4, hp4⟩ : ∃ q, (rdNum zs p3 b3).2.1 = q := ⟨_, rfl⟩
  obtain ⟨b4, hb4⟩ : ∃ q, (rdNum zs p3 b3).2.2 = q := ⟨_, rfl⟩
  rw [hn4, hp4] at g4
  have HM : Hid (rdMsg zs p bad = (⟨n1, n2, n3, n4⟩, p4, b4 || !msgOkB ⟨n1, n2, n3, n4⟩)) := by show _ = _; unfold rdMsg; simp only [hn1, hn2, hn3, hn4, hp1, hp2, hp3, hp4, hb1, hb2, hb3, hb4]
  rw [HM.out]
  obtain ⟨o, ho⟩ : ∃ o, msgOkB ⟨n1, n2, n3, n4⟩ = o := ⟨_, rfl⟩
  have HO := Lib.hid ho
  obtain ⟨f, hf⟩ : ∃ f, (b4 || !msgOkB ⟨n1, n2, n3, n4⟩) = f := ⟨_, rfl⟩
  rw [hf]
  rw [ho] at hf
  have HN1 := Lib.hid hn1
  have HP1 := Lib.hid hp1
  have HB1 := Lib.hid hb1
  clear hn1 hp1 hb1
  have HN2 := Lib.hid hn2
  have HP2 := Lib.hid hp2
  have HB2 := Lib.hid hb2
  clear hn2 hp2 hb2
  have HN3 := Lib.hid hn3
  have HP3 := Lib.hid hp3
  have HB3 := Lib.hid hb3
  clear hn3 hp3 hb3
  have HN4 := Lib.hid hn4
  have HP4 := Lib.hid hp4
  have HB4 := Lib.hid hb4
  clear hn4 hp4 hb4
  have HF := Lib.hid hf
  clear hf ho
  obtain ⟨wa, hwa, B0, sa, x_r⟩ := frame1 w 27 [.int .i64 0, .int .i64 0, .int .i64 0, .int .i64 0]
  have sa_1 := Nat.le_of_eq sa
  have sa_2 := Nat.le_of_eq sa.symm
  clear sa
  have Bg := B0.mono hgle
  have C0 := (Chg.refl g (g + 1) w).then_below B0
  replace x_R := x_R.from_ B0
  have c_r_0_wa := x_r.cell (i := 0) rfl
  have f_r_0_wa := x_r.frozen 0
  have c_r_1_wa := x_r.cell (i := 1) rfl
  have f_r_1_wa := x_r.frozen 1
  have c_r_2_wa := x_r.cell (i := 2) rfl
  have f_r_2_wa := x_r.frozen 2
  have c_r_3_wa := x_r.cell (i := 3) rfl
  have f_r_3_wa := x_r.frozen 3
  have c_R_0_wa := x_R.cell (i := 0) rfl
  have f_R_0_wa := x_R.frozen 0
  have c_R_1_wa := x_R.cell (i := 1) rfl
  have f_R_1_wa := x_R.frozen 1
  have c_R_2_wa := x_R.cell (i := 2) rfl
  have f_R_2_wa := x_R.frozen 2
  go_enter Try.func38, Try.ntmps38
  go_wp2_with fail
  refine (sGet_c x_R (hr.below Bg) hb hm hp).mono ?_
  rintro e w1 ⟨rfl, y, h_w1⟩
  clear c_r_0_wa f_r_0_wa c_r_1_wa f_r_1_wa c_r_2_wa f_r_2_wa c_r_3_wa f_r_3_wa c_R_0_wa f_R_0_wa c_R_1_wa f_R_1_wa c_R_2_wa f_R_2_wa
  replace x_r := x_r.chg h_w1 (by omega)
  have B_w1 := Below.chg_ Bg h_w1 (by omega) (by omega)
  have C_w1 := C0.then_same h_w1
  have s_w1 := h_w1.size
  rw [HP1.out, HB1.out] at y
  rw [HN1.out]
  have x_R := y
  clear y
  have c_r_0_w1 := x_r.cell (i := 0) rfl
  have f_r_0_w1 := x_r.frozen 0
  have c_r_1_w1 := x_r.cell (i := 1) rfl
  have f_r_1_w1 := x_r.frozen 1
  have c_r_2_w1 := x_r.cell (i := 2) rfl
  have f_r_2_w1 := x_r.frozen 2
  have c_r_3_w1 := x_r.cell (i := 3) rfl
  have f_r_3_w1 := x_r.frozen 3
  have c_R_0_w1 := x_R.cell (i := 0) rfl
  have f_R_0_w1 := x_R.frozen 0
  have c_R_1_w1 := x_R.cell (i := 1) rfl
  have f_R_1_w1 := x_R.frozen 1
  have c_R_2_w1 := x_R.cell (i := 2) rfl
  have f_R_2_w1 := x_R.frozen 2
  obtain ⟨w2, e_w2, s_w2, h_w2, x_m⟩ := alloc_step w1 27 [.int .i64 n1, .int .i64 0, .int .i64 0, .int .i64 0]
  have s_w2_1 := Nat.le_of_eq s_w2
  have s_w2_2 := Nat.le_of_eq s_w2.symm
  clear s_w2
  replace x_r := x_r.from_ h_w2
  replace x_R := x_R.from_ h_w2
  have B_w2 := B_w1.trans (h_w2.mono (Nat.le_trans hgle B_w1.size))
  have C_w2 := C_w1.then_below h_w2
  have i_w2_3 := x_m.same (i := 3) rfl
  have i_w2_2 := x_m.same (i := 2) rfl
  have i_w2_1 := x_m.same (i := 1) rfl
  have c_r_0_w2 := x_r.cell (i := 0) rfl
  have f_r_0_w2 := x_r.frozen 0
  have c_r_1_w2 := x_r.cell (i := 1) rfl
  have f_r_1_w2 := x_r.frozen 1
  have c_r_2_w2 := x_r.cell (i := 2) rfl
  have f_r_2_w2 := x_r.frozen 2
  have c_r_3_w2 := x_r.cell (i := 3) rfl
  have f_r_3_w2 := x_r.frozen 3
  have c_R_0_w2 := x_R.cell (i := 0) rfl
  have f_R_0_w2 := x_R.frozen 0
  have c_R_1_w2 := x_R.cell (i := 1) rfl
  have f_R_1_w2 := x_R.frozen 1
  have c_R_2_w2 := x_R.cell (i := 2) rfl
  have f_R_2_w2 := x_R.frozen 2
  have c_m_0_w2 := x_m.cell (i := 0) rfl
  have f_m_0_w2 := x_m.frozen 0
  have c_m_1_w2 := x_m.cell (i := 1) rfl
  have f_m_1_w2 := x_m.frozen 1
  have c_m_2_w2 := x_m.cell (i := 2) rfl
  have f_m_2_w2 := x_m.frozen 2
  have c_m_3_w2 := x_m.cell (i := 3) rfl
  have f_m_3_w2 := x_m.frozen 3
  go_wp2_with fail
  refine (sGet_c x_R (hr.below B_w2) hb hm g1.2).mono ?_
  rintro e w3 ⟨rfl, y, h_w3⟩
  clear c_r_0_w1 f_r_0_w1 c_r_1_w1 f_r_1_w1 c_r_2_w1 f_r_2_w1 c_r_3_w1 f_r_3_w1 c_R_0_w1 f_R_0_w1 c_R_1_w1 f_R_1_w1 c_R_2_w1 f_R_2_w1 i_w2_3 i_w2_2 i_w2_1 c_r_0_w2 f_r_0_w2 c_r_1_w2 f_r_1_w2 c_r_2_w2 f_r_2_w2 c_r_3_w2 f_r_3_w2 c_R_0_w2 f_R_0_w2 c_R_1_w2 f_R_1_w2 c_R_2_w2 f_R_2_w2 c_m_0_w2 f_m_0_w2 c_m_1_w2 f_m_1_w2 c_m_2_w2 f_m_2_w2 c_m_3_w2 f_m_3_w2
  replace x_r := x_r.chg h_w3 (by omega)
  replace x_m := x_m.chg h_w3 (by omega)
  have B_w3 := Below.chg_ B_w2 h_w3 (by omega) (by omega)
  have C_w3 := C_w2.then_same h_w3
  have s_w3 := h_w3.size
  rw [HP2.out, HB2.out] at y
  rw [HN2.out]
  have x_R := y
  clear y
  have c_r_0_w3 := x_r.cell (i := 0) rfl
  have f_r_0_w3 := x_r.frozen 0
  have c_r_1_w3 := x_r.cell (i := 1) rfl
  have f_r_1_w3 := x_r.frozen 1
  have c_r_2_w3 := x_r.cell (i := 2) rfl
  have f_r_2_w3 := x_r.frozen 2
  have c_r_3_w3 := x_r.cell (i := 3) rfl
  have f_r_3_w3 := x_r.frozen 3
  have c_R_0_w3 := x_R.cell (i := 0) rfl
  have f_R_0_w3 := x_R.frozen 0
  have c_R_1_w3 := x_R.cell (i := 1) rfl
  have f_R_1_w3 := x_R.frozen 1
  have c_R_2_w3 := x_R.cell (i := 2) rfl
  have f_R_2_w3 := x_R.frozen 2
  have c_m_0_w3 := x_m.cell (i := 0) rfl
  have f_m_0_w3 := x_m.frozen 0
  have c_m_1_w3 := x_m.cell (i := 1) rfl
  have f_m_1_w3 := x_m.frozen 1
  have c_m_2_w3 := x_m.cell (i := 2) rfl
  have f_m_2_w3 := x_m.frozen 2
  have c_m_3_w3 := x_m.cell (i := 3) rfl
  have f_m_3_w3 := x_m.frozen 3
  obtain ⟨w4, e_w4, s_w4, h_w4, y⟩ := set_step x_m 1 (.int .i64 n2)
  have s_w4_1 := Nat.le_of_eq s_w4
  have s_w4_2 := Nat.le_of_eq s_w4.symm
  clear s_w4
  replace x_r := x_r.chg h_w4 (by omega)
  replace x_R := x_R.chg h_w4 (by omega)
  have B_w4 := Below.chg_ B_w3 h_w4 (by omega) (by omega)
  have C_w4 := C_w3.then_new h_w4 (by omega)
  replace x_m : Vr w4 (w1.heap.size) 27 [.int .i64 n1, .int .i64 n2, .int .i64 0, .int .i64 0] := y
  clear y
  have c_r_0_w4 := x_r.cell (i := 0) rfl
  have f_r_0_w4 := x_r.frozen 0
  have c_r_1_w4 := x_r.cell (i := 1) rfl
  have f_r_1_w4 := x_r.frozen 1
  have c_r_2_w4 := x_r.cell (i := 2) rfl
  have f_r_2_w4 := x_r.frozen 2
  have c_r_3_w4 := x_r.cell (i := 3) rfl
  have f_r_3_w4 := x_r.frozen 3
  have c_R_0_w4 := x_R.cell (i := 0) rfl
  have f_R_0_w4 := x_R.frozen 0
  have c_R_1_w4 := x_R.cell (i := 1) rfl
  have f_R_1_w4 := x_R.frozen 1
  have c_R_2_w4 := x_R.cell (i := 2) rfl
  have f_R_2_w4 := x_R.frozen 2
  have c_m_0_w4 := x_m.cell (i := 0) rfl
  have f_m_0_w4 := x_m.frozen 0
  have c_m_1_w4 := x_m.cell (i := 1) rfl
  have f_m_1_w4 := x_m.frozen 1
  have c_m_2_w4 := x_m.cell (i := 2) rfl
  have f_m_2_w4 := x_m.frozen 2
  have c_m_3_w4 := x_m.cell (i := 3) rfl
  have f_m_3_w4 := x_m.frozen 3
  go_wp2_with fail
  refine (sGet_c x_R (hr.below B_w4) hb hm g2.2).mono ?_
  rintro e w5 ⟨rfl, y, h_w5⟩
  clear c_r_0_w3 f_r_0_w3 c_r_1_w3 f_r_1_w3 c_r_2_w3 f_r_2_w3 c_r_3_w3 f_r_3_w3 c_R_0_w3 f_R_0_w3 c_R_1_w3 f_R_1_w3 c_R_2_w3 f_R_2_w3 c_m_0_w3 f_m_0_w3 c_m_1_w3 f_m_1_w3 c_m_2_w3 f_m_2_w3 c_m_3_w3 f_m_3_w3 c_r_0_w4 f_r_0_w4 c_r_1_w4 f_r_1_w4 c_r_2_w4 f_r_2_w4 c_r_3_w4 f_r_3_w4 c_R_0_w4 f_R_0_w4 c_R_1_w4 f_R_1_w4 c_R_2_w4 f_R_2_w4 c_m_0_w4 f_m_0_w4 c_m_1_w4 f_m_1_w4 c_m_2_w4 f_m_2_w4 c_m_3_w4 f_m_3_w4
  replace x_r := x_r.chg h_w5 (by omega)
  replace x_m := x_m.chg h_w5 (by omega)
  have B_w5 := Below.chg_ B_w4 h_w5 (by omega) (by omega)
  have C_w5 := C_w4.then_same h_w5
  have s_w5 := h_w5.size
  rw [HP3.out, HB3.out] at y
  rw [HN3.out]
  have x_R := y
  clear y
  have c_r_0_w5 := x_r.cell (i := 0) rfl
  have f_r_0_w5 := x_r.frozen 0
  have c_r_1_w5 := x_r.cell (i := 1) rfl
  have f_r_1_w5 := x_r.frozen 1
  have c_r_2_w5 := x_r.cell (i := 2) rfl
  have f_r_2_w5 := x_r.frozen 2
  have c_r_3_w5 := x_r.cell (i := 3) rfl
  have f_r_3_w5 := x_r.frozen 3
  have c_R_0_w5 := x_R.cell (i := 0) rfl
  have f_R_0_w5 := x_R.frozen 0
  have c_R_1_w5 := x_R.cell (i := 1) rfl
  have f_R_1_w5 := x_R.frozen 1
  have c_R_2_w5 := x_R.cell (i := 2) rfl
  have f_R_2_w5 := x_R.frozen 2
  have c_m_0_w5 := x_m.cell (i := 0) rfl
  have f_m_0_w5 := x_m.frozen 0
  have c_m_1_w5 := x_m.cell (i := 1) rfl
  have f_m_1_w5 := x_m.frozen 1
  have c_m_2_w5 := x_m.cell (i := 2) rfl
  have f_m_2_w5 := x_m.frozen 2
  have c_m_3_w5 := x_m.cell (i := 3) rfl
  have f_m_3_w5 := x_m.frozen 3
  obtain ⟨w6, e_w6, s_w6, h_w6, y⟩ := set_step x_m 2 (.int .i64 n3)
  have s_w6_1 := Nat.le_of_eq s_w6
  have s_w6_2 := Nat.le_of_eq s_w6.symm
  clear s_w6
  replace x_r := x_r.chg h_w6 (by omega)
  replace x_R := x_R.chg h_w6 (by omega)
  have B_w6 := Below.chg_ B_w5 h_w6 (by omega) (by omega)
  have C_w6 := C_w5.then_new h_w6 (by omega)
  replace x_m : Vr w6 (w1.heap.size) 27 [.int .i64 n1, .int .i64 n2, .int .i64 n3, .int .i64 0] := y
  clear y
  have c_r_0_w6 := x_r.cell (i := 0) rfl
  have f_r_0_w6 := x_r.frozen 0
  have c_r_1_w6 := x_r.cell (i := 1) rfl
  have f_r_1_w6 := x_r.frozen 1
  have c_r_2_w6 := x_r.cell (i := 2) rfl
  have f_r_2_w6 := x_r.frozen 2
  have c_r_3_w6 := x_r.cell (i := 3) rfl
  have f_r_3_w6 := x_r.frozen 3
  have c_R_0_w6 := x_R.cell (i := 0) rfl
  have f_R_0_w6 := x_R.frozen 0
  have c_R_1_w6 := x_R.cell (i := 1) rfl
  have f_R_1_w6 := x_R.frozen 1
  have c_R_2_w6 := x_R.cell (i := 2) rfl
  have f_R_2_w6 := x_R.frozen 2
  have c_m_0_w6 := x_m.cell (i := 0) rfl
  have f_m_0_w6 := x_m.frozen 0
  have c_m_1_w6 := x_m.cell (i := 1) rfl
  have f_m_1_w6 := x_m.frozen 1
  have c_m_2_w6 := x_m.cell (i := 2) rfl
  have f_m_2_w6 := x_m.frozen 2
  have c_m_3_w6 := x_m.cell (i := 3) rfl
  have f_m_3_w6 := x_m.frozen 3
  go_wp2_with fail
  refine (sGet_c x_R (hr.below B_w6) hb hm g3.2).mono ?_
  rintro e w7 ⟨rfl, y, h_w7⟩
  clear c_r_0_w5 f_r_0_w5 c_r_1_w5 f_r_1_w5 c_r_2_w5 f_r_2_w5 c_r_3_w5 f_r_3_w5 c_R_0_w5 f_R_0_w5 c_R_1_w5 f_R_1_w5 c_R_2_w5 f_R_2_w5 c_m_0_w5 f_m_0_w5 c_m_1_w5 f_m_1_w5 c_m_2_w5 f_m_2_w5 c_m_3_w5 f_m_3_w5 c_r_0_w6 f_r_0_w6 c_r_1_w6 f_r_1_w6 c_r_2_w6 f_r_2_w6 c_r_3_w6 f_r_3_w6 c_R_0_w6 f_R_0_w6 c_R_1_w6 f_R_1_w6 c_R_2_w6 f_R_2_w6 c_m_0_w6 f_m_0_w6 c_m_1_w6 f_m_1_w6 c_m_2_w6 f_m_2_w6 c_m_3_w6 f_m_3_w6
  replace x_r := x_r.chg h_w7 (by omega)
  replace x_m := x_m.chg h_w7 (by omega)
  have B_w7 := Below.chg_ B_w6 h_w7 (by omega) (by omega)
  have C_w7 := C_w6.then_same h_w7
  have s_w7 := h_w7.size
  rw [HP4.out, HB4.out] at y
  rw [HN4.out]
  have x_R := y
  clear y
  have c_r_0_w7 := x_r.cell (i := 0) rfl
  have f_r_0_w7 := x_r.frozen 0
  have c_r_1_w7 := x_r.cell (i := 1) rfl
  have f_r_1_w7 := x_r.frozen 1
  have c_r_2_w7 := x_r.cell (i := 2) rfl
  have f_r_2_w7 := x_r.frozen 2
  have c_r_3_w7 := x_r.cell (i := 3) rfl
  have f_r_3_w7 := x_r.frozen 3
  have c_R_0_w7 := x_R.cell (i := 0) rfl
  have f_R_0_w7 := x_R.frozen 0
  have c_R_1_w7 := x_R.cell (i := 1) rfl
  have f_R_1_w7 := x_R.frozen 1
  have c_R_2_w7 := x_R.cell (i := 2) rfl
  have f_R_2_w7 := x_R.frozen 2
  have c_m_0_w7 := x_m.cell (i := 0) rfl
  have f_m_0_w7 := x_m.frozen 0
  have c_m_1_w7 := x_m.cell (i := 1) rfl
  have f_m_1_w7 := x_m.frozen 1
  have c_m_2_w7 := x_m.cell (i := 2) rfl
  have f_m_2_w7 := x_m.frozen 2
  have c_m_3_w7 := x_m.cell (i := 3) rfl
  have f_m_3_w7 := x_m.frozen 3
  obtain ⟨w8, e_w8, s_w8, h_w8, y⟩ := set_step x_m 3 (.int .i64 n4)
  have s_w8_1 := Nat.le_of_eq s_w8
  have s_w8_2 := Nat.le_of_eq s_w8.symm
  clear s_w8
  replace x_r := x_r.chg h_w8 (by omega)
  replace x_R := x_R.chg h_w8 (by omega)
  have B_w8 := Below.chg_ B_w7 h_w8 (by omega) (by omega)
  have C_w8 := C_w7.then_new h_w8 (by omega)
  replace x_m : Vr w8 (w1.heap.size) 27 [.int .i64 n1, .int .i64 n2, .int .i64 n3, .int .i64 n4] := y
  clear y
  have c_r_0_w8 := x_r.cell (i := 0) rfl
  have f_r_0_w8 := x_r.frozen 0
  have c_r_1_w8 := x_r.cell (i := 1) rfl
  have f_r_1_w8 := x_r.frozen 1
  have c_r_2_w8 := x_r.cell (i := 2) rfl
  have f_r_2_w8 := x_r.frozen 2
  have c_r_3_w8 := x_r.cell (i := 3) rfl
  have f_r_3_w8 := x_r.frozen 3
  have c_R_0_w8 := x_R.cell (i := 0) rfl
  have f_R_0_w8 := x_R.frozen 0
  have c_R_1_w8 := x_R.cell (i := 1) rfl
  have f_R_1_w8 := x_R.frozen 1
  have c_R_2_w8 := x_R.cell (i := 2) rfl
  have f_R_2_w8 := x_R.frozen 2
  have c_m_0_w8 := x_m.cell (i := 0) rfl
  have f_m_0_w8 := x_m.frozen 0
  have c_m_1_w8 := x_m.cell (i := 1) rfl
  have f_m_1_w8 := x_m.frozen 1
  have c_m_2_w8 := x_m.cell (i := 2) rfl
  have f_m_2_w8 := x_m.frozen 2
  have c_m_3_w8 := x_m.cell (i := 3) rfl
  have f_m_3_w8 := x_m.frozen 3
  have rM : RV msgL w8 (.agg #[.int .i64 n1, .int .i64 n2, .int .i64 n3, .int .i64 n4]) ⟨n1, n2, n3, n4⟩ := ⟨_, rfl, _, _, rfl, rfl, _, _, rfl, rfl, _, _, rfl, rfl, rfl⟩
  by_cases h4 : b4 = true
  case pos =>
    subst h4
    obtain rfl : true = f := by have := HF.out; simpa using this
    have c_R_2_w8 := x_R.cell (i := 2) rfl
    obtain ⟨w9, e_w9, s_w9, h_w9, y⟩ := set_step x_R 2 (.bool true)
    have s_w9_1 := Nat.le_of_eq s_w9
    have s_w9_2 := Nat.le_of_eq s_w9.symm
    clear s_w9
    replace x_r := x_r.chg h_w9 (by omega)
    replace x_m := x_m.chg h_w9 (by omega)
    have B_w9 := Below.chg_ B_w8 h_w9 (by omega) (by omega)
    have C_w9 := C_w8.then_same h_w9
    replace x_R : Vr w9 (g) 55 [.slice A zs.length c, .int .i64 p4, .bool true] := y
    clear y
    have c_r_0_w9 := x_r.cell (i := 0) rfl
    have f_r_0_w9 := x_r.frozen 0
    have c_r_1_w9 := x_r.cell (i := 1) rfl
    have f_r_1_w9 := x_r.frozen 1
    have c_r_2_w9 := x_r.cell (i := 2) rfl
    have f_r_2_w9 := x_r.frozen 2
    have c_r_3_w9 := x_r.cell (i := 3) rfl
    have f_r_3_w9 := x_r.frozen 3
    have c_R_0_w9 := x_R.cell (i := 0) rfl
    have f_R_0_w9 := x_R.frozen 0
    have c_R_1_w9 := x_R.cell (i := 1) rfl
    have f_R_1_w9 := x_R.frozen 1
    have c_R_2_w9 := x_R.cell (i := 2) rfl
    have f_R_2_w9 := x_R.frozen 2
    have c_m_0_w9 := x_m.cell (i := 0) rfl
    have f_m_0_w9 := x_m.frozen 0
    have c_m_1_w9 := x_m.cell (i := 1) rfl
    have f_m_1_w9 := x_m.frozen 1
    have c_m_2_w9 := x_m.cell (i := 2) rfl
    have f_m_2_w9 := x_m.frozen 2
    have c_m_3_w9 := x_m.cell (i := 3) rfl
    have f_m_3_w9 := x_m.frozen 3
    obtain ⟨w10, e_w10, s_w10, h_w10, y⟩ := store_step x_r [.int .i64 n1, .int .i64 n2, .int .i64 n3, .int .i64 n4] rfl
    replace e_w10 : ((((w9.setCell ⟨w.heap.size, 0, none⟩ (.int .i64 n1)).setCell ⟨w.heap.size, 1, none⟩ (.int .i64 n2)).setCell ⟨w.heap.size, 2, none⟩ (.int .i64 n3)).setCell ⟨w.heap.size, 3, none⟩ (.int .i64 n4)) = w10 := e_w10
    have s_w10_1 := Nat.le_of_eq s_w10
    have s_w10_2 := Nat.le_of_eq s_w10.symm
    clear s_w10
    replace x_R := x_R.chg h_w10 (by omega)
    replace x_m := x_m.chg h_w10 (by omega)
    have B_w10 := Below.chg_ B_w9 h_w10 (by omega) (by omega)
    have C_w10 := C_w9.then_new h_w10 (by omega)
    replace x_r : Vr w10 (w.heap.size) 27 [.int .i64 n1, .int .i64 n2, .int .i64 n3, .int .i64 n4] := y
    clear y
    have c_r_0_w10 := x_r.cell (i := 0) rfl
    have f_r_0_w10 := x_r.frozen 0
    have c_r_1_w10 := x_r.cell (i := 1) rfl
    have f_r_1_w10 := x_r.frozen 1
    have c_r_2_w10 := x_r.cell (i := 2) rfl
    have f_r_2_w10 := x_r.frozen 2
    have c_r_3_w10 := x_r.cell (i := 3) rfl
    have f_r_3_w10 := x_r.frozen 3
    go_wp2
    refine ret_cell (by rfl) (by rfl) x_r Try.underlying27 sz_msg (by rfl) ?_
    exact ⟨rfl, x_R, C_w10⟩
  case neg =>
    obtain rfl : b4 = false := by simpa using h4
    clear h4
    obtain rfl : (!o) = f := by have := HF.out; simpa using this
    go_wp2_with fail
    refine (sMsgOk_c rM).mono ?_
    rintro e w9 ⟨rfl, h_w9⟩
    clear c_r_0_w7 f_r_0_w7 c_r_1_w7 f_r_1_w7 c_r_2_w7 f_r_2_w7 c_r_3_w7 f_r_3_w7 c_R_0_w7 f_R_0_w7 c_R_1_w7 f_R_1_w7 c_R_2_w7 f_R_2_w7 c_m_0_w7 f_m_0_w7 c_m_1_w7 f_m_1_w7 c_m_2_w7 f_m_2_w7 c_m_3_w7 f_m_3_w7 c_r_0_w8 f_r_0_w8 c_r_1_w8 f_r_1_w8 c_r_2_w8 f_r_2_w8 c_r_3_w8 f_r_3_w8 c_R_0_w8 f_R_0_w8 c_R_1_w8 f_R_1_w8 c_R_2_w8 f_R_2_w8 c_m_0_w8 f_m_0_w8 c_m_1_w8 f_m_1_w8 c_m_2_w8 f_m_2_w8 c_m_3_w8 f_m_3_w8
    replace x_r := x_r.from_ h_w9
    replace x_R := x_R.from_ h_w9
    replace x_m := x_m.from_ h_w9
    have B_w9 := B_w8.trans (h_w9.mono (Nat.le_trans hgle B_w8.size))
    have s_w9 := h_w9.size
    have C_w9 := C_w8.then_below h_w9
    rw [HO.out]
    have c_r_0_w9 := x_r.cell (i := 0) rfl
    have f_r_0_w9 := x_r.frozen 0
    have c_r_1_w9 := x_r.cell (i := 1) rfl
    have f_r_1_w9 := x_r.frozen 1
    have c_r_2_w9 := x_r.cell (i := 2) rfl
    have f_r_2_w9 := x_r.frozen 2
    have c_r_3_w9 := x_r.cell (i := 3) rfl
    have f_r_3_w9 := x_r.frozen 3
    have c_R_0_w9 := x_R.cell (i := 0) rfl
    have f_R_0_w9 := x_R.frozen 0
    have c_R_1_w9 := x_R.cell (i := 1) rfl
    have f_R_1_w9 := x_R.frozen 1
    have c_R_2_w9 := x_R.cell (i := 2) rfl
    have f_R_2_w9 := x_R.frozen 2
    have c_m_0_w9 := x_m.cell (i := 0) rfl
    have f_m_0_w9 := x_m.frozen 0
    have c_m_1_w9 := x_m.cell (i := 1) rfl
    have f_m_1_w9 := x_m.frozen 1
    have c_m_2_w9 := x_m.cell (i := 2) rfl
    have f_m_2_w9 := x_m.frozen 2
    have c_m_3_w9 := x_m.cell (i := 3) rfl
    have f_m_3_w9 := x_m.frozen 3
    obtain ⟨w10, e_w10, s_w10, h_w10, y⟩ := set_step x_R 2 (.bool (!o))
    have s_w10_1 := Nat.le_of_eq s_w10
    have s_w10_2 := Nat.le_of_eq s_w10.symm
    clear s_w10
    replace x_r := x_r.chg h_w10 (by omega)
    replace x_m := x_m.chg h_w10 (by omega)
    have B_w10 := Below.chg_ B_w9 h_w10 (by omega) (by omega)
    have C_w10 := C_w9.then_same h_w10
    replace x_R : Vr w10 (g) 55 [.slice A zs.length c, .int .i64 p4, .bool (!o)] := y
    clear y
    have c_r_0_w10 := x_r.cell (i := 0) rfl
    have f_r_0_w10 := x_r.frozen 0
    have c_r_1_w10 := x_r.cell (i := 1) rfl
    have f_r_1_w10 := x_r.frozen 1
    have c_r_2_w10 := x_r.cell (i := 2) rfl
    have f_r_2_w10 := x_r.frozen 2
    have c_r_3_w10 := x_r.cell (i := 3) rfl
    have f_r_3_w10 := x_r.frozen 3
    have c_R_0_w10 := x_R.cell (i := 0) rfl
    have f_R_0_w10 := x_R.frozen 0
    have c_R_1_w10 := x_R.cell (i := 1) rfl
    have f_R_1_w10 := x_R.frozen 1
    have c_R_2_w10 := x_R.cell (i := 2) rfl
    have f_R_2_w10 := x_R.frozen 2
    have c_m_0_w10 := x_m.cell (i := 0) rfl
    have f_m_0_w10 := x_m.frozen 0
    have c_m_1_w10 := x_m.cell (i := 1) rfl
    have f_m_1_w10 := x_m.frozen 1
    have c_m_2_w10 := x_m.cell (i := 2) rfl
    have f_m_2_w10 := x_m.frozen 2
    have c_m_3_w10 := x_m.cell (i := 3) rfl
    have f_m_3_w10 := x_m.frozen 3
    obtain ⟨w11, e_w11, s_w11, h_w11, y⟩ := store_step x_r [.int .i64 n1, .int .i64 n2, .int .i64 n3, .int .i64 n4] rfl
    replace e_w11 : ((((w10.setCell ⟨w.heap.size, 0, none⟩ (.int .i64 n1)).setCell ⟨w.heap.size, 1, none⟩ (.int .i64 n2)).setCell ⟨w.heap.size, 2, none⟩ (.int .i64 n3)).setCell ⟨w.heap.size, 3, none⟩ (.int .i64 n4)) = w11 := e_w11
    have s_w11_1 := Nat.le_of_eq s_w11
    have s_w11_2 := Nat.le_of_eq s_w11.symm
    clear s_w11
    replace x_R := x_R.chg h_w11 (by omega)
    replace x_m := x_m.chg h_w11 (by omega)
    have B_w11 := Below.chg_ B_w10 h_w11 (by omega) (by omega)
    have C_w11 := C_w10.then_new h_w11 (by omega)
    replace x_r : Vr w11 (w.heap.size) 27 [.int .i64 n1, .int .i64 n2, .int .i64 n3, .int .i64 n4] := y
    clear y
    have c_r_0_w11 := x_r.cell (i := 0) rfl
    have f_r_0_w11 := x_r.frozen 0
    have c_r_1_w11 := x_r.cell (i := 1) rfl
    have f_r_1_w11 := x_r.frozen 1
    have c_r_2_w11 := x_r.cell (i := 2) rfl
    have f_r_2_w11 := x_r.frozen 2
    have c_r_3_w11 := x_r.cell (i := 3) rfl
    have f_r_3_w11 := x_r.frozen 3
    go_wp2
    refine ret_cell (by rfl) (by rfl) x_r Try.underlying27 sz_msg (by rfl) ?_
    exact ⟨rfl, x_R, C_w11⟩

def msgZ : MMsg := ⟨0, 0, 0, 0⟩
/-- what MsgGet answers -/
def msgGetB (zs : List Int) (a : Int) : Bool := !(rdMsg zs a false).2.2
def msgGetM (zs : List Int) (a : Int) : MMsg := if msgGetB zs a then (rdMsg zs a false).1 else msgZ
def msgGetP (zs : List Int) (a : Int) : Int := if msgGetB zs a then (rdMsg zs a false).2.1 else 0

end Go.Proofs.Ytkbhbccpmmhelaa

namespace Go.Proofs.Ytkbhbccpmmhelaa
open Go.RowKit
set_option linter.unusedVariables false

theorem strOf_inj {xs ys : List Int} (hx : Bytes xs) (hy : Bytes ys) (h : strOfNums xs = strOfNums ys) : xs = ys := by
  have h1 := congrArg (fun s : ByteArray => s.data.toList) h
  simp only [strOfNums_data] at h1
  have hl : xs.length = ys.length := by have := congrArg List.length h1; simpa using this
  apply List.ext_getElem hl
  intro j hj hj'
  have h2 : (xs.map fun n => UInt8.ofNat n.toNat)[j]? = (ys.map fun n => UInt8.ofNat n.toNat)[j]? := by rw [h1]
  have bx := hx j
  have by_ := hy j
  simp [hj, hj'] at h2 bx by_
  have h3 := congrArg UInt8.toNat h2
  simp at h3
  omega

theorem same_dec {xs ys : List Int} (hx : Bytes xs) (hy : Bytes ys) : decide (strOfNums xs = strOfNums ys) = decide (xs = ys) := by
  by_cases h : xs = ys
  · simp [h]
  · have : ¬ strOfNums xs = strOfNums ys := fun e => h (strOf_inj hx hy e)
    simp [h, this]

set_option maxHeartbeats 400000 in
theorem sSameBytes_any (A A' : Option Addr) (c c' : Nat) (xs ys : List Int) (w : World) (B : Nat) (hx : Rd .u8 w B A xs) (hy : Rd .u8 w B A' ys) (bx : Bytes xs) (by_ : Bytes ys) :
    Calls Try.prog 39 #[.slice A xs.length c, .slice A' ys.length c'] w fun e w' => e = .returned (.bool (decide (xs = ys))) ∧ w = w' := by
  have k1 := run_conv (P := Try.prog) w 32 5 9 Try.underlying32 Try.underlying5 Try.underlying9 A c B xs hx
  have k2 := run_conv (P := Try.prog) w 32 5 9 Try.underlying32 Try.underlying5 Try.underlying9 A' c' B ys hy
  rw [← same_dec bx by_]
  obtain ⟨s, hs⟩ : ∃ s, strOfNums xs = s := ⟨_, rfl⟩
  obtain ⟨s', hs'⟩ : ∃ s, strOfNums ys = s := ⟨_, rfl⟩
  rw [hs] at k1
  rw [hs'] at k2
  rw [hs, hs']
  clear hs hs' hx hy bx by_
  go_enter Try.func39, Try.ntmps39
  go_wp2
  go_ret
  exact ⟨ret_eq (by rw [← str_same s s']; rfl), rfl⟩

theorem sSameBytes_b {w : World} {v v' : Value} {xs ys : List Int} (h : RS .u8 w v xs) (h' : RS .u8 w v' ys) (bx : Bytes xs) (by_ : Bytes ys) :
    Calls Try.prog 39 #[v, v'] w fun e w' => e = .returned (.bool (decide (xs = ys))) ∧ Below w.heap.size w w' := by
  obtain ⟨A, c, rfl, _, _, hr⟩ := h
  obtain ⟨A', c', rfl, _, _, hr'⟩ := h'
  exact (sSameBytes_any A A' c c' xs ys w _ hr hr' bx by_).mono fun e w' ⟨he, hw⟩ => ⟨he, by rw [← hw]; exact Below.refl _ _⟩

end Go.Proofs.Ytkbhbccpmmhelaa
