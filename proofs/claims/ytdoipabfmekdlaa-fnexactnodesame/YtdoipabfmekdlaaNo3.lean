/- A node: the contract of spec.NodeSame; == and != on two Acc. Laid by a program of ours (src/no3.py). -/
import Derived.Test.YtdoipabfmekdlaaBunN
import Derived.Test.YtdoipabfmekdlaaAc2
import Derived.Laws.StructEq
namespace Go.Proofs.Ytdoipabfmekdlaa
open Go.RowKit
set_option linter.unusedVariables false

theorem acc_held : Try.prog.stoodInHeld 56 = false := by kernel_rfl
theorem acc_guard : Try.prog.eqGuardType Try.prog.depth 56 = false := by kernel_rfl
theorem acc_fields : Try.prog.underlying 56 = some (.struct (Try.prog.fieldsOf 56)) := by
  unfold Program.fieldsOf; rw [Try.underlying56]
theorem eq_acc_run (d : Nat) (W : World) (a b : MAcc) : (Op.equalIn (d + 2) 56 (.agg #[.int .i64 a.Prom, .int .i64 a.Bal, .int .i64 a.Val]) (.agg #[.int .i64 b.Prom, .int .i64 b.Bal, .int .i64 b.Val])).run Try.prog W = .ok (decide (a = b)) W := by
  rw [run_equalIn_agg W (d + 1) _ _ _ acc_fields acc_held]
  unfold Program.fieldsOf
  rw [Try.underlying56]
  have hu : Try.prog.underlying 3 = some (.int .i64) := Try.underlying3
  obtain ⟨a1, a2, a3⟩ := a
  obtain ⟨b1, b2, b3⟩ := b
  simp [Op.eqFields, go_sem, hu]
  by_cases e1 : a1 = b1 <;> by_cases e2 : a2 = b2 <;> by_cases e3 : a3 = b3 <;> simp [e1, e2, e3]
theorem neq_acc_run (W : World) (a b : MAcc) : (binOp .neq 56 (.agg #[.int .i64 a.Prom, .int .i64 a.Bal, .int .i64 a.Val]) (.agg #[.int .i64 b.Prom, .int .i64 b.Bal, .int .i64 b.Val])).run Try.prog W = .ok (.bool (!decide (a = b))) W := by
  rw [run_neq_struct, eq_acc_run 9998]; rfl
theorem eql_acc_run (W : World) (a b : MAcc) : (binOp .eql 56 (.agg #[.int .i64 a.Prom, .int .i64 a.Bal, .int .i64 a.Val]) (.agg #[.int .i64 b.Prom, .int .i64 b.Bal, .int .i64 b.Val])).run Try.prog W = .ok (.bool (decide (a = b))) W := by
  rw [run_eql_struct, eq_acc_run 9998]; rfl
theorem guard_acc_run (op : BinOp) (x y : Operand) (W : World) (xs ys : Array Value) : (eqGuard op 56 x y (.agg xs) (.agg ys)).run Try.prog W = .ok () W := run_eqGuard_agg W op _ x y xs ys acc_guard

def nsHead (d g : MNode) : Bool := decide (d.Id = g.Id) && (decide (d.N = g.N) && (decide (d.Stray = g.Stray) && (decide (d.Came = g.Came) && (decide (d.Went = g.Went) && (decide (d.Ins = g.Ins) && (decide (d.Accts.length = g.Accts.length) && (decide (d.Outs.length = g.Outs.length) && decide (d.Accs.length = g.Accs.length))))))))
def nsAccts (d g : MNode) : Bool := decide (∀ i, i < d.Accts.length → acctSameB (acctG d.Accts i) (acctG g.Accts i) = true)
def nsOuts (d g : MNode) : Bool := decide (∀ i, i < d.Outs.length → outSameB (outG d.Outs i) (outG g.Outs i) = true)
def nodeSameB (d g : MNode) : Bool := nsHead d g && (nsAccts d g && (nsOuts d g && decide (d.Accs = g.Accs)))

set_option maxRecDepth 100000 in
set_option maxHeartbeats 8000000 in
theorem sNodeSame_c {w : World} {v v' : Value} {d g : MNode} (h : RV nodeL w v d) (h' : RV nodeL w v' g) (hb : d.bulk ≤ 16777216) (hb' : g.bulk ≤ 16777216) : Calls Try.prog 22 #[v, v'] w fun e w' => e = .returned (.bool (nodeSameB d g)) ∧ Below w.heap.size w w' := by
  obtain ⟨AAccts, cAccts, AOuts, cOuts, AIns, cIns, AAccs, cAccs, rfl, rAccts, rOuts, rIns, rAccs⟩ := rv_node h
  obtain ⟨AAcctsx, cAcctsx, AOutsx, cOutsx, AInsx, cInsx, AAccsx, cAccsx, rfl, rAcctsx, rOutsx, rInsx, rAccsx⟩ := rv_node h'
  clear h h'
  unfold MNode.bulk sizeAcctS sizeOutS at hb hb'
  obtain ⟨A', c', he, -, -, hrA⟩ := rv_slice rAccts
  simp only [Value.slice.injEq, true_and] at he
  obtain ⟨rfl, rfl⟩ := he
  clear rAccts
  obtain ⟨A', c', he, -, -, hrO⟩ := rv_slice rOuts
  simp only [Value.slice.injEq, true_and] at he
  obtain ⟨rfl, rfl⟩ := he
  clear rOuts
  obtain ⟨A', c', he, -, -, hrC⟩ := rv_slice rAccs
  simp only [Value.slice.injEq, true_and] at he
  obtain ⟨rfl, rfl⟩ := he
  clear rAccs
  obtain ⟨A', c', he, -, -, hrAx⟩ := rv_slice rAcctsx
  simp only [Value.slice.injEq, true_and] at he
  obtain ⟨rfl, rfl⟩ := he
  clear rAcctsx
  obtain ⟨A', c', he, -, -, hrOx⟩ := rv_slice rOutsx
  simp only [Value.slice.injEq, true_and] at he
  obtain ⟨rfl, rfl⟩ := he
  clear rOutsx
  obtain ⟨A', c', he, -, -, hrCx⟩ := rv_slice rAccsx
  simp only [Value.slice.injEq, true_and] at he
  obtain ⟨rfl, rfl⟩ := he
  clear rAccsx
  obtain ⟨wa, hwa, B0, sa, x_a, x_b⟩ := frame2 w 34 [.int .i64 d.Id, .int .i64 d.N, .slice AAccts d.Accts.length cAccts, .slice AOuts d.Outs.length cOuts, .slice AIns d.Ins.length cIns, .slice AAccs d.Accs.length cAccs, .int .i64 d.Stray, .int .i64 d.Came, .int .i64 d.Went] 34 [.int .i64 g.Id, .int .i64 g.N, .slice AAcctsx g.Accts.length cAcctsx, .slice AOutsx g.Outs.length cOutsx, .slice AInsx g.Ins.length cInsx, .slice AAccsx g.Accs.length cAccsx, .int .i64 g.Stray, .int .i64 g.Came, .int .i64 g.Went]
  have sa_1 := Nat.le_of_eq sa
  have sa_2 := Nat.le_of_eq sa.symm
  clear sa
  have c_a_0_wa := x_a.cell (i := 0) rfl
  have c_a_1_wa := x_a.cell (i := 1) rfl
  have c_a_2_wa := x_a.cell (i := 2) rfl
  have c_a_3_wa := x_a.cell (i := 3) rfl
  have c_a_4_wa := x_a.cell (i := 4) rfl
  have c_a_5_wa := x_a.cell (i := 5) rfl
  have c_a_6_wa := x_a.cell (i := 6) rfl
  have c_a_7_wa := x_a.cell (i := 7) rfl
  have c_a_8_wa := x_a.cell (i := 8) rfl
  have c_b_0_wa := x_b.cell (i := 0) rfl
  have c_b_1_wa := x_b.cell (i := 1) rfl
  have c_b_2_wa := x_b.cell (i := 2) rfl
  have c_b_3_wa := x_b.cell (i := 3) rfl
  have c_b_4_wa := x_b.cell (i := 4) rfl
  have c_b_5_wa := x_b.cell (i := 5) rfl
  have c_b_6_wa := x_b.cell (i := 6) rfl
  have c_b_7_wa := x_b.cell (i := 7) rfl
  have c_b_8_wa := x_b.cell (i := 8) rfl
  by_cases hA : d.Id = g.Id
  case neg =>
    have HO : Hid (nodeSameB d g = false) := by show _ = _; unfold nodeSameB nsHead; rw [decide_eq_false hA]; simp
    have gA : (d.Id != g.Id) = true := by rw [bne_iff_ne]; omega
    clear hA
    go_enter Try.func22, Try.ntmps22
    go_wp2
    go_ret
    exact ⟨ret_eq (by rw [HO.out]; rfl), B0⟩
  have gA : (d.Id != g.Id) = false := by rw [bne_eq_false_iff_eq]; omega
  have EA := Lib.hid hA
  clear hA
  by_cases hB : d.N = g.N
  case neg =>
    have HO : Hid (nodeSameB d g = false) := by show _ = _; unfold nodeSameB nsHead; rw [decide_eq_false hB]; simp
    have gB : (d.N != g.N) = true := by rw [bne_iff_ne]; omega
    clear hB
    go_enter Try.func22, Try.ntmps22
    go_wp2
    go_ret
    exact ⟨ret_eq (by rw [HO.out]; rfl), B0⟩
  have gB : (d.N != g.N) = false := by rw [bne_eq_false_iff_eq]; omega
  have EB := Lib.hid hB
  clear hB
  by_cases hC : d.Stray = g.Stray
  case neg =>
    have HO : Hid (nodeSameB d g = false) := by show _ = _; unfold nodeSameB nsHead; rw [decide_eq_false hC]; simp
    have gC : (d.Stray != g.Stray) = true := by rw [bne_iff_ne]; omega
    clear hC
    go_enter Try.func22, Try.ntmps22
    go_wp2
    go_ret
    exact ⟨ret_eq (by rw [HO.out]; rfl), B0⟩
  have gC : (d.Stray != g.Stray) = false := by rw [bne_eq_false_iff_eq]; omega
  have EC := Lib.hid hC
  clear hC
  by_cases hD : d.Came = g.Came
  case neg =>
    have HO : Hid (nodeSameB d g = false) := by show _ = _; unfold nodeSameB nsHead; rw [decide_eq_false hD]; simp
    have gD : (d.Came != g.Came) = true := by rw [bne_iff_ne]; omega
    clear hD
    go_enter Try.func22, Try.ntmps22
    go_wp2
    go_ret
    exact ⟨ret_eq (by rw [HO.out]; rfl), B0⟩
  have gD : (d.Came != g.Came) = false := by rw [bne_eq_false_iff_eq]; omega
  have ED := Lib.hid hD
  clear hD
  by_cases hF : d.Went = g.Went
  case neg =>
    have HO : Hid (nodeSameB d g = false) := by show _ = _; unfold nodeSameB nsHead; rw [decide_eq_false hF]; simp
    have gF : (d.Went != g.Went) = true := by rw [bne_iff_ne]; omega
    clear hF
    go_enter Try.func22, Try.ntmps22
    go_wp2
    go_ret
    exact ⟨ret_eq (by rw [HO.out]; rfl), B0⟩
  have gF : (d.Went != g.Went) = false := by rw [bne_eq_false_iff_eq]; omega
  have EF := Lib.hid hF
  clear hF
  by_cases hI : decide (d.Ins = g.Ins) = true
  case neg =>
    replace hI : decide (d.Ins = g.Ins) = false := by simpa using hI
    have HI := Lib.hid hI
    have HO : Hid (nodeSameB d g = false) := by show _ = _; unfold nodeSameB nsHead; rw [hI]; simp
    clear hI
    go_enter Try.func22, Try.ntmps22
    go_wp2_with fail
    refine (sSame_c (rIns.from_ B0) (rInsx.from_ B0)).mono ?_
    rintro e w1 ⟨rfl, h_w1⟩
    clear c_a_0_wa c_a_1_wa c_a_2_wa c_a_3_wa c_a_4_wa c_a_5_wa c_a_6_wa c_a_7_wa c_a_8_wa c_b_0_wa c_b_1_wa c_b_2_wa c_b_3_wa c_b_4_wa c_b_5_wa c_b_6_wa c_b_7_wa c_b_8_wa
    replace x_a := x_a.from_ h_w1
    replace x_b := x_b.from_ h_w1
    have B_w1 := B0.trans (h_w1.mono B0.size)
    have s_w1 := h_w1.size
    rw [HI.out]
    have c_a_0_w1 := x_a.cell (i := 0) rfl
    have c_a_1_w1 := x_a.cell (i := 1) rfl
    have c_a_2_w1 := x_a.cell (i := 2) rfl
    have c_a_3_w1 := x_a.cell (i := 3) rfl
    have c_a_4_w1 := x_a.cell (i := 4) rfl
    have c_a_5_w1 := x_a.cell (i := 5) rfl
    have c_a_6_w1 := x_a.cell (i := 6) rfl
    have c_a_7_w1 := x_a.cell (i := 7) rfl
    have c_a_8_w1 := x_a.cell (i := 8) rfl
    have c_b_0_w1 := x_b.cell (i := 0) rfl
    have c_b_1_w1 := x_b.cell (i := 1) rfl
    have c_b_2_w1 := x_b.cell (i := 2) rfl
    have c_b_3_w1 := x_b.cell (i := 3) rfl
    have c_b_4_w1 := x_b.cell (i := 4) rfl
    have c_b_5_w1 := x_b.cell (i := 5) rfl
    have c_b_6_w1 := x_b.cell (i := 6) rfl
    have c_b_7_w1 := x_b.cell (i := 7) rfl
    have c_b_8_w1 := x_b.cell (i := 8) rfl
    go_wp2
    go_ret
    exact ⟨ret_eq (by rw [HO.out]; rfl), B_w1⟩
  have HI := Lib.hid hI
  clear hI
  by_cases hL : d.Accts.length = g.Accts.length
  case neg =>
    have HO : Hid (nodeSameB d g = false) := by show _ = _; unfold nodeSameB nsHead; rw [decide_eq_false hL]; simp
    have gL : ((d.Accts.length : Int) != (g.Accts.length : Int)) = true := by rw [bne_iff_ne]; omega
    clear hL
    go_enter Try.func22, Try.ntmps22
    go_wp2_with fail
    refine (sSame_c (rIns.from_ B0) (rInsx.from_ B0)).mono ?_
    rintro e w1 ⟨rfl, h_w1⟩
    clear c_a_0_wa c_a_1_wa c_a_2_wa c_a_3_wa c_a_4_wa c_a_5_wa c_a_6_wa c_a_7_wa c_a_8_wa c_b_0_wa c_b_1_wa c_b_2_wa c_b_3_wa c_b_4_wa c_b_5_wa c_b_6_wa c_b_7_wa c_b_8_wa
    replace x_a := x_a.from_ h_w1
    replace x_b := x_b.from_ h_w1
    have B_w1 := B0.trans (h_w1.mono B0.size)
    have s_w1 := h_w1.size
    rw [HI.out]
    have c_a_0_w1 := x_a.cell (i := 0) rfl
    have c_a_1_w1 := x_a.cell (i := 1) rfl
    have c_a_2_w1 := x_a.cell (i := 2) rfl
    have c_a_3_w1 := x_a.cell (i := 3) rfl
    have c_a_4_w1 := x_a.cell (i := 4) rfl
    have c_a_5_w1 := x_a.cell (i := 5) rfl
    have c_a_6_w1 := x_a.cell (i := 6) rfl
    have c_a_7_w1 := x_a.cell (i := 7) rfl
    have c_a_8_w1 := x_a.cell (i := 8) rfl
    have c_b_0_w1 := x_b.cell (i := 0) rfl
    have c_b_1_w1 := x_b.cell (i := 1) rfl
    have c_b_2_w1 := x_b.cell (i := 2) rfl
    have c_b_3_w1 := x_b.cell (i := 3) rfl
    have c_b_4_w1 := x_b.cell (i := 4) rfl
    have c_b_5_w1 := x_b.cell (i := 5) rfl
    have c_b_6_w1 := x_b.cell (i := 6) rfl
    have c_b_7_w1 := x_b.cell (i := 7) rfl
    have c_b_8_w1 := x_b.cell (i := 8) rfl
    go_wp2
    go_ret
    exact ⟨ret_eq (by rw [HO.out]; rfl), B_w1⟩
  have gL : ((d.Accts.length : Int) != (g.Accts.length : Int)) = false := by rw [bne_eq_false_iff_eq]; omega
  have EL := Lib.hid hL
  have lL1 := Nat.le_of_eq hL
  have lL2 := Nat.le_of_eq hL.symm
  clear hL
  by_cases hM : d.Outs.length = g.Outs.length
  case neg =>
    have HO : Hid (nodeSameB d g = false) := by show _ = _; unfold nodeSameB nsHead; rw [decide_eq_false hM]; simp
    have gM : ((d.Outs.length : Int) != (g.Outs.length : Int)) = true := by rw [bne_iff_ne]; omega
    clear hM
    go_enter Try.func22, Try.ntmps22
    go_wp2_with fail
    refine (sSame_c (rIns.from_ B0) (rInsx.from_ B0)).mono ?_
    rintro e w1 ⟨rfl, h_w1⟩
    clear c_a_0_wa c_a_1_wa c_a_2_wa c_a_3_wa c_a_4_wa c_a_5_wa c_a_6_wa c_a_7_wa c_a_8_wa c_b_0_wa c_b_1_wa c_b_2_wa c_b_3_wa c_b_4_wa c_b_5_wa c_b_6_wa c_b_7_wa c_b_8_wa
    replace x_a := x_a.from_ h_w1
    replace x_b := x_b.from_ h_w1
    have B_w1 := B0.trans (h_w1.mono B0.size)
    have s_w1 := h_w1.size
    rw [HI.out]
    have c_a_0_w1 := x_a.cell (i := 0) rfl
    have c_a_1_w1 := x_a.cell (i := 1) rfl
    have c_a_2_w1 := x_a.cell (i := 2) rfl
    have c_a_3_w1 := x_a.cell (i := 3) rfl
    have c_a_4_w1 := x_a.cell (i := 4) rfl
    have c_a_5_w1 := x_a.cell (i := 5) rfl
    have c_a_6_w1 := x_a.cell (i := 6) rfl
    have c_a_7_w1 := x_a.cell (i := 7) rfl
    have c_a_8_w1 := x_a.cell (i := 8) rfl
    have c_b_0_w1 := x_b.cell (i := 0) rfl
    have c_b_1_w1 := x_b.cell (i := 1) rfl
    have c_b_2_w1 := x_b.cell (i := 2) rfl
    have c_b_3_w1 := x_b.cell (i := 3) rfl
    have c_b_4_w1 := x_b.cell (i := 4) rfl
    have c_b_5_w1 := x_b.cell (i := 5) rfl
    have c_b_6_w1 := x_b.cell (i := 6) rfl
    have c_b_7_w1 := x_b.cell (i := 7) rfl
    have c_b_8_w1 := x_b.cell (i := 8) rfl
    go_wp2
    go_ret
    exact ⟨ret_eq (by rw [HO.out]; rfl), B_w1⟩
  have gM : ((d.Outs.length : Int) != (g.Outs.length : Int)) = false := by rw [bne_eq_false_iff_eq]; omega
  have EM := Lib.hid hM
  have lM1 := Nat.le_of_eq hM
  have lM2 := Nat.le_of_eq hM.symm
  clear hM
  by_cases hN : d.Accs.length = g.Accs.length
  case neg =>
    have HO : Hid (nodeSameB d g = false) := by show _ = _; unfold nodeSameB nsHead; rw [decide_eq_false hN]; simp
    have gN : ((d.Accs.length : Int) != (g.Accs.length : Int)) = true := by rw [bne_iff_ne]; omega
    clear hN
    go_enter Try.func22, Try.ntmps22
    go_wp2_with fail
    refine (sSame_c (rIns.from_ B0) (rInsx.from_ B0)).mono ?_
    rintro e w1 ⟨rfl, h_w1⟩
    clear c_a_0_wa c_a_1_wa c_a_2_wa c_a_3_wa c_a_4_wa c_a_5_wa c_a_6_wa c_a_7_wa c_a_8_wa c_b_0_wa c_b_1_wa c_b_2_wa c_b_3_wa c_b_4_wa c_b_5_wa c_b_6_wa c_b_7_wa c_b_8_wa
    replace x_a := x_a.from_ h_w1
    replace x_b := x_b.from_ h_w1
    have B_w1 := B0.trans (h_w1.mono B0.size)
    have s_w1 := h_w1.size
    rw [HI.out]
    have c_a_0_w1 := x_a.cell (i := 0) rfl
    have c_a_1_w1 := x_a.cell (i := 1) rfl
    have c_a_2_w1 := x_a.cell (i := 2) rfl
    have c_a_3_w1 := x_a.cell (i := 3) rfl
    have c_a_4_w1 := x_a.cell (i := 4) rfl
    have c_a_5_w1 := x_a.cell (i := 5) rfl
    have c_a_6_w1 := x_a.cell (i := 6) rfl
    have c_a_7_w1 := x_a.cell (i := 7) rfl
    have c_a_8_w1 := x_a.cell (i := 8) rfl
    have c_b_0_w1 := x_b.cell (i := 0) rfl
    have c_b_1_w1 := x_b.cell (i := 1) rfl
    have c_b_2_w1 := x_b.cell (i := 2) rfl
    have c_b_3_w1 := x_b.cell (i := 3) rfl
    have c_b_4_w1 := x_b.cell (i := 4) rfl
    have c_b_5_w1 := x_b.cell (i := 5) rfl
    have c_b_6_w1 := x_b.cell (i := 6) rfl
    have c_b_7_w1 := x_b.cell (i := 7) rfl
    have c_b_8_w1 := x_b.cell (i := 8) rfl
    go_wp2
    go_ret
    exact ⟨ret_eq (by rw [HO.out]; rfl), B_w1⟩
  have gN : ((d.Accs.length : Int) != (g.Accs.length : Int)) = false := by rw [bne_eq_false_iff_eq]; omega
  have EN := Lib.hid hN
  have lN1 := Nat.le_of_eq hN
  have lN2 := Nat.le_of_eq hN.symm
  clear hN
  have HE : Hid (nodeSameB d g = (nsAccts d g && (nsOuts d g && decide (d.Accs = g.Accs)))) := by show _ = _; unfold nodeSameB nsHead; rw [decide_eq_true EA.out, decide_eq_true EB.out, decide_eq_true EC.out, decide_eq_true ED.out, decide_eq_true EF.out, HI.out, decide_eq_true EL.out, decide_eq_true EM.out, decide_eq_true EN.out]; rfl
  go_enter Try.func22, Try.ntmps22
  go_wp2_with fail
  refine (sSame_c (rIns.from_ B0) (rInsx.from_ B0)).mono ?_
  rintro e w1 ⟨rfl, h_w1⟩
  clear c_a_0_wa c_a_1_wa c_a_2_wa c_a_3_wa c_a_4_wa c_a_5_wa c_a_6_wa c_a_7_wa c_a_8_wa c_b_0_wa c_b_1_wa c_b_2_wa c_b_3_wa c_b_4_wa c_b_5_wa c_b_6_wa c_b_7_wa c_b_8_wa
  replace x_a := x_a.from_ h_w1
  replace x_b := x_b.from_ h_w1
  have B_w1 := B0.trans (h_w1.mono B0.size)
  have s_w1 := h_w1.size
  rw [HI.out]
  have c_a_0_w1 := x_a.cell (i := 0) rfl
  have c_a_1_w1 := x_a.cell (i := 1) rfl
  have c_a_2_w1 := x_a.cell (i := 2) rfl
  have c_a_3_w1 := x_a.cell (i := 3) rfl
  have c_a_4_w1 := x_a.cell (i := 4) rfl
  have c_a_5_w1 := x_a.cell (i := 5) rfl
  have c_a_6_w1 := x_a.cell (i := 6) rfl
  have c_a_7_w1 := x_a.cell (i := 7) rfl
  have c_a_8_w1 := x_a.cell (i := 8) rfl
  have c_b_0_w1 := x_b.cell (i := 0) rfl
  have c_b_1_w1 := x_b.cell (i := 1) rfl
  have c_b_2_w1 := x_b.cell (i := 2) rfl
  have c_b_3_w1 := x_b.cell (i := 3) rfl
  have c_b_4_w1 := x_b.cell (i := 4) rfl
  have c_b_5_w1 := x_b.cell (i := 5) rfl
  have c_b_6_w1 := x_b.cell (i := 6) rfl
  have c_b_7_w1 := x_b.cell (i := 7) rfl
  have c_b_8_w1 := x_b.cell (i := 8) rfl
  go_wp2
  go_loopw [80] (fun i wr => ∃ k : Nat, k ≤ d.Accts.length ∧ i = .int .i64 k ∧ Hid (∀ i, i < k → acctSameB (acctG d.Accts i) (acctG g.Accts i) = true) ∧ Vr wr w.heap.size 34 [.int .i64 d.Id, .int .i64 d.N, .slice AAccts d.Accts.length cAccts, .slice AOuts d.Outs.length cOuts, .slice AIns d.Ins.length cIns, .slice AAccs d.Accs.length cAccs, .int .i64 d.Stray, .int .i64 d.Came, .int .i64 d.Went] ∧ Vr wr (w.heap.size + 1) 34 [.int .i64 g.Id, .int .i64 g.N, .slice AAcctsx g.Accts.length cAcctsx, .slice AOutsx g.Outs.length cOutsx, .slice AInsx g.Ins.length cInsx, .slice AAccsx g.Accs.length cAccsx, .int .i64 g.Stray, .int .i64 g.Came, .int .i64 g.Went] ∧ Below w.heap.size w wr) (fun i _ => d.Accts.length - (intOf i).toNat)
  case atStart => exact ⟨0, Nat.zero_le _, rfl, fun i hi => by omega, x_a, x_b, B_w1⟩
  case round =>
    clear c_a_0_w1 c_a_1_w1 c_a_2_w1 c_a_3_w1 c_a_4_w1 c_a_5_w1 c_a_6_w1 c_a_7_w1 c_a_8_w1 c_b_0_w1 c_b_1_w1 c_b_2_w1 c_b_3_w1 c_b_4_w1 c_b_5_w1 c_b_6_w1 c_b_7_w1 c_b_8_w1
    clear x_a x_b hwa
    obtain ⟨k, hk, rfl, HT, x_a, x_b, HB⟩ := hrel
    have hs := HB.size
    have lr := x_b.lt
    by_cases hlt : k < d.Accts.length
    case neg =>
      have hk2 : ¬ ((k : Int) < (d.Accts.length : Int)) := by omega
      have HA1 : Hid (nsAccts d g = true) := decide_eq_true (fun i hi => HT.out i (by omega))
      clear HT
      have c_a_0_wr := x_a.cell (i := 0) rfl
      have c_a_1_wr := x_a.cell (i := 1) rfl
      have c_a_2_wr := x_a.cell (i := 2) rfl
      have c_a_3_wr := x_a.cell (i := 3) rfl
      have c_a_4_wr := x_a.cell (i := 4) rfl
      have c_a_5_wr := x_a.cell (i := 5) rfl
      have c_a_6_wr := x_a.cell (i := 6) rfl
      have c_a_7_wr := x_a.cell (i := 7) rfl
      have c_a_8_wr := x_a.cell (i := 8) rfl
      have c_b_0_wr := x_b.cell (i := 0) rfl
      have c_b_1_wr := x_b.cell (i := 1) rfl
      have c_b_2_wr := x_b.cell (i := 2) rfl
      have c_b_3_wr := x_b.cell (i := 3) rfl
      have c_b_4_wr := x_b.cell (i := 4) rfl
      have c_b_5_wr := x_b.cell (i := 5) rfl
      have c_b_6_wr := x_b.cell (i := 6) rfl
      have c_b_7_wr := x_b.cell (i := 7) rfl
      have c_b_8_wr := x_b.cell (i := 8) rfl
      go_wp2
      go_loopw [97] (fun i wr => ∃ k : Nat, k ≤ d.Outs.length ∧ i = .int .i64 k ∧ Hid (∀ i, i < k → outSameB (outG d.Outs i) (outG g.Outs i) = true) ∧ Vr wr w.heap.size 34 [.int .i64 d.Id, .int .i64 d.N, .slice AAccts d.Accts.length cAccts, .slice AOuts d.Outs.length cOuts, .slice AIns d.Ins.length cIns, .slice AAccs d.Accs.length cAccs, .int .i64 d.Stray, .int .i64 d.Came, .int .i64 d.Went] ∧ Vr wr (w.heap.size + 1) 34 [.int .i64 g.Id, .int .i64 g.N, .slice AAcctsx g.Accts.length cAcctsx, .slice AOutsx g.Outs.length cOutsx, .slice AInsx g.Ins.length cInsx, .slice AAccsx g.Accs.length cAccsx, .int .i64 g.Stray, .int .i64 g.Came, .int .i64 g.Went] ∧ Below w.heap.size w wr) (fun i _ => d.Outs.length - (intOf i).toNat)
      case atStart => exact ⟨0, Nat.zero_le _, rfl, fun i hi => by omega, x_a, x_b, HB⟩
      case round =>
        clear c_a_0_wr c_a_1_wr c_a_2_wr c_a_3_wr c_a_4_wr c_a_5_wr c_a_6_wr c_a_7_wr c_a_8_wr c_b_0_wr c_b_1_wr c_b_2_wr c_b_3_wr c_b_4_wr c_b_5_wr c_b_6_wr c_b_7_wr c_b_8_wr
        clear x_a x_b HB hs lr hk2 hlt
        obtain ⟨k, hk, rfl, HT, x_a, x_b, HB⟩ := hrel
        have hs := HB.size
        have lr := x_b.lt
        by_cases hlt : k < d.Outs.length
        case neg =>
          have hk2 : ¬ ((k : Int) < (d.Outs.length : Int)) := by omega
          have HA2 : Hid (nsOuts d g = true) := decide_eq_true (fun i hi => HT.out i (by omega))
          clear HT
          have HE2 : Hid (nodeSameB d g = decide (d.Accs = g.Accs)) := by show _ = _; rw [HE.out, HA1.out, HA2.out]; rfl
          have c_a_0_wr := x_a.cell (i := 0) rfl
          have c_a_1_wr := x_a.cell (i := 1) rfl
          have c_a_2_wr := x_a.cell (i := 2) rfl
          have c_a_3_wr := x_a.cell (i := 3) rfl
          have c_a_4_wr := x_a.cell (i := 4) rfl
          have c_a_5_wr := x_a.cell (i := 5) rfl
          have c_a_6_wr := x_a.cell (i := 6) rfl
          have c_a_7_wr := x_a.cell (i := 7) rfl
          have c_a_8_wr := x_a.cell (i := 8) rfl
          have c_b_0_wr := x_b.cell (i := 0) rfl
          have c_b_1_wr := x_b.cell (i := 1) rfl
          have c_b_2_wr := x_b.cell (i := 2) rfl
          have c_b_3_wr := x_b.cell (i := 3) rfl
          have c_b_4_wr := x_b.cell (i := 4) rfl
          have c_b_5_wr := x_b.cell (i := 5) rfl
          have c_b_6_wr := x_b.cell (i := 6) rfl
          have c_b_7_wr := x_b.cell (i := 7) rfl
          have c_b_8_wr := x_b.cell (i := 8) rfl
          go_wp2
          go_loopw [114] (fun i wr => ∃ k : Nat, k ≤ d.Accs.length ∧ i = .int .i64 k ∧ Hid (d.Accs.take k = g.Accs.take k) ∧ Vr wr w.heap.size 34 [.int .i64 d.Id, .int .i64 d.N, .slice AAccts d.Accts.length cAccts, .slice AOuts d.Outs.length cOuts, .slice AIns d.Ins.length cIns, .slice AAccs d.Accs.length cAccs, .int .i64 d.Stray, .int .i64 d.Came, .int .i64 d.Went] ∧ Vr wr (w.heap.size + 1) 34 [.int .i64 g.Id, .int .i64 g.N, .slice AAcctsx g.Accts.length cAcctsx, .slice AOutsx g.Outs.length cOutsx, .slice AInsx g.Ins.length cInsx, .slice AAccsx g.Accs.length cAccsx, .int .i64 g.Stray, .int .i64 g.Came, .int .i64 g.Went] ∧ Below w.heap.size w wr) (fun i _ => d.Accs.length - (intOf i).toNat)
          case atStart => exact ⟨0, Nat.zero_le _, rfl, rfl, x_a, x_b, HB⟩
          case round =>
            clear c_a_0_wr c_a_1_wr c_a_2_wr c_a_3_wr c_a_4_wr c_a_5_wr c_a_6_wr c_a_7_wr c_a_8_wr c_b_0_wr c_b_1_wr c_b_2_wr c_b_3_wr c_b_4_wr c_b_5_wr c_b_6_wr c_b_7_wr c_b_8_wr
            clear x_a x_b HB hs lr hk2 hlt
            obtain ⟨k, hk, rfl, HT, x_a, x_b, HB⟩ := hrel
            have hs := HB.size
            have lr := x_b.lt
            by_cases hlt : k < d.Accs.length
            case neg =>
              have HO : Hid (nodeSameB d g = true) := by show _ = _; rw [HE2.out]; exact decide_eq_true (by have := HT.out; rwa [List.take_of_length_le (by omega), List.take_of_length_le (by omega)] at this)
              have hk2 : ¬ ((k : Int) < (d.Accs.length : Int)) := by omega
              have c_a_0_wr := x_a.cell (i := 0) rfl
              have c_a_1_wr := x_a.cell (i := 1) rfl
              have c_a_2_wr := x_a.cell (i := 2) rfl
              have c_a_3_wr := x_a.cell (i := 3) rfl
              have c_a_4_wr := x_a.cell (i := 4) rfl
              have c_a_5_wr := x_a.cell (i := 5) rfl
              have c_a_6_wr := x_a.cell (i := 6) rfl
              have c_a_7_wr := x_a.cell (i := 7) rfl
              have c_a_8_wr := x_a.cell (i := 8) rfl
              have c_b_0_wr := x_b.cell (i := 0) rfl
              have c_b_1_wr := x_b.cell (i := 1) rfl
              have c_b_2_wr := x_b.cell (i := 2) rfl
              have c_b_3_wr := x_b.cell (i := 3) rfl
              have c_b_4_wr := x_b.cell (i := 4) rfl
              have c_b_5_wr := x_b.cell (i := 5) rfl
              have c_b_6_wr := x_b.cell (i := 6) rfl
              have c_b_7_wr := x_b.cell (i := 7) rfl
              have c_b_8_wr := x_b.cell (i := 8) rfl
              go_wp2
              go_ret
              exact ⟨ret_eq (by rw [HO.out]; rfl), HB⟩
            obtain ⟨p, hpe⟩ := get_of_lt hlt
            obtain ⟨q, hqe⟩ := get_of_lt (xs := g.Accs) (k := k) (by omega)
            obtain ⟨bp, offp, hAp, hb_p, ep0, ep1, ep2⟩ := el_acc (hrC.below HB) hpe
            subst hAp
            obtain ⟨bq, offq, hAq, hb_q, eq0, eq1, eq2⟩ := el_acc (hrCx.below HB) hqe
            subst hAq
            have i1 : (k : Int) < (d.Accs.length : Int) := by omega
            have i2 : (k : Int) < (g.Accs.length : Int) := by omega
            obtain ⟨w32, e_w32, s_w32, h_w32, x_m⟩ := alloc_step wr 56 [.int .i64 p.Prom, .int .i64 p.Bal, .int .i64 p.Val]
            have s_w32_1 := Nat.le_of_eq s_w32
            have s_w32_2 := Nat.le_of_eq s_w32.symm
            clear s_w32
            replace x_a := x_a.from_ h_w32
            replace x_b := x_b.from_ h_w32
            have B_w32 := HB.trans (h_w32.mono HB.size)
            have c_a_0_w32 := x_a.cell (i := 0) rfl
            have c_a_1_w32 := x_a.cell (i := 1) rfl
            have c_a_2_w32 := x_a.cell (i := 2) rfl
            have c_a_3_w32 := x_a.cell (i := 3) rfl
            have c_a_4_w32 := x_a.cell (i := 4) rfl
            have c_a_5_w32 := x_a.cell (i := 5) rfl
            have c_a_6_w32 := x_a.cell (i := 6) rfl
            have c_a_7_w32 := x_a.cell (i := 7) rfl
            have c_a_8_w32 := x_a.cell (i := 8) rfl
            have c_b_0_w32 := x_b.cell (i := 0) rfl
            have c_b_1_w32 := x_b.cell (i := 1) rfl
            have c_b_2_w32 := x_b.cell (i := 2) rfl
            have c_b_3_w32 := x_b.cell (i := 3) rfl
            have c_b_4_w32 := x_b.cell (i := 4) rfl
            have c_b_5_w32 := x_b.cell (i := 5) rfl
            have c_b_6_w32 := x_b.cell (i := 6) rfl
            have c_b_7_w32 := x_b.cell (i := 7) rfl
            have c_b_8_w32 := x_b.cell (i := 8) rfl
            have c_m_0_w32 := x_m.cell (i := 0) rfl
            have c_m_1_w32 := x_m.cell (i := 1) rfl
            have c_m_2_w32 := x_m.cell (i := 2) rfl
            replace eq0 := (h_w32.cell (p := ⟨bq, offq + k * 3, none⟩) (by show bq < wr.heap.size; omega)).trans eq0
            replace eq1 := (h_w32.cell (p := ⟨bq, offq + k * 3 + 1, none⟩) (by show bq < wr.heap.size; omega)).trans eq1
            replace eq2 := (h_w32.cell (p := ⟨bq, offq + k * 3 + 2, none⟩) (by show bq < wr.heap.size; omega)).trans eq2
            have gd := fun op x y W xs ys => guard_acc_run op x y W xs ys
            have gn := fun W => neq_acc_run W p q
            by_cases hxy : p = q
            case pos =>
              rw [show (!decide (p = q)) = false by simp [hxy]] at gn
              have H2 : Hid (d.Accs.take (k + 1) = g.Accs.take (k + 1)) := take_succ_eqL HT.out hpe (by rw [hqe, hxy])
              clear hxy hpe hqe
              go_wp2_with fail
              go_quiet (fail)
              have B9 : Below w.heap.size w (w32.drewN nq) := B_w32.trans (below_of_drew _ _ nq)
              have X1 := x_a.from_ (below_of_drew _ _ nq)
              have X2 := x_b.from_ (below_of_drew _ _ nq)
              go_wp2
              go_roundw
              case rel => exact ⟨k + 1, by omega, by go_num, H2, X1, X2, B9⟩
              case measure => simp [intOf]; omega
            rw [show (!decide (p = q)) = true by simp [hxy]] at gn
            have HO : Hid (nodeSameB d g = false) := by show _ = _; rw [HE2.out]; exact decide_eq_false (fun e => hxy (by have h1 := hpe; rw [e, hqe] at h1; simpa using h1.symm))
            clear hxy hpe hqe
            go_wp2_with fail
            go_quiet (fail)
            go_wp2
            go_ret
            exact ⟨ret_eq (by rw [HO.out]; rfl), B_w32.trans (below_of_drew _ _ _)⟩
        obtain ⟨p, hpe⟩ := get_of_lt hlt
        obtain ⟨q, hqe⟩ := get_of_lt (xs := g.Outs) (k := k) (by omega)
        have hp := outG_of hpe
        have hq := outG_of hqe
        have hpb := sumG_at (s := MOut.bulk) hpe
        have hqb := sumG_at (s := MOut.bulk) hqe
        have hpu : p.bulk = p.List.length := rfl
        have hqu : q.bulk = q.List.length := rfl
        obtain ⟨bp, offp, ALp, cLp, hAp, hb_p, ep0, ep1, rpp⟩ := el_out (hrO.below HB) hpe hs
        subst hAp
        obtain ⟨bq, offq, ALq, cLq, hAq, hb_q, eq0, eq1, rpq⟩ := el_out (hrOx.below HB) hqe hs
        subst hAq
        clear hpe hqe
        have i1 : (k : Int) < (d.Outs.length : Int) := by omega
        have i2 : (k : Int) < (g.Outs.length : Int) := by omega
        have vp : RV outL wr _ p := rv_out_mk rpp
        have vq : RV outL wr _ q := rv_out_mk rpq
        obtain ⟨w22, e_w22, s_w22, h_w22, x_m⟩ := alloc_step wr 59 [.int .i64 p.Next, .slice ALp p.List.length cLp]
        have s_w22_1 := Nat.le_of_eq s_w22
        have s_w22_2 := Nat.le_of_eq s_w22.symm
        clear s_w22
        replace x_a := x_a.from_ h_w22
        replace x_b := x_b.from_ h_w22
        have B_w22 := HB.trans (h_w22.mono HB.size)
        have c_b_0_w22 := x_b.cell (i := 0) rfl
        have c_b_1_w22 := x_b.cell (i := 1) rfl
        have c_b_2_w22 := x_b.cell (i := 2) rfl
        have c_b_3_w22 := x_b.cell (i := 3) rfl
        have c_b_4_w22 := x_b.cell (i := 4) rfl
        have c_b_5_w22 := x_b.cell (i := 5) rfl
        have c_b_6_w22 := x_b.cell (i := 6) rfl
        have c_b_7_w22 := x_b.cell (i := 7) rfl
        have c_b_8_w22 := x_b.cell (i := 8) rfl
        have c_m_0_w22 := x_m.cell (i := 0) rfl
        have c_m_1_w22 := x_m.cell (i := 1) rfl
        replace eq0 := (h_w22.cell (p := ⟨bq, offq + k * 2, none⟩) (by show bq < wr.heap.size; omega)).trans eq0
        replace eq1 := (h_w22.cell (p := ⟨bq, offq + k * 2 + 1, none⟩) (by show bq < wr.heap.size; omega)).trans eq1
        replace vp := vp.from_ h_w22
        replace vq := vq.from_ h_w22
        have hbq : bq < w22.heap.size := by omega
        have hbm : wr.heap.size < w22.heap.size := by omega
        have hbb : w.heap.size + 1 < w22.heap.size := by omega
        by_cases hs1 : outSameB p q = true
        case neg =>
          replace hs1 : outSameB p q = false := by simpa using hs1
          have HO : Hid (nodeSameB d g = false) := by show _ = _; rw [HE.out, HA1.out, show nsOuts d g = false from decide_eq_false (fun c => by have := c k hlt; rw [hp, hq, hs1] at this; simp at this)]; rfl
          have HQ := Lib.hid hs1
          clear hs1 hp hq
          go_wp2_with fail
          go_region_held3 (fun w' => w'.cell? ⟨wr.heap.size, 0, none⟩ = some (.int .i64 p.Next) ∧ w'.cell? ⟨wr.heap.size, 1, none⟩ = some (.slice ALp p.List.length cLp) ∧ w'.cell? ⟨w.heap.size + 1, 3, none⟩ = some (.slice (some ⟨bq, offq, none⟩) g.Outs.length cOutsx) ∧ w'.cell? ⟨bq, offq + k * 2, none⟩ = some (.int .i64 q.Next) ∧ w'.cell? ⟨bq, offq + k * 2 + 1, none⟩ = some (.slice ALq q.List.length cLq))
            (first | exact ⟨c_m_0_w22, c_m_1_w22, c_b_3_w22, eq0, eq1⟩ | exact ⟨(hk1 _ (by first | exact hbm | exact hbb | exact hbq)).trans c_m_0_w22, (hk1 _ (by first | exact hbm | exact hbb | exact hbq)).trans c_m_1_w22, (hk1 _ (by first | exact hbm | exact hbb | exact hbq)).trans c_b_3_w22, (hk1 _ (by first | exact hbm | exact hbb | exact hbq)).trans eq0, (hk1 _ (by first | exact hbm | exact hbb | exact hbq)).trans eq1⟩ | go_keep)
            (first | (go_at_call 35; refine (sOutSame_c vp.drew_ vq.drew_ (by omega) (by omega)).mono ?_; rintro e w_S ⟨rfl, hd⟩; have hb2 : Below w22.heap.size w22 w_S := (Below.refl _ _).drew.trans hd; have hk1 : ∀ p : Addr, p.block < w22.heap.size → w_S.cell? p = w22.cell? p := (fun p hp => hb2.cell hp); rw [HQ.out]))
          go_wp2
          go_ret
          exact ⟨ret_eq (by rw [HO.out]; rfl), B_w22.trans (hb2.mono B_w22.size)⟩
        have H2 : Hid (∀ i, i < k + 1 → outSameB (outG d.Outs i) (outG g.Outs i) = true) := fun i hi => by
          by_cases e : i = k
          · rw [e, hp, hq]; exact hs1
          · exact HT.out i (by omega)
        have HQ := Lib.hid hs1
        clear hs1 hp hq
        go_wp2_with fail
        go_region_held3 (fun w' => w'.cell? ⟨wr.heap.size, 0, none⟩ = some (.int .i64 p.Next) ∧ w'.cell? ⟨wr.heap.size, 1, none⟩ = some (.slice ALp p.List.length cLp) ∧ w'.cell? ⟨w.heap.size + 1, 3, none⟩ = some (.slice (some ⟨bq, offq, none⟩) g.Outs.length cOutsx) ∧ w'.cell? ⟨bq, offq + k * 2, none⟩ = some (.int .i64 q.Next) ∧ w'.cell? ⟨bq, offq + k * 2 + 1, none⟩ = some (.slice ALq q.List.length cLq))
          (first | exact ⟨c_m_0_w22, c_m_1_w22, c_b_3_w22, eq0, eq1⟩ | exact ⟨(hk1 _ (by first | exact hbm | exact hbb | exact hbq)).trans c_m_0_w22, (hk1 _ (by first | exact hbm | exact hbb | exact hbq)).trans c_m_1_w22, (hk1 _ (by first | exact hbm | exact hbb | exact hbq)).trans c_b_3_w22, (hk1 _ (by first | exact hbm | exact hbb | exact hbq)).trans eq0, (hk1 _ (by first | exact hbm | exact hbb | exact hbq)).trans eq1⟩ | go_keep)
          (first | (go_at_call 35; refine (sOutSame_c vp.drew_ vq.drew_ (by omega) (by omega)).mono ?_; rintro e w_S ⟨rfl, hd⟩; have hb2 : Below w22.heap.size w22 w_S := (Below.refl _ _).drew.trans hd; have hk1 : ∀ p : Addr, p.block < w22.heap.size → w_S.cell? p = w22.cell? p := (fun p hp => hb2.cell hp); rw [HQ.out]))
        have X1 := x_a.from_ hb2
        have X2 := x_b.from_ hb2
        have B9 := B_w22.trans (hb2.mono B_w22.size)
        go_wp2
        go_roundw
        case rel => exact ⟨k + 1, by omega, by go_num, H2, X1, X2, B9⟩
        case measure => simp [intOf]; omega
    obtain ⟨p, hpe⟩ := get_of_lt hlt
    obtain ⟨q, hqe⟩ := get_of_lt (xs := g.Accts) (k := k) (by omega)
    have hp := acctG_of hpe
    have hq := acctG_of hqe
    obtain ⟨bp, offp, AMp, cMp, ARp, cRp, hAp, hb_p, ep0, ep1, ep2, ep3, ep4, rMp, rRp⟩ := el_acct (hrA.below HB) hpe hs
    subst hAp
    obtain ⟨bq, offq, AMq, cMq, ARq, cRq, hAq, hb_q, eq0, eq1, eq2, eq3, eq4, rMq, rRq⟩ := el_acct (hrAx.below HB) hqe hs
    subst hAq
    clear hpe hqe
    have i1 : (k : Int) < (d.Accts.length : Int) := by omega
    have i2 : (k : Int) < (g.Accts.length : Int) := by omega
    have vp : RV acctL wr _ p := rv_acct_mk rMp rRp
    have vq : RV acctL wr _ q := rv_acct_mk rMq rRq
    obtain ⟨w12, e_w12, s_w12, h_w12, x_m⟩ := alloc_step wr 52 [.int .i64 p.Have, .int .i64 p.State, .int .i64 p.By, .slice AMp p.Marks.length cMp, .slice ARp p.Reps.length cRp]
    have s_w12_1 := Nat.le_of_eq s_w12
    have s_w12_2 := Nat.le_of_eq s_w12.symm
    clear s_w12
    replace x_a := x_a.from_ h_w12
    replace x_b := x_b.from_ h_w12
    have B_w12 := HB.trans (h_w12.mono HB.size)
    have c_b_0_w12 := x_b.cell (i := 0) rfl
    have c_b_1_w12 := x_b.cell (i := 1) rfl
    have c_b_2_w12 := x_b.cell (i := 2) rfl
    have c_b_3_w12 := x_b.cell (i := 3) rfl
    have c_b_4_w12 := x_b.cell (i := 4) rfl
    have c_b_5_w12 := x_b.cell (i := 5) rfl
    have c_b_6_w12 := x_b.cell (i := 6) rfl
    have c_b_7_w12 := x_b.cell (i := 7) rfl
    have c_b_8_w12 := x_b.cell (i := 8) rfl
    have c_m_0_w12 := x_m.cell (i := 0) rfl
    have c_m_1_w12 := x_m.cell (i := 1) rfl
    have c_m_2_w12 := x_m.cell (i := 2) rfl
    have c_m_3_w12 := x_m.cell (i := 3) rfl
    have c_m_4_w12 := x_m.cell (i := 4) rfl
    replace eq0 := (h_w12.cell (p := ⟨bq, offq + k * 5, none⟩) (by show bq < wr.heap.size; omega)).trans eq0
    replace eq1 := (h_w12.cell (p := ⟨bq, offq + k * 5 + 1, none⟩) (by show bq < wr.heap.size; omega)).trans eq1
    replace eq2 := (h_w12.cell (p := ⟨bq, offq + k * 5 + 2, none⟩) (by show bq < wr.heap.size; omega)).trans eq2
    replace eq3 := (h_w12.cell (p := ⟨bq, offq + k * 5 + 3, none⟩) (by show bq < wr.heap.size; omega)).trans eq3
    replace eq4 := (h_w12.cell (p := ⟨bq, offq + k * 5 + 4, none⟩) (by show bq < wr.heap.size; omega)).trans eq4
    replace vp := vp.from_ h_w12
    replace vq := vq.from_ h_w12
    have hbq : bq < w12.heap.size := by omega
    have hbm : wr.heap.size < w12.heap.size := by omega
    have hbb : w.heap.size + 1 < w12.heap.size := by omega
    by_cases hs1 : acctSameB p q = true
    case neg =>
      replace hs1 : acctSameB p q = false := by simpa using hs1
      have HO : Hid (nodeSameB d g = false) := by show _ = _; rw [HE.out, show nsAccts d g = false from decide_eq_false (fun c => by have := c k hlt; rw [hp, hq, hs1] at this; simp at this)]; rfl
      have HQ := Lib.hid hs1
      clear hs1 hp hq
      go_wp2_with fail
      go_region_held3 (fun w' => w'.cell? ⟨wr.heap.size, 0, none⟩ = some (.int .i64 p.Have) ∧ w'.cell? ⟨wr.heap.size, 1, none⟩ = some (.int .i64 p.State) ∧ w'.cell? ⟨wr.heap.size, 2, none⟩ = some (.int .i64 p.By) ∧ w'.cell? ⟨wr.heap.size, 3, none⟩ = some (.slice AMp p.Marks.length cMp) ∧ w'.cell? ⟨wr.heap.size, 4, none⟩ = some (.slice ARp p.Reps.length cRp) ∧ w'.cell? ⟨w.heap.size + 1, 2, none⟩ = some (.slice (some ⟨bq, offq, none⟩) g.Accts.length cAcctsx) ∧ w'.cell? ⟨bq, offq + k * 5, none⟩ = some (.int .i64 q.Have) ∧ w'.cell? ⟨bq, offq + k * 5 + 1, none⟩ = some (.int .i64 q.State) ∧ w'.cell? ⟨bq, offq + k * 5 + 2, none⟩ = some (.int .i64 q.By) ∧ w'.cell? ⟨bq, offq + k * 5 + 3, none⟩ = some (.slice AMq q.Marks.length cMq) ∧ w'.cell? ⟨bq, offq + k * 5 + 4, none⟩ = some (.slice ARq q.Reps.length cRq))
        (first | exact ⟨c_m_0_w12, c_m_1_w12, c_m_2_w12, c_m_3_w12, c_m_4_w12, c_b_2_w12, eq0, eq1, eq2, eq3, eq4⟩ | exact ⟨(hk1 _ (by first | exact hbm | exact hbb | exact hbq)).trans c_m_0_w12, (hk1 _ (by first | exact hbm | exact hbb | exact hbq)).trans c_m_1_w12, (hk1 _ (by first | exact hbm | exact hbb | exact hbq)).trans c_m_2_w12, (hk1 _ (by first | exact hbm | exact hbb | exact hbq)).trans c_m_3_w12, (hk1 _ (by first | exact hbm | exact hbb | exact hbq)).trans c_m_4_w12, (hk1 _ (by first | exact hbm | exact hbb | exact hbq)).trans c_b_2_w12, (hk1 _ (by first | exact hbm | exact hbb | exact hbq)).trans eq0, (hk1 _ (by first | exact hbm | exact hbb | exact hbq)).trans eq1, (hk1 _ (by first | exact hbm | exact hbb | exact hbq)).trans eq2, (hk1 _ (by first | exact hbm | exact hbb | exact hbq)).trans eq3, (hk1 _ (by first | exact hbm | exact hbb | exact hbq)).trans eq4⟩ | go_keep)
        (first | (go_at_call 62; refine (sAcctSame_c vp.drew_ vq.drew_).mono ?_; rintro e w_S ⟨rfl, hd⟩; have hb2 : Below w12.heap.size w12 w_S := (Below.refl _ _).drew.trans hd; have hk1 : ∀ p : Addr, p.block < w12.heap.size → w_S.cell? p = w12.cell? p := (fun p hp => hb2.cell hp); rw [HQ.out]))
      go_wp2
      go_ret
      exact ⟨ret_eq (by rw [HO.out]; rfl), B_w12.trans (hb2.mono B_w12.size)⟩
    have H2 : Hid (∀ i, i < k + 1 → acctSameB (acctG d.Accts i) (acctG g.Accts i) = true) := fun i hi => by
      by_cases e : i = k
      · rw [e, hp, hq]; exact hs1
      · exact HT.out i (by omega)
    have HQ := Lib.hid hs1
    clear hs1 hp hq
    go_wp2_with fail
    go_region_held3 (fun w' => w'.cell? ⟨wr.heap.size, 0, none⟩ = some (.int .i64 p.Have) ∧ w'.cell? ⟨wr.heap.size, 1, none⟩ = some (.int .i64 p.State) ∧ w'.cell? ⟨wr.heap.size, 2, none⟩ = some (.int .i64 p.By) ∧ w'.cell? ⟨wr.heap.size, 3, none⟩ = some (.slice AMp p.Marks.length cMp) ∧ w'.cell? ⟨wr.heap.size, 4, none⟩ = some (.slice ARp p.Reps.length cRp) ∧ w'.cell? ⟨w.heap.size + 1, 2, none⟩ = some (.slice (some ⟨bq, offq, none⟩) g.Accts.length cAcctsx) ∧ w'.cell? ⟨bq, offq + k * 5, none⟩ = some (.int .i64 q.Have) ∧ w'.cell? ⟨bq, offq + k * 5 + 1, none⟩ = some (.int .i64 q.State) ∧ w'.cell? ⟨bq, offq + k * 5 + 2, none⟩ = some (.int .i64 q.By) ∧ w'.cell? ⟨bq, offq + k * 5 + 3, none⟩ = some (.slice AMq q.Marks.length cMq) ∧ w'.cell? ⟨bq, offq + k * 5 + 4, none⟩ = some (.slice ARq q.Reps.length cRq))
      (first | exact ⟨c_m_0_w12, c_m_1_w12, c_m_2_w12, c_m_3_w12, c_m_4_w12, c_b_2_w12, eq0, eq1, eq2, eq3, eq4⟩ | exact ⟨(hk1 _ (by first | exact hbm | exact hbb | exact hbq)).trans c_m_0_w12, (hk1 _ (by first | exact hbm | exact hbb | exact hbq)).trans c_m_1_w12, (hk1 _ (by first | exact hbm | exact hbb | exact hbq)).trans c_m_2_w12, (hk1 _ (by first | exact hbm | exact hbb | exact hbq)).trans c_m_3_w12, (hk1 _ (by first | exact hbm | exact hbb | exact hbq)).trans c_m_4_w12, (hk1 _ (by first | exact hbm | exact hbb | exact hbq)).trans c_b_2_w12, (hk1 _ (by first | exact hbm | exact hbb | exact hbq)).trans eq0, (hk1 _ (by first | exact hbm | exact hbb | exact hbq)).trans eq1, (hk1 _ (by first | exact hbm | exact hbb | exact hbq)).trans eq2, (hk1 _ (by first | exact hbm | exact hbb | exact hbq)).trans eq3, (hk1 _ (by first | exact hbm | exact hbb | exact hbq)).trans eq4⟩ | go_keep)
      (first | (go_at_call 62; refine (sAcctSame_c vp.drew_ vq.drew_).mono ?_; rintro e w_S ⟨rfl, hd⟩; have hb2 : Below w12.heap.size w12 w_S := (Below.refl _ _).drew.trans hd; have hk1 : ∀ p : Addr, p.block < w12.heap.size → w_S.cell? p = w12.cell? p := (fun p hp => hb2.cell hp); rw [HQ.out]))
    have X1 := x_a.from_ hb2
    have X2 := x_b.from_ hb2
    have B9 := B_w12.trans (hb2.mono B_w12.size)
    go_wp2
    go_roundw
    case rel => exact ⟨k + 1, by omega, by go_num, H2, X1, X2, B9⟩
    case measure => simp [intOf]; omega

end Go.Proofs.Ytdoipabfmekdlaa
