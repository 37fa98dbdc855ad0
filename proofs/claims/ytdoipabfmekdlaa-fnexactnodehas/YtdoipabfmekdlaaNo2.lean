/- A node: the contracts of spec.NodeWorth, spec.NodeHas, spec.Waiting. Laid by a program of ours (src/no2.py). -/
import Derived.Test.YtdoipabfmekdlaaBunN
namespace Go.Proofs.Ytdoipabfmekdlaa
open Go.RowKit
set_option linter.unusedVariables false

set_option maxHeartbeats 2000000 in
theorem sNodeWorth_c {w : World} {v : Value} {d : MNode} (h : RV nodeL w v d) (hb : d.bulk ≤ 16777216) : Calls Try.prog 18 #[v] w fun e w' => e = .returned (.int .i64 (nodeWorth d)) ∧ Below w.heap.size w w' := by
  have h0 := h
  obtain ⟨AAccts, cAccts, AOuts, cOuts, AIns, cIns, AAccs, cAccs, rfl, rAccts, rOuts, rIns, rAccs⟩ := rv_node h
  clear h
  obtain ⟨A', c', he, hc1, hc2, hr⟩ := rv_slice rAccts
  simp only [Value.slice.injEq, true_and] at he
  obtain ⟨rfl, rfl⟩ := he
  unfold maxLen at hc2
  clear rAccts rOuts rAccs rIns
  obtain ⟨wa, hwa, B0, sa, x_a⟩ := frame1 w 34 [.int .i64 d.Id, .int .i64 d.N, .slice AAccts d.Accts.length cAccts, .slice AOuts d.Outs.length cOuts, .slice AIns d.Ins.length cIns, .slice AAccs d.Accs.length cAccs, .int .i64 d.Stray, .int .i64 d.Came, .int .i64 d.Went]
  have sa_1 := Nat.le_of_eq sa
  have sa_2 := Nat.le_of_eq sa.symm
  clear sa
  have c_a_0_wa := x_a.cell (i := 0) rfl
  have c_a_1_wa := x_a.cell (i := 1) rfl
  have c_a_2_wa := x_a.cell (i := 2) rfl
  have c_a_3_wa := x_a.cell (i := 3) rfl
  have c_a_4_wa := x_a.cell (i := 4) rfl
  have c_a_5_wa := x_a.cell (i := 5) rfl
  have c_a_6_wa := x_a.cell (i := 6) rfl
  have c_a_7_wa := x_a.cell (i := 7) rfl
  have c_a_8_wa := x_a.cell (i := 8) rfl
  by_cases ho : nodeOkB d = true
  case neg =>
    replace ho : nodeOkB d = false := by simpa using ho
    have HK := Lib.hid ho
    have HO : Hid (nodeWorth d = 0) := by show _ = _; unfold nodeWorth; rw [ho]; rfl
    clear ho
    go_enter Try.func18, Try.ntmps18
    go_wp2_with fail
    refine (sNodeOk_c (h0.from_ B0) hb).mono ?_
    rintro e w1 ⟨rfl, h_w1⟩
    clear c_a_0_wa c_a_1_wa c_a_2_wa c_a_3_wa c_a_4_wa c_a_5_wa c_a_6_wa c_a_7_wa c_a_8_wa
    replace x_a := x_a.from_ h_w1
    have B_w1 := B0.trans (h_w1.mono B0.size)
    have s_w1 := h_w1.size
    rw [HK.out]
    go_wp2
    go_ret
    exact ⟨ret_eq (by rw [HO.out]; rfl), B_w1⟩
  have HK := Lib.hid ho
  have HO : Hid (nodeWorth d = haveSum d.Accts d.Stray) := if_pos ho
  clear ho
  go_enter Try.func18, Try.ntmps18
  go_wp2_with fail
  refine (sNodeOk_c (h0.from_ B0) hb).mono ?_
  rintro e w1 ⟨rfl, h_w1⟩
  clear c_a_0_wa c_a_1_wa c_a_2_wa c_a_3_wa c_a_4_wa c_a_5_wa c_a_6_wa c_a_7_wa c_a_8_wa
  replace x_a := x_a.from_ h_w1
  have B_w1 := B0.trans (h_w1.mono B0.size)
  have s_w1 := h_w1.size
  rw [HK.out]
  have c_a_0_w1 := x_a.cell (i := 0) rfl
  have c_a_1_w1 := x_a.cell (i := 1) rfl
  have c_a_2_w1 := x_a.cell (i := 2) rfl
  have c_a_3_w1 := x_a.cell (i := 3) rfl
  have c_a_4_w1 := x_a.cell (i := 4) rfl
  have c_a_5_w1 := x_a.cell (i := 5) rfl
  have c_a_6_w1 := x_a.cell (i := 6) rfl
  have c_a_7_w1 := x_a.cell (i := 7) rfl
  have c_a_8_w1 := x_a.cell (i := 8) rfl
  go_wp2
  go_loopw [3, 14] (fun n i wr => ∃ (k : Nat) (z : Int), k ≤ d.Accts.length ∧ i = .int .i64 k ∧ n = .int .i64 z ∧ Hid (z = haveSum (d.Accts.take k) d.Stray) ∧ Vr wr w.heap.size 34 [.int .i64 d.Id, .int .i64 d.N, .slice AAccts d.Accts.length cAccts, .slice AOuts d.Outs.length cOuts, .slice AIns d.Ins.length cIns, .slice AAccs d.Accs.length cAccs, .int .i64 d.Stray, .int .i64 d.Came, .int .i64 d.Went] ∧ Below w.heap.size w wr) (fun _ i _ => d.Accts.length - (intOf i).toNat)
  case atStart => exact ⟨0, _, Nat.zero_le _, rfl, rfl, rfl, x_a, B_w1⟩
  case round =>
    clear c_a_0_w1 c_a_1_w1 c_a_2_w1 c_a_3_w1 c_a_4_w1 c_a_5_w1 c_a_6_w1 c_a_7_w1 c_a_8_w1
    clear x_a hwa
    obtain ⟨k, z, hk, rfl, rfl, HZ, x_a, HB⟩ := hrel
    have hs := HB.size
    by_cases hlt : k < d.Accts.length
    case neg =>
      have HW : Hid (z = haveSum d.Accts d.Stray) := by show _ = _; rw [HZ.out, List.take_of_length_le (by omega)]
      have hk2 : ¬ ((k : Int) < (d.Accts.length : Int)) := by omega
      have c_a_0_wr := x_a.cell (i := 0) rfl
      have c_a_1_wr := x_a.cell (i := 1) rfl
      have c_a_2_wr := x_a.cell (i := 2) rfl
      have c_a_3_wr := x_a.cell (i := 3) rfl
      have c_a_4_wr := x_a.cell (i := 4) rfl
      have c_a_5_wr := x_a.cell (i := 5) rfl
      have c_a_6_wr := x_a.cell (i := 6) rfl
      have c_a_7_wr := x_a.cell (i := 7) rfl
      have c_a_8_wr := x_a.cell (i := 8) rfl
      go_wp2
      go_ret
      exact ⟨ret_eq (by rw [HO.out, HW.out]; rfl), HB⟩
    obtain ⟨a, hae⟩ := get_of_lt hlt
    obtain ⟨b, off, AM, cM, AR, cR, hAA, hbb, e0, e1, e2, e3, e4, rM, rR⟩ := el_acct (hr.below HB) hae hs
    subst hAA
    have i1 : (k : Int) < (d.Accts.length : Int) := by omega
    obtain ⟨y, hy⟩ : ∃ y, IntKind.i64.wrap (z + a.Have) = y := ⟨_, rfl⟩
    have H2 : Hid (y = haveSum (d.Accts.take (k + 1)) d.Stray) := by show _ = _; rw [haveSum_take hae, ← HZ.out, hy]
    clear hae rM rR
    obtain ⟨w2, e_w2, s_w2, h_w2, x_m⟩ := alloc_step wr 52 [.int .i64 a.Have, .int .i64 a.State, .int .i64 a.By, .slice AM a.Marks.length cM, .slice AR a.Reps.length cR]
    have s_w2_1 := Nat.le_of_eq s_w2
    have s_w2_2 := Nat.le_of_eq s_w2.symm
    clear s_w2
    replace x_a := x_a.from_ h_w2
    have B_w2 := HB.trans (h_w2.mono HB.size)
    have c_a_0_w2 := x_a.cell (i := 0) rfl
    have c_a_1_w2 := x_a.cell (i := 1) rfl
    have c_a_2_w2 := x_a.cell (i := 2) rfl
    have c_a_3_w2 := x_a.cell (i := 3) rfl
    have c_a_4_w2 := x_a.cell (i := 4) rfl
    have c_a_5_w2 := x_a.cell (i := 5) rfl
    have c_a_6_w2 := x_a.cell (i := 6) rfl
    have c_a_7_w2 := x_a.cell (i := 7) rfl
    have c_a_8_w2 := x_a.cell (i := 8) rfl
    have c_m_0_w2 := x_m.cell (i := 0) rfl
    have c_m_1_w2 := x_m.cell (i := 1) rfl
    have c_m_2_w2 := x_m.cell (i := 2) rfl
    have c_m_3_w2 := x_m.cell (i := 3) rfl
    have c_m_4_w2 := x_m.cell (i := 4) rfl
    go_wp2
    go_roundw
    case rel => exact ⟨k + 1, y, by omega, by go_num, rfl, H2, x_a, B_w2⟩
    case measure => simp [intOf]; omega

set_option maxHeartbeats 2000000 in
theorem sWaiting_c {w : World} {v : Value} {d : MNode} (h : RV nodeL w v d) : Calls Try.prog 24 #[v] w fun e w' => e = .returned (.int .i64 (waiting d)) ∧ Below w.heap.size w w' := by
  have h0 := h
  obtain ⟨AAccts, cAccts, AOuts, cOuts, AIns, cIns, AAccs, cAccs, rfl, rAccts, rOuts, rIns, rAccs⟩ := rv_node h
  clear h
  obtain ⟨A', c', he, hc1, hc2, hr⟩ := rv_slice rOuts
  simp only [Value.slice.injEq, true_and] at he
  obtain ⟨rfl, rfl⟩ := he
  unfold maxLen at hc2
  clear rAccts rOuts rAccs rIns
  obtain ⟨wa, hwa, B0, sa, x_a⟩ := frame1 w 34 [.int .i64 d.Id, .int .i64 d.N, .slice AAccts d.Accts.length cAccts, .slice AOuts d.Outs.length cOuts, .slice AIns d.Ins.length cIns, .slice AAccs d.Accs.length cAccs, .int .i64 d.Stray, .int .i64 d.Came, .int .i64 d.Went]
  have sa_1 := Nat.le_of_eq sa
  have sa_2 := Nat.le_of_eq sa.symm
  clear sa
  have c_a_0_wa := x_a.cell (i := 0) rfl
  have c_a_1_wa := x_a.cell (i := 1) rfl
  have c_a_2_wa := x_a.cell (i := 2) rfl
  have c_a_3_wa := x_a.cell (i := 3) rfl
  have c_a_4_wa := x_a.cell (i := 4) rfl
  have c_a_5_wa := x_a.cell (i := 5) rfl
  have c_a_6_wa := x_a.cell (i := 6) rfl
  have c_a_7_wa := x_a.cell (i := 7) rfl
  have c_a_8_wa := x_a.cell (i := 8) rfl
  go_enter Try.func24, Try.ntmps24
  go_wp2
  go_loopw [3, 9] (fun n i wr => ∃ (k : Nat) (z : Int), k ≤ d.Outs.length ∧ i = .int .i64 k ∧ n = .int .i64 z ∧ Hid (z = waitSum (d.Outs.take k) 0) ∧ Vr wr w.heap.size 34 [.int .i64 d.Id, .int .i64 d.N, .slice AAccts d.Accts.length cAccts, .slice AOuts d.Outs.length cOuts, .slice AIns d.Ins.length cIns, .slice AAccs d.Accs.length cAccs, .int .i64 d.Stray, .int .i64 d.Came, .int .i64 d.Went] ∧ Below w.heap.size w wr) (fun _ i _ => d.Outs.length - (intOf i).toNat)
  case atStart => exact ⟨0, _, Nat.zero_le _, rfl, rfl, rfl, x_a, B0⟩
  case round =>
    clear c_a_0_wa c_a_1_wa c_a_2_wa c_a_3_wa c_a_4_wa c_a_5_wa c_a_6_wa c_a_7_wa c_a_8_wa
    clear x_a hwa
    obtain ⟨k, z, hk, rfl, rfl, HZ, x_a, HB⟩ := hrel
    have hs := HB.size
    by_cases hlt : k < d.Outs.length
    case neg =>
      have HW : Hid (waiting d = z) := by show _ = _; unfold waiting; rw [HZ.out, List.take_of_length_le (by omega)]
      have hk2 : ¬ ((k : Int) < (d.Outs.length : Int)) := by omega
      have c_a_0_wr := x_a.cell (i := 0) rfl
      have c_a_1_wr := x_a.cell (i := 1) rfl
      have c_a_2_wr := x_a.cell (i := 2) rfl
      have c_a_3_wr := x_a.cell (i := 3) rfl
      have c_a_4_wr := x_a.cell (i := 4) rfl
      have c_a_5_wr := x_a.cell (i := 5) rfl
      have c_a_6_wr := x_a.cell (i := 6) rfl
      have c_a_7_wr := x_a.cell (i := 7) rfl
      have c_a_8_wr := x_a.cell (i := 8) rfl
      go_wp2
      go_ret
      exact ⟨ret_eq (by rw [HW.out]; rfl), HB⟩
    obtain ⟨p, hpe⟩ := get_of_lt hlt
    obtain ⟨b, off, AList, cList, hAO, hbb, e0, e1, rp⟩ := el_out (hr.below HB) hpe hs
    subst hAO
    have i1 : (k : Int) < (d.Outs.length : Int) := by omega
    obtain ⟨y, hy⟩ : ∃ y, IntKind.i64.wrap (z + (p.List.length : Int)) = y := ⟨_, rfl⟩
    have H2 : Hid (y = waitSum (d.Outs.take (k + 1)) 0) := by show _ = _; rw [waitSum_take hpe, ← HZ.out, hy]
    clear hpe rp
    obtain ⟨w1, e_w1, s_w1, h_w1, x_m⟩ := alloc_step wr 59 [.int .i64 p.Next, .slice AList p.List.length cList]
    have s_w1_1 := Nat.le_of_eq s_w1
    have s_w1_2 := Nat.le_of_eq s_w1.symm
    clear s_w1
    replace x_a := x_a.from_ h_w1
    have B_w1 := HB.trans (h_w1.mono HB.size)
    have c_a_0_w1 := x_a.cell (i := 0) rfl
    have c_a_1_w1 := x_a.cell (i := 1) rfl
    have c_a_2_w1 := x_a.cell (i := 2) rfl
    have c_a_3_w1 := x_a.cell (i := 3) rfl
    have c_a_4_w1 := x_a.cell (i := 4) rfl
    have c_a_5_w1 := x_a.cell (i := 5) rfl
    have c_a_6_w1 := x_a.cell (i := 6) rfl
    have c_a_7_w1 := x_a.cell (i := 7) rfl
    have c_a_8_w1 := x_a.cell (i := 8) rfl
    have c_m_0_w1 := x_m.cell (i := 0) rfl
    have c_m_1_w1 := x_m.cell (i := 1) rfl
    go_wp2
    go_roundw
    case rel => exact ⟨k + 1, y, by omega, by go_num, rfl, H2, x_a, B_w1⟩
    case measure => simp [intOf]; omega

set_option maxHeartbeats 2000000 in
theorem sNodeHas_c {w : World} {v : Value} {d : MNode} {q : Int} (h : RV nodeL w v d) (hb : d.bulk ≤ 16777216) : Calls Try.prog 20 #[v, .int .i64 q] w fun e w' => e = .returned (.int .i64 (nodeHas d q)) ∧ Below w.heap.size w w' := by
  have h0 := h
  obtain ⟨AAccts, cAccts, AOuts, cOuts, AIns, cIns, AAccs, cAccs, rfl, rAccts, rOuts, rIns, rAccs⟩ := rv_node h
  clear h
  obtain ⟨A', c', he, hc1, hc2, hr⟩ := rv_slice rAccts
  simp only [Value.slice.injEq, true_and] at he
  obtain ⟨rfl, rfl⟩ := he
  unfold maxLen at hc2
  clear rAccts rOuts rAccs rIns
  obtain ⟨wa, hwa, B0, sa, x_a⟩ := frame1 w 34 [.int .i64 d.Id, .int .i64 d.N, .slice AAccts d.Accts.length cAccts, .slice AOuts d.Outs.length cOuts, .slice AIns d.Ins.length cIns, .slice AAccs d.Accs.length cAccs, .int .i64 d.Stray, .int .i64 d.Came, .int .i64 d.Went]
  have sa_1 := Nat.le_of_eq sa
  have sa_2 := Nat.le_of_eq sa.symm
  clear sa
  have c_a_0_wa := x_a.cell (i := 0) rfl
  have c_a_1_wa := x_a.cell (i := 1) rfl
  have c_a_2_wa := x_a.cell (i := 2) rfl
  have c_a_3_wa := x_a.cell (i := 3) rfl
  have c_a_4_wa := x_a.cell (i := 4) rfl
  have c_a_5_wa := x_a.cell (i := 5) rfl
  have c_a_6_wa := x_a.cell (i := 6) rfl
  have c_a_7_wa := x_a.cell (i := 7) rfl
  have c_a_8_wa := x_a.cell (i := 8) rfl
  by_cases ho : nodeOkB d = true
  case neg =>
    replace ho : nodeOkB d = false := by simpa using ho
    have HK := Lib.hid ho
    have HO : Hid (nodeHas d q = 0) := by show _ = _; unfold nodeHas; rw [ho]; simp
    clear ho
    go_enter Try.func20, Try.ntmps20
    go_wp2_with fail
    refine (sNodeOk_c (h0.from_ B0) hb).mono ?_
    rintro e w1 ⟨rfl, h_w1⟩
    clear c_a_0_wa c_a_1_wa c_a_2_wa c_a_3_wa c_a_4_wa c_a_5_wa c_a_6_wa c_a_7_wa c_a_8_wa
    replace x_a := x_a.from_ h_w1
    have B_w1 := B0.trans (h_w1.mono B0.size)
    have s_w1 := h_w1.size
    rw [HK.out]
    go_wp2
    go_ret
    exact ⟨ret_eq (by rw [HO.out]; rfl), B_w1⟩
  have HK := Lib.hid ho
  have t1 : IntKind.i64.wrap ((d.Accts.length : Int) - 1) = (d.Accts.length : Int) - 1 := IntWalk.i64_in _ (by omega)
  by_cases hi : inB q 0 ((d.Accts.length : Int) - 1) = true
  case neg =>
    replace hi : inB q 0 ((d.Accts.length : Int) - 1) = false := by simpa using hi
    have HI := Lib.hid hi
    have HO : Hid (nodeHas d q = 0) := by show _ = _; unfold nodeHas; rw [hi]; simp
    clear ho hi
    go_enter Try.func20, Try.ntmps20
    go_wp2_with fail
    refine (sNodeOk_c (h0.from_ B0) hb).mono ?_
    rintro e w1 ⟨rfl, h_w1⟩
    clear c_a_0_wa c_a_1_wa c_a_2_wa c_a_3_wa c_a_4_wa c_a_5_wa c_a_6_wa c_a_7_wa c_a_8_wa
    replace x_a := x_a.from_ h_w1
    have B_w1 := B0.trans (h_w1.mono B0.size)
    have s_w1 := h_w1.size
    rw [HK.out]
    have c_a_0_w1 := x_a.cell (i := 0) rfl
    have c_a_1_w1 := x_a.cell (i := 1) rfl
    have c_a_2_w1 := x_a.cell (i := 2) rfl
    have c_a_3_w1 := x_a.cell (i := 3) rfl
    have c_a_4_w1 := x_a.cell (i := 4) rfl
    have c_a_5_w1 := x_a.cell (i := 5) rfl
    have c_a_6_w1 := x_a.cell (i := 6) rfl
    have c_a_7_w1 := x_a.cell (i := 7) rfl
    have c_a_8_w1 := x_a.cell (i := 8) rfl
    go_wp2_with fail
    refine (sIn_any _ _ _ _).mono ?_
    rintro e w' ⟨rfl, rfl⟩
    rw [HI.out]
    go_wp2
    go_ret
    exact ⟨ret_eq (by rw [HO.out]; rfl), B_w1⟩
  have HI := Lib.hid hi
  have bi := inB_true.1 hi
  obtain ⟨m, rfl⟩ : ∃ m : Nat, q = (m : Int) := ⟨q.toNat, by omega⟩
  obtain ⟨a, hae⟩ := get_of_lt (xs := d.Accts) (k := m) (by omega)
  have HO : Hid (nodeHas d (m : Int) = a.Have) := by show _ = _; unfold nodeHas; rw [if_pos ⟨ho, hi⟩, show (m : Int).toNat = m from rfl, acctG_of hae]
  clear ho hi
  have i1 : (m : Int) < (d.Accts.length : Int) := by omega
  have i3 : (0 : Int) ≤ (m : Int) := by omega
  go_enter Try.func20, Try.ntmps20
  go_wp2_with fail
  refine (sNodeOk_c (h0.from_ B0) hb).mono ?_
  rintro e w1 ⟨rfl, h_w1⟩
  clear c_a_0_wa c_a_1_wa c_a_2_wa c_a_3_wa c_a_4_wa c_a_5_wa c_a_6_wa c_a_7_wa c_a_8_wa
  replace x_a := x_a.from_ h_w1
  have B_w1 := B0.trans (h_w1.mono B0.size)
  have s_w1 := h_w1.size
  rw [HK.out]
  have c_a_0_w1 := x_a.cell (i := 0) rfl
  have c_a_1_w1 := x_a.cell (i := 1) rfl
  have c_a_2_w1 := x_a.cell (i := 2) rfl
  have c_a_3_w1 := x_a.cell (i := 3) rfl
  have c_a_4_w1 := x_a.cell (i := 4) rfl
  have c_a_5_w1 := x_a.cell (i := 5) rfl
  have c_a_6_w1 := x_a.cell (i := 6) rfl
  have c_a_7_w1 := x_a.cell (i := 7) rfl
  have c_a_8_w1 := x_a.cell (i := 8) rfl
  go_wp2_with fail
  refine (sIn_any _ _ _ _).mono ?_
  rintro e w' ⟨rfl, rfl⟩
  rw [HI.out]
  obtain ⟨b, off, AM, cM, AR, cR, hAA, hbb, e0, e1, e2, e3, e4, rM, rR⟩ := el_acct (hr.below B_w1) hae B_w1.size
  subst hAA
  go_wp2
  go_ret
  exact ⟨ret_eq (by rw [HO.out]; rfl), B_w1⟩

end Go.Proofs.Ytdoipabfmekdlaa
