/- An account at a node: FinalOf, AcctSame, AsName: the contracts of spec's functions and of impl's. Laid by a program of ours (src/ac2.py). -/
import Derived.Test.YtdoipabfmekdlaaBunC
import Derived.Test.YtdoipabfmekdlaaSSame
import Derived.Laws.StructEq
namespace Go.Proofs.Ytdoipabfmekdlaa
open Go.RowKit
set_option linter.unusedVariables false

theorem rep_held : Try.prog.stoodInHeld 90 = false := by kernel_rfl
theorem rep_guard : Try.prog.eqGuardType Try.prog.depth 90 = false := by kernel_rfl

theorem rep_fields : Try.prog.underlying 90 = some (.struct (Try.prog.fieldsOf 90)) := by
  unfold Program.fieldsOf; rw [Try.underlying90]

theorem eq_rep_run (d : Nat) (W : World) (a b : MRep) : (Op.equalIn (d + 2) 90 (.agg #[.int .i64 a.Node, .int .i64 a.Amt]) (.agg #[.int .i64 b.Node, .int .i64 b.Amt])).run Try.prog W = .ok (decide (a = b)) W := by
  rw [run_equalIn_agg W (d + 1) _ _ _ rep_fields rep_held]
  unfold Program.fieldsOf
  rw [Try.underlying90]
  have hu : Try.prog.underlying 3 = some (.int .i64) := Try.underlying3
  obtain ⟨a1, a2⟩ := a
  obtain ⟨b1, b2⟩ := b
  simp [Op.eqFields, go_sem, hu]
  by_cases e1 : a1 = b1 <;> by_cases e2 : a2 = b2 <;> simp [e1, e2]

theorem neq_rep_run (W : World) (a b : MRep) : (binOp .neq 90 (.agg #[.int .i64 a.Node, .int .i64 a.Amt]) (.agg #[.int .i64 b.Node, .int .i64 b.Amt])).run Try.prog W = .ok (.bool (!decide (a = b))) W := by
  rw [run_neq_struct, eq_rep_run 9998]; rfl
theorem guard_rep_run (op : BinOp) (x y : Operand) (W : World) (xs ys : Array Value) : (eqGuard op 90 x y (.agg xs) (.agg ys)).run Try.prog W = .ok () W := run_eqGuard_agg W op _ x y xs ys rep_guard

set_option maxHeartbeats 2000000 in
theorem iEqualR_c {w : World} {v v' : Value} {l l2 : List MRep} (h : RV repSL w v l) (h2 : RV repSL w v' l2) : Calls Try.prog 107 #[v, v'] w fun e w' => e = .returned (.bool (decide (l = l2))) ∧ Below w.heap.size w w' := by
  obtain ⟨A, c, rfl, hc1_h, hc2_h, rh⟩ := rv_slice h
  obtain ⟨A2, c2, rfl, hc1_h2, hc2_h2, rh2⟩ := rv_slice h2
  clear h h2
  unfold maxLen at hc2_h hc2_h2
  by_cases hl : l.length = l2.length
  case neg =>
    have HO : Hid (decide (l = l2) = false) := decide_eq_false (fun h => hl (by rw [h]))
    have g2 : ((l.length : Int) != (l2.length : Int)) = true := by simp; omega
    clear hl
    go_enter Try.func107, Try.ntmps107
    go_wp2
    go_ret
    exact ⟨ret_eq (by rw [HO.out]; rfl), Below.refl _ _⟩
  have g2 : ((l.length : Int) != (l2.length : Int)) = false := by simp; omega
  have l1 := Nat.le_of_eq hl
  have l2_ := Nat.le_of_eq hl.symm
  clear hl
  go_enter Try.func107, Try.ntmps107
  go_wp2
  go_loopw [13] (fun i wr => ∃ k : Nat, k ≤ l.length ∧ i = .int .i64 k ∧ Hid (l.take k = l2.take k) ∧ Below w.heap.size w wr) (fun i _ => l.length - (intOf i).toNat)
  case atStart => exact ⟨0, Nat.zero_le _, rfl, rfl, Below.refl _ _⟩
  case round =>
    obtain ⟨k, hk, rfl, HT, HB⟩ := hrel
    have hs := HB.size
    by_cases hlt : k < l.length
    case neg =>
      have HO : Hid (decide (l = l2) = true) := decide_eq_true (by have := HT.out; rwa [List.take_of_length_le (by omega), List.take_of_length_le (by omega)] at this)
      have hk2 : k = l.length := by omega
      subst hk2
      go_wp2
      go_ret
      exact ⟨ret_eq (by rw [HO.out]; rfl), HB⟩
    obtain ⟨x, hxe⟩ := get_of_lt hlt
    obtain ⟨y, hye⟩ := get_of_lt (xs := l2) (k := k) (by omega)
    obtain ⟨b, off, rfl, hb, e0, e1⟩ := el_rep (rh.below HB) hxe
    obtain ⟨b', off', rfl, hb', d0, d1⟩ := el_rep (rh2.below HB) hye
    have i1 : (k : Int) < (l.length : Int) := by omega
    have i2 : (k : Int) < (l2.length : Int) := by omega
    have gd := fun op x y W xs ys => guard_rep_run op x y W xs ys
    have gn := fun W => neq_rep_run W x y
    by_cases hxy : x = y
    case pos =>
      rw [show (!decide (x = y)) = false by simp [hxy]] at gn
      have H2 : Hid (l.take (k + 1) = l2.take (k + 1)) := take_succ_eqL HT.out hxe (by rw [hye, hxy])
      clear hxy hxe hye
      go_wp2_with fail
      go_quiet (fail)
      have B9 := HB.trans (below_of_drew _ _ nq)
      go_wp2
      go_roundw
      case rel => exact ⟨k + 1, by omega, by go_num, H2, B9⟩
      case measure => simp [intOf]; omega
    case neg =>
      rw [show (!decide (x = y)) = true by simp [hxy]] at gn
      have HO : Hid (decide (l = l2) = false) := decide_eq_false (fun h => hxy (by have h1 := hxe; rw [h, hye] at h1; simpa using h1.symm))
      clear hxy hxe hye
      go_wp2_with fail
      go_quiet (fail)
      have B9 := HB.trans (below_of_drew _ _ nq)
      go_wp2
      go_ret
      exact ⟨ret_eq (by rw [HO.out]; rfl), B9⟩

set_option maxHeartbeats 2000000 in
theorem iEqualI_c {w : World} {v v' : Value} {l l2 : List Int} (h : RS .i64 w v l) (h2 : RS .i64 w v' l2) : Calls Try.prog 93 #[v, v'] w fun e w' => e = .returned (.bool (decide (l = l2))) ∧ Below w.heap.size w w' := by
  obtain ⟨A, c, rfl, hc1_h, hc2_h, rh⟩ := h
  obtain ⟨A2, c2, rfl, hc1_h2, hc2_h2, rh2⟩ := h2
  unfold maxLen at hc2_h hc2_h2
  by_cases hl : l.length = l2.length
  case neg =>
    have HO : Hid (decide (l = l2) = false) := decide_eq_false (fun h => hl (by rw [h]))
    have g2 : ((l.length : Int) != (l2.length : Int)) = true := by simp; omega
    clear hl
    go_enter Try.func93, Try.ntmps93
    go_wp2
    go_ret
    exact ⟨ret_eq (by rw [HO.out]; rfl), Below.refl _ _⟩
  have g2 : ((l.length : Int) != (l2.length : Int)) = false := by simp; omega
  have l1 := Nat.le_of_eq hl
  have l2_ := Nat.le_of_eq hl.symm
  clear hl
  go_enter Try.func93, Try.ntmps93
  go_wp2
  go_loopw [13] (fun i wr => ∃ k : Nat, k ≤ l.length ∧ i = .int .i64 k ∧ Hid (l.take k = l2.take k) ∧ Below w.heap.size w wr) (fun i _ => l.length - (intOf i).toNat)
  case atStart => exact ⟨0, Nat.zero_le _, rfl, rfl, Below.refl _ _⟩
  case round =>
    obtain ⟨k, hk, rfl, HT, HB⟩ := hrel
    have hs := HB.size
    by_cases hlt : k < l.length
    case neg =>
      have HO : Hid (decide (l = l2) = true) := decide_eq_true (by have := HT.out; rwa [List.take_of_length_le (by omega), List.take_of_length_le (by omega)] at this)
      have hk2 : k = l.length := by omega
      subst hk2
      go_wp2
      go_ret
      exact ⟨ret_eq (by rw [HO.out]; rfl), HB⟩
    obtain ⟨x, hxe⟩ := get_of_lt hlt
    obtain ⟨y, hye⟩ := get_of_lt (xs := l2) (k := k) (by omega)
    obtain ⟨b, off, rfl, hb, e0⟩ := rd_at (rh.below HB) hlt
    obtain ⟨b', off', rfl, hb', d0⟩ := rd_at (rh2.below HB) (j := k) (by omega)
    rw [show l.getD k 0 = x by rw [List.getD_eq_getElem?_getD, hxe]; rfl] at e0
    rw [show l2.getD k 0 = y by rw [List.getD_eq_getElem?_getD, hye]; rfl] at d0
    have i1 : (k : Int) < (l.length : Int) := by omega
    have i2 : (k : Int) < (l2.length : Int) := by omega
    by_cases hxy : x = y
    case pos =>
      have t0 : (x != y) = false := by simpa using hxy
      have H2 : Hid (l.take (k + 1) = l2.take (k + 1)) := take_succ_eqL HT.out hxe (by rw [hye, hxy])
      clear hxy hxe hye
      go_wp2_with fail
      go_quiet (fail)
      have B9 := HB.trans (below_of_drew _ _ nq)
      go_wp2
      go_roundw
      case rel => exact ⟨k + 1, by omega, by go_num, H2, B9⟩
      case measure => simp [intOf]; omega
    case neg =>
      have t0 : (x != y) = true := by simpa using hxy
      have HO : Hid (decide (l = l2) = false) := decide_eq_false (fun h => hxy (by have h1 := hxe; rw [h, hye] at h1; simpa using h1.symm))
      clear hxy hxe hye
      go_wp2_with fail
      go_quiet (fail)
      have B9 := HB.trans (below_of_drew _ _ nq)
      go_wp2
      go_ret
      exact ⟨ret_eq (by rw [HO.out]; rfl), B9⟩

def asName (s : Int) : ByteArray := if s = 0 then ⟨#[111, 112, 101, 110]⟩ else if s = 1 then ⟨#[115, 104, 117, 116]⟩ else if s = 2 then ⟨#[100, 111, 110, 101]⟩ else ⟨#[]⟩

set_option maxHeartbeats 4000000 in
theorem sAcctSame_c {w : World} {v v' : Value} {a d : MAcct} (h : RV acctL w v a) (h' : RV acctL w v' d) : Calls Try.prog 62 #[v, v'] w fun e w' => e = .returned (.bool (acctSameB a d)) ∧ Below w.heap.size w w' := by
  obtain ⟨AM, cM, AR, cR, rfl, rM, rR⟩ := rv_acct h
  obtain ⟨AM', cM', AR', cR', rfl, rM', rR'⟩ := rv_acct h'
  clear h h'
  obtain ⟨A', c', he, hc1, hc2, hr⟩ := rv_slice rR
  simp only [Value.slice.injEq, true_and] at he
  obtain ⟨rfl, rfl⟩ := he
  obtain ⟨A', c', he, hc1_, hc2_, hr'⟩ := rv_slice rR'
  simp only [Value.slice.injEq, true_and] at he
  obtain ⟨rfl, rfl⟩ := he
  unfold maxLen at hc2 hc2_
  obtain ⟨wa, hwa, B0, sa, x_a, x_b⟩ := frame2 w 52 [.int .i64 a.Have, .int .i64 a.State, .int .i64 a.By, .slice AM a.Marks.length cM, .slice AR a.Reps.length cR] 52 [.int .i64 d.Have, .int .i64 d.State, .int .i64 d.By, .slice AM' d.Marks.length cM', .slice AR' d.Reps.length cR']
  have sa_1 := Nat.le_of_eq sa
  have sa_2 := Nat.le_of_eq sa.symm
  clear sa
  have c_a_0_wa := x_a.cell (i := 0) rfl
  have c_a_1_wa := x_a.cell (i := 1) rfl
  have c_a_2_wa := x_a.cell (i := 2) rfl
  have c_a_3_wa := x_a.cell (i := 3) rfl
  have c_a_4_wa := x_a.cell (i := 4) rfl
  have c_b_0_wa := x_b.cell (i := 0) rfl
  have c_b_1_wa := x_b.cell (i := 1) rfl
  have c_b_2_wa := x_b.cell (i := 2) rfl
  have c_b_3_wa := x_b.cell (i := 3) rfl
  have c_b_4_wa := x_b.cell (i := 4) rfl
  by_cases hHave : a.Have = d.Have
  case neg =>
    have HO : Hid (acctSameB a d = false) := by show _ = _; unfold acctSameB; rw [decide_eq_false hHave]; simp
    have gHave : (a.Have != d.Have) = true := by simpa using hHave
    clear hHave
    go_enter Try.func62, Try.ntmps62
    go_wp2
    go_ret
    exact ⟨ret_eq (by rw [HO.out]; rfl), B0⟩
  have gHave : (a.Have != d.Have) = false := by simpa using hHave
  by_cases hState : a.State = d.State
  case neg =>
    have HO : Hid (acctSameB a d = false) := by show _ = _; unfold acctSameB; rw [decide_eq_false hState]; simp
    have gState : (a.State != d.State) = true := by simpa using hState
    clear hHave hState
    go_enter Try.func62, Try.ntmps62
    go_wp2
    go_ret
    exact ⟨ret_eq (by rw [HO.out]; rfl), B0⟩
  have gState : (a.State != d.State) = false := by simpa using hState
  by_cases hBy : a.By = d.By
  case neg =>
    have HO : Hid (acctSameB a d = false) := by show _ = _; unfold acctSameB; rw [decide_eq_false hBy]; simp
    have gBy : (a.By != d.By) = true := by simpa using hBy
    clear hHave hState hBy
    go_enter Try.func62, Try.ntmps62
    go_wp2
    go_ret
    exact ⟨ret_eq (by rw [HO.out]; rfl), B0⟩
  have gBy : (a.By != d.By) = false := by simpa using hBy
  by_cases hMk : decide (a.Marks = d.Marks) = true
  case neg =>
    replace hMk : decide (a.Marks = d.Marks) = false := by simpa using hMk
    have HM := Lib.hid hMk
    have HO : Hid (acctSameB a d = false) := by show _ = _; unfold acctSameB; rw [hMk]; simp
    clear hMk hHave hState hBy
    go_enter Try.func62, Try.ntmps62
    go_wp2_with fail
    refine (sSame_c (rM.from_ B0) (rM'.from_ B0)).mono ?_
    rintro e w1 ⟨rfl, h_w1⟩
    clear c_a_0_wa c_a_1_wa c_a_2_wa c_a_3_wa c_a_4_wa c_b_0_wa c_b_1_wa c_b_2_wa c_b_3_wa c_b_4_wa
    replace x_a := x_a.from_ h_w1
    replace x_b := x_b.from_ h_w1
    have B_w1 := B0.trans (h_w1.mono B0.size)
    have s_w1 := h_w1.size
    rw [HM.out]
    have c_a_0_w1 := x_a.cell (i := 0) rfl
    have c_a_1_w1 := x_a.cell (i := 1) rfl
    have c_a_2_w1 := x_a.cell (i := 2) rfl
    have c_a_3_w1 := x_a.cell (i := 3) rfl
    have c_a_4_w1 := x_a.cell (i := 4) rfl
    have c_b_0_w1 := x_b.cell (i := 0) rfl
    have c_b_1_w1 := x_b.cell (i := 1) rfl
    have c_b_2_w1 := x_b.cell (i := 2) rfl
    have c_b_3_w1 := x_b.cell (i := 3) rfl
    have c_b_4_w1 := x_b.cell (i := 4) rfl
    go_wp2
    go_ret
    exact ⟨ret_eq (by rw [HO.out]; rfl), B_w1⟩
  have HM := Lib.hid hMk
  have HE : Hid (acctSameB a d = decide (a.Reps = d.Reps)) := by show _ = _; unfold acctSameB; rw [hMk, decide_eq_true hHave, decide_eq_true hState, decide_eq_true hBy]; rfl
  clear hMk hHave hState hBy
  by_cases hl : a.Reps.length = d.Reps.length
  case neg =>
    have HO : Hid (acctSameB a d = false) := by show _ = _; rw [HE.out]; exact decide_eq_false (fun e => hl (by rw [e]))
    have gl : ((a.Reps.length : Int) != (d.Reps.length : Int)) = true := by simp; omega
    clear hl
    go_enter Try.func62, Try.ntmps62
    go_wp2_with fail
    refine (sSame_c (rM.from_ B0) (rM'.from_ B0)).mono ?_
    rintro e w1 ⟨rfl, h_w1⟩
    clear c_a_0_wa c_a_1_wa c_a_2_wa c_a_3_wa c_a_4_wa c_b_0_wa c_b_1_wa c_b_2_wa c_b_3_wa c_b_4_wa
    replace x_a := x_a.from_ h_w1
    replace x_b := x_b.from_ h_w1
    have B_w1 := B0.trans (h_w1.mono B0.size)
    have s_w1 := h_w1.size
    rw [HM.out]
    have c_a_0_w1 := x_a.cell (i := 0) rfl
    have c_a_1_w1 := x_a.cell (i := 1) rfl
    have c_a_2_w1 := x_a.cell (i := 2) rfl
    have c_a_3_w1 := x_a.cell (i := 3) rfl
    have c_a_4_w1 := x_a.cell (i := 4) rfl
    have c_b_0_w1 := x_b.cell (i := 0) rfl
    have c_b_1_w1 := x_b.cell (i := 1) rfl
    have c_b_2_w1 := x_b.cell (i := 2) rfl
    have c_b_3_w1 := x_b.cell (i := 3) rfl
    have c_b_4_w1 := x_b.cell (i := 4) rfl
    go_wp2
    go_ret
    exact ⟨ret_eq (by rw [HO.out]; rfl), B_w1⟩
  have gl : ((a.Reps.length : Int) != (d.Reps.length : Int)) = false := by simp; omega
  have l1 := Nat.le_of_eq hl
  have l2 := Nat.le_of_eq hl.symm
  clear hl
  go_enter Try.func62, Try.ntmps62
  go_wp2_with fail
  refine (sSame_c (rM.from_ B0) (rM'.from_ B0)).mono ?_
  rintro e w1 ⟨rfl, h_w1⟩
  clear c_a_0_wa c_a_1_wa c_a_2_wa c_a_3_wa c_a_4_wa c_b_0_wa c_b_1_wa c_b_2_wa c_b_3_wa c_b_4_wa
  replace x_a := x_a.from_ h_w1
  replace x_b := x_b.from_ h_w1
  have B_w1 := B0.trans (h_w1.mono B0.size)
  have s_w1 := h_w1.size
  rw [HM.out]
  have c_a_0_w1 := x_a.cell (i := 0) rfl
  have c_a_1_w1 := x_a.cell (i := 1) rfl
  have c_a_2_w1 := x_a.cell (i := 2) rfl
  have c_a_3_w1 := x_a.cell (i := 3) rfl
  have c_a_4_w1 := x_a.cell (i := 4) rfl
  have c_b_0_w1 := x_b.cell (i := 0) rfl
  have c_b_1_w1 := x_b.cell (i := 1) rfl
  have c_b_2_w1 := x_b.cell (i := 2) rfl
  have c_b_3_w1 := x_b.cell (i := 3) rfl
  have c_b_4_w1 := x_b.cell (i := 4) rfl
  go_wp2
  go_loopw [46] (fun i wr => ∃ k : Nat, k ≤ a.Reps.length ∧ i = .int .i64 k ∧ Hid (a.Reps.take k = d.Reps.take k) ∧ Vr wr w.heap.size 52 [.int .i64 a.Have, .int .i64 a.State, .int .i64 a.By, .slice AM a.Marks.length cM, .slice AR a.Reps.length cR] ∧ Vr wr (w.heap.size + 1) 52 [.int .i64 d.Have, .int .i64 d.State, .int .i64 d.By, .slice AM' d.Marks.length cM', .slice AR' d.Reps.length cR'] ∧ Below w.heap.size w wr) (fun i _ => a.Reps.length - (intOf i).toNat)
  case atStart => exact ⟨0, Nat.zero_le _, rfl, rfl, x_a, x_b, B_w1⟩
  case round =>
    clear c_a_0_w1 c_a_1_w1 c_a_2_w1 c_a_3_w1 c_a_4_w1 c_b_0_w1 c_b_1_w1 c_b_2_w1 c_b_3_w1 c_b_4_w1
    clear x_a x_b hwa B_w1 s_w1 h_w1
    obtain ⟨k, hk, rfl, HT, x_a, x_b, HB⟩ := hrel
    have hs := HB.size
    by_cases hlt : k < a.Reps.length
    case neg =>
      have HO : Hid (acctSameB a d = true) := by show _ = _; rw [HE.out]; exact decide_eq_true (by have := HT.out; rwa [List.take_of_length_le (by omega), List.take_of_length_le (by omega)] at this)
      have hk2 : ¬ ((k : Int) < (a.Reps.length : Int)) := by omega
      go_wp2
      go_ret
      exact ⟨ret_eq (by rw [HO.out]; rfl), HB⟩
    obtain ⟨x, hxe⟩ := get_of_lt hlt
    obtain ⟨y, hye⟩ := get_of_lt (xs := d.Reps) (k := k) (by omega)
    obtain ⟨b, off, rfl, hb, e0, e1⟩ := el_rep (hr.below HB) hxe
    obtain ⟨b', off', rfl, hb', d0, d1⟩ := el_rep (hr'.below HB) hye
    have i1 : (k : Int) < (a.Reps.length : Int) := by omega
    have i2 : (k : Int) < (d.Reps.length : Int) := by omega
    obtain ⟨w21, e_w21, s_w21, h_w21, x_m⟩ := alloc_step wr 90 [.int .i64 x.Node, .int .i64 x.Amt]
    have s_w21_1 := Nat.le_of_eq s_w21
    have s_w21_2 := Nat.le_of_eq s_w21.symm
    clear s_w21
    replace x_a := x_a.from_ h_w21
    replace x_b := x_b.from_ h_w21
    have B_w21 := HB.trans (h_w21.mono HB.size)
    have c_a_0_w21 := x_a.cell (i := 0) rfl
    have c_a_1_w21 := x_a.cell (i := 1) rfl
    have c_a_2_w21 := x_a.cell (i := 2) rfl
    have c_a_3_w21 := x_a.cell (i := 3) rfl
    have c_a_4_w21 := x_a.cell (i := 4) rfl
    have c_b_0_w21 := x_b.cell (i := 0) rfl
    have c_b_1_w21 := x_b.cell (i := 1) rfl
    have c_b_2_w21 := x_b.cell (i := 2) rfl
    have c_b_3_w21 := x_b.cell (i := 3) rfl
    have c_b_4_w21 := x_b.cell (i := 4) rfl
    have c_m_0_w21 := x_m.cell (i := 0) rfl
    have c_m_1_w21 := x_m.cell (i := 1) rfl
    replace d0 := (h_w21.cell (p := ⟨b', off' + k * 2, none⟩) (by show b' < wr.heap.size; omega)).trans d0
    replace d1 := (h_w21.cell (p := ⟨b', off' + k * 2 + 1, none⟩) (by show b' < wr.heap.size; omega)).trans d1
    have gd := fun op x y W xs ys => guard_rep_run op x y W xs ys
    have gn := fun W => neq_rep_run W x y
    by_cases hxy : x = y
    case pos =>
      rw [show (!decide (x = y)) = false by simp [hxy]] at gn
      have H2 : Hid (a.Reps.take (k + 1) = d.Reps.take (k + 1)) := take_succ_eqL HT.out hxe (by rw [hye, hxy])
      clear hxy hxe hye
      go_wp2_with fail
      go_quiet (fail)
      have B9 : Below w.heap.size w (w21.drewN nq) := B_w21.trans (below_of_drew _ _ nq)
      have X1 := x_a.from_ (below_of_drew _ _ nq)
      have X2 := x_b.from_ (below_of_drew _ _ nq)
      go_wp2
      go_roundw
      case rel => exact ⟨k + 1, by omega, by go_num, H2, X1, X2, B9⟩
      case measure => simp [intOf]; omega
    rw [show (!decide (x = y)) = true by simp [hxy]] at gn
    have HO : Hid (acctSameB a d = false) := by show _ = _; rw [HE.out]; exact decide_eq_false (fun e => hxy (by have h1 := hxe; rw [e, hye] at h1; simpa using h1.symm))
    clear hxy hxe hye
    go_wp2_with fail
    go_quiet (fail)
    go_wp2
    go_ret
    exact ⟨ret_eq (by rw [HO.out]; rfl), B_w21.trans (below_of_drew _ _ _)⟩

set_option maxHeartbeats 4000000 in
theorem iAcctSame_c {w : World} {v v' : Value} {a d : MAcct} (h : RV acctL w v a) (h' : RV acctL w v' d) : Calls Try.prog 91 #[v, v'] w fun e w' => e = .returned (.bool (acctSameB a d)) ∧ Below w.heap.size w w' := by
  obtain ⟨AM, cM, AR, cR, rfl, rM, rR⟩ := rv_acct h
  obtain ⟨AM', cM', AR', cR', rfl, rM', rR'⟩ := rv_acct h'
  clear h h'
  obtain ⟨A', c', he, hc1, hc2, hr⟩ := rv_slice rR
  simp only [Value.slice.injEq, true_and] at he
  obtain ⟨rfl, rfl⟩ := he
  obtain ⟨A', c', he, hc1_, hc2_, hr'⟩ := rv_slice rR'
  simp only [Value.slice.injEq, true_and] at he
  obtain ⟨rfl, rfl⟩ := he
  unfold maxLen at hc2 hc2_
  obtain ⟨wa, hwa, B0, sa, x_a, x_b⟩ := frame2 w 52 [.int .i64 a.Have, .int .i64 a.State, .int .i64 a.By, .slice AM a.Marks.length cM, .slice AR a.Reps.length cR] 52 [.int .i64 d.Have, .int .i64 d.State, .int .i64 d.By, .slice AM' d.Marks.length cM', .slice AR' d.Reps.length cR']
  have sa_1 := Nat.le_of_eq sa
  have sa_2 := Nat.le_of_eq sa.symm
  clear sa
  have c_a_0_wa := x_a.cell (i := 0) rfl
  have c_a_1_wa := x_a.cell (i := 1) rfl
  have c_a_2_wa := x_a.cell (i := 2) rfl
  have c_a_3_wa := x_a.cell (i := 3) rfl
  have c_a_4_wa := x_a.cell (i := 4) rfl
  have c_b_0_wa := x_b.cell (i := 0) rfl
  have c_b_1_wa := x_b.cell (i := 1) rfl
  have c_b_2_wa := x_b.cell (i := 2) rfl
  have c_b_3_wa := x_b.cell (i := 3) rfl
  have c_b_4_wa := x_b.cell (i := 4) rfl
  by_cases hHave : a.Have = d.Have
  case neg =>
    have HO : Hid (acctSameB a d = false) := by show _ = _; unfold acctSameB; rw [decide_eq_false hHave]; simp
    have gHave : (a.Have == d.Have) = false := by simpa using hHave
    clear hHave
    go_enter Try.func91, Try.ntmps91
    go_wp2
    go_ret
    exact ⟨ret_eq (by rw [HO.out]; rfl), B0⟩
  have gHave : (a.Have == d.Have) = true := by simpa using hHave
  by_cases hState : a.State = d.State
  case neg =>
    have HO : Hid (acctSameB a d = false) := by show _ = _; unfold acctSameB; rw [decide_eq_false hState]; simp
    have gState : (a.State == d.State) = false := by simpa using hState
    clear hHave hState
    go_enter Try.func91, Try.ntmps91
    go_wp2
    go_ret
    exact ⟨ret_eq (by rw [HO.out]; rfl), B0⟩
  have gState : (a.State == d.State) = true := by simpa using hState
  by_cases hBy : a.By = d.By
  case neg =>
    have HO : Hid (acctSameB a d = false) := by show _ = _; unfold acctSameB; rw [decide_eq_false hBy]; simp
    have gBy : (a.By == d.By) = false := by simpa using hBy
    clear hHave hState hBy
    go_enter Try.func91, Try.ntmps91
    go_wp2
    go_ret
    exact ⟨ret_eq (by rw [HO.out]; rfl), B0⟩
  have gBy : (a.By == d.By) = true := by simpa using hBy
  by_cases hMk : decide (a.Marks = d.Marks) = true
  case neg =>
    replace hMk : decide (a.Marks = d.Marks) = false := by simpa using hMk
    have HM := Lib.hid hMk
    have HO : Hid (acctSameB a d = false) := by show _ = _; unfold acctSameB; rw [hMk]; simp
    clear hMk hHave hState hBy
    go_enter Try.func91, Try.ntmps91
    go_wp2_with fail
    refine (iEqualI_c (rM.from_ B0) (rM'.from_ B0)).mono ?_
    rintro e w1 ⟨rfl, h_w1⟩
    clear c_a_0_wa c_a_1_wa c_a_2_wa c_a_3_wa c_a_4_wa c_b_0_wa c_b_1_wa c_b_2_wa c_b_3_wa c_b_4_wa
    replace x_a := x_a.from_ h_w1
    replace x_b := x_b.from_ h_w1
    have B_w1 := B0.trans (h_w1.mono B0.size)
    have s_w1 := h_w1.size
    rw [HM.out]
    have c_a_0_w1 := x_a.cell (i := 0) rfl
    have c_a_1_w1 := x_a.cell (i := 1) rfl
    have c_a_2_w1 := x_a.cell (i := 2) rfl
    have c_a_3_w1 := x_a.cell (i := 3) rfl
    have c_a_4_w1 := x_a.cell (i := 4) rfl
    have c_b_0_w1 := x_b.cell (i := 0) rfl
    have c_b_1_w1 := x_b.cell (i := 1) rfl
    have c_b_2_w1 := x_b.cell (i := 2) rfl
    have c_b_3_w1 := x_b.cell (i := 3) rfl
    have c_b_4_w1 := x_b.cell (i := 4) rfl
    go_wp2
    go_ret
    exact ⟨ret_eq (by rw [HO.out]; rfl), B_w1⟩
  have HM := Lib.hid hMk
  have HO : Hid (acctSameB a d = decide (a.Reps = d.Reps)) := by show _ = _; unfold acctSameB; rw [hMk, decide_eq_true hHave, decide_eq_true hState, decide_eq_true hBy]; rfl
  clear hMk hHave hState hBy
  go_enter Try.func91, Try.ntmps91
  go_wp2_with fail
  refine (iEqualI_c (rM.from_ B0) (rM'.from_ B0)).mono ?_
  rintro e w1 ⟨rfl, h_w1⟩
  clear c_a_0_wa c_a_1_wa c_a_2_wa c_a_3_wa c_a_4_wa c_b_0_wa c_b_1_wa c_b_2_wa c_b_3_wa c_b_4_wa
  replace x_a := x_a.from_ h_w1
  replace x_b := x_b.from_ h_w1
  have B_w1 := B0.trans (h_w1.mono B0.size)
  have s_w1 := h_w1.size
  rw [HM.out]
  have c_a_0_w1 := x_a.cell (i := 0) rfl
  have c_a_1_w1 := x_a.cell (i := 1) rfl
  have c_a_2_w1 := x_a.cell (i := 2) rfl
  have c_a_3_w1 := x_a.cell (i := 3) rfl
  have c_a_4_w1 := x_a.cell (i := 4) rfl
  have c_b_0_w1 := x_b.cell (i := 0) rfl
  have c_b_1_w1 := x_b.cell (i := 1) rfl
  have c_b_2_w1 := x_b.cell (i := 2) rfl
  have c_b_3_w1 := x_b.cell (i := 3) rfl
  have c_b_4_w1 := x_b.cell (i := 4) rfl
  go_wp2_with fail
  refine (iEqualR_c (rR.from_ B_w1) (rR'.from_ B_w1)).mono ?_
  rintro e w2 ⟨rfl, h_w2⟩
  clear c_a_0_w1 c_a_1_w1 c_a_2_w1 c_a_3_w1 c_a_4_w1 c_b_0_w1 c_b_1_w1 c_b_2_w1 c_b_3_w1 c_b_4_w1
  replace x_a := x_a.from_ h_w2
  replace x_b := x_b.from_ h_w2
  have B_w2 := B_w1.trans (h_w2.mono B_w1.size)
  have s_w2 := h_w2.size
  go_wp2
  go_ret
  exact ⟨ret_eq (by rw [HO.out]; rfl), B_w2⟩

end Go.Proofs.Ytdoipabfmekdlaa
