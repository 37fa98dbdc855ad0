/- A node: the contracts of slices.EqualFunc at Acct and Out, slices.Equal at Acc, impl.NodeSame. Laid by a program of ours (src/noi3.py). -/
import Derived.Test.YtdoipabfmekdlaaNo3
import Derived.Test.YtdoipabfmekdlaaNoI1
import Derived.Shelf.Abstract
namespace Go.Proofs.Ytdoipabfmekdlaa
open Go.RowKit
set_option linter.unusedVariables false

def eqAcctsB (l m : List MAcct) : Bool := decide (l.length = m.length) && decide (∀ i, i < l.length → acctSameB (acctG l i) (acctG m i) = true)
def eqOutsB (l m : List MOut) : Bool := decide (l.length = m.length) && decide (∀ i, i < l.length → outSameB (outG l i) (outG m i) = true)
def numsB (d g : MNode) : Bool := decide (d.Id = g.Id) && (decide (d.N = g.N) && (decide (d.Stray = g.Stray) && (decide (d.Came = g.Came) && decide (d.Went = g.Went))))
def listsB (d g : MNode) : Bool := eqAcctsB d.Accts g.Accts && (eqOutsB d.Outs g.Outs && (decide (d.Ins = g.Ins) && decide (d.Accs = g.Accs)))
theorem nodeSame_split (d g : MNode) : nodeSameB d g = (numsB d g && listsB d g) := by
  have h : decide (d.Accs = g.Accs) = (decide (d.Accs.length = g.Accs.length) && decide (d.Accs = g.Accs)) := by
    by_cases e : d.Accs = g.Accs
    · rw [decide_eq_true e, decide_eq_true (congrArg List.length e)]; rfl
    · rw [decide_eq_false e]; simp
  unfold nodeSameB nsHead nsAccts nsOuts numsB listsB eqAcctsB eqOutsB
  generalize decide (d.Accs = g.Accs) = x at h ⊢
  generalize decide (d.Accs.length = g.Accs.length) = y at h ⊢
  rw [h]
  simp only [Bool.and_assoc]
  ac_rfl

set_option maxHeartbeats 4000000 in
theorem iEqFuncA_c {w : World} {v v' : Value} {l m : List MAcct} (h : RV acctSL w v l) (h2 : RV acctSL w v' m) : Calls Try.prog 90 #[v, v', .func (.func 91) #[] #[]] w fun e w' => e = .returned (.bool (eqAcctsB l m)) ∧ Below w.heap.size w w' := by
  obtain ⟨A1, c1, rfl, g1, g2, hr⟩ := rv_slice h
  obtain ⟨A2, c2, rfl, g3, g4, hr2⟩ := rv_slice h2
  clear h h2
  unfold maxLen at g2 g4
  have eg : ∀ args w, (callFunc 91 args).run Try.prog w = .ok (.enter 91 args) w := enters_of Try.func91 (by kernel_rfl) rfl
  have B0 : Below w.heap.size w w := Below.refl _ _
  by_cases hl : l.length = m.length
  case neg =>
    have HO : Hid (eqAcctsB l m = false) := by show _ = _; unfold eqAcctsB; rw [decide_eq_false hl]; rfl
    have gl : ((l.length : Int) != (m.length : Int)) = true := by rw [bne_iff_ne]; omega
    clear hl
    go_enter Try.func90, Try.ntmps90
    go_wp2
    go_ret
    exact ⟨ret_eq (by rw [HO.out]; rfl), B0⟩
  have gl : ((l.length : Int) != (m.length : Int)) = false := by rw [bne_eq_false_iff_eq]; omega
  have HE : Hid (eqAcctsB l m = decide (∀ i, i < l.length → acctSameB (acctG l i) (acctG m i) = true)) := by show _ = _; unfold eqAcctsB; rw [decide_eq_true hl]; rfl
  have l1 := Nat.le_of_eq hl
  have l2 := Nat.le_of_eq hl.symm
  clear hl
  go_enter Try.func90, Try.ntmps90
  go_wp2
  go_loopw [17] (fun i wr => ∃ k : Nat, k ≤ l.length ∧ i = .int .i64 k ∧ Hid (∀ i, i < k → acctSameB (acctG l i) (acctG m i) = true) ∧ Below w.heap.size w wr) (fun i _ => l.length - (intOf i).toNat)
  case atStart => exact ⟨0, Nat.zero_le _, rfl, fun i hi => by omega, B0⟩
  case round =>
    obtain ⟨k, hk, rfl, HT, HB⟩ := hrel
    have hs := HB.size
    by_cases hlt : k < l.length
    case neg =>
      have hk2 : ¬ ((k : Int) < (l.length : Int)) := by omega
      have HO : Hid (eqAcctsB l m = true) := by show _ = _; rw [HE.out]; exact decide_eq_true (fun i hi => HT.out i (by omega))
      clear HT
      go_wp2
      go_ret
      exact ⟨ret_eq (by rw [HO.out]; rfl), HB⟩
    obtain ⟨x, hxe⟩ := get_of_lt hlt
    obtain ⟨y, hye⟩ := get_of_lt (xs := m) (k := k) (by omega)
    have hx := acctG_of hxe
    have hy := acctG_of hye
    have i1 : (k : Int) < (l.length : Int) := by omega
    have i2 : (k : Int) < (m.length : Int) := by omega
    obtain ⟨b1, off1, AMx, cMx, ARx, cRx, hA1, hb1, e0, e1, e2, e3, e4, rMx, rRx⟩ := el_acct (hr.below HB) hxe hs
    subst hA1
    have vx : RV acctL wr _ x := rv_acct_mk rMx rRx
    obtain ⟨w1, e_w1, s_w1, h_w1, x_p⟩ := alloc_step wr 52 [.int .i64 x.Have, .int .i64 x.State, .int .i64 x.By, .slice AMx x.Marks.length cMx, .slice ARx x.Reps.length cRx]
    have s_w1_1 := Nat.le_of_eq s_w1
    have s_w1_2 := Nat.le_of_eq s_w1.symm
    clear s_w1
    have B_w1 := HB.trans (h_w1.mono HB.size)
    have c_p_0_w1 := x_p.cell (i := 0) rfl
    have c_p_1_w1 := x_p.cell (i := 1) rfl
    have c_p_2_w1 := x_p.cell (i := 2) rfl
    have c_p_3_w1 := x_p.cell (i := 3) rfl
    have c_p_4_w1 := x_p.cell (i := 4) rfl
    obtain ⟨b2, off2, AMy, cMy, ARy, cRy, hA2, hb2, f0, f1, f2, f3, f4, rMy, rRy⟩ := el_acct (hr2.below B_w1) hye B_w1.size
    subst hA2
    have vy : RV acctL w1 _ y := rv_acct_mk rMy rRy
    have vx2 := vx.from_ h_w1
    obtain ⟨w2, e_w2, s_w2, h_w2, x_q⟩ := alloc_step w1 52 [.int .i64 y.Have, .int .i64 y.State, .int .i64 y.By, .slice AMy y.Marks.length cMy, .slice ARy y.Reps.length cRy]
    have s_w2_1 := Nat.le_of_eq s_w2
    have s_w2_2 := Nat.le_of_eq s_w2.symm
    clear s_w2
    replace x_p := x_p.from_ h_w2
    have B_w2 := B_w1.trans (h_w2.mono B_w1.size)
    have c_p_0_w2 := x_p.cell (i := 0) rfl
    have c_p_1_w2 := x_p.cell (i := 1) rfl
    have c_p_2_w2 := x_p.cell (i := 2) rfl
    have c_p_3_w2 := x_p.cell (i := 3) rfl
    have c_p_4_w2 := x_p.cell (i := 4) rfl
    have c_q_0_w2 := x_q.cell (i := 0) rfl
    have c_q_1_w2 := x_q.cell (i := 1) rfl
    have c_q_2_w2 := x_q.cell (i := 2) rfl
    have c_q_3_w2 := x_q.cell (i := 3) rfl
    have c_q_4_w2 := x_q.cell (i := 4) rfl
    have vx3 := vx2.from_ h_w2
    have vy3 := vy.from_ h_w2
    clear hxe hye
    by_cases hs1 : acctSameB x y = true
    case neg =>
      replace hs1 : acctSameB x y = false := by simpa using hs1
      have HQ := Lib.hid hs1
      have HO : Hid (eqAcctsB l m = false) := by show _ = _; rw [HE.out]; exact decide_eq_false (fun c => by have := c k hlt; rw [hx, hy, hs1] at this; simp at this)
      clear hs1 hx hy
      go_wp2_with fail
      refine (iAcctSame_c vx3 vy3).mono ?_
      rintro e w3 ⟨rfl, h_w3⟩
      clear c_p_0_w1 c_p_1_w1 c_p_2_w1 c_p_3_w1 c_p_4_w1 c_p_0_w2 c_p_1_w2 c_p_2_w2 c_p_3_w2 c_p_4_w2 c_q_0_w2 c_q_1_w2 c_q_2_w2 c_q_3_w2 c_q_4_w2
      replace x_p := x_p.from_ h_w3
      replace x_q := x_q.from_ h_w3
      have B_w3 := B_w2.trans (h_w3.mono B_w2.size)
      have s_w3 := h_w3.size
      rw [HQ.out]
      go_wp2
      go_ret
      exact ⟨ret_eq (by rw [HO.out]; rfl), B_w3⟩
    case pos =>
      have HQ := Lib.hid hs1
      have H2 : Hid (∀ i, i < k + 1 → acctSameB (acctG l i) (acctG m i) = true) := fun i hi => by
        by_cases e : i = k
        · rw [e, hx, hy]; exact hs1
        · exact HT.out i (by omega)
      clear hs1 hx hy
      go_wp2_with fail
      refine (iAcctSame_c vx3 vy3).mono ?_
      rintro e w3 ⟨rfl, h_w3⟩
      clear c_p_0_w1 c_p_1_w1 c_p_2_w1 c_p_3_w1 c_p_4_w1 c_p_0_w2 c_p_1_w2 c_p_2_w2 c_p_3_w2 c_p_4_w2 c_q_0_w2 c_q_1_w2 c_q_2_w2 c_q_3_w2 c_q_4_w2
      replace x_p := x_p.from_ h_w3
      replace x_q := x_q.from_ h_w3
      have B_w3 := B_w2.trans (h_w3.mono B_w2.size)
      have s_w3 := h_w3.size
      rw [HQ.out]
      go_wp2
      go_roundw
      case rel => exact ⟨k + 1, by omega, by go_num, H2, B_w3⟩
      case measure => simp [intOf]; omega

set_option maxHeartbeats 4000000 in
theorem iEqFuncO_c {w : World} {v v' : Value} {l m : List MOut} (h : RV outSL w v l) (h2 : RV outSL w v' m) (hm : sumG MOut.bulk l ≤ 16777216) (hm2 : sumG MOut.bulk m ≤ 16777216) : Calls Try.prog 92 #[v, v', .func (.func 80) #[] #[]] w fun e w' => e = .returned (.bool (eqOutsB l m)) ∧ Below w.heap.size w w' := by
  obtain ⟨A1, c1, rfl, g1, g2, hr⟩ := rv_slice h
  obtain ⟨A2, c2, rfl, g3, g4, hr2⟩ := rv_slice h2
  clear h h2
  unfold maxLen at g2 g4
  have eg : ∀ args w, (callFunc 80 args).run Try.prog w = .ok (.enter 80 args) w := enters_of Try.func80 (by kernel_rfl) rfl
  have B0 : Below w.heap.size w w := Below.refl _ _
  by_cases hl : l.length = m.length
  case neg =>
    have HO : Hid (eqOutsB l m = false) := by show _ = _; unfold eqOutsB; rw [decide_eq_false hl]; rfl
    have gl : ((l.length : Int) != (m.length : Int)) = true := by rw [bne_iff_ne]; omega
    clear hl
    go_enter Try.func92, Try.ntmps92
    go_wp2
    go_ret
    exact ⟨ret_eq (by rw [HO.out]; rfl), B0⟩
  have gl : ((l.length : Int) != (m.length : Int)) = false := by rw [bne_eq_false_iff_eq]; omega
  have HE : Hid (eqOutsB l m = decide (∀ i, i < l.length → outSameB (outG l i) (outG m i) = true)) := by show _ = _; unfold eqOutsB; rw [decide_eq_true hl]; rfl
  have l1 := Nat.le_of_eq hl
  have l2 := Nat.le_of_eq hl.symm
  clear hl
  go_enter Try.func92, Try.ntmps92
  go_wp2
  go_loopw [17] (fun i wr => ∃ k : Nat, k ≤ l.length ∧ i = .int .i64 k ∧ Hid (∀ i, i < k → outSameB (outG l i) (outG m i) = true) ∧ Below w.heap.size w wr) (fun i _ => l.length - (intOf i).toNat)
  case atStart => exact ⟨0, Nat.zero_le _, rfl, fun i hi => by omega, B0⟩
  case round =>
    obtain ⟨k, hk, rfl, HT, HB⟩ := hrel
    have hs := HB.size
    by_cases hlt : k < l.length
    case neg =>
      have hk2 : ¬ ((k : Int) < (l.length : Int)) := by omega
      have HO : Hid (eqOutsB l m = true) := by show _ = _; rw [HE.out]; exact decide_eq_true (fun i hi => HT.out i (by omega))
      clear HT
      go_wp2
      go_ret
      exact ⟨ret_eq (by rw [HO.out]; rfl), HB⟩
    obtain ⟨x, hxe⟩ := get_of_lt hlt
    obtain ⟨y, hye⟩ := get_of_lt (xs := m) (k := k) (by omega)
    have hx := outG_of hxe
    have hy := outG_of hye
    have i1 : (k : Int) < (l.length : Int) := by omega
    have i2 : (k : Int) < (m.length : Int) := by omega
    have hxb := sumG_at (s := MOut.bulk) hxe
    have hyb := sumG_at (s := MOut.bulk) hye
    have hxu : x.bulk = x.List.length := rfl
    have hyu : y.bulk = y.List.length := rfl
    obtain ⟨b1, off1, ALx, cLx, hA1, hb1, e0, e1, rLx⟩ := el_out (hr.below HB) hxe hs
    subst hA1
    have vx : RV outL wr _ x := rv_out_mk rLx
    obtain ⟨w1, e_w1, s_w1, h_w1, x_p⟩ := alloc_step wr 59 [.int .i64 x.Next, .slice ALx x.List.length cLx]
    have s_w1_1 := Nat.le_of_eq s_w1
    have s_w1_2 := Nat.le_of_eq s_w1.symm
    clear s_w1
    have B_w1 := HB.trans (h_w1.mono HB.size)
    have c_p_0_w1 := x_p.cell (i := 0) rfl
    have c_p_1_w1 := x_p.cell (i := 1) rfl
    obtain ⟨b2, off2, ALy, cLy, hA2, hb2, f0, f1, rLy⟩ := el_out (hr2.below B_w1) hye B_w1.size
    subst hA2
    have vy : RV outL w1 _ y := rv_out_mk rLy
    have vx2 := vx.from_ h_w1
    obtain ⟨w2, e_w2, s_w2, h_w2, x_q⟩ := alloc_step w1 59 [.int .i64 y.Next, .slice ALy y.List.length cLy]
    have s_w2_1 := Nat.le_of_eq s_w2
    have s_w2_2 := Nat.le_of_eq s_w2.symm
    clear s_w2
    replace x_p := x_p.from_ h_w2
    have B_w2 := B_w1.trans (h_w2.mono B_w1.size)
    have c_p_0_w2 := x_p.cell (i := 0) rfl
    have c_p_1_w2 := x_p.cell (i := 1) rfl
    have c_q_0_w2 := x_q.cell (i := 0) rfl
    have c_q_1_w2 := x_q.cell (i := 1) rfl
    have vx3 := vx2.from_ h_w2
    have vy3 := vy.from_ h_w2
    clear hxe hye
    by_cases hs1 : outSameB x y = true
    case neg =>
      replace hs1 : outSameB x y = false := by simpa using hs1
      have HQ := Lib.hid hs1
      have HO : Hid (eqOutsB l m = false) := by show _ = _; rw [HE.out]; exact decide_eq_false (fun c => by have := c k hlt; rw [hx, hy, hs1] at this; simp at this)
      clear hs1 hx hy
      go_wp2_with fail
      refine (iOutSame_c vx3 vy3 (by omega) (by omega)).mono ?_
      rintro e w3 ⟨rfl, h_w3⟩
      clear c_p_0_w1 c_p_1_w1 c_p_0_w2 c_p_1_w2 c_q_0_w2 c_q_1_w2
      replace x_p := x_p.from_ h_w3
      replace x_q := x_q.from_ h_w3
      have B_w3 := B_w2.trans (h_w3.mono B_w2.size)
      have s_w3 := h_w3.size
      rw [HQ.out]
      go_wp2
      go_ret
      exact ⟨ret_eq (by rw [HO.out]; rfl), B_w3⟩
    case pos =>
      have HQ := Lib.hid hs1
      have H2 : Hid (∀ i, i < k + 1 → outSameB (outG l i) (outG m i) = true) := fun i hi => by
        by_cases e : i = k
        · rw [e, hx, hy]; exact hs1
        · exact HT.out i (by omega)
      clear hs1 hx hy
      go_wp2_with fail
      refine (iOutSame_c vx3 vy3 (by omega) (by omega)).mono ?_
      rintro e w3 ⟨rfl, h_w3⟩
      clear c_p_0_w1 c_p_1_w1 c_p_0_w2 c_p_1_w2 c_q_0_w2 c_q_1_w2
      replace x_p := x_p.from_ h_w3
      replace x_q := x_q.from_ h_w3
      have B_w3 := B_w2.trans (h_w3.mono B_w2.size)
      have s_w3 := h_w3.size
      rw [HQ.out]
      go_wp2
      go_roundw
      case rel => exact ⟨k + 1, by omega, by go_num, H2, B_w3⟩
      case measure => simp [intOf]; omega

set_option maxHeartbeats 2000000 in
theorem iEqualC_c {w : World} {v v' : Value} {l l2 : List MAcc} (h : RV accSL w v l) (h2 : RV accSL w v' l2) : Calls Try.prog 94 #[v, v'] w fun e w' => e = .returned (.bool (decide (l = l2))) ∧ Below w.heap.size w w' := by
  obtain ⟨A, c, rfl, hc1_h, hc2_h, rh⟩ := rv_slice h
  obtain ⟨A2, c2, rfl, hc1_h2, hc2_h2, rh2⟩ := rv_slice h2
  clear h h2
  unfold maxLen at hc2_h hc2_h2
  by_cases hl : l.length = l2.length
  case neg =>
    have HO : Hid (decide (l = l2) = false) := decide_eq_false (fun h => hl (by rw [h]))
    have g2 : ((l.length : Int) != (l2.length : Int)) = true := by simp; omega
    clear hl
    go_enter Try.func94, Try.ntmps94
    go_wp2
    go_ret
    exact ⟨ret_eq (by rw [HO.out]; rfl), Below.refl _ _⟩
  have g2 : ((l.length : Int) != (l2.length : Int)) = false := by simp; omega
  have l1 := Nat.le_of_eq hl
  have l2_ := Nat.le_of_eq hl.symm
  clear hl
  go_enter Try.func94, Try.ntmps94
  go_wp2
  go_loopw [13] (fun i wr => ∃ k : Nat, k ≤ l.length ∧ i = .int .i64 k ∧ Hid (l.take k = l2.take k) ∧ Below w.heap.size w wr) (fun i _ => l.length - (intOf i).toNat)
  case atStart => exact ⟨0, Nat.zero_le _, rfl, rfl, Below.refl _ _⟩
  case round =>
    obtain ⟨k, hk, rfl, HT, HB⟩ := hrel
    have hs := HB.size
    by_cases hlt : k < l.length
    case neg =>
      have HO : Hid (decide (l = l2) = true) := decide_eq_true (by have := HT.out; rwa [List.take_of_length_le (by omega), List.take_of_length_le (by omega)] at this)
      have hk2 : k = l.length := by omega
      subst hk2
      go_wp2
      go_ret
      exact ⟨ret_eq (by rw [HO.out]; rfl), HB⟩
    obtain ⟨x, hxe⟩ := get_of_lt hlt
    obtain ⟨y, hye⟩ := get_of_lt (xs := l2) (k := k) (by omega)
    obtain ⟨b, off, rfl, hb, e0, e1, e2⟩ := el_acc (rh.below HB) hxe
    obtain ⟨b', off', rfl, hb', d0, d1, d2⟩ := el_acc (rh2.below HB) hye
    have i1 : (k : Int) < (l.length : Int) := by omega
    have i2 : (k : Int) < (l2.length : Int) := by omega
    have gd := fun op x y W xs ys => guard_acc_run op x y W xs ys
    have gn := fun W => neq_acc_run W x y
    by_cases hxy : x = y
    case pos =>
      rw [show (!decide (x = y)) = false by simp [hxy]] at gn
      have H2 : Hid (l.take (k + 1) = l2.take (k + 1)) := take_succ_eqL HT.out hxe (by rw [hye, hxy])
      clear hxy hxe hye
      go_wp2_with fail
      go_quiet (fail)
      have B9 := HB.trans (below_of_drew _ _ nq)
      go_wp2
      go_roundw
      case rel => exact ⟨k + 1, by omega, by go_num, H2, B9⟩
      case measure => simp [intOf]; omega
    case neg =>
      rw [show (!decide (x = y)) = true by simp [hxy]] at gn
      have HO : Hid (decide (l = l2) = false) := decide_eq_false (fun h => hxy (by have h1 := hxe; rw [h, hye] at h1; simpa using h1.symm))
      clear hxy hxe hye
      go_wp2_with fail
      go_quiet (fail)
      have B9 := HB.trans (below_of_drew _ _ nq)
      go_wp2
      go_ret
      exact ⟨ret_eq (by rw [HO.out]; rfl), B9⟩

set_option maxRecDepth 100000 in
set_option maxHeartbeats 8000000 in
theorem iSameNums_c {w : World} {b b2 : Nat} {d g : MNode} {vA vO vI vC vAx vOx vIx vCx : Value} (x_a : Vr w b 34 [.int .i64 d.Id, .int .i64 d.N, vA, vO, vI, vC, .int .i64 d.Stray, .int .i64 d.Came, .int .i64 d.Went]) (x_b : Vr w b2 34 [.int .i64 g.Id, .int .i64 g.N, vAx, vOx, vIx, vCx, .int .i64 g.Stray, .int .i64 g.Came, .int .i64 g.Went]) : Calls Try.prog 63 #[.pointer (some ⟨b, 0, none⟩), .pointer (some ⟨b2, 0, none⟩)] w fun e w' => e = .returned (.bool (numsB d g)) ∧ Below w.heap.size w w' := by
  have B0 : Below w.heap.size w w := Below.refl _ _
  have c_a_0_w := x_a.cell (i := 0) rfl
  have c_a_1_w := x_a.cell (i := 1) rfl
  have c_a_2_w := x_a.cell (i := 2) rfl
  have c_a_3_w := x_a.cell (i := 3) rfl
  have c_a_4_w := x_a.cell (i := 4) rfl
  have c_a_5_w := x_a.cell (i := 5) rfl
  have c_a_6_w := x_a.cell (i := 6) rfl
  have c_a_7_w := x_a.cell (i := 7) rfl
  have c_a_8_w := x_a.cell (i := 8) rfl
  have c_b_0_w := x_b.cell (i := 0) rfl
  have c_b_1_w := x_b.cell (i := 1) rfl
  have c_b_2_w := x_b.cell (i := 2) rfl
  have c_b_3_w := x_b.cell (i := 3) rfl
  have c_b_4_w := x_b.cell (i := 4) rfl
  have c_b_5_w := x_b.cell (i := 5) rfl
  have c_b_6_w := x_b.cell (i := 6) rfl
  have c_b_7_w := x_b.cell (i := 7) rfl
  have c_b_8_w := x_b.cell (i := 8) rfl
  have la := x_a.lt
  have lb := x_b.lt
  by_cases hId : d.Id = g.Id
  case neg =>
    have HO : Hid (numsB d g = false) := by show _ = _; unfold numsB; rw [decide_eq_false hId]; simp
    have gId : (d.Id == g.Id) = false := by simpa using hId
    clear hId
    go_enter Try.func63, Try.ntmps63
    go_wp2_with fail
    go_quiet (fail)
    have B9 := B0.trans (below_of_drew _ _ nq)
    go_wp2
    go_ret
    exact ⟨ret_eq (by rw [HO.out]; rfl), B9⟩
  have gId : (d.Id == g.Id) = true := by simpa using hId
  have EId := Lib.hid hId
  clear hId
  by_cases hN : d.N = g.N
  case neg =>
    have HO : Hid (numsB d g = false) := by show _ = _; unfold numsB; rw [decide_eq_false hN]; simp
    have gN : (d.N == g.N) = false := by simpa using hN
    clear hN
    go_enter Try.func63, Try.ntmps63
    go_wp2_with fail
    go_quiet (fail)
    have B9 := B0.trans (below_of_drew _ _ nq)
    go_wp2
    go_ret
    exact ⟨ret_eq (by rw [HO.out]; rfl), B9⟩
  have gN : (d.N == g.N) = true := by simpa using hN
  have EN := Lib.hid hN
  clear hN
  by_cases hStray : d.Stray = g.Stray
  case neg =>
    have HO : Hid (numsB d g = false) := by show _ = _; unfold numsB; rw [decide_eq_false hStray]; simp
    have gStray : (d.Stray == g.Stray) = false := by simpa using hStray
    clear hStray
    go_enter Try.func63, Try.ntmps63
    go_wp2_with fail
    go_quiet (fail)
    have B9 := B0.trans (below_of_drew _ _ nq)
    go_wp2
    go_ret
    exact ⟨ret_eq (by rw [HO.out]; rfl), B9⟩
  have gStray : (d.Stray == g.Stray) = true := by simpa using hStray
  have EStray := Lib.hid hStray
  clear hStray
  by_cases hCame : d.Came = g.Came
  case neg =>
    have HO : Hid (numsB d g = false) := by show _ = _; unfold numsB; rw [decide_eq_false hCame]; simp
    have gCame : (d.Came == g.Came) = false := by simpa using hCame
    clear hCame
    go_enter Try.func63, Try.ntmps63
    go_wp2_with fail
    go_quiet (fail)
    have B9 := B0.trans (below_of_drew _ _ nq)
    go_wp2
    go_ret
    exact ⟨ret_eq (by rw [HO.out]; rfl), B9⟩
  have gCame : (d.Came == g.Came) = true := by simpa using hCame
  have ECame := Lib.hid hCame
  clear hCame
  by_cases hWent : d.Went = g.Went
  case neg =>
    have HO : Hid (numsB d g = false) := by show _ = _; unfold numsB; rw [decide_eq_false hWent]; simp
    have gWent : (d.Went == g.Went) = false := by simpa using hWent
    clear hWent
    go_enter Try.func63, Try.ntmps63
    go_wp2_with fail
    go_quiet (fail)
    have B9 := B0.trans (below_of_drew _ _ nq)
    go_wp2
    go_ret
    exact ⟨ret_eq (by rw [HO.out]; rfl), B9⟩
  have gWent : (d.Went == g.Went) = true := by simpa using hWent
  have EWent := Lib.hid hWent
  clear hWent
  have HO : Hid (numsB d g = true) := by show _ = _; unfold numsB; rw [decide_eq_true EId.out, decide_eq_true EN.out, decide_eq_true EStray.out, decide_eq_true ECame.out, decide_eq_true EWent.out]; rfl
  go_enter Try.func63, Try.ntmps63
  go_wp2_with fail
  go_quiet (fail)
  have B9 := B0.trans (below_of_drew _ _ nq)
  go_wp2
  go_ret
  exact ⟨ret_eq (by rw [HO.out]; rfl), B9⟩

set_option maxRecDepth 100000 in
set_option maxHeartbeats 8000000 in
theorem iSameLists_c {w : World} {b b2 : Nat} {d g : MNode} {AAccts AOuts AIns AAccs AAcctsx AOutsx AInsx AAccsx : Option Addr} {cAccts cOuts cIns cAccs cAcctsx cOutsx cInsx cAccsx : Nat} (x_a : Vr w b 34 [.int .i64 d.Id, .int .i64 d.N, .slice AAccts d.Accts.length cAccts, .slice AOuts d.Outs.length cOuts, .slice AIns d.Ins.length cIns, .slice AAccs d.Accs.length cAccs, .int .i64 d.Stray, .int .i64 d.Came, .int .i64 d.Went]) (x_b : Vr w b2 34 [.int .i64 g.Id, .int .i64 g.N, .slice AAcctsx g.Accts.length cAcctsx, .slice AOutsx g.Outs.length cOutsx, .slice AInsx g.Ins.length cInsx, .slice AAccsx g.Accs.length cAccsx, .int .i64 g.Stray, .int .i64 g.Came, .int .i64 g.Went]) (rAccts : RV acctSL w (.slice AAccts d.Accts.length cAccts) d.Accts) (rOuts : RV outSL w (.slice AOuts d.Outs.length cOuts) d.Outs) (rIns : RS .i64 w (.slice AIns d.Ins.length cIns) d.Ins) (rAccs : RV accSL w (.slice AAccs d.Accs.length cAccs) d.Accs) (rAcctsx : RV acctSL w (.slice AAcctsx g.Accts.length cAcctsx) g.Accts) (rOutsx : RV outSL w (.slice AOutsx g.Outs.length cOutsx) g.Outs) (rInsx : RS .i64 w (.slice AInsx g.Ins.length cInsx) g.Ins) (rAccsx : RV accSL w (.slice AAccsx g.Accs.length cAccsx) g.Accs) (hm : sumG MOut.bulk d.Outs ≤ 16777216) (hm2 : sumG MOut.bulk g.Outs ≤ 16777216) : Calls Try.prog 64 #[.pointer (some ⟨b, 0, none⟩), .pointer (some ⟨b2, 0, none⟩)] w fun e w' => e = .returned (.bool (listsB d g)) ∧ Below w.heap.size w w' := by
  have B0 : Below w.heap.size w w := Below.refl _ _
  have c_a_0_w := x_a.cell (i := 0) rfl
  have c_a_1_w := x_a.cell (i := 1) rfl
  have c_a_2_w := x_a.cell (i := 2) rfl
  have c_a_3_w := x_a.cell (i := 3) rfl
  have c_a_4_w := x_a.cell (i := 4) rfl
  have c_a_5_w := x_a.cell (i := 5) rfl
  have c_a_6_w := x_a.cell (i := 6) rfl
  have c_a_7_w := x_a.cell (i := 7) rfl
  have c_a_8_w := x_a.cell (i := 8) rfl
  have c_b_0_w := x_b.cell (i := 0) rfl
  have c_b_1_w := x_b.cell (i := 1) rfl
  have c_b_2_w := x_b.cell (i := 2) rfl
  have c_b_3_w := x_b.cell (i := 3) rfl
  have c_b_4_w := x_b.cell (i := 4) rfl
  have c_b_5_w := x_b.cell (i := 5) rfl
  have c_b_6_w := x_b.cell (i := 6) rfl
  have c_b_7_w := x_b.cell (i := 7) rfl
  have c_b_8_w := x_b.cell (i := 8) rfl
  have la := x_a.lt
  have lb := x_b.lt
  obtain ⟨zA, hA⟩ : ∃ z, eqAcctsB d.Accts g.Accts = z := ⟨_, rfl⟩
  obtain ⟨zU, hU⟩ : ∃ z, eqOutsB d.Outs g.Outs = z := ⟨_, rfl⟩
  obtain ⟨zI, hI⟩ : ∃ z, decide (d.Ins = g.Ins) = z := ⟨_, rfl⟩
  obtain ⟨zC, hC⟩ : ∃ z, decide (d.Accs = g.Accs) = z := ⟨_, rfl⟩
  have HE : Hid (listsB d g = (zA && (zU && (zI && zC)))) := by show _ = _; unfold listsB; rw [hA, hU, hI, hC]
  have HA := Lib.hid hA
  have HU := Lib.hid hU
  have HI := Lib.hid hI
  have HC := Lib.hid hC
  clear hA hU hI hC
  cases zA
  case false =>
    have HO : Hid (listsB d g = false) := by show _ = _; rw [HE.out]; rfl
    go_enter Try.func64, Try.ntmps64
    go_wp2_with fail
    refine wp_region_held (S := fun w' => w'.cell? ⟨b, 2, none⟩ = some (.slice AAccts d.Accts.length cAccts) ∧ w'.cell? ⟨b, 3, none⟩ = some (.slice AOuts d.Outs.length cOuts) ∧ w'.cell? ⟨b, 4, none⟩ = some (.slice AIns d.Ins.length cIns) ∧ w'.cell? ⟨b, 5, none⟩ = some (.slice AAccs d.Accs.length cAccs) ∧ w'.cell? ⟨b2, 2, none⟩ = some (.slice AAcctsx g.Accts.length cAcctsx) ∧ w'.cell? ⟨b2, 3, none⟩ = some (.slice AOutsx g.Outs.length cOutsx) ∧ w'.cell? ⟨b2, 4, none⟩ = some (.slice AInsx g.Ins.length cInsx) ∧ w'.cell? ⟨b2, 5, none⟩ = some (.slice AAccsx g.Accs.length cAccsx)) (by kernel_rfl) ?_
    refine takeN (i := 0) (v := ?v0_1) (d := (some 5)) rfl rfl (by kernel_rfl) (by kernel_rfl) (by kernel_rfl) (fun _ _ _ h => h) (Or.inl ⟨by rfl, ?y0_1⟩) ⟨c_a_2_w, c_a_3_w, c_a_4_w, c_a_5_w, c_b_2_w, c_b_3_w, c_b_4_w, c_b_5_w⟩ ?r0_1
    case y0_1 => (intro W hW; (try dsimp only at hW); go_simp; try (with_reducible rfl))
    simp only [Act.put, List.setIfInBounds_toArray, List.set_cons_zero, List.set_cons_succ]
    refine takeN (i := 1) (v := ?v1_2) (d := (some 6)) rfl rfl (by kernel_rfl) (by kernel_rfl) (by kernel_rfl) (fun _ _ _ h => h) (Or.inl ⟨by rfl, ?y1_2⟩) ⟨c_a_2_w, c_a_3_w, c_a_4_w, c_a_5_w, c_b_2_w, c_b_3_w, c_b_4_w, c_b_5_w⟩ ?r1_2
    case y1_2 => (intro W hW; (try dsimp only at hW); go_simp; try (with_reducible rfl))
    simp only [Act.put, List.setIfInBounds_toArray, List.set_cons_zero, List.set_cons_succ]
    refine takeN (i := 2) (v := ?v2_3) (d := (some 7)) rfl rfl (by kernel_rfl) (by kernel_rfl) (by kernel_rfl) (fun _ _ _ h => h) (Or.inl ⟨by rfl, ?y2_3⟩) ⟨c_a_2_w, c_a_3_w, c_a_4_w, c_a_5_w, c_b_2_w, c_b_3_w, c_b_4_w, c_b_5_w⟩ ?r2_3
    case y2_3 => (intro W hW; (try dsimp only at hW); go_simp; try (with_reducible rfl))
    simp only [Act.put, List.setIfInBounds_toArray, List.set_cons_zero, List.set_cons_succ]
    refine takeN (i := 3) (v := ?v3_4) (d := (some 8)) rfl rfl (by kernel_rfl) (by kernel_rfl) (by kernel_rfl) (fun _ _ _ h => h) (Or.inl ⟨by rfl, ?y3_4⟩) ⟨c_a_2_w, c_a_3_w, c_a_4_w, c_a_5_w, c_b_2_w, c_b_3_w, c_b_4_w, c_b_5_w⟩ ?r3_4
    case y3_4 => (intro W hW; (try dsimp only at hW); go_simp; try (with_reducible rfl))
    simp only [Act.put, List.setIfInBounds_toArray, List.set_cons_zero, List.set_cons_succ]
    refine takeN (i := 4) (v := ?v4_5) (d := (some 9)) rfl rfl (by kernel_rfl) (by kernel_rfl) (by kernel_rfl) (fun _ _ _ h => h) (Or.inl ⟨by rfl, ?y4_5⟩) ⟨c_a_2_w, c_a_3_w, c_a_4_w, c_a_5_w, c_b_2_w, c_b_3_w, c_b_4_w, c_b_5_w⟩ ?r4_5
    case y4_5 => (intro W hW; (try dsimp only at hW); go_simp; try (with_reducible rfl))
    simp only [Act.put, List.setIfInBounds_toArray, List.set_cons_zero, List.set_cons_succ]
    refine takeN (i := 5) (v := ?v5_6) (d := (some 10)) rfl rfl (by kernel_rfl) (by kernel_rfl) (by kernel_rfl) (fun _ _ _ h => h) (Or.inl ⟨by rfl, ?y5_6⟩) ⟨c_a_2_w, c_a_3_w, c_a_4_w, c_a_5_w, c_b_2_w, c_b_3_w, c_b_4_w, c_b_5_w⟩ ?r5_6
    case y5_6 => (intro W hW; (try dsimp only at hW); go_simp; try (with_reducible rfl))
    simp only [Act.put, List.setIfInBounds_toArray, List.set_cons_zero, List.set_cons_succ]
    refine takeN (i := 6) (v := ?v6_7) (d := (some 11)) rfl rfl (by kernel_rfl) (by kernel_rfl) (by kernel_rfl) (fun _ _ _ h => h) (Or.inl ⟨by rfl, ?y6_7⟩) ⟨c_a_2_w, c_a_3_w, c_a_4_w, c_a_5_w, c_b_2_w, c_b_3_w, c_b_4_w, c_b_5_w⟩ ?r6_7
    case y6_7 => (intro W hW; (try dsimp only at hW); go_simp; try (with_reducible rfl))
    simp only [Act.put, List.setIfInBounds_toArray, List.set_cons_zero, List.set_cons_succ]
    refine takeN (i := 7) (v := ?v7_8) (d := (some 12)) rfl rfl (by kernel_rfl) (by kernel_rfl) (by kernel_rfl) (fun _ _ _ h => h) (Or.inl ⟨by rfl, ?y7_8⟩) ⟨c_a_2_w, c_a_3_w, c_a_4_w, c_a_5_w, c_b_2_w, c_b_3_w, c_b_4_w, c_b_5_w⟩ ?r7_8
    case y7_8 => (intro W hW; (try dsimp only at hW); go_simp; try (with_reducible rfl))
    simp only [Act.put, List.setIfInBounds_toArray, List.set_cons_zero, List.set_cons_succ]
    refine wpAnyH_ready (rs := [8]) (by kernel_rfl) (by simp) ?_
    refine AllReadyH.cons rfl (fun K hK => ?_) AllReadyH.nil
    go_simp
    refine (iEqFuncA_c (rAccts.from_ ((Below.refl w.heap.size w).drew)) (rAcctsx.from_ ((Below.refl w.heap.size w).drew))).mono ?_
    rintro e w_A ⟨rfl, hd_A⟩
    have hb_A : Below w.heap.size w w_A := (Below.refl w.heap.size w).drew.trans hd_A
    rw [HA.out]
    refine hK.out _ _ ⟨(hb_A.cell (p := ⟨b, 2, none⟩) la).trans c_a_2_w, (hb_A.cell (p := ⟨b, 3, none⟩) la).trans c_a_3_w, (hb_A.cell (p := ⟨b, 4, none⟩) la).trans c_a_4_w, (hb_A.cell (p := ⟨b, 5, none⟩) la).trans c_a_5_w, (hb_A.cell (p := ⟨b2, 2, none⟩) lb).trans c_b_2_w, (hb_A.cell (p := ⟨b2, 3, none⟩) lb).trans c_b_3_w, (hb_A.cell (p := ⟨b2, 4, none⟩) lb).trans c_b_4_w, (hb_A.cell (p := ⟨b2, 5, none⟩) lb).trans c_b_5_w⟩ (fun _ => ?_)
    clear hK K
    refine takeN (i := 9) (v := ?v9_9) (d := (some 14)) rfl rfl (by kernel_rfl) (by kernel_rfl) (by kernel_rfl) (fun _ _ _ h => h) (Or.inl ⟨by rfl, ?y9_9⟩) ⟨(hb_A.cell (p := ⟨b, 2, none⟩) la).trans c_a_2_w, (hb_A.cell (p := ⟨b, 3, none⟩) la).trans c_a_3_w, (hb_A.cell (p := ⟨b, 4, none⟩) la).trans c_a_4_w, (hb_A.cell (p := ⟨b, 5, none⟩) la).trans c_a_5_w, (hb_A.cell (p := ⟨b2, 2, none⟩) lb).trans c_b_2_w, (hb_A.cell (p := ⟨b2, 3, none⟩) lb).trans c_b_3_w, (hb_A.cell (p := ⟨b2, 4, none⟩) lb).trans c_b_4_w, (hb_A.cell (p := ⟨b2, 5, none⟩) lb).trans c_b_5_w⟩ ?r9_9
    case y9_9 => (intro W hW; (try dsimp only at hW); go_simp; try (with_reducible rfl))
    simp only [Act.put, List.setIfInBounds_toArray, List.set_cons_zero, List.set_cons_succ]
    refine takeN (i := 10) (v := undef) (d := (some 15)) rfl rfl (by kernel_rfl) (by kernel_rfl) (by kernel_rfl) (fun _ _ _ h => h) (Or.inr ⟨by rfl, rfl⟩) ⟨(hb_A.cell (p := ⟨b, 2, none⟩) la).trans c_a_2_w, (hb_A.cell (p := ⟨b, 3, none⟩) la).trans c_a_3_w, (hb_A.cell (p := ⟨b, 4, none⟩) la).trans c_a_4_w, (hb_A.cell (p := ⟨b, 5, none⟩) la).trans c_a_5_w, (hb_A.cell (p := ⟨b2, 2, none⟩) lb).trans c_b_2_w, (hb_A.cell (p := ⟨b2, 3, none⟩) lb).trans c_b_3_w, (hb_A.cell (p := ⟨b2, 4, none⟩) lb).trans c_b_4_w, (hb_A.cell (p := ⟨b2, 5, none⟩) lb).trans c_b_5_w⟩ ?_
    simp only [Act.put, List.setIfInBounds_toArray, List.set_cons_zero, List.set_cons_succ]
    refine takeN (i := 11) (v := undef) (d := (some 16)) rfl rfl (by kernel_rfl) (by kernel_rfl) (by kernel_rfl) (fun _ _ _ h => h) (Or.inr ⟨by rfl, rfl⟩) ⟨(hb_A.cell (p := ⟨b, 2, none⟩) la).trans c_a_2_w, (hb_A.cell (p := ⟨b, 3, none⟩) la).trans c_a_3_w, (hb_A.cell (p := ⟨b, 4, none⟩) la).trans c_a_4_w, (hb_A.cell (p := ⟨b, 5, none⟩) la).trans c_a_5_w, (hb_A.cell (p := ⟨b2, 2, none⟩) lb).trans c_b_2_w, (hb_A.cell (p := ⟨b2, 3, none⟩) lb).trans c_b_3_w, (hb_A.cell (p := ⟨b2, 4, none⟩) lb).trans c_b_4_w, (hb_A.cell (p := ⟨b2, 5, none⟩) lb).trans c_b_5_w⟩ ?_
    simp only [Act.put, List.setIfInBounds_toArray, List.set_cons_zero, List.set_cons_succ]
    refine takeN (i := 12) (v := undef) (d := (some 17)) rfl rfl (by kernel_rfl) (by kernel_rfl) (by kernel_rfl) (fun _ _ _ h => h) (Or.inr ⟨by rfl, rfl⟩) ⟨(hb_A.cell (p := ⟨b, 2, none⟩) la).trans c_a_2_w, (hb_A.cell (p := ⟨b, 3, none⟩) la).trans c_a_3_w, (hb_A.cell (p := ⟨b, 4, none⟩) la).trans c_a_4_w, (hb_A.cell (p := ⟨b, 5, none⟩) la).trans c_a_5_w, (hb_A.cell (p := ⟨b2, 2, none⟩) lb).trans c_b_2_w, (hb_A.cell (p := ⟨b2, 3, none⟩) lb).trans c_b_3_w, (hb_A.cell (p := ⟨b2, 4, none⟩) lb).trans c_b_4_w, (hb_A.cell (p := ⟨b2, 5, none⟩) lb).trans c_b_5_w⟩ ?_
    simp only [Act.put, List.setIfInBounds_toArray, List.set_cons_zero, List.set_cons_succ]
    refine takeN (i := 13) (v := undef) (d := (some 18)) rfl rfl (by kernel_rfl) (by kernel_rfl) (by kernel_rfl) (fun _ _ _ h => h) (Or.inr ⟨by rfl, rfl⟩) ⟨(hb_A.cell (p := ⟨b, 2, none⟩) la).trans c_a_2_w, (hb_A.cell (p := ⟨b, 3, none⟩) la).trans c_a_3_w, (hb_A.cell (p := ⟨b, 4, none⟩) la).trans c_a_4_w, (hb_A.cell (p := ⟨b, 5, none⟩) la).trans c_a_5_w, (hb_A.cell (p := ⟨b2, 2, none⟩) lb).trans c_b_2_w, (hb_A.cell (p := ⟨b2, 3, none⟩) lb).trans c_b_3_w, (hb_A.cell (p := ⟨b2, 4, none⟩) lb).trans c_b_4_w, (hb_A.cell (p := ⟨b2, 5, none⟩) lb).trans c_b_5_w⟩ ?_
    simp only [Act.put, List.setIfInBounds_toArray, List.set_cons_zero, List.set_cons_succ]
    refine takeN (i := 14) (v := undef) (d := (some 19)) rfl rfl (by kernel_rfl) (by kernel_rfl) (by kernel_rfl) (fun _ _ _ h => h) (Or.inr ⟨by rfl, rfl⟩) ⟨(hb_A.cell (p := ⟨b, 2, none⟩) la).trans c_a_2_w, (hb_A.cell (p := ⟨b, 3, none⟩) la).trans c_a_3_w, (hb_A.cell (p := ⟨b, 4, none⟩) la).trans c_a_4_w, (hb_A.cell (p := ⟨b, 5, none⟩) la).trans c_a_5_w, (hb_A.cell (p := ⟨b2, 2, none⟩) lb).trans c_b_2_w, (hb_A.cell (p := ⟨b2, 3, none⟩) lb).trans c_b_3_w, (hb_A.cell (p := ⟨b2, 4, none⟩) lb).trans c_b_4_w, (hb_A.cell (p := ⟨b2, 5, none⟩) lb).trans c_b_5_w⟩ ?_
    simp only [Act.put, List.setIfInBounds_toArray, List.set_cons_zero, List.set_cons_succ]
    refine takeN (i := 15) (v := undef) (d := (some 20)) rfl rfl (by kernel_rfl) (by kernel_rfl) (by kernel_rfl) (fun _ _ _ h => h) (Or.inr ⟨by rfl, rfl⟩) ⟨(hb_A.cell (p := ⟨b, 2, none⟩) la).trans c_a_2_w, (hb_A.cell (p := ⟨b, 3, none⟩) la).trans c_a_3_w, (hb_A.cell (p := ⟨b, 4, none⟩) la).trans c_a_4_w, (hb_A.cell (p := ⟨b, 5, none⟩) la).trans c_a_5_w, (hb_A.cell (p := ⟨b2, 2, none⟩) lb).trans c_b_2_w, (hb_A.cell (p := ⟨b2, 3, none⟩) lb).trans c_b_3_w, (hb_A.cell (p := ⟨b2, 4, none⟩) lb).trans c_b_4_w, (hb_A.cell (p := ⟨b2, 5, none⟩) lb).trans c_b_5_w⟩ ?_
    simp only [Act.put, List.setIfInBounds_toArray, List.set_cons_zero, List.set_cons_succ]
    refine takeN (i := 16) (v := undef) (d := (some 21)) rfl rfl (by kernel_rfl) (by kernel_rfl) (by kernel_rfl) (fun _ _ _ h => h) (Or.inr ⟨by rfl, rfl⟩) ⟨(hb_A.cell (p := ⟨b, 2, none⟩) la).trans c_a_2_w, (hb_A.cell (p := ⟨b, 3, none⟩) la).trans c_a_3_w, (hb_A.cell (p := ⟨b, 4, none⟩) la).trans c_a_4_w, (hb_A.cell (p := ⟨b, 5, none⟩) la).trans c_a_5_w, (hb_A.cell (p := ⟨b2, 2, none⟩) lb).trans c_b_2_w, (hb_A.cell (p := ⟨b2, 3, none⟩) lb).trans c_b_3_w, (hb_A.cell (p := ⟨b2, 4, none⟩) lb).trans c_b_4_w, (hb_A.cell (p := ⟨b2, 5, none⟩) lb).trans c_b_5_w⟩ ?_
    simp only [Act.put, List.setIfInBounds_toArray, List.set_cons_zero, List.set_cons_succ]
    refine takeN (i := 17) (v := undef) (d := (some 22)) rfl rfl (by kernel_rfl) (by kernel_rfl) (by kernel_rfl) (fun _ _ _ h => h) (Or.inr ⟨by rfl, rfl⟩) ⟨(hb_A.cell (p := ⟨b, 2, none⟩) la).trans c_a_2_w, (hb_A.cell (p := ⟨b, 3, none⟩) la).trans c_a_3_w, (hb_A.cell (p := ⟨b, 4, none⟩) la).trans c_a_4_w, (hb_A.cell (p := ⟨b, 5, none⟩) la).trans c_a_5_w, (hb_A.cell (p := ⟨b2, 2, none⟩) lb).trans c_b_2_w, (hb_A.cell (p := ⟨b2, 3, none⟩) lb).trans c_b_3_w, (hb_A.cell (p := ⟨b2, 4, none⟩) lb).trans c_b_4_w, (hb_A.cell (p := ⟨b2, 5, none⟩) lb).trans c_b_5_w⟩ ?_
    simp only [Act.put, List.setIfInBounds_toArray, List.set_cons_zero, List.set_cons_succ]
    refine wpAnyH_ready (rs := [18]) (by kernel_rfl) (by simp) ?_
    refine AllReadyH.cons rfl (fun K hK => ?_) AllReadyH.nil
    go_simp
    refine hK.out _ _ ⟨(hb_A.cell (p := ⟨b, 2, none⟩) la).trans c_a_2_w, (hb_A.cell (p := ⟨b, 3, none⟩) la).trans c_a_3_w, (hb_A.cell (p := ⟨b, 4, none⟩) la).trans c_a_4_w, (hb_A.cell (p := ⟨b, 5, none⟩) la).trans c_a_5_w, (hb_A.cell (p := ⟨b2, 2, none⟩) lb).trans c_b_2_w, (hb_A.cell (p := ⟨b2, 3, none⟩) lb).trans c_b_3_w, (hb_A.cell (p := ⟨b2, 4, none⟩) lb).trans c_b_4_w, (hb_A.cell (p := ⟨b2, 5, none⟩) lb).trans c_b_5_w⟩ (fun _ => ?_)
    clear hK K
    (try simp only [Act.put, List.setIfInBounds_toArray, List.set_cons_zero, List.set_cons_succ])
    refine takeN (i := 19) (v := ?v19_10) (d := (some 24)) rfl rfl (by kernel_rfl) (by kernel_rfl) (by kernel_rfl) (fun _ _ _ h => h) (Or.inl ⟨by rfl, ?y19_10⟩) ⟨(hb_A.cell (p := ⟨b, 2, none⟩) la).trans c_a_2_w, (hb_A.cell (p := ⟨b, 3, none⟩) la).trans c_a_3_w, (hb_A.cell (p := ⟨b, 4, none⟩) la).trans c_a_4_w, (hb_A.cell (p := ⟨b, 5, none⟩) la).trans c_a_5_w, (hb_A.cell (p := ⟨b2, 2, none⟩) lb).trans c_b_2_w, (hb_A.cell (p := ⟨b2, 3, none⟩) lb).trans c_b_3_w, (hb_A.cell (p := ⟨b2, 4, none⟩) lb).trans c_b_4_w, (hb_A.cell (p := ⟨b2, 5, none⟩) lb).trans c_b_5_w⟩ ?r19_10
    case y19_10 => (intro W hW; (try dsimp only at hW); go_simp; try (with_reducible rfl))
    simp only [Act.put, List.setIfInBounds_toArray, List.set_cons_zero, List.set_cons_succ]
    refine takeN (i := 20) (v := ?v20_11) (d := (some 25)) rfl rfl (by kernel_rfl) (by kernel_rfl) (by kernel_rfl) (fun _ _ _ h => h) (Or.inl ⟨by rfl, ?y20_11⟩) ⟨(hb_A.cell (p := ⟨b, 2, none⟩) la).trans c_a_2_w, (hb_A.cell (p := ⟨b, 3, none⟩) la).trans c_a_3_w, (hb_A.cell (p := ⟨b, 4, none⟩) la).trans c_a_4_w, (hb_A.cell (p := ⟨b, 5, none⟩) la).trans c_a_5_w, (hb_A.cell (p := ⟨b2, 2, none⟩) lb).trans c_b_2_w, (hb_A.cell (p := ⟨b2, 3, none⟩) lb).trans c_b_3_w, (hb_A.cell (p := ⟨b2, 4, none⟩) lb).trans c_b_4_w, (hb_A.cell (p := ⟨b2, 5, none⟩) lb).trans c_b_5_w⟩ ?r20_11
    case y20_11 => (intro W hW; (try dsimp only at hW); go_simp; try (with_reducible rfl))
    simp only [Act.put, List.setIfInBounds_toArray, List.set_cons_zero, List.set_cons_succ]
    refine takeN (i := 21) (v := undef) (d := (some 26)) rfl rfl (by kernel_rfl) (by kernel_rfl) (by kernel_rfl) (fun _ _ _ h => h) (Or.inr ⟨by rfl, rfl⟩) ⟨(hb_A.cell (p := ⟨b, 2, none⟩) la).trans c_a_2_w, (hb_A.cell (p := ⟨b, 3, none⟩) la).trans c_a_3_w, (hb_A.cell (p := ⟨b, 4, none⟩) la).trans c_a_4_w, (hb_A.cell (p := ⟨b, 5, none⟩) la).trans c_a_5_w, (hb_A.cell (p := ⟨b2, 2, none⟩) lb).trans c_b_2_w, (hb_A.cell (p := ⟨b2, 3, none⟩) lb).trans c_b_3_w, (hb_A.cell (p := ⟨b2, 4, none⟩) lb).trans c_b_4_w, (hb_A.cell (p := ⟨b2, 5, none⟩) lb).trans c_b_5_w⟩ ?_
    simp only [Act.put, List.setIfInBounds_toArray, List.set_cons_zero, List.set_cons_succ]
    refine takeN (i := 22) (v := undef) (d := (some 27)) rfl rfl (by kernel_rfl) (by kernel_rfl) (by kernel_rfl) (fun _ _ _ h => h) (Or.inr ⟨by rfl, rfl⟩) ⟨(hb_A.cell (p := ⟨b, 2, none⟩) la).trans c_a_2_w, (hb_A.cell (p := ⟨b, 3, none⟩) la).trans c_a_3_w, (hb_A.cell (p := ⟨b, 4, none⟩) la).trans c_a_4_w, (hb_A.cell (p := ⟨b, 5, none⟩) la).trans c_a_5_w, (hb_A.cell (p := ⟨b2, 2, none⟩) lb).trans c_b_2_w, (hb_A.cell (p := ⟨b2, 3, none⟩) lb).trans c_b_3_w, (hb_A.cell (p := ⟨b2, 4, none⟩) lb).trans c_b_4_w, (hb_A.cell (p := ⟨b2, 5, none⟩) lb).trans c_b_5_w⟩ ?_
    simp only [Act.put, List.setIfInBounds_toArray, List.set_cons_zero, List.set_cons_succ]
    refine takeN (i := 23) (v := undef) (d := (some 28)) rfl rfl (by kernel_rfl) (by kernel_rfl) (by kernel_rfl) (fun _ _ _ h => h) (Or.inr ⟨by rfl, rfl⟩) ⟨(hb_A.cell (p := ⟨b, 2, none⟩) la).trans c_a_2_w, (hb_A.cell (p := ⟨b, 3, none⟩) la).trans c_a_3_w, (hb_A.cell (p := ⟨b, 4, none⟩) la).trans c_a_4_w, (hb_A.cell (p := ⟨b, 5, none⟩) la).trans c_a_5_w, (hb_A.cell (p := ⟨b2, 2, none⟩) lb).trans c_b_2_w, (hb_A.cell (p := ⟨b2, 3, none⟩) lb).trans c_b_3_w, (hb_A.cell (p := ⟨b2, 4, none⟩) lb).trans c_b_4_w, (hb_A.cell (p := ⟨b2, 5, none⟩) lb).trans c_b_5_w⟩ ?_
    simp only [Act.put, List.setIfInBounds_toArray, List.set_cons_zero, List.set_cons_succ]
    refine takeN (i := 24) (v := undef) (d := (some 29)) rfl rfl (by kernel_rfl) (by kernel_rfl) (by kernel_rfl) (fun _ _ _ h => h) (Or.inr ⟨by rfl, rfl⟩) ⟨(hb_A.cell (p := ⟨b, 2, none⟩) la).trans c_a_2_w, (hb_A.cell (p := ⟨b, 3, none⟩) la).trans c_a_3_w, (hb_A.cell (p := ⟨b, 4, none⟩) la).trans c_a_4_w, (hb_A.cell (p := ⟨b, 5, none⟩) la).trans c_a_5_w, (hb_A.cell (p := ⟨b2, 2, none⟩) lb).trans c_b_2_w, (hb_A.cell (p := ⟨b2, 3, none⟩) lb).trans c_b_3_w, (hb_A.cell (p := ⟨b2, 4, none⟩) lb).trans c_b_4_w, (hb_A.cell (p := ⟨b2, 5, none⟩) lb).trans c_b_5_w⟩ ?_
    simp only [Act.put, List.setIfInBounds_toArray, List.set_cons_zero, List.set_cons_succ]
    refine takeN (i := 25) (v := undef) (d := (some 30)) rfl rfl (by kernel_rfl) (by kernel_rfl) (by kernel_rfl) (fun _ _ _ h => h) (Or.inr ⟨by rfl, rfl⟩) ⟨(hb_A.cell (p := ⟨b, 2, none⟩) la).trans c_a_2_w, (hb_A.cell (p := ⟨b, 3, none⟩) la).trans c_a_3_w, (hb_A.cell (p := ⟨b, 4, none⟩) la).trans c_a_4_w, (hb_A.cell (p := ⟨b, 5, none⟩) la).trans c_a_5_w, (hb_A.cell (p := ⟨b2, 2, none⟩) lb).trans c_b_2_w, (hb_A.cell (p := ⟨b2, 3, none⟩) lb).trans c_b_3_w, (hb_A.cell (p := ⟨b2, 4, none⟩) lb).trans c_b_4_w, (hb_A.cell (p := ⟨b2, 5, none⟩) lb).trans c_b_5_w⟩ ?_
    simp only [Act.put, List.setIfInBounds_toArray, List.set_cons_zero, List.set_cons_succ]
    refine takeN (i := 26) (v := undef) (d := (some 31)) rfl rfl (by kernel_rfl) (by kernel_rfl) (by kernel_rfl) (fun _ _ _ h => h) (Or.inr ⟨by rfl, rfl⟩) ⟨(hb_A.cell (p := ⟨b, 2, none⟩) la).trans c_a_2_w, (hb_A.cell (p := ⟨b, 3, none⟩) la).trans c_a_3_w, (hb_A.cell (p := ⟨b, 4, none⟩) la).trans c_a_4_w, (hb_A.cell (p := ⟨b, 5, none⟩) la).trans c_a_5_w, (hb_A.cell (p := ⟨b2, 2, none⟩) lb).trans c_b_2_w, (hb_A.cell (p := ⟨b2, 3, none⟩) lb).trans c_b_3_w, (hb_A.cell (p := ⟨b2, 4, none⟩) lb).trans c_b_4_w, (hb_A.cell (p := ⟨b2, 5, none⟩) lb).trans c_b_5_w⟩ ?_
    simp only [Act.put, List.setIfInBounds_toArray, List.set_cons_zero, List.set_cons_succ]
    refine takeN (i := 27) (v := undef) (d := (some 32)) rfl rfl (by kernel_rfl) (by kernel_rfl) (by kernel_rfl) (fun _ _ _ h => h) (Or.inr ⟨by rfl, rfl⟩) ⟨(hb_A.cell (p := ⟨b, 2, none⟩) la).trans c_a_2_w, (hb_A.cell (p := ⟨b, 3, none⟩) la).trans c_a_3_w, (hb_A.cell (p := ⟨b, 4, none⟩) la).trans c_a_4_w, (hb_A.cell (p := ⟨b, 5, none⟩) la).trans c_a_5_w, (hb_A.cell (p := ⟨b2, 2, none⟩) lb).trans c_b_2_w, (hb_A.cell (p := ⟨b2, 3, none⟩) lb).trans c_b_3_w, (hb_A.cell (p := ⟨b2, 4, none⟩) lb).trans c_b_4_w, (hb_A.cell (p := ⟨b2, 5, none⟩) lb).trans c_b_5_w⟩ ?_
    simp only [Act.put, List.setIfInBounds_toArray, List.set_cons_zero, List.set_cons_succ]
    refine takeN (i := 28) (v := undef) (d := (some 33)) rfl rfl (by kernel_rfl) (by kernel_rfl) (by kernel_rfl) (fun _ _ _ h => h) (Or.inr ⟨by rfl, rfl⟩) ⟨(hb_A.cell (p := ⟨b, 2, none⟩) la).trans c_a_2_w, (hb_A.cell (p := ⟨b, 3, none⟩) la).trans c_a_3_w, (hb_A.cell (p := ⟨b, 4, none⟩) la).trans c_a_4_w, (hb_A.cell (p := ⟨b, 5, none⟩) la).trans c_a_5_w, (hb_A.cell (p := ⟨b2, 2, none⟩) lb).trans c_b_2_w, (hb_A.cell (p := ⟨b2, 3, none⟩) lb).trans c_b_3_w, (hb_A.cell (p := ⟨b2, 4, none⟩) lb).trans c_b_4_w, (hb_A.cell (p := ⟨b2, 5, none⟩) lb).trans c_b_5_w⟩ ?_
    simp only [Act.put, List.setIfInBounds_toArray, List.set_cons_zero, List.set_cons_succ]
    refine wpAnyH_ready (rs := [29]) (by kernel_rfl) (by simp) ?_
    refine AllReadyH.cons rfl (fun K hK => ?_) AllReadyH.nil
    go_simp
    refine hK.out _ _ ⟨(hb_A.cell (p := ⟨b, 2, none⟩) la).trans c_a_2_w, (hb_A.cell (p := ⟨b, 3, none⟩) la).trans c_a_3_w, (hb_A.cell (p := ⟨b, 4, none⟩) la).trans c_a_4_w, (hb_A.cell (p := ⟨b, 5, none⟩) la).trans c_a_5_w, (hb_A.cell (p := ⟨b2, 2, none⟩) lb).trans c_b_2_w, (hb_A.cell (p := ⟨b2, 3, none⟩) lb).trans c_b_3_w, (hb_A.cell (p := ⟨b2, 4, none⟩) lb).trans c_b_4_w, (hb_A.cell (p := ⟨b2, 5, none⟩) lb).trans c_b_5_w⟩ (fun _ => ?_)
    clear hK K
    (try simp only [Act.put, List.setIfInBounds_toArray, List.set_cons_zero, List.set_cons_succ])
    refine takeN (i := 30) (v := ?v30_12) (d := (some 35)) rfl rfl (by kernel_rfl) (by kernel_rfl) (by kernel_rfl) (fun _ _ _ h => h) (Or.inl ⟨by rfl, ?y30_12⟩) ⟨(hb_A.cell (p := ⟨b, 2, none⟩) la).trans c_a_2_w, (hb_A.cell (p := ⟨b, 3, none⟩) la).trans c_a_3_w, (hb_A.cell (p := ⟨b, 4, none⟩) la).trans c_a_4_w, (hb_A.cell (p := ⟨b, 5, none⟩) la).trans c_a_5_w, (hb_A.cell (p := ⟨b2, 2, none⟩) lb).trans c_b_2_w, (hb_A.cell (p := ⟨b2, 3, none⟩) lb).trans c_b_3_w, (hb_A.cell (p := ⟨b2, 4, none⟩) lb).trans c_b_4_w, (hb_A.cell (p := ⟨b2, 5, none⟩) lb).trans c_b_5_w⟩ ?r30_12
    case y30_12 => (intro W hW; (try dsimp only at hW); go_simp; try (with_reducible rfl))
    simp only [Act.put, List.setIfInBounds_toArray, List.set_cons_zero, List.set_cons_succ]
    refine takeN (i := 31) (v := ?v31_13) (d := (some 36)) rfl rfl (by kernel_rfl) (by kernel_rfl) (by kernel_rfl) (fun _ _ _ h => h) (Or.inl ⟨by rfl, ?y31_13⟩) ⟨(hb_A.cell (p := ⟨b, 2, none⟩) la).trans c_a_2_w, (hb_A.cell (p := ⟨b, 3, none⟩) la).trans c_a_3_w, (hb_A.cell (p := ⟨b, 4, none⟩) la).trans c_a_4_w, (hb_A.cell (p := ⟨b, 5, none⟩) la).trans c_a_5_w, (hb_A.cell (p := ⟨b2, 2, none⟩) lb).trans c_b_2_w, (hb_A.cell (p := ⟨b2, 3, none⟩) lb).trans c_b_3_w, (hb_A.cell (p := ⟨b2, 4, none⟩) lb).trans c_b_4_w, (hb_A.cell (p := ⟨b2, 5, none⟩) lb).trans c_b_5_w⟩ ?r31_13
    case y31_13 => (intro W hW; (try dsimp only at hW); go_simp; try (with_reducible rfl))
    simp only [Act.put, List.setIfInBounds_toArray, List.set_cons_zero, List.set_cons_succ]
    refine takeN (i := 32) (v := undef) (d := (some 37)) rfl rfl (by kernel_rfl) (by kernel_rfl) (by kernel_rfl) (fun _ _ _ h => h) (Or.inr ⟨by rfl, rfl⟩) ⟨(hb_A.cell (p := ⟨b, 2, none⟩) la).trans c_a_2_w, (hb_A.cell (p := ⟨b, 3, none⟩) la).trans c_a_3_w, (hb_A.cell (p := ⟨b, 4, none⟩) la).trans c_a_4_w, (hb_A.cell (p := ⟨b, 5, none⟩) la).trans c_a_5_w, (hb_A.cell (p := ⟨b2, 2, none⟩) lb).trans c_b_2_w, (hb_A.cell (p := ⟨b2, 3, none⟩) lb).trans c_b_3_w, (hb_A.cell (p := ⟨b2, 4, none⟩) lb).trans c_b_4_w, (hb_A.cell (p := ⟨b2, 5, none⟩) lb).trans c_b_5_w⟩ ?_
    simp only [Act.put, List.setIfInBounds_toArray, List.set_cons_zero, List.set_cons_succ]
    refine takeN (i := 33) (v := undef) (d := (some 38)) rfl rfl (by kernel_rfl) (by kernel_rfl) (by kernel_rfl) (fun _ _ _ h => h) (Or.inr ⟨by rfl, rfl⟩) ⟨(hb_A.cell (p := ⟨b, 2, none⟩) la).trans c_a_2_w, (hb_A.cell (p := ⟨b, 3, none⟩) la).trans c_a_3_w, (hb_A.cell (p := ⟨b, 4, none⟩) la).trans c_a_4_w, (hb_A.cell (p := ⟨b, 5, none⟩) la).trans c_a_5_w, (hb_A.cell (p := ⟨b2, 2, none⟩) lb).trans c_b_2_w, (hb_A.cell (p := ⟨b2, 3, none⟩) lb).trans c_b_3_w, (hb_A.cell (p := ⟨b2, 4, none⟩) lb).trans c_b_4_w, (hb_A.cell (p := ⟨b2, 5, none⟩) lb).trans c_b_5_w⟩ ?_
    simp only [Act.put, List.setIfInBounds_toArray, List.set_cons_zero, List.set_cons_succ]
    refine takeN (i := 34) (v := undef) (d := (some 39)) rfl rfl (by kernel_rfl) (by kernel_rfl) (by kernel_rfl) (fun _ _ _ h => h) (Or.inr ⟨by rfl, rfl⟩) ⟨(hb_A.cell (p := ⟨b, 2, none⟩) la).trans c_a_2_w, (hb_A.cell (p := ⟨b, 3, none⟩) la).trans c_a_3_w, (hb_A.cell (p := ⟨b, 4, none⟩) la).trans c_a_4_w, (hb_A.cell (p := ⟨b, 5, none⟩) la).trans c_a_5_w, (hb_A.cell (p := ⟨b2, 2, none⟩) lb).trans c_b_2_w, (hb_A.cell (p := ⟨b2, 3, none⟩) lb).trans c_b_3_w, (hb_A.cell (p := ⟨b2, 4, none⟩) lb).trans c_b_4_w, (hb_A.cell (p := ⟨b2, 5, none⟩) lb).trans c_b_5_w⟩ ?_
    simp only [Act.put, List.setIfInBounds_toArray, List.set_cons_zero, List.set_cons_succ]
    refine takeN (i := 35) (v := undef) (d := (some 40)) rfl rfl (by kernel_rfl) (by kernel_rfl) (by kernel_rfl) (fun _ _ _ h => h) (Or.inr ⟨by rfl, rfl⟩) ⟨(hb_A.cell (p := ⟨b, 2, none⟩) la).trans c_a_2_w, (hb_A.cell (p := ⟨b, 3, none⟩) la).trans c_a_3_w, (hb_A.cell (p := ⟨b, 4, none⟩) la).trans c_a_4_w, (hb_A.cell (p := ⟨b, 5, none⟩) la).trans c_a_5_w, (hb_A.cell (p := ⟨b2, 2, none⟩) lb).trans c_b_2_w, (hb_A.cell (p := ⟨b2, 3, none⟩) lb).trans c_b_3_w, (hb_A.cell (p := ⟨b2, 4, none⟩) lb).trans c_b_4_w, (hb_A.cell (p := ⟨b2, 5, none⟩) lb).trans c_b_5_w⟩ ?_
    simp only [Act.put, List.setIfInBounds_toArray, List.set_cons_zero, List.set_cons_succ]
    refine takeN (i := 36) (v := undef) (d := (some 41)) rfl rfl (by kernel_rfl) (by kernel_rfl) (by kernel_rfl) (fun _ _ _ h => h) (Or.inr ⟨by rfl, rfl⟩) ⟨(hb_A.cell (p := ⟨b, 2, none⟩) la).trans c_a_2_w, (hb_A.cell (p := ⟨b, 3, none⟩) la).trans c_a_3_w, (hb_A.cell (p := ⟨b, 4, none⟩) la).trans c_a_4_w, (hb_A.cell (p := ⟨b, 5, none⟩) la).trans c_a_5_w, (hb_A.cell (p := ⟨b2, 2, none⟩) lb).trans c_b_2_w, (hb_A.cell (p := ⟨b2, 3, none⟩) lb).trans c_b_3_w, (hb_A.cell (p := ⟨b2, 4, none⟩) lb).trans c_b_4_w, (hb_A.cell (p := ⟨b2, 5, none⟩) lb).trans c_b_5_w⟩ ?_
    simp only [Act.put, List.setIfInBounds_toArray, List.set_cons_zero, List.set_cons_succ]
    refine takeN (i := 37) (v := undef) (d := (some 42)) rfl rfl (by kernel_rfl) (by kernel_rfl) (by kernel_rfl) (fun _ _ _ h => h) (Or.inr ⟨by rfl, rfl⟩) ⟨(hb_A.cell (p := ⟨b, 2, none⟩) la).trans c_a_2_w, (hb_A.cell (p := ⟨b, 3, none⟩) la).trans c_a_3_w, (hb_A.cell (p := ⟨b, 4, none⟩) la).trans c_a_4_w, (hb_A.cell (p := ⟨b, 5, none⟩) la).trans c_a_5_w, (hb_A.cell (p := ⟨b2, 2, none⟩) lb).trans c_b_2_w, (hb_A.cell (p := ⟨b2, 3, none⟩) lb).trans c_b_3_w, (hb_A.cell (p := ⟨b2, 4, none⟩) lb).trans c_b_4_w, (hb_A.cell (p := ⟨b2, 5, none⟩) lb).trans c_b_5_w⟩ ?_
    simp only [Act.put, List.setIfInBounds_toArray, List.set_cons_zero, List.set_cons_succ]
    refine takeN (i := 38) (v := undef) (d := (some 43)) rfl rfl (by kernel_rfl) (by kernel_rfl) (by kernel_rfl) (fun _ _ _ h => h) (Or.inr ⟨by rfl, rfl⟩) ⟨(hb_A.cell (p := ⟨b, 2, none⟩) la).trans c_a_2_w, (hb_A.cell (p := ⟨b, 3, none⟩) la).trans c_a_3_w, (hb_A.cell (p := ⟨b, 4, none⟩) la).trans c_a_4_w, (hb_A.cell (p := ⟨b, 5, none⟩) la).trans c_a_5_w, (hb_A.cell (p := ⟨b2, 2, none⟩) lb).trans c_b_2_w, (hb_A.cell (p := ⟨b2, 3, none⟩) lb).trans c_b_3_w, (hb_A.cell (p := ⟨b2, 4, none⟩) lb).trans c_b_4_w, (hb_A.cell (p := ⟨b2, 5, none⟩) lb).trans c_b_5_w⟩ ?_
    simp only [Act.put, List.setIfInBounds_toArray, List.set_cons_zero, List.set_cons_succ]
    refine takeN (i := 39) (v := undef) (d := (some 44)) rfl rfl (by kernel_rfl) (by kernel_rfl) (by kernel_rfl) (fun _ _ _ h => h) (Or.inr ⟨by rfl, rfl⟩) ⟨(hb_A.cell (p := ⟨b, 2, none⟩) la).trans c_a_2_w, (hb_A.cell (p := ⟨b, 3, none⟩) la).trans c_a_3_w, (hb_A.cell (p := ⟨b, 4, none⟩) la).trans c_a_4_w, (hb_A.cell (p := ⟨b, 5, none⟩) la).trans c_a_5_w, (hb_A.cell (p := ⟨b2, 2, none⟩) lb).trans c_b_2_w, (hb_A.cell (p := ⟨b2, 3, none⟩) lb).trans c_b_3_w, (hb_A.cell (p := ⟨b2, 4, none⟩) lb).trans c_b_4_w, (hb_A.cell (p := ⟨b2, 5, none⟩) lb).trans c_b_5_w⟩ ?_
    simp only [Act.put, List.setIfInBounds_toArray, List.set_cons_zero, List.set_cons_succ]
    refine wpAnyH_ready (rs := [40]) (by kernel_rfl) (by simp) ?_
    refine AllReadyH.cons rfl (fun K hK => ?_) AllReadyH.nil
    go_simp
    refine hK.out _ _ ⟨(hb_A.cell (p := ⟨b, 2, none⟩) la).trans c_a_2_w, (hb_A.cell (p := ⟨b, 3, none⟩) la).trans c_a_3_w, (hb_A.cell (p := ⟨b, 4, none⟩) la).trans c_a_4_w, (hb_A.cell (p := ⟨b, 5, none⟩) la).trans c_a_5_w, (hb_A.cell (p := ⟨b2, 2, none⟩) lb).trans c_b_2_w, (hb_A.cell (p := ⟨b2, 3, none⟩) lb).trans c_b_3_w, (hb_A.cell (p := ⟨b2, 4, none⟩) lb).trans c_b_4_w, (hb_A.cell (p := ⟨b2, 5, none⟩) lb).trans c_b_5_w⟩ (fun _ => ?_)
    clear hK K
    (try simp only [Act.put, List.setIfInBounds_toArray, List.set_cons_zero, List.set_cons_succ])
    refine takeN (i := 41) (v := ?v41_14) (d := (some 46)) rfl rfl (by kernel_rfl) (by kernel_rfl) (by kernel_rfl) (fun _ _ _ h => h) (Or.inl ⟨by rfl, ?y41_14⟩) ⟨(hb_A.cell (p := ⟨b, 2, none⟩) la).trans c_a_2_w, (hb_A.cell (p := ⟨b, 3, none⟩) la).trans c_a_3_w, (hb_A.cell (p := ⟨b, 4, none⟩) la).trans c_a_4_w, (hb_A.cell (p := ⟨b, 5, none⟩) la).trans c_a_5_w, (hb_A.cell (p := ⟨b2, 2, none⟩) lb).trans c_b_2_w, (hb_A.cell (p := ⟨b2, 3, none⟩) lb).trans c_b_3_w, (hb_A.cell (p := ⟨b2, 4, none⟩) lb).trans c_b_4_w, (hb_A.cell (p := ⟨b2, 5, none⟩) lb).trans c_b_5_w⟩ ?r41_14
    case y41_14 => (intro W hW; (try dsimp only at hW); go_simp; try (with_reducible rfl))
    simp only [Act.put, List.setIfInBounds_toArray, List.set_cons_zero, List.set_cons_succ]
    refine takeN (i := 42) (v := ?v42_15) (d := (some 4)) rfl rfl (by kernel_rfl) (by kernel_rfl) (by kernel_rfl) (fun _ _ _ h => h) (Or.inl ⟨by rfl, ?y42_15⟩) ⟨(hb_A.cell (p := ⟨b, 2, none⟩) la).trans c_a_2_w, (hb_A.cell (p := ⟨b, 3, none⟩) la).trans c_a_3_w, (hb_A.cell (p := ⟨b, 4, none⟩) la).trans c_a_4_w, (hb_A.cell (p := ⟨b, 5, none⟩) la).trans c_a_5_w, (hb_A.cell (p := ⟨b2, 2, none⟩) lb).trans c_b_2_w, (hb_A.cell (p := ⟨b2, 3, none⟩) lb).trans c_b_3_w, (hb_A.cell (p := ⟨b2, 4, none⟩) lb).trans c_b_4_w, (hb_A.cell (p := ⟨b2, 5, none⟩) lb).trans c_b_5_w⟩ ?r42_15
    case y42_15 => (intro W hW; (try dsimp only at hW); go_simp; try (with_reducible rfl))
    simp only [Act.put, List.setIfInBounds_toArray, List.set_cons_zero, List.set_cons_succ]
    refine wpAnyH_done (by kernel_rfl) ?_ _
    go_wp2
    go_ret
    exact ⟨ret_eq (by rw [HO.out]; rfl), B0.trans hb_A⟩
  case true =>
    cases zU
    case false =>
      have HO : Hid (listsB d g = false) := by show _ = _; rw [HE.out]; rfl
      go_enter Try.func64, Try.ntmps64
      go_wp2_with fail
      refine wp_region_held (S := fun w' => w'.cell? ⟨b, 2, none⟩ = some (.slice AAccts d.Accts.length cAccts) ∧ w'.cell? ⟨b, 3, none⟩ = some (.slice AOuts d.Outs.length cOuts) ∧ w'.cell? ⟨b, 4, none⟩ = some (.slice AIns d.Ins.length cIns) ∧ w'.cell? ⟨b, 5, none⟩ = some (.slice AAccs d.Accs.length cAccs) ∧ w'.cell? ⟨b2, 2, none⟩ = some (.slice AAcctsx g.Accts.length cAcctsx) ∧ w'.cell? ⟨b2, 3, none⟩ = some (.slice AOutsx g.Outs.length cOutsx) ∧ w'.cell? ⟨b2, 4, none⟩ = some (.slice AInsx g.Ins.length cInsx) ∧ w'.cell? ⟨b2, 5, none⟩ = some (.slice AAccsx g.Accs.length cAccsx)) (by kernel_rfl) ?_
      refine takeN (i := 0) (v := ?v0_16) (d := (some 5)) rfl rfl (by kernel_rfl) (by kernel_rfl) (by kernel_rfl) (fun _ _ _ h => h) (Or.inl ⟨by rfl, ?y0_16⟩) ⟨c_a_2_w, c_a_3_w, c_a_4_w, c_a_5_w, c_b_2_w, c_b_3_w, c_b_4_w, c_b_5_w⟩ ?r0_16
      case y0_16 => (intro W hW; (try dsimp only at hW); go_simp; try (with_reducible rfl))
      simp only [Act.put, List.setIfInBounds_toArray, List.set_cons_zero, List.set_cons_succ]
      refine takeN (i := 1) (v := ?v1_17) (d := (some 6)) rfl rfl (by kernel_rfl) (by kernel_rfl) (by kernel_rfl) (fun _ _ _ h => h) (Or.inl ⟨by rfl, ?y1_17⟩) ⟨c_a_2_w, c_a_3_w, c_a_4_w, c_a_5_w, c_b_2_w, c_b_3_w, c_b_4_w, c_b_5_w⟩ ?r1_17
      case y1_17 => (intro W hW; (try dsimp only at hW); go_simp; try (with_reducible rfl))
      simp only [Act.put, List.setIfInBounds_toArray, List.set_cons_zero, List.set_cons_succ]
      refine takeN (i := 2) (v := ?v2_18) (d := (some 7)) rfl rfl (by kernel_rfl) (by kernel_rfl) (by kernel_rfl) (fun _ _ _ h => h) (Or.inl ⟨by rfl, ?y2_18⟩) ⟨c_a_2_w, c_a_3_w, c_a_4_w, c_a_5_w, c_b_2_w, c_b_3_w, c_b_4_w, c_b_5_w⟩ ?r2_18
      case y2_18 => (intro W hW; (try dsimp only at hW); go_simp; try (with_reducible rfl))
      simp only [Act.put, List.setIfInBounds_toArray, List.set_cons_zero, List.set_cons_succ]
      refine takeN (i := 3) (v := ?v3_19) (d := (some 8)) rfl rfl (by kernel_rfl) (by kernel_rfl) (by kernel_rfl) (fun _ _ _ h => h) (Or.inl ⟨by rfl, ?y3_19⟩) ⟨c_a_2_w, c_a_3_w, c_a_4_w, c_a_5_w, c_b_2_w, c_b_3_w, c_b_4_w, c_b_5_w⟩ ?r3_19
      case y3_19 => (intro W hW; (try dsimp only at hW); go_simp; try (with_reducible rfl))
      simp only [Act.put, List.setIfInBounds_toArray, List.set_cons_zero, List.set_cons_succ]
      refine takeN (i := 4) (v := ?v4_20) (d := (some 9)) rfl rfl (by kernel_rfl) (by kernel_rfl) (by kernel_rfl) (fun _ _ _ h => h) (Or.inl ⟨by rfl, ?y4_20⟩) ⟨c_a_2_w, c_a_3_w, c_a_4_w, c_a_5_w, c_b_2_w, c_b_3_w, c_b_4_w, c_b_5_w⟩ ?r4_20
      case y4_20 => (intro W hW; (try dsimp only at hW); go_simp; try (with_reducible rfl))
      simp only [Act.put, List.setIfInBounds_toArray, List.set_cons_zero, List.set_cons_succ]
      refine takeN (i := 5) (v := ?v5_21) (d := (some 10)) rfl rfl (by kernel_rfl) (by kernel_rfl) (by kernel_rfl) (fun _ _ _ h => h) (Or.inl ⟨by rfl, ?y5_21⟩) ⟨c_a_2_w, c_a_3_w, c_a_4_w, c_a_5_w, c_b_2_w, c_b_3_w, c_b_4_w, c_b_5_w⟩ ?r5_21
      case y5_21 => (intro W hW; (try dsimp only at hW); go_simp; try (with_reducible rfl))
      simp only [Act.put, List.setIfInBounds_toArray, List.set_cons_zero, List.set_cons_succ]
      refine takeN (i := 6) (v := ?v6_22) (d := (some 11)) rfl rfl (by kernel_rfl) (by kernel_rfl) (by kernel_rfl) (fun _ _ _ h => h) (Or.inl ⟨by rfl, ?y6_22⟩) ⟨c_a_2_w, c_a_3_w, c_a_4_w, c_a_5_w, c_b_2_w, c_b_3_w, c_b_4_w, c_b_5_w⟩ ?r6_22
      case y6_22 => (intro W hW; (try dsimp only at hW); go_simp; try (with_reducible rfl))
      simp only [Act.put, List.setIfInBounds_toArray, List.set_cons_zero, List.set_cons_succ]
      refine takeN (i := 7) (v := ?v7_23) (d := (some 12)) rfl rfl (by kernel_rfl) (by kernel_rfl) (by kernel_rfl) (fun _ _ _ h => h) (Or.inl ⟨by rfl, ?y7_23⟩) ⟨c_a_2_w, c_a_3_w, c_a_4_w, c_a_5_w, c_b_2_w, c_b_3_w, c_b_4_w, c_b_5_w⟩ ?r7_23
      case y7_23 => (intro W hW; (try dsimp only at hW); go_simp; try (with_reducible rfl))
      simp only [Act.put, List.setIfInBounds_toArray, List.set_cons_zero, List.set_cons_succ]
      refine wpAnyH_ready (rs := [8]) (by kernel_rfl) (by simp) ?_
      refine AllReadyH.cons rfl (fun K hK => ?_) AllReadyH.nil
      go_simp
      refine (iEqFuncA_c (rAccts.from_ ((Below.refl w.heap.size w).drew)) (rAcctsx.from_ ((Below.refl w.heap.size w).drew))).mono ?_
      rintro e w_A ⟨rfl, hd_A⟩
      have hb_A : Below w.heap.size w w_A := (Below.refl w.heap.size w).drew.trans hd_A
      rw [HA.out]
      refine hK.out _ _ ⟨(hb_A.cell (p := ⟨b, 2, none⟩) la).trans c_a_2_w, (hb_A.cell (p := ⟨b, 3, none⟩) la).trans c_a_3_w, (hb_A.cell (p := ⟨b, 4, none⟩) la).trans c_a_4_w, (hb_A.cell (p := ⟨b, 5, none⟩) la).trans c_a_5_w, (hb_A.cell (p := ⟨b2, 2, none⟩) lb).trans c_b_2_w, (hb_A.cell (p := ⟨b2, 3, none⟩) lb).trans c_b_3_w, (hb_A.cell (p := ⟨b2, 4, none⟩) lb).trans c_b_4_w, (hb_A.cell (p := ⟨b2, 5, none⟩) lb).trans c_b_5_w⟩ (fun _ => ?_)
      clear hK K
      refine takeN (i := 9) (v := ?v9_24) (d := (some 14)) rfl rfl (by kernel_rfl) (by kernel_rfl) (by kernel_rfl) (fun _ _ _ h => h) (Or.inl ⟨by rfl, ?y9_24⟩) ⟨(hb_A.cell (p := ⟨b, 2, none⟩) la).trans c_a_2_w, (hb_A.cell (p := ⟨b, 3, none⟩) la).trans c_a_3_w, (hb_A.cell (p := ⟨b, 4, none⟩) la).trans c_a_4_w, (hb_A.cell (p := ⟨b, 5, none⟩) la).trans c_a_5_w, (hb_A.cell (p := ⟨b2, 2, none⟩) lb).trans c_b_2_w, (hb_A.cell (p := ⟨b2, 3, none⟩) lb).trans c_b_3_w, (hb_A.cell (p := ⟨b2, 4, none⟩) lb).trans c_b_4_w, (hb_A.cell (p := ⟨b2, 5, none⟩) lb).trans c_b_5_w⟩ ?r9_24
      case y9_24 => (intro W hW; (try dsimp only at hW); go_simp; try (with_reducible rfl))
      simp only [Act.put, List.setIfInBounds_toArray, List.set_cons_zero, List.set_cons_succ]
      refine takeN (i := 10) (v := ?v10_25) (d := (some 15)) rfl rfl (by kernel_rfl) (by kernel_rfl) (by kernel_rfl) (fun _ _ _ h => h) (Or.inl ⟨by rfl, ?y10_25⟩) ⟨(hb_A.cell (p := ⟨b, 2, none⟩) la).trans c_a_2_w, (hb_A.cell (p := ⟨b, 3, none⟩) la).trans c_a_3_w, (hb_A.cell (p := ⟨b, 4, none⟩) la).trans c_a_4_w, (hb_A.cell (p := ⟨b, 5, none⟩) la).trans c_a_5_w, (hb_A.cell (p := ⟨b2, 2, none⟩) lb).trans c_b_2_w, (hb_A.cell (p := ⟨b2, 3, none⟩) lb).trans c_b_3_w, (hb_A.cell (p := ⟨b2, 4, none⟩) lb).trans c_b_4_w, (hb_A.cell (p := ⟨b2, 5, none⟩) lb).trans c_b_5_w⟩ ?r10_25
      case y10_25 => (intro W hW; (try dsimp only at hW); go_simp; try (with_reducible rfl))
      simp only [Act.put, List.setIfInBounds_toArray, List.set_cons_zero, List.set_cons_succ]
      refine takeN (i := 11) (v := ?v11_26) (d := (some 16)) rfl rfl (by kernel_rfl) (by kernel_rfl) (by kernel_rfl) (fun _ _ _ h => h) (Or.inl ⟨by rfl, ?y11_26⟩) ⟨(hb_A.cell (p := ⟨b, 2, none⟩) la).trans c_a_2_w, (hb_A.cell (p := ⟨b, 3, none⟩) la).trans c_a_3_w, (hb_A.cell (p := ⟨b, 4, none⟩) la).trans c_a_4_w, (hb_A.cell (p := ⟨b, 5, none⟩) la).trans c_a_5_w, (hb_A.cell (p := ⟨b2, 2, none⟩) lb).trans c_b_2_w, (hb_A.cell (p := ⟨b2, 3, none⟩) lb).trans c_b_3_w, (hb_A.cell (p := ⟨b2, 4, none⟩) lb).trans c_b_4_w, (hb_A.cell (p := ⟨b2, 5, none⟩) lb).trans c_b_5_w⟩ ?r11_26
      case y11_26 => (intro W hW; (try dsimp only at hW); go_simp; try (with_reducible rfl))
      simp only [Act.put, List.setIfInBounds_toArray, List.set_cons_zero, List.set_cons_succ]
      refine takeN (i := 12) (v := ?v12_27) (d := (some 17)) rfl rfl (by kernel_rfl) (by kernel_rfl) (by kernel_rfl) (fun _ _ _ h => h) (Or.inl ⟨by rfl, ?y12_27⟩) ⟨(hb_A.cell (p := ⟨b, 2, none⟩) la).trans c_a_2_w, (hb_A.cell (p := ⟨b, 3, none⟩) la).trans c_a_3_w, (hb_A.cell (p := ⟨b, 4, none⟩) la).trans c_a_4_w, (hb_A.cell (p := ⟨b, 5, none⟩) la).trans c_a_5_w, (hb_A.cell (p := ⟨b2, 2, none⟩) lb).trans c_b_2_w, (hb_A.cell (p := ⟨b2, 3, none⟩) lb).trans c_b_3_w, (hb_A.cell (p := ⟨b2, 4, none⟩) lb).trans c_b_4_w, (hb_A.cell (p := ⟨b2, 5, none⟩) lb).trans c_b_5_w⟩ ?r12_27
      case y12_27 => (intro W hW; (try dsimp only at hW); go_simp; try (with_reducible rfl))
      simp only [Act.put, List.setIfInBounds_toArray, List.set_cons_zero, List.set_cons_succ]
      refine takeN (i := 13) (v := ?v13_28) (d := (some 18)) rfl rfl (by kernel_rfl) (by kernel_rfl) (by kernel_rfl) (fun _ _ _ h => h) (Or.inl ⟨by rfl, ?y13_28⟩) ⟨(hb_A.cell (p := ⟨b, 2, none⟩) la).trans c_a_2_w, (hb_A.cell (p := ⟨b, 3, none⟩) la).trans c_a_3_w, (hb_A.cell (p := ⟨b, 4, none⟩) la).trans c_a_4_w, (hb_A.cell (p := ⟨b, 5, none⟩) la).trans c_a_5_w, (hb_A.cell (p := ⟨b2, 2, none⟩) lb).trans c_b_2_w, (hb_A.cell (p := ⟨b2, 3, none⟩) lb).trans c_b_3_w, (hb_A.cell (p := ⟨b2, 4, none⟩) lb).trans c_b_4_w, (hb_A.cell (p := ⟨b2, 5, none⟩) lb).trans c_b_5_w⟩ ?r13_28
      case y13_28 => (intro W hW; (try dsimp only at hW); go_simp; try (with_reducible rfl))
      simp only [Act.put, List.setIfInBounds_toArray, List.set_cons_zero, List.set_cons_succ]
      refine takeN (i := 14) (v := ?v14_29) (d := (some 19)) rfl rfl (by kernel_rfl) (by kernel_rfl) (by kernel_rfl) (fun _ _ _ h => h) (Or.inl ⟨by rfl, ?y14_29⟩) ⟨(hb_A.cell (p := ⟨b, 2, none⟩) la).trans c_a_2_w, (hb_A.cell (p := ⟨b, 3, none⟩) la).trans c_a_3_w, (hb_A.cell (p := ⟨b, 4, none⟩) la).trans c_a_4_w, (hb_A.cell (p := ⟨b, 5, none⟩) la).trans c_a_5_w, (hb_A.cell (p := ⟨b2, 2, none⟩) lb).trans c_b_2_w, (hb_A.cell (p := ⟨b2, 3, none⟩) lb).trans c_b_3_w, (hb_A.cell (p := ⟨b2, 4, none⟩) lb).trans c_b_4_w, (hb_A.cell (p := ⟨b2, 5, none⟩) lb).trans c_b_5_w⟩ ?r14_29
      case y14_29 => (intro W hW; (try dsimp only at hW); go_simp; try (with_reducible rfl))
      simp only [Act.put, List.setIfInBounds_toArray, List.set_cons_zero, List.set_cons_succ]
      refine takeN (i := 15) (v := ?v15_30) (d := (some 20)) rfl rfl (by kernel_rfl) (by kernel_rfl) (by kernel_rfl) (fun _ _ _ h => h) (Or.inl ⟨by rfl, ?y15_30⟩) ⟨(hb_A.cell (p := ⟨b, 2, none⟩) la).trans c_a_2_w, (hb_A.cell (p := ⟨b, 3, none⟩) la).trans c_a_3_w, (hb_A.cell (p := ⟨b, 4, none⟩) la).trans c_a_4_w, (hb_A.cell (p := ⟨b, 5, none⟩) la).trans c_a_5_w, (hb_A.cell (p := ⟨b2, 2, none⟩) lb).trans c_b_2_w, (hb_A.cell (p := ⟨b2, 3, none⟩) lb).trans c_b_3_w, (hb_A.cell (p := ⟨b2, 4, none⟩) lb).trans c_b_4_w, (hb_A.cell (p := ⟨b2, 5, none⟩) lb).trans c_b_5_w⟩ ?r15_30
      case y15_30 => (intro W hW; (try dsimp only at hW); go_simp; try (with_reducible rfl))
      simp only [Act.put, List.setIfInBounds_toArray, List.set_cons_zero, List.set_cons_succ]
      refine takeN (i := 16) (v := ?v16_31) (d := (some 21)) rfl rfl (by kernel_rfl) (by kernel_rfl) (by kernel_rfl) (fun _ _ _ h => h) (Or.inl ⟨by rfl, ?y16_31⟩) ⟨(hb_A.cell (p := ⟨b, 2, none⟩) la).trans c_a_2_w, (hb_A.cell (p := ⟨b, 3, none⟩) la).trans c_a_3_w, (hb_A.cell (p := ⟨b, 4, none⟩) la).trans c_a_4_w, (hb_A.cell (p := ⟨b, 5, none⟩) la).trans c_a_5_w, (hb_A.cell (p := ⟨b2, 2, none⟩) lb).trans c_b_2_w, (hb_A.cell (p := ⟨b2, 3, none⟩) lb).trans c_b_3_w, (hb_A.cell (p := ⟨b2, 4, none⟩) lb).trans c_b_4_w, (hb_A.cell (p := ⟨b2, 5, none⟩) lb).trans c_b_5_w⟩ ?r16_31
      case y16_31 => (intro W hW; (try dsimp only at hW); go_simp; try (with_reducible rfl))
      simp only [Act.put, List.setIfInBounds_toArray, List.set_cons_zero, List.set_cons_succ]
      refine takeN (i := 17) (v := ?v17_32) (d := (some 22)) rfl rfl (by kernel_rfl) (by kernel_rfl) (by kernel_rfl) (fun _ _ _ h => h) (Or.inl ⟨by rfl, ?y17_32⟩) ⟨(hb_A.cell (p := ⟨b, 2, none⟩) la).trans c_a_2_w, (hb_A.cell (p := ⟨b, 3, none⟩) la).trans c_a_3_w, (hb_A.cell (p := ⟨b, 4, none⟩) la).trans c_a_4_w, (hb_A.cell (p := ⟨b, 5, none⟩) la).trans c_a_5_w, (hb_A.cell (p := ⟨b2, 2, none⟩) lb).trans c_b_2_w, (hb_A.cell (p := ⟨b2, 3, none⟩) lb).trans c_b_3_w, (hb_A.cell (p := ⟨b2, 4, none⟩) lb).trans c_b_4_w, (hb_A.cell (p := ⟨b2, 5, none⟩) lb).trans c_b_5_w⟩ ?r17_32
      case y17_32 => (intro W hW; (try dsimp only at hW); go_simp; try (with_reducible rfl))
      simp only [Act.put, List.setIfInBounds_toArray, List.set_cons_zero, List.set_cons_succ]
      refine wpAnyH_ready (rs := [18]) (by kernel_rfl) (by simp) ?_
      refine AllReadyH.cons rfl (fun K hK => ?_) AllReadyH.nil
      go_simp
      refine (iEqFuncO_c (rOuts.from_ hb_A) (rOutsx.from_ hb_A) hm hm2).mono ?_
      rintro e w_U ⟨rfl, hd_U⟩
      have hb_U : Below w.heap.size w w_U := hb_A.trans (hd_U.mono hb_A.size)
      rw [HU.out]
      refine hK.out _ _ ⟨(hb_U.cell (p := ⟨b, 2, none⟩) la).trans c_a_2_w, (hb_U.cell (p := ⟨b, 3, none⟩) la).trans c_a_3_w, (hb_U.cell (p := ⟨b, 4, none⟩) la).trans c_a_4_w, (hb_U.cell (p := ⟨b, 5, none⟩) la).trans c_a_5_w, (hb_U.cell (p := ⟨b2, 2, none⟩) lb).trans c_b_2_w, (hb_U.cell (p := ⟨b2, 3, none⟩) lb).trans c_b_3_w, (hb_U.cell (p := ⟨b2, 4, none⟩) lb).trans c_b_4_w, (hb_U.cell (p := ⟨b2, 5, none⟩) lb).trans c_b_5_w⟩ (fun _ => ?_)
      clear hK K
      refine takeN (i := 19) (v := ?v19_33) (d := (some 24)) rfl rfl (by kernel_rfl) (by kernel_rfl) (by kernel_rfl) (fun _ _ _ h => h) (Or.inl ⟨by rfl, ?y19_33⟩) ⟨(hb_U.cell (p := ⟨b, 2, none⟩) la).trans c_a_2_w, (hb_U.cell (p := ⟨b, 3, none⟩) la).trans c_a_3_w, (hb_U.cell (p := ⟨b, 4, none⟩) la).trans c_a_4_w, (hb_U.cell (p := ⟨b, 5, none⟩) la).trans c_a_5_w, (hb_U.cell (p := ⟨b2, 2, none⟩) lb).trans c_b_2_w, (hb_U.cell (p := ⟨b2, 3, none⟩) lb).trans c_b_3_w, (hb_U.cell (p := ⟨b2, 4, none⟩) lb).trans c_b_4_w, (hb_U.cell (p := ⟨b2, 5, none⟩) lb).trans c_b_5_w⟩ ?r19_33
      case y19_33 => (intro W hW; (try dsimp only at hW); go_simp; try (with_reducible rfl))
      simp only [Act.put, List.setIfInBounds_toArray, List.set_cons_zero, List.set_cons_succ]
      refine takeN (i := 20) (v := ?v20_34) (d := (some 25)) rfl rfl (by kernel_rfl) (by kernel_rfl) (by kernel_rfl) (fun _ _ _ h => h) (Or.inl ⟨by rfl, ?y20_34⟩) ⟨(hb_U.cell (p := ⟨b, 2, none⟩) la).trans c_a_2_w, (hb_U.cell (p := ⟨b, 3, none⟩) la).trans c_a_3_w, (hb_U.cell (p := ⟨b, 4, none⟩) la).trans c_a_4_w, (hb_U.cell (p := ⟨b, 5, none⟩) la).trans c_a_5_w, (hb_U.cell (p := ⟨b2, 2, none⟩) lb).trans c_b_2_w, (hb_U.cell (p := ⟨b2, 3, none⟩) lb).trans c_b_3_w, (hb_U.cell (p := ⟨b2, 4, none⟩) lb).trans c_b_4_w, (hb_U.cell (p := ⟨b2, 5, none⟩) lb).trans c_b_5_w⟩ ?r20_34
      case y20_34 => (intro W hW; (try dsimp only at hW); go_simp; try (with_reducible rfl))
      simp only [Act.put, List.setIfInBounds_toArray, List.set_cons_zero, List.set_cons_succ]
      refine takeN (i := 21) (v := undef) (d := (some 26)) rfl rfl (by kernel_rfl) (by kernel_rfl) (by kernel_rfl) (fun _ _ _ h => h) (Or.inr ⟨by rfl, rfl⟩) ⟨(hb_U.cell (p := ⟨b, 2, none⟩) la).trans c_a_2_w, (hb_U.cell (p := ⟨b, 3, none⟩) la).trans c_a_3_w, (hb_U.cell (p := ⟨b, 4, none⟩) la).trans c_a_4_w, (hb_U.cell (p := ⟨b, 5, none⟩) la).trans c_a_5_w, (hb_U.cell (p := ⟨b2, 2, none⟩) lb).trans c_b_2_w, (hb_U.cell (p := ⟨b2, 3, none⟩) lb).trans c_b_3_w, (hb_U.cell (p := ⟨b2, 4, none⟩) lb).trans c_b_4_w, (hb_U.cell (p := ⟨b2, 5, none⟩) lb).trans c_b_5_w⟩ ?_
      simp only [Act.put, List.setIfInBounds_toArray, List.set_cons_zero, List.set_cons_succ]
      refine takeN (i := 22) (v := undef) (d := (some 27)) rfl rfl (by kernel_rfl) (by kernel_rfl) (by kernel_rfl) (fun _ _ _ h => h) (Or.inr ⟨by rfl, rfl⟩) ⟨(hb_U.cell (p := ⟨b, 2, none⟩) la).trans c_a_2_w, (hb_U.cell (p := ⟨b, 3, none⟩) la).trans c_a_3_w, (hb_U.cell (p := ⟨b, 4, none⟩) la).trans c_a_4_w, (hb_U.cell (p := ⟨b, 5, none⟩) la).trans c_a_5_w, (hb_U.cell (p := ⟨b2, 2, none⟩) lb).trans c_b_2_w, (hb_U.cell (p := ⟨b2, 3, none⟩) lb).trans c_b_3_w, (hb_U.cell (p := ⟨b2, 4, none⟩) lb).trans c_b_4_w, (hb_U.cell (p := ⟨b2, 5, none⟩) lb).trans c_b_5_w⟩ ?_
      simp only [Act.put, List.setIfInBounds_toArray, List.set_cons_zero, List.set_cons_succ]
      refine takeN (i := 23) (v := undef) (d := (some 28)) rfl rfl (by kernel_rfl) (by kernel_rfl) (by kernel_rfl) (fun _ _ _ h => h) (Or.inr ⟨by rfl, rfl⟩) ⟨(hb_U.cell (p := ⟨b, 2, none⟩) la).trans c_a_2_w, (hb_U.cell (p := ⟨b, 3, none⟩) la).trans c_a_3_w, (hb_U.cell (p := ⟨b, 4, none⟩) la).trans c_a_4_w, (hb_U.cell (p := ⟨b, 5, none⟩) la).trans c_a_5_w, (hb_U.cell (p := ⟨b2, 2, none⟩) lb).trans c_b_2_w, (hb_U.cell (p := ⟨b2, 3, none⟩) lb).trans c_b_3_w, (hb_U.cell (p := ⟨b2, 4, none⟩) lb).trans c_b_4_w, (hb_U.cell (p := ⟨b2, 5, none⟩) lb).trans c_b_5_w⟩ ?_
      simp only [Act.put, List.setIfInBounds_toArray, List.set_cons_zero, List.set_cons_succ]
      refine takeN (i := 24) (v := undef) (d := (some 29)) rfl rfl (by kernel_rfl) (by kernel_rfl) (by kernel_rfl) (fun _ _ _ h => h) (Or.inr ⟨by rfl, rfl⟩) ⟨(hb_U.cell (p := ⟨b, 2, none⟩) la).trans c_a_2_w, (hb_U.cell (p := ⟨b, 3, none⟩) la).trans c_a_3_w, (hb_U.cell (p := ⟨b, 4, none⟩) la).trans c_a_4_w, (hb_U.cell (p := ⟨b, 5, none⟩) la).trans c_a_5_w, (hb_U.cell (p := ⟨b2, 2, none⟩) lb).trans c_b_2_w, (hb_U.cell (p := ⟨b2, 3, none⟩) lb).trans c_b_3_w, (hb_U.cell (p := ⟨b2, 4, none⟩) lb).trans c_b_4_w, (hb_U.cell (p := ⟨b2, 5, none⟩) lb).trans c_b_5_w⟩ ?_
      simp only [Act.put, List.setIfInBounds_toArray, List.set_cons_zero, List.set_cons_succ]
      refine takeN (i := 25) (v := undef) (d := (some 30)) rfl rfl (by kernel_rfl) (by kernel_rfl) (by kernel_rfl) (fun _ _ _ h => h) (Or.inr ⟨by rfl, rfl⟩) ⟨(hb_U.cell (p := ⟨b, 2, none⟩) la).trans c_a_2_w, (hb_U.cell (p := ⟨b, 3, none⟩) la).trans c_a_3_w, (hb_U.cell (p := ⟨b, 4, none⟩) la).trans c_a_4_w, (hb_U.cell (p := ⟨b, 5, none⟩) la).trans c_a_5_w, (hb_U.cell (p := ⟨b2, 2, none⟩) lb).trans c_b_2_w, (hb_U.cell (p := ⟨b2, 3, none⟩) lb).trans c_b_3_w, (hb_U.cell (p := ⟨b2, 4, none⟩) lb).trans c_b_4_w, (hb_U.cell (p := ⟨b2, 5, none⟩) lb).trans c_b_5_w⟩ ?_
      simp only [Act.put, List.setIfInBounds_toArray, List.set_cons_zero, List.set_cons_succ]
      refine takeN (i := 26) (v := undef) (d := (some 31)) rfl rfl (by kernel_rfl) (by kernel_rfl) (by kernel_rfl) (fun _ _ _ h => h) (Or.inr ⟨by rfl, rfl⟩) ⟨(hb_U.cell (p := ⟨b, 2, none⟩) la).trans c_a_2_w, (hb_U.cell (p := ⟨b, 3, none⟩) la).trans c_a_3_w, (hb_U.cell (p := ⟨b, 4, none⟩) la).trans c_a_4_w, (hb_U.cell (p := ⟨b, 5, none⟩) la).trans c_a_5_w, (hb_U.cell (p := ⟨b2, 2, none⟩) lb).trans c_b_2_w, (hb_U.cell (p := ⟨b2, 3, none⟩) lb).trans c_b_3_w, (hb_U.cell (p := ⟨b2, 4, none⟩) lb).trans c_b_4_w, (hb_U.cell (p := ⟨b2, 5, none⟩) lb).trans c_b_5_w⟩ ?_
      simp only [Act.put, List.setIfInBounds_toArray, List.set_cons_zero, List.set_cons_succ]
      refine takeN (i := 27) (v := undef) (d := (some 32)) rfl rfl (by kernel_rfl) (by kernel_rfl) (by kernel_rfl) (fun _ _ _ h => h) (Or.inr ⟨by rfl, rfl⟩) ⟨(hb_U.cell (p := ⟨b, 2, none⟩) la).trans c_a_2_w, (hb_U.cell (p := ⟨b, 3, none⟩) la).trans c_a_3_w, (hb_U.cell (p := ⟨b, 4, none⟩) la).trans c_a_4_w, (hb_U.cell (p := ⟨b, 5, none⟩) la).trans c_a_5_w, (hb_U.cell (p := ⟨b2, 2, none⟩) lb).trans c_b_2_w, (hb_U.cell (p := ⟨b2, 3, none⟩) lb).trans c_b_3_w, (hb_U.cell (p := ⟨b2, 4, none⟩) lb).trans c_b_4_w, (hb_U.cell (p := ⟨b2, 5, none⟩) lb).trans c_b_5_w⟩ ?_
      simp only [Act.put, List.setIfInBounds_toArray, List.set_cons_zero, List.set_cons_succ]
      refine takeN (i := 28) (v := undef) (d := (some 33)) rfl rfl (by kernel_rfl) (by kernel_rfl) (by kernel_rfl) (fun _ _ _ h => h) (Or.inr ⟨by rfl, rfl⟩) ⟨(hb_U.cell (p := ⟨b, 2, none⟩) la).trans c_a_2_w, (hb_U.cell (p := ⟨b, 3, none⟩) la).trans c_a_3_w, (hb_U.cell (p := ⟨b, 4, none⟩) la).trans c_a_4_w, (hb_U.cell (p := ⟨b, 5, none⟩) la).trans c_a_5_w, (hb_U.cell (p := ⟨b2, 2, none⟩) lb).trans c_b_2_w, (hb_U.cell (p := ⟨b2, 3, none⟩) lb).trans c_b_3_w, (hb_U.cell (p := ⟨b2, 4, none⟩) lb).trans c_b_4_w, (hb_U.cell (p := ⟨b2, 5, none⟩) lb).trans c_b_5_w⟩ ?_
      simp only [Act.put, List.setIfInBounds_toArray, List.set_cons_zero, List.set_cons_succ]
      refine wpAnyH_ready (rs := [29]) (by kernel_rfl) (by simp) ?_
      refine AllReadyH.cons rfl (fun K hK => ?_) AllReadyH.nil
      go_simp
      refine hK.out _ _ ⟨(hb_U.cell (p := ⟨b, 2, none⟩) la).trans c_a_2_w, (hb_U.cell (p := ⟨b, 3, none⟩) la).trans c_a_3_w, (hb_U.cell (p := ⟨b, 4, none⟩) la).trans c_a_4_w, (hb_U.cell (p := ⟨b, 5, none⟩) la).trans c_a_5_w, (hb_U.cell (p := ⟨b2, 2, none⟩) lb).trans c_b_2_w, (hb_U.cell (p := ⟨b2, 3, none⟩) lb).trans c_b_3_w, (hb_U.cell (p := ⟨b2, 4, none⟩) lb).trans c_b_4_w, (hb_U.cell (p := ⟨b2, 5, none⟩) lb).trans c_b_5_w⟩ (fun _ => ?_)
      clear hK K
      (try simp only [Act.put, List.setIfInBounds_toArray, List.set_cons_zero, List.set_cons_succ])
      refine takeN (i := 30) (v := ?v30_35) (d := (some 35)) rfl rfl (by kernel_rfl) (by kernel_rfl) (by kernel_rfl) (fun _ _ _ h => h) (Or.inl ⟨by rfl, ?y30_35⟩) ⟨(hb_U.cell (p := ⟨b, 2, none⟩) la).trans c_a_2_w, (hb_U.cell (p := ⟨b, 3, none⟩) la).trans c_a_3_w, (hb_U.cell (p := ⟨b, 4, none⟩) la).trans c_a_4_w, (hb_U.cell (p := ⟨b, 5, none⟩) la).trans c_a_5_w, (hb_U.cell (p := ⟨b2, 2, none⟩) lb).trans c_b_2_w, (hb_U.cell (p := ⟨b2, 3, none⟩) lb).trans c_b_3_w, (hb_U.cell (p := ⟨b2, 4, none⟩) lb).trans c_b_4_w, (hb_U.cell (p := ⟨b2, 5, none⟩) lb).trans c_b_5_w⟩ ?r30_35
      case y30_35 => (intro W hW; (try dsimp only at hW); go_simp; try (with_reducible rfl))
      simp only [Act.put, List.setIfInBounds_toArray, List.set_cons_zero, List.set_cons_succ]
      refine takeN (i := 31) (v := ?v31_36) (d := (some 36)) rfl rfl (by kernel_rfl) (by kernel_rfl) (by kernel_rfl) (fun _ _ _ h => h) (Or.inl ⟨by rfl, ?y31_36⟩) ⟨(hb_U.cell (p := ⟨b, 2, none⟩) la).trans c_a_2_w, (hb_U.cell (p := ⟨b, 3, none⟩) la).trans c_a_3_w, (hb_U.cell (p := ⟨b, 4, none⟩) la).trans c_a_4_w, (hb_U.cell (p := ⟨b, 5, none⟩) la).trans c_a_5_w, (hb_U.cell (p := ⟨b2, 2, none⟩) lb).trans c_b_2_w, (hb_U.cell (p := ⟨b2, 3, none⟩) lb).trans c_b_3_w, (hb_U.cell (p := ⟨b2, 4, none⟩) lb).trans c_b_4_w, (hb_U.cell (p := ⟨b2, 5, none⟩) lb).trans c_b_5_w⟩ ?r31_36
      case y31_36 => (intro W hW; (try dsimp only at hW); go_simp; try (with_reducible rfl))
      simp only [Act.put, List.setIfInBounds_toArray, List.set_cons_zero, List.set_cons_succ]
      refine takeN (i := 32) (v := undef) (d := (some 37)) rfl rfl (by kernel_rfl) (by kernel_rfl) (by kernel_rfl) (fun _ _ _ h => h) (Or.inr ⟨by rfl, rfl⟩) ⟨(hb_U.cell (p := ⟨b, 2, none⟩) la).trans c_a_2_w, (hb_U.cell (p := ⟨b, 3, none⟩) la).trans c_a_3_w, (hb_U.cell (p := ⟨b, 4, none⟩) la).trans c_a_4_w, (hb_U.cell (p := ⟨b, 5, none⟩) la).trans c_a_5_w, (hb_U.cell (p := ⟨b2, 2, none⟩) lb).trans c_b_2_w, (hb_U.cell (p := ⟨b2, 3, none⟩) lb).trans c_b_3_w, (hb_U.cell (p := ⟨b2, 4, none⟩) lb).trans c_b_4_w, (hb_U.cell (p := ⟨b2, 5, none⟩) lb).trans c_b_5_w⟩ ?_
      simp only [Act.put, List.setIfInBounds_toArray, List.set_cons_zero, List.set_cons_succ]
      refine takeN (i := 33) (v := undef) (d := (some 38)) rfl rfl (by kernel_rfl) (by kernel_rfl) (by kernel_rfl) (fun _ _ _ h => h) (Or.inr ⟨by rfl, rfl⟩) ⟨(hb_U.cell (p := ⟨b, 2, none⟩) la).trans c_a_2_w, (hb_U.cell (p := ⟨b, 3, none⟩) la).trans c_a_3_w, (hb_U.cell (p := ⟨b, 4, none⟩) la).trans c_a_4_w, (hb_U.cell (p := ⟨b, 5, none⟩) la).trans c_a_5_w, (hb_U.cell (p := ⟨b2, 2, none⟩) lb).trans c_b_2_w, (hb_U.cell (p := ⟨b2, 3, none⟩) lb).trans c_b_3_w, (hb_U.cell (p := ⟨b2, 4, none⟩) lb).trans c_b_4_w, (hb_U.cell (p := ⟨b2, 5, none⟩) lb).trans c_b_5_w⟩ ?_
      simp only [Act.put, List.setIfInBounds_toArray, List.set_cons_zero, List.set_cons_succ]
      refine takeN (i := 34) (v := undef) (d := (some 39)) rfl rfl (by kernel_rfl) (by kernel_rfl) (by kernel_rfl) (fun _ _ _ h => h) (Or.inr ⟨by rfl, rfl⟩) ⟨(hb_U.cell (p := ⟨b, 2, none⟩) la).trans c_a_2_w, (hb_U.cell (p := ⟨b, 3, none⟩) la).trans c_a_3_w, (hb_U.cell (p := ⟨b, 4, none⟩) la).trans c_a_4_w, (hb_U.cell (p := ⟨b, 5, none⟩) la).trans c_a_5_w, (hb_U.cell (p := ⟨b2, 2, none⟩) lb).trans c_b_2_w, (hb_U.cell (p := ⟨b2, 3, none⟩) lb).trans c_b_3_w, (hb_U.cell (p := ⟨b2, 4, none⟩) lb).trans c_b_4_w, (hb_U.cell (p := ⟨b2, 5, none⟩) lb).trans c_b_5_w⟩ ?_
      simp only [Act.put, List.setIfInBounds_toArray, List.set_cons_zero, List.set_cons_succ]
      refine takeN (i := 35) (v := undef) (d := (some 40)) rfl rfl (by kernel_rfl) (by kernel_rfl) (by kernel_rfl) (fun _ _ _ h => h) (Or.inr ⟨by rfl, rfl⟩) ⟨(hb_U.cell (p := ⟨b, 2, none⟩) la).trans c_a_2_w, (hb_U.cell (p := ⟨b, 3, none⟩) la).trans c_a_3_w, (hb_U.cell (p := ⟨b, 4, none⟩) la).trans c_a_4_w, (hb_U.cell (p := ⟨b, 5, none⟩) la).trans c_a_5_w, (hb_U.cell (p := ⟨b2, 2, none⟩) lb).trans c_b_2_w, (hb_U.cell (p := ⟨b2, 3, none⟩) lb).trans c_b_3_w, (hb_U.cell (p := ⟨b2, 4, none⟩) lb).trans c_b_4_w, (hb_U.cell (p := ⟨b2, 5, none⟩) lb).trans c_b_5_w⟩ ?_
      simp only [Act.put, List.setIfInBounds_toArray, List.set_cons_zero, List.set_cons_succ]
      refine takeN (i := 36) (v := undef) (d := (some 41)) rfl rfl (by kernel_rfl) (by kernel_rfl) (by kernel_rfl) (fun _ _ _ h => h) (Or.inr ⟨by rfl, rfl⟩) ⟨(hb_U.cell (p := ⟨b, 2, none⟩) la).trans c_a_2_w, (hb_U.cell (p := ⟨b, 3, none⟩) la).trans c_a_3_w, (hb_U.cell (p := ⟨b, 4, none⟩) la).trans c_a_4_w, (hb_U.cell (p := ⟨b, 5, none⟩) la).trans c_a_5_w, (hb_U.cell (p := ⟨b2, 2, none⟩) lb).trans c_b_2_w, (hb_U.cell (p := ⟨b2, 3, none⟩) lb).trans c_b_3_w, (hb_U.cell (p := ⟨b2, 4, none⟩) lb).trans c_b_4_w, (hb_U.cell (p := ⟨b2, 5, none⟩) lb).trans c_b_5_w⟩ ?_
      simp only [Act.put, List.setIfInBounds_toArray, List.set_cons_zero, List.set_cons_succ]
      refine takeN (i := 37) (v := undef) (d := (some 42)) rfl rfl (by kernel_rfl) (by kernel_rfl) (by kernel_rfl) (fun _ _ _ h => h) (Or.inr ⟨by rfl, rfl⟩) ⟨(hb_U.cell (p := ⟨b, 2, none⟩) la).trans c_a_2_w, (hb_U.cell (p := ⟨b, 3, none⟩) la).trans c_a_3_w, (hb_U.cell (p := ⟨b, 4, none⟩) la).trans c_a_4_w, (hb_U.cell (p := ⟨b, 5, none⟩) la).trans c_a_5_w, (hb_U.cell (p := ⟨b2, 2, none⟩) lb).trans c_b_2_w, (hb_U.cell (p := ⟨b2, 3, none⟩) lb).trans c_b_3_w, (hb_U.cell (p := ⟨b2, 4, none⟩) lb).trans c_b_4_w, (hb_U.cell (p := ⟨b2, 5, none⟩) lb).trans c_b_5_w⟩ ?_
      simp only [Act.put, List.setIfInBounds_toArray, List.set_cons_zero, List.set_cons_succ]
      refine takeN (i := 38) (v := undef) (d := (some 43)) rfl rfl (by kernel_rfl) (by kernel_rfl) (by kernel_rfl) (fun _ _ _ h => h) (Or.inr ⟨by rfl, rfl⟩) ⟨(hb_U.cell (p := ⟨b, 2, none⟩) la).trans c_a_2_w, (hb_U.cell (p := ⟨b, 3, none⟩) la).trans c_a_3_w, (hb_U.cell (p := ⟨b, 4, none⟩) la).trans c_a_4_w, (hb_U.cell (p := ⟨b, 5, none⟩) la).trans c_a_5_w, (hb_U.cell (p := ⟨b2, 2, none⟩) lb).trans c_b_2_w, (hb_U.cell (p := ⟨b2, 3, none⟩) lb).trans c_b_3_w, (hb_U.cell (p := ⟨b2, 4, none⟩) lb).trans c_b_4_w, (hb_U.cell (p := ⟨b2, 5, none⟩) lb).trans c_b_5_w⟩ ?_
      simp only [Act.put, List.setIfInBounds_toArray, List.set_cons_zero, List.set_cons_succ]
      refine takeN (i := 39) (v := undef) (d := (some 44)) rfl rfl (by kernel_rfl) (by kernel_rfl) (by kernel_rfl) (fun _ _ _ h => h) (Or.inr ⟨by rfl, rfl⟩) ⟨(hb_U.cell (p := ⟨b, 2, none⟩) la).trans c_a_2_w, (hb_U.cell (p := ⟨b, 3, none⟩) la).trans c_a_3_w, (hb_U.cell (p := ⟨b, 4, none⟩) la).trans c_a_4_w, (hb_U.cell (p := ⟨b, 5, none⟩) la).trans c_a_5_w, (hb_U.cell (p := ⟨b2, 2, none⟩) lb).trans c_b_2_w, (hb_U.cell (p := ⟨b2, 3, none⟩) lb).trans c_b_3_w, (hb_U.cell (p := ⟨b2, 4, none⟩) lb).trans c_b_4_w, (hb_U.cell (p := ⟨b2, 5, none⟩) lb).trans c_b_5_w⟩ ?_
      simp only [Act.put, List.setIfInBounds_toArray, List.set_cons_zero, List.set_cons_succ]
      refine wpAnyH_ready (rs := [40]) (by kernel_rfl) (by simp) ?_
      refine AllReadyH.cons rfl (fun K hK => ?_) AllReadyH.nil
      go_simp
      refine hK.out _ _ ⟨(hb_U.cell (p := ⟨b, 2, none⟩) la).trans c_a_2_w, (hb_U.cell (p := ⟨b, 3, none⟩) la).trans c_a_3_w, (hb_U.cell (p := ⟨b, 4, none⟩) la).trans c_a_4_w, (hb_U.cell (p := ⟨b, 5, none⟩) la).trans c_a_5_w, (hb_U.cell (p := ⟨b2, 2, none⟩) lb).trans c_b_2_w, (hb_U.cell (p := ⟨b2, 3, none⟩) lb).trans c_b_3_w, (hb_U.cell (p := ⟨b2, 4, none⟩) lb).trans c_b_4_w, (hb_U.cell (p := ⟨b2, 5, none⟩) lb).trans c_b_5_w⟩ (fun _ => ?_)
      clear hK K
      (try simp only [Act.put, List.setIfInBounds_toArray, List.set_cons_zero, List.set_cons_succ])
      refine takeN (i := 41) (v := ?v41_37) (d := (some 46)) rfl rfl (by kernel_rfl) (by kernel_rfl) (by kernel_rfl) (fun _ _ _ h => h) (Or.inl ⟨by rfl, ?y41_37⟩) ⟨(hb_U.cell (p := ⟨b, 2, none⟩) la).trans c_a_2_w, (hb_U.cell (p := ⟨b, 3, none⟩) la).trans c_a_3_w, (hb_U.cell (p := ⟨b, 4, none⟩) la).trans c_a_4_w, (hb_U.cell (p := ⟨b, 5, none⟩) la).trans c_a_5_w, (hb_U.cell (p := ⟨b2, 2, none⟩) lb).trans c_b_2_w, (hb_U.cell (p := ⟨b2, 3, none⟩) lb).trans c_b_3_w, (hb_U.cell (p := ⟨b2, 4, none⟩) lb).trans c_b_4_w, (hb_U.cell (p := ⟨b2, 5, none⟩) lb).trans c_b_5_w⟩ ?r41_37
      case y41_37 => (intro W hW; (try dsimp only at hW); go_simp; try (with_reducible rfl))
      simp only [Act.put, List.setIfInBounds_toArray, List.set_cons_zero, List.set_cons_succ]
      refine takeN (i := 42) (v := ?v42_38) (d := (some 4)) rfl rfl (by kernel_rfl) (by kernel_rfl) (by kernel_rfl) (fun _ _ _ h => h) (Or.inl ⟨by rfl, ?y42_38⟩) ⟨(hb_U.cell (p := ⟨b, 2, none⟩) la).trans c_a_2_w, (hb_U.cell (p := ⟨b, 3, none⟩) la).trans c_a_3_w, (hb_U.cell (p := ⟨b, 4, none⟩) la).trans c_a_4_w, (hb_U.cell (p := ⟨b, 5, none⟩) la).trans c_a_5_w, (hb_U.cell (p := ⟨b2, 2, none⟩) lb).trans c_b_2_w, (hb_U.cell (p := ⟨b2, 3, none⟩) lb).trans c_b_3_w, (hb_U.cell (p := ⟨b2, 4, none⟩) lb).trans c_b_4_w, (hb_U.cell (p := ⟨b2, 5, none⟩) lb).trans c_b_5_w⟩ ?r42_38
      case y42_38 => (intro W hW; (try dsimp only at hW); go_simp; try (with_reducible rfl))
      simp only [Act.put, List.setIfInBounds_toArray, List.set_cons_zero, List.set_cons_succ]
      refine wpAnyH_done (by kernel_rfl) ?_ _
      go_wp2
      go_ret
      exact ⟨ret_eq (by rw [HO.out]; rfl), B0.trans hb_U⟩
    case true =>
      cases zI
      case false =>
        have HO : Hid (listsB d g = false) := by show _ = _; rw [HE.out]; rfl
        go_enter Try.func64, Try.ntmps64
        go_wp2_with fail
        refine wp_region_held (S := fun w' => w'.cell? ⟨b, 2, none⟩ = some (.slice AAccts d.Accts.length cAccts) ∧ w'.cell? ⟨b, 3, none⟩ = some (.slice AOuts d.Outs.length cOuts) ∧ w'.cell? ⟨b, 4, none⟩ = some (.slice AIns d.Ins.length cIns) ∧ w'.cell? ⟨b, 5, none⟩ = some (.slice AAccs d.Accs.length cAccs) ∧ w'.cell? ⟨b2, 2, none⟩ = some (.slice AAcctsx g.Accts.length cAcctsx) ∧ w'.cell? ⟨b2, 3, none⟩ = some (.slice AOutsx g.Outs.length cOutsx) ∧ w'.cell? ⟨b2, 4, none⟩ = some (.slice AInsx g.Ins.length cInsx) ∧ w'.cell? ⟨b2, 5, none⟩ = some (.slice AAccsx g.Accs.length cAccsx)) (by kernel_rfl) ?_
        refine takeN (i := 0) (v := ?v0_39) (d := (some 5)) rfl rfl (by kernel_rfl) (by kernel_rfl) (by kernel_rfl) (fun _ _ _ h => h) (Or.inl ⟨by rfl, ?y0_39⟩) ⟨c_a_2_w, c_a_3_w, c_a_4_w, c_a_5_w, c_b_2_w, c_b_3_w, c_b_4_w, c_b_5_w⟩ ?r0_39
        case y0_39 => (intro W hW; (try dsimp only at hW); go_simp; try (with_reducible rfl))
        simp only [Act.put, List.setIfInBounds_toArray, List.set_cons_zero, List.set_cons_succ]
        refine takeN (i := 1) (v := ?v1_40) (d := (some 6)) rfl rfl (by kernel_rfl) (by kernel_rfl) (by kernel_rfl) (fun _ _ _ h => h) (Or.inl ⟨by rfl, ?y1_40⟩) ⟨c_a_2_w, c_a_3_w, c_a_4_w, c_a_5_w, c_b_2_w, c_b_3_w, c_b_4_w, c_b_5_w⟩ ?r1_40
        case y1_40 => (intro W hW; (try dsimp only at hW); go_simp; try (with_reducible rfl))
        simp only [Act.put, List.setIfInBounds_toArray, List.set_cons_zero, List.set_cons_succ]
        refine takeN (i := 2) (v := ?v2_41) (d := (some 7)) rfl rfl (by kernel_rfl) (by kernel_rfl) (by kernel_rfl) (fun _ _ _ h => h) (Or.inl ⟨by rfl, ?y2_41⟩) ⟨c_a_2_w, c_a_3_w, c_a_4_w, c_a_5_w, c_b_2_w, c_b_3_w, c_b_4_w, c_b_5_w⟩ ?r2_41
        case y2_41 => (intro W hW; (try dsimp only at hW); go_simp; try (with_reducible rfl))
        simp only [Act.put, List.setIfInBounds_toArray, List.set_cons_zero, List.set_cons_succ]
        refine takeN (i := 3) (v := ?v3_42) (d := (some 8)) rfl rfl (by kernel_rfl) (by kernel_rfl) (by kernel_rfl) (fun _ _ _ h => h) (Or.inl ⟨by rfl, ?y3_42⟩) ⟨c_a_2_w, c_a_3_w, c_a_4_w, c_a_5_w, c_b_2_w, c_b_3_w, c_b_4_w, c_b_5_w⟩ ?r3_42
        case y3_42 => (intro W hW; (try dsimp only at hW); go_simp; try (with_reducible rfl))
        simp only [Act.put, List.setIfInBounds_toArray, List.set_cons_zero, List.set_cons_succ]
        refine takeN (i := 4) (v := ?v4_43) (d := (some 9)) rfl rfl (by kernel_rfl) (by kernel_rfl) (by kernel_rfl) (fun _ _ _ h => h) (Or.inl ⟨by rfl, ?y4_43⟩) ⟨c_a_2_w, c_a_3_w, c_a_4_w, c_a_5_w, c_b_2_w, c_b_3_w, c_b_4_w, c_b_5_w⟩ ?r4_43
        case y4_43 => (intro W hW; (try dsimp only at hW); go_simp; try (with_reducible rfl))
        simp only [Act.put, List.setIfInBounds_toArray, List.set_cons_zero, List.set_cons_succ]
        refine takeN (i := 5) (v := ?v5_44) (d := (some 10)) rfl rfl (by kernel_rfl) (by kernel_rfl) (by kernel_rfl) (fun _ _ _ h => h) (Or.inl ⟨by rfl, ?y5_44⟩) ⟨c_a_2_w, c_a_3_w, c_a_4_w, c_a_5_w, c_b_2_w, c_b_3_w, c_b_4_w, c_b_5_w⟩ ?r5_44
        case y5_44 => (intro W hW; (try dsimp only at hW); go_simp; try (with_reducible rfl))
        simp only [Act.put, List.setIfInBounds_toArray, List.set_cons_zero, List.set_cons_succ]
        refine takeN (i := 6) (v := ?v6_45) (d := (some 11)) rfl rfl (by kernel_rfl) (by kernel_rfl) (by kernel_rfl) (fun _ _ _ h => h) (Or.inl ⟨by rfl, ?y6_45⟩) ⟨c_a_2_w, c_a_3_w, c_a_4_w, c_a_5_w, c_b_2_w, c_b_3_w, c_b_4_w, c_b_5_w⟩ ?r6_45
        case y6_45 => (intro W hW; (try dsimp only at hW); go_simp; try (with_reducible rfl))
        simp only [Act.put, List.setIfInBounds_toArray, List.set_cons_zero, List.set_cons_succ]
        refine takeN (i := 7) (v := ?v7_46) (d := (some 12)) rfl rfl (by kernel_rfl) (by kernel_rfl) (by kernel_rfl) (fun _ _ _ h => h) (Or.inl ⟨by rfl, ?y7_46⟩) ⟨c_a_2_w, c_a_3_w, c_a_4_w, c_a_5_w, c_b_2_w, c_b_3_w, c_b_4_w, c_b_5_w⟩ ?r7_46
        case y7_46 => (intro W hW; (try dsimp only at hW); go_simp; try (with_reducible rfl))
        simp only [Act.put, List.setIfInBounds_toArray, List.set_cons_zero, List.set_cons_succ]
        refine wpAnyH_ready (rs := [8]) (by kernel_rfl) (by simp) ?_
        refine AllReadyH.cons rfl (fun K hK => ?_) AllReadyH.nil
        go_simp
        refine (iEqFuncA_c (rAccts.from_ ((Below.refl w.heap.size w).drew)) (rAcctsx.from_ ((Below.refl w.heap.size w).drew))).mono ?_
        rintro e w_A ⟨rfl, hd_A⟩
        have hb_A : Below w.heap.size w w_A := (Below.refl w.heap.size w).drew.trans hd_A
        rw [HA.out]
        refine hK.out _ _ ⟨(hb_A.cell (p := ⟨b, 2, none⟩) la).trans c_a_2_w, (hb_A.cell (p := ⟨b, 3, none⟩) la).trans c_a_3_w, (hb_A.cell (p := ⟨b, 4, none⟩) la).trans c_a_4_w, (hb_A.cell (p := ⟨b, 5, none⟩) la).trans c_a_5_w, (hb_A.cell (p := ⟨b2, 2, none⟩) lb).trans c_b_2_w, (hb_A.cell (p := ⟨b2, 3, none⟩) lb).trans c_b_3_w, (hb_A.cell (p := ⟨b2, 4, none⟩) lb).trans c_b_4_w, (hb_A.cell (p := ⟨b2, 5, none⟩) lb).trans c_b_5_w⟩ (fun _ => ?_)
        clear hK K
        refine takeN (i := 9) (v := ?v9_47) (d := (some 14)) rfl rfl (by kernel_rfl) (by kernel_rfl) (by kernel_rfl) (fun _ _ _ h => h) (Or.inl ⟨by rfl, ?y9_47⟩) ⟨(hb_A.cell (p := ⟨b, 2, none⟩) la).trans c_a_2_w, (hb_A.cell (p := ⟨b, 3, none⟩) la).trans c_a_3_w, (hb_A.cell (p := ⟨b, 4, none⟩) la).trans c_a_4_w, (hb_A.cell (p := ⟨b, 5, none⟩) la).trans c_a_5_w, (hb_A.cell (p := ⟨b2, 2, none⟩) lb).trans c_b_2_w, (hb_A.cell (p := ⟨b2, 3, none⟩) lb).trans c_b_3_w, (hb_A.cell (p := ⟨b2, 4, none⟩) lb).trans c_b_4_w, (hb_A.cell (p := ⟨b2, 5, none⟩) lb).trans c_b_5_w⟩ ?r9_47
        case y9_47 => (intro W hW; (try dsimp only at hW); go_simp; try (with_reducible rfl))
        simp only [Act.put, List.setIfInBounds_toArray, List.set_cons_zero, List.set_cons_succ]
        refine takeN (i := 10) (v := ?v10_48) (d := (some 15)) rfl rfl (by kernel_rfl) (by kernel_rfl) (by kernel_rfl) (fun _ _ _ h => h) (Or.inl ⟨by rfl, ?y10_48⟩) ⟨(hb_A.cell (p := ⟨b, 2, none⟩) la).trans c_a_2_w, (hb_A.cell (p := ⟨b, 3, none⟩) la).trans c_a_3_w, (hb_A.cell (p := ⟨b, 4, none⟩) la).trans c_a_4_w, (hb_A.cell (p := ⟨b, 5, none⟩) la).trans c_a_5_w, (hb_A.cell (p := ⟨b2, 2, none⟩) lb).trans c_b_2_w, (hb_A.cell (p := ⟨b2, 3, none⟩) lb).trans c_b_3_w, (hb_A.cell (p := ⟨b2, 4, none⟩) lb).trans c_b_4_w, (hb_A.cell (p := ⟨b2, 5, none⟩) lb).trans c_b_5_w⟩ ?r10_48
        case y10_48 => (intro W hW; (try dsimp only at hW); go_simp; try (with_reducible rfl))
        simp only [Act.put, List.setIfInBounds_toArray, List.set_cons_zero, List.set_cons_succ]
        refine takeN (i := 11) (v := ?v11_49) (d := (some 16)) rfl rfl (by kernel_rfl) (by kernel_rfl) (by kernel_rfl) (fun _ _ _ h => h) (Or.inl ⟨by rfl, ?y11_49⟩) ⟨(hb_A.cell (p := ⟨b, 2, none⟩) la).trans c_a_2_w, (hb_A.cell (p := ⟨b, 3, none⟩) la).trans c_a_3_w, (hb_A.cell (p := ⟨b, 4, none⟩) la).trans c_a_4_w, (hb_A.cell (p := ⟨b, 5, none⟩) la).trans c_a_5_w, (hb_A.cell (p := ⟨b2, 2, none⟩) lb).trans c_b_2_w, (hb_A.cell (p := ⟨b2, 3, none⟩) lb).trans c_b_3_w, (hb_A.cell (p := ⟨b2, 4, none⟩) lb).trans c_b_4_w, (hb_A.cell (p := ⟨b2, 5, none⟩) lb).trans c_b_5_w⟩ ?r11_49
        case y11_49 => (intro W hW; (try dsimp only at hW); go_simp; try (with_reducible rfl))
        simp only [Act.put, List.setIfInBounds_toArray, List.set_cons_zero, List.set_cons_succ]
        refine takeN (i := 12) (v := ?v12_50) (d := (some 17)) rfl rfl (by kernel_rfl) (by kernel_rfl) (by kernel_rfl) (fun _ _ _ h => h) (Or.inl ⟨by rfl, ?y12_50⟩) ⟨(hb_A.cell (p := ⟨b, 2, none⟩) la).trans c_a_2_w, (hb_A.cell (p := ⟨b, 3, none⟩) la).trans c_a_3_w, (hb_A.cell (p := ⟨b, 4, none⟩) la).trans c_a_4_w, (hb_A.cell (p := ⟨b, 5, none⟩) la).trans c_a_5_w, (hb_A.cell (p := ⟨b2, 2, none⟩) lb).trans c_b_2_w, (hb_A.cell (p := ⟨b2, 3, none⟩) lb).trans c_b_3_w, (hb_A.cell (p := ⟨b2, 4, none⟩) lb).trans c_b_4_w, (hb_A.cell (p := ⟨b2, 5, none⟩) lb).trans c_b_5_w⟩ ?r12_50
        case y12_50 => (intro W hW; (try dsimp only at hW); go_simp; try (with_reducible rfl))
        simp only [Act.put, List.setIfInBounds_toArray, List.set_cons_zero, List.set_cons_succ]
        refine takeN (i := 13) (v := ?v13_51) (d := (some 18)) rfl rfl (by kernel_rfl) (by kernel_rfl) (by kernel_rfl) (fun _ _ _ h => h) (Or.inl ⟨by rfl, ?y13_51⟩) ⟨(hb_A.cell (p := ⟨b, 2, none⟩) la).trans c_a_2_w, (hb_A.cell (p := ⟨b, 3, none⟩) la).trans c_a_3_w, (hb_A.cell (p := ⟨b, 4, none⟩) la).trans c_a_4_w, (hb_A.cell (p := ⟨b, 5, none⟩) la).trans c_a_5_w, (hb_A.cell (p := ⟨b2, 2, none⟩) lb).trans c_b_2_w, (hb_A.cell (p := ⟨b2, 3, none⟩) lb).trans c_b_3_w, (hb_A.cell (p := ⟨b2, 4, none⟩) lb).trans c_b_4_w, (hb_A.cell (p := ⟨b2, 5, none⟩) lb).trans c_b_5_w⟩ ?r13_51
        case y13_51 => (intro W hW; (try dsimp only at hW); go_simp; try (with_reducible rfl))
        simp only [Act.put, List.setIfInBounds_toArray, List.set_cons_zero, List.set_cons_succ]
        refine takeN (i := 14) (v := ?v14_52) (d := (some 19)) rfl rfl (by kernel_rfl) (by kernel_rfl) (by kernel_rfl) (fun _ _ _ h => h) (Or.inl ⟨by rfl, ?y14_52⟩) ⟨(hb_A.cell (p := ⟨b, 2, none⟩) la).trans c_a_2_w, (hb_A.cell (p := ⟨b, 3, none⟩) la).trans c_a_3_w, (hb_A.cell (p := ⟨b, 4, none⟩) la).trans c_a_4_w, (hb_A.cell (p := ⟨b, 5, none⟩) la).trans c_a_5_w, (hb_A.cell (p := ⟨b2, 2, none⟩) lb).trans c_b_2_w, (hb_A.cell (p := ⟨b2, 3, none⟩) lb).trans c_b_3_w, (hb_A.cell (p := ⟨b2, 4, none⟩) lb).trans c_b_4_w, (hb_A.cell (p := ⟨b2, 5, none⟩) lb).trans c_b_5_w⟩ ?r14_52
        case y14_52 => (intro W hW; (try dsimp only at hW); go_simp; try (with_reducible rfl))
        simp only [Act.put, List.setIfInBounds_toArray, List.set_cons_zero, List.set_cons_succ]
        refine takeN (i := 15) (v := ?v15_53) (d := (some 20)) rfl rfl (by kernel_rfl) (by kernel_rfl) (by kernel_rfl) (fun _ _ _ h => h) (Or.inl ⟨by rfl, ?y15_53⟩) ⟨(hb_A.cell (p := ⟨b, 2, none⟩) la).trans c_a_2_w, (hb_A.cell (p := ⟨b, 3, none⟩) la).trans c_a_3_w, (hb_A.cell (p := ⟨b, 4, none⟩) la).trans c_a_4_w, (hb_A.cell (p := ⟨b, 5, none⟩) la).trans c_a_5_w, (hb_A.cell (p := ⟨b2, 2, none⟩) lb).trans c_b_2_w, (hb_A.cell (p := ⟨b2, 3, none⟩) lb).trans c_b_3_w, (hb_A.cell (p := ⟨b2, 4, none⟩) lb).trans c_b_4_w, (hb_A.cell (p := ⟨b2, 5, none⟩) lb).trans c_b_5_w⟩ ?r15_53
        case y15_53 => (intro W hW; (try dsimp only at hW); go_simp; try (with_reducible rfl))
        simp only [Act.put, List.setIfInBounds_toArray, List.set_cons_zero, List.set_cons_succ]
        refine takeN (i := 16) (v := ?v16_54) (d := (some 21)) rfl rfl (by kernel_rfl) (by kernel_rfl) (by kernel_rfl) (fun _ _ _ h => h) (Or.inl ⟨by rfl, ?y16_54⟩) ⟨(hb_A.cell (p := ⟨b, 2, none⟩) la).trans c_a_2_w, (hb_A.cell (p := ⟨b, 3, none⟩) la).trans c_a_3_w, (hb_A.cell (p := ⟨b, 4, none⟩) la).trans c_a_4_w, (hb_A.cell (p := ⟨b, 5, none⟩) la).trans c_a_5_w, (hb_A.cell (p := ⟨b2, 2, none⟩) lb).trans c_b_2_w, (hb_A.cell (p := ⟨b2, 3, none⟩) lb).trans c_b_3_w, (hb_A.cell (p := ⟨b2, 4, none⟩) lb).trans c_b_4_w, (hb_A.cell (p := ⟨b2, 5, none⟩) lb).trans c_b_5_w⟩ ?r16_54
        case y16_54 => (intro W hW; (try dsimp only at hW); go_simp; try (with_reducible rfl))
        simp only [Act.put, List.setIfInBounds_toArray, List.set_cons_zero, List.set_cons_succ]
        refine takeN (i := 17) (v := ?v17_55) (d := (some 22)) rfl rfl (by kernel_rfl) (by kernel_rfl) (by kernel_rfl) (fun _ _ _ h => h) (Or.inl ⟨by rfl, ?y17_55⟩) ⟨(hb_A.cell (p := ⟨b, 2, none⟩) la).trans c_a_2_w, (hb_A.cell (p := ⟨b, 3, none⟩) la).trans c_a_3_w, (hb_A.cell (p := ⟨b, 4, none⟩) la).trans c_a_4_w, (hb_A.cell (p := ⟨b, 5, none⟩) la).trans c_a_5_w, (hb_A.cell (p := ⟨b2, 2, none⟩) lb).trans c_b_2_w, (hb_A.cell (p := ⟨b2, 3, none⟩) lb).trans c_b_3_w, (hb_A.cell (p := ⟨b2, 4, none⟩) lb).trans c_b_4_w, (hb_A.cell (p := ⟨b2, 5, none⟩) lb).trans c_b_5_w⟩ ?r17_55
        case y17_55 => (intro W hW; (try dsimp only at hW); go_simp; try (with_reducible rfl))
        simp only [Act.put, List.setIfInBounds_toArray, List.set_cons_zero, List.set_cons_succ]
        refine wpAnyH_ready (rs := [18]) (by kernel_rfl) (by simp) ?_
        refine AllReadyH.cons rfl (fun K hK => ?_) AllReadyH.nil
        go_simp
        refine (iEqFuncO_c (rOuts.from_ hb_A) (rOutsx.from_ hb_A) hm hm2).mono ?_
        rintro e w_U ⟨rfl, hd_U⟩
        have hb_U : Below w.heap.size w w_U := hb_A.trans (hd_U.mono hb_A.size)
        rw [HU.out]
        refine hK.out _ _ ⟨(hb_U.cell (p := ⟨b, 2, none⟩) la).trans c_a_2_w, (hb_U.cell (p := ⟨b, 3, none⟩) la).trans c_a_3_w, (hb_U.cell (p := ⟨b, 4, none⟩) la).trans c_a_4_w, (hb_U.cell (p := ⟨b, 5, none⟩) la).trans c_a_5_w, (hb_U.cell (p := ⟨b2, 2, none⟩) lb).trans c_b_2_w, (hb_U.cell (p := ⟨b2, 3, none⟩) lb).trans c_b_3_w, (hb_U.cell (p := ⟨b2, 4, none⟩) lb).trans c_b_4_w, (hb_U.cell (p := ⟨b2, 5, none⟩) lb).trans c_b_5_w⟩ (fun _ => ?_)
        clear hK K
        refine takeN (i := 19) (v := ?v19_56) (d := (some 24)) rfl rfl (by kernel_rfl) (by kernel_rfl) (by kernel_rfl) (fun _ _ _ h => h) (Or.inl ⟨by rfl, ?y19_56⟩) ⟨(hb_U.cell (p := ⟨b, 2, none⟩) la).trans c_a_2_w, (hb_U.cell (p := ⟨b, 3, none⟩) la).trans c_a_3_w, (hb_U.cell (p := ⟨b, 4, none⟩) la).trans c_a_4_w, (hb_U.cell (p := ⟨b, 5, none⟩) la).trans c_a_5_w, (hb_U.cell (p := ⟨b2, 2, none⟩) lb).trans c_b_2_w, (hb_U.cell (p := ⟨b2, 3, none⟩) lb).trans c_b_3_w, (hb_U.cell (p := ⟨b2, 4, none⟩) lb).trans c_b_4_w, (hb_U.cell (p := ⟨b2, 5, none⟩) lb).trans c_b_5_w⟩ ?r19_56
        case y19_56 => (intro W hW; (try dsimp only at hW); go_simp; try (with_reducible rfl))
        simp only [Act.put, List.setIfInBounds_toArray, List.set_cons_zero, List.set_cons_succ]
        refine takeN (i := 20) (v := ?v20_57) (d := (some 25)) rfl rfl (by kernel_rfl) (by kernel_rfl) (by kernel_rfl) (fun _ _ _ h => h) (Or.inl ⟨by rfl, ?y20_57⟩) ⟨(hb_U.cell (p := ⟨b, 2, none⟩) la).trans c_a_2_w, (hb_U.cell (p := ⟨b, 3, none⟩) la).trans c_a_3_w, (hb_U.cell (p := ⟨b, 4, none⟩) la).trans c_a_4_w, (hb_U.cell (p := ⟨b, 5, none⟩) la).trans c_a_5_w, (hb_U.cell (p := ⟨b2, 2, none⟩) lb).trans c_b_2_w, (hb_U.cell (p := ⟨b2, 3, none⟩) lb).trans c_b_3_w, (hb_U.cell (p := ⟨b2, 4, none⟩) lb).trans c_b_4_w, (hb_U.cell (p := ⟨b2, 5, none⟩) lb).trans c_b_5_w⟩ ?r20_57
        case y20_57 => (intro W hW; (try dsimp only at hW); go_simp; try (with_reducible rfl))
        simp only [Act.put, List.setIfInBounds_toArray, List.set_cons_zero, List.set_cons_succ]
        refine takeN (i := 21) (v := ?v21_58) (d := (some 26)) rfl rfl (by kernel_rfl) (by kernel_rfl) (by kernel_rfl) (fun _ _ _ h => h) (Or.inl ⟨by rfl, ?y21_58⟩) ⟨(hb_U.cell (p := ⟨b, 2, none⟩) la).trans c_a_2_w, (hb_U.cell (p := ⟨b, 3, none⟩) la).trans c_a_3_w, (hb_U.cell (p := ⟨b, 4, none⟩) la).trans c_a_4_w, (hb_U.cell (p := ⟨b, 5, none⟩) la).trans c_a_5_w, (hb_U.cell (p := ⟨b2, 2, none⟩) lb).trans c_b_2_w, (hb_U.cell (p := ⟨b2, 3, none⟩) lb).trans c_b_3_w, (hb_U.cell (p := ⟨b2, 4, none⟩) lb).trans c_b_4_w, (hb_U.cell (p := ⟨b2, 5, none⟩) lb).trans c_b_5_w⟩ ?r21_58
        case y21_58 => (intro W hW; (try dsimp only at hW); go_simp; try (with_reducible rfl))
        simp only [Act.put, List.setIfInBounds_toArray, List.set_cons_zero, List.set_cons_succ]
        refine takeN (i := 22) (v := ?v22_59) (d := (some 27)) rfl rfl (by kernel_rfl) (by kernel_rfl) (by kernel_rfl) (fun _ _ _ h => h) (Or.inl ⟨by rfl, ?y22_59⟩) ⟨(hb_U.cell (p := ⟨b, 2, none⟩) la).trans c_a_2_w, (hb_U.cell (p := ⟨b, 3, none⟩) la).trans c_a_3_w, (hb_U.cell (p := ⟨b, 4, none⟩) la).trans c_a_4_w, (hb_U.cell (p := ⟨b, 5, none⟩) la).trans c_a_5_w, (hb_U.cell (p := ⟨b2, 2, none⟩) lb).trans c_b_2_w, (hb_U.cell (p := ⟨b2, 3, none⟩) lb).trans c_b_3_w, (hb_U.cell (p := ⟨b2, 4, none⟩) lb).trans c_b_4_w, (hb_U.cell (p := ⟨b2, 5, none⟩) lb).trans c_b_5_w⟩ ?r22_59
        case y22_59 => (intro W hW; (try dsimp only at hW); go_simp; try (with_reducible rfl))
        simp only [Act.put, List.setIfInBounds_toArray, List.set_cons_zero, List.set_cons_succ]
        refine takeN (i := 23) (v := ?v23_60) (d := (some 28)) rfl rfl (by kernel_rfl) (by kernel_rfl) (by kernel_rfl) (fun _ _ _ h => h) (Or.inl ⟨by rfl, ?y23_60⟩) ⟨(hb_U.cell (p := ⟨b, 2, none⟩) la).trans c_a_2_w, (hb_U.cell (p := ⟨b, 3, none⟩) la).trans c_a_3_w, (hb_U.cell (p := ⟨b, 4, none⟩) la).trans c_a_4_w, (hb_U.cell (p := ⟨b, 5, none⟩) la).trans c_a_5_w, (hb_U.cell (p := ⟨b2, 2, none⟩) lb).trans c_b_2_w, (hb_U.cell (p := ⟨b2, 3, none⟩) lb).trans c_b_3_w, (hb_U.cell (p := ⟨b2, 4, none⟩) lb).trans c_b_4_w, (hb_U.cell (p := ⟨b2, 5, none⟩) lb).trans c_b_5_w⟩ ?r23_60
        case y23_60 => (intro W hW; (try dsimp only at hW); go_simp; try (with_reducible rfl))
        simp only [Act.put, List.setIfInBounds_toArray, List.set_cons_zero, List.set_cons_succ]
        refine takeN (i := 24) (v := ?v24_61) (d := (some 29)) rfl rfl (by kernel_rfl) (by kernel_rfl) (by kernel_rfl) (fun _ _ _ h => h) (Or.inl ⟨by rfl, ?y24_61⟩) ⟨(hb_U.cell (p := ⟨b, 2, none⟩) la).trans c_a_2_w, (hb_U.cell (p := ⟨b, 3, none⟩) la).trans c_a_3_w, (hb_U.cell (p := ⟨b, 4, none⟩) la).trans c_a_4_w, (hb_U.cell (p := ⟨b, 5, none⟩) la).trans c_a_5_w, (hb_U.cell (p := ⟨b2, 2, none⟩) lb).trans c_b_2_w, (hb_U.cell (p := ⟨b2, 3, none⟩) lb).trans c_b_3_w, (hb_U.cell (p := ⟨b2, 4, none⟩) lb).trans c_b_4_w, (hb_U.cell (p := ⟨b2, 5, none⟩) lb).trans c_b_5_w⟩ ?r24_61
        case y24_61 => (intro W hW; (try dsimp only at hW); go_simp; try (with_reducible rfl))
        simp only [Act.put, List.setIfInBounds_toArray, List.set_cons_zero, List.set_cons_succ]
        refine takeN (i := 25) (v := ?v25_62) (d := (some 30)) rfl rfl (by kernel_rfl) (by kernel_rfl) (by kernel_rfl) (fun _ _ _ h => h) (Or.inl ⟨by rfl, ?y25_62⟩) ⟨(hb_U.cell (p := ⟨b, 2, none⟩) la).trans c_a_2_w, (hb_U.cell (p := ⟨b, 3, none⟩) la).trans c_a_3_w, (hb_U.cell (p := ⟨b, 4, none⟩) la).trans c_a_4_w, (hb_U.cell (p := ⟨b, 5, none⟩) la).trans c_a_5_w, (hb_U.cell (p := ⟨b2, 2, none⟩) lb).trans c_b_2_w, (hb_U.cell (p := ⟨b2, 3, none⟩) lb).trans c_b_3_w, (hb_U.cell (p := ⟨b2, 4, none⟩) lb).trans c_b_4_w, (hb_U.cell (p := ⟨b2, 5, none⟩) lb).trans c_b_5_w⟩ ?r25_62
        case y25_62 => (intro W hW; (try dsimp only at hW); go_simp; try (with_reducible rfl))
        simp only [Act.put, List.setIfInBounds_toArray, List.set_cons_zero, List.set_cons_succ]
        refine takeN (i := 26) (v := ?v26_63) (d := (some 31)) rfl rfl (by kernel_rfl) (by kernel_rfl) (by kernel_rfl) (fun _ _ _ h => h) (Or.inl ⟨by rfl, ?y26_63⟩) ⟨(hb_U.cell (p := ⟨b, 2, none⟩) la).trans c_a_2_w, (hb_U.cell (p := ⟨b, 3, none⟩) la).trans c_a_3_w, (hb_U.cell (p := ⟨b, 4, none⟩) la).trans c_a_4_w, (hb_U.cell (p := ⟨b, 5, none⟩) la).trans c_a_5_w, (hb_U.cell (p := ⟨b2, 2, none⟩) lb).trans c_b_2_w, (hb_U.cell (p := ⟨b2, 3, none⟩) lb).trans c_b_3_w, (hb_U.cell (p := ⟨b2, 4, none⟩) lb).trans c_b_4_w, (hb_U.cell (p := ⟨b2, 5, none⟩) lb).trans c_b_5_w⟩ ?r26_63
        case y26_63 => (intro W hW; (try dsimp only at hW); go_simp; try (with_reducible rfl))
        simp only [Act.put, List.setIfInBounds_toArray, List.set_cons_zero, List.set_cons_succ]
        refine takeN (i := 27) (v := ?v27_64) (d := (some 32)) rfl rfl (by kernel_rfl) (by kernel_rfl) (by kernel_rfl) (fun _ _ _ h => h) (Or.inl ⟨by rfl, ?y27_64⟩) ⟨(hb_U.cell (p := ⟨b, 2, none⟩) la).trans c_a_2_w, (hb_U.cell (p := ⟨b, 3, none⟩) la).trans c_a_3_w, (hb_U.cell (p := ⟨b, 4, none⟩) la).trans c_a_4_w, (hb_U.cell (p := ⟨b, 5, none⟩) la).trans c_a_5_w, (hb_U.cell (p := ⟨b2, 2, none⟩) lb).trans c_b_2_w, (hb_U.cell (p := ⟨b2, 3, none⟩) lb).trans c_b_3_w, (hb_U.cell (p := ⟨b2, 4, none⟩) lb).trans c_b_4_w, (hb_U.cell (p := ⟨b2, 5, none⟩) lb).trans c_b_5_w⟩ ?r27_64
        case y27_64 => (intro W hW; (try dsimp only at hW); go_simp; try (with_reducible rfl))
        simp only [Act.put, List.setIfInBounds_toArray, List.set_cons_zero, List.set_cons_succ]
        refine takeN (i := 28) (v := ?v28_65) (d := (some 33)) rfl rfl (by kernel_rfl) (by kernel_rfl) (by kernel_rfl) (fun _ _ _ h => h) (Or.inl ⟨by rfl, ?y28_65⟩) ⟨(hb_U.cell (p := ⟨b, 2, none⟩) la).trans c_a_2_w, (hb_U.cell (p := ⟨b, 3, none⟩) la).trans c_a_3_w, (hb_U.cell (p := ⟨b, 4, none⟩) la).trans c_a_4_w, (hb_U.cell (p := ⟨b, 5, none⟩) la).trans c_a_5_w, (hb_U.cell (p := ⟨b2, 2, none⟩) lb).trans c_b_2_w, (hb_U.cell (p := ⟨b2, 3, none⟩) lb).trans c_b_3_w, (hb_U.cell (p := ⟨b2, 4, none⟩) lb).trans c_b_4_w, (hb_U.cell (p := ⟨b2, 5, none⟩) lb).trans c_b_5_w⟩ ?r28_65
        case y28_65 => (intro W hW; (try dsimp only at hW); go_simp; try (with_reducible rfl))
        simp only [Act.put, List.setIfInBounds_toArray, List.set_cons_zero, List.set_cons_succ]
        refine wpAnyH_ready (rs := [29]) (by kernel_rfl) (by simp) ?_
        refine AllReadyH.cons rfl (fun K hK => ?_) AllReadyH.nil
        go_simp
        refine (iEqualI_c (rIns.from_ hb_U) (rInsx.from_ hb_U)).mono ?_
        rintro e w_I ⟨rfl, hd_I⟩
        have hb_I : Below w.heap.size w w_I := hb_U.trans (hd_I.mono hb_U.size)
        rw [HI.out]
        refine hK.out _ _ ⟨(hb_I.cell (p := ⟨b, 2, none⟩) la).trans c_a_2_w, (hb_I.cell (p := ⟨b, 3, none⟩) la).trans c_a_3_w, (hb_I.cell (p := ⟨b, 4, none⟩) la).trans c_a_4_w, (hb_I.cell (p := ⟨b, 5, none⟩) la).trans c_a_5_w, (hb_I.cell (p := ⟨b2, 2, none⟩) lb).trans c_b_2_w, (hb_I.cell (p := ⟨b2, 3, none⟩) lb).trans c_b_3_w, (hb_I.cell (p := ⟨b2, 4, none⟩) lb).trans c_b_4_w, (hb_I.cell (p := ⟨b2, 5, none⟩) lb).trans c_b_5_w⟩ (fun _ => ?_)
        clear hK K
        refine takeN (i := 30) (v := ?v30_66) (d := (some 35)) rfl rfl (by kernel_rfl) (by kernel_rfl) (by kernel_rfl) (fun _ _ _ h => h) (Or.inl ⟨by rfl, ?y30_66⟩) ⟨(hb_I.cell (p := ⟨b, 2, none⟩) la).trans c_a_2_w, (hb_I.cell (p := ⟨b, 3, none⟩) la).trans c_a_3_w, (hb_I.cell (p := ⟨b, 4, none⟩) la).trans c_a_4_w, (hb_I.cell (p := ⟨b, 5, none⟩) la).trans c_a_5_w, (hb_I.cell (p := ⟨b2, 2, none⟩) lb).trans c_b_2_w, (hb_I.cell (p := ⟨b2, 3, none⟩) lb).trans c_b_3_w, (hb_I.cell (p := ⟨b2, 4, none⟩) lb).trans c_b_4_w, (hb_I.cell (p := ⟨b2, 5, none⟩) lb).trans c_b_5_w⟩ ?r30_66
        case y30_66 => (intro W hW; (try dsimp only at hW); go_simp; try (with_reducible rfl))
        simp only [Act.put, List.setIfInBounds_toArray, List.set_cons_zero, List.set_cons_succ]
        refine takeN (i := 31) (v := ?v31_67) (d := (some 36)) rfl rfl (by kernel_rfl) (by kernel_rfl) (by kernel_rfl) (fun _ _ _ h => h) (Or.inl ⟨by rfl, ?y31_67⟩) ⟨(hb_I.cell (p := ⟨b, 2, none⟩) la).trans c_a_2_w, (hb_I.cell (p := ⟨b, 3, none⟩) la).trans c_a_3_w, (hb_I.cell (p := ⟨b, 4, none⟩) la).trans c_a_4_w, (hb_I.cell (p := ⟨b, 5, none⟩) la).trans c_a_5_w, (hb_I.cell (p := ⟨b2, 2, none⟩) lb).trans c_b_2_w, (hb_I.cell (p := ⟨b2, 3, none⟩) lb).trans c_b_3_w, (hb_I.cell (p := ⟨b2, 4, none⟩) lb).trans c_b_4_w, (hb_I.cell (p := ⟨b2, 5, none⟩) lb).trans c_b_5_w⟩ ?r31_67
        case y31_67 => (intro W hW; (try dsimp only at hW); go_simp; try (with_reducible rfl))
        simp only [Act.put, List.setIfInBounds_toArray, List.set_cons_zero, List.set_cons_succ]
        refine takeN (i := 32) (v := undef) (d := (some 37)) rfl rfl (by kernel_rfl) (by kernel_rfl) (by kernel_rfl) (fun _ _ _ h => h) (Or.inr ⟨by rfl, rfl⟩) ⟨(hb_I.cell (p := ⟨b, 2, none⟩) la).trans c_a_2_w, (hb_I.cell (p := ⟨b, 3, none⟩) la).trans c_a_3_w, (hb_I.cell (p := ⟨b, 4, none⟩) la).trans c_a_4_w, (hb_I.cell (p := ⟨b, 5, none⟩) la).trans c_a_5_w, (hb_I.cell (p := ⟨b2, 2, none⟩) lb).trans c_b_2_w, (hb_I.cell (p := ⟨b2, 3, none⟩) lb).trans c_b_3_w, (hb_I.cell (p := ⟨b2, 4, none⟩) lb).trans c_b_4_w, (hb_I.cell (p := ⟨b2, 5, none⟩) lb).trans c_b_5_w⟩ ?_
        simp only [Act.put, List.setIfInBounds_toArray, List.set_cons_zero, List.set_cons_succ]
        refine takeN (i := 33) (v := undef) (d := (some 38)) rfl rfl (by kernel_rfl) (by kernel_rfl) (by kernel_rfl) (fun _ _ _ h => h) (Or.inr ⟨by rfl, rfl⟩) ⟨(hb_I.cell (p := ⟨b, 2, none⟩) la).trans c_a_2_w, (hb_I.cell (p := ⟨b, 3, none⟩) la).trans c_a_3_w, (hb_I.cell (p := ⟨b, 4, none⟩) la).trans c_a_4_w, (hb_I.cell (p := ⟨b, 5, none⟩) la).trans c_a_5_w, (hb_I.cell (p := ⟨b2, 2, none⟩) lb).trans c_b_2_w, (hb_I.cell (p := ⟨b2, 3, none⟩) lb).trans c_b_3_w, (hb_I.cell (p := ⟨b2, 4, none⟩) lb).trans c_b_4_w, (hb_I.cell (p := ⟨b2, 5, none⟩) lb).trans c_b_5_w⟩ ?_
        simp only [Act.put, List.setIfInBounds_toArray, List.set_cons_zero, List.set_cons_succ]
        refine takeN (i := 34) (v := undef) (d := (some 39)) rfl rfl (by kernel_rfl) (by kernel_rfl) (by kernel_rfl) (fun _ _ _ h => h) (Or.inr ⟨by rfl, rfl⟩) ⟨(hb_I.cell (p := ⟨b, 2, none⟩) la).trans c_a_2_w, (hb_I.cell (p := ⟨b, 3, none⟩) la).trans c_a_3_w, (hb_I.cell (p := ⟨b, 4, none⟩) la).trans c_a_4_w, (hb_I.cell (p := ⟨b, 5, none⟩) la).trans c_a_5_w, (hb_I.cell (p := ⟨b2, 2, none⟩) lb).trans c_b_2_w, (hb_I.cell (p := ⟨b2, 3, none⟩) lb).trans c_b_3_w, (hb_I.cell (p := ⟨b2, 4, none⟩) lb).trans c_b_4_w, (hb_I.cell (p := ⟨b2, 5, none⟩) lb).trans c_b_5_w⟩ ?_
        simp only [Act.put, List.setIfInBounds_toArray, List.set_cons_zero, List.set_cons_succ]
        refine takeN (i := 35) (v := undef) (d := (some 40)) rfl rfl (by kernel_rfl) (by kernel_rfl) (by kernel_rfl) (fun _ _ _ h => h) (Or.inr ⟨by rfl, rfl⟩) ⟨(hb_I.cell (p := ⟨b, 2, none⟩) la).trans c_a_2_w, (hb_I.cell (p := ⟨b, 3, none⟩) la).trans c_a_3_w, (hb_I.cell (p := ⟨b, 4, none⟩) la).trans c_a_4_w, (hb_I.cell (p := ⟨b, 5, none⟩) la).trans c_a_5_w, (hb_I.cell (p := ⟨b2, 2, none⟩) lb).trans c_b_2_w, (hb_I.cell (p := ⟨b2, 3, none⟩) lb).trans c_b_3_w, (hb_I.cell (p := ⟨b2, 4, none⟩) lb).trans c_b_4_w, (hb_I.cell (p := ⟨b2, 5, none⟩) lb).trans c_b_5_w⟩ ?_
        simp only [Act.put, List.setIfInBounds_toArray, List.set_cons_zero, List.set_cons_succ]
        refine takeN (i := 36) (v := undef) (d := (some 41)) rfl rfl (by kernel_rfl) (by kernel_rfl) (by kernel_rfl) (fun _ _ _ h => h) (Or.inr ⟨by rfl, rfl⟩) ⟨(hb_I.cell (p := ⟨b, 2, none⟩) la).trans c_a_2_w, (hb_I.cell (p := ⟨b, 3, none⟩) la).trans c_a_3_w, (hb_I.cell (p := ⟨b, 4, none⟩) la).trans c_a_4_w, (hb_I.cell (p := ⟨b, 5, none⟩) la).trans c_a_5_w, (hb_I.cell (p := ⟨b2, 2, none⟩) lb).trans c_b_2_w, (hb_I.cell (p := ⟨b2, 3, none⟩) lb).trans c_b_3_w, (hb_I.cell (p := ⟨b2, 4, none⟩) lb).trans c_b_4_w, (hb_I.cell (p := ⟨b2, 5, none⟩) lb).trans c_b_5_w⟩ ?_
        simp only [Act.put, List.setIfInBounds_toArray, List.set_cons_zero, List.set_cons_succ]
        refine takeN (i := 37) (v := undef) (d := (some 42)) rfl rfl (by kernel_rfl) (by kernel_rfl) (by kernel_rfl) (fun _ _ _ h => h) (Or.inr ⟨by rfl, rfl⟩) ⟨(hb_I.cell (p := ⟨b, 2, none⟩) la).trans c_a_2_w, (hb_I.cell (p := ⟨b, 3, none⟩) la).trans c_a_3_w, (hb_I.cell (p := ⟨b, 4, none⟩) la).trans c_a_4_w, (hb_I.cell (p := ⟨b, 5, none⟩) la).trans c_a_5_w, (hb_I.cell (p := ⟨b2, 2, none⟩) lb).trans c_b_2_w, (hb_I.cell (p := ⟨b2, 3, none⟩) lb).trans c_b_3_w, (hb_I.cell (p := ⟨b2, 4, none⟩) lb).trans c_b_4_w, (hb_I.cell (p := ⟨b2, 5, none⟩) lb).trans c_b_5_w⟩ ?_
        simp only [Act.put, List.setIfInBounds_toArray, List.set_cons_zero, List.set_cons_succ]
        refine takeN (i := 38) (v := undef) (d := (some 43)) rfl rfl (by kernel_rfl) (by kernel_rfl) (by kernel_rfl) (fun _ _ _ h => h) (Or.inr ⟨by rfl, rfl⟩) ⟨(hb_I.cell (p := ⟨b, 2, none⟩) la).trans c_a_2_w, (hb_I.cell (p := ⟨b, 3, none⟩) la).trans c_a_3_w, (hb_I.cell (p := ⟨b, 4, none⟩) la).trans c_a_4_w, (hb_I.cell (p := ⟨b, 5, none⟩) la).trans c_a_5_w, (hb_I.cell (p := ⟨b2, 2, none⟩) lb).trans c_b_2_w, (hb_I.cell (p := ⟨b2, 3, none⟩) lb).trans c_b_3_w, (hb_I.cell (p := ⟨b2, 4, none⟩) lb).trans c_b_4_w, (hb_I.cell (p := ⟨b2, 5, none⟩) lb).trans c_b_5_w⟩ ?_
        simp only [Act.put, List.setIfInBounds_toArray, List.set_cons_zero, List.set_cons_succ]
        refine takeN (i := 39) (v := undef) (d := (some 44)) rfl rfl (by kernel_rfl) (by kernel_rfl) (by kernel_rfl) (fun _ _ _ h => h) (Or.inr ⟨by rfl, rfl⟩) ⟨(hb_I.cell (p := ⟨b, 2, none⟩) la).trans c_a_2_w, (hb_I.cell (p := ⟨b, 3, none⟩) la).trans c_a_3_w, (hb_I.cell (p := ⟨b, 4, none⟩) la).trans c_a_4_w, (hb_I.cell (p := ⟨b, 5, none⟩) la).trans c_a_5_w, (hb_I.cell (p := ⟨b2, 2, none⟩) lb).trans c_b_2_w, (hb_I.cell (p := ⟨b2, 3, none⟩) lb).trans c_b_3_w, (hb_I.cell (p := ⟨b2, 4, none⟩) lb).trans c_b_4_w, (hb_I.cell (p := ⟨b2, 5, none⟩) lb).trans c_b_5_w⟩ ?_
        simp only [Act.put, List.setIfInBounds_toArray, List.set_cons_zero, List.set_cons_succ]
        refine wpAnyH_ready (rs := [40]) (by kernel_rfl) (by simp) ?_
        refine AllReadyH.cons rfl (fun K hK => ?_) AllReadyH.nil
        go_simp
        refine hK.out _ _ ⟨(hb_I.cell (p := ⟨b, 2, none⟩) la).trans c_a_2_w, (hb_I.cell (p := ⟨b, 3, none⟩) la).trans c_a_3_w, (hb_I.cell (p := ⟨b, 4, none⟩) la).trans c_a_4_w, (hb_I.cell (p := ⟨b, 5, none⟩) la).trans c_a_5_w, (hb_I.cell (p := ⟨b2, 2, none⟩) lb).trans c_b_2_w, (hb_I.cell (p := ⟨b2, 3, none⟩) lb).trans c_b_3_w, (hb_I.cell (p := ⟨b2, 4, none⟩) lb).trans c_b_4_w, (hb_I.cell (p := ⟨b2, 5, none⟩) lb).trans c_b_5_w⟩ (fun _ => ?_)
        clear hK K
        (try simp only [Act.put, List.setIfInBounds_toArray, List.set_cons_zero, List.set_cons_succ])
        refine takeN (i := 41) (v := ?v41_68) (d := (some 46)) rfl rfl (by kernel_rfl) (by kernel_rfl) (by kernel_rfl) (fun _ _ _ h => h) (Or.inl ⟨by rfl, ?y41_68⟩) ⟨(hb_I.cell (p := ⟨b, 2, none⟩) la).trans c_a_2_w, (hb_I.cell (p := ⟨b, 3, none⟩) la).trans c_a_3_w, (hb_I.cell (p := ⟨b, 4, none⟩) la).trans c_a_4_w, (hb_I.cell (p := ⟨b, 5, none⟩) la).trans c_a_5_w, (hb_I.cell (p := ⟨b2, 2, none⟩) lb).trans c_b_2_w, (hb_I.cell (p := ⟨b2, 3, none⟩) lb).trans c_b_3_w, (hb_I.cell (p := ⟨b2, 4, none⟩) lb).trans c_b_4_w, (hb_I.cell (p := ⟨b2, 5, none⟩) lb).trans c_b_5_w⟩ ?r41_68
        case y41_68 => (intro W hW; (try dsimp only at hW); go_simp; try (with_reducible rfl))
        simp only [Act.put, List.setIfInBounds_toArray, List.set_cons_zero, List.set_cons_succ]
        refine takeN (i := 42) (v := ?v42_69) (d := (some 4)) rfl rfl (by kernel_rfl) (by kernel_rfl) (by kernel_rfl) (fun _ _ _ h => h) (Or.inl ⟨by rfl, ?y42_69⟩) ⟨(hb_I.cell (p := ⟨b, 2, none⟩) la).trans c_a_2_w, (hb_I.cell (p := ⟨b, 3, none⟩) la).trans c_a_3_w, (hb_I.cell (p := ⟨b, 4, none⟩) la).trans c_a_4_w, (hb_I.cell (p := ⟨b, 5, none⟩) la).trans c_a_5_w, (hb_I.cell (p := ⟨b2, 2, none⟩) lb).trans c_b_2_w, (hb_I.cell (p := ⟨b2, 3, none⟩) lb).trans c_b_3_w, (hb_I.cell (p := ⟨b2, 4, none⟩) lb).trans c_b_4_w, (hb_I.cell (p := ⟨b2, 5, none⟩) lb).trans c_b_5_w⟩ ?r42_69
        case y42_69 => (intro W hW; (try dsimp only at hW); go_simp; try (with_reducible rfl))
        simp only [Act.put, List.setIfInBounds_toArray, List.set_cons_zero, List.set_cons_succ]
        refine wpAnyH_done (by kernel_rfl) ?_ _
        go_wp2
        go_ret
        exact ⟨ret_eq (by rw [HO.out]; rfl), B0.trans hb_I⟩
      case true =>
        have HO : Hid (listsB d g = zC) := by show _ = _; rw [HE.out]; rfl
        go_enter Try.func64, Try.ntmps64
        go_wp2_with fail
        refine wp_region_held (S := fun w' => w'.cell? ⟨b, 2, none⟩ = some (.slice AAccts d.Accts.length cAccts) ∧ w'.cell? ⟨b, 3, none⟩ = some (.slice AOuts d.Outs.length cOuts) ∧ w'.cell? ⟨b, 4, none⟩ = some (.slice AIns d.Ins.length cIns) ∧ w'.cell? ⟨b, 5, none⟩ = some (.slice AAccs d.Accs.length cAccs) ∧ w'.cell? ⟨b2, 2, none⟩ = some (.slice AAcctsx g.Accts.length cAcctsx) ∧ w'.cell? ⟨b2, 3, none⟩ = some (.slice AOutsx g.Outs.length cOutsx) ∧ w'.cell? ⟨b2, 4, none⟩ = some (.slice AInsx g.Ins.length cInsx) ∧ w'.cell? ⟨b2, 5, none⟩ = some (.slice AAccsx g.Accs.length cAccsx)) (by kernel_rfl) ?_
        refine takeN (i := 0) (v := ?v0_70) (d := (some 5)) rfl rfl (by kernel_rfl) (by kernel_rfl) (by kernel_rfl) (fun _ _ _ h => h) (Or.inl ⟨by rfl, ?y0_70⟩) ⟨c_a_2_w, c_a_3_w, c_a_4_w, c_a_5_w, c_b_2_w, c_b_3_w, c_b_4_w, c_b_5_w⟩ ?r0_70
        case y0_70 => (intro W hW; (try dsimp only at hW); go_simp; try (with_reducible rfl))
        simp only [Act.put, List.setIfInBounds_toArray, List.set_cons_zero, List.set_cons_succ]
        refine takeN (i := 1) (v := ?v1_71) (d := (some 6)) rfl rfl (by kernel_rfl) (by kernel_rfl) (by kernel_rfl) (fun _ _ _ h => h) (Or.inl ⟨by rfl, ?y1_71⟩) ⟨c_a_2_w, c_a_3_w, c_a_4_w, c_a_5_w, c_b_2_w, c_b_3_w, c_b_4_w, c_b_5_w⟩ ?r1_71
        case y1_71 => (intro W hW; (try dsimp only at hW); go_simp; try (with_reducible rfl))
        simp only [Act.put, List.setIfInBounds_toArray, List.set_cons_zero, List.set_cons_succ]
        refine takeN (i := 2) (v := ?v2_72) (d := (some 7)) rfl rfl (by kernel_rfl) (by kernel_rfl) (by kernel_rfl) (fun _ _ _ h => h) (Or.inl ⟨by rfl, ?y2_72⟩) ⟨c_a_2_w, c_a_3_w, c_a_4_w, c_a_5_w, c_b_2_w, c_b_3_w, c_b_4_w, c_b_5_w⟩ ?r2_72
        case y2_72 => (intro W hW; (try dsimp only at hW); go_simp; try (with_reducible rfl))
        simp only [Act.put, List.setIfInBounds_toArray, List.set_cons_zero, List.set_cons_succ]
        refine takeN (i := 3) (v := ?v3_73) (d := (some 8)) rfl rfl (by kernel_rfl) (by kernel_rfl) (by kernel_rfl) (fun _ _ _ h => h) (Or.inl ⟨by rfl, ?y3_73⟩) ⟨c_a_2_w, c_a_3_w, c_a_4_w, c_a_5_w, c_b_2_w, c_b_3_w, c_b_4_w, c_b_5_w⟩ ?r3_73
        case y3_73 => (intro W hW; (try dsimp only at hW); go_simp; try (with_reducible rfl))
        simp only [Act.put, List.setIfInBounds_toArray, List.set_cons_zero, List.set_cons_succ]
        refine takeN (i := 4) (v := ?v4_74) (d := (some 9)) rfl rfl (by kernel_rfl) (by kernel_rfl) (by kernel_rfl) (fun _ _ _ h => h) (Or.inl ⟨by rfl, ?y4_74⟩) ⟨c_a_2_w, c_a_3_w, c_a_4_w, c_a_5_w, c_b_2_w, c_b_3_w, c_b_4_w, c_b_5_w⟩ ?r4_74
        case y4_74 => (intro W hW; (try dsimp only at hW); go_simp; try (with_reducible rfl))
        simp only [Act.put, List.setIfInBounds_toArray, List.set_cons_zero, List.set_cons_succ]
        refine takeN (i := 5) (v := ?v5_75) (d := (some 10)) rfl rfl (by kernel_rfl) (by kernel_rfl) (by kernel_rfl) (fun _ _ _ h => h) (Or.inl ⟨by rfl, ?y5_75⟩) ⟨c_a_2_w, c_a_3_w, c_a_4_w, c_a_5_w, c_b_2_w, c_b_3_w, c_b_4_w, c_b_5_w⟩ ?r5_75
        case y5_75 => (intro W hW; (try dsimp only at hW); go_simp; try (with_reducible rfl))
        simp only [Act.put, List.setIfInBounds_toArray, List.set_cons_zero, List.set_cons_succ]
        refine takeN (i := 6) (v := ?v6_76) (d := (some 11)) rfl rfl (by kernel_rfl) (by kernel_rfl) (by kernel_rfl) (fun _ _ _ h => h) (Or.inl ⟨by rfl, ?y6_76⟩) ⟨c_a_2_w, c_a_3_w, c_a_4_w, c_a_5_w, c_b_2_w, c_b_3_w, c_b_4_w, c_b_5_w⟩ ?r6_76
        case y6_76 => (intro W hW; (try dsimp only at hW); go_simp; try (with_reducible rfl))
        simp only [Act.put, List.setIfInBounds_toArray, List.set_cons_zero, List.set_cons_succ]
        refine takeN (i := 7) (v := ?v7_77) (d := (some 12)) rfl rfl (by kernel_rfl) (by kernel_rfl) (by kernel_rfl) (fun _ _ _ h => h) (Or.inl ⟨by rfl, ?y7_77⟩) ⟨c_a_2_w, c_a_3_w, c_a_4_w, c_a_5_w, c_b_2_w, c_b_3_w, c_b_4_w, c_b_5_w⟩ ?r7_77
        case y7_77 => (intro W hW; (try dsimp only at hW); go_simp; try (with_reducible rfl))
        simp only [Act.put, List.setIfInBounds_toArray, List.set_cons_zero, List.set_cons_succ]
        refine wpAnyH_ready (rs := [8]) (by kernel_rfl) (by simp) ?_
        refine AllReadyH.cons rfl (fun K hK => ?_) AllReadyH.nil
        go_simp
        refine (iEqFuncA_c (rAccts.from_ ((Below.refl w.heap.size w).drew)) (rAcctsx.from_ ((Below.refl w.heap.size w).drew))).mono ?_
        rintro e w_A ⟨rfl, hd_A⟩
        have hb_A : Below w.heap.size w w_A := (Below.refl w.heap.size w).drew.trans hd_A
        rw [HA.out]
        refine hK.out _ _ ⟨(hb_A.cell (p := ⟨b, 2, none⟩) la).trans c_a_2_w, (hb_A.cell (p := ⟨b, 3, none⟩) la).trans c_a_3_w, (hb_A.cell (p := ⟨b, 4, none⟩) la).trans c_a_4_w, (hb_A.cell (p := ⟨b, 5, none⟩) la).trans c_a_5_w, (hb_A.cell (p := ⟨b2, 2, none⟩) lb).trans c_b_2_w, (hb_A.cell (p := ⟨b2, 3, none⟩) lb).trans c_b_3_w, (hb_A.cell (p := ⟨b2, 4, none⟩) lb).trans c_b_4_w, (hb_A.cell (p := ⟨b2, 5, none⟩) lb).trans c_b_5_w⟩ (fun _ => ?_)
        clear hK K
        refine takeN (i := 9) (v := ?v9_78) (d := (some 14)) rfl rfl (by kernel_rfl) (by kernel_rfl) (by kernel_rfl) (fun _ _ _ h => h) (Or.inl ⟨by rfl, ?y9_78⟩) ⟨(hb_A.cell (p := ⟨b, 2, none⟩) la).trans c_a_2_w, (hb_A.cell (p := ⟨b, 3, none⟩) la).trans c_a_3_w, (hb_A.cell (p := ⟨b, 4, none⟩) la).trans c_a_4_w, (hb_A.cell (p := ⟨b, 5, none⟩) la).trans c_a_5_w, (hb_A.cell (p := ⟨b2, 2, none⟩) lb).trans c_b_2_w, (hb_A.cell (p := ⟨b2, 3, none⟩) lb).trans c_b_3_w, (hb_A.cell (p := ⟨b2, 4, none⟩) lb).trans c_b_4_w, (hb_A.cell (p := ⟨b2, 5, none⟩) lb).trans c_b_5_w⟩ ?r9_78
        case y9_78 => (intro W hW; (try dsimp only at hW); go_simp; try (with_reducible rfl))
        simp only [Act.put, List.setIfInBounds_toArray, List.set_cons_zero, List.set_cons_succ]
        refine takeN (i := 10) (v := ?v10_79) (d := (some 15)) rfl rfl (by kernel_rfl) (by kernel_rfl) (by kernel_rfl) (fun _ _ _ h => h) (Or.inl ⟨by rfl, ?y10_79⟩) ⟨(hb_A.cell (p := ⟨b, 2, none⟩) la).trans c_a_2_w, (hb_A.cell (p := ⟨b, 3, none⟩) la).trans c_a_3_w, (hb_A.cell (p := ⟨b, 4, none⟩) la).trans c_a_4_w, (hb_A.cell (p := ⟨b, 5, none⟩) la).trans c_a_5_w, (hb_A.cell (p := ⟨b2, 2, none⟩) lb).trans c_b_2_w, (hb_A.cell (p := ⟨b2, 3, none⟩) lb).trans c_b_3_w, (hb_A.cell (p := ⟨b2, 4, none⟩) lb).trans c_b_4_w, (hb_A.cell (p := ⟨b2, 5, none⟩) lb).trans c_b_5_w⟩ ?r10_79
        case y10_79 => (intro W hW; (try dsimp only at hW); go_simp; try (with_reducible rfl))
        simp only [Act.put, List.setIfInBounds_toArray, List.set_cons_zero, List.set_cons_succ]
        refine takeN (i := 11) (v := ?v11_80) (d := (some 16)) rfl rfl (by kernel_rfl) (by kernel_rfl) (by kernel_rfl) (fun _ _ _ h => h) (Or.inl ⟨by rfl, ?y11_80⟩) ⟨(hb_A.cell (p := ⟨b, 2, none⟩) la).trans c_a_2_w, (hb_A.cell (p := ⟨b, 3, none⟩) la).trans c_a_3_w, (hb_A.cell (p := ⟨b, 4, none⟩) la).trans c_a_4_w, (hb_A.cell (p := ⟨b, 5, none⟩) la).trans c_a_5_w, (hb_A.cell (p := ⟨b2, 2, none⟩) lb).trans c_b_2_w, (hb_A.cell (p := ⟨b2, 3, none⟩) lb).trans c_b_3_w, (hb_A.cell (p := ⟨b2, 4, none⟩) lb).trans c_b_4_w, (hb_A.cell (p := ⟨b2, 5, none⟩) lb).trans c_b_5_w⟩ ?r11_80
        case y11_80 => (intro W hW; (try dsimp only at hW); go_simp; try (with_reducible rfl))
        simp only [Act.put, List.setIfInBounds_toArray, List.set_cons_zero, List.set_cons_succ]
        refine takeN (i := 12) (v := ?v12_81) (d := (some 17)) rfl rfl (by kernel_rfl) (by kernel_rfl) (by kernel_rfl) (fun _ _ _ h => h) (Or.inl ⟨by rfl, ?y12_81⟩) ⟨(hb_A.cell (p := ⟨b, 2, none⟩) la).trans c_a_2_w, (hb_A.cell (p := ⟨b, 3, none⟩) la).trans c_a_3_w, (hb_A.cell (p := ⟨b, 4, none⟩) la).trans c_a_4_w, (hb_A.cell (p := ⟨b, 5, none⟩) la).trans c_a_5_w, (hb_A.cell (p := ⟨b2, 2, none⟩) lb).trans c_b_2_w, (hb_A.cell (p := ⟨b2, 3, none⟩) lb).trans c_b_3_w, (hb_A.cell (p := ⟨b2, 4, none⟩) lb).trans c_b_4_w, (hb_A.cell (p := ⟨b2, 5, none⟩) lb).trans c_b_5_w⟩ ?r12_81
        case y12_81 => (intro W hW; (try dsimp only at hW); go_simp; try (with_reducible rfl))
        simp only [Act.put, List.setIfInBounds_toArray, List.set_cons_zero, List.set_cons_succ]
        refine takeN (i := 13) (v := ?v13_82) (d := (some 18)) rfl rfl (by kernel_rfl) (by kernel_rfl) (by kernel_rfl) (fun _ _ _ h => h) (Or.inl ⟨by rfl, ?y13_82⟩) ⟨(hb_A.cell (p := ⟨b, 2, none⟩) la).trans c_a_2_w, (hb_A.cell (p := ⟨b, 3, none⟩) la).trans c_a_3_w, (hb_A.cell (p := ⟨b, 4, none⟩) la).trans c_a_4_w, (hb_A.cell (p := ⟨b, 5, none⟩) la).trans c_a_5_w, (hb_A.cell (p := ⟨b2, 2, none⟩) lb).trans c_b_2_w, (hb_A.cell (p := ⟨b2, 3, none⟩) lb).trans c_b_3_w, (hb_A.cell (p := ⟨b2, 4, none⟩) lb).trans c_b_4_w, (hb_A.cell (p := ⟨b2, 5, none⟩) lb).trans c_b_5_w⟩ ?r13_82
        case y13_82 => (intro W hW; (try dsimp only at hW); go_simp; try (with_reducible rfl))
        simp only [Act.put, List.setIfInBounds_toArray, List.set_cons_zero, List.set_cons_succ]
        refine takeN (i := 14) (v := ?v14_83) (d := (some 19)) rfl rfl (by kernel_rfl) (by kernel_rfl) (by kernel_rfl) (fun _ _ _ h => h) (Or.inl ⟨by rfl, ?y14_83⟩) ⟨(hb_A.cell (p := ⟨b, 2, none⟩) la).trans c_a_2_w, (hb_A.cell (p := ⟨b, 3, none⟩) la).trans c_a_3_w, (hb_A.cell (p := ⟨b, 4, none⟩) la).trans c_a_4_w, (hb_A.cell (p := ⟨b, 5, none⟩) la).trans c_a_5_w, (hb_A.cell (p := ⟨b2, 2, none⟩) lb).trans c_b_2_w, (hb_A.cell (p := ⟨b2, 3, none⟩) lb).trans c_b_3_w, (hb_A.cell (p := ⟨b2, 4, none⟩) lb).trans c_b_4_w, (hb_A.cell (p := ⟨b2, 5, none⟩) lb).trans c_b_5_w⟩ ?r14_83
        case y14_83 => (intro W hW; (try dsimp only at hW); go_simp; try (with_reducible rfl))
        simp only [Act.put, List.setIfInBounds_toArray, List.set_cons_zero, List.set_cons_succ]
        refine takeN (i := 15) (v := ?v15_84) (d := (some 20)) rfl rfl (by kernel_rfl) (by kernel_rfl) (by kernel_rfl) (fun _ _ _ h => h) (Or.inl ⟨by rfl, ?y15_84⟩) ⟨(hb_A.cell (p := ⟨b, 2, none⟩) la).trans c_a_2_w, (hb_A.cell (p := ⟨b, 3, none⟩) la).trans c_a_3_w, (hb_A.cell (p := ⟨b, 4, none⟩) la).trans c_a_4_w, (hb_A.cell (p := ⟨b, 5, none⟩) la).trans c_a_5_w, (hb_A.cell (p := ⟨b2, 2, none⟩) lb).trans c_b_2_w, (hb_A.cell (p := ⟨b2, 3, none⟩) lb).trans c_b_3_w, (hb_A.cell (p := ⟨b2, 4, none⟩) lb).trans c_b_4_w, (hb_A.cell (p := ⟨b2, 5, none⟩) lb).trans c_b_5_w⟩ ?r15_84
        case y15_84 => (intro W hW; (try dsimp only at hW); go_simp; try (with_reducible rfl))
        simp only [Act.put, List.setIfInBounds_toArray, List.set_cons_zero, List.set_cons_succ]
        refine takeN (i := 16) (v := ?v16_85) (d := (some 21)) rfl rfl (by kernel_rfl) (by kernel_rfl) (by kernel_rfl) (fun _ _ _ h => h) (Or.inl ⟨by rfl, ?y16_85⟩) ⟨(hb_A.cell (p := ⟨b, 2, none⟩) la).trans c_a_2_w, (hb_A.cell (p := ⟨b, 3, none⟩) la).trans c_a_3_w, (hb_A.cell (p := ⟨b, 4, none⟩) la).trans c_a_4_w, (hb_A.cell (p := ⟨b, 5, none⟩) la).trans c_a_5_w, (hb_A.cell (p := ⟨b2, 2, none⟩) lb).trans c_b_2_w, (hb_A.cell (p := ⟨b2, 3, none⟩) lb).trans c_b_3_w, (hb_A.cell (p := ⟨b2, 4, none⟩) lb).trans c_b_4_w, (hb_A.cell (p := ⟨b2, 5, none⟩) lb).trans c_b_5_w⟩ ?r16_85
        case y16_85 => (intro W hW; (try dsimp only at hW); go_simp; try (with_reducible rfl))
        simp only [Act.put, List.setIfInBounds_toArray, List.set_cons_zero, List.set_cons_succ]
        refine takeN (i := 17) (v := ?v17_86) (d := (some 22)) rfl rfl (by kernel_rfl) (by kernel_rfl) (by kernel_rfl) (fun _ _ _ h => h) (Or.inl ⟨by rfl, ?y17_86⟩) ⟨(hb_A.cell (p := ⟨b, 2, none⟩) la).trans c_a_2_w, (hb_A.cell (p := ⟨b, 3, none⟩) la).trans c_a_3_w, (hb_A.cell (p := ⟨b, 4, none⟩) la).trans c_a_4_w, (hb_A.cell (p := ⟨b, 5, none⟩) la).trans c_a_5_w, (hb_A.cell (p := ⟨b2, 2, none⟩) lb).trans c_b_2_w, (hb_A.cell (p := ⟨b2, 3, none⟩) lb).trans c_b_3_w, (hb_A.cell (p := ⟨b2, 4, none⟩) lb).trans c_b_4_w, (hb_A.cell (p := ⟨b2, 5, none⟩) lb).trans c_b_5_w⟩ ?r17_86
        case y17_86 => (intro W hW; (try dsimp only at hW); go_simp; try (with_reducible rfl))
        simp only [Act.put, List.setIfInBounds_toArray, List.set_cons_zero, List.set_cons_succ]
        refine wpAnyH_ready (rs := [18]) (by kernel_rfl) (by simp) ?_
        refine AllReadyH.cons rfl (fun K hK => ?_) AllReadyH.nil
        go_simp
        refine (iEqFuncO_c (rOuts.from_ hb_A) (rOutsx.from_ hb_A) hm hm2).mono ?_
        rintro e w_U ⟨rfl, hd_U⟩
        have hb_U : Below w.heap.size w w_U := hb_A.trans (hd_U.mono hb_A.size)
        rw [HU.out]
        refine hK.out _ _ ⟨(hb_U.cell (p := ⟨b, 2, none⟩) la).trans c_a_2_w, (hb_U.cell (p := ⟨b, 3, none⟩) la).trans c_a_3_w, (hb_U.cell (p := ⟨b, 4, none⟩) la).trans c_a_4_w, (hb_U.cell (p := ⟨b, 5, none⟩) la).trans c_a_5_w, (hb_U.cell (p := ⟨b2, 2, none⟩) lb).trans c_b_2_w, (hb_U.cell (p := ⟨b2, 3, none⟩) lb).trans c_b_3_w, (hb_U.cell (p := ⟨b2, 4, none⟩) lb).trans c_b_4_w, (hb_U.cell (p := ⟨b2, 5, none⟩) lb).trans c_b_5_w⟩ (fun _ => ?_)
        clear hK K
        refine takeN (i := 19) (v := ?v19_87) (d := (some 24)) rfl rfl (by kernel_rfl) (by kernel_rfl) (by kernel_rfl) (fun _ _ _ h => h) (Or.inl ⟨by rfl, ?y19_87⟩) ⟨(hb_U.cell (p := ⟨b, 2, none⟩) la).trans c_a_2_w, (hb_U.cell (p := ⟨b, 3, none⟩) la).trans c_a_3_w, (hb_U.cell (p := ⟨b, 4, none⟩) la).trans c_a_4_w, (hb_U.cell (p := ⟨b, 5, none⟩) la).trans c_a_5_w, (hb_U.cell (p := ⟨b2, 2, none⟩) lb).trans c_b_2_w, (hb_U.cell (p := ⟨b2, 3, none⟩) lb).trans c_b_3_w, (hb_U.cell (p := ⟨b2, 4, none⟩) lb).trans c_b_4_w, (hb_U.cell (p := ⟨b2, 5, none⟩) lb).trans c_b_5_w⟩ ?r19_87
        case y19_87 => (intro W hW; (try dsimp only at hW); go_simp; try (with_reducible rfl))
        simp only [Act.put, List.setIfInBounds_toArray, List.set_cons_zero, List.set_cons_succ]
        refine takeN (i := 20) (v := ?v20_88) (d := (some 25)) rfl rfl (by kernel_rfl) (by kernel_rfl) (by kernel_rfl) (fun _ _ _ h => h) (Or.inl ⟨by rfl, ?y20_88⟩) ⟨(hb_U.cell (p := ⟨b, 2, none⟩) la).trans c_a_2_w, (hb_U.cell (p := ⟨b, 3, none⟩) la).trans c_a_3_w, (hb_U.cell (p := ⟨b, 4, none⟩) la).trans c_a_4_w, (hb_U.cell (p := ⟨b, 5, none⟩) la).trans c_a_5_w, (hb_U.cell (p := ⟨b2, 2, none⟩) lb).trans c_b_2_w, (hb_U.cell (p := ⟨b2, 3, none⟩) lb).trans c_b_3_w, (hb_U.cell (p := ⟨b2, 4, none⟩) lb).trans c_b_4_w, (hb_U.cell (p := ⟨b2, 5, none⟩) lb).trans c_b_5_w⟩ ?r20_88
        case y20_88 => (intro W hW; (try dsimp only at hW); go_simp; try (with_reducible rfl))
        simp only [Act.put, List.setIfInBounds_toArray, List.set_cons_zero, List.set_cons_succ]
        refine takeN (i := 21) (v := ?v21_89) (d := (some 26)) rfl rfl (by kernel_rfl) (by kernel_rfl) (by kernel_rfl) (fun _ _ _ h => h) (Or.inl ⟨by rfl, ?y21_89⟩) ⟨(hb_U.cell (p := ⟨b, 2, none⟩) la).trans c_a_2_w, (hb_U.cell (p := ⟨b, 3, none⟩) la).trans c_a_3_w, (hb_U.cell (p := ⟨b, 4, none⟩) la).trans c_a_4_w, (hb_U.cell (p := ⟨b, 5, none⟩) la).trans c_a_5_w, (hb_U.cell (p := ⟨b2, 2, none⟩) lb).trans c_b_2_w, (hb_U.cell (p := ⟨b2, 3, none⟩) lb).trans c_b_3_w, (hb_U.cell (p := ⟨b2, 4, none⟩) lb).trans c_b_4_w, (hb_U.cell (p := ⟨b2, 5, none⟩) lb).trans c_b_5_w⟩ ?r21_89
        case y21_89 => (intro W hW; (try dsimp only at hW); go_simp; try (with_reducible rfl))
        simp only [Act.put, List.setIfInBounds_toArray, List.set_cons_zero, List.set_cons_succ]
        refine takeN (i := 22) (v := ?v22_90) (d := (some 27)) rfl rfl (by kernel_rfl) (by kernel_rfl) (by kernel_rfl) (fun _ _ _ h => h) (Or.inl ⟨by rfl, ?y22_90⟩) ⟨(hb_U.cell (p := ⟨b, 2, none⟩) la).trans c_a_2_w, (hb_U.cell (p := ⟨b, 3, none⟩) la).trans c_a_3_w, (hb_U.cell (p := ⟨b, 4, none⟩) la).trans c_a_4_w, (hb_U.cell (p := ⟨b, 5, none⟩) la).trans c_a_5_w, (hb_U.cell (p := ⟨b2, 2, none⟩) lb).trans c_b_2_w, (hb_U.cell (p := ⟨b2, 3, none⟩) lb).trans c_b_3_w, (hb_U.cell (p := ⟨b2, 4, none⟩) lb).trans c_b_4_w, (hb_U.cell (p := ⟨b2, 5, none⟩) lb).trans c_b_5_w⟩ ?r22_90
        case y22_90 => (intro W hW; (try dsimp only at hW); go_simp; try (with_reducible rfl))
        simp only [Act.put, List.setIfInBounds_toArray, List.set_cons_zero, List.set_cons_succ]
        refine takeN (i := 23) (v := ?v23_91) (d := (some 28)) rfl rfl (by kernel_rfl) (by kernel_rfl) (by kernel_rfl) (fun _ _ _ h => h) (Or.inl ⟨by rfl, ?y23_91⟩) ⟨(hb_U.cell (p := ⟨b, 2, none⟩) la).trans c_a_2_w, (hb_U.cell (p := ⟨b, 3, none⟩) la).trans c_a_3_w, (hb_U.cell (p := ⟨b, 4, none⟩) la).trans c_a_4_w, (hb_U.cell (p := ⟨b, 5, none⟩) la).trans c_a_5_w, (hb_U.cell (p := ⟨b2, 2, none⟩) lb).trans c_b_2_w, (hb_U.cell (p := ⟨b2, 3, none⟩) lb).trans c_b_3_w, (hb_U.cell (p := ⟨b2, 4, none⟩) lb).trans c_b_4_w, (hb_U.cell (p := ⟨b2, 5, none⟩) lb).trans c_b_5_w⟩ ?r23_91
        case y23_91 => (intro W hW; (try dsimp only at hW); go_simp; try (with_reducible rfl))
        simp only [Act.put, List.setIfInBounds_toArray, List.set_cons_zero, List.set_cons_succ]
        refine takeN (i := 24) (v := ?v24_92) (d := (some 29)) rfl rfl (by kernel_rfl) (by kernel_rfl) (by kernel_rfl) (fun _ _ _ h => h) (Or.inl ⟨by rfl, ?y24_92⟩) ⟨(hb_U.cell (p := ⟨b, 2, none⟩) la).trans c_a_2_w, (hb_U.cell (p := ⟨b, 3, none⟩) la).trans c_a_3_w, (hb_U.cell (p := ⟨b, 4, none⟩) la).trans c_a_4_w, (hb_U.cell (p := ⟨b, 5, none⟩) la).trans c_a_5_w, (hb_U.cell (p := ⟨b2, 2, none⟩) lb).trans c_b_2_w, (hb_U.cell (p := ⟨b2, 3, none⟩) lb).trans c_b_3_w, (hb_U.cell (p := ⟨b2, 4, none⟩) lb).trans c_b_4_w, (hb_U.cell (p := ⟨b2, 5, none⟩) lb).trans c_b_5_w⟩ ?r24_92
        case y24_92 => (intro W hW; (try dsimp only at hW); go_simp; try (with_reducible rfl))
        simp only [Act.put, List.setIfInBounds_toArray, List.set_cons_zero, List.set_cons_succ]
        refine takeN (i := 25) (v := ?v25_93) (d := (some 30)) rfl rfl (by kernel_rfl) (by kernel_rfl) (by kernel_rfl) (fun _ _ _ h => h) (Or.inl ⟨by rfl, ?y25_93⟩) ⟨(hb_U.cell (p := ⟨b, 2, none⟩) la).trans c_a_2_w, (hb_U.cell (p := ⟨b, 3, none⟩) la).trans c_a_3_w, (hb_U.cell (p := ⟨b, 4, none⟩) la).trans c_a_4_w, (hb_U.cell (p := ⟨b, 5, none⟩) la).trans c_a_5_w, (hb_U.cell (p := ⟨b2, 2, none⟩) lb).trans c_b_2_w, (hb_U.cell (p := ⟨b2, 3, none⟩) lb).trans c_b_3_w, (hb_U.cell (p := ⟨b2, 4, none⟩) lb).trans c_b_4_w, (hb_U.cell (p := ⟨b2, 5, none⟩) lb).trans c_b_5_w⟩ ?r25_93
        case y25_93 => (intro W hW; (try dsimp only at hW); go_simp; try (with_reducible rfl))
        simp only [Act.put, List.setIfInBounds_toArray, List.set_cons_zero, List.set_cons_succ]
        refine takeN (i := 26) (v := ?v26_94) (d := (some 31)) rfl rfl (by kernel_rfl) (by kernel_rfl) (by kernel_rfl) (fun _ _ _ h => h) (Or.inl ⟨by rfl, ?y26_94⟩) ⟨(hb_U.cell (p := ⟨b, 2, none⟩) la).trans c_a_2_w, (hb_U.cell (p := ⟨b, 3, none⟩) la).trans c_a_3_w, (hb_U.cell (p := ⟨b, 4, none⟩) la).trans c_a_4_w, (hb_U.cell (p := ⟨b, 5, none⟩) la).trans c_a_5_w, (hb_U.cell (p := ⟨b2, 2, none⟩) lb).trans c_b_2_w, (hb_U.cell (p := ⟨b2, 3, none⟩) lb).trans c_b_3_w, (hb_U.cell (p := ⟨b2, 4, none⟩) lb).trans c_b_4_w, (hb_U.cell (p := ⟨b2, 5, none⟩) lb).trans c_b_5_w⟩ ?r26_94
        case y26_94 => (intro W hW; (try dsimp only at hW); go_simp; try (with_reducible rfl))
        simp only [Act.put, List.setIfInBounds_toArray, List.set_cons_zero, List.set_cons_succ]
        refine takeN (i := 27) (v := ?v27_95) (d := (some 32)) rfl rfl (by kernel_rfl) (by kernel_rfl) (by kernel_rfl) (fun _ _ _ h => h) (Or.inl ⟨by rfl, ?y27_95⟩) ⟨(hb_U.cell (p := ⟨b, 2, none⟩) la).trans c_a_2_w, (hb_U.cell (p := ⟨b, 3, none⟩) la).trans c_a_3_w, (hb_U.cell (p := ⟨b, 4, none⟩) la).trans c_a_4_w, (hb_U.cell (p := ⟨b, 5, none⟩) la).trans c_a_5_w, (hb_U.cell (p := ⟨b2, 2, none⟩) lb).trans c_b_2_w, (hb_U.cell (p := ⟨b2, 3, none⟩) lb).trans c_b_3_w, (hb_U.cell (p := ⟨b2, 4, none⟩) lb).trans c_b_4_w, (hb_U.cell (p := ⟨b2, 5, none⟩) lb).trans c_b_5_w⟩ ?r27_95
        case y27_95 => (intro W hW; (try dsimp only at hW); go_simp; try (with_reducible rfl))
        simp only [Act.put, List.setIfInBounds_toArray, List.set_cons_zero, List.set_cons_succ]
        refine takeN (i := 28) (v := ?v28_96) (d := (some 33)) rfl rfl (by kernel_rfl) (by kernel_rfl) (by kernel_rfl) (fun _ _ _ h => h) (Or.inl ⟨by rfl, ?y28_96⟩) ⟨(hb_U.cell (p := ⟨b, 2, none⟩) la).trans c_a_2_w, (hb_U.cell (p := ⟨b, 3, none⟩) la).trans c_a_3_w, (hb_U.cell (p := ⟨b, 4, none⟩) la).trans c_a_4_w, (hb_U.cell (p := ⟨b, 5, none⟩) la).trans c_a_5_w, (hb_U.cell (p := ⟨b2, 2, none⟩) lb).trans c_b_2_w, (hb_U.cell (p := ⟨b2, 3, none⟩) lb).trans c_b_3_w, (hb_U.cell (p := ⟨b2, 4, none⟩) lb).trans c_b_4_w, (hb_U.cell (p := ⟨b2, 5, none⟩) lb).trans c_b_5_w⟩ ?r28_96
        case y28_96 => (intro W hW; (try dsimp only at hW); go_simp; try (with_reducible rfl))
        simp only [Act.put, List.setIfInBounds_toArray, List.set_cons_zero, List.set_cons_succ]
        refine wpAnyH_ready (rs := [29]) (by kernel_rfl) (by simp) ?_
        refine AllReadyH.cons rfl (fun K hK => ?_) AllReadyH.nil
        go_simp
        refine (iEqualI_c (rIns.from_ hb_U) (rInsx.from_ hb_U)).mono ?_
        rintro e w_I ⟨rfl, hd_I⟩
        have hb_I : Below w.heap.size w w_I := hb_U.trans (hd_I.mono hb_U.size)
        rw [HI.out]
        refine hK.out _ _ ⟨(hb_I.cell (p := ⟨b, 2, none⟩) la).trans c_a_2_w, (hb_I.cell (p := ⟨b, 3, none⟩) la).trans c_a_3_w, (hb_I.cell (p := ⟨b, 4, none⟩) la).trans c_a_4_w, (hb_I.cell (p := ⟨b, 5, none⟩) la).trans c_a_5_w, (hb_I.cell (p := ⟨b2, 2, none⟩) lb).trans c_b_2_w, (hb_I.cell (p := ⟨b2, 3, none⟩) lb).trans c_b_3_w, (hb_I.cell (p := ⟨b2, 4, none⟩) lb).trans c_b_4_w, (hb_I.cell (p := ⟨b2, 5, none⟩) lb).trans c_b_5_w⟩ (fun _ => ?_)
        clear hK K
        refine takeN (i := 30) (v := ?v30_97) (d := (some 35)) rfl rfl (by kernel_rfl) (by kernel_rfl) (by kernel_rfl) (fun _ _ _ h => h) (Or.inl ⟨by rfl, ?y30_97⟩) ⟨(hb_I.cell (p := ⟨b, 2, none⟩) la).trans c_a_2_w, (hb_I.cell (p := ⟨b, 3, none⟩) la).trans c_a_3_w, (hb_I.cell (p := ⟨b, 4, none⟩) la).trans c_a_4_w, (hb_I.cell (p := ⟨b, 5, none⟩) la).trans c_a_5_w, (hb_I.cell (p := ⟨b2, 2, none⟩) lb).trans c_b_2_w, (hb_I.cell (p := ⟨b2, 3, none⟩) lb).trans c_b_3_w, (hb_I.cell (p := ⟨b2, 4, none⟩) lb).trans c_b_4_w, (hb_I.cell (p := ⟨b2, 5, none⟩) lb).trans c_b_5_w⟩ ?r30_97
        case y30_97 => (intro W hW; (try dsimp only at hW); go_simp; try (with_reducible rfl))
        simp only [Act.put, List.setIfInBounds_toArray, List.set_cons_zero, List.set_cons_succ]
        refine takeN (i := 31) (v := ?v31_98) (d := (some 36)) rfl rfl (by kernel_rfl) (by kernel_rfl) (by kernel_rfl) (fun _ _ _ h => h) (Or.inl ⟨by rfl, ?y31_98⟩) ⟨(hb_I.cell (p := ⟨b, 2, none⟩) la).trans c_a_2_w, (hb_I.cell (p := ⟨b, 3, none⟩) la).trans c_a_3_w, (hb_I.cell (p := ⟨b, 4, none⟩) la).trans c_a_4_w, (hb_I.cell (p := ⟨b, 5, none⟩) la).trans c_a_5_w, (hb_I.cell (p := ⟨b2, 2, none⟩) lb).trans c_b_2_w, (hb_I.cell (p := ⟨b2, 3, none⟩) lb).trans c_b_3_w, (hb_I.cell (p := ⟨b2, 4, none⟩) lb).trans c_b_4_w, (hb_I.cell (p := ⟨b2, 5, none⟩) lb).trans c_b_5_w⟩ ?r31_98
        case y31_98 => (intro W hW; (try dsimp only at hW); go_simp; try (with_reducible rfl))
        simp only [Act.put, List.setIfInBounds_toArray, List.set_cons_zero, List.set_cons_succ]
        refine takeN (i := 32) (v := ?v32_99) (d := (some 37)) rfl rfl (by kernel_rfl) (by kernel_rfl) (by kernel_rfl) (fun _ _ _ h => h) (Or.inl ⟨by rfl, ?y32_99⟩) ⟨(hb_I.cell (p := ⟨b, 2, none⟩) la).trans c_a_2_w, (hb_I.cell (p := ⟨b, 3, none⟩) la).trans c_a_3_w, (hb_I.cell (p := ⟨b, 4, none⟩) la).trans c_a_4_w, (hb_I.cell (p := ⟨b, 5, none⟩) la).trans c_a_5_w, (hb_I.cell (p := ⟨b2, 2, none⟩) lb).trans c_b_2_w, (hb_I.cell (p := ⟨b2, 3, none⟩) lb).trans c_b_3_w, (hb_I.cell (p := ⟨b2, 4, none⟩) lb).trans c_b_4_w, (hb_I.cell (p := ⟨b2, 5, none⟩) lb).trans c_b_5_w⟩ ?r32_99
        case y32_99 => (intro W hW; (try dsimp only at hW); go_simp; try (with_reducible rfl))
        simp only [Act.put, List.setIfInBounds_toArray, List.set_cons_zero, List.set_cons_succ]
        refine takeN (i := 33) (v := ?v33_100) (d := (some 38)) rfl rfl (by kernel_rfl) (by kernel_rfl) (by kernel_rfl) (fun _ _ _ h => h) (Or.inl ⟨by rfl, ?y33_100⟩) ⟨(hb_I.cell (p := ⟨b, 2, none⟩) la).trans c_a_2_w, (hb_I.cell (p := ⟨b, 3, none⟩) la).trans c_a_3_w, (hb_I.cell (p := ⟨b, 4, none⟩) la).trans c_a_4_w, (hb_I.cell (p := ⟨b, 5, none⟩) la).trans c_a_5_w, (hb_I.cell (p := ⟨b2, 2, none⟩) lb).trans c_b_2_w, (hb_I.cell (p := ⟨b2, 3, none⟩) lb).trans c_b_3_w, (hb_I.cell (p := ⟨b2, 4, none⟩) lb).trans c_b_4_w, (hb_I.cell (p := ⟨b2, 5, none⟩) lb).trans c_b_5_w⟩ ?r33_100
        case y33_100 => (intro W hW; (try dsimp only at hW); go_simp; try (with_reducible rfl))
        simp only [Act.put, List.setIfInBounds_toArray, List.set_cons_zero, List.set_cons_succ]
        refine takeN (i := 34) (v := ?v34_101) (d := (some 39)) rfl rfl (by kernel_rfl) (by kernel_rfl) (by kernel_rfl) (fun _ _ _ h => h) (Or.inl ⟨by rfl, ?y34_101⟩) ⟨(hb_I.cell (p := ⟨b, 2, none⟩) la).trans c_a_2_w, (hb_I.cell (p := ⟨b, 3, none⟩) la).trans c_a_3_w, (hb_I.cell (p := ⟨b, 4, none⟩) la).trans c_a_4_w, (hb_I.cell (p := ⟨b, 5, none⟩) la).trans c_a_5_w, (hb_I.cell (p := ⟨b2, 2, none⟩) lb).trans c_b_2_w, (hb_I.cell (p := ⟨b2, 3, none⟩) lb).trans c_b_3_w, (hb_I.cell (p := ⟨b2, 4, none⟩) lb).trans c_b_4_w, (hb_I.cell (p := ⟨b2, 5, none⟩) lb).trans c_b_5_w⟩ ?r34_101
        case y34_101 => (intro W hW; (try dsimp only at hW); go_simp; try (with_reducible rfl))
        simp only [Act.put, List.setIfInBounds_toArray, List.set_cons_zero, List.set_cons_succ]
        refine takeN (i := 35) (v := ?v35_102) (d := (some 40)) rfl rfl (by kernel_rfl) (by kernel_rfl) (by kernel_rfl) (fun _ _ _ h => h) (Or.inl ⟨by rfl, ?y35_102⟩) ⟨(hb_I.cell (p := ⟨b, 2, none⟩) la).trans c_a_2_w, (hb_I.cell (p := ⟨b, 3, none⟩) la).trans c_a_3_w, (hb_I.cell (p := ⟨b, 4, none⟩) la).trans c_a_4_w, (hb_I.cell (p := ⟨b, 5, none⟩) la).trans c_a_5_w, (hb_I.cell (p := ⟨b2, 2, none⟩) lb).trans c_b_2_w, (hb_I.cell (p := ⟨b2, 3, none⟩) lb).trans c_b_3_w, (hb_I.cell (p := ⟨b2, 4, none⟩) lb).trans c_b_4_w, (hb_I.cell (p := ⟨b2, 5, none⟩) lb).trans c_b_5_w⟩ ?r35_102
        case y35_102 => (intro W hW; (try dsimp only at hW); go_simp; try (with_reducible rfl))
        simp only [Act.put, List.setIfInBounds_toArray, List.set_cons_zero, List.set_cons_succ]
        refine takeN (i := 36) (v := ?v36_103) (d := (some 41)) rfl rfl (by kernel_rfl) (by kernel_rfl) (by kernel_rfl) (fun _ _ _ h => h) (Or.inl ⟨by rfl, ?y36_103⟩) ⟨(hb_I.cell (p := ⟨b, 2, none⟩) la).trans c_a_2_w, (hb_I.cell (p := ⟨b, 3, none⟩) la).trans c_a_3_w, (hb_I.cell (p := ⟨b, 4, none⟩) la).trans c_a_4_w, (hb_I.cell (p := ⟨b, 5, none⟩) la).trans c_a_5_w, (hb_I.cell (p := ⟨b2, 2, none⟩) lb).trans c_b_2_w, (hb_I.cell (p := ⟨b2, 3, none⟩) lb).trans c_b_3_w, (hb_I.cell (p := ⟨b2, 4, none⟩) lb).trans c_b_4_w, (hb_I.cell (p := ⟨b2, 5, none⟩) lb).trans c_b_5_w⟩ ?r36_103
        case y36_103 => (intro W hW; (try dsimp only at hW); go_simp; try (with_reducible rfl))
        simp only [Act.put, List.setIfInBounds_toArray, List.set_cons_zero, List.set_cons_succ]
        refine takeN (i := 37) (v := ?v37_104) (d := (some 42)) rfl rfl (by kernel_rfl) (by kernel_rfl) (by kernel_rfl) (fun _ _ _ h => h) (Or.inl ⟨by rfl, ?y37_104⟩) ⟨(hb_I.cell (p := ⟨b, 2, none⟩) la).trans c_a_2_w, (hb_I.cell (p := ⟨b, 3, none⟩) la).trans c_a_3_w, (hb_I.cell (p := ⟨b, 4, none⟩) la).trans c_a_4_w, (hb_I.cell (p := ⟨b, 5, none⟩) la).trans c_a_5_w, (hb_I.cell (p := ⟨b2, 2, none⟩) lb).trans c_b_2_w, (hb_I.cell (p := ⟨b2, 3, none⟩) lb).trans c_b_3_w, (hb_I.cell (p := ⟨b2, 4, none⟩) lb).trans c_b_4_w, (hb_I.cell (p := ⟨b2, 5, none⟩) lb).trans c_b_5_w⟩ ?r37_104
        case y37_104 => (intro W hW; (try dsimp only at hW); go_simp; try (with_reducible rfl))
        simp only [Act.put, List.setIfInBounds_toArray, List.set_cons_zero, List.set_cons_succ]
        refine takeN (i := 38) (v := ?v38_105) (d := (some 43)) rfl rfl (by kernel_rfl) (by kernel_rfl) (by kernel_rfl) (fun _ _ _ h => h) (Or.inl ⟨by rfl, ?y38_105⟩) ⟨(hb_I.cell (p := ⟨b, 2, none⟩) la).trans c_a_2_w, (hb_I.cell (p := ⟨b, 3, none⟩) la).trans c_a_3_w, (hb_I.cell (p := ⟨b, 4, none⟩) la).trans c_a_4_w, (hb_I.cell (p := ⟨b, 5, none⟩) la).trans c_a_5_w, (hb_I.cell (p := ⟨b2, 2, none⟩) lb).trans c_b_2_w, (hb_I.cell (p := ⟨b2, 3, none⟩) lb).trans c_b_3_w, (hb_I.cell (p := ⟨b2, 4, none⟩) lb).trans c_b_4_w, (hb_I.cell (p := ⟨b2, 5, none⟩) lb).trans c_b_5_w⟩ ?r38_105
        case y38_105 => (intro W hW; (try dsimp only at hW); go_simp; try (with_reducible rfl))
        simp only [Act.put, List.setIfInBounds_toArray, List.set_cons_zero, List.set_cons_succ]
        refine takeN (i := 39) (v := ?v39_106) (d := (some 44)) rfl rfl (by kernel_rfl) (by kernel_rfl) (by kernel_rfl) (fun _ _ _ h => h) (Or.inl ⟨by rfl, ?y39_106⟩) ⟨(hb_I.cell (p := ⟨b, 2, none⟩) la).trans c_a_2_w, (hb_I.cell (p := ⟨b, 3, none⟩) la).trans c_a_3_w, (hb_I.cell (p := ⟨b, 4, none⟩) la).trans c_a_4_w, (hb_I.cell (p := ⟨b, 5, none⟩) la).trans c_a_5_w, (hb_I.cell (p := ⟨b2, 2, none⟩) lb).trans c_b_2_w, (hb_I.cell (p := ⟨b2, 3, none⟩) lb).trans c_b_3_w, (hb_I.cell (p := ⟨b2, 4, none⟩) lb).trans c_b_4_w, (hb_I.cell (p := ⟨b2, 5, none⟩) lb).trans c_b_5_w⟩ ?r39_106
        case y39_106 => (intro W hW; (try dsimp only at hW); go_simp; try (with_reducible rfl))
        simp only [Act.put, List.setIfInBounds_toArray, List.set_cons_zero, List.set_cons_succ]
        refine wpAnyH_ready (rs := [40]) (by kernel_rfl) (by simp) ?_
        refine AllReadyH.cons rfl (fun K hK => ?_) AllReadyH.nil
        go_simp
        refine (iEqualC_c (rAccs.from_ hb_I) (rAccsx.from_ hb_I)).mono ?_
        rintro e w_C ⟨rfl, hd_C⟩
        have hb_C : Below w.heap.size w w_C := hb_I.trans (hd_C.mono hb_I.size)
        rw [HC.out]
        refine hK.out _ _ ⟨(hb_C.cell (p := ⟨b, 2, none⟩) la).trans c_a_2_w, (hb_C.cell (p := ⟨b, 3, none⟩) la).trans c_a_3_w, (hb_C.cell (p := ⟨b, 4, none⟩) la).trans c_a_4_w, (hb_C.cell (p := ⟨b, 5, none⟩) la).trans c_a_5_w, (hb_C.cell (p := ⟨b2, 2, none⟩) lb).trans c_b_2_w, (hb_C.cell (p := ⟨b2, 3, none⟩) lb).trans c_b_3_w, (hb_C.cell (p := ⟨b2, 4, none⟩) lb).trans c_b_4_w, (hb_C.cell (p := ⟨b2, 5, none⟩) lb).trans c_b_5_w⟩ (fun _ => ?_)
        clear hK K
        refine takeN (i := 41) (v := ?v41_107) (d := (some 46)) rfl rfl (by kernel_rfl) (by kernel_rfl) (by kernel_rfl) (fun _ _ _ h => h) (Or.inl ⟨by rfl, ?y41_107⟩) ⟨(hb_C.cell (p := ⟨b, 2, none⟩) la).trans c_a_2_w, (hb_C.cell (p := ⟨b, 3, none⟩) la).trans c_a_3_w, (hb_C.cell (p := ⟨b, 4, none⟩) la).trans c_a_4_w, (hb_C.cell (p := ⟨b, 5, none⟩) la).trans c_a_5_w, (hb_C.cell (p := ⟨b2, 2, none⟩) lb).trans c_b_2_w, (hb_C.cell (p := ⟨b2, 3, none⟩) lb).trans c_b_3_w, (hb_C.cell (p := ⟨b2, 4, none⟩) lb).trans c_b_4_w, (hb_C.cell (p := ⟨b2, 5, none⟩) lb).trans c_b_5_w⟩ ?r41_107
        case y41_107 => (intro W hW; (try dsimp only at hW); go_simp; try (with_reducible rfl))
        simp only [Act.put, List.setIfInBounds_toArray, List.set_cons_zero, List.set_cons_succ]
        refine takeN (i := 42) (v := ?v42_108) (d := (some 4)) rfl rfl (by kernel_rfl) (by kernel_rfl) (by kernel_rfl) (fun _ _ _ h => h) (Or.inl ⟨by rfl, ?y42_108⟩) ⟨(hb_C.cell (p := ⟨b, 2, none⟩) la).trans c_a_2_w, (hb_C.cell (p := ⟨b, 3, none⟩) la).trans c_a_3_w, (hb_C.cell (p := ⟨b, 4, none⟩) la).trans c_a_4_w, (hb_C.cell (p := ⟨b, 5, none⟩) la).trans c_a_5_w, (hb_C.cell (p := ⟨b2, 2, none⟩) lb).trans c_b_2_w, (hb_C.cell (p := ⟨b2, 3, none⟩) lb).trans c_b_3_w, (hb_C.cell (p := ⟨b2, 4, none⟩) lb).trans c_b_4_w, (hb_C.cell (p := ⟨b2, 5, none⟩) lb).trans c_b_5_w⟩ ?r42_108
        case y42_108 => (intro W hW; (try dsimp only at hW); go_simp; try (with_reducible rfl))
        simp only [Act.put, List.setIfInBounds_toArray, List.set_cons_zero, List.set_cons_succ]
        refine wpAnyH_done (by kernel_rfl) ?_ _
        go_wp2
        go_ret
        exact ⟨ret_eq (by rw [HO.out]; rfl), B0.trans hb_C⟩

set_option maxHeartbeats 4000000 in
theorem iNodeSame_c {w : World} {v v' : Value} {d g : MNode} (h : RV nodeL w v d) (h' : RV nodeL w v' g) (hb : d.bulk ≤ 16777216) (hb' : g.bulk ≤ 16777216) (hq : QNode d) (hq' : QNode g) : Calls Try.prog 23 #[v, v'] w fun e w' => e = .returned (.bool (nodeSameB d g)) ∧ Below w.heap.size w w' := by
  obtain ⟨AAccts, cAccts, AOuts, cOuts, AIns, cIns, AAccs, cAccs, rfl, rAccts, rOuts, rIns, rAccs⟩ := rv_node h
  obtain ⟨AAcctsx, cAcctsx, AOutsx, cOutsx, AInsx, cInsx, AAccsx, cAccsx, rfl, rAcctsx, rOutsx, rInsx, rAccsx⟩ := rv_node h'
  clear h h'
  unfold MNode.bulk sizeAcctS sizeOutS at hb hb'
  obtain ⟨wa, hwa, B0, sa, x_a, x_b⟩ := frame2 w 34 [.int .i64 d.Id, .int .i64 d.N, .slice AAccts d.Accts.length cAccts, .slice AOuts d.Outs.length cOuts, .slice AIns d.Ins.length cIns, .slice AAccs d.Accs.length cAccs, .int .i64 d.Stray, .int .i64 d.Came, .int .i64 d.Went] 34 [.int .i64 g.Id, .int .i64 g.N, .slice AAcctsx g.Accts.length cAcctsx, .slice AOutsx g.Outs.length cOutsx, .slice AInsx g.Ins.length cInsx, .slice AAccsx g.Accs.length cAccsx, .int .i64 g.Stray, .int .i64 g.Came, .int .i64 g.Went]
  have sa_1 := Nat.le_of_eq sa
  have sa_2 := Nat.le_of_eq sa.symm
  clear sa
  obtain ⟨zN, hN⟩ : ∃ z, numsB d g = z := ⟨_, rfl⟩
  obtain ⟨zL, hL⟩ : ∃ z, listsB d g = z := ⟨_, rfl⟩
  have HE : Hid (nodeSameB d g = (zN && zL)) := by show _ = _; rw [nodeSame_split, hN, hL]
  have HN := Lib.hid hN
  have HL := Lib.hid hL
  clear hN hL
  cases zN
  case false =>
    have HO : Hid (nodeSameB d g = false) := HE.out
    go_enter Try.func23, Try.ntmps23
    go_wp2_with fail
    refine (iSameNums_c x_a x_b).mono ?_
    rintro e w1 ⟨rfl, h_w1⟩
    replace x_a := x_a.from_ h_w1
    replace x_b := x_b.from_ h_w1
    have B_w1 := B0.trans (h_w1.mono B0.size)
    have s_w1 := h_w1.size
    rw [HN.out]
    go_wp2
    go_ret
    exact ⟨ret_eq (by rw [HO.out]; rfl), B_w1⟩
  have HO : Hid (nodeSameB d g = zL) := HE.out
  go_enter Try.func23, Try.ntmps23
  go_wp2_with fail
  refine (iSameNums_c x_a x_b).mono ?_
  rintro e w1 ⟨rfl, h_w1⟩
  replace x_a := x_a.from_ h_w1
  replace x_b := x_b.from_ h_w1
  have B_w1 := B0.trans (h_w1.mono B0.size)
  have s_w1 := h_w1.size
  rw [HN.out]
  go_wp2_with fail
  refine (iSameLists_c x_a x_b (rAccts.from_ B_w1) (rOuts.from_ B_w1) (rIns.from_ B_w1) (rAccs.from_ B_w1) (rAcctsx.from_ B_w1) (rOutsx.from_ B_w1) (rInsx.from_ B_w1) (rAccsx.from_ B_w1) (by omega) (by omega)).mono ?_
  rintro e w2 ⟨rfl, h_w2⟩
  replace x_a := x_a.from_ h_w2
  replace x_b := x_b.from_ h_w2
  have B_w2 := B_w1.trans (h_w2.mono B_w1.size)
  have s_w2 := h_w2.size
  rw [HL.out]
  go_wp2
  go_ret
  exact ⟨ret_eq (by rw [HO.out]; rfl), B_w2⟩

end Go.Proofs.Ytdoipabfmekdlaa
