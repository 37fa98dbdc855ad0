/- Boxes: the contracts of spec.OutSame, spec.OutWorth. Laid by a program of ours (src/box3.py). -/
import Derived.Test.YtpaodpkgpajboaaBox2
import Derived.Test.YtpaodpkgpajboaaMsgEq
namespace Go.Proofs.Ytpaodpkgpajboaa
open Go.RowKit
set_option linter.unusedVariables false

def outSameB (a b : MOut) : Bool := decide (a.Next = b.Next ∧ a.List = b.List)
def outW (o : MOut) (last : Int) : Nat → Int
  | 0 => 0
  | k + 1 => outW o last k + (if outOkB o = true ∧ last < outFirst o + (k : Int) then msgWorth (o.List.getD k ⟨0, 0, 0, 0⟩) else 0)
def outWorth (o : MOut) (last : Int) : Int := outW o last o.List.length
theorem msgWorth_range (m : MMsg) : 0 ≤ msgWorth m ∧ msgWorth m ≤ 1000000000 := by
  unfold msgWorth
  split
  · rename_i h
    have h1 := msgOk_parts h.1
    have h2 := h.1
    simp only [msgOkB, Bool.and_eq_true] at h2
    have h3 := h2.2.2.2
    unfold amtOkB at h3
    rw [if_pos (by omega)] at h3
    unfold amtB at h3
    rw [inB_true] at h3
    omega
  · omega
theorem outW_range (o : MOut) (last : Int) : ∀ k : Nat, 0 ≤ outW o last k ∧ outW o last k ≤ 1000000000 * (k : Int)
  | 0 => by simp [outW]
  | k + 1 => by
    have h := outW_range o last k
    have g := msgWorth_range (o.List.getD k ⟨0, 0, 0, 0⟩)
    rw [outW]
    split <;> omega

set_option maxHeartbeats 2000000 in
theorem sOutWorth_c {w : World} {v : Value} {o : MOut} {q : Int} (h : RV outL w v o) (hm : o.List.length ≤ 16777216) (hq : -9223372036854775808 ≤ q ∧ q ≤ 9223372036854775807) : Calls Try.prog 39 #[v, .int .i64 q] w fun e w' => e = .returned (.int .i64 (outWorth o q)) ∧ Below w.heap.size w w' := by
  have h0 := h
  obtain ⟨A, c, rfl, hr0⟩ := rv_out h
  obtain ⟨A', c', he, hc1, hc2, hr⟩ := rv_slice hr0
  simp only [Value.slice.injEq, true_and] at he
  obtain ⟨rfl, rfl⟩ := he
  clear h
  obtain ⟨wa, hwa, B0, sa, x_a⟩ := frame1 w 26 [.int .i64 o.Next, .slice A o.List.length c]
  have sa_1 := Nat.le_of_eq sa
  have sa_2 := Nat.le_of_eq sa.symm
  clear sa
  have c_a_0_wa := x_a.cell (i := 0) rfl
  have c_a_1_wa := x_a.cell (i := 1) rfl
  have hfr : 0 ≤ outFirst o ∧ outFirst o ≤ 1125899906842624 := by
    unfold outFirst
    split
    · rename_i hk; have := outOk_parts hk; omega
    · omega
  obtain ⟨f, hf⟩ : ∃ f, outFirst o = f := ⟨_, rfl⟩
  rw [hf] at hfr
  have HF := Lib.hid hf
  clear hf
  go_enter Try.func39, Try.ntmps39
  go_wp2
  go_loopw [5, 11] (fun n i wr => ∃ (k : Nat) (z : Int), k ≤ o.List.length ∧ i = .int .i64 k ∧ n = .int .i64 z ∧ (0 ≤ z ∧ z ≤ 1000000000 * (k : Int)) ∧ Hid (z = outW o q k) ∧ Vr wr w.heap.size 26 [.int .i64 o.Next, .slice A o.List.length c] ∧ Below w.heap.size w wr) (fun _ i _ => o.List.length - (intOf i).toNat)
  case atStart => exact ⟨0, 0, Nat.zero_le _, rfl, rfl, ⟨by omega, by omega⟩, rfl, x_a, B0⟩
  case round =>
    clear c_a_0_wa c_a_1_wa x_a hwa
    obtain ⟨k, z, hk, rfl, rfl, hz, HZ, x_a, HB⟩ := hrel
    have hs := HB.size
    by_cases hlt : k < o.List.length
    case neg =>
      have hk2 : k = o.List.length := by omega
      subst hk2
      go_wp2
      go_ret
      exact ⟨ret_eq (by rw [HZ.out]; rfl), HB⟩
    obtain ⟨x, hxe⟩ := get_of_lt hlt
    obtain ⟨b, off, rfl, hb, e0, e1, e2, e3⟩ := el_msg (hr.below HB) hxe
    have i1 : (k : Int) < (o.List.length : Int) := by omega
    have hg : o.List.getD k ⟨0, 0, 0, 0⟩ = x := by rw [List.getD_eq_getElem?_getD, hxe]; rfl
    have hwr := msgWorth_range x
    obtain ⟨y, hy⟩ : ∃ y, msgWorth x = y := ⟨_, rfl⟩
    rw [hy] at hwr
    have HY := Lib.hid hy
    clear hxe
    obtain ⟨w1, e_w1, s_w1, h_w1, x_m⟩ := alloc_step wr 29 [.int .i64 x.Kind, .int .i64 x.Acct, .int .i64 x.Amt, .int .i64 x.Src]
    have s_w1_1 := Nat.le_of_eq s_w1
    have s_w1_2 := Nat.le_of_eq s_w1.symm
    clear s_w1
    replace x_a := x_a.from_ h_w1
    have B_w1 := HB.trans (h_w1.mono HB.size)
    have c_a_0_w1 := x_a.cell (i := 0) rfl
    have f_a_0_w1 := x_a.frozen 0
    have c_a_1_w1 := x_a.cell (i := 1) rfl
    have f_a_1_w1 := x_a.frozen 1
    have c_m_0_w1 := x_m.cell (i := 0) rfl
    have f_m_0_w1 := x_m.frozen 0
    have c_m_1_w1 := x_m.cell (i := 1) rfl
    have f_m_1_w1 := x_m.frozen 1
    have c_m_2_w1 := x_m.cell (i := 2) rfl
    have f_m_2_w1 := x_m.frozen 2
    have c_m_3_w1 := x_m.cell (i := 3) rfl
    have f_m_3_w1 := x_m.frozen 3
    by_cases hok : outOkB o = true
    case neg =>
      have H2 : Hid (z = outW o q (k + 1)) := by show _ = _; rw [outW, if_neg (fun h => hok h.1), HZ.out, Int.add_zero]
      have hok' : outOkB o = false := by simpa using hok
      have HK := Lib.hid hok'
      clear hok hok' hg hy
      go_wp2_with fail
      refine (sOutOk_c (h0.from_ B_w1) hm).mono ?_
      rintro e w2 ⟨rfl, h_w2⟩
      clear c_a_0_w1 f_a_0_w1 c_a_1_w1 f_a_1_w1 c_m_0_w1 f_m_0_w1 c_m_1_w1 f_m_1_w1 c_m_2_w1 f_m_2_w1 c_m_3_w1 f_m_3_w1
      replace x_a := x_a.from_ h_w2
      replace x_m := x_m.from_ h_w2
      have B_w2 := B_w1.trans (h_w2.mono B_w1.size)
      have s_w2 := h_w2.size
      rw [HK.out]
      have c_a_0_w2 := x_a.cell (i := 0) rfl
      have f_a_0_w2 := x_a.frozen 0
      have c_a_1_w2 := x_a.cell (i := 1) rfl
      have f_a_1_w2 := x_a.frozen 1
      have c_m_0_w2 := x_m.cell (i := 0) rfl
      have f_m_0_w2 := x_m.frozen 0
      have c_m_1_w2 := x_m.cell (i := 1) rfl
      have f_m_1_w2 := x_m.frozen 1
      have c_m_2_w2 := x_m.cell (i := 2) rfl
      have f_m_2_w2 := x_m.frozen 2
      have c_m_3_w2 := x_m.cell (i := 3) rfl
      have f_m_3_w2 := x_m.frozen 3
      go_wp2
      go_roundw
      case rel => exact ⟨k + 1, _, by omega, by go_num, rfl, by omega, H2, x_a, B_w2⟩
      case measure => simp [intOf]; omega
    have HK := Lib.hid hok
    by_cases hgt : q < f + (k : Int)
    case pos =>
      have H2 : Hid (z + y = outW o q (k + 1)) := by show _ = _; rw [outW, HF.out, if_pos ⟨hok, hgt⟩, hg, hy, HZ.out]
      have g : decide (q < f + (k : Int)) = true := decide_eq_true hgt
      clear hok hg hy
      go_wp2_with fail
      refine (sOutOk_c (h0.from_ B_w1) hm).mono ?_
      rintro e w2 ⟨rfl, h_w2⟩
      clear c_a_0_w1 f_a_0_w1 c_a_1_w1 f_a_1_w1 c_m_0_w1 f_m_0_w1 c_m_1_w1 f_m_1_w1 c_m_2_w1 f_m_2_w1 c_m_3_w1 f_m_3_w1
      replace x_a := x_a.from_ h_w2
      replace x_m := x_m.from_ h_w2
      have B_w2 := B_w1.trans (h_w2.mono B_w1.size)
      have s_w2 := h_w2.size
      rw [HK.out]
      have c_a_0_w2 := x_a.cell (i := 0) rfl
      have f_a_0_w2 := x_a.frozen 0
      have c_a_1_w2 := x_a.cell (i := 1) rfl
      have f_a_1_w2 := x_a.frozen 1
      have c_m_0_w2 := x_m.cell (i := 0) rfl
      have f_m_0_w2 := x_m.frozen 0
      have c_m_1_w2 := x_m.cell (i := 1) rfl
      have f_m_1_w2 := x_m.frozen 1
      have c_m_2_w2 := x_m.cell (i := 2) rfl
      have f_m_2_w2 := x_m.frozen 2
      have c_m_3_w2 := x_m.cell (i := 3) rfl
      have f_m_3_w2 := x_m.frozen 3
      go_wp2_with fail
      refine (sOutFirst_c (h0.from_ B_w2) hm).mono ?_
      rintro e w3 ⟨rfl, h_w3⟩
      clear c_a_0_w2 f_a_0_w2 c_a_1_w2 f_a_1_w2 c_m_0_w2 f_m_0_w2 c_m_1_w2 f_m_1_w2 c_m_2_w2 f_m_2_w2 c_m_3_w2 f_m_3_w2
      replace x_a := x_a.from_ h_w3
      replace x_m := x_m.from_ h_w3
      have B_w3 := B_w2.trans (h_w3.mono B_w2.size)
      have s_w3 := h_w3.size
      rw [HF.out]
      have c_a_0_w3 := x_a.cell (i := 0) rfl
      have f_a_0_w3 := x_a.frozen 0
      have c_a_1_w3 := x_a.cell (i := 1) rfl
      have f_a_1_w3 := x_a.frozen 1
      have c_m_0_w3 := x_m.cell (i := 0) rfl
      have f_m_0_w3 := x_m.frozen 0
      have c_m_1_w3 := x_m.cell (i := 1) rfl
      have f_m_1_w3 := x_m.frozen 1
      have c_m_2_w3 := x_m.cell (i := 2) rfl
      have f_m_2_w3 := x_m.frozen 2
      have c_m_3_w3 := x_m.cell (i := 3) rfl
      have f_m_3_w3 := x_m.frozen 3
      go_wp2_with fail
      refine (sMsgWorth_c (m := x) rv_msg_mk).mono ?_
      rintro e w4 ⟨rfl, h_w4⟩
      clear c_a_0_w3 f_a_0_w3 c_a_1_w3 f_a_1_w3 c_m_0_w3 f_m_0_w3 c_m_1_w3 f_m_1_w3 c_m_2_w3 f_m_2_w3 c_m_3_w3 f_m_3_w3
      replace x_a := x_a.from_ h_w4
      replace x_m := x_m.from_ h_w4
      have B_w4 := B_w3.trans (h_w4.mono B_w3.size)
      have s_w4 := h_w4.size
      rw [HY.out]
      have c_a_0_w4 := x_a.cell (i := 0) rfl
      have f_a_0_w4 := x_a.frozen 0
      have c_a_1_w4 := x_a.cell (i := 1) rfl
      have f_a_1_w4 := x_a.frozen 1
      have c_m_0_w4 := x_m.cell (i := 0) rfl
      have f_m_0_w4 := x_m.frozen 0
      have c_m_1_w4 := x_m.cell (i := 1) rfl
      have f_m_1_w4 := x_m.frozen 1
      have c_m_2_w4 := x_m.cell (i := 2) rfl
      have f_m_2_w4 := x_m.frozen 2
      have c_m_3_w4 := x_m.cell (i := 3) rfl
      have f_m_3_w4 := x_m.frozen 3
      go_wp2
      go_roundw
      case rel => exact ⟨k + 1, _, by omega, by go_num, rfl, by omega, H2, x_a, B_w4⟩
      case measure => simp [intOf]; omega
    case neg =>
      have H2 : Hid (z = outW o q (k + 1)) := by show _ = _; rw [outW, HF.out, if_neg (fun h => hgt h.2), HZ.out, Int.add_zero]
      have g : decide (q < f + (k : Int)) = false := decide_eq_false hgt
      clear hok hg hy
      go_wp2_with fail
      refine (sOutOk_c (h0.from_ B_w1) hm).mono ?_
      rintro e w2 ⟨rfl, h_w2⟩
      clear c_a_0_w1 f_a_0_w1 c_a_1_w1 f_a_1_w1 c_m_0_w1 f_m_0_w1 c_m_1_w1 f_m_1_w1 c_m_2_w1 f_m_2_w1 c_m_3_w1 f_m_3_w1
      replace x_a := x_a.from_ h_w2
      replace x_m := x_m.from_ h_w2
      have B_w2 := B_w1.trans (h_w2.mono B_w1.size)
      have s_w2 := h_w2.size
      rw [HK.out]
      have c_a_0_w2 := x_a.cell (i := 0) rfl
      have f_a_0_w2 := x_a.frozen 0
      have c_a_1_w2 := x_a.cell (i := 1) rfl
      have f_a_1_w2 := x_a.frozen 1
      have c_m_0_w2 := x_m.cell (i := 0) rfl
      have f_m_0_w2 := x_m.frozen 0
      have c_m_1_w2 := x_m.cell (i := 1) rfl
      have f_m_1_w2 := x_m.frozen 1
      have c_m_2_w2 := x_m.cell (i := 2) rfl
      have f_m_2_w2 := x_m.frozen 2
      have c_m_3_w2 := x_m.cell (i := 3) rfl
      have f_m_3_w2 := x_m.frozen 3
      go_wp2_with fail
      refine (sOutFirst_c (h0.from_ B_w2) hm).mono ?_
      rintro e w3 ⟨rfl, h_w3⟩
      clear c_a_0_w2 f_a_0_w2 c_a_1_w2 f_a_1_w2 c_m_0_w2 f_m_0_w2 c_m_1_w2 f_m_1_w2 c_m_2_w2 f_m_2_w2 c_m_3_w2 f_m_3_w2
      replace x_a := x_a.from_ h_w3
      replace x_m := x_m.from_ h_w3
      have B_w3 := B_w2.trans (h_w3.mono B_w2.size)
      have s_w3 := h_w3.size
      rw [HF.out]
      have c_a_0_w3 := x_a.cell (i := 0) rfl
      have f_a_0_w3 := x_a.frozen 0
      have c_a_1_w3 := x_a.cell (i := 1) rfl
      have f_a_1_w3 := x_a.frozen 1
      have c_m_0_w3 := x_m.cell (i := 0) rfl
      have f_m_0_w3 := x_m.frozen 0
      have c_m_1_w3 := x_m.cell (i := 1) rfl
      have f_m_1_w3 := x_m.frozen 1
      have c_m_2_w3 := x_m.cell (i := 2) rfl
      have f_m_2_w3 := x_m.frozen 2
      have c_m_3_w3 := x_m.cell (i := 3) rfl
      have f_m_3_w3 := x_m.frozen 3
      go_wp2
      go_roundw
      case rel => exact ⟨k + 1, _, by omega, by go_num, rfl, by omega, H2, x_a, B_w3⟩
      case measure => simp [intOf]; omega

set_option maxHeartbeats 2000000 in
theorem sOutSame_c {w : World} {v v' : Value} {o p : MOut} (h : RV outL w v o) (hp : RV outL w v' p) (hm : o.List.length ≤ 16777216) (hm2 : p.List.length ≤ 16777216) : Calls Try.prog 37 #[v, v'] w fun e w' => e = .returned (.bool (outSameB o p)) ∧ Below w.heap.size w w' := by
  have h0 := h
  obtain ⟨A, c, rfl, hr0⟩ := rv_out h
  obtain ⟨A', c', he, hc1, hc2, hr⟩ := rv_slice hr0
  simp only [Value.slice.injEq, true_and] at he
  obtain ⟨rfl, rfl⟩ := he
  clear h
  obtain ⟨A2, c2, rfl, hp0⟩ := rv_out hp
  obtain ⟨A', c', he, hd1, hd2, hr2⟩ := rv_slice hp0
  simp only [Value.slice.injEq, true_and] at he
  obtain ⟨rfl, rfl⟩ := he
  clear hp
  obtain ⟨wa, hwa, B0, sa, x_a, x_b⟩ := frame2 w 26 [.int .i64 o.Next, .slice A o.List.length c] 26 [.int .i64 p.Next, .slice A2 p.List.length c2]
  have sa_1 := Nat.le_of_eq sa
  have sa_2 := Nat.le_of_eq sa.symm
  clear sa
  have c_a_0_wa := x_a.cell (i := 0) rfl
  have c_a_1_wa := x_a.cell (i := 1) rfl
  have c_b_0_wa := x_b.cell (i := 0) rfl
  have c_b_1_wa := x_b.cell (i := 1) rfl
  by_cases hn : o.Next = p.Next
  case neg =>
    have HO : Hid (outSameB o p = false) := decide_eq_false (fun h => hn h.1)
    have g : (o.Next != p.Next) = true := by simpa using hn
    clear hn
    go_enter Try.func37, Try.ntmps37
    go_wp2
    go_ret
    exact ⟨ret_eq (by rw [HO.out]; rfl), B0⟩
  have g : (o.Next != p.Next) = false := by simpa using hn
  have HN := Lib.hid hn
  clear hn
  by_cases hl : o.List.length = p.List.length
  case neg =>
    have HO : Hid (outSameB o p = false) := decide_eq_false (fun h => hl (by rw [h.2]))
    have g2 : ((o.List.length : Int) != (p.List.length : Int)) = true := by simp; omega
    clear hl
    go_enter Try.func37, Try.ntmps37
    go_wp2
    go_ret
    exact ⟨ret_eq (by rw [HO.out]; rfl), B0⟩
  have g2 : ((o.List.length : Int) != (p.List.length : Int)) = false := by simp; omega
  have l1 := Nat.le_of_eq hl
  have l2 := Nat.le_of_eq hl.symm
  clear hl
  go_enter Try.func37, Try.ntmps37
  go_wp2
  go_loopw [24] (fun i wr => ∃ k : Nat, k ≤ o.List.length ∧ i = .int .i64 k ∧ Hid (o.List.take k = p.List.take k) ∧ Vr wr w.heap.size 26 [.int .i64 o.Next, .slice A o.List.length c] ∧ Vr wr (w.heap.size + 1) 26 [.int .i64 p.Next, .slice A2 p.List.length c2] ∧ Below w.heap.size w wr) (fun i _ => o.List.length - (intOf i).toNat)
  case atStart => exact ⟨0, Nat.zero_le _, rfl, rfl, x_a, x_b, B0⟩
  case round =>
    clear c_a_0_wa c_a_1_wa c_b_0_wa c_b_1_wa x_a x_b hwa
    obtain ⟨k, hk, rfl, HT, x_a, x_b, HB⟩ := hrel
    have hs := HB.size
    by_cases hlt : k < o.List.length
    case neg =>
      have HO : Hid (outSameB o p = true) := decide_eq_true ⟨HN.out, by have := HT.out; rwa [List.take_of_length_le (by omega), List.take_of_length_le (by omega)] at this⟩
      have hk2 : k = o.List.length := by omega
      subst hk2
      go_wp2
      go_ret
      exact ⟨ret_eq (by rw [HO.out]; rfl), HB⟩
    obtain ⟨x, hxe⟩ := get_of_lt hlt
    obtain ⟨y, hye⟩ := get_of_lt (xs := p.List) (k := k) (by omega)
    obtain ⟨b, off, rfl, hb, e0, e1, e2, e3⟩ := el_msg (hr.below HB) hxe
    obtain ⟨b', off', rfl, hb', d0, d1, d2, d3⟩ := el_msg (hr2.below HB) hye
    have i1 : (k : Int) < (o.List.length : Int) := by omega
    have i2 : (k : Int) < (p.List.length : Int) := by omega
    obtain ⟨w1, e_w1, s_w1, h_w1, x_m⟩ := alloc_step wr 29 [.int .i64 x.Kind, .int .i64 x.Acct, .int .i64 x.Amt, .int .i64 x.Src]
    have s_w1_1 := Nat.le_of_eq s_w1
    have s_w1_2 := Nat.le_of_eq s_w1.symm
    clear s_w1
    replace x_a := x_a.from_ h_w1
    replace x_b := x_b.from_ h_w1
    have B_w1 := HB.trans (h_w1.mono HB.size)
    have c_a_0_w1 := x_a.cell (i := 0) rfl
    have c_a_1_w1 := x_a.cell (i := 1) rfl
    have c_b_0_w1 := x_b.cell (i := 0) rfl
    have c_b_1_w1 := x_b.cell (i := 1) rfl
    have c_m_0_w1 := x_m.cell (i := 0) rfl
    have c_m_1_w1 := x_m.cell (i := 1) rfl
    have c_m_2_w1 := x_m.cell (i := 2) rfl
    have c_m_3_w1 := x_m.cell (i := 3) rfl
    replace d0 := (h_w1.cell (p := ⟨b', off' + k * 4, none⟩) (by show b' < wr.heap.size; omega)).trans d0
    replace d1 := (h_w1.cell (p := ⟨b', off' + k * 4 + 1, none⟩) (by show b' < wr.heap.size; omega)).trans d1
    replace d2 := (h_w1.cell (p := ⟨b', off' + k * 4 + 2, none⟩) (by show b' < wr.heap.size; omega)).trans d2
    replace d3 := (h_w1.cell (p := ⟨b', off' + k * 4 + 3, none⟩) (by show b' < wr.heap.size; omega)).trans d3
    have gd := fun op x y W xs ys => guard_msg_run op x y W xs ys
    have gn := fun W => neq_msg_run W x y
    by_cases hxy : x = y
    case pos =>
      rw [show (!decide (x = y)) = false by simp [hxy]] at gn
      have H2 : Hid (o.List.take (k + 1) = p.List.take (k + 1)) := take_succ_eqL HT.out hxe (by rw [hye, hxy])
      clear hxy hxe hye
      go_wp2_with fail
      go_quiet (fail)
      have B9 : Below w.heap.size w (w1.drewN nq) := B_w1.trans (below_of_drew _ _ nq)
      have X1 := x_a.from_ (below_of_drew _ _ nq)
      have X2 := x_b.from_ (below_of_drew _ _ nq)
      go_wp2
      go_roundw
      case rel => exact ⟨k + 1, by omega, by go_num, H2, X1, X2, B9⟩
      case measure => simp [intOf]; omega
    case neg =>
      rw [show (!decide (x = y)) = true by simp [hxy]] at gn
      have HO : Hid (outSameB o p = false) := decide_eq_false (fun h => hxy (by have h1 := hxe; rw [h.2, hye] at h1; simpa using h1.symm))
      clear hxy hxe hye
      go_wp2_with fail
      go_quiet (fail)
      go_wp2
      go_ret
      exact ⟨ret_eq (by rw [HO.out]; rfl), B_w1.trans (below_of_drew _ _ _)⟩

end Go.Proofs.Ytpaodpkgpajboaa
