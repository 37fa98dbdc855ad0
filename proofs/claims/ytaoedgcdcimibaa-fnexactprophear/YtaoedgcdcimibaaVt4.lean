/- Votes: the contracts of spec.PropHear, PropGot. Laid by a program of ours (src/vt4.py). -/
import Derived.Test.YtaoedgcdcimibaaVt3
namespace Go.Proofs.Ytaoedgcdcimibaa
open Go.RowKit
set_option linter.unusedVariables false

def hearB (p : MProp) (n b u : Int) : Bool := propOkB p && (inB n 0 3 && (!hasI p.From n && (inB b 0 (p.Bal - 1) && !(decide (0 < b) && !inB u 1 4))))
def propHear (p : MProp) (n b u : Int) : MProp := if hearB p n b u = true then (if p.Best < b then ⟨p.Bal, u, addI p.From n, b, p.Got⟩ else ⟨p.Bal, p.Val, addI p.From n, p.Best, p.Got⟩) else p
def gotB (p : MProp) (n : Int) : Bool := propOkB p && (inB n 0 3 && !hasI p.Got n)
def propGot (p : MProp) (n : Int) : MProp := if gotB p n = true then ⟨p.Bal, p.Val, p.From, p.Best, addI p.Got n⟩ else p
theorem addI_len (l : List Int) (n : Int) : (addI l n).length ≤ 2 * l.length + 1 := by
  unfold addI
  have h1 := List.length_filter_le (fun x => decide (x < n)) l
  have h2 := List.length_filter_le (fun x => decide (n < x)) l
  simp only [List.length_append, List.length_singleton]
  omega
theorem ov_prop_parts {w : World} {lo hi : Nat} {v : Value} {p : MProp} (h : OV propL w lo hi v p) : ∃ AF cF AT cT, v = .agg #[.int .i64 p.Bal, .int .i64 p.Val, .slice AF p.From.length cF, .int .i64 p.Best, .slice AT p.Got.length cT] ∧
    OS .i64 3 w lo hi (.slice AF p.From.length cF) p.From ∧ OS .i64 3 w lo hi (.slice AT p.Got.length cT) p.Got := by
  obtain ⟨cs, S, rfl, ho, hn, hS, hh⟩ := h
  obtain ⟨_, _, S1, T1, rfl, rfl, ⟨rfl, rfl⟩, _, _, S2, T2, rfl, rfl, ⟨rfl, rfl⟩, _, _, S3, T3, rfl, rfl, ⟨vF, rfl, oF, rfl⟩, _, _, S4, T4, rfl, rfl, ⟨rfl, rfl⟩, ⟨vT, rfl, oT, rfl⟩⟩ := ho
  simp only [List.nil_append] at hn hS
  obtain ⟨n1, n2, -, -⟩ := nodup_app hn
  have qF : OS .i64 3 w lo hi vF p.From := ov_ints.1 ⟨[vF], _, rfl, ⟨vF, rfl, oF, rfl⟩, n1, fun j hj => hS j (List.mem_append.2 (.inl hj)), hh⟩
  have qT : OS .i64 3 w lo hi vT p.Got := ov_ints.1 ⟨[vT], _, rfl, ⟨vT, rfl, oT, rfl⟩, n2, fun j hj => hS j (List.mem_append.2 (.inr hj)), hh⟩
  obtain ⟨AF, cF, rfl, -, -, -⟩ := qF.rd
  obtain ⟨AT, cT, rfl, -, -, -⟩ := qT.rd
  exact ⟨AF, cF, AT, cT, rfl, qF, qT⟩

theorem propOk_bal {p : MProp} (h : propOkB p = true) : 1 ≤ p.Bal ∧ p.Bal ≤ 1125899906842624 := by
  unfold propOkB at h
  simp only [Bool.and_eq_true, inB_true] at h
  exact h.1

set_option maxRecDepth 100000 in
set_option maxHeartbeats 4000000 in
theorem sPropHear_c {w : World} {v : Value} {p : MProp} {n b u : Int} (h : RV propL w v p) (hm : p.bulk ≤ 16777216) : Calls Try.prog 42 #[v, .int .i64 n, .int .i64 b, .int .i64 u] w (NewV propL w (propHear p n b u)) := by
  have h0 := h
  obtain ⟨AF, cF, AT, cT, rfl, rF, rT⟩ := rv_prop h
  clear h
  obtain ⟨wa, hwa, B0, sa, x_p, x_r⟩ := frame2 w 26 [.int .i64 p.Bal, .int .i64 p.Val, .slice AF p.From.length cF, .int .i64 p.Best, .slice AT p.Got.length cT] 26 [.int .i64 0, .int .i64 0, .slice none 0 0, .int .i64 0, .slice none 0 0]
  have sa_1 := Nat.le_of_eq sa
  have sa_2 := Nat.le_of_eq sa.symm
  clear sa
  have c_p_0_wa := x_p.cell (i := 0) rfl
  have f_p_0_wa := x_p.frozen 0
  have c_p_1_wa := x_p.cell (i := 1) rfl
  have f_p_1_wa := x_p.frozen 1
  have c_p_2_wa := x_p.cell (i := 2) rfl
  have f_p_2_wa := x_p.frozen 2
  have c_p_3_wa := x_p.cell (i := 3) rfl
  have f_p_3_wa := x_p.frozen 3
  have c_p_4_wa := x_p.cell (i := 4) rfl
  have f_p_4_wa := x_p.frozen 4
  have c_r_0_wa := x_r.cell (i := 0) rfl
  have f_r_0_wa := x_r.frozen 0
  have c_r_1_wa := x_r.cell (i := 1) rfl
  have f_r_1_wa := x_r.frozen 1
  have c_r_2_wa := x_r.cell (i := 2) rfl
  have f_r_2_wa := x_r.frozen 2
  have c_r_3_wa := x_r.cell (i := 3) rfl
  have f_r_3_wa := x_r.frozen 3
  have c_r_4_wa := x_r.cell (i := 4) rfl
  have f_r_4_wa := x_r.frozen 4
  by_cases hK : propOkB p = true
  case neg =>
    replace hK : propOkB p = false := by simpa using hK
    have HK := Lib.hid hK
    have HB9 : Hid (hearB p n b u = false) := by show _ = _; unfold hearB; rw [hK]; simp
    have HM : Hid (propHear p n b u = p) := if_neg (by rw [HB9.out]; decide)
    clear hK
    have tw := fun (hb : 1 ≤ p.Bal ∧ p.Bal ≤ 1125899906842624) => IntWalk.i64_in (p.Bal - 1) (by omega)
    go_enter Try.func42, Try.ntmps42
    go_wp2_with fail
    refine (sPCopy_c (h0.from_ B0) hm).mono ?_
    rintro e w1 ⟨u_, rfl, ou, h_w1⟩
    clear c_p_0_wa f_p_0_wa c_p_1_wa f_p_1_wa c_p_2_wa f_p_2_wa c_p_3_wa f_p_3_wa c_p_4_wa f_p_4_wa c_r_0_wa f_r_0_wa c_r_1_wa f_r_1_wa c_r_2_wa f_r_2_wa c_r_3_wa f_r_3_wa c_r_4_wa f_r_4_wa
    replace x_p := x_p.from_ h_w1
    replace x_r := x_r.from_ h_w1
    have B_w1 := B0.trans (h_w1.mono B0.size)
    have s_w1 := h_w1.size
    obtain ⟨A1, c1, A2, c2, rfl, oF, oT⟩ := ov_prop_parts ou
    have c_p_0_w1 := x_p.cell (i := 0) rfl
    have f_p_0_w1 := x_p.frozen 0
    have c_p_1_w1 := x_p.cell (i := 1) rfl
    have f_p_1_w1 := x_p.frozen 1
    have c_p_2_w1 := x_p.cell (i := 2) rfl
    have f_p_2_w1 := x_p.frozen 2
    have c_p_3_w1 := x_p.cell (i := 3) rfl
    have f_p_3_w1 := x_p.frozen 3
    have c_p_4_w1 := x_p.cell (i := 4) rfl
    have f_p_4_w1 := x_p.frozen 4
    have c_r_0_w1 := x_r.cell (i := 0) rfl
    have f_r_0_w1 := x_r.frozen 0
    have c_r_1_w1 := x_r.cell (i := 1) rfl
    have f_r_1_w1 := x_r.frozen 1
    have c_r_2_w1 := x_r.cell (i := 2) rfl
    have f_r_2_w1 := x_r.frozen 2
    have c_r_3_w1 := x_r.cell (i := 3) rfl
    have f_r_3_w1 := x_r.frozen 3
    have c_r_4_w1 := x_r.cell (i := 4) rfl
    have f_r_4_w1 := x_r.frozen 4
    obtain ⟨w2, e_w2, s_w2, h_w2, x_o⟩ := alloc_step w1 26 [.int .i64 p.Bal, .int .i64 p.Val, .slice A1 p.From.length c1, .int .i64 p.Best, .slice A2 p.Got.length c2]
    have s_w2_1 := Nat.le_of_eq s_w2
    have s_w2_2 := Nat.le_of_eq s_w2.symm
    clear s_w2
    replace x_p := x_p.from_ h_w2
    replace x_r := x_r.from_ h_w2
    replace ou := ou.below h_w2
    replace oF := oF.below h_w2
    replace oT := oT.below h_w2
    have B_w2 := B_w1.trans (h_w2.mono B_w1.size)
    have c_p_0_w2 := x_p.cell (i := 0) rfl
    have f_p_0_w2 := x_p.frozen 0
    have c_p_1_w2 := x_p.cell (i := 1) rfl
    have f_p_1_w2 := x_p.frozen 1
    have c_p_2_w2 := x_p.cell (i := 2) rfl
    have f_p_2_w2 := x_p.frozen 2
    have c_p_3_w2 := x_p.cell (i := 3) rfl
    have f_p_3_w2 := x_p.frozen 3
    have c_p_4_w2 := x_p.cell (i := 4) rfl
    have f_p_4_w2 := x_p.frozen 4
    have c_r_0_w2 := x_r.cell (i := 0) rfl
    have f_r_0_w2 := x_r.frozen 0
    have c_r_1_w2 := x_r.cell (i := 1) rfl
    have f_r_1_w2 := x_r.frozen 1
    have c_r_2_w2 := x_r.cell (i := 2) rfl
    have f_r_2_w2 := x_r.frozen 2
    have c_r_3_w2 := x_r.cell (i := 3) rfl
    have f_r_3_w2 := x_r.frozen 3
    have c_r_4_w2 := x_r.cell (i := 4) rfl
    have f_r_4_w2 := x_r.frozen 4
    have c_o_0_w2 := x_o.cell (i := 0) rfl
    have f_o_0_w2 := x_o.frozen 0
    have c_o_1_w2 := x_o.cell (i := 1) rfl
    have f_o_1_w2 := x_o.frozen 1
    have c_o_2_w2 := x_o.cell (i := 2) rfl
    have f_o_2_w2 := x_o.frozen 2
    have c_o_3_w2 := x_o.cell (i := 3) rfl
    have f_o_3_w2 := x_o.frozen 3
    have c_o_4_w2 := x_o.cell (i := 4) rfl
    have f_o_4_w2 := x_o.frozen 4
    go_wp2_with fail
    refine (sPropOk_c (h0.from_ B_w2)).mono ?_
    rintro e w3 ⟨rfl, h_w3⟩
    clear c_p_0_w1 f_p_0_w1 c_p_1_w1 f_p_1_w1 c_p_2_w1 f_p_2_w1 c_p_3_w1 f_p_3_w1 c_p_4_w1 f_p_4_w1 c_r_0_w1 f_r_0_w1 c_r_1_w1 f_r_1_w1 c_r_2_w1 f_r_2_w1 c_r_3_w1 f_r_3_w1 c_r_4_w1 f_r_4_w1 c_p_0_w2 f_p_0_w2 c_p_1_w2 f_p_1_w2 c_p_2_w2 f_p_2_w2 c_p_3_w2 f_p_3_w2 c_p_4_w2 f_p_4_w2 c_r_0_w2 f_r_0_w2 c_r_1_w2 f_r_1_w2 c_r_2_w2 f_r_2_w2 c_r_3_w2 f_r_3_w2 c_r_4_w2 f_r_4_w2 c_o_0_w2 f_o_0_w2 c_o_1_w2 f_o_1_w2 c_o_2_w2 f_o_2_w2 c_o_3_w2 f_o_3_w2 c_o_4_w2 f_o_4_w2
    replace x_p := x_p.from_ h_w3
    replace x_r := x_r.from_ h_w3
    replace x_o := x_o.from_ h_w3
    replace ou := ou.below h_w3
    replace oF := oF.below h_w3
    replace oT := oT.below h_w3
    have B_w3 := B_w2.trans (h_w3.mono B_w2.size)
    have s_w3 := h_w3.size
    rw [HK.out]
    have c_p_0_w3 := x_p.cell (i := 0) rfl
    have f_p_0_w3 := x_p.frozen 0
    have c_p_1_w3 := x_p.cell (i := 1) rfl
    have f_p_1_w3 := x_p.frozen 1
    have c_p_2_w3 := x_p.cell (i := 2) rfl
    have f_p_2_w3 := x_p.frozen 2
    have c_p_3_w3 := x_p.cell (i := 3) rfl
    have f_p_3_w3 := x_p.frozen 3
    have c_p_4_w3 := x_p.cell (i := 4) rfl
    have f_p_4_w3 := x_p.frozen 4
    have c_r_0_w3 := x_r.cell (i := 0) rfl
    have f_r_0_w3 := x_r.frozen 0
    have c_r_1_w3 := x_r.cell (i := 1) rfl
    have f_r_1_w3 := x_r.frozen 1
    have c_r_2_w3 := x_r.cell (i := 2) rfl
    have f_r_2_w3 := x_r.frozen 2
    have c_r_3_w3 := x_r.cell (i := 3) rfl
    have f_r_3_w3 := x_r.frozen 3
    have c_r_4_w3 := x_r.cell (i := 4) rfl
    have f_r_4_w3 := x_r.frozen 4
    have c_o_0_w3 := x_o.cell (i := 0) rfl
    have f_o_0_w3 := x_o.frozen 0
    have c_o_1_w3 := x_o.cell (i := 1) rfl
    have f_o_1_w3 := x_o.frozen 1
    have c_o_2_w3 := x_o.cell (i := 2) rfl
    have f_o_2_w3 := x_o.frozen 2
    have c_o_3_w3 := x_o.cell (i := 3) rfl
    have f_o_3_w3 := x_o.frozen 3
    have c_o_4_w3 := x_o.cell (i := 4) rfl
    have f_o_4_w3 := x_o.frozen 4
    obtain ⟨w4, e_w4, s_w4, h_w4, y⟩ := store_step x_r [.int .i64 p.Bal, .int .i64 p.Val, .slice A1 p.From.length c1, .int .i64 p.Best, .slice A2 p.Got.length c2] rfl
    replace e_w4 : (((((w3.setCell ⟨w.heap.size + 1, 0, none⟩ (.int .i64 p.Bal)).setCell ⟨w.heap.size + 1, 1, none⟩ (.int .i64 p.Val)).setCell ⟨w.heap.size + 1, 2, none⟩ (.slice A1 p.From.length c1)).setCell ⟨w.heap.size + 1, 3, none⟩ (.int .i64 p.Best)).setCell ⟨w.heap.size + 1, 4, none⟩ (.slice A2 p.Got.length c2)) = w4 := e_w4
    have s_w4_1 := Nat.le_of_eq s_w4
    have s_w4_2 := Nat.le_of_eq s_w4.symm
    clear s_w4
    replace x_p := x_p.chg h_w4 (by omega)
    replace x_o := x_o.chg h_w4 (by omega)
    replace ou := ou.chg h_w4 (by omega)
    replace oF := oF.chg h_w4 (by omega)
    replace oT := oT.chg h_w4 (by omega)
    have B_w4 := Below.chg_ B_w3 h_w4 (by omega) (by omega)
    replace x_r : Vr w4 (w.heap.size + 1) 26 [.int .i64 p.Bal, .int .i64 p.Val, .slice A1 p.From.length c1, .int .i64 p.Best, .slice A2 p.Got.length c2] := y
    clear y
    have c_r_0_w4 := x_r.cell (i := 0) rfl
    have f_r_0_w4 := x_r.frozen 0
    have c_r_1_w4 := x_r.cell (i := 1) rfl
    have f_r_1_w4 := x_r.frozen 1
    have c_r_2_w4 := x_r.cell (i := 2) rfl
    have f_r_2_w4 := x_r.frozen 2
    have c_r_3_w4 := x_r.cell (i := 3) rfl
    have f_r_3_w4 := x_r.frozen 3
    have c_r_4_w4 := x_r.cell (i := 4) rfl
    have f_r_4_w4 := x_r.frozen 4
    go_wp2
    refine ret_cell (by rfl) (by rfl) x_r Try.underlying26 sz_prop (by rfl) ?_
    rw [HM.out]
    exact ⟨_, rfl, ou.widen (by omega) (by omega) (Nat.le_refl _), B_w4⟩
  have HK := Lib.hid hK
  by_cases hN : inB n 0 3 = true
  case neg =>
    replace hN : inB n 0 3 = false := by simpa using hN
    have HN := Lib.hid hN
    have HB9 : Hid (hearB p n b u = false) := by show _ = _; unfold hearB; rw [hN]; simp
    have HM : Hid (propHear p n b u = p) := if_neg (by rw [HB9.out]; decide)
    clear hK hN
    have tw := fun (hb : 1 ≤ p.Bal ∧ p.Bal ≤ 1125899906842624) => IntWalk.i64_in (p.Bal - 1) (by omega)
    have bb := propOk_bal HK.out
    replace tw := tw bb
    go_enter Try.func42, Try.ntmps42
    go_wp2_with fail
    refine (sPCopy_c (h0.from_ B0) hm).mono ?_
    rintro e w1 ⟨u_, rfl, ou, h_w1⟩
    clear c_p_0_wa f_p_0_wa c_p_1_wa f_p_1_wa c_p_2_wa f_p_2_wa c_p_3_wa f_p_3_wa c_p_4_wa f_p_4_wa c_r_0_wa f_r_0_wa c_r_1_wa f_r_1_wa c_r_2_wa f_r_2_wa c_r_3_wa f_r_3_wa c_r_4_wa f_r_4_wa
    replace x_p := x_p.from_ h_w1
    replace x_r := x_r.from_ h_w1
    have B_w1 := B0.trans (h_w1.mono B0.size)
    have s_w1 := h_w1.size
    obtain ⟨A1, c1, A2, c2, rfl, oF, oT⟩ := ov_prop_parts ou
    have c_p_0_w1 := x_p.cell (i := 0) rfl
    have f_p_0_w1 := x_p.frozen 0
    have c_p_1_w1 := x_p.cell (i := 1) rfl
    have f_p_1_w1 := x_p.frozen 1
    have c_p_2_w1 := x_p.cell (i := 2) rfl
    have f_p_2_w1 := x_p.frozen 2
    have c_p_3_w1 := x_p.cell (i := 3) rfl
    have f_p_3_w1 := x_p.frozen 3
    have c_p_4_w1 := x_p.cell (i := 4) rfl
    have f_p_4_w1 := x_p.frozen 4
    have c_r_0_w1 := x_r.cell (i := 0) rfl
    have f_r_0_w1 := x_r.frozen 0
    have c_r_1_w1 := x_r.cell (i := 1) rfl
    have f_r_1_w1 := x_r.frozen 1
    have c_r_2_w1 := x_r.cell (i := 2) rfl
    have f_r_2_w1 := x_r.frozen 2
    have c_r_3_w1 := x_r.cell (i := 3) rfl
    have f_r_3_w1 := x_r.frozen 3
    have c_r_4_w1 := x_r.cell (i := 4) rfl
    have f_r_4_w1 := x_r.frozen 4
    obtain ⟨w2, e_w2, s_w2, h_w2, x_o⟩ := alloc_step w1 26 [.int .i64 p.Bal, .int .i64 p.Val, .slice A1 p.From.length c1, .int .i64 p.Best, .slice A2 p.Got.length c2]
    have s_w2_1 := Nat.le_of_eq s_w2
    have s_w2_2 := Nat.le_of_eq s_w2.symm
    clear s_w2
    replace x_p := x_p.from_ h_w2
    replace x_r := x_r.from_ h_w2
    replace ou := ou.below h_w2
    replace oF := oF.below h_w2
    replace oT := oT.below h_w2
    have B_w2 := B_w1.trans (h_w2.mono B_w1.size)
    have c_p_0_w2 := x_p.cell (i := 0) rfl
    have f_p_0_w2 := x_p.frozen 0
    have c_p_1_w2 := x_p.cell (i := 1) rfl
    have f_p_1_w2 := x_p.frozen 1
    have c_p_2_w2 := x_p.cell (i := 2) rfl
    have f_p_2_w2 := x_p.frozen 2
    have c_p_3_w2 := x_p.cell (i := 3) rfl
    have f_p_3_w2 := x_p.frozen 3
    have c_p_4_w2 := x_p.cell (i := 4) rfl
    have f_p_4_w2 := x_p.frozen 4
    have c_r_0_w2 := x_r.cell (i := 0) rfl
    have f_r_0_w2 := x_r.frozen 0
    have c_r_1_w2 := x_r.cell (i := 1) rfl
    have f_r_1_w2 := x_r.frozen 1
    have c_r_2_w2 := x_r.cell (i := 2) rfl
    have f_r_2_w2 := x_r.frozen 2
    have c_r_3_w2 := x_r.cell (i := 3) rfl
    have f_r_3_w2 := x_r.frozen 3
    have c_r_4_w2 := x_r.cell (i := 4) rfl
    have f_r_4_w2 := x_r.frozen 4
    have c_o_0_w2 := x_o.cell (i := 0) rfl
    have f_o_0_w2 := x_o.frozen 0
    have c_o_1_w2 := x_o.cell (i := 1) rfl
    have f_o_1_w2 := x_o.frozen 1
    have c_o_2_w2 := x_o.cell (i := 2) rfl
    have f_o_2_w2 := x_o.frozen 2
    have c_o_3_w2 := x_o.cell (i := 3) rfl
    have f_o_3_w2 := x_o.frozen 3
    have c_o_4_w2 := x_o.cell (i := 4) rfl
    have f_o_4_w2 := x_o.frozen 4
    go_wp2_with fail
    refine (sPropOk_c (h0.from_ B_w2)).mono ?_
    rintro e w3 ⟨rfl, h_w3⟩
    clear c_p_0_w1 f_p_0_w1 c_p_1_w1 f_p_1_w1 c_p_2_w1 f_p_2_w1 c_p_3_w1 f_p_3_w1 c_p_4_w1 f_p_4_w1 c_r_0_w1 f_r_0_w1 c_r_1_w1 f_r_1_w1 c_r_2_w1 f_r_2_w1 c_r_3_w1 f_r_3_w1 c_r_4_w1 f_r_4_w1 c_p_0_w2 f_p_0_w2 c_p_1_w2 f_p_1_w2 c_p_2_w2 f_p_2_w2 c_p_3_w2 f_p_3_w2 c_p_4_w2 f_p_4_w2 c_r_0_w2 f_r_0_w2 c_r_1_w2 f_r_1_w2 c_r_2_w2 f_r_2_w2 c_r_3_w2 f_r_3_w2 c_r_4_w2 f_r_4_w2 c_o_0_w2 f_o_0_w2 c_o_1_w2 f_o_1_w2 c_o_2_w2 f_o_2_w2 c_o_3_w2 f_o_3_w2 c_o_4_w2 f_o_4_w2
    replace x_p := x_p.from_ h_w3
    replace x_r := x_r.from_ h_w3
    replace x_o := x_o.from_ h_w3
    replace ou := ou.below h_w3
    replace oF := oF.below h_w3
    replace oT := oT.below h_w3
    have B_w3 := B_w2.trans (h_w3.mono B_w2.size)
    have s_w3 := h_w3.size
    rw [HK.out]
    have c_p_0_w3 := x_p.cell (i := 0) rfl
    have f_p_0_w3 := x_p.frozen 0
    have c_p_1_w3 := x_p.cell (i := 1) rfl
    have f_p_1_w3 := x_p.frozen 1
    have c_p_2_w3 := x_p.cell (i := 2) rfl
    have f_p_2_w3 := x_p.frozen 2
    have c_p_3_w3 := x_p.cell (i := 3) rfl
    have f_p_3_w3 := x_p.frozen 3
    have c_p_4_w3 := x_p.cell (i := 4) rfl
    have f_p_4_w3 := x_p.frozen 4
    have c_r_0_w3 := x_r.cell (i := 0) rfl
    have f_r_0_w3 := x_r.frozen 0
    have c_r_1_w3 := x_r.cell (i := 1) rfl
    have f_r_1_w3 := x_r.frozen 1
    have c_r_2_w3 := x_r.cell (i := 2) rfl
    have f_r_2_w3 := x_r.frozen 2
    have c_r_3_w3 := x_r.cell (i := 3) rfl
    have f_r_3_w3 := x_r.frozen 3
    have c_r_4_w3 := x_r.cell (i := 4) rfl
    have f_r_4_w3 := x_r.frozen 4
    have c_o_0_w3 := x_o.cell (i := 0) rfl
    have f_o_0_w3 := x_o.frozen 0
    have c_o_1_w3 := x_o.cell (i := 1) rfl
    have f_o_1_w3 := x_o.frozen 1
    have c_o_2_w3 := x_o.cell (i := 2) rfl
    have f_o_2_w3 := x_o.frozen 2
    have c_o_3_w3 := x_o.cell (i := 3) rfl
    have f_o_3_w3 := x_o.frozen 3
    have c_o_4_w3 := x_o.cell (i := 4) rfl
    have f_o_4_w3 := x_o.frozen 4
    go_wp2_with fail
    refine (sNode_any _ _).mono ?_
    rintro e w' ⟨rfl, rfl⟩
    rw [HN.out]
    obtain ⟨w4, e_w4, s_w4, h_w4, y⟩ := store_step x_r [.int .i64 p.Bal, .int .i64 p.Val, .slice A1 p.From.length c1, .int .i64 p.Best, .slice A2 p.Got.length c2] rfl
    replace e_w4 : (((((w3.setCell ⟨w.heap.size + 1, 0, none⟩ (.int .i64 p.Bal)).setCell ⟨w.heap.size + 1, 1, none⟩ (.int .i64 p.Val)).setCell ⟨w.heap.size + 1, 2, none⟩ (.slice A1 p.From.length c1)).setCell ⟨w.heap.size + 1, 3, none⟩ (.int .i64 p.Best)).setCell ⟨w.heap.size + 1, 4, none⟩ (.slice A2 p.Got.length c2)) = w4 := e_w4
    have s_w4_1 := Nat.le_of_eq s_w4
    have s_w4_2 := Nat.le_of_eq s_w4.symm
    clear s_w4
    replace x_p := x_p.chg h_w4 (by omega)
    replace x_o := x_o.chg h_w4 (by omega)
    replace ou := ou.chg h_w4 (by omega)
    replace oF := oF.chg h_w4 (by omega)
    replace oT := oT.chg h_w4 (by omega)
    have B_w4 := Below.chg_ B_w3 h_w4 (by omega) (by omega)
    replace x_r : Vr w4 (w.heap.size + 1) 26 [.int .i64 p.Bal, .int .i64 p.Val, .slice A1 p.From.length c1, .int .i64 p.Best, .slice A2 p.Got.length c2] := y
    clear y
    have c_r_0_w4 := x_r.cell (i := 0) rfl
    have f_r_0_w4 := x_r.frozen 0
    have c_r_1_w4 := x_r.cell (i := 1) rfl
    have f_r_1_w4 := x_r.frozen 1
    have c_r_2_w4 := x_r.cell (i := 2) rfl
    have f_r_2_w4 := x_r.frozen 2
    have c_r_3_w4 := x_r.cell (i := 3) rfl
    have f_r_3_w4 := x_r.frozen 3
    have c_r_4_w4 := x_r.cell (i := 4) rfl
    have f_r_4_w4 := x_r.frozen 4
    go_wp2
    refine ret_cell (by rfl) (by rfl) x_r Try.underlying26 sz_prop (by rfl) ?_
    rw [HM.out]
    exact ⟨_, rfl, ou.widen (by omega) (by omega) (Nat.le_refl _), B_w4⟩
  have HN := Lib.hid hN
  by_cases hH : hasI p.From n = false
  case neg =>
    replace hH : hasI p.From n = true := by simpa using hH
    have HH := Lib.hid hH
    have HB9 : Hid (hearB p n b u = false) := by show _ = _; unfold hearB; rw [hH]; simp
    have HM : Hid (propHear p n b u = p) := if_neg (by rw [HB9.out]; decide)
    clear hK hN hH
    have tw := fun (hb : 1 ≤ p.Bal ∧ p.Bal ≤ 1125899906842624) => IntWalk.i64_in (p.Bal - 1) (by omega)
    have bb := propOk_bal HK.out
    replace tw := tw bb
    go_enter Try.func42, Try.ntmps42
    go_wp2_with fail
    refine (sPCopy_c (h0.from_ B0) hm).mono ?_
    rintro e w1 ⟨u_, rfl, ou, h_w1⟩
    clear c_p_0_wa f_p_0_wa c_p_1_wa f_p_1_wa c_p_2_wa f_p_2_wa c_p_3_wa f_p_3_wa c_p_4_wa f_p_4_wa c_r_0_wa f_r_0_wa c_r_1_wa f_r_1_wa c_r_2_wa f_r_2_wa c_r_3_wa f_r_3_wa c_r_4_wa f_r_4_wa
    replace x_p := x_p.from_ h_w1
    replace x_r := x_r.from_ h_w1
    have B_w1 := B0.trans (h_w1.mono B0.size)
    have s_w1 := h_w1.size
    obtain ⟨A1, c1, A2, c2, rfl, oF, oT⟩ := ov_prop_parts ou
    have c_p_0_w1 := x_p.cell (i := 0) rfl
    have f_p_0_w1 := x_p.frozen 0
    have c_p_1_w1 := x_p.cell (i := 1) rfl
    have f_p_1_w1 := x_p.frozen 1
    have c_p_2_w1 := x_p.cell (i := 2) rfl
    have f_p_2_w1 := x_p.frozen 2
    have c_p_3_w1 := x_p.cell (i := 3) rfl
    have f_p_3_w1 := x_p.frozen 3
    have c_p_4_w1 := x_p.cell (i := 4) rfl
    have f_p_4_w1 := x_p.frozen 4
    have c_r_0_w1 := x_r.cell (i := 0) rfl
    have f_r_0_w1 := x_r.frozen 0
    have c_r_1_w1 := x_r.cell (i := 1) rfl
    have f_r_1_w1 := x_r.frozen 1
    have c_r_2_w1 := x_r.cell (i := 2) rfl
    have f_r_2_w1 := x_r.frozen 2
    have c_r_3_w1 := x_r.cell (i := 3) rfl
    have f_r_3_w1 := x_r.frozen 3
    have c_r_4_w1 := x_r.cell (i := 4) rfl
    have f_r_4_w1 := x_r.frozen 4
    obtain ⟨w2, e_w2, s_w2, h_w2, x_o⟩ := alloc_step w1 26 [.int .i64 p.Bal, .int .i64 p.Val, .slice A1 p.From.length c1, .int .i64 p.Best, .slice A2 p.Got.length c2]
    have s_w2_1 := Nat.le_of_eq s_w2
    have s_w2_2 := Nat.le_of_eq s_w2.symm
    clear s_w2
    replace x_p := x_p.from_ h_w2
    replace x_r := x_r.from_ h_w2
    replace ou := ou.below h_w2
    replace oF := oF.below h_w2
    replace oT := oT.below h_w2
    have B_w2 := B_w1.trans (h_w2.mono B_w1.size)
    have c_p_0_w2 := x_p.cell (i := 0) rfl
    have f_p_0_w2 := x_p.frozen 0
    have c_p_1_w2 := x_p.cell (i := 1) rfl
    have f_p_1_w2 := x_p.frozen 1
    have c_p_2_w2 := x_p.cell (i := 2) rfl
    have f_p_2_w2 := x_p.frozen 2
    have c_p_3_w2 := x_p.cell (i := 3) rfl
    have f_p_3_w2 := x_p.frozen 3
    have c_p_4_w2 := x_p.cell (i := 4) rfl
    have f_p_4_w2 := x_p.frozen 4
    have c_r_0_w2 := x_r.cell (i := 0) rfl
    have f_r_0_w2 := x_r.frozen 0
    have c_r_1_w2 := x_r.cell (i := 1) rfl
    have f_r_1_w2 := x_r.frozen 1
    have c_r_2_w2 := x_r.cell (i := 2) rfl
    have f_r_2_w2 := x_r.frozen 2
    have c_r_3_w2 := x_r.cell (i := 3) rfl
    have f_r_3_w2 := x_r.frozen 3
    have c_r_4_w2 := x_r.cell (i := 4) rfl
    have f_r_4_w2 := x_r.frozen 4
    have c_o_0_w2 := x_o.cell (i := 0) rfl
    have f_o_0_w2 := x_o.frozen 0
    have c_o_1_w2 := x_o.cell (i := 1) rfl
    have f_o_1_w2 := x_o.frozen 1
    have c_o_2_w2 := x_o.cell (i := 2) rfl
    have f_o_2_w2 := x_o.frozen 2
    have c_o_3_w2 := x_o.cell (i := 3) rfl
    have f_o_3_w2 := x_o.frozen 3
    have c_o_4_w2 := x_o.cell (i := 4) rfl
    have f_o_4_w2 := x_o.frozen 4
    go_wp2_with fail
    refine (sPropOk_c (h0.from_ B_w2)).mono ?_
    rintro e w3 ⟨rfl, h_w3⟩
    clear c_p_0_w1 f_p_0_w1 c_p_1_w1 f_p_1_w1 c_p_2_w1 f_p_2_w1 c_p_3_w1 f_p_3_w1 c_p_4_w1 f_p_4_w1 c_r_0_w1 f_r_0_w1 c_r_1_w1 f_r_1_w1 c_r_2_w1 f_r_2_w1 c_r_3_w1 f_r_3_w1 c_r_4_w1 f_r_4_w1 c_p_0_w2 f_p_0_w2 c_p_1_w2 f_p_1_w2 c_p_2_w2 f_p_2_w2 c_p_3_w2 f_p_3_w2 c_p_4_w2 f_p_4_w2 c_r_0_w2 f_r_0_w2 c_r_1_w2 f_r_1_w2 c_r_2_w2 f_r_2_w2 c_r_3_w2 f_r_3_w2 c_r_4_w2 f_r_4_w2 c_o_0_w2 f_o_0_w2 c_o_1_w2 f_o_1_w2 c_o_2_w2 f_o_2_w2 c_o_3_w2 f_o_3_w2 c_o_4_w2 f_o_4_w2
    replace x_p := x_p.from_ h_w3
    replace x_r := x_r.from_ h_w3
    replace x_o := x_o.from_ h_w3
    replace ou := ou.below h_w3
    replace oF := oF.below h_w3
    replace oT := oT.below h_w3
    have B_w3 := B_w2.trans (h_w3.mono B_w2.size)
    have s_w3 := h_w3.size
    rw [HK.out]
    have c_p_0_w3 := x_p.cell (i := 0) rfl
    have f_p_0_w3 := x_p.frozen 0
    have c_p_1_w3 := x_p.cell (i := 1) rfl
    have f_p_1_w3 := x_p.frozen 1
    have c_p_2_w3 := x_p.cell (i := 2) rfl
    have f_p_2_w3 := x_p.frozen 2
    have c_p_3_w3 := x_p.cell (i := 3) rfl
    have f_p_3_w3 := x_p.frozen 3
    have c_p_4_w3 := x_p.cell (i := 4) rfl
    have f_p_4_w3 := x_p.frozen 4
    have c_r_0_w3 := x_r.cell (i := 0) rfl
    have f_r_0_w3 := x_r.frozen 0
    have c_r_1_w3 := x_r.cell (i := 1) rfl
    have f_r_1_w3 := x_r.frozen 1
    have c_r_2_w3 := x_r.cell (i := 2) rfl
    have f_r_2_w3 := x_r.frozen 2
    have c_r_3_w3 := x_r.cell (i := 3) rfl
    have f_r_3_w3 := x_r.frozen 3
    have c_r_4_w3 := x_r.cell (i := 4) rfl
    have f_r_4_w3 := x_r.frozen 4
    have c_o_0_w3 := x_o.cell (i := 0) rfl
    have f_o_0_w3 := x_o.frozen 0
    have c_o_1_w3 := x_o.cell (i := 1) rfl
    have f_o_1_w3 := x_o.frozen 1
    have c_o_2_w3 := x_o.cell (i := 2) rfl
    have f_o_2_w3 := x_o.frozen 2
    have c_o_3_w3 := x_o.cell (i := 3) rfl
    have f_o_3_w3 := x_o.frozen 3
    have c_o_4_w3 := x_o.cell (i := 4) rfl
    have f_o_4_w3 := x_o.frozen 4
    go_wp2_with fail
    refine (sNode_any _ _).mono ?_
    rintro e w' ⟨rfl, rfl⟩
    rw [HN.out]
    go_wp2_with fail
    refine (sHasI_c (rF.from_ B_w3)).mono ?_
    rintro e w' ⟨rfl, rfl⟩
    rw [HH.out]
    obtain ⟨w4, e_w4, s_w4, h_w4, y⟩ := store_step x_r [.int .i64 p.Bal, .int .i64 p.Val, .slice A1 p.From.length c1, .int .i64 p.Best, .slice A2 p.Got.length c2] rfl
    replace e_w4 : (((((w3.setCell ⟨w.heap.size + 1, 0, none⟩ (.int .i64 p.Bal)).setCell ⟨w.heap.size + 1, 1, none⟩ (.int .i64 p.Val)).setCell ⟨w.heap.size + 1, 2, none⟩ (.slice A1 p.From.length c1)).setCell ⟨w.heap.size + 1, 3, none⟩ (.int .i64 p.Best)).setCell ⟨w.heap.size + 1, 4, none⟩ (.slice A2 p.Got.length c2)) = w4 := e_w4
    have s_w4_1 := Nat.le_of_eq s_w4
    have s_w4_2 := Nat.le_of_eq s_w4.symm
    clear s_w4
    replace x_p := x_p.chg h_w4 (by omega)
    replace x_o := x_o.chg h_w4 (by omega)
    replace ou := ou.chg h_w4 (by omega)
    replace oF := oF.chg h_w4 (by omega)
    replace oT := oT.chg h_w4 (by omega)
    have B_w4 := Below.chg_ B_w3 h_w4 (by omega) (by omega)
    replace x_r : Vr w4 (w.heap.size + 1) 26 [.int .i64 p.Bal, .int .i64 p.Val, .slice A1 p.From.length c1, .int .i64 p.Best, .slice A2 p.Got.length c2] := y
    clear y
    have c_r_0_w4 := x_r.cell (i := 0) rfl
    have f_r_0_w4 := x_r.frozen 0
    have c_r_1_w4 := x_r.cell (i := 1) rfl
    have f_r_1_w4 := x_r.frozen 1
    have c_r_2_w4 := x_r.cell (i := 2) rfl
    have f_r_2_w4 := x_r.frozen 2
    have c_r_3_w4 := x_r.cell (i := 3) rfl
    have f_r_3_w4 := x_r.frozen 3
    have c_r_4_w4 := x_r.cell (i := 4) rfl
    have f_r_4_w4 := x_r.frozen 4
    go_wp2
    refine ret_cell (by rfl) (by rfl) x_r Try.underlying26 sz_prop (by rfl) ?_
    rw [HM.out]
    exact ⟨_, rfl, ou.widen (by omega) (by omega) (Nat.le_refl _), B_w4⟩
  have HH := Lib.hid hH
  by_cases hB : inB b 0 (p.Bal - 1) = true
  case neg =>
    replace hB : inB b 0 (p.Bal - 1) = false := by simpa using hB
    have HB := Lib.hid hB
    have HB9 : Hid (hearB p n b u = false) := by show _ = _; unfold hearB; rw [hB]; simp
    have HM : Hid (propHear p n b u = p) := if_neg (by rw [HB9.out]; decide)
    clear hK hN hH hB
    have tw := fun (hb : 1 ≤ p.Bal ∧ p.Bal ≤ 1125899906842624) => IntWalk.i64_in (p.Bal - 1) (by omega)
    have bb := propOk_bal HK.out
    replace tw := tw bb
    go_enter Try.func42, Try.ntmps42
    go_wp2_with fail
    refine (sPCopy_c (h0.from_ B0) hm).mono ?_
    rintro e w1 ⟨u_, rfl, ou, h_w1⟩
    clear c_p_0_wa f_p_0_wa c_p_1_wa f_p_1_wa c_p_2_wa f_p_2_wa c_p_3_wa f_p_3_wa c_p_4_wa f_p_4_wa c_r_0_wa f_r_0_wa c_r_1_wa f_r_1_wa c_r_2_wa f_r_2_wa c_r_3_wa f_r_3_wa c_r_4_wa f_r_4_wa
    replace x_p := x_p.from_ h_w1
    replace x_r := x_r.from_ h_w1
    have B_w1 := B0.trans (h_w1.mono B0.size)
    have s_w1 := h_w1.size
    obtain ⟨A1, c1, A2, c2, rfl, oF, oT⟩ := ov_prop_parts ou
    have c_p_0_w1 := x_p.cell (i := 0) rfl
    have f_p_0_w1 := x_p.frozen 0
    have c_p_1_w1 := x_p.cell (i := 1) rfl
    have f_p_1_w1 := x_p.frozen 1
    have c_p_2_w1 := x_p.cell (i := 2) rfl
    have f_p_2_w1 := x_p.frozen 2
    have c_p_3_w1 := x_p.cell (i := 3) rfl
    have f_p_3_w1 := x_p.frozen 3
    have c_p_4_w1 := x_p.cell (i := 4) rfl
    have f_p_4_w1 := x_p.frozen 4
    have c_r_0_w1 := x_r.cell (i := 0) rfl
    have f_r_0_w1 := x_r.frozen 0
    have c_r_1_w1 := x_r.cell (i := 1) rfl
    have f_r_1_w1 := x_r.frozen 1
    have c_r_2_w1 := x_r.cell (i := 2) rfl
    have f_r_2_w1 := x_r.frozen 2
    have c_r_3_w1 := x_r.cell (i := 3) rfl
    have f_r_3_w1 := x_r.frozen 3
    have c_r_4_w1 := x_r.cell (i := 4) rfl
    have f_r_4_w1 := x_r.frozen 4
    obtain ⟨w2, e_w2, s_w2, h_w2, x_o⟩ := alloc_step w1 26 [.int .i64 p.Bal, .int .i64 p.Val, .slice A1 p.From.length c1, .int .i64 p.Best, .slice A2 p.Got.length c2]
    have s_w2_1 := Nat.le_of_eq s_w2
    have s_w2_2 := Nat.le_of_eq s_w2.symm
    clear s_w2
    replace x_p := x_p.from_ h_w2
    replace x_r := x_r.from_ h_w2
    replace ou := ou.below h_w2
    replace oF := oF.below h_w2
    replace oT := oT.below h_w2
    have B_w2 := B_w1.trans (h_w2.mono B_w1.size)
    have c_p_0_w2 := x_p.cell (i := 0) rfl
    have f_p_0_w2 := x_p.frozen 0
    have c_p_1_w2 := x_p.cell (i := 1) rfl
    have f_p_1_w2 := x_p.frozen 1
    have c_p_2_w2 := x_p.cell (i := 2) rfl
    have f_p_2_w2 := x_p.frozen 2
    have c_p_3_w2 := x_p.cell (i := 3) rfl
    have f_p_3_w2 := x_p.frozen 3
    have c_p_4_w2 := x_p.cell (i := 4) rfl
    have f_p_4_w2 := x_p.frozen 4
    have c_r_0_w2 := x_r.cell (i := 0) rfl
    have f_r_0_w2 := x_r.frozen 0
    have c_r_1_w2 := x_r.cell (i := 1) rfl
    have f_r_1_w2 := x_r.frozen 1
    have c_r_2_w2 := x_r.cell (i := 2) rfl
    have f_r_2_w2 := x_r.frozen 2
    have c_r_3_w2 := x_r.cell (i := 3) rfl
    have f_r_3_w2 := x_r.frozen 3
    have c_r_4_w2 := x_r.cell (i := 4) rfl
    have f_r_4_w2 := x_r.frozen 4
    have c_o_0_w2 := x_o.cell (i := 0) rfl
    have f_o_0_w2 := x_o.frozen 0
    have c_o_1_w2 := x_o.cell (i := 1) rfl
    have f_o_1_w2 := x_o.frozen 1
    have c_o_2_w2 := x_o.cell (i := 2) rfl
    have f_o_2_w2 := x_o.frozen 2
    have c_o_3_w2 := x_o.cell (i := 3) rfl
    have f_o_3_w2 := x_o.frozen 3
    have c_o_4_w2 := x_o.cell (i := 4) rfl
    have f_o_4_w2 := x_o.frozen 4
    go_wp2_with fail
    refine (sPropOk_c (h0.from_ B_w2)).mono ?_
    rintro e w3 ⟨rfl, h_w3⟩
    clear c_p_0_w1 f_p_0_w1 c_p_1_w1 f_p_1_w1 c_p_2_w1 f_p_2_w1 c_p_3_w1 f_p_3_w1 c_p_4_w1 f_p_4_w1 c_r_0_w1 f_r_0_w1 c_r_1_w1 f_r_1_w1 c_r_2_w1 f_r_2_w1 c_r_3_w1 f_r_3_w1 c_r_4_w1 f_r_4_w1 c_p_0_w2 f_p_0_w2 c_p_1_w2 f_p_1_w2 c_p_2_w2 f_p_2_w2 c_p_3_w2 f_p_3_w2 c_p_4_w2 f_p_4_w2 c_r_0_w2 f_r_0_w2 c_r_1_w2 f_r_1_w2 c_r_2_w2 f_r_2_w2 c_r_3_w2 f_r_3_w2 c_r_4_w2 f_r_4_w2 c_o_0_w2 f_o_0_w2 c_o_1_w2 f_o_1_w2 c_o_2_w2 f_o_2_w2 c_o_3_w2 f_o_3_w2 c_o_4_w2 f_o_4_w2
    replace x_p := x_p.from_ h_w3
    replace x_r := x_r.from_ h_w3
    replace x_o := x_o.from_ h_w3
    replace ou := ou.below h_w3
    replace oF := oF.below h_w3
    replace oT := oT.below h_w3
    have B_w3 := B_w2.trans (h_w3.mono B_w2.size)
    have s_w3 := h_w3.size
    rw [HK.out]
    have c_p_0_w3 := x_p.cell (i := 0) rfl
    have f_p_0_w3 := x_p.frozen 0
    have c_p_1_w3 := x_p.cell (i := 1) rfl
    have f_p_1_w3 := x_p.frozen 1
    have c_p_2_w3 := x_p.cell (i := 2) rfl
    have f_p_2_w3 := x_p.frozen 2
    have c_p_3_w3 := x_p.cell (i := 3) rfl
    have f_p_3_w3 := x_p.frozen 3
    have c_p_4_w3 := x_p.cell (i := 4) rfl
    have f_p_4_w3 := x_p.frozen 4
    have c_r_0_w3 := x_r.cell (i := 0) rfl
    have f_r_0_w3 := x_r.frozen 0
    have c_r_1_w3 := x_r.cell (i := 1) rfl
    have f_r_1_w3 := x_r.frozen 1
    have c_r_2_w3 := x_r.cell (i := 2) rfl
    have f_r_2_w3 := x_r.frozen 2
    have c_r_3_w3 := x_r.cell (i := 3) rfl
    have f_r_3_w3 := x_r.frozen 3
    have c_r_4_w3 := x_r.cell (i := 4) rfl
    have f_r_4_w3 := x_r.frozen 4
    have c_o_0_w3 := x_o.cell (i := 0) rfl
    have f_o_0_w3 := x_o.frozen 0
    have c_o_1_w3 := x_o.cell (i := 1) rfl
    have f_o_1_w3 := x_o.frozen 1
    have c_o_2_w3 := x_o.cell (i := 2) rfl
    have f_o_2_w3 := x_o.frozen 2
    have c_o_3_w3 := x_o.cell (i := 3) rfl
    have f_o_3_w3 := x_o.frozen 3
    have c_o_4_w3 := x_o.cell (i := 4) rfl
    have f_o_4_w3 := x_o.frozen 4
    go_wp2_with fail
    refine (sNode_any _ _).mono ?_
    rintro e w' ⟨rfl, rfl⟩
    rw [HN.out]
    go_wp2_with fail
    refine (sHasI_c (rF.from_ B_w3)).mono ?_
    rintro e w' ⟨rfl, rfl⟩
    rw [HH.out]
    go_wp2_with fail
    refine (sIn_any _ _ _ _).mono ?_
    rintro e w' ⟨rfl, rfl⟩
    rw [HB.out]
    obtain ⟨w4, e_w4, s_w4, h_w4, y⟩ := store_step x_r [.int .i64 p.Bal, .int .i64 p.Val, .slice A1 p.From.length c1, .int .i64 p.Best, .slice A2 p.Got.length c2] rfl
    replace e_w4 : (((((w3.setCell ⟨w.heap.size + 1, 0, none⟩ (.int .i64 p.Bal)).setCell ⟨w.heap.size + 1, 1, none⟩ (.int .i64 p.Val)).setCell ⟨w.heap.size + 1, 2, none⟩ (.slice A1 p.From.length c1)).setCell ⟨w.heap.size + 1, 3, none⟩ (.int .i64 p.Best)).setCell ⟨w.heap.size + 1, 4, none⟩ (.slice A2 p.Got.length c2)) = w4 := e_w4
    have s_w4_1 := Nat.le_of_eq s_w4
    have s_w4_2 := Nat.le_of_eq s_w4.symm
    clear s_w4
    replace x_p := x_p.chg h_w4 (by omega)
    replace x_o := x_o.chg h_w4 (by omega)
    replace ou := ou.chg h_w4 (by omega)
    replace oF := oF.chg h_w4 (by omega)
    replace oT := oT.chg h_w4 (by omega)
    have B_w4 := Below.chg_ B_w3 h_w4 (by omega) (by omega)
    replace x_r : Vr w4 (w.heap.size + 1) 26 [.int .i64 p.Bal, .int .i64 p.Val, .slice A1 p.From.length c1, .int .i64 p.Best, .slice A2 p.Got.length c2] := y
    clear y
    have c_r_0_w4 := x_r.cell (i := 0) rfl
    have f_r_0_w4 := x_r.frozen 0
    have c_r_1_w4 := x_r.cell (i := 1) rfl
    have f_r_1_w4 := x_r.frozen 1
    have c_r_2_w4 := x_r.cell (i := 2) rfl
    have f_r_2_w4 := x_r.frozen 2
    have c_r_3_w4 := x_r.cell (i := 3) rfl
    have f_r_3_w4 := x_r.frozen 3
    have c_r_4_w4 := x_r.cell (i := 4) rfl
    have f_r_4_w4 := x_r.frozen 4
    go_wp2
    refine ret_cell (by rfl) (by rfl) x_r Try.underlying26 sz_prop (by rfl) ?_
    rw [HM.out]
    exact ⟨_, rfl, ou.widen (by omega) (by omega) (Nat.le_refl _), B_w4⟩
  have HB := Lib.hid hB
  by_cases hU : inB u 1 4 = true
  case pos =>
    have HU := Lib.hid hU
    by_cases hb0 : 0 < b
    case pos =>
      have g0 : decide (0 < b) = true := decide_eq_true hb0
      have HB9 : Hid (hearB p n b u = true) := by show _ = _; unfold hearB; rw [hK, hN, hH, hB, g0, hU]; rfl
      obtain ⟨G, hG⟩ : ∃ G, addI p.From n = G := ⟨_, rfl⟩
      have HG := Lib.hid hG
      have hl : p.From.length ≤ 16777216 := by unfold MProp.bulk at hm; omega
      have bb := propOk_bal HK.out
      have tw := IntWalk.i64_in (p.Bal - 1) (by omega)
      by_cases hbest : p.Best < b
      case pos =>
        have HM : Hid (propHear p n b u = ⟨p.Bal, u, G, b, p.Got⟩) := by show _ = _; unfold propHear; rw [if_pos HB9.out, if_pos hbest, hG]
        have g5 : decide (p.Best < b) = true := decide_eq_true hbest
        clear hG hK hN hH hB hU hb0
        go_enter Try.func42, Try.ntmps42
        go_wp2_with fail
        refine (sPCopy_c (h0.from_ B0) hm).mono ?_
        rintro e w1 ⟨u_, rfl, ou, h_w1⟩
        clear c_p_0_wa f_p_0_wa c_p_1_wa f_p_1_wa c_p_2_wa f_p_2_wa c_p_3_wa f_p_3_wa c_p_4_wa f_p_4_wa c_r_0_wa f_r_0_wa c_r_1_wa f_r_1_wa c_r_2_wa f_r_2_wa c_r_3_wa f_r_3_wa c_r_4_wa f_r_4_wa
        replace x_p := x_p.from_ h_w1
        replace x_r := x_r.from_ h_w1
        have B_w1 := B0.trans (h_w1.mono B0.size)
        have s_w1 := h_w1.size
        obtain ⟨A1, c1, A2, c2, rfl, oF, oT⟩ := ov_prop_parts ou
        have c_p_0_w1 := x_p.cell (i := 0) rfl
        have f_p_0_w1 := x_p.frozen 0
        have c_p_1_w1 := x_p.cell (i := 1) rfl
        have f_p_1_w1 := x_p.frozen 1
        have c_p_2_w1 := x_p.cell (i := 2) rfl
        have f_p_2_w1 := x_p.frozen 2
        have c_p_3_w1 := x_p.cell (i := 3) rfl
        have f_p_3_w1 := x_p.frozen 3
        have c_p_4_w1 := x_p.cell (i := 4) rfl
        have f_p_4_w1 := x_p.frozen 4
        have c_r_0_w1 := x_r.cell (i := 0) rfl
        have f_r_0_w1 := x_r.frozen 0
        have c_r_1_w1 := x_r.cell (i := 1) rfl
        have f_r_1_w1 := x_r.frozen 1
        have c_r_2_w1 := x_r.cell (i := 2) rfl
        have f_r_2_w1 := x_r.frozen 2
        have c_r_3_w1 := x_r.cell (i := 3) rfl
        have f_r_3_w1 := x_r.frozen 3
        have c_r_4_w1 := x_r.cell (i := 4) rfl
        have f_r_4_w1 := x_r.frozen 4
        obtain ⟨w2, e_w2, s_w2, h_w2, x_o⟩ := alloc_step w1 26 [.int .i64 p.Bal, .int .i64 p.Val, .slice A1 p.From.length c1, .int .i64 p.Best, .slice A2 p.Got.length c2]
        have s_w2_1 := Nat.le_of_eq s_w2
        have s_w2_2 := Nat.le_of_eq s_w2.symm
        clear s_w2
        replace x_p := x_p.from_ h_w2
        replace x_r := x_r.from_ h_w2
        replace ou := ou.below h_w2
        replace oF := oF.below h_w2
        replace oT := oT.below h_w2
        have B_w2 := B_w1.trans (h_w2.mono B_w1.size)
        have c_p_0_w2 := x_p.cell (i := 0) rfl
        have f_p_0_w2 := x_p.frozen 0
        have c_p_1_w2 := x_p.cell (i := 1) rfl
        have f_p_1_w2 := x_p.frozen 1
        have c_p_2_w2 := x_p.cell (i := 2) rfl
        have f_p_2_w2 := x_p.frozen 2
        have c_p_3_w2 := x_p.cell (i := 3) rfl
        have f_p_3_w2 := x_p.frozen 3
        have c_p_4_w2 := x_p.cell (i := 4) rfl
        have f_p_4_w2 := x_p.frozen 4
        have c_r_0_w2 := x_r.cell (i := 0) rfl
        have f_r_0_w2 := x_r.frozen 0
        have c_r_1_w2 := x_r.cell (i := 1) rfl
        have f_r_1_w2 := x_r.frozen 1
        have c_r_2_w2 := x_r.cell (i := 2) rfl
        have f_r_2_w2 := x_r.frozen 2
        have c_r_3_w2 := x_r.cell (i := 3) rfl
        have f_r_3_w2 := x_r.frozen 3
        have c_r_4_w2 := x_r.cell (i := 4) rfl
        have f_r_4_w2 := x_r.frozen 4
        have c_o_0_w2 := x_o.cell (i := 0) rfl
        have f_o_0_w2 := x_o.frozen 0
        have c_o_1_w2 := x_o.cell (i := 1) rfl
        have f_o_1_w2 := x_o.frozen 1
        have c_o_2_w2 := x_o.cell (i := 2) rfl
        have f_o_2_w2 := x_o.frozen 2
        have c_o_3_w2 := x_o.cell (i := 3) rfl
        have f_o_3_w2 := x_o.frozen 3
        have c_o_4_w2 := x_o.cell (i := 4) rfl
        have f_o_4_w2 := x_o.frozen 4
        go_wp2_with fail
        refine (sPropOk_c (h0.from_ B_w2)).mono ?_
        rintro e w3 ⟨rfl, h_w3⟩
        clear c_p_0_w1 f_p_0_w1 c_p_1_w1 f_p_1_w1 c_p_2_w1 f_p_2_w1 c_p_3_w1 f_p_3_w1 c_p_4_w1 f_p_4_w1 c_r_0_w1 f_r_0_w1 c_r_1_w1 f_r_1_w1 c_r_2_w1 f_r_2_w1 c_r_3_w1 f_r_3_w1 c_r_4_w1 f_r_4_w1 c_p_0_w2 f_p_0_w2 c_p_1_w2 f_p_1_w2 c_p_2_w2 f_p_2_w2 c_p_3_w2 f_p_3_w2 c_p_4_w2 f_p_4_w2 c_r_0_w2 f_r_0_w2 c_r_1_w2 f_r_1_w2 c_r_2_w2 f_r_2_w2 c_r_3_w2 f_r_3_w2 c_r_4_w2 f_r_4_w2 c_o_0_w2 f_o_0_w2 c_o_1_w2 f_o_1_w2 c_o_2_w2 f_o_2_w2 c_o_3_w2 f_o_3_w2 c_o_4_w2 f_o_4_w2
        replace x_p := x_p.from_ h_w3
        replace x_r := x_r.from_ h_w3
        replace x_o := x_o.from_ h_w3
        replace ou := ou.below h_w3
        replace oF := oF.below h_w3
        replace oT := oT.below h_w3
        have B_w3 := B_w2.trans (h_w3.mono B_w2.size)
        have s_w3 := h_w3.size
        rw [HK.out]
        have c_p_0_w3 := x_p.cell (i := 0) rfl
        have f_p_0_w3 := x_p.frozen 0
        have c_p_1_w3 := x_p.cell (i := 1) rfl
        have f_p_1_w3 := x_p.frozen 1
        have c_p_2_w3 := x_p.cell (i := 2) rfl
        have f_p_2_w3 := x_p.frozen 2
        have c_p_3_w3 := x_p.cell (i := 3) rfl
        have f_p_3_w3 := x_p.frozen 3
        have c_p_4_w3 := x_p.cell (i := 4) rfl
        have f_p_4_w3 := x_p.frozen 4
        have c_r_0_w3 := x_r.cell (i := 0) rfl
        have f_r_0_w3 := x_r.frozen 0
        have c_r_1_w3 := x_r.cell (i := 1) rfl
        have f_r_1_w3 := x_r.frozen 1
        have c_r_2_w3 := x_r.cell (i := 2) rfl
        have f_r_2_w3 := x_r.frozen 2
        have c_r_3_w3 := x_r.cell (i := 3) rfl
        have f_r_3_w3 := x_r.frozen 3
        have c_r_4_w3 := x_r.cell (i := 4) rfl
        have f_r_4_w3 := x_r.frozen 4
        have c_o_0_w3 := x_o.cell (i := 0) rfl
        have f_o_0_w3 := x_o.frozen 0
        have c_o_1_w3 := x_o.cell (i := 1) rfl
        have f_o_1_w3 := x_o.frozen 1
        have c_o_2_w3 := x_o.cell (i := 2) rfl
        have f_o_2_w3 := x_o.frozen 2
        have c_o_3_w3 := x_o.cell (i := 3) rfl
        have f_o_3_w3 := x_o.frozen 3
        have c_o_4_w3 := x_o.cell (i := 4) rfl
        have f_o_4_w3 := x_o.frozen 4
        go_wp2_with fail
        refine (sNode_any _ _).mono ?_
        rintro e w' ⟨rfl, rfl⟩
        rw [HN.out]
        go_wp2_with fail
        refine (sHasI_c (rF.from_ B_w3)).mono ?_
        rintro e w' ⟨rfl, rfl⟩
        rw [HH.out]
        go_wp2_with fail
        refine (sIn_any _ _ _ _).mono ?_
        rintro e w' ⟨rfl, rfl⟩
        rw [HB.out]
        go_wp2_with fail
        refine (sVal_any _ _).mono ?_
        rintro e w' ⟨rfl, rfl⟩
        rw [HU.out]
        go_wp2_with fail
        refine (sAdd_c (n := n) (rF.from_ B_w3) hl).mono ?_
        rintro e w4 ⟨v2, rfl, o_g, h_w4⟩
        clear c_p_0_w3 f_p_0_w3 c_p_1_w3 f_p_1_w3 c_p_2_w3 f_p_2_w3 c_p_3_w3 f_p_3_w3 c_p_4_w3 f_p_4_w3 c_r_0_w3 f_r_0_w3 c_r_1_w3 f_r_1_w3 c_r_2_w3 f_r_2_w3 c_r_3_w3 f_r_3_w3 c_r_4_w3 f_r_4_w3 c_o_0_w3 f_o_0_w3 c_o_1_w3 f_o_1_w3 c_o_2_w3 f_o_2_w3 c_o_3_w3 f_o_3_w3 c_o_4_w3 f_o_4_w3
        replace x_p := x_p.from_ h_w4
        replace x_r := x_r.from_ h_w4
        replace x_o := x_o.from_ h_w4
        replace ou := ou.below h_w4
        replace oF := oF.below h_w4
        replace oT := oT.below h_w4
        have B_w4 := B_w3.trans (h_w4.mono B_w3.size)
        have s_w4 := h_w4.size
        rw [HG.out] at o_g
        obtain ⟨Ag, cg, rfl, -, -, -⟩ := o_g.rd
        have c_p_0_w4 := x_p.cell (i := 0) rfl
        have f_p_0_w4 := x_p.frozen 0
        have c_p_1_w4 := x_p.cell (i := 1) rfl
        have f_p_1_w4 := x_p.frozen 1
        have c_p_2_w4 := x_p.cell (i := 2) rfl
        have f_p_2_w4 := x_p.frozen 2
        have c_p_3_w4 := x_p.cell (i := 3) rfl
        have f_p_3_w4 := x_p.frozen 3
        have c_p_4_w4 := x_p.cell (i := 4) rfl
        have f_p_4_w4 := x_p.frozen 4
        have c_r_0_w4 := x_r.cell (i := 0) rfl
        have f_r_0_w4 := x_r.frozen 0
        have c_r_1_w4 := x_r.cell (i := 1) rfl
        have f_r_1_w4 := x_r.frozen 1
        have c_r_2_w4 := x_r.cell (i := 2) rfl
        have f_r_2_w4 := x_r.frozen 2
        have c_r_3_w4 := x_r.cell (i := 3) rfl
        have f_r_3_w4 := x_r.frozen 3
        have c_r_4_w4 := x_r.cell (i := 4) rfl
        have f_r_4_w4 := x_r.frozen 4
        have c_o_0_w4 := x_o.cell (i := 0) rfl
        have f_o_0_w4 := x_o.frozen 0
        have c_o_1_w4 := x_o.cell (i := 1) rfl
        have f_o_1_w4 := x_o.frozen 1
        have c_o_2_w4 := x_o.cell (i := 2) rfl
        have f_o_2_w4 := x_o.frozen 2
        have c_o_3_w4 := x_o.cell (i := 3) rfl
        have f_o_3_w4 := x_o.frozen 3
        have c_o_4_w4 := x_o.cell (i := 4) rfl
        have f_o_4_w4 := x_o.frozen 4
        obtain ⟨w5, e_w5, s_w5, h_w5, y⟩ := set_step x_o 2 (.slice Ag G.length cg)
        have s_w5_1 := Nat.le_of_eq s_w5
        have s_w5_2 := Nat.le_of_eq s_w5.symm
        clear s_w5
        replace x_p := x_p.chg h_w5 (by omega)
        replace x_r := x_r.chg h_w5 (by omega)
        replace ou := ou.chg h_w5 (by omega)
        replace oF := oF.chg h_w5 (by omega)
        replace oT := oT.chg h_w5 (by omega)
        replace o_g := o_g.chg h_w5 (by omega)
        have B_w5 := Below.chg_ B_w4 h_w5 (by omega) (by omega)
        replace x_o : Vr w5 (w1.heap.size) 26 [.int .i64 p.Bal, .int .i64 p.Val, .slice Ag G.length cg, .int .i64 p.Best, .slice A2 p.Got.length c2] := y
        clear y
        have c_p_0_w5 := x_p.cell (i := 0) rfl
        have f_p_0_w5 := x_p.frozen 0
        have c_p_1_w5 := x_p.cell (i := 1) rfl
        have f_p_1_w5 := x_p.frozen 1
        have c_p_2_w5 := x_p.cell (i := 2) rfl
        have f_p_2_w5 := x_p.frozen 2
        have c_p_3_w5 := x_p.cell (i := 3) rfl
        have f_p_3_w5 := x_p.frozen 3
        have c_p_4_w5 := x_p.cell (i := 4) rfl
        have f_p_4_w5 := x_p.frozen 4
        have c_r_0_w5 := x_r.cell (i := 0) rfl
        have f_r_0_w5 := x_r.frozen 0
        have c_r_1_w5 := x_r.cell (i := 1) rfl
        have f_r_1_w5 := x_r.frozen 1
        have c_r_2_w5 := x_r.cell (i := 2) rfl
        have f_r_2_w5 := x_r.frozen 2
        have c_r_3_w5 := x_r.cell (i := 3) rfl
        have f_r_3_w5 := x_r.frozen 3
        have c_r_4_w5 := x_r.cell (i := 4) rfl
        have f_r_4_w5 := x_r.frozen 4
        have c_o_0_w5 := x_o.cell (i := 0) rfl
        have f_o_0_w5 := x_o.frozen 0
        have c_o_1_w5 := x_o.cell (i := 1) rfl
        have f_o_1_w5 := x_o.frozen 1
        have c_o_2_w5 := x_o.cell (i := 2) rfl
        have f_o_2_w5 := x_o.frozen 2
        have c_o_3_w5 := x_o.cell (i := 3) rfl
        have f_o_3_w5 := x_o.frozen 3
        have c_o_4_w5 := x_o.cell (i := 4) rfl
        have f_o_4_w5 := x_o.frozen 4
        obtain ⟨w6, e_w6, s_w6, h_w6, y⟩ := set_step x_o 3 (.int .i64 b)
        have s_w6_1 := Nat.le_of_eq s_w6
        have s_w6_2 := Nat.le_of_eq s_w6.symm
        clear s_w6
        replace x_p := x_p.chg h_w6 (by omega)
        replace x_r := x_r.chg h_w6 (by omega)
        replace ou := ou.chg h_w6 (by omega)
        replace oF := oF.chg h_w6 (by omega)
        replace oT := oT.chg h_w6 (by omega)
        replace o_g := o_g.chg h_w6 (by omega)
        have B_w6 := Below.chg_ B_w5 h_w6 (by omega) (by omega)
        replace x_o : Vr w6 (w1.heap.size) 26 [.int .i64 p.Bal, .int .i64 p.Val, .slice Ag G.length cg, .int .i64 b, .slice A2 p.Got.length c2] := y
        clear y
        have c_p_0_w6 := x_p.cell (i := 0) rfl
        have f_p_0_w6 := x_p.frozen 0
        have c_p_1_w6 := x_p.cell (i := 1) rfl
        have f_p_1_w6 := x_p.frozen 1
        have c_p_2_w6 := x_p.cell (i := 2) rfl
        have f_p_2_w6 := x_p.frozen 2
        have c_p_3_w6 := x_p.cell (i := 3) rfl
        have f_p_3_w6 := x_p.frozen 3
        have c_p_4_w6 := x_p.cell (i := 4) rfl
        have f_p_4_w6 := x_p.frozen 4
        have c_r_0_w6 := x_r.cell (i := 0) rfl
        have f_r_0_w6 := x_r.frozen 0
        have c_r_1_w6 := x_r.cell (i := 1) rfl
        have f_r_1_w6 := x_r.frozen 1
        have c_r_2_w6 := x_r.cell (i := 2) rfl
        have f_r_2_w6 := x_r.frozen 2
        have c_r_3_w6 := x_r.cell (i := 3) rfl
        have f_r_3_w6 := x_r.frozen 3
        have c_r_4_w6 := x_r.cell (i := 4) rfl
        have f_r_4_w6 := x_r.frozen 4
        have c_o_0_w6 := x_o.cell (i := 0) rfl
        have f_o_0_w6 := x_o.frozen 0
        have c_o_1_w6 := x_o.cell (i := 1) rfl
        have f_o_1_w6 := x_o.frozen 1
        have c_o_2_w6 := x_o.cell (i := 2) rfl
        have f_o_2_w6 := x_o.frozen 2
        have c_o_3_w6 := x_o.cell (i := 3) rfl
        have f_o_3_w6 := x_o.frozen 3
        have c_o_4_w6 := x_o.cell (i := 4) rfl
        have f_o_4_w6 := x_o.frozen 4
        obtain ⟨w7, e_w7, s_w7, h_w7, y⟩ := set_step x_o 1 (.int .i64 u)
        have s_w7_1 := Nat.le_of_eq s_w7
        have s_w7_2 := Nat.le_of_eq s_w7.symm
        clear s_w7
        replace x_p := x_p.chg h_w7 (by omega)
        replace x_r := x_r.chg h_w7 (by omega)
        replace ou := ou.chg h_w7 (by omega)
        replace oF := oF.chg h_w7 (by omega)
        replace oT := oT.chg h_w7 (by omega)
        replace o_g := o_g.chg h_w7 (by omega)
        have B_w7 := Below.chg_ B_w6 h_w7 (by omega) (by omega)
        replace x_o : Vr w7 (w1.heap.size) 26 [.int .i64 p.Bal, .int .i64 u, .slice Ag G.length cg, .int .i64 b, .slice A2 p.Got.length c2] := y
        clear y
        have c_p_0_w7 := x_p.cell (i := 0) rfl
        have f_p_0_w7 := x_p.frozen 0
        have c_p_1_w7 := x_p.cell (i := 1) rfl
        have f_p_1_w7 := x_p.frozen 1
        have c_p_2_w7 := x_p.cell (i := 2) rfl
        have f_p_2_w7 := x_p.frozen 2
        have c_p_3_w7 := x_p.cell (i := 3) rfl
        have f_p_3_w7 := x_p.frozen 3
        have c_p_4_w7 := x_p.cell (i := 4) rfl
        have f_p_4_w7 := x_p.frozen 4
        have c_r_0_w7 := x_r.cell (i := 0) rfl
        have f_r_0_w7 := x_r.frozen 0
        have c_r_1_w7 := x_r.cell (i := 1) rfl
        have f_r_1_w7 := x_r.frozen 1
        have c_r_2_w7 := x_r.cell (i := 2) rfl
        have f_r_2_w7 := x_r.frozen 2
        have c_r_3_w7 := x_r.cell (i := 3) rfl
        have f_r_3_w7 := x_r.frozen 3
        have c_r_4_w7 := x_r.cell (i := 4) rfl
        have f_r_4_w7 := x_r.frozen 4
        have c_o_0_w7 := x_o.cell (i := 0) rfl
        have f_o_0_w7 := x_o.frozen 0
        have c_o_1_w7 := x_o.cell (i := 1) rfl
        have f_o_1_w7 := x_o.frozen 1
        have c_o_2_w7 := x_o.cell (i := 2) rfl
        have f_o_2_w7 := x_o.frozen 2
        have c_o_3_w7 := x_o.cell (i := 3) rfl
        have f_o_3_w7 := x_o.frozen 3
        have c_o_4_w7 := x_o.cell (i := 4) rfl
        have f_o_4_w7 := x_o.frozen 4
        obtain ⟨w8, e_w8, s_w8, h_w8, y⟩ := store_step x_r [.int .i64 p.Bal, .int .i64 u, .slice Ag G.length cg, .int .i64 b, .slice A2 p.Got.length c2] rfl
        replace e_w8 : (((((w7.setCell ⟨w.heap.size + 1, 0, none⟩ (.int .i64 p.Bal)).setCell ⟨w.heap.size + 1, 1, none⟩ (.int .i64 u)).setCell ⟨w.heap.size + 1, 2, none⟩ (.slice Ag G.length cg)).setCell ⟨w.heap.size + 1, 3, none⟩ (.int .i64 b)).setCell ⟨w.heap.size + 1, 4, none⟩ (.slice A2 p.Got.length c2)) = w8 := e_w8
        have s_w8_1 := Nat.le_of_eq s_w8
        have s_w8_2 := Nat.le_of_eq s_w8.symm
        clear s_w8
        replace x_p := x_p.chg h_w8 (by omega)
        replace x_o := x_o.chg h_w8 (by omega)
        replace ou := ou.chg h_w8 (by omega)
        replace oF := oF.chg h_w8 (by omega)
        replace oT := oT.chg h_w8 (by omega)
        replace o_g := o_g.chg h_w8 (by omega)
        have B_w8 := Below.chg_ B_w7 h_w8 (by omega) (by omega)
        replace x_r : Vr w8 (w.heap.size + 1) 26 [.int .i64 p.Bal, .int .i64 u, .slice Ag G.length cg, .int .i64 b, .slice A2 p.Got.length c2] := y
        clear y
        have c_r_0_w8 := x_r.cell (i := 0) rfl
        have f_r_0_w8 := x_r.frozen 0
        have c_r_1_w8 := x_r.cell (i := 1) rfl
        have f_r_1_w8 := x_r.frozen 1
        have c_r_2_w8 := x_r.cell (i := 2) rfl
        have f_r_2_w8 := x_r.frozen 2
        have c_r_3_w8 := x_r.cell (i := 3) rfl
        have f_r_3_w8 := x_r.frozen 3
        have c_r_4_w8 := x_r.cell (i := 4) rfl
        have f_r_4_w8 := x_r.frozen 4
        go_wp2
        refine ret_cell (by rfl) (by rfl) x_r Try.underlying26 sz_prop (by rfl) ?_
        rw [HM.out]
        exact ⟨_, rfl, ov_prop (d := ⟨p.Bal, u, G, b, p.Got⟩) o_g oT (by omega), B_w8⟩
      case neg =>
        have HM : Hid (propHear p n b u = ⟨p.Bal, p.Val, G, p.Best, p.Got⟩) := by show _ = _; unfold propHear; rw [if_pos HB9.out, if_neg hbest, hG]
        have g5 : decide (p.Best < b) = false := decide_eq_false hbest
        clear hG hK hN hH hB hU hb0
        go_enter Try.func42, Try.ntmps42
        go_wp2_with fail
        refine (sPCopy_c (h0.from_ B0) hm).mono ?_
        rintro e w1 ⟨u_, rfl, ou, h_w1⟩
        clear c_p_0_wa f_p_0_wa c_p_1_wa f_p_1_wa c_p_2_wa f_p_2_wa c_p_3_wa f_p_3_wa c_p_4_wa f_p_4_wa c_r_0_wa f_r_0_wa c_r_1_wa f_r_1_wa c_r_2_wa f_r_2_wa c_r_3_wa f_r_3_wa c_r_4_wa f_r_4_wa
        replace x_p := x_p.from_ h_w1
        replace x_r := x_r.from_ h_w1
        have B_w1 := B0.trans (h_w1.mono B0.size)
        have s_w1 := h_w1.size
        obtain ⟨A1, c1, A2, c2, rfl, oF, oT⟩ := ov_prop_parts ou
        have c_p_0_w1 := x_p.cell (i := 0) rfl
        have f_p_0_w1 := x_p.frozen 0
        have c_p_1_w1 := x_p.cell (i := 1) rfl
        have f_p_1_w1 := x_p.frozen 1
        have c_p_2_w1 := x_p.cell (i := 2) rfl
        have f_p_2_w1 := x_p.frozen 2
        have c_p_3_w1 := x_p.cell (i := 3) rfl
        have f_p_3_w1 := x_p.frozen 3
        have c_p_4_w1 := x_p.cell (i := 4) rfl
        have f_p_4_w1 := x_p.frozen 4
        have c_r_0_w1 := x_r.cell (i := 0) rfl
        have f_r_0_w1 := x_r.frozen 0
        have c_r_1_w1 := x_r.cell (i := 1) rfl
        have f_r_1_w1 := x_r.frozen 1
        have c_r_2_w1 := x_r.cell (i := 2) rfl
        have f_r_2_w1 := x_r.frozen 2
        have c_r_3_w1 := x_r.cell (i := 3) rfl
        have f_r_3_w1 := x_r.frozen 3
        have c_r_4_w1 := x_r.cell (i := 4) rfl
        have f_r_4_w1 := x_r.frozen 4
        obtain ⟨w2, e_w2, s_w2, h_w2, x_o⟩ := alloc_step w1 26 [.int .i64 p.Bal, .int .i64 p.Val, .slice A1 p.From.length c1, .int .i64 p.Best, .slice A2 p.Got.length c2]
        have s_w2_1 := Nat.le_of_eq s_w2
        have s_w2_2 := Nat.le_of_eq s_w2.symm
        clear s_w2
        replace x_p := x_p.from_ h_w2
        replace x_r := x_r.from_ h_w2
        replace ou := ou.below h_w2
        replace oF := oF.below h_w2
        replace oT := oT.below h_w2
        have B_w2 := B_w1.trans (h_w2.mono B_w1.size)
        have c_p_0_w2 := x_p.cell (i := 0) rfl
        have f_p_0_w2 := x_p.frozen 0
        have c_p_1_w2 := x_p.cell (i := 1) rfl
        have f_p_1_w2 := x_p.frozen 1
        have c_p_2_w2 := x_p.cell (i := 2) rfl
        have f_p_2_w2 := x_p.frozen 2
        have c_p_3_w2 := x_p.cell (i := 3) rfl
        have f_p_3_w2 := x_p.frozen 3
        have c_p_4_w2 := x_p.cell (i := 4) rfl
        have f_p_4_w2 := x_p.frozen 4
        have c_r_0_w2 := x_r.cell (i := 0) rfl
        have f_r_0_w2 := x_r.frozen 0
        have c_r_1_w2 := x_r.cell (i := 1) rfl
        have f_r_1_w2 := x_r.frozen 1
        have c_r_2_w2 := x_r.cell (i := 2) rfl
        have f_r_2_w2 := x_r.frozen 2
        have c_r_3_w2 := x_r.cell (i := 3) rfl
        have f_r_3_w2 := x_r.frozen 3
        have c_r_4_w2 := x_r.cell (i := 4) rfl
        have f_r_4_w2 := x_r.frozen 4
        have c_o_0_w2 := x_o.cell (i := 0) rfl
        have f_o_0_w2 := x_o.frozen 0
        have c_o_1_w2 := x_o.cell (i := 1) rfl
        have f_o_1_w2 := x_o.frozen 1
        have c_o_2_w2 := x_o.cell (i := 2) rfl
        have f_o_2_w2 := x_o.frozen 2
        have c_o_3_w2 := x_o.cell (i := 3) rfl
        have f_o_3_w2 := x_o.frozen 3
        have c_o_4_w2 := x_o.cell (i := 4) rfl
        have f_o_4_w2 := x_o.frozen 4
        go_wp2_with fail
        refine (sPropOk_c (h0.from_ B_w2)).mono ?_
        rintro e w3 ⟨rfl, h_w3⟩
        clear c_p_0_w1 f_p_0_w1 c_p_1_w1 f_p_1_w1 c_p_2_w1 f_p_2_w1 c_p_3_w1 f_p_3_w1 c_p_4_w1 f_p_4_w1 c_r_0_w1 f_r_0_w1 c_r_1_w1 f_r_1_w1 c_r_2_w1 f_r_2_w1 c_r_3_w1 f_r_3_w1 c_r_4_w1 f_r_4_w1 c_p_0_w2 f_p_0_w2 c_p_1_w2 f_p_1_w2 c_p_2_w2 f_p_2_w2 c_p_3_w2 f_p_3_w2 c_p_4_w2 f_p_4_w2 c_r_0_w2 f_r_0_w2 c_r_1_w2 f_r_1_w2 c_r_2_w2 f_r_2_w2 c_r_3_w2 f_r_3_w2 c_r_4_w2 f_r_4_w2 c_o_0_w2 f_o_0_w2 c_o_1_w2 f_o_1_w2 c_o_2_w2 f_o_2_w2 c_o_3_w2 f_o_3_w2 c_o_4_w2 f_o_4_w2
        replace x_p := x_p.from_ h_w3
        replace x_r := x_r.from_ h_w3
        replace x_o := x_o.from_ h_w3
        replace ou := ou.below h_w3
        replace oF := oF.below h_w3
        replace oT := oT.below h_w3
        have B_w3 := B_w2.trans (h_w3.mono B_w2.size)
        have s_w3 := h_w3.size
        rw [HK.out]
        have c_p_0_w3 := x_p.cell (i := 0) rfl
        have f_p_0_w3 := x_p.frozen 0
        have c_p_1_w3 := x_p.cell (i := 1) rfl
        have f_p_1_w3 := x_p.frozen 1
        have c_p_2_w3 := x_p.cell (i := 2) rfl
        have f_p_2_w3 := x_p.frozen 2
        have c_p_3_w3 := x_p.cell (i := 3) rfl
        have f_p_3_w3 := x_p.frozen 3
        have c_p_4_w3 := x_p.cell (i := 4) rfl
        have f_p_4_w3 := x_p.frozen 4
        have c_r_0_w3 := x_r.cell (i := 0) rfl
        have f_r_0_w3 := x_r.frozen 0
        have c_r_1_w3 := x_r.cell (i := 1) rfl
        have f_r_1_w3 := x_r.frozen 1
        have c_r_2_w3 := x_r.cell (i := 2) rfl
        have f_r_2_w3 := x_r.frozen 2
        have c_r_3_w3 := x_r.cell (i := 3) rfl
        have f_r_3_w3 := x_r.frozen 3
        have c_r_4_w3 := x_r.cell (i := 4) rfl
        have f_r_4_w3 := x_r.frozen 4
        have c_o_0_w3 := x_o.cell (i := 0) rfl
        have f_o_0_w3 := x_o.frozen 0
        have c_o_1_w3 := x_o.cell (i := 1) rfl
        have f_o_1_w3 := x_o.frozen 1
        have c_o_2_w3 := x_o.cell (i := 2) rfl
        have f_o_2_w3 := x_o.frozen 2
        have c_o_3_w3 := x_o.cell (i := 3) rfl
        have f_o_3_w3 := x_o.frozen 3
        have c_o_4_w3 := x_o.cell (i := 4) rfl
        have f_o_4_w3 := x_o.frozen 4
        go_wp2_with fail
        refine (sNode_any _ _).mono ?_
        rintro e w' ⟨rfl, rfl⟩
        rw [HN.out]
        go_wp2_with fail
        refine (sHasI_c (rF.from_ B_w3)).mono ?_
        rintro e w' ⟨rfl, rfl⟩
        rw [HH.out]
        go_wp2_with fail
        refine (sIn_any _ _ _ _).mono ?_
        rintro e w' ⟨rfl, rfl⟩
        rw [HB.out]
        go_wp2_with fail
        refine (sVal_any _ _).mono ?_
        rintro e w' ⟨rfl, rfl⟩
        rw [HU.out]
        go_wp2_with fail
        refine (sAdd_c (n := n) (rF.from_ B_w3) hl).mono ?_
        rintro e w4 ⟨v2, rfl, o_g, h_w4⟩
        clear c_p_0_w3 f_p_0_w3 c_p_1_w3 f_p_1_w3 c_p_2_w3 f_p_2_w3 c_p_3_w3 f_p_3_w3 c_p_4_w3 f_p_4_w3 c_r_0_w3 f_r_0_w3 c_r_1_w3 f_r_1_w3 c_r_2_w3 f_r_2_w3 c_r_3_w3 f_r_3_w3 c_r_4_w3 f_r_4_w3 c_o_0_w3 f_o_0_w3 c_o_1_w3 f_o_1_w3 c_o_2_w3 f_o_2_w3 c_o_3_w3 f_o_3_w3 c_o_4_w3 f_o_4_w3
        replace x_p := x_p.from_ h_w4
        replace x_r := x_r.from_ h_w4
        replace x_o := x_o.from_ h_w4
        replace ou := ou.below h_w4
        replace oF := oF.below h_w4
        replace oT := oT.below h_w4
        have B_w4 := B_w3.trans (h_w4.mono B_w3.size)
        have s_w4 := h_w4.size
        rw [HG.out] at o_g
        obtain ⟨Ag, cg, rfl, -, -, -⟩ := o_g.rd
        have c_p_0_w4 := x_p.cell (i := 0) rfl
        have f_p_0_w4 := x_p.frozen 0
        have c_p_1_w4 := x_p.cell (i := 1) rfl
        have f_p_1_w4 := x_p.frozen 1
        have c_p_2_w4 := x_p.cell (i := 2) rfl
        have f_p_2_w4 := x_p.frozen 2
        have c_p_3_w4 := x_p.cell (i := 3) rfl
        have f_p_3_w4 := x_p.frozen 3
        have c_p_4_w4 := x_p.cell (i := 4) rfl
        have f_p_4_w4 := x_p.frozen 4
        have c_r_0_w4 := x_r.cell (i := 0) rfl
        have f_r_0_w4 := x_r.frozen 0
        have c_r_1_w4 := x_r.cell (i := 1) rfl
        have f_r_1_w4 := x_r.frozen 1
        have c_r_2_w4 := x_r.cell (i := 2) rfl
        have f_r_2_w4 := x_r.frozen 2
        have c_r_3_w4 := x_r.cell (i := 3) rfl
        have f_r_3_w4 := x_r.frozen 3
        have c_r_4_w4 := x_r.cell (i := 4) rfl
        have f_r_4_w4 := x_r.frozen 4
        have c_o_0_w4 := x_o.cell (i := 0) rfl
        have f_o_0_w4 := x_o.frozen 0
        have c_o_1_w4 := x_o.cell (i := 1) rfl
        have f_o_1_w4 := x_o.frozen 1
        have c_o_2_w4 := x_o.cell (i := 2) rfl
        have f_o_2_w4 := x_o.frozen 2
        have c_o_3_w4 := x_o.cell (i := 3) rfl
        have f_o_3_w4 := x_o.frozen 3
        have c_o_4_w4 := x_o.cell (i := 4) rfl
        have f_o_4_w4 := x_o.frozen 4
        obtain ⟨w5, e_w5, s_w5, h_w5, y⟩ := set_step x_o 2 (.slice Ag G.length cg)
        have s_w5_1 := Nat.le_of_eq s_w5
        have s_w5_2 := Nat.le_of_eq s_w5.symm
        clear s_w5
        replace x_p := x_p.chg h_w5 (by omega)
        replace x_r := x_r.chg h_w5 (by omega)
        replace ou := ou.chg h_w5 (by omega)
        replace oF := oF.chg h_w5 (by omega)
        replace oT := oT.chg h_w5 (by omega)
        replace o_g := o_g.chg h_w5 (by omega)
        have B_w5 := Below.chg_ B_w4 h_w5 (by omega) (by omega)
        replace x_o : Vr w5 (w1.heap.size) 26 [.int .i64 p.Bal, .int .i64 p.Val, .slice Ag G.length cg, .int .i64 p.Best, .slice A2 p.Got.length c2] := y
        clear y
        have c_p_0_w5 := x_p.cell (i := 0) rfl
        have f_p_0_w5 := x_p.frozen 0
        have c_p_1_w5 := x_p.cell (i := 1) rfl
        have f_p_1_w5 := x_p.frozen 1
        have c_p_2_w5 := x_p.cell (i := 2) rfl
        have f_p_2_w5 := x_p.frozen 2
        have c_p_3_w5 := x_p.cell (i := 3) rfl
        have f_p_3_w5 := x_p.frozen 3
        have c_p_4_w5 := x_p.cell (i := 4) rfl
        have f_p_4_w5 := x_p.frozen 4
        have c_r_0_w5 := x_r.cell (i := 0) rfl
        have f_r_0_w5 := x_r.frozen 0
        have c_r_1_w5 := x_r.cell (i := 1) rfl
        have f_r_1_w5 := x_r.frozen 1
        have c_r_2_w5 := x_r.cell (i := 2) rfl
        have f_r_2_w5 := x_r.frozen 2
        have c_r_3_w5 := x_r.cell (i := 3) rfl
        have f_r_3_w5 := x_r.frozen 3
        have c_r_4_w5 := x_r.cell (i := 4) rfl
        have f_r_4_w5 := x_r.frozen 4
        have c_o_0_w5 := x_o.cell (i := 0) rfl
        have f_o_0_w5 := x_o.frozen 0
        have c_o_1_w5 := x_o.cell (i := 1) rfl
        have f_o_1_w5 := x_o.frozen 1
        have c_o_2_w5 := x_o.cell (i := 2) rfl
        have f_o_2_w5 := x_o.frozen 2
        have c_o_3_w5 := x_o.cell (i := 3) rfl
        have f_o_3_w5 := x_o.frozen 3
        have c_o_4_w5 := x_o.cell (i := 4) rfl
        have f_o_4_w5 := x_o.frozen 4
        obtain ⟨w6, e_w6, s_w6, h_w6, y⟩ := store_step x_r [.int .i64 p.Bal, .int .i64 p.Val, .slice Ag G.length cg, .int .i64 p.Best, .slice A2 p.Got.length c2] rfl
        replace e_w6 : (((((w5.setCell ⟨w.heap.size + 1, 0, none⟩ (.int .i64 p.Bal)).setCell ⟨w.heap.size + 1, 1, none⟩ (.int .i64 p.Val)).setCell ⟨w.heap.size + 1, 2, none⟩ (.slice Ag G.length cg)).setCell ⟨w.heap.size + 1, 3, none⟩ (.int .i64 p.Best)).setCell ⟨w.heap.size + 1, 4, none⟩ (.slice A2 p.Got.length c2)) = w6 := e_w6
        have s_w6_1 := Nat.le_of_eq s_w6
        have s_w6_2 := Nat.le_of_eq s_w6.symm
        clear s_w6
        replace x_p := x_p.chg h_w6 (by omega)
        replace x_o := x_o.chg h_w6 (by omega)
        replace ou := ou.chg h_w6 (by omega)
        replace oF := oF.chg h_w6 (by omega)
        replace oT := oT.chg h_w6 (by omega)
        replace o_g := o_g.chg h_w6 (by omega)
        have B_w6 := Below.chg_ B_w5 h_w6 (by omega) (by omega)
        replace x_r : Vr w6 (w.heap.size + 1) 26 [.int .i64 p.Bal, .int .i64 p.Val, .slice Ag G.length cg, .int .i64 p.Best, .slice A2 p.Got.length c2] := y
        clear y
        have c_r_0_w6 := x_r.cell (i := 0) rfl
        have f_r_0_w6 := x_r.frozen 0
        have c_r_1_w6 := x_r.cell (i := 1) rfl
        have f_r_1_w6 := x_r.frozen 1
        have c_r_2_w6 := x_r.cell (i := 2) rfl
        have f_r_2_w6 := x_r.frozen 2
        have c_r_3_w6 := x_r.cell (i := 3) rfl
        have f_r_3_w6 := x_r.frozen 3
        have c_r_4_w6 := x_r.cell (i := 4) rfl
        have f_r_4_w6 := x_r.frozen 4
        go_wp2
        refine ret_cell (by rfl) (by rfl) x_r Try.underlying26 sz_prop (by rfl) ?_
        rw [HM.out]
        exact ⟨_, rfl, ov_prop (d := ⟨p.Bal, p.Val, G, p.Best, p.Got⟩) o_g oT (by omega), B_w6⟩
    case neg =>
      have g0 : decide (0 < b) = false := decide_eq_false hb0
      have HB9 : Hid (hearB p n b u = true) := by show _ = _; unfold hearB; rw [hK, hN, hH, hB, g0]; rfl
      obtain ⟨G, hG⟩ : ∃ G, addI p.From n = G := ⟨_, rfl⟩
      have HG := Lib.hid hG
      have hl : p.From.length ≤ 16777216 := by unfold MProp.bulk at hm; omega
      have bb := propOk_bal HK.out
      have tw := IntWalk.i64_in (p.Bal - 1) (by omega)
      by_cases hbest : p.Best < b
      case pos =>
        have HM : Hid (propHear p n b u = ⟨p.Bal, u, G, b, p.Got⟩) := by show _ = _; unfold propHear; rw [if_pos HB9.out, if_pos hbest, hG]
        have g5 : decide (p.Best < b) = true := decide_eq_true hbest
        clear hG hK hN hH hB hU hb0
        go_enter Try.func42, Try.ntmps42
        go_wp2_with fail
        refine (sPCopy_c (h0.from_ B0) hm).mono ?_
        rintro e w1 ⟨u_, rfl, ou, h_w1⟩
        clear c_p_0_wa f_p_0_wa c_p_1_wa f_p_1_wa c_p_2_wa f_p_2_wa c_p_3_wa f_p_3_wa c_p_4_wa f_p_4_wa c_r_0_wa f_r_0_wa c_r_1_wa f_r_1_wa c_r_2_wa f_r_2_wa c_r_3_wa f_r_3_wa c_r_4_wa f_r_4_wa
        replace x_p := x_p.from_ h_w1
        replace x_r := x_r.from_ h_w1
        have B_w1 := B0.trans (h_w1.mono B0.size)
        have s_w1 := h_w1.size
        obtain ⟨A1, c1, A2, c2, rfl, oF, oT⟩ := ov_prop_parts ou
        have c_p_0_w1 := x_p.cell (i := 0) rfl
        have f_p_0_w1 := x_p.frozen 0
        have c_p_1_w1 := x_p.cell (i := 1) rfl
        have f_p_1_w1 := x_p.frozen 1
        have c_p_2_w1 := x_p.cell (i := 2) rfl
        have f_p_2_w1 := x_p.frozen 2
        have c_p_3_w1 := x_p.cell (i := 3) rfl
        have f_p_3_w1 := x_p.frozen 3
        have c_p_4_w1 := x_p.cell (i := 4) rfl
        have f_p_4_w1 := x_p.frozen 4
        have c_r_0_w1 := x_r.cell (i := 0) rfl
        have f_r_0_w1 := x_r.frozen 0
        have c_r_1_w1 := x_r.cell (i := 1) rfl
        have f_r_1_w1 := x_r.frozen 1
        have c_r_2_w1 := x_r.cell (i := 2) rfl
        have f_r_2_w1 := x_r.frozen 2
        have c_r_3_w1 := x_r.cell (i := 3) rfl
        have f_r_3_w1 := x_r.frozen 3
        have c_r_4_w1 := x_r.cell (i := 4) rfl
        have f_r_4_w1 := x_r.frozen 4
        obtain ⟨w2, e_w2, s_w2, h_w2, x_o⟩ := alloc_step w1 26 [.int .i64 p.Bal, .int .i64 p.Val, .slice A1 p.From.length c1, .int .i64 p.Best, .slice A2 p.Got.length c2]
        have s_w2_1 := Nat.le_of_eq s_w2
        have s_w2_2 := Nat.le_of_eq s_w2.symm
        clear s_w2
        replace x_p := x_p.from_ h_w2
        replace x_r := x_r.from_ h_w2
        replace ou := ou.below h_w2
        replace oF := oF.below h_w2
        replace oT := oT.below h_w2
        have B_w2 := B_w1.trans (h_w2.mono B_w1.size)
        have c_p_0_w2 := x_p.cell (i := 0) rfl
        have f_p_0_w2 := x_p.frozen 0
        have c_p_1_w2 := x_p.cell (i := 1) rfl
        have f_p_1_w2 := x_p.frozen 1
        have c_p_2_w2 := x_p.cell (i := 2) rfl
        have f_p_2_w2 := x_p.frozen 2
        have c_p_3_w2 := x_p.cell (i := 3) rfl
        have f_p_3_w2 := x_p.frozen 3
        have c_p_4_w2 := x_p.cell (i := 4) rfl
        have f_p_4_w2 := x_p.frozen 4
        have c_r_0_w2 := x_r.cell (i := 0) rfl
        have f_r_0_w2 := x_r.frozen 0
        have c_r_1_w2 := x_r.cell (i := 1) rfl
        have f_r_1_w2 := x_r.frozen 1
        have c_r_2_w2 := x_r.cell (i := 2) rfl
        have f_r_2_w2 := x_r.frozen 2
        have c_r_3_w2 := x_r.cell (i := 3) rfl
        have f_r_3_w2 := x_r.frozen 3
        have c_r_4_w2 := x_r.cell (i := 4) rfl
        have f_r_4_w2 := x_r.frozen 4
        have c_o_0_w2 := x_o.cell (i := 0) rfl
        have f_o_0_w2 := x_o.frozen 0
        have c_o_1_w2 := x_o.cell (i := 1) rfl
        have f_o_1_w2 := x_o.frozen 1
        have c_o_2_w2 := x_o.cell (i := 2) rfl
        have f_o_2_w2 := x_o.frozen 2
        have c_o_3_w2 := x_o.cell (i := 3) rfl
        have f_o_3_w2 := x_o.frozen 3
        have c_o_4_w2 := x_o.cell (i := 4) rfl
        have f_o_4_w2 := x_o.frozen 4
        go_wp2_with fail
        refine (sPropOk_c (h0.from_ B_w2)).mono ?_
        rintro e w3 ⟨rfl, h_w3⟩
        clear c_p_0_w1 f_p_0_w1 c_p_1_w1 f_p_1_w1 c_p_2_w1 f_p_2_w1 c_p_3_w1 f_p_3_w1 c_p_4_w1 f_p_4_w1 c_r_0_w1 f_r_0_w1 c_r_1_w1 f_r_1_w1 c_r_2_w1 f_r_2_w1 c_r_3_w1 f_r_3_w1 c_r_4_w1 f_r_4_w1 c_p_0_w2 f_p_0_w2 c_p_1_w2 f_p_1_w2 c_p_2_w2 f_p_2_w2 c_p_3_w2 f_p_3_w2 c_p_4_w2 f_p_4_w2 c_r_0_w2 f_r_0_w2 c_r_1_w2 f_r_1_w2 c_r_2_w2 f_r_2_w2 c_r_3_w2 f_r_3_w2 c_r_4_w2 f_r_4_w2 c_o_0_w2 f_o_0_w2 c_o_1_w2 f_o_1_w2 c_o_2_w2 f_o_2_w2 c_o_3_w2 f_o_3_w2 c_o_4_w2 f_o_4_w2
        replace x_p := x_p.from_ h_w3
        replace x_r := x_r.from_ h_w3
        replace x_o := x_o.from_ h_w3
        replace ou := ou.below h_w3
        replace oF := oF.below h_w3
        replace oT := oT.below h_w3
        have B_w3 := B_w2.trans (h_w3.mono B_w2.size)
        have s_w3 := h_w3.size
        rw [HK.out]
        have c_p_0_w3 := x_p.cell (i := 0) rfl
        have f_p_0_w3 := x_p.frozen 0
        have c_p_1_w3 := x_p.cell (i := 1) rfl
        have f_p_1_w3 := x_p.frozen 1
        have c_p_2_w3 := x_p.cell (i := 2) rfl
        have f_p_2_w3 := x_p.frozen 2
        have c_p_3_w3 := x_p.cell (i := 3) rfl
        have f_p_3_w3 := x_p.frozen 3
        have c_p_4_w3 := x_p.cell (i := 4) rfl
        have f_p_4_w3 := x_p.frozen 4
        have c_r_0_w3 := x_r.cell (i := 0) rfl
        have f_r_0_w3 := x_r.frozen 0
        have c_r_1_w3 := x_r.cell (i := 1) rfl
        have f_r_1_w3 := x_r.frozen 1
        have c_r_2_w3 := x_r.cell (i := 2) rfl
        have f_r_2_w3 := x_r.frozen 2
        have c_r_3_w3 := x_r.cell (i := 3) rfl
        have f_r_3_w3 := x_r.frozen 3
        have c_r_4_w3 := x_r.cell (i := 4) rfl
        have f_r_4_w3 := x_r.frozen 4
        have c_o_0_w3 := x_o.cell (i := 0) rfl
        have f_o_0_w3 := x_o.frozen 0
        have c_o_1_w3 := x_o.cell (i := 1) rfl
        have f_o_1_w3 := x_o.frozen 1
        have c_o_2_w3 := x_o.cell (i := 2) rfl
        have f_o_2_w3 := x_o.frozen 2
        have c_o_3_w3 := x_o.cell (i := 3) rfl
        have f_o_3_w3 := x_o.frozen 3
        have c_o_4_w3 := x_o.cell (i := 4) rfl
        have f_o_4_w3 := x_o.frozen 4
        go_wp2_with fail
        refine (sNode_any _ _).mono ?_
        rintro e w' ⟨rfl, rfl⟩
        rw [HN.out]
        go_wp2_with fail
        refine (sHasI_c (rF.from_ B_w3)).mono ?_
        rintro e w' ⟨rfl, rfl⟩
        rw [HH.out]
        go_wp2_with fail
        refine (sIn_any _ _ _ _).mono ?_
        rintro e w' ⟨rfl, rfl⟩
        rw [HB.out]
        go_wp2_with fail
        refine (sAdd_c (n := n) (rF.from_ B_w3) hl).mono ?_
        rintro e w4 ⟨v2, rfl, o_g, h_w4⟩
        clear c_p_0_w3 f_p_0_w3 c_p_1_w3 f_p_1_w3 c_p_2_w3 f_p_2_w3 c_p_3_w3 f_p_3_w3 c_p_4_w3 f_p_4_w3 c_r_0_w3 f_r_0_w3 c_r_1_w3 f_r_1_w3 c_r_2_w3 f_r_2_w3 c_r_3_w3 f_r_3_w3 c_r_4_w3 f_r_4_w3 c_o_0_w3 f_o_0_w3 c_o_1_w3 f_o_1_w3 c_o_2_w3 f_o_2_w3 c_o_3_w3 f_o_3_w3 c_o_4_w3 f_o_4_w3
        replace x_p := x_p.from_ h_w4
        replace x_r := x_r.from_ h_w4
        replace x_o := x_o.from_ h_w4
        replace ou := ou.below h_w4
        replace oF := oF.below h_w4
        replace oT := oT.below h_w4
        have B_w4 := B_w3.trans (h_w4.mono B_w3.size)
        have s_w4 := h_w4.size
        rw [HG.out] at o_g
        obtain ⟨Ag, cg, rfl, -, -, -⟩ := o_g.rd
        have c_p_0_w4 := x_p.cell (i := 0) rfl
        have f_p_0_w4 := x_p.frozen 0
        have c_p_1_w4 := x_p.cell (i := 1) rfl
        have f_p_1_w4 := x_p.frozen 1
        have c_p_2_w4 := x_p.cell (i := 2) rfl
        have f_p_2_w4 := x_p.frozen 2
        have c_p_3_w4 := x_p.cell (i := 3) rfl
        have f_p_3_w4 := x_p.frozen 3
        have c_p_4_w4 := x_p.cell (i := 4) rfl
        have f_p_4_w4 := x_p.frozen 4
        have c_r_0_w4 := x_r.cell (i := 0) rfl
        have f_r_0_w4 := x_r.frozen 0
        have c_r_1_w4 := x_r.cell (i := 1) rfl
        have f_r_1_w4 := x_r.frozen 1
        have c_r_2_w4 := x_r.cell (i := 2) rfl
        have f_r_2_w4 := x_r.frozen 2
        have c_r_3_w4 := x_r.cell (i := 3) rfl
        have f_r_3_w4 := x_r.frozen 3
        have c_r_4_w4 := x_r.cell (i := 4) rfl
        have f_r_4_w4 := x_r.frozen 4
        have c_o_0_w4 := x_o.cell (i := 0) rfl
        have f_o_0_w4 := x_o.frozen 0
        have c_o_1_w4 := x_o.cell (i := 1) rfl
        have f_o_1_w4 := x_o.frozen 1
        have c_o_2_w4 := x_o.cell (i := 2) rfl
        have f_o_2_w4 := x_o.frozen 2
        have c_o_3_w4 := x_o.cell (i := 3) rfl
        have f_o_3_w4 := x_o.frozen 3
        have c_o_4_w4 := x_o.cell (i := 4) rfl
        have f_o_4_w4 := x_o.frozen 4
        obtain ⟨w5, e_w5, s_w5, h_w5, y⟩ := set_step x_o 2 (.slice Ag G.length cg)
        have s_w5_1 := Nat.le_of_eq s_w5
        have s_w5_2 := Nat.le_of_eq s_w5.symm
        clear s_w5
        replace x_p := x_p.chg h_w5 (by omega)
        replace x_r := x_r.chg h_w5 (by omega)
        replace ou := ou.chg h_w5 (by omega)
        replace oF := oF.chg h_w5 (by omega)
        replace oT := oT.chg h_w5 (by omega)
        replace o_g := o_g.chg h_w5 (by omega)
        have B_w5 := Below.chg_ B_w4 h_w5 (by omega) (by omega)
        replace x_o : Vr w5 (w1.heap.size) 26 [.int .i64 p.Bal, .int .i64 p.Val, .slice Ag G.length cg, .int .i64 p.Best, .slice A2 p.Got.length c2] := y
        clear y
        have c_p_0_w5 := x_p.cell (i := 0) rfl
        have f_p_0_w5 := x_p.frozen 0
        have c_p_1_w5 := x_p.cell (i := 1) rfl
        have f_p_1_w5 := x_p.frozen 1
        have c_p_2_w5 := x_p.cell (i := 2) rfl
        have f_p_2_w5 := x_p.frozen 2
        have c_p_3_w5 := x_p.cell (i := 3) rfl
        have f_p_3_w5 := x_p.frozen 3
        have c_p_4_w5 := x_p.cell (i := 4) rfl
        have f_p_4_w5 := x_p.frozen 4
        have c_r_0_w5 := x_r.cell (i := 0) rfl
        have f_r_0_w5 := x_r.frozen 0
        have c_r_1_w5 := x_r.cell (i := 1) rfl
        have f_r_1_w5 := x_r.frozen 1
        have c_r_2_w5 := x_r.cell (i := 2) rfl
        have f_r_2_w5 := x_r.frozen 2
        have c_r_3_w5 := x_r.cell (i := 3) rfl
        have f_r_3_w5 := x_r.frozen 3
        have c_r_4_w5 := x_r.cell (i := 4) rfl
        have f_r_4_w5 := x_r.frozen 4
        have c_o_0_w5 := x_o.cell (i := 0) rfl
        have f_o_0_w5 := x_o.frozen 0
        have c_o_1_w5 := x_o.cell (i := 1) rfl
        have f_o_1_w5 := x_o.frozen 1
        have c_o_2_w5 := x_o.cell (i := 2) rfl
        have f_o_2_w5 := x_o.frozen 2
        have c_o_3_w5 := x_o.cell (i := 3) rfl
        have f_o_3_w5 := x_o.frozen 3
        have c_o_4_w5 := x_o.cell (i := 4) rfl
        have f_o_4_w5 := x_o.frozen 4
        obtain ⟨w6, e_w6, s_w6, h_w6, y⟩ := set_step x_o 3 (.int .i64 b)
        have s_w6_1 := Nat.le_of_eq s_w6
        have s_w6_2 := Nat.le_of_eq s_w6.symm
        clear s_w6
        replace x_p := x_p.chg h_w6 (by omega)
        replace x_r := x_r.chg h_w6 (by omega)
        replace ou := ou.chg h_w6 (by omega)
        replace oF := oF.chg h_w6 (by omega)
        replace oT := oT.chg h_w6 (by omega)
        replace o_g := o_g.chg h_w6 (by omega)
        have B_w6 := Below.chg_ B_w5 h_w6 (by omega) (by omega)
        replace x_o : Vr w6 (w1.heap.size) 26 [.int .i64 p.Bal, .int .i64 p.Val, .slice Ag G.length cg, .int .i64 b, .slice A2 p.Got.length c2] := y
        clear y
        have c_p_0_w6 := x_p.cell (i := 0) rfl
        have f_p_0_w6 := x_p.frozen 0
        have c_p_1_w6 := x_p.cell (i := 1) rfl
        have f_p_1_w6 := x_p.frozen 1
        have c_p_2_w6 := x_p.cell (i := 2) rfl
        have f_p_2_w6 := x_p.frozen 2
        have c_p_3_w6 := x_p.cell (i := 3) rfl
        have f_p_3_w6 := x_p.frozen 3
        have c_p_4_w6 := x_p.cell (i := 4) rfl
        have f_p_4_w6 := x_p.frozen 4
        have c_r_0_w6 := x_r.cell (i := 0) rfl
        have f_r_0_w6 := x_r.frozen 0
        have c_r_1_w6 := x_r.cell (i := 1) rfl
        have f_r_1_w6 := x_r.frozen 1
        have c_r_2_w6 := x_r.cell (i := 2) rfl
        have f_r_2_w6 := x_r.frozen 2
        have c_r_3_w6 := x_r.cell (i := 3) rfl
        have f_r_3_w6 := x_r.frozen 3
        have c_r_4_w6 := x_r.cell (i := 4) rfl
        have f_r_4_w6 := x_r.frozen 4
        have c_o_0_w6 := x_o.cell (i := 0) rfl
        have f_o_0_w6 := x_o.frozen 0
        have c_o_1_w6 := x_o.cell (i := 1) rfl
        have f_o_1_w6 := x_o.frozen 1
        have c_o_2_w6 := x_o.cell (i := 2) rfl
        have f_o_2_w6 := x_o.frozen 2
        have c_o_3_w6 := x_o.cell (i := 3) rfl
        have f_o_3_w6 := x_o.frozen 3
        have c_o_4_w6 := x_o.cell (i := 4) rfl
        have f_o_4_w6 := x_o.frozen 4
        obtain ⟨w7, e_w7, s_w7, h_w7, y⟩ := set_step x_o 1 (.int .i64 u)
        have s_w7_1 := Nat.le_of_eq s_w7
        have s_w7_2 := Nat.le_of_eq s_w7.symm
        clear s_w7
        replace x_p := x_p.chg h_w7 (by omega)
        replace x_r := x_r.chg h_w7 (by omega)
        replace ou := ou.chg h_w7 (by omega)
        replace oF := oF.chg h_w7 (by omega)
        replace oT := oT.chg h_w7 (by omega)
        replace o_g := o_g.chg h_w7 (by omega)
        have B_w7 := Below.chg_ B_w6 h_w7 (by omega) (by omega)
        replace x_o : Vr w7 (w1.heap.size) 26 [.int .i64 p.Bal, .int .i64 u, .slice Ag G.length cg, .int .i64 b, .slice A2 p.Got.length c2] := y
        clear y
        have c_p_0_w7 := x_p.cell (i := 0) rfl
        have f_p_0_w7 := x_p.frozen 0
        have c_p_1_w7 := x_p.cell (i := 1) rfl
        have f_p_1_w7 := x_p.frozen 1
        have c_p_2_w7 := x_p.cell (i := 2) rfl
        have f_p_2_w7 := x_p.frozen 2
        have c_p_3_w7 := x_p.cell (i := 3) rfl
        have f_p_3_w7 := x_p.frozen 3
        have c_p_4_w7 := x_p.cell (i := 4) rfl
        have f_p_4_w7 := x_p.frozen 4
        have c_r_0_w7 := x_r.cell (i := 0) rfl
        have f_r_0_w7 := x_r.frozen 0
        have c_r_1_w7 := x_r.cell (i := 1) rfl
        have f_r_1_w7 := x_r.frozen 1
        have c_r_2_w7 := x_r.cell (i := 2) rfl
        have f_r_2_w7 := x_r.frozen 2
        have c_r_3_w7 := x_r.cell (i := 3) rfl
        have f_r_3_w7 := x_r.frozen 3
        have c_r_4_w7 := x_r.cell (i := 4) rfl
        have f_r_4_w7 := x_r.frozen 4
        have c_o_0_w7 := x_o.cell (i := 0) rfl
        have f_o_0_w7 := x_o.frozen 0
        have c_o_1_w7 := x_o.cell (i := 1) rfl
        have f_o_1_w7 := x_o.frozen 1
        have c_o_2_w7 := x_o.cell (i := 2) rfl
        have f_o_2_w7 := x_o.frozen 2
        have c_o_3_w7 := x_o.cell (i := 3) rfl
        have f_o_3_w7 := x_o.frozen 3
        have c_o_4_w7 := x_o.cell (i := 4) rfl
        have f_o_4_w7 := x_o.frozen 4
        obtain ⟨w8, e_w8, s_w8, h_w8, y⟩ := store_step x_r [.int .i64 p.Bal, .int .i64 u, .slice Ag G.length cg, .int .i64 b, .slice A2 p.Got.length c2] rfl
        replace e_w8 : (((((w7.setCell ⟨w.heap.size + 1, 0, none⟩ (.int .i64 p.Bal)).setCell ⟨w.heap.size + 1, 1, none⟩ (.int .i64 u)).setCell ⟨w.heap.size + 1, 2, none⟩ (.slice Ag G.length cg)).setCell ⟨w.heap.size + 1, 3, none⟩ (.int .i64 b)).setCell ⟨w.heap.size + 1, 4, none⟩ (.slice A2 p.Got.length c2)) = w8 := e_w8
        have s_w8_1 := Nat.le_of_eq s_w8
        have s_w8_2 := Nat.le_of_eq s_w8.symm
        clear s_w8
        replace x_p := x_p.chg h_w8 (by omega)
        replace x_o := x_o.chg h_w8 (by omega)
        replace ou := ou.chg h_w8 (by omega)
        replace oF := oF.chg h_w8 (by omega)
        replace oT := oT.chg h_w8 (by omega)
        replace o_g := o_g.chg h_w8 (by omega)
        have B_w8 := Below.chg_ B_w7 h_w8 (by omega) (by omega)
        replace x_r : Vr w8 (w.heap.size + 1) 26 [.int .i64 p.Bal, .int .i64 u, .slice Ag G.length cg, .int .i64 b, .slice A2 p.Got.length c2] := y
        clear y
        have c_r_0_w8 := x_r.cell (i := 0) rfl
        have f_r_0_w8 := x_r.frozen 0
        have c_r_1_w8 := x_r.cell (i := 1) rfl
        have f_r_1_w8 := x_r.frozen 1
        have c_r_2_w8 := x_r.cell (i := 2) rfl
        have f_r_2_w8 := x_r.frozen 2
        have c_r_3_w8 := x_r.cell (i := 3) rfl
        have f_r_3_w8 := x_r.frozen 3
        have c_r_4_w8 := x_r.cell (i := 4) rfl
        have f_r_4_w8 := x_r.frozen 4
        go_wp2
        refine ret_cell (by rfl) (by rfl) x_r Try.underlying26 sz_prop (by rfl) ?_
        rw [HM.out]
        exact ⟨_, rfl, ov_prop (d := ⟨p.Bal, u, G, b, p.Got⟩) o_g oT (by omega), B_w8⟩
      case neg =>
        have HM : Hid (propHear p n b u = ⟨p.Bal, p.Val, G, p.Best, p.Got⟩) := by show _ = _; unfold propHear; rw [if_pos HB9.out, if_neg hbest, hG]
        have g5 : decide (p.Best < b) = false := decide_eq_false hbest
        clear hG hK hN hH hB hU hb0
        go_enter Try.func42, Try.ntmps42
        go_wp2_with fail
        refine (sPCopy_c (h0.from_ B0) hm).mono ?_
        rintro e w1 ⟨u_, rfl, ou, h_w1⟩
        clear c_p_0_wa f_p_0_wa c_p_1_wa f_p_1_wa c_p_2_wa f_p_2_wa c_p_3_wa f_p_3_wa c_p_4_wa f_p_4_wa c_r_0_wa f_r_0_wa c_r_1_wa f_r_1_wa c_r_2_wa f_r_2_wa c_r_3_wa f_r_3_wa c_r_4_wa f_r_4_wa
        replace x_p := x_p.from_ h_w1
        replace x_r := x_r.from_ h_w1
        have B_w1 := B0.trans (h_w1.mono B0.size)
        have s_w1 := h_w1.size
        obtain ⟨A1, c1, A2, c2, rfl, oF, oT⟩ := ov_prop_parts ou
        have c_p_0_w1 := x_p.cell (i := 0) rfl
        have f_p_0_w1 := x_p.frozen 0
        have c_p_1_w1 := x_p.cell (i := 1) rfl
        have f_p_1_w1 := x_p.frozen 1
        have c_p_2_w1 := x_p.cell (i := 2) rfl
        have f_p_2_w1 := x_p.frozen 2
        have c_p_3_w1 := x_p.cell (i := 3) rfl
        have f_p_3_w1 := x_p.frozen 3
        have c_p_4_w1 := x_p.cell (i := 4) rfl
        have f_p_4_w1 := x_p.frozen 4
        have c_r_0_w1 := x_r.cell (i := 0) rfl
        have f_r_0_w1 := x_r.frozen 0
        have c_r_1_w1 := x_r.cell (i := 1) rfl
        have f_r_1_w1 := x_r.frozen 1
        have c_r_2_w1 := x_r.cell (i := 2) rfl
        have f_r_2_w1 := x_r.frozen 2
        have c_r_3_w1 := x_r.cell (i := 3) rfl
        have f_r_3_w1 := x_r.frozen 3
        have c_r_4_w1 := x_r.cell (i := 4) rfl
        have f_r_4_w1 := x_r.frozen 4
        obtain ⟨w2, e_w2, s_w2, h_w2, x_o⟩ := alloc_step w1 26 [.int .i64 p.Bal, .int .i64 p.Val, .slice A1 p.From.length c1, .int .i64 p.Best, .slice A2 p.Got.length c2]
        have s_w2_1 := Nat.le_of_eq s_w2
        have s_w2_2 := Nat.le_of_eq s_w2.symm
        clear s_w2
        replace x_p := x_p.from_ h_w2
        replace x_r := x_r.from_ h_w2
        replace ou := ou.below h_w2
        replace oF := oF.below h_w2
        replace oT := oT.below h_w2
        have B_w2 := B_w1.trans (h_w2.mono B_w1.size)
        have c_p_0_w2 := x_p.cell (i := 0) rfl
        have f_p_0_w2 := x_p.frozen 0
        have c_p_1_w2 := x_p.cell (i := 1) rfl
        have f_p_1_w2 := x_p.frozen 1
        have c_p_2_w2 := x_p.cell (i := 2) rfl
        have f_p_2_w2 := x_p.frozen 2
        have c_p_3_w2 := x_p.cell (i := 3) rfl
        have f_p_3_w2 := x_p.frozen 3
        have c_p_4_w2 := x_p.cell (i := 4) rfl
        have f_p_4_w2 := x_p.frozen 4
        have c_r_0_w2 := x_r.cell (i := 0) rfl
        have f_r_0_w2 := x_r.frozen 0
        have c_r_1_w2 := x_r.cell (i := 1) rfl
        have f_r_1_w2 := x_r.frozen 1
        have c_r_2_w2 := x_r.cell (i := 2) rfl
        have f_r_2_w2 := x_r.frozen 2
        have c_r_3_w2 := x_r.cell (i := 3) rfl
        have f_r_3_w2 := x_r.frozen 3
        have c_r_4_w2 := x_r.cell (i := 4) rfl
        have f_r_4_w2 := x_r.frozen 4
        have c_o_0_w2 := x_o.cell (i := 0) rfl
        have f_o_0_w2 := x_o.frozen 0
        have c_o_1_w2 := x_o.cell (i := 1) rfl
        have f_o_1_w2 := x_o.frozen 1
        have c_o_2_w2 := x_o.cell (i := 2) rfl
        have f_o_2_w2 := x_o.frozen 2
        have c_o_3_w2 := x_o.cell (i := 3) rfl
        have f_o_3_w2 := x_o.frozen 3
        have c_o_4_w2 := x_o.cell (i := 4) rfl
        have f_o_4_w2 := x_o.frozen 4
        go_wp2_with fail
        refine (sPropOk_c (h0.from_ B_w2)).mono ?_
        rintro e w3 ⟨rfl, h_w3⟩
        clear c_p_0_w1 f_p_0_w1 c_p_1_w1 f_p_1_w1 c_p_2_w1 f_p_2_w1 c_p_3_w1 f_p_3_w1 c_p_4_w1 f_p_4_w1 c_r_0_w1 f_r_0_w1 c_r_1_w1 f_r_1_w1 c_r_2_w1 f_r_2_w1 c_r_3_w1 f_r_3_w1 c_r_4_w1 f_r_4_w1 c_p_0_w2 f_p_0_w2 c_p_1_w2 f_p_1_w2 c_p_2_w2 f_p_2_w2 c_p_3_w2 f_p_3_w2 c_p_4_w2 f_p_4_w2 c_r_0_w2 f_r_0_w2 c_r_1_w2 f_r_1_w2 c_r_2_w2 f_r_2_w2 c_r_3_w2 f_r_3_w2 c_r_4_w2 f_r_4_w2 c_o_0_w2 f_o_0_w2 c_o_1_w2 f_o_1_w2 c_o_2_w2 f_o_2_w2 c_o_3_w2 f_o_3_w2 c_o_4_w2 f_o_4_w2
        replace x_p := x_p.from_ h_w3
        replace x_r := x_r.from_ h_w3
        replace x_o := x_o.from_ h_w3
        replace ou := ou.below h_w3
        replace oF := oF.below h_w3
        replace oT := oT.below h_w3
        have B_w3 := B_w2.trans (h_w3.mono B_w2.size)
        have s_w3 := h_w3.size
        rw [HK.out]
        have c_p_0_w3 := x_p.cell (i := 0) rfl
        have f_p_0_w3 := x_p.frozen 0
        have c_p_1_w3 := x_p.cell (i := 1) rfl
        have f_p_1_w3 := x_p.frozen 1
        have c_p_2_w3 := x_p.cell (i := 2) rfl
        have f_p_2_w3 := x_p.frozen 2
        have c_p_3_w3 := x_p.cell (i := 3) rfl
        have f_p_3_w3 := x_p.frozen 3
        have c_p_4_w3 := x_p.cell (i := 4) rfl
        have f_p_4_w3 := x_p.frozen 4
        have c_r_0_w3 := x_r.cell (i := 0) rfl
        have f_r_0_w3 := x_r.frozen 0
        have c_r_1_w3 := x_r.cell (i := 1) rfl
        have f_r_1_w3 := x_r.frozen 1
        have c_r_2_w3 := x_r.cell (i := 2) rfl
        have f_r_2_w3 := x_r.frozen 2
        have c_r_3_w3 := x_r.cell (i := 3) rfl
        have f_r_3_w3 := x_r.frozen 3
        have c_r_4_w3 := x_r.cell (i := 4) rfl
        have f_r_4_w3 := x_r.frozen 4
        have c_o_0_w3 := x_o.cell (i := 0) rfl
        have f_o_0_w3 := x_o.frozen 0
        have c_o_1_w3 := x_o.cell (i := 1) rfl
        have f_o_1_w3 := x_o.frozen 1
        have c_o_2_w3 := x_o.cell (i := 2) rfl
        have f_o_2_w3 := x_o.frozen 2
        have c_o_3_w3 := x_o.cell (i := 3) rfl
        have f_o_3_w3 := x_o.frozen 3
        have c_o_4_w3 := x_o.cell (i := 4) rfl
        have f_o_4_w3 := x_o.frozen 4
        go_wp2_with fail
        refine (sNode_any _ _).mono ?_
        rintro e w' ⟨rfl, rfl⟩
        rw [HN.out]
        go_wp2_with fail
        refine (sHasI_c (rF.from_ B_w3)).mono ?_
        rintro e w' ⟨rfl, rfl⟩
        rw [HH.out]
        go_wp2_with fail
        refine (sIn_any _ _ _ _).mono ?_
        rintro e w' ⟨rfl, rfl⟩
        rw [HB.out]
        go_wp2_with fail
        refine (sAdd_c (n := n) (rF.from_ B_w3) hl).mono ?_
        rintro e w4 ⟨v2, rfl, o_g, h_w4⟩
        clear c_p_0_w3 f_p_0_w3 c_p_1_w3 f_p_1_w3 c_p_2_w3 f_p_2_w3 c_p_3_w3 f_p_3_w3 c_p_4_w3 f_p_4_w3 c_r_0_w3 f_r_0_w3 c_r_1_w3 f_r_1_w3 c_r_2_w3 f_r_2_w3 c_r_3_w3 f_r_3_w3 c_r_4_w3 f_r_4_w3 c_o_0_w3 f_o_0_w3 c_o_1_w3 f_o_1_w3 c_o_2_w3 f_o_2_w3 c_o_3_w3 f_o_3_w3 c_o_4_w3 f_o_4_w3
        replace x_p := x_p.from_ h_w4
        replace x_r := x_r.from_ h_w4
        replace x_o := x_o.from_ h_w4
        replace ou := ou.below h_w4
        replace oF := oF.below h_w4
        replace oT := oT.below h_w4
        have B_w4 := B_w3.trans (h_w4.mono B_w3.size)
        have s_w4 := h_w4.size
        rw [HG.out] at o_g
        obtain ⟨Ag, cg, rfl, -, -, -⟩ := o_g.rd
        have c_p_0_w4 := x_p.cell (i := 0) rfl
        have f_p_0_w4 := x_p.frozen 0
        have c_p_1_w4 := x_p.cell (i := 1) rfl
        have f_p_1_w4 := x_p.frozen 1
        have c_p_2_w4 := x_p.cell (i := 2) rfl
        have f_p_2_w4 := x_p.frozen 2
        have c_p_3_w4 := x_p.cell (i := 3) rfl
        have f_p_3_w4 := x_p.frozen 3
        have c_p_4_w4 := x_p.cell (i := 4) rfl
        have f_p_4_w4 := x_p.frozen 4
        have c_r_0_w4 := x_r.cell (i := 0) rfl
        have f_r_0_w4 := x_r.frozen 0
        have c_r_1_w4 := x_r.cell (i := 1) rfl
        have f_r_1_w4 := x_r.frozen 1
        have c_r_2_w4 := x_r.cell (i := 2) rfl
        have f_r_2_w4 := x_r.frozen 2
        have c_r_3_w4 := x_r.cell (i := 3) rfl
        have f_r_3_w4 := x_r.frozen 3
        have c_r_4_w4 := x_r.cell (i := 4) rfl
        have f_r_4_w4 := x_r.frozen 4
        have c_o_0_w4 := x_o.cell (i := 0) rfl
        have f_o_0_w4 := x_o.frozen 0
        have c_o_1_w4 := x_o.cell (i := 1) rfl
        have f_o_1_w4 := x_o.frozen 1
        have c_o_2_w4 := x_o.cell (i := 2) rfl
        have f_o_2_w4 := x_o.frozen 2
        have c_o_3_w4 := x_o.cell (i := 3) rfl
        have f_o_3_w4 := x_o.frozen 3
        have c_o_4_w4 := x_o.cell (i := 4) rfl
        have f_o_4_w4 := x_o.frozen 4
        obtain ⟨w5, e_w5, s_w5, h_w5, y⟩ := set_step x_o 2 (.slice Ag G.length cg)
        have s_w5_1 := Nat.le_of_eq s_w5
        have s_w5_2 := Nat.le_of_eq s_w5.symm
        clear s_w5
        replace x_p := x_p.chg h_w5 (by omega)
        replace x_r := x_r.chg h_w5 (by omega)
        replace ou := ou.chg h_w5 (by omega)
        replace oF := oF.chg h_w5 (by omega)
        replace oT := oT.chg h_w5 (by omega)
        replace o_g := o_g.chg h_w5 (by omega)
        have B_w5 := Below.chg_ B_w4 h_w5 (by omega) (by omega)
        replace x_o : Vr w5 (w1.heap.size) 26 [.int .i64 p.Bal, .int .i64 p.Val, .slice Ag G.length cg, .int .i64 p.Best, .slice A2 p.Got.length c2] := y
        clear y
        have c_p_0_w5 := x_p.cell (i := 0) rfl
        have f_p_0_w5 := x_p.frozen 0
        have c_p_1_w5 := x_p.cell (i := 1) rfl
        have f_p_1_w5 := x_p.frozen 1
        have c_p_2_w5 := x_p.cell (i := 2) rfl
        have f_p_2_w5 := x_p.frozen 2
        have c_p_3_w5 := x_p.cell (i := 3) rfl
        have f_p_3_w5 := x_p.frozen 3
        have c_p_4_w5 := x_p.cell (i := 4) rfl
        have f_p_4_w5 := x_p.frozen 4
        have c_r_0_w5 := x_r.cell (i := 0) rfl
        have f_r_0_w5 := x_r.frozen 0
        have c_r_1_w5 := x_r.cell (i := 1) rfl
        have f_r_1_w5 := x_r.frozen 1
        have c_r_2_w5 := x_r.cell (i := 2) rfl
        have f_r_2_w5 := x_r.frozen 2
        have c_r_3_w5 := x_r.cell (i := 3) rfl
        have f_r_3_w5 := x_r.frozen 3
        have c_r_4_w5 := x_r.cell (i := 4) rfl
        have f_r_4_w5 := x_r.frozen 4
        have c_o_0_w5 := x_o.cell (i := 0) rfl
        have f_o_0_w5 := x_o.frozen 0
        have c_o_1_w5 := x_o.cell (i := 1) rfl
        have f_o_1_w5 := x_o.frozen 1
        have c_o_2_w5 := x_o.cell (i := 2) rfl
        have f_o_2_w5 := x_o.frozen 2
        have c_o_3_w5 := x_o.cell (i := 3) rfl
        have f_o_3_w5 := x_o.frozen 3
        have c_o_4_w5 := x_o.cell (i := 4) rfl
        have f_o_4_w5 := x_o.frozen 4
        obtain ⟨w6, e_w6, s_w6, h_w6, y⟩ := store_step x_r [.int .i64 p.Bal, .int .i64 p.Val, .slice Ag G.length cg, .int .i64 p.Best, .slice A2 p.Got.length c2] rfl
        replace e_w6 : (((((w5.setCell ⟨w.heap.size + 1, 0, none⟩ (.int .i64 p.Bal)).setCell ⟨w.heap.size + 1, 1, none⟩ (.int .i64 p.Val)).setCell ⟨w.heap.size + 1, 2, none⟩ (.slice Ag G.length cg)).setCell ⟨w.heap.size + 1, 3, none⟩ (.int .i64 p.Best)).setCell ⟨w.heap.size + 1, 4, none⟩ (.slice A2 p.Got.length c2)) = w6 := e_w6
        have s_w6_1 := Nat.le_of_eq s_w6
        have s_w6_2 := Nat.le_of_eq s_w6.symm
        clear s_w6
        replace x_p := x_p.chg h_w6 (by omega)
        replace x_o := x_o.chg h_w6 (by omega)
        replace ou := ou.chg h_w6 (by omega)
        replace oF := oF.chg h_w6 (by omega)
        replace oT := oT.chg h_w6 (by omega)
        replace o_g := o_g.chg h_w6 (by omega)
        have B_w6 := Below.chg_ B_w5 h_w6 (by omega) (by omega)
        replace x_r : Vr w6 (w.heap.size + 1) 26 [.int .i64 p.Bal, .int .i64 p.Val, .slice Ag G.length cg, .int .i64 p.Best, .slice A2 p.Got.length c2] := y
        clear y
        have c_r_0_w6 := x_r.cell (i := 0) rfl
        have f_r_0_w6 := x_r.frozen 0
        have c_r_1_w6 := x_r.cell (i := 1) rfl
        have f_r_1_w6 := x_r.frozen 1
        have c_r_2_w6 := x_r.cell (i := 2) rfl
        have f_r_2_w6 := x_r.frozen 2
        have c_r_3_w6 := x_r.cell (i := 3) rfl
        have f_r_3_w6 := x_r.frozen 3
        have c_r_4_w6 := x_r.cell (i := 4) rfl
        have f_r_4_w6 := x_r.frozen 4
        go_wp2
        refine ret_cell (by rfl) (by rfl) x_r Try.underlying26 sz_prop (by rfl) ?_
        rw [HM.out]
        exact ⟨_, rfl, ov_prop (d := ⟨p.Bal, p.Val, G, p.Best, p.Got⟩) o_g oT (by omega), B_w6⟩
  case neg =>
    replace hU : inB u 1 4 = false := by simpa using hU
    have HU := Lib.hid hU
    by_cases hb0 : 0 < b
    case pos =>
      have g0 : decide (0 < b) = true := decide_eq_true hb0
      have HB9 : Hid (hearB p n b u = false) := by show _ = _; unfold hearB; rw [g0, hU]; simp
      clear hU hb0
      have HM : Hid (propHear p n b u = p) := if_neg (by rw [HB9.out]; decide)
      clear hK hN hH hB
      have bb := propOk_bal HK.out
      have tw := IntWalk.i64_in (p.Bal - 1) (by omega)
      go_enter Try.func42, Try.ntmps42
      go_wp2_with fail
      refine (sPCopy_c (h0.from_ B0) hm).mono ?_
      rintro e w1 ⟨u_, rfl, ou, h_w1⟩
      clear c_p_0_wa f_p_0_wa c_p_1_wa f_p_1_wa c_p_2_wa f_p_2_wa c_p_3_wa f_p_3_wa c_p_4_wa f_p_4_wa c_r_0_wa f_r_0_wa c_r_1_wa f_r_1_wa c_r_2_wa f_r_2_wa c_r_3_wa f_r_3_wa c_r_4_wa f_r_4_wa
      replace x_p := x_p.from_ h_w1
      replace x_r := x_r.from_ h_w1
      have B_w1 := B0.trans (h_w1.mono B0.size)
      have s_w1 := h_w1.size
      obtain ⟨A1, c1, A2, c2, rfl, oF, oT⟩ := ov_prop_parts ou
      have c_p_0_w1 := x_p.cell (i := 0) rfl
      have f_p_0_w1 := x_p.frozen 0
      have c_p_1_w1 := x_p.cell (i := 1) rfl
      have f_p_1_w1 := x_p.frozen 1
      have c_p_2_w1 := x_p.cell (i := 2) rfl
      have f_p_2_w1 := x_p.frozen 2
      have c_p_3_w1 := x_p.cell (i := 3) rfl
      have f_p_3_w1 := x_p.frozen 3
      have c_p_4_w1 := x_p.cell (i := 4) rfl
      have f_p_4_w1 := x_p.frozen 4
      have c_r_0_w1 := x_r.cell (i := 0) rfl
      have f_r_0_w1 := x_r.frozen 0
      have c_r_1_w1 := x_r.cell (i := 1) rfl
      have f_r_1_w1 := x_r.frozen 1
      have c_r_2_w1 := x_r.cell (i := 2) rfl
      have f_r_2_w1 := x_r.frozen 2
      have c_r_3_w1 := x_r.cell (i := 3) rfl
      have f_r_3_w1 := x_r.frozen 3
      have c_r_4_w1 := x_r.cell (i := 4) rfl
      have f_r_4_w1 := x_r.frozen 4
      obtain ⟨w2, e_w2, s_w2, h_w2, x_o⟩ := alloc_step w1 26 [.int .i64 p.Bal, .int .i64 p.Val, .slice A1 p.From.length c1, .int .i64 p.Best, .slice A2 p.Got.length c2]
      have s_w2_1 := Nat.le_of_eq s_w2
      have s_w2_2 := Nat.le_of_eq s_w2.symm
      clear s_w2
      replace x_p := x_p.from_ h_w2
      replace x_r := x_r.from_ h_w2
      replace ou := ou.below h_w2
      replace oF := oF.below h_w2
      replace oT := oT.below h_w2
      have B_w2 := B_w1.trans (h_w2.mono B_w1.size)
      have c_p_0_w2 := x_p.cell (i := 0) rfl
      have f_p_0_w2 := x_p.frozen 0
      have c_p_1_w2 := x_p.cell (i := 1) rfl
      have f_p_1_w2 := x_p.frozen 1
      have c_p_2_w2 := x_p.cell (i := 2) rfl
      have f_p_2_w2 := x_p.frozen 2
      have c_p_3_w2 := x_p.cell (i := 3) rfl
      have f_p_3_w2 := x_p.frozen 3
      have c_p_4_w2 := x_p.cell (i := 4) rfl
      have f_p_4_w2 := x_p.frozen 4
      have c_r_0_w2 := x_r.cell (i := 0) rfl
      have f_r_0_w2 := x_r.frozen 0
      have c_r_1_w2 := x_r.cell (i := 1) rfl
      have f_r_1_w2 := x_r.frozen 1
      have c_r_2_w2 := x_r.cell (i := 2) rfl
      have f_r_2_w2 := x_r.frozen 2
      have c_r_3_w2 := x_r.cell (i := 3) rfl
      have f_r_3_w2 := x_r.frozen 3
      have c_r_4_w2 := x_r.cell (i := 4) rfl
      have f_r_4_w2 := x_r.frozen 4
      have c_o_0_w2 := x_o.cell (i := 0) rfl
      have f_o_0_w2 := x_o.frozen 0
      have c_o_1_w2 := x_o.cell (i := 1) rfl
      have f_o_1_w2 := x_o.frozen 1
      have c_o_2_w2 := x_o.cell (i := 2) rfl
      have f_o_2_w2 := x_o.frozen 2
      have c_o_3_w2 := x_o.cell (i := 3) rfl
      have f_o_3_w2 := x_o.frozen 3
      have c_o_4_w2 := x_o.cell (i := 4) rfl
      have f_o_4_w2 := x_o.frozen 4
      go_wp2_with fail
      refine (sPropOk_c (h0.from_ B_w2)).mono ?_
      rintro e w3 ⟨rfl, h_w3⟩
      clear c_p_0_w1 f_p_0_w1 c_p_1_w1 f_p_1_w1 c_p_2_w1 f_p_2_w1 c_p_3_w1 f_p_3_w1 c_p_4_w1 f_p_4_w1 c_r_0_w1 f_r_0_w1 c_r_1_w1 f_r_1_w1 c_r_2_w1 f_r_2_w1 c_r_3_w1 f_r_3_w1 c_r_4_w1 f_r_4_w1 c_p_0_w2 f_p_0_w2 c_p_1_w2 f_p_1_w2 c_p_2_w2 f_p_2_w2 c_p_3_w2 f_p_3_w2 c_p_4_w2 f_p_4_w2 c_r_0_w2 f_r_0_w2 c_r_1_w2 f_r_1_w2 c_r_2_w2 f_r_2_w2 c_r_3_w2 f_r_3_w2 c_r_4_w2 f_r_4_w2 c_o_0_w2 f_o_0_w2 c_o_1_w2 f_o_1_w2 c_o_2_w2 f_o_2_w2 c_o_3_w2 f_o_3_w2 c_o_4_w2 f_o_4_w2
      replace x_p := x_p.from_ h_w3
      replace x_r := x_r.from_ h_w3
      replace x_o := x_o.from_ h_w3
      replace ou := ou.below h_w3
      replace oF := oF.below h_w3
      replace oT := oT.below h_w3
      have B_w3 := B_w2.trans (h_w3.mono B_w2.size)
      have s_w3 := h_w3.size
      rw [HK.out]
      have c_p_0_w3 := x_p.cell (i := 0) rfl
      have f_p_0_w3 := x_p.frozen 0
      have c_p_1_w3 := x_p.cell (i := 1) rfl
      have f_p_1_w3 := x_p.frozen 1
      have c_p_2_w3 := x_p.cell (i := 2) rfl
      have f_p_2_w3 := x_p.frozen 2
      have c_p_3_w3 := x_p.cell (i := 3) rfl
      have f_p_3_w3 := x_p.frozen 3
      have c_p_4_w3 := x_p.cell (i := 4) rfl
      have f_p_4_w3 := x_p.frozen 4
      have c_r_0_w3 := x_r.cell (i := 0) rfl
      have f_r_0_w3 := x_r.frozen 0
      have c_r_1_w3 := x_r.cell (i := 1) rfl
      have f_r_1_w3 := x_r.frozen 1
      have c_r_2_w3 := x_r.cell (i := 2) rfl
      have f_r_2_w3 := x_r.frozen 2
      have c_r_3_w3 := x_r.cell (i := 3) rfl
      have f_r_3_w3 := x_r.frozen 3
      have c_r_4_w3 := x_r.cell (i := 4) rfl
      have f_r_4_w3 := x_r.frozen 4
      have c_o_0_w3 := x_o.cell (i := 0) rfl
      have f_o_0_w3 := x_o.frozen 0
      have c_o_1_w3 := x_o.cell (i := 1) rfl
      have f_o_1_w3 := x_o.frozen 1
      have c_o_2_w3 := x_o.cell (i := 2) rfl
      have f_o_2_w3 := x_o.frozen 2
      have c_o_3_w3 := x_o.cell (i := 3) rfl
      have f_o_3_w3 := x_o.frozen 3
      have c_o_4_w3 := x_o.cell (i := 4) rfl
      have f_o_4_w3 := x_o.frozen 4
      go_wp2_with fail
      refine (sNode_any _ _).mono ?_
      rintro e w' ⟨rfl, rfl⟩
      rw [HN.out]
      go_wp2_with fail
      refine (sHasI_c (rF.from_ B_w3)).mono ?_
      rintro e w' ⟨rfl, rfl⟩
      rw [HH.out]
      go_wp2_with fail
      refine (sIn_any _ _ _ _).mono ?_
      rintro e w' ⟨rfl, rfl⟩
      rw [HB.out]
      go_wp2_with fail
      refine (sVal_any _ _).mono ?_
      rintro e w' ⟨rfl, rfl⟩
      rw [HU.out]
      obtain ⟨w4, e_w4, s_w4, h_w4, y⟩ := store_step x_r [.int .i64 p.Bal, .int .i64 p.Val, .slice A1 p.From.length c1, .int .i64 p.Best, .slice A2 p.Got.length c2] rfl
      replace e_w4 : (((((w3.setCell ⟨w.heap.size + 1, 0, none⟩ (.int .i64 p.Bal)).setCell ⟨w.heap.size + 1, 1, none⟩ (.int .i64 p.Val)).setCell ⟨w.heap.size + 1, 2, none⟩ (.slice A1 p.From.length c1)).setCell ⟨w.heap.size + 1, 3, none⟩ (.int .i64 p.Best)).setCell ⟨w.heap.size + 1, 4, none⟩ (.slice A2 p.Got.length c2)) = w4 := e_w4
      have s_w4_1 := Nat.le_of_eq s_w4
      have s_w4_2 := Nat.le_of_eq s_w4.symm
      clear s_w4
      replace x_p := x_p.chg h_w4 (by omega)
      replace x_o := x_o.chg h_w4 (by omega)
      replace ou := ou.chg h_w4 (by omega)
      replace oF := oF.chg h_w4 (by omega)
      replace oT := oT.chg h_w4 (by omega)
      have B_w4 := Below.chg_ B_w3 h_w4 (by omega) (by omega)
      replace x_r : Vr w4 (w.heap.size + 1) 26 [.int .i64 p.Bal, .int .i64 p.Val, .slice A1 p.From.length c1, .int .i64 p.Best, .slice A2 p.Got.length c2] := y
      clear y
      have c_r_0_w4 := x_r.cell (i := 0) rfl
      have f_r_0_w4 := x_r.frozen 0
      have c_r_1_w4 := x_r.cell (i := 1) rfl
      have f_r_1_w4 := x_r.frozen 1
      have c_r_2_w4 := x_r.cell (i := 2) rfl
      have f_r_2_w4 := x_r.frozen 2
      have c_r_3_w4 := x_r.cell (i := 3) rfl
      have f_r_3_w4 := x_r.frozen 3
      have c_r_4_w4 := x_r.cell (i := 4) rfl
      have f_r_4_w4 := x_r.frozen 4
      go_wp2
      refine ret_cell (by rfl) (by rfl) x_r Try.underlying26 sz_prop (by rfl) ?_
      rw [HM.out]
      exact ⟨_, rfl, ou.widen (by omega) (by omega) (Nat.le_refl _), B_w4⟩
    case neg =>
      have g0 : decide (0 < b) = false := decide_eq_false hb0
      have HB9 : Hid (hearB p n b u = true) := by show _ = _; unfold hearB; rw [hK, hN, hH, hB, g0]; rfl
      obtain ⟨G, hG⟩ : ∃ G, addI p.From n = G := ⟨_, rfl⟩
      have HG := Lib.hid hG
      have hl : p.From.length ≤ 16777216 := by unfold MProp.bulk at hm; omega
      have bb := propOk_bal HK.out
      have tw := IntWalk.i64_in (p.Bal - 1) (by omega)
      by_cases hbest : p.Best < b
      case pos =>
        have HM : Hid (propHear p n b u = ⟨p.Bal, u, G, b, p.Got⟩) := by show _ = _; unfold propHear; rw [if_pos HB9.out, if_pos hbest, hG]
        have g5 : decide (p.Best < b) = true := decide_eq_true hbest
        clear hG hK hN hH hB hU hb0
        go_enter Try.func42, Try.ntmps42
        go_wp2_with fail
        refine (sPCopy_c (h0.from_ B0) hm).mono ?_
        rintro e w1 ⟨u_, rfl, ou, h_w1⟩
        clear c_p_0_wa f_p_0_wa c_p_1_wa f_p_1_wa c_p_2_wa f_p_2_wa c_p_3_wa f_p_3_wa c_p_4_wa f_p_4_wa c_r_0_wa f_r_0_wa c_r_1_wa f_r_1_wa c_r_2_wa f_r_2_wa c_r_3_wa f_r_3_wa c_r_4_wa f_r_4_wa
        replace x_p := x_p.from_ h_w1
        replace x_r := x_r.from_ h_w1
        have B_w1 := B0.trans (h_w1.mono B0.size)
        have s_w1 := h_w1.size
        obtain ⟨A1, c1, A2, c2, rfl, oF, oT⟩ := ov_prop_parts ou
        have c_p_0_w1 := x_p.cell (i := 0) rfl
        have f_p_0_w1 := x_p.frozen 0
        have c_p_1_w1 := x_p.cell (i := 1) rfl
        have f_p_1_w1 := x_p.frozen 1
        have c_p_2_w1 := x_p.cell (i := 2) rfl
        have f_p_2_w1 := x_p.frozen 2
        have c_p_3_w1 := x_p.cell (i := 3) rfl
        have f_p_3_w1 := x_p.frozen 3
        have c_p_4_w1 := x_p.cell (i := 4) rfl
        have f_p_4_w1 := x_p.frozen 4
        have c_r_0_w1 := x_r.cell (i := 0) rfl
        have f_r_0_w1 := x_r.frozen 0
        have c_r_1_w1 := x_r.cell (i := 1) rfl
        have f_r_1_w1 := x_r.frozen 1
        have c_r_2_w1 := x_r.cell (i := 2) rfl
        have f_r_2_w1 := x_r.frozen 2
        have c_r_3_w1 := x_r.cell (i := 3) rfl
        have f_r_3_w1 := x_r.frozen 3
        have c_r_4_w1 := x_r.cell (i := 4) rfl
        have f_r_4_w1 := x_r.frozen 4
        obtain ⟨w2, e_w2, s_w2, h_w2, x_o⟩ := alloc_step w1 26 [.int .i64 p.Bal, .int .i64 p.Val, .slice A1 p.From.length c1, .int .i64 p.Best, .slice A2 p.Got.length c2]
        have s_w2_1 := Nat.le_of_eq s_w2
        have s_w2_2 := Nat.le_of_eq s_w2.symm
        clear s_w2
        replace x_p := x_p.from_ h_w2
        replace x_r := x_r.from_ h_w2
        replace ou := ou.below h_w2
        replace oF := oF.below h_w2
        replace oT := oT.below h_w2
        have B_w2 := B_w1.trans (h_w2.mono B_w1.size)
        have c_p_0_w2 := x_p.cell (i := 0) rfl
        have f_p_0_w2 := x_p.frozen 0
        have c_p_1_w2 := x_p.cell (i := 1) rfl
        have f_p_1_w2 := x_p.frozen 1
        have c_p_2_w2 := x_p.cell (i := 2) rfl
        have f_p_2_w2 := x_p.frozen 2
        have c_p_3_w2 := x_p.cell (i := 3) rfl
        have f_p_3_w2 := x_p.frozen 3
        have c_p_4_w2 := x_p.cell (i := 4) rfl
        have f_p_4_w2 := x_p.frozen 4
        have c_r_0_w2 := x_r.cell (i := 0) rfl
        have f_r_0_w2 := x_r.frozen 0
        have c_r_1_w2 := x_r.cell (i := 1) rfl
        have f_r_1_w2 := x_r.frozen 1
        have c_r_2_w2 := x_r.cell (i := 2) rfl
        have f_r_2_w2 := x_r.frozen 2
        have c_r_3_w2 := x_r.cell (i := 3) rfl
        have f_r_3_w2 := x_r.frozen 3
        have c_r_4_w2 := x_r.cell (i := 4) rfl
        have f_r_4_w2 := x_r.frozen 4
        have c_o_0_w2 := x_o.cell (i := 0) rfl
        have f_o_0_w2 := x_o.frozen 0
        have c_o_1_w2 := x_o.cell (i := 1) rfl
        have f_o_1_w2 := x_o.frozen 1
        have c_o_2_w2 := x_o.cell (i := 2) rfl
        have f_o_2_w2 := x_o.frozen 2
        have c_o_3_w2 := x_o.cell (i := 3) rfl
        have f_o_3_w2 := x_o.frozen 3
        have c_o_4_w2 := x_o.cell (i := 4) rfl
        have f_o_4_w2 := x_o.frozen 4
        go_wp2_with fail
        refine (sPropOk_c (h0.from_ B_w2)).mono ?_
        rintro e w3 ⟨rfl, h_w3⟩
        clear c_p_0_w1 f_p_0_w1 c_p_1_w1 f_p_1_w1 c_p_2_w1 f_p_2_w1 c_p_3_w1 f_p_3_w1 c_p_4_w1 f_p_4_w1 c_r_0_w1 f_r_0_w1 c_r_1_w1 f_r_1_w1 c_r_2_w1 f_r_2_w1 c_r_3_w1 f_r_3_w1 c_r_4_w1 f_r_4_w1 c_p_0_w2 f_p_0_w2 c_p_1_w2 f_p_1_w2 c_p_2_w2 f_p_2_w2 c_p_3_w2 f_p_3_w2 c_p_4_w2 f_p_4_w2 c_r_0_w2 f_r_0_w2 c_r_1_w2 f_r_1_w2 c_r_2_w2 f_r_2_w2 c_r_3_w2 f_r_3_w2 c_r_4_w2 f_r_4_w2 c_o_0_w2 f_o_0_w2 c_o_1_w2 f_o_1_w2 c_o_2_w2 f_o_2_w2 c_o_3_w2 f_o_3_w2 c_o_4_w2 f_o_4_w2
        replace x_p := x_p.from_ h_w3
        replace x_r := x_r.from_ h_w3
        replace x_o := x_o.from_ h_w3
        replace ou := ou.below h_w3
        replace oF := oF.below h_w3
        replace oT := oT.below h_w3
        have B_w3 := B_w2.trans (h_w3.mono B_w2.size)
        have s_w3 := h_w3.size
        rw [HK.out]
        have c_p_0_w3 := x_p.cell (i := 0) rfl
        have f_p_0_w3 := x_p.frozen 0
        have c_p_1_w3 := x_p.cell (i := 1) rfl
        have f_p_1_w3 := x_p.frozen 1
        have c_p_2_w3 := x_p.cell (i := 2) rfl
        have f_p_2_w3 := x_p.frozen 2
        have c_p_3_w3 := x_p.cell (i := 3) rfl
        have f_p_3_w3 := x_p.frozen 3
        have c_p_4_w3 := x_p.cell (i := 4) rfl
        have f_p_4_w3 := x_p.frozen 4
        have c_r_0_w3 := x_r.cell (i := 0) rfl
        have f_r_0_w3 := x_r.frozen 0
        have c_r_1_w3 := x_r.cell (i := 1) rfl
        have f_r_1_w3 := x_r.frozen 1
        have c_r_2_w3 := x_r.cell (i := 2) rfl
        have f_r_2_w3 := x_r.frozen 2
        have c_r_3_w3 := x_r.cell (i := 3) rfl
        have f_r_3_w3 := x_r.frozen 3
        have c_r_4_w3 := x_r.cell (i := 4) rfl
        have f_r_4_w3 := x_r.frozen 4
        have c_o_0_w3 := x_o.cell (i := 0) rfl
        have f_o_0_w3 := x_o.frozen 0
        have c_o_1_w3 := x_o.cell (i := 1) rfl
        have f_o_1_w3 := x_o.frozen 1
        have c_o_2_w3 := x_o.cell (i := 2) rfl
        have f_o_2_w3 := x_o.frozen 2
        have c_o_3_w3 := x_o.cell (i := 3) rfl
        have f_o_3_w3 := x_o.frozen 3
        have c_o_4_w3 := x_o.cell (i := 4) rfl
        have f_o_4_w3 := x_o.frozen 4
        go_wp2_with fail
        refine (sNode_any _ _).mono ?_
        rintro e w' ⟨rfl, rfl⟩
        rw [HN.out]
        go_wp2_with fail
        refine (sHasI_c (rF.from_ B_w3)).mono ?_
        rintro e w' ⟨rfl, rfl⟩
        rw [HH.out]
        go_wp2_with fail
        refine (sIn_any _ _ _ _).mono ?_
        rintro e w' ⟨rfl, rfl⟩
        rw [HB.out]
        go_wp2_with fail
        refine (sAdd_c (n := n) (rF.from_ B_w3) hl).mono ?_
        rintro e w4 ⟨v2, rfl, o_g, h_w4⟩
        clear c_p_0_w3 f_p_0_w3 c_p_1_w3 f_p_1_w3 c_p_2_w3 f_p_2_w3 c_p_3_w3 f_p_3_w3 c_p_4_w3 f_p_4_w3 c_r_0_w3 f_r_0_w3 c_r_1_w3 f_r_1_w3 c_r_2_w3 f_r_2_w3 c_r_3_w3 f_r_3_w3 c_r_4_w3 f_r_4_w3 c_o_0_w3 f_o_0_w3 c_o_1_w3 f_o_1_w3 c_o_2_w3 f_o_2_w3 c_o_3_w3 f_o_3_w3 c_o_4_w3 f_o_4_w3
        replace x_p := x_p.from_ h_w4
        replace x_r := x_r.from_ h_w4
        replace x_o := x_o.from_ h_w4
        replace ou := ou.below h_w4
        replace oF := oF.below h_w4
        replace oT := oT.below h_w4
        have B_w4 := B_w3.trans (h_w4.mono B_w3.size)
        have s_w4 := h_w4.size
        rw [HG.out] at o_g
        obtain ⟨Ag, cg, rfl, -, -, -⟩ := o_g.rd
        have c_p_0_w4 := x_p.cell (i := 0) rfl
        have f_p_0_w4 := x_p.frozen 0
        have c_p_1_w4 := x_p.cell (i := 1) rfl
        have f_p_1_w4 := x_p.frozen 1
        have c_p_2_w4 := x_p.cell (i := 2) rfl
        have f_p_2_w4 := x_p.frozen 2
        have c_p_3_w4 := x_p.cell (i := 3) rfl
        have f_p_3_w4 := x_p.frozen 3
        have c_p_4_w4 := x_p.cell (i := 4) rfl
        have f_p_4_w4 := x_p.frozen 4
        have c_r_0_w4 := x_r.cell (i := 0) rfl
        have f_r_0_w4 := x_r.frozen 0
        have c_r_1_w4 := x_r.cell (i := 1) rfl
        have f_r_1_w4 := x_r.frozen 1
        have c_r_2_w4 := x_r.cell (i := 2) rfl
        have f_r_2_w4 := x_r.frozen 2
        have c_r_3_w4 := x_r.cell (i := 3) rfl
        have f_r_3_w4 := x_r.frozen 3
        have c_r_4_w4 := x_r.cell (i := 4) rfl
        have f_r_4_w4 := x_r.frozen 4
        have c_o_0_w4 := x_o.cell (i := 0) rfl
        have f_o_0_w4 := x_o.frozen 0
        have c_o_1_w4 := x_o.cell (i := 1) rfl
        have f_o_1_w4 := x_o.frozen 1
        have c_o_2_w4 := x_o.cell (i := 2) rfl
        have f_o_2_w4 := x_o.frozen 2
        have c_o_3_w4 := x_o.cell (i := 3) rfl
        have f_o_3_w4 := x_o.frozen 3
        have c_o_4_w4 := x_o.cell (i := 4) rfl
        have f_o_4_w4 := x_o.frozen 4
        obtain ⟨w5, e_w5, s_w5, h_w5, y⟩ := set_step x_o 2 (.slice Ag G.length cg)
        have s_w5_1 := Nat.le_of_eq s_w5
        have s_w5_2 := Nat.le_of_eq s_w5.symm
        clear s_w5
        replace x_p := x_p.chg h_w5 (by omega)
        replace x_r := x_r.chg h_w5 (by omega)
        replace ou := ou.chg h_w5 (by omega)
        replace oF := oF.chg h_w5 (by omega)
        replace oT := oT.chg h_w5 (by omega)
        replace o_g := o_g.chg h_w5 (by omega)
        have B_w5 := Below.chg_ B_w4 h_w5 (by omega) (by omega)
        replace x_o : Vr w5 (w1.heap.size) 26 [.int .i64 p.Bal, .int .i64 p.Val, .slice Ag G.length cg, .int .i64 p.Best, .slice A2 p.Got.length c2] := y
        clear y
        have c_p_0_w5 := x_p.cell (i := 0) rfl
        have f_p_0_w5 := x_p.frozen 0
        have c_p_1_w5 := x_p.cell (i := 1) rfl
        have f_p_1_w5 := x_p.frozen 1
        have c_p_2_w5 := x_p.cell (i := 2) rfl
        have f_p_2_w5 := x_p.frozen 2
        have c_p_3_w5 := x_p.cell (i := 3) rfl
        have f_p_3_w5 := x_p.frozen 3
        have c_p_4_w5 := x_p.cell (i := 4) rfl
        have f_p_4_w5 := x_p.frozen 4
        have c_r_0_w5 := x_r.cell (i := 0) rfl
        have f_r_0_w5 := x_r.frozen 0
        have c_r_1_w5 := x_r.cell (i := 1) rfl
        have f_r_1_w5 := x_r.frozen 1
        have c_r_2_w5 := x_r.cell (i := 2) rfl
        have f_r_2_w5 := x_r.frozen 2
        have c_r_3_w5 := x_r.cell (i := 3) rfl
        have f_r_3_w5 := x_r.frozen 3
        have c_r_4_w5 := x_r.cell (i := 4) rfl
        have f_r_4_w5 := x_r.frozen 4
        have c_o_0_w5 := x_o.cell (i := 0) rfl
        have f_o_0_w5 := x_o.frozen 0
        have c_o_1_w5 := x_o.cell (i := 1) rfl
        have f_o_1_w5 := x_o.frozen 1
        have c_o_2_w5 := x_o.cell (i := 2) rfl
        have f_o_2_w5 := x_o.frozen 2
        have c_o_3_w5 := x_o.cell (i := 3) rfl
        have f_o_3_w5 := x_o.frozen 3
        have c_o_4_w5 := x_o.cell (i := 4) rfl
        have f_o_4_w5 := x_o.frozen 4
        obtain ⟨w6, e_w6, s_w6, h_w6, y⟩ := set_step x_o 3 (.int .i64 b)
        have s_w6_1 := Nat.le_of_eq s_w6
        have s_w6_2 := Nat.le_of_eq s_w6.symm
        clear s_w6
        replace x_p := x_p.chg h_w6 (by omega)
        replace x_r := x_r.chg h_w6 (by omega)
        replace ou := ou.chg h_w6 (by omega)
        replace oF := oF.chg h_w6 (by omega)
        replace oT := oT.chg h_w6 (by omega)
        replace o_g := o_g.chg h_w6 (by omega)
        have B_w6 := Below.chg_ B_w5 h_w6 (by omega) (by omega)
        replace x_o : Vr w6 (w1.heap.size) 26 [.int .i64 p.Bal, .int .i64 p.Val, .slice Ag G.length cg, .int .i64 b, .slice A2 p.Got.length c2] := y
        clear y
        have c_p_0_w6 := x_p.cell (i := 0) rfl
        have f_p_0_w6 := x_p.frozen 0
        have c_p_1_w6 := x_p.cell (i := 1) rfl
        have f_p_1_w6 := x_p.frozen 1
        have c_p_2_w6 := x_p.cell (i := 2) rfl
        have f_p_2_w6 := x_p.frozen 2
        have c_p_3_w6 := x_p.cell (i := 3) rfl
        have f_p_3_w6 := x_p.frozen 3
        have c_p_4_w6 := x_p.cell (i := 4) rfl
        have f_p_4_w6 := x_p.frozen 4
        have c_r_0_w6 := x_r.cell (i := 0) rfl
        have f_r_0_w6 := x_r.frozen 0
        have c_r_1_w6 := x_r.cell (i := 1) rfl
        have f_r_1_w6 := x_r.frozen 1
        have c_r_2_w6 := x_r.cell (i := 2) rfl
        have f_r_2_w6 := x_r.frozen 2
        have c_r_3_w6 := x_r.cell (i := 3) rfl
        have f_r_3_w6 := x_r.frozen 3
        have c_r_4_w6 := x_r.cell (i := 4) rfl
        have f_r_4_w6 := x_r.frozen 4
        have c_o_0_w6 := x_o.cell (i := 0) rfl
        have f_o_0_w6 := x_o.frozen 0
        have c_o_1_w6 := x_o.cell (i := 1) rfl
        have f_o_1_w6 := x_o.frozen 1
        have c_o_2_w6 := x_o.cell (i := 2) rfl
        have f_o_2_w6 := x_o.frozen 2
        have c_o_3_w6 := x_o.cell (i := 3) rfl
        have f_o_3_w6 := x_o.frozen 3
        have c_o_4_w6 := x_o.cell (i := 4) rfl
        have f_o_4_w6 := x_o.frozen 4
        obtain ⟨w7, e_w7, s_w7, h_w7, y⟩ := set_step x_o 1 (.int .i64 u)
        have s_w7_1 := Nat.le_of_eq s_w7
        have s_w7_2 := Nat.le_of_eq s_w7.symm
        clear s_w7
        replace x_p := x_p.chg h_w7 (by omega)
        replace x_r := x_r.chg h_w7 (by omega)
        replace ou := ou.chg h_w7 (by omega)
        replace oF := oF.chg h_w7 (by omega)
        replace oT := oT.chg h_w7 (by omega)
        replace o_g := o_g.chg h_w7 (by omega)
        have B_w7 := Below.chg_ B_w6 h_w7 (by omega) (by omega)
        replace x_o : Vr w7 (w1.heap.size) 26 [.int .i64 p.Bal, .int .i64 u, .slice Ag G.length cg, .int .i64 b, .slice A2 p.Got.length c2] := y
        clear y
        have c_p_0_w7 := x_p.cell (i := 0) rfl
        have f_p_0_w7 := x_p.frozen 0
        have c_p_1_w7 := x_p.cell (i := 1) rfl
        have f_p_1_w7 := x_p.frozen 1
        have c_p_2_w7 := x_p.cell (i := 2) rfl
        have f_p_2_w7 := x_p.frozen 2
        have c_p_3_w7 := x_p.cell (i := 3) rfl
        have f_p_3_w7 := x_p.frozen 3
        have c_p_4_w7 := x_p.cell (i := 4) rfl
        have f_p_4_w7 := x_p.frozen 4
        have c_r_0_w7 := x_r.cell (i := 0) rfl
        have f_r_0_w7 := x_r.frozen 0
        have c_r_1_w7 := x_r.cell (i := 1) rfl
        have f_r_1_w7 := x_r.frozen 1
        have c_r_2_w7 := x_r.cell (i := 2) rfl
        have f_r_2_w7 := x_r.frozen 2
        have c_r_3_w7 := x_r.cell (i := 3) rfl
        have f_r_3_w7 := x_r.frozen 3
        have c_r_4_w7 := x_r.cell (i := 4) rfl
        have f_r_4_w7 := x_r.frozen 4
        have c_o_0_w7 := x_o.cell (i := 0) rfl
        have f_o_0_w7 := x_o.frozen 0
        have c_o_1_w7 := x_o.cell (i := 1) rfl
        have f_o_1_w7 := x_o.frozen 1
        have c_o_2_w7 := x_o.cell (i := 2) rfl
        have f_o_2_w7 := x_o.frozen 2
        have c_o_3_w7 := x_o.cell (i := 3) rfl
        have f_o_3_w7 := x_o.frozen 3
        have c_o_4_w7 := x_o.cell (i := 4) rfl
        have f_o_4_w7 := x_o.frozen 4
        obtain ⟨w8, e_w8, s_w8, h_w8, y⟩ := store_step x_r [.int .i64 p.Bal, .int .i64 u, .slice Ag G.length cg, .int .i64 b, .slice A2 p.Got.length c2] rfl
        replace e_w8 : (((((w7.setCell ⟨w.heap.size + 1, 0, none⟩ (.int .i64 p.Bal)).setCell ⟨w.heap.size + 1, 1, none⟩ (.int .i64 u)).setCell ⟨w.heap.size + 1, 2, none⟩ (.slice Ag G.length cg)).setCell ⟨w.heap.size + 1, 3, none⟩ (.int .i64 b)).setCell ⟨w.heap.size + 1, 4, none⟩ (.slice A2 p.Got.length c2)) = w8 := e_w8
        have s_w8_1 := Nat.le_of_eq s_w8
        have s_w8_2 := Nat.le_of_eq s_w8.symm
        clear s_w8
        replace x_p := x_p.chg h_w8 (by omega)
        replace x_o := x_o.chg h_w8 (by omega)
        replace ou := ou.chg h_w8 (by omega)
        replace oF := oF.chg h_w8 (by omega)
        replace oT := oT.chg h_w8 (by omega)
        replace o_g := o_g.chg h_w8 (by omega)
        have B_w8 := Below.chg_ B_w7 h_w8 (by omega) (by omega)
        replace x_r : Vr w8 (w.heap.size + 1) 26 [.int .i64 p.Bal, .int .i64 u, .slice Ag G.length cg, .int .i64 b, .slice A2 p.Got.length c2] := y
        clear y
        have c_r_0_w8 := x_r.cell (i := 0) rfl
        have f_r_0_w8 := x_r.frozen 0
        have c_r_1_w8 := x_r.cell (i := 1) rfl
        have f_r_1_w8 := x_r.frozen 1
        have c_r_2_w8 := x_r.cell (i := 2) rfl
        have f_r_2_w8 := x_r.frozen 2
        have c_r_3_w8 := x_r.cell (i := 3) rfl
        have f_r_3_w8 := x_r.frozen 3
        have c_r_4_w8 := x_r.cell (i := 4) rfl
        have f_r_4_w8 := x_r.frozen 4
        go_wp2
        refine ret_cell (by rfl) (by rfl) x_r Try.underlying26 sz_prop (by rfl) ?_
        rw [HM.out]
        exact ⟨_, rfl, ov_prop (d := ⟨p.Bal, u, G, b, p.Got⟩) o_g oT (by omega), B_w8⟩
      case neg =>
        have HM : Hid (propHear p n b u = ⟨p.Bal, p.Val, G, p.Best, p.Got⟩) := by show _ = _; unfold propHear; rw [if_pos HB9.out, if_neg hbest, hG]
        have g5 : decide (p.Best < b) = false := decide_eq_false hbest
        clear hG hK hN hH hB hU hb0
        go_enter Try.func42, Try.ntmps42
        go_wp2_with fail
        refine (sPCopy_c (h0.from_ B0) hm).mono ?_
        rintro e w1 ⟨u_, rfl, ou, h_w1⟩
        clear c_p_0_wa f_p_0_wa c_p_1_wa f_p_1_wa c_p_2_wa f_p_2_wa c_p_3_wa f_p_3_wa c_p_4_wa f_p_4_wa c_r_0_wa f_r_0_wa c_r_1_wa f_r_1_wa c_r_2_wa f_r_2_wa c_r_3_wa f_r_3_wa c_r_4_wa f_r_4_wa
        replace x_p := x_p.from_ h_w1
        replace x_r := x_r.from_ h_w1
        have B_w1 := B0.trans (h_w1.mono B0.size)
        have s_w1 := h_w1.size
        obtain ⟨A1, c1, A2, c2, rfl, oF, oT⟩ := ov_prop_parts ou
        have c_p_0_w1 := x_p.cell (i := 0) rfl
        have f_p_0_w1 := x_p.frozen 0
        have c_p_1_w1 := x_p.cell (i := 1) rfl
        have f_p_1_w1 := x_p.frozen 1
        have c_p_2_w1 := x_p.cell (i := 2) rfl
        have f_p_2_w1 := x_p.frozen 2
        have c_p_3_w1 := x_p.cell (i := 3) rfl
        have f_p_3_w1 := x_p.frozen 3
        have c_p_4_w1 := x_p.cell (i := 4) rfl
        have f_p_4_w1 := x_p.frozen 4
        have c_r_0_w1 := x_r.cell (i := 0) rfl
        have f_r_0_w1 := x_r.frozen 0
        have c_r_1_w1 := x_r.cell (i := 1) rfl
        have f_r_1_w1 := x_r.frozen 1
        have c_r_2_w1 := x_r.cell (i := 2) rfl
        have f_r_2_w1 := x_r.frozen 2
        have c_r_3_w1 := x_r.cell (i := 3) rfl
        have f_r_3_w1 := x_r.frozen 3
        have c_r_4_w1 := x_r.cell (i := 4) rfl
        have f_r_4_w1 := x_r.frozen 4
        obtain ⟨w2, e_w2, s_w2, h_w2, x_o⟩ := alloc_step w1 26 [.int .i64 p.Bal, .int .i64 p.Val, .slice A1 p.From.length c1, .int .i64 p.Best, .slice A2 p.Got.length c2]
        have s_w2_1 := Nat.le_of_eq s_w2
        have s_w2_2 := Nat.le_of_eq s_w2.symm
        clear s_w2
        replace x_p := x_p.from_ h_w2
        replace x_r := x_r.from_ h_w2
        replace ou := ou.below h_w2
        replace oF := oF.below h_w2
        replace oT := oT.below h_w2
        have B_w2 := B_w1.trans (h_w2.mono B_w1.size)
        have c_p_0_w2 := x_p.cell (i := 0) rfl
        have f_p_0_w2 := x_p.frozen 0
        have c_p_1_w2 := x_p.cell (i := 1) rfl
        have f_p_1_w2 := x_p.frozen 1
        have c_p_2_w2 := x_p.cell (i := 2) rfl
        have f_p_2_w2 := x_p.frozen 2
        have c_p_3_w2 := x_p.cell (i := 3) rfl
        have f_p_3_w2 := x_p.frozen 3
        have c_p_4_w2 := x_p.cell (i := 4) rfl
        have f_p_4_w2 := x_p.frozen 4
        have c_r_0_w2 := x_r.cell (i := 0) rfl
        have f_r_0_w2 := x_r.frozen 0
        have c_r_1_w2 := x_r.cell (i := 1) rfl
        have f_r_1_w2 := x_r.frozen 1
        have c_r_2_w2 := x_r.cell (i := 2) rfl
        have f_r_2_w2 := x_r.frozen 2
        have c_r_3_w2 := x_r.cell (i := 3) rfl
        have f_r_3_w2 := x_r.frozen 3
        have c_r_4_w2 := x_r.cell (i := 4) rfl
        have f_r_4_w2 := x_r.frozen 4
        have c_o_0_w2 := x_o.cell (i := 0) rfl
        have f_o_0_w2 := x_o.frozen 0
        have c_o_1_w2 := x_o.cell (i := 1) rfl
        have f_o_1_w2 := x_o.frozen 1
        have c_o_2_w2 := x_o.cell (i := 2) rfl
        have f_o_2_w2 := x_o.frozen 2
        have c_o_3_w2 := x_o.cell (i := 3) rfl
        have f_o_3_w2 := x_o.frozen 3
        have c_o_4_w2 := x_o.cell (i := 4) rfl
        have f_o_4_w2 := x_o.frozen 4
        go_wp2_with fail
        refine (sPropOk_c (h0.from_ B_w2)).mono ?_
        rintro e w3 ⟨rfl, h_w3⟩
        clear c_p_0_w1 f_p_0_w1 c_p_1_w1 f_p_1_w1 c_p_2_w1 f_p_2_w1 c_p_3_w1 f_p_3_w1 c_p_4_w1 f_p_4_w1 c_r_0_w1 f_r_0_w1 c_r_1_w1 f_r_1_w1 c_r_2_w1 f_r_2_w1 c_r_3_w1 f_r_3_w1 c_r_4_w1 f_r_4_w1 c_p_0_w2 f_p_0_w2 c_p_1_w2 f_p_1_w2 c_p_2_w2 f_p_2_w2 c_p_3_w2 f_p_3_w2 c_p_4_w2 f_p_4_w2 c_r_0_w2 f_r_0_w2 c_r_1_w2 f_r_1_w2 c_r_2_w2 f_r_2_w2 c_r_3_w2 f_r_3_w2 c_r_4_w2 f_r_4_w2 c_o_0_w2 f_o_0_w2 c_o_1_w2 f_o_1_w2 c_o_2_w2 f_o_2_w2 c_o_3_w2 f_o_3_w2 c_o_4_w2 f_o_4_w2
        replace x_p := x_p.from_ h_w3
        replace x_r := x_r.from_ h_w3
        replace x_o := x_o.from_ h_w3
        replace ou := ou.below h_w3
        replace oF := oF.below h_w3
        replace oT := oT.below h_w3
        have B_w3 := B_w2.trans (h_w3.mono B_w2.size)
        have s_w3 := h_w3.size
        rw [HK.out]
        have c_p_0_w3 := x_p.cell (i := 0) rfl
        have f_p_0_w3 := x_p.frozen 0
        have c_p_1_w3 := x_p.cell (i := 1) rfl
        have f_p_1_w3 := x_p.frozen 1
        have c_p_2_w3 := x_p.cell (i := 2) rfl
        have f_p_2_w3 := x_p.frozen 2
        have c_p_3_w3 := x_p.cell (i := 3) rfl
        have f_p_3_w3 := x_p.frozen 3
        have c_p_4_w3 := x_p.cell (i := 4) rfl
        have f_p_4_w3 := x_p.frozen 4
        have c_r_0_w3 := x_r.cell (i := 0) rfl
        have f_r_0_w3 := x_r.frozen 0
        have c_r_1_w3 := x_r.cell (i := 1) rfl
        have f_r_1_w3 := x_r.frozen 1
        have c_r_2_w3 := x_r.cell (i := 2) rfl
        have f_r_2_w3 := x_r.frozen 2
        have c_r_3_w3 := x_r.cell (i := 3) rfl
        have f_r_3_w3 := x_r.frozen 3
        have c_r_4_w3 := x_r.cell (i := 4) rfl
        have f_r_4_w3 := x_r.frozen 4
        have c_o_0_w3 := x_o.cell (i := 0) rfl
        have f_o_0_w3 := x_o.frozen 0
        have c_o_1_w3 := x_o.cell (i := 1) rfl
        have f_o_1_w3 := x_o.frozen 1
        have c_o_2_w3 := x_o.cell (i := 2) rfl
        have f_o_2_w3 := x_o.frozen 2
        have c_o_3_w3 := x_o.cell (i := 3) rfl
        have f_o_3_w3 := x_o.frozen 3
        have c_o_4_w3 := x_o.cell (i := 4) rfl
        have f_o_4_w3 := x_o.frozen 4
        go_wp2_with fail
        refine (sNode_any _ _).mono ?_
        rintro e w' ⟨rfl, rfl⟩
        rw [HN.out]
        go_wp2_with fail
        refine (sHasI_c (rF.from_ B_w3)).mono ?_
        rintro e w' ⟨rfl, rfl⟩
        rw [HH.out]
        go_wp2_with fail
        refine (sIn_any _ _ _ _).mono ?_
        rintro e w' ⟨rfl, rfl⟩
        rw [HB.out]
        go_wp2_with fail
        refine (sAdd_c (n := n) (rF.from_ B_w3) hl).mono ?_
        rintro e w4 ⟨v2, rfl, o_g, h_w4⟩
        clear c_p_0_w3 f_p_0_w3 c_p_1_w3 f_p_1_w3 c_p_2_w3 f_p_2_w3 c_p_3_w3 f_p_3_w3 c_p_4_w3 f_p_4_w3 c_r_0_w3 f_r_0_w3 c_r_1_w3 f_r_1_w3 c_r_2_w3 f_r_2_w3 c_r_3_w3 f_r_3_w3 c_r_4_w3 f_r_4_w3 c_o_0_w3 f_o_0_w3 c_o_1_w3 f_o_1_w3 c_o_2_w3 f_o_2_w3 c_o_3_w3 f_o_3_w3 c_o_4_w3 f_o_4_w3
        replace x_p := x_p.from_ h_w4
        replace x_r := x_r.from_ h_w4
        replace x_o := x_o.from_ h_w4
        replace ou := ou.below h_w4
        replace oF := oF.below h_w4
        replace oT := oT.below h_w4
        have B_w4 := B_w3.trans (h_w4.mono B_w3.size)
        have s_w4 := h_w4.size
        rw [HG.out] at o_g
        obtain ⟨Ag, cg, rfl, -, -, -⟩ := o_g.rd
        have c_p_0_w4 := x_p.cell (i := 0) rfl
        have f_p_0_w4 := x_p.frozen 0
        have c_p_1_w4 := x_p.cell (i := 1) rfl
        have f_p_1_w4 := x_p.frozen 1
        have c_p_2_w4 := x_p.cell (i := 2) rfl
        have f_p_2_w4 := x_p.frozen 2
        have c_p_3_w4 := x_p.cell (i := 3) rfl
        have f_p_3_w4 := x_p.frozen 3
        have c_p_4_w4 := x_p.cell (i := 4) rfl
        have f_p_4_w4 := x_p.frozen 4
        have c_r_0_w4 := x_r.cell (i := 0) rfl
        have f_r_0_w4 := x_r.frozen 0
        have c_r_1_w4 := x_r.cell (i := 1) rfl
        have f_r_1_w4 := x_r.frozen 1
        have c_r_2_w4 := x_r.cell (i := 2) rfl
        have f_r_2_w4 := x_r.frozen 2
        have c_r_3_w4 := x_r.cell (i := 3) rfl
        have f_r_3_w4 := x_r.frozen 3
        have c_r_4_w4 := x_r.cell (i := 4) rfl
        have f_r_4_w4 := x_r.frozen 4
        have c_o_0_w4 := x_o.cell (i := 0) rfl
        have f_o_0_w4 := x_o.frozen 0
        have c_o_1_w4 := x_o.cell (i := 1) rfl
        have f_o_1_w4 := x_o.frozen 1
        have c_o_2_w4 := x_o.cell (i := 2) rfl
        have f_o_2_w4 := x_o.frozen 2
        have c_o_3_w4 := x_o.cell (i := 3) rfl
        have f_o_3_w4 := x_o.frozen 3
        have c_o_4_w4 := x_o.cell (i := 4) rfl
        have f_o_4_w4 := x_o.frozen 4
        obtain ⟨w5, e_w5, s_w5, h_w5, y⟩ := set_step x_o 2 (.slice Ag G.length cg)
        have s_w5_1 := Nat.le_of_eq s_w5
        have s_w5_2 := Nat.le_of_eq s_w5.symm
        clear s_w5
        replace x_p := x_p.chg h_w5 (by omega)
        replace x_r := x_r.chg h_w5 (by omega)
        replace ou := ou.chg h_w5 (by omega)
        replace oF := oF.chg h_w5 (by omega)
        replace oT := oT.chg h_w5 (by omega)
        replace o_g := o_g.chg h_w5 (by omega)
        have B_w5 := Below.chg_ B_w4 h_w5 (by omega) (by omega)
        replace x_o : Vr w5 (w1.heap.size) 26 [.int .i64 p.Bal, .int .i64 p.Val, .slice Ag G.length cg, .int .i64 p.Best, .slice A2 p.Got.length c2] := y
        clear y
        have c_p_0_w5 := x_p.cell (i := 0) rfl
        have f_p_0_w5 := x_p.frozen 0
        have c_p_1_w5 := x_p.cell (i := 1) rfl
        have f_p_1_w5 := x_p.frozen 1
        have c_p_2_w5 := x_p.cell (i := 2) rfl
        have f_p_2_w5 := x_p.frozen 2
        have c_p_3_w5 := x_p.cell (i := 3) rfl
        have f_p_3_w5 := x_p.frozen 3
        have c_p_4_w5 := x_p.cell (i := 4) rfl
        have f_p_4_w5 := x_p.frozen 4
        have c_r_0_w5 := x_r.cell (i := 0) rfl
        have f_r_0_w5 := x_r.frozen 0
        have c_r_1_w5 := x_r.cell (i := 1) rfl
        have f_r_1_w5 := x_r.frozen 1
        have c_r_2_w5 := x_r.cell (i := 2) rfl
        have f_r_2_w5 := x_r.frozen 2
        have c_r_3_w5 := x_r.cell (i := 3) rfl
        have f_r_3_w5 := x_r.frozen 3
        have c_r_4_w5 := x_r.cell (i := 4) rfl
        have f_r_4_w5 := x_r.frozen 4
        have c_o_0_w5 := x_o.cell (i := 0) rfl
        have f_o_0_w5 := x_o.frozen 0
        have c_o_1_w5 := x_o.cell (i := 1) rfl
        have f_o_1_w5 := x_o.frozen 1
        have c_o_2_w5 := x_o.cell (i := 2) rfl
        have f_o_2_w5 := x_o.frozen 2
        have c_o_3_w5 := x_o.cell (i := 3) rfl
        have f_o_3_w5 := x_o.frozen 3
        have c_o_4_w5 := x_o.cell (i := 4) rfl
        have f_o_4_w5 := x_o.frozen 4
        obtain ⟨w6, e_w6, s_w6, h_w6, y⟩ := store_step x_r [.int .i64 p.Bal, .int .i64 p.Val, .slice Ag G.length cg, .int .i64 p.Best, .slice A2 p.Got.length c2] rfl
        replace e_w6 : (((((w5.setCell ⟨w.heap.size + 1, 0, none⟩ (.int .i64 p.Bal)).setCell ⟨w.heap.size + 1, 1, none⟩ (.int .i64 p.Val)).setCell ⟨w.heap.size + 1, 2, none⟩ (.slice Ag G.length cg)).setCell ⟨w.heap.size + 1, 3, none⟩ (.int .i64 p.Best)).setCell ⟨w.heap.size + 1, 4, none⟩ (.slice A2 p.Got.length c2)) = w6 := e_w6
        have s_w6_1 := Nat.le_of_eq s_w6
        have s_w6_2 := Nat.le_of_eq s_w6.symm
        clear s_w6
        replace x_p := x_p.chg h_w6 (by omega)
        replace x_o := x_o.chg h_w6 (by omega)
        replace ou := ou.chg h_w6 (by omega)
        replace oF := oF.chg h_w6 (by omega)
        replace oT := oT.chg h_w6 (by omega)
        replace o_g := o_g.chg h_w6 (by omega)
        have B_w6 := Below.chg_ B_w5 h_w6 (by omega) (by omega)
        replace x_r : Vr w6 (w.heap.size + 1) 26 [.int .i64 p.Bal, .int .i64 p.Val, .slice Ag G.length cg, .int .i64 p.Best, .slice A2 p.Got.length c2] := y
        clear y
        have c_r_0_w6 := x_r.cell (i := 0) rfl
        have f_r_0_w6 := x_r.frozen 0
        have c_r_1_w6 := x_r.cell (i := 1) rfl
        have f_r_1_w6 := x_r.frozen 1
        have c_r_2_w6 := x_r.cell (i := 2) rfl
        have f_r_2_w6 := x_r.frozen 2
        have c_r_3_w6 := x_r.cell (i := 3) rfl
        have f_r_3_w6 := x_r.frozen 3
        have c_r_4_w6 := x_r.cell (i := 4) rfl
        have f_r_4_w6 := x_r.frozen 4
        go_wp2
        refine ret_cell (by rfl) (by rfl) x_r Try.underlying26 sz_prop (by rfl) ?_
        rw [HM.out]
        exact ⟨_, rfl, ov_prop (d := ⟨p.Bal, p.Val, G, p.Best, p.Got⟩) o_g oT (by omega), B_w6⟩

end Go.Proofs.Ytaoedgcdcimibaa
