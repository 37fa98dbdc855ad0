/- An account at a node: its copy, AcctAdd, AcctTake, AcctShut: the contracts of spec's functions and of impl's. Laid by a program of ours (src/ac1.py). -/
import Derived.Test.YtopmojfcdmcmbaaAc0
import Derived.Test.YtopmojfcdmcmbaaAppN
namespace Go.Proofs.Ytopmojfcdmcmbaa
open Go.RowKit
set_option linter.unusedVariables false

theorem rep_own_of_rd (w : World) (B : Nat) (cs : List Value) (x : MRep) (h : repL.rd w B cs x) (w' : World) : repL.own w' [] cs x := by
  obtain rfl := cs_rep h
  exact own_rep w' x

theorem rep_one {w : World} {B : Nat} {ys : List MRep} {us : List Value} (h : ∀ u ∈ us, ∃ (j : Nat) (x : MRep) (cs : List Value), ys[j]? = some x ∧ repL.rd w B cs x ∧ u ∈ cs) : ∀ u ∈ us, u.oneCell' = true := by
  intro u hu
  obtain ⟨j, x, cs, _, hr, hm⟩ := h u hu
  obtain rfl := cs_rep hr
  simp only [List.mem_cons, List.not_mem_nil, or_false] at hm
  rcases hm with rfl | rfl <;> rfl

/-- an empty slice of reports that the walk has just laid -/
theorem ov_reps_lit (w : World) : OV repSL (w.alloc (.cells #[] 57)) w.heap.size (w.heap.size + 1) (.slice (some ⟨w.heap.size, 0, none⟩) 0 0) [] := by
  have h := World.ownsRow_lit (base := 0) (e := 57) (size := 2) w #[] 0 (Nat.zero_le _) (by unfold maxLen; omega) (by simp)
  refine ⟨[_], [w.heap.size], rfl, ⟨_, rfl, fun _ => [], fun _ => [], by simpa [flat] using h, fun j x hx => by simp at hx, by simp [Value.ownBlock, flat]⟩, by simp, ?_, by simp⟩
  intro j hj
  obtain rfl : j = w.heap.size := by simpa using hj
  omega

theorem ov_reps_nil {w : World} {lo hi : Nat} (h : hi ≤ w.heap.size) : OV repSL w lo hi (.slice none 0 0) [] :=
  ⟨[_], [], rfl, ⟨_, rfl, fun _ => [], fun _ => [], World.ownsRow_nil _ _ _ _, fun j x hx => by simp at hx, by simp [Value.ownBlock, flat]⟩, List.nodup_nil, fun j hj => (by cases hj), h⟩

theorem ov_acctZ {w : World} {lo : Nat} (h : lo ≤ w.heap.size) : OV acctL w lo w.heap.size (.agg #[.int .i64 0, .int .i64 0, .int .i64 0, .slice none 0 0, .slice none 0 0]) acctZ :=
  ov_acct (d := acctZ) (os_nil (lo := lo) (hi := lo) h) (ov_reps_nil (lo := lo) (hi := lo) h) (by omega)

/-- what an account's value is made of, and how it is put together anew with other numbers in it -/
theorem ov_acct_parts {w : World} {lo hi : Nat} {v : Value} {a : MAcct} (h : OV acctL w lo hi v a) : ∃ AM cM AR cR, v = .agg #[.int .i64 a.Have, .int .i64 a.State, .int .i64 a.By, .slice AM a.Marks.length cM, .slice AR a.Reps.length cR] ∧
    OS .i64 3 w lo hi (.slice AM a.Marks.length cM) a.Marks ∧ OV repSL w lo hi (.slice AR a.Reps.length cR) a.Reps := by
  obtain ⟨cs, S, rfl, ho, hn, hS, hh⟩ := h
  obtain ⟨_, _, S1, T1, rfl, rfl, ⟨rfl, rfl⟩, _, _, S2, T2, rfl, rfl, ⟨rfl, rfl⟩, _, _, S3, T3, rfl, rfl, ⟨rfl, rfl⟩, _, _, S4, T4, rfl, rfl, ⟨vM, rfl, oM, rfl⟩, oR⟩ := ho
  simp only [List.nil_append] at hn hS
  obtain ⟨n1, n2, -, -⟩ := nodup_app hn
  have qM : OS .i64 3 w lo hi vM a.Marks := ov_ints.1 ⟨[vM], _, rfl, ⟨vM, rfl, oM, rfl⟩, n1, fun j hj => hS j (List.mem_append.2 (.inl hj)), hh⟩
  obtain ⟨vR, rfl, hR⟩ := id oR
  have qR : OV repSL w lo hi vR a.Reps := ⟨[vR], T4, rfl, ⟨vR, rfl, hR⟩, n2, fun j hj => hS j (List.mem_append.2 (.inr hj)), hh⟩
  obtain ⟨AM, cM, rfl, -, -, -⟩ := qM.rd
  obtain ⟨AR, cR, rfl, -, -, -⟩ := rv_slice qR.rd
  exact ⟨AM, cM, AR, cR, rfl, qM, qR⟩

theorem ov_acct_scal {w : World} {lo hi : Nat} {vM vR : Value} {x y z : Int} {a : MAcct} (h : OV acctL w lo hi (.agg #[.int .i64 a.Have, .int .i64 a.State, .int .i64 a.By, vM, vR]) a) : OV acctL w lo hi (.agg #[.int .i64 x, .int .i64 y, .int .i64 z, vM, vR]) ⟨x, y, z, a.Marks, a.Reps⟩ := by
  obtain ⟨cs, S, he, ho, hn, hS, hh⟩ := h
  obtain ⟨_, _, S1, T1, rfl, rfl, ⟨rfl, rfl⟩, _, _, S2, T2, rfl, rfl, ⟨rfl, rfl⟩, _, _, S3, T3, rfl, rfl, ⟨rfl, rfl⟩, _, _, S4, T4, rfl, rfl, ⟨uM, rfl, oM, rfl⟩, oR⟩ := ho
  obtain ⟨uR, rfl, hR⟩ := id oR
  have he2 := congrArg Array.toList (Value.agg.inj he)
  simp only [List.cons_append, List.nil_append, List.cons.injEq, true_and] at he2
  obtain ⟨rfl, rfl⟩ := he2
  exact ⟨_, _, rfl, ⟨[_], _, [], _, rfl, rfl, ⟨rfl, rfl⟩, [_], _, [], _, rfl, rfl, ⟨rfl, rfl⟩, [_], _, [], _, rfl, rfl, ⟨rfl, rfl⟩, [_], _, _, _, rfl, rfl, ⟨_, rfl, oM, rfl⟩, oR⟩, hn, hS, hh⟩

set_option maxRecDepth 100000 in
set_option maxHeartbeats 4000000 in
theorem sACopy_c {w : World} {v : Value} {a : MAcct} (h : RV acctL w v a) (hm : a.bulk ≤ 16777216) : Calls Try.prog 65 #[v] w (NewV acctL w a) := by
  unfold MAcct.bulk at hm
  obtain ⟨AM, cM, AR, cR, rfl, rM, rR⟩ := rv_acct h
  clear h
  obtain ⟨i0, hi, hz0, hz1, hz2⟩ := info_parts Try.info_i64
  obtain ⟨j0, hj, yz0, yz1, yz2⟩ := info_parts Try.info_rep
  obtain ⟨wa, hwa, B0, sa, x_p, x_r⟩ := frame2 w 27 [.int .i64 a.Have, .int .i64 a.State, .int .i64 a.By, .slice AM a.Marks.length cM, .slice AR a.Reps.length cR] 27 [.int .i64 0, .int .i64 0, .int .i64 0, .slice none 0 0, .slice none 0 0]
  have sa_1 := Nat.le_of_eq sa
  have sa_2 := Nat.le_of_eq sa.symm
  clear sa
  have c_p_0_wa := x_p.cell (i := 0) rfl
  have f_p_0_wa := x_p.frozen 0
  have c_p_1_wa := x_p.cell (i := 1) rfl
  have f_p_1_wa := x_p.frozen 1
  have c_p_2_wa := x_p.cell (i := 2) rfl
  have f_p_2_wa := x_p.frozen 2
  have c_p_3_wa := x_p.cell (i := 3) rfl
  have f_p_3_wa := x_p.frozen 3
  have c_p_4_wa := x_p.cell (i := 4) rfl
  have f_p_4_wa := x_p.frozen 4
  have c_r_0_wa := x_r.cell (i := 0) rfl
  have f_r_0_wa := x_r.frozen 0
  have c_r_1_wa := x_r.cell (i := 1) rfl
  have f_r_1_wa := x_r.frozen 1
  have c_r_2_wa := x_r.cell (i := 2) rfl
  have f_r_2_wa := x_r.frozen 2
  have c_r_3_wa := x_r.cell (i := 3) rfl
  have f_r_3_wa := x_r.frozen 3
  have c_r_4_wa := x_r.cell (i := 4) rfl
  have f_r_4_wa := x_r.frozen 4
  go_enter Try.func65, Try.ntmps65
  have oN := own_none .i64 wa wa.heap.size 3 (Nat.le_refl _)
  obtain ⟨w1, e_w1, s_w1, h_w1, -⟩ := alloc_step wa 3 []
  have e1' : wa.alloc (.cells #[] 3) = w1 := e_w1
  rw [e1'] at oN
  clear e1'
  have s_w1_1 := Nat.le_of_eq s_w1
  have s_w1_2 := Nat.le_of_eq s_w1.symm
  clear s_w1
  have xp0 := x_p
  have xr0 := x_r
  replace x_p := x_p.from_ h_w1
  replace x_r := x_r.from_ h_w1
  have B_w1 := B0.trans (h_w1.mono B0.size)
  have c_p_0_w1 := x_p.cell (i := 0) rfl
  have f_p_0_w1 := x_p.frozen 0
  have c_p_1_w1 := x_p.cell (i := 1) rfl
  have f_p_1_w1 := x_p.frozen 1
  have c_p_2_w1 := x_p.cell (i := 2) rfl
  have f_p_2_w1 := x_p.frozen 2
  have c_p_3_w1 := x_p.cell (i := 3) rfl
  have f_p_3_w1 := x_p.frozen 3
  have c_p_4_w1 := x_p.cell (i := 4) rfl
  have f_p_4_w1 := x_p.frozen 4
  have c_r_0_w1 := x_r.cell (i := 0) rfl
  have f_r_0_w1 := x_r.frozen 0
  have c_r_1_w1 := x_r.cell (i := 1) rfl
  have f_r_1_w1 := x_r.frozen 1
  have c_r_2_w1 := x_r.cell (i := 2) rfl
  have f_r_2_w1 := x_r.frozen 2
  have c_r_3_w1 := x_r.cell (i := 3) rfl
  have f_r_3_w1 := x_r.frozen 3
  have c_r_4_w1 := x_r.cell (i := 4) rfl
  have f_r_4_w1 := x_r.frozen 4
  go_wp2_with (at_builtin; refine wpl_appI _ .i64 rfl (.tmp 3) (.tmp 5) 24 rfl wa.heap.size 3 i0 8 Try.underlying24 hi hz0 hz1 hz2 _ [] rfl oN _ AM cM a.Marks.length a.Marks rfl rfl ((rM.from_ B_w1).rd_) ?d1 (by omega) ?d2 ?_)
  case d1 => simp; omega
  case d2 => omega
  intro v2 w2 o2 g2 _
  (try rw [List.nil_append] at o2)
  have h_w2 : Below wa.heap.size wa w2 := grown_below h_w1 oN g2 (Nat.le_refl _) (by omega)
  obtain ⟨Am2, cm2, rfl, -, -, -⟩ := own_form o2
  have o_m := OS.mk_ o2
  clear o2 g2 oN
  clear c_p_0_wa f_p_0_wa c_p_1_wa f_p_1_wa c_p_2_wa f_p_2_wa c_p_3_wa f_p_3_wa c_p_4_wa f_p_4_wa c_r_0_wa f_r_0_wa c_r_1_wa f_r_1_wa c_r_2_wa f_r_2_wa c_r_3_wa f_r_3_wa c_r_4_wa f_r_4_wa c_p_0_w1 f_p_0_w1 c_p_1_w1 f_p_1_w1 c_p_2_w1 f_p_2_w1 c_p_3_w1 f_p_3_w1 c_p_4_w1 f_p_4_w1 c_r_0_w1 f_r_0_w1 c_r_1_w1 f_r_1_w1 c_r_2_w1 f_r_2_w1 c_r_3_w1 f_r_3_w1 c_r_4_w1 f_r_4_w1
  replace x_p := xp0.from_ h_w2
  replace x_r := xr0.from_ h_w2
  clear xp0 xr0
  have B_w2 := B0.trans (h_w2.mono B0.size)
  have s_w2 := h_w2.size
  have c_p_0_w2 := x_p.cell (i := 0) rfl
  have f_p_0_w2 := x_p.frozen 0
  have c_p_1_w2 := x_p.cell (i := 1) rfl
  have f_p_1_w2 := x_p.frozen 1
  have c_p_2_w2 := x_p.cell (i := 2) rfl
  have f_p_2_w2 := x_p.frozen 2
  have c_p_3_w2 := x_p.cell (i := 3) rfl
  have f_p_3_w2 := x_p.frozen 3
  have c_p_4_w2 := x_p.cell (i := 4) rfl
  have f_p_4_w2 := x_p.frozen 4
  have c_r_0_w2 := x_r.cell (i := 0) rfl
  have f_r_0_w2 := x_r.frozen 0
  have c_r_1_w2 := x_r.cell (i := 1) rfl
  have f_r_1_w2 := x_r.frozen 1
  have c_r_2_w2 := x_r.cell (i := 2) rfl
  have f_r_2_w2 := x_r.frozen 2
  have c_r_3_w2 := x_r.cell (i := 3) rfl
  have f_r_3_w2 := x_r.frozen 3
  have c_r_4_w2 := x_r.cell (i := 4) rfl
  have f_r_4_w2 := x_r.frozen 4
  obtain ⟨w3, e_w3, s_w3, h_w3, y⟩ := set_step x_p 3 (.slice Am2 a.Marks.length cm2)
  have s_w3_1 := Nat.le_of_eq s_w3
  have s_w3_2 := Nat.le_of_eq s_w3.symm
  clear s_w3
  replace x_r := x_r.chg h_w3 (by omega)
  replace o_m := o_m.chg h_w3 (by omega)
  have B_w3 := Below.chg_ B_w2 h_w3 (by omega) (by omega)
  replace x_p : Vr w3 (w.heap.size) 27 [.int .i64 a.Have, .int .i64 a.State, .int .i64 a.By, .slice Am2 a.Marks.length cm2, .slice AR a.Reps.length cR] := y
  clear y
  have c_p_0_w3 := x_p.cell (i := 0) rfl
  have f_p_0_w3 := x_p.frozen 0
  have c_p_1_w3 := x_p.cell (i := 1) rfl
  have f_p_1_w3 := x_p.frozen 1
  have c_p_2_w3 := x_p.cell (i := 2) rfl
  have f_p_2_w3 := x_p.frozen 2
  have c_p_3_w3 := x_p.cell (i := 3) rfl
  have f_p_3_w3 := x_p.frozen 3
  have c_p_4_w3 := x_p.cell (i := 4) rfl
  have f_p_4_w3 := x_p.frozen 4
  have c_r_0_w3 := x_r.cell (i := 0) rfl
  have f_r_0_w3 := x_r.frozen 0
  have c_r_1_w3 := x_r.cell (i := 1) rfl
  have f_r_1_w3 := x_r.frozen 1
  have c_r_2_w3 := x_r.cell (i := 2) rfl
  have f_r_2_w3 := x_r.frozen 2
  have c_r_3_w3 := x_r.cell (i := 3) rfl
  have f_r_3_w3 := x_r.frozen 3
  have c_r_4_w3 := x_r.cell (i := 4) rfl
  have f_r_4_w3 := x_r.frozen 4
  obtain ⟨A', c', he, hc1, hc2, hr⟩ := rv_slice rR
  simp only [Value.slice.injEq, true_and] at he
  obtain ⟨rfl, rfl⟩ := he
  have oN := ov_reps_lit w3
  obtain ⟨w4, e_w4, s_w4, h_w4, -⟩ := alloc_step w3 57 []
  have e1' : w3.alloc (.cells #[] 57) = w4 := e_w4
  rw [e1'] at oN
  clear e1'
  have s_w4_1 := Nat.le_of_eq s_w4
  have s_w4_2 := Nat.le_of_eq s_w4.symm
  clear s_w4
  have xp0 := x_p
  have xr0 := x_r
  have zo_m := o_m
  replace x_p := x_p.from_ h_w4
  replace x_r := x_r.from_ h_w4
  replace o_m := o_m.below h_w4
  have B_w4 := B_w3.trans (h_w4.mono B_w3.size)
  have c_p_0_w4 := x_p.cell (i := 0) rfl
  have f_p_0_w4 := x_p.frozen 0
  have c_p_1_w4 := x_p.cell (i := 1) rfl
  have f_p_1_w4 := x_p.frozen 1
  have c_p_2_w4 := x_p.cell (i := 2) rfl
  have f_p_2_w4 := x_p.frozen 2
  have c_p_3_w4 := x_p.cell (i := 3) rfl
  have f_p_3_w4 := x_p.frozen 3
  have c_p_4_w4 := x_p.cell (i := 4) rfl
  have f_p_4_w4 := x_p.frozen 4
  have c_r_0_w4 := x_r.cell (i := 0) rfl
  have f_r_0_w4 := x_r.frozen 0
  have c_r_1_w4 := x_r.cell (i := 1) rfl
  have f_r_1_w4 := x_r.frozen 1
  have c_r_2_w4 := x_r.cell (i := 2) rfl
  have f_r_2_w4 := x_r.frozen 2
  have c_r_3_w4 := x_r.cell (i := 3) rfl
  have f_r_3_w4 := x_r.frozen 3
  have c_r_4_w4 := x_r.cell (i := 4) rfl
  have f_r_4_w4 := x_r.frozen 4
  obtain ⟨zs, us, R, hul, hrd, hus, hend⟩ := OV.app_all own_rep_nil rep_own_of_rd oN (hr.below B_w4) (by omega)
  have h1c := rep_one hus
  clear hus
  go_wp2_with (at_builtin; refine wpl_appN _ rfl (.tmp 8) (.tmp 10) 25 rfl 0 2 57 j0 (.agg #[.int .i64 0, .int .i64 0]) 16 Try.underlying25 hj yz0 yz1 yz2 rfl (by decide) _ 0 zs rfl R _ _ _ a.Reps.length us rfl hul hrd h1c ?d3 (by decide) (Nat.zero_le _) ?_)
  case d3 => omega
  intro v1 w5 ho1 hg1 hat1
  obtain ⟨o_r, B1⟩ := hend v1 w5 (by simpa using ho1) hg1 hat1
  rw [List.nil_append] at o_r
  clear hend R hul hrd h1c ho1 hg1 hat1
  have h_w5 : Below w3.heap.size w3 w5 := h_w4.trans B1
  obtain ⟨Ar2, cr2, rfl, -, -, -⟩ := rv_slice o_r.rd
  clear c_p_0_w2 f_p_0_w2 c_p_1_w2 f_p_1_w2 c_p_2_w2 f_p_2_w2 c_p_3_w2 f_p_3_w2 c_p_4_w2 f_p_4_w2 c_r_0_w2 f_r_0_w2 c_r_1_w2 f_r_1_w2 c_r_2_w2 f_r_2_w2 c_r_3_w2 f_r_3_w2 c_r_4_w2 f_r_4_w2 c_p_0_w3 f_p_0_w3 c_p_1_w3 f_p_1_w3 c_p_2_w3 f_p_2_w3 c_p_3_w3 f_p_3_w3 c_p_4_w3 f_p_4_w3 c_r_0_w3 f_r_0_w3 c_r_1_w3 f_r_1_w3 c_r_2_w3 f_r_2_w3 c_r_3_w3 f_r_3_w3 c_r_4_w3 f_r_4_w3 c_p_0_w4 f_p_0_w4 c_p_1_w4 f_p_1_w4 c_p_2_w4 f_p_2_w4 c_p_3_w4 f_p_3_w4 c_p_4_w4 f_p_4_w4 c_r_0_w4 f_r_0_w4 c_r_1_w4 f_r_1_w4 c_r_2_w4 f_r_2_w4 c_r_3_w4 f_r_3_w4 c_r_4_w4 f_r_4_w4
  replace x_p := xp0.from_ h_w5
  replace x_r := xr0.from_ h_w5
  replace o_m := zo_m.below h_w5
  clear xp0 xr0 zo_m
  have B_w5 := B_w3.trans (h_w5.mono B_w3.size)
  have s_w5 := h_w5.size
  have c_p_0_w5 := x_p.cell (i := 0) rfl
  have f_p_0_w5 := x_p.frozen 0
  have c_p_1_w5 := x_p.cell (i := 1) rfl
  have f_p_1_w5 := x_p.frozen 1
  have c_p_2_w5 := x_p.cell (i := 2) rfl
  have f_p_2_w5 := x_p.frozen 2
  have c_p_3_w5 := x_p.cell (i := 3) rfl
  have f_p_3_w5 := x_p.frozen 3
  have c_p_4_w5 := x_p.cell (i := 4) rfl
  have f_p_4_w5 := x_p.frozen 4
  have c_r_0_w5 := x_r.cell (i := 0) rfl
  have f_r_0_w5 := x_r.frozen 0
  have c_r_1_w5 := x_r.cell (i := 1) rfl
  have f_r_1_w5 := x_r.frozen 1
  have c_r_2_w5 := x_r.cell (i := 2) rfl
  have f_r_2_w5 := x_r.frozen 2
  have c_r_3_w5 := x_r.cell (i := 3) rfl
  have f_r_3_w5 := x_r.frozen 3
  have c_r_4_w5 := x_r.cell (i := 4) rfl
  have f_r_4_w5 := x_r.frozen 4
  obtain ⟨w6, e_w6, s_w6, h_w6, y⟩ := set_step x_p 4 (.slice Ar2 a.Reps.length cr2)
  have s_w6_1 := Nat.le_of_eq s_w6
  have s_w6_2 := Nat.le_of_eq s_w6.symm
  clear s_w6
  replace x_r := x_r.chg h_w6 (by omega)
  replace o_m := o_m.chg h_w6 (by omega)
  replace o_r := o_r.chg h_w6 (by omega)
  have B_w6 := Below.chg_ B_w5 h_w6 (by omega) (by omega)
  replace x_p : Vr w6 (w.heap.size) 27 [.int .i64 a.Have, .int .i64 a.State, .int .i64 a.By, .slice Am2 a.Marks.length cm2, .slice Ar2 a.Reps.length cr2] := y
  clear y
  have c_p_0_w6 := x_p.cell (i := 0) rfl
  have f_p_0_w6 := x_p.frozen 0
  have c_p_1_w6 := x_p.cell (i := 1) rfl
  have f_p_1_w6 := x_p.frozen 1
  have c_p_2_w6 := x_p.cell (i := 2) rfl
  have f_p_2_w6 := x_p.frozen 2
  have c_p_3_w6 := x_p.cell (i := 3) rfl
  have f_p_3_w6 := x_p.frozen 3
  have c_p_4_w6 := x_p.cell (i := 4) rfl
  have f_p_4_w6 := x_p.frozen 4
  have c_r_0_w6 := x_r.cell (i := 0) rfl
  have f_r_0_w6 := x_r.frozen 0
  have c_r_1_w6 := x_r.cell (i := 1) rfl
  have f_r_1_w6 := x_r.frozen 1
  have c_r_2_w6 := x_r.cell (i := 2) rfl
  have f_r_2_w6 := x_r.frozen 2
  have c_r_3_w6 := x_r.cell (i := 3) rfl
  have f_r_3_w6 := x_r.frozen 3
  have c_r_4_w6 := x_r.cell (i := 4) rfl
  have f_r_4_w6 := x_r.frozen 4
  obtain ⟨w7, e_w7, s_w7, h_w7, y⟩ := store_step x_r [.int .i64 a.Have, .int .i64 a.State, .int .i64 a.By, .slice Am2 a.Marks.length cm2, .slice Ar2 a.Reps.length cr2] rfl
  replace e_w7 : (((((w6.setCell ⟨w.heap.size + 1, 0, none⟩ (.int .i64 a.Have)).setCell ⟨w.heap.size + 1, 1, none⟩ (.int .i64 a.State)).setCell ⟨w.heap.size + 1, 2, none⟩ (.int .i64 a.By)).setCell ⟨w.heap.size + 1, 3, none⟩ (.slice Am2 a.Marks.length cm2)).setCell ⟨w.heap.size + 1, 4, none⟩ (.slice Ar2 a.Reps.length cr2)) = w7 := e_w7
  have s_w7_1 := Nat.le_of_eq s_w7
  have s_w7_2 := Nat.le_of_eq s_w7.symm
  clear s_w7
  replace x_p := x_p.chg h_w7 (by omega)
  replace o_m := o_m.chg h_w7 (by omega)
  replace o_r := o_r.chg h_w7 (by omega)
  have B_w7 := Below.chg_ B_w6 h_w7 (by omega) (by omega)
  replace x_r : Vr w7 (w.heap.size + 1) 27 [.int .i64 a.Have, .int .i64 a.State, .int .i64 a.By, .slice Am2 a.Marks.length cm2, .slice Ar2 a.Reps.length cr2] := y
  clear y
  have c_r_0_w7 := x_r.cell (i := 0) rfl
  have f_r_0_w7 := x_r.frozen 0
  have c_r_1_w7 := x_r.cell (i := 1) rfl
  have f_r_1_w7 := x_r.frozen 1
  have c_r_2_w7 := x_r.cell (i := 2) rfl
  have f_r_2_w7 := x_r.frozen 2
  have c_r_3_w7 := x_r.cell (i := 3) rfl
  have f_r_3_w7 := x_r.frozen 3
  have c_r_4_w7 := x_r.cell (i := 4) rfl
  have f_r_4_w7 := x_r.frozen 4
  go_wp2
  refine ret_cell (by rfl) (by rfl) x_r Try.underlying27 sz_acct (by rfl) ?_
  exact ⟨_, rfl, ov_acct (d := a) o_m o_r (by omega), B_w7⟩

set_option maxRecDepth 100000 in
set_option maxHeartbeats 4000000 in
theorem iACopy_c {w : World} {v : Value} {a : MAcct} (h : RV acctL w v a) (hm : a.bulk ≤ 16777216) : Calls Try.prog 40 #[v] w (NewV acctL w a) := by
  unfold MAcct.bulk at hm
  obtain ⟨AM, cM, AR, cR, rfl, rM, rR⟩ := rv_acct h
  clear h
  obtain ⟨i0, hi, hz0, hz1, hz2⟩ := info_parts Try.info_i64
  obtain ⟨j0, hj, yz0, yz1, yz2⟩ := info_parts Try.info_rep
  obtain ⟨wa, hwa, B0, sa, x_p, x_r⟩ := frame2 w 27 [.int .i64 a.Have, .int .i64 a.State, .int .i64 a.By, .slice AM a.Marks.length cM, .slice AR a.Reps.length cR] 27 [.int .i64 0, .int .i64 0, .int .i64 0, .slice none 0 0, .slice none 0 0]
  have sa_1 := Nat.le_of_eq sa
  have sa_2 := Nat.le_of_eq sa.symm
  clear sa
  have c_p_0_wa := x_p.cell (i := 0) rfl
  have f_p_0_wa := x_p.frozen 0
  have c_p_1_wa := x_p.cell (i := 1) rfl
  have f_p_1_wa := x_p.frozen 1
  have c_p_2_wa := x_p.cell (i := 2) rfl
  have f_p_2_wa := x_p.frozen 2
  have c_p_3_wa := x_p.cell (i := 3) rfl
  have f_p_3_wa := x_p.frozen 3
  have c_p_4_wa := x_p.cell (i := 4) rfl
  have f_p_4_wa := x_p.frozen 4
  have c_r_0_wa := x_r.cell (i := 0) rfl
  have f_r_0_wa := x_r.frozen 0
  have c_r_1_wa := x_r.cell (i := 1) rfl
  have f_r_1_wa := x_r.frozen 1
  have c_r_2_wa := x_r.cell (i := 2) rfl
  have f_r_2_wa := x_r.frozen 2
  have c_r_3_wa := x_r.cell (i := 3) rfl
  have f_r_3_wa := x_r.frozen 3
  have c_r_4_wa := x_r.cell (i := 4) rfl
  have f_r_4_wa := x_r.frozen 4
  go_enter Try.func40, Try.ntmps40
  have oN := own_none .i64 wa wa.heap.size 3 (Nat.le_refl _)
  obtain ⟨w1, e_w1, s_w1, h_w1, -⟩ := alloc_step wa 3 []
  have e1' : wa.alloc (.cells #[] 3) = w1 := e_w1
  rw [e1'] at oN
  clear e1'
  have s_w1_1 := Nat.le_of_eq s_w1
  have s_w1_2 := Nat.le_of_eq s_w1.symm
  clear s_w1
  have xp0 := x_p
  have xr0 := x_r
  replace x_p := x_p.from_ h_w1
  replace x_r := x_r.from_ h_w1
  have B_w1 := B0.trans (h_w1.mono B0.size)
  have c_p_0_w1 := x_p.cell (i := 0) rfl
  have f_p_0_w1 := x_p.frozen 0
  have c_p_1_w1 := x_p.cell (i := 1) rfl
  have f_p_1_w1 := x_p.frozen 1
  have c_p_2_w1 := x_p.cell (i := 2) rfl
  have f_p_2_w1 := x_p.frozen 2
  have c_p_3_w1 := x_p.cell (i := 3) rfl
  have f_p_3_w1 := x_p.frozen 3
  have c_p_4_w1 := x_p.cell (i := 4) rfl
  have f_p_4_w1 := x_p.frozen 4
  have c_r_0_w1 := x_r.cell (i := 0) rfl
  have f_r_0_w1 := x_r.frozen 0
  have c_r_1_w1 := x_r.cell (i := 1) rfl
  have f_r_1_w1 := x_r.frozen 1
  have c_r_2_w1 := x_r.cell (i := 2) rfl
  have f_r_2_w1 := x_r.frozen 2
  have c_r_3_w1 := x_r.cell (i := 3) rfl
  have f_r_3_w1 := x_r.frozen 3
  have c_r_4_w1 := x_r.cell (i := 4) rfl
  have f_r_4_w1 := x_r.frozen 4
  go_wp2_with (at_builtin; refine wpl_appI _ .i64 rfl (.tmp 3) (.tmp 5) 24 rfl wa.heap.size 3 i0 8 Try.underlying24 hi hz0 hz1 hz2 _ [] rfl oN _ AM cM a.Marks.length a.Marks rfl rfl ((rM.from_ B_w1).rd_) ?d1 (by omega) ?d2 ?_)
  case d1 => simp; omega
  case d2 => omega
  intro v2 w2 o2 g2 _
  (try rw [List.nil_append] at o2)
  have h_w2 : Below wa.heap.size wa w2 := grown_below h_w1 oN g2 (Nat.le_refl _) (by omega)
  obtain ⟨Am2, cm2, rfl, -, -, -⟩ := own_form o2
  have o_m := OS.mk_ o2
  clear o2 g2 oN
  clear c_p_0_wa f_p_0_wa c_p_1_wa f_p_1_wa c_p_2_wa f_p_2_wa c_p_3_wa f_p_3_wa c_p_4_wa f_p_4_wa c_r_0_wa f_r_0_wa c_r_1_wa f_r_1_wa c_r_2_wa f_r_2_wa c_r_3_wa f_r_3_wa c_r_4_wa f_r_4_wa c_p_0_w1 f_p_0_w1 c_p_1_w1 f_p_1_w1 c_p_2_w1 f_p_2_w1 c_p_3_w1 f_p_3_w1 c_p_4_w1 f_p_4_w1 c_r_0_w1 f_r_0_w1 c_r_1_w1 f_r_1_w1 c_r_2_w1 f_r_2_w1 c_r_3_w1 f_r_3_w1 c_r_4_w1 f_r_4_w1
  replace x_p := xp0.from_ h_w2
  replace x_r := xr0.from_ h_w2
  clear xp0 xr0
  have B_w2 := B0.trans (h_w2.mono B0.size)
  have s_w2 := h_w2.size
  have c_p_0_w2 := x_p.cell (i := 0) rfl
  have f_p_0_w2 := x_p.frozen 0
  have c_p_1_w2 := x_p.cell (i := 1) rfl
  have f_p_1_w2 := x_p.frozen 1
  have c_p_2_w2 := x_p.cell (i := 2) rfl
  have f_p_2_w2 := x_p.frozen 2
  have c_p_3_w2 := x_p.cell (i := 3) rfl
  have f_p_3_w2 := x_p.frozen 3
  have c_p_4_w2 := x_p.cell (i := 4) rfl
  have f_p_4_w2 := x_p.frozen 4
  have c_r_0_w2 := x_r.cell (i := 0) rfl
  have f_r_0_w2 := x_r.frozen 0
  have c_r_1_w2 := x_r.cell (i := 1) rfl
  have f_r_1_w2 := x_r.frozen 1
  have c_r_2_w2 := x_r.cell (i := 2) rfl
  have f_r_2_w2 := x_r.frozen 2
  have c_r_3_w2 := x_r.cell (i := 3) rfl
  have f_r_3_w2 := x_r.frozen 3
  have c_r_4_w2 := x_r.cell (i := 4) rfl
  have f_r_4_w2 := x_r.frozen 4
  obtain ⟨w3, e_w3, s_w3, h_w3, y⟩ := set_step x_p 3 (.slice Am2 a.Marks.length cm2)
  have s_w3_1 := Nat.le_of_eq s_w3
  have s_w3_2 := Nat.le_of_eq s_w3.symm
  clear s_w3
  replace x_r := x_r.chg h_w3 (by omega)
  replace o_m := o_m.chg h_w3 (by omega)
  have B_w3 := Below.chg_ B_w2 h_w3 (by omega) (by omega)
  replace x_p : Vr w3 (w.heap.size) 27 [.int .i64 a.Have, .int .i64 a.State, .int .i64 a.By, .slice Am2 a.Marks.length cm2, .slice AR a.Reps.length cR] := y
  clear y
  have c_p_0_w3 := x_p.cell (i := 0) rfl
  have f_p_0_w3 := x_p.frozen 0
  have c_p_1_w3 := x_p.cell (i := 1) rfl
  have f_p_1_w3 := x_p.frozen 1
  have c_p_2_w3 := x_p.cell (i := 2) rfl
  have f_p_2_w3 := x_p.frozen 2
  have c_p_3_w3 := x_p.cell (i := 3) rfl
  have f_p_3_w3 := x_p.frozen 3
  have c_p_4_w3 := x_p.cell (i := 4) rfl
  have f_p_4_w3 := x_p.frozen 4
  have c_r_0_w3 := x_r.cell (i := 0) rfl
  have f_r_0_w3 := x_r.frozen 0
  have c_r_1_w3 := x_r.cell (i := 1) rfl
  have f_r_1_w3 := x_r.frozen 1
  have c_r_2_w3 := x_r.cell (i := 2) rfl
  have f_r_2_w3 := x_r.frozen 2
  have c_r_3_w3 := x_r.cell (i := 3) rfl
  have f_r_3_w3 := x_r.frozen 3
  have c_r_4_w3 := x_r.cell (i := 4) rfl
  have f_r_4_w3 := x_r.frozen 4
  obtain ⟨A', c', he, hc1, hc2, hr⟩ := rv_slice rR
  simp only [Value.slice.injEq, true_and] at he
  obtain ⟨rfl, rfl⟩ := he
  have oN := ov_reps_lit w3
  obtain ⟨w4, e_w4, s_w4, h_w4, -⟩ := alloc_step w3 57 []
  have e1' : w3.alloc (.cells #[] 57) = w4 := e_w4
  rw [e1'] at oN
  clear e1'
  have s_w4_1 := Nat.le_of_eq s_w4
  have s_w4_2 := Nat.le_of_eq s_w4.symm
  clear s_w4
  have xp0 := x_p
  have xr0 := x_r
  have zo_m := o_m
  replace x_p := x_p.from_ h_w4
  replace x_r := x_r.from_ h_w4
  replace o_m := o_m.below h_w4
  have B_w4 := B_w3.trans (h_w4.mono B_w3.size)
  have c_p_0_w4 := x_p.cell (i := 0) rfl
  have f_p_0_w4 := x_p.frozen 0
  have c_p_1_w4 := x_p.cell (i := 1) rfl
  have f_p_1_w4 := x_p.frozen 1
  have c_p_2_w4 := x_p.cell (i := 2) rfl
  have f_p_2_w4 := x_p.frozen 2
  have c_p_3_w4 := x_p.cell (i := 3) rfl
  have f_p_3_w4 := x_p.frozen 3
  have c_p_4_w4 := x_p.cell (i := 4) rfl
  have f_p_4_w4 := x_p.frozen 4
  have c_r_0_w4 := x_r.cell (i := 0) rfl
  have f_r_0_w4 := x_r.frozen 0
  have c_r_1_w4 := x_r.cell (i := 1) rfl
  have f_r_1_w4 := x_r.frozen 1
  have c_r_2_w4 := x_r.cell (i := 2) rfl
  have f_r_2_w4 := x_r.frozen 2
  have c_r_3_w4 := x_r.cell (i := 3) rfl
  have f_r_3_w4 := x_r.frozen 3
  have c_r_4_w4 := x_r.cell (i := 4) rfl
  have f_r_4_w4 := x_r.frozen 4
  obtain ⟨zs, us, R, hul, hrd, hus, hend⟩ := OV.app_all own_rep_nil rep_own_of_rd oN (hr.below B_w4) (by omega)
  have h1c := rep_one hus
  clear hus
  go_wp2_with (at_builtin; refine wpl_appN _ rfl (.tmp 8) (.tmp 10) 25 rfl 0 2 57 j0 (.agg #[.int .i64 0, .int .i64 0]) 16 Try.underlying25 hj yz0 yz1 yz2 rfl (by decide) _ 0 zs rfl R _ _ _ a.Reps.length us rfl hul hrd h1c ?d3 (by decide) (Nat.zero_le _) ?_)
  case d3 => omega
  intro v1 w5 ho1 hg1 hat1
  obtain ⟨o_r, B1⟩ := hend v1 w5 (by simpa using ho1) hg1 hat1
  rw [List.nil_append] at o_r
  clear hend R hul hrd h1c ho1 hg1 hat1
  have h_w5 : Below w3.heap.size w3 w5 := h_w4.trans B1
  obtain ⟨Ar2, cr2, rfl, -, -, -⟩ := rv_slice o_r.rd
  clear c_p_0_w2 f_p_0_w2 c_p_1_w2 f_p_1_w2 c_p_2_w2 f_p_2_w2 c_p_3_w2 f_p_3_w2 c_p_4_w2 f_p_4_w2 c_r_0_w2 f_r_0_w2 c_r_1_w2 f_r_1_w2 c_r_2_w2 f_r_2_w2 c_r_3_w2 f_r_3_w2 c_r_4_w2 f_r_4_w2 c_p_0_w3 f_p_0_w3 c_p_1_w3 f_p_1_w3 c_p_2_w3 f_p_2_w3 c_p_3_w3 f_p_3_w3 c_p_4_w3 f_p_4_w3 c_r_0_w3 f_r_0_w3 c_r_1_w3 f_r_1_w3 c_r_2_w3 f_r_2_w3 c_r_3_w3 f_r_3_w3 c_r_4_w3 f_r_4_w3 c_p_0_w4 f_p_0_w4 c_p_1_w4 f_p_1_w4 c_p_2_w4 f_p_2_w4 c_p_3_w4 f_p_3_w4 c_p_4_w4 f_p_4_w4 c_r_0_w4 f_r_0_w4 c_r_1_w4 f_r_1_w4 c_r_2_w4 f_r_2_w4 c_r_3_w4 f_r_3_w4 c_r_4_w4 f_r_4_w4
  replace x_p := xp0.from_ h_w5
  replace x_r := xr0.from_ h_w5
  replace o_m := zo_m.below h_w5
  clear xp0 xr0 zo_m
  have B_w5 := B_w3.trans (h_w5.mono B_w3.size)
  have s_w5 := h_w5.size
  have c_p_0_w5 := x_p.cell (i := 0) rfl
  have f_p_0_w5 := x_p.frozen 0
  have c_p_1_w5 := x_p.cell (i := 1) rfl
  have f_p_1_w5 := x_p.frozen 1
  have c_p_2_w5 := x_p.cell (i := 2) rfl
  have f_p_2_w5 := x_p.frozen 2
  have c_p_3_w5 := x_p.cell (i := 3) rfl
  have f_p_3_w5 := x_p.frozen 3
  have c_p_4_w5 := x_p.cell (i := 4) rfl
  have f_p_4_w5 := x_p.frozen 4
  have c_r_0_w5 := x_r.cell (i := 0) rfl
  have f_r_0_w5 := x_r.frozen 0
  have c_r_1_w5 := x_r.cell (i := 1) rfl
  have f_r_1_w5 := x_r.frozen 1
  have c_r_2_w5 := x_r.cell (i := 2) rfl
  have f_r_2_w5 := x_r.frozen 2
  have c_r_3_w5 := x_r.cell (i := 3) rfl
  have f_r_3_w5 := x_r.frozen 3
  have c_r_4_w5 := x_r.cell (i := 4) rfl
  have f_r_4_w5 := x_r.frozen 4
  obtain ⟨w6, e_w6, s_w6, h_w6, y⟩ := set_step x_p 4 (.slice Ar2 a.Reps.length cr2)
  have s_w6_1 := Nat.le_of_eq s_w6
  have s_w6_2 := Nat.le_of_eq s_w6.symm
  clear s_w6
  replace x_r := x_r.chg h_w6 (by omega)
  replace o_m := o_m.chg h_w6 (by omega)
  replace o_r := o_r.chg h_w6 (by omega)
  have B_w6 := Below.chg_ B_w5 h_w6 (by omega) (by omega)
  replace x_p : Vr w6 (w.heap.size) 27 [.int .i64 a.Have, .int .i64 a.State, .int .i64 a.By, .slice Am2 a.Marks.length cm2, .slice Ar2 a.Reps.length cr2] := y
  clear y
  have c_p_0_w6 := x_p.cell (i := 0) rfl
  have f_p_0_w6 := x_p.frozen 0
  have c_p_1_w6 := x_p.cell (i := 1) rfl
  have f_p_1_w6 := x_p.frozen 1
  have c_p_2_w6 := x_p.cell (i := 2) rfl
  have f_p_2_w6 := x_p.frozen 2
  have c_p_3_w6 := x_p.cell (i := 3) rfl
  have f_p_3_w6 := x_p.frozen 3
  have c_p_4_w6 := x_p.cell (i := 4) rfl
  have f_p_4_w6 := x_p.frozen 4
  have c_r_0_w6 := x_r.cell (i := 0) rfl
  have f_r_0_w6 := x_r.frozen 0
  have c_r_1_w6 := x_r.cell (i := 1) rfl
  have f_r_1_w6 := x_r.frozen 1
  have c_r_2_w6 := x_r.cell (i := 2) rfl
  have f_r_2_w6 := x_r.frozen 2
  have c_r_3_w6 := x_r.cell (i := 3) rfl
  have f_r_3_w6 := x_r.frozen 3
  have c_r_4_w6 := x_r.cell (i := 4) rfl
  have f_r_4_w6 := x_r.frozen 4
  obtain ⟨w7, e_w7, s_w7, h_w7, y⟩ := store_step x_r [.int .i64 a.Have, .int .i64 a.State, .int .i64 a.By, .slice Am2 a.Marks.length cm2, .slice Ar2 a.Reps.length cr2] rfl
  replace e_w7 : (((((w6.setCell ⟨w.heap.size + 1, 0, none⟩ (.int .i64 a.Have)).setCell ⟨w.heap.size + 1, 1, none⟩ (.int .i64 a.State)).setCell ⟨w.heap.size + 1, 2, none⟩ (.int .i64 a.By)).setCell ⟨w.heap.size + 1, 3, none⟩ (.slice Am2 a.Marks.length cm2)).setCell ⟨w.heap.size + 1, 4, none⟩ (.slice Ar2 a.Reps.length cr2)) = w7 := e_w7
  have s_w7_1 := Nat.le_of_eq s_w7
  have s_w7_2 := Nat.le_of_eq s_w7.symm
  clear s_w7
  replace x_p := x_p.chg h_w7 (by omega)
  replace o_m := o_m.chg h_w7 (by omega)
  replace o_r := o_r.chg h_w7 (by omega)
  have B_w7 := Below.chg_ B_w6 h_w7 (by omega) (by omega)
  replace x_r : Vr w7 (w.heap.size + 1) 27 [.int .i64 a.Have, .int .i64 a.State, .int .i64 a.By, .slice Am2 a.Marks.length cm2, .slice Ar2 a.Reps.length cr2] := y
  clear y
  have c_r_0_w7 := x_r.cell (i := 0) rfl
  have f_r_0_w7 := x_r.frozen 0
  have c_r_1_w7 := x_r.cell (i := 1) rfl
  have f_r_1_w7 := x_r.frozen 1
  have c_r_2_w7 := x_r.cell (i := 2) rfl
  have f_r_2_w7 := x_r.frozen 2
  have c_r_3_w7 := x_r.cell (i := 3) rfl
  have f_r_3_w7 := x_r.frozen 3
  have c_r_4_w7 := x_r.cell (i := 4) rfl
  have f_r_4_w7 := x_r.frozen 4
  go_wp2
  refine ret_cell (by rfl) (by rfl) x_r Try.underlying27 sz_acct (by rfl) ?_
  exact ⟨_, rfl, ov_acct (d := a) o_m o_r (by omega), B_w7⟩

set_option maxRecDepth 100000 in
set_option maxHeartbeats 4000000 in
theorem sAcctAdd_c {w : World} {v : Value} {a : MAcct} {x : Int} (h : RV acctL w v a) (hm : a.bulk ≤ 16777216)  : Calls Try.prog 28 #[v, .int .i64 x] w (NewVB acctL w (acctAdd a x) (acctAddB a x)) := by
  have h0 := h
  obtain ⟨AM, cM, AR, cR, rfl, rM, rR⟩ := rv_acct h
  clear h
  obtain ⟨wa, hwa, B0, sa, x_a, x_r⟩ := frame2 w 27 [.int .i64 a.Have, .int .i64 a.State, .int .i64 a.By, .slice AM a.Marks.length cM, .slice AR a.Reps.length cR] 27 [.int .i64 0, .int .i64 0, .int .i64 0, .slice none 0 0, .slice none 0 0]
  have sa_1 := Nat.le_of_eq sa
  have sa_2 := Nat.le_of_eq sa.symm
  clear sa
  have c_a_0_wa := x_a.cell (i := 0) rfl
  have f_a_0_wa := x_a.frozen 0
  have c_a_1_wa := x_a.cell (i := 1) rfl
  have f_a_1_wa := x_a.frozen 1
  have c_a_2_wa := x_a.cell (i := 2) rfl
  have f_a_2_wa := x_a.frozen 2
  have c_a_3_wa := x_a.cell (i := 3) rfl
  have f_a_3_wa := x_a.frozen 3
  have c_a_4_wa := x_a.cell (i := 4) rfl
  have f_a_4_wa := x_a.frozen 4
  have c_r_0_wa := x_r.cell (i := 0) rfl
  have f_r_0_wa := x_r.frozen 0
  have c_r_1_wa := x_r.cell (i := 1) rfl
  have f_r_1_wa := x_r.frozen 1
  have c_r_2_wa := x_r.cell (i := 2) rfl
  have f_r_2_wa := x_r.frozen 2
  have c_r_3_wa := x_r.cell (i := 3) rfl
  have f_r_3_wa := x_r.frozen 3
  have c_r_4_wa := x_r.cell (i := 4) rfl
  have f_r_4_wa := x_r.frozen 4
  by_cases hA : amtB x = true
  case neg =>
    replace hA : amtB x = false := by simpa using hA
    have HA := Lib.hid hA
    have HB9 : Hid (acctAddB a x = false) := by show _ = _; unfold acctAddB; rw [hA]; simp
    have HM : Hid (acctAdd a x = acctZ) := if_neg (by rw [HB9.out]; decide)
    clear hA
    go_enter Try.func28, Try.ntmps28
    go_wp2_with fail
    refine (sAmt_any _ _).mono ?_
    rintro e w' ⟨rfl, rfl⟩
    rw [HA.out]
    have i_r_0 := x_r.same (i := 0) rfl
    have i_r_1 := x_r.same (i := 1) rfl
    have i_r_2 := x_r.same (i := 2) rfl
    have i_r_3 := x_r.same (i := 3) rfl
    have i_r_4 := x_r.same (i := 4) rfl
    go_wp2
    refine ret_cell_tmp (by rfl) (by rfl) x_r Try.underlying27 sz_acct (by rfl) ?_
    rw [HM.out, HB9.out]
    exact ⟨_, rfl, ov_acctZ B0.size, B0⟩
  have HA := Lib.hid hA
  have bx : 1 ≤ x ∧ x ≤ 1000000000 := by unfold amtB at hA; exact inB_true.1 hA
  by_cases hR : inB a.Have 0 (1125899906842624 - x) = true
  case neg =>
    replace hR : inB a.Have 0 (1125899906842624 - x) = false := by simpa using hR
    have HR := Lib.hid hR
    have HB9 : Hid (acctAddB a x = false) := by show _ = _; unfold acctAddB; rw [hR]; simp
    have HM : Hid (acctAdd a x = acctZ) := if_neg (by rw [HB9.out]; decide)
    have tm : IntKind.i64.wrap (1125899906842624 - x) = 1125899906842624 - x := IntWalk.i64_in _ (by omega)
    clear hA hR
    go_enter Try.func28, Try.ntmps28
    go_wp2_with fail
    refine (sAmt_any _ _).mono ?_
    rintro e w' ⟨rfl, rfl⟩
    rw [HA.out]
    go_wp2_with fail
    refine (sIn_any _ _ _ _).mono ?_
    rintro e w' ⟨rfl, rfl⟩
    rw [HR.out]
    have i_r_0 := x_r.same (i := 0) rfl
    have i_r_1 := x_r.same (i := 1) rfl
    have i_r_2 := x_r.same (i := 2) rfl
    have i_r_3 := x_r.same (i := 3) rfl
    have i_r_4 := x_r.same (i := 4) rfl
    go_wp2
    refine ret_cell_tmp (by rfl) (by rfl) x_r Try.underlying27 sz_acct (by rfl) ?_
    rw [HM.out, HB9.out]
    exact ⟨_, rfl, ov_acctZ B0.size, B0⟩
  have HR := Lib.hid hR
  have br := inB_true.1 hR
  have tm : IntKind.i64.wrap (1125899906842624 - x) = 1125899906842624 - x := IntWalk.i64_in _ (by omega)
  have tp : IntKind.i64.wrap (a.Have + x) = a.Have + x := IntWalk.i64_in _ (by omega)
  have HB9 : Hid (acctAddB a x = true) := by show _ = _; unfold acctAddB; rw [hA, hR]; rfl
  have HM : Hid (acctAdd a x = ⟨a.Have + x, a.State, a.By, a.Marks, a.Reps⟩) := if_pos HB9.out
  clear hA hR
  go_enter Try.func28, Try.ntmps28
  go_wp2_with fail
  refine (sAmt_any _ _).mono ?_
  rintro e w' ⟨rfl, rfl⟩
  rw [HA.out]
  go_wp2_with fail
  refine (sIn_any _ _ _ _).mono ?_
  rintro e w' ⟨rfl, rfl⟩
  rw [HR.out]
  go_wp2_with fail
  refine (sACopy_c (h0.from_ B0) hm).mono ?_
  rintro e w1 ⟨u_, rfl, ou, h_w1⟩
  clear c_a_0_wa f_a_0_wa c_a_1_wa f_a_1_wa c_a_2_wa f_a_2_wa c_a_3_wa f_a_3_wa c_a_4_wa f_a_4_wa c_r_0_wa f_r_0_wa c_r_1_wa f_r_1_wa c_r_2_wa f_r_2_wa c_r_3_wa f_r_3_wa c_r_4_wa f_r_4_wa
  replace x_a := x_a.from_ h_w1
  replace x_r := x_r.from_ h_w1
  have B_w1 := B0.trans (h_w1.mono B0.size)
  have s_w1 := h_w1.size
  obtain ⟨A1, c1, A2, c2, rfl, oM, oR⟩ := ov_acct_parts ou
  clear oM oR
  have c_a_0_w1 := x_a.cell (i := 0) rfl
  have f_a_0_w1 := x_a.frozen 0
  have c_a_1_w1 := x_a.cell (i := 1) rfl
  have f_a_1_w1 := x_a.frozen 1
  have c_a_2_w1 := x_a.cell (i := 2) rfl
  have f_a_2_w1 := x_a.frozen 2
  have c_a_3_w1 := x_a.cell (i := 3) rfl
  have f_a_3_w1 := x_a.frozen 3
  have c_a_4_w1 := x_a.cell (i := 4) rfl
  have f_a_4_w1 := x_a.frozen 4
  have c_r_0_w1 := x_r.cell (i := 0) rfl
  have f_r_0_w1 := x_r.frozen 0
  have c_r_1_w1 := x_r.cell (i := 1) rfl
  have f_r_1_w1 := x_r.frozen 1
  have c_r_2_w1 := x_r.cell (i := 2) rfl
  have f_r_2_w1 := x_r.frozen 2
  have c_r_3_w1 := x_r.cell (i := 3) rfl
  have f_r_3_w1 := x_r.frozen 3
  have c_r_4_w1 := x_r.cell (i := 4) rfl
  have f_r_4_w1 := x_r.frozen 4
  obtain ⟨w2, e_w2, s_w2, h_w2, x_o⟩ := alloc_step w1 27 [.int .i64 a.Have, .int .i64 a.State, .int .i64 a.By, .slice A1 a.Marks.length c1, .slice A2 a.Reps.length c2]
  have s_w2_1 := Nat.le_of_eq s_w2
  have s_w2_2 := Nat.le_of_eq s_w2.symm
  clear s_w2
  replace x_a := x_a.from_ h_w2
  replace x_r := x_r.from_ h_w2
  replace ou := ou.below h_w2
  have B_w2 := B_w1.trans (h_w2.mono B_w1.size)
  have c_a_0_w2 := x_a.cell (i := 0) rfl
  have f_a_0_w2 := x_a.frozen 0
  have c_a_1_w2 := x_a.cell (i := 1) rfl
  have f_a_1_w2 := x_a.frozen 1
  have c_a_2_w2 := x_a.cell (i := 2) rfl
  have f_a_2_w2 := x_a.frozen 2
  have c_a_3_w2 := x_a.cell (i := 3) rfl
  have f_a_3_w2 := x_a.frozen 3
  have c_a_4_w2 := x_a.cell (i := 4) rfl
  have f_a_4_w2 := x_a.frozen 4
  have c_r_0_w2 := x_r.cell (i := 0) rfl
  have f_r_0_w2 := x_r.frozen 0
  have c_r_1_w2 := x_r.cell (i := 1) rfl
  have f_r_1_w2 := x_r.frozen 1
  have c_r_2_w2 := x_r.cell (i := 2) rfl
  have f_r_2_w2 := x_r.frozen 2
  have c_r_3_w2 := x_r.cell (i := 3) rfl
  have f_r_3_w2 := x_r.frozen 3
  have c_r_4_w2 := x_r.cell (i := 4) rfl
  have f_r_4_w2 := x_r.frozen 4
  have c_o_0_w2 := x_o.cell (i := 0) rfl
  have f_o_0_w2 := x_o.frozen 0
  have c_o_1_w2 := x_o.cell (i := 1) rfl
  have f_o_1_w2 := x_o.frozen 1
  have c_o_2_w2 := x_o.cell (i := 2) rfl
  have f_o_2_w2 := x_o.frozen 2
  have c_o_3_w2 := x_o.cell (i := 3) rfl
  have f_o_3_w2 := x_o.frozen 3
  have c_o_4_w2 := x_o.cell (i := 4) rfl
  have f_o_4_w2 := x_o.frozen 4
  obtain ⟨w3, e_w3, s_w3, h_w3, y⟩ := set_step x_o 0 (.int .i64 (a.Have + x))
  have s_w3_1 := Nat.le_of_eq s_w3
  have s_w3_2 := Nat.le_of_eq s_w3.symm
  clear s_w3
  replace x_a := x_a.chg h_w3 (by omega)
  replace x_r := x_r.chg h_w3 (by omega)
  replace ou := ou.chg h_w3 (by omega)
  have B_w3 := Below.chg_ B_w2 h_w3 (by omega) (by omega)
  replace x_o : Vr w3 (w1.heap.size) 27 [.int .i64 (a.Have + x), .int .i64 a.State, .int .i64 a.By, .slice A1 a.Marks.length c1, .slice A2 a.Reps.length c2] := y
  clear y
  have c_a_0_w3 := x_a.cell (i := 0) rfl
  have f_a_0_w3 := x_a.frozen 0
  have c_a_1_w3 := x_a.cell (i := 1) rfl
  have f_a_1_w3 := x_a.frozen 1
  have c_a_2_w3 := x_a.cell (i := 2) rfl
  have f_a_2_w3 := x_a.frozen 2
  have c_a_3_w3 := x_a.cell (i := 3) rfl
  have f_a_3_w3 := x_a.frozen 3
  have c_a_4_w3 := x_a.cell (i := 4) rfl
  have f_a_4_w3 := x_a.frozen 4
  have c_r_0_w3 := x_r.cell (i := 0) rfl
  have f_r_0_w3 := x_r.frozen 0
  have c_r_1_w3 := x_r.cell (i := 1) rfl
  have f_r_1_w3 := x_r.frozen 1
  have c_r_2_w3 := x_r.cell (i := 2) rfl
  have f_r_2_w3 := x_r.frozen 2
  have c_r_3_w3 := x_r.cell (i := 3) rfl
  have f_r_3_w3 := x_r.frozen 3
  have c_r_4_w3 := x_r.cell (i := 4) rfl
  have f_r_4_w3 := x_r.frozen 4
  have c_o_0_w3 := x_o.cell (i := 0) rfl
  have f_o_0_w3 := x_o.frozen 0
  have c_o_1_w3 := x_o.cell (i := 1) rfl
  have f_o_1_w3 := x_o.frozen 1
  have c_o_2_w3 := x_o.cell (i := 2) rfl
  have f_o_2_w3 := x_o.frozen 2
  have c_o_3_w3 := x_o.cell (i := 3) rfl
  have f_o_3_w3 := x_o.frozen 3
  have c_o_4_w3 := x_o.cell (i := 4) rfl
  have f_o_4_w3 := x_o.frozen 4
  obtain ⟨w4, e_w4, s_w4, h_w4, y⟩ := store_step x_r [.int .i64 (a.Have + x), .int .i64 a.State, .int .i64 a.By, .slice A1 a.Marks.length c1, .slice A2 a.Reps.length c2] rfl
  replace e_w4 : (((((w3.setCell ⟨w.heap.size + 1, 0, none⟩ (.int .i64 (a.Have + x))).setCell ⟨w.heap.size + 1, 1, none⟩ (.int .i64 a.State)).setCell ⟨w.heap.size + 1, 2, none⟩ (.int .i64 a.By)).setCell ⟨w.heap.size + 1, 3, none⟩ (.slice A1 a.Marks.length c1)).setCell ⟨w.heap.size + 1, 4, none⟩ (.slice A2 a.Reps.length c2)) = w4 := e_w4
  have s_w4_1 := Nat.le_of_eq s_w4
  have s_w4_2 := Nat.le_of_eq s_w4.symm
  clear s_w4
  replace x_a := x_a.chg h_w4 (by omega)
  replace x_o := x_o.chg h_w4 (by omega)
  replace ou := ou.chg h_w4 (by omega)
  have B_w4 := Below.chg_ B_w3 h_w4 (by omega) (by omega)
  replace x_r : Vr w4 (w.heap.size + 1) 27 [.int .i64 (a.Have + x), .int .i64 a.State, .int .i64 a.By, .slice A1 a.Marks.length c1, .slice A2 a.Reps.length c2] := y
  clear y
  have c_r_0_w4 := x_r.cell (i := 0) rfl
  have f_r_0_w4 := x_r.frozen 0
  have c_r_1_w4 := x_r.cell (i := 1) rfl
  have f_r_1_w4 := x_r.frozen 1
  have c_r_2_w4 := x_r.cell (i := 2) rfl
  have f_r_2_w4 := x_r.frozen 2
  have c_r_3_w4 := x_r.cell (i := 3) rfl
  have f_r_3_w4 := x_r.frozen 3
  have c_r_4_w4 := x_r.cell (i := 4) rfl
  have f_r_4_w4 := x_r.frozen 4
  go_wp2
  refine ret_cell_tmp (by rfl) (by rfl) x_r Try.underlying27 sz_acct (by rfl) ?_
  rw [HM.out, HB9.out]
  exact ⟨_, rfl, (ov_acct_scal ou).widen (by omega) (by omega) (Nat.le_refl _), B_w4⟩

set_option maxRecDepth 100000 in
set_option maxHeartbeats 4000000 in
theorem sAcctTake_c {w : World} {v : Value} {a : MAcct} {x : Int} (h : RV acctL w v a) (hm : a.bulk ≤ 16777216) (hw : a.Have ≤ 9223372036854775807) : Calls Try.prog 31 #[v, .int .i64 x] w (NewVB acctL w (acctTake a x) (acctTakeB a x)) := by
  have h0 := h
  obtain ⟨AM, cM, AR, cR, rfl, rM, rR⟩ := rv_acct h
  clear h
  obtain ⟨wa, hwa, B0, sa, x_a, x_r⟩ := frame2 w 27 [.int .i64 a.Have, .int .i64 a.State, .int .i64 a.By, .slice AM a.Marks.length cM, .slice AR a.Reps.length cR] 27 [.int .i64 0, .int .i64 0, .int .i64 0, .slice none 0 0, .slice none 0 0]
  have sa_1 := Nat.le_of_eq sa
  have sa_2 := Nat.le_of_eq sa.symm
  clear sa
  have c_a_0_wa := x_a.cell (i := 0) rfl
  have f_a_0_wa := x_a.frozen 0
  have c_a_1_wa := x_a.cell (i := 1) rfl
  have f_a_1_wa := x_a.frozen 1
  have c_a_2_wa := x_a.cell (i := 2) rfl
  have f_a_2_wa := x_a.frozen 2
  have c_a_3_wa := x_a.cell (i := 3) rfl
  have f_a_3_wa := x_a.frozen 3
  have c_a_4_wa := x_a.cell (i := 4) rfl
  have f_a_4_wa := x_a.frozen 4
  have c_r_0_wa := x_r.cell (i := 0) rfl
  have f_r_0_wa := x_r.frozen 0
  have c_r_1_wa := x_r.cell (i := 1) rfl
  have f_r_1_wa := x_r.frozen 1
  have c_r_2_wa := x_r.cell (i := 2) rfl
  have f_r_2_wa := x_r.frozen 2
  have c_r_3_wa := x_r.cell (i := 3) rfl
  have f_r_3_wa := x_r.frozen 3
  have c_r_4_wa := x_r.cell (i := 4) rfl
  have f_r_4_wa := x_r.frozen 4
  by_cases hA : amtB x = true
  case neg =>
    replace hA : amtB x = false := by simpa using hA
    have HA := Lib.hid hA
    have HB9 : Hid (acctTakeB a x = false) := by show _ = _; unfold acctTakeB; rw [hA]; simp
    have HM : Hid (acctTake a x = acctZ) := if_neg (by rw [HB9.out]; decide)
    clear hA
    go_enter Try.func31, Try.ntmps31
    go_wp2_with fail
    refine (sAmt_any _ _).mono ?_
    rintro e w' ⟨rfl, rfl⟩
    rw [HA.out]
    have i_r_0 := x_r.same (i := 0) rfl
    have i_r_1 := x_r.same (i := 1) rfl
    have i_r_2 := x_r.same (i := 2) rfl
    have i_r_3 := x_r.same (i := 3) rfl
    have i_r_4 := x_r.same (i := 4) rfl
    go_wp2
    refine ret_cell_tmp (by rfl) (by rfl) x_r Try.underlying27 sz_acct (by rfl) ?_
    rw [HM.out, HB9.out]
    exact ⟨_, rfl, ov_acctZ B0.size, B0⟩
  have HA := Lib.hid hA
  have bx : 1 ≤ x ∧ x ≤ 1000000000 := by unfold amtB at hA; exact inB_true.1 hA
  by_cases hT : decide (x ≤ a.Have) = true
  case neg =>
    replace hT : decide (x ≤ a.Have) = false := by simpa using hT
    have HT := Lib.hid hT
    have HB9 : Hid (acctTakeB a x = false) := by show _ = _; unfold acctTakeB; rw [hT]; simp
    have HM : Hid (acctTake a x = acctZ) := if_neg (by rw [HB9.out]; decide)
    have g1 : decide (a.Have < x) = true := decide_eq_true (by have := of_decide_eq_false hT; omega)
    clear hA hT
    go_enter Try.func31, Try.ntmps31
    go_wp2_with fail
    refine (sAmt_any _ _).mono ?_
    rintro e w' ⟨rfl, rfl⟩
    rw [HA.out]
    have i_r_0 := x_r.same (i := 0) rfl
    have i_r_1 := x_r.same (i := 1) rfl
    have i_r_2 := x_r.same (i := 2) rfl
    have i_r_3 := x_r.same (i := 3) rfl
    have i_r_4 := x_r.same (i := 4) rfl
    go_wp2
    refine ret_cell_tmp (by rfl) (by rfl) x_r Try.underlying27 sz_acct (by rfl) ?_
    rw [HM.out, HB9.out]
    exact ⟨_, rfl, ov_acctZ B0.size, B0⟩
  have HT := Lib.hid hT
  have br := of_decide_eq_true hT
  have g1 : decide (a.Have < x) = false := decide_eq_false (by omega)
  have tp : IntKind.i64.wrap (a.Have - x) = a.Have - x := IntWalk.i64_in _ (by omega)
  have HB9 : Hid (acctTakeB a x = true) := by show _ = _; unfold acctTakeB; rw [hA, hT]; rfl
  have HM : Hid (acctTake a x = ⟨a.Have - x, a.State, a.By, a.Marks, a.Reps⟩) := if_pos HB9.out
  clear hA hT
  go_enter Try.func31, Try.ntmps31
  go_wp2_with fail
  refine (sAmt_any _ _).mono ?_
  rintro e w' ⟨rfl, rfl⟩
  rw [HA.out]
  go_wp2_with fail
  refine (sACopy_c (h0.from_ B0) hm).mono ?_
  rintro e w1 ⟨u_, rfl, ou, h_w1⟩
  clear c_a_0_wa f_a_0_wa c_a_1_wa f_a_1_wa c_a_2_wa f_a_2_wa c_a_3_wa f_a_3_wa c_a_4_wa f_a_4_wa c_r_0_wa f_r_0_wa c_r_1_wa f_r_1_wa c_r_2_wa f_r_2_wa c_r_3_wa f_r_3_wa c_r_4_wa f_r_4_wa
  replace x_a := x_a.from_ h_w1
  replace x_r := x_r.from_ h_w1
  have B_w1 := B0.trans (h_w1.mono B0.size)
  have s_w1 := h_w1.size
  obtain ⟨A1, c1, A2, c2, rfl, oM, oR⟩ := ov_acct_parts ou
  clear oM oR
  have c_a_0_w1 := x_a.cell (i := 0) rfl
  have f_a_0_w1 := x_a.frozen 0
  have c_a_1_w1 := x_a.cell (i := 1) rfl
  have f_a_1_w1 := x_a.frozen 1
  have c_a_2_w1 := x_a.cell (i := 2) rfl
  have f_a_2_w1 := x_a.frozen 2
  have c_a_3_w1 := x_a.cell (i := 3) rfl
  have f_a_3_w1 := x_a.frozen 3
  have c_a_4_w1 := x_a.cell (i := 4) rfl
  have f_a_4_w1 := x_a.frozen 4
  have c_r_0_w1 := x_r.cell (i := 0) rfl
  have f_r_0_w1 := x_r.frozen 0
  have c_r_1_w1 := x_r.cell (i := 1) rfl
  have f_r_1_w1 := x_r.frozen 1
  have c_r_2_w1 := x_r.cell (i := 2) rfl
  have f_r_2_w1 := x_r.frozen 2
  have c_r_3_w1 := x_r.cell (i := 3) rfl
  have f_r_3_w1 := x_r.frozen 3
  have c_r_4_w1 := x_r.cell (i := 4) rfl
  have f_r_4_w1 := x_r.frozen 4
  obtain ⟨w2, e_w2, s_w2, h_w2, x_o⟩ := alloc_step w1 27 [.int .i64 a.Have, .int .i64 a.State, .int .i64 a.By, .slice A1 a.Marks.length c1, .slice A2 a.Reps.length c2]
  have s_w2_1 := Nat.le_of_eq s_w2
  have s_w2_2 := Nat.le_of_eq s_w2.symm
  clear s_w2
  replace x_a := x_a.from_ h_w2
  replace x_r := x_r.from_ h_w2
  replace ou := ou.below h_w2
  have B_w2 := B_w1.trans (h_w2.mono B_w1.size)
  have c_a_0_w2 := x_a.cell (i := 0) rfl
  have f_a_0_w2 := x_a.frozen 0
  have c_a_1_w2 := x_a.cell (i := 1) rfl
  have f_a_1_w2 := x_a.frozen 1
  have c_a_2_w2 := x_a.cell (i := 2) rfl
  have f_a_2_w2 := x_a.frozen 2
  have c_a_3_w2 := x_a.cell (i := 3) rfl
  have f_a_3_w2 := x_a.frozen 3
  have c_a_4_w2 := x_a.cell (i := 4) rfl
  have f_a_4_w2 := x_a.frozen 4
  have c_r_0_w2 := x_r.cell (i := 0) rfl
  have f_r_0_w2 := x_r.frozen 0
  have c_r_1_w2 := x_r.cell (i := 1) rfl
  have f_r_1_w2 := x_r.frozen 1
  have c_r_2_w2 := x_r.cell (i := 2) rfl
  have f_r_2_w2 := x_r.frozen 2
  have c_r_3_w2 := x_r.cell (i := 3) rfl
  have f_r_3_w2 := x_r.frozen 3
  have c_r_4_w2 := x_r.cell (i := 4) rfl
  have f_r_4_w2 := x_r.frozen 4
  have c_o_0_w2 := x_o.cell (i := 0) rfl
  have f_o_0_w2 := x_o.frozen 0
  have c_o_1_w2 := x_o.cell (i := 1) rfl
  have f_o_1_w2 := x_o.frozen 1
  have c_o_2_w2 := x_o.cell (i := 2) rfl
  have f_o_2_w2 := x_o.frozen 2
  have c_o_3_w2 := x_o.cell (i := 3) rfl
  have f_o_3_w2 := x_o.frozen 3
  have c_o_4_w2 := x_o.cell (i := 4) rfl
  have f_o_4_w2 := x_o.frozen 4
  obtain ⟨w3, e_w3, s_w3, h_w3, y⟩ := set_step x_o 0 (.int .i64 (a.Have - x))
  have s_w3_1 := Nat.le_of_eq s_w3
  have s_w3_2 := Nat.le_of_eq s_w3.symm
  clear s_w3
  replace x_a := x_a.chg h_w3 (by omega)
  replace x_r := x_r.chg h_w3 (by omega)
  replace ou := ou.chg h_w3 (by omega)
  have B_w3 := Below.chg_ B_w2 h_w3 (by omega) (by omega)
  replace x_o : Vr w3 (w1.heap.size) 27 [.int .i64 (a.Have - x), .int .i64 a.State, .int .i64 a.By, .slice A1 a.Marks.length c1, .slice A2 a.Reps.length c2] := y
  clear y
  have c_a_0_w3 := x_a.cell (i := 0) rfl
  have f_a_0_w3 := x_a.frozen 0
  have c_a_1_w3 := x_a.cell (i := 1) rfl
  have f_a_1_w3 := x_a.frozen 1
  have c_a_2_w3 := x_a.cell (i := 2) rfl
  have f_a_2_w3 := x_a.frozen 2
  have c_a_3_w3 := x_a.cell (i := 3) rfl
  have f_a_3_w3 := x_a.frozen 3
  have c_a_4_w3 := x_a.cell (i := 4) rfl
  have f_a_4_w3 := x_a.frozen 4
  have c_r_0_w3 := x_r.cell (i := 0) rfl
  have f_r_0_w3 := x_r.frozen 0
  have c_r_1_w3 := x_r.cell (i := 1) rfl
  have f_r_1_w3 := x_r.frozen 1
  have c_r_2_w3 := x_r.cell (i := 2) rfl
  have f_r_2_w3 := x_r.frozen 2
  have c_r_3_w3 := x_r.cell (i := 3) rfl
  have f_r_3_w3 := x_r.frozen 3
  have c_r_4_w3 := x_r.cell (i := 4) rfl
  have f_r_4_w3 := x_r.frozen 4
  have c_o_0_w3 := x_o.cell (i := 0) rfl
  have f_o_0_w3 := x_o.frozen 0
  have c_o_1_w3 := x_o.cell (i := 1) rfl
  have f_o_1_w3 := x_o.frozen 1
  have c_o_2_w3 := x_o.cell (i := 2) rfl
  have f_o_2_w3 := x_o.frozen 2
  have c_o_3_w3 := x_o.cell (i := 3) rfl
  have f_o_3_w3 := x_o.frozen 3
  have c_o_4_w3 := x_o.cell (i := 4) rfl
  have f_o_4_w3 := x_o.frozen 4
  obtain ⟨w4, e_w4, s_w4, h_w4, y⟩ := store_step x_r [.int .i64 (a.Have - x), .int .i64 a.State, .int .i64 a.By, .slice A1 a.Marks.length c1, .slice A2 a.Reps.length c2] rfl
  replace e_w4 : (((((w3.setCell ⟨w.heap.size + 1, 0, none⟩ (.int .i64 (a.Have - x))).setCell ⟨w.heap.size + 1, 1, none⟩ (.int .i64 a.State)).setCell ⟨w.heap.size + 1, 2, none⟩ (.int .i64 a.By)).setCell ⟨w.heap.size + 1, 3, none⟩ (.slice A1 a.Marks.length c1)).setCell ⟨w.heap.size + 1, 4, none⟩ (.slice A2 a.Reps.length c2)) = w4 := e_w4
  have s_w4_1 := Nat.le_of_eq s_w4
  have s_w4_2 := Nat.le_of_eq s_w4.symm
  clear s_w4
  replace x_a := x_a.chg h_w4 (by omega)
  replace x_o := x_o.chg h_w4 (by omega)
  replace ou := ou.chg h_w4 (by omega)
  have B_w4 := Below.chg_ B_w3 h_w4 (by omega) (by omega)
  replace x_r : Vr w4 (w.heap.size + 1) 27 [.int .i64 (a.Have - x), .int .i64 a.State, .int .i64 a.By, .slice A1 a.Marks.length c1, .slice A2 a.Reps.length c2] := y
  clear y
  have c_r_0_w4 := x_r.cell (i := 0) rfl
  have f_r_0_w4 := x_r.frozen 0
  have c_r_1_w4 := x_r.cell (i := 1) rfl
  have f_r_1_w4 := x_r.frozen 1
  have c_r_2_w4 := x_r.cell (i := 2) rfl
  have f_r_2_w4 := x_r.frozen 2
  have c_r_3_w4 := x_r.cell (i := 3) rfl
  have f_r_3_w4 := x_r.frozen 3
  have c_r_4_w4 := x_r.cell (i := 4) rfl
  have f_r_4_w4 := x_r.frozen 4
  go_wp2
  refine ret_cell_tmp (by rfl) (by rfl) x_r Try.underlying27 sz_acct (by rfl) ?_
  rw [HM.out, HB9.out]
  exact ⟨_, rfl, (ov_acct_scal ou).widen (by omega) (by omega) (Nat.le_refl _), B_w4⟩

set_option maxRecDepth 100000 in
set_option maxHeartbeats 4000000 in
theorem sAcctShut_c {w : World} {v : Value} {a : MAcct} {x : Int} (h : RV acctL w v a) (hm : a.bulk ≤ 16777216)  : Calls Try.prog 32 #[v, .int .i64 x] w (NewVB acctL w (acctShut a x) (acctShutB a x)) := by
  have h0 := h
  obtain ⟨AM, cM, AR, cR, rfl, rM, rR⟩ := rv_acct h
  clear h
  obtain ⟨wa, hwa, B0, sa, x_a, x_r⟩ := frame2 w 27 [.int .i64 a.Have, .int .i64 a.State, .int .i64 a.By, .slice AM a.Marks.length cM, .slice AR a.Reps.length cR] 27 [.int .i64 0, .int .i64 0, .int .i64 0, .slice none 0 0, .slice none 0 0]
  have sa_1 := Nat.le_of_eq sa
  have sa_2 := Nat.le_of_eq sa.symm
  clear sa
  have c_a_0_wa := x_a.cell (i := 0) rfl
  have f_a_0_wa := x_a.frozen 0
  have c_a_1_wa := x_a.cell (i := 1) rfl
  have f_a_1_wa := x_a.frozen 1
  have c_a_2_wa := x_a.cell (i := 2) rfl
  have f_a_2_wa := x_a.frozen 2
  have c_a_3_wa := x_a.cell (i := 3) rfl
  have f_a_3_wa := x_a.frozen 3
  have c_a_4_wa := x_a.cell (i := 4) rfl
  have f_a_4_wa := x_a.frozen 4
  have c_r_0_wa := x_r.cell (i := 0) rfl
  have f_r_0_wa := x_r.frozen 0
  have c_r_1_wa := x_r.cell (i := 1) rfl
  have f_r_1_wa := x_r.frozen 1
  have c_r_2_wa := x_r.cell (i := 2) rfl
  have f_r_2_wa := x_r.frozen 2
  have c_r_3_wa := x_r.cell (i := 3) rfl
  have f_r_3_wa := x_r.frozen 3
  have c_r_4_wa := x_r.cell (i := 4) rfl
  have f_r_4_wa := x_r.frozen 4
  by_cases hS : decide (a.State = 0) = true
  case neg =>
    replace hS : decide (a.State = 0) = false := by simpa using hS
    have HS := Lib.hid hS
    have HB9 : Hid (acctShutB a x = false) := by show _ = _; unfold acctShutB; rw [hS]; simp
    have HM : Hid (acctShut a x = acctZ) := if_neg (by rw [HB9.out]; decide)
    have g1 : (a.State != 0) = true := by have := of_decide_eq_false hS; simpa using this
    clear hS
    go_enter Try.func32, Try.ntmps32
    have i_r_0 := x_r.same (i := 0) rfl
    have i_r_1 := x_r.same (i := 1) rfl
    have i_r_2 := x_r.same (i := 2) rfl
    have i_r_3 := x_r.same (i := 3) rfl
    have i_r_4 := x_r.same (i := 4) rfl
    go_wp2
    refine ret_cell_tmp (by rfl) (by rfl) x_r Try.underlying27 sz_acct (by rfl) ?_
    rw [HM.out, HB9.out]
    exact ⟨_, rfl, ov_acctZ B0.size, B0⟩
  have HS := Lib.hid hS
  have g1 : (a.State != 0) = false := by have := of_decide_eq_true hS; simpa using this
  by_cases hN : inB x 0 3 = true
  case neg =>
    replace hN : inB x 0 3 = false := by simpa using hN
    have HN := Lib.hid hN
    have HB9 : Hid (acctShutB a x = false) := by show _ = _; unfold acctShutB; rw [hN]; simp
    have HM : Hid (acctShut a x = acctZ) := if_neg (by rw [HB9.out]; decide)
    clear hS hN
    go_enter Try.func32, Try.ntmps32
    go_wp2_with fail
    refine (sNode_any _ _).mono ?_
    rintro e w' ⟨rfl, rfl⟩
    rw [HN.out]
    have i_r_0 := x_r.same (i := 0) rfl
    have i_r_1 := x_r.same (i := 1) rfl
    have i_r_2 := x_r.same (i := 2) rfl
    have i_r_3 := x_r.same (i := 3) rfl
    have i_r_4 := x_r.same (i := 4) rfl
    go_wp2
    refine ret_cell_tmp (by rfl) (by rfl) x_r Try.underlying27 sz_acct (by rfl) ?_
    rw [HM.out, HB9.out]
    exact ⟨_, rfl, ov_acctZ B0.size, B0⟩
  have HN := Lib.hid hN
  have HB9 : Hid (acctShutB a x = true) := by show _ = _; unfold acctShutB; rw [hS, hN]; rfl
  have HM : Hid (acctShut a x = ⟨a.Have, 1, x, a.Marks, a.Reps⟩) := if_pos HB9.out
  clear hS hN
  go_enter Try.func32, Try.ntmps32
  go_wp2_with fail
  refine (sNode_any _ _).mono ?_
  rintro e w' ⟨rfl, rfl⟩
  rw [HN.out]
  go_wp2_with fail
  refine (sACopy_c (h0.from_ B0) hm).mono ?_
  rintro e w1 ⟨u_, rfl, ou, h_w1⟩
  clear c_a_0_wa f_a_0_wa c_a_1_wa f_a_1_wa c_a_2_wa f_a_2_wa c_a_3_wa f_a_3_wa c_a_4_wa f_a_4_wa c_r_0_wa f_r_0_wa c_r_1_wa f_r_1_wa c_r_2_wa f_r_2_wa c_r_3_wa f_r_3_wa c_r_4_wa f_r_4_wa
  replace x_a := x_a.from_ h_w1
  replace x_r := x_r.from_ h_w1
  have B_w1 := B0.trans (h_w1.mono B0.size)
  have s_w1 := h_w1.size
  obtain ⟨A1, c1, A2, c2, rfl, oM, oR⟩ := ov_acct_parts ou
  clear oM oR
  have c_a_0_w1 := x_a.cell (i := 0) rfl
  have f_a_0_w1 := x_a.frozen 0
  have c_a_1_w1 := x_a.cell (i := 1) rfl
  have f_a_1_w1 := x_a.frozen 1
  have c_a_2_w1 := x_a.cell (i := 2) rfl
  have f_a_2_w1 := x_a.frozen 2
  have c_a_3_w1 := x_a.cell (i := 3) rfl
  have f_a_3_w1 := x_a.frozen 3
  have c_a_4_w1 := x_a.cell (i := 4) rfl
  have f_a_4_w1 := x_a.frozen 4
  have c_r_0_w1 := x_r.cell (i := 0) rfl
  have f_r_0_w1 := x_r.frozen 0
  have c_r_1_w1 := x_r.cell (i := 1) rfl
  have f_r_1_w1 := x_r.frozen 1
  have c_r_2_w1 := x_r.cell (i := 2) rfl
  have f_r_2_w1 := x_r.frozen 2
  have c_r_3_w1 := x_r.cell (i := 3) rfl
  have f_r_3_w1 := x_r.frozen 3
  have c_r_4_w1 := x_r.cell (i := 4) rfl
  have f_r_4_w1 := x_r.frozen 4
  obtain ⟨w2, e_w2, s_w2, h_w2, x_o⟩ := alloc_step w1 27 [.int .i64 a.Have, .int .i64 a.State, .int .i64 a.By, .slice A1 a.Marks.length c1, .slice A2 a.Reps.length c2]
  have s_w2_1 := Nat.le_of_eq s_w2
  have s_w2_2 := Nat.le_of_eq s_w2.symm
  clear s_w2
  replace x_a := x_a.from_ h_w2
  replace x_r := x_r.from_ h_w2
  replace ou := ou.below h_w2
  have B_w2 := B_w1.trans (h_w2.mono B_w1.size)
  have c_a_0_w2 := x_a.cell (i := 0) rfl
  have f_a_0_w2 := x_a.frozen 0
  have c_a_1_w2 := x_a.cell (i := 1) rfl
  have f_a_1_w2 := x_a.frozen 1
  have c_a_2_w2 := x_a.cell (i := 2) rfl
  have f_a_2_w2 := x_a.frozen 2
  have c_a_3_w2 := x_a.cell (i := 3) rfl
  have f_a_3_w2 := x_a.frozen 3
  have c_a_4_w2 := x_a.cell (i := 4) rfl
  have f_a_4_w2 := x_a.frozen 4
  have c_r_0_w2 := x_r.cell (i := 0) rfl
  have f_r_0_w2 := x_r.frozen 0
  have c_r_1_w2 := x_r.cell (i := 1) rfl
  have f_r_1_w2 := x_r.frozen 1
  have c_r_2_w2 := x_r.cell (i := 2) rfl
  have f_r_2_w2 := x_r.frozen 2
  have c_r_3_w2 := x_r.cell (i := 3) rfl
  have f_r_3_w2 := x_r.frozen 3
  have c_r_4_w2 := x_r.cell (i := 4) rfl
  have f_r_4_w2 := x_r.frozen 4
  have c_o_0_w2 := x_o.cell (i := 0) rfl
  have f_o_0_w2 := x_o.frozen 0
  have c_o_1_w2 := x_o.cell (i := 1) rfl
  have f_o_1_w2 := x_o.frozen 1
  have c_o_2_w2 := x_o.cell (i := 2) rfl
  have f_o_2_w2 := x_o.frozen 2
  have c_o_3_w2 := x_o.cell (i := 3) rfl
  have f_o_3_w2 := x_o.frozen 3
  have c_o_4_w2 := x_o.cell (i := 4) rfl
  have f_o_4_w2 := x_o.frozen 4
  obtain ⟨w3, e_w3, s_w3, h_w3, y⟩ := set_step x_o 1 (.int .i64 1)
  have s_w3_1 := Nat.le_of_eq s_w3
  have s_w3_2 := Nat.le_of_eq s_w3.symm
  clear s_w3
  replace x_a := x_a.chg h_w3 (by omega)
  replace x_r := x_r.chg h_w3 (by omega)
  replace ou := ou.chg h_w3 (by omega)
  have B_w3 := Below.chg_ B_w2 h_w3 (by omega) (by omega)
  replace x_o : Vr w3 (w1.heap.size) 27 [.int .i64 a.Have, .int .i64 1, .int .i64 a.By, .slice A1 a.Marks.length c1, .slice A2 a.Reps.length c2] := y
  clear y
  have c_a_0_w3 := x_a.cell (i := 0) rfl
  have f_a_0_w3 := x_a.frozen 0
  have c_a_1_w3 := x_a.cell (i := 1) rfl
  have f_a_1_w3 := x_a.frozen 1
  have c_a_2_w3 := x_a.cell (i := 2) rfl
  have f_a_2_w3 := x_a.frozen 2
  have c_a_3_w3 := x_a.cell (i := 3) rfl
  have f_a_3_w3 := x_a.frozen 3
  have c_a_4_w3 := x_a.cell (i := 4) rfl
  have f_a_4_w3 := x_a.frozen 4
  have c_r_0_w3 := x_r.cell (i := 0) rfl
  have f_r_0_w3 := x_r.frozen 0
  have c_r_1_w3 := x_r.cell (i := 1) rfl
  have f_r_1_w3 := x_r.frozen 1
  have c_r_2_w3 := x_r.cell (i := 2) rfl
  have f_r_2_w3 := x_r.frozen 2
  have c_r_3_w3 := x_r.cell (i := 3) rfl
  have f_r_3_w3 := x_r.frozen 3
  have c_r_4_w3 := x_r.cell (i := 4) rfl
  have f_r_4_w3 := x_r.frozen 4
  have c_o_0_w3 := x_o.cell (i := 0) rfl
  have f_o_0_w3 := x_o.frozen 0
  have c_o_1_w3 := x_o.cell (i := 1) rfl
  have f_o_1_w3 := x_o.frozen 1
  have c_o_2_w3 := x_o.cell (i := 2) rfl
  have f_o_2_w3 := x_o.frozen 2
  have c_o_3_w3 := x_o.cell (i := 3) rfl
  have f_o_3_w3 := x_o.frozen 3
  have c_o_4_w3 := x_o.cell (i := 4) rfl
  have f_o_4_w3 := x_o.frozen 4
  obtain ⟨w4, e_w4, s_w4, h_w4, y⟩ := set_step x_o 2 (.int .i64 x)
  have s_w4_1 := Nat.le_of_eq s_w4
  have s_w4_2 := Nat.le_of_eq s_w4.symm
  clear s_w4
  replace x_a := x_a.chg h_w4 (by omega)
  replace x_r := x_r.chg h_w4 (by omega)
  replace ou := ou.chg h_w4 (by omega)
  have B_w4 := Below.chg_ B_w3 h_w4 (by omega) (by omega)
  replace x_o : Vr w4 (w1.heap.size) 27 [.int .i64 a.Have, .int .i64 1, .int .i64 x, .slice A1 a.Marks.length c1, .slice A2 a.Reps.length c2] := y
  clear y
  have c_a_0_w4 := x_a.cell (i := 0) rfl
  have f_a_0_w4 := x_a.frozen 0
  have c_a_1_w4 := x_a.cell (i := 1) rfl
  have f_a_1_w4 := x_a.frozen 1
  have c_a_2_w4 := x_a.cell (i := 2) rfl
  have f_a_2_w4 := x_a.frozen 2
  have c_a_3_w4 := x_a.cell (i := 3) rfl
  have f_a_3_w4 := x_a.frozen 3
  have c_a_4_w4 := x_a.cell (i := 4) rfl
  have f_a_4_w4 := x_a.frozen 4
  have c_r_0_w4 := x_r.cell (i := 0) rfl
  have f_r_0_w4 := x_r.frozen 0
  have c_r_1_w4 := x_r.cell (i := 1) rfl
  have f_r_1_w4 := x_r.frozen 1
  have c_r_2_w4 := x_r.cell (i := 2) rfl
  have f_r_2_w4 := x_r.frozen 2
  have c_r_3_w4 := x_r.cell (i := 3) rfl
  have f_r_3_w4 := x_r.frozen 3
  have c_r_4_w4 := x_r.cell (i := 4) rfl
  have f_r_4_w4 := x_r.frozen 4
  have c_o_0_w4 := x_o.cell (i := 0) rfl
  have f_o_0_w4 := x_o.frozen 0
  have c_o_1_w4 := x_o.cell (i := 1) rfl
  have f_o_1_w4 := x_o.frozen 1
  have c_o_2_w4 := x_o.cell (i := 2) rfl
  have f_o_2_w4 := x_o.frozen 2
  have c_o_3_w4 := x_o.cell (i := 3) rfl
  have f_o_3_w4 := x_o.frozen 3
  have c_o_4_w4 := x_o.cell (i := 4) rfl
  have f_o_4_w4 := x_o.frozen 4
  obtain ⟨w5, e_w5, s_w5, h_w5, y⟩ := store_step x_r [.int .i64 a.Have, .int .i64 1, .int .i64 x, .slice A1 a.Marks.length c1, .slice A2 a.Reps.length c2] rfl
  replace e_w5 : (((((w4.setCell ⟨w.heap.size + 1, 0, none⟩ (.int .i64 a.Have)).setCell ⟨w.heap.size + 1, 1, none⟩ (.int .i64 1)).setCell ⟨w.heap.size + 1, 2, none⟩ (.int .i64 x)).setCell ⟨w.heap.size + 1, 3, none⟩ (.slice A1 a.Marks.length c1)).setCell ⟨w.heap.size + 1, 4, none⟩ (.slice A2 a.Reps.length c2)) = w5 := e_w5
  have s_w5_1 := Nat.le_of_eq s_w5
  have s_w5_2 := Nat.le_of_eq s_w5.symm
  clear s_w5
  replace x_a := x_a.chg h_w5 (by omega)
  replace x_o := x_o.chg h_w5 (by omega)
  replace ou := ou.chg h_w5 (by omega)
  have B_w5 := Below.chg_ B_w4 h_w5 (by omega) (by omega)
  replace x_r : Vr w5 (w.heap.size + 1) 27 [.int .i64 a.Have, .int .i64 1, .int .i64 x, .slice A1 a.Marks.length c1, .slice A2 a.Reps.length c2] := y
  clear y
  have c_r_0_w5 := x_r.cell (i := 0) rfl
  have f_r_0_w5 := x_r.frozen 0
  have c_r_1_w5 := x_r.cell (i := 1) rfl
  have f_r_1_w5 := x_r.frozen 1
  have c_r_2_w5 := x_r.cell (i := 2) rfl
  have f_r_2_w5 := x_r.frozen 2
  have c_r_3_w5 := x_r.cell (i := 3) rfl
  have f_r_3_w5 := x_r.frozen 3
  have c_r_4_w5 := x_r.cell (i := 4) rfl
  have f_r_4_w5 := x_r.frozen 4
  go_wp2
  refine ret_cell_tmp (by rfl) (by rfl) x_r Try.underlying27 sz_acct (by rfl) ?_
  rw [HM.out, HB9.out]
  exact ⟨_, rfl, (ov_acct_scal ou).widen (by omega) (by omega) (Nat.le_refl _), B_w5⟩

set_option maxRecDepth 100000 in
set_option maxHeartbeats 4000000 in
theorem iAcctAdd_c {w : World} {v : Value} {a : MAcct} {x : Int} (h : RV acctL w v a) (hm : a.bulk ≤ 16777216)  : Calls Try.prog 19 #[v, .int .i64 x] w (NewVB acctL w (acctAdd a x) (acctAddB a x)) := by
  have h0 := h
  obtain ⟨AM, cM, AR, cR, rfl, rM, rR⟩ := rv_acct h
  clear h
  obtain ⟨wa, hwa, B0, sa, x_a, x_r⟩ := frame2 w 27 [.int .i64 a.Have, .int .i64 a.State, .int .i64 a.By, .slice AM a.Marks.length cM, .slice AR a.Reps.length cR] 27 [.int .i64 0, .int .i64 0, .int .i64 0, .slice none 0 0, .slice none 0 0]
  have sa_1 := Nat.le_of_eq sa
  have sa_2 := Nat.le_of_eq sa.symm
  clear sa
  have c_a_0_wa := x_a.cell (i := 0) rfl
  have f_a_0_wa := x_a.frozen 0
  have c_a_1_wa := x_a.cell (i := 1) rfl
  have f_a_1_wa := x_a.frozen 1
  have c_a_2_wa := x_a.cell (i := 2) rfl
  have f_a_2_wa := x_a.frozen 2
  have c_a_3_wa := x_a.cell (i := 3) rfl
  have f_a_3_wa := x_a.frozen 3
  have c_a_4_wa := x_a.cell (i := 4) rfl
  have f_a_4_wa := x_a.frozen 4
  have c_r_0_wa := x_r.cell (i := 0) rfl
  have f_r_0_wa := x_r.frozen 0
  have c_r_1_wa := x_r.cell (i := 1) rfl
  have f_r_1_wa := x_r.frozen 1
  have c_r_2_wa := x_r.cell (i := 2) rfl
  have f_r_2_wa := x_r.frozen 2
  have c_r_3_wa := x_r.cell (i := 3) rfl
  have f_r_3_wa := x_r.frozen 3
  have c_r_4_wa := x_r.cell (i := 4) rfl
  have f_r_4_wa := x_r.frozen 4
  by_cases hA : amtB x = true
  case neg =>
    replace hA : amtB x = false := by simpa using hA
    have HA := Lib.hid hA
    have HB9 : Hid (acctAddB a x = false) := by show _ = _; unfold acctAddB; rw [hA]; simp
    have HM : Hid (acctAdd a x = acctZ) := if_neg (by rw [HB9.out]; decide)
    clear hA
    go_enter Try.func19, Try.ntmps19
    go_wp2_with fail
    refine (iAmt_any _ _).mono ?_
    rintro e w' ⟨rfl, rfl⟩
    rw [HA.out]
    have i_r_0 := x_r.same (i := 0) rfl
    have i_r_1 := x_r.same (i := 1) rfl
    have i_r_2 := x_r.same (i := 2) rfl
    have i_r_3 := x_r.same (i := 3) rfl
    have i_r_4 := x_r.same (i := 4) rfl
    go_wp2
    refine ret_cell_tmp (by rfl) (by rfl) x_r Try.underlying27 sz_acct (by rfl) ?_
    rw [HM.out, HB9.out]
    exact ⟨_, rfl, ov_acctZ B0.size, B0⟩
  have HA := Lib.hid hA
  have bx : 1 ≤ x ∧ x ≤ 1000000000 := by unfold amtB at hA; exact inB_true.1 hA
  by_cases hR : inB a.Have 0 (1125899906842624 - x) = true
  case neg =>
    replace hR : inB a.Have 0 (1125899906842624 - x) = false := by simpa using hR
    have HR := Lib.hid hR
    have HB9 : Hid (acctAddB a x = false) := by show _ = _; unfold acctAddB; rw [hR]; simp
    have HM : Hid (acctAdd a x = acctZ) := if_neg (by rw [HB9.out]; decide)
    rcases Int.lt_or_le a.Have 0 with hq | hq
    case inl =>
      have g1 : decide (a.Have < 0) = true := decide_eq_true hq
      have tm : IntKind.i64.wrap (1125899906842624 - x) = 1125899906842624 - x := IntWalk.i64_in _ (by omega)
      clear hA hR
      go_enter Try.func19, Try.ntmps19
      go_wp2_with fail
      refine (iAmt_any _ _).mono ?_
      rintro e w' ⟨rfl, rfl⟩
      rw [HA.out]
      have i_r_0 := x_r.same (i := 0) rfl
      have i_r_1 := x_r.same (i := 1) rfl
      have i_r_2 := x_r.same (i := 2) rfl
      have i_r_3 := x_r.same (i := 3) rfl
      have i_r_4 := x_r.same (i := 4) rfl
      go_wp2
      refine ret_cell_tmp (by rfl) (by rfl) x_r Try.underlying27 sz_acct (by rfl) ?_
      rw [HM.out, HB9.out]
      exact ⟨_, rfl, ov_acctZ B0.size, B0⟩
    case inr =>
      have g1 : decide (a.Have < 0) = false := decide_eq_false (by omega)
      have g2 : decide (1125899906842624 - x < a.Have) = true := decide_eq_true (by have := inB_false.1 hR; omega)
      have tm : IntKind.i64.wrap (1125899906842624 - x) = 1125899906842624 - x := IntWalk.i64_in _ (by omega)
      clear hA hR
      go_enter Try.func19, Try.ntmps19
      go_wp2_with fail
      refine (iAmt_any _ _).mono ?_
      rintro e w' ⟨rfl, rfl⟩
      rw [HA.out]
      have i_r_0 := x_r.same (i := 0) rfl
      have i_r_1 := x_r.same (i := 1) rfl
      have i_r_2 := x_r.same (i := 2) rfl
      have i_r_3 := x_r.same (i := 3) rfl
      have i_r_4 := x_r.same (i := 4) rfl
      go_wp2
      refine ret_cell_tmp (by rfl) (by rfl) x_r Try.underlying27 sz_acct (by rfl) ?_
      rw [HM.out, HB9.out]
      exact ⟨_, rfl, ov_acctZ B0.size, B0⟩
  have HR := Lib.hid hR
  have br := inB_true.1 hR
  have tm : IntKind.i64.wrap (1125899906842624 - x) = 1125899906842624 - x := IntWalk.i64_in _ (by omega)
  have tp : IntKind.i64.wrap (a.Have + x) = a.Have + x := IntWalk.i64_in _ (by omega)
  have g1 : decide (a.Have < 0) = false := decide_eq_false (by omega)
  have g2 : decide (1125899906842624 - x < a.Have) = false := decide_eq_false (by omega)
  have HB9 : Hid (acctAddB a x = true) := by show _ = _; unfold acctAddB; rw [hA, hR]; rfl
  have HM : Hid (acctAdd a x = ⟨a.Have + x, a.State, a.By, a.Marks, a.Reps⟩) := if_pos HB9.out
  clear hA hR
  go_enter Try.func19, Try.ntmps19
  go_wp2_with fail
  refine (iAmt_any _ _).mono ?_
  rintro e w' ⟨rfl, rfl⟩
  rw [HA.out]
  go_wp2_with fail
  refine (iACopy_c (h0.from_ B0) hm).mono ?_
  rintro e w1 ⟨u_, rfl, ou, h_w1⟩
  clear c_a_0_wa f_a_0_wa c_a_1_wa f_a_1_wa c_a_2_wa f_a_2_wa c_a_3_wa f_a_3_wa c_a_4_wa f_a_4_wa c_r_0_wa f_r_0_wa c_r_1_wa f_r_1_wa c_r_2_wa f_r_2_wa c_r_3_wa f_r_3_wa c_r_4_wa f_r_4_wa
  replace x_a := x_a.from_ h_w1
  replace x_r := x_r.from_ h_w1
  have B_w1 := B0.trans (h_w1.mono B0.size)
  have s_w1 := h_w1.size
  obtain ⟨A1, c1, A2, c2, rfl, oM, oR⟩ := ov_acct_parts ou
  clear oM oR
  have c_a_0_w1 := x_a.cell (i := 0) rfl
  have f_a_0_w1 := x_a.frozen 0
  have c_a_1_w1 := x_a.cell (i := 1) rfl
  have f_a_1_w1 := x_a.frozen 1
  have c_a_2_w1 := x_a.cell (i := 2) rfl
  have f_a_2_w1 := x_a.frozen 2
  have c_a_3_w1 := x_a.cell (i := 3) rfl
  have f_a_3_w1 := x_a.frozen 3
  have c_a_4_w1 := x_a.cell (i := 4) rfl
  have f_a_4_w1 := x_a.frozen 4
  have c_r_0_w1 := x_r.cell (i := 0) rfl
  have f_r_0_w1 := x_r.frozen 0
  have c_r_1_w1 := x_r.cell (i := 1) rfl
  have f_r_1_w1 := x_r.frozen 1
  have c_r_2_w1 := x_r.cell (i := 2) rfl
  have f_r_2_w1 := x_r.frozen 2
  have c_r_3_w1 := x_r.cell (i := 3) rfl
  have f_r_3_w1 := x_r.frozen 3
  have c_r_4_w1 := x_r.cell (i := 4) rfl
  have f_r_4_w1 := x_r.frozen 4
  obtain ⟨w2, e_w2, s_w2, h_w2, x_o⟩ := alloc_step w1 27 [.int .i64 a.Have, .int .i64 a.State, .int .i64 a.By, .slice A1 a.Marks.length c1, .slice A2 a.Reps.length c2]
  have s_w2_1 := Nat.le_of_eq s_w2
  have s_w2_2 := Nat.le_of_eq s_w2.symm
  clear s_w2
  replace x_a := x_a.from_ h_w2
  replace x_r := x_r.from_ h_w2
  replace ou := ou.below h_w2
  have B_w2 := B_w1.trans (h_w2.mono B_w1.size)
  have c_a_0_w2 := x_a.cell (i := 0) rfl
  have f_a_0_w2 := x_a.frozen 0
  have c_a_1_w2 := x_a.cell (i := 1) rfl
  have f_a_1_w2 := x_a.frozen 1
  have c_a_2_w2 := x_a.cell (i := 2) rfl
  have f_a_2_w2 := x_a.frozen 2
  have c_a_3_w2 := x_a.cell (i := 3) rfl
  have f_a_3_w2 := x_a.frozen 3
  have c_a_4_w2 := x_a.cell (i := 4) rfl
  have f_a_4_w2 := x_a.frozen 4
  have c_r_0_w2 := x_r.cell (i := 0) rfl
  have f_r_0_w2 := x_r.frozen 0
  have c_r_1_w2 := x_r.cell (i := 1) rfl
  have f_r_1_w2 := x_r.frozen 1
  have c_r_2_w2 := x_r.cell (i := 2) rfl
  have f_r_2_w2 := x_r.frozen 2
  have c_r_3_w2 := x_r.cell (i := 3) rfl
  have f_r_3_w2 := x_r.frozen 3
  have c_r_4_w2 := x_r.cell (i := 4) rfl
  have f_r_4_w2 := x_r.frozen 4
  have c_o_0_w2 := x_o.cell (i := 0) rfl
  have f_o_0_w2 := x_o.frozen 0
  have c_o_1_w2 := x_o.cell (i := 1) rfl
  have f_o_1_w2 := x_o.frozen 1
  have c_o_2_w2 := x_o.cell (i := 2) rfl
  have f_o_2_w2 := x_o.frozen 2
  have c_o_3_w2 := x_o.cell (i := 3) rfl
  have f_o_3_w2 := x_o.frozen 3
  have c_o_4_w2 := x_o.cell (i := 4) rfl
  have f_o_4_w2 := x_o.frozen 4
  obtain ⟨w3, e_w3, s_w3, h_w3, y⟩ := set_step x_o 0 (.int .i64 (a.Have + x))
  have s_w3_1 := Nat.le_of_eq s_w3
  have s_w3_2 := Nat.le_of_eq s_w3.symm
  clear s_w3
  replace x_a := x_a.chg h_w3 (by omega)
  replace x_r := x_r.chg h_w3 (by omega)
  replace ou := ou.chg h_w3 (by omega)
  have B_w3 := Below.chg_ B_w2 h_w3 (by omega) (by omega)
  replace x_o : Vr w3 (w1.heap.size) 27 [.int .i64 (a.Have + x), .int .i64 a.State, .int .i64 a.By, .slice A1 a.Marks.length c1, .slice A2 a.Reps.length c2] := y
  clear y
  have c_a_0_w3 := x_a.cell (i := 0) rfl
  have f_a_0_w3 := x_a.frozen 0
  have c_a_1_w3 := x_a.cell (i := 1) rfl
  have f_a_1_w3 := x_a.frozen 1
  have c_a_2_w3 := x_a.cell (i := 2) rfl
  have f_a_2_w3 := x_a.frozen 2
  have c_a_3_w3 := x_a.cell (i := 3) rfl
  have f_a_3_w3 := x_a.frozen 3
  have c_a_4_w3 := x_a.cell (i := 4) rfl
  have f_a_4_w3 := x_a.frozen 4
  have c_r_0_w3 := x_r.cell (i := 0) rfl
  have f_r_0_w3 := x_r.frozen 0
  have c_r_1_w3 := x_r.cell (i := 1) rfl
  have f_r_1_w3 := x_r.frozen 1
  have c_r_2_w3 := x_r.cell (i := 2) rfl
  have f_r_2_w3 := x_r.frozen 2
  have c_r_3_w3 := x_r.cell (i := 3) rfl
  have f_r_3_w3 := x_r.frozen 3
  have c_r_4_w3 := x_r.cell (i := 4) rfl
  have f_r_4_w3 := x_r.frozen 4
  have c_o_0_w3 := x_o.cell (i := 0) rfl
  have f_o_0_w3 := x_o.frozen 0
  have c_o_1_w3 := x_o.cell (i := 1) rfl
  have f_o_1_w3 := x_o.frozen 1
  have c_o_2_w3 := x_o.cell (i := 2) rfl
  have f_o_2_w3 := x_o.frozen 2
  have c_o_3_w3 := x_o.cell (i := 3) rfl
  have f_o_3_w3 := x_o.frozen 3
  have c_o_4_w3 := x_o.cell (i := 4) rfl
  have f_o_4_w3 := x_o.frozen 4
  obtain ⟨w4, e_w4, s_w4, h_w4, y⟩ := store_step x_r [.int .i64 (a.Have + x), .int .i64 a.State, .int .i64 a.By, .slice A1 a.Marks.length c1, .slice A2 a.Reps.length c2] rfl
  replace e_w4 : (((((w3.setCell ⟨w.heap.size + 1, 0, none⟩ (.int .i64 (a.Have + x))).setCell ⟨w.heap.size + 1, 1, none⟩ (.int .i64 a.State)).setCell ⟨w.heap.size + 1, 2, none⟩ (.int .i64 a.By)).setCell ⟨w.heap.size + 1, 3, none⟩ (.slice A1 a.Marks.length c1)).setCell ⟨w.heap.size + 1, 4, none⟩ (.slice A2 a.Reps.length c2)) = w4 := e_w4
  have s_w4_1 := Nat.le_of_eq s_w4
  have s_w4_2 := Nat.le_of_eq s_w4.symm
  clear s_w4
  replace x_a := x_a.chg h_w4 (by omega)
  replace x_o := x_o.chg h_w4 (by omega)
  replace ou := ou.chg h_w4 (by omega)
  have B_w4 := Below.chg_ B_w3 h_w4 (by omega) (by omega)
  replace x_r : Vr w4 (w.heap.size + 1) 27 [.int .i64 (a.Have + x), .int .i64 a.State, .int .i64 a.By, .slice A1 a.Marks.length c1, .slice A2 a.Reps.length c2] := y
  clear y
  have c_r_0_w4 := x_r.cell (i := 0) rfl
  have f_r_0_w4 := x_r.frozen 0
  have c_r_1_w4 := x_r.cell (i := 1) rfl
  have f_r_1_w4 := x_r.frozen 1
  have c_r_2_w4 := x_r.cell (i := 2) rfl
  have f_r_2_w4 := x_r.frozen 2
  have c_r_3_w4 := x_r.cell (i := 3) rfl
  have f_r_3_w4 := x_r.frozen 3
  have c_r_4_w4 := x_r.cell (i := 4) rfl
  have f_r_4_w4 := x_r.frozen 4
  go_wp2
  refine ret_cell_tmp (by rfl) (by rfl) x_r Try.underlying27 sz_acct (by rfl) ?_
  rw [HM.out, HB9.out]
  exact ⟨_, rfl, (ov_acct_scal ou).widen (by omega) (by omega) (Nat.le_refl _), B_w4⟩

set_option maxRecDepth 100000 in
set_option maxHeartbeats 4000000 in
theorem iAcctTake_c {w : World} {v : Value} {a : MAcct} {x : Int} (h : RV acctL w v a) (hm : a.bulk ≤ 16777216) (hw : a.Have ≤ 9223372036854775807) : Calls Try.prog 20 #[v, .int .i64 x] w (NewVB acctL w (acctTake a x) (acctTakeB a x)) := by
  have h0 := h
  obtain ⟨AM, cM, AR, cR, rfl, rM, rR⟩ := rv_acct h
  clear h
  obtain ⟨wa, hwa, B0, sa, x_a, x_r⟩ := frame2 w 27 [.int .i64 a.Have, .int .i64 a.State, .int .i64 a.By, .slice AM a.Marks.length cM, .slice AR a.Reps.length cR] 27 [.int .i64 0, .int .i64 0, .int .i64 0, .slice none 0 0, .slice none 0 0]
  have sa_1 := Nat.le_of_eq sa
  have sa_2 := Nat.le_of_eq sa.symm
  clear sa
  have c_a_0_wa := x_a.cell (i := 0) rfl
  have f_a_0_wa := x_a.frozen 0
  have c_a_1_wa := x_a.cell (i := 1) rfl
  have f_a_1_wa := x_a.frozen 1
  have c_a_2_wa := x_a.cell (i := 2) rfl
  have f_a_2_wa := x_a.frozen 2
  have c_a_3_wa := x_a.cell (i := 3) rfl
  have f_a_3_wa := x_a.frozen 3
  have c_a_4_wa := x_a.cell (i := 4) rfl
  have f_a_4_wa := x_a.frozen 4
  have c_r_0_wa := x_r.cell (i := 0) rfl
  have f_r_0_wa := x_r.frozen 0
  have c_r_1_wa := x_r.cell (i := 1) rfl
  have f_r_1_wa := x_r.frozen 1
  have c_r_2_wa := x_r.cell (i := 2) rfl
  have f_r_2_wa := x_r.frozen 2
  have c_r_3_wa := x_r.cell (i := 3) rfl
  have f_r_3_wa := x_r.frozen 3
  have c_r_4_wa := x_r.cell (i := 4) rfl
  have f_r_4_wa := x_r.frozen 4
  by_cases hA : amtB x = true
  case neg =>
    replace hA : amtB x = false := by simpa using hA
    have HA := Lib.hid hA
    have HB9 : Hid (acctTakeB a x = false) := by show _ = _; unfold acctTakeB; rw [hA]; simp
    have HM : Hid (acctTake a x = acctZ) := if_neg (by rw [HB9.out]; decide)
    clear hA
    go_enter Try.func20, Try.ntmps20
    go_wp2_with fail
    refine (iAmt_any _ _).mono ?_
    rintro e w' ⟨rfl, rfl⟩
    rw [HA.out]
    have i_r_0 := x_r.same (i := 0) rfl
    have i_r_1 := x_r.same (i := 1) rfl
    have i_r_2 := x_r.same (i := 2) rfl
    have i_r_3 := x_r.same (i := 3) rfl
    have i_r_4 := x_r.same (i := 4) rfl
    go_wp2
    refine ret_cell_tmp (by rfl) (by rfl) x_r Try.underlying27 sz_acct (by rfl) ?_
    rw [HM.out, HB9.out]
    exact ⟨_, rfl, ov_acctZ B0.size, B0⟩
  have HA := Lib.hid hA
  have bx : 1 ≤ x ∧ x ≤ 1000000000 := by unfold amtB at hA; exact inB_true.1 hA
  by_cases hT : decide (x ≤ a.Have) = true
  case neg =>
    replace hT : decide (x ≤ a.Have) = false := by simpa using hT
    have HT := Lib.hid hT
    have HB9 : Hid (acctTakeB a x = false) := by show _ = _; unfold acctTakeB; rw [hT]; simp
    have HM : Hid (acctTake a x = acctZ) := if_neg (by rw [HB9.out]; decide)
    have g1 : decide (a.Have < x) = true := decide_eq_true (by have := of_decide_eq_false hT; omega)
    clear hA hT
    go_enter Try.func20, Try.ntmps20
    go_wp2_with fail
    refine (iAmt_any _ _).mono ?_
    rintro e w' ⟨rfl, rfl⟩
    rw [HA.out]
    have i_r_0 := x_r.same (i := 0) rfl
    have i_r_1 := x_r.same (i := 1) rfl
    have i_r_2 := x_r.same (i := 2) rfl
    have i_r_3 := x_r.same (i := 3) rfl
    have i_r_4 := x_r.same (i := 4) rfl
    go_wp2
    refine ret_cell_tmp (by rfl) (by rfl) x_r Try.underlying27 sz_acct (by rfl) ?_
    rw [HM.out, HB9.out]
    exact ⟨_, rfl, ov_acctZ B0.size, B0⟩
  have HT := Lib.hid hT
  have br := of_decide_eq_true hT
  have g1 : decide (a.Have < x) = false := decide_eq_false (by omega)
  have tp : IntKind.i64.wrap (a.Have - x) = a.Have - x := IntWalk.i64_in _ (by omega)
  have HB9 : Hid (acctTakeB a x = true) := by show _ = _; unfold acctTakeB; rw [hA, hT]; rfl
  have HM : Hid (acctTake a x = ⟨a.Have - x, a.State, a.By, a.Marks, a.Reps⟩) := if_pos HB9.out
  clear hA hT
  go_enter Try.func20, Try.ntmps20
  go_wp2_with fail
  refine (iAmt_any _ _).mono ?_
  rintro e w' ⟨rfl, rfl⟩
  rw [HA.out]
  go_wp2_with fail
  refine (iACopy_c (h0.from_ B0) hm).mono ?_
  rintro e w1 ⟨u_, rfl, ou, h_w1⟩
  clear c_a_0_wa f_a_0_wa c_a_1_wa f_a_1_wa c_a_2_wa f_a_2_wa c_a_3_wa f_a_3_wa c_a_4_wa f_a_4_wa c_r_0_wa f_r_0_wa c_r_1_wa f_r_1_wa c_r_2_wa f_r_2_wa c_r_3_wa f_r_3_wa c_r_4_wa f_r_4_wa
  replace x_a := x_a.from_ h_w1
  replace x_r := x_r.from_ h_w1
  have B_w1 := B0.trans (h_w1.mono B0.size)
  have s_w1 := h_w1.size
  obtain ⟨A1, c1, A2, c2, rfl, oM, oR⟩ := ov_acct_parts ou
  clear oM oR
  have c_a_0_w1 := x_a.cell (i := 0) rfl
  have f_a_0_w1 := x_a.frozen 0
  have c_a_1_w1 := x_a.cell (i := 1) rfl
  have f_a_1_w1 := x_a.frozen 1
  have c_a_2_w1 := x_a.cell (i := 2) rfl
  have f_a_2_w1 := x_a.frozen 2
  have c_a_3_w1 := x_a.cell (i := 3) rfl
  have f_a_3_w1 := x_a.frozen 3
  have c_a_4_w1 := x_a.cell (i := 4) rfl
  have f_a_4_w1 := x_a.frozen 4
  have c_r_0_w1 := x_r.cell (i := 0) rfl
  have f_r_0_w1 := x_r.frozen 0
  have c_r_1_w1 := x_r.cell (i := 1) rfl
  have f_r_1_w1 := x_r.frozen 1
  have c_r_2_w1 := x_r.cell (i := 2) rfl
  have f_r_2_w1 := x_r.frozen 2
  have c_r_3_w1 := x_r.cell (i := 3) rfl
  have f_r_3_w1 := x_r.frozen 3
  have c_r_4_w1 := x_r.cell (i := 4) rfl
  have f_r_4_w1 := x_r.frozen 4
  obtain ⟨w2, e_w2, s_w2, h_w2, x_o⟩ := alloc_step w1 27 [.int .i64 a.Have, .int .i64 a.State, .int .i64 a.By, .slice A1 a.Marks.length c1, .slice A2 a.Reps.length c2]
  have s_w2_1 := Nat.le_of_eq s_w2
  have s_w2_2 := Nat.le_of_eq s_w2.symm
  clear s_w2
  replace x_a := x_a.from_ h_w2
  replace x_r := x_r.from_ h_w2
  replace ou := ou.below h_w2
  have B_w2 := B_w1.trans (h_w2.mono B_w1.size)
  have c_a_0_w2 := x_a.cell (i := 0) rfl
  have f_a_0_w2 := x_a.frozen 0
  have c_a_1_w2 := x_a.cell (i := 1) rfl
  have f_a_1_w2 := x_a.frozen 1
  have c_a_2_w2 := x_a.cell (i := 2) rfl
  have f_a_2_w2 := x_a.frozen 2
  have c_a_3_w2 := x_a.cell (i := 3) rfl
  have f_a_3_w2 := x_a.frozen 3
  have c_a_4_w2 := x_a.cell (i := 4) rfl
  have f_a_4_w2 := x_a.frozen 4
  have c_r_0_w2 := x_r.cell (i := 0) rfl
  have f_r_0_w2 := x_r.frozen 0
  have c_r_1_w2 := x_r.cell (i := 1) rfl
  have f_r_1_w2 := x_r.frozen 1
  have c_r_2_w2 := x_r.cell (i := 2) rfl
  have f_r_2_w2 := x_r.frozen 2
  have c_r_3_w2 := x_r.cell (i := 3) rfl
  have f_r_3_w2 := x_r.frozen 3
  have c_r_4_w2 := x_r.cell (i := 4) rfl
  have f_r_4_w2 := x_r.frozen 4
  have c_o_0_w2 := x_o.cell (i := 0) rfl
  have f_o_0_w2 := x_o.frozen 0
  have c_o_1_w2 := x_o.cell (i := 1) rfl
  have f_o_1_w2 := x_o.frozen 1
  have c_o_2_w2 := x_o.cell (i := 2) rfl
  have f_o_2_w2 := x_o.frozen 2
  have c_o_3_w2 := x_o.cell (i := 3) rfl
  have f_o_3_w2 := x_o.frozen 3
  have c_o_4_w2 := x_o.cell (i := 4) rfl
  have f_o_4_w2 := x_o.frozen 4
  obtain ⟨w3, e_w3, s_w3, h_w3, y⟩ := set_step x_o 0 (.int .i64 (a.Have - x))
  have s_w3_1 := Nat.le_of_eq s_w3
  have s_w3_2 := Nat.le_of_eq s_w3.symm
  clear s_w3
  replace x_a := x_a.chg h_w3 (by omega)
  replace x_r := x_r.chg h_w3 (by omega)
  replace ou := ou.chg h_w3 (by omega)
  have B_w3 := Below.chg_ B_w2 h_w3 (by omega) (by omega)
  replace x_o : Vr w3 (w1.heap.size) 27 [.int .i64 (a.Have - x), .int .i64 a.State, .int .i64 a.By, .slice A1 a.Marks.length c1, .slice A2 a.Reps.length c2] := y
  clear y
  have c_a_0_w3 := x_a.cell (i := 0) rfl
  have f_a_0_w3 := x_a.frozen 0
  have c_a_1_w3 := x_a.cell (i := 1) rfl
  have f_a_1_w3 := x_a.frozen 1
  have c_a_2_w3 := x_a.cell (i := 2) rfl
  have f_a_2_w3 := x_a.frozen 2
  have c_a_3_w3 := x_a.cell (i := 3) rfl
  have f_a_3_w3 := x_a.frozen 3
  have c_a_4_w3 := x_a.cell (i := 4) rfl
  have f_a_4_w3 := x_a.frozen 4
  have c_r_0_w3 := x_r.cell (i := 0) rfl
  have f_r_0_w3 := x_r.frozen 0
  have c_r_1_w3 := x_r.cell (i := 1) rfl
  have f_r_1_w3 := x_r.frozen 1
  have c_r_2_w3 := x_r.cell (i := 2) rfl
  have f_r_2_w3 := x_r.frozen 2
  have c_r_3_w3 := x_r.cell (i := 3) rfl
  have f_r_3_w3 := x_r.frozen 3
  have c_r_4_w3 := x_r.cell (i := 4) rfl
  have f_r_4_w3 := x_r.frozen 4
  have c_o_0_w3 := x_o.cell (i := 0) rfl
  have f_o_0_w3 := x_o.frozen 0
  have c_o_1_w3 := x_o.cell (i := 1) rfl
  have f_o_1_w3 := x_o.frozen 1
  have c_o_2_w3 := x_o.cell (i := 2) rfl
  have f_o_2_w3 := x_o.frozen 2
  have c_o_3_w3 := x_o.cell (i := 3) rfl
  have f_o_3_w3 := x_o.frozen 3
  have c_o_4_w3 := x_o.cell (i := 4) rfl
  have f_o_4_w3 := x_o.frozen 4
  obtain ⟨w4, e_w4, s_w4, h_w4, y⟩ := store_step x_r [.int .i64 (a.Have - x), .int .i64 a.State, .int .i64 a.By, .slice A1 a.Marks.length c1, .slice A2 a.Reps.length c2] rfl
  replace e_w4 : (((((w3.setCell ⟨w.heap.size + 1, 0, none⟩ (.int .i64 (a.Have - x))).setCell ⟨w.heap.size + 1, 1, none⟩ (.int .i64 a.State)).setCell ⟨w.heap.size + 1, 2, none⟩ (.int .i64 a.By)).setCell ⟨w.heap.size + 1, 3, none⟩ (.slice A1 a.Marks.length c1)).setCell ⟨w.heap.size + 1, 4, none⟩ (.slice A2 a.Reps.length c2)) = w4 := e_w4
  have s_w4_1 := Nat.le_of_eq s_w4
  have s_w4_2 := Nat.le_of_eq s_w4.symm
  clear s_w4
  replace x_a := x_a.chg h_w4 (by omega)
  replace x_o := x_o.chg h_w4 (by omega)
  replace ou := ou.chg h_w4 (by omega)
  have B_w4 := Below.chg_ B_w3 h_w4 (by omega) (by omega)
  replace x_r : Vr w4 (w.heap.size + 1) 27 [.int .i64 (a.Have - x), .int .i64 a.State, .int .i64 a.By, .slice A1 a.Marks.length c1, .slice A2 a.Reps.length c2] := y
  clear y
  have c_r_0_w4 := x_r.cell (i := 0) rfl
  have f_r_0_w4 := x_r.frozen 0
  have c_r_1_w4 := x_r.cell (i := 1) rfl
  have f_r_1_w4 := x_r.frozen 1
  have c_r_2_w4 := x_r.cell (i := 2) rfl
  have f_r_2_w4 := x_r.frozen 2
  have c_r_3_w4 := x_r.cell (i := 3) rfl
  have f_r_3_w4 := x_r.frozen 3
  have c_r_4_w4 := x_r.cell (i := 4) rfl
  have f_r_4_w4 := x_r.frozen 4
  go_wp2
  refine ret_cell_tmp (by rfl) (by rfl) x_r Try.underlying27 sz_acct (by rfl) ?_
  rw [HM.out, HB9.out]
  exact ⟨_, rfl, (ov_acct_scal ou).widen (by omega) (by omega) (Nat.le_refl _), B_w4⟩

set_option maxRecDepth 100000 in
set_option maxHeartbeats 4000000 in
theorem iAcctShut_c {w : World} {v : Value} {a : MAcct} {x : Int} (h : RV acctL w v a) (hm : a.bulk ≤ 16777216)  : Calls Try.prog 14 #[v, .int .i64 x] w (NewVB acctL w (acctShut a x) (acctShutB a x)) := by
  have h0 := h
  obtain ⟨AM, cM, AR, cR, rfl, rM, rR⟩ := rv_acct h
  clear h
  obtain ⟨wa, hwa, B0, sa, x_a, x_r⟩ := frame2 w 27 [.int .i64 a.Have, .int .i64 a.State, .int .i64 a.By, .slice AM a.Marks.length cM, .slice AR a.Reps.length cR] 27 [.int .i64 0, .int .i64 0, .int .i64 0, .slice none 0 0, .slice none 0 0]
  have sa_1 := Nat.le_of_eq sa
  have sa_2 := Nat.le_of_eq sa.symm
  clear sa
  have c_a_0_wa := x_a.cell (i := 0) rfl
  have f_a_0_wa := x_a.frozen 0
  have c_a_1_wa := x_a.cell (i := 1) rfl
  have f_a_1_wa := x_a.frozen 1
  have c_a_2_wa := x_a.cell (i := 2) rfl
  have f_a_2_wa := x_a.frozen 2
  have c_a_3_wa := x_a.cell (i := 3) rfl
  have f_a_3_wa := x_a.frozen 3
  have c_a_4_wa := x_a.cell (i := 4) rfl
  have f_a_4_wa := x_a.frozen 4
  have c_r_0_wa := x_r.cell (i := 0) rfl
  have f_r_0_wa := x_r.frozen 0
  have c_r_1_wa := x_r.cell (i := 1) rfl
  have f_r_1_wa := x_r.frozen 1
  have c_r_2_wa := x_r.cell (i := 2) rfl
  have f_r_2_wa := x_r.frozen 2
  have c_r_3_wa := x_r.cell (i := 3) rfl
  have f_r_3_wa := x_r.frozen 3
  have c_r_4_wa := x_r.cell (i := 4) rfl
  have f_r_4_wa := x_r.frozen 4
  by_cases hS : decide (a.State = 0) = true
  case neg =>
    replace hS : decide (a.State = 0) = false := by simpa using hS
    have HS := Lib.hid hS
    have HB9 : Hid (acctShutB a x = false) := by show _ = _; unfold acctShutB; rw [hS]; simp
    have HM : Hid (acctShut a x = acctZ) := if_neg (by rw [HB9.out]; decide)
    have g1 : (a.State != 0) = true := by have := of_decide_eq_false hS; simpa using this
    clear hS
    go_enter Try.func14, Try.ntmps14
    have i_r_0 := x_r.same (i := 0) rfl
    have i_r_1 := x_r.same (i := 1) rfl
    have i_r_2 := x_r.same (i := 2) rfl
    have i_r_3 := x_r.same (i := 3) rfl
    have i_r_4 := x_r.same (i := 4) rfl
    go_wp2
    refine ret_cell_tmp (by rfl) (by rfl) x_r Try.underlying27 sz_acct (by rfl) ?_
    rw [HM.out, HB9.out]
    exact ⟨_, rfl, ov_acctZ B0.size, B0⟩
  have HS := Lib.hid hS
  have g1 : (a.State != 0) = false := by have := of_decide_eq_true hS; simpa using this
  by_cases hN : inB x 0 3 = true
  case neg =>
    replace hN : inB x 0 3 = false := by simpa using hN
    have HN := Lib.hid hN
    have HB9 : Hid (acctShutB a x = false) := by show _ = _; unfold acctShutB; rw [hN]; simp
    have HM : Hid (acctShut a x = acctZ) := if_neg (by rw [HB9.out]; decide)
    clear hS hN
    go_enter Try.func14, Try.ntmps14
    go_wp2_with fail
    refine (iNode_any _ _).mono ?_
    rintro e w' ⟨rfl, rfl⟩
    rw [HN.out]
    have i_r_0 := x_r.same (i := 0) rfl
    have i_r_1 := x_r.same (i := 1) rfl
    have i_r_2 := x_r.same (i := 2) rfl
    have i_r_3 := x_r.same (i := 3) rfl
    have i_r_4 := x_r.same (i := 4) rfl
    go_wp2
    refine ret_cell_tmp (by rfl) (by rfl) x_r Try.underlying27 sz_acct (by rfl) ?_
    rw [HM.out, HB9.out]
    exact ⟨_, rfl, ov_acctZ B0.size, B0⟩
  have HN := Lib.hid hN
  have HB9 : Hid (acctShutB a x = true) := by show _ = _; unfold acctShutB; rw [hS, hN]; rfl
  have HM : Hid (acctShut a x = ⟨a.Have, 1, x, a.Marks, a.Reps⟩) := if_pos HB9.out
  clear hS hN
  go_enter Try.func14, Try.ntmps14
  go_wp2_with fail
  refine (iNode_any _ _).mono ?_
  rintro e w' ⟨rfl, rfl⟩
  rw [HN.out]
  go_wp2_with fail
  refine (iACopy_c (h0.from_ B0) hm).mono ?_
  rintro e w1 ⟨u_, rfl, ou, h_w1⟩
  clear c_a_0_wa f_a_0_wa c_a_1_wa f_a_1_wa c_a_2_wa f_a_2_wa c_a_3_wa f_a_3_wa c_a_4_wa f_a_4_wa c_r_0_wa f_r_0_wa c_r_1_wa f_r_1_wa c_r_2_wa f_r_2_wa c_r_3_wa f_r_3_wa c_r_4_wa f_r_4_wa
  replace x_a := x_a.from_ h_w1
  replace x_r := x_r.from_ h_w1
  have B_w1 := B0.trans (h_w1.mono B0.size)
  have s_w1 := h_w1.size
  obtain ⟨A1, c1, A2, c2, rfl, oM, oR⟩ := ov_acct_parts ou
  clear oM oR
  have c_a_0_w1 := x_a.cell (i := 0) rfl
  have f_a_0_w1 := x_a.frozen 0
  have c_a_1_w1 := x_a.cell (i := 1) rfl
  have f_a_1_w1 := x_a.frozen 1
  have c_a_2_w1 := x_a.cell (i := 2) rfl
  have f_a_2_w1 := x_a.frozen 2
  have c_a_3_w1 := x_a.cell (i := 3) rfl
  have f_a_3_w1 := x_a.frozen 3
  have c_a_4_w1 := x_a.cell (i := 4) rfl
  have f_a_4_w1 := x_a.frozen 4
  have c_r_0_w1 := x_r.cell (i := 0) rfl
  have f_r_0_w1 := x_r.frozen 0
  have c_r_1_w1 := x_r.cell (i := 1) rfl
  have f_r_1_w1 := x_r.frozen 1
  have c_r_2_w1 := x_r.cell (i := 2) rfl
  have f_r_2_w1 := x_r.frozen 2
  have c_r_3_w1 := x_r.cell (i := 3) rfl
  have f_r_3_w1 := x_r.frozen 3
  have c_r_4_w1 := x_r.cell (i := 4) rfl
  have f_r_4_w1 := x_r.frozen 4
  obtain ⟨w2, e_w2, s_w2, h_w2, x_o⟩ := alloc_step w1 27 [.int .i64 a.Have, .int .i64 a.State, .int .i64 a.By, .slice A1 a.Marks.length c1, .slice A2 a.Reps.length c2]
  have s_w2_1 := Nat.le_of_eq s_w2
  have s_w2_2 := Nat.le_of_eq s_w2.symm
  clear s_w2
  replace x_a := x_a.from_ h_w2
  replace x_r := x_r.from_ h_w2
  replace ou := ou.below h_w2
  have B_w2 := B_w1.trans (h_w2.mono B_w1.size)
  have c_a_0_w2 := x_a.cell (i := 0) rfl
  have f_a_0_w2 := x_a.frozen 0
  have c_a_1_w2 := x_a.cell (i := 1) rfl
  have f_a_1_w2 := x_a.frozen 1
  have c_a_2_w2 := x_a.cell (i := 2) rfl
  have f_a_2_w2 := x_a.frozen 2
  have c_a_3_w2 := x_a.cell (i := 3) rfl
  have f_a_3_w2 := x_a.frozen 3
  have c_a_4_w2 := x_a.cell (i := 4) rfl
  have f_a_4_w2 := x_a.frozen 4
  have c_r_0_w2 := x_r.cell (i := 0) rfl
  have f_r_0_w2 := x_r.frozen 0
  have c_r_1_w2 := x_r.cell (i := 1) rfl
  have f_r_1_w2 := x_r.frozen 1
  have c_r_2_w2 := x_r.cell (i := 2) rfl
  have f_r_2_w2 := x_r.frozen 2
  have c_r_3_w2 := x_r.cell (i := 3) rfl
  have f_r_3_w2 := x_r.frozen 3
  have c_r_4_w2 := x_r.cell (i := 4) rfl
  have f_r_4_w2 := x_r.frozen 4
  have c_o_0_w2 := x_o.cell (i := 0) rfl
  have f_o_0_w2 := x_o.frozen 0
  have c_o_1_w2 := x_o.cell (i := 1) rfl
  have f_o_1_w2 := x_o.frozen 1
  have c_o_2_w2 := x_o.cell (i := 2) rfl
  have f_o_2_w2 := x_o.frozen 2
  have c_o_3_w2 := x_o.cell (i := 3) rfl
  have f_o_3_w2 := x_o.frozen 3
  have c_o_4_w2 := x_o.cell (i := 4) rfl
  have f_o_4_w2 := x_o.frozen 4
  obtain ⟨w3, e_w3, s_w3, h_w3, y⟩ := set_step x_o 1 (.int .i64 1)
  have s_w3_1 := Nat.le_of_eq s_w3
  have s_w3_2 := Nat.le_of_eq s_w3.symm
  clear s_w3
  replace x_a := x_a.chg h_w3 (by omega)
  replace x_r := x_r.chg h_w3 (by omega)
  replace ou := ou.chg h_w3 (by omega)
  have B_w3 := Below.chg_ B_w2 h_w3 (by omega) (by omega)
  replace x_o : Vr w3 (w1.heap.size) 27 [.int .i64 a.Have, .int .i64 1, .int .i64 a.By, .slice A1 a.Marks.length c1, .slice A2 a.Reps.length c2] := y
  clear y
  have c_a_0_w3 := x_a.cell (i := 0) rfl
  have f_a_0_w3 := x_a.frozen 0
  have c_a_1_w3 := x_a.cell (i := 1) rfl
  have f_a_1_w3 := x_a.frozen 1
  have c_a_2_w3 := x_a.cell (i := 2) rfl
  have f_a_2_w3 := x_a.frozen 2
  have c_a_3_w3 := x_a.cell (i := 3) rfl
  have f_a_3_w3 := x_a.frozen 3
  have c_a_4_w3 := x_a.cell (i := 4) rfl
  have f_a_4_w3 := x_a.frozen 4
  have c_r_0_w3 := x_r.cell (i := 0) rfl
  have f_r_0_w3 := x_r.frozen 0
  have c_r_1_w3 := x_r.cell (i := 1) rfl
  have f_r_1_w3 := x_r.frozen 1
  have c_r_2_w3 := x_r.cell (i := 2) rfl
  have f_r_2_w3 := x_r.frozen 2
  have c_r_3_w3 := x_r.cell (i := 3) rfl
  have f_r_3_w3 := x_r.frozen 3
  have c_r_4_w3 := x_r.cell (i := 4) rfl
  have f_r_4_w3 := x_r.frozen 4
  have c_o_0_w3 := x_o.cell (i := 0) rfl
  have f_o_0_w3 := x_o.frozen 0
  have c_o_1_w3 := x_o.cell (i := 1) rfl
  have f_o_1_w3 := x_o.frozen 1
  have c_o_2_w3 := x_o.cell (i := 2) rfl
  have f_o_2_w3 := x_o.frozen 2
  have c_o_3_w3 := x_o.cell (i := 3) rfl
  have f_o_3_w3 := x_o.frozen 3
  have c_o_4_w3 := x_o.cell (i := 4) rfl
  have f_o_4_w3 := x_o.frozen 4
  obtain ⟨w4, e_w4, s_w4, h_w4, y⟩ := set_step x_o 2 (.int .i64 x)
  have s_w4_1 := Nat.le_of_eq s_w4
  have s_w4_2 := Nat.le_of_eq s_w4.symm
  clear s_w4
  replace x_a := x_a.chg h_w4 (by omega)
  replace x_r := x_r.chg h_w4 (by omega)
  replace ou := ou.chg h_w4 (by omega)
  have B_w4 := Below.chg_ B_w3 h_w4 (by omega) (by omega)
  replace x_o : Vr w4 (w1.heap.size) 27 [.int .i64 a.Have, .int .i64 1, .int .i64 x, .slice A1 a.Marks.length c1, .slice A2 a.Reps.length c2] := y
  clear y
  have c_a_0_w4 := x_a.cell (i := 0) rfl
  have f_a_0_w4 := x_a.frozen 0
  have c_a_1_w4 := x_a.cell (i := 1) rfl
  have f_a_1_w4 := x_a.frozen 1
  have c_a_2_w4 := x_a.cell (i := 2) rfl
  have f_a_2_w4 := x_a.frozen 2
  have c_a_3_w4 := x_a.cell (i := 3) rfl
  have f_a_3_w4 := x_a.frozen 3
  have c_a_4_w4 := x_a.cell (i := 4) rfl
  have f_a_4_w4 := x_a.frozen 4
  have c_r_0_w4 := x_r.cell (i := 0) rfl
  have f_r_0_w4 := x_r.frozen 0
  have c_r_1_w4 := x_r.cell (i := 1) rfl
  have f_r_1_w4 := x_r.frozen 1
  have c_r_2_w4 := x_r.cell (i := 2) rfl
  have f_r_2_w4 := x_r.frozen 2
  have c_r_3_w4 := x_r.cell (i := 3) rfl
  have f_r_3_w4 := x_r.frozen 3
  have c_r_4_w4 := x_r.cell (i := 4) rfl
  have f_r_4_w4 := x_r.frozen 4
  have c_o_0_w4 := x_o.cell (i := 0) rfl
  have f_o_0_w4 := x_o.frozen 0
  have c_o_1_w4 := x_o.cell (i := 1) rfl
  have f_o_1_w4 := x_o.frozen 1
  have c_o_2_w4 := x_o.cell (i := 2) rfl
  have f_o_2_w4 := x_o.frozen 2
  have c_o_3_w4 := x_o.cell (i := 3) rfl
  have f_o_3_w4 := x_o.frozen 3
  have c_o_4_w4 := x_o.cell (i := 4) rfl
  have f_o_4_w4 := x_o.frozen 4
  obtain ⟨w5, e_w5, s_w5, h_w5, y⟩ := store_step x_r [.int .i64 a.Have, .int .i64 1, .int .i64 x, .slice A1 a.Marks.length c1, .slice A2 a.Reps.length c2] rfl
  replace e_w5 : (((((w4.setCell ⟨w.heap.size + 1, 0, none⟩ (.int .i64 a.Have)).setCell ⟨w.heap.size + 1, 1, none⟩ (.int .i64 1)).setCell ⟨w.heap.size + 1, 2, none⟩ (.int .i64 x)).setCell ⟨w.heap.size + 1, 3, none⟩ (.slice A1 a.Marks.length c1)).setCell ⟨w.heap.size + 1, 4, none⟩ (.slice A2 a.Reps.length c2)) = w5 := e_w5
  have s_w5_1 := Nat.le_of_eq s_w5
  have s_w5_2 := Nat.le_of_eq s_w5.symm
  clear s_w5
  replace x_a := x_a.chg h_w5 (by omega)
  replace x_o := x_o.chg h_w5 (by omega)
  replace ou := ou.chg h_w5 (by omega)
  have B_w5 := Below.chg_ B_w4 h_w5 (by omega) (by omega)
  replace x_r : Vr w5 (w.heap.size + 1) 27 [.int .i64 a.Have, .int .i64 1, .int .i64 x, .slice A1 a.Marks.length c1, .slice A2 a.Reps.length c2] := y
  clear y
  have c_r_0_w5 := x_r.cell (i := 0) rfl
  have f_r_0_w5 := x_r.frozen 0
  have c_r_1_w5 := x_r.cell (i := 1) rfl
  have f_r_1_w5 := x_r.frozen 1
  have c_r_2_w5 := x_r.cell (i := 2) rfl
  have f_r_2_w5 := x_r.frozen 2
  have c_r_3_w5 := x_r.cell (i := 3) rfl
  have f_r_3_w5 := x_r.frozen 3
  have c_r_4_w5 := x_r.cell (i := 4) rfl
  have f_r_4_w5 := x_r.frozen 4
  go_wp2
  refine ret_cell_tmp (by rfl) (by rfl) x_r Try.underlying27 sz_acct (by rfl) ?_
  rw [HM.out, HB9.out]
  exact ⟨_, rfl, (ov_acct_scal ou).widen (by omega) (by omega) (Nat.le_refl _), B_w5⟩

end Go.Proofs.Ytopmojfcdmcmbaa
