/- An account at a node: the contracts of impl's closedOk and AcctOk. Laid by a program of ours (src/ac4.py). -/
import Derived.Test.YtopmojfcdmcmbaaAc3
import Derived.BigQuiet
namespace Go.Proofs.Ytopmojfcdmcmbaa
open Go.RowKit
set_option linter.unusedVariables false

def MissT (w : World) (len m : Nat) (e : Ending) (w' : World) : Prop := ∃ b N c p, e = .returned (.tuple #[.map (some b), .bool true]) ∧ MSet w' b N p c ∧ c + len + 1 = m ∧ Below w.heap.size w w'
theorem iMissing_t {w : World} {v : Value} {l : List Int} {m : Nat} {id : Int} (h : RS .i64 w v l) (hm : 1 ≤ m ∧ m ≤ 4) (hid : 0 ≤ id ∧ id < (m : Int)) (hk : ∀ i, i < l.length → i64R (l.getD i 0)) (hf : marksFit l m id = true) : Calls Try.prog 78 #[v, .int .i64 m, .int .i64 id] w (MissT w l.length m) :=
  (iMissing_c h hm hid hk).mono (by
    rintro e w' ⟨hB, ⟨hc, -⟩ | ⟨-, b, N, c, p, he, hS, hl⟩⟩
    · rw [hf] at hc; cases hc
    · exact ⟨b, N, c, p, he, hS, hl, hB⟩)
theorem iMissing_f {w : World} {v : Value} {l : List Int} {m : Nat} {id : Int} (h : RS .i64 w v l) (hm : 1 ≤ m ∧ m ≤ 4) (hid : 0 ≤ id ∧ id < (m : Int)) (hk : ∀ i, i < l.length → i64R (l.getD i 0)) (hf : marksFit l m id = false) : Calls Try.prog 78 #[v, .int .i64 m, .int .i64 id] w fun e w' => e = .returned (.tuple #[.map none, .bool false]) ∧ Below w.heap.size w w' :=
  (iMissing_c h hm hid hk).mono (by
    rintro e w' ⟨hB, ⟨-, he⟩ | ⟨hc, -⟩⟩
    · exact ⟨he, hB⟩
    · rw [hf] at hc; cases hc)

set_option maxRecDepth 100000 in
set_option maxHeartbeats 4000000 in
theorem iClosedOk_c {w : World} {v : Value} {a : MAcct} {m : Nat} {id : Int} (h : RV acctL w v a) (hb : a.bulk ≤ 16777216) (hm : 1 ≤ m ∧ m ≤ 4) (hid : 0 ≤ id ∧ id < (m : Int)) (hk : ∀ i, i < a.Marks.length → i64R (a.Marks.getD i 0)) : Calls Try.prog 51 #[v, .int .i64 m, .int .i64 id] w fun e w' => e = .returned (.bool (closedB a m id)) ∧ Below w.heap.size w w' := by
  obtain ⟨AM, cM, AR, cR, rfl, rM, rR⟩ := rv_acct h
  clear h
  have hbR : a.Reps.length ≤ 16777216 := by unfold MAcct.bulk at hb; omega
  clear hb
  have HE : Hid (closedB a m id = (marksFit a.Marks m id && (ascB a.Marks && (amtsB a.Reps && (wideB (nodesR a.Reps) (m - 1) && (ownB a m id && (ownFit a id && (inB a.By 0 (m - 1) && decide (a.State = stateOf a.Reps.length m))))))))) := closed_eq (by omega)
  have HK := Lib.hid hk
  clear hk
  obtain ⟨wa, hwa, B0, sa, x_a⟩ := frame1 w 27 [.int .i64 a.Have, .int .i64 a.State, .int .i64 a.By, .slice AM a.Marks.length cM, .slice AR a.Reps.length cR]
  have sa_1 := Nat.le_of_eq sa
  have sa_2 := Nat.le_of_eq sa.symm
  clear sa
  have c_a_0_wa := x_a.cell (i := 0) rfl
  have f_a_0_wa := x_a.frozen 0
  have c_a_1_wa := x_a.cell (i := 1) rfl
  have f_a_1_wa := x_a.frozen 1
  have c_a_2_wa := x_a.cell (i := 2) rfl
  have f_a_2_wa := x_a.frozen 2
  have c_a_3_wa := x_a.cell (i := 3) rfl
  have f_a_3_wa := x_a.frozen 3
  have c_a_4_wa := x_a.cell (i := 4) rfl
  have f_a_4_wa := x_a.frozen 4
  by_cases hF : marksFit a.Marks m id = true
  case neg =>
    replace hF : marksFit a.Marks m id = false := by simpa using hF
    have HF := Lib.hid hF
    have HO : Hid (closedB a m id = false) := by show _ = _; rw [HE.out, hF]; simp
    clear hF
    go_enter Try.func51, Try.ntmps51
    go_wp2_with fail
    refine (iMissing_f (rM.from_ B0) hm hid HK.out HF.out).mono ?_
    rintro e w1 ⟨rfl, h_w1⟩
    clear c_a_0_wa f_a_0_wa c_a_1_wa f_a_1_wa c_a_2_wa f_a_2_wa c_a_3_wa f_a_3_wa c_a_4_wa f_a_4_wa
    replace x_a := x_a.from_ h_w1
    have B_w1 := B0.trans (h_w1.mono B0.size)
    have s_w1 := h_w1.size
    have c_a_0_w1 := x_a.cell (i := 0) rfl
    have f_a_0_w1 := x_a.frozen 0
    have c_a_1_w1 := x_a.cell (i := 1) rfl
    have f_a_1_w1 := x_a.frozen 1
    have c_a_2_w1 := x_a.cell (i := 2) rfl
    have f_a_2_w1 := x_a.frozen 2
    have c_a_3_w1 := x_a.cell (i := 3) rfl
    have f_a_3_w1 := x_a.frozen 3
    have c_a_4_w1 := x_a.cell (i := 4) rfl
    have f_a_4_w1 := x_a.frozen 4
    go_wp2
    go_ret
    exact ⟨ret_eq (by rw [HO.out]; rfl), B_w1⟩
  have HF := Lib.hid hF
  clear hF
  by_cases hA : ascB a.Marks = true
  case neg =>
    replace hA : ascB a.Marks = false := by simpa using hA
    have HA := Lib.hid hA
    have HO : Hid (closedB a m id = false) := by show _ = _; rw [HE.out, hA]; simp
    clear hA
    go_enter Try.func51, Try.ntmps51
    go_wp2_with fail
    refine (iMissing_t (rM.from_ B0) hm hid HK.out HF.out).mono ?_
    rintro e w1 ⟨b9, N9, c9, p9, rfl, oS, hcl, h_w1⟩
    clear c_a_0_wa f_a_0_wa c_a_1_wa f_a_1_wa c_a_2_wa f_a_2_wa c_a_3_wa f_a_3_wa c_a_4_wa f_a_4_wa
    replace x_a := x_a.from_ h_w1
    have B_w1 := B0.trans (h_w1.mono B0.size)
    have s_w1 := h_w1.size
    have HC := Lib.hid hcl
    clear hcl
    have c_a_0_w1 := x_a.cell (i := 0) rfl
    have f_a_0_w1 := x_a.frozen 0
    have c_a_1_w1 := x_a.cell (i := 1) rfl
    have f_a_1_w1 := x_a.frozen 1
    have c_a_2_w1 := x_a.cell (i := 2) rfl
    have f_a_2_w1 := x_a.frozen 2
    have c_a_3_w1 := x_a.cell (i := 3) rfl
    have f_a_3_w1 := x_a.frozen 3
    have c_a_4_w1 := x_a.cell (i := 4) rfl
    have f_a_4_w1 := x_a.frozen 4
    go_wp2_with fail
    refine (iNodesS_c (rM.from_ B_w1)).mono ?_
    rintro e w' ⟨rfl, rfl⟩
    go_wp2_with fail
    refine (iAsc_c (rM.from_ B_w1)).mono ?_
    rintro e w2 ⟨rfl, h_w2⟩
    clear c_a_0_w1 f_a_0_w1 c_a_1_w1 f_a_1_w1 c_a_2_w1 f_a_2_w1 c_a_3_w1 f_a_3_w1 c_a_4_w1 f_a_4_w1
    replace x_a := x_a.from_ h_w2
    replace oS := oS.below h_w2
    have B_w2 := B_w1.trans (h_w2.mono B_w1.size)
    have s_w2 := h_w2.size
    rw [HA.out]
    have c_a_0_w2 := x_a.cell (i := 0) rfl
    have f_a_0_w2 := x_a.frozen 0
    have c_a_1_w2 := x_a.cell (i := 1) rfl
    have f_a_1_w2 := x_a.frozen 1
    have c_a_2_w2 := x_a.cell (i := 2) rfl
    have f_a_2_w2 := x_a.frozen 2
    have c_a_3_w2 := x_a.cell (i := 3) rfl
    have f_a_3_w2 := x_a.frozen 3
    have c_a_4_w2 := x_a.cell (i := 4) rfl
    have f_a_4_w2 := x_a.frozen 4
    go_wp2
    go_ret
    exact ⟨ret_eq (by rw [HO.out]; rfl), B_w2⟩
  have HA := Lib.hid hA
  clear hA
  by_cases hR : repsIn a.Reps m = true
  case neg =>
    replace hR : repsIn a.Reps m = false := by simpa using hR
    have HR := Lib.hid hR
    have HO : Hid (closedB a m id = false) := by show _ = _; rw [HE.out, HF.out, HA.out]; unfold repsIn at hR; rw [← Bool.and_assoc (amtsB a.Reps), hR]; rfl
    clear hR
    go_enter Try.func51, Try.ntmps51
    go_wp2_with fail
    refine (iMissing_t (rM.from_ B0) hm hid HK.out HF.out).mono ?_
    rintro e w1 ⟨b9, N9, c9, p9, rfl, oS, hcl, h_w1⟩
    clear c_a_0_wa f_a_0_wa c_a_1_wa f_a_1_wa c_a_2_wa f_a_2_wa c_a_3_wa f_a_3_wa c_a_4_wa f_a_4_wa
    replace x_a := x_a.from_ h_w1
    have B_w1 := B0.trans (h_w1.mono B0.size)
    have s_w1 := h_w1.size
    have HC := Lib.hid hcl
    clear hcl
    have c_a_0_w1 := x_a.cell (i := 0) rfl
    have f_a_0_w1 := x_a.frozen 0
    have c_a_1_w1 := x_a.cell (i := 1) rfl
    have f_a_1_w1 := x_a.frozen 1
    have c_a_2_w1 := x_a.cell (i := 2) rfl
    have f_a_2_w1 := x_a.frozen 2
    have c_a_3_w1 := x_a.cell (i := 3) rfl
    have f_a_3_w1 := x_a.frozen 3
    have c_a_4_w1 := x_a.cell (i := 4) rfl
    have f_a_4_w1 := x_a.frozen 4
    go_wp2_with fail
    refine (iNodesS_c (rM.from_ B_w1)).mono ?_
    rintro e w' ⟨rfl, rfl⟩
    go_wp2_with fail
    refine (iAsc_c (rM.from_ B_w1)).mono ?_
    rintro e w2 ⟨rfl, h_w2⟩
    clear c_a_0_w1 f_a_0_w1 c_a_1_w1 f_a_1_w1 c_a_2_w1 f_a_2_w1 c_a_3_w1 f_a_3_w1 c_a_4_w1 f_a_4_w1
    replace x_a := x_a.from_ h_w2
    replace oS := oS.below h_w2
    have B_w2 := B_w1.trans (h_w2.mono B_w1.size)
    have s_w2 := h_w2.size
    rw [HA.out]
    have c_a_0_w2 := x_a.cell (i := 0) rfl
    have f_a_0_w2 := x_a.frozen 0
    have c_a_1_w2 := x_a.cell (i := 1) rfl
    have f_a_1_w2 := x_a.frozen 1
    have c_a_2_w2 := x_a.cell (i := 2) rfl
    have f_a_2_w2 := x_a.frozen 2
    have c_a_3_w2 := x_a.cell (i := 3) rfl
    have f_a_3_w2 := x_a.frozen 3
    have c_a_4_w2 := x_a.cell (i := 4) rfl
    have f_a_4_w2 := x_a.frozen 4
    go_wp2_with fail
    refine (iRepsOk_c (rR.from_ B_w2) hbR (by omega)).mono ?_
    rintro e w3 ⟨rfl, h_w3⟩
    clear c_a_0_w2 f_a_0_w2 c_a_1_w2 f_a_1_w2 c_a_2_w2 f_a_2_w2 c_a_3_w2 f_a_3_w2 c_a_4_w2 f_a_4_w2
    replace x_a := x_a.from_ h_w3
    replace oS := oS.below h_w3
    have B_w3 := B_w2.trans (h_w3.mono B_w2.size)
    have s_w3 := h_w3.size
    rw [HR.out]
    have c_a_0_w3 := x_a.cell (i := 0) rfl
    have f_a_0_w3 := x_a.frozen 0
    have c_a_1_w3 := x_a.cell (i := 1) rfl
    have f_a_1_w3 := x_a.frozen 1
    have c_a_2_w3 := x_a.cell (i := 2) rfl
    have f_a_2_w3 := x_a.frozen 2
    have c_a_3_w3 := x_a.cell (i := 3) rfl
    have f_a_3_w3 := x_a.frozen 3
    have c_a_4_w3 := x_a.cell (i := 4) rfl
    have f_a_4_w3 := x_a.frozen 4
    go_wp2
    go_ret
    exact ⟨ret_eq (by rw [HO.out]; rfl), B_w3⟩
  have HR := Lib.hid hR
  have HE2 : Hid (closedB a m id = (ownB a m id && (ownFit a id && (inB a.By 0 (m - 1) && decide (a.State = stateOf a.Reps.length m))))) := by show _ = _; rw [HE.out, HF.out, HA.out]; unfold repsIn at hR; rw [← Bool.and_assoc (amtsB a.Reps), hR]; rfl
  clear hR
  by_cases hH : hasRep a.Reps id = true
  case pos =>
    have HH := Lib.hid hH
    by_cases hK : a.Marks.length + 1 = m
    case pos =>
      have HOW : Hid (ownB a m id = true) := by show _ = _; unfold ownB; rw [hH, decide_eq_true (show (a.Marks.length : Int) = (m : Int) - 1 by omega)]; rfl
      have HK2 := Lib.hid hK
      clear hK hH
      by_cases hA9 : (repFirst a.Reps id).Amt = a.Have
      case neg =>
        have HO : Hid (closedB a m id = false) := by show _ = _; rw [HE2.out, HOW.out]; unfold ownFit; rw [HH.out, decide_eq_false hA9]; rfl
        have gA : ((repFirst a.Reps id).Amt != a.Have) = true := by simpa using hA9
        clear hA9
        go_enter Try.func51, Try.ntmps51
        go_wp2_with fail
        refine (iMissing_t (rM.from_ B0) hm hid HK.out HF.out).mono ?_
        rintro e w1 ⟨b9, N9, c9, p9, rfl, oS, hcl, h_w1⟩
        clear c_a_0_wa f_a_0_wa c_a_1_wa f_a_1_wa c_a_2_wa f_a_2_wa c_a_3_wa f_a_3_wa c_a_4_wa f_a_4_wa
        replace x_a := x_a.from_ h_w1
        have B_w1 := B0.trans (h_w1.mono B0.size)
        have s_w1 := h_w1.size
        have HC := Lib.hid hcl
        clear hcl
        have c_a_0_w1 := x_a.cell (i := 0) rfl
        have f_a_0_w1 := x_a.frozen 0
        have c_a_1_w1 := x_a.cell (i := 1) rfl
        have f_a_1_w1 := x_a.frozen 1
        have c_a_2_w1 := x_a.cell (i := 2) rfl
        have f_a_2_w1 := x_a.frozen 2
        have c_a_3_w1 := x_a.cell (i := 3) rfl
        have f_a_3_w1 := x_a.frozen 3
        have c_a_4_w1 := x_a.cell (i := 4) rfl
        have f_a_4_w1 := x_a.frozen 4
        go_wp2_with fail
        refine (iNodesS_c (rM.from_ B_w1)).mono ?_
        rintro e w' ⟨rfl, rfl⟩
        go_wp2_with fail
        refine (iAsc_c (rM.from_ B_w1)).mono ?_
        rintro e w2 ⟨rfl, h_w2⟩
        clear c_a_0_w1 f_a_0_w1 c_a_1_w1 f_a_1_w1 c_a_2_w1 f_a_2_w1 c_a_3_w1 f_a_3_w1 c_a_4_w1 f_a_4_w1
        replace x_a := x_a.from_ h_w2
        replace oS := oS.below h_w2
        have B_w2 := B_w1.trans (h_w2.mono B_w1.size)
        have s_w2 := h_w2.size
        rw [HA.out]
        have c_a_0_w2 := x_a.cell (i := 0) rfl
        have f_a_0_w2 := x_a.frozen 0
        have c_a_1_w2 := x_a.cell (i := 1) rfl
        have f_a_1_w2 := x_a.frozen 1
        have c_a_2_w2 := x_a.cell (i := 2) rfl
        have f_a_2_w2 := x_a.frozen 2
        have c_a_3_w2 := x_a.cell (i := 3) rfl
        have f_a_3_w2 := x_a.frozen 3
        have c_a_4_w2 := x_a.cell (i := 4) rfl
        have f_a_4_w2 := x_a.frozen 4
        go_wp2_with fail
        refine (iRepsOk_c (rR.from_ B_w2) hbR (by omega)).mono ?_
        rintro e w3 ⟨rfl, h_w3⟩
        clear c_a_0_w2 f_a_0_w2 c_a_1_w2 f_a_1_w2 c_a_2_w2 f_a_2_w2 c_a_3_w2 f_a_3_w2 c_a_4_w2 f_a_4_w2
        replace x_a := x_a.from_ h_w3
        replace oS := oS.below h_w3
        have B_w3 := B_w2.trans (h_w3.mono B_w2.size)
        have s_w3 := h_w3.size
        rw [HR.out]
        have c_a_0_w3 := x_a.cell (i := 0) rfl
        have f_a_0_w3 := x_a.frozen 0
        have c_a_1_w3 := x_a.cell (i := 1) rfl
        have f_a_1_w3 := x_a.frozen 1
        have c_a_2_w3 := x_a.cell (i := 2) rfl
        have f_a_2_w3 := x_a.frozen 2
        have c_a_3_w3 := x_a.cell (i := 3) rfl
        have f_a_3_w3 := x_a.frozen 3
        have c_a_4_w3 := x_a.cell (i := 4) rfl
        have f_a_4_w3 := x_a.frozen 4
        go_wp2_with fail
        refine (iRepOf_c (n := id) (rR.from_ B_w3)).mono ?_
        rintro e w4 ⟨u_, rfl, ou, h_w4⟩
        clear c_a_0_w3 f_a_0_w3 c_a_1_w3 f_a_1_w3 c_a_2_w3 f_a_2_w3 c_a_3_w3 f_a_3_w3 c_a_4_w3 f_a_4_w3
        replace x_a := x_a.from_ h_w4
        replace oS := oS.below h_w4
        have B_w4 := B_w3.trans (h_w4.mono B_w3.size)
        have s_w4 := h_w4.size
        rw [HH.out]
        obtain rfl := rv_rep ou.rd
        clear ou
        have c_a_0_w4 := x_a.cell (i := 0) rfl
        have f_a_0_w4 := x_a.frozen 0
        have c_a_1_w4 := x_a.cell (i := 1) rfl
        have f_a_1_w4 := x_a.frozen 1
        have c_a_2_w4 := x_a.cell (i := 2) rfl
        have f_a_2_w4 := x_a.frozen 2
        have c_a_3_w4 := x_a.cell (i := 3) rfl
        have f_a_3_w4 := x_a.frozen 3
        have c_a_4_w4 := x_a.cell (i := 4) rfl
        have f_a_4_w4 := x_a.frozen 4
        obtain ⟨w5, e_w5, s_w5, h_w5, x_o⟩ := alloc_step w4 57 [.int .i64 (repFirst a.Reps id).Node, .int .i64 (repFirst a.Reps id).Amt]
        have s_w5_1 := Nat.le_of_eq s_w5
        have s_w5_2 := Nat.le_of_eq s_w5.symm
        clear s_w5
        replace x_a := x_a.from_ h_w5
        replace oS := oS.below h_w5
        have B_w5 := B_w4.trans (h_w5.mono B_w4.size)
        have c_a_0_w5 := x_a.cell (i := 0) rfl
        have f_a_0_w5 := x_a.frozen 0
        have c_a_1_w5 := x_a.cell (i := 1) rfl
        have f_a_1_w5 := x_a.frozen 1
        have c_a_2_w5 := x_a.cell (i := 2) rfl
        have f_a_2_w5 := x_a.frozen 2
        have c_a_3_w5 := x_a.cell (i := 3) rfl
        have f_a_3_w5 := x_a.frozen 3
        have c_a_4_w5 := x_a.cell (i := 4) rfl
        have f_a_4_w5 := x_a.frozen 4
        have c_o_0_w5 := x_o.cell (i := 0) rfl
        have f_o_0_w5 := x_o.frozen 0
        have c_o_1_w5 := x_o.cell (i := 1) rfl
        have f_o_1_w5 := x_o.frozen 1
        have g0 : ((c9 : Int) == 0) = true := by have h1 := HC.out; have h2 := HK2.out; rw [beq_iff_eq]; omega
        go_wp2_with (at_len; refine wpl_msLen _ rfl (.tmp 43) rfl oS rfl ?_)
        go_ret
        exact ⟨ret_eq (by rw [HO.out]; rfl), B_w5⟩
      have HFT : Hid (ownFit a id = true) := by show _ = _; unfold ownFit; rw [HH.out, decide_eq_true hA9]; rfl
      have gA : ((repFirst a.Reps id).Amt != a.Have) = false := by simpa using hA9
      clear hA9
      obtain ⟨S, hS⟩ : ∃ S, stateOf (a.Reps.length : Int) (m : Int) = S := ⟨_, rfl⟩
      have HS := Lib.hid hS
      have ks : ∀ W, Calls Try.prog 82 #[.int .i64 (a.Reps.length : Int), .int .i64 (m : Int)] W fun e w' => e = .returned (.int .i64 S) ∧ w' = W := fun W => (iClosedState_any _ _ W).mono (by rintro e w' ⟨rfl, rfl⟩; exact ⟨by rw [HS.out], rfl⟩)
      clear hS
      by_cases hBy : inB a.By 0 (m - 1) = true
      case neg =>
        replace hBy : inB a.By 0 (m - 1) = false := by simpa using hBy
        have HBy := Lib.hid hBy
        have kn : ∀ W, Calls Try.prog 50 #[.int .i64 a.By, .int .i64 (m : Int)] W fun e w' => e = .returned (.bool false) ∧ w' = W := fun W => (iNodeOf_any _ _ W).mono (by rintro e w' ⟨rfl, rfl⟩; exact ⟨by rw [HBy.out], rfl⟩)
        clear hBy
        have HO : Hid (closedB a m id = false) := by show _ = _; rw [HE2.out, HOW.out, HFT.out, HBy.out]; rfl
        go_enter Try.func51, Try.ntmps51
        go_wp2_with fail
        refine (iMissing_t (rM.from_ B0) hm hid HK.out HF.out).mono ?_
        rintro e w1 ⟨b9, N9, c9, p9, rfl, oS, hcl, h_w1⟩
        clear c_a_0_wa f_a_0_wa c_a_1_wa f_a_1_wa c_a_2_wa f_a_2_wa c_a_3_wa f_a_3_wa c_a_4_wa f_a_4_wa
        replace x_a := x_a.from_ h_w1
        have B_w1 := B0.trans (h_w1.mono B0.size)
        have s_w1 := h_w1.size
        have HC := Lib.hid hcl
        clear hcl
        have c_a_0_w1 := x_a.cell (i := 0) rfl
        have f_a_0_w1 := x_a.frozen 0
        have c_a_1_w1 := x_a.cell (i := 1) rfl
        have f_a_1_w1 := x_a.frozen 1
        have c_a_2_w1 := x_a.cell (i := 2) rfl
        have f_a_2_w1 := x_a.frozen 2
        have c_a_3_w1 := x_a.cell (i := 3) rfl
        have f_a_3_w1 := x_a.frozen 3
        have c_a_4_w1 := x_a.cell (i := 4) rfl
        have f_a_4_w1 := x_a.frozen 4
        go_wp2_with fail
        refine (iNodesS_c (rM.from_ B_w1)).mono ?_
        rintro e w' ⟨rfl, rfl⟩
        go_wp2_with fail
        refine (iAsc_c (rM.from_ B_w1)).mono ?_
        rintro e w2 ⟨rfl, h_w2⟩
        clear c_a_0_w1 f_a_0_w1 c_a_1_w1 f_a_1_w1 c_a_2_w1 f_a_2_w1 c_a_3_w1 f_a_3_w1 c_a_4_w1 f_a_4_w1
        replace x_a := x_a.from_ h_w2
        replace oS := oS.below h_w2
        have B_w2 := B_w1.trans (h_w2.mono B_w1.size)
        have s_w2 := h_w2.size
        rw [HA.out]
        have c_a_0_w2 := x_a.cell (i := 0) rfl
        have f_a_0_w2 := x_a.frozen 0
        have c_a_1_w2 := x_a.cell (i := 1) rfl
        have f_a_1_w2 := x_a.frozen 1
        have c_a_2_w2 := x_a.cell (i := 2) rfl
        have f_a_2_w2 := x_a.frozen 2
        have c_a_3_w2 := x_a.cell (i := 3) rfl
        have f_a_3_w2 := x_a.frozen 3
        have c_a_4_w2 := x_a.cell (i := 4) rfl
        have f_a_4_w2 := x_a.frozen 4
        go_wp2_with fail
        refine (iRepsOk_c (rR.from_ B_w2) hbR (by omega)).mono ?_
        rintro e w3 ⟨rfl, h_w3⟩
        clear c_a_0_w2 f_a_0_w2 c_a_1_w2 f_a_1_w2 c_a_2_w2 f_a_2_w2 c_a_3_w2 f_a_3_w2 c_a_4_w2 f_a_4_w2
        replace x_a := x_a.from_ h_w3
        replace oS := oS.below h_w3
        have B_w3 := B_w2.trans (h_w3.mono B_w2.size)
        have s_w3 := h_w3.size
        rw [HR.out]
        have c_a_0_w3 := x_a.cell (i := 0) rfl
        have f_a_0_w3 := x_a.frozen 0
        have c_a_1_w3 := x_a.cell (i := 1) rfl
        have f_a_1_w3 := x_a.frozen 1
        have c_a_2_w3 := x_a.cell (i := 2) rfl
        have f_a_2_w3 := x_a.frozen 2
        have c_a_3_w3 := x_a.cell (i := 3) rfl
        have f_a_3_w3 := x_a.frozen 3
        have c_a_4_w3 := x_a.cell (i := 4) rfl
        have f_a_4_w3 := x_a.frozen 4
        go_wp2_with fail
        refine (iRepOf_c (n := id) (rR.from_ B_w3)).mono ?_
        rintro e w4 ⟨u_, rfl, ou, h_w4⟩
        clear c_a_0_w3 f_a_0_w3 c_a_1_w3 f_a_1_w3 c_a_2_w3 f_a_2_w3 c_a_3_w3 f_a_3_w3 c_a_4_w3 f_a_4_w3
        replace x_a := x_a.from_ h_w4
        replace oS := oS.below h_w4
        have B_w4 := B_w3.trans (h_w4.mono B_w3.size)
        have s_w4 := h_w4.size
        rw [HH.out]
        obtain rfl := rv_rep ou.rd
        clear ou
        have c_a_0_w4 := x_a.cell (i := 0) rfl
        have f_a_0_w4 := x_a.frozen 0
        have c_a_1_w4 := x_a.cell (i := 1) rfl
        have f_a_1_w4 := x_a.frozen 1
        have c_a_2_w4 := x_a.cell (i := 2) rfl
        have f_a_2_w4 := x_a.frozen 2
        have c_a_3_w4 := x_a.cell (i := 3) rfl
        have f_a_3_w4 := x_a.frozen 3
        have c_a_4_w4 := x_a.cell (i := 4) rfl
        have f_a_4_w4 := x_a.frozen 4
        obtain ⟨w5, e_w5, s_w5, h_w5, x_o⟩ := alloc_step w4 57 [.int .i64 (repFirst a.Reps id).Node, .int .i64 (repFirst a.Reps id).Amt]
        have s_w5_1 := Nat.le_of_eq s_w5
        have s_w5_2 := Nat.le_of_eq s_w5.symm
        clear s_w5
        replace x_a := x_a.from_ h_w5
        replace oS := oS.below h_w5
        have B_w5 := B_w4.trans (h_w5.mono B_w4.size)
        have c_a_0_w5 := x_a.cell (i := 0) rfl
        have f_a_0_w5 := x_a.frozen 0
        have c_a_1_w5 := x_a.cell (i := 1) rfl
        have f_a_1_w5 := x_a.frozen 1
        have c_a_2_w5 := x_a.cell (i := 2) rfl
        have f_a_2_w5 := x_a.frozen 2
        have c_a_3_w5 := x_a.cell (i := 3) rfl
        have f_a_3_w5 := x_a.frozen 3
        have c_a_4_w5 := x_a.cell (i := 4) rfl
        have f_a_4_w5 := x_a.frozen 4
        have c_o_0_w5 := x_o.cell (i := 0) rfl
        have f_o_0_w5 := x_o.frozen 0
        have c_o_1_w5 := x_o.cell (i := 1) rfl
        have f_o_1_w5 := x_o.frozen 1
        have g0 : ((c9 : Int) == 0) = true := by have h1 := HC.out; have h2 := HK2.out; rw [beq_iff_eq]; omega
        go_wp2_with (at_len; refine wpl_msLen _ rfl (.tmp 43) rfl oS rfl ?_)
        go_quiet ((first | (go_at_call 50; exact Calls.quiet_of_same (kn _)) | (go_at_call 82; exact Calls.quiet_of_same (ks _))))
        have B9 := B_w5.trans (below_of_drew _ _ nq)
        go_wp2
        go_ret
        exact ⟨ret_eq (by rw [HO.out]; rfl), B9⟩
      have HBy := Lib.hid hBy
      have kn : ∀ W, Calls Try.prog 50 #[.int .i64 a.By, .int .i64 (m : Int)] W fun e w' => e = .returned (.bool true) ∧ w' = W := fun W => (iNodeOf_any _ _ W).mono (by rintro e w' ⟨rfl, rfl⟩; exact ⟨by rw [HBy.out], rfl⟩)
      clear hBy
      by_cases hSt : a.State = S
      case pos =>
        have HO : Hid (closedB a m id = true) := by show _ = _; rw [HE2.out, HOW.out, HFT.out, HBy.out, HS.out, decide_eq_true hSt]; rfl
        have gS : (a.State == S) = true := by simpa using hSt
        clear hSt
        go_enter Try.func51, Try.ntmps51
        go_wp2_with fail
        refine (iMissing_t (rM.from_ B0) hm hid HK.out HF.out).mono ?_
        rintro e w1 ⟨b9, N9, c9, p9, rfl, oS, hcl, h_w1⟩
        clear c_a_0_wa f_a_0_wa c_a_1_wa f_a_1_wa c_a_2_wa f_a_2_wa c_a_3_wa f_a_3_wa c_a_4_wa f_a_4_wa
        replace x_a := x_a.from_ h_w1
        have B_w1 := B0.trans (h_w1.mono B0.size)
        have s_w1 := h_w1.size
        have HC := Lib.hid hcl
        clear hcl
        have c_a_0_w1 := x_a.cell (i := 0) rfl
        have f_a_0_w1 := x_a.frozen 0
        have c_a_1_w1 := x_a.cell (i := 1) rfl
        have f_a_1_w1 := x_a.frozen 1
        have c_a_2_w1 := x_a.cell (i := 2) rfl
        have f_a_2_w1 := x_a.frozen 2
        have c_a_3_w1 := x_a.cell (i := 3) rfl
        have f_a_3_w1 := x_a.frozen 3
        have c_a_4_w1 := x_a.cell (i := 4) rfl
        have f_a_4_w1 := x_a.frozen 4
        go_wp2_with fail
        refine (iNodesS_c (rM.from_ B_w1)).mono ?_
        rintro e w' ⟨rfl, rfl⟩
        go_wp2_with fail
        refine (iAsc_c (rM.from_ B_w1)).mono ?_
        rintro e w2 ⟨rfl, h_w2⟩
        clear c_a_0_w1 f_a_0_w1 c_a_1_w1 f_a_1_w1 c_a_2_w1 f_a_2_w1 c_a_3_w1 f_a_3_w1 c_a_4_w1 f_a_4_w1
        replace x_a := x_a.from_ h_w2
        replace oS := oS.below h_w2
        have B_w2 := B_w1.trans (h_w2.mono B_w1.size)
        have s_w2 := h_w2.size
        rw [HA.out]
        have c_a_0_w2 := x_a.cell (i := 0) rfl
        have f_a_0_w2 := x_a.frozen 0
        have c_a_1_w2 := x_a.cell (i := 1) rfl
        have f_a_1_w2 := x_a.frozen 1
        have c_a_2_w2 := x_a.cell (i := 2) rfl
        have f_a_2_w2 := x_a.frozen 2
        have c_a_3_w2 := x_a.cell (i := 3) rfl
        have f_a_3_w2 := x_a.frozen 3
        have c_a_4_w2 := x_a.cell (i := 4) rfl
        have f_a_4_w2 := x_a.frozen 4
        go_wp2_with fail
        refine (iRepsOk_c (rR.from_ B_w2) hbR (by omega)).mono ?_
        rintro e w3 ⟨rfl, h_w3⟩
        clear c_a_0_w2 f_a_0_w2 c_a_1_w2 f_a_1_w2 c_a_2_w2 f_a_2_w2 c_a_3_w2 f_a_3_w2 c_a_4_w2 f_a_4_w2
        replace x_a := x_a.from_ h_w3
        replace oS := oS.below h_w3
        have B_w3 := B_w2.trans (h_w3.mono B_w2.size)
        have s_w3 := h_w3.size
        rw [HR.out]
        have c_a_0_w3 := x_a.cell (i := 0) rfl
        have f_a_0_w3 := x_a.frozen 0
        have c_a_1_w3 := x_a.cell (i := 1) rfl
        have f_a_1_w3 := x_a.frozen 1
        have c_a_2_w3 := x_a.cell (i := 2) rfl
        have f_a_2_w3 := x_a.frozen 2
        have c_a_3_w3 := x_a.cell (i := 3) rfl
        have f_a_3_w3 := x_a.frozen 3
        have c_a_4_w3 := x_a.cell (i := 4) rfl
        have f_a_4_w3 := x_a.frozen 4
        go_wp2_with fail
        refine (iRepOf_c (n := id) (rR.from_ B_w3)).mono ?_
        rintro e w4 ⟨u_, rfl, ou, h_w4⟩
        clear c_a_0_w3 f_a_0_w3 c_a_1_w3 f_a_1_w3 c_a_2_w3 f_a_2_w3 c_a_3_w3 f_a_3_w3 c_a_4_w3 f_a_4_w3
        replace x_a := x_a.from_ h_w4
        replace oS := oS.below h_w4
        have B_w4 := B_w3.trans (h_w4.mono B_w3.size)
        have s_w4 := h_w4.size
        rw [HH.out]
        obtain rfl := rv_rep ou.rd
        clear ou
        have c_a_0_w4 := x_a.cell (i := 0) rfl
        have f_a_0_w4 := x_a.frozen 0
        have c_a_1_w4 := x_a.cell (i := 1) rfl
        have f_a_1_w4 := x_a.frozen 1
        have c_a_2_w4 := x_a.cell (i := 2) rfl
        have f_a_2_w4 := x_a.frozen 2
        have c_a_3_w4 := x_a.cell (i := 3) rfl
        have f_a_3_w4 := x_a.frozen 3
        have c_a_4_w4 := x_a.cell (i := 4) rfl
        have f_a_4_w4 := x_a.frozen 4
        obtain ⟨w5, e_w5, s_w5, h_w5, x_o⟩ := alloc_step w4 57 [.int .i64 (repFirst a.Reps id).Node, .int .i64 (repFirst a.Reps id).Amt]
        have s_w5_1 := Nat.le_of_eq s_w5
        have s_w5_2 := Nat.le_of_eq s_w5.symm
        clear s_w5
        replace x_a := x_a.from_ h_w5
        replace oS := oS.below h_w5
        have B_w5 := B_w4.trans (h_w5.mono B_w4.size)
        have c_a_0_w5 := x_a.cell (i := 0) rfl
        have f_a_0_w5 := x_a.frozen 0
        have c_a_1_w5 := x_a.cell (i := 1) rfl
        have f_a_1_w5 := x_a.frozen 1
        have c_a_2_w5 := x_a.cell (i := 2) rfl
        have f_a_2_w5 := x_a.frozen 2
        have c_a_3_w5 := x_a.cell (i := 3) rfl
        have f_a_3_w5 := x_a.frozen 3
        have c_a_4_w5 := x_a.cell (i := 4) rfl
        have f_a_4_w5 := x_a.frozen 4
        have c_o_0_w5 := x_o.cell (i := 0) rfl
        have f_o_0_w5 := x_o.frozen 0
        have c_o_1_w5 := x_o.cell (i := 1) rfl
        have f_o_1_w5 := x_o.frozen 1
        have g0 : ((c9 : Int) == 0) = true := by have h1 := HC.out; have h2 := HK2.out; rw [beq_iff_eq]; omega
        go_wp2_with (at_len; refine wpl_msLen _ rfl (.tmp 43) rfl oS rfl ?_)
        go_quiet ((first | (go_at_call 50; exact Calls.quiet_of_same (kn _)) | (go_at_call 82; exact Calls.quiet_of_same (ks _))))
        have B9 := B_w5.trans (below_of_drew _ _ nq)
        go_wp2
        go_ret
        exact ⟨ret_eq (by rw [HO.out]; rfl), B9⟩
      case neg =>
        have HO : Hid (closedB a m id = false) := by show _ = _; rw [HE2.out, HOW.out, HFT.out, HBy.out, HS.out, decide_eq_false hSt]; rfl
        have gS : (a.State == S) = false := by simpa using hSt
        clear hSt
        go_enter Try.func51, Try.ntmps51
        go_wp2_with fail
        refine (iMissing_t (rM.from_ B0) hm hid HK.out HF.out).mono ?_
        rintro e w1 ⟨b9, N9, c9, p9, rfl, oS, hcl, h_w1⟩
        clear c_a_0_wa f_a_0_wa c_a_1_wa f_a_1_wa c_a_2_wa f_a_2_wa c_a_3_wa f_a_3_wa c_a_4_wa f_a_4_wa
        replace x_a := x_a.from_ h_w1
        have B_w1 := B0.trans (h_w1.mono B0.size)
        have s_w1 := h_w1.size
        have HC := Lib.hid hcl
        clear hcl
        have c_a_0_w1 := x_a.cell (i := 0) rfl
        have f_a_0_w1 := x_a.frozen 0
        have c_a_1_w1 := x_a.cell (i := 1) rfl
        have f_a_1_w1 := x_a.frozen 1
        have c_a_2_w1 := x_a.cell (i := 2) rfl
        have f_a_2_w1 := x_a.frozen 2
        have c_a_3_w1 := x_a.cell (i := 3) rfl
        have f_a_3_w1 := x_a.frozen 3
        have c_a_4_w1 := x_a.cell (i := 4) rfl
        have f_a_4_w1 := x_a.frozen 4
        go_wp2_with fail
        refine (iNodesS_c (rM.from_ B_w1)).mono ?_
        rintro e w' ⟨rfl, rfl⟩
        go_wp2_with fail
        refine (iAsc_c (rM.from_ B_w1)).mono ?_
        rintro e w2 ⟨rfl, h_w2⟩
        clear c_a_0_w1 f_a_0_w1 c_a_1_w1 f_a_1_w1 c_a_2_w1 f_a_2_w1 c_a_3_w1 f_a_3_w1 c_a_4_w1 f_a_4_w1
        replace x_a := x_a.from_ h_w2
        replace oS := oS.below h_w2
        have B_w2 := B_w1.trans (h_w2.mono B_w1.size)
        have s_w2 := h_w2.size
        rw [HA.out]
        have c_a_0_w2 := x_a.cell (i := 0) rfl
        have f_a_0_w2 := x_a.frozen 0
        have c_a_1_w2 := x_a.cell (i := 1) rfl
        have f_a_1_w2 := x_a.frozen 1
        have c_a_2_w2 := x_a.cell (i := 2) rfl
        have f_a_2_w2 := x_a.frozen 2
        have c_a_3_w2 := x_a.cell (i := 3) rfl
        have f_a_3_w2 := x_a.frozen 3
        have c_a_4_w2 := x_a.cell (i := 4) rfl
        have f_a_4_w2 := x_a.frozen 4
        go_wp2_with fail
        refine (iRepsOk_c (rR.from_ B_w2) hbR (by omega)).mono ?_
        rintro e w3 ⟨rfl, h_w3⟩
        clear c_a_0_w2 f_a_0_w2 c_a_1_w2 f_a_1_w2 c_a_2_w2 f_a_2_w2 c_a_3_w2 f_a_3_w2 c_a_4_w2 f_a_4_w2
        replace x_a := x_a.from_ h_w3
        replace oS := oS.below h_w3
        have B_w3 := B_w2.trans (h_w3.mono B_w2.size)
        have s_w3 := h_w3.size
        rw [HR.out]
        have c_a_0_w3 := x_a.cell (i := 0) rfl
        have f_a_0_w3 := x_a.frozen 0
        have c_a_1_w3 := x_a.cell (i := 1) rfl
        have f_a_1_w3 := x_a.frozen 1
        have c_a_2_w3 := x_a.cell (i := 2) rfl
        have f_a_2_w3 := x_a.frozen 2
        have c_a_3_w3 := x_a.cell (i := 3) rfl
        have f_a_3_w3 := x_a.frozen 3
        have c_a_4_w3 := x_a.cell (i := 4) rfl
        have f_a_4_w3 := x_a.frozen 4
        go_wp2_with fail
        refine (iRepOf_c (n := id) (rR.from_ B_w3)).mono ?_
        rintro e w4 ⟨u_, rfl, ou, h_w4⟩
        clear c_a_0_w3 f_a_0_w3 c_a_1_w3 f_a_1_w3 c_a_2_w3 f_a_2_w3 c_a_3_w3 f_a_3_w3 c_a_4_w3 f_a_4_w3
        replace x_a := x_a.from_ h_w4
        replace oS := oS.below h_w4
        have B_w4 := B_w3.trans (h_w4.mono B_w3.size)
        have s_w4 := h_w4.size
        rw [HH.out]
        obtain rfl := rv_rep ou.rd
        clear ou
        have c_a_0_w4 := x_a.cell (i := 0) rfl
        have f_a_0_w4 := x_a.frozen 0
        have c_a_1_w4 := x_a.cell (i := 1) rfl
        have f_a_1_w4 := x_a.frozen 1
        have c_a_2_w4 := x_a.cell (i := 2) rfl
        have f_a_2_w4 := x_a.frozen 2
        have c_a_3_w4 := x_a.cell (i := 3) rfl
        have f_a_3_w4 := x_a.frozen 3
        have c_a_4_w4 := x_a.cell (i := 4) rfl
        have f_a_4_w4 := x_a.frozen 4
        obtain ⟨w5, e_w5, s_w5, h_w5, x_o⟩ := alloc_step w4 57 [.int .i64 (repFirst a.Reps id).Node, .int .i64 (repFirst a.Reps id).Amt]
        have s_w5_1 := Nat.le_of_eq s_w5
        have s_w5_2 := Nat.le_of_eq s_w5.symm
        clear s_w5
        replace x_a := x_a.from_ h_w5
        replace oS := oS.below h_w5
        have B_w5 := B_w4.trans (h_w5.mono B_w4.size)
        have c_a_0_w5 := x_a.cell (i := 0) rfl
        have f_a_0_w5 := x_a.frozen 0
        have c_a_1_w5 := x_a.cell (i := 1) rfl
        have f_a_1_w5 := x_a.frozen 1
        have c_a_2_w5 := x_a.cell (i := 2) rfl
        have f_a_2_w5 := x_a.frozen 2
        have c_a_3_w5 := x_a.cell (i := 3) rfl
        have f_a_3_w5 := x_a.frozen 3
        have c_a_4_w5 := x_a.cell (i := 4) rfl
        have f_a_4_w5 := x_a.frozen 4
        have c_o_0_w5 := x_o.cell (i := 0) rfl
        have f_o_0_w5 := x_o.frozen 0
        have c_o_1_w5 := x_o.cell (i := 1) rfl
        have f_o_1_w5 := x_o.frozen 1
        have g0 : ((c9 : Int) == 0) = true := by have h1 := HC.out; have h2 := HK2.out; rw [beq_iff_eq]; omega
        go_wp2_with (at_len; refine wpl_msLen _ rfl (.tmp 43) rfl oS rfl ?_)
        go_quiet ((first | (go_at_call 50; exact Calls.quiet_of_same (kn _)) | (go_at_call 82; exact Calls.quiet_of_same (ks _))))
        have B9 := B_w5.trans (below_of_drew _ _ nq)
        go_wp2
        go_ret
        exact ⟨ret_eq (by rw [HO.out]; rfl), B9⟩
    case neg =>
      have HOW : Hid (ownB a m id = false) := by show _ = _; unfold ownB; rw [hH, decide_eq_false (show ¬ ((a.Marks.length : Int) = (m : Int) - 1) by omega)]; rfl
      have HK2 := Lib.hid hK
      clear hK hH
      have HO : Hid (closedB a m id = false) := by show _ = _; rw [HE2.out, HOW.out]; rfl
      go_enter Try.func51, Try.ntmps51
      go_wp2_with fail
      refine (iMissing_t (rM.from_ B0) hm hid HK.out HF.out).mono ?_
      rintro e w1 ⟨b9, N9, c9, p9, rfl, oS, hcl, h_w1⟩
      clear c_a_0_wa f_a_0_wa c_a_1_wa f_a_1_wa c_a_2_wa f_a_2_wa c_a_3_wa f_a_3_wa c_a_4_wa f_a_4_wa
      replace x_a := x_a.from_ h_w1
      have B_w1 := B0.trans (h_w1.mono B0.size)
      have s_w1 := h_w1.size
      have HC := Lib.hid hcl
      clear hcl
      have c_a_0_w1 := x_a.cell (i := 0) rfl
      have f_a_0_w1 := x_a.frozen 0
      have c_a_1_w1 := x_a.cell (i := 1) rfl
      have f_a_1_w1 := x_a.frozen 1
      have c_a_2_w1 := x_a.cell (i := 2) rfl
      have f_a_2_w1 := x_a.frozen 2
      have c_a_3_w1 := x_a.cell (i := 3) rfl
      have f_a_3_w1 := x_a.frozen 3
      have c_a_4_w1 := x_a.cell (i := 4) rfl
      have f_a_4_w1 := x_a.frozen 4
      go_wp2_with fail
      refine (iNodesS_c (rM.from_ B_w1)).mono ?_
      rintro e w' ⟨rfl, rfl⟩
      go_wp2_with fail
      refine (iAsc_c (rM.from_ B_w1)).mono ?_
      rintro e w2 ⟨rfl, h_w2⟩
      clear c_a_0_w1 f_a_0_w1 c_a_1_w1 f_a_1_w1 c_a_2_w1 f_a_2_w1 c_a_3_w1 f_a_3_w1 c_a_4_w1 f_a_4_w1
      replace x_a := x_a.from_ h_w2
      replace oS := oS.below h_w2
      have B_w2 := B_w1.trans (h_w2.mono B_w1.size)
      have s_w2 := h_w2.size
      rw [HA.out]
      have c_a_0_w2 := x_a.cell (i := 0) rfl
      have f_a_0_w2 := x_a.frozen 0
      have c_a_1_w2 := x_a.cell (i := 1) rfl
      have f_a_1_w2 := x_a.frozen 1
      have c_a_2_w2 := x_a.cell (i := 2) rfl
      have f_a_2_w2 := x_a.frozen 2
      have c_a_3_w2 := x_a.cell (i := 3) rfl
      have f_a_3_w2 := x_a.frozen 3
      have c_a_4_w2 := x_a.cell (i := 4) rfl
      have f_a_4_w2 := x_a.frozen 4
      go_wp2_with fail
      refine (iRepsOk_c (rR.from_ B_w2) hbR (by omega)).mono ?_
      rintro e w3 ⟨rfl, h_w3⟩
      clear c_a_0_w2 f_a_0_w2 c_a_1_w2 f_a_1_w2 c_a_2_w2 f_a_2_w2 c_a_3_w2 f_a_3_w2 c_a_4_w2 f_a_4_w2
      replace x_a := x_a.from_ h_w3
      replace oS := oS.below h_w3
      have B_w3 := B_w2.trans (h_w3.mono B_w2.size)
      have s_w3 := h_w3.size
      rw [HR.out]
      have c_a_0_w3 := x_a.cell (i := 0) rfl
      have f_a_0_w3 := x_a.frozen 0
      have c_a_1_w3 := x_a.cell (i := 1) rfl
      have f_a_1_w3 := x_a.frozen 1
      have c_a_2_w3 := x_a.cell (i := 2) rfl
      have f_a_2_w3 := x_a.frozen 2
      have c_a_3_w3 := x_a.cell (i := 3) rfl
      have f_a_3_w3 := x_a.frozen 3
      have c_a_4_w3 := x_a.cell (i := 4) rfl
      have f_a_4_w3 := x_a.frozen 4
      go_wp2_with fail
      refine (iRepOf_c (n := id) (rR.from_ B_w3)).mono ?_
      rintro e w4 ⟨u_, rfl, ou, h_w4⟩
      clear c_a_0_w3 f_a_0_w3 c_a_1_w3 f_a_1_w3 c_a_2_w3 f_a_2_w3 c_a_3_w3 f_a_3_w3 c_a_4_w3 f_a_4_w3
      replace x_a := x_a.from_ h_w4
      replace oS := oS.below h_w4
      have B_w4 := B_w3.trans (h_w4.mono B_w3.size)
      have s_w4 := h_w4.size
      rw [HH.out]
      obtain rfl := rv_rep ou.rd
      clear ou
      have c_a_0_w4 := x_a.cell (i := 0) rfl
      have f_a_0_w4 := x_a.frozen 0
      have c_a_1_w4 := x_a.cell (i := 1) rfl
      have f_a_1_w4 := x_a.frozen 1
      have c_a_2_w4 := x_a.cell (i := 2) rfl
      have f_a_2_w4 := x_a.frozen 2
      have c_a_3_w4 := x_a.cell (i := 3) rfl
      have f_a_3_w4 := x_a.frozen 3
      have c_a_4_w4 := x_a.cell (i := 4) rfl
      have f_a_4_w4 := x_a.frozen 4
      obtain ⟨w5, e_w5, s_w5, h_w5, x_o⟩ := alloc_step w4 57 [.int .i64 (repFirst a.Reps id).Node, .int .i64 (repFirst a.Reps id).Amt]
      have s_w5_1 := Nat.le_of_eq s_w5
      have s_w5_2 := Nat.le_of_eq s_w5.symm
      clear s_w5
      replace x_a := x_a.from_ h_w5
      replace oS := oS.below h_w5
      have B_w5 := B_w4.trans (h_w5.mono B_w4.size)
      have c_a_0_w5 := x_a.cell (i := 0) rfl
      have f_a_0_w5 := x_a.frozen 0
      have c_a_1_w5 := x_a.cell (i := 1) rfl
      have f_a_1_w5 := x_a.frozen 1
      have c_a_2_w5 := x_a.cell (i := 2) rfl
      have f_a_2_w5 := x_a.frozen 2
      have c_a_3_w5 := x_a.cell (i := 3) rfl
      have f_a_3_w5 := x_a.frozen 3
      have c_a_4_w5 := x_a.cell (i := 4) rfl
      have f_a_4_w5 := x_a.frozen 4
      have c_o_0_w5 := x_o.cell (i := 0) rfl
      have f_o_0_w5 := x_o.frozen 0
      have c_o_1_w5 := x_o.cell (i := 1) rfl
      have f_o_1_w5 := x_o.frozen 1
      have g0 : ((c9 : Int) == 0) = false := by have h1 := HC.out; have h2 := HK2.out; rw [beq_eq_false_iff_ne]; omega
      go_wp2_with (at_len; refine wpl_msLen _ rfl (.tmp 43) rfl oS rfl ?_)
      go_ret
      exact ⟨ret_eq (by rw [HO.out]; rfl), B_w5⟩
  case neg =>
    replace hH : hasRep a.Reps id = false := by simpa using hH
    have HH := Lib.hid hH
    by_cases hK : a.Marks.length + 1 = m
    case pos =>
      have HOW : Hid (ownB a m id = false) := by show _ = _; unfold ownB; rw [hH, decide_eq_true (show (a.Marks.length : Int) = (m : Int) - 1 by omega)]; rfl
      have HK2 := Lib.hid hK
      clear hK hH
      have HO : Hid (closedB a m id = false) := by show _ = _; rw [HE2.out, HOW.out]; rfl
      go_enter Try.func51, Try.ntmps51
      go_wp2_with fail
      refine (iMissing_t (rM.from_ B0) hm hid HK.out HF.out).mono ?_
      rintro e w1 ⟨b9, N9, c9, p9, rfl, oS, hcl, h_w1⟩
      clear c_a_0_wa f_a_0_wa c_a_1_wa f_a_1_wa c_a_2_wa f_a_2_wa c_a_3_wa f_a_3_wa c_a_4_wa f_a_4_wa
      replace x_a := x_a.from_ h_w1
      have B_w1 := B0.trans (h_w1.mono B0.size)
      have s_w1 := h_w1.size
      have HC := Lib.hid hcl
      clear hcl
      have c_a_0_w1 := x_a.cell (i := 0) rfl
      have f_a_0_w1 := x_a.frozen 0
      have c_a_1_w1 := x_a.cell (i := 1) rfl
      have f_a_1_w1 := x_a.frozen 1
      have c_a_2_w1 := x_a.cell (i := 2) rfl
      have f_a_2_w1 := x_a.frozen 2
      have c_a_3_w1 := x_a.cell (i := 3) rfl
      have f_a_3_w1 := x_a.frozen 3
      have c_a_4_w1 := x_a.cell (i := 4) rfl
      have f_a_4_w1 := x_a.frozen 4
      go_wp2_with fail
      refine (iNodesS_c (rM.from_ B_w1)).mono ?_
      rintro e w' ⟨rfl, rfl⟩
      go_wp2_with fail
      refine (iAsc_c (rM.from_ B_w1)).mono ?_
      rintro e w2 ⟨rfl, h_w2⟩
      clear c_a_0_w1 f_a_0_w1 c_a_1_w1 f_a_1_w1 c_a_2_w1 f_a_2_w1 c_a_3_w1 f_a_3_w1 c_a_4_w1 f_a_4_w1
      replace x_a := x_a.from_ h_w2
      replace oS := oS.below h_w2
      have B_w2 := B_w1.trans (h_w2.mono B_w1.size)
      have s_w2 := h_w2.size
      rw [HA.out]
      have c_a_0_w2 := x_a.cell (i := 0) rfl
      have f_a_0_w2 := x_a.frozen 0
      have c_a_1_w2 := x_a.cell (i := 1) rfl
      have f_a_1_w2 := x_a.frozen 1
      have c_a_2_w2 := x_a.cell (i := 2) rfl
      have f_a_2_w2 := x_a.frozen 2
      have c_a_3_w2 := x_a.cell (i := 3) rfl
      have f_a_3_w2 := x_a.frozen 3
      have c_a_4_w2 := x_a.cell (i := 4) rfl
      have f_a_4_w2 := x_a.frozen 4
      go_wp2_with fail
      refine (iRepsOk_c (rR.from_ B_w2) hbR (by omega)).mono ?_
      rintro e w3 ⟨rfl, h_w3⟩
      clear c_a_0_w2 f_a_0_w2 c_a_1_w2 f_a_1_w2 c_a_2_w2 f_a_2_w2 c_a_3_w2 f_a_3_w2 c_a_4_w2 f_a_4_w2
      replace x_a := x_a.from_ h_w3
      replace oS := oS.below h_w3
      have B_w3 := B_w2.trans (h_w3.mono B_w2.size)
      have s_w3 := h_w3.size
      rw [HR.out]
      have c_a_0_w3 := x_a.cell (i := 0) rfl
      have f_a_0_w3 := x_a.frozen 0
      have c_a_1_w3 := x_a.cell (i := 1) rfl
      have f_a_1_w3 := x_a.frozen 1
      have c_a_2_w3 := x_a.cell (i := 2) rfl
      have f_a_2_w3 := x_a.frozen 2
      have c_a_3_w3 := x_a.cell (i := 3) rfl
      have f_a_3_w3 := x_a.frozen 3
      have c_a_4_w3 := x_a.cell (i := 4) rfl
      have f_a_4_w3 := x_a.frozen 4
      go_wp2_with fail
      refine (iRepOf_c (n := id) (rR.from_ B_w3)).mono ?_
      rintro e w4 ⟨u_, rfl, ou, h_w4⟩
      clear c_a_0_w3 f_a_0_w3 c_a_1_w3 f_a_1_w3 c_a_2_w3 f_a_2_w3 c_a_3_w3 f_a_3_w3 c_a_4_w3 f_a_4_w3
      replace x_a := x_a.from_ h_w4
      replace oS := oS.below h_w4
      have B_w4 := B_w3.trans (h_w4.mono B_w3.size)
      have s_w4 := h_w4.size
      rw [HH.out]
      obtain rfl := rv_rep ou.rd
      clear ou
      have c_a_0_w4 := x_a.cell (i := 0) rfl
      have f_a_0_w4 := x_a.frozen 0
      have c_a_1_w4 := x_a.cell (i := 1) rfl
      have f_a_1_w4 := x_a.frozen 1
      have c_a_2_w4 := x_a.cell (i := 2) rfl
      have f_a_2_w4 := x_a.frozen 2
      have c_a_3_w4 := x_a.cell (i := 3) rfl
      have f_a_3_w4 := x_a.frozen 3
      have c_a_4_w4 := x_a.cell (i := 4) rfl
      have f_a_4_w4 := x_a.frozen 4
      obtain ⟨w5, e_w5, s_w5, h_w5, x_o⟩ := alloc_step w4 57 [.int .i64 (repFirst a.Reps id).Node, .int .i64 (repFirst a.Reps id).Amt]
      have s_w5_1 := Nat.le_of_eq s_w5
      have s_w5_2 := Nat.le_of_eq s_w5.symm
      clear s_w5
      replace x_a := x_a.from_ h_w5
      replace oS := oS.below h_w5
      have B_w5 := B_w4.trans (h_w5.mono B_w4.size)
      have c_a_0_w5 := x_a.cell (i := 0) rfl
      have f_a_0_w5 := x_a.frozen 0
      have c_a_1_w5 := x_a.cell (i := 1) rfl
      have f_a_1_w5 := x_a.frozen 1
      have c_a_2_w5 := x_a.cell (i := 2) rfl
      have f_a_2_w5 := x_a.frozen 2
      have c_a_3_w5 := x_a.cell (i := 3) rfl
      have f_a_3_w5 := x_a.frozen 3
      have c_a_4_w5 := x_a.cell (i := 4) rfl
      have f_a_4_w5 := x_a.frozen 4
      have c_o_0_w5 := x_o.cell (i := 0) rfl
      have f_o_0_w5 := x_o.frozen 0
      have c_o_1_w5 := x_o.cell (i := 1) rfl
      have f_o_1_w5 := x_o.frozen 1
      have g0 : ((c9 : Int) == 0) = true := by have h1 := HC.out; have h2 := HK2.out; rw [beq_iff_eq]; omega
      go_wp2_with (at_len; refine wpl_msLen _ rfl (.tmp 43) rfl oS rfl ?_)
      go_ret
      exact ⟨ret_eq (by rw [HO.out]; rfl), B_w5⟩
    case neg =>
      have HOW : Hid (ownB a m id = true) := by show _ = _; unfold ownB; rw [hH, decide_eq_false (show ¬ ((a.Marks.length : Int) = (m : Int) - 1) by omega)]; rfl
      have HK2 := Lib.hid hK
      clear hK hH
      have HFT : Hid (ownFit a id = true) := by show _ = _; unfold ownFit; rw [HH.out]; rfl
      obtain ⟨S, hS⟩ : ∃ S, stateOf (a.Reps.length : Int) (m : Int) = S := ⟨_, rfl⟩
      have HS := Lib.hid hS
      have ks : ∀ W, Calls Try.prog 82 #[.int .i64 (a.Reps.length : Int), .int .i64 (m : Int)] W fun e w' => e = .returned (.int .i64 S) ∧ w' = W := fun W => (iClosedState_any _ _ W).mono (by rintro e w' ⟨rfl, rfl⟩; exact ⟨by rw [HS.out], rfl⟩)
      clear hS
      by_cases hBy : inB a.By 0 (m - 1) = true
      case neg =>
        replace hBy : inB a.By 0 (m - 1) = false := by simpa using hBy
        have HBy := Lib.hid hBy
        have kn : ∀ W, Calls Try.prog 50 #[.int .i64 a.By, .int .i64 (m : Int)] W fun e w' => e = .returned (.bool false) ∧ w' = W := fun W => (iNodeOf_any _ _ W).mono (by rintro e w' ⟨rfl, rfl⟩; exact ⟨by rw [HBy.out], rfl⟩)
        clear hBy
        have HO : Hid (closedB a m id = false) := by show _ = _; rw [HE2.out, HOW.out, HFT.out, HBy.out]; rfl
        go_enter Try.func51, Try.ntmps51
        go_wp2_with fail
        refine (iMissing_t (rM.from_ B0) hm hid HK.out HF.out).mono ?_
        rintro e w1 ⟨b9, N9, c9, p9, rfl, oS, hcl, h_w1⟩
        clear c_a_0_wa f_a_0_wa c_a_1_wa f_a_1_wa c_a_2_wa f_a_2_wa c_a_3_wa f_a_3_wa c_a_4_wa f_a_4_wa
        replace x_a := x_a.from_ h_w1
        have B_w1 := B0.trans (h_w1.mono B0.size)
        have s_w1 := h_w1.size
        have HC := Lib.hid hcl
        clear hcl
        have c_a_0_w1 := x_a.cell (i := 0) rfl
        have f_a_0_w1 := x_a.frozen 0
        have c_a_1_w1 := x_a.cell (i := 1) rfl
        have f_a_1_w1 := x_a.frozen 1
        have c_a_2_w1 := x_a.cell (i := 2) rfl
        have f_a_2_w1 := x_a.frozen 2
        have c_a_3_w1 := x_a.cell (i := 3) rfl
        have f_a_3_w1 := x_a.frozen 3
        have c_a_4_w1 := x_a.cell (i := 4) rfl
        have f_a_4_w1 := x_a.frozen 4
        go_wp2_with fail
        refine (iNodesS_c (rM.from_ B_w1)).mono ?_
        rintro e w' ⟨rfl, rfl⟩
        go_wp2_with fail
        refine (iAsc_c (rM.from_ B_w1)).mono ?_
        rintro e w2 ⟨rfl, h_w2⟩
        clear c_a_0_w1 f_a_0_w1 c_a_1_w1 f_a_1_w1 c_a_2_w1 f_a_2_w1 c_a_3_w1 f_a_3_w1 c_a_4_w1 f_a_4_w1
        replace x_a := x_a.from_ h_w2
        replace oS := oS.below h_w2
        have B_w2 := B_w1.trans (h_w2.mono B_w1.size)
        have s_w2 := h_w2.size
        rw [HA.out]
        have c_a_0_w2 := x_a.cell (i := 0) rfl
        have f_a_0_w2 := x_a.frozen 0
        have c_a_1_w2 := x_a.cell (i := 1) rfl
        have f_a_1_w2 := x_a.frozen 1
        have c_a_2_w2 := x_a.cell (i := 2) rfl
        have f_a_2_w2 := x_a.frozen 2
        have c_a_3_w2 := x_a.cell (i := 3) rfl
        have f_a_3_w2 := x_a.frozen 3
        have c_a_4_w2 := x_a.cell (i := 4) rfl
        have f_a_4_w2 := x_a.frozen 4
        go_wp2_with fail
        refine (iRepsOk_c (rR.from_ B_w2) hbR (by omega)).mono ?_
        rintro e w3 ⟨rfl, h_w3⟩
        clear c_a_0_w2 f_a_0_w2 c_a_1_w2 f_a_1_w2 c_a_2_w2 f_a_2_w2 c_a_3_w2 f_a_3_w2 c_a_4_w2 f_a_4_w2
        replace x_a := x_a.from_ h_w3
        replace oS := oS.below h_w3
        have B_w3 := B_w2.trans (h_w3.mono B_w2.size)
        have s_w3 := h_w3.size
        rw [HR.out]
        have c_a_0_w3 := x_a.cell (i := 0) rfl
        have f_a_0_w3 := x_a.frozen 0
        have c_a_1_w3 := x_a.cell (i := 1) rfl
        have f_a_1_w3 := x_a.frozen 1
        have c_a_2_w3 := x_a.cell (i := 2) rfl
        have f_a_2_w3 := x_a.frozen 2
        have c_a_3_w3 := x_a.cell (i := 3) rfl
        have f_a_3_w3 := x_a.frozen 3
        have c_a_4_w3 := x_a.cell (i := 4) rfl
        have f_a_4_w3 := x_a.frozen 4
        go_wp2_with fail
        refine (iRepOf_c (n := id) (rR.from_ B_w3)).mono ?_
        rintro e w4 ⟨u_, rfl, ou, h_w4⟩
        clear c_a_0_w3 f_a_0_w3 c_a_1_w3 f_a_1_w3 c_a_2_w3 f_a_2_w3 c_a_3_w3 f_a_3_w3 c_a_4_w3 f_a_4_w3
        replace x_a := x_a.from_ h_w4
        replace oS := oS.below h_w4
        have B_w4 := B_w3.trans (h_w4.mono B_w3.size)
        have s_w4 := h_w4.size
        rw [HH.out]
        obtain rfl := rv_rep ou.rd
        clear ou
        have c_a_0_w4 := x_a.cell (i := 0) rfl
        have f_a_0_w4 := x_a.frozen 0
        have c_a_1_w4 := x_a.cell (i := 1) rfl
        have f_a_1_w4 := x_a.frozen 1
        have c_a_2_w4 := x_a.cell (i := 2) rfl
        have f_a_2_w4 := x_a.frozen 2
        have c_a_3_w4 := x_a.cell (i := 3) rfl
        have f_a_3_w4 := x_a.frozen 3
        have c_a_4_w4 := x_a.cell (i := 4) rfl
        have f_a_4_w4 := x_a.frozen 4
        obtain ⟨w5, e_w5, s_w5, h_w5, x_o⟩ := alloc_step w4 57 [.int .i64 (repFirst a.Reps id).Node, .int .i64 (repFirst a.Reps id).Amt]
        have s_w5_1 := Nat.le_of_eq s_w5
        have s_w5_2 := Nat.le_of_eq s_w5.symm
        clear s_w5
        replace x_a := x_a.from_ h_w5
        replace oS := oS.below h_w5
        have B_w5 := B_w4.trans (h_w5.mono B_w4.size)
        have c_a_0_w5 := x_a.cell (i := 0) rfl
        have f_a_0_w5 := x_a.frozen 0
        have c_a_1_w5 := x_a.cell (i := 1) rfl
        have f_a_1_w5 := x_a.frozen 1
        have c_a_2_w5 := x_a.cell (i := 2) rfl
        have f_a_2_w5 := x_a.frozen 2
        have c_a_3_w5 := x_a.cell (i := 3) rfl
        have f_a_3_w5 := x_a.frozen 3
        have c_a_4_w5 := x_a.cell (i := 4) rfl
        have f_a_4_w5 := x_a.frozen 4
        have c_o_0_w5 := x_o.cell (i := 0) rfl
        have f_o_0_w5 := x_o.frozen 0
        have c_o_1_w5 := x_o.cell (i := 1) rfl
        have f_o_1_w5 := x_o.frozen 1
        have g0 : ((c9 : Int) == 0) = false := by have h1 := HC.out; have h2 := HK2.out; rw [beq_eq_false_iff_ne]; omega
        go_wp2_with (at_len; refine wpl_msLen _ rfl (.tmp 43) rfl oS rfl ?_)
        go_quiet ((first | (go_at_call 50; exact Calls.quiet_of_same (kn _)) | (go_at_call 82; exact Calls.quiet_of_same (ks _))))
        have B9 := B_w5.trans (below_of_drew _ _ nq)
        go_wp2
        go_ret
        exact ⟨ret_eq (by rw [HO.out]; rfl), B9⟩
      have HBy := Lib.hid hBy
      have kn : ∀ W, Calls Try.prog 50 #[.int .i64 a.By, .int .i64 (m : Int)] W fun e w' => e = .returned (.bool true) ∧ w' = W := fun W => (iNodeOf_any _ _ W).mono (by rintro e w' ⟨rfl, rfl⟩; exact ⟨by rw [HBy.out], rfl⟩)
      clear hBy
      by_cases hSt : a.State = S
      case pos =>
        have HO : Hid (closedB a m id = true) := by show _ = _; rw [HE2.out, HOW.out, HFT.out, HBy.out, HS.out, decide_eq_true hSt]; rfl
        have gS : (a.State == S) = true := by simpa using hSt
        clear hSt
        go_enter Try.func51, Try.ntmps51
        go_wp2_with fail
        refine (iMissing_t (rM.from_ B0) hm hid HK.out HF.out).mono ?_
        rintro e w1 ⟨b9, N9, c9, p9, rfl, oS, hcl, h_w1⟩
        clear c_a_0_wa f_a_0_wa c_a_1_wa f_a_1_wa c_a_2_wa f_a_2_wa c_a_3_wa f_a_3_wa c_a_4_wa f_a_4_wa
        replace x_a := x_a.from_ h_w1
        have B_w1 := B0.trans (h_w1.mono B0.size)
        have s_w1 := h_w1.size
        have HC := Lib.hid hcl
        clear hcl
        have c_a_0_w1 := x_a.cell (i := 0) rfl
        have f_a_0_w1 := x_a.frozen 0
        have c_a_1_w1 := x_a.cell (i := 1) rfl
        have f_a_1_w1 := x_a.frozen 1
        have c_a_2_w1 := x_a.cell (i := 2) rfl
        have f_a_2_w1 := x_a.frozen 2
        have c_a_3_w1 := x_a.cell (i := 3) rfl
        have f_a_3_w1 := x_a.frozen 3
        have c_a_4_w1 := x_a.cell (i := 4) rfl
        have f_a_4_w1 := x_a.frozen 4
        go_wp2_with fail
        refine (iNodesS_c (rM.from_ B_w1)).mono ?_
        rintro e w' ⟨rfl, rfl⟩
        go_wp2_with fail
        refine (iAsc_c (rM.from_ B_w1)).mono ?_
        rintro e w2 ⟨rfl, h_w2⟩
        clear c_a_0_w1 f_a_0_w1 c_a_1_w1 f_a_1_w1 c_a_2_w1 f_a_2_w1 c_a_3_w1 f_a_3_w1 c_a_4_w1 f_a_4_w1
        replace x_a := x_a.from_ h_w2
        replace oS := oS.below h_w2
        have B_w2 := B_w1.trans (h_w2.mono B_w1.size)
        have s_w2 := h_w2.size
        rw [HA.out]
        have c_a_0_w2 := x_a.cell (i := 0) rfl
        have f_a_0_w2 := x_a.frozen 0
        have c_a_1_w2 := x_a.cell (i := 1) rfl
        have f_a_1_w2 := x_a.frozen 1
        have c_a_2_w2 := x_a.cell (i := 2) rfl
        have f_a_2_w2 := x_a.frozen 2
        have c_a_3_w2 := x_a.cell (i := 3) rfl
        have f_a_3_w2 := x_a.frozen 3
        have c_a_4_w2 := x_a.cell (i := 4) rfl
        have f_a_4_w2 := x_a.frozen 4
        go_wp2_with fail
        refine (iRepsOk_c (rR.from_ B_w2) hbR (by omega)).mono ?_
        rintro e w3 ⟨rfl, h_w3⟩
        clear c_a_0_w2 f_a_0_w2 c_a_1_w2 f_a_1_w2 c_a_2_w2 f_a_2_w2 c_a_3_w2 f_a_3_w2 c_a_4_w2 f_a_4_w2
        replace x_a := x_a.from_ h_w3
        replace oS := oS.below h_w3
        have B_w3 := B_w2.trans (h_w3.mono B_w2.size)
        have s_w3 := h_w3.size
        rw [HR.out]
        have c_a_0_w3 := x_a.cell (i := 0) rfl
        have f_a_0_w3 := x_a.frozen 0
        have c_a_1_w3 := x_a.cell (i := 1) rfl
        have f_a_1_w3 := x_a.frozen 1
        have c_a_2_w3 := x_a.cell (i := 2) rfl
        have f_a_2_w3 := x_a.frozen 2
        have c_a_3_w3 := x_a.cell (i := 3) rfl
        have f_a_3_w3 := x_a.frozen 3
        have c_a_4_w3 := x_a.cell (i := 4) rfl
        have f_a_4_w3 := x_a.frozen 4
        go_wp2_with fail
        refine (iRepOf_c (n := id) (rR.from_ B_w3)).mono ?_
        rintro e w4 ⟨u_, rfl, ou, h_w4⟩
        clear c_a_0_w3 f_a_0_w3 c_a_1_w3 f_a_1_w3 c_a_2_w3 f_a_2_w3 c_a_3_w3 f_a_3_w3 c_a_4_w3 f_a_4_w3
        replace x_a := x_a.from_ h_w4
        replace oS := oS.below h_w4
        have B_w4 := B_w3.trans (h_w4.mono B_w3.size)
        have s_w4 := h_w4.size
        rw [HH.out]
        obtain rfl := rv_rep ou.rd
        clear ou
        have c_a_0_w4 := x_a.cell (i := 0) rfl
        have f_a_0_w4 := x_a.frozen 0
        have c_a_1_w4 := x_a.cell (i := 1) rfl
        have f_a_1_w4 := x_a.frozen 1
        have c_a_2_w4 := x_a.cell (i := 2) rfl
        have f_a_2_w4 := x_a.frozen 2
        have c_a_3_w4 := x_a.cell (i := 3) rfl
        have f_a_3_w4 := x_a.frozen 3
        have c_a_4_w4 := x_a.cell (i := 4) rfl
        have f_a_4_w4 := x_a.frozen 4
        obtain ⟨w5, e_w5, s_w5, h_w5, x_o⟩ := alloc_step w4 57 [.int .i64 (repFirst a.Reps id).Node, .int .i64 (repFirst a.Reps id).Amt]
        have s_w5_1 := Nat.le_of_eq s_w5
        have s_w5_2 := Nat.le_of_eq s_w5.symm
        clear s_w5
        replace x_a := x_a.from_ h_w5
        replace oS := oS.below h_w5
        have B_w5 := B_w4.trans (h_w5.mono B_w4.size)
        have c_a_0_w5 := x_a.cell (i := 0) rfl
        have f_a_0_w5 := x_a.frozen 0
        have c_a_1_w5 := x_a.cell (i := 1) rfl
        have f_a_1_w5 := x_a.frozen 1
        have c_a_2_w5 := x_a.cell (i := 2) rfl
        have f_a_2_w5 := x_a.frozen 2
        have c_a_3_w5 := x_a.cell (i := 3) rfl
        have f_a_3_w5 := x_a.frozen 3
        have c_a_4_w5 := x_a.cell (i := 4) rfl
        have f_a_4_w5 := x_a.frozen 4
        have c_o_0_w5 := x_o.cell (i := 0) rfl
        have f_o_0_w5 := x_o.frozen 0
        have c_o_1_w5 := x_o.cell (i := 1) rfl
        have f_o_1_w5 := x_o.frozen 1
        have g0 : ((c9 : Int) == 0) = false := by have h1 := HC.out; have h2 := HK2.out; rw [beq_eq_false_iff_ne]; omega
        go_wp2_with (at_len; refine wpl_msLen _ rfl (.tmp 43) rfl oS rfl ?_)
        go_quiet ((first | (go_at_call 50; exact Calls.quiet_of_same (kn _)) | (go_at_call 82; exact Calls.quiet_of_same (ks _))))
        have B9 := B_w5.trans (below_of_drew _ _ nq)
        go_wp2
        go_ret
        exact ⟨ret_eq (by rw [HO.out]; rfl), B9⟩
      case neg =>
        have HO : Hid (closedB a m id = false) := by show _ = _; rw [HE2.out, HOW.out, HFT.out, HBy.out, HS.out, decide_eq_false hSt]; rfl
        have gS : (a.State == S) = false := by simpa using hSt
        clear hSt
        go_enter Try.func51, Try.ntmps51
        go_wp2_with fail
        refine (iMissing_t (rM.from_ B0) hm hid HK.out HF.out).mono ?_
        rintro e w1 ⟨b9, N9, c9, p9, rfl, oS, hcl, h_w1⟩
        clear c_a_0_wa f_a_0_wa c_a_1_wa f_a_1_wa c_a_2_wa f_a_2_wa c_a_3_wa f_a_3_wa c_a_4_wa f_a_4_wa
        replace x_a := x_a.from_ h_w1
        have B_w1 := B0.trans (h_w1.mono B0.size)
        have s_w1 := h_w1.size
        have HC := Lib.hid hcl
        clear hcl
        have c_a_0_w1 := x_a.cell (i := 0) rfl
        have f_a_0_w1 := x_a.frozen 0
        have c_a_1_w1 := x_a.cell (i := 1) rfl
        have f_a_1_w1 := x_a.frozen 1
        have c_a_2_w1 := x_a.cell (i := 2) rfl
        have f_a_2_w1 := x_a.frozen 2
        have c_a_3_w1 := x_a.cell (i := 3) rfl
        have f_a_3_w1 := x_a.frozen 3
        have c_a_4_w1 := x_a.cell (i := 4) rfl
        have f_a_4_w1 := x_a.frozen 4
        go_wp2_with fail
        refine (iNodesS_c (rM.from_ B_w1)).mono ?_
        rintro e w' ⟨rfl, rfl⟩
        go_wp2_with fail
        refine (iAsc_c (rM.from_ B_w1)).mono ?_
        rintro e w2 ⟨rfl, h_w2⟩
        clear c_a_0_w1 f_a_0_w1 c_a_1_w1 f_a_1_w1 c_a_2_w1 f_a_2_w1 c_a_3_w1 f_a_3_w1 c_a_4_w1 f_a_4_w1
        replace x_a := x_a.from_ h_w2
        replace oS := oS.below h_w2
        have B_w2 := B_w1.trans (h_w2.mono B_w1.size)
        have s_w2 := h_w2.size
        rw [HA.out]
        have c_a_0_w2 := x_a.cell (i := 0) rfl
        have f_a_0_w2 := x_a.frozen 0
        have c_a_1_w2 := x_a.cell (i := 1) rfl
        have f_a_1_w2 := x_a.frozen 1
        have c_a_2_w2 := x_a.cell (i := 2) rfl
        have f_a_2_w2 := x_a.frozen 2
        have c_a_3_w2 := x_a.cell (i := 3) rfl
        have f_a_3_w2 := x_a.frozen 3
        have c_a_4_w2 := x_a.cell (i := 4) rfl
        have f_a_4_w2 := x_a.frozen 4
        go_wp2_with fail
        refine (iRepsOk_c (rR.from_ B_w2) hbR (by omega)).mono ?_
        rintro e w3 ⟨rfl, h_w3⟩
        clear c_a_0_w2 f_a_0_w2 c_a_1_w2 f_a_1_w2 c_a_2_w2 f_a_2_w2 c_a_3_w2 f_a_3_w2 c_a_4_w2 f_a_4_w2
        replace x_a := x_a.from_ h_w3
        replace oS := oS.below h_w3
        have B_w3 := B_w2.trans (h_w3.mono B_w2.size)
        have s_w3 := h_w3.size
        rw [HR.out]
        have c_a_0_w3 := x_a.cell (i := 0) rfl
        have f_a_0_w3 := x_a.frozen 0
        have c_a_1_w3 := x_a.cell (i := 1) rfl
        have f_a_1_w3 := x_a.frozen 1
        have c_a_2_w3 := x_a.cell (i := 2) rfl
        have f_a_2_w3 := x_a.frozen 2
        have c_a_3_w3 := x_a.cell (i := 3) rfl
        have f_a_3_w3 := x_a.frozen 3
        have c_a_4_w3 := x_a.cell (i := 4) rfl
        have f_a_4_w3 := x_a.frozen 4
        go_wp2_with fail
        refine (iRepOf_c (n := id) (rR.from_ B_w3)).mono ?_
        rintro e w4 ⟨u_, rfl, ou, h_w4⟩
        clear c_a_0_w3 f_a_0_w3 c_a_1_w3 f_a_1_w3 c_a_2_w3 f_a_2_w3 c_a_3_w3 f_a_3_w3 c_a_4_w3 f_a_4_w3
        replace x_a := x_a.from_ h_w4
        replace oS := oS.below h_w4
        have B_w4 := B_w3.trans (h_w4.mono B_w3.size)
        have s_w4 := h_w4.size
        rw [HH.out]
        obtain rfl := rv_rep ou.rd
        clear ou
        have c_a_0_w4 := x_a.cell (i := 0) rfl
        have f_a_0_w4 := x_a.frozen 0
        have c_a_1_w4 := x_a.cell (i := 1) rfl
        have f_a_1_w4 := x_a.frozen 1
        have c_a_2_w4 := x_a.cell (i := 2) rfl
        have f_a_2_w4 := x_a.frozen 2
        have c_a_3_w4 := x_a.cell (i := 3) rfl
        have f_a_3_w4 := x_a.frozen 3
        have c_a_4_w4 := x_a.cell (i := 4) rfl
        have f_a_4_w4 := x_a.frozen 4
        obtain ⟨w5, e_w5, s_w5, h_w5, x_o⟩ := alloc_step w4 57 [.int .i64 (repFirst a.Reps id).Node, .int .i64 (repFirst a.Reps id).Amt]
        have s_w5_1 := Nat.le_of_eq s_w5
        have s_w5_2 := Nat.le_of_eq s_w5.symm
        clear s_w5
        replace x_a := x_a.from_ h_w5
        replace oS := oS.below h_w5
        have B_w5 := B_w4.trans (h_w5.mono B_w4.size)
        have c_a_0_w5 := x_a.cell (i := 0) rfl
        have f_a_0_w5 := x_a.frozen 0
        have c_a_1_w5 := x_a.cell (i := 1) rfl
        have f_a_1_w5 := x_a.frozen 1
        have c_a_2_w5 := x_a.cell (i := 2) rfl
        have f_a_2_w5 := x_a.frozen 2
        have c_a_3_w5 := x_a.cell (i := 3) rfl
        have f_a_3_w5 := x_a.frozen 3
        have c_a_4_w5 := x_a.cell (i := 4) rfl
        have f_a_4_w5 := x_a.frozen 4
        have c_o_0_w5 := x_o.cell (i := 0) rfl
        have f_o_0_w5 := x_o.frozen 0
        have c_o_1_w5 := x_o.cell (i := 1) rfl
        have f_o_1_w5 := x_o.frozen 1
        have g0 : ((c9 : Int) == 0) = false := by have h1 := HC.out; have h2 := HK2.out; rw [beq_eq_false_iff_ne]; omega
        go_wp2_with (at_len; refine wpl_msLen _ rfl (.tmp 43) rfl oS rfl ?_)
        go_quiet ((first | (go_at_call 50; exact Calls.quiet_of_same (kn _)) | (go_at_call 82; exact Calls.quiet_of_same (ks _))))
        have B9 := B_w5.trans (below_of_drew _ _ nq)
        go_wp2
        go_ret
        exact ⟨ret_eq (by rw [HO.out]; rfl), B9⟩

set_option maxRecDepth 100000 in
set_option maxHeartbeats 4000000 in
theorem iAcctOk_c {w : World} {v : Value} {a : MAcct} {n id : Int} (h : RV acctL w v a) (hb : a.bulk ≤ 16777216) (hk : ∀ i, i < a.Marks.length → i64R (a.Marks.getD i 0)) : Calls Try.prog 22 #[v, .int .i64 n, .int .i64 id] w fun e w' => e = .returned (.bool (acctOkB a n id)) ∧ Below w.heap.size w w' := by
  have h0 := h
  obtain ⟨AM, cM, AR, cR, rfl, rM, rR⟩ := rv_acct h
  clear h
  have HK9 := Lib.hid hk
  clear hk
  obtain ⟨wa, hwa, B0, sa, x_a⟩ := frame1 w 27 [.int .i64 a.Have, .int .i64 a.State, .int .i64 a.By, .slice AM a.Marks.length cM, .slice AR a.Reps.length cR]
  have sa_1 := Nat.le_of_eq sa
  have sa_2 := Nat.le_of_eq sa.symm
  clear sa
  have c_a_0_wa := x_a.cell (i := 0) rfl
  have c_a_1_wa := x_a.cell (i := 1) rfl
  have c_a_2_wa := x_a.cell (i := 2) rfl
  have c_a_3_wa := x_a.cell (i := 3) rfl
  have c_a_4_wa := x_a.cell (i := 4) rfl
  by_cases hN : inB n 1 4 = true
  case neg =>
    replace hN : inB n 1 4 = false := by simpa using hN
    have HN := Lib.hid hN
    have HO : Hid (acctOkB a n id = false) := by show _ = _; unfold acctOkB; rw [hN]; simp
    clear hN
    go_enter Try.func22, Try.ntmps22
    go_wp2_with fail
    refine (iNodeCount_any _ _).mono ?_
    rintro e w' ⟨rfl, rfl⟩
    rw [HN.out]
    go_wp2
    go_ret
    exact ⟨ret_eq (by rw [HO.out]; rfl), B0⟩
  have HN := Lib.hid hN
  by_cases hI : inB id 0 (n - 1) = true
  case neg =>
    replace hI : inB id 0 (n - 1) = false := by simpa using hI
    have HI := Lib.hid hI
    have HO : Hid (acctOkB a n id = false) := by show _ = _; unfold acctOkB; rw [hI]; simp
    clear hN hI
    go_enter Try.func22, Try.ntmps22
    go_wp2_with fail
    refine (iNodeCount_any _ _).mono ?_
    rintro e w' ⟨rfl, rfl⟩
    rw [HN.out]
    go_wp2_with fail
    refine (iNodeOf_any _ _ _).mono ?_
    rintro e w' ⟨rfl, rfl⟩
    rw [HI.out]
    go_wp2
    go_ret
    exact ⟨ret_eq (by rw [HO.out]; rfl), B0⟩
  have HI := Lib.hid hI
  by_cases hV : numB a.Have = true
  case neg =>
    replace hV : numB a.Have = false := by simpa using hV
    have HV := Lib.hid hV
    have HO : Hid (acctOkB a n id = false) := by show _ = _; unfold acctOkB; rw [hV]; simp
    clear hN hI hV
    go_enter Try.func22, Try.ntmps22
    go_wp2_with fail
    refine (iNodeCount_any _ _).mono ?_
    rintro e w' ⟨rfl, rfl⟩
    rw [HN.out]
    go_wp2_with fail
    refine (iNodeOf_any _ _ _).mono ?_
    rintro e w' ⟨rfl, rfl⟩
    rw [HI.out]
    go_wp2_with fail
    refine (iNum_any _ _).mono ?_
    rintro e w' ⟨rfl, rfl⟩
    rw [HV.out]
    go_wp2
    go_ret
    exact ⟨ret_eq (by rw [HO.out]; rfl), B0⟩
  have HV := Lib.hid hV
  have HE : Hid (acctOkB a n id = if a.State = 0 then openB a else closedB a n id) := by show _ = _; unfold acctOkB; rw [hN, hI, hV]; rfl
  have bn := inB_true.1 hN
  have bi := inB_true.1 hI
  clear hN hI hV
  by_cases hS : a.State = 0
  case neg =>
    have HO : Hid (acctOkB a n id = closedB a n id) := by show _ = _; rw [HE.out, if_neg hS]
    have gS : (a.State == 0) = false := by simpa using hS
    clear hS
    obtain ⟨m, rfl⟩ : ∃ m : Nat, n = (m : Int) := ⟨n.toNat, by omega⟩
    go_enter Try.func22, Try.ntmps22
    go_wp2_with fail
    refine (iNodeCount_any _ _).mono ?_
    rintro e w' ⟨rfl, rfl⟩
    rw [HN.out]
    go_wp2_with fail
    refine (iNodeOf_any _ _ _).mono ?_
    rintro e w' ⟨rfl, rfl⟩
    rw [HI.out]
    go_wp2_with fail
    refine (iNum_any _ _).mono ?_
    rintro e w' ⟨rfl, rfl⟩
    rw [HV.out]
    go_wp2_with fail
    refine (iClosedOk_c (h0.from_ B0) hb (by omega) (by omega) HK9.out).mono ?_
    rintro e w1 ⟨rfl, h_w1⟩
    clear c_a_0_wa c_a_1_wa c_a_2_wa c_a_3_wa c_a_4_wa
    replace x_a := x_a.from_ h_w1
    have B_w1 := B0.trans (h_w1.mono B0.size)
    have s_w1 := h_w1.size
    go_wp2
    go_ret
    exact ⟨ret_eq (by rw [HO.out]; rfl), B_w1⟩
  have gS : (a.State == 0) = true := by simpa using hS
  have HE2 : Hid (acctOkB a n id = openB a) := by show _ = _; rw [HE.out, if_pos hS]
  clear hS
  by_cases hBy : a.By = 0
  case neg =>
    have HO : Hid (acctOkB a n id = false) := by show _ = _; rw [HE2.out]; unfold openB; rw [decide_eq_false hBy]; simp
    have gBy : (a.By == 0) = false := by rw [beq_eq_false_iff_ne]; omega
    clear hBy
    go_enter Try.func22, Try.ntmps22
    go_wp2_with fail
    refine (iNodeCount_any _ _).mono ?_
    rintro e w' ⟨rfl, rfl⟩
    rw [HN.out]
    go_wp2_with fail
    refine (iNodeOf_any _ _ _).mono ?_
    rintro e w' ⟨rfl, rfl⟩
    rw [HI.out]
    go_wp2_with fail
    refine (iNum_any _ _).mono ?_
    rintro e w' ⟨rfl, rfl⟩
    rw [HV.out]
    go_wp2
    go_ret
    exact ⟨ret_eq (by rw [HO.out]; rfl), B0⟩
  have gBy : (a.By == 0) = true := by rw [beq_iff_eq]; omega
  by_cases hM : a.Marks.length = 0
  case neg =>
    have HO : Hid (acctOkB a n id = false) := by show _ = _; rw [HE2.out]; unfold openB; rw [decide_eq_false hM]; simp
    have gM : ((a.Marks.length : Int) == 0) = false := by rw [beq_eq_false_iff_ne]; omega
    clear hBy hM
    go_enter Try.func22, Try.ntmps22
    go_wp2_with fail
    refine (iNodeCount_any _ _).mono ?_
    rintro e w' ⟨rfl, rfl⟩
    rw [HN.out]
    go_wp2_with fail
    refine (iNodeOf_any _ _ _).mono ?_
    rintro e w' ⟨rfl, rfl⟩
    rw [HI.out]
    go_wp2_with fail
    refine (iNum_any _ _).mono ?_
    rintro e w' ⟨rfl, rfl⟩
    rw [HV.out]
    go_wp2
    go_ret
    exact ⟨ret_eq (by rw [HO.out]; rfl), B0⟩
  have gM : ((a.Marks.length : Int) == 0) = true := by rw [beq_iff_eq]; omega
  by_cases hR : a.Reps.length = 0
  case neg =>
    have HO : Hid (acctOkB a n id = false) := by show _ = _; rw [HE2.out]; unfold openB; rw [decide_eq_false hR]; simp
    have gR : ((a.Reps.length : Int) == 0) = false := by rw [beq_eq_false_iff_ne]; omega
    clear hBy hM hR
    go_enter Try.func22, Try.ntmps22
    go_wp2_with fail
    refine (iNodeCount_any _ _).mono ?_
    rintro e w' ⟨rfl, rfl⟩
    rw [HN.out]
    go_wp2_with fail
    refine (iNodeOf_any _ _ _).mono ?_
    rintro e w' ⟨rfl, rfl⟩
    rw [HI.out]
    go_wp2_with fail
    refine (iNum_any _ _).mono ?_
    rintro e w' ⟨rfl, rfl⟩
    rw [HV.out]
    go_wp2
    go_ret
    exact ⟨ret_eq (by rw [HO.out]; rfl), B0⟩
  have gR : ((a.Reps.length : Int) == 0) = true := by rw [beq_iff_eq]; omega
  have HO : Hid (acctOkB a n id = true) := by show _ = _; rw [HE2.out]; unfold openB; rw [decide_eq_true hBy, decide_eq_true hM, decide_eq_true hR]; rfl
  clear hBy hM hR
  go_enter Try.func22, Try.ntmps22
  go_wp2_with fail
  refine (iNodeCount_any _ _).mono ?_
  rintro e w' ⟨rfl, rfl⟩
  rw [HN.out]
  go_wp2_with fail
  refine (iNodeOf_any _ _ _).mono ?_
  rintro e w' ⟨rfl, rfl⟩
  rw [HI.out]
  go_wp2_with fail
  refine (iNum_any _ _).mono ?_
  rintro e w' ⟨rfl, rfl⟩
  rw [HV.out]
  go_wp2
  go_ret
  exact ⟨ret_eq (by rw [HO.out]; rfl), B0⟩

end Go.Proofs.Ytopmojfcdmcmbaa
