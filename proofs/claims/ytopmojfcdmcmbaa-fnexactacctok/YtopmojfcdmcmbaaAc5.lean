/- An account at a node: the contract of spec.AcctOk. Laid by a program of ours (src/ac5.py). -/
import Derived.Test.YtopmojfcdmcmbaaAc0
import Derived.BigQuiet
import Derived.Deep.QuietTactic
namespace Go.Proofs.Ytopmojfcdmcmbaa
open Go.RowKit
set_option linter.unusedVariables false

/-- what the walk over the reports has seen of the first k -/
def seenAt (l : List MRep) (n id h : Int) (k : Nat) : Prop := ∀ i, i < k → repAt l n i = true ∧ ((repG l i).Node = id → (repG l i).Amt = h)

set_option maxRecDepth 100000 in
set_option maxHeartbeats 8000000 in
theorem sAcctOk_c {w : World} {v : Value} {a : MAcct} {n id : Int} (h : RV acctL w v a) (hb : a.bulk ≤ 16777216) : Calls Try.prog 25 #[v, .int .i64 n, .int .i64 id] w fun e w' => e = .returned (.bool (acctOkB a n id)) ∧ Below w.heap.size w w' := by
  obtain ⟨AM, cM, AR, cR, rfl, rM, rR⟩ := rv_acct h
  clear h
  have hbR : a.Reps.length ≤ 16777216 := by unfold MAcct.bulk at hb; omega
  have hbM : a.Marks.length ≤ 16777216 := by unfold MAcct.bulk at hb; omega
  clear hb
  obtain ⟨A', c', he, hc1, hc2, hr⟩ := rv_slice rR
  simp only [Value.slice.injEq, true_and] at he
  obtain ⟨rfl, rfl⟩ := he
  unfold maxLen at hc2
  obtain ⟨wa, hwa, B0, sa, x_a⟩ := frame1 w 27 [.int .i64 a.Have, .int .i64 a.State, .int .i64 a.By, .slice AM a.Marks.length cM, .slice AR a.Reps.length cR]
  have sa_1 := Nat.le_of_eq sa
  have sa_2 := Nat.le_of_eq sa.symm
  clear sa
  have c_a_0_wa := x_a.cell (i := 0) rfl
  have c_a_1_wa := x_a.cell (i := 1) rfl
  have c_a_2_wa := x_a.cell (i := 2) rfl
  have c_a_3_wa := x_a.cell (i := 3) rfl
  have c_a_4_wa := x_a.cell (i := 4) rfl
  by_cases hN : inB n 1 4 = true
  case neg =>
    replace hN : inB n 1 4 = false := by simpa using hN
    have HN := Lib.hid hN
    have HO : Hid (acctOkB a n id = false) := by show _ = _; unfold acctOkB; rw [hN]; rfl
    clear hN
    go_enter Try.func25, Try.ntmps25
    go_wp2_with fail
    refine (sIn_any _ _ _ _).mono ?_
    rintro e w' ⟨rfl, rfl⟩
    rw [HN.out]
    go_wp2
    go_ret
    exact ⟨ret_eq (by rw [HO.out]; rfl), B0⟩
  have HN := Lib.hid hN
  have bn := inB_true.1 hN
  have tn : IntKind.i64.wrap (n - 1) = n - 1 := IntWalk.i64_in _ (by omega)
  by_cases hI : inB id 0 (n - 1) = true
  case neg =>
    replace hI : inB id 0 (n - 1) = false := by simpa using hI
    have HI := Lib.hid hI
    have HO : Hid (acctOkB a n id = false) := by show _ = _; unfold acctOkB; rw [hI]; simp
    clear hN hI
    go_enter Try.func25, Try.ntmps25
    go_wp2_with fail
    refine (sIn_any _ _ _ _).mono ?_
    rintro e w' ⟨rfl, rfl⟩
    rw [HN.out]
    go_wp2_with fail
    refine (sIn_any _ _ _ _).mono ?_
    rintro e w' ⟨rfl, rfl⟩
    rw [HI.out]
    go_wp2
    go_ret
    exact ⟨ret_eq (by rw [HO.out]; rfl), B0⟩
  have HI := Lib.hid hI
  by_cases hV : numB a.Have = true
  case neg =>
    replace hV : numB a.Have = false := by simpa using hV
    have HV := Lib.hid hV
    have HO : Hid (acctOkB a n id = false) := by show _ = _; unfold acctOkB; rw [hV]; simp
    clear hN hI hV
    go_enter Try.func25, Try.ntmps25
    go_wp2_with fail
    refine (sIn_any _ _ _ _).mono ?_
    rintro e w' ⟨rfl, rfl⟩
    rw [HN.out]
    go_wp2_with fail
    refine (sIn_any _ _ _ _).mono ?_
    rintro e w' ⟨rfl, rfl⟩
    rw [HI.out]
    go_wp2_with fail
    refine (sNum_any _ _).mono ?_
    rintro e w' ⟨rfl, rfl⟩
    rw [HV.out]
    go_wp2
    go_ret
    exact ⟨ret_eq (by rw [HO.out]; rfl), B0⟩
  have HV := Lib.hid hV
  have HE : Hid (acctOkB a n id = if a.State = 0 then openB a else closedB a n id) := by show _ = _; unfold acctOkB; rw [hN, hI, hV]; rfl
  have bi := inB_true.1 hI
  clear hN hI hV
  by_cases hS : a.State = 0
  case pos =>
    have gS : (a.State == 0) = true := by simpa using hS
    have HE2 : Hid (acctOkB a n id = openB a) := by show _ = _; rw [HE.out, if_pos hS]
    clear hS
    by_cases hBy : a.By = 0
    case neg =>
      have HO : Hid (acctOkB a n id = false) := by show _ = _; rw [HE2.out]; unfold openB; rw [decide_eq_false hBy]; simp
      have gBy : (a.By == 0) = false := by rw [beq_eq_false_iff_ne]; omega
      clear hBy
      go_enter Try.func25, Try.ntmps25
      go_wp2_with fail
      refine (sIn_any _ _ _ _).mono ?_
      rintro e w' ⟨rfl, rfl⟩
      rw [HN.out]
      go_wp2_with fail
      refine (sIn_any _ _ _ _).mono ?_
      rintro e w' ⟨rfl, rfl⟩
      rw [HI.out]
      go_wp2_with fail
      refine (sNum_any _ _).mono ?_
      rintro e w' ⟨rfl, rfl⟩
      rw [HV.out]
      go_wp2
      go_ret
      exact ⟨ret_eq (by rw [HO.out]; rfl), B0⟩
    have gBy : (a.By == 0) = true := by rw [beq_iff_eq]; omega
    by_cases hM : a.Marks.length = 0
    case neg =>
      have HO : Hid (acctOkB a n id = false) := by show _ = _; rw [HE2.out]; unfold openB; rw [decide_eq_false hM]; simp
      have gM : ((a.Marks.length : Int) == 0) = false := by rw [beq_eq_false_iff_ne]; omega
      clear hBy hM
      go_enter Try.func25, Try.ntmps25
      go_wp2_with fail
      refine (sIn_any _ _ _ _).mono ?_
      rintro e w' ⟨rfl, rfl⟩
      rw [HN.out]
      go_wp2_with fail
      refine (sIn_any _ _ _ _).mono ?_
      rintro e w' ⟨rfl, rfl⟩
      rw [HI.out]
      go_wp2_with fail
      refine (sNum_any _ _).mono ?_
      rintro e w' ⟨rfl, rfl⟩
      rw [HV.out]
      go_wp2
      go_ret
      exact ⟨ret_eq (by rw [HO.out]; rfl), B0⟩
    have gM : ((a.Marks.length : Int) == 0) = true := by rw [beq_iff_eq]; omega
    by_cases hR : a.Reps.length = 0
    case neg =>
      have HO : Hid (acctOkB a n id = false) := by show _ = _; rw [HE2.out]; unfold openB; rw [decide_eq_false hR]; simp
      have gR : ((a.Reps.length : Int) == 0) = false := by rw [beq_eq_false_iff_ne]; omega
      clear hBy hM hR
      go_enter Try.func25, Try.ntmps25
      go_wp2_with fail
      refine (sIn_any _ _ _ _).mono ?_
      rintro e w' ⟨rfl, rfl⟩
      rw [HN.out]
      go_wp2_with fail
      refine (sIn_any _ _ _ _).mono ?_
      rintro e w' ⟨rfl, rfl⟩
      rw [HI.out]
      go_wp2_with fail
      refine (sNum_any _ _).mono ?_
      rintro e w' ⟨rfl, rfl⟩
      rw [HV.out]
      go_wp2
      go_ret
      exact ⟨ret_eq (by rw [HO.out]; rfl), B0⟩
    have gR : ((a.Reps.length : Int) == 0) = true := by rw [beq_iff_eq]; omega
    have HO : Hid (acctOkB a n id = true) := by show _ = _; rw [HE2.out]; unfold openB; rw [decide_eq_true hBy, decide_eq_true hM, decide_eq_true hR]; rfl
    clear hBy hM hR
    go_enter Try.func25, Try.ntmps25
    go_wp2_with fail
    refine (sIn_any _ _ _ _).mono ?_
    rintro e w' ⟨rfl, rfl⟩
    rw [HN.out]
    go_wp2_with fail
    refine (sIn_any _ _ _ _).mono ?_
    rintro e w' ⟨rfl, rfl⟩
    rw [HI.out]
    go_wp2_with fail
    refine (sNum_any _ _).mono ?_
    rintro e w' ⟨rfl, rfl⟩
    rw [HV.out]
    go_wp2
    go_ret
    exact ⟨ret_eq (by rw [HO.out]; rfl), B0⟩
  have gS : (a.State == 0) = false := by simpa using hS
  have HE2 : Hid (acctOkB a n id = closedB a n id) := by show _ = _; rw [HE.out, if_neg hS]
  clear hS
  by_cases hY : inB a.By 0 (n - 1) = true
  case neg =>
    replace hY : inB a.By 0 (n - 1) = false := by simpa using hY
    have HY := Lib.hid hY
    have HO : Hid (acctOkB a n id = false) := by show _ = _; rw [HE2.out]; unfold closedB; rw [hY]; rfl
    clear hY
    go_enter Try.func25, Try.ntmps25
    go_wp2_with fail
    refine (sIn_any _ _ _ _).mono ?_
    rintro e w' ⟨rfl, rfl⟩
    rw [HN.out]
    go_wp2_with fail
    refine (sIn_any _ _ _ _).mono ?_
    rintro e w' ⟨rfl, rfl⟩
    rw [HI.out]
    go_wp2_with fail
    refine (sNum_any _ _).mono ?_
    rintro e w' ⟨rfl, rfl⟩
    rw [HV.out]
    go_wp2_with fail
    refine (sIn_any _ _ _ _).mono ?_
    rintro e w' ⟨rfl, rfl⟩
    rw [HY.out]
    go_wp2
    go_ret
    exact ⟨ret_eq (by rw [HO.out]; rfl), B0⟩
  have HY := Lib.hid hY
  by_cases hM : riseB a.Marks = true
  case neg =>
    replace hM : riseB a.Marks = false := by simpa using hM
    have HM := Lib.hid hM
    have HO : Hid (acctOkB a n id = false) := by show _ = _; rw [HE2.out]; unfold closedB; rw [hM]; simp
    clear hY hM
    go_enter Try.func25, Try.ntmps25
    go_wp2_with fail
    refine (sIn_any _ _ _ _).mono ?_
    rintro e w' ⟨rfl, rfl⟩
    rw [HN.out]
    go_wp2_with fail
    refine (sIn_any _ _ _ _).mono ?_
    rintro e w' ⟨rfl, rfl⟩
    rw [HI.out]
    go_wp2_with fail
    refine (sNum_any _ _).mono ?_
    rintro e w' ⟨rfl, rfl⟩
    rw [HV.out]
    go_wp2_with fail
    refine (sIn_any _ _ _ _).mono ?_
    rintro e w' ⟨rfl, rfl⟩
    rw [HY.out]
    go_wp2_with fail
    refine (sRise_c (rM.from_ B0)).mono ?_
    rintro e w' ⟨rfl, rfl⟩
    rw [HM.out]
    go_wp2
    go_ret
    exact ⟨ret_eq (by rw [HO.out]; rfl), B0⟩
  have HM := Lib.hid hM
  by_cases hH : hasI a.Marks id = false
  case neg =>
    replace hH : hasI a.Marks id = true := by simpa using hH
    have HH := Lib.hid hH
    have HO : Hid (acctOkB a n id = false) := by show _ = _; rw [HE2.out]; unfold closedB; rw [hH]; simp
    clear hY hM hH
    go_enter Try.func25, Try.ntmps25
    go_wp2_with fail
    refine (sIn_any _ _ _ _).mono ?_
    rintro e w' ⟨rfl, rfl⟩
    rw [HN.out]
    go_wp2_with fail
    refine (sIn_any _ _ _ _).mono ?_
    rintro e w' ⟨rfl, rfl⟩
    rw [HI.out]
    go_wp2_with fail
    refine (sNum_any _ _).mono ?_
    rintro e w' ⟨rfl, rfl⟩
    rw [HV.out]
    go_wp2_with fail
    refine (sIn_any _ _ _ _).mono ?_
    rintro e w' ⟨rfl, rfl⟩
    rw [HY.out]
    go_wp2_with fail
    refine (sRise_c (rM.from_ B0)).mono ?_
    rintro e w' ⟨rfl, rfl⟩
    rw [HM.out]
    go_wp2_with fail
    refine (sHasI_c (rM.from_ B0)).mono ?_
    rintro e w' ⟨rfl, rfl⟩
    rw [HH.out]
    go_wp2
    go_ret
    exact ⟨ret_eq (by rw [HO.out]; rfl), B0⟩
  have HH := Lib.hid hH
  have HE3 : Hid (closedB a n id = (repsB a.Reps n id a.Have && (underB a.Marks n && (ownB a n id && decide (a.State = stateOf a.Reps.length n))))) := by show _ = _; unfold closedB; rw [hY, hM, hH]; rfl
  clear hY hM hH
  go_enter Try.func25, Try.ntmps25
  go_wp2_with fail
  refine (sIn_any _ _ _ _).mono ?_
  rintro e w' ⟨rfl, rfl⟩
  rw [HN.out]
  go_wp2_with fail
  refine (sIn_any _ _ _ _).mono ?_
  rintro e w' ⟨rfl, rfl⟩
  rw [HI.out]
  go_wp2_with fail
  refine (sNum_any _ _).mono ?_
  rintro e w' ⟨rfl, rfl⟩
  rw [HV.out]
  go_wp2_with fail
  refine (sIn_any _ _ _ _).mono ?_
  rintro e w' ⟨rfl, rfl⟩
  rw [HY.out]
  go_wp2_with fail
  refine (sRise_c (rM.from_ B0)).mono ?_
  rintro e w' ⟨rfl, rfl⟩
  rw [HM.out]
  go_wp2_with fail
  refine (sHasI_c (rM.from_ B0)).mono ?_
  rintro e w' ⟨rfl, rfl⟩
  rw [HH.out]
  go_wp2
  go_loopw [7, 65] (fun own i wr => ∃ (k : Nat) (q : Bool), k ≤ a.Reps.length ∧ i = .int .i64 k ∧ own = .bool q ∧ Hid (q = hasRep (a.Reps.take k) id) ∧ Hid (seenAt a.Reps n id a.Have k) ∧ Vr wr w.heap.size 27 [.int .i64 a.Have, .int .i64 a.State, .int .i64 a.By, .slice AM a.Marks.length cM, .slice AR a.Reps.length cR] ∧ Below w.heap.size w wr) (fun _ i _ => a.Reps.length - (intOf i).toNat)
  case atStart => exact ⟨0, false, Nat.zero_le _, rfl, rfl, rfl, fun i hi => by omega, x_a, B0⟩
  case round =>
    clear c_a_0_wa c_a_1_wa c_a_2_wa c_a_3_wa c_a_4_wa
    clear x_a hwa
    obtain ⟨k, q, hk, rfl, rfl, HQ, HT, x_a, HB⟩ := hrel
    have hs := HB.size
    have lr := x_a.lt
    by_cases hlt : k < a.Reps.length
    case neg =>
      have hk2 : ¬ ((k : Int) < (a.Reps.length : Int)) := by omega
      have HQ2 : Hid (q = hasRep a.Reps id) := by have := HQ.out; rwa [List.take_of_length_le (by omega)] at this
      have HR : Hid (repsB a.Reps n id a.Have = true) := decide_eq_true (fun i hi => HT.out i (by omega))
      have HE4 : Hid (acctOkB a n id = (underB a.Marks n && (ownB a n id && decide (a.State = stateOf a.Reps.length n)))) := by show _ = _; rw [HE2.out, HE3.out, HR.out]; rfl
      clear HQ HT
      have c_a_0_wr := x_a.cell (i := 0) rfl
      have c_a_1_wr := x_a.cell (i := 1) rfl
      have c_a_2_wr := x_a.cell (i := 2) rfl
      have c_a_3_wr := x_a.cell (i := 3) rfl
      have c_a_4_wr := x_a.cell (i := 4) rfl
      rcases Nat.eq_zero_or_pos a.Marks.length with e0 | e0
      case inl =>
        have HU : Hid (underB a.Marks n = true) := by show _ = _; unfold underB; rw [decide_eq_true e0]; rfl
        have ge : decide (0 < (a.Marks.length : Int)) = false := decide_eq_false (by omega)
        have ge2 : decide (0 < a.Marks.length) = false := decide_eq_false (by omega)
        clear e0
        by_cases hQ : q = true
        case pos =>
          subst hQ
          by_cases hK : (a.Marks.length : Int) = n - 1
          case pos =>
            have gK : ((a.Marks.length : Int) == n - 1) = true := by simpa using hK
            have HW : Hid (ownB a n id = true) := by show _ = _; unfold ownB; rw [← HQ2.out, decide_eq_true hK]; rfl
            clear hK
            by_cases hL : (a.Reps.length : Int) = n
            case pos =>
              have gL : ((a.Reps.length : Int) == n) = true := by simpa using hL
              have HS : Hid (stateOf (a.Reps.length : Int) n = 2) := if_pos hL
              clear hL
              have HO : Hid (acctOkB a n id = (a.State == 2)) := by show _ = _; rw [HE4.out, HU.out, HW.out, HS.out]; rfl
              go_wp2
              go_ret
              exact ⟨ret_eq (by rw [HO.out]; rfl), HB⟩
            case neg =>
              have gL : ((a.Reps.length : Int) == n) = false := by simpa using hL
              have HS : Hid (stateOf (a.Reps.length : Int) n = 1) := if_neg hL
              clear hL
              have HO : Hid (acctOkB a n id = (a.State == 1)) := by show _ = _; rw [HE4.out, HU.out, HW.out, HS.out]; rfl
              go_wp2
              go_ret
              exact ⟨ret_eq (by rw [HO.out]; rfl), HB⟩
          case neg =>
            have gK : ((a.Marks.length : Int) == n - 1) = false := by simpa using hK
            have HW : Hid (ownB a n id = false) := by show _ = _; unfold ownB; rw [← HQ2.out, decide_eq_false hK]; rfl
            clear hK
            have HO : Hid (acctOkB a n id = false) := by show _ = _; rw [HE4.out, HW.out]; simp
            go_wp2
            go_ret
            exact ⟨ret_eq (by rw [HO.out]; rfl), HB⟩
        case neg =>
          replace hQ : q = false := by simpa using hQ
          subst hQ
          by_cases hK : (a.Marks.length : Int) = n - 1
          case pos =>
            have gK : ((a.Marks.length : Int) == n - 1) = true := by simpa using hK
            have HW : Hid (ownB a n id = false) := by show _ = _; unfold ownB; rw [← HQ2.out, decide_eq_true hK]; rfl
            clear hK
            have HO : Hid (acctOkB a n id = false) := by show _ = _; rw [HE4.out, HW.out]; simp
            go_wp2
            go_ret
            exact ⟨ret_eq (by rw [HO.out]; rfl), HB⟩
          case neg =>
            have gK : ((a.Marks.length : Int) == n - 1) = false := by simpa using hK
            have HW : Hid (ownB a n id = true) := by show _ = _; unfold ownB; rw [← HQ2.out, decide_eq_false hK]; rfl
            clear hK
            by_cases hL : (a.Reps.length : Int) = n
            case pos =>
              have gL : ((a.Reps.length : Int) == n) = true := by simpa using hL
              have HS : Hid (stateOf (a.Reps.length : Int) n = 2) := if_pos hL
              clear hL
              have HO : Hid (acctOkB a n id = (a.State == 2)) := by show _ = _; rw [HE4.out, HU.out, HW.out, HS.out]; rfl
              go_wp2
              go_ret
              exact ⟨ret_eq (by rw [HO.out]; rfl), HB⟩
            case neg =>
              have gL : ((a.Reps.length : Int) == n) = false := by simpa using hL
              have HS : Hid (stateOf (a.Reps.length : Int) n = 1) := if_neg hL
              clear hL
              have HO : Hid (acctOkB a n id = (a.State == 1)) := by show _ = _; rw [HE4.out, HU.out, HW.out, HS.out]; rfl
              go_wp2
              go_ret
              exact ⟨ret_eq (by rw [HO.out]; rfl), HB⟩
      case inr =>
        obtain ⟨b, off, rfl, hbb, hc⟩ := rdi_at ((rM.rd_).below HB) e0
        obtain ⟨m, hm⟩ : ∃ m, a.Marks.length = m + 1 := ⟨a.Marks.length - 1, by omega⟩
        have cn := hc m (by omega)
        obtain ⟨y, hy⟩ : ∃ y, a.Marks.getD m 0 = y := ⟨_, rfl⟩
        rw [hy] at cn
        clear hc
        have ge : decide (0 < (a.Marks.length : Int)) = true := decide_eq_true (by omega)
        have ge2 : decide (0 < a.Marks.length) = true := decide_eq_true (by omega)
        have i2 : (m : Int) < (a.Marks.length : Int) := by omega
        have i3 : (0 : Int) ≤ (m : Int) := by omega
        have e1 : IntKind.i64.wrap ((a.Marks.length : Int) - 1) = (m : Int) := by rw [show (a.Marks.length : Int) - 1 = (m : Int) by omega]; exact IntWalk.i64_in _ (by omega)
        have e1' : (a.Marks.length : Int) - 1 = (m : Int) := by omega
        have HUe : Hid (underB a.Marks n = decide (y < n)) := by show _ = _; unfold underB; rw [decide_eq_false (by omega), show a.Marks.length - 1 = m by omega, hy]; rfl
        clear hy hm e0
        by_cases hyn : y < n
        case neg =>
          have gy : decide (n ≤ y) = true := decide_eq_true (by omega)
          have HO : Hid (acctOkB a n id = false) := by show _ = _; rw [HE4.out, HUe.out, decide_eq_false hyn]; rfl
          clear hyn
          go_wp2
          go_ret
          exact ⟨ret_eq (by rw [HO.out]; rfl), HB⟩
        have gy : decide (n ≤ y) = false := decide_eq_false (by omega)
        have HU : Hid (underB a.Marks n = true) := by show _ = _; rw [HUe.out, decide_eq_true hyn]
        clear hyn
        by_cases hQ : q = true
        case pos =>
          subst hQ
          by_cases hK : (a.Marks.length : Int) = n - 1
          case pos =>
            have gK : ((a.Marks.length : Int) == n - 1) = true := by simpa using hK
            have HW : Hid (ownB a n id = true) := by show _ = _; unfold ownB; rw [← HQ2.out, decide_eq_true hK]; rfl
            clear hK
            by_cases hL : (a.Reps.length : Int) = n
            case pos =>
              have gL : ((a.Reps.length : Int) == n) = true := by simpa using hL
              have HS : Hid (stateOf (a.Reps.length : Int) n = 2) := if_pos hL
              clear hL
              have HO : Hid (acctOkB a n id = (a.State == 2)) := by show _ = _; rw [HE4.out, HU.out, HW.out, HS.out]; rfl
              go_wp2
              go_ret
              exact ⟨ret_eq (by rw [HO.out]; rfl), HB⟩
            case neg =>
              have gL : ((a.Reps.length : Int) == n) = false := by simpa using hL
              have HS : Hid (stateOf (a.Reps.length : Int) n = 1) := if_neg hL
              clear hL
              have HO : Hid (acctOkB a n id = (a.State == 1)) := by show _ = _; rw [HE4.out, HU.out, HW.out, HS.out]; rfl
              go_wp2
              go_ret
              exact ⟨ret_eq (by rw [HO.out]; rfl), HB⟩
          case neg =>
            have gK : ((a.Marks.length : Int) == n - 1) = false := by simpa using hK
            have HW : Hid (ownB a n id = false) := by show _ = _; unfold ownB; rw [← HQ2.out, decide_eq_false hK]; rfl
            clear hK
            have HO : Hid (acctOkB a n id = false) := by show _ = _; rw [HE4.out, HW.out]; simp
            go_wp2
            go_ret
            exact ⟨ret_eq (by rw [HO.out]; rfl), HB⟩
        case neg =>
          replace hQ : q = false := by simpa using hQ
          subst hQ
          by_cases hK : (a.Marks.length : Int) = n - 1
          case pos =>
            have gK : ((a.Marks.length : Int) == n - 1) = true := by simpa using hK
            have HW : Hid (ownB a n id = false) := by show _ = _; unfold ownB; rw [← HQ2.out, decide_eq_true hK]; rfl
            clear hK
            have HO : Hid (acctOkB a n id = false) := by show _ = _; rw [HE4.out, HW.out]; simp
            go_wp2
            go_ret
            exact ⟨ret_eq (by rw [HO.out]; rfl), HB⟩
          case neg =>
            have gK : ((a.Marks.length : Int) == n - 1) = false := by simpa using hK
            have HW : Hid (ownB a n id = true) := by show _ = _; unfold ownB; rw [← HQ2.out, decide_eq_false hK]; rfl
            clear hK
            by_cases hL : (a.Reps.length : Int) = n
            case pos =>
              have gL : ((a.Reps.length : Int) == n) = true := by simpa using hL
              have HS : Hid (stateOf (a.Reps.length : Int) n = 2) := if_pos hL
              clear hL
              have HO : Hid (acctOkB a n id = (a.State == 2)) := by show _ = _; rw [HE4.out, HU.out, HW.out, HS.out]; rfl
              go_wp2
              go_ret
              exact ⟨ret_eq (by rw [HO.out]; rfl), HB⟩
            case neg =>
              have gL : ((a.Reps.length : Int) == n) = false := by simpa using hL
              have HS : Hid (stateOf (a.Reps.length : Int) n = 1) := if_neg hL
              clear hL
              have HO : Hid (acctOkB a n id = (a.State == 1)) := by show _ = _; rw [HE4.out, HU.out, HW.out, HS.out]; rfl
              go_wp2
              go_ret
              exact ⟨ret_eq (by rw [HO.out]; rfl), HB⟩
    obtain ⟨x, hxe⟩ := get_of_lt hlt
    obtain ⟨b, off, rfl, hb, e0, e1⟩ := el_rep (hr.below HB) hxe
    have i1 : (k : Int) < (a.Reps.length : Int) := by omega
    have hx := repG_of hxe
    obtain ⟨w1, e_w1, s_w1, h_w1, x_m⟩ := alloc_step wr 57 [.int .i64 x.Node, .int .i64 x.Amt]
    have s_w1_1 := Nat.le_of_eq s_w1
    have s_w1_2 := Nat.le_of_eq s_w1.symm
    clear s_w1
    replace x_a := x_a.from_ h_w1
    have B_w1 := HB.trans (h_w1.mono HB.size)
    have c_a_0_w1 := x_a.cell (i := 0) rfl
    have c_a_1_w1 := x_a.cell (i := 1) rfl
    have c_a_2_w1 := x_a.cell (i := 2) rfl
    have c_a_3_w1 := x_a.cell (i := 3) rfl
    have c_a_4_w1 := x_a.cell (i := 4) rfl
    have c_m_0_w1 := x_m.cell (i := 0) rfl
    have c_m_1_w1 := x_m.cell (i := 1) rfl
    have e0' := (h_w1.cell (p := ⟨b, off + k * 2, none⟩) (by show b < wr.heap.size; omega)).trans e0
    have ks : ∀ q, inB x.Node 0 (n - 1) = q → ∀ W, Calls Try.prog 56 #[.int .i64 x.Node, .int .i64 0, .int .i64 (n - 1)] W fun e w' => e = .returned (.bool q) ∧ w' = W := fun q hq W => (sIn_any _ _ _ W).mono (by rintro e w' ⟨rfl, rfl⟩; exact ⟨by rw [hq], rfl⟩)
    have kn : ∀ q, numB x.Amt = q → ∀ W, Calls Try.prog 57 #[.int .i64 x.Amt] W fun e w' => e = .returned (.bool q) ∧ w' = W := fun q hq W => (sNum_any _ W).mono (by rintro e w' ⟨rfl, rfl⟩; exact ⟨by rw [hq], rfl⟩)
    by_cases hA : inB x.Node 0 (n - 1) = true
    case neg =>
      replace hA : inB x.Node 0 (n - 1) = false := by simpa using hA
      have HO : Hid (acctOkB a n id = false) := by show _ = _; rw [HE2.out, HE3.out, show repsB a.Reps n id a.Have = false from decide_eq_false (fun c => by have c1 := hA; have := c k hlt; rw [hx] at this; simp only [repAt, hx] at this; rw [hA] at this; simp at this)]; rfl
      have k1 := ks _ hA
      have k2 := kn _ rfl
      clear ks kn hA hx hxe
      go_wp2_with fail
      go_quiet ((first | (go_at_call 56; exact Calls.quiet_of_same (k1 _)) | (go_at_call 57; exact Calls.quiet_of_same (k2 _))))
      have B9 := B_w1.trans (below_of_drew _ _ nq)
      go_wp2
      go_ret
      exact ⟨ret_eq (by rw [HO.out]; rfl), B9⟩
    by_cases hN : numB x.Amt = true
    case neg =>
      replace hN : numB x.Amt = false := by simpa using hN
      have HO : Hid (acctOkB a n id = false) := by show _ = _; rw [HE2.out, HE3.out, show repsB a.Reps n id a.Have = false from decide_eq_false (fun c => by have c1 := hN; have := c k hlt; rw [hx] at this; simp only [repAt, hx] at this; rw [hN] at this; simp at this)]; rfl
      have k1 := ks _ hA
      have k2 := kn _ hN
      clear ks kn hA hN hx hxe
      go_wp2_with fail
      go_quiet ((first | (go_at_call 56; exact Calls.quiet_of_same (k1 _)) | (go_at_call 57; exact Calls.quiet_of_same (k2 _))))
      have B9 := B_w1.trans (below_of_drew _ _ nq)
      go_wp2
      go_ret
      exact ⟨ret_eq (by rw [HO.out]; rfl), B9⟩
    have k1 := ks _ hA
    have k2 := kn _ hN
    clear ks kn
    by_cases hk0 : k = 0
    case pos =>
      have t0 : decide ((0 : Int) < (k : Int)) = false := decide_eq_false (by omega)
      have t1 : decide (0 < k) = false := decide_eq_false (by omega)
      have HAT : Hid (repAt a.Reps n k = true) := by show _ = _; unfold repAt; rw [hx, hA, hN, decide_eq_true hk0]; simp
      clear hk0
      by_cases hD : x.Node = id
      case pos =>
        have gD : (x.Node == id) = true := by simpa using hD
        have HQ3 : Hid (true = hasRep (a.Reps.take (k + 1)) id) := by show _ = _; rw [hasRep_take hxe, ← HQ.out, decide_eq_true hD]; simp
        by_cases hE : x.Amt = a.Have
        case neg =>
          have HO : Hid (acctOkB a n id = false) := by show _ = _; rw [HE2.out, HE3.out, show repsB a.Reps n id a.Have = false from decide_eq_false (fun c => by have c1 := hE; have := c k hlt; rw [hx] at this; simp only [repAt, hx] at this; exact hE (this.2 hD))]; rfl
          have gE : (x.Amt != a.Have) = true := by simpa using hE
          clear hD hE hA hN hx hxe
          go_wp2_with fail
          go_quiet ((first | (go_at_call 56; exact Calls.quiet_of_same (k1 _)) | (go_at_call 57; exact Calls.quiet_of_same (k2 _))))
          have B9 := B_w1.trans (below_of_drew _ _ nq)
          go_wp2
          go_ret
          exact ⟨ret_eq (by rw [HO.out]; rfl), B9⟩
        have gE : (x.Amt != a.Have) = false := by simpa using hE
        have H2 : Hid (seenAt a.Reps n id a.Have (k + 1)) := fun i hi => by
          by_cases e : i = k
          · rw [e, hx]; exact ⟨HAT.out, fun hc => hE⟩
          · exact HT.out i (by omega)
        clear hE hD hA hN hx hxe
        go_wp2_with fail
        go_quiet ((first | (go_at_call 56; exact Calls.quiet_of_same (k1 _)) | (go_at_call 57; exact Calls.quiet_of_same (k2 _))))
        have B9 := B_w1.trans (below_of_drew _ _ nq)
        have X9 := x_a.from_ (below_of_drew _ _ nq)
        go_wp2
        go_roundw
        case rel => exact ⟨k + 1, _, by omega, by go_num, rfl, HQ3, H2, X9, B9⟩
        case measure => simp [intOf]; omega
      case neg =>
        have gD : (x.Node == id) = false := by simpa using hD
        have HQ3 : Hid (q = hasRep (a.Reps.take (k + 1)) id) := by show _ = _; rw [hasRep_take hxe, ← HQ.out, decide_eq_false hD]; simp
        have H2 : Hid (seenAt a.Reps n id a.Have (k + 1)) := fun i hi => by
          by_cases e : i = k
          · rw [e, hx]; exact ⟨HAT.out, fun hc => absurd hc hD⟩
          · exact HT.out i (by omega)
        clear hD hA hN hx hxe
        go_wp2_with fail
        go_quiet ((first | (go_at_call 56; exact Calls.quiet_of_same (k1 _)) | (go_at_call 57; exact Calls.quiet_of_same (k2 _))))
        have B9 := B_w1.trans (below_of_drew _ _ nq)
        have X9 := x_a.from_ (below_of_drew _ _ nq)
        go_wp2
        go_roundw
        case rel => exact ⟨k + 1, _, by omega, by go_num, rfl, HQ3, H2, X9, B9⟩
        case measure => simp [intOf]; omega
    obtain ⟨m, hmk⟩ : ∃ m, k = m + 1 := ⟨k - 1, by omega⟩
    obtain ⟨y, hye⟩ := get_of_lt (xs := a.Reps) (k := m) (by omega)
    have hy : repG a.Reps (k - 1) = y := by rw [show k - 1 = m by omega]; exact repG_of hye
    obtain ⟨b', off', he', hb', d0, d1⟩ := el_rep (hr.below HB) hye
    simp only [Option.some.injEq, Addr.mk.injEq, and_true] at he'
    obtain ⟨rfl, rfl⟩ := he'
    replace d0 := (h_w1.cell (p := ⟨b, off + m * 2, none⟩) (by show b < wr.heap.size; omega)).trans d0
    clear d1
    have t0 : decide ((0 : Int) < (k : Int)) = true := decide_eq_true (by omega)
    have t0' : decide (0 < k) = true := decide_eq_true (by omega)
    have e1 : IntKind.i64.wrap ((k : Int) - 1) = (m : Int) := by rw [show (k : Int) - 1 = (m : Int) by omega]; exact IntWalk.i64_in _ (by omega)
    have i2 : (m : Int) < (a.Reps.length : Int) := by omega
    have i3 : (0 : Int) ≤ (m : Int) := by omega
    clear hmk
    by_cases hyx : y.Node < x.Node
    case neg =>
      have HO : Hid (acctOkB a n id = false) := by show _ = _; rw [HE2.out, HE3.out, show repsB a.Reps n id a.Have = false from decide_eq_false (fun c => by have c1 := hyx; have := c k hlt; rw [hx] at this; simp only [repAt, hx] at this; rw [hy, decide_eq_false hyx, decide_eq_false hk0] at this; simp at this)]; rfl
      have gy : decide (x.Node ≤ y.Node) = true := decide_eq_true (by omega)
      clear hk0 hyx hA hN hx hy hxe hye
      go_wp2_with fail
      go_quiet ((first | (go_at_call 56; exact Calls.quiet_of_same (k1 _)) | (go_at_call 57; exact Calls.quiet_of_same (k2 _))))
      have B9 := B_w1.trans (below_of_drew _ _ nq)
      go_wp2
      go_ret
      exact ⟨ret_eq (by rw [HO.out]; rfl), B9⟩
    have gy : decide (x.Node ≤ y.Node) = false := decide_eq_false (by omega)
    clear hye hk0
    have HAT : Hid (repAt a.Reps n k = true) := by show _ = _; unfold repAt; rw [hx, hA, hN, hy, decide_eq_true hyx]; simp
    clear hyx hy
    by_cases hD : x.Node = id
    case pos =>
      have gD : (x.Node == id) = true := by simpa using hD
      have HQ3 : Hid (true = hasRep (a.Reps.take (k + 1)) id) := by show _ = _; rw [hasRep_take hxe, ← HQ.out, decide_eq_true hD]; simp
      by_cases hE : x.Amt = a.Have
      case neg =>
        have HO : Hid (acctOkB a n id = false) := by show _ = _; rw [HE2.out, HE3.out, show repsB a.Reps n id a.Have = false from decide_eq_false (fun c => by have c1 := hE; have := c k hlt; rw [hx] at this; simp only [repAt, hx] at this; exact hE (this.2 hD))]; rfl
        have gE : (x.Amt != a.Have) = true := by simpa using hE
        clear hD hE hA hN hx hxe
        go_wp2_with fail
        go_quiet ((first | (go_at_call 56; exact Calls.quiet_of_same (k1 _)) | (go_at_call 57; exact Calls.quiet_of_same (k2 _))))
        have B9 := B_w1.trans (below_of_drew _ _ nq)
        go_wp2
        go_ret
        exact ⟨ret_eq (by rw [HO.out]; rfl), B9⟩
      have gE : (x.Amt != a.Have) = false := by simpa using hE
      have H2 : Hid (seenAt a.Reps n id a.Have (k + 1)) := fun i hi => by
        by_cases e : i = k
        · rw [e, hx]; exact ⟨HAT.out, fun hc => hE⟩
        · exact HT.out i (by omega)
      clear hE hD hA hN hx hxe
      go_wp2_with fail
      go_quiet ((first | (go_at_call 56; exact Calls.quiet_of_same (k1 _)) | (go_at_call 57; exact Calls.quiet_of_same (k2 _))))
      have B9 := B_w1.trans (below_of_drew _ _ nq)
      have X9 := x_a.from_ (below_of_drew _ _ nq)
      go_wp2
      go_roundw
      case rel => exact ⟨k + 1, _, by omega, by go_num, rfl, HQ3, H2, X9, B9⟩
      case measure => simp [intOf]; omega
    case neg =>
      have gD : (x.Node == id) = false := by simpa using hD
      have HQ3 : Hid (q = hasRep (a.Reps.take (k + 1)) id) := by show _ = _; rw [hasRep_take hxe, ← HQ.out, decide_eq_false hD]; simp
      have H2 : Hid (seenAt a.Reps n id a.Have (k + 1)) := fun i hi => by
        by_cases e : i = k
        · rw [e, hx]; exact ⟨HAT.out, fun hc => absurd hc hD⟩
        · exact HT.out i (by omega)
      clear hD hA hN hx hxe
      go_wp2_with fail
      go_quiet ((first | (go_at_call 56; exact Calls.quiet_of_same (k1 _)) | (go_at_call 57; exact Calls.quiet_of_same (k2 _))))
      have B9 := B_w1.trans (below_of_drew _ _ nq)
      have X9 := x_a.from_ (below_of_drew _ _ nq)
      go_wp2
      go_roundw
      case rel => exact ⟨k + 1, _, by omega, by go_num, rfl, HQ3, H2, X9, B9⟩
      case measure => simp [intOf]; omega

end Go.Proofs.Ytopmojfcdmcmbaa
