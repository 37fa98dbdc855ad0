/- Texts joined: No0, Ac5, No1. -/
import Derived.Test.YtdoipabfmekdlaaBunS
import Derived.Test.YtdoipabfmekdlaaBunC
import Derived.Test.YtdoipabfmekdlaaBunD
import Derived.BigQuiet
import Derived.Deep.QuietTactic

namespace Go.Proofs.Ytdoipabfmekdlaa
open Go.RowKit
set_option linter.unusedVariables false

deriving instance DecidableEq for MAcc

def acctG (l : List MAcct) (i : Nat) : MAcct := l.getD i acctZ
def accG (l : List MAcc) (i : Nat) : MAcc := l.getD i accZ
def outG (l : List MOut) (i : Nat) : MOut := l.getD i ⟨0, []⟩
def nodeZ : MNode := ⟨0, 0, [], [], [], [], 0, 0, 0⟩

def ndHead (x : MNode) : Bool := inB x.N 1 4 && (inB x.Id 0 (x.N - 1) && (inB x.Accts.length 1 3 && (decide (x.Accs.length = x.Accts.length) && (decide ((x.Outs.length : Int) = x.N) && (decide ((x.Ins.length : Int) = x.N) && (numB x.Stray && (numB x.Came && numB x.Went)))))))
def ndAcct (x : MNode) (i : Nat) : Prop := acctOkB (acctG x.Accts i) x.N x.Id = true ∧ accOkB (accG x.Accs i) = true
def ndOut (x : MNode) (i : Nat) : Prop := outOkB (outG x.Outs i) = true ∧ numB (x.Ins.getD i 0) = true
instance (x : MNode) (i : Nat) : Decidable (ndAcct x i) := by unfold ndAcct; infer_instance
instance (x : MNode) (i : Nat) : Decidable (ndOut x i) := by unfold ndOut; infer_instance
def ndAccts (x : MNode) : Bool := decide (∀ i, i < x.Accts.length → ndAcct x i)
def ndOuts (x : MNode) : Bool := decide (∀ i, i < x.Outs.length → ndOut x i)
def ndLast (x : MNode) : Bool := outSameB (outG x.Outs x.Id.toNat) outNew && decide (x.Ins.getD x.Id.toNat 0 = 0)
def nodeOkB (x : MNode) : Bool := ndHead x && (ndAccts x && (ndOuts x && ndLast x))

/-- what is in the accounts of a list, in all -/
def haveSum : List MAcct → Int → Int
  | [], z => z
  | a :: l, z => haveSum l (IntKind.i64.wrap (z + a.Have))
def nodeWorth (x : MNode) : Int := if nodeOkB x = true then haveSum x.Accts x.Stray else 0
def nodeHas (x : MNode) (a : Int) : Int := if nodeOkB x = true ∧ inB a 0 ((x.Accts.length : Int) - 1) = true then (acctG x.Accts a.toNat).Have else 0
def waitSum : List MOut → Int → Int
  | [], z => z
  | o :: l, z => waitSum l (IntKind.i64.wrap (z + (o.List.length : Int)))
def waiting (x : MNode) : Int := waitSum x.Outs 0

theorem acctG_of {l : List MAcct} {k : Nat} {x : MAcct} (hx : l[k]? = some x) : acctG l k = x := by
  unfold acctG; rw [List.getD_eq_getElem?_getD, hx]; rfl
theorem accG_of {l : List MAcc} {k : Nat} {x : MAcc} (hx : l[k]? = some x) : accG l k = x := by
  unfold accG; rw [List.getD_eq_getElem?_getD, hx]; rfl
theorem outG_of {l : List MOut} {k : Nat} {x : MOut} (hx : l[k]? = some x) : outG l k = x := by
  unfold outG; rw [List.getD_eq_getElem?_getD, hx]; rfl
theorem intG_of {l : List Int} {k : Nat} {x : Int} (hx : l[k]? = some x) : l.getD k 0 = x := by
  rw [List.getD_eq_getElem?_getD, hx]; rfl
theorem haveSum_snoc : ∀ (l : List MAcct) (z : Int) (x : MAcct), haveSum (l ++ [x]) z = IntKind.i64.wrap (haveSum l z + x.Have)
  | [], _, _ => rfl
  | r :: l, z, x => by
    show haveSum (l ++ [x]) _ = IntKind.i64.wrap (haveSum l _ + x.Have)
    exact haveSum_snoc l _ x
theorem haveSum_take {l : List MAcct} {k : Nat} {x : MAcct} (hx : l[k]? = some x) (z : Int) : haveSum (l.take (k + 1)) z = IntKind.i64.wrap (haveSum (l.take k) z + x.Have) := by
  rw [List.take_add_one, hx]
  exact haveSum_snoc _ _ _
theorem waitSum_snoc : ∀ (l : List MOut) (z : Int) (x : MOut), waitSum (l ++ [x]) z = IntKind.i64.wrap (waitSum l z + (x.List.length : Int))
  | [], _, _ => rfl
  | r :: l, z, x => by
    show waitSum (l ++ [x]) _ = IntKind.i64.wrap (waitSum l _ + (x.List.length : Int))
    exact waitSum_snoc l _ x
theorem waitSum_take {l : List MOut} {k : Nat} {x : MOut} (hx : l[k]? = some x) (z : Int) : waitSum (l.take (k + 1)) z = IntKind.i64.wrap (waitSum (l.take k) z + (x.List.length : Int)) := by
  rw [List.take_add_one, hx]
  exact waitSum_snoc _ _ _

theorem ndHead_true {x : MNode} (h : ndHead x = true) : (1 ≤ x.N ∧ x.N ≤ 4) ∧ (0 ≤ x.Id ∧ x.Id ≤ x.N - 1) ∧ (1 ≤ x.Accts.length ∧ x.Accts.length ≤ 3) ∧ x.Accs.length = x.Accts.length ∧ (x.Outs.length : Int) = x.N ∧ (x.Ins.length : Int) = x.N ∧ numB x.Stray = true ∧ numB x.Came = true ∧ numB x.Went = true := by
  unfold ndHead at h
  simp only [Bool.and_eq_true, inB_true, decide_eq_true_eq] at h
  obtain ⟨h1, h2, h3, h4, h5, h6, h7, h8, h9⟩ := h
  exact ⟨h1, h2, by omega, h4, h5, h6, h7, h8, h9⟩

end Go.Proofs.Ytdoipabfmekdlaa

namespace Go.Proofs.Ytdoipabfmekdlaa
open Go.RowKit
set_option linter.unusedVariables false

/-- what the walk over the reports has seen of the first k -/
def seenAt (l : List MRep) (n id h : Int) (k : Nat) : Prop := ∀ i, i < k → repAt l n i = true ∧ ((repG l i).Node = id → (repG l i).Amt = h)

set_option maxRecDepth 100000 in
set_option maxHeartbeats 8000000 in
theorem sAcctOk_c {w : World} {v : Value} {a : MAcct} {n id : Int} (h : RV acctL w v a) (hb : a.bulk ≤ 16777216) : Calls Try.prog 32 #[v, .int .i64 n, .int .i64 id] w fun e w' => e = .returned (.bool (acctOkB a n id)) ∧ Below w.heap.size w w' := by
  obtain ⟨AM, cM, AR, cR, rfl, rM, rR⟩ := rv_acct h
  clear h
  have hbR : a.Reps.length ≤ 16777216 := by unfold MAcct.bulk at hb; omega
  have hbM : a.Marks.length ≤ 16777216 := by unfold MAcct.bulk at hb; omega
  clear hb
  obtain ⟨A', c', he, hc1, hc2, hr⟩ := rv_slice rR
  simp only [Value.slice.injEq, true_and] at he
  obtain ⟨rfl, rfl⟩ := he
  unfold maxLen at hc2
  obtain ⟨wa, hwa, B0, sa, x_a⟩ := frame1 w 52 [.int .i64 a.Have, .int .i64 a.State, .int .i64 a.By, .slice AM a.Marks.length cM, .slice AR a.Reps.length cR]
  have sa_1 := Nat.le_of_eq sa
  have sa_2 := Nat.le_of_eq sa.symm
  clear sa
  have c_a_0_wa := x_a.cell (i := 0) rfl
  have c_a_1_wa := x_a.cell (i := 1) rfl
  have c_a_2_wa := x_a.cell (i := 2) rfl
  have c_a_3_wa := x_a.cell (i := 3) rfl
  have c_a_4_wa := x_a.cell (i := 4) rfl
  by_cases hN : inB n 1 4 = true
  case neg =>
    replace hN : inB n 1 4 = false := by simpa using hN
    have HN := Lib.hid hN
    have HO : Hid (acctOkB a n id = false) := by show _ = _; unfold acctOkB; rw [hN]; rfl
    clear hN
    go_enter Try.func32, Try.ntmps32
    go_wp2_with fail
    refine (sIn_any _ _ _ _).mono ?_
    rintro e w' ⟨rfl, rfl⟩
    rw [HN.out]
    go_wp2
    go_ret
    exact ⟨ret_eq (by rw [HO.out]; rfl), B0⟩
  have HN := Lib.hid hN
  have bn := inB_true.1 hN
  have tn : IntKind.i64.wrap (n - 1) = n - 1 := IntWalk.i64_in _ (by omega)
  by_cases hI : inB id 0 (n - 1) = true
  case neg =>
    replace hI : inB id 0 (n - 1) = false := by simpa using hI
    have HI := Lib.hid hI
    have HO : Hid (acctOkB a n id = false) := by show _ = _; unfold acctOkB; rw [hI]; simp
    clear hN hI
    go_enter Try.func32, Try.ntmps32
    go_wp2_with fail
    refine (sIn_any _ _ _ _).mono ?_
    rintro e w' ⟨rfl, rfl⟩
    rw [HN.out]
    go_wp2_with fail
    refine (sIn_any _ _ _ _).mono ?_
    rintro e w' ⟨rfl, rfl⟩
    rw [HI.out]
    go_wp2
    go_ret
    exact ⟨ret_eq (by rw [HO.out]; rfl), B0⟩
  have HI := Lib.hid hI
  by_cases hV : numB a.Have = true
  case neg =>
    replace hV : numB a.Have = false := by simpa using hV
    have HV := Lib.hid hV
    have HO : Hid (acctOkB a n id = false) := by show _ = _; unfold acctOkB; rw [hV]; simp
    clear hN hI hV
    go_enter Try.func32, Try.ntmps32
    go_wp2_with fail
    refine (sIn_any _ _ _ _).mono ?_
    rintro e w' ⟨rfl, rfl⟩
    rw [HN.out]
    go_wp2_with fail
    refine (sIn_any _ _ _ _).mono ?_
    rintro e w' ⟨rfl, rfl⟩
    rw [HI.out]
    go_wp2_with fail
    refine (sNum_any _ _).mono ?_
    rintro e w' ⟨rfl, rfl⟩
    rw [HV.out]
    go_wp2
    go_ret
    exact ⟨ret_eq (by rw [HO.out]; rfl), B0⟩
  have HV := Lib.hid hV
  have HE : Hid (acctOkB a n id = if a.State = 0 then openB a else closedB a n id) := by show _ = _; unfold acctOkB; rw [hN, hI, hV]; rfl
  have bi := inB_true.1 hI
  clear hN hI hV
  by_cases hS : a.State = 0
  case pos =>
    have gS : (a.State == 0) = true := by simpa using hS
    have HE2 : Hid (acctOkB a n id = openB a) := by show _ = _; rw [HE.out, if_pos hS]
    clear hS
    by_cases hBy : a.By = 0
    case neg =>
      have HO : Hid (acctOkB a n id = false) := by show _ = _; rw [HE2.out]; unfold openB; rw [decide_eq_false hBy]; simp
      have gBy : (a.By == 0) = false := by rw [beq_eq_false_iff_ne]; omega
      clear hBy
      go_enter Try.func32, Try.ntmps32
      go_wp2_with fail
      refine (sIn_any _ _ _ _).mono ?_
      rintro e w' ⟨rfl, rfl⟩
      rw [HN.out]
      go_wp2_with fail
      refine (sIn_any _ _ _ _).mono ?_
      rintro e w' ⟨rfl, rfl⟩
      rw [HI.out]
      go_wp2_with fail
      refine (sNum_any _ _).mono ?_
      rintro e w' ⟨rfl, rfl⟩
      rw [HV.out]
      go_wp2
      go_ret
      exact ⟨ret_eq (by rw [HO.out]; rfl), B0⟩
    have gBy : (a.By == 0) = true := by rw [beq_iff_eq]; omega
    by_cases hM : a.Marks.length = 0
    case neg =>
      have HO : Hid (acctOkB a n id = false) := by show _ = _; rw [HE2.out]; unfold openB; rw [decide_eq_false hM]; simp
      have gM : ((a.Marks.length : Int) == 0) = false := by rw [beq_eq_false_iff_ne]; omega
      clear hBy hM
      go_enter Try.func32, Try.ntmps32
      go_wp2_with fail
      refine (sIn_any _ _ _ _).mono ?_
      rintro e w' ⟨rfl, rfl⟩
      rw [HN.out]
      go_wp2_with fail
      refine (sIn_any _ _ _ _).mono ?_
      rintro e w' ⟨rfl, rfl⟩
      rw [HI.out]
      go_wp2_with fail
      refine (sNum_any _ _).mono ?_
      rintro e w' ⟨rfl, rfl⟩
      rw [HV.out]
      go_wp2
      go_ret
      exact ⟨ret_eq (by rw [HO.out]; rfl), B0⟩
    have gM : ((a.Marks.length : Int) == 0) = true := by rw [beq_iff_eq]; omega
    by_cases hR : a.Reps.length = 0
    case neg =>
      have HO : Hid (acctOkB a n id = false) := by show _ = _; rw [HE2.out]; unfold openB; rw [decide_eq_false hR]; simp
      have gR : ((a.Reps.length : Int) == 0) = false := by rw [beq_eq_false_iff_ne]; omega
      clear hBy hM hR
      go_enter Try.func32, Try.ntmps32
      go_wp2_with fail
      refine (sIn_any _ _ _ _).mono ?_
      rintro e w' ⟨rfl, rfl⟩
      rw [HN.out]
      go_wp2_with fail
      refine (sIn_any _ _ _ _).mono ?_
      rintro e w' ⟨rfl, rfl⟩
      rw [HI.out]
      go_wp2_with fail
      refine (sNum_any _ _).mono ?_
      rintro e w' ⟨rfl, rfl⟩
      rw [HV.out]
      go_wp2
      go_ret
      exact ⟨ret_eq (by rw [HO.out]; rfl), B0⟩
    have gR : ((a.Reps.length : Int) == 0) = true := by rw [beq_iff_eq]; omega
    have HO : Hid (acctOkB a n id = true) := by show _ = _; rw [HE2.out]; unfold openB; rw [decide_eq_true hBy, decide_eq_true hM, decide_eq_true hR]; rfl
    clear hBy hM hR
    go_enter Try.func32, Try.ntmps32
    go_wp2_with fail
    refine (sIn_any _ _ _ _).mono ?_
    rintro e w' ⟨rfl, rfl⟩
    rw [HN.out]
    go_wp2_with fail
    refine (sIn_any _ _ _ _).mono ?_
    rintro e w' ⟨rfl, rfl⟩
    rw [HI.out]
    go_wp2_with fail
    refine (sNum_any _ _).mono ?_
    rintro e w' ⟨rfl, rfl⟩
    rw [HV.out]
    go_wp2
    go_ret
    exact ⟨ret_eq (by rw [HO.out]; rfl), B0⟩
  have gS : (a.State == 0) = false := by simpa using hS
  have HE2 : Hid (acctOkB a n id = closedB a n id) := by show _ = _; rw [HE.out, if_neg hS]
  clear hS
  by_cases hY : inB a.By 0 (n - 1) = true
  case neg =>
    replace hY : inB a.By 0 (n - 1) = false := by simpa using hY
    have HY := Lib.hid hY
    have HO : Hid (acctOkB a n id = false) := by show _ = _; rw [HE2.out]; unfold closedB; rw [hY]; rfl
    clear hY
    go_enter Try.func32, Try.ntmps32
    go_wp2_with fail
    refine (sIn_any _ _ _ _).mono ?_
    rintro e w' ⟨rfl, rfl⟩
    rw [HN.out]
    go_wp2_with fail
    refine (sIn_any _ _ _ _).mono ?_
    rintro e w' ⟨rfl, rfl⟩
    rw [HI.out]
    go_wp2_with fail
    refine (sNum_any _ _).mono ?_
    rintro e w' ⟨rfl, rfl⟩
    rw [HV.out]
    go_wp2_with fail
    refine (sIn_any _ _ _ _).mono ?_
    rintro e w' ⟨rfl, rfl⟩
    rw [HY.out]
    go_wp2
    go_ret
    exact ⟨ret_eq (by rw [HO.out]; rfl), B0⟩
  have HY := Lib.hid hY
  by_cases hM : riseB a.Marks = true
  case neg =>
    replace hM : riseB a.Marks = false := by simpa using hM
    have HM := Lib.hid hM
    have HO : Hid (acctOkB a n id = false) := by show _ = _; rw [HE2.out]; unfold closedB; rw [hM]; simp
    clear hY hM
    go_enter Try.func32, Try.ntmps32
    go_wp2_with fail
    refine (sIn_any _ _ _ _).mono ?_
    rintro e w' ⟨rfl, rfl⟩
    rw [HN.out]
    go_wp2_with fail
    refine (sIn_any _ _ _ _).mono ?_
    rintro e w' ⟨rfl, rfl⟩
    rw [HI.out]
    go_wp2_with fail
    refine (sNum_any _ _).mono ?_
    rintro e w' ⟨rfl, rfl⟩
    rw [HV.out]
    go_wp2_with fail
    refine (sIn_any _ _ _ _).mono ?_
    rintro e w' ⟨rfl, rfl⟩
    rw [HY.out]
    go_wp2_with fail
    refine (sRise_c (rM.from_ B0)).mono ?_
    rintro e w' ⟨rfl, rfl⟩
    rw [HM.out]
    go_wp2
    go_ret
    exact ⟨ret_eq (by rw [HO.out]; rfl), B0⟩
  have HM := Lib.hid hM
  by_cases hH : hasI a.Marks id = false
  case neg =>
    replace hH : hasI a.Marks id = true := by simpa using hH
    have HH := Lib.hid hH
    have HO : Hid (acctOkB a n id = false) := by show _ = _; rw [HE2.out]; unfold closedB; rw [hH]; simp
    clear hY hM hH
    go_enter Try.func32, Try.ntmps32
    go_wp2_with fail
    refine (sIn_any _ _ _ _).mono ?_
    rintro e w' ⟨rfl, rfl⟩
    rw [HN.out]
    go_wp2_with fail
    refine (sIn_any _ _ _ _).mono ?_
    rintro e w' ⟨rfl, rfl⟩
    rw [HI.out]
    go_wp2_with fail
    refine (sNum_any _ _).mono ?_
    rintro e w' ⟨rfl, rfl⟩
    rw [HV.out]
    go_wp2_with fail
    refine (sIn_any _ _ _ _).mono ?_
    rintro e w' ⟨rfl, rfl⟩
    rw [HY.out]
    go_wp2_with fail
    refine (sRise_c (rM.from_ B0)).mono ?_
    rintro e w' ⟨rfl, rfl⟩
    rw [HM.out]
    go_wp2_with fail
    refine (sHasI_c (rM.from_ B0)).mono ?_
    rintro e w' ⟨rfl, rfl⟩
    rw [HH.out]
    go_wp2
    go_ret
    exact ⟨ret_eq (by rw [HO.out]; rfl), B0⟩
  have HH := Lib.hid hH
  have HE3 : Hid (closedB a n id = (repsB a.Reps n id a.Have && (underB a.Marks n && (ownB a n id && decide (a.State = stateOf a.Reps.length n))))) := by show _ = _; unfold closedB; rw [hY, hM, hH]; rfl
  clear hY hM hH
  go_enter Try.func32, Try.ntmps32
  go_wp2_with fail
  refine (sIn_any _ _ _ _).mono ?_
  rintro e w' ⟨rfl, rfl⟩
  rw [HN.out]
  go_wp2_with fail
  refine (sIn_any _ _ _ _).mono ?_
  rintro e w' ⟨rfl, rfl⟩
  rw [HI.out]
  go_wp2_with fail
  refine (sNum_any _ _).mono ?_
  rintro e w' ⟨rfl, rfl⟩
  rw [HV.out]
  go_wp2_with fail
  refine (sIn_any _ _ _ _).mono ?_
  rintro e w' ⟨rfl, rfl⟩
  rw [HY.out]
  go_wp2_with fail
  refine (sRise_c (rM.from_ B0)).mono ?_
  rintro e w' ⟨rfl, rfl⟩
  rw [HM.out]
  go_wp2_with fail
  refine (sHasI_c (rM.from_ B0)).mono ?_
  rintro e w' ⟨rfl, rfl⟩
  rw [HH.out]
  go_wp2
  go_loopw [7, 65] (fun own i wr => ∃ (k : Nat) (q : Bool), k ≤ a.Reps.length ∧ i = .int .i64 k ∧ own = .bool q ∧ Hid (q = hasRep (a.Reps.take k) id) ∧ Hid (seenAt a.Reps n id a.Have k) ∧ Vr wr w.heap.size 52 [.int .i64 a.Have, .int .i64 a.State, .int .i64 a.By, .slice AM a.Marks.length cM, .slice AR a.Reps.length cR] ∧ Below w.heap.size w wr) (fun _ i _ => a.Reps.length - (intOf i).toNat)
  case atStart => exact ⟨0, false, Nat.zero_le _, rfl, rfl, rfl, fun i hi => by omega, x_a, B0⟩
  case round =>
    clear c_a_0_wa c_a_1_wa c_a_2_wa c_a_3_wa c_a_4_wa
    clear x_a hwa
    obtain ⟨k, q, hk, rfl, rfl, HQ, HT, x_a, HB⟩ := hrel
    have hs := HB.size
    have lr := x_a.lt
    by_cases hlt : k < a.Reps.length
    case neg =>
      have hk2 : ¬ ((k : Int) < (a.Reps.length : Int)) := by omega
      have HQ2 : Hid (q = hasRep a.Reps id) := by have := HQ.out; rwa [List.take_of_length_le (by omega)] at this
      have HR : Hid (repsB a.Reps n id a.Have = true) := decide_eq_true (fun i hi => HT.out i (by omega))
      have HE4 : Hid (acctOkB a n id = (underB a.Marks n && (ownB a n id && decide (a.State = stateOf a.Reps.length n)))) := by show _ = _; rw [HE2.out, HE3.out, HR.out]; rfl
      clear HQ HT
      have c_a_0_wr := x_a.cell (i := 0) rfl
      have c_a_1_wr := x_a.cell (i := 1) rfl
      have c_a_2_wr := x_a.cell (i := 2) rfl
      have c_a_3_wr := x_a.cell (i := 3) rfl
      have c_a_4_wr := x_a.cell (i := 4) rfl
      rcases Nat.eq_zero_or_pos a.Marks.length with e0 | e0
      case inl =>
        have HU : Hid (underB a.Marks n = true) := by show _ = _; unfold underB; rw [decide_eq_true e0]; rfl
        have ge : decide (0 < (a.Marks.length : Int)) = false := decide_eq_false (by omega)
        have ge2 : decide (0 < a.Marks.length) = false := decide_eq_false (by omega)
        clear e0
        by_cases hQ : q = true
        case pos =>
          subst hQ
          by_cases hK : (a.Marks.length : Int) = n - 1
          case pos =>
            have gK : ((a.Marks.length : Int) == n - 1) = true := by simpa using hK
            have HW : Hid (ownB a n id = true) := by show _ = _; unfold ownB; rw [← HQ2.out, decide_eq_true hK]; rfl
            clear hK
            by_cases hL : (a.Reps.length : Int) = n
            case pos =>
              have gL : ((a.Reps.length : Int) == n) = true := by simpa using hL
              have HS : Hid (stateOf (a.Reps.length : Int) n = 2) := if_pos hL
              clear hL
              have HO : Hid (acctOkB a n id = (a.State == 2)) := by show _ = _; rw [HE4.out, HU.out, HW.out, HS.out]; rfl
              go_wp2
              go_ret
              exact ⟨ret_eq (by rw [HO.out]; rfl), HB⟩
            case neg =>
              have gL : ((a.Reps.length : Int) == n) = false := by simpa using hL
              have HS : Hid (stateOf (a.Reps.length : Int) n = 1) := if_neg hL
              clear hL
              have HO : Hid (acctOkB a n id = (a.State == 1)) := by show _ = _; rw [HE4.out, HU.out, HW.out, HS.out]; rfl
              go_wp2
              go_ret
              exact ⟨ret_eq (by rw [HO.out]; rfl), HB⟩
          case neg =>
            have gK : ((a.Marks.length : Int) == n - 1) = false := by simpa using hK
            have HW : Hid (ownB a n id = false) := by show _ = _; unfold ownB; rw [← HQ2.out, decide_eq_false hK]; rfl
            clear hK
            have HO : Hid (acctOkB a n id = false) := by show _ = _; rw [HE4.out, HW.out]; simp
            go_wp2
            go_ret
            exact ⟨ret_eq (by rw [HO.out]; rfl), HB⟩
        case neg =>
          replace hQ : q = false := by simpa using hQ
          subst hQ
          by_cases hK : (a.Marks.length : Int) = n - 1
          case pos =>
            have gK : ((a.Marks.length : Int) == n - 1) = true := by simpa using hK
            have HW : Hid (ownB a n id = false) := by show _ = _; unfold ownB; rw [← HQ2.out, decide_eq_true hK]; rfl
            clear hK
            have HO : Hid (acctOkB a n id = false) := by show _ = _; rw [HE4.out, HW.out]; simp
            go_wp2
            go_ret
            exact ⟨ret_eq (by rw [HO.out]; rfl), HB⟩
          case neg =>
            have gK : ((a.Marks.length : Int) == n - 1) = false := by simpa using hK
            have HW : Hid (ownB a n id = true) := by show _ = _; unfold ownB; rw [← HQ2.out, decide_eq_false hK]; rfl
            clear hK
            by_cases hL : (a.Reps.length : Int) = n
            case pos =>
              have gL : ((a.Reps.length : Int) == n) = true := by simpa using hL
              have HS : Hid (stateOf (a.Reps.length : Int) n = 2) := if_pos hL
              clear hL
              have HO : Hid (acctOkB a n id = (a.State == 2)) := by show _ = _; rw [HE4.out, HU.out, HW.out, HS.out]; rfl
              go_wp2
              go_ret
              exact ⟨ret_eq (by rw [HO.out]; rfl), HB⟩
            case neg =>
              have gL : ((a.Reps.length : Int) == n) = false := by simpa using hL
              have HS : Hid (stateOf (a.Reps.length : Int) n = 1) := if_neg hL
              clear hL
              have HO : Hid (acctOkB a n id = (a.State == 1)) := by show _ = _; rw [HE4.out, HU.out, HW.out, HS.out]; rfl
              go_wp2
              go_ret
              exact ⟨ret_eq (by rw [HO.out]; rfl), HB⟩
      case inr =>
        obtain ⟨b, off, rfl, hbb, hc⟩ := rdi_at ((rM.rd_).below HB) e0
        obtain ⟨m, hm⟩ : ∃ m, a.Marks.length = m + 1 := ⟨a.Marks.length - 1, by omega⟩
        have cn := hc m (by omega)
        obtain ⟨y, hy⟩ : ∃ y, a.Marks.getD m 0 = y := ⟨_, rfl⟩
        rw [hy] at cn
        clear hc
        have ge : decide (0 < (a.Marks.length : Int)) = true := decide_eq_true (by omega)
        have ge2 : decide (0 < a.Marks.length) = true := decide_eq_true (by omega)
        have i2 : (m : Int) < (a.Marks.length : Int) := by omega
        have i3 : (0 : Int) ≤ (m : Int) := by omega
        have e1 : IntKind.i64.wrap ((a.Marks.length : Int) - 1) = (m : Int) := by rw [show (a.Marks.length : Int) - 1 = (m : Int) by omega]; exact IntWalk.i64_in _ (by omega)
        have e1' : (a.Marks.length : Int) - 1 = (m : Int) := by omega
        have HUe : Hid (underB a.Marks n = decide (y < n)) := by show _ = _; unfold underB; rw [decide_eq_false (by omega), show a.Marks.length - 1 = m by omega, hy]; rfl
        clear hy hm e0
        by_cases hyn : y < n
        case neg =>
          have gy : decide (n ≤ y) = true := decide_eq_true (by omega)
          have HO : Hid (acctOkB a n id = false) := by show _ = _; rw [HE4.out, HUe.out, decide_eq_false hyn]; rfl
          clear hyn
          go_wp2
          go_ret
          exact ⟨ret_eq (by rw [HO.out]; rfl), HB⟩
        have gy : decide (n ≤ y) = false := decide_eq_false (by omega)
        have HU : Hid (underB a.Marks n = true) := by show _ = _; rw [HUe.out, decide_eq_true hyn]
        clear hyn
        by_cases hQ : q = true
        case pos =>
          subst hQ
          by_cases hK : (a.Marks.length : Int) = n - 1
          case pos =>
            have gK : ((a.Marks.length : Int) == n - 1) = true := by simpa using hK
            have HW : Hid (ownB a n id = true) := by show _ = _; unfold ownB; rw [← HQ2.out, decide_eq_true hK]; rfl
            clear hK
            by_cases hL : (a.Reps.length : Int) = n
            case pos =>
              have gL : ((a.Reps.length : Int) == n) = true := by simpa using hL
              have HS : Hid (stateOf (a.Reps.length : Int) n = 2) := if_pos hL
              clear hL
              have HO : Hid (acctOkB a n id = (a.State == 2)) := by show _ = _; rw [HE4.out, HU.out, HW.out, HS.out]; rfl
              go_wp2
              go_ret
              exact ⟨ret_eq (by rw [HO.out]; rfl), HB⟩
            case neg =>
              have gL : ((a.Reps.length : Int) == n) = false := by simpa using hL
              have HS : Hid (stateOf (a.Reps.length : Int) n = 1) := if_neg hL
              clear hL
              have HO : Hid (acctOkB a n id = (a.State == 1)) := by show _ = _; rw [HE4.out, HU.out, HW.out, HS.out]; rfl
              go_wp2
              go_ret
              exact ⟨ret_eq (by rw [HO.out]; rfl), HB⟩
          case neg =>
            have gK : ((a.Marks.length : Int) == n - 1) = false := by simpa using hK
            have HW : Hid (ownB a n id = false) := by show _ = _; unfold ownB; rw [← HQ2.out, decide_eq_false hK]; rfl
            clear hK
            have HO : Hid (acctOkB a n id = false) := by show _ = _; rw [HE4.out, HW.out]; simp
            go_wp2
            go_ret
            exact ⟨ret_eq (by rw [HO.out]; rfl), HB⟩
        case neg =>
          replace hQ : q = false := by simpa using hQ
          subst hQ
          by_cases hK : (a.Marks.length : Int) = n - 1
          case pos =>
            have gK : ((a.Marks.length : Int) == n - 1) = true := by simpa using hK
            have HW : Hid (ownB a n id = false) := by show _ = _; unfold ownB; rw [← HQ2.out, decide_eq_true hK]; rfl
            clear hK
            have HO : Hid (acctOkB a n id = false) := by show _ = _; rw [HE4.out, HW.out]; simp
            go_wp2
            go_ret
            exact ⟨ret_eq (by rw [HO.out]; rfl), HB⟩
          case neg =>
            have gK : ((a.Marks.length : Int) == n - 1) = false := by simpa using hK
            have HW : Hid (ownB a n id = true) := by show _ = _; unfold ownB; rw [← HQ2.out, decide_eq_false hK]; rfl
            clear hK
            by_cases hL : (a.Reps.length : Int) = n
            case pos =>
              have gL : ((a.Reps.length : Int) == n) = true := by simpa using hL
              have HS : Hid (stateOf (a.Reps.length : Int) n = 2) := if_pos hL
              clear hL
              have HO : Hid (acctOkB a n id = (a.State == 2)) := by show _ = _; rw [HE4.out, HU.out, HW.out, HS.out]; rfl
              go_wp2
              go_ret
              exact ⟨ret_eq (by rw [HO.out]; rfl), HB⟩
            case neg =>
              have gL : ((a.Reps.length : Int) == n) = false := by simpa using hL
              have HS : Hid (stateOf (a.Reps.length : Int) n = 1) := if_neg hL
              clear hL
              have HO : Hid (acctOkB a n id = (a.State == 1)) := by show _ = _; rw [HE4.out, HU.out, HW.out, HS.out]; rfl
              go_wp2
              go_ret
              exact ⟨ret_eq (by rw [HO.out]; rfl), HB⟩
    obtain ⟨x, hxe⟩ := get_of_lt hlt
    obtain ⟨b, off, rfl, hb, e0, e1⟩ := el_rep (hr.below HB) hxe
    have i1 : (k : Int) < (a.Reps.length : Int) := by omega
    have hx := repG_of hxe
    obtain ⟨w1, e_w1, s_w1, h_w1, x_m⟩ := alloc_step wr 90 [.int .i64 x.Node, .int .i64 x.Amt]
    have s_w1_1 := Nat.le_of_eq s_w1
    have s_w1_2 := Nat.le_of_eq s_w1.symm
    clear s_w1
    replace x_a := x_a.from_ h_w1
    have B_w1 := HB.trans (h_w1.mono HB.size)
    have c_a_0_w1 := x_a.cell (i := 0) rfl
    have c_a_1_w1 := x_a.cell (i := 1) rfl
    have c_a_2_w1 := x_a.cell (i := 2) rfl
    have c_a_3_w1 := x_a.cell (i := 3) rfl
    have c_a_4_w1 := x_a.cell (i := 4) rfl
    have c_m_0_w1 := x_m.cell (i := 0) rfl
    have c_m_1_w1 := x_m.cell (i := 1) rfl
    have e0' := (h_w1.cell (p := ⟨b, off + k * 2, none⟩) (by show b < wr.heap.size; omega)).trans e0
    have ks : ∀ q, inB x.Node 0 (n - 1) = q → ∀ W, Calls Try.prog 30 #[.int .i64 x.Node, .int .i64 0, .int .i64 (n - 1)] W fun e w' => e = .returned (.bool q) ∧ w' = W := fun q hq W => (sIn_any _ _ _ W).mono (by rintro e w' ⟨rfl, rfl⟩; exact ⟨by rw [hq], rfl⟩)
    have kn : ∀ q, numB x.Amt = q → ∀ W, Calls Try.prog 31 #[.int .i64 x.Amt] W fun e w' => e = .returned (.bool q) ∧ w' = W := fun q hq W => (sNum_any _ W).mono (by rintro e w' ⟨rfl, rfl⟩; exact ⟨by rw [hq], rfl⟩)
    by_cases hA : inB x.Node 0 (n - 1) = true
    case neg =>
      replace hA : inB x.Node 0 (n - 1) = false := by simpa using hA
      have HO : Hid (acctOkB a n id = false) := by show _ = _; rw [HE2.out, HE3.out, show repsB a.Reps n id a.Have = false from decide_eq_false (fun c => by have c1 := hA; have := c k hlt; rw [hx] at this; simp only [repAt, hx] at this; rw [hA] at this; simp at this)]; rfl
      have k1 := ks _ hA
      have k2 := kn _ rfl
      clear ks kn hA hx hxe
      go_wp2_with fail
      go_quiet ((first | (go_at_call 30; exact Calls.quiet_of_same (k1 _)) | (go_at_call 31; exact Calls.quiet_of_same (k2 _))))
      have B9 := B_w1.trans (below_of_drew _ _ nq)
      go_wp2
      go_ret
      exact ⟨ret_eq (by rw [HO.out]; rfl), B9⟩
    by_cases hN : numB x.Amt = true
    case neg =>
      replace hN : numB x.Amt = false := by simpa using hN
      have HO : Hid (acctOkB a n id = false) := by show _ = _; rw [HE2.out, HE3.out, show repsB a.Reps n id a.Have = false from decide_eq_false (fun c => by have c1 := hN; have := c k hlt; rw [hx] at this; simp only [repAt, hx] at this; rw [hN] at this; simp at this)]; rfl
      have k1 := ks _ hA
      have k2 := kn _ hN
      clear ks kn hA hN hx hxe
      go_wp2_with fail
      go_quiet ((first | (go_at_call 30; exact Calls.quiet_of_same (k1 _)) | (go_at_call 31; exact Calls.quiet_of_same (k2 _))))
      have B9 := B_w1.trans (below_of_drew _ _ nq)
      go_wp2
      go_ret
      exact ⟨ret_eq (by rw [HO.out]; rfl), B9⟩
    have k1 := ks _ hA
    have k2 := kn _ hN
    clear ks kn
    by_cases hk0 : k = 0
    case pos =>
      have t0 : decide ((0 : Int) < (k : Int)) = false := decide_eq_false (by omega)
      have t1 : decide (0 < k) = false := decide_eq_false (by omega)
      have HAT : Hid (repAt a.Reps n k = true) := by show _ = _; unfold repAt; rw [hx, hA, hN, decide_eq_true hk0]; simp
      clear hk0
      by_cases hD : x.Node = id
      case pos =>
        have gD : (x.Node == id) = true := by simpa using hD
        have HQ3 : Hid (true = hasRep (a.Reps.take (k + 1)) id) := by show _ = _; rw [hasRep_take hxe, ← HQ.out, decide_eq_true hD]; simp
        by_cases hE : x.Amt = a.Have
        case neg =>
          have HO : Hid (acctOkB a n id = false) := by show _ = _; rw [HE2.out, HE3.out, show repsB a.Reps n id a.Have = false from decide_eq_false (fun c => by have c1 := hE; have := c k hlt; rw [hx] at this; simp only [repAt, hx] at this; exact hE (this.2 hD))]; rfl
          have gE : (x.Amt != a.Have) = true := by simpa using hE
          clear hD hE hA hN hx hxe
          go_wp2_with fail
          go_quiet ((first | (go_at_call 30; exact Calls.quiet_of_same (k1 _)) | (go_at_call 31; exact Calls.quiet_of_same (k2 _))))
          have B9 := B_w1.trans (below_of_drew _ _ nq)
          go_wp2
          go_ret
          exact ⟨ret_eq (by rw [HO.out]; rfl), B9⟩
        have gE : (x.Amt != a.Have) = false := by simpa using hE
        have H2 : Hid (seenAt a.Reps n id a.Have (k + 1)) := fun i hi => by
          by_cases e : i = k
          · rw [e, hx]; exact ⟨HAT.out, fun hc => hE⟩
          · exact HT.out i (by omega)
        clear hE hD hA hN hx hxe
        go_wp2_with fail
        go_quiet ((first | (go_at_call 30; exact Calls.quiet_of_same (k1 _)) | (go_at_call 31; exact Calls.quiet_of_same (k2 _))))
        have B9 := B_w1.trans (below_of_drew _ _ nq)
        have X9 := x_a.from_ (below_of_drew _ _ nq)
        go_wp2
        go_roundw
        case rel => exact ⟨k + 1, _, by omega, by go_num, rfl, HQ3, H2, X9, B9⟩
        case measure => simp [intOf]; omega
      case neg =>
        have gD : (x.Node == id) = false := by simpa using hD
        have HQ3 : Hid (q = hasRep (a.Reps.take (k + 1)) id) := by show _ = _; rw [hasRep_take hxe, ← HQ.out, decide_eq_false hD]; simp
        have H2 : Hid (seenAt a.Reps n id a.Have (k + 1)) := fun i hi => by
          by_cases e : i = k
          · rw [e, hx]; exact ⟨HAT.out, fun hc => absurd hc hD⟩
          · exact HT.out i (by omega)
        clear hD hA hN hx hxe
        go_wp2_with fail
        go_quiet ((first | (go_at_call 30; exact Calls.quiet_of_same (k1 _)) | (go_at_call 31; exact Calls.quiet_of_same (k2 _))))
        have B9 := B_w1.trans (below_of_drew _ _ nq)
        have X9 := x_a.from_ (below_of_drew _ _ nq)
        go_wp2
        go_roundw
        case rel => exact ⟨k + 1, _, by omega, by go_num, rfl, HQ3, H2, X9, B9⟩
        case measure => simp [intOf]; omega
    obtain ⟨m, hmk⟩ : ∃ m, k = m + 1 := ⟨k - 1, by omega⟩
    obtain ⟨y, hye⟩ := get_of_lt (xs := a.Reps) (k := m) (by omega)
    have hy : repG a.Reps (k - 1) = y := by rw [show k - 1 = m by omega]; exact repG_of hye
    obtain ⟨b', off', he', hb', d0, d1⟩ := el_rep (hr.below HB) hye
    simp only [Option.some.injEq, Addr.mk.injEq, and_true] at he'
    obtain ⟨rfl, rfl⟩ := he'
    replace d0 := (h_w1.cell (p := ⟨b, off + m * 2, none⟩) (by show b < wr.heap.size; omega)).trans d0
    clear d1
    have t0 : decide ((0 : Int) < (k : Int)) = true := decide_eq_true (by omega)
    have t0' : decide (0 < k) = true := decide_eq_true (by omega)
    have e1 : IntKind.i64.wrap ((k : Int) - 1) = (m : Int) := by rw [show (k : Int) - 1 = (m : Int) by omega]; exact IntWalk.i64_in _ (by omega)
    have i2 : (m : Int) < (a.Reps.length : Int) := by omega
    have i3 : (0 : Int) ≤ (m : Int) := by omega
    clear hmk
    by_cases hyx : y.Node < x.Node
    case neg =>
      have HO : Hid (acctOkB a n id = false) := by show _ = _; rw [HE2.out, HE3.out, show repsB a.Reps n id a.Have = false from decide_eq_false (fun c => by have c1 := hyx; have := c k hlt; rw [hx] at this; simp only [repAt, hx] at this; rw [hy, decide_eq_false hyx, decide_eq_false hk0] at this; simp at this)]; rfl
      have gy : decide (x.Node ≤ y.Node) = true := decide_eq_true (by omega)
      clear hk0 hyx hA hN hx hy hxe hye
      go_wp2_with fail
      go_quiet ((first | (go_at_call 30; exact Calls.quiet_of_same (k1 _)) | (go_at_call 31; exact Calls.quiet_of_same (k2 _))))
      have B9 := B_w1.trans (below_of_drew _ _ nq)
      go_wp2
      go_ret
      exact ⟨ret_eq (by rw [HO.out]; rfl), B9⟩
    have gy : decide (x.Node ≤ y.Node) = false := decide_eq_false (by omega)
    clear hye hk0
    have HAT : Hid (repAt a.Reps n k = true) := by show _ = _; unfold repAt; rw [hx, hA, hN, hy, decide_eq_true hyx]; simp
    clear hyx hy
    by_cases hD : x.Node = id
    case pos =>
      have gD : (x.Node == id) = true := by simpa using hD
      have HQ3 : Hid (true = hasRep (a.Reps.take (k + 1)) id) := by show _ = _; rw [hasRep_take hxe, ← HQ.out, decide_eq_true hD]; simp
      by_cases hE : x.Amt = a.Have
      case neg =>
        have HO : Hid (acctOkB a n id = false) := by show _ = _; rw [HE2.out, HE3.out, show repsB a.Reps n id a.Have = false from decide_eq_false (fun c => by have c1 := hE; have := c k hlt; rw [hx] at this; simp only [repAt, hx] at this; exact hE (this.2 hD))]; rfl
        have gE : (x.Amt != a.Have) = true := by simpa using hE
        clear hD hE hA hN hx hxe
        go_wp2_with fail
        go_quiet ((first | (go_at_call 30; exact Calls.quiet_of_same (k1 _)) | (go_at_call 31; exact Calls.quiet_of_same (k2 _))))
        have B9 := B_w1.trans (below_of_drew _ _ nq)
        go_wp2
        go_ret
        exact ⟨ret_eq (by rw [HO.out]; rfl), B9⟩
      have gE : (x.Amt != a.Have) = false := by simpa using hE
      have H2 : Hid (seenAt a.Reps n id a.Have (k + 1)) := fun i hi => by
        by_cases e : i = k
        · rw [e, hx]; exact ⟨HAT.out, fun hc => hE⟩
        · exact HT.out i (by omega)
      clear hE hD hA hN hx hxe
      go_wp2_with fail
      go_quiet ((first | (go_at_call 30; exact Calls.quiet_of_same (k1 _)) | (go_at_call 31; exact Calls.quiet_of_same (k2 _))))
      have B9 := B_w1.trans (below_of_drew _ _ nq)
      have X9 := x_a.from_ (below_of_drew _ _ nq)
      go_wp2
      go_roundw
      case rel => exact ⟨k + 1, _, by omega, by go_num, rfl, HQ3, H2, X9, B9⟩
      case measure => simp [intOf]; omega
    case neg =>
      have gD : (x.Node == id) = false := by simpa using hD
      have HQ3 : Hid (q = hasRep (a.Reps.take (k + 1)) id) := by show _ = _; rw [hasRep_take hxe, ← HQ.out, decide_eq_false hD]; simp
      have H2 : Hid (seenAt a.Reps n id a.Have (k + 1)) := fun i hi => by
        by_cases e : i = k
        · rw [e, hx]; exact ⟨HAT.out, fun hc => absurd hc hD⟩
        · exact HT.out i (by omega)
      clear hD hA hN hx hxe
      go_wp2_with fail
      go_quiet ((first | (go_at_call 30; exact Calls.quiet_of_same (k1 _)) | (go_at_call 31; exact Calls.quiet_of_same (k2 _))))
      have B9 := B_w1.trans (below_of_drew _ _ nq)
      have X9 := x_a.from_ (below_of_drew _ _ nq)
      go_wp2
      go_roundw
      case rel => exact ⟨k + 1, _, by omega, by go_num, rfl, HQ3, H2, X9, B9⟩
      case measure => simp [intOf]; omega

end Go.Proofs.Ytdoipabfmekdlaa

namespace Go.Proofs.Ytdoipabfmekdlaa
open Go.RowKit
set_option linter.unusedVariables false

/-- one operation of a drawn region, by hand -/
theorem takeN {P : Program} {md : Region.Mode} {ops : Array Oper} {Q : Exit → Act → World → Prop} {S : World → Prop} {i : Nat} {oi : Oper} {v : Value} {d : Option Tmp} {fuel : Nat} {listed : Array Bool} {a : Act} {w : World} (hi : ops[i]? = some oi) (hd : oi.dst = d)
    (hs : Region.noSelect ops = true) (hf : Region.free md ops listed i = true) (hr : (Region.ready md ops listed).contains i = true)
    (hQ : ∀ c a w, Q (.panic c) (a.put d v) w → Q (.panic c) a w) (hy : YieldsIf P ops S oi v a) (hS : S w)
    (h : wpAnyH P md ops Q S fuel (listed.setIfInBounds i true) (a.put d v) w) : wpAnyH P md ops Q S (fuel + 1) listed a w := by
  subst hd
  exact wpAnyH_take hi hs hf hr hQ hy hS h

set_option maxRecDepth 100000 in
set_option maxHeartbeats 8000000 in
theorem sNodeOk_c {w : World} {v : Value} {d : MNode} (h : RV nodeL w v d) (hb : d.bulk ≤ 16777216) : Calls Try.prog 10 #[v] w fun e w' => e = .returned (.bool (nodeOkB d)) ∧ Below w.heap.size w w' := by
  obtain ⟨AAccts, cAccts, AOuts, cOuts, AIns, cIns, AAccs, cAccs, rfl, rAccts, rOuts, rIns, rAccs⟩ := rv_node h
  clear h
  unfold MNode.bulk sizeAcctS sizeOutS at hb
  obtain ⟨A', c', he, -, -, hrA⟩ := rv_slice rAccts
  simp only [Value.slice.injEq, true_and] at he
  obtain ⟨rfl, rfl⟩ := he
  clear rAccts
  obtain ⟨A', c', he, -, -, hrO⟩ := rv_slice rOuts
  simp only [Value.slice.injEq, true_and] at he
  obtain ⟨rfl, rfl⟩ := he
  clear rOuts
  obtain ⟨A', c', he, -, -, hrC⟩ := rv_slice rAccs
  simp only [Value.slice.injEq, true_and] at he
  obtain ⟨rfl, rfl⟩ := he
  clear rAccs
  obtain ⟨wa, hwa, B0, sa, x_a⟩ := frame1 w 34 [.int .i64 d.Id, .int .i64 d.N, .slice AAccts d.Accts.length cAccts, .slice AOuts d.Outs.length cOuts, .slice AIns d.Ins.length cIns, .slice AAccs d.Accs.length cAccs, .int .i64 d.Stray, .int .i64 d.Came, .int .i64 d.Went]
  have sa_1 := Nat.le_of_eq sa
  have sa_2 := Nat.le_of_eq sa.symm
  clear sa
  have c_a_0_wa := x_a.cell (i := 0) rfl
  have c_a_1_wa := x_a.cell (i := 1) rfl
  have c_a_2_wa := x_a.cell (i := 2) rfl
  have c_a_3_wa := x_a.cell (i := 3) rfl
  have c_a_4_wa := x_a.cell (i := 4) rfl
  have c_a_5_wa := x_a.cell (i := 5) rfl
  have c_a_6_wa := x_a.cell (i := 6) rfl
  have c_a_7_wa := x_a.cell (i := 7) rfl
  have c_a_8_wa := x_a.cell (i := 8) rfl
  by_cases hN : inB d.N 1 4 = true
  case neg =>
    replace hN : inB d.N 1 4 = false := by simpa using hN
    have HN := Lib.hid hN
    have HO : Hid (nodeOkB d = false) := by show _ = _; unfold nodeOkB ndHead; rw [hN]; simp
    clear hN
    go_enter Try.func10, Try.ntmps10
    go_wp2_with fail
    refine (sIn_any _ _ _ _).mono ?_
    rintro e w' ⟨rfl, rfl⟩
    rw [HN.out]
    go_wp2
    go_ret
    exact ⟨ret_eq (by rw [HO.out]; rfl), B0⟩
  have HN := Lib.hid hN
  have bn := inB_true.1 hN
  have tn : IntKind.i64.wrap (d.N - 1) = d.N - 1 := IntWalk.i64_in _ (by omega)
  by_cases hI : inB d.Id 0 (d.N - 1) = true
  case neg =>
    replace hI : inB d.Id 0 (d.N - 1) = false := by simpa using hI
    have HI := Lib.hid hI
    have HO : Hid (nodeOkB d = false) := by show _ = _; unfold nodeOkB ndHead; rw [hI]; simp
    clear hN hI
    go_enter Try.func10, Try.ntmps10
    go_wp2_with fail
    refine (sIn_any _ _ _ _).mono ?_
    rintro e w' ⟨rfl, rfl⟩
    rw [HN.out]
    go_wp2_with fail
    refine (sIn_any _ _ _ _).mono ?_
    rintro e w' ⟨rfl, rfl⟩
    rw [HI.out]
    go_wp2
    go_ret
    exact ⟨ret_eq (by rw [HO.out]; rfl), B0⟩
  have HI := Lib.hid hI
  by_cases hL : inB (d.Accts.length : Int) 1 3 = true
  case neg =>
    replace hL : inB (d.Accts.length : Int) 1 3 = false := by simpa using hL
    have HL := Lib.hid hL
    have HO : Hid (nodeOkB d = false) := by show _ = _; unfold nodeOkB ndHead; rw [hL]; simp
    clear hN hI hL
    go_enter Try.func10, Try.ntmps10
    go_wp2_with fail
    refine (sIn_any _ _ _ _).mono ?_
    rintro e w' ⟨rfl, rfl⟩
    rw [HN.out]
    go_wp2_with fail
    refine (sIn_any _ _ _ _).mono ?_
    rintro e w' ⟨rfl, rfl⟩
    rw [HI.out]
    go_wp2_with fail
    refine (sIn_any _ _ _ _).mono ?_
    rintro e w' ⟨rfl, rfl⟩
    rw [HL.out]
    go_wp2
    go_ret
    exact ⟨ret_eq (by rw [HO.out]; rfl), B0⟩
  have HL := Lib.hid hL
  by_cases hC : d.Accs.length = d.Accts.length
  case neg =>
    have HO : Hid (nodeOkB d = false) := by show _ = _; unfold nodeOkB ndHead; rw [decide_eq_false hC]; simp
    have gC : ((d.Accs.length : Int) != (d.Accts.length : Int)) = true := by rw [bne_iff_ne]; omega
    clear hC hN hI hL
    go_enter Try.func10, Try.ntmps10
    go_wp2_with fail
    refine (sIn_any _ _ _ _).mono ?_
    rintro e w' ⟨rfl, rfl⟩
    rw [HN.out]
    go_wp2_with fail
    refine (sIn_any _ _ _ _).mono ?_
    rintro e w' ⟨rfl, rfl⟩
    rw [HI.out]
    go_wp2_with fail
    refine (sIn_any _ _ _ _).mono ?_
    rintro e w' ⟨rfl, rfl⟩
    rw [HL.out]
    go_wp2
    go_ret
    exact ⟨ret_eq (by rw [HO.out]; rfl), B0⟩
  have gC : ((d.Accs.length : Int) != (d.Accts.length : Int)) = false := by rw [bne_eq_false_iff_eq]; omega
  have lC1 : d.Accs.length ≤ d.Accts.length := by omega
  have lC2 : d.Accs.length ≥ d.Accts.length := by omega
  have EC := Lib.hid hC
  clear hC
  by_cases hO : (d.Outs.length : Int) = d.N
  case neg =>
    have HO : Hid (nodeOkB d = false) := by show _ = _; unfold nodeOkB ndHead; rw [decide_eq_false hO]; simp
    have gO : ((d.Outs.length : Int) != d.N) = true := by rw [bne_iff_ne]; omega
    clear hO hN hI hL
    go_enter Try.func10, Try.ntmps10
    go_wp2_with fail
    refine (sIn_any _ _ _ _).mono ?_
    rintro e w' ⟨rfl, rfl⟩
    rw [HN.out]
    go_wp2_with fail
    refine (sIn_any _ _ _ _).mono ?_
    rintro e w' ⟨rfl, rfl⟩
    rw [HI.out]
    go_wp2_with fail
    refine (sIn_any _ _ _ _).mono ?_
    rintro e w' ⟨rfl, rfl⟩
    rw [HL.out]
    go_wp2
    go_ret
    exact ⟨ret_eq (by rw [HO.out]; rfl), B0⟩
  have gO : ((d.Outs.length : Int) != d.N) = false := by rw [bne_eq_false_iff_eq]; omega
  have lO1 : (d.Outs.length : Int) ≤ d.N := by omega
  have lO2 : (d.Outs.length : Int) ≥ d.N := by omega
  have EO := Lib.hid hO
  clear hO
  by_cases hJ : (d.Ins.length : Int) = d.N
  case neg =>
    have HO : Hid (nodeOkB d = false) := by show _ = _; unfold nodeOkB ndHead; rw [decide_eq_false hJ]; simp
    have gJ : ((d.Ins.length : Int) != d.N) = true := by rw [bne_iff_ne]; omega
    clear hJ hN hI hL
    go_enter Try.func10, Try.ntmps10
    go_wp2_with fail
    refine (sIn_any _ _ _ _).mono ?_
    rintro e w' ⟨rfl, rfl⟩
    rw [HN.out]
    go_wp2_with fail
    refine (sIn_any _ _ _ _).mono ?_
    rintro e w' ⟨rfl, rfl⟩
    rw [HI.out]
    go_wp2_with fail
    refine (sIn_any _ _ _ _).mono ?_
    rintro e w' ⟨rfl, rfl⟩
    rw [HL.out]
    go_wp2
    go_ret
    exact ⟨ret_eq (by rw [HO.out]; rfl), B0⟩
  have gJ : ((d.Ins.length : Int) != d.N) = false := by rw [bne_eq_false_iff_eq]; omega
  have lJ1 : (d.Ins.length : Int) ≤ d.N := by omega
  have lJ2 : (d.Ins.length : Int) ≥ d.N := by omega
  have EJ := Lib.hid hJ
  clear hJ
  by_cases hS : numB d.Stray = true
  case neg =>
    replace hS : numB d.Stray = false := by simpa using hS
    have HS := Lib.hid hS
    have HO : Hid (nodeOkB d = false) := by show _ = _; unfold nodeOkB ndHead; rw [hS]; simp
    clear hN hI hL hS
    go_enter Try.func10, Try.ntmps10
    go_wp2_with fail
    refine (sIn_any _ _ _ _).mono ?_
    rintro e w' ⟨rfl, rfl⟩
    rw [HN.out]
    go_wp2_with fail
    refine (sIn_any _ _ _ _).mono ?_
    rintro e w' ⟨rfl, rfl⟩
    rw [HI.out]
    go_wp2_with fail
    refine (sIn_any _ _ _ _).mono ?_
    rintro e w' ⟨rfl, rfl⟩
    rw [HL.out]
    go_wp2_with fail
    refine (sNum_any _ _).mono ?_
    rintro e w' ⟨rfl, rfl⟩
    rw [HS.out]
    go_wp2
    go_ret
    exact ⟨ret_eq (by rw [HO.out]; rfl), B0⟩
  have HS := Lib.hid hS
  by_cases hA : numB d.Came = true
  case neg =>
    replace hA : numB d.Came = false := by simpa using hA
    have HA := Lib.hid hA
    have HO : Hid (nodeOkB d = false) := by show _ = _; unfold nodeOkB ndHead; rw [hA]; simp
    clear hN hI hL hS hA
    go_enter Try.func10, Try.ntmps10
    go_wp2_with fail
    refine (sIn_any _ _ _ _).mono ?_
    rintro e w' ⟨rfl, rfl⟩
    rw [HN.out]
    go_wp2_with fail
    refine (sIn_any _ _ _ _).mono ?_
    rintro e w' ⟨rfl, rfl⟩
    rw [HI.out]
    go_wp2_with fail
    refine (sIn_any _ _ _ _).mono ?_
    rintro e w' ⟨rfl, rfl⟩
    rw [HL.out]
    go_wp2_with fail
    refine (sNum_any _ _).mono ?_
    rintro e w' ⟨rfl, rfl⟩
    rw [HS.out]
    go_wp2_with fail
    refine (sNum_any _ _).mono ?_
    rintro e w' ⟨rfl, rfl⟩
    rw [HA.out]
    go_wp2
    go_ret
    exact ⟨ret_eq (by rw [HO.out]; rfl), B0⟩
  have HA := Lib.hid hA
  by_cases hW : numB d.Went = true
  case neg =>
    replace hW : numB d.Went = false := by simpa using hW
    have HW := Lib.hid hW
    have HO : Hid (nodeOkB d = false) := by show _ = _; unfold nodeOkB ndHead; rw [hW]; simp
    clear hN hI hL hS hA hW
    go_enter Try.func10, Try.ntmps10
    go_wp2_with fail
    refine (sIn_any _ _ _ _).mono ?_
    rintro e w' ⟨rfl, rfl⟩
    rw [HN.out]
    go_wp2_with fail
    refine (sIn_any _ _ _ _).mono ?_
    rintro e w' ⟨rfl, rfl⟩
    rw [HI.out]
    go_wp2_with fail
    refine (sIn_any _ _ _ _).mono ?_
    rintro e w' ⟨rfl, rfl⟩
    rw [HL.out]
    go_wp2_with fail
    refine (sNum_any _ _).mono ?_
    rintro e w' ⟨rfl, rfl⟩
    rw [HS.out]
    go_wp2_with fail
    refine (sNum_any _ _).mono ?_
    rintro e w' ⟨rfl, rfl⟩
    rw [HA.out]
    go_wp2_with fail
    refine (sNum_any _ _).mono ?_
    rintro e w' ⟨rfl, rfl⟩
    rw [HW.out]
    go_wp2
    go_ret
    exact ⟨ret_eq (by rw [HO.out]; rfl), B0⟩
  have HW := Lib.hid hW
  have bi := inB_true.1 hI
  have bl := inB_true.1 hL
  have HE : Hid (nodeOkB d = (ndAccts d && (ndOuts d && ndLast d))) := by show _ = _; unfold nodeOkB ndHead; rw [hN, hI, hL, decide_eq_true EC.out, decide_eq_true EO.out, decide_eq_true EJ.out, hS, hA, hW]; rfl
  clear hN hI hL hS hA hW
  go_enter Try.func10, Try.ntmps10
  go_wp2_with fail
  refine (sIn_any _ _ _ _).mono ?_
  rintro e w' ⟨rfl, rfl⟩
  rw [HN.out]
  go_wp2_with fail
  refine (sIn_any _ _ _ _).mono ?_
  rintro e w' ⟨rfl, rfl⟩
  rw [HI.out]
  go_wp2_with fail
  refine (sIn_any _ _ _ _).mono ?_
  rintro e w' ⟨rfl, rfl⟩
  rw [HL.out]
  go_wp2_with fail
  refine (sNum_any _ _).mono ?_
  rintro e w' ⟨rfl, rfl⟩
  rw [HS.out]
  go_wp2_with fail
  refine (sNum_any _ _).mono ?_
  rintro e w' ⟨rfl, rfl⟩
  rw [HA.out]
  go_wp2_with fail
  refine (sNum_any _ _).mono ?_
  rintro e w' ⟨rfl, rfl⟩
  rw [HW.out]
  go_wp2
  go_loopw [71] (fun i wr => ∃ k : Nat, k ≤ d.Accts.length ∧ i = .int .i64 k ∧ Hid (∀ i, i < k → ndAcct d i) ∧ Vr wr w.heap.size 34 [.int .i64 d.Id, .int .i64 d.N, .slice AAccts d.Accts.length cAccts, .slice AOuts d.Outs.length cOuts, .slice AIns d.Ins.length cIns, .slice AAccs d.Accs.length cAccs, .int .i64 d.Stray, .int .i64 d.Came, .int .i64 d.Went] ∧ Below w.heap.size w wr) (fun i _ => d.Accts.length - (intOf i).toNat)
  case atStart => exact ⟨0, Nat.zero_le _, rfl, fun i hi => by omega, x_a, B0⟩
  case round =>
    clear c_a_0_wa c_a_1_wa c_a_2_wa c_a_3_wa c_a_4_wa c_a_5_wa c_a_6_wa c_a_7_wa c_a_8_wa
    clear x_a hwa
    obtain ⟨k, hk, rfl, HT, x_a, HB⟩ := hrel
    have hs := HB.size
    have lr := x_a.lt
    by_cases hlt : k < d.Accts.length
    case neg =>
      have hk2 : ¬ ((k : Int) < (d.Accts.length : Int)) := by omega
      have HA1 : Hid (ndAccts d = true) := decide_eq_true (fun i hi => HT.out i (by omega))
      clear HT
      have c_a_0_wr := x_a.cell (i := 0) rfl
      have c_a_1_wr := x_a.cell (i := 1) rfl
      have c_a_2_wr := x_a.cell (i := 2) rfl
      have c_a_3_wr := x_a.cell (i := 3) rfl
      have c_a_4_wr := x_a.cell (i := 4) rfl
      have c_a_5_wr := x_a.cell (i := 5) rfl
      have c_a_6_wr := x_a.cell (i := 6) rfl
      have c_a_7_wr := x_a.cell (i := 7) rfl
      have c_a_8_wr := x_a.cell (i := 8) rfl
      go_wp2
      go_loopw [96] (fun i wr => ∃ k : Nat, k ≤ d.Outs.length ∧ i = .int .i64 k ∧ Hid (∀ i, i < k → ndOut d i) ∧ Vr wr w.heap.size 34 [.int .i64 d.Id, .int .i64 d.N, .slice AAccts d.Accts.length cAccts, .slice AOuts d.Outs.length cOuts, .slice AIns d.Ins.length cIns, .slice AAccs d.Accs.length cAccs, .int .i64 d.Stray, .int .i64 d.Came, .int .i64 d.Went] ∧ Below w.heap.size w wr) (fun i _ => d.Outs.length - (intOf i).toNat)
      case atStart => exact ⟨0, Nat.zero_le _, rfl, fun i hi => by omega, x_a, HB⟩
      case round =>
        clear c_a_0_wr c_a_1_wr c_a_2_wr c_a_3_wr c_a_4_wr c_a_5_wr c_a_6_wr c_a_7_wr c_a_8_wr
        clear x_a HB hs lr hk2 hlt
        obtain ⟨j, hj, rfl, HT, x_a, HB⟩ := hrel
        have hs := HB.size
        have lr := x_a.lt
        by_cases hlt : j < d.Outs.length
        case neg =>
          have hk2 : ¬ ((j : Int) < (d.Outs.length : Int)) := by omega
          have HA2 : Hid (ndOuts d = true) := decide_eq_true (fun i hi => HT.out i (by omega))
          clear HT
          have HE2 : Hid (nodeOkB d = ndLast d) := by show _ = _; rw [HE.out, HA1.out, HA2.out]; rfl
          obtain ⟨m, hm⟩ : ∃ m : Nat, d.Id = (m : Int) := ⟨d.Id.toNat, by omega⟩
          rw [hm] at x_a
          obtain ⟨p, hpe⟩ := get_of_lt (xs := d.Outs) (k := m) (by omega)
          have hp := outG_of hpe
          have hpb := sumG_at (s := MOut.bulk) hpe
          have hpu : p.bulk = p.List.length := rfl
          obtain ⟨b, off, AList, cList, rfl, hbb, e0, e1, rp⟩ := el_out (hrO.below HB) hpe hs
          obtain ⟨b', off', rfl, hbb', hc⟩ := rdi_at ((rIns.rd_).below HB) (by omega)
          have f0 := hc m (by omega)
          obtain ⟨y, hy⟩ : ∃ y, d.Ins.getD m 0 = y := ⟨_, rfl⟩
          rw [hy] at f0
          clear hc hpe
          have hbq : b < wr.heap.size := by omega
          have hbq' : b' < wr.heap.size := by omega
          have vp : RV outL wr _ p := rv_out_mk rp
          have HL : Hid (ndLast d = (outSameB p outNew && decide (y = 0))) := by show _ = _; unfold ndLast; rw [show d.Id.toNat = m by omega, hp, hy]
          have i1 : (m : Int) < (d.Outs.length : Int) := by omega
          have i2 : (m : Int) < (d.Ins.length : Int) := by omega
          have i3 : (0 : Int) ≤ (m : Int) := by omega
          have c_a_0_wr := x_a.cell (i := 0) rfl
          have c_a_1_wr := x_a.cell (i := 1) rfl
          have c_a_2_wr := x_a.cell (i := 2) rfl
          have c_a_3_wr := x_a.cell (i := 3) rfl
          have c_a_4_wr := x_a.cell (i := 4) rfl
          have c_a_5_wr := x_a.cell (i := 5) rfl
          have c_a_6_wr := x_a.cell (i := 6) rfl
          have c_a_7_wr := x_a.cell (i := 7) rfl
          have c_a_8_wr := x_a.cell (i := 8) rfl
          by_cases hq : outSameB p outNew = true
          case pos =>
            have HQ := Lib.hid hq
            have HO : Hid (nodeOkB d = (y == 0)) := by show _ = _; rw [HE2.out, HL.out, hq]; rfl
            clear hq hp hy
            go_wp2_with fail
            go_region_held3 (fun w' => w'.cell? ⟨w.heap.size, 0, none⟩ = some (.int .i64 (m : Int)) ∧ w'.cell? ⟨w.heap.size, 3, none⟩ = some (.slice (some ⟨b, off, none⟩) d.Outs.length cOuts) ∧ w'.cell? ⟨w.heap.size, 4, none⟩ = some (.slice (some ⟨b', off', none⟩) d.Ins.length cIns) ∧ w'.cell? ⟨b, off + m * 2, none⟩ = some (.int .i64 p.Next) ∧ w'.cell? ⟨b, off + m * 2 + 1, none⟩ = some (.slice AList p.List.length cList) ∧ w'.cell? ⟨b', off' + m, none⟩ = some (.int .i64 y))
              (first | exact ⟨c_a_0_wr, c_a_3_wr, c_a_4_wr, e0, e1, f0⟩ | exact ⟨(hkN _ (by first | exact lr | exact hbq | exact hbq')).trans c_a_0_wr, (hkN _ (by first | exact lr | exact hbq | exact hbq')).trans c_a_3_wr, (hkN _ (by first | exact lr | exact hbq | exact hbq')).trans c_a_4_wr, (hkN _ (by first | exact lr | exact hbq | exact hbq')).trans e0, (hkN _ (by first | exact lr | exact hbq | exact hbq')).trans e1, (hkN _ (by first | exact lr | exact hbq | exact hbq')).trans f0⟩ | exact ⟨(hkS _ (by first | exact lr | exact hbq | exact hbq')).trans c_a_0_wr, (hkS _ (by first | exact lr | exact hbq | exact hbq')).trans c_a_3_wr, (hkS _ (by first | exact lr | exact hbq | exact hbq')).trans c_a_4_wr, (hkS _ (by first | exact lr | exact hbq | exact hbq')).trans e0, (hkS _ (by first | exact lr | exact hbq | exact hbq')).trans e1, (hkS _ (by first | exact lr | exact hbq | exact hbq')).trans f0⟩ | go_keep)
              (first | (go_at_call 36; refine (sOutNew_c).mono ?_; rintro e w_N ⟨vN, rfl, oN, hd_N⟩; have hb_N : Below wr.heap.size wr w_N := (Below.refl wr.heap.size wr).drew.trans hd_N; have hkN : ∀ p : Addr, p.block < wr.heap.size → w_N.cell? p = wr.cell? p := (fun p hp => hb_N.cell hp))
                     | (go_at_call 35; refine (sOutSame_c (vp.from_ hb_N) oN.rd (by omega) (by simp [outNew])).mono ?_; rintro e w_S ⟨rfl, hd_S⟩; have hb_S : Below wr.heap.size wr w_S := hb_N.trans (hd_S.mono hb_N.size); have hkS : ∀ p : Addr, p.block < wr.heap.size → w_S.cell? p = wr.cell? p := (fun p hp => hb_S.cell hp); rw [HQ.out])
                     | fail)
            go_wp2
            go_ret
            exact ⟨ret_eq (by rw [HO.out]; rfl), HB.trans (hb_S.mono HB.size)⟩
          case neg =>
            replace hq : outSameB p outNew = false := by simpa using hq
            have HQ := Lib.hid hq
            have HO : Hid (nodeOkB d = false) := by show _ = _; rw [HE2.out, HL.out, hq]; rfl
            clear hq hp hy
            go_wp2_with fail
            refine wp_region_held (S := fun w' => w'.cell? ⟨w.heap.size, 0, none⟩ = some (.int .i64 (m : Int)) ∧ w'.cell? ⟨w.heap.size, 3, none⟩ = some (.slice (some ⟨b, off, none⟩) d.Outs.length cOuts) ∧ w'.cell? ⟨w.heap.size, 4, none⟩ = some (.slice (some ⟨b', off', none⟩) d.Ins.length cIns) ∧ w'.cell? ⟨b, off + m * 2, none⟩ = some (.int .i64 p.Next) ∧ w'.cell? ⟨b, off + m * 2 + 1, none⟩ = some (.slice AList p.List.length cList) ∧ w'.cell? ⟨b', off' + m, none⟩ = some (.int .i64 y)) (by kernel_rfl) ?_
            refine takeN (i := 0) (v := ?v0) (d := some 114) rfl rfl (by kernel_rfl) (by kernel_rfl) (by kernel_rfl) (fun _ _ _ h => h) (Or.inl ⟨by rfl, ?y0⟩) ⟨c_a_0_wr, c_a_3_wr, c_a_4_wr, e0, e1, f0⟩ ?r0
            case y0 => (intro W hW; (try dsimp only at hW); go_simp; try (with_reducible rfl))
            simp only [Act.put, List.setIfInBounds_toArray, List.set_cons_zero, List.set_cons_succ]
            refine takeN (i := 1) (v := ?v1) (d := some 115) rfl rfl (by kernel_rfl) (by kernel_rfl) (by kernel_rfl) (fun _ _ _ h => h) (Or.inl ⟨by rfl, ?y1⟩) ⟨c_a_0_wr, c_a_3_wr, c_a_4_wr, e0, e1, f0⟩ ?r1
            case y1 => (intro W hW; (try dsimp only at hW); go_simp; try (with_reducible rfl))
            simp only [Act.put, List.setIfInBounds_toArray, List.set_cons_zero, List.set_cons_succ]
            refine takeN (i := 2) (v := ?v2) (d := some 116) rfl rfl (by kernel_rfl) (by kernel_rfl) (by kernel_rfl) (fun _ _ _ h => h) (Or.inl ⟨by rfl, ?y2⟩) ⟨c_a_0_wr, c_a_3_wr, c_a_4_wr, e0, e1, f0⟩ ?r2
            case y2 => (intro W hW; (try dsimp only at hW); go_simp; try (with_reducible rfl))
            simp only [Act.put, List.setIfInBounds_toArray, List.set_cons_zero, List.set_cons_succ]
            refine takeN (i := 3) (v := ?v3) (d := some 117) rfl rfl (by kernel_rfl) (by kernel_rfl) (by kernel_rfl) (fun _ _ _ h => h) (Or.inl ⟨by rfl, ?y3⟩) ⟨c_a_0_wr, c_a_3_wr, c_a_4_wr, e0, e1, f0⟩ ?r3
            case y3 => (intro W hW; (try dsimp only at hW); go_simp; try (with_reducible rfl))
            simp only [Act.put, List.setIfInBounds_toArray, List.set_cons_zero, List.set_cons_succ]
            refine takeN (i := 4) (v := ?v4) (d := some 118) rfl rfl (by kernel_rfl) (by kernel_rfl) (by kernel_rfl) (fun _ _ _ h => h) (Or.inl ⟨by rfl, ?y4⟩) ⟨c_a_0_wr, c_a_3_wr, c_a_4_wr, e0, e1, f0⟩ ?r4
            case y4 => (intro W hW; (try dsimp only at hW); go_simp; try (with_reducible rfl))
            simp only [Act.put, List.setIfInBounds_toArray, List.set_cons_zero, List.set_cons_succ]
            refine takeN (i := 5) (v := ?v5) (d := some 119) rfl rfl (by kernel_rfl) (by kernel_rfl) (by kernel_rfl) (fun _ _ _ h => h) (Or.inl ⟨by rfl, ?y5⟩) ⟨c_a_0_wr, c_a_3_wr, c_a_4_wr, e0, e1, f0⟩ ?r5
            case y5 => (intro W hW; (try dsimp only at hW); go_simp; try (with_reducible rfl))
            simp only [Act.put, List.setIfInBounds_toArray, List.set_cons_zero, List.set_cons_succ]
            refine wpAnyH_ready (rs := [6]) (by kernel_rfl) (by simp) ?_
            refine AllReadyH.cons rfl (fun K hK => ?_) AllReadyH.nil
            go_simp
            refine (sOutNew_c).mono ?_
            rintro e w_N ⟨vN, rfl, oN, hd_N⟩
            have hb_N : Below wr.heap.size wr w_N := (Below.refl wr.heap.size wr).drew.trans hd_N
            have hkN : ∀ p : Addr, p.block < wr.heap.size → w_N.cell? p = wr.cell? p := (fun p hp => hb_N.cell hp)
            refine hK.out _ _ ⟨(hkN _ (by first | exact lr | exact hbq | exact hbq')).trans c_a_0_wr, (hkN _ (by first | exact lr | exact hbq | exact hbq')).trans c_a_3_wr, (hkN _ (by first | exact lr | exact hbq | exact hbq')).trans c_a_4_wr, (hkN _ (by first | exact lr | exact hbq | exact hbq')).trans e0, (hkN _ (by first | exact lr | exact hbq | exact hbq')).trans e1, (hkN _ (by first | exact lr | exact hbq | exact hbq')).trans f0⟩ (fun _ => ?_)
            clear hK K
            refine wpAnyH_ready (rs := [7]) (by kernel_rfl) (by simp) ?_
            refine AllReadyH.cons rfl (fun K hK => ?_) AllReadyH.nil
            go_simp
            refine (sOutSame_c (vp.from_ hb_N) oN.rd (by omega) (by simp [outNew])).mono ?_
            rintro e w_S ⟨rfl, hd_S⟩
            have hb_S : Below wr.heap.size wr w_S := hb_N.trans (hd_S.mono hb_N.size)
            have hkS : ∀ p : Addr, p.block < wr.heap.size → w_S.cell? p = wr.cell? p := (fun p hp => hb_S.cell hp)
            rw [HQ.out]
            refine hK.out _ _ ⟨(hkS _ (by first | exact lr | exact hbq | exact hbq')).trans c_a_0_wr, (hkS _ (by first | exact lr | exact hbq | exact hbq')).trans c_a_3_wr, (hkS _ (by first | exact lr | exact hbq | exact hbq')).trans c_a_4_wr, (hkS _ (by first | exact lr | exact hbq | exact hbq')).trans e0, (hkS _ (by first | exact lr | exact hbq | exact hbq')).trans e1, (hkS _ (by first | exact lr | exact hbq | exact hbq')).trans f0⟩ (fun _ => ?_)
            clear hK K
            refine takeN (i := 8) (v := ?v8) (d := some 122) rfl rfl (by kernel_rfl) (by kernel_rfl) (by kernel_rfl) (fun _ _ _ h => h) (Or.inl ⟨by rfl, ?y8⟩) ⟨(hkS _ (by first | exact lr | exact hbq | exact hbq')).trans c_a_0_wr, (hkS _ (by first | exact lr | exact hbq | exact hbq')).trans c_a_3_wr, (hkS _ (by first | exact lr | exact hbq | exact hbq')).trans c_a_4_wr, (hkS _ (by first | exact lr | exact hbq | exact hbq')).trans e0, (hkS _ (by first | exact lr | exact hbq | exact hbq')).trans e1, (hkS _ (by first | exact lr | exact hbq | exact hbq')).trans f0⟩ ?r8
            case y8 => (intro W hW; (try dsimp only at hW); go_simp; try (with_reducible rfl))
            simp only [Act.put, List.setIfInBounds_toArray, List.set_cons_zero, List.set_cons_succ]
            refine takeN (i := 9) (v := undef) (d := some 123) rfl rfl (by kernel_rfl) (by kernel_rfl) (by kernel_rfl) (fun _ _ _ h => h) (Or.inr ⟨by rfl, rfl⟩) ⟨(hkS _ (by first | exact lr | exact hbq | exact hbq')).trans c_a_0_wr, (hkS _ (by first | exact lr | exact hbq | exact hbq')).trans c_a_3_wr, (hkS _ (by first | exact lr | exact hbq | exact hbq')).trans c_a_4_wr, (hkS _ (by first | exact lr | exact hbq | exact hbq')).trans e0, (hkS _ (by first | exact lr | exact hbq | exact hbq')).trans e1, (hkS _ (by first | exact lr | exact hbq | exact hbq')).trans f0⟩ ?_
            simp only [Act.put, List.setIfInBounds_toArray, List.set_cons_zero, List.set_cons_succ]
            refine takeN (i := 10) (v := undef) (d := some 124) rfl rfl (by kernel_rfl) (by kernel_rfl) (by kernel_rfl) (fun _ _ _ h => h) (Or.inr ⟨by rfl, rfl⟩) ⟨(hkS _ (by first | exact lr | exact hbq | exact hbq')).trans c_a_0_wr, (hkS _ (by first | exact lr | exact hbq | exact hbq')).trans c_a_3_wr, (hkS _ (by first | exact lr | exact hbq | exact hbq')).trans c_a_4_wr, (hkS _ (by first | exact lr | exact hbq | exact hbq')).trans e0, (hkS _ (by first | exact lr | exact hbq | exact hbq')).trans e1, (hkS _ (by first | exact lr | exact hbq | exact hbq')).trans f0⟩ ?_
            simp only [Act.put, List.setIfInBounds_toArray, List.set_cons_zero, List.set_cons_succ]
            refine takeN (i := 11) (v := undef) (d := some 125) rfl rfl (by kernel_rfl) (by kernel_rfl) (by kernel_rfl) (fun _ _ _ h => h) (Or.inr ⟨by rfl, rfl⟩) ⟨(hkS _ (by first | exact lr | exact hbq | exact hbq')).trans c_a_0_wr, (hkS _ (by first | exact lr | exact hbq | exact hbq')).trans c_a_3_wr, (hkS _ (by first | exact lr | exact hbq | exact hbq')).trans c_a_4_wr, (hkS _ (by first | exact lr | exact hbq | exact hbq')).trans e0, (hkS _ (by first | exact lr | exact hbq | exact hbq')).trans e1, (hkS _ (by first | exact lr | exact hbq | exact hbq')).trans f0⟩ ?_
            simp only [Act.put, List.setIfInBounds_toArray, List.set_cons_zero, List.set_cons_succ]
            refine takeN (i := 12) (v := undef) (d := some 126) rfl rfl (by kernel_rfl) (by kernel_rfl) (by kernel_rfl) (fun _ _ _ h => h) (Or.inr ⟨by rfl, rfl⟩) ⟨(hkS _ (by first | exact lr | exact hbq | exact hbq')).trans c_a_0_wr, (hkS _ (by first | exact lr | exact hbq | exact hbq')).trans c_a_3_wr, (hkS _ (by first | exact lr | exact hbq | exact hbq')).trans c_a_4_wr, (hkS _ (by first | exact lr | exact hbq | exact hbq')).trans e0, (hkS _ (by first | exact lr | exact hbq | exact hbq')).trans e1, (hkS _ (by first | exact lr | exact hbq | exact hbq')).trans f0⟩ ?_
            simp only [Act.put, List.setIfInBounds_toArray, List.set_cons_zero, List.set_cons_succ]
            refine takeN (i := 13) (v := undef) (d := some 127) rfl rfl (by kernel_rfl) (by kernel_rfl) (by kernel_rfl) (fun _ _ _ h => h) (Or.inr ⟨by rfl, rfl⟩) ⟨(hkS _ (by first | exact lr | exact hbq | exact hbq')).trans c_a_0_wr, (hkS _ (by first | exact lr | exact hbq | exact hbq')).trans c_a_3_wr, (hkS _ (by first | exact lr | exact hbq | exact hbq')).trans c_a_4_wr, (hkS _ (by first | exact lr | exact hbq | exact hbq')).trans e0, (hkS _ (by first | exact lr | exact hbq | exact hbq')).trans e1, (hkS _ (by first | exact lr | exact hbq | exact hbq')).trans f0⟩ ?_
            simp only [Act.put, List.setIfInBounds_toArray, List.set_cons_zero, List.set_cons_succ]
            refine takeN (i := 14) (v := undef) (d := some 128) rfl rfl (by kernel_rfl) (by kernel_rfl) (by kernel_rfl) (fun _ _ _ h => h) (Or.inr ⟨by rfl, rfl⟩) ⟨(hkS _ (by first | exact lr | exact hbq | exact hbq')).trans c_a_0_wr, (hkS _ (by first | exact lr | exact hbq | exact hbq')).trans c_a_3_wr, (hkS _ (by first | exact lr | exact hbq | exact hbq')).trans c_a_4_wr, (hkS _ (by first | exact lr | exact hbq | exact hbq')).trans e0, (hkS _ (by first | exact lr | exact hbq | exact hbq')).trans e1, (hkS _ (by first | exact lr | exact hbq | exact hbq')).trans f0⟩ ?_
            simp only [Act.put, List.setIfInBounds_toArray, List.set_cons_zero, List.set_cons_succ]
            refine takeN (i := 15) (v := undef) (d := some 129) rfl rfl (by kernel_rfl) (by kernel_rfl) (by kernel_rfl) (fun _ _ _ h => h) (Or.inr ⟨by rfl, rfl⟩) ⟨(hkS _ (by first | exact lr | exact hbq | exact hbq')).trans c_a_0_wr, (hkS _ (by first | exact lr | exact hbq | exact hbq')).trans c_a_3_wr, (hkS _ (by first | exact lr | exact hbq | exact hbq')).trans c_a_4_wr, (hkS _ (by first | exact lr | exact hbq | exact hbq')).trans e0, (hkS _ (by first | exact lr | exact hbq | exact hbq')).trans e1, (hkS _ (by first | exact lr | exact hbq | exact hbq')).trans f0⟩ ?_
            simp only [Act.put, List.setIfInBounds_toArray, List.set_cons_zero, List.set_cons_succ]
            refine takeN (i := 16) (v := ?v16) (d := some 130) rfl rfl (by kernel_rfl) (by kernel_rfl) (by kernel_rfl) (fun _ _ _ h => h) (Or.inl ⟨by rfl, ?y16⟩) ⟨(hkS _ (by first | exact lr | exact hbq | exact hbq')).trans c_a_0_wr, (hkS _ (by first | exact lr | exact hbq | exact hbq')).trans c_a_3_wr, (hkS _ (by first | exact lr | exact hbq | exact hbq')).trans c_a_4_wr, (hkS _ (by first | exact lr | exact hbq | exact hbq')).trans e0, (hkS _ (by first | exact lr | exact hbq | exact hbq')).trans e1, (hkS _ (by first | exact lr | exact hbq | exact hbq')).trans f0⟩ ?r16
            case y16 => (intro W hW; (try dsimp only at hW); go_simp; try (with_reducible rfl))
            simp only [Act.put, List.setIfInBounds_toArray, List.set_cons_zero, List.set_cons_succ]
            refine takeN (i := 17) (v := ?v17) (d := some 2) rfl rfl (by kernel_rfl) (by kernel_rfl) (by kernel_rfl) (fun _ _ _ h => h) (Or.inl ⟨by rfl, ?y17⟩) ⟨(hkS _ (by first | exact lr | exact hbq | exact hbq')).trans c_a_0_wr, (hkS _ (by first | exact lr | exact hbq | exact hbq')).trans c_a_3_wr, (hkS _ (by first | exact lr | exact hbq | exact hbq')).trans c_a_4_wr, (hkS _ (by first | exact lr | exact hbq | exact hbq')).trans e0, (hkS _ (by first | exact lr | exact hbq | exact hbq')).trans e1, (hkS _ (by first | exact lr | exact hbq | exact hbq')).trans f0⟩ ?r17
            case y17 => (intro W hW; (try dsimp only at hW); go_simp; try (with_reducible rfl))
            simp only [Act.put, List.setIfInBounds_toArray, List.set_cons_zero, List.set_cons_succ]
            refine wpAnyH_done (by kernel_rfl) ?_ _
            go_wp2
            go_ret
            exact ⟨ret_eq (by rw [HO.out]; rfl), HB.trans (hb_S.mono HB.size)⟩
        obtain ⟨p, hpe⟩ := get_of_lt hlt
        have hp := outG_of hpe
        have hpb := sumG_at (s := MOut.bulk) hpe
        have hpu : p.bulk = p.List.length := rfl
        obtain ⟨b, off, AList, cList, hAO, hbb, e0, e1, rp⟩ := el_out (hrO.below HB) hpe hs
        subst hAO
        obtain ⟨b', off', hAI, hbb', hc⟩ := rdi_at ((rIns.rd_).below HB) (by omega)
        subst hAI
        have f0 := hc j (by omega)
        obtain ⟨y, hy⟩ : ∃ y, d.Ins.getD j 0 = y := ⟨_, rfl⟩
        rw [hy] at f0
        clear hc hpe
        have vp : RV outL wr _ p := rv_out_mk rp
        have i1 : (j : Int) < (d.Outs.length : Int) := by omega
        have i2 : (j : Int) < (d.Ins.length : Int) := by omega
        obtain ⟨w1, e_w1, s_w1, h_w1, x_m⟩ := alloc_step wr 59 [.int .i64 p.Next, .slice AList p.List.length cList]
        have s_w1_1 := Nat.le_of_eq s_w1
        have s_w1_2 := Nat.le_of_eq s_w1.symm
        clear s_w1
        replace x_a := x_a.from_ h_w1
        have B_w1 := HB.trans (h_w1.mono HB.size)
        have c_a_0_w1 := x_a.cell (i := 0) rfl
        have c_a_1_w1 := x_a.cell (i := 1) rfl
        have c_a_2_w1 := x_a.cell (i := 2) rfl
        have c_a_3_w1 := x_a.cell (i := 3) rfl
        have c_a_4_w1 := x_a.cell (i := 4) rfl
        have c_a_5_w1 := x_a.cell (i := 5) rfl
        have c_a_6_w1 := x_a.cell (i := 6) rfl
        have c_a_7_w1 := x_a.cell (i := 7) rfl
        have c_a_8_w1 := x_a.cell (i := 8) rfl
        have c_m_0_w1 := x_m.cell (i := 0) rfl
        have c_m_1_w1 := x_m.cell (i := 1) rfl
        by_cases hq : outOkB p = true
        case neg =>
          replace hq : outOkB p = false := by simpa using hq
          have HQ := Lib.hid hq
          have HO : Hid (nodeOkB d = false) := by show _ = _; rw [HE.out, HA1.out, show ndOuts d = false from decide_eq_false (fun c => by have := c j hlt; unfold ndOut at this; rw [hp, hq] at this; simp at this)]; rfl
          clear hq hp hy
          go_wp2_with fail
          refine (sOutOk_c (vp.from_ h_w1) (by omega)).mono ?_
          rintro e w2 ⟨rfl, h_w2⟩
          clear c_a_0_w1 c_a_1_w1 c_a_2_w1 c_a_3_w1 c_a_4_w1 c_a_5_w1 c_a_6_w1 c_a_7_w1 c_a_8_w1 c_m_0_w1 c_m_1_w1
          replace x_a := x_a.from_ h_w2
          replace x_m := x_m.from_ h_w2
          have B_w2 := B_w1.trans (h_w2.mono B_w1.size)
          have s_w2 := h_w2.size
          rw [HQ.out]
          go_wp2
          go_ret
          exact ⟨ret_eq (by rw [HO.out]; rfl), B_w2⟩
        have HQ := Lib.hid hq
        by_cases hn : numB y = true
        case neg =>
          replace hn : numB y = false := by simpa using hn
          have HO : Hid (nodeOkB d = false) := by show _ = _; rw [HE.out, HA1.out, show ndOuts d = false from decide_eq_false (fun c => by have := c j hlt; unfold ndOut at this; rw [hy, hn] at this; simp at this)]; rfl
          have HN := Lib.hid hn
          clear hq hn hp hy
          go_wp2_with fail
          refine (sOutOk_c (vp.from_ h_w1) (by omega)).mono ?_
          rintro e w2 ⟨rfl, h_w2⟩
          clear c_a_0_w1 c_a_1_w1 c_a_2_w1 c_a_3_w1 c_a_4_w1 c_a_5_w1 c_a_6_w1 c_a_7_w1 c_a_8_w1 c_m_0_w1 c_m_1_w1
          replace x_a := x_a.from_ h_w2
          replace x_m := x_m.from_ h_w2
          have B_w2 := B_w1.trans (h_w2.mono B_w1.size)
          have s_w2 := h_w2.size
          rw [HQ.out]
          have c_a_0_w2 := x_a.cell (i := 0) rfl
          have c_a_1_w2 := x_a.cell (i := 1) rfl
          have c_a_2_w2 := x_a.cell (i := 2) rfl
          have c_a_3_w2 := x_a.cell (i := 3) rfl
          have c_a_4_w2 := x_a.cell (i := 4) rfl
          have c_a_5_w2 := x_a.cell (i := 5) rfl
          have c_a_6_w2 := x_a.cell (i := 6) rfl
          have c_a_7_w2 := x_a.cell (i := 7) rfl
          have c_a_8_w2 := x_a.cell (i := 8) rfl
          have f0' := (h_w2.cell (p := ⟨b', off' + j, none⟩) (by show b' < _; omega)).trans ((h_w1.cell (p := ⟨b', off' + j, none⟩) (by show b' < wr.heap.size; omega)).trans f0)
          go_wp2_with fail
          refine (sNum_any _ _).mono ?_
          rintro e w' ⟨rfl, rfl⟩
          rw [HN.out]
          go_wp2
          go_ret
          exact ⟨ret_eq (by rw [HO.out]; rfl), B_w2⟩
        have H2 : Hid (∀ i, i < j + 1 → ndOut d i) := fun i hi => by
          by_cases e : i = j
          · rw [e]; exact ⟨by rw [hp]; exact hq, by rw [hy]; exact hn⟩
          · exact HT.out i (by omega)
        have HN := Lib.hid hn
        clear hq hn hp hy
        go_wp2_with fail
        refine (sOutOk_c (vp.from_ h_w1) (by omega)).mono ?_
        rintro e w2 ⟨rfl, h_w2⟩
        clear c_a_0_w1 c_a_1_w1 c_a_2_w1 c_a_3_w1 c_a_4_w1 c_a_5_w1 c_a_6_w1 c_a_7_w1 c_a_8_w1 c_m_0_w1 c_m_1_w1
        replace x_a := x_a.from_ h_w2
        replace x_m := x_m.from_ h_w2
        have B_w2 := B_w1.trans (h_w2.mono B_w1.size)
        have s_w2 := h_w2.size
        rw [HQ.out]
        have c_a_0_w2 := x_a.cell (i := 0) rfl
        have c_a_1_w2 := x_a.cell (i := 1) rfl
        have c_a_2_w2 := x_a.cell (i := 2) rfl
        have c_a_3_w2 := x_a.cell (i := 3) rfl
        have c_a_4_w2 := x_a.cell (i := 4) rfl
        have c_a_5_w2 := x_a.cell (i := 5) rfl
        have c_a_6_w2 := x_a.cell (i := 6) rfl
        have c_a_7_w2 := x_a.cell (i := 7) rfl
        have c_a_8_w2 := x_a.cell (i := 8) rfl
        have f0' := (h_w2.cell (p := ⟨b', off' + j, none⟩) (by show b' < _; omega)).trans ((h_w1.cell (p := ⟨b', off' + j, none⟩) (by show b' < wr.heap.size; omega)).trans f0)
        go_wp2_with fail
        refine (sNum_any _ _).mono ?_
        rintro e w' ⟨rfl, rfl⟩
        rw [HN.out]
        go_wp2
        go_roundw
        case rel => exact ⟨j + 1, by omega, by go_num, H2, x_a, B_w2⟩
        case measure => simp [intOf]; omega
    obtain ⟨a, hae⟩ := get_of_lt hlt
    have ha := acctG_of hae
    have hab := sumG_at (s := MAcct.bulk) hae
    obtain ⟨p, hpe⟩ := get_of_lt (xs := d.Accs) (k := k) (by omega)
    have hp := accG_of hpe
    obtain ⟨b, off, AM, cM, AR, cR, hAA, hbb, e0, e1, e2, e3, e4, rM, rR⟩ := el_acct (hrA.below HB) hae hs
    subst hAA
    obtain ⟨b', off', hAC, hbb', f0, f1, f2⟩ := el_acc (hrC.below HB) hpe
    subst hAC
    clear hae hpe
    have va : RV acctL wr _ a := rv_acct_mk rM rR
    have i1 : (k : Int) < (d.Accts.length : Int) := by omega
    have i2 : (k : Int) < (d.Accs.length : Int) := by omega
    obtain ⟨w1, e_w1, s_w1, h_w1, x_m⟩ := alloc_step wr 52 [.int .i64 a.Have, .int .i64 a.State, .int .i64 a.By, .slice AM a.Marks.length cM, .slice AR a.Reps.length cR]
    have s_w1_1 := Nat.le_of_eq s_w1
    have s_w1_2 := Nat.le_of_eq s_w1.symm
    clear s_w1
    replace x_a := x_a.from_ h_w1
    have B_w1 := HB.trans (h_w1.mono HB.size)
    have c_a_0_w1 := x_a.cell (i := 0) rfl
    have c_a_1_w1 := x_a.cell (i := 1) rfl
    have c_a_2_w1 := x_a.cell (i := 2) rfl
    have c_a_3_w1 := x_a.cell (i := 3) rfl
    have c_a_4_w1 := x_a.cell (i := 4) rfl
    have c_a_5_w1 := x_a.cell (i := 5) rfl
    have c_a_6_w1 := x_a.cell (i := 6) rfl
    have c_a_7_w1 := x_a.cell (i := 7) rfl
    have c_a_8_w1 := x_a.cell (i := 8) rfl
    have c_m_0_w1 := x_m.cell (i := 0) rfl
    have c_m_1_w1 := x_m.cell (i := 1) rfl
    have c_m_2_w1 := x_m.cell (i := 2) rfl
    have c_m_3_w1 := x_m.cell (i := 3) rfl
    have c_m_4_w1 := x_m.cell (i := 4) rfl
    by_cases hq : acctOkB a d.N d.Id = true
    case neg =>
      replace hq : acctOkB a d.N d.Id = false := by simpa using hq
      have HQ := Lib.hid hq
      have HO : Hid (nodeOkB d = false) := by show _ = _; rw [HE.out, show ndAccts d = false from decide_eq_false (fun c => by have := c k hlt; unfold ndAcct at this; rw [ha, hq] at this; simp at this)]; rfl
      clear hq ha hp
      go_wp2_with fail
      refine (sAcctOk_c (va.from_ h_w1) (by omega)).mono ?_
      rintro e w2 ⟨rfl, h_w2⟩
      clear c_a_0_w1 c_a_1_w1 c_a_2_w1 c_a_3_w1 c_a_4_w1 c_a_5_w1 c_a_6_w1 c_a_7_w1 c_a_8_w1 c_m_0_w1 c_m_1_w1 c_m_2_w1 c_m_3_w1 c_m_4_w1
      replace x_a := x_a.from_ h_w2
      replace x_m := x_m.from_ h_w2
      have B_w2 := B_w1.trans (h_w2.mono B_w1.size)
      have s_w2 := h_w2.size
      rw [HQ.out]
      go_wp2
      go_ret
      exact ⟨ret_eq (by rw [HO.out]; rfl), B_w2⟩
    have HQ := Lib.hid hq
    by_cases hn : accOkB p = true
    case neg =>
      replace hn : accOkB p = false := by simpa using hn
      have HO : Hid (nodeOkB d = false) := by show _ = _; rw [HE.out, show ndAccts d = false from decide_eq_false (fun c => by have := c k hlt; unfold ndAcct at this; rw [hp, hn] at this; simp at this)]; rfl
      have HN := Lib.hid hn
      clear hq hn ha hp
      go_wp2_with fail
      refine (sAcctOk_c (va.from_ h_w1) (by omega)).mono ?_
      rintro e w2 ⟨rfl, h_w2⟩
      clear c_a_0_w1 c_a_1_w1 c_a_2_w1 c_a_3_w1 c_a_4_w1 c_a_5_w1 c_a_6_w1 c_a_7_w1 c_a_8_w1 c_m_0_w1 c_m_1_w1 c_m_2_w1 c_m_3_w1 c_m_4_w1
      replace x_a := x_a.from_ h_w2
      replace x_m := x_m.from_ h_w2
      have B_w2 := B_w1.trans (h_w2.mono B_w1.size)
      have s_w2 := h_w2.size
      rw [HQ.out]
      have c_a_0_w2 := x_a.cell (i := 0) rfl
      have c_a_1_w2 := x_a.cell (i := 1) rfl
      have c_a_2_w2 := x_a.cell (i := 2) rfl
      have c_a_3_w2 := x_a.cell (i := 3) rfl
      have c_a_4_w2 := x_a.cell (i := 4) rfl
      have c_a_5_w2 := x_a.cell (i := 5) rfl
      have c_a_6_w2 := x_a.cell (i := 6) rfl
      have c_a_7_w2 := x_a.cell (i := 7) rfl
      have c_a_8_w2 := x_a.cell (i := 8) rfl
      have g0 := (h_w2.cell (p := ⟨b', off' + k * 3, none⟩) (by show b' < _; omega)).trans ((h_w1.cell (p := ⟨b', off' + k * 3, none⟩) (by show b' < wr.heap.size; omega)).trans f0)
      have g1 := (h_w2.cell (p := ⟨b', off' + k * 3 + 1, none⟩) (by show b' < _; omega)).trans ((h_w1.cell (p := ⟨b', off' + k * 3 + 1, none⟩) (by show b' < wr.heap.size; omega)).trans f1)
      have g2 := (h_w2.cell (p := ⟨b', off' + k * 3 + 2, none⟩) (by show b' < _; omega)).trans ((h_w1.cell (p := ⟨b', off' + k * 3 + 2, none⟩) (by show b' < wr.heap.size; omega)).trans f2)
      go_wp2_with fail
      refine (sAccOk_c (rv_acc_mk : RV accL w2 _ p)).mono ?_
      rintro e w3 ⟨rfl, h_w3⟩
      clear c_a_0_w2 c_a_1_w2 c_a_2_w2 c_a_3_w2 c_a_4_w2 c_a_5_w2 c_a_6_w2 c_a_7_w2 c_a_8_w2
      replace x_a := x_a.from_ h_w3
      replace x_m := x_m.from_ h_w3
      have B_w3 := B_w2.trans (h_w3.mono B_w2.size)
      have s_w3 := h_w3.size
      rw [HN.out]
      have c_a_0_w3 := x_a.cell (i := 0) rfl
      have c_a_1_w3 := x_a.cell (i := 1) rfl
      have c_a_2_w3 := x_a.cell (i := 2) rfl
      have c_a_3_w3 := x_a.cell (i := 3) rfl
      have c_a_4_w3 := x_a.cell (i := 4) rfl
      have c_a_5_w3 := x_a.cell (i := 5) rfl
      have c_a_6_w3 := x_a.cell (i := 6) rfl
      have c_a_7_w3 := x_a.cell (i := 7) rfl
      have c_a_8_w3 := x_a.cell (i := 8) rfl
      go_wp2
      go_ret
      exact ⟨ret_eq (by rw [HO.out]; rfl), B_w3⟩
    have H2 : Hid (∀ i, i < k + 1 → ndAcct d i) := fun i hi => by
      by_cases e : i = k
      · rw [e]; exact ⟨by rw [ha]; exact hq, by rw [hp]; exact hn⟩
      · exact HT.out i (by omega)
    have HN := Lib.hid hn
    clear hq hn ha hp
    go_wp2_with fail
    refine (sAcctOk_c (va.from_ h_w1) (by omega)).mono ?_
    rintro e w2 ⟨rfl, h_w2⟩
    clear c_a_0_w1 c_a_1_w1 c_a_2_w1 c_a_3_w1 c_a_4_w1 c_a_5_w1 c_a_6_w1 c_a_7_w1 c_a_8_w1 c_m_0_w1 c_m_1_w1 c_m_2_w1 c_m_3_w1 c_m_4_w1
    replace x_a := x_a.from_ h_w2
    replace x_m := x_m.from_ h_w2
    have B_w2 := B_w1.trans (h_w2.mono B_w1.size)
    have s_w2 := h_w2.size
    rw [HQ.out]
    have c_a_0_w2 := x_a.cell (i := 0) rfl
    have c_a_1_w2 := x_a.cell (i := 1) rfl
    have c_a_2_w2 := x_a.cell (i := 2) rfl
    have c_a_3_w2 := x_a.cell (i := 3) rfl
    have c_a_4_w2 := x_a.cell (i := 4) rfl
    have c_a_5_w2 := x_a.cell (i := 5) rfl
    have c_a_6_w2 := x_a.cell (i := 6) rfl
    have c_a_7_w2 := x_a.cell (i := 7) rfl
    have c_a_8_w2 := x_a.cell (i := 8) rfl
    have g0 := (h_w2.cell (p := ⟨b', off' + k * 3, none⟩) (by show b' < _; omega)).trans ((h_w1.cell (p := ⟨b', off' + k * 3, none⟩) (by show b' < wr.heap.size; omega)).trans f0)
    have g1 := (h_w2.cell (p := ⟨b', off' + k * 3 + 1, none⟩) (by show b' < _; omega)).trans ((h_w1.cell (p := ⟨b', off' + k * 3 + 1, none⟩) (by show b' < wr.heap.size; omega)).trans f1)
    have g2 := (h_w2.cell (p := ⟨b', off' + k * 3 + 2, none⟩) (by show b' < _; omega)).trans ((h_w1.cell (p := ⟨b', off' + k * 3 + 2, none⟩) (by show b' < wr.heap.size; omega)).trans f2)
    go_wp2_with fail
    refine (sAccOk_c (rv_acc_mk : RV accL w2 _ p)).mono ?_
    rintro e w3 ⟨rfl, h_w3⟩
    clear c_a_0_w2 c_a_1_w2 c_a_2_w2 c_a_3_w2 c_a_4_w2 c_a_5_w2 c_a_6_w2 c_a_7_w2 c_a_8_w2
    replace x_a := x_a.from_ h_w3
    replace x_m := x_m.from_ h_w3
    have B_w3 := B_w2.trans (h_w3.mono B_w2.size)
    have s_w3 := h_w3.size
    rw [HN.out]
    have c_a_0_w3 := x_a.cell (i := 0) rfl
    have c_a_1_w3 := x_a.cell (i := 1) rfl
    have c_a_2_w3 := x_a.cell (i := 2) rfl
    have c_a_3_w3 := x_a.cell (i := 3) rfl
    have c_a_4_w3 := x_a.cell (i := 4) rfl
    have c_a_5_w3 := x_a.cell (i := 5) rfl
    have c_a_6_w3 := x_a.cell (i := 6) rfl
    have c_a_7_w3 := x_a.cell (i := 7) rfl
    have c_a_8_w3 := x_a.cell (i := 8) rfl
    go_wp2
    go_roundw
    case rel => exact ⟨k + 1, by omega, by go_num, H2, x_a, B_w3⟩
    case measure => simp [intOf]; omega

end Go.Proofs.Ytdoipabfmekdlaa
