/- An account at a node: the model, and plain facts on it. -/
import Derived.Test.YtopmojfcdmcmbaaTAcct
import Derived.Test.YtopmojfcdmcmbaaVtA
import Derived.Test.YtopmojfcdmcmbaaVt3
namespace Go.Proofs.Ytopmojfcdmcmbaa
open Go.RowKit
set_option linter.unusedVariables false

deriving instance DecidableEq for MRep

def acctZ : MAcct := ⟨0, 0, 0, [], []⟩
def repG (l : List MRep) (i : Nat) : MRep := l.getD i ⟨0, 0⟩
def repAt (l : List MRep) (n : Int) (i : Nat) : Bool := inB (repG l i).Node 0 (n - 1) && (numB (repG l i).Amt && (decide (i = 0) || decide ((repG l (i - 1)).Node < (repG l i).Node)))
def hasRep (l : List MRep) (id : Int) : Bool := l.any (fun r => decide (r.Node = id))
def repsB (l : List MRep) (n id h : Int) : Bool := decide (∀ i, i < l.length → repAt l n i = true ∧ ((repG l i).Node = id → (repG l i).Amt = h))
def underB (l : List Int) (n : Int) : Bool := decide (l.length = 0) || decide (l.getD (l.length - 1) 0 < n)
def stateOf (k n : Int) : Int := if k = n then 2 else 1
def ownB (a : MAcct) (n id : Int) : Bool := decide (hasRep a.Reps id = decide ((a.Marks.length : Int) = n - 1))
def closedB (a : MAcct) (n id : Int) : Bool := inB a.By 0 (n - 1) && (riseB a.Marks && (!hasI a.Marks id && (repsB a.Reps n id a.Have && (underB a.Marks n && (ownB a n id && decide (a.State = stateOf a.Reps.length n))))))
def openB (a : MAcct) : Bool := decide (a.By = 0) && (decide (a.Marks.length = 0) && decide (a.Reps.length = 0))
def acctOkB (a : MAcct) (n id : Int) : Bool := inB n 1 4 && (inB id 0 (n - 1) && (numB a.Have && (if a.State = 0 then openB a else closedB a n id)))

def acctAddB (a : MAcct) (x : Int) : Bool := amtB x && inB a.Have 0 (1125899906842624 - x)
def acctAdd (a : MAcct) (x : Int) : MAcct := if acctAddB a x = true then ⟨a.Have + x, a.State, a.By, a.Marks, a.Reps⟩ else acctZ
def acctTakeB (a : MAcct) (x : Int) : Bool := amtB x && decide (x ≤ a.Have)
def acctTake (a : MAcct) (x : Int) : MAcct := if acctTakeB a x = true then ⟨a.Have - x, a.State, a.By, a.Marks, a.Reps⟩ else acctZ
def acctShutB (a : MAcct) (b : Int) : Bool := decide (a.State = 0) && inB b 0 3
def acctShut (a : MAcct) (b : Int) : MAcct := if acctShutB a b = true then ⟨a.Have, 1, b, a.Marks, a.Reps⟩ else acctZ
def insF (l : List Int) (x : Int) : List Int := l.takeWhile (fun y => decide (y ≤ x)) ++ [x] ++ l.dropWhile (fun y => decide (y ≤ x))
def acctMarkB (a : MAcct) (x : Int) : Bool := !decide (a.State = 0) && (inB x 0 3 && !hasI a.Marks x)
/-- as the program does it -/
def acctMark (a : MAcct) (x : Int) : MAcct := if acctMarkB a x = true then ⟨a.Have, a.State, a.By, insF a.Marks x, a.Reps⟩ else acctZ
def insR (l : List MRep) (x : MRep) : List MRep := l.takeWhile (fun y => decide (y.Node ≤ x.Node)) ++ [x] ++ l.dropWhile (fun y => decide (y.Node ≤ x.Node))
def acctRepB (a : MAcct) (d x : Int) : Bool := !decide (a.State = 0) && (inB d 0 3 && (numB x && !hasRep a.Reps d))
def acctRep (a : MAcct) (d x n : Int) : MAcct := if acctRepB a d x = true then ⟨a.Have, if ((insR a.Reps ⟨d, x⟩).length : Int) = n then 2 else a.State, a.By, a.Marks, insR a.Reps ⟨d, x⟩⟩ else acctZ
def wsum : List MRep → Int → Int
  | [], z => z
  | r :: l, z => wsum l (IntKind.i64.wrap (z + r.Amt))
def finalB (a : MAcct) : Bool := decide (a.State = 2)
def finalOf (a : MAcct) : Int := if a.State = 2 then wsum a.Reps 0 else 0
def acctSameB (a b : MAcct) : Bool := decide (a.Have = b.Have) && (decide (a.State = b.State) && (decide (a.By = b.By) && (decide (a.Marks = b.Marks) && decide (a.Reps = b.Reps))))

theorem insF_len (l : List Int) (x : Int) : (insF l x).length = l.length + 1 := by
  have := congrArg List.length (List.takeWhile_append_dropWhile (p := fun y => decide (y ≤ x)) (l := l))
  simp only [List.length_append] at this
  simp only [insF, List.length_append, List.length_cons, List.length_nil]
  omega
theorem insR_len (l : List MRep) (x : MRep) : (insR l x).length = l.length + 1 := by
  have := congrArg List.length (List.takeWhile_append_dropWhile (p := fun y : MRep => decide (y.Node ≤ x.Node)) (l := l))
  simp only [List.length_append] at this
  simp only [insR, List.length_append, List.length_cons, List.length_nil]
  omega
theorem acctAdd_bulk (a : MAcct) (x : Int) : (acctAdd a x).bulk ≤ a.bulk := by
  unfold acctAdd; split
  · exact Nat.le_refl _
  · simp [MAcct.bulk, acctZ]
theorem acctTake_bulk (a : MAcct) (x : Int) : (acctTake a x).bulk ≤ a.bulk := by
  unfold acctTake; split
  · exact Nat.le_refl _
  · simp [MAcct.bulk, acctZ]
theorem acctShut_bulk (a : MAcct) (x : Int) : (acctShut a x).bulk ≤ a.bulk := by
  unfold acctShut; split
  · exact Nat.le_refl _
  · simp [MAcct.bulk, acctZ]
theorem acctMark_bulk (a : MAcct) (x : Int) : (acctMark a x).bulk ≤ a.bulk + 1 := by
  unfold acctMark; split
  · simp only [MAcct.bulk, insF_len]; omega
  · simp [MAcct.bulk, acctZ]
theorem acctRep_bulk (a : MAcct) (d x n : Int) : (acctRep a d x n).bulk ≤ a.bulk + 1 := by
  unfold acctRep; split
  · simp only [MAcct.bulk, insR_len]; omega
  · simp [MAcct.bulk, acctZ]

theorem wsum_snoc : ∀ (l : List MRep) (z : Int) (x : MRep), wsum (l ++ [x]) z = IntKind.i64.wrap (wsum l z + x.Amt)
  | [], _, _ => rfl
  | r :: l, z, x => by
    show wsum (l ++ [x]) _ = IntKind.i64.wrap (wsum l _ + x.Amt)
    exact wsum_snoc l _ x
theorem wsum_take {l : List MRep} {k : Nat} {x : MRep} (hx : l[k]? = some x) : wsum (l.take (k + 1)) 0 = IntKind.i64.wrap (wsum (l.take k) 0 + x.Amt) := by
  rw [List.take_add_one, hx]
  exact wsum_snoc _ _ _

theorem repG_of {l : List MRep} {k : Nat} {x : MRep} (hx : l[k]? = some x) : repG l k = x := by
  unfold repG; rw [List.getD_eq_getElem?_getD, hx]; rfl
theorem hasRep_take {l : List MRep} {k : Nat} {x : MRep} (hx : l[k]? = some x) (id : Int) : hasRep (l.take (k + 1)) id = (hasRep (l.take k) id || decide (x.Node = id)) := by
  unfold hasRep
  rw [List.take_add_one, hx, List.any_append]
  simp

/-- the nodes of a list of reports -/
def nodesR (l : List MRep) : List Int := l.map (·.Node)
theorem nodesR_len (l : List MRep) : (nodesR l).length = l.length := by simp [nodesR]
theorem nodesR_get (l : List MRep) (i : Nat) : (nodesR l).getD i 0 = (repG l i).Node := by
  unfold nodesR repG
  rw [List.getD_eq_getElem?_getD, List.getD_eq_getElem?_getD, List.getElem?_map]
  cases l[i]? <;> rfl

/-- what impl asks of a list of marks -/
def marksFit (l : List Int) (n id : Int) : Bool := decide (∀ i, i < l.length → (0 ≤ l.getD i 0 ∧ l.getD i 0 < n ∧ l.getD i 0 ≠ id) ∧ ∀ j, j < i → l.getD j 0 ≠ l.getD i 0)
/-- ascending, between 0 and hi -/
def wideB (l : List Int) (hi : Int) : Bool := ascB l && (decide (l.length = 0) || (decide (0 ≤ l.getD 0 0) && decide (l.getD (l.length - 1) 0 ≤ hi)))
def amtsB (l : List MRep) : Bool := l.all (fun r => numB r.Amt)
def repFirst (l : List MRep) (id : Int) : MRep := (l.find? (fun r => decide (r.Node = id))).getD ⟨0, 0⟩
def ownFit (a : MAcct) (id : Int) : Bool := !hasRep a.Reps id || decide ((repFirst a.Reps id).Amt = a.Have)

theorem wide_in {l : List Int} {hi : Int} (h : wideB l hi = true) : ascB l = true ∧ ∀ i, i < l.length → 0 ≤ l.getD i 0 ∧ l.getD i 0 ≤ hi := by
  unfold wideB at h
  simp only [Bool.and_eq_true, Bool.or_eq_true, decide_eq_true_eq] at h
  obtain ⟨ha, hr⟩ := h
  refine ⟨ha, fun i hi' => ?_⟩
  have hr := hr.resolve_left (by omega)
  have hlo : 0 ≤ l.getD i 0 := by
    rcases Nat.eq_zero_or_pos i with e | e
    · rw [e]; exact hr.1
    · have := asc_lt ha 0 i e hi'; omega
  have hhi : l.getD i 0 ≤ hi := by
    rcases Nat.lt_or_ge i (l.length - 1) with e | e
    · have := asc_lt ha i (l.length - 1) e (by omega); omega
    · obtain rfl : i = l.length - 1 := by omega
      exact hr.2
  exact ⟨hlo, hhi⟩
theorem wide_of {l : List Int} {hi : Int} (ha : ascB l = true) (h : ∀ i, i < l.length → 0 ≤ l.getD i 0 ∧ l.getD i 0 ≤ hi) : wideB l hi = true := by
  unfold wideB
  simp only [Bool.and_eq_true, Bool.or_eq_true, decide_eq_true_eq]
  refine ⟨ha, ?_⟩
  rcases Nat.eq_zero_or_pos l.length with e | e
  · exact .inl e
  · exact .inr ⟨(h 0 e).1, (h (l.length - 1) (by omega)).2⟩

theorem hasI_get {l : List Int} {n : Int} : hasI l n = true ↔ ∃ i, i < l.length ∧ l.getD i 0 = n := by
  unfold hasI
  rw [decide_eq_true_eq, List.mem_iff_getElem?]
  constructor
  · rintro ⟨i, hi⟩
    have hl : i < l.length := by
      rcases Nat.lt_or_ge i l.length with h | h
      · exact h
      · rw [List.getElem?_eq_none h] at hi; cases hi
    exact ⟨i, hl, by rw [List.getD_eq_getElem?_getD, hi]; rfl⟩
  · rintro ⟨i, hi, h⟩
    refine ⟨i, ?_⟩
    rw [List.getD_eq_getElem?_getD, List.getElem?_eq_getElem hi] at h
    rw [List.getElem?_eq_getElem hi]
    exact congrArg some h

theorem fit_iff {l : List Int} {n id : Int} (hn : 1 ≤ n ∧ n ≤ 4) : (marksFit l n id = true ∧ ascB l = true) ↔ (riseB l = true ∧ hasI l id = false ∧ underB l n = true) := by
  constructor
  · rintro ⟨hf, ha⟩
    have hf := of_decide_eq_true hf
    refine ⟨rise_ends ha (fun h0 => (hf 0 h0).1.1) (fun h0 => by have := (hf (l.length - 1) (by omega)).1.2.1; omega), ?_, ?_⟩
    · cases hc : hasI l id
      · rfl
      · obtain ⟨i, hi, e⟩ := hasI_get.1 hc
        exact absurd e (hf i hi).1.2.2
    · unfold underB
      simp only [Bool.or_eq_true, decide_eq_true_eq]
      rcases Nat.eq_zero_or_pos l.length with e | e
      · exact .inl e
      · exact .inr (hf (l.length - 1) (by omega)).1.2.1
  · rintro ⟨hr, hi, hu⟩
    have ha := rise_asc hr
    refine ⟨decide_eq_true fun i hl => ⟨⟨(rise_in hr i hl).1, ?_, ?_⟩, fun j hj => ?_⟩, ha⟩
    · unfold underB at hu
      simp only [Bool.or_eq_true, decide_eq_true_eq] at hu
      have hu := hu.resolve_left (by omega)
      rcases Nat.lt_or_ge i (l.length - 1) with e | e
      · have := asc_lt ha i (l.length - 1) e (by omega); omega
      · obtain rfl : i = l.length - 1 := by omega
        exact hu
    · intro e
      have := hasI_get.2 ⟨i, hl, e⟩
      rw [hi] at this; cases this
    · have := asc_lt ha j i hj hl; omega

theorem hasRep_get {l : List MRep} {id : Int} : hasRep l id = true ↔ ∃ i, i < l.length ∧ (repG l i).Node = id := by
  unfold hasRep
  rw [List.any_eq_true]
  constructor
  · rintro ⟨x, hx, h⟩
    obtain ⟨i, hi⟩ := List.mem_iff_getElem?.1 hx
    have hl : i < l.length := by
      rcases Nat.lt_or_ge i l.length with h | h
      · exact h
      · rw [List.getElem?_eq_none h] at hi; cases hi
    exact ⟨i, hl, by rw [repG_of hi]; exact of_decide_eq_true h⟩
  · rintro ⟨i, hi, h⟩
    refine ⟨l[i], List.getElem_mem hi, decide_eq_true ?_⟩
    rw [repG_of (List.getElem?_eq_getElem hi)] at h
    exact h

theorem repFirst_get {l : List MRep} {id : Int} (h : hasRep l id = true) : ∃ i, i < l.length ∧ (repG l i).Node = id ∧ repFirst l id = repG l i := by
  unfold repFirst
  rcases hf : l.find? (fun r => decide (r.Node = id)) with _ | x
  · rw [List.find?_eq_none] at hf
    unfold hasRep at h
    rw [List.any_eq_true] at h
    obtain ⟨y, hy, h⟩ := h
    exact absurd h (hf y hy)
  · have h1 := List.find?_some hf
    obtain ⟨i, hi⟩ := List.mem_iff_getElem?.1 (List.mem_of_find?_eq_some hf)
    have hl : i < l.length := by
      rcases Nat.lt_or_ge i l.length with h | h
      · exact h
      · rw [List.getElem?_eq_none h] at hi; cases hi
    exact ⟨i, hl, by rw [repG_of hi]; simpa using h1, by rw [repG_of hi, hf]; rfl⟩

theorem reps_iff {l : List MRep} {n id h : Int} : repsB l n id h = true ↔ (amtsB l = true ∧ wideB (nodesR l) (n - 1) = true ∧ (hasRep l id = true → (repFirst l id).Amt = h)) := by
  constructor
  · intro hr
    have hr := of_decide_eq_true hr
    have hp : ∀ i, i < l.length → (0 ≤ (repG l i).Node ∧ (repG l i).Node ≤ n - 1) ∧ numB (repG l i).Amt = true ∧ (i = 0 ∨ (repG l (i - 1)).Node < (repG l i).Node) := fun i hi => by
      have := (hr i hi).1
      unfold repAt at this
      simp only [Bool.and_eq_true, Bool.or_eq_true, decide_eq_true_eq] at this
      exact ⟨inB_true.1 this.1, this.2.1, this.2.2⟩
    refine ⟨List.all_eq_true.2 fun x hx => ?_, wide_of (asc_t fun i hi => ?_) (fun i hi => ?_), fun ho => ?_⟩
    · obtain ⟨i, hi⟩ := List.mem_iff_getElem?.1 hx
      have hl : i < l.length := by
        rcases Nat.lt_or_ge i l.length with h | h
        · exact h
        · rw [List.getElem?_eq_none h] at hi; cases hi
      have := (hp i hl).2.1
      rwa [repG_of hi] at this
    · rw [nodesR_len] at hi
      rw [nodesR_get, nodesR_get]
      have := (hp (i + 1) hi).2.2
      simpa using this
    · rw [nodesR_len] at hi
      rw [nodesR_get]
      exact (hp i hi).1
    · obtain ⟨i, hi, h1, h2⟩ := repFirst_get ho
      rw [h2]
      exact (hr i hi).2 h1
  · rintro ⟨ha, hw, ho⟩
    obtain ⟨hasc, hin⟩ := wide_in hw
    refine decide_eq_true fun i hi => ⟨?_, fun hid => ?_⟩
    · unfold repAt
      have h1 := hin i (by rw [nodesR_len]; exact hi)
      rw [nodesR_get] at h1
      have h2 : numB (repG l i).Amt = true := by
        rw [repG_of (List.getElem?_eq_getElem hi)]
        exact List.all_eq_true.1 ha _ (List.getElem_mem hi)
      rw [inB_true.2 h1, h2]
      rcases Nat.eq_zero_or_pos i with e | e
      · simp [e]
      · have := asc_lt hasc (i - 1) i (by omega) (by rw [nodesR_len]; exact hi)
        rw [nodesR_get, nodesR_get] at this
        rw [decide_eq_true this]; simp
    · obtain ⟨j, hj, h1, h2⟩ := repFirst_get (hasRep_get.2 ⟨i, hi, hid⟩)
      have h3 := ho (hasRep_get.2 ⟨i, hi, hid⟩)
      rcases Nat.lt_trichotomy i j with e | e | e
      · have := asc_lt hasc i j e (by rw [nodesR_len]; exact hj)
        rw [nodesR_get, nodesR_get] at this
        omega
      · rw [e, ← h2]; exact h3
      · have := asc_lt hasc j i e (by rw [nodesR_len]; exact hi)
        rw [nodesR_get, nodesR_get] at this
        omega

/-- what impl asks of a closed account -/
theorem closed_eq {a : MAcct} {n id : Int} (hn : 1 ≤ n ∧ n ≤ 4) : closedB a n id = (marksFit a.Marks n id && (ascB a.Marks && (amtsB a.Reps && (wideB (nodesR a.Reps) (n - 1) && (ownB a n id && (ownFit a id && (inB a.By 0 (n - 1) && decide (a.State = stateOf a.Reps.length n)))))))) := by
  rw [Bool.eq_iff_iff]
  unfold closedB
  have h1 := fit_iff (l := a.Marks) (id := id) hn
  have h2 := reps_iff (l := a.Reps) (n := n) (id := id) (h := a.Have)
  have h3 : ownFit a id = true ↔ (hasRep a.Reps id = true → (repFirst a.Reps id).Amt = a.Have) := by
    unfold ownFit
    cases hasRep a.Reps id <;> simp
  simp only [Bool.and_eq_true, Bool.not_eq_true']
  rw [h2, h3]
  constructor
  · rintro ⟨b1, b2, b3, ⟨b4, b5, b6⟩, b7, b8, b9⟩
    have := h1.2 ⟨b2, b3, b7⟩
    exact ⟨this.1, this.2, b4, b5, b8, b6, b1, b9⟩
  · rintro ⟨c1, c2, c3, c4, c5, c6, c7, c8⟩
    have := h1.1 ⟨c1, c2⟩
    exact ⟨c7, this.1, this.2.1, ⟨c3, c4, c6⟩, this.2.2, c5, c8⟩

end Go.Proofs.Ytopmojfcdmcmbaa
