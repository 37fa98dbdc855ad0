/- Votes: plain mathematics of FnVote: two proposers (ballots 5 and 6), three acceptors, whoever hears them and in whatever order. -/
import Derived.Test.YtaoedgcdcimibaaVt5
import Derived.IntWalk
namespace Go.Proofs.Ytaoedgcdcimibaa
open Go.RowKit
set_option linter.unusedVariables false

theorem mem_addI {l : List Int} {n x : Int} (h : x ∈ addI l n) : x = n ∨ x ∈ l := by
  unfold addI at h
  simp only [List.mem_append, List.mem_filter, List.mem_singleton] at h
  rcases h with (h | h) | h
  · exact .inr h.1
  · exact .inl h
  · exact .inr h.1
theorem addI_mem {l : List Int} {n x : Int} (h : x ∈ l) : x ∈ addI l n := by
  unfold addI
  simp only [List.mem_append, List.mem_filter, List.mem_singleton, decide_eq_true_eq]
  by_cases h1 : x < n
  · exact .inl (.inl ⟨h, h1⟩)
  · by_cases h2 : n < x
    · exact .inr ⟨h, h2⟩
    · exact .inl (.inr (by omega))

/-- ascending nodes, in the words of pairs -/
def Asc : List Int → Prop
  | [] => True
  | x :: l => (∀ y ∈ l, x < y) ∧ Asc l
theorem asc_app {l m : List Int} (hl : Asc l) (hm : Asc m) (h : ∀ x ∈ l, ∀ y ∈ m, x < y) : Asc (l ++ m) := by
  induction l with
  | nil => exact hm
  | cons x l ih =>
    refine ⟨fun y hy => ?_, ih hl.2 (fun a ha => h a (List.mem_cons_of_mem _ ha))⟩
    rcases List.mem_append.1 hy with hy | hy
    · exact hl.1 y hy
    · exact h x (List.mem_cons_self ..) y hy
theorem asc_filter {l : List Int} {p : Int → Bool} (hl : Asc l) : Asc (l.filter p) := by
  induction l with
  | nil => exact trivial
  | cons x l ih =>
    rw [List.filter_cons]
    split
    · exact ⟨fun y hy => hl.1 y (List.mem_filter.1 hy).1, ih hl.2⟩
    · exact ih hl.2
theorem asc_add {l : List Int} {n : Int} (hl : Asc l) : Asc (addI l n) := by
  unfold addI
  refine asc_app (asc_app (asc_filter hl) ⟨fun y hy => (by cases hy), trivial⟩ ?_) (asc_filter hl) ?_
  · intro x hx y hy
    have h1 := (List.mem_filter.1 hx).2
    simp only [List.mem_singleton] at hy
    simp only [decide_eq_true_eq] at h1
    omega
  · intro x hx y hy
    have h2 := (List.mem_filter.1 hy).2
    simp only [decide_eq_true_eq] at h2
    rcases List.mem_append.1 hx with hx | hx
    · have h1 := (List.mem_filter.1 hx).2
      simp only [decide_eq_true_eq] at h1
      omega
    · simp only [List.mem_singleton] at hx
      omega
theorem asc_at {l : List Int} (h : Asc l) : ∀ i, i + 1 < l.length → l.getD i 0 < l.getD (i + 1) 0 := by
  induction l with
  | nil => intro i hi; simp at hi
  | cons x l ih =>
    intro i hi
    cases i with
    | zero =>
      simp only [List.length_cons] at hi
      have : l[0]'(by omega) ∈ l := List.getElem_mem _
      have h1 := h.1 _ this
      simpa [List.getD_eq_getElem?_getD, List.getElem?_eq_getElem (show 0 < l.length by omega)] using h1
    | succ i =>
      have := ih h.2 i (by simp only [List.length_cons] at hi; omega)
      simpa using this
theorem rise_of {l : List Int} (h : Asc l) (hb : ∀ x ∈ l, 0 ≤ x ∧ x ≤ 3) : riseB l = true := by
  unfold riseB
  rw [decide_eq_true_eq]
  intro i hi
  unfold riseAt
  simp only [Bool.and_eq_true, Bool.or_eq_true, decide_eq_true_eq, inB_true]
  have hm : l.getD i 0 ∈ l := by rw [List.getD_eq_getElem?_getD, List.getElem?_eq_getElem hi]; exact List.getElem_mem _
  refine ⟨hb _ hm, ?_⟩
  by_cases h0 : i = 0
  · exact .inl h0
  · have := asc_at h (i - 1) (by omega)
    rw [show i - 1 + 1 = i by omega] at this
    exact .inr this
/-- two of three: two such lists meet -/
theorem asc_two {l : List Int} (h : Asc l) (hl : 2 ≤ l.length) (hb : ∀ x ∈ l, 0 ≤ x ∧ x ≤ 2) : ∃ x y, x ∈ l ∧ y ∈ l ∧ x < y := by
  match l, hl with
  | x :: y :: m, _ => exact ⟨x, y, by simp, by simp, h.1 y (by simp)⟩
theorem asc_meet {l m : List Int} (hl : Asc l) (hm : Asc m) (h2 : 2 ≤ l.length) (h2' : 2 ≤ m.length) (hb : ∀ x ∈ l, 0 ≤ x ∧ x ≤ 2) (hb' : ∀ x ∈ m, 0 ≤ x ∧ x ≤ 2) : ∃ x, x ∈ l ∧ x ∈ m := by
  obtain ⟨a, b, ha, hb1, hab⟩ := asc_two hl h2 hb
  obtain ⟨c, d, hc, hd, hcd⟩ := asc_two hm h2' hb'
  have h1 := hb a ha
  have h2 := hb b hb1
  have h3 := hb' c hc
  have h4 := hb' d hd
  have h5 : a = c ∨ a = d ∨ b = c ∨ b = d := by omega
  rcases h5 with e | e | e | e
  · exact ⟨a, ha, e ▸ hc⟩
  · exact ⟨a, ha, e ▸ hd⟩
  · exact ⟨b, hb1, e ▸ hc⟩
  · exact ⟨b, hb1, e ▸ hd⟩
theorem most3 {k : Int} (h0 : 0 ≤ k) (h1 : k ≤ 100) : isMostB k 3 = decide (2 ≤ k) := by
  unfold isMostB
  rw [show IntKind.i64.wrap (3 - k) = 3 - k from IntWalk.i64_in _ (by omega)]
  by_cases h : 2 ≤ k
  · rw [decide_eq_true h, decide_eq_true (by omega)]
  · rw [decide_eq_false h, decide_eq_false (by omega)]

/-- an acceptor that only ballots 5 and 6 have reached -/
def AccI (a : MAcc) : Prop := (a.Prom = 0 ∨ a.Prom = 5 ∨ a.Prom = 6) ∧ ((a.Bal = 0 ∧ a.Val = 0) ∨ (a.Bal = 5 ∧ a.Val = 1) ∨ (a.Bal = 6 ∧ (a.Val = 1 ∨ a.Val = 2))) ∧ a.Bal ≤ a.Prom
/-- a proposer of ballot b -/
def PropI (b : Int) (p : MProp) : Prop := p.Bal = b ∧ (p.Val = 1 ∨ p.Val = 2) ∧ (p.Best = 0 ∨ p.Best = 5) ∧ p.Best < b ∧ Asc p.From ∧ Asc p.Got ∧ (∀ x ∈ p.From, 0 ≤ x ∧ x ≤ 2) ∧ ∀ x ∈ p.Got, 0 ≤ x ∧ x ≤ 2
/-- what holds between them: acc is the state of the acceptors -/
structure VoteI (acc : Nat → MAcc) (p q : MProp) : Prop where
  ia : ∀ i, i < 3 → AccI (acc i)
  ip : PropI 5 p
  iq : PropI 6 q
  pv : p.Val = 1
  took : ∀ i : Nat, i < 3 → (i : Int) ∈ p.Got → 5 ≤ (acc i).Bal
  said : ∀ i : Nat, i < 3 → (i : Int) ∈ q.From → (acc i).Prom = 6
  met : ∀ i : Nat, i < 3 → (i : Int) ∈ p.Got → (i : Int) ∈ q.From → q.Val = 1
  best : 0 < q.Best → q.Val = 1

theorem AccI.ok {a : MAcc} (h : AccI a) : accOkB a = true := by
  obtain ⟨h1, h2, h3⟩ := h
  unfold accOkB
  simp only [Bool.and_eq_true, Bool.or_eq_true, decide_eq_true_eq, inB_true, numB_true]
  omega
theorem asc_len {l : List Int} (h : Asc l) (hb : ∀ x ∈ l, 0 ≤ x ∧ x ≤ 2) : l.length ≤ 3 := by
  match l with
  | [] => simp
  | [x] => simp
  | [x, y] => simp
  | [x, y, z] => simp
  | x :: y :: z :: u :: m =>
    have h1 := h.1 y (by simp)
    have h2 := h.2.1 z (by simp)
    have h3 := h.2.2.1 u (by simp)
    have b1 := hb x (by simp)
    have b4 := hb u (by simp)
    omega
theorem PropI.ok {b : Int} {p : MProp} (h : PropI b p) (hb : b = 5 ∨ b = 6) : propOkB p = true := by
  obtain ⟨h1, h2, h3, h4, h5, h6, h7, h8⟩ := h
  unfold propOkB
  rw [rise_of h5 (fun x hx => by have := h7 x hx; omega), rise_of h6 (fun x hx => by have := h8 x hx; omega)]
  simp only [Bool.and_eq_true, inB_true, Bool.true_and]
  omega
theorem PropI.ready {b : Int} {p : MProp} (h : PropI b p) (hb : b = 5 ∨ b = 6) : propReadyB p 3 = decide (2 ≤ p.From.length) := by
  have hl := asc_len h.2.2.2.2.1 h.2.2.2.2.2.2.1
  unfold propReadyB
  rw [h.ok hb, most3 (by omega) (by omega), Bool.true_and]
  exact decide_eq_decide.2 (by omega)
theorem PropI.won {b : Int} {p : MProp} (h : PropI b p) (hb : b = 5 ∨ b = 6) : propWonB p 3 = (decide (2 ≤ p.From.length) && decide (2 ≤ p.Got.length)) := by
  have hl := asc_len h.2.2.2.2.2.1 h.2.2.2.2.2.2.2
  unfold propWonB
  rw [h.ready hb, most3 (by omega) (by omega)]
  congr 1
  exact decide_eq_decide.2 (by omega)
theorem PropI.bulk {b : Int} {p : MProp} (h : PropI b p) : p.bulk ≤ 16777216 := by
  have h1 := asc_len h.2.2.2.2.1 h.2.2.2.2.2.2.1
  have h2 := asc_len h.2.2.2.2.2.1 h.2.2.2.2.2.2.2
  unfold MProp.bulk
  omega
theorem PropI.hear {b : Int} {p : MProp} {i : Nat} {x y : Int} (h : PropI b p) (hi : i < 3) (hx : (x = 0 ∧ y = 0) ∨ (x = 5 ∧ y = 1)) (hxb : x < b) : PropI b (propHear p i x y) ∧ ((propHear p i x y).Val = p.Val ∨ (propHear p i x y).Val = 1) ∧ (0 < x → p.Best < x → (i : Int) ∉ p.From → b = 6 → (propHear p i x y).Val = 1) ∧ (propHear p i x y).Got = p.Got ∧ (∀ z, z ∈ (propHear p i x y).From → z = (i : Int) ∨ z ∈ p.From) ∧ ((0 < p.Best → p.Val = 1) → 0 < (propHear p i x y).Best → (propHear p i x y).Val = 1) := by
  obtain ⟨h1, h2, h3, h4, h5, h6, h7, h8⟩ := h
  have hF : ∀ z ∈ addI p.From (i : Int), 0 ≤ z ∧ z ≤ 2 := fun z hz => by
    rcases mem_addI hz with e | e
    · omega
    · exact h7 z e
  unfold propHear
  split
  · rename_i hB
    split
    · rename_i hlt
      have hx5 : x = 5 ∧ y = 1 := by omega
      refine ⟨⟨h1, .inl hx5.2, .inr hx5.1, by omega, asc_add h5, h6, hF, h8⟩, .inr hx5.2, fun _ _ _ _ => hx5.2, rfl, fun z hz => mem_addI hz, fun _ _ => hx5.2⟩
    · rename_i hlt
      exact ⟨⟨h1, h2, h3, h4, asc_add h5, h6, hF, h8⟩, .inl rfl, fun _ hc => absurd hc hlt, rfl, fun z hz => mem_addI hz, fun hb hc => hb hc⟩
  · rename_i hB
    refine ⟨⟨h1, h2, h3, h4, h5, h6, h7, h8⟩, .inl rfl, fun hc hd he hf => ?_, rfl, fun z hz => .inr hz, fun hb hc => hb hc⟩
    exfalso
    apply hB
    unfold hearB
    rw [(show propOkB p = true from PropI.ok ⟨h1, h2, h3, h4, h5, h6, h7, h8⟩ (.inr hf))]
    simp only [Bool.true_and, Bool.and_eq_true, inB_true, Bool.not_eq_true', hasI, decide_eq_false_iff_not]
    refine ⟨by omega, he, by omega, ?_⟩
    rw [inB_true.2 (show 1 ≤ y ∧ y ≤ 4 by omega)]
    simp
theorem PropI.got {b : Int} {p : MProp} {i : Nat} (h : PropI b p) (hi : i < 3) : PropI b (propGot p i) ∧ (propGot p i).Val = p.Val ∧ (propGot p i).From = p.From ∧ (∀ z, z ∈ (propGot p i).Got → z = (i : Int) ∨ z ∈ p.Got) ∧ (propGot p i).Best = p.Best := by
  obtain ⟨h1, h2, h3, h4, h5, h6, h7, h8⟩ := h
  unfold propGot
  split
  · exact ⟨⟨h1, h2, h3, h4, h5, asc_add h6, h7, fun z hz => by rcases mem_addI hz with e | e; · omega
                                                               · exact h8 z e⟩, rfl, rfl, fun z hz => mem_addI hz, rfl⟩
  · exact ⟨⟨h1, h2, h3, h4, h5, h6, h7, h8⟩, rfl, rfl, fun z hz => .inr hz, rfl⟩

/-- acceptor i is turned -/
def upd (acc : Nat → MAcc) (i : Nat) (a : MAcc) : Nat → MAcc := fun j => if j = i then a else acc j
theorem upd_same (acc : Nat → MAcc) (i : Nat) (a : MAcc) : upd acc i a i = a := if_pos rfl
theorem upd_ne {acc : Nat → MAcc} {i j : Nat} {a : MAcc} (h : j ≠ i) : upd acc i a j = acc j := if_neg h
theorem prep_parts {a : MAcc} {b : Int} (h : accPrepB a b = true) : a.Prom < b ∧ accPrep a b = ⟨b, a.Bal, a.Val⟩ := by
  have h2 := h
  unfold accPrepB at h
  simp only [Bool.and_eq_true, decide_eq_true_eq] at h
  exact ⟨h.2.2, if_pos h2⟩
theorem take_parts {a : MAcc} {b u : Int} (h : accTakeB a b u = true) : a.Prom ≤ b ∧ accTake a b u = ⟨b, b, u⟩ := by
  have h2 := h
  unfold accTakeB at h
  simp only [Bool.and_eq_true, decide_eq_true_eq] at h
  exact ⟨h.2.2.2, if_pos h2⟩
section
variable {acc : Nat → MAcc} {p q : MProp} {i : Nat}
theorem vote_start {acc : Nat → MAcc} (h : ∀ i, i < 3 → acc i = accZ) : VoteI acc ⟨5, 1, [], 0, []⟩ ⟨6, 2, [], 0, []⟩ :=
  ⟨fun i hi => by rw [h i hi]; exact ⟨.inl rfl, .inl ⟨rfl, rfl⟩, by decide⟩,
   ⟨rfl, .inl rfl, .inl rfl, by decide, trivial, trivial, fun x hx => (by cases hx), fun x hx => (by cases hx)⟩,
   ⟨rfl, .inr rfl, .inl rfl, by decide, trivial, trivial, fun x hx => (by cases hx), fun x hx => (by cases hx)⟩, rfl,
   fun i _ hx => (by cases hx), fun i _ hx => (by cases hx), fun i _ hx => (by cases hx), fun c => absurd c (by decide)⟩
theorem vote_hearP (h : VoteI acc p q) (hi : i < 3) (hg : accPrepB (acc i) 5 = true) : VoteI (upd acc i (accPrep (acc i) 5)) (propHear p i (acc i).Bal (acc i).Val) q := by
  obtain ⟨h1, h2⟩ := prep_parts hg
  obtain ⟨a1, a2, a3⟩ := h.ia i hi
  have hz : (acc i).Bal = 0 ∧ (acc i).Val = 0 := by omega
  obtain ⟨k1, k2, k3, k4, k5, -⟩ := h.ip.hear (i := i) (x := (acc i).Bal) (y := (acc i).Val) hi (.inl hz) (by omega)
  rw [h2]
  refine ⟨fun j hj => ?_, k1, h.iq, ?_, fun j hj hm => ?_, fun j hj hm => ?_, fun j hj hm hm' => ?_, h.best⟩
  · by_cases e : j = i
    · subst e; rw [upd_same]; exact ⟨.inr (.inl rfl), .inl hz, by show (acc j).Bal ≤ 5; omega⟩
    · rw [upd_ne e]; exact h.ia j hj
  · rcases k2 with e | e
    · rw [e]; exact h.pv
    · exact e
  · rw [k4] at hm
    have := h.took j hj hm
    by_cases e : j = i
    · subst e; omega
    · rw [upd_ne e]; exact this
  · have := h.said j hj hm
    by_cases e : j = i
    · subst e; omega
    · rw [upd_ne e]; exact this
  · rw [k4] at hm; exact h.met j hj hm hm'
theorem vote_hearQ (h : VoteI acc p q) (hi : i < 3) (hg : accPrepB (acc i) 6 = true) : VoteI (upd acc i (accPrep (acc i) 6)) p (propHear q i (acc i).Bal (acc i).Val) := by
  obtain ⟨h1, h2⟩ := prep_parts hg
  obtain ⟨a1, a2, a3⟩ := h.ia i hi
  have hz : ((acc i).Bal = 0 ∧ (acc i).Val = 0) ∨ ((acc i).Bal = 5 ∧ (acc i).Val = 1) := by omega
  obtain ⟨k1, k2, k3, k4, k5, k6⟩ := h.iq.hear (i := i) (x := (acc i).Bal) (y := (acc i).Val) hi hz (by omega)
  rw [h2]
  refine ⟨fun j hj => ?_, h.ip, k1, h.pv, fun j hj hm => ?_, fun j hj hm => ?_, fun j hj hm hm' => ?_, fun hb => k6 h.best hb⟩
  · by_cases e : j = i
    · subst e; rw [upd_same]; exact ⟨.inr (.inr rfl), by show ((acc j).Bal = 0 ∧ (acc j).Val = 0) ∨ ((acc j).Bal = 5 ∧ (acc j).Val = 1) ∨ _; omega, by show (acc j).Bal ≤ 6; omega⟩
    · rw [upd_ne e]; exact h.ia j hj
  · have := h.took j hj hm
    by_cases e : j = i
    · subst e; rw [upd_same]; exact this
    · rw [upd_ne e]; exact this
  · by_cases e : j = i
    · subst e; rw [upd_same]
    · rw [upd_ne e]
      rcases k5 _ hm with c | c
      · omega
      · exact h.said j hj c
  · by_cases e : j = i
    · subst e
      have t5 := h.took j hj hm
      by_cases hF : (j : Int) ∈ q.From
      · have := h.said j hj hF
        omega
      · by_cases hb : q.Best < (acc j).Bal
        · exact k3 (by omega) hb hF rfl
        · -- Best is 5 already
          have hB := h.iq.2.2.1
          have hv : q.Val = 1 := h.best (by omega)
          rcases k2 with c | c
          · rw [c]; exact hv
          · exact c
    · rcases k5 _ hm' with c | c
      · omega
      · have := h.met j hj hm c
        rcases k2 with d | d
        · rw [d]; exact this
        · exact d
theorem vote_gotP (h : VoteI acc p q) (hi : i < 3) (hg : accTakeB (acc i) 5 p.Val = true) : VoteI (upd acc i (accTake (acc i) 5 p.Val)) (propGot p i) q := by
  obtain ⟨h1, h2⟩ := take_parts hg
  obtain ⟨k1, k2, k3, k4, -⟩ := h.ip.got hi
  rw [h2]
  refine ⟨fun j hj => ?_, k1, h.iq, by rw [k2]; exact h.pv, fun j hj hm => ?_, fun j hj hm => ?_, fun j hj hm hm' => ?_, h.best⟩
  · by_cases e : j = i
    · subst e; rw [upd_same]; exact ⟨.inr (.inl rfl), .inr (.inl ⟨rfl, h.pv⟩), by show (5 : Int) ≤ 5; omega⟩
    · rw [upd_ne e]; exact h.ia j hj
  · by_cases e : j = i
    · subst e; rw [upd_same]; show (5 : Int) ≤ 5; omega
    · rw [upd_ne e]
      rcases k4 _ hm with c | c
      · omega
      · exact h.took j hj c
  · have := h.said j hj hm
    by_cases e : j = i
    · subst e; omega
    · rw [upd_ne e]; exact this
  · rcases k4 _ hm with c | c
    · have e : j = i := by omega
      subst e
      have := h.said j hj hm'
      omega
    · exact h.met j hj c hm'
theorem vote_gotQ (h : VoteI acc p q) (hi : i < 3) (hg : accTakeB (acc i) 6 q.Val = true) : VoteI (upd acc i (accTake (acc i) 6 q.Val)) p (propGot q i) := by
  obtain ⟨h1, h2⟩ := take_parts hg
  obtain ⟨k1, k2, k3, k4, k6⟩ := h.iq.got hi
  have hqv := h.iq.2.1
  rw [h2]
  refine ⟨fun j hj => ?_, h.ip, k1, h.pv, fun j hj hm => ?_, fun j hj hm => ?_, fun j hj hm hm' => ?_, fun hb => by rw [k2]; exact h.best (by rw [k6] at hb; exact hb)⟩
  · by_cases e : j = i
    · subst e; rw [upd_same]; exact ⟨.inr (.inr rfl), .inr (.inr ⟨rfl, hqv⟩), by show (6 : Int) ≤ 6; omega⟩
    · rw [upd_ne e]; exact h.ia j hj
  · have := h.took j hj hm
    by_cases e : j = i
    · subst e; rw [upd_same]; show (5 : Int) ≤ 6; omega
    · rw [upd_ne e]; exact this
  · rw [k3] at hm
    by_cases e : j = i
    · subst e; rw [upd_same]
    · rw [upd_ne e]; exact h.said j hj hm
  · rw [k3] at hm'
    rw [k2]
    exact h.met j hj hm hm'
theorem vote_end (h : VoteI acc p q) (hp : propWonB p 3 = true) (hq : propWonB q 3 = true) : p.Val = q.Val := by
  rw [h.ip.won (.inl rfl)] at hp
  rw [h.iq.won (.inr rfl)] at hq
  simp only [Bool.and_eq_true, decide_eq_true_eq] at hp hq
  obtain ⟨-, -, -, -, -, g1, -, g2⟩ := h.ip
  obtain ⟨-, -, -, -, f1, -, f2, -⟩ := h.iq
  obtain ⟨x, hx, hx'⟩ := asc_meet g1 f1 hp.2 hq.1 g2 f2
  have hb := g2 x hx
  have e : ((x.toNat : Nat) : Int) = x := by omega
  rw [h.pv, h.met x.toNat (by omega) (by rw [e]; exact hx) (by rw [e]; exact hx')]
end

end Go.Proofs.Ytaoedgcdcimibaa
