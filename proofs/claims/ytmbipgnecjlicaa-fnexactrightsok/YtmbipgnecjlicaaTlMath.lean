/- impl.tally: its 21 cells as one list of integers; plain mathematics. -/
import Derived.Test.YtmbipgnecjlicaaMeetMath
namespace Go.Proofs.Ytmbipgnecjlicaa
open Go.RowKit
set_option linter.unusedVariables false

/-- the cells of a list of integers -/
def tl (T : List Int) : List Value := T.map (Value.int .i64)
/-- element k -/
def tg (T : List Int) (k : Nat) : Int := T.getD k 0
theorem tl_len (T : List Int) : (tl T).length = T.length := by simp [tl]
theorem tl_get {T : List Int} {k : Nat} (hk : k < T.length) : (tl T)[k]? = some (.int .i64 (tg T k)) := by
  simp [tl, tg, List.getD_eq_getElem?_getD, List.getElem?_eq_getElem hk]
theorem tl_set (T : List Int) (k : Nat) (x : Int) : (tl T).set k (.int .i64 x) = tl (T.set k x) := by simp [tl, List.map_set]
theorem tl_one (T : List Int) : ∀ v ∈ tl T, v.oneCell' = true := by
  intro v hv
  obtain ⟨n, _, rfl⟩ := List.mem_map.1 hv
  rfl
theorem tg_set {T : List Int} {k : Nat} (hk : k < T.length) (x : Int) (i : Nat) : tg (T.set k x) i = if i = k then x else tg T i := getD_set2 T k i x 0 hk
theorem tg_ext {T U : List Int} (h : T.length = 21) (h' : U.length = 21) (he : ∀ k, k < 21 → tg T k = tg U k) : T = U := list_ext_getD h h' he

/-- the counters of Rights in arrays -/
def tOf (r : MRights) : List Int := [(r.Give.length : Int), g2 r.Give 0 0, g2 r.Give 0 1, g2 r.Give 0 2, g2 r.Give 0 3, g2 r.Give 1 0, g2 r.Give 1 1, g2 r.Give 1 2, g2 r.Give 1 3, g2 r.Give 2 0, g2 r.Give 2 1, g2 r.Give 2 2, g2 r.Give 2 3, g2 r.Give 3 0, g2 r.Give 3 1, g2 r.Give 3 2, g2 r.Give 3 3, s1 r.Spent 0, s1 r.Spent 1, s1 r.Spent 2, s1 r.Spent 3]
theorem tOf_len (r : MRights) : (tOf r).length = 21 := rfl
theorem tOf_n (r : MRights) : tg (tOf r) 0 = (r.Give.length : Int) := rfl
theorem tOf_g (r : MRights) {i j : Nat} (hi : i < 4) (hj : j < 4) : tg (tOf r) (1 + i * 4 + j) = g2 r.Give i j := by
  rcases i with _ | _ | _ | _ | i <;> rcases j with _ | _ | _ | _ | j <;> first | rfl | omega
theorem tOf_s (r : MRights) {i : Nat} (hi : i < 4) : tg (tOf r) (17 + i) = s1 r.Spent i := by
  rcases i with _ | _ | _ | _ | i <;> first | rfl | omega
/-- a place among the 21 -/
theorem places (k : Nat) (hk : k < 21) : k = 0 ∨ (∃ i j, i < 4 ∧ j < 4 ∧ k = 1 + i * 4 + j) ∨ ∃ i, i < 4 ∧ k = 17 + i := by
  by_cases h0 : k = 0
  · exact .inl h0
  · by_cases h1 : k < 17
    · exact .inr (.inl ⟨(k - 1) / 4, (k - 1) % 4, by omega, by omega, by omega⟩)
    · exact .inr (.inr ⟨k - 17, by omega, by omega⟩)
theorem is_tOf {T : List Int} {r : MRights} (h : T.length = 21) (h0 : tg T 0 = (r.Give.length : Int)) (hg : ∀ i j, i < 4 → j < 4 → tg T (1 + i * 4 + j) = g2 r.Give i j) (hs : ∀ i, i < 4 → tg T (17 + i) = s1 r.Spent i) : T = tOf r := by
  refine tg_ext h rfl fun k hk => ?_
  rcases places k hk with rfl | ⟨i, j, hi, hj, rfl⟩ | ⟨i, hi, rfl⟩
  · exact h0
  · rw [hg i j hi hj, tOf_g r hi hj]
  · rw [hs i hi, tOf_s r hi]
theorem tOf_setG {D : MRights} {k j : Nat} {R : List Int} {x : Int} (hR : D.Give[k]? = some R) (hj : j < R.length) (hk4 : k < 4) (hj4 : j < 4) : (tOf D).set (1 + k * 4 + j) x = tOf ⟨D.Give.set k (R.set j x), D.Spent⟩ := by
  refine is_tOf (by simp [tOf_len]) ?_ (fun i m hi hm => ?_) (fun i hi => ?_)
  · rw [tg_set (by rw [tOf_len]; omega), if_neg (by omega), tOf_n]
    simp
  · rw [tg_set (by rw [tOf_len]; omega), tOf_g D hi hm, g2_set hR hj]
    by_cases e : i = k ∧ m = j
    · rw [if_pos (by obtain ⟨rfl, rfl⟩ := e; rfl), if_pos e]
    · rw [if_neg (by omega), if_neg e]
  · rw [tg_set (by rw [tOf_len]; omega), if_neg (by omega), tOf_s D hi]
theorem tOf_setS {D : MRights} {k : Nat} {x : Int} (hk : k < D.Spent.length) (hk4 : k < 4) : (tOf D).set (17 + k) x = tOf ⟨D.Give, D.Spent.set k x⟩ := by
  refine is_tOf (by simp [tOf_len]) ?_ (fun i m hi hm => ?_) (fun i hi => ?_)
  · rw [tg_set (by rw [tOf_len]; omega), if_neg (by omega), tOf_n]
  · rw [tg_set (by rw [tOf_len]; omega), if_neg (by omega), tOf_g D hi hm]
  · rw [tg_set (by rw [tOf_len]; omega), tOf_s D hi]
    unfold s1
    rw [getD_set2 _ _ _ _ _ hk]
    by_cases e : i = k
    · rw [if_pos (by omega), if_pos e]
    · rw [if_neg (by omega), if_neg e]
theorem g2_out {n : Nat} {D : MRights} (h : Shp n D) {i j : Nat} (ho : n ≤ i ∨ n ≤ j) : g2 D.Give i j = 0 := by
  by_cases hi : i < D.Give.length
  · have hR := List.getElem?_eq_getElem hi
    have hl := h.2.2 i _ hR
    have hn := h.1
    rw [g2_of hR, List.getD_eq_getElem?_getD, List.getElem?_eq_none (by omega)]
    rfl
  · have e : D.Give.getD i [] = [] := by rw [List.getD_eq_getElem?_getD, List.getElem?_eq_none (by omega)]; rfl
    unfold g2
    rw [e]
    simp
theorem s1_out {n : Nat} {D : MRights} (h : Shp n D) {i : Nat} (ho : n ≤ i) : s1 D.Spent i = 0 := by
  have := h.2.1
  unfold s1
  rw [List.getD_eq_getElem?_getD, List.getElem?_eq_none (by omega)]
  rfl
/-- two of one shape are the same where their arrays are -/
theorem tOf_inj {n : Nat} {D E : MRights} (hD : Shp n D) (hE : Shp n E) (hn : n ≤ 4) (h : tOf D = tOf E) : D = E :=
  mat_ext hD hE (fun i m hi hm => by rw [← tOf_g D (by omega) (by omega), ← tOf_g E (by omega) (by omega), h]) (fun i hi => by rw [← tOf_s D (by omega), ← tOf_s E (by omega), h])

/-- the shape alone -/
def shpB (r : MRights) : Bool := decide (1 ≤ r.Give.length ∧ r.Give.length ≤ 4 ∧ r.Spent.length = r.Give.length) && r.Give.all (fun row => decide (row.length = r.Give.length))
theorem shp_of {r : MRights} (h : shpB r = true) : Shp r.Give.length r ∧ 1 ≤ r.Give.length ∧ r.Give.length ≤ 4 := by
  unfold shpB at h
  simp only [Bool.and_eq_true, decide_eq_true_eq] at h
  refine ⟨⟨rfl, h.1.2.2, fun i R hR => ?_⟩, h.1.1, h.1.2.1⟩
  have := List.all_eq_true.1 h.2 R (List.mem_of_getElem? hR)
  simpa using this
/-- all elements are numbers -/
theorem form_iff {r : MRights} (h : Shp r.Give.length r) (h1 : 1 ≤ r.Give.length ∧ r.Give.length ≤ 4) : formB r = true ↔ ∀ i, i < r.Give.length → numB (s1 r.Spent i) = true ∧ ∀ j, j < r.Give.length → numB (g2 r.Give i j) = true := by
  constructor
  · intro hf i hi
    exact ⟨numB_true.2 ((form_parts hf).2.2 i), fun j _ => numB_true.2 (form_g2 hf i j)⟩
  · intro ha
    unfold formB
    simp only [Bool.and_eq_true, decide_eq_true_eq, List.all_eq_true]
    refine ⟨⟨h1.1, h1.2, h.2.1⟩, fun R hR => ?_, fun x hx => ?_⟩
    · obtain ⟨i, hi⟩ := List.getElem?_of_mem hR
      have hl := h.2.2 i R hi
      refine ⟨hl, fun x hx => ?_⟩
      obtain ⟨j, hj⟩ := List.getElem?_of_mem hx
      have := (ha i (getElem?_lt hi)).2 j (by have := getElem?_lt hj; omega)
      rwa [g2_of hi, List.getD_eq_getElem?_getD, hj] at this
    · obtain ⟨j, hj⟩ := List.getElem?_of_mem hx
      have := (ha j (by have := getElem?_lt hj; have := h.2.1; omega)).1
      unfold s1 at this
      rwa [List.getD_eq_getElem?_getD, hj] at this

end Go.Proofs.Ytmbipgnecjlicaa
