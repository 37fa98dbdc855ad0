/- Rights that differ from others only by what was issued: what FnMeet asks. -/
import Derived.Test.YtmbipgnecjlicaaRtSmall
namespace Go.Proofs.Ytmbipgnecjlicaa
open Go.RowKit
set_option linter.unusedVariables false

/-- D is R but for the diagonal, which is not smaller, and at most 50 greater -/
def Up (n : Nat) (R D : MRights) : Prop := Shp n D ∧ (∀ k m, k < n → m < n → k ≠ m → g2 D.Give k m = g2 R.Give k m) ∧ (∀ k, k < n → g2 R.Give k k ≤ g2 D.Give k k ∧ g2 D.Give k k ≤ g2 R.Give k k + 50) ∧ ∀ k, k < n → s1 D.Spent k = s1 R.Spent k
theorem SmallR.shp {c n : Nat} {R : MRights} (h : SmallR c n R) : Shp n R := by
  have := form_shp (ok_form h.1)
  rwa [h.2.1] at this
theorem Up.refl {c n : Nat} {R : MRights} (h : SmallR c n R) : Up n R R := ⟨h.shp, fun _ _ _ _ _ => rfl, fun _ _ => by omega, fun _ _ => rfl⟩
theorem all_of_getD {l : List Int} (h : ∀ i, i < l.length → 0 ≤ l.getD i 0 ∧ l.getD i 0 ≤ 1125899906842624) : l.all numB = true := by
  rw [List.all_eq_true]
  intro x hx
  obtain ⟨i, hi⟩ := List.getElem?_of_mem hx
  have h1 := h i (getElem?_lt hi)
  rw [List.getD_eq_getElem?_getD, hi] at h1
  exact numB_true.2 h1
theorem form_of {n : Nat} {D : MRights} (hn : 1 ≤ n ∧ n ≤ 4) (hs : Shp n D) (hg : ∀ k m, k < n → m < n → 0 ≤ g2 D.Give k m ∧ g2 D.Give k m ≤ 1125899906842624) (h1 : ∀ k, k < n → 0 ≤ s1 D.Spent k ∧ s1 D.Spent k ≤ 1125899906842624) : formB D = true := by
  obtain ⟨a1, a2, a3⟩ := hs
  rw [form_eq, decide_eq_true (by omega), Bool.true_and, Bool.and_eq_true]
  refine ⟨List.all_eq_true.2 fun R hR => ?_, all_of_getD fun i hi => h1 i (by omega)⟩
  obtain ⟨i, hi⟩ := List.getElem?_of_mem hR
  have hl := a3 i R hi
  have hin := getElem?_lt hi
  unfold rowB
  rw [decide_eq_true (by omega), Bool.true_and]
  refine all_of_getD fun j hj => ?_
  have := hg i j (by omega) (by omega)
  rwa [g2_of hi] at this
theorem up_hasN {n : Nat} {R D : MRights} (h : Up n R D) {k : Nat} (hk : k < n) : ∀ m, m ≤ n → hasN D k m = hasN R k m + (g2 D.Give k k - g2 R.Give k k)
  | 0, _ => by rw [hasN, hasN, h.2.2.2 k hk]; omega
  | m + 1, hm => by
    rw [hasN, hasN, up_hasN h hk m (by omega)]
    by_cases e : m = k
    · rw [if_pos e, if_pos e]; omega
    · rw [if_neg e, if_neg e, h.2.1 m k (by omega) hk e, h.2.1 k m hk (by omega) (Ne.symm e)]; omega
theorem diagN_le {M : Int} {D : MRights} (h : ∀ k, g2 D.Give k k ≤ M) : ∀ m : Nat, diagN D m ≤ M * (m : Int)
  | 0 => by simp [diagN]
  | m + 1 => by
    have h1 := diagN_le h m
    have h2 := h m
    rw [diagN, show M * ((m + 1 : Nat) : Int) = M * (m : Int) + M by rw [Int.natCast_add, Int.mul_add]; simp]
    omega
theorem diagN_nn {D : MRights} : ∀ m : Nat, (∀ k, k < m → 0 ≤ g2 D.Give k k) → 0 ≤ diagN D m
  | 0, _ => by simp [diagN]
  | m + 1, h => by
    have h1 := diagN_nn m (fun k hk => h k (by omega))
    have h2 := h m (by omega)
    rw [diagN]; omega
theorem up_ok {n : Nat} {R D : MRights} (hR : SmallR 8 n R) (h : Up n R D) : rightsOkB D = true := by
  have hf := ok_form hR.1
  obtain ⟨p1, p2, p3⟩ := form_parts hf
  have hn := hR.2.1
  have hgD : ∀ k m, k < n → m < n → 0 ≤ g2 D.Give k m ∧ g2 D.Give k m ≤ 450 := fun k m hk hm => by
    have a1 := form_g2 hf k m
    have a2 := hR.2.2.1 k m
    by_cases e : k = m
    · subst e
      have a3 := h.2.2.1 k hk
      omega
    · rw [h.2.1 k m hk hm e]; omega
  have hform : formB D = true := form_of (by omega) h.1 (fun k m hk hm => by have := hgD k m hk hm; omega) (fun k hk => by rw [h.2.2.2 k hk]; exact p3 k)
  have hl := h.1.1
  rw [ok_sum hform (fun i hi => ?_)]
  · have hg : ∀ k, g2 D.Give k k ≤ 450 := fun k => by
      by_cases hk : k < n
      · exact (hgD k k hk hk).2
      · have e : D.Give.getD k [] = [] := by rw [List.getD_eq_getElem?_getD, List.getElem?_eq_none (by omega)]; rfl
        unfold g2; rw [e]; simp
    have h1 := diagN_le hg D.Give.length
    have h2 := diagN_nn (D := D) D.Give.length (fun k hk => (hgD k k (by omega) (by omega)).1)
    exact numB_true.2 (by omega)
  · have h1 := up_hasN h (k := i) (by omega) n (Nat.le_refl _)
    have h2 := h.2.2.1 i (by omega)
    have h3 := ok_has hR.1 (i := i) (by omega)
    unfold hasZ at h3 ⊢
    rw [hn] at h3
    rw [hl]
    omega
theorem addG_shp {n i j : Nat} {R : MRights} {a : Int} (h : Shp n R) (hi : i < n) : Shp n (addG R i j a) := by
  have hil : i < R.Give.length := by rw [h.1]; exact hi
  have hR := List.getElem?_eq_getElem hil
  have e : R.Give.getD i [] = R.Give[i] := by rw [List.getD_eq_getElem?_getD, hR]; rfl
  unfold addG setG
  rw [e]
  exact h.setG hR
theorem up_add {n : Nat} {R : MRights} {i : Nat} {a : Int} (hR : SmallR 8 n R) (hi : i < n) (ha : 0 ≤ a ∧ a ≤ 50) : Up n R (addG R i i a) := by
  have hl := hR.2.1
  have hf := ok_form hR.1
  refine ⟨addG_shp hR.shp hi, fun k m hk hm hne => ?_, fun k hk => ?_, fun k hk => rfl⟩
  · rw [g2_addG hf (by omega) (by omega), if_neg (by omega)]
  · rw [g2_addG hf (by omega) (by omega)]
    split
    · rename_i e; rw [e.1]; omega
    · omega
theorem may_true {R : MRights} {i a : Int} (h : rightsOkB R = true) (hi : 0 ≤ i ∧ i < (R.Give.length : Int)) (ha : 1 ≤ a ∧ a ≤ 1000000000) : mayB R i a = true := by
  unfold mayB amtB
  rw [h, inB_true.2 (show 0 ≤ i ∧ i ≤ (R.Give.length : Int) - 1 by omega), inB_true.2 ha]
  rfl
theorem up_mint {n : Nat} {R : MRights} {i a : Int} (hR : SmallR 8 n R) (hi : 0 ≤ i ∧ i < (n : Int)) (ha : 1 ≤ a ∧ a ≤ 50) : mintB R i a = true ∧ Up n R (mintM R i a) := by
  have hl := hR.2.1
  have hu := up_add (i := i.toNat) (a := a) hR (by omega) (by omega)
  have hb : mintB R i a = true := by
    unfold mintB
    rw [may_true hR.1 (by omega) (by omega), up_ok hR hu]
    rfl
  refine ⟨hb, ?_⟩
  rw [(mint_out hb).2.2]
  exact hu
theorem mx_le {x y : Int} : x ≤ mx x y ∧ y ≤ mx x y ∧ (mx x y = x ∨ mx x y = y) := by unfold mx; split <;> omega
theorem up_meet {n : Nat} {R D E : MRights} (hD : Up n R D) (hE : Up n R E) : Up n R (meetR D E) := by
  have hl := hD.1.1
  have hs : Shp n (meetR D E) := by have := meetR_shp D E; rwa [hl] at this
  refine ⟨hs, fun k m hk hm hne => ?_, fun k hk => ?_, fun k hk => ?_⟩
  · rw [meetR_g2 D E (by omega) (by omega), hD.2.1 k m hk hm hne, hE.2.1 k m hk hm hne]
    rcases (mx_le (x := g2 R.Give k m) (y := g2 R.Give k m)).2.2 with e | e <;> exact e
  · rw [meetR_g2 D E (by omega) (by omega)]
    have a1 := hD.2.2.1 k hk
    have a2 := hE.2.2.1 k hk
    have a3 := mx_le (x := g2 D.Give k k) (y := g2 E.Give k k)
    omega
  · rw [meetR_s1 D E (by omega), hD.2.2.2 k hk, hE.2.2.2 k hk]
    rcases (mx_le (x := s1 R.Spent k) (y := s1 R.Spent k)).2.2 with e | e <;> exact e
theorem meet_true {n : Nat} {R D E : MRights} (hR : SmallR 8 n R) (hD : Up n R D) (hE : Up n R E) : meetB D E = true ∧ meetM D E = meetR D E := by
  have hb : meetB D E = true := by
    unfold meetB
    rw [up_ok hR hD, up_ok hR hE, up_ok hR (up_meet hD hE), decide_eq_true (by rw [hD.1.1, hE.1.1])]
    rfl
  exact ⟨hb, if_pos hb⟩
theorem same_true (D : MRights) : rightsSameB D D = true := decide_eq_true ⟨rfl, rfl⟩
theorem meet_comm {n : Nat} {R D E : MRights} (hD : Up n R D) (hE : Up n R E) : meetR D E = meetR E D := by
  have h1 := hD.1.1
  have h2 := hE.1.1
  refine mat_ext (up_meet hD hE).1 (up_meet hE hD).1 (fun i m hi hm => ?_) (fun i hi => ?_)
  · rw [meetR_g2 D E (by omega) (by omega), meetR_g2 E D (by omega) (by omega)]
    unfold mx; split <;> split <;> omega
  · rw [meetR_s1 D E (by omega), meetR_s1 E D (by omega)]
    unfold mx; split <;> split <;> omega
theorem meet_again {n : Nat} {R D E : MRights} (hD : Up n R D) (hE : Up n R E) : meetR (meetR D E) D = meetR D E := by
  have h1 := hD.1.1
  have h2 := (up_meet hD hE).1.1
  refine mat_ext (up_meet (up_meet hD hE) hD).1 (up_meet hD hE).1 (fun i m hi hm => ?_) (fun i hi => ?_)
  · rw [meetR_g2 _ D (by omega) (by omega), meetR_g2 D E (by omega) (by omega)]
    have := mx_le (x := g2 D.Give i m) (y := g2 E.Give i m)
    generalize mx (g2 D.Give i m) (g2 E.Give i m) = z at *
    unfold mx; split <;> omega
  · rw [meetR_s1 _ D (by omega), meetR_s1 D E (by omega)]
    have := mx_le (x := s1 D.Spent i) (y := s1 E.Spent i)
    generalize mx (s1 D.Spent i) (s1 E.Spent i) = z at *
    unfold mx; split <;> omega
theorem meet_self {n : Nat} {R : MRights} (hR : Up n R R) : meetR R R = R := by
  have h1 := hR.1.1
  refine mat_ext (up_meet hR hR).1 hR.1 (fun i m hi hm => ?_) (fun i hi => ?_)
  · rw [meetR_g2 R R (by omega) (by omega)]
    unfold mx; split <;> rfl
  · rw [meetR_s1 R R (by omega)]
    unfold mx; split <;> rfl
theorem later_true {n : Nat} {R D E : MRights} (hR : SmallR 8 n R) (hD : Up n R D) (hE : Up n R E) (h : ∀ k, k < n → g2 D.Give k k ≤ g2 E.Give k k) : laterB D E = true := by
  have h1 := hD.1.1
  unfold laterB
  rw [up_ok hR hD, up_ok hR hE, decide_eq_true (by rw [hD.1.1, hE.1.1]), decide_eq_true (fun i hi => ?_)]
  · rfl
  · refine ⟨by rw [hD.2.2.2 i (by omega), hE.2.2.2 i (by omega)]; omega, fun j hj => ?_⟩
    by_cases e : i = j
    · subst e; exact h i (by omega)
    · rw [hD.2.1 i j (by omega) (by omega) e, hE.2.1 i j (by omega) (by omega) e]; omega
theorem later_meet {n : Nat} {R D E : MRights} (hR : SmallR 8 n R) (hD : Up n R D) (hE : Up n R E) : laterB D (meetR D E) = true ∧ laterB E (meetR D E) = true := by
  have h1 := hD.1.1
  refine ⟨later_true hR hD (up_meet hD hE) fun k hk => ?_, later_true hR hE (up_meet hD hE) fun k hk => ?_⟩
  · rw [meetR_g2 D E (by omega) (by omega)]; exact mx_le.1
  · rw [meetR_g2 D E (by omega) (by omega)]; exact mx_le.2.1
theorem later_up {n : Nat} {R D : MRights} (hR : SmallR 8 n R) (hD : Up n R D) : laterB R D = true := later_true hR (Up.refl hR) hD fun k hk => (hD.2.2.1 k hk).1
theorem Up.bulk {n : Nat} {R D : MRights} (hR : SmallR 8 n R) (hD : Up n R D) : D.bulk ≤ 16777216 := Nat.le_trans (ok_bulk (up_ok hR hD)) (by omega)

end Go.Proofs.Ytmbipgnecjlicaa
