/- Rights: plain mathematics: the model of the functions of chapter 7. -/
import Derived.Test.YtmbipgnecjlicaaTRights
import Derived.Test.YtmbipgnecjlicaaPrims
import Derived.Test.YtmbipgnecjlicaaPutMath
namespace Go.Proofs.Ytmbipgnecjlicaa
open Go.RowKit
set_option linter.unusedVariables false

/-- the element of row i, column j (0 where there is none) -/
def g2 (g : List (List Int)) (i j : Nat) : Int := (g.getD i []).getD j 0
def s1 (s : List Int) (i : Nat) : Int := s.getD i 0
/-- the shape -/
def formB (r : MRights) : Bool :=
  decide (1 ≤ r.Give.length ∧ r.Give.length ≤ 4 ∧ r.Spent.length = r.Give.length) && (r.Give.all (fun row => decide (row.length = r.Give.length) && row.all numB) && r.Spent.all numB)
def hasN (r : MRights) (i : Nat) : Nat → Int
  | 0 => g2 r.Give i i - s1 r.Spent i
  | k + 1 => hasN r i k + (if k = i then 0 else g2 r.Give k i - g2 r.Give i k)
/-- what node i has -/
def hasZ (r : MRights) (i : Nat) : Int := hasN r i r.Give.length
def diagN (r : MRights) : Nat → Int
  | 0 => 0
  | k + 1 => diagN r k + g2 r.Give k k
def rightsOkB (r : MRights) : Bool := formB r && (decide (∀ i, i < r.Give.length → 0 ≤ hasZ r i) && numB (diagN r r.Give.length))
def hasOf (r : MRights) (i : Int) : Int := if rightsOkB r = true ∧ 0 ≤ i ∧ i < (r.Give.length : Int) then hasZ r i.toNat else 0
def sumN (r : MRights) : Nat → Int
  | 0 => 0
  | k + 1 => sumN r k + hasOf r (k : Int)
def allOf (r : MRights) : Int := sumN r r.Give.length

theorem all_getD {l : List Int} (h : l.all numB = true) (j : Nat) : 0 ≤ l.getD j 0 ∧ l.getD j 0 ≤ 1125899906842624 := by
  by_cases hj : j < l.length
  · have := List.all_eq_true.1 h l[j] (List.getElem_mem hj)
    rw [List.getD_eq_getElem?_getD, List.getElem?_eq_getElem hj]
    exact numB_true.1 this
  · rw [List.getD_eq_getElem?_getD, List.getElem?_eq_none (by omega)]
    simp
theorem form_parts {r : MRights} (h : formB r = true) : (1 ≤ r.Give.length ∧ r.Give.length ≤ 4) ∧ (r.Spent.length ≤ r.Give.length ∧ r.Give.length ≤ r.Spent.length) ∧ ∀ j, 0 ≤ s1 r.Spent j ∧ s1 r.Spent j ≤ 1125899906842624 := by
  unfold formB at h
  simp only [Bool.and_eq_true, decide_eq_true_eq] at h
  exact ⟨⟨h.1.1, h.1.2.1⟩, by omega, fun j => all_getD h.2.2 j⟩
theorem form_row {r : MRights} (h : formB r = true) {i : Nat} {R : List Int} (hR : r.Give[i]? = some R) : (R.length ≤ r.Give.length ∧ r.Give.length ≤ R.length) ∧ ∀ j, 0 ≤ R.getD j 0 ∧ R.getD j 0 ≤ 1125899906842624 := by
  unfold formB at h
  simp only [Bool.and_eq_true, decide_eq_true_eq] at h
  have h1 := List.all_eq_true.1 h.2.1 R (List.mem_of_getElem? hR)
  simp only [Bool.and_eq_true, decide_eq_true_eq] at h1
  exact ⟨by omega, fun j => all_getD h1.2 j⟩
theorem g2_of {g : List (List Int)} {i : Nat} {R : List Int} (hR : g[i]? = some R) (j : Nat) : g2 g i j = R.getD j 0 := by
  have e : g.getD i [] = R := by rw [List.getD_eq_getElem?_getD, hR]; rfl
  unfold g2
  rw [e]
theorem form_g2 {r : MRights} (h : formB r = true) (i j : Nat) : 0 ≤ g2 r.Give i j ∧ g2 r.Give i j ≤ 1125899906842624 := by
  by_cases hi : i < r.Give.length
  · rw [g2_of (List.getElem?_eq_getElem hi)]
    exact (form_row h (List.getElem?_eq_getElem hi)).2 j
  · have e : r.Give.getD i [] = [] := by rw [List.getD_eq_getElem?_getD, List.getElem?_eq_none (by omega)]; rfl
    unfold g2
    rw [e]
    simp
theorem hasN_range {r : MRights} (h : formB r = true) (i : Nat) : ∀ k : Nat, -(1125899906842624 * ((k : Int) + 1)) ≤ hasN r i k ∧ hasN r i k ≤ 1125899906842624 * ((k : Int) + 1)
  | 0 => by
    have h1 := form_g2 h i i
    have h2 := (form_parts h).2.2 i
    rw [hasN]
    omega
  | k + 1 => by
    have h0 := hasN_range h i k
    have h1 := form_g2 h k i
    have h2 := form_g2 h i k
    rw [hasN]
    split <;> omega
theorem hasZ_range {r : MRights} (h : formB r = true) (i : Nat) : -5629499534213120 ≤ hasZ r i ∧ hasZ r i ≤ 5629499534213120 := by
  have h1 := hasN_range h i r.Give.length
  have h2 := (form_parts h).1
  unfold hasZ
  omega
theorem diagN_range {r : MRights} (h : formB r = true) : ∀ k : Nat, 0 ≤ diagN r k ∧ diagN r k ≤ 1125899906842624 * (k : Int)
  | 0 => by simp [diagN]
  | k + 1 => by
    have h0 := diagN_range h k
    have h1 := form_g2 h k k
    rw [diagN]
    omega
theorem ok_form {r : MRights} (h : rightsOkB r = true) : formB r = true := by
  unfold rightsOkB at h
  simp only [Bool.and_eq_true] at h
  exact h.1
theorem ok_has {r : MRights} (h : rightsOkB r = true) {i : Nat} (hi : i < r.Give.length) : 0 ≤ hasZ r i := by
  unfold rightsOkB at h
  simp only [Bool.and_eq_true, decide_eq_true_eq] at h
  exact h.2.1 i hi
theorem hasOf_range (r : MRights) (i : Int) : 0 ≤ hasOf r i ∧ hasOf r i ≤ 5629499534213120 := by
  unfold hasOf
  split
  · rename_i h
    have h1 := hasZ_range (ok_form h.1) i.toNat
    have h2 := ok_has h.1 (i := i.toNat) (by omega)
    omega
  · omega
theorem sumN_range (r : MRights) : ∀ k : Nat, 0 ≤ sumN r k ∧ sumN r k ≤ 5629499534213120 * (k : Int)
  | 0 => by simp [sumN]
  | k + 1 => by
    have h0 := sumN_range r k
    have h1 := hasOf_range r (k : Int)
    rw [sumN]
    omega
theorem sumN_range2 (r : MRights) (k : Nat) (hk : k ≤ r.Give.length) : 0 ≤ sumN r k ∧ sumN r k ≤ 22517998136852480 := by
  by_cases h : rightsOkB r = true
  · have h1 := (form_parts (ok_form h)).1
    have h2 := sumN_range r k
    omega
  · have h0 : ∀ j : Nat, sumN r j = 0 := fun j => by
      induction j with
      | zero => rfl
      | succ j ih => rw [sumN, ih, hasOf, if_neg (fun c => h c.1)]; rfl
    rw [h0 k]
    omega
/-- a row of the matrix, where it lies -/
theorem row_at {w : World} {B : Nat} {A : Option Addr} {g : List (List Int)} {i : Nat} {R : List Int} (h : RdL numsL 1 w B A g) (hR : g[i]? = some R) :
    ∃ b off Ai ci, A = some ⟨b, off, none⟩ ∧ b < B ∧ w.cell? ⟨b, off + i, none⟩ = some (.slice Ai R.length ci) ∧ R.length ≤ ci ∧ ci ≤ maxLen ∧ Rd .i64 w B Ai R := by
  obtain ⟨b, off, u, rfl, hb, hc, hu⟩ := h.at1 hR
  obtain ⟨Ai, ci, rfl, h1, h2, hr⟩ := el_cell64 hu
  exact ⟨b, off, Ai, ci, rfl, hb, hc, h1, h2, hr⟩
theorem row_some {w : World} {B : Nat} {A : Option Addr} {g : List (List Int)} (h : RdL numsL 1 w B A g) (h0 : 0 < g.length) : ∃ b off, A = some ⟨b, off, none⟩ := by
  obtain ⟨b, off, Ai, ci, rfl, -⟩ := row_at h (List.getElem?_eq_getElem h0)
  exact ⟨b, off, rfl⟩
theorem row_in {w : World} {B b off : Nat} {g : List (List Int)} {i : Nat} {R : List Int} (h : RdL numsL 1 w B (some ⟨b, off, none⟩) g) (hR : g[i]? = some R) :
    ∃ Ai ci, b < B ∧ w.cell? ⟨b, off + i, none⟩ = some (.slice Ai R.length ci) ∧ R.length ≤ ci ∧ ci ≤ maxLen ∧ Rd .i64 w B Ai R := by
  obtain ⟨b', off', Ai, ci, e, hb, hc, h1, h2, hr⟩ := row_at h hR
  simp only [Option.some.injEq, Addr.mk.injEq] at e
  obtain ⟨rfl, rfl, -⟩ := e
  exact ⟨Ai, ci, hb, hc, h1, h2, hr⟩
theorem rd_in {w : World} {B b off : Nat} {l : List Int} (h : Rd .i64 w B (some ⟨b, off, none⟩) l) {j : Nat} (hj : j < l.length) : b < B ∧ w.cell? ⟨b, off + j, none⟩ = some (.int .i64 (l.getD j 0)) := by
  obtain ⟨b', off', e, hb, hc⟩ := h (by omega)
  simp only [Option.some.injEq, Addr.mk.injEq] at e
  obtain ⟨rfl, rfl, -⟩ := e
  exact ⟨hb, hc j hj⟩
theorem rd_at {w : World} {B : Nat} {A : Option Addr} {l : List Int} (h : Rd .i64 w B A l) {j : Nat} (hj : j < l.length) : ∃ b off, A = some ⟨b, off, none⟩ ∧ b < B ∧ w.cell? ⟨b, off + j, none⟩ = some (.int .i64 (l.getD j 0)) := by
  obtain ⟨b, off, rfl, hb, hc⟩ := h (by omega)
  exact ⟨b, off, rfl, hb, hc j hj⟩

end Go.Proofs.Ytmbipgnecjlicaa
