/- Rights: how great the results are. -/
import Derived.Test.YtmbipgnecjlicaaRt9
namespace Go.Proofs.Ytmbipgnecjlicaa
open Go.RowKit
set_option linter.unusedVariables false

theorem bulkS_bound {m : Nat} : ∀ {l : List (List Int)}, (∀ x ∈ l, x.length ≤ m) → bulkS l ≤ l.length * m
  | [], _ => by simp [bulkS]
  | x :: l, h => by
    have h1 := h x (by simp)
    have h2 := bulkS_bound (l := l) (fun y hy => h y (by simp [hy]))
    rw [bulkS_cons, List.length_cons, Nat.succ_mul]
    omega
theorem form_bulk {r : MRights} (h : formB r = true) : r.bulk ≤ 24 := by
  obtain ⟨p1, p2, -⟩ := form_parts h
  have h1 : bulkS r.Give ≤ r.Give.length * 4 := bulkS_bound fun x hx => by
    obtain ⟨i, hi⟩ := List.getElem?_of_mem hx
    have := (form_row h hi).1
    omega
  unfold MRights.bulk sizeSS
  omega
theorem ok_bulk {r : MRights} (h : rightsOkB r = true) : r.bulk ≤ 24 := form_bulk (ok_form h)
theorem rZ_bulk : rZ.bulk ≤ 24 := by decide
theorem mintM_bulk (r : MRights) (i a : Int) : (mintM r i a).bulk ≤ 24 := by
  unfold mintM
  split
  · rename_i h
    unfold mintB at h
    simp only [Bool.and_eq_true] at h
    exact ok_bulk h.2
  · exact rZ_bulk
theorem spendM_bulk (r : MRights) (i a : Int) : (spendM r i a).bulk ≤ 24 := by
  unfold spendM
  split
  · rename_i h
    unfold spendB at h
    simp only [Bool.and_eq_true] at h
    exact ok_bulk h.2
  · exact rZ_bulk
theorem handM_bulk (r : MRights) (i j a : Int) : (handM r i j a).bulk ≤ 24 := by
  unfold handM
  split
  · rename_i h
    unfold handB at h
    simp only [Bool.and_eq_true] at h
    exact ok_bulk h.2
  · exact rZ_bulk
theorem meetM_bulk (r q : MRights) : (meetM r q).bulk ≤ 24 := by
  unfold meetM
  split
  · rename_i h
    unfold meetB at h
    simp only [Bool.and_eq_true] at h
    exact ok_bulk h.2
  · exact rZ_bulk
theorem rightsNew_bulk (n : Int) : (rightsNew n).bulk ≤ 24 := by
  unfold rightsNew
  split
  · rename_i h
    have h1 := inB_true.1 h
    have h2 : bulkS (List.replicate n.toNat (List.replicate n.toNat (0 : Int))) ≤ n.toNat * 4 := by
      have := bulkS_bound (m := 4) (l := List.replicate n.toNat (List.replicate n.toNat (0 : Int))) (fun x hx => by rw [List.eq_of_mem_replicate hx]; simp; omega)
      simpa using this
    unfold MRights.bulk sizeSS
    simp only [List.length_replicate]
    omega
  · exact rZ_bulk

end Go.Proofs.Ytmbipgnecjlicaa
