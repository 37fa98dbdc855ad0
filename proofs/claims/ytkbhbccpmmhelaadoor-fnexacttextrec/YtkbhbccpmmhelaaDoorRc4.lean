/- Records: the contract of spec.BytesRec. Laid by a program of ours (src/rc4.py). -/
import Derived.Test.YtkbhbccpmmhelaaDoorBunR
import Derived.Test.YtkbhbccpmmhelaaDoorBunB
namespace Go.Proofs.YtkbhbccpmmhelaaDoor
open Go.RowKit
set_option linter.unusedVariables false

/-- a record read: the record, has reading failed -/
def recRd (zs : List Int) : MRec × Bool :=
  let a := rdNum zs 0 false
  let b := rdNum zs a.2.1 a.2.2
  let c := rdNum zs b.2.1 b.2.2
  let d := rdNum zs c.2.1 c.2.2
  let e := rdNum zs d.2.1 d.2.2
  if a.1 = 5 then (⟨a.1, b.1, c.1, d.1, e.1, (rdMsg zs e.2.1 e.2.2).1⟩, (rdMsg zs e.2.1 e.2.2).2.2) else (⟨a.1, b.1, c.1, d.1, e.1, ⟨0, 0, 0, 0⟩⟩, e.2.2)
/-- what BytesRec answers -/
def bytesRecB (zs : List Int) : Bool := !(recRd zs).2 && (recOkB (recRd zs).1 && decide (recBytes (recRd zs).1 = zs))
def bytesRec (zs : List Int) : MRec := if bytesRecB zs = true then (recRd zs).1 else recZ

theorem bytes_of_all {zs : List Int} (h : ∀ x ∈ zs, 0 ≤ x ∧ x ≤ 255) : Bytes zs := by
  intro j
  by_cases hj : j < zs.length
  · rw [show zs.getD j 0 = zs[j] by simp [hj]]
    exact h _ (List.getElem_mem hj)
  · rw [show zs.getD j 0 = 0 by simp; rw [List.getElem?_eq_none (by omega)]; rfl]
    omega
theorem encs_all (ns : List Int) : ∀ x ∈ encs ns, 0 ≤ x ∧ x ≤ 255 := by
  intro x hx
  unfold encs at hx
  rw [List.mem_flatten] at hx
  obtain ⟨l, hl, hx⟩ := hx
  rw [List.mem_map] at hl
  obtain ⟨n, -, rfl⟩ := hl
  exact enc_bytes _ _ hx
theorem recBytes_bytes (r : MRec) : Bytes (recBytes r) := by
  apply bytes_of_all
  intro x hx
  unfold recBytes at hx
  split at hx
  · split at hx
    · rcases List.mem_append.1 hx with h | h
      · exact encs_all _ _ h
      · exact encs_all _ _ h
    · exact encs_all _ _ hx
  · cases hx

end Go.Proofs.YtkbhbccpmmhelaaDoor
