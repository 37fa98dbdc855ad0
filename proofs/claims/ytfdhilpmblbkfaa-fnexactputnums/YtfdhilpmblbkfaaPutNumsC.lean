/- PutNums' contracts in the uniform words. -/
import Derived.Test.YtfdhilpmblbkfaaPutNums
import Derived.Test.YtfdhilpmblbkfaaLawInts
namespace Go.Proofs.Ytfdhilpmblbkfaa
open Go.RowKit

/-- a call that answers a new row of bytes and a bool -/
def NewB (w : World) (l : List Int) (b : Bool) (e : Ending) (w' : World) : Prop :=
  ∃ v, e = .returned (.tuple #[v, .bool b]) ∧ OS .u8 5 w' w.heap.size w'.heap.size v l ∧ Below w.heap.size w w'

theorem GivesL.newB {w : World} {l : List Int} {b : Bool} {e : Ending} {w' : World} (h : GivesL w l b e w') : NewB w l b e w' := by
  obtain ⟨v, he, ho, hb⟩ := h
  exact ⟨v, he, OS.mk_ ho, hb⟩

theorem sPutNums_c {w : World} {v v' : Value} {zs ns : List Int} (h : RS .u8 w v zs) (h' : RS .i64 w v' ns) (hm : zs.length ≤ 16777216) (hm' : ns.length ≤ 16777216) :
    Calls Try.prog 20 #[v, v'] w (NewB w (putsL zs ((ns.length : Int) :: ns)) (((ns.length : Int) :: ns).all numB)) := by
  obtain ⟨A, c, rfl, _, _, hr⟩ := h
  obtain ⟨A', c', rfl, _, _, hr'⟩ := h'
  exact (sPutNums_any A A' c c' zs ns w hr hr' hm hm').mono fun _ _ => GivesL.newB

theorem iPutNums_c {w : World} {v v' : Value} {zs ns : List Int} (h : RS .u8 w v zs) (h' : RS .i64 w v' ns) (hm : zs.length ≤ 16777216) (hm' : ns.length ≤ 16777216) :
    Calls Try.prog 22 #[v, v'] w (NewB w (putsL zs ((ns.length : Int) :: ns)) (((ns.length : Int) :: ns).all numB)) := by
  obtain ⟨A, c, rfl, _, _, hr⟩ := h
  obtain ⟨A', c', rfl, _, _, hr'⟩ := h'
  exact (iPutNums_any A A' c c' zs ns w hr hr' hm hm').mono fun _ _ => GivesL.newB

theorem putsL_len (zs ns : List Int) (h : zs.length ≤ 1048576) (h' : ns.length ≤ 1048576) : (putsL zs ((ns.length : Int) :: ns)).length ≤ 16777216 := by
  unfold putsL
  split
  · rename_i hb
    have := encs_len _ hb
    rw [List.length_append]
    simp only [List.length_cons] at this
    omega
  · simp
end Go.Proofs.Ytfdhilpmblbkfaa
