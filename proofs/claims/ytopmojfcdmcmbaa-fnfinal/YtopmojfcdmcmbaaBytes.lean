/- Contracts of the laws' own helpers on slices of bytes: toByteS, eqByteS, markByteS, heldByteS. -/
import Derived.Test.YtopmojfcdmcmbaaProg
import Derived.Test.YtopmojfcdmcmbaaMem
import Derived.Deep.QuietTactic
import Derived.BigQuiet
namespace Go.Proofs.Ytopmojfcdmcmbaa
open Go.RowKit

theorem Try.info_u8 : (Try.prog.info? 5).map (fun i => (i.zero, i.size, i.bytes)) = some (some (.int .u8 0), 1, 1) := by kernel_rfl

/-- what a reading call that answers a bool leaves: draws at most -/
def SaysB (w : World) (b : Bool) (e : Ending) (w' : World) : Prop := e = .returned (.bool b) ∧ ∃ n, w' = w.drewN n

theorem ne_of_getD {xs ys : List Int} {k : Nat} (h : xs.getD k 0 ≠ ys.getD k 0) : xs ≠ ys := fun e => h (by rw [e])
theorem take_succ_eq {xs ys : List Int} {k : Nat} (h : xs.take k = ys.take k) (hx : k < xs.length) (hy : k < ys.length) (hk : xs.getD k 0 = ys.getD k 0) : xs.take (k + 1) = ys.take (k + 1) := by
  rw [List.take_succ_eq_append_getElem hx, List.take_succ_eq_append_getElem hy, h]
  simp [hx, hy] at hk
  rw [hk]

theorem below_of_drew (B : Nat) (w : World) (n : Nat) : Below B w (w.drewN n) := bdrew (Below.refl B w) n

/-- the bytes that a marking from k on lays into n places -/
def marks (k : Int) (n : Nat) : List Int := (List.range n).map fun i : Nat => (k + (i : Int)) % 256

theorem marks_len (k : Int) (n : Nat) : (marks k n).length = n := by simp [marks]
theorem marks_getD (k : Int) (n j : Nat) (h : j < n) : (marks k n).getD j 0 = (k + (j : Int)) % 256 := by simp [marks, h]

theorem mark_step (zs : List Int) (k0 : Int) (k : Nat) (h : k < zs.length) :
    (marks k0 k ++ zs.drop k).set k ((k0 + (k : Int)) % 256) = marks k0 (k + 1) ++ zs.drop (k + 1) := by
  have e1 := marks_len k0 k
  rw [List.set_append, if_neg (by omega), e1, Nat.sub_self, List.drop_eq_getElem_cons h, List.set_cons_zero]
  simp [marks, List.range_succ]

/-- what a marking call leaves: the row holds the marks, no other block has turned -/
def Marked (w : World) (base : Nat) (v : Value) (k : Int) (zs : List Int) (e : Ending) (w' : World) : Prop :=
  e = .returned (.int .i64 (k + (zs.length : Int))) ∧ Own .u8 w' base 5 v (marks k zs.length) ∧ w.grownBy w' v.ownBlock

end Go.Proofs.Ytopmojfcdmcmbaa
