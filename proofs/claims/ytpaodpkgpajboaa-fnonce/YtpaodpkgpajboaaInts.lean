/- Contracts of the laws' own helpers on slices of integers: toIntS, eqIntS, markIntS, heldIntS. -/
import Derived.Test.YtpaodpkgpajboaaProg
import Derived.Test.YtpaodpkgpajboaaBytes
import Derived.Deep.QuietTactic
import Derived.BigQuiet
namespace Go.Proofs.Ytpaodpkgpajboaa
open Go.RowKit

theorem Try.info_i64 : (Try.prog.info? 3).map (fun i => (i.zero, i.size, i.bytes)) = some (some (.int .i64 0), 1, 8) := by kernel_rfl

/-- the numbers that a marking from k on lays into n places -/
def marks64 (k : Int) (n : Nat) : List Int := (List.range n).map fun i : Nat => (k + (i : Int))

theorem marks64_len (k : Int) (n : Nat) : (marks64 k n).length = n := by simp [marks64]
theorem marks64_getD (k : Int) (n j : Nat) (h : j < n) : (marks64 k n).getD j 0 = (k + (j : Int)) := by simp [marks64, h]

theorem mark64_step (zs : List Int) (k0 : Int) (k : Nat) (h : k < zs.length) :
    (marks64 k0 k ++ zs.drop k).set k (k0 + (k : Int)) = marks64 k0 (k + 1) ++ zs.drop (k + 1) := by
  have e1 := marks64_len k0 k
  rw [List.set_append, if_neg (by omega), e1, Nat.sub_self, List.drop_eq_getElem_cons h, List.set_cons_zero]
  simp [marks64, List.range_succ]

/-- what a marking call leaves: the row holds the marks, no other block has turned -/
def Marked64 (w : World) (base : Nat) (v : Value) (k : Int) (zs : List Int) (e : Ending) (w' : World) : Prop :=
  e = .returned (.int .i64 (k + (zs.length : Int))) ∧ Own .i64 w' base 3 v (marks64 k zs.length) ∧ w.grownBy w' v.ownBlock

end Go.Proofs.Ytpaodpkgpajboaa
