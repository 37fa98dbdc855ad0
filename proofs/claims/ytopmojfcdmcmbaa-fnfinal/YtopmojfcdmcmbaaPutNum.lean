/- Contracts of spec.PutNum, impl.appendVarint, impl.appendNums and impl.PutNum. -/
import Derived.Test.YtopmojfcdmcmbaaBytes
import Derived.Test.YtopmojfcdmcmbaaApp
import Derived.Test.YtopmojfcdmcmbaaPutMath
import Derived.Test.YtopmojfcdmcmbaaGetNum
namespace Go.Proofs.Ytopmojfcdmcmbaa
open Go.RowKit
set_option linter.unusedVariables false

/-- a call that returns a new row of bytes and a bool -/
def GivesL (w : World) (l : List Int) (b : Bool) (e : Ending) (w' : World) : Prop :=
  ∃ v, e = .returned (.tuple #[v, .bool b]) ∧ Own .u8 w' w.heap.size 5 v l ∧ Below w.heap.size w w'

/-- PutNum's bytes -/
def putL (zs : List Int) (n : Int) : List Int := if numB n = true then zs ++ enc n.toNat else []

theorem enc_pre {n m : Nat} {p : List Int} (h : p ++ enc m = enc n) (hn : n ≤ 1125899906842624) : p.length ≤ 8 := by
  have h1 := enc_len8 n hn
  have h2 := congrArg List.length h
  rw [List.length_append] at h2
  omega

theorem enc_go {n m : Nat} {p : List Int} (h : p ++ enc m = enc n) (hm : 127 < m) : (p ++ [(128 : Int) + (m : Int) % 128]) ++ enc (m / 128) = enc n := by
  rw [← h, enc_big m hm, List.append_assoc]
  simp

set_option maxHeartbeats 400000 in
theorem sNum_any (n : Int) (w : World) : Calls Try.prog 57 #[.int .i64 n] w fun e w' => e = .returned (.bool (numB n)) ∧ w = w' := by
  by_cases h0 : 0 ≤ n
  · by_cases h1 : n ≤ 1125899906842624
    · rw [numB_true.2 ⟨h0, h1⟩]
      go_enter Try.func57, Try.ntmps57
      go_wp2
      go_ret
      exact ⟨rfl, rfl⟩
    · rw [numB_false.2 (by omega)]
      have i1 : decide (n ≤ 1125899906842624) = false := by simp; omega
      go_enter Try.func57, Try.ntmps57
      go_wp2
      go_ret
      exact ⟨rfl, rfl⟩
  · rw [numB_false.2 (by omega)]
    have i1 : decide (0 ≤ n) = false := by simp; omega
    go_enter Try.func57, Try.ntmps57
    go_wp2
    go_ret
    exact ⟨rfl, rfl⟩

set_option maxHeartbeats 400000 in
theorem iNum_any (n : Int) (w : World) : Calls Try.prog 41 #[.int .i64 n] w fun e w' => e = .returned (.bool (numB n)) ∧ w = w' := by
  by_cases h0 : 0 ≤ n
  · by_cases h1 : n ≤ 1125899906842624
    · rw [numB_true.2 ⟨h0, h1⟩]
      go_enter Try.func41, Try.ntmps41
      go_wp2
      go_ret
      exact ⟨rfl, rfl⟩
    · rw [numB_false.2 (by omega)]
      have i1 : decide (n ≤ 1125899906842624) = false := by simp; omega
      go_enter Try.func41, Try.ntmps41
      go_wp2
      go_ret
      exact ⟨rfl, rfl⟩
  · rw [numB_false.2 (by omega)]
    have i1 : decide (0 ≤ n) = false := by simp; omega
    go_enter Try.func41, Try.ntmps41
    go_wp2
    go_ret
    exact ⟨rfl, rfl⟩

/-- a call that appends to a row of the caller's own -/
def Grows (base : Nat) (w : World) (l : List Int) (e : Ending) (w' : World) : Prop :=
  ∃ v, e = .returned v ∧ Own .u8 w' base 5 v l ∧ Below base w w'

theorem rd_one64 (w : World) (t : TypeId) (x : Int) : Rd .i64 (w.alloc (.cells #[.int .i64 x] t)) (w.alloc (.cells #[.int .i64 x] t)).heap.size (some ⟨w.heap.size, 0, none⟩) [x] :=
  (rd_one .i64 w t x).more (by simp)

end Go.Proofs.Ytopmojfcdmcmbaa
