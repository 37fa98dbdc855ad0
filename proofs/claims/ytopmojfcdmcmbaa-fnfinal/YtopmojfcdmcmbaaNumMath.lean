/- Plain mathematics of the varint: what the document's GetNum and PutNum compute, on lists of integers. No program is named here. -/
import Derived.Test.YtopmojfcdmcmbaaMem
namespace Go.Proofs.Ytopmojfcdmcmbaa

/-- 128 to the power j, kept closed -/
def p128 (j : Nat) : Int := 128 ^ j
theorem p128_zero : p128 0 = 1 := rfl
theorem p128_succ (j : Nat) : p128 (j + 1) = p128 j * 128 := by unfold p128; rw [Int.pow_succ]
theorem p128_pos (j : Nat) : 0 < p128 j := by
  induction j with
  | zero => decide
  | succ j ih => rw [p128_succ]; omega
theorem p128_le (j : Nat) (h : j ≤ 8) : p128 j ≤ 72057594037927936 := by
  have : j = 0 ∨ j = 1 ∨ j = 2 ∨ j = 3 ∨ j = 4 ∨ j = 5 ∨ j = 6 ∨ j = 7 ∨ j = 8 := by omega
  rcases this with rfl | rfl | rfl | rfl | rfl | rfl | rfl | rfl | rfl <;> decide
theorem p128_le7 (j : Nat) (h : j ≤ 7) : p128 j ≤ 562949953421312 := by
  have : j = 0 ∨ j = 1 ∨ j = 2 ∨ j = 3 ∨ j = 4 ∨ j = 5 ∨ j = 6 ∨ j = 7 := by omega
  rcases this with rfl | rfl | rfl | rfl | rfl | rfl | rfl | rfl <;> decide

/-- the number at the head of l, i groups of which, of value n, have been read: the number, and how many groups it has -/
def gnum : List Int → Nat → Int → Option (Int × Nat)
  | [], _, _ => none
  | x :: r, i, n =>
    if i < 8 then
      if x < 128 then (if n + x % 128 * p128 i > 1125899906842624 ∨ (x = 0 ∧ 0 < i) then none else some (n + x % 128 * p128 i, i + 1))
      else gnum r (i + 1) (n + x % 128 * p128 i)
    else none

/-- what GetNum answers -/
def getNum (zs : List Int) (at_ : Int) : Option (Int × Nat) := if at_ < 0 then none else gnum (zs.drop at_.toNat) 0 0

/-- GetNum's three results, as a value -/
def getVal (zs : List Int) (at_ : Int) : Value :=
  match getNum zs at_ with
  | some (n, c) => .tuple #[.int .i64 n, .int .i64 (at_ + c), .bool true]
  | none => .tuple #[.int .i64 0, .int .i64 0, .bool false]

theorem getVal_none {zs : List Int} {at_ : Int} (h : getNum zs at_ = none) : getVal zs at_ = .tuple #[.int .i64 0, .int .i64 0, .bool false] := by
  unfold getVal; rw [h]
theorem getVal_some {zs : List Int} {at_ n : Int} {c : Nat} (h : getNum zs at_ = some (n, c)) : getVal zs at_ = .tuple #[.int .i64 n, .int .i64 (at_ + c), .bool true] := by
  unfold getVal; rw [h]

theorem getNum_at (zs : List Int) (t : Nat) : getNum zs (t : Int) = gnum (zs.drop t) 0 0 := by
  unfold getNum; rw [if_neg (by omega)]; simp

theorem drop_at (zs : List Int) (k : Nat) (h : k < zs.length) : zs.drop k = zs.getD k 0 :: zs.drop (k + 1) := by
  rw [List.drop_eq_getElem_cons h]; simp [h]

/-- the state of a reading: j groups are read, their value is n, what is left decides -/
structure Getting (zs : List Int) (t j : Nat) (n : Int) : Prop where
  j8 : j ≤ 8
  lo : 0 ≤ n
  hi : n < p128 j
  eq : gnum (zs.drop t) 0 0 = gnum (zs.drop (t + j)) j n

theorem Getting.start (zs : List Int) (t : Nat) : Getting zs t 0 0 := ⟨by omega, by omega, by decide, rfl⟩

section
variable {zs : List Int} {t j : Nat} {n : Int} (h : Getting zs t j n)
include h

theorem Getting.stop (hs : ¬ (j < 8 ∧ t + j < zs.length)) : getNum zs (t : Int) = none := by
  rw [getNum_at, h.eq]
  by_cases h8 : j < 8
  · have : zs.drop (t + j) = [] := List.drop_eq_nil_of_le (by omega)
    rw [this]; rfl
  · rcases hl : zs.drop (t + j) with _ | ⟨x, r⟩
    · rfl
    · unfold gnum; rw [if_neg h8]

theorem Getting.step {x : Int} (h8 : j < 8) (hl : t + j < zs.length) (hx : x = zs.getD (t + j) 0) :
    gnum (zs.drop t) 0 0 = (if x < 128 then (if n + x % 128 * p128 j > 1125899906842624 ∨ (x = 0 ∧ 0 < j) then none else some (n + x % 128 * p128 j, j + 1))
      else gnum (zs.drop (t + (j + 1))) (j + 1) (n + x % 128 * p128 j)) := by
  rw [h.eq, drop_at zs (t + j) hl, ← hx]
  conv => lhs; unfold gnum
  rw [if_pos h8]
  rfl

theorem Getting.bad {x : Int} (h8 : j < 8) (hl : t + j < zs.length) (hx : x = zs.getD (t + j) 0) (hlt : x < 128) (hb : n + x % 128 * p128 j > 1125899906842624 ∨ (x = 0 ∧ 0 < j)) : getNum zs (t : Int) = none := by
  rw [getNum_at, h.step h8 hl hx, if_pos hlt, if_pos hb]

theorem Getting.good {x : Int} (h8 : j < 8) (hl : t + j < zs.length) (hx : x = zs.getD (t + j) 0) (hlt : x < 128) (hb : ¬ (n + x % 128 * p128 j > 1125899906842624 ∨ (x = 0 ∧ 0 < j))) :
    getNum zs (t : Int) = some (n + x % 128 * p128 j, j + 1) := by
  rw [getNum_at, h.step h8 hl hx, if_pos hlt, if_neg hb]

theorem Getting.prod {x : Int} : 0 ≤ x % 128 * p128 j ∧ n + x % 128 * p128 j < p128 (j + 1) := by
  have h0 : 0 ≤ x % 128 := Int.emod_nonneg _ (by omega)
  have h1 : x % 128 ≤ 127 := by have := Int.emod_lt_of_pos x (show (0 : Int) < 128 by omega); omega
  have hp := p128_pos j
  have hm : x % 128 * p128 j ≤ 127 * p128 j := Int.mul_le_mul_of_nonneg_right h1 (by omega)
  have h2 : 0 ≤ x % 128 * p128 j := Int.mul_nonneg h0 (by omega)
  have := h.hi
  rw [p128_succ]
  omega

theorem Getting.more {x : Int} (h8 : j < 8) (hl : t + j < zs.length) (hx : x = zs.getD (t + j) 0) (hge : ¬ x < 128) : Getting zs t (j + 1) (n + x % 128 * p128 j) := by
  have hp := h.prod (x := x)
  exact ⟨by omega, by have := h.lo; omega, hp.2, by rw [h.step h8 hl hx, if_neg hge]⟩

end

end Go.Proofs.Ytopmojfcdmcmbaa
