/- Plain mathematics of GetNums. No program is named here. -/
import Derived.Test.YtdhphfmjekbmjaaNumMath
namespace Go.Proofs.Ytdhphfmjekbmjaa

/-- so many numbers from position p on, and the position behind them -/
def getMany (zs : List Int) : Nat → Int → Option (List Int × Int)
  | 0, p => some ([], p)
  | k + 1, p =>
    match getNum zs p with
    | none => none
    | some (n, c) => (getMany zs k (p + c)).map fun r => (n :: r.1, r.2)

/-- what GetNums answers -/
def getNums (zs : List Int) (at_ most : Int) : Option (List Int × Int) :=
  match getNum zs at_ with
  | none => none
  | some (n, c) => if n > most then none else getMany zs n.toNat (at_ + c)

theorem gnum_some {l : List Int} {i : Nat} {n m : Int} {c : Nat} (h : gnum l i n = some (m, c)) (hn : 0 ≤ n) : i + 1 ≤ c ∧ c ≤ i + l.length ∧ 0 ≤ m ∧ m ≤ 1125899906842624 := by
  induction l generalizing i n with
  | nil => simp [gnum] at h
  | cons x l ih =>
    unfold gnum at h
    have hp : 0 ≤ x % 128 * p128 i := Int.mul_nonneg (Int.emod_nonneg _ (by omega)) (by have := p128_pos i; omega)
    split at h
    · split at h
      · split at h
        · cases h
        · simp only [Option.some.injEq, Prod.mk.injEq] at h
          simp only [List.length_cons]
          omega
      · have := ih h (by omega)
        simp only [List.length_cons]
        omega
    · cases h

theorem getNum_some {zs : List Int} {p n : Int} {c : Nat} (h : getNum zs p = some (n, c)) : 0 ≤ p ∧ 1 ≤ c ∧ p + c ≤ zs.length ∧ 0 ≤ n ∧ n ≤ 1125899906842624 := by
  unfold getNum at h
  split at h
  · cases h
  · have h1 := gnum_some h (by omega)
    rw [List.length_drop] at h1
    omega

/-- the state of a reading of total numbers from p0 on: l is read, the next one lies at p -/
structure Gets (zs : List Int) (total : Nat) (p0 : Int) (l : List Int) (p : Int) : Prop where
  le : l.length ≤ total
  lo : 0 ≤ p
  few : (l.length : Int) ≤ p
  hi : p ≤ zs.length
  eq : getMany zs total p0 = (getMany zs (total - l.length) p).map fun r => (l ++ r.1, r.2)

theorem Gets.start {zs : List Int} {total : Nat} {p0 : Int} (h0 : 0 ≤ p0) (h1 : p0 ≤ zs.length) : Gets zs total p0 [] p0 := by
  refine ⟨by simp, h0, by simpa using h0, h1, ?_⟩
  simp

section
variable {zs : List Int} {total : Nat} {p0 p : Int} {l : List Int} (h : Gets zs total p0 l p)
include h

theorem Gets.done (hl : l.length = total) : getMany zs total p0 = some (l, p) := by
  rw [h.eq, hl, Nat.sub_self]
  simp [getMany]

theorem Gets.fails (hl : l.length < total) (hn : getNum zs p = none) : getMany zs total p0 = none := by
  obtain ⟨m, hm⟩ : ∃ m, total - l.length = m + 1 := ⟨total - l.length - 1, by omega⟩
  rw [h.eq, hm]
  simp [getMany, hn]

theorem Gets.next {n : Int} {c : Nat} (hl : l.length < total) (hn : getNum zs p = some (n, c)) : Gets zs total p0 (l ++ [n]) (p + c) := by
  have hs := getNum_some hn
  have h3 := h.few
  refine ⟨by simp; omega, by omega, by simp; omega, by omega, ?_⟩
  obtain ⟨m, hm⟩ : ∃ m, total - l.length = m + 1 := ⟨total - l.length - 1, by omega⟩
  have hm2 : total - (l ++ [n]).length = m := by simp; omega
  rw [h.eq, hm, hm2]
  simp only [getMany, hn, Option.map_map]
  congr 1
  funext r
  simp
end

end Go.Proofs.Ytdhphfmjekbmjaa
