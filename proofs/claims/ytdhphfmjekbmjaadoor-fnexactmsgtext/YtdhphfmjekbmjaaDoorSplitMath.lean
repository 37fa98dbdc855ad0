/- Plain mathematics of Cut and Lines: splitting a string at a byte; runes and bytes. No program is named here. -/
import Derived.Test.YtdhphfmjekbmjaaDoorMem
import Derived.Laws.RangeAny
namespace Go.Proofs.YtdhphfmjekbmjaaDoor

/-- the pieces that end before position k, and where the open piece begins -/
def splitSt (s : ByteArray) (b : Nat) : Nat → List ByteArray × Nat
  | 0 => ([], 0)
  | k + 1 => if (s.get! k).toNat = b then ((splitSt s b k).1 ++ [s.extract (splitSt s b k).2 k], k + 1) else splitSt s b k

/-- all the pieces -/
def splitL (s : ByteArray) (b : Nat) : List ByteArray := (splitSt s b s.size).1 ++ [s.extract (splitSt s b s.size).2 s.size]

theorem splitSt_le (s : ByteArray) (b k : Nat) : (splitSt s b k).2 ≤ k ∧ (splitSt s b k).1.length ≤ k := by
  induction k with
  | zero => simp [splitSt]
  | succ k ih =>
    unfold splitSt
    split
    · simp; omega
    · omega
theorem splitSt_hit {s : ByteArray} {b k : Nat} (h : (s.get! k).toNat = b) : splitSt s b (k + 1) = ((splitSt s b k).1 ++ [s.extract (splitSt s b k).2 k], k + 1) := by
  rw [splitSt, if_pos h]
theorem splitSt_miss {s : ByteArray} {b k : Nat} (h : (s.get! k).toNat ≠ b) : splitSt s b (k + 1) = splitSt s b k := by
  rw [splitSt, if_neg h]
theorem splitSt_skip {s : ByteArray} {b : Nat} (k n : Nat) (h : ∀ j, j < n → (s.get! (k + j)).toNat ≠ b) : splitSt s b (k + n) = splitSt s b k := by
  induction n with
  | zero => rfl
  | succ n ih =>
    rw [← Nat.add_assoc, splitSt_miss (h n (by omega))]
    exact ih fun j hj => h j (by omega)
theorem splitL_len (s : ByteArray) (b : Nat) : (splitL s b).length ≤ s.size + 1 := by
  have := (splitSt_le s b s.size).2
  simp [splitL]; omega
theorem splitL_ne (s : ByteArray) (b : Nat) : splitL s b ≠ [] := by simp [splitL]

theorem get_bang (s : ByteArray) (k : Nat) (h : k < s.size) : s.get! k = s[k]'h := by
  simp [ByteArray.get!, getElem!_pos, h]
  rfl

/-- the bytes of a rune of several bytes are all above ASCII, and lie within the string -/
theorem decode_span (s : ByteArray) (p : Nat) (h : p < s.size) (ha : ¬ (s.get! p).toNat < 128) :
    p + (Utf8.decode s p).2 ≤ s.size ∧ 1 ≤ (Utf8.decode s p).2 ∧ ∀ j, j < (Utf8.decode s p).2 → 128 ≤ (s.get! (p + j)).toNat := by
  have hb : ∀ k, (s.get! (p + k)).toNat < 256 := fun k => (s.get! (p + k)).toNat_lt
  have h0 := hb 0; have h1 := hb 1; have h2 := hb 2; have h3 := hb 3
  simp only [Utf8.decode, Nat.add_zero]
  rw [if_neg ha]
  repeat' split
  all_goals simp_all only [Bool.and_eq_true, beq_iff_eq, decide_eq_true_eq, Nat.add_zero]
  all_goals refine ⟨by omega, by omega, fun j hj => ?_⟩
  all_goals
    have hj4 : j = 0 ∨ j = 1 ∨ j = 2 ∨ j = 3 := by omega
    rcases hj4 with rfl | rfl | rfl | rfl <;> (try simp only [Nat.add_zero]) <;> omega

end Go.Proofs.YtdhphfmjekbmjaaDoor
