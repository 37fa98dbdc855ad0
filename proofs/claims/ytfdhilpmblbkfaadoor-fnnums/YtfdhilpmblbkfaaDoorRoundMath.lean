/- Plain mathematics: numbers and lists of numbers are recovered from their encodings; a number from its text. No program is named here. -/
import Derived.Test.YtfdhilpmblbkfaaDoorGetsMath
import Derived.Test.YtfdhilpmblbkfaaDoorPutMath
namespace Go.Proofs.YtfdhilpmblbkfaaDoor

theorem gnum_enc (n : Nat) : ∀ (i : Nat) (acc : Int) (ys : List Int), i + (enc n).length ≤ 8 → acc + (n : Int) * p128 i ≤ 1125899906842624 → (0 < n ∨ i = 0) →
    gnum (enc n ++ ys) i acc = some (acc + (n : Int) * p128 i, i + (enc n).length) := by
  induction n using Nat.strongRecOn with
  | ind n ih =>
    intro i acc ys hl hm hz
    by_cases hb : 127 < n
    · rw [enc_big n hb] at hl ⊢
      rw [List.length_cons] at hl
      rw [List.cons_append, gnum, if_pos (by omega), if_neg (by omega)]
      have e1 : ((128 : Int) + ((n % 128 : Nat) : Int)) % 128 = ((n % 128 : Nat) : Int) := by omega
      rw [e1]
      have hp := p128_succ i
      have hn : (n : Int) = 128 * ((n / 128 : Nat) : Int) + ((n % 128 : Nat) : Int) := by omega
      have e2 : acc + ((n % 128 : Nat) : Int) * p128 i + ((n / 128 : Nat) : Int) * p128 (i + 1) = acc + (n : Int) * p128 i := by
        rw [hp, hn]
        have : ((n / 128 : Nat) : Int) * (p128 i * 128) = 128 * ((n / 128 : Nat) : Int) * p128 i := by
          rw [Int.mul_comm (p128 i) 128, ← Int.mul_assoc, Int.mul_comm ((n / 128 : Nat) : Int) 128]
        rw [this, Int.add_mul]; omega
      have := ih (n / 128) (by omega) (i + 1) (acc + ((n % 128 : Nat) : Int) * p128 i) ys (by omega) (by rw [e2]; exact hm) (.inl (by omega))
      rw [this, e2, List.length_cons]
      simp; omega
    · rw [enc_small n hb] at hl ⊢
      simp only [List.length_singleton] at hl ⊢
      rw [List.singleton_append, gnum, if_pos (by omega), if_pos (by omega)]
      have e1 : (n : Int) % 128 = (n : Int) := by omega
      rw [e1, if_neg]
      rintro (h | ⟨h1, h2⟩)
      · omega
      · omega

theorem getNum_enc (xs ys : List Int) (n : Nat) (hn : n ≤ 1125899906842624) : getNum (xs ++ (enc n ++ ys)) (xs.length : Int) = some ((n : Int), (enc n).length) := by
  rw [getNum_at, List.drop_left]
  have hl := enc_len8 n hn
  have := gnum_enc n 0 0 ys (by omega) (by rw [p128_zero]; omega) (.inr rfl)
  rw [p128_zero] at this
  simpa using this

theorem getMany_encs (ns : List Int) : ∀ (xs ys : List Int), ns.all numB = true → getMany (xs ++ (encs ns ++ ys)) ns.length (xs.length : Int) = some (ns, ((xs.length + (encs ns).length : Nat) : Int)) := by
  induction ns with
  | nil => intro xs ys _; simp [getMany, encs]
  | cons n ns ih =>
    intro xs ys ha
    rw [List.all_cons, Bool.and_eq_true] at ha
    have hn := numB_true.1 ha.1
    obtain ⟨N, rfl⟩ : ∃ N : Nat, n = (N : Int) := ⟨n.toNat, by omega⟩
    have e : encs ((N : Int) :: ns) = enc N ++ encs ns := by simp [encs]
    rw [e, List.append_assoc, List.length_cons, getMany, getNum_enc xs (encs ns ++ ys) N (by omega)]
    have := ih (xs ++ enc N) ys ha.2
    rw [List.append_assoc, List.length_append] at this
    dsimp only
    rw [show (xs.length : Int) + ((enc N).length : Int) = ((xs.length + (enc N).length : Nat) : Int) by simp]
    simp only [this]
    simp [Nat.add_assoc]

/-- GetNums reads what PutNums wrote -/
theorem getNums_puts (ns : List Int) (h : ns.all numB = true) (hl : ns.length ≤ 1125899906842624) : getNums (encs ((ns.length : Int) :: ns)) 0 (ns.length : Int) = some (ns, ((encs ((ns.length : Int) :: ns)).length : Int)) := by
  have e : encs ((ns.length : Int) :: ns) = enc ns.length ++ encs ns := by simp [encs]
  have h1 := getNum_enc [] (encs ns) ns.length hl
  rw [List.nil_append, List.length_nil] at h1
  have h2 := getMany_encs ns (enc ns.length) [] h
  rw [List.append_nil] at h2
  unfold getNums
  rw [e]
  simp only [show ((0 : Nat) : Int) = 0 from rfl] at h1
  rw [h1]
  simp only [Int.toNat_natCast, Int.zero_add]
  rw [if_neg (by omega), h2]
  simp

theorem allNum {n : Int} {l : List Int} (h : ∀ x ∈ l, 0 ≤ x ∧ x < n) (hn : n ≤ 1125899906842624) : l.all numB = true := by
  rw [List.all_eq_true]
  intro x hx
  have := h x hx
  exact numB_true.2 (by omega)

end Go.Proofs.YtfdhilpmblbkfaaDoor
