/- Plain mathematics of PutNum: the bytes of a number. No program is named here. -/
import Derived.Test.YtopmojfcdmcmbaaNumMath
import Derived.Test.YtopmojfcdmcmbaaBits
namespace Go.Proofs.Ytopmojfcdmcmbaa

/-- is n a number of the document -/
def numB (n : Int) : Bool := decide (0 ≤ n) && decide (n ≤ 1125899906842624)
theorem numB_true {n : Int} : numB n = true ↔ 0 ≤ n ∧ n ≤ 1125899906842624 := by simp [numB]
theorem numB_false {n : Int} : numB n = false ↔ ¬ (0 ≤ n ∧ n ≤ 1125899906842624) := by rw [← numB_true]; simp

/-- the varint of n -/
def enc (n : Nat) : List Int := if h : 127 < n then (128 + (n % 128 : Nat) : Int) :: enc (n / 128) else [(n : Int)]
termination_by n
decreasing_by omega

theorem enc_big (n : Nat) (h : 127 < n) : enc n = (128 + (n % 128 : Nat) : Int) :: enc (n / 128) := by rw [enc, dif_pos h]
theorem enc_small (n : Nat) (h : ¬ 127 < n) : enc n = [(n : Int)] := by rw [enc, dif_neg h]

theorem enc_len (k n : Nat) (h : n < 128 ^ (k + 1)) : (enc n).length ≤ k + 1 := by
  induction k generalizing n with
  | zero => rw [enc_small n (by omega)]; simp
  | succ k ih =>
    by_cases hb : 127 < n
    · rw [enc_big n hb, List.length_cons]
      have : n / 128 < 128 ^ (k + 1) := by rw [Nat.div_lt_iff_lt_mul (by omega)]; rw [Nat.pow_succ] at h; exact h
      have := ih _ this
      omega
    · rw [enc_small n hb]; simp

theorem enc_len8 (n : Nat) (h : n ≤ 1125899906842624) : (enc n).length ≤ 8 := enc_len 7 n (by omega)

theorem enc_bytes (n : Nat) : ∀ x ∈ enc n, 0 ≤ x ∧ x ≤ 255 := by
  induction n using Nat.strongRecOn with
  | ind n ih =>
    by_cases hb : 127 < n
    · rw [enc_big n hb]
      intro x hx
      rcases List.mem_cons.1 hx with rfl | hx
      · omega
      · exact ih _ (by omega) x hx
    · rw [enc_small n hb]
      intro x hx
      simp at hx
      omega

theorem and127_i64 (n : Int) (h0 : 0 ≤ n) (h1 : n ≤ 9223372036854775807) : bits .and .i64 n 127 = n % 128 := by
  obtain ⟨a, rfl⟩ : ∃ a : Nat, n = (a : Int) := ⟨n.toNat, by omega⟩
  have hx : a &&& 127 < 2 ^ 63 := Nat.and_lt_two_pow _ (by omega)
  show IntKind.i64.wrap ((BitVec.ofInt 64 (a : Int) &&& BitVec.ofInt 64 127).toNat : Int) = _
  rw [BitVec.toNat_and, ofInt_nat 64 a (by omega), show (127 : Int) = ((127 : Nat) : Int) from rfl, ofInt_nat 64 127 (by omega), IntKind.wrap_i64, show (127 : Nat) = 2 ^ 7 - 1 from rfl, Nat.and_two_pow_sub_one_eq_mod]
  omega

theorem or128_i64 (y : Int) (h0 : 0 ≤ y) (h1 : y ≤ 127) : bits .or .i64 y 128 = 128 + y := by
  have := or_shift y 1 1 (by omega) h0 (by omega) (by omega) (by omega)
  simpa [Int.add_comm] using this

/-- the varints of a list of numbers, one behind the other -/
def encs (ns : List Int) : List Int := (ns.map fun n => enc n.toNat).flatten

theorem encs_nil : encs [] = [] := rfl
theorem encs_take (ns : List Int) (k : Nat) (h : k < ns.length) : encs (ns.take (k + 1)) = encs (ns.take k) ++ enc (ns.getD k 0).toNat := by
  unfold encs
  rw [List.take_succ_eq_append_getElem h, List.map_append, List.flatten_append]
  simp [h]
theorem all_take (ns : List Int) (k : Nat) (h : k < ns.length) (ha : (ns.take k).all numB = true) (hk : numB (ns.getD k 0) = true) : (ns.take (k + 1)).all numB = true := by
  rw [List.take_succ_eq_append_getElem h, List.all_append, ha]
  simp [h] at hk
  simp [hk]
theorem not_all (ns : List Int) (k : Nat) (h : k < ns.length) (hk : numB (ns.getD k 0) = false) : ns.all numB = false := by
  rw [Bool.eq_false_iff]
  intro ha
  have := List.all_eq_true.1 ha ns[k] (List.getElem_mem h)
  simp [h] at hk
  rw [hk] at this
  cases this
theorem encs_len (ns : List Int) (h : ns.all numB = true) : (encs ns).length ≤ 8 * ns.length := by
  induction ns with
  | nil => simp [encs]
  | cons n ns ih =>
    rw [List.all_cons, Bool.and_eq_true] at h
    have h1 := ih h.2
    have h2 := numB_true.1 h.1
    have h3 := enc_len8 n.toNat (by omega)
    unfold encs at h1 ⊢
    rw [List.map_cons, List.flatten_cons, List.length_append, List.length_cons]
    omega

/-- PutNum's and PutNums' bytes behind zs -/
def putsL (zs ns : List Int) : List Int := if ns.all numB = true then zs ++ encs ns else []

end Go.Proofs.Ytopmojfcdmcmbaa
