/- The bit operations on integers that are not negative, as Nat's. No program is named here. -/
import Derived.Test.YtopmojfcdmcmbaaMem
namespace Go.Proofs.Ytopmojfcdmcmbaa

theorem ofInt_nat (n a : Nat) (h : a < 2 ^ n) : (BitVec.ofInt n (a : Int)).toNat = a := by
  rw [BitVec.ofInt_natCast, BitVec.toNat_ofNat]; exact Nat.mod_eq_of_lt h

theorem bits_and_u8 (a b : Nat) (ha : a < 256) (hb : b < 256) : bits .and .u8 (a : Int) (b : Int) = ((a &&& b : Nat) : Int) := by
  have hx : a &&& b < 2 ^ 8 := Nat.and_lt_two_pow _ (by omega)
  show IntKind.u8.wrap ((BitVec.ofInt 8 (a : Int) &&& BitVec.ofInt 8 (b : Int)).toNat : Int) = _
  rw [BitVec.toNat_and, ofInt_nat 8 a ha, ofInt_nat 8 b hb, IntKind.wrap_u8]
  omega

theorem bits_or_i64 (a b : Nat) (ha : a < 9223372036854775808) (hb : b < 9223372036854775808) : bits .or .i64 (a : Int) (b : Int) = ((a ||| b : Nat) : Int) := by
  have hx : a ||| b < 2 ^ 63 := Nat.or_lt_two_pow (by omega) (by omega)
  show IntKind.i64.wrap ((BitVec.ofInt 64 (a : Int) ||| BitVec.ofInt 64 (b : Int)).toNat : Int) = _
  rw [BitVec.toNat_or, ofInt_nat 64 a (by omega), ofInt_nat 64 b (by omega), IntKind.wrap_i64]
  omega

theorem bits_xor_i64 (a b : Nat) (ha : a < 9223372036854775808) (hb : b < 9223372036854775808) : bits .xor .i64 (a : Int) (b : Int) = ((a ^^^ b : Nat) : Int) := by
  have hx : a ^^^ b < 2 ^ 63 := Nat.xor_lt_two_pow (by omega) (by omega)
  show IntKind.i64.wrap ((BitVec.ofInt 64 (a : Int) ^^^ BitVec.ofInt 64 (b : Int)).toNat : Int) = _
  rw [BitVec.toNat_xor, ofInt_nat 64 a (by omega), ofInt_nat 64 b (by omega), IntKind.wrap_i64]
  omega

theorem bits_xor_u32 (a b : Nat) (ha : a < 4294967296) (hb : b < 4294967296) : bits .xor .u32 (a : Int) (b : Int) = ((a ^^^ b : Nat) : Int) := by
  have hx : a ^^^ b < 2 ^ 32 := Nat.xor_lt_two_pow (by omega) (by omega)
  show IntKind.u32.wrap ((BitVec.ofInt 32 (a : Int) ^^^ BitVec.ofInt 32 (b : Int)).toNat : Int) = _
  rw [BitVec.toNat_xor, ofInt_nat 32 a (by omega), ofInt_nat 32 b (by omega), IntKind.wrap_u32]
  omega

theorem bits_and_u32 (a b : Nat) (ha : a < 4294967296) (hb : b < 4294967296) : bits .and .u32 (a : Int) (b : Int) = ((a &&& b : Nat) : Int) := by
  have hx : a &&& b < 2 ^ 32 := Nat.and_lt_two_pow _ (by omega)
  show IntKind.u32.wrap ((BitVec.ofInt 32 (a : Int) &&& BitVec.ofInt 32 (b : Int)).toNat : Int) = _
  rw [BitVec.toNat_and, ofInt_nat 32 a (by omega), ofInt_nat 32 b (by omega), IntKind.wrap_u32]
  omega

theorem and127 (x : Int) (h0 : 0 ≤ x) (h1 : x ≤ 255) : bits .and .u8 x 127 = x % 128 := by
  obtain ⟨a, rfl⟩ : ∃ a : Nat, x = (a : Int) := ⟨x.toNat, by omega⟩
  have := bits_and_u8 a 127 (by omega) (by omega)
  rw [show ((127 : Nat) : Int) = 127 from rfl] at this
  rw [this, show (127 : Nat) = 2 ^ 7 - 1 from rfl, Nat.and_two_pow_sub_one_eq_mod]
  omega

/-- an or of parts that do not meet is a sum -/
theorem or_shift (n y : Int) (j : Nat) (hj : j ≤ 7) (hn0 : 0 ≤ n) (hn : n < 128 ^ j) (hy0 : 0 ≤ y) (hy : y ≤ 127) :
    bits .or .i64 n (y * 2 ^ (7 * j)) = n + y * 128 ^ j := by
  obtain ⟨a, rfl⟩ : ∃ a : Nat, n = (a : Int) := ⟨n.toNat, by omega⟩
  obtain ⟨b, rfl⟩ : ∃ b : Nat, y = (b : Int) := ⟨y.toNat, by omega⟩
  have e1 : (2 : Int) ^ (7 * j) = ((2 ^ (7 * j) : Nat) : Int) := by simp
  have e2 : (128 : Int) ^ j = ((2 ^ (7 * j) : Nat) : Int) := by rw [Nat.pow_mul]; simp
  rw [e2] at hn ⊢
  rw [e1, ← Int.natCast_mul]
  have hp : 2 ^ (7 * j) ≤ 2 ^ 49 := Nat.pow_le_pow_right (by omega) (by omega)
  have hb : b * 2 ^ (7 * j) ≤ 127 * 2 ^ 49 := Nat.mul_le_mul (by omega) hp
  rw [bits_or_i64 a _ (by omega) (by omega)]
  have := Nat.two_pow_add_eq_or_of_lt (i := 7 * j) (b := a) (by omega) b
  rw [Nat.or_comm, Nat.mul_comm b, ← this]
  simp
  omega

theorem pow_mul_le (y : Int) (j : Nat) (hj : j ≤ 7) (hy0 : 0 ≤ y) (hy : y ≤ 127) : 0 ≤ y * 2 ^ (7 * j) ∧ y * 2 ^ (7 * j) ≤ 72057594037927936 := by
  obtain ⟨b, rfl⟩ : ∃ b : Nat, y = (b : Int) := ⟨y.toNat, by omega⟩
  have e1 : (2 : Int) ^ (7 * j) = ((2 ^ (7 * j) : Nat) : Int) := by simp
  rw [e1, ← Int.natCast_mul]
  have hp : 2 ^ (7 * j) ≤ 2 ^ 49 := Nat.pow_le_pow_right (by omega) (by omega)
  have hb : b * 2 ^ (7 * j) ≤ 127 * 2 ^ 49 := Nat.mul_le_mul (by omega) hp
  omega

end Go.Proofs.Ytopmojfcdmcmbaa
