/- Numbers as bytes, least significant first: what the bit operations of log frames reckon. No program is named here. -/
import Derived.Test.YtdempiibbhfijaaFrameMath
import Derived.Test.YtdempiibbhfijaaBits
namespace Go.Proofs.Ytdempiibbhfijaa
open Go.RowKit

/-- the first k bytes of n -/
def lowB (n : Int) (k : Nat) : List Int := (List.range k).map fun i : Nat => n / 256 ^ i % 256
theorem lowB_len (n : Int) (k : Nat) : (lowB n k).length = k := by simp [lowB]
theorem lowB_succ (n : Int) (k : Nat) : lowB n (k + 1) = lowB n k ++ [n / 256 ^ k % 256] := by simp [lowB, List.range_succ]

/-- the number whose bytes these are -/
def lowV : List Int → Int
  | [] => 0
  | x :: l => x + 256 * lowV l
theorem lowV_append : ∀ (l m : List Int), lowV (l ++ m) = lowV l + 256 ^ l.length * lowV m
  | [], m => by simp [lowV]
  | x :: l, m => by
    rw [List.cons_append, lowV, lowV, lowV_append l m, List.length_cons, Int.pow_succ, Int.mul_add]
    rw [Int.mul_comm (256 ^ l.length) 256, Int.mul_assoc]
    omega
theorem lowV_snoc (l : List Int) (x : Int) : lowV (l ++ [x]) = lowV l + x * 256 ^ l.length := by
  rw [lowV_append]; simp [lowV, Int.mul_comm]
theorem lowV_range : ∀ (l : List Int), (∀ x ∈ l, 0 ≤ x ∧ x ≤ 255) → 0 ≤ lowV l ∧ lowV l < 256 ^ l.length
  | [], _ => by simp [lowV]
  | x :: l, h => by
    have h1 := lowV_range l (fun y hy => h y (List.mem_cons_of_mem _ hy))
    have h2 := h x (List.mem_cons_self ..)
    rw [lowV, List.length_cons, Int.pow_succ]
    omega

theorem or_shift8 (n y : Int) (j : Nat) (hj : j ≤ 3) (hn0 : 0 ≤ n) (hn : n < 256 ^ j) (hy0 : 0 ≤ y) (hy : y ≤ 255) :
    bits .or .i64 n (y * 2 ^ (8 * j)) = n + y * 256 ^ j := by
  obtain ⟨a, rfl⟩ : ∃ a : Nat, n = (a : Int) := ⟨n.toNat, by omega⟩
  obtain ⟨b, rfl⟩ : ∃ b : Nat, y = (b : Int) := ⟨y.toNat, by omega⟩
  have e1 : (2 : Int) ^ (8 * j) = ((2 ^ (8 * j) : Nat) : Int) := by simp
  have e2 : (256 : Int) ^ j = ((2 ^ (8 * j) : Nat) : Int) := by rw [Nat.pow_mul]; simp
  rw [e2] at hn ⊢
  rw [e1, ← Int.natCast_mul]
  have hp : 2 ^ (8 * j) ≤ 2 ^ 24 := Nat.pow_le_pow_right (by omega) (by omega)
  have hb : b * 2 ^ (8 * j) ≤ 255 * 2 ^ 24 := Nat.mul_le_mul (by omega) hp
  rw [bits_or_i64 a _ (by omega) (by omega)]
  have := Nat.two_pow_add_eq_or_of_lt (i := 8 * j) (b := a) (by omega) b
  rw [Nat.or_comm, Nat.mul_comm b, ← this]
  simp
  omega

theorem pow_mul_le8 (y : Int) (j : Nat) (hj : j ≤ 3) (hy0 : 0 ≤ y) (hy : y ≤ 255) : 0 ≤ y * 2 ^ (8 * j) ∧ y * 2 ^ (8 * j) ≤ 4278190080 := by
  obtain ⟨b, rfl⟩ : ∃ b : Nat, y = (b : Int) := ⟨y.toNat, by omega⟩
  have e1 : (2 : Int) ^ (8 * j) = ((2 ^ (8 * j) : Nat) : Int) := by simp
  rw [e1, ← Int.natCast_mul]
  have hp : 2 ^ (8 * j) ≤ 2 ^ 24 := Nat.pow_le_pow_right (by omega) (by omega)
  have hb : b * 2 ^ (8 * j) ≤ 255 * 2 ^ 24 := Nat.mul_le_mul (by omega) hp
  omega

theorem pow256_le (j : Nat) (hj : j ≤ 3) : (256 : Int) ^ j ≤ 16777216 := by
  have : j = 0 ∨ j = 1 ∨ j = 2 ∨ j = 3 := by omega
  rcases this with rfl | rfl | rfl | rfl <;> decide
theorem or_8 (a y : Int) (ha0 : 0 ≤ a) (ha : a < 256) (hy0 : 0 ≤ y) (hy : y ≤ 255) : bits .or .i64 a (y * 256) = a + y * 256 := by
  have := or_shift8 a y 1 (by omega) ha0 (by omega) hy0 hy
  simpa using this
theorem or_16 (a y : Int) (ha0 : 0 ≤ a) (ha : a < 65536) (hy0 : 0 ≤ y) (hy : y ≤ 255) : bits .or .i64 a (y * 65536) = a + y * 65536 := by
  have := or_shift8 a y 2 (by omega) ha0 (by omega) hy0 hy
  simpa using this
theorem or_24 (a y : Int) (ha0 : 0 ≤ a) (ha : a < 16777216) (hy0 : 0 ≤ y) (hy : y ≤ 255) : bits .or .i64 a (y * 16777216) = a + y * 16777216 := by
  have := or_shift8 a y 3 (by omega) ha0 (by omega) hy0 hy
  simpa using this

/-- the six bytes ahead of a payload, as they are laid -/
theorem frameHead_low (p : List Int) (h : frameB p = true) (hb : Bytes p) : frameHead p = lowB (p.length : Int) 2 ++ lowB (crcOf p) 4 := by
  have hl : 1 ≤ p.length ∧ p.length ≤ 2000 := of_decide_eq_true h
  have hc := crcOf_range hb
  simp [frameHead, lowB, List.range_succ]
  omega

/-- what FrameGet answers -/
def frameAtB (b : List Int) (a : Int) : Bool := decide (0 ≤ a ∧ isFrame b a.toNat)
def frameAtL (b : List Int) (a : Int) : List Int := if frameAtB b a then payAt b a.toNat else []
def frameAtP (b : List Int) (a : Int) : Int := if frameAtB b a then a + 6 + lenAt b a.toNat else 0
theorem frameAtB_nat {b : List Int} {k : Nat} : frameAtB b (k : Int) = decide (isFrame b k) := by
  unfold frameAtB; simp

theorem payAt_len {b : List Int} {k : Nat} (h : k + 6 + lenAt b k ≤ b.length) : (payAt b k).length = lenAt b k := by
  unfold payAt; rw [List.length_take, List.length_drop]; omega
theorem bytes_drop {zs : List Int} (hb : Bytes zs) (k : Nat) : Bytes (zs.drop k) := by
  intro j
  have := hb (k + j)
  simpa [List.getD_eq_getElem?_getD, List.getElem?_drop] using this
theorem payAt_bytes {b : List Int} (hb : Bytes b) (k : Nat) : Bytes (payAt b k) := bytes_take (bytes_drop hb _) _
theorem frameAtL_len (b : List Int) (a : Int) : (frameAtL b a).length ≤ 2000 := by
  unfold frameAtL
  split
  · rename_i h
    have h2 : 0 ≤ a ∧ isFrame b a.toNat := of_decide_eq_true h
    rw [payAt_len h2.2.2.2.2.1]; exact h2.2.2.2.1
  · simp
/-- a part of a list -/
theorem sub_at {zs : List Int} {o n j : Nat} (hj : j < n) : ((zs.drop o).take n).getD j 0 = zs.getD (o + j) 0 := by
  rw [List.getD_eq_getElem?_getD, List.getD_eq_getElem?_getD, List.getElem?_take, if_pos hj, List.getElem?_drop]
theorem sub_len {zs : List Int} {o n : Nat} (h : o + n ≤ zs.length) : ((zs.drop o).take n).length = n := by
  rw [List.length_take, List.length_drop]; omega
theorem Rd.sub {k : IntKind} {w : World} {B : Nat} {b off : Nat} {zs : List Int} (h : Rd k w B (some ⟨b, off, none⟩) zs) (o n : Nat) (hn : o + n ≤ zs.length) : Rd k w B (some ⟨b, off + o, none⟩) ((zs.drop o).take n) := fun hp => by
  rw [sub_len hn] at hp
  obtain ⟨b', off', he, hb, hc⟩ := h (by omega)
  simp only [Option.some.injEq, Addr.mk.injEq] at he
  obtain ⟨rfl, rfl, _⟩ := he
  refine ⟨b, off + o, rfl, hb, fun j hj => ?_⟩
  rw [sub_len hn] at hj
  rw [sub_at hj, Nat.add_assoc]
  exact hc (o + j) (by omega)
theorem low_two (b : List Int) (k : Nat) (h : k + 2 ≤ b.length) (hb : Bytes b) : lowV ((b.drop k).take 2) = (lenAt b k : Int) := by
  have h0 := hb k
  have h1 := hb (k + 1)
  have e : (b.drop k).take 2 = [b.getD k 0, b.getD (k + 1) 0] := by
    refine List.ext_getElem? fun j => ?_
    rw [List.getElem?_take]
    match j with
    | 0 => simp [show k < b.length by omega]
    | 1 => simp [show k + 1 < b.length by omega]
    | j + 2 => simp; omega
  rw [e]
  unfold lenAt
  simp [lowV]
  simp at h0 h1
  omega
theorem low_four (b : List Int) (k : Nat) (h : k + 4 ≤ b.length) : lowV ((b.drop k).take 4) = sumAt b k := by
  have e : (b.drop k).take 4 = [b.getD k 0, b.getD (k + 1) 0, b.getD (k + 2) 0, b.getD (k + 3) 0] := by
    refine List.ext_getElem? fun j => ?_
    rw [List.getElem?_take]
    match j with
    | 0 => simp [show k < b.length by omega]
    | 1 => simp [show k + 1 < b.length by omega]
    | 2 => simp [show k + 2 < b.length by omega]
    | 3 => simp [show k + 3 < b.length by omega]
    | j + 4 => simp; omega
  rw [e]
  unfold sumAt
  simp [lowV]
  omega

end Go.Proofs.Ytdempiibbhfijaa
