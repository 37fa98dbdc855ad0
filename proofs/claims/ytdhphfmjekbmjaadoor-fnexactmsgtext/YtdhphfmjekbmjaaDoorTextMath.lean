/- Plain mathematics of NumText and TextNum. No program is named here. -/
import Derived.Test.YtdhphfmjekbmjaaDoorPutMath
import Derived.Lib.ItoaNum
import Derived.Laws.BytesArg
import Derived.Laws.Strings
import Derived.WideShapes
namespace Go.Proofs.YtdhphfmjekbmjaaDoor

/-- NumText -/
def numText (n : Int) : ByteArray := if numB n = true then ⟨(Lib.decDigits n.toNat).toArray⟩ else ⟨#[]⟩

theorem dec_big {m : Nat} (h : ¬ m < 10) : Lib.decDigits m = Lib.decDigits (m / 10) ++ [UInt8.ofNat (48 + m % 10)] := by rw [Lib.decDigits, dif_neg h]
theorem dec_small {m : Nat} (h : m < 10) : Lib.decDigits m = [UInt8.ofNat (48 + m)] := by rw [Lib.decDigits, dif_pos h]

theorem text_step {m N : Nat} {acc : ByteArray} (h : Lib.decDigits m ++ acc.data.toList = Lib.decDigits N) (hm : ¬ m < 10) :
    Lib.decDigits (m / 10) ++ (strOfNums [(48 : Int) + (m : Int) % 10] ++ acc).data.toList = Lib.decDigits N := by
  rw [← h, dec_big hm, ByteArray.data_append, Array.toList_append, strOfNums_data]
  have : ((48 : Int) + (m : Int) % 10).toNat = 48 + m % 10 := by omega
  simp [this]

theorem text_end {m N : Nat} {acc : ByteArray} (h : Lib.decDigits m ++ acc.data.toList = Lib.decDigits N) (hm : m < 10) :
    strOfNums [(48 : Int) + (m : Int)] ++ acc = ⟨(Lib.decDigits N).toArray⟩ := by
  apply WideShapes.bytes_inj
  rw [← h, dec_small hm, ByteArray.data_append, Array.toList_append, strOfNums_data]
  have : ((48 : Int) + (m : Int)).toNat = 48 + m := by omega
  simp [this]

/-- the value of a string of digits -/
def val (l : List UInt8) : Nat := l.foldl (fun a c => a * 10 + (c.toNat - 48)) 0
def isDig (c : UInt8) : Bool := decide (48 ≤ c.toNat) && decide (c.toNat ≤ 57)

theorem val_snoc (l : List UInt8) (c : UInt8) : val (l ++ [c]) = val l * 10 + (c.toNat - 48) := by simp [val]

theorem toNat_dig (x : Nat) (h : x < 10) : (UInt8.ofNat (48 + x)).toNat = 48 + x := by
  rw [UInt8.toNat_ofNat_of_lt']
  show 48 + x < 256
  omega

theorem dec_val (n : Nat) : val (Lib.decDigits n) = n ∧ (Lib.decDigits n).all isDig = true := by
  induction n using Nat.strongRecOn with
  | ind n ih =>
    by_cases h : n < 10
    · rw [dec_small h]
      have := toNat_dig n h
      constructor
      · simp [val]; omega
      · simp [isDig]; omega
    · have hi := ih (n / 10) (by omega)
      have := toNat_dig (n % 10) (by omega)
      rw [dec_big h]
      constructor
      · rw [val_snoc, hi.1, this]; omega
      · rw [List.all_append, hi.2]; simp [isDig]; omega

theorem dec_len (k n : Nat) (h : n < 10 ^ (k + 1)) : (Lib.decDigits n).length ≤ k + 1 := by
  induction k generalizing n with
  | zero => rw [dec_small (by omega)]; simp
  | succ k ih =>
    by_cases hs : n < 10
    · rw [dec_small hs]; simp
    · rw [dec_big hs, List.length_append]
      have := ih (n / 10) (by rw [Nat.div_lt_iff_lt_mul (by omega)]; rw [Nat.pow_succ] at h; exact h)
      simp; omega
theorem dec_len16 (n : Nat) (h : n ≤ 1125899906842624) : (Lib.decDigits n).length ≤ 16 := dec_len 15 n (by omega)
theorem dec_pos (n : Nat) : 0 < (Lib.decDigits n).length := by
  by_cases h : n < 10
  · rw [dec_small h]; simp
  · rw [dec_big h]; simp

/-- TextNum: the number whose NumText is s -/
def textNum (s : ByteArray) : Option Nat :=
  if val s.data.toList ≤ 1125899906842624 ∧ Lib.decDigits (val s.data.toList) = s.data.toList then some (val s.data.toList) else none

theorem textNum_none {s : ByteArray} (h : ∀ n, n ≤ 1125899906842624 → Lib.decDigits n ≠ s.data.toList) : textNum s = none := by
  unfold textNum
  rw [if_neg]
  rintro ⟨h1, h2⟩
  exact h _ h1 h2

theorem val_take_le (l : List UInt8) (k : Nat) : val (l.take k) ≤ val l := by
  have : ∀ (r : List UInt8) (a : Nat), a ≤ r.foldl (fun a c => a * 10 + (c.toNat - 48)) a := by
    intro r
    induction r with
    | nil => intro a; exact Nat.le_refl _
    | cons c r ih => intro a; exact Nat.le_trans (by omega) (ih (a * 10 + (c.toNat - 48)))
  conv => rhs; rw [← List.take_append_drop k l]
  unfold val
  rw [List.foldl_append]
  exact this _ _

theorem get_toList (s : ByteArray) (k : Nat) (hk : k < s.size) : s.get! k = s.data.toList[k]'(by simpa using hk) := by
  have : k < s.data.size := hk
  rw [Array.getElem_toList]
  show s.data[k]! = _
  exact getElem!_pos s.data k this

/-- a byte that is no digit: no number has this text -/
theorem textNum_bad {s : ByteArray} {k : Nat} (hk : k < s.size) (hb : ¬ (48 ≤ (s.get! k).toNat ∧ (s.get! k).toNat ≤ 57)) : textNum s = none := by
  apply textNum_none
  intro n _ e
  have h1 := (dec_val n).2
  rw [e] at h1
  have h2 := List.all_eq_true.1 h1 (s.data.toList[k]'(by simpa using hk)) (List.getElem_mem _)
  apply hb
  have h3 := get_toList s k hk
  rw [h3]
  simpa [isDig] using h2

theorem val_take (s : ByteArray) (k : Nat) (hk : k < s.size) : val (s.data.toList.take (k + 1)) = val (s.data.toList.take k) * 10 + ((s.get! k).toNat - 48) := by
  have hl : k < s.data.toList.length := by simpa using hk
  rw [List.take_succ_eq_append_getElem hl, val_snoc]
  rw [get_toList s k hk]

theorem textNum_great {s : ByteArray} {k : Nat} (h : 1125899906842624 < val (s.data.toList.take k)) : textNum s = none := by
  unfold textNum
  rw [if_neg]
  rintro ⟨h1, _⟩
  have := val_take_le s.data.toList k
  omega

theorem textNum_long {s : ByteArray} (h : 16 < s.size) : textNum s = none := by
  apply textNum_none
  intro n hn e
  have h1 := dec_len16 n hn
  rw [e] at h1
  have : s.data.toList.length = s.size := Array.length_toList
  omega
theorem textNum_empty {s : ByteArray} (h : s.size = 0) : textNum s = none := by
  apply textNum_none
  intro n hn e
  have h1 := dec_pos n
  rw [e] at h1
  have : s.data.toList.length = s.size := Array.length_toList
  omega

theorem numText_eq {s : ByteArray} {n : Nat} (hn : n ≤ 1125899906842624) : numText (n : Int) = s ↔ Lib.decDigits n = s.data.toList := by
  unfold numText
  rw [if_pos (numB_true.2 (by omega)), Int.toNat_natCast]
  constructor
  · intro e; rw [← e]
  · intro e; apply WideShapes.bytes_inj; simpa using e

/-- behind the loop: the text of the value decides -/
theorem textNum_same {s : ByteArray} (h : numText (val s.data.toList : Nat) = s) (hs : 0 < s.size) : textNum s = some (val s.data.toList) := by
  by_cases hv : val s.data.toList ≤ 1125899906842624
  · unfold textNum
    rw [if_pos ⟨hv, (numText_eq hv).1 h⟩]
  · exfalso
    unfold numText at h
    rw [numB_false.2 (by omega)] at h
    rw [← h] at hs
    simp [ByteArray.size] at hs
theorem textNum_other {s : ByteArray} (h : numText (val s.data.toList : Nat) ≠ s) : textNum s = none := by
  unfold textNum
  rw [if_neg]
  rintro ⟨h1, h2⟩
  exact h ((numText_eq h1).2 h2)

theorem val_lt (l : List UInt8) (h : l.all isDig = true) : val l < 10 ^ l.length := by
  have : ∀ (n : Nat) (l : List UInt8), l.length = n → l.all isDig = true → val l < 10 ^ n := by
    intro n
    induction n with
    | zero => intro l hl _; rw [List.eq_nil_of_length_eq_zero hl]; simp [val]
    | succ n ih =>
      intro l hl hd
      have hne : l ≠ [] := fun e => by rw [e] at hl; simp at hl
      rw [← List.dropLast_concat_getLast hne] at hd ⊢
      rw [List.all_append, Bool.and_eq_true] at hd
      have h1 := ih l.dropLast (by rw [List.length_dropLast]; omega) hd.1
      have h2 : 48 ≤ (l.getLast hne).toNat ∧ (l.getLast hne).toNat ≤ 57 := by simpa [isDig] using hd.2
      rw [val_snoc, Nat.pow_succ]
      omega
  exact this _ l rfl h

theorem dig_take (s : ByteArray) (k : Nat) (hk : k < s.size) (h : (s.data.toList.take k).all isDig = true) (hd : 48 ≤ (s.get! k).toNat ∧ (s.get! k).toNat ≤ 57) : (s.data.toList.take (k + 1)).all isDig = true := by
  have hl : k < s.data.toList.length := by simpa using hk
  rw [List.take_succ_eq_append_getElem hl, List.all_append, h]
  rw [get_toList s k hk] at hd
  simpa [isDig] using hd

theorem val_small (s : ByteArray) (k : Nat) (hk : k ≤ 16) (h : (s.data.toList.take k).all isDig = true) : val (s.data.toList.take k) < 10000000000000000 := by
  have h1 := val_lt _ h
  have h2 : (s.data.toList.take k).length ≤ k := List.length_take_le _ _
  have h3 : 10 ^ (s.data.toList.take k).length ≤ 10 ^ 16 := Nat.pow_le_pow_right (by omega) (by omega)
  omega

/-- TextNum's two results, as a value -/
def textVal (s : ByteArray) : Value := match textNum s with | some n => .tuple #[.int .i64 (n : Int), .bool true] | none => .tuple #[.int .i64 0, .bool false]
theorem textVal_none {s : ByteArray} (h : textNum s = none) : textVal s = .tuple #[.int .i64 0, .bool false] := by unfold textVal; rw [h]
theorem textVal_some {s : ByteArray} {n : Nat} (h : textNum s = some n) : textVal s = .tuple #[.int .i64 (n : Int), .bool true] := by unfold textVal; rw [h]
theorem textVal_form (s : ByteArray) : ∃ p b, textVal s = .tuple #[.int .i64 p, .bool b] := by
  unfold textVal
  split
  · exact ⟨_, _, rfl⟩
  · exact ⟨_, _, rfl⟩

/-- TextNum reads what NumText wrote -/
theorem textNum_numText (n : Nat) (hn : n ≤ 1125899906842624) : textNum (numText (n : Int)) = some n := by
  have e : (numText (n : Int)).data.toList = Lib.decDigits n := ((numText_eq hn).1 rfl).symm
  unfold textNum
  rw [e, (dec_val n).1, if_pos ⟨hn, rfl⟩]

theorem numText_size (n : Int) : (numText n).size ≤ 16 := by
  unfold numText
  split
  · rename_i h
    have h1 := numB_true.1 h
    have := dec_len16 n.toNat (by omega)
    show (Lib.decDigits n.toNat).toArray.size ≤ 16
    simpa using this
  · show (#[] : Array UInt8).size ≤ 16
    simp

end Go.Proofs.YtdhphfmjekbmjaaDoor
