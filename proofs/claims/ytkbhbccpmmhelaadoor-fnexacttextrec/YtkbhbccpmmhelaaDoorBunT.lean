/- Texts joined: TextMath, Texts, Msg4, RcW, RcT. -/
import Derived.Test.YtkbhbccpmmhelaaDoorBunA
import Derived.Lib.ItoaNum
import Derived.Laws.BytesArg
import Derived.Laws.Strings
import Derived.WideShapes
import Derived.Test.YtkbhbccpmmhelaaDoorShelf
import Derived.Lib.OthersKept
import Derived.Lib.AppendIntMem
import Derived.Test.YtkbhbccpmmhelaaDoorBunB
import Derived.Deep.RegionHeld3
import Derived.Laws.Concat

namespace Go.Proofs.YtkbhbccpmmhelaaDoor

/-- NumText -/
def numText (n : Int) : ByteArray := if numB n = true then ⟨(Lib.decDigits n.toNat).toArray⟩ else ⟨#[]⟩

theorem dec_big {m : Nat} (h : ¬ m < 10) : Lib.decDigits m = Lib.decDigits (m / 10) ++ [UInt8.ofNat (48 + m % 10)] := by rw [Lib.decDigits, dif_neg h]
theorem dec_small {m : Nat} (h : m < 10) : Lib.decDigits m = [UInt8.ofNat (48 + m)] := by rw [Lib.decDigits, dif_pos h]

theorem text_step {m N : Nat} {acc : ByteArray} (h : Lib.decDigits m ++ acc.data.toList = Lib.decDigits N) (hm : ¬ m < 10) :
    Lib.decDigits (m / 10) ++ (strOfNums [(48 : Int) + (m : Int) % 10] ++ acc).data.toList = Lib.decDigits N := by
  rw [← h, dec_big hm, ByteArray.data_append, Array.toList_append, strOfNums_data]
  have : ((48 : Int) + (m : Int) % 10).toNat = 48 + m % 10 := by omega
  simp [this]

theorem text_end {m N : Nat} {acc : ByteArray} (h : Lib.decDigits m ++ acc.data.toList = Lib.decDigits N) (hm : m < 10) :
    strOfNums [(48 : Int) + (m : Int)] ++ acc = ⟨(Lib.decDigits N).toArray⟩ := by
  apply WideShapes.bytes_inj
  rw [← h, dec_small hm, ByteArray.data_append, Array.toList_append, strOfNums_data]
  have : ((48 : Int) + (m : Int)).toNat = 48 + m := by omega
  simp [this]

/-- the value of a string of digits -/
def val (l : List UInt8) : Nat := l.foldl (fun a c => a * 10 + (c.toNat - 48)) 0
def isDig (c : UInt8) : Bool := decide (48 ≤ c.toNat) && decide (c.toNat ≤ 57)

theorem val_snoc (l : List UInt8) (c : UInt8) : val (l ++ [c]) = val l * 10 + (c.toNat - 48) := by simp [val]

theorem toNat_dig (x : Nat) (h : x < 10) : (UInt8.ofNat (48 + x)).toNat = 48 + x := by
  rw [UInt8.toNat_ofNat_of_lt']
  show 48 + x < 256
  omega

theorem dec_val (n : Nat) : val (Lib.decDigits n) = n ∧ (Lib.decDigits n).all isDig = true := by
  induction n using Nat.strongRecOn with
  | ind n ih =>
    by_cases h : n < 10
    · rw [dec_small h]
      have := toNat_dig n h
      constructor
      · simp [val]; omega
      · simp [isDig]; omega
    · have hi := ih (n / 10) (by omega)
      have := toNat_dig (n % 10) (by omega)
      rw [dec_big h]
      constructor
      · rw [val_snoc, hi.1, this]; omega
      · rw [List.all_append, hi.2]; simp [isDig]; omega

theorem dec_len (k n : Nat) (h : n < 10 ^ (k + 1)) : (Lib.decDigits n).length ≤ k + 1 := by
  induction k generalizing n with
  | zero => rw [dec_small (by omega)]; simp
  | succ k ih =>
    by_cases hs : n < 10
    · rw [dec_small hs]; simp
    · rw [dec_big hs, List.length_append]
      have := ih (n / 10) (by rw [Nat.div_lt_iff_lt_mul (by omega)]; rw [Nat.pow_succ] at h; exact h)
      simp; omega
theorem dec_len16 (n : Nat) (h : n ≤ 1125899906842624) : (Lib.decDigits n).length ≤ 16 := dec_len 15 n (by omega)
theorem dec_pos (n : Nat) : 0 < (Lib.decDigits n).length := by
  by_cases h : n < 10
  · rw [dec_small h]; simp
  · rw [dec_big h]; simp

/-- TextNum: the number whose NumText is s -/
def textNum (s : ByteArray) : Option Nat :=
  if val s.data.toList ≤ 1125899906842624 ∧ Lib.decDigits (val s.data.toList) = s.data.toList then some (val s.data.toList) else none

theorem textNum_none {s : ByteArray} (h : ∀ n, n ≤ 1125899906842624 → Lib.decDigits n ≠ s.data.toList) : textNum s = none := by
  unfold textNum
  rw [if_neg]
  rintro ⟨h1, h2⟩
  exact h _ h1 h2

theorem val_take_le (l : List UInt8) (k : Nat) : val (l.take k) ≤ val l := by
  have : ∀ (r : List UInt8) (a : Nat), a ≤ r.foldl (fun a c => a * 10 + (c.toNat - 48)) a := by
    intro r
    induction r with
    | nil => intro a; exact Nat.le_refl _
    | cons c r ih => intro a; exact Nat.le_trans (by omega) (ih (a * 10 + (c.toNat - 48)))
  conv => rhs; rw [← List.take_append_drop k l]
  unfold val
  rw [List.foldl_append]
  exact this _ _

theorem get_toList (s : ByteArray) (k : Nat) (hk : k < s.size) : s.get! k = s.data.toList[k]'(by simpa using hk) := by
  have : k < s.data.size := hk
  rw [Array.getElem_toList]
  show s.data[k]! = _
  exact getElem!_pos s.data k this

/-- a byte that is no digit: no number has this text -/
theorem textNum_bad {s : ByteArray} {k : Nat} (hk : k < s.size) (hb : ¬ (48 ≤ (s.get! k).toNat ∧ (s.get! k).toNat ≤ 57)) : textNum s = none := by
  apply textNum_none
  intro n _ e
  have h1 := (dec_val n).2
  rw [e] at h1
  have h2 := List.all_eq_true.1 h1 (s.data.toList[k]'(by simpa using hk)) (List.getElem_mem _)
  apply hb
  have h3 := get_toList s k hk
  rw [h3]
  simpa [isDig] using h2

theorem val_take (s : ByteArray) (k : Nat) (hk : k < s.size) : val (s.data.toList.take (k + 1)) = val (s.data.toList.take k) * 10 + ((s.get! k).toNat - 48) := by
  have hl : k < s.data.toList.length := by simpa using hk
  rw [List.take_succ_eq_append_getElem hl, val_snoc]
  rw [get_toList s k hk]

theorem textNum_great {s : ByteArray} {k : Nat} (h : 1125899906842624 < val (s.data.toList.take k)) : textNum s = none := by
  unfold textNum
  rw [if_neg]
  rintro ⟨h1, _⟩
  have := val_take_le s.data.toList k
  omega

theorem textNum_long {s : ByteArray} (h : 16 < s.size) : textNum s = none := by
  apply textNum_none
  intro n hn e
  have h1 := dec_len16 n hn
  rw [e] at h1
  have : s.data.toList.length = s.size := Array.length_toList
  omega
theorem textNum_empty {s : ByteArray} (h : s.size = 0) : textNum s = none := by
  apply textNum_none
  intro n hn e
  have h1 := dec_pos n
  rw [e] at h1
  have : s.data.toList.length = s.size := Array.length_toList
  omega

theorem numText_eq {s : ByteArray} {n : Nat} (hn : n ≤ 1125899906842624) : numText (n : Int) = s ↔ Lib.decDigits n = s.data.toList := by
  unfold numText
  rw [if_pos (numB_true.2 (by omega)), Int.toNat_natCast]
  constructor
  · intro e; rw [← e]
  · intro e; apply WideShapes.bytes_inj; simpa using e

/-- behind the loop: the text of the value decides -/
theorem textNum_same {s : ByteArray} (h : numText (val s.data.toList : Nat) = s) (hs : 0 < s.size) : textNum s = some (val s.data.toList) := by
  by_cases hv : val s.data.toList ≤ 1125899906842624
  · unfold textNum
    rw [if_pos ⟨hv, (numText_eq hv).1 h⟩]
  · exfalso
    unfold numText at h
    rw [numB_false.2 (by omega)] at h
    rw [← h] at hs
    simp [ByteArray.size] at hs
theorem textNum_other {s : ByteArray} (h : numText (val s.data.toList : Nat) ≠ s) : textNum s = none := by
  unfold textNum
  rw [if_neg]
  rintro ⟨h1, h2⟩
  exact h ((numText_eq h1).2 h2)

theorem val_lt (l : List UInt8) (h : l.all isDig = true) : val l < 10 ^ l.length := by
  have : ∀ (n : Nat) (l : List UInt8), l.length = n → l.all isDig = true → val l < 10 ^ n := by
    intro n
    induction n with
    | zero => intro l hl _; rw [List.eq_nil_of_length_eq_zero hl]; simp [val]
    | succ n ih =>
      intro l hl hd
      have hne : l ≠ [] := fun e => by rw [e] at hl; simp at hl
      rw [← List.dropLast_concat_getLast hne] at hd ⊢
      rw [List.all_append, Bool.and_eq_true] at hd
      have h1 := ih l.dropLast (by rw [List.length_dropLast]; omega) hd.1
      have h2 : 48 ≤ (l.getLast hne).toNat ∧ (l.getLast hne).toNat ≤ 57 := by simpa [isDig] using hd.2
      rw [val_snoc, Nat.pow_succ]
      omega
  exact this _ l rfl h

theorem dig_take (s : ByteArray) (k : Nat) (hk : k < s.size) (h : (s.data.toList.take k).all isDig = true) (hd : 48 ≤ (s.get! k).toNat ∧ (s.get! k).toNat ≤ 57) : (s.data.toList.take (k + 1)).all isDig = true := by
  have hl : k < s.data.toList.length := by simpa using hk
  rw [List.take_succ_eq_append_getElem hl, List.all_append, h]
  rw [get_toList s k hk] at hd
  simpa [isDig] using hd

theorem val_small (s : ByteArray) (k : Nat) (hk : k ≤ 16) (h : (s.data.toList.take k).all isDig = true) : val (s.data.toList.take k) < 10000000000000000 := by
  have h1 := val_lt _ h
  have h2 : (s.data.toList.take k).length ≤ k := List.length_take_le _ _
  have h3 : 10 ^ (s.data.toList.take k).length ≤ 10 ^ 16 := Nat.pow_le_pow_right (by omega) (by omega)
  omega

/-- TextNum's two results, as a value -/
def textVal (s : ByteArray) : Value := match textNum s with | some n => .tuple #[.int .i64 (n : Int), .bool true] | none => .tuple #[.int .i64 0, .bool false]
theorem textVal_none {s : ByteArray} (h : textNum s = none) : textVal s = .tuple #[.int .i64 0, .bool false] := by unfold textVal; rw [h]
theorem textVal_some {s : ByteArray} {n : Nat} (h : textNum s = some n) : textVal s = .tuple #[.int .i64 (n : Int), .bool true] := by unfold textVal; rw [h]
theorem textVal_form (s : ByteArray) : ∃ p b, textVal s = .tuple #[.int .i64 p, .bool b] := by
  unfold textVal
  split
  · exact ⟨_, _, rfl⟩
  · exact ⟨_, _, rfl⟩

/-- TextNum reads what NumText wrote -/
theorem textNum_numText (n : Nat) (hn : n ≤ 1125899906842624) : textNum (numText (n : Int)) = some n := by
  have e : (numText (n : Int)).data.toList = Lib.decDigits n := ((numText_eq hn).1 rfl).symm
  unfold textNum
  rw [e, (dec_val n).1, if_pos ⟨hn, rfl⟩]

theorem numText_size (n : Int) : (numText n).size ≤ 16 := by
  unfold numText
  split
  · rename_i h
    have h1 := numB_true.1 h
    have := dec_len16 n.toNat (by omega)
    show (Lib.decDigits n.toNat).toArray.size ≤ 16
    simpa using this
  · show (#[] : Array UInt8).size ≤ 16
    simp

end Go.Proofs.YtkbhbccpmmhelaaDoor

namespace Go.Proofs.YtkbhbccpmmhelaaDoor
open Go.RowKit
set_option linter.unusedVariables false

/-- the library's table of powers of ten lies in the world -/
def Tab10 (w : World) : Prop := Lib.TabIs Tryd.prog w "internal/strconv.uint64pow10" .u64 Lib.pow10Tab

set_option maxHeartbeats 400000 in
theorem iNumText_any (n : Int) (w : World) (ht : Tab10 w) (h0 : -9223372036854775808 ≤ n) (h1 : n ≤ 9223372036854775807) :
    Calls Tryd.prog 30 #[.int .i64 n] w fun e w' => e = .returned (.string (numText n)) ∧ Below w.heap.size w w' := by
  by_cases hN : 0 ≤ n ∧ n ≤ 1125899906842624
  · have HB := Lib.hid (numB_true.2 hN)
    have HT : Hid (numText n = ⟨(Lib.itoa n).toArray⟩) := by
      show _ = _
      unfold numText Lib.itoa
      rw [if_pos HB.out, if_neg (by omega)]
    go_enter Tryd.func30, Tryd.ntmps30
    go_wp2_with fail
    refine (iNum_any _ _).mono ?_
    rintro e w' ⟨rfl, rfl⟩
    rw [HB.out]
    go_wp2_with fail
    refine (Tryd.strconv_Itoa n h0 h1 w ht).mono ?_
    rintro e w1 ⟨rfl, k, os, rfl⟩
    rw [← HT.out]
    have hb := Lib.below_grow w.heap.size w (Nat.le_refl _) k os
    go_wp2
    go_ret
    exact ⟨rfl, hb⟩
  · have HB := Lib.hid (numB_false.2 hN)
    have HT : Hid (numText n = ⟨#[]⟩) := by
      show _ = _
      unfold numText
      rw [HB.out]; simp
    clear hN
    go_enter Tryd.func30, Tryd.ntmps30
    go_wp2_with fail
    refine (iNum_any _ _).mono ?_
    rintro e w' ⟨rfl, rfl⟩
    rw [HB.out]
    go_wp2
    go_ret
    exact ⟨ret_eq (by rw [HT.out]; rfl), Below.refl _ _⟩

set_option maxHeartbeats 1000000 in
theorem sNumText_any (n : Int) (w : World) :
    Calls Tryd.prog 44 #[.int .i64 n] w fun e w' => e = .returned (.string (numText n)) ∧ Below w.heap.size w w' := by
  have kc := conv_one
  by_cases hN : 0 ≤ n ∧ n ≤ 1125899906842624
  · have HB := Lib.hid (numB_true.2 hN)
    obtain ⟨N, rfl⟩ : ∃ N : Nat, n = (N : Int) := ⟨n.toNat, by omega⟩
    have HT : Hid (numText (N : Int) = ⟨(Lib.decDigits N).toArray⟩) := by
      show _ = _
      unfold numText
      rw [if_pos HB.out, Int.toNat_natCast]
    have hN1 : N ≤ 1125899906842624 := by omega
    clear hN
    go_enter Tryd.func44, Tryd.ntmps44
    go_wp2_with fail
    refine (sNum_any _ _).mono ?_
    rintro e w' ⟨rfl, rfl⟩
    rw [HB.out]
    go_wp2
    go_loopw [0, 3] (fun sk sa wr => ∃ (m : Nat) (acc : ByteArray), sk = .int .i64 m ∧ sa = .string acc ∧ Hid (Lib.decDigits m ++ acc.data.toList = Lib.decDigits N) ∧ acc.size + m ≤ N ∧ Below w.heap.size w wr) (fun sk _ _ => (intOf sk).toNat)
    case atStart => exact ⟨N, ⟨#[]⟩, rfl, rfl, List.append_nil _, by simp [ByteArray.size], Below.refl _ _⟩
    case round =>
      obtain ⟨m, acc, rfl, rfl, HD, hle, hbr⟩ := hrel
      by_cases hm : m < 10
      · have HE := Lib.hid (text_end HD.out hm)
        have hsz : (strOfNums [(48 : Int) + (m : Int)]).size = 1 := by rw [strOfNums_size]; rfl
        have i1 : (m : Int) ≤ 9 := by omega
        go_wp2
        go_ret
        exact ⟨ret_eq (by rw [HT.out, ← HE.out]; rfl), hbr.alloc hbr.size _⟩
      · have HE := Lib.hid (text_step HD.out hm)
        have hsz : (strOfNums [(48 : Int) + (m : Int) % 10]).size = 1 := by rw [strOfNums_size]; rfl
        have i1 : (9 : Int) < (m : Int) := by omega
        go_wp2
        go_roundw
        case rel => exact ⟨m / 10, _, by go_num, rfl, HE, by rw [ByteArray.size_append, hsz]; omega, hbr.alloc hbr.size _⟩
        case measure => simp [intOf]; omega
  · have HB := Lib.hid (numB_false.2 hN)
    have HT : Hid (numText n = ⟨#[]⟩) := by
      show _ = _
      unfold numText
      rw [HB.out]; simp
    clear hN
    go_enter Tryd.func44, Tryd.ntmps44
    go_wp2_with fail
    refine (sNum_any _ _).mono ?_
    rintro e w' ⟨rfl, rfl⟩
    rw [HB.out]
    go_wp2
    go_ret
    exact ⟨ret_eq (by rw [HT.out]; rfl), Below.refl _ _⟩

set_option maxHeartbeats 1000000 in
theorem sTextNum_any (s : ByteArray) (w : World) (hs : s.size ≤ 1073741824) :
    Calls Tryd.prog 75 #[.string s] w fun e w' => e = .returned (textVal s) ∧ Below w.heap.size w w' := by
  by_cases h0 : s.size = 0
  · have HV := Lib.hid (textVal_none (textNum_empty h0))
    have i0 : ((s.size : Int) == 0) = true := by simp [h0]
    clear h0
    go_enter Tryd.func75, Tryd.ntmps75
    go_wp2
    go_ret2
    exact ⟨ret_eq HV.out.symm, Below.refl _ _⟩
  · by_cases h16 : 16 < s.size
    · have HV := Lib.hid (textVal_none (textNum_long h16))
      have i0 : ((s.size : Int) == 0) = false := by rw [beq_eq_false_iff_ne]; omega
      have i1 : (16 : Int) < (s.size : Int) := by omega
      go_enter Tryd.func75, Tryd.ntmps75
      go_wp2
      go_ret2
      exact ⟨ret_eq HV.out.symm, Below.refl _ _⟩
    · have i0 : ((s.size : Int) == 0) = false := by rw [beq_eq_false_iff_ne]; omega
      have i1 : decide ((16 : Int) < (s.size : Int)) = false := by simp; omega
      have hsz : s.size ≤ 16 := by omega
      go_enter Tryd.func75, Tryd.ntmps75
      go_wp2
      go_loop [4, 5] (fun sn si => ∃ k m : Nat, k ≤ s.size ∧ si = .int .i64 k ∧ sn = .int .i64 m ∧ m < 10000000000000000 ∧ Hid (m = val (s.data.toList.take k)) ∧ Hid ((s.data.toList.take k).all isDig = true)) (fun _ si => s.size - (intOf si).toNat)
      case atStart => exact ⟨0, 0, by omega, rfl, rfl, by omega, rfl, rfl⟩
      case round =>
        obtain ⟨k, m, hk, rfl, rfl, hm, HM, HD⟩ := hrel
        by_cases hlt : k < s.size
        · have hg := get_bang s k hlt
          obtain ⟨x, hx⟩ : ∃ x, (s[k]'hlt).toNat = x := ⟨_, rfl⟩
          rw [← hg] at hx
          have HX := Lib.hid hx
          have hx256 : x < 256 := by rw [← hx]; exact (s.get! k).toNat_lt
          rw [hg] at hx
          clear hg
          have j1 : (k : Int) < (s.size : Int) := by omega
          by_cases hd : 48 ≤ x ∧ x ≤ 57
          · obtain ⟨m2, hm2⟩ : ∃ m2, m * 10 + (x - 48) = m2 := ⟨_, rfl⟩
            have HM2 : Hid (m2 = val (s.data.toList.take (k + 1))) := by
              show _ = _
              rw [val_take s k hlt, ← HM.out, HX.out, hm2]
            have HD2 := Lib.hid (dig_take s k hlt HD.out (by rw [HX.out]; exact hd))
            have hm3 : m2 < 10000000000000000 := by rw [HM2.out]; exact val_small s (k + 1) (by omega) HD2.out
            have hm4 : (m : Int) * 10 + ((x : Int) - 48) = (m2 : Int) := by omega
            clear hm2
            obtain ⟨hd1, hd2⟩ := hd
            have j2 : (48 : Int) ≤ (x : Int) := by omega
            have j3 : (x : Int) ≤ 57 := by omega
            go_wp2
            go_round
            case rel => exact ⟨k + 1, m2, by omega, by go_num, by go_num, hm3, HM2, HD2⟩
            case measure => simp [intOf]; omega
          · have HV := Lib.hid (textVal_none (textNum_bad hlt (by rw [HX.out]; exact hd)))
            by_cases hd1 : 48 ≤ x
            · have j2 : (48 : Int) ≤ (x : Int) := by omega
              have j3 : (57 : Int) < (x : Int) := by omega
              clear hd
              go_wp2
              go_ret2
              exact ⟨ret_eq HV.out.symm, Below.refl _ _⟩
            · have j2 : (x : Int) < 48 := by omega
              clear hd
              go_wp2
              go_ret2
              exact ⟨ret_eq HV.out.symm, Below.refl _ _⟩
        · have hk2 : k = s.size := by omega
          subst hk2
          have hM := HM.out
          rw [show s.data.toList.take s.size = s.data.toList from List.take_of_length_le (Nat.le_of_eq Array.length_toList)] at hM
          have HM2 := Lib.hid hM
          clear hM
          go_wp2_with fail
          refine (sNumText_any _ _).mono ?_
          rintro e w1 ⟨rfl, hb1⟩
          obtain ⟨T, hT⟩ : ∃ T, numText (m : Int) = T := ⟨_, rfl⟩
          rw [hT]
          by_cases hTs : T = s
          · have HV := Lib.hid (textVal_some (textNum_same (s := s) (by rw [← HM2.out, hT]; exact hTs) (by omega)))
            rw [← HM2.out] at HV
            clear hT
            subst hTs
            go_wp2
            go_ret2
            exact ⟨ret_eq HV.out.symm, hb1⟩
          · have HV := Lib.hid (textVal_none (textNum_other (s := s) (by rw [← HM2.out, hT]; exact hTs)))
            clear hT
            have hne : (T.toList == s.toList) = false := by rw [str_same]; simpa using hTs
            have hne2 : (T.toList != s.toList) = true := by simp only [bne, hne]; rfl
            go_wp2
            go_ret2
            exact ⟨ret_eq HV.out.symm, hb1⟩

theorem Tab10.below {w w' : World} (h : Tab10 w) (hb : Below w.heap.size w w') : Tab10 w' := by
  unfold Tab10 Lib.TabIs World.var? at h ⊢
  rcases hg : Tryd.prog.globalNamed "internal/strconv.uint64pow10" with _ | g
  · rw [hg] at h; cases h
  · rw [hg] at h
    simp only [Option.bind_some] at h ⊢
    have hlt : g < w.heap.size := by
      rcases Nat.lt_or_ge g w.heap.size with h' | h'
      · exact h'
      · rw [Array.getElem?_eq_none h'] at h; cases h
    rw [hb.block g hlt]
    exact h

set_option maxHeartbeats 1000000 in
theorem iTextNum_any (s : ByteArray) (w : World) (ht : Tab10 w) (hs : s.size ≤ 1073741824) :
    Calls Tryd.prog 54 #[.string s] w fun e w' => e = .returned (textVal s) ∧ Below w.heap.size w w' := by
  go_enter Tryd.func54, Tryd.ntmps54
  go_wp2
  go_loopw [4] (fun sn wr => ∃ p m : Nat, p ≤ s.size ∧ sn = .int .i64 m ∧ m ≤ 1125899906842624 ∧ wr.heap[w.heap.size]? = some (.stringIter s p) ∧ Hid (m = val (s.data.toList.take p)) ∧ Below w.heap.size w wr) (fun _ wr => s.size - wr.iterPos w.heap.size)
  case atStart => exact ⟨0, 0, by omega, rfl, by omega, World.iter_heap w s 0, rfl, (Below.refl _ _).alloc (Nat.le_refl _) _⟩
  case round =>
    obtain ⟨p, m, hp, rfl, hm, hit, HM, hbr⟩ := hrel
    have hsz := hbr.size
    have hpos : wr.iterPos w.heap.size = p := by unfold World.iterPos; rw [hit]
    have HP := Lib.hid hpos
    clear hpos
    by_cases hlt : p < s.size
    · have hg := get_bang s p hlt
      have hnx := fun ty => Lib.run_next_any_at (P := Tryd.prog) wr w.heap.size s p ty hit hlt
      obtain ⟨r, wd, hd⟩ : ∃ r wd, Utf8.decode s p = (r, wd) := ⟨_, _, rfl⟩
      rw [hd] at hnx
      have hle := decode_le s p
      rw [hd] at hle
      obtain ⟨wn, hwn⟩ : ∃ wn, wr.iterAt w.heap.size s (p + wd) = wn := ⟨_, rfl⟩
      have hbrN := Lib.below_iterAt hbr (k := w.heap.size) (Nat.le_refl _) s (p + wd)
      have hitN := Lib.iterAt_heap wr w.heap.size s p (p + wd) hit
      dsimp only at hnx hle
      rw [hwn] at hbrN hitN hnx
      clear hwn hbr hit
      by_cases hdg : 48 ≤ r ∧ r ≤ 57
      · have hasc : (s.get! p).toNat < 128 := by
          rcases Nat.lt_or_ge (s.get! p).toNat 128 with h | h
          · exact h
          · have := decode_high s p hlt (by rw [← hg]; exact h)
            rw [hd] at this
            omega
        have h1 := decode_ascii s p hlt (by rw [← hg]; exact hasc)
        rw [hd, ← hg] at h1
        simp only [Prod.mk.injEq] at h1
        obtain ⟨h1, rfl⟩ := h1
        obtain ⟨m2, hm2⟩ : ∃ m2, m * 10 + (r - 48) = m2 := ⟨_, rfl⟩
        have HM2 : Hid (m2 = val (s.data.toList.take (p + 1))) := by
          show _ = _
          rw [val_take s p hlt, ← HM.out, ← h1, hm2]
        have hm4 : (m : Int) * 10 + ((r : Int) - 48) = (m2 : Int) := by omega
        have hposN : wn.iterPos w.heap.size = p + 1 := by unfold World.iterPos; rw [hitN]
        have HPN := Lib.hid hposN
        have HIN := Lib.hid hitN
        obtain ⟨hd1, hd2⟩ := hdg
        have j2 : (48 : Int) ≤ (r : Int) := by omega
        have j3 : (r : Int) ≤ 57 := by omega
        clear hm2 hd h1 hg hposN hitN hasc
        by_cases hgr : m2 ≤ 1125899906842624
        · have j4 : (m2 : Int) ≤ 1125899906842624 := by omega
          go_wp2
          go_roundw
          case rel => exact ⟨p + 1, m2, by omega, by go_num, hgr, HIN.out, HM2, hbrN⟩
          case measure => rw [HPN.out, HP.out]; omega
        · have HV := Lib.hid (textVal_none (textNum_great (s := s) (k := p + 1) (by rw [← HM2.out]; omega)))
          have j4 : (1125899906842624 : Int) < (m2 : Int) := by omega
          go_wp2
          go_ret2
          exact ⟨ret_eq HV.out.symm, hbrN⟩
      · have hbad : ¬ (48 ≤ (s.get! p).toNat ∧ (s.get! p).toNat ≤ 57) := by
          rcases Nat.lt_or_ge (s.get! p).toNat 128 with h | h
          · have h1 := decode_ascii s p hlt (by rw [← hg]; exact h)
            rw [hd, ← hg] at h1
            simp only [Prod.mk.injEq] at h1
            omega
          · omega
        have HV := Lib.hid (textVal_none (textNum_bad hlt hbad))
        clear hbad hd hg hitN
        by_cases hd1 : 48 ≤ r
        · have j2 : (48 : Int) ≤ (r : Int) := by omega
          have j3 : (57 : Int) < (r : Int) := by omega
          clear hdg
          go_wp2
          go_ret2
          exact ⟨ret_eq HV.out.symm, hbrN⟩
        · have j2 : (r : Int) < 48 := by omega
          clear hdg
          go_wp2
          go_ret2
          exact ⟨ret_eq HV.out.symm, hbrN⟩
    · have hp2 : p = s.size := by omega
      subst hp2
      have hnx := fun ty => Lib.run_next_end_at (P := Tryd.prog) wr w.heap.size s s.size ty hit hlt
      have hM := HM.out
      rw [show s.data.toList.take s.size = s.data.toList from List.take_of_length_le (Nat.le_of_eq Array.length_toList)] at hM
      have HM2 := Lib.hid hM
      clear hM hit HP
      go_wp2_with fail
      refine (iNumText_any _ wr (ht.below hbr) (by omega) (by omega)).mono ?_
      rintro e w1 ⟨rfl, hb1⟩
      have hb2 := hbr.trans (hb1.mono hsz)
      obtain ⟨T, hT⟩ : ∃ T, numText (m : Int) = T := ⟨_, rfl⟩
      rw [hT]
      clear hnx
      by_cases hTs : T = s
      · by_cases hs0 : 0 < s.size
        · have HV := Lib.hid (textVal_some (textNum_same (s := s) (by rw [← HM2.out, hT]; exact hTs) hs0))
          rw [← HM2.out] at HV
          clear hT
          subst hTs
          go_wp2
          go_ret2
          exact ⟨ret_eq HV.out.symm, hb2⟩
        · exfalso
          have h1 := (numText_eq (s := s) hm).1 (hT.trans hTs)
          have h2 := dec_pos m
          rw [h1, show s.data.toList.length = s.size from Array.length_toList] at h2
          omega
      · have HV := Lib.hid (textVal_none (textNum_other (s := s) (by rw [← HM2.out, hT]; exact hTs)))
        clear hT
        have hne : (T.toList == s.toList) = false := by rw [str_same]; simpa using hTs
        have hne2 : (T.toList != s.toList) = true := by simp only [bne, hne]; rfl
        go_wp2
        go_ret2
        exact ⟨ret_eq HV.out.symm, hb2⟩

end Go.Proofs.YtkbhbccpmmhelaaDoor

namespace Go.Proofs.YtkbhbccpmmhelaaDoor
open Go.RowKit
set_option linter.unusedVariables false

/-- what MsgText answers -/
def msgText (m : MMsg) : ByteArray := if msgOkB m then msgName m.Kind ++ ⟨#[32]⟩ ++ numText m.Acct ++ ⟨#[32]⟩ ++ numText m.Amt ++ ⟨#[32]⟩ ++ numText m.Src else ⟨#[]⟩
theorem msgName_size (k : Int) : (msgName k).size ≤ 6 := by
  unfold msgName
  repeat (split; decide)
  decide

set_option maxRecDepth 100000 in
set_option maxHeartbeats 4000000 in
theorem sMsgText_c {w : World} {v : Value} {m : MMsg} (h : RV msgL w v m) :
    Calls Tryd.prog 45 #[v] w fun e w' => e = .returned (.string (msgText m)) ∧ Below w.heap.size w w' := by
  have h1 := h
  obtain rfl := rv_msg h1
  clear h1
  obtain ⟨wa, hwa, B0, sa, x_a⟩ := frame1 w 24 [.int .i64 m.Kind, .int .i64 m.Acct, .int .i64 m.Amt, .int .i64 m.Src]
  have sa_1 := Nat.le_of_eq sa
  have sa_2 := Nat.le_of_eq sa.symm
  clear sa
  have c_a_0_wa := x_a.cell (i := 0) rfl
  have c_a_1_wa := x_a.cell (i := 1) rfl
  have c_a_2_wa := x_a.cell (i := 2) rfl
  have c_a_3_wa := x_a.cell (i := 3) rfl
  by_cases ho : msgOkB m = true
  case neg =>
    have ho' : msgOkB m = false := by simpa using ho
    have HO := Lib.hid ho'
    have HP : Hid (msgText m = ⟨#[]⟩) := by show _ = _; unfold msgText; rw [if_neg ho]
    clear ho ho'
    go_enter Tryd.func45, Tryd.ntmps45
    go_wp2_with fail
    refine (sMsgOk_c (h.from_ B0)).mono ?_
    rintro e w1 ⟨rfl, h_w1⟩
    clear c_a_0_wa c_a_1_wa c_a_2_wa c_a_3_wa
    replace x_a := x_a.from_ h_w1
    have B_w1 := B0.trans (h_w1.mono B0.size)
    have s_w1 := h_w1.size
    rw [HO.out]
    go_wp2
    go_ret
    exact ⟨by rw [HP.out]; rfl, B_w1⟩
  obtain ⟨s1, hs1⟩ : ∃ s, msgName m.Kind = s := ⟨_, rfl⟩
  have zs1 : s1.size ≤ 16 := by rw [← hs1]; exact Nat.le_trans (msgName_size _) (by omega)
  have Hs1 := Lib.hid hs1
  obtain ⟨s2, hs2⟩ : ∃ s, numText m.Acct = s := ⟨_, rfl⟩
  have zs2 : s2.size ≤ 16 := by rw [← hs2]; exact numText_size _
  have Hs2 := Lib.hid hs2
  obtain ⟨s3, hs3⟩ : ∃ s, numText m.Amt = s := ⟨_, rfl⟩
  have zs3 : s3.size ≤ 16 := by rw [← hs3]; exact numText_size _
  have Hs3 := Lib.hid hs3
  obtain ⟨s4, hs4⟩ : ∃ s, numText m.Src = s := ⟨_, rfl⟩
  have zs4 : s4.size ≤ 16 := by rw [← hs4]; exact numText_size _
  have Hs4 := Lib.hid hs4
  have HP : Hid (msgText m = s1 ++ ⟨#[32]⟩ ++ s2 ++ ⟨#[32]⟩ ++ s3 ++ ⟨#[32]⟩ ++ s4) := by show _ = _; unfold msgText; rw [if_pos ho, hs1, hs2, hs3, hs4]
  obtain ⟨t1, ht1⟩ : ∃ t, s1 ++ (⟨#[32]⟩ : ByteArray) = t := ⟨_, rfl⟩
  have zt1 : t1.size ≤ 34 := by rw [← ht1, ByteArray.size_append]; have h1 : (⟨#[32]⟩ : ByteArray).size = 1 := rfl; omega
  have kt1 : ∀ W, (Op.stringOp .add s1 (⟨#[32]⟩ : ByteArray)).run Tryd.prog W = .ok (.string t1) W := fun W => by rw [← ht1]; exact run_string_add_sum W _ _ (by have h1 : (⟨#[32]⟩ : ByteArray).size = 1 := rfl; omega)
  obtain ⟨t2, ht2⟩ : ∃ t, t1 ++ s2 = t := ⟨_, rfl⟩
  have zt2 : t2.size ≤ 51 := by rw [← ht2, ByteArray.size_append]; omega
  have kt2 : ∀ W, (Op.stringOp .add t1 s2).run Tryd.prog W = .ok (.string t2) W := fun W => by rw [← ht2]; exact run_string_add_sum W _ _ (by omega)
  obtain ⟨t3, ht3⟩ : ∃ t, t2 ++ (⟨#[32]⟩ : ByteArray) = t := ⟨_, rfl⟩
  have zt3 : t3.size ≤ 68 := by rw [← ht3, ByteArray.size_append]; have h1 : (⟨#[32]⟩ : ByteArray).size = 1 := rfl; omega
  have kt3 : ∀ W, (Op.stringOp .add t2 (⟨#[32]⟩ : ByteArray)).run Tryd.prog W = .ok (.string t3) W := fun W => by rw [← ht3]; exact run_string_add_sum W _ _ (by have h1 : (⟨#[32]⟩ : ByteArray).size = 1 := rfl; omega)
  obtain ⟨t4, ht4⟩ : ∃ t, t3 ++ s3 = t := ⟨_, rfl⟩
  have zt4 : t4.size ≤ 85 := by rw [← ht4, ByteArray.size_append]; omega
  have kt4 : ∀ W, (Op.stringOp .add t3 s3).run Tryd.prog W = .ok (.string t4) W := fun W => by rw [← ht4]; exact run_string_add_sum W _ _ (by omega)
  obtain ⟨t5, ht5⟩ : ∃ t, t4 ++ (⟨#[32]⟩ : ByteArray) = t := ⟨_, rfl⟩
  have zt5 : t5.size ≤ 102 := by rw [← ht5, ByteArray.size_append]; have h1 : (⟨#[32]⟩ : ByteArray).size = 1 := rfl; omega
  have kt5 : ∀ W, (Op.stringOp .add t4 (⟨#[32]⟩ : ByteArray)).run Tryd.prog W = .ok (.string t5) W := fun W => by rw [← ht5]; exact run_string_add_sum W _ _ (by have h1 : (⟨#[32]⟩ : ByteArray).size = 1 := rfl; omega)
  obtain ⟨t6, ht6⟩ : ∃ t, t5 ++ s4 = t := ⟨_, rfl⟩
  have zt6 : t6.size ≤ 119 := by rw [← ht6, ByteArray.size_append]; omega
  have kt6 : ∀ W, (Op.stringOp .add t5 s4).run Tryd.prog W = .ok (.string t6) W := fun W => by rw [← ht6]; exact run_string_add_sum W _ _ (by omega)
  have HP2 : Hid (msgText m = t6) := by show _ = _; rw [HP.out, ht1, ht2, ht3, ht4, ht5, ht6]
  clear ht1 ht2 ht3 ht4 ht5 ht6
  have HO := Lib.hid ho
  clear ho hs1 hs2 hs3 hs4
  go_enter Tryd.func45, Tryd.ntmps45
  go_wp2_with fail
  refine (sMsgOk_c (h.from_ B0)).mono ?_
  rintro e w1 ⟨rfl, h_w1⟩
  clear c_a_0_wa c_a_1_wa c_a_2_wa c_a_3_wa
  replace x_a := x_a.from_ h_w1
  have B_w1 := B0.trans (h_w1.mono B0.size)
  have s_w1 := h_w1.size
  rw [HO.out]
  have c_a_0_w1 := x_a.cell (i := 0) rfl
  have c_a_1_w1 := x_a.cell (i := 1) rfl
  have c_a_2_w1 := x_a.cell (i := 2) rfl
  have c_a_3_w1 := x_a.cell (i := 3) rfl
  go_wp2_with fail
  go_region_held3 (fun w' => w'.cell? ⟨w.heap.size, 0, none⟩ = some (.int .i64 m.Kind) ∧ w'.cell? ⟨w.heap.size, 1, none⟩ = some (.int .i64 m.Acct) ∧ w'.cell? ⟨w.heap.size, 2, none⟩ = some (.int .i64 m.Amt) ∧ w'.cell? ⟨w.heap.size, 3, none⟩ = some (.int .i64 m.Src))
    (first | exact ⟨c_a_0_w1, c_a_1_w1, c_a_2_w1, c_a_3_w1⟩ | exact ⟨qz1_a_0, qz1_a_1, qz1_a_2, qz1_a_3⟩ | exact ⟨qz2_a_0, qz2_a_1, qz2_a_2, qz2_a_3⟩ | exact ⟨qz3_a_0, qz3_a_1, qz3_a_2, qz3_a_3⟩ | exact ⟨qz4_a_0, qz4_a_1, qz4_a_2, qz4_a_3⟩ | go_keep)
    (first | ((go_at_call 73); (refine (sMsgName_c _ _).mono ?_); rintro e w_z1 ⟨rfl, hd_z1⟩; have hb_z1 : Below w1.heap.size w1 w_z1 := (Below.refl w1.heap.size w1).drew.trans hd_z1; have sd_z1 := hd_z1.size; replace sd_z1 : w1.heap.size ≤ w_z1.heap.size := sd_z1; have qz1_a_0 := (x_a.from_ hb_z1).cell (i := 0) rfl; have qz1_a_1 := (x_a.from_ hb_z1).cell (i := 1) rfl; have qz1_a_2 := (x_a.from_ hb_z1).cell (i := 2) rfl; have qz1_a_3 := (x_a.from_ hb_z1).cell (i := 3) rfl; rw [Hs1.out])
           | ((go_at_call_of 44 (Value.int .i64 m.Acct)); (refine (sNumText_any m.Acct _).mono ?_); rintro e w_z2 ⟨rfl, hd_z2⟩; have hb_z2 : Below w1.heap.size w1 w_z2 := hb_z1.trans (hd_z2.mono hb_z1.size); have sd_z2 := hd_z2.size; have qz2_a_0 := (x_a.from_ hb_z2).cell (i := 0) rfl; have qz2_a_1 := (x_a.from_ hb_z2).cell (i := 1) rfl; have qz2_a_2 := (x_a.from_ hb_z2).cell (i := 2) rfl; have qz2_a_3 := (x_a.from_ hb_z2).cell (i := 3) rfl; rw [Hs2.out])
           | ((go_at_call_of 44 (Value.int .i64 m.Amt)); (refine (sNumText_any m.Amt _).mono ?_); rintro e w_z3 ⟨rfl, hd_z3⟩; have hb_z3 : Below w1.heap.size w1 w_z3 := hb_z2.trans (hd_z3.mono hb_z2.size); have sd_z3 := hd_z3.size; have qz3_a_0 := (x_a.from_ hb_z3).cell (i := 0) rfl; have qz3_a_1 := (x_a.from_ hb_z3).cell (i := 1) rfl; have qz3_a_2 := (x_a.from_ hb_z3).cell (i := 2) rfl; have qz3_a_3 := (x_a.from_ hb_z3).cell (i := 3) rfl; rw [Hs3.out])
           | ((go_at_call_of 44 (Value.int .i64 m.Src)); (refine (sNumText_any m.Src _).mono ?_); rintro e w_z4 ⟨rfl, hd_z4⟩; have hb_z4 : Below w1.heap.size w1 w_z4 := hb_z3.trans (hd_z4.mono hb_z3.size); have sd_z4 := hd_z4.size; have qz4_a_0 := (x_a.from_ hb_z4).cell (i := 0) rfl; have qz4_a_1 := (x_a.from_ hb_z4).cell (i := 1) rfl; have qz4_a_2 := (x_a.from_ hb_z4).cell (i := 2) rfl; have qz4_a_3 := (x_a.from_ hb_z4).cell (i := 3) rfl; rw [Hs4.out])
           | fail)
  clear c_a_0_w1 c_a_1_w1 c_a_2_w1 c_a_3_w1
  have dz_w1 : w1.drew.heap.size = w1.heap.size := rfl
  replace x_a := x_a.from_ hb_z4
  have B_z4 := B_w1.trans (hb_z4.mono B_w1.size)
  have sz_z4 := hb_z4.size
  go_wp2
  go_ret
  exact ⟨ret_eq (by rw [HP2.out]; rfl), B_z4⟩

end Go.Proofs.YtkbhbccpmmhelaaDoor

namespace Go.Proofs.YtkbhbccpmmhelaaDoor
set_option linter.unusedVariables false

/-- words behind a first one, each behind a space -/
def joinSp (s : ByteArray) (ws : List ByteArray) : ByteArray := ws.foldl (fun a w => a ++ ⟨#[32]⟩ ++ w) s
theorem joinSp_cons (s w : ByteArray) (ws : List ByteArray) : joinSp s (w :: ws) = s ++ ⟨#[32]⟩ ++ joinSp w ws := by
  unfold joinSp
  rw [List.foldl_cons]
  generalize s ++ ⟨#[32]⟩ = a
  induction ws generalizing w with
  | nil => rfl
  | cons x xs ih => rw [List.foldl_cons, List.foldl_cons, ← ih, ByteArray.append_assoc, ByteArray.append_assoc, ByteArray.append_assoc]
theorem joinSp_append (s : ByteArray) (xs ys : List ByteArray) : joinSp s (xs ++ ys) = joinSp (joinSp s xs) ys := by unfold joinSp; rw [List.foldl_append]
def msgWords (m : MMsg) : List ByteArray := [numText m.Acct, numText m.Amt, numText m.Src]
theorem msgText_join {m : MMsg} (h : msgOkB m = true) : msgText m = joinSp (msgName m.Kind) (msgWords m) := by
  unfold msgText
  rw [if_pos h]
  rfl
/-- the words of a record behind its name -/
def recFields (r : MRec) : List ByteArray := (if kAcct r.Kind = true then [numText r.Acct] else []) ++ ((if kOther r.Kind = true then [numText r.Other] else []) ++ ((if kTo r.Kind = true then [numText r.To] else []) ++ (if kAmt r.Kind = true then [numText r.Amt] else [])))
def recWords (r : MRec) : List ByteArray := recFields r ++ (if r.Kind = 5 then msgName r.M.Kind :: msgWords r.M else [])
/-- what RecText answers -/
def recText (r : MRec) : ByteArray := if recOkB r = true then joinSp (rkName r.Kind) (recWords r) else ⟨#[]⟩

theorem joinSp_le (ws : List ByteArray) : ∀ (s : ByteArray) (n : Nat), (∀ x ∈ ws, x.size ≤ n) → (joinSp s ws).size ≤ s.size + ws.length * (n + 1) := by
  induction ws with
  | nil => intro s n _; simp [joinSp]
  | cons x xs ih =>
    intro s n h
    have e : joinSp s (x :: xs) = joinSp (s ++ ⟨#[32]⟩ ++ x) xs := rfl
    rw [e]
    have h1 := ih (s ++ ⟨#[32]⟩ ++ x) n (fun y hy => h y (List.mem_cons_of_mem _ hy))
    have h2 := h x (List.mem_cons_self ..)
    have h3 : (⟨#[32]⟩ : ByteArray).size = 1 := rfl
    simp only [ByteArray.size_append] at h1
    rw [List.length_cons, Nat.succ_mul]
    omega
theorem rkName_size (k : Int) : (rkName k).size ≤ 5 := by
  unfold rkName
  repeat (split; decide)
  decide
theorem recWords_size (r : MRec) : (∀ x ∈ recWords r, x.size ≤ 16) ∧ (recWords r).length ≤ 8 := by
  constructor
  · intro x hx
    unfold recWords recFields msgWords at hx
    simp only [List.mem_append] at hx
    rcases hx with (h | h | h | h) | h
    all_goals split at h
    all_goals first
      | (cases h; done)
      | (rw [List.mem_singleton] at h; subst h; exact numText_size _)
      | (simp only [List.mem_cons, List.not_mem_nil, or_false] at h
         rcases h with rfl | rfl | rfl | rfl
         · exact Nat.le_trans (msgName_size _) (by omega)
         · exact numText_size _
         · exact numText_size _
         · exact numText_size _)
  · unfold recWords recFields msgWords
    simp only [List.length_append]
    repeat' split
    all_goals simp
theorem recText_size (r : MRec) : (recText r).size ≤ 141 := by
  unfold recText
  split
  · have h1 := joinSp_le (recWords r) (rkName r.Kind) 16 (recWords_size r).1
    have h2 := (recWords_size r).2
    have h3 := rkName_size r.Kind
    omega
  · exact Nat.zero_le _

end Go.Proofs.YtkbhbccpmmhelaaDoor

namespace Go.Proofs.YtkbhbccpmmhelaaDoor
set_option linter.unusedVariables false

/-- the number that a word tells, or 0 -/
def txN (s : ByteArray) : Int := match textNum s with | some n => (n : Int) | none => 0
theorem textVal_txN (s : ByteArray) : textVal s = .tuple #[.int .i64 (txN s), .bool (textNum s).isSome] := by
  unfold textVal txN
  rcases textNum s with _ | n <;> rfl
theorem txN_range (s : ByteArray) : 0 ≤ txN s ∧ txN s ≤ 1125899906842624 := by
  unfold txN textNum
  split
  · rename_i n h
    split at h
    · rename_i h2
      simp only [Option.some.injEq] at h
      omega
    · cases h
  · omega
theorem txN_numText {n : Int} (h : 0 ≤ n ∧ n ≤ 1125899906842624) : txN (numText n) = n := by
  obtain ⟨k, rfl⟩ : ∃ k : Nat, n = (k : Int) := ⟨n.toNat, by omega⟩
  unfold txN
  rw [textNum_numText k (by omega)]
/-- the words from a place on as numbers, six zeros behind them -/
def numsOf (ws : List ByteArray) (at_ : Nat) : List Int := (ws.drop at_).map txN ++ [0, 0, 0, 0, 0, 0]
def kindTo (w : ByteArray) : Nat → Int
  | 0 => 0
  | k + 1 => if rkName ((k + 1 : Nat) : Int) = w then ((k + 1 : Nat) : Int) else kindTo w k
def mkindTo (w : ByteArray) : Nat → Int
  | 0 => 0
  | k + 1 => if msgName ((k + 1 : Nat) : Int) = w then ((k + 1 : Nat) : Int) else mkindTo w k
theorem kindTo_range (w : ByteArray) (n : Nat) : 0 ≤ kindTo w n ∧ kindTo w n ≤ n := by
  induction n with
  | zero => exact ⟨Int.le_refl _, Int.le_refl _⟩
  | succ n ih => unfold kindTo; split <;> omega
theorem mkindTo_range (w : ByteArray) (n : Nat) : 0 ≤ mkindTo w n ∧ mkindTo w n ≤ n := by
  induction n with
  | zero => exact ⟨Int.le_refl _, Int.le_refl _⟩
  | succ n ih => unfold mkindTo; split <;> omega
def msgOf (ws : List ByteArray) (at_ : Nat) : MMsg :=
  if ws.length ≤ at_ then ⟨0, 0, 0, 0⟩ else ⟨mkindTo (ws.getD at_ ByteArray.empty) 5, (numsOf ws (at_ + 1)).getD 0 0, (numsOf ws (at_ + 1)).getD 1 0, (numsOf ws (at_ + 1)).getD 2 0⟩
def recOf (ws : List ByteArray) : MRec :=
  let k := kindTo (ws.getD 0 ByteArray.empty) 9
  let l := numsOf ws 1
  let i1 := (kAcct k).toNat
  let i2 := i1 + (kOther k).toNat
  let i3 := i2 + (kTo k).toNat
  let i4 := i3 + (kAmt k).toNat
  ⟨k, if kAcct k = true then l.getD 0 0 else 0, if kOther k = true then l.getD i1 0 else 0, if kTo k = true then l.getD i2 0 else 0, if kAmt k = true then l.getD i3 0 else 0, if k = 5 then msgOf ws (i4 + 1) else ⟨0, 0, 0, 0⟩⟩
/-- what TextRec answers -/
def textRecB (s : ByteArray) : Bool := recOkB (recOf (splitL s 32)) && decide (recText (recOf (splitL s 32)) = s)
def textRec (s : ByteArray) : MRec := if textRecB s = true then recOf (splitL s 32) else recZ
theorem numsOf_len (ws : List ByteArray) (a : Nat) : 6 ≤ (numsOf ws a).length ∧ (numsOf ws a).length ≤ ws.length + 6 := by
  unfold numsOf
  simp
theorem extract_size (s : ByteArray) (a b : Nat) (h : b ≤ s.size) : (s.extract a b).size ≤ s.size := by
  rw [ByteArray.size_extract]; omega
theorem splitSt_size (s : ByteArray) (b : Nat) : ∀ k, k ≤ s.size → ∀ x ∈ (splitSt s b k).1, x.size ≤ s.size := by
  intro k
  induction k with
  | zero => intro _ x hx; cases hx
  | succ k ih =>
    intro hk x hx
    unfold splitSt at hx
    split at hx
    · rcases List.mem_append.1 hx with h | h
      · exact ih (by omega) x h
      · rw [List.mem_singleton] at h; subst h; exact extract_size _ _ _ (by omega)
    · exact ih (by omega) x hx
theorem splitL_size (s : ByteArray) (b : Nat) : ∀ x ∈ splitL s b, x.size ≤ s.size := by
  intro x hx
  unfold splitL at hx
  rcases List.mem_append.1 hx with h | h
  · exact splitSt_size s b _ (Nat.le_refl _) x h
  · rw [List.mem_singleton] at h; subst h; exact extract_size _ _ _ (Nat.le_refl _)
theorem getD_sz {ws : List ByteArray} {n : Nat} (h : ∀ x ∈ ws, x.size ≤ n) (j : Nat) : (ws.getD j ByteArray.empty).size ≤ n := by
  by_cases hj : j < ws.length
  · rw [show ws.getD j ByteArray.empty = ws[j] by simp [hj]]
    exact h _ (List.getElem_mem hj)
  · rw [show ws.getD j ByteArray.empty = ByteArray.empty by simp; rw [List.getElem?_eq_none (by omega)]; rfl]
    exact Nat.zero_le _

end Go.Proofs.YtkbhbccpmmhelaaDoor
