/- Contracts of NumText and TextNum, of the specification's side and the program's. -/
import Derived.Test.YtfdhilpmblbkfaaDoorShelf
import Derived.Test.YtfdhilpmblbkfaaDoorPutNum
import Derived.Test.YtfdhilpmblbkfaaDoorTextMath
import Derived.Test.YtfdhilpmblbkfaaDoorConv
import Derived.Test.YtfdhilpmblbkfaaDoorSplitMath
import Derived.Lib.OthersKept
import Derived.Lib.AppendIntMem
namespace Go.Proofs.YtfdhilpmblbkfaaDoor
open Go.RowKit
set_option linter.unusedVariables false

/-- the library's table of powers of ten lies in the world -/
def Tab10 (w : World) : Prop := Lib.TabIs Tryd.prog w "internal/strconv.uint64pow10" .u64 Lib.pow10Tab

set_option maxHeartbeats 400000 in
theorem iNumText_any (n : Int) (w : World) (ht : Tab10 w) (h0 : -9223372036854775808 ≤ n) (h1 : n ≤ 9223372036854775807) :
    Calls Tryd.prog 13 #[.int .i64 n] w fun e w' => e = .returned (.string (numText n)) ∧ Below w.heap.size w w' := by
  by_cases hN : 0 ≤ n ∧ n ≤ 1125899906842624
  · have HB := Lib.hid (numB_true.2 hN)
    have HT : Hid (numText n = ⟨(Lib.itoa n).toArray⟩) := by
      show _ = _
      unfold numText Lib.itoa
      rw [if_pos HB.out, if_neg (by omega)]
    go_enter Tryd.func13, Tryd.ntmps13
    go_wp2_with fail
    refine (iNum_any _ _).mono ?_
    rintro e w' ⟨rfl, rfl⟩
    rw [HB.out]
    go_wp2_with fail
    refine (Tryd.strconv_Itoa n h0 h1 w ht).mono ?_
    rintro e w1 ⟨rfl, k, os, rfl⟩
    rw [← HT.out]
    have hb := Lib.below_grow w.heap.size w (Nat.le_refl _) k os
    go_wp2
    go_ret
    exact ⟨rfl, hb⟩
  · have HB := Lib.hid (numB_false.2 hN)
    have HT : Hid (numText n = ⟨#[]⟩) := by
      show _ = _
      unfold numText
      rw [HB.out]; simp
    clear hN
    go_enter Tryd.func13, Tryd.ntmps13
    go_wp2_with fail
    refine (iNum_any _ _).mono ?_
    rintro e w' ⟨rfl, rfl⟩
    rw [HB.out]
    go_wp2
    go_ret
    exact ⟨ret_eq (by rw [HT.out]; rfl), Below.refl _ _⟩

set_option maxHeartbeats 1000000 in
theorem sNumText_any (n : Int) (w : World) :
    Calls Tryd.prog 14 #[.int .i64 n] w fun e w' => e = .returned (.string (numText n)) ∧ Below w.heap.size w w' := by
  have kc := conv_one
  by_cases hN : 0 ≤ n ∧ n ≤ 1125899906842624
  · have HB := Lib.hid (numB_true.2 hN)
    obtain ⟨N, rfl⟩ : ∃ N : Nat, n = (N : Int) := ⟨n.toNat, by omega⟩
    have HT : Hid (numText (N : Int) = ⟨(Lib.decDigits N).toArray⟩) := by
      show _ = _
      unfold numText
      rw [if_pos HB.out, Int.toNat_natCast]
    have hN1 : N ≤ 1125899906842624 := by omega
    clear hN
    go_enter Tryd.func14, Tryd.ntmps14
    go_wp2_with fail
    refine (sNum_any _ _).mono ?_
    rintro e w' ⟨rfl, rfl⟩
    rw [HB.out]
    go_wp2
    go_loopw [0, 3] (fun sk sa wr => ∃ (m : Nat) (acc : ByteArray), sk = .int .i64 m ∧ sa = .string acc ∧ Hid (Lib.decDigits m ++ acc.data.toList = Lib.decDigits N) ∧ acc.size + m ≤ N ∧ Below w.heap.size w wr) (fun sk _ _ => (intOf sk).toNat)
    case atStart => exact ⟨N, ⟨#[]⟩, rfl, rfl, List.append_nil _, by simp [ByteArray.size], Below.refl _ _⟩
    case round =>
      obtain ⟨m, acc, rfl, rfl, HD, hle, hbr⟩ := hrel
      by_cases hm : m < 10
      · have HE := Lib.hid (text_end HD.out hm)
        have hsz : (strOfNums [(48 : Int) + (m : Int)]).size = 1 := by rw [strOfNums_size]; rfl
        have i1 : (m : Int) ≤ 9 := by omega
        go_wp2
        go_ret
        exact ⟨ret_eq (by rw [HT.out, ← HE.out]; rfl), hbr.alloc hbr.size _⟩
      · have HE := Lib.hid (text_step HD.out hm)
        have hsz : (strOfNums [(48 : Int) + (m : Int) % 10]).size = 1 := by rw [strOfNums_size]; rfl
        have i1 : (9 : Int) < (m : Int) := by omega
        go_wp2
        go_roundw
        case rel => exact ⟨m / 10, _, by go_num, rfl, HE, by rw [ByteArray.size_append, hsz]; omega, hbr.alloc hbr.size _⟩
        case measure => simp [intOf]; omega
  · have HB := Lib.hid (numB_false.2 hN)
    have HT : Hid (numText n = ⟨#[]⟩) := by
      show _ = _
      unfold numText
      rw [HB.out]; simp
    clear hN
    go_enter Tryd.func14, Tryd.ntmps14
    go_wp2_with fail
    refine (sNum_any _ _).mono ?_
    rintro e w' ⟨rfl, rfl⟩
    rw [HB.out]
    go_wp2
    go_ret
    exact ⟨ret_eq (by rw [HT.out]; rfl), Below.refl _ _⟩

set_option maxHeartbeats 1000000 in
theorem sTextNum_any (s : ByteArray) (w : World) (hs : s.size ≤ 1073741824) :
    Calls Tryd.prog 15 #[.string s] w fun e w' => e = .returned (textVal s) ∧ Below w.heap.size w w' := by
  by_cases h0 : s.size = 0
  · have HV := Lib.hid (textVal_none (textNum_empty h0))
    have i0 : ((s.size : Int) == 0) = true := by simp [h0]
    clear h0
    go_enter Tryd.func15, Tryd.ntmps15
    go_wp2
    go_ret2
    exact ⟨ret_eq HV.out.symm, Below.refl _ _⟩
  · by_cases h16 : 16 < s.size
    · have HV := Lib.hid (textVal_none (textNum_long h16))
      have i0 : ((s.size : Int) == 0) = false := by rw [beq_eq_false_iff_ne]; omega
      have i1 : (16 : Int) < (s.size : Int) := by omega
      go_enter Tryd.func15, Tryd.ntmps15
      go_wp2
      go_ret2
      exact ⟨ret_eq HV.out.symm, Below.refl _ _⟩
    · have i0 : ((s.size : Int) == 0) = false := by rw [beq_eq_false_iff_ne]; omega
      have i1 : decide ((16 : Int) < (s.size : Int)) = false := by simp; omega
      have hsz : s.size ≤ 16 := by omega
      go_enter Tryd.func15, Tryd.ntmps15
      go_wp2
      go_loop [4, 5] (fun sn si => ∃ k m : Nat, k ≤ s.size ∧ si = .int .i64 k ∧ sn = .int .i64 m ∧ m < 10000000000000000 ∧ Hid (m = val (s.data.toList.take k)) ∧ Hid ((s.data.toList.take k).all isDig = true)) (fun _ si => s.size - (intOf si).toNat)
      case atStart => exact ⟨0, 0, by omega, rfl, rfl, by omega, rfl, rfl⟩
      case round =>
        obtain ⟨k, m, hk, rfl, rfl, hm, HM, HD⟩ := hrel
        by_cases hlt : k < s.size
        · have hg := get_bang s k hlt
          obtain ⟨x, hx⟩ : ∃ x, (s[k]'hlt).toNat = x := ⟨_, rfl⟩
          rw [← hg] at hx
          have HX := Lib.hid hx
          have hx256 : x < 256 := by rw [← hx]; exact (s.get! k).toNat_lt
          rw [hg] at hx
          clear hg
          have j1 : (k : Int) < (s.size : Int) := by omega
          by_cases hd : 48 ≤ x ∧ x ≤ 57
          · obtain ⟨m2, hm2⟩ : ∃ m2, m * 10 + (x - 48) = m2 := ⟨_, rfl⟩
            have HM2 : Hid (m2 = val (s.data.toList.take (k + 1))) := by
              show _ = _
              rw [val_take s k hlt, ← HM.out, HX.out, hm2]
            have HD2 := Lib.hid (dig_take s k hlt HD.out (by rw [HX.out]; exact hd))
            have hm3 : m2 < 10000000000000000 := by rw [HM2.out]; exact val_small s (k + 1) (by omega) HD2.out
            have hm4 : (m : Int) * 10 + ((x : Int) - 48) = (m2 : Int) := by omega
            clear hm2
            obtain ⟨hd1, hd2⟩ := hd
            have j2 : (48 : Int) ≤ (x : Int) := by omega
            have j3 : (x : Int) ≤ 57 := by omega
            go_wp2
            go_round
            case rel => exact ⟨k + 1, m2, by omega, by go_num, by go_num, hm3, HM2, HD2⟩
            case measure => simp [intOf]; omega
          · have HV := Lib.hid (textVal_none (textNum_bad hlt (by rw [HX.out]; exact hd)))
            by_cases hd1 : 48 ≤ x
            · have j2 : (48 : Int) ≤ (x : Int) := by omega
              have j3 : (57 : Int) < (x : Int) := by omega
              clear hd
              go_wp2
              go_ret2
              exact ⟨ret_eq HV.out.symm, Below.refl _ _⟩
            · have j2 : (x : Int) < 48 := by omega
              clear hd
              go_wp2
              go_ret2
              exact ⟨ret_eq HV.out.symm, Below.refl _ _⟩
        · have hk2 : k = s.size := by omega
          subst hk2
          have hM := HM.out
          rw [show s.data.toList.take s.size = s.data.toList from List.take_of_length_le (Nat.le_of_eq Array.length_toList)] at hM
          have HM2 := Lib.hid hM
          clear hM
          go_wp2_with fail
          refine (sNumText_any _ _).mono ?_
          rintro e w1 ⟨rfl, hb1⟩
          obtain ⟨T, hT⟩ : ∃ T, numText (m : Int) = T := ⟨_, rfl⟩
          rw [hT]
          by_cases hTs : T = s
          · have HV := Lib.hid (textVal_some (textNum_same (s := s) (by rw [← HM2.out, hT]; exact hTs) (by omega)))
            rw [← HM2.out] at HV
            clear hT
            subst hTs
            go_wp2
            go_ret2
            exact ⟨ret_eq HV.out.symm, hb1⟩
          · have HV := Lib.hid (textVal_none (textNum_other (s := s) (by rw [← HM2.out, hT]; exact hTs)))
            clear hT
            have hne : (T.toList == s.toList) = false := by rw [str_same]; simpa using hTs
            have hne2 : (T.toList != s.toList) = true := by simp only [bne, hne]; rfl
            go_wp2
            go_ret2
            exact ⟨ret_eq HV.out.symm, hb1⟩

theorem Tab10.below {w w' : World} (h : Tab10 w) (hb : Below w.heap.size w w') : Tab10 w' := by
  unfold Tab10 Lib.TabIs World.var? at h ⊢
  rcases hg : Tryd.prog.globalNamed "internal/strconv.uint64pow10" with _ | g
  · rw [hg] at h; cases h
  · rw [hg] at h
    simp only [Option.bind_some] at h ⊢
    have hlt : g < w.heap.size := by
      rcases Nat.lt_or_ge g w.heap.size with h' | h'
      · exact h'
      · rw [Array.getElem?_eq_none h'] at h; cases h
    rw [hb.block g hlt]
    exact h

set_option maxHeartbeats 1000000 in
theorem iTextNum_any (s : ByteArray) (w : World) (ht : Tab10 w) (hs : s.size ≤ 1073741824) :
    Calls Tryd.prog 12 #[.string s] w fun e w' => e = .returned (textVal s) ∧ Below w.heap.size w w' := by
  go_enter Tryd.func12, Tryd.ntmps12
  go_wp2
  go_loopw [4] (fun sn wr => ∃ p m : Nat, p ≤ s.size ∧ sn = .int .i64 m ∧ m ≤ 1125899906842624 ∧ wr.heap[w.heap.size]? = some (.stringIter s p) ∧ Hid (m = val (s.data.toList.take p)) ∧ Below w.heap.size w wr) (fun _ wr => s.size - wr.iterPos w.heap.size)
  case atStart => exact ⟨0, 0, by omega, rfl, by omega, World.iter_heap w s 0, rfl, (Below.refl _ _).alloc (Nat.le_refl _) _⟩
  case round =>
    obtain ⟨p, m, hp, rfl, hm, hit, HM, hbr⟩ := hrel
    have hsz := hbr.size
    have hpos : wr.iterPos w.heap.size = p := by unfold World.iterPos; rw [hit]
    have HP := Lib.hid hpos
    clear hpos
    by_cases hlt : p < s.size
    · have hg := get_bang s p hlt
      have hnx := fun ty => Lib.run_next_any_at (P := Tryd.prog) wr w.heap.size s p ty hit hlt
      obtain ⟨r, wd, hd⟩ : ∃ r wd, Utf8.decode s p = (r, wd) := ⟨_, _, rfl⟩
      rw [hd] at hnx
      have hle := decode_le s p
      rw [hd] at hle
      obtain ⟨wn, hwn⟩ : ∃ wn, wr.iterAt w.heap.size s (p + wd) = wn := ⟨_, rfl⟩
      have hbrN := Lib.below_iterAt hbr (k := w.heap.size) (Nat.le_refl _) s (p + wd)
      have hitN := Lib.iterAt_heap wr w.heap.size s p (p + wd) hit
      dsimp only at hnx hle
      rw [hwn] at hbrN hitN hnx
      clear hwn hbr hit
      by_cases hdg : 48 ≤ r ∧ r ≤ 57
      · have hasc : (s.get! p).toNat < 128 := by
          rcases Nat.lt_or_ge (s.get! p).toNat 128 with h | h
          · exact h
          · have := decode_high s p hlt (by rw [← hg]; exact h)
            rw [hd] at this
            omega
        have h1 := decode_ascii s p hlt (by rw [← hg]; exact hasc)
        rw [hd, ← hg] at h1
        simp only [Prod.mk.injEq] at h1
        obtain ⟨h1, rfl⟩ := h1
        obtain ⟨m2, hm2⟩ : ∃ m2, m * 10 + (r - 48) = m2 := ⟨_, rfl⟩
        have HM2 : Hid (m2 = val (s.data.toList.take (p + 1))) := by
          show _ = _
          rw [val_take s p hlt, ← HM.out, ← h1, hm2]
        have hm4 : (m : Int) * 10 + ((r : Int) - 48) = (m2 : Int) := by omega
        have hposN : wn.iterPos w.heap.size = p + 1 := by unfold World.iterPos; rw [hitN]
        have HPN := Lib.hid hposN
        have HIN := Lib.hid hitN
        obtain ⟨hd1, hd2⟩ := hdg
        have j2 : (48 : Int) ≤ (r : Int) := by omega
        have j3 : (r : Int) ≤ 57 := by omega
        clear hm2 hd h1 hg hposN hitN hasc
        by_cases hgr : m2 ≤ 1125899906842624
        · have j4 : (m2 : Int) ≤ 1125899906842624 := by omega
          go_wp2
          go_roundw
          case rel => exact ⟨p + 1, m2, by omega, by go_num, hgr, HIN.out, HM2, hbrN⟩
          case measure => rw [HPN.out, HP.out]; omega
        · have HV := Lib.hid (textVal_none (textNum_great (s := s) (k := p + 1) (by rw [← HM2.out]; omega)))
          have j4 : (1125899906842624 : Int) < (m2 : Int) := by omega
          go_wp2
          go_ret2
          exact ⟨ret_eq HV.out.symm, hbrN⟩
      · have hbad : ¬ (48 ≤ (s.get! p).toNat ∧ (s.get! p).toNat ≤ 57) := by
          rcases Nat.lt_or_ge (s.get! p).toNat 128 with h | h
          · have h1 := decode_ascii s p hlt (by rw [← hg]; exact h)
            rw [hd, ← hg] at h1
            simp only [Prod.mk.injEq] at h1
            omega
          · omega
        have HV := Lib.hid (textVal_none (textNum_bad hlt hbad))
        clear hbad hd hg hitN
        by_cases hd1 : 48 ≤ r
        · have j2 : (48 : Int) ≤ (r : Int) := by omega
          have j3 : (57 : Int) < (r : Int) := by omega
          clear hdg
          go_wp2
          go_ret2
          exact ⟨ret_eq HV.out.symm, hbrN⟩
        · have j2 : (r : Int) < 48 := by omega
          clear hdg
          go_wp2
          go_ret2
          exact ⟨ret_eq HV.out.symm, hbrN⟩
    · have hp2 : p = s.size := by omega
      subst hp2
      have hnx := fun ty => Lib.run_next_end_at (P := Tryd.prog) wr w.heap.size s s.size ty hit hlt
      have hM := HM.out
      rw [show s.data.toList.take s.size = s.data.toList from List.take_of_length_le (Nat.le_of_eq Array.length_toList)] at hM
      have HM2 := Lib.hid hM
      clear hM hit HP
      go_wp2_with fail
      refine (iNumText_any _ wr (ht.below hbr) (by omega) (by omega)).mono ?_
      rintro e w1 ⟨rfl, hb1⟩
      have hb2 := hbr.trans (hb1.mono hsz)
      obtain ⟨T, hT⟩ : ∃ T, numText (m : Int) = T := ⟨_, rfl⟩
      rw [hT]
      clear hnx
      by_cases hTs : T = s
      · by_cases hs0 : 0 < s.size
        · have HV := Lib.hid (textVal_some (textNum_same (s := s) (by rw [← HM2.out, hT]; exact hTs) hs0))
          rw [← HM2.out] at HV
          clear hT
          subst hTs
          go_wp2
          go_ret2
          exact ⟨ret_eq HV.out.symm, hb2⟩
        · exfalso
          have h1 := (numText_eq (s := s) hm).1 (hT.trans hTs)
          have h2 := dec_pos m
          rw [h1, show s.data.toList.length = s.size from Array.length_toList] at h2
          omega
      · have HV := Lib.hid (textVal_none (textNum_other (s := s) (by rw [← HM2.out, hT]; exact hTs)))
        clear hT
        have hne : (T.toList == s.toList) = false := by rw [str_same]; simpa using hTs
        have hne2 : (T.toList != s.toList) = true := by simp only [bne, hne]; rfl
        go_wp2
        go_ret2
        exact ⟨ret_eq HV.out.symm, hb2⟩

end Go.Proofs.YtfdhilpmblbkfaaDoor
