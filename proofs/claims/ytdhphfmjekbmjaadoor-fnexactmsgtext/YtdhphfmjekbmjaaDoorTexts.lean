/- Contracts of NumText and TextNum, of the specification's side and the program's. -/
import Derived.Test.YtdhphfmjekbmjaaDoorShelf
import Derived.Test.YtdhphfmjekbmjaaDoorPutNum
import Derived.Test.YtdhphfmjekbmjaaDoorTextMath
import Derived.Test.YtdhphfmjekbmjaaDoorConv
import Derived.Test.YtdhphfmjekbmjaaDoorSplitMath
import Derived.Lib.OthersKept
import Derived.Lib.AppendIntMem
namespace Go.Proofs.YtdhphfmjekbmjaaDoor
open Go.RowKit
set_option linter.unusedVariables false

/-- the library's table of powers of ten lies in the world -/
def Tab10 (w : World) : Prop := Lib.TabIs Tryd.prog w "internal/strconv.uint64pow10" .u64 Lib.pow10Tab

set_option maxHeartbeats 400000 in
theorem iNumText_any (n : Int) (w : World) (ht : Tab10 w) (h0 : -9223372036854775808 ≤ n) (h1 : n ≤ 9223372036854775807) :
    Calls Tryd.prog 12 #[.int .i64 n] w fun e w' => e = .returned (.string (numText n)) ∧ Below w.heap.size w w' := by
  by_cases hN : 0 ≤ n ∧ n ≤ 1125899906842624
  · have HB := Lib.hid (numB_true.2 hN)
    have HT : Hid (numText n = ⟨(Lib.itoa n).toArray⟩) := by
      show _ = _
      unfold numText Lib.itoa
      rw [if_pos HB.out, if_neg (by omega)]
    go_enter Tryd.func12, Tryd.ntmps12
    go_wp2_with fail
    refine (iNum_any _ _).mono ?_
    rintro e w' ⟨rfl, rfl⟩
    rw [HB.out]
    go_wp2_with fail
    refine (Tryd.strconv_Itoa n h0 h1 w ht).mono ?_
    rintro e w1 ⟨rfl, k, os, rfl⟩
    rw [← HT.out]
    have hb := Lib.below_grow w.heap.size w (Nat.le_refl _) k os
    go_wp2
    go_ret
    exact ⟨rfl, hb⟩
  · have HB := Lib.hid (numB_false.2 hN)
    have HT : Hid (numText n = ⟨#[]⟩) := by
      show _ = _
      unfold numText
      rw [HB.out]; simp
    clear hN
    go_enter Tryd.func12, Tryd.ntmps12
    go_wp2_with fail
    refine (iNum_any _ _).mono ?_
    rintro e w' ⟨rfl, rfl⟩
    rw [HB.out]
    go_wp2
    go_ret
    exact ⟨ret_eq (by rw [HT.out]; rfl), Below.refl _ _⟩

set_option maxHeartbeats 1000000 in
theorem sNumText_any (n : Int) (w : World) :
    Calls Tryd.prog 9 #[.int .i64 n] w fun e w' => e = .returned (.string (numText n)) ∧ Below w.heap.size w w' := by
  have kc := conv_one
  by_cases hN : 0 ≤ n ∧ n ≤ 1125899906842624
  · have HB := Lib.hid (numB_true.2 hN)
    obtain ⟨N, rfl⟩ : ∃ N : Nat, n = (N : Int) := ⟨n.toNat, by omega⟩
    have HT : Hid (numText (N : Int) = ⟨(Lib.decDigits N).toArray⟩) := by
      show _ = _
      unfold numText
      rw [if_pos HB.out, Int.toNat_natCast]
    have hN1 : N ≤ 1125899906842624 := by omega
    clear hN
    go_enter Tryd.func9, Tryd.ntmps9
    go_wp2_with fail
    refine (sNum_any _ _).mono ?_
    rintro e w' ⟨rfl, rfl⟩
    rw [HB.out]
    go_wp2
    go_loopw [0, 3] (fun sk sa wr => ∃ (m : Nat) (acc : ByteArray), sk = .int .i64 m ∧ sa = .string acc ∧ Hid (Lib.decDigits m ++ acc.data.toList = Lib.decDigits N) ∧ acc.size + m ≤ N ∧ Below w.heap.size w wr) (fun sk _ _ => (intOf sk).toNat)
    case atStart => exact ⟨N, ⟨#[]⟩, rfl, rfl, List.append_nil _, by simp [ByteArray.size], Below.refl _ _⟩
    case round =>
      obtain ⟨m, acc, rfl, rfl, HD, hle, hbr⟩ := hrel
      by_cases hm : m < 10
      · have HE := Lib.hid (text_end HD.out hm)
        have hsz : (strOfNums [(48 : Int) + (m : Int)]).size = 1 := by rw [strOfNums_size]; rfl
        have i1 : (m : Int) ≤ 9 := by omega
        go_wp2
        go_ret
        exact ⟨ret_eq (by rw [HT.out, ← HE.out]; rfl), hbr.alloc hbr.size _⟩
      · have HE := Lib.hid (text_step HD.out hm)
        have hsz : (strOfNums [(48 : Int) + (m : Int) % 10]).size = 1 := by rw [strOfNums_size]; rfl
        have i1 : (9 : Int) < (m : Int) := by omega
        go_wp2
        go_roundw
        case rel => exact ⟨m / 10, _, by go_num, rfl, HE, by rw [ByteArray.size_append, hsz]; omega, hbr.alloc hbr.size _⟩
        case measure => simp [intOf]; omega
  · have HB := Lib.hid (numB_false.2 hN)
    have HT : Hid (numText n = ⟨#[]⟩) := by
      show _ = _
      unfold numText
      rw [HB.out]; simp
    clear hN
    go_enter Tryd.func9, Tryd.ntmps9
    go_wp2_with fail
    refine (sNum_any _ _).mono ?_
    rintro e w' ⟨rfl, rfl⟩
    rw [HB.out]
    go_wp2
    go_ret
    exact ⟨ret_eq (by rw [HT.out]; rfl), Below.refl _ _⟩

theorem Tab10.below {w w' : World} (h : Tab10 w) (hb : Below w.heap.size w w') : Tab10 w' := by
  unfold Tab10 Lib.TabIs World.var? at h ⊢
  rcases hg : Tryd.prog.globalNamed "internal/strconv.uint64pow10" with _ | g
  · rw [hg] at h; cases h
  · rw [hg] at h
    simp only [Option.bind_some] at h ⊢
    have hlt : g < w.heap.size := by
      rcases Nat.lt_or_ge g w.heap.size with h' | h'
      · exact h'
      · rw [Array.getElem?_eq_none h'] at h; cases h
    rw [hb.block g hlt]
    exact h

end Go.Proofs.YtdhphfmjekbmjaaDoor
