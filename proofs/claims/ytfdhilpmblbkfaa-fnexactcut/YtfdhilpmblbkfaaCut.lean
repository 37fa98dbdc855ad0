/- Contracts of Cut and Lines, of the specification's side and the program's. -/
import Derived.Test.YtfdhilpmblbkfaaSplit
import Derived.WalkSmall
namespace Go.Proofs.Ytfdhilpmblbkfaa
open Go.RowKit
set_option linter.unusedVariables false

set_option maxHeartbeats 400000 in
theorem sCut_c {w : World} (s : ByteArray) (hs : s.size ≤ 1048576) : Calls Try.prog 28 #[.string s] w (NewT w (splitL s 32)) := by
  go_enter Try.func28, Try.ntmps28
  go_wp2_with fail
  refine (sSplit_any s 32 w (by omega) (by omega)).mono ?_
  rintro e w1 ⟨v, rfl, ho, hb⟩
  go_wp2
  go_ret
  exact ⟨v, rfl, ho, hb⟩

set_option maxHeartbeats 400000 in
theorem iCut_c {w : World} (s : ByteArray) (hs : s.size ≤ 1048576) : Calls Try.prog 29 #[.string s] w (NewT w (splitL s 32)) := by
  go_enter Try.func29, Try.ntmps29
  go_wp2_with fail
  refine (iSplit_any s 32 w (by omega) (by omega)).mono ?_
  rintro e w1 ⟨v, rfl, ho, hb⟩
  go_wp2
  go_ret
  exact ⟨v, rfl, ho, hb⟩

/-- the lines: an empty last piece is left out -/
def linesL (s : ByteArray) : List ByteArray := if (splitL s 10).getD ((splitL s 10).length - 1) ByteArray.empty = ByteArray.empty then (splitL s 10).dropLast else splitL s 10

theorem linesL_len (s : ByteArray) : (linesL s).length ≤ s.size + 1 := by
  have := splitL_len s 10
  unfold linesL
  split
  · rw [List.length_dropLast]; omega
  · exact this

theorem own_pop {w : World} {lo hi : Nat} {e : TypeId} {g n c : Nat} {xs : List ByteArray} (h : OSF Value.string e w lo hi (.slice (some ⟨g, 0, none⟩) n c) xs) (hx : xs ≠ []) :
    OSF Value.string e w lo hi (.slice (some ⟨g, 0, none⟩) (xs.length - 1) c) xs.dropLast := by
  obtain rfl := h.1.len
  obtain ⟨m, hm⟩ : ∃ m, xs.length = m + 1 := ⟨xs.length - 1, by have := List.length_pos_iff.2 hx; omega⟩
  have e1 : xs.dropLast.map Value.string ++ [Value.string (xs.getLast hx)] = xs.map Value.string := by
    conv => rhs; rw [← List.dropLast_concat_getLast hx]
    rw [List.map_append]; rfl
  have h1 := h.1
  unfold OwnF at h1
  rw [hm, ← e1] at h1
  have h2 := ownsRow_pop (by rw [List.length_map, List.length_dropLast, hm]; omega) h1
  refine ⟨?_, h.2.1, h.2.2⟩
  unfold OwnF
  rw [List.length_dropLast, hm, Nat.add_sub_cancel]
  exact h2

theorem own_slice {w : World} {lo hi : Nat} {e : TypeId} {v : Value} {xs : List ByteArray} (h : OSF Value.string e w lo hi v xs) (hx : xs ≠ []) : ∃ g c, v = .slice (some ⟨g, 0, none⟩) xs.length c ∧ xs.length ≤ c ∧ c ≤ maxLen := by
  have hl := List.length_pos_iff.2 hx
  rcases h.1.2 with ⟨rfl, h0⟩ | ⟨g, cap, cur, rfl, _, _, hn, hm, _⟩
  · omega
  · exact ⟨g, cap, rfl, hn, hm⟩

theorem str_empty (s : ByteArray) : (s.toList == []) = decide (s = ByteArray.empty) := by
  have := str_same s ByteArray.empty
  rw [show ByteArray.empty.toList = [] from by rw [ByteArray.toList_eq]; rfl] at this
  exact this

set_option maxHeartbeats 1000000 in
theorem sLines_c {w : World} (s : ByteArray) (hs : s.size ≤ 1048576) : Calls Try.prog 33 #[.string s] w (NewT w (linesL s)) := by
  go_enter Try.func33, Try.ntmps33
  go_wp2_with fail
  refine (sSplit_any s 10 w (by omega) (by omega)).mono ?_
  rintro e w1 ⟨v, rfl, ho, hb⟩
  obtain ⟨xs, hxs⟩ : ∃ xs, splitL s 10 = xs := ⟨_, rfl⟩
  have hne := splitL_ne s 10
  have hlen := splitL_len s 10
  rw [hxs] at ho hne hlen
  have HX := Lib.hid hxs
  clear hxs
  obtain ⟨g, c, rfl, hc1, hc2⟩ := own_slice ho hne
  unfold maxLen at hc2
  have hl := List.length_pos_iff.2 hne
  have hcell := ho.1.cell_ (d := ByteArray.empty) (j := xs.length - 1) (by omega)
  obtain ⟨T, hT⟩ : ∃ T, xs.getD (xs.length - 1) ByteArray.empty = T := ⟨_, rfl⟩
  rw [hT] at hcell
  have HT := Lib.hid hT
  clear hT
  obtain ⟨m, hm⟩ : ∃ m, xs.length - 1 = m := ⟨_, rfl⟩
  rw [hm] at hcell
  have hm1 : (xs.length : Int) - 1 = (m : Int) := by omega
  have hm2 : m < xs.length := by omega
  have hE := str_empty T
  by_cases hTe : T = ByteArray.empty
  · have hE2 : (T.toList == []) = true := by rw [hE]; simpa using hTe
    clear hE
    have hp := own_pop ho hne
    rw [hm] at hp
    have HL : Hid (linesL s = xs.dropLast) := by
      show _ = _
      unfold linesL; rw [HX.out, HT.out, if_pos hTe]
    clear hTe hm
    go_wp2
    go_ret
    rw [HL.out]
    exact ⟨_, rfl, hp, hb⟩
  · have hE2 : (T.toList == []) = false := by rw [hE]; simpa using hTe
    clear hE
    have HL : Hid (linesL s = xs) := by
      show _ = _
      unfold linesL; rw [HX.out, HT.out, if_neg hTe]
    clear hTe hm
    go_wp2
    go_ret
    rw [HL.out]
    exact ⟨_, rfl, ho, hb⟩

set_option maxHeartbeats 1000000 in
theorem iLines_c {w : World} (s : ByteArray) (hs : s.size ≤ 1048576) : Calls Try.prog 34 #[.string s] w (NewT w (linesL s)) := by
  go_enter Try.func34, Try.ntmps34
  go_wp2_with fail
  refine (iSplit_any s 10 w (by omega) (by omega)).mono ?_
  rintro e w1 ⟨v, rfl, ho, hb⟩
  obtain ⟨xs, hxs⟩ : ∃ xs, splitL s 10 = xs := ⟨_, rfl⟩
  have hne := splitL_ne s 10
  have hlen := splitL_len s 10
  rw [hxs] at ho hne hlen
  have HX := Lib.hid hxs
  clear hxs
  obtain ⟨g, c, rfl, hc1, hc2⟩ := own_slice ho hne
  unfold maxLen at hc2
  have hl := List.length_pos_iff.2 hne
  have hcell := ho.1.cell_ (d := ByteArray.empty) (j := xs.length - 1) (by omega)
  obtain ⟨T, hT⟩ : ∃ T, xs.getD (xs.length - 1) ByteArray.empty = T := ⟨_, rfl⟩
  rw [hT] at hcell
  have HT := Lib.hid hT
  clear hT
  obtain ⟨m, hm⟩ : ∃ m, xs.length - 1 = m := ⟨_, rfl⟩
  rw [hm] at hcell
  have hm1 : (xs.length : Int) - 1 = (m : Int) := by omega
  have hm2 : m < xs.length := by omega
  have hE := str_empty T
  by_cases hTe : T = ByteArray.empty
  · have hE2 : (T.toList == []) = true := by rw [hE]; simpa using hTe
    clear hE
    have hp := own_pop ho hne
    rw [hm] at hp
    have HL : Hid (linesL s = xs.dropLast) := by
      show _ = _
      unfold linesL; rw [HX.out, HT.out, if_pos hTe]
    clear hTe hm
    go_wp2
    go_ret
    rw [HL.out]
    exact ⟨_, rfl, hp, hb⟩
  · have hE2 : (T.toList == []) = false := by rw [hE]; simpa using hTe
    clear hE
    have HL : Hid (linesL s = xs) := by
      show _ = _
      unfold linesL; rw [HX.out, HT.out, if_neg hTe]
    clear hTe hm
    go_wp2
    go_ret
    rw [HL.out]
    exact ⟨_, rfl, ho, hb⟩
end Go.Proofs.Ytfdhilpmblbkfaa
