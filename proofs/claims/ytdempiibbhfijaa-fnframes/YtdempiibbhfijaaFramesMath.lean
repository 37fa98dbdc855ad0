/- Two frames, one behind the other: read as they were written; cut inside the first: none; a byte of the second turned from its sum on: the first alone. -/
import Derived.Test.YtdempiibbhfijaaFrame3
namespace Go.Proofs.Ytdempiibbhfijaa

section
variable (pre l : List Int) (k : Nat)
theorem lenAt_pre : lenAt (pre ++ l) (pre.length + k) = lenAt l k := by
  unfold lenAt
  rw [getD_pre, Nat.add_assoc, getD_pre]
theorem sumAt_pre : sumAt (pre ++ l) (pre.length + k) = sumAt l k := by
  unfold sumAt
  rw [getD_pre, Nat.add_assoc, getD_pre, Nat.add_assoc, getD_pre, Nat.add_assoc, getD_pre]
theorem payAt_pre : payAt (pre ++ l) (pre.length + k) = payAt l k := by
  unfold payAt
  rw [lenAt_pre, Nat.add_assoc, List.drop_append, List.drop_of_length_le (by omega), List.nil_append, Nat.add_sub_cancel_left]
theorem isFrame_pre : isFrame (pre ++ l) (pre.length + k) ↔ isFrame l k := by
  unfold isFrame
  rw [lenAt_pre, payAt_pre, Nat.add_assoc pre.length k 2, sumAt_pre, List.length_append]
  constructor
  · rintro ⟨h1, h2, h3, h4, h5⟩
    exact ⟨by omega, h2, h3, by omega, h5⟩
  · rintro ⟨h1, h2, h3, h4, h5⟩
    exact ⟨by omega, h2, h3, by omega, h5⟩
end

section
variable {a b : List Int} (ha : frameB a = true) (hb : frameB b = true) (ba : Bytes a) (bb : Bytes b)
include ha ba in
theorem scan_first (l : List Int) : scanFrom (frame a ++ l) 0 = (a :: (scanFrom (frame a ++ l) (frame a).length).1, (scanFrom (frame a ++ l) (frame a).length).2) := by
  have h := scanFrom_frame [] a l ha ba
  rw [List.nil_append, List.length_nil, Nat.zero_add, Nat.add_comm 6] at h
  rw [h, frame_len]

include ha hb ba bb in
/-- (1) read as they were written -/
theorem scan_two : scanL (frame a ++ frame b) = [a, b] ∧ scanP (frame a ++ frame b) = ((frame a ++ frame b).length : Int) := by
  have h1 := scan_first ha ba (frame b)
  have h2 := scanFrom_frame (frame a) b [] hb bb
  rw [List.append_nil] at h2
  have h3 : scanFrom (frame a ++ frame b) ((frame a).length + 6 + b.length) = ([], (frame a).length + 6 + b.length) :=
    scanFrom_no (fun h => by have := h.1; rw [List.length_append, frame_len b] at this; omega)
  rw [h3] at h2
  rw [h2] at h1
  unfold scanL scanP
  rw [h1]
  refine ⟨rfl, ?_⟩
  show (((frame a).length + 6 + b.length : Nat) : Int) = _
  rw [List.length_append, frame_len b]
  omega

include ha in
/-- (2) cut inside the first frame: there is none -/
theorem scan_cut (l : List Int) (k : Nat) (hk : k < (frame a).length) : scanL ((frame a ++ l).take k) = [] ∧ scanP ((frame a ++ l).take k) = 0 := by
  have hno : ¬ isFrame ((frame a ++ l).take k) 0 := by
    intro h
    have h1 := h.1
    have h4 := h.2.2.2.1
    have hl : ((frame a ++ l).take k).length = k := by rw [List.length_take, List.length_append]; omega
    rw [hl] at h1 h4
    have e : lenAt ((frame a ++ l).take k) 0 = a.length := by
      have h5 := lenAt_frame [] a l ha
      rw [List.nil_append, List.length_nil] at h5
      rw [← h5]
      unfold lenAt
      rw [List.getD_eq_getElem?_getD, List.getD_eq_getElem?_getD, List.getElem?_take, List.getElem?_take, if_pos (by omega), if_pos (by omega), ← List.getD_eq_getElem?_getD, ← List.getD_eq_getElem?_getD]
    rw [e] at h4
    rw [frame_len] at hk
    omega
  unfold scanL scanP
  rw [scanFrom_no hno]
  exact ⟨rfl, rfl⟩

include hb bb in
/-- a byte turned, from the sum on: no frame -/
theorem turned_no (m : Nat) (y : Int) (h2 : 2 ≤ m) (hm : m < (frame b).length) (hy : 0 ≤ y ∧ y ≤ 255) (hne : y ≠ (frame b).getD m 0) : ¬ isFrame ((frame b).set m y) 0 := by
  have hl : 1 ≤ b.length ∧ b.length ≤ 2000 := of_decide_eq_true hb
  have hfl := frame_len b
  intro h
  have h5 := h.2.2.2.2
  have hg : ∀ j, ((frame b).set m y).getD j 0 = if m = j then y else (frame b).getD j 0 := fun j => by
    rw [getD_set_of]
    by_cases e : m = j
    · rw [if_pos ⟨e, hm⟩, if_pos e]
    · rw [if_neg (fun h => e h.1), if_neg e]
  have e0 := lenAt_frame [] b [] hb
  rw [List.nil_append, List.append_nil, List.length_nil] at e0
  have elen : lenAt ((frame b).set m y) 0 = b.length := by
    rw [← e0]
    unfold lenAt
    rw [hg, hg, if_neg (by omega), if_neg (by omega)]
  have esum := sumAt_frame [] b [] bb
  rw [List.nil_append, List.append_nil, List.length_nil, Nat.zero_add] at esum
  have efr : frame b = frameHead b ++ b := rfl
  have ehl : (frameHead b).length = 6 := rfl
  by_cases h6 : m < 6
  · have epay : payAt ((frame b).set m y) 0 = b := by
      unfold payAt
      rw [elen, Nat.zero_add, List.drop_set, if_pos (by omega), efr, List.drop_left' ehl, List.take_of_length_le (Nat.le_refl _)]
    rw [epay, ← esum, Nat.zero_add] at h5
    unfold sumAt at h5
    rw [hg, hg, hg, hg] at h5
    have hm4 : m = 2 ∨ m = 3 ∨ m = 4 ∨ m = 5 := by omega
    rcases hm4 with rfl | rfl | rfl | rfl <;> simp at h5 <;> simp at hne <;> omega
  · have epay : payAt ((frame b).set m y) 0 = b.set (m - 6) y := by
      unfold payAt
      rw [elen, Nat.zero_add, List.drop_set, if_neg (by omega), efr, List.drop_left' ehl, List.take_of_length_le (by rw [List.length_set]; exact Nat.le_refl _)]
    have es : sumAt ((frame b).set m y) 2 = crcOf b := by
      rw [← esum]
      unfold sumAt
      rw [hg, hg, hg, hg, if_neg (by omega), if_neg (by omega), if_neg (by omega), if_neg (by omega)]
    rw [epay, Nat.zero_add, es] at h5
    have hmg : (frame b).getD m 0 = b.getD (m - 6) 0 := by
      rw [efr, List.getD_eq_getElem?_getD, List.getElem?_append_right (by omega), ehl, ← List.getD_eq_getElem?_getD]
    rw [hmg] at hne
    exact crc_parts b bb (m - 6) (by omega) y hy hne h5

include ha hb ba bb in
/-- (3) a byte of the second frame turned, from its sum on: the first alone -/
theorem scan_bad (k : Nat) (y : Int) (h2 : (frame a).length + 2 ≤ k) (hk : k < (frame a ++ frame b).length) (hy : 0 ≤ y ∧ y ≤ 255) (hne : y ≠ (frame a ++ frame b).getD k 0) : scanL ((frame a ++ frame b).set k y) = [a] := by
  rw [List.length_append] at hk
  have e : (frame a ++ frame b).set k y = frame a ++ (frame b).set (k - (frame a).length) y := by
    rw [List.set_append, if_neg (by omega)]
  have hg : (frame a ++ frame b).getD k 0 = (frame b).getD (k - (frame a).length) 0 := by
    rw [List.getD_eq_getElem?_getD, List.getElem?_append_right (by omega), ← List.getD_eq_getElem?_getD]
  rw [hg] at hne
  have hno := turned_no hb bb (k - (frame a).length) y (by omega) (by omega) hy hne
  rw [e]
  have h1 := scan_first ha ba ((frame b).set (k - (frame a).length) y)
  have h3 : scanFrom (frame a ++ (frame b).set (k - (frame a).length) y) (frame a).length = ([], (frame a).length) :=
    scanFrom_no (fun h => hno ((isFrame_pre (frame a) _ 0).1 h))
  rw [h3] at h1
  unfold scanL
  rw [h1]

include ha ba in
/-- (4) the first frame, asked alone -/
theorem get_first (l : List Int) : frameAtB (frame a ++ l) 0 = true ∧ frameAtL (frame a ++ l) 0 = a ∧ frameAtP (frame a ++ l) 0 = ((frame a).length : Int) := by
  have h := isFrame_frame [] a l ha ba
  have hp := payAt_frame [] a l ha
  have hn := lenAt_frame [] a l ha
  rw [List.nil_append, List.length_nil] at h hp hn
  have hB : frameAtB (frame a ++ l) 0 = true := decide_eq_true ⟨Int.le_refl _, h⟩
  refine ⟨hB, ?_, ?_⟩
  · unfold frameAtL; rw [if_pos hB]; exact hp
  · unfold frameAtP; rw [if_pos hB]
    show 0 + 6 + ((lenAt (frame a ++ l) 0 : Nat) : Int) = _
    rw [hn, frame_len]; omega
end

theorem frames_two {a b : List Int} (ha : frameB a = true) (hb : frameB b = true) : framesB [a, b] = true ∧ frames [a, b] = frame a ++ frame b := by
  have h : framesB [a, b] = true := by simp [framesB, ha, hb]
  exact ⟨h, by unfold frames; rw [if_pos h]; simp⟩

end Go.Proofs.Ytdempiibbhfijaa
