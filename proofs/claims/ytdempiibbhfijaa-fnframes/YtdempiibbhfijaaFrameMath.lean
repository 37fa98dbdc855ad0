/- The model of log frames: a payload's frame, the frame at an offset, the scan; frames are read as they were written. -/
import Derived.Test.YtdempiibbhfijaaCrcMath
namespace Go.Proofs.Ytdempiibbhfijaa

/-- the six bytes ahead of a payload -/
def frameHead (p : List Int) : List Int :=
  [(p.length : Int) % 256, (p.length : Int) / 256, crcOf p % 256, crcOf p / 256 % 256, crcOf p / 65536 % 256, crcOf p / 16777216 % 256]
def frameB (p : List Int) : Bool := decide (1 ≤ p.length ∧ p.length ≤ 2000)
def frame (p : List Int) : List Int := frameHead p ++ p
/-- what FramePut answers -/
def framePut (b p : List Int) : List Int := if frameB p then b ++ frame p else []

theorem frame_len (p : List Int) : (frame p).length = p.length + 6 := by simp [frame, frameHead]

theorem framePut_len (b p : List Int) : (framePut b p).length ≤ b.length + 2006 := by
  unfold framePut
  split
  · rename_i h
    have hl : 1 ≤ p.length ∧ p.length ≤ 2000 := of_decide_eq_true h
    rw [List.length_append, frame_len]; omega
  · simp

def sumAt (b : List Int) (k : Nat) : Int := b.getD k 0 + 256 * b.getD (k + 1) 0 + 65536 * b.getD (k + 2) 0 + 16777216 * b.getD (k + 3) 0
def lenAt (b : List Int) (k : Nat) : Nat := (b.getD k 0 + 256 * b.getD (k + 1) 0).toNat
def payAt (b : List Int) (k : Nat) : List Int := (b.drop (k + 6)).take (lenAt b k)
/-- is there a frame at offset k? -/
def isFrame (b : List Int) (k : Nat) : Prop := k + 7 ≤ b.length ∧ 1 ≤ lenAt b k ∧ lenAt b k ≤ 2000 ∧ k + 6 + lenAt b k ≤ b.length ∧ crcOf (payAt b k) = sumAt b (k + 2)
instance (b : List Int) (k : Nat) : Decidable (isFrame b k) := by unfold isFrame; infer_instance

theorem crcOf_range {p : List Int} (hb : Bytes p) : 0 ≤ crcOf p ∧ crcOf p < 4294967296 := by
  have h := crcRun_lt p hb
  have h2 : crcRun p ^^^ 4294967295 < 2 ^ 32 := Nat.xor_lt_two_pow (n := 32) (by omega) (by omega)
  unfold crcOf
  omega

theorem getD_pre (pre l : List Int) (j : Nat) : (pre ++ l).getD (pre.length + j) 0 = l.getD j 0 := by
  rw [List.getD_eq_getElem?_getD, List.getElem?_append_right (by omega), Nat.add_sub_cancel_left, List.getD_eq_getElem?_getD]

section
variable (pre p post : List Int)
theorem head_at (j : Nat) (hj : j < 6) : (pre ++ (frame p ++ post)).getD (pre.length + j) 0 = (frameHead p).getD j 0 := by
  rw [getD_pre, List.getD_eq_getElem?_getD, List.getD_eq_getElem?_getD, List.getElem?_append_left (by rw [frame_len]; omega)]
  unfold frame
  rw [List.getElem?_append_left (by simp [frameHead]; omega)]
theorem lenAt_frame (h : frameB p = true) : lenAt (pre ++ (frame p ++ post)) pre.length = p.length := by
  have hl : 1 ≤ p.length ∧ p.length ≤ 2000 := of_decide_eq_true h
  have e0 := head_at pre p post 0 (by omega)
  have e1 := head_at pre p post 1 (by omega)
  unfold lenAt
  rw [Nat.add_zero] at e0
  rw [e0, e1]
  simp [frameHead]
  omega
theorem payAt_frame (h : frameB p = true) : payAt (pre ++ (frame p ++ post)) pre.length = p := by
  unfold payAt
  rw [lenAt_frame pre p post h]
  have e : (pre ++ (frame p ++ post)).drop (pre.length + 6) = p ++ post := by
    rw [← List.drop_drop, List.drop_left]
    unfold frame
    rw [List.append_assoc]
    exact List.drop_left' (by simp [frameHead])
  rw [e, List.take_left]
theorem sumAt_frame (hb : Bytes p) : sumAt (pre ++ (frame p ++ post)) (pre.length + 2) = crcOf p := by
  have hc := crcOf_range hb
  have e2 := head_at pre p post 2 (by omega)
  have e3 := head_at pre p post 3 (by omega)
  have e4 := head_at pre p post 4 (by omega)
  have e5 := head_at pre p post 5 (by omega)
  unfold sumAt
  rw [e2, show pre.length + 2 + 1 = pre.length + 3 by omega, e3, show pre.length + 2 + 2 = pre.length + 4 by omega, e4, show pre.length + 2 + 3 = pre.length + 5 by omega, e5]
  simp [frameHead]
  omega
/-- a frame is read as it was written -/
theorem isFrame_frame (h : frameB p = true) (hb : Bytes p) : isFrame (pre ++ (frame p ++ post)) pre.length := by
  have hl : 1 ≤ p.length ∧ p.length ≤ 2000 := of_decide_eq_true h
  have hn := lenAt_frame pre p post h
  have ht : (pre ++ (frame p ++ post)).length = pre.length + (p.length + 6 + post.length) := by simp [frame_len]
  exact ⟨by omega, by omega, by omega, by omega, by rw [payAt_frame pre p post h, sumAt_frame pre p post hb]⟩
end

/-- the payloads from offset k on, and where they stop -/
def scanFrom (b : List Int) (k : Nat) : List (List Int) × Nat :=
  if h : isFrame b k then (payAt b k :: (scanFrom b (k + 6 + lenAt b k)).1, (scanFrom b (k + 6 + lenAt b k)).2) else ([], k)
termination_by b.length - k
decreasing_by all_goals (have := h.1; omega)

theorem scanFrom_yes {b : List Int} {k : Nat} (h : isFrame b k) : scanFrom b k = (payAt b k :: (scanFrom b (k + 6 + lenAt b k)).1, (scanFrom b (k + 6 + lenAt b k)).2) := by
  rw [scanFrom, dif_pos h]
theorem scanFrom_no {b : List Int} {k : Nat} (h : ¬ isFrame b k) : scanFrom b k = ([], k) := by
  rw [scanFrom, dif_neg h]
theorem scanFrom_frame (pre p post : List Int) (h : frameB p = true) (hb : Bytes p) :
    scanFrom (pre ++ (frame p ++ post)) pre.length = (p :: (scanFrom (pre ++ (frame p ++ post)) (pre.length + 6 + p.length)).1, (scanFrom (pre ++ (frame p ++ post)) (pre.length + 6 + p.length)).2) := by
  have := scanFrom_yes (isFrame_frame pre p post h hb)
  rw [payAt_frame pre p post h, lenAt_frame pre p post h] at this
  exact this
theorem scanFrom_le (b : List Int) : ∀ (m k : Nat), b.length - k ≤ m → k ≤ b.length → k ≤ (scanFrom b k).2 ∧ (scanFrom b k).2 ≤ b.length := by
  intro m
  induction m with
  | zero =>
    intro k h1 h2
    rw [scanFrom_no (fun h => by have := h.1; omega)]
    exact ⟨Nat.le_refl _, h2⟩
  | succ m ih =>
    intro k h1 h2
    by_cases h : isFrame b k
    · rw [scanFrom_yes h]
      have := ih (k + 6 + lenAt b k) (by have := h.2.1; omega) h.2.2.2.1
      exact ⟨by omega, this.2⟩
    · rw [scanFrom_no h]; exact ⟨Nat.le_refl _, h2⟩

/-- what Frames answers -/
def framesB (l : List (List Int)) : Bool := l.all frameB
def frames (l : List (List Int)) : List Int := if framesB l then l.flatMap frame else []

end Go.Proofs.Ytdempiibbhfijaa
