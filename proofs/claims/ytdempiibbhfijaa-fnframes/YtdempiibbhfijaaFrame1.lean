/- Contracts: spec.l01In, impl.fitsFrame, impl.appendLowFirst, impl.appendFrame, spec.FramePut, impl.FramePut. -/
import Derived.Test.YtdempiibbhfijaaFrameBits
import Derived.Test.YtdempiibbhfijaaJoined
import Derived.Test.YtdempiibbhfijaaVars
namespace Go.Proofs.Ytdempiibbhfijaa
open Go.RowKit
set_option linter.unusedVariables false

/-- 1 to 2000 -/
def fitB (n : Int) : Bool := decide (1 ≤ n ∧ n ≤ 2000)

theorem sIn_fit (n : Int) (w : World) : Calls Try.prog 39 #[.int .i64 n, .int .i64 1, .int .i64 2000] w fun e w' => e = .returned (.bool (fitB n)) ∧ w = w' := by
  by_cases h0 : 1 ≤ n
  · by_cases h1 : n ≤ 2000
    · rw [show fitB n = true from decide_eq_true ⟨h0, h1⟩]
      go_enter Try.func39, Try.ntmps39
      go_wp2
      go_ret
      exact ⟨rfl, rfl⟩
    · rw [show fitB n = false from decide_eq_false (by omega)]
      have i1 : decide (n ≤ 2000) = false := by simp; omega
      go_enter Try.func39, Try.ntmps39
      go_wp2
      go_ret
      exact ⟨rfl, rfl⟩
  · rw [show fitB n = false from decide_eq_false (by omega)]
    have i1 : decide (1 ≤ n) = false := by simp; omega
    go_enter Try.func39, Try.ntmps39
    go_wp2
    go_ret
    exact ⟨rfl, rfl⟩

theorem iFit_any (n : Int) (w : World) : Calls Try.prog 44 #[.int .i64 n] w fun e w' => e = .returned (.bool (fitB n)) ∧ w = w' := by
  by_cases h0 : 1 ≤ n
  · by_cases h1 : n ≤ 2000
    · rw [show fitB n = true from decide_eq_true ⟨h0, h1⟩]
      go_enter Try.func44, Try.ntmps44
      go_wp2
      go_ret
      exact ⟨rfl, rfl⟩
    · rw [show fitB n = false from decide_eq_false (by omega)]
      have i1 : decide (n ≤ 2000) = false := by simp; omega
      go_enter Try.func44, Try.ntmps44
      go_wp2
      go_ret
      exact ⟨rfl, rfl⟩
  · rw [show fitB n = false from decide_eq_false (by omega)]
    have i1 : decide (1 ≤ n) = false := by simp; omega
    go_enter Try.func44, Try.ntmps44
    go_wp2
    go_ret
    exact ⟨rfl, rfl⟩

theorem fitB_len (p : List Int) : fitB (p.length : Int) = frameB p := by
  unfold fitB frameB
  exact decide_eq_decide.2 (by omega)

/-- a call that appends to a row of the caller's own -/
def GrowsB (base : Nat) (w : World) (l : List Int) (e : Ending) (w' : World) : Prop :=
  ∃ v, e = .returned v ∧ Own .u8 w' base 5 v l ∧ Below base w w'

set_option maxHeartbeats 1000000 in
theorem iLow_any (base : Nat) (v : Value) (zs : List Int) (n : Int) (k : Nat) (w : World) (ho : Own .u8 w base 5 v zs) (hm : zs.length ≤ 1099511627000) (hbase : base ≤ w.heap.size) (hn0 : 0 ≤ n) (hn1 : n ≤ 4294967295) (hk : k ≤ 4) :
    Calls Try.prog 45 #[v, .int .i64 n, .int .i64 k] w (GrowsB base w (zs ++ lowB n k)) := by
  obtain ⟨i0, hi, hz0, hz1, hz2⟩ := info_parts Try.info_u8
  go_enter Try.func45, Try.ntmps45
  go_wp2
  go_loopw [0, 9] (fun sv si wr => ∃ j : Nat, j ≤ k ∧ si = .int .i64 j ∧ Own .u8 wr base 5 sv (zs ++ lowB n j) ∧ Below base w wr) (fun _ si _ => k - (intOf si).toNat)
  case atStart => exact ⟨0, Nat.zero_le _, rfl, by simpa [lowB] using ho, Below.refl _ _⟩
  case round =>
    obtain ⟨j, hj, rfl, hown, hbr⟩ := hrel
    have hsz := hbr.size
    by_cases hlt : j < k
    · have i1 : (j : Int) < (k : Int) := by omega
      have hll := lowB_len n j
      obtain ⟨x, hx⟩ : ∃ x, n / 256 ^ j % 256 = x := ⟨_, rfl⟩
      have hs := lowB_succ n j
      rw [hx] at hs
      have HS := Lib.hid hs
      have hx2 : n / 2 ^ (8 * j) % 256 = x := by rw [← hx, Int.pow_mul]; rfl
      clear hs hx
      go_wp2_with (at_builtin; refine wpl_appI _ .u8 rfl (.tmp 12) (.tmp 18) 22 rfl base 5 i0 1 Try.underlying22 hi hz0 hz1 hz2 _ (zs ++ lowB n j) rfl (hown.alloc_ _) _ _ _ 1 [x] rfl rfl (rd_one _ _ _ _) ?d1 (by omega) ?d2 ?_)
      case d1 => simp; omega
      case d2 => simp; omega
      intro v2 w2 ho2 hg2 hat2
      have hb2 : Below base w w2 := grown_below (hbr.alloc (by omega) _) (hown.alloc_ _) hg2 (Nat.le_refl _) (by simp; omega)
      have HO : Own .u8 w2 base 5 v2 (zs ++ lowB n (j + 1)) := by rw [HS.out]; simpa using ho2
      clear hg2 hat2 ho2
      go_wp2
      go_roundw
      case rel => exact ⟨j + 1, by omega, by go_num, HO, hb2⟩
      case measure => simp [intOf]; omega
    · have hk2 : j = k := by omega
      subst hk2
      go_wp2
      go_ret
      exact ⟨_, rfl, hown, hbr⟩

set_option maxHeartbeats 1000000 in
theorem iAppendFrame_no (v : Value) (A : Option Addr) (c : Nat) (ps : List Int) (w : World) (hf : frameB ps = false) (hm : ps.length ≤ 1073741824) :
    Calls Try.prog 33 #[v, .slice A ps.length c] w fun e w' => e = .returned (.tuple #[.slice none 0 0, .bool false]) ∧ w = w' := by
  have HF := Lib.hid hf
  clear hf
  go_enter Try.func33, Try.ntmps33
  go_wp2_with fail
  refine (iFit_any _ _).mono ?_
  rintro e w' ⟨rfl, rfl⟩
  rw [fitB_len, HF.out]
  go_wp2
  go_ret2
  exact ⟨rfl, rfl⟩

/-- a call that appends to a row of the caller's own, and answers true -/
def GrowsT (base : Nat) (w : World) (l : List Int) (e : Ending) (w' : World) : Prop :=
  ∃ v, e = .returned (.tuple #[v, .bool true]) ∧ Own .u8 w' base 5 v l ∧ Below base w w'

set_option maxHeartbeats 1000000 in
theorem iAppendFrame_yes (base : Nat) (v : Value) (A : Option Addr) (c : Nat) (zs ps : List Int) (w : World) (ho : Own .u8 w base 5 v zs) (hr : Rd .u8 w base A ps) (hb : Bytes ps) (hf : frameB ps = true) (hm : zs.length ≤ 1099511620000) (hbase : base ≤ w.heap.size) :
    Calls Try.prog 33 #[v, .slice A ps.length c] w (GrowsT base w (zs ++ frame ps)) := by
  obtain ⟨i0, hi, hz0, hz1, hz2⟩ := info_parts Try.info_u8
  have hl : 1 ≤ ps.length ∧ ps.length ≤ 2000 := of_decide_eq_true hf
  have hc := crcOf_range hb
  have HL := Lib.hid (frameHead_low ps hf hb)
  have l2 := lowB_len (ps.length : Int) 2
  have l4 := lowB_len (crcOf ps) 4
  have HF := Lib.hid hf
  obtain ⟨X, hX⟩ : ∃ X, X = lowB (ps.length : Int) 2 := ⟨_, rfl⟩
  obtain ⟨Y, hY⟩ : ∃ Y, Y = lowB (crcOf ps) 4 := ⟨_, rfl⟩
  rw [← hX] at l2
  rw [← hY] at l4
  have l2' := Nat.le_of_eq l2
  have l4' := Nat.le_of_eq l4
  have HX := Lib.hid hX
  have HY := Lib.hid hY
  clear hf hX hY l2 l4
  go_enter Try.func33, Try.ntmps33
  go_wp2_with fail
  refine (iFit_any _ _).mono ?_
  rintro e w' ⟨rfl, rfl⟩
  rw [fitB_len, HF.out]
  go_wp2_with fail
  refine (iLow_any base v zs (ps.length : Int) 2 w ho (by omega) hbase (by omega) (by omega) (by omega)).mono ?_
  rintro e w1 ⟨v1, rfl, ho1, hb1⟩
  rw [← HX.out] at ho1
  have s1 := hb1.size
  go_wp2_with fail
  refine (iCrc_any A c ps w1 base (hr.below hb1) hb (by omega)).mono ?_
  rintro e w' ⟨rfl, rfl⟩
  go_wp2_with fail
  refine (iLow_any base v1 (zs ++ X) (crcOf ps) 4 w1 ho1 (by rw [List.length_append]; omega) (by omega) (by omega) (by omega) (by omega)).mono ?_
  rintro e w2 ⟨v2, rfl, ho2, hb2⟩
  rw [← HY.out] at ho2
  have s2 := hb2.size
  go_wp2_with (at_builtin; refine wpl_appI _ .u8 rfl (.tmp 18) (.tmp 19) 22 rfl base 5 i0 1 Try.underlying22 hi hz0 hz1 hz2 _ (zs ++ X ++ Y) rfl ho2 base A c ps.length ps rfl rfl (hr.below (hb1.trans hb2)) ?d1 (by omega) ?d2 ?_)
  case d1 => simp; omega
  case d2 => omega
  intro v3 w3 ho3 hg3 hat3
  have hb3 : Below base w w3 := grown_below (hb1.trans hb2) ho2 hg3 (Nat.le_refl _) (by omega)
  have HO : Own .u8 w3 base 5 v3 (zs ++ frame ps) := by
    unfold frame; rw [HL.out, ← HX.out, ← HY.out]; simpa using ho3
  clear hg3 hat3 ho3
  go_wp2
  go_ret2
  exact ⟨_, rfl, HO, hb3⟩

/-- a call that answers a new row of bytes and a bool -/
def NewSB (w : World) (zs : List Int) (b : Bool) (e : Ending) (w' : World) : Prop :=
  ∃ v, e = .returned (.tuple #[v, .bool b]) ∧ OS .u8 5 w' w.heap.size w'.heap.size v zs ∧ Below w.heap.size w w'

theorem os_none (w : World) (lo : Nat) : OS .u8 5 w lo w.heap.size (.slice none 0 0) [] := OS.mk_ (World.ownsRow_nil _ _ _ _)

set_option maxHeartbeats 1000000 in
theorem iFramePut_c {w : World} {v v' : Value} {zs ps : List Int} (h : RS .u8 w v zs) (h' : RS .u8 w v' ps) (hb : Bytes ps) (hm : zs.length ≤ 16777216) (hm' : ps.length ≤ 16777216) :
    Calls Try.prog 12 #[v, v'] w (NewSB w (framePut zs ps) (frameB ps)) := by
  obtain ⟨A', c', rfl, _, _, hr'⟩ := h'
  by_cases hf : frameB ps = true
  · have HF := Lib.hid hf
    have hl : 1 ≤ ps.length ∧ ps.length ≤ 2000 := of_decide_eq_true hf
    have hfl := Nat.le_of_eq (frame_len ps)
    have HP : Hid (framePut zs ps = zs ++ frame ps) := by show framePut zs ps = _; unfold framePut; rw [if_pos hf]
    clear hf
    obtain ⟨A, c, rfl, hc1, hc2, hr⟩ := h
    go_enter Try.func12, Try.ntmps12
    go_wp2_with fail
    refine (iAppendFrame_yes w.heap.size (.slice none 0 0) A' c' [] ps w (World.ownsRow_nil _ _ _ _) hr' hb HF.out (by simp) (Nat.le_refl _)).mono ?_
    rintro e w1 ⟨v1, rfl, ho1, hb1⟩
    rw [List.nil_append] at ho1
    have o1 : OS .u8 5 w1 w.heap.size w1.heap.size v1 (frame ps) := OS.mk_ ho1
    clear ho1
    obtain ⟨A1, c1, rfl, _⟩ := o1.rd
    go_wp2_with fail
    refine (iJoined_c (xs := zs) (RS.from_ ⟨A, c, rfl, hc1, hc2, hr⟩ hb1) o1.rd (by omega) (by omega)).mono ?_
    rintro e w2 ⟨v2, rfl, o2, hb2⟩
    have s1 := hb1.size
    have s2 := hb2.size
    go_wp2
    go_ret2
    exact ⟨_, by rw [HF.out]; rfl, by rw [HP.out]; exact o2.widen (by omega) (Nat.le_refl _) (Nat.le_refl _), hb1.trans (hb2.mono s1)⟩
  · have hf' : frameB ps = false := by simpa using hf
    have HF := Lib.hid hf'
    have HP : Hid (framePut zs ps = []) := by show framePut zs ps = _; unfold framePut; rw [if_neg hf]
    clear hf hf'
    go_enter Try.func12, Try.ntmps12
    go_wp2_with fail
    refine (iAppendFrame_no _ A' c' ps _ HF.out (by omega)).mono ?_
    rintro e w' ⟨rfl, rfl⟩
    go_wp2
    go_ret2
    exact ⟨_, by rw [HF.out]; rfl, by rw [HP.out]; exact os_none _ _, Below.refl _ _⟩

theorem rd_cells (k : IntKind) (w : World) (t : TypeId) (zs : List Int) : Rd k (w.alloc (.cells (zs.map (Value.int k)).toArray t)) (w.heap.size + 1) (some ⟨w.heap.size, 0, none⟩) zs := fun _ =>
  ⟨w.heap.size, 0, rfl, by omega, fun j hj => by
    have := heap_alloc_new w (.cells (zs.map (Value.int k)).toArray t)
    rw [cell_of_row _ w.heap.size (0 + j) _ t (0, 0) this]
    simp [hj]⟩

set_option maxHeartbeats 1000000 in
theorem sFramePut_c {w : World} {v v' : Value} {zs ps : List Int} (h : RS .u8 w v zs) (h' : RS .u8 w v' ps) (hb : Bytes ps) (hm : zs.length ≤ 1073741824) (hm' : ps.length ≤ 1073741824) :
    Calls Try.prog 17 #[v, v'] w (NewSB w (framePut zs ps) (frameB ps)) := by
  obtain ⟨i0, hi, hz0, hz1, hz2⟩ := info_parts Try.info_u8
  obtain ⟨A', c', rfl, hc1', hc2', hr'⟩ := h'
  by_cases hf : frameB ps = true
  · have HF := Lib.hid hf
    have hl : 1 ≤ ps.length ∧ ps.length ≤ 2000 := of_decide_eq_true hf
    have HP : Hid (framePut zs ps = zs ++ frame ps) := by show framePut zs ps = _; unfold framePut; rw [if_pos hf]
    have hc := crcOf_range hb
    clear hf
    go_enter Try.func17, Try.ntmps17
    go_wp2_with fail
    refine (sIn_fit _ _).mono ?_
    rintro e w' ⟨rfl, rfl⟩
    rw [fitB_len, HF.out]
    go_wp2_with fail
    refine (sCrc_any A' c' ps w _ hr' hb (by omega)).mono ?_
    rintro e w' ⟨rfl, rfl⟩
    go_wp2_with fail
    refine (sCopy_c h (by omega)).mono ?_
    rintro e w1 ⟨v1, rfl, o1, hb1⟩
    have s1 := hb1.size
    have hr1 := hr'.below hb1
    go_wp2_with (at_builtin; refine wpl_appI _ .u8 rfl (.tmp 18) (.tmp 36) 22 rfl w.heap.size 5 i0 1 Try.underlying22 hi hz0 hz1 hz2 _ zs rfl (o1.1.alloc_ _) _ _ _ 6 [(ps.length : Int) % 256, (ps.length : Int) / 256, crcOf ps % 256, crcOf ps / 256 % 256, crcOf ps / 65536 % 256, crcOf ps / 16777216] rfl rfl (rd_cells _ _ _ _) ?d1 (by omega) ?d2 ?_)
    case d1 => omega
    case d2 => simp; omega
    intro v2 w2 ho2 hg2 hat2
    have hb2 : Below w.heap.size w w2 := grown_below (hb1.alloc (by omega) _) (o1.1.alloc_ _) hg2 (Nat.le_refl _) (by simp; omega)
    have hh : [(ps.length : Int) % 256, (ps.length : Int) / 256, crcOf ps % 256, crcOf ps / 256 % 256, crcOf ps / 65536 % 256, crcOf ps / 16777216] = frameHead ps := by
      simp [frameHead]; omega
    have hhl : (frameHead ps).length = 6 := rfl
    rw [hh] at ho2
    have s2 := hb2.size
    obtain ⟨X, hX⟩ : ∃ X, X = frameHead ps := ⟨_, rfl⟩
    rw [← hX] at ho2 hhl
    have hxl := Nat.le_of_eq hhl
    have HX := Lib.hid hX
    clear hX hh hhl hg2 hat2
    go_wp2_with (at_builtin; refine wpl_appI _ .u8 rfl (.tmp 38) (.tmp 39) 22 rfl w.heap.size 5 i0 1 Try.underlying22 hi hz0 hz1 hz2 _ (zs ++ X) rfl ho2 _ A' c' ps.length ps rfl rfl (hr'.below hb2) ?e1 (by omega) ?e2 ?_)
    case e1 => simp; omega
    case e2 => omega
    intro v3 w3 ho3 hg3 hat3
    have hb3 : Below w.heap.size w w3 := grown_below hb2 ho2 hg3 (Nat.le_refl _) (by omega)
    have HO : Own .u8 w3 w.heap.size 5 v3 (framePut zs ps) := by
      rw [HP.out]; unfold frame; rw [← HX.out]; simpa using ho3
    clear hg3 hat3 ho3
    go_wp2
    go_ret2
    exact ⟨_, by rw [HF.out]; rfl, OS.mk_ HO, hb3⟩
  · have hf' : frameB ps = false := by simpa using hf
    have HF := Lib.hid hf'
    have HP : Hid (framePut zs ps = []) := by show framePut zs ps = _; unfold framePut; rw [if_neg hf]
    clear hf hf'
    go_enter Try.func17, Try.ntmps17
    go_wp2_with fail
    refine (sIn_fit _ _).mono ?_
    rintro e w' ⟨rfl, rfl⟩
    rw [fitB_len, HF.out]
    go_wp2
    go_ret2
    exact ⟨_, by rw [HF.out]; rfl, by rw [HP.out]; exact os_none _ _, Below.refl _ _⟩

end Go.Proofs.Ytdempiibbhfijaa
