/- Contracts: spec.Scan, spec.Torn, spec.Frames, impl.Frames. -/
import Derived.Test.YtdempiibbhfijaaFrame2s
import Derived.Test.YtdempiibbhfijaaSByteSS
namespace Go.Proofs.Ytdempiibbhfijaa
open Go.RowKit
set_option linter.unusedVariables false

def scanL (zs : List Int) : List (List Int) := (scanFrom zs 0).1
def scanP (zs : List Int) : Int := ((scanFrom zs 0).2 : Int)
/-- pre has been read up to offset k -/
def Scanned (zs : List Int) (k : Nat) (pre : List (List Int)) : Prop := k ≤ zs.length ∧ 7 * pre.length ≤ k ∧ bulkS pre + 6 * pre.length = k ∧ scanL zs = pre ++ (scanFrom zs k).1 ∧ (scanFrom zs 0).2 = (scanFrom zs k).2
theorem Scanned.start (zs : List Int) : Scanned zs 0 [] := ⟨Nat.zero_le _, by simp, by simp [bulkS], rfl, rfl⟩
theorem Scanned.next {zs : List Int} {k : Nat} {pre : List (List Int)} (h : Scanned zs k pre) (hf : isFrame zs k) : Scanned zs (k + 6 + lenAt zs k) (pre ++ [payAt zs k]) := by
  obtain ⟨h1, h2, h3, h4, h5⟩ := h
  have e := scanFrom_yes hf
  obtain ⟨f1, f2, f3, f4, f5⟩ := hf
  refine ⟨f4, by rw [List.length_append, List.length_singleton]; omega, ?_, ?_, ?_⟩
  · rw [bulkS_append, List.length_append, List.length_singleton, bulkS_cons, payAt_len f4]
    have : bulkS [] = 0 := rfl
    omega
  · rw [h4, e]; simp
  · rw [h5, e]
theorem Scanned.stop {zs : List Int} {k : Nat} {pre : List (List Int)} (h : Scanned zs k pre) (hf : ¬ isFrame zs k) : scanL zs = pre ∧ scanP zs = (k : Int) := by
  obtain ⟨h1, h2, h3, h4, h5⟩ := h
  have e := scanFrom_no hf
  rw [e] at h4 h5
  exact ⟨by simpa using h4, by unfold scanP; rw [h5]⟩
/-- the scan ends somewhere: what it answers is bounded -/
theorem scan_bounds (zs : List Int) : 7 * (scanL zs).length ≤ zs.length ∧ bulkS (scanL zs) ≤ zs.length ∧ 0 ≤ scanP zs ∧ scanP zs ≤ (zs.length : Int) := by
  have : ∀ (m k : Nat) (pre : List (List Int)), zs.length - k ≤ m → Scanned zs k pre → ∃ k' pre', Scanned zs k' pre' ∧ ¬ isFrame zs k' := by
    intro m
    induction m with
    | zero => intro k pre h1 h2; exact ⟨k, pre, h2, fun h => by have := h.1; have := h2.1; omega⟩
    | succ m ih =>
      intro k pre h1 h2
      by_cases hf : isFrame zs k
      · exact ih _ _ (by have := hf.1; omega) (h2.next hf)
      · exact ⟨k, pre, h2, hf⟩
  obtain ⟨k, pre, h, hf⟩ := this zs.length 0 [] (by omega) (Scanned.start zs)
  obtain ⟨e1, e2⟩ := h.stop hf
  obtain ⟨h1, h2, h3, h4, h5⟩ := h
  rw [e1, e2]
  exact ⟨by omega, by omega, by omega, by omega⟩

theorem scanL_size (zs : List Int) : sizeSS (scanL zs) ≤ 2 * zs.length := by
  have := scan_bounds zs
  unfold sizeSS; omega

/-- a call that answers a new slice of slices and a number -/
def NewVI (w : World) (xs : List (List Int)) (n : Int) (e : Ending) (w' : World) : Prop :=
  ∃ v, e = .returned (.tuple #[v, .int .i64 n]) ∧ OV byteSSL w' w.heap.size w'.heap.size v xs ∧ Below w.heap.size w w'

theorem ov_lit0 {α : Type} (L : Lay α) (e : TypeId) (n : Nat) (w : World) : OV (sliceL e n L) (w.alloc (.cells #[] e)) w.heap.size (w.alloc (.cells #[] e)).heap.size (.slice (some ⟨w.heap.size, 0, none⟩) 0 0) [] := by
  have h := World.ownsRow_lit (base := 0) (e := e) (size := n) w #[] 0 (Nat.zero_le _) (by unfold maxLen; omega) (by simp)
  refine ⟨[_], [w.heap.size], rfl, ⟨_, rfl, fun _ => [], fun _ => [], by simpa [flat] using h, fun j x hx => by simp at hx, by simp [Value.ownBlock, flat]⟩, by simp, fun j hj => ?_, Nat.le_refl _⟩
  obtain rfl : j = w.heap.size := by simpa using hj
  simp

set_option maxHeartbeats 1000000 in
theorem sScan_c {w : World} {v : Value} {zs : List Int} (h : RS .u8 w v zs) (hb : Bytes zs) (hm : zs.length ≤ 16777216) :
    Calls Try.prog 23 #[v] w (NewVI w (scanL zs) (scanP zs)) := by
  obtain ⟨i0, hi, hz0, hz1, hz2⟩ := info_parts Try.info_bs
  go_enter Try.func23, Try.ntmps23
  go_wp2
  go_loopw [4, 5] (fun sv si wr => ∃ (k : Nat) (pre : List (List Int)), Scanned zs k pre ∧ si = .int .i64 k ∧ OV byteSSL wr w.heap.size wr.heap.size sv pre ∧ Below w.heap.size w wr) (fun _ si _ => zs.length - (intOf si).toNat)
  case atStart => exact ⟨0, [], Scanned.start zs, rfl, ov_lit0 _ _ _ _, (Below.refl _ _).alloc (Nat.le_refl _) _⟩
  case round =>
    obtain ⟨k, pre, hS, rfl, hown, hbr⟩ := hrel
    have hsz := hbr.size
    have hk := hS.1
    have hpl := hS.2.1
    by_cases hf : isFrame zs k
    · have hB : frameAtB zs (k : Int) = true := by rw [frameAtB_nat]; exact decide_eq_true hf
      obtain ⟨n, hn⟩ : ∃ n, lenAt zs k = n := ⟨_, rfl⟩
      have hL : frameAtL zs (k : Int) = payAt zs k := by unfold frameAtL; rw [if_pos hB]; simp
      have hP : frameAtP zs (k : Int) = k + 6 + n := by unfold frameAtP; rw [if_pos hB]; simp [hn]
      have HS : Hid (Scanned zs (k + 6 + n) (pre ++ [payAt zs k])) := by
        have := hS.next hf
        rw [hn] at this
        exact this
      have hle := HS.out.1
      have HB := Lib.hid hB
      have HL := Lib.hid hL
      have HP := Lib.hid hP
      clear hB hL hP hn hf hS
      go_wp2_with fail
      refine (sFrameGet_c (h.from_ hbr) hb (by omega) (by omega) (by omega)).mono ?_
      rintro e w2 ⟨v1, rfl, o1, hb2⟩
      rw [HB.out, HP.out]
      rw [HL.out] at o1
      have s2 := hb2.size
      obtain ⟨A1, c1, rfl, -, -, -⟩ := o1.rd
      generalize hX : (payAt zs k).length = X at o1
      have HX := Lib.hid hX
      clear hX
      have hba : Below w2.heap.size w2 (w2.alloc (.cells #[.slice A1 X c1] 22)) := (Below.refl _ _).alloc (Nat.le_refl _) _
      obtain ⟨T, hT, hTn, hTr⟩ := os_blocks (o1.below hba)
      obtain ⟨ys, hrow, -, hback⟩ := OV.app_step ((hown.below hb2).below hba) hT hTn hTr hsz s2 (by simp)
      have HK := Lib.hid hback
      clear hback hT hTr
      go_wp2_with (at_builtin; refine wpl_app _ rfl (.tmp 21) (.tmp 23) 26 rfl 0 22 i0 (.slice none 0 0) 24 Try.underlying26 hi hz0 hz1 hz2 rfl _ pre.length ys rfl hrow _ _ _ 1 [.slice A1 X c1] rfl rfl (rdV_one _ _ _) ?d0 ?d1 (by omega) ?d2 ?_)
      case d0 => intro u hu; obtain rfl : u = .slice A1 X c1 := by simpa using hu
                 rfl
      case d1 => omega
      case d2 => omega
      intro v3 w3 ho3 hg3 hat3
      obtain ⟨o3, hb3⟩ := HK.out v3 w3 ho3 hg3 (by simpa using hat3)
      have hb4 : Below w.heap.size w w3 := (hbr.trans (hb2.mono hsz)).trans (((Below.refl w.heap.size w2).alloc (by omega) _).trans hb3)
      have o4 : OV byteSSL w3 w.heap.size w3.heap.size v3 (pre ++ [payAt zs k]) := o3
      clear ho3 hg3 hat3 o3 hb3 HK
      go_wp2
      go_roundw
      case rel => exact ⟨k + 6 + n, _, HS.out, by go_num, o4, hb4⟩
      case measure => simp [intOf]; omega
    · have hB : frameAtB zs (k : Int) = false := by rw [frameAtB_nat]; exact decide_eq_false hf
      have HB := Lib.hid hB
      obtain ⟨e1, e2⟩ := hS.stop hf
      have E1 := Lib.hid e1
      have E2 := Lib.hid e2
      clear hB hf hS e1 e2
      go_wp2_with fail
      refine (sFrameGet_c (h.from_ hbr) hb (by omega) (by omega) (by omega)).mono ?_
      rintro e w2 ⟨v1, rfl, o1, hb2⟩
      rw [HB.out]
      go_wp2
      go_ret2
      rw [E1.out, E2.out]
      have s2 := hb2.size
      exact ⟨_, rfl, (hown.below hb2).widen (Nat.le_refl _) s2 (Nat.le_refl _), hbr.trans (hb2.mono hsz)⟩

/-- what Torn answers -/
def tornB (zs : List Int) : Bool := decide (scanP zs ≠ (zs.length : Int))

set_option maxHeartbeats 400000 in
theorem sTorn_c {w : World} {v : Value} {zs : List Int} (h : RS .u8 w v zs) (hb : Bytes zs) (hm : zs.length ≤ 16777216) :
    Calls Try.prog 30 #[v] w fun e w' => e = .returned (.bool (tornB zs)) ∧ Below w.heap.size w w' := by
  have hsb := scan_bounds zs
  obtain ⟨n, hn⟩ : ∃ n, scanP zs = n := ⟨_, rfl⟩
  obtain ⟨q, hq⟩ : ∃ q, tornB zs = q := ⟨_, rfl⟩
  have hq2 : (n != (zs.length : Int)) = q := by
    rw [← hq, ← hn]; unfold tornB
    rw [Bool.eq_iff_iff]; simp
  rw [hn] at hsb
  have HN := Lib.hid hn
  rw [hq]
  clear hn hq
  have h' := h
  obtain ⟨A, c, rfl, -, -, -⟩ := h'
  go_enter Try.func30, Try.ntmps30
  go_wp2_with fail
  refine (sScan_c h hb hm).mono ?_
  rintro e w2 ⟨v1, rfl, o1, hb2⟩
  rw [HN.out]
  go_wp2
  go_ret
  exact ⟨rfl, hb2⟩

theorem flat_frames_len : ∀ (l : List (List Int)), (l.flatMap frame).length = bulkS l + 6 * l.length
  | [] => rfl
  | x :: l => by rw [List.flatMap_cons, List.length_append, flat_frames_len l, frame_len, bulkS_cons, List.length_cons]; omega
theorem take_all {l : List (List Int)} {k : Nat} {x : List Int} (hx : l[k]? = some x) (h : (l.take k).all frameB = true) (hf : frameB x = true) : (l.take (k + 1)).all frameB = true := by
  rw [List.take_add_one, hx, List.all_append, h]
  simpa using hf
theorem take_flat {l : List (List Int)} {k : Nat} {x : List Int} (hx : l[k]? = some x) : (l.take (k + 1)).flatMap frame = (l.take k).flatMap frame ++ frame x := by
  rw [List.take_add_one, hx, List.flatMap_append]
  simp
theorem frames_no {l : List (List Int)} {k : Nat} {x : List Int} (hx : l[k]? = some x) (hf : frameB x = false) : framesB l = false ∧ frames l = [] := by
  have h1 : framesB l = false := by
    rw [Bool.eq_false_iff]
    intro h
    have := List.all_eq_true.1 h x (List.mem_of_getElem? hx)
    rw [hf] at this
    cases this
  exact ⟨h1, by unfold frames; rw [h1]; simp⟩
theorem frames_yes {l : List (List Int)} (h : (l.take l.length).all frameB = true) : framesB l = true ∧ frames l = (l.take l.length).flatMap frame := by
  rw [List.take_of_length_le (Nat.le_refl _)] at h ⊢
  have h1 : framesB l = true := h
  exact ⟨h1, by unfold frames; rw [if_pos h1]⟩
theorem frames_len (l : List (List Int)) : (frames l).length ≤ 7 * sizeSS l := by
  unfold frames
  split
  · rw [flat_frames_len]; unfold sizeSS; omega
  · simp

/-- every element is a row of bytes -/
def BytesS (l : List (List Int)) : Prop := ∀ x ∈ l, Bytes x
theorem BytesS.at_ {l : List (List Int)} (h : BytesS l) {k : Nat} {x : List Int} (hx : l[k]? = some x) : Bytes x := h x (List.mem_of_getElem? hx)

theorem os_lit0 (w : World) : OS .u8 5 (w.alloc (.cells #[] 5)) w.heap.size (w.alloc (.cells #[] 5)).heap.size (.slice (some ⟨w.heap.size, 0, none⟩) 0 0) [] :=
  OS.mk_ (own_none .u8 w w.heap.size 5 (Nat.le_refl _))

set_option maxHeartbeats 1000000 in
theorem sFrames_c {w : World} {v : Value} {l : List (List Int)} (h : RV byteSSL w v l) (hb : BytesS l) (hm : sizeSS l ≤ 16777216) :
    Calls Try.prog 28 #[v] w (NewSB w (frames l) (framesB l)) := by
  obtain ⟨A, c, rfl, hc1, hc2, hr⟩ := rv_slice h
  unfold sizeSS at hm
  go_enter Try.func28, Try.ntmps28
  go_wp2
  go_loopw [4, 12] (fun sv si wr => ∃ (k : Nat), k ≤ l.length ∧ si = .int .i64 k ∧ Hid ((l.take k).all frameB = true) ∧ OS .u8 5 wr w.heap.size wr.heap.size sv ((l.take k).flatMap frame) ∧ Below w.heap.size w wr) (fun _ si _ => l.length - (intOf si).toNat)
  case atStart => exact ⟨0, Nat.zero_le _, rfl, rfl, os_lit0 _, (Below.refl _ _).alloc (Nat.le_refl _) _⟩
  case round =>
    obtain ⟨k, hk, rfl, HA, hown, hbr⟩ := hrel
    have hsz := hbr.size
    have hfl := Nat.le_of_eq (flat_frames_len (l.take k))
    have hbs := bulkS_split l k
    have htl : (l.take k).length ≤ k := List.length_take_le _ _
    by_cases hlt : k < l.length
    · obtain ⟨x, hxe⟩ := get_of_lt hlt
      have hxl := len_le_bulk hxe
      obtain ⟨b, off, u, rfl, hb0, hc, hu⟩ := (hr.below hbr).at1 hxe
      obtain ⟨Ax, cx, rfl, hx1, hx2, hrx⟩ := el_cell hu
      have hbx := hb.at_ hxe
      have i1 : (k : Int) < (l.length : Int) := by omega
      by_cases hf : frameB x = true
      · have HF := Lib.hid hf
        have HA2 := Lib.hid (take_all hxe HA.out hf)
        have HP : Hid (framePut ((l.take k).flatMap frame) x = (l.take (k + 1)).flatMap frame) := by
          show _ = _
          unfold framePut; rw [if_pos hf, take_flat hxe]
        clear hu hxe hf hbs
        go_wp2_with fail
        refine (sFramePut_c (w := wr) (ps := x) hown.rd ⟨Ax, cx, rfl, hx1, hx2, hrx.more hsz⟩ hbx (by omega) (by omega)).mono ?_
        rintro e w2 ⟨v2, rfl, o2, hb2⟩
        rw [HF.out]
        rw [HP.out] at o2
        have s2 := hb2.size
        replace o2 := o2.widen hsz (Nat.le_refl _) (Nat.le_refl _)
        go_wp2
        go_roundw
        case rel => exact ⟨k + 1, by omega, by go_num, HA2, o2, hbr.trans (hb2.mono hsz)⟩
        case measure => simp [intOf]; omega
      · have hf' : frameB x = false := by simpa using hf
        obtain ⟨e1, e2⟩ := frames_no hxe hf'
        have HF := Lib.hid hf'
        have E1 := Lib.hid e1
        have E2 := Lib.hid e2
        clear hu hxe hf hf' e1 e2 hbs
        go_wp2_with fail
        refine (sFramePut_c (w := wr) (ps := x) hown.rd ⟨Ax, cx, rfl, hx1, hx2, hrx.more hsz⟩ hbx (by omega) (by omega)).mono ?_
        rintro e w2 ⟨v2, rfl, o2, hb2⟩
        rw [HF.out]
        go_wp2
        go_ret2
        exact ⟨_, by rw [E1.out]; rfl, by rw [E2.out]; exact os_none _ _, hbr.trans (hb2.mono hsz)⟩
    · have hk2 : k = l.length := by omega
      subst hk2
      obtain ⟨e1, e2⟩ := frames_yes HA.out
      have E1 := Lib.hid e1
      have E2 := Lib.hid e2
      clear e1 e2 hbs
      go_wp2
      go_ret2
      exact ⟨_, by rw [E1.out]; rfl, by rw [E2.out]; exact hown, hbr⟩

set_option maxHeartbeats 1000000 in
theorem iFrames_c {w : World} {v : Value} {l : List (List Int)} (h : RV byteSSL w v l) (hb : BytesS l) (hm : sizeSS l ≤ 16777216) :
    Calls Try.prog 10 #[v] w (NewSB w (frames l) (framesB l)) := by
  obtain ⟨A, c, rfl, hc1, hc2, hr⟩ := rv_slice h
  unfold sizeSS at hm
  go_enter Try.func10, Try.ntmps10
  go_wp2
  go_loopw [4, 12] (fun sv si wr => ∃ (k : Nat), k ≤ l.length ∧ si = .int .i64 k ∧ Hid ((l.take k).all frameB = true) ∧ Own .u8 wr w.heap.size 5 sv ((l.take k).flatMap frame) ∧ Below w.heap.size w wr) (fun _ si _ => l.length - (intOf si).toNat)
  case atStart => exact ⟨0, Nat.zero_le _, rfl, rfl, (os_lit0 _).1, (Below.refl _ _).alloc (Nat.le_refl _) _⟩
  case round =>
    obtain ⟨k, hk, rfl, HA, hown, hbr⟩ := hrel
    have hsz := hbr.size
    have hfl := Nat.le_of_eq (flat_frames_len (l.take k))
    have hbs := bulkS_split l k
    have htl : (l.take k).length ≤ k := List.length_take_le _ _
    by_cases hlt : k < l.length
    · obtain ⟨x, hxe⟩ := get_of_lt hlt
      have hxl := len_le_bulk hxe
      obtain ⟨b, off, u, rfl, hb0, hc, hu⟩ := (hr.below hbr).at1 hxe
      obtain ⟨Ax, cx, rfl, hx1, hx2, hrx⟩ := el_cell hu
      have hbx := hb.at_ hxe
      have i1 : (k : Int) < (l.length : Int) := by omega
      by_cases hf : frameB x = true
      · have HF := Lib.hid hf
        have HA2 := Lib.hid (take_all hxe HA.out hf)
        have HP : Hid ((l.take k).flatMap frame ++ frame x = (l.take (k + 1)).flatMap frame) := by
          show _ = _
          rw [take_flat hxe]
        clear hu hxe hf hbs
        go_wp2_with fail
        refine (iAppendFrame_yes w.heap.size _ Ax cx _ x wr hown hrx hbx HF.out (by omega) hsz).mono ?_
        rintro e w2 ⟨v2, rfl, o2, hb2⟩
        rw [HP.out] at o2
        go_wp2
        go_roundw
        case rel => exact ⟨k + 1, by omega, by go_num, HA2, o2, hbr.trans hb2⟩
        case measure => simp [intOf]; omega
      · have hf' : frameB x = false := by simpa using hf
        obtain ⟨e1, e2⟩ := frames_no hxe hf'
        have HF := Lib.hid hf'
        have E1 := Lib.hid e1
        have E2 := Lib.hid e2
        clear hu hxe hf hf' e1 e2 hbs
        go_wp2_with fail
        refine (iAppendFrame_no _ Ax cx x wr HF.out (by omega)).mono ?_
        rintro e w2 ⟨rfl, rfl⟩
        go_wp2
        go_ret2
        exact ⟨_, by rw [E1.out]; rfl, by rw [E2.out]; exact os_none _ _, hbr⟩
    · have hk2 : k = l.length := by omega
      subst hk2
      obtain ⟨e1, e2⟩ := frames_yes HA.out
      have E1 := Lib.hid e1
      have E2 := Lib.hid e2
      clear e1 e2 hbs
      go_wp2
      go_ret2
      exact ⟨_, by rw [E1.out]; rfl, by rw [E2.out]; exact OS.mk_ hown, hbr⟩

end Go.Proofs.Ytdempiibbhfijaa
