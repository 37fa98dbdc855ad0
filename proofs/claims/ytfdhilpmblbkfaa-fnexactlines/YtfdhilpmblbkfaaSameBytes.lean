/- Contracts of spec.SameBytes, bytes.Equal and impl.SameBytes; the walk of the law FnExactSameBytes. -/
import Derived.Test.YtfdhilpmblbkfaaBytes
import Derived.Test.YtfdhilpmblbkfaaGetNum
import Derived.Laws.BytesArg
namespace Go.Proofs.Ytfdhilpmblbkfaa
open Go.RowKit
set_option linter.unusedVariables false

theorem run_conv {P : Program} (w : World) (src e dst : TypeId) (hs : P.underlying src = some (.slice e)) (he : P.underlying e = some (.int .u8)) (hd : P.underlying dst = some .string)
    (A : Option Addr) (c B : Nat) (zs : List Int) (hr : Rd .u8 w B A zs) : (convert src dst (.slice A zs.length c)).run P w = .ok (.string (strOfNums zs)) w := by
  rcases A with _ | a
  · have h0 : zs = [] := by
      rcases Nat.eq_zero_or_pos zs.length with h | h
      · exact List.eq_nil_of_length_eq_zero h
      · obtain ⟨b, off, h', _⟩ := hr h; cases h'
    subst h0
    exact run_convert_bytes_nil w src e hs he _ c dst hd
  · rcases Nat.eq_zero_or_pos zs.length with h | h
    · obtain rfl := List.eq_nil_of_length_eq_zero h
      have hl : (loadCells a 0).run P w = .ok ((([] : List Int).map (Value.int .u8)).toArray) w := by
        have := run_loadCells_list (P := P) w a [] (fun j v hj => by simp at hj)
        simpa using this
      rw [List.length_nil, run_convert_bytes_string w src dst e _ 0 c hs he hd, run_bytesToString w a 0 c [] hl]
      rfl
    · obtain ⟨b, off, h', _, hc⟩ := hr h
      simp only [Option.some.injEq] at h'
      subst h'
      exact run_convert_bytes_arg w src e hs he b off zs.length c zs rfl hc dst hd

theorem strOf_inj {xs ys : List Int} (hx : Bytes xs) (hy : Bytes ys) (h : strOfNums xs = strOfNums ys) : xs = ys := by
  have h1 := congrArg (fun s : ByteArray => s.data.toList) h
  simp only [strOfNums_data] at h1
  have hl : xs.length = ys.length := by have := congrArg List.length h1; simpa using this
  apply List.ext_getElem hl
  intro j hj hj'
  have h2 : (xs.map fun n => UInt8.ofNat n.toNat)[j]? = (ys.map fun n => UInt8.ofNat n.toNat)[j]? := by rw [h1]
  have bx := hx j
  have by_ := hy j
  simp [hj, hj'] at h2 bx by_
  have h3 := congrArg UInt8.toNat h2
  simp at h3
  omega

theorem same_dec {xs ys : List Int} (hx : Bytes xs) (hy : Bytes ys) : decide (strOfNums xs = strOfNums ys) = decide (xs = ys) := by
  by_cases h : xs = ys
  · simp [h]
  · have : ¬ strOfNums xs = strOfNums ys := fun e => h (strOf_inj hx hy e)
    simp [h, this]

theorem str_same (s s' : ByteArray) : (s.toList == s'.toList) = decide (s = s') := by
  rw [ByteArray.toList_eq, ByteArray.toList_eq]
  by_cases h : s = s'
  · simp [h]
  · have : ¬ s.data.toList = s'.data.toList := fun e => h (WideShapes.bytes_inj e)
    simp only [h, decide_false, beq_eq_false_iff_ne]
    exact this

set_option maxHeartbeats 400000 in
theorem sSameBytes_any (A A' : Option Addr) (c c' : Nat) (xs ys : List Int) (w : World) (B : Nat) (hx : Rd .u8 w B A xs) (hy : Rd .u8 w B A' ys) (bx : Bytes xs) (by_ : Bytes ys) :
    Calls Try.prog 37 #[.slice A xs.length c, .slice A' ys.length c'] w fun e w' => e = .returned (.bool (decide (xs = ys))) ∧ w = w' := by
  have k1 := run_conv (P := Try.prog) w 22 5 9 Try.underlying22 Try.underlying5 Try.underlying9 A c B xs hx
  have k2 := run_conv (P := Try.prog) w 22 5 9 Try.underlying22 Try.underlying5 Try.underlying9 A' c' B ys hy
  rw [← same_dec bx by_]
  obtain ⟨s, hs⟩ : ∃ s, strOfNums xs = s := ⟨_, rfl⟩
  obtain ⟨s', hs'⟩ : ∃ s, strOfNums ys = s := ⟨_, rfl⟩
  rw [hs] at k1
  rw [hs'] at k2
  rw [hs, hs']
  clear hs hs' hx hy bx by_
  go_enter Try.func37, Try.ntmps37
  go_wp2
  go_ret
  exact ⟨ret_eq (by rw [← str_same s s']; rfl), rfl⟩

set_option maxHeartbeats 400000 in
theorem bytesEqual_any (A A' : Option Addr) (c c' : Nat) (xs ys : List Int) (w : World) (B : Nat) (hx : Rd .u8 w B A xs) (hy : Rd .u8 w B A' ys) (bx : Bytes xs) (by_ : Bytes ys) :
    Calls Try.prog 49 #[.slice A xs.length c, .slice A' ys.length c'] w fun e w' => e = .returned (.bool (decide (xs = ys))) ∧ w = w' := by
  have k1 := run_conv (P := Try.prog) w 22 5 9 Try.underlying22 Try.underlying5 Try.underlying9 A c B xs hx
  have k2 := run_conv (P := Try.prog) w 22 5 9 Try.underlying22 Try.underlying5 Try.underlying9 A' c' B ys hy
  rw [← same_dec bx by_]
  obtain ⟨s, hs⟩ : ∃ s, strOfNums xs = s := ⟨_, rfl⟩
  obtain ⟨s', hs'⟩ : ∃ s, strOfNums ys = s := ⟨_, rfl⟩
  rw [hs] at k1
  rw [hs'] at k2
  rw [hs, hs']
  clear hs hs' hx hy bx by_
  go_enter Try.func49, Try.ntmps49
  go_wp2
  go_ret
  exact ⟨ret_eq (by rw [← str_same s s']; rfl), rfl⟩

set_option maxHeartbeats 400000 in
theorem iSameBytes_any (A A' : Option Addr) (c c' : Nat) (xs ys : List Int) (w : World) (B : Nat) (hx : Rd .u8 w B A xs) (hy : Rd .u8 w B A' ys) (bx : Bytes xs) (by_ : Bytes ys) :
    Calls Try.prog 38 #[.slice A xs.length c, .slice A' ys.length c'] w fun e w' => e = .returned (.bool (decide (xs = ys))) ∧ w = w' := by
  go_enter Try.func38, Try.ntmps38
  go_wp2_with fail
  refine (bytesEqual_any A A' c c' xs ys w B hx hy bx by_).mono ?_
  rintro e w' ⟨rfl, rfl⟩
  go_wp2
  go_ret
  exact ⟨rfl, rfl⟩

set_option maxHeartbeats 1000000 in
theorem wSameBytes (A A' : Option Addr) (c c' : Nat) (xs ys : List Int) (w : World) (hx : Rd .u8 w w.heap.size A xs) (hy : Rd .u8 w w.heap.size A' ys) (bx : Bytes xs) (by_ : Bytes ys) (hmx : xs.length ≤ maxLen) (hmy : ys.length ≤ maxLen) :
    Calls Try.prog 10 #[.slice A xs.length c, .slice A' ys.length c'] w fun e w' => e = .returned (.bool true) ∧ Below w.heap.size w w' := by
  unfold maxLen at hmx hmy
  by_cases hbig : 1048576 < xs.length
  · have i0 : (1048576 : Int) < (xs.length : Int) := by omega
    go_enter Try.func10, Try.ntmps10
    go_wp2
    go_ret
    exact ⟨rfl, Below.refl _ _⟩
  · by_cases hbig' : 1048576 < ys.length
    · have i0 : (1048576 : Int) < (ys.length : Int) := by omega
      go_enter Try.func10, Try.ntmps10
      go_wp2
      go_ret
      exact ⟨rfl, Below.refl _ _⟩
    · obtain ⟨b, hv⟩ : ∃ b, decide (xs = ys) = b := ⟨_, rfl⟩
      have HV := Lib.hid hv
      clear hv
      have hm : xs.length ≤ 1048576 := by omega
      have hm' : ys.length ≤ 1048576 := by omega
      go_enter Try.func10, Try.ntmps10
      go_wp2_with fail
      refine (toByteS_any A c xs w hx (by omega)).mono ?_
      rintro e w1 ⟨rfl, ho1, hb1⟩
      have hx1 := (hx.below hb1).more hb1.size
      have hy1 := (hy.below hb1).more hb1.size
      go_wp2_with fail
      refine (toByteS_any A' c' ys w1 hy1 (by omega)).mono ?_
      rintro e w2 ⟨rfl, ho2, hb2⟩
      have hx2 := (hx1.below hb2).more hb2.size
      have hy2 := (hy1.below hb2).more hb2.size
      have hB2 := hb1.trans (hb2.mono hb1.size)
      go_wp2_with fail
      refine (sSameBytes_any _ _ _ _ xs ys w2 _ ((ho1.rd.below hb2).more hb2.size) ho2.rd bx by_).mono ?_
      rintro e w' ⟨rfl, rfl⟩
      rw [HV.out]
      go_wp2_with fail
      refine (toByteS_any A c xs w2 hx2 (by omega)).mono ?_
      rintro e w3 ⟨rfl, ho3, hb3⟩
      have hx3 := (hx2.below hb3).more hb3.size
      have hy3 := (hy2.below hb3).more hb3.size
      have hB3 := hB2.trans (hb3.mono hB2.size)
      clear ho1 ho2
      go_wp2_with fail
      refine (toByteS_any A' c' ys w3 hy3 (by omega)).mono ?_
      rintro e w4 ⟨rfl, ho4, hb4⟩
      have hx4 := (hx3.below hb4).more hb4.size
      have hy4 := (hy3.below hb4).more hb4.size
      have hB4 := hB3.trans (hb4.mono hB3.size)
      have r3 := (ho3.rd.below hb4).more hb4.size
      clear ho3
      go_wp2_with fail
      refine (iSameBytes_any _ _ _ _ xs ys w4 _ r3 ho4.rd bx by_).mono ?_
      rintro e w' ⟨rfl, rfl⟩
      rw [HV.out]
      go_wp2_with fail
      refine (toByteS_any A c xs w4 hx4 (by omega)).mono ?_
      rintro e w5 ⟨rfl, ho5, hb5⟩
      have hy5 := (hy4.below hb5).more hb5.size
      have hB5 := hB4.trans (hb5.mono hB4.size)
      have r4 := (ho4.rd.below hb5).more hb5.size
      go_wp2_with fail
      refine (eqByteS_any _ _ _ _ xs xs w5 _ ((r3.below hb5).more hb5.size) ho5.rd (by omega)).mono ?_
      rintro e w6 ⟨rfl, n, rfl⟩
      rw [show decide (xs = xs) = true by simp]
      go_wp2_with fail
      refine (toByteS_any A' c' ys (w5.drewN n) (hy5.drewN n) (by omega)).mono ?_
      rintro e w7 ⟨rfl, ho7, hb7⟩
      have hB7 := (bdrew hB5 n).trans (hb7.mono hB5.size)
      go_wp2_with fail
      refine (eqByteS_any _ _ _ _ ys ys w7 _ (((r4.drewN n).below hb7).more hb7.size) ho7.rd (by omega)).mono ?_
      rintro e w8 ⟨rfl, n2, rfl⟩
      rw [show decide (ys = ys) = true by simp]
      go_wp2
      go_ret
      exact ⟨rfl, bdrew hB7 n2⟩
end Go.Proofs.Ytfdhilpmblbkfaa
