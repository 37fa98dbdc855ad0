/- The walk of the law FnExactFrameGet, laid by a program of ours (lawgen.py) out of the law's text. -/
import Derived.Test.YtdempiibbhfijaaFrame2s
namespace Go.Proofs.Ytdempiibbhfijaa
open Go.RowKit
set_option linter.unusedVariables false

set_option maxHeartbeats 4000000 in
theorem wFrameGet (vaB : Value) (zs : List Int) (a : Int) (w : World) (raB : RS .u8 w vaB zs) (hb : Bytes zs) (ha1 : -9223372036854775808 ≤ a) (ha2 : a ≤ 9223372036854775807) :
    Calls Try.prog 5 #[vaB, .int .i64 a] w fun e w' => e = .returned (.bool true) ∧ Below w.heap.size w w' := by
  obtain ⟨AaB, caB, rfl, hc1aB, hc2aB, hraB⟩ := raB
  have raB : RS .u8 w (.slice AaB zs.length caB) zs := ⟨_, _, rfl, hc1aB, hc2aB, hraB⟩
  unfold maxLen at hc2aB
  by_cases hbigaB : 1048576 < zs.length
  · have i0 : (1048576 : Int) < (zs.length : Int) := by omega
    go_enter Try.func5, Try.ntmps5
    go_wp2
    go_ret
    exact ⟨rfl, Below.refl _ _⟩
  have hmaB : zs.length ≤ 1048576 := by omega
  obtain ⟨R0, hR0⟩ : ∃ R, frameAtL zs a = R := ⟨_, rfl⟩
  have hl0 : R0.length ≤ 2000 := by rw [← hR0]; exact frameAtL_len zs a
  have HR0 := Lib.hid hR0
  clear hR0
  obtain ⟨R1, hR1⟩ : ∃ R, frameAtP zs a = R := ⟨_, rfl⟩
  have HR1 := Lib.hid hR1
  clear hR1
  obtain ⟨R2, hR2⟩ : ∃ R, frameAtB zs a = R := ⟨_, rfl⟩
  have HR2 := Lib.hid hR2
  clear hR2
  go_enter Try.func5, Try.ntmps5
  go_wp2_with fail
  refine (toByteS_c (raB.from_ (Below.refl _ _)) (by omega)).mono ?_
  rintro e w1 ⟨t0, rfl, ot0, hb1⟩
  have B1 := hb1
  have s1 := hb1.size
  go_wp2_with fail
  refine (sFrameGet_c ot0.rd hb (by omega) ha1 ha2).mono ?_
  rintro e w2 ⟨w0, rfl, ow0, hb2⟩
  rw [HR0.out] at ow0
  rw [HR1.out]
  rw [HR2.out]
  have B2 := B1.trans (hb2.mono B1.size)
  have s2 := hb2.size
  replace ot0 := ot0.below hb2
  go_wp2_with fail
  refine (toByteS_c (raB.from_ B2) (by omega)).mono ?_
  rintro e w3 ⟨t1, rfl, ot1, hb3⟩
  have B3 := B2.trans (hb3.mono B2.size)
  have s3 := hb3.size
  replace ot0 := ot0.below hb3
  replace ow0 := ow0.below hb3
  go_wp2_with fail
  refine (iFrameGet_c ot1.rd hb (by omega) ha1 ha2).mono ?_
  rintro e w4 ⟨g0, rfl, og0, hb4⟩
  rw [HR0.out] at og0
  rw [HR1.out]
  rw [HR2.out]
  have B4 := B3.trans (hb4.mono B3.size)
  have s4 := hb4.size
  replace ot0 := ot0.below hb4
  replace ow0 := ow0.below hb4
  replace ot1 := ot1.below hb4
  go_wp2_with fail
  refine (eqByteS_same og0.rd ow0.rd (by omega)).mono ?_
  rintro e w5 ⟨rfl, hb5⟩
  have B5 := B4.trans (hb5.mono B4.size)
  have s5 := hb5.size
  replace ot0 := ot0.below hb5
  replace ow0 := ow0.below hb5
  replace ot1 := ot1.below hb5
  replace og0 := og0.below hb5
  go_wp2_with fail
  refine (toByteS_c (raB.from_ B5) (by omega)).mono ?_
  rintro e w6 ⟨t2, rfl, ot2, hb6⟩
  have B6 := B5.trans (hb6.mono B5.size)
  have s6 := hb6.size
  replace ot0 := ot0.below hb6
  replace ow0 := ow0.below hb6
  replace ot1 := ot1.below hb6
  replace og0 := og0.below hb6
  go_wp2_with fail
  refine (eqByteS_same ot1.rd ot2.rd (by omega)).mono ?_
  rintro e w7 ⟨rfl, hb7⟩
  have B7 := B6.trans (hb7.mono B6.size)
  have s7 := hb7.size
  replace ot0 := ot0.below hb7
  replace ow0 := ow0.below hb7
  replace ot1 := ot1.below hb7
  replace og0 := og0.below hb7
  replace ot2 := ot2.below hb7
  go_wp2_with fail
  refine (markByteS_c ot1 (by omega) (by omega) (by omega)).mono ?_
  rintro e w8 ⟨rfl, ot1M, hc8⟩
  have B8 := B7.trans (hc8.below (by omega) (by omega))
  have s8 := hc8.size
  replace ot0 := ot0.chg hc8 (by omega)
  replace ow0 := ow0.chg hc8 (by omega)
  replace og0 := og0.chg hc8 (by omega)
  replace ot2 := ot2.chg hc8 (by omega)
  clear ot1
  have ot1 := ot1M
  clear ot1M
  go_wp2_with fail
  refine (eqByteS_same og0.rd ow0.rd (by omega)).mono ?_
  rintro e w9 ⟨rfl, hb9⟩
  have B9 := B8.trans (hb9.mono B8.size)
  have s9 := hb9.size
  replace ot0 := ot0.below hb9
  replace ow0 := ow0.below hb9
  replace ot1 := ot1.below hb9
  replace og0 := og0.below hb9
  replace ot2 := ot2.below hb9
  go_wp2_with fail
  refine (markByteS_c og0 (by omega) (by omega) (by omega)).mono ?_
  rintro e w10 ⟨rfl, og0M, hc10⟩
  have B10 := B9.trans (hc10.below (by omega) (by omega))
  have s10 := hc10.size
  replace ot0 := ot0.chg hc10 (by omega)
  replace ow0 := ow0.chg hc10 (by omega)
  replace ot1 := ot1.chg hc10 (by omega)
  replace ot2 := ot2.chg hc10 (by omega)
  clear og0
  have og0 := og0M
  clear og0M
  go_wp2_with fail
  refine (heldByteS_c og0.rd (by omega) (by omega) (by omega)).mono ?_
  rintro e w11 ⟨rfl, hb11⟩
  have B11 := B10.trans (hb11.mono B10.size)
  have s11 := hb11.size
  replace ot0 := ot0.below hb11
  replace ow0 := ow0.below hb11
  replace ot1 := ot1.below hb11
  replace og0 := og0.below hb11
  replace ot2 := ot2.below hb11
  go_wp2_with fail
  refine (toByteS_c (raB.from_ B11) (by omega)).mono ?_
  rintro e w12 ⟨t3, rfl, ot3, hb12⟩
  have B12 := B11.trans (hb12.mono B11.size)
  have s12 := hb12.size
  replace ot0 := ot0.below hb12
  replace ow0 := ow0.below hb12
  replace ot1 := ot1.below hb12
  replace og0 := og0.below hb12
  replace ot2 := ot2.below hb12
  go_wp2_with fail
  refine (iFrameGet_c ot3.rd hb (by omega) ha1 ha2).mono ?_
  rintro e w13 ⟨h0, rfl, oh0, hb13⟩
  rw [HR0.out] at oh0
  rw [HR1.out]
  rw [HR2.out]
  have B13 := B12.trans (hb13.mono B12.size)
  have s13 := hb13.size
  replace ot0 := ot0.below hb13
  replace ow0 := ow0.below hb13
  replace ot1 := ot1.below hb13
  replace og0 := og0.below hb13
  replace ot2 := ot2.below hb13
  replace ot3 := ot3.below hb13
  go_wp2_with fail
  refine (eqByteS_same oh0.rd ow0.rd (by omega)).mono ?_
  rintro e w14 ⟨rfl, hb14⟩
  have B14 := B13.trans (hb14.mono B13.size)
  have s14 := hb14.size
  replace ot0 := ot0.below hb14
  replace ow0 := ow0.below hb14
  replace ot1 := ot1.below hb14
  replace og0 := og0.below hb14
  replace ot2 := ot2.below hb14
  replace ot3 := ot3.below hb14
  replace oh0 := oh0.below hb14
  go_wp2_with fail
  refine (heldByteS_c og0.rd (by omega) (by omega) (by omega)).mono ?_
  rintro e w15 ⟨rfl, hb15⟩
  have B15 := B14.trans (hb15.mono B14.size)
  have s15 := hb15.size
  replace ot0 := ot0.below hb15
  replace ow0 := ow0.below hb15
  replace ot1 := ot1.below hb15
  replace og0 := og0.below hb15
  replace ot2 := ot2.below hb15
  replace ot3 := ot3.below hb15
  replace oh0 := oh0.below hb15
  go_wp2
  go_ret
  exact ⟨rfl, B15⟩

end Go.Proofs.Ytdempiibbhfijaa
