/- The walk of the law FnExactFramePut, laid by a program of ours (lawgen.py) out of the law's text. -/
import Derived.Test.YtdempiibbhfijaaFrame1
namespace Go.Proofs.Ytdempiibbhfijaa
open Go.RowKit
set_option linter.unusedVariables false

set_option maxHeartbeats 4000000 in
theorem wFramePut (vaB : Value) (zs : List Int) (vaP : Value) (ps : List Int) (w : World) (raB : RS .u8 w vaB zs) (raP : RS .u8 w vaP ps) (hb : Bytes ps) :
    Calls Try.prog 4 #[vaB, vaP] w fun e w' => e = .returned (.bool true) ∧ Below w.heap.size w w' := by
  obtain ⟨AaB, caB, rfl, hc1aB, hc2aB, hraB⟩ := raB
  have raB : RS .u8 w (.slice AaB zs.length caB) zs := ⟨_, _, rfl, hc1aB, hc2aB, hraB⟩
  unfold maxLen at hc2aB
  obtain ⟨AaP, caP, rfl, hc1aP, hc2aP, hraP⟩ := raP
  have raP : RS .u8 w (.slice AaP ps.length caP) ps := ⟨_, _, rfl, hc1aP, hc2aP, hraP⟩
  unfold maxLen at hc2aP
  by_cases hbigaB : 1048576 < zs.length
  · have i0 : (1048576 : Int) < (zs.length : Int) := by omega
    go_enter Try.func4, Try.ntmps4
    go_wp2
    go_ret
    exact ⟨rfl, Below.refl _ _⟩
  have hmaB : zs.length ≤ 1048576 := by omega
  by_cases hbigaP : 1048576 < ps.length
  · have i0 : (1048576 : Int) < (ps.length : Int) := by omega
    go_enter Try.func4, Try.ntmps4
    go_wp2
    go_ret
    exact ⟨rfl, Below.refl _ _⟩
  have hmaP : ps.length ≤ 1048576 := by omega
  obtain ⟨R0, hR0⟩ : ∃ R, framePut zs ps = R := ⟨_, rfl⟩
  have hl0 : R0.length ≤ 16777216 := by rw [← hR0]; exact Nat.le_trans (framePut_len zs ps) (by omega)
  have HR0 := Lib.hid hR0
  clear hR0
  obtain ⟨R1, hR1⟩ : ∃ R, frameB ps = R := ⟨_, rfl⟩
  have HR1 := Lib.hid hR1
  clear hR1
  go_enter Try.func4, Try.ntmps4
  go_wp2_with fail
  refine (toByteS_c (raB.from_ (Below.refl _ _)) (by omega)).mono ?_
  rintro e w1 ⟨t0, rfl, ot0, hb1⟩
  have B1 := hb1
  have s1 := hb1.size
  go_wp2_with fail
  refine (toByteS_c (raP.from_ B1) (by omega)).mono ?_
  rintro e w2 ⟨t1, rfl, ot1, hb2⟩
  have B2 := B1.trans (hb2.mono B1.size)
  have s2 := hb2.size
  replace ot0 := ot0.below hb2
  go_wp2_with fail
  refine (sFramePut_c ot0.rd ot1.rd hb (by omega) (by omega)).mono ?_
  rintro e w3 ⟨w0, rfl, ow0, hb3⟩
  rw [HR0.out] at ow0
  rw [HR1.out]
  have B3 := B2.trans (hb3.mono B2.size)
  have s3 := hb3.size
  replace ot0 := ot0.below hb3
  replace ot1 := ot1.below hb3
  go_wp2_with fail
  refine (toByteS_c (raB.from_ B3) (by omega)).mono ?_
  rintro e w4 ⟨t2, rfl, ot2, hb4⟩
  have B4 := B3.trans (hb4.mono B3.size)
  have s4 := hb4.size
  replace ot0 := ot0.below hb4
  replace ot1 := ot1.below hb4
  replace ow0 := ow0.below hb4
  go_wp2_with fail
  refine (toByteS_c (raP.from_ B4) (by omega)).mono ?_
  rintro e w5 ⟨t3, rfl, ot3, hb5⟩
  have B5 := B4.trans (hb5.mono B4.size)
  have s5 := hb5.size
  replace ot0 := ot0.below hb5
  replace ot1 := ot1.below hb5
  replace ow0 := ow0.below hb5
  replace ot2 := ot2.below hb5
  go_wp2_with fail
  refine (iFramePut_c ot2.rd ot3.rd hb (by omega) (by omega)).mono ?_
  rintro e w6 ⟨g0, rfl, og0, hb6⟩
  rw [HR0.out] at og0
  rw [HR1.out]
  have B6 := B5.trans (hb6.mono B5.size)
  have s6 := hb6.size
  replace ot0 := ot0.below hb6
  replace ot1 := ot1.below hb6
  replace ow0 := ow0.below hb6
  replace ot2 := ot2.below hb6
  replace ot3 := ot3.below hb6
  go_wp2_with fail
  refine (eqByteS_same og0.rd ow0.rd (by omega)).mono ?_
  rintro e w7 ⟨rfl, hb7⟩
  have B7 := B6.trans (hb7.mono B6.size)
  have s7 := hb7.size
  replace ot0 := ot0.below hb7
  replace ot1 := ot1.below hb7
  replace ow0 := ow0.below hb7
  replace ot2 := ot2.below hb7
  replace ot3 := ot3.below hb7
  replace og0 := og0.below hb7
  go_wp2_with fail
  refine (toByteS_c (raB.from_ B7) (by omega)).mono ?_
  rintro e w8 ⟨t4, rfl, ot4, hb8⟩
  have B8 := B7.trans (hb8.mono B7.size)
  have s8 := hb8.size
  replace ot0 := ot0.below hb8
  replace ot1 := ot1.below hb8
  replace ow0 := ow0.below hb8
  replace ot2 := ot2.below hb8
  replace ot3 := ot3.below hb8
  replace og0 := og0.below hb8
  go_wp2_with fail
  refine (eqByteS_same ot2.rd ot4.rd (by omega)).mono ?_
  rintro e w9 ⟨rfl, hb9⟩
  have B9 := B8.trans (hb9.mono B8.size)
  have s9 := hb9.size
  replace ot0 := ot0.below hb9
  replace ot1 := ot1.below hb9
  replace ow0 := ow0.below hb9
  replace ot2 := ot2.below hb9
  replace ot3 := ot3.below hb9
  replace og0 := og0.below hb9
  replace ot4 := ot4.below hb9
  go_wp2_with fail
  refine (toByteS_c (raP.from_ B9) (by omega)).mono ?_
  rintro e w10 ⟨t5, rfl, ot5, hb10⟩
  have B10 := B9.trans (hb10.mono B9.size)
  have s10 := hb10.size
  replace ot0 := ot0.below hb10
  replace ot1 := ot1.below hb10
  replace ow0 := ow0.below hb10
  replace ot2 := ot2.below hb10
  replace ot3 := ot3.below hb10
  replace og0 := og0.below hb10
  replace ot4 := ot4.below hb10
  go_wp2_with fail
  refine (eqByteS_same ot3.rd ot5.rd (by omega)).mono ?_
  rintro e w11 ⟨rfl, hb11⟩
  have B11 := B10.trans (hb11.mono B10.size)
  have s11 := hb11.size
  replace ot0 := ot0.below hb11
  replace ot1 := ot1.below hb11
  replace ow0 := ow0.below hb11
  replace ot2 := ot2.below hb11
  replace ot3 := ot3.below hb11
  replace og0 := og0.below hb11
  replace ot4 := ot4.below hb11
  replace ot5 := ot5.below hb11
  go_wp2_with fail
  refine (markByteS_c ot2 (by omega) (by omega) (by omega)).mono ?_
  rintro e w12 ⟨rfl, ot2M, hc12⟩
  have B12 := B11.trans (hc12.below (by omega) (by omega))
  have s12 := hc12.size
  replace ot0 := ot0.chg hc12 (by omega)
  replace ot1 := ot1.chg hc12 (by omega)
  replace ow0 := ow0.chg hc12 (by omega)
  replace ot3 := ot3.chg hc12 (by omega)
  replace og0 := og0.chg hc12 (by omega)
  replace ot4 := ot4.chg hc12 (by omega)
  replace ot5 := ot5.chg hc12 (by omega)
  clear ot2
  have ot2 := ot2M
  clear ot2M
  go_wp2_with fail
  refine (markByteS_c ot3 (by omega) (by omega) (by omega)).mono ?_
  rintro e w13 ⟨rfl, ot3M, hc13⟩
  have B13 := B12.trans (hc13.below (by omega) (by omega))
  have s13 := hc13.size
  replace ot0 := ot0.chg hc13 (by omega)
  replace ot1 := ot1.chg hc13 (by omega)
  replace ow0 := ow0.chg hc13 (by omega)
  replace ot2 := ot2.chg hc13 (by omega)
  replace og0 := og0.chg hc13 (by omega)
  replace ot4 := ot4.chg hc13 (by omega)
  replace ot5 := ot5.chg hc13 (by omega)
  clear ot3
  have ot3 := ot3M
  clear ot3M
  go_wp2_with fail
  refine (eqByteS_same og0.rd ow0.rd (by omega)).mono ?_
  rintro e w14 ⟨rfl, hb14⟩
  have B14 := B13.trans (hb14.mono B13.size)
  have s14 := hb14.size
  replace ot0 := ot0.below hb14
  replace ot1 := ot1.below hb14
  replace ow0 := ow0.below hb14
  replace ot2 := ot2.below hb14
  replace ot3 := ot3.below hb14
  replace og0 := og0.below hb14
  replace ot4 := ot4.below hb14
  replace ot5 := ot5.below hb14
  go_wp2_with fail
  refine (markByteS_c og0 (by omega) (by omega) (by omega)).mono ?_
  rintro e w15 ⟨rfl, og0M, hc15⟩
  have B15 := B14.trans (hc15.below (by omega) (by omega))
  have s15 := hc15.size
  replace ot0 := ot0.chg hc15 (by omega)
  replace ot1 := ot1.chg hc15 (by omega)
  replace ow0 := ow0.chg hc15 (by omega)
  replace ot2 := ot2.chg hc15 (by omega)
  replace ot3 := ot3.chg hc15 (by omega)
  replace ot4 := ot4.chg hc15 (by omega)
  replace ot5 := ot5.chg hc15 (by omega)
  clear og0
  have og0 := og0M
  clear og0M
  go_wp2_with fail
  refine (heldByteS_c og0.rd (by omega) (by omega) (by omega)).mono ?_
  rintro e w16 ⟨rfl, hb16⟩
  have B16 := B15.trans (hb16.mono B15.size)
  have s16 := hb16.size
  replace ot0 := ot0.below hb16
  replace ot1 := ot1.below hb16
  replace ow0 := ow0.below hb16
  replace ot2 := ot2.below hb16
  replace ot3 := ot3.below hb16
  replace og0 := og0.below hb16
  replace ot4 := ot4.below hb16
  replace ot5 := ot5.below hb16
  go_wp2_with fail
  refine (toByteS_c (raB.from_ B16) (by omega)).mono ?_
  rintro e w17 ⟨t6, rfl, ot6, hb17⟩
  have B17 := B16.trans (hb17.mono B16.size)
  have s17 := hb17.size
  replace ot0 := ot0.below hb17
  replace ot1 := ot1.below hb17
  replace ow0 := ow0.below hb17
  replace ot2 := ot2.below hb17
  replace ot3 := ot3.below hb17
  replace og0 := og0.below hb17
  replace ot4 := ot4.below hb17
  replace ot5 := ot5.below hb17
  go_wp2_with fail
  refine (toByteS_c (raP.from_ B17) (by omega)).mono ?_
  rintro e w18 ⟨t7, rfl, ot7, hb18⟩
  have B18 := B17.trans (hb18.mono B17.size)
  have s18 := hb18.size
  replace ot0 := ot0.below hb18
  replace ot1 := ot1.below hb18
  replace ow0 := ow0.below hb18
  replace ot2 := ot2.below hb18
  replace ot3 := ot3.below hb18
  replace og0 := og0.below hb18
  replace ot4 := ot4.below hb18
  replace ot5 := ot5.below hb18
  replace ot6 := ot6.below hb18
  go_wp2_with fail
  refine (iFramePut_c ot6.rd ot7.rd hb (by omega) (by omega)).mono ?_
  rintro e w19 ⟨h0, rfl, oh0, hb19⟩
  rw [HR0.out] at oh0
  rw [HR1.out]
  have B19 := B18.trans (hb19.mono B18.size)
  have s19 := hb19.size
  replace ot0 := ot0.below hb19
  replace ot1 := ot1.below hb19
  replace ow0 := ow0.below hb19
  replace ot2 := ot2.below hb19
  replace ot3 := ot3.below hb19
  replace og0 := og0.below hb19
  replace ot4 := ot4.below hb19
  replace ot5 := ot5.below hb19
  replace ot6 := ot6.below hb19
  replace ot7 := ot7.below hb19
  go_wp2_with fail
  refine (eqByteS_same oh0.rd ow0.rd (by omega)).mono ?_
  rintro e w20 ⟨rfl, hb20⟩
  have B20 := B19.trans (hb20.mono B19.size)
  have s20 := hb20.size
  replace ot0 := ot0.below hb20
  replace ot1 := ot1.below hb20
  replace ow0 := ow0.below hb20
  replace ot2 := ot2.below hb20
  replace ot3 := ot3.below hb20
  replace og0 := og0.below hb20
  replace ot4 := ot4.below hb20
  replace ot5 := ot5.below hb20
  replace ot6 := ot6.below hb20
  replace ot7 := ot7.below hb20
  replace oh0 := oh0.below hb20
  go_wp2_with fail
  refine (heldByteS_c og0.rd (by omega) (by omega) (by omega)).mono ?_
  rintro e w21 ⟨rfl, hb21⟩
  have B21 := B20.trans (hb21.mono B20.size)
  have s21 := hb21.size
  replace ot0 := ot0.below hb21
  replace ot1 := ot1.below hb21
  replace ow0 := ow0.below hb21
  replace ot2 := ot2.below hb21
  replace ot3 := ot3.below hb21
  replace og0 := og0.below hb21
  replace ot4 := ot4.below hb21
  replace ot5 := ot5.below hb21
  replace ot6 := ot6.below hb21
  replace ot7 := ot7.below hb21
  replace oh0 := oh0.below hb21
  go_wp2
  go_ret
  exact ⟨rfl, B21⟩

end Go.Proofs.Ytdempiibbhfijaa
