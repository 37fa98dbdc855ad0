/- The walk of the law FnExactCut, laid by a program of ours (lawgen.py) out of the law's text. -/
import Derived.Test.YtfdhilpmblbkfaaCut
namespace Go.Proofs.Ytfdhilpmblbkfaa
open Go.RowKit
set_option linter.unusedVariables false

set_option maxHeartbeats 4000000 in
theorem wCut (s : ByteArray) (w : World) (hsz : s.size ≤ 9223372036854775807) :
    Calls Try.prog 7 #[.string s] w fun e w' => e = .returned (.bool true) ∧ Below w.heap.size w w' := by
  by_cases hbigaS : 1048576 < s.size
  · have i0 : (1048576 : Int) < (s.size : Int) := by omega
    go_enter Try.func7, Try.ntmps7
    go_wp2
    go_ret
    exact ⟨rfl, Below.refl _ _⟩
  have hmaS : s.size ≤ 1048576 := by omega
  obtain ⟨R0, hR0⟩ : ∃ R, splitL s 32 = R := ⟨_, rfl⟩
  have hl0 : R0.length ≤ 1048577 := by rw [← hR0]; exact Nat.le_trans (splitL_len s 32) (by omega)
  have HR0 := Lib.hid hR0
  clear hR0
  go_enter Try.func7, Try.ntmps7
  go_wp2_with fail
  refine (sCut_c s (by omega)).mono ?_
  rintro e w1 ⟨w0, rfl, ow0, hb1⟩
  rw [HR0.out] at ow0
  have B1 := hb1
  have s1 := hb1.size
  go_wp2_with fail
  refine (iCut_c s (by omega)).mono ?_
  rintro e w2 ⟨g0, rfl, og0, hb2⟩
  rw [HR0.out] at og0
  have B2 := B1.trans (hb2.mono B1.size)
  have s2 := hb2.size
  replace ow0 := ow0.below hb2
  go_wp2_with fail
  refine (eqStringS_same og0.rd ow0.rd (by omega)).mono ?_
  rintro e w3 ⟨rfl, hb3⟩
  have B3 := B2.trans (hb3.mono B2.size)
  have s3 := hb3.size
  replace ow0 := ow0.below hb3
  replace og0 := og0.below hb3
  go_wp2_with fail
  refine (markStringS_c og0 (by omega) (by omega) (by omega)).mono ?_
  rintro e w4 ⟨rfl, og0M, hc4⟩
  have B4 := B3.trans (hc4.below (by omega) (by omega))
  have s4 := hc4.size
  replace ow0 := ow0.chg hc4 (by omega)
  clear og0
  have og0 := og0M
  clear og0M
  go_wp2_with fail
  refine (heldStringS_c og0.rd (by omega) (by omega) (by omega)).mono ?_
  rintro e w5 ⟨rfl, hb5⟩
  have B5 := B4.trans (hb5.mono B4.size)
  have s5 := hb5.size
  replace ow0 := ow0.below hb5
  replace og0 := og0.below hb5
  go_wp2_with fail
  refine (iCut_c s (by omega)).mono ?_
  rintro e w6 ⟨h0, rfl, oh0, hb6⟩
  rw [HR0.out] at oh0
  have B6 := B5.trans (hb6.mono B5.size)
  have s6 := hb6.size
  replace ow0 := ow0.below hb6
  replace og0 := og0.below hb6
  go_wp2_with fail
  refine (eqStringS_same oh0.rd ow0.rd (by omega)).mono ?_
  rintro e w7 ⟨rfl, hb7⟩
  have B7 := B6.trans (hb7.mono B6.size)
  have s7 := hb7.size
  replace ow0 := ow0.below hb7
  replace og0 := og0.below hb7
  replace oh0 := oh0.below hb7
  go_wp2_with fail
  refine (heldStringS_c og0.rd (by omega) (by omega) (by omega)).mono ?_
  rintro e w8 ⟨rfl, hb8⟩
  have B8 := B7.trans (hb8.mono B7.size)
  have s8 := hb8.size
  replace ow0 := ow0.below hb8
  replace og0 := og0.below hb8
  replace oh0 := oh0.below hb8
  go_wp2
  go_ret
  exact ⟨rfl, B8⟩

end Go.Proofs.Ytfdhilpmblbkfaa
