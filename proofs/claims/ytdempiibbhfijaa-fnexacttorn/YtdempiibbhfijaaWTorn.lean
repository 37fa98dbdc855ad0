/- The walk of the law FnExactTorn, laid by a program of ours (lawgen.py) out of the law's text. -/
import Derived.Test.YtdempiibbhfijaaIter
namespace Go.Proofs.Ytdempiibbhfijaa
open Go.RowKit
set_option linter.unusedVariables false

set_option maxHeartbeats 4000000 in
theorem wTorn (vaB : Value) (zs : List Int) (w : World) (raB : RS .u8 w vaB zs) (hb : Bytes zs) :
    Calls Try.prog 8 #[vaB] w fun e w' => e = .returned (.bool true) ∧ Below w.heap.size w w' := by
  obtain ⟨AaB, caB, rfl, hc1aB, hc2aB, hraB⟩ := raB
  have raB : RS .u8 w (.slice AaB zs.length caB) zs := ⟨_, _, rfl, hc1aB, hc2aB, hraB⟩
  unfold maxLen at hc2aB
  by_cases hbigaB : 1048576 < zs.length
  · have i0 : (1048576 : Int) < (zs.length : Int) := by omega
    go_enter Try.func8, Try.ntmps8
    go_wp2
    go_ret
    exact ⟨rfl, Below.refl _ _⟩
  have hmaB : zs.length ≤ 1048576 := by omega
  obtain ⟨R0, hR0⟩ : ∃ R, tornB zs = R := ⟨_, rfl⟩
  have HR0 := Lib.hid hR0
  clear hR0
  go_enter Try.func8, Try.ntmps8
  go_wp2_with fail
  refine (toByteS_c (raB.from_ (Below.refl _ _)) (by omega)).mono ?_
  rintro e w1 ⟨t0, rfl, ot0, hb1⟩
  have B1 := hb1
  have s1 := hb1.size
  go_wp2_with fail
  refine (sTorn_c ot0.rd hb (by omega)).mono ?_
  rintro e w2 ⟨rfl, hb2⟩
  rw [HR0.out]
  have B2 := B1.trans (hb2.mono B1.size)
  have s2 := hb2.size
  replace ot0 := ot0.below hb2
  go_wp2_with fail
  refine (toByteS_c (raB.from_ B2) (by omega)).mono ?_
  rintro e w3 ⟨t1, rfl, ot1, hb3⟩
  have B3 := B2.trans (hb3.mono B2.size)
  have s3 := hb3.size
  replace ot0 := ot0.below hb3
  go_wp2_with fail
  refine (iTorn_c ot1.rd hb (by omega)).mono ?_
  rintro e w4 ⟨rfl, hb4⟩
  rw [HR0.out]
  have B4 := B3.trans (hb4.mono B3.size)
  have s4 := hb4.size
  replace ot0 := ot0.below hb4
  replace ot1 := ot1.below hb4
  go_wp2_with fail
  refine (toByteS_c (raB.from_ B4) (by omega)).mono ?_
  rintro e w5 ⟨t2, rfl, ot2, hb5⟩
  have B5 := B4.trans (hb5.mono B4.size)
  have s5 := hb5.size
  replace ot0 := ot0.below hb5
  replace ot1 := ot1.below hb5
  go_wp2_with fail
  refine (eqByteS_same ot1.rd ot2.rd (by omega)).mono ?_
  rintro e w6 ⟨rfl, hb6⟩
  have B6 := B5.trans (hb6.mono B5.size)
  have s6 := hb6.size
  replace ot0 := ot0.below hb6
  replace ot1 := ot1.below hb6
  replace ot2 := ot2.below hb6
  go_wp2
  go_ret
  exact ⟨rfl, B6⟩

end Go.Proofs.Ytdempiibbhfijaa
