/- The walk of the law FnExactFrames, laid by a program of ours (lawgen2.py) out of the law's text. -/
import Derived.Test.YtdempiibbhfijaaFrame3
namespace Go.Proofs.Ytdempiibbhfijaa
open Go.RowKit
set_option linter.unusedVariables false

set_option maxRecDepth 100000 in
set_option maxHeartbeats 8000000 in
theorem wFramesX (v_aL : Value) (l : List (List Int)) (w : World) (r_aL : RV byteSSL w v_aL l) (hb : BytesS l) :
    Calls Try.prog 7 #[v_aL] w fun e w' => e = .returned (.bool true) ∧ Below w.heap.size w w' := by
  have h_aL := r_aL
  obtain ⟨AaL, caL, rfl, paL, qaL, -⟩ := rv_slice h_aL
  unfold maxLen at qaL
  clear h_aL
  have B0 : Below w.heap.size w w := Below.refl _ _
  by_cases hbig_aL : sizeSS l ≤ 1048576
  case neg =>
    go_enter Try.func7, Try.ntmps7
    go_wp2_with fail
    refine (szByteSS_c (r_aL.from_ B0) (by omega) (by omega)).mono ?_
    rintro e w1 ⟨rfl, h_w1⟩
    have B_w1 := B0.trans (h_w1.mono B0.size)
    have s_w1 := h_w1.size
    rw [show szV (1048576) (sizeSS l : Int) = -1 from if_neg (by omega)]
    go_wp2
    go_ret
    exact ⟨rfl, B_w1⟩
  have hz_aL := bulkS_le l
  obtain ⟨R0, hR0⟩ : ∃ R, frames l = R := ⟨_, rfl⟩
  have hl0 : R0.length ≤ 16777216 := by rw [← hR0]; exact Nat.le_trans (frames_len l) (by omega)
  have HR0 := Lib.hid hR0
  clear hR0
  obtain ⟨R1, hR1⟩ : ∃ R, framesB l = R := ⟨_, rfl⟩
  have HR1 := Lib.hid hR1
  clear hR1
  go_enter Try.func7, Try.ntmps7
  go_wp2_with fail
  refine (szByteSS_c (r_aL.from_ B0) (by omega) (by omega)).mono ?_
  rintro e w1 ⟨rfl, h_w1⟩
  have B_w1 := B0.trans (h_w1.mono B0.size)
  have s_w1 := h_w1.size
  rw [show szV (1048576) (sizeSS l : Int) = 1048576 - (sizeSS l : Int) from if_pos (by omega)]
  have gz0 : decide (1048576 - (sizeSS l : Int) < 0) = false := decide_eq_false (by omega)
  go_wp2_with fail
  refine (toByteSS_c (r_aL.from_ B_w1) (by omega)).mono ?_
  rintro e w2 ⟨v_t1, rfl, o_t1, h_w2⟩
  have B_w2 := B_w1.trans (h_w2.mono B_w1.size)
  have s_w2 := h_w2.size
  obtain ⟨At1, ct1, rfl, -, -, -⟩ := rv_slice o_t1.rd
  go_wp2_with fail
  refine (sFrames_c o_t1.rd hb (by omega)).mono ?_
  rintro e w3 ⟨v_w0, rfl, o_w0, h_w3⟩
  replace o_t1 := o_t1.below h_w3
  have B_w3 := B_w2.trans (h_w3.mono B_w2.size)
  have s_w3 := h_w3.size
  rw [HR0.out] at o_w0
  rw [HR1.out]
  obtain ⟨Aw0, cw0, rfl, -, -, -⟩ := o_w0.rd
  go_wp2_with fail
  refine (toByteSS_c (r_aL.from_ B_w3) (by omega)).mono ?_
  rintro e w4 ⟨v_t2, rfl, o_t2, h_w4⟩
  replace o_t1 := o_t1.below h_w4
  replace o_w0 := o_w0.below h_w4
  have B_w4 := B_w3.trans (h_w4.mono B_w3.size)
  have s_w4 := h_w4.size
  obtain ⟨At2, ct2, rfl, -, -, -⟩ := rv_slice o_t2.rd
  go_wp2_with fail
  refine (iFrames_c o_t2.rd hb (by omega)).mono ?_
  rintro e w5 ⟨v_g0, rfl, o_g0, h_w5⟩
  replace o_t1 := o_t1.below h_w5
  replace o_w0 := o_w0.below h_w5
  replace o_t2 := o_t2.below h_w5
  have B_w5 := B_w4.trans (h_w5.mono B_w4.size)
  have s_w5 := h_w5.size
  rw [HR0.out] at o_g0
  rw [HR1.out]
  obtain ⟨Ag0, cg0, rfl, -, -, -⟩ := o_g0.rd
  go_wp2_with fail
  refine (eqByteS_same o_g0.rd o_w0.rd (by omega)).mono ?_
  rintro e w6 ⟨rfl, h_w6⟩
  replace o_t1 := o_t1.below h_w6
  replace o_w0 := o_w0.below h_w6
  replace o_t2 := o_t2.below h_w6
  replace o_g0 := o_g0.below h_w6
  have B_w6 := B_w5.trans (h_w6.mono B_w5.size)
  have s_w6 := h_w6.size
  go_wp2_with fail
  refine (toByteSS_c (r_aL.from_ B_w6) (by omega)).mono ?_
  rintro e w7 ⟨v_t3, rfl, o_t3, h_w7⟩
  replace o_t1 := o_t1.below h_w7
  replace o_w0 := o_w0.below h_w7
  replace o_t2 := o_t2.below h_w7
  replace o_g0 := o_g0.below h_w7
  have B_w7 := B_w6.trans (h_w7.mono B_w6.size)
  have s_w7 := h_w7.size
  obtain ⟨At3, ct3, rfl, -, -, -⟩ := rv_slice o_t3.rd
  go_wp2_with fail
  refine (eqByteSS_same o_t2.rd o_t3.rd (by omega)).mono ?_
  rintro e w8 ⟨rfl, h_w8⟩
  replace o_t1 := o_t1.below h_w8
  replace o_w0 := o_w0.below h_w8
  replace o_t2 := o_t2.below h_w8
  replace o_g0 := o_g0.below h_w8
  replace o_t3 := o_t3.below h_w8
  have B_w8 := B_w7.trans (h_w8.mono B_w7.size)
  have s_w8 := h_w8.size
  go_wp2_with fail
  refine (markByteSS_c o_t2 (by omega) (by omega) (by omega)).mono ?_
  rintro e w9 ⟨rfl, y, h_w9⟩
  replace o_t1 := o_t1.chg h_w9 (by omega)
  replace o_w0 := o_w0.chg h_w9 (by omega)
  replace o_g0 := o_g0.chg h_w9 (by omega)
  replace o_t3 := o_t3.chg h_w9 (by omega)
  have B_w9 := Below.chg_ B_w8 h_w9 (by omega) (by omega)
  have s_w9 := h_w9.size
  replace o_t2 := y
  clear y
  go_wp2_with fail
  refine (eqByteS_same o_g0.rd o_w0.rd (by omega)).mono ?_
  rintro e w10 ⟨rfl, h_w10⟩
  replace o_t1 := o_t1.below h_w10
  replace o_w0 := o_w0.below h_w10
  replace o_t2 := o_t2.below h_w10
  replace o_g0 := o_g0.below h_w10
  replace o_t3 := o_t3.below h_w10
  have B_w10 := B_w9.trans (h_w10.mono B_w9.size)
  have s_w10 := h_w10.size
  go_wp2_with fail
  refine (markByteS_c o_g0 (by omega) (by omega) (by omega)).mono ?_
  rintro e w11 ⟨rfl, y, h_w11⟩
  replace o_t1 := o_t1.chg h_w11 (by omega)
  replace o_w0 := o_w0.chg h_w11 (by omega)
  replace o_t2 := o_t2.chg h_w11 (by omega)
  replace o_t3 := o_t3.chg h_w11 (by omega)
  have B_w11 := Below.chg_ B_w10 h_w11 (by omega) (by omega)
  have s_w11 := h_w11.size
  replace o_g0 := y
  clear y
  go_wp2_with fail
  refine (heldByteS_c o_g0.rd (by omega) (by omega) (by omega)).mono ?_
  rintro e w12 ⟨rfl, h_w12⟩
  replace o_t1 := o_t1.below h_w12
  replace o_w0 := o_w0.below h_w12
  replace o_t2 := o_t2.below h_w12
  replace o_g0 := o_g0.below h_w12
  replace o_t3 := o_t3.below h_w12
  have B_w12 := B_w11.trans (h_w12.mono B_w11.size)
  have s_w12 := h_w12.size
  go_wp2_with fail
  refine (toByteSS_c (r_aL.from_ B_w12) (by omega)).mono ?_
  rintro e w13 ⟨v_t4, rfl, o_t4, h_w13⟩
  replace o_t1 := o_t1.below h_w13
  replace o_w0 := o_w0.below h_w13
  replace o_t2 := o_t2.below h_w13
  replace o_g0 := o_g0.below h_w13
  replace o_t3 := o_t3.below h_w13
  have B_w13 := B_w12.trans (h_w13.mono B_w12.size)
  have s_w13 := h_w13.size
  obtain ⟨At4, ct4, rfl, -, -, -⟩ := rv_slice o_t4.rd
  go_wp2_with fail
  refine (iFrames_c o_t4.rd hb (by omega)).mono ?_
  rintro e w14 ⟨v_h0, rfl, o_h0, h_w14⟩
  replace o_t1 := o_t1.below h_w14
  replace o_w0 := o_w0.below h_w14
  replace o_t2 := o_t2.below h_w14
  replace o_g0 := o_g0.below h_w14
  replace o_t3 := o_t3.below h_w14
  replace o_t4 := o_t4.below h_w14
  have B_w14 := B_w13.trans (h_w14.mono B_w13.size)
  have s_w14 := h_w14.size
  rw [HR0.out] at o_h0
  rw [HR1.out]
  obtain ⟨Ah0, ch0, rfl, -, -, -⟩ := o_h0.rd
  go_wp2_with fail
  refine (eqByteS_same o_h0.rd o_w0.rd (by omega)).mono ?_
  rintro e w15 ⟨rfl, h_w15⟩
  replace o_t1 := o_t1.below h_w15
  replace o_w0 := o_w0.below h_w15
  replace o_t2 := o_t2.below h_w15
  replace o_g0 := o_g0.below h_w15
  replace o_t3 := o_t3.below h_w15
  replace o_t4 := o_t4.below h_w15
  replace o_h0 := o_h0.below h_w15
  have B_w15 := B_w14.trans (h_w15.mono B_w14.size)
  have s_w15 := h_w15.size
  go_wp2_with fail
  refine (heldByteS_c o_g0.rd (by omega) (by omega) (by omega)).mono ?_
  rintro e w16 ⟨rfl, h_w16⟩
  replace o_t1 := o_t1.below h_w16
  replace o_w0 := o_w0.below h_w16
  replace o_t2 := o_t2.below h_w16
  replace o_g0 := o_g0.below h_w16
  replace o_t3 := o_t3.below h_w16
  replace o_t4 := o_t4.below h_w16
  replace o_h0 := o_h0.below h_w16
  have B_w16 := B_w15.trans (h_w16.mono B_w15.size)
  have s_w16 := h_w16.size
  go_wp2
  go_ret
  exact ⟨rfl, B_w16⟩

end Go.Proofs.Ytdempiibbhfijaa
