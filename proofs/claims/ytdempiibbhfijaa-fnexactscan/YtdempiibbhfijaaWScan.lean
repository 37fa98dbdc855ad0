/- The walk of the law FnExactScan, laid by a program of ours (lawgen2.py) out of the law's text. -/
import Derived.Test.YtdempiibbhfijaaScan
namespace Go.Proofs.Ytdempiibbhfijaa
open Go.RowKit
set_option linter.unusedVariables false

set_option maxRecDepth 100000 in
set_option maxHeartbeats 8000000 in
theorem wScan (v_aB : Value) (b : List Int) (w : World) (r_aB : RS .u8 w v_aB b) (hb : Bytes b) :
    Calls Try.prog 6 #[v_aB] w fun e w' => e = .returned (.bool true) ∧ Below w.heap.size w w' := by
  obtain ⟨AaB, caB, rfl, paB, qaB, hraB⟩ := r_aB
  have r_aB : RS .u8 w (.slice AaB b.length caB) b := ⟨_, _, rfl, paB, qaB, hraB⟩
  unfold maxLen at qaB
  have B0 : Below w.heap.size w w := Below.refl _ _
  by_cases hbig_aB : 1048576 < b.length
  case pos =>
    have i0 : (1048576 : Int) < (b.length : Int) := by omega
    go_enter Try.func6, Try.ntmps6
    go_wp2
    go_ret
    exact ⟨rfl, B0⟩
  have hm_aB : b.length ≤ 1048576 := by omega
  obtain ⟨R0, hR0⟩ : ∃ R, scanL b = R := ⟨_, rfl⟩
  have hl0 : sizeSS R0 ≤ 16777216 := by rw [← hR0]; exact Nat.le_trans (scanL_size b) (by omega)
  have hz0 := bulkS_le R0
  have HR0 := Lib.hid hR0
  clear hR0
  obtain ⟨R1, hR1⟩ : ∃ R, scanP b = R := ⟨_, rfl⟩
  have HR1 := Lib.hid hR1
  clear hR1
  go_enter Try.func6, Try.ntmps6
  go_wp2_with fail
  refine (toByteS_c (r_aB.from_ B0) (by omega)).mono ?_
  rintro e w1 ⟨v_t1, rfl, o_t1, h_w1⟩
  have B_w1 := B0.trans (h_w1.mono B0.size)
  have s_w1 := h_w1.size
  obtain ⟨At1, ct1, rfl, -, -, -⟩ := o_t1.rd
  go_wp2_with fail
  refine (sScan_c o_t1.rd hb (by omega)).mono ?_
  rintro e w2 ⟨v_w0, rfl, o_w0, h_w2⟩
  replace o_t1 := o_t1.below h_w2
  have B_w2 := B_w1.trans (h_w2.mono B_w1.size)
  have s_w2 := h_w2.size
  rw [HR0.out] at o_w0
  rw [HR1.out]
  obtain ⟨Aw0, cw0, rfl, -, -, -⟩ := rv_slice o_w0.rd
  go_wp2_with fail
  refine (toByteS_c (r_aB.from_ B_w2) (by omega)).mono ?_
  rintro e w3 ⟨v_t2, rfl, o_t2, h_w3⟩
  replace o_t1 := o_t1.below h_w3
  replace o_w0 := o_w0.below h_w3
  have B_w3 := B_w2.trans (h_w3.mono B_w2.size)
  have s_w3 := h_w3.size
  obtain ⟨At2, ct2, rfl, -, -, -⟩ := o_t2.rd
  go_wp2_with fail
  refine (iScan_c o_t2.rd hb (by omega)).mono ?_
  rintro e w4 ⟨v_g0, rfl, o_g0, h_w4⟩
  replace o_t1 := o_t1.below h_w4
  replace o_w0 := o_w0.below h_w4
  replace o_t2 := o_t2.below h_w4
  have B_w4 := B_w3.trans (h_w4.mono B_w3.size)
  have s_w4 := h_w4.size
  rw [HR0.out] at o_g0
  rw [HR1.out]
  obtain ⟨Ag0, cg0, rfl, -, -, -⟩ := rv_slice o_g0.rd
  go_wp2_with fail
  refine (eqByteSS_same o_g0.rd o_w0.rd (by omega)).mono ?_
  rintro e w5 ⟨rfl, h_w5⟩
  replace o_t1 := o_t1.below h_w5
  replace o_w0 := o_w0.below h_w5
  replace o_t2 := o_t2.below h_w5
  replace o_g0 := o_g0.below h_w5
  have B_w5 := B_w4.trans (h_w5.mono B_w4.size)
  have s_w5 := h_w5.size
  go_wp2_with fail
  refine (toByteS_c (r_aB.from_ B_w5) (by omega)).mono ?_
  rintro e w6 ⟨v_t3, rfl, o_t3, h_w6⟩
  replace o_t1 := o_t1.below h_w6
  replace o_w0 := o_w0.below h_w6
  replace o_t2 := o_t2.below h_w6
  replace o_g0 := o_g0.below h_w6
  have B_w6 := B_w5.trans (h_w6.mono B_w5.size)
  have s_w6 := h_w6.size
  obtain ⟨At3, ct3, rfl, -, -, -⟩ := o_t3.rd
  go_wp2_with fail
  refine (eqByteS_same o_t2.rd o_t3.rd (by omega)).mono ?_
  rintro e w7 ⟨rfl, h_w7⟩
  replace o_t1 := o_t1.below h_w7
  replace o_w0 := o_w0.below h_w7
  replace o_t2 := o_t2.below h_w7
  replace o_g0 := o_g0.below h_w7
  replace o_t3 := o_t3.below h_w7
  have B_w7 := B_w6.trans (h_w7.mono B_w6.size)
  have s_w7 := h_w7.size
  go_wp2_with fail
  refine (markByteS_c o_t2 (by omega) (by omega) (by omega)).mono ?_
  rintro e w8 ⟨rfl, y, h_w8⟩
  replace o_t1 := o_t1.chg h_w8 (by omega)
  replace o_w0 := o_w0.chg h_w8 (by omega)
  replace o_g0 := o_g0.chg h_w8 (by omega)
  replace o_t3 := o_t3.chg h_w8 (by omega)
  have B_w8 := Below.chg_ B_w7 h_w8 (by omega) (by omega)
  have s_w8 := h_w8.size
  replace o_t2 := y
  clear y
  go_wp2_with fail
  refine (eqByteSS_same o_g0.rd o_w0.rd (by omega)).mono ?_
  rintro e w9 ⟨rfl, h_w9⟩
  replace o_t1 := o_t1.below h_w9
  replace o_w0 := o_w0.below h_w9
  replace o_t2 := o_t2.below h_w9
  replace o_g0 := o_g0.below h_w9
  replace o_t3 := o_t3.below h_w9
  have B_w9 := B_w8.trans (h_w9.mono B_w8.size)
  have s_w9 := h_w9.size
  go_wp2_with fail
  refine (markByteSS_c o_g0 (by omega) (by omega) (by omega)).mono ?_
  rintro e w10 ⟨rfl, y, h_w10⟩
  replace o_t1 := o_t1.chg h_w10 (by omega)
  replace o_w0 := o_w0.chg h_w10 (by omega)
  replace o_t2 := o_t2.chg h_w10 (by omega)
  replace o_t3 := o_t3.chg h_w10 (by omega)
  have B_w10 := Below.chg_ B_w9 h_w10 (by omega) (by omega)
  have s_w10 := h_w10.size
  replace o_g0 := y
  clear y
  go_wp2_with fail
  refine (heldByteSS_c o_g0.rd (by omega) (by omega) (by omega)).mono ?_
  rintro e w11 ⟨rfl, h_w11⟩
  replace o_t1 := o_t1.below h_w11
  replace o_w0 := o_w0.below h_w11
  replace o_t2 := o_t2.below h_w11
  replace o_g0 := o_g0.below h_w11
  replace o_t3 := o_t3.below h_w11
  have B_w11 := B_w10.trans (h_w11.mono B_w10.size)
  have s_w11 := h_w11.size
  go_wp2_with fail
  refine (toByteS_c (r_aB.from_ B_w11) (by omega)).mono ?_
  rintro e w12 ⟨v_t4, rfl, o_t4, h_w12⟩
  replace o_t1 := o_t1.below h_w12
  replace o_w0 := o_w0.below h_w12
  replace o_t2 := o_t2.below h_w12
  replace o_g0 := o_g0.below h_w12
  replace o_t3 := o_t3.below h_w12
  have B_w12 := B_w11.trans (h_w12.mono B_w11.size)
  have s_w12 := h_w12.size
  obtain ⟨At4, ct4, rfl, -, -, -⟩ := o_t4.rd
  go_wp2_with fail
  refine (iScan_c o_t4.rd hb (by omega)).mono ?_
  rintro e w13 ⟨v_h0, rfl, o_h0, h_w13⟩
  replace o_t1 := o_t1.below h_w13
  replace o_w0 := o_w0.below h_w13
  replace o_t2 := o_t2.below h_w13
  replace o_g0 := o_g0.below h_w13
  replace o_t3 := o_t3.below h_w13
  replace o_t4 := o_t4.below h_w13
  have B_w13 := B_w12.trans (h_w13.mono B_w12.size)
  have s_w13 := h_w13.size
  rw [HR0.out] at o_h0
  rw [HR1.out]
  obtain ⟨Ah0, ch0, rfl, -, -, -⟩ := rv_slice o_h0.rd
  go_wp2_with fail
  refine (eqByteSS_same o_h0.rd o_w0.rd (by omega)).mono ?_
  rintro e w14 ⟨rfl, h_w14⟩
  replace o_t1 := o_t1.below h_w14
  replace o_w0 := o_w0.below h_w14
  replace o_t2 := o_t2.below h_w14
  replace o_g0 := o_g0.below h_w14
  replace o_t3 := o_t3.below h_w14
  replace o_t4 := o_t4.below h_w14
  replace o_h0 := o_h0.below h_w14
  have B_w14 := B_w13.trans (h_w14.mono B_w13.size)
  have s_w14 := h_w14.size
  go_wp2_with fail
  refine (heldByteSS_c o_g0.rd (by omega) (by omega) (by omega)).mono ?_
  rintro e w15 ⟨rfl, h_w15⟩
  replace o_t1 := o_t1.below h_w15
  replace o_w0 := o_w0.below h_w15
  replace o_t2 := o_t2.below h_w15
  replace o_g0 := o_g0.below h_w15
  replace o_t3 := o_t3.below h_w15
  replace o_t4 := o_t4.below h_w15
  replace o_h0 := o_h0.below h_w15
  have B_w15 := B_w14.trans (h_w15.mono B_w14.size)
  have s_w15 := h_w15.size
  go_wp2
  go_ret
  exact ⟨rfl, B_w15⟩

end Go.Proofs.Ytdempiibbhfijaa
