/- Contract: spec.MsgPut. -/
import Derived.Test.YtdhphfmjekbmjaaMsg1
import Derived.Test.YtdhphfmjekbmjaaPutNums
import Derived.Test.YtdhphfmjekbmjaaLaw
import Derived.Deep.RegionHeld3
namespace Go.Proofs.Ytdhphfmjekbmjaa
open Go.RowKit
set_option linter.unusedVariables false

theorem sPut_c {w : World} {v : Value} {zs : List Int} {n : Int} (h : RS .u8 w v zs) (hn : 0 ≤ n ∧ n ≤ 1125899906842624) (hm : zs.length ≤ 1073741824) : Calls Try.prog 28 #[v, .int .i64 n] w (NewS .u8 5 w (zs ++ enc n.toNat)) := by
  obtain ⟨A, c, rfl, _, _, hr⟩ := h
  obtain ⟨N, rfl⟩ : ∃ N : Nat, n = (N : Int) := ⟨n.toNat, by omega⟩
  rw [Int.toNat_natCast]
  exact (sPut_any A c zs N w hr hm (by omega)).mono fun e w' ⟨v, he, ho, hb⟩ => ⟨v, he, OS.mk_ ho, hb⟩

/-- the numbers of a message -/
def msgNums (m : MMsg) : List Int := [m.Kind, m.Acct, m.Amt, m.Src]
/-- what MsgPut answers -/
def msgPut (zs : List Int) (m : MMsg) : List Int := if msgOkB m then zs ++ encs (msgNums m) else []
theorem msgNums_ok {m : MMsg} (h : msgOkB m = true) : (msgNums m).all numB = true := by
  obtain ⟨h1, h2, h3, h4, h5⟩ := msgOk_parts h
  have k1 := numB_true.2 (show 0 ≤ m.Kind ∧ m.Kind ≤ 1125899906842624 by omega)
  have k2 := numB_true.2 (show 0 ≤ m.Acct ∧ m.Acct ≤ 1125899906842624 by omega)
  have k3 := numB_true.2 (show 0 ≤ m.Amt ∧ m.Amt ≤ 1125899906842624 by omega)
  have k4 := numB_true.2 (show 0 ≤ m.Src ∧ m.Src ≤ 1125899906842624 by omega)
  simp [msgNums, k1, k2, k3, k4]
theorem msgPut_len (zs : List Int) (m : MMsg) : (msgPut zs m).length ≤ zs.length + 32 := by
  unfold msgPut
  split
  · rename_i h
    have := encs_len _ (msgNums_ok h)
    rw [List.length_append]
    simp [msgNums] at this ⊢
    omega
  · simp

set_option maxRecDepth 100000 in
set_option maxHeartbeats 4000000 in
theorem sMsgPut_c {w : World} {v v' : Value} {zs : List Int} {m : MMsg} (h : RS .u8 w v zs) (h' : RV msgL w v' m) (hm : zs.length ≤ 1073741000) :
    Calls Try.prog 11 #[v, v'] w (NewSB w (msgPut zs m) (msgOkB m)) := by
  have h0 := h
  obtain ⟨A, c, rfl, p1, p2, hr⟩ := h0
  have h1 := h'
  obtain rfl := rv_msg h1
  clear h1
  obtain ⟨wa, hwa, B0, sa, x_a⟩ := frame1 w 25 [.int .i64 m.Kind, .int .i64 m.Acct, .int .i64 m.Amt, .int .i64 m.Src]
  have sa_1 := Nat.le_of_eq sa
  have sa_2 := Nat.le_of_eq sa.symm
  clear sa
  have c_a_0_wa := x_a.cell (i := 0) rfl
  have c_a_1_wa := x_a.cell (i := 1) rfl
  have c_a_2_wa := x_a.cell (i := 2) rfl
  have c_a_3_wa := x_a.cell (i := 3) rfl
  by_cases ho : msgOkB m = true
  case neg =>
    have ho' : msgOkB m = false := by simpa using ho
    have HO := Lib.hid ho'
    have HP : Hid (msgPut zs m = []) := by show _ = _; unfold msgPut; rw [if_neg ho]
    clear ho ho'
    go_enter Try.func11, Try.ntmps11
    go_wp2_with fail
    refine (sMsgOk_c (h'.from_ B0)).mono ?_
    rintro e w1 ⟨rfl, h_w1⟩
    clear c_a_0_wa c_a_1_wa c_a_2_wa c_a_3_wa
    replace x_a := x_a.from_ h_w1
    have B_w1 := B0.trans (h_w1.mono B0.size)
    have s_w1 := h_w1.size
    rw [HO.out]
    go_wp2
    go_ret2
    exact ⟨_, by rw [HO.out]; rfl, by rw [HP.out]; exact os_none _ _, B_w1⟩
  have hp := msgOk_parts ho
  obtain ⟨q1, q2, -, q3, q4⟩ := hp
  obtain ⟨L1, hL1⟩ : ∃ L, zs ++ enc m.Kind.toNat = L := ⟨_, rfl⟩
  have lL1 : L1.length ≤ zs.length + 8 := by rw [← hL1, List.length_append]; have := enc_len8 m.Kind.toNat (by omega); omega
  have HL1 := Lib.hid hL1
  obtain ⟨L2, hL2⟩ : ∃ L, L1 ++ enc m.Acct.toNat = L := ⟨_, rfl⟩
  have lL2 : L2.length ≤ L1.length + 8 := by rw [← hL2, List.length_append]; have := enc_len8 m.Acct.toNat (by omega); omega
  have HL2 := Lib.hid hL2
  obtain ⟨L3, hL3⟩ : ∃ L, L2 ++ enc m.Amt.toNat = L := ⟨_, rfl⟩
  have lL3 : L3.length ≤ L2.length + 8 := by rw [← hL3, List.length_append]; have := enc_len8 m.Amt.toNat (by omega); omega
  have HL3 := Lib.hid hL3
  obtain ⟨L4, hL4⟩ : ∃ L, L3 ++ enc m.Src.toNat = L := ⟨_, rfl⟩
  have lL4 : L4.length ≤ L3.length + 8 := by rw [← hL4, List.length_append]; have := enc_len8 m.Src.toNat (by omega); omega
  have HL4 := Lib.hid hL4
  have HP : Hid (msgPut zs m = L4) := by show _ = _; unfold msgPut; rw [if_pos ho, ← hL4, ← hL3, ← hL2, ← hL1]; simp [encs, msgNums]
  have HO := Lib.hid ho
  clear ho hL1 hL2 hL3 hL4
  go_enter Try.func11, Try.ntmps11
  go_wp2_with fail
  refine (sMsgOk_c (h'.from_ B0)).mono ?_
  rintro e w1 ⟨rfl, h_w1⟩
  clear c_a_0_wa c_a_1_wa c_a_2_wa c_a_3_wa
  replace x_a := x_a.from_ h_w1
  have B_w1 := B0.trans (h_w1.mono B0.size)
  have s_w1 := h_w1.size
  rw [HO.out]
  have c_a_0_w1 := x_a.cell (i := 0) rfl
  have c_a_1_w1 := x_a.cell (i := 1) rfl
  have c_a_2_w1 := x_a.cell (i := 2) rfl
  have c_a_3_w1 := x_a.cell (i := 3) rfl
  have r_b := h.from_ B_w1
  go_wp2_with fail
  go_region_held3 (fun w' => w'.cell? ⟨w.heap.size, 0, none⟩ = some (.int .i64 m.Kind) ∧ w'.cell? ⟨w.heap.size, 1, none⟩ = some (.int .i64 m.Acct) ∧ w'.cell? ⟨w.heap.size, 2, none⟩ = some (.int .i64 m.Amt) ∧ w'.cell? ⟨w.heap.size, 3, none⟩ = some (.int .i64 m.Src))
    (first | exact ⟨c_a_0_w1, c_a_1_w1, c_a_2_w1, c_a_3_w1⟩ | exact ⟨qz1_a_0, qz1_a_1, qz1_a_2, qz1_a_3⟩ | exact ⟨qz2_a_0, qz2_a_1, qz2_a_2, qz2_a_3⟩ | exact ⟨qz3_a_0, qz3_a_1, qz3_a_2, qz3_a_3⟩ | exact ⟨qz4_a_0, qz4_a_1, qz4_a_2, qz4_a_3⟩ | go_keep)
    (first | ((go_at_call_of 28 (Value.slice A zs.length c)); (refine (sPut_c (r_b.from_ ((Below.refl w1.heap.size w1).drew)) (by omega) (by omega)).mono ?_); rintro e w_z1 ⟨v_z1, rfl, o_z1, hd_z1⟩; have hb_z1 : Below w1.heap.size w1 w_z1 := (Below.refl w1.heap.size w1).drew.trans hd_z1; have sd_z1 := hd_z1.size; replace sd_z1 : w1.heap.size ≤ w_z1.heap.size := sd_z1; have qz1_a_0 := (x_a.from_ hb_z1).cell (i := 0) rfl; have qz1_a_1 := (x_a.from_ hb_z1).cell (i := 1) rfl; have qz1_a_2 := (x_a.from_ hb_z1).cell (i := 2) rfl; have qz1_a_3 := (x_a.from_ hb_z1).cell (i := 3) rfl; rw [HL1.out] at o_z1; obtain ⟨Az1, cz1, rfl, -, -, -⟩ := o_z1.rd)
           | ((go_at_call_of 28 (Value.slice Az1 L1.length cz1)); (refine (sPut_c o_z1.rd (by omega) (by omega)).mono ?_); rintro e w_z2 ⟨v_z2, rfl, o_z2, hd_z2⟩; have hb_z2 : Below w1.heap.size w1 w_z2 := hb_z1.trans (hd_z2.mono hb_z1.size); have sd_z2 := hd_z2.size; have qz2_a_0 := (x_a.from_ hb_z2).cell (i := 0) rfl; have qz2_a_1 := (x_a.from_ hb_z2).cell (i := 1) rfl; have qz2_a_2 := (x_a.from_ hb_z2).cell (i := 2) rfl; have qz2_a_3 := (x_a.from_ hb_z2).cell (i := 3) rfl; replace o_z1 := o_z1.below hd_z2; rw [HL2.out] at o_z2; obtain ⟨Az2, cz2, rfl, -, -, -⟩ := o_z2.rd)
           | ((go_at_call_of 28 (Value.slice Az2 L2.length cz2)); (refine (sPut_c o_z2.rd (by omega) (by omega)).mono ?_); rintro e w_z3 ⟨v_z3, rfl, o_z3, hd_z3⟩; have hb_z3 : Below w1.heap.size w1 w_z3 := hb_z2.trans (hd_z3.mono hb_z2.size); have sd_z3 := hd_z3.size; have qz3_a_0 := (x_a.from_ hb_z3).cell (i := 0) rfl; have qz3_a_1 := (x_a.from_ hb_z3).cell (i := 1) rfl; have qz3_a_2 := (x_a.from_ hb_z3).cell (i := 2) rfl; have qz3_a_3 := (x_a.from_ hb_z3).cell (i := 3) rfl; replace o_z1 := o_z1.below hd_z3; replace o_z2 := o_z2.below hd_z3; rw [HL3.out] at o_z3; obtain ⟨Az3, cz3, rfl, -, -, -⟩ := o_z3.rd)
           | ((go_at_call_of 28 (Value.slice Az3 L3.length cz3)); (refine (sPut_c o_z3.rd (by omega) (by omega)).mono ?_); rintro e w_z4 ⟨v_z4, rfl, o_z4, hd_z4⟩; have hb_z4 : Below w1.heap.size w1 w_z4 := hb_z3.trans (hd_z4.mono hb_z3.size); have sd_z4 := hd_z4.size; have qz4_a_0 := (x_a.from_ hb_z4).cell (i := 0) rfl; have qz4_a_1 := (x_a.from_ hb_z4).cell (i := 1) rfl; have qz4_a_2 := (x_a.from_ hb_z4).cell (i := 2) rfl; have qz4_a_3 := (x_a.from_ hb_z4).cell (i := 3) rfl; replace o_z1 := o_z1.below hd_z4; replace o_z2 := o_z2.below hd_z4; replace o_z3 := o_z3.below hd_z4; rw [HL4.out] at o_z4; obtain ⟨Az4, cz4, rfl, -, -, -⟩ := o_z4.rd)
           | fail)
  clear c_a_0_w1 c_a_1_w1 c_a_2_w1 c_a_3_w1
  have dz_w1 : w1.drew.heap.size = w1.heap.size := rfl
  replace x_a := x_a.from_ hb_z4
  have B_z4 := B_w1.trans (hb_z4.mono B_w1.size)
  have sz_z4 := hb_z4.size
  go_wp2
  go_ret2
  have sq := B_z4.size
  exact ⟨_, by rw [HO.out]; rfl, by rw [HP.out]; exact o_z4.widen (by omega) (Nat.le_refl _) (Nat.le_refl _), B_z4⟩

end Go.Proofs.Ytdhphfmjekbmjaa
