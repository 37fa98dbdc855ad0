/- The walk of the law FnExactPutNum. -/
import Derived.Test.YtfdhilpmblbkfaaPutNum
namespace Go.Proofs.Ytfdhilpmblbkfaa
open Go.RowKit
set_option linter.unusedVariables false

theorem putL_len (zs : List Int) (n : Int) (h : zs.length ≤ 1048576) : (putL zs n).length ≤ 1048584 := by
  unfold putL
  split
  · rename_i hb
    have h1 := numB_true.1 hb
    have := enc_len8 n.toNat (by omega)
    rw [List.length_append]; omega
  · simp

set_option maxHeartbeats 2000000 in
theorem wPutNum (A : Option Addr) (c : Nat) (zs : List Int) (n : Int) (w : World) (hr : Rd .u8 w w.heap.size A zs) (hml : zs.length ≤ maxLen) (hn1 : -9223372036854775808 ≤ n) (hn2 : n ≤ 9223372036854775807) :
    Calls Try.prog 3 #[.slice A zs.length c, .int .i64 n] w fun e w' => e = .returned (.bool true) ∧ Below w.heap.size w w' := by
  unfold maxLen at hml
  by_cases hbig : 1048576 < zs.length
  · have i0 : (1048576 : Int) < (zs.length : Int) := by omega
    go_enter Try.func3, Try.ntmps3
    go_wp2
    go_ret
    exact ⟨rfl, Below.refl _ _⟩
  · have hm : zs.length ≤ 1048576 := by omega
    obtain ⟨L, hL⟩ : ∃ L, putL zs n = L := ⟨_, rfl⟩
    obtain ⟨b, hb⟩ : ∃ b, numB n = b := ⟨_, rfl⟩
    have hlen := putL_len zs n hm
    have P1 := fun w' hr' => sPutNum_any A c zs n w' hr' (by omega) hn1 hn2
    rw [hL] at hlen
    have HL := Lib.hid hL
    have HB := Lib.hid hb
    clear hL hb P1
    go_enter Try.func3, Try.ntmps3
    -- spec on a copy
    go_wp2_with fail
    refine (toByteS_any A c zs w hr (by omega)).mono ?_
    rintro e w1 ⟨rfl, ho1, hb1⟩
    go_wp2_with fail
    refine (sPutNum_any _ _ zs n w1 ho1.rd (by omega) hn1 hn2).mono ?_
    rintro e w2 ⟨v, rfl, hov, hb2⟩
    rw [HL.out] at hov
    rw [HB.out]
    have B2 := hb1.trans (hb2.mono hb1.size)
    have kv := hov.at_
    clear ho1
    -- impl on a copy
    go_wp2_with fail
    refine (toByteS_any A c zs w2 ((hr.below B2).more B2.size) (by omega)).mono ?_
    rintro e w3 ⟨rfl, hox, hb3⟩
    have B3 := B2.trans (hb3.mono B2.size)
    have hov3 := hov.below hb3 (Nat.le_refl _)
    have kx : w2.heap.size < w3.heap.size := (hox.at_ w2.heap.size rfl).2
    go_wp2_with fail
    refine (iPutNum_any _ _ zs n w3 hox.rd (by omega)).mono ?_
    rintro e w4 ⟨g, rfl, hog, hb4⟩
    rw [HL.out] at hog
    rw [HB.out]
    have B4 := B3.trans (hb4.mono B3.size)
    have hov4 := hov3.below hb4 (Nat.le_refl _)
    have hox4 := hox.below hb4 (Nat.le_refl _)
    have kg := hog.at_
    obtain ⟨Av, cv, rfl, rv⟩ := hov4.form
    obtain ⟨Ag, cg, rfl, rg⟩ := hog.form
    clear hov hov3 hox
    -- the answers agree
    go_wp2_with fail
    refine (eqByteS_b _ _ _ _ L L w4 _ rg rv (by omega)).mono ?_
    rintro e w5 ⟨rfl, hb5⟩
    rw [show decide (L = L) = true by simp]
    have B5 := B4.trans (hb5.mono B4.size)
    have hov5 := hov4.below hb5 (Nat.le_refl _)
    have hox5 := hox4.below hb5 (Nat.le_refl _)
    have hog5 := hog.below hb5 (Nat.le_refl _)
    clear rv rg hov4 hox4 hog
    -- the argument is as it was
    go_wp2_with fail
    refine (toByteS_any A c zs w5 ((hr.below B5).more B5.size) (by omega)).mono ?_
    rintro e w6 ⟨rfl, hoy, hb6⟩
    have B6 := B5.trans (hb6.mono B5.size)
    have hov6 := hov5.below hb6 (Nat.le_refl _)
    have hox6 := hox5.below hb6 (Nat.le_refl _)
    have hog6 := hog5.below hb6 (Nat.le_refl _)
    clear hov5 hox5 hog5
    go_wp2_with fail
    refine (eqByteS_b _ _ _ _ zs zs w6 _ hox6.rd hoy.rd (by omega)).mono ?_
    rintro e w7 ⟨rfl, hb7⟩
    rw [show decide (zs = zs) = true by simp]
    have B7 := B6.trans (hb7.mono B6.size)
    have hov7 := hov6.below hb7 (Nat.le_refl _)
    have hox7 := hox6.below hb7 (Nat.le_refl _)
    have hog7 := hog6.below hb7 (Nat.le_refl _)
    clear hov6 hox6 hog6 hoy
    -- marking the argument's copy turns nothing else
    go_wp2_with fail
    refine (markByteS_any _ _ zs 1 w7 hox7 (by omega) (by omega) (by omega)).mono ?_
    rintro e w8 ⟨rfl, hox8, hg8⟩
    have s3 := hb3.size
    have s2 := B2.size
    have hov8 := hov7.kept_ hg8 (fun j hj e => by simp [Value.ownBlock] at e; have := (kv j hj).2; omega)
    have hog8 := hog7.kept_ hg8 (fun j hj e => by simp [Value.ownBlock] at e; have := (kg j hj).1; omega)
    have B8 : Below w.heap.size w w8 := B7.grown hg8 B7.size (fun j hj => by simp [Value.ownBlock] at hj; omega)
    have i8 : ¬ ((1 : Int) + (zs.length : Int) < 0) := by omega
    clear hov7 hog7 hox7 hg8 hox8
    go_wp2_with fail
    refine (eqByteS_b _ _ _ _ L L w8 _ hog8.rd hov8.rd (by omega)).mono ?_
    rintro e w9 ⟨rfl, hb9⟩
    rw [show decide (L = L) = true by simp]
    have B9 := B8.trans (hb9.mono B8.size)
    have hov9 := hov8.below hb9 (Nat.le_refl _)
    have hog9 := hog8.below hb9 (Nat.le_refl _)
    clear hov8 hog8
    -- marking the answer
    go_wp2_with fail
    refine (markByteS_any _ _ L 1 w9 hog9 (by omega) (by omega) (by omega)).mono ?_
    rintro e w10 ⟨rfl, hog10, hg10⟩
    have s4 := hb4.size
    have hov10 := hov9.kept_ hg10 (fun j hj e => by have := (kv j hj).2; have := (kg j e).1; omega)
    have B10 : Below w.heap.size w w10 := B9.grown hg10 B9.size (fun j hj => by have := (kg j hj).1; omega)
    clear hov9 hog9 hg10
    go_wp2_with fail
    refine (heldByteS_any _ _ _ L.length 1 w10 hog10.rd (by omega) (by omega) (by omega)).mono ?_
    rintro e w' ⟨rfl, rfl⟩
    have i10 : ¬ ((1 : Int) + (L.length : Int) < 0) := by omega
    -- another call leaves the answer alone
    go_wp2_with fail
    refine (toByteS_any A c zs w10 ((hr.below B10).more B10.size) (by omega)).mono ?_
    rintro e w11 ⟨rfl, hoz, hb11⟩
    have B11 := B10.trans (hb11.mono B10.size)
    have hov11 := hov10.below hb11 (Nat.le_refl _)
    have hog11 := hog10.below hb11 (Nat.le_refl _)
    clear hov10 hog10
    go_wp2_with fail
    refine (iPutNum_any _ _ zs n w11 hoz.rd (by omega)).mono ?_
    rintro e w12 ⟨h, rfl, hoh, hb12⟩
    rw [HL.out] at hoh
    rw [HB.out]
    have B12 := B11.trans (hb12.mono B11.size)
    have hov12 := hov11.below hb12 (Nat.le_refl _)
    have hog12 := hog11.below hb12 (Nat.le_refl _)
    obtain ⟨Ah, ch, rfl, rh⟩ := hoh.form
    clear hov11 hog11 hoz
    go_wp2_with fail
    refine (eqByteS_b _ _ _ _ L L w12 _ rh hov12.rd (by omega)).mono ?_
    rintro e w13 ⟨rfl, hb13⟩
    rw [show decide (L = L) = true by simp]
    have B13 := B12.trans (hb13.mono B12.size)
    have hog13 := hog12.below hb13 (Nat.le_refl _)
    clear hov12 hog12 rh hoh
    go_wp2_with fail
    refine (heldByteS_any _ _ _ L.length 1 w13 hog13.rd (by omega) (by omega) (by omega)).mono ?_
    rintro e w' ⟨rfl, rfl⟩
    go_wp2
    go_ret
    exact ⟨rfl, B13⟩
end Go.Proofs.Ytfdhilpmblbkfaa
