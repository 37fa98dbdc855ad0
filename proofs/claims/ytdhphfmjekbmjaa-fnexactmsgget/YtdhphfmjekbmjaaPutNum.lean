/- Contracts of spec.PutNum, impl.appendVarint, impl.appendNums and impl.PutNum. -/
import Derived.Test.YtdhphfmjekbmjaaBytes
import Derived.Test.YtdhphfmjekbmjaaApp
import Derived.Test.YtdhphfmjekbmjaaPutMath
import Derived.Test.YtdhphfmjekbmjaaGetNum
namespace Go.Proofs.Ytdhphfmjekbmjaa
open Go.RowKit
set_option linter.unusedVariables false

/-- a call that returns a new row of bytes and a bool -/
def GivesL (w : World) (l : List Int) (b : Bool) (e : Ending) (w' : World) : Prop :=
  ∃ v, e = .returned (.tuple #[v, .bool b]) ∧ Own .u8 w' w.heap.size 5 v l ∧ Below w.heap.size w w'

/-- PutNum's bytes -/
def putL (zs : List Int) (n : Int) : List Int := if numB n = true then zs ++ enc n.toNat else []

theorem enc_pre {n m : Nat} {p : List Int} (h : p ++ enc m = enc n) (hn : n ≤ 1125899906842624) : p.length ≤ 8 := by
  have h1 := enc_len8 n hn
  have h2 := congrArg List.length h
  rw [List.length_append] at h2
  omega

theorem enc_go {n m : Nat} {p : List Int} (h : p ++ enc m = enc n) (hm : 127 < m) : (p ++ [(128 : Int) + (m : Int) % 128]) ++ enc (m / 128) = enc n := by
  rw [← h, enc_big m hm, List.append_assoc]
  simp

set_option maxHeartbeats 400000 in
theorem sNum_any (n : Int) (w : World) : Calls Try.prog 26 #[.int .i64 n] w fun e w' => e = .returned (.bool (numB n)) ∧ w = w' := by
  by_cases h0 : 0 ≤ n
  · by_cases h1 : n ≤ 1125899906842624
    · rw [numB_true.2 ⟨h0, h1⟩]
      go_enter Try.func26, Try.ntmps26
      go_wp2
      go_ret
      exact ⟨rfl, rfl⟩
    · rw [numB_false.2 (by omega)]
      have i1 : decide (n ≤ 1125899906842624) = false := by simp; omega
      go_enter Try.func26, Try.ntmps26
      go_wp2
      go_ret
      exact ⟨rfl, rfl⟩
  · rw [numB_false.2 (by omega)]
    have i1 : decide (0 ≤ n) = false := by simp; omega
    go_enter Try.func26, Try.ntmps26
    go_wp2
    go_ret
    exact ⟨rfl, rfl⟩

set_option maxHeartbeats 400000 in
theorem iNum_any (n : Int) (w : World) : Calls Try.prog 35 #[.int .i64 n] w fun e w' => e = .returned (.bool (numB n)) ∧ w = w' := by
  by_cases h0 : 0 ≤ n
  · by_cases h1 : n ≤ 1125899906842624
    · rw [numB_true.2 ⟨h0, h1⟩]
      go_enter Try.func35, Try.ntmps35
      go_wp2
      go_ret
      exact ⟨rfl, rfl⟩
    · rw [numB_false.2 (by omega)]
      have i1 : decide (n ≤ 1125899906842624) = false := by simp; omega
      go_enter Try.func35, Try.ntmps35
      go_wp2
      go_ret
      exact ⟨rfl, rfl⟩
  · rw [numB_false.2 (by omega)]
    have i1 : decide (0 ≤ n) = false := by simp; omega
    go_enter Try.func35, Try.ntmps35
    go_wp2
    go_ret
    exact ⟨rfl, rfl⟩

set_option maxHeartbeats 1000000 in
theorem sPutNum_any (A : Option Addr) (c : Nat) (zs : List Int) (n : Int) (w : World) (hr : Rd .u8 w w.heap.size A zs) (hm : zs.length ≤ 1073741824) (hn1 : -9223372036854775808 ≤ n) (hn2 : n ≤ 9223372036854775807) :
    Calls Try.prog 34 #[.slice A zs.length c, .int .i64 n] w (GivesL w (putL zs n) (numB n)) := by
  by_cases hN : 0 ≤ n ∧ n ≤ 1125899906842624
  · have hb := numB_true.2 hN
    have hp : putL zs n = zs ++ enc n.toNat := by unfold putL; rw [if_pos hb]
    rw [hp, hb]
    obtain ⟨h0, h1⟩ := hN
    obtain ⟨N, rfl⟩ : ∃ N : Nat, n = (N : Int) := ⟨n.toNat, by omega⟩
    have HB := Lib.hid hb
    clear hp hb hn1 hn2
    rw [Int.toNat_natCast]
    obtain ⟨i0, hi, hz0, hz1, hz2⟩ := info_parts Try.info_u8
    have hN : N ≤ 1125899906842624 := by omega
    go_enter Try.func34, Try.ntmps34
    go_wp2_with fail
    refine (sNum_any _ _).mono ?_
    rintro e w' ⟨rfl, rfl⟩
    rw [HB.out]
    go_wp2_with (at_builtin; refine wpl_appI _ .u8 rfl (.tmp 10) (.tmp 11) 28 rfl w.heap.size 5 i0 1 Try.underlying28 hi hz0 hz1 hz2 _ [] rfl (own_none .u8 w w.heap.size 5 (Nat.le_refl _)) w.heap.size A c zs.length zs rfl rfl (hr.below ((Below.refl _ _).alloc (Nat.le_refl _) _)) ?c1 (by omega) ?c2 ?_)
    case c1 => simp; omega
    case c2 => simp
    intro v1 w1 ho1 hg1 hat1
    have hb1 : Below w.heap.size w w1 := grown_below ((Below.refl _ _).alloc (Nat.le_refl _) _) (own_none .u8 w w.heap.size 5 (Nat.le_refl _)) hg1 (Nat.le_refl _) (by simp)
    clear hg1 hat1
    go_wp2
    go_loopw [1, 6] (fun sn sv wr => ∃ (m : Nat) (p : List Int), m ≤ 1125899906842624 ∧ sn = .int .i64 m ∧ Hid (p ++ enc m = enc N) ∧ p.length ≤ 8 ∧ Own .u8 wr w.heap.size 5 sv (zs ++ p) ∧ Below w.heap.size w wr) (fun sn _ _ => (intOf sn).toNat)
    case atStart => exact ⟨N, [], hN, rfl, rfl, by simp, by simpa using ho1, hb1⟩
    case round =>
      obtain ⟨m, p, hmm, rfl, HE, hp8, hown, hbr⟩ := hrel
      by_cases hgt : 127 < m
      · have hp8' := Lib.hid (enc_go HE.out hgt)
        have hlen := enc_pre hp8'.out hN
        have i1 : (127 : Int) < (m : Int) := by omega
        have hsz := hbr.size
        go_wp2_with (at_builtin; refine wpl_appI _ .u8 rfl (.tmp 15) (.tmp 20) 28 rfl w.heap.size 5 i0 1 Try.underlying28 hi hz0 hz1 hz2 _ (zs ++ p) rfl (hown.alloc_ _) _ _ _ 1 [(128 : Int) + (m : Int) % 128] rfl rfl (rd_one _ _ _ _) ?d1 (by omega) ?d2 ?_)
        case d1 => simp; omega
        case d2 => simp; omega
        intro v2 w2 ho2 hg2 hat2
        have hb2 : Below w.heap.size w w2 := grown_below (hbr.alloc hsz _) (hown.alloc_ _) hg2 (Nat.le_refl _) (by simp; omega)
        clear hg2 hat2
        go_wp2
        go_roundw
        case rel => exact ⟨m / 128, p ++ [(128 : Int) + (m : Int) % 128], by omega, by go_num, hp8', hlen, by simpa using ho2, hb2⟩
        case measure => simp [intOf]; omega
      · have HE2 := HE.out
        rw [enc_small m hgt] at HE2
        have HE3 := Lib.hid HE2
        clear HE2
        have i1 : (m : Int) ≤ 127 := by omega
        have hsz := hbr.size
        go_wp2_with (at_builtin; refine wpl_appI _ .u8 rfl (.tmp 24) (.tmp 27) 28 rfl w.heap.size 5 i0 1 Try.underlying28 hi hz0 hz1 hz2 _ (zs ++ p) rfl (hown.alloc_ _) _ _ _ 1 [(m : Int)] rfl rfl (rd_one _ _ _ _) ?e1 (by omega) ?e2 ?_)
        case e1 => simp; omega
        case e2 => simp; omega
        intro v2 w2 ho2 hg2 hat2
        have hb2 : Below w.heap.size w w2 := grown_below (hbr.alloc hsz _) (hown.alloc_ _) hg2 (Nat.le_refl _) (by simp; omega)
        rw [HE3.out] at ho2
        clear hg2 hat2
        go_wp2
        go_ret2
        exact ⟨v2, rfl, ho2, hb2⟩
  · have hb := numB_false.2 hN
    have hp : putL zs n = [] := by unfold putL; rw [hb]; simp
    rw [hp, hb]
    clear hp hb
    have HB := Lib.hid (numB_false.2 hN)
    clear hN
    go_enter Try.func34, Try.ntmps34
    go_wp2_with fail
    refine (sNum_any _ _).mono ?_
    rintro e w' ⟨rfl, rfl⟩
    rw [HB.out]
    go_wp2
    go_ret2
    exact ⟨_, rfl, World.ownsRow_nil _ _ _ _, Below.refl _ _⟩

/-- a call that appends to a row of the caller's own -/
def Grows (base : Nat) (w : World) (l : List Int) (e : Ending) (w' : World) : Prop :=
  ∃ v, e = .returned v ∧ Own .u8 w' base 5 v l ∧ Below base w w'

set_option maxHeartbeats 1000000 in
theorem iVarint_any (base : Nat) (v : Value) (zs : List Int) (N : Nat) (w : World) (ho : Own .u8 w base 5 v zs) (hm : zs.length ≤ 1099511627000) (hbase : base ≤ w.heap.size) (hN : N ≤ 1125899906842624) :
    Calls Try.prog 36 #[v, .int .i64 N] w (Grows base w (zs ++ enc N)) := by
  obtain ⟨i0, hi, hz0, hz1, hz2⟩ := info_parts Try.info_u8
  go_enter Try.func36, Try.ntmps36
  go_wp2
  go_loopw [0, 1] (fun sv sn wr => ∃ (m : Nat) (p : List Int), m ≤ 1125899906842624 ∧ sn = .int .i64 m ∧ Hid (p ++ enc m = enc N) ∧ p.length ≤ 8 ∧ Own .u8 wr base 5 sv (zs ++ p) ∧ Below base w wr) (fun _ sn _ => (intOf sn).toNat)
  case atStart => exact ⟨N, [], hN, rfl, rfl, by simp, by simpa using ho, Below.refl _ _⟩
  case round =>
    obtain ⟨m, p, hmm, rfl, HE, hp8, hown, hbr⟩ := hrel
    have hsz := hbr.size
    by_cases hgt : 127 < m
    · have hp8' := Lib.hid (enc_go HE.out hgt)
      have hlen := enc_pre hp8'.out hN
      have i1 : (127 : Int) < (m : Int) := by omega
      have e1 := and127_i64 (m : Int) (by omega) (by omega)
      have e2 := or128_i64 ((m : Int) % 128) (by omega) (by omega)
      go_wp2_with (at_builtin; refine wpl_appI _ .u8 rfl (.tmp 7) (.tmp 12) 28 rfl base 5 i0 1 Try.underlying28 hi hz0 hz1 hz2 _ (zs ++ p) rfl (hown.alloc_ _) _ _ _ 1 [(128 : Int) + (m : Int) % 128] rfl rfl (rd_one _ _ _ _) ?d1 (by omega) ?d2 ?_)
      case d1 => simp; omega
      case d2 => simp; omega
      intro v2 w2 ho2 hg2 hat2
      have hb2 : Below base w w2 := grown_below (hbr.alloc (by omega) _) (hown.alloc_ _) hg2 (Nat.le_refl _) (by simp; omega)
      clear hg2 hat2
      go_wp2
      go_roundw
      case rel => exact ⟨m / 128, p ++ [(128 : Int) + (m : Int) % 128], by omega, by go_num, hp8', hlen, by simpa using ho2, hb2⟩
      case measure => simp [intOf]; omega
    · have HE2 := HE.out
      rw [enc_small m hgt] at HE2
      have HE3 := Lib.hid HE2
      clear HE2
      have i1 : (m : Int) ≤ 127 := by omega
      go_wp2_with (at_builtin; refine wpl_appI _ .u8 rfl (.tmp 16) (.tmp 19) 28 rfl base 5 i0 1 Try.underlying28 hi hz0 hz1 hz2 _ (zs ++ p) rfl (hown.alloc_ _) _ _ _ 1 [(m : Int)] rfl rfl (rd_one _ _ _ _) ?e1 (by omega) ?e2 ?_)
      case e1 => simp; omega
      case e2 => simp; omega
      intro v2 w2 ho2 hg2 hat2
      have hb2 : Below base w w2 := grown_below (hbr.alloc (by omega) _) (hown.alloc_ _) hg2 (Nat.le_refl _) (by simp; omega)
      rw [HE3.out] at ho2
      clear hg2 hat2
      go_wp2
      go_ret
      exact ⟨v2, rfl, ho2, hb2⟩

set_option maxHeartbeats 1000000 in
theorem iAppendNums_any (A A' : Option Addr) (c c' : Nat) (zs ns : List Int) (w : World) (hr : Rd .u8 w w.heap.size A zs) (hr' : Rd .i64 w w.heap.size A' ns) (hm : zs.length ≤ 1073741824) (hm' : ns.length ≤ 1073741824) :
    Calls Try.prog 29 #[.slice A zs.length c, .slice A' ns.length c'] w (GivesL w (putsL zs ns) (ns.all numB)) := by
  obtain ⟨i0, hi, hz0, hz1, hz2⟩ := info_parts Try.info_u8
  go_enter Try.func29, Try.ntmps29
  go_wp2_with (at_builtin; refine wpl_appI _ .u8 rfl (.tmp 9) (.tmp 10) 28 rfl w.heap.size 5 i0 1 Try.underlying28 hi hz0 hz1 hz2 _ [] rfl (own_none .u8 w w.heap.size 5 (Nat.le_refl _)) w.heap.size A c zs.length zs rfl rfl (hr.below ((Below.refl _ _).alloc (Nat.le_refl _) _)) ?c1 (by omega) ?c2 ?_)
  case c1 => simp; omega
  case c2 => simp
  intro v1 w1 ho1 hg1 hat1
  have hb1 : Below w.heap.size w w1 := grown_below ((Below.refl _ _).alloc (Nat.le_refl _) _) (own_none .u8 w w.heap.size 5 (Nat.le_refl _)) hg1 (Nat.le_refl _) (by simp)
  clear hg1 hat1
  go_wp2
  go_loopw [6, 14] (fun sv si wr => ∃ k : Nat, k ≤ ns.length ∧ si = .int .i64 k ∧ Hid ((ns.take k).all numB = true) ∧ Own .u8 wr w.heap.size 5 sv (zs ++ encs (ns.take k)) ∧ Below w.heap.size w wr) (fun _ si _ => ns.length - (intOf si).toNat)
  case atStart => exact ⟨0, Nat.zero_le _, rfl, rfl, by simpa [encs] using ho1, hb1⟩
  case round =>
    obtain ⟨k, hk, rfl, HA, hown, hbr⟩ := hrel
    have hsz := hbr.size
    by_cases hlt : k < ns.length
    · obtain ⟨b, off, rfl, hbb, hc⟩ := (hr'.below hbr).at_ hlt
      obtain ⟨x, hx⟩ : ∃ x, ns.getD k 0 = x := ⟨_, rfl⟩
      rw [hx] at hc
      have HX := Lib.hid hx
      clear hx
      have i1 : (k : Int) < (ns.length : Int) := by omega
      have hle := encs_len _ HA.out
      have htl : (ns.take k).length ≤ k := List.length_take_le _ _
      by_cases hnb : numB x = true
      · have hx2 := numB_true.1 hnb
        have HB := Lib.hid hnb
        clear hnb
        obtain ⟨N, rfl⟩ : ∃ N : Nat, x = (N : Int) := ⟨x.toNat, by omega⟩
        go_wp2_with fail
        refine (iNum_any _ _).mono ?_
        rintro e w' ⟨rfl, rfl⟩
        rw [HB.out]
        go_wp2_with fail
        refine (iVarint_any w.heap.size u6 (zs ++ encs (ns.take k)) N wr hown (by rw [List.length_append]; omega) hsz (by omega)).mono ?_
        rintro e w2 ⟨v2, rfl, ho2, hb2⟩
        have HO : Own .u8 w2 w.heap.size 5 v2 (zs ++ encs (ns.take (k + 1))) := by
          rw [encs_take ns k hlt, HX.out, Int.toNat_natCast, ← List.append_assoc]; exact ho2
        have HA2 := Lib.hid (all_take ns k hlt HA.out (by rw [HX.out]; exact HB.out))
        clear ho2
        go_wp2
        go_roundw
        case rel => exact ⟨k + 1, by omega, by go_num, HA2, HO, hbr.trans hb2⟩
        case measure => simp [intOf]; omega
      · have hnb' : numB x = false := by simpa using hnb
        have HB := Lib.hid hnb'
        clear hnb hnb'
        have HN := Lib.hid (not_all ns k hlt (by rw [HX.out]; exact HB.out))
        go_wp2_with fail
        refine (iNum_any _ _).mono ?_
        rintro e w' ⟨rfl, rfl⟩
        rw [HB.out]
        go_wp2
        go_ret2
        exact ⟨_, by rw [HN.out]; rfl, by unfold putsL; rw [HN.out]; exact World.ownsRow_nil _ _ _ _, hbr⟩
    · have hk2 : k = ns.length := by omega
      subst hk2
      have HA2 := HA.out
      rw [List.take_of_length_le (Nat.le_refl _)] at HA2 hown
      have HA3 := Lib.hid HA2
      clear HA2 HA
      go_wp2
      go_ret2
      exact ⟨_, by rw [HA3.out]; rfl, by unfold putsL; rw [if_pos HA3.out]; exact hown, hbr⟩

theorem rd_one64 (w : World) (t : TypeId) (x : Int) : Rd .i64 (w.alloc (.cells #[.int .i64 x] t)) (w.alloc (.cells #[.int .i64 x] t)).heap.size (some ⟨w.heap.size, 0, none⟩) [x] :=
  (rd_one .i64 w t x).more (by simp)

end Go.Proofs.Ytdhphfmjekbmjaa
