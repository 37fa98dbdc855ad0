/- Contracts of spec.l01Put, spec.PutNums and impl.PutNums; the walk of the law FnExactPutNums. -/
import Derived.Test.YtfdhilpmblbkfaaPutNum
import Derived.Test.YtfdhilpmblbkfaaInts
namespace Go.Proofs.Ytfdhilpmblbkfaa
open Go.RowKit
set_option linter.unusedVariables false

set_option maxHeartbeats 400000 in
theorem sPut_any (A : Option Addr) (c : Nat) (zs : List Int) (N : Nat) (w : World) (hr : Rd .u8 w w.heap.size A zs) (hm : zs.length ≤ 1073741824) (hN : N ≤ 1125899906842624) :
    Calls Try.prog 43 #[.slice A zs.length c, .int .i64 N] w (Grows w.heap.size w (zs ++ enc N)) := by
  go_enter Try.func43, Try.ntmps43
  go_wp2_with fail
  refine (sPutNum_any A c zs (N : Int) w hr hm (by omega) (by omega)).mono ?_
  rintro e w1 ⟨v, rfl, ho, hb⟩
  have hp : putL zs (N : Int) = zs ++ enc N := by unfold putL; rw [if_pos (numB_true.2 (by omega)), Int.toNat_natCast]
  rw [hp] at ho
  clear hp
  go_wp2
  go_ret
  exact ⟨v, rfl, ho, hb⟩

theorem putsL_true {zs ns : List Int} (h : ns.all numB = true) : putsL zs ns = zs ++ encs ns := by unfold putsL; rw [if_pos h]
theorem putsL_false {zs ns : List Int} (h : ns.all numB = false) : putsL zs ns = [] := by unfold putsL; rw [h]; simp
theorem all_cons {N : Nat} {ns : List Int} (hN : N ≤ 1125899906842624) : ((N : Int) :: ns).all numB = ns.all numB := by
  rw [List.all_cons, numB_true.2 (by omega), Bool.true_and]
theorem encs_cons (N : Nat) (ns : List Int) : encs ((N : Int) :: ns) = enc N ++ encs ns := by simp [encs]

set_option maxHeartbeats 1000000 in
theorem sPutNums_any (A A' : Option Addr) (c c' : Nat) (zs ns : List Int) (w : World) (hr : Rd .u8 w w.heap.size A zs) (hr' : Rd .i64 w w.heap.size A' ns) (hm : zs.length ≤ 16777216) (hm' : ns.length ≤ 16777216) :
    Calls Try.prog 20 #[.slice A zs.length c, .slice A' ns.length c'] w (GivesL w (putsL zs ((ns.length : Int) :: ns)) (((ns.length : Int) :: ns).all numB)) := by
  rw [all_cons (by omega)]
  go_enter Try.func20, Try.ntmps20
  go_wp2_with fail
  refine (sPut_any A c zs ns.length w hr (by omega) (by omega)).mono ?_
  rintro e w1 ⟨v1, rfl, ho1, hb1⟩
  have hl1 := enc_len8 ns.length (by omega)
  go_wp2
  go_loopw [6, 15] (fun sv si wr => ∃ k : Nat, k ≤ ns.length ∧ si = .int .i64 k ∧ Hid ((ns.take k).all numB = true) ∧ Own .u8 wr w.heap.size 5 sv (zs ++ enc ns.length ++ encs (ns.take k)) ∧ Below w.heap.size w wr) (fun _ si _ => ns.length - (intOf si).toNat)
  case atStart => exact ⟨0, Nat.zero_le _, rfl, rfl, by simpa [encs] using ho1, hb1⟩
  case round =>
    obtain ⟨k, hk, rfl, HA, hown, hbr⟩ := hrel
    have hsz := hbr.size
    by_cases hlt : k < ns.length
    · obtain ⟨b, off, rfl, hbb, hc⟩ := (hr'.below hbr).at_ hlt
      obtain ⟨x, hx⟩ : ∃ x, ns.getD k 0 = x := ⟨_, rfl⟩
      rw [hx] at hc
      have HX := Lib.hid hx
      clear hx
      have i1 : (k : Int) < (ns.length : Int) := by omega
      have hle := encs_len _ HA.out
      have htl : (ns.take k).length ≤ k := List.length_take_le _ _
      obtain ⟨P, hP⟩ : ∃ P, zs ++ enc ns.length ++ encs (ns.take k) = P := ⟨_, rfl⟩
      have hPl : P.length ≤ 1073741824 := by rw [← hP, List.length_append, List.length_append]; omega
      rw [hP] at hown
      have HP := Lib.hid hP
      clear hP
      obtain ⟨Av, cv, rfl, rv⟩ := hown.form
      by_cases hnb : numB x = true
      · have hx2 := numB_true.1 hnb
        have HB := Lib.hid hnb
        clear hnb
        obtain ⟨N, rfl⟩ : ∃ N : Nat, x = (N : Int) := ⟨x.toNat, by omega⟩
        go_wp2_with fail
        refine (sNum_any _ _).mono ?_
        rintro e w' ⟨rfl, rfl⟩
        rw [HB.out]
        go_wp2_with fail
        refine (sPut_any Av cv P N wr rv hPl (by omega)).mono ?_
        rintro e w2 ⟨v2, rfl, ho2, hb2⟩
        have HO : Own .u8 w2 w.heap.size 5 v2 (zs ++ enc ns.length ++ encs (ns.take (k + 1))) := by
          rw [encs_take ns k hlt, HX.out, Int.toNat_natCast, ← List.append_assoc, HP.out]; exact ho2.base_mono hsz
        have HA2 := Lib.hid (all_take ns k hlt HA.out (by rw [HX.out]; exact HB.out))
        clear ho2
        go_wp2
        go_roundw
        case rel => exact ⟨k + 1, by omega, by go_num, HA2, HO, hbr.trans (hb2.mono hsz)⟩
        case measure => simp [intOf]; omega
      · have hnb' : numB x = false := by simpa using hnb
        have HB := Lib.hid hnb'
        clear hnb hnb'
        have HN := Lib.hid (not_all ns k hlt (by rw [HX.out]; exact HB.out))
        go_wp2_with fail
        refine (sNum_any _ _).mono ?_
        rintro e w' ⟨rfl, rfl⟩
        rw [HB.out]
        go_wp2
        go_ret2
        exact ⟨_, by rw [HN.out]; rfl, by rw [putsL_false ((all_cons (by omega)).trans HN.out)]; exact World.ownsRow_nil _ _ _ _, hbr⟩
    · have hk2 : k = ns.length := by omega
      subst hk2
      have HA2 := HA.out
      rw [List.take_of_length_le (Nat.le_refl _)] at HA2 hown
      have HA3 := Lib.hid HA2
      clear HA2 HA
      go_wp2
      go_ret2
      exact ⟨_, by rw [HA3.out]; rfl, by rw [putsL_true ((all_cons (by omega)).trans HA3.out), encs_cons, ← List.append_assoc]; exact hown, hbr⟩

set_option maxHeartbeats 1000000 in
theorem iPutNums_any (A A' : Option Addr) (c c' : Nat) (zs ns : List Int) (w : World) (hr : Rd .u8 w w.heap.size A zs) (hr' : Rd .i64 w w.heap.size A' ns) (hm : zs.length ≤ 16777216) (hm' : ns.length ≤ 16777216) :
    Calls Try.prog 22 #[.slice A zs.length c, .slice A' ns.length c'] w (GivesL w (putsL zs ((ns.length : Int) :: ns)) (((ns.length : Int) :: ns).all numB)) := by
  obtain ⟨i0, hi, hz0, hz1, hz2⟩ := info_parts Try.info_i64
  go_enter Try.func22, Try.ntmps22
  go_wp2_with (at_builtin; refine wpl_appI _ .i64 rfl (.tmp 9) (.tmp 10) 31 rfl w.heap.size 3 i0 8 Try.underlying31 hi hz0 hz1 hz2 _ [(ns.length : Int)] rfl (own_one .i64 w w.heap.size 3 (ns.length : Int) (Nat.le_refl _)) w.heap.size A' c' ns.length ns rfl rfl (hr'.below ((Below.refl _ _).alloc (Nat.le_refl _) _)) ?c1 (by omega) ?c2 ?_)
  case c1 => simp; omega
  case c2 => simp
  intro v1 w1 ho1 hg1 hat1
  have hb1 : Below w.heap.size w w1 := grown_below ((Below.refl _ _).alloc (Nat.le_refl _) _) (own_one .i64 w w.heap.size 3 (ns.length : Int) (Nat.le_refl _)) hg1 (Nat.le_refl _) (by simp)
  clear hg1 hat1
  have ho2 : Own .i64 w1 w.heap.size 3 v1 ((ns.length : Int) :: ns) := by simpa using ho1
  clear ho1
  obtain ⟨Av, cv, rfl, rv⟩ := ho2.form
  go_wp2_with fail
  refine (iAppendNums_any A Av c cv zs ((ns.length : Int) :: ns) w1 ((hr.below hb1).more hb1.size) rv (by omega) (by simp; omega)).mono ?_
  rintro e w2 ⟨v2, rfl, ho3, hb3⟩
  go_wp2
  go_ret2
  exact ⟨v2, rfl, ho3.base_mono hb1.size, hb1.trans (hb3.mono hb1.size)⟩
end Go.Proofs.Ytfdhilpmblbkfaa
