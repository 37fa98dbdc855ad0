/- The walk of the law FnExactGetNum. -/
import Derived.Test.YtfdhilpmblbkfaaBytes
import Derived.Test.YtfdhilpmblbkfaaGetNum
namespace Go.Proofs.Ytfdhilpmblbkfaa
open Go.RowKit
set_option linter.unusedVariables false

theorem getVal_form (zs : List Int) (a : Int) : ∃ p q b, getVal zs a = .tuple #[.int .i64 p, .int .i64 q, .bool b] := by
  unfold getVal
  split
  · exact ⟨_, _, _, rfl⟩
  · exact ⟨_, _, _, rfl⟩

set_option maxHeartbeats 1000000 in
theorem wGetNum (A : Option Addr) (c : Nat) (zs : List Int) (a : Int) (w : World) (hr : Rd .u8 w w.heap.size A zs) (hb : Bytes zs) (hml : zs.length ≤ maxLen) (ha1 : -9223372036854775808 ≤ a) (ha2 : a ≤ 9223372036854775807) :
    Calls Try.prog 4 #[.slice A zs.length c, .int .i64 a] w fun e w' => e = .returned (.bool true) ∧ Below w.heap.size w w' := by
  unfold maxLen at hml
  by_cases hbig : 1048576 < zs.length
  · have i0 : (1048576 : Int) < (zs.length : Int) := by omega
    go_enter Try.func4, Try.ntmps4
    go_wp2
    go_ret
    exact ⟨rfl, Below.refl _ _⟩
  · obtain ⟨p, q, b, hv⟩ := getVal_form zs a
    have HV := Lib.hid hv
    clear hv
    have hm : zs.length ≤ 1048576 := by omega
    go_enter Try.func4, Try.ntmps4
    go_wp2_with fail
    refine (toByteS_any A c zs w hr (by omega)).mono ?_
    rintro e w1 ⟨rfl, ho1, hb1⟩
    go_wp2_with fail
    refine (sGetNum_any _ _ zs a w1 _ ho1.rd hb (by omega) ha1 ha2).mono ?_
    rintro e w' ⟨rfl, rfl⟩
    rw [HV.out]
    have hr1 := (hr.below hb1).more hb1.size
    go_wp2_with fail
    refine (toByteS_any A c zs w1 hr1 (by omega)).mono ?_
    rintro e w2 ⟨rfl, ho2, hb2⟩
    go_wp2_with fail
    refine (iGetNum_any _ _ zs a w2 _ ho2.rd hb (by omega) (Nat.le_refl _) (by unfold maxLen; omega) ha1 ha2).mono ?_
    rintro e w' ⟨rfl, rfl⟩
    rw [HV.out]
    have hr2 := (hr1.below hb2).more hb2.size
    go_wp2_with fail
    refine (toByteS_any A c zs w2 hr2 (by omega)).mono ?_
    rintro e w3 ⟨rfl, ho3, hb3⟩
    go_wp2_with fail
    refine (eqByteS_any _ _ _ _ zs zs w3 _ ((ho2.rd.below hb3).more hb3.size) ho3.rd (by omega)).mono ?_
    rintro e w4 ⟨rfl, n, rfl⟩
    rw [show decide (zs = zs) = true by simp]
    go_wp2
    go_ret
    exact ⟨rfl, bdrew ((hb1.trans (hb2.mono hb1.size)).trans (hb3.mono (Nat.le_trans hb1.size hb2.size))) n⟩
end Go.Proofs.Ytfdhilpmblbkfaa
