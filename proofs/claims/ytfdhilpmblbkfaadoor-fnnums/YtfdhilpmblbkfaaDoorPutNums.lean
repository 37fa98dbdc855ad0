/- Contracts of spec.l01Put, spec.PutNums and impl.PutNums; the walk of the law FnExactPutNums. -/
import Derived.Test.YtfdhilpmblbkfaaDoorPutNum
import Derived.Test.YtfdhilpmblbkfaaDoorInts
namespace Go.Proofs.YtfdhilpmblbkfaaDoor
open Go.RowKit
set_option linter.unusedVariables false

theorem putsL_true {zs ns : List Int} (h : ns.all numB = true) : putsL zs ns = zs ++ encs ns := by unfold putsL; rw [if_pos h]
theorem putsL_false {zs ns : List Int} (h : ns.all numB = false) : putsL zs ns = [] := by unfold putsL; rw [h]; simp
theorem all_cons {N : Nat} {ns : List Int} (hN : N ≤ 1125899906842624) : ((N : Int) :: ns).all numB = ns.all numB := by
  rw [List.all_cons, numB_true.2 (by omega), Bool.true_and]
theorem encs_cons (N : Nat) (ns : List Int) : encs ((N : Int) :: ns) = enc N ++ encs ns := by simp [encs]

set_option maxHeartbeats 1000000 in
theorem iPutNums_any (A A' : Option Addr) (c c' : Nat) (zs ns : List Int) (w : World) (hr : Rd .u8 w w.heap.size A zs) (hr' : Rd .i64 w w.heap.size A' ns) (hm : zs.length ≤ 16777216) (hm' : ns.length ≤ 16777216) :
    Calls Tryd.prog 7 #[.slice A zs.length c, .slice A' ns.length c'] w (GivesL w (putsL zs ((ns.length : Int) :: ns)) (((ns.length : Int) :: ns).all numB)) := by
  obtain ⟨i0, hi, hz0, hz1, hz2⟩ := info_parts Tryd.info_i64
  go_enter Tryd.func7, Tryd.ntmps7
  go_wp2_with (at_builtin; refine wpl_appI _ .i64 rfl (.tmp 9) (.tmp 10) 23 rfl w.heap.size 3 i0 8 Tryd.underlying23 hi hz0 hz1 hz2 _ [(ns.length : Int)] rfl (own_one .i64 w w.heap.size 3 (ns.length : Int) (Nat.le_refl _)) w.heap.size A' c' ns.length ns rfl rfl (hr'.below ((Below.refl _ _).alloc (Nat.le_refl _) _)) ?c1 (by omega) ?c2 ?_)
  case c1 => simp; omega
  case c2 => simp
  intro v1 w1 ho1 hg1 hat1
  have hb1 : Below w.heap.size w w1 := grown_below ((Below.refl _ _).alloc (Nat.le_refl _) _) (own_one .i64 w w.heap.size 3 (ns.length : Int) (Nat.le_refl _)) hg1 (Nat.le_refl _) (by simp)
  clear hg1 hat1
  have ho2 : Own .i64 w1 w.heap.size 3 v1 ((ns.length : Int) :: ns) := by simpa using ho1
  clear ho1
  obtain ⟨Av, cv, rfl, rv⟩ := ho2.form
  go_wp2_with fail
  refine (iAppendNums_any A Av c cv zs ((ns.length : Int) :: ns) w1 ((hr.below hb1).more hb1.size) rv (by omega) (by simp; omega)).mono ?_
  rintro e w2 ⟨v2, rfl, ho3, hb3⟩
  go_wp2
  go_ret2
  exact ⟨v2, rfl, ho3.base_mono hb1.size, hb1.trans (hb3.mono hb1.size)⟩

end Go.Proofs.YtfdhilpmblbkfaaDoor
