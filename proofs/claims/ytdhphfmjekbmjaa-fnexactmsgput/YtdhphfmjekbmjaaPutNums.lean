/- Contracts of spec.l01Put, spec.PutNums and impl.PutNums; the walk of the law FnExactPutNums. -/
import Derived.Test.YtdhphfmjekbmjaaPutNum
import Derived.Test.YtdhphfmjekbmjaaInts
namespace Go.Proofs.Ytdhphfmjekbmjaa
open Go.RowKit
set_option linter.unusedVariables false

set_option maxHeartbeats 400000 in
theorem sPut_any (A : Option Addr) (c : Nat) (zs : List Int) (N : Nat) (w : World) (hr : Rd .u8 w w.heap.size A zs) (hm : zs.length ≤ 1073741824) (hN : N ≤ 1125899906842624) :
    Calls Try.prog 28 #[.slice A zs.length c, .int .i64 N] w (Grows w.heap.size w (zs ++ enc N)) := by
  go_enter Try.func28, Try.ntmps28
  go_wp2_with fail
  refine (sPutNum_any A c zs (N : Int) w hr hm (by omega) (by omega)).mono ?_
  rintro e w1 ⟨v, rfl, ho, hb⟩
  have hp : putL zs (N : Int) = zs ++ enc N := by unfold putL; rw [if_pos (numB_true.2 (by omega)), Int.toNat_natCast]
  rw [hp] at ho
  clear hp
  go_wp2
  go_ret
  exact ⟨v, rfl, ho, hb⟩

theorem putsL_true {zs ns : List Int} (h : ns.all numB = true) : putsL zs ns = zs ++ encs ns := by unfold putsL; rw [if_pos h]
theorem putsL_false {zs ns : List Int} (h : ns.all numB = false) : putsL zs ns = [] := by unfold putsL; rw [h]; simp
theorem all_cons {N : Nat} {ns : List Int} (hN : N ≤ 1125899906842624) : ((N : Int) :: ns).all numB = ns.all numB := by
  rw [List.all_cons, numB_true.2 (by omega), Bool.true_and]
theorem encs_cons (N : Nat) (ns : List Int) : encs ((N : Int) :: ns) = enc N ++ encs ns := by simp [encs]

end Go.Proofs.Ytdhphfmjekbmjaa
