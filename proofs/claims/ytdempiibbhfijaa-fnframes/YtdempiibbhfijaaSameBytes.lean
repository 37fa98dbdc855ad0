/- Contracts of spec.SameBytes, bytes.Equal and impl.SameBytes; the walk of the law FnExactSameBytes. -/
import Derived.Test.YtdempiibbhfijaaBytes
import Derived.Test.YtdempiibbhfijaaGetNum
import Derived.Test.YtdempiibbhfijaaConv
import Derived.Test.YtdempiibbhfijaaLaw
namespace Go.Proofs.Ytdempiibbhfijaa
open Go.RowKit
set_option linter.unusedVariables false

theorem strOf_inj {xs ys : List Int} (hx : Bytes xs) (hy : Bytes ys) (h : strOfNums xs = strOfNums ys) : xs = ys := by
  have h1 := congrArg (fun s : ByteArray => s.data.toList) h
  simp only [strOfNums_data] at h1
  have hl : xs.length = ys.length := by have := congrArg List.length h1; simpa using this
  apply List.ext_getElem hl
  intro j hj hj'
  have h2 : (xs.map fun n => UInt8.ofNat n.toNat)[j]? = (ys.map fun n => UInt8.ofNat n.toNat)[j]? := by rw [h1]
  have bx := hx j
  have by_ := hy j
  simp [hj, hj'] at h2 bx by_
  have h3 := congrArg UInt8.toNat h2
  simp at h3
  omega

theorem same_dec {xs ys : List Int} (hx : Bytes xs) (hy : Bytes ys) : decide (strOfNums xs = strOfNums ys) = decide (xs = ys) := by
  by_cases h : xs = ys
  · simp [h]
  · have : ¬ strOfNums xs = strOfNums ys := fun e => h (strOf_inj hx hy e)
    simp [h, this]

set_option maxHeartbeats 400000 in
theorem bytesEqual_any (A A' : Option Addr) (c c' : Nat) (xs ys : List Int) (w : World) (B : Nat) (hx : Rd .u8 w B A xs) (hy : Rd .u8 w B A' ys) (bx : Bytes xs) (by_ : Bytes ys) :
    Calls Try.prog 38 #[.slice A xs.length c, .slice A' ys.length c'] w fun e w' => e = .returned (.bool (decide (xs = ys))) ∧ w = w' := by
  have k1 := run_conv (P := Try.prog) w 22 5 9 Try.underlying22 Try.underlying5 Try.underlying9 A c B xs hx
  have k2 := run_conv (P := Try.prog) w 22 5 9 Try.underlying22 Try.underlying5 Try.underlying9 A' c' B ys hy
  rw [← same_dec bx by_]
  obtain ⟨s, hs⟩ : ∃ s, strOfNums xs = s := ⟨_, rfl⟩
  obtain ⟨s', hs'⟩ : ∃ s, strOfNums ys = s := ⟨_, rfl⟩
  rw [hs] at k1
  rw [hs'] at k2
  rw [hs, hs']
  clear hs hs' hx hy bx by_
  go_enter Try.func38, Try.ntmps38
  go_wp2
  go_ret
  exact ⟨ret_eq (by rw [← str_same s s']; rfl), rfl⟩

set_option maxHeartbeats 400000 in
theorem iSameBytes_any (A A' : Option Addr) (c c' : Nat) (xs ys : List Int) (w : World) (B : Nat) (hx : Rd .u8 w B A xs) (hy : Rd .u8 w B A' ys) (bx : Bytes xs) (by_ : Bytes ys) :
    Calls Try.prog 16 #[.slice A xs.length c, .slice A' ys.length c'] w fun e w' => e = .returned (.bool (decide (xs = ys))) ∧ w = w' := by
  go_enter Try.func16, Try.ntmps16
  go_wp2_with fail
  refine (bytesEqual_any A A' c c' xs ys w B hx hy bx by_).mono ?_
  rintro e w' ⟨rfl, rfl⟩
  go_wp2
  go_ret
  exact ⟨rfl, rfl⟩

theorem iSameBytes_b {w : World} {v v' : Value} {xs ys : List Int} (h : RS .u8 w v xs) (h' : RS .u8 w v' ys) (bx : Bytes xs) (by_ : Bytes ys) :
    Calls Try.prog 16 #[v, v'] w fun e w' => e = .returned (.bool (decide (xs = ys))) ∧ Below w.heap.size w w' := by
  obtain ⟨A, c, rfl, _, _, hr⟩ := h
  obtain ⟨A', c', rfl, _, _, hr'⟩ := h'
  exact (iSameBytes_any A A' c c' xs ys w _ hr hr' bx by_).mono fun e w' ⟨he, hw⟩ => ⟨he, by rw [← hw]; exact Below.refl _ _⟩

end Go.Proofs.Ytdempiibbhfijaa
