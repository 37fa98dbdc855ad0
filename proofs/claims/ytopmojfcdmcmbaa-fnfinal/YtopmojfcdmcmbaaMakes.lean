/- Contracts of spec.MakeNums and spec.MakeNum: numbers within bounds. -/
import Derived.Test.YtopmojfcdmcmbaaCursor
import Derived.Test.YtopmojfcdmcmbaaInts
namespace Go.Proofs.Ytopmojfcdmcmbaa
open Go.RowKit
set_option linter.unusedVariables false

/-- all of l lie from 0 to n - 1 -/
def AllIn (n : Int) (l : List Int) : Prop := ∀ x ∈ l, 0 ≤ x ∧ x < n

set_option maxHeartbeats 1000000 in
theorem makeNum_any (A : Option Addr) (c : Nat) (zs : List Int) (n : Int) (w : World) (hr : Rd .u8 w w.heap.size A zs) (hb : Bytes zs) (hm : zs.length ≤ 1048576) (hn : 0 < n) (hn2 : n ≤ 9223372036854775807) :
    Calls Try.prog 13 #[.slice A zs.length c, .int .i64 n] w fun e w' => ∃ x, e = .returned (.int .i64 x) ∧ 0 ≤ x ∧ x < n ∧ Below w.heap.size w w' := by
  go_enter Try.func13, Try.ntmps13
  go_wp2_with fail
  refine (cNew_any A c zs w hr hb hm).mono ?_
  rintro e w1 ⟨rfl, h, hh1, hh2, hw⟩
  obtain ⟨hc, hb1⟩ := NewCur.cur hw
  clear hw
  obtain ⟨c0, c1, c2, f1, f2⟩ := hc.cells
  have hcB := hc.setH (h + 777)
  have hb2 : Below w.heap.size w (w1.setCell ⟨w.heap.size, 2, none⟩ (.int .i64 (h + 777))) := hb1.setCell (p := ⟨w.heap.size, 2, none⟩) (Nat.le_refl _) _
  have hk : CurOk (w1.setCell ⟨w.heap.size, 2, none⟩ (.int .i64 (h + 777))) w.heap.size A c zs := ⟨0, h + 777, hcB, Nat.zero_le _, by omega, by omega, hr.below hb2⟩
  clear hc hcB
  go_wp2_with fail
  refine (cBelow_any w.heap.size A c zs n _ hk hb (by omega) hn hn2).mono ?_
  rintro e w2 ⟨x, rfl, ⟨hx1, hx2⟩, hk2, hg2⟩
  have hb3 : Below w.heap.size w w2 := hb2.grown hg2 hb2.size (fun j hj => by simp at hj; omega)
  go_wp2
  go_ret
  exact ⟨x, rfl, hx1, hx2, hb3⟩

theorem allIn_snoc {n x : Int} {l : List Int} (h : AllIn n l) (hx : 0 ≤ x ∧ x < n) : AllIn n (l ++ [x]) := by
  intro y hy
  rcases List.mem_append.1 hy with h1 | h1
  · exact h y h1
  · simp at h1; rw [h1]; exact hx

end Go.Proofs.Ytopmojfcdmcmbaa
