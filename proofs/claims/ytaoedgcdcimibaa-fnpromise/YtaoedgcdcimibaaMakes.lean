/- Contracts of spec.MakeNums and spec.MakeNum: numbers within bounds. -/
import Derived.Test.YtaoedgcdcimibaaCursor
import Derived.Test.YtaoedgcdcimibaaInts
namespace Go.Proofs.Ytaoedgcdcimibaa
open Go.RowKit
set_option linter.unusedVariables false

/-- all of l lie from 0 to n - 1 -/
def AllIn (n : Int) (l : List Int) : Prop := ∀ x ∈ l, 0 ≤ x ∧ x < n

set_option maxHeartbeats 1000000 in
theorem makeNum_any (A : Option Addr) (c : Nat) (zs : List Int) (n : Int) (w : World) (hr : Rd .u8 w w.heap.size A zs) (hb : Bytes zs) (hm : zs.length ≤ 1048576) (hn : 0 < n) (hn2 : n ≤ 9223372036854775807) :
    Calls Try.prog 25 #[.slice A zs.length c, .int .i64 n] w fun e w' => ∃ x, e = .returned (.int .i64 x) ∧ 0 ≤ x ∧ x < n ∧ Below w.heap.size w w' := by
  go_enter Try.func25, Try.ntmps25
  go_wp2_with fail
  refine (cNew_any A c zs w hr hb hm).mono ?_
  rintro e w1 ⟨rfl, h, hh1, hh2, hw⟩
  obtain ⟨hc, hb1⟩ := NewCur.cur hw
  clear hw
  obtain ⟨c0, c1, c2, f1, f2⟩ := hc.cells
  have hcB := hc.setH (h + 777)
  have hb2 : Below w.heap.size w (w1.setCell ⟨w.heap.size, 2, none⟩ (.int .i64 (h + 777))) := hb1.setCell (p := ⟨w.heap.size, 2, none⟩) (Nat.le_refl _) _
  have hk : CurOk (w1.setCell ⟨w.heap.size, 2, none⟩ (.int .i64 (h + 777))) w.heap.size A c zs := ⟨0, h + 777, hcB, Nat.zero_le _, by omega, by omega, hr.below hb2⟩
  clear hc hcB
  go_wp2_with fail
  refine (cBelow_any w.heap.size A c zs n _ hk hb (by omega) hn hn2).mono ?_
  rintro e w2 ⟨x, rfl, ⟨hx1, hx2⟩, hk2, hg2⟩
  have hb3 : Below w.heap.size w w2 := hb2.grown hg2 hb2.size (fun j hj => by simp at hj; omega)
  go_wp2
  go_ret
  exact ⟨x, rfl, hx1, hx2, hb3⟩

theorem allIn_snoc {n x : Int} {l : List Int} (h : AllIn n l) (hx : 0 ≤ x ∧ x < n) : AllIn n (l ++ [x]) := by
  intro y hy
  rcases List.mem_append.1 hy with h1 | h1
  · exact h y h1
  · simp at h1; rw [h1]; exact hx

set_option maxHeartbeats 1000000 in
theorem makeNums_any (A : Option Addr) (c : Nat) (zs : List Int) (n : Int) (w : World) (hr : Rd .u8 w w.heap.size A zs) (hb : Bytes zs) (hm : zs.length ≤ 1048576) (hn : 0 < n) (hn2 : n ≤ 1152921504606846976) :
    Calls Try.prog 16 #[.slice A zs.length c, .int .i64 n] w fun e w' => ∃ v l, e = .returned v ∧ Own .i64 w' w.heap.size 3 v l ∧ AllIn n l ∧ l.length ≤ 11 ∧ Below w.heap.size w w' := by
  obtain ⟨i0, hi, hz0, hz1, hz2⟩ := info_parts Try.info_i64
  go_enter Try.func16, Try.ntmps16
  go_wp2_with fail
  refine (cNew_any A c zs w hr hb hm).mono ?_
  rintro e w1 ⟨rfl, h, hh1, hh2, hw⟩
  obtain ⟨hc, hb1⟩ := NewCur.cur hw
  clear hw
  obtain ⟨c0, c1, c2, f1, f2⟩ := hc.cells
  have hcB := hc.setH (h + n)
  have hb2 : Below w.heap.size w (w1.setCell ⟨w.heap.size, 2, none⟩ (.int .i64 (h + n))) := hb1.setCell (p := ⟨w.heap.size, 2, none⟩) (Nat.le_refl _) _
  have hlt1 := hc.lt
  obtain ⟨wa, hwa⟩ : ∃ wa, w1.setCell ⟨w.heap.size, 2, none⟩ (.int .i64 (h + n)) = wa := ⟨_, rfl⟩
  rw [hwa] at hcB hb2
  have hlta : w.heap.size < wa.heap.size := hcB.lt
  have hb3 : Below w.heap.size w (wa.alloc (.cells #[] 3)) := hb2.alloc hb2.size _
  have hk : CurOk (wa.alloc (.cells #[] 3)) w.heap.size A c zs := ⟨0, h + n, hcB.alloc _, Nat.zero_le _, by omega, by omega, hr.below hb3⟩
  have ho : Own .i64 (wa.alloc (.cells #[] 3)) (w.heap.size + 1) 3 (.slice (some ⟨wa.heap.size, 0, none⟩) 0 0) [] := own_none .i64 wa (w.heap.size + 1) 3 (by omega)
  clear hc hcB
  go_wp2_with fail
  refine (cBelow_any w.heap.size A c zs 12 _ hk hb (by omega) (by omega) (by omega)).mono ?_
  rintro e w2 ⟨K, rfl, ⟨hK1, hK2⟩, hk2, hg2⟩
  have hb4 : Below w.heap.size w w2 := hb3.grown hg2 hb3.size (fun j hj => by simp at hj; omega)
  have hsz2 := hb4.size
  have ho2 : Own .i64 w2 (w.heap.size + 1) 3 (.slice (some ⟨wa.heap.size, 0, none⟩) 0 0) [] := ho.kept_ hg2 (fun j hj e => by have := (ho.at_ j hj).1; simp at e; omega)
  obtain ⟨N, rfl⟩ : ∃ N : Nat, K = (N : Int) := ⟨K.toNat, by omega⟩
  clear ho hk hwa
  go_wp2
  go_loopw [6, 7] (fun sl sk wr => ∃ (m : Nat) (l : List Int), sk = .int .i64 m ∧ Own .i64 wr (w.heap.size + 1) 3 sl l ∧ AllIn n l ∧ l.length + m ≤ 11 ∧ CurOk wr w.heap.size A c zs ∧ Below w.heap.size w wr ∧ w.heap.size + 1 ≤ wr.heap.size) (fun _ sk _ => (intOf sk).toNat)
  case atStart => exact ⟨N, [], rfl, ho2, (fun x hx => by simp at hx), by simp; omega, hk2, hb4, by have := hg2.size; simp at this; omega⟩
  case round =>
    obtain ⟨m, l, rfl, hown, hall, hlen, hkr, hbr, hszr⟩ := hrel
    by_cases hm0 : 0 < m
    · have i1 : (0 : Int) < (m : Int) := by omega
      go_wp2_with fail
      refine (cBelow_any w.heap.size A c zs n wr hkr hb (by omega) hn (by omega)).mono ?_
      rintro e w3 ⟨x, rfl, ⟨hx1, hx2⟩, hk3, hg3⟩
      have hb5 : Below w.heap.size w w3 := hbr.grown hg3 hbr.size (fun j hj => by simp at hj; omega)
      have ho3 : Own .i64 w3 (w.heap.size + 1) 3 u6 l := hown.kept_ hg3 (fun j hj e => by have := (hown.at_ j hj).1; simp at e; omega)
      have hsz3 : w.heap.size + 1 ≤ w3.heap.size := by have := hg3.size; omega
      go_wp2_with (at_builtin; refine wpl_appI _ .i64 rfl (.tmp 26) (.tmp 30) 24 rfl (w.heap.size + 1) 3 i0 8 Try.underlying24 hi hz0 hz1 hz2 _ l rfl (ho3.alloc_ _) _ _ _ 1 [x] rfl rfl (rd_one _ _ _ _) ?d1 (by omega) ?d2 ?_)
      case d1 => omega
      case d2 => simp; omega
      intro v4 w4 ho4 hg4 hat4
      have hb6 : Below w.heap.size w w4 := grown_below (hb5.alloc hb5.size _) (ho3.alloc_ _) hg4 (by omega) (by simp; omega)
      have hk4 : CurOk w4 w.heap.size A c zs := by
        obtain ⟨i, h, hc, hi1, hh1, hh2, _⟩ := hk3
        exact ⟨i, h, (hc.alloc _).kept hg4 (fun e => by have := (ho3.at_ _ e.symm).1; omega), hi1, hh1, hh2, hr.below hb6⟩
      have hsz4 : w.heap.size + 1 ≤ w4.heap.size := by have := hg4.size; simp at this; omega
      clear hg4 hat4 hk3
      go_wp2
      go_roundw
      case rel => exact ⟨m - 1, l ++ [x], by go_num, ho4, allIn_snoc hall ⟨hx1, hx2⟩, by simp; omega, hk4, hb6, hsz4⟩
      case measure => simp [intOf]; omega
    · have hm1 : m = 0 := by omega
      subst hm1
      go_wp2
      go_ret
      exact ⟨_, l, rfl, hown.base_mono (by omega), hall, by omega, hbr⟩

end Go.Proofs.Ytaoedgcdcimibaa
