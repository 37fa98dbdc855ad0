/- Contracts of spec.l01Bytes and spec.MakeBytes: a few bytes. -/
import Derived.Test.YtdempiibbhfijaaCursor
import Derived.Test.YtdempiibbhfijaaBytes
import Derived.Test.YtdempiibbhfijaaLaw
namespace Go.Proofs.Ytdempiibbhfijaa
open Go.RowKit
set_option linter.unusedVariables false

theorem bytes_snoc {l : List Int} {x : Int} (h : Bytes l) (hx : 0 ≤ x ∧ x ≤ 255) : Bytes (l ++ [x]) := by
  intro j
  by_cases hj : j < l.length
  · have := h j
    rw [List.getD_eq_getElem?_getD, List.getElem?_append_left hj, ← List.getD_eq_getElem?_getD]; exact this
  · by_cases hj2 : j = l.length
    · subst hj2; simp; exact hx
    · rw [List.getD_eq_getElem?_getD, List.getElem?_eq_none (by simp; omega)]; simp

theorem cell_of_heap {w w' : World} {p : Addr} (h : w'.heap[p.block]? = w.heap[p.block]?) : w'.cell? p = w.cell? p := by
  unfold World.cell?; rw [h]

/-- what l01Bytes leaves: a new row of bytes, and the cursor moved on -/
def GotBytes (w : World) (g : Nat) (A : Option Addr) (c : Nat) (zs : List Int) (most : Nat) (e : Ending) (w' : World) : Prop :=
  ∃ v l, e = .returned v ∧ Own .u8 w' w.heap.size 5 v l ∧ Bytes l ∧ l.length ≤ most ∧ CurOk w' g A c zs ∧ w.grownBy w' (some g)

set_option maxHeartbeats 1000000 in
theorem cBytes_any (g : Nat) (A : Option Addr) (c : Nat) (zs : List Int) (most : Nat) (w : World) (hk : CurOk w g A c zs) (hb : Bytes zs) (hm : zs.length ≤ 1048576) (hn : most ≤ 100000) :
    Calls Try.prog 32 #[.pointer (some ⟨g, 0, none⟩), .int .i64 most] w (GotBytes w g A c zs most) := by
  obtain ⟨i0, hi, hz0, hz1, hz2⟩ := info_parts Try.info_u8
  have hgl : g < w.heap.size := by obtain ⟨i, h, hc, _⟩ := hk; exact hc.lt
  have hk1 : CurOk (w.alloc (.cells #[] 5)) g A c zs := by
    obtain ⟨i, h, hc, q1, q2, q3, hr⟩ := hk
    exact ⟨i, h, hc.alloc _, q1, q2, q3, hr.below (((Below.refl w.heap.size w).alloc (Nat.le_refl _) _).mono (by omega))⟩
  have ho : Own .u8 (w.alloc (.cells #[] 5)) w.heap.size 5 (.slice (some ⟨w.heap.size, 0, none⟩) 0 0) [] := own_none .u8 w w.heap.size 5 (Nat.le_refl _)
  have hg1 : w.grownBy (w.alloc (.cells #[] 5)) (some g) := by
    have hb0 := (Below.refl w.heap.size w).alloc (Nat.le_refl _) (.cells #[] 5)
    exact ⟨hb0.os, hb0.tape, hb0.output, hb0.size, fun i hi _ => hb0.block i hi⟩
  go_enter Try.func32, Try.ntmps32
  go_wp2_with fail
  refine (cBelow_any g A c zs ((most : Int) + 1) _ hk1 hb (by omega) (by omega) (by omega)).mono ?_
  rintro e w2 ⟨K, rfl, ⟨hK1, hK2⟩, hk2, hg2⟩
  have ho2 : Own .u8 w2 w.heap.size 5 (.slice (some ⟨w.heap.size, 0, none⟩) 0 0) [] := ho.kept_ hg2 (fun j hj e => by have := (ho.at_ j hj).1; simp at e; omega)
  have hg3 : w.grownBy w2 (some g) := grown_more hg1 hg2
  obtain ⟨N, rfl⟩ : ∃ N : Nat, K = (N : Int) := ⟨K.toNat, by omega⟩
  clear ho hk hk1 hg1 hg2
  go_wp2
  go_loopw [5, 6] (fun sl sk wr => ∃ (m : Nat) (l : List Int), sk = .int .i64 m ∧ Own .u8 wr w.heap.size 5 sl l ∧ Bytes l ∧ l.length + m ≤ most ∧ CurOk wr g A c zs ∧ w.grownBy wr (some g)) (fun _ sk _ => (intOf sk).toNat)
  case atStart => exact ⟨N, [], rfl, ho2, (fun j => by simp), by simp; omega, hk2, hg3⟩
  case round =>
    obtain ⟨m, l, rfl, hown, hbl, hlen, hkr, hgr⟩ := hrel
    have hsr := hgr.size
    by_cases hm0 : 0 < m
    · have i1 : (0 : Int) < (m : Int) := by omega
      go_wp2_with fail
      refine (cByte_any g A c zs wr hkr hb (by omega)).mono ?_
      rintro e w3 ⟨x, rfl, ⟨hx1, hx2⟩, hk3, hg3⟩
      have ho3 : Own .u8 w3 w.heap.size 5 u5 l := hown.kept_ hg3 (fun j hj e => by have := (hown.at_ j hj).1; simp at e; omega)
      have hgr3 : w.grownBy w3 (some g) := grown_more hgr hg3
      have hs3 := hgr3.size
      have hxm : x % 256 = x := by omega
      go_wp2_with (at_builtin; refine wpl_appI _ .u8 rfl (.tmp 16) (.tmp 20) 22 rfl w.heap.size 5 i0 1 Try.underlying22 hi hz0 hz1 hz2 _ l rfl (ho3.alloc_ _) _ _ _ 1 [x] rfl rfl (rd_one _ _ _ _) ?d1 (by omega) ?d2 ?_)
      case d1 => omega
      case d2 => simp; omega
      intro v4 w4 ho4 hg4 hat4
      have hb4 : Below w3.heap.size w3 (w3.alloc (.cells #[.int .u8 x] 5)) := (Below.refl _ _).alloc (Nat.le_refl _) _
      have hgr4 : w.grownBy w4 (some g) := by
        refine ⟨hg4.os.trans (hb4.os.trans hgr3.os), hg4.tape.trans (hb4.tape.trans hgr3.tape), hg4.output.trans (hb4.output.trans hgr3.output), Nat.le_trans hs3 (Nat.le_trans hb4.size hg4.size), fun i hi hne => ?_⟩
        rw [hg4.block i (Nat.lt_of_lt_of_le hi (Nat.le_trans hs3 hb4.size)) (fun e => by have := (ho3.at_ i e.symm).1; omega), hb4.block i (by omega)]
        exact hgr3.block i hi hne
      have hk4 : CurOk w4 g A c zs := by
        obtain ⟨i, h, hc, hi1, hh1, hh2, hr⟩ := hk3
        refine ⟨i, h, (hc.alloc _).kept hg4 (fun e => by have := (ho3.at_ _ e.symm).1; omega), hi1, hh1, hh2, hr.keep fun p hp => cell_of_heap ?_⟩
        rw [hg4.block p.block (by have := hb4.size; omega) (fun e => by have := (ho3.at_ _ e.symm).1; omega)]
        exact hb4.block p.block (by omega)
      clear hg4 hat4 hk3
      go_wp2
      go_roundw
      case rel => exact ⟨m - 1, l ++ [x], by go_num, ho4, bytes_snoc hbl ⟨hx1, hx2⟩, by simp; omega, hk4, hgr4⟩
      case measure => simp [intOf]; omega
    · have hm1 : m = 0 := by omega
      subst hm1
      go_wp2
      go_ret
      exact ⟨_, l, rfl, hown, hbl, by omega, hkr, hgr⟩

set_option maxHeartbeats 1000000 in
theorem makeBytes_any (A : Option Addr) (c : Nat) (zs : List Int) (most : Nat) (w : World) (hr : Rd .u8 w w.heap.size A zs) (hb : Bytes zs) (hm : zs.length ≤ 1048576) (hn : most ≤ 100000) :
    Calls Try.prog 9 #[.slice A zs.length c, .int .i64 most] w fun e w' => ∃ v l, e = .returned v ∧ OS .u8 5 w' w.heap.size w'.heap.size v l ∧ Bytes l ∧ l.length ≤ most ∧ Below w.heap.size w w' := by
  go_enter Try.func9, Try.ntmps9
  go_wp2_with fail
  refine (cNew_any A c zs w hr hb hm).mono ?_
  rintro e w1 ⟨rfl, h, hh1, hh2, hw⟩
  obtain ⟨hc, hb1⟩ := NewCur.cur hw
  clear hw
  obtain ⟨c0, c1, c2, f1, f2⟩ := hc.cells
  have hcB := hc.setH (h + most)
  have hb2 : Below w.heap.size w (w1.setCell ⟨w.heap.size, 2, none⟩ (.int .i64 (h + most))) := hb1.setCell (p := ⟨w.heap.size, 2, none⟩) (Nat.le_refl _) _
  obtain ⟨wa, hwa⟩ : ∃ wa, w1.setCell ⟨w.heap.size, 2, none⟩ (.int .i64 (h + most)) = wa := ⟨_, rfl⟩
  rw [hwa] at hcB hb2
  have hk : CurOk wa w.heap.size A c zs := ⟨0, h + most, hcB, Nat.zero_le _, by omega, by omega, hr.below hb2⟩
  have hlt := hcB.lt
  clear hc hcB
  go_wp2_with fail
  refine (cBytes_any w.heap.size A c zs most _ hk hb hm hn).mono ?_
  rintro e w2 ⟨v, l, rfl, ho, hbl, hl, hk2, hg2⟩
  have hb3 : Below w.heap.size w w2 := hb2.grown hg2 hb2.size (fun j hj => by simp at hj; omega)
  go_wp2
  go_ret
  exact ⟨v, l, rfl, (OS.mk_ ho).widen (by omega) (Nat.le_refl _) (Nat.le_refl _), hbl, hl, hb3⟩

end Go.Proofs.Ytdempiibbhfijaa
