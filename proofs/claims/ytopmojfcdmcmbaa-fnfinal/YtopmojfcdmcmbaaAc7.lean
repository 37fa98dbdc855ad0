/- An account at a node: the contracts of slices.IndexFunc, Grow and Concat at ints, of impl.putBefore[int] and of AcctMark's closure. -/
import Derived.Test.YtopmojfcdmcmbaaAc3
import Derived.Test.YtopmojfcdmcmbaaSSame
import Derived.Lib.AppendZeros
import Derived.Deep.RegionWith
import Derived.Shelf.Abstract
namespace Go.Proofs.Ytopmojfcdmcmbaa
open Go.RowKit
set_option linter.unusedVariables false

section
variable {α : Type} {p : α → Bool}
/-- where the first element stands that p does not hold of -/
def placeP (p : α → Bool) (l : List α) : Nat := (l.takeWhile p).length
theorem place_le : ∀ (l : List α), placeP p l ≤ l.length := fun l => by
  unfold placeP
  have := congrArg List.length (List.takeWhile_append_dropWhile (p := p) (l := l))
  simp only [List.length_append] at this
  omega
theorem place_take : ∀ (l : List α), l.takeWhile p = l.take (placeP p l) ∧ l.dropWhile p = l.drop (placeP p l)
  | [] => ⟨rfl, rfl⟩
  | b :: t => by
    have ih := place_take t
    unfold placeP at ih ⊢
    by_cases hb : p b = true
    · simp only [List.takeWhile_cons, List.dropWhile_cons, hb, if_true, List.length_cons, List.take_succ_cons, List.drop_succ_cons]
      exact ⟨by rw [← ih.1], ih.2⟩
    · simp [hb]
theorem place_hit : ∀ {l : List α} {k : Nat} {y : α}, l[k]? = some y → (l.take k).all p = true → p y = false → placeP p l = k
  | [], _, _, hx, _, _ => by simp at hx
  | b :: t, 0, y, hx, _, hy => by
    simp only [List.getElem?_cons_zero, Option.some.injEq] at hx
    subst hx
    unfold placeP
    simp [hy]
  | b :: t, k + 1, y, hx, h, hy => by
    rw [List.take_succ_cons, List.all_cons, Bool.and_eq_true] at h
    have ih := place_hit (l := t) (by simpa using hx) h.2 hy
    unfold placeP at ih ⊢
    simp [h.1, ih]
theorem tw_all : ∀ {l : List α}, l.all p = true → l.takeWhile p = l
  | [], _ => rfl
  | b :: t, h => by
    rw [List.all_cons, Bool.and_eq_true] at h
    simp [h.1, tw_all h.2]
theorem place_all {l : List α} (h : l.all p = true) : placeP p l = l.length := by
  unfold placeP
  rw [tw_all h]
theorem all_take_snoc {l : List α} {k : Nat} {y : α} (h : (l.take k).all p = true) (hx : l[k]? = some y) (hy : p y = true) : (l.take (k + 1)).all p = true := by
  rw [List.take_add_one, hx, List.all_append, h]
  simpa using hy
/-- what IndexFunc answers -/
def idxP (p : α → Bool) (l : List α) : Int := if placeP p l = l.length then -1 else (placeP p l : Int)
end

def leI (x : Int) (y : Int) : Bool := decide (y ≤ x)
theorem insF_place (l : List Int) (x : Int) : insF l x = l.take (placeP (leI x) l) ++ [x] ++ l.drop (placeP (leI x) l) := by
  obtain ⟨h1, h2⟩ := place_take (p := leI x) l
  rw [← h1, ← h2]; rfl

theorem iMarkGt_any {x y : Int} {B : Nat} {W : World} (hc : W.cell? ⟨B, 0, none⟩ = some (.int .i64 x)) : Calls Try.prog 48 #[.int .i64 y, .pointer (some ⟨B, 0, none⟩)] W fun e w' => e = .returned (.bool (decide (x < y))) ∧ W = w' := by
  go_enter Try.func48, Try.ntmps48
  go_wp2
  go_ret
  exact ⟨rfl, rfl⟩

set_option maxHeartbeats 1000000 in
theorem iIdxI_c {w : World} {v : Value} {l : List Int} {x : Int} {B : Nat} (h : RS .i64 w v l) (hc : w.cell? ⟨B, 0, none⟩ = some (.int .i64 x)) :
    Calls Try.prog 76 #[v, .func (.func 48) #[] #[.pointer (some ⟨B, 0, none⟩)]] w fun e w' => e = .returned (.int .i64 (idxP (leI x) l)) ∧ w = w' := by
  obtain ⟨A, c, rfl, h1, h2, hr⟩ := h
  unfold maxLen at h2
  have eg : ∀ args w, (callFunc 48 args).run Try.prog w = .ok (.enter 48 args) w := enters_of Try.func48 (by kernel_rfl) rfl
  go_enter Try.func76, Try.ntmps76
  go_wp2
  go_loop [5, 8] (fun _ s8 => ∃ k : Nat, k ≤ l.length ∧ s8 = .int .i64 k ∧ Hid ((l.take k).all (leI x) = true)) (fun _ s8 => l.length - (intOf s8).toNat)
  case atStart => exact ⟨0, Nat.zero_le _, rfl, rfl⟩
  case round =>
    obtain ⟨k, hk, rfl, HT⟩ := hrel
    by_cases hlt : k < l.length
    case neg =>
      have hk2 : ¬ ((k : Int) < (l.length : Int)) := by omega
      have HO : Hid (idxP (leI x) l = -1) := by
        show _ = _
        have := HT.out
        rw [List.take_of_length_le (by omega)] at this
        unfold idxP
        rw [if_pos (place_all this)]
      go_wp2
      go_ret
      exact ⟨ret_eq (by rw [HO.out]; rfl), rfl⟩
    obtain ⟨y, hye⟩ := get_of_lt hlt
    obtain ⟨b, off, rfl, hb, e0⟩ := rd_at hr hlt
    rw [show l.getD k 0 = y by rw [List.getD_eq_getElem?_getD, hye]; rfl] at e0
    have i1 : (k : Int) < (l.length : Int) := by omega
    by_cases hy : y ≤ x
    case pos =>
      have HD : Hid (decide (x < y) = false) := decide_eq_false (by omega)
      have H2 : Hid ((l.take (k + 1)).all (leI x) = true) := all_take_snoc HT.out hye (decide_eq_true hy)
      clear hy hye
      go_wp2_with fail
      refine (iMarkGt_any hc).mono ?_
      rintro e w' ⟨rfl, rfl⟩
      rw [HD.out]
      go_wp2
      go_round
      case rel => exact ⟨k + 1, by omega, by go_num, H2⟩
      case measure => simp [intOf]; omega
    have HD : Hid (decide (x < y) = true) := decide_eq_true (by omega)
    have HO : Hid (idxP (leI x) l = (k : Int)) := by
      show _ = _
      have hp := place_hit hye HT.out (decide_eq_false hy)
      unfold idxP
      rw [hp, if_neg (by omega)]
    clear hy hye
    go_wp2_with fail
    refine (iMarkGt_any hc).mono ?_
    rintro e w' ⟨rfl, rfl⟩
    rw [HD.out]
    go_wp2
    go_ret
    exact ⟨ret_eq (by rw [HO.out]; rfl), rfl⟩

theorem iGrowI_c {w : World} {n : Nat} (hn : 1 ≤ n ∧ n ≤ 1073741824) : Calls Try.prog 86 #[.slice none 0 0, .int .i64 n] w fun e w' => ∃ G, e = .returned (.slice (some ⟨w.heap.size, 0, none⟩) 0 G) ∧ Own .i64 w' w.heap.size 3 (.slice (some ⟨w.heap.size, 0, none⟩) 0 G) [] ∧ Below w.heap.size w w' := by
  obtain ⟨i0, hi, hz0, hz1, hz2⟩ := info_parts Try.info_i64
  obtain ⟨G, hG⟩ : ∃ G, G = grownCap w n 0 3 := ⟨_, rfl⟩
  obtain ⟨R, hR⟩ : ∃ R : Array Value, R = Builtin.zeroCells (Value.int .i64 0).cells n ++ Builtin.zeroCells (Value.int .i64 0).cells (G - n) := ⟨_, rfl⟩
  have hrz : ∀ ty, (Builtin.append_ #[24, 3] ty #[.slice none 0 0, .int .i64 n]).run Try.prog w = .ok (.slice (some ⟨w.heap.size, 0, none⟩) n G) (w.drew.alloc (.cells R 3)) := fun ty => by
    have h := Lib.run_append_nil_zeros w 24 3 ty 3 i0 _ .i64 .i64 Try.underlying24 Try.underlying3 hi hz0 n (by omega) (by omega) (by omega) (by rw [hz2]; omega)
    rw [← hG] at h
    rw [hR]; exact h
  have hGn : n ≤ G := by rw [hG]; exact grownCap_ge w _ _ _
  have hGm : G ≤ maxLen := by rw [hG]; exact grownCap_le_maxLen w n 0 3 (by unfold maxLen; omega)
  have lR : R.size = G := by rw [hR]; simp [Builtin.zeroCells, Value.cells]; omega
  have hFin : Own .i64 (w.drew.alloc (.cells R 3)) w.heap.size 3 (.slice (some ⟨w.heap.size, 0, none⟩) 0 G) [] :=
    ⟨by simp, .inr ⟨w.heap.size, G, R, rfl, Nat.le_refl _, heap_alloc_new w.drew _, Nat.zero_le _, hGm, by simp [lR], by simp⟩⟩
  have hG0 : ¬ (G = 0) := by omega
  have hn1 : (0 : Int) < (n : Int) := by omega
  clear hR hG lR hGm
  go_enter Try.func86, Try.ntmps86
  go_wp2_with (at_builtin; refine Lib.wpList_append_run _ rfl _ _ _ _ rfl _ _ rfl rfl _ _ (hrz _) ?_)
  go_ret
  exact ⟨G, rfl, hFin, ((Below.refl w.heap.size w).drew).alloc (Nat.le_refl _) _⟩

def catLen (l0 l1 l2 : List Int) : Nat → Nat
  | 0 => 0
  | 1 => l0.length
  | 2 => l0.length + l1.length
  | _ => l0.length + l1.length + l2.length
def catL {α : Type} (l0 l1 l2 : List α) : Nat → List α
  | 0 => []
  | 1 => l0
  | 2 => l0 ++ l1
  | _ => l0 ++ l1 ++ l2

set_option maxRecDepth 100000 in
set_option maxHeartbeats 2000000 in
theorem iConcatI_c {w : World} {blk : Nat} {v0 v1 v2 : Value} {l0 l1 l2 : List Int} (hb : Vr w blk 24 [v0, v1, v2]) (h0 : RS .i64 w v0 l0) (h1 : RS .i64 w v1 l1) (h2 : RS .i64 w v2 l2) (hm : l0.length + l1.length + l2.length ≤ 16777217) (hp : 1 ≤ l1.length) :
    Calls Try.prog 77 #[.slice (some ⟨blk, 0, none⟩) 3 3] w (NewS .i64 3 w (l0 ++ l1 ++ l2)) := by
  obtain ⟨i0, hi, hz0, hz1, hz2⟩ := info_parts Try.info_i64
  have r0 := h0; have r1 := h1; have r2 := h2
  obtain ⟨A0, c0, rfl, -, -, -⟩ := h0
  obtain ⟨A1, c1, rfl, -, -, -⟩ := h1
  obtain ⟨A2, c2, rfl, -, -, -⟩ := h2
  have k0 := hb.cell (i := 0) rfl
  have k1 := hb.cell (i := 1) rfl
  have k2 := hb.cell (i := 2) rfl
  go_enter Try.func77, Try.ntmps77
  go_wp2
  go_loop [3, 5, 11] (fun s3 _ i => ∃ k : Nat, k ≤ 3 ∧ i = .int .i64 k ∧ s3 = .int .i64 (catLen l0 l1 l2 k : Nat)) (fun _ _ i => 3 - (intOf i).toNat)
  case atStart => exact ⟨0, by omega, rfl, rfl⟩
  case round =>
    obtain ⟨k, hk, rfl, rfl⟩ := hrel
    rcases (show k = 0 ∨ k = 1 ∨ k = 2 ∨ k = 3 by omega) with rfl | rfl | rfl | rfl
    · rw [show catLen l0 l1 l2 0 = 0 from rfl]
      go_wp2
      go_round
      case rel => exact ⟨1, by omega, by go_num, by rw [show catLen l0 l1 l2 1 = l0.length from rfl]; first | done | go_num⟩
      case measure => simp [intOf]
    · rw [show catLen l0 l1 l2 1 = l0.length from rfl]
      go_wp2
      go_round
      case rel => exact ⟨2, by omega, by go_num, by rw [show catLen l0 l1 l2 2 = l0.length + l1.length from rfl]; first | done | go_num⟩
      case measure => simp [intOf]
    · rw [show catLen l0 l1 l2 2 = l0.length + l1.length from rfl]
      go_wp2
      go_round
      case rel => exact ⟨3, by omega, by go_num, by rw [show catLen l0 l1 l2 3 = l0.length + l1.length + l2.length from rfl]; first | done | go_num⟩
      case measure => simp [intOf]
    · rw [show catLen l0 l1 l2 3 = l0.length + l1.length + l2.length from rfl]
      obtain ⟨N, hN⟩ : ∃ N, l0.length + l1.length + l2.length = N := ⟨_, rfl⟩
      have hm9 := hm
      rw [hN] at hm ⊢
      have hN1 : 1 ≤ N := by omega
      clear hN
      go_wp2_with fail
      refine (iGrowI_c ⟨hN1, by omega⟩).mono ?_
      rintro e w1 ⟨G, rfl, own1, B1⟩
      clear k0 k1 k2
      go_wp2
      go_loopw [6, 8, 27] (fun s6 _ i wr => ∃ (k : Nat) (g : List Int), k ≤ 3 ∧ i = .int .i64 k ∧ Hid (g = catL l0 l1 l2 k) ∧ g.length ≤ 16777217 ∧ Own .i64 wr w.heap.size 3 s6 g ∧ Below w.heap.size w wr) (fun _ _ i _ => 3 - (intOf i).toNat)
      case atStart => exact ⟨0, [], by omega, rfl, rfl, by simp, own1, B1⟩
      case round =>
        clear own1 B1
        obtain ⟨k, g, hk, rfl, HG, lg, hown, HB⟩ := hrel
        have hs := HB.size
        have hbr := hb.below HB hb.lt
        have k0 := hbr.cell (i := 0) rfl
        have k1 := hbr.cell (i := 1) rfl
        have k2 := hbr.cell (i := 2) rfl
        rcases (show k = 0 ∨ k = 1 ∨ k = 2 ∨ k = 3 by omega) with rfl | rfl | rfl | rfl
        · have q := (r0.from_ HB).rd_
          have HG2 : Hid (g ++ l0 = catL l0 l1 l2 1) := by show _ = _; rw [HG.out]; rfl
          have lg2 : (g ++ l0).length ≤ 16777217 := by rw [HG.out]; simp [catL]; omega
          go_wp2_with (at_builtin; refine wpl_appI _ .i64 rfl (.tmp 31) (.tmp 32) 24 rfl w.heap.size 3 i0 8 Try.underlying24 hi hz0 hz1 hz2 _ g rfl hown _ A0 c0 l0.length l0 rfl rfl q ?d1 (by omega) ?d2 ?_)
          case d1 => omega
          case d2 => omega
          intro v4 w4 ho4 hg4 hat4
          have hb6 := grown_below HB hown hg4 (Nat.le_refl _) hs
          clear hg4 hat4 hown q
          go_wp2
          go_roundw
          case rel => exact ⟨1, _, by omega, by go_num, HG2, lg2, ho4, hb6⟩
          case measure => simp [intOf]
        · have q := (r1.from_ HB).rd_
          have HG2 : Hid (g ++ l1 = catL l0 l1 l2 2) := by show _ = _; rw [HG.out]; rfl
          have lg2 : (g ++ l1).length ≤ 16777217 := by rw [HG.out]; simp [catL]; omega
          go_wp2_with (at_builtin; refine wpl_appI _ .i64 rfl (.tmp 31) (.tmp 32) 24 rfl w.heap.size 3 i0 8 Try.underlying24 hi hz0 hz1 hz2 _ g rfl hown _ A1 c1 l1.length l1 rfl rfl q ?d3 (by omega) ?d4 ?_)
          case d3 => omega
          case d4 => omega
          intro v4 w4 ho4 hg4 hat4
          have hb6 := grown_below HB hown hg4 (Nat.le_refl _) hs
          clear hg4 hat4 hown q
          go_wp2
          go_roundw
          case rel => exact ⟨2, _, by omega, by go_num, HG2, lg2, ho4, hb6⟩
          case measure => simp [intOf]
        · have q := (r2.from_ HB).rd_
          have HG2 : Hid (g ++ l2 = catL l0 l1 l2 3) := by show _ = _; rw [HG.out]; rfl
          have lg2 : (g ++ l2).length ≤ 16777217 := by rw [HG.out]; simp [catL]; omega
          go_wp2_with (at_builtin; refine wpl_appI _ .i64 rfl (.tmp 31) (.tmp 32) 24 rfl w.heap.size 3 i0 8 Try.underlying24 hi hz0 hz1 hz2 _ g rfl hown _ A2 c2 l2.length l2 rfl rfl q ?d5 (by omega) ?d6 ?_)
          case d5 => omega
          case d6 => omega
          intro v4 w4 ho4 hg4 hat4
          have hb6 := grown_below HB hown hg4 (Nat.le_refl _) hs
          clear hg4 hat4 hown q
          go_wp2
          go_roundw
          case rel => exact ⟨3, _, by omega, by go_num, HG2, lg2, ho4, hb6⟩
          case measure => simp [intOf]
        · have HO : Hid (l0 ++ l1 ++ l2 = g) := by show _ = _; rw [HG.out]; rfl
          go_wp2
          go_ret
          rw [HO.out]
          exact ⟨_, rfl, OS.mk_ hown, HB⟩

end Go.Proofs.Ytopmojfcdmcmbaa
