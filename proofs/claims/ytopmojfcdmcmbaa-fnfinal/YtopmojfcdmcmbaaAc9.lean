/- An account at a node: the contracts of slices.IndexFunc, Grow and Concat at reports, of impl.putBefore[impl.Rep] and of AcctRep's closure. -/
import Derived.Test.YtopmojfcdmcmbaaAc8
import Derived.Test.YtopmojfcdmcmbaaAc1
namespace Go.Proofs.Ytopmojfcdmcmbaa
open Go.RowKit
set_option linter.unusedVariables false

def leR (x : Int) (y : MRep) : Bool := decide (y.Node ≤ x)
theorem insR_place (l : List MRep) (x : MRep) : insR l x = l.take (placeP (leR x.Node) l) ++ [x] ++ l.drop (placeP (leR x.Node) l) := by
  obtain ⟨h1, h2⟩ := place_take (p := leR x.Node) l
  rw [← h1, ← h2]; rfl

theorem iRepGt_any {d : Int} {y : MRep} {B : Nat} {W : World} (hc : W.cell? ⟨B, 0, none⟩ = some (.int .i64 d)) : Calls Try.prog 44 #[.agg #[.int .i64 y.Node, .int .i64 y.Amt], .pointer (some ⟨B, 0, none⟩)] W fun e w' => e = .returned (.bool (decide (d < y.Node))) ∧ Below W.heap.size W w' := by
  obtain ⟨wa, hwa, B0, sa, x_r⟩ := frame1 W 57 [.int .i64 y.Node, .int .i64 y.Amt]
  have hB := lt_of_cell hc
  have c0 := (B0.cell (p := ⟨B, 0, none⟩) hB).trans hc
  have c_r_0 := x_r.cell (i := 0) rfl
  have c_r_1 := x_r.cell (i := 1) rfl
  clear sa
  go_enter Try.func44, Try.ntmps44
  go_wp2
  go_ret
  exact ⟨rfl, B0⟩

set_option maxHeartbeats 1000000 in
theorem iIdxR_c {w : World} {v : Value} {l : List MRep} {d : Int} {B : Nat} (h : RV repSL w v l) (hc : w.cell? ⟨B, 0, none⟩ = some (.int .i64 d)) :
    Calls Try.prog 73 #[v, .func (.func 44) #[] #[.pointer (some ⟨B, 0, none⟩)]] w fun e w' => e = .returned (.int .i64 (idxP (leR d) l)) ∧ Below w.heap.size w w' := by
  obtain ⟨A, c, rfl, h1, h2, hr⟩ := rv_slice h
  clear h
  unfold maxLen at h2
  have hB := lt_of_cell hc
  have eg : ∀ args w, (callFunc 44 args).run Try.prog w = .ok (.enter 44 args) w := enters_of Try.func44 (by kernel_rfl) rfl
  go_enter Try.func73, Try.ntmps73
  go_wp2
  go_loopw [5, 8] (fun _ s8 wr => ∃ k : Nat, k ≤ l.length ∧ s8 = .int .i64 k ∧ Hid ((l.take k).all (leR d) = true) ∧ Below w.heap.size w wr) (fun _ s8 _ => l.length - (intOf s8).toNat)
  case atStart => exact ⟨0, Nat.zero_le _, rfl, rfl, Below.refl _ _⟩
  case round =>
    obtain ⟨k, hk, rfl, HT, HB⟩ := hrel
    have hs := HB.size
    by_cases hlt : k < l.length
    case neg =>
      have hk2 : ¬ ((k : Int) < (l.length : Int)) := by omega
      have HO : Hid (idxP (leR d) l = -1) := by
        show _ = _
        have := HT.out
        rw [List.take_of_length_le (by omega)] at this
        unfold idxP
        rw [if_pos (place_all this)]
      go_wp2
      go_ret
      exact ⟨ret_eq (by rw [HO.out]; rfl), HB⟩
    obtain ⟨y, hye⟩ := get_of_lt hlt
    obtain ⟨b, off, rfl, hb, e0, e1⟩ := el_rep (hr.below HB) hye
    have i1 : (k : Int) < (l.length : Int) := by omega
    have hcr := (HB.cell (p := ⟨B, 0, none⟩) hB).trans hc
    by_cases hy : y.Node ≤ d
    case pos =>
      have HD : Hid (decide (d < y.Node) = false) := decide_eq_false (by omega)
      have H2 : Hid ((l.take (k + 1)).all (leR d) = true) := all_take_snoc HT.out hye (decide_eq_true hy)
      clear hy hye
      go_wp2_with fail
      refine (iRepGt_any hcr).mono ?_
      rintro e w1 ⟨rfl, b1⟩
      have B1 := HB.trans (b1.mono HB.size)
      rw [HD.out]
      go_wp2
      go_roundw
      case rel => exact ⟨k + 1, by omega, by go_num, H2, B1⟩
      case measure => simp [intOf]; omega
    have HD : Hid (decide (d < y.Node) = true) := decide_eq_true (by omega)
    have HO : Hid (idxP (leR d) l = (k : Int)) := by
      show _ = _
      have hp := place_hit hye HT.out (decide_eq_false hy)
      unfold idxP
      rw [hp, if_neg (by omega)]
    clear hy hye
    go_wp2_with fail
    refine (iRepGt_any hcr).mono ?_
    rintro e w1 ⟨rfl, b1⟩
    have B1 := HB.trans (b1.mono HB.size)
    rw [HD.out]
    go_wp2
    go_ret
    exact ⟨ret_eq (by rw [HO.out]; rfl), B1⟩

theorem iGrowR_c {w : World} {n : Nat} (hn : 1 ≤ n ∧ n ≤ 67108864) : Calls Try.prog 85 #[.slice none 0 0, .int .i64 n] w fun e w' => ∃ G, e = .returned (.slice (some ⟨w.heap.size, 0, none⟩) 0 G) ∧ OV repSL w' w.heap.size w'.heap.size (.slice (some ⟨w.heap.size, 0, none⟩) 0 G) [] ∧ Below w.heap.size w w' := by
  obtain ⟨i0, hi, hz0, hz1, hz2⟩ := info_parts Try.info_rep
  obtain ⟨G, hG⟩ : ∃ G, G = grownCap w n 0 57 := ⟨_, rfl⟩
  obtain ⟨R, hR⟩ : ∃ R : Array Value, R = Builtin.zeroCells (Value.agg #[.int .i64 0, .int .i64 0]).cells n ++ Builtin.zeroCells (Value.agg #[.int .i64 0, .int .i64 0]).cells (G - n) := ⟨_, rfl⟩
  have hrz : ∀ ty, (Builtin.append_ #[25, 3] ty #[.slice none 0 0, .int .i64 n]).run Try.prog w = .ok (.slice (some ⟨w.heap.size, 0, none⟩) n G) (w.drew.alloc (.cells R 57)) := fun ty => by
    have h := Lib.run_append_nil_zeros w 25 3 ty 57 i0 _ .i64 .i64 Try.underlying25 Try.underlying3 hi hz0 n (by omega) (by omega) (by omega) (by rw [hz2]; omega)
    rw [← hG] at h
    rw [hR]; exact h
  have hGn : n ≤ G := by rw [hG]; exact grownCap_ge w _ _ _
  have hGm : G ≤ maxLen := by rw [hG]; exact grownCap_le_maxLen w n 0 57 (by unfold maxLen; omega)
  have lR : R.size = G * 2 := by rw [hR]; simp [Builtin.zeroCells, Value.cells]; omega
  have hOwn : (w.drew.alloc (.cells R 57)).ownsRow 0 57 2 (.slice (some ⟨w.heap.size, 0, none⟩) 0 G) 0 [] :=
    ⟨by simp, .inr ⟨w.heap.size, G, R, rfl, Nat.zero_le _, heap_alloc_new w.drew _, Nat.zero_le _, hGm, lR, by simp⟩⟩
  have hsz : (w.drew.alloc (.cells R 57)).heap.size = w.heap.size + 1 := by simp
  have hFin : OV repSL (w.drew.alloc (.cells R 57)) w.heap.size (w.drew.alloc (.cells R 57)).heap.size (.slice (some ⟨w.heap.size, 0, none⟩) 0 G) [] := by
    refine ⟨[_], [w.heap.size], rfl, ⟨_, rfl, fun _ => [], fun _ => [], by simpa [flat] using hOwn, fun j x hx => by simp at hx, by simp [Value.ownBlock, flat]⟩, by simp, ?_, Nat.le_refl _⟩
    intro j hj
    obtain rfl : j = w.heap.size := by simpa using hj
    rw [hsz]; omega
  have hG0 : ¬ (G = 0) := by omega
  have hn1 : (0 : Int) < (n : Int) := by omega
  clear hR hG lR hGm hsz hOwn
  go_enter Try.func85, Try.ntmps85
  go_wp2_with (at_builtin; refine Lib.wpList_append_run _ rfl _ _ _ _ rfl _ _ rfl rfl _ _ (hrz _) ?_)
  go_ret
  exact ⟨G, rfl, hFin, ((Below.refl w.heap.size w).drew).alloc (Nat.le_refl _) _⟩

def catLenR (l0 l1 l2 : List MRep) : Nat → Nat
  | 0 => 0
  | 1 => l0.length
  | 2 => l0.length + l1.length
  | _ => l0.length + l1.length + l2.length

set_option maxRecDepth 100000 in
set_option maxHeartbeats 2000000 in
theorem iConcatR_c {w : World} {blk : Nat} {v0 v1 v2 : Value} {l0 l1 l2 : List MRep} (hb : Vr w blk 25 [v0, v1, v2]) (h0 : RV repSL w v0 l0) (h1 : RV repSL w v1 l1) (h2 : RV repSL w v2 l2) (hm : l0.length + l1.length + l2.length ≤ 16777217) (hp : 1 ≤ l1.length) :
    Calls Try.prog 74 #[.slice (some ⟨blk, 0, none⟩) 3 3] w (NewV repSL w (l0 ++ l1 ++ l2)) := by
  obtain ⟨i0, hi, hz0, hz1, hz2⟩ := info_parts Try.info_rep
  obtain ⟨A0, c0, rfl, -, -, r0⟩ := rv_slice h0
  obtain ⟨A1, c1, rfl, -, -, r1⟩ := rv_slice h1
  obtain ⟨A2, c2, rfl, -, -, r2⟩ := rv_slice h2
  clear h0 h1 h2
  have k0 := hb.cell (i := 0) rfl
  have k1 := hb.cell (i := 1) rfl
  have k2 := hb.cell (i := 2) rfl
  go_enter Try.func74, Try.ntmps74
  go_wp2
  go_loop [3, 5, 11] (fun s3 _ i => ∃ k : Nat, k ≤ 3 ∧ i = .int .i64 k ∧ s3 = .int .i64 (catLenR l0 l1 l2 k : Nat)) (fun _ _ i => 3 - (intOf i).toNat)
  case atStart => exact ⟨0, by omega, rfl, rfl⟩
  case round =>
    obtain ⟨k, hk, rfl, rfl⟩ := hrel
    rcases (show k = 0 ∨ k = 1 ∨ k = 2 ∨ k = 3 by omega) with rfl | rfl | rfl | rfl
    · rw [show catLenR l0 l1 l2 0 = 0 from rfl]
      go_wp2
      go_round
      case rel => exact ⟨1, by omega, by go_num, by rw [show catLenR l0 l1 l2 1 = l0.length from rfl]; first | done | go_num⟩
      case measure => simp [intOf]
    · rw [show catLenR l0 l1 l2 1 = l0.length from rfl]
      go_wp2
      go_round
      case rel => exact ⟨2, by omega, by go_num, by rw [show catLenR l0 l1 l2 2 = l0.length + l1.length from rfl]; first | done | go_num⟩
      case measure => simp [intOf]
    · rw [show catLenR l0 l1 l2 2 = l0.length + l1.length from rfl]
      go_wp2
      go_round
      case rel => exact ⟨3, by omega, by go_num, by rw [show catLenR l0 l1 l2 3 = l0.length + l1.length + l2.length from rfl]; first | done | go_num⟩
      case measure => simp [intOf]
    · rw [show catLenR l0 l1 l2 3 = l0.length + l1.length + l2.length from rfl]
      obtain ⟨N, hN⟩ : ∃ N, l0.length + l1.length + l2.length = N := ⟨_, rfl⟩
      have hm9 := hm
      rw [hN] at hm ⊢
      have hN1 : 1 ≤ N := by omega
      clear hN
      go_wp2_with fail
      refine (iGrowR_c ⟨hN1, by omega⟩).mono ?_
      rintro e w1 ⟨G, rfl, own1, B1⟩
      clear k0 k1 k2
      go_wp2
      go_loopw [6, 8, 27] (fun s6 _ i wr => ∃ (k : Nat) (g : List MRep) (AG : Option Addr) (cG : Nat), k ≤ 3 ∧ i = .int .i64 k ∧ s6 = .slice AG g.length cG ∧ Hid (g = catL l0 l1 l2 k) ∧ g.length ≤ 16777217 ∧ OV repSL wr w.heap.size wr.heap.size (.slice AG g.length cG) g ∧ Below w.heap.size w wr) (fun _ _ i _ => 3 - (intOf i).toNat)
      case atStart => exact ⟨0, [], _, _, by omega, rfl, rfl, rfl, by simp, own1, B1⟩
      case round =>
        clear own1 B1
        obtain ⟨k, g, AG, cG, hk, rfl, rfl, HG, lg, hown, HB⟩ := hrel
        have hs := HB.size
        have hbr := hb.below HB hb.lt
        have k0 := hbr.cell (i := 0) rfl
        have k1 := hbr.cell (i := 1) rfl
        have k2 := hbr.cell (i := 2) rfl
        rcases (show k = 0 ∨ k = 1 ∨ k = 2 ∨ k = 3 by omega) with rfl | rfl | rfl | rfl
        · obtain ⟨zs, us, R, hul, hrd, hus, hend⟩ := OV.app_all own_rep_nil rep_own_of_rd hown (r0.below HB) hs
          have h1c := rep_one hus
          clear hus
          have HG2 : Hid (g ++ l0 = catL l0 l1 l2 1) := by show _ = _; rw [HG.out]; rfl
          have lg2 : (g ++ l0).length ≤ 16777217 := by rw [HG.out]; simp [catL]; omega
          go_wp2_with (at_builtin; refine wpl_appN _ rfl (.tmp 31) (.tmp 32) 25 rfl 0 2 57 i0 (.agg #[.int .i64 0, .int .i64 0]) 16 Try.underlying25 hi hz0 hz1 hz2 rfl (by decide) _ g.length zs rfl R _ _ _ l0.length us rfl hul hrd h1c ?d1 (by decide) (Nat.zero_le _) ?_)
          case d1 => omega
          intro v4 w4 ho4 hg4 hat4
          obtain ⟨o4, b4⟩ := hend v4 w4 ho4 hg4 hat4
          clear hend R hul hrd h1c ho4 hg4 hat4 hown
          have hb6 := HB.trans b4
          obtain ⟨L, hL⟩ : ∃ L, g ++ l0 = L := ⟨_, rfl⟩
          rw [hL] at o4 HG2 lg2
          clear hL
          obtain ⟨A4, c4, rfl, -, -, -⟩ := rv_slice o4.rd
          go_wp2
          go_roundw
          case rel => exact ⟨1, L, _, _, by omega, by go_num, rfl, HG2, lg2, o4, hb6⟩
          case measure => simp [intOf]
        · obtain ⟨zs, us, R, hul, hrd, hus, hend⟩ := OV.app_all own_rep_nil rep_own_of_rd hown (r1.below HB) hs
          have h1c := rep_one hus
          clear hus
          have HG2 : Hid (g ++ l1 = catL l0 l1 l2 2) := by show _ = _; rw [HG.out]; rfl
          have lg2 : (g ++ l1).length ≤ 16777217 := by rw [HG.out]; simp [catL]; omega
          go_wp2_with (at_builtin; refine wpl_appN _ rfl (.tmp 31) (.tmp 32) 25 rfl 0 2 57 i0 (.agg #[.int .i64 0, .int .i64 0]) 16 Try.underlying25 hi hz0 hz1 hz2 rfl (by decide) _ g.length zs rfl R _ _ _ l1.length us rfl hul hrd h1c ?d2 (by decide) (Nat.zero_le _) ?_)
          case d2 => omega
          intro v4 w4 ho4 hg4 hat4
          obtain ⟨o4, b4⟩ := hend v4 w4 ho4 hg4 hat4
          clear hend R hul hrd h1c ho4 hg4 hat4 hown
          have hb6 := HB.trans b4
          obtain ⟨L, hL⟩ : ∃ L, g ++ l1 = L := ⟨_, rfl⟩
          rw [hL] at o4 HG2 lg2
          clear hL
          obtain ⟨A4, c4, rfl, -, -, -⟩ := rv_slice o4.rd
          go_wp2
          go_roundw
          case rel => exact ⟨2, L, _, _, by omega, by go_num, rfl, HG2, lg2, o4, hb6⟩
          case measure => simp [intOf]
        · obtain ⟨zs, us, R, hul, hrd, hus, hend⟩ := OV.app_all own_rep_nil rep_own_of_rd hown (r2.below HB) hs
          have h1c := rep_one hus
          clear hus
          have HG2 : Hid (g ++ l2 = catL l0 l1 l2 3) := by show _ = _; rw [HG.out]; rfl
          have lg2 : (g ++ l2).length ≤ 16777217 := by rw [HG.out]; simp [catL]; omega
          go_wp2_with (at_builtin; refine wpl_appN _ rfl (.tmp 31) (.tmp 32) 25 rfl 0 2 57 i0 (.agg #[.int .i64 0, .int .i64 0]) 16 Try.underlying25 hi hz0 hz1 hz2 rfl (by decide) _ g.length zs rfl R _ _ _ l2.length us rfl hul hrd h1c ?d3 (by decide) (Nat.zero_le _) ?_)
          case d3 => omega
          intro v4 w4 ho4 hg4 hat4
          obtain ⟨o4, b4⟩ := hend v4 w4 ho4 hg4 hat4
          clear hend R hul hrd h1c ho4 hg4 hat4 hown
          have hb6 := HB.trans b4
          obtain ⟨L, hL⟩ : ∃ L, g ++ l2 = L := ⟨_, rfl⟩
          rw [hL] at o4 HG2 lg2
          clear hL
          obtain ⟨A4, c4, rfl, -, -, -⟩ := rv_slice o4.rd
          go_wp2
          go_roundw
          case rel => exact ⟨3, L, _, _, by omega, by go_num, rfl, HG2, lg2, o4, hb6⟩
          case measure => simp [intOf]
        · have HO : Hid (l0 ++ l1 ++ l2 = g) := by show _ = _; rw [HG.out]; rfl
          go_wp2
          go_ret
          rw [HO.out]
          exact ⟨_, rfl, hown, HB⟩

theorem rvr_take {w : World} {A : Option Addr} {c p : Nat} {l : List MRep} (h : RV repSL w (.slice A l.length c) l) (hp : p ≤ l.length) (X : Option Addr) (hX : 0 < p → X = A) : RV repSL w (.slice X p c) (l.take p) := by
  obtain ⟨A', c', he, h1, h2, cf, k1, k2⟩ := rv_slice h
  simp only [Value.slice.injEq, true_and] at he
  obtain ⟨rfl, rfl⟩ := he
  have hl : (l.take p).length = p := by rw [List.length_take]; omega
  refine ⟨[_], rfl, X, c, by rw [hl], by omega, h2, cf, fun j x hx => ?_, fun h0 => ?_⟩
  · rw [List.getElem?_take] at hx
    split at hx
    · exact k1 j x hx
    · cases hx
  · obtain ⟨b, off, rfl, hb, hc⟩ := k2 (by omega)
    exact ⟨b, off, hX (by omega), hb, fun j i u hj hu => hc j i u (by omega) hu⟩
theorem rvr_drop {w : World} {A : Option Addr} {c p : Nat} {l : List MRep} (h : RV repSL w (.slice A l.length c) l) (hp : p ≤ l.length) (X : Option Addr) (hX : ∀ b off, p < l.length → A = some ⟨b, off, none⟩ → X = some ⟨b, off + p * 2, none⟩) : RV repSL w (.slice X (l.length - p) (c - p)) (l.drop p) := by
  obtain ⟨A', c', he, h1, h2, cf, k1, k2⟩ := rv_slice h
  simp only [Value.slice.injEq, true_and] at he
  obtain ⟨rfl, rfl⟩ := he
  unfold maxLen at h2
  have hl : (l.drop p).length = l.length - p := by rw [List.length_drop]
  refine ⟨[_], rfl, X, c - p, by rw [hl], by omega, by unfold maxLen; omega, fun j => cf (p + j), fun j x hx => ?_, fun h0 => ?_⟩
  · rw [List.getElem?_drop] at hx
    exact k1 _ x hx
  · obtain ⟨b, off, rfl, hb, hc⟩ := k2 (by omega)
    refine ⟨b, off + p * 2, hX b off (by omega) rfl, hb, fun j i u hj hu => ?_⟩
    rw [show off + p * 2 + (j * 2 + i) = off + ((p + j) * 2 + i) by omega]
    exact hc (p + j) i u (by omega) hu

theorem rv_reps_mk {w : World} {b : Nat} {t : TypeId} {r : MRep} (h : Vr w b t [.int .i64 r.Node, .int .i64 r.Amt]) : RV repSL w (.slice (some ⟨b, 0, none⟩) 1 1) [r] := by
  refine ⟨[_], rfl, some ⟨b, 0, none⟩, 1, rfl, Nat.le_refl _, by unfold maxLen; omega, fun _ => [.int .i64 r.Node, .int .i64 r.Amt], fun j x hx => ?_, fun h0 => ⟨b, 0, rfl, h.lt, fun j i u hj hu => ?_⟩⟩
  · have hj : j = 0 := by
      rcases Nat.eq_zero_or_pos j with e | e
      · exact e
      · rw [List.getElem?_eq_none (by simp; omega)] at hx; cases hx
    subst hj
    simp only [List.getElem?_cons_zero, Option.some.injEq] at hx
    subst hx
    exact ⟨rfl, (repL.own_rd (own_rep w r)).imp (fun _ h => h)⟩
  · have hj : j = 0 := by simp at hj; omega
    subst hj
    rw [show 0 + (0 * 2 + i) = i by omega]
    exact h.cell hu

set_option maxRecDepth 100000 in
set_option maxHeartbeats 2000000 in
theorem iPutR_c {w : World} {v : Value} {l : List MRep} {r : MRep} {B : Nat} (h : RV repSL w v l) (hm : l.length ≤ 16777216) (hc : w.cell? ⟨B, 0, none⟩ = some (.int .i64 r.Node)) :
    Calls Try.prog 43 #[v, .agg #[.int .i64 r.Node, .int .i64 r.Amt], .func (.func 44) #[] #[.pointer (some ⟨B, 0, none⟩)]] w (NewV repSL w (insR l r)) := by
  have h0 := h
  obtain ⟨A, c, rfl, h1, h2, hr⟩ := rv_slice h
  have hB := lt_of_cell hc
  unfold maxLen at h2
  have HP := Lib.hid (insR_place l r)
  have hple := place_le (p := leR r.Node) l
  obtain ⟨p, hp⟩ : ∃ p, placeP (leR r.Node) l = p := ⟨_, rfl⟩
  have HI : Hid (idxP (leR r.Node) l = if p = l.length then -1 else (p : Int)) := by show _ = _; unfold idxP; rw [hp]
  rw [hp] at hple
  have HPP := Lib.hid hp
  clear hp h
  obtain ⟨X0, hv0, q0⟩ : ∃ X0, (∀ W, (Instr.slice 25 (.slice A l.length c) none (some (.int .i64 p)) none).run Try.prog W = .ok (.slice X0 p c) W) ∧ RV repSL w (.slice X0 p c) (l.take p) := by
    refine ⟨if c = 0 then A else A.map (·.add (0 * 2)), fun W => ?_, rvr_take h0 hple _ (fun hp0 => ?_)⟩
    · rw [run_slice_h W 25 A l.length c (by kernel_rfl) .i64 p (by omega) (by omega)]
      rw [show Try.prog.elem 25 = 57 by kernel_rfl, Try.sizeOf57]
      simp [Result.andThen, sliced]
    · rw [if_neg (by omega)]
      cases A <;> simp [Addr.add]
  obtain ⟨X2, hv2, q2⟩ : ∃ X2, (∀ W, (Instr.slice 25 (.slice A l.length c) (some (.int .i64 p)) none none).run Try.prog W = .ok (.slice X2 (l.length - p) (c - p)) W) ∧ RV repSL w (.slice X2 (l.length - p) (c - p)) (l.drop p) := by
    refine ⟨if c = p then A else A.map (·.add (p * 2)), fun W => ?_, rvr_drop h0 hple _ (fun b off hlt hA => ?_)⟩
    · rw [run_slice_l W 25 A l.length c (by kernel_rfl) .i64 p (by omega) (by omega)]
      rw [show Try.prog.elem 25 = 57 by kernel_rfl, Try.sizeOf57]
      simp [Result.andThen, sliced]
    · rw [if_neg (by omega), hA]
      simp [add_mk]
  have l0 : (l.take p).length + 1 + (l.drop p).length ≤ 16777217 := by simp; omega
  have hgo : ∀ W, Below w.heap.size w W → Calls Try.prog 74 #[.slice (some ⟨W.heap.size + 1, 0, none⟩) 3 3] ((W.alloc (.cells #[.int .i64 r.Node, .int .i64 r.Amt] 57)).alloc (.cells #[.slice X0 p c, .slice (some ⟨W.heap.size, 0, none⟩) 1 1, .slice X2 (l.length - p) (c - p)] 25)) fun e w' => ∃ v, e = .returned v ∧ OV repSL w' w.heap.size w'.heap.size v (insR l r) ∧ Below w.heap.size w w' := fun W hW => by
    obtain ⟨w1, e1, s1, b1, x1⟩ := alloc_step W 57 [.int .i64 r.Node, .int .i64 r.Amt]
    obtain ⟨w2, e2, s2, b2, x2⟩ := alloc_step w1 25 [.slice X0 p c, .slice (some ⟨W.heap.size, 0, none⟩) 1 1, .slice X2 (l.length - p) (c - p)]
    rw [show W.alloc (.cells #[.int .i64 r.Node, .int .i64 r.Amt] 57) = w1 from e1, show w1.alloc (.cells #[.slice X0 p c, .slice (some ⟨W.heap.size, 0, none⟩) 1 1, .slice X2 (l.length - p) (c - p)] 25) = w2 from e2]
    have bb := hW.trans (b1.mono hW.size)
    have bc := bb.trans (b2.mono bb.size)
    rw [s1] at x2
    refine (iConcatR_c x2 (q0.from_ bc) (rv_reps_mk (x1.from_ b2)) (q2.from_ bc) l0 (Nat.le_refl _)).mono ?_
    rintro e w3 ⟨v3, rfl, o3, b3⟩
    rw [HP.out, HPP.out]
    exact ⟨v3, rfl, o3.widen bc.size (Nat.le_refl _) (Nat.le_refl _), bc.trans (b3.mono bc.size)⟩
  clear q0 q2 l0 hr
  obtain ⟨wa, hwa, B0, sa, x_x⟩ := frame1 w 57 [.int .i64 r.Node, .int .i64 r.Amt]
  have hca := (B0.cell (p := ⟨B, 0, none⟩) hB).trans hc
  clear sa
  by_cases hpl : p = l.length
  case pos =>
    have HI2 : Hid (idxP (leR r.Node) l = -1) := by show _ = _; rw [HI.out, if_pos hpl]
    rw [hpl] at hv0
    rw [hpl, Nat.sub_self] at hv2
    rw [hpl, Nat.sub_self] at hgo
    clear hpl
    go_enter Try.func43, Try.ntmps43
    go_wp2_with fail
    refine (iIdxR_c (h0.from_ B0) hca).mono ?_
    rintro e w1 ⟨rfl, b1⟩
    have B1 := B0.trans (b1.mono B0.size)
    have x1 := x_x.from_ b1
    have c0 := x1.cell (i := 0) rfl
    have c1 := x1.cell (i := 1) rfl
    rw [HI2.out]
    go_wp2_with fail
    go_region_with (go_at_call 74; refine (hgo w1.drew B1.drew).mono ?_; rintro e w9 ⟨v9, rfl, o9, b9⟩)
    go_wp2
    go_ret
    exact ⟨_, rfl, o9, b9⟩
  have HI2 : Hid (idxP (leR r.Node) l = (p : Int)) := by show _ = _; rw [HI.out, if_neg hpl]
  have hp0 : decide ((p : Int) < 0) = false := decide_eq_false (by omega)
  clear hpl
  go_enter Try.func43, Try.ntmps43
  go_wp2_with fail
  refine (iIdxR_c (h0.from_ B0) hca).mono ?_
  rintro e w1 ⟨rfl, b1⟩
  have B1 := B0.trans (b1.mono B0.size)
  have x1 := x_x.from_ b1
  have c0 := x1.cell (i := 0) rfl
  have c1 := x1.cell (i := 1) rfl
  rw [HI2.out]
  go_wp2_with fail
  go_region_with (go_at_call 74; refine (hgo w1.drew B1.drew).mono ?_; rintro e w9 ⟨v9, rfl, o9, b9⟩)
  go_wp2
  go_ret
  exact ⟨_, rfl, o9, b9⟩

end Go.Proofs.Ytopmojfcdmcmbaa
