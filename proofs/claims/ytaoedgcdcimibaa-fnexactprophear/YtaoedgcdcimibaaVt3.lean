/- Votes: the contracts of spec.l07Add, l07Copy, PropNew, PropReady, PropWon. Laid by a program of ours (src/vt3.py). -/
import Derived.Test.YtaoedgcdcimibaaVt2
namespace Go.Proofs.Ytaoedgcdcimibaa
open Go.RowKit
set_option linter.unusedVariables false

def addI (l : List Int) (n : Int) : List Int := l.filter (fun x => decide (x < n)) ++ [n] ++ l.filter (fun x => decide (n < x))
def propZ : MProp := ⟨0, 0, [], 0, []⟩
def propNewB (b u : Int) : Bool := propOkB ⟨b, u, [], 0, []⟩
def propNew (b u : Int) : MProp := if propNewB b u = true then ⟨b, u, [], 0, []⟩ else propZ
def propReadyB (p : MProp) (n : Int) : Bool := propOkB p && isMostB (p.From.length : Int) n
def propWonB (p : MProp) (n : Int) : Bool := propReadyB p n && isMostB (p.Got.length : Int) n
theorem os_nil {w : World} {lo hi : Nat} (h : hi ≤ w.heap.size) : OS .i64 3 w lo hi (.slice none 0 0) [] := ⟨World.ownsRow_nil _ _ _ _, fun j hj => by simp [Value.ownBlock] at hj, h⟩
theorem filter_take_succ {l : List Int} {p : Int → Bool} {k : Nat} {x : Int} (hx : l[k]? = some x) : (l.take (k + 1)).filter p = (l.take k).filter p ++ (if p x = true then [x] else []) := by
  rw [List.take_add_one, hx, List.filter_append]
  simp only [Option.toList_some, List.filter_cons, List.filter_nil]

set_option maxHeartbeats 2000000 in
theorem sAdd_c {w : World} {v : Value} {l : List Int} {n : Int} (h : RS .i64 w v l) (hm : l.length ≤ 16777216) : Calls Try.prog 67 #[v, .int .i64 n] w (NewS .i64 3 w (addI l n)) := by
  obtain ⟨A, c, rfl, h1, h2, hr⟩ := h
  obtain ⟨i0, hi, hz0, hz1, hz2⟩ := info_parts Try.info_i64
  have hb0 : Below w.heap.size w (w.alloc (.cells #[] 3)) := (Below.refl _ _).alloc (Nat.le_refl _) _
  have ho : Own .i64 (w.alloc (.cells #[] 3)) w.heap.size 3 (.slice (some ⟨w.heap.size, 0, none⟩) 0 0) [] := own_none .i64 w w.heap.size 3 (Nat.le_refl _)
  go_enter Try.func67, Try.ntmps67
  go_wp2
  go_loopw [5, 13] (fun s5 j wr => ∃ (k : Nat) (g : List Int), k ≤ l.length ∧ j = .int .i64 k ∧ Hid (g = (l.take k).filter (fun x => decide (x < n))) ∧ g.length ≤ k ∧ Own .i64 wr w.heap.size 3 s5 g ∧ Below w.heap.size w wr) (fun _ j _ => l.length - (intOf j).toNat)
  case atStart => exact ⟨0, [], Nat.zero_le _, rfl, rfl, Nat.le_refl _, ho, hb0⟩
  case round =>
    clear ho hb0
    obtain ⟨k, g, hk, rfl, HG, lg, hown, hbr⟩ := hrel
    have hsz := hbr.size
    by_cases hlt : k < l.length
    case pos =>
      obtain ⟨b, off, rfl, hb, hc⟩ := rdi_at (hr.below hbr) (by omega)
      have hck := hc k hlt
      clear hc
      obtain ⟨x, hxe⟩ : ∃ x, l[k]? = some x := ⟨l[k], List.getElem?_eq_getElem hlt⟩
      rw [show l.getD k 0 = x by rw [List.getD_eq_getElem?_getD, hxe]; rfl] at hck
      have i1 : (k : Int) < (l.length : Int) := by omega
      by_cases hxn : x < n
      case pos =>
        have H2 : Hid (g ++ [x] = (l.take (k + 1)).filter (fun x => decide (x < n))) := by show _ = _; rw [filter_take_succ hxe, HG.out, if_pos (decide_eq_true hxn)]
        have t0 : decide (x < n) = true := decide_eq_true hxn
        clear hxe
        go_wp2_with (at_builtin; refine wpl_appI _ .i64 rfl (.tmp 20) (.tmp 22) 24 rfl w.heap.size 3 i0 8 Try.underlying24 hi hz0 hz1 hz2 _ g rfl (hown.alloc_ _) _ _ _ 1 [x] rfl rfl (rd_one _ _ _ _) ?d1 (by omega) ?d2 ?_)
        case d1 => omega
        case d2 => first | omega | (simp; omega)
        intro v4 w4 ho4 hg4 hat4
        have hb6 : Below w.heap.size w w4 := grown_below (hbr.alloc hbr.size _) (hown.alloc_ _) hg4 (Nat.le_refl _) (by simp; omega)
        clear hg4 hat4 hown
        go_wp2
        go_roundw
        case rel => exact ⟨k + 1, g ++ [x], by omega, by go_num, H2, by simp; omega, ho4, hb6⟩
        case measure => simp [intOf]; omega
      have H2 : Hid (g = (l.take (k + 1)).filter (fun x => decide (x < n))) := by show _ = _; rw [filter_take_succ hxe, HG.out, if_neg (by rw [decide_eq_false hxn]; decide), List.append_nil]
      have t0 : decide (x < n) = false := decide_eq_false hxn
      clear hxe
      go_wp2
      go_roundw
      case rel => exact ⟨k + 1, g, by omega, by go_num, H2, by omega, hown, hbr⟩
      case measure => simp [intOf]; omega
    have hk2 : ¬ ((k : Int) < (l.length : Int)) := by omega
    have HG2 : Hid (g = l.filter (fun x => decide (x < n))) := by show _ = _; rw [HG.out, List.take_of_length_le (by omega)]
    go_wp2_with (at_builtin; refine wpl_appI _ .i64 rfl (.tmp 25) (.tmp 27) 24 rfl w.heap.size 3 i0 8 Try.underlying24 hi hz0 hz1 hz2 _ g rfl (hown.alloc_ _) _ _ _ 1 [n] rfl rfl (rd_one _ _ _ _) ?d1 (by omega) ?d2 ?_)
    case d1 => omega
    case d2 => first | omega | (simp; omega)
    intro v5 w5 ho5 hg5 hat5
    have hb5 : Below w.heap.size w w5 := grown_below (hbr.alloc hbr.size _) (hown.alloc_ _) hg5 (Nat.le_refl _) (by simp; omega)
    clear hg5 hat5 hown
    obtain ⟨G, hG⟩ : ∃ G, g ++ [n] = G := ⟨_, rfl⟩
    have lG : G.length ≤ l.length + 1 := by rw [← hG]; simp; omega
    rw [hG] at ho5
    have HGG := Lib.hid hG
    clear hG
    go_wp2
    go_loopw [5, 31] (fun s5 j wr => ∃ (k : Nat) (q : List Int), k ≤ l.length ∧ j = .int .i64 k ∧ Hid (q = (l.take k).filter (fun x => decide (n < x))) ∧ q.length ≤ k ∧ Own .i64 wr w.heap.size 3 s5 (G ++ q) ∧ Below w.heap.size w wr) (fun _ j _ => l.length - (intOf j).toNat)
    case atStart => exact ⟨0, [], Nat.zero_le _, rfl, rfl, Nat.le_refl _, by simpa using ho5, hb5⟩
    case round =>
      clear ho5 hb5 hbr hsz
      obtain ⟨k2, q, hk2', rfl, HQ, lq, hown, hbr⟩ := hrel
      have hsz := hbr.size
      by_cases hlt2 : k2 < l.length
      case pos =>
        obtain ⟨b, off, rfl, hb, hc⟩ := rdi_at (hr.below hbr) (by omega)
        have hck := hc k2 hlt2
        clear hc
        obtain ⟨x, hxe⟩ : ∃ x, l[k2]? = some x := ⟨l[k2], List.getElem?_eq_getElem hlt2⟩
        rw [show l.getD k2 0 = x by rw [List.getD_eq_getElem?_getD, hxe]; rfl] at hck
        have i1 : (k2 : Int) < (l.length : Int) := by omega
        obtain ⟨Y, hY⟩ : ∃ Y, G ++ q = Y := ⟨_, rfl⟩
        have lY : Y.length ≤ 2 * l.length + 1 := by rw [← hY]; simp; omega
        rw [hY] at hown
        have HY := Lib.hid hY
        clear hY
        by_cases hxn : n < x
        case pos =>
          have H2 : Hid (q ++ [x] = (l.take (k2 + 1)).filter (fun x => decide (n < x))) := by show _ = _; rw [filter_take_succ hxe, HQ.out, if_pos (decide_eq_true hxn)]
          have t0 : decide (n < x) = true := decide_eq_true hxn
          clear hxe
          go_wp2_with (at_builtin; refine wpl_appI _ .i64 rfl (.tmp 38) (.tmp 40) 24 rfl w.heap.size 3 i0 8 Try.underlying24 hi hz0 hz1 hz2 _ Y rfl (hown.alloc_ _) _ _ _ 1 [x] rfl rfl (rd_one _ _ _ _) ?d1 (by omega) ?d2 ?_)
          case d1 => omega
          case d2 => first | omega | (simp; omega)
          intro v4 w4 ho4 hg4 hat4
          have hb6 : Below w.heap.size w w4 := grown_below (hbr.alloc hbr.size _) (hown.alloc_ _) hg4 (Nat.le_refl _) (by simp; omega)
          clear hg4 hat4 hown
          rw [← HY.out, List.append_assoc] at ho4
          go_wp2
          go_roundw
          case rel => exact ⟨k2 + 1, q ++ [x], by omega, by go_num, H2, by simp; omega, ho4, hb6⟩
          case measure => simp [intOf]; omega
        have H2 : Hid (q = (l.take (k2 + 1)).filter (fun x => decide (n < x))) := by show _ = _; rw [filter_take_succ hxe, HQ.out, if_neg (by rw [decide_eq_false hxn]; decide), List.append_nil]
        have t0 : decide (n < x) = false := decide_eq_false hxn
        clear hxe
        go_wp2
        go_roundw
        case rel => exact ⟨k2 + 1, q, by omega, by go_num, H2, by omega, by rw [HY.out]; exact hown, hbr⟩
        case measure => simp [intOf]; omega
      have hk3 : ¬ ((k2 : Int) < (l.length : Int)) := by omega
      have HO : Hid (addI l n = G ++ q) := by show _ = _; unfold addI; rw [← HGG.out, HG2.out, HQ.out, List.take_of_length_le (by omega)]
      go_wp2
      go_ret
      rw [HO.out]
      exact ⟨_, rfl, OS.mk_ hown, hbr⟩

set_option maxRecDepth 100000 in
set_option maxHeartbeats 2000000 in
theorem sPCopy_c {w : World} {v : Value} {p : MProp} (h : RV propL w v p) (hm : p.bulk ≤ 16777216) : Calls Try.prog 65 #[v] w (NewV propL w p) := by
  unfold MProp.bulk at hm
  obtain ⟨AF, cF, AT, cT, rfl, rF, rT⟩ := rv_prop h
  clear h
  obtain ⟨i0, hi, hz0, hz1, hz2⟩ := info_parts Try.info_i64
  obtain ⟨wa, hwa, B0, sa, x_p, x_r⟩ := frame2 w 26 [.int .i64 p.Bal, .int .i64 p.Val, .slice AF p.From.length cF, .int .i64 p.Best, .slice AT p.Got.length cT] 26 [.int .i64 0, .int .i64 0, .slice none 0 0, .int .i64 0, .slice none 0 0]
  have sa_1 := Nat.le_of_eq sa
  have sa_2 := Nat.le_of_eq sa.symm
  clear sa
  have c_p_0_wa := x_p.cell (i := 0) rfl
  have f_p_0_wa := x_p.frozen 0
  have c_p_1_wa := x_p.cell (i := 1) rfl
  have f_p_1_wa := x_p.frozen 1
  have c_p_2_wa := x_p.cell (i := 2) rfl
  have f_p_2_wa := x_p.frozen 2
  have c_p_3_wa := x_p.cell (i := 3) rfl
  have f_p_3_wa := x_p.frozen 3
  have c_p_4_wa := x_p.cell (i := 4) rfl
  have f_p_4_wa := x_p.frozen 4
  have c_r_0_wa := x_r.cell (i := 0) rfl
  have f_r_0_wa := x_r.frozen 0
  have c_r_1_wa := x_r.cell (i := 1) rfl
  have f_r_1_wa := x_r.frozen 1
  have c_r_2_wa := x_r.cell (i := 2) rfl
  have f_r_2_wa := x_r.frozen 2
  have c_r_3_wa := x_r.cell (i := 3) rfl
  have f_r_3_wa := x_r.frozen 3
  have c_r_4_wa := x_r.cell (i := 4) rfl
  have f_r_4_wa := x_r.frozen 4
  go_enter Try.func65, Try.ntmps65
  have oN := own_none .i64 wa wa.heap.size 3 (Nat.le_refl _)
  obtain ⟨w1, e_w1, s_w1, h_w1, -⟩ := alloc_step wa 3 []
  have e1' : wa.alloc (.cells #[] 3) = w1 := e_w1
  rw [e1'] at oN
  clear e1'
  have s_w1_1 := Nat.le_of_eq s_w1
  have s_w1_2 := Nat.le_of_eq s_w1.symm
  clear s_w1
  have xp0 := x_p
  have xr0 := x_r
  replace x_p := x_p.from_ h_w1
  replace x_r := x_r.from_ h_w1
  have B_w1 := B0.trans (h_w1.mono B0.size)
  have c_p_0_w1 := x_p.cell (i := 0) rfl
  have f_p_0_w1 := x_p.frozen 0
  have c_p_1_w1 := x_p.cell (i := 1) rfl
  have f_p_1_w1 := x_p.frozen 1
  have c_p_2_w1 := x_p.cell (i := 2) rfl
  have f_p_2_w1 := x_p.frozen 2
  have c_p_3_w1 := x_p.cell (i := 3) rfl
  have f_p_3_w1 := x_p.frozen 3
  have c_p_4_w1 := x_p.cell (i := 4) rfl
  have f_p_4_w1 := x_p.frozen 4
  have c_r_0_w1 := x_r.cell (i := 0) rfl
  have f_r_0_w1 := x_r.frozen 0
  have c_r_1_w1 := x_r.cell (i := 1) rfl
  have f_r_1_w1 := x_r.frozen 1
  have c_r_2_w1 := x_r.cell (i := 2) rfl
  have f_r_2_w1 := x_r.frozen 2
  have c_r_3_w1 := x_r.cell (i := 3) rfl
  have f_r_3_w1 := x_r.frozen 3
  have c_r_4_w1 := x_r.cell (i := 4) rfl
  have f_r_4_w1 := x_r.frozen 4
  go_wp2_with (at_builtin; refine wpl_appI _ .i64 rfl (.tmp 3) (.tmp 5) 24 rfl wa.heap.size 3 i0 8 Try.underlying24 hi hz0 hz1 hz2 _ [] rfl oN _ AF cF p.From.length p.From rfl rfl ((rF.from_ B_w1).rd_) ?d1 (by omega) ?d2 ?_)
  case d1 => simp; omega
  case d2 => omega
  intro v2 w2 o2 g2 _
  (try rw [List.nil_append] at o2)
  have h_w2 : Below wa.heap.size wa w2 := grown_below h_w1 oN g2 (Nat.le_refl _) (by omega)
  obtain ⟨Af2, cf2, rfl, -, -, -⟩ := own_form o2
  have o_f := OS.mk_ o2
  clear o2 g2 oN
  clear c_p_0_wa f_p_0_wa c_p_1_wa f_p_1_wa c_p_2_wa f_p_2_wa c_p_3_wa f_p_3_wa c_p_4_wa f_p_4_wa c_r_0_wa f_r_0_wa c_r_1_wa f_r_1_wa c_r_2_wa f_r_2_wa c_r_3_wa f_r_3_wa c_r_4_wa f_r_4_wa c_p_0_w1 f_p_0_w1 c_p_1_w1 f_p_1_w1 c_p_2_w1 f_p_2_w1 c_p_3_w1 f_p_3_w1 c_p_4_w1 f_p_4_w1 c_r_0_w1 f_r_0_w1 c_r_1_w1 f_r_1_w1 c_r_2_w1 f_r_2_w1 c_r_3_w1 f_r_3_w1 c_r_4_w1 f_r_4_w1
  replace x_p := xp0.from_ h_w2
  replace x_r := xr0.from_ h_w2
  clear xp0 xr0
  have B_w2 := B0.trans (h_w2.mono B0.size)
  have s_w2 := h_w2.size
  have c_p_0_w2 := x_p.cell (i := 0) rfl
  have f_p_0_w2 := x_p.frozen 0
  have c_p_1_w2 := x_p.cell (i := 1) rfl
  have f_p_1_w2 := x_p.frozen 1
  have c_p_2_w2 := x_p.cell (i := 2) rfl
  have f_p_2_w2 := x_p.frozen 2
  have c_p_3_w2 := x_p.cell (i := 3) rfl
  have f_p_3_w2 := x_p.frozen 3
  have c_p_4_w2 := x_p.cell (i := 4) rfl
  have f_p_4_w2 := x_p.frozen 4
  have c_r_0_w2 := x_r.cell (i := 0) rfl
  have f_r_0_w2 := x_r.frozen 0
  have c_r_1_w2 := x_r.cell (i := 1) rfl
  have f_r_1_w2 := x_r.frozen 1
  have c_r_2_w2 := x_r.cell (i := 2) rfl
  have f_r_2_w2 := x_r.frozen 2
  have c_r_3_w2 := x_r.cell (i := 3) rfl
  have f_r_3_w2 := x_r.frozen 3
  have c_r_4_w2 := x_r.cell (i := 4) rfl
  have f_r_4_w2 := x_r.frozen 4
  obtain ⟨w3, e_w3, s_w3, h_w3, y⟩ := set_step x_p 2 (.slice Af2 p.From.length cf2)
  have s_w3_1 := Nat.le_of_eq s_w3
  have s_w3_2 := Nat.le_of_eq s_w3.symm
  clear s_w3
  replace x_r := x_r.chg h_w3 (by omega)
  replace o_f := o_f.chg h_w3 (by omega)
  have B_w3 := Below.chg_ B_w2 h_w3 (by omega) (by omega)
  replace x_p : Vr w3 (w.heap.size) 26 [.int .i64 p.Bal, .int .i64 p.Val, .slice Af2 p.From.length cf2, .int .i64 p.Best, .slice AT p.Got.length cT] := y
  clear y
  have c_p_0_w3 := x_p.cell (i := 0) rfl
  have f_p_0_w3 := x_p.frozen 0
  have c_p_1_w3 := x_p.cell (i := 1) rfl
  have f_p_1_w3 := x_p.frozen 1
  have c_p_2_w3 := x_p.cell (i := 2) rfl
  have f_p_2_w3 := x_p.frozen 2
  have c_p_3_w3 := x_p.cell (i := 3) rfl
  have f_p_3_w3 := x_p.frozen 3
  have c_p_4_w3 := x_p.cell (i := 4) rfl
  have f_p_4_w3 := x_p.frozen 4
  have c_r_0_w3 := x_r.cell (i := 0) rfl
  have f_r_0_w3 := x_r.frozen 0
  have c_r_1_w3 := x_r.cell (i := 1) rfl
  have f_r_1_w3 := x_r.frozen 1
  have c_r_2_w3 := x_r.cell (i := 2) rfl
  have f_r_2_w3 := x_r.frozen 2
  have c_r_3_w3 := x_r.cell (i := 3) rfl
  have f_r_3_w3 := x_r.frozen 3
  have c_r_4_w3 := x_r.cell (i := 4) rfl
  have f_r_4_w3 := x_r.frozen 4
  have oN := own_none .i64 w3 w3.heap.size 3 (Nat.le_refl _)
  obtain ⟨w4, e_w4, s_w4, h_w4, -⟩ := alloc_step w3 3 []
  have e1' : w3.alloc (.cells #[] 3) = w4 := e_w4
  rw [e1'] at oN
  clear e1'
  have s_w4_1 := Nat.le_of_eq s_w4
  have s_w4_2 := Nat.le_of_eq s_w4.symm
  clear s_w4
  have xp0 := x_p
  have xr0 := x_r
  have zo_f := o_f
  replace x_p := x_p.from_ h_w4
  replace x_r := x_r.from_ h_w4
  replace o_f := o_f.below h_w4
  have B_w4 := B_w3.trans (h_w4.mono B_w3.size)
  have c_p_0_w4 := x_p.cell (i := 0) rfl
  have f_p_0_w4 := x_p.frozen 0
  have c_p_1_w4 := x_p.cell (i := 1) rfl
  have f_p_1_w4 := x_p.frozen 1
  have c_p_2_w4 := x_p.cell (i := 2) rfl
  have f_p_2_w4 := x_p.frozen 2
  have c_p_3_w4 := x_p.cell (i := 3) rfl
  have f_p_3_w4 := x_p.frozen 3
  have c_p_4_w4 := x_p.cell (i := 4) rfl
  have f_p_4_w4 := x_p.frozen 4
  have c_r_0_w4 := x_r.cell (i := 0) rfl
  have f_r_0_w4 := x_r.frozen 0
  have c_r_1_w4 := x_r.cell (i := 1) rfl
  have f_r_1_w4 := x_r.frozen 1
  have c_r_2_w4 := x_r.cell (i := 2) rfl
  have f_r_2_w4 := x_r.frozen 2
  have c_r_3_w4 := x_r.cell (i := 3) rfl
  have f_r_3_w4 := x_r.frozen 3
  have c_r_4_w4 := x_r.cell (i := 4) rfl
  have f_r_4_w4 := x_r.frozen 4
  go_wp2_with (at_builtin; refine wpl_appI _ .i64 rfl (.tmp 8) (.tmp 10) 24 rfl w3.heap.size 3 i0 8 Try.underlying24 hi hz0 hz1 hz2 _ [] rfl oN _ AT cT p.Got.length p.Got rfl rfl ((rT.from_ B_w4).rd_) ?d1 (by omega) ?d2 ?_)
  case d1 => simp; omega
  case d2 => omega
  intro v2 w5 o2 g2 _
  (try rw [List.nil_append] at o2)
  have h_w5 : Below w3.heap.size w3 w5 := grown_below h_w4 oN g2 (Nat.le_refl _) (by omega)
  obtain ⟨At2, ct2, rfl, -, -, -⟩ := own_form o2
  have o_t := OS.mk_ o2
  clear o2 g2 oN
  clear c_p_0_w2 f_p_0_w2 c_p_1_w2 f_p_1_w2 c_p_2_w2 f_p_2_w2 c_p_3_w2 f_p_3_w2 c_p_4_w2 f_p_4_w2 c_r_0_w2 f_r_0_w2 c_r_1_w2 f_r_1_w2 c_r_2_w2 f_r_2_w2 c_r_3_w2 f_r_3_w2 c_r_4_w2 f_r_4_w2 c_p_0_w3 f_p_0_w3 c_p_1_w3 f_p_1_w3 c_p_2_w3 f_p_2_w3 c_p_3_w3 f_p_3_w3 c_p_4_w3 f_p_4_w3 c_r_0_w3 f_r_0_w3 c_r_1_w3 f_r_1_w3 c_r_2_w3 f_r_2_w3 c_r_3_w3 f_r_3_w3 c_r_4_w3 f_r_4_w3 c_p_0_w4 f_p_0_w4 c_p_1_w4 f_p_1_w4 c_p_2_w4 f_p_2_w4 c_p_3_w4 f_p_3_w4 c_p_4_w4 f_p_4_w4 c_r_0_w4 f_r_0_w4 c_r_1_w4 f_r_1_w4 c_r_2_w4 f_r_2_w4 c_r_3_w4 f_r_3_w4 c_r_4_w4 f_r_4_w4
  replace x_p := xp0.from_ h_w5
  replace x_r := xr0.from_ h_w5
  clear xp0 xr0
  replace o_f := zo_f.below h_w5
  clear zo_f
  have B_w5 := B_w3.trans (h_w5.mono B_w3.size)
  have s_w5 := h_w5.size
  have c_p_0_w5 := x_p.cell (i := 0) rfl
  have f_p_0_w5 := x_p.frozen 0
  have c_p_1_w5 := x_p.cell (i := 1) rfl
  have f_p_1_w5 := x_p.frozen 1
  have c_p_2_w5 := x_p.cell (i := 2) rfl
  have f_p_2_w5 := x_p.frozen 2
  have c_p_3_w5 := x_p.cell (i := 3) rfl
  have f_p_3_w5 := x_p.frozen 3
  have c_p_4_w5 := x_p.cell (i := 4) rfl
  have f_p_4_w5 := x_p.frozen 4
  have c_r_0_w5 := x_r.cell (i := 0) rfl
  have f_r_0_w5 := x_r.frozen 0
  have c_r_1_w5 := x_r.cell (i := 1) rfl
  have f_r_1_w5 := x_r.frozen 1
  have c_r_2_w5 := x_r.cell (i := 2) rfl
  have f_r_2_w5 := x_r.frozen 2
  have c_r_3_w5 := x_r.cell (i := 3) rfl
  have f_r_3_w5 := x_r.frozen 3
  have c_r_4_w5 := x_r.cell (i := 4) rfl
  have f_r_4_w5 := x_r.frozen 4
  obtain ⟨w6, e_w6, s_w6, h_w6, y⟩ := set_step x_p 4 (.slice At2 p.Got.length ct2)
  have s_w6_1 := Nat.le_of_eq s_w6
  have s_w6_2 := Nat.le_of_eq s_w6.symm
  clear s_w6
  replace x_r := x_r.chg h_w6 (by omega)
  replace o_f := o_f.chg h_w6 (by omega)
  replace o_t := o_t.chg h_w6 (by omega)
  have B_w6 := Below.chg_ B_w5 h_w6 (by omega) (by omega)
  replace x_p : Vr w6 (w.heap.size) 26 [.int .i64 p.Bal, .int .i64 p.Val, .slice Af2 p.From.length cf2, .int .i64 p.Best, .slice At2 p.Got.length ct2] := y
  clear y
  have c_p_0_w6 := x_p.cell (i := 0) rfl
  have f_p_0_w6 := x_p.frozen 0
  have c_p_1_w6 := x_p.cell (i := 1) rfl
  have f_p_1_w6 := x_p.frozen 1
  have c_p_2_w6 := x_p.cell (i := 2) rfl
  have f_p_2_w6 := x_p.frozen 2
  have c_p_3_w6 := x_p.cell (i := 3) rfl
  have f_p_3_w6 := x_p.frozen 3
  have c_p_4_w6 := x_p.cell (i := 4) rfl
  have f_p_4_w6 := x_p.frozen 4
  have c_r_0_w6 := x_r.cell (i := 0) rfl
  have f_r_0_w6 := x_r.frozen 0
  have c_r_1_w6 := x_r.cell (i := 1) rfl
  have f_r_1_w6 := x_r.frozen 1
  have c_r_2_w6 := x_r.cell (i := 2) rfl
  have f_r_2_w6 := x_r.frozen 2
  have c_r_3_w6 := x_r.cell (i := 3) rfl
  have f_r_3_w6 := x_r.frozen 3
  have c_r_4_w6 := x_r.cell (i := 4) rfl
  have f_r_4_w6 := x_r.frozen 4
  obtain ⟨w7, e_w7, s_w7, h_w7, y⟩ := store_step x_r [.int .i64 p.Bal, .int .i64 p.Val, .slice Af2 p.From.length cf2, .int .i64 p.Best, .slice At2 p.Got.length ct2] rfl
  replace e_w7 : (((((w6.setCell ⟨w.heap.size + 1, 0, none⟩ (.int .i64 p.Bal)).setCell ⟨w.heap.size + 1, 1, none⟩ (.int .i64 p.Val)).setCell ⟨w.heap.size + 1, 2, none⟩ (.slice Af2 p.From.length cf2)).setCell ⟨w.heap.size + 1, 3, none⟩ (.int .i64 p.Best)).setCell ⟨w.heap.size + 1, 4, none⟩ (.slice At2 p.Got.length ct2)) = w7 := e_w7
  have s_w7_1 := Nat.le_of_eq s_w7
  have s_w7_2 := Nat.le_of_eq s_w7.symm
  clear s_w7
  replace x_p := x_p.chg h_w7 (by omega)
  replace o_f := o_f.chg h_w7 (by omega)
  replace o_t := o_t.chg h_w7 (by omega)
  have B_w7 := Below.chg_ B_w6 h_w7 (by omega) (by omega)
  replace x_r : Vr w7 (w.heap.size + 1) 26 [.int .i64 p.Bal, .int .i64 p.Val, .slice Af2 p.From.length cf2, .int .i64 p.Best, .slice At2 p.Got.length ct2] := y
  clear y
  have c_r_0_w7 := x_r.cell (i := 0) rfl
  have f_r_0_w7 := x_r.frozen 0
  have c_r_1_w7 := x_r.cell (i := 1) rfl
  have f_r_1_w7 := x_r.frozen 1
  have c_r_2_w7 := x_r.cell (i := 2) rfl
  have f_r_2_w7 := x_r.frozen 2
  have c_r_3_w7 := x_r.cell (i := 3) rfl
  have f_r_3_w7 := x_r.frozen 3
  have c_r_4_w7 := x_r.cell (i := 4) rfl
  have f_r_4_w7 := x_r.frozen 4
  go_wp2
  refine ret_cell (by rfl) (by rfl) x_r Try.underlying26 sz_prop (by rfl) ?_
  exact ⟨_, rfl, ov_prop (d := p) o_f o_t (by omega), B_w7⟩

set_option maxHeartbeats 2000000 in
theorem sPropNew_c {w : World} {b u : Int} : Calls Try.prog 39 #[.int .i64 b, .int .i64 u] w (NewVB propL w (propNew b u) (propNewB b u)) := by
  obtain ⟨wa, hwa, B0, sa, x_r⟩ := frame1 w 26 [.int .i64 0, .int .i64 0, .slice none 0 0, .int .i64 0, .slice none 0 0]
  have sa_1 := Nat.le_of_eq sa
  have sa_2 := Nat.le_of_eq sa.symm
  clear sa
  have c_r_0_wa := x_r.cell (i := 0) rfl
  have f_r_0_wa := x_r.frozen 0
  have c_r_1_wa := x_r.cell (i := 1) rfl
  have f_r_1_wa := x_r.frozen 1
  have c_r_2_wa := x_r.cell (i := 2) rfl
  have f_r_2_wa := x_r.frozen 2
  have c_r_3_wa := x_r.cell (i := 3) rfl
  have f_r_3_wa := x_r.frozen 3
  have c_r_4_wa := x_r.cell (i := 4) rfl
  have f_r_4_wa := x_r.frozen 4
  obtain ⟨D, hD⟩ : ∃ D : MProp, D = ⟨b, u, [], 0, []⟩ := ⟨_, rfl⟩
  by_cases hk : propOkB ⟨b, u, [], 0, []⟩ = true
  case neg =>
    replace hk : propOkB ⟨b, u, [], 0, []⟩ = false := by simpa using hk
    have HB9 : Hid (propNewB b u = false) := hk
    have HK := Lib.hid hk
    have HM : Hid (propNew b u = propZ) := if_neg (by rw [HB9.out]; decide)
    clear hk
    go_enter Try.func39, Try.ntmps39
    obtain ⟨w1, e_w1, s_w1, h_w1, x_p⟩ := alloc_step wa 26 [.int .i64 b, .int .i64 u, .slice none 0 0, .int .i64 0, .slice none 0 0]
    have s_w1_1 := Nat.le_of_eq s_w1
    have s_w1_2 := Nat.le_of_eq s_w1.symm
    clear s_w1
    replace x_r := x_r.from_ h_w1
    have B_w1 := B0.trans (h_w1.mono B0.size)
    have i_w1_4 := x_p.same (i := 4) rfl
    have i_w1_3 := x_p.same (i := 3) rfl
    have i_w1_2 := x_p.same (i := 2) rfl
    have c_r_0_w1 := x_r.cell (i := 0) rfl
    have f_r_0_w1 := x_r.frozen 0
    have c_r_1_w1 := x_r.cell (i := 1) rfl
    have f_r_1_w1 := x_r.frozen 1
    have c_r_2_w1 := x_r.cell (i := 2) rfl
    have f_r_2_w1 := x_r.frozen 2
    have c_r_3_w1 := x_r.cell (i := 3) rfl
    have f_r_3_w1 := x_r.frozen 3
    have c_r_4_w1 := x_r.cell (i := 4) rfl
    have f_r_4_w1 := x_r.frozen 4
    have c_p_0_w1 := x_p.cell (i := 0) rfl
    have f_p_0_w1 := x_p.frozen 0
    have c_p_1_w1 := x_p.cell (i := 1) rfl
    have f_p_1_w1 := x_p.frozen 1
    have c_p_2_w1 := x_p.cell (i := 2) rfl
    have f_p_2_w1 := x_p.frozen 2
    have c_p_3_w1 := x_p.cell (i := 3) rfl
    have f_p_3_w1 := x_p.frozen 3
    have c_p_4_w1 := x_p.cell (i := 4) rfl
    have f_p_4_w1 := x_p.frozen 4
    have rD : RV propL w1 (.agg #[.int .i64 b, .int .i64 u, .slice none 0 0, .int .i64 0, .slice none 0 0]) ⟨b, u, [], 0, []⟩ := (ov_prop (d := ⟨b, u, [], 0, []⟩) (lo := 0) (hi := 0) (os_nil (lo := 0) (hi := 0) (Nat.zero_le _)) (os_nil (lo := 0) (hi := 0) (Nat.zero_le _)) (by omega)).rd
    go_wp2_with fail
    refine (sPropOk_c rD).mono ?_
    rintro e w2 ⟨rfl, h_w2⟩
    clear c_r_0_wa f_r_0_wa c_r_1_wa f_r_1_wa c_r_2_wa f_r_2_wa c_r_3_wa f_r_3_wa c_r_4_wa f_r_4_wa i_w1_4 i_w1_3 i_w1_2 c_r_0_w1 f_r_0_w1 c_r_1_w1 f_r_1_w1 c_r_2_w1 f_r_2_w1 c_r_3_w1 f_r_3_w1 c_r_4_w1 f_r_4_w1 c_p_0_w1 f_p_0_w1 c_p_1_w1 f_p_1_w1 c_p_2_w1 f_p_2_w1 c_p_3_w1 f_p_3_w1 c_p_4_w1 f_p_4_w1
    replace x_r := x_r.from_ h_w2
    replace x_p := x_p.from_ h_w2
    have B_w2 := B_w1.trans (h_w2.mono B_w1.size)
    have s_w2 := h_w2.size
    rw [HK.out]
    have c_r_0_w2 := x_r.cell (i := 0) rfl
    have f_r_0_w2 := x_r.frozen 0
    have c_r_1_w2 := x_r.cell (i := 1) rfl
    have f_r_1_w2 := x_r.frozen 1
    have c_r_2_w2 := x_r.cell (i := 2) rfl
    have f_r_2_w2 := x_r.frozen 2
    have c_r_3_w2 := x_r.cell (i := 3) rfl
    have f_r_3_w2 := x_r.frozen 3
    have c_r_4_w2 := x_r.cell (i := 4) rfl
    have f_r_4_w2 := x_r.frozen 4
    have c_p_0_w2 := x_p.cell (i := 0) rfl
    have f_p_0_w2 := x_p.frozen 0
    have c_p_1_w2 := x_p.cell (i := 1) rfl
    have f_p_1_w2 := x_p.frozen 1
    have c_p_2_w2 := x_p.cell (i := 2) rfl
    have f_p_2_w2 := x_p.frozen 2
    have c_p_3_w2 := x_p.cell (i := 3) rfl
    have f_p_3_w2 := x_p.frozen 3
    have c_p_4_w2 := x_p.cell (i := 4) rfl
    have f_p_4_w2 := x_p.frozen 4
    have i_r_0 := x_r.same (i := 0) rfl
    have i_r_1 := x_r.same (i := 1) rfl
    have i_r_2 := x_r.same (i := 2) rfl
    have i_r_3 := x_r.same (i := 3) rfl
    have i_r_4 := x_r.same (i := 4) rfl
    go_wp2
    refine ret_cell_tmp (by rfl) (by rfl) x_r Try.underlying26 sz_prop (by rfl) ?_
    rw [HM.out, HB9.out]
    exact ⟨_, rfl, ov_prop (d := propZ) (os_nil (lo := w.heap.size) (hi := w.heap.size) (by omega)) (os_nil (lo := w.heap.size) (hi := w.heap.size) (by omega)) (by omega), B_w2⟩
  case pos =>
    have HB9 : Hid (propNewB b u = true) := hk
    have HK := Lib.hid hk
    have HM : Hid (propNew b u = ⟨b, u, [], 0, []⟩) := if_pos HB9.out
    clear hk
    go_enter Try.func39, Try.ntmps39
    obtain ⟨w1, e_w1, s_w1, h_w1, x_p⟩ := alloc_step wa 26 [.int .i64 b, .int .i64 u, .slice none 0 0, .int .i64 0, .slice none 0 0]
    have s_w1_1 := Nat.le_of_eq s_w1
    have s_w1_2 := Nat.le_of_eq s_w1.symm
    clear s_w1
    replace x_r := x_r.from_ h_w1
    have B_w1 := B0.trans (h_w1.mono B0.size)
    have i_w1_4 := x_p.same (i := 4) rfl
    have i_w1_3 := x_p.same (i := 3) rfl
    have i_w1_2 := x_p.same (i := 2) rfl
    have c_r_0_w1 := x_r.cell (i := 0) rfl
    have f_r_0_w1 := x_r.frozen 0
    have c_r_1_w1 := x_r.cell (i := 1) rfl
    have f_r_1_w1 := x_r.frozen 1
    have c_r_2_w1 := x_r.cell (i := 2) rfl
    have f_r_2_w1 := x_r.frozen 2
    have c_r_3_w1 := x_r.cell (i := 3) rfl
    have f_r_3_w1 := x_r.frozen 3
    have c_r_4_w1 := x_r.cell (i := 4) rfl
    have f_r_4_w1 := x_r.frozen 4
    have c_p_0_w1 := x_p.cell (i := 0) rfl
    have f_p_0_w1 := x_p.frozen 0
    have c_p_1_w1 := x_p.cell (i := 1) rfl
    have f_p_1_w1 := x_p.frozen 1
    have c_p_2_w1 := x_p.cell (i := 2) rfl
    have f_p_2_w1 := x_p.frozen 2
    have c_p_3_w1 := x_p.cell (i := 3) rfl
    have f_p_3_w1 := x_p.frozen 3
    have c_p_4_w1 := x_p.cell (i := 4) rfl
    have f_p_4_w1 := x_p.frozen 4
    have rD : RV propL w1 (.agg #[.int .i64 b, .int .i64 u, .slice none 0 0, .int .i64 0, .slice none 0 0]) ⟨b, u, [], 0, []⟩ := (ov_prop (d := ⟨b, u, [], 0, []⟩) (lo := 0) (hi := 0) (os_nil (lo := 0) (hi := 0) (Nat.zero_le _)) (os_nil (lo := 0) (hi := 0) (Nat.zero_le _)) (by omega)).rd
    go_wp2_with fail
    refine (sPropOk_c rD).mono ?_
    rintro e w2 ⟨rfl, h_w2⟩
    clear c_r_0_wa f_r_0_wa c_r_1_wa f_r_1_wa c_r_2_wa f_r_2_wa c_r_3_wa f_r_3_wa c_r_4_wa f_r_4_wa i_w1_4 i_w1_3 i_w1_2 c_r_0_w1 f_r_0_w1 c_r_1_w1 f_r_1_w1 c_r_2_w1 f_r_2_w1 c_r_3_w1 f_r_3_w1 c_r_4_w1 f_r_4_w1 c_p_0_w1 f_p_0_w1 c_p_1_w1 f_p_1_w1 c_p_2_w1 f_p_2_w1 c_p_3_w1 f_p_3_w1 c_p_4_w1 f_p_4_w1
    replace x_r := x_r.from_ h_w2
    replace x_p := x_p.from_ h_w2
    have B_w2 := B_w1.trans (h_w2.mono B_w1.size)
    have s_w2 := h_w2.size
    rw [HK.out]
    have c_r_0_w2 := x_r.cell (i := 0) rfl
    have f_r_0_w2 := x_r.frozen 0
    have c_r_1_w2 := x_r.cell (i := 1) rfl
    have f_r_1_w2 := x_r.frozen 1
    have c_r_2_w2 := x_r.cell (i := 2) rfl
    have f_r_2_w2 := x_r.frozen 2
    have c_r_3_w2 := x_r.cell (i := 3) rfl
    have f_r_3_w2 := x_r.frozen 3
    have c_r_4_w2 := x_r.cell (i := 4) rfl
    have f_r_4_w2 := x_r.frozen 4
    have c_p_0_w2 := x_p.cell (i := 0) rfl
    have f_p_0_w2 := x_p.frozen 0
    have c_p_1_w2 := x_p.cell (i := 1) rfl
    have f_p_1_w2 := x_p.frozen 1
    have c_p_2_w2 := x_p.cell (i := 2) rfl
    have f_p_2_w2 := x_p.frozen 2
    have c_p_3_w2 := x_p.cell (i := 3) rfl
    have f_p_3_w2 := x_p.frozen 3
    have c_p_4_w2 := x_p.cell (i := 4) rfl
    have f_p_4_w2 := x_p.frozen 4
    obtain ⟨w3, e_w3, s_w3, h_w3, y⟩ := store_step x_r [.int .i64 b, .int .i64 u, .slice none 0 0, .int .i64 0, .slice none 0 0] rfl
    replace e_w3 : (((((w2.setCell ⟨w.heap.size, 0, none⟩ (.int .i64 b)).setCell ⟨w.heap.size, 1, none⟩ (.int .i64 u)).setCell ⟨w.heap.size, 2, none⟩ (.slice none 0 0)).setCell ⟨w.heap.size, 3, none⟩ (.int .i64 0)).setCell ⟨w.heap.size, 4, none⟩ (.slice none 0 0)) = w3 := e_w3
    have s_w3_1 := Nat.le_of_eq s_w3
    have s_w3_2 := Nat.le_of_eq s_w3.symm
    clear s_w3
    replace x_p := x_p.chg h_w3 (by omega)
    have B_w3 := Below.chg_ B_w2 h_w3 (by omega) (by omega)
    replace x_r : Vr w3 (w.heap.size) 26 [.int .i64 b, .int .i64 u, .slice none 0 0, .int .i64 0, .slice none 0 0] := y
    clear y
    have c_r_0_w3 := x_r.cell (i := 0) rfl
    have f_r_0_w3 := x_r.frozen 0
    have c_r_1_w3 := x_r.cell (i := 1) rfl
    have f_r_1_w3 := x_r.frozen 1
    have c_r_2_w3 := x_r.cell (i := 2) rfl
    have f_r_2_w3 := x_r.frozen 2
    have c_r_3_w3 := x_r.cell (i := 3) rfl
    have f_r_3_w3 := x_r.frozen 3
    have c_r_4_w3 := x_r.cell (i := 4) rfl
    have f_r_4_w3 := x_r.frozen 4
    go_wp2
    refine ret_cell_tmp (by rfl) (by rfl) x_r Try.underlying26 sz_prop (by rfl) ?_
    rw [HM.out, HB9.out]
    exact ⟨_, rfl, ov_prop (d := ⟨b, u, [], 0, []⟩) (os_nil (lo := w.heap.size) (hi := w.heap.size) (by omega)) (os_nil (lo := w.heap.size) (hi := w.heap.size) (by omega)) (by omega), B_w3⟩

end Go.Proofs.Ytaoedgcdcimibaa
