/- The walk of the law FnOnce. Laid by a program of ours (src/fnonce.py). -/
import Derived.Test.YtpaodpkgpajboaaOnceMath
import Derived.Test.YtpaodpkgpajboaaMakes
import Derived.Test.YtpaodpkgpajboaaOutC
import Derived.Test.YtpaodpkgpajboaaBoxI
import Derived.Test.YtpaodpkgpajboaaBxI5
import Derived.IntWalk
namespace Go.Proofs.Ytpaodpkgpajboaa
open Go.RowKit
set_option linter.unusedVariables false

theorem iOutFirst_e {w : World} {v : Value} {o : MOut} {x : Int} (h : RV outL w v o) (hm : o.List.length ≤ 16777216) (he : Hid (outFirst o = x)) : Calls Try.prog 20 #[v] w fun e w' => e = .returned (.int .i64 x) ∧ Below w.heap.size w w' :=
  he.out ▸ iOutFirst_c h hm
theorem iOutOk_e {w : World} {v : Value} {o : MOut} {x : Bool} (h : RV outL w v o) (hm : o.List.length ≤ 16777216) (he : Hid (outOkB o = x)) : Calls Try.prog 22 #[v] w fun e w' => e = .returned (.bool x) ∧ Below w.heap.size w w' :=
  he.out ▸ iOutOk_c h hm
theorem iOutWorth_e {w : World} {v : Value} {o : MOut} {q x : Int} (h : RV outL w v o) (hm : o.List.length ≤ 16777216) (hq : -9223372036854775808 ≤ q ∧ q ≤ 9223372036854775807) (he : Hid (outWorth o q = x)) : Calls Try.prog 21 #[v, .int .i64 q] w fun e w' => e = .returned (.int .i64 x) ∧ Below w.heap.size w w' :=
  he.out ▸ iOutWorth_c h hm hq

set_option maxRecDepth 100000 in
set_option maxHeartbeats 1000000 in
theorem wOnce (v : Value) (zs : List Int) (w : World) (r : RS .u8 w v zs) (hb : Bytes zs) :
    Calls Try.prog 3 #[v] w fun e w' => e = .returned (.bool true) ∧ Below w.heap.size w w' := by
  obtain ⟨A, c, rfl, p1, p2, hr⟩ := r
  unfold maxLen at p2
  obtain ⟨i0, hi, hz0, hz1, hz2⟩ := info_parts Try.info_msg
  by_cases hbig : 1048576 < zs.length
  case pos =>
    have i0 : (1048576 : Int) < (zs.length : Int) := by omega
    go_enter Try.func3, Try.ntmps3
    go_wp2
    go_ret
    exact ⟨rfl, Below.refl _ _⟩
  have hm : zs.length ≤ 1048576 := by omega
  go_enter Try.func3, Try.ntmps3
  go_wp2_with fail
  refine (makeMsgs_c hr hb hm).mono ?_
  rintro e w0 ⟨v1, l, rfl, o_l, hall, hlen, h1⟩
  obtain ⟨Al, cl, rfl, ql1, ql2, rL⟩ := rv_slice o_l.rd
  clear o_l ql1 ql2
  have B0 : Below w0.heap.size w0 w0 := Below.refl _ _
  go_wp2_with fail
  refine (iOutNew_c).mono ?_
  rintro e w1 ⟨v2, rfl, o_o, h_w1⟩
  have B_w1 := B0.trans (h_w1.mono B0.size)
  have s_w1 := h_w1.size
  obtain ⟨O0, hO⟩ : ∃ O0, outNew = O0 := ⟨_, rfl⟩
  rw [hO] at o_o
  have HO : Hid (O0 = ⟨1 + ((0 : Nat) : Int), l.take 0⟩) := by show _ = _; rw [← hO]; rfl
  clear hO
  obtain ⟨An, cn, rfl, -⟩ := rv_out o_o.rd
  obtain ⟨w2, e_w2, s_w2, h_w2, x_o⟩ := alloc_step w1 26 [.int .i64 O0.Next, .slice An O0.List.length cn]
  have s_w2_1 := Nat.le_of_eq s_w2
  have s_w2_2 := Nat.le_of_eq s_w2.symm
  clear s_w2
  replace o_o := o_o.below h_w2
  have B_w2 := B_w1.trans (h_w2.mono B_w1.size)
  have c_o_0_w2 := x_o.cell (i := 0) rfl
  have f_o_0_w2 := x_o.frozen 0
  have c_o_1_w2 := x_o.cell (i := 1) rfl
  have f_o_1_w2 := x_o.frozen 1
  go_wp2
  go_loopw [29] (fun i wr => ∃ (k : Nat) (O : MOut) (Ao : Option Addr) (co lo hi : Nat), k ≤ l.length ∧ i = .int .i64 k ∧ Hid (O = ⟨1 + (k : Int), l.take k⟩) ∧ Vr wr w1.heap.size 26 [.int .i64 O.Next, .slice Ao O.List.length co] ∧ OV outL wr lo hi (.agg #[.int .i64 O.Next, .slice Ao O.List.length co]) O ∧ (w1.heap.size < lo ∨ hi ≤ w1.heap.size) ∧ w0.heap.size ≤ lo ∧ Below w0.heap.size w0 wr) (fun i _ => l.length - (intOf i).toNat)
  case atStart => exact ⟨0, O0, An, cn, _, _, Nat.zero_le _, rfl, HO, x_o, o_o, .inr (by omega), Nat.le_refl _, B_w2⟩
  case round =>
    clear c_o_0_w2 f_o_0_w2 c_o_1_w2 f_o_1_w2
    clear x_o o_o HO
    obtain ⟨k, O, Ao, co, ol, oh, hk, rfl, HO, x_o, o_o, hd, hlo, HB⟩ := hrel
    have hs := HB.size
    have hbo := x_o.lt
    have lO : O.List.length ≤ 7 := by rw [HO.out]; show (l.take k).length ≤ 7; rw [List.length_take]; omega
    by_cases hlt : k < l.length
    case pos =>
      obtain ⟨x, hxe⟩ := get_of_lt hlt
      obtain ⟨b, off, rfl, hb, e0, e1, e2, e3⟩ := el_msg (rL.below HB) hxe
      have i1 : (k : Int) < (l.length : Int) := by omega
      have E1 : Hid (outPutB O x = true) := by show _ = _; rw [HO.out]; exact (ob_put hall hlen hxe).1
      have E2 : Hid (outPut O x = ⟨1 + ((k + 1 : Nat) : Int), l.take (k + 1)⟩) := by show _ = _; rw [HO.out]; exact (ob_put hall hlen hxe).2
      clear hxe
      obtain ⟨w3, e_w3, s_w3, h_w3, x_m⟩ := alloc_step wr 29 [.int .i64 x.Kind, .int .i64 x.Acct, .int .i64 x.Amt, .int .i64 x.Src]
      have s_w3_1 := Nat.le_of_eq s_w3
      have s_w3_2 := Nat.le_of_eq s_w3.symm
      clear s_w3
      replace x_o := x_o.from_ h_w3
      replace o_o := o_o.below h_w3
      have B_w3 := HB.trans (h_w3.mono HB.size)
      have c_o_0_w3 := x_o.cell (i := 0) rfl
      have f_o_0_w3 := x_o.frozen 0
      have c_o_1_w3 := x_o.cell (i := 1) rfl
      have f_o_1_w3 := x_o.frozen 1
      have c_m_0_w3 := x_m.cell (i := 0) rfl
      have f_m_0_w3 := x_m.frozen 0
      have c_m_1_w3 := x_m.cell (i := 1) rfl
      have f_m_1_w3 := x_m.frozen 1
      have c_m_2_w3 := x_m.cell (i := 2) rfl
      have f_m_2_w3 := x_m.frozen 2
      have c_m_3_w3 := x_m.cell (i := 3) rfl
      have f_m_3_w3 := x_m.frozen 3
      go_wp2_with fail
      refine (iOutPut_c (m := x) o_o.rd rv_msg_mk (by omega)).mono ?_
      rintro e w4 ⟨v2, rfl, o_x, h_w4⟩
      clear c_o_0_w3 f_o_0_w3 c_o_1_w3 f_o_1_w3 c_m_0_w3 f_m_0_w3 c_m_1_w3 f_m_1_w3 c_m_2_w3 f_m_2_w3 c_m_3_w3 f_m_3_w3
      replace x_o := x_o.from_ h_w4
      replace x_m := x_m.from_ h_w4
      replace o_o := o_o.below h_w4
      have B_w4 := B_w3.trans (h_w4.mono B_w3.size)
      have s_w4 := h_w4.size
      obtain ⟨O2, hO2⟩ : ∃ O2, outPut O x = O2 := ⟨_, rfl⟩
      rw [hO2] at o_x
      rw [E1.out]
      have HO2 : Hid (O2 = ⟨1 + ((k + 1 : Nat) : Int), l.take (k + 1)⟩) := by show _ = _; rw [← hO2]; exact E2.out
      clear hO2 E1 E2
      obtain ⟨Ax, cx, rfl, -⟩ := rv_out o_x.rd
      clear o_o
      obtain ⟨w5, e_w5, s_w5, h_w5, x_x⟩ := alloc_step w4 26 [.int .i64 O2.Next, .slice Ax O2.List.length cx]
      have s_w5_1 := Nat.le_of_eq s_w5
      have s_w5_2 := Nat.le_of_eq s_w5.symm
      clear s_w5
      replace x_o := x_o.from_ h_w5
      replace x_m := x_m.from_ h_w5
      replace o_x := o_x.below h_w5
      have B_w5 := B_w4.trans (h_w5.mono B_w4.size)
      have c_o_0_w5 := x_o.cell (i := 0) rfl
      have f_o_0_w5 := x_o.frozen 0
      have c_o_1_w5 := x_o.cell (i := 1) rfl
      have f_o_1_w5 := x_o.frozen 1
      have c_x_0_w5 := x_x.cell (i := 0) rfl
      have f_x_0_w5 := x_x.frozen 0
      have c_x_1_w5 := x_x.cell (i := 1) rfl
      have f_x_1_w5 := x_x.frozen 1
      obtain ⟨w6, e_w6, s_w6, h_w6, y⟩ := store_step x_o [.int .i64 O2.Next, .slice Ax O2.List.length cx] rfl
      replace e_w6 : ((w5.setCell ⟨w1.heap.size, 0, none⟩ (.int .i64 O2.Next)).setCell ⟨w1.heap.size, 1, none⟩ (.slice Ax O2.List.length cx)) = w6 := e_w6
      have s_w6_1 := Nat.le_of_eq s_w6
      have s_w6_2 := Nat.le_of_eq s_w6.symm
      clear s_w6
      replace x_m := x_m.chg h_w6 (by omega)
      replace x_x := x_x.chg h_w6 (by omega)
      replace o_x := o_x.chg h_w6 (by omega)
      have B_w6 := Below.chg_ B_w5 h_w6 (by omega) (by omega)
      replace x_o : Vr w6 (w1.heap.size) 26 [.int .i64 O2.Next, .slice Ax O2.List.length cx] := y
      clear y
      go_wp2
      go_roundw
      case rel => exact ⟨k + 1, O2, Ax, cx, _, _, by omega, by go_num, HO2, x_o, o_x, .inl (by omega), by omega, B_w6⟩
      case measure => simp [intOf]; omega
    obtain rfl : k = l.length := by omega
    obtain ⟨W3, rfl⟩ : ∃ x, x = wr := ⟨_, rfl⟩
    have HO3 : Hid (O = ⟨1 + (l.length : Int), l⟩) := by show _ = _; rw [HO.out, List.take_length]
    clear HO hlt hk
    have rO := o_o.rd
    clear o_o hd hlo
    have BW := h1.trans (HB.mono h1.size)
    replace rL := (rL.below HB).more HB.size
    have B3 : Below W3.heap.size W3 W3 := Below.refl _ _
    have x_o3 := x_o
    have lo3 := lO
    have oL := ov_msgs_lit W3
    obtain ⟨W4, e4, s4, h4, -⟩ := alloc_step W3 29 []
    have e4' : W3.alloc (.cells #[] 29) = W4 := e4
    rw [e4'] at oL
    clear e4'
    have s4_1 := Nat.le_of_eq s4
    have s4_2 := Nat.le_of_eq s4.symm
    clear s4
    replace x_o := x_o.from_ h4
    have B_W4 := B3.trans (h4.mono B3.size)
    have s_W4 := h4.size
    have BW4 := BW.trans (h4.mono BW.size)
    go_wp2_with fail
    refine (makeNums_any A c zs 9 _ ((hr.below BW4).more BW4.size) hb hm (by omega) (by omega)).mono ?_
    rintro e W5 ⟨vn, ns, rfl, on, hin, nl, h5⟩
    replace x_o := x_o.from_ h5
    replace oL := oL.below h5
    have B_W5 := B_W4.trans (h5.mono B_W4.size)
    have s_W5 := h5.size
    have o_n : OS .i64 3 W5 W4.heap.size W5.heap.size vn ns := OS.mk_ on
    clear on
    obtain ⟨Ax, cx, rfl, qn1, qn2, -⟩ := o_n.rd
    unfold maxLen at qn2
    have ovg : 0 < W5.heap.size := by omega
    go_wp2
    go_loopw [9, 10, 47] (fun s9 s10 s47 wr => ∃ (j L : Nat) (g : List MMsg) (gl gh : Nat), j ≤ ns.length ∧ s47 = .int .i64 j ∧ s9 = .int .i64 L ∧ L ≤ l.length ∧ Hid (g = l.take L) ∧ OV msgSL wr gl gh s10 g ∧ (gh ≤ W4.heap.size ∨ W5.heap.size ≤ gl) ∧ W3.heap.size ≤ gl ∧ gl ≤ gh ∧ OS .i64 3 wr W4.heap.size W5.heap.size (.slice Ax ns.length cx) ns ∧ W5.heap.size ≤ wr.heap.size ∧ Below W3.heap.size W3 wr) (fun _ _ i _ => ns.length - (intOf i).toNat)
    case atStart => exact ⟨0, 0, [], _, _, Nat.zero_le _, rfl, rfl, Nat.zero_le _, rfl, oL, .inl (by omega), Nat.le_refl _, by omega, o_n, Nat.le_refl _, B_W5⟩
    case round =>
      obtain ⟨j, L, g, gl, gh, hj, rfl, rfl, hL, HG, o_g, gd, gl0, glh, o_m, h5s, HB2⟩ := hrel
      obtain ⟨Ag, cg, rfl, -, -, -⟩ := rv_slice o_g.rd
      have lg : g.length ≤ L ∧ L ≤ g.length := by rw [HG.out, List.length_take]; omega
      have hs2 := HB2.size
      have ghs := o_g.le
      have xo2 := x_o3.from_ HB2
      by_cases hjn : j < ns.length
      case pos =>
        obtain ⟨bn, fn, rfl, hbn, hcn⟩ := o_m.rd.rd_ (by omega)
        replace hcn := hcn j hjn
        obtain ⟨q, hq⟩ : ∃ q, ns.getD j 0 = q := ⟨_, rfl⟩
        have bq : 0 ≤ q ∧ q < 9 := by rw [← hq, List.getD_eq_getElem?_getD, List.getElem?_eq_getElem hjn]; exact hin _ (List.getElem_mem hjn)
        rw [hq] at hcn
        clear hq
        have i1 : (j : Int) < (ns.length : Int) := by omega
        have EB : Hid (outAtB O q = decide (1 ≤ q ∧ q ≤ (l.length : Int))) := by show _ = _; rw [HO3.out]; exact ob_atB hall hlen
        replace x_o := xo2
        clear xo2
        by_cases h1q : 1 ≤ q
        case pos =>
          by_cases h2q : q ≤ (l.length : Int)
          case pos =>
            by_cases h3q : q = (L : Int) + 1
            case pos =>
              have h3a : q ≤ (L : Int) + 1 ∧ (L : Int) + 1 ≤ q := by omega
              clear h3q
              have bt : outAtB O q = true := by rw [EB.out]; exact decide_eq_true (by omega)
              have HT := Lib.hid bt
              clear bt EB
              have t1 : decide ((1 : Int) ≤ q) = true := decide_eq_true (by omega)
              have t2 : decide (q ≤ (l.length : Int)) = true := decide_eq_true (by omega)
              have HI : Hid (inTakeN (L : Int) q = (L : Int) + 1 ∧ inTakeB (L : Int) q = true) := by show _ ∧ _; rw [show q = (L : Int) + 1 by omega]; exact inTake_hit _
              have c_o_0_wr := x_o.cell (i := 0) rfl
              have f_o_0_wr := x_o.frozen 0
              have c_o_1_wr := x_o.cell (i := 1) rfl
              have f_o_1_wr := x_o.frozen 1
              go_wp2_with fail
              refine (iOutAt_c (q := q) (rO.from_ HB2) (by omega) (by omega)).mono ?_
              rintro e w7 ⟨v2, rfl, o_x, h_w7⟩
              clear c_o_0_wr f_o_0_wr c_o_1_wr f_o_1_wr
              replace x_o := x_o.from_ h_w7
              replace o_g := o_g.below h_w7
              replace o_m := o_m.below h_w7
              have B_w7 := HB2.trans (h_w7.mono HB2.size)
              have s_w7 := h_w7.size
              obtain ⟨x, hx⟩ : ∃ x, outAtM O q = x := ⟨_, rfl⟩
              rw [hx] at o_x
              rw [HT.out]
              have HX := Lib.hid hx
              clear hx
              obtain rfl := rv_msg o_x.rd
              clear o_x
              obtain ⟨w8, e_w8, s_w8, h_w8, x_m⟩ := alloc_step w7 29 [.int .i64 x.Kind, .int .i64 x.Acct, .int .i64 x.Amt, .int .i64 x.Src]
              have s_w8_1 := Nat.le_of_eq s_w8
              have s_w8_2 := Nat.le_of_eq s_w8.symm
              clear s_w8
              replace x_o := x_o.from_ h_w8
              replace o_g := o_g.below h_w8
              replace o_m := o_m.below h_w8
              have B_w8 := B_w7.trans (h_w8.mono B_w7.size)
              have c_o_0_w8 := x_o.cell (i := 0) rfl
              have f_o_0_w8 := x_o.frozen 0
              have c_o_1_w8 := x_o.cell (i := 1) rfl
              have f_o_1_w8 := x_o.frozen 1
              have c_m_0_w8 := x_m.cell (i := 0) rfl
              have f_m_0_w8 := x_m.frozen 0
              have c_m_1_w8 := x_m.cell (i := 1) rfl
              have f_m_1_w8 := x_m.frozen 1
              have c_m_2_w8 := x_m.cell (i := 2) rfl
              have f_m_2_w8 := x_m.frozen 2
              have c_m_3_w8 := x_m.cell (i := 3) rfl
              have f_m_3_w8 := x_m.frozen 3
              go_wp2_with fail
              refine (iInTake_c (L : Int) q _ (by omega) (by omega)).mono ?_
              rintro e w9 ⟨rfl, h_w9⟩
              clear c_o_0_w8 f_o_0_w8 c_o_1_w8 f_o_1_w8 c_m_0_w8 f_m_0_w8 c_m_1_w8 f_m_1_w8 c_m_2_w8 f_m_2_w8 c_m_3_w8 f_m_3_w8
              replace x_o := x_o.from_ h_w9
              replace x_m := x_m.from_ h_w9
              replace o_g := o_g.below h_w9
              replace o_m := o_m.below h_w9
              have B_w9 := B_w8.trans (h_w9.mono B_w8.size)
              have s_w9 := h_w9.size
              rw [HI.out.1, HI.out.2]
              have c_o_0_w9 := x_o.cell (i := 0) rfl
              have f_o_0_w9 := x_o.frozen 0
              have c_o_1_w9 := x_o.cell (i := 1) rfl
              have f_o_1_w9 := x_o.frozen 1
              have c_m_0_w9 := x_m.cell (i := 0) rfl
              have f_m_0_w9 := x_m.frozen 0
              have c_m_1_w9 := x_m.cell (i := 1) rfl
              have f_m_1_w9 := x_m.frozen 1
              have c_m_2_w9 := x_m.cell (i := 2) rfl
              have f_m_2_w9 := x_m.frozen 2
              have c_m_3_w9 := x_m.cell (i := 3) rfl
              have f_m_3_w9 := x_m.frozen 3
              have hLl : L < l.length := by omega
              obtain ⟨y, hye⟩ := get_of_lt hLl
              have exy : x = y := by rw [← HX.out, HO3.out, show q = (L : Int) + 1 by omega]; exact ob_atM hall hlen hye
              subst exy
              have HG2 : Hid (g ++ [x] = l.take (L + 1)) := by show _ = _; rw [HG.out, List.take_add_one, hye]; rfl
              clear hye
              clear c_o_0_w9 f_o_0_w9 c_o_1_w9 f_o_1_w9 c_m_0_w9 f_m_0_w9 c_m_1_w9 f_m_1_w9 c_m_2_w9 f_m_2_w9 c_m_3_w9 f_m_3_w9
              have c_o_0_w9 := x_o.cell (i := 0) rfl
              have f_o_0_w9 := x_o.frozen 0
              have c_o_1_w9 := x_o.cell (i := 1) rfl
              have f_o_1_w9 := x_o.frozen 1
              have c_m_0_w9 := x_m.cell (i := 0) rfl
              have f_m_0_w9 := x_m.frozen 0
              have c_m_1_w9 := x_m.cell (i := 1) rfl
              have f_m_1_w9 := x_m.frozen 1
              have c_m_2_w9 := x_m.cell (i := 2) rfl
              have f_m_2_w9 := x_m.frozen 2
              have c_m_3_w9 := x_m.cell (i := 3) rfl
              have f_m_3_w9 := x_m.frozen 3
              obtain ⟨wz, ez, sz, hz, xz⟩ := alloc_step w9 29 [.int .i64 x.Kind, .int .i64 x.Acct, .int .i64 x.Amt, .int .i64 x.Src]
              have sz_1 := Nat.le_of_eq sz
              have sz_2 := Nat.le_of_eq sz.symm
              clear sz
              replace x_o := x_o.from_ hz
              replace x_m := x_m.from_ hz
              replace o_g := o_g.below hz
              replace o_m := o_m.below hz
              have B_wz := B_w9.trans (hz.mono B_w9.size)
              have hRV := xz.rdV
              obtain ⟨ys, R, hback⟩ := OV.app_n2 own_msg_nil o_g (cs := [.int .i64 x.Kind, .int .i64 x.Acct, .int .i64 x.Amt, .int .i64 x.Src]) rfl (fun w => own_msg w x) (by omega)
              go_wp2_with (at_builtin; refine wpl_appN _ rfl (.tmp 77) (.tmp 79) 23 rfl 0 4 29 i0 (.agg #[.int .i64 0, .int .i64 0, .int .i64 0, .int .i64 0]) 32 Try.underlying23 hi hz0 hz1 hz2 rfl (by decide) _ g.length ys rfl R _ _ _ 1 [.int .i64 x.Kind, .int .i64 x.Acct, .int .i64 x.Amt, .int .i64 x.Src] rfl rfl hRV ?d0 ?d1 (by decide) (Nat.zero_le _) ?_)
              case d0 => intro u hu; simp only [List.mem_cons, List.not_mem_nil, or_false] at hu; rcases hu with rfl | rfl | rfl | rfl <;> rfl
              case d1 => omega
              intro v6 w6 ho6 hg6 hat6
              obtain ⟨c6, o6⟩ := hback v6 w6 ho6 hg6 hat6
              clear hback R ho6 hg6 hat6 hRV
              clear o_g
              replace x_o := x_o.chg c6 (by omega)
              replace x_m := x_m.chg c6 (by omega)
              replace o_m := o_m.chg c6 (by omega)
              have B_w6 := Below.chg_ B_wz c6 (by omega) (by omega)
              have s_w6 := c6.size
              have o7 : ∃ a b, OV msgSL w6 a b v6 (g ++ [x]) ∧ (b ≤ W4.heap.size ∨ W5.heap.size ≤ a) ∧ W3.heap.size ≤ a ∧ a ≤ b := by
                rcases o6 with h | h
                · exact ⟨_, _, h, gd, gl0, glh⟩
                · exact ⟨_, _, h, .inr (by omega), by omega, c6.size⟩
              obtain ⟨a7, b7, o7, gd7, gl7, ab7⟩ := o7
              go_wp2
              go_roundw
              case rel => exact ⟨j + 1, L + 1, g ++ [x], a7, b7, by omega, by go_num, by go_num, by omega, HG2, o7, gd7, gl7, ab7, o_m, by omega, B_w6⟩
              case measure => simp [intOf]; omega
            case neg =>
              have h3a : q < (L : Int) + 1 ∨ (L : Int) + 1 < q := by omega
              clear h3q
              have bt : outAtB O q = true := by rw [EB.out]; exact decide_eq_true (by omega)
              have HT := Lib.hid bt
              clear bt EB
              have t1 : decide ((1 : Int) ≤ q) = true := decide_eq_true (by omega)
              have t2 : decide (q ≤ (l.length : Int)) = true := decide_eq_true (by omega)
              have HI : Hid (inTakeN (L : Int) q = (L : Int) ∧ inTakeB (L : Int) q = false) := inTake_miss (by omega)
              have c_o_0_wr := x_o.cell (i := 0) rfl
              have f_o_0_wr := x_o.frozen 0
              have c_o_1_wr := x_o.cell (i := 1) rfl
              have f_o_1_wr := x_o.frozen 1
              go_wp2_with fail
              refine (iOutAt_c (q := q) (rO.from_ HB2) (by omega) (by omega)).mono ?_
              rintro e w7 ⟨v2, rfl, o_x, h_w7⟩
              clear c_o_0_wr f_o_0_wr c_o_1_wr f_o_1_wr
              replace x_o := x_o.from_ h_w7
              replace o_g := o_g.below h_w7
              replace o_m := o_m.below h_w7
              have B_w7 := HB2.trans (h_w7.mono HB2.size)
              have s_w7 := h_w7.size
              obtain ⟨x, hx⟩ : ∃ x, outAtM O q = x := ⟨_, rfl⟩
              rw [hx] at o_x
              rw [HT.out]
              have HX := Lib.hid hx
              clear hx
              obtain rfl := rv_msg o_x.rd
              clear o_x
              obtain ⟨w8, e_w8, s_w8, h_w8, x_m⟩ := alloc_step w7 29 [.int .i64 x.Kind, .int .i64 x.Acct, .int .i64 x.Amt, .int .i64 x.Src]
              have s_w8_1 := Nat.le_of_eq s_w8
              have s_w8_2 := Nat.le_of_eq s_w8.symm
              clear s_w8
              replace x_o := x_o.from_ h_w8
              replace o_g := o_g.below h_w8
              replace o_m := o_m.below h_w8
              have B_w8 := B_w7.trans (h_w8.mono B_w7.size)
              have c_o_0_w8 := x_o.cell (i := 0) rfl
              have f_o_0_w8 := x_o.frozen 0
              have c_o_1_w8 := x_o.cell (i := 1) rfl
              have f_o_1_w8 := x_o.frozen 1
              have c_m_0_w8 := x_m.cell (i := 0) rfl
              have f_m_0_w8 := x_m.frozen 0
              have c_m_1_w8 := x_m.cell (i := 1) rfl
              have f_m_1_w8 := x_m.frozen 1
              have c_m_2_w8 := x_m.cell (i := 2) rfl
              have f_m_2_w8 := x_m.frozen 2
              have c_m_3_w8 := x_m.cell (i := 3) rfl
              have f_m_3_w8 := x_m.frozen 3
              go_wp2_with fail
              refine (iInTake_c (L : Int) q _ (by omega) (by omega)).mono ?_
              rintro e w9 ⟨rfl, h_w9⟩
              clear c_o_0_w8 f_o_0_w8 c_o_1_w8 f_o_1_w8 c_m_0_w8 f_m_0_w8 c_m_1_w8 f_m_1_w8 c_m_2_w8 f_m_2_w8 c_m_3_w8 f_m_3_w8
              replace x_o := x_o.from_ h_w9
              replace x_m := x_m.from_ h_w9
              replace o_g := o_g.below h_w9
              replace o_m := o_m.below h_w9
              have B_w9 := B_w8.trans (h_w9.mono B_w8.size)
              have s_w9 := h_w9.size
              rw [HI.out.1, HI.out.2]
              have c_o_0_w9 := x_o.cell (i := 0) rfl
              have f_o_0_w9 := x_o.frozen 0
              have c_o_1_w9 := x_o.cell (i := 1) rfl
              have f_o_1_w9 := x_o.frozen 1
              have c_m_0_w9 := x_m.cell (i := 0) rfl
              have f_m_0_w9 := x_m.frozen 0
              have c_m_1_w9 := x_m.cell (i := 1) rfl
              have f_m_1_w9 := x_m.frozen 1
              have c_m_2_w9 := x_m.cell (i := 2) rfl
              have f_m_2_w9 := x_m.frozen 2
              have c_m_3_w9 := x_m.cell (i := 3) rfl
              have f_m_3_w9 := x_m.frozen 3
              go_wp2
              go_roundw
              case rel => exact ⟨j + 1, L, g, gl, gh, by omega, by go_num, rfl, hL, HG, o_g, gd, gl0, glh, o_m, by omega, B_w9⟩
              case measure => simp [intOf]; omega
          case neg =>
            by_cases h3q : q = (L : Int) + 1
            case pos =>
              have h3a : q ≤ (L : Int) + 1 ∧ (L : Int) + 1 ≤ q := by omega
              clear h3q
              have bt : outAtB O q = false := by rw [EB.out]; exact decide_eq_false (by omega)
              have HT := Lib.hid bt
              clear bt EB
              have t1 : decide ((1 : Int) ≤ q) = true := decide_eq_true (by omega)
              have t2 : decide (q ≤ (l.length : Int)) = false := decide_eq_false (by omega)
              have HI : Hid (inTakeN (L : Int) q = (L : Int) + 1 ∧ inTakeB (L : Int) q = true) := by show _ ∧ _; rw [show q = (L : Int) + 1 by omega]; exact inTake_hit _
              have c_o_0_wr := x_o.cell (i := 0) rfl
              have f_o_0_wr := x_o.frozen 0
              have c_o_1_wr := x_o.cell (i := 1) rfl
              have f_o_1_wr := x_o.frozen 1
              go_wp2_with fail
              refine (iOutAt_c (q := q) (rO.from_ HB2) (by omega) (by omega)).mono ?_
              rintro e w7 ⟨v2, rfl, o_x, h_w7⟩
              clear c_o_0_wr f_o_0_wr c_o_1_wr f_o_1_wr
              replace x_o := x_o.from_ h_w7
              replace o_g := o_g.below h_w7
              replace o_m := o_m.below h_w7
              have B_w7 := HB2.trans (h_w7.mono HB2.size)
              have s_w7 := h_w7.size
              obtain ⟨x, hx⟩ : ∃ x, outAtM O q = x := ⟨_, rfl⟩
              rw [hx] at o_x
              rw [HT.out]
              have HX := Lib.hid hx
              clear hx
              obtain rfl := rv_msg o_x.rd
              clear o_x
              obtain ⟨w8, e_w8, s_w8, h_w8, x_m⟩ := alloc_step w7 29 [.int .i64 x.Kind, .int .i64 x.Acct, .int .i64 x.Amt, .int .i64 x.Src]
              have s_w8_1 := Nat.le_of_eq s_w8
              have s_w8_2 := Nat.le_of_eq s_w8.symm
              clear s_w8
              replace x_o := x_o.from_ h_w8
              replace o_g := o_g.below h_w8
              replace o_m := o_m.below h_w8
              have B_w8 := B_w7.trans (h_w8.mono B_w7.size)
              have c_o_0_w8 := x_o.cell (i := 0) rfl
              have f_o_0_w8 := x_o.frozen 0
              have c_o_1_w8 := x_o.cell (i := 1) rfl
              have f_o_1_w8 := x_o.frozen 1
              have c_m_0_w8 := x_m.cell (i := 0) rfl
              have f_m_0_w8 := x_m.frozen 0
              have c_m_1_w8 := x_m.cell (i := 1) rfl
              have f_m_1_w8 := x_m.frozen 1
              have c_m_2_w8 := x_m.cell (i := 2) rfl
              have f_m_2_w8 := x_m.frozen 2
              have c_m_3_w8 := x_m.cell (i := 3) rfl
              have f_m_3_w8 := x_m.frozen 3
              go_wp2_with fail
              refine (iInTake_c (L : Int) q _ (by omega) (by omega)).mono ?_
              rintro e w9 ⟨rfl, h_w9⟩
              clear c_o_0_w8 f_o_0_w8 c_o_1_w8 f_o_1_w8 c_m_0_w8 f_m_0_w8 c_m_1_w8 f_m_1_w8 c_m_2_w8 f_m_2_w8 c_m_3_w8 f_m_3_w8
              replace x_o := x_o.from_ h_w9
              replace x_m := x_m.from_ h_w9
              replace o_g := o_g.below h_w9
              replace o_m := o_m.below h_w9
              have B_w9 := B_w8.trans (h_w9.mono B_w8.size)
              have s_w9 := h_w9.size
              rw [HI.out.1, HI.out.2]
              have c_o_0_w9 := x_o.cell (i := 0) rfl
              have f_o_0_w9 := x_o.frozen 0
              have c_o_1_w9 := x_o.cell (i := 1) rfl
              have f_o_1_w9 := x_o.frozen 1
              have c_m_0_w9 := x_m.cell (i := 0) rfl
              have f_m_0_w9 := x_m.frozen 0
              have c_m_1_w9 := x_m.cell (i := 1) rfl
              have f_m_1_w9 := x_m.frozen 1
              have c_m_2_w9 := x_m.cell (i := 2) rfl
              have f_m_2_w9 := x_m.frozen 2
              have c_m_3_w9 := x_m.cell (i := 3) rfl
              have f_m_3_w9 := x_m.frozen 3
              go_wp2
              go_roundw
              case rel => exact ⟨j + 1, L, g, gl, gh, by omega, by go_num, rfl, hL, HG, o_g, gd, gl0, glh, o_m, by omega, B_w9⟩
              case measure => simp [intOf]; omega
            case neg =>
              have h3a : q < (L : Int) + 1 ∨ (L : Int) + 1 < q := by omega
              clear h3q
              have bt : outAtB O q = false := by rw [EB.out]; exact decide_eq_false (by omega)
              have HT := Lib.hid bt
              clear bt EB
              have t1 : decide ((1 : Int) ≤ q) = true := decide_eq_true (by omega)
              have t2 : decide (q ≤ (l.length : Int)) = false := decide_eq_false (by omega)
              have HI : Hid (inTakeN (L : Int) q = (L : Int) ∧ inTakeB (L : Int) q = false) := inTake_miss (by omega)
              have c_o_0_wr := x_o.cell (i := 0) rfl
              have f_o_0_wr := x_o.frozen 0
              have c_o_1_wr := x_o.cell (i := 1) rfl
              have f_o_1_wr := x_o.frozen 1
              go_wp2_with fail
              refine (iOutAt_c (q := q) (rO.from_ HB2) (by omega) (by omega)).mono ?_
              rintro e w7 ⟨v2, rfl, o_x, h_w7⟩
              clear c_o_0_wr f_o_0_wr c_o_1_wr f_o_1_wr
              replace x_o := x_o.from_ h_w7
              replace o_g := o_g.below h_w7
              replace o_m := o_m.below h_w7
              have B_w7 := HB2.trans (h_w7.mono HB2.size)
              have s_w7 := h_w7.size
              obtain ⟨x, hx⟩ : ∃ x, outAtM O q = x := ⟨_, rfl⟩
              rw [hx] at o_x
              rw [HT.out]
              have HX := Lib.hid hx
              clear hx
              obtain rfl := rv_msg o_x.rd
              clear o_x
              obtain ⟨w8, e_w8, s_w8, h_w8, x_m⟩ := alloc_step w7 29 [.int .i64 x.Kind, .int .i64 x.Acct, .int .i64 x.Amt, .int .i64 x.Src]
              have s_w8_1 := Nat.le_of_eq s_w8
              have s_w8_2 := Nat.le_of_eq s_w8.symm
              clear s_w8
              replace x_o := x_o.from_ h_w8
              replace o_g := o_g.below h_w8
              replace o_m := o_m.below h_w8
              have B_w8 := B_w7.trans (h_w8.mono B_w7.size)
              have c_o_0_w8 := x_o.cell (i := 0) rfl
              have f_o_0_w8 := x_o.frozen 0
              have c_o_1_w8 := x_o.cell (i := 1) rfl
              have f_o_1_w8 := x_o.frozen 1
              have c_m_0_w8 := x_m.cell (i := 0) rfl
              have f_m_0_w8 := x_m.frozen 0
              have c_m_1_w8 := x_m.cell (i := 1) rfl
              have f_m_1_w8 := x_m.frozen 1
              have c_m_2_w8 := x_m.cell (i := 2) rfl
              have f_m_2_w8 := x_m.frozen 2
              have c_m_3_w8 := x_m.cell (i := 3) rfl
              have f_m_3_w8 := x_m.frozen 3
              go_wp2_with fail
              refine (iInTake_c (L : Int) q _ (by omega) (by omega)).mono ?_
              rintro e w9 ⟨rfl, h_w9⟩
              clear c_o_0_w8 f_o_0_w8 c_o_1_w8 f_o_1_w8 c_m_0_w8 f_m_0_w8 c_m_1_w8 f_m_1_w8 c_m_2_w8 f_m_2_w8 c_m_3_w8 f_m_3_w8
              replace x_o := x_o.from_ h_w9
              replace x_m := x_m.from_ h_w9
              replace o_g := o_g.below h_w9
              replace o_m := o_m.below h_w9
              have B_w9 := B_w8.trans (h_w9.mono B_w8.size)
              have s_w9 := h_w9.size
              rw [HI.out.1, HI.out.2]
              have c_o_0_w9 := x_o.cell (i := 0) rfl
              have f_o_0_w9 := x_o.frozen 0
              have c_o_1_w9 := x_o.cell (i := 1) rfl
              have f_o_1_w9 := x_o.frozen 1
              have c_m_0_w9 := x_m.cell (i := 0) rfl
              have f_m_0_w9 := x_m.frozen 0
              have c_m_1_w9 := x_m.cell (i := 1) rfl
              have f_m_1_w9 := x_m.frozen 1
              have c_m_2_w9 := x_m.cell (i := 2) rfl
              have f_m_2_w9 := x_m.frozen 2
              have c_m_3_w9 := x_m.cell (i := 3) rfl
              have f_m_3_w9 := x_m.frozen 3
              go_wp2
              go_roundw
              case rel => exact ⟨j + 1, L, g, gl, gh, by omega, by go_num, rfl, hL, HG, o_g, gd, gl0, glh, o_m, by omega, B_w9⟩
              case measure => simp [intOf]; omega
        case neg =>
          by_cases h2q : q ≤ (l.length : Int)
          case pos =>
            have bt : outAtB O q = false := by rw [EB.out]; exact decide_eq_false (by omega)
            have HT := Lib.hid bt
            clear bt EB
            have t1 : decide ((1 : Int) ≤ q) = false := decide_eq_false (by omega)
            have t2 : decide (q ≤ (l.length : Int)) = true := decide_eq_true (by omega)
            have HI : Hid (inTakeN (L : Int) q = (L : Int) ∧ inTakeB (L : Int) q = false) := inTake_miss (by omega)
            have c_o_0_wr := x_o.cell (i := 0) rfl
            have f_o_0_wr := x_o.frozen 0
            have c_o_1_wr := x_o.cell (i := 1) rfl
            have f_o_1_wr := x_o.frozen 1
            go_wp2_with fail
            refine (iOutAt_c (q := q) (rO.from_ HB2) (by omega) (by omega)).mono ?_
            rintro e w7 ⟨v2, rfl, o_x, h_w7⟩
            clear c_o_0_wr f_o_0_wr c_o_1_wr f_o_1_wr
            replace x_o := x_o.from_ h_w7
            replace o_g := o_g.below h_w7
            replace o_m := o_m.below h_w7
            have B_w7 := HB2.trans (h_w7.mono HB2.size)
            have s_w7 := h_w7.size
            obtain ⟨x, hx⟩ : ∃ x, outAtM O q = x := ⟨_, rfl⟩
            rw [hx] at o_x
            rw [HT.out]
            have HX := Lib.hid hx
            clear hx
            obtain rfl := rv_msg o_x.rd
            clear o_x
            obtain ⟨w8, e_w8, s_w8, h_w8, x_m⟩ := alloc_step w7 29 [.int .i64 x.Kind, .int .i64 x.Acct, .int .i64 x.Amt, .int .i64 x.Src]
            have s_w8_1 := Nat.le_of_eq s_w8
            have s_w8_2 := Nat.le_of_eq s_w8.symm
            clear s_w8
            replace x_o := x_o.from_ h_w8
            replace o_g := o_g.below h_w8
            replace o_m := o_m.below h_w8
            have B_w8 := B_w7.trans (h_w8.mono B_w7.size)
            have c_o_0_w8 := x_o.cell (i := 0) rfl
            have f_o_0_w8 := x_o.frozen 0
            have c_o_1_w8 := x_o.cell (i := 1) rfl
            have f_o_1_w8 := x_o.frozen 1
            have c_m_0_w8 := x_m.cell (i := 0) rfl
            have f_m_0_w8 := x_m.frozen 0
            have c_m_1_w8 := x_m.cell (i := 1) rfl
            have f_m_1_w8 := x_m.frozen 1
            have c_m_2_w8 := x_m.cell (i := 2) rfl
            have f_m_2_w8 := x_m.frozen 2
            have c_m_3_w8 := x_m.cell (i := 3) rfl
            have f_m_3_w8 := x_m.frozen 3
            go_wp2_with fail
            refine (iInTake_c (L : Int) q _ (by omega) (by omega)).mono ?_
            rintro e w9 ⟨rfl, h_w9⟩
            clear c_o_0_w8 f_o_0_w8 c_o_1_w8 f_o_1_w8 c_m_0_w8 f_m_0_w8 c_m_1_w8 f_m_1_w8 c_m_2_w8 f_m_2_w8 c_m_3_w8 f_m_3_w8
            replace x_o := x_o.from_ h_w9
            replace x_m := x_m.from_ h_w9
            replace o_g := o_g.below h_w9
            replace o_m := o_m.below h_w9
            have B_w9 := B_w8.trans (h_w9.mono B_w8.size)
            have s_w9 := h_w9.size
            rw [HI.out.1, HI.out.2]
            have c_o_0_w9 := x_o.cell (i := 0) rfl
            have f_o_0_w9 := x_o.frozen 0
            have c_o_1_w9 := x_o.cell (i := 1) rfl
            have f_o_1_w9 := x_o.frozen 1
            have c_m_0_w9 := x_m.cell (i := 0) rfl
            have f_m_0_w9 := x_m.frozen 0
            have c_m_1_w9 := x_m.cell (i := 1) rfl
            have f_m_1_w9 := x_m.frozen 1
            have c_m_2_w9 := x_m.cell (i := 2) rfl
            have f_m_2_w9 := x_m.frozen 2
            have c_m_3_w9 := x_m.cell (i := 3) rfl
            have f_m_3_w9 := x_m.frozen 3
            go_wp2
            go_roundw
            case rel => exact ⟨j + 1, L, g, gl, gh, by omega, by go_num, rfl, hL, HG, o_g, gd, gl0, glh, o_m, by omega, B_w9⟩
            case measure => simp [intOf]; omega
          case neg =>
            exfalso; omega
      obtain rfl : j = ns.length := by omega
      obtain ⟨W7, rfl⟩ : ∃ x, x = wr := ⟨_, rfl⟩
      clear hjn hj o_m h5s gd gl0 glh ghs
      obtain ⟨_, _, he, -, -, rG⟩ := rv_slice o_g.rd
      simp only [Value.slice.injEq, true_and] at he
      obtain ⟨rfl, rfl⟩ := he
      clear o_g
      have rO7 := rO.from_ HB2
      have rL7 := (rL.below HB2).more HB2.size
      have B7 : Below W7.heap.size W7 W7 := Below.refl _ _
      go_wp2
      go_loopw [85] (fun s85 wr => ∃ i : Nat, i ≤ g.length ∧ s85 = .int .i64 i ∧ Below W7.heap.size W7 wr) (fun i _ => g.length - (intOf i).toNat)
      case atStart => exact ⟨0, Nat.zero_le _, rfl, B7⟩
      case round =>
        obtain ⟨i, hil, rfl, HB3⟩ := hrel
        have hs3 := HB3.size
        by_cases hig : i < g.length
        case pos =>
          obtain ⟨x, hxe⟩ := get_of_lt hig
          have hye : l[i]? = some x := by have h := hxe; rw [HG.out, List.getElem?_take] at h; split at h; exact h; cases h
          obtain ⟨b, off, rfl, hb, e0, e1, e2, e3⟩ := el_msg (rG.below HB3) hxe
          obtain ⟨b', off', rfl, hb', d0, d1, d2, d3⟩ := el_msg (rL7.below HB3) hye
          have i1 : (i : Int) < (g.length : Int) := by omega
          have i2 : (i : Int) < (l.length : Int) := by omega
          obtain ⟨w7, e_w7, s_w7, h_w7, x_m⟩ := alloc_step wr 29 [.int .i64 x.Kind, .int .i64 x.Acct, .int .i64 x.Amt, .int .i64 x.Src]
          have s_w7_1 := Nat.le_of_eq s_w7
          have s_w7_2 := Nat.le_of_eq s_w7.symm
          clear s_w7
          have B_w7 := HB3.trans (h_w7.mono HB3.size)
          have c_m_0_w7 := x_m.cell (i := 0) rfl
          have c_m_1_w7 := x_m.cell (i := 1) rfl
          have c_m_2_w7 := x_m.cell (i := 2) rfl
          have c_m_3_w7 := x_m.cell (i := 3) rfl
          replace d0 := (h_w7.cell (p := ⟨b', off' + i * 4, none⟩) (by show b' < wr.heap.size; omega)).trans d0
          replace d1 := (h_w7.cell (p := ⟨b', off' + i * 4 + 1, none⟩) (by show b' < wr.heap.size; omega)).trans d1
          replace d2 := (h_w7.cell (p := ⟨b', off' + i * 4 + 2, none⟩) (by show b' < wr.heap.size; omega)).trans d2
          replace d3 := (h_w7.cell (p := ⟨b', off' + i * 4 + 3, none⟩) (by show b' < wr.heap.size; omega)).trans d3
          have gd := fun op x y W xs ys => guard_msg_run op x y W xs ys
          have gn := fun W => neq_msg_run W x x
          rw [show (!decide (x = x)) = false by simp] at gn
          clear hxe hye
          have t3 : decide (l.length ≤ i) = false := decide_eq_false (by omega)
          go_wp2_with fail
          go_quiet (fail)
          have B9 : Below W7.heap.size W7 (w7.drewN nq) := B_w7.trans (below_of_drew _ _ nq)
          go_wp2
          go_roundw
          case rel => exact ⟨i + 1, by omega, by go_num, B9⟩
          case measure => simp [intOf]; omega
        obtain rfl : i = g.length := by omega
        obtain ⟨W8, rfl⟩ : ∃ x, x = wr := ⟨_, rfl⟩
        clear hig hil rG rL7 rL
        have rO8 := rO7.from_ HB3
        have xo8 := (x_o3.from_ HB2).from_ HB3
        have BW8 : Below w.heap.size w W8 := (BW.trans (HB2.mono BW.size)).trans (HB3.mono (BW.trans (HB2.mono BW.size)).size)
        have hLo := lo3
        have E1 : Hid (outAckB O (L : Int) = true) := by show _ = _; rw [HO3.out]; exact (ob_ack hall hlen hL).1
        have E2 : Hid (outAck O (L : Int) = ⟨1 + (l.length : Int), l.drop L⟩) := by show _ = _; rw [HO3.out]; exact (ob_ack hall hlen hL).2
        replace x_o := xo8
        clear xo8
        have c_o_0_W8 := x_o.cell (i := 0) rfl
        have f_o_0_W8 := x_o.frozen 0
        have c_o_1_W8 := x_o.cell (i := 1) rfl
        have f_o_1_W8 := x_o.frozen 1
        go_wp2_with fail
        refine (iOutAck_c (q := (L : Int)) rO8 (by omega) (by omega)).mono ?_
        rintro e w8 ⟨v2, rfl, o_p, h_w8⟩
        clear c_o_0_W8 f_o_0_W8 c_o_1_W8 f_o_1_W8
        replace x_o := x_o.from_ h_w8
        have B_w8 := BW8.trans (h_w8.mono BW8.size)
        have s_w8 := h_w8.size
        obtain ⟨p, hp⟩ : ∃ p, outAck O (L : Int) = p := ⟨_, rfl⟩
        rw [hp] at o_p
        rw [E1.out]
        have HP : Hid (p = ⟨1 + (l.length : Int), l.drop L⟩) := by show _ = _; rw [← hp]; exact E2.out
        clear hp E1 E2
        obtain ⟨Ap, cp, rfl, -⟩ := rv_out o_p.rd
        obtain ⟨w9, e_w9, s_w9, h_w9, x_p⟩ := alloc_step w8 26 [.int .i64 p.Next, .slice Ap p.List.length cp]
        have s_w9_1 := Nat.le_of_eq s_w9
        have s_w9_2 := Nat.le_of_eq s_w9.symm
        clear s_w9
        replace x_o := x_o.from_ h_w9
        replace o_p := o_p.below h_w9
        have B_w9 := B_w8.trans (h_w9.mono B_w8.size)
        have c_o_0_w9 := x_o.cell (i := 0) rfl
        have f_o_0_w9 := x_o.frozen 0
        have c_o_1_w9 := x_o.cell (i := 1) rfl
        have f_o_1_w9 := x_o.frozen 1
        have c_p_0_w9 := x_p.cell (i := 0) rfl
        have f_p_0_w9 := x_p.frozen 0
        have c_p_1_w9 := x_p.cell (i := 1) rfl
        have f_p_1_w9 := x_p.frozen 1
        have rP := o_p.rd
        replace rO8 : RV outL w9 (.agg #[.int .i64 O.Next, .slice Ao O.List.length co]) O := rO8.from_ (h_w8.trans (h_w9.mono h_w8.size))
        have lp : p.List.length ≤ 7 := by rw [HP.out]; show (l.drop L).length ≤ 7; rw [List.length_drop]; omega
        have F1 : Hid (outFirst p = (L : Int) + 1) := by show _ = _; rw [HP.out]; exact ob_firstD hall hlen hL
        obtain ⟨W, hW⟩ : ∃ W, outWorth p 0 = W := ⟨_, rfl⟩
        have F2 := Lib.hid hW
        have F3 : Hid (outWorth O (L : Int) = W) := by show _ = _; rw [← hW, HP.out, HO3.out]; exact ob_worth hall hlen hL
        clear hW
        have F4 : Hid (outOkB p = true) := by show _ = _; rw [HP.out]; exact ob_okD hall hlen
        have t4 : ((L : Int) == (g.length : Int)) = true := by simp; omega
        have t4b : (L == g.length) = true := by simp; omega
        have t4c : decide (L = g.length) = true := decide_eq_true (by omega)
        have t6 : IntKind.i64.wrap ((L : Int) + 1) = (L : Int) + 1 := IntWalk.i64_in _ (by omega)
        have t5 : (p.Next == O.Next) = true := by rw [HP.out, HO3.out]; simp
        have ka := fun (X : World) (h : Below w9.heap.size w9 X) => iOutFirst_e (rP.from_ h) (by omega) F1
        have kb := fun (X : World) (h : Below w9.heap.size w9 X) => iOutWorth_e (q := (L : Int)) (rO8.from_ h) (by omega) (by omega) F3
        have kc := fun (X : World) (h : Below w9.heap.size w9 X) => iOutWorth_e (q := 0) (rP.from_ h) (by omega) (by omega) F2
        have kd := fun (X : World) (h : Below w9.heap.size w9 X) => iOutOk_e (rP.from_ h) (by omega) F4
        go_wp2_with fail
        go_region_held3 (fun w' => w'.cell? ⟨w1.heap.size, 0, none⟩ = some (.int .i64 O.Next) ∧ w'.cell? ⟨w1.heap.size, 1, none⟩ = some (.slice Ao O.List.length co) ∧ w'.cell? ⟨w8.heap.size, 0, none⟩ = some (.int .i64 p.Next) ∧ w'.cell? ⟨w8.heap.size, 1, none⟩ = some (.slice Ap p.List.length cp))
          (first | exact ⟨c_o_0_w9, c_o_1_w9, c_p_0_w9, c_p_1_w9⟩ | exact ⟨qa_o_0, qa_o_1, qa_p_0, qa_p_1⟩ | exact ⟨qb_o_0, qb_o_1, qb_p_0, qb_p_1⟩ | exact ⟨qc_o_0, qc_o_1, qc_p_0, qc_p_1⟩ | exact ⟨qd_o_0, qd_o_1, qd_p_0, qd_p_1⟩ | go_keep)
          (first | ((go_at_call 20); (refine (ka _ ((Below.refl w9.heap.size w9).drew)).mono ?_); rintro e w_a ⟨rfl, hd_a⟩; have hb_a : Below w9.heap.size w9 w_a := (Below.refl w9.heap.size w9).drew.trans hd_a; have sd_a := hd_a.size; replace sd_a : w9.heap.size ≤ w_a.heap.size := sd_a; have qa_o_0 := (x_o.from_ hb_a).cell (i := 0) rfl; have qa_o_1 := (x_o.from_ hb_a).cell (i := 1) rfl; have qa_p_0 := (x_p.from_ hb_a).cell (i := 0) rfl; have qa_p_1 := (x_p.from_ hb_a).cell (i := 1) rfl)
                 | ((go_at_call_of 21 (Value.int .i64 (L : Int))); (refine (kb _ hb_a).mono ?_); rintro e w_b ⟨rfl, hd_b⟩; have hb_b : Below w9.heap.size w9 w_b := hb_a.trans (hd_b.mono hb_a.size); have sd_b := hd_b.size; have qb_o_0 := (x_o.from_ hb_b).cell (i := 0) rfl; have qb_o_1 := (x_o.from_ hb_b).cell (i := 1) rfl; have qb_p_0 := (x_p.from_ hb_b).cell (i := 0) rfl; have qb_p_1 := (x_p.from_ hb_b).cell (i := 1) rfl)
                 | ((go_at_call_of 21 (Value.int .i64 0)); (refine (kc _ hb_b).mono ?_); rintro e w_c ⟨rfl, hd_c⟩; have hb_c : Below w9.heap.size w9 w_c := hb_b.trans (hd_c.mono hb_b.size); have sd_c := hd_c.size; have qc_o_0 := (x_o.from_ hb_c).cell (i := 0) rfl; have qc_o_1 := (x_o.from_ hb_c).cell (i := 1) rfl; have qc_p_0 := (x_p.from_ hb_c).cell (i := 0) rfl; have qc_p_1 := (x_p.from_ hb_c).cell (i := 1) rfl)
                 | ((go_at_call 22); (refine (kd _ hb_c).mono ?_); rintro e w_d ⟨rfl, hd_d⟩; have hb_d : Below w9.heap.size w9 w_d := hb_c.trans (hd_d.mono hb_c.size); have sd_d := hd_d.size; have qd_o_0 := (x_o.from_ hb_d).cell (i := 0) rfl; have qd_o_1 := (x_o.from_ hb_d).cell (i := 1) rfl; have qd_p_0 := (x_p.from_ hb_d).cell (i := 0) rfl; have qd_p_1 := (x_p.from_ hb_d).cell (i := 1) rfl)
                 | fail)
        go_wp2
        go_ret
        exact ⟨rfl, B_w9.trans (hb_d.mono B_w9.size)⟩

end Go.Proofs.Ytpaodpkgpajboaa
