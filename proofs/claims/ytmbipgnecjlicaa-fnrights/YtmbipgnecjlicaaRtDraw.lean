/- Rights drawn: spec.l06Draw, spec.MakeRights. Laid by a program of ours (src/rtdraw.py). -/
import Derived.Test.YtmbipgnecjlicaaRtSmall
import Derived.Test.YtmbipgnecjlicaaRt4
import Derived.Test.YtmbipgnecjlicaaCurV
import Derived.Test.YtmbipgnecjlicaaOutC
namespace Go.Proofs.Ytmbipgnecjlicaa
open Go.RowKit
set_option linter.unusedVariables false

theorem cell_sb {b : Nat} {p : Addr} (hp : p.block ≠ b) : ∀ (vs : List Value) (o : Nat) (w : World), (setAll w b o vs).cell? p = w.cell? p
  | [], _, _ => rfl
  | u :: vs, o, w => by
    rw [setAll, cell_sb hp vs (o + 1)]
    have := Below.heap_setCell w ⟨b, o, none⟩ u p.block hp
    unfold World.cell?
    rw [this]
theorem Chg.ofDrew {a b : Nat} {w w' : World} (h : Chg a b w.drew w') : Chg a b w w' := ⟨h.os, h.tape, h.output, h.size, h.block⟩

set_option maxRecDepth 100000 in
set_option maxHeartbeats 8000000 in
theorem cRights_c {w : World} {g : Nat} {A : Option Addr} {c : Nat} {zs : List Int} {n : Nat} (hk : CurOk w g A c zs) (hb : Bytes zs) (hm : zs.length ≤ 1073741824) (hn : 1 ≤ n ∧ n ≤ 4) :
    Calls Try.prog 44 #[.pointer (some ⟨g, 0, none⟩), .int .i64 (n : Int)] w fun e w' => ∃ v R, e = .returned v ∧ OV rightsL w' w.heap.size w'.heap.size v R ∧ SmallR 8 n R ∧ CurOk w' g A c zs ∧ Chg g (g + 1) w w' := by
  have hgl := hk.lt
  have hgle := Nat.le_of_lt hgl
  obtain ⟨wa, hwa, B0, sa, x_q⟩ := frame1 w 27 [.slice none 0 0, .slice none 0 0]
  have sa_1 := Nat.le_of_eq sa
  have sa_2 := Nat.le_of_eq sa.symm
  clear sa
  have Bg := B0.mono hgle
  have C0 := (Chg.refl g (g + 1) w).then_below B0
  replace hk := hk.below B0
  have c_q_0_wa := x_q.cell (i := 0) rfl
  have f_q_0_wa := x_q.frozen 0
  have c_q_1_wa := x_q.cell (i := 1) rfl
  have f_q_1_wa := x_q.frozen 1
  go_enter Try.func44, Try.ntmps44
  go_wp2_with fail
  refine (sRightsNew_c (n := (n : Int))).mono ?_
  rintro e w1 ⟨v1, rfl, o_r, h_w1⟩
  clear c_q_0_wa f_q_0_wa c_q_1_wa f_q_1_wa
  replace x_q := x_q.from_ h_w1
  replace hk := hk.below h_w1
  have B_w1 := Bg.trans (h_w1.mono (Nat.le_trans hgle Bg.size))
  have s_w1 := h_w1.size
  have C_w1 := C0.then_below h_w1
  obtain ⟨R0, hR0⟩ : ∃ R0, rightsNew (n : Int) = R0 := ⟨_, rfl⟩
  rw [hR0] at o_r
  have HS : SmallR 0 n R0 := hR0 ▸ new_small hn.1 hn.2
  clear hR0
  obtain ⟨AG, cG, AS, cS, rfl, -, -⟩ := rv_rights o_r.rd
  have c_q_0_w1 := x_q.cell (i := 0) rfl
  have f_q_0_w1 := x_q.frozen 0
  have c_q_1_w1 := x_q.cell (i := 1) rfl
  have f_q_1_w1 := x_q.frozen 1
  obtain ⟨w2, e_w2, s_w2, h_w2, x_r⟩ := alloc_step w1 27 [.slice AG R0.Give.length cG, .slice AS R0.Spent.length cS]
  have s_w2_1 := Nat.le_of_eq s_w2
  have s_w2_2 := Nat.le_of_eq s_w2.symm
  clear s_w2
  replace x_q := x_q.from_ h_w2
  replace hk := hk.below h_w2
  replace o_r := o_r.below h_w2
  have B_w2 := B_w1.trans (h_w2.mono (Nat.le_trans hgle B_w1.size))
  have C_w2 := C_w1.then_below h_w2
  have c_q_0_w2 := x_q.cell (i := 0) rfl
  have f_q_0_w2 := x_q.frozen 0
  have c_q_1_w2 := x_q.cell (i := 1) rfl
  have f_q_1_w2 := x_q.frozen 1
  have c_r_0_w2 := x_r.cell (i := 0) rfl
  have f_r_0_w2 := x_r.frozen 0
  have c_r_1_w2 := x_r.cell (i := 1) rfl
  have f_r_1_w2 := x_r.frozen 1
  go_wp2_with fail
  refine (cBelow_c (n := 9) hk hb hm (by omega) (by omega)).mono ?_
  rintro e w3 ⟨K, rfl, bK, y, h_w3⟩
  clear c_q_0_w1 f_q_0_w1 c_q_1_w1 f_q_1_w1 c_q_0_w2 f_q_0_w2 c_q_1_w2 f_q_1_w2 c_r_0_w2 f_r_0_w2 c_r_1_w2 f_r_1_w2
  replace x_q := x_q.chg h_w3 (by omega)
  replace x_r := x_r.chg h_w3 (by omega)
  replace o_r := o_r.chg h_w3 (by omega)
  have B_w3 := Below.chg_ B_w2 h_w3 (by omega) (by omega)
  have C_w3 := C_w2.then_same h_w3
  have s_w3 := h_w3.size
  replace hk := y
  clear y
  obtain ⟨m0, rfl⟩ : ∃ m0 : Nat, K = (m0 : Int) := ⟨K.toNat, by omega⟩
  have c_q_0_w3 := x_q.cell (i := 0) rfl
  have f_q_0_w3 := x_q.frozen 0
  have c_q_1_w3 := x_q.cell (i := 1) rfl
  have f_q_1_w3 := x_q.frozen 1
  have c_r_0_w3 := x_r.cell (i := 0) rfl
  have f_r_0_w3 := x_r.frozen 0
  have c_r_1_w3 := x_r.cell (i := 1) rfl
  have f_r_1_w3 := x_r.frozen 1
  go_wp2
  have hL0 : w1.heap.size + 1 ≤ w3.heap.size := by omega
  have hL1 : w.heap.size ≤ w1.heap.size := by omega
  go_loopw [6] (fun s6 wr => ∃ (m d : Nat) (R : MRights) (AG : Option Addr) (cG : Nat) (AS : Option Addr) (cS lo hi : Nat), s6 = .int .i64 m ∧ d + m ≤ 8 ∧ SmallR d n R ∧ Vr wr (w.heap.size) 27 [.slice none 0 0, .slice none 0 0] ∧ Vr wr (w1.heap.size) 27 [.slice AG R.Give.length cG, .slice AS R.Spent.length cS] ∧ OV rightsL wr lo hi (.agg #[.slice AG R.Give.length cG, .slice AS R.Spent.length cS]) R ∧ (w1.heap.size < lo ∨ hi ≤ w1.heap.size) ∧ w.heap.size + 1 ≤ lo ∧ CurOk wr g A c zs ∧ Chg g (g + 1) w wr ∧ Below g w wr ∧ w1.heap.size + 1 ≤ wr.heap.size) (fun s6 _ => (intOf s6).toNat)
  case atStart => exact ⟨m0, 0, R0, AG, cG, AS, cS, _, _, rfl, by omega, HS, x_q, x_r, o_r, .inr (by omega), by omega, hk, C_w3, B_w3, by omega⟩
  case round =>
    clear c_q_0_w3 f_q_0_w3 c_q_1_w3 f_q_1_w3 c_r_0_w3 f_r_0_w3 c_r_1_w3 f_r_1_w3
    clear x_q x_r o_r hk HS
    obtain ⟨m, d, R, AG, cG, AS, cS, lo, hi, rfl, hd, HS, x_q, x_r, o_r, hdj, hlo, hk, HC, HB, hsz⟩ := hrel
    have hRb : R.bulk ≤ 16777216 := Nat.le_trans (ok_bulk HS.1) (by omega)
    have hhi := o_r.le
    have c_q_0_wr := x_q.cell (i := 0) rfl
    have f_q_0_wr := x_q.frozen 0
    have c_q_1_wr := x_q.cell (i := 1) rfl
    have f_q_1_wr := x_q.frozen 1
    have c_r_0_wr := x_r.cell (i := 0) rfl
    have f_r_0_wr := x_r.frozen 0
    have c_r_1_wr := x_r.cell (i := 1) rfl
    have f_r_1_wr := x_r.frozen 1
    by_cases hm0 : 0 < m
    case neg =>
      obtain rfl : m = 0 := by omega
      obtain ⟨w4, e_w4, s_w4, h_w4, y⟩ := store_step x_q [.slice AG R.Give.length cG, .slice AS R.Spent.length cS] rfl
      replace e_w4 : ((wr.setCell ⟨w.heap.size, 0, none⟩ (.slice AG R.Give.length cG)).setCell ⟨w.heap.size, 1, none⟩ (.slice AS R.Spent.length cS)) = w4 := e_w4
      have s_w4_1 := Nat.le_of_eq s_w4
      have s_w4_2 := Nat.le_of_eq s_w4.symm
      clear s_w4
      replace x_r := x_r.chg h_w4 (by omega)
      replace hk := hk.chg h_w4 (by omega)
      replace o_r := o_r.chg h_w4 (by omega)
      have B_w4 := Below.chg_ HB h_w4 (by omega) (by omega)
      have C_w4 := HC.then_new h_w4 (by omega)
      replace x_q : Vr w4 (w.heap.size) 27 [.slice AG R.Give.length cG, .slice AS R.Spent.length cS] := y
      clear y
      have c_q_0_w4 := x_q.cell (i := 0) rfl
      have f_q_0_w4 := x_q.frozen 0
      have c_q_1_w4 := x_q.cell (i := 1) rfl
      have f_q_1_w4 := x_q.frozen 1
      go_wp2
      refine ret_cell (by rfl) (by rfl) x_q Try.underlying27 sz_rights (by rfl) ?_
      exact ⟨_, R, rfl, o_r.widen (by omega) (by omega) (Nat.le_refl _), HS.more (by omega), hk, C_w4⟩
    have i1 : (0 : Int) < (m : Int) := by omega
    obtain ⟨w4, e_w4, s_w4, h_w4, x_x⟩ := alloc_step wr 27 [.slice AG R.Give.length cG, .slice AS R.Spent.length cS]
    have s_w4_1 := Nat.le_of_eq s_w4
    have s_w4_2 := Nat.le_of_eq s_w4.symm
    clear s_w4
    replace x_q := x_q.from_ h_w4
    replace x_r := x_r.from_ h_w4
    replace hk := hk.below h_w4
    replace o_r := o_r.below h_w4
    have B_w4 := HB.trans (h_w4.mono (Nat.le_trans hgle HB.size))
    have C_w4 := HC.then_below h_w4
    have c_q_0_w4 := x_q.cell (i := 0) rfl
    have f_q_0_w4 := x_q.frozen 0
    have c_q_1_w4 := x_q.cell (i := 1) rfl
    have f_q_1_w4 := x_q.frozen 1
    have c_r_0_w4 := x_r.cell (i := 0) rfl
    have f_r_0_w4 := x_r.frozen 0
    have c_r_1_w4 := x_r.cell (i := 1) rfl
    have f_r_1_w4 := x_r.frozen 1
    have c_x_0_w4 := x_x.cell (i := 0) rfl
    have f_x_0_w4 := x_x.frozen 0
    have c_x_1_w4 := x_x.cell (i := 1) rfl
    have f_x_1_w4 := x_x.frozen 1
    go_wp2_with fail
    refine (cBelow_c (n := 3) hk hb hm (by omega) (by omega)).mono ?_
    rintro e w5 ⟨t, rfl, bt, y, h_w5⟩
    clear c_q_0_wr f_q_0_wr c_q_1_wr f_q_1_wr c_r_0_wr f_r_0_wr c_r_1_wr f_r_1_wr c_q_0_w4 f_q_0_w4 c_q_1_w4 f_q_1_w4 c_r_0_w4 f_r_0_w4 c_r_1_w4 f_r_1_w4 c_x_0_w4 f_x_0_w4 c_x_1_w4 f_x_1_w4
    replace x_q := x_q.chg h_w5 (by omega)
    replace x_r := x_r.chg h_w5 (by omega)
    replace x_x := x_x.chg h_w5 (by omega)
    replace o_r := o_r.chg h_w5 (by omega)
    have B_w5 := Below.chg_ B_w4 h_w5 (by omega) (by omega)
    have C_w5 := C_w4.then_same h_w5
    have s_w5 := h_w5.size
    replace hk := y
    clear y
    have c_q_0_w5 := x_q.cell (i := 0) rfl
    have f_q_0_w5 := x_q.frozen 0
    have c_q_1_w5 := x_q.cell (i := 1) rfl
    have f_q_1_w5 := x_q.frozen 1
    have c_r_0_w5 := x_r.cell (i := 0) rfl
    have f_r_0_w5 := x_r.frozen 0
    have c_r_1_w5 := x_r.cell (i := 1) rfl
    have f_r_1_w5 := x_r.frozen 1
    have c_x_0_w5 := x_x.cell (i := 0) rfl
    have f_x_0_w5 := x_x.frozen 0
    have c_x_1_w5 := x_x.cell (i := 1) rfl
    have f_x_1_w5 := x_x.frozen 1
    by_cases ht0 : t = 0
    case pos =>
      subst ht0
      clear c_q_0_w5 f_q_0_w5 c_q_1_w5 f_q_1_w5 c_r_0_w5 f_r_0_w5 c_r_1_w5 f_r_1_w5 c_x_0_w5 f_x_0_w5 c_x_1_w5 f_x_1_w5
      have c_r_0_w5 := x_r.cell (i := 0) rfl
      have c_r_1_w5 := x_r.cell (i := 1) rfl
      have c_q_0_w5 := x_q.cell (i := 0) rfl
      have f_q_0_w5 := x_q.frozen 0
      have c_q_1_w5 := x_q.cell (i := 1) rfl
      have f_q_1_w5 := x_q.frozen 1
      have f_r_0_w5 := x_r.frozen 0
      have f_r_1_w5 := x_r.frozen 1
      have c_x_0_w5 := x_x.cell (i := 0) rfl
      have f_x_0_w5 := x_x.frozen 0
      have c_x_1_w5 := x_x.cell (i := 1) rfl
      have f_x_1_w5 := x_x.frozen 1
      go_wp2_with fail
      go_region_held3 (fun w' => w'.cell? ⟨w1.heap.size, 0, none⟩ = some (.slice AG R.Give.length cG) ∧ w'.cell? ⟨w1.heap.size, 1, none⟩ = some (.slice AS R.Spent.length cS))
        (first | exact ⟨c_r_0_w5, c_r_1_w5⟩ | exact ⟨qA0, qA1⟩ | exact ⟨qB0, qB1⟩ | exact ⟨qM0, qM1⟩ | exact ⟨(cell_sb (b := wr.heap.size) (p := ⟨w1.heap.size, 0, none⟩) (by show w1.heap.size ≠ wr.heap.size; omega) [.slice AG2 D.Give.length cG2, .slice AS2 D.Spent.length cS2] 0 wM).trans qM0, (cell_sb (b := wr.heap.size) (p := ⟨w1.heap.size, 1, none⟩) (by show w1.heap.size ≠ wr.heap.size; omega) [.slice AG2 D.Give.length cG2, .slice AS2 D.Spent.length cS2] 0 wM).trans qM1⟩)
        (first | ((go_at_call 36); (refine (sMint_c (r := R) (i := p) (a := 1 + r1) oK.rd hRb).mono ?_); rintro e wM ⟨u, rfl, o_u, hM⟩; have sM := hM.size; have hbM : Chg g (g + 1) w5 wM := hB.then_below hM; obtain ⟨D, hD⟩ : ∃ D, mintM R (p) (1 + r1) = D := ⟨_, rfl⟩; obtain ⟨bb, hbb⟩ : ∃ bb, mintB R (p) (1 + r1) = bb := ⟨_, rfl⟩; rw [hD] at o_u; rw [hbb]; have HD := Lib.hid hD; have HBB := Lib.hid hbb; clear hD hbb; obtain ⟨AG2, cG2, AS2, cS2, rfl, -, -⟩ := rv_rights o_u.rd; have qM := qB.from_ hM; have qM0 := qM.cell (i := 0) rfl; have qM1 := qM.cell (i := 1) rfl; have xM := x_x.chg hbM (by omega); have z0 := xM.cell (i := 0) rfl; have z1 := xM.cell (i := 1) rfl; have y0 := xM.frozen 0; have y1 := xM.frozen 1; have kM := kB.below hM)
               | ((go_at_call_of 43 (Value.int .i64 50)); (refine (cBelow_c (n := 50) kA hb hm (by omega) (by omega)).mono ?_); rintro e wB ⟨r1, rfl, br1, kB, cB⟩; have hB : Chg g (g + 1) w5 wB := hA.then_same cB; have sB := hB.size; have qB := x_r.chg hB (by omega); have qB0 := qB.cell (i := 0) rfl; have qB1 := qB.cell (i := 1) rfl; have tw : IntKind.i64.wrap (1 + r1) = 1 + r1 := IntWalk.i64_in _ (by omega); have oK := o_r.chg hB (by omega))
               | ((go_at_call_of 43 (Value.int .i64 (n : Int))); (refine (cBelow_c (n := (n : Int)) (hk.below ((Below.refl _ _).drew)) hb hm (by omega) (by omega)).mono ?_); rintro e wA ⟨p, rfl, bp, kA, cA⟩; have hA : Chg g (g + 1) w5 wA := Chg.ofDrew cA; have sA := hA.size; have qA := x_r.chg hA (by omega); have qA0 := qA.cell (i := 0) rfl; have qA1 := qA.cell (i := 1) rfl))
      have dz : w5.drew.heap.size = w5.heap.size := rfl
      obtain ⟨wS, eS, sS, hS, y⟩ := store_step xM [.slice AG2 D.Give.length cG2, .slice AS2 D.Spent.length cS2] rfl
      replace eS : (wM.setCell ⟨wr.heap.size, 0, none⟩ (.slice AG2 D.Give.length cG2)).setCell ⟨wr.heap.size, 1, none⟩ (.slice AS2 D.Spent.length cS2) = wS := eS
      rw [eS]
      have sS_1 := Nat.le_of_eq sS
      have sS_2 := Nat.le_of_eq sS.symm
      clear sS
      replace x_x : Vr wS (wr.heap.size) 27 [.slice AG2 D.Give.length cG2, .slice AS2 D.Spent.length cS2] := y
      clear y
      have sw := hbM.size
      replace x_q := (x_q.chg hbM (by omega)).chg hS (by omega)
      replace x_r := qM.chg hS (by omega)
      have oR2 := (o_r.chg hbM (by omega)).chg hS (by omega)
      have oU2 := o_u.chg hS (by omega)
      replace hk := kM.chg hS (by omega)
      have HB2 := Below.chg_ (Below.chg_ B_w5 hbM (Nat.le_refl _) (by omega)) hS (by omega) (by omega)
      have HC2 := (C_w5.then_same hbM).then_new hS (by omega)
      clear hM o_u oK z0 z1 y0 y1 xM kM qM qM0 qM1 qA qA0 qA1 kA hA cA qB qB0 qB1 kB hB cB o_r eS
      have c_q_0_wS := x_q.cell (i := 0) rfl
      have f_q_0_wS := x_q.frozen 0
      have c_q_1_wS := x_q.cell (i := 1) rfl
      have f_q_1_wS := x_q.frozen 1
      have c_r_0_wS := x_r.cell (i := 0) rfl
      have f_r_0_wS := x_r.frozen 0
      have c_r_1_wS := x_r.cell (i := 1) rfl
      have f_r_1_wS := x_r.frozen 1
      have c_x_0_wS := x_x.cell (i := 0) rfl
      have f_x_0_wS := x_x.frozen 0
      have c_x_1_wS := x_x.cell (i := 1) rfl
      have f_x_1_wS := x_x.frozen 1
      cases bb
      case false =>
        go_wp2
        go_roundw
        case rel => exact ⟨m - 1, d, R, AG, cG, AS, cS, lo, hi, by go_num, by omega, HS, x_q, x_r, oR2, hdj, hlo, hk, HC2, HB2, by omega⟩
        case measure => simp [intOf]; omega
      case true =>
        have HS2 : SmallR (d + 1) n D := by have h := HS.mint HBB.out (by omega); rw [HD.out] at h; exact h
        obtain ⟨w6, e_w6, s_w6, h_w6, y⟩ := store_step x_r [.slice AG2 D.Give.length cG2, .slice AS2 D.Spent.length cS2] rfl
        replace e_w6 : ((wS.setCell ⟨w1.heap.size, 0, none⟩ (.slice AG2 D.Give.length cG2)).setCell ⟨w1.heap.size, 1, none⟩ (.slice AS2 D.Spent.length cS2)) = w6 := e_w6
        have s_w6_1 := Nat.le_of_eq s_w6
        have s_w6_2 := Nat.le_of_eq s_w6.symm
        clear s_w6
        replace x_q := x_q.chg h_w6 (by omega)
        replace x_x := x_x.chg h_w6 (by omega)
        replace hk := hk.chg h_w6 (by omega)
        replace oR2 := oR2.chg h_w6 (by omega)
        replace oU2 := oU2.chg h_w6 (by omega)
        have B_w6 := Below.chg_ HB2 h_w6 (by omega) (by omega)
        have C_w6 := HC2.then_new h_w6 (by omega)
        replace x_r : Vr w6 (w1.heap.size) 27 [.slice AG2 D.Give.length cG2, .slice AS2 D.Spent.length cS2] := y
        clear y
        go_wp2
        go_roundw
        case rel => exact ⟨m - 1, d + 1, D, AG2, cG2, AS2, cS2, _, _, by go_num, by omega, HS2, x_q, x_r, oU2, .inl (by omega), by omega, hk, C_w6, B_w6, by omega⟩
        case measure => simp [intOf]; omega
    have u0 : (t == 0) = false := by simpa using ht0
    by_cases ht1 : t = 1
    case pos =>
      subst ht1
      clear c_q_0_w5 f_q_0_w5 c_q_1_w5 f_q_1_w5 c_r_0_w5 f_r_0_w5 c_r_1_w5 f_r_1_w5 c_x_0_w5 f_x_0_w5 c_x_1_w5 f_x_1_w5
      have c_r_0_w5 := x_r.cell (i := 0) rfl
      have c_r_1_w5 := x_r.cell (i := 1) rfl
      have c_q_0_w5 := x_q.cell (i := 0) rfl
      have f_q_0_w5 := x_q.frozen 0
      have c_q_1_w5 := x_q.cell (i := 1) rfl
      have f_q_1_w5 := x_q.frozen 1
      have f_r_0_w5 := x_r.frozen 0
      have f_r_1_w5 := x_r.frozen 1
      have c_x_0_w5 := x_x.cell (i := 0) rfl
      have f_x_0_w5 := x_x.frozen 0
      have c_x_1_w5 := x_x.cell (i := 1) rfl
      have f_x_1_w5 := x_x.frozen 1
      go_wp2_with fail
      go_region_held3 (fun w' => w'.cell? ⟨w1.heap.size, 0, none⟩ = some (.slice AG R.Give.length cG) ∧ w'.cell? ⟨w1.heap.size, 1, none⟩ = some (.slice AS R.Spent.length cS))
        (first | exact ⟨c_r_0_w5, c_r_1_w5⟩ | exact ⟨qA0, qA1⟩ | exact ⟨qB0, qB1⟩ | exact ⟨qM0, qM1⟩ | exact ⟨(cell_sb (b := wr.heap.size) (p := ⟨w1.heap.size, 0, none⟩) (by show w1.heap.size ≠ wr.heap.size; omega) [.slice AG2 D.Give.length cG2, .slice AS2 D.Spent.length cS2] 0 wM).trans qM0, (cell_sb (b := wr.heap.size) (p := ⟨w1.heap.size, 1, none⟩) (by show w1.heap.size ≠ wr.heap.size; omega) [.slice AG2 D.Give.length cG2, .slice AS2 D.Spent.length cS2] 0 wM).trans qM1⟩)
        (first | ((go_at_call 37); (refine (sSpend_c (r := R) (i := p) (a := 1 + r1) oK.rd hRb).mono ?_); rintro e wM ⟨u, rfl, o_u, hM⟩; have sM := hM.size; have hbM : Chg g (g + 1) w5 wM := hB.then_below hM; obtain ⟨D, hD⟩ : ∃ D, spendM R (p) (1 + r1) = D := ⟨_, rfl⟩; obtain ⟨bb, hbb⟩ : ∃ bb, spendB R (p) (1 + r1) = bb := ⟨_, rfl⟩; rw [hD] at o_u; rw [hbb]; have HD := Lib.hid hD; have HBB := Lib.hid hbb; clear hD hbb; obtain ⟨AG2, cG2, AS2, cS2, rfl, -, -⟩ := rv_rights o_u.rd; have qM := qB.from_ hM; have qM0 := qM.cell (i := 0) rfl; have qM1 := qM.cell (i := 1) rfl; have xM := x_x.chg hbM (by omega); have z0 := xM.cell (i := 0) rfl; have z1 := xM.cell (i := 1) rfl; have y0 := xM.frozen 0; have y1 := xM.frozen 1; have kM := kB.below hM)
               | ((go_at_call_of 43 (Value.int .i64 20)); (refine (cBelow_c (n := 20) kA hb hm (by omega) (by omega)).mono ?_); rintro e wB ⟨r1, rfl, br1, kB, cB⟩; have hB : Chg g (g + 1) w5 wB := hA.then_same cB; have sB := hB.size; have qB := x_r.chg hB (by omega); have qB0 := qB.cell (i := 0) rfl; have qB1 := qB.cell (i := 1) rfl; have tw : IntKind.i64.wrap (1 + r1) = 1 + r1 := IntWalk.i64_in _ (by omega); have oK := o_r.chg hB (by omega))
               | ((go_at_call_of 43 (Value.int .i64 (n : Int))); (refine (cBelow_c (n := (n : Int)) (hk.below ((Below.refl _ _).drew)) hb hm (by omega) (by omega)).mono ?_); rintro e wA ⟨p, rfl, bp, kA, cA⟩; have hA : Chg g (g + 1) w5 wA := Chg.ofDrew cA; have sA := hA.size; have qA := x_r.chg hA (by omega); have qA0 := qA.cell (i := 0) rfl; have qA1 := qA.cell (i := 1) rfl))
      have dz : w5.drew.heap.size = w5.heap.size := rfl
      obtain ⟨wS, eS, sS, hS, y⟩ := store_step xM [.slice AG2 D.Give.length cG2, .slice AS2 D.Spent.length cS2] rfl
      replace eS : (wM.setCell ⟨wr.heap.size, 0, none⟩ (.slice AG2 D.Give.length cG2)).setCell ⟨wr.heap.size, 1, none⟩ (.slice AS2 D.Spent.length cS2) = wS := eS
      rw [eS]
      have sS_1 := Nat.le_of_eq sS
      have sS_2 := Nat.le_of_eq sS.symm
      clear sS
      replace x_x : Vr wS (wr.heap.size) 27 [.slice AG2 D.Give.length cG2, .slice AS2 D.Spent.length cS2] := y
      clear y
      have sw := hbM.size
      replace x_q := (x_q.chg hbM (by omega)).chg hS (by omega)
      replace x_r := qM.chg hS (by omega)
      have oR2 := (o_r.chg hbM (by omega)).chg hS (by omega)
      have oU2 := o_u.chg hS (by omega)
      replace hk := kM.chg hS (by omega)
      have HB2 := Below.chg_ (Below.chg_ B_w5 hbM (Nat.le_refl _) (by omega)) hS (by omega) (by omega)
      have HC2 := (C_w5.then_same hbM).then_new hS (by omega)
      clear hM o_u oK z0 z1 y0 y1 xM kM qM qM0 qM1 qA qA0 qA1 kA hA cA qB qB0 qB1 kB hB cB o_r eS
      have c_q_0_wS := x_q.cell (i := 0) rfl
      have f_q_0_wS := x_q.frozen 0
      have c_q_1_wS := x_q.cell (i := 1) rfl
      have f_q_1_wS := x_q.frozen 1
      have c_r_0_wS := x_r.cell (i := 0) rfl
      have f_r_0_wS := x_r.frozen 0
      have c_r_1_wS := x_r.cell (i := 1) rfl
      have f_r_1_wS := x_r.frozen 1
      have c_x_0_wS := x_x.cell (i := 0) rfl
      have f_x_0_wS := x_x.frozen 0
      have c_x_1_wS := x_x.cell (i := 1) rfl
      have f_x_1_wS := x_x.frozen 1
      cases bb
      case false =>
        go_wp2
        go_roundw
        case rel => exact ⟨m - 1, d, R, AG, cG, AS, cS, lo, hi, by go_num, by omega, HS, x_q, x_r, oR2, hdj, hlo, hk, HC2, HB2, by omega⟩
        case measure => simp [intOf]; omega
      case true =>
        have HS2 : SmallR (d + 1) n D := by have h := HS.spend HBB.out (by omega); rw [HD.out] at h; exact h
        obtain ⟨w6, e_w6, s_w6, h_w6, y⟩ := store_step x_r [.slice AG2 D.Give.length cG2, .slice AS2 D.Spent.length cS2] rfl
        replace e_w6 : ((wS.setCell ⟨w1.heap.size, 0, none⟩ (.slice AG2 D.Give.length cG2)).setCell ⟨w1.heap.size, 1, none⟩ (.slice AS2 D.Spent.length cS2)) = w6 := e_w6
        have s_w6_1 := Nat.le_of_eq s_w6
        have s_w6_2 := Nat.le_of_eq s_w6.symm
        clear s_w6
        replace x_q := x_q.chg h_w6 (by omega)
        replace x_x := x_x.chg h_w6 (by omega)
        replace hk := hk.chg h_w6 (by omega)
        replace oR2 := oR2.chg h_w6 (by omega)
        replace oU2 := oU2.chg h_w6 (by omega)
        have B_w6 := Below.chg_ HB2 h_w6 (by omega) (by omega)
        have C_w6 := HC2.then_new h_w6 (by omega)
        replace x_r : Vr w6 (w1.heap.size) 27 [.slice AG2 D.Give.length cG2, .slice AS2 D.Spent.length cS2] := y
        clear y
        go_wp2
        go_roundw
        case rel => exact ⟨m - 1, d + 1, D, AG2, cG2, AS2, cS2, _, _, by go_num, by omega, HS2, x_q, x_r, oU2, .inl (by omega), by omega, hk, C_w6, B_w6, by omega⟩
        case measure => simp [intOf]; omega
    have u1 : (t == 1) = false := by simpa using ht1
    clear ht0 ht1
    clear c_q_0_w5 f_q_0_w5 c_q_1_w5 f_q_1_w5 c_r_0_w5 f_r_0_w5 c_r_1_w5 f_r_1_w5 c_x_0_w5 f_x_0_w5 c_x_1_w5 f_x_1_w5
    have c_r_0_w5 := x_r.cell (i := 0) rfl
    have c_r_1_w5 := x_r.cell (i := 1) rfl
    have c_q_0_w5 := x_q.cell (i := 0) rfl
    have f_q_0_w5 := x_q.frozen 0
    have c_q_1_w5 := x_q.cell (i := 1) rfl
    have f_q_1_w5 := x_q.frozen 1
    have f_r_0_w5 := x_r.frozen 0
    have f_r_1_w5 := x_r.frozen 1
    have c_x_0_w5 := x_x.cell (i := 0) rfl
    have f_x_0_w5 := x_x.frozen 0
    have c_x_1_w5 := x_x.cell (i := 1) rfl
    have f_x_1_w5 := x_x.frozen 1
    go_wp2_with fail
    go_region_held3 (fun w' => w'.cell? ⟨w1.heap.size, 0, none⟩ = some (.slice AG R.Give.length cG) ∧ w'.cell? ⟨w1.heap.size, 1, none⟩ = some (.slice AS R.Spent.length cS))
      (first | exact ⟨c_r_0_w5, c_r_1_w5⟩ | exact ⟨qA0, qA1⟩ | exact ⟨qB0, qB1⟩ | exact ⟨qC0, qC1⟩ | exact ⟨qM0, qM1⟩ | exact ⟨(cell_sb (b := wr.heap.size) (p := ⟨w1.heap.size, 0, none⟩) (by show w1.heap.size ≠ wr.heap.size; omega) [.slice AG2 D.Give.length cG2, .slice AS2 D.Spent.length cS2] 0 wM).trans qM0, (cell_sb (b := wr.heap.size) (p := ⟨w1.heap.size, 1, none⟩) (by show w1.heap.size ≠ wr.heap.size; omega) [.slice AG2 D.Give.length cG2, .slice AS2 D.Spent.length cS2] 0 wM).trans qM1⟩)
      (first | ((go_at_call 38); (refine (sHand_c (r := R) (i := p) (j := p2) (a := 1 + r1) oK.rd hRb).mono ?_); rintro e wM ⟨u, rfl, o_u, hM⟩; have sM := hM.size; have hbM : Chg g (g + 1) w5 wM := hC.then_below hM; obtain ⟨D, hD⟩ : ∃ D, handM R (p) (p2) (1 + r1) = D := ⟨_, rfl⟩; obtain ⟨bb, hbb⟩ : ∃ bb, handB R (p) (p2) (1 + r1) = bb := ⟨_, rfl⟩; rw [hD] at o_u; rw [hbb]; have HD := Lib.hid hD; have HBB := Lib.hid hbb; clear hD hbb; obtain ⟨AG2, cG2, AS2, cS2, rfl, -, -⟩ := rv_rights o_u.rd; have qM := qC.from_ hM; have qM0 := qM.cell (i := 0) rfl; have qM1 := qM.cell (i := 1) rfl; have xM := x_x.chg hbM (by omega); have z0 := xM.cell (i := 0) rfl; have z1 := xM.cell (i := 1) rfl; have y0 := xM.frozen 0; have y1 := xM.frozen 1; have kM := kC.below hM)
             | ((go_at_call_of 43 (Value.int .i64 20)); (refine (cBelow_c (n := 20) kB hb hm (by omega) (by omega)).mono ?_); rintro e wC ⟨r1, rfl, br1, kC, cC⟩; have hC : Chg g (g + 1) w5 wC := hB.then_same cC; have sC := hC.size; have qC := x_r.chg hC (by omega); have qC0 := qC.cell (i := 0) rfl; have qC1 := qC.cell (i := 1) rfl; have tw : IntKind.i64.wrap (1 + r1) = 1 + r1 := IntWalk.i64_in _ (by omega); have oK := o_r.chg hC (by omega))
             | ((go_at_call_of 43 (Value.int .i64 (n : Int))); (refine (cBelow_c (n := (n : Int)) kA hb hm (by omega) (by omega)).mono ?_); rintro e wB ⟨p2, rfl, bp2, kB, cB⟩; have hB : Chg g (g + 1) w5 wB := hA.then_same cB; have sB := hB.size; have qB := x_r.chg hB (by omega); have qB0 := qB.cell (i := 0) rfl; have qB1 := qB.cell (i := 1) rfl)
             | ((go_at_call_of 43 (Value.int .i64 (n : Int))); (refine (cBelow_c (n := (n : Int)) (hk.below ((Below.refl _ _).drew)) hb hm (by omega) (by omega)).mono ?_); rintro e wA ⟨p, rfl, bp, kA, cA⟩; have hA : Chg g (g + 1) w5 wA := Chg.ofDrew cA; have sA := hA.size; have qA := x_r.chg hA (by omega); have qA0 := qA.cell (i := 0) rfl; have qA1 := qA.cell (i := 1) rfl))
    have dz : w5.drew.heap.size = w5.heap.size := rfl
    obtain ⟨wS, eS, sS, hS, y⟩ := store_step xM [.slice AG2 D.Give.length cG2, .slice AS2 D.Spent.length cS2] rfl
    replace eS : (wM.setCell ⟨wr.heap.size, 0, none⟩ (.slice AG2 D.Give.length cG2)).setCell ⟨wr.heap.size, 1, none⟩ (.slice AS2 D.Spent.length cS2) = wS := eS
    rw [eS]
    have sS_1 := Nat.le_of_eq sS
    have sS_2 := Nat.le_of_eq sS.symm
    clear sS
    replace x_x : Vr wS (wr.heap.size) 27 [.slice AG2 D.Give.length cG2, .slice AS2 D.Spent.length cS2] := y
    clear y
    have sw := hbM.size
    replace x_q := (x_q.chg hbM (by omega)).chg hS (by omega)
    replace x_r := qM.chg hS (by omega)
    have oR2 := (o_r.chg hbM (by omega)).chg hS (by omega)
    have oU2 := o_u.chg hS (by omega)
    replace hk := kM.chg hS (by omega)
    have HB2 := Below.chg_ (Below.chg_ B_w5 hbM (Nat.le_refl _) (by omega)) hS (by omega) (by omega)
    have HC2 := (C_w5.then_same hbM).then_new hS (by omega)
    clear hM o_u oK z0 z1 y0 y1 xM kM qM qM0 qM1 qA qA0 qA1 kA hA cA qB qB0 qB1 kB hB cB qC qC0 qC1 kC hC cC o_r eS
    have c_q_0_wS := x_q.cell (i := 0) rfl
    have f_q_0_wS := x_q.frozen 0
    have c_q_1_wS := x_q.cell (i := 1) rfl
    have f_q_1_wS := x_q.frozen 1
    have c_r_0_wS := x_r.cell (i := 0) rfl
    have f_r_0_wS := x_r.frozen 0
    have c_r_1_wS := x_r.cell (i := 1) rfl
    have f_r_1_wS := x_r.frozen 1
    have c_x_0_wS := x_x.cell (i := 0) rfl
    have f_x_0_wS := x_x.frozen 0
    have c_x_1_wS := x_x.cell (i := 1) rfl
    have f_x_1_wS := x_x.frozen 1
    cases bb
    case false =>
      go_wp2
      go_roundw
      case rel => exact ⟨m - 1, d, R, AG, cG, AS, cS, lo, hi, by go_num, by omega, HS, x_q, x_r, oR2, hdj, hlo, hk, HC2, HB2, by omega⟩
      case measure => simp [intOf]; omega
    case true =>
      have HS2 : SmallR (d + 1) n D := by have h := HS.hand HBB.out (by omega); rw [HD.out] at h; exact h
      obtain ⟨w6, e_w6, s_w6, h_w6, y⟩ := store_step x_r [.slice AG2 D.Give.length cG2, .slice AS2 D.Spent.length cS2] rfl
      replace e_w6 : ((wS.setCell ⟨w1.heap.size, 0, none⟩ (.slice AG2 D.Give.length cG2)).setCell ⟨w1.heap.size, 1, none⟩ (.slice AS2 D.Spent.length cS2)) = w6 := e_w6
      have s_w6_1 := Nat.le_of_eq s_w6
      have s_w6_2 := Nat.le_of_eq s_w6.symm
      clear s_w6
      replace x_q := x_q.chg h_w6 (by omega)
      replace x_x := x_x.chg h_w6 (by omega)
      replace hk := hk.chg h_w6 (by omega)
      replace oR2 := oR2.chg h_w6 (by omega)
      replace oU2 := oU2.chg h_w6 (by omega)
      have B_w6 := Below.chg_ HB2 h_w6 (by omega) (by omega)
      have C_w6 := HC2.then_new h_w6 (by omega)
      replace x_r : Vr w6 (w1.heap.size) 27 [.slice AG2 D.Give.length cG2, .slice AS2 D.Spent.length cS2] := y
      clear y
      go_wp2
      go_roundw
      case rel => exact ⟨m - 1, d + 1, D, AG2, cG2, AS2, cS2, _, _, by go_num, by omega, HS2, x_q, x_r, oU2, .inl (by omega), by omega, hk, C_w6, B_w6, by omega⟩
      case measure => simp [intOf]; omega

set_option maxRecDepth 100000 in
set_option maxHeartbeats 2000000 in
theorem makeRights_c {w : World} {A : Option Addr} {c : Nat} {zs : List Int} {n : Nat} (hr : Rd .u8 w w.heap.size A zs) (hb : Bytes zs) (hm : zs.length ≤ 1048576) (hn : 1 ≤ n ∧ n ≤ 4) :
    Calls Try.prog 16 #[.slice A zs.length c, .int .i64 (n : Int), .int .i64 1] w fun e w' => ∃ v R, e = .returned v ∧ OV rightsL w' w.heap.size w'.heap.size v R ∧ SmallR 8 n R ∧ Below w.heap.size w w' := by
  obtain ⟨wa, hwa, B0, sa, x_q⟩ := frame1 w 27 [.slice none 0 0, .slice none 0 0]
  have sa_1 := Nat.le_of_eq sa
  have sa_2 := Nat.le_of_eq sa.symm
  clear sa
  have c_q_0_wa := x_q.cell (i := 0) rfl
  have f_q_0_wa := x_q.frozen 0
  have c_q_1_wa := x_q.cell (i := 1) rfl
  have f_q_1_wa := x_q.frozen 1
  have hra := (hr.below B0).more B0.size
  go_enter Try.func16, Try.ntmps16
  go_wp2_with fail
  refine (cNew_any A c zs wa hra hb hm).mono ?_
  rintro e w1 ⟨rfl, h, hh1, hh2, hw⟩
  obtain ⟨hc, hb1⟩ := NewCur.cur hw
  clear hw
  obtain ⟨c0, c1, c2, f1, f2⟩ := hc.cells
  have hcB := hc.setH (h + 100)
  have hb2 : Below wa.heap.size wa (w1.setCell ⟨wa.heap.size, 2, none⟩ (.int .i64 (h + 100))) := hb1.setCell (p := ⟨wa.heap.size, 2, none⟩) (Nat.le_refl _) _
  obtain ⟨w2, hw2⟩ : ∃ x, w1.setCell ⟨wa.heap.size, 2, none⟩ (.int .i64 (h + 100)) = x := ⟨_, rfl⟩
  rw [hw2] at hcB hb2
  have hk : CurOk w2 wa.heap.size A c zs := ⟨0, h + 100, hcB, Nat.zero_le _, by omega, by omega, hra.below hb2⟩
  have l2 := hk.lt
  have tw : IntKind.i64.wrap (h + 100) = h + 100 := IntWalk.i64_in _ (by omega)
  clear c_q_0_wa f_q_0_wa c_q_1_wa f_q_1_wa
  go_wp2_with fail
  refine (cRights_c hk hb (by omega) hn).mono ?_
  rintro e w3 ⟨v, R, rfl, o_r, HS, k3, c3⟩
  clear c0 c1 c2 f1 f2 hw2 hc
  have s3 := c3.size
  have xq := (x_q.from_ hb2).chg c3 (by omega)
  have hb3 := Below.chg_ (B0.trans (hb2.mono B0.size)) c3 (by omega) (by omega)
  obtain ⟨AG, cG, AS, cS, rfl, -, -⟩ := rv_rights o_r.rd
  replace x_q := xq
  clear xq
  have c_q_0_w3 := x_q.cell (i := 0) rfl
  have f_q_0_w3 := x_q.frozen 0
  have c_q_1_w3 := x_q.cell (i := 1) rfl
  have f_q_1_w3 := x_q.frozen 1
  obtain ⟨w4, e_w4, s_w4, h_w4, y⟩ := store_step x_q [.slice AG R.Give.length cG, .slice AS R.Spent.length cS] rfl
  replace e_w4 : ((w3.setCell ⟨w.heap.size, 0, none⟩ (.slice AG R.Give.length cG)).setCell ⟨w.heap.size, 1, none⟩ (.slice AS R.Spent.length cS)) = w4 := e_w4
  have s_w4_1 := Nat.le_of_eq s_w4
  have s_w4_2 := Nat.le_of_eq s_w4.symm
  clear s_w4
  replace o_r := o_r.chg h_w4 (by omega)
  have B_w4 := Below.chg_ hb3 h_w4 (by omega) (by omega)
  replace x_q : Vr w4 (w.heap.size) 27 [.slice AG R.Give.length cG, .slice AS R.Spent.length cS] := y
  clear y
  have c_q_0_w4 := x_q.cell (i := 0) rfl
  have f_q_0_w4 := x_q.frozen 0
  have c_q_1_w4 := x_q.cell (i := 1) rfl
  have f_q_1_w4 := x_q.frozen 1
  go_wp2
  refine ret_cell (by rfl) (by rfl) x_q Try.underlying27 sz_rights (by rfl) ?_
  exact ⟨_, R, rfl, o_r.widen (by omega) (by omega) (Nat.le_refl _), HS, B_w4⟩

end Go.Proofs.Ytmbipgnecjlicaa
