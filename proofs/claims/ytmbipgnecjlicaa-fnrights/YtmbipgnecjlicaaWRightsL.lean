/- The walk of the law FnRights. Laid by a program of ours (src/fnrights.py). -/
import Derived.Test.YtmbipgnecjlicaaHandMath
import Derived.Test.YtmbipgnecjlicaaRtDraw
import Derived.Test.YtmbipgnecjlicaaMakes
import Derived.Test.YtmbipgnecjlicaaRtI
import Derived.IntWalk
namespace Go.Proofs.Ytmbipgnecjlicaa
open Go.RowKit
set_option linter.unusedVariables false

theorem rdG {w w' : World} {A : Option Addr} {zs : List Int} (h : Rd .u8 w w.heap.size A zs) (hb : Below w.heap.size w w') : Rd .u8 w' w'.heap.size A zs := (h.below hb).more hb.size
theorem iHasOf_e {w : World} {v : Value} {r : MRights} {i x : Int} (h : RV rightsL w v r) (hm : r.bulk ≤ 16777216) (hi : -9223372036854775808 ≤ i ∧ i ≤ 9223372036854775807) (he : Hid (hasOf r i = x)) : Calls Try.prog 22 #[v, .int .i64 i] w fun e w' => e = .returned (.int .i64 x) ∧ Below w.heap.size w w' :=
  he.out ▸ iHasOf_c h hm hi
theorem iAllOf_e {w : World} {v : Value} {r : MRights} {x : Int} (h : RV rightsL w v r) (hm : r.bulk ≤ 16777216) (he : Hid (allOf r = x)) : Calls Try.prog 25 #[v] w fun e w' => e = .returned (.int .i64 x) ∧ Below w.heap.size w w' :=
  he.out ▸ iAllOf_c h hm
theorem iRightsOk_e {w : World} {v : Value} {r : MRights} {x : Bool} (h : RV rightsL w v r) (hm : r.bulk ≤ 16777216) (he : Hid (rightsOkB r = x)) : Calls Try.prog 21 #[v] w fun e w' => e = .returned (.bool x) ∧ Below w.heap.size w w' :=
  he.out ▸ iRightsOk_c h hm
theorem iLater_e {w : World} {v v' : Value} {r q : MRights} {x : Bool} (h : RV rightsL w v r) (h' : RV rightsL w v' q) (hm : r.bulk ≤ 16777216) (hm' : q.bulk ≤ 16777216) (he : Hid (laterB r q = x)) : Calls Try.prog 20 #[v, v'] w fun e w' => e = .returned (.bool x) ∧ Below w.heap.size w w' :=
  he.out ▸ iLater_c h h' hm hm'
theorem next_mod {i n : Nat} (hi : i < n) (hn : 2 ≤ n) : ∃ j : Nat, ((i : Int) + 1).tmod (n : Int) = (j : Int) ∧ j < n ∧ i ≠ j := by
  refine ⟨(i + 1) % n, ?_, Nat.mod_lt _ (by omega), ?_⟩
  · have e : ((i : Int) + 1) = ((i + 1 : Nat) : Int) := by omega
    rw [e, ← Int.ofNat_tmod]
  · by_cases c : i + 1 < n
    · rw [Nat.mod_eq_of_lt c]; omega
    · rw [show i + 1 = n by omega, Nat.mod_self]; omega

set_option maxRecDepth 100000 in
set_option maxHeartbeats 8000000 in
theorem wRightsL (v : Value) (zs : List Int) (w : World) (r : RS .u8 w v zs) (hb : Bytes zs) :
    Calls Try.prog 4 #[v] w fun e w' => e = .returned (.bool true) ∧ Below w.heap.size w w' := by
  obtain ⟨A, c, rfl, p1, p2, hr⟩ := r
  unfold maxLen at p2
  by_cases hbig : 1048576 < zs.length
  case pos =>
    have i0 : (1048576 : Int) < (zs.length : Int) := by omega
    go_enter Try.func4, Try.ntmps4
    go_wp2
    go_ret
    exact ⟨rfl, Below.refl _ _⟩
  have hm : zs.length ≤ 1048576 := by omega
  have B0 : Below w.heap.size w w := Below.refl _ _
  go_enter Try.func4, Try.ntmps4
  go_wp2_with fail
  refine (makeNum_any A c zs 2 _ (rdG hr B0) hb hm (by omega) (by omega)).mono ?_
  rintro e w1 ⟨nn, rfl, n1, n2, h_w1⟩
  have B_w1 := B0.trans (h_w1.mono B0.size)
  have s_w1 := h_w1.size
  obtain ⟨N, hN⟩ : ∃ N : Nat, 2 + nn = (N : Int) := ⟨(2 + nn).toNat, by omega⟩
  have hN1 : 1 ≤ N ∧ N ≤ 4 := by omega
  have hN2 : 2 ≤ N := by omega
  go_wp2_with fail
  refine (makeRights_c (n := N) (rdG hr B_w1) hb hm hN1).mono ?_
  rintro e w2 ⟨v_r, R, rfl, o_r, HS, h_w2⟩
  have B_w2 := B_w1.trans (h_w2.mono B_w1.size)
  have s_w2 := h_w2.size
  clear hN
  obtain ⟨AGive_r, cGive_r, ASpent_r, cSpent_r, rfl, -, -⟩ := rv_rights o_r.rd
  have hRb := Up.bulk HS (Up.refl HS)
  obtain ⟨w3, e_w3, s_w3, h_w3, x_r⟩ := alloc_step w2 27 [.slice AGive_r R.Give.length cGive_r, .slice ASpent_r R.Spent.length cSpent_r]
  have s_w3_1 := Nat.le_of_eq s_w3
  have s_w3_2 := Nat.le_of_eq s_w3.symm
  clear s_w3
  replace o_r := o_r.below h_w3
  have B_w3 := B_w2.trans (h_w3.mono B_w2.size)
  have c_r_0_w3 := x_r.cell (i := 0) rfl
  have f_r_0_w3 := x_r.frozen 0
  have c_r_1_w3 := x_r.cell (i := 1) rfl
  have f_r_1_w3 := x_r.frozen 1
  go_wp2_with fail
  refine (makeNum_any A c zs (N : Int) _ (rdG hr B_w3) hb hm (by omega) (by omega)).mono ?_
  rintro e w4 ⟨ii, rfl, ii1, ii2, h_w4⟩
  clear c_r_0_w3 f_r_0_w3 c_r_1_w3 f_r_1_w3
  replace x_r := x_r.from_ h_w4
  replace o_r := o_r.below h_w4
  have B_w4 := B_w3.trans (h_w4.mono B_w3.size)
  have s_w4 := h_w4.size
  have c_r_0_w4 := x_r.cell (i := 0) rfl
  have f_r_0_w4 := x_r.frozen 0
  have c_r_1_w4 := x_r.cell (i := 1) rfl
  have f_r_1_w4 := x_r.frozen 1
  obtain ⟨I, rfl⟩ : ∃ I : Nat, ii = (I : Int) := ⟨ii.toNat, by omega⟩
  have hI : I < N := by omega
  obtain ⟨J, hJ, hJN, hIJ⟩ := next_mod hI hN2
  have z1 : ((N : Int) == 0) = false := by simp; omega
  have z2 : ¬ ((N : Int) = 0) := by omega
  have tJ : IntKind.i64.wrap (J : Int) = (J : Int) := IntWalk.i64_in _ (by omega)
  go_wp2_with fail
  refine (makeNum_any A c zs 30 _ (rdG hr B_w4) hb hm (by omega) (by omega)).mono ?_
  rintro e w5 ⟨yy, rfl, y1, y2, h_w5⟩
  clear c_r_0_w4 f_r_0_w4 c_r_1_w4 f_r_1_w4
  replace x_r := x_r.from_ h_w5
  replace o_r := o_r.below h_w5
  have B_w5 := B_w4.trans (h_w5.mono B_w4.size)
  have s_w5 := h_w5.size
  have c_r_0_w5 := x_r.cell (i := 0) rfl
  have f_r_0_w5 := x_r.frozen 0
  have c_r_1_w5 := x_r.cell (i := 1) rfl
  have f_r_1_w5 := x_r.frozen 1
  obtain ⟨a, hA⟩ : ∃ a, 1 + yy = a := ⟨_, rfl⟩
  have ha : 1 ≤ a ∧ a ≤ 30 := by omega
  have hHr := hasZ_range (ok_form HS.1) I
  have hH0 := ok_has HS.1 (i := I) (by rw [HS.2.1]; omega)
  obtain ⟨H, hH⟩ : ∃ H, hasZ R I = H := ⟨_, rfl⟩
  rw [hH] at hHr hH0
  have HH : Hid (hasOf R (I : Int) = H) := (hasOf_nat HS.1 (by rw [HS.2.1]; omega)).trans hH
  go_wp2_with fail
  refine (iHasOf_e (i := (I : Int)) o_r.rd hRb (by omega) HH).mono ?_
  rintro e w6 ⟨rfl, h_w6⟩
  clear c_r_0_w5 f_r_0_w5 c_r_1_w5 f_r_1_w5
  replace x_r := x_r.from_ h_w6
  replace o_r := o_r.below h_w6
  have B_w6 := B_w5.trans (h_w6.mono B_w5.size)
  have s_w6 := h_w6.size
  clear hJ z1 z2 tJ hA
  have c_r_0_w6 := x_r.cell (i := 0) rfl
  have f_r_0_w6 := x_r.frozen 0
  have c_r_1_w6 := x_r.cell (i := 1) rfl
  have f_r_1_w6 := x_r.frozen 1
  obtain ⟨Hj, hHj⟩ : ∃ Hj, hasZ R J = Hj := ⟨_, rfl⟩
  have hHjr := hasZ_range (ok_form HS.1) J
  rw [hHj] at hHjr
  have HHj : Hid (hasOf R (J : Int) = Hj) := (hasOf_nat HS.1 (by rw [HS.2.1]; omega)).trans hHj
  obtain ⟨T, hT⟩ : ∃ T, allOf R = T := ⟨_, rfl⟩
  have hTr := sumN_range2 R R.Give.length (Nat.le_refl _)
  replace hTr : 0 ≤ T ∧ T ≤ 22517998136852480 := by rw [← hT]; exact hTr
  have HT := Lib.hid hT
  have HK := Lib.hid HS.1
  have mayI := may_true (i := (I : Int)) (a := a) HS.1 (by rw [HS.2.1]; omega) (by omega)
  have mayJ := may_true (i := (J : Int)) (a := a) HS.1 (by rw [HS.2.1]; omega) (by omega)
  have MB : Hid (mintB R (I : Int) a = true ∧ mintM R (I : Int) a = addG R I I a) := ⟨(up_mint HS (by omega) (by omega)).1, (mint_out (up_mint HS (by omega) (by omega)).1).2.2⟩
  have hUm := (up_mint (i := (I : Int)) (a := a) HS (by omega) (by omega)).2
  rw [MB.out.2] at hUm
  have hMall := mint_all HS hI ha
  rw [hT, hH] at hMall
  obtain ⟨Dm, hDm⟩ : ∃ D, addG R I I a = D := ⟨_, rfl⟩
  have HDm := Lib.hid hDm
  rw [hDm] at hUm hMall
  have hBm := Up.bulk HS hUm
  have Am := Lib.hid hMall.1
  have Hm := Lib.hid hMall.2
  clear hDm hMall
  have HB1 : Hid (handB R (I : Int) (J : Int) a = decide (a ≤ H)) := by
    show _ = _
    unfold handB
    rw [mayI, mayJ, decide_eq_false (show ¬ ((I : Int) = (J : Int)) by omega)]
    show (true && (true && !false) && rightsOkB (addG R I J a)) = _
    rw [hand_okB hN1 HS hI hJN hIJ ha, hH]
    rfl
  have SB1 : Hid (spendB R (I : Int) a = decide (a ≤ H)) := by
    show _ = _
    unfold spendB
    rw [mayI]
    show (true && rightsOkB (addS R I a)) = _
    rw [spend_okB hN1 HS hI ha, hH]
    rfl
  have g0 : decide (H < 0) = false := decide_eq_false (by omega)
  have w1_ : IntKind.i64.wrap (T + a) = T + a := IntWalk.i64_in _ (by omega)
  have w2_ : IntKind.i64.wrap (H + a) = H + a := IntWalk.i64_in _ (by omega)
  clear mayI mayJ
  by_cases hge : a ≤ H
  case neg =>
    have g1 : decide (a ≤ H) = false := decide_eq_false hge
    have HB2 : Hid (handB R (I : Int) (J : Int) a = false) := HB1.out.trans g1
    have SB2 : Hid (spendB R (I : Int) a = false) := SB1.out.trans g1
    have HM3 : Hid (handM R (I : Int) (J : Int) a = rZ) := if_neg (by rw [HB2.out]; decide)
    have SM3 : Hid (spendM R (I : Int) a = rZ) := if_neg (by rw [SB2.out]; decide)
    clear hH hHj hT
    go_wp2_with fail
    refine (iHand_c (i := (I : Int)) (j := (J : Int)) (a := a) o_r.rd hRb (by omega) (by omega) (by omega)).mono ?_
    rintro e w7 ⟨v_h, rfl, o_h, h_w7⟩
    clear c_r_0_w6 f_r_0_w6 c_r_1_w6 f_r_1_w6
    replace x_r := x_r.from_ h_w7
    replace o_r := o_r.below h_w7
    have B_w7 := B_w6.trans (h_w7.mono B_w6.size)
    have s_w7 := h_w7.size
    rw [HM3.out] at o_h
    rw [HB2.out]
    obtain ⟨AGive_h, cGive_h, ASpent_h, cSpent_h, rfl, -, -⟩ := rv_rights o_h.rd
    have c_r_0_w7 := x_r.cell (i := 0) rfl
    have f_r_0_w7 := x_r.frozen 0
    have c_r_1_w7 := x_r.cell (i := 1) rfl
    have f_r_1_w7 := x_r.frozen 1
    obtain ⟨w8, e_w8, s_w8, h_w8, x_h⟩ := alloc_step w7 27 [.slice AGive_h rZ.Give.length cGive_h, .slice ASpent_h rZ.Spent.length cSpent_h]
    have s_w8_1 := Nat.le_of_eq s_w8
    have s_w8_2 := Nat.le_of_eq s_w8.symm
    clear s_w8
    replace x_r := x_r.from_ h_w8
    replace o_r := o_r.below h_w8
    replace o_h := o_h.below h_w8
    have B_w8 := B_w7.trans (h_w8.mono B_w7.size)
    have c_r_0_w8 := x_r.cell (i := 0) rfl
    have f_r_0_w8 := x_r.frozen 0
    have c_r_1_w8 := x_r.cell (i := 1) rfl
    have f_r_1_w8 := x_r.frozen 1
    have c_h_0_w8 := x_h.cell (i := 0) rfl
    have f_h_0_w8 := x_h.frozen 0
    have c_h_1_w8 := x_h.cell (i := 1) rfl
    have f_h_1_w8 := x_h.frozen 1
    go_wp2_with fail
    refine (iSpend_c (i := (I : Int)) (a := a) o_r.rd hRb (by omega) (by omega)).mono ?_
    rintro e w9 ⟨v_s, rfl, o_s, h_w9⟩
    clear c_r_0_w7 f_r_0_w7 c_r_1_w7 f_r_1_w7 c_r_0_w8 f_r_0_w8 c_r_1_w8 f_r_1_w8 c_h_0_w8 f_h_0_w8 c_h_1_w8 f_h_1_w8
    replace x_r := x_r.from_ h_w9
    replace x_h := x_h.from_ h_w9
    replace o_r := o_r.below h_w9
    replace o_h := o_h.below h_w9
    have B_w9 := B_w8.trans (h_w9.mono B_w8.size)
    have s_w9 := h_w9.size
    rw [SM3.out] at o_s
    rw [SB2.out]
    obtain ⟨AGive_s, cGive_s, ASpent_s, cSpent_s, rfl, -, -⟩ := rv_rights o_s.rd
    have c_r_0_w9 := x_r.cell (i := 0) rfl
    have f_r_0_w9 := x_r.frozen 0
    have c_r_1_w9 := x_r.cell (i := 1) rfl
    have f_r_1_w9 := x_r.frozen 1
    have c_h_0_w9 := x_h.cell (i := 0) rfl
    have f_h_0_w9 := x_h.frozen 0
    have c_h_1_w9 := x_h.cell (i := 1) rfl
    have f_h_1_w9 := x_h.frozen 1
    obtain ⟨w10, e_w10, s_w10, h_w10, x_s⟩ := alloc_step w9 27 [.slice AGive_s rZ.Give.length cGive_s, .slice ASpent_s rZ.Spent.length cSpent_s]
    have s_w10_1 := Nat.le_of_eq s_w10
    have s_w10_2 := Nat.le_of_eq s_w10.symm
    clear s_w10
    replace x_r := x_r.from_ h_w10
    replace x_h := x_h.from_ h_w10
    replace o_r := o_r.below h_w10
    replace o_h := o_h.below h_w10
    replace o_s := o_s.below h_w10
    have B_w10 := B_w9.trans (h_w10.mono B_w9.size)
    have c_r_0_w10 := x_r.cell (i := 0) rfl
    have f_r_0_w10 := x_r.frozen 0
    have c_r_1_w10 := x_r.cell (i := 1) rfl
    have f_r_1_w10 := x_r.frozen 1
    have c_h_0_w10 := x_h.cell (i := 0) rfl
    have f_h_0_w10 := x_h.frozen 0
    have c_h_1_w10 := x_h.cell (i := 1) rfl
    have f_h_1_w10 := x_h.frozen 1
    have c_s_0_w10 := x_s.cell (i := 0) rfl
    have f_s_0_w10 := x_s.frozen 0
    have c_s_1_w10 := x_s.cell (i := 1) rfl
    have f_s_1_w10 := x_s.frozen 1
    go_wp2_with fail
    refine (iMint_c (i := (I : Int)) (a := a) o_r.rd hRb (by omega) (by omega)).mono ?_
    rintro e w11 ⟨v_m, rfl, o_m, h_w11⟩
    clear c_r_0_w9 f_r_0_w9 c_r_1_w9 f_r_1_w9 c_h_0_w9 f_h_0_w9 c_h_1_w9 f_h_1_w9 c_r_0_w10 f_r_0_w10 c_r_1_w10 f_r_1_w10 c_h_0_w10 f_h_0_w10 c_h_1_w10 f_h_1_w10 c_s_0_w10 f_s_0_w10 c_s_1_w10 f_s_1_w10
    replace x_r := x_r.from_ h_w11
    replace x_h := x_h.from_ h_w11
    replace x_s := x_s.from_ h_w11
    replace o_r := o_r.below h_w11
    replace o_h := o_h.below h_w11
    replace o_s := o_s.below h_w11
    have B_w11 := B_w10.trans (h_w11.mono B_w10.size)
    have s_w11 := h_w11.size
    rw [(MB.out.2.trans HDm.out)] at o_m
    rw [MB.out.1]
    obtain ⟨AGive_m, cGive_m, ASpent_m, cSpent_m, rfl, -, -⟩ := rv_rights o_m.rd
    have c_r_0_w11 := x_r.cell (i := 0) rfl
    have f_r_0_w11 := x_r.frozen 0
    have c_r_1_w11 := x_r.cell (i := 1) rfl
    have f_r_1_w11 := x_r.frozen 1
    have c_h_0_w11 := x_h.cell (i := 0) rfl
    have f_h_0_w11 := x_h.frozen 0
    have c_h_1_w11 := x_h.cell (i := 1) rfl
    have f_h_1_w11 := x_h.frozen 1
    have c_s_0_w11 := x_s.cell (i := 0) rfl
    have f_s_0_w11 := x_s.frozen 0
    have c_s_1_w11 := x_s.cell (i := 1) rfl
    have f_s_1_w11 := x_s.frozen 1
    obtain ⟨w12, e_w12, s_w12, h_w12, x_m⟩ := alloc_step w11 27 [.slice AGive_m Dm.Give.length cGive_m, .slice ASpent_m Dm.Spent.length cSpent_m]
    have s_w12_1 := Nat.le_of_eq s_w12
    have s_w12_2 := Nat.le_of_eq s_w12.symm
    clear s_w12
    replace x_r := x_r.from_ h_w12
    replace x_h := x_h.from_ h_w12
    replace x_s := x_s.from_ h_w12
    replace o_r := o_r.below h_w12
    replace o_h := o_h.below h_w12
    replace o_s := o_s.below h_w12
    replace o_m := o_m.below h_w12
    have B_w12 := B_w11.trans (h_w12.mono B_w11.size)
    have c_r_0_w12 := x_r.cell (i := 0) rfl
    have f_r_0_w12 := x_r.frozen 0
    have c_r_1_w12 := x_r.cell (i := 1) rfl
    have f_r_1_w12 := x_r.frozen 1
    have c_h_0_w12 := x_h.cell (i := 0) rfl
    have f_h_0_w12 := x_h.frozen 0
    have c_h_1_w12 := x_h.cell (i := 1) rfl
    have f_h_1_w12 := x_h.frozen 1
    have c_s_0_w12 := x_s.cell (i := 0) rfl
    have f_s_0_w12 := x_s.frozen 0
    have c_s_1_w12 := x_s.cell (i := 1) rfl
    have f_s_1_w12 := x_s.frozen 1
    have c_m_0_w12 := x_m.cell (i := 0) rfl
    have f_m_0_w12 := x_m.frozen 0
    have c_m_1_w12 := x_m.cell (i := 1) rfl
    have f_m_1_w12 := x_m.frozen 1
    go_wp2_with fail
    go_region_held3 (fun w' => w'.cell? ⟨w2.heap.size, 0, none⟩ = some (.slice AGive_r R.Give.length cGive_r) ∧ w'.cell? ⟨w2.heap.size, 1, none⟩ = some (.slice ASpent_r R.Spent.length cSpent_r) ∧ w'.cell? ⟨w11.heap.size, 0, none⟩ = some (.slice AGive_m Dm.Give.length cGive_m) ∧ w'.cell? ⟨w11.heap.size, 1, none⟩ = some (.slice ASpent_m Dm.Spent.length cSpent_m))
      (first | exact ⟨c_r_0_w12, c_r_1_w12, c_m_0_w12, c_m_1_w12⟩ | exact ⟨qa_r_0, qa_r_1, qa_m_0, qa_m_1⟩ | exact ⟨qb_r_0, qb_r_1, qb_m_0, qb_m_1⟩ | exact ⟨qc_r_0, qc_r_1, qc_m_0, qc_m_1⟩ | exact ⟨qd_r_0, qd_r_1, qd_m_0, qd_m_1⟩ | go_keep)
      (first | ((go_at_call 22); (refine (iHasOf_e (i := (I : Int)) (o_m.rd.from_ hb_c) hBm (by omega) Hm).mono ?_); rintro e w_d ⟨rfl, hd_d⟩; have hb_d : Below w12.heap.size w12 w_d := hb_c.trans (hd_d.mono hb_c.size); have sd_d := hd_d.size; have qd_r_0 := (x_r.from_ hb_d).cell (i := 0) rfl; have qd_r_1 := (x_r.from_ hb_d).cell (i := 1) rfl; have qd_m_0 := (x_m.from_ hb_d).cell (i := 0) rfl; have qd_m_1 := (x_m.from_ hb_d).cell (i := 1) rfl)
             | ((go_at_call 25); (refine (iAllOf_e (o_r.rd.from_ hb_b) hRb HT).mono ?_); rintro e w_c ⟨rfl, hd_c⟩; have hb_c : Below w12.heap.size w12 w_c := hb_b.trans (hd_c.mono hb_b.size); have sd_c := hd_c.size; have qc_r_0 := (x_r.from_ hb_c).cell (i := 0) rfl; have qc_r_1 := (x_r.from_ hb_c).cell (i := 1) rfl; have qc_m_0 := (x_m.from_ hb_c).cell (i := 0) rfl; have qc_m_1 := (x_m.from_ hb_c).cell (i := 1) rfl)
             | ((go_at_call 25); (refine (iAllOf_e (o_m.rd.from_ hb_a) hBm Am).mono ?_); rintro e w_b ⟨rfl, hd_b⟩; have hb_b : Below w12.heap.size w12 w_b := hb_a.trans (hd_b.mono hb_a.size); have sd_b := hd_b.size; have qb_r_0 := (x_r.from_ hb_b).cell (i := 0) rfl; have qb_r_1 := (x_r.from_ hb_b).cell (i := 1) rfl; have qb_m_0 := (x_m.from_ hb_b).cell (i := 0) rfl; have qb_m_1 := (x_m.from_ hb_b).cell (i := 1) rfl)
             | ((go_at_call 21); (refine (iRightsOk_e (o_r.rd.from_ ((Below.refl w12.heap.size w12).drew)) hRb HK).mono ?_); rintro e w_a ⟨rfl, hd_a⟩; have hb_a : Below w12.heap.size w12 w_a := (Below.refl w12.heap.size w12).drew.trans hd_a; have sd_a := hd_a.size; replace sd_a : w12.heap.size ≤ w_a.heap.size := sd_a; have qa_r_0 := (x_r.from_ hb_a).cell (i := 0) rfl; have qa_r_1 := (x_r.from_ hb_a).cell (i := 1) rfl; have qa_m_0 := (x_m.from_ hb_a).cell (i := 0) rfl; have qa_m_1 := (x_m.from_ hb_a).cell (i := 1) rfl)
             | fail)
    clear c_r_0_w11 f_r_0_w11 c_r_1_w11 f_r_1_w11 c_h_0_w11 f_h_0_w11 c_h_1_w11 f_h_1_w11 c_s_0_w11 f_s_0_w11 c_s_1_w11 f_s_1_w11 c_r_0_w12 f_r_0_w12 c_r_1_w12 f_r_1_w12 c_h_0_w12 f_h_0_w12 c_h_1_w12 f_h_1_w12 c_s_0_w12 f_s_0_w12 c_s_1_w12 f_s_1_w12 c_m_0_w12 f_m_0_w12 c_m_1_w12 f_m_1_w12
    have dz_w12 : w12.drew.heap.size = w12.heap.size := rfl
    replace x_r := x_r.from_ hb_d
    replace x_h := x_h.from_ hb_d
    replace x_s := x_s.from_ hb_d
    replace x_m := x_m.from_ hb_d
    replace o_r := o_r.below hb_d
    replace o_h := o_h.below hb_d
    replace o_s := o_s.below hb_d
    replace o_m := o_m.below hb_d
    have B_d := B_w12.trans (hb_d.mono B_w12.size)
    have sz_d := hb_d.size
    go_wp2
    go_ret
    exact ⟨rfl, B_d⟩
  case pos =>
    have g1 : decide (a ≤ H) = true := decide_eq_true hge
    have HB2 : Hid (handB R (I : Int) (J : Int) a = true) := HB1.out.trans g1
    have SB2 : Hid (spendB R (I : Int) a = true) := SB1.out.trans g1
    have hhall := hand_all hN1 HS hI hJN hIJ ha (by rw [hH]; exact hge)
    have hsall := spend_all hN1 HS hI ha (by rw [hH]; exact hge)
    rw [hT, hH, hHj] at hhall
    rw [hT] at hsall
    have okh : rightsOkB (addG R I J a) = true := by rw [hand_okB hN1 HS hI hJN hIJ ha, hH, g1]
    have oks : rightsOkB (addS R I a) = true := by rw [spend_okB hN1 HS hI ha, hH, g1]
    have HM2 : Hid (handM R (I : Int) (J : Int) a = addG R I J a) := (hand_out HB2.out).2.2.2.2
    have SM2 : Hid (spendM R (I : Int) a = addS R I a) := (spend_out SB2.out).2.2
    obtain ⟨Dh, hDh⟩ : ∃ D, addG R I J a = D := ⟨_, rfl⟩
    obtain ⟨Ds, hDs⟩ : ∃ D, addS R I a = D := ⟨_, rfl⟩
    rw [hDh] at hhall okh
    rw [hDs] at hsall oks
    have HM3 : Hid (handM R (I : Int) (J : Int) a = Dh) := HM2.out.trans hDh
    have SM3 : Hid (spendM R (I : Int) a = Ds) := SM2.out.trans hDs
    have hBh : Dh.bulk ≤ 16777216 := Nat.le_trans (ok_bulk okh) (by omega)
    have hBs : Ds.bulk ≤ 16777216 := Nat.le_trans (ok_bulk oks) (by omega)
    have F1 := Lib.hid hhall.1
    have F2 := Lib.hid hhall.2.1
    have F3 := Lib.hid hhall.2.2.1
    have F4 := Lib.hid hhall.2.2.2
    have F5 := Lib.hid hsall.1
    have F6 := Lib.hid hsall.2
    clear hhall hsall okh oks hDh hDs
    have w3_ : IntKind.i64.wrap (H - a) = H - a := IntWalk.i64_in _ (by omega)
    have w4_ : IntKind.i64.wrap (Hj + a) = Hj + a := IntWalk.i64_in _ (by omega)
    have w5_ : IntKind.i64.wrap (T - a) = T - a := IntWalk.i64_in _ (by omega)
    clear hH hHj hT
    go_wp2_with fail
    refine (iHand_c (i := (I : Int)) (j := (J : Int)) (a := a) o_r.rd hRb (by omega) (by omega) (by omega)).mono ?_
    rintro e w7 ⟨v_h, rfl, o_h, h_w7⟩
    clear c_r_0_w6 f_r_0_w6 c_r_1_w6 f_r_1_w6
    replace x_r := x_r.from_ h_w7
    replace o_r := o_r.below h_w7
    have B_w7 := B_w6.trans (h_w7.mono B_w6.size)
    have s_w7 := h_w7.size
    rw [HM3.out] at o_h
    rw [HB2.out]
    obtain ⟨AGive_h, cGive_h, ASpent_h, cSpent_h, rfl, -, -⟩ := rv_rights o_h.rd
    have c_r_0_w7 := x_r.cell (i := 0) rfl
    have f_r_0_w7 := x_r.frozen 0
    have c_r_1_w7 := x_r.cell (i := 1) rfl
    have f_r_1_w7 := x_r.frozen 1
    obtain ⟨w8, e_w8, s_w8, h_w8, x_h⟩ := alloc_step w7 27 [.slice AGive_h Dh.Give.length cGive_h, .slice ASpent_h Dh.Spent.length cSpent_h]
    have s_w8_1 := Nat.le_of_eq s_w8
    have s_w8_2 := Nat.le_of_eq s_w8.symm
    clear s_w8
    replace x_r := x_r.from_ h_w8
    replace o_r := o_r.below h_w8
    replace o_h := o_h.below h_w8
    have B_w8 := B_w7.trans (h_w8.mono B_w7.size)
    have c_r_0_w8 := x_r.cell (i := 0) rfl
    have f_r_0_w8 := x_r.frozen 0
    have c_r_1_w8 := x_r.cell (i := 1) rfl
    have f_r_1_w8 := x_r.frozen 1
    have c_h_0_w8 := x_h.cell (i := 0) rfl
    have f_h_0_w8 := x_h.frozen 0
    have c_h_1_w8 := x_h.cell (i := 1) rfl
    have f_h_1_w8 := x_h.frozen 1
    go_wp2_with fail
    refine (iSpend_c (i := (I : Int)) (a := a) o_r.rd hRb (by omega) (by omega)).mono ?_
    rintro e w9 ⟨v_s, rfl, o_s, h_w9⟩
    clear c_r_0_w7 f_r_0_w7 c_r_1_w7 f_r_1_w7 c_r_0_w8 f_r_0_w8 c_r_1_w8 f_r_1_w8 c_h_0_w8 f_h_0_w8 c_h_1_w8 f_h_1_w8
    replace x_r := x_r.from_ h_w9
    replace x_h := x_h.from_ h_w9
    replace o_r := o_r.below h_w9
    replace o_h := o_h.below h_w9
    have B_w9 := B_w8.trans (h_w9.mono B_w8.size)
    have s_w9 := h_w9.size
    rw [SM3.out] at o_s
    rw [SB2.out]
    obtain ⟨AGive_s, cGive_s, ASpent_s, cSpent_s, rfl, -, -⟩ := rv_rights o_s.rd
    have c_r_0_w9 := x_r.cell (i := 0) rfl
    have f_r_0_w9 := x_r.frozen 0
    have c_r_1_w9 := x_r.cell (i := 1) rfl
    have f_r_1_w9 := x_r.frozen 1
    have c_h_0_w9 := x_h.cell (i := 0) rfl
    have f_h_0_w9 := x_h.frozen 0
    have c_h_1_w9 := x_h.cell (i := 1) rfl
    have f_h_1_w9 := x_h.frozen 1
    obtain ⟨w10, e_w10, s_w10, h_w10, x_s⟩ := alloc_step w9 27 [.slice AGive_s Ds.Give.length cGive_s, .slice ASpent_s Ds.Spent.length cSpent_s]
    have s_w10_1 := Nat.le_of_eq s_w10
    have s_w10_2 := Nat.le_of_eq s_w10.symm
    clear s_w10
    replace x_r := x_r.from_ h_w10
    replace x_h := x_h.from_ h_w10
    replace o_r := o_r.below h_w10
    replace o_h := o_h.below h_w10
    replace o_s := o_s.below h_w10
    have B_w10 := B_w9.trans (h_w10.mono B_w9.size)
    have c_r_0_w10 := x_r.cell (i := 0) rfl
    have f_r_0_w10 := x_r.frozen 0
    have c_r_1_w10 := x_r.cell (i := 1) rfl
    have f_r_1_w10 := x_r.frozen 1
    have c_h_0_w10 := x_h.cell (i := 0) rfl
    have f_h_0_w10 := x_h.frozen 0
    have c_h_1_w10 := x_h.cell (i := 1) rfl
    have f_h_1_w10 := x_h.frozen 1
    have c_s_0_w10 := x_s.cell (i := 0) rfl
    have f_s_0_w10 := x_s.frozen 0
    have c_s_1_w10 := x_s.cell (i := 1) rfl
    have f_s_1_w10 := x_s.frozen 1
    go_wp2_with fail
    refine (iMint_c (i := (I : Int)) (a := a) o_r.rd hRb (by omega) (by omega)).mono ?_
    rintro e w11 ⟨v_m, rfl, o_m, h_w11⟩
    clear c_r_0_w9 f_r_0_w9 c_r_1_w9 f_r_1_w9 c_h_0_w9 f_h_0_w9 c_h_1_w9 f_h_1_w9 c_r_0_w10 f_r_0_w10 c_r_1_w10 f_r_1_w10 c_h_0_w10 f_h_0_w10 c_h_1_w10 f_h_1_w10 c_s_0_w10 f_s_0_w10 c_s_1_w10 f_s_1_w10
    replace x_r := x_r.from_ h_w11
    replace x_h := x_h.from_ h_w11
    replace x_s := x_s.from_ h_w11
    replace o_r := o_r.below h_w11
    replace o_h := o_h.below h_w11
    replace o_s := o_s.below h_w11
    have B_w11 := B_w10.trans (h_w11.mono B_w10.size)
    have s_w11 := h_w11.size
    rw [(MB.out.2.trans HDm.out)] at o_m
    rw [MB.out.1]
    obtain ⟨AGive_m, cGive_m, ASpent_m, cSpent_m, rfl, -, -⟩ := rv_rights o_m.rd
    have c_r_0_w11 := x_r.cell (i := 0) rfl
    have f_r_0_w11 := x_r.frozen 0
    have c_r_1_w11 := x_r.cell (i := 1) rfl
    have f_r_1_w11 := x_r.frozen 1
    have c_h_0_w11 := x_h.cell (i := 0) rfl
    have f_h_0_w11 := x_h.frozen 0
    have c_h_1_w11 := x_h.cell (i := 1) rfl
    have f_h_1_w11 := x_h.frozen 1
    have c_s_0_w11 := x_s.cell (i := 0) rfl
    have f_s_0_w11 := x_s.frozen 0
    have c_s_1_w11 := x_s.cell (i := 1) rfl
    have f_s_1_w11 := x_s.frozen 1
    obtain ⟨w12, e_w12, s_w12, h_w12, x_m⟩ := alloc_step w11 27 [.slice AGive_m Dm.Give.length cGive_m, .slice ASpent_m Dm.Spent.length cSpent_m]
    have s_w12_1 := Nat.le_of_eq s_w12
    have s_w12_2 := Nat.le_of_eq s_w12.symm
    clear s_w12
    replace x_r := x_r.from_ h_w12
    replace x_h := x_h.from_ h_w12
    replace x_s := x_s.from_ h_w12
    replace o_r := o_r.below h_w12
    replace o_h := o_h.below h_w12
    replace o_s := o_s.below h_w12
    replace o_m := o_m.below h_w12
    have B_w12 := B_w11.trans (h_w12.mono B_w11.size)
    have c_r_0_w12 := x_r.cell (i := 0) rfl
    have f_r_0_w12 := x_r.frozen 0
    have c_r_1_w12 := x_r.cell (i := 1) rfl
    have f_r_1_w12 := x_r.frozen 1
    have c_h_0_w12 := x_h.cell (i := 0) rfl
    have f_h_0_w12 := x_h.frozen 0
    have c_h_1_w12 := x_h.cell (i := 1) rfl
    have f_h_1_w12 := x_h.frozen 1
    have c_s_0_w12 := x_s.cell (i := 0) rfl
    have f_s_0_w12 := x_s.frozen 0
    have c_s_1_w12 := x_s.cell (i := 1) rfl
    have f_s_1_w12 := x_s.frozen 1
    have c_m_0_w12 := x_m.cell (i := 0) rfl
    have f_m_0_w12 := x_m.frozen 0
    have c_m_1_w12 := x_m.cell (i := 1) rfl
    have f_m_1_w12 := x_m.frozen 1
    go_wp2_with fail
    go_region_held3 (fun w' => w'.cell? ⟨w2.heap.size, 0, none⟩ = some (.slice AGive_r R.Give.length cGive_r) ∧ w'.cell? ⟨w2.heap.size, 1, none⟩ = some (.slice ASpent_r R.Spent.length cSpent_r) ∧ w'.cell? ⟨w11.heap.size, 0, none⟩ = some (.slice AGive_m Dm.Give.length cGive_m) ∧ w'.cell? ⟨w11.heap.size, 1, none⟩ = some (.slice ASpent_m Dm.Spent.length cSpent_m))
      (first | exact ⟨c_r_0_w12, c_r_1_w12, c_m_0_w12, c_m_1_w12⟩ | exact ⟨qa_r_0, qa_r_1, qa_m_0, qa_m_1⟩ | exact ⟨qb_r_0, qb_r_1, qb_m_0, qb_m_1⟩ | exact ⟨qc_r_0, qc_r_1, qc_m_0, qc_m_1⟩ | exact ⟨qd_r_0, qd_r_1, qd_m_0, qd_m_1⟩ | go_keep)
      (first | ((go_at_call 22); (refine (iHasOf_e (i := (I : Int)) (o_m.rd.from_ hb_c) hBm (by omega) Hm).mono ?_); rintro e w_d ⟨rfl, hd_d⟩; have hb_d : Below w12.heap.size w12 w_d := hb_c.trans (hd_d.mono hb_c.size); have sd_d := hd_d.size; have qd_r_0 := (x_r.from_ hb_d).cell (i := 0) rfl; have qd_r_1 := (x_r.from_ hb_d).cell (i := 1) rfl; have qd_m_0 := (x_m.from_ hb_d).cell (i := 0) rfl; have qd_m_1 := (x_m.from_ hb_d).cell (i := 1) rfl)
             | ((go_at_call 25); (refine (iAllOf_e (o_r.rd.from_ hb_b) hRb HT).mono ?_); rintro e w_c ⟨rfl, hd_c⟩; have hb_c : Below w12.heap.size w12 w_c := hb_b.trans (hd_c.mono hb_b.size); have sd_c := hd_c.size; have qc_r_0 := (x_r.from_ hb_c).cell (i := 0) rfl; have qc_r_1 := (x_r.from_ hb_c).cell (i := 1) rfl; have qc_m_0 := (x_m.from_ hb_c).cell (i := 0) rfl; have qc_m_1 := (x_m.from_ hb_c).cell (i := 1) rfl)
             | ((go_at_call 25); (refine (iAllOf_e (o_m.rd.from_ hb_a) hBm Am).mono ?_); rintro e w_b ⟨rfl, hd_b⟩; have hb_b : Below w12.heap.size w12 w_b := hb_a.trans (hd_b.mono hb_a.size); have sd_b := hd_b.size; have qb_r_0 := (x_r.from_ hb_b).cell (i := 0) rfl; have qb_r_1 := (x_r.from_ hb_b).cell (i := 1) rfl; have qb_m_0 := (x_m.from_ hb_b).cell (i := 0) rfl; have qb_m_1 := (x_m.from_ hb_b).cell (i := 1) rfl)
             | ((go_at_call 21); (refine (iRightsOk_e (o_r.rd.from_ ((Below.refl w12.heap.size w12).drew)) hRb HK).mono ?_); rintro e w_a ⟨rfl, hd_a⟩; have hb_a : Below w12.heap.size w12 w_a := (Below.refl w12.heap.size w12).drew.trans hd_a; have sd_a := hd_a.size; replace sd_a : w12.heap.size ≤ w_a.heap.size := sd_a; have qa_r_0 := (x_r.from_ hb_a).cell (i := 0) rfl; have qa_r_1 := (x_r.from_ hb_a).cell (i := 1) rfl; have qa_m_0 := (x_m.from_ hb_a).cell (i := 0) rfl; have qa_m_1 := (x_m.from_ hb_a).cell (i := 1) rfl)
             | fail)
    clear c_r_0_w11 f_r_0_w11 c_r_1_w11 f_r_1_w11 c_h_0_w11 f_h_0_w11 c_h_1_w11 f_h_1_w11 c_s_0_w11 f_s_0_w11 c_s_1_w11 f_s_1_w11 c_r_0_w12 f_r_0_w12 c_r_1_w12 f_r_1_w12 c_h_0_w12 f_h_0_w12 c_h_1_w12 f_h_1_w12 c_s_0_w12 f_s_0_w12 c_s_1_w12 f_s_1_w12 c_m_0_w12 f_m_0_w12 c_m_1_w12 f_m_1_w12
    have dz_w12 : w12.drew.heap.size = w12.heap.size := rfl
    replace x_r := x_r.from_ hb_d
    replace x_h := x_h.from_ hb_d
    replace x_s := x_s.from_ hb_d
    replace x_m := x_m.from_ hb_d
    replace o_r := o_r.below hb_d
    replace o_h := o_h.below hb_d
    replace o_s := o_s.below hb_d
    replace o_m := o_m.below hb_d
    have B_d := B_w12.trans (hb_d.mono B_w12.size)
    have sz_d := hb_d.size
    have c_r_0_w_d := x_r.cell (i := 0) rfl
    have f_r_0_w_d := x_r.frozen 0
    have c_r_1_w_d := x_r.cell (i := 1) rfl
    have f_r_1_w_d := x_r.frozen 1
    have c_h_0_w_d := x_h.cell (i := 0) rfl
    have f_h_0_w_d := x_h.frozen 0
    have c_h_1_w_d := x_h.cell (i := 1) rfl
    have f_h_1_w_d := x_h.frozen 1
    have c_s_0_w_d := x_s.cell (i := 0) rfl
    have f_s_0_w_d := x_s.frozen 0
    have c_s_1_w_d := x_s.cell (i := 1) rfl
    have f_s_1_w_d := x_s.frozen 1
    have c_m_0_w_d := x_m.cell (i := 0) rfl
    have f_m_0_w_d := x_m.frozen 0
    have c_m_1_w_d := x_m.cell (i := 1) rfl
    have f_m_1_w_d := x_m.frozen 1
    go_wp2_with fail
    go_region_held3 (fun w' => w'.cell? ⟨w2.heap.size, 0, none⟩ = some (.slice AGive_r R.Give.length cGive_r) ∧ w'.cell? ⟨w2.heap.size, 1, none⟩ = some (.slice ASpent_r R.Spent.length cSpent_r) ∧ w'.cell? ⟨w7.heap.size, 0, none⟩ = some (.slice AGive_h Dh.Give.length cGive_h) ∧ w'.cell? ⟨w7.heap.size, 1, none⟩ = some (.slice ASpent_h Dh.Spent.length cSpent_h) ∧ w'.cell? ⟨w9.heap.size, 0, none⟩ = some (.slice AGive_s Ds.Give.length cGive_s) ∧ w'.cell? ⟨w9.heap.size, 1, none⟩ = some (.slice ASpent_s Ds.Spent.length cSpent_s))
      (first | exact ⟨c_r_0_w_d, c_r_1_w_d, c_h_0_w_d, c_h_1_w_d, c_s_0_w_d, c_s_1_w_d⟩ | exact ⟨qe_r_0, qe_r_1, qe_h_0, qe_h_1, qe_s_0, qe_s_1⟩ | exact ⟨qf_r_0, qf_r_1, qf_h_0, qf_h_1, qf_s_0, qf_s_1⟩ | exact ⟨qg_r_0, qg_r_1, qg_h_0, qg_h_1, qg_s_0, qg_s_1⟩ | exact ⟨qh_r_0, qh_r_1, qh_h_0, qh_h_1, qh_s_0, qh_s_1⟩ | exact ⟨qi_r_0, qi_r_1, qi_h_0, qi_h_1, qi_s_0, qi_s_1⟩ | exact ⟨qj_r_0, qj_r_1, qj_h_0, qj_h_1, qj_s_0, qj_s_1⟩ | exact ⟨qk_r_0, qk_r_1, qk_h_0, qk_h_1, qk_s_0, qk_s_1⟩ | exact ⟨ql_r_0, ql_r_1, ql_h_0, ql_h_1, ql_s_0, ql_s_1⟩ | exact ⟨qn_r_0, qn_r_1, qn_h_0, qn_h_1, qn_s_0, qn_s_1⟩ | go_keep)
      (first | ((go_at_call 20); (refine (iLater_e (o_r.rd.from_ hb_l) (o_s.rd.from_ hb_l) hRb hBs F6).mono ?_); rintro e w_n ⟨rfl, hd_n⟩; have hb_n : Below w_d.heap.size w_d w_n := hb_l.trans (hd_n.mono hb_l.size); have sd_n := hd_n.size; have qn_r_0 := (x_r.from_ hb_n).cell (i := 0) rfl; have qn_r_1 := (x_r.from_ hb_n).cell (i := 1) rfl; have qn_h_0 := (x_h.from_ hb_n).cell (i := 0) rfl; have qn_h_1 := (x_h.from_ hb_n).cell (i := 1) rfl; have qn_s_0 := (x_s.from_ hb_n).cell (i := 0) rfl; have qn_s_1 := (x_s.from_ hb_n).cell (i := 1) rfl)
             | ((go_at_call 20); (refine (iLater_e (o_r.rd.from_ hb_k) (o_h.rd.from_ hb_k) hRb hBh F4).mono ?_); rintro e w_l ⟨rfl, hd_l⟩; have hb_l : Below w_d.heap.size w_d w_l := hb_k.trans (hd_l.mono hb_k.size); have sd_l := hd_l.size; have ql_r_0 := (x_r.from_ hb_l).cell (i := 0) rfl; have ql_r_1 := (x_r.from_ hb_l).cell (i := 1) rfl; have ql_h_0 := (x_h.from_ hb_l).cell (i := 0) rfl; have ql_h_1 := (x_h.from_ hb_l).cell (i := 1) rfl; have ql_s_0 := (x_s.from_ hb_l).cell (i := 0) rfl; have ql_s_1 := (x_s.from_ hb_l).cell (i := 1) rfl)
             | ((go_at_call 25); (refine (iAllOf_e (o_r.rd.from_ hb_j) hRb HT).mono ?_); rintro e w_k ⟨rfl, hd_k⟩; have hb_k : Below w_d.heap.size w_d w_k := hb_j.trans (hd_k.mono hb_j.size); have sd_k := hd_k.size; have qk_r_0 := (x_r.from_ hb_k).cell (i := 0) rfl; have qk_r_1 := (x_r.from_ hb_k).cell (i := 1) rfl; have qk_h_0 := (x_h.from_ hb_k).cell (i := 0) rfl; have qk_h_1 := (x_h.from_ hb_k).cell (i := 1) rfl; have qk_s_0 := (x_s.from_ hb_k).cell (i := 0) rfl; have qk_s_1 := (x_s.from_ hb_k).cell (i := 1) rfl)
             | ((go_at_call 25); (refine (iAllOf_e (o_s.rd.from_ hb_i) hBs F5).mono ?_); rintro e w_j ⟨rfl, hd_j⟩; have hb_j : Below w_d.heap.size w_d w_j := hb_i.trans (hd_j.mono hb_i.size); have sd_j := hd_j.size; have qj_r_0 := (x_r.from_ hb_j).cell (i := 0) rfl; have qj_r_1 := (x_r.from_ hb_j).cell (i := 1) rfl; have qj_h_0 := (x_h.from_ hb_j).cell (i := 0) rfl; have qj_h_1 := (x_h.from_ hb_j).cell (i := 1) rfl; have qj_s_0 := (x_s.from_ hb_j).cell (i := 0) rfl; have qj_s_1 := (x_s.from_ hb_j).cell (i := 1) rfl)
             | ((go_at_call 25); (refine (iAllOf_e (o_r.rd.from_ hb_h) hRb HT).mono ?_); rintro e w_i ⟨rfl, hd_i⟩; have hb_i : Below w_d.heap.size w_d w_i := hb_h.trans (hd_i.mono hb_h.size); have sd_i := hd_i.size; have qi_r_0 := (x_r.from_ hb_i).cell (i := 0) rfl; have qi_r_1 := (x_r.from_ hb_i).cell (i := 1) rfl; have qi_h_0 := (x_h.from_ hb_i).cell (i := 0) rfl; have qi_h_1 := (x_h.from_ hb_i).cell (i := 1) rfl; have qi_s_0 := (x_s.from_ hb_i).cell (i := 0) rfl; have qi_s_1 := (x_s.from_ hb_i).cell (i := 1) rfl)
             | ((go_at_call 25); (refine (iAllOf_e (o_h.rd.from_ hb_g) hBh F1).mono ?_); rintro e w_h ⟨rfl, hd_h⟩; have hb_h : Below w_d.heap.size w_d w_h := hb_g.trans (hd_h.mono hb_g.size); have sd_h := hd_h.size; have qh_r_0 := (x_r.from_ hb_h).cell (i := 0) rfl; have qh_r_1 := (x_r.from_ hb_h).cell (i := 1) rfl; have qh_h_0 := (x_h.from_ hb_h).cell (i := 0) rfl; have qh_h_1 := (x_h.from_ hb_h).cell (i := 1) rfl; have qh_s_0 := (x_s.from_ hb_h).cell (i := 0) rfl; have qh_s_1 := (x_s.from_ hb_h).cell (i := 1) rfl)
             | ((go_at_call 22); (refine (iHasOf_e (i := (J : Int)) (o_r.rd.from_ hb_f) hRb (by omega) HHj).mono ?_); rintro e w_g ⟨rfl, hd_g⟩; have hb_g : Below w_d.heap.size w_d w_g := hb_f.trans (hd_g.mono hb_f.size); have sd_g := hd_g.size; have qg_r_0 := (x_r.from_ hb_g).cell (i := 0) rfl; have qg_r_1 := (x_r.from_ hb_g).cell (i := 1) rfl; have qg_h_0 := (x_h.from_ hb_g).cell (i := 0) rfl; have qg_h_1 := (x_h.from_ hb_g).cell (i := 1) rfl; have qg_s_0 := (x_s.from_ hb_g).cell (i := 0) rfl; have qg_s_1 := (x_s.from_ hb_g).cell (i := 1) rfl)
             | ((go_at_call 22); (refine (iHasOf_e (i := (J : Int)) (o_h.rd.from_ hb_e) hBh (by omega) F3).mono ?_); rintro e w_f ⟨rfl, hd_f⟩; have hb_f : Below w_d.heap.size w_d w_f := hb_e.trans (hd_f.mono hb_e.size); have sd_f := hd_f.size; have qf_r_0 := (x_r.from_ hb_f).cell (i := 0) rfl; have qf_r_1 := (x_r.from_ hb_f).cell (i := 1) rfl; have qf_h_0 := (x_h.from_ hb_f).cell (i := 0) rfl; have qf_h_1 := (x_h.from_ hb_f).cell (i := 1) rfl; have qf_s_0 := (x_s.from_ hb_f).cell (i := 0) rfl; have qf_s_1 := (x_s.from_ hb_f).cell (i := 1) rfl)
             | ((go_at_call 22); (refine (iHasOf_e (i := (I : Int)) (o_h.rd.from_ ((Below.refl w_d.heap.size w_d).drew)) hBh (by omega) F2).mono ?_); rintro e w_e ⟨rfl, hd_e⟩; have hb_e : Below w_d.heap.size w_d w_e := (Below.refl w_d.heap.size w_d).drew.trans hd_e; have sd_e := hd_e.size; replace sd_e : w_d.heap.size ≤ w_e.heap.size := sd_e; have qe_r_0 := (x_r.from_ hb_e).cell (i := 0) rfl; have qe_r_1 := (x_r.from_ hb_e).cell (i := 1) rfl; have qe_h_0 := (x_h.from_ hb_e).cell (i := 0) rfl; have qe_h_1 := (x_h.from_ hb_e).cell (i := 1) rfl; have qe_s_0 := (x_s.from_ hb_e).cell (i := 0) rfl; have qe_s_1 := (x_s.from_ hb_e).cell (i := 1) rfl)
             | fail)
    go_wp2
    go_ret
    exact ⟨rfl, B_d.trans (hb_n.mono B_d.size)⟩

end Go.Proofs.Ytmbipgnecjlicaa
