/- The walk of the law FnMeet. Laid by a program of ours (src/fnmeet.py). -/
import Derived.Test.YtmbipgnecjlicaaUpMath
import Derived.Test.YtmbipgnecjlicaaRtDraw
import Derived.Test.YtmbipgnecjlicaaMakes
import Derived.Test.YtmbipgnecjlicaaRtI
import Derived.IntWalk
namespace Go.Proofs.Ytmbipgnecjlicaa
open Go.RowKit
set_option linter.unusedVariables false

theorem rdF {w w' : World} {A : Option Addr} {zs : List Int} (h : Rd .u8 w w.heap.size A zs) (hb : Below w.heap.size w w') : Rd .u8 w' w'.heap.size A zs := (h.below hb).more hb.size

set_option maxRecDepth 100000 in
set_option maxHeartbeats 8000000 in
theorem wMeetL (v : Value) (zs : List Int) (w : World) (r : RS .u8 w v zs) (hb : Bytes zs) :
    Calls Try.prog 3 #[v] w fun e w' => e = .returned (.bool true) ∧ Below w.heap.size w w' := by
  obtain ⟨A, c, rfl, p1, p2, hr⟩ := r
  unfold maxLen at p2
  by_cases hbig : 1048576 < zs.length
  case pos =>
    have i0 : (1048576 : Int) < (zs.length : Int) := by omega
    go_enter Try.func3, Try.ntmps3
    go_wp2
    go_ret
    exact ⟨rfl, Below.refl _ _⟩
  have hm : zs.length ≤ 1048576 := by omega
  have B0 : Below w.heap.size w w := Below.refl _ _
  go_enter Try.func3, Try.ntmps3
  go_wp2_with fail
  refine (makeNum_any A c zs 3 _ (rdF hr B0) hb hm (by omega) (by omega)).mono ?_
  rintro e w1 ⟨nn, rfl, n1, n2, h_w1⟩
  have B_w1 := B0.trans (h_w1.mono B0.size)
  have s_w1 := h_w1.size
  obtain ⟨N, hN⟩ : ∃ N : Nat, 1 + nn = (N : Int) := ⟨(1 + nn).toNat, by omega⟩
  have hN1 : 1 ≤ N ∧ N ≤ 4 := by omega
  go_wp2_with fail
  refine (makeRights_c (n := N) (rdF hr B_w1) hb hm hN1).mono ?_
  rintro e w2 ⟨v_a, R, rfl, o_a, HS, h_w2⟩
  have B_w2 := B_w1.trans (h_w2.mono B_w1.size)
  have s_w2 := h_w2.size
  clear hN
  obtain ⟨AGive_a, cGive_a, ASpent_a, cSpent_a, rfl, -, -⟩ := rv_rights o_a.rd
  have hRb := Up.bulk HS (Up.refl HS)
  obtain ⟨w3, e_w3, s_w3, h_w3, x_a⟩ := alloc_step w2 27 [.slice AGive_a R.Give.length cGive_a, .slice ASpent_a R.Spent.length cSpent_a]
  have s_w3_1 := Nat.le_of_eq s_w3
  have s_w3_2 := Nat.le_of_eq s_w3.symm
  clear s_w3
  replace o_a := o_a.below h_w3
  have B_w3 := B_w2.trans (h_w3.mono B_w2.size)
  have c_a_0_w3 := x_a.cell (i := 0) rfl
  have f_a_0_w3 := x_a.frozen 0
  have c_a_1_w3 := x_a.cell (i := 1) rfl
  have f_a_1_w3 := x_a.frozen 1
  go_upto_region 5 with fail
  go_cut [5, 6] (fun s0 s1 wx => ∃ Db, Up N R Db ∧ OutCall rightsL 27 w3 Db s0 wx ∧ s1 = .bool true)
  case first =>
    go_region_held3 (fun w' => w'.cell? ⟨w2.heap.size, 0, none⟩ = some (.slice AGive_a R.Give.length cGive_a) ∧ w'.cell? ⟨w2.heap.size, 1, none⟩ = some (.slice ASpent_a R.Spent.length cSpent_a))
      (first | exact ⟨c_a_0_w3, c_a_1_w3⟩ | exact ⟨(x_a.alloc _).cell (i := 0) rfl, (x_a.alloc _).cell (i := 1) rfl⟩ | exact ⟨qzba_a.cell (i := 0) rfl, qzba_a.cell (i := 1) rfl⟩ | exact ⟨(qzba_a.alloc _).cell (i := 0) rfl, (qzba_a.alloc _).cell (i := 1) rfl⟩ | exact ⟨qzbb_a.cell (i := 0) rfl, qzbb_a.cell (i := 1) rfl⟩ | exact ⟨(qzbb_a.alloc _).cell (i := 0) rfl, (qzbb_a.alloc _).cell (i := 1) rfl⟩ | exact ⟨((qzbb_a.set_ne (by omega) _ _).set_ne (by omega) _ _).cell (i := 0) rfl, ((qzbb_a.set_ne (by omega) _ _).set_ne (by omega) _ _).cell (i := 1) rfl⟩ | go_keep)
      (first | ((go_at_call 15); (refine (makeNum_any A c zs (N : Int) _ (rdF hr (by first | exact (B_w3.drew) | exact ((B_w3.drew)).alloc ((B_w3.drew)).size _)) hb hm (by omega) (by omega)).mono ?_); rintro e w_zba ⟨xi, rfl, xi1, xi2, hd_zba⟩; have hk_zba : Below w3.drew.heap.size w3.drew w_zba := (by first | exact hd_zba | exact below_of_alloc hd_zba); (try (have x_b : Vr w_zba w3.heap.size 27 [.slice none 0 0, .slice none 0 0] := Vr.from_ (Vr.new (w3.drew) 27 [.slice none 0 0, .slice none 0 0]) hd_zba)); have se_zba := hd_zba.size; (try rw [sz_drew] at se_zba); (try rw [sz_alloc] at se_zba); (try rw [sz_drew] at se_zba); have hb_zba : Below w3.heap.size w3 w_zba := (Below.refl w3.heap.size w3).drew.trans hk_zba; have sd_zba : w3.heap.size ≤ w_zba.heap.size := hk_zba.size; have qzba_a := x_a.from_ hb_zba; (try (have := x_b.cell (i := 0) rfl)); (try (have := x_b.frozen 0)); (try (have := x_b.cell (i := 1) rfl)); (try (have := x_b.frozen 1)))
             | ((go_at_call 17); (refine (iMint_c (r := R) (i := xi) (a := 5) (by first | exact (o_a.below hb_zba).rd | exact (o_a.below ((hb_zba).alloc (hb_zba).size _)).rd) hRb (by omega) (by omega)).mono ?_); rintro e w_zbb ⟨v_b, rfl, o_b, hd_zbb⟩; have hk_zbb : Below w_zba.heap.size w_zba w_zbb := (by first | exact hd_zbb | exact below_of_alloc hd_zbb); (try (have x_b : Vr w_zbb w_zba.heap.size 27 [.slice none 0 0, .slice none 0 0] := Vr.from_ (Vr.new (w_zba) 27 [.slice none 0 0, .slice none 0 0]) hd_zbb)); (try (replace x_b := x_b.from_ hk_zbb)); have se_zbb := hd_zbb.size; (try rw [sz_alloc] at o_b); (try rw [sz_alloc] at se_zbb); have hb_zbb : Below w3.heap.size w3 w_zbb := hb_zba.trans (hk_zbb.mono hb_zba.size); have sd_zbb : w_zba.heap.size ≤ w_zbb.heap.size := hk_zbb.size; have qzbb_a := x_a.from_ hb_zbb; (try (have := x_b.cell (i := 0) rfl)); (try (have := x_b.frozen 0)); (try (have := x_b.cell (i := 1) rfl)); (try (have := x_b.frozen 1)); obtain ⟨Db, hDb⟩ : ∃ D, mintM R xi 5 = D := ⟨_, rfl⟩; rw [hDb] at o_b; have hUb : Up N R Db := hDb ▸ (up_mint HS (show 0 ≤ xi ∧ xi < (N : Int) by omega) (show (1 : Int) ≤ 5 ∧ (5 : Int) ≤ 50 by omega)).2; rw [(up_mint HS (show 0 ≤ xi ∧ xi < (N : Int) by omega) (show (1 : Int) ≤ 5 ∧ (5 : Int) ≤ 50 by omega)).1]; obtain ⟨AGive_b, cGive_b, ASpent_b, cSpent_b, rfl, -, -⟩ := rv_rights o_b.rd)
             | fail)
    all_goals have dz : w3.drew.heap.size = w3.heap.size := rfl
    all_goals go_wp2_with fail
    all_goals go_meet
    all_goals refine ⟨Db, hUb, ?_⟩
    all_goals first
      | (obtain ⟨wz, ez, sz, hz, xz⟩ := alloc_step w_zbb 27 [.slice AGive_b Db.Give.length cGive_b, .slice ASpent_b Db.Spent.length cSpent_b]; rw [ez]; have sz1 := hz.size; have hl := hb_zbb.size; have hi9 := o_b.le; replace o_b := o_b.below hz; exact ⟨⟨_, _, _, _, rfl, (by omega), (by omega), (by omega), xz, o_b, hb_zbb.trans (hz.mono hb_zbb.size)⟩, rfl⟩)
      | (obtain ⟨wz, ez, sz, hz, xz⟩ := store_step x_b [.slice AGive_b Db.Give.length cGive_b, .slice ASpent_b Db.Spent.length cSpent_b] rfl; change OutCall _ _ _ _ _ (setAll w_zbb _ 0 [.slice AGive_b Db.Give.length cGive_b, .slice ASpent_b Db.Spent.length cSpent_b]) ∧ _; rw [ez]; have hl := hb_zbb.size; replace o_b := o_b.chg hz (by omega); exact ⟨⟨_, _, _, _, rfl, (by omega), (by omega), (by omega), xz, o_b, Below.chg_ hb_zbb hz (by omega) (by omega)⟩, rfl⟩)
      | fail
  case rest =>
    clear c_a_0_w3 f_a_0_w3 c_a_1_w3 f_a_1_w3
    obtain ⟨Db, hUb, hcut⟩ := hcut
    obtain ⟨⟨b_b, cs, l_b, u_b, rfl, g1_b, g2_b, g3_b, x_b, o_b, h_wc3⟩, rfl⟩ := hcut
    obtain ⟨wc3, rfl⟩ : ∃ x, x = wc := ⟨_, rfl⟩
    have g4_b := o_b.le
    have g5_b := x_b.lt
    obtain ⟨AGive_b, cGive_b, ASpent_b, cSpent_b, he, -⟩ := rv_rights o_b.rd
    obtain rfl : cs = [.slice AGive_b Db.Give.length cGive_b, .slice ASpent_b Db.Spent.length cSpent_b] := congrArg Array.toList (Value.agg.inj he)
    clear he
    replace x_a := x_a.from_ h_wc3
    replace o_a := o_a.below h_wc3
    have B_wc3 := B_w3.trans (h_wc3.mono B_w3.size)
    have s_wc3 := h_wc3.size
    have c_a_0_wc3 := x_a.cell (i := 0) rfl
    have f_a_0_wc3 := x_a.frozen 0
    have c_a_1_wc3 := x_a.cell (i := 1) rfl
    have f_a_1_wc3 := x_a.frozen 1
    have c_b_0_wc3 := x_b.cell (i := 0) rfl
    have f_b_0_wc3 := x_b.frozen 0
    have c_b_1_wc3 := x_b.cell (i := 1) rfl
    have f_b_1_wc3 := x_b.frozen 1
    go_upto_region 6 with fail
    go_cut [7, 8] (fun s0 s1 wx => ∃ Dc, Up N R Dc ∧ OutCall rightsL 27 wc3 Dc s0 wx ∧ s1 = .bool true)
    case first =>
      go_region_held3 (fun w' => w'.cell? ⟨w2.heap.size, 0, none⟩ = some (.slice AGive_a R.Give.length cGive_a) ∧ w'.cell? ⟨w2.heap.size, 1, none⟩ = some (.slice ASpent_a R.Spent.length cSpent_a))
        (first | exact ⟨c_a_0_wc3, c_a_1_wc3⟩ | exact ⟨(x_a.alloc _).cell (i := 0) rfl, (x_a.alloc _).cell (i := 1) rfl⟩ | exact ⟨qzca_a.cell (i := 0) rfl, qzca_a.cell (i := 1) rfl⟩ | exact ⟨(qzca_a.alloc _).cell (i := 0) rfl, (qzca_a.alloc _).cell (i := 1) rfl⟩ | exact ⟨qzcb_a.cell (i := 0) rfl, qzcb_a.cell (i := 1) rfl⟩ | exact ⟨(qzcb_a.alloc _).cell (i := 0) rfl, (qzcb_a.alloc _).cell (i := 1) rfl⟩ | exact ⟨((qzcb_a.set_ne (by omega) _ _).set_ne (by omega) _ _).cell (i := 0) rfl, ((qzcb_a.set_ne (by omega) _ _).set_ne (by omega) _ _).cell (i := 1) rfl⟩ | go_keep)
        (first | ((go_at_call 15); (refine (makeNum_any A c zs (N : Int) _ (rdF hr (by first | exact (B_wc3.drew) | exact ((B_wc3.drew)).alloc ((B_wc3.drew)).size _)) hb hm (by omega) (by omega)).mono ?_); rintro e w_zca ⟨xi, rfl, xi1, xi2, hd_zca⟩; have hk_zca : Below wc3.drew.heap.size wc3.drew w_zca := (by first | exact hd_zca | exact below_of_alloc hd_zca); (try (have x_c : Vr w_zca wc3.heap.size 27 [.slice none 0 0, .slice none 0 0] := Vr.from_ (Vr.new (wc3.drew) 27 [.slice none 0 0, .slice none 0 0]) hd_zca)); have se_zca := hd_zca.size; (try rw [sz_drew] at se_zca); (try rw [sz_alloc] at se_zca); (try rw [sz_drew] at se_zca); have hb_zca : Below wc3.heap.size wc3 w_zca := (Below.refl wc3.heap.size wc3).drew.trans hk_zca; have sd_zca : wc3.heap.size ≤ w_zca.heap.size := hk_zca.size; have qzca_a := x_a.from_ hb_zca; (try (have := x_c.cell (i := 0) rfl)); (try (have := x_c.frozen 0)); (try (have := x_c.cell (i := 1) rfl)); (try (have := x_c.frozen 1)))
               | ((go_at_call 17); (refine (iMint_c (r := R) (i := xi) (a := 9) (by first | exact (o_a.below hb_zca).rd | exact (o_a.below ((hb_zca).alloc (hb_zca).size _)).rd) hRb (by omega) (by omega)).mono ?_); rintro e w_zcb ⟨v_c, rfl, o_c, hd_zcb⟩; have hk_zcb : Below w_zca.heap.size w_zca w_zcb := (by first | exact hd_zcb | exact below_of_alloc hd_zcb); (try (have x_c : Vr w_zcb w_zca.heap.size 27 [.slice none 0 0, .slice none 0 0] := Vr.from_ (Vr.new (w_zca) 27 [.slice none 0 0, .slice none 0 0]) hd_zcb)); (try (replace x_c := x_c.from_ hk_zcb)); have se_zcb := hd_zcb.size; (try rw [sz_alloc] at o_c); (try rw [sz_alloc] at se_zcb); have hb_zcb : Below wc3.heap.size wc3 w_zcb := hb_zca.trans (hk_zcb.mono hb_zca.size); have sd_zcb : w_zca.heap.size ≤ w_zcb.heap.size := hk_zcb.size; have qzcb_a := x_a.from_ hb_zcb; (try (have := x_c.cell (i := 0) rfl)); (try (have := x_c.frozen 0)); (try (have := x_c.cell (i := 1) rfl)); (try (have := x_c.frozen 1)); obtain ⟨Dc, hDc⟩ : ∃ D, mintM R xi 9 = D := ⟨_, rfl⟩; rw [hDc] at o_c; have hUc : Up N R Dc := hDc ▸ (up_mint HS (show 0 ≤ xi ∧ xi < (N : Int) by omega) (show (1 : Int) ≤ 9 ∧ (9 : Int) ≤ 50 by omega)).2; rw [(up_mint HS (show 0 ≤ xi ∧ xi < (N : Int) by omega) (show (1 : Int) ≤ 9 ∧ (9 : Int) ≤ 50 by omega)).1]; obtain ⟨AGive_c, cGive_c, ASpent_c, cSpent_c, rfl, -, -⟩ := rv_rights o_c.rd)
               | fail)
      all_goals have dz : wc3.drew.heap.size = wc3.heap.size := rfl
      all_goals go_wp2_with fail
      all_goals go_meet
      all_goals refine ⟨Dc, hUc, ?_⟩
      all_goals first
        | (obtain ⟨wz, ez, sz, hz, xz⟩ := alloc_step w_zcb 27 [.slice AGive_c Dc.Give.length cGive_c, .slice ASpent_c Dc.Spent.length cSpent_c]; rw [ez]; have sz1 := hz.size; have hl := hb_zcb.size; have hi9 := o_c.le; replace o_c := o_c.below hz; exact ⟨⟨_, _, _, _, rfl, (by omega), (by omega), (by omega), xz, o_c, hb_zcb.trans (hz.mono hb_zcb.size)⟩, rfl⟩)
        | (obtain ⟨wz, ez, sz, hz, xz⟩ := store_step x_c [.slice AGive_c Dc.Give.length cGive_c, .slice ASpent_c Dc.Spent.length cSpent_c] rfl; change OutCall _ _ _ _ _ (setAll w_zcb _ 0 [.slice AGive_c Dc.Give.length cGive_c, .slice ASpent_c Dc.Spent.length cSpent_c]) ∧ _; rw [ez]; have hl := hb_zcb.size; replace o_c := o_c.chg hz (by omega); exact ⟨⟨_, _, _, _, rfl, (by omega), (by omega), (by omega), xz, o_c, Below.chg_ hb_zcb hz (by omega) (by omega)⟩, rfl⟩)
        | fail
    case rest =>
      clear c_a_0_wc3 f_a_0_wc3 c_a_1_wc3 f_a_1_wc3 c_b_0_wc3 f_b_0_wc3 c_b_1_wc3 f_b_1_wc3
      obtain ⟨Dc, hUc, hcut⟩ := hcut
      obtain ⟨⟨b_c, cs, l_c, u_c, rfl, g1_c, g2_c, g3_c, x_c, o_c, h_wc4⟩, rfl⟩ := hcut
      obtain ⟨wc4, rfl⟩ : ∃ x, x = wc := ⟨_, rfl⟩
      have g4_c := o_c.le
      have g5_c := x_c.lt
      obtain ⟨AGive_c, cGive_c, ASpent_c, cSpent_c, he, -⟩ := rv_rights o_c.rd
      obtain rfl : cs = [.slice AGive_c Dc.Give.length cGive_c, .slice ASpent_c Dc.Spent.length cSpent_c] := congrArg Array.toList (Value.agg.inj he)
      clear he
      replace x_a := x_a.from_ h_wc4
      replace x_b := x_b.from_ h_wc4
      replace o_a := o_a.below h_wc4
      replace o_b := o_b.below h_wc4
      have B_wc4 := B_wc3.trans (h_wc4.mono B_wc3.size)
      have s_wc4 := h_wc4.size
      have c_a_0_wc4 := x_a.cell (i := 0) rfl
      have f_a_0_wc4 := x_a.frozen 0
      have c_a_1_wc4 := x_a.cell (i := 1) rfl
      have f_a_1_wc4 := x_a.frozen 1
      have c_b_0_wc4 := x_b.cell (i := 0) rfl
      have f_b_0_wc4 := x_b.frozen 0
      have c_b_1_wc4 := x_b.cell (i := 1) rfl
      have f_b_1_wc4 := x_b.frozen 1
      have c_c_0_wc4 := x_c.cell (i := 0) rfl
      have f_c_0_wc4 := x_c.frozen 0
      have c_c_1_wc4 := x_c.cell (i := 1) rfl
      have f_c_1_wc4 := x_c.frozen 1
      have hBb := Up.bulk HS hUb
      have hBc := Up.bulk HS hUc
      obtain ⟨X, hX⟩ : ∃ X, meetR Db Dc = X := ⟨_, rfl⟩
      have HX := Lib.hid hX
      clear hX
      have hUx : Up N R X := HX.out ▸ up_meet hUb hUc
      have hBx := Up.bulk HS hUx
      have M1 : Hid (meetB Db Dc = true ∧ meetM Db Dc = X) := ⟨(meet_true HS hUb hUc).1, (meet_true HS hUb hUc).2.trans HX.out⟩
      have M2 : Hid (meetB Dc Db = true ∧ meetM Dc Db = X) := ⟨(meet_true HS hUc hUb).1, (meet_true HS hUc hUb).2.trans ((meet_comm hUc hUb).trans HX.out)⟩
      have M3 : Hid (meetB X Db = true ∧ meetM X Db = X) := ⟨(meet_true HS hUx hUb).1, (meet_true HS hUx hUb).2.trans (HX.out ▸ meet_again hUb hUc)⟩
      have M4 : Hid (meetB R R = true ∧ meetM R R = R) := ⟨(meet_true HS (Up.refl HS) (Up.refl HS)).1, (meet_true HS (Up.refl HS) (Up.refl HS)).2.trans (meet_self (Up.refl HS))⟩
      have L1 : Hid (laterB R Db = true) := later_up HS hUb
      have L2 : Hid (laterB Db X = true) := HX.out ▸ (later_meet HS hUb hUc).1
      have L3 : Hid (laterB Dc X = true) := HX.out ▸ (later_meet HS hUb hUc).2
      have K1 : Hid (rightsOkB X = true) := up_ok HS hUx
      have SX := Lib.hid (same_true X)
      have SR := Lib.hid (same_true R)
      go_wp2_with fail
      refine (iMeet_c o_b.rd o_c.rd hBb hBc).mono ?_
      rintro e w6 ⟨v_x, rfl, o_x, h_w6⟩
      clear c_a_0_wc4 f_a_0_wc4 c_a_1_wc4 f_a_1_wc4 c_b_0_wc4 f_b_0_wc4 c_b_1_wc4 f_b_1_wc4 c_c_0_wc4 f_c_0_wc4 c_c_1_wc4 f_c_1_wc4
      replace x_a := x_a.from_ h_w6
      replace x_b := x_b.from_ h_w6
      replace x_c := x_c.from_ h_w6
      replace o_a := o_a.below h_w6
      replace o_b := o_b.below h_w6
      replace o_c := o_c.below h_w6
      have B_w6 := B_wc4.trans (h_w6.mono B_wc4.size)
      have s_w6 := h_w6.size
      rw [M1.out.2] at o_x
      rw [M1.out.1]
      obtain ⟨AGive_x, cGive_x, ASpent_x, cSpent_x, rfl, -, -⟩ := rv_rights o_x.rd
      have c_a_0_w6 := x_a.cell (i := 0) rfl
      have f_a_0_w6 := x_a.frozen 0
      have c_a_1_w6 := x_a.cell (i := 1) rfl
      have f_a_1_w6 := x_a.frozen 1
      have c_b_0_w6 := x_b.cell (i := 0) rfl
      have f_b_0_w6 := x_b.frozen 0
      have c_b_1_w6 := x_b.cell (i := 1) rfl
      have f_b_1_w6 := x_b.frozen 1
      have c_c_0_w6 := x_c.cell (i := 0) rfl
      have f_c_0_w6 := x_c.frozen 0
      have c_c_1_w6 := x_c.cell (i := 1) rfl
      have f_c_1_w6 := x_c.frozen 1
      obtain ⟨w7, e_w7, s_w7, h_w7, x_x⟩ := alloc_step w6 27 [.slice AGive_x X.Give.length cGive_x, .slice ASpent_x X.Spent.length cSpent_x]
      have s_w7_1 := Nat.le_of_eq s_w7
      have s_w7_2 := Nat.le_of_eq s_w7.symm
      clear s_w7
      replace x_a := x_a.from_ h_w7
      replace x_b := x_b.from_ h_w7
      replace x_c := x_c.from_ h_w7
      replace o_a := o_a.below h_w7
      replace o_b := o_b.below h_w7
      replace o_c := o_c.below h_w7
      replace o_x := o_x.below h_w7
      have B_w7 := B_w6.trans (h_w7.mono B_w6.size)
      have c_a_0_w7 := x_a.cell (i := 0) rfl
      have f_a_0_w7 := x_a.frozen 0
      have c_a_1_w7 := x_a.cell (i := 1) rfl
      have f_a_1_w7 := x_a.frozen 1
      have c_b_0_w7 := x_b.cell (i := 0) rfl
      have f_b_0_w7 := x_b.frozen 0
      have c_b_1_w7 := x_b.cell (i := 1) rfl
      have f_b_1_w7 := x_b.frozen 1
      have c_c_0_w7 := x_c.cell (i := 0) rfl
      have f_c_0_w7 := x_c.frozen 0
      have c_c_1_w7 := x_c.cell (i := 1) rfl
      have f_c_1_w7 := x_c.frozen 1
      have c_x_0_w7 := x_x.cell (i := 0) rfl
      have f_x_0_w7 := x_x.frozen 0
      have c_x_1_w7 := x_x.cell (i := 1) rfl
      have f_x_1_w7 := x_x.frozen 1
      go_wp2_with fail
      refine (iMeet_c o_c.rd o_b.rd hBc hBb).mono ?_
      rintro e w8 ⟨v_y, rfl, o_y, h_w8⟩
      clear c_a_0_w6 f_a_0_w6 c_a_1_w6 f_a_1_w6 c_b_0_w6 f_b_0_w6 c_b_1_w6 f_b_1_w6 c_c_0_w6 f_c_0_w6 c_c_1_w6 f_c_1_w6 c_a_0_w7 f_a_0_w7 c_a_1_w7 f_a_1_w7 c_b_0_w7 f_b_0_w7 c_b_1_w7 f_b_1_w7 c_c_0_w7 f_c_0_w7 c_c_1_w7 f_c_1_w7 c_x_0_w7 f_x_0_w7 c_x_1_w7 f_x_1_w7
      replace x_a := x_a.from_ h_w8
      replace x_b := x_b.from_ h_w8
      replace x_c := x_c.from_ h_w8
      replace x_x := x_x.from_ h_w8
      replace o_a := o_a.below h_w8
      replace o_b := o_b.below h_w8
      replace o_c := o_c.below h_w8
      replace o_x := o_x.below h_w8
      have B_w8 := B_w7.trans (h_w8.mono B_w7.size)
      have s_w8 := h_w8.size
      rw [M2.out.2] at o_y
      rw [M2.out.1]
      obtain ⟨AGive_y, cGive_y, ASpent_y, cSpent_y, rfl, -, -⟩ := rv_rights o_y.rd
      have c_a_0_w8 := x_a.cell (i := 0) rfl
      have f_a_0_w8 := x_a.frozen 0
      have c_a_1_w8 := x_a.cell (i := 1) rfl
      have f_a_1_w8 := x_a.frozen 1
      have c_b_0_w8 := x_b.cell (i := 0) rfl
      have f_b_0_w8 := x_b.frozen 0
      have c_b_1_w8 := x_b.cell (i := 1) rfl
      have f_b_1_w8 := x_b.frozen 1
      have c_c_0_w8 := x_c.cell (i := 0) rfl
      have f_c_0_w8 := x_c.frozen 0
      have c_c_1_w8 := x_c.cell (i := 1) rfl
      have f_c_1_w8 := x_c.frozen 1
      have c_x_0_w8 := x_x.cell (i := 0) rfl
      have f_x_0_w8 := x_x.frozen 0
      have c_x_1_w8 := x_x.cell (i := 1) rfl
      have f_x_1_w8 := x_x.frozen 1
      obtain ⟨w9, e_w9, s_w9, h_w9, x_y⟩ := alloc_step w8 27 [.slice AGive_y X.Give.length cGive_y, .slice ASpent_y X.Spent.length cSpent_y]
      have s_w9_1 := Nat.le_of_eq s_w9
      have s_w9_2 := Nat.le_of_eq s_w9.symm
      clear s_w9
      replace x_a := x_a.from_ h_w9
      replace x_b := x_b.from_ h_w9
      replace x_c := x_c.from_ h_w9
      replace x_x := x_x.from_ h_w9
      replace o_a := o_a.below h_w9
      replace o_b := o_b.below h_w9
      replace o_c := o_c.below h_w9
      replace o_x := o_x.below h_w9
      replace o_y := o_y.below h_w9
      have B_w9 := B_w8.trans (h_w9.mono B_w8.size)
      have c_a_0_w9 := x_a.cell (i := 0) rfl
      have f_a_0_w9 := x_a.frozen 0
      have c_a_1_w9 := x_a.cell (i := 1) rfl
      have f_a_1_w9 := x_a.frozen 1
      have c_b_0_w9 := x_b.cell (i := 0) rfl
      have f_b_0_w9 := x_b.frozen 0
      have c_b_1_w9 := x_b.cell (i := 1) rfl
      have f_b_1_w9 := x_b.frozen 1
      have c_c_0_w9 := x_c.cell (i := 0) rfl
      have f_c_0_w9 := x_c.frozen 0
      have c_c_1_w9 := x_c.cell (i := 1) rfl
      have f_c_1_w9 := x_c.frozen 1
      have c_x_0_w9 := x_x.cell (i := 0) rfl
      have f_x_0_w9 := x_x.frozen 0
      have c_x_1_w9 := x_x.cell (i := 1) rfl
      have f_x_1_w9 := x_x.frozen 1
      have c_y_0_w9 := x_y.cell (i := 0) rfl
      have f_y_0_w9 := x_y.frozen 0
      have c_y_1_w9 := x_y.cell (i := 1) rfl
      have f_y_1_w9 := x_y.frozen 1
      go_wp2_with fail
      refine (iMeet_c o_x.rd o_b.rd hBx hBb).mono ?_
      rintro e w10 ⟨v_z, rfl, o_z, h_w10⟩
      clear c_a_0_w8 f_a_0_w8 c_a_1_w8 f_a_1_w8 c_b_0_w8 f_b_0_w8 c_b_1_w8 f_b_1_w8 c_c_0_w8 f_c_0_w8 c_c_1_w8 f_c_1_w8 c_x_0_w8 f_x_0_w8 c_x_1_w8 f_x_1_w8 c_a_0_w9 f_a_0_w9 c_a_1_w9 f_a_1_w9 c_b_0_w9 f_b_0_w9 c_b_1_w9 f_b_1_w9 c_c_0_w9 f_c_0_w9 c_c_1_w9 f_c_1_w9 c_x_0_w9 f_x_0_w9 c_x_1_w9 f_x_1_w9 c_y_0_w9 f_y_0_w9 c_y_1_w9 f_y_1_w9
      replace x_a := x_a.from_ h_w10
      replace x_b := x_b.from_ h_w10
      replace x_c := x_c.from_ h_w10
      replace x_x := x_x.from_ h_w10
      replace x_y := x_y.from_ h_w10
      replace o_a := o_a.below h_w10
      replace o_b := o_b.below h_w10
      replace o_c := o_c.below h_w10
      replace o_x := o_x.below h_w10
      replace o_y := o_y.below h_w10
      have B_w10 := B_w9.trans (h_w10.mono B_w9.size)
      have s_w10 := h_w10.size
      rw [M3.out.2] at o_z
      rw [M3.out.1]
      obtain ⟨AGive_z, cGive_z, ASpent_z, cSpent_z, rfl, -, -⟩ := rv_rights o_z.rd
      have c_a_0_w10 := x_a.cell (i := 0) rfl
      have f_a_0_w10 := x_a.frozen 0
      have c_a_1_w10 := x_a.cell (i := 1) rfl
      have f_a_1_w10 := x_a.frozen 1
      have c_b_0_w10 := x_b.cell (i := 0) rfl
      have f_b_0_w10 := x_b.frozen 0
      have c_b_1_w10 := x_b.cell (i := 1) rfl
      have f_b_1_w10 := x_b.frozen 1
      have c_c_0_w10 := x_c.cell (i := 0) rfl
      have f_c_0_w10 := x_c.frozen 0
      have c_c_1_w10 := x_c.cell (i := 1) rfl
      have f_c_1_w10 := x_c.frozen 1
      have c_x_0_w10 := x_x.cell (i := 0) rfl
      have f_x_0_w10 := x_x.frozen 0
      have c_x_1_w10 := x_x.cell (i := 1) rfl
      have f_x_1_w10 := x_x.frozen 1
      have c_y_0_w10 := x_y.cell (i := 0) rfl
      have f_y_0_w10 := x_y.frozen 0
      have c_y_1_w10 := x_y.cell (i := 1) rfl
      have f_y_1_w10 := x_y.frozen 1
      obtain ⟨w11, e_w11, s_w11, h_w11, x_z⟩ := alloc_step w10 27 [.slice AGive_z X.Give.length cGive_z, .slice ASpent_z X.Spent.length cSpent_z]
      have s_w11_1 := Nat.le_of_eq s_w11
      have s_w11_2 := Nat.le_of_eq s_w11.symm
      clear s_w11
      replace x_a := x_a.from_ h_w11
      replace x_b := x_b.from_ h_w11
      replace x_c := x_c.from_ h_w11
      replace x_x := x_x.from_ h_w11
      replace x_y := x_y.from_ h_w11
      replace o_a := o_a.below h_w11
      replace o_b := o_b.below h_w11
      replace o_c := o_c.below h_w11
      replace o_x := o_x.below h_w11
      replace o_y := o_y.below h_w11
      replace o_z := o_z.below h_w11
      have B_w11 := B_w10.trans (h_w11.mono B_w10.size)
      have c_a_0_w11 := x_a.cell (i := 0) rfl
      have f_a_0_w11 := x_a.frozen 0
      have c_a_1_w11 := x_a.cell (i := 1) rfl
      have f_a_1_w11 := x_a.frozen 1
      have c_b_0_w11 := x_b.cell (i := 0) rfl
      have f_b_0_w11 := x_b.frozen 0
      have c_b_1_w11 := x_b.cell (i := 1) rfl
      have f_b_1_w11 := x_b.frozen 1
      have c_c_0_w11 := x_c.cell (i := 0) rfl
      have f_c_0_w11 := x_c.frozen 0
      have c_c_1_w11 := x_c.cell (i := 1) rfl
      have f_c_1_w11 := x_c.frozen 1
      have c_x_0_w11 := x_x.cell (i := 0) rfl
      have f_x_0_w11 := x_x.frozen 0
      have c_x_1_w11 := x_x.cell (i := 1) rfl
      have f_x_1_w11 := x_x.frozen 1
      have c_y_0_w11 := x_y.cell (i := 0) rfl
      have f_y_0_w11 := x_y.frozen 0
      have c_y_1_w11 := x_y.cell (i := 1) rfl
      have f_y_1_w11 := x_y.frozen 1
      have c_z_0_w11 := x_z.cell (i := 0) rfl
      have f_z_0_w11 := x_z.frozen 0
      have c_z_1_w11 := x_z.cell (i := 1) rfl
      have f_z_1_w11 := x_z.frozen 1
      go_wp2_with fail
      refine (iMeet_c o_a.rd o_a.rd hRb hRb).mono ?_
      rintro e w12 ⟨v_u, rfl, o_u, h_w12⟩
      clear c_a_0_w10 f_a_0_w10 c_a_1_w10 f_a_1_w10 c_b_0_w10 f_b_0_w10 c_b_1_w10 f_b_1_w10 c_c_0_w10 f_c_0_w10 c_c_1_w10 f_c_1_w10 c_x_0_w10 f_x_0_w10 c_x_1_w10 f_x_1_w10 c_y_0_w10 f_y_0_w10 c_y_1_w10 f_y_1_w10 c_a_0_w11 f_a_0_w11 c_a_1_w11 f_a_1_w11 c_b_0_w11 f_b_0_w11 c_b_1_w11 f_b_1_w11 c_c_0_w11 f_c_0_w11 c_c_1_w11 f_c_1_w11 c_x_0_w11 f_x_0_w11 c_x_1_w11 f_x_1_w11 c_y_0_w11 f_y_0_w11 c_y_1_w11 f_y_1_w11 c_z_0_w11 f_z_0_w11 c_z_1_w11 f_z_1_w11
      replace x_a := x_a.from_ h_w12
      replace x_b := x_b.from_ h_w12
      replace x_c := x_c.from_ h_w12
      replace x_x := x_x.from_ h_w12
      replace x_y := x_y.from_ h_w12
      replace x_z := x_z.from_ h_w12
      replace o_a := o_a.below h_w12
      replace o_b := o_b.below h_w12
      replace o_c := o_c.below h_w12
      replace o_x := o_x.below h_w12
      replace o_y := o_y.below h_w12
      replace o_z := o_z.below h_w12
      have B_w12 := B_w11.trans (h_w12.mono B_w11.size)
      have s_w12 := h_w12.size
      rw [M4.out.2] at o_u
      rw [M4.out.1]
      obtain ⟨AGive_u, cGive_u, ASpent_u, cSpent_u, rfl, -, -⟩ := rv_rights o_u.rd
      have c_a_0_w12 := x_a.cell (i := 0) rfl
      have f_a_0_w12 := x_a.frozen 0
      have c_a_1_w12 := x_a.cell (i := 1) rfl
      have f_a_1_w12 := x_a.frozen 1
      have c_b_0_w12 := x_b.cell (i := 0) rfl
      have f_b_0_w12 := x_b.frozen 0
      have c_b_1_w12 := x_b.cell (i := 1) rfl
      have f_b_1_w12 := x_b.frozen 1
      have c_c_0_w12 := x_c.cell (i := 0) rfl
      have f_c_0_w12 := x_c.frozen 0
      have c_c_1_w12 := x_c.cell (i := 1) rfl
      have f_c_1_w12 := x_c.frozen 1
      have c_x_0_w12 := x_x.cell (i := 0) rfl
      have f_x_0_w12 := x_x.frozen 0
      have c_x_1_w12 := x_x.cell (i := 1) rfl
      have f_x_1_w12 := x_x.frozen 1
      have c_y_0_w12 := x_y.cell (i := 0) rfl
      have f_y_0_w12 := x_y.frozen 0
      have c_y_1_w12 := x_y.cell (i := 1) rfl
      have f_y_1_w12 := x_y.frozen 1
      have c_z_0_w12 := x_z.cell (i := 0) rfl
      have f_z_0_w12 := x_z.frozen 0
      have c_z_1_w12 := x_z.cell (i := 1) rfl
      have f_z_1_w12 := x_z.frozen 1
      obtain ⟨w13, e_w13, s_w13, h_w13, x_u⟩ := alloc_step w12 27 [.slice AGive_u R.Give.length cGive_u, .slice ASpent_u R.Spent.length cSpent_u]
      have s_w13_1 := Nat.le_of_eq s_w13
      have s_w13_2 := Nat.le_of_eq s_w13.symm
      clear s_w13
      replace x_a := x_a.from_ h_w13
      replace x_b := x_b.from_ h_w13
      replace x_c := x_c.from_ h_w13
      replace x_x := x_x.from_ h_w13
      replace x_y := x_y.from_ h_w13
      replace x_z := x_z.from_ h_w13
      replace o_a := o_a.below h_w13
      replace o_b := o_b.below h_w13
      replace o_c := o_c.below h_w13
      replace o_x := o_x.below h_w13
      replace o_y := o_y.below h_w13
      replace o_z := o_z.below h_w13
      replace o_u := o_u.below h_w13
      have B_w13 := B_w12.trans (h_w13.mono B_w12.size)
      have c_a_0_w13 := x_a.cell (i := 0) rfl
      have f_a_0_w13 := x_a.frozen 0
      have c_a_1_w13 := x_a.cell (i := 1) rfl
      have f_a_1_w13 := x_a.frozen 1
      have c_b_0_w13 := x_b.cell (i := 0) rfl
      have f_b_0_w13 := x_b.frozen 0
      have c_b_1_w13 := x_b.cell (i := 1) rfl
      have f_b_1_w13 := x_b.frozen 1
      have c_c_0_w13 := x_c.cell (i := 0) rfl
      have f_c_0_w13 := x_c.frozen 0
      have c_c_1_w13 := x_c.cell (i := 1) rfl
      have f_c_1_w13 := x_c.frozen 1
      have c_x_0_w13 := x_x.cell (i := 0) rfl
      have f_x_0_w13 := x_x.frozen 0
      have c_x_1_w13 := x_x.cell (i := 1) rfl
      have f_x_1_w13 := x_x.frozen 1
      have c_y_0_w13 := x_y.cell (i := 0) rfl
      have f_y_0_w13 := x_y.frozen 0
      have c_y_1_w13 := x_y.cell (i := 1) rfl
      have f_y_1_w13 := x_y.frozen 1
      have c_z_0_w13 := x_z.cell (i := 0) rfl
      have f_z_0_w13 := x_z.frozen 0
      have c_z_1_w13 := x_z.cell (i := 1) rfl
      have f_z_1_w13 := x_z.frozen 1
      have c_u_0_w13 := x_u.cell (i := 0) rfl
      have f_u_0_w13 := x_u.frozen 0
      have c_u_1_w13 := x_u.cell (i := 1) rfl
      have f_u_1_w13 := x_u.frozen 1
      go_wp2_with fail
      refine (iRightsSame_c o_x.rd o_y.rd hBx hBx).mono ?_
      rintro e w14 ⟨rfl, h_w14⟩
      clear c_a_0_w12 f_a_0_w12 c_a_1_w12 f_a_1_w12 c_b_0_w12 f_b_0_w12 c_b_1_w12 f_b_1_w12 c_c_0_w12 f_c_0_w12 c_c_1_w12 f_c_1_w12 c_x_0_w12 f_x_0_w12 c_x_1_w12 f_x_1_w12 c_y_0_w12 f_y_0_w12 c_y_1_w12 f_y_1_w12 c_z_0_w12 f_z_0_w12 c_z_1_w12 f_z_1_w12 c_a_0_w13 f_a_0_w13 c_a_1_w13 f_a_1_w13 c_b_0_w13 f_b_0_w13 c_b_1_w13 f_b_1_w13 c_c_0_w13 f_c_0_w13 c_c_1_w13 f_c_1_w13 c_x_0_w13 f_x_0_w13 c_x_1_w13 f_x_1_w13 c_y_0_w13 f_y_0_w13 c_y_1_w13 f_y_1_w13 c_z_0_w13 f_z_0_w13 c_z_1_w13 f_z_1_w13 c_u_0_w13 f_u_0_w13 c_u_1_w13 f_u_1_w13
      replace x_a := x_a.from_ h_w14
      replace x_b := x_b.from_ h_w14
      replace x_c := x_c.from_ h_w14
      replace x_x := x_x.from_ h_w14
      replace x_y := x_y.from_ h_w14
      replace x_z := x_z.from_ h_w14
      replace x_u := x_u.from_ h_w14
      replace o_a := o_a.below h_w14
      replace o_b := o_b.below h_w14
      replace o_c := o_c.below h_w14
      replace o_x := o_x.below h_w14
      replace o_y := o_y.below h_w14
      replace o_z := o_z.below h_w14
      replace o_u := o_u.below h_w14
      have B_w14 := B_w13.trans (h_w14.mono B_w13.size)
      have s_w14 := h_w14.size
      rw [SX.out]
      have c_a_0_w14 := x_a.cell (i := 0) rfl
      have f_a_0_w14 := x_a.frozen 0
      have c_a_1_w14 := x_a.cell (i := 1) rfl
      have f_a_1_w14 := x_a.frozen 1
      have c_b_0_w14 := x_b.cell (i := 0) rfl
      have f_b_0_w14 := x_b.frozen 0
      have c_b_1_w14 := x_b.cell (i := 1) rfl
      have f_b_1_w14 := x_b.frozen 1
      have c_c_0_w14 := x_c.cell (i := 0) rfl
      have f_c_0_w14 := x_c.frozen 0
      have c_c_1_w14 := x_c.cell (i := 1) rfl
      have f_c_1_w14 := x_c.frozen 1
      have c_x_0_w14 := x_x.cell (i := 0) rfl
      have f_x_0_w14 := x_x.frozen 0
      have c_x_1_w14 := x_x.cell (i := 1) rfl
      have f_x_1_w14 := x_x.frozen 1
      have c_y_0_w14 := x_y.cell (i := 0) rfl
      have f_y_0_w14 := x_y.frozen 0
      have c_y_1_w14 := x_y.cell (i := 1) rfl
      have f_y_1_w14 := x_y.frozen 1
      have c_z_0_w14 := x_z.cell (i := 0) rfl
      have f_z_0_w14 := x_z.frozen 0
      have c_z_1_w14 := x_z.cell (i := 1) rfl
      have f_z_1_w14 := x_z.frozen 1
      have c_u_0_w14 := x_u.cell (i := 0) rfl
      have f_u_0_w14 := x_u.frozen 0
      have c_u_1_w14 := x_u.cell (i := 1) rfl
      have f_u_1_w14 := x_u.frozen 1
      go_wp2_with fail
      refine (iRightsSame_c o_z.rd o_x.rd hBx hBx).mono ?_
      rintro e w15 ⟨rfl, h_w15⟩
      clear c_a_0_w14 f_a_0_w14 c_a_1_w14 f_a_1_w14 c_b_0_w14 f_b_0_w14 c_b_1_w14 f_b_1_w14 c_c_0_w14 f_c_0_w14 c_c_1_w14 f_c_1_w14 c_x_0_w14 f_x_0_w14 c_x_1_w14 f_x_1_w14 c_y_0_w14 f_y_0_w14 c_y_1_w14 f_y_1_w14 c_z_0_w14 f_z_0_w14 c_z_1_w14 f_z_1_w14 c_u_0_w14 f_u_0_w14 c_u_1_w14 f_u_1_w14
      replace x_a := x_a.from_ h_w15
      replace x_b := x_b.from_ h_w15
      replace x_c := x_c.from_ h_w15
      replace x_x := x_x.from_ h_w15
      replace x_y := x_y.from_ h_w15
      replace x_z := x_z.from_ h_w15
      replace x_u := x_u.from_ h_w15
      replace o_a := o_a.below h_w15
      replace o_b := o_b.below h_w15
      replace o_c := o_c.below h_w15
      replace o_x := o_x.below h_w15
      replace o_y := o_y.below h_w15
      replace o_z := o_z.below h_w15
      replace o_u := o_u.below h_w15
      have B_w15 := B_w14.trans (h_w15.mono B_w14.size)
      have s_w15 := h_w15.size
      rw [SX.out]
      have c_a_0_w15 := x_a.cell (i := 0) rfl
      have f_a_0_w15 := x_a.frozen 0
      have c_a_1_w15 := x_a.cell (i := 1) rfl
      have f_a_1_w15 := x_a.frozen 1
      have c_b_0_w15 := x_b.cell (i := 0) rfl
      have f_b_0_w15 := x_b.frozen 0
      have c_b_1_w15 := x_b.cell (i := 1) rfl
      have f_b_1_w15 := x_b.frozen 1
      have c_c_0_w15 := x_c.cell (i := 0) rfl
      have f_c_0_w15 := x_c.frozen 0
      have c_c_1_w15 := x_c.cell (i := 1) rfl
      have f_c_1_w15 := x_c.frozen 1
      have c_x_0_w15 := x_x.cell (i := 0) rfl
      have f_x_0_w15 := x_x.frozen 0
      have c_x_1_w15 := x_x.cell (i := 1) rfl
      have f_x_1_w15 := x_x.frozen 1
      have c_y_0_w15 := x_y.cell (i := 0) rfl
      have f_y_0_w15 := x_y.frozen 0
      have c_y_1_w15 := x_y.cell (i := 1) rfl
      have f_y_1_w15 := x_y.frozen 1
      have c_z_0_w15 := x_z.cell (i := 0) rfl
      have f_z_0_w15 := x_z.frozen 0
      have c_z_1_w15 := x_z.cell (i := 1) rfl
      have f_z_1_w15 := x_z.frozen 1
      have c_u_0_w15 := x_u.cell (i := 0) rfl
      have f_u_0_w15 := x_u.frozen 0
      have c_u_1_w15 := x_u.cell (i := 1) rfl
      have f_u_1_w15 := x_u.frozen 1
      go_wp2_with fail
      refine (iRightsSame_c o_u.rd o_a.rd hRb hRb).mono ?_
      rintro e w16 ⟨rfl, h_w16⟩
      clear c_a_0_w15 f_a_0_w15 c_a_1_w15 f_a_1_w15 c_b_0_w15 f_b_0_w15 c_b_1_w15 f_b_1_w15 c_c_0_w15 f_c_0_w15 c_c_1_w15 f_c_1_w15 c_x_0_w15 f_x_0_w15 c_x_1_w15 f_x_1_w15 c_y_0_w15 f_y_0_w15 c_y_1_w15 f_y_1_w15 c_z_0_w15 f_z_0_w15 c_z_1_w15 f_z_1_w15 c_u_0_w15 f_u_0_w15 c_u_1_w15 f_u_1_w15
      replace x_a := x_a.from_ h_w16
      replace x_b := x_b.from_ h_w16
      replace x_c := x_c.from_ h_w16
      replace x_x := x_x.from_ h_w16
      replace x_y := x_y.from_ h_w16
      replace x_z := x_z.from_ h_w16
      replace x_u := x_u.from_ h_w16
      replace o_a := o_a.below h_w16
      replace o_b := o_b.below h_w16
      replace o_c := o_c.below h_w16
      replace o_x := o_x.below h_w16
      replace o_y := o_y.below h_w16
      replace o_z := o_z.below h_w16
      replace o_u := o_u.below h_w16
      have B_w16 := B_w15.trans (h_w16.mono B_w15.size)
      have s_w16 := h_w16.size
      rw [SR.out]
      have c_a_0_w16 := x_a.cell (i := 0) rfl
      have f_a_0_w16 := x_a.frozen 0
      have c_a_1_w16 := x_a.cell (i := 1) rfl
      have f_a_1_w16 := x_a.frozen 1
      have c_b_0_w16 := x_b.cell (i := 0) rfl
      have f_b_0_w16 := x_b.frozen 0
      have c_b_1_w16 := x_b.cell (i := 1) rfl
      have f_b_1_w16 := x_b.frozen 1
      have c_c_0_w16 := x_c.cell (i := 0) rfl
      have f_c_0_w16 := x_c.frozen 0
      have c_c_1_w16 := x_c.cell (i := 1) rfl
      have f_c_1_w16 := x_c.frozen 1
      have c_x_0_w16 := x_x.cell (i := 0) rfl
      have f_x_0_w16 := x_x.frozen 0
      have c_x_1_w16 := x_x.cell (i := 1) rfl
      have f_x_1_w16 := x_x.frozen 1
      have c_y_0_w16 := x_y.cell (i := 0) rfl
      have f_y_0_w16 := x_y.frozen 0
      have c_y_1_w16 := x_y.cell (i := 1) rfl
      have f_y_1_w16 := x_y.frozen 1
      have c_z_0_w16 := x_z.cell (i := 0) rfl
      have f_z_0_w16 := x_z.frozen 0
      have c_z_1_w16 := x_z.cell (i := 1) rfl
      have f_z_1_w16 := x_z.frozen 1
      have c_u_0_w16 := x_u.cell (i := 0) rfl
      have f_u_0_w16 := x_u.frozen 0
      have c_u_1_w16 := x_u.cell (i := 1) rfl
      have f_u_1_w16 := x_u.frozen 1
      go_wp2_with fail
      refine (iLater_c o_a.rd o_b.rd hRb hBb).mono ?_
      rintro e w17 ⟨rfl, h_w17⟩
      clear c_a_0_w16 f_a_0_w16 c_a_1_w16 f_a_1_w16 c_b_0_w16 f_b_0_w16 c_b_1_w16 f_b_1_w16 c_c_0_w16 f_c_0_w16 c_c_1_w16 f_c_1_w16 c_x_0_w16 f_x_0_w16 c_x_1_w16 f_x_1_w16 c_y_0_w16 f_y_0_w16 c_y_1_w16 f_y_1_w16 c_z_0_w16 f_z_0_w16 c_z_1_w16 f_z_1_w16 c_u_0_w16 f_u_0_w16 c_u_1_w16 f_u_1_w16
      replace x_a := x_a.from_ h_w17
      replace x_b := x_b.from_ h_w17
      replace x_c := x_c.from_ h_w17
      replace x_x := x_x.from_ h_w17
      replace x_y := x_y.from_ h_w17
      replace x_z := x_z.from_ h_w17
      replace x_u := x_u.from_ h_w17
      replace o_a := o_a.below h_w17
      replace o_b := o_b.below h_w17
      replace o_c := o_c.below h_w17
      replace o_x := o_x.below h_w17
      replace o_y := o_y.below h_w17
      replace o_z := o_z.below h_w17
      replace o_u := o_u.below h_w17
      have B_w17 := B_w16.trans (h_w17.mono B_w16.size)
      have s_w17 := h_w17.size
      rw [L1.out]
      have c_a_0_w17 := x_a.cell (i := 0) rfl
      have f_a_0_w17 := x_a.frozen 0
      have c_a_1_w17 := x_a.cell (i := 1) rfl
      have f_a_1_w17 := x_a.frozen 1
      have c_b_0_w17 := x_b.cell (i := 0) rfl
      have f_b_0_w17 := x_b.frozen 0
      have c_b_1_w17 := x_b.cell (i := 1) rfl
      have f_b_1_w17 := x_b.frozen 1
      have c_c_0_w17 := x_c.cell (i := 0) rfl
      have f_c_0_w17 := x_c.frozen 0
      have c_c_1_w17 := x_c.cell (i := 1) rfl
      have f_c_1_w17 := x_c.frozen 1
      have c_x_0_w17 := x_x.cell (i := 0) rfl
      have f_x_0_w17 := x_x.frozen 0
      have c_x_1_w17 := x_x.cell (i := 1) rfl
      have f_x_1_w17 := x_x.frozen 1
      have c_y_0_w17 := x_y.cell (i := 0) rfl
      have f_y_0_w17 := x_y.frozen 0
      have c_y_1_w17 := x_y.cell (i := 1) rfl
      have f_y_1_w17 := x_y.frozen 1
      have c_z_0_w17 := x_z.cell (i := 0) rfl
      have f_z_0_w17 := x_z.frozen 0
      have c_z_1_w17 := x_z.cell (i := 1) rfl
      have f_z_1_w17 := x_z.frozen 1
      have c_u_0_w17 := x_u.cell (i := 0) rfl
      have f_u_0_w17 := x_u.frozen 0
      have c_u_1_w17 := x_u.cell (i := 1) rfl
      have f_u_1_w17 := x_u.frozen 1
      go_wp2_with fail
      refine (iLater_c o_b.rd o_x.rd hBb hBx).mono ?_
      rintro e w18 ⟨rfl, h_w18⟩
      clear c_a_0_w17 f_a_0_w17 c_a_1_w17 f_a_1_w17 c_b_0_w17 f_b_0_w17 c_b_1_w17 f_b_1_w17 c_c_0_w17 f_c_0_w17 c_c_1_w17 f_c_1_w17 c_x_0_w17 f_x_0_w17 c_x_1_w17 f_x_1_w17 c_y_0_w17 f_y_0_w17 c_y_1_w17 f_y_1_w17 c_z_0_w17 f_z_0_w17 c_z_1_w17 f_z_1_w17 c_u_0_w17 f_u_0_w17 c_u_1_w17 f_u_1_w17
      replace x_a := x_a.from_ h_w18
      replace x_b := x_b.from_ h_w18
      replace x_c := x_c.from_ h_w18
      replace x_x := x_x.from_ h_w18
      replace x_y := x_y.from_ h_w18
      replace x_z := x_z.from_ h_w18
      replace x_u := x_u.from_ h_w18
      replace o_a := o_a.below h_w18
      replace o_b := o_b.below h_w18
      replace o_c := o_c.below h_w18
      replace o_x := o_x.below h_w18
      replace o_y := o_y.below h_w18
      replace o_z := o_z.below h_w18
      replace o_u := o_u.below h_w18
      have B_w18 := B_w17.trans (h_w18.mono B_w17.size)
      have s_w18 := h_w18.size
      rw [L2.out]
      have c_a_0_w18 := x_a.cell (i := 0) rfl
      have f_a_0_w18 := x_a.frozen 0
      have c_a_1_w18 := x_a.cell (i := 1) rfl
      have f_a_1_w18 := x_a.frozen 1
      have c_b_0_w18 := x_b.cell (i := 0) rfl
      have f_b_0_w18 := x_b.frozen 0
      have c_b_1_w18 := x_b.cell (i := 1) rfl
      have f_b_1_w18 := x_b.frozen 1
      have c_c_0_w18 := x_c.cell (i := 0) rfl
      have f_c_0_w18 := x_c.frozen 0
      have c_c_1_w18 := x_c.cell (i := 1) rfl
      have f_c_1_w18 := x_c.frozen 1
      have c_x_0_w18 := x_x.cell (i := 0) rfl
      have f_x_0_w18 := x_x.frozen 0
      have c_x_1_w18 := x_x.cell (i := 1) rfl
      have f_x_1_w18 := x_x.frozen 1
      have c_y_0_w18 := x_y.cell (i := 0) rfl
      have f_y_0_w18 := x_y.frozen 0
      have c_y_1_w18 := x_y.cell (i := 1) rfl
      have f_y_1_w18 := x_y.frozen 1
      have c_z_0_w18 := x_z.cell (i := 0) rfl
      have f_z_0_w18 := x_z.frozen 0
      have c_z_1_w18 := x_z.cell (i := 1) rfl
      have f_z_1_w18 := x_z.frozen 1
      have c_u_0_w18 := x_u.cell (i := 0) rfl
      have f_u_0_w18 := x_u.frozen 0
      have c_u_1_w18 := x_u.cell (i := 1) rfl
      have f_u_1_w18 := x_u.frozen 1
      go_wp2_with fail
      refine (iLater_c o_c.rd o_x.rd hBc hBx).mono ?_
      rintro e w19 ⟨rfl, h_w19⟩
      clear c_a_0_w18 f_a_0_w18 c_a_1_w18 f_a_1_w18 c_b_0_w18 f_b_0_w18 c_b_1_w18 f_b_1_w18 c_c_0_w18 f_c_0_w18 c_c_1_w18 f_c_1_w18 c_x_0_w18 f_x_0_w18 c_x_1_w18 f_x_1_w18 c_y_0_w18 f_y_0_w18 c_y_1_w18 f_y_1_w18 c_z_0_w18 f_z_0_w18 c_z_1_w18 f_z_1_w18 c_u_0_w18 f_u_0_w18 c_u_1_w18 f_u_1_w18
      replace x_a := x_a.from_ h_w19
      replace x_b := x_b.from_ h_w19
      replace x_c := x_c.from_ h_w19
      replace x_x := x_x.from_ h_w19
      replace x_y := x_y.from_ h_w19
      replace x_z := x_z.from_ h_w19
      replace x_u := x_u.from_ h_w19
      replace o_a := o_a.below h_w19
      replace o_b := o_b.below h_w19
      replace o_c := o_c.below h_w19
      replace o_x := o_x.below h_w19
      replace o_y := o_y.below h_w19
      replace o_z := o_z.below h_w19
      replace o_u := o_u.below h_w19
      have B_w19 := B_w18.trans (h_w19.mono B_w18.size)
      have s_w19 := h_w19.size
      rw [L3.out]
      have c_a_0_w19 := x_a.cell (i := 0) rfl
      have f_a_0_w19 := x_a.frozen 0
      have c_a_1_w19 := x_a.cell (i := 1) rfl
      have f_a_1_w19 := x_a.frozen 1
      have c_b_0_w19 := x_b.cell (i := 0) rfl
      have f_b_0_w19 := x_b.frozen 0
      have c_b_1_w19 := x_b.cell (i := 1) rfl
      have f_b_1_w19 := x_b.frozen 1
      have c_c_0_w19 := x_c.cell (i := 0) rfl
      have f_c_0_w19 := x_c.frozen 0
      have c_c_1_w19 := x_c.cell (i := 1) rfl
      have f_c_1_w19 := x_c.frozen 1
      have c_x_0_w19 := x_x.cell (i := 0) rfl
      have f_x_0_w19 := x_x.frozen 0
      have c_x_1_w19 := x_x.cell (i := 1) rfl
      have f_x_1_w19 := x_x.frozen 1
      have c_y_0_w19 := x_y.cell (i := 0) rfl
      have f_y_0_w19 := x_y.frozen 0
      have c_y_1_w19 := x_y.cell (i := 1) rfl
      have f_y_1_w19 := x_y.frozen 1
      have c_z_0_w19 := x_z.cell (i := 0) rfl
      have f_z_0_w19 := x_z.frozen 0
      have c_z_1_w19 := x_z.cell (i := 1) rfl
      have f_z_1_w19 := x_z.frozen 1
      have c_u_0_w19 := x_u.cell (i := 0) rfl
      have f_u_0_w19 := x_u.frozen 0
      have c_u_1_w19 := x_u.cell (i := 1) rfl
      have f_u_1_w19 := x_u.frozen 1
      go_wp2_with fail
      refine (iRightsOk_c o_x.rd hBx).mono ?_
      rintro e w20 ⟨rfl, h_w20⟩
      clear c_a_0_w19 f_a_0_w19 c_a_1_w19 f_a_1_w19 c_b_0_w19 f_b_0_w19 c_b_1_w19 f_b_1_w19 c_c_0_w19 f_c_0_w19 c_c_1_w19 f_c_1_w19 c_x_0_w19 f_x_0_w19 c_x_1_w19 f_x_1_w19 c_y_0_w19 f_y_0_w19 c_y_1_w19 f_y_1_w19 c_z_0_w19 f_z_0_w19 c_z_1_w19 f_z_1_w19 c_u_0_w19 f_u_0_w19 c_u_1_w19 f_u_1_w19
      replace x_a := x_a.from_ h_w20
      replace x_b := x_b.from_ h_w20
      replace x_c := x_c.from_ h_w20
      replace x_x := x_x.from_ h_w20
      replace x_y := x_y.from_ h_w20
      replace x_z := x_z.from_ h_w20
      replace x_u := x_u.from_ h_w20
      replace o_a := o_a.below h_w20
      replace o_b := o_b.below h_w20
      replace o_c := o_c.below h_w20
      replace o_x := o_x.below h_w20
      replace o_y := o_y.below h_w20
      replace o_z := o_z.below h_w20
      replace o_u := o_u.below h_w20
      have B_w20 := B_w19.trans (h_w20.mono B_w19.size)
      have s_w20 := h_w20.size
      rw [K1.out]
      have c_a_0_w20 := x_a.cell (i := 0) rfl
      have f_a_0_w20 := x_a.frozen 0
      have c_a_1_w20 := x_a.cell (i := 1) rfl
      have f_a_1_w20 := x_a.frozen 1
      have c_b_0_w20 := x_b.cell (i := 0) rfl
      have f_b_0_w20 := x_b.frozen 0
      have c_b_1_w20 := x_b.cell (i := 1) rfl
      have f_b_1_w20 := x_b.frozen 1
      have c_c_0_w20 := x_c.cell (i := 0) rfl
      have f_c_0_w20 := x_c.frozen 0
      have c_c_1_w20 := x_c.cell (i := 1) rfl
      have f_c_1_w20 := x_c.frozen 1
      have c_x_0_w20 := x_x.cell (i := 0) rfl
      have f_x_0_w20 := x_x.frozen 0
      have c_x_1_w20 := x_x.cell (i := 1) rfl
      have f_x_1_w20 := x_x.frozen 1
      have c_y_0_w20 := x_y.cell (i := 0) rfl
      have f_y_0_w20 := x_y.frozen 0
      have c_y_1_w20 := x_y.cell (i := 1) rfl
      have f_y_1_w20 := x_y.frozen 1
      have c_z_0_w20 := x_z.cell (i := 0) rfl
      have f_z_0_w20 := x_z.frozen 0
      have c_z_1_w20 := x_z.cell (i := 1) rfl
      have f_z_1_w20 := x_z.frozen 1
      have c_u_0_w20 := x_u.cell (i := 0) rfl
      have f_u_0_w20 := x_u.frozen 0
      have c_u_1_w20 := x_u.cell (i := 1) rfl
      have f_u_1_w20 := x_u.frozen 1
      go_wp2
      go_ret
      exact ⟨rfl, B_w20⟩

end Go.Proofs.Ytmbipgnecjlicaa
