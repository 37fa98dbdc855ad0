/- The walk of the law FnPromise. Laid by a program of ours (src/fnpromise.py). -/
import Derived.Test.YtaoedgcdcimibaaMakes
import Derived.Test.YtaoedgcdcimibaaVtI
import Derived.IntWalk
namespace Go.Proofs.Ytaoedgcdcimibaa
open Go.RowKit
set_option linter.unusedVariables false

theorem rdP {w w' : World} {A : Option Addr} {zs : List Int} (h : Rd .u8 w w.heap.size A zs) (hb : Below w.heap.size w w') : Rd .u8 w' w'.heap.size A zs := (h.below hb).more hb.size
theorem acc_parts {a : MAcc} (h : accOkB a = true) : (0 ≤ a.Prom ∧ a.Prom ≤ 1125899906842624) ∧ (0 ≤ a.Bal ∧ a.Bal ≤ a.Prom) := by
  unfold accOkB at h
  simp only [Bool.and_eq_true, inB_true, numB_true] at h
  exact ⟨h.1, h.2.1⟩
theorem acc_more {a : MAcc} {b : Int} (h : accOkB a = true) (hb : a.Prom < b ∧ b ≤ 1125899906842624) : accOkB ⟨b, a.Bal, a.Val⟩ = true := by
  have h1 := acc_parts h
  unfold accOkB at h ⊢
  simp only [Bool.and_eq_true, inB_true, numB_true] at h ⊢
  exact ⟨by omega, ⟨by omega, by omega⟩, h.2.2⟩
theorem acc_new {b u : Int} (hb : 1 ≤ b ∧ b ≤ 1125899906842624) (hu : 1 ≤ u ∧ u ≤ 4) : accOkB ⟨b, b, u⟩ = true := by
  unfold accOkB
  rw [numB_true.2 (show 0 ≤ b ∧ b ≤ 1125899906842624 by omega), inB_true.2 (show 0 ≤ b ∧ b ≤ b by omega), inB_true.2 hu, decide_eq_true (show 0 < b by omega)]
  rfl
theorem prep_yes {a : MAcc} {b : Int} (h : accOkB a = true) (hb : a.Prom < b ∧ b ≤ 1125899906842624) : accPrepB a b = true ∧ accPrep a b = ⟨b, a.Bal, a.Val⟩ := by
  have h1 := acc_parts h
  have e : accPrepB a b = true := by unfold accPrepB; rw [h, numB_true.2 (show 0 ≤ b ∧ b ≤ 1125899906842624 by omega), decide_eq_true hb.1]; rfl
  exact ⟨e, if_pos e⟩
theorem prep_no {a : MAcc} {b : Int} (hb : b ≤ a.Prom) : accPrepB a b = false ∧ accPrep a b = accZ := by
  have e : accPrepB a b = false := by unfold accPrepB; rw [decide_eq_false (show ¬ a.Prom < b by omega)]; simp
  exact ⟨e, if_neg (by rw [e]; decide)⟩
theorem take_yes {a : MAcc} {b u : Int} (h : accOkB a = true) (hb : a.Prom ≤ b ∧ 1 ≤ b ∧ b ≤ 1125899906842624) (hu : 1 ≤ u ∧ u ≤ 4) : accTakeB a b u = true ∧ accTake a b u = ⟨b, b, u⟩ := by
  have e : accTakeB a b u = true := by unfold accTakeB; rw [h, inB_true.2 hu, inB_true.2 (show 1 ≤ b ∧ b ≤ 1125899906842624 by omega), decide_eq_true hb.1]; rfl
  exact ⟨e, if_pos e⟩
theorem take_no {a : MAcc} {b u : Int} (hb : b < a.Prom ∨ b < 1) : accTakeB a b u = false ∧ accTake a b u = accZ := by
  have e : accTakeB a b u = false := by
    unfold accTakeB
    rcases hb with hb | hb
    · rw [decide_eq_false (show ¬ a.Prom ≤ b by omega)]; simp
    · rw [inB_false.2 (show ¬ (1 ≤ b ∧ b ≤ 1125899906842624) by omega)]; simp
  exact ⟨e, if_neg (by rw [e]; decide)⟩
theorem accZ_ok : accOkB accZ = true := by decide

set_option maxRecDepth 100000 in
set_option maxHeartbeats 4000000 in
theorem wPromise (v : Value) (zs : List Int) (w : World) (r : RS .u8 w v zs) (hb : Bytes zs) :
    Calls Try.prog 5 #[v] w fun e w' => e = .returned (.bool true) ∧ Below w.heap.size w w' := by
  obtain ⟨A, c, rfl, p1, p2, hr⟩ := r
  unfold maxLen at p2
  by_cases hbig : 1048576 < zs.length
  case pos =>
    have i0 : (1048576 : Int) < (zs.length : Int) := by omega
    go_enter Try.func5, Try.ntmps5
    go_wp2
    go_ret
    exact ⟨rfl, Below.refl _ _⟩
  have hm : zs.length ≤ 1048576 := by omega
  have B0 : Below w.heap.size w w := Below.refl _ _
  go_enter Try.func5, Try.ntmps5
  go_wp2_with fail
  refine (makeNums_any A c zs 20 _ (rdP hr B0) hb hm (by omega) (by omega)).mono ?_
  rintro e w1 ⟨vn, l, rfl, on, hin, nl, h_w1⟩
  have B_w1 := B0.trans (h_w1.mono B0.size)
  have s_w1 := h_w1.size
  obtain ⟨An, cn, rfl, qn1, qn2, hrl⟩ := own_form on
  unfold maxLen at qn2
  clear on
  obtain ⟨w2, e_w2, s_w2, h_w2, x_a⟩ := alloc_step w1 33 [.int .i64 0, .int .i64 0, .int .i64 0]
  have s_w2_1 := Nat.le_of_eq s_w2
  have s_w2_2 := Nat.le_of_eq s_w2.symm
  clear s_w2
  have B_w2 := B_w1.trans (h_w2.mono B_w1.size)
  have i_w2_2 := x_a.same (i := 2) rfl
  have i_w2_1 := x_a.same (i := 1) rfl
  have i_w2_0 := x_a.same (i := 0) rfl
  have c_a_0_w2 := x_a.cell (i := 0) rfl
  have f_a_0_w2 := x_a.frozen 0
  have c_a_1_w2 := x_a.cell (i := 1) rfl
  have f_a_1_w2 := x_a.frozen 1
  have c_a_2_w2 := x_a.cell (i := 2) rfl
  have f_a_2_w2 := x_a.frozen 2
  have BL : Below w1.heap.size w1 w2 := h_w2
  go_wp2
  go_loopw [19] (fun j wr => ∃ (k : Nat) (a : MAcc), k ≤ l.length ∧ j = .int .i64 k ∧ Hid (accOkB a = true) ∧ Vr wr (w1.heap.size) 33 [.int .i64 a.Prom, .int .i64 a.Bal, .int .i64 a.Val] ∧ Below w.heap.size w wr ∧ Below w1.heap.size w1 wr) (fun j _ => l.length - (intOf j).toNat)
  case atStart => exact ⟨0, accZ, Nat.zero_le _, rfl, accZ_ok, x_a, B_w2, BL⟩
  case round =>
    clear i_w2_2 i_w2_1 i_w2_0 c_a_0_w2 f_a_0_w2 c_a_1_w2 f_a_1_w2 c_a_2_w2 f_a_2_w2
    clear x_a BL
    obtain ⟨k, a, hk, rfl, HA, x_a, HB, BL⟩ := hrel
    have hs := HB.size
    have hsl := BL.size
    have ap := acc_parts HA.out
    have hxa := x_a.lt
    have c_a_0_wr := x_a.cell (i := 0) rfl
    have f_a_0_wr := x_a.frozen 0
    have c_a_1_wr := x_a.cell (i := 1) rfl
    have f_a_1_wr := x_a.frozen 1
    have c_a_2_wr := x_a.cell (i := 2) rfl
    have f_a_2_wr := x_a.frozen 2
    by_cases hlt : k < l.length
    case neg =>
      have hk2 : ¬ ((k : Int) < (l.length : Int)) := by omega
      go_wp2_with fail
      refine (iAccOk_c (a := accZ) (ov_acc (d := accZ) (lo := 0) (hi := 0) (Nat.zero_le _)).rd).mono ?_
      rintro e w3 ⟨rfl, h_w3⟩
      clear c_a_0_wr f_a_0_wr c_a_1_wr f_a_1_wr c_a_2_wr f_a_2_wr
      replace x_a := x_a.from_ h_w3
      have B_w3 := HB.trans (h_w3.mono HB.size)
      have s_w3 := h_w3.size
      rw [accZ_ok]
      go_wp2
      go_ret
      exact ⟨rfl, B_w3⟩
    have i1 : (k : Int) < (l.length : Int) := by omega
    obtain ⟨bl, ol, rfl, hbl, hcl⟩ := (hrl.below BL) (by omega)
    replace hcl := hcl k hlt
    obtain ⟨b, hbq⟩ : ∃ b, l.getD k 0 = b := ⟨_, rfl⟩
    have bb : 0 ≤ b ∧ b < 20 := by rw [← hbq, List.getD_eq_getElem?_getD, List.getElem?_eq_getElem hlt]; exact hin _ (List.getElem_mem hlt)
    rw [hbq] at hcl
    clear hbq
    obtain ⟨R4, h4⟩ : ∃ R4, (k : Int).tmod 4 = R4 := ⟨_, rfl⟩
    have b4 : 0 ≤ R4 ∧ R4 ≤ 3 := by rw [← h4, Int.tmod_eq_emod_of_nonneg (by omega)]; omega
    obtain ⟨R2, h2⟩ : ∃ R2, (k : Int).tmod 2 = R2 := ⟨_, rfl⟩
    have b2 : 0 ≤ R2 ∧ R2 ≤ 1 := by rw [← h2, Int.tmod_eq_emod_of_nonneg (by omega)]; omega
    have t4 : IntKind.i64.wrap (1 + R4) = 1 + R4 := IntWalk.i64_in _ (by omega)
    have t5 : IntKind.i64.wrap R4 = R4 := IntWalk.i64_in _ (by omega)
    have t6 : IntKind.i64.wrap R2 = R2 := IntWalk.i64_in _ (by omega)
    by_cases hp : a.Prom < b
    case pos =>
      by_cases he : R2 = 0
      case pos =>
        have g9 : (R2 == 0) = true := by simpa using he
        replace he : R2 ≤ 0 := by omega
        have PX : Hid (accPrepB a b = true ∧ accPrep a b = ⟨b, a.Bal, a.Val⟩) := prep_yes HA.out (by omega)
        have PY : Hid (accTakeB a b (1 + R4) = true ∧ accTake a b (1 + R4) = ⟨b, b, 1 + R4⟩) := take_yes HA.out (by omega) (by omega)
        have g1 : decide (a.Prom < b) = true := decide_eq_true (by omega)
        have g2 : decide (a.Prom ≤ b) = true := decide_eq_true (by omega)
        have g3 : decide (0 < b) = true := decide_eq_true (by omega)
        go_wp2_with fail
        refine (iAccPrep_c (a := a) (b := b) (ov_acc (d := a) (lo := 0) (hi := 0) (Nat.zero_le _)).rd (by omega)).mono ?_
        rintro e w3 ⟨v2, rfl, o_x, h_w3⟩
        clear c_a_0_wr f_a_0_wr c_a_1_wr f_a_1_wr c_a_2_wr f_a_2_wr
        replace x_a := x_a.from_ h_w3
        have B_w3 := HB.trans (h_w3.mono HB.size)
        have s_w3 := h_w3.size
        replace BL := BL.trans (h_w3.mono BL.size)
        rw [PX.out.2] at o_x
        rw [PX.out.1]
        obtain rfl := rv_acc o_x.rd
        clear o_x
        have c_a_0_w3 := x_a.cell (i := 0) rfl
        have f_a_0_w3 := x_a.frozen 0
        have c_a_1_w3 := x_a.cell (i := 1) rfl
        have f_a_1_w3 := x_a.frozen 1
        have c_a_2_w3 := x_a.cell (i := 2) rfl
        have f_a_2_w3 := x_a.frozen 2
        obtain ⟨w4, e_w4, s_w4, h_w4, x_x⟩ := alloc_step w3 33 [.int .i64 b, .int .i64 a.Bal, .int .i64 a.Val]
        have s_w4_1 := Nat.le_of_eq s_w4
        have s_w4_2 := Nat.le_of_eq s_w4.symm
        clear s_w4
        replace x_a := x_a.from_ h_w4
        have B_w4 := B_w3.trans (h_w4.mono B_w3.size)
        replace BL := BL.trans (h_w4.mono BL.size)
        have c_a_0_w4 := x_a.cell (i := 0) rfl
        have f_a_0_w4 := x_a.frozen 0
        have c_a_1_w4 := x_a.cell (i := 1) rfl
        have f_a_1_w4 := x_a.frozen 1
        have c_a_2_w4 := x_a.cell (i := 2) rfl
        have f_a_2_w4 := x_a.frozen 2
        have c_x_0_w4 := x_x.cell (i := 0) rfl
        have f_x_0_w4 := x_x.frozen 0
        have c_x_1_w4 := x_x.cell (i := 1) rfl
        have f_x_1_w4 := x_x.frozen 1
        have c_x_2_w4 := x_x.cell (i := 2) rfl
        have f_x_2_w4 := x_x.frozen 2
        go_wp2_with fail
        refine (iAccTake_c (a := a) (b := b) (u := 1 + R4) (ov_acc (d := a) (lo := 0) (hi := 0) (Nat.zero_le _)).rd (by omega) (by omega)).mono ?_
        rintro e w5 ⟨v3, rfl, o_y, h_w5⟩
        clear c_a_0_w3 f_a_0_w3 c_a_1_w3 f_a_1_w3 c_a_2_w3 f_a_2_w3 c_a_0_w4 f_a_0_w4 c_a_1_w4 f_a_1_w4 c_a_2_w4 f_a_2_w4 c_x_0_w4 f_x_0_w4 c_x_1_w4 f_x_1_w4 c_x_2_w4 f_x_2_w4
        replace x_a := x_a.from_ h_w5
        replace x_x := x_x.from_ h_w5
        have B_w5 := B_w4.trans (h_w5.mono B_w4.size)
        have s_w5 := h_w5.size
        replace BL := BL.trans (h_w5.mono BL.size)
        rw [PY.out.2] at o_y
        rw [PY.out.1]
        obtain rfl := rv_acc o_y.rd
        clear o_y
        have c_a_0_w5 := x_a.cell (i := 0) rfl
        have f_a_0_w5 := x_a.frozen 0
        have c_a_1_w5 := x_a.cell (i := 1) rfl
        have f_a_1_w5 := x_a.frozen 1
        have c_a_2_w5 := x_a.cell (i := 2) rfl
        have f_a_2_w5 := x_a.frozen 2
        have c_x_0_w5 := x_x.cell (i := 0) rfl
        have f_x_0_w5 := x_x.frozen 0
        have c_x_1_w5 := x_x.cell (i := 1) rfl
        have f_x_1_w5 := x_x.frozen 1
        have c_x_2_w5 := x_x.cell (i := 2) rfl
        have f_x_2_w5 := x_x.frozen 2
        obtain ⟨w6, e_w6, s_w6, h_w6, x_y⟩ := alloc_step w5 33 [.int .i64 b, .int .i64 b, .int .i64 (1 + R4)]
        have s_w6_1 := Nat.le_of_eq s_w6
        have s_w6_2 := Nat.le_of_eq s_w6.symm
        clear s_w6
        replace x_a := x_a.from_ h_w6
        replace x_x := x_x.from_ h_w6
        have B_w6 := B_w5.trans (h_w6.mono B_w5.size)
        replace BL := BL.trans (h_w6.mono BL.size)
        have c_a_0_w6 := x_a.cell (i := 0) rfl
        have f_a_0_w6 := x_a.frozen 0
        have c_a_1_w6 := x_a.cell (i := 1) rfl
        have f_a_1_w6 := x_a.frozen 1
        have c_a_2_w6 := x_a.cell (i := 2) rfl
        have f_a_2_w6 := x_a.frozen 2
        have c_x_0_w6 := x_x.cell (i := 0) rfl
        have f_x_0_w6 := x_x.frozen 0
        have c_x_1_w6 := x_x.cell (i := 1) rfl
        have f_x_1_w6 := x_x.frozen 1
        have c_x_2_w6 := x_x.cell (i := 2) rfl
        have f_x_2_w6 := x_x.frozen 2
        have c_y_0_w6 := x_y.cell (i := 0) rfl
        have f_y_0_w6 := x_y.frozen 0
        have c_y_1_w6 := x_y.cell (i := 1) rfl
        have f_y_1_w6 := x_y.frozen 1
        have c_y_2_w6 := x_y.cell (i := 2) rfl
        have f_y_2_w6 := x_y.frozen 2
        have HN : Hid (accOkB ⟨b, a.Bal, a.Val⟩ = true) := acc_more HA.out (by omega)
        obtain ⟨w7, e_w7, s_w7, h_w7, y⟩ := store_step x_a [.int .i64 b, .int .i64 a.Bal, .int .i64 a.Val] rfl
        replace e_w7 : (((w6.setCell ⟨w1.heap.size, 0, none⟩ (.int .i64 b)).setCell ⟨w1.heap.size, 1, none⟩ (.int .i64 a.Bal)).setCell ⟨w1.heap.size, 2, none⟩ (.int .i64 a.Val)) = w7 := e_w7
        have s_w7_1 := Nat.le_of_eq s_w7
        have s_w7_2 := Nat.le_of_eq s_w7.symm
        clear s_w7
        replace x_x := x_x.chg h_w7 (by omega)
        replace x_y := x_y.chg h_w7 (by omega)
        have B_w7 := Below.chg_ B_w6 h_w7 (by omega) (by omega)
        replace BL := Below.chg_ BL h_w7 (by omega) (by omega)
        replace x_a : Vr w7 (w1.heap.size) 33 [.int .i64 b, .int .i64 a.Bal, .int .i64 a.Val] := y
        clear y
        have c_a_0_w7 := x_a.cell (i := 0) rfl
        have f_a_0_w7 := x_a.frozen 0
        have c_a_1_w7 := x_a.cell (i := 1) rfl
        have f_a_1_w7 := x_a.frozen 1
        have c_a_2_w7 := x_a.cell (i := 2) rfl
        have f_a_2_w7 := x_a.frozen 2
        have c_x_0_w7 := x_x.cell (i := 0) rfl
        have f_x_0_w7 := x_x.frozen 0
        have c_x_1_w7 := x_x.cell (i := 1) rfl
        have f_x_1_w7 := x_x.frozen 1
        have c_x_2_w7 := x_x.cell (i := 2) rfl
        have f_x_2_w7 := x_x.frozen 2
        have c_y_0_w7 := x_y.cell (i := 0) rfl
        have f_y_0_w7 := x_y.frozen 0
        have c_y_1_w7 := x_y.cell (i := 1) rfl
        have f_y_1_w7 := x_y.frozen 1
        have c_y_2_w7 := x_y.cell (i := 2) rfl
        have f_y_2_w7 := x_y.frozen 2
        go_wp2_with fail
        refine (iAccOk_c (a := ⟨b, a.Bal, a.Val⟩) (ov_acc (d := ⟨b, a.Bal, a.Val⟩) (lo := 0) (hi := 0) (Nat.zero_le _)).rd).mono ?_
        rintro e w8 ⟨rfl, h_w8⟩
        clear c_a_0_w5 f_a_0_w5 c_a_1_w5 f_a_1_w5 c_a_2_w5 f_a_2_w5 c_x_0_w5 f_x_0_w5 c_x_1_w5 f_x_1_w5 c_x_2_w5 f_x_2_w5 c_a_0_w6 f_a_0_w6 c_a_1_w6 f_a_1_w6 c_a_2_w6 f_a_2_w6 c_x_0_w6 f_x_0_w6 c_x_1_w6 f_x_1_w6 c_x_2_w6 f_x_2_w6 c_y_0_w6 f_y_0_w6 c_y_1_w6 f_y_1_w6 c_y_2_w6 f_y_2_w6 c_a_0_w7 f_a_0_w7 c_a_1_w7 f_a_1_w7 c_a_2_w7 f_a_2_w7 c_x_0_w7 f_x_0_w7 c_x_1_w7 f_x_1_w7 c_x_2_w7 f_x_2_w7 c_y_0_w7 f_y_0_w7 c_y_1_w7 f_y_1_w7 c_y_2_w7 f_y_2_w7
        replace x_a := x_a.from_ h_w8
        replace x_x := x_x.from_ h_w8
        replace x_y := x_y.from_ h_w8
        have B_w8 := B_w7.trans (h_w8.mono B_w7.size)
        have s_w8 := h_w8.size
        replace BL := BL.trans (h_w8.mono BL.size)
        rw [HN.out]
        skip
        go_wp2
        go_roundw
        case rel => exact ⟨k + 1, ⟨b, a.Bal, a.Val⟩, by omega, by go_num, HN, x_a, B_w8, BL⟩
        case measure => simp [intOf]; omega
      case neg =>
        have g9 : (R2 == 0) = false := by simpa using he
        replace he : 0 < R2 := by omega
        have PX : Hid (accPrepB a b = true ∧ accPrep a b = ⟨b, a.Bal, a.Val⟩) := prep_yes HA.out (by omega)
        have PY : Hid (accTakeB a b (1 + R4) = true ∧ accTake a b (1 + R4) = ⟨b, b, 1 + R4⟩) := take_yes HA.out (by omega) (by omega)
        have g1 : decide (a.Prom < b) = true := decide_eq_true (by omega)
        have g2 : decide (a.Prom ≤ b) = true := decide_eq_true (by omega)
        have g3 : decide (0 < b) = true := decide_eq_true (by omega)
        go_wp2_with fail
        refine (iAccPrep_c (a := a) (b := b) (ov_acc (d := a) (lo := 0) (hi := 0) (Nat.zero_le _)).rd (by omega)).mono ?_
        rintro e w3 ⟨v2, rfl, o_x, h_w3⟩
        clear c_a_0_wr f_a_0_wr c_a_1_wr f_a_1_wr c_a_2_wr f_a_2_wr
        replace x_a := x_a.from_ h_w3
        have B_w3 := HB.trans (h_w3.mono HB.size)
        have s_w3 := h_w3.size
        replace BL := BL.trans (h_w3.mono BL.size)
        rw [PX.out.2] at o_x
        rw [PX.out.1]
        obtain rfl := rv_acc o_x.rd
        clear o_x
        have c_a_0_w3 := x_a.cell (i := 0) rfl
        have f_a_0_w3 := x_a.frozen 0
        have c_a_1_w3 := x_a.cell (i := 1) rfl
        have f_a_1_w3 := x_a.frozen 1
        have c_a_2_w3 := x_a.cell (i := 2) rfl
        have f_a_2_w3 := x_a.frozen 2
        obtain ⟨w4, e_w4, s_w4, h_w4, x_x⟩ := alloc_step w3 33 [.int .i64 b, .int .i64 a.Bal, .int .i64 a.Val]
        have s_w4_1 := Nat.le_of_eq s_w4
        have s_w4_2 := Nat.le_of_eq s_w4.symm
        clear s_w4
        replace x_a := x_a.from_ h_w4
        have B_w4 := B_w3.trans (h_w4.mono B_w3.size)
        replace BL := BL.trans (h_w4.mono BL.size)
        have c_a_0_w4 := x_a.cell (i := 0) rfl
        have f_a_0_w4 := x_a.frozen 0
        have c_a_1_w4 := x_a.cell (i := 1) rfl
        have f_a_1_w4 := x_a.frozen 1
        have c_a_2_w4 := x_a.cell (i := 2) rfl
        have f_a_2_w4 := x_a.frozen 2
        have c_x_0_w4 := x_x.cell (i := 0) rfl
        have f_x_0_w4 := x_x.frozen 0
        have c_x_1_w4 := x_x.cell (i := 1) rfl
        have f_x_1_w4 := x_x.frozen 1
        have c_x_2_w4 := x_x.cell (i := 2) rfl
        have f_x_2_w4 := x_x.frozen 2
        go_wp2_with fail
        refine (iAccTake_c (a := a) (b := b) (u := 1 + R4) (ov_acc (d := a) (lo := 0) (hi := 0) (Nat.zero_le _)).rd (by omega) (by omega)).mono ?_
        rintro e w5 ⟨v3, rfl, o_y, h_w5⟩
        clear c_a_0_w3 f_a_0_w3 c_a_1_w3 f_a_1_w3 c_a_2_w3 f_a_2_w3 c_a_0_w4 f_a_0_w4 c_a_1_w4 f_a_1_w4 c_a_2_w4 f_a_2_w4 c_x_0_w4 f_x_0_w4 c_x_1_w4 f_x_1_w4 c_x_2_w4 f_x_2_w4
        replace x_a := x_a.from_ h_w5
        replace x_x := x_x.from_ h_w5
        have B_w5 := B_w4.trans (h_w5.mono B_w4.size)
        have s_w5 := h_w5.size
        replace BL := BL.trans (h_w5.mono BL.size)
        rw [PY.out.2] at o_y
        rw [PY.out.1]
        obtain rfl := rv_acc o_y.rd
        clear o_y
        have c_a_0_w5 := x_a.cell (i := 0) rfl
        have f_a_0_w5 := x_a.frozen 0
        have c_a_1_w5 := x_a.cell (i := 1) rfl
        have f_a_1_w5 := x_a.frozen 1
        have c_a_2_w5 := x_a.cell (i := 2) rfl
        have f_a_2_w5 := x_a.frozen 2
        have c_x_0_w5 := x_x.cell (i := 0) rfl
        have f_x_0_w5 := x_x.frozen 0
        have c_x_1_w5 := x_x.cell (i := 1) rfl
        have f_x_1_w5 := x_x.frozen 1
        have c_x_2_w5 := x_x.cell (i := 2) rfl
        have f_x_2_w5 := x_x.frozen 2
        obtain ⟨w6, e_w6, s_w6, h_w6, x_y⟩ := alloc_step w5 33 [.int .i64 b, .int .i64 b, .int .i64 (1 + R4)]
        have s_w6_1 := Nat.le_of_eq s_w6
        have s_w6_2 := Nat.le_of_eq s_w6.symm
        clear s_w6
        replace x_a := x_a.from_ h_w6
        replace x_x := x_x.from_ h_w6
        have B_w6 := B_w5.trans (h_w6.mono B_w5.size)
        replace BL := BL.trans (h_w6.mono BL.size)
        have c_a_0_w6 := x_a.cell (i := 0) rfl
        have f_a_0_w6 := x_a.frozen 0
        have c_a_1_w6 := x_a.cell (i := 1) rfl
        have f_a_1_w6 := x_a.frozen 1
        have c_a_2_w6 := x_a.cell (i := 2) rfl
        have f_a_2_w6 := x_a.frozen 2
        have c_x_0_w6 := x_x.cell (i := 0) rfl
        have f_x_0_w6 := x_x.frozen 0
        have c_x_1_w6 := x_x.cell (i := 1) rfl
        have f_x_1_w6 := x_x.frozen 1
        have c_x_2_w6 := x_x.cell (i := 2) rfl
        have f_x_2_w6 := x_x.frozen 2
        have c_y_0_w6 := x_y.cell (i := 0) rfl
        have f_y_0_w6 := x_y.frozen 0
        have c_y_1_w6 := x_y.cell (i := 1) rfl
        have f_y_1_w6 := x_y.frozen 1
        have c_y_2_w6 := x_y.cell (i := 2) rfl
        have f_y_2_w6 := x_y.frozen 2
        have HN : Hid (accOkB ⟨b, b, 1 + R4⟩ = true) := acc_new (by omega) (by omega)
        obtain ⟨w7, e_w7, s_w7, h_w7, y⟩ := store_step x_a [.int .i64 b, .int .i64 b, .int .i64 (1 + R4)] rfl
        replace e_w7 : (((w6.setCell ⟨w1.heap.size, 0, none⟩ (.int .i64 b)).setCell ⟨w1.heap.size, 1, none⟩ (.int .i64 b)).setCell ⟨w1.heap.size, 2, none⟩ (.int .i64 (1 + R4))) = w7 := e_w7
        have s_w7_1 := Nat.le_of_eq s_w7
        have s_w7_2 := Nat.le_of_eq s_w7.symm
        clear s_w7
        replace x_x := x_x.chg h_w7 (by omega)
        replace x_y := x_y.chg h_w7 (by omega)
        have B_w7 := Below.chg_ B_w6 h_w7 (by omega) (by omega)
        replace BL := Below.chg_ BL h_w7 (by omega) (by omega)
        replace x_a : Vr w7 (w1.heap.size) 33 [.int .i64 b, .int .i64 b, .int .i64 (1 + R4)] := y
        clear y
        have c_a_0_w7 := x_a.cell (i := 0) rfl
        have f_a_0_w7 := x_a.frozen 0
        have c_a_1_w7 := x_a.cell (i := 1) rfl
        have f_a_1_w7 := x_a.frozen 1
        have c_a_2_w7 := x_a.cell (i := 2) rfl
        have f_a_2_w7 := x_a.frozen 2
        have c_x_0_w7 := x_x.cell (i := 0) rfl
        have f_x_0_w7 := x_x.frozen 0
        have c_x_1_w7 := x_x.cell (i := 1) rfl
        have f_x_1_w7 := x_x.frozen 1
        have c_x_2_w7 := x_x.cell (i := 2) rfl
        have f_x_2_w7 := x_x.frozen 2
        have c_y_0_w7 := x_y.cell (i := 0) rfl
        have f_y_0_w7 := x_y.frozen 0
        have c_y_1_w7 := x_y.cell (i := 1) rfl
        have f_y_1_w7 := x_y.frozen 1
        have c_y_2_w7 := x_y.cell (i := 2) rfl
        have f_y_2_w7 := x_y.frozen 2
        go_wp2_with fail
        refine (iAccOk_c (a := ⟨b, b, 1 + R4⟩) (ov_acc (d := ⟨b, b, 1 + R4⟩) (lo := 0) (hi := 0) (Nat.zero_le _)).rd).mono ?_
        rintro e w8 ⟨rfl, h_w8⟩
        clear c_a_0_w5 f_a_0_w5 c_a_1_w5 f_a_1_w5 c_a_2_w5 f_a_2_w5 c_x_0_w5 f_x_0_w5 c_x_1_w5 f_x_1_w5 c_x_2_w5 f_x_2_w5 c_a_0_w6 f_a_0_w6 c_a_1_w6 f_a_1_w6 c_a_2_w6 f_a_2_w6 c_x_0_w6 f_x_0_w6 c_x_1_w6 f_x_1_w6 c_x_2_w6 f_x_2_w6 c_y_0_w6 f_y_0_w6 c_y_1_w6 f_y_1_w6 c_y_2_w6 f_y_2_w6 c_a_0_w7 f_a_0_w7 c_a_1_w7 f_a_1_w7 c_a_2_w7 f_a_2_w7 c_x_0_w7 f_x_0_w7 c_x_1_w7 f_x_1_w7 c_x_2_w7 f_x_2_w7 c_y_0_w7 f_y_0_w7 c_y_1_w7 f_y_1_w7 c_y_2_w7 f_y_2_w7
        replace x_a := x_a.from_ h_w8
        replace x_x := x_x.from_ h_w8
        replace x_y := x_y.from_ h_w8
        have B_w8 := B_w7.trans (h_w8.mono B_w7.size)
        have s_w8 := h_w8.size
        replace BL := BL.trans (h_w8.mono BL.size)
        rw [HN.out]
        skip
        go_wp2
        go_roundw
        case rel => exact ⟨k + 1, ⟨b, b, 1 + R4⟩, by omega, by go_num, HN, x_a, B_w8, BL⟩
        case measure => simp [intOf]; omega
    case neg =>
      by_cases hp2 : a.Prom ≤ b ∧ 0 < b
      case pos =>
        by_cases he : R2 = 0
        case pos =>
          have g9 : (R2 == 0) = true := by simpa using he
          replace he : R2 ≤ 0 := by omega
          have PX : Hid (accPrepB a b = false ∧ accPrep a b = accZ) := prep_no (by omega)
          have PY : Hid (accTakeB a b (1 + R4) = true ∧ accTake a b (1 + R4) = ⟨b, b, 1 + R4⟩) := take_yes HA.out (by omega) (by omega)
          have g1 : decide (a.Prom < b) = false := decide_eq_false (by omega)
          have g2 : decide (a.Prom ≤ b) = true := decide_eq_true (by omega)
          have g3 : decide (0 < b) = true := decide_eq_true (by omega)
          go_wp2_with fail
          refine (iAccPrep_c (a := a) (b := b) (ov_acc (d := a) (lo := 0) (hi := 0) (Nat.zero_le _)).rd (by omega)).mono ?_
          rintro e w3 ⟨v2, rfl, o_x, h_w3⟩
          clear c_a_0_wr f_a_0_wr c_a_1_wr f_a_1_wr c_a_2_wr f_a_2_wr
          replace x_a := x_a.from_ h_w3
          have B_w3 := HB.trans (h_w3.mono HB.size)
          have s_w3 := h_w3.size
          replace BL := BL.trans (h_w3.mono BL.size)
          rw [PX.out.2] at o_x
          rw [PX.out.1]
          obtain rfl := rv_acc o_x.rd
          clear o_x
          have c_a_0_w3 := x_a.cell (i := 0) rfl
          have f_a_0_w3 := x_a.frozen 0
          have c_a_1_w3 := x_a.cell (i := 1) rfl
          have f_a_1_w3 := x_a.frozen 1
          have c_a_2_w3 := x_a.cell (i := 2) rfl
          have f_a_2_w3 := x_a.frozen 2
          obtain ⟨w4, e_w4, s_w4, h_w4, x_x⟩ := alloc_step w3 33 [.int .i64 accZ.Prom, .int .i64 accZ.Bal, .int .i64 accZ.Val]
          have s_w4_1 := Nat.le_of_eq s_w4
          have s_w4_2 := Nat.le_of_eq s_w4.symm
          clear s_w4
          replace x_a := x_a.from_ h_w4
          have B_w4 := B_w3.trans (h_w4.mono B_w3.size)
          replace BL := BL.trans (h_w4.mono BL.size)
          have c_a_0_w4 := x_a.cell (i := 0) rfl
          have f_a_0_w4 := x_a.frozen 0
          have c_a_1_w4 := x_a.cell (i := 1) rfl
          have f_a_1_w4 := x_a.frozen 1
          have c_a_2_w4 := x_a.cell (i := 2) rfl
          have f_a_2_w4 := x_a.frozen 2
          have c_x_0_w4 := x_x.cell (i := 0) rfl
          have f_x_0_w4 := x_x.frozen 0
          have c_x_1_w4 := x_x.cell (i := 1) rfl
          have f_x_1_w4 := x_x.frozen 1
          have c_x_2_w4 := x_x.cell (i := 2) rfl
          have f_x_2_w4 := x_x.frozen 2
          go_wp2_with fail
          refine (iAccTake_c (a := a) (b := b) (u := 1 + R4) (ov_acc (d := a) (lo := 0) (hi := 0) (Nat.zero_le _)).rd (by omega) (by omega)).mono ?_
          rintro e w5 ⟨v3, rfl, o_y, h_w5⟩
          clear c_a_0_w3 f_a_0_w3 c_a_1_w3 f_a_1_w3 c_a_2_w3 f_a_2_w3 c_a_0_w4 f_a_0_w4 c_a_1_w4 f_a_1_w4 c_a_2_w4 f_a_2_w4 c_x_0_w4 f_x_0_w4 c_x_1_w4 f_x_1_w4 c_x_2_w4 f_x_2_w4
          replace x_a := x_a.from_ h_w5
          replace x_x := x_x.from_ h_w5
          have B_w5 := B_w4.trans (h_w5.mono B_w4.size)
          have s_w5 := h_w5.size
          replace BL := BL.trans (h_w5.mono BL.size)
          rw [PY.out.2] at o_y
          rw [PY.out.1]
          obtain rfl := rv_acc o_y.rd
          clear o_y
          have c_a_0_w5 := x_a.cell (i := 0) rfl
          have f_a_0_w5 := x_a.frozen 0
          have c_a_1_w5 := x_a.cell (i := 1) rfl
          have f_a_1_w5 := x_a.frozen 1
          have c_a_2_w5 := x_a.cell (i := 2) rfl
          have f_a_2_w5 := x_a.frozen 2
          have c_x_0_w5 := x_x.cell (i := 0) rfl
          have f_x_0_w5 := x_x.frozen 0
          have c_x_1_w5 := x_x.cell (i := 1) rfl
          have f_x_1_w5 := x_x.frozen 1
          have c_x_2_w5 := x_x.cell (i := 2) rfl
          have f_x_2_w5 := x_x.frozen 2
          obtain ⟨w6, e_w6, s_w6, h_w6, x_y⟩ := alloc_step w5 33 [.int .i64 b, .int .i64 b, .int .i64 (1 + R4)]
          have s_w6_1 := Nat.le_of_eq s_w6
          have s_w6_2 := Nat.le_of_eq s_w6.symm
          clear s_w6
          replace x_a := x_a.from_ h_w6
          replace x_x := x_x.from_ h_w6
          have B_w6 := B_w5.trans (h_w6.mono B_w5.size)
          replace BL := BL.trans (h_w6.mono BL.size)
          have c_a_0_w6 := x_a.cell (i := 0) rfl
          have f_a_0_w6 := x_a.frozen 0
          have c_a_1_w6 := x_a.cell (i := 1) rfl
          have f_a_1_w6 := x_a.frozen 1
          have c_a_2_w6 := x_a.cell (i := 2) rfl
          have f_a_2_w6 := x_a.frozen 2
          have c_x_0_w6 := x_x.cell (i := 0) rfl
          have f_x_0_w6 := x_x.frozen 0
          have c_x_1_w6 := x_x.cell (i := 1) rfl
          have f_x_1_w6 := x_x.frozen 1
          have c_x_2_w6 := x_x.cell (i := 2) rfl
          have f_x_2_w6 := x_x.frozen 2
          have c_y_0_w6 := x_y.cell (i := 0) rfl
          have f_y_0_w6 := x_y.frozen 0
          have c_y_1_w6 := x_y.cell (i := 1) rfl
          have f_y_1_w6 := x_y.frozen 1
          have c_y_2_w6 := x_y.cell (i := 2) rfl
          have f_y_2_w6 := x_y.frozen 2
          have HN : Hid (accOkB ⟨b, b, 1 + R4⟩ = true) := acc_new (by omega) (by omega)
          obtain ⟨w7, e_w7, s_w7, h_w7, y⟩ := store_step x_a [.int .i64 b, .int .i64 b, .int .i64 (1 + R4)] rfl
          replace e_w7 : (((w6.setCell ⟨w1.heap.size, 0, none⟩ (.int .i64 b)).setCell ⟨w1.heap.size, 1, none⟩ (.int .i64 b)).setCell ⟨w1.heap.size, 2, none⟩ (.int .i64 (1 + R4))) = w7 := e_w7
          have s_w7_1 := Nat.le_of_eq s_w7
          have s_w7_2 := Nat.le_of_eq s_w7.symm
          clear s_w7
          replace x_x := x_x.chg h_w7 (by omega)
          replace x_y := x_y.chg h_w7 (by omega)
          have B_w7 := Below.chg_ B_w6 h_w7 (by omega) (by omega)
          replace BL := Below.chg_ BL h_w7 (by omega) (by omega)
          replace x_a : Vr w7 (w1.heap.size) 33 [.int .i64 b, .int .i64 b, .int .i64 (1 + R4)] := y
          clear y
          have c_a_0_w7 := x_a.cell (i := 0) rfl
          have f_a_0_w7 := x_a.frozen 0
          have c_a_1_w7 := x_a.cell (i := 1) rfl
          have f_a_1_w7 := x_a.frozen 1
          have c_a_2_w7 := x_a.cell (i := 2) rfl
          have f_a_2_w7 := x_a.frozen 2
          have c_x_0_w7 := x_x.cell (i := 0) rfl
          have f_x_0_w7 := x_x.frozen 0
          have c_x_1_w7 := x_x.cell (i := 1) rfl
          have f_x_1_w7 := x_x.frozen 1
          have c_x_2_w7 := x_x.cell (i := 2) rfl
          have f_x_2_w7 := x_x.frozen 2
          have c_y_0_w7 := x_y.cell (i := 0) rfl
          have f_y_0_w7 := x_y.frozen 0
          have c_y_1_w7 := x_y.cell (i := 1) rfl
          have f_y_1_w7 := x_y.frozen 1
          have c_y_2_w7 := x_y.cell (i := 2) rfl
          have f_y_2_w7 := x_y.frozen 2
          go_wp2_with fail
          refine (iAccOk_c (a := ⟨b, b, 1 + R4⟩) (ov_acc (d := ⟨b, b, 1 + R4⟩) (lo := 0) (hi := 0) (Nat.zero_le _)).rd).mono ?_
          rintro e w8 ⟨rfl, h_w8⟩
          clear c_a_0_w5 f_a_0_w5 c_a_1_w5 f_a_1_w5 c_a_2_w5 f_a_2_w5 c_x_0_w5 f_x_0_w5 c_x_1_w5 f_x_1_w5 c_x_2_w5 f_x_2_w5 c_a_0_w6 f_a_0_w6 c_a_1_w6 f_a_1_w6 c_a_2_w6 f_a_2_w6 c_x_0_w6 f_x_0_w6 c_x_1_w6 f_x_1_w6 c_x_2_w6 f_x_2_w6 c_y_0_w6 f_y_0_w6 c_y_1_w6 f_y_1_w6 c_y_2_w6 f_y_2_w6 c_a_0_w7 f_a_0_w7 c_a_1_w7 f_a_1_w7 c_a_2_w7 f_a_2_w7 c_x_0_w7 f_x_0_w7 c_x_1_w7 f_x_1_w7 c_x_2_w7 f_x_2_w7 c_y_0_w7 f_y_0_w7 c_y_1_w7 f_y_1_w7 c_y_2_w7 f_y_2_w7
          replace x_a := x_a.from_ h_w8
          replace x_x := x_x.from_ h_w8
          replace x_y := x_y.from_ h_w8
          have B_w8 := B_w7.trans (h_w8.mono B_w7.size)
          have s_w8 := h_w8.size
          replace BL := BL.trans (h_w8.mono BL.size)
          rw [HN.out]
          skip
          go_wp2
          go_roundw
          case rel => exact ⟨k + 1, ⟨b, b, 1 + R4⟩, by omega, by go_num, HN, x_a, B_w8, BL⟩
          case measure => simp [intOf]; omega
        case neg =>
          have g9 : (R2 == 0) = false := by simpa using he
          replace he : 0 < R2 := by omega
          have PX : Hid (accPrepB a b = false ∧ accPrep a b = accZ) := prep_no (by omega)
          have PY : Hid (accTakeB a b (1 + R4) = true ∧ accTake a b (1 + R4) = ⟨b, b, 1 + R4⟩) := take_yes HA.out (by omega) (by omega)
          have g1 : decide (a.Prom < b) = false := decide_eq_false (by omega)
          have g2 : decide (a.Prom ≤ b) = true := decide_eq_true (by omega)
          have g3 : decide (0 < b) = true := decide_eq_true (by omega)
          go_wp2_with fail
          refine (iAccPrep_c (a := a) (b := b) (ov_acc (d := a) (lo := 0) (hi := 0) (Nat.zero_le _)).rd (by omega)).mono ?_
          rintro e w3 ⟨v2, rfl, o_x, h_w3⟩
          clear c_a_0_wr f_a_0_wr c_a_1_wr f_a_1_wr c_a_2_wr f_a_2_wr
          replace x_a := x_a.from_ h_w3
          have B_w3 := HB.trans (h_w3.mono HB.size)
          have s_w3 := h_w3.size
          replace BL := BL.trans (h_w3.mono BL.size)
          rw [PX.out.2] at o_x
          rw [PX.out.1]
          obtain rfl := rv_acc o_x.rd
          clear o_x
          have c_a_0_w3 := x_a.cell (i := 0) rfl
          have f_a_0_w3 := x_a.frozen 0
          have c_a_1_w3 := x_a.cell (i := 1) rfl
          have f_a_1_w3 := x_a.frozen 1
          have c_a_2_w3 := x_a.cell (i := 2) rfl
          have f_a_2_w3 := x_a.frozen 2
          obtain ⟨w4, e_w4, s_w4, h_w4, x_x⟩ := alloc_step w3 33 [.int .i64 accZ.Prom, .int .i64 accZ.Bal, .int .i64 accZ.Val]
          have s_w4_1 := Nat.le_of_eq s_w4
          have s_w4_2 := Nat.le_of_eq s_w4.symm
          clear s_w4
          replace x_a := x_a.from_ h_w4
          have B_w4 := B_w3.trans (h_w4.mono B_w3.size)
          replace BL := BL.trans (h_w4.mono BL.size)
          have c_a_0_w4 := x_a.cell (i := 0) rfl
          have f_a_0_w4 := x_a.frozen 0
          have c_a_1_w4 := x_a.cell (i := 1) rfl
          have f_a_1_w4 := x_a.frozen 1
          have c_a_2_w4 := x_a.cell (i := 2) rfl
          have f_a_2_w4 := x_a.frozen 2
          have c_x_0_w4 := x_x.cell (i := 0) rfl
          have f_x_0_w4 := x_x.frozen 0
          have c_x_1_w4 := x_x.cell (i := 1) rfl
          have f_x_1_w4 := x_x.frozen 1
          have c_x_2_w4 := x_x.cell (i := 2) rfl
          have f_x_2_w4 := x_x.frozen 2
          go_wp2_with fail
          refine (iAccTake_c (a := a) (b := b) (u := 1 + R4) (ov_acc (d := a) (lo := 0) (hi := 0) (Nat.zero_le _)).rd (by omega) (by omega)).mono ?_
          rintro e w5 ⟨v3, rfl, o_y, h_w5⟩
          clear c_a_0_w3 f_a_0_w3 c_a_1_w3 f_a_1_w3 c_a_2_w3 f_a_2_w3 c_a_0_w4 f_a_0_w4 c_a_1_w4 f_a_1_w4 c_a_2_w4 f_a_2_w4 c_x_0_w4 f_x_0_w4 c_x_1_w4 f_x_1_w4 c_x_2_w4 f_x_2_w4
          replace x_a := x_a.from_ h_w5
          replace x_x := x_x.from_ h_w5
          have B_w5 := B_w4.trans (h_w5.mono B_w4.size)
          have s_w5 := h_w5.size
          replace BL := BL.trans (h_w5.mono BL.size)
          rw [PY.out.2] at o_y
          rw [PY.out.1]
          obtain rfl := rv_acc o_y.rd
          clear o_y
          have c_a_0_w5 := x_a.cell (i := 0) rfl
          have f_a_0_w5 := x_a.frozen 0
          have c_a_1_w5 := x_a.cell (i := 1) rfl
          have f_a_1_w5 := x_a.frozen 1
          have c_a_2_w5 := x_a.cell (i := 2) rfl
          have f_a_2_w5 := x_a.frozen 2
          have c_x_0_w5 := x_x.cell (i := 0) rfl
          have f_x_0_w5 := x_x.frozen 0
          have c_x_1_w5 := x_x.cell (i := 1) rfl
          have f_x_1_w5 := x_x.frozen 1
          have c_x_2_w5 := x_x.cell (i := 2) rfl
          have f_x_2_w5 := x_x.frozen 2
          obtain ⟨w6, e_w6, s_w6, h_w6, x_y⟩ := alloc_step w5 33 [.int .i64 b, .int .i64 b, .int .i64 (1 + R4)]
          have s_w6_1 := Nat.le_of_eq s_w6
          have s_w6_2 := Nat.le_of_eq s_w6.symm
          clear s_w6
          replace x_a := x_a.from_ h_w6
          replace x_x := x_x.from_ h_w6
          have B_w6 := B_w5.trans (h_w6.mono B_w5.size)
          replace BL := BL.trans (h_w6.mono BL.size)
          have c_a_0_w6 := x_a.cell (i := 0) rfl
          have f_a_0_w6 := x_a.frozen 0
          have c_a_1_w6 := x_a.cell (i := 1) rfl
          have f_a_1_w6 := x_a.frozen 1
          have c_a_2_w6 := x_a.cell (i := 2) rfl
          have f_a_2_w6 := x_a.frozen 2
          have c_x_0_w6 := x_x.cell (i := 0) rfl
          have f_x_0_w6 := x_x.frozen 0
          have c_x_1_w6 := x_x.cell (i := 1) rfl
          have f_x_1_w6 := x_x.frozen 1
          have c_x_2_w6 := x_x.cell (i := 2) rfl
          have f_x_2_w6 := x_x.frozen 2
          have c_y_0_w6 := x_y.cell (i := 0) rfl
          have f_y_0_w6 := x_y.frozen 0
          have c_y_1_w6 := x_y.cell (i := 1) rfl
          have f_y_1_w6 := x_y.frozen 1
          have c_y_2_w6 := x_y.cell (i := 2) rfl
          have f_y_2_w6 := x_y.frozen 2
          have HN : Hid (accOkB ⟨b, b, 1 + R4⟩ = true) := acc_new (by omega) (by omega)
          obtain ⟨w7, e_w7, s_w7, h_w7, y⟩ := store_step x_a [.int .i64 b, .int .i64 b, .int .i64 (1 + R4)] rfl
          replace e_w7 : (((w6.setCell ⟨w1.heap.size, 0, none⟩ (.int .i64 b)).setCell ⟨w1.heap.size, 1, none⟩ (.int .i64 b)).setCell ⟨w1.heap.size, 2, none⟩ (.int .i64 (1 + R4))) = w7 := e_w7
          have s_w7_1 := Nat.le_of_eq s_w7
          have s_w7_2 := Nat.le_of_eq s_w7.symm
          clear s_w7
          replace x_x := x_x.chg h_w7 (by omega)
          replace x_y := x_y.chg h_w7 (by omega)
          have B_w7 := Below.chg_ B_w6 h_w7 (by omega) (by omega)
          replace BL := Below.chg_ BL h_w7 (by omega) (by omega)
          replace x_a : Vr w7 (w1.heap.size) 33 [.int .i64 b, .int .i64 b, .int .i64 (1 + R4)] := y
          clear y
          have c_a_0_w7 := x_a.cell (i := 0) rfl
          have f_a_0_w7 := x_a.frozen 0
          have c_a_1_w7 := x_a.cell (i := 1) rfl
          have f_a_1_w7 := x_a.frozen 1
          have c_a_2_w7 := x_a.cell (i := 2) rfl
          have f_a_2_w7 := x_a.frozen 2
          have c_x_0_w7 := x_x.cell (i := 0) rfl
          have f_x_0_w7 := x_x.frozen 0
          have c_x_1_w7 := x_x.cell (i := 1) rfl
          have f_x_1_w7 := x_x.frozen 1
          have c_x_2_w7 := x_x.cell (i := 2) rfl
          have f_x_2_w7 := x_x.frozen 2
          have c_y_0_w7 := x_y.cell (i := 0) rfl
          have f_y_0_w7 := x_y.frozen 0
          have c_y_1_w7 := x_y.cell (i := 1) rfl
          have f_y_1_w7 := x_y.frozen 1
          have c_y_2_w7 := x_y.cell (i := 2) rfl
          have f_y_2_w7 := x_y.frozen 2
          go_wp2_with fail
          refine (iAccOk_c (a := ⟨b, b, 1 + R4⟩) (ov_acc (d := ⟨b, b, 1 + R4⟩) (lo := 0) (hi := 0) (Nat.zero_le _)).rd).mono ?_
          rintro e w8 ⟨rfl, h_w8⟩
          clear c_a_0_w5 f_a_0_w5 c_a_1_w5 f_a_1_w5 c_a_2_w5 f_a_2_w5 c_x_0_w5 f_x_0_w5 c_x_1_w5 f_x_1_w5 c_x_2_w5 f_x_2_w5 c_a_0_w6 f_a_0_w6 c_a_1_w6 f_a_1_w6 c_a_2_w6 f_a_2_w6 c_x_0_w6 f_x_0_w6 c_x_1_w6 f_x_1_w6 c_x_2_w6 f_x_2_w6 c_y_0_w6 f_y_0_w6 c_y_1_w6 f_y_1_w6 c_y_2_w6 f_y_2_w6 c_a_0_w7 f_a_0_w7 c_a_1_w7 f_a_1_w7 c_a_2_w7 f_a_2_w7 c_x_0_w7 f_x_0_w7 c_x_1_w7 f_x_1_w7 c_x_2_w7 f_x_2_w7 c_y_0_w7 f_y_0_w7 c_y_1_w7 f_y_1_w7 c_y_2_w7 f_y_2_w7
          replace x_a := x_a.from_ h_w8
          replace x_x := x_x.from_ h_w8
          replace x_y := x_y.from_ h_w8
          have B_w8 := B_w7.trans (h_w8.mono B_w7.size)
          have s_w8 := h_w8.size
          replace BL := BL.trans (h_w8.mono BL.size)
          rw [HN.out]
          skip
          go_wp2
          go_roundw
          case rel => exact ⟨k + 1, ⟨b, b, 1 + R4⟩, by omega, by go_num, HN, x_a, B_w8, BL⟩
          case measure => simp [intOf]; omega
      case neg =>
        by_cases hq : a.Prom ≤ b
        case pos =>
          have g2 : decide (a.Prom ≤ b) = true := decide_eq_true hq
          have g3 : decide (0 < b) = false := decide_eq_false (by omega)
          by_cases he : R2 = 0
          case pos =>
            have g9 : (R2 == 0) = true := by simpa using he
            replace he : R2 ≤ 0 := by omega
            have PX : Hid (accPrepB a b = false ∧ accPrep a b = accZ) := prep_no (by omega)
            have PY : Hid (accTakeB a b (1 + R4) = false ∧ accTake a b (1 + R4) = accZ) := take_no (by omega)
            have g1 : decide (a.Prom < b) = false := decide_eq_false (by omega)
            go_wp2_with fail
            refine (iAccPrep_c (a := a) (b := b) (ov_acc (d := a) (lo := 0) (hi := 0) (Nat.zero_le _)).rd (by omega)).mono ?_
            rintro e w3 ⟨v2, rfl, o_x, h_w3⟩
            clear c_a_0_wr f_a_0_wr c_a_1_wr f_a_1_wr c_a_2_wr f_a_2_wr
            replace x_a := x_a.from_ h_w3
            have B_w3 := HB.trans (h_w3.mono HB.size)
            have s_w3 := h_w3.size
            replace BL := BL.trans (h_w3.mono BL.size)
            rw [PX.out.2] at o_x
            rw [PX.out.1]
            obtain rfl := rv_acc o_x.rd
            clear o_x
            have c_a_0_w3 := x_a.cell (i := 0) rfl
            have f_a_0_w3 := x_a.frozen 0
            have c_a_1_w3 := x_a.cell (i := 1) rfl
            have f_a_1_w3 := x_a.frozen 1
            have c_a_2_w3 := x_a.cell (i := 2) rfl
            have f_a_2_w3 := x_a.frozen 2
            obtain ⟨w4, e_w4, s_w4, h_w4, x_x⟩ := alloc_step w3 33 [.int .i64 accZ.Prom, .int .i64 accZ.Bal, .int .i64 accZ.Val]
            have s_w4_1 := Nat.le_of_eq s_w4
            have s_w4_2 := Nat.le_of_eq s_w4.symm
            clear s_w4
            replace x_a := x_a.from_ h_w4
            have B_w4 := B_w3.trans (h_w4.mono B_w3.size)
            replace BL := BL.trans (h_w4.mono BL.size)
            have c_a_0_w4 := x_a.cell (i := 0) rfl
            have f_a_0_w4 := x_a.frozen 0
            have c_a_1_w4 := x_a.cell (i := 1) rfl
            have f_a_1_w4 := x_a.frozen 1
            have c_a_2_w4 := x_a.cell (i := 2) rfl
            have f_a_2_w4 := x_a.frozen 2
            have c_x_0_w4 := x_x.cell (i := 0) rfl
            have f_x_0_w4 := x_x.frozen 0
            have c_x_1_w4 := x_x.cell (i := 1) rfl
            have f_x_1_w4 := x_x.frozen 1
            have c_x_2_w4 := x_x.cell (i := 2) rfl
            have f_x_2_w4 := x_x.frozen 2
            go_wp2_with fail
            refine (iAccTake_c (a := a) (b := b) (u := 1 + R4) (ov_acc (d := a) (lo := 0) (hi := 0) (Nat.zero_le _)).rd (by omega) (by omega)).mono ?_
            rintro e w5 ⟨v3, rfl, o_y, h_w5⟩
            clear c_a_0_w3 f_a_0_w3 c_a_1_w3 f_a_1_w3 c_a_2_w3 f_a_2_w3 c_a_0_w4 f_a_0_w4 c_a_1_w4 f_a_1_w4 c_a_2_w4 f_a_2_w4 c_x_0_w4 f_x_0_w4 c_x_1_w4 f_x_1_w4 c_x_2_w4 f_x_2_w4
            replace x_a := x_a.from_ h_w5
            replace x_x := x_x.from_ h_w5
            have B_w5 := B_w4.trans (h_w5.mono B_w4.size)
            have s_w5 := h_w5.size
            replace BL := BL.trans (h_w5.mono BL.size)
            rw [PY.out.2] at o_y
            rw [PY.out.1]
            obtain rfl := rv_acc o_y.rd
            clear o_y
            have c_a_0_w5 := x_a.cell (i := 0) rfl
            have f_a_0_w5 := x_a.frozen 0
            have c_a_1_w5 := x_a.cell (i := 1) rfl
            have f_a_1_w5 := x_a.frozen 1
            have c_a_2_w5 := x_a.cell (i := 2) rfl
            have f_a_2_w5 := x_a.frozen 2
            have c_x_0_w5 := x_x.cell (i := 0) rfl
            have f_x_0_w5 := x_x.frozen 0
            have c_x_1_w5 := x_x.cell (i := 1) rfl
            have f_x_1_w5 := x_x.frozen 1
            have c_x_2_w5 := x_x.cell (i := 2) rfl
            have f_x_2_w5 := x_x.frozen 2
            obtain ⟨w6, e_w6, s_w6, h_w6, x_y⟩ := alloc_step w5 33 [.int .i64 accZ.Prom, .int .i64 accZ.Bal, .int .i64 accZ.Val]
            have s_w6_1 := Nat.le_of_eq s_w6
            have s_w6_2 := Nat.le_of_eq s_w6.symm
            clear s_w6
            replace x_a := x_a.from_ h_w6
            replace x_x := x_x.from_ h_w6
            have B_w6 := B_w5.trans (h_w6.mono B_w5.size)
            replace BL := BL.trans (h_w6.mono BL.size)
            have c_a_0_w6 := x_a.cell (i := 0) rfl
            have f_a_0_w6 := x_a.frozen 0
            have c_a_1_w6 := x_a.cell (i := 1) rfl
            have f_a_1_w6 := x_a.frozen 1
            have c_a_2_w6 := x_a.cell (i := 2) rfl
            have f_a_2_w6 := x_a.frozen 2
            have c_x_0_w6 := x_x.cell (i := 0) rfl
            have f_x_0_w6 := x_x.frozen 0
            have c_x_1_w6 := x_x.cell (i := 1) rfl
            have f_x_1_w6 := x_x.frozen 1
            have c_x_2_w6 := x_x.cell (i := 2) rfl
            have f_x_2_w6 := x_x.frozen 2
            have c_y_0_w6 := x_y.cell (i := 0) rfl
            have f_y_0_w6 := x_y.frozen 0
            have c_y_1_w6 := x_y.cell (i := 1) rfl
            have f_y_1_w6 := x_y.frozen 1
            have c_y_2_w6 := x_y.cell (i := 2) rfl
            have f_y_2_w6 := x_y.frozen 2
            have HN : Hid (accOkB a = true) := HA.out
            go_wp2_with fail
            refine (iAccOk_c (a := a) (ov_acc (d := a) (lo := 0) (hi := 0) (Nat.zero_le _)).rd).mono ?_
            rintro e w7 ⟨rfl, h_w7⟩
            clear c_a_0_w5 f_a_0_w5 c_a_1_w5 f_a_1_w5 c_a_2_w5 f_a_2_w5 c_x_0_w5 f_x_0_w5 c_x_1_w5 f_x_1_w5 c_x_2_w5 f_x_2_w5 c_a_0_w6 f_a_0_w6 c_a_1_w6 f_a_1_w6 c_a_2_w6 f_a_2_w6 c_x_0_w6 f_x_0_w6 c_x_1_w6 f_x_1_w6 c_x_2_w6 f_x_2_w6 c_y_0_w6 f_y_0_w6 c_y_1_w6 f_y_1_w6 c_y_2_w6 f_y_2_w6
            replace x_a := x_a.from_ h_w7
            replace x_x := x_x.from_ h_w7
            replace x_y := x_y.from_ h_w7
            have B_w7 := B_w6.trans (h_w7.mono B_w6.size)
            have s_w7 := h_w7.size
            replace BL := BL.trans (h_w7.mono BL.size)
            rw [HN.out]
            skip
            go_wp2
            go_roundw
            case rel => exact ⟨k + 1, a, by omega, by go_num, HN, x_a, B_w7, BL⟩
            case measure => simp [intOf]; omega
          case neg =>
            have g9 : (R2 == 0) = false := by simpa using he
            replace he : 0 < R2 := by omega
            have PX : Hid (accPrepB a b = false ∧ accPrep a b = accZ) := prep_no (by omega)
            have PY : Hid (accTakeB a b (1 + R4) = false ∧ accTake a b (1 + R4) = accZ) := take_no (by omega)
            have g1 : decide (a.Prom < b) = false := decide_eq_false (by omega)
            go_wp2_with fail
            refine (iAccPrep_c (a := a) (b := b) (ov_acc (d := a) (lo := 0) (hi := 0) (Nat.zero_le _)).rd (by omega)).mono ?_
            rintro e w3 ⟨v2, rfl, o_x, h_w3⟩
            clear c_a_0_wr f_a_0_wr c_a_1_wr f_a_1_wr c_a_2_wr f_a_2_wr
            replace x_a := x_a.from_ h_w3
            have B_w3 := HB.trans (h_w3.mono HB.size)
            have s_w3 := h_w3.size
            replace BL := BL.trans (h_w3.mono BL.size)
            rw [PX.out.2] at o_x
            rw [PX.out.1]
            obtain rfl := rv_acc o_x.rd
            clear o_x
            have c_a_0_w3 := x_a.cell (i := 0) rfl
            have f_a_0_w3 := x_a.frozen 0
            have c_a_1_w3 := x_a.cell (i := 1) rfl
            have f_a_1_w3 := x_a.frozen 1
            have c_a_2_w3 := x_a.cell (i := 2) rfl
            have f_a_2_w3 := x_a.frozen 2
            obtain ⟨w4, e_w4, s_w4, h_w4, x_x⟩ := alloc_step w3 33 [.int .i64 accZ.Prom, .int .i64 accZ.Bal, .int .i64 accZ.Val]
            have s_w4_1 := Nat.le_of_eq s_w4
            have s_w4_2 := Nat.le_of_eq s_w4.symm
            clear s_w4
            replace x_a := x_a.from_ h_w4
            have B_w4 := B_w3.trans (h_w4.mono B_w3.size)
            replace BL := BL.trans (h_w4.mono BL.size)
            have c_a_0_w4 := x_a.cell (i := 0) rfl
            have f_a_0_w4 := x_a.frozen 0
            have c_a_1_w4 := x_a.cell (i := 1) rfl
            have f_a_1_w4 := x_a.frozen 1
            have c_a_2_w4 := x_a.cell (i := 2) rfl
            have f_a_2_w4 := x_a.frozen 2
            have c_x_0_w4 := x_x.cell (i := 0) rfl
            have f_x_0_w4 := x_x.frozen 0
            have c_x_1_w4 := x_x.cell (i := 1) rfl
            have f_x_1_w4 := x_x.frozen 1
            have c_x_2_w4 := x_x.cell (i := 2) rfl
            have f_x_2_w4 := x_x.frozen 2
            go_wp2_with fail
            refine (iAccTake_c (a := a) (b := b) (u := 1 + R4) (ov_acc (d := a) (lo := 0) (hi := 0) (Nat.zero_le _)).rd (by omega) (by omega)).mono ?_
            rintro e w5 ⟨v3, rfl, o_y, h_w5⟩
            clear c_a_0_w3 f_a_0_w3 c_a_1_w3 f_a_1_w3 c_a_2_w3 f_a_2_w3 c_a_0_w4 f_a_0_w4 c_a_1_w4 f_a_1_w4 c_a_2_w4 f_a_2_w4 c_x_0_w4 f_x_0_w4 c_x_1_w4 f_x_1_w4 c_x_2_w4 f_x_2_w4
            replace x_a := x_a.from_ h_w5
            replace x_x := x_x.from_ h_w5
            have B_w5 := B_w4.trans (h_w5.mono B_w4.size)
            have s_w5 := h_w5.size
            replace BL := BL.trans (h_w5.mono BL.size)
            rw [PY.out.2] at o_y
            rw [PY.out.1]
            obtain rfl := rv_acc o_y.rd
            clear o_y
            have c_a_0_w5 := x_a.cell (i := 0) rfl
            have f_a_0_w5 := x_a.frozen 0
            have c_a_1_w5 := x_a.cell (i := 1) rfl
            have f_a_1_w5 := x_a.frozen 1
            have c_a_2_w5 := x_a.cell (i := 2) rfl
            have f_a_2_w5 := x_a.frozen 2
            have c_x_0_w5 := x_x.cell (i := 0) rfl
            have f_x_0_w5 := x_x.frozen 0
            have c_x_1_w5 := x_x.cell (i := 1) rfl
            have f_x_1_w5 := x_x.frozen 1
            have c_x_2_w5 := x_x.cell (i := 2) rfl
            have f_x_2_w5 := x_x.frozen 2
            obtain ⟨w6, e_w6, s_w6, h_w6, x_y⟩ := alloc_step w5 33 [.int .i64 accZ.Prom, .int .i64 accZ.Bal, .int .i64 accZ.Val]
            have s_w6_1 := Nat.le_of_eq s_w6
            have s_w6_2 := Nat.le_of_eq s_w6.symm
            clear s_w6
            replace x_a := x_a.from_ h_w6
            replace x_x := x_x.from_ h_w6
            have B_w6 := B_w5.trans (h_w6.mono B_w5.size)
            replace BL := BL.trans (h_w6.mono BL.size)
            have c_a_0_w6 := x_a.cell (i := 0) rfl
            have f_a_0_w6 := x_a.frozen 0
            have c_a_1_w6 := x_a.cell (i := 1) rfl
            have f_a_1_w6 := x_a.frozen 1
            have c_a_2_w6 := x_a.cell (i := 2) rfl
            have f_a_2_w6 := x_a.frozen 2
            have c_x_0_w6 := x_x.cell (i := 0) rfl
            have f_x_0_w6 := x_x.frozen 0
            have c_x_1_w6 := x_x.cell (i := 1) rfl
            have f_x_1_w6 := x_x.frozen 1
            have c_x_2_w6 := x_x.cell (i := 2) rfl
            have f_x_2_w6 := x_x.frozen 2
            have c_y_0_w6 := x_y.cell (i := 0) rfl
            have f_y_0_w6 := x_y.frozen 0
            have c_y_1_w6 := x_y.cell (i := 1) rfl
            have f_y_1_w6 := x_y.frozen 1
            have c_y_2_w6 := x_y.cell (i := 2) rfl
            have f_y_2_w6 := x_y.frozen 2
            have HN : Hid (accOkB a = true) := HA.out
            go_wp2_with fail
            refine (iAccOk_c (a := a) (ov_acc (d := a) (lo := 0) (hi := 0) (Nat.zero_le _)).rd).mono ?_
            rintro e w7 ⟨rfl, h_w7⟩
            clear c_a_0_w5 f_a_0_w5 c_a_1_w5 f_a_1_w5 c_a_2_w5 f_a_2_w5 c_x_0_w5 f_x_0_w5 c_x_1_w5 f_x_1_w5 c_x_2_w5 f_x_2_w5 c_a_0_w6 f_a_0_w6 c_a_1_w6 f_a_1_w6 c_a_2_w6 f_a_2_w6 c_x_0_w6 f_x_0_w6 c_x_1_w6 f_x_1_w6 c_x_2_w6 f_x_2_w6 c_y_0_w6 f_y_0_w6 c_y_1_w6 f_y_1_w6 c_y_2_w6 f_y_2_w6
            replace x_a := x_a.from_ h_w7
            replace x_x := x_x.from_ h_w7
            replace x_y := x_y.from_ h_w7
            have B_w7 := B_w6.trans (h_w7.mono B_w6.size)
            have s_w7 := h_w7.size
            replace BL := BL.trans (h_w7.mono BL.size)
            rw [HN.out]
            skip
            go_wp2
            go_roundw
            case rel => exact ⟨k + 1, a, by omega, by go_num, HN, x_a, B_w7, BL⟩
            case measure => simp [intOf]; omega
        case neg =>
          have g2 : decide (a.Prom ≤ b) = false := decide_eq_false hq
          by_cases he : R2 = 0
          case pos =>
            have g9 : (R2 == 0) = true := by simpa using he
            replace he : R2 ≤ 0 := by omega
            have PX : Hid (accPrepB a b = false ∧ accPrep a b = accZ) := prep_no (by omega)
            have PY : Hid (accTakeB a b (1 + R4) = false ∧ accTake a b (1 + R4) = accZ) := take_no (by omega)
            have g1 : decide (a.Prom < b) = false := decide_eq_false (by omega)
            go_wp2_with fail
            refine (iAccPrep_c (a := a) (b := b) (ov_acc (d := a) (lo := 0) (hi := 0) (Nat.zero_le _)).rd (by omega)).mono ?_
            rintro e w3 ⟨v2, rfl, o_x, h_w3⟩
            clear c_a_0_wr f_a_0_wr c_a_1_wr f_a_1_wr c_a_2_wr f_a_2_wr
            replace x_a := x_a.from_ h_w3
            have B_w3 := HB.trans (h_w3.mono HB.size)
            have s_w3 := h_w3.size
            replace BL := BL.trans (h_w3.mono BL.size)
            rw [PX.out.2] at o_x
            rw [PX.out.1]
            obtain rfl := rv_acc o_x.rd
            clear o_x
            have c_a_0_w3 := x_a.cell (i := 0) rfl
            have f_a_0_w3 := x_a.frozen 0
            have c_a_1_w3 := x_a.cell (i := 1) rfl
            have f_a_1_w3 := x_a.frozen 1
            have c_a_2_w3 := x_a.cell (i := 2) rfl
            have f_a_2_w3 := x_a.frozen 2
            obtain ⟨w4, e_w4, s_w4, h_w4, x_x⟩ := alloc_step w3 33 [.int .i64 accZ.Prom, .int .i64 accZ.Bal, .int .i64 accZ.Val]
            have s_w4_1 := Nat.le_of_eq s_w4
            have s_w4_2 := Nat.le_of_eq s_w4.symm
            clear s_w4
            replace x_a := x_a.from_ h_w4
            have B_w4 := B_w3.trans (h_w4.mono B_w3.size)
            replace BL := BL.trans (h_w4.mono BL.size)
            have c_a_0_w4 := x_a.cell (i := 0) rfl
            have f_a_0_w4 := x_a.frozen 0
            have c_a_1_w4 := x_a.cell (i := 1) rfl
            have f_a_1_w4 := x_a.frozen 1
            have c_a_2_w4 := x_a.cell (i := 2) rfl
            have f_a_2_w4 := x_a.frozen 2
            have c_x_0_w4 := x_x.cell (i := 0) rfl
            have f_x_0_w4 := x_x.frozen 0
            have c_x_1_w4 := x_x.cell (i := 1) rfl
            have f_x_1_w4 := x_x.frozen 1
            have c_x_2_w4 := x_x.cell (i := 2) rfl
            have f_x_2_w4 := x_x.frozen 2
            go_wp2_with fail
            refine (iAccTake_c (a := a) (b := b) (u := 1 + R4) (ov_acc (d := a) (lo := 0) (hi := 0) (Nat.zero_le _)).rd (by omega) (by omega)).mono ?_
            rintro e w5 ⟨v3, rfl, o_y, h_w5⟩
            clear c_a_0_w3 f_a_0_w3 c_a_1_w3 f_a_1_w3 c_a_2_w3 f_a_2_w3 c_a_0_w4 f_a_0_w4 c_a_1_w4 f_a_1_w4 c_a_2_w4 f_a_2_w4 c_x_0_w4 f_x_0_w4 c_x_1_w4 f_x_1_w4 c_x_2_w4 f_x_2_w4
            replace x_a := x_a.from_ h_w5
            replace x_x := x_x.from_ h_w5
            have B_w5 := B_w4.trans (h_w5.mono B_w4.size)
            have s_w5 := h_w5.size
            replace BL := BL.trans (h_w5.mono BL.size)
            rw [PY.out.2] at o_y
            rw [PY.out.1]
            obtain rfl := rv_acc o_y.rd
            clear o_y
            have c_a_0_w5 := x_a.cell (i := 0) rfl
            have f_a_0_w5 := x_a.frozen 0
            have c_a_1_w5 := x_a.cell (i := 1) rfl
            have f_a_1_w5 := x_a.frozen 1
            have c_a_2_w5 := x_a.cell (i := 2) rfl
            have f_a_2_w5 := x_a.frozen 2
            have c_x_0_w5 := x_x.cell (i := 0) rfl
            have f_x_0_w5 := x_x.frozen 0
            have c_x_1_w5 := x_x.cell (i := 1) rfl
            have f_x_1_w5 := x_x.frozen 1
            have c_x_2_w5 := x_x.cell (i := 2) rfl
            have f_x_2_w5 := x_x.frozen 2
            obtain ⟨w6, e_w6, s_w6, h_w6, x_y⟩ := alloc_step w5 33 [.int .i64 accZ.Prom, .int .i64 accZ.Bal, .int .i64 accZ.Val]
            have s_w6_1 := Nat.le_of_eq s_w6
            have s_w6_2 := Nat.le_of_eq s_w6.symm
            clear s_w6
            replace x_a := x_a.from_ h_w6
            replace x_x := x_x.from_ h_w6
            have B_w6 := B_w5.trans (h_w6.mono B_w5.size)
            replace BL := BL.trans (h_w6.mono BL.size)
            have c_a_0_w6 := x_a.cell (i := 0) rfl
            have f_a_0_w6 := x_a.frozen 0
            have c_a_1_w6 := x_a.cell (i := 1) rfl
            have f_a_1_w6 := x_a.frozen 1
            have c_a_2_w6 := x_a.cell (i := 2) rfl
            have f_a_2_w6 := x_a.frozen 2
            have c_x_0_w6 := x_x.cell (i := 0) rfl
            have f_x_0_w6 := x_x.frozen 0
            have c_x_1_w6 := x_x.cell (i := 1) rfl
            have f_x_1_w6 := x_x.frozen 1
            have c_x_2_w6 := x_x.cell (i := 2) rfl
            have f_x_2_w6 := x_x.frozen 2
            have c_y_0_w6 := x_y.cell (i := 0) rfl
            have f_y_0_w6 := x_y.frozen 0
            have c_y_1_w6 := x_y.cell (i := 1) rfl
            have f_y_1_w6 := x_y.frozen 1
            have c_y_2_w6 := x_y.cell (i := 2) rfl
            have f_y_2_w6 := x_y.frozen 2
            have HN : Hid (accOkB a = true) := HA.out
            go_wp2_with fail
            refine (iAccOk_c (a := a) (ov_acc (d := a) (lo := 0) (hi := 0) (Nat.zero_le _)).rd).mono ?_
            rintro e w7 ⟨rfl, h_w7⟩
            clear c_a_0_w5 f_a_0_w5 c_a_1_w5 f_a_1_w5 c_a_2_w5 f_a_2_w5 c_x_0_w5 f_x_0_w5 c_x_1_w5 f_x_1_w5 c_x_2_w5 f_x_2_w5 c_a_0_w6 f_a_0_w6 c_a_1_w6 f_a_1_w6 c_a_2_w6 f_a_2_w6 c_x_0_w6 f_x_0_w6 c_x_1_w6 f_x_1_w6 c_x_2_w6 f_x_2_w6 c_y_0_w6 f_y_0_w6 c_y_1_w6 f_y_1_w6 c_y_2_w6 f_y_2_w6
            replace x_a := x_a.from_ h_w7
            replace x_x := x_x.from_ h_w7
            replace x_y := x_y.from_ h_w7
            have B_w7 := B_w6.trans (h_w7.mono B_w6.size)
            have s_w7 := h_w7.size
            replace BL := BL.trans (h_w7.mono BL.size)
            rw [HN.out]
            skip
            go_wp2
            go_roundw
            case rel => exact ⟨k + 1, a, by omega, by go_num, HN, x_a, B_w7, BL⟩
            case measure => simp [intOf]; omega
          case neg =>
            have g9 : (R2 == 0) = false := by simpa using he
            replace he : 0 < R2 := by omega
            have PX : Hid (accPrepB a b = false ∧ accPrep a b = accZ) := prep_no (by omega)
            have PY : Hid (accTakeB a b (1 + R4) = false ∧ accTake a b (1 + R4) = accZ) := take_no (by omega)
            have g1 : decide (a.Prom < b) = false := decide_eq_false (by omega)
            go_wp2_with fail
            refine (iAccPrep_c (a := a) (b := b) (ov_acc (d := a) (lo := 0) (hi := 0) (Nat.zero_le _)).rd (by omega)).mono ?_
            rintro e w3 ⟨v2, rfl, o_x, h_w3⟩
            clear c_a_0_wr f_a_0_wr c_a_1_wr f_a_1_wr c_a_2_wr f_a_2_wr
            replace x_a := x_a.from_ h_w3
            have B_w3 := HB.trans (h_w3.mono HB.size)
            have s_w3 := h_w3.size
            replace BL := BL.trans (h_w3.mono BL.size)
            rw [PX.out.2] at o_x
            rw [PX.out.1]
            obtain rfl := rv_acc o_x.rd
            clear o_x
            have c_a_0_w3 := x_a.cell (i := 0) rfl
            have f_a_0_w3 := x_a.frozen 0
            have c_a_1_w3 := x_a.cell (i := 1) rfl
            have f_a_1_w3 := x_a.frozen 1
            have c_a_2_w3 := x_a.cell (i := 2) rfl
            have f_a_2_w3 := x_a.frozen 2
            obtain ⟨w4, e_w4, s_w4, h_w4, x_x⟩ := alloc_step w3 33 [.int .i64 accZ.Prom, .int .i64 accZ.Bal, .int .i64 accZ.Val]
            have s_w4_1 := Nat.le_of_eq s_w4
            have s_w4_2 := Nat.le_of_eq s_w4.symm
            clear s_w4
            replace x_a := x_a.from_ h_w4
            have B_w4 := B_w3.trans (h_w4.mono B_w3.size)
            replace BL := BL.trans (h_w4.mono BL.size)
            have c_a_0_w4 := x_a.cell (i := 0) rfl
            have f_a_0_w4 := x_a.frozen 0
            have c_a_1_w4 := x_a.cell (i := 1) rfl
            have f_a_1_w4 := x_a.frozen 1
            have c_a_2_w4 := x_a.cell (i := 2) rfl
            have f_a_2_w4 := x_a.frozen 2
            have c_x_0_w4 := x_x.cell (i := 0) rfl
            have f_x_0_w4 := x_x.frozen 0
            have c_x_1_w4 := x_x.cell (i := 1) rfl
            have f_x_1_w4 := x_x.frozen 1
            have c_x_2_w4 := x_x.cell (i := 2) rfl
            have f_x_2_w4 := x_x.frozen 2
            go_wp2_with fail
            refine (iAccTake_c (a := a) (b := b) (u := 1 + R4) (ov_acc (d := a) (lo := 0) (hi := 0) (Nat.zero_le _)).rd (by omega) (by omega)).mono ?_
            rintro e w5 ⟨v3, rfl, o_y, h_w5⟩
            clear c_a_0_w3 f_a_0_w3 c_a_1_w3 f_a_1_w3 c_a_2_w3 f_a_2_w3 c_a_0_w4 f_a_0_w4 c_a_1_w4 f_a_1_w4 c_a_2_w4 f_a_2_w4 c_x_0_w4 f_x_0_w4 c_x_1_w4 f_x_1_w4 c_x_2_w4 f_x_2_w4
            replace x_a := x_a.from_ h_w5
            replace x_x := x_x.from_ h_w5
            have B_w5 := B_w4.trans (h_w5.mono B_w4.size)
            have s_w5 := h_w5.size
            replace BL := BL.trans (h_w5.mono BL.size)
            rw [PY.out.2] at o_y
            rw [PY.out.1]
            obtain rfl := rv_acc o_y.rd
            clear o_y
            have c_a_0_w5 := x_a.cell (i := 0) rfl
            have f_a_0_w5 := x_a.frozen 0
            have c_a_1_w5 := x_a.cell (i := 1) rfl
            have f_a_1_w5 := x_a.frozen 1
            have c_a_2_w5 := x_a.cell (i := 2) rfl
            have f_a_2_w5 := x_a.frozen 2
            have c_x_0_w5 := x_x.cell (i := 0) rfl
            have f_x_0_w5 := x_x.frozen 0
            have c_x_1_w5 := x_x.cell (i := 1) rfl
            have f_x_1_w5 := x_x.frozen 1
            have c_x_2_w5 := x_x.cell (i := 2) rfl
            have f_x_2_w5 := x_x.frozen 2
            obtain ⟨w6, e_w6, s_w6, h_w6, x_y⟩ := alloc_step w5 33 [.int .i64 accZ.Prom, .int .i64 accZ.Bal, .int .i64 accZ.Val]
            have s_w6_1 := Nat.le_of_eq s_w6
            have s_w6_2 := Nat.le_of_eq s_w6.symm
            clear s_w6
            replace x_a := x_a.from_ h_w6
            replace x_x := x_x.from_ h_w6
            have B_w6 := B_w5.trans (h_w6.mono B_w5.size)
            replace BL := BL.trans (h_w6.mono BL.size)
            have c_a_0_w6 := x_a.cell (i := 0) rfl
            have f_a_0_w6 := x_a.frozen 0
            have c_a_1_w6 := x_a.cell (i := 1) rfl
            have f_a_1_w6 := x_a.frozen 1
            have c_a_2_w6 := x_a.cell (i := 2) rfl
            have f_a_2_w6 := x_a.frozen 2
            have c_x_0_w6 := x_x.cell (i := 0) rfl
            have f_x_0_w6 := x_x.frozen 0
            have c_x_1_w6 := x_x.cell (i := 1) rfl
            have f_x_1_w6 := x_x.frozen 1
            have c_x_2_w6 := x_x.cell (i := 2) rfl
            have f_x_2_w6 := x_x.frozen 2
            have c_y_0_w6 := x_y.cell (i := 0) rfl
            have f_y_0_w6 := x_y.frozen 0
            have c_y_1_w6 := x_y.cell (i := 1) rfl
            have f_y_1_w6 := x_y.frozen 1
            have c_y_2_w6 := x_y.cell (i := 2) rfl
            have f_y_2_w6 := x_y.frozen 2
            have HN : Hid (accOkB a = true) := HA.out
            go_wp2_with fail
            refine (iAccOk_c (a := a) (ov_acc (d := a) (lo := 0) (hi := 0) (Nat.zero_le _)).rd).mono ?_
            rintro e w7 ⟨rfl, h_w7⟩
            clear c_a_0_w5 f_a_0_w5 c_a_1_w5 f_a_1_w5 c_a_2_w5 f_a_2_w5 c_x_0_w5 f_x_0_w5 c_x_1_w5 f_x_1_w5 c_x_2_w5 f_x_2_w5 c_a_0_w6 f_a_0_w6 c_a_1_w6 f_a_1_w6 c_a_2_w6 f_a_2_w6 c_x_0_w6 f_x_0_w6 c_x_1_w6 f_x_1_w6 c_x_2_w6 f_x_2_w6 c_y_0_w6 f_y_0_w6 c_y_1_w6 f_y_1_w6 c_y_2_w6 f_y_2_w6
            replace x_a := x_a.from_ h_w7
            replace x_x := x_x.from_ h_w7
            replace x_y := x_y.from_ h_w7
            have B_w7 := B_w6.trans (h_w7.mono B_w6.size)
            have s_w7 := h_w7.size
            replace BL := BL.trans (h_w7.mono BL.size)
            rw [HN.out]
            skip
            go_wp2
            go_roundw
            case rel => exact ⟨k + 1, a, by omega, by go_num, HN, x_a, B_w7, BL⟩
            case measure => simp [intOf]; omega

end Go.Proofs.Ytaoedgcdcimibaa
