/- The disk's functions whose text leaves an order open: their contracts. -/
import Derived.Test.YtdggbjhfbimebaaDisk1
import Derived.Test.YtdggbjhfbimebaaAppStep
import Derived.Deep.RegionHeld3
import Derived.Deep.DeepCutAuto
namespace Go.Proofs.Ytdggbjhfbimebaa
open Go.RowKit
set_option linter.unusedVariables false

set_option maxHeartbeats 1000000 in
theorem sDiskAll_c {w : World} {v : Value} {d : MDisk} (h : RV diskL w v d) (hm : d.bulk ≤ 1073741824) : Calls Try.prog 31 #[v] w (NewS .u8 5 w (diskAll d)) := by
  obtain ⟨ASure, cSure, ASoft, cSoft, rfl, rSure, rSoft⟩ := rv_disk h
  unfold MDisk.bulk at hm
  obtain ⟨i0, hi, hz0, hz1, hz2⟩ := info_parts Try.info_u8
  obtain ⟨wa, hwa, B0, sa, x_a⟩ := frame1 w 25 [.slice ASure d.Sure.length cSure, .slice ASoft d.Soft.length cSoft]
  have sa_1 := Nat.le_of_eq sa
  have sa_2 := Nat.le_of_eq sa.symm
  clear sa
  have c_a_0_wa := x_a.cell (i := 0) rfl
  have c_a_1_wa := x_a.cell (i := 1) rfl
  go_enter Try.func31, Try.ntmps31
  go_wp2_with fail
  have q1 := (rSoft.from_ B0).rd_
  go_region_held3 (fun w' => w'.cell? ⟨w.heap.size, 0, none⟩ = some (.slice ASure d.Sure.length cSure) ∧ w'.cell? ⟨w.heap.size, 1, none⟩ = some (.slice ASoft d.Soft.length cSoft))
    (first | exact ⟨c_a_0_wa, c_a_1_wa⟩ | exact ⟨(x_a.from_ hb1).cell (i := 0) rfl, (x_a.from_ hb1).cell (i := 1) rfl⟩ | exact ⟨(x_a.from_ hb2).cell (i := 0) rfl, (x_a.from_ hb2).cell (i := 1) rfl⟩)
    (first | (go_at_call 43; refine (sCopy_c (w := wa.drew) (rSure.from_ (B0.drew)) (by omega)).mono ?_; rintro e w1 ⟨u, rfl, ou, hd1⟩; have hb1 : Below wa.heap.size wa w1 := (Below.refl wa.heap.size wa).drew.trans hd1; obtain ⟨A1, k1, rfl, -, -, -⟩ := ou.rd)
           | (refine step_appI .u8 (by rfl) (.tmp 5) (.tmp 7) 22 (by rfl) wa.heap.size 5 i0 1 Try.underlying22 hi hz0 hz1 hz2 (.slice A1 d.Sure.length k1) d.Sure (by rfl) ou.1 wa.heap.size ASoft cSoft d.Soft.length d.Soft (by rfl) rfl (q1.below hb1) (by omega) (by omega) hb1.size ?_; intro v2 w2 ho2 hg2 hat2; have hb2 : Below wa.heap.size wa w2 := grown_below hb1 ou.1 hg2 (Nat.le_refl _) hb1.size))
  go_wp2
  go_ret
  exact ⟨_, rfl, (OS.mk_ ho2).widen (by omega) (Nat.le_refl _) (Nat.le_refl _), B0.trans (hb2.mono B0.size)⟩

set_option maxHeartbeats 4000000 in
theorem iDiskWrite_yes {w : World} {v v' : Value} {d : MDisk} {b : List Int} (h : RV diskL w v d) (h' : RS .u8 w v' b) (hm : d.bulk ≤ 1073741824) (hm' : b.length ≤ 1073741824) (hok : d.Sure.length + d.Soft.length + b.length ≤ 20000) :
    Calls Try.prog 12 #[v, v'] w (NewVB diskL w ⟨d.Sure, d.Soft ++ b⟩ true) := by
  have h0 := h
  obtain ⟨ASure, cSure, ASoft, cSoft, rfl, rSure, rSoft⟩ := rv_disk h
  obtain ⟨Ab, cb, rfl, hb1, hb2, hb3⟩ := h'
  have rb : RS .u8 w (.slice Ab b.length cb) b := ⟨_, _, rfl, hb1, hb2, hb3⟩
  clear hb1 hb2 hb3
  obtain ⟨wa, hwa, B0, sa, x_a, x_r⟩ := frame2 w 25 [.slice ASure d.Sure.length cSure, .slice ASoft d.Soft.length cSoft] 25 [.slice none 0 0, .slice none 0 0]
  have sa_1 := Nat.le_of_eq sa
  have sa_2 := Nat.le_of_eq sa.symm
  clear sa
  have c_a_0_wa := x_a.cell (i := 0) rfl
  have f_a_0_wa := x_a.frozen 0
  have c_a_1_wa := x_a.cell (i := 1) rfl
  have f_a_1_wa := x_a.frozen 1
  have c_r_0_wa := x_r.cell (i := 0) rfl
  have f_r_0_wa := x_r.frozen 0
  have c_r_1_wa := x_r.cell (i := 1) rfl
  have f_r_1_wa := x_r.frozen 1
  have g1 : decide ((20000 : Int) - (d.Sure.length : Int) - (d.Soft.length : Int) < (b.length : Int)) = false := decide_eq_false (by omega)
  go_enter Try.func12, Try.ntmps12
  go_wp2_with fail
  refine (iDiskOk_c (h0.from_ B0) hm).mono ?_
  rintro e w1 ⟨rfl, h_w1⟩
  clear c_a_0_wa f_a_0_wa c_a_1_wa f_a_1_wa c_r_0_wa f_r_0_wa c_r_1_wa f_r_1_wa
  replace x_a := x_a.from_ h_w1
  replace x_r := x_r.from_ h_w1
  have B_w1 := B0.trans (h_w1.mono B0.size)
  have s_w1 := h_w1.size
  rw [show diskOkB d = true from decide_eq_true (by omega)]
  have c_a_0_w1 := x_a.cell (i := 0) rfl
  have f_a_0_w1 := x_a.frozen 0
  have c_a_1_w1 := x_a.cell (i := 1) rfl
  have f_a_1_w1 := x_a.frozen 1
  have c_r_0_w1 := x_r.cell (i := 0) rfl
  have f_r_0_w1 := x_r.frozen 0
  have c_r_1_w1 := x_r.cell (i := 1) rfl
  have f_r_1_w1 := x_r.frozen 1
  unfold MDisk.bulk at hm
  go_wp2_with fail
  go_region_held3 (fun w' => w'.cell? ⟨w.heap.size, 0, none⟩ = some (.slice ASure d.Sure.length cSure) ∧ w'.cell? ⟨w.heap.size, 1, none⟩ = some (.slice ASoft d.Soft.length cSoft))
    (first | exact ⟨c_a_0_w1, c_a_1_w1⟩ | exact ⟨q0_a_0, q0_a_1⟩ | exact ⟨q1_a_0, q1_a_1⟩ | go_keep)
    (first | ((go_at_call_of 39 (Value.slice ASure d.Sure.length cSure)); (refine (iJoined_nil (w := w1.drew) (rSure.from_ (B_w1.drew)) (by omega)).mono ?_); rintro e w_0 ⟨u0, rfl, o0, hd_0⟩; have hb_0 : Below w1.heap.size w1 w_0 := (Below.refl w1.heap.size w1).drew.trans hd_0; have sd_0 := hd_0.size; replace sd_0 : w1.heap.size ≤ w_0.heap.size := sd_0; have q0_a_0 := (x_a.from_ hb_0).cell (i := 0) rfl; have q0_a_1 := (x_a.from_ hb_0).cell (i := 1) rfl; have q0_r_0 := (x_r.from_ hb_0).cell (i := 0) rfl; have p0_r_0 := (x_r.from_ hb_0).frozen 0; have q0_r_1 := (x_r.from_ hb_0).cell (i := 1) rfl; have p0_r_1 := (x_r.from_ hb_0).frozen 1; obtain ⟨A1, k1, rfl, -, -, -⟩ := o0.rd)
           | ((go_at_call_of 39 (Value.slice ASoft d.Soft.length cSoft)); (refine (iJoined_c (w := w_0) (rSoft.from_ (B_w1.trans (hb_0.mono B_w1.size))) (rb.from_ (B_w1.trans (hb_0.mono B_w1.size))) (by omega) (by omega)).mono ?_); rintro e w_1 ⟨u1, rfl, o1, hd_1⟩; have hb_1 : Below w1.heap.size w1 w_1 := hb_0.trans (hd_1.mono hb_0.size); have sd_1 := hd_1.size; have q1_a_0 := (x_a.from_ hb_1).cell (i := 0) rfl; have q1_a_1 := (x_a.from_ hb_1).cell (i := 1) rfl; have q1_r_0 := (x_r.from_ hb_1).cell (i := 0) rfl; have p1_r_0 := (x_r.from_ hb_1).frozen 0; have q1_r_1 := (x_r.from_ hb_1).cell (i := 1) rfl; have p1_r_1 := (x_r.from_ hb_1).frozen 1; replace o0 := o0.below hd_1; obtain ⟨A2, k2, rfl, -, -, -⟩ := o1.rd; rw [List.length_append] at o1)
           | fail)
  clear c_a_0_w1 f_a_0_w1 c_a_1_w1 f_a_1_w1 c_r_0_w1 f_r_0_w1 c_r_1_w1 f_r_1_w1
  have dz_w1 : w1.drew.heap.size = w1.heap.size := rfl
  replace x_a := x_a.from_ hb_1
  replace x_r := x_r.from_ hb_1
  have B_1 := B_w1.trans (hb_1.mono B_w1.size)
  have sz_1 := hb_1.size
  have c_r_0_w_1 := x_r.cell (i := 0) rfl
  have f_r_0_w_1 := x_r.frozen 0
  have c_r_1_w_1 := x_r.cell (i := 1) rfl
  have f_r_1_w_1 := x_r.frozen 1
  obtain ⟨w2, e_w2, s_w2, h_w2, y⟩ := store_step x_r [.slice A1 d.Sure.length k1, .slice A2 (d.Soft.length + b.length) k2] rfl
  replace e_w2 : ((w_1.setCell ⟨w.heap.size + 1, 0, none⟩ (.slice A1 d.Sure.length k1)).setCell ⟨w.heap.size + 1, 1, none⟩ (.slice A2 (d.Soft.length + b.length) k2)) = w2 := e_w2
  have s_w2_1 := Nat.le_of_eq s_w2
  have s_w2_2 := Nat.le_of_eq s_w2.symm
  clear s_w2
  replace x_a := x_a.chg h_w2 (by omega)
  replace o0 := o0.chg h_w2 (by omega)
  replace o1 := o1.chg h_w2 (by omega)
  have B_w2 := Below.chg_ B_1 h_w2 (by omega) (by omega)
  replace x_r : Vr w2 (w.heap.size + 1) 25 [.slice A1 d.Sure.length k1, .slice A2 (d.Soft.length + b.length) k2] := y
  clear y
  have c_r_0_w2 := x_r.cell (i := 0) rfl
  have f_r_0_w2 := x_r.frozen 0
  have c_r_1_w2 := x_r.cell (i := 1) rfl
  have f_r_1_w2 := x_r.frozen 1
  rw [e_w2]
  go_wp2
  refine ret_cell_tmp (by rfl) (by rfl) x_r Try.underlying25 sz_disk (by rfl) ?_
  exact ⟨_, rfl, ov_disk (d := ⟨d.Sure, d.Soft ++ b⟩) o0 o1 (by omega), B_w2⟩

set_option maxHeartbeats 4000000 in
theorem iDiskWrite_no {w : World} {v v' : Value} {d : MDisk} {b : List Int} (h : RV diskL w v d) (h' : RS .u8 w v' b) (hm : d.bulk ≤ 1073741824) (hm' : b.length ≤ 1073741824) (hok : ¬ d.Sure.length + d.Soft.length + b.length ≤ 20000) :
    Calls Try.prog 12 #[v, v'] w (NewVB diskL w diskZ false) := by
  have h0 := h
  obtain ⟨ASure, cSure, ASoft, cSoft, rfl, rSure, rSoft⟩ := rv_disk h
  obtain ⟨Ab, cb, rfl, hb1, hb2, hb3⟩ := h'
  clear hb1 hb2 hb3
  obtain ⟨wa, hwa, B0, sa, x_a, x_r⟩ := frame2 w 25 [.slice ASure d.Sure.length cSure, .slice ASoft d.Soft.length cSoft] 25 [.slice none 0 0, .slice none 0 0]
  have sa_1 := Nat.le_of_eq sa
  have sa_2 := Nat.le_of_eq sa.symm
  clear sa
  have c_a_0_wa := x_a.cell (i := 0) rfl
  have f_a_0_wa := x_a.frozen 0
  have c_a_1_wa := x_a.cell (i := 1) rfl
  have f_a_1_wa := x_a.frozen 1
  have c_r_0_wa := x_r.cell (i := 0) rfl
  have f_r_0_wa := x_r.frozen 0
  have c_r_1_wa := x_r.cell (i := 1) rfl
  have f_r_1_wa := x_r.frozen 1
  have hm2 := hm
  unfold MDisk.bulk at hm2
  by_cases g0 : d.Sure.length + d.Soft.length ≤ 20000
  case neg =>
    go_enter Try.func12, Try.ntmps12
    go_wp2_with fail
    refine (iDiskOk_c (h0.from_ B0) hm).mono ?_
    rintro e w1 ⟨rfl, h_w1⟩
    clear c_a_0_wa f_a_0_wa c_a_1_wa f_a_1_wa c_r_0_wa f_r_0_wa c_r_1_wa f_r_1_wa
    replace x_a := x_a.from_ h_w1
    replace x_r := x_r.from_ h_w1
    have B_w1 := B0.trans (h_w1.mono B0.size)
    have s_w1 := h_w1.size
    rw [show diskOkB d = false from decide_eq_false (by omega)]
    have c_a_0_w1 := x_a.cell (i := 0) rfl
    have f_a_0_w1 := x_a.frozen 0
    have c_a_1_w1 := x_a.cell (i := 1) rfl
    have f_a_1_w1 := x_a.frozen 1
    have c_r_0_w1 := x_r.cell (i := 0) rfl
    have f_r_0_w1 := x_r.frozen 0
    have c_r_1_w1 := x_r.cell (i := 1) rfl
    have f_r_1_w1 := x_r.frozen 1
    obtain ⟨w2, e_w2, s_w2, h_w2, y⟩ := store_step x_r [.slice none 0 0, .slice none 0 0] rfl
    replace e_w2 : ((w1.setCell ⟨w.heap.size + 1, 0, none⟩ (.slice none 0 0)).setCell ⟨w.heap.size + 1, 1, none⟩ (.slice none 0 0)) = w2 := e_w2
    have s_w2_1 := Nat.le_of_eq s_w2
    have s_w2_2 := Nat.le_of_eq s_w2.symm
    clear s_w2
    replace x_a := x_a.chg h_w2 (by omega)
    have B_w2 := Below.chg_ B_w1 h_w2 (by omega) (by omega)
    replace x_r : Vr w2 (w.heap.size + 1) 25 [.slice none 0 0, .slice none 0 0] := y
    clear y
    have c_r_0_w2 := x_r.cell (i := 0) rfl
    have f_r_0_w2 := x_r.frozen 0
    have c_r_1_w2 := x_r.cell (i := 1) rfl
    have f_r_1_w2 := x_r.frozen 1
    go_wp2
    refine ret_cell_tmp (by rfl) (by rfl) x_r Try.underlying25 sz_disk (by rfl) ?_
    exact ⟨_, rfl, ov_disk (d := diskZ) (os_nil (lo := w.heap.size) (hi := w.heap.size) (by omega)) (os_nil (lo := w.heap.size) (hi := w.heap.size) (by omega)) (by omega), B_w2⟩
  have g1 : (20000 : Int) - (d.Sure.length : Int) - (d.Soft.length : Int) < (b.length : Int) := by omega
  go_enter Try.func12, Try.ntmps12
  go_wp2_with fail
  refine (iDiskOk_c (h0.from_ B0) hm).mono ?_
  rintro e w1 ⟨rfl, h_w1⟩
  clear c_a_0_wa f_a_0_wa c_a_1_wa f_a_1_wa c_r_0_wa f_r_0_wa c_r_1_wa f_r_1_wa
  replace x_a := x_a.from_ h_w1
  replace x_r := x_r.from_ h_w1
  have B_w1 := B0.trans (h_w1.mono B0.size)
  have s_w1 := h_w1.size
  rw [show diskOkB d = true from decide_eq_true (by omega)]
  have c_a_0_w1 := x_a.cell (i := 0) rfl
  have f_a_0_w1 := x_a.frozen 0
  have c_a_1_w1 := x_a.cell (i := 1) rfl
  have f_a_1_w1 := x_a.frozen 1
  have c_r_0_w1 := x_r.cell (i := 0) rfl
  have f_r_0_w1 := x_r.frozen 0
  have c_r_1_w1 := x_r.cell (i := 1) rfl
  have f_r_1_w1 := x_r.frozen 1
  obtain ⟨w2, e_w2, s_w2, h_w2, y⟩ := store_step x_r [.slice none 0 0, .slice none 0 0] rfl
  replace e_w2 : ((w1.setCell ⟨w.heap.size + 1, 0, none⟩ (.slice none 0 0)).setCell ⟨w.heap.size + 1, 1, none⟩ (.slice none 0 0)) = w2 := e_w2
  have s_w2_1 := Nat.le_of_eq s_w2
  have s_w2_2 := Nat.le_of_eq s_w2.symm
  clear s_w2
  replace x_a := x_a.chg h_w2 (by omega)
  have B_w2 := Below.chg_ B_w1 h_w2 (by omega) (by omega)
  replace x_r : Vr w2 (w.heap.size + 1) 25 [.slice none 0 0, .slice none 0 0] := y
  clear y
  have c_r_0_w2 := x_r.cell (i := 0) rfl
  have f_r_0_w2 := x_r.frozen 0
  have c_r_1_w2 := x_r.cell (i := 1) rfl
  have f_r_1_w2 := x_r.frozen 1
  go_wp2
  refine ret_cell_tmp (by rfl) (by rfl) x_r Try.underlying25 sz_disk (by rfl) ?_
  exact ⟨_, rfl, ov_disk (d := diskZ) (os_nil (lo := w.heap.size) (hi := w.heap.size) (by omega)) (os_nil (lo := w.heap.size) (hi := w.heap.size) (by omega)) (by omega), B_w2⟩

theorem iDiskWrite_c {w : World} {v v' : Value} {d : MDisk} {b : List Int} (h : RV diskL w v d) (h' : RS .u8 w v' b) (hm : d.bulk ≤ 1073741824) (hm' : b.length ≤ 1073741824) :
    Calls Try.prog 12 #[v, v'] w (NewVB diskL w (diskWrite d b) (diskWriteB d b)) := by
  by_cases hok : d.Sure.length + d.Soft.length + b.length ≤ 20000
  · rw [show diskWriteB d b = true from decide_eq_true hok, show diskWrite d b = ⟨d.Sure, d.Soft ++ b⟩ by unfold diskWrite; rw [show diskWriteB d b = true from decide_eq_true hok]; rfl]
    exact iDiskWrite_yes h h' hm hm' hok
  · rw [show diskWriteB d b = false from decide_eq_false hok, show diskWrite d b = diskZ by unfold diskWrite; rw [show diskWriteB d b = false from decide_eq_false hok]; rfl]
    exact iDiskWrite_no h h' hm hm' hok

set_option maxHeartbeats 4000000 in
theorem sDiskWrite_c {w : World} {v v' : Value} {d : MDisk} {b : List Int} (h : RV diskL w v d) (h' : RS .u8 w v' b) (hm : d.bulk ≤ 268435456) (hm' : b.length ≤ 268435456) :
    Calls Try.prog 25 #[v, v'] w (NewVB diskL w (diskWrite d b) (diskWriteB d b)) := by
  obtain ⟨ASure, cSure, ASoft, cSoft, rfl, rSure, rSoft⟩ := rv_disk h
  unfold MDisk.bulk at hm
  obtain ⟨Ab, cb, rfl, hb1, hb2, hb3⟩ := h'
  have rb : RS .u8 w (.slice Ab b.length cb) b := ⟨_, _, rfl, hb1, hb2, hb3⟩
  clear hb1 hb2 hb3
  obtain ⟨i0, hi, hz0, hz1, hz2⟩ := info_parts Try.info_u8
  obtain ⟨L, hL⟩ : ∃ L, L = d.Soft ++ b := ⟨_, rfl⟩
  have lL := congrArg List.length hL
  simp only [List.length_append] at lL
  have HL := Lib.hid hL
  clear hL
  have lL_1 := Nat.le_of_eq lL
  have lL_2 := Nat.le_of_eq lL.symm
  clear lL
  obtain ⟨R, hR⟩ : ∃ R, diskWrite d b = R := ⟨_, rfl⟩
  obtain ⟨q, hq⟩ : ∃ q, diskWriteB d b = q := ⟨_, rfl⟩
  rw [hR, hq]
  have HR := Lib.hid hR
  have HQ := Lib.hid hq
  clear hR hq
  obtain ⟨wa, hwa, B0, sa, x_a, x_r⟩ := frame2 w 25 [.slice ASure d.Sure.length cSure, .slice ASoft d.Soft.length cSoft] 25 [.slice none 0 0, .slice none 0 0]
  have sa_1 := Nat.le_of_eq sa
  have sa_2 := Nat.le_of_eq sa.symm
  clear sa
  have c_a_0_wa := x_a.cell (i := 0) rfl
  have f_a_0_wa := x_a.frozen 0
  have c_a_1_wa := x_a.cell (i := 1) rfl
  have f_a_1_wa := x_a.frozen 1
  have c_r_0_wa := x_r.cell (i := 0) rfl
  have f_r_0_wa := x_r.frozen 0
  have c_r_1_wa := x_r.cell (i := 1) rfl
  have f_r_1_wa := x_r.frozen 1
  go_enter Try.func25, Try.ntmps25
  go_upto_region 1 with fail
  go_cut [6] (fun s wx => OutVar diskL 25 wa (⟨d.Sure, L⟩ : MDisk) s wx)
  case first =>
    go_region_held3 (fun w' => w'.cell? ⟨w.heap.size, 0, none⟩ = some (.slice ASure d.Sure.length cSure) ∧ w'.cell? ⟨w.heap.size, 1, none⟩ = some (.slice ASoft d.Soft.length cSoft))
      (first | exact ⟨c_a_0_wa, c_a_1_wa⟩ | exact ⟨(x_a.alloc _).cell (i := 0) rfl, (x_a.alloc _).cell (i := 1) rfl⟩ | exact ⟨q0_a.cell (i := 0) rfl, q0_a.cell (i := 1) rfl⟩ | exact ⟨(q0_a.alloc _).cell (i := 0) rfl, (q0_a.alloc _).cell (i := 1) rfl⟩ | exact ⟨q1_a.cell (i := 0) rfl, q1_a.cell (i := 1) rfl⟩ | exact ⟨(q1_a.alloc _).cell (i := 0) rfl, (q1_a.alloc _).cell (i := 1) rfl⟩ | exact ⟨qA_a.cell (i := 0) rfl, qA_a.cell (i := 1) rfl⟩ | exact ⟨(qA_a.alloc _).cell (i := 0) rfl, (qA_a.alloc _).cell (i := 1) rfl⟩ | exact ⟨((qA_a.set_ne (by omega) _ _).set_ne (by omega) _ _).cell (i := 0) rfl, ((qA_a.set_ne (by omega) _ _).set_ne (by omega) _ _).cell (i := 1) rfl⟩ | go_keep)
      (first | ((go_at_call_of 43 (Value.slice ASure d.Sure.length cSure)); (refine (sCopy_c (rSure.from_ (by first | exact (B0.drew) | exact ((B0.drew)).alloc ((B0.drew)).size _)) (by omega)).mono ?_); rintro e w_0 ⟨u0, rfl, o0, hd_0⟩; have hk_0 : Below wa.drew.heap.size wa.drew w_0 := (by first | exact hd_0 | exact below_of_alloc hd_0); (try (have x_out : Vr w_0 wa.heap.size 25 [.slice none 0 0, .slice none 0 0] := Vr.from_ (Vr.new (wa.drew) 25 [.slice none 0 0, .slice none 0 0]) hd_0)); have se_0 := hd_0.size; (try rw [sz_drew] at o0); (try rw [sz_alloc] at o0); (try rw [sz_drew] at o0); (try rw [sz_drew] at se_0); (try rw [sz_alloc] at se_0); (try rw [sz_drew] at se_0); have hb_0 : Below wa.heap.size wa w_0 := (Below.refl wa.heap.size wa).drew.trans hk_0; have sd_0 : wa.heap.size ≤ w_0.heap.size := hk_0.size; have q0_a := x_a.from_ hb_0; (try (have := x_out.cell (i := 0) rfl)); (try (have := x_out.frozen 0)); (try (have := x_out.cell (i := 1) rfl)); (try (have := x_out.frozen 1)); obtain ⟨A1, k1, rfl, -, -, -⟩ := o0.rd)
             | ((go_at_call_of 43 (Value.slice ASoft d.Soft.length cSoft)); (refine (sCopy_c (rSoft.from_ (by first | exact (B0.trans (hb_0.mono B0.size)) | exact ((B0.trans (hb_0.mono B0.size))).alloc ((B0.trans (hb_0.mono B0.size))).size _)) (by omega)).mono ?_); rintro e w_1 ⟨u1, rfl, o1, hd_1⟩; have hk_1 : Below w_0.heap.size w_0 w_1 := (by first | exact hd_1 | exact below_of_alloc hd_1); (try (have x_out : Vr w_1 w_0.heap.size 25 [.slice none 0 0, .slice none 0 0] := Vr.from_ (Vr.new (w_0) 25 [.slice none 0 0, .slice none 0 0]) hd_1)); (try (replace x_out := x_out.from_ hk_1)); replace o0 := o0.below hk_1; have se_1 := hd_1.size; (try rw [sz_alloc] at o1); (try rw [sz_alloc] at se_1); have hb_1 : Below wa.heap.size wa w_1 := hb_0.trans (hk_1.mono hb_0.size); have sd_1 : w_0.heap.size ≤ w_1.heap.size := hk_1.size; have q1_a := x_a.from_ hb_1; (try (have := x_out.cell (i := 0) rfl)); (try (have := x_out.frozen 0)); (try (have := x_out.cell (i := 1) rfl)); (try (have := x_out.frozen 1)); obtain ⟨A2, k2, rfl, -, -, -⟩ := o1.rd)
             | (refine step_appI .u8 (by rfl) (.tmp 12) (.tmp 13) 22 (by rfl) _ 5 i0 1 Try.underlying22 hi hz0 hz1 hz2 (.slice A2 d.Soft.length k2) d.Soft (by rfl) (by first | exact o1.1 | exact o1.1.alloc_ _) w.heap.size Ab cb b.length b (by rfl) rfl (rb.rd_.below (by first | exact (B0.trans (hb_1.mono B0.size)) | exact ((B0.trans (hb_1.mono B0.size))).alloc ((B0.trans (hb_1.mono B0.size))).size _)) (by omega) (by omega) (by (try rw [sz_alloc]); omega) ?_; intro v2 w_A ho2 hg2 hat2; (first | have hcg : Chg (w_0.heap.size + 1) w_1.heap.size w_1 w_A := Chg.of_grown hg2 (fun j hj => o1.1.at_ j hj) | have hcg : Chg (w_0.heap.size + 1) w_1.heap.size w_1 w_A := chg_of_alloc hg2 (fun j hj => o1.1.at_ j hj) | have hcg : Chg (w_0.heap.size + 1) w_1.heap.size w_1 w_A := chg_of_alloc' hg2 (fun j hj => o1.1.at_ j hj) | have hcg : Chg (w_0.heap.size) w_1.heap.size w_1 w_A := Chg.of_grown hg2 (fun j hj => o1.1.at_ j hj) | have hcg : Chg (w_0.heap.size) w_1.heap.size w_1 w_A := chg_of_alloc hg2 (fun j hj => o1.1.at_ j hj) | have hcg : Chg (w_0.heap.size) w_1.heap.size w_1 w_A := chg_of_alloc' hg2 (fun j hj => o1.1.at_ j hj)); (try (have x_out : Vr w_A w_1.heap.size 25 [.slice none 0 0, .slice none 0 0] := (Vr.new w_1 25 [.slice none 0 0, .slice none 0 0]).grown hg2 (fun e => (by have := (o1.1.at_ _ e).2; omega)))); (try (replace x_out := x_out.chg hcg (by omega))); have sd_A := hcg.size; replace o0 := o0.chg hcg (by omega); have hb_A : Below wa.heap.size wa w_A := Below.chg_ hb_1 hcg (by omega) (by omega); have qA_a := x_a.from_ hb_A; (try (have := x_out.cell (i := 0) rfl)); (try (have := x_out.frozen 0)); (try (have := x_out.cell (i := 1) rfl)); (try (have := x_out.frozen 1)); rw [← HL.out] at ho2; obtain ⟨A3, k3, rfl, -, -, -⟩ := own_form ho2; (first | replace o1 := app_own o1 ho2 hg2 hat2 | replace o1 := app_own (OS.alloc_ o1 _) ho2 hg2 hat2); (try rw [sz_alloc] at o1); clear ho2 hg2 hat2)
             | fail)
    all_goals have dz : wa.drew.heap.size = wa.heap.size := rfl
    all_goals go_wp2_with fail
    all_goals go_meet
    all_goals rcases o1 with o1 | o1
    all_goals first
      | (obtain ⟨wz, ez, sz, hz, xz⟩ := alloc_step w_A 25 [.slice A1 d.Sure.length k1, .slice A3 L.length k3]; rw [ez]; have sz1 := hz.size; have hl := hb_A.size; replace o0 := o0.below hz; replace o1 := o1.below hz; exact ⟨_, _, rfl, (by omega), xz, ovp_disk (d := ⟨d.Sure, L⟩) o0 o1 (by omega), hb_A.trans (hz.mono hb_A.size)⟩)
      | (obtain ⟨wz, ez, sz, hz, xz⟩ := store_step x_out [.slice A1 d.Sure.length k1, .slice A3 L.length k3] rfl; change OutVar _ _ _ _ _ (setAll w_A _ 0 [.slice A1 d.Sure.length k1, .slice A3 L.length k3]); rw [ez]; have hl := hb_A.size; replace o0 := o0.chg hz (by omega); replace o1 := o1.chg hz (by omega); exact ⟨_, _, rfl, (by omega), xz, ovp_disk (d := ⟨d.Sure, L⟩) o0 o1 (by omega), Below.chg_ hb_A hz (by omega) (by omega)⟩)
      | fail
  case rest =>
    clear c_a_0_wa f_a_0_wa c_a_1_wa f_a_1_wa c_r_0_wa f_r_0_wa c_r_1_wa f_r_1_wa
    obtain ⟨blk, cs, rfl, hblk, x_out, o_out, h_wc⟩ := hcut
    obtain ⟨B0_, k0, B1_, k1, rfl⟩ := cs_disk o_out.rd
    replace o_out := o_out.ov (fun _ h => h) (Nat.le_refl _)
    replace x_a := x_a.from_ h_wc
    replace x_r := x_r.from_ h_wc
    have B_wc := B0.trans (h_wc.mono B0.size)
    have s_wc := h_wc.size
    replace x_out : Vr wc blk 25 [.slice B0_ d.Sure.length k0, .slice B1_ L.length k1] := x_out
    replace o_out : OV diskL wc wa.heap.size wc.heap.size (.agg #[.slice B0_ d.Sure.length k0, .slice B1_ L.length k1]) ⟨d.Sure, L⟩ := o_out
    have c_a_0_wc := x_a.cell (i := 0) rfl
    have f_a_0_wc := x_a.frozen 0
    have c_a_1_wc := x_a.cell (i := 1) rfl
    have f_a_1_wc := x_a.frozen 1
    have c_r_0_wc := x_r.cell (i := 0) rfl
    have f_r_0_wc := x_r.frozen 0
    have c_r_1_wc := x_r.cell (i := 1) rfl
    have f_r_1_wc := x_r.frozen 1
    have c_out_0_wc := x_out.cell (i := 0) rfl
    have f_out_0_wc := x_out.frozen 0
    have c_out_1_wc := x_out.cell (i := 1) rfl
    have f_out_1_wc := x_out.frozen 1
    go_wp2_with fail
    refine (sDiskOk_c o_out.rd (by show d.Sure.length + L.length ≤ _; omega)).mono ?_
    rintro e w1 ⟨rfl, h_w1⟩
    clear c_a_0_wc f_a_0_wc c_a_1_wc f_a_1_wc c_r_0_wc f_r_0_wc c_r_1_wc f_r_1_wc c_out_0_wc f_out_0_wc c_out_1_wc f_out_1_wc
    replace x_a := x_a.from_ h_w1
    replace x_r := x_r.from_ h_w1
    replace x_out := x_out.from_ h_w1
    replace o_out := o_out.below h_w1
    have B_w1 := B_wc.trans (h_w1.mono B_wc.size)
    have s_w1 := h_w1.size
    have c_a_0_w1 := x_a.cell (i := 0) rfl
    have f_a_0_w1 := x_a.frozen 0
    have c_a_1_w1 := x_a.cell (i := 1) rfl
    have f_a_1_w1 := x_a.frozen 1
    have c_r_0_w1 := x_r.cell (i := 0) rfl
    have f_r_0_w1 := x_r.frozen 0
    have c_r_1_w1 := x_r.cell (i := 1) rfl
    have f_r_1_w1 := x_r.frozen 1
    have c_out_0_w1 := x_out.cell (i := 0) rfl
    have f_out_0_w1 := x_out.frozen 0
    have c_out_1_w1 := x_out.cell (i := 1) rfl
    have f_out_1_w1 := x_out.frozen 1
    by_cases hok : d.Sure.length + d.Soft.length + b.length ≤ 20000
    case neg =>
      rw [show diskOkB ⟨d.Sure, L⟩ = false from decide_eq_false (by show ¬ d.Sure.length + L.length ≤ 20000; omega)]
      obtain rfl : R = diskZ := HR.out.symm.trans (by unfold diskWrite; rw [show diskWriteB d b = false from decide_eq_false hok]; rfl)
      obtain rfl : q = false := HQ.out.symm.trans (decide_eq_false hok)
      obtain ⟨w2, e_w2, s_w2, h_w2, y⟩ := store_step x_r [.slice none 0 0, .slice none 0 0] rfl
      replace e_w2 : ((w1.setCell ⟨w.heap.size + 1, 0, none⟩ (.slice none 0 0)).setCell ⟨w.heap.size + 1, 1, none⟩ (.slice none 0 0)) = w2 := e_w2
      have s_w2_1 := Nat.le_of_eq s_w2
      have s_w2_2 := Nat.le_of_eq s_w2.symm
      clear s_w2
      replace x_a := x_a.chg h_w2 (by omega)
      replace x_out := x_out.chg h_w2 (by omega)
      replace o_out := o_out.chg h_w2 (by omega)
      have B_w2 := Below.chg_ B_w1 h_w2 (by omega) (by omega)
      replace x_r : Vr w2 (w.heap.size + 1) 25 [.slice none 0 0, .slice none 0 0] := y
      clear y
      have c_r_0_w2 := x_r.cell (i := 0) rfl
      have f_r_0_w2 := x_r.frozen 0
      have c_r_1_w2 := x_r.cell (i := 1) rfl
      have f_r_1_w2 := x_r.frozen 1
      go_wp2
      refine ret_cell_tmp (by rfl) (by rfl) x_r Try.underlying25 sz_disk (by rfl) ?_
      exact ⟨_, rfl, ov_disk (d := diskZ) (os_nil (lo := w.heap.size) (hi := w.heap.size) (by omega)) (os_nil (lo := w.heap.size) (hi := w.heap.size) (by omega)) (by omega), B_w2⟩
    rw [show diskOkB ⟨d.Sure, L⟩ = true from decide_eq_true (by show d.Sure.length + L.length ≤ 20000; omega)]
    obtain rfl : R = ⟨d.Sure, L⟩ := HR.out.symm.trans (by unfold diskWrite; rw [show diskWriteB d b = true from decide_eq_true hok, HL.out]; rfl)
    obtain rfl : q = true := HQ.out.symm.trans (decide_eq_true hok)
    obtain ⟨w2, e_w2, s_w2, h_w2, y⟩ := store_step x_r [.slice B0_ d.Sure.length k0, .slice B1_ L.length k1] rfl
    replace e_w2 : ((w1.setCell ⟨w.heap.size + 1, 0, none⟩ (.slice B0_ d.Sure.length k0)).setCell ⟨w.heap.size + 1, 1, none⟩ (.slice B1_ L.length k1)) = w2 := e_w2
    have s_w2_1 := Nat.le_of_eq s_w2
    have s_w2_2 := Nat.le_of_eq s_w2.symm
    clear s_w2
    replace x_a := x_a.chg h_w2 (by omega)
    replace x_out := x_out.chg h_w2 (by omega)
    replace o_out := o_out.chg h_w2 (by omega)
    have B_w2 := Below.chg_ B_w1 h_w2 (by omega) (by omega)
    replace x_r : Vr w2 (w.heap.size + 1) 25 [.slice B0_ d.Sure.length k0, .slice B1_ L.length k1] := y
    clear y
    have c_r_0_w2 := x_r.cell (i := 0) rfl
    have f_r_0_w2 := x_r.frozen 0
    have c_r_1_w2 := x_r.cell (i := 1) rfl
    have f_r_1_w2 := x_r.frozen 1
    go_wp2
    refine ret_cell_tmp (by rfl) (by rfl) x_r Try.underlying25 sz_disk (by rfl) ?_
    exact ⟨_, rfl, o_out.widen (by omega) (by omega) (by omega), B_w2⟩

set_option maxHeartbeats 1000000 in
theorem sDiskSync_c {w : World} {v : Value} {d : MDisk} (h : RV diskL w v d) (hm : d.bulk ≤ 1073741824) : Calls Try.prog 33 #[v] w (NewV diskL w (diskSync d)) := by
  have h0 := h
  obtain ⟨ASure, cSure, ASoft, cSoft, rfl, rSure, rSoft⟩ := rv_disk h
  obtain ⟨wa, hwa, B0, sa, x_a, x_r⟩ := frame2 w 25 [.slice ASure d.Sure.length cSure, .slice ASoft d.Soft.length cSoft] 25 [.slice none 0 0, .slice none 0 0]
  have sa_1 := Nat.le_of_eq sa
  have sa_2 := Nat.le_of_eq sa.symm
  clear sa
  have c_a_0_wa := x_a.cell (i := 0) rfl
  have f_a_0_wa := x_a.frozen 0
  have c_a_1_wa := x_a.cell (i := 1) rfl
  have f_a_1_wa := x_a.frozen 1
  have c_r_0_wa := x_r.cell (i := 0) rfl
  have f_r_0_wa := x_r.frozen 0
  have c_r_1_wa := x_r.cell (i := 1) rfl
  have f_r_1_wa := x_r.frozen 1
  go_enter Try.func33, Try.ntmps33
  go_wp2_with fail
  refine (sDiskAll_c (h0.from_ B0) hm).mono ?_
  rintro e w1 ⟨u, rfl, ou, h_w1⟩
  clear c_a_0_wa f_a_0_wa c_a_1_wa f_a_1_wa c_r_0_wa f_r_0_wa c_r_1_wa f_r_1_wa
  replace x_a := x_a.from_ h_w1
  replace x_r := x_r.from_ h_w1
  have B_w1 := B0.trans (h_w1.mono B0.size)
  have s_w1 := h_w1.size
  obtain ⟨A1, k1, rfl, -, -, -⟩ := ou.rd
  have c_a_0_w1 := x_a.cell (i := 0) rfl
  have f_a_0_w1 := x_a.frozen 0
  have c_a_1_w1 := x_a.cell (i := 1) rfl
  have f_a_1_w1 := x_a.frozen 1
  have c_r_0_w1 := x_r.cell (i := 0) rfl
  have f_r_0_w1 := x_r.frozen 0
  have c_r_1_w1 := x_r.cell (i := 1) rfl
  have f_r_1_w1 := x_r.frozen 1
  obtain ⟨w2, e_w2, s_w2, h_w2, y⟩ := store_step x_r [.slice A1 (diskAll d).length k1, .slice none 0 0] rfl
  replace e_w2 : ((w1.setCell ⟨w.heap.size + 1, 0, none⟩ (.slice A1 (diskAll d).length k1)).setCell ⟨w.heap.size + 1, 1, none⟩ (.slice none 0 0)) = w2 := e_w2
  have s_w2_1 := Nat.le_of_eq s_w2
  have s_w2_2 := Nat.le_of_eq s_w2.symm
  clear s_w2
  replace x_a := x_a.chg h_w2 (by omega)
  replace ou := ou.chg h_w2 (by omega)
  have B_w2 := Below.chg_ B_w1 h_w2 (by omega) (by omega)
  replace x_r : Vr w2 (w.heap.size + 1) 25 [.slice A1 (diskAll d).length k1, .slice none 0 0] := y
  clear y
  have c_r_0_w2 := x_r.cell (i := 0) rfl
  have f_r_0_w2 := x_r.frozen 0
  have c_r_1_w2 := x_r.cell (i := 1) rfl
  have f_r_1_w2 := x_r.frozen 1
  go_wp2
  refine ret_cell (by rfl) (by rfl) x_r Try.underlying25 sz_disk (by rfl) ?_
  exact ⟨_, rfl, ov_disk (d := diskSync d) ou (os_nil (lo := w.heap.size) (hi := w.heap.size) (by omega)) (by omega), B_w2⟩

theorem Rd.take_ {k : IntKind} {w : World} {B : Nat} {A : Option Addr} {zs : List Int} (h : Rd k w B A zs) (n : Nat) : Rd k w B A (zs.take n) := fun hp => by
  rw [List.length_take] at hp
  obtain ⟨b, off, rfl, hb, hc⟩ := h (by omega)
  refine ⟨b, off, rfl, hb, fun j hj => ?_⟩
  rw [List.length_take] at hj
  rw [hc j (by omega), List.getD_eq_getElem?_getD, List.getD_eq_getElem?_getD, List.getElem?_take, if_pos (by omega)]
theorem RS.cut_ {k : IntKind} {w : World} {A : Option Addr} {n c K c' : Nat} {zs : List Int} (h : RS k w (.slice A n c) zs) (hK : K ≤ zs.length) (hc : K ≤ c' ∧ c' ≤ c) : RS k w (.slice A K c') (zs.take K) := by
  have h1 := h.le_
  refine ⟨A, c', ?_, ?_, by omega, h.rd_.take_ K⟩
  · rw [List.length_take, Nat.min_eq_left hK]
  · rw [List.length_take]; omega

set_option maxHeartbeats 1000000 in
theorem iDiskFall_neg {w : World} {v : Value} {d : MDisk} {keep : Int} (h : RV diskL w v d) (hm : d.bulk ≤ 1073741824) (hk : keep < 0) :
    Calls Try.prog 14 #[v, .int .i64 keep] w (NewV diskL w ⟨d.Sure ++ d.Soft.take 0, []⟩) := by
  obtain ⟨ASure, cSure, ASoft, cSoft, rfl, rSure, rSoft⟩ := rv_disk h
  unfold MDisk.bulk at hm
  obtain ⟨wa, hwa, B0, sa, x_a, x_r⟩ := frame2 w 25 [.slice ASure d.Sure.length cSure, .slice ASoft d.Soft.length cSoft] 25 [.slice none 0 0, .slice none 0 0]
  have sa_1 := Nat.le_of_eq sa
  have sa_2 := Nat.le_of_eq sa.symm
  clear sa
  have c_a_0_wa := x_a.cell (i := 0) rfl
  have f_a_0_wa := x_a.frozen 0
  have c_a_1_wa := x_a.cell (i := 1) rfl
  have f_a_1_wa := x_a.frozen 1
  have c_r_0_wa := x_r.cell (i := 0) rfl
  have f_r_0_wa := x_r.frozen 0
  have c_r_1_wa := x_r.cell (i := 1) rfl
  have f_r_1_wa := x_r.frozen 1
  have le1 := rSoft.le_
  unfold maxLen at le1
  have g2 : decide ((d.Soft.length : Int) < 0) = false := decide_eq_false (by omega)
  have g3 : (0 : Int) ≤ (cSoft : Int) := by omega
  obtain ⟨LL, hLL⟩ : ∃ L, L = d.Soft.take 0 := ⟨_, rfl⟩
  have lLL : LL.length = 0 := by rw [hLL, List.length_take]; omega
  have rL : RS .u8 w (.slice ASoft 0 0) LL := by rw [hLL]; exact rSoft.cut_ (by omega) (by omega)
  rw [← hLL]
  clear hLL
  obtain ⟨L, hL⟩ : ∃ L, L = d.Sure ++ LL := ⟨_, rfl⟩
  have lL := congrArg List.length hL
  simp only [List.length_append] at lL
  have HL := Lib.hid hL
  clear hL
  have lL_1 := Nat.le_of_eq lL
  have lL_2 := Nat.le_of_eq lL.symm
  clear lL
  rw [← HL.out]
  rw [lLL] at lL_1 lL_2
  have HLL := Lib.hid lLL
  clear lLL
  go_enter Try.func14, Try.ntmps14
  go_wp2_with fail
  go_region_held3 (fun w' => w'.cell? ⟨w.heap.size, 0, none⟩ = some (.slice ASure d.Sure.length cSure) ∧ w'.cell? ⟨w.heap.size, 1, none⟩ = some (.slice ASoft d.Soft.length cSoft))
    (first | exact ⟨c_a_0_wa, c_a_1_wa⟩ | exact ⟨q0_a_0, q0_a_1⟩ | go_keep)
    (first | ((go_at_call 39); (refine (iJoined_c (w := wa.drew) (rSure.from_ (B0.drew)) (rL.from_ (B0.drew)) (by omega) (by have := HLL.out; omega)).mono ?_); rintro e w_0 ⟨u0, rfl, o0, hd_0⟩; have hb_0 : Below wa.heap.size wa w_0 := (Below.refl wa.heap.size wa).drew.trans hd_0; have sd_0 := hd_0.size; replace sd_0 : wa.heap.size ≤ w_0.heap.size := sd_0; have q0_a_0 := (x_a.from_ hb_0).cell (i := 0) rfl; have q0_a_1 := (x_a.from_ hb_0).cell (i := 1) rfl; have q0_r_0 := (x_r.from_ hb_0).cell (i := 0) rfl; have p0_r_0 := (x_r.from_ hb_0).frozen 0; have q0_r_1 := (x_r.from_ hb_0).cell (i := 1) rfl; have p0_r_1 := (x_r.from_ hb_0).frozen 1; rw [← HL.out] at o0; obtain ⟨A1, k1, rfl, -, -, -⟩ := o0.rd)
           | fail)
  clear c_a_0_wa f_a_0_wa c_a_1_wa f_a_1_wa c_r_0_wa f_r_0_wa c_r_1_wa f_r_1_wa
  have dz_wa : wa.drew.heap.size = wa.heap.size := rfl
  replace x_a := x_a.from_ hb_0
  replace x_r := x_r.from_ hb_0
  have B_0 := B0.trans (hb_0.mono B0.size)
  have sz_0 := hb_0.size
  have c_r_0_w_0 := x_r.cell (i := 0) rfl
  have f_r_0_w_0 := x_r.frozen 0
  have c_r_1_w_0 := x_r.cell (i := 1) rfl
  have f_r_1_w_0 := x_r.frozen 1
  obtain ⟨w1, e_w1, s_w1, h_w1, y⟩ := store_step x_r [.slice A1 L.length k1, .slice none 0 0] rfl
  replace e_w1 : ((w_0.setCell ⟨w.heap.size + 1, 0, none⟩ (.slice A1 L.length k1)).setCell ⟨w.heap.size + 1, 1, none⟩ (.slice none 0 0)) = w1 := e_w1
  have s_w1_1 := Nat.le_of_eq s_w1
  have s_w1_2 := Nat.le_of_eq s_w1.symm
  clear s_w1
  replace x_a := x_a.chg h_w1 (by omega)
  replace o0 := o0.chg h_w1 (by omega)
  have B_w1 := Below.chg_ B_0 h_w1 (by omega) (by omega)
  replace x_r : Vr w1 (w.heap.size + 1) 25 [.slice A1 L.length k1, .slice none 0 0] := y
  clear y
  have c_r_0_w1 := x_r.cell (i := 0) rfl
  have f_r_0_w1 := x_r.frozen 0
  have c_r_1_w1 := x_r.cell (i := 1) rfl
  have f_r_1_w1 := x_r.frozen 1
  rw [e_w1]
  go_wp2
  refine ret_cell (by rfl) (by rfl) x_r Try.underlying25 sz_disk (by rfl) ?_
  exact ⟨_, rfl, ov_disk (d := ⟨L, []⟩) o0 (os_nil (lo := w.heap.size) (hi := w.heap.size) (by omega)) (by omega), B_w1⟩

set_option maxHeartbeats 1000000 in
theorem iDiskFall_mid {w : World} {v : Value} {d : MDisk} {K : Nat} (h : RV diskL w v d) (hm : d.bulk ≤ 1073741824) (hk : K ≤ d.Soft.length) :
    Calls Try.prog 14 #[v, .int .i64 (K : Int)] w (NewV diskL w ⟨d.Sure ++ d.Soft.take K, []⟩) := by
  obtain ⟨ASure, cSure, ASoft, cSoft, rfl, rSure, rSoft⟩ := rv_disk h
  unfold MDisk.bulk at hm
  obtain ⟨wa, hwa, B0, sa, x_a, x_r⟩ := frame2 w 25 [.slice ASure d.Sure.length cSure, .slice ASoft d.Soft.length cSoft] 25 [.slice none 0 0, .slice none 0 0]
  have sa_1 := Nat.le_of_eq sa
  have sa_2 := Nat.le_of_eq sa.symm
  clear sa
  have c_a_0_wa := x_a.cell (i := 0) rfl
  have f_a_0_wa := x_a.frozen 0
  have c_a_1_wa := x_a.cell (i := 1) rfl
  have f_a_1_wa := x_a.frozen 1
  have c_r_0_wa := x_r.cell (i := 0) rfl
  have f_r_0_wa := x_r.frozen 0
  have c_r_1_wa := x_r.cell (i := 1) rfl
  have f_r_1_wa := x_r.frozen 1
  have le1 := rSoft.le_
  unfold maxLen at le1
  have g1 : decide ((K : Int) < 0) = false := decide_eq_false (by omega)
  have g2 : decide ((d.Soft.length : Int) < (K : Int)) = false := decide_eq_false (by omega)
  have g2n : decide (d.Soft.length < K) = false := decide_eq_false (by omega)
  have g3 : (K : Int) ≤ (cSoft : Int) := by omega
  obtain ⟨LL, hLL⟩ : ∃ L, L = d.Soft.take K := ⟨_, rfl⟩
  have lLL : LL.length = K := by rw [hLL, List.length_take]; omega
  have rL : RS .u8 w (.slice ASoft K K) LL := by rw [hLL]; exact rSoft.cut_ (by omega) (by omega)
  rw [← hLL]
  clear hLL
  obtain ⟨L, hL⟩ : ∃ L, L = d.Sure ++ LL := ⟨_, rfl⟩
  have lL := congrArg List.length hL
  simp only [List.length_append] at lL
  have HL := Lib.hid hL
  clear hL
  have lL_1 := Nat.le_of_eq lL
  have lL_2 := Nat.le_of_eq lL.symm
  clear lL
  rw [← HL.out]
  rw [lLL] at lL_1 lL_2
  have HLL := Lib.hid lLL
  clear lLL
  go_enter Try.func14, Try.ntmps14
  go_wp2_with fail
  go_region_held3 (fun w' => w'.cell? ⟨w.heap.size, 0, none⟩ = some (.slice ASure d.Sure.length cSure) ∧ w'.cell? ⟨w.heap.size, 1, none⟩ = some (.slice ASoft d.Soft.length cSoft))
    (first | exact ⟨c_a_0_wa, c_a_1_wa⟩ | exact ⟨q0_a_0, q0_a_1⟩ | go_keep)
    (first | ((go_at_call 39); (refine (iJoined_c (w := wa.drew) (rSure.from_ (B0.drew)) (rL.from_ (B0.drew)) (by omega) (by have := HLL.out; omega)).mono ?_); rintro e w_0 ⟨u0, rfl, o0, hd_0⟩; have hb_0 : Below wa.heap.size wa w_0 := (Below.refl wa.heap.size wa).drew.trans hd_0; have sd_0 := hd_0.size; replace sd_0 : wa.heap.size ≤ w_0.heap.size := sd_0; have q0_a_0 := (x_a.from_ hb_0).cell (i := 0) rfl; have q0_a_1 := (x_a.from_ hb_0).cell (i := 1) rfl; have q0_r_0 := (x_r.from_ hb_0).cell (i := 0) rfl; have p0_r_0 := (x_r.from_ hb_0).frozen 0; have q0_r_1 := (x_r.from_ hb_0).cell (i := 1) rfl; have p0_r_1 := (x_r.from_ hb_0).frozen 1; rw [← HL.out] at o0; obtain ⟨A1, k1, rfl, -, -, -⟩ := o0.rd)
           | fail)
  clear c_a_0_wa f_a_0_wa c_a_1_wa f_a_1_wa c_r_0_wa f_r_0_wa c_r_1_wa f_r_1_wa
  have dz_wa : wa.drew.heap.size = wa.heap.size := rfl
  replace x_a := x_a.from_ hb_0
  replace x_r := x_r.from_ hb_0
  have B_0 := B0.trans (hb_0.mono B0.size)
  have sz_0 := hb_0.size
  have c_r_0_w_0 := x_r.cell (i := 0) rfl
  have f_r_0_w_0 := x_r.frozen 0
  have c_r_1_w_0 := x_r.cell (i := 1) rfl
  have f_r_1_w_0 := x_r.frozen 1
  obtain ⟨w1, e_w1, s_w1, h_w1, y⟩ := store_step x_r [.slice A1 L.length k1, .slice none 0 0] rfl
  replace e_w1 : ((w_0.setCell ⟨w.heap.size + 1, 0, none⟩ (.slice A1 L.length k1)).setCell ⟨w.heap.size + 1, 1, none⟩ (.slice none 0 0)) = w1 := e_w1
  have s_w1_1 := Nat.le_of_eq s_w1
  have s_w1_2 := Nat.le_of_eq s_w1.symm
  clear s_w1
  replace x_a := x_a.chg h_w1 (by omega)
  replace o0 := o0.chg h_w1 (by omega)
  have B_w1 := Below.chg_ B_0 h_w1 (by omega) (by omega)
  replace x_r : Vr w1 (w.heap.size + 1) 25 [.slice A1 L.length k1, .slice none 0 0] := y
  clear y
  have c_r_0_w1 := x_r.cell (i := 0) rfl
  have f_r_0_w1 := x_r.frozen 0
  have c_r_1_w1 := x_r.cell (i := 1) rfl
  have f_r_1_w1 := x_r.frozen 1
  rw [e_w1]
  go_wp2
  refine ret_cell (by rfl) (by rfl) x_r Try.underlying25 sz_disk (by rfl) ?_
  exact ⟨_, rfl, ov_disk (d := ⟨L, []⟩) o0 (os_nil (lo := w.heap.size) (hi := w.heap.size) (by omega)) (by omega), B_w1⟩

set_option maxHeartbeats 1000000 in
theorem iDiskFall_big {w : World} {v : Value} {d : MDisk} {keep : Int} (h : RV diskL w v d) (hm : d.bulk ≤ 1073741824) (hk : (d.Soft.length : Int) < keep) (hk2 : keep ≤ 9223372036854775807) :
    Calls Try.prog 14 #[v, .int .i64 keep] w (NewV diskL w ⟨d.Sure ++ d.Soft.take d.Soft.length, []⟩) := by
  obtain ⟨ASure, cSure, ASoft, cSoft, rfl, rSure, rSoft⟩ := rv_disk h
  unfold MDisk.bulk at hm
  obtain ⟨wa, hwa, B0, sa, x_a, x_r⟩ := frame2 w 25 [.slice ASure d.Sure.length cSure, .slice ASoft d.Soft.length cSoft] 25 [.slice none 0 0, .slice none 0 0]
  have sa_1 := Nat.le_of_eq sa
  have sa_2 := Nat.le_of_eq sa.symm
  clear sa
  have c_a_0_wa := x_a.cell (i := 0) rfl
  have f_a_0_wa := x_a.frozen 0
  have c_a_1_wa := x_a.cell (i := 1) rfl
  have f_a_1_wa := x_a.frozen 1
  have c_r_0_wa := x_r.cell (i := 0) rfl
  have f_r_0_wa := x_r.frozen 0
  have c_r_1_wa := x_r.cell (i := 1) rfl
  have f_r_1_wa := x_r.frozen 1
  have le1 := rSoft.le_
  unfold maxLen at le1
  have g1 : decide (keep < 0) = false := decide_eq_false (by omega)
  have g3 : (d.Soft.length : Int) ≤ (cSoft : Int) := by omega
  obtain ⟨LL, hLL⟩ : ∃ L, L = d.Soft.take d.Soft.length := ⟨_, rfl⟩
  have lLL : LL.length = d.Soft.length := by rw [hLL, List.length_take]; omega
  have rL : RS .u8 w (.slice ASoft d.Soft.length d.Soft.length) LL := by rw [hLL]; exact rSoft.cut_ (by omega) (by omega)
  rw [← hLL]
  clear hLL
  obtain ⟨L, hL⟩ : ∃ L, L = d.Sure ++ LL := ⟨_, rfl⟩
  have lL := congrArg List.length hL
  simp only [List.length_append] at lL
  have HL := Lib.hid hL
  clear hL
  have lL_1 := Nat.le_of_eq lL
  have lL_2 := Nat.le_of_eq lL.symm
  clear lL
  rw [← HL.out]
  rw [lLL] at lL_1 lL_2
  have HLL := Lib.hid lLL
  clear lLL
  go_enter Try.func14, Try.ntmps14
  go_wp2_with fail
  go_region_held3 (fun w' => w'.cell? ⟨w.heap.size, 0, none⟩ = some (.slice ASure d.Sure.length cSure) ∧ w'.cell? ⟨w.heap.size, 1, none⟩ = some (.slice ASoft d.Soft.length cSoft))
    (first | exact ⟨c_a_0_wa, c_a_1_wa⟩ | exact ⟨q0_a_0, q0_a_1⟩ | go_keep)
    (first | ((go_at_call 39); (refine (iJoined_c (w := wa.drew) (rSure.from_ (B0.drew)) (rL.from_ (B0.drew)) (by omega) (by have := HLL.out; omega)).mono ?_); rintro e w_0 ⟨u0, rfl, o0, hd_0⟩; have hb_0 : Below wa.heap.size wa w_0 := (Below.refl wa.heap.size wa).drew.trans hd_0; have sd_0 := hd_0.size; replace sd_0 : wa.heap.size ≤ w_0.heap.size := sd_0; have q0_a_0 := (x_a.from_ hb_0).cell (i := 0) rfl; have q0_a_1 := (x_a.from_ hb_0).cell (i := 1) rfl; have q0_r_0 := (x_r.from_ hb_0).cell (i := 0) rfl; have p0_r_0 := (x_r.from_ hb_0).frozen 0; have q0_r_1 := (x_r.from_ hb_0).cell (i := 1) rfl; have p0_r_1 := (x_r.from_ hb_0).frozen 1; rw [← HL.out] at o0; obtain ⟨A1, k1, rfl, -, -, -⟩ := o0.rd)
           | fail)
  clear c_a_0_wa f_a_0_wa c_a_1_wa f_a_1_wa c_r_0_wa f_r_0_wa c_r_1_wa f_r_1_wa
  have dz_wa : wa.drew.heap.size = wa.heap.size := rfl
  replace x_a := x_a.from_ hb_0
  replace x_r := x_r.from_ hb_0
  have B_0 := B0.trans (hb_0.mono B0.size)
  have sz_0 := hb_0.size
  have c_r_0_w_0 := x_r.cell (i := 0) rfl
  have f_r_0_w_0 := x_r.frozen 0
  have c_r_1_w_0 := x_r.cell (i := 1) rfl
  have f_r_1_w_0 := x_r.frozen 1
  obtain ⟨w1, e_w1, s_w1, h_w1, y⟩ := store_step x_r [.slice A1 L.length k1, .slice none 0 0] rfl
  replace e_w1 : ((w_0.setCell ⟨w.heap.size + 1, 0, none⟩ (.slice A1 L.length k1)).setCell ⟨w.heap.size + 1, 1, none⟩ (.slice none 0 0)) = w1 := e_w1
  have s_w1_1 := Nat.le_of_eq s_w1
  have s_w1_2 := Nat.le_of_eq s_w1.symm
  clear s_w1
  replace x_a := x_a.chg h_w1 (by omega)
  replace o0 := o0.chg h_w1 (by omega)
  have B_w1 := Below.chg_ B_0 h_w1 (by omega) (by omega)
  replace x_r : Vr w1 (w.heap.size + 1) 25 [.slice A1 L.length k1, .slice none 0 0] := y
  clear y
  have c_r_0_w1 := x_r.cell (i := 0) rfl
  have f_r_0_w1 := x_r.frozen 0
  have c_r_1_w1 := x_r.cell (i := 1) rfl
  have f_r_1_w1 := x_r.frozen 1
  rw [e_w1]
  go_wp2
  refine ret_cell (by rfl) (by rfl) x_r Try.underlying25 sz_disk (by rfl) ?_
  exact ⟨_, rfl, ov_disk (d := ⟨L, []⟩) o0 (os_nil (lo := w.heap.size) (hi := w.heap.size) (by omega)) (by omega), B_w1⟩

theorem iDiskFall_c {w : World} {v : Value} {d : MDisk} {keep : Int} (h : RV diskL w v d) (hm : d.bulk ≤ 1073741824) (hk2 : keep ≤ 9223372036854775807) :
    Calls Try.prog 14 #[v, .int .i64 keep] w (NewV diskL w (diskFall d keep)) := by
  unfold diskFall
  by_cases h0 : keep < 0
  · rw [show keep.toNat = 0 by omega]; exact iDiskFall_neg h hm h0
  · by_cases h1 : (d.Soft.length : Int) < keep
    · rw [show d.Soft.take keep.toNat = d.Soft.take d.Soft.length by rw [List.take_of_length_le (by omega), List.take_of_length_le (Nat.le_refl _)]]
      exact iDiskFall_big h hm h1 hk2
    · obtain ⟨K, rfl⟩ : ∃ K : Nat, keep = (K : Int) := ⟨keep.toNat, by omega⟩
      rw [Int.toNat_natCast]
      exact iDiskFall_mid h hm (by omega)

set_option maxHeartbeats 1000000 in
theorem sDiskFall_neg {w : World} {v : Value} {d : MDisk} {keep : Int} (h : RV diskL w v d) (hm : d.bulk ≤ 1073741824) (hk : keep < 0) :
    Calls Try.prog 34 #[v, .int .i64 keep] w (NewV diskL w ⟨d.Sure ++ d.Soft.take 0, []⟩) := by
  obtain ⟨ASure, cSure, ASoft, cSoft, rfl, rSure, rSoft⟩ := rv_disk h
  unfold MDisk.bulk at hm
  obtain ⟨i0, hi, hz0, hz1, hz2⟩ := info_parts Try.info_u8
  obtain ⟨wa, hwa, B0, sa, x_a, x_r⟩ := frame2 w 25 [.slice ASure d.Sure.length cSure, .slice ASoft d.Soft.length cSoft] 25 [.slice none 0 0, .slice none 0 0]
  have sa_1 := Nat.le_of_eq sa
  have sa_2 := Nat.le_of_eq sa.symm
  clear sa
  have c_a_0_wa := x_a.cell (i := 0) rfl
  have f_a_0_wa := x_a.frozen 0
  have c_a_1_wa := x_a.cell (i := 1) rfl
  have f_a_1_wa := x_a.frozen 1
  have c_r_0_wa := x_r.cell (i := 0) rfl
  have f_r_0_wa := x_r.frozen 0
  have c_r_1_wa := x_r.cell (i := 1) rfl
  have f_r_1_wa := x_r.frozen 1
  have le1 := rSoft.le_
  unfold maxLen at le1
  have g2 : decide ((d.Soft.length : Int) < 0) = false := decide_eq_false (by omega)
  have g3 : (0 : Int) ≤ (cSoft : Int) := by omega
  obtain ⟨LL, hLL⟩ : ∃ L, L = d.Soft.take 0 := ⟨_, rfl⟩
  have lLL : LL.length = 0 := by rw [hLL, List.length_take]; omega
  have rL : RS .u8 w (.slice ASoft 0 cSoft) LL := by rw [hLL]; exact rSoft.cut_ (by omega) (by omega)
  rw [← hLL]
  clear hLL
  obtain ⟨L, hL⟩ : ∃ L, L = d.Sure ++ LL := ⟨_, rfl⟩
  have lL := congrArg List.length hL
  simp only [List.length_append] at lL
  have HL := Lib.hid hL
  clear hL
  have lL_1 := Nat.le_of_eq lL
  have lL_2 := Nat.le_of_eq lL.symm
  clear lL
  rw [← HL.out]
  rw [lLL] at lL_1 lL_2
  have HLL := Lib.hid lLL
  clear lLL
  go_enter Try.func34, Try.ntmps34
  go_wp2_with fail
  go_region_held3 (fun w' => w'.cell? ⟨w.heap.size, 0, none⟩ = some (.slice ASure d.Sure.length cSure) ∧ w'.cell? ⟨w.heap.size, 1, none⟩ = some (.slice ASoft d.Soft.length cSoft))
    (first | exact ⟨c_a_0_wa, c_a_1_wa⟩ | exact ⟨q0_a_0, q0_a_1⟩ | exact ⟨qA_a.cell (i := 0) rfl, qA_a.cell (i := 1) rfl⟩ | go_keep)
    (first | ((go_at_call 43); (refine (sCopy_c (w := wa.drew) (rSure.from_ (B0.drew)) (by omega)).mono ?_); rintro e w_0 ⟨u0, rfl, o0, hd_0⟩; have hb_0 : Below wa.heap.size wa w_0 := (Below.refl wa.heap.size wa).drew.trans hd_0; have sd_0 := hd_0.size; replace sd_0 : wa.heap.size ≤ w_0.heap.size := sd_0; have q0_a_0 := (x_a.from_ hb_0).cell (i := 0) rfl; have q0_a_1 := (x_a.from_ hb_0).cell (i := 1) rfl; have q0_r_0 := (x_r.from_ hb_0).cell (i := 0) rfl; have p0_r_0 := (x_r.from_ hb_0).frozen 0; have q0_r_1 := (x_r.from_ hb_0).cell (i := 1) rfl; have p0_r_1 := (x_r.from_ hb_0).frozen 1; obtain ⟨A1, k1, rfl, -, -, -⟩ := o0.rd)
           | (refine step_appI .u8 (by rfl) (.tmp 17) (.tmp 21) 22 (by rfl) _ 5 i0 1 Try.underlying22 hi hz0 hz1 hz2 (.slice A1 d.Sure.length k1) d.Sure (by rfl) o0.1 w.heap.size ASoft cSoft 0 LL (by rfl) HLL.out (rL.rd_.below (B0.trans (hb_0.mono B0.size))) (by omega) (by omega) hd_0.size ?_; intro v2 w_A ho2 hg2 hat2; rw [← HL.out] at ho2; obtain ⟨A3, k3, rfl, -, -, -⟩ := own_form ho2; have hb_A : Below wa.heap.size wa w_A := grown_below hb_0 o0.1 hg2 (Nat.le_refl _) sd_0; have qA_a := x_a.from_ hb_A; have qA_r := x_r.from_ hb_A; have pA0 := qA_r.cell (i := 0) rfl; have pA1 := qA_r.cell (i := 1) rfl; have pA2 := qA_r.frozen 0; have pA3 := qA_r.frozen 1; replace o0 := OS.mk_ ho2; clear ho2 hg2 hat2)
           | fail)
  clear c_a_0_wa f_a_0_wa c_a_1_wa f_a_1_wa c_r_0_wa f_r_0_wa c_r_1_wa f_r_1_wa
  have dz_wa : wa.drew.heap.size = wa.heap.size := rfl
  replace x_a := x_a.from_ hb_A
  replace x_r := x_r.from_ hb_A
  have B_A := B0.trans (hb_A.mono B0.size)
  have sz_A := hb_A.size
  have c_r_0_w_A := x_r.cell (i := 0) rfl
  have f_r_0_w_A := x_r.frozen 0
  have c_r_1_w_A := x_r.cell (i := 1) rfl
  have f_r_1_w_A := x_r.frozen 1
  obtain ⟨w1, e_w1, s_w1, h_w1, y⟩ := store_step x_r [.slice A3 L.length k3, .slice none 0 0] rfl
  replace e_w1 : ((w_A.setCell ⟨w.heap.size + 1, 0, none⟩ (.slice A3 L.length k3)).setCell ⟨w.heap.size + 1, 1, none⟩ (.slice none 0 0)) = w1 := e_w1
  have s_w1_1 := Nat.le_of_eq s_w1
  have s_w1_2 := Nat.le_of_eq s_w1.symm
  clear s_w1
  replace x_a := x_a.chg h_w1 (by omega)
  replace o0 := o0.chg h_w1 (by omega)
  have B_w1 := Below.chg_ B_A h_w1 (by omega) (by omega)
  replace x_r : Vr w1 (w.heap.size + 1) 25 [.slice A3 L.length k3, .slice none 0 0] := y
  clear y
  have c_r_0_w1 := x_r.cell (i := 0) rfl
  have f_r_0_w1 := x_r.frozen 0
  have c_r_1_w1 := x_r.cell (i := 1) rfl
  have f_r_1_w1 := x_r.frozen 1
  rw [e_w1]
  go_wp2
  refine ret_cell (by rfl) (by rfl) x_r Try.underlying25 sz_disk (by rfl) ?_
  exact ⟨_, rfl, ov_disk (d := ⟨L, []⟩) o0 (os_nil (lo := w.heap.size) (hi := w.heap.size) (by omega)) (by omega), B_w1⟩

set_option maxHeartbeats 1000000 in
theorem sDiskFall_mid {w : World} {v : Value} {d : MDisk} {K : Nat} (h : RV diskL w v d) (hm : d.bulk ≤ 1073741824) (hk : K ≤ d.Soft.length) :
    Calls Try.prog 34 #[v, .int .i64 (K : Int)] w (NewV diskL w ⟨d.Sure ++ d.Soft.take K, []⟩) := by
  obtain ⟨ASure, cSure, ASoft, cSoft, rfl, rSure, rSoft⟩ := rv_disk h
  unfold MDisk.bulk at hm
  obtain ⟨i0, hi, hz0, hz1, hz2⟩ := info_parts Try.info_u8
  obtain ⟨wa, hwa, B0, sa, x_a, x_r⟩ := frame2 w 25 [.slice ASure d.Sure.length cSure, .slice ASoft d.Soft.length cSoft] 25 [.slice none 0 0, .slice none 0 0]
  have sa_1 := Nat.le_of_eq sa
  have sa_2 := Nat.le_of_eq sa.symm
  clear sa
  have c_a_0_wa := x_a.cell (i := 0) rfl
  have f_a_0_wa := x_a.frozen 0
  have c_a_1_wa := x_a.cell (i := 1) rfl
  have f_a_1_wa := x_a.frozen 1
  have c_r_0_wa := x_r.cell (i := 0) rfl
  have f_r_0_wa := x_r.frozen 0
  have c_r_1_wa := x_r.cell (i := 1) rfl
  have f_r_1_wa := x_r.frozen 1
  have le1 := rSoft.le_
  unfold maxLen at le1
  have g1 : decide ((K : Int) < 0) = false := decide_eq_false (by omega)
  have g2 : decide ((d.Soft.length : Int) < (K : Int)) = false := decide_eq_false (by omega)
  have g2n : decide (d.Soft.length < K) = false := decide_eq_false (by omega)
  have g3 : (K : Int) ≤ (cSoft : Int) := by omega
  obtain ⟨LL, hLL⟩ : ∃ L, L = d.Soft.take K := ⟨_, rfl⟩
  have lLL : LL.length = K := by rw [hLL, List.length_take]; omega
  have rL : RS .u8 w (.slice ASoft K cSoft) LL := by rw [hLL]; exact rSoft.cut_ (by omega) (by omega)
  rw [← hLL]
  clear hLL
  obtain ⟨L, hL⟩ : ∃ L, L = d.Sure ++ LL := ⟨_, rfl⟩
  have lL := congrArg List.length hL
  simp only [List.length_append] at lL
  have HL := Lib.hid hL
  clear hL
  have lL_1 := Nat.le_of_eq lL
  have lL_2 := Nat.le_of_eq lL.symm
  clear lL
  rw [← HL.out]
  rw [lLL] at lL_1 lL_2
  have HLL := Lib.hid lLL
  clear lLL
  go_enter Try.func34, Try.ntmps34
  go_wp2_with fail
  go_region_held3 (fun w' => w'.cell? ⟨w.heap.size, 0, none⟩ = some (.slice ASure d.Sure.length cSure) ∧ w'.cell? ⟨w.heap.size, 1, none⟩ = some (.slice ASoft d.Soft.length cSoft))
    (first | exact ⟨c_a_0_wa, c_a_1_wa⟩ | exact ⟨q0_a_0, q0_a_1⟩ | exact ⟨qA_a.cell (i := 0) rfl, qA_a.cell (i := 1) rfl⟩ | go_keep)
    (first | ((go_at_call 43); (refine (sCopy_c (w := wa.drew) (rSure.from_ (B0.drew)) (by omega)).mono ?_); rintro e w_0 ⟨u0, rfl, o0, hd_0⟩; have hb_0 : Below wa.heap.size wa w_0 := (Below.refl wa.heap.size wa).drew.trans hd_0; have sd_0 := hd_0.size; replace sd_0 : wa.heap.size ≤ w_0.heap.size := sd_0; have q0_a_0 := (x_a.from_ hb_0).cell (i := 0) rfl; have q0_a_1 := (x_a.from_ hb_0).cell (i := 1) rfl; have q0_r_0 := (x_r.from_ hb_0).cell (i := 0) rfl; have p0_r_0 := (x_r.from_ hb_0).frozen 0; have q0_r_1 := (x_r.from_ hb_0).cell (i := 1) rfl; have p0_r_1 := (x_r.from_ hb_0).frozen 1; obtain ⟨A1, k1, rfl, -, -, -⟩ := o0.rd)
           | (refine step_appI .u8 (by rfl) (.tmp 17) (.tmp 21) 22 (by rfl) _ 5 i0 1 Try.underlying22 hi hz0 hz1 hz2 (.slice A1 d.Sure.length k1) d.Sure (by rfl) o0.1 w.heap.size ASoft cSoft K LL (by rfl) HLL.out (rL.rd_.below (B0.trans (hb_0.mono B0.size))) (by omega) (by omega) hd_0.size ?_; intro v2 w_A ho2 hg2 hat2; rw [← HL.out] at ho2; obtain ⟨A3, k3, rfl, -, -, -⟩ := own_form ho2; have hb_A : Below wa.heap.size wa w_A := grown_below hb_0 o0.1 hg2 (Nat.le_refl _) sd_0; have qA_a := x_a.from_ hb_A; have qA_r := x_r.from_ hb_A; have pA0 := qA_r.cell (i := 0) rfl; have pA1 := qA_r.cell (i := 1) rfl; have pA2 := qA_r.frozen 0; have pA3 := qA_r.frozen 1; replace o0 := OS.mk_ ho2; clear ho2 hg2 hat2)
           | fail)
  clear c_a_0_wa f_a_0_wa c_a_1_wa f_a_1_wa c_r_0_wa f_r_0_wa c_r_1_wa f_r_1_wa
  have dz_wa : wa.drew.heap.size = wa.heap.size := rfl
  replace x_a := x_a.from_ hb_A
  replace x_r := x_r.from_ hb_A
  have B_A := B0.trans (hb_A.mono B0.size)
  have sz_A := hb_A.size
  have c_r_0_w_A := x_r.cell (i := 0) rfl
  have f_r_0_w_A := x_r.frozen 0
  have c_r_1_w_A := x_r.cell (i := 1) rfl
  have f_r_1_w_A := x_r.frozen 1
  obtain ⟨w1, e_w1, s_w1, h_w1, y⟩ := store_step x_r [.slice A3 L.length k3, .slice none 0 0] rfl
  replace e_w1 : ((w_A.setCell ⟨w.heap.size + 1, 0, none⟩ (.slice A3 L.length k3)).setCell ⟨w.heap.size + 1, 1, none⟩ (.slice none 0 0)) = w1 := e_w1
  have s_w1_1 := Nat.le_of_eq s_w1
  have s_w1_2 := Nat.le_of_eq s_w1.symm
  clear s_w1
  replace x_a := x_a.chg h_w1 (by omega)
  replace o0 := o0.chg h_w1 (by omega)
  have B_w1 := Below.chg_ B_A h_w1 (by omega) (by omega)
  replace x_r : Vr w1 (w.heap.size + 1) 25 [.slice A3 L.length k3, .slice none 0 0] := y
  clear y
  have c_r_0_w1 := x_r.cell (i := 0) rfl
  have f_r_0_w1 := x_r.frozen 0
  have c_r_1_w1 := x_r.cell (i := 1) rfl
  have f_r_1_w1 := x_r.frozen 1
  rw [e_w1]
  go_wp2
  refine ret_cell (by rfl) (by rfl) x_r Try.underlying25 sz_disk (by rfl) ?_
  exact ⟨_, rfl, ov_disk (d := ⟨L, []⟩) o0 (os_nil (lo := w.heap.size) (hi := w.heap.size) (by omega)) (by omega), B_w1⟩

set_option maxHeartbeats 1000000 in
theorem sDiskFall_big {w : World} {v : Value} {d : MDisk} {keep : Int} (h : RV diskL w v d) (hm : d.bulk ≤ 1073741824) (hk : (d.Soft.length : Int) < keep) (hk2 : keep ≤ 9223372036854775807) :
    Calls Try.prog 34 #[v, .int .i64 keep] w (NewV diskL w ⟨d.Sure ++ d.Soft.take d.Soft.length, []⟩) := by
  obtain ⟨ASure, cSure, ASoft, cSoft, rfl, rSure, rSoft⟩ := rv_disk h
  unfold MDisk.bulk at hm
  obtain ⟨i0, hi, hz0, hz1, hz2⟩ := info_parts Try.info_u8
  obtain ⟨wa, hwa, B0, sa, x_a, x_r⟩ := frame2 w 25 [.slice ASure d.Sure.length cSure, .slice ASoft d.Soft.length cSoft] 25 [.slice none 0 0, .slice none 0 0]
  have sa_1 := Nat.le_of_eq sa
  have sa_2 := Nat.le_of_eq sa.symm
  clear sa
  have c_a_0_wa := x_a.cell (i := 0) rfl
  have f_a_0_wa := x_a.frozen 0
  have c_a_1_wa := x_a.cell (i := 1) rfl
  have f_a_1_wa := x_a.frozen 1
  have c_r_0_wa := x_r.cell (i := 0) rfl
  have f_r_0_wa := x_r.frozen 0
  have c_r_1_wa := x_r.cell (i := 1) rfl
  have f_r_1_wa := x_r.frozen 1
  have le1 := rSoft.le_
  unfold maxLen at le1
  have g1 : decide (keep < 0) = false := decide_eq_false (by omega)
  have g3 : (d.Soft.length : Int) ≤ (cSoft : Int) := by omega
  obtain ⟨LL, hLL⟩ : ∃ L, L = d.Soft.take d.Soft.length := ⟨_, rfl⟩
  have lLL : LL.length = d.Soft.length := by rw [hLL, List.length_take]; omega
  have rL : RS .u8 w (.slice ASoft d.Soft.length cSoft) LL := by rw [hLL]; exact rSoft.cut_ (by omega) (by omega)
  rw [← hLL]
  clear hLL
  obtain ⟨L, hL⟩ : ∃ L, L = d.Sure ++ LL := ⟨_, rfl⟩
  have lL := congrArg List.length hL
  simp only [List.length_append] at lL
  have HL := Lib.hid hL
  clear hL
  have lL_1 := Nat.le_of_eq lL
  have lL_2 := Nat.le_of_eq lL.symm
  clear lL
  rw [← HL.out]
  rw [lLL] at lL_1 lL_2
  have HLL := Lib.hid lLL
  clear lLL
  go_enter Try.func34, Try.ntmps34
  go_wp2_with fail
  go_region_held3 (fun w' => w'.cell? ⟨w.heap.size, 0, none⟩ = some (.slice ASure d.Sure.length cSure) ∧ w'.cell? ⟨w.heap.size, 1, none⟩ = some (.slice ASoft d.Soft.length cSoft))
    (first | exact ⟨c_a_0_wa, c_a_1_wa⟩ | exact ⟨q0_a_0, q0_a_1⟩ | exact ⟨qA_a.cell (i := 0) rfl, qA_a.cell (i := 1) rfl⟩ | go_keep)
    (first | ((go_at_call 43); (refine (sCopy_c (w := wa.drew) (rSure.from_ (B0.drew)) (by omega)).mono ?_); rintro e w_0 ⟨u0, rfl, o0, hd_0⟩; have hb_0 : Below wa.heap.size wa w_0 := (Below.refl wa.heap.size wa).drew.trans hd_0; have sd_0 := hd_0.size; replace sd_0 : wa.heap.size ≤ w_0.heap.size := sd_0; have q0_a_0 := (x_a.from_ hb_0).cell (i := 0) rfl; have q0_a_1 := (x_a.from_ hb_0).cell (i := 1) rfl; have q0_r_0 := (x_r.from_ hb_0).cell (i := 0) rfl; have p0_r_0 := (x_r.from_ hb_0).frozen 0; have q0_r_1 := (x_r.from_ hb_0).cell (i := 1) rfl; have p0_r_1 := (x_r.from_ hb_0).frozen 1; obtain ⟨A1, k1, rfl, -, -, -⟩ := o0.rd)
           | (refine step_appI .u8 (by rfl) (.tmp 17) (.tmp 21) 22 (by rfl) _ 5 i0 1 Try.underlying22 hi hz0 hz1 hz2 (.slice A1 d.Sure.length k1) d.Sure (by rfl) o0.1 w.heap.size ASoft cSoft d.Soft.length LL (by rfl) HLL.out (rL.rd_.below (B0.trans (hb_0.mono B0.size))) (by omega) (by omega) hd_0.size ?_; intro v2 w_A ho2 hg2 hat2; rw [← HL.out] at ho2; obtain ⟨A3, k3, rfl, -, -, -⟩ := own_form ho2; have hb_A : Below wa.heap.size wa w_A := grown_below hb_0 o0.1 hg2 (Nat.le_refl _) sd_0; have qA_a := x_a.from_ hb_A; have qA_r := x_r.from_ hb_A; have pA0 := qA_r.cell (i := 0) rfl; have pA1 := qA_r.cell (i := 1) rfl; have pA2 := qA_r.frozen 0; have pA3 := qA_r.frozen 1; replace o0 := OS.mk_ ho2; clear ho2 hg2 hat2)
           | fail)
  clear c_a_0_wa f_a_0_wa c_a_1_wa f_a_1_wa c_r_0_wa f_r_0_wa c_r_1_wa f_r_1_wa
  have dz_wa : wa.drew.heap.size = wa.heap.size := rfl
  replace x_a := x_a.from_ hb_A
  replace x_r := x_r.from_ hb_A
  have B_A := B0.trans (hb_A.mono B0.size)
  have sz_A := hb_A.size
  have c_r_0_w_A := x_r.cell (i := 0) rfl
  have f_r_0_w_A := x_r.frozen 0
  have c_r_1_w_A := x_r.cell (i := 1) rfl
  have f_r_1_w_A := x_r.frozen 1
  obtain ⟨w1, e_w1, s_w1, h_w1, y⟩ := store_step x_r [.slice A3 L.length k3, .slice none 0 0] rfl
  replace e_w1 : ((w_A.setCell ⟨w.heap.size + 1, 0, none⟩ (.slice A3 L.length k3)).setCell ⟨w.heap.size + 1, 1, none⟩ (.slice none 0 0)) = w1 := e_w1
  have s_w1_1 := Nat.le_of_eq s_w1
  have s_w1_2 := Nat.le_of_eq s_w1.symm
  clear s_w1
  replace x_a := x_a.chg h_w1 (by omega)
  replace o0 := o0.chg h_w1 (by omega)
  have B_w1 := Below.chg_ B_A h_w1 (by omega) (by omega)
  replace x_r : Vr w1 (w.heap.size + 1) 25 [.slice A3 L.length k3, .slice none 0 0] := y
  clear y
  have c_r_0_w1 := x_r.cell (i := 0) rfl
  have f_r_0_w1 := x_r.frozen 0
  have c_r_1_w1 := x_r.cell (i := 1) rfl
  have f_r_1_w1 := x_r.frozen 1
  rw [e_w1]
  go_wp2
  refine ret_cell (by rfl) (by rfl) x_r Try.underlying25 sz_disk (by rfl) ?_
  exact ⟨_, rfl, ov_disk (d := ⟨L, []⟩) o0 (os_nil (lo := w.heap.size) (hi := w.heap.size) (by omega)) (by omega), B_w1⟩

theorem sDiskFall_c {w : World} {v : Value} {d : MDisk} {keep : Int} (h : RV diskL w v d) (hm : d.bulk ≤ 1073741824) (hk2 : keep ≤ 9223372036854775807) :
    Calls Try.prog 34 #[v, .int .i64 keep] w (NewV diskL w (diskFall d keep)) := by
  unfold diskFall
  by_cases h0 : keep < 0
  · rw [show keep.toNat = 0 by omega]; exact sDiskFall_neg h hm h0
  · by_cases h1 : (d.Soft.length : Int) < keep
    · rw [show d.Soft.take keep.toNat = d.Soft.take d.Soft.length by rw [List.take_of_length_le (by omega), List.take_of_length_le (Nat.le_refl _)]]
      exact sDiskFall_big h hm h1 hk2
    · obtain ⟨K, rfl⟩ : ∃ K : Nat, keep = (K : Int) := ⟨keep.toNat, by omega⟩
      rw [Int.toNat_natCast]
      exact sDiskFall_mid h hm (by omega)

end Go.Proofs.Ytdggbjhfbimebaa
