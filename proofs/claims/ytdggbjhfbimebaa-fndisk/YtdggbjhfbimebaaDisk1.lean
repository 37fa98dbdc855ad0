/- The disk's functions: their models, and the contracts of those whose text leaves no order open. -/
import Derived.Test.YtdggbjhfbimebaaTDisk
import Derived.Test.YtdggbjhfbimebaaJoined
import Derived.Test.YtdggbjhfbimebaaSameBytes
namespace Go.Proofs.Ytdggbjhfbimebaa
open Go.RowKit
set_option linter.unusedVariables false

def diskZ : MDisk := ⟨[], []⟩
def diskOkB (d : MDisk) : Bool := decide (d.Sure.length + d.Soft.length ≤ 20000)
def diskWriteB (d : MDisk) (b : List Int) : Bool := decide (d.Sure.length + d.Soft.length + b.length ≤ 20000)
def diskWrite (d : MDisk) (b : List Int) : MDisk := if diskWriteB d b then ⟨d.Sure, d.Soft ++ b⟩ else diskZ
def diskAll (d : MDisk) : List Int := d.Sure ++ d.Soft
def diskSync (d : MDisk) : MDisk := ⟨d.Sure ++ d.Soft, []⟩
def diskFall (d : MDisk) (keep : Int) : MDisk := ⟨d.Sure ++ d.Soft.take keep.toNat, []⟩
def diskResetB (d : MDisk) (b : List Int) : Bool := decide (d.Soft.length = 0 ∧ b.length ≤ 20000)
def diskReset (d : MDisk) (b : List Int) : MDisk := if diskResetB d b then ⟨b, []⟩ else diskZ
def diskSameB (a b : MDisk) : Bool := decide (a.Sure = b.Sure) && decide (a.Soft = b.Soft)

theorem ret_bool {a b : Bool} (h : a = b) : Ending.returned (.bool a) = Ending.returned (.bool b) := by rw [h]
theorem os_nil {k : IntKind} {e : TypeId} {w : World} {lo hi : Nat} (h : hi ≤ w.heap.size) : OS k e w lo hi (.slice none 0 0) [] :=
  ⟨World.ownsRow_nil w lo e 1, fun j hj => by simp [Value.ownBlock] at hj, h⟩

set_option maxHeartbeats 1000000 in
theorem sDiskOk_c {w : World} {v : Value} {d : MDisk} (h : RV diskL w v d) (hm : d.bulk ≤ 1073741824) : Calls Try.prog 22 #[v] w fun e w' => e = .returned (.bool (diskOkB d)) ∧ Below w.heap.size w w' := by
  obtain ⟨ASure, cSure, ASoft, cSoft, rfl, rSure, rSoft⟩ := rv_disk h
  unfold MDisk.bulk at hm
  obtain ⟨wa, hwa, B0, sa, x_a⟩ := frame1 w 25 [.slice ASure d.Sure.length cSure, .slice ASoft d.Soft.length cSoft]
  have sa_1 := Nat.le_of_eq sa
  have sa_2 := Nat.le_of_eq sa.symm
  clear sa
  have c_a_0_wa := x_a.cell (i := 0) rfl
  have c_a_1_wa := x_a.cell (i := 1) rfl
  go_enter Try.func22, Try.ntmps22
  go_wp2
  go_ret
  exact ⟨ret_bool (by unfold diskOkB; exact decide_eq_decide.2 (by omega)), B0⟩

set_option maxHeartbeats 1000000 in
theorem iDiskOk_c {w : World} {v : Value} {d : MDisk} (h : RV diskL w v d) (hm : d.bulk ≤ 1073741824) : Calls Try.prog 17 #[v] w fun e w' => e = .returned (.bool (diskOkB d)) ∧ Below w.heap.size w w' := by
  obtain ⟨ASure, cSure, ASoft, cSoft, rfl, rSure, rSoft⟩ := rv_disk h
  unfold MDisk.bulk at hm
  obtain ⟨wa, hwa, B0, sa, x_a⟩ := frame1 w 25 [.slice ASure d.Sure.length cSure, .slice ASoft d.Soft.length cSoft]
  have sa_1 := Nat.le_of_eq sa
  have sa_2 := Nat.le_of_eq sa.symm
  clear sa
  have c_a_0_wa := x_a.cell (i := 0) rfl
  have c_a_1_wa := x_a.cell (i := 1) rfl
  go_enter Try.func17, Try.ntmps17
  go_wp2
  go_ret
  exact ⟨ret_bool (by unfold diskOkB; exact decide_eq_decide.2 (by omega)), B0⟩

set_option maxHeartbeats 1000000 in
theorem iDiskAll_c {w : World} {v : Value} {d : MDisk} (h : RV diskL w v d) (hm : d.bulk ≤ 1073741824) : Calls Try.prog 19 #[v] w (NewS .u8 5 w (diskAll d)) := by
  obtain ⟨ASure, cSure, ASoft, cSoft, rfl, rSure, rSoft⟩ := rv_disk h
  unfold MDisk.bulk at hm
  obtain ⟨wa, hwa, B0, sa, x_a⟩ := frame1 w 25 [.slice ASure d.Sure.length cSure, .slice ASoft d.Soft.length cSoft]
  have sa_1 := Nat.le_of_eq sa
  have sa_2 := Nat.le_of_eq sa.symm
  clear sa
  have c_a_0_wa := x_a.cell (i := 0) rfl
  have c_a_1_wa := x_a.cell (i := 1) rfl
  go_enter Try.func19, Try.ntmps19
  go_wp2_with fail
  refine (iJoined_c (rSure.from_ B0) (rSoft.from_ B0) (by omega) (by omega)).mono ?_
  rintro e w1 ⟨u, rfl, ou, h_w1⟩
  clear c_a_0_wa c_a_1_wa
  replace x_a := x_a.from_ h_w1
  have B_w1 := B0.trans (h_w1.mono B0.size)
  have s_w1 := h_w1.size
  go_wp2
  go_ret
  exact ⟨_, rfl, ou.widen (by omega) (Nat.le_refl _) (Nat.le_refl _), B_w1⟩

set_option maxHeartbeats 1000000 in
theorem iDiskSync_c {w : World} {v : Value} {d : MDisk} (h : RV diskL w v d) (hm : d.bulk ≤ 1073741824) : Calls Try.prog 15 #[v] w (NewV diskL w (diskSync d)) := by
  have h0 := h
  obtain ⟨ASure, cSure, ASoft, cSoft, rfl, rSure, rSoft⟩ := rv_disk h
  obtain ⟨wa, hwa, B0, sa, x_a, x_r⟩ := frame2 w 25 [.slice ASure d.Sure.length cSure, .slice ASoft d.Soft.length cSoft] 25 [.slice none 0 0, .slice none 0 0]
  have sa_1 := Nat.le_of_eq sa
  have sa_2 := Nat.le_of_eq sa.symm
  clear sa
  have c_a_0_wa := x_a.cell (i := 0) rfl
  have f_a_0_wa := x_a.frozen 0
  have c_a_1_wa := x_a.cell (i := 1) rfl
  have f_a_1_wa := x_a.frozen 1
  have c_r_0_wa := x_r.cell (i := 0) rfl
  have f_r_0_wa := x_r.frozen 0
  have c_r_1_wa := x_r.cell (i := 1) rfl
  have f_r_1_wa := x_r.frozen 1
  go_enter Try.func15, Try.ntmps15
  go_wp2_with fail
  refine (iDiskAll_c (h0.from_ B0) hm).mono ?_
  rintro e w1 ⟨u, rfl, ou, h_w1⟩
  clear c_a_0_wa f_a_0_wa c_a_1_wa f_a_1_wa c_r_0_wa f_r_0_wa c_r_1_wa f_r_1_wa
  replace x_a := x_a.from_ h_w1
  replace x_r := x_r.from_ h_w1
  have B_w1 := B0.trans (h_w1.mono B0.size)
  have s_w1 := h_w1.size
  obtain ⟨A1, k1, rfl, -, -, -⟩ := ou.rd
  have c_a_0_w1 := x_a.cell (i := 0) rfl
  have f_a_0_w1 := x_a.frozen 0
  have c_a_1_w1 := x_a.cell (i := 1) rfl
  have f_a_1_w1 := x_a.frozen 1
  have c_r_0_w1 := x_r.cell (i := 0) rfl
  have f_r_0_w1 := x_r.frozen 0
  have c_r_1_w1 := x_r.cell (i := 1) rfl
  have f_r_1_w1 := x_r.frozen 1
  obtain ⟨w2, e_w2, s_w2, h_w2, y⟩ := store_step x_r [.slice A1 (diskAll d).length k1, .slice none 0 0] rfl
  replace e_w2 : ((w1.setCell ⟨w.heap.size + 1, 0, none⟩ (.slice A1 (diskAll d).length k1)).setCell ⟨w.heap.size + 1, 1, none⟩ (.slice none 0 0)) = w2 := e_w2
  have s_w2_1 := Nat.le_of_eq s_w2
  have s_w2_2 := Nat.le_of_eq s_w2.symm
  clear s_w2
  replace x_a := x_a.chg h_w2 (by omega)
  replace ou := ou.chg h_w2 (by omega)
  have B_w2 := Below.chg_ B_w1 h_w2 (by omega) (by omega)
  replace x_r : Vr w2 (w.heap.size + 1) 25 [.slice A1 (diskAll d).length k1, .slice none 0 0] := y
  clear y
  have c_r_0_w2 := x_r.cell (i := 0) rfl
  have f_r_0_w2 := x_r.frozen 0
  have c_r_1_w2 := x_r.cell (i := 1) rfl
  have f_r_1_w2 := x_r.frozen 1
  go_wp2
  refine ret_cell (by rfl) (by rfl) x_r Try.underlying25 sz_disk (by rfl) ?_
  exact ⟨_, rfl, ov_disk (d := diskSync d) ou (os_nil (lo := w.heap.size) (hi := w.heap.size) (by omega)) (by omega), B_w2⟩

set_option maxHeartbeats 1000000 in
theorem sDiskSame_c {w : World} {v v' : Value} {d d' : MDisk} (h : RV diskL w v d) (h' : RV diskL w v' d') (b0 : Bytes d.Sure) (b1 : Bytes d.Soft) (b2 : Bytes d'.Sure) (b3 : Bytes d'.Soft) : Calls Try.prog 36 #[v, v'] w fun e w' => e = .returned (.bool (diskSameB d d')) ∧ Below w.heap.size w w' := by
  obtain ⟨ASure, cSure, ASoft, cSoft, rfl, rSure, rSoft⟩ := rv_disk h
  obtain ⟨BSure, eSure, BSoft, eSoft, rfl, tSure, tSoft⟩ := rv_disk h'
  obtain ⟨wa, hwa, B0, sa, x_a, x_b⟩ := frame2 w 25 [.slice ASure d.Sure.length cSure, .slice ASoft d.Soft.length cSoft] 25 [.slice BSure d'.Sure.length eSure, .slice BSoft d'.Soft.length eSoft]
  have sa_1 := Nat.le_of_eq sa
  have sa_2 := Nat.le_of_eq sa.symm
  clear sa
  have c_a_0_wa := x_a.cell (i := 0) rfl
  have c_a_1_wa := x_a.cell (i := 1) rfl
  have c_b_0_wa := x_b.cell (i := 0) rfl
  have c_b_1_wa := x_b.cell (i := 1) rfl
  by_cases e0 : d.Sure = d'.Sure
  case neg =>
    have hd : decide (d.Sure = d'.Sure) = false := by simp [e0]
    rw [show diskSameB d d' = false by unfold diskSameB; rw [hd]; simp]
    have HD := Lib.hid hd
    have E0 := Lib.hid e0
    clear hd e0
    go_enter Try.func36, Try.ntmps36
    go_wp2_with fail
    refine (sSameBytes_b (rSure.from_ B0) (tSure.from_ B0) b0 b2).mono ?_
    rintro e w1 ⟨rfl, h_w1⟩
    clear c_a_0_wa c_a_1_wa c_b_0_wa c_b_1_wa
    replace x_a := x_a.from_ h_w1
    replace x_b := x_b.from_ h_w1
    have B_w1 := B0.trans (h_w1.mono B0.size)
    have s_w1 := h_w1.size
    rw [HD.out]
    have c_a_0_w1 := x_a.cell (i := 0) rfl
    have c_a_1_w1 := x_a.cell (i := 1) rfl
    have c_b_0_w1 := x_b.cell (i := 0) rfl
    have c_b_1_w1 := x_b.cell (i := 1) rfl
    go_wp2
    go_ret
    exact ⟨rfl, B_w1⟩
  case pos =>
    have hd : decide (d.Sure = d'.Sure) = true := by simp [e0]
    rw [show diskSameB d d' = decide (d.Soft = d'.Soft) by unfold diskSameB; rw [hd]; simp]
    have HD := Lib.hid hd
    have E0 := Lib.hid e0
    clear hd e0
    go_enter Try.func36, Try.ntmps36
    go_wp2_with fail
    refine (sSameBytes_b (rSure.from_ B0) (tSure.from_ B0) b0 b2).mono ?_
    rintro e w1 ⟨rfl, h_w1⟩
    clear c_a_0_wa c_a_1_wa c_b_0_wa c_b_1_wa
    replace x_a := x_a.from_ h_w1
    replace x_b := x_b.from_ h_w1
    have B_w1 := B0.trans (h_w1.mono B0.size)
    have s_w1 := h_w1.size
    rw [HD.out]
    have c_a_0_w1 := x_a.cell (i := 0) rfl
    have c_a_1_w1 := x_a.cell (i := 1) rfl
    have c_b_0_w1 := x_b.cell (i := 0) rfl
    have c_b_1_w1 := x_b.cell (i := 1) rfl
    go_wp2_with fail
    refine (sSameBytes_b (rSoft.from_ B_w1) (tSoft.from_ B_w1) b1 b3).mono ?_
    rintro e w2 ⟨rfl, h_w2⟩
    clear c_a_0_w1 c_a_1_w1 c_b_0_w1 c_b_1_w1
    replace x_a := x_a.from_ h_w2
    replace x_b := x_b.from_ h_w2
    have B_w2 := B_w1.trans (h_w2.mono B_w1.size)
    have s_w2 := h_w2.size
    go_wp2
    go_ret
    exact ⟨rfl, B_w2⟩

set_option maxHeartbeats 1000000 in
theorem iDiskSame_c {w : World} {v v' : Value} {d d' : MDisk} (h : RV diskL w v d) (h' : RV diskL w v' d') (b0 : Bytes d.Sure) (b1 : Bytes d.Soft) (b2 : Bytes d'.Sure) (b3 : Bytes d'.Soft) : Calls Try.prog 20 #[v, v'] w fun e w' => e = .returned (.bool (diskSameB d d')) ∧ Below w.heap.size w w' := by
  obtain ⟨ASure, cSure, ASoft, cSoft, rfl, rSure, rSoft⟩ := rv_disk h
  obtain ⟨BSure, eSure, BSoft, eSoft, rfl, tSure, tSoft⟩ := rv_disk h'
  obtain ⟨wa, hwa, B0, sa, x_a, x_b⟩ := frame2 w 25 [.slice ASure d.Sure.length cSure, .slice ASoft d.Soft.length cSoft] 25 [.slice BSure d'.Sure.length eSure, .slice BSoft d'.Soft.length eSoft]
  have sa_1 := Nat.le_of_eq sa
  have sa_2 := Nat.le_of_eq sa.symm
  clear sa
  have c_a_0_wa := x_a.cell (i := 0) rfl
  have c_a_1_wa := x_a.cell (i := 1) rfl
  have c_b_0_wa := x_b.cell (i := 0) rfl
  have c_b_1_wa := x_b.cell (i := 1) rfl
  by_cases e0 : d.Sure = d'.Sure
  case neg =>
    have hd : decide (d.Sure = d'.Sure) = false := by simp [e0]
    rw [show diskSameB d d' = false by unfold diskSameB; rw [hd]; simp]
    have HD := Lib.hid hd
    have E0 := Lib.hid e0
    clear hd e0
    go_enter Try.func20, Try.ntmps20
    go_wp2_with fail
    refine (iSameBytes_b (rSure.from_ B0) (tSure.from_ B0) b0 b2).mono ?_
    rintro e w1 ⟨rfl, h_w1⟩
    clear c_a_0_wa c_a_1_wa c_b_0_wa c_b_1_wa
    replace x_a := x_a.from_ h_w1
    replace x_b := x_b.from_ h_w1
    have B_w1 := B0.trans (h_w1.mono B0.size)
    have s_w1 := h_w1.size
    rw [HD.out]
    have c_a_0_w1 := x_a.cell (i := 0) rfl
    have c_a_1_w1 := x_a.cell (i := 1) rfl
    have c_b_0_w1 := x_b.cell (i := 0) rfl
    have c_b_1_w1 := x_b.cell (i := 1) rfl
    go_wp2
    go_ret
    exact ⟨rfl, B_w1⟩
  case pos =>
    have hd : decide (d.Sure = d'.Sure) = true := by simp [e0]
    rw [show diskSameB d d' = decide (d.Soft = d'.Soft) by unfold diskSameB; rw [hd]; simp]
    have HD := Lib.hid hd
    have E0 := Lib.hid e0
    clear hd e0
    go_enter Try.func20, Try.ntmps20
    go_wp2_with fail
    refine (iSameBytes_b (rSure.from_ B0) (tSure.from_ B0) b0 b2).mono ?_
    rintro e w1 ⟨rfl, h_w1⟩
    clear c_a_0_wa c_a_1_wa c_b_0_wa c_b_1_wa
    replace x_a := x_a.from_ h_w1
    replace x_b := x_b.from_ h_w1
    have B_w1 := B0.trans (h_w1.mono B0.size)
    have s_w1 := h_w1.size
    rw [HD.out]
    have c_a_0_w1 := x_a.cell (i := 0) rfl
    have c_a_1_w1 := x_a.cell (i := 1) rfl
    have c_b_0_w1 := x_b.cell (i := 0) rfl
    have c_b_1_w1 := x_b.cell (i := 1) rfl
    go_wp2_with fail
    refine (iSameBytes_b (rSoft.from_ B_w1) (tSoft.from_ B_w1) b1 b3).mono ?_
    rintro e w2 ⟨rfl, h_w2⟩
    clear c_a_0_w1 c_a_1_w1 c_b_0_w1 c_b_1_w1
    replace x_a := x_a.from_ h_w2
    replace x_b := x_b.from_ h_w2
    have B_w2 := B_w1.trans (h_w2.mono B_w1.size)
    have s_w2 := h_w2.size
    go_wp2
    go_ret
    exact ⟨rfl, B_w2⟩

set_option maxHeartbeats 1000000 in
theorem iDiskReset_c {w : World} {v v' : Value} {d : MDisk} {b : List Int} (h : RV diskL w v d) (h' : RS .u8 w v' b) (hm : d.bulk ≤ 1073741824) (hm' : b.length ≤ 1073741824) : Calls Try.prog 16 #[v, v'] w (NewVB diskL w (diskReset d b) (diskResetB d b)) := by
  obtain ⟨ASure, cSure, ASoft, cSoft, rfl, rSure, rSoft⟩ := rv_disk h
  unfold MDisk.bulk at hm
  obtain ⟨Ab, cb, rfl, hb1, hb2, hb3⟩ := h'
  have rb : RS .u8 w (.slice Ab b.length cb) b := ⟨_, _, rfl, hb1, hb2, hb3⟩
  clear hb1 hb2 hb3
  obtain ⟨wa, hwa, B0, sa, x_a, x_r⟩ := frame2 w 25 [.slice ASure d.Sure.length cSure, .slice ASoft d.Soft.length cSoft] 25 [.slice none 0 0, .slice none 0 0]
  have sa_1 := Nat.le_of_eq sa
  have sa_2 := Nat.le_of_eq sa.symm
  clear sa
  have c_a_0_wa := x_a.cell (i := 0) rfl
  have f_a_0_wa := x_a.frozen 0
  have c_a_1_wa := x_a.cell (i := 1) rfl
  have f_a_1_wa := x_a.frozen 1
  have c_r_0_wa := x_r.cell (i := 0) rfl
  have f_r_0_wa := x_r.frozen 0
  have c_r_1_wa := x_r.cell (i := 1) rfl
  have f_r_1_wa := x_r.frozen 1
  by_cases g0 : 0 < d.Soft.length
  case pos =>
    have e1 : diskResetB d b = false := decide_eq_false (by omega)
    have e2 : diskReset d b = diskZ := by unfold diskReset; rw [e1]; rfl
    rw [e1, e2]
    clear e1 e2
    have g0i : (0 : Int) < (d.Soft.length : Int) := by omega
    go_enter Try.func16, Try.ntmps16
    obtain ⟨w1, e_w1, s_w1, h_w1, y⟩ := store_step x_r [.slice none 0 0, .slice none 0 0] rfl
    replace e_w1 : ((wa.setCell ⟨w.heap.size + 1, 0, none⟩ (.slice none 0 0)).setCell ⟨w.heap.size + 1, 1, none⟩ (.slice none 0 0)) = w1 := e_w1
    have s_w1_1 := Nat.le_of_eq s_w1
    have s_w1_2 := Nat.le_of_eq s_w1.symm
    clear s_w1
    replace x_a := x_a.chg h_w1 (by omega)
    have B_w1 := Below.chg_ B0 h_w1 (by omega) (by omega)
    replace x_r : Vr w1 (w.heap.size + 1) 25 [.slice none 0 0, .slice none 0 0] := y
    clear y
    have c_r_0_w1 := x_r.cell (i := 0) rfl
    have f_r_0_w1 := x_r.frozen 0
    have c_r_1_w1 := x_r.cell (i := 1) rfl
    have f_r_1_w1 := x_r.frozen 1
    go_wp2
    refine ret_cell_tmp (by rfl) (by rfl) x_r Try.underlying25 sz_disk (by rfl) ?_
    exact ⟨_, rfl, ov_disk (d := diskZ) (os_nil (lo := w.heap.size) (hi := w.heap.size) (by omega)) (os_nil (lo := w.heap.size) (hi := w.heap.size) (by omega)) (by omega), B_w1⟩
  have g0i : decide ((0 : Int) < (d.Soft.length : Int)) = false := decide_eq_false (by omega)
  have g0n : decide (0 < d.Soft.length) = false := decide_eq_false (by omega)
  by_cases g1 : 20000 < b.length
  case pos =>
    have e1 : diskResetB d b = false := decide_eq_false (by omega)
    have e2 : diskReset d b = diskZ := by unfold diskReset; rw [e1]; rfl
    rw [e1, e2]
    clear e1 e2
    have g1i : (20000 : Int) < (b.length : Int) := by omega
    go_enter Try.func16, Try.ntmps16
    obtain ⟨w1, e_w1, s_w1, h_w1, y⟩ := store_step x_r [.slice none 0 0, .slice none 0 0] rfl
    replace e_w1 : ((wa.setCell ⟨w.heap.size + 1, 0, none⟩ (.slice none 0 0)).setCell ⟨w.heap.size + 1, 1, none⟩ (.slice none 0 0)) = w1 := e_w1
    have s_w1_1 := Nat.le_of_eq s_w1
    have s_w1_2 := Nat.le_of_eq s_w1.symm
    clear s_w1
    replace x_a := x_a.chg h_w1 (by omega)
    have B_w1 := Below.chg_ B0 h_w1 (by omega) (by omega)
    replace x_r : Vr w1 (w.heap.size + 1) 25 [.slice none 0 0, .slice none 0 0] := y
    clear y
    have c_r_0_w1 := x_r.cell (i := 0) rfl
    have f_r_0_w1 := x_r.frozen 0
    have c_r_1_w1 := x_r.cell (i := 1) rfl
    have f_r_1_w1 := x_r.frozen 1
    go_wp2
    refine ret_cell_tmp (by rfl) (by rfl) x_r Try.underlying25 sz_disk (by rfl) ?_
    exact ⟨_, rfl, ov_disk (d := diskZ) (os_nil (lo := w.heap.size) (hi := w.heap.size) (by omega)) (os_nil (lo := w.heap.size) (hi := w.heap.size) (by omega)) (by omega), B_w1⟩
  have g1i : decide ((20000 : Int) < (b.length : Int)) = false := decide_eq_false (by omega)
  have e1 : diskResetB d b = true := decide_eq_true (by omega)
  have e2 : diskReset d b = ⟨b, []⟩ := by unfold diskReset; rw [e1]; rfl
  rw [e1, e2]
  clear e1 e2
  go_enter Try.func16, Try.ntmps16
  go_wp2_with fail
  refine (iJoined_nil (rb.from_ B0) (by omega)).mono ?_
  rintro e w1 ⟨u, rfl, ou, h_w1⟩
  clear c_a_0_wa f_a_0_wa c_a_1_wa f_a_1_wa c_r_0_wa f_r_0_wa c_r_1_wa f_r_1_wa
  replace x_a := x_a.from_ h_w1
  replace x_r := x_r.from_ h_w1
  have B_w1 := B0.trans (h_w1.mono B0.size)
  have s_w1 := h_w1.size
  obtain ⟨A1, k1, rfl, -, -, -⟩ := ou.rd
  have c_a_0_w1 := x_a.cell (i := 0) rfl
  have f_a_0_w1 := x_a.frozen 0
  have c_a_1_w1 := x_a.cell (i := 1) rfl
  have f_a_1_w1 := x_a.frozen 1
  have c_r_0_w1 := x_r.cell (i := 0) rfl
  have f_r_0_w1 := x_r.frozen 0
  have c_r_1_w1 := x_r.cell (i := 1) rfl
  have f_r_1_w1 := x_r.frozen 1
  obtain ⟨w2, e_w2, s_w2, h_w2, y⟩ := store_step x_r [.slice A1 b.length k1, .slice none 0 0] rfl
  replace e_w2 : ((w1.setCell ⟨w.heap.size + 1, 0, none⟩ (.slice A1 b.length k1)).setCell ⟨w.heap.size + 1, 1, none⟩ (.slice none 0 0)) = w2 := e_w2
  have s_w2_1 := Nat.le_of_eq s_w2
  have s_w2_2 := Nat.le_of_eq s_w2.symm
  clear s_w2
  replace x_a := x_a.chg h_w2 (by omega)
  replace ou := ou.chg h_w2 (by omega)
  have B_w2 := Below.chg_ B_w1 h_w2 (by omega) (by omega)
  replace x_r : Vr w2 (w.heap.size + 1) 25 [.slice A1 b.length k1, .slice none 0 0] := y
  clear y
  have c_r_0_w2 := x_r.cell (i := 0) rfl
  have f_r_0_w2 := x_r.frozen 0
  have c_r_1_w2 := x_r.cell (i := 1) rfl
  have f_r_1_w2 := x_r.frozen 1
  go_wp2
  refine ret_cell_tmp (by rfl) (by rfl) x_r Try.underlying25 sz_disk (by rfl) ?_
  exact ⟨_, rfl, ov_disk (d := ⟨b, []⟩) ou (os_nil (lo := w.heap.size) (hi := w.heap.size) (by omega)) (by omega), B_w2⟩

set_option maxHeartbeats 1000000 in
theorem sDiskReset_c {w : World} {v v' : Value} {d : MDisk} {b : List Int} (h : RV diskL w v d) (h' : RS .u8 w v' b) (hm : d.bulk ≤ 1073741824) (hm' : b.length ≤ 1073741824) : Calls Try.prog 35 #[v, v'] w (NewVB diskL w (diskReset d b) (diskResetB d b)) := by
  obtain ⟨ASure, cSure, ASoft, cSoft, rfl, rSure, rSoft⟩ := rv_disk h
  unfold MDisk.bulk at hm
  obtain ⟨Ab, cb, rfl, hb1, hb2, hb3⟩ := h'
  have rb : RS .u8 w (.slice Ab b.length cb) b := ⟨_, _, rfl, hb1, hb2, hb3⟩
  clear hb1 hb2 hb3
  obtain ⟨wa, hwa, B0, sa, x_a, x_r⟩ := frame2 w 25 [.slice ASure d.Sure.length cSure, .slice ASoft d.Soft.length cSoft] 25 [.slice none 0 0, .slice none 0 0]
  have sa_1 := Nat.le_of_eq sa
  have sa_2 := Nat.le_of_eq sa.symm
  clear sa
  have c_a_0_wa := x_a.cell (i := 0) rfl
  have f_a_0_wa := x_a.frozen 0
  have c_a_1_wa := x_a.cell (i := 1) rfl
  have f_a_1_wa := x_a.frozen 1
  have c_r_0_wa := x_r.cell (i := 0) rfl
  have f_r_0_wa := x_r.frozen 0
  have c_r_1_wa := x_r.cell (i := 1) rfl
  have f_r_1_wa := x_r.frozen 1
  by_cases g0 : 0 < d.Soft.length
  case pos =>
    have e1 : diskResetB d b = false := decide_eq_false (by omega)
    have e2 : diskReset d b = diskZ := by unfold diskReset; rw [e1]; rfl
    rw [e1, e2]
    clear e1 e2
    have g0i : (0 : Int) < (d.Soft.length : Int) := by omega
    go_enter Try.func35, Try.ntmps35
    go_wp2_with fail
    refine (sCopy_c (rb.from_ B0) (by omega)).mono ?_
    rintro e w1 ⟨u, rfl, ou, h_w1⟩
    clear c_a_0_wa f_a_0_wa c_a_1_wa f_a_1_wa c_r_0_wa f_r_0_wa c_r_1_wa f_r_1_wa
    replace x_a := x_a.from_ h_w1
    replace x_r := x_r.from_ h_w1
    have B_w1 := B0.trans (h_w1.mono B0.size)
    have s_w1 := h_w1.size
    obtain ⟨A1, k1, rfl, -, -, -⟩ := ou.rd
    have c_a_0_w1 := x_a.cell (i := 0) rfl
    have f_a_0_w1 := x_a.frozen 0
    have c_a_1_w1 := x_a.cell (i := 1) rfl
    have f_a_1_w1 := x_a.frozen 1
    have c_r_0_w1 := x_r.cell (i := 0) rfl
    have f_r_0_w1 := x_r.frozen 0
    have c_r_1_w1 := x_r.cell (i := 1) rfl
    have f_r_1_w1 := x_r.frozen 1
    obtain ⟨w2, e_w2, s_w2, h_w2, x_out⟩ := alloc_step w1 25 [.slice A1 b.length k1, .slice none 0 0]
    have s_w2_1 := Nat.le_of_eq s_w2
    have s_w2_2 := Nat.le_of_eq s_w2.symm
    clear s_w2
    replace x_a := x_a.from_ h_w2
    replace x_r := x_r.from_ h_w2
    replace ou := ou.below h_w2
    have B_w2 := B_w1.trans (h_w2.mono B_w1.size)
    have i_w2_1 := x_out.same (i := 1) rfl
    have c_a_0_w2 := x_a.cell (i := 0) rfl
    have f_a_0_w2 := x_a.frozen 0
    have c_a_1_w2 := x_a.cell (i := 1) rfl
    have f_a_1_w2 := x_a.frozen 1
    have c_r_0_w2 := x_r.cell (i := 0) rfl
    have f_r_0_w2 := x_r.frozen 0
    have c_r_1_w2 := x_r.cell (i := 1) rfl
    have f_r_1_w2 := x_r.frozen 1
    have c_out_0_w2 := x_out.cell (i := 0) rfl
    have f_out_0_w2 := x_out.frozen 0
    have c_out_1_w2 := x_out.cell (i := 1) rfl
    have f_out_1_w2 := x_out.frozen 1
    obtain ⟨w3, e_w3, s_w3, h_w3, y⟩ := store_step x_r [.slice none 0 0, .slice none 0 0] rfl
    replace e_w3 : ((w2.setCell ⟨w.heap.size + 1, 0, none⟩ (.slice none 0 0)).setCell ⟨w.heap.size + 1, 1, none⟩ (.slice none 0 0)) = w3 := e_w3
    have s_w3_1 := Nat.le_of_eq s_w3
    have s_w3_2 := Nat.le_of_eq s_w3.symm
    clear s_w3
    replace x_a := x_a.chg h_w3 (by omega)
    replace x_out := x_out.chg h_w3 (by omega)
    replace ou := ou.chg h_w3 (by omega)
    have B_w3 := Below.chg_ B_w2 h_w3 (by omega) (by omega)
    replace x_r : Vr w3 (w.heap.size + 1) 25 [.slice none 0 0, .slice none 0 0] := y
    clear y
    have c_r_0_w3 := x_r.cell (i := 0) rfl
    have f_r_0_w3 := x_r.frozen 0
    have c_r_1_w3 := x_r.cell (i := 1) rfl
    have f_r_1_w3 := x_r.frozen 1
    go_wp2
    refine ret_cell_tmp (by rfl) (by rfl) x_r Try.underlying25 sz_disk (by rfl) ?_
    exact ⟨_, rfl, ov_disk (d := diskZ) (os_nil (lo := w.heap.size) (hi := w.heap.size) (by omega)) (os_nil (lo := w.heap.size) (hi := w.heap.size) (by omega)) (by omega), B_w3⟩
  have g0i : decide ((0 : Int) < (d.Soft.length : Int)) = false := decide_eq_false (by omega)
  have g0n : decide (0 < d.Soft.length) = false := decide_eq_false (by omega)
  by_cases g1 : 20000 < b.length
  case pos =>
    have e1 : diskResetB d b = false := decide_eq_false (by omega)
    have e2 : diskReset d b = diskZ := by unfold diskReset; rw [e1]; rfl
    rw [e1, e2]
    clear e1 e2
    go_enter Try.func35, Try.ntmps35
    go_wp2_with fail
    refine (sCopy_c (rb.from_ B0) (by omega)).mono ?_
    rintro e w1 ⟨u, rfl, ou, h_w1⟩
    clear c_a_0_wa f_a_0_wa c_a_1_wa f_a_1_wa c_r_0_wa f_r_0_wa c_r_1_wa f_r_1_wa
    replace x_a := x_a.from_ h_w1
    replace x_r := x_r.from_ h_w1
    have B_w1 := B0.trans (h_w1.mono B0.size)
    have s_w1 := h_w1.size
    obtain ⟨A1, k1, rfl, -, -, -⟩ := ou.rd
    have c_a_0_w1 := x_a.cell (i := 0) rfl
    have f_a_0_w1 := x_a.frozen 0
    have c_a_1_w1 := x_a.cell (i := 1) rfl
    have f_a_1_w1 := x_a.frozen 1
    have c_r_0_w1 := x_r.cell (i := 0) rfl
    have f_r_0_w1 := x_r.frozen 0
    have c_r_1_w1 := x_r.cell (i := 1) rfl
    have f_r_1_w1 := x_r.frozen 1
    obtain ⟨w2, e_w2, s_w2, h_w2, x_out⟩ := alloc_step w1 25 [.slice A1 b.length k1, .slice none 0 0]
    have s_w2_1 := Nat.le_of_eq s_w2
    have s_w2_2 := Nat.le_of_eq s_w2.symm
    clear s_w2
    replace x_a := x_a.from_ h_w2
    replace x_r := x_r.from_ h_w2
    replace ou := ou.below h_w2
    have B_w2 := B_w1.trans (h_w2.mono B_w1.size)
    have i_w2_1 := x_out.same (i := 1) rfl
    have c_a_0_w2 := x_a.cell (i := 0) rfl
    have f_a_0_w2 := x_a.frozen 0
    have c_a_1_w2 := x_a.cell (i := 1) rfl
    have f_a_1_w2 := x_a.frozen 1
    have c_r_0_w2 := x_r.cell (i := 0) rfl
    have f_r_0_w2 := x_r.frozen 0
    have c_r_1_w2 := x_r.cell (i := 1) rfl
    have f_r_1_w2 := x_r.frozen 1
    have c_out_0_w2 := x_out.cell (i := 0) rfl
    have f_out_0_w2 := x_out.frozen 0
    have c_out_1_w2 := x_out.cell (i := 1) rfl
    have f_out_1_w2 := x_out.frozen 1
    have oo := ov_disk (d := ⟨b, []⟩) (lo := w.heap.size) (hi := w2.heap.size) ou (os_nil (lo := w.heap.size) (hi := w.heap.size) (by omega)) (by omega)
    go_wp2_with fail
    refine (sDiskOk_c oo.rd (by show b.length + 0 ≤ _; omega)).mono ?_
    rintro e w3 ⟨rfl, h_w3⟩
    clear c_a_0_w1 f_a_0_w1 c_a_1_w1 f_a_1_w1 c_r_0_w1 f_r_0_w1 c_r_1_w1 f_r_1_w1 i_w2_1 c_a_0_w2 f_a_0_w2 c_a_1_w2 f_a_1_w2 c_r_0_w2 f_r_0_w2 c_r_1_w2 f_r_1_w2 c_out_0_w2 f_out_0_w2 c_out_1_w2 f_out_1_w2
    replace x_a := x_a.from_ h_w3
    replace x_r := x_r.from_ h_w3
    replace x_out := x_out.from_ h_w3
    replace ou := ou.below h_w3
    have B_w3 := B_w2.trans (h_w3.mono B_w2.size)
    have s_w3 := h_w3.size
    rw [show diskOkB ⟨b, []⟩ = false by unfold diskOkB; simp; omega]
    have c_a_0_w3 := x_a.cell (i := 0) rfl
    have f_a_0_w3 := x_a.frozen 0
    have c_a_1_w3 := x_a.cell (i := 1) rfl
    have f_a_1_w3 := x_a.frozen 1
    have c_r_0_w3 := x_r.cell (i := 0) rfl
    have f_r_0_w3 := x_r.frozen 0
    have c_r_1_w3 := x_r.cell (i := 1) rfl
    have f_r_1_w3 := x_r.frozen 1
    have c_out_0_w3 := x_out.cell (i := 0) rfl
    have f_out_0_w3 := x_out.frozen 0
    have c_out_1_w3 := x_out.cell (i := 1) rfl
    have f_out_1_w3 := x_out.frozen 1
    obtain ⟨w4, e_w4, s_w4, h_w4, y⟩ := store_step x_r [.slice none 0 0, .slice none 0 0] rfl
    replace e_w4 : ((w3.setCell ⟨w.heap.size + 1, 0, none⟩ (.slice none 0 0)).setCell ⟨w.heap.size + 1, 1, none⟩ (.slice none 0 0)) = w4 := e_w4
    have s_w4_1 := Nat.le_of_eq s_w4
    have s_w4_2 := Nat.le_of_eq s_w4.symm
    clear s_w4
    replace x_a := x_a.chg h_w4 (by omega)
    replace x_out := x_out.chg h_w4 (by omega)
    replace ou := ou.chg h_w4 (by omega)
    have B_w4 := Below.chg_ B_w3 h_w4 (by omega) (by omega)
    replace x_r : Vr w4 (w.heap.size + 1) 25 [.slice none 0 0, .slice none 0 0] := y
    clear y
    have c_r_0_w4 := x_r.cell (i := 0) rfl
    have f_r_0_w4 := x_r.frozen 0
    have c_r_1_w4 := x_r.cell (i := 1) rfl
    have f_r_1_w4 := x_r.frozen 1
    go_wp2
    refine ret_cell_tmp (by rfl) (by rfl) x_r Try.underlying25 sz_disk (by rfl) ?_
    exact ⟨_, rfl, ov_disk (d := diskZ) (os_nil (lo := w.heap.size) (hi := w.heap.size) (by omega)) (os_nil (lo := w.heap.size) (hi := w.heap.size) (by omega)) (by omega), B_w4⟩
  have e1 : diskResetB d b = true := decide_eq_true (by omega)
  have e2 : diskReset d b = ⟨b, []⟩ := by unfold diskReset; rw [e1]; rfl
  rw [e1, e2]
  clear e1 e2
  go_enter Try.func35, Try.ntmps35
  go_wp2_with fail
  refine (sCopy_c (rb.from_ B0) (by omega)).mono ?_
  rintro e w1 ⟨u, rfl, ou, h_w1⟩
  clear c_a_0_wa f_a_0_wa c_a_1_wa f_a_1_wa c_r_0_wa f_r_0_wa c_r_1_wa f_r_1_wa
  replace x_a := x_a.from_ h_w1
  replace x_r := x_r.from_ h_w1
  have B_w1 := B0.trans (h_w1.mono B0.size)
  have s_w1 := h_w1.size
  obtain ⟨A1, k1, rfl, -, -, -⟩ := ou.rd
  have c_a_0_w1 := x_a.cell (i := 0) rfl
  have f_a_0_w1 := x_a.frozen 0
  have c_a_1_w1 := x_a.cell (i := 1) rfl
  have f_a_1_w1 := x_a.frozen 1
  have c_r_0_w1 := x_r.cell (i := 0) rfl
  have f_r_0_w1 := x_r.frozen 0
  have c_r_1_w1 := x_r.cell (i := 1) rfl
  have f_r_1_w1 := x_r.frozen 1
  obtain ⟨w2, e_w2, s_w2, h_w2, x_out⟩ := alloc_step w1 25 [.slice A1 b.length k1, .slice none 0 0]
  have s_w2_1 := Nat.le_of_eq s_w2
  have s_w2_2 := Nat.le_of_eq s_w2.symm
  clear s_w2
  replace x_a := x_a.from_ h_w2
  replace x_r := x_r.from_ h_w2
  replace ou := ou.below h_w2
  have B_w2 := B_w1.trans (h_w2.mono B_w1.size)
  have i_w2_1 := x_out.same (i := 1) rfl
  have c_a_0_w2 := x_a.cell (i := 0) rfl
  have f_a_0_w2 := x_a.frozen 0
  have c_a_1_w2 := x_a.cell (i := 1) rfl
  have f_a_1_w2 := x_a.frozen 1
  have c_r_0_w2 := x_r.cell (i := 0) rfl
  have f_r_0_w2 := x_r.frozen 0
  have c_r_1_w2 := x_r.cell (i := 1) rfl
  have f_r_1_w2 := x_r.frozen 1
  have c_out_0_w2 := x_out.cell (i := 0) rfl
  have f_out_0_w2 := x_out.frozen 0
  have c_out_1_w2 := x_out.cell (i := 1) rfl
  have f_out_1_w2 := x_out.frozen 1
  have oo := ov_disk (d := ⟨b, []⟩) (lo := w.heap.size) (hi := w2.heap.size) ou (os_nil (lo := w.heap.size) (hi := w.heap.size) (by omega)) (by omega)
  go_wp2_with fail
  refine (sDiskOk_c oo.rd (by show b.length + 0 ≤ _; omega)).mono ?_
  rintro e w3 ⟨rfl, h_w3⟩
  clear c_a_0_w1 f_a_0_w1 c_a_1_w1 f_a_1_w1 c_r_0_w1 f_r_0_w1 c_r_1_w1 f_r_1_w1 i_w2_1 c_a_0_w2 f_a_0_w2 c_a_1_w2 f_a_1_w2 c_r_0_w2 f_r_0_w2 c_r_1_w2 f_r_1_w2 c_out_0_w2 f_out_0_w2 c_out_1_w2 f_out_1_w2
  replace x_a := x_a.from_ h_w3
  replace x_r := x_r.from_ h_w3
  replace x_out := x_out.from_ h_w3
  replace ou := ou.below h_w3
  have B_w3 := B_w2.trans (h_w3.mono B_w2.size)
  have s_w3 := h_w3.size
  rw [show diskOkB ⟨b, []⟩ = true by unfold diskOkB; simp; omega]
  have c_a_0_w3 := x_a.cell (i := 0) rfl
  have f_a_0_w3 := x_a.frozen 0
  have c_a_1_w3 := x_a.cell (i := 1) rfl
  have f_a_1_w3 := x_a.frozen 1
  have c_r_0_w3 := x_r.cell (i := 0) rfl
  have f_r_0_w3 := x_r.frozen 0
  have c_r_1_w3 := x_r.cell (i := 1) rfl
  have f_r_1_w3 := x_r.frozen 1
  have c_out_0_w3 := x_out.cell (i := 0) rfl
  have f_out_0_w3 := x_out.frozen 0
  have c_out_1_w3 := x_out.cell (i := 1) rfl
  have f_out_1_w3 := x_out.frozen 1
  obtain ⟨w4, e_w4, s_w4, h_w4, y⟩ := store_step x_r [.slice A1 b.length k1, .slice none 0 0] rfl
  replace e_w4 : ((w3.setCell ⟨w.heap.size + 1, 0, none⟩ (.slice A1 b.length k1)).setCell ⟨w.heap.size + 1, 1, none⟩ (.slice none 0 0)) = w4 := e_w4
  have s_w4_1 := Nat.le_of_eq s_w4
  have s_w4_2 := Nat.le_of_eq s_w4.symm
  clear s_w4
  replace x_a := x_a.chg h_w4 (by omega)
  replace x_out := x_out.chg h_w4 (by omega)
  replace ou := ou.chg h_w4 (by omega)
  have B_w4 := Below.chg_ B_w3 h_w4 (by omega) (by omega)
  replace x_r : Vr w4 (w.heap.size + 1) 25 [.slice A1 b.length k1, .slice none 0 0] := y
  clear y
  have c_r_0_w4 := x_r.cell (i := 0) rfl
  have f_r_0_w4 := x_r.frozen 0
  have c_r_1_w4 := x_r.cell (i := 1) rfl
  have f_r_1_w4 := x_r.frozen 1
  go_wp2
  refine ret_cell_tmp (by rfl) (by rfl) x_r Try.underlying25 sz_disk (by rfl) ?_
  exact ⟨_, rfl, ov_disk (d := ⟨b, []⟩) ou (os_nil (lo := w.heap.size) (hi := w.heap.size) (by omega)) (by omega), B_w4⟩

end Go.Proofs.Ytdggbjhfbimebaa
