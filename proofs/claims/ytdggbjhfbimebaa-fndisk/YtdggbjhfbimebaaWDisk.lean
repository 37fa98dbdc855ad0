/- The walk of the law FnDisk. -/
import Derived.Test.YtdggbjhfbimebaaDisk2
import Derived.Test.YtdggbjhfbimebaaDiskMath
import Derived.Test.YtdggbjhfbimebaaOpens
import Derived.Test.YtdggbjhfbimebaaMakes
import Derived.Test.YtdggbjhfbimebaaMakesB
import Derived.IntWalk
namespace Go.Proofs.Ytdggbjhfbimebaa
open Go.RowKit
set_option linter.unusedVariables false

theorem bytes_app {a b : List Int} (ha : Bytes a) (hb : Bytes b) : Bytes (a ++ b) := by
  intro j
  by_cases hj : j < a.length
  · rw [List.getD_eq_getElem?_getD, List.getElem?_append_left hj, ← List.getD_eq_getElem?_getD]; exact ha j
  · rw [List.getD_eq_getElem?_getD, List.getElem?_append_right (by omega), ← List.getD_eq_getElem?_getD]; exact hb _
theorem bytes_take {a : List Int} (ha : Bytes a) (n : Nat) : Bytes (a.take n) := by
  intro j
  by_cases hj : j < n
  · rw [List.getD_eq_getElem?_getD, List.getElem?_take, if_pos hj, ← List.getD_eq_getElem?_getD]; exact ha j
  · rw [List.getD_eq_getElem?_getD, List.getElem?_take, if_neg hj]; simp
theorem bytes_none : Bytes [] := fun j => by simp

set_option maxRecDepth 100000 in
set_option maxHeartbeats 8000000 in
theorem wDisk (v : Value) (zs : List Int) (w : World) (r : RS .u8 w v zs) (hb : Bytes zs) :
    Calls Try.prog 3 #[v] w fun e w' => e = .returned (.bool true) ∧ Below w.heap.size w w' := by
  obtain ⟨A, c, rfl, p1, p2, hr⟩ := r
  unfold maxLen at p2
  obtain ⟨i0, hi, hz0, hz1, hz2⟩ := info_parts Try.info_u8
  by_cases hbig : 1048576 < zs.length
  case pos =>
    have i0 : (1048576 : Int) < (zs.length : Int) := by omega
    go_enter Try.func3, Try.ntmps3
    go_wp2
    go_ret
    exact ⟨rfl, Below.refl _ _⟩
  have hm : zs.length ≤ 1048576 := by omega
  have B0 : Below w.heap.size w w := Below.refl _ _
  go_enter Try.func3, Try.ntmps3
  go_wp2_with fail
  refine (makeBytes_any A c zs 9 _ ((hr.below B0).more B0.size) hb hm (by omega)).mono ?_
  rintro e w1 ⟨v_a, la, rfl, o_a, b_a, n_a, h_w1⟩
  have B_w1 := B0.trans (h_w1.mono B0.size)
  have s_w1 := h_w1.size
  obtain ⟨Aa, ca, rfl, -, -, -⟩ := o_a.rd
  go_wp2_with fail
  refine (makeBytes_any A c zs 7 _ ((hr.below B_w1).more B_w1.size) hb hm (by omega)).mono ?_
  rintro e w2 ⟨v_b, lb, rfl, o_b, b_b, n_b, h_w2⟩
  replace o_a := o_a.below h_w2
  have B_w2 := B_w1.trans (h_w2.mono B_w1.size)
  have s_w2 := h_w2.size
  obtain ⟨Ab, cb, rfl, -, -, -⟩ := o_b.rd
  obtain ⟨LS, hLS⟩ : ∃ L, L = la ++ lb := ⟨_, rfl⟩
  have lLS : LS.length ≤ 16 := by rw [hLS, List.length_append]; omega
  have bLS : Bytes LS := by rw [hLS]; exact bytes_app b_a b_b
  have HLS := Lib.hid hLS
  clear hLS
  have rD : RV diskL w2 (.agg #[.slice Aa la.length ca, .slice none 0 0]) ⟨la, []⟩ := rv_disk_mk o_a.rd (os_nil (e := 5) (hi := w2.heap.size) (lo := 0) (Nat.le_refl _)).rd
  go_wp2_with fail
  refine (iDiskWrite_c rD o_b.rd (by show la.length + 0 ≤ _; omega) (by omega)).mono ?_
  rintro e w3 ⟨v_d, rfl, o_d, h_w3⟩
  replace o_a := o_a.below h_w3
  replace o_b := o_b.below h_w3
  have B_w3 := B_w2.trans (h_w3.mono B_w2.size)
  have s_w3 := h_w3.size
  clear rD
  rw [show diskWriteB ⟨la, []⟩ lb = true from decide_eq_true (by show la.length + 0 + lb.length ≤ 20000; omega)]
  rw [show diskWrite ⟨la, []⟩ lb = ⟨la, lb⟩ by unfold diskWrite; rw [show diskWriteB ⟨la, []⟩ lb = true from decide_eq_true (by show la.length + 0 + lb.length ≤ 20000; omega)]; rfl] at o_d
  obtain ⟨Ad0, cd0, Ad1, cd1, rfl, -, -⟩ := rv_disk o_d.rd
  replace o_d : OV diskL w3 _ _ (.agg #[.slice Ad0 la.length cd0, .slice Ad1 lb.length cd1]) ⟨la, lb⟩ := o_d
  obtain ⟨w4, e_w4, s_w4, h_w4, x_d⟩ := alloc_step w3 25 [.slice Ad0 la.length cd0, .slice Ad1 lb.length cd1]
  have s_w4_1 := Nat.le_of_eq s_w4
  have s_w4_2 := Nat.le_of_eq s_w4.symm
  clear s_w4
  replace o_a := o_a.below h_w4
  replace o_b := o_b.below h_w4
  replace o_d := o_d.below h_w4
  have B_w4 := B_w3.trans (h_w4.mono B_w3.size)
  have c_d_0_w4 := x_d.cell (i := 0) rfl
  have f_d_0_w4 := x_d.frozen 0
  have c_d_1_w4 := x_d.cell (i := 1) rfl
  have f_d_1_w4 := x_d.frozen 1
  go_wp2_with fail
  refine (makeNum_any A c zs ((lb.length : Int) + 1) _ ((hr.below B_w4).more B_w4.size) hb hm (by omega) (by omega)).mono ?_
  rintro e w5 ⟨kk, rfl, hk1, hk2, h_w5⟩
  clear c_d_0_w4 f_d_0_w4 c_d_1_w4 f_d_1_w4
  replace x_d := x_d.from_ h_w5
  replace o_a := o_a.below h_w5
  replace o_b := o_b.below h_w5
  replace o_d := o_d.below h_w5
  have B_w5 := B_w4.trans (h_w5.mono B_w4.size)
  have s_w5 := h_w5.size
  obtain ⟨K, rfl⟩ : ∃ K : Nat, kk = (K : Int) := ⟨kk.toNat, by omega⟩
  have hK : K ≤ lb.length := by omega
  have c_d_0_w5 := x_d.cell (i := 0) rfl
  have f_d_0_w5 := x_d.frozen 0
  have c_d_1_w5 := x_d.cell (i := 1) rfl
  have f_d_1_w5 := x_d.frozen 1
  obtain ⟨LF, hLF⟩ : ∃ L, L = la ++ lb.take K := ⟨_, rfl⟩
  have lLF : LF.length ≤ 16 := by rw [hLF, List.length_append, List.length_take]; omega
  have bLF : Bytes LF := by rw [hLF]; exact bytes_app b_a (bytes_take b_b K)
  have HLF := Lib.hid hLF
  clear hLF
  obtain ⟨M, hM⟩ : ∃ M, M = la.length + K := ⟨_, rfl⟩
  have hMi : (la.length : Int) + (K : Int) = (M : Int) := by omega
  have hMl : M ≤ 16 := by omega
  have TM : Hid (LS.take M = LF) := by show _ = _; rw [HLS.out, HLF.out, hM, List.take_append, List.take_of_length_le (by omega), show la.length + K - la.length = K by omega]
  have hMS : M ≤ LS.length := by rw [hM, HLS.out, List.length_append]; omega
  have HM := Lib.hid hM
  clear hM
  have HMi := Lib.hid hMi
  clear hMi
  go_wp2_with fail
  refine (iDiskFall_c (keep := (K : Int)) o_d.rd (by show la.length + lb.length ≤ _; omega) (by omega)).mono ?_
  rintro e w6 ⟨v_f, rfl, o_f, h_w6⟩
  clear c_d_0_w5 f_d_0_w5 c_d_1_w5 f_d_1_w5
  replace x_d := x_d.from_ h_w6
  replace o_a := o_a.below h_w6
  replace o_b := o_b.below h_w6
  replace o_d := o_d.below h_w6
  have B_w6 := B_w5.trans (h_w6.mono B_w5.size)
  have s_w6 := h_w6.size
  rw [show diskFall ⟨la, lb⟩ (K : Int) = ⟨LF, []⟩ by unfold diskFall; rw [HLF.out, Int.toNat_natCast]] at o_f
  have c_d_0_w6 := x_d.cell (i := 0) rfl
  have f_d_0_w6 := x_d.frozen 0
  have c_d_1_w6 := x_d.cell (i := 1) rfl
  have f_d_1_w6 := x_d.frozen 1
  obtain ⟨Af0, cf0, Af1, cf1, rfl, -, -⟩ := rv_disk o_f.rd
  replace o_f : OV diskL w6 _ _ (.agg #[.slice Af0 LF.length cf0, .slice Af1 0 cf1]) ⟨LF, []⟩ := o_f
  obtain ⟨w7, e_w7, s_w7, h_w7, x_f⟩ := alloc_step w6 25 [.slice Af0 LF.length cf0, .slice Af1 0 cf1]
  have s_w7_1 := Nat.le_of_eq s_w7
  have s_w7_2 := Nat.le_of_eq s_w7.symm
  clear s_w7
  replace x_d := x_d.from_ h_w7
  replace o_a := o_a.below h_w7
  replace o_b := o_b.below h_w7
  replace o_d := o_d.below h_w7
  replace o_f := o_f.below h_w7
  have B_w7 := B_w6.trans (h_w7.mono B_w6.size)
  have c_d_0_w7 := x_d.cell (i := 0) rfl
  have f_d_0_w7 := x_d.frozen 0
  have c_d_1_w7 := x_d.cell (i := 1) rfl
  have f_d_1_w7 := x_d.frozen 1
  have c_f_0_w7 := x_f.cell (i := 0) rfl
  have f_f_0_w7 := x_f.frozen 0
  have c_f_1_w7 := x_f.cell (i := 1) rfl
  have f_f_1_w7 := x_f.frozen 1
  go_wp2_with fail
  refine (iDiskSync_c o_d.rd (by show la.length + lb.length ≤ _; omega)).mono ?_
  rintro e w8 ⟨v_s, rfl, o_s, h_w8⟩
  clear c_d_0_w6 f_d_0_w6 c_d_1_w6 f_d_1_w6 c_d_0_w7 f_d_0_w7 c_d_1_w7 f_d_1_w7 c_f_0_w7 f_f_0_w7 c_f_1_w7 f_f_1_w7
  replace x_d := x_d.from_ h_w8
  replace x_f := x_f.from_ h_w8
  replace o_a := o_a.below h_w8
  replace o_b := o_b.below h_w8
  replace o_d := o_d.below h_w8
  replace o_f := o_f.below h_w8
  have B_w8 := B_w7.trans (h_w8.mono B_w7.size)
  have s_w8 := h_w8.size
  rw [show diskSync ⟨la, lb⟩ = ⟨LS, []⟩ by unfold diskSync; rw [HLS.out]] at o_s
  have c_d_0_w8 := x_d.cell (i := 0) rfl
  have f_d_0_w8 := x_d.frozen 0
  have c_d_1_w8 := x_d.cell (i := 1) rfl
  have f_d_1_w8 := x_d.frozen 1
  have c_f_0_w8 := x_f.cell (i := 0) rfl
  have f_f_0_w8 := x_f.frozen 0
  have c_f_1_w8 := x_f.cell (i := 1) rfl
  have f_f_1_w8 := x_f.frozen 1
  obtain ⟨As0, cs0, As1, cs1, rfl, -, -⟩ := rv_disk o_s.rd
  replace o_s : OV diskL w8 _ _ (.agg #[.slice As0 LS.length cs0, .slice As1 0 cs1]) ⟨LS, []⟩ := o_s
  obtain ⟨w9, e_w9, s_w9, h_w9, x_s⟩ := alloc_step w8 25 [.slice As0 LS.length cs0, .slice As1 0 cs1]
  have s_w9_1 := Nat.le_of_eq s_w9
  have s_w9_2 := Nat.le_of_eq s_w9.symm
  clear s_w9
  replace x_d := x_d.from_ h_w9
  replace x_f := x_f.from_ h_w9
  replace o_a := o_a.below h_w9
  replace o_b := o_b.below h_w9
  replace o_d := o_d.below h_w9
  replace o_f := o_f.below h_w9
  replace o_s := o_s.below h_w9
  have B_w9 := B_w8.trans (h_w9.mono B_w8.size)
  have c_d_0_w9 := x_d.cell (i := 0) rfl
  have f_d_0_w9 := x_d.frozen 0
  have c_d_1_w9 := x_d.cell (i := 1) rfl
  have f_d_1_w9 := x_d.frozen 1
  have c_f_0_w9 := x_f.cell (i := 0) rfl
  have f_f_0_w9 := x_f.frozen 0
  have c_f_1_w9 := x_f.cell (i := 1) rfl
  have f_f_1_w9 := x_f.frozen 1
  have c_s_0_w9 := x_s.cell (i := 0) rfl
  have f_s_0_w9 := x_s.frozen 0
  have c_s_1_w9 := x_s.cell (i := 1) rfl
  have f_s_1_w9 := x_s.frozen 1
  go_wp2_with fail
  refine (iDiskReset_c o_s.rd o_b.rd (by show LS.length + 0 ≤ _; omega) (by omega)).mono ?_
  rintro e w10 ⟨v_r, rfl, o_r, h_w10⟩
  clear c_d_0_w8 f_d_0_w8 c_d_1_w8 f_d_1_w8 c_f_0_w8 f_f_0_w8 c_f_1_w8 f_f_1_w8 c_d_0_w9 f_d_0_w9 c_d_1_w9 f_d_1_w9 c_f_0_w9 f_f_0_w9 c_f_1_w9 f_f_1_w9 c_s_0_w9 f_s_0_w9 c_s_1_w9 f_s_1_w9
  replace x_d := x_d.from_ h_w10
  replace x_f := x_f.from_ h_w10
  replace x_s := x_s.from_ h_w10
  replace o_a := o_a.below h_w10
  replace o_b := o_b.below h_w10
  replace o_d := o_d.below h_w10
  replace o_f := o_f.below h_w10
  replace o_s := o_s.below h_w10
  have B_w10 := B_w9.trans (h_w10.mono B_w9.size)
  have s_w10 := h_w10.size
  have eR : diskResetB ⟨LS, []⟩ lb = true := decide_eq_true ⟨rfl, by omega⟩
  rw [show diskReset ⟨LS, []⟩ lb = ⟨lb, []⟩ by unfold diskReset; rw [eR]; rfl] at o_r
  rw [eR]
  clear eR
  have c_d_0_w10 := x_d.cell (i := 0) rfl
  have f_d_0_w10 := x_d.frozen 0
  have c_d_1_w10 := x_d.cell (i := 1) rfl
  have f_d_1_w10 := x_d.frozen 1
  have c_f_0_w10 := x_f.cell (i := 0) rfl
  have f_f_0_w10 := x_f.frozen 0
  have c_f_1_w10 := x_f.cell (i := 1) rfl
  have f_f_1_w10 := x_f.frozen 1
  have c_s_0_w10 := x_s.cell (i := 0) rfl
  have f_s_0_w10 := x_s.frozen 0
  have c_s_1_w10 := x_s.cell (i := 1) rfl
  have f_s_1_w10 := x_s.frozen 1
  obtain ⟨Ar0, cr0, Ar1, cr1, rfl, -, -⟩ := rv_disk o_r.rd
  replace o_r : OV diskL w10 _ _ (.agg #[.slice Ar0 lb.length cr0, .slice Ar1 0 cr1]) ⟨lb, []⟩ := o_r
  obtain ⟨w11, e_w11, s_w11, h_w11, x_r⟩ := alloc_step w10 25 [.slice Ar0 lb.length cr0, .slice Ar1 0 cr1]
  have s_w11_1 := Nat.le_of_eq s_w11
  have s_w11_2 := Nat.le_of_eq s_w11.symm
  clear s_w11
  replace x_d := x_d.from_ h_w11
  replace x_f := x_f.from_ h_w11
  replace x_s := x_s.from_ h_w11
  replace o_a := o_a.below h_w11
  replace o_b := o_b.below h_w11
  replace o_d := o_d.below h_w11
  replace o_f := o_f.below h_w11
  replace o_s := o_s.below h_w11
  replace o_r := o_r.below h_w11
  have B_w11 := B_w10.trans (h_w11.mono B_w10.size)
  have c_d_0_w11 := x_d.cell (i := 0) rfl
  have f_d_0_w11 := x_d.frozen 0
  have c_d_1_w11 := x_d.cell (i := 1) rfl
  have f_d_1_w11 := x_d.frozen 1
  have c_f_0_w11 := x_f.cell (i := 0) rfl
  have f_f_0_w11 := x_f.frozen 0
  have c_f_1_w11 := x_f.cell (i := 1) rfl
  have f_f_1_w11 := x_f.frozen 1
  have c_s_0_w11 := x_s.cell (i := 0) rfl
  have f_s_0_w11 := x_s.frozen 0
  have c_s_1_w11 := x_s.cell (i := 1) rfl
  have f_s_1_w11 := x_s.frozen 1
  have c_r_0_w11 := x_r.cell (i := 0) rfl
  have f_r_0_w11 := x_r.frozen 0
  have c_r_1_w11 := x_r.cell (i := 1) rfl
  have f_r_1_w11 := x_r.frozen 1
  go_wp2_with fail
  refine (iDiskReset_c o_d.rd o_b.rd (by show la.length + lb.length ≤ _; omega) (by omega)).mono ?_
  rintro e w12 ⟨v_q, rfl, o_q, h_w12⟩
  clear c_d_0_w10 f_d_0_w10 c_d_1_w10 f_d_1_w10 c_f_0_w10 f_f_0_w10 c_f_1_w10 f_f_1_w10 c_s_0_w10 f_s_0_w10 c_s_1_w10 f_s_1_w10 c_d_0_w11 f_d_0_w11 c_d_1_w11 f_d_1_w11 c_f_0_w11 f_f_0_w11 c_f_1_w11 f_f_1_w11 c_s_0_w11 f_s_0_w11 c_s_1_w11 f_s_1_w11 c_r_0_w11 f_r_0_w11 c_r_1_w11 f_r_1_w11
  replace x_d := x_d.from_ h_w12
  replace x_f := x_f.from_ h_w12
  replace x_s := x_s.from_ h_w12
  replace x_r := x_r.from_ h_w12
  replace o_a := o_a.below h_w12
  replace o_b := o_b.below h_w12
  replace o_d := o_d.below h_w12
  replace o_f := o_f.below h_w12
  replace o_s := o_s.below h_w12
  replace o_r := o_r.below h_w12
  have B_w12 := B_w11.trans (h_w12.mono B_w11.size)
  have s_w12 := h_w12.size
  obtain ⟨q, hq⟩ : ∃ q, diskResetB ⟨la, lb⟩ lb = q := ⟨_, rfl⟩
  have eq0 : q = decide (lb.length = 0) := by rw [← hq]; exact decide_eq_decide.2 ⟨fun h => h.1, fun h => ⟨h, by omega⟩⟩
  rw [hq]
  have HQ := Lib.hid eq0
  clear hq eq0
  obtain ⟨Q, hQ⟩ : ∃ Q, diskReset ⟨la, lb⟩ lb = Q := ⟨_, rfl⟩
  rw [hQ] at o_q
  clear hQ
  obtain ⟨Aq0, cq0, Aq1, cq1, rfl, -, -⟩ := rv_disk o_q.rd
  have c_d_0_w12 := x_d.cell (i := 0) rfl
  have f_d_0_w12 := x_d.frozen 0
  have c_d_1_w12 := x_d.cell (i := 1) rfl
  have f_d_1_w12 := x_d.frozen 1
  have c_f_0_w12 := x_f.cell (i := 0) rfl
  have f_f_0_w12 := x_f.frozen 0
  have c_f_1_w12 := x_f.cell (i := 1) rfl
  have f_f_1_w12 := x_f.frozen 1
  have c_s_0_w12 := x_s.cell (i := 0) rfl
  have f_s_0_w12 := x_s.frozen 0
  have c_s_1_w12 := x_s.cell (i := 1) rfl
  have f_s_1_w12 := x_s.frozen 1
  have c_r_0_w12 := x_r.cell (i := 0) rfl
  have f_r_0_w12 := x_r.frozen 0
  have c_r_1_w12 := x_r.cell (i := 1) rfl
  have f_r_1_w12 := x_r.frozen 1
  obtain ⟨w13, e_w13, s_w13, h_w13, x_q⟩ := alloc_step w12 25 [.slice Aq0 Q.Sure.length cq0, .slice Aq1 Q.Soft.length cq1]
  have s_w13_1 := Nat.le_of_eq s_w13
  have s_w13_2 := Nat.le_of_eq s_w13.symm
  clear s_w13
  replace x_d := x_d.from_ h_w13
  replace x_f := x_f.from_ h_w13
  replace x_s := x_s.from_ h_w13
  replace x_r := x_r.from_ h_w13
  replace o_a := o_a.below h_w13
  replace o_b := o_b.below h_w13
  replace o_d := o_d.below h_w13
  replace o_f := o_f.below h_w13
  replace o_s := o_s.below h_w13
  replace o_r := o_r.below h_w13
  have B_w13 := B_w12.trans (h_w13.mono B_w12.size)
  have c_d_0_w13 := x_d.cell (i := 0) rfl
  have f_d_0_w13 := x_d.frozen 0
  have c_d_1_w13 := x_d.cell (i := 1) rfl
  have f_d_1_w13 := x_d.frozen 1
  have c_f_0_w13 := x_f.cell (i := 0) rfl
  have f_f_0_w13 := x_f.frozen 0
  have c_f_1_w13 := x_f.cell (i := 1) rfl
  have f_f_1_w13 := x_f.frozen 1
  have c_s_0_w13 := x_s.cell (i := 0) rfl
  have f_s_0_w13 := x_s.frozen 0
  have c_s_1_w13 := x_s.cell (i := 1) rfl
  have f_s_1_w13 := x_s.frozen 1
  have c_r_0_w13 := x_r.cell (i := 0) rfl
  have f_r_0_w13 := x_r.frozen 0
  have c_r_1_w13 := x_r.cell (i := 1) rfl
  have f_r_1_w13 := x_r.frozen 1
  have c_q_0_w13 := x_q.cell (i := 0) rfl
  have f_q_0_w13 := x_q.frozen 0
  have c_q_1_w13 := x_q.cell (i := 1) rfl
  have f_q_1_w13 := x_q.frozen 1
  have oN := own_none .u8 w13 w13.heap.size 5 (Nat.le_refl _)
  have bN : Below w13.heap.size w13 (w13.alloc (.cells #[] 5)) := (Below.refl _ _).alloc (Nat.le_refl _) _
  go_wp2_with (at_builtin; refine wpl_appI _ .u8 rfl (.tmp 51) (.tmp 52) 22 rfl w13.heap.size 5 i0 1 Try.underlying22 hi hz0 hz1 hz2 _ [] rfl oN _ Aa ca la.length la rfl rfl (o_a.below bN).rd.rd_ ?d1 (by omega) ?d2 ?_)
  case d1 => simp; omega
  case d2 => simp
  intro v1 wb ob gb _
  have hbb : Below w13.heap.size w13 wb := grown_below bN oN gb (Nat.le_refl _) (by simp)
  clear oN bN gb
  go_wp2_with (at_builtin; refine wpl_appI _ .u8 rfl (.tmp 53) (.tmp 54) 22 rfl w13.heap.size 5 i0 1 Try.underlying22 hi hz0 hz1 hz2 _ la rfl ob _ Ab cb lb.length lb rfl rfl (o_b.below hbb).rd.rd_ ?e1 (by omega) hbb.size ?_)
  case e1 => omega
  intro v2 wd od gd _
  rw [← HLS.out] at od
  have hbd : Below w13.heap.size w13 wd := grown_below hbb ob gd (Nat.le_refl _) hbb.size
  clear ob gd hbb
  obtain ⟨Al, cl, rfl, qc1, qc2, -⟩ := own_form od
  have o_l := (OS.mk_ od)
  clear od
  unfold maxLen at qc2
  clear c_d_0_w12 f_d_0_w12 c_d_1_w12 f_d_1_w12 c_f_0_w12 f_f_0_w12 c_f_1_w12 f_f_1_w12 c_s_0_w12 f_s_0_w12 c_s_1_w12 f_s_1_w12 c_r_0_w12 f_r_0_w12 c_r_1_w12 f_r_1_w12 c_d_0_w13 f_d_0_w13 c_d_1_w13 f_d_1_w13 c_f_0_w13 f_f_0_w13 c_f_1_w13 f_f_1_w13 c_s_0_w13 f_s_0_w13 c_s_1_w13 f_s_1_w13 c_r_0_w13 f_r_0_w13 c_r_1_w13 f_r_1_w13 c_q_0_w13 f_q_0_w13 c_q_1_w13 f_q_1_w13
  replace x_d := x_d.from_ hbd
  replace x_f := x_f.from_ hbd
  replace x_s := x_s.from_ hbd
  replace x_r := x_r.from_ hbd
  replace x_q := x_q.from_ hbd
  replace o_a := o_a.below hbd
  replace o_b := o_b.below hbd
  replace o_d := o_d.below hbd
  replace o_f := o_f.below hbd
  replace o_s := o_s.below hbd
  replace o_r := o_r.below hbd
  have B_wd := B_w13.trans (hbd.mono B_w13.size)
  have s_wd := hbd.size
  have rl := o_l.rd
  have rb := o_b.rd
  have rf0 : RS .u8 wd (.slice Af0 LF.length cf0) LF := by obtain ⟨_, _, _, _, e, r0, r1⟩ := rv_disk o_f.rd; obtain ⟨e0, e1⟩ := agg2_inj e; rw [e0]; exact r0
  have rs0 : RS .u8 wd (.slice As0 LS.length cs0) LS := by obtain ⟨_, _, _, _, e, r0, r1⟩ := rv_disk o_s.rd; obtain ⟨e0, e1⟩ := agg2_inj e; rw [e0]; exact r0
  have rr0 : RS .u8 wd (.slice Ar0 lb.length cr0) lb := by obtain ⟨_, _, _, _, e, r0, r1⟩ := rv_disk o_r.rd; obtain ⟨e0, e1⟩ := agg2_inj e; rw [e0]; exact r0
  have rM : RS .u8 wd (.slice Al M cl) LF := by rw [← TM.out]; exact rl.cut_ hMS ⟨by omega, Nat.le_refl _⟩
  have xd0 := o_d.rd
  have xs0 := o_s.rd
  have hM1 : (M : Int) ≤ (cl : Int) := by omega
  have hM2 : IntKind.i64.wrap ((la.length : Int) + (K : Int)) = (M : Int) := by rw [HMi.out]; exact IntWalk.i64_in _ (by omega)
  have hMi := HMi.out
  have hM3 : IntKind.i64.wrap (M : Int) = (M : Int) := IntWalk.i64_in _ (by omega)
  have hM4 : (0 : Int) ≤ (M : Int) := by omega
  have hM5 : M ≤ cl := by omega
  have hl1 : ((lb.length : Int) == 0) = q := by rw [HQ.out]; by_cases h : lb.length = 0 <;> simp [h]
  have hl2 : (lb.length == 0) = q := by rw [HQ.out]; by_cases h : lb.length = 0 <;> simp [h]
  have hl3 : decide (lb.length = 0) = q := HQ.out.symm
  have hl4 : decide ((lb.length : Int) = 0) = q := by rw [HQ.out]; exact decide_eq_decide.2 (by omega)
  have hl5 : lb.isEmpty = q := by rw [HQ.out]; cases lb <;> simp
  have hl6 : decide (lb = []) = q := by rw [HQ.out]; cases lb <;> simp
  have hqq : (q == q) = true := by simp
  go_wp2_with fail
  have c_d_0_wd := x_d.cell (i := 0) rfl
  have c_d_1_wd := x_d.cell (i := 1) rfl
  have c_f_0_wd := x_f.cell (i := 0) rfl
  have c_f_1_wd := x_f.cell (i := 1) rfl
  have c_s_0_wd := x_s.cell (i := 0) rfl
  have c_s_1_wd := x_s.cell (i := 1) rfl
  have c_r_0_wd := x_r.cell (i := 0) rfl
  have c_r_1_wd := x_r.cell (i := 1) rfl
  go_region_held3 (fun w' => w'.cell? ⟨w3.heap.size, 0, none⟩ = some (.slice Ad0 la.length cd0) ∧ w'.cell? ⟨w3.heap.size, 1, none⟩ = some (.slice Ad1 lb.length cd1) ∧ w'.cell? ⟨w6.heap.size, 0, none⟩ = some (.slice Af0 LF.length cf0) ∧ w'.cell? ⟨w6.heap.size, 1, none⟩ = some (.slice Af1 0 cf1) ∧ w'.cell? ⟨w8.heap.size, 0, none⟩ = some (.slice As0 LS.length cs0) ∧ w'.cell? ⟨w8.heap.size, 1, none⟩ = some (.slice As1 0 cs1) ∧ w'.cell? ⟨w10.heap.size, 0, none⟩ = some (.slice Ar0 lb.length cr0) ∧ w'.cell? ⟨w10.heap.size, 1, none⟩ = some (.slice Ar1 0 cr1))
    (first | exact ⟨c_d_0_wd, c_d_1_wd, c_f_0_wd, c_f_1_wd, c_s_0_wd, c_s_1_wd, c_r_0_wd, c_r_1_wd⟩ | exact ⟨qc0_d_0, qc0_d_1, qc0_f_0, qc0_f_1, qc0_s_0, qc0_s_1, qc0_r_0, qc0_r_1⟩ | exact ⟨qc1_d_0, qc1_d_1, qc1_f_0, qc1_f_1, qc1_s_0, qc1_s_1, qc1_r_0, qc1_r_1⟩ | exact ⟨qc2_d_0, qc2_d_1, qc2_f_0, qc2_f_1, qc2_s_0, qc2_s_1, qc2_r_0, qc2_r_1⟩ | exact ⟨qc3_d_0, qc3_d_1, qc3_f_0, qc3_f_1, qc3_s_0, qc3_s_1, qc3_r_0, qc3_r_1⟩ | exact ⟨qc4_d_0, qc4_d_1, qc4_f_0, qc4_f_1, qc4_s_0, qc4_s_1, qc4_r_0, qc4_r_1⟩ | exact ⟨qc5_d_0, qc5_d_1, qc5_f_0, qc5_f_1, qc5_s_0, qc5_s_1, qc5_r_0, qc5_r_1⟩ | exact ⟨qc6_d_0, qc6_d_1, qc6_f_0, qc6_f_1, qc6_s_0, qc6_s_1, qc6_r_0, qc6_r_1⟩ | exact ⟨qc7_d_0, qc7_d_1, qc7_f_0, qc7_f_1, qc7_s_0, qc7_s_1, qc7_r_0, qc7_r_1⟩ | go_keep)
    (first | ((go_at_call 17); (refine (iDiskOk_c (xd0.from_ ((Below.refl wd.heap.size wd).drew)) (by show la.length + lb.length ≤ _; omega)).mono ?_); rintro e w_c0 ⟨rfl, hd_c0⟩; have hb_c0 : Below wd.heap.size wd w_c0 := (Below.refl wd.heap.size wd).drew.trans hd_c0; have sd_c0 := hd_c0.size; replace sd_c0 : wd.heap.size ≤ w_c0.heap.size := sd_c0; have qc0_d_0 := (x_d.from_ hb_c0).cell (i := 0) rfl; have qc0_d_1 := (x_d.from_ hb_c0).cell (i := 1) rfl; have qc0_f_0 := (x_f.from_ hb_c0).cell (i := 0) rfl; have qc0_f_1 := (x_f.from_ hb_c0).cell (i := 1) rfl; have qc0_s_0 := (x_s.from_ hb_c0).cell (i := 0) rfl; have qc0_s_1 := (x_s.from_ hb_c0).cell (i := 1) rfl; have qc0_r_0 := (x_r.from_ hb_c0).cell (i := 0) rfl; have qc0_r_1 := (x_r.from_ hb_c0).cell (i := 1) rfl; rw [show diskOkB ⟨la, lb⟩ = true from decide_eq_true (by show la.length + lb.length ≤ 20000; omega)])
           | ((go_at_call 19); (refine (iDiskAll_c (xd0.from_ hb_c0) (by show la.length + lb.length ≤ _; omega)).mono ?_); rintro e w_c1 ⟨u1, rfl, ou, hd_c1⟩; have hb_c1 : Below wd.heap.size wd w_c1 := hb_c0.trans (hd_c1.mono hb_c0.size); have sd_c1 := hd_c1.size; have qc1_d_0 := (x_d.from_ hb_c1).cell (i := 0) rfl; have qc1_d_1 := (x_d.from_ hb_c1).cell (i := 1) rfl; have qc1_f_0 := (x_f.from_ hb_c1).cell (i := 0) rfl; have qc1_f_1 := (x_f.from_ hb_c1).cell (i := 1) rfl; have qc1_s_0 := (x_s.from_ hb_c1).cell (i := 0) rfl; have qc1_s_1 := (x_s.from_ hb_c1).cell (i := 1) rfl; have qc1_r_0 := (x_r.from_ hb_c1).cell (i := 0) rfl; have qc1_r_1 := (x_r.from_ hb_c1).cell (i := 1) rfl; rw [show diskAll ⟨la, lb⟩ = LS by unfold diskAll; rw [HLS.out]] at ou; obtain ⟨Au, cu, rfl, -, -, -⟩ := ou.rd)
           | ((go_at_call_of 18 (Value.slice Au LS.length cu)); (refine (iSameBytes_b ou.rd (rl.from_ hb_c1) bLS bLS).mono ?_); rintro e w_c2 ⟨rfl, hd_c2⟩; have hb_c2 : Below wd.heap.size wd w_c2 := hb_c1.trans (hd_c2.mono hb_c1.size); have sd_c2 := hd_c2.size; have qc2_d_0 := (x_d.from_ hb_c2).cell (i := 0) rfl; have qc2_d_1 := (x_d.from_ hb_c2).cell (i := 1) rfl; have qc2_f_0 := (x_f.from_ hb_c2).cell (i := 0) rfl; have qc2_f_1 := (x_f.from_ hb_c2).cell (i := 1) rfl; have qc2_s_0 := (x_s.from_ hb_c2).cell (i := 0) rfl; have qc2_s_1 := (x_s.from_ hb_c2).cell (i := 1) rfl; have qc2_r_0 := (x_r.from_ hb_c2).cell (i := 0) rfl; have qc2_r_1 := (x_r.from_ hb_c2).cell (i := 1) rfl; replace ou := ou.below hd_c2; rw [show decide (LS = LS) = true from decide_eq_true rfl])
           | ((go_at_call_of 18 (Value.slice Af0 LF.length cf0)); (refine (iSameBytes_b (rf0.from_ hb_c2) (rM.from_ hb_c2) bLF bLF).mono ?_); rintro e w_c3 ⟨rfl, hd_c3⟩; have hb_c3 : Below wd.heap.size wd w_c3 := hb_c2.trans (hd_c3.mono hb_c2.size); have sd_c3 := hd_c3.size; have qc3_d_0 := (x_d.from_ hb_c3).cell (i := 0) rfl; have qc3_d_1 := (x_d.from_ hb_c3).cell (i := 1) rfl; have qc3_f_0 := (x_f.from_ hb_c3).cell (i := 0) rfl; have qc3_f_1 := (x_f.from_ hb_c3).cell (i := 1) rfl; have qc3_s_0 := (x_s.from_ hb_c3).cell (i := 0) rfl; have qc3_s_1 := (x_s.from_ hb_c3).cell (i := 1) rfl; have qc3_r_0 := (x_r.from_ hb_c3).cell (i := 0) rfl; have qc3_r_1 := (x_r.from_ hb_c3).cell (i := 1) rfl; replace ou := ou.below hd_c3; rw [show decide (LF = LF) = true from decide_eq_true rfl])
           | ((go_at_call_of 18 (Value.slice As0 LS.length cs0)); (refine (iSameBytes_b (rs0.from_ hb_c3) (rl.from_ hb_c3) bLS bLS).mono ?_); rintro e w_c4 ⟨rfl, hd_c4⟩; have hb_c4 : Below wd.heap.size wd w_c4 := hb_c3.trans (hd_c4.mono hb_c3.size); have sd_c4 := hd_c4.size; have qc4_d_0 := (x_d.from_ hb_c4).cell (i := 0) rfl; have qc4_d_1 := (x_d.from_ hb_c4).cell (i := 1) rfl; have qc4_f_0 := (x_f.from_ hb_c4).cell (i := 0) rfl; have qc4_f_1 := (x_f.from_ hb_c4).cell (i := 1) rfl; have qc4_s_0 := (x_s.from_ hb_c4).cell (i := 0) rfl; have qc4_s_1 := (x_s.from_ hb_c4).cell (i := 1) rfl; have qc4_r_0 := (x_r.from_ hb_c4).cell (i := 0) rfl; have qc4_r_1 := (x_r.from_ hb_c4).cell (i := 1) rfl; replace ou := ou.below hd_c4; rw [show decide (LS = LS) = true from decide_eq_true rfl])
           | ((go_at_call_of 18 (Value.slice Ar0 lb.length cr0)); (refine (iSameBytes_b (rr0.from_ hb_c4) (rb.from_ hb_c4) b_b b_b).mono ?_); rintro e w_c5 ⟨rfl, hd_c5⟩; have hb_c5 : Below wd.heap.size wd w_c5 := hb_c4.trans (hd_c5.mono hb_c4.size); have sd_c5 := hd_c5.size; have qc5_d_0 := (x_d.from_ hb_c5).cell (i := 0) rfl; have qc5_d_1 := (x_d.from_ hb_c5).cell (i := 1) rfl; have qc5_f_0 := (x_f.from_ hb_c5).cell (i := 0) rfl; have qc5_f_1 := (x_f.from_ hb_c5).cell (i := 1) rfl; have qc5_s_0 := (x_s.from_ hb_c5).cell (i := 0) rfl; have qc5_s_1 := (x_s.from_ hb_c5).cell (i := 1) rfl; have qc5_r_0 := (x_r.from_ hb_c5).cell (i := 0) rfl; have qc5_r_1 := (x_r.from_ hb_c5).cell (i := 1) rfl; replace ou := ou.below hd_c5; rw [show decide (lb = lb) = true from decide_eq_true rfl])
           | ((go_at_call 14); (refine (iDiskFall_c (keep := (lb.length : Int)) (xd0.from_ hb_c5) (by show la.length + lb.length ≤ _; omega) (by omega)).mono ?_); rintro e w_c6 ⟨u6, rfl, o6, hd_c6⟩; have hb_c6 : Below wd.heap.size wd w_c6 := hb_c5.trans (hd_c6.mono hb_c5.size); have sd_c6 := hd_c6.size; have qc6_d_0 := (x_d.from_ hb_c6).cell (i := 0) rfl; have qc6_d_1 := (x_d.from_ hb_c6).cell (i := 1) rfl; have qc6_f_0 := (x_f.from_ hb_c6).cell (i := 0) rfl; have qc6_f_1 := (x_f.from_ hb_c6).cell (i := 1) rfl; have qc6_s_0 := (x_s.from_ hb_c6).cell (i := 0) rfl; have qc6_s_1 := (x_s.from_ hb_c6).cell (i := 1) rfl; have qc6_r_0 := (x_r.from_ hb_c6).cell (i := 0) rfl; have qc6_r_1 := (x_r.from_ hb_c6).cell (i := 1) rfl; replace ou := ou.below hd_c6; rw [show diskFall ⟨la, lb⟩ (lb.length : Int) = ⟨LS, []⟩ by unfold diskFall; rw [HLS.out, Int.toNat_natCast, List.take_of_length_le (Nat.le_refl _)]] at o6; obtain ⟨A60, c60, A61, c61, rfl, -, -⟩ := rv_disk o6.rd)
           | ((go_at_call 20); (refine (iDiskSame_c (xs0.from_ hb_c6) o6.rd bLS bytes_none bLS bytes_none).mono ?_); rintro e w_c7 ⟨rfl, hd_c7⟩; have hb_c7 : Below wd.heap.size wd w_c7 := hb_c6.trans (hd_c7.mono hb_c6.size); have sd_c7 := hd_c7.size; have qc7_d_0 := (x_d.from_ hb_c7).cell (i := 0) rfl; have qc7_d_1 := (x_d.from_ hb_c7).cell (i := 1) rfl; have qc7_f_0 := (x_f.from_ hb_c7).cell (i := 0) rfl; have qc7_f_1 := (x_f.from_ hb_c7).cell (i := 1) rfl; have qc7_s_0 := (x_s.from_ hb_c7).cell (i := 0) rfl; have qc7_s_1 := (x_s.from_ hb_c7).cell (i := 1) rfl; have qc7_r_0 := (x_r.from_ hb_c7).cell (i := 0) rfl; have qc7_r_1 := (x_r.from_ hb_c7).cell (i := 1) rfl; replace ou := ou.below hd_c7; replace o6 := o6.below hd_c7; rw [show diskSameB ⟨LS, []⟩ ⟨LS, []⟩ = true by unfold diskSameB; simp])
           | fail)
  go_wp2
  go_ret
  exact ⟨rfl, B_wd.trans (hb_c7.mono B_wd.size)⟩

end Go.Proofs.Ytdggbjhfbimebaa
