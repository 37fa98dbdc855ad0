/- Rights: the contract of spec.Mint. Laid by a program of ours (src/rt3.py). · Rights: the contract of spec.Spend. Laid by a program of ours (src/rt3.py). · Rights: the contract of spec.Hand. Laid by a program of ours (src/rt3.py). -/
import Derived.Test.YtmbipgnecjlicaaRt3

namespace Go.Proofs.Ytmbipgnecjlicaa
open Go.RowKit
set_option linter.unusedVariables false

set_option maxRecDepth 100000 in
set_option maxHeartbeats 1000000 in
theorem sMint_c {w : World} {v : Value} {r : MRights} {i a : Int} (h : RV rightsL w v r) (hm : r.bulk ≤ 16777216) :
    Calls Try.prog 36 #[v, .int .i64 i, .int .i64 a] w (NewVB rightsL w (mintM r i a) (mintB r i a)) := by
  have h0 := h
  obtain ⟨AG, cG, AS, cS, rfl, hrG, hrS, lG, lS⟩ := rv_rights2 h
  clear h
  unfold maxLen at lG lS
  obtain ⟨wa, hwa, B0, sa, x_a, x_r⟩ := frame2 w 27 [.slice AG r.Give.length cG, .slice AS r.Spent.length cS] 27 [.slice none 0 0, .slice none 0 0]
  have sa_1 := Nat.le_of_eq sa
  have sa_2 := Nat.le_of_eq sa.symm
  clear sa
  have c_a_0_wa := x_a.cell (i := 0) rfl
  have f_a_0_wa := x_a.frozen 0
  have c_a_1_wa := x_a.cell (i := 1) rfl
  have f_a_1_wa := x_a.frozen 1
  have c_r_0_wa := x_r.cell (i := 0) rfl
  have f_r_0_wa := x_r.frozen 0
  have c_r_1_wa := x_r.cell (i := 1) rfl
  have f_r_1_wa := x_r.frozen 1
  by_cases hf0 : mayB r i a = true
  case neg =>
    have hf' : mayB r i a = false := by simpa using hf0
    have HF0 := Lib.hid hf'
    have HB : Hid (mintB r i a = false) := by show _ = _; unfold mintB; rw [hf']; simp
    clear hf' hf0
    have HM : Hid (mintM r i a = rZ) := if_neg (by rw [HB.out]; decide)
    go_enter Try.func36, Try.ntmps36
    go_wp2_with fail
    refine (sMay_c (i := i) (a := a) (h0.from_ B0)).mono ?_
    rintro e w1 ⟨rfl, h_w1⟩
    clear c_a_0_wa f_a_0_wa c_a_1_wa f_a_1_wa c_r_0_wa f_r_0_wa c_r_1_wa f_r_1_wa
    replace x_a := x_a.from_ h_w1
    replace x_r := x_r.from_ h_w1
    have B_w1 := B0.trans (h_w1.mono B0.size)
    have s_w1 := h_w1.size
    rw [HF0.out]
    have c_a_0_w1 := x_a.cell (i := 0) rfl
    have f_a_0_w1 := x_a.frozen 0
    have c_a_1_w1 := x_a.cell (i := 1) rfl
    have f_a_1_w1 := x_a.frozen 1
    have c_r_0_w1 := x_r.cell (i := 0) rfl
    have f_r_0_w1 := x_r.frozen 0
    have c_r_1_w1 := x_r.cell (i := 1) rfl
    have f_r_1_w1 := x_r.frozen 1
    have i_r_0 := x_r.same (i := 0) rfl
    have i_r_1 := x_r.same (i := 1) rfl
    go_wp2
    refine ret_cell_tmp (by rfl) (by rfl) x_r Try.underlying27 sz_rights (by rfl) ?_
    rw [HM.out, HB.out]
    exact ⟨_, rfl, ov_rZ (Nat.le_refl _), B_w1⟩
  have HF0 := Lib.hid hf0
  obtain ⟨pok, pi, pa⟩ := may_parts hf0
  obtain ⟨p1, p2, p3⟩ := form_parts (ok_form pok)
  have HOK := Lib.hid pok
  clear hf0 pok
  obtain ⟨n, rfl⟩ : ∃ n : Nat, i = (n : Int) := ⟨i.toNat, by omega⟩
  obtain ⟨R, hR⟩ := get_of_lt (xs := r.Give) (k := n) (by omega)
  obtain ⟨q1, q2⟩ := form_row (ok_form HOK.out) hR
  have q2n := q2 n
  obtain ⟨y, hy⟩ : ∃ y, R.getD n 0 = y := ⟨_, rfl⟩
  rw [hy] at q2n
  have eY := g2_of hR n
  rw [hy] at eY
  obtain ⟨D, hD⟩ : ∃ D, addG r n n a = D := ⟨_, rfl⟩
  have HD2 : Hid ((⟨r.Give.set n (R.set n (y + a)), r.Spent⟩ : MRights) = D) := by
    show _ = _
    rw [← hD, addG, setG, eY]
    rw [show r.Give.getD n [] = R by rw [List.getD_eq_getElem?_getD, hR]; rfl]
  have lD : D.Give.length ≤ r.Give.length ∧ r.Give.length ≤ D.Give.length ∧ D.Spent.length ≤ r.Spent.length ∧ r.Spent.length ≤ D.Spent.length := by rw [← HD2.out]; simp
  have eD1 : D.Give.length = r.Give.length := by omega
  have eD2 : D.Spent.length = r.Spent.length := by omega
  have i1 : (n : Int) < (r.Give.length : Int) := by omega
  have i2 : (n : Int) < (R.length : Int) := by omega
  have HR := Lib.hid hR
  have HY := Lib.hid hy
  clear hR hy eY q2
  have ED := Lib.hid (And.intro eD1 eD2)
  clear eD1 eD2
  have tw : IntKind.i64.wrap (y + a) = y + a := IntWalk.i64_in _ (by omega)
  have HDD := Lib.hid hD
  clear hD
  by_cases hok : rightsOkB D = true
  case neg =>
    replace hok : rightsOkB D = false := by simpa using hok
    have HK := Lib.hid hok
    have HB : Hid (mintB r (n : Int) a = false) := by
      show _ = _
      unfold mintB
      rw [HF0.out]
      simp only [Int.toNat_natCast]
      rw [HDD.out, hok]
      rfl
    have HM : Hid (mintM r (n : Int) a = rZ) := if_neg (by rw [HB.out]; decide)
    clear hok
    go_enter Try.func36, Try.ntmps36
    go_wp2_with fail
    refine (sMay_c (i := (n : Int)) (a := a) (h0.from_ B0)).mono ?_
    rintro e w1 ⟨rfl, h_w1⟩
    clear c_a_0_wa f_a_0_wa c_a_1_wa f_a_1_wa c_r_0_wa f_r_0_wa c_r_1_wa f_r_1_wa
    replace x_a := x_a.from_ h_w1
    replace x_r := x_r.from_ h_w1
    have B_w1 := B0.trans (h_w1.mono B0.size)
    have s_w1 := h_w1.size
    rw [HF0.out]
    have c_a_0_w1 := x_a.cell (i := 0) rfl
    have f_a_0_w1 := x_a.frozen 0
    have c_a_1_w1 := x_a.cell (i := 1) rfl
    have f_a_1_w1 := x_a.frozen 1
    have c_r_0_w1 := x_r.cell (i := 0) rfl
    have f_r_0_w1 := x_r.frozen 0
    have c_r_1_w1 := x_r.cell (i := 1) rfl
    have f_r_1_w1 := x_r.frozen 1
    go_wp2_with fail
    refine (sRCopy_c (h0.from_ B_w1) hm).mono ?_
    rintro e w2 ⟨u, rfl, ou, h_w2⟩
    clear c_a_0_w1 f_a_0_w1 c_a_1_w1 f_a_1_w1 c_r_0_w1 f_r_0_w1 c_r_1_w1 f_r_1_w1
    replace x_a := x_a.from_ h_w2
    replace x_r := x_r.from_ h_w2
    have B_w2 := B_w1.trans (h_w2.mono B_w1.size)
    have s_w2 := h_w2.size
    obtain ⟨g, cg, u2, b, cb, rfl, k1, k2, k3, kb, hput⟩ := ou.setG HR.out (j := n) (by omega)
    obtain ⟨_, _, _, _, he, -⟩ := rv_rights ou.rd
    obtain ⟨A2, c2, rfl⟩ : ∃ A2 c2, u2 = .slice A2 r.Spent.length c2 := by simp at he; exact ⟨_, _, he.2⟩
    clear he
    clear k1 k2 k3 hput
    have c_a_0_w2 := x_a.cell (i := 0) rfl
    have f_a_0_w2 := x_a.frozen 0
    have c_a_1_w2 := x_a.cell (i := 1) rfl
    have f_a_1_w2 := x_a.frozen 1
    have c_r_0_w2 := x_r.cell (i := 0) rfl
    have f_r_0_w2 := x_r.frozen 0
    have c_r_1_w2 := x_r.cell (i := 1) rfl
    have f_r_1_w2 := x_r.frozen 1
    obtain ⟨w3, e_w3, s_w3, h_w3, x_o⟩ := alloc_step w2 27 [.slice (some ⟨g, 0, none⟩) r.Give.length cg, .slice A2 r.Spent.length c2]
    have s_w3_1 := Nat.le_of_eq s_w3
    have s_w3_2 := Nat.le_of_eq s_w3.symm
    clear s_w3
    replace x_a := x_a.from_ h_w3
    replace x_r := x_r.from_ h_w3
    replace ou := ou.below h_w3
    have B_w3 := B_w2.trans (h_w3.mono B_w2.size)
    clear c_a_0_w2 f_a_0_w2 c_a_1_w2 f_a_1_w2 c_r_0_w2 f_r_0_w2 c_r_1_w2 f_r_1_w2
    obtain ⟨wd, hwd⟩ : ∃ x, ({ heap := w3.heap, tape := w3.tape, drawn := w3.drawn + 1, os := w3.os, output := w3.output } : World) = x := ⟨_, rfl⟩
    have hbd : Below w3.heap.size w3 wd := by rw [← hwd]; exact (Below.refl w3.heap.size w3).drew
    have xo_ := x_o
    replace x_a := x_a.from_ hbd
    replace x_r := x_r.from_ hbd
    replace x_o := x_o.from_ hbd
    replace ou := ou.below hbd
    have B_wd := B_w3.trans (hbd.mono B_w3.size)
    have s_wd := hbd.size
    obtain ⟨_, _, _, b2, cb2, he, k1, k2, k3, kb2, hput⟩ := ou.setG HR.out (j := n) (by omega)
    simp only [Value.agg.injEq, Array.mk.injEq, List.cons.injEq, Value.slice.injEq, Option.some.injEq, Addr.mk.injEq, true_and, and_true] at he
    obtain ⟨⟨rfl, rfl⟩, rfl⟩ := he
    rw [HY.out] at k2
    have o3 := hput (y + a)
    rw [HD2.out] at o3
    clear hput ou
    have hcs := chg_set (w := wd) (j := n) (v := .int .i64 (y + a)) kb2
    obtain ⟨we, hwe⟩ : ∃ x, wd.setCell ⟨b2, n, none⟩ (.int .i64 (y + a)) = x := ⟨_, rfl⟩
    rw [hwe] at o3 hcs
    go_wp2_with fail
    refine wp_region_still_tail 17 (by kernel_rfl) (by kernel_rfl) ?_
    rw [hwd]
    simp only [List.take_succ_cons, List.take_zero, List.drop_succ_cons, List.drop_zero]
    have c_a_0_wd := x_a.cell (i := 0) rfl
    have f_a_0_wd := x_a.frozen 0
    have c_a_1_wd := x_a.cell (i := 1) rfl
    have f_a_1_wd := x_a.frozen 1
    have c_r_0_wd := x_r.cell (i := 0) rfl
    have f_r_0_wd := x_r.frozen 0
    have c_r_1_wd := x_r.cell (i := 1) rfl
    have f_r_1_wd := x_r.frozen 1
    have c_o_0_wd := x_o.cell (i := 0) rfl
    have f_o_0_wd := x_o.frozen 0
    have c_o_1_wd := x_o.cell (i := 1) rfl
    have f_o_1_wd := x_o.frozen 1
    repeat still_step
    refine wpStill_nil ?_
    replace x_a := x_a.chg hcs (by omega)
    replace x_r := x_r.chg hcs (by omega)
    replace x_o := x_o.chg hcs (by omega)
    have B_we := Below.chg_ B_wd hcs (by omega) (by omega)
    have s_we := hcs.size
    have c_a_0_we := x_a.cell (i := 0) rfl
    have f_a_0_we := x_a.frozen 0
    have c_a_1_we := x_a.cell (i := 1) rfl
    have f_a_1_we := x_a.frozen 1
    have c_r_0_we := x_r.cell (i := 0) rfl
    have f_r_0_we := x_r.frozen 0
    have c_r_1_we := x_r.cell (i := 1) rfl
    have f_r_1_we := x_r.frozen 1
    have c_o_0_we := x_o.cell (i := 0) rfl
    have f_o_0_we := x_o.frozen 0
    have c_o_1_we := x_o.cell (i := 1) rfl
    have f_o_1_we := x_o.frozen 1
    go_wp2_with fail
    refine (sDone_no o3.rd HK.out).mono ?_
    rintro e w4 ⟨rfl, h_w4⟩
    clear c_a_0_wd f_a_0_wd c_a_1_wd f_a_1_wd c_r_0_wd f_r_0_wd c_r_1_wd f_r_1_wd c_o_0_wd f_o_0_wd c_o_1_wd f_o_1_wd c_a_0_we f_a_0_we c_a_1_we f_a_1_we c_r_0_we f_r_0_we c_r_1_we f_r_1_we c_o_0_we f_o_0_we c_o_1_we f_o_1_we
    replace x_a := x_a.from_ h_w4
    replace x_r := x_r.from_ h_w4
    replace x_o := x_o.from_ h_w4
    replace o3 := o3.below h_w4
    have B_w4 := B_we.trans (h_w4.mono B_we.size)
    have s_w4 := h_w4.size
    have c_a_0_w4 := x_a.cell (i := 0) rfl
    have f_a_0_w4 := x_a.frozen 0
    have c_a_1_w4 := x_a.cell (i := 1) rfl
    have f_a_1_w4 := x_a.frozen 1
    have c_r_0_w4 := x_r.cell (i := 0) rfl
    have f_r_0_w4 := x_r.frozen 0
    have c_r_1_w4 := x_r.cell (i := 1) rfl
    have f_r_1_w4 := x_r.frozen 1
    have c_o_0_w4 := x_o.cell (i := 0) rfl
    have f_o_0_w4 := x_o.frozen 0
    have c_o_1_w4 := x_o.cell (i := 1) rfl
    have f_o_1_w4 := x_o.frozen 1
    have i_r_0 := x_r.same (i := 0) rfl
    have i_r_1 := x_r.same (i := 1) rfl
    go_wp2
    refine ret_cell_tmp (by rfl) (by rfl) x_r Try.underlying27 sz_rights (by rfl) ?_
    rw [HM.out, HB.out]
    exact ⟨_, rfl, ov_rZ (Nat.le_refl _), B_w4⟩
  case pos =>
    have HK := Lib.hid hok
    have HB : Hid (mintB r (n : Int) a = true) := by
      show _ = _
      unfold mintB
      rw [HF0.out]
      simp only [Int.toNat_natCast]
      rw [HDD.out, hok]
      rfl
    have HM : Hid (mintM r (n : Int) a = D) := by show _ = _; unfold mintM; rw [if_pos HB.out]; exact HDD.out
    clear hok
    go_enter Try.func36, Try.ntmps36
    go_wp2_with fail
    refine (sMay_c (i := (n : Int)) (a := a) (h0.from_ B0)).mono ?_
    rintro e w1 ⟨rfl, h_w1⟩
    clear c_a_0_wa f_a_0_wa c_a_1_wa f_a_1_wa c_r_0_wa f_r_0_wa c_r_1_wa f_r_1_wa
    replace x_a := x_a.from_ h_w1
    replace x_r := x_r.from_ h_w1
    have B_w1 := B0.trans (h_w1.mono B0.size)
    have s_w1 := h_w1.size
    rw [HF0.out]
    have c_a_0_w1 := x_a.cell (i := 0) rfl
    have f_a_0_w1 := x_a.frozen 0
    have c_a_1_w1 := x_a.cell (i := 1) rfl
    have f_a_1_w1 := x_a.frozen 1
    have c_r_0_w1 := x_r.cell (i := 0) rfl
    have f_r_0_w1 := x_r.frozen 0
    have c_r_1_w1 := x_r.cell (i := 1) rfl
    have f_r_1_w1 := x_r.frozen 1
    go_wp2_with fail
    refine (sRCopy_c (h0.from_ B_w1) hm).mono ?_
    rintro e w2 ⟨u, rfl, ou, h_w2⟩
    clear c_a_0_w1 f_a_0_w1 c_a_1_w1 f_a_1_w1 c_r_0_w1 f_r_0_w1 c_r_1_w1 f_r_1_w1
    replace x_a := x_a.from_ h_w2
    replace x_r := x_r.from_ h_w2
    have B_w2 := B_w1.trans (h_w2.mono B_w1.size)
    have s_w2 := h_w2.size
    obtain ⟨g, cg, u2, b, cb, rfl, k1, k2, k3, kb, hput⟩ := ou.setG HR.out (j := n) (by omega)
    obtain ⟨_, _, _, _, he, -⟩ := rv_rights ou.rd
    obtain ⟨A2, c2, rfl⟩ : ∃ A2 c2, u2 = .slice A2 r.Spent.length c2 := by simp at he; exact ⟨_, _, he.2⟩
    clear he
    clear k1 k2 k3 hput
    have c_a_0_w2 := x_a.cell (i := 0) rfl
    have f_a_0_w2 := x_a.frozen 0
    have c_a_1_w2 := x_a.cell (i := 1) rfl
    have f_a_1_w2 := x_a.frozen 1
    have c_r_0_w2 := x_r.cell (i := 0) rfl
    have f_r_0_w2 := x_r.frozen 0
    have c_r_1_w2 := x_r.cell (i := 1) rfl
    have f_r_1_w2 := x_r.frozen 1
    obtain ⟨w3, e_w3, s_w3, h_w3, x_o⟩ := alloc_step w2 27 [.slice (some ⟨g, 0, none⟩) r.Give.length cg, .slice A2 r.Spent.length c2]
    have s_w3_1 := Nat.le_of_eq s_w3
    have s_w3_2 := Nat.le_of_eq s_w3.symm
    clear s_w3
    replace x_a := x_a.from_ h_w3
    replace x_r := x_r.from_ h_w3
    replace ou := ou.below h_w3
    have B_w3 := B_w2.trans (h_w3.mono B_w2.size)
    clear c_a_0_w2 f_a_0_w2 c_a_1_w2 f_a_1_w2 c_r_0_w2 f_r_0_w2 c_r_1_w2 f_r_1_w2
    obtain ⟨wd, hwd⟩ : ∃ x, ({ heap := w3.heap, tape := w3.tape, drawn := w3.drawn + 1, os := w3.os, output := w3.output } : World) = x := ⟨_, rfl⟩
    have hbd : Below w3.heap.size w3 wd := by rw [← hwd]; exact (Below.refl w3.heap.size w3).drew
    have xo_ := x_o
    replace x_a := x_a.from_ hbd
    replace x_r := x_r.from_ hbd
    replace x_o := x_o.from_ hbd
    replace ou := ou.below hbd
    have B_wd := B_w3.trans (hbd.mono B_w3.size)
    have s_wd := hbd.size
    obtain ⟨_, _, _, b2, cb2, he, k1, k2, k3, kb2, hput⟩ := ou.setG HR.out (j := n) (by omega)
    simp only [Value.agg.injEq, Array.mk.injEq, List.cons.injEq, Value.slice.injEq, Option.some.injEq, Addr.mk.injEq, true_and, and_true] at he
    obtain ⟨⟨rfl, rfl⟩, rfl⟩ := he
    rw [HY.out] at k2
    have o3 := hput (y + a)
    rw [HD2.out] at o3
    clear hput ou
    have hcs := chg_set (w := wd) (j := n) (v := .int .i64 (y + a)) kb2
    obtain ⟨we, hwe⟩ : ∃ x, wd.setCell ⟨b2, n, none⟩ (.int .i64 (y + a)) = x := ⟨_, rfl⟩
    rw [hwe] at o3 hcs
    go_wp2_with fail
    refine wp_region_still_tail 17 (by kernel_rfl) (by kernel_rfl) ?_
    rw [hwd]
    simp only [List.take_succ_cons, List.take_zero, List.drop_succ_cons, List.drop_zero]
    have c_a_0_wd := x_a.cell (i := 0) rfl
    have f_a_0_wd := x_a.frozen 0
    have c_a_1_wd := x_a.cell (i := 1) rfl
    have f_a_1_wd := x_a.frozen 1
    have c_r_0_wd := x_r.cell (i := 0) rfl
    have f_r_0_wd := x_r.frozen 0
    have c_r_1_wd := x_r.cell (i := 1) rfl
    have f_r_1_wd := x_r.frozen 1
    have c_o_0_wd := x_o.cell (i := 0) rfl
    have f_o_0_wd := x_o.frozen 0
    have c_o_1_wd := x_o.cell (i := 1) rfl
    have f_o_1_wd := x_o.frozen 1
    repeat still_step
    refine wpStill_nil ?_
    replace x_a := x_a.chg hcs (by omega)
    replace x_r := x_r.chg hcs (by omega)
    replace x_o := x_o.chg hcs (by omega)
    have B_we := Below.chg_ B_wd hcs (by omega) (by omega)
    have s_we := hcs.size
    have c_a_0_we := x_a.cell (i := 0) rfl
    have f_a_0_we := x_a.frozen 0
    have c_a_1_we := x_a.cell (i := 1) rfl
    have f_a_1_we := x_a.frozen 1
    have c_r_0_we := x_r.cell (i := 0) rfl
    have f_r_0_we := x_r.frozen 0
    have c_r_1_we := x_r.cell (i := 1) rfl
    have f_r_1_we := x_r.frozen 1
    have c_o_0_we := x_o.cell (i := 0) rfl
    have f_o_0_we := x_o.frozen 0
    have c_o_1_we := x_o.cell (i := 1) rfl
    have f_o_1_we := x_o.frozen 1
    have rD := o3.rd
    go_wp2_with fail
    refine (sDone_yes rD HK.out).mono ?_
    rintro e w4 ⟨rfl, h_w4⟩
    clear c_a_0_wd f_a_0_wd c_a_1_wd f_a_1_wd c_r_0_wd f_r_0_wd c_r_1_wd f_r_1_wd c_o_0_wd f_o_0_wd c_o_1_wd f_o_1_wd c_a_0_we f_a_0_we c_a_1_we f_a_1_we c_r_0_we f_r_0_we c_r_1_we f_r_1_we c_o_0_we f_o_0_we c_o_1_we f_o_1_we
    replace x_a := x_a.from_ h_w4
    replace x_r := x_r.from_ h_w4
    replace x_o := x_o.from_ h_w4
    replace o3 := o3.below h_w4
    have B_w4 := B_we.trans (h_w4.mono B_we.size)
    have s_w4 := h_w4.size
    clear rD
    have c_a_0_w4 := x_a.cell (i := 0) rfl
    have f_a_0_w4 := x_a.frozen 0
    have c_a_1_w4 := x_a.cell (i := 1) rfl
    have f_a_1_w4 := x_a.frozen 1
    have c_r_0_w4 := x_r.cell (i := 0) rfl
    have f_r_0_w4 := x_r.frozen 0
    have c_r_1_w4 := x_r.cell (i := 1) rfl
    have f_r_1_w4 := x_r.frozen 1
    have c_o_0_w4 := x_o.cell (i := 0) rfl
    have f_o_0_w4 := x_o.frozen 0
    have c_o_1_w4 := x_o.cell (i := 1) rfl
    have f_o_1_w4 := x_o.frozen 1
    obtain ⟨w5, e_w5, s_w5, h_w5, y⟩ := store_step x_r [.slice (some ⟨g, 0, none⟩) r.Give.length cg, .slice A2 r.Spent.length c2] rfl
    replace e_w5 : ((w4.setCell ⟨w.heap.size + 1, 0, none⟩ (.slice (some ⟨g, 0, none⟩) r.Give.length cg)).setCell ⟨w.heap.size + 1, 1, none⟩ (.slice A2 r.Spent.length c2)) = w5 := e_w5
    have s_w5_1 := Nat.le_of_eq s_w5
    have s_w5_2 := Nat.le_of_eq s_w5.symm
    clear s_w5
    replace x_a := x_a.chg h_w5 (by omega)
    replace x_o := x_o.chg h_w5 (by omega)
    replace o3 := o3.chg h_w5 (by omega)
    have B_w5 := Below.chg_ B_w4 h_w5 (by omega) (by omega)
    replace x_r : Vr w5 (w.heap.size + 1) 27 [.slice (some ⟨g, 0, none⟩) r.Give.length cg, .slice A2 r.Spent.length c2] := y
    clear y
    have c_r_0_w5 := x_r.cell (i := 0) rfl
    have f_r_0_w5 := x_r.frozen 0
    have c_r_1_w5 := x_r.cell (i := 1) rfl
    have f_r_1_w5 := x_r.frozen 1
    go_wp2
    refine ret_cell_tmp (by rfl) (by rfl) x_r Try.underlying27 sz_rights (by rfl) ?_
    rw [HM.out, HB.out]
    exact ⟨_, rfl, o3.widen (by omega) (by omega) (Nat.le_refl _), B_w5⟩

end Go.Proofs.Ytmbipgnecjlicaa

namespace Go.Proofs.Ytmbipgnecjlicaa
open Go.RowKit
set_option linter.unusedVariables false

set_option maxRecDepth 100000 in
set_option maxHeartbeats 1000000 in
theorem sSpend_c {w : World} {v : Value} {r : MRights} {i a : Int} (h : RV rightsL w v r) (hm : r.bulk ≤ 16777216) :
    Calls Try.prog 37 #[v, .int .i64 i, .int .i64 a] w (NewVB rightsL w (spendM r i a) (spendB r i a)) := by
  have h0 := h
  obtain ⟨AG, cG, AS, cS, rfl, hrG, hrS, lG, lS⟩ := rv_rights2 h
  clear h
  unfold maxLen at lG lS
  obtain ⟨wa, hwa, B0, sa, x_a, x_r⟩ := frame2 w 27 [.slice AG r.Give.length cG, .slice AS r.Spent.length cS] 27 [.slice none 0 0, .slice none 0 0]
  have sa_1 := Nat.le_of_eq sa
  have sa_2 := Nat.le_of_eq sa.symm
  clear sa
  have c_a_0_wa := x_a.cell (i := 0) rfl
  have f_a_0_wa := x_a.frozen 0
  have c_a_1_wa := x_a.cell (i := 1) rfl
  have f_a_1_wa := x_a.frozen 1
  have c_r_0_wa := x_r.cell (i := 0) rfl
  have f_r_0_wa := x_r.frozen 0
  have c_r_1_wa := x_r.cell (i := 1) rfl
  have f_r_1_wa := x_r.frozen 1
  by_cases hf0 : mayB r i a = true
  case neg =>
    have hf' : mayB r i a = false := by simpa using hf0
    have HF0 := Lib.hid hf'
    have HB : Hid (spendB r i a = false) := by show _ = _; unfold spendB; rw [hf']; simp
    clear hf' hf0
    have HM : Hid (spendM r i a = rZ) := if_neg (by rw [HB.out]; decide)
    go_enter Try.func37, Try.ntmps37
    go_wp2_with fail
    refine (sMay_c (i := i) (a := a) (h0.from_ B0)).mono ?_
    rintro e w1 ⟨rfl, h_w1⟩
    clear c_a_0_wa f_a_0_wa c_a_1_wa f_a_1_wa c_r_0_wa f_r_0_wa c_r_1_wa f_r_1_wa
    replace x_a := x_a.from_ h_w1
    replace x_r := x_r.from_ h_w1
    have B_w1 := B0.trans (h_w1.mono B0.size)
    have s_w1 := h_w1.size
    rw [HF0.out]
    have c_a_0_w1 := x_a.cell (i := 0) rfl
    have f_a_0_w1 := x_a.frozen 0
    have c_a_1_w1 := x_a.cell (i := 1) rfl
    have f_a_1_w1 := x_a.frozen 1
    have c_r_0_w1 := x_r.cell (i := 0) rfl
    have f_r_0_w1 := x_r.frozen 0
    have c_r_1_w1 := x_r.cell (i := 1) rfl
    have f_r_1_w1 := x_r.frozen 1
    have i_r_0 := x_r.same (i := 0) rfl
    have i_r_1 := x_r.same (i := 1) rfl
    go_wp2
    refine ret_cell_tmp (by rfl) (by rfl) x_r Try.underlying27 sz_rights (by rfl) ?_
    rw [HM.out, HB.out]
    exact ⟨_, rfl, ov_rZ (Nat.le_refl _), B_w1⟩
  have HF0 := Lib.hid hf0
  obtain ⟨pok, pi, pa⟩ := may_parts hf0
  obtain ⟨p1, p2, p3⟩ := form_parts (ok_form pok)
  have HOK := Lib.hid pok
  clear hf0 pok
  obtain ⟨n, rfl⟩ : ∃ n : Nat, i = (n : Int) := ⟨i.toNat, by omega⟩
  have q2n := p3 n
  unfold s1 at q2n
  obtain ⟨y, hy⟩ : ∃ y, r.Spent.getD n 0 = y := ⟨_, rfl⟩
  rw [hy] at q2n
  obtain ⟨D, hD⟩ : ∃ D, addS r n a = D := ⟨_, rfl⟩
  have HD2 : Hid ((⟨r.Give, r.Spent.set n (y + a)⟩ : MRights) = D) := by
    show _ = _
    rw [← hD, addS, setS, s1, hy]
  have lD : D.Give.length ≤ r.Give.length ∧ r.Give.length ≤ D.Give.length ∧ D.Spent.length ≤ r.Spent.length ∧ r.Spent.length ≤ D.Spent.length := by rw [← HD2.out]; simp
  have eD1 : D.Give.length = r.Give.length := by omega
  have eD2 : D.Spent.length = r.Spent.length := by omega
  have i1 : (n : Int) < (r.Spent.length : Int) := by omega
  have HY := Lib.hid hy
  clear hy
  have ED := Lib.hid (And.intro eD1 eD2)
  clear eD1 eD2
  have tw : IntKind.i64.wrap (y + a) = y + a := IntWalk.i64_in _ (by omega)
  have HDD := Lib.hid hD
  clear hD
  by_cases hok : rightsOkB D = true
  case neg =>
    replace hok : rightsOkB D = false := by simpa using hok
    have HK := Lib.hid hok
    have HB : Hid (spendB r (n : Int) a = false) := by
      show _ = _
      unfold spendB
      rw [HF0.out]
      simp only [Int.toNat_natCast]
      rw [HDD.out, hok]
      rfl
    have HM : Hid (spendM r (n : Int) a = rZ) := if_neg (by rw [HB.out]; decide)
    clear hok
    go_enter Try.func37, Try.ntmps37
    go_wp2_with fail
    refine (sMay_c (i := (n : Int)) (a := a) (h0.from_ B0)).mono ?_
    rintro e w1 ⟨rfl, h_w1⟩
    clear c_a_0_wa f_a_0_wa c_a_1_wa f_a_1_wa c_r_0_wa f_r_0_wa c_r_1_wa f_r_1_wa
    replace x_a := x_a.from_ h_w1
    replace x_r := x_r.from_ h_w1
    have B_w1 := B0.trans (h_w1.mono B0.size)
    have s_w1 := h_w1.size
    rw [HF0.out]
    have c_a_0_w1 := x_a.cell (i := 0) rfl
    have f_a_0_w1 := x_a.frozen 0
    have c_a_1_w1 := x_a.cell (i := 1) rfl
    have f_a_1_w1 := x_a.frozen 1
    have c_r_0_w1 := x_r.cell (i := 0) rfl
    have f_r_0_w1 := x_r.frozen 0
    have c_r_1_w1 := x_r.cell (i := 1) rfl
    have f_r_1_w1 := x_r.frozen 1
    go_wp2_with fail
    refine (sRCopy_c (h0.from_ B_w1) hm).mono ?_
    rintro e w2 ⟨u, rfl, ou, h_w2⟩
    clear c_a_0_w1 f_a_0_w1 c_a_1_w1 f_a_1_w1 c_r_0_w1 f_r_0_w1 c_r_1_w1 f_r_1_w1
    replace x_a := x_a.from_ h_w2
    replace x_r := x_r.from_ h_w2
    have B_w2 := B_w1.trans (h_w2.mono B_w1.size)
    have s_w2 := h_w2.size
    obtain ⟨u1, b, cb, rfl, k2, k3, kb, hput⟩ := ou.setS (i := n) (by omega)
    obtain ⟨_, _, _, _, he, -⟩ := rv_rights ou.rd
    obtain ⟨A2, c2, rfl⟩ : ∃ A2 c2, u1 = .slice A2 r.Give.length c2 := by simp at he; exact ⟨_, _, he.1⟩
    clear he
    clear k2 k3 hput
    have c_a_0_w2 := x_a.cell (i := 0) rfl
    have f_a_0_w2 := x_a.frozen 0
    have c_a_1_w2 := x_a.cell (i := 1) rfl
    have f_a_1_w2 := x_a.frozen 1
    have c_r_0_w2 := x_r.cell (i := 0) rfl
    have f_r_0_w2 := x_r.frozen 0
    have c_r_1_w2 := x_r.cell (i := 1) rfl
    have f_r_1_w2 := x_r.frozen 1
    obtain ⟨w3, e_w3, s_w3, h_w3, x_o⟩ := alloc_step w2 27 [.slice A2 r.Give.length c2, .slice (some ⟨b, 0, none⟩) r.Spent.length cb]
    have s_w3_1 := Nat.le_of_eq s_w3
    have s_w3_2 := Nat.le_of_eq s_w3.symm
    clear s_w3
    replace x_a := x_a.from_ h_w3
    replace x_r := x_r.from_ h_w3
    replace ou := ou.below h_w3
    have B_w3 := B_w2.trans (h_w3.mono B_w2.size)
    clear c_a_0_w2 f_a_0_w2 c_a_1_w2 f_a_1_w2 c_r_0_w2 f_r_0_w2 c_r_1_w2 f_r_1_w2
    obtain ⟨wd, hwd⟩ : ∃ x, ({ heap := w3.heap, tape := w3.tape, drawn := w3.drawn + 1, os := w3.os, output := w3.output } : World) = x := ⟨_, rfl⟩
    have hbd : Below w3.heap.size w3 wd := by rw [← hwd]; exact (Below.refl w3.heap.size w3).drew
    have xo_ := x_o
    replace x_a := x_a.from_ hbd
    replace x_r := x_r.from_ hbd
    replace x_o := x_o.from_ hbd
    replace ou := ou.below hbd
    have B_wd := B_w3.trans (hbd.mono B_w3.size)
    have s_wd := hbd.size
    obtain ⟨_, b2, cb2, he, k2, k3, kb2, hput⟩ := ou.setS (i := n) (by omega)
    simp only [Value.agg.injEq, Array.mk.injEq, List.cons.injEq, Value.slice.injEq, Option.some.injEq, Addr.mk.injEq, true_and, and_true] at he
    obtain ⟨rfl, rfl, rfl⟩ := he
    rw [HY.out] at k2
    have o3 := hput (y + a)
    rw [HD2.out] at o3
    clear hput ou
    have hcs := chg_set (w := wd) (j := n) (v := .int .i64 (y + a)) kb2
    obtain ⟨we, hwe⟩ : ∃ x, wd.setCell ⟨b, n, none⟩ (.int .i64 (y + a)) = x := ⟨_, rfl⟩
    rw [hwe] at o3 hcs
    go_wp2_with fail
    refine wp_region_still_tail 11 (by kernel_rfl) (by kernel_rfl) ?_
    rw [hwd]
    simp only [List.take_succ_cons, List.take_zero, List.drop_succ_cons, List.drop_zero]
    have c_a_0_wd := x_a.cell (i := 0) rfl
    have f_a_0_wd := x_a.frozen 0
    have c_a_1_wd := x_a.cell (i := 1) rfl
    have f_a_1_wd := x_a.frozen 1
    have c_r_0_wd := x_r.cell (i := 0) rfl
    have f_r_0_wd := x_r.frozen 0
    have c_r_1_wd := x_r.cell (i := 1) rfl
    have f_r_1_wd := x_r.frozen 1
    have c_o_0_wd := x_o.cell (i := 0) rfl
    have f_o_0_wd := x_o.frozen 0
    have c_o_1_wd := x_o.cell (i := 1) rfl
    have f_o_1_wd := x_o.frozen 1
    repeat still_step
    refine wpStill_nil ?_
    replace x_a := x_a.chg hcs (by omega)
    replace x_r := x_r.chg hcs (by omega)
    replace x_o := x_o.chg hcs (by omega)
    have B_we := Below.chg_ B_wd hcs (by omega) (by omega)
    have s_we := hcs.size
    have c_a_0_we := x_a.cell (i := 0) rfl
    have f_a_0_we := x_a.frozen 0
    have c_a_1_we := x_a.cell (i := 1) rfl
    have f_a_1_we := x_a.frozen 1
    have c_r_0_we := x_r.cell (i := 0) rfl
    have f_r_0_we := x_r.frozen 0
    have c_r_1_we := x_r.cell (i := 1) rfl
    have f_r_1_we := x_r.frozen 1
    have c_o_0_we := x_o.cell (i := 0) rfl
    have f_o_0_we := x_o.frozen 0
    have c_o_1_we := x_o.cell (i := 1) rfl
    have f_o_1_we := x_o.frozen 1
    go_wp2_with fail
    refine (sDone_no o3.rd HK.out).mono ?_
    rintro e w4 ⟨rfl, h_w4⟩
    clear c_a_0_wd f_a_0_wd c_a_1_wd f_a_1_wd c_r_0_wd f_r_0_wd c_r_1_wd f_r_1_wd c_o_0_wd f_o_0_wd c_o_1_wd f_o_1_wd c_a_0_we f_a_0_we c_a_1_we f_a_1_we c_r_0_we f_r_0_we c_r_1_we f_r_1_we c_o_0_we f_o_0_we c_o_1_we f_o_1_we
    replace x_a := x_a.from_ h_w4
    replace x_r := x_r.from_ h_w4
    replace x_o := x_o.from_ h_w4
    replace o3 := o3.below h_w4
    have B_w4 := B_we.trans (h_w4.mono B_we.size)
    have s_w4 := h_w4.size
    have c_a_0_w4 := x_a.cell (i := 0) rfl
    have f_a_0_w4 := x_a.frozen 0
    have c_a_1_w4 := x_a.cell (i := 1) rfl
    have f_a_1_w4 := x_a.frozen 1
    have c_r_0_w4 := x_r.cell (i := 0) rfl
    have f_r_0_w4 := x_r.frozen 0
    have c_r_1_w4 := x_r.cell (i := 1) rfl
    have f_r_1_w4 := x_r.frozen 1
    have c_o_0_w4 := x_o.cell (i := 0) rfl
    have f_o_0_w4 := x_o.frozen 0
    have c_o_1_w4 := x_o.cell (i := 1) rfl
    have f_o_1_w4 := x_o.frozen 1
    have i_r_0 := x_r.same (i := 0) rfl
    have i_r_1 := x_r.same (i := 1) rfl
    go_wp2
    refine ret_cell_tmp (by rfl) (by rfl) x_r Try.underlying27 sz_rights (by rfl) ?_
    rw [HM.out, HB.out]
    exact ⟨_, rfl, ov_rZ (Nat.le_refl _), B_w4⟩
  case pos =>
    have HK := Lib.hid hok
    have HB : Hid (spendB r (n : Int) a = true) := by
      show _ = _
      unfold spendB
      rw [HF0.out]
      simp only [Int.toNat_natCast]
      rw [HDD.out, hok]
      rfl
    have HM : Hid (spendM r (n : Int) a = D) := by show _ = _; unfold spendM; rw [if_pos HB.out]; exact HDD.out
    clear hok
    go_enter Try.func37, Try.ntmps37
    go_wp2_with fail
    refine (sMay_c (i := (n : Int)) (a := a) (h0.from_ B0)).mono ?_
    rintro e w1 ⟨rfl, h_w1⟩
    clear c_a_0_wa f_a_0_wa c_a_1_wa f_a_1_wa c_r_0_wa f_r_0_wa c_r_1_wa f_r_1_wa
    replace x_a := x_a.from_ h_w1
    replace x_r := x_r.from_ h_w1
    have B_w1 := B0.trans (h_w1.mono B0.size)
    have s_w1 := h_w1.size
    rw [HF0.out]
    have c_a_0_w1 := x_a.cell (i := 0) rfl
    have f_a_0_w1 := x_a.frozen 0
    have c_a_1_w1 := x_a.cell (i := 1) rfl
    have f_a_1_w1 := x_a.frozen 1
    have c_r_0_w1 := x_r.cell (i := 0) rfl
    have f_r_0_w1 := x_r.frozen 0
    have c_r_1_w1 := x_r.cell (i := 1) rfl
    have f_r_1_w1 := x_r.frozen 1
    go_wp2_with fail
    refine (sRCopy_c (h0.from_ B_w1) hm).mono ?_
    rintro e w2 ⟨u, rfl, ou, h_w2⟩
    clear c_a_0_w1 f_a_0_w1 c_a_1_w1 f_a_1_w1 c_r_0_w1 f_r_0_w1 c_r_1_w1 f_r_1_w1
    replace x_a := x_a.from_ h_w2
    replace x_r := x_r.from_ h_w2
    have B_w2 := B_w1.trans (h_w2.mono B_w1.size)
    have s_w2 := h_w2.size
    obtain ⟨u1, b, cb, rfl, k2, k3, kb, hput⟩ := ou.setS (i := n) (by omega)
    obtain ⟨_, _, _, _, he, -⟩ := rv_rights ou.rd
    obtain ⟨A2, c2, rfl⟩ : ∃ A2 c2, u1 = .slice A2 r.Give.length c2 := by simp at he; exact ⟨_, _, he.1⟩
    clear he
    clear k2 k3 hput
    have c_a_0_w2 := x_a.cell (i := 0) rfl
    have f_a_0_w2 := x_a.frozen 0
    have c_a_1_w2 := x_a.cell (i := 1) rfl
    have f_a_1_w2 := x_a.frozen 1
    have c_r_0_w2 := x_r.cell (i := 0) rfl
    have f_r_0_w2 := x_r.frozen 0
    have c_r_1_w2 := x_r.cell (i := 1) rfl
    have f_r_1_w2 := x_r.frozen 1
    obtain ⟨w3, e_w3, s_w3, h_w3, x_o⟩ := alloc_step w2 27 [.slice A2 r.Give.length c2, .slice (some ⟨b, 0, none⟩) r.Spent.length cb]
    have s_w3_1 := Nat.le_of_eq s_w3
    have s_w3_2 := Nat.le_of_eq s_w3.symm
    clear s_w3
    replace x_a := x_a.from_ h_w3
    replace x_r := x_r.from_ h_w3
    replace ou := ou.below h_w3
    have B_w3 := B_w2.trans (h_w3.mono B_w2.size)
    clear c_a_0_w2 f_a_0_w2 c_a_1_w2 f_a_1_w2 c_r_0_w2 f_r_0_w2 c_r_1_w2 f_r_1_w2
    obtain ⟨wd, hwd⟩ : ∃ x, ({ heap := w3.heap, tape := w3.tape, drawn := w3.drawn + 1, os := w3.os, output := w3.output } : World) = x := ⟨_, rfl⟩
    have hbd : Below w3.heap.size w3 wd := by rw [← hwd]; exact (Below.refl w3.heap.size w3).drew
    have xo_ := x_o
    replace x_a := x_a.from_ hbd
    replace x_r := x_r.from_ hbd
    replace x_o := x_o.from_ hbd
    replace ou := ou.below hbd
    have B_wd := B_w3.trans (hbd.mono B_w3.size)
    have s_wd := hbd.size
    obtain ⟨_, b2, cb2, he, k2, k3, kb2, hput⟩ := ou.setS (i := n) (by omega)
    simp only [Value.agg.injEq, Array.mk.injEq, List.cons.injEq, Value.slice.injEq, Option.some.injEq, Addr.mk.injEq, true_and, and_true] at he
    obtain ⟨rfl, rfl, rfl⟩ := he
    rw [HY.out] at k2
    have o3 := hput (y + a)
    rw [HD2.out] at o3
    clear hput ou
    have hcs := chg_set (w := wd) (j := n) (v := .int .i64 (y + a)) kb2
    obtain ⟨we, hwe⟩ : ∃ x, wd.setCell ⟨b, n, none⟩ (.int .i64 (y + a)) = x := ⟨_, rfl⟩
    rw [hwe] at o3 hcs
    go_wp2_with fail
    refine wp_region_still_tail 11 (by kernel_rfl) (by kernel_rfl) ?_
    rw [hwd]
    simp only [List.take_succ_cons, List.take_zero, List.drop_succ_cons, List.drop_zero]
    have c_a_0_wd := x_a.cell (i := 0) rfl
    have f_a_0_wd := x_a.frozen 0
    have c_a_1_wd := x_a.cell (i := 1) rfl
    have f_a_1_wd := x_a.frozen 1
    have c_r_0_wd := x_r.cell (i := 0) rfl
    have f_r_0_wd := x_r.frozen 0
    have c_r_1_wd := x_r.cell (i := 1) rfl
    have f_r_1_wd := x_r.frozen 1
    have c_o_0_wd := x_o.cell (i := 0) rfl
    have f_o_0_wd := x_o.frozen 0
    have c_o_1_wd := x_o.cell (i := 1) rfl
    have f_o_1_wd := x_o.frozen 1
    repeat still_step
    refine wpStill_nil ?_
    replace x_a := x_a.chg hcs (by omega)
    replace x_r := x_r.chg hcs (by omega)
    replace x_o := x_o.chg hcs (by omega)
    have B_we := Below.chg_ B_wd hcs (by omega) (by omega)
    have s_we := hcs.size
    have c_a_0_we := x_a.cell (i := 0) rfl
    have f_a_0_we := x_a.frozen 0
    have c_a_1_we := x_a.cell (i := 1) rfl
    have f_a_1_we := x_a.frozen 1
    have c_r_0_we := x_r.cell (i := 0) rfl
    have f_r_0_we := x_r.frozen 0
    have c_r_1_we := x_r.cell (i := 1) rfl
    have f_r_1_we := x_r.frozen 1
    have c_o_0_we := x_o.cell (i := 0) rfl
    have f_o_0_we := x_o.frozen 0
    have c_o_1_we := x_o.cell (i := 1) rfl
    have f_o_1_we := x_o.frozen 1
    have rD := o3.rd
    go_wp2_with fail
    refine (sDone_yes rD HK.out).mono ?_
    rintro e w4 ⟨rfl, h_w4⟩
    clear c_a_0_wd f_a_0_wd c_a_1_wd f_a_1_wd c_r_0_wd f_r_0_wd c_r_1_wd f_r_1_wd c_o_0_wd f_o_0_wd c_o_1_wd f_o_1_wd c_a_0_we f_a_0_we c_a_1_we f_a_1_we c_r_0_we f_r_0_we c_r_1_we f_r_1_we c_o_0_we f_o_0_we c_o_1_we f_o_1_we
    replace x_a := x_a.from_ h_w4
    replace x_r := x_r.from_ h_w4
    replace x_o := x_o.from_ h_w4
    replace o3 := o3.below h_w4
    have B_w4 := B_we.trans (h_w4.mono B_we.size)
    have s_w4 := h_w4.size
    clear rD
    have c_a_0_w4 := x_a.cell (i := 0) rfl
    have f_a_0_w4 := x_a.frozen 0
    have c_a_1_w4 := x_a.cell (i := 1) rfl
    have f_a_1_w4 := x_a.frozen 1
    have c_r_0_w4 := x_r.cell (i := 0) rfl
    have f_r_0_w4 := x_r.frozen 0
    have c_r_1_w4 := x_r.cell (i := 1) rfl
    have f_r_1_w4 := x_r.frozen 1
    have c_o_0_w4 := x_o.cell (i := 0) rfl
    have f_o_0_w4 := x_o.frozen 0
    have c_o_1_w4 := x_o.cell (i := 1) rfl
    have f_o_1_w4 := x_o.frozen 1
    obtain ⟨w5, e_w5, s_w5, h_w5, y⟩ := store_step x_r [.slice A2 r.Give.length c2, .slice (some ⟨b, 0, none⟩) r.Spent.length cb] rfl
    replace e_w5 : ((w4.setCell ⟨w.heap.size + 1, 0, none⟩ (.slice A2 r.Give.length c2)).setCell ⟨w.heap.size + 1, 1, none⟩ (.slice (some ⟨b, 0, none⟩) r.Spent.length cb)) = w5 := e_w5
    have s_w5_1 := Nat.le_of_eq s_w5
    have s_w5_2 := Nat.le_of_eq s_w5.symm
    clear s_w5
    replace x_a := x_a.chg h_w5 (by omega)
    replace x_o := x_o.chg h_w5 (by omega)
    replace o3 := o3.chg h_w5 (by omega)
    have B_w5 := Below.chg_ B_w4 h_w5 (by omega) (by omega)
    replace x_r : Vr w5 (w.heap.size + 1) 27 [.slice A2 r.Give.length c2, .slice (some ⟨b, 0, none⟩) r.Spent.length cb] := y
    clear y
    have c_r_0_w5 := x_r.cell (i := 0) rfl
    have f_r_0_w5 := x_r.frozen 0
    have c_r_1_w5 := x_r.cell (i := 1) rfl
    have f_r_1_w5 := x_r.frozen 1
    go_wp2
    refine ret_cell_tmp (by rfl) (by rfl) x_r Try.underlying27 sz_rights (by rfl) ?_
    rw [HM.out, HB.out]
    exact ⟨_, rfl, o3.widen (by omega) (by omega) (Nat.le_refl _), B_w5⟩

end Go.Proofs.Ytmbipgnecjlicaa

namespace Go.Proofs.Ytmbipgnecjlicaa
open Go.RowKit
set_option linter.unusedVariables false

set_option maxRecDepth 100000 in
set_option maxHeartbeats 1000000 in
theorem sHand_c {w : World} {v : Value} {r : MRights} {i j a : Int} (h : RV rightsL w v r) (hm : r.bulk ≤ 16777216) :
    Calls Try.prog 38 #[v, .int .i64 i, .int .i64 j, .int .i64 a] w (NewVB rightsL w (handM r i j a) (handB r i j a)) := by
  have h0 := h
  obtain ⟨AG, cG, AS, cS, rfl, hrG, hrS, lG, lS⟩ := rv_rights2 h
  clear h
  unfold maxLen at lG lS
  obtain ⟨wa, hwa, B0, sa, x_a, x_r⟩ := frame2 w 27 [.slice AG r.Give.length cG, .slice AS r.Spent.length cS] 27 [.slice none 0 0, .slice none 0 0]
  have sa_1 := Nat.le_of_eq sa
  have sa_2 := Nat.le_of_eq sa.symm
  clear sa
  have c_a_0_wa := x_a.cell (i := 0) rfl
  have f_a_0_wa := x_a.frozen 0
  have c_a_1_wa := x_a.cell (i := 1) rfl
  have f_a_1_wa := x_a.frozen 1
  have c_r_0_wa := x_r.cell (i := 0) rfl
  have f_r_0_wa := x_r.frozen 0
  have c_r_1_wa := x_r.cell (i := 1) rfl
  have f_r_1_wa := x_r.frozen 1
  by_cases hf0 : mayB r i a = true
  case neg =>
    have hf' : mayB r i a = false := by simpa using hf0
    have HF0 := Lib.hid hf'
    have HB : Hid (handB r i j a = false) := by show _ = _; unfold handB; rw [hf']; simp
    clear hf' hf0
    have HM : Hid (handM r i j a = rZ) := if_neg (by rw [HB.out]; decide)
    go_enter Try.func38, Try.ntmps38
    go_wp2_with fail
    refine (sMay_c (i := i) (a := a) (h0.from_ B0)).mono ?_
    rintro e w1 ⟨rfl, h_w1⟩
    clear c_a_0_wa f_a_0_wa c_a_1_wa f_a_1_wa c_r_0_wa f_r_0_wa c_r_1_wa f_r_1_wa
    replace x_a := x_a.from_ h_w1
    replace x_r := x_r.from_ h_w1
    have B_w1 := B0.trans (h_w1.mono B0.size)
    have s_w1 := h_w1.size
    rw [HF0.out]
    have c_a_0_w1 := x_a.cell (i := 0) rfl
    have f_a_0_w1 := x_a.frozen 0
    have c_a_1_w1 := x_a.cell (i := 1) rfl
    have f_a_1_w1 := x_a.frozen 1
    have c_r_0_w1 := x_r.cell (i := 0) rfl
    have f_r_0_w1 := x_r.frozen 0
    have c_r_1_w1 := x_r.cell (i := 1) rfl
    have f_r_1_w1 := x_r.frozen 1
    have i_r_0 := x_r.same (i := 0) rfl
    have i_r_1 := x_r.same (i := 1) rfl
    go_wp2
    refine ret_cell_tmp (by rfl) (by rfl) x_r Try.underlying27 sz_rights (by rfl) ?_
    rw [HM.out, HB.out]
    exact ⟨_, rfl, ov_rZ (Nat.le_refl _), B_w1⟩
  have HF0 := Lib.hid hf0
  by_cases hf1 : mayB r j a = true
  case neg =>
    have hf' : mayB r j a = false := by simpa using hf1
    have HF1 := Lib.hid hf'
    have HB : Hid (handB r i j a = false) := by show _ = _; unfold handB; rw [hf']; simp
    clear hf' hf1
    have HM : Hid (handM r i j a = rZ) := if_neg (by rw [HB.out]; decide)
    go_enter Try.func38, Try.ntmps38
    go_wp2_with fail
    refine (sMay_c (i := i) (a := a) (h0.from_ B0)).mono ?_
    rintro e w1 ⟨rfl, h_w1⟩
    clear c_a_0_wa f_a_0_wa c_a_1_wa f_a_1_wa c_r_0_wa f_r_0_wa c_r_1_wa f_r_1_wa
    replace x_a := x_a.from_ h_w1
    replace x_r := x_r.from_ h_w1
    have B_w1 := B0.trans (h_w1.mono B0.size)
    have s_w1 := h_w1.size
    rw [HF0.out]
    have c_a_0_w1 := x_a.cell (i := 0) rfl
    have f_a_0_w1 := x_a.frozen 0
    have c_a_1_w1 := x_a.cell (i := 1) rfl
    have f_a_1_w1 := x_a.frozen 1
    have c_r_0_w1 := x_r.cell (i := 0) rfl
    have f_r_0_w1 := x_r.frozen 0
    have c_r_1_w1 := x_r.cell (i := 1) rfl
    have f_r_1_w1 := x_r.frozen 1
    go_wp2_with fail
    refine (sMay_c (i := j) (a := a) (h0.from_ B_w1)).mono ?_
    rintro e w2 ⟨rfl, h_w2⟩
    clear c_a_0_w1 f_a_0_w1 c_a_1_w1 f_a_1_w1 c_r_0_w1 f_r_0_w1 c_r_1_w1 f_r_1_w1
    replace x_a := x_a.from_ h_w2
    replace x_r := x_r.from_ h_w2
    have B_w2 := B_w1.trans (h_w2.mono B_w1.size)
    have s_w2 := h_w2.size
    rw [HF1.out]
    have c_a_0_w2 := x_a.cell (i := 0) rfl
    have f_a_0_w2 := x_a.frozen 0
    have c_a_1_w2 := x_a.cell (i := 1) rfl
    have f_a_1_w2 := x_a.frozen 1
    have c_r_0_w2 := x_r.cell (i := 0) rfl
    have f_r_0_w2 := x_r.frozen 0
    have c_r_1_w2 := x_r.cell (i := 1) rfl
    have f_r_1_w2 := x_r.frozen 1
    have i_r_0 := x_r.same (i := 0) rfl
    have i_r_1 := x_r.same (i := 1) rfl
    go_wp2
    refine ret_cell_tmp (by rfl) (by rfl) x_r Try.underlying27 sz_rights (by rfl) ?_
    rw [HM.out, HB.out]
    exact ⟨_, rfl, ov_rZ (Nat.le_refl _), B_w2⟩
  have HF1 := Lib.hid hf1
  by_cases hij : i = j
  case pos =>
    have HB : Hid (handB r i j a = false) := by show _ = _; unfold handB; rw [decide_eq_true hij]; simp
    have t0 : (i == j) = true := by simpa using hij
    have HM : Hid (handM r i j a = rZ) := if_neg (by rw [HB.out]; decide)
    clear hij hf0 hf1
    go_enter Try.func38, Try.ntmps38
    go_wp2_with fail
    refine (sMay_c (i := i) (a := a) (h0.from_ B0)).mono ?_
    rintro e w1 ⟨rfl, h_w1⟩
    clear c_a_0_wa f_a_0_wa c_a_1_wa f_a_1_wa c_r_0_wa f_r_0_wa c_r_1_wa f_r_1_wa
    replace x_a := x_a.from_ h_w1
    replace x_r := x_r.from_ h_w1
    have B_w1 := B0.trans (h_w1.mono B0.size)
    have s_w1 := h_w1.size
    rw [HF0.out]
    have c_a_0_w1 := x_a.cell (i := 0) rfl
    have f_a_0_w1 := x_a.frozen 0
    have c_a_1_w1 := x_a.cell (i := 1) rfl
    have f_a_1_w1 := x_a.frozen 1
    have c_r_0_w1 := x_r.cell (i := 0) rfl
    have f_r_0_w1 := x_r.frozen 0
    have c_r_1_w1 := x_r.cell (i := 1) rfl
    have f_r_1_w1 := x_r.frozen 1
    go_wp2_with fail
    refine (sMay_c (i := j) (a := a) (h0.from_ B_w1)).mono ?_
    rintro e w2 ⟨rfl, h_w2⟩
    clear c_a_0_w1 f_a_0_w1 c_a_1_w1 f_a_1_w1 c_r_0_w1 f_r_0_w1 c_r_1_w1 f_r_1_w1
    replace x_a := x_a.from_ h_w2
    replace x_r := x_r.from_ h_w2
    have B_w2 := B_w1.trans (h_w2.mono B_w1.size)
    have s_w2 := h_w2.size
    rw [HF1.out]
    have c_a_0_w2 := x_a.cell (i := 0) rfl
    have f_a_0_w2 := x_a.frozen 0
    have c_a_1_w2 := x_a.cell (i := 1) rfl
    have f_a_1_w2 := x_a.frozen 1
    have c_r_0_w2 := x_r.cell (i := 0) rfl
    have f_r_0_w2 := x_r.frozen 0
    have c_r_1_w2 := x_r.cell (i := 1) rfl
    have f_r_1_w2 := x_r.frozen 1
    have i_r_0 := x_r.same (i := 0) rfl
    have i_r_1 := x_r.same (i := 1) rfl
    go_wp2
    refine ret_cell_tmp (by rfl) (by rfl) x_r Try.underlying27 sz_rights (by rfl) ?_
    rw [HM.out, HB.out]
    exact ⟨_, rfl, ov_rZ (Nat.le_refl _), B_w2⟩
  have hdij := decide_eq_false hij
  have HD := Lib.hid hdij
  have t0 : (i == j) = false := by simpa using hij
  clear hij hdij
  obtain ⟨pok, pi, pa⟩ := may_parts hf0
  obtain ⟨p1, p2, p3⟩ := form_parts (ok_form pok)
  have pj := (may_parts hf1).2.1
  have HOK := Lib.hid pok
  clear hf0 hf1 pok
  obtain ⟨n, rfl⟩ : ∃ n : Nat, i = (n : Int) := ⟨i.toNat, by omega⟩
  obtain ⟨m, rfl⟩ : ∃ m : Nat, j = (m : Int) := ⟨j.toNat, by omega⟩
  obtain ⟨R, hR⟩ := get_of_lt (xs := r.Give) (k := n) (by omega)
  obtain ⟨q1, q2⟩ := form_row (ok_form HOK.out) hR
  have q2n := q2 m
  obtain ⟨y, hy⟩ : ∃ y, R.getD m 0 = y := ⟨_, rfl⟩
  rw [hy] at q2n
  have eY := g2_of hR m
  rw [hy] at eY
  obtain ⟨D, hD⟩ : ∃ D, addG r n m a = D := ⟨_, rfl⟩
  have HD2 : Hid ((⟨r.Give.set n (R.set m (y + a)), r.Spent⟩ : MRights) = D) := by
    show _ = _
    rw [← hD, addG, setG, eY]
    rw [show r.Give.getD n [] = R by rw [List.getD_eq_getElem?_getD, hR]; rfl]
  have lD : D.Give.length ≤ r.Give.length ∧ r.Give.length ≤ D.Give.length ∧ D.Spent.length ≤ r.Spent.length ∧ r.Spent.length ≤ D.Spent.length := by rw [← HD2.out]; simp
  have eD1 : D.Give.length = r.Give.length := by omega
  have eD2 : D.Spent.length = r.Spent.length := by omega
  have i1 : (n : Int) < (r.Give.length : Int) := by omega
  have i2 : (m : Int) < (R.length : Int) := by omega
  have HR := Lib.hid hR
  have HY := Lib.hid hy
  clear hR hy eY q2
  have ED := Lib.hid (And.intro eD1 eD2)
  clear eD1 eD2
  have tw : IntKind.i64.wrap (y + a) = y + a := IntWalk.i64_in _ (by omega)
  have HDD := Lib.hid hD
  clear hD
  by_cases hok : rightsOkB D = true
  case neg =>
    replace hok : rightsOkB D = false := by simpa using hok
    have HK := Lib.hid hok
    have HB : Hid (handB r (n : Int) (m : Int) a = false) := by
      show _ = _
      unfold handB
      rw [HF0.out, HF1.out, HD.out]
      simp only [Int.toNat_natCast]
      rw [HDD.out, hok]
      rfl
    have HM : Hid (handM r (n : Int) (m : Int) a = rZ) := if_neg (by rw [HB.out]; decide)
    clear hok
    go_enter Try.func38, Try.ntmps38
    go_wp2_with fail
    refine (sMay_c (i := (n : Int)) (a := a) (h0.from_ B0)).mono ?_
    rintro e w1 ⟨rfl, h_w1⟩
    clear c_a_0_wa f_a_0_wa c_a_1_wa f_a_1_wa c_r_0_wa f_r_0_wa c_r_1_wa f_r_1_wa
    replace x_a := x_a.from_ h_w1
    replace x_r := x_r.from_ h_w1
    have B_w1 := B0.trans (h_w1.mono B0.size)
    have s_w1 := h_w1.size
    rw [HF0.out]
    have c_a_0_w1 := x_a.cell (i := 0) rfl
    have f_a_0_w1 := x_a.frozen 0
    have c_a_1_w1 := x_a.cell (i := 1) rfl
    have f_a_1_w1 := x_a.frozen 1
    have c_r_0_w1 := x_r.cell (i := 0) rfl
    have f_r_0_w1 := x_r.frozen 0
    have c_r_1_w1 := x_r.cell (i := 1) rfl
    have f_r_1_w1 := x_r.frozen 1
    go_wp2_with fail
    refine (sMay_c (i := (m : Int)) (a := a) (h0.from_ B_w1)).mono ?_
    rintro e w2 ⟨rfl, h_w2⟩
    clear c_a_0_w1 f_a_0_w1 c_a_1_w1 f_a_1_w1 c_r_0_w1 f_r_0_w1 c_r_1_w1 f_r_1_w1
    replace x_a := x_a.from_ h_w2
    replace x_r := x_r.from_ h_w2
    have B_w2 := B_w1.trans (h_w2.mono B_w1.size)
    have s_w2 := h_w2.size
    rw [HF1.out]
    have c_a_0_w2 := x_a.cell (i := 0) rfl
    have f_a_0_w2 := x_a.frozen 0
    have c_a_1_w2 := x_a.cell (i := 1) rfl
    have f_a_1_w2 := x_a.frozen 1
    have c_r_0_w2 := x_r.cell (i := 0) rfl
    have f_r_0_w2 := x_r.frozen 0
    have c_r_1_w2 := x_r.cell (i := 1) rfl
    have f_r_1_w2 := x_r.frozen 1
    go_wp2_with fail
    refine (sRCopy_c (h0.from_ B_w2) hm).mono ?_
    rintro e w3 ⟨u, rfl, ou, h_w3⟩
    clear c_a_0_w2 f_a_0_w2 c_a_1_w2 f_a_1_w2 c_r_0_w2 f_r_0_w2 c_r_1_w2 f_r_1_w2
    replace x_a := x_a.from_ h_w3
    replace x_r := x_r.from_ h_w3
    have B_w3 := B_w2.trans (h_w3.mono B_w2.size)
    have s_w3 := h_w3.size
    obtain ⟨g, cg, u2, b, cb, rfl, k1, k2, k3, kb, hput⟩ := ou.setG HR.out (j := m) (by omega)
    obtain ⟨_, _, _, _, he, -⟩ := rv_rights ou.rd
    obtain ⟨A2, c2, rfl⟩ : ∃ A2 c2, u2 = .slice A2 r.Spent.length c2 := by simp at he; exact ⟨_, _, he.2⟩
    clear he
    clear k1 k2 k3 hput
    have c_a_0_w3 := x_a.cell (i := 0) rfl
    have f_a_0_w3 := x_a.frozen 0
    have c_a_1_w3 := x_a.cell (i := 1) rfl
    have f_a_1_w3 := x_a.frozen 1
    have c_r_0_w3 := x_r.cell (i := 0) rfl
    have f_r_0_w3 := x_r.frozen 0
    have c_r_1_w3 := x_r.cell (i := 1) rfl
    have f_r_1_w3 := x_r.frozen 1
    obtain ⟨w4, e_w4, s_w4, h_w4, x_o⟩ := alloc_step w3 27 [.slice (some ⟨g, 0, none⟩) r.Give.length cg, .slice A2 r.Spent.length c2]
    have s_w4_1 := Nat.le_of_eq s_w4
    have s_w4_2 := Nat.le_of_eq s_w4.symm
    clear s_w4
    replace x_a := x_a.from_ h_w4
    replace x_r := x_r.from_ h_w4
    replace ou := ou.below h_w4
    have B_w4 := B_w3.trans (h_w4.mono B_w3.size)
    clear c_a_0_w3 f_a_0_w3 c_a_1_w3 f_a_1_w3 c_r_0_w3 f_r_0_w3 c_r_1_w3 f_r_1_w3
    obtain ⟨wd, hwd⟩ : ∃ x, ({ heap := w4.heap, tape := w4.tape, drawn := w4.drawn + 1, os := w4.os, output := w4.output } : World) = x := ⟨_, rfl⟩
    have hbd : Below w4.heap.size w4 wd := by rw [← hwd]; exact (Below.refl w4.heap.size w4).drew
    have xo_ := x_o
    replace x_a := x_a.from_ hbd
    replace x_r := x_r.from_ hbd
    replace x_o := x_o.from_ hbd
    replace ou := ou.below hbd
    have B_wd := B_w4.trans (hbd.mono B_w4.size)
    have s_wd := hbd.size
    obtain ⟨_, _, _, b2, cb2, he, k1, k2, k3, kb2, hput⟩ := ou.setG HR.out (j := m) (by omega)
    simp only [Value.agg.injEq, Array.mk.injEq, List.cons.injEq, Value.slice.injEq, Option.some.injEq, Addr.mk.injEq, true_and, and_true] at he
    obtain ⟨⟨rfl, rfl⟩, rfl⟩ := he
    rw [HY.out] at k2
    have o3 := hput (y + a)
    rw [HD2.out] at o3
    clear hput ou
    have hcs := chg_set (w := wd) (j := m) (v := .int .i64 (y + a)) kb2
    obtain ⟨we, hwe⟩ : ∃ x, wd.setCell ⟨b2, m, none⟩ (.int .i64 (y + a)) = x := ⟨_, rfl⟩
    rw [hwe] at o3 hcs
    go_wp2_with fail
    refine wp_region_still_tail 17 (by kernel_rfl) (by kernel_rfl) ?_
    rw [hwd]
    simp only [List.take_succ_cons, List.take_zero, List.drop_succ_cons, List.drop_zero]
    have c_a_0_wd := x_a.cell (i := 0) rfl
    have f_a_0_wd := x_a.frozen 0
    have c_a_1_wd := x_a.cell (i := 1) rfl
    have f_a_1_wd := x_a.frozen 1
    have c_r_0_wd := x_r.cell (i := 0) rfl
    have f_r_0_wd := x_r.frozen 0
    have c_r_1_wd := x_r.cell (i := 1) rfl
    have f_r_1_wd := x_r.frozen 1
    have c_o_0_wd := x_o.cell (i := 0) rfl
    have f_o_0_wd := x_o.frozen 0
    have c_o_1_wd := x_o.cell (i := 1) rfl
    have f_o_1_wd := x_o.frozen 1
    repeat still_step
    refine wpStill_nil ?_
    replace x_a := x_a.chg hcs (by omega)
    replace x_r := x_r.chg hcs (by omega)
    replace x_o := x_o.chg hcs (by omega)
    have B_we := Below.chg_ B_wd hcs (by omega) (by omega)
    have s_we := hcs.size
    have c_a_0_we := x_a.cell (i := 0) rfl
    have f_a_0_we := x_a.frozen 0
    have c_a_1_we := x_a.cell (i := 1) rfl
    have f_a_1_we := x_a.frozen 1
    have c_r_0_we := x_r.cell (i := 0) rfl
    have f_r_0_we := x_r.frozen 0
    have c_r_1_we := x_r.cell (i := 1) rfl
    have f_r_1_we := x_r.frozen 1
    have c_o_0_we := x_o.cell (i := 0) rfl
    have f_o_0_we := x_o.frozen 0
    have c_o_1_we := x_o.cell (i := 1) rfl
    have f_o_1_we := x_o.frozen 1
    go_wp2_with fail
    refine (sDone_no o3.rd HK.out).mono ?_
    rintro e w5 ⟨rfl, h_w5⟩
    clear c_a_0_wd f_a_0_wd c_a_1_wd f_a_1_wd c_r_0_wd f_r_0_wd c_r_1_wd f_r_1_wd c_o_0_wd f_o_0_wd c_o_1_wd f_o_1_wd c_a_0_we f_a_0_we c_a_1_we f_a_1_we c_r_0_we f_r_0_we c_r_1_we f_r_1_we c_o_0_we f_o_0_we c_o_1_we f_o_1_we
    replace x_a := x_a.from_ h_w5
    replace x_r := x_r.from_ h_w5
    replace x_o := x_o.from_ h_w5
    replace o3 := o3.below h_w5
    have B_w5 := B_we.trans (h_w5.mono B_we.size)
    have s_w5 := h_w5.size
    have c_a_0_w5 := x_a.cell (i := 0) rfl
    have f_a_0_w5 := x_a.frozen 0
    have c_a_1_w5 := x_a.cell (i := 1) rfl
    have f_a_1_w5 := x_a.frozen 1
    have c_r_0_w5 := x_r.cell (i := 0) rfl
    have f_r_0_w5 := x_r.frozen 0
    have c_r_1_w5 := x_r.cell (i := 1) rfl
    have f_r_1_w5 := x_r.frozen 1
    have c_o_0_w5 := x_o.cell (i := 0) rfl
    have f_o_0_w5 := x_o.frozen 0
    have c_o_1_w5 := x_o.cell (i := 1) rfl
    have f_o_1_w5 := x_o.frozen 1
    have i_r_0 := x_r.same (i := 0) rfl
    have i_r_1 := x_r.same (i := 1) rfl
    go_wp2
    refine ret_cell_tmp (by rfl) (by rfl) x_r Try.underlying27 sz_rights (by rfl) ?_
    rw [HM.out, HB.out]
    exact ⟨_, rfl, ov_rZ (Nat.le_refl _), B_w5⟩
  case pos =>
    have HK := Lib.hid hok
    have HB : Hid (handB r (n : Int) (m : Int) a = true) := by
      show _ = _
      unfold handB
      rw [HF0.out, HF1.out, HD.out]
      simp only [Int.toNat_natCast]
      rw [HDD.out, hok]
      rfl
    have HM : Hid (handM r (n : Int) (m : Int) a = D) := by show _ = _; unfold handM; rw [if_pos HB.out]; exact HDD.out
    clear hok
    go_enter Try.func38, Try.ntmps38
    go_wp2_with fail
    refine (sMay_c (i := (n : Int)) (a := a) (h0.from_ B0)).mono ?_
    rintro e w1 ⟨rfl, h_w1⟩
    clear c_a_0_wa f_a_0_wa c_a_1_wa f_a_1_wa c_r_0_wa f_r_0_wa c_r_1_wa f_r_1_wa
    replace x_a := x_a.from_ h_w1
    replace x_r := x_r.from_ h_w1
    have B_w1 := B0.trans (h_w1.mono B0.size)
    have s_w1 := h_w1.size
    rw [HF0.out]
    have c_a_0_w1 := x_a.cell (i := 0) rfl
    have f_a_0_w1 := x_a.frozen 0
    have c_a_1_w1 := x_a.cell (i := 1) rfl
    have f_a_1_w1 := x_a.frozen 1
    have c_r_0_w1 := x_r.cell (i := 0) rfl
    have f_r_0_w1 := x_r.frozen 0
    have c_r_1_w1 := x_r.cell (i := 1) rfl
    have f_r_1_w1 := x_r.frozen 1
    go_wp2_with fail
    refine (sMay_c (i := (m : Int)) (a := a) (h0.from_ B_w1)).mono ?_
    rintro e w2 ⟨rfl, h_w2⟩
    clear c_a_0_w1 f_a_0_w1 c_a_1_w1 f_a_1_w1 c_r_0_w1 f_r_0_w1 c_r_1_w1 f_r_1_w1
    replace x_a := x_a.from_ h_w2
    replace x_r := x_r.from_ h_w2
    have B_w2 := B_w1.trans (h_w2.mono B_w1.size)
    have s_w2 := h_w2.size
    rw [HF1.out]
    have c_a_0_w2 := x_a.cell (i := 0) rfl
    have f_a_0_w2 := x_a.frozen 0
    have c_a_1_w2 := x_a.cell (i := 1) rfl
    have f_a_1_w2 := x_a.frozen 1
    have c_r_0_w2 := x_r.cell (i := 0) rfl
    have f_r_0_w2 := x_r.frozen 0
    have c_r_1_w2 := x_r.cell (i := 1) rfl
    have f_r_1_w2 := x_r.frozen 1
    go_wp2_with fail
    refine (sRCopy_c (h0.from_ B_w2) hm).mono ?_
    rintro e w3 ⟨u, rfl, ou, h_w3⟩
    clear c_a_0_w2 f_a_0_w2 c_a_1_w2 f_a_1_w2 c_r_0_w2 f_r_0_w2 c_r_1_w2 f_r_1_w2
    replace x_a := x_a.from_ h_w3
    replace x_r := x_r.from_ h_w3
    have B_w3 := B_w2.trans (h_w3.mono B_w2.size)
    have s_w3 := h_w3.size
    obtain ⟨g, cg, u2, b, cb, rfl, k1, k2, k3, kb, hput⟩ := ou.setG HR.out (j := m) (by omega)
    obtain ⟨_, _, _, _, he, -⟩ := rv_rights ou.rd
    obtain ⟨A2, c2, rfl⟩ : ∃ A2 c2, u2 = .slice A2 r.Spent.length c2 := by simp at he; exact ⟨_, _, he.2⟩
    clear he
    clear k1 k2 k3 hput
    have c_a_0_w3 := x_a.cell (i := 0) rfl
    have f_a_0_w3 := x_a.frozen 0
    have c_a_1_w3 := x_a.cell (i := 1) rfl
    have f_a_1_w3 := x_a.frozen 1
    have c_r_0_w3 := x_r.cell (i := 0) rfl
    have f_r_0_w3 := x_r.frozen 0
    have c_r_1_w3 := x_r.cell (i := 1) rfl
    have f_r_1_w3 := x_r.frozen 1
    obtain ⟨w4, e_w4, s_w4, h_w4, x_o⟩ := alloc_step w3 27 [.slice (some ⟨g, 0, none⟩) r.Give.length cg, .slice A2 r.Spent.length c2]
    have s_w4_1 := Nat.le_of_eq s_w4
    have s_w4_2 := Nat.le_of_eq s_w4.symm
    clear s_w4
    replace x_a := x_a.from_ h_w4
    replace x_r := x_r.from_ h_w4
    replace ou := ou.below h_w4
    have B_w4 := B_w3.trans (h_w4.mono B_w3.size)
    clear c_a_0_w3 f_a_0_w3 c_a_1_w3 f_a_1_w3 c_r_0_w3 f_r_0_w3 c_r_1_w3 f_r_1_w3
    obtain ⟨wd, hwd⟩ : ∃ x, ({ heap := w4.heap, tape := w4.tape, drawn := w4.drawn + 1, os := w4.os, output := w4.output } : World) = x := ⟨_, rfl⟩
    have hbd : Below w4.heap.size w4 wd := by rw [← hwd]; exact (Below.refl w4.heap.size w4).drew
    have xo_ := x_o
    replace x_a := x_a.from_ hbd
    replace x_r := x_r.from_ hbd
    replace x_o := x_o.from_ hbd
    replace ou := ou.below hbd
    have B_wd := B_w4.trans (hbd.mono B_w4.size)
    have s_wd := hbd.size
    obtain ⟨_, _, _, b2, cb2, he, k1, k2, k3, kb2, hput⟩ := ou.setG HR.out (j := m) (by omega)
    simp only [Value.agg.injEq, Array.mk.injEq, List.cons.injEq, Value.slice.injEq, Option.some.injEq, Addr.mk.injEq, true_and, and_true] at he
    obtain ⟨⟨rfl, rfl⟩, rfl⟩ := he
    rw [HY.out] at k2
    have o3 := hput (y + a)
    rw [HD2.out] at o3
    clear hput ou
    have hcs := chg_set (w := wd) (j := m) (v := .int .i64 (y + a)) kb2
    obtain ⟨we, hwe⟩ : ∃ x, wd.setCell ⟨b2, m, none⟩ (.int .i64 (y + a)) = x := ⟨_, rfl⟩
    rw [hwe] at o3 hcs
    go_wp2_with fail
    refine wp_region_still_tail 17 (by kernel_rfl) (by kernel_rfl) ?_
    rw [hwd]
    simp only [List.take_succ_cons, List.take_zero, List.drop_succ_cons, List.drop_zero]
    have c_a_0_wd := x_a.cell (i := 0) rfl
    have f_a_0_wd := x_a.frozen 0
    have c_a_1_wd := x_a.cell (i := 1) rfl
    have f_a_1_wd := x_a.frozen 1
    have c_r_0_wd := x_r.cell (i := 0) rfl
    have f_r_0_wd := x_r.frozen 0
    have c_r_1_wd := x_r.cell (i := 1) rfl
    have f_r_1_wd := x_r.frozen 1
    have c_o_0_wd := x_o.cell (i := 0) rfl
    have f_o_0_wd := x_o.frozen 0
    have c_o_1_wd := x_o.cell (i := 1) rfl
    have f_o_1_wd := x_o.frozen 1
    repeat still_step
    refine wpStill_nil ?_
    replace x_a := x_a.chg hcs (by omega)
    replace x_r := x_r.chg hcs (by omega)
    replace x_o := x_o.chg hcs (by omega)
    have B_we := Below.chg_ B_wd hcs (by omega) (by omega)
    have s_we := hcs.size
    have c_a_0_we := x_a.cell (i := 0) rfl
    have f_a_0_we := x_a.frozen 0
    have c_a_1_we := x_a.cell (i := 1) rfl
    have f_a_1_we := x_a.frozen 1
    have c_r_0_we := x_r.cell (i := 0) rfl
    have f_r_0_we := x_r.frozen 0
    have c_r_1_we := x_r.cell (i := 1) rfl
    have f_r_1_we := x_r.frozen 1
    have c_o_0_we := x_o.cell (i := 0) rfl
    have f_o_0_we := x_o.frozen 0
    have c_o_1_we := x_o.cell (i := 1) rfl
    have f_o_1_we := x_o.frozen 1
    have rD := o3.rd
    go_wp2_with fail
    refine (sDone_yes rD HK.out).mono ?_
    rintro e w5 ⟨rfl, h_w5⟩
    clear c_a_0_wd f_a_0_wd c_a_1_wd f_a_1_wd c_r_0_wd f_r_0_wd c_r_1_wd f_r_1_wd c_o_0_wd f_o_0_wd c_o_1_wd f_o_1_wd c_a_0_we f_a_0_we c_a_1_we f_a_1_we c_r_0_we f_r_0_we c_r_1_we f_r_1_we c_o_0_we f_o_0_we c_o_1_we f_o_1_we
    replace x_a := x_a.from_ h_w5
    replace x_r := x_r.from_ h_w5
    replace x_o := x_o.from_ h_w5
    replace o3 := o3.below h_w5
    have B_w5 := B_we.trans (h_w5.mono B_we.size)
    have s_w5 := h_w5.size
    clear rD
    have c_a_0_w5 := x_a.cell (i := 0) rfl
    have f_a_0_w5 := x_a.frozen 0
    have c_a_1_w5 := x_a.cell (i := 1) rfl
    have f_a_1_w5 := x_a.frozen 1
    have c_r_0_w5 := x_r.cell (i := 0) rfl
    have f_r_0_w5 := x_r.frozen 0
    have c_r_1_w5 := x_r.cell (i := 1) rfl
    have f_r_1_w5 := x_r.frozen 1
    have c_o_0_w5 := x_o.cell (i := 0) rfl
    have f_o_0_w5 := x_o.frozen 0
    have c_o_1_w5 := x_o.cell (i := 1) rfl
    have f_o_1_w5 := x_o.frozen 1
    obtain ⟨w6, e_w6, s_w6, h_w6, y⟩ := store_step x_r [.slice (some ⟨g, 0, none⟩) r.Give.length cg, .slice A2 r.Spent.length c2] rfl
    replace e_w6 : ((w5.setCell ⟨w.heap.size + 1, 0, none⟩ (.slice (some ⟨g, 0, none⟩) r.Give.length cg)).setCell ⟨w.heap.size + 1, 1, none⟩ (.slice A2 r.Spent.length c2)) = w6 := e_w6
    have s_w6_1 := Nat.le_of_eq s_w6
    have s_w6_2 := Nat.le_of_eq s_w6.symm
    clear s_w6
    replace x_a := x_a.chg h_w6 (by omega)
    replace x_o := x_o.chg h_w6 (by omega)
    replace o3 := o3.chg h_w6 (by omega)
    have B_w6 := Below.chg_ B_w5 h_w6 (by omega) (by omega)
    replace x_r : Vr w6 (w.heap.size + 1) 27 [.slice (some ⟨g, 0, none⟩) r.Give.length cg, .slice A2 r.Spent.length c2] := y
    clear y
    have c_r_0_w6 := x_r.cell (i := 0) rfl
    have f_r_0_w6 := x_r.frozen 0
    have c_r_1_w6 := x_r.cell (i := 1) rfl
    have f_r_1_w6 := x_r.frozen 1
    go_wp2
    refine ret_cell_tmp (by rfl) (by rfl) x_r Try.underlying27 sz_rights (by rfl) ?_
    rw [HM.out, HB.out]
    exact ⟨_, rfl, o3.widen (by omega) (by omega) (Nat.le_refl _), B_w6⟩

end Go.Proofs.Ytmbipgnecjlicaa
