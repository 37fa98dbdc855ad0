/- Boxes: the contracts of spec.OutNew, spec.OutFirst, spec.InTake, spec.OutAt. Laid by a program of ours (src/box.py). -/
import Derived.Test.YtpaodpkgpajboaaBox1
import Derived.IntWalk
import Derived.Deep.RegionHeld3
namespace Go.Proofs.Ytpaodpkgpajboaa
open Go.RowKit
set_option linter.unusedVariables false

def outZ : MOut := ⟨0, []⟩
def outNew : MOut := ⟨1, []⟩
def outFirst (o : MOut) : Int := if outOkB o = true then o.Next - (o.List.length : Int) else 0
def inTakeN (last seq : Int) : Int := if last < seq ∧ last = seq - 1 then seq else last
def inTakeB (last seq : Int) : Bool := decide (last < seq ∧ last = seq - 1)

theorem outOk_parts {o : MOut} (h : outOkB o = true) : (1 ≤ o.Next ∧ o.Next ≤ 1125899906842624) ∧ o.List.length ≤ 60 ∧ (o.List.length : Int) < o.Next ∧ o.List.all msgOkB = true := by
  simp only [outOkB, Bool.and_eq_true, decide_eq_true_eq, inB_true] at h
  exact ⟨h.2.1, h.2.2.1, h.2.2.2, h.1⟩

theorem cell_sa {b : Nat} {p : Addr} (hp : p.block ≠ b) : ∀ (vs : List Value) (o : Nat) (w : World), (setAll w b o vs).cell? p = w.cell? p
  | [], _, _ => rfl
  | u :: vs, o, w => by
    rw [setAll, cell_sa hp vs (o + 1)]
    have := Below.heap_setCell w ⟨b, o, none⟩ u p.block hp
    unfold World.cell?
    rw [this]

theorem ov_msgs_nil {w : World} {lo : Nat} (h : lo ≤ w.heap.size) : OV msgSL w lo lo (.slice none 0 0) [] :=
  ⟨[_], [], rfl, ⟨_, rfl, ownL_nil⟩, List.nodup_nil, (fun j hj => by cases hj), h⟩

set_option maxHeartbeats 1000000 in
theorem sOutNew_c {w : World} : Calls Try.prog 23 #[] w (NewV outL w outNew) := by
  obtain ⟨wa, hwa, B0, sa, x_r⟩ := frame1 w 26 [.int .i64 0, .slice none 0 0]
  have sa_1 := Nat.le_of_eq sa
  have sa_2 := Nat.le_of_eq sa.symm
  clear sa
  have c_r_0_wa := x_r.cell (i := 0) rfl
  have f_r_0_wa := x_r.frozen 0
  have c_r_1_wa := x_r.cell (i := 1) rfl
  have f_r_1_wa := x_r.frozen 1
  go_enter Try.func23, Try.ntmps23
  obtain ⟨w1, e_w1, s_w1, h_w1, y⟩ := store_step x_r [.int .i64 1, .slice none 0 0] rfl
  replace e_w1 : ((wa.setCell ⟨w.heap.size, 0, none⟩ (.int .i64 1)).setCell ⟨w.heap.size, 1, none⟩ (.slice none 0 0)) = w1 := e_w1
  have s_w1_1 := Nat.le_of_eq s_w1
  have s_w1_2 := Nat.le_of_eq s_w1.symm
  clear s_w1
  have B_w1 := Below.chg_ B0 h_w1 (by omega) (by omega)
  replace x_r : Vr w1 (w.heap.size) 26 [.int .i64 1, .slice none 0 0] := y
  clear y
  have c_r_0_w1 := x_r.cell (i := 0) rfl
  have f_r_0_w1 := x_r.frozen 0
  have c_r_1_w1 := x_r.cell (i := 1) rfl
  have f_r_1_w1 := x_r.frozen 1
  go_wp2
  refine ret_cell (by rfl) (by rfl) x_r Try.underlying26 sz_out (by rfl) ?_
  exact ⟨_, rfl, ov_out (d := outNew) (ov_msgs_nil (lo := w.heap.size) (by omega)) (by omega), B_w1⟩

set_option maxHeartbeats 1000000 in
theorem sOutFirst_c {w : World} {v : Value} {o : MOut} (h : RV outL w v o) (hm : o.List.length ≤ 16777216) : Calls Try.prog 32 #[v] w fun e w' => e = .returned (.int .i64 (outFirst o)) ∧ Below w.heap.size w w' := by
  have h0 := h
  obtain ⟨A, c, rfl, hr0⟩ := rv_out h
  clear h
  obtain ⟨wa, hwa, B0, sa, x_a⟩ := frame1 w 26 [.int .i64 o.Next, .slice A o.List.length c]
  have sa_1 := Nat.le_of_eq sa
  have sa_2 := Nat.le_of_eq sa.symm
  clear sa
  have c_a_0_wa := x_a.cell (i := 0) rfl
  have c_a_1_wa := x_a.cell (i := 1) rfl
  by_cases hok : outOkB o = true
  case pos =>
    have HV : Hid (outFirst o = o.Next - (o.List.length : Int)) := if_pos hok
    have hp := outOk_parts hok
    have b1 := hp.1
    have b2 := hp.2.1
    clear hp
    have HK := Lib.hid hok
    clear hok
    go_enter Try.func32, Try.ntmps32
    go_wp2_with fail
    refine (sOutOk_c (h0.from_ B0) hm).mono ?_
    rintro e w1 ⟨rfl, h_w1⟩
    clear c_a_0_wa c_a_1_wa
    replace x_a := x_a.from_ h_w1
    have B_w1 := B0.trans (h_w1.mono B0.size)
    have s_w1 := h_w1.size
    rw [HK.out]
    have c_a_0_w1 := x_a.cell (i := 0) rfl
    have c_a_1_w1 := x_a.cell (i := 1) rfl
    go_wp2
    go_ret
    exact ⟨ret_eq (by rw [HV.out]; rfl), B_w1⟩
  case neg =>
    have HV : Hid (outFirst o = 0) := if_neg hok
    have hok' : outOkB o = false := by simpa using hok
    have HK := Lib.hid hok'
    clear hok hok'
    go_enter Try.func32, Try.ntmps32
    go_wp2_with fail
    refine (sOutOk_c (h0.from_ B0) hm).mono ?_
    rintro e w1 ⟨rfl, h_w1⟩
    clear c_a_0_wa c_a_1_wa
    replace x_a := x_a.from_ h_w1
    have B_w1 := B0.trans (h_w1.mono B0.size)
    have s_w1 := h_w1.size
    rw [HK.out]
    have c_a_0_w1 := x_a.cell (i := 0) rfl
    have c_a_1_w1 := x_a.cell (i := 1) rfl
    go_wp2
    go_ret
    exact ⟨ret_eq (by rw [HV.out]; rfl), B_w1⟩

set_option maxHeartbeats 1000000 in
theorem sInTake_c (a b : Int) (w : World) (ha : -9223372036854775808 ≤ a ∧ a ≤ 9223372036854775807) (hb : -9223372036854775808 ≤ b ∧ b ≤ 9223372036854775807) : Calls Try.prog 36 #[.int .i64 a, .int .i64 b] w fun e w' => e = .returned (.tuple #[.int .i64 (inTakeN a b), .bool (inTakeB a b)]) ∧ Below w.heap.size w w' := by
  by_cases h1 : a < b
  · by_cases h2 : a = b - 1
    · have HN : Hid (inTakeN a b = b) := if_pos ⟨h1, h2⟩
      have HB : Hid (inTakeB a b = true) := decide_eq_true ⟨h1, h2⟩
      have g : (a == b - 1) = true := by simpa using h2
      clear h2
      go_enter Try.func36, Try.ntmps36
      go_wp2
      go_ret2
      exact ⟨ret_eq (by rw [HN.out, HB.out]; rfl), Below.refl _ _⟩
    · have HN : Hid (inTakeN a b = a) := if_neg (fun h => h2 h.2)
      have HB : Hid (inTakeB a b = false) := decide_eq_false (fun h => h2 h.2)
      have g : (a == b - 1) = false := by simpa using h2
      clear h2
      go_enter Try.func36, Try.ntmps36
      go_wp2
      go_ret2
      exact ⟨ret_eq (by rw [HN.out, HB.out]; rfl), Below.refl _ _⟩
  · have HN : Hid (inTakeN a b = a) := if_neg (fun h => h1 h.1)
    have HB : Hid (inTakeB a b = false) := decide_eq_false (fun h => h1 h.1)
    go_enter Try.func36, Try.ntmps36
    go_wp2
    go_ret2
    exact ⟨ret_eq (by rw [HN.out, HB.out]; rfl), Below.refl _ _⟩

def outAtB (o : MOut) (q : Int) : Bool := outOkB o && (decide (outFirst o ≤ q) && decide (q < o.Next))
def outAtM (o : MOut) (q : Int) : MMsg := if outAtB o q = true then o.List.getD (q - outFirst o).toNat ⟨0, 0, 0, 0⟩ else ⟨0, 0, 0, 0⟩

set_option maxHeartbeats 2000000 in
theorem sOutAt_c {w : World} {v : Value} {o : MOut} {q : Int} (h : RV outL w v o) (hm : o.List.length ≤ 16777216) (hq : -9223372036854775808 ≤ q ∧ q ≤ 9223372036854775807) : Calls Try.prog 33 #[v, .int .i64 q] w (NewVB msgL w (outAtM o q) (outAtB o q)) := by
  have h0 := h
  obtain ⟨A, c, rfl, hr0⟩ := rv_out h
  clear h
  obtain ⟨wa, hwa, B0, sa, x_a, x_r⟩ := frame2 w 26 [.int .i64 o.Next, .slice A o.List.length c] 29 [.int .i64 0, .int .i64 0, .int .i64 0, .int .i64 0]
  have sa_1 := Nat.le_of_eq sa
  have sa_2 := Nat.le_of_eq sa.symm
  clear sa
  have c_a_0_wa := x_a.cell (i := 0) rfl
  have f_a_0_wa := x_a.frozen 0
  have c_a_1_wa := x_a.cell (i := 1) rfl
  have f_a_1_wa := x_a.frozen 1
  have c_r_0_wa := x_r.cell (i := 0) rfl
  have f_r_0_wa := x_r.frozen 0
  have c_r_1_wa := x_r.cell (i := 1) rfl
  have f_r_1_wa := x_r.frozen 1
  have c_r_2_wa := x_r.cell (i := 2) rfl
  have f_r_2_wa := x_r.frozen 2
  have c_r_3_wa := x_r.cell (i := 3) rfl
  have f_r_3_wa := x_r.frozen 3
  have i_r_0 := x_r.same (i := 0) rfl
  have i_r_1 := x_r.same (i := 1) rfl
  have i_r_2 := x_r.same (i := 2) rfl
  have i_r_3 := x_r.same (i := 3) rfl
  by_cases hok : outOkB o = true
  case neg =>
    have hok' : outOkB o = false := by simpa using hok
    have HK := Lib.hid hok'
    have HB : Hid (outAtB o q = false) := by show _ = _; unfold outAtB; rw [hok']; rfl
    clear hok hok'
    have HM : Hid (outAtM o q = ⟨0, 0, 0, 0⟩) := if_neg (by rw [HB.out]; decide)
    go_enter Try.func33, Try.ntmps33
    go_wp2_with fail
    refine (sOutOk_c (h0.from_ B0) hm).mono ?_
    rintro e w1 ⟨rfl, h_w1⟩
    clear c_a_0_wa f_a_0_wa c_a_1_wa f_a_1_wa c_r_0_wa f_r_0_wa c_r_1_wa f_r_1_wa c_r_2_wa f_r_2_wa c_r_3_wa f_r_3_wa
    replace x_a := x_a.from_ h_w1
    replace x_r := x_r.from_ h_w1
    have B_w1 := B0.trans (h_w1.mono B0.size)
    have s_w1 := h_w1.size
    rw [HK.out]
    have c_a_0_w1 := x_a.cell (i := 0) rfl
    have f_a_0_w1 := x_a.frozen 0
    have c_a_1_w1 := x_a.cell (i := 1) rfl
    have f_a_1_w1 := x_a.frozen 1
    have c_r_0_w1 := x_r.cell (i := 0) rfl
    have f_r_0_w1 := x_r.frozen 0
    have c_r_1_w1 := x_r.cell (i := 1) rfl
    have f_r_1_w1 := x_r.frozen 1
    have c_r_2_w1 := x_r.cell (i := 2) rfl
    have f_r_2_w1 := x_r.frozen 2
    have c_r_3_w1 := x_r.cell (i := 3) rfl
    have f_r_3_w1 := x_r.frozen 3
    have i_r_0 := x_r.same (i := 0) rfl
    have i_r_1 := x_r.same (i := 1) rfl
    have i_r_2 := x_r.same (i := 2) rfl
    have i_r_3 := x_r.same (i := 3) rfl
    go_wp2
    refine ret_cell_tmp (by rfl) (by rfl) x_r Try.underlying29 sz_msg (by rfl) ?_
    rw [HB.out, HM.out]
    exact ⟨_, rfl, ov_msg (d := ⟨0, 0, 0, 0⟩) (Nat.le_refl _), B_w1⟩
  have HK := Lib.hid hok
  have hp := outOk_parts hok
  have b1 := hp.1
  have b2 := hp.2.1
  have b3 := hp.2.2.1
  clear hp
  obtain ⟨f, hf⟩ : ∃ f, outFirst o = f := ⟨_, rfl⟩
  have hfv : f = o.Next - (o.List.length : Int) := by rw [← hf]; exact if_pos hok
  have b4 : 1 ≤ f ∧ f ≤ 1125899906842624 := by omega
  have HF := Lib.hid hf
  have HV := Lib.hid hfv
  by_cases h1 : q < f
  case pos =>
    have HB : Hid (outAtB o q = false) := by show _ = _; unfold outAtB; rw [hf, decide_eq_false (by omega : ¬ f ≤ q)]; simp
    clear hok hf hfv
    have HM : Hid (outAtM o q = ⟨0, 0, 0, 0⟩) := if_neg (by rw [HB.out]; decide)
    go_enter Try.func33, Try.ntmps33
    go_wp2_with fail
    refine (sOutOk_c (h0.from_ B0) hm).mono ?_
    rintro e w1 ⟨rfl, h_w1⟩
    clear c_a_0_wa f_a_0_wa c_a_1_wa f_a_1_wa c_r_0_wa f_r_0_wa c_r_1_wa f_r_1_wa c_r_2_wa f_r_2_wa c_r_3_wa f_r_3_wa
    replace x_a := x_a.from_ h_w1
    replace x_r := x_r.from_ h_w1
    have B_w1 := B0.trans (h_w1.mono B0.size)
    have s_w1 := h_w1.size
    rw [HK.out]
    have c_a_0_w1 := x_a.cell (i := 0) rfl
    have f_a_0_w1 := x_a.frozen 0
    have c_a_1_w1 := x_a.cell (i := 1) rfl
    have f_a_1_w1 := x_a.frozen 1
    have c_r_0_w1 := x_r.cell (i := 0) rfl
    have f_r_0_w1 := x_r.frozen 0
    have c_r_1_w1 := x_r.cell (i := 1) rfl
    have f_r_1_w1 := x_r.frozen 1
    have c_r_2_w1 := x_r.cell (i := 2) rfl
    have f_r_2_w1 := x_r.frozen 2
    have c_r_3_w1 := x_r.cell (i := 3) rfl
    have f_r_3_w1 := x_r.frozen 3
    have i_r_0 := x_r.same (i := 0) rfl
    have i_r_1 := x_r.same (i := 1) rfl
    have i_r_2 := x_r.same (i := 2) rfl
    have i_r_3 := x_r.same (i := 3) rfl
    go_wp2_with fail
    refine (sOutFirst_c (h0.from_ B_w1) hm).mono ?_
    rintro e w2 ⟨rfl, h_w2⟩
    clear c_a_0_w1 f_a_0_w1 c_a_1_w1 f_a_1_w1 c_r_0_w1 f_r_0_w1 c_r_1_w1 f_r_1_w1 c_r_2_w1 f_r_2_w1 c_r_3_w1 f_r_3_w1
    replace x_a := x_a.from_ h_w2
    replace x_r := x_r.from_ h_w2
    have B_w2 := B_w1.trans (h_w2.mono B_w1.size)
    have s_w2 := h_w2.size
    rw [HF.out]
    have c_a_0_w2 := x_a.cell (i := 0) rfl
    have f_a_0_w2 := x_a.frozen 0
    have c_a_1_w2 := x_a.cell (i := 1) rfl
    have f_a_1_w2 := x_a.frozen 1
    have c_r_0_w2 := x_r.cell (i := 0) rfl
    have f_r_0_w2 := x_r.frozen 0
    have c_r_1_w2 := x_r.cell (i := 1) rfl
    have f_r_1_w2 := x_r.frozen 1
    have c_r_2_w2 := x_r.cell (i := 2) rfl
    have f_r_2_w2 := x_r.frozen 2
    have c_r_3_w2 := x_r.cell (i := 3) rfl
    have f_r_3_w2 := x_r.frozen 3
    have i_r_0 := x_r.same (i := 0) rfl
    have i_r_1 := x_r.same (i := 1) rfl
    have i_r_2 := x_r.same (i := 2) rfl
    have i_r_3 := x_r.same (i := 3) rfl
    go_wp2
    refine ret_cell_tmp (by rfl) (by rfl) x_r Try.underlying29 sz_msg (by rfl) ?_
    rw [HB.out, HM.out]
    exact ⟨_, rfl, ov_msg (d := ⟨0, 0, 0, 0⟩) (Nat.le_refl _), B_w2⟩
  by_cases h2 : q < o.Next
  case neg =>
    have HB : Hid (outAtB o q = false) := by show _ = _; unfold outAtB; rw [decide_eq_false h2]; simp
    clear hok hf hfv
    have HM : Hid (outAtM o q = ⟨0, 0, 0, 0⟩) := if_neg (by rw [HB.out]; decide)
    go_enter Try.func33, Try.ntmps33
    go_wp2_with fail
    refine (sOutOk_c (h0.from_ B0) hm).mono ?_
    rintro e w1 ⟨rfl, h_w1⟩
    clear c_a_0_wa f_a_0_wa c_a_1_wa f_a_1_wa c_r_0_wa f_r_0_wa c_r_1_wa f_r_1_wa c_r_2_wa f_r_2_wa c_r_3_wa f_r_3_wa
    replace x_a := x_a.from_ h_w1
    replace x_r := x_r.from_ h_w1
    have B_w1 := B0.trans (h_w1.mono B0.size)
    have s_w1 := h_w1.size
    rw [HK.out]
    have c_a_0_w1 := x_a.cell (i := 0) rfl
    have f_a_0_w1 := x_a.frozen 0
    have c_a_1_w1 := x_a.cell (i := 1) rfl
    have f_a_1_w1 := x_a.frozen 1
    have c_r_0_w1 := x_r.cell (i := 0) rfl
    have f_r_0_w1 := x_r.frozen 0
    have c_r_1_w1 := x_r.cell (i := 1) rfl
    have f_r_1_w1 := x_r.frozen 1
    have c_r_2_w1 := x_r.cell (i := 2) rfl
    have f_r_2_w1 := x_r.frozen 2
    have c_r_3_w1 := x_r.cell (i := 3) rfl
    have f_r_3_w1 := x_r.frozen 3
    have i_r_0 := x_r.same (i := 0) rfl
    have i_r_1 := x_r.same (i := 1) rfl
    have i_r_2 := x_r.same (i := 2) rfl
    have i_r_3 := x_r.same (i := 3) rfl
    go_wp2_with fail
    refine (sOutFirst_c (h0.from_ B_w1) hm).mono ?_
    rintro e w2 ⟨rfl, h_w2⟩
    clear c_a_0_w1 f_a_0_w1 c_a_1_w1 f_a_1_w1 c_r_0_w1 f_r_0_w1 c_r_1_w1 f_r_1_w1 c_r_2_w1 f_r_2_w1 c_r_3_w1 f_r_3_w1
    replace x_a := x_a.from_ h_w2
    replace x_r := x_r.from_ h_w2
    have B_w2 := B_w1.trans (h_w2.mono B_w1.size)
    have s_w2 := h_w2.size
    rw [HF.out]
    have c_a_0_w2 := x_a.cell (i := 0) rfl
    have f_a_0_w2 := x_a.frozen 0
    have c_a_1_w2 := x_a.cell (i := 1) rfl
    have f_a_1_w2 := x_a.frozen 1
    have c_r_0_w2 := x_r.cell (i := 0) rfl
    have f_r_0_w2 := x_r.frozen 0
    have c_r_1_w2 := x_r.cell (i := 1) rfl
    have f_r_1_w2 := x_r.frozen 1
    have c_r_2_w2 := x_r.cell (i := 2) rfl
    have f_r_2_w2 := x_r.frozen 2
    have c_r_3_w2 := x_r.cell (i := 3) rfl
    have f_r_3_w2 := x_r.frozen 3
    have i_r_0 := x_r.same (i := 0) rfl
    have i_r_1 := x_r.same (i := 1) rfl
    have i_r_2 := x_r.same (i := 2) rfl
    have i_r_3 := x_r.same (i := 3) rfl
    go_wp2
    refine ret_cell_tmp (by rfl) (by rfl) x_r Try.underlying29 sz_msg (by rfl) ?_
    rw [HB.out, HM.out]
    exact ⟨_, rfl, ov_msg (d := ⟨0, 0, 0, 0⟩) (Nat.le_refl _), B_w2⟩
  have hB : outAtB o q = true := by unfold outAtB; rw [hok, hf, decide_eq_true (by omega : f ≤ q), decide_eq_true h2]; rfl
  obtain ⟨k, hk⟩ : ∃ k : Nat, q = f + (k : Int) := ⟨(q - f).toNat, by omega⟩
  have hkl : k < o.List.length := by omega
  obtain ⟨x, hxe⟩ := get_of_lt hkl
  have HM : Hid (outAtM o q = x) := by
    show _ = _
    unfold outAtM
    rw [if_pos hB, hf, show (q - f).toNat = k by omega, List.getD_eq_getElem?_getD, hxe]
    rfl
  have HB := Lib.hid hB
  obtain ⟨A', c', he, hc1, hc2, hrd⟩ := rv_slice hr0
  simp only [Value.slice.injEq, true_and] at he
  obtain ⟨rfl, rfl⟩ := he
  obtain ⟨b, off, rfl, hb, e0, e1, e2, e3⟩ := el_msg hrd hxe
  have HXE := Lib.hid hxe
  have gk1 : (0 : Int) ≤ (k : Int) := by omega
  have gk2 : (k : Int) < (o.List.length : Int) := by omega
  clear hok hf hfv hB hxe hrd
  subst hk
  go_enter Try.func33, Try.ntmps33
  go_wp2_with fail
  refine (sOutOk_c (h0.from_ B0) hm).mono ?_
  rintro e w1 ⟨rfl, h_w1⟩
  clear c_a_0_wa f_a_0_wa c_a_1_wa f_a_1_wa c_r_0_wa f_r_0_wa c_r_1_wa f_r_1_wa c_r_2_wa f_r_2_wa c_r_3_wa f_r_3_wa
  replace x_a := x_a.from_ h_w1
  replace x_r := x_r.from_ h_w1
  have B_w1 := B0.trans (h_w1.mono B0.size)
  have s_w1 := h_w1.size
  rw [HK.out]
  have c_a_0_w1 := x_a.cell (i := 0) rfl
  have f_a_0_w1 := x_a.frozen 0
  have c_a_1_w1 := x_a.cell (i := 1) rfl
  have f_a_1_w1 := x_a.frozen 1
  have c_r_0_w1 := x_r.cell (i := 0) rfl
  have f_r_0_w1 := x_r.frozen 0
  have c_r_1_w1 := x_r.cell (i := 1) rfl
  have f_r_1_w1 := x_r.frozen 1
  have c_r_2_w1 := x_r.cell (i := 2) rfl
  have f_r_2_w1 := x_r.frozen 2
  have c_r_3_w1 := x_r.cell (i := 3) rfl
  have f_r_3_w1 := x_r.frozen 3
  go_wp2_with fail
  refine (sOutFirst_c (h0.from_ B_w1) hm).mono ?_
  rintro e w2 ⟨rfl, h_w2⟩
  clear c_a_0_w1 f_a_0_w1 c_a_1_w1 f_a_1_w1 c_r_0_w1 f_r_0_w1 c_r_1_w1 f_r_1_w1 c_r_2_w1 f_r_2_w1 c_r_3_w1 f_r_3_w1
  replace x_a := x_a.from_ h_w2
  replace x_r := x_r.from_ h_w2
  have B_w2 := B_w1.trans (h_w2.mono B_w1.size)
  have s_w2 := h_w2.size
  rw [HF.out]
  have c_a_0_w2 := x_a.cell (i := 0) rfl
  have f_a_0_w2 := x_a.frozen 0
  have c_a_1_w2 := x_a.cell (i := 1) rfl
  have f_a_1_w2 := x_a.frozen 1
  have c_r_0_w2 := x_r.cell (i := 0) rfl
  have f_r_0_w2 := x_r.frozen 0
  have c_r_1_w2 := x_r.cell (i := 1) rfl
  have f_r_1_w2 := x_r.frozen 1
  have c_r_2_w2 := x_r.cell (i := 2) rfl
  have f_r_2_w2 := x_r.frozen 2
  have c_r_3_w2 := x_r.cell (i := 3) rfl
  have f_r_3_w2 := x_r.frozen 3
  replace e0 := (B_w2.cell (p := ⟨b, off + k * 4, none⟩) hb).trans e0
  replace e1 := (B_w2.cell (p := ⟨b, off + k * 4 + 1, none⟩) hb).trans e1
  replace e2 := (B_w2.cell (p := ⟨b, off + k * 4 + 2, none⟩) hb).trans e2
  replace e3 := (B_w2.cell (p := ⟨b, off + k * 4 + 3, none⟩) hb).trans e3
  have gw : IntKind.i64.wrap (f + (k : Int) - f) = (k : Int) := by rw [show f + (k : Int) - f = (k : Int) by omega]; exact IntWalk.i64_in _ (by omega)
  have gt : ((k : Int)).toNat = k := by simp
  go_wp2_with fail
  go_region_held3 (fun w' => w'.cell? ⟨w.heap.size, 0, none⟩ = some (.int .i64 o.Next) ∧ w'.cell? ⟨w.heap.size, 1, none⟩ = some (.slice (some ⟨b, off, none⟩) o.List.length c) ∧ w'.cell? ⟨b, off + k * 4, none⟩ = some (.int .i64 x.Kind) ∧ w'.cell? ⟨b, off + k * 4 + 1, none⟩ = some (.int .i64 x.Acct) ∧ w'.cell? ⟨b, off + k * 4 + 2, none⟩ = some (.int .i64 x.Amt) ∧ w'.cell? ⟨b, off + k * 4 + 3, none⟩ = some (.int .i64 x.Src))
    (first | exact ⟨c_a_0_w2, c_a_1_w2, e0, e1, e2, e3⟩ | exact ⟨q0, q1, k0, k1, k2, k3⟩ | exact ⟨(cell_sa (b := w.heap.size + 1) (p := ⟨w.heap.size, 0, none⟩) (by simp) [.int .i64 x.Kind, .int .i64 x.Acct, .int .i64 x.Amt, .int .i64 x.Src] 0 w3).trans q0, (cell_sa (b := w.heap.size + 1) (p := ⟨w.heap.size, 1, none⟩) (by simp) [.int .i64 x.Kind, .int .i64 x.Acct, .int .i64 x.Amt, .int .i64 x.Src] 0 w3).trans q1, (cell_sa (b := w.heap.size + 1) (p := ⟨b, off + k * 4, none⟩) (by show b ≠ w.heap.size + 1; omega) [.int .i64 x.Kind, .int .i64 x.Acct, .int .i64 x.Amt, .int .i64 x.Src] 0 w3).trans k0, (cell_sa (b := w.heap.size + 1) (p := ⟨b, off + k * 4 + 1, none⟩) (by show b ≠ w.heap.size + 1; omega) [.int .i64 x.Kind, .int .i64 x.Acct, .int .i64 x.Amt, .int .i64 x.Src] 0 w3).trans k1, (cell_sa (b := w.heap.size + 1) (p := ⟨b, off + k * 4 + 2, none⟩) (by show b ≠ w.heap.size + 1; omega) [.int .i64 x.Kind, .int .i64 x.Acct, .int .i64 x.Amt, .int .i64 x.Src] 0 w3).trans k2, (cell_sa (b := w.heap.size + 1) (p := ⟨b, off + k * 4 + 3, none⟩) (by show b ≠ w.heap.size + 1; omega) [.int .i64 x.Kind, .int .i64 x.Acct, .int .i64 x.Amt, .int .i64 x.Src] 0 w3).trans k3⟩)
    (first | (go_at_call 32; refine (sOutFirst_c (h0.from_ (B_w2.drew)) hm).mono ?_; rintro e w3 ⟨rfl, hd⟩; rw [HF.out]; have B3 : Below w.heap.size w w3 := B_w2.drew.trans (hd.mono B_w2.drew.size); have hb3 : Below w2.heap.size w2 w3 := (Below.refl _ _).drew.trans hd; have q0 := (x_a.from_ hb3).cell (i := 0) rfl; have q1 := (x_a.from_ hb3).cell (i := 1) rfl; have k0 := (hb3.cell (p := ⟨b, off + k * 4, none⟩) (by show b < w2.heap.size; omega)).trans e0; have k1 := (hb3.cell (p := ⟨b, off + k * 4 + 1, none⟩) (by show b < w2.heap.size; omega)).trans e1; have k2 := (hb3.cell (p := ⟨b, off + k * 4 + 2, none⟩) (by show b < w2.heap.size; omega)).trans e2; have k3 := (hb3.cell (p := ⟨b, off + k * 4 + 3, none⟩) (by show b < w2.heap.size; omega)).trans e3; have x_r3 := x_r.from_ hb3; have z0 := x_r3.cell (i := 0) rfl; have z1 := x_r3.cell (i := 1) rfl; have z2 := x_r3.cell (i := 2) rfl; have z3 := x_r3.cell (i := 3) rfl; have y0 := x_r3.frozen 0; have y1 := x_r3.frozen 1; have y2 := x_r3.frozen 2; have y3 := x_r3.frozen 3))
  obtain ⟨w4, e_w4, s_w4, h_w4, x_r4⟩ := store_step x_r3 [.int .i64 x.Kind, .int .i64 x.Acct, .int .i64 x.Amt, .int .i64 x.Src] rfl
  replace e_w4 : ((((w3.setCell ⟨w.heap.size + 1, 0, none⟩ (.int .i64 x.Kind)).setCell ⟨w.heap.size + 1, 1, none⟩ (.int .i64 x.Acct)).setCell ⟨w.heap.size + 1, 2, none⟩ (.int .i64 x.Amt)).setCell ⟨w.heap.size + 1, 3, none⟩ (.int .i64 x.Src)) = w4 := e_w4
  rw [e_w4]
  have B4 := Below.chg_ B3 h_w4 (by omega) B3.size
  go_wp2
  refine ret_cell_tmp (by rfl) (by rfl) x_r4 Try.underlying29 sz_msg (by rfl) ?_
  rw [HB.out, HM.out]
  exact ⟨_, rfl, ov_msg (d := x) (Nat.le_refl _), B4⟩

end Go.Proofs.Ytpaodpkgpajboaa
