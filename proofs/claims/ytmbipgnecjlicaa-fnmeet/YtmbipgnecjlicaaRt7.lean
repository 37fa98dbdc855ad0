/- Rights: the contracts of spec.l06Max, l01Same, RightsSame, Later. Laid by a program of ours (src/rt7.py). -/
import Derived.Test.YtmbipgnecjlicaaRt3
namespace Go.Proofs.Ytmbipgnecjlicaa
open Go.RowKit
set_option linter.unusedVariables false

def mx (x y : Int) : Int := if y < x then x else y
theorem sMax_any (x y : Int) (w : World) : Calls Try.prog 74 #[.int .i64 x, .int .i64 y] w fun e w' => e = .returned (.int .i64 (mx x y)) ∧ w' = w := by
  by_cases h : y < x
  · have HO : Hid (mx x y = x) := if_pos h
    have t0 : decide (y < x) = true := decide_eq_true h
    go_enter Try.func74, Try.ntmps74
    go_wp2
    go_ret
    exact ⟨ret_eq (by rw [HO.out]; rfl), rfl⟩
  · have HO : Hid (mx x y = y) := if_neg h
    have t0 : decide (y < x) = false := decide_eq_false h
    go_enter Try.func74, Try.ntmps74
    go_wp2
    go_ret
    exact ⟨ret_eq (by rw [HO.out]; rfl), rfl⟩

set_option maxHeartbeats 1000000 in
theorem sSame_c {w : World} {v v' : Value} {xs ys : List Int} (h : RS .i64 w v xs) (h' : RS .i64 w v' ys) :
    Calls Try.prog 75 #[v, v'] w fun e w' => e = .returned (.bool (decide (xs = ys))) ∧ Below w.heap.size w w' := by
  obtain ⟨A, c, rfl, h1, h2, hr⟩ := h
  obtain ⟨A', c', rfl, h1', h2', hr'⟩ := h'
  unfold maxLen at h2 h2'
  by_cases hl : xs.length = ys.length
  case neg =>
    have HO : Hid (decide (xs = ys) = false) := decide_eq_false (fun e => hl (by rw [e]))
    have t0 : ((xs.length : Int) != (ys.length : Int)) = true := by simp; omega
    have t1 : (xs.length != ys.length) = true := by simpa using hl
    clear hl
    go_enter Try.func75, Try.ntmps75
    go_wp2
    go_ret
    exact ⟨ret_eq (by rw [HO.out]; rfl), Below.refl _ _⟩
  have t0 : ((xs.length : Int) != (ys.length : Int)) = false := by simp; omega
  have t1 : (xs.length != ys.length) = false := by simp; omega
  have l1 := Nat.le_of_eq hl
  have l2 := Nat.le_of_eq hl.symm
  clear hl
  go_enter Try.func75, Try.ntmps75
  go_wp2
  go_loopw [13] (fun j wr => ∃ k : Nat, k ≤ xs.length ∧ j = .int .i64 k ∧ Hid (xs.take k = ys.take k) ∧ Below w.heap.size w wr) (fun j _ => xs.length - (intOf j).toNat)
  case atStart => exact ⟨0, Nat.zero_le _, rfl, rfl, Below.refl _ _⟩
  case round =>
    obtain ⟨k, hk, rfl, HT, HB⟩ := hrel
    by_cases hlt : k < xs.length
    case neg =>
      have HO : Hid (decide (xs = ys) = true) := decide_eq_true (by have h := HT.out; rwa [List.take_of_length_le (by omega), List.take_of_length_le (by omega)] at h)
      have hk2 : ¬ ((k : Int) < (xs.length : Int)) := by omega
      go_wp2
      go_ret
      exact ⟨ret_eq (by rw [HO.out]; rfl), HB⟩
    obtain ⟨x, hx⟩ := get_of_lt hlt
    obtain ⟨y, hy⟩ := get_of_lt (xs := ys) (k := k) (by omega)
    obtain ⟨b, off, rfl, hb, hc⟩ := rd_at (hr.below HB) hlt
    obtain ⟨b', off', rfl, hb', hc'⟩ := rd_at (hr'.below HB) (j := k) (by omega)
    rw [show xs.getD k 0 = x by rw [List.getD_eq_getElem?_getD, hx]; rfl] at hc
    rw [show ys.getD k 0 = y by rw [List.getD_eq_getElem?_getD, hy]; rfl] at hc'
    have i1 : (k : Int) < (xs.length : Int) := by omega
    have i2 : (k : Int) < (ys.length : Int) := by omega
    by_cases hxy : x = y
    case pos =>
      have H2 : Hid (xs.take (k + 1) = ys.take (k + 1)) := take_succ_eqL HT.out hx (by rw [hy, hxy])
      have t2 : (x != y) = false := by simpa using hxy
      clear hx hy hxy
      go_wp2_with fail
      go_quiet (fail)
      have B9 := HB.trans (below_of_drew _ _ nq)
      go_wp2
      go_roundw
      case rel => exact ⟨k + 1, by omega, by go_num, H2, B9⟩
      case measure => simp [intOf]; omega
    have HO : Hid (decide (xs = ys) = false) := decide_eq_false (fun e => hxy (by have h := hx; rw [e, hy] at h; simpa using h.symm))
    have t2 : (x != y) = true := by simpa using hxy
    clear hx hy hxy
    go_wp2_with fail
    go_quiet (fail)
    have B9 := HB.trans (below_of_drew _ _ nq)
    go_wp2
    go_ret
    exact ⟨ret_eq (by rw [HO.out]; rfl), B9⟩

def rightsSameB (a b : MRights) : Bool := decide (a.Give = b.Give ∧ a.Spent = b.Spent)
def laterB (a b : MRights) : Bool := rightsOkB a && (rightsOkB b && (decide (a.Give.length = b.Give.length) && decide (∀ i, i < a.Give.length → s1 a.Spent i ≤ s1 b.Spent i ∧ ∀ j, j < a.Give.length → g2 a.Give i j ≤ g2 b.Give i j)))

set_option maxHeartbeats 2000000 in
theorem sRightsSame_c {w : World} {v v' : Value} {r q : MRights} (h : RV rightsL w v r) (h' : RV rightsL w v' q) :
    Calls Try.prog 41 #[v, v'] w fun e w' => e = .returned (.bool (rightsSameB r q)) ∧ Below w.heap.size w w' := by
  have h0 := h
  obtain ⟨AG, cG, AS, cS, rfl, hrG, hrS, lG, lS⟩ := rv_rights2 h
  clear h
  have h0' := h'
  obtain ⟨AG', cG', AS', cS', rfl, hrG', hrS', lG', lS'⟩ := rv_rights2 h'
  clear h'
  unfold maxLen at lG lS lG' lS'
  obtain ⟨wa, hwa, B0, sa, x_a, x_b⟩ := frame2 w 27 [.slice AG r.Give.length cG, .slice AS r.Spent.length cS] 27 [.slice AG' q.Give.length cG', .slice AS' q.Spent.length cS']
  have sa_1 := Nat.le_of_eq sa
  have sa_2 := Nat.le_of_eq sa.symm
  clear sa
  have c_a_0_wa := x_a.cell (i := 0) rfl
  have c_a_1_wa := x_a.cell (i := 1) rfl
  have c_b_0_wa := x_b.cell (i := 0) rfl
  have c_b_1_wa := x_b.cell (i := 1) rfl
  by_cases hl : r.Give.length = q.Give.length
  case neg =>
    have HO : Hid (rightsSameB r q = false) := decide_eq_false (fun c => hl (by rw [c.1]))
    have t0 : ((r.Give.length : Int) != (q.Give.length : Int)) = true := by simp; omega
    have t1 : (r.Give.length != q.Give.length) = true := by simpa using hl
    clear hl
    go_enter Try.func41, Try.ntmps41
    go_wp2
    go_ret
    exact ⟨ret_eq (by rw [HO.out]; rfl), B0⟩
  have t0 : ((r.Give.length : Int) != (q.Give.length : Int)) = false := by simp; omega
  have t1 : (r.Give.length != q.Give.length) = false := by simp; omega
  have l1 := Nat.le_of_eq hl
  have l2 := Nat.le_of_eq hl.symm
  clear hl
  by_cases hs : r.Spent = q.Spent
  case neg =>
    have HO : Hid (rightsSameB r q = false) := decide_eq_false (fun c => hs c.2)
    have HS : Hid (decide (r.Spent = q.Spent) = false) := decide_eq_false hs
    clear hs
    go_enter Try.func41, Try.ntmps41
    go_wp2_with fail
    refine (sSame_c (xs := r.Spent) (ys := q.Spent) ⟨_, _, rfl, lS.1, by unfold maxLen; omega, (hrS.below B0).more B0.size⟩ ⟨_, _, rfl, lS'.1, by unfold maxLen; omega, (hrS'.below B0).more B0.size⟩).mono ?_
    rintro e w1 ⟨rfl, h_w1⟩
    clear c_a_0_wa c_a_1_wa c_b_0_wa c_b_1_wa
    replace x_a := x_a.from_ h_w1
    replace x_b := x_b.from_ h_w1
    have B_w1 := B0.trans (h_w1.mono B0.size)
    have s_w1 := h_w1.size
    rw [HS.out]
    have c_a_0_w1 := x_a.cell (i := 0) rfl
    have c_a_1_w1 := x_a.cell (i := 1) rfl
    have c_b_0_w1 := x_b.cell (i := 0) rfl
    have c_b_1_w1 := x_b.cell (i := 1) rfl
    go_wp2
    go_ret
    exact ⟨ret_eq (by rw [HO.out]; rfl), B_w1⟩
  have HS : Hid (decide (r.Spent = q.Spent) = true) := decide_eq_true hs
  have HSE := Lib.hid hs
  clear hs
  go_enter Try.func41, Try.ntmps41
  go_wp2_with fail
  refine (sSame_c (xs := r.Spent) (ys := q.Spent) ⟨_, _, rfl, lS.1, by unfold maxLen; omega, (hrS.below B0).more B0.size⟩ ⟨_, _, rfl, lS'.1, by unfold maxLen; omega, (hrS'.below B0).more B0.size⟩).mono ?_
  rintro e w1 ⟨rfl, h_w1⟩
  clear c_a_0_wa c_a_1_wa c_b_0_wa c_b_1_wa
  replace x_a := x_a.from_ h_w1
  replace x_b := x_b.from_ h_w1
  have B_w1 := B0.trans (h_w1.mono B0.size)
  have s_w1 := h_w1.size
  rw [HS.out]
  have c_a_0_w1 := x_a.cell (i := 0) rfl
  have c_a_1_w1 := x_a.cell (i := 1) rfl
  have c_b_0_w1 := x_b.cell (i := 0) rfl
  have c_b_1_w1 := x_b.cell (i := 1) rfl
  go_wp2
  go_loopw [25] (fun j wr => ∃ k : Nat, k ≤ r.Give.length ∧ j = .int .i64 k ∧ Hid (r.Give.take k = q.Give.take k) ∧ Vr wr (w.heap.size) 27 [.slice AG r.Give.length cG, .slice AS r.Spent.length cS] ∧ Vr wr (w.heap.size + 1) 27 [.slice AG' q.Give.length cG', .slice AS' q.Spent.length cS'] ∧ Below w.heap.size w wr) (fun j _ => r.Give.length - (intOf j).toNat)
  case atStart => exact ⟨0, Nat.zero_le _, rfl, rfl, x_a, x_b, B_w1⟩
  case round =>
    clear c_a_0_w1 c_a_1_w1 c_b_0_w1 c_b_1_w1
    clear x_a x_b
    obtain ⟨k, hk, rfl, HT, x_a, x_b, HB⟩ := hrel
    have hs := HB.size
    by_cases hlt : k < r.Give.length
    case neg =>
      have HO : Hid (rightsSameB r q = true) := decide_eq_true ⟨by have h := HT.out; rwa [List.take_of_length_le (by omega), List.take_of_length_le (by omega)] at h, HSE.out⟩
      have hk2 : ¬ ((k : Int) < (r.Give.length : Int)) := by omega
      go_wp2
      go_ret
      exact ⟨ret_eq (by rw [HO.out]; rfl), HB⟩
    have j1 : (k : Int) < (r.Give.length : Int) := by omega
    have j2 : (k : Int) < (q.Give.length : Int) := by omega
    obtain ⟨K, hK⟩ := get_of_lt hlt
    obtain ⟨L, hL⟩ := get_of_lt (xs := q.Give) (k := k) (by omega)
    obtain ⟨b, off, Ak, ck, rfl, hbK, hck, lk1, lk2, hrk⟩ := row_at (hrG.below HB) hK
    obtain ⟨b2, off2, Al, cl, rfl, hbL, hcl, ll1, ll2, hrl⟩ := row_at (hrG'.below HB) hL
    have c_a_0_wr := x_a.cell (i := 0) rfl
    have c_a_1_wr := x_a.cell (i := 1) rfl
    have c_b_0_wr := x_b.cell (i := 0) rfl
    have c_b_1_wr := x_b.cell (i := 1) rfl
    by_cases hKL : K = L
    case pos =>
      have H2 : Hid (r.Give.take (k + 1) = q.Give.take (k + 1)) := take_succ_eqL HT.out hK (by rw [hL, hKL])
      have HE : Hid (decide (K = L) = true) := decide_eq_true hKL
      clear hKL hK hL
      go_wp2_with fail
      refine (sSame_c (xs := K) (ys := L) ⟨_, _, rfl, lk1, lk2, hrk.more hs⟩ ⟨_, _, rfl, ll1, ll2, hrl.more hs⟩).mono ?_
      rintro e w2 ⟨rfl, h_w2⟩
      clear c_a_0_wr c_a_1_wr c_b_0_wr c_b_1_wr
      replace x_a := x_a.from_ h_w2
      replace x_b := x_b.from_ h_w2
      have B_w2 := HB.trans (h_w2.mono HB.size)
      have s_w2 := h_w2.size
      rw [HE.out]
      go_wp2
      go_roundw
      case rel => exact ⟨k + 1, by omega, by go_num, H2, x_a, x_b, B_w2⟩
      case measure => simp [intOf]; omega
    case neg =>
      have HO : Hid (rightsSameB r q = false) := decide_eq_false (fun c => hKL (by have h := hK; rw [c.1, hL] at h; simpa using h.symm))
      have HE : Hid (decide (K = L) = false) := decide_eq_false hKL
      clear hKL hK hL
      go_wp2_with fail
      refine (sSame_c (xs := K) (ys := L) ⟨_, _, rfl, lk1, lk2, hrk.more hs⟩ ⟨_, _, rfl, ll1, ll2, hrl.more hs⟩).mono ?_
      rintro e w2 ⟨rfl, h_w2⟩
      clear c_a_0_wr c_a_1_wr c_b_0_wr c_b_1_wr
      replace x_a := x_a.from_ h_w2
      replace x_b := x_b.from_ h_w2
      have B_w2 := HB.trans (h_w2.mono HB.size)
      have s_w2 := h_w2.size
      rw [HE.out]
      go_wp2
      go_ret
      exact ⟨ret_eq (by rw [HO.out]; rfl), B_w2⟩

set_option maxRecDepth 100000 in
set_option maxHeartbeats 2000000 in
theorem sLater_c {w : World} {v v' : Value} {r q : MRights} (h : RV rightsL w v r) (h' : RV rightsL w v' q) :
    Calls Try.prog 39 #[v, v'] w fun e w' => e = .returned (.bool (laterB r q)) ∧ Below w.heap.size w w' := by
  have h0 := h
  obtain ⟨AG, cG, AS, cS, rfl, hrG, hrS, lG, lS⟩ := rv_rights2 h
  clear h
  have h0' := h'
  obtain ⟨AG', cG', AS', cS', rfl, hrG', hrS', lG', lS'⟩ := rv_rights2 h'
  clear h'
  unfold maxLen at lG lS lG' lS'
  obtain ⟨wa, hwa, B0, sa, x_a, x_b⟩ := frame2 w 27 [.slice AG r.Give.length cG, .slice AS r.Spent.length cS] 27 [.slice AG' q.Give.length cG', .slice AS' q.Spent.length cS']
  have sa_1 := Nat.le_of_eq sa
  have sa_2 := Nat.le_of_eq sa.symm
  clear sa
  have c_a_0_wa := x_a.cell (i := 0) rfl
  have c_a_1_wa := x_a.cell (i := 1) rfl
  have c_b_0_wa := x_b.cell (i := 0) rfl
  have c_b_1_wa := x_b.cell (i := 1) rfl
  by_cases hr : rightsOkB r = true
  case neg =>
    replace hr : rightsOkB r = false := by simpa using hr
    have HR := Lib.hid hr
    have HO : Hid (laterB r q = false) := by show _ = _; unfold laterB; rw [hr]; rfl
    clear hr
    go_enter Try.func39, Try.ntmps39
    go_wp2_with fail
    refine (sRightsOk_c (h0.from_ B0)).mono ?_
    rintro e w1 ⟨rfl, h_w1⟩
    clear c_a_0_wa c_a_1_wa c_b_0_wa c_b_1_wa
    replace x_a := x_a.from_ h_w1
    replace x_b := x_b.from_ h_w1
    have B_w1 := B0.trans (h_w1.mono B0.size)
    have s_w1 := h_w1.size
    rw [HR.out]
    have c_a_0_w1 := x_a.cell (i := 0) rfl
    have c_a_1_w1 := x_a.cell (i := 1) rfl
    have c_b_0_w1 := x_b.cell (i := 0) rfl
    have c_b_1_w1 := x_b.cell (i := 1) rfl
    go_wp2
    go_ret
    exact ⟨ret_eq (by rw [HO.out]; rfl), B_w1⟩
  have HR := Lib.hid hr
  by_cases hq : rightsOkB q = true
  case neg =>
    replace hq : rightsOkB q = false := by simpa using hq
    have HQ := Lib.hid hq
    have HO : Hid (laterB r q = false) := by show _ = _; unfold laterB; rw [hq]; simp
    clear hr hq
    go_enter Try.func39, Try.ntmps39
    go_wp2_with fail
    refine (sRightsOk_c (h0.from_ B0)).mono ?_
    rintro e w1 ⟨rfl, h_w1⟩
    clear c_a_0_wa c_a_1_wa c_b_0_wa c_b_1_wa
    replace x_a := x_a.from_ h_w1
    replace x_b := x_b.from_ h_w1
    have B_w1 := B0.trans (h_w1.mono B0.size)
    have s_w1 := h_w1.size
    rw [HR.out]
    have c_a_0_w1 := x_a.cell (i := 0) rfl
    have c_a_1_w1 := x_a.cell (i := 1) rfl
    have c_b_0_w1 := x_b.cell (i := 0) rfl
    have c_b_1_w1 := x_b.cell (i := 1) rfl
    go_wp2_with fail
    refine (sRightsOk_c (h0'.from_ B_w1)).mono ?_
    rintro e w2 ⟨rfl, h_w2⟩
    clear c_a_0_w1 c_a_1_w1 c_b_0_w1 c_b_1_w1
    replace x_a := x_a.from_ h_w2
    replace x_b := x_b.from_ h_w2
    have B_w2 := B_w1.trans (h_w2.mono B_w1.size)
    have s_w2 := h_w2.size
    rw [HQ.out]
    have c_a_0_w2 := x_a.cell (i := 0) rfl
    have c_a_1_w2 := x_a.cell (i := 1) rfl
    have c_b_0_w2 := x_b.cell (i := 0) rfl
    have c_b_1_w2 := x_b.cell (i := 1) rfl
    go_wp2
    go_ret
    exact ⟨ret_eq (by rw [HO.out]; rfl), B_w2⟩
  have HQ := Lib.hid hq
  by_cases hl : r.Give.length = q.Give.length
  case neg =>
    have HO : Hid (laterB r q = false) := by show _ = _; unfold laterB; rw [decide_eq_false hl]; simp
    have t0 : ((r.Give.length : Int) != (q.Give.length : Int)) = true := by simp; omega
    have t1 : (r.Give.length != q.Give.length) = true := by simpa using hl
    clear hl hr hq
    go_enter Try.func39, Try.ntmps39
    go_wp2_with fail
    refine (sRightsOk_c (h0.from_ B0)).mono ?_
    rintro e w1 ⟨rfl, h_w1⟩
    clear c_a_0_wa c_a_1_wa c_b_0_wa c_b_1_wa
    replace x_a := x_a.from_ h_w1
    replace x_b := x_b.from_ h_w1
    have B_w1 := B0.trans (h_w1.mono B0.size)
    have s_w1 := h_w1.size
    rw [HR.out]
    have c_a_0_w1 := x_a.cell (i := 0) rfl
    have c_a_1_w1 := x_a.cell (i := 1) rfl
    have c_b_0_w1 := x_b.cell (i := 0) rfl
    have c_b_1_w1 := x_b.cell (i := 1) rfl
    go_wp2_with fail
    refine (sRightsOk_c (h0'.from_ B_w1)).mono ?_
    rintro e w2 ⟨rfl, h_w2⟩
    clear c_a_0_w1 c_a_1_w1 c_b_0_w1 c_b_1_w1
    replace x_a := x_a.from_ h_w2
    replace x_b := x_b.from_ h_w2
    have B_w2 := B_w1.trans (h_w2.mono B_w1.size)
    have s_w2 := h_w2.size
    rw [HQ.out]
    have c_a_0_w2 := x_a.cell (i := 0) rfl
    have c_a_1_w2 := x_a.cell (i := 1) rfl
    have c_b_0_w2 := x_b.cell (i := 0) rfl
    have c_b_1_w2 := x_b.cell (i := 1) rfl
    go_wp2
    go_ret
    exact ⟨ret_eq (by rw [HO.out]; rfl), B_w2⟩
  have HE : Hid (laterB r q = decide (∀ i, i < r.Give.length → s1 r.Spent i ≤ s1 q.Spent i ∧ ∀ j, j < r.Give.length → g2 r.Give i j ≤ g2 q.Give i j)) := by show _ = _; unfold laterB; rw [hr, hq, decide_eq_true hl]; simp
  have t0 : ((r.Give.length : Int) != (q.Give.length : Int)) = false := by simp; omega
  have t1 : (r.Give.length != q.Give.length) = false := by simp; omega
  have l1 := Nat.le_of_eq hl
  have l2 := Nat.le_of_eq hl.symm
  clear hl hr hq
  obtain ⟨p1, p2, -⟩ := form_parts (ok_form HR.out)
  obtain ⟨p1', p2', -⟩ := form_parts (ok_form HQ.out)
  obtain ⟨b, off, rfl⟩ := row_some hrG (by omega)
  obtain ⟨b', off', rfl⟩ := row_some hrG' (by omega)
  obtain ⟨b2, o2, rfl, -⟩ := rd_at hrS (j := 0) (by omega)
  obtain ⟨b2', o2', rfl, -⟩ := rd_at hrS' (j := 0) (by omega)
  go_enter Try.func39, Try.ntmps39
  go_wp2_with fail
  refine (sRightsOk_c (h0.from_ B0)).mono ?_
  rintro e w1 ⟨rfl, h_w1⟩
  clear c_a_0_wa c_a_1_wa c_b_0_wa c_b_1_wa
  replace x_a := x_a.from_ h_w1
  replace x_b := x_b.from_ h_w1
  have B_w1 := B0.trans (h_w1.mono B0.size)
  have s_w1 := h_w1.size
  rw [HR.out]
  have c_a_0_w1 := x_a.cell (i := 0) rfl
  have c_a_1_w1 := x_a.cell (i := 1) rfl
  have c_b_0_w1 := x_b.cell (i := 0) rfl
  have c_b_1_w1 := x_b.cell (i := 1) rfl
  go_wp2_with fail
  refine (sRightsOk_c (h0'.from_ B_w1)).mono ?_
  rintro e w2 ⟨rfl, h_w2⟩
  clear c_a_0_w1 c_a_1_w1 c_b_0_w1 c_b_1_w1
  replace x_a := x_a.from_ h_w2
  replace x_b := x_b.from_ h_w2
  have B_w2 := B_w1.trans (h_w2.mono B_w1.size)
  have s_w2 := h_w2.size
  rw [HQ.out]
  have c_a_0_w2 := x_a.cell (i := 0) rfl
  have c_a_1_w2 := x_a.cell (i := 1) rfl
  have c_b_0_w2 := x_b.cell (i := 0) rfl
  have c_b_1_w2 := x_b.cell (i := 1) rfl
  go_wp2
  go_loopw [29] (fun j wr => ∃ k : Nat, k ≤ r.Give.length ∧ j = .int .i64 k ∧ Hid (∀ i, i < k → s1 r.Spent i ≤ s1 q.Spent i ∧ ∀ j, j < r.Give.length → g2 r.Give i j ≤ g2 q.Give i j) ∧ Vr wr (w.heap.size) 27 [.slice (some ⟨b, off, none⟩) r.Give.length cG, .slice (some ⟨b2, o2, none⟩) r.Spent.length cS] ∧ Vr wr (w.heap.size + 1) 27 [.slice (some ⟨b', off', none⟩) q.Give.length cG', .slice (some ⟨b2', o2', none⟩) q.Spent.length cS'] ∧ Below w.heap.size w wr) (fun j _ => r.Give.length - (intOf j).toNat)
  case atStart => exact ⟨0, Nat.zero_le _, rfl, (fun i hi => by omega), x_a, x_b, B_w2⟩
  case round =>
    clear c_a_0_w2 c_a_1_w2 c_b_0_w2 c_b_1_w2
    clear x_a x_b
    obtain ⟨k, hk, rfl, HT, x_a, x_b, HB⟩ := hrel
    have hs := HB.size
    by_cases hlt : k < r.Give.length
    case neg =>
      have HO : Hid (laterB r q = true) := by show _ = _; rw [HE.out]; exact decide_eq_true (fun i hi => HT.out i (by omega))
      have hk2 : ¬ ((k : Int) < (r.Give.length : Int)) := by omega
      go_wp2
      go_ret
      exact ⟨ret_eq (by rw [HO.out]; rfl), HB⟩
    have j1 : (k : Int) < (r.Give.length : Int) := by omega
    have j2 : (k : Int) < (q.Give.length : Int) := by omega
    have j3 : (k : Int) < (r.Spent.length : Int) := by omega
    have j4 : (k : Int) < (q.Spent.length : Int) := by omega
    obtain ⟨K, hK⟩ := get_of_lt hlt
    obtain ⟨L, hL⟩ := get_of_lt (xs := q.Give) (k := k) (by omega)
    obtain ⟨n1, -⟩ := form_row (ok_form HR.out) hK
    obtain ⟨n2, -⟩ := form_row (ok_form HQ.out) hL
    obtain ⟨Ak, ck, -, hck, -, -, hrk⟩ := row_in (hrG.below HB) hK
    have hs1 := (rd_in (hrS.below HB) (j := k) (by omega)).2
    have hs2 := (rd_in (hrS'.below HB) (j := k) (by omega)).2
    obtain ⟨x, hx⟩ : ∃ x, r.Spent.getD k 0 = x := ⟨_, rfl⟩
    obtain ⟨y, hy⟩ : ∃ y, q.Spent.getD k 0 = y := ⟨_, rfl⟩
    rw [hx] at hs1
    rw [hy] at hs2
    have c_a_0_wr := x_a.cell (i := 0) rfl
    have c_a_1_wr := x_a.cell (i := 1) rfl
    have c_b_0_wr := x_b.cell (i := 0) rfl
    have c_b_1_wr := x_b.cell (i := 1) rfl
    by_cases hxy : y < x
    case pos =>
      have HO : Hid (laterB r q = false) := by show _ = _; rw [HE.out]; exact decide_eq_false (fun c => by have h := (c k hlt).1; unfold s1 at h; rw [hx, hy] at h; omega)
      have t2 : decide (y < x) = true := decide_eq_true hxy
      clear hx hy hK hL
      go_wp2_with fail
      go_quiet (fail)
      have B9 := HB.trans (below_of_drew _ _ nq)
      go_wp2
      go_ret
      exact ⟨ret_eq (by rw [HO.out]; rfl), B9⟩
    have H1 : Hid (s1 r.Spent k ≤ s1 q.Spent k) := by show _ ≤ _; unfold s1; rw [hx, hy]; omega
    have t2 : decide (y < x) = false := decide_eq_false hxy
    have HK := Lib.hid hK
    have HL := Lib.hid hL
    clear hx hy hK hL
    go_wp2_with fail
    go_quiet (fail)
    have B9 := HB.trans (below_of_drew _ _ nq)
    have xa9 := x_a.from_ (below_of_drew _ _ nq)
    have xb9 := x_b.from_ (below_of_drew _ _ nq)
    obtain ⟨w3, hw3⟩ : ∃ x, wr.drewN nq = x := ⟨_, rfl⟩
    rw [hw3] at B9 xa9 xb9
    have hrk9 : Rd .i64 w3 w.heap.size Ak K := by rw [← hw3]; exact hrk.keep fun _ _ => rfl
    go_wp2
    go_loopw [47] (fun t wq => ∃ j : Nat, j ≤ K.length ∧ t = .int .i64 j ∧ Hid (∀ i, i < j → g2 r.Give k i ≤ g2 q.Give k i) ∧ wq = w3) (fun t _ => K.length - (intOf t).toNat)
    case atStart => exact ⟨0, Nat.zero_le _, rfl, (fun i hi => by omega), rfl⟩
    case round =>
      obtain ⟨j, hj, rfl, HV, rfl⟩ := hrel
      obtain ⟨Al, cl, -, hcl, -, -, hrl⟩ := row_in (hrG'.below B9) HL.out
      have d_a_0 := xa9.cell (i := 0) rfl
      have d_b_0 := xb9.cell (i := 0) rfl
      by_cases hjl : j < K.length
      case pos =>
        have i1 : (j : Int) < (K.length : Int) := by omega
        have i2 : (j : Int) < (L.length : Int) := by omega
        have e1 := g2_of HK.out j
        have e2 := g2_of HL.out j
        obtain ⟨b3, o3, rfl, -, hc3⟩ := rd_at hrk9 hjl
        obtain ⟨b4, o4, rfl, -, hc4⟩ := rd_at hrl (j := j) (by omega)
        obtain ⟨x, hx⟩ : ∃ x, K.getD j 0 = x := ⟨_, rfl⟩
        obtain ⟨y, hy⟩ : ∃ y, L.getD j 0 = y := ⟨_, rfl⟩
        rw [hx] at hc3 e1
        rw [hy] at hc4 e2
        by_cases hxy2 : y < x
        case pos =>
          have HO : Hid (laterB r q = false) := by show _ = _; rw [HE.out]; exact decide_eq_false (fun c => by have h := (c k hlt).2 j (by omega); rw [e1, e2] at h; omega)
          have t3 : decide (y < x) = true := decide_eq_true hxy2
          clear e1 e2 hx hy
          go_wp2
          go_ret
          exact ⟨ret_eq (by rw [HO.out]; rfl), B9⟩
        case neg =>
          have HV2 : Hid (∀ i, i < j + 1 → g2 r.Give k i ≤ g2 q.Give k i) := fun i hi => by
            by_cases e : i = j
            · rw [e, e1, e2]; omega
            · exact HV.out i (by omega)
          have t3 : decide (y < x) = false := decide_eq_false hxy2
          clear e1 e2 hx hy
          go_wp2
          go_roundw
          case rel => exact ⟨j + 1, by omega, by go_num, HV2, by first | trivial | rfl⟩
          case measure => simp [intOf]; omega
      have hj2 : ¬ ((j : Int) < (K.length : Int)) := by omega
      have HT2 : Hid (∀ i, i < k + 1 → s1 r.Spent i ≤ s1 q.Spent i ∧ ∀ j, j < r.Give.length → g2 r.Give i j ≤ g2 q.Give i j) := fun i hi => by
        by_cases e : i = k
        · rw [e]; exact ⟨H1.out, fun m hm => HV.out m (by omega)⟩
        · exact HT.out i (by omega)
      go_wp2
      go_roundw
      case rel => exact ⟨k + 1, by omega, by go_num, HT2, xa9, xb9, B9⟩
      case measure => simp [intOf]; omega

end Go.Proofs.Ytmbipgnecjlicaa
