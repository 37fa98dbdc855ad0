/- impl.RightsSame over slices.Equal and slices.EqualFunc. Laid by a program of ours (src/tl8.py). · Rights: the contracts of impl's functions of chapter 7, all together. -/
import Derived.Test.YtmbipgnecjlicaaRt7
import Derived.Test.YtmbipgnecjlicaaRtMath
import Derived.Test.YtmbipgnecjlicaaRt4
import Derived.Test.YtmbipgnecjlicaaRt8
import Derived.Test.YtmbipgnecjlicaaRtI1
import Derived.Test.YtmbipgnecjlicaaRtI5

namespace Go.Proofs.Ytmbipgnecjlicaa
open Go.RowKit
set_option linter.unusedVariables false

set_option maxHeartbeats 1000000 in
theorem iSeq_c {w : World} {v v' : Value} {xs ys : List Int} (h : RS .i64 w v xs) (h' : RS .i64 w v' ys) :
    Calls Try.prog 51 #[v, v'] w fun e w' => e = .returned (.bool (decide (xs = ys))) ∧ Below w.heap.size w w' := by
  obtain ⟨A, c, rfl, h1, h2, hr⟩ := h
  obtain ⟨A', c', rfl, h1', h2', hr'⟩ := h'
  unfold maxLen at h2 h2'
  by_cases hl : xs.length = ys.length
  case neg =>
    have HO : Hid (decide (xs = ys) = false) := decide_eq_false (fun e => hl (by rw [e]))
    have t0 : ((xs.length : Int) != (ys.length : Int)) = true := by simp; omega
    have t1 : (xs.length != ys.length) = true := by simpa using hl
    clear hl
    go_enter Try.func51, Try.ntmps51
    go_wp2
    go_ret
    exact ⟨ret_eq (by rw [HO.out]; rfl), Below.refl _ _⟩
  have t0 : ((xs.length : Int) != (ys.length : Int)) = false := by simp; omega
  have t1 : (xs.length != ys.length) = false := by simp; omega
  have l1 := Nat.le_of_eq hl
  have l2 := Nat.le_of_eq hl.symm
  clear hl
  go_enter Try.func51, Try.ntmps51
  go_wp2
  go_loopw [13] (fun j wr => ∃ k : Nat, k ≤ xs.length ∧ j = .int .i64 k ∧ Hid (xs.take k = ys.take k) ∧ Below w.heap.size w wr) (fun j _ => xs.length - (intOf j).toNat)
  case atStart => exact ⟨0, Nat.zero_le _, rfl, rfl, Below.refl _ _⟩
  case round =>
    obtain ⟨k, hk, rfl, HT, HB⟩ := hrel
    by_cases hlt : k < xs.length
    case neg =>
      have HO : Hid (decide (xs = ys) = true) := decide_eq_true (by have h := HT.out; rwa [List.take_of_length_le (by omega), List.take_of_length_le (by omega)] at h)
      have hk2 : ¬ ((k : Int) < (xs.length : Int)) := by omega
      go_wp2
      go_ret
      exact ⟨ret_eq (by rw [HO.out]; rfl), HB⟩
    obtain ⟨x, hx⟩ := get_of_lt hlt
    obtain ⟨y, hy⟩ := get_of_lt (xs := ys) (k := k) (by omega)
    obtain ⟨b, off, rfl, hb, hc⟩ := rd_at (hr.below HB) hlt
    obtain ⟨b', off', rfl, hb', hc'⟩ := rd_at (hr'.below HB) (j := k) (by omega)
    rw [show xs.getD k 0 = x by rw [List.getD_eq_getElem?_getD, hx]; rfl] at hc
    rw [show ys.getD k 0 = y by rw [List.getD_eq_getElem?_getD, hy]; rfl] at hc'
    have i1 : (k : Int) < (xs.length : Int) := by omega
    have i2 : (k : Int) < (ys.length : Int) := by omega
    by_cases hxy : x = y
    case pos =>
      have H2 : Hid (xs.take (k + 1) = ys.take (k + 1)) := take_succ_eqL HT.out hx (by rw [hy, hxy])
      have t2 : (x != y) = false := by simpa using hxy
      clear hx hy hxy
      go_wp2_with fail
      go_quiet (fail)
      have B9 := HB.trans (below_of_drew _ _ nq)
      go_wp2
      go_roundw
      case rel => exact ⟨k + 1, by omega, by go_num, H2, B9⟩
      case measure => simp [intOf]; omega
    have HO : Hid (decide (xs = ys) = false) := decide_eq_false (fun e => hxy (by have h := hx; rw [e, hy] at h; simpa using h.symm))
    have t2 : (x != y) = true := by simpa using hxy
    clear hx hy hxy
    go_wp2_with fail
    go_quiet (fail)
    have B9 := HB.trans (below_of_drew _ _ nq)
    go_wp2
    go_ret
    exact ⟨ret_eq (by rw [HO.out]; rfl), B9⟩
set_option maxRecDepth 100000 in
set_option maxHeartbeats 2000000 in
theorem iSeqF_c {w : World} {AG AG' : Option Addr} {cG cG' B : Nat} {G G' : List (List Int)} (hB : B ≤ w.heap.size) (hrG : RdL numsL 1 w B AG G) (hrG' : RdL numsL 1 w B AG' G') (lG : G.length ≤ cG ∧ cG ≤ maxLen) (lG' : G'.length ≤ cG' ∧ cG' ≤ maxLen) :
    Calls Try.prog 52 #[.slice AG G.length cG, .slice AG' G'.length cG', .func (.func 51) #[] #[]] w fun e w' => e = .returned (.bool (decide (G = G'))) ∧ Below w.heap.size w w' := by
  unfold maxLen at lG lG'
  by_cases hl : G.length = G'.length
  case neg =>
    have HO : Hid (decide (G = G') = false) := decide_eq_false (fun e => hl (by rw [e]))
    have t0 : ((G.length : Int) != (G'.length : Int)) = true := by simp; omega
    have t1 : (G.length != G'.length) = true := by simpa using hl
    clear hl
    go_enter Try.func52, Try.ntmps52
    go_wp2
    go_ret
    exact ⟨ret_eq (by rw [HO.out]; rfl), Below.refl _ _⟩
  have t0 : ((G.length : Int) != (G'.length : Int)) = false := by simp; omega
  have t1 : (G.length != G'.length) = false := by simp; omega
  have l1 := Nat.le_of_eq hl
  have l2 := Nat.le_of_eq hl.symm
  clear hl
  go_enter Try.func52, Try.ntmps52
  go_wp2
  go_loopw [17] (fun j wr => ∃ k : Nat, k ≤ G.length ∧ j = .int .i64 k ∧ Hid (G.take k = G'.take k) ∧ Below w.heap.size w wr) (fun j _ => G.length - (intOf j).toNat)
  case atStart => exact ⟨0, Nat.zero_le _, rfl, rfl, Below.refl _ _⟩
  case round =>
    obtain ⟨k, hk, rfl, HT, HB⟩ := hrel
    have hs := HB.size
    by_cases hlt : k < G.length
    case neg =>
      have HO : Hid (decide (G = G') = true) := decide_eq_true (by have h := HT.out; rwa [List.take_of_length_le (by omega), List.take_of_length_le (by omega)] at h)
      have hk2 : ¬ ((k : Int) < (G.length : Int)) := by omega
      go_wp2
      go_ret
      exact ⟨ret_eq (by rw [HO.out]; rfl), HB⟩
    have j1 : (k : Int) < (G.length : Int) := by omega
    have j2 : (k : Int) < (G'.length : Int) := by omega
    obtain ⟨K, hK⟩ := get_of_lt hlt
    obtain ⟨K', hK'⟩ := get_of_lt (xs := G') (k := k) (by omega)
    obtain ⟨b, off, Ak, ck, rfl, hbK, hck, lk1, lk2, hrk⟩ := row_at (hrG.below (HB.mono hB)) hK
    obtain ⟨b', off', Ak', ck', rfl, hbK', hck', lk1', lk2', hrk'⟩ := row_at (hrG'.below (HB.mono hB)) hK'
    have hcall := iSeq_c (w := wr) (xs := K) (ys := K') ⟨Ak, ck, rfl, lk1, lk2, hrk.more (by omega)⟩ ⟨Ak', ck', rfl, lk1', lk2', hrk'.more (by omega)⟩
    have HC := Lib.hid hcall
    clear hcall
    unfold maxLen at lk2 lk2'
    by_cases he : K = K'
    case neg =>
      have HO : Hid (decide (G = G') = false) := decide_eq_false (fun e => he (by rw [e, hK'] at hK; simpa using hK.symm))
      have HE : Hid (decide (K = K') = false) := decide_eq_false he
      clear he hK hK'
      go_wp2_with fail
      refine HC.out.mono ?_
      rintro e w2 ⟨rfl, h_w2⟩
      have B_w2 := HB.trans (h_w2.mono HB.size)
      rw [HE.out]
      go_wp2
      go_ret
      exact ⟨ret_eq (by rw [HO.out]; rfl), B_w2⟩
    have HT2 : Hid (G.take (k + 1) = G'.take (k + 1)) := by show _ = _; rw [List.take_add_one, List.take_add_one, HT.out, hK, hK', he]
    have HE : Hid (decide (K = K') = true) := decide_eq_true he
    clear he hK hK'
    go_wp2_with fail
    refine HC.out.mono ?_
    rintro e w2 ⟨rfl, h_w2⟩
    have B_w2 := HB.trans (h_w2.mono HB.size)
    rw [HE.out]
    go_wp2
    go_roundw
    case rel => exact ⟨k + 1, by omega, by go_num, HT2, B_w2⟩
    case measure => simp [intOf]; omega

set_option maxRecDepth 100000 in
set_option maxHeartbeats 2000000 in
theorem iRightsSame_c {w : World} {v v' : Value} {r q : MRights} (h : RV rightsL w v r) (h' : RV rightsL w v' q) (hm : r.bulk ≤ 16777216) (hm' : q.bulk ≤ 16777216) :
    Calls Try.prog 19 #[v, v'] w fun e w' => e = .returned (.bool (rightsSameB r q)) ∧ Below w.heap.size w w' := by
  obtain ⟨AG, cG, AS, cS, rfl, hrG, hrS, lG, lS⟩ := rv_rights2 h
  clear h
  obtain ⟨AG', cG', AS', cS', rfl, hrG', hrS', lG', lS'⟩ := rv_rights2 h'
  clear h'
  unfold maxLen at lG lS lG' lS'
  obtain ⟨wa, hwa, B0, sa, x_a, x_b⟩ := frame2 w 27 [.slice AG r.Give.length cG, .slice AS r.Spent.length cS] 27 [.slice AG' q.Give.length cG', .slice AS' q.Spent.length cS']
  have sa_1 := Nat.le_of_eq sa
  have sa_2 := Nat.le_of_eq sa.symm
  clear sa
  have c_a_0_wa := x_a.cell (i := 0) rfl
  have c_a_1_wa := x_a.cell (i := 1) rfl
  have c_b_0_wa := x_b.cell (i := 0) rfl
  have c_b_1_wa := x_b.cell (i := 1) rfl
  by_cases hs : r.Spent = q.Spent
  case neg =>
    have HO : Hid (rightsSameB r q = false) := decide_eq_false (fun c => hs c.2)
    have HS : Hid (decide (r.Spent = q.Spent) = false) := decide_eq_false hs
    clear hs
    go_enter Try.func19, Try.ntmps19
    go_wp2_with fail
    refine (iSeq_c (xs := r.Spent) (ys := q.Spent) ⟨_, _, rfl, lS.1, by unfold maxLen; omega, (hrS.below B0).more B0.size⟩ ⟨_, _, rfl, lS'.1, by unfold maxLen; omega, (hrS'.below B0).more B0.size⟩).mono ?_
    rintro e w1 ⟨rfl, h_w1⟩
    have B_w1 := B0.trans (h_w1.mono B0.size)
    rw [HS.out]
    go_wp2
    go_ret
    exact ⟨ret_eq (by rw [HO.out]; rfl), B_w1⟩
  have HS : Hid (decide (r.Spent = q.Spent) = true) := decide_eq_true hs
  have HSE := Lib.hid hs
  clear hs
  go_enter Try.func19, Try.ntmps19
  go_wp2_with fail
  refine (iSeq_c (xs := r.Spent) (ys := q.Spent) ⟨_, _, rfl, lS.1, by unfold maxLen; omega, (hrS.below B0).more B0.size⟩ ⟨_, _, rfl, lS'.1, by unfold maxLen; omega, (hrS'.below B0).more B0.size⟩).mono ?_
  rintro e w1 ⟨rfl, h_w1⟩
  have B_w1 := B0.trans (h_w1.mono B0.size)
  rw [HS.out]
  replace x_a := x_a.from_ h_w1
  replace x_b := x_b.from_ h_w1
  clear c_a_0_wa c_a_1_wa c_b_0_wa c_b_1_wa
  have c_a_0_w1 := x_a.cell (i := 0) rfl
  have c_b_0_w1 := x_b.cell (i := 0) rfl
  go_wp2_with fail
  have HO : Hid (rightsSameB r q = decide (r.Give = q.Give)) := by
    show _ = _
    unfold rightsSameB
    rw [HSE.out]
    simp
  refine (iSeqF_c (B := w.heap.size) B_w1.size (hrG.below B_w1) (hrG'.below B_w1) ⟨lG.1, by unfold maxLen; omega⟩ ⟨lG'.1, by unfold maxLen; omega⟩).mono ?_
  rintro e w2 ⟨rfl, h_w2⟩
  have B_w2 := B_w1.trans (h_w2.mono B_w1.size)
  go_wp2
  go_ret
  exact ⟨ret_eq (by rw [HO.out]; rfl), B_w2⟩

end Go.Proofs.Ytmbipgnecjlicaa

namespace Go.Proofs.Ytmbipgnecjlicaa

end Go.Proofs.Ytmbipgnecjlicaa
