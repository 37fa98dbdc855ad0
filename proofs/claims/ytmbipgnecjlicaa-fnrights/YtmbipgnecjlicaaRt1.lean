/- Rights: the contracts of spec.l06Has, l06Form, RightsOk, HasOf, AllOf. Laid by a program of ours (src/rt1.py). -/
import Derived.Test.YtmbipgnecjlicaaRt0
import Derived.Test.YtmbipgnecjlicaaPutNum
import Derived.IntWalk
namespace Go.Proofs.Ytmbipgnecjlicaa
open Go.RowKit
set_option linter.unusedVariables false

theorem rv_rights2 {w : World} {v : Value} {r : MRights} (h : RV rightsL w v r) : ∃ AG cG AS cS, v = .agg #[.slice AG r.Give.length cG, .slice AS r.Spent.length cS] ∧ RdL numsL 1 w w.heap.size AG r.Give ∧ Rd .i64 w w.heap.size AS r.Spent ∧ (r.Give.length ≤ cG ∧ cG ≤ maxLen) ∧ (r.Spent.length ≤ cS ∧ cS ≤ maxLen) := by
  obtain ⟨AG, cG, AS, cS, rfl, rG, rS⟩ := rv_rights h
  obtain ⟨_, _, he, h1, h2, hrG⟩ := rv_slice rG
  simp only [Value.slice.injEq, true_and] at he
  obtain ⟨rfl, rfl⟩ := he
  exact ⟨_, _, _, _, rfl, hrG, rS.rd_, ⟨h1, h2⟩, rS.le_⟩

set_option maxHeartbeats 2000000 in
theorem sHas_c {w : World} {v : Value} {r : MRights} {i : Nat} (h : RV rightsL w v r) (hf : formB r = true) (hi : i < r.Give.length) :
    Calls Try.prog 58 #[v, .int .i64 i] w fun e w' => e = .returned (.int .i64 (hasZ r i)) ∧ Below w.heap.size w w' := by
  have h0 := h
  obtain ⟨AG, cG, AS, cS, rfl, hrG, hrS, lG, lS⟩ := rv_rights2 h
  clear h
  unfold maxLen at lG lS
  obtain ⟨wa, hwa, B0, sa, x_a⟩ := frame1 w 27 [.slice AG r.Give.length cG, .slice AS r.Spent.length cS]
  have sa_1 := Nat.le_of_eq sa
  have sa_2 := Nat.le_of_eq sa.symm
  clear sa
  obtain ⟨p1, p2, p3⟩ := form_parts hf
  have p4 := form_g2 hf
  have hN := hasN_range hf i
  obtain ⟨b, off, rfl⟩ := row_some hrG (by omega)
  obtain ⟨R, hR⟩ := get_of_lt hi
  obtain ⟨q1, -⟩ := form_row hf hR
  have eR := g2_of hR
  obtain ⟨Ai, ci, hb, hc, -, -, hri⟩ := row_in (hrG.below B0) hR
  obtain ⟨b1, o1, rfl, hb1, hc1⟩ := rd_at hri (j := i) (by omega)
  obtain ⟨b2, o2, rfl, hb2⟩ := rd_at hrS (j := i) (by omega)
  replace hb2 := (rd_in (hrS.below B0) (j := i) (by omega)).2
  have p4i := p4 i i
  have p3i := p3 i
  rw [eR] at p4i
  unfold s1 at p3i
  obtain ⟨y, hy⟩ : ∃ y, R.getD i 0 = y := ⟨_, rfl⟩
  obtain ⟨z, hz⟩ : ∃ z, r.Spent.getD i 0 = z := ⟨_, rfl⟩
  rw [hy] at p4i hc1
  rw [hz] at p3i hb2
  have H0 : Hid (y - z = hasN r i 0) := by show _ = _; rw [hasN, eR, hy]; unfold s1; rw [hz]
  clear hy hz
  have i1 : (i : Int) < (r.Give.length : Int) := by omega
  have i2 : (i : Int) < (R.length : Int) := by omega
  have i3 : (i : Int) < (r.Spent.length : Int) := by omega
  have HR := Lib.hid hR
  have ER := Lib.hid eR
  clear hR eR
  have c_a_0_wa := x_a.cell (i := 0) rfl
  have c_a_1_wa := x_a.cell (i := 1) rfl
  go_enter Try.func58, Try.ntmps58
  go_wp2_with fail
  go_quiet (fail)
  have B1 : Below w.heap.size w (wa.drewN nq) := B0.trans (below_of_drew _ _ nq)
  have x_b := x_a.from_ (below_of_drew _ _ nq)
  clear c_a_0_wa c_a_1_wa
  have c_0 := x_b.cell (i := 0) rfl
  go_wp2
  go_loopw [5, 24] (fun n j wr => ∃ (k : Nat) (z : Int), k ≤ r.Give.length ∧ j = .int .i64 k ∧ n = .int .i64 z ∧ Hid (z = hasN r i k) ∧ Vr wr w.heap.size 27 [.slice (some ⟨b, off, none⟩) r.Give.length cG, .slice (some ⟨b2, o2, none⟩) r.Spent.length cS] ∧ Below w.heap.size w wr) (fun _ j _ => r.Give.length - (intOf j).toNat)
  case atStart => exact ⟨0, _, Nat.zero_le _, rfl, by go_num, H0, x_b, B1⟩
  case round =>
    clear x_a x_b c_0 hc hc1 hb2
    obtain ⟨k, z, hk, rfl, rfl, HZ, x_a, HB⟩ := hrel
    have hs := HB.size
    have hzr := hN k
    rw [← HZ.out] at hzr
    by_cases hlt : k < r.Give.length
    case neg =>
      have HO : Hid (hasZ r i = z) := by show _ = _; unfold hasZ; rw [HZ.out, show k = r.Give.length by omega]
      have hk2 : ¬ ((k : Int) < (r.Give.length : Int)) := by omega
      go_wp2
      go_ret
      exact ⟨ret_eq (by rw [HO.out]; rfl), HB⟩
    have j1 : (k : Int) < (r.Give.length : Int) := by omega
    by_cases hki : k = i
    case pos =>
      have H2 : Hid (z = hasN r i (k + 1)) := by show _ = _; rw [hasN, if_pos hki, HZ.out, Int.add_zero]
      have t0 : ((k : Int) != (i : Int)) = false := by simp; omega
      have t1 : (k != i) = false := by simp; omega
      clear hki
      go_wp2
      go_roundw
      case rel => exact ⟨k + 1, _, by omega, by go_num, rfl, H2, x_a, HB⟩
      case measure => simp [intOf]; omega
    obtain ⟨K, hK⟩ := get_of_lt hlt
    obtain ⟨q3, -⟩ := form_row hf hK
    have eK := g2_of hK i
    have pk := p4 k i
    have pi := p4 i k
    rw [eK] at pk
    have eR := ER.out k
    rw [eR] at pi
    obtain ⟨Ak, ck, -, hck, -, -, hrk⟩ := row_in (hrG.below HB) hK
    obtain ⟨b3, o3, rfl, hb3, hc3⟩ := rd_at hrk (j := i) (by omega)
    obtain ⟨Ai, ci, -, hci, -, -, hri⟩ := row_in (hrG.below HB) HR.out
    obtain ⟨b4, o4, rfl, hb4, hc4⟩ := rd_at hri (j := k) (by omega)
    obtain ⟨x, hx⟩ : ∃ x, K.getD i 0 = x := ⟨_, rfl⟩
    obtain ⟨y, hy⟩ : ∃ y, R.getD k 0 = y := ⟨_, rfl⟩
    rw [hx] at pk hc3 eK
    rw [hy] at pi hc4 eR
    have H2 : Hid (z + x - y = hasN r i (k + 1)) := by show _ = _; rw [hasN, if_neg hki, HZ.out, eK, eR]; omega
    have t0 : ((k : Int) != (i : Int)) = true := by simp; omega
    have t1 : (k != i) = true := by simp; omega
    clear hki eK eR hx hy hK
    have j2 : (i : Int) < (K.length : Int) := by omega
    have j3 : (k : Int) < (R.length : Int) := by omega
    have c_0 := x_a.cell (i := 0) rfl
    go_wp2_with fail
    go_quiet (fail)
    have B9 := HB.trans (below_of_drew _ _ nq)
    have x_9 := x_a.from_ (below_of_drew _ _ nq)
    go_wp2
    go_roundw
    case rel => exact ⟨k + 1, _, by omega, by go_num, by go_num, H2, x_9, B9⟩
    case measure => simp [intOf]; omega

def rowB (n : Nat) (row : List Int) : Bool := decide (row.length = n) && row.all numB
theorem form_eq (r : MRights) : formB r = (decide (1 ≤ r.Give.length ∧ r.Give.length ≤ 4 ∧ r.Spent.length = r.Give.length) && (r.Give.all (rowB r.Give.length) && r.Spent.all numB)) := rfl
theorem form_shape {r : MRights} (h : ¬ (1 ≤ r.Give.length ∧ r.Give.length ≤ 4 ∧ r.Spent.length = r.Give.length)) : formB r = false := by rw [form_eq, decide_eq_false h]; rfl
theorem all_bad {α : Type} {p : α → Bool} {l : List α} {k : Nat} {x : α} (hx : l[k]? = some x) (hp : p x = false) : l.all p = false := by
  rw [List.all_eq_false]
  exact ⟨x, List.mem_of_getElem? hx, by simp [hp]⟩
theorem all_next {α : Type} {p : α → Bool} {l : List α} {k : Nat} {x : α} (h : (l.take k).all p = true) (hx : l[k]? = some x) (hp : p x = true) : (l.take (k + 1)).all p = true := by
  rw [List.take_add_one, hx, List.all_append, h]
  simp [hp]
theorem form_row_bad {r : MRights} {k : Nat} {R : List Int} (hR : r.Give[k]? = some R) (h : rowB r.Give.length R = false) : formB r = false := by rw [form_eq, all_bad hR h]; simp
theorem form_spent_bad {r : MRights} {k : Nat} {x : Int} (hx : r.Spent[k]? = some x) (h : numB x = false) : formB r = false := by rw [form_eq, all_bad hx h]; simp

set_option maxHeartbeats 2000000 in
theorem sForm_c {w : World} {v : Value} {r : MRights} (h : RV rightsL w v r) :
    Calls Try.prog 57 #[v] w fun e w' => e = .returned (.bool (formB r)) ∧ Below w.heap.size w w' := by
  have h0 := h
  obtain ⟨AG, cG, AS, cS, rfl, hrG, hrS, lG, lS⟩ := rv_rights2 h
  clear h
  unfold maxLen at lG lS
  obtain ⟨wa, hwa, B0, sa, x_a⟩ := frame1 w 27 [.slice AG r.Give.length cG, .slice AS r.Spent.length cS]
  have sa_1 := Nat.le_of_eq sa
  have sa_2 := Nat.le_of_eq sa.symm
  clear sa
  have c_a_0_wa := x_a.cell (i := 0) rfl
  have c_a_1_wa := x_a.cell (i := 1) rfl
  by_cases hn : 1 ≤ r.Give.length ∧ r.Give.length ≤ 4
  case neg =>
    have HO : Hid (formB r = false) := form_shape (fun c => hn ⟨c.1, c.2.1⟩)
    have HI : Hid (inB (r.Give.length : Int) 1 4 = false) := inB_false.2 (by omega)
    go_enter Try.func57, Try.ntmps57
    go_wp2_with fail
    refine (sIn_any _ _ _ _).mono ?_
    rintro e w' ⟨rfl, rfl⟩
    rw [HI.out]
    go_wp2
    go_ret
    exact ⟨ret_eq (by rw [HO.out]; rfl), B0⟩
  have HI : Hid (inB (r.Give.length : Int) 1 4 = true) := inB_true.2 (by omega)
  by_cases hs : r.Spent.length = r.Give.length
  case neg =>
    have HO : Hid (formB r = false) := form_shape (fun c => hs c.2.2)
    have t0 : ((r.Spent.length : Int) != (r.Give.length : Int)) = true := by simp; omega
    have t1 : (r.Spent.length != r.Give.length) = true := by simpa using hs
    clear hs
    go_enter Try.func57, Try.ntmps57
    go_wp2_with fail
    refine (sIn_any _ _ _ _).mono ?_
    rintro e w' ⟨rfl, rfl⟩
    rw [HI.out]
    go_wp2
    go_ret
    exact ⟨ret_eq (by rw [HO.out]; rfl), B0⟩
  have hs1 := Nat.le_of_eq hs
  have hs2 := Nat.le_of_eq hs.symm
  have HS := Lib.hid hs
  have t0 : ((r.Spent.length : Int) != (r.Give.length : Int)) = false := by simp; omega
  have t1 : (r.Spent.length != r.Give.length) = false := by simp; omega
  clear hs
  obtain ⟨b, off, rfl⟩ := row_some hrG (by omega)
  obtain ⟨b2, o2, rfl, -⟩ := rd_at hrS (j := 0) (by omega)
  go_enter Try.func57, Try.ntmps57
  go_wp2_with fail
  refine (sIn_any _ _ _ _).mono ?_
  rintro e w' ⟨rfl, rfl⟩
  rw [HI.out]
  go_wp2
  go_loopw [24] (fun j wr => ∃ k : Nat, k ≤ r.Give.length ∧ j = .int .i64 k ∧ Hid ((r.Give.take k).all (rowB r.Give.length) = true) ∧ Hid ((r.Spent.take k).all numB = true) ∧ Vr wr w.heap.size 27 [.slice (some ⟨b, off, none⟩) r.Give.length cG, .slice (some ⟨b2, o2, none⟩) r.Spent.length cS] ∧ Below w.heap.size w wr) (fun j _ => r.Give.length - (intOf j).toNat)
  case atStart => exact ⟨0, Nat.zero_le _, rfl, rfl, rfl, x_a, B0⟩
  case round =>
    clear c_a_0_wa c_a_1_wa
    clear x_a t0 t1
    obtain ⟨k, hk, rfl, HT, HU, x_a, HB⟩ := hrel
    have hsz := HB.size
    have c_0 := x_a.cell (i := 0) rfl
    have c_1 := x_a.cell (i := 1) rfl
    by_cases hlt : k < r.Give.length
    case neg =>
      have HO : Hid (formB r = true) := by
        show _ = _
        have h1 := HT.out
        have h2 := HU.out
        rw [List.take_of_length_le (by omega)] at h1 h2
        rw [form_eq, h1, h2, decide_eq_true ⟨hn.1, hn.2, HS.out⟩]
        rfl
      have hk2 : ¬ ((k : Int) < (r.Give.length : Int)) := by omega
      go_wp2
      go_ret
      exact ⟨ret_eq (by rw [HO.out]; rfl), HB⟩
    have j1 : (k : Int) < (r.Give.length : Int) := by omega
    have j2 : (k : Int) < (r.Spent.length : Int) := by omega
    obtain ⟨K, hK⟩ := get_of_lt hlt
    obtain ⟨x, hx⟩ := get_of_lt (xs := r.Spent) (k := k) (by omega)
    obtain ⟨Ak, ck, -, hck, lk1, lk2, hrk⟩ := row_in (hrG.below HB) hK
    unfold maxLen at lk2
    have hcs := (rd_in (hrS.below HB) (j := k) (by omega)).2
    rw [show r.Spent.getD k 0 = x by rw [List.getD_eq_getElem?_getD, hx]; rfl] at hcs
    by_cases hl : K.length = r.Give.length
    case neg =>
      have HO : Hid (formB r = false) := form_row_bad hK (by unfold rowB; rw [decide_eq_false hl]; rfl)
      have t0 : ((K.length : Int) != (r.Give.length : Int)) = true := by simp; omega
      have t1 : (K.length != r.Give.length) = true := by simpa using hl
      clear hl hK hx
      go_wp2
      go_ret
      exact ⟨ret_eq (by rw [HO.out]; rfl), HB⟩
    have t0 : ((K.length : Int) != (r.Give.length : Int)) = false := by simp; omega
    have t1 : (K.length != r.Give.length) = false := by simp; omega
    have HL := Lib.hid hl
    have l1 := Nat.le_of_eq hl
    clear hl
    by_cases hxn : numB x = true
    case neg =>
      have hxn' : numB x = false := by simpa using hxn
      have HN := Lib.hid hxn'
      have HO : Hid (formB r = false) := form_spent_bad hx hxn'
      clear hxn hxn' hK hx
      go_wp2_with fail
      refine (sNum_any _ _).mono ?_
      rintro e w' ⟨rfl, rfl⟩
      rw [HN.out]
      go_wp2
      go_ret
      exact ⟨ret_eq (by rw [HO.out]; rfl), HB⟩
    have HN := Lib.hid hxn
    have HU2 : Hid ((r.Spent.take (k + 1)).all numB = true) := all_next HU.out hx hxn
    have HK := Lib.hid hK
    clear hxn hK hx
    go_wp2_with fail
    refine (sNum_any _ _).mono ?_
    rintro e w' ⟨rfl, rfl⟩
    rw [HN.out]
    obtain ⟨w3, rfl⟩ : ∃ x, x = wr := ⟨_, rfl⟩
    go_wp2
    go_loopw [44] (fun q wr => ∃ j : Nat, j ≤ K.length ∧ q = .int .i64 j ∧ Hid ((K.take j).all numB = true) ∧ wr = w3) (fun q _ => K.length - (intOf q).toNat)
    case atStart => exact ⟨0, Nat.zero_le _, rfl, rfl, rfl⟩
    case round =>
      obtain ⟨j, hj, rfl, HV, rfl⟩ := hrel
      by_cases hjl : j < K.length
      case pos =>
        obtain ⟨y, hy⟩ := get_of_lt hjl
        obtain ⟨b3, o3, rfl, hb3, hc3⟩ := rd_at hrk hjl
        rw [show K.getD j 0 = y by rw [List.getD_eq_getElem?_getD, hy]; rfl] at hc3
        have j3 : (j : Int) < (K.length : Int) := by omega
        by_cases hyn : numB y = true
        case neg =>
          have hyn' : numB y = false := by simpa using hyn
          have HN2 := Lib.hid hyn'
          have HO : Hid (formB r = false) := form_row_bad HK.out (by unfold rowB; rw [all_bad hy hyn']; simp)
          clear hyn hyn' hy
          go_wp2_with fail
          refine (sNum_any _ _).mono ?_
          rintro e w' ⟨rfl, rfl⟩
          rw [HN2.out]
          go_wp2
          go_ret
          exact ⟨ret_eq (by rw [HO.out]; rfl), HB⟩
        have HN2 := Lib.hid hyn
        have HV2 : Hid ((K.take (j + 1)).all numB = true) := all_next HV.out hy hyn
        clear hyn hy
        go_wp2_with fail
        refine (sNum_any _ _).mono ?_
        rintro e w' ⟨rfl, rfl⟩
        rw [HN2.out]
        go_wp2
        go_roundw
        case rel => exact ⟨j + 1, by omega, by go_num, HV2, by first | trivial | rfl⟩
        case measure => simp [intOf]; omega
      have HT2 : Hid ((r.Give.take (k + 1)).all (rowB r.Give.length) = true) := all_next HT.out HK.out (by have h1 := HV.out; rw [List.take_of_length_le (by omega)] at h1; unfold rowB; rw [h1, decide_eq_true HL.out]; rfl)
      have hj2 : ¬ ((j : Int) < (K.length : Int)) := by omega
      go_wp2
      go_roundw
      case rel => exact ⟨k + 1, by omega, by go_num, HT2, HU2, x_a, HB⟩
      case measure => simp [intOf]; omega

theorem ok_neg {r : MRights} {i : Nat} (hi : i < r.Give.length) (h : hasZ r i < 0) : rightsOkB r = false := by
  unfold rightsOkB
  rw [decide_eq_false (fun c => by have := c i hi; omega)]
  simp
theorem ok_sum {r : MRights} (hf : formB r = true) (h : ∀ i, i < r.Give.length → 0 ≤ hasZ r i) : rightsOkB r = numB (diagN r r.Give.length) := by
  unfold rightsOkB
  rw [hf, decide_eq_true h]
  rfl

set_option maxHeartbeats 2000000 in
theorem sRightsOk_c {w : World} {v : Value} {r : MRights} (h : RV rightsL w v r) :
    Calls Try.prog 27 #[v] w fun e w' => e = .returned (.bool (rightsOkB r)) ∧ Below w.heap.size w w' := by
  have h0 := h
  obtain ⟨AG, cG, AS, cS, rfl, hrG, hrS, lG, lS⟩ := rv_rights2 h
  clear h
  unfold maxLen at lG lS
  obtain ⟨wa, hwa, B0, sa, x_a⟩ := frame1 w 27 [.slice AG r.Give.length cG, .slice AS r.Spent.length cS]
  have sa_1 := Nat.le_of_eq sa
  have sa_2 := Nat.le_of_eq sa.symm
  clear sa
  have c_a_0_wa := x_a.cell (i := 0) rfl
  have c_a_1_wa := x_a.cell (i := 1) rfl
  by_cases hf : formB r = true
  case neg =>
    have hf' : formB r = false := by simpa using hf
    have HF := Lib.hid hf'
    have HO : Hid (rightsOkB r = false) := by show _ = _; unfold rightsOkB; rw [hf']; rfl
    clear hf hf'
    go_enter Try.func27, Try.ntmps27
    go_wp2_with fail
    refine (sForm_c (h0.from_ B0)).mono ?_
    rintro e w1 ⟨rfl, h_w1⟩
    clear c_a_0_wa c_a_1_wa
    replace x_a := x_a.from_ h_w1
    have B_w1 := B0.trans (h_w1.mono B0.size)
    have s_w1 := h_w1.size
    rw [HF.out]
    go_wp2
    go_ret
    exact ⟨ret_eq (by rw [HO.out]; rfl), B_w1⟩
  obtain ⟨p1, p2, p3⟩ := form_parts hf
  have p4 := form_g2 hf
  have hD := diagN_range hf
  have HF := Lib.hid hf
  clear hf
  obtain ⟨b, off, rfl⟩ := row_some hrG (by omega)
  go_enter Try.func27, Try.ntmps27
  go_wp2_with fail
  refine (sForm_c (h0.from_ B0)).mono ?_
  rintro e w1 ⟨rfl, h_w1⟩
  clear c_a_0_wa c_a_1_wa
  replace x_a := x_a.from_ h_w1
  have B_w1 := B0.trans (h_w1.mono B0.size)
  have s_w1 := h_w1.size
  rw [HF.out]
  have c_a_0_w1 := x_a.cell (i := 0) rfl
  have c_a_1_w1 := x_a.cell (i := 1) rfl
  go_wp2
  go_loopw [3, 11] (fun q j wr => ∃ (k : Nat) (z : Int), k ≤ r.Give.length ∧ j = .int .i64 k ∧ q = .int .i64 z ∧ Hid (z = diagN r k) ∧ Hid (∀ i, i < k → 0 ≤ hasZ r i) ∧ Vr wr w.heap.size 27 [.slice (some ⟨b, off, none⟩) r.Give.length cG, .slice AS r.Spent.length cS] ∧ Below w.heap.size w wr) (fun _ j _ => r.Give.length - (intOf j).toNat)
  case atStart => exact ⟨0, 0, Nat.zero_le _, rfl, rfl, rfl, fun i hi => by omega, x_a, B_w1⟩
  case round =>
    clear c_a_0_w1 c_a_1_w1
    clear x_a
    obtain ⟨k, z, hk, rfl, rfl, HZ, HA, x_a, HB⟩ := hrel
    have hs := HB.size
    have hzr := hD k
    rw [← HZ.out] at hzr
    have c_a_0_wr := x_a.cell (i := 0) rfl
    have c_a_1_wr := x_a.cell (i := 1) rfl
    by_cases hlt : k < r.Give.length
    case neg =>
      have HO : Hid (rightsOkB r = numB z) := by show _ = _; rw [ok_sum HF.out (fun i hi => HA.out i (by omega)), HZ.out, show k = r.Give.length by omega]
      have hk2 : ¬ ((k : Int) < (r.Give.length : Int)) := by omega
      go_wp2_with fail
      refine (sNum_any _ _).mono ?_
      rintro e w' ⟨rfl, rfl⟩
      go_wp2
      go_ret
      exact ⟨ret_eq (by rw [HO.out]; rfl), HB⟩
    have j1 : (k : Int) < (r.Give.length : Int) := by omega
    have hhr := hasZ_range HF.out k
    obtain ⟨y, hy⟩ : ∃ y, hasZ r k = y := ⟨_, rfl⟩
    rw [hy] at hhr
    by_cases hneg : y < 0
    case pos =>
      have HO : Hid (rightsOkB r = false) := ok_neg hlt (by omega)
      have HY := Lib.hid hy
      have t0 : decide (y < 0) = true := decide_eq_true hneg
      clear hy
      go_wp2_with fail
      refine (sHas_c (h0.from_ HB) HF.out hlt).mono ?_
      rintro e w2 ⟨rfl, h_w2⟩
      clear c_a_0_wr c_a_1_wr
      replace x_a := x_a.from_ h_w2
      have B_w2 := HB.trans (h_w2.mono HB.size)
      have s_w2 := h_w2.size
      rw [HY.out]
      go_wp2
      go_ret
      exact ⟨ret_eq (by rw [HO.out]; rfl), B_w2⟩
    have HA2 : Hid (∀ i, i < k + 1 → 0 ≤ hasZ r i) := fun i hi => by
      by_cases e : i = k
      · rw [e, hy]; omega
      · exact HA.out i (by omega)
    have HY := Lib.hid hy
    have t0 : decide (y < 0) = false := decide_eq_false hneg
    clear hy
    obtain ⟨K, hK⟩ := get_of_lt hlt
    obtain ⟨q3, -⟩ := form_row HF.out hK
    have eK := g2_of hK k
    have pk := p4 k k
    rw [eK] at pk
    obtain ⟨x, hx⟩ : ∃ x, K.getD k 0 = x := ⟨_, rfl⟩
    rw [hx] at pk eK
    have H2 : Hid (z + x = diagN r (k + 1)) := by show _ = _; rw [diagN, HZ.out, eK]
    have HK := Lib.hid hK
    have HX := Lib.hid hx
    clear hK hx eK
    have j2 : (k : Int) < (K.length : Int) := by omega
    go_wp2_with fail
    refine (sHas_c (h0.from_ HB) HF.out hlt).mono ?_
    rintro e w2 ⟨rfl, h_w2⟩
    clear c_a_0_wr c_a_1_wr
    replace x_a := x_a.from_ h_w2
    have B_w2 := HB.trans (h_w2.mono HB.size)
    have s_w2 := h_w2.size
    rw [HY.out]
    have c_a_0_w2 := x_a.cell (i := 0) rfl
    have c_a_1_w2 := x_a.cell (i := 1) rfl
    obtain ⟨Ak, ck, -, hck, -, -, hrk⟩ := row_in (hrG.below B_w2) HK.out
    obtain ⟨b3, o3, rfl, hb3, hc3⟩ := rd_at hrk (j := k) (by omega)
    rw [HX.out] at hc3
    go_wp2
    go_roundw
    case rel => exact ⟨k + 1, _, by omega, by go_num, rfl, H2, HA2, x_a, B_w2⟩
    case measure => simp [intOf]; omega

set_option maxHeartbeats 2000000 in
theorem sHasOf_c {w : World} {v : Value} {r : MRights} {i : Int} (h : RV rightsL w v r) (hi : -9223372036854775808 ≤ i ∧ i ≤ 9223372036854775807) :
    Calls Try.prog 34 #[v, .int .i64 i] w fun e w' => e = .returned (.int .i64 (hasOf r i)) ∧ Below w.heap.size w w' := by
  have h0 := h
  obtain ⟨AG, cG, AS, cS, rfl, hrG, hrS, lG, lS⟩ := rv_rights2 h
  clear h
  unfold maxLen at lG lS
  obtain ⟨wa, hwa, B0, sa, x_a⟩ := frame1 w 27 [.slice AG r.Give.length cG, .slice AS r.Spent.length cS]
  have sa_1 := Nat.le_of_eq sa
  have sa_2 := Nat.le_of_eq sa.symm
  clear sa
  have c_a_0_wa := x_a.cell (i := 0) rfl
  have c_a_1_wa := x_a.cell (i := 1) rfl
  by_cases hf : rightsOkB r = true
  case neg =>
    have hf' : rightsOkB r = false := by simpa using hf
    have HF := Lib.hid hf'
    have HO : Hid (hasOf r i = 0) := if_neg (fun c => hf c.1)
    clear hf hf'
    go_enter Try.func34, Try.ntmps34
    go_wp2_with fail
    refine (sRightsOk_c (h0.from_ B0)).mono ?_
    rintro e w1 ⟨rfl, h_w1⟩
    clear c_a_0_wa c_a_1_wa
    replace x_a := x_a.from_ h_w1
    have B_w1 := B0.trans (h_w1.mono B0.size)
    have s_w1 := h_w1.size
    rw [HF.out]
    go_wp2
    go_ret
    exact ⟨ret_eq (by rw [HO.out]; rfl), B_w1⟩
  obtain ⟨p1, -, -⟩ := form_parts (ok_form hf)
  have HF := Lib.hid hf
  by_cases hr : 0 ≤ i ∧ i < (r.Give.length : Int)
  case neg =>
    have HO : Hid (hasOf r i = 0) := if_neg (fun c => hr c.2)
    have HI : Hid (inB i 0 ((r.Give.length : Int) - 1) = false) := inB_false.2 (by omega)
    clear hf
    go_enter Try.func34, Try.ntmps34
    go_wp2_with fail
    refine (sRightsOk_c (h0.from_ B0)).mono ?_
    rintro e w1 ⟨rfl, h_w1⟩
    clear c_a_0_wa c_a_1_wa
    replace x_a := x_a.from_ h_w1
    have B_w1 := B0.trans (h_w1.mono B0.size)
    have s_w1 := h_w1.size
    rw [HF.out]
    have c_a_0_w1 := x_a.cell (i := 0) rfl
    have c_a_1_w1 := x_a.cell (i := 1) rfl
    go_wp2_with fail
    refine (sIn_any _ _ _ _).mono ?_
    rintro e w' ⟨rfl, rfl⟩
    rw [HI.out]
    go_wp2
    go_ret
    exact ⟨ret_eq (by rw [HO.out]; rfl), B_w1⟩
  have HI : Hid (inB i 0 ((r.Give.length : Int) - 1) = true) := inB_true.2 (by omega)
  obtain ⟨n, rfl⟩ : ∃ n : Nat, i = (n : Int) := ⟨i.toNat, by omega⟩
  have HO : Hid (hasOf r (n : Int) = hasZ r n) := by show _ = _; unfold hasOf; rw [if_pos ⟨hf, hr⟩]; rfl
  clear hf
  go_enter Try.func34, Try.ntmps34
  go_wp2_with fail
  refine (sRightsOk_c (h0.from_ B0)).mono ?_
  rintro e w1 ⟨rfl, h_w1⟩
  clear c_a_0_wa c_a_1_wa
  replace x_a := x_a.from_ h_w1
  have B_w1 := B0.trans (h_w1.mono B0.size)
  have s_w1 := h_w1.size
  rw [HF.out]
  have c_a_0_w1 := x_a.cell (i := 0) rfl
  have c_a_1_w1 := x_a.cell (i := 1) rfl
  go_wp2_with fail
  refine (sIn_any _ _ _ _).mono ?_
  rintro e w' ⟨rfl, rfl⟩
  rw [HI.out]
  go_wp2_with fail
  refine (sHas_c (h0.from_ B_w1) (ok_form HF.out) (by omega)).mono ?_
  rintro e w2 ⟨rfl, h_w2⟩
  clear c_a_0_w1 c_a_1_w1
  replace x_a := x_a.from_ h_w2
  have B_w2 := B_w1.trans (h_w2.mono B_w1.size)
  have s_w2 := h_w2.size
  go_wp2
  go_ret
  exact ⟨ret_eq (by rw [HO.out]; rfl), B_w2⟩

set_option maxHeartbeats 2000000 in
theorem sAllOf_c {w : World} {v : Value} {r : MRights} (h : RV rightsL w v r) (hm : r.Give.length ≤ 1048576) :
    Calls Try.prog 35 #[v] w fun e w' => e = .returned (.int .i64 (allOf r)) ∧ Below w.heap.size w w' := by
  have h0 := h
  obtain ⟨AG, cG, AS, cS, rfl, hrG, hrS, lG, lS⟩ := rv_rights2 h
  clear h
  unfold maxLen at lG lS
  obtain ⟨wa, hwa, B0, sa, x_a⟩ := frame1 w 27 [.slice AG r.Give.length cG, .slice AS r.Spent.length cS]
  have sa_1 := Nat.le_of_eq sa
  have sa_2 := Nat.le_of_eq sa.symm
  clear sa
  have c_a_0_wa := x_a.cell (i := 0) rfl
  have c_a_1_wa := x_a.cell (i := 1) rfl
  have hS := sumN_range2 r
  go_enter Try.func35, Try.ntmps35
  go_wp2
  go_loopw [3, 8] (fun q j wr => ∃ (k : Nat) (z : Int), k ≤ r.Give.length ∧ j = .int .i64 k ∧ q = .int .i64 z ∧ Hid (z = sumN r k) ∧ Vr wr w.heap.size 27 [.slice AG r.Give.length cG, .slice AS r.Spent.length cS] ∧ Below w.heap.size w wr) (fun _ j _ => r.Give.length - (intOf j).toNat)
  case atStart => exact ⟨0, 0, Nat.zero_le _, rfl, rfl, rfl, x_a, B0⟩
  case round =>
    clear c_a_0_wa c_a_1_wa
    clear x_a
    obtain ⟨k, z, hk, rfl, rfl, HZ, x_a, HB⟩ := hrel
    have hs := HB.size
    have hzr := hS k hk
    rw [← HZ.out] at hzr
    have c_a_0_wr := x_a.cell (i := 0) rfl
    have c_a_1_wr := x_a.cell (i := 1) rfl
    by_cases hlt : k < r.Give.length
    case neg =>
      have HO : Hid (allOf r = z) := by show _ = _; unfold allOf; rw [HZ.out, show k = r.Give.length by omega]
      have hk2 : ¬ ((k : Int) < (r.Give.length : Int)) := by omega
      go_wp2
      go_ret
      exact ⟨ret_eq (by rw [HO.out]; rfl), HB⟩
    have j1 : (k : Int) < (r.Give.length : Int) := by omega
    have hhr := hasOf_range r (k : Int)
    obtain ⟨y, hy⟩ : ∃ y, hasOf r (k : Int) = y := ⟨_, rfl⟩
    rw [hy] at hhr
    have H2 : Hid (z + y = sumN r (k + 1)) := by show _ = _; rw [sumN, HZ.out, hy]
    have HY := Lib.hid hy
    clear hy
    go_wp2_with fail
    refine (sHasOf_c (i := (k : Int)) (h0.from_ HB) (by omega)).mono ?_
    rintro e w1 ⟨rfl, h_w1⟩
    clear c_a_0_wr c_a_1_wr
    replace x_a := x_a.from_ h_w1
    have B_w1 := HB.trans (h_w1.mono HB.size)
    have s_w1 := h_w1.size
    rw [HY.out]
    have c_a_0_w1 := x_a.cell (i := 0) rfl
    have c_a_1_w1 := x_a.cell (i := 1) rfl
    go_wp2
    go_roundw
    case rel => exact ⟨k + 1, _, by omega, by go_num, rfl, H2, x_a, B_w1⟩
    case measure => simp [intOf]; omega

end Go.Proofs.Ytmbipgnecjlicaa
