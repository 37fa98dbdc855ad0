/- An account at a node: the contracts of impl's isNodeOf, isNodeCount, missingMarks, repNodes, repOf, repsOk, closedState, within. Laid by a program of ours (src/ac3.py). -/
import Derived.Test.YtopmojfcdmcmbaaAc0
import Derived.Test.YtopmojfcdmcmbaaMapB
namespace Go.Proofs.Ytopmojfcdmcmbaa
open Go.RowKit
set_option linter.unusedVariables false

theorem iNodeOf_any (x n : Int) (w : World) : Calls Try.prog 50 #[.int .i64 x, .int .i64 n] w fun e w' => e = .returned (.bool (inB x 0 (n - 1))) ∧ w = w' := by
  by_cases h0 : 0 ≤ x
  · by_cases h1 : x < n
    · rw [inB_true.2 (by omega)]
      have i0 : decide (0 ≤ x) = true := decide_eq_true h0
      have i1 : decide (x < n) = true := decide_eq_true h1
      go_enter Try.func50, Try.ntmps50
      go_wp2
      go_ret
      exact ⟨rfl, rfl⟩
    · rw [inB_false.2 (by omega)]
      have i0 : decide (0 ≤ x) = true := decide_eq_true h0
      have i1 : decide (x < n) = false := decide_eq_false h1
      go_enter Try.func50, Try.ntmps50
      go_wp2
      go_ret
      exact ⟨rfl, rfl⟩
  · rw [inB_false.2 (by omega)]
    have i1 : decide (0 ≤ x) = false := decide_eq_false h0
    go_enter Try.func50, Try.ntmps50
    go_wp2
    go_ret
    exact ⟨rfl, rfl⟩

theorem iNodeCount_any (n : Int) (w : World) : Calls Try.prog 49 #[.int .i64 n] w fun e w' => e = .returned (.bool (inB n 1 4)) ∧ w = w' := by
  by_cases h0 : 1 ≤ n
  · by_cases h1 : n ≤ 4
    · rw [inB_true.2 ⟨h0, h1⟩]
      have i0 : decide (1 ≤ n) = true := decide_eq_true h0
      have i1 : decide (n ≤ 4) = true := decide_eq_true h1
      go_enter Try.func49, Try.ntmps49
      go_wp2
      go_ret
      exact ⟨rfl, rfl⟩
    · rw [inB_false.2 (by omega)]
      have i0 : decide (1 ≤ n) = true := decide_eq_true h0
      have i1 : decide (n ≤ 4) = false := decide_eq_false h1
      go_enter Try.func49, Try.ntmps49
      go_wp2
      go_ret
      exact ⟨rfl, rfl⟩
  · rw [inB_false.2 (by omega)]
    have i1 : decide (1 ≤ n) = false := decide_eq_false h0
    go_enter Try.func49, Try.ntmps49
    go_wp2
    go_ret
    exact ⟨rfl, rfl⟩

theorem iClosedState_any (k n : Int) (w : World) : Calls Try.prog 82 #[.int .i64 k, .int .i64 n] w fun e w' => e = .returned (.int .i64 (stateOf k n)) ∧ w = w' := by
  by_cases h : k = n
  · have HO : Hid (stateOf k n = 2) := if_pos h
    have g : (k == n) = true := by simpa using h
    clear h
    go_enter Try.func82, Try.ntmps82
    go_wp2
    go_ret
    exact ⟨ret_eq (by rw [HO.out]; rfl), rfl⟩
  · have HO : Hid (stateOf k n = 1) := if_neg h
    have g : (k == n) = false := by simpa using h
    clear h
    go_enter Try.func82, Try.ntmps82
    go_wp2
    go_ret
    exact ⟨ret_eq (by rw [HO.out]; rfl), rfl⟩

/-- what missingMarks leaves -/
def MissP (w : World) (l : List Int) (m : Nat) (id : Int) (e : Ending) (w' : World) : Prop :=
  Below w.heap.size w w' ∧ ((marksFit l m id = false ∧ e = .returned (.tuple #[.map none, .bool false])) ∨ (marksFit l m id = true ∧ ∃ b N c p, e = .returned (.tuple #[.map (some b), .bool true]) ∧ MSet w' b N p c ∧ c + l.length + 1 = m))

def fitAt (l : List Int) (n id : Int) (i : Nat) : Prop := (0 ≤ l.getD i 0 ∧ l.getD i 0 < n ∧ l.getD i 0 ≠ id) ∧ ∀ j, j < i → l.getD j 0 ≠ l.getD i 0
def missB (l : List Int) (n id : Int) (k : Nat) (y : Int) : Bool := decide ((0 ≤ y ∧ y < n ∧ y ≠ id) ∧ ∀ j, j < k → l.getD j 0 ≠ y)
theorem miss_fit {l : List Int} {n id : Int} {k : Nat} : missB l n id k (l.getD k 0) = true ↔ fitAt l n id k := by unfold missB fitAt; rw [decide_eq_true_eq]
theorem miss_succ (l : List Int) (n id : Int) (k : Nat) (y : Int) : (missB l n id k y && !decide (y = l.getD k 0)) = missB l n id (k + 1) y := by
  rw [Bool.eq_iff_iff]
  unfold missB
  simp only [Bool.and_eq_true, Bool.not_eq_true', decide_eq_true_eq, decide_eq_false_iff_not]
  constructor
  · rintro ⟨⟨h1, h2⟩, h3⟩
    refine ⟨h1, fun j hj e => ?_⟩
    by_cases ej : j = k
    · subst ej; exact h3 e.symm
    · exact h2 j (by omega) e
  · rintro ⟨h1, h2⟩
    exact ⟨⟨h1, fun j hj => h2 j (by omega)⟩, fun e => h2 k (by omega) e.symm⟩
def uptoB (j : Nat) (y : Int) : Bool := decide (0 ≤ y ∧ y < (j : Int))
theorem miss_zero (l : List Int) (m : Nat) (id y : Int) : (uptoB m y && !decide (y = id)) = missB l m id 0 y := by
  rw [Bool.eq_iff_iff]
  unfold missB uptoB
  simp only [Bool.and_eq_true, Bool.not_eq_true', decide_eq_true_eq, decide_eq_false_iff_not]
  constructor
  · rintro ⟨⟨h1, h2⟩, h3⟩
    exact ⟨⟨h1, h2, h3⟩, fun j hj => by omega⟩
  · rintro ⟨⟨h1, h2, h3⟩, -⟩
    exact ⟨⟨h1, h2⟩, h3⟩
theorem upto_succ (j : Nat) (y : Int) : (uptoB j y || decide (y = (j : Int))) = uptoB (j + 1) y := by
  rw [Bool.eq_iff_iff]
  unfold uptoB
  simp only [Bool.or_eq_true, decide_eq_true_eq]
  omega
theorem below_map {b : Nat} {a w w' : World} (h : Below a.heap.size a w) (hg : w.grownBy w' (some b)) (hB : a.heap.size ≤ b) : Below a.heap.size a w' := h.grown hg h.size (fun k hk => by cases hk; exact hB)

set_option maxHeartbeats 4000000 in
theorem iMissing_c {w : World} {v : Value} {l : List Int} {m : Nat} {id : Int} (h : RS .i64 w v l) (hm : 1 ≤ m ∧ m ≤ 4) (hid : 0 ≤ id ∧ id < (m : Int)) (hk : ∀ i, i < l.length → i64R (l.getD i 0)) : Calls Try.prog 78 #[v, .int .i64 m, .int .i64 id] w (MissP w l m id) := by
  obtain ⟨A, c, rfl, h1, h2, hr⟩ := h
  unfold maxLen at h2
  have hmm := @run_makeMap Try.prog
  have HK := Lib.hid hk
  have idR : i64R id := by unfold i64R; omega
  clear hk
  go_enter Try.func78, Try.ntmps78
  go_wp2
  go_loopw [14] (fun i wr => ∃ j : Nat, j ≤ m ∧ i = .int .i64 j ∧ MSet wr w.heap.size j (uptoB j) j ∧ Below w.heap.size w wr) (fun i _ => m - (intOf i).toNat)
  case atStart => exact ⟨0, Nat.zero_le _, rfl, (MSet.made w).is (fun y => (decide_eq_false (by omega)).symm), (Below.refl _ _).alloc (Nat.le_refl _) _⟩
  case round =>
    clear hmm
    obtain ⟨j, hj, rfl, hS, HB⟩ := hrel
    have hs := HB.size
    by_cases hlt : j < m
    case pos =>
      have i1 : (j : Int) < (m : Int) := by omega
      have jR : i64R (j : Int) := by unfold i64R; omega
      have hp : uptoB j (j : Int) = false := decide_eq_false (by omega)
      have HP := Lib.hid hp
      clear hp
      go_wp2_with (at_mapUpdate; refine wpl_msPut _ rfl (.tmp 17) (.tmp 18) _ rfl hS rfl rfl rfl jR HP.out (by omega) ?_)
      intro w1 hS1 hg1
      have B1 := below_map HB hg1 (Nat.le_refl _)
      go_wp2
      go_roundw
      case rel => exact ⟨j + 1, by omega, by go_num, hS1.is (upto_succ j), B1⟩
      case measure => simp [intOf]; omega
    obtain rfl : j = m := by omega
    have hk2 : ¬ ((j : Int) < (j : Int)) := by omega
    have hp : uptoB j id = true := decide_eq_true (by omega)
    have HP := Lib.hid hp
    clear hp
    go_wp2_with (at_delete; refine wpl_msDel _ rfl (.tmp 20) (.tmp 21) rfl hS rfl rfl idR HP.out ?_)
    intro w1 c1 hc1 hS1 hg1
    have B1 := below_map HB hg1 (Nat.le_refl _)
    have hS2 := hS1.is (miss_zero l j id)
    clear hS hS1 HB
    go_wp2
    go_loopw [24] (fun i wr => ∃ k c : Nat, k ≤ l.length ∧ i = .int .i64 k ∧ c + k + 1 = j ∧ MSet wr w.heap.size j (missB l j id k) c ∧ Hid (∀ i, i < k → fitAt l j id i) ∧ Below w.heap.size w wr) (fun i _ => l.length - (intOf i).toNat)
    case atStart => exact ⟨0, c1, Nat.zero_le _, rfl, by omega, hS2, fun i hi => by omega, B1⟩
    case round =>
      clear hS2 B1 hs hc1
      obtain ⟨k, c2, hk, rfl, hc2, hS, HT, HB⟩ := hrel
      have hs := HB.size
      by_cases hlt2 : k < l.length
      case neg =>
        have hk3 : ¬ ((k : Int) < (l.length : Int)) := by omega
        have hf : marksFit l j id = true := decide_eq_true (fun i hi => HT.out i (by omega))
        have HF := Lib.hid hf
        have hl : k = l.length := by omega
        have HL := Lib.hid hl
        have HC := Lib.hid hc2
        clear hf hl hc2
        go_wp2
        go_ret2
        exact ⟨HB, .inr ⟨HF.out, w.heap.size, j, c2, _, rfl, hS, by rw [← HL.out]; exact HC.out⟩⟩
      obtain ⟨b, off, rfl, hb, hc⟩ := rdi_at (hr.below HB) (by omega)
      have hck := hc k hlt2
      have i1 : (k : Int) < (l.length : Int) := by omega
      have xR := HK.out k hlt2
      obtain ⟨x, hx⟩ : ∃ x, l.getD k 0 = x := ⟨_, rfl⟩
      by_cases hp : missB l j id k x = true
      case pos =>
        have H2 : Hid (∀ i, i < k + 1 → fitAt l j id i) := fun i hi => by
          by_cases e : i = k
          · rw [e]; rw [← hx] at hp; exact miss_fit.1 hp
          · exact HT.out i (by omega)
        have HX := Lib.hid hx
        rw [hx] at hck xR
        have HP := Lib.hid hp
        have HC := Lib.hid hc2
        clear hp hx hc hc2
        go_wp2_with (first | (at_lookup; refine wpl_msLook _ rfl (.tmp 28) (.tmp 29) rfl hS rfl rfl xR HP.out ?_) | (at_delete; refine wpl_msDel _ rfl (.tmp 32) (.tmp 33) rfl hS rfl rfl xR HP.out ?_))
        intro w1 c3 hc3 hS1 hg1
        have B1 := below_map HB hg1 (Nat.le_refl _)
        go_wp2
        go_roundw
        case rel => exact ⟨k + 1, c3, by omega, by go_num, by have := HC.out; omega, hS1.is (fun y => by rw [← HX.out]; exact miss_succ l j id k y), H2, B1⟩
        case measure => simp [intOf]; omega
      replace hp : missB l j id k x = false := by simpa using hp
      have HF : Hid (marksFit l j id = false) := decide_eq_false (fun cf => by
        have := miss_fit.2 (show fitAt l j id k from cf k hlt2)
        rw [hx, hp] at this; cases this)
      rw [hx] at hck xR
      have HP := Lib.hid hp
      clear hp hx hc hc2
      go_wp2_with (at_lookup; refine wpl_msLook _ rfl (.tmp 28) (.tmp 29) rfl hS rfl rfl xR HP.out ?_)
      go_ret2
      exact ⟨HB, .inl ⟨HF.out, rfl⟩⟩

set_option maxHeartbeats 2000000 in
theorem iRepNodes_c {w : World} {v : Value} {l : List MRep} (h : RV repSL w v l) (hm : l.length ≤ 16777216) : Calls Try.prog 87 #[v] w (NewS .i64 3 w (nodesR l)) := by
  obtain ⟨A, c, rfl, h1, h2, hr⟩ := rv_slice h
  clear h
  obtain ⟨i0, hi, hz0, hz1, hz2⟩ := info_parts Try.info_i64
  have hb0 : Below w.heap.size w (w.alloc (.cells #[] 3)) := (Below.refl _ _).alloc (Nat.le_refl _) _
  have ho : Own .i64 (w.alloc (.cells #[] 3)) w.heap.size 3 (.slice (some ⟨w.heap.size, 0, none⟩) 0 0) [] := own_none .i64 w w.heap.size 3 (Nat.le_refl _)
  go_enter Try.func87, Try.ntmps87
  go_wp2
  go_loopw [3, 9] (fun s3 j wr => ∃ (k : Nat) (g : List Int), k ≤ l.length ∧ j = .int .i64 k ∧ Hid (g = nodesR (l.take k)) ∧ g.length ≤ k ∧ Own .i64 wr w.heap.size 3 s3 g ∧ Below w.heap.size w wr) (fun _ j _ => l.length - (intOf j).toNat)
  case atStart => exact ⟨0, [], Nat.zero_le _, rfl, rfl, Nat.le_refl _, ho, hb0⟩
  case round =>
    clear ho hb0
    obtain ⟨k, g, hk, rfl, HG, lg, hown, hbr⟩ := hrel
    have hsz := hbr.size
    by_cases hlt : k < l.length
    case neg =>
      have hk2 : ¬ ((k : Int) < (l.length : Int)) := by omega
      have HO : Hid (nodesR l = g) := by show _ = _; rw [HG.out, List.take_of_length_le (by omega)]
      go_wp2
      go_ret
      rw [HO.out]
      exact ⟨_, rfl, OS.mk_ hown, hbr⟩
    obtain ⟨x, hxe⟩ := get_of_lt hlt
    obtain ⟨b, off, rfl, hb, e0, e1⟩ := el_rep (hr.below hbr) hxe
    have i1 : (k : Int) < (l.length : Int) := by omega
    have H2 : Hid (g ++ [x.Node] = nodesR (l.take (k + 1))) := by show _ = _; rw [HG.out, List.take_add_one, hxe]; simp [nodesR]
    clear hxe
    obtain ⟨w1, e_w1, s_w1, h_w1, x_m⟩ := alloc_step wr 57 [.int .i64 x.Node, .int .i64 x.Amt]
    have s_w1_1 := Nat.le_of_eq s_w1
    have s_w1_2 := Nat.le_of_eq s_w1.symm
    clear s_w1
    have hown1 := hown.alloc_ (.cells #[.int .i64 x.Node, .int .i64 x.Amt] 57)
    rw [show wr.alloc (.cells #[.int .i64 x.Node, .int .i64 x.Amt] 57) = w1 from e_w1] at hown1
    have B_w1 := hbr.trans (h_w1.mono hbr.size)
    have c_m_0_w1 := x_m.cell (i := 0) rfl
    have f_m_0_w1 := x_m.frozen 0
    have c_m_1_w1 := x_m.cell (i := 1) rfl
    have f_m_1_w1 := x_m.frozen 1
    go_wp2_with (at_builtin; refine wpl_appI _ .i64 rfl (.tmp 13) (.tmp 16) 24 rfl w.heap.size 3 i0 8 Try.underlying24 hi hz0 hz1 hz2 _ g rfl (hown1.alloc_ _) _ _ _ 1 [x.Node] rfl rfl (rd_one _ _ _ _) ?d1 (by omega) ?d2 ?_)
    case d1 => omega
    case d2 => first | omega | (simp; omega)
    intro v4 w4 ho4 hg4 hat4
    have hb6 : Below w.heap.size w w4 := grown_below (B_w1.alloc B_w1.size _) (hown1.alloc_ _) hg4 (Nat.le_refl _) (by simp; omega)
    clear hg4 hat4 hown hown1
    go_wp2
    go_roundw
    case rel => exact ⟨k + 1, g ++ [x.Node], by omega, by go_num, H2, by simp; omega, ho4, hb6⟩
    case measure => simp [intOf]; omega

theorem first_at {l : List MRep} {k : Nat} {x : MRep} {n : Int} (hx : l[k]? = some x) (hn : x.Node = n) (h : hasRep (l.take k) n = false) : repFirst l n = x := by
  unfold repFirst
  have hl : k < l.length := by
    rcases Nat.lt_or_ge k l.length with h | h
    · exact h
    · rw [List.getElem?_eq_none h] at hx; cases hx
  have e : l = l.take k ++ x :: l.drop (k + 1) := by
    have h1 := List.drop_eq_getElem_cons hl
    rw [List.getElem?_eq_getElem hl] at hx
    simp only [Option.some.injEq] at hx
    rw [hx] at h1
    rw [← h1, List.take_append_drop]
  have h0 : (l.take k).find? (fun r => decide (r.Node = n)) = none := List.find?_eq_none.2 (fun y hy => by
    unfold hasRep at h; rw [List.any_eq_false] at h; simpa using h y hy)
  rw [e, List.find?_append, h0]
  simp [hn]

set_option maxHeartbeats 2000000 in
theorem iRepOf_c {w : World} {v : Value} {l : List MRep} {n : Int} (h : RV repSL w v l) : Calls Try.prog 42 #[v, .int .i64 n] w (NewVB repL w (repFirst l n) (hasRep l n)) := by
  obtain ⟨A, c, rfl, h1, h2, hr⟩ := rv_slice h
  clear h
  unfold maxLen at h2
  obtain ⟨wa, hwa, B0, sa, x_r⟩ := frame1 w 57 [.int .i64 0, .int .i64 0]
  have sa_1 := Nat.le_of_eq sa
  have sa_2 := Nat.le_of_eq sa.symm
  clear sa
  have c_r_0_wa := x_r.cell (i := 0) rfl
  have f_r_0_wa := x_r.frozen 0
  have c_r_1_wa := x_r.cell (i := 1) rfl
  have f_r_1_wa := x_r.frozen 1
  go_enter Try.func42, Try.ntmps42
  go_wp2
  go_loopw [10] (fun i wr => ∃ k : Nat, k ≤ l.length ∧ i = .int .i64 k ∧ Hid (hasRep (l.take k) n = false) ∧ Vr wr w.heap.size 57 [.int .i64 0, .int .i64 0] ∧ Below w.heap.size w wr) (fun i _ => l.length - (intOf i).toNat)
  case atStart => exact ⟨0, Nat.zero_le _, rfl, rfl, x_r, B0⟩
  case round =>
    clear c_r_0_wa f_r_0_wa c_r_1_wa f_r_1_wa
    clear x_r hwa
    obtain ⟨k, hk, rfl, HT, x_r, HB⟩ := hrel
    have hs := HB.size
    have lr := x_r.lt
    by_cases hlt : k < l.length
    case neg =>
      have hk2 : ¬ ((k : Int) < (l.length : Int)) := by omega
      have HO : Hid (hasRep l n = false) := by have := HT.out; rwa [List.take_of_length_le (by omega)] at this
      have HM : Hid (repFirst l n = ⟨0, 0⟩) := by show _ = _; unfold repFirst; rw [List.find?_eq_none.2 (fun x hx => by have := HO.out; unfold hasRep at this; rw [List.any_eq_false] at this; simpa using this x hx)]; rfl
      have c_r_0_wr := x_r.cell (i := 0) rfl
      have f_r_0_wr := x_r.frozen 0
      have c_r_1_wr := x_r.cell (i := 1) rfl
      have f_r_1_wr := x_r.frozen 1
      have i_r_0 := x_r.same (i := 0) rfl
      have i_r_1 := x_r.same (i := 1) rfl
      go_wp2
      refine ret_cell_tmp (by rfl) (by rfl) x_r Try.underlying57 sz_rep (by rfl) ?_
      rw [HM.out, HO.out]
      exact ⟨_, rfl, ov_rep (d := ⟨0, 0⟩) (Nat.le_refl _), HB⟩
    obtain ⟨x, hxe⟩ := get_of_lt hlt
    obtain ⟨b, off, rfl, hb, e0, e1⟩ := el_rep (hr.below HB) hxe
    have i1 : (k : Int) < (l.length : Int) := by omega
    obtain ⟨w1, e_w1, s_w1, h_w1, x_m⟩ := alloc_step wr 57 [.int .i64 x.Node, .int .i64 x.Amt]
    have s_w1_1 := Nat.le_of_eq s_w1
    have s_w1_2 := Nat.le_of_eq s_w1.symm
    clear s_w1
    replace x_r := x_r.from_ h_w1
    have B_w1 := HB.trans (h_w1.mono HB.size)
    have c_r_0_w1 := x_r.cell (i := 0) rfl
    have f_r_0_w1 := x_r.frozen 0
    have c_r_1_w1 := x_r.cell (i := 1) rfl
    have f_r_1_w1 := x_r.frozen 1
    have c_m_0_w1 := x_m.cell (i := 0) rfl
    have f_m_0_w1 := x_m.frozen 0
    have c_m_1_w1 := x_m.cell (i := 1) rfl
    have f_m_1_w1 := x_m.frozen 1
    by_cases hn : x.Node = n
    case neg =>
      have g : (x.Node == n) = false := by simpa using hn
      have H2 : Hid (hasRep (l.take (k + 1)) n = false) := by show _ = _; rw [hasRep_take hxe, HT.out, decide_eq_false hn]; rfl
      clear hn hxe
      go_wp2
      go_roundw
      case rel => exact ⟨k + 1, by omega, by go_num, H2, x_r, B_w1⟩
      case measure => simp [intOf]; omega
    have g : (x.Node == n) = true := by simpa using hn
    have HO : Hid (hasRep l n = true) := hasRep_get.2 ⟨k, hlt, by rw [repG_of hxe]; exact hn⟩
    have HM : Hid (repFirst l n = x) := first_at hxe hn HT.out
    clear hn hxe
    obtain ⟨w2, e_w2, s_w2, h_w2, y⟩ := store_step x_r [.int .i64 x.Node, .int .i64 x.Amt] rfl
    replace e_w2 : ((w1.setCell ⟨w.heap.size, 0, none⟩ (.int .i64 x.Node)).setCell ⟨w.heap.size, 1, none⟩ (.int .i64 x.Amt)) = w2 := e_w2
    have s_w2_1 := Nat.le_of_eq s_w2
    have s_w2_2 := Nat.le_of_eq s_w2.symm
    clear s_w2
    replace x_m := x_m.chg h_w2 (by omega)
    have B_w2 := Below.chg_ B_w1 h_w2 (by omega) (by omega)
    replace x_r : Vr w2 (w.heap.size) 57 [.int .i64 x.Node, .int .i64 x.Amt] := y
    clear y
    have c_r_0_w2 := x_r.cell (i := 0) rfl
    have f_r_0_w2 := x_r.frozen 0
    have c_r_1_w2 := x_r.cell (i := 1) rfl
    have f_r_1_w2 := x_r.frozen 1
    go_wp2
    refine ret_cell_tmp (by rfl) (by rfl) x_r Try.underlying57 sz_rep (by rfl) ?_
    rw [HM.out, HO.out]
    exact ⟨_, rfl, ov_rep (d := x) (Nat.le_refl _), B_w2⟩

theorem amts_f {l : List MRep} {k : Nat} {x : MRep} (hx : l[k]? = some x) (h : numB x.Amt = false) : amtsB l = false := by
  unfold amtsB
  rw [List.all_eq_false]
  exact ⟨x, List.mem_iff_getElem?.2 ⟨k, hx⟩, by simp [h]⟩
theorem amts_t {l : List MRep} {k : Nat} {x : MRep} (h : amtsB (l.take k) = true) (hx : l[k]? = some x) (hn : numB x.Amt = true) : amtsB (l.take (k + 1)) = true := by
  unfold amtsB at *
  rw [List.take_add_one, hx, List.all_append, h]
  simp [hn]
theorem rv_below {α : Type} {L : Lay α} {w w' : World} {v : Value} {x : α} (h : RV L w v x) (hb : Below w.heap.size w w') : RV L w' v x := h.from_ hb

set_option maxHeartbeats 1000000 in
theorem iWithin_g {w : World} {v : Value} {l : List Int} {hi : Int} (h : RS .i64 w v l) : Calls Try.prog 88 #[v, .int .i64 0, .int .i64 hi] w fun e w' => e = .returned (.bool (wideB l hi)) ∧ Below w.heap.size w w' := by
  have h0 := h
  obtain ⟨A, c, rfl, h1, h2, hr⟩ := h
  unfold maxLen at h2
  by_cases ha : ascB l = true
  case neg =>
    replace ha : ascB l = false := by simpa using ha
    have HA := Lib.hid ha
    have HO : Hid (wideB l hi = false) := by show _ = _; unfold wideB; rw [ha]; rfl
    clear ha
    go_enter Try.func88, Try.ntmps88
    go_wp2_with fail
    refine (iAsc_c h0).mono ?_
    rintro e w1 ⟨rfl, h_w1⟩
    rw [HA.out]
    go_wp2
    go_ret
    exact ⟨ret_eq (by rw [HO.out]; rfl), h_w1⟩
  have HA := Lib.hid ha
  rcases Nat.eq_zero_or_pos l.length with e0 | e0
  case inl =>
    have HO : Hid (wideB l hi = true) := by show _ = _; unfold wideB; rw [ha, decide_eq_true e0]; rfl
    have i0 : ((l.length : Int) == 0) = true := by simp [e0]
    clear ha e0
    go_enter Try.func88, Try.ntmps88
    go_wp2_with fail
    refine (iAsc_c h0).mono ?_
    rintro e w1 ⟨rfl, h_w1⟩
    rw [HA.out]
    go_wp2
    go_ret
    exact ⟨ret_eq (by rw [HO.out]; rfl), h_w1⟩
  obtain ⟨b, off, rfl, hb, hc⟩ := hr e0
  obtain ⟨m, hm⟩ : ∃ m, l.length = m + 1 := ⟨l.length - 1, by omega⟩
  have c0 := hc 0 e0
  have cn := hc m (by omega)
  obtain ⟨x, hx⟩ : ∃ x, l.getD 0 0 = x := ⟨_, rfl⟩
  obtain ⟨y, hy⟩ : ∃ y, l.getD m 0 = y := ⟨_, rfl⟩
  rw [hx] at c0
  rw [hy] at cn
  have i0 : ((l.length : Int) == 0) = false := by rw [hm]; exact beq_eq_false_iff_ne.2 (by omega)
  have i1 : (0 : Int) < (l.length : Int) := by omega
  have i2 : (m : Int) < (l.length : Int) := by omega
  have i3 : (0 : Int) ≤ (m : Int) := by omega
  have e1 : IntKind.i64.wrap ((l.length : Int) - 1) = (m : Int) := by rw [show (l.length : Int) - 1 = (m : Int) by omega]; exact IntWalk.i64_in _ (by omega)
  have e1' : (l.length : Int) - 1 = (m : Int) := by omega
  have HW : Hid (wideB l hi = (decide (0 ≤ x) && decide (y ≤ hi))) := by show _ = _; unfold wideB; rw [ha, decide_eq_false (by omega), hx, show l.length - 1 = m by omega, hy]; rfl
  clear hc hr
  by_cases hx0 : 0 ≤ x
  case neg =>
    have HO : Hid (wideB l hi = false) := by show _ = _; rw [HW.out, decide_eq_false hx0]; rfl
    have g0 : decide (0 ≤ x) = false := decide_eq_false hx0
    clear ha hx hy e0 hm e1'
    go_enter Try.func88, Try.ntmps88
    go_wp2_with fail
    refine (iAsc_c h0).mono ?_
    rintro e w1 ⟨rfl, h_w1⟩
    rw [HA.out]
    have c01 := (h_w1.cell (p := ⟨b, off + 0, none⟩) hb).trans c0
    have c02 : w1.cell? ⟨b, off, none⟩ = some (.int .i64 x) := c01
    have cn1 := (h_w1.cell (p := ⟨b, off + m, none⟩) hb).trans cn
    clear c0 cn
    go_wp2
    go_ret
    exact ⟨ret_eq (by rw [HO.out]; rfl), h_w1⟩
  have g0 : decide (0 ≤ x) = true := decide_eq_true hx0
  have HO : Hid (wideB l hi = decide (y ≤ hi)) := by show _ = _; rw [HW.out, decide_eq_true hx0]; rfl
  by_cases hy3 : y ≤ hi
  all_goals (
    clear ha hx hy e0 hm e1'
    go_enter Try.func88, Try.ntmps88
    go_wp2_with fail
    refine (iAsc_c h0).mono ?_
    rintro e w1 ⟨rfl, h_w1⟩
    rw [HA.out]
    have c01 := (h_w1.cell (p := ⟨b, off + 0, none⟩) hb).trans c0
    have c02 : w1.cell? ⟨b, off, none⟩ = some (.int .i64 x) := c01
    have cn1 := (h_w1.cell (p := ⟨b, off + m, none⟩) hb).trans cn
    clear c0 cn
    go_wp2
    go_ret
    exact ⟨ret_eq (by rw [HO.out]; first | rfl | (rw [decide_eq_true hy3]; rfl) | (rw [decide_eq_false hy3]; rfl)), h_w1⟩)

theorem iNodesS_c {w : World} {v : Value} {l : List Int} (h : RS .i64 w v l) : Calls Try.prog 79 #[v] w fun e w' => e = .returned v ∧ w = w' := by
  obtain ⟨A, c, rfl, h1, h2, hr⟩ := h
  exact iNodesOf_any _ A _ c rfl w

def repsIn (l : List MRep) (n : Int) : Bool := amtsB l && wideB (nodesR l) (n - 1)

set_option maxHeartbeats 2000000 in
theorem iRepsOk_c {w : World} {v : Value} {l : List MRep} {n : Int} (h : RV repSL w v l) (hm : l.length ≤ 16777216) (hn : 1 ≤ n ∧ n ≤ 4) : Calls Try.prog 81 #[v, .int .i64 n] w fun e w' => e = .returned (.bool (repsIn l n)) ∧ Below w.heap.size w w' := by
  have h0 := h
  obtain ⟨A, c, rfl, h1, h2, hr⟩ := rv_slice h
  clear h
  unfold maxLen at h2
  have tn : IntKind.i64.wrap (n - 1) = n - 1 := IntWalk.i64_in _ (by omega)
  have B0 : Below w.heap.size w w := Below.refl _ _
  go_enter Try.func81, Try.ntmps81
  go_wp2
  go_loopw [9] (fun i wr => ∃ k : Nat, k ≤ l.length ∧ i = .int .i64 k ∧ Hid (amtsB (l.take k) = true) ∧ Below w.heap.size w wr) (fun i _ => l.length - (intOf i).toNat)
  case atStart => exact ⟨0, Nat.zero_le _, rfl, rfl, B0⟩
  case round =>
    obtain ⟨k, hk, rfl, HT, HB⟩ := hrel
    have hs := HB.size
    by_cases hlt : k < l.length
    case neg =>
      have hk2 : ¬ ((k : Int) < (l.length : Int)) := by omega
      have HO : Hid (repsIn l n = wideB (nodesR l) (n - 1)) := by show _ = _; unfold repsIn; have := HT.out; rw [List.take_of_length_le (by omega)] at this; rw [this]; rfl
      go_wp2_with fail
      refine (iRepNodes_c (rv_below h0 HB) hm).mono ?_
      rintro e w1 ⟨u_, rfl, ou, h_w1⟩
      have B_w1 := HB.trans (h_w1.mono HB.size)
      have s_w1 := h_w1.size
      obtain ⟨A2, c2, rfl, -, -, -⟩ := ou.rd
      rw [nodesR_len]
      go_wp2_with fail
      refine (iNodesS_c (l := nodesR l) (by have := ou.rd; rwa [nodesR_len] at this)).mono ?_
      rintro e w' ⟨rfl, rfl⟩
      go_wp2_with fail
      refine (iWithin_g (l := nodesR l) (hi := n - 1) (by have := ou.rd; rwa [nodesR_len] at this)).mono ?_
      rintro e w2 ⟨rfl, h_w2⟩
      have B_w2 := B_w1.trans (h_w2.mono B_w1.size)
      have s_w2 := h_w2.size
      go_wp2
      go_ret
      exact ⟨ret_eq (by rw [HO.out]; rfl), B_w2⟩
    obtain ⟨x, hxe⟩ := get_of_lt hlt
    obtain ⟨b, off, rfl, hb, e0, e1⟩ := el_rep (hr.below HB) hxe
    have i1 : (k : Int) < (l.length : Int) := by omega
    obtain ⟨w1, e_w1, s_w1, h_w1, x_m⟩ := alloc_step wr 57 [.int .i64 x.Node, .int .i64 x.Amt]
    have s_w1_1 := Nat.le_of_eq s_w1
    have s_w1_2 := Nat.le_of_eq s_w1.symm
    clear s_w1
    have B_w1 := HB.trans (h_w1.mono HB.size)
    have c_m_0_w1 := x_m.cell (i := 0) rfl
    have f_m_0_w1 := x_m.frozen 0
    have c_m_1_w1 := x_m.cell (i := 1) rfl
    have f_m_1_w1 := x_m.frozen 1
    by_cases hn9 : numB x.Amt = true
    case neg =>
      replace hn9 : numB x.Amt = false := by simpa using hn9
      have HN := Lib.hid hn9
      have HO : Hid (repsIn l n = false) := by show _ = _; unfold repsIn; rw [show amtsB l = false from amts_f hxe hn9]; rfl
      clear hn9 hxe
      go_wp2_with fail
      refine (iNum_any _ _).mono ?_
      rintro e w' ⟨rfl, rfl⟩
      rw [HN.out]
      go_wp2
      go_ret
      exact ⟨ret_eq (by rw [HO.out]; rfl), B_w1⟩
    have HN := Lib.hid hn9
    have H2 : Hid (amtsB (l.take (k + 1)) = true) := amts_t HT.out hxe hn9
    clear hn9 hxe
    go_wp2_with fail
    refine (iNum_any _ _).mono ?_
    rintro e w' ⟨rfl, rfl⟩
    rw [HN.out]
    go_wp2
    go_roundw
    case rel => exact ⟨k + 1, by omega, by go_num, H2, B_w1⟩
    case measure => simp [intOf]; omega

end Go.Proofs.Ytopmojfcdmcmbaa
