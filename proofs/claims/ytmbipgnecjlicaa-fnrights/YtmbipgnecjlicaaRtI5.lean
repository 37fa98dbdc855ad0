/- impl's rights: Later, Meet. Laid by a program of ours (src/tlj.py). -/
import Derived.Test.YtmbipgnecjlicaaTl7
import Derived.Test.YtmbipgnecjlicaaRt9
import Derived.BigQuiet
namespace Go.Proofs.Ytmbipgnecjlicaa
open Go.RowKit
set_option linter.unusedVariables false

theorem sameT_iff {T U : List Int} (hT : T.length = 21) (hU : U.length = 21) (h0 : tg T 0 = tg U 0) : sameT T U = true ↔ T = U := by
  unfold sameT
  simp only [Bool.and_eq_true, decide_eq_true_eq]
  constructor
  · rintro ⟨h1, h2⟩
    refine tg_ext hT hU fun k hk => ?_
    by_cases c0 : k = 0
    · rw [c0]; exact h0
    by_cases c1 : k < 17
    · have := congrArg (fun l => l[k - 1]?) h1
      simp only [List.getElem?_take, List.getElem?_drop] at this
      rw [if_pos (by omega), if_pos (by omega), show 1 + (k - 1) = k by omega] at this
      unfold tg
      rw [List.getD_eq_getElem?_getD, List.getD_eq_getElem?_getD, this]
    · have := congrArg (fun l => l[k - 17]?) h2
      simp only [List.getElem?_take, List.getElem?_drop] at this
      rw [if_pos (by omega), if_pos (by omega), show 17 + (k - 17) = k by omega] at this
      unfold tg
      rw [List.getD_eq_getElem?_getD, List.getD_eq_getElem?_getD, this]
  · rintro rfl
    exact ⟨rfl, rfl⟩
theorem mx_right {x y : Int} : mx x y = y ↔ x ≤ y := by unfold mx; split <;> omega
theorem meet_eq {r q : MRights} (hq : Shp r.Give.length q) : meetR r q = q ↔ ∀ i, i < r.Give.length → s1 r.Spent i ≤ s1 q.Spent i ∧ ∀ j, j < r.Give.length → g2 r.Give i j ≤ g2 q.Give i j := by
  constructor
  · intro h i hi
    refine ⟨mx_right.1 (by rw [← meetR_s1 r q hi, h]), fun j hj => mx_right.1 (by rw [← meetR_g2 r q hi hj, h])⟩
  · intro h
    exact mat_ext (meetR_shp r q) hq (fun i j hi hj => by rw [meetR_g2 r q hi hj]; exact mx_right.2 ((h i hi).2 j hj)) (fun i hi => by rw [meetR_s1 r q hi]; exact mx_right.2 (h i hi).1)
theorem meetR_len (r q : MRights) : (meetR r q).Give.length = r.Give.length := (meetR_shp r q).1
theorem pair_parts {r q : MRights} (h : pairB r q = true) : rightsOkB r = true ∧ rightsOkB q = true ∧ r.Give.length = q.Give.length := by
  unfold pairB at h
  simpa using h
theorem later_same {r q : MRights} (h : pairB r q = true) : laterB r q = sameT (tOf (meetR r q)) (tOf q) := by
  obtain ⟨h1, h2, h3⟩ := pair_parts h
  have hq : Shp r.Give.length q := by rw [h3]; exact form_shp (ok_form h2)
  have hn := (form_parts (ok_form h1)).1
  rw [Bool.eq_iff_iff, sameT_iff (tOf_len _) (tOf_len _) (by rw [tOf_n, tOf_n, meetR_len, h3])]
  unfold laterB
  rw [h1, h2, decide_eq_true h3]
  simp only [Bool.true_and, decide_eq_true_eq]
  rw [← meet_eq hq]
  constructor
  · intro e; rw [e]
  · intro e; exact tOf_inj (meetR_shp r q) hq hn.2 e
theorem later_no {r q : MRights} (h : pairB r q = false) : laterB r q = false := by
  unfold pairB at h
  unfold laterB
  cases h1 : rightsOkB r <;> cases h2 : rightsOkB q <;> rw [h1, h2] at h <;> simp_all
theorem meet_no {r q : MRights} (h : pairB r q = false) : meetB r q = false := by
  unfold meetB
  unfold pairB at h
  rw [h]
  rfl
theorem meet_yes {r q : MRights} (h : pairB r q = true) : meetB r q = rightsOkB (meetR r q) := by
  unfold meetB
  unfold pairB at h
  rw [h]
  rfl

set_option maxRecDepth 100000 in
set_option maxHeartbeats 4000000 in
theorem iLater_c {w : World} {v v' : Value} {r q : MRights} (h : RV rightsL w v r) (h' : RV rightsL w v' q) (hm : r.bulk ≤ 16777216) (hm' : q.bulk ≤ 16777216) :
    Calls Try.prog 20 #[v, v'] w fun e w' => e = .returned (.bool (laterB r q)) ∧ Below w.heap.size w w' := by
  have h0 := h
  obtain ⟨AG, cG, AS, cS, rfl, hrG, hrS, lG, lS⟩ := rv_rights2 h
  clear h
  have h0' := h'
  obtain ⟨AG', cG', AS', cS', rfl, hrG', hrS', lG', lS'⟩ := rv_rights2 h'
  clear h'
  obtain ⟨wa, hwa, B0, sa, x_a, x_b⟩ := frame2 w 27 [.slice AG r.Give.length cG, .slice AS r.Spent.length cS] 27 [.slice AG' q.Give.length cG', .slice AS' q.Spent.length cS']
  have sa_1 := Nat.le_of_eq sa
  have sa_2 := Nat.le_of_eq sa.symm
  clear sa
  have c_a_0_wa := x_a.cell (i := 0) rfl
  have c_a_1_wa := x_a.cell (i := 1) rfl
  have c_b_0_wa := x_b.cell (i := 0) rfl
  have c_b_1_wa := x_b.cell (i := 1) rfl
  by_cases hp : pairB r q = true
  case neg =>
    replace hp : pairB r q = false := by simpa using hp
    have HP := Lib.hid hp
    have HO : Hid (laterB r q = false) := later_no hp
    clear hp
    go_enter Try.func20, Try.ntmps20
    go_wp2_with fail
    refine (iPairOf_c (h0.from_ B0) (h0'.from_ B0)).mono ?_
    rintro e w1 ⟨T, U, rfl, hT, hU, hTU, h_w1⟩
    clear c_a_0_wa c_a_1_wa c_b_0_wa c_b_1_wa hwa x_a x_b
    have B_w1 := B0.trans (h_w1.mono B0.size)
    have s_w1 := h_w1.size
    rw [HP.out]
    clear hTU
    obtain ⟨w2, e_w2, s_w2, h_w2, x_s⟩ := alloc_step w1 57 [.int .i64 0, .int .i64 0, .int .i64 0, .int .i64 0, .int .i64 0, .int .i64 0, .int .i64 0, .int .i64 0, .int .i64 0, .int .i64 0, .int .i64 0, .int .i64 0, .int .i64 0, .int .i64 0, .int .i64 0, .int .i64 0, .int .i64 0, .int .i64 0, .int .i64 0, .int .i64 0, .int .i64 0]
    have s_w2_1 := Nat.le_of_eq s_w2
    have s_w2_2 := Nat.le_of_eq s_w2.symm
    clear s_w2
    obtain ⟨w3, e_w3, s_w3, h_w3, x_t⟩ := alloc_step w2 57 [.int .i64 0, .int .i64 0, .int .i64 0, .int .i64 0, .int .i64 0, .int .i64 0, .int .i64 0, .int .i64 0, .int .i64 0, .int .i64 0, .int .i64 0, .int .i64 0, .int .i64 0, .int .i64 0, .int .i64 0, .int .i64 0, .int .i64 0, .int .i64 0, .int .i64 0, .int .i64 0, .int .i64 0]
    have s_w3_1 := Nat.le_of_eq s_w3
    have s_w3_2 := Nat.le_of_eq s_w3.symm
    clear s_w3
    replace x_s := x_s.from_ h_w3
    have B_w2 := B_w1.trans (h_w2.mono B_w1.size)
    have B_w3 := B_w2.trans (h_w3.mono B_w2.size)
    go_wp2_with (refine wpl_tstore x_s rfl (tl_one T) (by rw [tl_len]; exact hT) rfl rfl rfl rfl ?_; intro w4 x_s4 h_w4 s_w4; refine wpl_tstore (x_t.chg h_w4 (by omega)) rfl (tl_one U) (by rw [tl_len]; exact hU) rfl rfl rfl rfl ?_; intro w5 x_t5 h_w5 s_w5)
    clear x_s x_t e_w2 e_w3
    replace x_s4 := x_s4.chg h_w5 (by omega)
    have B_w5 := Below.chg_ (Below.chg_ B_w3 h_w4 (by omega) (by omega)) h_w5 (by omega) (by omega)
    go_quiet (fail)
    have B6 := B_w5.trans (below_of_drew _ _ nq)
    go_wp2
    go_ret
    exact ⟨ret_eq (by rw [HO.out]; rfl), B6⟩
  have HP := Lib.hid hp
  have HO : Hid (laterB r q = sameT (tOf (meetR r q)) (tOf q)) := later_same hp
  obtain ⟨g1, g2', g3⟩ := pair_parts hp
  have hS := form_shp (ok_form g1)
  have hn := (form_parts (ok_form g1)).1
  clear hp g1 g2' g3
  obtain ⟨k, hk⟩ : ∃ k, sameT (tOf (meetR r q)) (tOf q) = k := ⟨_, rfl⟩
  have HK := Lib.hid hk
  rw [hk] at HO
  clear hk
  go_enter Try.func20, Try.ntmps20
  go_wp2_with fail
  refine (iPairOf_c (h0.from_ B0) (h0'.from_ B0)).mono ?_
  rintro e w1 ⟨T, U, rfl, hT, hU, hTU, h_w1⟩
  clear c_a_0_wa c_a_1_wa c_b_0_wa c_b_1_wa hwa x_a x_b
  have B_w1 := B0.trans (h_w1.mono B0.size)
  have s_w1 := h_w1.size
  rw [HP.out]
  obtain ⟨rfl, rfl⟩ := hTU HP.out
  clear hTU
  obtain ⟨w2, e_w2, s_w2, h_w2, x_s⟩ := alloc_step w1 57 [.int .i64 0, .int .i64 0, .int .i64 0, .int .i64 0, .int .i64 0, .int .i64 0, .int .i64 0, .int .i64 0, .int .i64 0, .int .i64 0, .int .i64 0, .int .i64 0, .int .i64 0, .int .i64 0, .int .i64 0, .int .i64 0, .int .i64 0, .int .i64 0, .int .i64 0, .int .i64 0, .int .i64 0]
  have s_w2_1 := Nat.le_of_eq s_w2
  have s_w2_2 := Nat.le_of_eq s_w2.symm
  clear s_w2
  obtain ⟨w3, e_w3, s_w3, h_w3, x_t⟩ := alloc_step w2 57 [.int .i64 0, .int .i64 0, .int .i64 0, .int .i64 0, .int .i64 0, .int .i64 0, .int .i64 0, .int .i64 0, .int .i64 0, .int .i64 0, .int .i64 0, .int .i64 0, .int .i64 0, .int .i64 0, .int .i64 0, .int .i64 0, .int .i64 0, .int .i64 0, .int .i64 0, .int .i64 0, .int .i64 0]
  have s_w3_1 := Nat.le_of_eq s_w3
  have s_w3_2 := Nat.le_of_eq s_w3.symm
  clear s_w3
  replace x_s := x_s.from_ h_w3
  have B_w2 := B_w1.trans (h_w2.mono B_w1.size)
  have B_w3 := B_w2.trans (h_w3.mono B_w2.size)
  go_wp2_with (refine wpl_tstore x_s rfl (tl_one (tOf r)) (by rw [tl_len]; exact hT) rfl rfl rfl rfl ?_; intro w4 x_s4 h_w4 s_w4; refine wpl_tstore (x_t.chg h_w4 (by omega)) rfl (tl_one (tOf q)) (by rw [tl_len]; exact hU) rfl rfl rfl rfl ?_; intro w5 x_t5 h_w5 s_w5)
  clear x_s x_t e_w2 e_w3
  replace x_s4 := x_s4.chg h_w5 (by omega)
  have B_w5 := Below.chg_ (Below.chg_ B_w3 h_w4 (by omega) (by omega)) h_w5 (by omega) (by omega)
  refine wp_region_held (S := fun u => Vr u w1.heap.size 57 (tl (tOf r)) ∧ Vr u w2.heap.size 57 (tl (tOf q))) (by kernel_rfl) ?_
  obtain ⟨wd, hwd⟩ : ∃ x, ({ heap := w5.heap, tape := w5.tape, drawn := w5.drawn + 1, os := w5.os, output := w5.output } : World) = x := ⟨_, rfl⟩
  have hbd : Below w5.heap.size w5 wd := by rw [← hwd]; exact (Below.refl w5.heap.size w5).drew
  replace x_s4 := x_s4.from_ hbd
  replace x_t5 := x_t5.from_ hbd
  have B_wd := B_w5.trans (hbd.mono B_w5.size)
  rw [hwd]
  refine takeH (i := 0) (v := ?v0) (d := some 15) rfl rfl (by kernel_rfl) (by kernel_rfl) (by kernel_rfl) (fun _ _ _ h => h) (Or.inl ⟨by rfl, ?y0⟩) ⟨x_s4, x_t5⟩ ?r0
  case y0 => (intro W hW; go_simp; try (with_reducible rfl))
  simp only [Act.put, List.setIfInBounds_toArray, List.set_cons_zero, List.set_cons_succ]
  refine takeH (i := 1) (v := ?v1) (d := some 16) rfl rfl (by kernel_rfl) (by kernel_rfl) (by kernel_rfl) (fun _ _ _ h => h) (Or.inl ⟨by rfl, ?y1⟩) ⟨x_s4, x_t5⟩ ?r1
  case y1 => (intro W hW; go_simp; try (with_reducible rfl))
  simp only [Act.put, List.setIfInBounds_toArray, List.set_cons_zero, List.set_cons_succ]
  refine takeH (i := 2) (v := .agg (tl (tOf r)).toArray) (d := some 17) rfl rfl (by kernel_rfl) (by kernel_rfl) (by kernel_rfl) (fun _ _ _ h => h) (yieldsIf_tload (tOf_len r) rfl rfl rfl (fun _ h => h.1)) ⟨x_s4, x_t5⟩ ?_
  simp only [Act.put, List.setIfInBounds_toArray, List.set_cons_zero, List.set_cons_succ]
  refine takeH (i := 3) (v := .agg (tl (tOf q)).toArray) (d := some 18) rfl rfl (by kernel_rfl) (by kernel_rfl) (by kernel_rfl) (fun _ _ _ h => h) (yieldsIf_tload (tOf_len q) rfl rfl rfl (fun _ h => h.2)) ⟨x_s4, x_t5⟩ ?_
  simp only [Act.put, List.setIfInBounds_toArray, List.set_cons_zero, List.set_cons_succ]
  refine takeH (i := 5) (v := .agg (tl (tOf q)).toArray) (d := some 20) rfl rfl (by kernel_rfl) (by kernel_rfl) (by kernel_rfl) (fun _ _ _ h => h) (yieldsIf_tload (tOf_len q) rfl rfl rfl (fun _ h => h.2)) ⟨x_s4, x_t5⟩ ?_
  simp only [Act.put, List.setIfInBounds_toArray, List.set_cons_zero, List.set_cons_succ]
  refine wpAnyH_ready (rs := [4]) (by kernel_rfl) (by simp) ?_
  refine AllReadyH.cons rfl (fun K hK => ?_) AllReadyH.nil
  go_simp
  refine (tJoin_c hS hn).mono ?_
  rintro e w6 ⟨rfl, h_w6⟩
  replace x_s4 := x_s4.from_ h_w6
  replace x_t5 := x_t5.from_ h_w6
  have B_w6 := B_wd.trans (h_w6.mono B_wd.size)
  go_simp
  refine hK.out _ _ ⟨x_s4, x_t5⟩ (fun _ => ?_)
  clear hK K
  refine wpAnyH_ready (rs := [6]) (by kernel_rfl) (by simp) ?_
  refine AllReadyH.cons rfl (fun K hK => ?_) AllReadyH.nil
  go_simp
  refine (tSame_c (tOf_len _) (tOf_len _)).mono ?_
  rintro e w7 ⟨rfl, h_w7⟩
  rw [HK.out]
  replace x_s4 := x_s4.from_ h_w7
  replace x_t5 := x_t5.from_ h_w7
  have B_w7 := B_w6.trans (h_w7.mono B_w6.size)
  go_simp
  refine hK.out _ _ ⟨x_s4, x_t5⟩ (fun _ => ?_)
  clear hK K
  refine wpAnyH_ready (rs := [7]) (by kernel_rfl) (by simp) ?_
  refine AllReadyH.cons rfl (fun K hK => ?_) AllReadyH.nil
  go_simp
  refine hK.out _ _ ⟨x_s4, x_t5⟩ (fun _ => ?_)
  clear hK K
  refine wpAnyH_ready (rs := [8]) (by kernel_rfl) (by simp) ?_
  refine AllReadyH.cons rfl (fun K hK => ?_) AllReadyH.nil
  go_simp
  refine hK.out _ _ ⟨x_s4, x_t5⟩ (fun _ => ?_)
  clear hK K
  refine wpAnyH_done (by kernel_rfl) ?_ _
  go_wp2
  go_ret
  exact ⟨ret_eq (by rw [HO.out]; rfl), B_w7⟩

set_option maxRecDepth 100000 in
set_option maxHeartbeats 4000000 in
theorem iMeet_c {w : World} {v v' : Value} {r q : MRights} (h : RV rightsL w v r) (h' : RV rightsL w v' q) (hm : r.bulk ≤ 16777216) (hm' : q.bulk ≤ 16777216) :
    Calls Try.prog 18 #[v, v'] w (NewVB rightsL w (meetM r q) (meetB r q)) := by
  have h0 := h
  obtain ⟨AG, cG, AS, cS, rfl, hrG, hrS, lG, lS⟩ := rv_rights2 h
  clear h
  have h0' := h'
  obtain ⟨AG', cG', AS', cS', rfl, hrG', hrS', lG', lS'⟩ := rv_rights2 h'
  clear h'
  obtain ⟨wa, hwa, B0, sa, x_a, x_b, x_r⟩ := frame3 w 27 [.slice AG r.Give.length cG, .slice AS r.Spent.length cS] 27 [.slice AG' q.Give.length cG', .slice AS' q.Spent.length cS'] 27 [.slice none 0 0, .slice none 0 0]
  have sa_1 := Nat.le_of_eq sa
  have sa_2 := Nat.le_of_eq sa.symm
  clear sa
  have c_a_0_wa := x_a.cell (i := 0) rfl
  have c_a_1_wa := x_a.cell (i := 1) rfl
  have c_b_0_wa := x_b.cell (i := 0) rfl
  have c_b_1_wa := x_b.cell (i := 1) rfl
  by_cases hp : pairB r q = true
  case neg =>
    replace hp : pairB r q = false := by simpa using hp
    have HP := Lib.hid hp
    have HB : Hid (meetB r q = false) := meet_no hp
    have HM : Hid (meetM r q = rZ) := if_neg (by rw [HB.out]; decide)
    clear hp
    go_enter Try.func18, Try.ntmps18
    go_wp2_with fail
    refine (iPairOf_c (h0.from_ B0) (h0'.from_ B0)).mono ?_
    rintro e w1 ⟨T, U, rfl, hT, hU, hTU, h_w1⟩
    clear c_a_0_wa c_a_1_wa c_b_0_wa c_b_1_wa hwa x_a x_b
    replace x_r := x_r.from_ h_w1
    have B_w1 := B0.trans (h_w1.mono B0.size)
    have s_w1 := h_w1.size
    rw [HP.out]
    clear hTU
    obtain ⟨w2, e_w2, s_w2, h_w2, x_s⟩ := alloc_step w1 57 [.int .i64 0, .int .i64 0, .int .i64 0, .int .i64 0, .int .i64 0, .int .i64 0, .int .i64 0, .int .i64 0, .int .i64 0, .int .i64 0, .int .i64 0, .int .i64 0, .int .i64 0, .int .i64 0, .int .i64 0, .int .i64 0, .int .i64 0, .int .i64 0, .int .i64 0, .int .i64 0, .int .i64 0]
    have s_w2_1 := Nat.le_of_eq s_w2
    have s_w2_2 := Nat.le_of_eq s_w2.symm
    clear s_w2
    obtain ⟨w3, e_w3, s_w3, h_w3, x_t⟩ := alloc_step w2 57 [.int .i64 0, .int .i64 0, .int .i64 0, .int .i64 0, .int .i64 0, .int .i64 0, .int .i64 0, .int .i64 0, .int .i64 0, .int .i64 0, .int .i64 0, .int .i64 0, .int .i64 0, .int .i64 0, .int .i64 0, .int .i64 0, .int .i64 0, .int .i64 0, .int .i64 0, .int .i64 0, .int .i64 0]
    have s_w3_1 := Nat.le_of_eq s_w3
    have s_w3_2 := Nat.le_of_eq s_w3.symm
    clear s_w3
    replace x_s := x_s.from_ h_w3
    replace x_r := (x_r.from_ h_w2).from_ h_w3
    have B_w2 := B_w1.trans (h_w2.mono B_w1.size)
    have B_w3 := B_w2.trans (h_w3.mono B_w2.size)
    go_wp2_with (refine wpl_tstore x_s rfl (tl_one T) (by rw [tl_len]; exact hT) rfl rfl rfl rfl ?_; intro w4 x_s4 h_w4 s_w4; refine wpl_tstore (x_t.chg h_w4 (by omega)) rfl (tl_one U) (by rw [tl_len]; exact hU) rfl rfl rfl rfl ?_; intro w5 x_t5 h_w5 s_w5; have c_r_0_w5 := ((x_r.chg h_w4 (by omega)).chg h_w5 (by omega)).cell (i := 0) rfl; have f_r_0_w5 := ((x_r.chg h_w4 (by omega)).chg h_w5 (by omega)).frozen 0; have i_r_0 := ((x_r.chg h_w4 (by omega)).chg h_w5 (by omega)).same (i := 0) rfl; have c_r_1_w5 := ((x_r.chg h_w4 (by omega)).chg h_w5 (by omega)).cell (i := 1) rfl; have f_r_1_w5 := ((x_r.chg h_w4 (by omega)).chg h_w5 (by omega)).frozen 1; have i_r_1 := ((x_r.chg h_w4 (by omega)).chg h_w5 (by omega)).same (i := 1) rfl)
    clear x_s x_t e_w2 e_w3
    replace x_s4 := x_s4.chg h_w5 (by omega)
    replace x_r := (x_r.chg h_w4 (by omega)).chg h_w5 (by omega)
    have B_w5 := Below.chg_ (Below.chg_ B_w3 h_w4 (by omega) (by omega)) h_w5 (by omega) (by omega)
    refine ret_cell_tmp (by rfl) (by rfl) x_r Try.underlying27 sz_rights (by rfl) ?_
    rw [HM.out, HB.out]
    exact ⟨_, rfl, ov_rZ (Nat.le_refl _), B_w5⟩
  have HP := Lib.hid hp
  obtain ⟨g1, g2', g3⟩ := pair_parts hp
  have hS := form_shp (ok_form g1)
  have hn := (form_parts (ok_form g1)).1
  obtain ⟨D, hD⟩ : ∃ D, meetR r q = D := ⟨_, rfl⟩
  have hSD : Shp D.Give.length D := by rw [← hD, meetR_len]; exact meetR_shp r q
  have hnD : 1 ≤ D.Give.length ∧ D.Give.length ≤ 4 := by rw [← hD, meetR_len]; exact hn
  have HB : Hid (meetB r q = rightsOkB D) := by show _ = _; rw [meet_yes hp, hD]
  have HM : Hid (meetM r q = validM D) := by show _ = _; unfold meetM validM; rw [HB.out, hD]
  have HD := Lib.hid hD
  clear hp g1 g2' g3 hD
  go_enter Try.func18, Try.ntmps18
  go_wp2_with fail
  refine (iPairOf_c (h0.from_ B0) (h0'.from_ B0)).mono ?_
  rintro e w1 ⟨T, U, rfl, hT, hU, hTU, h_w1⟩
  clear c_a_0_wa c_a_1_wa c_b_0_wa c_b_1_wa hwa x_a x_b
  replace x_r := x_r.from_ h_w1
  have B_w1 := B0.trans (h_w1.mono B0.size)
  have s_w1 := h_w1.size
  rw [HP.out]
  obtain ⟨rfl, rfl⟩ := hTU HP.out
  clear hTU
  obtain ⟨w2, e_w2, s_w2, h_w2, x_s⟩ := alloc_step w1 57 [.int .i64 0, .int .i64 0, .int .i64 0, .int .i64 0, .int .i64 0, .int .i64 0, .int .i64 0, .int .i64 0, .int .i64 0, .int .i64 0, .int .i64 0, .int .i64 0, .int .i64 0, .int .i64 0, .int .i64 0, .int .i64 0, .int .i64 0, .int .i64 0, .int .i64 0, .int .i64 0, .int .i64 0]
  have s_w2_1 := Nat.le_of_eq s_w2
  have s_w2_2 := Nat.le_of_eq s_w2.symm
  clear s_w2
  obtain ⟨w3, e_w3, s_w3, h_w3, x_t⟩ := alloc_step w2 57 [.int .i64 0, .int .i64 0, .int .i64 0, .int .i64 0, .int .i64 0, .int .i64 0, .int .i64 0, .int .i64 0, .int .i64 0, .int .i64 0, .int .i64 0, .int .i64 0, .int .i64 0, .int .i64 0, .int .i64 0, .int .i64 0, .int .i64 0, .int .i64 0, .int .i64 0, .int .i64 0, .int .i64 0]
  have s_w3_1 := Nat.le_of_eq s_w3
  have s_w3_2 := Nat.le_of_eq s_w3.symm
  clear s_w3
  replace x_s := x_s.from_ h_w3
  replace x_r := (x_r.from_ h_w2).from_ h_w3
  have B_w2 := B_w1.trans (h_w2.mono B_w1.size)
  have B_w3 := B_w2.trans (h_w3.mono B_w2.size)
  go_wp2_with (first | refine wpl_tload x_s6 (tOf_len r) rfl rfl rfl ?_ | refine wpl_tload x_t5 (tOf_len q) rfl rfl rfl ?_ | (refine wpl_tstore x_s rfl (tl_one (tOf r)) (by rw [tl_len]; exact hT) rfl rfl rfl rfl ?_; intro w4 x_s4 h_w4 s_w4; refine wpl_tstore (x_t.chg h_w4 (by omega)) rfl (tl_one (tOf q)) (by rw [tl_len]; exact hU) rfl rfl rfl rfl ?_; intro w5 x_t5 h_w5 s_w5; have x_s6 := x_s4.chg h_w5 (by omega)))
  clear x_s x_t e_w2 e_w3
  replace x_s4 := x_s4.chg h_w5 (by omega)
  replace x_r := (x_r.chg h_w4 (by omega)).chg h_w5 (by omega)
  have B_w5 := Below.chg_ (Below.chg_ B_w3 h_w4 (by omega) (by omega)) h_w5 (by omega) (by omega)
  refine (tJoin_c hS hn).mono ?_
  rintro e w7 ⟨rfl, h_w7⟩
  rw [HD.out]
  replace x_r := x_r.from_ h_w7
  have B_w7 := B_w5.trans (h_w7.mono B_w5.size)
  have s_w7 := h_w7.size
  go_wp2_with fail
  refine (tValid_c hSD hnD).mono ?_
  rintro e w8 ⟨u, rfl, ou, h_w8⟩
  replace x_r := x_r.from_ h_w8
  have B_w8 := B_w7.trans (h_w8.mono B_w7.size)
  have s_w8 := h_w8.size
  obtain ⟨AG2, cG2, AS2, cS2, rfl, -, -⟩ := rv_rights ou.rd
  have c_r_0_w8 := x_r.cell (i := 0) rfl
  have f_r_0_w8 := x_r.frozen 0
  have c_r_1_w8 := x_r.cell (i := 1) rfl
  have f_r_1_w8 := x_r.frozen 1
  obtain ⟨w9, e_w9, s_w9, h_w9, y⟩ := store_step x_r [.slice AG2 (validM D).Give.length cG2, .slice AS2 (validM D).Spent.length cS2] rfl
  replace e_w9 : ((w8.setCell ⟨w.heap.size + 1 + 1, 0, none⟩ (.slice AG2 (validM D).Give.length cG2)).setCell ⟨w.heap.size + 1 + 1, 1, none⟩ (.slice AS2 (validM D).Spent.length cS2)) = w9 := e_w9
  have s_w9_1 := Nat.le_of_eq s_w9
  have s_w9_2 := Nat.le_of_eq s_w9.symm
  clear s_w9
  have B_w9 := Below.chg_ B_w8 h_w9 (by omega) (by omega)
  replace ou := ou.chg h_w9 (by omega)
  replace x_r : Vr w9 (w.heap.size + 1 + 1) 27 [.slice AG2 (validM D).Give.length cG2, .slice AS2 (validM D).Spent.length cS2] := y
  clear y
  have c_r_0_w9 := x_r.cell (i := 0) rfl
  have f_r_0_w9 := x_r.frozen 0
  have c_r_1_w9 := x_r.cell (i := 1) rfl
  have f_r_1_w9 := x_r.frozen 1
  go_wp2
  refine ret_cell_tmp (by rfl) (by rfl) x_r Try.underlying27 sz_rights (by rfl) ?_
  rw [HM.out, HB.out]
  exact ⟨_, rfl, ou.widen (by omega) (by omega) (Nat.le_refl _), B_w9⟩

end Go.Proofs.Ytmbipgnecjlicaa
