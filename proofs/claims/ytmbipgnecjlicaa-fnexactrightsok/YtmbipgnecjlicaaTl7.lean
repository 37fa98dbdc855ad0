/- impl.pairOf. Laid by a program of ours (src/tl7.py). -/
import Derived.Test.YtmbipgnecjlicaaTl4
import Derived.Test.YtmbipgnecjlicaaTl6
namespace Go.Proofs.Ytmbipgnecjlicaa
open Go.RowKit
set_option linter.unusedVariables false

/-- the end of a function with two struct results and a value beside them -/
theorem ret_cell2_tmp {P : Program} {fn : Func} {R : Ending → World → Prop} {a : Act} {w : World} {p p' u : Tmp} {ty : TypeId} {b b' : Nat} {t : TypeId} {cs cs' : List Value} {fs : Array Field} (h : fn.results = #[.cell p ty, .cell p' ty, .tmp u])
    (hp : a.tmps.getD p undef = .pointer (some ⟨b, 0, none⟩)) (hp' : a.tmps.getD p' undef = .pointer (some ⟨b', 0, none⟩)) (hg : Vr w b t cs) (hg' : Vr w b' t cs') (hu : P.underlying ty = some (.struct fs)) (hi : (P.info? ty).map (·.size) = some cs.length) (hi' : (P.info? ty).map (·.size) = some cs'.length) (hdf : a.defers = [])
    (hR : R (.returned (.tuple #[.agg cs.toArray, .agg cs'.toArray, a.tmps.getD u undef])) w) : bodyPost P fn R .ret a w := by
  refine bodyPost_ret (v := .tuple #[.agg cs.toArray, .agg cs'.toArray, a.tmps.getD u undef]) ?_ hdf hR
  have hl := run_loadVar_row (P := P) w b t ty cs.toArray (0, 0) _ hg hu rfl (by simpa using hi)
  have hl' := run_loadVar_row (P := P) w b' t ty cs'.toArray (0, 0) _ hg' hu rfl (by simpa using hi')
  simp only [Array.getD_eq_getD_getElem?] at hp hp'
  simp only [results, h]
  simp [Sem.run_bind, Result.andThen, hp, hp', asAddr, hl, hl']

theorem takeH {P : Program} {md : Region.Mode} {ops : Array Oper} {Q : Exit → Act → World → Prop} {S : World → Prop} {i : Nat} {oi : Oper} {v : Value} {d : Option Tmp} {fuel : Nat} {listed : Array Bool} {a : Act} {w : World} (hi : ops[i]? = some oi) (hd : oi.dst = d)
    (hs : Region.noSelect ops = true) (hf : Region.free md ops listed i = true) (hr : (Region.ready md ops listed).contains i = true)
    (hQ : ∀ c a w, Q (.panic c) (a.put d v) w → Q (.panic c) a w) (hy : YieldsIf P ops S oi v a) (hS : S w)
    (h : wpAnyH P md ops Q S fuel (listed.setIfInBounds i true) (a.put d v) w) : wpAnyH P md ops Q S (fuel + 1) listed a w := by
  subst hd
  exact wpAnyH_take hi hs hf hr hQ hy hS h

def pairB (r q : MRights) : Bool := rightsOkB r && (rightsOkB q && decide (r.Give.length = q.Give.length))
def PairR (r q : MRights) (w : World) : Ending → World → Prop := fun e w' => ∃ T U, e = .returned (.tuple #[.agg (tl T).toArray, .agg (tl U).toArray, .bool (pairB r q)]) ∧ T.length = 21 ∧ U.length = 21 ∧ (pairB r q = true → T = tOf r ∧ U = tOf q) ∧ Below w.heap.size w w'

set_option maxRecDepth 100000 in
set_option maxHeartbeats 4000000 in
theorem iPairOf_c {w : World} {v v' : Value} {r q : MRights} (h : RV rightsL w v r) (h' : RV rightsL w v' q) : Calls Try.prog 49 #[v, v'] w (PairR r q w) := by
  have h0 := h
  obtain ⟨AG, cG, AS, cS, rfl, hrG, hrS, lG, lS⟩ := rv_rights2 h
  clear h
  have h0' := h'
  obtain ⟨AG', cG', AS', cS', rfl, hrG', hrS', lG', lS'⟩ := rv_rights2 h'
  clear h'
  obtain ⟨wa, hwa, B0, sa, x_a, x_b, x_r, x_q⟩ := frame4 w 27 [.slice AG r.Give.length cG, .slice AS r.Spent.length cS] 27 [.slice AG' q.Give.length cG', .slice AS' q.Spent.length cS'] 57 [.int .i64 0, .int .i64 0, .int .i64 0, .int .i64 0, .int .i64 0, .int .i64 0, .int .i64 0, .int .i64 0, .int .i64 0, .int .i64 0, .int .i64 0, .int .i64 0, .int .i64 0, .int .i64 0, .int .i64 0, .int .i64 0, .int .i64 0, .int .i64 0, .int .i64 0, .int .i64 0, .int .i64 0] 57 [.int .i64 0, .int .i64 0, .int .i64 0, .int .i64 0, .int .i64 0, .int .i64 0, .int .i64 0, .int .i64 0, .int .i64 0, .int .i64 0, .int .i64 0, .int .i64 0, .int .i64 0, .int .i64 0, .int .i64 0, .int .i64 0, .int .i64 0, .int .i64 0, .int .i64 0, .int .i64 0, .int .i64 0]
  have sa_1 := Nat.le_of_eq sa
  have sa_2 := Nat.le_of_eq sa.symm
  clear sa
  have c_a_0 := x_a.cell (i := 0) rfl
  have c_a_1 := x_a.cell (i := 1) rfl
  go_enter Try.func49, Try.ntmps49
  go_wp2_with fail
  refine (iTallyOf_c (h0.from_ B0)).mono ?_
  rintro e w1 ⟨T, rfl, hT, hTe, h_w1⟩
  clear c_a_0 c_a_1
  replace x_b := x_b.from_ h_w1
  replace x_r := x_r.from_ h_w1
  replace x_q := x_q.from_ h_w1
  have B_w1 := B0.trans (h_w1.mono B0.size)
  have s_w1 := h_w1.size
  clear x_a
  obtain ⟨ka, hka⟩ : ∃ k, rightsOkB r = k := ⟨_, rfl⟩
  have HKA := Lib.hid hka
  have HTE := Lib.hid hTe
  rw [hka]
  clear hka hTe
  obtain ⟨w2, e_w2, s_w2, h_w2, x_s⟩ := alloc_step w1 57 [.int .i64 0, .int .i64 0, .int .i64 0, .int .i64 0, .int .i64 0, .int .i64 0, .int .i64 0, .int .i64 0, .int .i64 0, .int .i64 0, .int .i64 0, .int .i64 0, .int .i64 0, .int .i64 0, .int .i64 0, .int .i64 0, .int .i64 0, .int .i64 0, .int .i64 0, .int .i64 0, .int .i64 0]
  have s_w2_1 := Nat.le_of_eq s_w2
  have s_w2_2 := Nat.le_of_eq s_w2.symm
  clear s_w2
  replace x_b := x_b.from_ h_w2
  replace x_r := x_r.from_ h_w2
  replace x_q := x_q.from_ h_w2
  have B_w2 := B_w1.trans (h_w2.mono B_w1.size)
  go_wp2_with (refine wpl_tstore x_s rfl (tl_one T) (by rw [tl_len, hT]) rfl rfl rfl rfl ?_; intro w3 x_s3 h_w3 s_w3; have c_b_0 := (x_b.chg h_w3 (by omega)).cell (i := 0) rfl; have c_b_1 := (x_b.chg h_w3 (by omega)).cell (i := 1) rfl)
  clear x_s
  replace x_r := x_r.chg h_w3 (by omega)
  replace x_q := x_q.chg h_w3 (by omega)
  have B_w3 := Below.chg_ B_w2 h_w3 (by omega) (by omega)
  refine (iTallyOf_c (h0'.from_ B_w3)).mono ?_
  rintro e w4 ⟨U, rfl, hU, hUe, h_w4⟩
  clear c_b_0 c_b_1 x_b
  replace x_r := x_r.from_ h_w4
  replace x_q := x_q.from_ h_w4
  replace x_s3 := x_s3.from_ h_w4
  have B_w4 := B_w3.trans (h_w4.mono B_w3.size)
  have s_w4 := h_w4.size
  obtain ⟨kb, hkb⟩ : ∃ k, rightsOkB q = k := ⟨_, rfl⟩
  have HKB := Lib.hid hkb
  have HUE := Lib.hid hUe
  rw [hkb]
  clear hkb hUe
  obtain ⟨w5, e_w5, s_w5, h_w5, x_t⟩ := alloc_step w4 57 [.int .i64 0, .int .i64 0, .int .i64 0, .int .i64 0, .int .i64 0, .int .i64 0, .int .i64 0, .int .i64 0, .int .i64 0, .int .i64 0, .int .i64 0, .int .i64 0, .int .i64 0, .int .i64 0, .int .i64 0, .int .i64 0, .int .i64 0, .int .i64 0, .int .i64 0, .int .i64 0, .int .i64 0]
  have s_w5_1 := Nat.le_of_eq s_w5
  have s_w5_2 := Nat.le_of_eq s_w5.symm
  clear s_w5
  replace x_r := x_r.from_ h_w5
  replace x_q := x_q.from_ h_w5
  replace x_s3 := x_s3.from_ h_w5
  have B_w5 := B_w4.trans (h_w5.mono B_w4.size)
  go_wp2_with (refine wpl_tstore x_t rfl (tl_one U) (by rw [tl_len, hU]) rfl rfl rfl rfl ?_; intro w6 x_t6 h_w6 s_w6)
  clear x_t
  replace x_r := x_r.chg h_w6 (by omega)
  replace x_q := x_q.chg h_w6 (by omega)
  replace x_s3 := x_s3.chg h_w6 (by omega)
  have B_w6 := Below.chg_ B_w5 h_w6 (by omega) (by omega)
  clear hwa e_w2 e_w5
  replace x_r : Vr w6 (w.heap.size + 1 + 1) 57 (tl (tZ 0)) := x_r
  replace x_q : Vr w6 (w.heap.size + 1 + 1 + 1) 57 (tl (tZ 0)) := x_q
  obtain ⟨wd, hwd⟩ : ∃ x, ({ heap := w6.heap, tape := w6.tape, drawn := w6.drawn + 1, os := w6.os, output := w6.output } : World) = x := ⟨_, rfl⟩
  have hbd : Below w6.heap.size w6 wd := by rw [← hwd]; exact (Below.refl w6.heap.size w6).drew
  replace x_r := x_r.from_ hbd
  replace x_q := x_q.from_ hbd
  replace x_s3 := x_s3.from_ hbd
  replace x_t6 := x_t6.from_ hbd
  have B_wd := B_w6.trans (hbd.mono B_w6.size)
  have s_wd := hbd.size
  have c1 := x_s3.tc hT 0 (by omega)
  have c2 := x_t6.tc hU 0 (by omega)
  obtain ⟨tn, htn⟩ : ∃ x, tg T 0 = x := ⟨_, rfl⟩
  obtain ⟨un, hun⟩ : ∃ x, tg U 0 = x := ⟨_, rfl⟩
  rw [htn] at c1
  rw [hun] at c2
  obtain ⟨qe, hqe⟩ : ∃ b, (tn == un) = b := ⟨_, rfl⟩
  have HP : Hid (pairB r q = (ka && (kb && qe))) := by
    show _ = _
    unfold pairB
    rw [HKA.out, HKB.out]
    cases ka
    · rfl
    cases kb
    · rfl
    rw [← hqe, ← htn, ← hun, HTE.out HKA.out, HUE.out HKB.out, tOf_n, tOf_n]
    rw [Bool.eq_iff_iff]
    simp
    omega
  have HQ2 : Hid (pairB r q = true → T = tOf r ∧ U = tOf q) := fun c => by
    unfold pairB at c
    simp only [Bool.and_eq_true] at c
    exact ⟨HTE.out c.1, HUE.out c.2.1⟩
  have HTN := Lib.hid htn
  have HUN := Lib.hid hun
  have HQE := Lib.hid hqe
  clear htn hun hqe c1 c2
  cases ka <;> cases kb
  case false.false =>
    refine wp_region_held (S := fun w2 => Vr w2 w1.heap.size 57 (tl T) ∧ Vr w2 w4.heap.size 57 (tl U)) (by kernel_rfl) ?_
    rw [hwd]
    refine takeH (i := 0) (v := .agg (tl T).toArray) (d := some 21) rfl rfl (by kernel_rfl) (by kernel_rfl) (by kernel_rfl) (fun _ _ _ h => h) (yieldsIf_tload hT rfl rfl rfl (fun _ h => h.1)) ⟨x_s3, x_t6⟩ ?_
    simp only [Act.put, List.setIfInBounds_toArray, List.set_cons_zero, List.set_cons_succ]
    refine takeH (i := 1) (v := .agg (tl U).toArray) (d := some 22) rfl rfl (by kernel_rfl) (by kernel_rfl) (by kernel_rfl) (fun _ _ _ h => h) (yieldsIf_tload hU rfl rfl rfl (fun _ h => h.2)) ⟨x_s3, x_t6⟩ ?_
    simp only [Act.put, List.setIfInBounds_toArray, List.set_cons_zero, List.set_cons_succ]
    refine takeH (i := 2) (v := ?v2ff) (d := some 23) rfl rfl (by kernel_rfl) (by kernel_rfl) (by kernel_rfl) (fun _ _ _ h => h) (Or.inl ⟨by rfl, ?y2ff⟩) ⟨x_s3, x_t6⟩ ?r2ff
    case y2ff => (intro W hW; go_simp; try (with_reducible rfl))
    simp only [Act.put, List.setIfInBounds_toArray, List.set_cons_zero, List.set_cons_succ]
    refine takeH (i := 3) (v := ?v3ff) (d := some 24) rfl rfl (by kernel_rfl) (by kernel_rfl) (by kernel_rfl) (fun _ _ _ h => h) (Or.inl ⟨by rfl, ?y3ff⟩) ⟨x_s3, x_t6⟩ ?r3ff
    case y3ff => (intro W hW; go_simp; try (with_reducible rfl))
    simp only [Act.put, List.setIfInBounds_toArray, List.set_cons_zero, List.set_cons_succ]
    refine takeH (i := 4) (v := undef) (d := some 25) rfl rfl (by kernel_rfl) (by kernel_rfl) (by kernel_rfl) (fun _ _ _ h => h) (Or.inr ⟨by rfl, rfl⟩) ⟨x_s3, x_t6⟩ ?_
    simp only [Act.put, List.setIfInBounds_toArray, List.set_cons_zero, List.set_cons_succ]
    refine takeH (i := 5) (v := ?v5ff) (d := some 26) rfl rfl (by kernel_rfl) (by kernel_rfl) (by kernel_rfl) (fun _ _ _ h => h) (Or.inl ⟨by rfl, ?y5ff⟩) ⟨x_s3, x_t6⟩ ?r5ff
    case y5ff => (intro W hW; go_simp; try (with_reducible rfl))
    simp only [Act.put, List.setIfInBounds_toArray, List.set_cons_zero, List.set_cons_succ]
    refine takeH (i := 6) (v := ?v6ff) (d := some 27) rfl rfl (by kernel_rfl) (by kernel_rfl) (by kernel_rfl) (fun _ _ _ h => h) (Or.inl ⟨by rfl, ?y6ff⟩) ⟨x_s3, x_t6⟩ ?r6ff
    case y6ff => (intro W hW; go_simp; try (with_reducible rfl))
    simp only [Act.put, List.setIfInBounds_toArray, List.set_cons_zero, List.set_cons_succ]
    refine takeH (i := 7) (v := undef) (d := some 28) rfl rfl (by kernel_rfl) (by kernel_rfl) (by kernel_rfl) (fun _ _ _ h => h) (Or.inr ⟨by rfl, rfl⟩) ⟨x_s3, x_t6⟩ ?_
    simp only [Act.put, List.setIfInBounds_toArray, List.set_cons_zero, List.set_cons_succ]
    refine takeH (i := 8) (v := undef) (d := some 29) rfl rfl (by kernel_rfl) (by kernel_rfl) (by kernel_rfl) (fun _ _ _ h => h) (Or.inr ⟨by rfl, rfl⟩) ⟨x_s3, x_t6⟩ ?_
    simp only [Act.put, List.setIfInBounds_toArray, List.set_cons_zero, List.set_cons_succ]
    refine takeH (i := 9) (v := undef) (d := some 30) rfl rfl (by kernel_rfl) (by kernel_rfl) (by kernel_rfl) (fun _ _ _ h => h) (Or.inr ⟨by rfl, rfl⟩) ⟨x_s3, x_t6⟩ ?_
    simp only [Act.put, List.setIfInBounds_toArray, List.set_cons_zero, List.set_cons_succ]
    refine takeH (i := 10) (v := undef) (d := some 31) rfl rfl (by kernel_rfl) (by kernel_rfl) (by kernel_rfl) (fun _ _ _ h => h) (Or.inr ⟨by rfl, rfl⟩) ⟨x_s3, x_t6⟩ ?_
    simp only [Act.put, List.setIfInBounds_toArray, List.set_cons_zero, List.set_cons_succ]
    refine takeH (i := 11) (v := undef) (d := some 32) rfl rfl (by kernel_rfl) (by kernel_rfl) (by kernel_rfl) (fun _ _ _ h => h) (Or.inr ⟨by rfl, rfl⟩) ⟨x_s3, x_t6⟩ ?_
    simp only [Act.put, List.setIfInBounds_toArray, List.set_cons_zero, List.set_cons_succ]
    refine takeH (i := 12) (v := ?v12ff) (d := some 33) rfl rfl (by kernel_rfl) (by kernel_rfl) (by kernel_rfl) (fun _ _ _ h => h) (Or.inl ⟨by rfl, ?y12ff⟩) ⟨x_s3, x_t6⟩ ?r12ff
    case y12ff => (intro W hW; go_simp; try (with_reducible rfl))
    simp only [Act.put, List.setIfInBounds_toArray, List.set_cons_zero, List.set_cons_succ]
    refine wpAnyH_ready (rs := [13]) (by kernel_rfl) (by simp) ?_
    refine AllReadyH.cons rfl (fun K hK => ?_) AllReadyH.nil
    rw [if_pos (by rfl)]
    refine wp_store_row _ _ _ rfl (w.heap.size + 1 + 1) (tl T).toArray rfl rfl 57 _ x_r (by rw [t57i]; simp [tl_len, hT]) (by simp [tl_len, hT, tZ_len]) (all_one (tl_one T)) ?_
    obtain ⟨w7, hw7⟩ : ∃ x, wd.setRow (w.heap.size + 1 + 1) (tl T).toArray = x := ⟨_, rfl⟩
    have h_w7 : Chg (w.heap.size + 1 + 1) (w.heap.size + 1 + 1 + 1) wd w7 := by rw [← hw7]; exact setRow_chg
    have x_r7 : Vr w7 (w.heap.size + 1 + 1) 57 (tl T) := by rw [← hw7]; unfold Vr at x_r ⊢; exact setRow_heap wd _ _ _ _ _ x_r
    rw [hw7]
    replace x_s3 := x_s3.chg h_w7 (by omega)
    replace x_t6 := x_t6.chg h_w7 (by omega)
    replace x_q := x_q.chg h_w7 (by omega)
    have s_w7 := h_w7.size
    have B_w7 := Below.chg_ B_wd h_w7 (by omega) (by omega)
    refine hK.out _ _ ⟨x_s3, x_t6⟩ (fun _ => ?_)
    clear hK K
    refine wpAnyH_ready (rs := [14]) (by kernel_rfl) (by simp) ?_
    refine AllReadyH.cons rfl (fun K hK => ?_) AllReadyH.nil
    rw [if_pos (by rfl)]
    refine wp_store_row _ _ _ rfl (w.heap.size + 1 + 1 + 1) (tl U).toArray rfl rfl 57 _ x_q (by rw [t57i]; simp [tl_len, hU]) (by simp [tl_len, hU, tZ_len]) (all_one (tl_one U)) ?_
    obtain ⟨w8, hw8⟩ : ∃ x, w7.setRow (w.heap.size + 1 + 1 + 1) (tl U).toArray = x := ⟨_, rfl⟩
    have h_w8 : Chg (w.heap.size + 1 + 1 + 1) (w.heap.size + 1 + 1 + 1 + 1) w7 w8 := by rw [← hw8]; exact setRow_chg
    have x_q8 : Vr w8 (w.heap.size + 1 + 1 + 1) 57 (tl U) := by rw [← hw8]; unfold Vr at x_q ⊢; exact setRow_heap w7 _ _ _ _ _ x_q
    rw [hw8]
    replace x_s3 := x_s3.chg h_w8 (by omega)
    replace x_t6 := x_t6.chg h_w8 (by omega)
    replace x_r7 := x_r7.chg h_w8 (by omega)
    have B_w8 := Below.chg_ B_w7 h_w8 (by omega) (by omega)
    refine hK.out _ _ ⟨x_s3, x_t6⟩ (fun _ => ?_)
    clear hK K
    refine wpAnyH_ready (rs := [15]) (by kernel_rfl) (by simp) ?_
    refine AllReadyH.cons rfl (fun K hK => ?_) AllReadyH.nil
    go_simp
    refine hK.out _ _ ⟨x_s3, x_t6⟩ (fun _ => ?_)
    clear hK K
    refine wpAnyH_done (by kernel_rfl) ?_ _
    go_wp2
    refine ret_cell2_tmp (by rfl) (by rfl) (by rfl) x_r7 x_q8 t57u (t57l _ hT) (t57l _ hU) (by rfl) ?_
    exact ⟨T, U, ret_eq (by rw [HP.out]; rfl), hT, hU, HQ2.out, B_w8⟩
  case false.true =>
    refine wp_region_held (S := fun w2 => Vr w2 w1.heap.size 57 (tl T) ∧ Vr w2 w4.heap.size 57 (tl U)) (by kernel_rfl) ?_
    rw [hwd]
    refine takeH (i := 0) (v := .agg (tl T).toArray) (d := some 21) rfl rfl (by kernel_rfl) (by kernel_rfl) (by kernel_rfl) (fun _ _ _ h => h) (yieldsIf_tload hT rfl rfl rfl (fun _ h => h.1)) ⟨x_s3, x_t6⟩ ?_
    simp only [Act.put, List.setIfInBounds_toArray, List.set_cons_zero, List.set_cons_succ]
    refine takeH (i := 1) (v := .agg (tl U).toArray) (d := some 22) rfl rfl (by kernel_rfl) (by kernel_rfl) (by kernel_rfl) (fun _ _ _ h => h) (yieldsIf_tload hU rfl rfl rfl (fun _ h => h.2)) ⟨x_s3, x_t6⟩ ?_
    simp only [Act.put, List.setIfInBounds_toArray, List.set_cons_zero, List.set_cons_succ]
    refine takeH (i := 2) (v := ?v2ft) (d := some 23) rfl rfl (by kernel_rfl) (by kernel_rfl) (by kernel_rfl) (fun _ _ _ h => h) (Or.inl ⟨by rfl, ?y2ft⟩) ⟨x_s3, x_t6⟩ ?r2ft
    case y2ft => (intro W hW; go_simp; try (with_reducible rfl))
    simp only [Act.put, List.setIfInBounds_toArray, List.set_cons_zero, List.set_cons_succ]
    refine takeH (i := 3) (v := ?v3ft) (d := some 24) rfl rfl (by kernel_rfl) (by kernel_rfl) (by kernel_rfl) (fun _ _ _ h => h) (Or.inl ⟨by rfl, ?y3ft⟩) ⟨x_s3, x_t6⟩ ?r3ft
    case y3ft => (intro W hW; go_simp; try (with_reducible rfl))
    simp only [Act.put, List.setIfInBounds_toArray, List.set_cons_zero, List.set_cons_succ]
    refine takeH (i := 4) (v := undef) (d := some 25) rfl rfl (by kernel_rfl) (by kernel_rfl) (by kernel_rfl) (fun _ _ _ h => h) (Or.inr ⟨by rfl, rfl⟩) ⟨x_s3, x_t6⟩ ?_
    simp only [Act.put, List.setIfInBounds_toArray, List.set_cons_zero, List.set_cons_succ]
    refine takeH (i := 5) (v := ?v5ft) (d := some 26) rfl rfl (by kernel_rfl) (by kernel_rfl) (by kernel_rfl) (fun _ _ _ h => h) (Or.inl ⟨by rfl, ?y5ft⟩) ⟨x_s3, x_t6⟩ ?r5ft
    case y5ft => (intro W hW; go_simp; try (with_reducible rfl))
    simp only [Act.put, List.setIfInBounds_toArray, List.set_cons_zero, List.set_cons_succ]
    refine takeH (i := 6) (v := ?v6ft) (d := some 27) rfl rfl (by kernel_rfl) (by kernel_rfl) (by kernel_rfl) (fun _ _ _ h => h) (Or.inl ⟨by rfl, ?y6ft⟩) ⟨x_s3, x_t6⟩ ?r6ft
    case y6ft => (intro W hW; go_simp; try (with_reducible rfl))
    simp only [Act.put, List.setIfInBounds_toArray, List.set_cons_zero, List.set_cons_succ]
    refine takeH (i := 7) (v := undef) (d := some 28) rfl rfl (by kernel_rfl) (by kernel_rfl) (by kernel_rfl) (fun _ _ _ h => h) (Or.inr ⟨by rfl, rfl⟩) ⟨x_s3, x_t6⟩ ?_
    simp only [Act.put, List.setIfInBounds_toArray, List.set_cons_zero, List.set_cons_succ]
    refine takeH (i := 8) (v := undef) (d := some 29) rfl rfl (by kernel_rfl) (by kernel_rfl) (by kernel_rfl) (fun _ _ _ h => h) (Or.inr ⟨by rfl, rfl⟩) ⟨x_s3, x_t6⟩ ?_
    simp only [Act.put, List.setIfInBounds_toArray, List.set_cons_zero, List.set_cons_succ]
    refine takeH (i := 9) (v := undef) (d := some 30) rfl rfl (by kernel_rfl) (by kernel_rfl) (by kernel_rfl) (fun _ _ _ h => h) (Or.inr ⟨by rfl, rfl⟩) ⟨x_s3, x_t6⟩ ?_
    simp only [Act.put, List.setIfInBounds_toArray, List.set_cons_zero, List.set_cons_succ]
    refine takeH (i := 10) (v := undef) (d := some 31) rfl rfl (by kernel_rfl) (by kernel_rfl) (by kernel_rfl) (fun _ _ _ h => h) (Or.inr ⟨by rfl, rfl⟩) ⟨x_s3, x_t6⟩ ?_
    simp only [Act.put, List.setIfInBounds_toArray, List.set_cons_zero, List.set_cons_succ]
    refine takeH (i := 11) (v := undef) (d := some 32) rfl rfl (by kernel_rfl) (by kernel_rfl) (by kernel_rfl) (fun _ _ _ h => h) (Or.inr ⟨by rfl, rfl⟩) ⟨x_s3, x_t6⟩ ?_
    simp only [Act.put, List.setIfInBounds_toArray, List.set_cons_zero, List.set_cons_succ]
    refine takeH (i := 12) (v := ?v12ft) (d := some 33) rfl rfl (by kernel_rfl) (by kernel_rfl) (by kernel_rfl) (fun _ _ _ h => h) (Or.inl ⟨by rfl, ?y12ft⟩) ⟨x_s3, x_t6⟩ ?r12ft
    case y12ft => (intro W hW; go_simp; try (with_reducible rfl))
    simp only [Act.put, List.setIfInBounds_toArray, List.set_cons_zero, List.set_cons_succ]
    refine wpAnyH_ready (rs := [13]) (by kernel_rfl) (by simp) ?_
    refine AllReadyH.cons rfl (fun K hK => ?_) AllReadyH.nil
    rw [if_pos (by rfl)]
    refine wp_store_row _ _ _ rfl (w.heap.size + 1 + 1) (tl T).toArray rfl rfl 57 _ x_r (by rw [t57i]; simp [tl_len, hT]) (by simp [tl_len, hT, tZ_len]) (all_one (tl_one T)) ?_
    obtain ⟨w7, hw7⟩ : ∃ x, wd.setRow (w.heap.size + 1 + 1) (tl T).toArray = x := ⟨_, rfl⟩
    have h_w7 : Chg (w.heap.size + 1 + 1) (w.heap.size + 1 + 1 + 1) wd w7 := by rw [← hw7]; exact setRow_chg
    have x_r7 : Vr w7 (w.heap.size + 1 + 1) 57 (tl T) := by rw [← hw7]; unfold Vr at x_r ⊢; exact setRow_heap wd _ _ _ _ _ x_r
    rw [hw7]
    replace x_s3 := x_s3.chg h_w7 (by omega)
    replace x_t6 := x_t6.chg h_w7 (by omega)
    replace x_q := x_q.chg h_w7 (by omega)
    have s_w7 := h_w7.size
    have B_w7 := Below.chg_ B_wd h_w7 (by omega) (by omega)
    refine hK.out _ _ ⟨x_s3, x_t6⟩ (fun _ => ?_)
    clear hK K
    refine wpAnyH_ready (rs := [14]) (by kernel_rfl) (by simp) ?_
    refine AllReadyH.cons rfl (fun K hK => ?_) AllReadyH.nil
    rw [if_pos (by rfl)]
    refine wp_store_row _ _ _ rfl (w.heap.size + 1 + 1 + 1) (tl U).toArray rfl rfl 57 _ x_q (by rw [t57i]; simp [tl_len, hU]) (by simp [tl_len, hU, tZ_len]) (all_one (tl_one U)) ?_
    obtain ⟨w8, hw8⟩ : ∃ x, w7.setRow (w.heap.size + 1 + 1 + 1) (tl U).toArray = x := ⟨_, rfl⟩
    have h_w8 : Chg (w.heap.size + 1 + 1 + 1) (w.heap.size + 1 + 1 + 1 + 1) w7 w8 := by rw [← hw8]; exact setRow_chg
    have x_q8 : Vr w8 (w.heap.size + 1 + 1 + 1) 57 (tl U) := by rw [← hw8]; unfold Vr at x_q ⊢; exact setRow_heap w7 _ _ _ _ _ x_q
    rw [hw8]
    replace x_s3 := x_s3.chg h_w8 (by omega)
    replace x_t6 := x_t6.chg h_w8 (by omega)
    replace x_r7 := x_r7.chg h_w8 (by omega)
    have B_w8 := Below.chg_ B_w7 h_w8 (by omega) (by omega)
    refine hK.out _ _ ⟨x_s3, x_t6⟩ (fun _ => ?_)
    clear hK K
    refine wpAnyH_ready (rs := [15]) (by kernel_rfl) (by simp) ?_
    refine AllReadyH.cons rfl (fun K hK => ?_) AllReadyH.nil
    go_simp
    refine hK.out _ _ ⟨x_s3, x_t6⟩ (fun _ => ?_)
    clear hK K
    refine wpAnyH_done (by kernel_rfl) ?_ _
    go_wp2
    refine ret_cell2_tmp (by rfl) (by rfl) (by rfl) x_r7 x_q8 t57u (t57l _ hT) (t57l _ hU) (by rfl) ?_
    exact ⟨T, U, ret_eq (by rw [HP.out]; rfl), hT, hU, HQ2.out, B_w8⟩
  case true.false =>
    refine wp_region_held (S := fun w2 => Vr w2 w1.heap.size 57 (tl T) ∧ Vr w2 w4.heap.size 57 (tl U)) (by kernel_rfl) ?_
    rw [hwd]
    refine takeH (i := 0) (v := .agg (tl T).toArray) (d := some 21) rfl rfl (by kernel_rfl) (by kernel_rfl) (by kernel_rfl) (fun _ _ _ h => h) (yieldsIf_tload hT rfl rfl rfl (fun _ h => h.1)) ⟨x_s3, x_t6⟩ ?_
    simp only [Act.put, List.setIfInBounds_toArray, List.set_cons_zero, List.set_cons_succ]
    refine takeH (i := 1) (v := .agg (tl U).toArray) (d := some 22) rfl rfl (by kernel_rfl) (by kernel_rfl) (by kernel_rfl) (fun _ _ _ h => h) (yieldsIf_tload hU rfl rfl rfl (fun _ h => h.2)) ⟨x_s3, x_t6⟩ ?_
    simp only [Act.put, List.setIfInBounds_toArray, List.set_cons_zero, List.set_cons_succ]
    refine takeH (i := 2) (v := ?v2tf) (d := some 23) rfl rfl (by kernel_rfl) (by kernel_rfl) (by kernel_rfl) (fun _ _ _ h => h) (Or.inl ⟨by rfl, ?y2tf⟩) ⟨x_s3, x_t6⟩ ?r2tf
    case y2tf => (intro W hW; go_simp; try (with_reducible rfl))
    simp only [Act.put, List.setIfInBounds_toArray, List.set_cons_zero, List.set_cons_succ]
    refine takeH (i := 3) (v := ?v3tf) (d := some 24) rfl rfl (by kernel_rfl) (by kernel_rfl) (by kernel_rfl) (fun _ _ _ h => h) (Or.inl ⟨by rfl, ?y3tf⟩) ⟨x_s3, x_t6⟩ ?r3tf
    case y3tf => (intro W hW; go_simp; try (with_reducible rfl))
    simp only [Act.put, List.setIfInBounds_toArray, List.set_cons_zero, List.set_cons_succ]
    refine takeH (i := 4) (v := ?v4tf) (d := some 25) rfl rfl (by kernel_rfl) (by kernel_rfl) (by kernel_rfl) (fun _ _ _ h => h) (Or.inl ⟨by rfl, ?y4tf⟩) ⟨x_s3, x_t6⟩ ?r4tf
    case y4tf => (intro W hW; go_simp; try (with_reducible rfl))
    simp only [Act.put, List.setIfInBounds_toArray, List.set_cons_zero, List.set_cons_succ]
    refine takeH (i := 5) (v := ?v5tf) (d := some 26) rfl rfl (by kernel_rfl) (by kernel_rfl) (by kernel_rfl) (fun _ _ _ h => h) (Or.inl ⟨by rfl, ?y5tf⟩) ⟨x_s3, x_t6⟩ ?r5tf
    case y5tf => (intro W hW; go_simp; try (with_reducible rfl))
    simp only [Act.put, List.setIfInBounds_toArray, List.set_cons_zero, List.set_cons_succ]
    refine takeH (i := 6) (v := ?v6tf) (d := some 27) rfl rfl (by kernel_rfl) (by kernel_rfl) (by kernel_rfl) (fun _ _ _ h => h) (Or.inl ⟨by rfl, ?y6tf⟩) ⟨x_s3, x_t6⟩ ?r6tf
    case y6tf => (intro W hW; go_simp; try (with_reducible rfl))
    simp only [Act.put, List.setIfInBounds_toArray, List.set_cons_zero, List.set_cons_succ]
    refine takeH (i := 7) (v := undef) (d := some 28) rfl rfl (by kernel_rfl) (by kernel_rfl) (by kernel_rfl) (fun _ _ _ h => h) (Or.inr ⟨by rfl, rfl⟩) ⟨x_s3, x_t6⟩ ?_
    simp only [Act.put, List.setIfInBounds_toArray, List.set_cons_zero, List.set_cons_succ]
    refine takeH (i := 8) (v := undef) (d := some 29) rfl rfl (by kernel_rfl) (by kernel_rfl) (by kernel_rfl) (fun _ _ _ h => h) (Or.inr ⟨by rfl, rfl⟩) ⟨x_s3, x_t6⟩ ?_
    simp only [Act.put, List.setIfInBounds_toArray, List.set_cons_zero, List.set_cons_succ]
    refine takeH (i := 9) (v := undef) (d := some 30) rfl rfl (by kernel_rfl) (by kernel_rfl) (by kernel_rfl) (fun _ _ _ h => h) (Or.inr ⟨by rfl, rfl⟩) ⟨x_s3, x_t6⟩ ?_
    simp only [Act.put, List.setIfInBounds_toArray, List.set_cons_zero, List.set_cons_succ]
    refine takeH (i := 10) (v := undef) (d := some 31) rfl rfl (by kernel_rfl) (by kernel_rfl) (by kernel_rfl) (fun _ _ _ h => h) (Or.inr ⟨by rfl, rfl⟩) ⟨x_s3, x_t6⟩ ?_
    simp only [Act.put, List.setIfInBounds_toArray, List.set_cons_zero, List.set_cons_succ]
    refine takeH (i := 11) (v := undef) (d := some 32) rfl rfl (by kernel_rfl) (by kernel_rfl) (by kernel_rfl) (fun _ _ _ h => h) (Or.inr ⟨by rfl, rfl⟩) ⟨x_s3, x_t6⟩ ?_
    simp only [Act.put, List.setIfInBounds_toArray, List.set_cons_zero, List.set_cons_succ]
    refine takeH (i := 12) (v := ?v12tf) (d := some 33) rfl rfl (by kernel_rfl) (by kernel_rfl) (by kernel_rfl) (fun _ _ _ h => h) (Or.inl ⟨by rfl, ?y12tf⟩) ⟨x_s3, x_t6⟩ ?r12tf
    case y12tf => (intro W hW; go_simp; try (with_reducible rfl))
    simp only [Act.put, List.setIfInBounds_toArray, List.set_cons_zero, List.set_cons_succ]
    refine wpAnyH_ready (rs := [13]) (by kernel_rfl) (by simp) ?_
    refine AllReadyH.cons rfl (fun K hK => ?_) AllReadyH.nil
    rw [if_pos (by rfl)]
    refine wp_store_row _ _ _ rfl (w.heap.size + 1 + 1) (tl T).toArray rfl rfl 57 _ x_r (by rw [t57i]; simp [tl_len, hT]) (by simp [tl_len, hT, tZ_len]) (all_one (tl_one T)) ?_
    obtain ⟨w7, hw7⟩ : ∃ x, wd.setRow (w.heap.size + 1 + 1) (tl T).toArray = x := ⟨_, rfl⟩
    have h_w7 : Chg (w.heap.size + 1 + 1) (w.heap.size + 1 + 1 + 1) wd w7 := by rw [← hw7]; exact setRow_chg
    have x_r7 : Vr w7 (w.heap.size + 1 + 1) 57 (tl T) := by rw [← hw7]; unfold Vr at x_r ⊢; exact setRow_heap wd _ _ _ _ _ x_r
    rw [hw7]
    replace x_s3 := x_s3.chg h_w7 (by omega)
    replace x_t6 := x_t6.chg h_w7 (by omega)
    replace x_q := x_q.chg h_w7 (by omega)
    have s_w7 := h_w7.size
    have B_w7 := Below.chg_ B_wd h_w7 (by omega) (by omega)
    refine hK.out _ _ ⟨x_s3, x_t6⟩ (fun _ => ?_)
    clear hK K
    refine wpAnyH_ready (rs := [14]) (by kernel_rfl) (by simp) ?_
    refine AllReadyH.cons rfl (fun K hK => ?_) AllReadyH.nil
    rw [if_pos (by rfl)]
    refine wp_store_row _ _ _ rfl (w.heap.size + 1 + 1 + 1) (tl U).toArray rfl rfl 57 _ x_q (by rw [t57i]; simp [tl_len, hU]) (by simp [tl_len, hU, tZ_len]) (all_one (tl_one U)) ?_
    obtain ⟨w8, hw8⟩ : ∃ x, w7.setRow (w.heap.size + 1 + 1 + 1) (tl U).toArray = x := ⟨_, rfl⟩
    have h_w8 : Chg (w.heap.size + 1 + 1 + 1) (w.heap.size + 1 + 1 + 1 + 1) w7 w8 := by rw [← hw8]; exact setRow_chg
    have x_q8 : Vr w8 (w.heap.size + 1 + 1 + 1) 57 (tl U) := by rw [← hw8]; unfold Vr at x_q ⊢; exact setRow_heap w7 _ _ _ _ _ x_q
    rw [hw8]
    replace x_s3 := x_s3.chg h_w8 (by omega)
    replace x_t6 := x_t6.chg h_w8 (by omega)
    replace x_r7 := x_r7.chg h_w8 (by omega)
    have B_w8 := Below.chg_ B_w7 h_w8 (by omega) (by omega)
    refine hK.out _ _ ⟨x_s3, x_t6⟩ (fun _ => ?_)
    clear hK K
    refine wpAnyH_ready (rs := [15]) (by kernel_rfl) (by simp) ?_
    refine AllReadyH.cons rfl (fun K hK => ?_) AllReadyH.nil
    go_simp
    refine hK.out _ _ ⟨x_s3, x_t6⟩ (fun _ => ?_)
    clear hK K
    refine wpAnyH_done (by kernel_rfl) ?_ _
    go_wp2
    refine ret_cell2_tmp (by rfl) (by rfl) (by rfl) x_r7 x_q8 t57u (t57l _ hT) (t57l _ hU) (by rfl) ?_
    exact ⟨T, U, ret_eq (by rw [HP.out]; rfl), hT, hU, HQ2.out, B_w8⟩
  case true.true =>
    refine wp_region_held (S := fun w2 => Vr w2 w1.heap.size 57 (tl T) ∧ Vr w2 w4.heap.size 57 (tl U)) (by kernel_rfl) ?_
    rw [hwd]
    refine takeH (i := 0) (v := .agg (tl T).toArray) (d := some 21) rfl rfl (by kernel_rfl) (by kernel_rfl) (by kernel_rfl) (fun _ _ _ h => h) (yieldsIf_tload hT rfl rfl rfl (fun _ h => h.1)) ⟨x_s3, x_t6⟩ ?_
    simp only [Act.put, List.setIfInBounds_toArray, List.set_cons_zero, List.set_cons_succ]
    refine takeH (i := 1) (v := .agg (tl U).toArray) (d := some 22) rfl rfl (by kernel_rfl) (by kernel_rfl) (by kernel_rfl) (fun _ _ _ h => h) (yieldsIf_tload hU rfl rfl rfl (fun _ h => h.2)) ⟨x_s3, x_t6⟩ ?_
    simp only [Act.put, List.setIfInBounds_toArray, List.set_cons_zero, List.set_cons_succ]
    refine takeH (i := 2) (v := ?v2tt) (d := some 23) rfl rfl (by kernel_rfl) (by kernel_rfl) (by kernel_rfl) (fun _ _ _ h => h) (Or.inl ⟨by rfl, ?y2tt⟩) ⟨x_s3, x_t6⟩ ?r2tt
    case y2tt => (intro W hW; go_simp; try (with_reducible rfl))
    simp only [Act.put, List.setIfInBounds_toArray, List.set_cons_zero, List.set_cons_succ]
    refine takeH (i := 3) (v := ?v3tt) (d := some 24) rfl rfl (by kernel_rfl) (by kernel_rfl) (by kernel_rfl) (fun _ _ _ h => h) (Or.inl ⟨by rfl, ?y3tt⟩) ⟨x_s3, x_t6⟩ ?r3tt
    case y3tt => (intro W hW; go_simp; try (with_reducible rfl))
    simp only [Act.put, List.setIfInBounds_toArray, List.set_cons_zero, List.set_cons_succ]
    refine takeH (i := 4) (v := ?v4tt) (d := some 25) rfl rfl (by kernel_rfl) (by kernel_rfl) (by kernel_rfl) (fun _ _ _ h => h) (Or.inl ⟨by rfl, ?y4tt⟩) ⟨x_s3, x_t6⟩ ?r4tt
    case y4tt => (intro W hW; go_simp; try (with_reducible rfl))
    simp only [Act.put, List.setIfInBounds_toArray, List.set_cons_zero, List.set_cons_succ]
    refine takeH (i := 5) (v := ?v5tt) (d := some 26) rfl rfl (by kernel_rfl) (by kernel_rfl) (by kernel_rfl) (fun _ _ _ h => h) (Or.inl ⟨by rfl, ?y5tt⟩) ⟨x_s3, x_t6⟩ ?r5tt
    case y5tt => (intro W hW; go_simp; try (with_reducible rfl))
    simp only [Act.put, List.setIfInBounds_toArray, List.set_cons_zero, List.set_cons_succ]
    refine takeH (i := 6) (v := ?v6tt) (d := some 27) rfl rfl (by kernel_rfl) (by kernel_rfl) (by kernel_rfl) (fun _ _ _ h => h) (Or.inl ⟨by rfl, ?y6tt⟩) ⟨x_s3, x_t6⟩ ?r6tt
    case y6tt => (intro W hW; go_simp; try (with_reducible rfl))
    simp only [Act.put, List.setIfInBounds_toArray, List.set_cons_zero, List.set_cons_succ]
    refine takeH (i := 7) (v := ?v7tt) (d := some 28) rfl rfl (by kernel_rfl) (by kernel_rfl) (by kernel_rfl) (fun _ _ _ h => h) (Or.inl ⟨by rfl, ?y7tt⟩) ⟨x_s3, x_t6⟩ ?r7tt
    case y7tt => (intro W hW; go_simp; try (with_reducible rfl))
    simp only [Act.put, List.setIfInBounds_toArray, List.set_cons_zero, List.set_cons_succ]
    refine takeH (i := 8) (v := ?v8tt) (d := some 29) rfl rfl (by kernel_rfl) (by kernel_rfl) (by kernel_rfl) (fun _ _ _ h => h) (Or.inl ⟨by rfl, ?y8tt⟩) ⟨x_s3, x_t6⟩ ?r8tt
    case y8tt => (intro W hW; have c1 := hW.1.tc hT 0 (by omega); rw [HTN.out] at c1; go_simp; try (with_reducible rfl))
    simp only [Act.put, List.setIfInBounds_toArray, List.set_cons_zero, List.set_cons_succ]
    refine takeH (i := 9) (v := ?v9tt) (d := some 30) rfl rfl (by kernel_rfl) (by kernel_rfl) (by kernel_rfl) (fun _ _ _ h => h) (Or.inl ⟨by rfl, ?y9tt⟩) ⟨x_s3, x_t6⟩ ?r9tt
    case y9tt => (intro W hW; go_simp; try (with_reducible rfl))
    simp only [Act.put, List.setIfInBounds_toArray, List.set_cons_zero, List.set_cons_succ]
    refine takeH (i := 10) (v := ?v10tt) (d := some 31) rfl rfl (by kernel_rfl) (by kernel_rfl) (by kernel_rfl) (fun _ _ _ h => h) (Or.inl ⟨by rfl, ?y10tt⟩) ⟨x_s3, x_t6⟩ ?r10tt
    case y10tt => (intro W hW; have c2 := hW.2.tc hU 0 (by omega); rw [HUN.out] at c2; go_simp; try (with_reducible rfl))
    simp only [Act.put, List.setIfInBounds_toArray, List.set_cons_zero, List.set_cons_succ]
    refine takeH (i := 11) (v := ?v11tt) (d := some 32) rfl rfl (by kernel_rfl) (by kernel_rfl) (by kernel_rfl) (fun _ _ _ h => h) (Or.inl ⟨by rfl, ?y11tt⟩) ⟨x_s3, x_t6⟩ ?r11tt
    case y11tt => (intro W hW; have e := HQE.out; go_simp; try (with_reducible rfl))
    simp only [Act.put, List.setIfInBounds_toArray, List.set_cons_zero, List.set_cons_succ]
    refine takeH (i := 12) (v := ?v12tt) (d := some 33) rfl rfl (by kernel_rfl) (by kernel_rfl) (by kernel_rfl) (fun _ _ _ h => h) (Or.inl ⟨by rfl, ?y12tt⟩) ⟨x_s3, x_t6⟩ ?r12tt
    case y12tt => (intro W hW; go_simp; try (with_reducible rfl))
    simp only [Act.put, List.setIfInBounds_toArray, List.set_cons_zero, List.set_cons_succ]
    refine wpAnyH_ready (rs := [13]) (by kernel_rfl) (by simp) ?_
    refine AllReadyH.cons rfl (fun K hK => ?_) AllReadyH.nil
    rw [if_pos (by rfl)]
    refine wp_store_row _ _ _ rfl (w.heap.size + 1 + 1) (tl T).toArray rfl rfl 57 _ x_r (by rw [t57i]; simp [tl_len, hT]) (by simp [tl_len, hT, tZ_len]) (all_one (tl_one T)) ?_
    obtain ⟨w7, hw7⟩ : ∃ x, wd.setRow (w.heap.size + 1 + 1) (tl T).toArray = x := ⟨_, rfl⟩
    have h_w7 : Chg (w.heap.size + 1 + 1) (w.heap.size + 1 + 1 + 1) wd w7 := by rw [← hw7]; exact setRow_chg
    have x_r7 : Vr w7 (w.heap.size + 1 + 1) 57 (tl T) := by rw [← hw7]; unfold Vr at x_r ⊢; exact setRow_heap wd _ _ _ _ _ x_r
    rw [hw7]
    replace x_s3 := x_s3.chg h_w7 (by omega)
    replace x_t6 := x_t6.chg h_w7 (by omega)
    replace x_q := x_q.chg h_w7 (by omega)
    have s_w7 := h_w7.size
    have B_w7 := Below.chg_ B_wd h_w7 (by omega) (by omega)
    refine hK.out _ _ ⟨x_s3, x_t6⟩ (fun _ => ?_)
    clear hK K
    refine wpAnyH_ready (rs := [14]) (by kernel_rfl) (by simp) ?_
    refine AllReadyH.cons rfl (fun K hK => ?_) AllReadyH.nil
    rw [if_pos (by rfl)]
    refine wp_store_row _ _ _ rfl (w.heap.size + 1 + 1 + 1) (tl U).toArray rfl rfl 57 _ x_q (by rw [t57i]; simp [tl_len, hU]) (by simp [tl_len, hU, tZ_len]) (all_one (tl_one U)) ?_
    obtain ⟨w8, hw8⟩ : ∃ x, w7.setRow (w.heap.size + 1 + 1 + 1) (tl U).toArray = x := ⟨_, rfl⟩
    have h_w8 : Chg (w.heap.size + 1 + 1 + 1) (w.heap.size + 1 + 1 + 1 + 1) w7 w8 := by rw [← hw8]; exact setRow_chg
    have x_q8 : Vr w8 (w.heap.size + 1 + 1 + 1) 57 (tl U) := by rw [← hw8]; unfold Vr at x_q ⊢; exact setRow_heap w7 _ _ _ _ _ x_q
    rw [hw8]
    replace x_s3 := x_s3.chg h_w8 (by omega)
    replace x_t6 := x_t6.chg h_w8 (by omega)
    replace x_r7 := x_r7.chg h_w8 (by omega)
    have B_w8 := Below.chg_ B_w7 h_w8 (by omega) (by omega)
    refine hK.out _ _ ⟨x_s3, x_t6⟩ (fun _ => ?_)
    clear hK K
    refine wpAnyH_ready (rs := [15]) (by kernel_rfl) (by simp) ?_
    refine AllReadyH.cons rfl (fun K hK => ?_) AllReadyH.nil
    go_simp
    refine hK.out _ _ ⟨x_s3, x_t6⟩ (fun _ => ?_)
    clear hK K
    refine wpAnyH_done (by kernel_rfl) ?_ _
    go_wp2
    refine ret_cell2_tmp (by rfl) (by rfl) (by rfl) x_r7 x_q8 t57u (t57l _ hT) (t57l _ hU) (by rfl) ?_
    exact ⟨T, U, ret_eq (by rw [HP.out]; rfl), hT, hU, HQ2.out, B_w8⟩

end Go.Proofs.Ytmbipgnecjlicaa
