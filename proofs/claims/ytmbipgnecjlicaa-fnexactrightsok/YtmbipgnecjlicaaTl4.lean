/- impl.tallyOf: the counters laid into arrays, row by row. Laid by a program of ours (src/tl4.py). -/
import Derived.Test.YtmbipgnecjlicaaTl3
import Derived.Deep.RegionHeld3
namespace Go.Proofs.Ytmbipgnecjlicaa
open Go.RowKit
set_option linter.unusedVariables false

def tZ (n : Int) : List Int := [n, 0, 0, 0, 0, 0, 0, 0, 0, 0, 0, 0, 0, 0, 0, 0, 0, 0, 0, 0, 0]
theorem tZ_len (n : Int) : (tZ n).length = 21 := rfl
theorem tZ_get (n : Int) {k : Nat} (h : 0 < k) (hk : k < 21) : tg (tZ n) k = 0 := by
  rcases places k hk with rfl | ⟨i, j, hi, hj, rfl⟩ | ⟨i, hi, rfl⟩
  · omega
  · rcases i with _ | _ | _ | _ | i <;> rcases j with _ | _ | _ | _ | j <;> first | rfl | omega
  · rcases i with _ | _ | _ | _ | i <;> first | rfl | omega

/-- what stands when the rows below k are laid -/
def LaidAt (r : MRights) (T : List Int) (k : Nat) : Prop := T.length = 21 ∧ tg T 0 = (r.Give.length : Int) ∧ (∀ i j, i < 4 → j < 4 → tg T (1 + i * 4 + j) = if i < k then g2 r.Give i j else 0) ∧ (∀ i, i < 4 → tg T (17 + i) = s1 r.Spent i) ∧ ∀ i Q, i < k → r.Give[i]? = some Q → Q.length = r.Give.length
theorem laid_start {r : MRights} (hl : r.Spent.length = r.Give.length) (hn : r.Give.length ≤ 4) : LaidAt r (splice (tZ (r.Give.length : Int)) 17 r.Spent) 0 := by
  have hf : 17 + r.Spent.length ≤ (tZ (r.Give.length : Int)).length := by rw [tZ_len]; omega
  refine ⟨length_splice _ _ _ hf, ?_, fun i j hi hj => ?_, fun i hi => ?_, fun i Q hi _ => by omega⟩
  · rw [tg_splice hf, if_neg (by omega)]; rfl
  · rw [tg_splice hf, if_neg (by omega), if_neg (by omega), tZ_get _ (by omega) (by omega)]
  · rw [tg_splice hf]
    by_cases c : i < r.Spent.length
    · rw [if_pos (by omega)]
      unfold tg s1
      congr 1
      omega
    · rw [if_neg (by omega), tZ_get _ (by omega) (by omega)]
      unfold s1
      rw [List.getD_eq_getElem?_getD, List.getElem?_eq_none (by omega)]
      rfl
theorem laid_next {r : MRights} {T K : List Int} {k : Nat} (h : LaidAt r T k) (hK : r.Give[k]? = some K) (hl : K.length = r.Give.length) (hn : r.Give.length ≤ 4) (hk : k < r.Give.length) : LaidAt r (splice T (1 + k * 4) K) (k + 1) := by
  obtain ⟨h0, h1, h2, h3, h4⟩ := h
  have hf : 1 + k * 4 + K.length ≤ T.length := by omega
  refine ⟨by rw [length_splice _ _ _ hf, h0], ?_, fun i j hi hj => ?_, fun i hi => ?_, fun i Q hi hQ => ?_⟩
  · rw [tg_splice hf, if_neg (by omega), h1]
  · rw [tg_splice hf]
    by_cases e : i = k
    · subst e
      rw [if_pos (show i < i + 1 by omega)]
      by_cases c : j < K.length
      · rw [if_pos (by omega), g2_of hK]
        unfold tg
        congr 1
        omega
      · rw [if_neg (by omega), h2 i j hi hj, if_neg (by omega), g2_of hK, List.getD_eq_getElem?_getD, List.getElem?_eq_none (by omega)]
        rfl
    · rw [if_neg (by omega), h2 i j hi hj]
      by_cases c : i < k
      · rw [if_pos c, if_pos (by omega)]
      · rw [if_neg c, if_neg (by omega)]
  · rw [tg_splice hf, if_neg (by omega), h3 i hi]
  · by_cases e : i = k
    · subst e
      rw [hK] at hQ
      obtain rfl : K = Q := by simpa using hQ
      exact hl
    · exact h4 i Q (by omega) hQ
theorem laid_shp {r : MRights} {T : List Int} (h : LaidAt r T r.Give.length) (hl : r.Spent.length = r.Give.length) : Shp r.Give.length r :=
  ⟨rfl, hl, fun i Q hQ => h.2.2.2.2 i Q (getElem?_lt hQ) hQ⟩
theorem laid_end {r : MRights} {T : List Int} (h : LaidAt r T r.Give.length) (hl : r.Spent.length = r.Give.length) : T = tOf r := by
  have hS := laid_shp h hl
  obtain ⟨h0, h1, h2, h3, h4⟩ := h
  refine is_tOf h0 h1 (fun i j hi hj => ?_) h3
  rw [h2 i j hi hj]
  by_cases c : i < r.Give.length
  · rw [if_pos c]
  · rw [if_neg c, g2_out hS (.inl (by omega))]
theorem ok_row_bad {r : MRights} {k : Nat} {Q : List Int} (hQ : r.Give[k]? = some Q) (h : Q.length ≠ r.Give.length) : rightsOkB r = false := by
  unfold rightsOkB
  rw [form_row_bad hQ (by unfold rowB; rw [decide_eq_false h]; rfl)]
  rfl
theorem ok_shape {r : MRights} (h : ¬ (1 ≤ r.Give.length ∧ r.Give.length ≤ 4 ∧ r.Spent.length = r.Give.length)) : rightsOkB r = false := by
  unfold rightsOkB
  rw [form_shape h]
  rfl
def TallyR (r : MRights) (w : World) : Ending → World → Prop := fun e w' => ∃ T, e = .returned (.tuple #[.agg (tl T).toArray, .bool (rightsOkB r)]) ∧ T.length = 21 ∧ (rightsOkB r = true → T = tOf r) ∧ Below w.heap.size w w'
theorem t57l (T : List Int) (h : T.length = 21) : (Try.prog.info? 57).map (·.size) = some (tl T).length := by rw [t57i, tl_len, h]

set_option maxRecDepth 100000 in
set_option maxHeartbeats 4000000 in
theorem iTallyOf_c {w : World} {v : Value} {r : MRights} (h : RV rightsL w v r) : Calls Try.prog 45 #[v] w (TallyR r w) := by
  obtain ⟨AG, cG, AS, cS, rfl, hrG, hrS, lG, lS⟩ := rv_rights2 h
  clear h
  unfold maxLen at lG lS
  obtain ⟨wa, hwa, B0, sa, x_a, x_r⟩ := frame2 w 27 [.slice AG r.Give.length cG, .slice AS r.Spent.length cS] 57 [.int .i64 0, .int .i64 0, .int .i64 0, .int .i64 0, .int .i64 0, .int .i64 0, .int .i64 0, .int .i64 0, .int .i64 0, .int .i64 0, .int .i64 0, .int .i64 0, .int .i64 0, .int .i64 0, .int .i64 0, .int .i64 0, .int .i64 0, .int .i64 0, .int .i64 0, .int .i64 0, .int .i64 0]
  have sa_1 := Nat.le_of_eq sa
  have sa_2 := Nat.le_of_eq sa.symm
  clear sa
  replace x_r : Vr wa (w.heap.size + 1) 57 (tl (tZ 0)) := x_r
  have c_a_0_wa := x_a.cell (i := 0) rfl
  have c_a_1_wa := x_a.cell (i := 1) rfl
  by_cases hn : 1 ≤ r.Give.length ∧ r.Give.length ≤ 4
  case neg =>
    have HO : Hid (rightsOkB r = false) := ok_shape (fun c => hn ⟨c.1, c.2.1⟩)
    have HI : Hid (inB (r.Give.length : Int) 1 4 = false) := inB_false.2 (by omega)
    go_enter Try.func45, Try.ntmps45
    go_wp2_with fail
    refine (iCount_any _ _).mono ?_
    rintro e w' ⟨rfl, rfl⟩
    rw [HI.out]
    go_wp2_with (refine wpl_tstore x_r (by rw [tl_len, tZ_len]) (tl_one (tZ 0)) (by rw [tl_len, tZ_len]) rfl rfl rfl rfl ?_; intro wz x_z h_z s_z)
    have B_z := Below.chg_ B0 h_z (by omega) (by omega)
    refine ret_cell_tmp (by rfl) (by rfl) x_z t57u (t57l _ rfl) (by rfl) ?_
    exact ⟨tZ 0, ret_eq (by rw [HO.out]; rfl), rfl, (fun c => absurd c (by rw [HO.out]; decide)), B_z⟩
  have HI : Hid (inB (r.Give.length : Int) 1 4 = true) := inB_true.2 (by omega)
  by_cases hs : r.Spent.length = r.Give.length
  case neg =>
    have HO : Hid (rightsOkB r = false) := ok_shape (fun c => hs c.2.2)
    have t0 : ((r.Spent.length : Int) != (r.Give.length : Int)) = true := by simp; omega
    have t1 : (r.Spent.length != r.Give.length) = true := by simpa using hs
    clear hs
    go_enter Try.func45, Try.ntmps45
    go_wp2_with fail
    refine (iCount_any _ _).mono ?_
    rintro e w' ⟨rfl, rfl⟩
    rw [HI.out]
    go_wp2_with (refine wpl_tstore x_r (by rw [tl_len, tZ_len]) (tl_one (tZ 0)) (by rw [tl_len, tZ_len]) rfl rfl rfl rfl ?_; intro wz x_z h_z s_z)
    have B_z := Below.chg_ B0 h_z (by omega) (by omega)
    refine ret_cell_tmp (by rfl) (by rfl) x_z t57u (t57l _ rfl) (by rfl) ?_
    exact ⟨tZ 0, ret_eq (by rw [HO.out]; rfl), rfl, (fun c => absurd c (by rw [HO.out]; decide)), B_z⟩
  have hs1 := Nat.le_of_eq hs
  have hs2 := Nat.le_of_eq hs.symm
  have HS := Lib.hid hs
  have t0 : ((r.Spent.length : Int) != (r.Give.length : Int)) = false := by simp; omega
  have t1 : (r.Spent.length != r.Give.length) = false := by simp; omega
  clear hs
  obtain ⟨b, off, rfl⟩ := row_some hrG (by omega)
  obtain ⟨w1, e_w1, s_w1, h_w1, x_t⟩ := alloc_step wa 57 [.int .i64 0, .int .i64 0, .int .i64 0, .int .i64 0, .int .i64 0, .int .i64 0, .int .i64 0, .int .i64 0, .int .i64 0, .int .i64 0, .int .i64 0, .int .i64 0, .int .i64 0, .int .i64 0, .int .i64 0, .int .i64 0, .int .i64 0, .int .i64 0, .int .i64 0, .int .i64 0, .int .i64 0]
  have s_w1_1 := Nat.le_of_eq s_w1
  have s_w1_2 := Nat.le_of_eq s_w1.symm
  clear s_w1
  replace x_t : Vr w1 wa.heap.size 57 (tl (tZ 0)) := x_t
  have B_w1 := B0.trans (h_w1.mono B0.size)
  go_enter Try.func45, Try.ntmps45
  go_wp2_with fail
  refine (iCount_any _ _).mono ?_
  rintro e w' ⟨rfl, rfl⟩
  rw [HI.out]
  go_wp2_with (refine wpl_tstore x_t (by rw [tl_len, tZ_len]) (tl_one (tZ (r.Give.length : Int))) (by rw [tl_len, tZ_len]) rfl rfl rfl rfl ?_; intro w2 x_t2 h_w2 s_w2)
  clear c_a_0_wa c_a_1_wa
  replace x_a := (x_a.from_ h_w1).chg h_w2 (by omega)
  replace x_r := (x_r.from_ h_w1).chg h_w2 (by omega)
  have B_w2 := Below.chg_ B_w1 h_w2 (by omega) (by omega)
  clear x_t
  have hd2 : Below w2.heap.size w2 w2.drew := (Below.refl w2.heap.size w2).drew
  have sd2 : w2.drew.heap.size = w2.heap.size := rfl
  have c_a_0_w2 := x_a.cell (i := 0) rfl
  have c_a_1_w2 := x_a.cell (i := 1) rfl
  go_region_law (refine step_tcopy (by rfl) (by rfl) (by rfl) (by rfl) (by rfl) (x_t2.from_ hd2) (hrS.below (B_w2.trans (hd2.mono B_w2.size))) (by omega) rfl (by rw [tZ_len]; omega) ?_; intro w3 x_t3 h_w3 s_w3)
  clear c_a_0_w2 c_a_1_w2
  rw [sd2] at s_w3
  replace x_a := (x_a.from_ hd2).chg h_w3 (by omega)
  replace x_r := (x_r.from_ hd2).chg h_w3 (by omega)
  have B_w3 := Below.chg_ (B_w2.trans (hd2.mono B_w2.size)) h_w3 (by omega) (by rw [sd2]; omega)
  clear hd2 sd2 x_t2
  have HL0 : Hid (LaidAt r (splice (tZ (r.Give.length : Int)) 17 r.Spent) 0) := laid_start HS.out hn.2
  have c_a_0_w3 := x_a.cell (i := 0) rfl
  have c_a_1_w3 := x_a.cell (i := 1) rfl
  go_wp2
  go_loopw [32] (fun j wr => ∃ (k : Nat) (T : List Int), k ≤ r.Give.length ∧ j = .int .i64 k ∧ Hid (LaidAt r T k) ∧ Vr wr w.heap.size 27 [.slice (some ⟨b, off, none⟩) r.Give.length cG, .slice AS r.Spent.length cS] ∧ Vr wr (w.heap.size + 1) 57 (tl (tZ 0)) ∧ Vr wr wa.heap.size 57 (tl T) ∧ Below w.heap.size w wr ∧ wa.heap.size + 1 ≤ wr.heap.size) (fun j _ => r.Give.length - (intOf j).toNat)
  case atStart => exact ⟨0, _, Nat.zero_le _, rfl, HL0, x_a, x_r, x_t3, B_w3, by omega⟩
  case round =>
    clear c_a_0_w3 c_a_1_w3 x_a x_r x_t3 t0 t1 HL0
    obtain ⟨k, T, hk, rfl, HL, x_a, x_r, x_t, HB, hsz⟩ := hrel
    have hT : T.length = 21 := HL.out.1
    by_cases hlt : k < r.Give.length
    case neg =>
      have hk2 : ¬ ((k : Int) < (r.Give.length : Int)) := by omega
      have hke : k = r.Give.length := by omega
      have HL2 : Hid (LaidAt r T r.Give.length) := by have := HL.out; rw [hke] at this; exact this
      clear hke
      have hSh := laid_shp HL2.out HS.out
      have HTe := Lib.hid (laid_end HL2.out HS.out)
      have hcall : ∀ W, Calls Try.prog 77 #[.agg (tl T).toArray] W fun e w' => e = .returned (.bool (rightsOkB r)) ∧ Below W.heap.size W w' := fun W => by rw [HTe.out]; exact tOk_c hSh hn
      obtain ⟨q, hq⟩ : ∃ q, rightsOkB r = q := ⟨_, rfl⟩
      have HQ := Lib.hid hq
      rw [hq] at hcall
      clear hq
      go_wp2_with fail
      refine wp_region_held (S := fun w' => Vr w' wa.heap.size 57 (tl T)) (by kernel_rfl) ?_
      refine wpAnyH_take (i := 0) (v := .agg (tl T).toArray) rfl (by kernel_rfl) (by kernel_rfl) (by kernel_rfl) (fun _ _ _ h => h) (yieldsIf_tload hT rfl rfl rfl (fun _ h => h)) x_t ?_
      refine wpAnyH_take (i := 1) (v := .agg (tl T).toArray) rfl (by kernel_rfl) (by kernel_rfl) (by kernel_rfl) (fun _ _ _ h => h) (yieldsIf_tload hT rfl rfl rfl (fun _ h => h)) x_t ?_
      refine wpAnyH_ready (rs := [2]) (by kernel_rfl) (by simp) ?_
      refine AllReadyH.cons rfl (fun K hK => ?_) AllReadyH.nil
      go_simp
      refine (hcall _).mono ?_
      rintro e w5 ⟨rfl, h_w5⟩
      have h_w5' : Below wr.heap.size wr w5 := (Below.refl wr.heap.size wr).drew.trans h_w5
      replace x_t := x_t.from_ h_w5'
      replace x_r := x_r.from_ h_w5'
      have B_w5 := HB.trans (h_w5'.mono HB.size)
      have s_w5 := h_w5'.size
      clear h_w5
      go_simp
      refine hK.out _ _ x_t (fun hHeld => ?_)
      clear hK K
      refine wpAnyH_ready (rs := [3]) (by kernel_rfl) (by simp) ?_
      refine AllReadyH.cons rfl (fun K hK => ?_) AllReadyH.nil
      rw [if_pos (by rfl)]
      refine wp_store_row _ _ _ rfl (w.heap.size + 1) (tl T).toArray rfl rfl 57 (tl (tZ 0)).toArray x_r (by rw [t57i]; simp [tl_len, hT]) (by simp [tl_len, hT, tZ_len]) (all_one (tl_one T)) ?_
      obtain ⟨w6, hw6⟩ : ∃ x, w5.setRow (w.heap.size + 1) (tl T).toArray = x := ⟨_, rfl⟩
      have h_w6 : Chg (w.heap.size + 1) (w.heap.size + 1 + 1) w5 w6 := by rw [← hw6]; exact setRow_chg
      have x_r6 : Vr w6 (w.heap.size + 1) 57 (tl T) := by rw [← hw6]; unfold Vr at x_r ⊢; exact setRow_heap w5 _ _ _ _ _ x_r
      have B_w6 := Below.chg_ B_w5 h_w6 (by omega) (by omega)
      rw [hw6]
      refine hK.out _ _ (x_t.chg h_w6 (by omega)) (fun hHeld2 => ?_)
      clear hK K
      refine wpAnyH_ready (rs := [4]) (by kernel_rfl) (by simp) ?_
      refine AllReadyH.cons rfl (fun K hK => ?_) AllReadyH.nil
      go_simp
      refine hK.out _ _ hHeld2 (fun hHeld3 => ?_)
      clear hK K
      refine wpAnyH_done (by kernel_rfl) ?_ _
      clear hHeld hHeld2 hHeld3
      go_wp2
      refine ret_cell_tmp (by rfl) (by rfl) x_r6 t57u (t57l _ hT) (by rfl) ?_
      exact ⟨T, ret_eq (by rw [HQ.out]; rfl), hT, (fun _ => HTe.out), B_w6⟩
    obtain ⟨K, hK⟩ := get_of_lt hlt
    have j1 : (k : Int) < (r.Give.length : Int) := by omega
    have k4 : (k : Int) < 4 := by omega
    obtain ⟨Ak, ck, -, hck, lk1, lk2, hrk⟩ := row_in (hrG.below HB) hK
    unfold maxLen at lk2
    have c_a_0_wr := x_a.cell (i := 0) rfl
    have c_a_1_wr := x_a.cell (i := 1) rfl
    by_cases hl : K.length = r.Give.length
    case neg =>
      have HO : Hid (rightsOkB r = false) := ok_row_bad hK hl
      have t0 : ((K.length : Int) != (r.Give.length : Int)) = true := by simp; omega
      have t1 : (K.length != r.Give.length) = true := by simpa using hl
      clear hl hK
      go_wp2_with (refine wpl_tstore x_r (by rw [tl_len, tZ_len]) (tl_one (tZ 0)) (by rw [tl_len, tZ_len]) rfl rfl rfl rfl ?_; intro wz x_z h_z s_z)
      have B_z := Below.chg_ HB h_z (by omega) (by omega)
      refine ret_cell_tmp (by rfl) (by rfl) x_z t57u (t57l _ rfl) (by rfl) ?_
      exact ⟨tZ 0, ret_eq (by rw [HO.out]; rfl), rfl, (fun c => absurd c (by rw [HO.out]; decide)), B_z⟩
    have HK2 : Hid (LaidAt r (splice T (1 + k * 4) K) (k + 1)) := laid_next HL.out hK hl hn.2 hlt
    have t0 : ((K.length : Int) != (r.Give.length : Int)) = false := by simp; omega
    have t1 : (K.length != r.Give.length) = false := by simp; omega
    have l1 := Nat.le_of_eq hl
    clear hl hK
    go_wp2_with (refine wpl_tcopy (by rfl) (by rfl) (by rfl) (by rfl) (by rfl) x_t hrk (by omega) rfl (by omega) ?_; intro w5 x_t5 h_w5 s_w5)
    replace x_a := x_a.chg h_w5 (by omega)
    replace x_r := x_r.chg h_w5 (by omega)
    have B_w5 := Below.chg_ HB h_w5 (by omega) (by omega)
    go_roundw
    case rel => exact ⟨k + 1, _, by omega, by go_num, HK2, x_a, x_r, x_t5, B_w5, by omega⟩
    case measure => simp [intOf]; omega

end Go.Proofs.Ytmbipgnecjlicaa
