/- Records: impl.BytesRec. Laid by a program of ours (src/rcb.py). -/
import Derived.Test.YtkbhbccpmmhelaaRcV2
import Derived.Test.YtkbhbccpmmhelaaRcP
import Derived.Test.YtkbhbccpmmhelaaMsgI3
import Derived.Test.YtkbhbccpmmhelaaRSt
namespace Go.Proofs.Ytkbhbccpmmhelaa
open Go.RowKit
set_option linter.unusedVariables false
set_option linter.unusedSimpArgs false

section
variable {zs : List Int} {r : MRec} {p : Int}
theorem fin_no1 (hb : Bytes zs) (h1 : recRd zs = (r, false)) (h2 : recEnd zs = p) (hne : p ≠ (zs.length : Int)) : bytesRecB zs = false ∧ bytesRec zs = recZ := by
  have h : bytesRecB zs = false := by rw [recB_eq hb, h1, h2]; simp [hne]
  exact ⟨h, bytesRec_no h⟩
theorem fin_no2 (hb : Bytes zs) (h1 : recRd zs = (r, false)) (ho : recOkB r = false) : bytesRecB zs = false ∧ bytesRec zs = recZ := by
  have h : bytesRecB zs = false := by rw [recB_eq hb, h1]; simp [ho]
  exact ⟨h, bytesRec_no h⟩
theorem fin_yes (hb : Bytes zs) (h1 : recRd zs = (r, false)) (h2 : recEnd zs = p) (he : p = (zs.length : Int)) (ho : recOkB r = true) : bytesRecB zs = true ∧ bytesRec zs = r := by
  have h : bytesRecB zs = true := by rw [recB_eq hb, h1, h2]; simp [he, ho]
  exact ⟨h, by rw [bytesRec_yes h, h1]⟩
theorem msgGet_of (h : (rdMsg zs p false).2.2 = false) : msgGetB zs p = true ∧ msgGetM zs p = (rdMsg zs p false).1 ∧ msgGetP zs p = (rdMsg zs p false).2.1 := by
  have hb : msgGetB zs p = true := by unfold msgGetB; rw [h]; rfl
  unfold msgGetM msgGetP
  rw [hb]
  exact ⟨rfl, rfl, rfl⟩
end

section
variable {zs l : List Int} {p q n n1 n2 n3 n4 n5 : Int} {k c : Nat}
theorem gm_none (h1 : getNum zs p = some (n, c)) (h : getMany zs (k + 1) p = none) : getMany zs k (p + c) = none := by
  simpa [getMany, h1] using h
theorem gm_some (h : getMany zs (k + 1) p = some (n :: l, q)) : ∃ c, getNum zs p = some (n, c) ∧ getMany zs k (p + (c : Nat)) = some (l, q) := by
  cases h1 : getNum zs p with
  | none => simp [getMany, h1] at h
  | some x =>
    obtain ⟨m, c⟩ := x
    simp only [getMany, h1, Option.map_eq_some_iff] at h
    obtain ⟨⟨a, b⟩, h2, h3⟩ := h
    injection h3 with h3 h4
    injection h3 with h5 h6
    dsimp only at h4 h5 h6
    subst h4; subst h5; subst h6
    exact ⟨c, rfl, h2⟩
theorem recRd_none5 (h : getMany zs 5 0 = none) : (recRd zs).2 = true := by
  cases h1 : getNum zs 0 with
  | none => exact recRd_1 h1
  | some x =>
    obtain ⟨n1, c1⟩ := x
    have g1 := gm_none h1 h
    cases h2 : getNum zs (0 + (c1 : Int)) with
    | none => exact recRd_2 h1 rfl h2
    | some x =>
      obtain ⟨n2, c2⟩ := x
      have g2 := gm_none h2 g1
      cases h3 : getNum zs (0 + (c1 : Int) + c2) with
      | none => exact recRd_3 h1 rfl h2 rfl h3
      | some x =>
        obtain ⟨n3, c3⟩ := x
        have g3 := gm_none h3 g2
        cases h4 : getNum zs (0 + (c1 : Int) + c2 + c3) with
        | none => exact recRd_4 h1 rfl h2 rfl h3 rfl h4
        | some x =>
          obtain ⟨n4, c4⟩ := x
          have g4 := gm_none h4 g3
          cases h5 : getNum zs (0 + (c1 : Int) + c2 + c3 + c4) with
          | none => exact recRd_5 h1 rfl h2 rfl h3 rfl h4 rfl h5
          | some x =>
            obtain ⟨n5, c5⟩ := x
            have g5 := gm_none h5 g4
            simp [getMany] at g5
theorem recRd_some5 (h : getMany zs 5 0 = some ([n1, n2, n3, n4, n5], p)) :
    (recRd zs = if n1 = 5 then (⟨n1, n2, n3, n4, n5, (rdMsg zs p false).1⟩, (rdMsg zs p false).2.2) else (⟨n1, n2, n3, n4, n5, ⟨0, 0, 0, 0⟩⟩, false)) ∧ recEnd zs = if n1 = 5 then (rdMsg zs p false).2.1 else p := by
  obtain ⟨c1, h1, g1⟩ := gm_some h
  obtain ⟨c2, h2, g2⟩ := gm_some g1
  obtain ⟨c3, h3, g3⟩ := gm_some g2
  obtain ⟨c4, h4, g4⟩ := gm_some g3
  obtain ⟨c5, h5, g5⟩ := gm_some g4
  have e : 0 + (c1 : Int) + c2 + c3 + c4 + c5 = p := by simpa [getMany] using g5
  exact recRd_all h1 rfl h2 rfl h3 rfl h4 rfl h5 e
theorem len5 (h : l.length = 5) : ∃ n1 n2 n3 n4 n5, l = [n1, n2, n3, n4, n5] := by
  match l, h with
  | [a, b, c, d, e], _ => exact ⟨a, b, c, d, e, rfl⟩
def padL (l : List Int) : List Value := (l ++ List.replicate (9 - l.length) 0).map (Value.int .i64)
theorem pad_get (h : l.length < 9) : (padL l)[l.length]? = some (.int .i64 0) := by
  unfold padL
  rw [List.getElem?_map, List.getElem?_append_right (Nat.le_refl _), Nat.sub_self]
  rw [List.getElem?_replicate, if_pos (by omega)]
  rfl
theorem pad_set (h : l.length < 9) : (padL l).set l.length (.int .i64 n) = padL (l ++ [n]) := by
  unfold padL
  rw [← List.map_set, List.set_append_right _ _ (Nat.le_refl _), Nat.sub_self]
  obtain ⟨m, hm⟩ : ∃ m, 9 - l.length = m + 1 := ⟨8 - l.length, by omega⟩
  have hm2 : 9 - (l ++ [n]).length = m := by rw [List.length_append, List.length_singleton]; omega
  rw [hm, hm2, List.replicate_succ, List.set_cons_zero, List.append_assoc]
  rfl
theorem ptr_get (b : Nat) {j : Nat} (h : j < 5) : [Value.pointer (some ⟨b, 0, none⟩), Value.pointer (some ⟨b, 1, none⟩), Value.pointer (some ⟨b, 2, none⟩), Value.pointer (some ⟨b, 3, none⟩), Value.pointer (some ⟨b, 4, none⟩)][j]? = some (Value.pointer (some ⟨b, j, none⟩)) := by
  have h5 : j = 0 ∨ j = 1 ∨ j = 2 ∨ j = 3 ∨ j = 4 := by omega
  rcases h5 with rfl | rfl | rfl | rfl | rfl <;> rfl
end

set_option maxRecDepth 100000 in
set_option maxHeartbeats 16000000 in
theorem iBytesRec_c {w : World} {v : Value} {zs : List Int} (h : RS .u8 w v zs) (hb : Bytes zs) (hm : zs.length ≤ 16777216) :
    Calls Try.prog 17 #[v] w (NewVB recL w (bytesRec zs) (bytesRecB zs)) := by
  have h0 := h
  obtain ⟨A, c, rfl, q1, q2, hr⟩ := h0
  obtain ⟨wa, hwa, B0, sa, x_q⟩ := frame1 w 29 [.int .i64 0, .int .i64 0, .int .i64 0, .int .i64 0, .int .i64 0, .int .i64 0, .int .i64 0, .int .i64 0, .int .i64 0]
  have sa_1 := Nat.le_of_eq sa
  have sa_2 := Nat.le_of_eq sa.symm
  clear sa
  obtain ⟨w1, e_w1, s_w1, h_w1, x_r⟩ := alloc_step wa 29 [.int .i64 0, .int .i64 0, .int .i64 0, .int .i64 0, .int .i64 0, .int .i64 0, .int .i64 0, .int .i64 0, .int .i64 0]
  have s_w1_1 := Nat.le_of_eq s_w1
  have s_w1_2 := Nat.le_of_eq s_w1.symm
  clear s_w1
  replace x_q := x_q.from_ h_w1
  have B_w1 := B0.trans (h_w1.mono B0.size)
  have i_w1_8 := x_r.same (i := 8) rfl
  have i_w1_7 := x_r.same (i := 7) rfl
  have i_w1_6 := x_r.same (i := 6) rfl
  have i_w1_5 := x_r.same (i := 5) rfl
  have i_w1_4 := x_r.same (i := 4) rfl
  have i_w1_3 := x_r.same (i := 3) rfl
  have i_w1_2 := x_r.same (i := 2) rfl
  have i_w1_1 := x_r.same (i := 1) rfl
  have i_w1_0 := x_r.same (i := 0) rfl
  have c_r_0_w1 := x_r.cell (i := 0) rfl
  have f_r_0_w1 := x_r.frozen 0
  have c_r_1_w1 := x_r.cell (i := 1) rfl
  have f_r_1_w1 := x_r.frozen 1
  have c_r_2_w1 := x_r.cell (i := 2) rfl
  have f_r_2_w1 := x_r.frozen 2
  have c_r_3_w1 := x_r.cell (i := 3) rfl
  have f_r_3_w1 := x_r.frozen 3
  have c_r_4_w1 := x_r.cell (i := 4) rfl
  have f_r_4_w1 := x_r.frozen 4
  have c_r_5_w1 := x_r.cell (i := 5) rfl
  have f_r_5_w1 := x_r.frozen 5
  have c_r_6_w1 := x_r.cell (i := 6) rfl
  have f_r_6_w1 := x_r.frozen 6
  have c_r_7_w1 := x_r.cell (i := 7) rfl
  have f_r_7_w1 := x_r.frozen 7
  have c_r_8_w1 := x_r.cell (i := 8) rfl
  have f_r_8_w1 := x_r.frozen 8
  obtain ⟨w2, e_w2, s_w2, h_w2, x_l⟩ := alloc_step w1 58 [.pointer (some ⟨wa.heap.size, 0, none⟩), .pointer (some ⟨wa.heap.size, 1, none⟩), .pointer (some ⟨wa.heap.size, 2, none⟩), .pointer (some ⟨wa.heap.size, 3, none⟩), .pointer (some ⟨wa.heap.size, 4, none⟩)]
  have s_w2_1 := Nat.le_of_eq s_w2
  have s_w2_2 := Nat.le_of_eq s_w2.symm
  clear s_w2
  replace x_q := x_q.from_ h_w2
  replace x_r := x_r.from_ h_w2
  have B_w2 := B_w1.trans (h_w2.mono B_w1.size)
  go_enter Try.func17, Try.ntmps17
  go_wp2
  clear i_w1_8 i_w1_7 i_w1_6 i_w1_5 i_w1_4 i_w1_3 i_w1_2 i_w1_1 i_w1_0 c_r_0_w1 f_r_0_w1 c_r_1_w1 f_r_1_w1 c_r_2_w1 f_r_2_w1 c_r_3_w1 f_r_3_w1 c_r_4_w1 f_r_4_w1 c_r_5_w1 f_r_5_w1 c_r_6_w1 f_r_6_w1 c_r_7_w1 f_r_7_w1 c_r_8_w1 f_r_8_w1
  go_loopw [5, 22] (fun s5 s22 wr => ∃ (l : List Int) (p : Int), Gets zs 5 0 l p ∧ s5 = .int .i64 p ∧ s22 = .int .i64 l.length ∧ Vr wr wa.heap.size 29 (padL l) ∧ Vr wr w1.heap.size 58 [.pointer (some ⟨wa.heap.size, 0, none⟩), .pointer (some ⟨wa.heap.size, 1, none⟩), .pointer (some ⟨wa.heap.size, 2, none⟩), .pointer (some ⟨wa.heap.size, 3, none⟩), .pointer (some ⟨wa.heap.size, 4, none⟩)] ∧ Vr wr w.heap.size 29 [.int .i64 0, .int .i64 0, .int .i64 0, .int .i64 0, .int .i64 0, .int .i64 0, .int .i64 0, .int .i64 0, .int .i64 0] ∧ Below w.heap.size w wr) (fun _ s22 _ => 5 - (intOf s22).toNat)
  case atStart => exact ⟨[], 0, Gets.start (by omega) (by omega), rfl, rfl, x_r, x_l, x_q, B_w2⟩
  case round =>
    clear x_r x_l x_q B_w2 e_w1 h_w1 e_w2 h_w2 B_w1
    obtain ⟨l, p, hG, rfl, rfl, x_r, x_l, x_q, HB⟩ := hrel
    have h1 := hG.lo
    have h2 := hG.hi
    have h4 := hG.le
    have sB := HB.size
    have lq := x_r.lt
    by_cases hlt : l.length < 5
    case pos =>
      have i1 : (l.length : Int) < 5 := by omega
      have cl := x_l.cell (ptr_get wa.heap.size hlt)
      have cr := x_r.cell (pad_get (l := l) (by omega))
      have fr := x_r.frozen l.length
      rcases hg : getNum zs p with _ | ⟨n, c1⟩
      case none =>
        have HV := Lib.hid (getVal_none hg)
        have HN := Lib.hid (bytesRec_bad (recRd_none5 (hG.fails hlt hg)))
        clear hg
        go_wp2_with fail
        refine (iGetNum_any A c zs p _ w.heap.size (hr.below HB) hb (by omega) q1 q2 (by omega) (by omega)).mono ?_
        rintro e w' ⟨rfl, rfl⟩
        rw [HV.out]
        have sB9 := HB.size
        go_wp2_with (refine wpl_rstore (zs := [0, 0, 0, 0, 0, 0, 0, 0, 0]) x_q rfl rfl rfl rfl rfl rfl ?_; intro wz x_z h_z s_z)
        refine ret_cell_tmp (by rfl) (by rfl) x_z Try.underlying29 sz_rec (by rfl) ?_
        rw [HN.out.1, HN.out.2]
        exact ⟨_, rfl, ov_rec (d := recZ) (Nat.le_refl _), Below.chg_ HB h_z (by omega) (by omega)⟩
      have HV := Lib.hid (getVal_some hg)
      have HG := Lib.hid (hG.next hlt hg)
      clear hg
      obtain ⟨w9, e_w9, s_w9, h_w9, y⟩ := set_step x_r l.length (.int .i64 n)
      rw [pad_set (by omega)] at y
      replace x_l := x_l.chg h_w9 (by omega)
      replace x_q := x_q.chg h_w9 (by omega)
      have B9 := Below.chg_ HB h_w9 (by omega) (by omega)
      clear s_w9 h_w9
      go_wp2_with fail
      refine (iGetNum_any A c zs p _ w.heap.size (hr.below HB) hb (by omega) q1 q2 (by omega) (by omega)).mono ?_
      rintro e w' ⟨rfl, rfl⟩
      rw [HV.out]
      go_wp2
      go_roundw
      case rel => exact ⟨l ++ [n], p + c1, HG.out, rfl, by first | go_num | (rw [List.length_append]; go_num) | simp, y, x_l, x_q, B9⟩
      case measure => first | (simp [intOf]; done) | (simp [intOf]; omega)
    have hl5 : l.length = 5 := by omega
    have hd := hG.done hl5
    obtain ⟨n1, n2, n3, n4, n5, rfl⟩ := len5 hl5
    have hall := recRd_some5 hd
    clear hd hG hlt hl5 x_l h4
    replace x_r : Vr wr wa.heap.size 29 [.int .i64 n1, .int .i64 n2, .int .i64 n3, .int .i64 n4, .int .i64 n5, .int .i64 0, .int .i64 0, .int .i64 0, .int .i64 0] := x_r
    have c_r_0_wr := x_r.cell (i := 0) rfl
    by_cases e5 : n1 = 5
    case neg =>
      rw [if_neg e5, if_neg e5] at hall
      have H1 := Lib.hid hall.1
      have H2 := Lib.hid hall.2
      have t5 : (n1 == 5) = false := by simpa using e5
      clear hall e5
      obtain ⟨ob, hob⟩ : ∃ b, recOkB (⟨n1, n2, n3, n4, n5, ⟨0, 0, 0, 0⟩⟩ : MRec) = b := ⟨_, rfl⟩
      have HO := Lib.hid hob
      clear hob
      by_cases he : p = (zs.length : Int)
      case neg =>
        have HN := Lib.hid (fin_no1 hb H1.out H2.out he)
        have hb1 : (p != (zs.length : Int)) = true := by simpa using he
        clear he
        have sB9 := HB.size
        go_wp2_with (refine wpl_rstore (zs := [0, 0, 0, 0, 0, 0, 0, 0, 0]) x_q rfl rfl rfl rfl rfl rfl ?_; intro wz x_z h_z s_z)
        refine ret_cell_tmp (by rfl) (by rfl) x_z Try.underlying29 sz_rec (by rfl) ?_
        rw [HN.out.1, HN.out.2]
        exact ⟨_, rfl, ov_rec (d := recZ) (Nat.le_refl _), Below.chg_ HB h_z (by omega) (by omega)⟩
      have hb1 : (p != (zs.length : Int)) = false := by simpa using he
      have HE := Lib.hid he
      clear he
      have rv : RV recL wr (.agg #[.int .i64 n1, .int .i64 n2, .int .i64 n3, .int .i64 n4, .int .i64 n5, .int .i64 0, .int .i64 0, .int .i64 0, .int .i64 0]) (⟨n1, n2, n3, n4, n5, ⟨0, 0, 0, 0⟩⟩ : MRec) := rv_rec_mk (zM := ⟨0, 0, 0, 0⟩)
      go_wp2_with (refine wpl_rload x_r rfl rfl rfl rfl ?_)
      refine (iRecOk_c rv).mono ?_
      rintro e w21 ⟨rfl, h_w21⟩
      clear c_r_0_wr
      replace x_q := x_q.from_ h_w21
      replace x_r := x_r.from_ h_w21
      have B_w21 := HB.trans (h_w21.mono HB.size)
      have s_w21 := h_w21.size
      rw [HO.out]
      cases ob with
      | false =>
        have HN := Lib.hid (fin_no2 hb H1.out HO.out)
        have sB9 := B_w21.size
        go_wp2_with (refine wpl_rstore (zs := [0, 0, 0, 0, 0, 0, 0, 0, 0]) x_q rfl rfl rfl rfl rfl rfl ?_; intro wz x_z h_z s_z)
        refine ret_cell_tmp (by rfl) (by rfl) x_z Try.underlying29 sz_rec (by rfl) ?_
        rw [HN.out.1, HN.out.2]
        exact ⟨_, rfl, ov_rec (d := recZ) (Nat.le_refl _), Below.chg_ B_w21 h_z (by omega) (by omega)⟩
      | true =>
        have HN := Lib.hid (fin_yes hb H1.out H2.out HE.out HO.out)
        have sB9 := B_w21.size
        go_wp2_with (first | refine wpl_rload x_r rfl rfl rfl rfl ?_ | (refine wpl_rstore (zs := [n1, n2, n3, n4, n5, 0, 0, 0, 0]) x_q rfl rfl rfl rfl rfl rfl ?_; intro wz x_z h_z s_z))
        refine ret_cell_tmp (by rfl) (by rfl) x_z Try.underlying29 sz_rec (by rfl) ?_
        rw [HN.out.1, HN.out.2]
        exact ⟨_, rfl, ov_rec (d := ⟨n1, n2, n3, n4, n5, ⟨0, 0, 0, 0⟩⟩) (Nat.le_refl _), Below.chg_ B_w21 h_z (by omega) (by omega)⟩
    rw [if_pos e5, if_pos e5] at hall
    have t5 : (n1 == 5) = true := by simpa using e5
    clear e5
    obtain ⟨bad, hbad⟩ : ∃ b, (rdMsg zs p false).2.2 = b := ⟨_, rfl⟩
    cases bad with
    | true =>
      have HG := Lib.hid (get_no hbad)
      have HN := Lib.hid (bytesRec_bad (by rw [hall.1]; exact hbad))
      clear hall hbad
      go_wp2_with fail
      refine (iMsgGet_c (h.from_ HB) hb hm (by omega)).mono ?_
      rintro e w21 ⟨vm, rfl, o_m, h_w21⟩
      clear c_r_0_wr
      replace x_q := x_q.from_ h_w21
      replace x_r := x_r.from_ h_w21
      have B_w21 := HB.trans (h_w21.mono HB.size)
      have s_w21 := h_w21.size
      rw [HG.out.1, HG.out.2.2]
      rw [HG.out.2.1] at o_m
      obtain rfl := rv_msg o_m.rd
      obtain ⟨w22, e_w22, s_w22, h_w22, x_m⟩ := alloc_step w21 27 [.int .i64 msgZ.Kind, .int .i64 msgZ.Acct, .int .i64 msgZ.Amt, .int .i64 msgZ.Src]
      have s_w22_1 := Nat.le_of_eq s_w22
      have s_w22_2 := Nat.le_of_eq s_w22.symm
      clear s_w22
      replace x_q := x_q.from_ h_w22
      replace x_r := x_r.from_ h_w22
      have B_w22 := B_w21.trans (h_w22.mono B_w21.size)
      have c_m_0_w22 := x_m.cell (i := 0) rfl
      have c_m_1_w22 := x_m.cell (i := 1) rfl
      have c_m_2_w22 := x_m.cell (i := 2) rfl
      have c_m_3_w22 := x_m.cell (i := 3) rfl
      have sB9 := B_w22.size
      go_wp2_with (refine wpl_rstore (zs := [0, 0, 0, 0, 0, 0, 0, 0, 0]) x_q rfl rfl rfl rfl rfl rfl ?_; intro wz x_z h_z s_z)
      refine ret_cell_tmp (by rfl) (by rfl) x_z Try.underlying29 sz_rec (by rfl) ?_
      rw [HN.out.1, HN.out.2]
      exact ⟨_, rfl, ov_rec (d := recZ) (Nat.le_refl _), Below.chg_ B_w22 h_z (by omega) (by omega)⟩
    | false =>
      have HG := Lib.hid (msgGet_of hbad)
      obtain ⟨M, hM⟩ : ∃ M, (rdMsg zs p false).1 = M := ⟨_, rfl⟩
      obtain ⟨p6, hp6⟩ : ∃ q, (rdMsg zs p false).2.1 = q := ⟨_, rfl⟩
      rw [hM, hp6] at HG
      rw [hM, hp6, hbad] at hall
      have H1 := Lib.hid hall.1
      have H2 := Lib.hid hall.2
      clear hall hbad hM hp6
      go_wp2_with fail
      refine (iMsgGet_c (h.from_ HB) hb hm (by omega)).mono ?_
      rintro e w21 ⟨vm, rfl, o_m, h_w21⟩
      clear c_r_0_wr
      replace x_q := x_q.from_ h_w21
      replace x_r := x_r.from_ h_w21
      have B_w21 := HB.trans (h_w21.mono HB.size)
      have s_w21 := h_w21.size
      rw [HG.out.1, HG.out.2.2]
      rw [HG.out.2.1] at o_m
      obtain rfl := rv_msg o_m.rd
      obtain ⟨w22, e_w22, s_w22, h_w22, x_m⟩ := alloc_step w21 27 [.int .i64 M.Kind, .int .i64 M.Acct, .int .i64 M.Amt, .int .i64 M.Src]
      have s_w22_1 := Nat.le_of_eq s_w22
      have s_w22_2 := Nat.le_of_eq s_w22.symm
      clear s_w22
      replace x_q := x_q.from_ h_w22
      replace x_r := x_r.from_ h_w22
      have B_w22 := B_w21.trans (h_w22.mono B_w21.size)
      have c_m_0_w22 := x_m.cell (i := 0) rfl
      have c_m_1_w22 := x_m.cell (i := 1) rfl
      have c_m_2_w22 := x_m.cell (i := 2) rfl
      have c_m_3_w22 := x_m.cell (i := 3) rfl
      have c_r_5_w22 := x_r.cell (i := 5) rfl
      have f_r_5_w22 := x_r.frozen 5
      obtain ⟨w23, e_w23, s_w23, h_w23, y⟩ := set_step x_r 5 (.int .i64 M.Kind)
      have s_w23_1 := Nat.le_of_eq s_w23
      have s_w23_2 := Nat.le_of_eq s_w23.symm
      clear s_w23
      replace x_q := x_q.chg h_w23 (by omega)
      replace x_m := x_m.chg h_w23 (by omega)
      have B_w23 := Below.chg_ B_w22 h_w23 (by omega) (by omega)
      replace x_r : Vr w23 (wa.heap.size) 29 [.int .i64 n1, .int .i64 n2, .int .i64 n3, .int .i64 n4, .int .i64 n5, .int .i64 M.Kind, .int .i64 0, .int .i64 0, .int .i64 0] := y
      clear y
      have c_r_6_w23 := x_r.cell (i := 6) rfl
      have f_r_6_w23 := x_r.frozen 6
      obtain ⟨w24, e_w24, s_w24, h_w24, y⟩ := set_step x_r 6 (.int .i64 M.Acct)
      have s_w24_1 := Nat.le_of_eq s_w24
      have s_w24_2 := Nat.le_of_eq s_w24.symm
      clear s_w24
      replace x_q := x_q.chg h_w24 (by omega)
      replace x_m := x_m.chg h_w24 (by omega)
      have B_w24 := Below.chg_ B_w23 h_w24 (by omega) (by omega)
      replace x_r : Vr w24 (wa.heap.size) 29 [.int .i64 n1, .int .i64 n2, .int .i64 n3, .int .i64 n4, .int .i64 n5, .int .i64 M.Kind, .int .i64 M.Acct, .int .i64 0, .int .i64 0] := y
      clear y
      have c_r_7_w24 := x_r.cell (i := 7) rfl
      have f_r_7_w24 := x_r.frozen 7
      obtain ⟨w25, e_w25, s_w25, h_w25, y⟩ := set_step x_r 7 (.int .i64 M.Amt)
      have s_w25_1 := Nat.le_of_eq s_w25
      have s_w25_2 := Nat.le_of_eq s_w25.symm
      clear s_w25
      replace x_q := x_q.chg h_w25 (by omega)
      replace x_m := x_m.chg h_w25 (by omega)
      have B_w25 := Below.chg_ B_w24 h_w25 (by omega) (by omega)
      replace x_r : Vr w25 (wa.heap.size) 29 [.int .i64 n1, .int .i64 n2, .int .i64 n3, .int .i64 n4, .int .i64 n5, .int .i64 M.Kind, .int .i64 M.Acct, .int .i64 M.Amt, .int .i64 0] := y
      clear y
      have c_r_8_w25 := x_r.cell (i := 8) rfl
      have f_r_8_w25 := x_r.frozen 8
      obtain ⟨w26, e_w26, s_w26, h_w26, y⟩ := set_step x_r 8 (.int .i64 M.Src)
      have s_w26_1 := Nat.le_of_eq s_w26
      have s_w26_2 := Nat.le_of_eq s_w26.symm
      clear s_w26
      replace x_q := x_q.chg h_w26 (by omega)
      replace x_m := x_m.chg h_w26 (by omega)
      have B_w26 := Below.chg_ B_w25 h_w26 (by omega) (by omega)
      replace x_r : Vr w26 (wa.heap.size) 29 [.int .i64 n1, .int .i64 n2, .int .i64 n3, .int .i64 n4, .int .i64 n5, .int .i64 M.Kind, .int .i64 M.Acct, .int .i64 M.Amt, .int .i64 M.Src] := y
      clear y
      obtain ⟨ob, hob⟩ : ∃ b, recOkB (⟨n1, n2, n3, n4, n5, ⟨M.Kind, M.Acct, M.Amt, M.Src⟩⟩ : MRec) = b := ⟨_, rfl⟩
      have HO := Lib.hid hob
      clear hob
      by_cases he : p6 = (zs.length : Int)
      case neg =>
        have HN := Lib.hid (fin_no1 hb H1.out H2.out he)
        have hb1 : (p6 != (zs.length : Int)) = true := by simpa using he
        clear he
        have sB9 := B_w26.size
        go_wp2_with (refine wpl_rstore (zs := [0, 0, 0, 0, 0, 0, 0, 0, 0]) x_q rfl rfl rfl rfl rfl rfl ?_; intro wz x_z h_z s_z)
        refine ret_cell_tmp (by rfl) (by rfl) x_z Try.underlying29 sz_rec (by rfl) ?_
        rw [HN.out.1, HN.out.2]
        exact ⟨_, rfl, ov_rec (d := recZ) (Nat.le_refl _), Below.chg_ B_w26 h_z (by omega) (by omega)⟩
      have hb1 : (p6 != (zs.length : Int)) = false := by simpa using he
      have HE := Lib.hid he
      clear he
      have rv : RV recL w26 (.agg #[.int .i64 n1, .int .i64 n2, .int .i64 n3, .int .i64 n4, .int .i64 n5, .int .i64 M.Kind, .int .i64 M.Acct, .int .i64 M.Amt, .int .i64 M.Src]) (⟨n1, n2, n3, n4, n5, ⟨M.Kind, M.Acct, M.Amt, M.Src⟩⟩ : MRec) := rv_rec_mk (zM := ⟨M.Kind, M.Acct, M.Amt, M.Src⟩)
      go_wp2_with (refine wpl_rload x_r rfl rfl rfl rfl ?_)
      refine (iRecOk_c rv).mono ?_
      rintro e w27 ⟨rfl, h_w27⟩
      clear c_m_0_w22 c_m_1_w22 c_m_2_w22 c_m_3_w22 c_r_5_w22 f_r_5_w22 c_r_6_w23 f_r_6_w23 c_r_7_w24 f_r_7_w24 c_r_8_w25 f_r_8_w25
      replace x_q := x_q.from_ h_w27
      replace x_r := x_r.from_ h_w27
      have B_w27 := B_w26.trans (h_w27.mono B_w26.size)
      have s_w27 := h_w27.size
      rw [HO.out]
      cases ob with
      | false =>
        have HN := Lib.hid (fin_no2 hb H1.out HO.out)
        have sB9 := B_w27.size
        go_wp2_with (refine wpl_rstore (zs := [0, 0, 0, 0, 0, 0, 0, 0, 0]) x_q rfl rfl rfl rfl rfl rfl ?_; intro wz x_z h_z s_z)
        refine ret_cell_tmp (by rfl) (by rfl) x_z Try.underlying29 sz_rec (by rfl) ?_
        rw [HN.out.1, HN.out.2]
        exact ⟨_, rfl, ov_rec (d := recZ) (Nat.le_refl _), Below.chg_ B_w27 h_z (by omega) (by omega)⟩
      | true =>
        have HN := Lib.hid (fin_yes hb H1.out H2.out HE.out HO.out)
        have sB9 := B_w27.size
        go_wp2_with (first | refine wpl_rload x_r rfl rfl rfl rfl ?_ | (refine wpl_rstore (zs := [n1, n2, n3, n4, n5, M.Kind, M.Acct, M.Amt, M.Src]) x_q rfl rfl rfl rfl rfl rfl ?_; intro wz x_z h_z s_z))
        refine ret_cell_tmp (by rfl) (by rfl) x_z Try.underlying29 sz_rec (by rfl) ?_
        rw [HN.out.1, HN.out.2]
        exact ⟨_, rfl, ov_rec (d := ⟨n1, n2, n3, n4, n5, ⟨M.Kind, M.Acct, M.Amt, M.Src⟩⟩) (Nat.le_refl _), Below.chg_ B_w27 h_z (by omega) (by omega)⟩

end Go.Proofs.Ytkbhbccpmmhelaa
