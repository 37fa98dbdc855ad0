/- Rights: the contract of spec.l06Copy. Laid by a program of ours (src/rt2.py). -/
import Derived.Test.YtmbipgnecjlicaaRt1
import Derived.Test.YtmbipgnecjlicaaAppN
import Derived.Deep.RegionLaw
namespace Go.Proofs.Ytmbipgnecjlicaa
open Go.RowKit
set_option linter.unusedVariables false

theorem ov_ss_nil {w : World} {lo hi : Nat} (h : hi ≤ w.heap.size) : OV intSSL w lo hi (.slice none 0 0) [] := ⟨[_], [], rfl, ⟨_, rfl, ownL_nil⟩, by simp, fun j hj => by simp at hj, h⟩
theorem slice_one {A : Option Addr} {n c : Nat} : ∀ u ∈ [Value.slice A n c], u.oneCell' = true := by
  intro u hu
  obtain rfl : u = .slice A n c := by simpa using hu
  rfl

set_option maxRecDepth 100000 in
set_option maxHeartbeats 4000000 in
theorem sRCopy_c {w : World} {v : Value} {r : MRights} (h : RV rightsL w v r) (hm : r.bulk ≤ 16777216) : Calls Try.prog 72 #[v] w (NewV rightsL w r) := by
  unfold MRights.bulk sizeSS at hm
  have h0 := h
  obtain ⟨AG, cG, AS, cS, rfl, hrG, hrS, lG, lS⟩ := rv_rights2 h
  clear h
  unfold maxLen at lG lS
  obtain ⟨i0, hi, hz0, hz1, hz2⟩ := info_parts Try.info_is
  obtain ⟨i1, hi1, hy0, hy1, hy2⟩ := info_parts Try.info_i64
  obtain ⟨wa, hwa, B0, sa, x_a, x_r⟩ := frame2 w 27 [.slice AG r.Give.length cG, .slice AS r.Spent.length cS] 27 [.slice none 0 0, .slice none 0 0]
  have sa_1 := Nat.le_of_eq sa
  have sa_2 := Nat.le_of_eq sa.symm
  clear sa
  have c_a_0_wa := x_a.cell (i := 0) rfl
  have f_a_0_wa := x_a.frozen 0
  have c_a_1_wa := x_a.cell (i := 1) rfl
  have f_a_1_wa := x_a.frozen 1
  have c_r_0_wa := x_r.cell (i := 0) rfl
  have f_r_0_wa := x_r.frozen 0
  have c_r_1_wa := x_r.cell (i := 1) rfl
  have f_r_1_wa := x_r.frozen 1
  have xa0 := x_a
  have xr0 := x_r
  go_enter Try.func72, Try.ntmps72
  have oN := own_none .i64 wa wa.heap.size 3 (Nat.le_refl _)
  obtain ⟨w1, e1, s1, h1, -⟩ := alloc_step wa 3 []
  have e1' : wa.alloc (.cells #[] 3) = w1 := e1
  rw [e1'] at oN
  clear e1'
  have s1_1 := Nat.le_of_eq s1
  have s1_2 := Nat.le_of_eq s1.symm
  clear s1
  replace x_a := x_a.from_ h1
  replace x_r := x_r.from_ h1
  have B_w1 := B0.trans (h1.mono B0.size)
  clear c_a_0_wa f_a_0_wa c_a_1_wa f_a_1_wa c_r_0_wa f_r_0_wa c_r_1_wa f_r_1_wa
  have c_a_0_w1 := x_a.cell (i := 0) rfl
  have f_a_0_w1 := x_a.frozen 0
  have c_a_1_w1 := x_a.cell (i := 1) rfl
  have f_a_1_w1 := x_a.frozen 1
  have c_r_0_w1 := x_r.cell (i := 0) rfl
  have f_r_0_w1 := x_r.frozen 0
  have c_r_1_w1 := x_r.cell (i := 1) rfl
  have f_r_1_w1 := x_r.frozen 1
  go_wp2_with (at_builtin; refine wpl_appI _ .i64 rfl (.tmp 6) (.tmp 8) 25 rfl wa.heap.size 3 i1 8 Try.underlying25 hi1 hy0 hy1 hy2 _ [] rfl oN _ AS cS r.Spent.length r.Spent rfl rfl (hrS.below B_w1) ?d1 (by omega) ?d2 ?_)
  case d1 => simp; omega
  case d2 => omega
  intro v2 w2 o2 g2 _
  (try rw [List.nil_append] at o2)
  have h2 : Below wa.heap.size wa w2 := grown_below h1 oN g2 (Nat.le_refl _) (by omega)
  obtain ⟨A1, c1, rfl, -, -, -⟩ := own_form o2
  have o_s := OS.mk_ o2
  clear o2 g2 oN
  clear c_a_0_w1 f_a_0_w1 c_a_1_w1 f_a_1_w1 c_r_0_w1 f_r_0_w1 c_r_1_w1 f_r_1_w1
  replace x_a := xa0.from_ h2
  replace x_r := xr0.from_ h2
  have B_w2 := B0.trans (h2.mono B0.size)
  have s_w2 := h2.size
  have c_a_0_w2 := x_a.cell (i := 0) rfl
  have f_a_0_w2 := x_a.frozen 0
  have c_a_1_w2 := x_a.cell (i := 1) rfl
  have f_a_1_w2 := x_a.frozen 1
  have c_r_0_w2 := x_r.cell (i := 0) rfl
  have f_r_0_w2 := x_r.frozen 0
  have c_r_1_w2 := x_r.cell (i := 1) rfl
  have f_r_1_w2 := x_r.frozen 1
  obtain ⟨w3, e_w3, s_w3, h_w3, x_o⟩ := alloc_step w2 27 [.slice none 0 0, .slice A1 r.Spent.length c1]
  have s_w3_1 := Nat.le_of_eq s_w3
  have s_w3_2 := Nat.le_of_eq s_w3.symm
  clear s_w3
  replace x_a := x_a.from_ h_w3
  replace x_r := x_r.from_ h_w3
  replace o_s := o_s.below h_w3
  have B_w3 := B_w2.trans (h_w3.mono B_w2.size)
  have c_a_0_w3 := x_a.cell (i := 0) rfl
  have f_a_0_w3 := x_a.frozen 0
  have c_a_1_w3 := x_a.cell (i := 1) rfl
  have f_a_1_w3 := x_a.frozen 1
  have c_r_0_w3 := x_r.cell (i := 0) rfl
  have f_r_0_w3 := x_r.frozen 0
  have c_r_1_w3 := x_r.cell (i := 1) rfl
  have f_r_1_w3 := x_r.frozen 1
  have c_o_0_w3 := x_o.cell (i := 0) rfl
  have f_o_0_w3 := x_o.frozen 0
  have c_o_1_w3 := x_o.cell (i := 1) rfl
  have f_o_1_w3 := x_o.frozen 1
  have o_g := ov_ss_nil (w := w3) (lo := w3.heap.size) (Nat.le_refl _)
  go_wp2
  go_loopw [14] (fun j wr => ∃ (k : Nat) (G : List (List Int)) (Ag : Option Addr) (cg : Nat), k ≤ r.Give.length ∧ j = .int .i64 k ∧ Hid (G = r.Give.take k) ∧ Vr wr w.heap.size 27 [.slice AG r.Give.length cG, .slice AS r.Spent.length cS] ∧ Vr wr (w.heap.size + 1) 27 [.slice none 0 0, .slice none 0 0] ∧ Vr wr w2.heap.size 27 [.slice Ag G.length cg, .slice A1 r.Spent.length c1] ∧ OV intSSL wr w3.heap.size wr.heap.size (.slice Ag G.length cg) G ∧ OS .i64 3 wr wa.heap.size w2.heap.size (.slice A1 r.Spent.length c1) r.Spent ∧ Below w.heap.size w wr ∧ w3.heap.size ≤ wr.heap.size) (fun j _ => r.Give.length - (intOf j).toNat)
  case atStart => exact ⟨0, [], none, 0, Nat.zero_le _, rfl, rfl, x_a, x_r, x_o, o_g, o_s, B_w3, Nat.le_refl _⟩
  case round =>
    clear c_a_0_w2 f_a_0_w2 c_a_1_w2 f_a_1_w2 c_r_0_w2 f_r_0_w2 c_r_1_w2 f_r_1_w2 c_a_0_w3 f_a_0_w3 c_a_1_w3 f_a_1_w3 c_r_0_w3 f_r_0_w3 c_r_1_w3 f_r_1_w3 c_o_0_w3 f_o_0_w3 c_o_1_w3 f_o_1_w3
    clear x_a x_r x_o o_g o_s
    obtain ⟨k, G, Ag, cg, hk, rfl, HG, x_a, x_r, x_o, o_g, o_s, HB, hg0⟩ := hrel
    have hs := HB.size
    have lG2 : G.length ≤ r.Give.length := by rw [HG.out, List.length_take]; omega
    have c_a_0_wr := x_a.cell (i := 0) rfl
    have f_a_0_wr := x_a.frozen 0
    have c_a_1_wr := x_a.cell (i := 1) rfl
    have f_a_1_wr := x_a.frozen 1
    have c_r_0_wr := x_r.cell (i := 0) rfl
    have f_r_0_wr := x_r.frozen 0
    have c_r_1_wr := x_r.cell (i := 1) rfl
    have f_r_1_wr := x_r.frozen 1
    have c_o_0_wr := x_o.cell (i := 0) rfl
    have f_o_0_wr := x_o.frozen 0
    have c_o_1_wr := x_o.cell (i := 1) rfl
    have f_o_1_wr := x_o.frozen 1
    by_cases hlt : k < r.Give.length
    case neg =>
      have hk2 : ¬ ((k : Int) < (r.Give.length : Int)) := by omega
      have hGr : G = r.Give := by rw [HG.out, List.take_of_length_le (by omega)]
      have HGr := Lib.hid hGr
      clear hGr
      obtain ⟨w4, e_w4, s_w4, h_w4, y⟩ := store_step x_r [.slice Ag G.length cg, .slice A1 r.Spent.length c1] rfl
      replace e_w4 : ((wr.setCell ⟨w.heap.size + 1, 0, none⟩ (.slice Ag G.length cg)).setCell ⟨w.heap.size + 1, 1, none⟩ (.slice A1 r.Spent.length c1)) = w4 := e_w4
      have s_w4_1 := Nat.le_of_eq s_w4
      have s_w4_2 := Nat.le_of_eq s_w4.symm
      clear s_w4
      replace x_a := x_a.chg h_w4 (by omega)
      replace x_o := x_o.chg h_w4 (by omega)
      replace o_s := o_s.chg h_w4 (by omega)
      replace o_g := o_g.chg h_w4 (by omega)
      have B_w4 := Below.chg_ HB h_w4 (by omega) (by omega)
      replace x_r : Vr w4 (w.heap.size + 1) 27 [.slice Ag G.length cg, .slice A1 r.Spent.length c1] := y
      clear y
      have c_r_0_w4 := x_r.cell (i := 0) rfl
      have f_r_0_w4 := x_r.frozen 0
      have c_r_1_w4 := x_r.cell (i := 1) rfl
      have f_r_1_w4 := x_r.frozen 1
      go_wp2
      refine ret_cell (by rfl) (by rfl) x_r Try.underlying27 sz_rights (by rfl) ?_
      obtain rfl := HGr.out
      exact ⟨_, rfl, ov_rights (d := r) o_g o_s (by omega), B_w4⟩
    obtain ⟨K, hK⟩ := get_of_lt hlt
    have hKl := len_le_bulk hK
    obtain ⟨b, off, Ak, ck, rfl, hbK, hck, lk1, lk2, hrk⟩ := row_at (hrG.below HB) hK
    have j1 : (k : Int) < (r.Give.length : Int) := by omega
    obtain ⟨X, hX⟩ : ∃ X, G ++ [K] = X := ⟨_, rfl⟩
    have HX2 : Hid (X = r.Give.take (k + 1)) := by show _ = _; rw [← hX, HG.out, List.take_add_one, hK]; rfl
    have HX := Lib.hid hX
    clear hX hK
    have oN := own_none .i64 wr.drew wr.heap.size 3 (Nat.le_refl _)
    have bN : Below wr.heap.size wr (wr.drew.alloc (.cells #[] 3)) := ((Below.refl wr.heap.size wr).drew).alloc (Nat.le_refl _) _
    have bW : Below w.heap.size w (wr.drew.alloc (.cells #[] 3)) := HB.trans (bN.mono hs)
    have q1 : (wr.alloc (.cells #[] 3)).cell? ⟨w2.heap.size, 0, none⟩ = some (.slice Ag G.length cg) := (x_o.from_ bN).cell (i := 0) rfl
    go_wp2_with fail
    go_region_law (first
      | (refine step_appI .i64 (by rfl) (.tmp 20) (.tmp 21) 25 (by rfl) wr.heap.size 3 i1 8 Try.underlying25 hi1 hy0 hy1 hy2 (.slice (some ⟨wr.heap.size, 0, none⟩) 0 0) [] (by rfl) oN w.heap.size Ak ck K.length K (by rfl) rfl (hrk.below (bN.mono hs)) (by simp; omega) (by omega) (by simp) ?_; intro v2 wA oA gA _; (try rw [List.nil_append] at oA); have hA : Below wr.heap.size wr wA := grown_below bN oN gA (Nat.le_refl _) (by simp); obtain ⟨A2, c2, rfl, -, -, -⟩ := own_form oA; have hba : Below wA.heap.size wA (wA.alloc (.cells #[.slice A2 K.length c2] 25)) := (Below.refl _ _).alloc (Nat.le_refl _) _; have hAs := hA.size; obtain ⟨T, hT, hTn, hTr⟩ := os_blocks64 ((OS.mk_ oA).below hba); obtain ⟨ys, hrow, -, hback⟩ := OV.app_step ((o_g.below hA).below hba) hT hTn hTr hg0 hAs (by simp); have q2 : wA.cell? ⟨w2.heap.size, 0, none⟩ = some (.slice Ag G.length cg) := (x_o.from_ hA).cell (i := 0) rfl; have q3 : (wA.alloc (.cells #[.slice A2 K.length c2] 25)).cell? ⟨w2.heap.size, 0, none⟩ = some (.slice Ag G.length cg) := ((x_o.from_ hA).from_ hba).cell (i := 0) rfl)
      | (refine step_appN (by rfl) (.tmp 19) (.tmp 23) 24 (by rfl) 0 1 25 i0 (.slice none 0 0) 24 Try.underlying24 hi hz0 hz1 hz2 (by rfl) (by decide) (.slice Ag G.length cg) G.length ys (by rfl) hrow (wA.heap.size + 1) (some ⟨wA.heap.size, 0, none⟩) 1 1 [.slice A2 K.length c2] (by rfl) rfl (rdV_one _ _ _) slice_one (by omega) (by decide) (Nat.zero_le _) ?_; intro v3 wB ho3 hg3 hat3; obtain ⟨o3, hb3⟩ := hback v3 wB ho3 hg3 (by simpa using hat3); rw [HX.out] at o3; obtain ⟨A3, c3, rfl, -, -, -⟩ := rv_slice o3.rd; have hB2 : Below w3.heap.size wr wB := ((hA.mono hg0).trans (hba.mono (Nat.le_trans hg0 hAs))).trans hb3; have xB := x_o.below hB2 (by omega); have q4 := xB.cell (i := 0) rfl; have q5 := xB.frozen 0))
    all_goals
      clear q1 q2 q3 q4 q5 hback ho3 hg3 hat3 hrow hT hTr oA oN bN bW
      have hB3 := hB2.size
      replace x_a := x_a.below hB2 (by omega)
      replace x_r := x_r.below hB2 (by omega)
      have c_B : Chg w3.heap.size wB.heap.size wr wB := ⟨hB2.os, hB2.tape, hB2.output, hB2.size, fun j hj hd => hB2.block j (by omega)⟩
      replace o_s := o_s.chg c_B (by omega)
      have HB5 := HB.trans (hB2.mono (by omega))
      obtain ⟨wS, eS, sS, hS, y⟩ := set_step xB 0 (.slice A3 X.length c3)
      rw [eS]
      have sS_1 := Nat.le_of_eq sS
      have sS_2 := Nat.le_of_eq sS.symm
      clear sS
      replace y : Vr wS (w2.heap.size) 27 [.slice A3 X.length c3, .slice A1 r.Spent.length c1] := y
      replace x_a := x_a.chg hS (by omega)
      replace x_r := x_r.chg hS (by omega)
      replace o_s := o_s.chg hS (by omega)
      replace o3 := o3.chg hS (by omega)
      replace o3 := o3.widen (Nat.le_refl _) (hi' := wS.heap.size) (by omega) (Nat.le_refl _)
      have HB6 := Below.chg_ HB5 hS (by omega) (by omega)
      go_wp2
      go_roundw
      case rel => exact ⟨k + 1, X, A3, c3, by omega, by go_num, HX2, x_a, x_r, y, o3, o_s, HB6, by omega⟩
      case measure => simp [intOf]; omega

end Go.Proofs.Ytmbipgnecjlicaa
