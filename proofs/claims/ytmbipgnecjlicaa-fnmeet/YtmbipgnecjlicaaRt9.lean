/- Rights: the contract of spec.RightsNew. Laid by a program of ours (src/rt9.py). -/
import Derived.Test.YtmbipgnecjlicaaMeetMath
namespace Go.Proofs.Ytmbipgnecjlicaa
open Go.RowKit
set_option linter.unusedVariables false

def rightsNew (n : Int) : MRights := if inB n 1 4 = true then ⟨List.replicate n.toNat (List.replicate n.toNat 0), List.replicate n.toNat 0⟩ else rZ
theorem own_zeros {w : World} {base n : Nat} (hb : base ≤ w.heap.size) (hn : n ≤ 16777216) : Own .i64 (w.alloc (.cells (List.replicate n (Value.int .i64 0)).toArray 3)) base 3 (.slice (some ⟨w.heap.size, 0, none⟩) n n) (List.replicate n 0) := by
  have h := World.ownsRow_lit (base := base) (e := 3) (size := 1) w (List.replicate n (Value.int .i64 0)).toArray n hb (by unfold maxLen; omega) (by simp)
  simpa [Own] using h

set_option maxRecDepth 100000 in
set_option maxHeartbeats 1000000 in
theorem sRightsNew_c {w : World} {n : Int} : Calls Try.prog 30 #[.int .i64 n] w (NewV rightsL w (rightsNew n)) := by
  obtain ⟨wa, hwa, B0, sa, x_r⟩ := frame1 w 27 [.slice none 0 0, .slice none 0 0]
  have sa_1 := Nat.le_of_eq sa
  have sa_2 := Nat.le_of_eq sa.symm
  clear sa
  have c_r_0_wa := x_r.cell (i := 0) rfl
  have f_r_0_wa := x_r.frozen 0
  have c_r_1_wa := x_r.cell (i := 1) rfl
  have f_r_1_wa := x_r.frozen 1
  by_cases hn : 1 ≤ n ∧ n ≤ 4
  case neg =>
    have HI : Hid (inB n 1 4 = false) := inB_false.2 (by omega)
    have HO : Hid (rightsNew n = rZ) := if_neg (by rw [HI.out]; decide)
    go_enter Try.func30, Try.ntmps30
    go_wp2_with fail
    refine (sIn_any _ _ _ _).mono ?_
    rintro e w' ⟨rfl, rfl⟩
    rw [HI.out]
    have i_r_0 := x_r.same (i := 0) rfl
    have i_r_1 := x_r.same (i := 1) rfl
    go_wp2
    refine ret_cell (by rfl) (by rfl) x_r Try.underlying27 sz_rights (by rfl) ?_
    rw [HO.out]
    exact ⟨_, rfl, ov_rZ (Nat.le_refl _), B0⟩
  have HI : Hid (inB n 1 4 = true) := inB_true.2 (by omega)
  obtain ⟨N, rfl⟩ : ∃ N : Nat, n = (N : Int) := ⟨n.toNat, by omega⟩
  have HO : Hid (rightsNew (N : Int) = ⟨List.replicate N (List.replicate N 0), List.replicate N 0⟩) := by show _ = _; unfold rightsNew; rw [if_pos HI.out]; rfl
  obtain ⟨i0, hi, hz0, hz1, hz2⟩ := info_parts Try.info_is
  obtain ⟨i1, hi1, hy0, hy1, hy2⟩ := info_parts Try.info_i64
  go_enter Try.func30, Try.ntmps30
  go_wp2_with fail
  refine (sIn_any _ _ _ _).mono ?_
  rintro e w' ⟨rfl, rfl⟩
  rw [HI.out]
  go_wp2_with (at_make; refine wpList_make_full _ rfl _ _ 25 rfl wa.heap.size 3 i1 (.int .i64 0) 1 Try.underlying25 hi1 hy0 hy1 .i64 .i64 _ _ N rfl rfl rfl rfl ?c1 ?c2 ?c3 ?_)
  case c1 => rw [hy2]; omega
  case c2 => unfold maxLen; omega
  case c3 => exact Nat.le_refl _
  intro w1 own1 g1
  have h1 : Below wa.heap.size wa w1 := (Below.refl _ _).grown g1 (Nat.le_refl _) (by intro k hk; cases hk)
  have o_s : OS .i64 3 w1 wa.heap.size w1.heap.size (.slice (some ⟨wa.heap.size, 0, none⟩) N N) (List.replicate N 0) := OS.mk_ (by simpa [Own, toList_madeCells_one, Value.cells] using own1)
  clear own1 g1
  clear c_r_0_wa f_r_0_wa c_r_1_wa f_r_1_wa
  replace x_r := x_r.from_ h1
  have B_w1 := B0.trans (h1.mono B0.size)
  have s_w1 := h1.size
  have c_r_0_w1 := x_r.cell (i := 0) rfl
  have f_r_0_w1 := x_r.frozen 0
  have c_r_1_w1 := x_r.cell (i := 1) rfl
  have f_r_1_w1 := x_r.frozen 1
  obtain ⟨w2, e_w2, s_w2, h_w2, x_o⟩ := alloc_step w1 27 [.slice none 0 0, .slice (some ⟨wa.heap.size, 0, none⟩) N N]
  have s_w2_1 := Nat.le_of_eq s_w2
  have s_w2_2 := Nat.le_of_eq s_w2.symm
  clear s_w2
  replace x_r := x_r.from_ h_w2
  replace o_s := o_s.below h_w2
  have B_w2 := B_w1.trans (h_w2.mono B_w1.size)
  have c_r_0_w2 := x_r.cell (i := 0) rfl
  have f_r_0_w2 := x_r.frozen 0
  have c_r_1_w2 := x_r.cell (i := 1) rfl
  have f_r_1_w2 := x_r.frozen 1
  have c_o_0_w2 := x_o.cell (i := 0) rfl
  have f_o_0_w2 := x_o.frozen 0
  have c_o_1_w2 := x_o.cell (i := 1) rfl
  have f_o_1_w2 := x_o.frozen 1
  have o_g := ov_ss_nil (w := w2) (lo := w2.heap.size) (Nat.le_refl _)
  go_wp2
  go_loopw [4] (fun j wr => ∃ (k : Nat) (G : List (List Int)) (Ag : Option Addr) (cg : Nat), k ≤ N ∧ j = .int .i64 k ∧ Hid (G = List.replicate k (List.replicate N 0)) ∧ Vr wr (w.heap.size) 27 [.slice none 0 0, .slice none 0 0] ∧ Vr wr (w1.heap.size) 27 [.slice Ag G.length cg, .slice (some ⟨wa.heap.size, 0, none⟩) N N] ∧ OV intSSL wr w2.heap.size wr.heap.size (.slice Ag G.length cg) G ∧ OS .i64 3 wr wa.heap.size w1.heap.size (.slice (some ⟨wa.heap.size, 0, none⟩) N N) (List.replicate N 0) ∧ Below w.heap.size w wr ∧ w2.heap.size ≤ wr.heap.size) (fun j _ => N - (intOf j).toNat)
  case atStart => exact ⟨0, [], none, 0, Nat.zero_le _, rfl, rfl, x_r, x_o, o_g, o_s, B_w2, Nat.le_refl _⟩
  case round =>
    clear c_r_0_w1 f_r_0_w1 c_r_1_w1 f_r_1_w1 c_r_0_w2 f_r_0_w2 c_r_1_w2 f_r_1_w2 c_o_0_w2 f_o_0_w2 c_o_1_w2 f_o_1_w2
    clear x_r x_o o_g o_s
    obtain ⟨k, G, Ag, cg, hk, rfl, HG, x_r, x_o, o_g, o_s, HB, hg0⟩ := hrel
    have hs := HB.size
    have lG2 : G.length ≤ k := by rw [HG.out]; simp
    have c_r_0_wr := x_r.cell (i := 0) rfl
    have f_r_0_wr := x_r.frozen 0
    have c_r_1_wr := x_r.cell (i := 1) rfl
    have f_r_1_wr := x_r.frozen 1
    have c_o_0_wr := x_o.cell (i := 0) rfl
    have f_o_0_wr := x_o.frozen 0
    have c_o_1_wr := x_o.cell (i := 1) rfl
    have f_o_1_wr := x_o.frozen 1
    by_cases hlt : k < N
    case neg =>
      have hk2 : ¬ ((k : Int) < (N : Int)) := by omega
      have HGr : Hid (G = List.replicate N (List.replicate N 0)) := by show _ = _; rw [HG.out, show k = N by omega]
      obtain ⟨w3, e_w3, s_w3, h_w3, y⟩ := store_step x_r [.slice Ag G.length cg, .slice (some ⟨wa.heap.size, 0, none⟩) N N] rfl
      replace e_w3 : ((wr.setCell ⟨w.heap.size, 0, none⟩ (.slice Ag G.length cg)).setCell ⟨w.heap.size, 1, none⟩ (.slice (some ⟨wa.heap.size, 0, none⟩) N N)) = w3 := e_w3
      have s_w3_1 := Nat.le_of_eq s_w3
      have s_w3_2 := Nat.le_of_eq s_w3.symm
      clear s_w3
      replace x_o := x_o.chg h_w3 (by omega)
      replace o_s := o_s.chg h_w3 (by omega)
      replace o_g := o_g.chg h_w3 (by omega)
      have B_w3 := Below.chg_ HB h_w3 (by omega) (by omega)
      replace x_r : Vr w3 (w.heap.size) 27 [.slice Ag G.length cg, .slice (some ⟨wa.heap.size, 0, none⟩) N N] := y
      clear y
      have c_r_0_w3 := x_r.cell (i := 0) rfl
      have f_r_0_w3 := x_r.frozen 0
      have c_r_1_w3 := x_r.cell (i := 1) rfl
      have f_r_1_w3 := x_r.frozen 1
      go_wp2
      refine ret_cell (by rfl) (by rfl) x_r Try.underlying27 sz_rights (by rfl) ?_
      rw [HO.out]
      rw [← HGr.out]
      exact ⟨_, rfl, ov_rights (d := ⟨G, List.replicate N 0⟩) o_g o_s (by omega), B_w3⟩
    have j1 : (k : Int) < (N : Int) := by omega
    obtain ⟨wM, hrun, ownM, gM⟩ := run_makeSlice_full (P := Try.prog) wr.drew wr.heap.size 25 3 i1 (.int .i64 0) 1 Try.underlying25 hi1 hy0 hy1 .i64 .i64 N (by omega) (by rw [hy2]; omega) (by unfold maxLen; omega) (Nat.le_refl _)
    replace hrun : (Instr.makeSlice 25 (.int .i64 (N : Int)) (.int .i64 (N : Int))).run Try.prog wr.drew = .ok (.slice (some ⟨wr.heap.size, 0, none⟩) N N) wM := hrun
    have hM : Below wr.heap.size wr wM := ((Below.refl wr.heap.size wr).drew).grown gM (Nat.le_refl _) (by intro k hk; cases hk)
    have oM : OS .i64 3 wM wr.heap.size wM.heap.size (.slice (some ⟨wr.heap.size, 0, none⟩) N N) (List.replicate N 0) := OS.mk_ (by have h : wM.ownsRow wr.heap.size 3 1 (.slice (some ⟨wr.heap.size, 0, none⟩) N N) N _ := ownM; simpa [Own, toList_madeCells_one, Value.cells] using h)
    clear ownM gM
    obtain ⟨K, hK⟩ : ∃ K : List Int, List.replicate N 0 = K := ⟨_, rfl⟩
    rw [hK] at oM
    obtain ⟨X, hX⟩ : ∃ X, G ++ [K] = X := ⟨_, rfl⟩
    have HX2 : Hid (X = List.replicate (k + 1) (List.replicate N 0)) := by show _ = _; rw [← hX, hK, HG.out, hK, List.replicate_succ']
    have HX := Lib.hid hX
    clear hX hK
    have hba : Below wM.heap.size wM (wM.alloc (.cells #[.slice (some ⟨wr.heap.size, 0, none⟩) N N] 25)) := (Below.refl _ _).alloc (Nat.le_refl _) _
    have hMs := hM.size
    obtain ⟨T, hT, hTn, hTr⟩ := os_blocks64 (oM.below hba)
    obtain ⟨ys, hrow, -, hback⟩ := OV.app_step ((o_g.below hM).below hba) hT hTn hTr hg0 hMs (by simp)
    have q2 : wM.cell? ⟨w1.heap.size, 0, none⟩ = some (.slice Ag G.length cg) := (x_o.from_ hM).cell (i := 0) rfl
    have q3 : (wM.alloc (.cells #[.slice (some ⟨wr.heap.size, 0, none⟩) N N] 25)).cell? ⟨w1.heap.size, 0, none⟩ = some (.slice Ag G.length cg) := ((x_o.from_ hM).from_ hba).cell (i := 0) rfl
    go_wp2_with fail
    go_region_law (first
      | (refine step_appN (by rfl) (.tmp 18) (.tmp 21) 24 (by rfl) 0 1 25 i0 (.slice none 0 0) 24 Try.underlying24 hi hz0 hz1 hz2 (by rfl) (by decide) (.slice Ag G.length cg) G.length ys (by rfl) hrow (wM.heap.size + 1) (some ⟨wM.heap.size, 0, none⟩) 1 1 [.slice (some ⟨wr.heap.size, 0, none⟩) N N] (by rfl) rfl (rdV_one _ _ _) slice_one (by omega) (by decide) (Nat.zero_le _) ?_; intro v3 wB ho3 hg3 hat3; obtain ⟨o3, hb3⟩ := hback v3 wB ho3 hg3 (by simpa using hat3); rw [HX.out] at o3; obtain ⟨A3, c3, rfl, -, -, -⟩ := rv_slice o3.rd; have hB2 : Below w2.heap.size wr wB := ((hM.mono hg0).trans (hba.mono (Nat.le_trans hg0 hMs))).trans hb3; have xB := x_o.below hB2 (by omega); have q4 := xB.cell (i := 0) rfl; have q5 := xB.frozen 0))
    all_goals
      clear q2 q3 q4 q5 hback ho3 hg3 hat3 hrow hT hTr oM hrun
      have hB3 := hB2.size
      replace x_r := x_r.below hB2 (by omega)
      have c_B : Chg w2.heap.size wB.heap.size wr wB := ⟨hB2.os, hB2.tape, hB2.output, hB2.size, fun j hj hd => hB2.block j (by omega)⟩
      replace o_s := o_s.chg c_B (by omega)
      have HB5 := HB.trans (hB2.mono (by omega))
      obtain ⟨wS, eS, sS, hS, y⟩ := set_step xB 0 (.slice A3 X.length c3)
      rw [eS]
      have sS_1 := Nat.le_of_eq sS
      have sS_2 := Nat.le_of_eq sS.symm
      clear sS
      replace y : Vr wS (w1.heap.size) 27 [.slice A3 X.length c3, .slice (some ⟨wa.heap.size, 0, none⟩) N N] := y
      replace x_r := x_r.chg hS (by omega)
      replace o_s := o_s.chg hS (by omega)
      replace o3 := o3.chg hS (by omega)
      replace o3 := o3.widen (Nat.le_refl _) (hi' := wS.heap.size) (by omega) (Nat.le_refl _)
      have HB6 := Below.chg_ HB5 hS (by omega) (by omega)
      go_wp2
      go_roundw
      case rel => exact ⟨k + 1, X, A3, c3, by omega, by go_num, HX2, x_r, y, o3, o_s, HB6, by omega⟩
      case measure => simp [intOf]; omega

end Go.Proofs.Ytmbipgnecjlicaa
