/- A node: the contract of spec.NodeNew. Laid by a program of ours (src/no4.py). -/
import Derived.Test.YtdoipabfmekdlaaBunN
import Derived.Test.YtdoipabfmekdlaaLayN
namespace Go.Proofs.Ytdoipabfmekdlaa
open Go.RowKit
set_option linter.unusedVariables false
set_option linter.unusedSimpArgs false

def nodeMk (id : Int) (n a : Nat) : MNode := ⟨id, (n : Int), List.replicate a acctZ, List.replicate n outNew, List.replicate n 0, List.replicate a accZ, 0, 0, 0⟩
def nodeNewB (id n a : Int) : Bool := inB a 1 3 && (inB n 1 4 && nodeOkB (nodeMk id n.toNat a.toNat))
def nodeNew (id n a : Int) : MNode := if nodeNewB id n a = true then nodeMk id n.toNat a.toNat else nodeZ
theorem nodeNew_bulk (id n a : Int) : (nodeNew id n a).bulk ≤ 16777216 := by
  unfold nodeNew
  split
  · rename_i h
    have h1 : inB a 1 3 = true ∧ inB n 1 4 = true := by
      unfold nodeNewB at h
      simp only [Bool.and_eq_true] at h
      exact ⟨h.1, h.2.1⟩
    have b1 := inB_true.1 h1.1
    have b2 := inB_true.1 h1.2
    have g1 : ∀ k, sumG MAcct.bulk (List.replicate k acctZ) = 0 := by intro k; simp [sumG, acctZ, MAcct.bulk]
    have g2 : ∀ k, sumG MOut.bulk (List.replicate k outNew) = 0 := by intro k; simp [sumG, outNew, MOut.bulk]
    unfold nodeMk MNode.bulk sizeAcctS sizeOutS
    simp only [g1, g2, List.length_replicate]
    omega
  · simp [nodeZ, MNode.bulk, sizeAcctS, sizeOutS, sumG]
theorem ov_nodeZ {w : World} {lo : Nat} (h : lo ≤ w.heap.size) : OV nodeL w lo lo (.agg #[.int .i64 0, .int .i64 0, .slice none 0 0, .slice none 0 0, .slice none 0 0, .slice none 0 0, .int .i64 0, .int .i64 0, .int .i64 0]) nodeZ := ov_node (d := nodeZ) (ov_nil_any h) (ov_nil_any h) (os_nil_any h) (ov_nil_any h) (by omega)
theorem ones_acct : ∀ u ∈ ([.int .i64 0, .int .i64 0, .int .i64 0, .slice none 0 0, .slice none 0 0] : List Value), u.oneCell' = true := by intro u hu; simp only [List.mem_cons, List.not_mem_nil, or_false] at hu; rcases hu with rfl | rfl | rfl | rfl | rfl <;> rfl
theorem ones_out : ∀ u ∈ ([.int .i64 1, .slice none 0 0] : List Value), u.oneCell' = true := by intro u hu; simp only [List.mem_cons, List.not_mem_nil, or_false] at hu; rcases hu with rfl | rfl <;> rfl
theorem ones_acc : ∀ u ∈ ([.int .i64 0, .int .i64 0, .int .i64 0] : List Value), u.oneCell' = true := by intro u hu; simp only [List.mem_cons, List.not_mem_nil, or_false] at hu; rcases hu with rfl | rfl | rfl <;> rfl
theorem own_outNew (w : World) : outL.own w [] [.int .i64 1, .slice none 0 0] outNew := ⟨_, _, [], [], rfl, rfl, ⟨rfl, rfl⟩, ⟨_, rfl, ownL_nil⟩⟩

set_option maxHeartbeats 1000000 in
theorem sAcctNew_v {w : World} : Calls Try.prog 49 #[] w fun e w' => e = .returned (.agg #[.int .i64 0, .int .i64 0, .int .i64 0, .slice none 0 0, .slice none 0 0]) ∧ Below w.heap.size w w' := by
  obtain ⟨wa, hwa, B0, sa, x_r⟩ := frame1 w 52 [.int .i64 0, .int .i64 0, .int .i64 0, .slice none 0 0, .slice none 0 0]
  have sa_1 := Nat.le_of_eq sa
  have sa_2 := Nat.le_of_eq sa.symm
  clear sa
  have c_r_0_wa := x_r.cell (i := 0) rfl
  have f_r_0_wa := x_r.frozen 0
  have c_r_1_wa := x_r.cell (i := 1) rfl
  have f_r_1_wa := x_r.frozen 1
  have c_r_2_wa := x_r.cell (i := 2) rfl
  have f_r_2_wa := x_r.frozen 2
  have c_r_3_wa := x_r.cell (i := 3) rfl
  have f_r_3_wa := x_r.frozen 3
  have c_r_4_wa := x_r.cell (i := 4) rfl
  have f_r_4_wa := x_r.frozen 4
  go_enter Try.func49, Try.ntmps49
  have i_r_0 := x_r.same (i := 0) rfl
  have i_r_1 := x_r.same (i := 1) rfl
  have i_r_2 := x_r.same (i := 2) rfl
  have i_r_3 := x_r.same (i := 3) rfl
  have i_r_4 := x_r.same (i := 4) rfl
  go_wp2
  refine ret_cell (by rfl) (by rfl) x_r Try.underlying52 sz_acct (by rfl) ?_
  exact ⟨rfl, B0⟩

set_option maxHeartbeats 1000000 in
theorem sOutNew_v {w : World} : Calls Try.prog 36 #[] w fun e w' => e = .returned (.agg #[.int .i64 1, .slice none 0 0]) ∧ Below w.heap.size w w' := by
  obtain ⟨wa, hwa, B0, sa, x_r⟩ := frame1 w 59 [.int .i64 0, .slice none 0 0]
  have sa_1 := Nat.le_of_eq sa
  have sa_2 := Nat.le_of_eq sa.symm
  clear sa
  have c_r_0_wa := x_r.cell (i := 0) rfl
  have f_r_0_wa := x_r.frozen 0
  have c_r_1_wa := x_r.cell (i := 1) rfl
  have f_r_1_wa := x_r.frozen 1
  go_enter Try.func36, Try.ntmps36
  obtain ⟨w1, e_w1, s_w1, h_w1, y⟩ := store_step x_r [.int .i64 1, .slice none 0 0] rfl
  replace e_w1 : ((wa.setCell ⟨w.heap.size, 0, none⟩ (.int .i64 1)).setCell ⟨w.heap.size, 1, none⟩ (.slice none 0 0)) = w1 := e_w1
  have s_w1_1 := Nat.le_of_eq s_w1
  have s_w1_2 := Nat.le_of_eq s_w1.symm
  clear s_w1
  have B_w1 := Below.chg_ B0 h_w1 (by omega) (by omega)
  replace x_r : Vr w1 (w.heap.size) 59 [.int .i64 1, .slice none 0 0] := y
  clear y
  have c_r_0_w1 := x_r.cell (i := 0) rfl
  have f_r_0_w1 := x_r.frozen 0
  have c_r_1_w1 := x_r.cell (i := 1) rfl
  have f_r_1_w1 := x_r.frozen 1
  go_wp2
  refine ret_cell (by rfl) (by rfl) x_r Try.underlying59 sz_out (by rfl) ?_
  exact ⟨rfl, B_w1⟩

set_option maxRecDepth 100000 in
set_option maxHeartbeats 8000000 in
theorem sNodeNew_c {w : World} {id n a : Int} : Calls Try.prog 14 #[.int .i64 id, .int .i64 n, .int .i64 a] w (NewVB nodeL w (nodeNew id n a) (nodeNewB id n a)) := by
  obtain ⟨i0, hi, hz0, hz1, hz2⟩ := info_parts Try.info_acct
  obtain ⟨j0, hj, yz0, yz1, yz2⟩ := info_parts Try.info_acc
  obtain ⟨p0, hp, xz0, xz1, xz2⟩ := info_parts Try.info_out
  obtain ⟨q0, hq, uz0, uz1, uz2⟩ := info_parts Try.info_i64
  obtain ⟨wa, hwa, B0, sa, x_r⟩ := frame1 w 34 [.int .i64 0, .int .i64 0, .slice none 0 0, .slice none 0 0, .slice none 0 0, .slice none 0 0, .int .i64 0, .int .i64 0, .int .i64 0]
  have sa_1 := Nat.le_of_eq sa
  have sa_2 := Nat.le_of_eq sa.symm
  clear sa
  have c_r_0_wa := x_r.cell (i := 0) rfl
  have f_r_0_wa := x_r.frozen 0
  have c_r_1_wa := x_r.cell (i := 1) rfl
  have f_r_1_wa := x_r.frozen 1
  have c_r_2_wa := x_r.cell (i := 2) rfl
  have f_r_2_wa := x_r.frozen 2
  have c_r_3_wa := x_r.cell (i := 3) rfl
  have f_r_3_wa := x_r.frozen 3
  have c_r_4_wa := x_r.cell (i := 4) rfl
  have f_r_4_wa := x_r.frozen 4
  have c_r_5_wa := x_r.cell (i := 5) rfl
  have f_r_5_wa := x_r.frozen 5
  have c_r_6_wa := x_r.cell (i := 6) rfl
  have f_r_6_wa := x_r.frozen 6
  have c_r_7_wa := x_r.cell (i := 7) rfl
  have f_r_7_wa := x_r.frozen 7
  have c_r_8_wa := x_r.cell (i := 8) rfl
  have f_r_8_wa := x_r.frozen 8
  obtain ⟨w1, e_w1, s_w1, h_w1, x_x⟩ := alloc_step wa 34 [.int .i64 id, .int .i64 n, .slice none 0 0, .slice none 0 0, .slice none 0 0, .slice none 0 0, .int .i64 0, .int .i64 0, .int .i64 0]
  have s_w1_1 := Nat.le_of_eq s_w1
  have s_w1_2 := Nat.le_of_eq s_w1.symm
  clear s_w1
  replace x_r := x_r.from_ h_w1
  have B_w1 := B0.trans (h_w1.mono B0.size)
  have i_w1_8 := x_x.same (i := 8) rfl
  have i_w1_7 := x_x.same (i := 7) rfl
  have i_w1_6 := x_x.same (i := 6) rfl
  have i_w1_5 := x_x.same (i := 5) rfl
  have i_w1_4 := x_x.same (i := 4) rfl
  have i_w1_3 := x_x.same (i := 3) rfl
  have i_w1_2 := x_x.same (i := 2) rfl
  have c_r_0_w1 := x_r.cell (i := 0) rfl
  have f_r_0_w1 := x_r.frozen 0
  have c_r_1_w1 := x_r.cell (i := 1) rfl
  have f_r_1_w1 := x_r.frozen 1
  have c_r_2_w1 := x_r.cell (i := 2) rfl
  have f_r_2_w1 := x_r.frozen 2
  have c_r_3_w1 := x_r.cell (i := 3) rfl
  have f_r_3_w1 := x_r.frozen 3
  have c_r_4_w1 := x_r.cell (i := 4) rfl
  have f_r_4_w1 := x_r.frozen 4
  have c_r_5_w1 := x_r.cell (i := 5) rfl
  have f_r_5_w1 := x_r.frozen 5
  have c_r_6_w1 := x_r.cell (i := 6) rfl
  have f_r_6_w1 := x_r.frozen 6
  have c_r_7_w1 := x_r.cell (i := 7) rfl
  have f_r_7_w1 := x_r.frozen 7
  have c_r_8_w1 := x_r.cell (i := 8) rfl
  have f_r_8_w1 := x_r.frozen 8
  have c_x_0_w1 := x_x.cell (i := 0) rfl
  have f_x_0_w1 := x_x.frozen 0
  have c_x_1_w1 := x_x.cell (i := 1) rfl
  have f_x_1_w1 := x_x.frozen 1
  have c_x_2_w1 := x_x.cell (i := 2) rfl
  have f_x_2_w1 := x_x.frozen 2
  have c_x_3_w1 := x_x.cell (i := 3) rfl
  have f_x_3_w1 := x_x.frozen 3
  have c_x_4_w1 := x_x.cell (i := 4) rfl
  have f_x_4_w1 := x_x.frozen 4
  have c_x_5_w1 := x_x.cell (i := 5) rfl
  have f_x_5_w1 := x_x.frozen 5
  have c_x_6_w1 := x_x.cell (i := 6) rfl
  have f_x_6_w1 := x_x.frozen 6
  have c_x_7_w1 := x_x.cell (i := 7) rfl
  have f_x_7_w1 := x_x.frozen 7
  have c_x_8_w1 := x_x.cell (i := 8) rfl
  have f_x_8_w1 := x_x.frozen 8
  by_cases hA : inB a 1 3 = true
  case neg =>
    replace hA : inB a 1 3 = false := by simpa using hA
    have HB0 : Hid (nodeNewB id n a = false) := by show _ = _; unfold nodeNewB; rw [hA]; simp
    have HO : Hid (nodeNew id n a = nodeZ) := if_neg (by rw [HB0.out]; decide)
    have HA := Lib.hid hA
    clear hA
    have i_r_0_w1 := x_r.same (i := 0) rfl
    have i_r_1_w1 := x_r.same (i := 1) rfl
    have i_r_2_w1 := x_r.same (i := 2) rfl
    have i_r_3_w1 := x_r.same (i := 3) rfl
    have i_r_4_w1 := x_r.same (i := 4) rfl
    have i_r_5_w1 := x_r.same (i := 5) rfl
    have i_r_6_w1 := x_r.same (i := 6) rfl
    have i_r_7_w1 := x_r.same (i := 7) rfl
    have i_r_8_w1 := x_r.same (i := 8) rfl
    go_enter Try.func14, Try.ntmps14
    go_wp2_with fail
    refine (sIn_any _ _ _ _).mono ?_
    rintro e w' ⟨rfl, rfl⟩
    rw [HA.out]
    go_wp2
    refine ret_cell_tmp (by rfl) (by rfl) x_r Try.underlying34 sz_node (by rfl) ?_
    rw [HO.out, HB0.out]
    exact ⟨_, rfl, (ov_nodeZ (lo := w.heap.size) (by omega)).widen (Nat.le_refl _) (by omega) (Nat.le_refl _), B_w1⟩
  by_cases hN : inB n 1 4 = true
  case neg =>
    replace hN : inB n 1 4 = false := by simpa using hN
    have HB0 : Hid (nodeNewB id n a = false) := by show _ = _; unfold nodeNewB; rw [hN]; simp
    have HO : Hid (nodeNew id n a = nodeZ) := if_neg (by rw [HB0.out]; decide)
    have HA := Lib.hid hA
    have HN := Lib.hid hN
    clear hA hN
    have i_r_0_w1 := x_r.same (i := 0) rfl
    have i_r_1_w1 := x_r.same (i := 1) rfl
    have i_r_2_w1 := x_r.same (i := 2) rfl
    have i_r_3_w1 := x_r.same (i := 3) rfl
    have i_r_4_w1 := x_r.same (i := 4) rfl
    have i_r_5_w1 := x_r.same (i := 5) rfl
    have i_r_6_w1 := x_r.same (i := 6) rfl
    have i_r_7_w1 := x_r.same (i := 7) rfl
    have i_r_8_w1 := x_r.same (i := 8) rfl
    go_enter Try.func14, Try.ntmps14
    go_wp2_with fail
    refine (sIn_any _ _ _ _).mono ?_
    rintro e w' ⟨rfl, rfl⟩
    rw [HA.out]
    go_wp2_with fail
    refine (sIn_any _ _ _ _).mono ?_
    rintro e w' ⟨rfl, rfl⟩
    rw [HN.out]
    go_wp2
    refine ret_cell_tmp (by rfl) (by rfl) x_r Try.underlying34 sz_node (by rfl) ?_
    rw [HO.out, HB0.out]
    exact ⟨_, rfl, (ov_nodeZ (lo := w.heap.size) (by omega)).widen (Nat.le_refl _) (by omega) (Nat.le_refl _), B_w1⟩
  have HA := Lib.hid hA
  have HN := Lib.hid hN
  have ba := inB_true.1 hA
  have bn := inB_true.1 hN
  obtain ⟨K, rfl⟩ : ∃ K : Nat, a = (K : Int) := ⟨a.toNat, by omega⟩
  obtain ⟨M, rfl⟩ : ∃ M : Nat, n = (M : Int) := ⟨n.toNat, by omega⟩
  clear hA hN
  go_enter Try.func14, Try.ntmps14
  go_wp2_with fail
  refine (sIn_any _ _ _ _).mono ?_
  rintro e w' ⟨rfl, rfl⟩
  rw [HA.out]
  go_wp2_with fail
  refine (sIn_any _ _ _ _).mono ?_
  rintro e w' ⟨rfl, rfl⟩
  rw [HN.out]
  go_wp2
  go_loopw [9] (fun s9 wr => ∃ (k : Nat) (G : List MAcct) (C : List MAcc) (AG AC : Option Addr) (cG cC l1 h1 l2 h2 : Nat), k ≤ K ∧ s9 = .int .i64 k ∧ Hid (G = List.replicate k acctZ ∧ C = List.replicate k accZ) ∧ Vr wr w.heap.size 34 [.int .i64 0, .int .i64 0, .slice none 0 0, .slice none 0 0, .slice none 0 0, .slice none 0 0, .int .i64 0, .int .i64 0, .int .i64 0] ∧ Vr wr (wa.heap.size) 34 [.int .i64 id, .int .i64 (M : Int), .slice AG G.length cG, .slice none 0 0, .slice none 0 0, .slice AC C.length cC, .int .i64 0, .int .i64 0, .int .i64 0] ∧ OV (sliceL 52 5 (nilL acctL)) wr l1 h1 (.slice AG G.length cG) G ∧ OV accSL wr l2 h2 (.slice AC C.length cC) C ∧ (w1.heap.size ≤ l1 ∧ w1.heap.size ≤ l2 ∧ (h1 ≤ l2 ∨ h2 ≤ l1) ∧ l1 ≤ wr.heap.size ∧ l2 ≤ wr.heap.size) ∧ Below w.heap.size w wr) (fun s9 _ => K - (intOf s9).toNat)
  case atStart => exact ⟨0, [], [], none, none, 0, 0, _, _, _, _, Nat.zero_le _, rfl, ⟨rfl, rfl⟩, x_r, x_x, ov_nil_any (Nat.le_refl _), ov_nil_any (Nat.le_refl _), ⟨Nat.le_refl _, Nat.le_refl _, .inl (Nat.le_refl _), Nat.le_refl _, Nat.le_refl _⟩, B_w1⟩
  case round =>
    clear c_r_0_wa f_r_0_wa c_r_1_wa f_r_1_wa c_r_2_wa f_r_2_wa c_r_3_wa f_r_3_wa c_r_4_wa f_r_4_wa c_r_5_wa f_r_5_wa c_r_6_wa f_r_6_wa c_r_7_wa f_r_7_wa c_r_8_wa f_r_8_wa i_w1_8 i_w1_7 i_w1_6 i_w1_5 i_w1_4 i_w1_3 i_w1_2 c_r_0_w1 f_r_0_w1 c_r_1_w1 f_r_1_w1 c_r_2_w1 f_r_2_w1 c_r_3_w1 f_r_3_w1 c_r_4_w1 f_r_4_w1 c_r_5_w1 f_r_5_w1 c_r_6_w1 f_r_6_w1 c_r_7_w1 f_r_7_w1 c_r_8_w1 f_r_8_w1 c_x_0_w1 f_x_0_w1 c_x_1_w1 f_x_1_w1 c_x_2_w1 f_x_2_w1 c_x_3_w1 f_x_3_w1 c_x_4_w1 f_x_4_w1 c_x_5_w1 f_x_5_w1 c_x_6_w1 f_x_6_w1 c_x_7_w1 f_x_7_w1 c_x_8_w1 f_x_8_w1
    clear x_r x_x hwa
    obtain ⟨k, G, C, AG, AC, cG, cC, l1, h1, l2, h2, hk, rfl, HG, x_r, x_x, oG, oC, hd, HB⟩ := hrel
    have hs := HB.size
    have lG : G.length ≤ 3 := by rw [HG.out.1]; simp; omega
    have lC : C.length ≤ 3 := by rw [HG.out.2]; simp; omega
    have e1 := oG.le_
    have e2 := oC.le_
    have lx := x_x.lt
    have c_r_0_wr := x_r.cell (i := 0) rfl
    have f_r_0_wr := x_r.frozen 0
    have c_r_1_wr := x_r.cell (i := 1) rfl
    have f_r_1_wr := x_r.frozen 1
    have c_r_2_wr := x_r.cell (i := 2) rfl
    have f_r_2_wr := x_r.frozen 2
    have c_r_3_wr := x_r.cell (i := 3) rfl
    have f_r_3_wr := x_r.frozen 3
    have c_r_4_wr := x_r.cell (i := 4) rfl
    have f_r_4_wr := x_r.frozen 4
    have c_r_5_wr := x_r.cell (i := 5) rfl
    have f_r_5_wr := x_r.frozen 5
    have c_r_6_wr := x_r.cell (i := 6) rfl
    have f_r_6_wr := x_r.frozen 6
    have c_r_7_wr := x_r.cell (i := 7) rfl
    have f_r_7_wr := x_r.frozen 7
    have c_r_8_wr := x_r.cell (i := 8) rfl
    have f_r_8_wr := x_r.frozen 8
    have c_x_0_wr := x_x.cell (i := 0) rfl
    have f_x_0_wr := x_x.frozen 0
    have c_x_1_wr := x_x.cell (i := 1) rfl
    have f_x_1_wr := x_x.frozen 1
    have c_x_2_wr := x_x.cell (i := 2) rfl
    have f_x_2_wr := x_x.frozen 2
    have c_x_3_wr := x_x.cell (i := 3) rfl
    have f_x_3_wr := x_x.frozen 3
    have c_x_4_wr := x_x.cell (i := 4) rfl
    have f_x_4_wr := x_x.frozen 4
    have c_x_5_wr := x_x.cell (i := 5) rfl
    have f_x_5_wr := x_x.frozen 5
    have c_x_6_wr := x_x.cell (i := 6) rfl
    have f_x_6_wr := x_x.frozen 6
    have c_x_7_wr := x_x.cell (i := 7) rfl
    have f_x_7_wr := x_x.frozen 7
    have c_x_8_wr := x_x.cell (i := 8) rfl
    have f_x_8_wr := x_x.frozen 8
    by_cases hlt : k < K
    case neg =>
      have hk2 : ¬ ((k : Int) < (K : Int)) := by omega
      have HGK : Hid (G = List.replicate K acctZ ∧ C = List.replicate K accZ) := by show _ ∧ _; rw [show K = k by omega]; exact HG.out
      clear HG
      go_wp2
      obtain ⟨wL, hwL⟩ : ∃ x, x = wr := ⟨_, rfl⟩
      have zL : wL.heap.size = wr.heap.size := by rw [hwL]
      obtain ⟨zl, hzl⟩ : ∃ z, z = wr.heap.size := ⟨_, rfl⟩
      go_loopw [10] (fun s10 wr => ∃ (j : Nat) (O : List MOut) (I : List Int) (AO AI : Option Addr) (cO cI l3 h3 l4 h4 : Nat), j ≤ M ∧ s10 = .int .i64 j ∧ Hid (O = List.replicate j outNew ∧ I = List.replicate j 0) ∧ Vr wr w.heap.size 34 [.int .i64 0, .int .i64 0, .slice none 0 0, .slice none 0 0, .slice none 0 0, .slice none 0 0, .int .i64 0, .int .i64 0, .int .i64 0] ∧ Vr wr (wa.heap.size) 34 [.int .i64 id, .int .i64 (M : Int), .slice AG G.length cG, .slice AO O.length cO, .slice AI I.length cI, .slice AC C.length cC, .int .i64 0, .int .i64 0, .int .i64 0] ∧ OV (sliceL 52 5 (nilL acctL)) wr l1 h1 (.slice AG G.length cG) G ∧ OV accSL wr l2 h2 (.slice AC C.length cC) C ∧ OV (sliceL 59 2 (nilL outL)) wr l3 h3 (.slice AO O.length cO) O ∧ OS .i64 3 wr l4 h4 (.slice AI I.length cI) I ∧ (h1 ≤ zl ∧ h2 ≤ zl ∧ zl ≤ l3 ∧ zl ≤ l4 ∧ (h3 ≤ l4 ∨ h4 ≤ l3) ∧ l3 ≤ wr.heap.size ∧ l4 ≤ wr.heap.size) ∧ Below w.heap.size w wr) (fun s10 _ => M - (intOf s10).toNat)
      case atStart => exact ⟨0, [], [], none, none, 0, 0, _, _, _, _, Nat.zero_le _, rfl, ⟨rfl, rfl⟩, x_r, x_x, oG, oC, ov_nil_any (Nat.le_refl _), os_nil_any (Nat.le_refl _), ⟨by omega, by omega, by omega, by omega, .inl (Nat.le_refl _), Nat.le_refl _, Nat.le_refl _⟩, HB⟩
      case round =>
        clear c_r_0_wr f_r_0_wr c_r_1_wr f_r_1_wr c_r_2_wr f_r_2_wr c_r_3_wr f_r_3_wr c_r_4_wr f_r_4_wr c_r_5_wr f_r_5_wr c_r_6_wr f_r_6_wr c_r_7_wr f_r_7_wr c_r_8_wr f_r_8_wr c_x_0_wr f_x_0_wr c_x_1_wr f_x_1_wr c_x_2_wr f_x_2_wr c_x_3_wr f_x_3_wr c_x_4_wr f_x_4_wr c_x_5_wr f_x_5_wr c_x_6_wr f_x_6_wr c_x_7_wr f_x_7_wr c_x_8_wr f_x_8_wr
        clear x_r x_x oG oC HB hs e1 e2 lx zL hwL hlt hk2
        obtain ⟨j, O, I, AO, AI, cO, cI, l3, h3, l4, h4, hj, rfl, HO1, x_r, x_x, oG, oC, oO, oI, hd2, HB⟩ := hrel
        have hs := HB.size
        have lO : O.length ≤ 4 := by rw [HO1.out.1]; simp; omega
        have lI : I.length ≤ 4 := by rw [HO1.out.2]; simp; omega
        have e1 := oG.le_
        have e2 := oC.le_
        have e3 := oO.le_
        have e4 := oI.2.2
        have lx := x_x.lt
        have lr := x_r.lt
        have c_r_0_wr := x_r.cell (i := 0) rfl
        have f_r_0_wr := x_r.frozen 0
        have c_r_1_wr := x_r.cell (i := 1) rfl
        have f_r_1_wr := x_r.frozen 1
        have c_r_2_wr := x_r.cell (i := 2) rfl
        have f_r_2_wr := x_r.frozen 2
        have c_r_3_wr := x_r.cell (i := 3) rfl
        have f_r_3_wr := x_r.frozen 3
        have c_r_4_wr := x_r.cell (i := 4) rfl
        have f_r_4_wr := x_r.frozen 4
        have c_r_5_wr := x_r.cell (i := 5) rfl
        have f_r_5_wr := x_r.frozen 5
        have c_r_6_wr := x_r.cell (i := 6) rfl
        have f_r_6_wr := x_r.frozen 6
        have c_r_7_wr := x_r.cell (i := 7) rfl
        have f_r_7_wr := x_r.frozen 7
        have c_r_8_wr := x_r.cell (i := 8) rfl
        have f_r_8_wr := x_r.frozen 8
        have c_x_0_wr := x_x.cell (i := 0) rfl
        have f_x_0_wr := x_x.frozen 0
        have c_x_1_wr := x_x.cell (i := 1) rfl
        have f_x_1_wr := x_x.frozen 1
        have c_x_2_wr := x_x.cell (i := 2) rfl
        have f_x_2_wr := x_x.frozen 2
        have c_x_3_wr := x_x.cell (i := 3) rfl
        have f_x_3_wr := x_x.frozen 3
        have c_x_4_wr := x_x.cell (i := 4) rfl
        have f_x_4_wr := x_x.frozen 4
        have c_x_5_wr := x_x.cell (i := 5) rfl
        have f_x_5_wr := x_x.frozen 5
        have c_x_6_wr := x_x.cell (i := 6) rfl
        have f_x_6_wr := x_x.frozen 6
        have c_x_7_wr := x_x.cell (i := 7) rfl
        have f_x_7_wr := x_x.frozen 7
        have c_x_8_wr := x_x.cell (i := 8) rfl
        have f_x_8_wr := x_x.frozen 8
        by_cases hlt : j < M
        case neg =>
          have hk2 : ¬ ((j : Int) < (M : Int)) := by omega
          have HX : Hid ((⟨id, (M : Int), G, O, I, C, 0, 0, 0⟩ : MNode) = nodeMk id M K) := by show _ = _; unfold nodeMk; rw [HGK.out.1, HGK.out.2, HO1.out.1, HO1.out.2, show j = M by omega]
          have HO2 := HO1
          clear HO1
          have oX := ov_node (d := ⟨id, (M : Int), G, O, I, C, 0, 0, 0⟩) (lo := w1.heap.size) (hi := wr.heap.size) oG.ofNil oO.ofNil oI oC (by omega)
          have hbk : (⟨id, (M : Int), G, O, I, C, 0, 0, 0⟩ : MNode).bulk ≤ 16777216 := by
            unfold MNode.bulk sizeAcctS sizeOutS
            have g1 : sumG MAcct.bulk G = 0 := by rw [HGK.out.1]; simp [sumG, acctZ, MAcct.bulk]
            have g2 : sumG MOut.bulk O = 0 := by rw [HO2.out.1]; simp [sumG, outNew, MOut.bulk]
            simp only [g1, g2]; omega
          by_cases hK : nodeOkB ⟨id, (M : Int), G, O, I, C, 0, 0, 0⟩ = true
          case neg =>
            replace hK : nodeOkB ⟨id, (M : Int), G, O, I, C, 0, 0, 0⟩ = false := by simpa using hK
            have HB0 : Hid (nodeNewB id (M : Int) (K : Int) = false) := by show _ = _; unfold nodeNewB; rw [show (M : Int).toNat = M from rfl, show (K : Int).toNat = K from rfl, ← HX.out, hK]; simp
            have HO : Hid (nodeNew id (M : Int) (K : Int) = nodeZ) := if_neg (by rw [HB0.out]; decide)
            have HK := Lib.hid hK
            clear hK
            go_wp2_with fail
            refine (sNodeOk_c oX.rd hbk).mono ?_
            rintro e w31 ⟨rfl, h_w31⟩
            clear c_r_0_wr f_r_0_wr c_r_1_wr f_r_1_wr c_r_2_wr f_r_2_wr c_r_3_wr f_r_3_wr c_r_4_wr f_r_4_wr c_r_5_wr f_r_5_wr c_r_6_wr f_r_6_wr c_r_7_wr f_r_7_wr c_r_8_wr f_r_8_wr c_x_0_wr f_x_0_wr c_x_1_wr f_x_1_wr c_x_2_wr f_x_2_wr c_x_3_wr f_x_3_wr c_x_4_wr f_x_4_wr c_x_5_wr f_x_5_wr c_x_6_wr f_x_6_wr c_x_7_wr f_x_7_wr c_x_8_wr f_x_8_wr
            replace x_r := x_r.from_ h_w31
            replace x_x := x_x.from_ h_w31
            replace oX := oX.below h_w31
            have B_w31 := HB.trans (h_w31.mono HB.size)
            have s_w31 := h_w31.size
            rw [HK.out]
            have c_r_0_w31 := x_r.cell (i := 0) rfl
            have f_r_0_w31 := x_r.frozen 0
            have c_r_1_w31 := x_r.cell (i := 1) rfl
            have f_r_1_w31 := x_r.frozen 1
            have c_r_2_w31 := x_r.cell (i := 2) rfl
            have f_r_2_w31 := x_r.frozen 2
            have c_r_3_w31 := x_r.cell (i := 3) rfl
            have f_r_3_w31 := x_r.frozen 3
            have c_r_4_w31 := x_r.cell (i := 4) rfl
            have f_r_4_w31 := x_r.frozen 4
            have c_r_5_w31 := x_r.cell (i := 5) rfl
            have f_r_5_w31 := x_r.frozen 5
            have c_r_6_w31 := x_r.cell (i := 6) rfl
            have f_r_6_w31 := x_r.frozen 6
            have c_r_7_w31 := x_r.cell (i := 7) rfl
            have f_r_7_w31 := x_r.frozen 7
            have c_r_8_w31 := x_r.cell (i := 8) rfl
            have f_r_8_w31 := x_r.frozen 8
            have c_x_0_w31 := x_x.cell (i := 0) rfl
            have f_x_0_w31 := x_x.frozen 0
            have c_x_1_w31 := x_x.cell (i := 1) rfl
            have f_x_1_w31 := x_x.frozen 1
            have c_x_2_w31 := x_x.cell (i := 2) rfl
            have f_x_2_w31 := x_x.frozen 2
            have c_x_3_w31 := x_x.cell (i := 3) rfl
            have f_x_3_w31 := x_x.frozen 3
            have c_x_4_w31 := x_x.cell (i := 4) rfl
            have f_x_4_w31 := x_x.frozen 4
            have c_x_5_w31 := x_x.cell (i := 5) rfl
            have f_x_5_w31 := x_x.frozen 5
            have c_x_6_w31 := x_x.cell (i := 6) rfl
            have f_x_6_w31 := x_x.frozen 6
            have c_x_7_w31 := x_x.cell (i := 7) rfl
            have f_x_7_w31 := x_x.frozen 7
            have c_x_8_w31 := x_x.cell (i := 8) rfl
            have f_x_8_w31 := x_x.frozen 8
            have i_r_0_w31 := x_r.same (i := 0) rfl
            have i_r_1_w31 := x_r.same (i := 1) rfl
            have i_r_2_w31 := x_r.same (i := 2) rfl
            have i_r_3_w31 := x_r.same (i := 3) rfl
            have i_r_4_w31 := x_r.same (i := 4) rfl
            have i_r_5_w31 := x_r.same (i := 5) rfl
            have i_r_6_w31 := x_r.same (i := 6) rfl
            have i_r_7_w31 := x_r.same (i := 7) rfl
            have i_r_8_w31 := x_r.same (i := 8) rfl
            go_wp2
            refine ret_cell_tmp (by rfl) (by rfl) x_r Try.underlying34 sz_node (by rfl) ?_
            rw [HO.out, HB0.out]
            exact ⟨_, rfl, (ov_nodeZ (lo := w.heap.size) (by omega)).widen (Nat.le_refl _) (by omega) (Nat.le_refl _), B_w31⟩
          case pos =>
            have HB0 : Hid (nodeNewB id (M : Int) (K : Int) = true) := by show _ = _; unfold nodeNewB; rw [show (M : Int).toNat = M from rfl, show (K : Int).toNat = K from rfl, ← HX.out, hK, HA.out, HN.out]; rfl
            have HO : Hid (nodeNew id (M : Int) (K : Int) = ⟨id, (M : Int), G, O, I, C, 0, 0, 0⟩) := by show _ = _; unfold nodeNew; rw [if_pos HB0.out]; exact HX.out.symm
            have HK := Lib.hid hK
            clear hK
            go_wp2_with fail
            refine (sNodeOk_c oX.rd hbk).mono ?_
            rintro e w31 ⟨rfl, h_w31⟩
            clear c_r_0_wr f_r_0_wr c_r_1_wr f_r_1_wr c_r_2_wr f_r_2_wr c_r_3_wr f_r_3_wr c_r_4_wr f_r_4_wr c_r_5_wr f_r_5_wr c_r_6_wr f_r_6_wr c_r_7_wr f_r_7_wr c_r_8_wr f_r_8_wr c_x_0_wr f_x_0_wr c_x_1_wr f_x_1_wr c_x_2_wr f_x_2_wr c_x_3_wr f_x_3_wr c_x_4_wr f_x_4_wr c_x_5_wr f_x_5_wr c_x_6_wr f_x_6_wr c_x_7_wr f_x_7_wr c_x_8_wr f_x_8_wr
            replace x_r := x_r.from_ h_w31
            replace x_x := x_x.from_ h_w31
            replace oX := oX.below h_w31
            have B_w31 := HB.trans (h_w31.mono HB.size)
            have s_w31 := h_w31.size
            rw [HK.out]
            have c_r_0_w31 := x_r.cell (i := 0) rfl
            have f_r_0_w31 := x_r.frozen 0
            have c_r_1_w31 := x_r.cell (i := 1) rfl
            have f_r_1_w31 := x_r.frozen 1
            have c_r_2_w31 := x_r.cell (i := 2) rfl
            have f_r_2_w31 := x_r.frozen 2
            have c_r_3_w31 := x_r.cell (i := 3) rfl
            have f_r_3_w31 := x_r.frozen 3
            have c_r_4_w31 := x_r.cell (i := 4) rfl
            have f_r_4_w31 := x_r.frozen 4
            have c_r_5_w31 := x_r.cell (i := 5) rfl
            have f_r_5_w31 := x_r.frozen 5
            have c_r_6_w31 := x_r.cell (i := 6) rfl
            have f_r_6_w31 := x_r.frozen 6
            have c_r_7_w31 := x_r.cell (i := 7) rfl
            have f_r_7_w31 := x_r.frozen 7
            have c_r_8_w31 := x_r.cell (i := 8) rfl
            have f_r_8_w31 := x_r.frozen 8
            have c_x_0_w31 := x_x.cell (i := 0) rfl
            have f_x_0_w31 := x_x.frozen 0
            have c_x_1_w31 := x_x.cell (i := 1) rfl
            have f_x_1_w31 := x_x.frozen 1
            have c_x_2_w31 := x_x.cell (i := 2) rfl
            have f_x_2_w31 := x_x.frozen 2
            have c_x_3_w31 := x_x.cell (i := 3) rfl
            have f_x_3_w31 := x_x.frozen 3
            have c_x_4_w31 := x_x.cell (i := 4) rfl
            have f_x_4_w31 := x_x.frozen 4
            have c_x_5_w31 := x_x.cell (i := 5) rfl
            have f_x_5_w31 := x_x.frozen 5
            have c_x_6_w31 := x_x.cell (i := 6) rfl
            have f_x_6_w31 := x_x.frozen 6
            have c_x_7_w31 := x_x.cell (i := 7) rfl
            have f_x_7_w31 := x_x.frozen 7
            have c_x_8_w31 := x_x.cell (i := 8) rfl
            have f_x_8_w31 := x_x.frozen 8
            obtain ⟨w32, e_w32, s_w32, h_w32, y⟩ := store_step x_r [.int .i64 id, .int .i64 (M : Int), .slice AG G.length cG, .slice AO O.length cO, .slice AI I.length cI, .slice AC C.length cC, .int .i64 0, .int .i64 0, .int .i64 0] rfl
            replace e_w32 : (((((((((w31.setCell ⟨w.heap.size, 0, none⟩ (.int .i64 id)).setCell ⟨w.heap.size, 1, none⟩ (.int .i64 (M : Int))).setCell ⟨w.heap.size, 2, none⟩ (.slice AG G.length cG)).setCell ⟨w.heap.size, 3, none⟩ (.slice AO O.length cO)).setCell ⟨w.heap.size, 4, none⟩ (.slice AI I.length cI)).setCell ⟨w.heap.size, 5, none⟩ (.slice AC C.length cC)).setCell ⟨w.heap.size, 6, none⟩ (.int .i64 0)).setCell ⟨w.heap.size, 7, none⟩ (.int .i64 0)).setCell ⟨w.heap.size, 8, none⟩ (.int .i64 0)) = w32 := e_w32
            have s_w32_1 := Nat.le_of_eq s_w32
            have s_w32_2 := Nat.le_of_eq s_w32.symm
            clear s_w32
            replace x_x := x_x.chg h_w32 (by omega)
            replace oX := oX.chg h_w32 (by omega)
            have B_w32 := Below.chg_ B_w31 h_w32 (by omega) (by omega)
            replace x_r : Vr w32 (w.heap.size) 34 [.int .i64 id, .int .i64 (M : Int), .slice AG G.length cG, .slice AO O.length cO, .slice AI I.length cI, .slice AC C.length cC, .int .i64 0, .int .i64 0, .int .i64 0] := y
            clear y
            have c_r_0_w32 := x_r.cell (i := 0) rfl
            have f_r_0_w32 := x_r.frozen 0
            have c_r_1_w32 := x_r.cell (i := 1) rfl
            have f_r_1_w32 := x_r.frozen 1
            have c_r_2_w32 := x_r.cell (i := 2) rfl
            have f_r_2_w32 := x_r.frozen 2
            have c_r_3_w32 := x_r.cell (i := 3) rfl
            have f_r_3_w32 := x_r.frozen 3
            have c_r_4_w32 := x_r.cell (i := 4) rfl
            have f_r_4_w32 := x_r.frozen 4
            have c_r_5_w32 := x_r.cell (i := 5) rfl
            have f_r_5_w32 := x_r.frozen 5
            have c_r_6_w32 := x_r.cell (i := 6) rfl
            have f_r_6_w32 := x_r.frozen 6
            have c_r_7_w32 := x_r.cell (i := 7) rfl
            have f_r_7_w32 := x_r.frozen 7
            have c_r_8_w32 := x_r.cell (i := 8) rfl
            have f_r_8_w32 := x_r.frozen 8
            go_wp2
            refine ret_cell_tmp (by rfl) (by rfl) x_r Try.underlying34 sz_node (by rfl) ?_
            rw [HO.out, HB0.out]
            exact ⟨_, rfl, oX.widen (by omega) (by omega) (Nat.le_refl _), B_w32⟩
        have j1 : (j : Int) < (M : Int) := by omega
        have lr1 : True := trivial
        obtain ⟨wd, hwd⟩ : ∃ x, ({ heap := wr.heap, tape := wr.tape, drawn := wr.drawn + 1, os := wr.os, output := wr.output } : World) = x := ⟨_, rfl⟩
        have hd0 : Below wr.heap.size wr wd := by rw [← hwd]; exact (Below.refl wr.heap.size wr).drew
        have sd0 := hd0.size
        have zd0 : wd.heap.size = wr.heap.size := by rw [← hwd]
        have xd := x_x.from_ hd0
        have qd := xd.cell (i := 3) rfl
        go_wp2_with fail
        refine wp_region_held (S := fun _ => True) (by kernel_rfl) ?_
        rw [hwd]
        refine takeN (i := 0) (v := ?v0_1) (d := some 45) rfl rfl (by kernel_rfl) (by kernel_rfl) (by kernel_rfl) (fun _ _ _ h => h) (Or.inl ⟨by rfl, ?y0_1⟩) trivial ?r0_1
        case y0_1 => (intro W hW; go_simp; try (with_reducible rfl))
        simp only [Act.put, List.setIfInBounds_toArray, List.set_cons_zero, List.set_cons_succ]
        refine wpAnyH_ready (rs := [1, 2]) (by kernel_rfl) (by simp) ?_
        refine AllReadyH.cons rfl (fun K9 hK => ?b2_1) (AllReadyH.cons rfl (fun K9 hK => ?b2_2) AllReadyH.nil)
        case b2_1 =>
          go_simp
          refine hK.out _ _ trivial (fun _ => ?_)
          clear hK K9
          refine wpAnyH_ready (rs := [2]) (by kernel_rfl) (by simp) ?_
          refine AllReadyH.cons rfl (fun K9 hK => ?b3_2) AllReadyH.nil
          go_simp
          refine (sOutNew_v).mono ?_
          rintro e wN ⟨rfl, hdN⟩
          have sN := hdN.size
          have xN := xd.from_ hdN
          have qN := xN.cell (i := 3) rfl
          obtain ⟨wT, e_wT, s_wT, h_wT, x_t⟩ := alloc_step wN 59 [.int .i64 1, .slice none 0 0]
          have sT := h_wT.size
          have xT := xN.from_ h_wT
          have qT := xT.cell (i := 3) rfl
          have hRV := x_t.rdV
          have hNT : Below wr.heap.size wr wT := hd0.trans ((hdN.mono (by omega)).trans (h_wT.mono (by omega)))
          obtain ⟨ys, R, hback⟩ := OV.app_n3 nilL_nil (oO.below hNT) (cs := [.int .i64 1, .slice none 0 0]) (x := outNew) rfl (fun w => ⟨own_outNew w, rfl⟩) (by omega)
          refine hK.out _ _ trivial (fun _ => ?_)
          clear hK K9
          refine wpAnyH_ready (rs := [3]) (by kernel_rfl) (by simp) ?_
          refine AllReadyH.cons rfl (fun K9 hK => ?b4_3) AllReadyH.nil
          go_simp
          refine hK.out _ _ trivial (fun _ => ?_)
          clear hK K9
          refine wpAnyH_ready (rs := [4]) (by kernel_rfl) (by simp) ?_
          refine AllReadyH.cons rfl (fun K9 hK => ?b5_4) AllReadyH.nil
          refine step_appN (by rfl) (.tmp 46) (.tmp 48) 31 (by rfl) 0 2 59 p0 (.agg #[.int .i64 0, .slice none 0 0]) 32 Try.underlying31 hp xz0 xz1 xz2 (by rfl) (by decide) (.slice AO O.length cO) O.length ys (by rfl) R _ (some ⟨wN.heap.size, 0, none⟩) 1 1 [.int .i64 1, .slice none 0 0] (by rfl) rfl hRV ones_out (by omega) (by decide) (Nat.zero_le _) ?_
          intro vA wA hoA hgA hatA
          obtain ⟨hcg, l9, h9, o9, hor, hle⟩ := hback vA wA hoA hgA hatA
          obtain ⟨Y, hY⟩ : ∃ Y, O ++ [outNew] = Y := ⟨_, rfl⟩
          rw [hY] at o9
          have HY := Lib.hid hY
          clear hY
          obtain ⟨A9, c9, rfl, -, -, -⟩ := rv_slice o9.rd
          have xA := xT.chg hcg (by omega)
          have qA := xA.cell (i := 3) rfl
          have fA := xA.frozen 3
          refine hK.out _ _ trivial (fun _ => ?_)
          clear hK K9
          refine takeN (i := 5) (v := ?v5_6) (d := some 50) rfl rfl (by kernel_rfl) (by kernel_rfl) (by kernel_rfl) (fun _ _ _ h => h) (Or.inl ⟨by rfl, ?y5_6⟩) trivial ?r5_6
          case y5_6 => (intro W hW; go_simp; try (with_reducible rfl))
          simp only [Act.put, List.setIfInBounds_toArray, List.set_cons_zero, List.set_cons_succ]
          refine wpAnyH_ready (rs := [6]) (by kernel_rfl) (by simp) ?_
          refine AllReadyH.cons rfl (fun K9 hK => ?b7_6) AllReadyH.nil
          go_simp
          refine hK.out _ _ trivial (fun _ => ?_)
          clear hK K9
          refine wpAnyH_done (by kernel_rfl) ?_ _
          obtain ⟨wS, eS, sS, hS, xS⟩ := set_step xA 3 (.slice A9 Y.length c9)
          rw [eS]
          have sS_1 := Nat.le_of_eq sS
          have sS_2 := Nat.le_of_eq sS.symm
          clear sS
          replace xS : Vr wS (wa.heap.size) 34 [.int .i64 id, .int .i64 (M : Int), .slice AG G.length cG, .slice A9 Y.length c9, .slice AI I.length cI, .slice AC C.length cC, .int .i64 0, .int .i64 0, .int .i64 0] := xS
          have szA := hcg.size
          have HB9 := Below.chg_ (Below.chg_ (HB.trans (hNT.mono HB.size)) hcg (by omega) (by omega)) hS (by omega) (by omega)
          replace x_r := ((x_r.from_ hNT).chg hcg (by omega)).chg hS (by omega)
          clear x_x
          have x_x := xS
          replace oG := ((oG.below hNT).chg hcg (by omega)).chg hS (by omega)
          replace oC := ((oC.below hNT).chg hcg (by omega)).chg hS (by omega)
          replace oI := ((oI.below hNT).chg hcg (by omega)).chg hS (by omega)
          replace o9 := o9.chg hS (by omega)
          clear xS xA qA fA eS hoA hgA hatA hback R hRV xT qT xN qN xd qd e_wT x_t
          have c_r_0_wS := x_r.cell (i := 0) rfl
          have f_r_0_wS := x_r.frozen 0
          have c_r_1_wS := x_r.cell (i := 1) rfl
          have f_r_1_wS := x_r.frozen 1
          have c_r_2_wS := x_r.cell (i := 2) rfl
          have f_r_2_wS := x_r.frozen 2
          have c_r_3_wS := x_r.cell (i := 3) rfl
          have f_r_3_wS := x_r.frozen 3
          have c_r_4_wS := x_r.cell (i := 4) rfl
          have f_r_4_wS := x_r.frozen 4
          have c_r_5_wS := x_r.cell (i := 5) rfl
          have f_r_5_wS := x_r.frozen 5
          have c_r_6_wS := x_r.cell (i := 6) rfl
          have f_r_6_wS := x_r.frozen 6
          have c_r_7_wS := x_r.cell (i := 7) rfl
          have f_r_7_wS := x_r.frozen 7
          have c_r_8_wS := x_r.cell (i := 8) rfl
          have f_r_8_wS := x_r.frozen 8
          have c_x_0_wS := x_x.cell (i := 0) rfl
          have f_x_0_wS := x_x.frozen 0
          have c_x_1_wS := x_x.cell (i := 1) rfl
          have f_x_1_wS := x_x.frozen 1
          have c_x_2_wS := x_x.cell (i := 2) rfl
          have f_x_2_wS := x_x.frozen 2
          have c_x_3_wS := x_x.cell (i := 3) rfl
          have f_x_3_wS := x_x.frozen 3
          have c_x_4_wS := x_x.cell (i := 4) rfl
          have f_x_4_wS := x_x.frozen 4
          have c_x_5_wS := x_x.cell (i := 5) rfl
          have f_x_5_wS := x_x.frozen 5
          have c_x_6_wS := x_x.cell (i := 6) rfl
          have f_x_6_wS := x_x.frozen 6
          have c_x_7_wS := x_x.cell (i := 7) rfl
          have f_x_7_wS := x_x.frozen 7
          have c_x_8_wS := x_x.cell (i := 8) rfl
          have f_x_8_wS := x_x.frozen 8
          obtain ⟨w41, e_w41, s_w41, h_w41, x_t⟩ := alloc_step wS 3 [.int .i64 0]
          have s_w41_1 := Nat.le_of_eq s_w41
          have s_w41_2 := Nat.le_of_eq s_w41.symm
          clear s_w41
          replace x_r := x_r.from_ h_w41
          replace x_x := x_x.from_ h_w41
          replace oG := oG.below h_w41
          replace oC := oC.below h_w41
          replace oI := oI.below h_w41
          replace o9 := o9.below h_w41
          have B_w41 := HB9.trans (h_w41.mono HB9.size)
          have i_w41_0 := x_t.same (i := 0) rfl
          have c_r_0_w41 := x_r.cell (i := 0) rfl
          have f_r_0_w41 := x_r.frozen 0
          have c_r_1_w41 := x_r.cell (i := 1) rfl
          have f_r_1_w41 := x_r.frozen 1
          have c_r_2_w41 := x_r.cell (i := 2) rfl
          have f_r_2_w41 := x_r.frozen 2
          have c_r_3_w41 := x_r.cell (i := 3) rfl
          have f_r_3_w41 := x_r.frozen 3
          have c_r_4_w41 := x_r.cell (i := 4) rfl
          have f_r_4_w41 := x_r.frozen 4
          have c_r_5_w41 := x_r.cell (i := 5) rfl
          have f_r_5_w41 := x_r.frozen 5
          have c_r_6_w41 := x_r.cell (i := 6) rfl
          have f_r_6_w41 := x_r.frozen 6
          have c_r_7_w41 := x_r.cell (i := 7) rfl
          have f_r_7_w41 := x_r.frozen 7
          have c_r_8_w41 := x_r.cell (i := 8) rfl
          have f_r_8_w41 := x_r.frozen 8
          have c_x_0_w41 := x_x.cell (i := 0) rfl
          have f_x_0_w41 := x_x.frozen 0
          have c_x_1_w41 := x_x.cell (i := 1) rfl
          have f_x_1_w41 := x_x.frozen 1
          have c_x_2_w41 := x_x.cell (i := 2) rfl
          have f_x_2_w41 := x_x.frozen 2
          have c_x_3_w41 := x_x.cell (i := 3) rfl
          have f_x_3_w41 := x_x.frozen 3
          have c_x_4_w41 := x_x.cell (i := 4) rfl
          have f_x_4_w41 := x_x.frozen 4
          have c_x_5_w41 := x_x.cell (i := 5) rfl
          have f_x_5_w41 := x_x.frozen 5
          have c_x_6_w41 := x_x.cell (i := 6) rfl
          have f_x_6_w41 := x_x.frozen 6
          have c_x_7_w41 := x_x.cell (i := 7) rfl
          have f_x_7_w41 := x_x.frozen 7
          have c_x_8_w41 := x_x.cell (i := 8) rfl
          have f_x_8_w41 := x_x.frozen 8
          have c_t_0_w41 := x_t.cell (i := 0) rfl
          have f_t_0_w41 := x_t.frozen 0
          have hRV := x_t.rdOne
          go_wp2_with (at_builtin; refine wpl_appI _ .i64 rfl (.tmp 52) (.tmp 53) 24 rfl 0 3 q0 8 Try.underlying24 hq uz0 uz1 uz2 _ I rfl (oI.1.base_mono (Nat.zero_le _)) _ _ _ 1 [0] rfl rfl hRV ?d1 (by omega) ?d2 ?_)
          case d1 => omega
          case d2 => omega
          intro v4 wB ho4 hg4 hat4
          obtain ⟨hc4, l8, h8, o8, hor8, hle8⟩ := oI.app_2 ho4 hg4 hat4
          obtain ⟨Z, hZ⟩ : ∃ Z, I ++ [0] = Z := ⟨_, rfl⟩
          rw [hZ] at o8
          have HZ := Lib.hid hZ
          clear hZ ho4 hg4 hat4 hRV
          obtain ⟨A8, c8, rfl, -, -, -⟩ := o8.rd
          clear c_r_0_wS f_r_0_wS c_r_1_wS f_r_1_wS c_r_2_wS f_r_2_wS c_r_3_wS f_r_3_wS c_r_4_wS f_r_4_wS c_r_5_wS f_r_5_wS c_r_6_wS f_r_6_wS c_r_7_wS f_r_7_wS c_r_8_wS f_r_8_wS c_x_0_wS f_x_0_wS c_x_1_wS f_x_1_wS c_x_2_wS f_x_2_wS c_x_3_wS f_x_3_wS c_x_4_wS f_x_4_wS c_x_5_wS f_x_5_wS c_x_6_wS f_x_6_wS c_x_7_wS f_x_7_wS c_x_8_wS f_x_8_wS i_w41_0 c_r_0_w41 f_r_0_w41 c_r_1_w41 f_r_1_w41 c_r_2_w41 f_r_2_w41 c_r_3_w41 f_r_3_w41 c_r_4_w41 f_r_4_w41 c_r_5_w41 f_r_5_w41 c_r_6_w41 f_r_6_w41 c_r_7_w41 f_r_7_w41 c_r_8_w41 f_r_8_w41 c_x_0_w41 f_x_0_w41 c_x_1_w41 f_x_1_w41 c_x_2_w41 f_x_2_w41 c_x_3_w41 f_x_3_w41 c_x_4_w41 f_x_4_w41 c_x_5_w41 f_x_5_w41 c_x_6_w41 f_x_6_w41 c_x_7_w41 f_x_7_w41 c_x_8_w41 f_x_8_w41 c_t_0_w41 f_t_0_w41
          clear oI
          clear x_t
          replace x_r := x_r.chg hc4 (by omega)
          replace x_x := x_x.chg hc4 (by omega)
          replace oG := oG.chg hc4 (by omega)
          replace oC := oC.chg hc4 (by omega)
          replace o9 := o9.chg hc4 (by omega)
          have B_wB := Below.chg_ B_w41 hc4 (by omega) (by omega)
          have s_wB := hc4.size
          have sB4 := hc4.size
          have c_r_0_wB := x_r.cell (i := 0) rfl
          have f_r_0_wB := x_r.frozen 0
          have c_r_1_wB := x_r.cell (i := 1) rfl
          have f_r_1_wB := x_r.frozen 1
          have c_r_2_wB := x_r.cell (i := 2) rfl
          have f_r_2_wB := x_r.frozen 2
          have c_r_3_wB := x_r.cell (i := 3) rfl
          have f_r_3_wB := x_r.frozen 3
          have c_r_4_wB := x_r.cell (i := 4) rfl
          have f_r_4_wB := x_r.frozen 4
          have c_r_5_wB := x_r.cell (i := 5) rfl
          have f_r_5_wB := x_r.frozen 5
          have c_r_6_wB := x_r.cell (i := 6) rfl
          have f_r_6_wB := x_r.frozen 6
          have c_r_7_wB := x_r.cell (i := 7) rfl
          have f_r_7_wB := x_r.frozen 7
          have c_r_8_wB := x_r.cell (i := 8) rfl
          have f_r_8_wB := x_r.frozen 8
          have c_x_0_wB := x_x.cell (i := 0) rfl
          have f_x_0_wB := x_x.frozen 0
          have c_x_1_wB := x_x.cell (i := 1) rfl
          have f_x_1_wB := x_x.frozen 1
          have c_x_2_wB := x_x.cell (i := 2) rfl
          have f_x_2_wB := x_x.frozen 2
          have c_x_3_wB := x_x.cell (i := 3) rfl
          have f_x_3_wB := x_x.frozen 3
          have c_x_4_wB := x_x.cell (i := 4) rfl
          have f_x_4_wB := x_x.frozen 4
          have c_x_5_wB := x_x.cell (i := 5) rfl
          have f_x_5_wB := x_x.frozen 5
          have c_x_6_wB := x_x.cell (i := 6) rfl
          have f_x_6_wB := x_x.frozen 6
          have c_x_7_wB := x_x.cell (i := 7) rfl
          have f_x_7_wB := x_x.frozen 7
          have c_x_8_wB := x_x.cell (i := 8) rfl
          have f_x_8_wB := x_x.frozen 8
          obtain ⟨w42, e_w42, s_w42, h_w42, y⟩ := set_step x_x 4 (.slice A8 Z.length c8)
          have s_w42_1 := Nat.le_of_eq s_w42
          have s_w42_2 := Nat.le_of_eq s_w42.symm
          clear s_w42
          replace x_r := x_r.chg h_w42 (by omega)
          replace oG := oG.chg h_w42 (by omega)
          replace oC := oC.chg h_w42 (by omega)
          replace o9 := o9.chg h_w42 (by omega)
          replace o8 := o8.chg h_w42 (by omega)
          have B_w42 := Below.chg_ B_wB h_w42 (by omega) (by omega)
          replace x_x : Vr w42 (wa.heap.size) 34 [.int .i64 id, .int .i64 (M : Int), .slice AG G.length cG, .slice A9 Y.length c9, .slice A8 Z.length c8, .slice AC C.length cC, .int .i64 0, .int .i64 0, .int .i64 0] := y
          clear y
          have c_r_0_w42 := x_r.cell (i := 0) rfl
          have f_r_0_w42 := x_r.frozen 0
          have c_r_1_w42 := x_r.cell (i := 1) rfl
          have f_r_1_w42 := x_r.frozen 1
          have c_r_2_w42 := x_r.cell (i := 2) rfl
          have f_r_2_w42 := x_r.frozen 2
          have c_r_3_w42 := x_r.cell (i := 3) rfl
          have f_r_3_w42 := x_r.frozen 3
          have c_r_4_w42 := x_r.cell (i := 4) rfl
          have f_r_4_w42 := x_r.frozen 4
          have c_r_5_w42 := x_r.cell (i := 5) rfl
          have f_r_5_w42 := x_r.frozen 5
          have c_r_6_w42 := x_r.cell (i := 6) rfl
          have f_r_6_w42 := x_r.frozen 6
          have c_r_7_w42 := x_r.cell (i := 7) rfl
          have f_r_7_w42 := x_r.frozen 7
          have c_r_8_w42 := x_r.cell (i := 8) rfl
          have f_r_8_w42 := x_r.frozen 8
          have c_x_0_w42 := x_x.cell (i := 0) rfl
          have f_x_0_w42 := x_x.frozen 0
          have c_x_1_w42 := x_x.cell (i := 1) rfl
          have f_x_1_w42 := x_x.frozen 1
          have c_x_2_w42 := x_x.cell (i := 2) rfl
          have f_x_2_w42 := x_x.frozen 2
          have c_x_3_w42 := x_x.cell (i := 3) rfl
          have f_x_3_w42 := x_x.frozen 3
          have c_x_4_w42 := x_x.cell (i := 4) rfl
          have f_x_4_w42 := x_x.frozen 4
          have c_x_5_w42 := x_x.cell (i := 5) rfl
          have f_x_5_w42 := x_x.frozen 5
          have c_x_6_w42 := x_x.cell (i := 6) rfl
          have f_x_6_w42 := x_x.frozen 6
          have c_x_7_w42 := x_x.cell (i := 7) rfl
          have f_x_7_w42 := x_x.frozen 7
          have c_x_8_w42 := x_x.cell (i := 8) rfl
          have f_x_8_w42 := x_x.frozen 8
          have HG2 : Hid (Y = List.replicate (j + 1) outNew ∧ Z = List.replicate (j + 1) 0) := by
            show _ ∧ _
            rw [← HY.out, ← HZ.out, HO1.out.1, HO1.out.2, List.replicate_succ', List.replicate_succ']; exact ⟨rfl, rfl⟩
          go_wp2
          go_roundw
          case rel => exact ⟨j + 1, Y, Z, A9, A8, c9, c8, l9, h9, l8, h8, by omega, by go_num, HG2, x_r, x_x, oG, oC, o9, o8, ⟨by omega, by omega, by omega, by omega, by omega, by omega, by omega⟩, B_w42⟩
          case measure => simp [intOf]; omega
        case b2_2 =>
          go_simp
          refine (sOutNew_v).mono ?_
          rintro e wN ⟨rfl, hdN⟩
          have sN := hdN.size
          have xN := xd.from_ hdN
          have qN := xN.cell (i := 3) rfl
          obtain ⟨wT, e_wT, s_wT, h_wT, x_t⟩ := alloc_step wN 59 [.int .i64 1, .slice none 0 0]
          have sT := h_wT.size
          have xT := xN.from_ h_wT
          have qT := xT.cell (i := 3) rfl
          have hRV := x_t.rdV
          have hNT : Below wr.heap.size wr wT := hd0.trans ((hdN.mono (by omega)).trans (h_wT.mono (by omega)))
          obtain ⟨ys, R, hback⟩ := OV.app_n3 nilL_nil (oO.below hNT) (cs := [.int .i64 1, .slice none 0 0]) (x := outNew) rfl (fun w => ⟨own_outNew w, rfl⟩) (by omega)
          refine hK.out _ _ trivial (fun _ => ?_)
          clear hK K9
          refine wpAnyH_ready (rs := [1, 3]) (by kernel_rfl) (by simp) ?_
          refine AllReadyH.cons rfl (fun K9 hK => ?b8_1) (AllReadyH.cons rfl (fun K9 hK => ?b8_3) AllReadyH.nil)
          case b8_1 =>
            go_simp
            refine hK.out _ _ trivial (fun _ => ?_)
            clear hK K9
            refine wpAnyH_ready (rs := [3]) (by kernel_rfl) (by simp) ?_
            refine AllReadyH.cons rfl (fun K9 hK => ?b9_3) AllReadyH.nil
            go_simp
            refine hK.out _ _ trivial (fun _ => ?_)
            clear hK K9
            refine wpAnyH_ready (rs := [4]) (by kernel_rfl) (by simp) ?_
            refine AllReadyH.cons rfl (fun K9 hK => ?b10_4) AllReadyH.nil
            refine step_appN (by rfl) (.tmp 46) (.tmp 48) 31 (by rfl) 0 2 59 p0 (.agg #[.int .i64 0, .slice none 0 0]) 32 Try.underlying31 hp xz0 xz1 xz2 (by rfl) (by decide) (.slice AO O.length cO) O.length ys (by rfl) R _ (some ⟨wN.heap.size, 0, none⟩) 1 1 [.int .i64 1, .slice none 0 0] (by rfl) rfl hRV ones_out (by omega) (by decide) (Nat.zero_le _) ?_
            intro vA wA hoA hgA hatA
            obtain ⟨hcg, l9, h9, o9, hor, hle⟩ := hback vA wA hoA hgA hatA
            obtain ⟨Y, hY⟩ : ∃ Y, O ++ [outNew] = Y := ⟨_, rfl⟩
            rw [hY] at o9
            have HY := Lib.hid hY
            clear hY
            obtain ⟨A9, c9, rfl, -, -, -⟩ := rv_slice o9.rd
            have xA := xT.chg hcg (by omega)
            have qA := xA.cell (i := 3) rfl
            have fA := xA.frozen 3
            refine hK.out _ _ trivial (fun _ => ?_)
            clear hK K9
            refine takeN (i := 5) (v := ?v5_11) (d := some 50) rfl rfl (by kernel_rfl) (by kernel_rfl) (by kernel_rfl) (fun _ _ _ h => h) (Or.inl ⟨by rfl, ?y5_11⟩) trivial ?r5_11
            case y5_11 => (intro W hW; go_simp; try (with_reducible rfl))
            simp only [Act.put, List.setIfInBounds_toArray, List.set_cons_zero, List.set_cons_succ]
            refine wpAnyH_ready (rs := [6]) (by kernel_rfl) (by simp) ?_
            refine AllReadyH.cons rfl (fun K9 hK => ?b12_6) AllReadyH.nil
            go_simp
            refine hK.out _ _ trivial (fun _ => ?_)
            clear hK K9
            refine wpAnyH_done (by kernel_rfl) ?_ _
            obtain ⟨wS, eS, sS, hS, xS⟩ := set_step xA 3 (.slice A9 Y.length c9)
            rw [eS]
            have sS_1 := Nat.le_of_eq sS
            have sS_2 := Nat.le_of_eq sS.symm
            clear sS
            replace xS : Vr wS (wa.heap.size) 34 [.int .i64 id, .int .i64 (M : Int), .slice AG G.length cG, .slice A9 Y.length c9, .slice AI I.length cI, .slice AC C.length cC, .int .i64 0, .int .i64 0, .int .i64 0] := xS
            have szA := hcg.size
            have HB9 := Below.chg_ (Below.chg_ (HB.trans (hNT.mono HB.size)) hcg (by omega) (by omega)) hS (by omega) (by omega)
            replace x_r := ((x_r.from_ hNT).chg hcg (by omega)).chg hS (by omega)
            clear x_x
            have x_x := xS
            replace oG := ((oG.below hNT).chg hcg (by omega)).chg hS (by omega)
            replace oC := ((oC.below hNT).chg hcg (by omega)).chg hS (by omega)
            replace oI := ((oI.below hNT).chg hcg (by omega)).chg hS (by omega)
            replace o9 := o9.chg hS (by omega)
            clear xS xA qA fA eS hoA hgA hatA hback R hRV xT qT xN qN xd qd e_wT x_t
            have c_r_0_wS := x_r.cell (i := 0) rfl
            have f_r_0_wS := x_r.frozen 0
            have c_r_1_wS := x_r.cell (i := 1) rfl
            have f_r_1_wS := x_r.frozen 1
            have c_r_2_wS := x_r.cell (i := 2) rfl
            have f_r_2_wS := x_r.frozen 2
            have c_r_3_wS := x_r.cell (i := 3) rfl
            have f_r_3_wS := x_r.frozen 3
            have c_r_4_wS := x_r.cell (i := 4) rfl
            have f_r_4_wS := x_r.frozen 4
            have c_r_5_wS := x_r.cell (i := 5) rfl
            have f_r_5_wS := x_r.frozen 5
            have c_r_6_wS := x_r.cell (i := 6) rfl
            have f_r_6_wS := x_r.frozen 6
            have c_r_7_wS := x_r.cell (i := 7) rfl
            have f_r_7_wS := x_r.frozen 7
            have c_r_8_wS := x_r.cell (i := 8) rfl
            have f_r_8_wS := x_r.frozen 8
            have c_x_0_wS := x_x.cell (i := 0) rfl
            have f_x_0_wS := x_x.frozen 0
            have c_x_1_wS := x_x.cell (i := 1) rfl
            have f_x_1_wS := x_x.frozen 1
            have c_x_2_wS := x_x.cell (i := 2) rfl
            have f_x_2_wS := x_x.frozen 2
            have c_x_3_wS := x_x.cell (i := 3) rfl
            have f_x_3_wS := x_x.frozen 3
            have c_x_4_wS := x_x.cell (i := 4) rfl
            have f_x_4_wS := x_x.frozen 4
            have c_x_5_wS := x_x.cell (i := 5) rfl
            have f_x_5_wS := x_x.frozen 5
            have c_x_6_wS := x_x.cell (i := 6) rfl
            have f_x_6_wS := x_x.frozen 6
            have c_x_7_wS := x_x.cell (i := 7) rfl
            have f_x_7_wS := x_x.frozen 7
            have c_x_8_wS := x_x.cell (i := 8) rfl
            have f_x_8_wS := x_x.frozen 8
            obtain ⟨w41, e_w41, s_w41, h_w41, x_t⟩ := alloc_step wS 3 [.int .i64 0]
            have s_w41_1 := Nat.le_of_eq s_w41
            have s_w41_2 := Nat.le_of_eq s_w41.symm
            clear s_w41
            replace x_r := x_r.from_ h_w41
            replace x_x := x_x.from_ h_w41
            replace oG := oG.below h_w41
            replace oC := oC.below h_w41
            replace oI := oI.below h_w41
            replace o9 := o9.below h_w41
            have B_w41 := HB9.trans (h_w41.mono HB9.size)
            have i_w41_0 := x_t.same (i := 0) rfl
            have c_r_0_w41 := x_r.cell (i := 0) rfl
            have f_r_0_w41 := x_r.frozen 0
            have c_r_1_w41 := x_r.cell (i := 1) rfl
            have f_r_1_w41 := x_r.frozen 1
            have c_r_2_w41 := x_r.cell (i := 2) rfl
            have f_r_2_w41 := x_r.frozen 2
            have c_r_3_w41 := x_r.cell (i := 3) rfl
            have f_r_3_w41 := x_r.frozen 3
            have c_r_4_w41 := x_r.cell (i := 4) rfl
            have f_r_4_w41 := x_r.frozen 4
            have c_r_5_w41 := x_r.cell (i := 5) rfl
            have f_r_5_w41 := x_r.frozen 5
            have c_r_6_w41 := x_r.cell (i := 6) rfl
            have f_r_6_w41 := x_r.frozen 6
            have c_r_7_w41 := x_r.cell (i := 7) rfl
            have f_r_7_w41 := x_r.frozen 7
            have c_r_8_w41 := x_r.cell (i := 8) rfl
            have f_r_8_w41 := x_r.frozen 8
            have c_x_0_w41 := x_x.cell (i := 0) rfl
            have f_x_0_w41 := x_x.frozen 0
            have c_x_1_w41 := x_x.cell (i := 1) rfl
            have f_x_1_w41 := x_x.frozen 1
            have c_x_2_w41 := x_x.cell (i := 2) rfl
            have f_x_2_w41 := x_x.frozen 2
            have c_x_3_w41 := x_x.cell (i := 3) rfl
            have f_x_3_w41 := x_x.frozen 3
            have c_x_4_w41 := x_x.cell (i := 4) rfl
            have f_x_4_w41 := x_x.frozen 4
            have c_x_5_w41 := x_x.cell (i := 5) rfl
            have f_x_5_w41 := x_x.frozen 5
            have c_x_6_w41 := x_x.cell (i := 6) rfl
            have f_x_6_w41 := x_x.frozen 6
            have c_x_7_w41 := x_x.cell (i := 7) rfl
            have f_x_7_w41 := x_x.frozen 7
            have c_x_8_w41 := x_x.cell (i := 8) rfl
            have f_x_8_w41 := x_x.frozen 8
            have c_t_0_w41 := x_t.cell (i := 0) rfl
            have f_t_0_w41 := x_t.frozen 0
            have hRV := x_t.rdOne
            go_wp2_with (at_builtin; refine wpl_appI _ .i64 rfl (.tmp 52) (.tmp 53) 24 rfl 0 3 q0 8 Try.underlying24 hq uz0 uz1 uz2 _ I rfl (oI.1.base_mono (Nat.zero_le _)) _ _ _ 1 [0] rfl rfl hRV ?d1 (by omega) ?d2 ?_)
            case d1 => omega
            case d2 => omega
            intro v4 wB ho4 hg4 hat4
            obtain ⟨hc4, l8, h8, o8, hor8, hle8⟩ := oI.app_2 ho4 hg4 hat4
            obtain ⟨Z, hZ⟩ : ∃ Z, I ++ [0] = Z := ⟨_, rfl⟩
            rw [hZ] at o8
            have HZ := Lib.hid hZ
            clear hZ ho4 hg4 hat4 hRV
            obtain ⟨A8, c8, rfl, -, -, -⟩ := o8.rd
            clear c_r_0_wS f_r_0_wS c_r_1_wS f_r_1_wS c_r_2_wS f_r_2_wS c_r_3_wS f_r_3_wS c_r_4_wS f_r_4_wS c_r_5_wS f_r_5_wS c_r_6_wS f_r_6_wS c_r_7_wS f_r_7_wS c_r_8_wS f_r_8_wS c_x_0_wS f_x_0_wS c_x_1_wS f_x_1_wS c_x_2_wS f_x_2_wS c_x_3_wS f_x_3_wS c_x_4_wS f_x_4_wS c_x_5_wS f_x_5_wS c_x_6_wS f_x_6_wS c_x_7_wS f_x_7_wS c_x_8_wS f_x_8_wS i_w41_0 c_r_0_w41 f_r_0_w41 c_r_1_w41 f_r_1_w41 c_r_2_w41 f_r_2_w41 c_r_3_w41 f_r_3_w41 c_r_4_w41 f_r_4_w41 c_r_5_w41 f_r_5_w41 c_r_6_w41 f_r_6_w41 c_r_7_w41 f_r_7_w41 c_r_8_w41 f_r_8_w41 c_x_0_w41 f_x_0_w41 c_x_1_w41 f_x_1_w41 c_x_2_w41 f_x_2_w41 c_x_3_w41 f_x_3_w41 c_x_4_w41 f_x_4_w41 c_x_5_w41 f_x_5_w41 c_x_6_w41 f_x_6_w41 c_x_7_w41 f_x_7_w41 c_x_8_w41 f_x_8_w41 c_t_0_w41 f_t_0_w41
            clear oI
            clear x_t
            replace x_r := x_r.chg hc4 (by omega)
            replace x_x := x_x.chg hc4 (by omega)
            replace oG := oG.chg hc4 (by omega)
            replace oC := oC.chg hc4 (by omega)
            replace o9 := o9.chg hc4 (by omega)
            have B_wB := Below.chg_ B_w41 hc4 (by omega) (by omega)
            have s_wB := hc4.size
            have sB4 := hc4.size
            have c_r_0_wB := x_r.cell (i := 0) rfl
            have f_r_0_wB := x_r.frozen 0
            have c_r_1_wB := x_r.cell (i := 1) rfl
            have f_r_1_wB := x_r.frozen 1
            have c_r_2_wB := x_r.cell (i := 2) rfl
            have f_r_2_wB := x_r.frozen 2
            have c_r_3_wB := x_r.cell (i := 3) rfl
            have f_r_3_wB := x_r.frozen 3
            have c_r_4_wB := x_r.cell (i := 4) rfl
            have f_r_4_wB := x_r.frozen 4
            have c_r_5_wB := x_r.cell (i := 5) rfl
            have f_r_5_wB := x_r.frozen 5
            have c_r_6_wB := x_r.cell (i := 6) rfl
            have f_r_6_wB := x_r.frozen 6
            have c_r_7_wB := x_r.cell (i := 7) rfl
            have f_r_7_wB := x_r.frozen 7
            have c_r_8_wB := x_r.cell (i := 8) rfl
            have f_r_8_wB := x_r.frozen 8
            have c_x_0_wB := x_x.cell (i := 0) rfl
            have f_x_0_wB := x_x.frozen 0
            have c_x_1_wB := x_x.cell (i := 1) rfl
            have f_x_1_wB := x_x.frozen 1
            have c_x_2_wB := x_x.cell (i := 2) rfl
            have f_x_2_wB := x_x.frozen 2
            have c_x_3_wB := x_x.cell (i := 3) rfl
            have f_x_3_wB := x_x.frozen 3
            have c_x_4_wB := x_x.cell (i := 4) rfl
            have f_x_4_wB := x_x.frozen 4
            have c_x_5_wB := x_x.cell (i := 5) rfl
            have f_x_5_wB := x_x.frozen 5
            have c_x_6_wB := x_x.cell (i := 6) rfl
            have f_x_6_wB := x_x.frozen 6
            have c_x_7_wB := x_x.cell (i := 7) rfl
            have f_x_7_wB := x_x.frozen 7
            have c_x_8_wB := x_x.cell (i := 8) rfl
            have f_x_8_wB := x_x.frozen 8
            obtain ⟨w42, e_w42, s_w42, h_w42, y⟩ := set_step x_x 4 (.slice A8 Z.length c8)
            have s_w42_1 := Nat.le_of_eq s_w42
            have s_w42_2 := Nat.le_of_eq s_w42.symm
            clear s_w42
            replace x_r := x_r.chg h_w42 (by omega)
            replace oG := oG.chg h_w42 (by omega)
            replace oC := oC.chg h_w42 (by omega)
            replace o9 := o9.chg h_w42 (by omega)
            replace o8 := o8.chg h_w42 (by omega)
            have B_w42 := Below.chg_ B_wB h_w42 (by omega) (by omega)
            replace x_x : Vr w42 (wa.heap.size) 34 [.int .i64 id, .int .i64 (M : Int), .slice AG G.length cG, .slice A9 Y.length c9, .slice A8 Z.length c8, .slice AC C.length cC, .int .i64 0, .int .i64 0, .int .i64 0] := y
            clear y
            have c_r_0_w42 := x_r.cell (i := 0) rfl
            have f_r_0_w42 := x_r.frozen 0
            have c_r_1_w42 := x_r.cell (i := 1) rfl
            have f_r_1_w42 := x_r.frozen 1
            have c_r_2_w42 := x_r.cell (i := 2) rfl
            have f_r_2_w42 := x_r.frozen 2
            have c_r_3_w42 := x_r.cell (i := 3) rfl
            have f_r_3_w42 := x_r.frozen 3
            have c_r_4_w42 := x_r.cell (i := 4) rfl
            have f_r_4_w42 := x_r.frozen 4
            have c_r_5_w42 := x_r.cell (i := 5) rfl
            have f_r_5_w42 := x_r.frozen 5
            have c_r_6_w42 := x_r.cell (i := 6) rfl
            have f_r_6_w42 := x_r.frozen 6
            have c_r_7_w42 := x_r.cell (i := 7) rfl
            have f_r_7_w42 := x_r.frozen 7
            have c_r_8_w42 := x_r.cell (i := 8) rfl
            have f_r_8_w42 := x_r.frozen 8
            have c_x_0_w42 := x_x.cell (i := 0) rfl
            have f_x_0_w42 := x_x.frozen 0
            have c_x_1_w42 := x_x.cell (i := 1) rfl
            have f_x_1_w42 := x_x.frozen 1
            have c_x_2_w42 := x_x.cell (i := 2) rfl
            have f_x_2_w42 := x_x.frozen 2
            have c_x_3_w42 := x_x.cell (i := 3) rfl
            have f_x_3_w42 := x_x.frozen 3
            have c_x_4_w42 := x_x.cell (i := 4) rfl
            have f_x_4_w42 := x_x.frozen 4
            have c_x_5_w42 := x_x.cell (i := 5) rfl
            have f_x_5_w42 := x_x.frozen 5
            have c_x_6_w42 := x_x.cell (i := 6) rfl
            have f_x_6_w42 := x_x.frozen 6
            have c_x_7_w42 := x_x.cell (i := 7) rfl
            have f_x_7_w42 := x_x.frozen 7
            have c_x_8_w42 := x_x.cell (i := 8) rfl
            have f_x_8_w42 := x_x.frozen 8
            have HG2 : Hid (Y = List.replicate (j + 1) outNew ∧ Z = List.replicate (j + 1) 0) := by
              show _ ∧ _
              rw [← HY.out, ← HZ.out, HO1.out.1, HO1.out.2, List.replicate_succ', List.replicate_succ']; exact ⟨rfl, rfl⟩
            go_wp2
            go_roundw
            case rel => exact ⟨j + 1, Y, Z, A9, A8, c9, c8, l9, h9, l8, h8, by omega, by go_num, HG2, x_r, x_x, oG, oC, o9, o8, ⟨by omega, by omega, by omega, by omega, by omega, by omega, by omega⟩, B_w42⟩
            case measure => simp [intOf]; omega
          case b8_3 =>
            go_simp
            refine hK.out _ _ trivial (fun _ => ?_)
            clear hK K9
            refine wpAnyH_ready (rs := [1]) (by kernel_rfl) (by simp) ?_
            refine AllReadyH.cons rfl (fun K9 hK => ?b13_1) AllReadyH.nil
            go_simp
            refine hK.out _ _ trivial (fun _ => ?_)
            clear hK K9
            refine wpAnyH_ready (rs := [4]) (by kernel_rfl) (by simp) ?_
            refine AllReadyH.cons rfl (fun K9 hK => ?b14_4) AllReadyH.nil
            refine step_appN (by rfl) (.tmp 46) (.tmp 48) 31 (by rfl) 0 2 59 p0 (.agg #[.int .i64 0, .slice none 0 0]) 32 Try.underlying31 hp xz0 xz1 xz2 (by rfl) (by decide) (.slice AO O.length cO) O.length ys (by rfl) R _ (some ⟨wN.heap.size, 0, none⟩) 1 1 [.int .i64 1, .slice none 0 0] (by rfl) rfl hRV ones_out (by omega) (by decide) (Nat.zero_le _) ?_
            intro vA wA hoA hgA hatA
            obtain ⟨hcg, l9, h9, o9, hor, hle⟩ := hback vA wA hoA hgA hatA
            obtain ⟨Y, hY⟩ : ∃ Y, O ++ [outNew] = Y := ⟨_, rfl⟩
            rw [hY] at o9
            have HY := Lib.hid hY
            clear hY
            obtain ⟨A9, c9, rfl, -, -, -⟩ := rv_slice o9.rd
            have xA := xT.chg hcg (by omega)
            have qA := xA.cell (i := 3) rfl
            have fA := xA.frozen 3
            refine hK.out _ _ trivial (fun _ => ?_)
            clear hK K9
            refine takeN (i := 5) (v := ?v5_15) (d := some 50) rfl rfl (by kernel_rfl) (by kernel_rfl) (by kernel_rfl) (fun _ _ _ h => h) (Or.inl ⟨by rfl, ?y5_15⟩) trivial ?r5_15
            case y5_15 => (intro W hW; go_simp; try (with_reducible rfl))
            simp only [Act.put, List.setIfInBounds_toArray, List.set_cons_zero, List.set_cons_succ]
            refine wpAnyH_ready (rs := [6]) (by kernel_rfl) (by simp) ?_
            refine AllReadyH.cons rfl (fun K9 hK => ?b16_6) AllReadyH.nil
            go_simp
            refine hK.out _ _ trivial (fun _ => ?_)
            clear hK K9
            refine wpAnyH_done (by kernel_rfl) ?_ _
            obtain ⟨wS, eS, sS, hS, xS⟩ := set_step xA 3 (.slice A9 Y.length c9)
            rw [eS]
            have sS_1 := Nat.le_of_eq sS
            have sS_2 := Nat.le_of_eq sS.symm
            clear sS
            replace xS : Vr wS (wa.heap.size) 34 [.int .i64 id, .int .i64 (M : Int), .slice AG G.length cG, .slice A9 Y.length c9, .slice AI I.length cI, .slice AC C.length cC, .int .i64 0, .int .i64 0, .int .i64 0] := xS
            have szA := hcg.size
            have HB9 := Below.chg_ (Below.chg_ (HB.trans (hNT.mono HB.size)) hcg (by omega) (by omega)) hS (by omega) (by omega)
            replace x_r := ((x_r.from_ hNT).chg hcg (by omega)).chg hS (by omega)
            clear x_x
            have x_x := xS
            replace oG := ((oG.below hNT).chg hcg (by omega)).chg hS (by omega)
            replace oC := ((oC.below hNT).chg hcg (by omega)).chg hS (by omega)
            replace oI := ((oI.below hNT).chg hcg (by omega)).chg hS (by omega)
            replace o9 := o9.chg hS (by omega)
            clear xS xA qA fA eS hoA hgA hatA hback R hRV xT qT xN qN xd qd e_wT x_t
            have c_r_0_wS := x_r.cell (i := 0) rfl
            have f_r_0_wS := x_r.frozen 0
            have c_r_1_wS := x_r.cell (i := 1) rfl
            have f_r_1_wS := x_r.frozen 1
            have c_r_2_wS := x_r.cell (i := 2) rfl
            have f_r_2_wS := x_r.frozen 2
            have c_r_3_wS := x_r.cell (i := 3) rfl
            have f_r_3_wS := x_r.frozen 3
            have c_r_4_wS := x_r.cell (i := 4) rfl
            have f_r_4_wS := x_r.frozen 4
            have c_r_5_wS := x_r.cell (i := 5) rfl
            have f_r_5_wS := x_r.frozen 5
            have c_r_6_wS := x_r.cell (i := 6) rfl
            have f_r_6_wS := x_r.frozen 6
            have c_r_7_wS := x_r.cell (i := 7) rfl
            have f_r_7_wS := x_r.frozen 7
            have c_r_8_wS := x_r.cell (i := 8) rfl
            have f_r_8_wS := x_r.frozen 8
            have c_x_0_wS := x_x.cell (i := 0) rfl
            have f_x_0_wS := x_x.frozen 0
            have c_x_1_wS := x_x.cell (i := 1) rfl
            have f_x_1_wS := x_x.frozen 1
            have c_x_2_wS := x_x.cell (i := 2) rfl
            have f_x_2_wS := x_x.frozen 2
            have c_x_3_wS := x_x.cell (i := 3) rfl
            have f_x_3_wS := x_x.frozen 3
            have c_x_4_wS := x_x.cell (i := 4) rfl
            have f_x_4_wS := x_x.frozen 4
            have c_x_5_wS := x_x.cell (i := 5) rfl
            have f_x_5_wS := x_x.frozen 5
            have c_x_6_wS := x_x.cell (i := 6) rfl
            have f_x_6_wS := x_x.frozen 6
            have c_x_7_wS := x_x.cell (i := 7) rfl
            have f_x_7_wS := x_x.frozen 7
            have c_x_8_wS := x_x.cell (i := 8) rfl
            have f_x_8_wS := x_x.frozen 8
            obtain ⟨w41, e_w41, s_w41, h_w41, x_t⟩ := alloc_step wS 3 [.int .i64 0]
            have s_w41_1 := Nat.le_of_eq s_w41
            have s_w41_2 := Nat.le_of_eq s_w41.symm
            clear s_w41
            replace x_r := x_r.from_ h_w41
            replace x_x := x_x.from_ h_w41
            replace oG := oG.below h_w41
            replace oC := oC.below h_w41
            replace oI := oI.below h_w41
            replace o9 := o9.below h_w41
            have B_w41 := HB9.trans (h_w41.mono HB9.size)
            have i_w41_0 := x_t.same (i := 0) rfl
            have c_r_0_w41 := x_r.cell (i := 0) rfl
            have f_r_0_w41 := x_r.frozen 0
            have c_r_1_w41 := x_r.cell (i := 1) rfl
            have f_r_1_w41 := x_r.frozen 1
            have c_r_2_w41 := x_r.cell (i := 2) rfl
            have f_r_2_w41 := x_r.frozen 2
            have c_r_3_w41 := x_r.cell (i := 3) rfl
            have f_r_3_w41 := x_r.frozen 3
            have c_r_4_w41 := x_r.cell (i := 4) rfl
            have f_r_4_w41 := x_r.frozen 4
            have c_r_5_w41 := x_r.cell (i := 5) rfl
            have f_r_5_w41 := x_r.frozen 5
            have c_r_6_w41 := x_r.cell (i := 6) rfl
            have f_r_6_w41 := x_r.frozen 6
            have c_r_7_w41 := x_r.cell (i := 7) rfl
            have f_r_7_w41 := x_r.frozen 7
            have c_r_8_w41 := x_r.cell (i := 8) rfl
            have f_r_8_w41 := x_r.frozen 8
            have c_x_0_w41 := x_x.cell (i := 0) rfl
            have f_x_0_w41 := x_x.frozen 0
            have c_x_1_w41 := x_x.cell (i := 1) rfl
            have f_x_1_w41 := x_x.frozen 1
            have c_x_2_w41 := x_x.cell (i := 2) rfl
            have f_x_2_w41 := x_x.frozen 2
            have c_x_3_w41 := x_x.cell (i := 3) rfl
            have f_x_3_w41 := x_x.frozen 3
            have c_x_4_w41 := x_x.cell (i := 4) rfl
            have f_x_4_w41 := x_x.frozen 4
            have c_x_5_w41 := x_x.cell (i := 5) rfl
            have f_x_5_w41 := x_x.frozen 5
            have c_x_6_w41 := x_x.cell (i := 6) rfl
            have f_x_6_w41 := x_x.frozen 6
            have c_x_7_w41 := x_x.cell (i := 7) rfl
            have f_x_7_w41 := x_x.frozen 7
            have c_x_8_w41 := x_x.cell (i := 8) rfl
            have f_x_8_w41 := x_x.frozen 8
            have c_t_0_w41 := x_t.cell (i := 0) rfl
            have f_t_0_w41 := x_t.frozen 0
            have hRV := x_t.rdOne
            go_wp2_with (at_builtin; refine wpl_appI _ .i64 rfl (.tmp 52) (.tmp 53) 24 rfl 0 3 q0 8 Try.underlying24 hq uz0 uz1 uz2 _ I rfl (oI.1.base_mono (Nat.zero_le _)) _ _ _ 1 [0] rfl rfl hRV ?d1 (by omega) ?d2 ?_)
            case d1 => omega
            case d2 => omega
            intro v4 wB ho4 hg4 hat4
            obtain ⟨hc4, l8, h8, o8, hor8, hle8⟩ := oI.app_2 ho4 hg4 hat4
            obtain ⟨Z, hZ⟩ : ∃ Z, I ++ [0] = Z := ⟨_, rfl⟩
            rw [hZ] at o8
            have HZ := Lib.hid hZ
            clear hZ ho4 hg4 hat4 hRV
            obtain ⟨A8, c8, rfl, -, -, -⟩ := o8.rd
            clear c_r_0_wS f_r_0_wS c_r_1_wS f_r_1_wS c_r_2_wS f_r_2_wS c_r_3_wS f_r_3_wS c_r_4_wS f_r_4_wS c_r_5_wS f_r_5_wS c_r_6_wS f_r_6_wS c_r_7_wS f_r_7_wS c_r_8_wS f_r_8_wS c_x_0_wS f_x_0_wS c_x_1_wS f_x_1_wS c_x_2_wS f_x_2_wS c_x_3_wS f_x_3_wS c_x_4_wS f_x_4_wS c_x_5_wS f_x_5_wS c_x_6_wS f_x_6_wS c_x_7_wS f_x_7_wS c_x_8_wS f_x_8_wS i_w41_0 c_r_0_w41 f_r_0_w41 c_r_1_w41 f_r_1_w41 c_r_2_w41 f_r_2_w41 c_r_3_w41 f_r_3_w41 c_r_4_w41 f_r_4_w41 c_r_5_w41 f_r_5_w41 c_r_6_w41 f_r_6_w41 c_r_7_w41 f_r_7_w41 c_r_8_w41 f_r_8_w41 c_x_0_w41 f_x_0_w41 c_x_1_w41 f_x_1_w41 c_x_2_w41 f_x_2_w41 c_x_3_w41 f_x_3_w41 c_x_4_w41 f_x_4_w41 c_x_5_w41 f_x_5_w41 c_x_6_w41 f_x_6_w41 c_x_7_w41 f_x_7_w41 c_x_8_w41 f_x_8_w41 c_t_0_w41 f_t_0_w41
            clear oI
            clear x_t
            replace x_r := x_r.chg hc4 (by omega)
            replace x_x := x_x.chg hc4 (by omega)
            replace oG := oG.chg hc4 (by omega)
            replace oC := oC.chg hc4 (by omega)
            replace o9 := o9.chg hc4 (by omega)
            have B_wB := Below.chg_ B_w41 hc4 (by omega) (by omega)
            have s_wB := hc4.size
            have sB4 := hc4.size
            have c_r_0_wB := x_r.cell (i := 0) rfl
            have f_r_0_wB := x_r.frozen 0
            have c_r_1_wB := x_r.cell (i := 1) rfl
            have f_r_1_wB := x_r.frozen 1
            have c_r_2_wB := x_r.cell (i := 2) rfl
            have f_r_2_wB := x_r.frozen 2
            have c_r_3_wB := x_r.cell (i := 3) rfl
            have f_r_3_wB := x_r.frozen 3
            have c_r_4_wB := x_r.cell (i := 4) rfl
            have f_r_4_wB := x_r.frozen 4
            have c_r_5_wB := x_r.cell (i := 5) rfl
            have f_r_5_wB := x_r.frozen 5
            have c_r_6_wB := x_r.cell (i := 6) rfl
            have f_r_6_wB := x_r.frozen 6
            have c_r_7_wB := x_r.cell (i := 7) rfl
            have f_r_7_wB := x_r.frozen 7
            have c_r_8_wB := x_r.cell (i := 8) rfl
            have f_r_8_wB := x_r.frozen 8
            have c_x_0_wB := x_x.cell (i := 0) rfl
            have f_x_0_wB := x_x.frozen 0
            have c_x_1_wB := x_x.cell (i := 1) rfl
            have f_x_1_wB := x_x.frozen 1
            have c_x_2_wB := x_x.cell (i := 2) rfl
            have f_x_2_wB := x_x.frozen 2
            have c_x_3_wB := x_x.cell (i := 3) rfl
            have f_x_3_wB := x_x.frozen 3
            have c_x_4_wB := x_x.cell (i := 4) rfl
            have f_x_4_wB := x_x.frozen 4
            have c_x_5_wB := x_x.cell (i := 5) rfl
            have f_x_5_wB := x_x.frozen 5
            have c_x_6_wB := x_x.cell (i := 6) rfl
            have f_x_6_wB := x_x.frozen 6
            have c_x_7_wB := x_x.cell (i := 7) rfl
            have f_x_7_wB := x_x.frozen 7
            have c_x_8_wB := x_x.cell (i := 8) rfl
            have f_x_8_wB := x_x.frozen 8
            obtain ⟨w42, e_w42, s_w42, h_w42, y⟩ := set_step x_x 4 (.slice A8 Z.length c8)
            have s_w42_1 := Nat.le_of_eq s_w42
            have s_w42_2 := Nat.le_of_eq s_w42.symm
            clear s_w42
            replace x_r := x_r.chg h_w42 (by omega)
            replace oG := oG.chg h_w42 (by omega)
            replace oC := oC.chg h_w42 (by omega)
            replace o9 := o9.chg h_w42 (by omega)
            replace o8 := o8.chg h_w42 (by omega)
            have B_w42 := Below.chg_ B_wB h_w42 (by omega) (by omega)
            replace x_x : Vr w42 (wa.heap.size) 34 [.int .i64 id, .int .i64 (M : Int), .slice AG G.length cG, .slice A9 Y.length c9, .slice A8 Z.length c8, .slice AC C.length cC, .int .i64 0, .int .i64 0, .int .i64 0] := y
            clear y
            have c_r_0_w42 := x_r.cell (i := 0) rfl
            have f_r_0_w42 := x_r.frozen 0
            have c_r_1_w42 := x_r.cell (i := 1) rfl
            have f_r_1_w42 := x_r.frozen 1
            have c_r_2_w42 := x_r.cell (i := 2) rfl
            have f_r_2_w42 := x_r.frozen 2
            have c_r_3_w42 := x_r.cell (i := 3) rfl
            have f_r_3_w42 := x_r.frozen 3
            have c_r_4_w42 := x_r.cell (i := 4) rfl
            have f_r_4_w42 := x_r.frozen 4
            have c_r_5_w42 := x_r.cell (i := 5) rfl
            have f_r_5_w42 := x_r.frozen 5
            have c_r_6_w42 := x_r.cell (i := 6) rfl
            have f_r_6_w42 := x_r.frozen 6
            have c_r_7_w42 := x_r.cell (i := 7) rfl
            have f_r_7_w42 := x_r.frozen 7
            have c_r_8_w42 := x_r.cell (i := 8) rfl
            have f_r_8_w42 := x_r.frozen 8
            have c_x_0_w42 := x_x.cell (i := 0) rfl
            have f_x_0_w42 := x_x.frozen 0
            have c_x_1_w42 := x_x.cell (i := 1) rfl
            have f_x_1_w42 := x_x.frozen 1
            have c_x_2_w42 := x_x.cell (i := 2) rfl
            have f_x_2_w42 := x_x.frozen 2
            have c_x_3_w42 := x_x.cell (i := 3) rfl
            have f_x_3_w42 := x_x.frozen 3
            have c_x_4_w42 := x_x.cell (i := 4) rfl
            have f_x_4_w42 := x_x.frozen 4
            have c_x_5_w42 := x_x.cell (i := 5) rfl
            have f_x_5_w42 := x_x.frozen 5
            have c_x_6_w42 := x_x.cell (i := 6) rfl
            have f_x_6_w42 := x_x.frozen 6
            have c_x_7_w42 := x_x.cell (i := 7) rfl
            have f_x_7_w42 := x_x.frozen 7
            have c_x_8_w42 := x_x.cell (i := 8) rfl
            have f_x_8_w42 := x_x.frozen 8
            have HG2 : Hid (Y = List.replicate (j + 1) outNew ∧ Z = List.replicate (j + 1) 0) := by
              show _ ∧ _
              rw [← HY.out, ← HZ.out, HO1.out.1, HO1.out.2, List.replicate_succ', List.replicate_succ']; exact ⟨rfl, rfl⟩
            go_wp2
            go_roundw
            case rel => exact ⟨j + 1, Y, Z, A9, A8, c9, c8, l9, h9, l8, h8, by omega, by go_num, HG2, x_r, x_x, oG, oC, o9, o8, ⟨by omega, by omega, by omega, by omega, by omega, by omega, by omega⟩, B_w42⟩
            case measure => simp [intOf]; omega
    have j1 : (k : Int) < (K : Int) := by omega
    obtain ⟨wd, hwd⟩ : ∃ x, ({ heap := wr.heap, tape := wr.tape, drawn := wr.drawn + 1, os := wr.os, output := wr.output } : World) = x := ⟨_, rfl⟩
    have hd0 : Below wr.heap.size wr wd := by rw [← hwd]; exact (Below.refl wr.heap.size wr).drew
    have sd0 := hd0.size
    have zd0 : wd.heap.size = wr.heap.size := by rw [← hwd]
    have xd := x_x.from_ hd0
    have qd := xd.cell (i := 2) rfl
    go_wp2_with fail
    refine wp_region_held (S := fun _ => True) (by kernel_rfl) ?_
    rw [hwd]
    refine takeN (i := 0) (v := ?v0_17) (d := some 28) rfl rfl (by kernel_rfl) (by kernel_rfl) (by kernel_rfl) (fun _ _ _ h => h) (Or.inl ⟨by rfl, ?y0_17⟩) trivial ?r0_17
    case y0_17 => (intro W hW; go_simp; try (with_reducible rfl))
    simp only [Act.put, List.setIfInBounds_toArray, List.set_cons_zero, List.set_cons_succ]
    refine wpAnyH_ready (rs := [1, 2]) (by kernel_rfl) (by simp) ?_
    refine AllReadyH.cons rfl (fun K9 hK => ?b18_1) (AllReadyH.cons rfl (fun K9 hK => ?b18_2) AllReadyH.nil)
    case b18_1 =>
      go_simp
      refine hK.out _ _ trivial (fun _ => ?_)
      clear hK K9
      refine wpAnyH_ready (rs := [2]) (by kernel_rfl) (by simp) ?_
      refine AllReadyH.cons rfl (fun K9 hK => ?b19_2) AllReadyH.nil
      go_simp
      refine (sAcctNew_v).mono ?_
      rintro e wN ⟨rfl, hdN⟩
      have sN := hdN.size
      have xN := xd.from_ hdN
      have qN := xN.cell (i := 2) rfl
      obtain ⟨wT, e_wT, s_wT, h_wT, x_t⟩ := alloc_step wN 52 [.int .i64 0, .int .i64 0, .int .i64 0, .slice none 0 0, .slice none 0 0]
      have sT := h_wT.size
      have xT := xN.from_ h_wT
      have qT := xT.cell (i := 2) rfl
      have hRV := x_t.rdV
      have hNT : Below wr.heap.size wr wT := hd0.trans ((hdN.mono (by omega)).trans (h_wT.mono (by omega)))
      obtain ⟨ys, R, hback⟩ := OV.app_n3 nilL_nil (oG.below hNT) (cs := [.int .i64 0, .int .i64 0, .int .i64 0, .slice none 0 0, .slice none 0 0]) (x := acctZ) rfl (fun w => ⟨own_acct_zero w, rfl⟩) (by omega)
      refine hK.out _ _ trivial (fun _ => ?_)
      clear hK K9
      refine wpAnyH_ready (rs := [3]) (by kernel_rfl) (by simp) ?_
      refine AllReadyH.cons rfl (fun K9 hK => ?b20_3) AllReadyH.nil
      go_simp
      refine hK.out _ _ trivial (fun _ => ?_)
      clear hK K9
      refine wpAnyH_ready (rs := [4]) (by kernel_rfl) (by simp) ?_
      refine AllReadyH.cons rfl (fun K9 hK => ?b21_4) AllReadyH.nil
      refine step_appN (by rfl) (.tmp 29) (.tmp 31) 30 (by rfl) 0 5 52 i0 (.agg #[.int .i64 0, .int .i64 0, .int .i64 0, .slice none 0 0, .slice none 0 0]) 72 Try.underlying30 hi hz0 hz1 hz2 (by rfl) (by decide) (.slice AG G.length cG) G.length ys (by rfl) R _ (some ⟨wN.heap.size, 0, none⟩) 1 1 [.int .i64 0, .int .i64 0, .int .i64 0, .slice none 0 0, .slice none 0 0] (by rfl) rfl hRV ones_acct (by omega) (by decide) (Nat.zero_le _) ?_
      intro vA wA hoA hgA hatA
      obtain ⟨hcg, l9, h9, o9, hor, hle⟩ := hback vA wA hoA hgA hatA
      obtain ⟨Y, hY⟩ : ∃ Y, G ++ [acctZ] = Y := ⟨_, rfl⟩
      rw [hY] at o9
      have HY := Lib.hid hY
      clear hY
      obtain ⟨A9, c9, rfl, -, -, -⟩ := rv_slice o9.rd
      have xA := xT.chg hcg (by omega)
      have qA := xA.cell (i := 2) rfl
      have fA := xA.frozen 2
      refine hK.out _ _ trivial (fun _ => ?_)
      clear hK K9
      refine takeN (i := 5) (v := ?v5_22) (d := some 33) rfl rfl (by kernel_rfl) (by kernel_rfl) (by kernel_rfl) (fun _ _ _ h => h) (Or.inl ⟨by rfl, ?y5_22⟩) trivial ?r5_22
      case y5_22 => (intro W hW; go_simp; try (with_reducible rfl))
      simp only [Act.put, List.setIfInBounds_toArray, List.set_cons_zero, List.set_cons_succ]
      refine wpAnyH_ready (rs := [6]) (by kernel_rfl) (by simp) ?_
      refine AllReadyH.cons rfl (fun K9 hK => ?b23_6) AllReadyH.nil
      go_simp
      refine hK.out _ _ trivial (fun _ => ?_)
      clear hK K9
      refine wpAnyH_done (by kernel_rfl) ?_ _
      obtain ⟨wS, eS, sS, hS, xS⟩ := set_step xA 2 (.slice A9 Y.length c9)
      rw [eS]
      have sS_1 := Nat.le_of_eq sS
      have sS_2 := Nat.le_of_eq sS.symm
      clear sS
      replace xS : Vr wS (wa.heap.size) 34 [.int .i64 id, .int .i64 (M : Int), .slice A9 Y.length c9, .slice none 0 0, .slice none 0 0, .slice AC C.length cC, .int .i64 0, .int .i64 0, .int .i64 0] := xS
      have szA := hcg.size
      have HB9 := Below.chg_ (Below.chg_ (HB.trans (hNT.mono HB.size)) hcg (by omega) (by omega)) hS (by omega) (by omega)
      replace x_r := ((x_r.from_ hNT).chg hcg (by omega)).chg hS (by omega)
      clear x_x
      have x_x := xS
      replace oC := ((oC.below hNT).chg hcg (by omega)).chg hS (by omega)
      replace o9 := o9.chg hS (by omega)
      clear xS xA qA fA eS hoA hgA hatA hback R hRV xT qT xN qN xd qd e_wT x_t
      have c_r_0_wS := x_r.cell (i := 0) rfl
      have f_r_0_wS := x_r.frozen 0
      have c_r_1_wS := x_r.cell (i := 1) rfl
      have f_r_1_wS := x_r.frozen 1
      have c_r_2_wS := x_r.cell (i := 2) rfl
      have f_r_2_wS := x_r.frozen 2
      have c_r_3_wS := x_r.cell (i := 3) rfl
      have f_r_3_wS := x_r.frozen 3
      have c_r_4_wS := x_r.cell (i := 4) rfl
      have f_r_4_wS := x_r.frozen 4
      have c_r_5_wS := x_r.cell (i := 5) rfl
      have f_r_5_wS := x_r.frozen 5
      have c_r_6_wS := x_r.cell (i := 6) rfl
      have f_r_6_wS := x_r.frozen 6
      have c_r_7_wS := x_r.cell (i := 7) rfl
      have f_r_7_wS := x_r.frozen 7
      have c_r_8_wS := x_r.cell (i := 8) rfl
      have f_r_8_wS := x_r.frozen 8
      have c_x_0_wS := x_x.cell (i := 0) rfl
      have f_x_0_wS := x_x.frozen 0
      have c_x_1_wS := x_x.cell (i := 1) rfl
      have f_x_1_wS := x_x.frozen 1
      have c_x_2_wS := x_x.cell (i := 2) rfl
      have f_x_2_wS := x_x.frozen 2
      have c_x_3_wS := x_x.cell (i := 3) rfl
      have f_x_3_wS := x_x.frozen 3
      have c_x_4_wS := x_x.cell (i := 4) rfl
      have f_x_4_wS := x_x.frozen 4
      have c_x_5_wS := x_x.cell (i := 5) rfl
      have f_x_5_wS := x_x.frozen 5
      have c_x_6_wS := x_x.cell (i := 6) rfl
      have f_x_6_wS := x_x.frozen 6
      have c_x_7_wS := x_x.cell (i := 7) rfl
      have f_x_7_wS := x_x.frozen 7
      have c_x_8_wS := x_x.cell (i := 8) rfl
      have f_x_8_wS := x_x.frozen 8
      obtain ⟨w21, e_w21, s_w21, h_w21, x_t⟩ := alloc_step wS 56 [.int .i64 0, .int .i64 0, .int .i64 0]
      have s_w21_1 := Nat.le_of_eq s_w21
      have s_w21_2 := Nat.le_of_eq s_w21.symm
      clear s_w21
      replace x_r := x_r.from_ h_w21
      replace x_x := x_x.from_ h_w21
      replace oC := oC.below h_w21
      replace o9 := o9.below h_w21
      have B_w21 := HB9.trans (h_w21.mono HB9.size)
      have i_w21_2 := x_t.same (i := 2) rfl
      have i_w21_1 := x_t.same (i := 1) rfl
      have i_w21_0 := x_t.same (i := 0) rfl
      have c_r_0_w21 := x_r.cell (i := 0) rfl
      have f_r_0_w21 := x_r.frozen 0
      have c_r_1_w21 := x_r.cell (i := 1) rfl
      have f_r_1_w21 := x_r.frozen 1
      have c_r_2_w21 := x_r.cell (i := 2) rfl
      have f_r_2_w21 := x_r.frozen 2
      have c_r_3_w21 := x_r.cell (i := 3) rfl
      have f_r_3_w21 := x_r.frozen 3
      have c_r_4_w21 := x_r.cell (i := 4) rfl
      have f_r_4_w21 := x_r.frozen 4
      have c_r_5_w21 := x_r.cell (i := 5) rfl
      have f_r_5_w21 := x_r.frozen 5
      have c_r_6_w21 := x_r.cell (i := 6) rfl
      have f_r_6_w21 := x_r.frozen 6
      have c_r_7_w21 := x_r.cell (i := 7) rfl
      have f_r_7_w21 := x_r.frozen 7
      have c_r_8_w21 := x_r.cell (i := 8) rfl
      have f_r_8_w21 := x_r.frozen 8
      have c_x_0_w21 := x_x.cell (i := 0) rfl
      have f_x_0_w21 := x_x.frozen 0
      have c_x_1_w21 := x_x.cell (i := 1) rfl
      have f_x_1_w21 := x_x.frozen 1
      have c_x_2_w21 := x_x.cell (i := 2) rfl
      have f_x_2_w21 := x_x.frozen 2
      have c_x_3_w21 := x_x.cell (i := 3) rfl
      have f_x_3_w21 := x_x.frozen 3
      have c_x_4_w21 := x_x.cell (i := 4) rfl
      have f_x_4_w21 := x_x.frozen 4
      have c_x_5_w21 := x_x.cell (i := 5) rfl
      have f_x_5_w21 := x_x.frozen 5
      have c_x_6_w21 := x_x.cell (i := 6) rfl
      have f_x_6_w21 := x_x.frozen 6
      have c_x_7_w21 := x_x.cell (i := 7) rfl
      have f_x_7_w21 := x_x.frozen 7
      have c_x_8_w21 := x_x.cell (i := 8) rfl
      have f_x_8_w21 := x_x.frozen 8
      have c_t_0_w21 := x_t.cell (i := 0) rfl
      have f_t_0_w21 := x_t.frozen 0
      have c_t_1_w21 := x_t.cell (i := 1) rfl
      have f_t_1_w21 := x_t.frozen 1
      have c_t_2_w21 := x_t.cell (i := 2) rfl
      have f_t_2_w21 := x_t.frozen 2
      have hRV := x_t.rdV
      obtain ⟨ys, R, hback⟩ := OV.app_n3 own_acc_nil oC (cs := [.int .i64 0, .int .i64 0, .int .i64 0]) (x := accZ) rfl (fun w => own_acc w accZ) (by omega)
      go_wp2_with (at_builtin; refine wpl_appN _ rfl (.tmp 35) (.tmp 37) 32 rfl 0 3 56 j0 (.agg #[.int .i64 0, .int .i64 0, .int .i64 0]) 24 Try.underlying32 hj yz0 yz1 yz2 rfl (by decide) _ C.length ys rfl R _ _ _ 1 [.int .i64 0, .int .i64 0, .int .i64 0] rfl rfl hRV ?d0 ?d1 (by decide) (Nat.zero_le _) ?_)
      case d0 => exact ones_acc
      case d1 => omega
      intro v4 wB ho4 hg4 hat4
      obtain ⟨hc4, l8, h8, o8, hor8, hle8⟩ := hback v4 wB ho4 hg4 hat4
      obtain ⟨Z, hZ⟩ : ∃ Z, C ++ [accZ] = Z := ⟨_, rfl⟩
      rw [hZ] at o8
      have HZ := Lib.hid hZ
      clear hZ hback R ho4 hg4 hat4 hRV
      obtain ⟨A8, c8, rfl, -, -, -⟩ := rv_slice o8.rd
      clear c_r_0_wS f_r_0_wS c_r_1_wS f_r_1_wS c_r_2_wS f_r_2_wS c_r_3_wS f_r_3_wS c_r_4_wS f_r_4_wS c_r_5_wS f_r_5_wS c_r_6_wS f_r_6_wS c_r_7_wS f_r_7_wS c_r_8_wS f_r_8_wS c_x_0_wS f_x_0_wS c_x_1_wS f_x_1_wS c_x_2_wS f_x_2_wS c_x_3_wS f_x_3_wS c_x_4_wS f_x_4_wS c_x_5_wS f_x_5_wS c_x_6_wS f_x_6_wS c_x_7_wS f_x_7_wS c_x_8_wS f_x_8_wS i_w21_2 i_w21_1 i_w21_0 c_r_0_w21 f_r_0_w21 c_r_1_w21 f_r_1_w21 c_r_2_w21 f_r_2_w21 c_r_3_w21 f_r_3_w21 c_r_4_w21 f_r_4_w21 c_r_5_w21 f_r_5_w21 c_r_6_w21 f_r_6_w21 c_r_7_w21 f_r_7_w21 c_r_8_w21 f_r_8_w21 c_x_0_w21 f_x_0_w21 c_x_1_w21 f_x_1_w21 c_x_2_w21 f_x_2_w21 c_x_3_w21 f_x_3_w21 c_x_4_w21 f_x_4_w21 c_x_5_w21 f_x_5_w21 c_x_6_w21 f_x_6_w21 c_x_7_w21 f_x_7_w21 c_x_8_w21 f_x_8_w21 c_t_0_w21 f_t_0_w21 c_t_1_w21 f_t_1_w21 c_t_2_w21 f_t_2_w21
      clear oC
      clear x_t
      replace x_r := x_r.chg hc4 (by omega)
      replace x_x := x_x.chg hc4 (by omega)
      replace o9 := o9.chg hc4 (by omega)
      have B_wB := Below.chg_ B_w21 hc4 (by omega) (by omega)
      have s_wB := hc4.size
      have sB4 := hc4.size
      have c_r_0_wB := x_r.cell (i := 0) rfl
      have f_r_0_wB := x_r.frozen 0
      have c_r_1_wB := x_r.cell (i := 1) rfl
      have f_r_1_wB := x_r.frozen 1
      have c_r_2_wB := x_r.cell (i := 2) rfl
      have f_r_2_wB := x_r.frozen 2
      have c_r_3_wB := x_r.cell (i := 3) rfl
      have f_r_3_wB := x_r.frozen 3
      have c_r_4_wB := x_r.cell (i := 4) rfl
      have f_r_4_wB := x_r.frozen 4
      have c_r_5_wB := x_r.cell (i := 5) rfl
      have f_r_5_wB := x_r.frozen 5
      have c_r_6_wB := x_r.cell (i := 6) rfl
      have f_r_6_wB := x_r.frozen 6
      have c_r_7_wB := x_r.cell (i := 7) rfl
      have f_r_7_wB := x_r.frozen 7
      have c_r_8_wB := x_r.cell (i := 8) rfl
      have f_r_8_wB := x_r.frozen 8
      have c_x_0_wB := x_x.cell (i := 0) rfl
      have f_x_0_wB := x_x.frozen 0
      have c_x_1_wB := x_x.cell (i := 1) rfl
      have f_x_1_wB := x_x.frozen 1
      have c_x_2_wB := x_x.cell (i := 2) rfl
      have f_x_2_wB := x_x.frozen 2
      have c_x_3_wB := x_x.cell (i := 3) rfl
      have f_x_3_wB := x_x.frozen 3
      have c_x_4_wB := x_x.cell (i := 4) rfl
      have f_x_4_wB := x_x.frozen 4
      have c_x_5_wB := x_x.cell (i := 5) rfl
      have f_x_5_wB := x_x.frozen 5
      have c_x_6_wB := x_x.cell (i := 6) rfl
      have f_x_6_wB := x_x.frozen 6
      have c_x_7_wB := x_x.cell (i := 7) rfl
      have f_x_7_wB := x_x.frozen 7
      have c_x_8_wB := x_x.cell (i := 8) rfl
      have f_x_8_wB := x_x.frozen 8
      obtain ⟨w22, e_w22, s_w22, h_w22, y⟩ := set_step x_x 5 (.slice A8 Z.length c8)
      have s_w22_1 := Nat.le_of_eq s_w22
      have s_w22_2 := Nat.le_of_eq s_w22.symm
      clear s_w22
      replace x_r := x_r.chg h_w22 (by omega)
      replace o9 := o9.chg h_w22 (by omega)
      replace o8 := o8.chg h_w22 (by omega)
      have B_w22 := Below.chg_ B_wB h_w22 (by omega) (by omega)
      replace x_x : Vr w22 (wa.heap.size) 34 [.int .i64 id, .int .i64 (M : Int), .slice A9 Y.length c9, .slice none 0 0, .slice none 0 0, .slice A8 Z.length c8, .int .i64 0, .int .i64 0, .int .i64 0] := y
      clear y
      have c_r_0_w22 := x_r.cell (i := 0) rfl
      have f_r_0_w22 := x_r.frozen 0
      have c_r_1_w22 := x_r.cell (i := 1) rfl
      have f_r_1_w22 := x_r.frozen 1
      have c_r_2_w22 := x_r.cell (i := 2) rfl
      have f_r_2_w22 := x_r.frozen 2
      have c_r_3_w22 := x_r.cell (i := 3) rfl
      have f_r_3_w22 := x_r.frozen 3
      have c_r_4_w22 := x_r.cell (i := 4) rfl
      have f_r_4_w22 := x_r.frozen 4
      have c_r_5_w22 := x_r.cell (i := 5) rfl
      have f_r_5_w22 := x_r.frozen 5
      have c_r_6_w22 := x_r.cell (i := 6) rfl
      have f_r_6_w22 := x_r.frozen 6
      have c_r_7_w22 := x_r.cell (i := 7) rfl
      have f_r_7_w22 := x_r.frozen 7
      have c_r_8_w22 := x_r.cell (i := 8) rfl
      have f_r_8_w22 := x_r.frozen 8
      have c_x_0_w22 := x_x.cell (i := 0) rfl
      have f_x_0_w22 := x_x.frozen 0
      have c_x_1_w22 := x_x.cell (i := 1) rfl
      have f_x_1_w22 := x_x.frozen 1
      have c_x_2_w22 := x_x.cell (i := 2) rfl
      have f_x_2_w22 := x_x.frozen 2
      have c_x_3_w22 := x_x.cell (i := 3) rfl
      have f_x_3_w22 := x_x.frozen 3
      have c_x_4_w22 := x_x.cell (i := 4) rfl
      have f_x_4_w22 := x_x.frozen 4
      have c_x_5_w22 := x_x.cell (i := 5) rfl
      have f_x_5_w22 := x_x.frozen 5
      have c_x_6_w22 := x_x.cell (i := 6) rfl
      have f_x_6_w22 := x_x.frozen 6
      have c_x_7_w22 := x_x.cell (i := 7) rfl
      have f_x_7_w22 := x_x.frozen 7
      have c_x_8_w22 := x_x.cell (i := 8) rfl
      have f_x_8_w22 := x_x.frozen 8
      have HG2 : Hid (Y = List.replicate (k + 1) acctZ ∧ Z = List.replicate (k + 1) accZ) := by
        show _ ∧ _
        rw [← HY.out, ← HZ.out, HG.out.1, HG.out.2, List.replicate_succ', List.replicate_succ']; exact ⟨rfl, rfl⟩
      go_wp2
      go_roundw
      case rel => exact ⟨k + 1, Y, Z, A9, A8, c9, c8, l9, h9, l8, h8, by omega, by go_num, HG2, x_r, x_x, o9, o8, ⟨by omega, by omega, by omega, by omega, by omega⟩, B_w22⟩
      case measure => simp [intOf]; omega
    case b18_2 =>
      go_simp
      refine (sAcctNew_v).mono ?_
      rintro e wN ⟨rfl, hdN⟩
      have sN := hdN.size
      have xN := xd.from_ hdN
      have qN := xN.cell (i := 2) rfl
      obtain ⟨wT, e_wT, s_wT, h_wT, x_t⟩ := alloc_step wN 52 [.int .i64 0, .int .i64 0, .int .i64 0, .slice none 0 0, .slice none 0 0]
      have sT := h_wT.size
      have xT := xN.from_ h_wT
      have qT := xT.cell (i := 2) rfl
      have hRV := x_t.rdV
      have hNT : Below wr.heap.size wr wT := hd0.trans ((hdN.mono (by omega)).trans (h_wT.mono (by omega)))
      obtain ⟨ys, R, hback⟩ := OV.app_n3 nilL_nil (oG.below hNT) (cs := [.int .i64 0, .int .i64 0, .int .i64 0, .slice none 0 0, .slice none 0 0]) (x := acctZ) rfl (fun w => ⟨own_acct_zero w, rfl⟩) (by omega)
      refine hK.out _ _ trivial (fun _ => ?_)
      clear hK K9
      refine wpAnyH_ready (rs := [1, 3]) (by kernel_rfl) (by simp) ?_
      refine AllReadyH.cons rfl (fun K9 hK => ?b24_1) (AllReadyH.cons rfl (fun K9 hK => ?b24_3) AllReadyH.nil)
      case b24_1 =>
        go_simp
        refine hK.out _ _ trivial (fun _ => ?_)
        clear hK K9
        refine wpAnyH_ready (rs := [3]) (by kernel_rfl) (by simp) ?_
        refine AllReadyH.cons rfl (fun K9 hK => ?b25_3) AllReadyH.nil
        go_simp
        refine hK.out _ _ trivial (fun _ => ?_)
        clear hK K9
        refine wpAnyH_ready (rs := [4]) (by kernel_rfl) (by simp) ?_
        refine AllReadyH.cons rfl (fun K9 hK => ?b26_4) AllReadyH.nil
        refine step_appN (by rfl) (.tmp 29) (.tmp 31) 30 (by rfl) 0 5 52 i0 (.agg #[.int .i64 0, .int .i64 0, .int .i64 0, .slice none 0 0, .slice none 0 0]) 72 Try.underlying30 hi hz0 hz1 hz2 (by rfl) (by decide) (.slice AG G.length cG) G.length ys (by rfl) R _ (some ⟨wN.heap.size, 0, none⟩) 1 1 [.int .i64 0, .int .i64 0, .int .i64 0, .slice none 0 0, .slice none 0 0] (by rfl) rfl hRV ones_acct (by omega) (by decide) (Nat.zero_le _) ?_
        intro vA wA hoA hgA hatA
        obtain ⟨hcg, l9, h9, o9, hor, hle⟩ := hback vA wA hoA hgA hatA
        obtain ⟨Y, hY⟩ : ∃ Y, G ++ [acctZ] = Y := ⟨_, rfl⟩
        rw [hY] at o9
        have HY := Lib.hid hY
        clear hY
        obtain ⟨A9, c9, rfl, -, -, -⟩ := rv_slice o9.rd
        have xA := xT.chg hcg (by omega)
        have qA := xA.cell (i := 2) rfl
        have fA := xA.frozen 2
        refine hK.out _ _ trivial (fun _ => ?_)
        clear hK K9
        refine takeN (i := 5) (v := ?v5_27) (d := some 33) rfl rfl (by kernel_rfl) (by kernel_rfl) (by kernel_rfl) (fun _ _ _ h => h) (Or.inl ⟨by rfl, ?y5_27⟩) trivial ?r5_27
        case y5_27 => (intro W hW; go_simp; try (with_reducible rfl))
        simp only [Act.put, List.setIfInBounds_toArray, List.set_cons_zero, List.set_cons_succ]
        refine wpAnyH_ready (rs := [6]) (by kernel_rfl) (by simp) ?_
        refine AllReadyH.cons rfl (fun K9 hK => ?b28_6) AllReadyH.nil
        go_simp
        refine hK.out _ _ trivial (fun _ => ?_)
        clear hK K9
        refine wpAnyH_done (by kernel_rfl) ?_ _
        obtain ⟨wS, eS, sS, hS, xS⟩ := set_step xA 2 (.slice A9 Y.length c9)
        rw [eS]
        have sS_1 := Nat.le_of_eq sS
        have sS_2 := Nat.le_of_eq sS.symm
        clear sS
        replace xS : Vr wS (wa.heap.size) 34 [.int .i64 id, .int .i64 (M : Int), .slice A9 Y.length c9, .slice none 0 0, .slice none 0 0, .slice AC C.length cC, .int .i64 0, .int .i64 0, .int .i64 0] := xS
        have szA := hcg.size
        have HB9 := Below.chg_ (Below.chg_ (HB.trans (hNT.mono HB.size)) hcg (by omega) (by omega)) hS (by omega) (by omega)
        replace x_r := ((x_r.from_ hNT).chg hcg (by omega)).chg hS (by omega)
        clear x_x
        have x_x := xS
        replace oC := ((oC.below hNT).chg hcg (by omega)).chg hS (by omega)
        replace o9 := o9.chg hS (by omega)
        clear xS xA qA fA eS hoA hgA hatA hback R hRV xT qT xN qN xd qd e_wT x_t
        have c_r_0_wS := x_r.cell (i := 0) rfl
        have f_r_0_wS := x_r.frozen 0
        have c_r_1_wS := x_r.cell (i := 1) rfl
        have f_r_1_wS := x_r.frozen 1
        have c_r_2_wS := x_r.cell (i := 2) rfl
        have f_r_2_wS := x_r.frozen 2
        have c_r_3_wS := x_r.cell (i := 3) rfl
        have f_r_3_wS := x_r.frozen 3
        have c_r_4_wS := x_r.cell (i := 4) rfl
        have f_r_4_wS := x_r.frozen 4
        have c_r_5_wS := x_r.cell (i := 5) rfl
        have f_r_5_wS := x_r.frozen 5
        have c_r_6_wS := x_r.cell (i := 6) rfl
        have f_r_6_wS := x_r.frozen 6
        have c_r_7_wS := x_r.cell (i := 7) rfl
        have f_r_7_wS := x_r.frozen 7
        have c_r_8_wS := x_r.cell (i := 8) rfl
        have f_r_8_wS := x_r.frozen 8
        have c_x_0_wS := x_x.cell (i := 0) rfl
        have f_x_0_wS := x_x.frozen 0
        have c_x_1_wS := x_x.cell (i := 1) rfl
        have f_x_1_wS := x_x.frozen 1
        have c_x_2_wS := x_x.cell (i := 2) rfl
        have f_x_2_wS := x_x.frozen 2
        have c_x_3_wS := x_x.cell (i := 3) rfl
        have f_x_3_wS := x_x.frozen 3
        have c_x_4_wS := x_x.cell (i := 4) rfl
        have f_x_4_wS := x_x.frozen 4
        have c_x_5_wS := x_x.cell (i := 5) rfl
        have f_x_5_wS := x_x.frozen 5
        have c_x_6_wS := x_x.cell (i := 6) rfl
        have f_x_6_wS := x_x.frozen 6
        have c_x_7_wS := x_x.cell (i := 7) rfl
        have f_x_7_wS := x_x.frozen 7
        have c_x_8_wS := x_x.cell (i := 8) rfl
        have f_x_8_wS := x_x.frozen 8
        obtain ⟨w21, e_w21, s_w21, h_w21, x_t⟩ := alloc_step wS 56 [.int .i64 0, .int .i64 0, .int .i64 0]
        have s_w21_1 := Nat.le_of_eq s_w21
        have s_w21_2 := Nat.le_of_eq s_w21.symm
        clear s_w21
        replace x_r := x_r.from_ h_w21
        replace x_x := x_x.from_ h_w21
        replace oC := oC.below h_w21
        replace o9 := o9.below h_w21
        have B_w21 := HB9.trans (h_w21.mono HB9.size)
        have i_w21_2 := x_t.same (i := 2) rfl
        have i_w21_1 := x_t.same (i := 1) rfl
        have i_w21_0 := x_t.same (i := 0) rfl
        have c_r_0_w21 := x_r.cell (i := 0) rfl
        have f_r_0_w21 := x_r.frozen 0
        have c_r_1_w21 := x_r.cell (i := 1) rfl
        have f_r_1_w21 := x_r.frozen 1
        have c_r_2_w21 := x_r.cell (i := 2) rfl
        have f_r_2_w21 := x_r.frozen 2
        have c_r_3_w21 := x_r.cell (i := 3) rfl
        have f_r_3_w21 := x_r.frozen 3
        have c_r_4_w21 := x_r.cell (i := 4) rfl
        have f_r_4_w21 := x_r.frozen 4
        have c_r_5_w21 := x_r.cell (i := 5) rfl
        have f_r_5_w21 := x_r.frozen 5
        have c_r_6_w21 := x_r.cell (i := 6) rfl
        have f_r_6_w21 := x_r.frozen 6
        have c_r_7_w21 := x_r.cell (i := 7) rfl
        have f_r_7_w21 := x_r.frozen 7
        have c_r_8_w21 := x_r.cell (i := 8) rfl
        have f_r_8_w21 := x_r.frozen 8
        have c_x_0_w21 := x_x.cell (i := 0) rfl
        have f_x_0_w21 := x_x.frozen 0
        have c_x_1_w21 := x_x.cell (i := 1) rfl
        have f_x_1_w21 := x_x.frozen 1
        have c_x_2_w21 := x_x.cell (i := 2) rfl
        have f_x_2_w21 := x_x.frozen 2
        have c_x_3_w21 := x_x.cell (i := 3) rfl
        have f_x_3_w21 := x_x.frozen 3
        have c_x_4_w21 := x_x.cell (i := 4) rfl
        have f_x_4_w21 := x_x.frozen 4
        have c_x_5_w21 := x_x.cell (i := 5) rfl
        have f_x_5_w21 := x_x.frozen 5
        have c_x_6_w21 := x_x.cell (i := 6) rfl
        have f_x_6_w21 := x_x.frozen 6
        have c_x_7_w21 := x_x.cell (i := 7) rfl
        have f_x_7_w21 := x_x.frozen 7
        have c_x_8_w21 := x_x.cell (i := 8) rfl
        have f_x_8_w21 := x_x.frozen 8
        have c_t_0_w21 := x_t.cell (i := 0) rfl
        have f_t_0_w21 := x_t.frozen 0
        have c_t_1_w21 := x_t.cell (i := 1) rfl
        have f_t_1_w21 := x_t.frozen 1
        have c_t_2_w21 := x_t.cell (i := 2) rfl
        have f_t_2_w21 := x_t.frozen 2
        have hRV := x_t.rdV
        obtain ⟨ys, R, hback⟩ := OV.app_n3 own_acc_nil oC (cs := [.int .i64 0, .int .i64 0, .int .i64 0]) (x := accZ) rfl (fun w => own_acc w accZ) (by omega)
        go_wp2_with (at_builtin; refine wpl_appN _ rfl (.tmp 35) (.tmp 37) 32 rfl 0 3 56 j0 (.agg #[.int .i64 0, .int .i64 0, .int .i64 0]) 24 Try.underlying32 hj yz0 yz1 yz2 rfl (by decide) _ C.length ys rfl R _ _ _ 1 [.int .i64 0, .int .i64 0, .int .i64 0] rfl rfl hRV ?d0 ?d1 (by decide) (Nat.zero_le _) ?_)
        case d0 => exact ones_acc
        case d1 => omega
        intro v4 wB ho4 hg4 hat4
        obtain ⟨hc4, l8, h8, o8, hor8, hle8⟩ := hback v4 wB ho4 hg4 hat4
        obtain ⟨Z, hZ⟩ : ∃ Z, C ++ [accZ] = Z := ⟨_, rfl⟩
        rw [hZ] at o8
        have HZ := Lib.hid hZ
        clear hZ hback R ho4 hg4 hat4 hRV
        obtain ⟨A8, c8, rfl, -, -, -⟩ := rv_slice o8.rd
        clear c_r_0_wS f_r_0_wS c_r_1_wS f_r_1_wS c_r_2_wS f_r_2_wS c_r_3_wS f_r_3_wS c_r_4_wS f_r_4_wS c_r_5_wS f_r_5_wS c_r_6_wS f_r_6_wS c_r_7_wS f_r_7_wS c_r_8_wS f_r_8_wS c_x_0_wS f_x_0_wS c_x_1_wS f_x_1_wS c_x_2_wS f_x_2_wS c_x_3_wS f_x_3_wS c_x_4_wS f_x_4_wS c_x_5_wS f_x_5_wS c_x_6_wS f_x_6_wS c_x_7_wS f_x_7_wS c_x_8_wS f_x_8_wS i_w21_2 i_w21_1 i_w21_0 c_r_0_w21 f_r_0_w21 c_r_1_w21 f_r_1_w21 c_r_2_w21 f_r_2_w21 c_r_3_w21 f_r_3_w21 c_r_4_w21 f_r_4_w21 c_r_5_w21 f_r_5_w21 c_r_6_w21 f_r_6_w21 c_r_7_w21 f_r_7_w21 c_r_8_w21 f_r_8_w21 c_x_0_w21 f_x_0_w21 c_x_1_w21 f_x_1_w21 c_x_2_w21 f_x_2_w21 c_x_3_w21 f_x_3_w21 c_x_4_w21 f_x_4_w21 c_x_5_w21 f_x_5_w21 c_x_6_w21 f_x_6_w21 c_x_7_w21 f_x_7_w21 c_x_8_w21 f_x_8_w21 c_t_0_w21 f_t_0_w21 c_t_1_w21 f_t_1_w21 c_t_2_w21 f_t_2_w21
        clear oC
        clear x_t
        replace x_r := x_r.chg hc4 (by omega)
        replace x_x := x_x.chg hc4 (by omega)
        replace o9 := o9.chg hc4 (by omega)
        have B_wB := Below.chg_ B_w21 hc4 (by omega) (by omega)
        have s_wB := hc4.size
        have sB4 := hc4.size
        have c_r_0_wB := x_r.cell (i := 0) rfl
        have f_r_0_wB := x_r.frozen 0
        have c_r_1_wB := x_r.cell (i := 1) rfl
        have f_r_1_wB := x_r.frozen 1
        have c_r_2_wB := x_r.cell (i := 2) rfl
        have f_r_2_wB := x_r.frozen 2
        have c_r_3_wB := x_r.cell (i := 3) rfl
        have f_r_3_wB := x_r.frozen 3
        have c_r_4_wB := x_r.cell (i := 4) rfl
        have f_r_4_wB := x_r.frozen 4
        have c_r_5_wB := x_r.cell (i := 5) rfl
        have f_r_5_wB := x_r.frozen 5
        have c_r_6_wB := x_r.cell (i := 6) rfl
        have f_r_6_wB := x_r.frozen 6
        have c_r_7_wB := x_r.cell (i := 7) rfl
        have f_r_7_wB := x_r.frozen 7
        have c_r_8_wB := x_r.cell (i := 8) rfl
        have f_r_8_wB := x_r.frozen 8
        have c_x_0_wB := x_x.cell (i := 0) rfl
        have f_x_0_wB := x_x.frozen 0
        have c_x_1_wB := x_x.cell (i := 1) rfl
        have f_x_1_wB := x_x.frozen 1
        have c_x_2_wB := x_x.cell (i := 2) rfl
        have f_x_2_wB := x_x.frozen 2
        have c_x_3_wB := x_x.cell (i := 3) rfl
        have f_x_3_wB := x_x.frozen 3
        have c_x_4_wB := x_x.cell (i := 4) rfl
        have f_x_4_wB := x_x.frozen 4
        have c_x_5_wB := x_x.cell (i := 5) rfl
        have f_x_5_wB := x_x.frozen 5
        have c_x_6_wB := x_x.cell (i := 6) rfl
        have f_x_6_wB := x_x.frozen 6
        have c_x_7_wB := x_x.cell (i := 7) rfl
        have f_x_7_wB := x_x.frozen 7
        have c_x_8_wB := x_x.cell (i := 8) rfl
        have f_x_8_wB := x_x.frozen 8
        obtain ⟨w22, e_w22, s_w22, h_w22, y⟩ := set_step x_x 5 (.slice A8 Z.length c8)
        have s_w22_1 := Nat.le_of_eq s_w22
        have s_w22_2 := Nat.le_of_eq s_w22.symm
        clear s_w22
        replace x_r := x_r.chg h_w22 (by omega)
        replace o9 := o9.chg h_w22 (by omega)
        replace o8 := o8.chg h_w22 (by omega)
        have B_w22 := Below.chg_ B_wB h_w22 (by omega) (by omega)
        replace x_x : Vr w22 (wa.heap.size) 34 [.int .i64 id, .int .i64 (M : Int), .slice A9 Y.length c9, .slice none 0 0, .slice none 0 0, .slice A8 Z.length c8, .int .i64 0, .int .i64 0, .int .i64 0] := y
        clear y
        have c_r_0_w22 := x_r.cell (i := 0) rfl
        have f_r_0_w22 := x_r.frozen 0
        have c_r_1_w22 := x_r.cell (i := 1) rfl
        have f_r_1_w22 := x_r.frozen 1
        have c_r_2_w22 := x_r.cell (i := 2) rfl
        have f_r_2_w22 := x_r.frozen 2
        have c_r_3_w22 := x_r.cell (i := 3) rfl
        have f_r_3_w22 := x_r.frozen 3
        have c_r_4_w22 := x_r.cell (i := 4) rfl
        have f_r_4_w22 := x_r.frozen 4
        have c_r_5_w22 := x_r.cell (i := 5) rfl
        have f_r_5_w22 := x_r.frozen 5
        have c_r_6_w22 := x_r.cell (i := 6) rfl
        have f_r_6_w22 := x_r.frozen 6
        have c_r_7_w22 := x_r.cell (i := 7) rfl
        have f_r_7_w22 := x_r.frozen 7
        have c_r_8_w22 := x_r.cell (i := 8) rfl
        have f_r_8_w22 := x_r.frozen 8
        have c_x_0_w22 := x_x.cell (i := 0) rfl
        have f_x_0_w22 := x_x.frozen 0
        have c_x_1_w22 := x_x.cell (i := 1) rfl
        have f_x_1_w22 := x_x.frozen 1
        have c_x_2_w22 := x_x.cell (i := 2) rfl
        have f_x_2_w22 := x_x.frozen 2
        have c_x_3_w22 := x_x.cell (i := 3) rfl
        have f_x_3_w22 := x_x.frozen 3
        have c_x_4_w22 := x_x.cell (i := 4) rfl
        have f_x_4_w22 := x_x.frozen 4
        have c_x_5_w22 := x_x.cell (i := 5) rfl
        have f_x_5_w22 := x_x.frozen 5
        have c_x_6_w22 := x_x.cell (i := 6) rfl
        have f_x_6_w22 := x_x.frozen 6
        have c_x_7_w22 := x_x.cell (i := 7) rfl
        have f_x_7_w22 := x_x.frozen 7
        have c_x_8_w22 := x_x.cell (i := 8) rfl
        have f_x_8_w22 := x_x.frozen 8
        have HG2 : Hid (Y = List.replicate (k + 1) acctZ ∧ Z = List.replicate (k + 1) accZ) := by
          show _ ∧ _
          rw [← HY.out, ← HZ.out, HG.out.1, HG.out.2, List.replicate_succ', List.replicate_succ']; exact ⟨rfl, rfl⟩
        go_wp2
        go_roundw
        case rel => exact ⟨k + 1, Y, Z, A9, A8, c9, c8, l9, h9, l8, h8, by omega, by go_num, HG2, x_r, x_x, o9, o8, ⟨by omega, by omega, by omega, by omega, by omega⟩, B_w22⟩
        case measure => simp [intOf]; omega
      case b24_3 =>
        go_simp
        refine hK.out _ _ trivial (fun _ => ?_)
        clear hK K9
        refine wpAnyH_ready (rs := [1]) (by kernel_rfl) (by simp) ?_
        refine AllReadyH.cons rfl (fun K9 hK => ?b29_1) AllReadyH.nil
        go_simp
        refine hK.out _ _ trivial (fun _ => ?_)
        clear hK K9
        refine wpAnyH_ready (rs := [4]) (by kernel_rfl) (by simp) ?_
        refine AllReadyH.cons rfl (fun K9 hK => ?b30_4) AllReadyH.nil
        refine step_appN (by rfl) (.tmp 29) (.tmp 31) 30 (by rfl) 0 5 52 i0 (.agg #[.int .i64 0, .int .i64 0, .int .i64 0, .slice none 0 0, .slice none 0 0]) 72 Try.underlying30 hi hz0 hz1 hz2 (by rfl) (by decide) (.slice AG G.length cG) G.length ys (by rfl) R _ (some ⟨wN.heap.size, 0, none⟩) 1 1 [.int .i64 0, .int .i64 0, .int .i64 0, .slice none 0 0, .slice none 0 0] (by rfl) rfl hRV ones_acct (by omega) (by decide) (Nat.zero_le _) ?_
        intro vA wA hoA hgA hatA
        obtain ⟨hcg, l9, h9, o9, hor, hle⟩ := hback vA wA hoA hgA hatA
        obtain ⟨Y, hY⟩ : ∃ Y, G ++ [acctZ] = Y := ⟨_, rfl⟩
        rw [hY] at o9
        have HY := Lib.hid hY
        clear hY
        obtain ⟨A9, c9, rfl, -, -, -⟩ := rv_slice o9.rd
        have xA := xT.chg hcg (by omega)
        have qA := xA.cell (i := 2) rfl
        have fA := xA.frozen 2
        refine hK.out _ _ trivial (fun _ => ?_)
        clear hK K9
        refine takeN (i := 5) (v := ?v5_31) (d := some 33) rfl rfl (by kernel_rfl) (by kernel_rfl) (by kernel_rfl) (fun _ _ _ h => h) (Or.inl ⟨by rfl, ?y5_31⟩) trivial ?r5_31
        case y5_31 => (intro W hW; go_simp; try (with_reducible rfl))
        simp only [Act.put, List.setIfInBounds_toArray, List.set_cons_zero, List.set_cons_succ]
        refine wpAnyH_ready (rs := [6]) (by kernel_rfl) (by simp) ?_
        refine AllReadyH.cons rfl (fun K9 hK => ?b32_6) AllReadyH.nil
        go_simp
        refine hK.out _ _ trivial (fun _ => ?_)
        clear hK K9
        refine wpAnyH_done (by kernel_rfl) ?_ _
        obtain ⟨wS, eS, sS, hS, xS⟩ := set_step xA 2 (.slice A9 Y.length c9)
        rw [eS]
        have sS_1 := Nat.le_of_eq sS
        have sS_2 := Nat.le_of_eq sS.symm
        clear sS
        replace xS : Vr wS (wa.heap.size) 34 [.int .i64 id, .int .i64 (M : Int), .slice A9 Y.length c9, .slice none 0 0, .slice none 0 0, .slice AC C.length cC, .int .i64 0, .int .i64 0, .int .i64 0] := xS
        have szA := hcg.size
        have HB9 := Below.chg_ (Below.chg_ (HB.trans (hNT.mono HB.size)) hcg (by omega) (by omega)) hS (by omega) (by omega)
        replace x_r := ((x_r.from_ hNT).chg hcg (by omega)).chg hS (by omega)
        clear x_x
        have x_x := xS
        replace oC := ((oC.below hNT).chg hcg (by omega)).chg hS (by omega)
        replace o9 := o9.chg hS (by omega)
        clear xS xA qA fA eS hoA hgA hatA hback R hRV xT qT xN qN xd qd e_wT x_t
        have c_r_0_wS := x_r.cell (i := 0) rfl
        have f_r_0_wS := x_r.frozen 0
        have c_r_1_wS := x_r.cell (i := 1) rfl
        have f_r_1_wS := x_r.frozen 1
        have c_r_2_wS := x_r.cell (i := 2) rfl
        have f_r_2_wS := x_r.frozen 2
        have c_r_3_wS := x_r.cell (i := 3) rfl
        have f_r_3_wS := x_r.frozen 3
        have c_r_4_wS := x_r.cell (i := 4) rfl
        have f_r_4_wS := x_r.frozen 4
        have c_r_5_wS := x_r.cell (i := 5) rfl
        have f_r_5_wS := x_r.frozen 5
        have c_r_6_wS := x_r.cell (i := 6) rfl
        have f_r_6_wS := x_r.frozen 6
        have c_r_7_wS := x_r.cell (i := 7) rfl
        have f_r_7_wS := x_r.frozen 7
        have c_r_8_wS := x_r.cell (i := 8) rfl
        have f_r_8_wS := x_r.frozen 8
        have c_x_0_wS := x_x.cell (i := 0) rfl
        have f_x_0_wS := x_x.frozen 0
        have c_x_1_wS := x_x.cell (i := 1) rfl
        have f_x_1_wS := x_x.frozen 1
        have c_x_2_wS := x_x.cell (i := 2) rfl
        have f_x_2_wS := x_x.frozen 2
        have c_x_3_wS := x_x.cell (i := 3) rfl
        have f_x_3_wS := x_x.frozen 3
        have c_x_4_wS := x_x.cell (i := 4) rfl
        have f_x_4_wS := x_x.frozen 4
        have c_x_5_wS := x_x.cell (i := 5) rfl
        have f_x_5_wS := x_x.frozen 5
        have c_x_6_wS := x_x.cell (i := 6) rfl
        have f_x_6_wS := x_x.frozen 6
        have c_x_7_wS := x_x.cell (i := 7) rfl
        have f_x_7_wS := x_x.frozen 7
        have c_x_8_wS := x_x.cell (i := 8) rfl
        have f_x_8_wS := x_x.frozen 8
        obtain ⟨w21, e_w21, s_w21, h_w21, x_t⟩ := alloc_step wS 56 [.int .i64 0, .int .i64 0, .int .i64 0]
        have s_w21_1 := Nat.le_of_eq s_w21
        have s_w21_2 := Nat.le_of_eq s_w21.symm
        clear s_w21
        replace x_r := x_r.from_ h_w21
        replace x_x := x_x.from_ h_w21
        replace oC := oC.below h_w21
        replace o9 := o9.below h_w21
        have B_w21 := HB9.trans (h_w21.mono HB9.size)
        have i_w21_2 := x_t.same (i := 2) rfl
        have i_w21_1 := x_t.same (i := 1) rfl
        have i_w21_0 := x_t.same (i := 0) rfl
        have c_r_0_w21 := x_r.cell (i := 0) rfl
        have f_r_0_w21 := x_r.frozen 0
        have c_r_1_w21 := x_r.cell (i := 1) rfl
        have f_r_1_w21 := x_r.frozen 1
        have c_r_2_w21 := x_r.cell (i := 2) rfl
        have f_r_2_w21 := x_r.frozen 2
        have c_r_3_w21 := x_r.cell (i := 3) rfl
        have f_r_3_w21 := x_r.frozen 3
        have c_r_4_w21 := x_r.cell (i := 4) rfl
        have f_r_4_w21 := x_r.frozen 4
        have c_r_5_w21 := x_r.cell (i := 5) rfl
        have f_r_5_w21 := x_r.frozen 5
        have c_r_6_w21 := x_r.cell (i := 6) rfl
        have f_r_6_w21 := x_r.frozen 6
        have c_r_7_w21 := x_r.cell (i := 7) rfl
        have f_r_7_w21 := x_r.frozen 7
        have c_r_8_w21 := x_r.cell (i := 8) rfl
        have f_r_8_w21 := x_r.frozen 8
        have c_x_0_w21 := x_x.cell (i := 0) rfl
        have f_x_0_w21 := x_x.frozen 0
        have c_x_1_w21 := x_x.cell (i := 1) rfl
        have f_x_1_w21 := x_x.frozen 1
        have c_x_2_w21 := x_x.cell (i := 2) rfl
        have f_x_2_w21 := x_x.frozen 2
        have c_x_3_w21 := x_x.cell (i := 3) rfl
        have f_x_3_w21 := x_x.frozen 3
        have c_x_4_w21 := x_x.cell (i := 4) rfl
        have f_x_4_w21 := x_x.frozen 4
        have c_x_5_w21 := x_x.cell (i := 5) rfl
        have f_x_5_w21 := x_x.frozen 5
        have c_x_6_w21 := x_x.cell (i := 6) rfl
        have f_x_6_w21 := x_x.frozen 6
        have c_x_7_w21 := x_x.cell (i := 7) rfl
        have f_x_7_w21 := x_x.frozen 7
        have c_x_8_w21 := x_x.cell (i := 8) rfl
        have f_x_8_w21 := x_x.frozen 8
        have c_t_0_w21 := x_t.cell (i := 0) rfl
        have f_t_0_w21 := x_t.frozen 0
        have c_t_1_w21 := x_t.cell (i := 1) rfl
        have f_t_1_w21 := x_t.frozen 1
        have c_t_2_w21 := x_t.cell (i := 2) rfl
        have f_t_2_w21 := x_t.frozen 2
        have hRV := x_t.rdV
        obtain ⟨ys, R, hback⟩ := OV.app_n3 own_acc_nil oC (cs := [.int .i64 0, .int .i64 0, .int .i64 0]) (x := accZ) rfl (fun w => own_acc w accZ) (by omega)
        go_wp2_with (at_builtin; refine wpl_appN _ rfl (.tmp 35) (.tmp 37) 32 rfl 0 3 56 j0 (.agg #[.int .i64 0, .int .i64 0, .int .i64 0]) 24 Try.underlying32 hj yz0 yz1 yz2 rfl (by decide) _ C.length ys rfl R _ _ _ 1 [.int .i64 0, .int .i64 0, .int .i64 0] rfl rfl hRV ?d0 ?d1 (by decide) (Nat.zero_le _) ?_)
        case d0 => exact ones_acc
        case d1 => omega
        intro v4 wB ho4 hg4 hat4
        obtain ⟨hc4, l8, h8, o8, hor8, hle8⟩ := hback v4 wB ho4 hg4 hat4
        obtain ⟨Z, hZ⟩ : ∃ Z, C ++ [accZ] = Z := ⟨_, rfl⟩
        rw [hZ] at o8
        have HZ := Lib.hid hZ
        clear hZ hback R ho4 hg4 hat4 hRV
        obtain ⟨A8, c8, rfl, -, -, -⟩ := rv_slice o8.rd
        clear c_r_0_wS f_r_0_wS c_r_1_wS f_r_1_wS c_r_2_wS f_r_2_wS c_r_3_wS f_r_3_wS c_r_4_wS f_r_4_wS c_r_5_wS f_r_5_wS c_r_6_wS f_r_6_wS c_r_7_wS f_r_7_wS c_r_8_wS f_r_8_wS c_x_0_wS f_x_0_wS c_x_1_wS f_x_1_wS c_x_2_wS f_x_2_wS c_x_3_wS f_x_3_wS c_x_4_wS f_x_4_wS c_x_5_wS f_x_5_wS c_x_6_wS f_x_6_wS c_x_7_wS f_x_7_wS c_x_8_wS f_x_8_wS i_w21_2 i_w21_1 i_w21_0 c_r_0_w21 f_r_0_w21 c_r_1_w21 f_r_1_w21 c_r_2_w21 f_r_2_w21 c_r_3_w21 f_r_3_w21 c_r_4_w21 f_r_4_w21 c_r_5_w21 f_r_5_w21 c_r_6_w21 f_r_6_w21 c_r_7_w21 f_r_7_w21 c_r_8_w21 f_r_8_w21 c_x_0_w21 f_x_0_w21 c_x_1_w21 f_x_1_w21 c_x_2_w21 f_x_2_w21 c_x_3_w21 f_x_3_w21 c_x_4_w21 f_x_4_w21 c_x_5_w21 f_x_5_w21 c_x_6_w21 f_x_6_w21 c_x_7_w21 f_x_7_w21 c_x_8_w21 f_x_8_w21 c_t_0_w21 f_t_0_w21 c_t_1_w21 f_t_1_w21 c_t_2_w21 f_t_2_w21
        clear oC
        clear x_t
        replace x_r := x_r.chg hc4 (by omega)
        replace x_x := x_x.chg hc4 (by omega)
        replace o9 := o9.chg hc4 (by omega)
        have B_wB := Below.chg_ B_w21 hc4 (by omega) (by omega)
        have s_wB := hc4.size
        have sB4 := hc4.size
        have c_r_0_wB := x_r.cell (i := 0) rfl
        have f_r_0_wB := x_r.frozen 0
        have c_r_1_wB := x_r.cell (i := 1) rfl
        have f_r_1_wB := x_r.frozen 1
        have c_r_2_wB := x_r.cell (i := 2) rfl
        have f_r_2_wB := x_r.frozen 2
        have c_r_3_wB := x_r.cell (i := 3) rfl
        have f_r_3_wB := x_r.frozen 3
        have c_r_4_wB := x_r.cell (i := 4) rfl
        have f_r_4_wB := x_r.frozen 4
        have c_r_5_wB := x_r.cell (i := 5) rfl
        have f_r_5_wB := x_r.frozen 5
        have c_r_6_wB := x_r.cell (i := 6) rfl
        have f_r_6_wB := x_r.frozen 6
        have c_r_7_wB := x_r.cell (i := 7) rfl
        have f_r_7_wB := x_r.frozen 7
        have c_r_8_wB := x_r.cell (i := 8) rfl
        have f_r_8_wB := x_r.frozen 8
        have c_x_0_wB := x_x.cell (i := 0) rfl
        have f_x_0_wB := x_x.frozen 0
        have c_x_1_wB := x_x.cell (i := 1) rfl
        have f_x_1_wB := x_x.frozen 1
        have c_x_2_wB := x_x.cell (i := 2) rfl
        have f_x_2_wB := x_x.frozen 2
        have c_x_3_wB := x_x.cell (i := 3) rfl
        have f_x_3_wB := x_x.frozen 3
        have c_x_4_wB := x_x.cell (i := 4) rfl
        have f_x_4_wB := x_x.frozen 4
        have c_x_5_wB := x_x.cell (i := 5) rfl
        have f_x_5_wB := x_x.frozen 5
        have c_x_6_wB := x_x.cell (i := 6) rfl
        have f_x_6_wB := x_x.frozen 6
        have c_x_7_wB := x_x.cell (i := 7) rfl
        have f_x_7_wB := x_x.frozen 7
        have c_x_8_wB := x_x.cell (i := 8) rfl
        have f_x_8_wB := x_x.frozen 8
        obtain ⟨w22, e_w22, s_w22, h_w22, y⟩ := set_step x_x 5 (.slice A8 Z.length c8)
        have s_w22_1 := Nat.le_of_eq s_w22
        have s_w22_2 := Nat.le_of_eq s_w22.symm
        clear s_w22
        replace x_r := x_r.chg h_w22 (by omega)
        replace o9 := o9.chg h_w22 (by omega)
        replace o8 := o8.chg h_w22 (by omega)
        have B_w22 := Below.chg_ B_wB h_w22 (by omega) (by omega)
        replace x_x : Vr w22 (wa.heap.size) 34 [.int .i64 id, .int .i64 (M : Int), .slice A9 Y.length c9, .slice none 0 0, .slice none 0 0, .slice A8 Z.length c8, .int .i64 0, .int .i64 0, .int .i64 0] := y
        clear y
        have c_r_0_w22 := x_r.cell (i := 0) rfl
        have f_r_0_w22 := x_r.frozen 0
        have c_r_1_w22 := x_r.cell (i := 1) rfl
        have f_r_1_w22 := x_r.frozen 1
        have c_r_2_w22 := x_r.cell (i := 2) rfl
        have f_r_2_w22 := x_r.frozen 2
        have c_r_3_w22 := x_r.cell (i := 3) rfl
        have f_r_3_w22 := x_r.frozen 3
        have c_r_4_w22 := x_r.cell (i := 4) rfl
        have f_r_4_w22 := x_r.frozen 4
        have c_r_5_w22 := x_r.cell (i := 5) rfl
        have f_r_5_w22 := x_r.frozen 5
        have c_r_6_w22 := x_r.cell (i := 6) rfl
        have f_r_6_w22 := x_r.frozen 6
        have c_r_7_w22 := x_r.cell (i := 7) rfl
        have f_r_7_w22 := x_r.frozen 7
        have c_r_8_w22 := x_r.cell (i := 8) rfl
        have f_r_8_w22 := x_r.frozen 8
        have c_x_0_w22 := x_x.cell (i := 0) rfl
        have f_x_0_w22 := x_x.frozen 0
        have c_x_1_w22 := x_x.cell (i := 1) rfl
        have f_x_1_w22 := x_x.frozen 1
        have c_x_2_w22 := x_x.cell (i := 2) rfl
        have f_x_2_w22 := x_x.frozen 2
        have c_x_3_w22 := x_x.cell (i := 3) rfl
        have f_x_3_w22 := x_x.frozen 3
        have c_x_4_w22 := x_x.cell (i := 4) rfl
        have f_x_4_w22 := x_x.frozen 4
        have c_x_5_w22 := x_x.cell (i := 5) rfl
        have f_x_5_w22 := x_x.frozen 5
        have c_x_6_w22 := x_x.cell (i := 6) rfl
        have f_x_6_w22 := x_x.frozen 6
        have c_x_7_w22 := x_x.cell (i := 7) rfl
        have f_x_7_w22 := x_x.frozen 7
        have c_x_8_w22 := x_x.cell (i := 8) rfl
        have f_x_8_w22 := x_x.frozen 8
        have HG2 : Hid (Y = List.replicate (k + 1) acctZ ∧ Z = List.replicate (k + 1) accZ) := by
          show _ ∧ _
          rw [← HY.out, ← HZ.out, HG.out.1, HG.out.2, List.replicate_succ', List.replicate_succ']; exact ⟨rfl, rfl⟩
        go_wp2
        go_roundw
        case rel => exact ⟨k + 1, Y, Z, A9, A8, c9, c8, l9, h9, l8, h8, by omega, by go_num, HG2, x_r, x_x, o9, o8, ⟨by omega, by omega, by omega, by omega, by omega⟩, B_w22⟩
        case measure => simp [intOf]; omega

end Go.Proofs.Ytdoipabfmekdlaa
