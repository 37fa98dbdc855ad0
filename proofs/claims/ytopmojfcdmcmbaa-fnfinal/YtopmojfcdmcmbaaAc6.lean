/- An account at a node: the contract of spec.AcctRep. Laid by a program of ours (src/ac6.py). -/
import Derived.Test.YtopmojfcdmcmbaaAc1
import Derived.Test.YtopmojfcdmcmbaaAppG
namespace Go.Proofs.Ytopmojfcdmcmbaa
open Go.RowKit
set_option linter.unusedVariables false

section
variable {α : Type} {p : α → Bool} {r y : α}
theorem ins_all : ∀ {l : List α}, l.all p = true → l.takeWhile p ++ [r] ++ l.dropWhile p = l ++ [r]
  | [], _ => rfl
  | b :: t, h => by
    rw [List.all_cons, Bool.and_eq_true] at h
    have ih := ins_all h.2
    simp only [List.takeWhile_cons, List.dropWhile_cons, h.1, if_true, List.cons_append]
    rw [ih]
theorem ins_no : ∀ {l : List α}, l.all p = true → p y = false → (l ++ [y]).takeWhile p ++ [r] ++ (l ++ [y]).dropWhile p = l ++ [r] ++ [y]
  | [], _, hy => by simp [hy]
  | b :: t, h, hy => by
    rw [List.all_cons, Bool.and_eq_true] at h
    have ih := ins_no h.2 hy
    simp only [List.cons_append, List.takeWhile_cons, List.dropWhile_cons, h.1, if_true]
    rw [ih]
theorem ins_on : ∀ {l : List α}, l.all p = false → (l ++ [y]).takeWhile p ++ [r] ++ (l ++ [y]).dropWhile p = l.takeWhile p ++ [r] ++ l.dropWhile p ++ [y]
  | [], h => by simp at h
  | b :: t, h => by
    by_cases hb : p b = true
    · rw [List.all_cons, hb, Bool.true_and] at h
      have ih := ins_on h
      simp only [List.cons_append, List.takeWhile_cons, List.dropWhile_cons, hb, if_true]
      rw [ih]
    · simp only [List.cons_append, List.takeWhile_cons, List.dropWhile_cons, hb]; simp
end

/-- what has been laid behind the first k reports: is the new one among it? -/
def RepSt (l : List MRep) (r : MRep) (k : Nat) (q : Bool) (g : List MRep) : Prop :=
  (q = false ∧ (l.take k).all (fun y => decide (y.Node ≤ r.Node)) = true ∧ g = l.take k) ∨ (q = true ∧ (l.take k).all (fun y => decide (y.Node ≤ r.Node)) = false ∧ g = insR (l.take k) r)
section
variable {l g : List MRep} {r y : MRep} {k : Nat}
theorem repSt_zero : RepSt l r 0 false [] := .inl ⟨rfl, rfl, rfl⟩
theorem repSt_len (h : RepSt l r k false g) : g.length ≤ k := by
  rcases h with ⟨-, -, rfl⟩ | ⟨h0, -⟩
  · rw [List.length_take]; omega
  · cases h0
theorem repSt_put (h : RepSt l r k false g) (hx : l[k]? = some y) (hy : r.Node < y.Node) : RepSt l r (k + 1) true (g ++ [r] ++ [y]) := by
  rcases h with ⟨-, h1, rfl⟩ | ⟨h0, -⟩
  · have hp : (fun y : MRep => decide (y.Node ≤ r.Node)) y = false := decide_eq_false (by omega)
    refine .inr ⟨rfl, ?_, ?_⟩
    · rw [List.take_add_one, hx, List.all_append, h1]; simpa using hp
    · rw [List.take_add_one, hx]; exact (ins_no h1 hp).symm
  · cases h0
theorem repSt_low (h : RepSt l r k false g) (hx : l[k]? = some y) (hy : ¬ r.Node < y.Node) : RepSt l r (k + 1) false (g ++ [y]) := by
  rcases h with ⟨-, h1, rfl⟩ | ⟨h0, -⟩
  · have hp : decide (y.Node ≤ r.Node) = true := decide_eq_true (by omega)
    refine .inl ⟨rfl, ?_, ?_⟩
    · rw [List.take_add_one, hx, List.all_append, h1]; simpa using hp
    · rw [List.take_add_one, hx]; rfl
  · cases h0
theorem repSt_on (h : RepSt l r k true g) (hx : l[k]? = some y) : RepSt l r (k + 1) true (g ++ [y]) := by
  rcases h with ⟨h0, -⟩ | ⟨-, h1, rfl⟩
  · cases h0
  · refine .inr ⟨rfl, ?_, ?_⟩
    · rw [List.take_add_one, hx, List.all_append, h1]; rfl
    · rw [List.take_add_one, hx]; exact (ins_on h1).symm
theorem repSt_f (h : RepSt l r k false g) (hk : l.length ≤ k) : g ++ [r] = insR l r := by
  rcases h with ⟨-, h1, rfl⟩ | ⟨h0, -⟩
  · rw [List.take_of_length_le hk] at h1 ⊢; exact (ins_all h1).symm
  · cases h0
theorem repSt_t (h : RepSt l r k true g) (hk : l.length ≤ k) : g = insR l r := by
  rcases h with ⟨h0, -⟩ | ⟨-, h1, rfl⟩
  · cases h0
  · rw [List.take_of_length_le hk]
end

set_option maxRecDepth 100000 in
set_option maxHeartbeats 8000000 in
theorem sAcctRep_c {w : World} {v : Value} {a : MAcct} {d x n : Int} (h : RV acctL w v a) (hm : a.bulk ≤ 16777216) : Calls Try.prog 33 #[v, .int .i64 d, .int .i64 x, .int .i64 n] w (NewVB acctL w (acctRep a d x n) (acctRepB a d x)) := by
  have h0 := h
  obtain ⟨AM, cM, AR, cR, rfl, rM, rR⟩ := rv_acct h
  clear h
  have hbR : a.Reps.length ≤ 16777216 := by unfold MAcct.bulk at hm; omega
  obtain ⟨A', c', he, hc1, hc2, hr⟩ := rv_slice rR
  simp only [Value.slice.injEq, true_and] at he
  obtain ⟨rfl, rfl⟩ := he
  unfold maxLen at hc2
  obtain ⟨j0, hj, yz0, yz1, yz2⟩ := info_parts Try.info_rep
  obtain ⟨wa, hwa, B0, sa, x_a, x_r⟩ := frame2 w 27 [.int .i64 a.Have, .int .i64 a.State, .int .i64 a.By, .slice AM a.Marks.length cM, .slice AR a.Reps.length cR] 27 [.int .i64 0, .int .i64 0, .int .i64 0, .slice none 0 0, .slice none 0 0]
  have sa_1 := Nat.le_of_eq sa
  have sa_2 := Nat.le_of_eq sa.symm
  clear sa
  have c_a_0_wa := x_a.cell (i := 0) rfl
  have f_a_0_wa := x_a.frozen 0
  have c_a_1_wa := x_a.cell (i := 1) rfl
  have f_a_1_wa := x_a.frozen 1
  have c_a_2_wa := x_a.cell (i := 2) rfl
  have f_a_2_wa := x_a.frozen 2
  have c_a_3_wa := x_a.cell (i := 3) rfl
  have f_a_3_wa := x_a.frozen 3
  have c_a_4_wa := x_a.cell (i := 4) rfl
  have f_a_4_wa := x_a.frozen 4
  have c_r_0_wa := x_r.cell (i := 0) rfl
  have f_r_0_wa := x_r.frozen 0
  have c_r_1_wa := x_r.cell (i := 1) rfl
  have f_r_1_wa := x_r.frozen 1
  have c_r_2_wa := x_r.cell (i := 2) rfl
  have f_r_2_wa := x_r.frozen 2
  have c_r_3_wa := x_r.cell (i := 3) rfl
  have f_r_3_wa := x_r.frozen 3
  have c_r_4_wa := x_r.cell (i := 4) rfl
  have f_r_4_wa := x_r.frozen 4
  by_cases hS : decide (a.State = 0) = false
  case neg =>
    replace hS : decide (a.State = 0) = true := by simpa using hS
    have HS := Lib.hid hS
    have HB9 : Hid (acctRepB a d x = false) := by show _ = _; unfold acctRepB; rw [hS]; simp
    have HM : Hid (acctRep a d x n = acctZ) := if_neg (by rw [HB9.out]; decide)
    have gS : (a.State == 0) = true := by have := of_decide_eq_true hS; simpa using this
    clear hS
    go_enter Try.func33, Try.ntmps33
    have i_r_0 := x_r.same (i := 0) rfl
    have i_r_1 := x_r.same (i := 1) rfl
    have i_r_2 := x_r.same (i := 2) rfl
    have i_r_3 := x_r.same (i := 3) rfl
    have i_r_4 := x_r.same (i := 4) rfl
    go_wp2
    refine ret_cell_tmp (by rfl) (by rfl) x_r Try.underlying27 sz_acct (by rfl) ?_
    rw [HM.out, HB9.out]
    exact ⟨_, rfl, ov_acctZ B0.size, B0⟩
  have HS := Lib.hid hS
  have gS : (a.State == 0) = false := by have := of_decide_eq_false hS; simpa using this
  by_cases hN : inB d 0 3 = true
  case neg =>
    replace hN : inB d 0 3 = false := by simpa using hN
    have HN := Lib.hid hN
    have HB9 : Hid (acctRepB a d x = false) := by show _ = _; unfold acctRepB; rw [hN]; simp
    have HM : Hid (acctRep a d x n = acctZ) := if_neg (by rw [HB9.out]; decide)
    clear hS hN
    go_enter Try.func33, Try.ntmps33
    go_wp2_with fail
    refine (sNode_any _ _).mono ?_
    rintro e w' ⟨rfl, rfl⟩
    rw [HN.out]
    have i_r_0 := x_r.same (i := 0) rfl
    have i_r_1 := x_r.same (i := 1) rfl
    have i_r_2 := x_r.same (i := 2) rfl
    have i_r_3 := x_r.same (i := 3) rfl
    have i_r_4 := x_r.same (i := 4) rfl
    go_wp2
    refine ret_cell_tmp (by rfl) (by rfl) x_r Try.underlying27 sz_acct (by rfl) ?_
    rw [HM.out, HB9.out]
    exact ⟨_, rfl, ov_acctZ B0.size, B0⟩
  have HN := Lib.hid hN
  by_cases hV : numB x = true
  case neg =>
    replace hV : numB x = false := by simpa using hV
    have HV := Lib.hid hV
    have HB9 : Hid (acctRepB a d x = false) := by show _ = _; unfold acctRepB; rw [hV]; simp
    have HM : Hid (acctRep a d x n = acctZ) := if_neg (by rw [HB9.out]; decide)
    clear hS hN hV
    go_enter Try.func33, Try.ntmps33
    go_wp2_with fail
    refine (sNode_any _ _).mono ?_
    rintro e w' ⟨rfl, rfl⟩
    rw [HN.out]
    go_wp2_with fail
    refine (sNum_any _ _).mono ?_
    rintro e w' ⟨rfl, rfl⟩
    rw [HV.out]
    have i_r_0 := x_r.same (i := 0) rfl
    have i_r_1 := x_r.same (i := 1) rfl
    have i_r_2 := x_r.same (i := 2) rfl
    have i_r_3 := x_r.same (i := 3) rfl
    have i_r_4 := x_r.same (i := 4) rfl
    go_wp2
    refine ret_cell_tmp (by rfl) (by rfl) x_r Try.underlying27 sz_acct (by rfl) ?_
    rw [HM.out, HB9.out]
    exact ⟨_, rfl, ov_acctZ B0.size, B0⟩
  have HV := Lib.hid hV
  have HB8 : Hid (acctRepB a d x = !hasRep a.Reps d) := by show _ = _; unfold acctRepB; rw [hS, hN, hV]; rfl
  clear hS hN hV
  go_enter Try.func33, Try.ntmps33
  go_wp2_with fail
  refine (sNode_any _ _).mono ?_
  rintro e w' ⟨rfl, rfl⟩
  rw [HN.out]
  go_wp2_with fail
  refine (sNum_any _ _).mono ?_
  rintro e w' ⟨rfl, rfl⟩
  rw [HV.out]
  go_wp2_with fail
  refine (sACopy_c (h0.from_ B0) hm).mono ?_
  rintro e w1 ⟨u_, rfl, ou, h_w1⟩
  clear c_a_0_wa f_a_0_wa c_a_1_wa f_a_1_wa c_a_2_wa f_a_2_wa c_a_3_wa f_a_3_wa c_a_4_wa f_a_4_wa c_r_0_wa f_r_0_wa c_r_1_wa f_r_1_wa c_r_2_wa f_r_2_wa c_r_3_wa f_r_3_wa c_r_4_wa f_r_4_wa
  replace x_a := x_a.from_ h_w1
  replace x_r := x_r.from_ h_w1
  have B_w1 := B0.trans (h_w1.mono B0.size)
  have s_w1 := h_w1.size
  obtain ⟨A1, c1, A2, c2, rfl, oM, oR⟩ := ov_acct_parts ou
  clear oR ou
  have c_a_0_w1 := x_a.cell (i := 0) rfl
  have f_a_0_w1 := x_a.frozen 0
  have c_a_1_w1 := x_a.cell (i := 1) rfl
  have f_a_1_w1 := x_a.frozen 1
  have c_a_2_w1 := x_a.cell (i := 2) rfl
  have f_a_2_w1 := x_a.frozen 2
  have c_a_3_w1 := x_a.cell (i := 3) rfl
  have f_a_3_w1 := x_a.frozen 3
  have c_a_4_w1 := x_a.cell (i := 4) rfl
  have f_a_4_w1 := x_a.frozen 4
  have c_r_0_w1 := x_r.cell (i := 0) rfl
  have f_r_0_w1 := x_r.frozen 0
  have c_r_1_w1 := x_r.cell (i := 1) rfl
  have f_r_1_w1 := x_r.frozen 1
  have c_r_2_w1 := x_r.cell (i := 2) rfl
  have f_r_2_w1 := x_r.frozen 2
  have c_r_3_w1 := x_r.cell (i := 3) rfl
  have f_r_3_w1 := x_r.frozen 3
  have c_r_4_w1 := x_r.cell (i := 4) rfl
  have f_r_4_w1 := x_r.frozen 4
  obtain ⟨w2, e_w2, s_w2, h_w2, x_o⟩ := alloc_step w1 27 [.int .i64 a.Have, .int .i64 a.State, .int .i64 a.By, .slice A1 a.Marks.length c1, .slice A2 a.Reps.length c2]
  have s_w2_1 := Nat.le_of_eq s_w2
  have s_w2_2 := Nat.le_of_eq s_w2.symm
  clear s_w2
  replace x_a := x_a.from_ h_w2
  replace x_r := x_r.from_ h_w2
  replace oM := oM.below h_w2
  have B_w2 := B_w1.trans (h_w2.mono B_w1.size)
  have c_a_0_w2 := x_a.cell (i := 0) rfl
  have f_a_0_w2 := x_a.frozen 0
  have c_a_1_w2 := x_a.cell (i := 1) rfl
  have f_a_1_w2 := x_a.frozen 1
  have c_a_2_w2 := x_a.cell (i := 2) rfl
  have f_a_2_w2 := x_a.frozen 2
  have c_a_3_w2 := x_a.cell (i := 3) rfl
  have f_a_3_w2 := x_a.frozen 3
  have c_a_4_w2 := x_a.cell (i := 4) rfl
  have f_a_4_w2 := x_a.frozen 4
  have c_r_0_w2 := x_r.cell (i := 0) rfl
  have f_r_0_w2 := x_r.frozen 0
  have c_r_1_w2 := x_r.cell (i := 1) rfl
  have f_r_1_w2 := x_r.frozen 1
  have c_r_2_w2 := x_r.cell (i := 2) rfl
  have f_r_2_w2 := x_r.frozen 2
  have c_r_3_w2 := x_r.cell (i := 3) rfl
  have f_r_3_w2 := x_r.frozen 3
  have c_r_4_w2 := x_r.cell (i := 4) rfl
  have f_r_4_w2 := x_r.frozen 4
  have c_o_0_w2 := x_o.cell (i := 0) rfl
  have f_o_0_w2 := x_o.frozen 0
  have c_o_1_w2 := x_o.cell (i := 1) rfl
  have f_o_1_w2 := x_o.frozen 1
  have c_o_2_w2 := x_o.cell (i := 2) rfl
  have f_o_2_w2 := x_o.frozen 2
  have c_o_3_w2 := x_o.cell (i := 3) rfl
  have f_o_3_w2 := x_o.frozen 3
  have c_o_4_w2 := x_o.cell (i := 4) rfl
  have f_o_4_w2 := x_o.frozen 4
  have oG := ov_reps_lit w2
  obtain ⟨w3, e_w3, s_w3, h_w3, -⟩ := alloc_step w2 57 []
  have e1' : w2.alloc (.cells #[] 57) = w3 := e_w3
  rw [e1'] at oG
  clear e1'
  have s_w3_1 := Nat.le_of_eq s_w3
  have s_w3_2 := Nat.le_of_eq s_w3.symm
  clear s_w3
  replace x_a := x_a.from_ h_w3
  replace x_r := x_r.from_ h_w3
  replace x_o := x_o.from_ h_w3
  replace oM := oM.below h_w3
  have B_w3 := B_w2.trans (h_w3.mono B_w2.size)
  have c_a_0_w3 := x_a.cell (i := 0) rfl
  have f_a_0_w3 := x_a.frozen 0
  have c_a_1_w3 := x_a.cell (i := 1) rfl
  have f_a_1_w3 := x_a.frozen 1
  have c_a_2_w3 := x_a.cell (i := 2) rfl
  have f_a_2_w3 := x_a.frozen 2
  have c_a_3_w3 := x_a.cell (i := 3) rfl
  have f_a_3_w3 := x_a.frozen 3
  have c_a_4_w3 := x_a.cell (i := 4) rfl
  have f_a_4_w3 := x_a.frozen 4
  have c_r_0_w3 := x_r.cell (i := 0) rfl
  have f_r_0_w3 := x_r.frozen 0
  have c_r_1_w3 := x_r.cell (i := 1) rfl
  have f_r_1_w3 := x_r.frozen 1
  have c_r_2_w3 := x_r.cell (i := 2) rfl
  have f_r_2_w3 := x_r.frozen 2
  have c_r_3_w3 := x_r.cell (i := 3) rfl
  have f_r_3_w3 := x_r.frozen 3
  have c_r_4_w3 := x_r.cell (i := 4) rfl
  have f_r_4_w3 := x_r.frozen 4
  have c_o_0_w3 := x_o.cell (i := 0) rfl
  have f_o_0_w3 := x_o.frozen 0
  have c_o_1_w3 := x_o.cell (i := 1) rfl
  have f_o_1_w3 := x_o.frozen 1
  have c_o_2_w3 := x_o.cell (i := 2) rfl
  have f_o_2_w3 := x_o.frozen 2
  have c_o_3_w3 := x_o.cell (i := 3) rfl
  have f_o_3_w3 := x_o.frozen 3
  have c_o_4_w3 := x_o.cell (i := 4) rfl
  have f_o_4_w3 := x_o.frozen 4
  obtain ⟨w4, e_w4, s_w4, h_w4, y⟩ := set_step x_o 4 (.slice (some ⟨w2.heap.size, 0, none⟩) 0 0)
  have s_w4_1 := Nat.le_of_eq s_w4
  have s_w4_2 := Nat.le_of_eq s_w4.symm
  clear s_w4
  replace x_a := x_a.chg h_w4 (by omega)
  replace x_r := x_r.chg h_w4 (by omega)
  replace oM := oM.chg h_w4 (by omega)
  replace oG := oG.chg h_w4 (by omega)
  have B_w4 := Below.chg_ B_w3 h_w4 (by omega) (by omega)
  replace x_o : Vr w4 (w1.heap.size) 27 [.int .i64 a.Have, .int .i64 a.State, .int .i64 a.By, .slice A1 a.Marks.length c1, .slice (some ⟨w2.heap.size, 0, none⟩) 0 0] := y
  clear y
  have c_a_0_w4 := x_a.cell (i := 0) rfl
  have f_a_0_w4 := x_a.frozen 0
  have c_a_1_w4 := x_a.cell (i := 1) rfl
  have f_a_1_w4 := x_a.frozen 1
  have c_a_2_w4 := x_a.cell (i := 2) rfl
  have f_a_2_w4 := x_a.frozen 2
  have c_a_3_w4 := x_a.cell (i := 3) rfl
  have f_a_3_w4 := x_a.frozen 3
  have c_a_4_w4 := x_a.cell (i := 4) rfl
  have f_a_4_w4 := x_a.frozen 4
  have c_r_0_w4 := x_r.cell (i := 0) rfl
  have f_r_0_w4 := x_r.frozen 0
  have c_r_1_w4 := x_r.cell (i := 1) rfl
  have f_r_1_w4 := x_r.frozen 1
  have c_r_2_w4 := x_r.cell (i := 2) rfl
  have f_r_2_w4 := x_r.frozen 2
  have c_r_3_w4 := x_r.cell (i := 3) rfl
  have f_r_3_w4 := x_r.frozen 3
  have c_r_4_w4 := x_r.cell (i := 4) rfl
  have f_r_4_w4 := x_r.frozen 4
  have c_o_0_w4 := x_o.cell (i := 0) rfl
  have f_o_0_w4 := x_o.frozen 0
  have c_o_1_w4 := x_o.cell (i := 1) rfl
  have f_o_1_w4 := x_o.frozen 1
  have c_o_2_w4 := x_o.cell (i := 2) rfl
  have f_o_2_w4 := x_o.frozen 2
  have c_o_3_w4 := x_o.cell (i := 3) rfl
  have f_o_3_w4 := x_o.frozen 3
  have c_o_4_w4 := x_o.cell (i := 4) rfl
  have f_o_4_w4 := x_o.frozen 4
  go_wp2
  go_loopw [11, 35] (fun dn i wr => ∃ (k : Nat) (q : Bool) (G : List MRep) (AG : Option Addr) (cG : Nat), k ≤ a.Reps.length ∧ i = .int .i64 k ∧ dn = .bool q ∧ Hid (RepSt a.Reps ⟨d, x⟩ k q G) ∧ G.length ≤ k + 1 ∧ Hid (hasRep (a.Reps.take k) d = false) ∧ Vr wr w.heap.size 27 [.int .i64 a.Have, .int .i64 a.State, .int .i64 a.By, .slice AM a.Marks.length cM, .slice AR a.Reps.length cR] ∧ Vr wr (w.heap.size + 1) 27 [.int .i64 0, .int .i64 0, .int .i64 0, .slice none 0 0, .slice none 0 0] ∧ Vr wr (w1.heap.size) 27 [.int .i64 a.Have, .int .i64 a.State, .int .i64 a.By, .slice A1 a.Marks.length c1, .slice AG G.length cG] ∧ OS .i64 3 wr wa.heap.size w1.heap.size (.slice A1 a.Marks.length c1) a.Marks ∧ OV repSL wr w2.heap.size wr.heap.size (.slice AG G.length cG) G ∧ Below w.heap.size w wr) (fun _ i _ => a.Reps.length - (intOf i).toNat)
  case atStart => exact ⟨0, false, [], _, _, Nat.zero_le _, rfl, rfl, repSt_zero, Nat.zero_le _, rfl, x_a, x_r, x_o, oM, oG.widen (Nat.le_refl _) (by omega) (Nat.le_refl _), B_w4⟩
  case round =>
    clear c_a_0_w1 f_a_0_w1 c_a_1_w1 f_a_1_w1 c_a_2_w1 f_a_2_w1 c_a_3_w1 f_a_3_w1 c_a_4_w1 f_a_4_w1 c_r_0_w1 f_r_0_w1 c_r_1_w1 f_r_1_w1 c_r_2_w1 f_r_2_w1 c_r_3_w1 f_r_3_w1 c_r_4_w1 f_r_4_w1 c_a_0_w2 f_a_0_w2 c_a_1_w2 f_a_1_w2 c_a_2_w2 f_a_2_w2 c_a_3_w2 f_a_3_w2 c_a_4_w2 f_a_4_w2 c_r_0_w2 f_r_0_w2 c_r_1_w2 f_r_1_w2 c_r_2_w2 f_r_2_w2 c_r_3_w2 f_r_3_w2 c_r_4_w2 f_r_4_w2 c_o_0_w2 f_o_0_w2 c_o_1_w2 f_o_1_w2 c_o_2_w2 f_o_2_w2 c_o_3_w2 f_o_3_w2 c_o_4_w2 f_o_4_w2 c_a_0_w3 f_a_0_w3 c_a_1_w3 f_a_1_w3 c_a_2_w3 f_a_2_w3 c_a_3_w3 f_a_3_w3 c_a_4_w3 f_a_4_w3 c_r_0_w3 f_r_0_w3 c_r_1_w3 f_r_1_w3 c_r_2_w3 f_r_2_w3 c_r_3_w3 f_r_3_w3 c_r_4_w3 f_r_4_w3 c_o_0_w3 f_o_0_w3 c_o_1_w3 f_o_1_w3 c_o_2_w3 f_o_2_w3 c_o_3_w3 f_o_3_w3 c_o_4_w3 f_o_4_w3 c_a_0_w4 f_a_0_w4 c_a_1_w4 f_a_1_w4 c_a_2_w4 f_a_2_w4 c_a_3_w4 f_a_3_w4 c_a_4_w4 f_a_4_w4 c_r_0_w4 f_r_0_w4 c_r_1_w4 f_r_1_w4 c_r_2_w4 f_r_2_w4 c_r_3_w4 f_r_3_w4 c_r_4_w4 f_r_4_w4 c_o_0_w4 f_o_0_w4 c_o_1_w4 f_o_1_w4 c_o_2_w4 f_o_2_w4 c_o_3_w4 f_o_3_w4 c_o_4_w4 f_o_4_w4
    clear x_a x_r x_o oM oG hwa
    obtain ⟨k, q, G, AG, cG, hk, rfl, rfl, HST, lG, HT, x_a, x_r, x_o, oM, oG, HB⟩ := hrel
    have hs := HB.size
    have lo := x_o.lt
    by_cases hlt : k < a.Reps.length
    case neg =>
      have hk2 : ¬ ((k : Int) < (a.Reps.length : Int)) := by omega
      have HB9 : Hid (acctRepB a d x = true) := by show _ = _; rw [HB8.out]; have := HT.out; rw [List.take_of_length_le (by omega)] at this; rw [this]; rfl
      have c_a_0_wr := x_a.cell (i := 0) rfl
      have f_a_0_wr := x_a.frozen 0
      have c_a_1_wr := x_a.cell (i := 1) rfl
      have f_a_1_wr := x_a.frozen 1
      have c_a_2_wr := x_a.cell (i := 2) rfl
      have f_a_2_wr := x_a.frozen 2
      have c_a_3_wr := x_a.cell (i := 3) rfl
      have f_a_3_wr := x_a.frozen 3
      have c_a_4_wr := x_a.cell (i := 4) rfl
      have f_a_4_wr := x_a.frozen 4
      have c_r_0_wr := x_r.cell (i := 0) rfl
      have f_r_0_wr := x_r.frozen 0
      have c_r_1_wr := x_r.cell (i := 1) rfl
      have f_r_1_wr := x_r.frozen 1
      have c_r_2_wr := x_r.cell (i := 2) rfl
      have f_r_2_wr := x_r.frozen 2
      have c_r_3_wr := x_r.cell (i := 3) rfl
      have f_r_3_wr := x_r.frozen 3
      have c_r_4_wr := x_r.cell (i := 4) rfl
      have f_r_4_wr := x_r.frozen 4
      have c_o_0_wr := x_o.cell (i := 0) rfl
      have f_o_0_wr := x_o.frozen 0
      have c_o_1_wr := x_o.cell (i := 1) rfl
      have f_o_1_wr := x_o.frozen 1
      have c_o_2_wr := x_o.cell (i := 2) rfl
      have f_o_2_wr := x_o.frozen 2
      have c_o_3_wr := x_o.cell (i := 3) rfl
      have f_o_3_wr := x_o.frozen 3
      have c_o_4_wr := x_o.cell (i := 4) rfl
      have f_o_4_wr := x_o.frozen 4
      rcases hq : q
      case false =>
        subst hq
        obtain ⟨w21, e_w21, s_w21, h_w21, x_t⟩ := alloc_step wr 57 [.int .i64 d, .int .i64 x]
        have s_w21_1 := Nat.le_of_eq s_w21
        have s_w21_2 := Nat.le_of_eq s_w21.symm
        clear s_w21
        replace x_a := x_a.from_ h_w21
        replace x_r := x_r.from_ h_w21
        replace x_o := x_o.from_ h_w21
        replace oM := oM.below h_w21
        replace oG := oG.below h_w21
        have B_w21 := HB.trans (h_w21.mono HB.size)
        have hRV := x_t.rdV
        have c_a_0_w21 := x_a.cell (i := 0) rfl
        have f_a_0_w21 := x_a.frozen 0
        have c_a_1_w21 := x_a.cell (i := 1) rfl
        have f_a_1_w21 := x_a.frozen 1
        have c_a_2_w21 := x_a.cell (i := 2) rfl
        have f_a_2_w21 := x_a.frozen 2
        have c_a_3_w21 := x_a.cell (i := 3) rfl
        have f_a_3_w21 := x_a.frozen 3
        have c_a_4_w21 := x_a.cell (i := 4) rfl
        have f_a_4_w21 := x_a.frozen 4
        have c_r_0_w21 := x_r.cell (i := 0) rfl
        have f_r_0_w21 := x_r.frozen 0
        have c_r_1_w21 := x_r.cell (i := 1) rfl
        have f_r_1_w21 := x_r.frozen 1
        have c_r_2_w21 := x_r.cell (i := 2) rfl
        have f_r_2_w21 := x_r.frozen 2
        have c_r_3_w21 := x_r.cell (i := 3) rfl
        have f_r_3_w21 := x_r.frozen 3
        have c_r_4_w21 := x_r.cell (i := 4) rfl
        have f_r_4_w21 := x_r.frozen 4
        have c_o_0_w21 := x_o.cell (i := 0) rfl
        have f_o_0_w21 := x_o.frozen 0
        have c_o_1_w21 := x_o.cell (i := 1) rfl
        have f_o_1_w21 := x_o.frozen 1
        have c_o_2_w21 := x_o.cell (i := 2) rfl
        have f_o_2_w21 := x_o.frozen 2
        have c_o_3_w21 := x_o.cell (i := 3) rfl
        have f_o_3_w21 := x_o.frozen 3
        have c_o_4_w21 := x_o.cell (i := 4) rfl
        have f_o_4_w21 := x_o.frozen 4
        obtain ⟨ys, R, hback⟩ := OV.app_grow own_rep_nil oG (cs := [.int .i64 d, .int .i64 x]) rfl (fun w => own_rep w ⟨d, x⟩) (by omega)
        go_wp2_with (at_builtin; refine wpl_appN _ rfl (.tmp 70) (.tmp 74) 25 rfl 0 2 57 j0 (.agg #[.int .i64 0, .int .i64 0]) 16 Try.underlying25 hj yz0 yz1 yz2 rfl (by decide) _ G.length ys rfl R _ _ _ 1 [.int .i64 d, .int .i64 x] rfl rfl hRV ?d0 ?d1 (by decide) (Nat.zero_le _) ?_)
        case d0 => first | exact ⟨rfl, rfl⟩ | (intro u hu; simp only [List.mem_cons, List.not_mem_nil, or_false] at hu; rcases hu with rfl | rfl <;> rfl)
        case d1 => omega
        intro v6 w22 ho6 hg6 hat6
        obtain ⟨h_w22, oG2⟩ := hback v6 w22 ho6 hg6 hat6
        clear hback R ho6 hg6 hat6 hRV x_t oG
        obtain ⟨G9, hG9⟩ : ∃ X, G ++ [⟨d, x⟩] = X := ⟨_, rfl⟩
        have lG9_1 : G9.length ≤ G.length + 1 := by rw [← hG9]; simp
        rw [hG9] at oG2
        have HG9 := Lib.hid hG9
        clear hG9
        obtain ⟨AG9, cG9, rfl, -, -, -⟩ := rv_slice oG2.rd
        have oG := oG2
        clear oG2
        clear c_a_0_wr f_a_0_wr c_a_1_wr f_a_1_wr c_a_2_wr f_a_2_wr c_a_3_wr f_a_3_wr c_a_4_wr f_a_4_wr c_r_0_wr f_r_0_wr c_r_1_wr f_r_1_wr c_r_2_wr f_r_2_wr c_r_3_wr f_r_3_wr c_r_4_wr f_r_4_wr c_o_0_wr f_o_0_wr c_o_1_wr f_o_1_wr c_o_2_wr f_o_2_wr c_o_3_wr f_o_3_wr c_o_4_wr f_o_4_wr c_a_0_w21 f_a_0_w21 c_a_1_w21 f_a_1_w21 c_a_2_w21 f_a_2_w21 c_a_3_w21 f_a_3_w21 c_a_4_w21 f_a_4_w21 c_r_0_w21 f_r_0_w21 c_r_1_w21 f_r_1_w21 c_r_2_w21 f_r_2_w21 c_r_3_w21 f_r_3_w21 c_r_4_w21 f_r_4_w21 c_o_0_w21 f_o_0_w21 c_o_1_w21 f_o_1_w21 c_o_2_w21 f_o_2_w21 c_o_3_w21 f_o_3_w21 c_o_4_w21 f_o_4_w21
        replace x_a := x_a.chg h_w22 (by omega)
        replace x_r := x_r.chg h_w22 (by omega)
        replace x_o := x_o.chg h_w22 (by omega)
        replace oM := oM.chg h_w22 (by omega)
        have B_w22 := Below.chg_ B_w21 h_w22 (by omega) (by omega)
        have s_w22 := h_w22.size
        have lo_w22 := x_o.lt
        have c_a_0_w22 := x_a.cell (i := 0) rfl
        have f_a_0_w22 := x_a.frozen 0
        have c_a_1_w22 := x_a.cell (i := 1) rfl
        have f_a_1_w22 := x_a.frozen 1
        have c_a_2_w22 := x_a.cell (i := 2) rfl
        have f_a_2_w22 := x_a.frozen 2
        have c_a_3_w22 := x_a.cell (i := 3) rfl
        have f_a_3_w22 := x_a.frozen 3
        have c_a_4_w22 := x_a.cell (i := 4) rfl
        have f_a_4_w22 := x_a.frozen 4
        have c_r_0_w22 := x_r.cell (i := 0) rfl
        have f_r_0_w22 := x_r.frozen 0
        have c_r_1_w22 := x_r.cell (i := 1) rfl
        have f_r_1_w22 := x_r.frozen 1
        have c_r_2_w22 := x_r.cell (i := 2) rfl
        have f_r_2_w22 := x_r.frozen 2
        have c_r_3_w22 := x_r.cell (i := 3) rfl
        have f_r_3_w22 := x_r.frozen 3
        have c_r_4_w22 := x_r.cell (i := 4) rfl
        have f_r_4_w22 := x_r.frozen 4
        have c_o_0_w22 := x_o.cell (i := 0) rfl
        have f_o_0_w22 := x_o.frozen 0
        have c_o_1_w22 := x_o.cell (i := 1) rfl
        have f_o_1_w22 := x_o.frozen 1
        have c_o_2_w22 := x_o.cell (i := 2) rfl
        have f_o_2_w22 := x_o.frozen 2
        have c_o_3_w22 := x_o.cell (i := 3) rfl
        have f_o_3_w22 := x_o.frozen 3
        have c_o_4_w22 := x_o.cell (i := 4) rfl
        have f_o_4_w22 := x_o.frozen 4
        obtain ⟨w23, e_w23, s_w23, h_w23, y⟩ := set_step x_o 4 (.slice AG9 G9.length cG9)
        have s_w23_1 := Nat.le_of_eq s_w23
        have s_w23_2 := Nat.le_of_eq s_w23.symm
        clear s_w23
        replace x_a := x_a.chg h_w23 (by omega)
        replace x_r := x_r.chg h_w23 (by omega)
        replace oM := oM.chg h_w23 (by omega)
        replace oG := oG.chg h_w23 (by omega)
        have B_w23 := Below.chg_ B_w22 h_w23 (by omega) (by omega)
        replace x_o : Vr w23 (w1.heap.size) 27 [.int .i64 a.Have, .int .i64 a.State, .int .i64 a.By, .slice A1 a.Marks.length c1, .slice AG9 G9.length cG9] := y
        clear y
        have c_a_0_w23 := x_a.cell (i := 0) rfl
        have f_a_0_w23 := x_a.frozen 0
        have c_a_1_w23 := x_a.cell (i := 1) rfl
        have f_a_1_w23 := x_a.frozen 1
        have c_a_2_w23 := x_a.cell (i := 2) rfl
        have f_a_2_w23 := x_a.frozen 2
        have c_a_3_w23 := x_a.cell (i := 3) rfl
        have f_a_3_w23 := x_a.frozen 3
        have c_a_4_w23 := x_a.cell (i := 4) rfl
        have f_a_4_w23 := x_a.frozen 4
        have c_r_0_w23 := x_r.cell (i := 0) rfl
        have f_r_0_w23 := x_r.frozen 0
        have c_r_1_w23 := x_r.cell (i := 1) rfl
        have f_r_1_w23 := x_r.frozen 1
        have c_r_2_w23 := x_r.cell (i := 2) rfl
        have f_r_2_w23 := x_r.frozen 2
        have c_r_3_w23 := x_r.cell (i := 3) rfl
        have f_r_3_w23 := x_r.frozen 3
        have c_r_4_w23 := x_r.cell (i := 4) rfl
        have f_r_4_w23 := x_r.frozen 4
        have c_o_0_w23 := x_o.cell (i := 0) rfl
        have f_o_0_w23 := x_o.frozen 0
        have c_o_1_w23 := x_o.cell (i := 1) rfl
        have f_o_1_w23 := x_o.frozen 1
        have c_o_2_w23 := x_o.cell (i := 2) rfl
        have f_o_2_w23 := x_o.frozen 2
        have c_o_3_w23 := x_o.cell (i := 3) rfl
        have f_o_3_w23 := x_o.frozen 3
        have c_o_4_w23 := x_o.cell (i := 4) rfl
        have f_o_4_w23 := x_o.frozen 4
        have HG : Hid (G9 = insR a.Reps ⟨d, x⟩) := by show _ = _; rw [← HG9.out]; exact repSt_f HST.out (by omega)
        by_cases hE : (G9.length : Int) = n
        case pos =>
          have gE : ((G9.length : Int) == n) = true := by simpa using hE
          have HM : Hid (acctRep a d x n = ⟨a.Have, 2, a.By, a.Marks, G9⟩) := by show _ = _; unfold acctRep; rw [if_pos HB9.out, ← HG.out, if_pos hE]
          clear hE
          obtain ⟨w24, e_w24, s_w24, h_w24, y⟩ := set_step x_o 1 (.int .i64 2)
          have s_w24_1 := Nat.le_of_eq s_w24
          have s_w24_2 := Nat.le_of_eq s_w24.symm
          clear s_w24
          replace x_a := x_a.chg h_w24 (by omega)
          replace x_r := x_r.chg h_w24 (by omega)
          replace oM := oM.chg h_w24 (by omega)
          replace oG := oG.chg h_w24 (by omega)
          have B_w24 := Below.chg_ B_w23 h_w24 (by omega) (by omega)
          replace x_o : Vr w24 (w1.heap.size) 27 [.int .i64 a.Have, .int .i64 2, .int .i64 a.By, .slice A1 a.Marks.length c1, .slice AG9 G9.length cG9] := y
          clear y
          have c_a_0_w24 := x_a.cell (i := 0) rfl
          have f_a_0_w24 := x_a.frozen 0
          have c_a_1_w24 := x_a.cell (i := 1) rfl
          have f_a_1_w24 := x_a.frozen 1
          have c_a_2_w24 := x_a.cell (i := 2) rfl
          have f_a_2_w24 := x_a.frozen 2
          have c_a_3_w24 := x_a.cell (i := 3) rfl
          have f_a_3_w24 := x_a.frozen 3
          have c_a_4_w24 := x_a.cell (i := 4) rfl
          have f_a_4_w24 := x_a.frozen 4
          have c_r_0_w24 := x_r.cell (i := 0) rfl
          have f_r_0_w24 := x_r.frozen 0
          have c_r_1_w24 := x_r.cell (i := 1) rfl
          have f_r_1_w24 := x_r.frozen 1
          have c_r_2_w24 := x_r.cell (i := 2) rfl
          have f_r_2_w24 := x_r.frozen 2
          have c_r_3_w24 := x_r.cell (i := 3) rfl
          have f_r_3_w24 := x_r.frozen 3
          have c_r_4_w24 := x_r.cell (i := 4) rfl
          have f_r_4_w24 := x_r.frozen 4
          have c_o_0_w24 := x_o.cell (i := 0) rfl
          have f_o_0_w24 := x_o.frozen 0
          have c_o_1_w24 := x_o.cell (i := 1) rfl
          have f_o_1_w24 := x_o.frozen 1
          have c_o_2_w24 := x_o.cell (i := 2) rfl
          have f_o_2_w24 := x_o.frozen 2
          have c_o_3_w24 := x_o.cell (i := 3) rfl
          have f_o_3_w24 := x_o.frozen 3
          have c_o_4_w24 := x_o.cell (i := 4) rfl
          have f_o_4_w24 := x_o.frozen 4
          obtain ⟨w25, e_w25, s_w25, h_w25, y⟩ := store_step x_r [.int .i64 a.Have, .int .i64 2, .int .i64 a.By, .slice A1 a.Marks.length c1, .slice AG9 G9.length cG9] rfl
          replace e_w25 : (((((w24.setCell ⟨w.heap.size + 1, 0, none⟩ (.int .i64 a.Have)).setCell ⟨w.heap.size + 1, 1, none⟩ (.int .i64 2)).setCell ⟨w.heap.size + 1, 2, none⟩ (.int .i64 a.By)).setCell ⟨w.heap.size + 1, 3, none⟩ (.slice A1 a.Marks.length c1)).setCell ⟨w.heap.size + 1, 4, none⟩ (.slice AG9 G9.length cG9)) = w25 := e_w25
          have s_w25_1 := Nat.le_of_eq s_w25
          have s_w25_2 := Nat.le_of_eq s_w25.symm
          clear s_w25
          replace x_a := x_a.chg h_w25 (by omega)
          replace x_o := x_o.chg h_w25 (by omega)
          replace oM := oM.chg h_w25 (by omega)
          replace oG := oG.chg h_w25 (by omega)
          have B_w25 := Below.chg_ B_w24 h_w25 (by omega) (by omega)
          replace x_r : Vr w25 (w.heap.size + 1) 27 [.int .i64 a.Have, .int .i64 2, .int .i64 a.By, .slice A1 a.Marks.length c1, .slice AG9 G9.length cG9] := y
          clear y
          have c_r_0_w25 := x_r.cell (i := 0) rfl
          have f_r_0_w25 := x_r.frozen 0
          have c_r_1_w25 := x_r.cell (i := 1) rfl
          have f_r_1_w25 := x_r.frozen 1
          have c_r_2_w25 := x_r.cell (i := 2) rfl
          have f_r_2_w25 := x_r.frozen 2
          have c_r_3_w25 := x_r.cell (i := 3) rfl
          have f_r_3_w25 := x_r.frozen 3
          have c_r_4_w25 := x_r.cell (i := 4) rfl
          have f_r_4_w25 := x_r.frozen 4
          go_wp2
          refine ret_cell_tmp (by rfl) (by rfl) x_r Try.underlying27 sz_acct (by rfl) ?_
          rw [HM.out, HB9.out]
          exact ⟨_, rfl, ov_acct (d := ⟨a.Have, 2, a.By, a.Marks, G9⟩) oM oG (by omega), B_w25⟩
        case neg =>
          have gE : ((G9.length : Int) == n) = false := by simpa using hE
          have HM : Hid (acctRep a d x n = ⟨a.Have, a.State, a.By, a.Marks, G9⟩) := by show _ = _; unfold acctRep; rw [if_pos HB9.out, ← HG.out, if_neg hE]
          clear hE
          obtain ⟨w24, e_w24, s_w24, h_w24, y⟩ := store_step x_r [.int .i64 a.Have, .int .i64 a.State, .int .i64 a.By, .slice A1 a.Marks.length c1, .slice AG9 G9.length cG9] rfl
          replace e_w24 : (((((w23.setCell ⟨w.heap.size + 1, 0, none⟩ (.int .i64 a.Have)).setCell ⟨w.heap.size + 1, 1, none⟩ (.int .i64 a.State)).setCell ⟨w.heap.size + 1, 2, none⟩ (.int .i64 a.By)).setCell ⟨w.heap.size + 1, 3, none⟩ (.slice A1 a.Marks.length c1)).setCell ⟨w.heap.size + 1, 4, none⟩ (.slice AG9 G9.length cG9)) = w24 := e_w24
          have s_w24_1 := Nat.le_of_eq s_w24
          have s_w24_2 := Nat.le_of_eq s_w24.symm
          clear s_w24
          replace x_a := x_a.chg h_w24 (by omega)
          replace x_o := x_o.chg h_w24 (by omega)
          replace oM := oM.chg h_w24 (by omega)
          replace oG := oG.chg h_w24 (by omega)
          have B_w24 := Below.chg_ B_w23 h_w24 (by omega) (by omega)
          replace x_r : Vr w24 (w.heap.size + 1) 27 [.int .i64 a.Have, .int .i64 a.State, .int .i64 a.By, .slice A1 a.Marks.length c1, .slice AG9 G9.length cG9] := y
          clear y
          have c_r_0_w24 := x_r.cell (i := 0) rfl
          have f_r_0_w24 := x_r.frozen 0
          have c_r_1_w24 := x_r.cell (i := 1) rfl
          have f_r_1_w24 := x_r.frozen 1
          have c_r_2_w24 := x_r.cell (i := 2) rfl
          have f_r_2_w24 := x_r.frozen 2
          have c_r_3_w24 := x_r.cell (i := 3) rfl
          have f_r_3_w24 := x_r.frozen 3
          have c_r_4_w24 := x_r.cell (i := 4) rfl
          have f_r_4_w24 := x_r.frozen 4
          go_wp2
          refine ret_cell_tmp (by rfl) (by rfl) x_r Try.underlying27 sz_acct (by rfl) ?_
          rw [HM.out, HB9.out]
          exact ⟨_, rfl, ov_acct (d := ⟨a.Have, a.State, a.By, a.Marks, G9⟩) oM oG (by omega), B_w24⟩
      case true =>
        subst hq
        have HG : Hid (G = insR a.Reps ⟨d, x⟩) := repSt_t HST.out (by omega)
        by_cases hE : (G.length : Int) = n
        case pos =>
          have gE : ((G.length : Int) == n) = true := by simpa using hE
          have HM : Hid (acctRep a d x n = ⟨a.Have, 2, a.By, a.Marks, G⟩) := by show _ = _; unfold acctRep; rw [if_pos HB9.out, ← HG.out, if_pos hE]
          clear hE
          obtain ⟨w21, e_w21, s_w21, h_w21, y⟩ := set_step x_o 1 (.int .i64 2)
          have s_w21_1 := Nat.le_of_eq s_w21
          have s_w21_2 := Nat.le_of_eq s_w21.symm
          clear s_w21
          replace x_a := x_a.chg h_w21 (by omega)
          replace x_r := x_r.chg h_w21 (by omega)
          replace oM := oM.chg h_w21 (by omega)
          replace oG := oG.chg h_w21 (by omega)
          have B_w21 := Below.chg_ HB h_w21 (by omega) (by omega)
          replace x_o : Vr w21 (w1.heap.size) 27 [.int .i64 a.Have, .int .i64 2, .int .i64 a.By, .slice A1 a.Marks.length c1, .slice AG G.length cG] := y
          clear y
          have c_a_0_w21 := x_a.cell (i := 0) rfl
          have f_a_0_w21 := x_a.frozen 0
          have c_a_1_w21 := x_a.cell (i := 1) rfl
          have f_a_1_w21 := x_a.frozen 1
          have c_a_2_w21 := x_a.cell (i := 2) rfl
          have f_a_2_w21 := x_a.frozen 2
          have c_a_3_w21 := x_a.cell (i := 3) rfl
          have f_a_3_w21 := x_a.frozen 3
          have c_a_4_w21 := x_a.cell (i := 4) rfl
          have f_a_4_w21 := x_a.frozen 4
          have c_r_0_w21 := x_r.cell (i := 0) rfl
          have f_r_0_w21 := x_r.frozen 0
          have c_r_1_w21 := x_r.cell (i := 1) rfl
          have f_r_1_w21 := x_r.frozen 1
          have c_r_2_w21 := x_r.cell (i := 2) rfl
          have f_r_2_w21 := x_r.frozen 2
          have c_r_3_w21 := x_r.cell (i := 3) rfl
          have f_r_3_w21 := x_r.frozen 3
          have c_r_4_w21 := x_r.cell (i := 4) rfl
          have f_r_4_w21 := x_r.frozen 4
          have c_o_0_w21 := x_o.cell (i := 0) rfl
          have f_o_0_w21 := x_o.frozen 0
          have c_o_1_w21 := x_o.cell (i := 1) rfl
          have f_o_1_w21 := x_o.frozen 1
          have c_o_2_w21 := x_o.cell (i := 2) rfl
          have f_o_2_w21 := x_o.frozen 2
          have c_o_3_w21 := x_o.cell (i := 3) rfl
          have f_o_3_w21 := x_o.frozen 3
          have c_o_4_w21 := x_o.cell (i := 4) rfl
          have f_o_4_w21 := x_o.frozen 4
          obtain ⟨w22, e_w22, s_w22, h_w22, y⟩ := store_step x_r [.int .i64 a.Have, .int .i64 2, .int .i64 a.By, .slice A1 a.Marks.length c1, .slice AG G.length cG] rfl
          replace e_w22 : (((((w21.setCell ⟨w.heap.size + 1, 0, none⟩ (.int .i64 a.Have)).setCell ⟨w.heap.size + 1, 1, none⟩ (.int .i64 2)).setCell ⟨w.heap.size + 1, 2, none⟩ (.int .i64 a.By)).setCell ⟨w.heap.size + 1, 3, none⟩ (.slice A1 a.Marks.length c1)).setCell ⟨w.heap.size + 1, 4, none⟩ (.slice AG G.length cG)) = w22 := e_w22
          have s_w22_1 := Nat.le_of_eq s_w22
          have s_w22_2 := Nat.le_of_eq s_w22.symm
          clear s_w22
          replace x_a := x_a.chg h_w22 (by omega)
          replace x_o := x_o.chg h_w22 (by omega)
          replace oM := oM.chg h_w22 (by omega)
          replace oG := oG.chg h_w22 (by omega)
          have B_w22 := Below.chg_ B_w21 h_w22 (by omega) (by omega)
          replace x_r : Vr w22 (w.heap.size + 1) 27 [.int .i64 a.Have, .int .i64 2, .int .i64 a.By, .slice A1 a.Marks.length c1, .slice AG G.length cG] := y
          clear y
          have c_r_0_w22 := x_r.cell (i := 0) rfl
          have f_r_0_w22 := x_r.frozen 0
          have c_r_1_w22 := x_r.cell (i := 1) rfl
          have f_r_1_w22 := x_r.frozen 1
          have c_r_2_w22 := x_r.cell (i := 2) rfl
          have f_r_2_w22 := x_r.frozen 2
          have c_r_3_w22 := x_r.cell (i := 3) rfl
          have f_r_3_w22 := x_r.frozen 3
          have c_r_4_w22 := x_r.cell (i := 4) rfl
          have f_r_4_w22 := x_r.frozen 4
          go_wp2
          refine ret_cell_tmp (by rfl) (by rfl) x_r Try.underlying27 sz_acct (by rfl) ?_
          rw [HM.out, HB9.out]
          exact ⟨_, rfl, ov_acct (d := ⟨a.Have, 2, a.By, a.Marks, G⟩) oM oG (by omega), B_w22⟩
        case neg =>
          have gE : ((G.length : Int) == n) = false := by simpa using hE
          have HM : Hid (acctRep a d x n = ⟨a.Have, a.State, a.By, a.Marks, G⟩) := by show _ = _; unfold acctRep; rw [if_pos HB9.out, ← HG.out, if_neg hE]
          clear hE
          obtain ⟨w21, e_w21, s_w21, h_w21, y⟩ := store_step x_r [.int .i64 a.Have, .int .i64 a.State, .int .i64 a.By, .slice A1 a.Marks.length c1, .slice AG G.length cG] rfl
          replace e_w21 : (((((wr.setCell ⟨w.heap.size + 1, 0, none⟩ (.int .i64 a.Have)).setCell ⟨w.heap.size + 1, 1, none⟩ (.int .i64 a.State)).setCell ⟨w.heap.size + 1, 2, none⟩ (.int .i64 a.By)).setCell ⟨w.heap.size + 1, 3, none⟩ (.slice A1 a.Marks.length c1)).setCell ⟨w.heap.size + 1, 4, none⟩ (.slice AG G.length cG)) = w21 := e_w21
          have s_w21_1 := Nat.le_of_eq s_w21
          have s_w21_2 := Nat.le_of_eq s_w21.symm
          clear s_w21
          replace x_a := x_a.chg h_w21 (by omega)
          replace x_o := x_o.chg h_w21 (by omega)
          replace oM := oM.chg h_w21 (by omega)
          replace oG := oG.chg h_w21 (by omega)
          have B_w21 := Below.chg_ HB h_w21 (by omega) (by omega)
          replace x_r : Vr w21 (w.heap.size + 1) 27 [.int .i64 a.Have, .int .i64 a.State, .int .i64 a.By, .slice A1 a.Marks.length c1, .slice AG G.length cG] := y
          clear y
          have c_r_0_w21 := x_r.cell (i := 0) rfl
          have f_r_0_w21 := x_r.frozen 0
          have c_r_1_w21 := x_r.cell (i := 1) rfl
          have f_r_1_w21 := x_r.frozen 1
          have c_r_2_w21 := x_r.cell (i := 2) rfl
          have f_r_2_w21 := x_r.frozen 2
          have c_r_3_w21 := x_r.cell (i := 3) rfl
          have f_r_3_w21 := x_r.frozen 3
          have c_r_4_w21 := x_r.cell (i := 4) rfl
          have f_r_4_w21 := x_r.frozen 4
          go_wp2
          refine ret_cell_tmp (by rfl) (by rfl) x_r Try.underlying27 sz_acct (by rfl) ?_
          rw [HM.out, HB9.out]
          exact ⟨_, rfl, ov_acct (d := ⟨a.Have, a.State, a.By, a.Marks, G⟩) oM oG (by omega), B_w21⟩
    obtain ⟨y, hye⟩ := get_of_lt hlt
    obtain ⟨b, off, rfl, hb, e0, e1⟩ := el_rep (hr.below HB) hye
    have i1 : (k : Int) < (a.Reps.length : Int) := by omega
    obtain ⟨w21, e_w21, s_w21, h_w21, x_m⟩ := alloc_step wr 57 [.int .i64 y.Node, .int .i64 y.Amt]
    have s_w21_1 := Nat.le_of_eq s_w21
    have s_w21_2 := Nat.le_of_eq s_w21.symm
    clear s_w21
    replace x_a := x_a.from_ h_w21
    replace x_r := x_r.from_ h_w21
    replace x_o := x_o.from_ h_w21
    replace oM := oM.below h_w21
    replace oG := oG.below h_w21
    have B_w21 := HB.trans (h_w21.mono HB.size)
    have c_a_0_w21 := x_a.cell (i := 0) rfl
    have f_a_0_w21 := x_a.frozen 0
    have c_a_1_w21 := x_a.cell (i := 1) rfl
    have f_a_1_w21 := x_a.frozen 1
    have c_a_2_w21 := x_a.cell (i := 2) rfl
    have f_a_2_w21 := x_a.frozen 2
    have c_a_3_w21 := x_a.cell (i := 3) rfl
    have f_a_3_w21 := x_a.frozen 3
    have c_a_4_w21 := x_a.cell (i := 4) rfl
    have f_a_4_w21 := x_a.frozen 4
    have c_r_0_w21 := x_r.cell (i := 0) rfl
    have f_r_0_w21 := x_r.frozen 0
    have c_r_1_w21 := x_r.cell (i := 1) rfl
    have f_r_1_w21 := x_r.frozen 1
    have c_r_2_w21 := x_r.cell (i := 2) rfl
    have f_r_2_w21 := x_r.frozen 2
    have c_r_3_w21 := x_r.cell (i := 3) rfl
    have f_r_3_w21 := x_r.frozen 3
    have c_r_4_w21 := x_r.cell (i := 4) rfl
    have f_r_4_w21 := x_r.frozen 4
    have c_o_0_w21 := x_o.cell (i := 0) rfl
    have f_o_0_w21 := x_o.frozen 0
    have c_o_1_w21 := x_o.cell (i := 1) rfl
    have f_o_1_w21 := x_o.frozen 1
    have c_o_2_w21 := x_o.cell (i := 2) rfl
    have f_o_2_w21 := x_o.frozen 2
    have c_o_3_w21 := x_o.cell (i := 3) rfl
    have f_o_3_w21 := x_o.frozen 3
    have c_o_4_w21 := x_o.cell (i := 4) rfl
    have f_o_4_w21 := x_o.frozen 4
    have c_m_0_w21 := x_m.cell (i := 0) rfl
    have f_m_0_w21 := x_m.frozen 0
    have c_m_1_w21 := x_m.cell (i := 1) rfl
    have f_m_1_w21 := x_m.frozen 1
    by_cases hD : y.Node = d
    case pos =>
      have gD : (y.Node == d) = true := by simpa using hD
      have HB9 : Hid (acctRepB a d x = false) := by show _ = _; rw [HB8.out, show hasRep a.Reps d = true from hasRep_get.2 ⟨k, hlt, by rw [repG_of hye]; exact hD⟩]; rfl
      have HM : Hid (acctRep a d x n = acctZ) := if_neg (by rw [HB9.out]; decide)
      clear hD hye
      have i_r_0 := x_r.same (i := 0) rfl
      have i_r_1 := x_r.same (i := 1) rfl
      have i_r_2 := x_r.same (i := 2) rfl
      have i_r_3 := x_r.same (i := 3) rfl
      have i_r_4 := x_r.same (i := 4) rfl
      go_wp2
      refine ret_cell_tmp (by rfl) (by rfl) x_r Try.underlying27 sz_acct (by rfl) ?_
      rw [HM.out, HB9.out]
      exact ⟨_, rfl, ov_acctZ B_w21.size, B_w21⟩
    have gD : (y.Node == d) = false := by simpa using hD
    have HT2 : Hid (hasRep (a.Reps.take (k + 1)) d = false) := by show _ = _; rw [hasRep_take hye, HT.out, decide_eq_false hD]; rfl
    clear hD
    rcases hq : q
    case true =>
      subst hq
      have HQ : Hid (RepSt a.Reps ⟨d, x⟩ (k + 1) true (G ++ [y])) := repSt_on HST.out hye
      clear hye
      obtain ⟨w22, e_w22, s_w22, h_w22, x_t⟩ := alloc_step w21 57 [.int .i64 y.Node, .int .i64 y.Amt]
      have s_w22_1 := Nat.le_of_eq s_w22
      have s_w22_2 := Nat.le_of_eq s_w22.symm
      clear s_w22
      replace x_a := x_a.from_ h_w22
      replace x_r := x_r.from_ h_w22
      replace x_o := x_o.from_ h_w22
      replace x_m := x_m.from_ h_w22
      replace oM := oM.below h_w22
      replace oG := oG.below h_w22
      have B_w22 := B_w21.trans (h_w22.mono B_w21.size)
      have hRV := x_t.rdV
      have c_a_0_w22 := x_a.cell (i := 0) rfl
      have f_a_0_w22 := x_a.frozen 0
      have c_a_1_w22 := x_a.cell (i := 1) rfl
      have f_a_1_w22 := x_a.frozen 1
      have c_a_2_w22 := x_a.cell (i := 2) rfl
      have f_a_2_w22 := x_a.frozen 2
      have c_a_3_w22 := x_a.cell (i := 3) rfl
      have f_a_3_w22 := x_a.frozen 3
      have c_a_4_w22 := x_a.cell (i := 4) rfl
      have f_a_4_w22 := x_a.frozen 4
      have c_r_0_w22 := x_r.cell (i := 0) rfl
      have f_r_0_w22 := x_r.frozen 0
      have c_r_1_w22 := x_r.cell (i := 1) rfl
      have f_r_1_w22 := x_r.frozen 1
      have c_r_2_w22 := x_r.cell (i := 2) rfl
      have f_r_2_w22 := x_r.frozen 2
      have c_r_3_w22 := x_r.cell (i := 3) rfl
      have f_r_3_w22 := x_r.frozen 3
      have c_r_4_w22 := x_r.cell (i := 4) rfl
      have f_r_4_w22 := x_r.frozen 4
      have c_o_0_w22 := x_o.cell (i := 0) rfl
      have f_o_0_w22 := x_o.frozen 0
      have c_o_1_w22 := x_o.cell (i := 1) rfl
      have f_o_1_w22 := x_o.frozen 1
      have c_o_2_w22 := x_o.cell (i := 2) rfl
      have f_o_2_w22 := x_o.frozen 2
      have c_o_3_w22 := x_o.cell (i := 3) rfl
      have f_o_3_w22 := x_o.frozen 3
      have c_o_4_w22 := x_o.cell (i := 4) rfl
      have f_o_4_w22 := x_o.frozen 4
      have c_m_0_w22 := x_m.cell (i := 0) rfl
      have f_m_0_w22 := x_m.frozen 0
      have c_m_1_w22 := x_m.cell (i := 1) rfl
      have f_m_1_w22 := x_m.frozen 1
      obtain ⟨ys, R, hback⟩ := OV.app_grow own_rep_nil oG (cs := [.int .i64 y.Node, .int .i64 y.Amt]) rfl (fun w => own_rep w y) (by omega)
      go_wp2_with (at_builtin; refine wpl_appN _ rfl (.tmp 61) (.tmp 63) 25 rfl 0 2 57 j0 (.agg #[.int .i64 0, .int .i64 0]) 16 Try.underlying25 hj yz0 yz1 yz2 rfl (by decide) _ G.length ys rfl R _ _ _ 1 [.int .i64 y.Node, .int .i64 y.Amt] rfl rfl hRV ?d0 ?d1 (by decide) (Nat.zero_le _) ?_)
      case d0 => first | exact ⟨rfl, rfl⟩ | (intro u hu; simp only [List.mem_cons, List.not_mem_nil, or_false] at hu; rcases hu with rfl | rfl <;> rfl)
      case d1 => omega
      intro v6 w23 ho6 hg6 hat6
      obtain ⟨h_w23, oG2⟩ := hback v6 w23 ho6 hg6 hat6
      clear hback R ho6 hg6 hat6 hRV x_t oG
      obtain ⟨G9, hG9⟩ : ∃ X, G ++ [y] = X := ⟨_, rfl⟩
      have lG9_1 : G9.length ≤ G.length + 1 := by rw [← hG9]; simp
      rw [hG9] at oG2
      have HG9 := Lib.hid hG9
      clear hG9
      obtain ⟨AG9, cG9, rfl, -, -, -⟩ := rv_slice oG2.rd
      have oG := oG2
      clear oG2
      clear c_a_0_w21 f_a_0_w21 c_a_1_w21 f_a_1_w21 c_a_2_w21 f_a_2_w21 c_a_3_w21 f_a_3_w21 c_a_4_w21 f_a_4_w21 c_r_0_w21 f_r_0_w21 c_r_1_w21 f_r_1_w21 c_r_2_w21 f_r_2_w21 c_r_3_w21 f_r_3_w21 c_r_4_w21 f_r_4_w21 c_o_0_w21 f_o_0_w21 c_o_1_w21 f_o_1_w21 c_o_2_w21 f_o_2_w21 c_o_3_w21 f_o_3_w21 c_o_4_w21 f_o_4_w21 c_m_0_w21 f_m_0_w21 c_m_1_w21 f_m_1_w21 c_a_0_w22 f_a_0_w22 c_a_1_w22 f_a_1_w22 c_a_2_w22 f_a_2_w22 c_a_3_w22 f_a_3_w22 c_a_4_w22 f_a_4_w22 c_r_0_w22 f_r_0_w22 c_r_1_w22 f_r_1_w22 c_r_2_w22 f_r_2_w22 c_r_3_w22 f_r_3_w22 c_r_4_w22 f_r_4_w22 c_o_0_w22 f_o_0_w22 c_o_1_w22 f_o_1_w22 c_o_2_w22 f_o_2_w22 c_o_3_w22 f_o_3_w22 c_o_4_w22 f_o_4_w22 c_m_0_w22 f_m_0_w22 c_m_1_w22 f_m_1_w22
      replace x_a := x_a.chg h_w23 (by omega)
      replace x_r := x_r.chg h_w23 (by omega)
      replace x_o := x_o.chg h_w23 (by omega)
      replace x_m := x_m.chg h_w23 (by omega)
      replace oM := oM.chg h_w23 (by omega)
      have B_w23 := Below.chg_ B_w22 h_w23 (by omega) (by omega)
      have s_w23 := h_w23.size
      have lo_w23 := x_o.lt
      have c_a_0_w23 := x_a.cell (i := 0) rfl
      have f_a_0_w23 := x_a.frozen 0
      have c_a_1_w23 := x_a.cell (i := 1) rfl
      have f_a_1_w23 := x_a.frozen 1
      have c_a_2_w23 := x_a.cell (i := 2) rfl
      have f_a_2_w23 := x_a.frozen 2
      have c_a_3_w23 := x_a.cell (i := 3) rfl
      have f_a_3_w23 := x_a.frozen 3
      have c_a_4_w23 := x_a.cell (i := 4) rfl
      have f_a_4_w23 := x_a.frozen 4
      have c_r_0_w23 := x_r.cell (i := 0) rfl
      have f_r_0_w23 := x_r.frozen 0
      have c_r_1_w23 := x_r.cell (i := 1) rfl
      have f_r_1_w23 := x_r.frozen 1
      have c_r_2_w23 := x_r.cell (i := 2) rfl
      have f_r_2_w23 := x_r.frozen 2
      have c_r_3_w23 := x_r.cell (i := 3) rfl
      have f_r_3_w23 := x_r.frozen 3
      have c_r_4_w23 := x_r.cell (i := 4) rfl
      have f_r_4_w23 := x_r.frozen 4
      have c_o_0_w23 := x_o.cell (i := 0) rfl
      have f_o_0_w23 := x_o.frozen 0
      have c_o_1_w23 := x_o.cell (i := 1) rfl
      have f_o_1_w23 := x_o.frozen 1
      have c_o_2_w23 := x_o.cell (i := 2) rfl
      have f_o_2_w23 := x_o.frozen 2
      have c_o_3_w23 := x_o.cell (i := 3) rfl
      have f_o_3_w23 := x_o.frozen 3
      have c_o_4_w23 := x_o.cell (i := 4) rfl
      have f_o_4_w23 := x_o.frozen 4
      have c_m_0_w23 := x_m.cell (i := 0) rfl
      have f_m_0_w23 := x_m.frozen 0
      have c_m_1_w23 := x_m.cell (i := 1) rfl
      have f_m_1_w23 := x_m.frozen 1
      obtain ⟨w24, e_w24, s_w24, h_w24, y⟩ := set_step x_o 4 (.slice AG9 G9.length cG9)
      have s_w24_1 := Nat.le_of_eq s_w24
      have s_w24_2 := Nat.le_of_eq s_w24.symm
      clear s_w24
      replace x_a := x_a.chg h_w24 (by omega)
      replace x_r := x_r.chg h_w24 (by omega)
      replace x_m := x_m.chg h_w24 (by omega)
      replace oM := oM.chg h_w24 (by omega)
      replace oG := oG.chg h_w24 (by omega)
      have B_w24 := Below.chg_ B_w23 h_w24 (by omega) (by omega)
      replace x_o : Vr w24 (w1.heap.size) 27 [.int .i64 a.Have, .int .i64 a.State, .int .i64 a.By, .slice A1 a.Marks.length c1, .slice AG9 G9.length cG9] := y
      clear y
      have c_a_0_w24 := x_a.cell (i := 0) rfl
      have f_a_0_w24 := x_a.frozen 0
      have c_a_1_w24 := x_a.cell (i := 1) rfl
      have f_a_1_w24 := x_a.frozen 1
      have c_a_2_w24 := x_a.cell (i := 2) rfl
      have f_a_2_w24 := x_a.frozen 2
      have c_a_3_w24 := x_a.cell (i := 3) rfl
      have f_a_3_w24 := x_a.frozen 3
      have c_a_4_w24 := x_a.cell (i := 4) rfl
      have f_a_4_w24 := x_a.frozen 4
      have c_r_0_w24 := x_r.cell (i := 0) rfl
      have f_r_0_w24 := x_r.frozen 0
      have c_r_1_w24 := x_r.cell (i := 1) rfl
      have f_r_1_w24 := x_r.frozen 1
      have c_r_2_w24 := x_r.cell (i := 2) rfl
      have f_r_2_w24 := x_r.frozen 2
      have c_r_3_w24 := x_r.cell (i := 3) rfl
      have f_r_3_w24 := x_r.frozen 3
      have c_r_4_w24 := x_r.cell (i := 4) rfl
      have f_r_4_w24 := x_r.frozen 4
      have c_o_0_w24 := x_o.cell (i := 0) rfl
      have f_o_0_w24 := x_o.frozen 0
      have c_o_1_w24 := x_o.cell (i := 1) rfl
      have f_o_1_w24 := x_o.frozen 1
      have c_o_2_w24 := x_o.cell (i := 2) rfl
      have f_o_2_w24 := x_o.frozen 2
      have c_o_3_w24 := x_o.cell (i := 3) rfl
      have f_o_3_w24 := x_o.frozen 3
      have c_o_4_w24 := x_o.cell (i := 4) rfl
      have f_o_4_w24 := x_o.frozen 4
      have c_m_0_w24 := x_m.cell (i := 0) rfl
      have f_m_0_w24 := x_m.frozen 0
      have c_m_1_w24 := x_m.cell (i := 1) rfl
      have f_m_1_w24 := x_m.frozen 1
      rw [HG9.out] at HQ
      go_wp2
      go_roundw
      case rel => exact ⟨k + 1, _, G9, _, _, by omega, by go_num, rfl, HQ, by omega, HT2, x_a, x_r, x_o, oM, oG.widen (Nat.le_refl _) (by omega) (Nat.le_refl _), B_w24⟩
      case measure => simp [intOf]; omega
    case false =>
    subst hq
    by_cases hdy : d < y.Node
    case neg =>
      have gd : decide (d < y.Node) = false := decide_eq_false hdy
      have HQ : Hid (RepSt a.Reps ⟨d, x⟩ (k + 1) false (G ++ [y])) := repSt_low HST.out hye hdy
      clear hye hdy
      obtain ⟨w22, e_w22, s_w22, h_w22, x_t⟩ := alloc_step w21 57 [.int .i64 y.Node, .int .i64 y.Amt]
      have s_w22_1 := Nat.le_of_eq s_w22
      have s_w22_2 := Nat.le_of_eq s_w22.symm
      clear s_w22
      replace x_a := x_a.from_ h_w22
      replace x_r := x_r.from_ h_w22
      replace x_o := x_o.from_ h_w22
      replace x_m := x_m.from_ h_w22
      replace oM := oM.below h_w22
      replace oG := oG.below h_w22
      have B_w22 := B_w21.trans (h_w22.mono B_w21.size)
      have hRV := x_t.rdV
      have c_a_0_w22 := x_a.cell (i := 0) rfl
      have f_a_0_w22 := x_a.frozen 0
      have c_a_1_w22 := x_a.cell (i := 1) rfl
      have f_a_1_w22 := x_a.frozen 1
      have c_a_2_w22 := x_a.cell (i := 2) rfl
      have f_a_2_w22 := x_a.frozen 2
      have c_a_3_w22 := x_a.cell (i := 3) rfl
      have f_a_3_w22 := x_a.frozen 3
      have c_a_4_w22 := x_a.cell (i := 4) rfl
      have f_a_4_w22 := x_a.frozen 4
      have c_r_0_w22 := x_r.cell (i := 0) rfl
      have f_r_0_w22 := x_r.frozen 0
      have c_r_1_w22 := x_r.cell (i := 1) rfl
      have f_r_1_w22 := x_r.frozen 1
      have c_r_2_w22 := x_r.cell (i := 2) rfl
      have f_r_2_w22 := x_r.frozen 2
      have c_r_3_w22 := x_r.cell (i := 3) rfl
      have f_r_3_w22 := x_r.frozen 3
      have c_r_4_w22 := x_r.cell (i := 4) rfl
      have f_r_4_w22 := x_r.frozen 4
      have c_o_0_w22 := x_o.cell (i := 0) rfl
      have f_o_0_w22 := x_o.frozen 0
      have c_o_1_w22 := x_o.cell (i := 1) rfl
      have f_o_1_w22 := x_o.frozen 1
      have c_o_2_w22 := x_o.cell (i := 2) rfl
      have f_o_2_w22 := x_o.frozen 2
      have c_o_3_w22 := x_o.cell (i := 3) rfl
      have f_o_3_w22 := x_o.frozen 3
      have c_o_4_w22 := x_o.cell (i := 4) rfl
      have f_o_4_w22 := x_o.frozen 4
      have c_m_0_w22 := x_m.cell (i := 0) rfl
      have f_m_0_w22 := x_m.frozen 0
      have c_m_1_w22 := x_m.cell (i := 1) rfl
      have f_m_1_w22 := x_m.frozen 1
      obtain ⟨ys, R, hback⟩ := OV.app_grow own_rep_nil oG (cs := [.int .i64 y.Node, .int .i64 y.Amt]) rfl (fun w => own_rep w y) (by omega)
      go_wp2_with (at_builtin; refine wpl_appN _ rfl (.tmp 61) (.tmp 63) 25 rfl 0 2 57 j0 (.agg #[.int .i64 0, .int .i64 0]) 16 Try.underlying25 hj yz0 yz1 yz2 rfl (by decide) _ G.length ys rfl R _ _ _ 1 [.int .i64 y.Node, .int .i64 y.Amt] rfl rfl hRV ?d0 ?d1 (by decide) (Nat.zero_le _) ?_)
      case d0 => first | exact ⟨rfl, rfl⟩ | (intro u hu; simp only [List.mem_cons, List.not_mem_nil, or_false] at hu; rcases hu with rfl | rfl <;> rfl)
      case d1 => omega
      intro v6 w23 ho6 hg6 hat6
      obtain ⟨h_w23, oG2⟩ := hback v6 w23 ho6 hg6 hat6
      clear hback R ho6 hg6 hat6 hRV x_t oG
      obtain ⟨G9, hG9⟩ : ∃ X, G ++ [y] = X := ⟨_, rfl⟩
      have lG9_1 : G9.length ≤ G.length + 1 := by rw [← hG9]; simp
      rw [hG9] at oG2
      have HG9 := Lib.hid hG9
      clear hG9
      obtain ⟨AG9, cG9, rfl, -, -, -⟩ := rv_slice oG2.rd
      have oG := oG2
      clear oG2
      clear c_a_0_w21 f_a_0_w21 c_a_1_w21 f_a_1_w21 c_a_2_w21 f_a_2_w21 c_a_3_w21 f_a_3_w21 c_a_4_w21 f_a_4_w21 c_r_0_w21 f_r_0_w21 c_r_1_w21 f_r_1_w21 c_r_2_w21 f_r_2_w21 c_r_3_w21 f_r_3_w21 c_r_4_w21 f_r_4_w21 c_o_0_w21 f_o_0_w21 c_o_1_w21 f_o_1_w21 c_o_2_w21 f_o_2_w21 c_o_3_w21 f_o_3_w21 c_o_4_w21 f_o_4_w21 c_m_0_w21 f_m_0_w21 c_m_1_w21 f_m_1_w21 c_a_0_w22 f_a_0_w22 c_a_1_w22 f_a_1_w22 c_a_2_w22 f_a_2_w22 c_a_3_w22 f_a_3_w22 c_a_4_w22 f_a_4_w22 c_r_0_w22 f_r_0_w22 c_r_1_w22 f_r_1_w22 c_r_2_w22 f_r_2_w22 c_r_3_w22 f_r_3_w22 c_r_4_w22 f_r_4_w22 c_o_0_w22 f_o_0_w22 c_o_1_w22 f_o_1_w22 c_o_2_w22 f_o_2_w22 c_o_3_w22 f_o_3_w22 c_o_4_w22 f_o_4_w22 c_m_0_w22 f_m_0_w22 c_m_1_w22 f_m_1_w22
      replace x_a := x_a.chg h_w23 (by omega)
      replace x_r := x_r.chg h_w23 (by omega)
      replace x_o := x_o.chg h_w23 (by omega)
      replace x_m := x_m.chg h_w23 (by omega)
      replace oM := oM.chg h_w23 (by omega)
      have B_w23 := Below.chg_ B_w22 h_w23 (by omega) (by omega)
      have s_w23 := h_w23.size
      have lo_w23 := x_o.lt
      have c_a_0_w23 := x_a.cell (i := 0) rfl
      have f_a_0_w23 := x_a.frozen 0
      have c_a_1_w23 := x_a.cell (i := 1) rfl
      have f_a_1_w23 := x_a.frozen 1
      have c_a_2_w23 := x_a.cell (i := 2) rfl
      have f_a_2_w23 := x_a.frozen 2
      have c_a_3_w23 := x_a.cell (i := 3) rfl
      have f_a_3_w23 := x_a.frozen 3
      have c_a_4_w23 := x_a.cell (i := 4) rfl
      have f_a_4_w23 := x_a.frozen 4
      have c_r_0_w23 := x_r.cell (i := 0) rfl
      have f_r_0_w23 := x_r.frozen 0
      have c_r_1_w23 := x_r.cell (i := 1) rfl
      have f_r_1_w23 := x_r.frozen 1
      have c_r_2_w23 := x_r.cell (i := 2) rfl
      have f_r_2_w23 := x_r.frozen 2
      have c_r_3_w23 := x_r.cell (i := 3) rfl
      have f_r_3_w23 := x_r.frozen 3
      have c_r_4_w23 := x_r.cell (i := 4) rfl
      have f_r_4_w23 := x_r.frozen 4
      have c_o_0_w23 := x_o.cell (i := 0) rfl
      have f_o_0_w23 := x_o.frozen 0
      have c_o_1_w23 := x_o.cell (i := 1) rfl
      have f_o_1_w23 := x_o.frozen 1
      have c_o_2_w23 := x_o.cell (i := 2) rfl
      have f_o_2_w23 := x_o.frozen 2
      have c_o_3_w23 := x_o.cell (i := 3) rfl
      have f_o_3_w23 := x_o.frozen 3
      have c_o_4_w23 := x_o.cell (i := 4) rfl
      have f_o_4_w23 := x_o.frozen 4
      have c_m_0_w23 := x_m.cell (i := 0) rfl
      have f_m_0_w23 := x_m.frozen 0
      have c_m_1_w23 := x_m.cell (i := 1) rfl
      have f_m_1_w23 := x_m.frozen 1
      obtain ⟨w24, e_w24, s_w24, h_w24, y⟩ := set_step x_o 4 (.slice AG9 G9.length cG9)
      have s_w24_1 := Nat.le_of_eq s_w24
      have s_w24_2 := Nat.le_of_eq s_w24.symm
      clear s_w24
      replace x_a := x_a.chg h_w24 (by omega)
      replace x_r := x_r.chg h_w24 (by omega)
      replace x_m := x_m.chg h_w24 (by omega)
      replace oM := oM.chg h_w24 (by omega)
      replace oG := oG.chg h_w24 (by omega)
      have B_w24 := Below.chg_ B_w23 h_w24 (by omega) (by omega)
      replace x_o : Vr w24 (w1.heap.size) 27 [.int .i64 a.Have, .int .i64 a.State, .int .i64 a.By, .slice A1 a.Marks.length c1, .slice AG9 G9.length cG9] := y
      clear y
      have c_a_0_w24 := x_a.cell (i := 0) rfl
      have f_a_0_w24 := x_a.frozen 0
      have c_a_1_w24 := x_a.cell (i := 1) rfl
      have f_a_1_w24 := x_a.frozen 1
      have c_a_2_w24 := x_a.cell (i := 2) rfl
      have f_a_2_w24 := x_a.frozen 2
      have c_a_3_w24 := x_a.cell (i := 3) rfl
      have f_a_3_w24 := x_a.frozen 3
      have c_a_4_w24 := x_a.cell (i := 4) rfl
      have f_a_4_w24 := x_a.frozen 4
      have c_r_0_w24 := x_r.cell (i := 0) rfl
      have f_r_0_w24 := x_r.frozen 0
      have c_r_1_w24 := x_r.cell (i := 1) rfl
      have f_r_1_w24 := x_r.frozen 1
      have c_r_2_w24 := x_r.cell (i := 2) rfl
      have f_r_2_w24 := x_r.frozen 2
      have c_r_3_w24 := x_r.cell (i := 3) rfl
      have f_r_3_w24 := x_r.frozen 3
      have c_r_4_w24 := x_r.cell (i := 4) rfl
      have f_r_4_w24 := x_r.frozen 4
      have c_o_0_w24 := x_o.cell (i := 0) rfl
      have f_o_0_w24 := x_o.frozen 0
      have c_o_1_w24 := x_o.cell (i := 1) rfl
      have f_o_1_w24 := x_o.frozen 1
      have c_o_2_w24 := x_o.cell (i := 2) rfl
      have f_o_2_w24 := x_o.frozen 2
      have c_o_3_w24 := x_o.cell (i := 3) rfl
      have f_o_3_w24 := x_o.frozen 3
      have c_o_4_w24 := x_o.cell (i := 4) rfl
      have f_o_4_w24 := x_o.frozen 4
      have c_m_0_w24 := x_m.cell (i := 0) rfl
      have f_m_0_w24 := x_m.frozen 0
      have c_m_1_w24 := x_m.cell (i := 1) rfl
      have f_m_1_w24 := x_m.frozen 1
      rw [HG9.out] at HQ
      go_wp2
      go_roundw
      case rel => exact ⟨k + 1, _, G9, _, _, by omega, by go_num, rfl, HQ, by omega, HT2, x_a, x_r, x_o, oM, oG.widen (Nat.le_refl _) (by omega) (Nat.le_refl _), B_w24⟩
      case measure => simp [intOf]; omega
    have lG0 := repSt_len HST.out
    have gd : decide (d < y.Node) = true := decide_eq_true hdy
    have HQ : Hid (RepSt a.Reps ⟨d, x⟩ (k + 1) true (G ++ [⟨d, x⟩] ++ [y])) := repSt_put HST.out hye hdy
    clear hye hdy
    obtain ⟨w22, e_w22, s_w22, h_w22, x_t⟩ := alloc_step w21 57 [.int .i64 d, .int .i64 x]
    have s_w22_1 := Nat.le_of_eq s_w22
    have s_w22_2 := Nat.le_of_eq s_w22.symm
    clear s_w22
    replace x_a := x_a.from_ h_w22
    replace x_r := x_r.from_ h_w22
    replace x_o := x_o.from_ h_w22
    replace x_m := x_m.from_ h_w22
    replace oM := oM.below h_w22
    replace oG := oG.below h_w22
    have B_w22 := B_w21.trans (h_w22.mono B_w21.size)
    have hRV := x_t.rdV
    have c_a_0_w22 := x_a.cell (i := 0) rfl
    have f_a_0_w22 := x_a.frozen 0
    have c_a_1_w22 := x_a.cell (i := 1) rfl
    have f_a_1_w22 := x_a.frozen 1
    have c_a_2_w22 := x_a.cell (i := 2) rfl
    have f_a_2_w22 := x_a.frozen 2
    have c_a_3_w22 := x_a.cell (i := 3) rfl
    have f_a_3_w22 := x_a.frozen 3
    have c_a_4_w22 := x_a.cell (i := 4) rfl
    have f_a_4_w22 := x_a.frozen 4
    have c_r_0_w22 := x_r.cell (i := 0) rfl
    have f_r_0_w22 := x_r.frozen 0
    have c_r_1_w22 := x_r.cell (i := 1) rfl
    have f_r_1_w22 := x_r.frozen 1
    have c_r_2_w22 := x_r.cell (i := 2) rfl
    have f_r_2_w22 := x_r.frozen 2
    have c_r_3_w22 := x_r.cell (i := 3) rfl
    have f_r_3_w22 := x_r.frozen 3
    have c_r_4_w22 := x_r.cell (i := 4) rfl
    have f_r_4_w22 := x_r.frozen 4
    have c_o_0_w22 := x_o.cell (i := 0) rfl
    have f_o_0_w22 := x_o.frozen 0
    have c_o_1_w22 := x_o.cell (i := 1) rfl
    have f_o_1_w22 := x_o.frozen 1
    have c_o_2_w22 := x_o.cell (i := 2) rfl
    have f_o_2_w22 := x_o.frozen 2
    have c_o_3_w22 := x_o.cell (i := 3) rfl
    have f_o_3_w22 := x_o.frozen 3
    have c_o_4_w22 := x_o.cell (i := 4) rfl
    have f_o_4_w22 := x_o.frozen 4
    have c_m_0_w22 := x_m.cell (i := 0) rfl
    have f_m_0_w22 := x_m.frozen 0
    have c_m_1_w22 := x_m.cell (i := 1) rfl
    have f_m_1_w22 := x_m.frozen 1
    obtain ⟨ys, R, hback⟩ := OV.app_grow own_rep_nil oG (cs := [.int .i64 d, .int .i64 x]) rfl (fun w => own_rep w ⟨d, x⟩) (by omega)
    go_wp2_with (at_builtin; refine wpl_appN _ rfl (.tmp 53) (.tmp 57) 25 rfl 0 2 57 j0 (.agg #[.int .i64 0, .int .i64 0]) 16 Try.underlying25 hj yz0 yz1 yz2 rfl (by decide) _ G.length ys rfl R _ _ _ 1 [.int .i64 d, .int .i64 x] rfl rfl hRV ?d0 ?d1 (by decide) (Nat.zero_le _) ?_)
    case d0 => first | exact ⟨rfl, rfl⟩ | (intro u hu; simp only [List.mem_cons, List.not_mem_nil, or_false] at hu; rcases hu with rfl | rfl <;> rfl)
    case d1 => omega
    intro v6 w23 ho6 hg6 hat6
    obtain ⟨h_w23, oG2⟩ := hback v6 w23 ho6 hg6 hat6
    clear hback R ho6 hg6 hat6 hRV x_t oG
    obtain ⟨G8, hG8⟩ : ∃ X, G ++ [⟨d, x⟩] = X := ⟨_, rfl⟩
    have lG8_1 : G8.length ≤ G.length + 1 := by rw [← hG8]; simp
    rw [hG8] at oG2
    have HG8 := Lib.hid hG8
    clear hG8
    obtain ⟨AG8, cG8, rfl, -, -, -⟩ := rv_slice oG2.rd
    have oG := oG2
    clear oG2
    clear c_a_0_w21 f_a_0_w21 c_a_1_w21 f_a_1_w21 c_a_2_w21 f_a_2_w21 c_a_3_w21 f_a_3_w21 c_a_4_w21 f_a_4_w21 c_r_0_w21 f_r_0_w21 c_r_1_w21 f_r_1_w21 c_r_2_w21 f_r_2_w21 c_r_3_w21 f_r_3_w21 c_r_4_w21 f_r_4_w21 c_o_0_w21 f_o_0_w21 c_o_1_w21 f_o_1_w21 c_o_2_w21 f_o_2_w21 c_o_3_w21 f_o_3_w21 c_o_4_w21 f_o_4_w21 c_m_0_w21 f_m_0_w21 c_m_1_w21 f_m_1_w21 c_a_0_w22 f_a_0_w22 c_a_1_w22 f_a_1_w22 c_a_2_w22 f_a_2_w22 c_a_3_w22 f_a_3_w22 c_a_4_w22 f_a_4_w22 c_r_0_w22 f_r_0_w22 c_r_1_w22 f_r_1_w22 c_r_2_w22 f_r_2_w22 c_r_3_w22 f_r_3_w22 c_r_4_w22 f_r_4_w22 c_o_0_w22 f_o_0_w22 c_o_1_w22 f_o_1_w22 c_o_2_w22 f_o_2_w22 c_o_3_w22 f_o_3_w22 c_o_4_w22 f_o_4_w22 c_m_0_w22 f_m_0_w22 c_m_1_w22 f_m_1_w22
    replace x_a := x_a.chg h_w23 (by omega)
    replace x_r := x_r.chg h_w23 (by omega)
    replace x_o := x_o.chg h_w23 (by omega)
    replace x_m := x_m.chg h_w23 (by omega)
    replace oM := oM.chg h_w23 (by omega)
    have B_w23 := Below.chg_ B_w22 h_w23 (by omega) (by omega)
    have s_w23 := h_w23.size
    have lo_w23 := x_o.lt
    have c_a_0_w23 := x_a.cell (i := 0) rfl
    have f_a_0_w23 := x_a.frozen 0
    have c_a_1_w23 := x_a.cell (i := 1) rfl
    have f_a_1_w23 := x_a.frozen 1
    have c_a_2_w23 := x_a.cell (i := 2) rfl
    have f_a_2_w23 := x_a.frozen 2
    have c_a_3_w23 := x_a.cell (i := 3) rfl
    have f_a_3_w23 := x_a.frozen 3
    have c_a_4_w23 := x_a.cell (i := 4) rfl
    have f_a_4_w23 := x_a.frozen 4
    have c_r_0_w23 := x_r.cell (i := 0) rfl
    have f_r_0_w23 := x_r.frozen 0
    have c_r_1_w23 := x_r.cell (i := 1) rfl
    have f_r_1_w23 := x_r.frozen 1
    have c_r_2_w23 := x_r.cell (i := 2) rfl
    have f_r_2_w23 := x_r.frozen 2
    have c_r_3_w23 := x_r.cell (i := 3) rfl
    have f_r_3_w23 := x_r.frozen 3
    have c_r_4_w23 := x_r.cell (i := 4) rfl
    have f_r_4_w23 := x_r.frozen 4
    have c_o_0_w23 := x_o.cell (i := 0) rfl
    have f_o_0_w23 := x_o.frozen 0
    have c_o_1_w23 := x_o.cell (i := 1) rfl
    have f_o_1_w23 := x_o.frozen 1
    have c_o_2_w23 := x_o.cell (i := 2) rfl
    have f_o_2_w23 := x_o.frozen 2
    have c_o_3_w23 := x_o.cell (i := 3) rfl
    have f_o_3_w23 := x_o.frozen 3
    have c_o_4_w23 := x_o.cell (i := 4) rfl
    have f_o_4_w23 := x_o.frozen 4
    have c_m_0_w23 := x_m.cell (i := 0) rfl
    have f_m_0_w23 := x_m.frozen 0
    have c_m_1_w23 := x_m.cell (i := 1) rfl
    have f_m_1_w23 := x_m.frozen 1
    obtain ⟨w24, e_w24, s_w24, h_w24, y⟩ := set_step x_o 4 (.slice AG8 G8.length cG8)
    have s_w24_1 := Nat.le_of_eq s_w24
    have s_w24_2 := Nat.le_of_eq s_w24.symm
    clear s_w24
    replace x_a := x_a.chg h_w24 (by omega)
    replace x_r := x_r.chg h_w24 (by omega)
    replace x_m := x_m.chg h_w24 (by omega)
    replace oM := oM.chg h_w24 (by omega)
    replace oG := oG.chg h_w24 (by omega)
    have B_w24 := Below.chg_ B_w23 h_w24 (by omega) (by omega)
    replace x_o : Vr w24 (w1.heap.size) 27 [.int .i64 a.Have, .int .i64 a.State, .int .i64 a.By, .slice A1 a.Marks.length c1, .slice AG8 G8.length cG8] := y
    clear y
    have c_a_0_w24 := x_a.cell (i := 0) rfl
    have f_a_0_w24 := x_a.frozen 0
    have c_a_1_w24 := x_a.cell (i := 1) rfl
    have f_a_1_w24 := x_a.frozen 1
    have c_a_2_w24 := x_a.cell (i := 2) rfl
    have f_a_2_w24 := x_a.frozen 2
    have c_a_3_w24 := x_a.cell (i := 3) rfl
    have f_a_3_w24 := x_a.frozen 3
    have c_a_4_w24 := x_a.cell (i := 4) rfl
    have f_a_4_w24 := x_a.frozen 4
    have c_r_0_w24 := x_r.cell (i := 0) rfl
    have f_r_0_w24 := x_r.frozen 0
    have c_r_1_w24 := x_r.cell (i := 1) rfl
    have f_r_1_w24 := x_r.frozen 1
    have c_r_2_w24 := x_r.cell (i := 2) rfl
    have f_r_2_w24 := x_r.frozen 2
    have c_r_3_w24 := x_r.cell (i := 3) rfl
    have f_r_3_w24 := x_r.frozen 3
    have c_r_4_w24 := x_r.cell (i := 4) rfl
    have f_r_4_w24 := x_r.frozen 4
    have c_o_0_w24 := x_o.cell (i := 0) rfl
    have f_o_0_w24 := x_o.frozen 0
    have c_o_1_w24 := x_o.cell (i := 1) rfl
    have f_o_1_w24 := x_o.frozen 1
    have c_o_2_w24 := x_o.cell (i := 2) rfl
    have f_o_2_w24 := x_o.frozen 2
    have c_o_3_w24 := x_o.cell (i := 3) rfl
    have f_o_3_w24 := x_o.frozen 3
    have c_o_4_w24 := x_o.cell (i := 4) rfl
    have f_o_4_w24 := x_o.frozen 4
    have c_m_0_w24 := x_m.cell (i := 0) rfl
    have f_m_0_w24 := x_m.frozen 0
    have c_m_1_w24 := x_m.cell (i := 1) rfl
    have f_m_1_w24 := x_m.frozen 1
    rw [HG8.out] at HQ
    obtain ⟨w25, e_w25, s_w25, h_w25, x_t⟩ := alloc_step w24 57 [.int .i64 y.Node, .int .i64 y.Amt]
    have s_w25_1 := Nat.le_of_eq s_w25
    have s_w25_2 := Nat.le_of_eq s_w25.symm
    clear s_w25
    replace x_a := x_a.from_ h_w25
    replace x_r := x_r.from_ h_w25
    replace x_o := x_o.from_ h_w25
    replace x_m := x_m.from_ h_w25
    replace oM := oM.below h_w25
    replace oG := oG.below h_w25
    have B_w25 := B_w24.trans (h_w25.mono B_w24.size)
    have hRV := x_t.rdV
    have c_a_0_w25 := x_a.cell (i := 0) rfl
    have f_a_0_w25 := x_a.frozen 0
    have c_a_1_w25 := x_a.cell (i := 1) rfl
    have f_a_1_w25 := x_a.frozen 1
    have c_a_2_w25 := x_a.cell (i := 2) rfl
    have f_a_2_w25 := x_a.frozen 2
    have c_a_3_w25 := x_a.cell (i := 3) rfl
    have f_a_3_w25 := x_a.frozen 3
    have c_a_4_w25 := x_a.cell (i := 4) rfl
    have f_a_4_w25 := x_a.frozen 4
    have c_r_0_w25 := x_r.cell (i := 0) rfl
    have f_r_0_w25 := x_r.frozen 0
    have c_r_1_w25 := x_r.cell (i := 1) rfl
    have f_r_1_w25 := x_r.frozen 1
    have c_r_2_w25 := x_r.cell (i := 2) rfl
    have f_r_2_w25 := x_r.frozen 2
    have c_r_3_w25 := x_r.cell (i := 3) rfl
    have f_r_3_w25 := x_r.frozen 3
    have c_r_4_w25 := x_r.cell (i := 4) rfl
    have f_r_4_w25 := x_r.frozen 4
    have c_o_0_w25 := x_o.cell (i := 0) rfl
    have f_o_0_w25 := x_o.frozen 0
    have c_o_1_w25 := x_o.cell (i := 1) rfl
    have f_o_1_w25 := x_o.frozen 1
    have c_o_2_w25 := x_o.cell (i := 2) rfl
    have f_o_2_w25 := x_o.frozen 2
    have c_o_3_w25 := x_o.cell (i := 3) rfl
    have f_o_3_w25 := x_o.frozen 3
    have c_o_4_w25 := x_o.cell (i := 4) rfl
    have f_o_4_w25 := x_o.frozen 4
    have c_m_0_w25 := x_m.cell (i := 0) rfl
    have f_m_0_w25 := x_m.frozen 0
    have c_m_1_w25 := x_m.cell (i := 1) rfl
    have f_m_1_w25 := x_m.frozen 1
    obtain ⟨ys, R, hback⟩ := OV.app_grow own_rep_nil oG (cs := [.int .i64 y.Node, .int .i64 y.Amt]) rfl (fun w => own_rep w y) (by omega)
    go_wp2_with (at_builtin; refine wpl_appN _ rfl (.tmp 61) (.tmp 63) 25 rfl 0 2 57 j0 (.agg #[.int .i64 0, .int .i64 0]) 16 Try.underlying25 hj yz0 yz1 yz2 rfl (by decide) _ G8.length ys rfl R _ _ _ 1 [.int .i64 y.Node, .int .i64 y.Amt] rfl rfl hRV ?d0 ?d1 (by decide) (Nat.zero_le _) ?_)
    case d0 => first | exact ⟨rfl, rfl⟩ | (intro u hu; simp only [List.mem_cons, List.not_mem_nil, or_false] at hu; rcases hu with rfl | rfl <;> rfl)
    case d1 => omega
    intro v6 w26 ho6 hg6 hat6
    obtain ⟨h_w26, oG2⟩ := hback v6 w26 ho6 hg6 hat6
    clear hback R ho6 hg6 hat6 hRV x_t oG
    obtain ⟨G9, hG9⟩ : ∃ X, G8 ++ [y] = X := ⟨_, rfl⟩
    have lG9_1 : G9.length ≤ G8.length + 1 := by rw [← hG9]; simp
    rw [hG9] at oG2
    have HG9 := Lib.hid hG9
    clear hG9
    obtain ⟨AG9, cG9, rfl, -, -, -⟩ := rv_slice oG2.rd
    have oG := oG2
    clear oG2
    clear c_a_0_w23 f_a_0_w23 c_a_1_w23 f_a_1_w23 c_a_2_w23 f_a_2_w23 c_a_3_w23 f_a_3_w23 c_a_4_w23 f_a_4_w23 c_r_0_w23 f_r_0_w23 c_r_1_w23 f_r_1_w23 c_r_2_w23 f_r_2_w23 c_r_3_w23 f_r_3_w23 c_r_4_w23 f_r_4_w23 c_o_0_w23 f_o_0_w23 c_o_1_w23 f_o_1_w23 c_o_2_w23 f_o_2_w23 c_o_3_w23 f_o_3_w23 c_o_4_w23 f_o_4_w23 c_m_0_w23 f_m_0_w23 c_m_1_w23 f_m_1_w23 c_a_0_w24 f_a_0_w24 c_a_1_w24 f_a_1_w24 c_a_2_w24 f_a_2_w24 c_a_3_w24 f_a_3_w24 c_a_4_w24 f_a_4_w24 c_r_0_w24 f_r_0_w24 c_r_1_w24 f_r_1_w24 c_r_2_w24 f_r_2_w24 c_r_3_w24 f_r_3_w24 c_r_4_w24 f_r_4_w24 c_o_0_w24 f_o_0_w24 c_o_1_w24 f_o_1_w24 c_o_2_w24 f_o_2_w24 c_o_3_w24 f_o_3_w24 c_o_4_w24 f_o_4_w24 c_m_0_w24 f_m_0_w24 c_m_1_w24 f_m_1_w24 c_a_0_w25 f_a_0_w25 c_a_1_w25 f_a_1_w25 c_a_2_w25 f_a_2_w25 c_a_3_w25 f_a_3_w25 c_a_4_w25 f_a_4_w25 c_r_0_w25 f_r_0_w25 c_r_1_w25 f_r_1_w25 c_r_2_w25 f_r_2_w25 c_r_3_w25 f_r_3_w25 c_r_4_w25 f_r_4_w25 c_o_0_w25 f_o_0_w25 c_o_1_w25 f_o_1_w25 c_o_2_w25 f_o_2_w25 c_o_3_w25 f_o_3_w25 c_o_4_w25 f_o_4_w25 c_m_0_w25 f_m_0_w25 c_m_1_w25 f_m_1_w25
    clear x_m
    replace x_a := x_a.chg h_w26 (by omega)
    replace x_r := x_r.chg h_w26 (by omega)
    replace x_o := x_o.chg h_w26 (by omega)
    replace oM := oM.chg h_w26 (by omega)
    have B_w26 := Below.chg_ B_w25 h_w26 (by omega) (by omega)
    have s_w26 := h_w26.size
    have lo_w26 := x_o.lt
    have c_a_0_w26 := x_a.cell (i := 0) rfl
    have f_a_0_w26 := x_a.frozen 0
    have c_a_1_w26 := x_a.cell (i := 1) rfl
    have f_a_1_w26 := x_a.frozen 1
    have c_a_2_w26 := x_a.cell (i := 2) rfl
    have f_a_2_w26 := x_a.frozen 2
    have c_a_3_w26 := x_a.cell (i := 3) rfl
    have f_a_3_w26 := x_a.frozen 3
    have c_a_4_w26 := x_a.cell (i := 4) rfl
    have f_a_4_w26 := x_a.frozen 4
    have c_r_0_w26 := x_r.cell (i := 0) rfl
    have f_r_0_w26 := x_r.frozen 0
    have c_r_1_w26 := x_r.cell (i := 1) rfl
    have f_r_1_w26 := x_r.frozen 1
    have c_r_2_w26 := x_r.cell (i := 2) rfl
    have f_r_2_w26 := x_r.frozen 2
    have c_r_3_w26 := x_r.cell (i := 3) rfl
    have f_r_3_w26 := x_r.frozen 3
    have c_r_4_w26 := x_r.cell (i := 4) rfl
    have f_r_4_w26 := x_r.frozen 4
    have c_o_0_w26 := x_o.cell (i := 0) rfl
    have f_o_0_w26 := x_o.frozen 0
    have c_o_1_w26 := x_o.cell (i := 1) rfl
    have f_o_1_w26 := x_o.frozen 1
    have c_o_2_w26 := x_o.cell (i := 2) rfl
    have f_o_2_w26 := x_o.frozen 2
    have c_o_3_w26 := x_o.cell (i := 3) rfl
    have f_o_3_w26 := x_o.frozen 3
    have c_o_4_w26 := x_o.cell (i := 4) rfl
    have f_o_4_w26 := x_o.frozen 4
    obtain ⟨w27, e_w27, s_w27, h_w27, y⟩ := set_step x_o 4 (.slice AG9 G9.length cG9)
    have s_w27_1 := Nat.le_of_eq s_w27
    have s_w27_2 := Nat.le_of_eq s_w27.symm
    clear s_w27
    replace x_a := x_a.chg h_w27 (by omega)
    replace x_r := x_r.chg h_w27 (by omega)
    replace oM := oM.chg h_w27 (by omega)
    replace oG := oG.chg h_w27 (by omega)
    have B_w27 := Below.chg_ B_w26 h_w27 (by omega) (by omega)
    replace x_o : Vr w27 (w1.heap.size) 27 [.int .i64 a.Have, .int .i64 a.State, .int .i64 a.By, .slice A1 a.Marks.length c1, .slice AG9 G9.length cG9] := y
    clear y
    have c_a_0_w27 := x_a.cell (i := 0) rfl
    have f_a_0_w27 := x_a.frozen 0
    have c_a_1_w27 := x_a.cell (i := 1) rfl
    have f_a_1_w27 := x_a.frozen 1
    have c_a_2_w27 := x_a.cell (i := 2) rfl
    have f_a_2_w27 := x_a.frozen 2
    have c_a_3_w27 := x_a.cell (i := 3) rfl
    have f_a_3_w27 := x_a.frozen 3
    have c_a_4_w27 := x_a.cell (i := 4) rfl
    have f_a_4_w27 := x_a.frozen 4
    have c_r_0_w27 := x_r.cell (i := 0) rfl
    have f_r_0_w27 := x_r.frozen 0
    have c_r_1_w27 := x_r.cell (i := 1) rfl
    have f_r_1_w27 := x_r.frozen 1
    have c_r_2_w27 := x_r.cell (i := 2) rfl
    have f_r_2_w27 := x_r.frozen 2
    have c_r_3_w27 := x_r.cell (i := 3) rfl
    have f_r_3_w27 := x_r.frozen 3
    have c_r_4_w27 := x_r.cell (i := 4) rfl
    have f_r_4_w27 := x_r.frozen 4
    have c_o_0_w27 := x_o.cell (i := 0) rfl
    have f_o_0_w27 := x_o.frozen 0
    have c_o_1_w27 := x_o.cell (i := 1) rfl
    have f_o_1_w27 := x_o.frozen 1
    have c_o_2_w27 := x_o.cell (i := 2) rfl
    have f_o_2_w27 := x_o.frozen 2
    have c_o_3_w27 := x_o.cell (i := 3) rfl
    have f_o_3_w27 := x_o.frozen 3
    have c_o_4_w27 := x_o.cell (i := 4) rfl
    have f_o_4_w27 := x_o.frozen 4
    rw [HG9.out] at HQ
    go_wp2
    go_roundw
    case rel => exact ⟨k + 1, _, G9, _, _, by omega, by go_num, rfl, HQ, by omega, HT2, x_a, x_r, x_o, oM, oG.widen (Nat.le_refl _) (by omega) (Nat.le_refl _), B_w27⟩
    case measure => simp [intOf]; omega

end Go.Proofs.Ytopmojfcdmcmbaa
