/- Rights: the contracts of spec.l06Done, l06May, Mint, Spend, Hand. Laid by a program of ours (src/rt3.py). -/
import Derived.Test.YtmbipgnecjlicaaRt2
import Derived.StillTailTactics
namespace Go.Proofs.Ytmbipgnecjlicaa
open Go.RowKit
set_option linter.unusedVariables false

def rZ : MRights := ⟨[], []⟩
def mayB (r : MRights) (i a : Int) : Bool := rightsOkB r && (inB i 0 ((r.Give.length : Int) - 1) && amtB a)
def setG (r : MRights) (i j : Nat) (x : Int) : MRights := ⟨r.Give.set i ((r.Give.getD i []).set j x), r.Spent⟩
def setS (r : MRights) (i : Nat) (x : Int) : MRights := ⟨r.Give, r.Spent.set i x⟩
def addG (r : MRights) (i j : Nat) (a : Int) : MRights := setG r i j (g2 r.Give i j + a)
def addS (r : MRights) (i : Nat) (a : Int) : MRights := setS r i (s1 r.Spent i + a)
def mintB (r : MRights) (i a : Int) : Bool := mayB r i a && rightsOkB (addG r i.toNat i.toNat a)
def mintM (r : MRights) (i a : Int) : MRights := if mintB r i a = true then addG r i.toNat i.toNat a else rZ
def spendB (r : MRights) (i a : Int) : Bool := mayB r i a && rightsOkB (addS r i.toNat a)
def spendM (r : MRights) (i a : Int) : MRights := if spendB r i a = true then addS r i.toNat a else rZ
def handB (r : MRights) (i j a : Int) : Bool := (mayB r i a && (mayB r j a && !decide (i = j))) && rightsOkB (addG r i.toNat j.toNat a)
def handM (r : MRights) (i j a : Int) : MRights := if handB r i j a = true then addG r i.toNat j.toNat a else rZ

theorem own_some {w : World} {T : List Nat} {u : Value} {R : List Int} (h : numsL.own w T [u] R) (hp : 0 < R.length) : ∃ b c, u = .slice (some ⟨b, 0, none⟩) R.length c ∧ T = [b] ∧ Own .i64 w 0 3 (.slice (some ⟨b, 0, none⟩) R.length c) R := by
  obtain ⟨v, e, ho, rfl⟩ := h
  obtain rfl : u = v := by simpa using e
  rcases ho.2 with ⟨_, h0⟩ | ⟨g, cap, cur, rfl, _⟩
  · omega
  · exact ⟨g, cap, rfl, rfl, ho⟩
theorem nums_set {w : World} {b c j : Nat} {R : List Int} {x : Int} (h : Own .i64 w 0 3 (.slice (some ⟨b, 0, none⟩) R.length c) R) : numsL.own (w.setCell ⟨b, j, none⟩ (.int .i64 x)) [b] [.slice (some ⟨b, 0, none⟩) R.length c] (R.set j x) :=
  ⟨_, rfl, by have := h.set_ j x; exact this, rfl⟩
theorem chgS_set {w : World} {b j : Nat} {v : Value} : ChgS [b] w (w.setCell ⟨b, j, none⟩ v) := ⟨rfl, rfl, rfl, by simp, fun k hk hd => Below.heap_setCell w ⟨b, j, none⟩ _ k (by simpa using hd)⟩
theorem chg_set {w : World} {b j lo hi : Nat} {v : Value} (h : lo ≤ b ∧ b < hi) : Chg lo hi w (w.setCell ⟨b, j, none⟩ v) := ⟨rfl, rfl, rfl, by simp, fun k hk hd => Below.heap_setCell w ⟨b, j, none⟩ _ k (by show k ≠ b; omega)⟩
/-- the parts of a value of one's own -/
theorem ov_rights_open {w : World} {lo hi : Nat} {v : Value} {r : MRights} (h : OV rightsL w lo hi v r) : ∃ u1 u2 S1 S2, v = .agg #[u1, u2] ∧ OwnL numsL 25 1 w S1 u1 r.Give ∧ numsL.own w S2 [u2] r.Spent ∧ (S1 ++ S2).Nodup ∧ (∀ j ∈ S1 ++ S2, lo ≤ j ∧ j < hi) ∧ hi ≤ w.heap.size := by
  obtain ⟨cs, S, rfl, ⟨c1, c2, S1, S2, rfl, rfl, ⟨u1, rfl, h1⟩, ⟨u2, rfl, h2, rfl⟩⟩, hn, hS, hh⟩ := h
  exact ⟨u1, u2, S1, _, rfl, h1, ⟨u2, rfl, h2, rfl⟩, hn, hS, hh⟩
theorem ov_rights_shut {w : World} {lo hi : Nat} {u1 u2 : Value} {S1 S2 : List Nat} {r : MRights} (h1 : OwnL numsL 25 1 w S1 u1 r.Give) (h2 : numsL.own w S2 [u2] r.Spent) (hn : (S1 ++ S2).Nodup) (hS : ∀ j ∈ S1 ++ S2, lo ≤ j ∧ j < hi) (hh : hi ≤ w.heap.size) : OV rightsL w lo hi (.agg #[u1, u2]) r :=
  ⟨[u1, u2], S1 ++ S2, rfl, ⟨[u1], [u2], S1, S2, rfl, rfl, ⟨u1, rfl, h1⟩, h2⟩, hn, hS, hh⟩
/-- an element of the matrix: where it lies; and it alone laid anew -/
theorem OV.setG {w : World} {lo hi i j : Nat} {v : Value} {r : MRights} {R : List Int} (h : OV rightsL w lo hi v r) (hR : r.Give[i]? = some R) (hj : j < R.length) :
    ∃ g cG u2 b c, v = .agg #[.slice (some ⟨g, 0, none⟩) r.Give.length cG, u2] ∧ w.cell? ⟨g, i, none⟩ = some (.slice (some ⟨b, 0, none⟩) R.length c) ∧ w.cell? ⟨b, j, none⟩ = some (.int .i64 (R.getD j 0)) ∧ w.frozen? ⟨b, j, none⟩ = false ∧ (lo ≤ b ∧ b < hi) ∧
      ∀ x, OV rightsL (w.setCell ⟨b, j, none⟩ (.int .i64 x)) lo hi (.agg #[.slice (some ⟨g, 0, none⟩) r.Give.length cG, u2]) ⟨r.Give.set i (R.set j x), r.Spent⟩ := by
  obtain ⟨u1, u2, S1, S2, rfl, h1, h2, hn, hS, hh⟩ := ov_rights_open h
  obtain ⟨n1, n2, d1, d2⟩ := nodup_app hn
  have hi' := getElem?_lt hR
  obtain ⟨cs, T, hcl, hcell, hox, hTS, -, hback⟩ := h1.el n1 hR
  obtain ⟨cf, sf, hrow, -⟩ := h1
  rcases hrow.2 with ⟨_, h0⟩ | ⟨g, cap, cur, rfl, _⟩
  · omega
  match cs, hcl with
  | [u], _ =>
    obtain ⟨b, c, rfl, rfl, ho⟩ := own_some hox (by omega)
    have hc := hcell g cap r.Give.length rfl 0 _ rfl
    rw [Nat.mul_one, Nat.add_zero] at hc
    have hbS := hTS b (by simp)
    refine ⟨g, cap, u2, b, c, rfl, hc, ho.cell_ hj, ho.frozen_ j, hS b (List.mem_append.2 (.inl hbS)), fun x => ?_⟩
    exact ov_rights_shut (hback _ _ (nums_set ho) chgS_set) (numsL.own_chg h2 chgS_set (fun k hk hk2 => d1 k (by rw [show k = b by simpa using hk2]; exact hbS) hk)) hn hS (by simpa using hh)
theorem OV.setS {w : World} {lo hi i : Nat} {v : Value} {r : MRights} (h : OV rightsL w lo hi v r) (hj : i < r.Spent.length) :
    ∃ u1 b c, v = .agg #[u1, .slice (some ⟨b, 0, none⟩) r.Spent.length c] ∧ w.cell? ⟨b, i, none⟩ = some (.int .i64 (r.Spent.getD i 0)) ∧ w.frozen? ⟨b, i, none⟩ = false ∧ (lo ≤ b ∧ b < hi) ∧
      ∀ x, OV rightsL (w.setCell ⟨b, i, none⟩ (.int .i64 x)) lo hi (.agg #[u1, .slice (some ⟨b, 0, none⟩) r.Spent.length c]) ⟨r.Give, r.Spent.set i x⟩ := by
  obtain ⟨u1, u2, S1, S2, rfl, h1, h2, hn, hS, hh⟩ := ov_rights_open h
  obtain ⟨n1, n2, d1, d2⟩ := nodup_app hn
  obtain ⟨b, c, rfl, rfl, ho⟩ := own_some h2 (by omega)
  refine ⟨u1, b, c, rfl, ho.cell_ hj, ho.frozen_ i, hS b (List.mem_append.2 (.inr (by simp))), fun x => ?_⟩
  exact ov_rights_shut (h1.keep fun k hk => Below.heap_setCell w ⟨b, i, none⟩ _ k (by show k ≠ b; rintro rfl; exact d1 k hk (by simp))) (nums_set ho) hn hS (by simpa using hh)
theorem ov_rZ {w : World} {lo hi : Nat} (h : hi ≤ w.heap.size) : OV rightsL w lo hi (.agg #[.slice none 0 0, .slice none 0 0]) rZ :=
  ov_rights_shut (S1 := []) (S2 := []) ownL_nil ⟨_, rfl, World.ownsRow_nil _ _ _ _, rfl⟩ (by simp) (fun j hj => by simp at hj) h

set_option maxHeartbeats 2000000 in
theorem sDone_yes {w : World} {v : Value} {r : MRights} (h : RV rightsL w v r) (hf : rightsOkB r = true) :
    Calls Try.prog 73 #[v] w fun e w' => e = .returned (.tuple #[v, .bool true]) ∧ Below w.heap.size w w' := by
  have h0 := h
  obtain ⟨AG, cG, AS, cS, rfl, hrG, hrS, lG, lS⟩ := rv_rights2 h
  clear h
  unfold maxLen at lG lS
  obtain ⟨wa, hwa, B0, sa, x_a, x_r⟩ := frame2 w 27 [.slice AG r.Give.length cG, .slice AS r.Spent.length cS] 27 [.slice none 0 0, .slice none 0 0]
  have sa_1 := Nat.le_of_eq sa
  have sa_2 := Nat.le_of_eq sa.symm
  clear sa
  have HF := Lib.hid hf
  clear hf
  have c_a_0_wa := x_a.cell (i := 0) rfl
  have f_a_0_wa := x_a.frozen 0
  have c_a_1_wa := x_a.cell (i := 1) rfl
  have f_a_1_wa := x_a.frozen 1
  have c_r_0_wa := x_r.cell (i := 0) rfl
  have f_r_0_wa := x_r.frozen 0
  have c_r_1_wa := x_r.cell (i := 1) rfl
  have f_r_1_wa := x_r.frozen 1
  go_enter Try.func73, Try.ntmps73
  go_wp2_with fail
  refine (sRightsOk_c (h0.from_ B0)).mono ?_
  rintro e w1 ⟨rfl, h_w1⟩
  clear c_a_0_wa f_a_0_wa c_a_1_wa f_a_1_wa c_r_0_wa f_r_0_wa c_r_1_wa f_r_1_wa
  replace x_a := x_a.from_ h_w1
  replace x_r := x_r.from_ h_w1
  have B_w1 := B0.trans (h_w1.mono B0.size)
  have s_w1 := h_w1.size
  rw [HF.out]
  have c_a_0_w1 := x_a.cell (i := 0) rfl
  have f_a_0_w1 := x_a.frozen 0
  have c_a_1_w1 := x_a.cell (i := 1) rfl
  have f_a_1_w1 := x_a.frozen 1
  have c_r_0_w1 := x_r.cell (i := 0) rfl
  have f_r_0_w1 := x_r.frozen 0
  have c_r_1_w1 := x_r.cell (i := 1) rfl
  have f_r_1_w1 := x_r.frozen 1
  obtain ⟨w2, e_w2, s_w2, h_w2, y⟩ := store_step x_r [.slice AG r.Give.length cG, .slice AS r.Spent.length cS] rfl
  replace e_w2 : ((w1.setCell ⟨w.heap.size + 1, 0, none⟩ (.slice AG r.Give.length cG)).setCell ⟨w.heap.size + 1, 1, none⟩ (.slice AS r.Spent.length cS)) = w2 := e_w2
  have s_w2_1 := Nat.le_of_eq s_w2
  have s_w2_2 := Nat.le_of_eq s_w2.symm
  clear s_w2
  replace x_a := x_a.chg h_w2 (by omega)
  have B_w2 := Below.chg_ B_w1 h_w2 (by omega) (by omega)
  replace x_r : Vr w2 (w.heap.size + 1) 27 [.slice AG r.Give.length cG, .slice AS r.Spent.length cS] := y
  clear y
  have c_r_0_w2 := x_r.cell (i := 0) rfl
  have f_r_0_w2 := x_r.frozen 0
  have c_r_1_w2 := x_r.cell (i := 1) rfl
  have f_r_1_w2 := x_r.frozen 1
  go_wp2
  refine ret_cell_tmp (by rfl) (by rfl) x_r Try.underlying27 sz_rights (by rfl) ?_
  exact ⟨rfl, B_w2⟩

set_option maxHeartbeats 2000000 in
theorem sDone_no {w : World} {v : Value} {r : MRights} (h : RV rightsL w v r) (hf : rightsOkB r = false) :
    Calls Try.prog 73 #[v] w fun e w' => e = .returned (.tuple #[.agg #[.slice none 0 0, .slice none 0 0], .bool false]) ∧ Below w.heap.size w w' := by
  have h0 := h
  obtain ⟨AG, cG, AS, cS, rfl, hrG, hrS, lG, lS⟩ := rv_rights2 h
  clear h
  unfold maxLen at lG lS
  obtain ⟨wa, hwa, B0, sa, x_a, x_r⟩ := frame2 w 27 [.slice AG r.Give.length cG, .slice AS r.Spent.length cS] 27 [.slice none 0 0, .slice none 0 0]
  have sa_1 := Nat.le_of_eq sa
  have sa_2 := Nat.le_of_eq sa.symm
  clear sa
  have HF := Lib.hid hf
  clear hf
  have c_a_0_wa := x_a.cell (i := 0) rfl
  have f_a_0_wa := x_a.frozen 0
  have c_a_1_wa := x_a.cell (i := 1) rfl
  have f_a_1_wa := x_a.frozen 1
  have c_r_0_wa := x_r.cell (i := 0) rfl
  have f_r_0_wa := x_r.frozen 0
  have c_r_1_wa := x_r.cell (i := 1) rfl
  have f_r_1_wa := x_r.frozen 1
  go_enter Try.func73, Try.ntmps73
  go_wp2_with fail
  refine (sRightsOk_c (h0.from_ B0)).mono ?_
  rintro e w1 ⟨rfl, h_w1⟩
  clear c_a_0_wa f_a_0_wa c_a_1_wa f_a_1_wa c_r_0_wa f_r_0_wa c_r_1_wa f_r_1_wa
  replace x_a := x_a.from_ h_w1
  replace x_r := x_r.from_ h_w1
  have B_w1 := B0.trans (h_w1.mono B0.size)
  have s_w1 := h_w1.size
  rw [HF.out]
  have c_a_0_w1 := x_a.cell (i := 0) rfl
  have f_a_0_w1 := x_a.frozen 0
  have c_a_1_w1 := x_a.cell (i := 1) rfl
  have f_a_1_w1 := x_a.frozen 1
  have c_r_0_w1 := x_r.cell (i := 0) rfl
  have f_r_0_w1 := x_r.frozen 0
  have c_r_1_w1 := x_r.cell (i := 1) rfl
  have f_r_1_w1 := x_r.frozen 1
  have i_r_0 := x_r.same (i := 0) rfl
  have i_r_1 := x_r.same (i := 1) rfl
  go_wp2
  refine ret_cell_tmp (by rfl) (by rfl) x_r Try.underlying27 sz_rights (by rfl) ?_
  exact ⟨rfl, B_w1⟩

set_option maxHeartbeats 2000000 in
theorem sMay_c {w : World} {v : Value} {r : MRights} {i a : Int} (h : RV rightsL w v r) :
    Calls Try.prog 71 #[v, .int .i64 i, .int .i64 a] w fun e w' => e = .returned (.bool (mayB r i a)) ∧ Below w.heap.size w w' := by
  have h0 := h
  obtain ⟨AG, cG, AS, cS, rfl, hrG, hrS, lG, lS⟩ := rv_rights2 h
  clear h
  unfold maxLen at lG lS
  obtain ⟨wa, hwa, B0, sa, x_a⟩ := frame1 w 27 [.slice AG r.Give.length cG, .slice AS r.Spent.length cS]
  have sa_1 := Nat.le_of_eq sa
  have sa_2 := Nat.le_of_eq sa.symm
  clear sa
  have c_a_0_wa := x_a.cell (i := 0) rfl
  have c_a_1_wa := x_a.cell (i := 1) rfl
  by_cases hf : rightsOkB r = true
  case neg =>
    have hf' : rightsOkB r = false := by simpa using hf
    have HF := Lib.hid hf'
    have HO : Hid (mayB r i a = false) := by show _ = _; unfold mayB; rw [hf']; rfl
    clear hf hf'
    go_enter Try.func71, Try.ntmps71
    go_wp2_with fail
    refine (sRightsOk_c (h0.from_ B0)).mono ?_
    rintro e w1 ⟨rfl, h_w1⟩
    clear c_a_0_wa c_a_1_wa
    replace x_a := x_a.from_ h_w1
    have B_w1 := B0.trans (h_w1.mono B0.size)
    have s_w1 := h_w1.size
    rw [HF.out]
    go_wp2
    go_ret
    exact ⟨ret_eq (by rw [HO.out]; rfl), B_w1⟩
  obtain ⟨p1, -, -⟩ := form_parts (ok_form hf)
  have HF := Lib.hid hf
  have tw : IntKind.i64.wrap ((r.Give.length : Int) - 1) = (r.Give.length : Int) - 1 := IntWalk.i64_in _ (by omega)
  by_cases hr : inB i 0 ((r.Give.length : Int) - 1) = true
  case neg =>
    have hr' : inB i 0 ((r.Give.length : Int) - 1) = false := by simpa using hr
    have HI := Lib.hid hr'
    have HO : Hid (mayB r i a = false) := by show _ = _; unfold mayB; rw [hr', hf]; rfl
    clear hf hr hr'
    go_enter Try.func71, Try.ntmps71
    go_wp2_with fail
    refine (sRightsOk_c (h0.from_ B0)).mono ?_
    rintro e w1 ⟨rfl, h_w1⟩
    clear c_a_0_wa c_a_1_wa
    replace x_a := x_a.from_ h_w1
    have B_w1 := B0.trans (h_w1.mono B0.size)
    have s_w1 := h_w1.size
    rw [HF.out]
    have c_a_0_w1 := x_a.cell (i := 0) rfl
    have c_a_1_w1 := x_a.cell (i := 1) rfl
    go_wp2_with fail
    refine (sIn_any _ _ _ _).mono ?_
    rintro e w' ⟨rfl, rfl⟩
    rw [HI.out]
    go_wp2
    go_ret
    exact ⟨ret_eq (by rw [HO.out]; rfl), B_w1⟩
  have HI := Lib.hid hr
  have HO : Hid (mayB r i a = amtB a) := by show _ = _; unfold mayB; rw [hr, hf]; rfl
  clear hf hr
  go_enter Try.func71, Try.ntmps71
  go_wp2_with fail
  refine (sRightsOk_c (h0.from_ B0)).mono ?_
  rintro e w1 ⟨rfl, h_w1⟩
  clear c_a_0_wa c_a_1_wa
  replace x_a := x_a.from_ h_w1
  have B_w1 := B0.trans (h_w1.mono B0.size)
  have s_w1 := h_w1.size
  rw [HF.out]
  have c_a_0_w1 := x_a.cell (i := 0) rfl
  have c_a_1_w1 := x_a.cell (i := 1) rfl
  go_wp2_with fail
  refine (sIn_any _ _ _ _).mono ?_
  rintro e w' ⟨rfl, rfl⟩
  rw [HI.out]
  go_wp2_with fail
  refine (sAmt_any _ _).mono ?_
  rintro e w' ⟨rfl, rfl⟩
  go_wp2
  go_ret
  exact ⟨ret_eq (by rw [HO.out]; rfl), B_w1⟩

theorem may_parts {r : MRights} {i a : Int} (h : mayB r i a = true) : rightsOkB r = true ∧ (0 ≤ i ∧ i < (r.Give.length : Int)) ∧ (1 ≤ a ∧ a ≤ 1000000000) := by
  unfold mayB amtB at h
  simp only [Bool.and_eq_true, inB_true] at h
  exact ⟨h.1, by omega, h.2.2⟩

end Go.Proofs.Ytmbipgnecjlicaa
