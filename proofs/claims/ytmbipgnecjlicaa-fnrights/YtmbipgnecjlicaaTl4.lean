/- impl.tally: whole stores, copies into it; the contracts of isNodeCount and validRights. · impl.tallyOf: the counters laid into arrays, row by row. Laid by a program of ours (src/tl4.py). -/
import Derived.Test.YtmbipgnecjlicaaTl2
import Derived.Laws.CopyOwn
import Derived.StillTailTactics
import Derived.Deep.RegionHeld3

namespace Go.Proofs.Ytmbipgnecjlicaa
open Go.RowKit
set_option linter.unusedVariables false

theorem setRow_chg {w : World} {b : Nat} {cs : Array Value} : Chg b (b + 1) w (w.setRow b cs) := ⟨rfl, rfl, rfl, by simp [World.setRow], fun k hk hd => setRow_other w b k cs (by omega)⟩
theorem setRow_size (w : World) (b : Nat) (cs : Array Value) : (w.setRow b cs).heap.size = w.heap.size := by simp [World.setRow]
theorem all_one {cs : List Value} (h : ∀ v ∈ cs, v.oneCell' = true) : cs.toArray.all (·.oneCell') = true := by
  rw [Array.all_eq_true_iff_forall_mem]
  intro v hv
  exact h v (by simpa using hv)

section
variable {w : World} {b : Nat} {t : TypeId} {T : List Int}
/-- the whole of it stored as one step of a plain region -/
theorem wpl_tstore {ops : Array Oper} {rest : List Oper} {o : Oper} {a : Act} {Q : Exit → Act → World → Prop} {x y : Operand} {old cs : List Value} (h : Vr w b t old) (hl : old.length = 21) (h1 : ∀ v ∈ cs, v.oneCell' = true) (hc : cs.length = 21)
    (ho : o.op = .store 57 x y) (hx : a.eval x = .pointer (some ⟨b, 0, none⟩)) (hy : a.eval y = .agg cs.toArray) (hw : Region.wanted o (yielded ops a.tmps) = true)
    (hq : ∀ w', Vr w' b t cs → Chg b (b + 1) w w' → (w'.heap.size ≤ w.heap.size ∧ w.heap.size ≤ w'.heap.size) → wpList Try.prog ops Q rest (a.put o.dst undef) w') : wpList Try.prog ops Q (o :: rest) a w :=
  wpList_step fun K hK => by
    rw [if_pos hw]
    refine wp_store_row _ x y ho b cs.toArray hx hy t old.toArray h (by rw [t57i]; simp [hc]) (by simp [hl, hc]) (all_one h1) (hK _ _ (hq _ ?_ setRow_chg ?_))
    · unfold Vr at h ⊢; exact setRow_heap w b _ _ t _ h
    · rw [setRow_size]; omega
/-- the whole of it, loaded ahead of a drawn region's tail -/
theorem still_tload {ops : Array Oper} {rest : List Oper} {o : Oper} {a : Act} {Q : Act → Prop} {x : Operand} (h : Vr w b t (tl T)) (hT : T.length = 21) (ho : o.op = .load 57 x) (hx : a.eval x = .pointer (some ⟨b, 0, none⟩)) (hw : Region.wanted o (yielded ops a.tmps) = true)
    (hq : wpStill Try.prog ops w Q rest (a.put o.dst (.agg (tl T).toArray))) : wpStill Try.prog ops w Q (o :: rest) a :=
  wpStill_step fun K hK => by
    rw [if_pos hw]
    unfold Oper.still execOp
    simp only [ho, hx, Instr.loadAt, Instr.sureAddr, Sem.run_bind, Sem.run_pure, Result.andThen_ok, run_loadVar_row w b t 57 (tl T).toArray (0, 0) _ h t57u rfl (by rw [t57i]; simp [tl_len, hT])]
    exact ⟨rfl, hK _ hq⟩
/-- .. and in a drawn region, in every world that keeps the variable -/
theorem yieldsIf_tload {ops : Array Oper} {S : World → Prop} {o : Oper} {a : Act} {x : Operand} (hT : T.length = 21) (ho : o.op = .load 57 x) (hx : a.eval x = .pointer (some ⟨b, 0, none⟩)) (hw : Region.wanted o (yielded ops a.tmps) = true) (hS : ∀ w, S w → Vr w b t (tl T)) : YieldsIf Try.prog ops S o (.agg (tl T).toArray) a :=
  .inl ⟨hw, fun w hw' => by
    unfold execOp
    simp only [ho, hx, Instr.loadAt, Instr.sureAddr, Sem.run_bind, Sem.run_pure, Result.andThen_ok, run_loadVar_row w b t 57 (tl T).toArray (0, 0) _ (hS w hw') t57u rfl (by rw [t57i]; simp [tl_len, hT])]⟩
end

theorem tl_splice (T S : List Int) (o : Nat) : splice (tl T) o (tl S) = tl (splice T o S) := by simp [splice, tl, List.map_take, List.map_drop]
theorem tg_splice {T S : List Int} {o : Nat} (h : o + S.length ≤ T.length) (k : Nat) : tg (splice T o S) k = if o ≤ k ∧ k < o + S.length then tg S (k - o) else tg T k := by
  unfold tg splice
  simp only [List.getD_eq_getElem?_getD]
  by_cases h1 : k < o
  · rw [List.getElem?_append_left (by simp; omega), if_neg (by omega), List.getElem?_take_of_lt h1]
  · rw [List.getElem?_append_right (by simp; omega)]
    have e : (T.take o).length = o := by simp; omega
    rw [e]
    by_cases h2 : k < o + S.length
    · rw [if_pos ⟨by omega, h2⟩, List.getElem?_append_left (by omega)]
    · rw [if_neg (by omega), List.getElem?_append_right (by omega), List.getElem?_drop]
      congr 2
      omega

/-- integers copied into a variable, as one operation -/
theorem run_tcopy {w : World} {b o n c : Nat} {t : TypeId} {T S : List Int} {A : Option Addr} {B : Nat} (h : Vr w b t (tl T)) (hr : Rd .i64 w B A S) (hn : n ≤ 4) (hl : S.length = n) (hf : o + 4 ≤ T.length) :
    ∃ w', (Builtin.copy_ #[25, 25] 3 #[.slice (some ⟨b, o, none⟩) 4 4, .slice A n c]).run Try.prog w = .ok (goInt n) w' ∧ Vr w' b t (tl (splice T o S)) ∧ Chg b (b + 1) w w' ∧ (w'.heap.size ≤ w.heap.size ∧ w.heap.size ≤ w'.heap.size) := by
  obtain ⟨i1, hi1, hy0, hy1, hy2⟩ := info_parts Try.info_i64
  have hsz : (Try.prog.info? 3).map (·.size) = some 1 := by rw [hi1]; simp [hy1]
  by_cases h0 : n = 0
  · subst h0
    obtain rfl : S = [] := List.eq_nil_of_length_eq_zero hl
    refine ⟨w, run_copy_none (P := Try.prog) w _ _ _ 3 _ _ _ _ _ _ Try.underlying25 hsz (by simp), ?_, Chg.refl _ _ _, by omega⟩
    rw [show splice T o [] = T by simp [splice]]
    exact h
  · obtain ⟨b', off, rfl, hb, hc⟩ := hr.toV (by rw [List.length_map]; omega)
    have hm : (tl S).length = Nat.min n 4 := by rw [tl_len, hl]; show n = min n 4; omega
    have hrun := run_copy_row (P := Try.prog) w 25 25 3 3 b o 4 4 ⟨b', off, none⟩ n c (tl T).toArray t (tl S) Try.underlying25 hsz h hm (fun j v hv => by rw [Addr.add_mid]; exact hc j v hv) (by simp [tl_len]; omega) (tl_one S)
    rw [tl_len, hl] at hrun
    refine ⟨_, hrun, ?_, setRow_chg, by rw [setRow_size]; omega⟩
    rw [← tl_splice]
    unfold Vr at h ⊢
    rw [setRow_heap w b _ _ t _ h]
    simp [splice, tl_len, hl]
/-- .. as one step of a region, drawn or not -/
theorem step_tcopy {ops : Array Oper} {w : World} {op : Oper} {a : Act} {K : Act → World → Prop} {Q : Exit → Act → World → Prop} {E : Prop} {b o n c : Nat} {t : TypeId} {T S : List Int} {A : Option Addr} {B : Nat} {x y : Operand} (hgd : op.guard = none) (hty : op.type = 3)
    (ho : op.op = .call { callee := .builtin .copy, args := #[x, y], argTypes := #[25, 25] }) (hx : a.eval x = .slice (some ⟨b, o, none⟩) 4 4) (hy : a.eval y = .slice A n c)
    (h : Vr w b t (tl T)) (hr : Rd .i64 w B A S) (hn : n ≤ 4) (hl : S.length = n) (hf : o + 4 ≤ T.length)
    (hq : ∀ w', Vr w' b t (tl (splice T o S)) → Chg b (b + 1) w w' → (w'.heap.size ≤ w.heap.size ∧ w.heap.size ≤ w'.heap.size) → K (a.put op.dst (goInt n)) w') :
    if Region.wanted op (yielded ops a.tmps) = true then Oper.wp Try.prog op a w K Q else E := by
  have hw : Region.wanted op (yielded ops a.tmps) = true := by simp [Region.wanted, hgd]
  rw [if_pos hw]
  obtain ⟨w', hrun, h2, h3, h4⟩ := run_tcopy (c := c) h hr hn hl hf
  unfold Oper.wp execOp
  simp only [ho, resolve, invoke, builtin, Sem.run_bind, Sem.run_pure, Result.andThen_ok, List.map_toArray, List.map_cons, List.map_nil, hx, hy, hty, hrun]
  exact hq w' h2 h3 h4
theorem wpl_tcopy {ops : Array Oper} {rest : List Oper} {w : World} {op : Oper} {a : Act} {Q : Exit → Act → World → Prop} {b o n c : Nat} {t : TypeId} {T S : List Int} {A : Option Addr} {B : Nat} {x y : Operand} (hgd : op.guard = none) (hty : op.type = 3)
    (ho : op.op = .call { callee := .builtin .copy, args := #[x, y], argTypes := #[25, 25] }) (hx : a.eval x = .slice (some ⟨b, o, none⟩) 4 4) (hy : a.eval y = .slice A n c)
    (h : Vr w b t (tl T)) (hr : Rd .i64 w B A S) (hn : n ≤ 4) (hl : S.length = n) (hf : o + 4 ≤ T.length)
    (hq : ∀ w', Vr w' b t (tl (splice T o S)) → Chg b (b + 1) w w' → (w'.heap.size ≤ w.heap.size ∧ w.heap.size ≤ w'.heap.size) → wpList Try.prog ops Q rest (a.put op.dst (goInt n)) w') : wpList Try.prog ops Q (op :: rest) a w :=
  wpList_step fun K hK => by
    have := step_tcopy (ops := ops) (K := K) (Q := Q) (E := K (a.put op.dst undef) w) hgd hty ho hx hy h hr hn hl hf (fun w' h2 h3 h4 => hK _ _ (hq w' h2 h3 h4))
    exact this

theorem iCount_any (n : Int) (w : World) : Calls Try.prog 65 #[.int .i64 n] w fun e w' => e = .returned (.bool (inB n 1 4)) ∧ w = w' := by
  by_cases h0 : 1 ≤ n
  · by_cases h1 : n ≤ 4
    · rw [inB_true.2 ⟨h0, h1⟩]
      have i0 : decide (1 ≤ n) = true := decide_eq_true h0
      have i1 : decide (n ≤ 4) = true := decide_eq_true h1
      go_enter Try.func65, Try.ntmps65
      go_wp2
      go_ret
      exact ⟨rfl, rfl⟩
    · rw [inB_false.2 (by omega)]
      have i0 : decide (1 ≤ n) = true := decide_eq_true h0
      have i1 : decide (n ≤ 4) = false := decide_eq_false h1
      go_enter Try.func65, Try.ntmps65
      go_wp2
      go_ret
      exact ⟨rfl, rfl⟩
  · rw [inB_false.2 (by omega)]
    have i1 : decide (1 ≤ n) = false := decide_eq_false h0
    go_enter Try.func65, Try.ntmps65
    go_wp2
    go_ret
    exact ⟨rfl, rfl⟩

def validM (D : MRights) : MRights := if rightsOkB D = true then D else rZ

set_option maxHeartbeats 2000000 in
theorem tValid_c {w : World} {D : MRights} (hS : Shp D.Give.length D) (hn : 1 ≤ D.Give.length ∧ D.Give.length ≤ 4) : Calls Try.prog 48 #[.agg (tl (tOf D)).toArray] w (NewVB rightsL w (validM D) (rightsOkB D)) := by
  obtain ⟨wa, hwa, B0, sa, x_a, x_r⟩ := frame2 w 57 (tl (tOf D)) 27 [.slice none 0 0, .slice none 0 0]
  have sa_1 := Nat.le_of_eq sa
  have sa_2 := Nat.le_of_eq sa.symm
  clear sa
  have hT := tOf_len D
  by_cases hf : rightsOkB D = true
  case neg =>
    have hf' : rightsOkB D = false := by simpa using hf
    have HF := Lib.hid hf'
    have HM : Hid (validM D = rZ) := if_neg hf
    clear hf hf'
    go_enter Try.func48, Try.ntmps48
    go_wp2_with (refine wpl_tload x_a hT rfl rfl rfl ?_)
    refine (tOk_c hS hn).mono ?_
    rintro e w1 ⟨rfl, h_w1⟩
    replace x_r := x_r.from_ h_w1
    have B_w1 := B0.trans (h_w1.mono B0.size)
    rw [HF.out]
    have c_r_0_w1 := x_r.cell (i := 0) rfl
    have f_r_0_w1 := x_r.frozen 0
    have c_r_1_w1 := x_r.cell (i := 1) rfl
    have f_r_1_w1 := x_r.frozen 1
    have i_r_0 := x_r.same (i := 0) rfl
    have i_r_1 := x_r.same (i := 1) rfl
    go_wp2
    refine ret_cell_tmp (by rfl) (by rfl) x_r Try.underlying27 sz_rights (by rfl) ?_
    rw [HM.out, HF.out]
    exact ⟨_, rfl, ov_rZ (Nat.le_refl _), B_w1⟩
  have HF := Lib.hid hf
  have HM : Hid (validM D = D) := if_pos hf
  clear hf
  go_enter Try.func48, Try.ntmps48
  go_wp2_with (refine wpl_tload x_a hT rfl rfl rfl ?_)
  refine (tOk_c hS hn).mono ?_
  rintro e w1 ⟨rfl, h_w1⟩
  replace x_a := x_a.from_ h_w1
  replace x_r := x_r.from_ h_w1
  have B_w1 := B0.trans (h_w1.mono B0.size)
  have s_w1 := h_w1.size
  rw [HF.out]
  go_wp2_with (refine wpl_tload x_a hT rfl rfl rfl ?_)
  refine (tRights_c hS hn).mono ?_
  rintro e w2 ⟨u, rfl, ou, h_w2⟩
  replace x_r := x_r.from_ h_w2
  have B_w2 := B_w1.trans (h_w2.mono B_w1.size)
  have s_w2 := h_w2.size
  obtain ⟨AG, cG, AS, cS, rfl, -, -⟩ := rv_rights ou.rd
  have c_r_0_w2 := x_r.cell (i := 0) rfl
  have f_r_0_w2 := x_r.frozen 0
  have c_r_1_w2 := x_r.cell (i := 1) rfl
  have f_r_1_w2 := x_r.frozen 1
  obtain ⟨w3, e_w3, s_w3, h_w3, y⟩ := store_step x_r [.slice AG D.Give.length cG, .slice AS D.Spent.length cS] rfl
  replace e_w3 : ((w2.setCell ⟨w.heap.size + 1, 0, none⟩ (.slice AG D.Give.length cG)).setCell ⟨w.heap.size + 1, 1, none⟩ (.slice AS D.Spent.length cS)) = w3 := e_w3
  have s_w3_1 := Nat.le_of_eq s_w3
  have s_w3_2 := Nat.le_of_eq s_w3.symm
  clear s_w3
  have B_w3 := Below.chg_ B_w2 h_w3 (by omega) (by omega)
  replace ou := ou.chg h_w3 (by omega)
  replace x_r : Vr w3 (w.heap.size + 1) 27 [.slice AG D.Give.length cG, .slice AS D.Spent.length cS] := y
  clear y
  have c_r_0_w3 := x_r.cell (i := 0) rfl
  have f_r_0_w3 := x_r.frozen 0
  have c_r_1_w3 := x_r.cell (i := 1) rfl
  have f_r_1_w3 := x_r.frozen 1
  go_wp2
  refine ret_cell_tmp (by rfl) (by rfl) x_r Try.underlying27 sz_rights (by rfl) ?_
  rw [HM.out, HF.out]
  exact ⟨_, rfl, ou.widen (by omega) (by omega) (Nat.le_refl _), B_w3⟩

end Go.Proofs.Ytmbipgnecjlicaa

namespace Go.Proofs.Ytmbipgnecjlicaa
open Go.RowKit
set_option linter.unusedVariables false

def tZ (n : Int) : List Int := [n, 0, 0, 0, 0, 0, 0, 0, 0, 0, 0, 0, 0, 0, 0, 0, 0, 0, 0, 0, 0]
theorem tZ_len (n : Int) : (tZ n).length = 21 := rfl
theorem tZ_get (n : Int) {k : Nat} (h : 0 < k) (hk : k < 21) : tg (tZ n) k = 0 := by
  rcases places k hk with rfl | ⟨i, j, hi, hj, rfl⟩ | ⟨i, hi, rfl⟩
  · omega
  · rcases i with _ | _ | _ | _ | i <;> rcases j with _ | _ | _ | _ | j <;> first | rfl | omega
  · rcases i with _ | _ | _ | _ | i <;> first | rfl | omega

/-- what stands when the rows below k are laid -/
def LaidAt (r : MRights) (T : List Int) (k : Nat) : Prop := T.length = 21 ∧ tg T 0 = (r.Give.length : Int) ∧ (∀ i j, i < 4 → j < 4 → tg T (1 + i * 4 + j) = if i < k then g2 r.Give i j else 0) ∧ (∀ i, i < 4 → tg T (17 + i) = s1 r.Spent i) ∧ ∀ i Q, i < k → r.Give[i]? = some Q → Q.length = r.Give.length
theorem laid_start {r : MRights} (hl : r.Spent.length = r.Give.length) (hn : r.Give.length ≤ 4) : LaidAt r (splice (tZ (r.Give.length : Int)) 17 r.Spent) 0 := by
  have hf : 17 + r.Spent.length ≤ (tZ (r.Give.length : Int)).length := by rw [tZ_len]; omega
  refine ⟨length_splice _ _ _ hf, ?_, fun i j hi hj => ?_, fun i hi => ?_, fun i Q hi _ => by omega⟩
  · rw [tg_splice hf, if_neg (by omega)]; rfl
  · rw [tg_splice hf, if_neg (by omega), if_neg (by omega), tZ_get _ (by omega) (by omega)]
  · rw [tg_splice hf]
    by_cases c : i < r.Spent.length
    · rw [if_pos (by omega)]
      unfold tg s1
      congr 1
      omega
    · rw [if_neg (by omega), tZ_get _ (by omega) (by omega)]
      unfold s1
      rw [List.getD_eq_getElem?_getD, List.getElem?_eq_none (by omega)]
      rfl
theorem laid_next {r : MRights} {T K : List Int} {k : Nat} (h : LaidAt r T k) (hK : r.Give[k]? = some K) (hl : K.length = r.Give.length) (hn : r.Give.length ≤ 4) (hk : k < r.Give.length) : LaidAt r (splice T (1 + k * 4) K) (k + 1) := by
  obtain ⟨h0, h1, h2, h3, h4⟩ := h
  have hf : 1 + k * 4 + K.length ≤ T.length := by omega
  refine ⟨by rw [length_splice _ _ _ hf, h0], ?_, fun i j hi hj => ?_, fun i hi => ?_, fun i Q hi hQ => ?_⟩
  · rw [tg_splice hf, if_neg (by omega), h1]
  · rw [tg_splice hf]
    by_cases e : i = k
    · subst e
      rw [if_pos (show i < i + 1 by omega)]
      by_cases c : j < K.length
      · rw [if_pos (by omega), g2_of hK]
        unfold tg
        congr 1
        omega
      · rw [if_neg (by omega), h2 i j hi hj, if_neg (by omega), g2_of hK, List.getD_eq_getElem?_getD, List.getElem?_eq_none (by omega)]
        rfl
    · rw [if_neg (by omega), h2 i j hi hj]
      by_cases c : i < k
      · rw [if_pos c, if_pos (by omega)]
      · rw [if_neg c, if_neg (by omega)]
  · rw [tg_splice hf, if_neg (by omega), h3 i hi]
  · by_cases e : i = k
    · subst e
      rw [hK] at hQ
      obtain rfl : K = Q := by simpa using hQ
      exact hl
    · exact h4 i Q (by omega) hQ
theorem laid_shp {r : MRights} {T : List Int} (h : LaidAt r T r.Give.length) (hl : r.Spent.length = r.Give.length) : Shp r.Give.length r :=
  ⟨rfl, hl, fun i Q hQ => h.2.2.2.2 i Q (getElem?_lt hQ) hQ⟩
theorem laid_end {r : MRights} {T : List Int} (h : LaidAt r T r.Give.length) (hl : r.Spent.length = r.Give.length) : T = tOf r := by
  have hS := laid_shp h hl
  obtain ⟨h0, h1, h2, h3, h4⟩ := h
  refine is_tOf h0 h1 (fun i j hi hj => ?_) h3
  rw [h2 i j hi hj]
  by_cases c : i < r.Give.length
  · rw [if_pos c]
  · rw [if_neg c, g2_out hS (.inl (by omega))]
theorem ok_row_bad {r : MRights} {k : Nat} {Q : List Int} (hQ : r.Give[k]? = some Q) (h : Q.length ≠ r.Give.length) : rightsOkB r = false := by
  unfold rightsOkB
  rw [form_row_bad hQ (by unfold rowB; rw [decide_eq_false h]; rfl)]
  rfl
theorem ok_shape {r : MRights} (h : ¬ (1 ≤ r.Give.length ∧ r.Give.length ≤ 4 ∧ r.Spent.length = r.Give.length)) : rightsOkB r = false := by
  unfold rightsOkB
  rw [form_shape h]
  rfl
def TallyR (r : MRights) (w : World) : Ending → World → Prop := fun e w' => ∃ T, e = .returned (.tuple #[.agg (tl T).toArray, .bool (rightsOkB r)]) ∧ T.length = 21 ∧ (rightsOkB r = true → T = tOf r) ∧ Below w.heap.size w w'
theorem t57l (T : List Int) (h : T.length = 21) : (Try.prog.info? 57).map (·.size) = some (tl T).length := by rw [t57i, tl_len, h]

set_option maxRecDepth 100000 in
set_option maxHeartbeats 4000000 in
theorem iTallyOf_c {w : World} {v : Value} {r : MRights} (h : RV rightsL w v r) : Calls Try.prog 45 #[v] w (TallyR r w) := by
  obtain ⟨AG, cG, AS, cS, rfl, hrG, hrS, lG, lS⟩ := rv_rights2 h
  clear h
  unfold maxLen at lG lS
  obtain ⟨wa, hwa, B0, sa, x_a, x_r⟩ := frame2 w 27 [.slice AG r.Give.length cG, .slice AS r.Spent.length cS] 57 [.int .i64 0, .int .i64 0, .int .i64 0, .int .i64 0, .int .i64 0, .int .i64 0, .int .i64 0, .int .i64 0, .int .i64 0, .int .i64 0, .int .i64 0, .int .i64 0, .int .i64 0, .int .i64 0, .int .i64 0, .int .i64 0, .int .i64 0, .int .i64 0, .int .i64 0, .int .i64 0, .int .i64 0]
  have sa_1 := Nat.le_of_eq sa
  have sa_2 := Nat.le_of_eq sa.symm
  clear sa
  replace x_r : Vr wa (w.heap.size + 1) 57 (tl (tZ 0)) := x_r
  have c_a_0_wa := x_a.cell (i := 0) rfl
  have c_a_1_wa := x_a.cell (i := 1) rfl
  by_cases hn : 1 ≤ r.Give.length ∧ r.Give.length ≤ 4
  case neg =>
    have HO : Hid (rightsOkB r = false) := ok_shape (fun c => hn ⟨c.1, c.2.1⟩)
    have HI : Hid (inB (r.Give.length : Int) 1 4 = false) := inB_false.2 (by omega)
    go_enter Try.func45, Try.ntmps45
    go_wp2_with fail
    refine (iCount_any _ _).mono ?_
    rintro e w' ⟨rfl, rfl⟩
    rw [HI.out]
    go_wp2_with (refine wpl_tstore x_r (by rw [tl_len, tZ_len]) (tl_one (tZ 0)) (by rw [tl_len, tZ_len]) rfl rfl rfl rfl ?_; intro wz x_z h_z s_z)
    have B_z := Below.chg_ B0 h_z (by omega) (by omega)
    refine ret_cell_tmp (by rfl) (by rfl) x_z t57u (t57l _ rfl) (by rfl) ?_
    exact ⟨tZ 0, ret_eq (by rw [HO.out]; rfl), rfl, (fun c => absurd c (by rw [HO.out]; decide)), B_z⟩
  have HI : Hid (inB (r.Give.length : Int) 1 4 = true) := inB_true.2 (by omega)
  by_cases hs : r.Spent.length = r.Give.length
  case neg =>
    have HO : Hid (rightsOkB r = false) := ok_shape (fun c => hs c.2.2)
    have t0 : ((r.Spent.length : Int) != (r.Give.length : Int)) = true := by simp; omega
    have t1 : (r.Spent.length != r.Give.length) = true := by simpa using hs
    clear hs
    go_enter Try.func45, Try.ntmps45
    go_wp2_with fail
    refine (iCount_any _ _).mono ?_
    rintro e w' ⟨rfl, rfl⟩
    rw [HI.out]
    go_wp2_with (refine wpl_tstore x_r (by rw [tl_len, tZ_len]) (tl_one (tZ 0)) (by rw [tl_len, tZ_len]) rfl rfl rfl rfl ?_; intro wz x_z h_z s_z)
    have B_z := Below.chg_ B0 h_z (by omega) (by omega)
    refine ret_cell_tmp (by rfl) (by rfl) x_z t57u (t57l _ rfl) (by rfl) ?_
    exact ⟨tZ 0, ret_eq (by rw [HO.out]; rfl), rfl, (fun c => absurd c (by rw [HO.out]; decide)), B_z⟩
  have hs1 := Nat.le_of_eq hs
  have hs2 := Nat.le_of_eq hs.symm
  have HS := Lib.hid hs
  have t0 : ((r.Spent.length : Int) != (r.Give.length : Int)) = false := by simp; omega
  have t1 : (r.Spent.length != r.Give.length) = false := by simp; omega
  clear hs
  obtain ⟨b, off, rfl⟩ := row_some hrG (by omega)
  obtain ⟨w1, e_w1, s_w1, h_w1, x_t⟩ := alloc_step wa 57 [.int .i64 0, .int .i64 0, .int .i64 0, .int .i64 0, .int .i64 0, .int .i64 0, .int .i64 0, .int .i64 0, .int .i64 0, .int .i64 0, .int .i64 0, .int .i64 0, .int .i64 0, .int .i64 0, .int .i64 0, .int .i64 0, .int .i64 0, .int .i64 0, .int .i64 0, .int .i64 0, .int .i64 0]
  have s_w1_1 := Nat.le_of_eq s_w1
  have s_w1_2 := Nat.le_of_eq s_w1.symm
  clear s_w1
  replace x_t : Vr w1 wa.heap.size 57 (tl (tZ 0)) := x_t
  have B_w1 := B0.trans (h_w1.mono B0.size)
  go_enter Try.func45, Try.ntmps45
  go_wp2_with fail
  refine (iCount_any _ _).mono ?_
  rintro e w' ⟨rfl, rfl⟩
  rw [HI.out]
  go_wp2_with (refine wpl_tstore x_t (by rw [tl_len, tZ_len]) (tl_one (tZ (r.Give.length : Int))) (by rw [tl_len, tZ_len]) rfl rfl rfl rfl ?_; intro w2 x_t2 h_w2 s_w2)
  clear c_a_0_wa c_a_1_wa
  replace x_a := (x_a.from_ h_w1).chg h_w2 (by omega)
  replace x_r := (x_r.from_ h_w1).chg h_w2 (by omega)
  have B_w2 := Below.chg_ B_w1 h_w2 (by omega) (by omega)
  clear x_t
  have hd2 : Below w2.heap.size w2 w2.drew := (Below.refl w2.heap.size w2).drew
  have sd2 : w2.drew.heap.size = w2.heap.size := rfl
  have c_a_0_w2 := x_a.cell (i := 0) rfl
  have c_a_1_w2 := x_a.cell (i := 1) rfl
  go_region_law (refine step_tcopy (by rfl) (by rfl) (by rfl) (by rfl) (by rfl) (x_t2.from_ hd2) (hrS.below (B_w2.trans (hd2.mono B_w2.size))) (by omega) rfl (by rw [tZ_len]; omega) ?_; intro w3 x_t3 h_w3 s_w3)
  clear c_a_0_w2 c_a_1_w2
  rw [sd2] at s_w3
  replace x_a := (x_a.from_ hd2).chg h_w3 (by omega)
  replace x_r := (x_r.from_ hd2).chg h_w3 (by omega)
  have B_w3 := Below.chg_ (B_w2.trans (hd2.mono B_w2.size)) h_w3 (by omega) (by rw [sd2]; omega)
  clear hd2 sd2 x_t2
  have HL0 : Hid (LaidAt r (splice (tZ (r.Give.length : Int)) 17 r.Spent) 0) := laid_start HS.out hn.2
  have c_a_0_w3 := x_a.cell (i := 0) rfl
  have c_a_1_w3 := x_a.cell (i := 1) rfl
  go_wp2
  go_loopw [32] (fun j wr => ∃ (k : Nat) (T : List Int), k ≤ r.Give.length ∧ j = .int .i64 k ∧ Hid (LaidAt r T k) ∧ Vr wr w.heap.size 27 [.slice (some ⟨b, off, none⟩) r.Give.length cG, .slice AS r.Spent.length cS] ∧ Vr wr (w.heap.size + 1) 57 (tl (tZ 0)) ∧ Vr wr wa.heap.size 57 (tl T) ∧ Below w.heap.size w wr ∧ wa.heap.size + 1 ≤ wr.heap.size) (fun j _ => r.Give.length - (intOf j).toNat)
  case atStart => exact ⟨0, _, Nat.zero_le _, rfl, HL0, x_a, x_r, x_t3, B_w3, by omega⟩
  case round =>
    clear c_a_0_w3 c_a_1_w3 x_a x_r x_t3 t0 t1 HL0
    obtain ⟨k, T, hk, rfl, HL, x_a, x_r, x_t, HB, hsz⟩ := hrel
    have hT : T.length = 21 := HL.out.1
    by_cases hlt : k < r.Give.length
    case neg =>
      have hk2 : ¬ ((k : Int) < (r.Give.length : Int)) := by omega
      have hke : k = r.Give.length := by omega
      have HL2 : Hid (LaidAt r T r.Give.length) := by have := HL.out; rw [hke] at this; exact this
      clear hke
      have hSh := laid_shp HL2.out HS.out
      have HTe := Lib.hid (laid_end HL2.out HS.out)
      have hcall : ∀ W, Calls Try.prog 77 #[.agg (tl T).toArray] W fun e w' => e = .returned (.bool (rightsOkB r)) ∧ Below W.heap.size W w' := fun W => by rw [HTe.out]; exact tOk_c hSh hn
      obtain ⟨q, hq⟩ : ∃ q, rightsOkB r = q := ⟨_, rfl⟩
      have HQ := Lib.hid hq
      rw [hq] at hcall
      clear hq
      go_wp2_with fail
      refine wp_region_held (S := fun w' => Vr w' wa.heap.size 57 (tl T)) (by kernel_rfl) ?_
      refine wpAnyH_take (i := 0) (v := .agg (tl T).toArray) rfl (by kernel_rfl) (by kernel_rfl) (by kernel_rfl) (fun _ _ _ h => h) (yieldsIf_tload hT rfl rfl rfl (fun _ h => h)) x_t ?_
      refine wpAnyH_take (i := 1) (v := .agg (tl T).toArray) rfl (by kernel_rfl) (by kernel_rfl) (by kernel_rfl) (fun _ _ _ h => h) (yieldsIf_tload hT rfl rfl rfl (fun _ h => h)) x_t ?_
      refine wpAnyH_ready (rs := [2]) (by kernel_rfl) (by simp) ?_
      refine AllReadyH.cons rfl (fun K hK => ?_) AllReadyH.nil
      go_simp
      refine (hcall _).mono ?_
      rintro e w5 ⟨rfl, h_w5⟩
      have h_w5' : Below wr.heap.size wr w5 := (Below.refl wr.heap.size wr).drew.trans h_w5
      replace x_t := x_t.from_ h_w5'
      replace x_r := x_r.from_ h_w5'
      have B_w5 := HB.trans (h_w5'.mono HB.size)
      have s_w5 := h_w5'.size
      clear h_w5
      go_simp
      refine hK.out _ _ x_t (fun hHeld => ?_)
      clear hK K
      refine wpAnyH_ready (rs := [3]) (by kernel_rfl) (by simp) ?_
      refine AllReadyH.cons rfl (fun K hK => ?_) AllReadyH.nil
      rw [if_pos (by rfl)]
      refine wp_store_row _ _ _ rfl (w.heap.size + 1) (tl T).toArray rfl rfl 57 (tl (tZ 0)).toArray x_r (by rw [t57i]; simp [tl_len, hT]) (by simp [tl_len, hT, tZ_len]) (all_one (tl_one T)) ?_
      obtain ⟨w6, hw6⟩ : ∃ x, w5.setRow (w.heap.size + 1) (tl T).toArray = x := ⟨_, rfl⟩
      have h_w6 : Chg (w.heap.size + 1) (w.heap.size + 1 + 1) w5 w6 := by rw [← hw6]; exact setRow_chg
      have x_r6 : Vr w6 (w.heap.size + 1) 57 (tl T) := by rw [← hw6]; unfold Vr at x_r ⊢; exact setRow_heap w5 _ _ _ _ _ x_r
      have B_w6 := Below.chg_ B_w5 h_w6 (by omega) (by omega)
      rw [hw6]
      refine hK.out _ _ (x_t.chg h_w6 (by omega)) (fun hHeld2 => ?_)
      clear hK K
      refine wpAnyH_ready (rs := [4]) (by kernel_rfl) (by simp) ?_
      refine AllReadyH.cons rfl (fun K hK => ?_) AllReadyH.nil
      go_simp
      refine hK.out _ _ hHeld2 (fun hHeld3 => ?_)
      clear hK K
      refine wpAnyH_done (by kernel_rfl) ?_ _
      clear hHeld hHeld2 hHeld3
      go_wp2
      refine ret_cell_tmp (by rfl) (by rfl) x_r6 t57u (t57l _ hT) (by rfl) ?_
      exact ⟨T, ret_eq (by rw [HQ.out]; rfl), hT, (fun _ => HTe.out), B_w6⟩
    obtain ⟨K, hK⟩ := get_of_lt hlt
    have j1 : (k : Int) < (r.Give.length : Int) := by omega
    have k4 : (k : Int) < 4 := by omega
    obtain ⟨Ak, ck, -, hck, lk1, lk2, hrk⟩ := row_in (hrG.below HB) hK
    unfold maxLen at lk2
    have c_a_0_wr := x_a.cell (i := 0) rfl
    have c_a_1_wr := x_a.cell (i := 1) rfl
    by_cases hl : K.length = r.Give.length
    case neg =>
      have HO : Hid (rightsOkB r = false) := ok_row_bad hK hl
      have t0 : ((K.length : Int) != (r.Give.length : Int)) = true := by simp; omega
      have t1 : (K.length != r.Give.length) = true := by simpa using hl
      clear hl hK
      go_wp2_with (refine wpl_tstore x_r (by rw [tl_len, tZ_len]) (tl_one (tZ 0)) (by rw [tl_len, tZ_len]) rfl rfl rfl rfl ?_; intro wz x_z h_z s_z)
      have B_z := Below.chg_ HB h_z (by omega) (by omega)
      refine ret_cell_tmp (by rfl) (by rfl) x_z t57u (t57l _ rfl) (by rfl) ?_
      exact ⟨tZ 0, ret_eq (by rw [HO.out]; rfl), rfl, (fun c => absurd c (by rw [HO.out]; decide)), B_z⟩
    have HK2 : Hid (LaidAt r (splice T (1 + k * 4) K) (k + 1)) := laid_next HL.out hK hl hn.2 hlt
    have t0 : ((K.length : Int) != (r.Give.length : Int)) = false := by simp; omega
    have t1 : (K.length != r.Give.length) = false := by simp; omega
    have l1 := Nat.le_of_eq hl
    clear hl hK
    go_wp2_with (refine wpl_tcopy (by rfl) (by rfl) (by rfl) (by rfl) (by rfl) x_t hrk (by omega) rfl (by omega) ?_; intro w5 x_t5 h_w5 s_w5)
    replace x_a := x_a.chg h_w5 (by omega)
    replace x_r := x_r.chg h_w5 (by omega)
    have B_w5 := Below.chg_ HB h_w5 (by omega) (by omega)
    go_roundw
    case rel => exact ⟨k + 1, _, by omega, by go_num, HK2, x_a, x_r, x_t5, B_w5, by omega⟩
    case measure => simp [intOf]; omega

end Go.Proofs.Ytmbipgnecjlicaa
