/- impl.tally: whole stores, copies into it; the contracts of isNodeCount and validRights. -/
import Derived.Test.YtmbipgnecjlicaaTl2
import Derived.Laws.CopyOwn
import Derived.StillTailTactics
namespace Go.Proofs.Ytmbipgnecjlicaa
open Go.RowKit
set_option linter.unusedVariables false

theorem setRow_chg {w : World} {b : Nat} {cs : Array Value} : Chg b (b + 1) w (w.setRow b cs) := ⟨rfl, rfl, rfl, by simp [World.setRow], fun k hk hd => setRow_other w b k cs (by omega)⟩
theorem setRow_size (w : World) (b : Nat) (cs : Array Value) : (w.setRow b cs).heap.size = w.heap.size := by simp [World.setRow]
theorem all_one {cs : List Value} (h : ∀ v ∈ cs, v.oneCell' = true) : cs.toArray.all (·.oneCell') = true := by
  rw [Array.all_eq_true_iff_forall_mem]
  intro v hv
  exact h v (by simpa using hv)

section
variable {w : World} {b : Nat} {t : TypeId} {T : List Int}
/-- the whole of it stored as one step of a plain region -/
theorem wpl_tstore {ops : Array Oper} {rest : List Oper} {o : Oper} {a : Act} {Q : Exit → Act → World → Prop} {x y : Operand} {old cs : List Value} (h : Vr w b t old) (hl : old.length = 21) (h1 : ∀ v ∈ cs, v.oneCell' = true) (hc : cs.length = 21)
    (ho : o.op = .store 57 x y) (hx : a.eval x = .pointer (some ⟨b, 0, none⟩)) (hy : a.eval y = .agg cs.toArray) (hw : Region.wanted o (yielded ops a.tmps) = true)
    (hq : ∀ w', Vr w' b t cs → Chg b (b + 1) w w' → (w'.heap.size ≤ w.heap.size ∧ w.heap.size ≤ w'.heap.size) → wpList Try.prog ops Q rest (a.put o.dst undef) w') : wpList Try.prog ops Q (o :: rest) a w :=
  wpList_step fun K hK => by
    rw [if_pos hw]
    refine wp_store_row _ x y ho b cs.toArray hx hy t old.toArray h (by rw [t57i]; simp [hc]) (by simp [hl, hc]) (all_one h1) (hK _ _ (hq _ ?_ setRow_chg ?_))
    · unfold Vr at h ⊢; exact setRow_heap w b _ _ t _ h
    · rw [setRow_size]; omega
/-- the whole of it, loaded ahead of a drawn region's tail -/
theorem still_tload {ops : Array Oper} {rest : List Oper} {o : Oper} {a : Act} {Q : Act → Prop} {x : Operand} (h : Vr w b t (tl T)) (hT : T.length = 21) (ho : o.op = .load 57 x) (hx : a.eval x = .pointer (some ⟨b, 0, none⟩)) (hw : Region.wanted o (yielded ops a.tmps) = true)
    (hq : wpStill Try.prog ops w Q rest (a.put o.dst (.agg (tl T).toArray))) : wpStill Try.prog ops w Q (o :: rest) a :=
  wpStill_step fun K hK => by
    rw [if_pos hw]
    unfold Oper.still execOp
    simp only [ho, hx, Instr.loadAt, Instr.sureAddr, Sem.run_bind, Sem.run_pure, Result.andThen_ok, run_loadVar_row w b t 57 (tl T).toArray (0, 0) _ h t57u rfl (by rw [t57i]; simp [tl_len, hT])]
    exact ⟨rfl, hK _ hq⟩
/-- .. and in a drawn region, in every world that keeps the variable -/
theorem yieldsIf_tload {ops : Array Oper} {S : World → Prop} {o : Oper} {a : Act} {x : Operand} (hT : T.length = 21) (ho : o.op = .load 57 x) (hx : a.eval x = .pointer (some ⟨b, 0, none⟩)) (hw : Region.wanted o (yielded ops a.tmps) = true) (hS : ∀ w, S w → Vr w b t (tl T)) : YieldsIf Try.prog ops S o (.agg (tl T).toArray) a :=
  .inl ⟨hw, fun w hw' => by
    unfold execOp
    simp only [ho, hx, Instr.loadAt, Instr.sureAddr, Sem.run_bind, Sem.run_pure, Result.andThen_ok, run_loadVar_row w b t 57 (tl T).toArray (0, 0) _ (hS w hw') t57u rfl (by rw [t57i]; simp [tl_len, hT])]⟩
end

theorem tl_splice (T S : List Int) (o : Nat) : splice (tl T) o (tl S) = tl (splice T o S) := by simp [splice, tl, List.map_take, List.map_drop]
theorem tg_splice {T S : List Int} {o : Nat} (h : o + S.length ≤ T.length) (k : Nat) : tg (splice T o S) k = if o ≤ k ∧ k < o + S.length then tg S (k - o) else tg T k := by
  unfold tg splice
  simp only [List.getD_eq_getElem?_getD]
  by_cases h1 : k < o
  · rw [List.getElem?_append_left (by simp; omega), if_neg (by omega), List.getElem?_take_of_lt h1]
  · rw [List.getElem?_append_right (by simp; omega)]
    have e : (T.take o).length = o := by simp; omega
    rw [e]
    by_cases h2 : k < o + S.length
    · rw [if_pos ⟨by omega, h2⟩, List.getElem?_append_left (by omega)]
    · rw [if_neg (by omega), List.getElem?_append_right (by omega), List.getElem?_drop]
      congr 2
      omega

/-- integers copied into a variable, as one operation -/
theorem run_tcopy {w : World} {b o n c : Nat} {t : TypeId} {T S : List Int} {A : Option Addr} {B : Nat} (h : Vr w b t (tl T)) (hr : Rd .i64 w B A S) (hn : n ≤ 4) (hl : S.length = n) (hf : o + 4 ≤ T.length) :
    ∃ w', (Builtin.copy_ #[25, 25] 3 #[.slice (some ⟨b, o, none⟩) 4 4, .slice A n c]).run Try.prog w = .ok (goInt n) w' ∧ Vr w' b t (tl (splice T o S)) ∧ Chg b (b + 1) w w' ∧ (w'.heap.size ≤ w.heap.size ∧ w.heap.size ≤ w'.heap.size) := by
  obtain ⟨i1, hi1, hy0, hy1, hy2⟩ := info_parts Try.info_i64
  have hsz : (Try.prog.info? 3).map (·.size) = some 1 := by rw [hi1]; simp [hy1]
  by_cases h0 : n = 0
  · subst h0
    obtain rfl : S = [] := List.eq_nil_of_length_eq_zero hl
    refine ⟨w, run_copy_none (P := Try.prog) w _ _ _ 3 _ _ _ _ _ _ Try.underlying25 hsz (by simp), ?_, Chg.refl _ _ _, by omega⟩
    rw [show splice T o [] = T by simp [splice]]
    exact h
  · obtain ⟨b', off, rfl, hb, hc⟩ := hr.toV (by rw [List.length_map]; omega)
    have hm : (tl S).length = Nat.min n 4 := by rw [tl_len, hl]; show n = min n 4; omega
    have hrun := run_copy_row (P := Try.prog) w 25 25 3 3 b o 4 4 ⟨b', off, none⟩ n c (tl T).toArray t (tl S) Try.underlying25 hsz h hm (fun j v hv => by rw [Addr.add_mid]; exact hc j v hv) (by simp [tl_len]; omega) (tl_one S)
    rw [tl_len, hl] at hrun
    refine ⟨_, hrun, ?_, setRow_chg, by rw [setRow_size]; omega⟩
    rw [← tl_splice]
    unfold Vr at h ⊢
    rw [setRow_heap w b _ _ t _ h]
    simp [splice, tl_len, hl]
/-- .. as one step of a region, drawn or not -/
theorem step_tcopy {ops : Array Oper} {w : World} {op : Oper} {a : Act} {K : Act → World → Prop} {Q : Exit → Act → World → Prop} {E : Prop} {b o n c : Nat} {t : TypeId} {T S : List Int} {A : Option Addr} {B : Nat} {x y : Operand} (hgd : op.guard = none) (hty : op.type = 3)
    (ho : op.op = .call { callee := .builtin .copy, args := #[x, y], argTypes := #[25, 25] }) (hx : a.eval x = .slice (some ⟨b, o, none⟩) 4 4) (hy : a.eval y = .slice A n c)
    (h : Vr w b t (tl T)) (hr : Rd .i64 w B A S) (hn : n ≤ 4) (hl : S.length = n) (hf : o + 4 ≤ T.length)
    (hq : ∀ w', Vr w' b t (tl (splice T o S)) → Chg b (b + 1) w w' → (w'.heap.size ≤ w.heap.size ∧ w.heap.size ≤ w'.heap.size) → K (a.put op.dst (goInt n)) w') :
    if Region.wanted op (yielded ops a.tmps) = true then Oper.wp Try.prog op a w K Q else E := by
  have hw : Region.wanted op (yielded ops a.tmps) = true := by simp [Region.wanted, hgd]
  rw [if_pos hw]
  obtain ⟨w', hrun, h2, h3, h4⟩ := run_tcopy (c := c) h hr hn hl hf
  unfold Oper.wp execOp
  simp only [ho, resolve, invoke, builtin, Sem.run_bind, Sem.run_pure, Result.andThen_ok, List.map_toArray, List.map_cons, List.map_nil, hx, hy, hty, hrun]
  exact hq w' h2 h3 h4
theorem wpl_tcopy {ops : Array Oper} {rest : List Oper} {w : World} {op : Oper} {a : Act} {Q : Exit → Act → World → Prop} {b o n c : Nat} {t : TypeId} {T S : List Int} {A : Option Addr} {B : Nat} {x y : Operand} (hgd : op.guard = none) (hty : op.type = 3)
    (ho : op.op = .call { callee := .builtin .copy, args := #[x, y], argTypes := #[25, 25] }) (hx : a.eval x = .slice (some ⟨b, o, none⟩) 4 4) (hy : a.eval y = .slice A n c)
    (h : Vr w b t (tl T)) (hr : Rd .i64 w B A S) (hn : n ≤ 4) (hl : S.length = n) (hf : o + 4 ≤ T.length)
    (hq : ∀ w', Vr w' b t (tl (splice T o S)) → Chg b (b + 1) w w' → (w'.heap.size ≤ w.heap.size ∧ w.heap.size ≤ w'.heap.size) → wpList Try.prog ops Q rest (a.put op.dst (goInt n)) w') : wpList Try.prog ops Q (op :: rest) a w :=
  wpList_step fun K hK => by
    have := step_tcopy (ops := ops) (K := K) (Q := Q) (E := K (a.put op.dst undef) w) hgd hty ho hx hy h hr hn hl hf (fun w' h2 h3 h4 => hK _ _ (hq w' h2 h3 h4))
    exact this

theorem iCount_any (n : Int) (w : World) : Calls Try.prog 65 #[.int .i64 n] w fun e w' => e = .returned (.bool (inB n 1 4)) ∧ w = w' := by
  by_cases h0 : 1 ≤ n
  · by_cases h1 : n ≤ 4
    · rw [inB_true.2 ⟨h0, h1⟩]
      have i0 : decide (1 ≤ n) = true := decide_eq_true h0
      have i1 : decide (n ≤ 4) = true := decide_eq_true h1
      go_enter Try.func65, Try.ntmps65
      go_wp2
      go_ret
      exact ⟨rfl, rfl⟩
    · rw [inB_false.2 (by omega)]
      have i0 : decide (1 ≤ n) = true := decide_eq_true h0
      have i1 : decide (n ≤ 4) = false := decide_eq_false h1
      go_enter Try.func65, Try.ntmps65
      go_wp2
      go_ret
      exact ⟨rfl, rfl⟩
  · rw [inB_false.2 (by omega)]
    have i1 : decide (1 ≤ n) = false := decide_eq_false h0
    go_enter Try.func65, Try.ntmps65
    go_wp2
    go_ret
    exact ⟨rfl, rfl⟩

def validM (D : MRights) : MRights := if rightsOkB D = true then D else rZ

set_option maxHeartbeats 2000000 in
theorem tValid_c {w : World} {D : MRights} (hS : Shp D.Give.length D) (hn : 1 ≤ D.Give.length ∧ D.Give.length ≤ 4) : Calls Try.prog 48 #[.agg (tl (tOf D)).toArray] w (NewVB rightsL w (validM D) (rightsOkB D)) := by
  obtain ⟨wa, hwa, B0, sa, x_a, x_r⟩ := frame2 w 57 (tl (tOf D)) 27 [.slice none 0 0, .slice none 0 0]
  have sa_1 := Nat.le_of_eq sa
  have sa_2 := Nat.le_of_eq sa.symm
  clear sa
  have hT := tOf_len D
  by_cases hf : rightsOkB D = true
  case neg =>
    have hf' : rightsOkB D = false := by simpa using hf
    have HF := Lib.hid hf'
    have HM : Hid (validM D = rZ) := if_neg hf
    clear hf hf'
    go_enter Try.func48, Try.ntmps48
    go_wp2_with (refine wpl_tload x_a hT rfl rfl rfl ?_)
    refine (tOk_c hS hn).mono ?_
    rintro e w1 ⟨rfl, h_w1⟩
    replace x_r := x_r.from_ h_w1
    have B_w1 := B0.trans (h_w1.mono B0.size)
    rw [HF.out]
    have c_r_0_w1 := x_r.cell (i := 0) rfl
    have f_r_0_w1 := x_r.frozen 0
    have c_r_1_w1 := x_r.cell (i := 1) rfl
    have f_r_1_w1 := x_r.frozen 1
    have i_r_0 := x_r.same (i := 0) rfl
    have i_r_1 := x_r.same (i := 1) rfl
    go_wp2
    refine ret_cell_tmp (by rfl) (by rfl) x_r Try.underlying27 sz_rights (by rfl) ?_
    rw [HM.out, HF.out]
    exact ⟨_, rfl, ov_rZ (Nat.le_refl _), B_w1⟩
  have HF := Lib.hid hf
  have HM : Hid (validM D = D) := if_pos hf
  clear hf
  go_enter Try.func48, Try.ntmps48
  go_wp2_with (refine wpl_tload x_a hT rfl rfl rfl ?_)
  refine (tOk_c hS hn).mono ?_
  rintro e w1 ⟨rfl, h_w1⟩
  replace x_a := x_a.from_ h_w1
  replace x_r := x_r.from_ h_w1
  have B_w1 := B0.trans (h_w1.mono B0.size)
  have s_w1 := h_w1.size
  rw [HF.out]
  go_wp2_with (refine wpl_tload x_a hT rfl rfl rfl ?_)
  refine (tRights_c hS hn).mono ?_
  rintro e w2 ⟨u, rfl, ou, h_w2⟩
  replace x_r := x_r.from_ h_w2
  have B_w2 := B_w1.trans (h_w2.mono B_w1.size)
  have s_w2 := h_w2.size
  obtain ⟨AG, cG, AS, cS, rfl, -, -⟩ := rv_rights ou.rd
  have c_r_0_w2 := x_r.cell (i := 0) rfl
  have f_r_0_w2 := x_r.frozen 0
  have c_r_1_w2 := x_r.cell (i := 1) rfl
  have f_r_1_w2 := x_r.frozen 1
  obtain ⟨w3, e_w3, s_w3, h_w3, y⟩ := store_step x_r [.slice AG D.Give.length cG, .slice AS D.Spent.length cS] rfl
  replace e_w3 : ((w2.setCell ⟨w.heap.size + 1, 0, none⟩ (.slice AG D.Give.length cG)).setCell ⟨w.heap.size + 1, 1, none⟩ (.slice AS D.Spent.length cS)) = w3 := e_w3
  have s_w3_1 := Nat.le_of_eq s_w3
  have s_w3_2 := Nat.le_of_eq s_w3.symm
  clear s_w3
  have B_w3 := Below.chg_ B_w2 h_w3 (by omega) (by omega)
  replace ou := ou.chg h_w3 (by omega)
  replace x_r : Vr w3 (w.heap.size + 1) 27 [.slice AG D.Give.length cG, .slice AS D.Spent.length cS] := y
  clear y
  have c_r_0_w3 := x_r.cell (i := 0) rfl
  have f_r_0_w3 := x_r.frozen 0
  have c_r_1_w3 := x_r.cell (i := 1) rfl
  have f_r_1_w3 := x_r.frozen 1
  go_wp2
  refine ret_cell_tmp (by rfl) (by rfl) x_r Try.underlying27 sz_rights (by rfl) ?_
  rw [HM.out, HF.out]
  exact ⟨_, rfl, ou.widen (by omega) (by omega) (Nat.le_refl _), B_w3⟩

end Go.Proofs.Ytmbipgnecjlicaa
