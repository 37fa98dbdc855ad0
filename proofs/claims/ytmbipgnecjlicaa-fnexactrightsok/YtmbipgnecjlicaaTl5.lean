/- impl.tally: arrays compared by '=='; the contract of same. Laid by a program of ours (src/tl5.py). -/
import Derived.Test.YtmbipgnecjlicaaTl3
import Derived.Laws.StructEq
namespace Go.Proofs.Ytmbipgnecjlicaa
open Go.RowKit
set_option linter.unusedVariables false

theorem a4u : Try.prog.underlying 54 = some (.array 4 3) := by kernel_rfl
theorem a44u : Try.prog.underlying 55 = some (.array 4 54) := by kernel_rfl
theorem a4i : (Try.prog.info? 54).map (·.size) = some 4 := by kernel_rfl
theorem a44i : (Try.prog.info? 55).map (·.size) = some 16 := by kernel_rfl
theorem a4g : Try.prog.eqGuardType Try.prog.depth 54 = false := by kernel_rfl
theorem a44g : Try.prog.eqGuardType Try.prog.depth 55 = false := by kernel_rfl
theorem szi (W : World) : (sizeOf 3).run Try.prog W = .ok 1 W := by
  have h : (Try.prog.info? 3).map (·.size) = some 1 := by kernel_rfl
  cases hq : Try.prog.info? 3 with
  | none => simp [hq] at h
  | some i => simp [hq] at h; simp [sizeOf, typeInfo, hq, h]
theorem sz4 (W : World) : (sizeOf 54).run Try.prog W = .ok 4 W := by
  have h := a4i
  cases hq : Try.prog.info? 54 with
  | none => simp [hq] at h
  | some i => simp [hq] at h; simp [sizeOf, typeInfo, hq, h]
theorem agg4 (W : World) : (isAgg 54).run Try.prog W = .ok true W := by
  unfold isAgg
  rw [Sem.run_bind, run_underlying a4u W]
  rfl
theorem aggi (W : World) : (isAgg 3).run Try.prog W = .ok false W := by
  unfold isAgg
  rw [Sem.run_bind, run_underlying Try.underlying3 W]
  rfl

theorem run_eq_arr4 {t e : TypeId} {n d : Nat} {xs ys : Array Value} {x y : Nat → Value} {p : Nat → Bool} (W : World) (hu : Try.prog.underlying t = some (.array 4 e)) (hz : (sizeOf e).run Try.prog W = .ok n W)
    (hx : ∀ i, i < 4 → (part e xs (i * n)).run Try.prog W = .ok (x i) W) (hy : ∀ i, i < 4 → (part e ys (i * n)).run Try.prog W = .ok (y i) W) (hq : ∀ i, i < 4 → (Op.equalIn d e (x i) (y i)).run Try.prog W = .ok (p i) W) :
    (Op.equalIn (d + 1) t (.agg xs) (.agg ys)).run Try.prog W = .ok (p 0 && (p 1 && (p 2 && p 3))) W := by
  rw [Op.equalIn]
  simp only [Sem.run_bind, run_underlying hu, Result.andThen_ok, hz]
  simp only [Std.Legacy.Range.forIn_eq_forIn_range', Std.Legacy.Range.size, Nat.sub_zero, Nat.div_one, List.range'_succ, List.range'_zero, List.forIn_cons, List.forIn_nil, Sem.run_bind, Nat.zero_add, Nat.reduceAdd]
  have x0 := hx 0 (by omega)
  have x1 := hx 1 (by omega)
  have x2 := hx 2 (by omega)
  have x3 := hx 3 (by omega)
  have y0 := hy 0 (by omega)
  have y1 := hy 1 (by omega)
  have y2 := hy 2 (by omega)
  have y3 := hy 3 (by omega)
  have q0 := hq 0 (by omega)
  have q1 := hq 1 (by omega)
  have q2 := hq 2 (by omega)
  have q3 := hq 3 (by omega)
  rw [x0, Result.andThen_ok, y0, Result.andThen_ok, q0, Result.andThen_ok]
  cases p 0
  · simp
  simp only [Bool.not_true, Bool.false_eq_true, if_false, Sem.run_pure, Result.andThen_ok, Sem.run_bind]
  rw [x1, Result.andThen_ok, y1, Result.andThen_ok, q1, Result.andThen_ok]
  cases p 1
  · simp
  simp only [Bool.not_true, Bool.false_eq_true, if_false, Sem.run_pure, Result.andThen_ok, Sem.run_bind]
  rw [x2, Result.andThen_ok, y2, Result.andThen_ok, q2, Result.andThen_ok]
  cases p 2
  · simp
  simp only [Bool.not_true, Bool.false_eq_true, if_false, Sem.run_pure, Result.andThen_ok, Sem.run_bind]
  rw [x3, Result.andThen_ok, y3, Result.andThen_ok, q3, Result.andThen_ok]
  cases p 3 <;> simp

theorem part_i (W : World) {T : List Int} {i : Nat} (h : i < T.length) : (part 3 (tl T).toArray i).run Try.prog W = .ok (.int .i64 (tg T i)) W := by
  unfold part
  have hx : (tl T).toArray[i]? = some (.int .i64 (tg T i)) := by simpa using tl_get h
  simp only [Sem.run_bind, aggi, Result.andThen_ok, Bool.false_eq_true, if_false, hx, Sem.run_pure]
theorem part_4 (W : World) {T : List Int} {i : Nat} : (part 54 (tl T).toArray i).run Try.prog W = .ok (.agg (tl ((T.drop i).take 4)).toArray) W := by
  unfold part
  simp only [Sem.run_bind, agg4, Result.andThen_ok, if_true, sz4, Sem.run_pure]
  congr 3
  simp [tl, List.map_take, List.map_drop, List.extract_toArray]
theorem eq4_run (d : Nat) (W : World) {T U : List Int} (h : T.length = 4) (h' : U.length = 4) : (Op.equalIn (d + 2) 54 (.agg (tl T).toArray) (.agg (tl U).toArray)).run Try.prog W = .ok (decide (T = U)) W := by
  have hu : Try.prog.underlying 3 = some (.int .i64) := Try.underlying3
  rw [run_eq_arr4 (p := fun i => tg T i == tg U i) W a4u (szi W) (fun i hi => by rw [Nat.mul_one]; exact part_i W (by omega)) (fun i hi => by rw [Nat.mul_one]; exact part_i W (by omega)) (fun i hi => run_equalIn_int W d _ .i64 .i64 _ _ hu)]
  congr 1
  match T, U, h, h' with
  | [a0, a1, a2, a3], [b0, b1, b2, b3], _, _ =>
    simp [tg]
    by_cases e0 : a0 = b0 <;> by_cases e1 : a1 = b1 <;> by_cases e2 : a2 = b2 <;> by_cases e3 : a3 = b3 <;> simp [e0, e1, e2, e3]
theorem list4x4 {T U : List Int} (h : T.length = 16) (h' : U.length = 16) : (decide (T.take 4 = U.take 4) && (decide ((T.drop 4).take 4 = (U.drop 4).take 4) && (decide ((T.drop 8).take 4 = (U.drop 8).take 4) && decide ((T.drop 12).take 4 = (U.drop 12).take 4)))) = decide (T = U) := by
  match T, U, h, h' with
  | [a0, a1, a2, a3, b0, b1, b2, b3, c0, c1, c2, c3, d0, d1, d2, d3], [e0, e1, e2, e3, f0, f1, f2, f3, g0, g1, g2, g3, h0, h1, h2, h3], _, _ =>
    rw [Bool.eq_iff_iff]
    simp
    constructor
    · rintro ⟨⟨rfl, rfl, rfl, rfl⟩, ⟨rfl, rfl, rfl, rfl⟩, ⟨rfl, rfl, rfl, rfl⟩, rfl, rfl, rfl, rfl⟩
      simp
    · rintro ⟨rfl, rfl, rfl, rfl, rfl, rfl, rfl, rfl, rfl, rfl, rfl, rfl, rfl, rfl, rfl, rfl⟩
      simp
theorem eq44_run (d : Nat) (W : World) {T U : List Int} (h : T.length = 16) (h' : U.length = 16) : (Op.equalIn (d + 3) 55 (.agg (tl T).toArray) (.agg (tl U).toArray)).run Try.prog W = .ok (decide (T = U)) W := by
  rw [run_eq_arr4 (p := fun i => decide ((T.drop (i * 4)).take 4 = (U.drop (i * 4)).take 4)) W a44u (sz4 W) (fun i hi => part_4 W) (fun i hi => part_4 W) (fun i hi => eq4_run d W (by simp; omega) (by simp; omega))]
  rw [← list4x4 h h']
  rfl
theorem eql4 {T U : List Int} (h : T.length = 4) (h' : U.length = 4) (W : World) : (binOp .eql 54 (.agg (tl T).toArray) (.agg (tl U).toArray)).run Try.prog W = .ok (.bool (decide (T = U))) W := by
  rw [run_eql_struct, eq4_run 9998 W h h']; rfl
theorem eql44 {T U : List Int} (h : T.length = 16) (h' : U.length = 16) (W : World) : (binOp .eql 55 (.agg (tl T).toArray) (.agg (tl U).toArray)).run Try.prog W = .ok (.bool (decide (T = U))) W := by
  rw [run_eql_struct, eq44_run 9997 W h h']; rfl
theorem guard4 (op : BinOp) (x y : Operand) (W : World) (xs ys : Array Value) : (eqGuard op 54 x y (.agg xs) (.agg ys)).run Try.prog W = .ok () W := run_eqGuard_agg W op _ x y xs ys a4g
theorem guard44 (op : BinOp) (x y : Operand) (W : World) (xs ys : Array Value) : (eqGuard op 55 x y (.agg xs) (.agg ys)).run Try.prog W = .ok () W := run_eqGuard_agg W op _ x y xs ys a44g

/-- a part of it, loaded as one step of a plain region, guarded or not -/
theorem Vr.range {w : World} {b : Nat} {t : TypeId} {T : List Int} (h : Vr w b t (tl T)) (o n : Nat) : w.rangeAt b o (tl ((T.drop o).take n)) := fun j v hv => by
  refine h.cell ?_
  have e : tl ((T.drop o).take n) = ((tl T).drop o).take n := by simp [tl, List.map_take, List.map_drop]
  rw [e, List.getElem?_take] at hv
  split at hv
  · rwa [List.getElem?_drop] at hv
  · cases hv
theorem wpl_mload {w : World} {b off n : Nat} {t ty : TypeId} {T : List Int} {dd : TypeDesc} {ops : Array Oper} {rest : List Oper} {o : Oper} {a : Act} {Q : Exit → Act → World → Prop} {x : Operand} (h : Vr w b t (tl T)) (hT : off + n ≤ T.length) (hu : Try.prog.underlying ty = some dd) (hd : dd.isRow = true) (hi : (Try.prog.info? ty).map (·.size) = some n)
    (ho : o.op = .load ty x) (hx : a.eval x = .pointer (some ⟨b, off, none⟩)) (hw : Region.wanted o (yielded ops a.tmps) = true)
    (hq : wpList Try.prog ops Q rest (a.put o.dst (.agg (tl ((T.drop off).take n)).toArray)) w) : wpList Try.prog ops Q (o :: rest) a w :=
  wpList_step fun K hK => by
    rw [if_pos hw]
    exact wp_load_mid ty x ho b off hx _ _ (h.range off n) hu hd (by rw [hi, tl_len]; simp; omega) (hK _ _ hq)

def sameT (T U : List Int) : Bool := decide ((T.drop 1).take 16 = (U.drop 1).take 16) && decide ((T.drop 17).take 4 = (U.drop 17).take 4)

set_option maxHeartbeats 1000000 in
theorem tSame_c {w : World} {T U : List Int} (hT : T.length = 21) (hU : U.length = 21) :
    Calls Try.prog 53 #[.agg (tl T).toArray, .agg (tl U).toArray] w fun e w' => e = .returned (.bool (sameT T U)) ∧ Below w.heap.size w w' := by
  obtain ⟨wa, hwa, B0, sa, x_a, x_b⟩ := frame2 w 57 (tl T) 57 (tl U)
  clear sa
  obtain ⟨T1, hT1⟩ : ∃ X, (T.drop 1).take 16 = X := ⟨_, rfl⟩
  obtain ⟨U1, hU1⟩ : ∃ X, (U.drop 1).take 16 = X := ⟨_, rfl⟩
  obtain ⟨T2, hT2⟩ : ∃ X, (T.drop 17).take 4 = X := ⟨_, rfl⟩
  obtain ⟨U2, hU2⟩ : ∃ X, (U.drop 17).take 4 = X := ⟨_, rfl⟩
  have g1 := eql44 (T := T1) (U := U1) (by rw [← hT1]; simp; omega) (by rw [← hU1]; simp; omega)
  have g2 := eql4 (T := T2) (U := U2) (by rw [← hT2]; simp; omega) (by rw [← hU2]; simp; omega)
  have k1 := guard44
  have k2 := guard4
  obtain ⟨q1, hq1⟩ : ∃ q, decide (T1 = U1) = q := ⟨_, rfl⟩
  obtain ⟨q2, hq2⟩ : ∃ q, decide (T2 = U2) = q := ⟨_, rfl⟩
  rw [hq1] at g1
  rw [hq2] at g2
  have HO : Hid (sameT T U = (q1 && q2)) := by show _ = _; unfold sameT; rw [hT1, hU1, hT2, hU2, hq1, hq2]
  have H1 := Lib.hid hT1
  have H2 := Lib.hid hU1
  have H3 := Lib.hid hT2
  have H4 := Lib.hid hU2
  clear hq1 hq2 hT1 hU1 hT2 hU2
  have l1 : ∀ (ops : Array Oper) (rest : List Oper) (o : Oper) (a : Act) (Q : Exit → Act → World → Prop) (x : Operand), o.op = .load 55 x → a.eval x = .pointer (some ⟨w.heap.size, 1, none⟩) → Region.wanted o (yielded ops a.tmps) = true → wpList Try.prog ops Q rest (a.put o.dst (.agg (tl T1).toArray)) wa → wpList Try.prog ops Q (o :: rest) a wa := fun _ _ _ _ _ _ h1 h2 h3 h4 => wpl_mload x_a (n := 16) (by omega) a44u rfl a44i h1 h2 h3 (by rw [H1.out]; exact h4)
  have l2 : ∀ (ops : Array Oper) (rest : List Oper) (o : Oper) (a : Act) (Q : Exit → Act → World → Prop) (x : Operand), o.op = .load 55 x → a.eval x = .pointer (some ⟨w.heap.size + 1, 1, none⟩) → Region.wanted o (yielded ops a.tmps) = true → wpList Try.prog ops Q rest (a.put o.dst (.agg (tl U1).toArray)) wa → wpList Try.prog ops Q (o :: rest) a wa := fun _ _ _ _ _ _ h1 h2 h3 h4 => wpl_mload x_b (n := 16) (by omega) a44u rfl a44i h1 h2 h3 (by rw [H2.out]; exact h4)
  have l3 : ∀ (ops : Array Oper) (rest : List Oper) (o : Oper) (a : Act) (Q : Exit → Act → World → Prop) (x : Operand), o.op = .load 54 x → a.eval x = .pointer (some ⟨w.heap.size, 17, none⟩) → Region.wanted o (yielded ops a.tmps) = true → wpList Try.prog ops Q rest (a.put o.dst (.agg (tl T2).toArray)) wa → wpList Try.prog ops Q (o :: rest) a wa := fun _ _ _ _ _ _ h1 h2 h3 h4 => wpl_mload x_a (n := 4) (by omega) a4u rfl a4i h1 h2 h3 (by rw [H3.out]; exact h4)
  have l4 : ∀ (ops : Array Oper) (rest : List Oper) (o : Oper) (a : Act) (Q : Exit → Act → World → Prop) (x : Operand), o.op = .load 54 x → a.eval x = .pointer (some ⟨w.heap.size + 1, 17, none⟩) → Region.wanted o (yielded ops a.tmps) = true → wpList Try.prog ops Q rest (a.put o.dst (.agg (tl U2).toArray)) wa → wpList Try.prog ops Q (o :: rest) a wa := fun _ _ _ _ _ _ h1 h2 h3 h4 => wpl_mload x_b (n := 4) (by omega) a4u rfl a4i h1 h2 h3 (by rw [H4.out]; exact h4)
  have L1 := Lib.hid l1
  have L2 := Lib.hid l2
  have L3 := Lib.hid l3
  have L4 := Lib.hid l4
  clear l1 l2 l3 l4
  cases q1
  · go_enter Try.func53, Try.ntmps53
    go_wp2_with (first | refine L1.out _ _ _ _ _ _ rfl rfl rfl ?_ | refine L2.out _ _ _ _ _ _ rfl rfl rfl ?_)
    go_ret
    exact ⟨ret_eq (by rw [HO.out]; rfl), B0⟩
  · go_enter Try.func53, Try.ntmps53
    go_wp2_with (first | refine L1.out _ _ _ _ _ _ rfl rfl rfl ?_ | refine L2.out _ _ _ _ _ _ rfl rfl rfl ?_ | refine L3.out _ _ _ _ _ _ rfl rfl rfl ?_ | refine L4.out _ _ _ _ _ _ rfl rfl rfl ?_)
    go_ret
    exact ⟨ret_eq (by rw [HO.out]; rfl), B0⟩

end Go.Proofs.Ytmbipgnecjlicaa
