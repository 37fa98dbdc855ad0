/- impl.tally: arrays compared by '=='; the contract of same. Laid by a program of ours (src/tl5.py). · impl.tally: the contract of join. Laid by a program of ours (src/tl6.py). · impl.pairOf. Laid by a program of ours (src/tl7.py). -/
import Derived.Test.YtmbipgnecjlicaaTl4
import Derived.Laws.StructEq

namespace Go.Proofs.Ytmbipgnecjlicaa
open Go.RowKit
set_option linter.unusedVariables false

theorem a4u : Try.prog.underlying 54 = some (.array 4 3) := by kernel_rfl
theorem a44u : Try.prog.underlying 55 = some (.array 4 54) := by kernel_rfl
theorem a4i : (Try.prog.info? 54).map (·.size) = some 4 := by kernel_rfl
theorem a44i : (Try.prog.info? 55).map (·.size) = some 16 := by kernel_rfl
theorem a4g : Try.prog.eqGuardType Try.prog.depth 54 = false := by kernel_rfl
theorem a44g : Try.prog.eqGuardType Try.prog.depth 55 = false := by kernel_rfl
theorem szi (W : World) : (sizeOf 3).run Try.prog W = .ok 1 W := by
  have h : (Try.prog.info? 3).map (·.size) = some 1 := by kernel_rfl
  cases hq : Try.prog.info? 3 with
  | none => simp [hq] at h
  | some i => simp [hq] at h; simp [sizeOf, typeInfo, hq, h]
theorem sz4 (W : World) : (sizeOf 54).run Try.prog W = .ok 4 W := by
  have h := a4i
  cases hq : Try.prog.info? 54 with
  | none => simp [hq] at h
  | some i => simp [hq] at h; simp [sizeOf, typeInfo, hq, h]
theorem agg4 (W : World) : (isAgg 54).run Try.prog W = .ok true W := by
  unfold isAgg
  rw [Sem.run_bind, run_underlying a4u W]
  rfl
theorem aggi (W : World) : (isAgg 3).run Try.prog W = .ok false W := by
  unfold isAgg
  rw [Sem.run_bind, run_underlying Try.underlying3 W]
  rfl

theorem run_eq_arr4 {t e : TypeId} {n d : Nat} {xs ys : Array Value} {x y : Nat → Value} {p : Nat → Bool} (W : World) (hu : Try.prog.underlying t = some (.array 4 e)) (hz : (sizeOf e).run Try.prog W = .ok n W)
    (hx : ∀ i, i < 4 → (part e xs (i * n)).run Try.prog W = .ok (x i) W) (hy : ∀ i, i < 4 → (part e ys (i * n)).run Try.prog W = .ok (y i) W) (hq : ∀ i, i < 4 → (Op.equalIn d e (x i) (y i)).run Try.prog W = .ok (p i) W) :
    (Op.equalIn (d + 1) t (.agg xs) (.agg ys)).run Try.prog W = .ok (p 0 && (p 1 && (p 2 && p 3))) W := by
  rw [Op.equalIn]
  simp only [Sem.run_bind, run_underlying hu, Result.andThen_ok, hz]
  simp only [Std.Legacy.Range.forIn_eq_forIn_range', Std.Legacy.Range.size, Nat.sub_zero, Nat.div_one, List.range'_succ, List.range'_zero, List.forIn_cons, List.forIn_nil, Sem.run_bind, Nat.zero_add, Nat.reduceAdd]
  have x0 := hx 0 (by omega)
  have x1 := hx 1 (by omega)
  have x2 := hx 2 (by omega)
  have x3 := hx 3 (by omega)
  have y0 := hy 0 (by omega)
  have y1 := hy 1 (by omega)
  have y2 := hy 2 (by omega)
  have y3 := hy 3 (by omega)
  have q0 := hq 0 (by omega)
  have q1 := hq 1 (by omega)
  have q2 := hq 2 (by omega)
  have q3 := hq 3 (by omega)
  rw [x0, Result.andThen_ok, y0, Result.andThen_ok, q0, Result.andThen_ok]
  cases p 0
  · simp
  simp only [Bool.not_true, Bool.false_eq_true, if_false, Sem.run_pure, Result.andThen_ok, Sem.run_bind]
  rw [x1, Result.andThen_ok, y1, Result.andThen_ok, q1, Result.andThen_ok]
  cases p 1
  · simp
  simp only [Bool.not_true, Bool.false_eq_true, if_false, Sem.run_pure, Result.andThen_ok, Sem.run_bind]
  rw [x2, Result.andThen_ok, y2, Result.andThen_ok, q2, Result.andThen_ok]
  cases p 2
  · simp
  simp only [Bool.not_true, Bool.false_eq_true, if_false, Sem.run_pure, Result.andThen_ok, Sem.run_bind]
  rw [x3, Result.andThen_ok, y3, Result.andThen_ok, q3, Result.andThen_ok]
  cases p 3 <;> simp

theorem part_i (W : World) {T : List Int} {i : Nat} (h : i < T.length) : (part 3 (tl T).toArray i).run Try.prog W = .ok (.int .i64 (tg T i)) W := by
  unfold part
  have hx : (tl T).toArray[i]? = some (.int .i64 (tg T i)) := by simpa using tl_get h
  simp only [Sem.run_bind, aggi, Result.andThen_ok, Bool.false_eq_true, if_false, hx, Sem.run_pure]
theorem part_4 (W : World) {T : List Int} {i : Nat} : (part 54 (tl T).toArray i).run Try.prog W = .ok (.agg (tl ((T.drop i).take 4)).toArray) W := by
  unfold part
  simp only [Sem.run_bind, agg4, Result.andThen_ok, if_true, sz4, Sem.run_pure]
  congr 3
  simp [tl, List.map_take, List.map_drop, List.extract_toArray]
theorem eq4_run (d : Nat) (W : World) {T U : List Int} (h : T.length = 4) (h' : U.length = 4) : (Op.equalIn (d + 2) 54 (.agg (tl T).toArray) (.agg (tl U).toArray)).run Try.prog W = .ok (decide (T = U)) W := by
  have hu : Try.prog.underlying 3 = some (.int .i64) := Try.underlying3
  rw [run_eq_arr4 (p := fun i => tg T i == tg U i) W a4u (szi W) (fun i hi => by rw [Nat.mul_one]; exact part_i W (by omega)) (fun i hi => by rw [Nat.mul_one]; exact part_i W (by omega)) (fun i hi => run_equalIn_int W d _ .i64 .i64 _ _ hu)]
  congr 1
  match T, U, h, h' with
  | [a0, a1, a2, a3], [b0, b1, b2, b3], _, _ =>
    simp [tg]
    by_cases e0 : a0 = b0 <;> by_cases e1 : a1 = b1 <;> by_cases e2 : a2 = b2 <;> by_cases e3 : a3 = b3 <;> simp [e0, e1, e2, e3]
theorem list4x4 {T U : List Int} (h : T.length = 16) (h' : U.length = 16) : (decide (T.take 4 = U.take 4) && (decide ((T.drop 4).take 4 = (U.drop 4).take 4) && (decide ((T.drop 8).take 4 = (U.drop 8).take 4) && decide ((T.drop 12).take 4 = (U.drop 12).take 4)))) = decide (T = U) := by
  match T, U, h, h' with
  | [a0, a1, a2, a3, b0, b1, b2, b3, c0, c1, c2, c3, d0, d1, d2, d3], [e0, e1, e2, e3, f0, f1, f2, f3, g0, g1, g2, g3, h0, h1, h2, h3], _, _ =>
    rw [Bool.eq_iff_iff]
    simp
    constructor
    · rintro ⟨⟨rfl, rfl, rfl, rfl⟩, ⟨rfl, rfl, rfl, rfl⟩, ⟨rfl, rfl, rfl, rfl⟩, rfl, rfl, rfl, rfl⟩
      simp
    · rintro ⟨rfl, rfl, rfl, rfl, rfl, rfl, rfl, rfl, rfl, rfl, rfl, rfl, rfl, rfl, rfl, rfl⟩
      simp
theorem eq44_run (d : Nat) (W : World) {T U : List Int} (h : T.length = 16) (h' : U.length = 16) : (Op.equalIn (d + 3) 55 (.agg (tl T).toArray) (.agg (tl U).toArray)).run Try.prog W = .ok (decide (T = U)) W := by
  rw [run_eq_arr4 (p := fun i => decide ((T.drop (i * 4)).take 4 = (U.drop (i * 4)).take 4)) W a44u (sz4 W) (fun i hi => part_4 W) (fun i hi => part_4 W) (fun i hi => eq4_run d W (by simp; omega) (by simp; omega))]
  rw [← list4x4 h h']
  rfl
theorem eql4 {T U : List Int} (h : T.length = 4) (h' : U.length = 4) (W : World) : (binOp .eql 54 (.agg (tl T).toArray) (.agg (tl U).toArray)).run Try.prog W = .ok (.bool (decide (T = U))) W := by
  rw [run_eql_struct, eq4_run 9998 W h h']; rfl
theorem eql44 {T U : List Int} (h : T.length = 16) (h' : U.length = 16) (W : World) : (binOp .eql 55 (.agg (tl T).toArray) (.agg (tl U).toArray)).run Try.prog W = .ok (.bool (decide (T = U))) W := by
  rw [run_eql_struct, eq44_run 9997 W h h']; rfl
theorem guard4 (op : BinOp) (x y : Operand) (W : World) (xs ys : Array Value) : (eqGuard op 54 x y (.agg xs) (.agg ys)).run Try.prog W = .ok () W := run_eqGuard_agg W op _ x y xs ys a4g
theorem guard44 (op : BinOp) (x y : Operand) (W : World) (xs ys : Array Value) : (eqGuard op 55 x y (.agg xs) (.agg ys)).run Try.prog W = .ok () W := run_eqGuard_agg W op _ x y xs ys a44g

/-- a part of it, loaded as one step of a plain region, guarded or not -/
theorem Vr.range {w : World} {b : Nat} {t : TypeId} {T : List Int} (h : Vr w b t (tl T)) (o n : Nat) : w.rangeAt b o (tl ((T.drop o).take n)) := fun j v hv => by
  refine h.cell ?_
  have e : tl ((T.drop o).take n) = ((tl T).drop o).take n := by simp [tl, List.map_take, List.map_drop]
  rw [e, List.getElem?_take] at hv
  split at hv
  · rwa [List.getElem?_drop] at hv
  · cases hv
theorem wpl_mload {w : World} {b off n : Nat} {t ty : TypeId} {T : List Int} {dd : TypeDesc} {ops : Array Oper} {rest : List Oper} {o : Oper} {a : Act} {Q : Exit → Act → World → Prop} {x : Operand} (h : Vr w b t (tl T)) (hT : off + n ≤ T.length) (hu : Try.prog.underlying ty = some dd) (hd : dd.isRow = true) (hi : (Try.prog.info? ty).map (·.size) = some n)
    (ho : o.op = .load ty x) (hx : a.eval x = .pointer (some ⟨b, off, none⟩)) (hw : Region.wanted o (yielded ops a.tmps) = true)
    (hq : wpList Try.prog ops Q rest (a.put o.dst (.agg (tl ((T.drop off).take n)).toArray)) w) : wpList Try.prog ops Q (o :: rest) a w :=
  wpList_step fun K hK => by
    rw [if_pos hw]
    exact wp_load_mid ty x ho b off hx _ _ (h.range off n) hu hd (by rw [hi, tl_len]; simp; omega) (hK _ _ hq)

def sameT (T U : List Int) : Bool := decide ((T.drop 1).take 16 = (U.drop 1).take 16) && decide ((T.drop 17).take 4 = (U.drop 17).take 4)

set_option maxHeartbeats 1000000 in
theorem tSame_c {w : World} {T U : List Int} (hT : T.length = 21) (hU : U.length = 21) :
    Calls Try.prog 53 #[.agg (tl T).toArray, .agg (tl U).toArray] w fun e w' => e = .returned (.bool (sameT T U)) ∧ Below w.heap.size w w' := by
  obtain ⟨wa, hwa, B0, sa, x_a, x_b⟩ := frame2 w 57 (tl T) 57 (tl U)
  clear sa
  obtain ⟨T1, hT1⟩ : ∃ X, (T.drop 1).take 16 = X := ⟨_, rfl⟩
  obtain ⟨U1, hU1⟩ : ∃ X, (U.drop 1).take 16 = X := ⟨_, rfl⟩
  obtain ⟨T2, hT2⟩ : ∃ X, (T.drop 17).take 4 = X := ⟨_, rfl⟩
  obtain ⟨U2, hU2⟩ : ∃ X, (U.drop 17).take 4 = X := ⟨_, rfl⟩
  have g1 := eql44 (T := T1) (U := U1) (by rw [← hT1]; simp; omega) (by rw [← hU1]; simp; omega)
  have g2 := eql4 (T := T2) (U := U2) (by rw [← hT2]; simp; omega) (by rw [← hU2]; simp; omega)
  have k1 := guard44
  have k2 := guard4
  obtain ⟨q1, hq1⟩ : ∃ q, decide (T1 = U1) = q := ⟨_, rfl⟩
  obtain ⟨q2, hq2⟩ : ∃ q, decide (T2 = U2) = q := ⟨_, rfl⟩
  rw [hq1] at g1
  rw [hq2] at g2
  have HO : Hid (sameT T U = (q1 && q2)) := by show _ = _; unfold sameT; rw [hT1, hU1, hT2, hU2, hq1, hq2]
  have H1 := Lib.hid hT1
  have H2 := Lib.hid hU1
  have H3 := Lib.hid hT2
  have H4 := Lib.hid hU2
  clear hq1 hq2 hT1 hU1 hT2 hU2
  have l1 : ∀ (ops : Array Oper) (rest : List Oper) (o : Oper) (a : Act) (Q : Exit → Act → World → Prop) (x : Operand), o.op = .load 55 x → a.eval x = .pointer (some ⟨w.heap.size, 1, none⟩) → Region.wanted o (yielded ops a.tmps) = true → wpList Try.prog ops Q rest (a.put o.dst (.agg (tl T1).toArray)) wa → wpList Try.prog ops Q (o :: rest) a wa := fun _ _ _ _ _ _ h1 h2 h3 h4 => wpl_mload x_a (n := 16) (by omega) a44u rfl a44i h1 h2 h3 (by rw [H1.out]; exact h4)
  have l2 : ∀ (ops : Array Oper) (rest : List Oper) (o : Oper) (a : Act) (Q : Exit → Act → World → Prop) (x : Operand), o.op = .load 55 x → a.eval x = .pointer (some ⟨w.heap.size + 1, 1, none⟩) → Region.wanted o (yielded ops a.tmps) = true → wpList Try.prog ops Q rest (a.put o.dst (.agg (tl U1).toArray)) wa → wpList Try.prog ops Q (o :: rest) a wa := fun _ _ _ _ _ _ h1 h2 h3 h4 => wpl_mload x_b (n := 16) (by omega) a44u rfl a44i h1 h2 h3 (by rw [H2.out]; exact h4)
  have l3 : ∀ (ops : Array Oper) (rest : List Oper) (o : Oper) (a : Act) (Q : Exit → Act → World → Prop) (x : Operand), o.op = .load 54 x → a.eval x = .pointer (some ⟨w.heap.size, 17, none⟩) → Region.wanted o (yielded ops a.tmps) = true → wpList Try.prog ops Q rest (a.put o.dst (.agg (tl T2).toArray)) wa → wpList Try.prog ops Q (o :: rest) a wa := fun _ _ _ _ _ _ h1 h2 h3 h4 => wpl_mload x_a (n := 4) (by omega) a4u rfl a4i h1 h2 h3 (by rw [H3.out]; exact h4)
  have l4 : ∀ (ops : Array Oper) (rest : List Oper) (o : Oper) (a : Act) (Q : Exit → Act → World → Prop) (x : Operand), o.op = .load 54 x → a.eval x = .pointer (some ⟨w.heap.size + 1, 17, none⟩) → Region.wanted o (yielded ops a.tmps) = true → wpList Try.prog ops Q rest (a.put o.dst (.agg (tl U2).toArray)) wa → wpList Try.prog ops Q (o :: rest) a wa := fun _ _ _ _ _ _ h1 h2 h3 h4 => wpl_mload x_b (n := 4) (by omega) a4u rfl a4i h1 h2 h3 (by rw [H4.out]; exact h4)
  have L1 := Lib.hid l1
  have L2 := Lib.hid l2
  have L3 := Lib.hid l3
  have L4 := Lib.hid l4
  clear l1 l2 l3 l4
  cases q1
  · go_enter Try.func53, Try.ntmps53
    go_wp2_with (first | refine L1.out _ _ _ _ _ _ rfl rfl rfl ?_ | refine L2.out _ _ _ _ _ _ rfl rfl rfl ?_)
    go_ret
    exact ⟨ret_eq (by rw [HO.out]; rfl), B0⟩
  · go_enter Try.func53, Try.ntmps53
    go_wp2_with (first | refine L1.out _ _ _ _ _ _ rfl rfl rfl ?_ | refine L2.out _ _ _ _ _ _ rfl rfl rfl ?_ | refine L3.out _ _ _ _ _ _ rfl rfl rfl ?_ | refine L4.out _ _ _ _ _ _ rfl rfl rfl ?_)
    go_ret
    exact ⟨ret_eq (by rw [HO.out]; rfl), B0⟩

end Go.Proofs.Ytmbipgnecjlicaa

namespace Go.Proofs.Ytmbipgnecjlicaa
open Go.RowKit
set_option linter.unusedVariables false

theorem MeetAt.len {r q D : MRights} {k j ks : Nat} (h : MeetAt r q D k j ks) : D.Give.length = r.Give.length := h.1.1
theorem Vr.tnm {w : World} {b : Nat} {t : TypeId} {r q D : MRights} {k j ks : Nat} (h : Vr w b t (tl (tOf D))) (hm : MeetAt r q D k j ks) : w.cell? ⟨b, 0, none⟩ = some (.int .i64 (r.Give.length : Int)) := by rw [h.tn, hm.len]
theorem meet_setS {r q D : MRights} {k : Nat} {m : Int} (h : MeetAt r q D k 0 k) (hk : k < r.Give.length) (hn : r.Give.length ≤ 4) (hm : mx (s1 D.Spent k) (s1 q.Spent k) = m) : ∃ E, MeetAt r q E k 0 (k + 1) ∧ (tl (tOf D)).set (17 + k) (.int .i64 m) = tl (tOf E) := by
  have hl := h.1.2.1
  refine ⟨_, h.spent hk, ?_⟩
  rw [tl_set, tOf_setS (by omega) (by omega)]
  have e : mx (D.Spent.getD k 0) (s1 q.Spent k) = m := hm
  rw [e]
theorem meet_setG {r q D : MRights} {k j ks : Nat} {m : Int} (h : MeetAt r q D k j ks) (hk : k < r.Give.length) (hj : j < r.Give.length) (hn : r.Give.length ≤ 4) (hm : mx (g2 D.Give k j) (g2 q.Give k j) = m) : ∃ E, MeetAt r q E k (j + 1) ks ∧ (tl (tOf D)).set (1 + k * 4 + j) (.int .i64 m) = tl (tOf E) := by
  have hl := h.len
  have hR := List.getElem?_eq_getElem (show k < D.Give.length by omega)
  have hRl := h.1.2.2 k _ hR
  refine ⟨_, h.give hR hk hj, ?_⟩
  rw [tl_set, tOf_setG hR (by omega) (by omega) (by omega), ← g2_of hR j, hm]

set_option maxRecDepth 100000 in
set_option maxHeartbeats 4000000 in
theorem tJoin_c {w : World} {r q : MRights} (hr : Shp r.Give.length r) (hn : 1 ≤ r.Give.length ∧ r.Give.length ≤ 4) :
    Calls Try.prog 50 #[.agg (tl (tOf r)).toArray, .agg (tl (tOf q)).toArray] w fun e w' => e = .returned (.agg (tl (tOf (meetR r q))).toArray) ∧ Below w.heap.size w w' := by
  obtain ⟨wa, hwa, B0, sa, x_a, x_b, x_r⟩ := frame3 w 57 (tl (tOf r)) 57 (tl (tOf q)) 57 [.int .i64 0, .int .i64 0, .int .i64 0, .int .i64 0, .int .i64 0, .int .i64 0, .int .i64 0, .int .i64 0, .int .i64 0, .int .i64 0, .int .i64 0, .int .i64 0, .int .i64 0, .int .i64 0, .int .i64 0, .int .i64 0, .int .i64 0, .int .i64 0, .int .i64 0, .int .i64 0, .int .i64 0]
  have sa_1 := Nat.le_of_eq sa
  have sa_2 := Nat.le_of_eq sa.symm
  clear sa
  have HM0 : Hid (MeetAt r q r 0 0 0) := MeetAt.start hr
  have c0 := x_a.tn
  go_enter Try.func50, Try.ntmps50
  go_wp2
  go_loopw [9] (fun j wr => ∃ (k : Nat) (D : MRights), k ≤ r.Give.length ∧ j = .int .i64 k ∧ Hid (MeetAt r q D k 0 k) ∧ Vr wr w.heap.size 57 (tl (tOf D)) ∧ Vr wr (w.heap.size + 1) 57 (tl (tOf q)) ∧ Vr wr (w.heap.size + 1 + 1) 57 [.int .i64 0, .int .i64 0, .int .i64 0, .int .i64 0, .int .i64 0, .int .i64 0, .int .i64 0, .int .i64 0, .int .i64 0, .int .i64 0, .int .i64 0, .int .i64 0, .int .i64 0, .int .i64 0, .int .i64 0, .int .i64 0, .int .i64 0, .int .i64 0, .int .i64 0, .int .i64 0, .int .i64 0] ∧ Below w.heap.size w wr ∧ w.heap.size + 1 + 1 + 1 ≤ wr.heap.size) (fun j _ => r.Give.length - (intOf j).toNat)
  case atStart => exact ⟨0, r, Nat.zero_le _, rfl, HM0, x_a, x_b, x_r, B0, sa_2⟩
  case round =>
    clear c0 x_a x_b x_r HM0
    obtain ⟨k, D, hk, rfl, HD, x_a, x_b, x_r, HB, hsz⟩ := hrel
    by_cases hlt : k < r.Give.length
    case neg =>
      have hk2 : ¬ ((k : Int) < (r.Give.length : Int)) := by omega
      have hke : k = r.Give.length := by omega
      have HE : Hid (D = meetR r q) := by have := HD.out; rw [hke] at this; exact this.end_
      clear hke
      go_wp2_with (first | refine wpl_tload x_a (tOf_len D) rfl rfl rfl ?_ | (refine wpl_tstore x_r rfl (tl_one (tOf D)) (by rw [tl_len, tOf_len]) rfl rfl rfl rfl ?_; intro w6 x_r6 h_w6 s_w6))
      have B_w6 := Below.chg_ HB h_w6 (by omega) (by omega)
      refine ret_cell (by rfl) (by rfl) x_r6 t57u (by rw [t57i, tl_len, tOf_len]) (by rfl) ?_
      exact ⟨by rw [HE.out], B_w6⟩
    have j1 : (k : Int) < (r.Give.length : Int) := by omega
    have j4 : (k : Int) < 4 := by omega
    have k4 : k < 4 := by omega
    obtain ⟨wd, hwd⟩ : ∃ x, ({ heap := wr.heap, tape := wr.tape, drawn := wr.drawn + 1, os := wr.os, output := wr.output } : World) = x := ⟨_, rfl⟩
    have hbd : Below wr.heap.size wr wd := by rw [← hwd]; exact (Below.refl wr.heap.size wr).drew
    have y_a := x_a.from_ hbd
    have y_b := x_b.from_ hbd
    have y_r := x_r.from_ hbd
    have B_wd := HB.trans (hbd.mono HB.size)
    have s_wd := hbd.size
    have c1 := y_a.tsv k4
    have c2 := y_b.tsv k4
    have f1 := y_a.frozen (17 + k)
    obtain ⟨x, hx⟩ : ∃ x, s1 D.Spent k = x := ⟨_, rfl⟩
    obtain ⟨y, hy⟩ : ∃ y, s1 q.Spent k = y := ⟨_, rfl⟩
    rw [hx] at c1
    rw [hy] at c2
    obtain ⟨m, hm⟩ : ∃ m, mx x y = m := ⟨_, rfl⟩
    have m1 : (if x < y then y else x) = m := by rw [← hm]; unfold mx; split <;> split <;> omega
    have HM : Hid (mx (s1 D.Spent k) (s1 q.Spent k) = m) := by show _ = _; rw [hx, hy]; exact hm
    clear hx hy hm
    obtain ⟨we, hwe, s_we, h_we, z_a⟩ := set_step y_a (17 + k) (.int .i64 m)
    have s_we_1 := Nat.le_of_eq s_we
    have s_we_2 := Nat.le_of_eq s_we.symm
    clear s_we
    obtain ⟨E, hE, eE⟩ := meet_setS HD.out hlt hn.2 HM.out
    rw [eE] at z_a
    have HE := Lib.hid hE
    clear hE eE
    replace y_b := y_b.chg h_we (by omega)
    replace y_r := y_r.chg h_we (by omega)
    have B_we := Below.chg_ B_wd h_we (by omega) (by omega)
    go_wp2_with fail
    refine wp_region_still_tail 12 (by kernel_rfl) (by kernel_rfl) ?_
    rw [hwd]
    simp only [List.take_succ_cons, List.take_zero, List.drop_succ_cons, List.drop_zero]
    repeat still_step
    refine wpStill_nil ?_
    have c0 := z_a.tnm HE.out
    clear c2 m1 HM HD x_a x_b x_r y_a
    go_wp2
    go_loopw [26] (fun j wr => ∃ (l : Nat) (D : MRights), l ≤ r.Give.length ∧ j = .int .i64 l ∧ Hid (MeetAt r q D k l (k + 1)) ∧ Vr wr w.heap.size 57 (tl (tOf D)) ∧ Vr wr (w.heap.size + 1) 57 (tl (tOf q)) ∧ Vr wr (w.heap.size + 1 + 1) 57 [.int .i64 0, .int .i64 0, .int .i64 0, .int .i64 0, .int .i64 0, .int .i64 0, .int .i64 0, .int .i64 0, .int .i64 0, .int .i64 0, .int .i64 0, .int .i64 0, .int .i64 0, .int .i64 0, .int .i64 0, .int .i64 0, .int .i64 0, .int .i64 0, .int .i64 0, .int .i64 0, .int .i64 0] ∧ Below w.heap.size w wr ∧ w.heap.size + 1 + 1 + 1 ≤ wr.heap.size) (fun j _ => r.Give.length - (intOf j).toNat)
    case atStart => exact ⟨0, E, Nat.zero_le _, rfl, HE, z_a, y_b, y_r, B_we, by omega⟩
    case round =>
      clear c0 c1 f1 z_a y_b y_r HE HB B_we B_wd hbd hwd h_we hwe
      obtain ⟨l, D, hl, rfl, HD, x_a, x_b, x_r, HB, hsz2⟩ := hrel
      by_cases hll : l < r.Give.length
      case neg =>
        have hl2 : ¬ ((l : Int) < (r.Give.length : Int)) := by omega
        have hle : l = r.Give.length := by omega
        have HE : Hid (MeetAt r q D (k + 1) 0 (k + 1)) := by have := HD.out; rw [hle] at this; exact this.row
        clear hle
        go_wp2
        go_roundw
        case rel => exact ⟨k + 1, D, by omega, by go_num, HE, x_a, x_b, x_r, HB, hsz2⟩
        case measure => simp [intOf]; omega
      have i1 : (l : Int) < (r.Give.length : Int) := by omega
      have i4 : (l : Int) < 4 := by omega
      have l4 : l < 4 := by omega
      obtain ⟨wd, hwd⟩ : ∃ x, ({ heap := wr.heap, tape := wr.tape, drawn := wr.drawn + 1, os := wr.os, output := wr.output } : World) = x := ⟨_, rfl⟩
      have hbd : Below wr.heap.size wr wd := by rw [← hwd]; exact (Below.refl wr.heap.size wr).drew
      have y_a := x_a.from_ hbd
      have y_b := x_b.from_ hbd
      have y_r := x_r.from_ hbd
      have B_wd := HB.trans (hbd.mono HB.size)
      have s_wd := hbd.size
      have c1 := y_a.tgv k4 l4
      have c2 := y_b.tgv k4 l4
      have f1 := y_a.frozen (1 + k * 4 + l)
      obtain ⟨x, hx⟩ : ∃ x, g2 D.Give k l = x := ⟨_, rfl⟩
      obtain ⟨y, hy⟩ : ∃ y, g2 q.Give k l = y := ⟨_, rfl⟩
      rw [hx] at c1
      rw [hy] at c2
      obtain ⟨m, hm⟩ : ∃ m, mx x y = m := ⟨_, rfl⟩
      have m1 : (if x < y then y else x) = m := by rw [← hm]; unfold mx; split <;> split <;> omega
      have HM : Hid (mx (g2 D.Give k l) (g2 q.Give k l) = m) := by show _ = _; rw [hx, hy]; exact hm
      clear hx hy hm
      obtain ⟨we, hwe, s_we, h_we, z_a⟩ := set_step y_a (1 + k * 4 + l) (.int .i64 m)
      have s_we_1 := Nat.le_of_eq s_we
      have s_we_2 := Nat.le_of_eq s_we.symm
      clear s_we
      obtain ⟨E, hE, eE⟩ := meet_setG HD.out hlt hll hn.2 HM.out
      rw [eE] at z_a
      have HE := Lib.hid hE
      clear hE eE
      replace y_b := y_b.chg h_we (by omega)
      replace y_r := y_r.chg h_we (by omega)
      have B_we := Below.chg_ B_wd h_we (by omega) (by omega)
      go_wp2_with fail
      refine wp_region_still_tail 18 (by kernel_rfl) (by kernel_rfl) ?_
      rw [hwd]
      simp only [List.take_succ_cons, List.take_zero, List.drop_succ_cons, List.drop_zero]
      repeat still_step
      refine wpStill_nil ?_
      clear c2 m1 HM HD x_a x_b x_r y_a
      go_wp2
      go_roundw
      case rel => exact ⟨l + 1, E, by omega, by go_num, HE, z_a, y_b, y_r, B_we, by omega⟩
      case measure => simp [intOf]; omega

end Go.Proofs.Ytmbipgnecjlicaa

namespace Go.Proofs.Ytmbipgnecjlicaa
open Go.RowKit
set_option linter.unusedVariables false

/-- the end of a function with two struct results and a value beside them -/
theorem ret_cell2_tmp {P : Program} {fn : Func} {R : Ending → World → Prop} {a : Act} {w : World} {p p' u : Tmp} {ty : TypeId} {b b' : Nat} {t : TypeId} {cs cs' : List Value} {fs : Array Field} (h : fn.results = #[.cell p ty, .cell p' ty, .tmp u])
    (hp : a.tmps.getD p undef = .pointer (some ⟨b, 0, none⟩)) (hp' : a.tmps.getD p' undef = .pointer (some ⟨b', 0, none⟩)) (hg : Vr w b t cs) (hg' : Vr w b' t cs') (hu : P.underlying ty = some (.struct fs)) (hi : (P.info? ty).map (·.size) = some cs.length) (hi' : (P.info? ty).map (·.size) = some cs'.length) (hdf : a.defers = [])
    (hR : R (.returned (.tuple #[.agg cs.toArray, .agg cs'.toArray, a.tmps.getD u undef])) w) : bodyPost P fn R .ret a w := by
  refine bodyPost_ret (v := .tuple #[.agg cs.toArray, .agg cs'.toArray, a.tmps.getD u undef]) ?_ hdf hR
  have hl := run_loadVar_row (P := P) w b t ty cs.toArray (0, 0) _ hg hu rfl (by simpa using hi)
  have hl' := run_loadVar_row (P := P) w b' t ty cs'.toArray (0, 0) _ hg' hu rfl (by simpa using hi')
  simp only [Array.getD_eq_getD_getElem?] at hp hp'
  simp only [results, h]
  simp [Sem.run_bind, Result.andThen, hp, hp', asAddr, hl, hl']

theorem takeH {P : Program} {md : Region.Mode} {ops : Array Oper} {Q : Exit → Act → World → Prop} {S : World → Prop} {i : Nat} {oi : Oper} {v : Value} {d : Option Tmp} {fuel : Nat} {listed : Array Bool} {a : Act} {w : World} (hi : ops[i]? = some oi) (hd : oi.dst = d)
    (hs : Region.noSelect ops = true) (hf : Region.free md ops listed i = true) (hr : (Region.ready md ops listed).contains i = true)
    (hQ : ∀ c a w, Q (.panic c) (a.put d v) w → Q (.panic c) a w) (hy : YieldsIf P ops S oi v a) (hS : S w)
    (h : wpAnyH P md ops Q S fuel (listed.setIfInBounds i true) (a.put d v) w) : wpAnyH P md ops Q S (fuel + 1) listed a w := by
  subst hd
  exact wpAnyH_take hi hs hf hr hQ hy hS h

def pairB (r q : MRights) : Bool := rightsOkB r && (rightsOkB q && decide (r.Give.length = q.Give.length))
def PairR (r q : MRights) (w : World) : Ending → World → Prop := fun e w' => ∃ T U, e = .returned (.tuple #[.agg (tl T).toArray, .agg (tl U).toArray, .bool (pairB r q)]) ∧ T.length = 21 ∧ U.length = 21 ∧ (pairB r q = true → T = tOf r ∧ U = tOf q) ∧ Below w.heap.size w w'

set_option maxRecDepth 100000 in
set_option maxHeartbeats 4000000 in
theorem iPairOf_c {w : World} {v v' : Value} {r q : MRights} (h : RV rightsL w v r) (h' : RV rightsL w v' q) : Calls Try.prog 49 #[v, v'] w (PairR r q w) := by
  have h0 := h
  obtain ⟨AG, cG, AS, cS, rfl, hrG, hrS, lG, lS⟩ := rv_rights2 h
  clear h
  have h0' := h'
  obtain ⟨AG', cG', AS', cS', rfl, hrG', hrS', lG', lS'⟩ := rv_rights2 h'
  clear h'
  obtain ⟨wa, hwa, B0, sa, x_a, x_b, x_r, x_q⟩ := frame4 w 27 [.slice AG r.Give.length cG, .slice AS r.Spent.length cS] 27 [.slice AG' q.Give.length cG', .slice AS' q.Spent.length cS'] 57 [.int .i64 0, .int .i64 0, .int .i64 0, .int .i64 0, .int .i64 0, .int .i64 0, .int .i64 0, .int .i64 0, .int .i64 0, .int .i64 0, .int .i64 0, .int .i64 0, .int .i64 0, .int .i64 0, .int .i64 0, .int .i64 0, .int .i64 0, .int .i64 0, .int .i64 0, .int .i64 0, .int .i64 0] 57 [.int .i64 0, .int .i64 0, .int .i64 0, .int .i64 0, .int .i64 0, .int .i64 0, .int .i64 0, .int .i64 0, .int .i64 0, .int .i64 0, .int .i64 0, .int .i64 0, .int .i64 0, .int .i64 0, .int .i64 0, .int .i64 0, .int .i64 0, .int .i64 0, .int .i64 0, .int .i64 0, .int .i64 0]
  have sa_1 := Nat.le_of_eq sa
  have sa_2 := Nat.le_of_eq sa.symm
  clear sa
  have c_a_0 := x_a.cell (i := 0) rfl
  have c_a_1 := x_a.cell (i := 1) rfl
  go_enter Try.func49, Try.ntmps49
  go_wp2_with fail
  refine (iTallyOf_c (h0.from_ B0)).mono ?_
  rintro e w1 ⟨T, rfl, hT, hTe, h_w1⟩
  clear c_a_0 c_a_1
  replace x_b := x_b.from_ h_w1
  replace x_r := x_r.from_ h_w1
  replace x_q := x_q.from_ h_w1
  have B_w1 := B0.trans (h_w1.mono B0.size)
  have s_w1 := h_w1.size
  clear x_a
  obtain ⟨ka, hka⟩ : ∃ k, rightsOkB r = k := ⟨_, rfl⟩
  have HKA := Lib.hid hka
  have HTE := Lib.hid hTe
  rw [hka]
  clear hka hTe
  obtain ⟨w2, e_w2, s_w2, h_w2, x_s⟩ := alloc_step w1 57 [.int .i64 0, .int .i64 0, .int .i64 0, .int .i64 0, .int .i64 0, .int .i64 0, .int .i64 0, .int .i64 0, .int .i64 0, .int .i64 0, .int .i64 0, .int .i64 0, .int .i64 0, .int .i64 0, .int .i64 0, .int .i64 0, .int .i64 0, .int .i64 0, .int .i64 0, .int .i64 0, .int .i64 0]
  have s_w2_1 := Nat.le_of_eq s_w2
  have s_w2_2 := Nat.le_of_eq s_w2.symm
  clear s_w2
  replace x_b := x_b.from_ h_w2
  replace x_r := x_r.from_ h_w2
  replace x_q := x_q.from_ h_w2
  have B_w2 := B_w1.trans (h_w2.mono B_w1.size)
  go_wp2_with (refine wpl_tstore x_s rfl (tl_one T) (by rw [tl_len, hT]) rfl rfl rfl rfl ?_; intro w3 x_s3 h_w3 s_w3; have c_b_0 := (x_b.chg h_w3 (by omega)).cell (i := 0) rfl; have c_b_1 := (x_b.chg h_w3 (by omega)).cell (i := 1) rfl)
  clear x_s
  replace x_r := x_r.chg h_w3 (by omega)
  replace x_q := x_q.chg h_w3 (by omega)
  have B_w3 := Below.chg_ B_w2 h_w3 (by omega) (by omega)
  refine (iTallyOf_c (h0'.from_ B_w3)).mono ?_
  rintro e w4 ⟨U, rfl, hU, hUe, h_w4⟩
  clear c_b_0 c_b_1 x_b
  replace x_r := x_r.from_ h_w4
  replace x_q := x_q.from_ h_w4
  replace x_s3 := x_s3.from_ h_w4
  have B_w4 := B_w3.trans (h_w4.mono B_w3.size)
  have s_w4 := h_w4.size
  obtain ⟨kb, hkb⟩ : ∃ k, rightsOkB q = k := ⟨_, rfl⟩
  have HKB := Lib.hid hkb
  have HUE := Lib.hid hUe
  rw [hkb]
  clear hkb hUe
  obtain ⟨w5, e_w5, s_w5, h_w5, x_t⟩ := alloc_step w4 57 [.int .i64 0, .int .i64 0, .int .i64 0, .int .i64 0, .int .i64 0, .int .i64 0, .int .i64 0, .int .i64 0, .int .i64 0, .int .i64 0, .int .i64 0, .int .i64 0, .int .i64 0, .int .i64 0, .int .i64 0, .int .i64 0, .int .i64 0, .int .i64 0, .int .i64 0, .int .i64 0, .int .i64 0]
  have s_w5_1 := Nat.le_of_eq s_w5
  have s_w5_2 := Nat.le_of_eq s_w5.symm
  clear s_w5
  replace x_r := x_r.from_ h_w5
  replace x_q := x_q.from_ h_w5
  replace x_s3 := x_s3.from_ h_w5
  have B_w5 := B_w4.trans (h_w5.mono B_w4.size)
  go_wp2_with (refine wpl_tstore x_t rfl (tl_one U) (by rw [tl_len, hU]) rfl rfl rfl rfl ?_; intro w6 x_t6 h_w6 s_w6)
  clear x_t
  replace x_r := x_r.chg h_w6 (by omega)
  replace x_q := x_q.chg h_w6 (by omega)
  replace x_s3 := x_s3.chg h_w6 (by omega)
  have B_w6 := Below.chg_ B_w5 h_w6 (by omega) (by omega)
  clear hwa e_w2 e_w5
  replace x_r : Vr w6 (w.heap.size + 1 + 1) 57 (tl (tZ 0)) := x_r
  replace x_q : Vr w6 (w.heap.size + 1 + 1 + 1) 57 (tl (tZ 0)) := x_q
  obtain ⟨wd, hwd⟩ : ∃ x, ({ heap := w6.heap, tape := w6.tape, drawn := w6.drawn + 1, os := w6.os, output := w6.output } : World) = x := ⟨_, rfl⟩
  have hbd : Below w6.heap.size w6 wd := by rw [← hwd]; exact (Below.refl w6.heap.size w6).drew
  replace x_r := x_r.from_ hbd
  replace x_q := x_q.from_ hbd
  replace x_s3 := x_s3.from_ hbd
  replace x_t6 := x_t6.from_ hbd
  have B_wd := B_w6.trans (hbd.mono B_w6.size)
  have s_wd := hbd.size
  have c1 := x_s3.tc hT 0 (by omega)
  have c2 := x_t6.tc hU 0 (by omega)
  obtain ⟨tn, htn⟩ : ∃ x, tg T 0 = x := ⟨_, rfl⟩
  obtain ⟨un, hun⟩ : ∃ x, tg U 0 = x := ⟨_, rfl⟩
  rw [htn] at c1
  rw [hun] at c2
  obtain ⟨qe, hqe⟩ : ∃ b, (tn == un) = b := ⟨_, rfl⟩
  have HP : Hid (pairB r q = (ka && (kb && qe))) := by
    show _ = _
    unfold pairB
    rw [HKA.out, HKB.out]
    cases ka
    · rfl
    cases kb
    · rfl
    rw [← hqe, ← htn, ← hun, HTE.out HKA.out, HUE.out HKB.out, tOf_n, tOf_n]
    rw [Bool.eq_iff_iff]
    simp
    omega
  have HQ2 : Hid (pairB r q = true → T = tOf r ∧ U = tOf q) := fun c => by
    unfold pairB at c
    simp only [Bool.and_eq_true] at c
    exact ⟨HTE.out c.1, HUE.out c.2.1⟩
  have HTN := Lib.hid htn
  have HUN := Lib.hid hun
  have HQE := Lib.hid hqe
  clear htn hun hqe c1 c2
  cases ka <;> cases kb
  case false.false =>
    refine wp_region_held (S := fun w2 => Vr w2 w1.heap.size 57 (tl T) ∧ Vr w2 w4.heap.size 57 (tl U)) (by kernel_rfl) ?_
    rw [hwd]
    refine takeH (i := 0) (v := .agg (tl T).toArray) (d := some 21) rfl rfl (by kernel_rfl) (by kernel_rfl) (by kernel_rfl) (fun _ _ _ h => h) (yieldsIf_tload hT rfl rfl rfl (fun _ h => h.1)) ⟨x_s3, x_t6⟩ ?_
    simp only [Act.put, List.setIfInBounds_toArray, List.set_cons_zero, List.set_cons_succ]
    refine takeH (i := 1) (v := .agg (tl U).toArray) (d := some 22) rfl rfl (by kernel_rfl) (by kernel_rfl) (by kernel_rfl) (fun _ _ _ h => h) (yieldsIf_tload hU rfl rfl rfl (fun _ h => h.2)) ⟨x_s3, x_t6⟩ ?_
    simp only [Act.put, List.setIfInBounds_toArray, List.set_cons_zero, List.set_cons_succ]
    refine takeH (i := 2) (v := ?v2ff) (d := some 23) rfl rfl (by kernel_rfl) (by kernel_rfl) (by kernel_rfl) (fun _ _ _ h => h) (Or.inl ⟨by rfl, ?y2ff⟩) ⟨x_s3, x_t6⟩ ?r2ff
    case y2ff => (intro W hW; go_simp; try (with_reducible rfl))
    simp only [Act.put, List.setIfInBounds_toArray, List.set_cons_zero, List.set_cons_succ]
    refine takeH (i := 3) (v := ?v3ff) (d := some 24) rfl rfl (by kernel_rfl) (by kernel_rfl) (by kernel_rfl) (fun _ _ _ h => h) (Or.inl ⟨by rfl, ?y3ff⟩) ⟨x_s3, x_t6⟩ ?r3ff
    case y3ff => (intro W hW; go_simp; try (with_reducible rfl))
    simp only [Act.put, List.setIfInBounds_toArray, List.set_cons_zero, List.set_cons_succ]
    refine takeH (i := 4) (v := undef) (d := some 25) rfl rfl (by kernel_rfl) (by kernel_rfl) (by kernel_rfl) (fun _ _ _ h => h) (Or.inr ⟨by rfl, rfl⟩) ⟨x_s3, x_t6⟩ ?_
    simp only [Act.put, List.setIfInBounds_toArray, List.set_cons_zero, List.set_cons_succ]
    refine takeH (i := 5) (v := ?v5ff) (d := some 26) rfl rfl (by kernel_rfl) (by kernel_rfl) (by kernel_rfl) (fun _ _ _ h => h) (Or.inl ⟨by rfl, ?y5ff⟩) ⟨x_s3, x_t6⟩ ?r5ff
    case y5ff => (intro W hW; go_simp; try (with_reducible rfl))
    simp only [Act.put, List.setIfInBounds_toArray, List.set_cons_zero, List.set_cons_succ]
    refine takeH (i := 6) (v := ?v6ff) (d := some 27) rfl rfl (by kernel_rfl) (by kernel_rfl) (by kernel_rfl) (fun _ _ _ h => h) (Or.inl ⟨by rfl, ?y6ff⟩) ⟨x_s3, x_t6⟩ ?r6ff
    case y6ff => (intro W hW; go_simp; try (with_reducible rfl))
    simp only [Act.put, List.setIfInBounds_toArray, List.set_cons_zero, List.set_cons_succ]
    refine takeH (i := 7) (v := undef) (d := some 28) rfl rfl (by kernel_rfl) (by kernel_rfl) (by kernel_rfl) (fun _ _ _ h => h) (Or.inr ⟨by rfl, rfl⟩) ⟨x_s3, x_t6⟩ ?_
    simp only [Act.put, List.setIfInBounds_toArray, List.set_cons_zero, List.set_cons_succ]
    refine takeH (i := 8) (v := undef) (d := some 29) rfl rfl (by kernel_rfl) (by kernel_rfl) (by kernel_rfl) (fun _ _ _ h => h) (Or.inr ⟨by rfl, rfl⟩) ⟨x_s3, x_t6⟩ ?_
    simp only [Act.put, List.setIfInBounds_toArray, List.set_cons_zero, List.set_cons_succ]
    refine takeH (i := 9) (v := undef) (d := some 30) rfl rfl (by kernel_rfl) (by kernel_rfl) (by kernel_rfl) (fun _ _ _ h => h) (Or.inr ⟨by rfl, rfl⟩) ⟨x_s3, x_t6⟩ ?_
    simp only [Act.put, List.setIfInBounds_toArray, List.set_cons_zero, List.set_cons_succ]
    refine takeH (i := 10) (v := undef) (d := some 31) rfl rfl (by kernel_rfl) (by kernel_rfl) (by kernel_rfl) (fun _ _ _ h => h) (Or.inr ⟨by rfl, rfl⟩) ⟨x_s3, x_t6⟩ ?_
    simp only [Act.put, List.setIfInBounds_toArray, List.set_cons_zero, List.set_cons_succ]
    refine takeH (i := 11) (v := undef) (d := some 32) rfl rfl (by kernel_rfl) (by kernel_rfl) (by kernel_rfl) (fun _ _ _ h => h) (Or.inr ⟨by rfl, rfl⟩) ⟨x_s3, x_t6⟩ ?_
    simp only [Act.put, List.setIfInBounds_toArray, List.set_cons_zero, List.set_cons_succ]
    refine takeH (i := 12) (v := ?v12ff) (d := some 33) rfl rfl (by kernel_rfl) (by kernel_rfl) (by kernel_rfl) (fun _ _ _ h => h) (Or.inl ⟨by rfl, ?y12ff⟩) ⟨x_s3, x_t6⟩ ?r12ff
    case y12ff => (intro W hW; go_simp; try (with_reducible rfl))
    simp only [Act.put, List.setIfInBounds_toArray, List.set_cons_zero, List.set_cons_succ]
    refine wpAnyH_ready (rs := [13]) (by kernel_rfl) (by simp) ?_
    refine AllReadyH.cons rfl (fun K hK => ?_) AllReadyH.nil
    rw [if_pos (by rfl)]
    refine wp_store_row _ _ _ rfl (w.heap.size + 1 + 1) (tl T).toArray rfl rfl 57 _ x_r (by rw [t57i]; simp [tl_len, hT]) (by simp [tl_len, hT, tZ_len]) (all_one (tl_one T)) ?_
    obtain ⟨w7, hw7⟩ : ∃ x, wd.setRow (w.heap.size + 1 + 1) (tl T).toArray = x := ⟨_, rfl⟩
    have h_w7 : Chg (w.heap.size + 1 + 1) (w.heap.size + 1 + 1 + 1) wd w7 := by rw [← hw7]; exact setRow_chg
    have x_r7 : Vr w7 (w.heap.size + 1 + 1) 57 (tl T) := by rw [← hw7]; unfold Vr at x_r ⊢; exact setRow_heap wd _ _ _ _ _ x_r
    rw [hw7]
    replace x_s3 := x_s3.chg h_w7 (by omega)
    replace x_t6 := x_t6.chg h_w7 (by omega)
    replace x_q := x_q.chg h_w7 (by omega)
    have s_w7 := h_w7.size
    have B_w7 := Below.chg_ B_wd h_w7 (by omega) (by omega)
    refine hK.out _ _ ⟨x_s3, x_t6⟩ (fun _ => ?_)
    clear hK K
    refine wpAnyH_ready (rs := [14]) (by kernel_rfl) (by simp) ?_
    refine AllReadyH.cons rfl (fun K hK => ?_) AllReadyH.nil
    rw [if_pos (by rfl)]
    refine wp_store_row _ _ _ rfl (w.heap.size + 1 + 1 + 1) (tl U).toArray rfl rfl 57 _ x_q (by rw [t57i]; simp [tl_len, hU]) (by simp [tl_len, hU, tZ_len]) (all_one (tl_one U)) ?_
    obtain ⟨w8, hw8⟩ : ∃ x, w7.setRow (w.heap.size + 1 + 1 + 1) (tl U).toArray = x := ⟨_, rfl⟩
    have h_w8 : Chg (w.heap.size + 1 + 1 + 1) (w.heap.size + 1 + 1 + 1 + 1) w7 w8 := by rw [← hw8]; exact setRow_chg
    have x_q8 : Vr w8 (w.heap.size + 1 + 1 + 1) 57 (tl U) := by rw [← hw8]; unfold Vr at x_q ⊢; exact setRow_heap w7 _ _ _ _ _ x_q
    rw [hw8]
    replace x_s3 := x_s3.chg h_w8 (by omega)
    replace x_t6 := x_t6.chg h_w8 (by omega)
    replace x_r7 := x_r7.chg h_w8 (by omega)
    have B_w8 := Below.chg_ B_w7 h_w8 (by omega) (by omega)
    refine hK.out _ _ ⟨x_s3, x_t6⟩ (fun _ => ?_)
    clear hK K
    refine wpAnyH_ready (rs := [15]) (by kernel_rfl) (by simp) ?_
    refine AllReadyH.cons rfl (fun K hK => ?_) AllReadyH.nil
    go_simp
    refine hK.out _ _ ⟨x_s3, x_t6⟩ (fun _ => ?_)
    clear hK K
    refine wpAnyH_done (by kernel_rfl) ?_ _
    go_wp2
    refine ret_cell2_tmp (by rfl) (by rfl) (by rfl) x_r7 x_q8 t57u (t57l _ hT) (t57l _ hU) (by rfl) ?_
    exact ⟨T, U, ret_eq (by rw [HP.out]; rfl), hT, hU, HQ2.out, B_w8⟩
  case false.true =>
    refine wp_region_held (S := fun w2 => Vr w2 w1.heap.size 57 (tl T) ∧ Vr w2 w4.heap.size 57 (tl U)) (by kernel_rfl) ?_
    rw [hwd]
    refine takeH (i := 0) (v := .agg (tl T).toArray) (d := some 21) rfl rfl (by kernel_rfl) (by kernel_rfl) (by kernel_rfl) (fun _ _ _ h => h) (yieldsIf_tload hT rfl rfl rfl (fun _ h => h.1)) ⟨x_s3, x_t6⟩ ?_
    simp only [Act.put, List.setIfInBounds_toArray, List.set_cons_zero, List.set_cons_succ]
    refine takeH (i := 1) (v := .agg (tl U).toArray) (d := some 22) rfl rfl (by kernel_rfl) (by kernel_rfl) (by kernel_rfl) (fun _ _ _ h => h) (yieldsIf_tload hU rfl rfl rfl (fun _ h => h.2)) ⟨x_s3, x_t6⟩ ?_
    simp only [Act.put, List.setIfInBounds_toArray, List.set_cons_zero, List.set_cons_succ]
    refine takeH (i := 2) (v := ?v2ft) (d := some 23) rfl rfl (by kernel_rfl) (by kernel_rfl) (by kernel_rfl) (fun _ _ _ h => h) (Or.inl ⟨by rfl, ?y2ft⟩) ⟨x_s3, x_t6⟩ ?r2ft
    case y2ft => (intro W hW; go_simp; try (with_reducible rfl))
    simp only [Act.put, List.setIfInBounds_toArray, List.set_cons_zero, List.set_cons_succ]
    refine takeH (i := 3) (v := ?v3ft) (d := some 24) rfl rfl (by kernel_rfl) (by kernel_rfl) (by kernel_rfl) (fun _ _ _ h => h) (Or.inl ⟨by rfl, ?y3ft⟩) ⟨x_s3, x_t6⟩ ?r3ft
    case y3ft => (intro W hW; go_simp; try (with_reducible rfl))
    simp only [Act.put, List.setIfInBounds_toArray, List.set_cons_zero, List.set_cons_succ]
    refine takeH (i := 4) (v := undef) (d := some 25) rfl rfl (by kernel_rfl) (by kernel_rfl) (by kernel_rfl) (fun _ _ _ h => h) (Or.inr ⟨by rfl, rfl⟩) ⟨x_s3, x_t6⟩ ?_
    simp only [Act.put, List.setIfInBounds_toArray, List.set_cons_zero, List.set_cons_succ]
    refine takeH (i := 5) (v := ?v5ft) (d := some 26) rfl rfl (by kernel_rfl) (by kernel_rfl) (by kernel_rfl) (fun _ _ _ h => h) (Or.inl ⟨by rfl, ?y5ft⟩) ⟨x_s3, x_t6⟩ ?r5ft
    case y5ft => (intro W hW; go_simp; try (with_reducible rfl))
    simp only [Act.put, List.setIfInBounds_toArray, List.set_cons_zero, List.set_cons_succ]
    refine takeH (i := 6) (v := ?v6ft) (d := some 27) rfl rfl (by kernel_rfl) (by kernel_rfl) (by kernel_rfl) (fun _ _ _ h => h) (Or.inl ⟨by rfl, ?y6ft⟩) ⟨x_s3, x_t6⟩ ?r6ft
    case y6ft => (intro W hW; go_simp; try (with_reducible rfl))
    simp only [Act.put, List.setIfInBounds_toArray, List.set_cons_zero, List.set_cons_succ]
    refine takeH (i := 7) (v := undef) (d := some 28) rfl rfl (by kernel_rfl) (by kernel_rfl) (by kernel_rfl) (fun _ _ _ h => h) (Or.inr ⟨by rfl, rfl⟩) ⟨x_s3, x_t6⟩ ?_
    simp only [Act.put, List.setIfInBounds_toArray, List.set_cons_zero, List.set_cons_succ]
    refine takeH (i := 8) (v := undef) (d := some 29) rfl rfl (by kernel_rfl) (by kernel_rfl) (by kernel_rfl) (fun _ _ _ h => h) (Or.inr ⟨by rfl, rfl⟩) ⟨x_s3, x_t6⟩ ?_
    simp only [Act.put, List.setIfInBounds_toArray, List.set_cons_zero, List.set_cons_succ]
    refine takeH (i := 9) (v := undef) (d := some 30) rfl rfl (by kernel_rfl) (by kernel_rfl) (by kernel_rfl) (fun _ _ _ h => h) (Or.inr ⟨by rfl, rfl⟩) ⟨x_s3, x_t6⟩ ?_
    simp only [Act.put, List.setIfInBounds_toArray, List.set_cons_zero, List.set_cons_succ]
    refine takeH (i := 10) (v := undef) (d := some 31) rfl rfl (by kernel_rfl) (by kernel_rfl) (by kernel_rfl) (fun _ _ _ h => h) (Or.inr ⟨by rfl, rfl⟩) ⟨x_s3, x_t6⟩ ?_
    simp only [Act.put, List.setIfInBounds_toArray, List.set_cons_zero, List.set_cons_succ]
    refine takeH (i := 11) (v := undef) (d := some 32) rfl rfl (by kernel_rfl) (by kernel_rfl) (by kernel_rfl) (fun _ _ _ h => h) (Or.inr ⟨by rfl, rfl⟩) ⟨x_s3, x_t6⟩ ?_
    simp only [Act.put, List.setIfInBounds_toArray, List.set_cons_zero, List.set_cons_succ]
    refine takeH (i := 12) (v := ?v12ft) (d := some 33) rfl rfl (by kernel_rfl) (by kernel_rfl) (by kernel_rfl) (fun _ _ _ h => h) (Or.inl ⟨by rfl, ?y12ft⟩) ⟨x_s3, x_t6⟩ ?r12ft
    case y12ft => (intro W hW; go_simp; try (with_reducible rfl))
    simp only [Act.put, List.setIfInBounds_toArray, List.set_cons_zero, List.set_cons_succ]
    refine wpAnyH_ready (rs := [13]) (by kernel_rfl) (by simp) ?_
    refine AllReadyH.cons rfl (fun K hK => ?_) AllReadyH.nil
    rw [if_pos (by rfl)]
    refine wp_store_row _ _ _ rfl (w.heap.size + 1 + 1) (tl T).toArray rfl rfl 57 _ x_r (by rw [t57i]; simp [tl_len, hT]) (by simp [tl_len, hT, tZ_len]) (all_one (tl_one T)) ?_
    obtain ⟨w7, hw7⟩ : ∃ x, wd.setRow (w.heap.size + 1 + 1) (tl T).toArray = x := ⟨_, rfl⟩
    have h_w7 : Chg (w.heap.size + 1 + 1) (w.heap.size + 1 + 1 + 1) wd w7 := by rw [← hw7]; exact setRow_chg
    have x_r7 : Vr w7 (w.heap.size + 1 + 1) 57 (tl T) := by rw [← hw7]; unfold Vr at x_r ⊢; exact setRow_heap wd _ _ _ _ _ x_r
    rw [hw7]
    replace x_s3 := x_s3.chg h_w7 (by omega)
    replace x_t6 := x_t6.chg h_w7 (by omega)
    replace x_q := x_q.chg h_w7 (by omega)
    have s_w7 := h_w7.size
    have B_w7 := Below.chg_ B_wd h_w7 (by omega) (by omega)
    refine hK.out _ _ ⟨x_s3, x_t6⟩ (fun _ => ?_)
    clear hK K
    refine wpAnyH_ready (rs := [14]) (by kernel_rfl) (by simp) ?_
    refine AllReadyH.cons rfl (fun K hK => ?_) AllReadyH.nil
    rw [if_pos (by rfl)]
    refine wp_store_row _ _ _ rfl (w.heap.size + 1 + 1 + 1) (tl U).toArray rfl rfl 57 _ x_q (by rw [t57i]; simp [tl_len, hU]) (by simp [tl_len, hU, tZ_len]) (all_one (tl_one U)) ?_
    obtain ⟨w8, hw8⟩ : ∃ x, w7.setRow (w.heap.size + 1 + 1 + 1) (tl U).toArray = x := ⟨_, rfl⟩
    have h_w8 : Chg (w.heap.size + 1 + 1 + 1) (w.heap.size + 1 + 1 + 1 + 1) w7 w8 := by rw [← hw8]; exact setRow_chg
    have x_q8 : Vr w8 (w.heap.size + 1 + 1 + 1) 57 (tl U) := by rw [← hw8]; unfold Vr at x_q ⊢; exact setRow_heap w7 _ _ _ _ _ x_q
    rw [hw8]
    replace x_s3 := x_s3.chg h_w8 (by omega)
    replace x_t6 := x_t6.chg h_w8 (by omega)
    replace x_r7 := x_r7.chg h_w8 (by omega)
    have B_w8 := Below.chg_ B_w7 h_w8 (by omega) (by omega)
    refine hK.out _ _ ⟨x_s3, x_t6⟩ (fun _ => ?_)
    clear hK K
    refine wpAnyH_ready (rs := [15]) (by kernel_rfl) (by simp) ?_
    refine AllReadyH.cons rfl (fun K hK => ?_) AllReadyH.nil
    go_simp
    refine hK.out _ _ ⟨x_s3, x_t6⟩ (fun _ => ?_)
    clear hK K
    refine wpAnyH_done (by kernel_rfl) ?_ _
    go_wp2
    refine ret_cell2_tmp (by rfl) (by rfl) (by rfl) x_r7 x_q8 t57u (t57l _ hT) (t57l _ hU) (by rfl) ?_
    exact ⟨T, U, ret_eq (by rw [HP.out]; rfl), hT, hU, HQ2.out, B_w8⟩
  case true.false =>
    refine wp_region_held (S := fun w2 => Vr w2 w1.heap.size 57 (tl T) ∧ Vr w2 w4.heap.size 57 (tl U)) (by kernel_rfl) ?_
    rw [hwd]
    refine takeH (i := 0) (v := .agg (tl T).toArray) (d := some 21) rfl rfl (by kernel_rfl) (by kernel_rfl) (by kernel_rfl) (fun _ _ _ h => h) (yieldsIf_tload hT rfl rfl rfl (fun _ h => h.1)) ⟨x_s3, x_t6⟩ ?_
    simp only [Act.put, List.setIfInBounds_toArray, List.set_cons_zero, List.set_cons_succ]
    refine takeH (i := 1) (v := .agg (tl U).toArray) (d := some 22) rfl rfl (by kernel_rfl) (by kernel_rfl) (by kernel_rfl) (fun _ _ _ h => h) (yieldsIf_tload hU rfl rfl rfl (fun _ h => h.2)) ⟨x_s3, x_t6⟩ ?_
    simp only [Act.put, List.setIfInBounds_toArray, List.set_cons_zero, List.set_cons_succ]
    refine takeH (i := 2) (v := ?v2tf) (d := some 23) rfl rfl (by kernel_rfl) (by kernel_rfl) (by kernel_rfl) (fun _ _ _ h => h) (Or.inl ⟨by rfl, ?y2tf⟩) ⟨x_s3, x_t6⟩ ?r2tf
    case y2tf => (intro W hW; go_simp; try (with_reducible rfl))
    simp only [Act.put, List.setIfInBounds_toArray, List.set_cons_zero, List.set_cons_succ]
    refine takeH (i := 3) (v := ?v3tf) (d := some 24) rfl rfl (by kernel_rfl) (by kernel_rfl) (by kernel_rfl) (fun _ _ _ h => h) (Or.inl ⟨by rfl, ?y3tf⟩) ⟨x_s3, x_t6⟩ ?r3tf
    case y3tf => (intro W hW; go_simp; try (with_reducible rfl))
    simp only [Act.put, List.setIfInBounds_toArray, List.set_cons_zero, List.set_cons_succ]
    refine takeH (i := 4) (v := ?v4tf) (d := some 25) rfl rfl (by kernel_rfl) (by kernel_rfl) (by kernel_rfl) (fun _ _ _ h => h) (Or.inl ⟨by rfl, ?y4tf⟩) ⟨x_s3, x_t6⟩ ?r4tf
    case y4tf => (intro W hW; go_simp; try (with_reducible rfl))
    simp only [Act.put, List.setIfInBounds_toArray, List.set_cons_zero, List.set_cons_succ]
    refine takeH (i := 5) (v := ?v5tf) (d := some 26) rfl rfl (by kernel_rfl) (by kernel_rfl) (by kernel_rfl) (fun _ _ _ h => h) (Or.inl ⟨by rfl, ?y5tf⟩) ⟨x_s3, x_t6⟩ ?r5tf
    case y5tf => (intro W hW; go_simp; try (with_reducible rfl))
    simp only [Act.put, List.setIfInBounds_toArray, List.set_cons_zero, List.set_cons_succ]
    refine takeH (i := 6) (v := ?v6tf) (d := some 27) rfl rfl (by kernel_rfl) (by kernel_rfl) (by kernel_rfl) (fun _ _ _ h => h) (Or.inl ⟨by rfl, ?y6tf⟩) ⟨x_s3, x_t6⟩ ?r6tf
    case y6tf => (intro W hW; go_simp; try (with_reducible rfl))
    simp only [Act.put, List.setIfInBounds_toArray, List.set_cons_zero, List.set_cons_succ]
    refine takeH (i := 7) (v := undef) (d := some 28) rfl rfl (by kernel_rfl) (by kernel_rfl) (by kernel_rfl) (fun _ _ _ h => h) (Or.inr ⟨by rfl, rfl⟩) ⟨x_s3, x_t6⟩ ?_
    simp only [Act.put, List.setIfInBounds_toArray, List.set_cons_zero, List.set_cons_succ]
    refine takeH (i := 8) (v := undef) (d := some 29) rfl rfl (by kernel_rfl) (by kernel_rfl) (by kernel_rfl) (fun _ _ _ h => h) (Or.inr ⟨by rfl, rfl⟩) ⟨x_s3, x_t6⟩ ?_
    simp only [Act.put, List.setIfInBounds_toArray, List.set_cons_zero, List.set_cons_succ]
    refine takeH (i := 9) (v := undef) (d := some 30) rfl rfl (by kernel_rfl) (by kernel_rfl) (by kernel_rfl) (fun _ _ _ h => h) (Or.inr ⟨by rfl, rfl⟩) ⟨x_s3, x_t6⟩ ?_
    simp only [Act.put, List.setIfInBounds_toArray, List.set_cons_zero, List.set_cons_succ]
    refine takeH (i := 10) (v := undef) (d := some 31) rfl rfl (by kernel_rfl) (by kernel_rfl) (by kernel_rfl) (fun _ _ _ h => h) (Or.inr ⟨by rfl, rfl⟩) ⟨x_s3, x_t6⟩ ?_
    simp only [Act.put, List.setIfInBounds_toArray, List.set_cons_zero, List.set_cons_succ]
    refine takeH (i := 11) (v := undef) (d := some 32) rfl rfl (by kernel_rfl) (by kernel_rfl) (by kernel_rfl) (fun _ _ _ h => h) (Or.inr ⟨by rfl, rfl⟩) ⟨x_s3, x_t6⟩ ?_
    simp only [Act.put, List.setIfInBounds_toArray, List.set_cons_zero, List.set_cons_succ]
    refine takeH (i := 12) (v := ?v12tf) (d := some 33) rfl rfl (by kernel_rfl) (by kernel_rfl) (by kernel_rfl) (fun _ _ _ h => h) (Or.inl ⟨by rfl, ?y12tf⟩) ⟨x_s3, x_t6⟩ ?r12tf
    case y12tf => (intro W hW; go_simp; try (with_reducible rfl))
    simp only [Act.put, List.setIfInBounds_toArray, List.set_cons_zero, List.set_cons_succ]
    refine wpAnyH_ready (rs := [13]) (by kernel_rfl) (by simp) ?_
    refine AllReadyH.cons rfl (fun K hK => ?_) AllReadyH.nil
    rw [if_pos (by rfl)]
    refine wp_store_row _ _ _ rfl (w.heap.size + 1 + 1) (tl T).toArray rfl rfl 57 _ x_r (by rw [t57i]; simp [tl_len, hT]) (by simp [tl_len, hT, tZ_len]) (all_one (tl_one T)) ?_
    obtain ⟨w7, hw7⟩ : ∃ x, wd.setRow (w.heap.size + 1 + 1) (tl T).toArray = x := ⟨_, rfl⟩
    have h_w7 : Chg (w.heap.size + 1 + 1) (w.heap.size + 1 + 1 + 1) wd w7 := by rw [← hw7]; exact setRow_chg
    have x_r7 : Vr w7 (w.heap.size + 1 + 1) 57 (tl T) := by rw [← hw7]; unfold Vr at x_r ⊢; exact setRow_heap wd _ _ _ _ _ x_r
    rw [hw7]
    replace x_s3 := x_s3.chg h_w7 (by omega)
    replace x_t6 := x_t6.chg h_w7 (by omega)
    replace x_q := x_q.chg h_w7 (by omega)
    have s_w7 := h_w7.size
    have B_w7 := Below.chg_ B_wd h_w7 (by omega) (by omega)
    refine hK.out _ _ ⟨x_s3, x_t6⟩ (fun _ => ?_)
    clear hK K
    refine wpAnyH_ready (rs := [14]) (by kernel_rfl) (by simp) ?_
    refine AllReadyH.cons rfl (fun K hK => ?_) AllReadyH.nil
    rw [if_pos (by rfl)]
    refine wp_store_row _ _ _ rfl (w.heap.size + 1 + 1 + 1) (tl U).toArray rfl rfl 57 _ x_q (by rw [t57i]; simp [tl_len, hU]) (by simp [tl_len, hU, tZ_len]) (all_one (tl_one U)) ?_
    obtain ⟨w8, hw8⟩ : ∃ x, w7.setRow (w.heap.size + 1 + 1 + 1) (tl U).toArray = x := ⟨_, rfl⟩
    have h_w8 : Chg (w.heap.size + 1 + 1 + 1) (w.heap.size + 1 + 1 + 1 + 1) w7 w8 := by rw [← hw8]; exact setRow_chg
    have x_q8 : Vr w8 (w.heap.size + 1 + 1 + 1) 57 (tl U) := by rw [← hw8]; unfold Vr at x_q ⊢; exact setRow_heap w7 _ _ _ _ _ x_q
    rw [hw8]
    replace x_s3 := x_s3.chg h_w8 (by omega)
    replace x_t6 := x_t6.chg h_w8 (by omega)
    replace x_r7 := x_r7.chg h_w8 (by omega)
    have B_w8 := Below.chg_ B_w7 h_w8 (by omega) (by omega)
    refine hK.out _ _ ⟨x_s3, x_t6⟩ (fun _ => ?_)
    clear hK K
    refine wpAnyH_ready (rs := [15]) (by kernel_rfl) (by simp) ?_
    refine AllReadyH.cons rfl (fun K hK => ?_) AllReadyH.nil
    go_simp
    refine hK.out _ _ ⟨x_s3, x_t6⟩ (fun _ => ?_)
    clear hK K
    refine wpAnyH_done (by kernel_rfl) ?_ _
    go_wp2
    refine ret_cell2_tmp (by rfl) (by rfl) (by rfl) x_r7 x_q8 t57u (t57l _ hT) (t57l _ hU) (by rfl) ?_
    exact ⟨T, U, ret_eq (by rw [HP.out]; rfl), hT, hU, HQ2.out, B_w8⟩
  case true.true =>
    refine wp_region_held (S := fun w2 => Vr w2 w1.heap.size 57 (tl T) ∧ Vr w2 w4.heap.size 57 (tl U)) (by kernel_rfl) ?_
    rw [hwd]
    refine takeH (i := 0) (v := .agg (tl T).toArray) (d := some 21) rfl rfl (by kernel_rfl) (by kernel_rfl) (by kernel_rfl) (fun _ _ _ h => h) (yieldsIf_tload hT rfl rfl rfl (fun _ h => h.1)) ⟨x_s3, x_t6⟩ ?_
    simp only [Act.put, List.setIfInBounds_toArray, List.set_cons_zero, List.set_cons_succ]
    refine takeH (i := 1) (v := .agg (tl U).toArray) (d := some 22) rfl rfl (by kernel_rfl) (by kernel_rfl) (by kernel_rfl) (fun _ _ _ h => h) (yieldsIf_tload hU rfl rfl rfl (fun _ h => h.2)) ⟨x_s3, x_t6⟩ ?_
    simp only [Act.put, List.setIfInBounds_toArray, List.set_cons_zero, List.set_cons_succ]
    refine takeH (i := 2) (v := ?v2tt) (d := some 23) rfl rfl (by kernel_rfl) (by kernel_rfl) (by kernel_rfl) (fun _ _ _ h => h) (Or.inl ⟨by rfl, ?y2tt⟩) ⟨x_s3, x_t6⟩ ?r2tt
    case y2tt => (intro W hW; go_simp; try (with_reducible rfl))
    simp only [Act.put, List.setIfInBounds_toArray, List.set_cons_zero, List.set_cons_succ]
    refine takeH (i := 3) (v := ?v3tt) (d := some 24) rfl rfl (by kernel_rfl) (by kernel_rfl) (by kernel_rfl) (fun _ _ _ h => h) (Or.inl ⟨by rfl, ?y3tt⟩) ⟨x_s3, x_t6⟩ ?r3tt
    case y3tt => (intro W hW; go_simp; try (with_reducible rfl))
    simp only [Act.put, List.setIfInBounds_toArray, List.set_cons_zero, List.set_cons_succ]
    refine takeH (i := 4) (v := ?v4tt) (d := some 25) rfl rfl (by kernel_rfl) (by kernel_rfl) (by kernel_rfl) (fun _ _ _ h => h) (Or.inl ⟨by rfl, ?y4tt⟩) ⟨x_s3, x_t6⟩ ?r4tt
    case y4tt => (intro W hW; go_simp; try (with_reducible rfl))
    simp only [Act.put, List.setIfInBounds_toArray, List.set_cons_zero, List.set_cons_succ]
    refine takeH (i := 5) (v := ?v5tt) (d := some 26) rfl rfl (by kernel_rfl) (by kernel_rfl) (by kernel_rfl) (fun _ _ _ h => h) (Or.inl ⟨by rfl, ?y5tt⟩) ⟨x_s3, x_t6⟩ ?r5tt
    case y5tt => (intro W hW; go_simp; try (with_reducible rfl))
    simp only [Act.put, List.setIfInBounds_toArray, List.set_cons_zero, List.set_cons_succ]
    refine takeH (i := 6) (v := ?v6tt) (d := some 27) rfl rfl (by kernel_rfl) (by kernel_rfl) (by kernel_rfl) (fun _ _ _ h => h) (Or.inl ⟨by rfl, ?y6tt⟩) ⟨x_s3, x_t6⟩ ?r6tt
    case y6tt => (intro W hW; go_simp; try (with_reducible rfl))
    simp only [Act.put, List.setIfInBounds_toArray, List.set_cons_zero, List.set_cons_succ]
    refine takeH (i := 7) (v := ?v7tt) (d := some 28) rfl rfl (by kernel_rfl) (by kernel_rfl) (by kernel_rfl) (fun _ _ _ h => h) (Or.inl ⟨by rfl, ?y7tt⟩) ⟨x_s3, x_t6⟩ ?r7tt
    case y7tt => (intro W hW; go_simp; try (with_reducible rfl))
    simp only [Act.put, List.setIfInBounds_toArray, List.set_cons_zero, List.set_cons_succ]
    refine takeH (i := 8) (v := ?v8tt) (d := some 29) rfl rfl (by kernel_rfl) (by kernel_rfl) (by kernel_rfl) (fun _ _ _ h => h) (Or.inl ⟨by rfl, ?y8tt⟩) ⟨x_s3, x_t6⟩ ?r8tt
    case y8tt => (intro W hW; have c1 := hW.1.tc hT 0 (by omega); rw [HTN.out] at c1; go_simp; try (with_reducible rfl))
    simp only [Act.put, List.setIfInBounds_toArray, List.set_cons_zero, List.set_cons_succ]
    refine takeH (i := 9) (v := ?v9tt) (d := some 30) rfl rfl (by kernel_rfl) (by kernel_rfl) (by kernel_rfl) (fun _ _ _ h => h) (Or.inl ⟨by rfl, ?y9tt⟩) ⟨x_s3, x_t6⟩ ?r9tt
    case y9tt => (intro W hW; go_simp; try (with_reducible rfl))
    simp only [Act.put, List.setIfInBounds_toArray, List.set_cons_zero, List.set_cons_succ]
    refine takeH (i := 10) (v := ?v10tt) (d := some 31) rfl rfl (by kernel_rfl) (by kernel_rfl) (by kernel_rfl) (fun _ _ _ h => h) (Or.inl ⟨by rfl, ?y10tt⟩) ⟨x_s3, x_t6⟩ ?r10tt
    case y10tt => (intro W hW; have c2 := hW.2.tc hU 0 (by omega); rw [HUN.out] at c2; go_simp; try (with_reducible rfl))
    simp only [Act.put, List.setIfInBounds_toArray, List.set_cons_zero, List.set_cons_succ]
    refine takeH (i := 11) (v := ?v11tt) (d := some 32) rfl rfl (by kernel_rfl) (by kernel_rfl) (by kernel_rfl) (fun _ _ _ h => h) (Or.inl ⟨by rfl, ?y11tt⟩) ⟨x_s3, x_t6⟩ ?r11tt
    case y11tt => (intro W hW; have e := HQE.out; go_simp; try (with_reducible rfl))
    simp only [Act.put, List.setIfInBounds_toArray, List.set_cons_zero, List.set_cons_succ]
    refine takeH (i := 12) (v := ?v12tt) (d := some 33) rfl rfl (by kernel_rfl) (by kernel_rfl) (by kernel_rfl) (fun _ _ _ h => h) (Or.inl ⟨by rfl, ?y12tt⟩) ⟨x_s3, x_t6⟩ ?r12tt
    case y12tt => (intro W hW; go_simp; try (with_reducible rfl))
    simp only [Act.put, List.setIfInBounds_toArray, List.set_cons_zero, List.set_cons_succ]
    refine wpAnyH_ready (rs := [13]) (by kernel_rfl) (by simp) ?_
    refine AllReadyH.cons rfl (fun K hK => ?_) AllReadyH.nil
    rw [if_pos (by rfl)]
    refine wp_store_row _ _ _ rfl (w.heap.size + 1 + 1) (tl T).toArray rfl rfl 57 _ x_r (by rw [t57i]; simp [tl_len, hT]) (by simp [tl_len, hT, tZ_len]) (all_one (tl_one T)) ?_
    obtain ⟨w7, hw7⟩ : ∃ x, wd.setRow (w.heap.size + 1 + 1) (tl T).toArray = x := ⟨_, rfl⟩
    have h_w7 : Chg (w.heap.size + 1 + 1) (w.heap.size + 1 + 1 + 1) wd w7 := by rw [← hw7]; exact setRow_chg
    have x_r7 : Vr w7 (w.heap.size + 1 + 1) 57 (tl T) := by rw [← hw7]; unfold Vr at x_r ⊢; exact setRow_heap wd _ _ _ _ _ x_r
    rw [hw7]
    replace x_s3 := x_s3.chg h_w7 (by omega)
    replace x_t6 := x_t6.chg h_w7 (by omega)
    replace x_q := x_q.chg h_w7 (by omega)
    have s_w7 := h_w7.size
    have B_w7 := Below.chg_ B_wd h_w7 (by omega) (by omega)
    refine hK.out _ _ ⟨x_s3, x_t6⟩ (fun _ => ?_)
    clear hK K
    refine wpAnyH_ready (rs := [14]) (by kernel_rfl) (by simp) ?_
    refine AllReadyH.cons rfl (fun K hK => ?_) AllReadyH.nil
    rw [if_pos (by rfl)]
    refine wp_store_row _ _ _ rfl (w.heap.size + 1 + 1 + 1) (tl U).toArray rfl rfl 57 _ x_q (by rw [t57i]; simp [tl_len, hU]) (by simp [tl_len, hU, tZ_len]) (all_one (tl_one U)) ?_
    obtain ⟨w8, hw8⟩ : ∃ x, w7.setRow (w.heap.size + 1 + 1 + 1) (tl U).toArray = x := ⟨_, rfl⟩
    have h_w8 : Chg (w.heap.size + 1 + 1 + 1) (w.heap.size + 1 + 1 + 1 + 1) w7 w8 := by rw [← hw8]; exact setRow_chg
    have x_q8 : Vr w8 (w.heap.size + 1 + 1 + 1) 57 (tl U) := by rw [← hw8]; unfold Vr at x_q ⊢; exact setRow_heap w7 _ _ _ _ _ x_q
    rw [hw8]
    replace x_s3 := x_s3.chg h_w8 (by omega)
    replace x_t6 := x_t6.chg h_w8 (by omega)
    replace x_r7 := x_r7.chg h_w8 (by omega)
    have B_w8 := Below.chg_ B_w7 h_w8 (by omega) (by omega)
    refine hK.out _ _ ⟨x_s3, x_t6⟩ (fun _ => ?_)
    clear hK K
    refine wpAnyH_ready (rs := [15]) (by kernel_rfl) (by simp) ?_
    refine AllReadyH.cons rfl (fun K hK => ?_) AllReadyH.nil
    go_simp
    refine hK.out _ _ ⟨x_s3, x_t6⟩ (fun _ => ?_)
    clear hK K
    refine wpAnyH_done (by kernel_rfl) ?_ _
    go_wp2
    refine ret_cell2_tmp (by rfl) (by rfl) (by rfl) x_r7 x_q8 t57u (t57l _ hT) (t57l _ hU) (by rfl) ?_
    exact ⟨T, U, ret_eq (by rw [HP.out]; rfl), hT, hU, HQ2.out, B_w8⟩

end Go.Proofs.Ytmbipgnecjlicaa
