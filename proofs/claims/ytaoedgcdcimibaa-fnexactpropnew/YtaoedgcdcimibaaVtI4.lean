/- Votes: the contract of slices.Insert of one integer into a row of one's own: three roads. -/
import Derived.Test.YtaoedgcdcimibaaVtI3
import Derived.Shelf.Spec.SlicesInsert
import Derived.Lib.AppendZerosOnto
import Derived.Lib.Overlaps
import Derived.Laws.CopyRow
import Derived.Laws.CopyOwn
namespace Go.Proofs.Ytaoedgcdcimibaa
open Go.RowKit
set_option linter.unusedVariables false

theorem run_append_t2 {P : Program} (w : World) (t t2 ty e : TypeId) (ht : P.underlying t = some (.slice e)) (ht2 : P.underlying t2 = some (.slice e)) (i : TypeInfo) (hi : P.info? e = some i) (A : Option Addr) (n c : Nat) (x : Value) : (Builtin.append_ #[t, t2] ty #[.slice A n c, x]).run P w = (Builtin.append_ #[t, t] ty #[.slice A n c, x]).run P w := by
  simp [Builtin.append_, run_underlying ht, run_underlying ht2, sizeOf, typeInfo, hi]

/-- append of integers onto a row of one's own, the source of another slice type -/
theorem wpl_appI2 {P : Program} (w : World) {ops : Array Oper} {rest : List Oper} {o : Oper} {a : Act} {Q : Exit → Act → World → Prop} (k : IntKind) (hgd : o.guard = none) (s x : Operand) (t t2 : TypeId)
    (ho : o.op = .call { callee := .builtin .append, args := #[s, x], argTypes := #[t, t2] })
    (base : Nat) (e : TypeId) (i : TypeInfo) (bytes : Nat) (ht : P.underlying t = some (.slice e)) (ht2 : P.underlying t2 = some (.slice e)) (hi : P.info? e = some i) (hz : i.zero = some (.int k 0))
    (hsize : i.size = 1) (hby : i.bytes = bytes) (v : Value) (xs : List Int) (hs : a.eval s = v) (hown : Own k w base e v xs)
    (B : Nat) (A : Option Addr) (c m : Nat) (ys : List Int) (hx : a.eval x = .slice A m c) (hm : ys.length = m) (hr : Rd k w B A ys)
    (hmax : xs.length + m ≤ 1099511627776) (hbyt : bytes ≤ 64) (hbase : base ≤ w.heap.size)
    (h : ∀ v' w', Own k w' base e v' (xs ++ ys) → w.grownBy w' v.ownBlock → (v'.ownBlock = v.ownBlock ∨ v'.ownBlock = some w.heap.size) → wpList P ops Q rest (a.put o.dst v') w') :
    wpList P ops Q (o :: rest) a w := by
  subst hm
  refine wpList_plain hgd fun K hK => ?_
  obtain ⟨v', w', hrun, h2, h3, h4⟩ := run_app (P := P) w base t o.type e i (.int k 0) bytes ht hi hz hsize hby rfl v xs.length (xs.map (Value.int k)) hown B A c (ys.map (Value.int k)) hr.toV
    (fun u hu => by obtain ⟨n, _, rfl⟩ := List.mem_map.1 hu; rfl) (by simpa using hmax) hbyt hbase
  rw [List.length_map] at hrun h2
  obtain ⟨A0, n0, c0, rfl⟩ : ∃ A0 n0 c0, v = .slice A0 n0 c0 := by
    obtain ⟨A0, c0, rfl, -⟩ := hown.form
    exact ⟨_, _, _, rfl⟩
  rw [← run_append_t2 w t t2 o.type e ht ht2 i hi] at hrun
  unfold Oper.wp execOp
  simp only [ho, resolve, invoke, builtin, Sem.run_bind, Sem.run_pure, Result.andThen_ok, List.map_toArray, List.map_cons, List.map_nil, hs, hx, hrun]
  exact hK _ _ (h v' w' (by unfold Own; rw [List.length_append, List.map_append]; exact h2) h3 h4)

theorem rd_blk {w : World} {vb : Nat} {x : Int} {t : TypeId} (hv : w.heap[vb]? = some (.cells #[.int .i64 x] t (0, 0))) : Rd .i64 w w.heap.size (some ⟨vb, 0, none⟩) [x] := fun _ => by
  refine ⟨vb, 0, rfl, ?_, fun j hj => ?_⟩
  · rcases Nat.lt_or_ge vb w.heap.size with hlt | hge
    · exact hlt
    · rw [Array.getElem?_eq_none hge] at hv; cases hv
  · have : j = 0 := by simp at hj; omega
    subst this
    rw [cell_of_row w vb (0 + 0) _ _ (0, 0) hv]
    simp

set_option maxHeartbeats 2000000 in
set_option maxRecDepth 100000 in
theorem iInsert_end {w : World} {lo vb : Nat} {v : Value} {l : List Int} {x : Int} (ho : Own .i64 w lo 3 v l) (hlo : lo ≤ w.heap.size) (hm : l.length ≤ 16777216) (hv : w.heap[vb]? = some (.cells #[.int .i64 x] 3 (0, 0))) :
    Calls Try.prog 71 #[v, .int .i64 l.length, .slice (some ⟨vb, 0, none⟩) 1 1] w fun e w' => ∃ v', e = .returned v' ∧ Own .i64 w' lo 3 v' (l ++ [x]) ∧ Below lo w w' := by
  obtain ⟨i0, hi, hz0, hz1, hz2⟩ := info_parts Try.info_i64
  obtain ⟨A, c, rfl, h1, h2, hr⟩ := own_form ho
  unfold maxLen at h2
  have hx := rd_blk hv
  obtain ⟨n, hn⟩ : ∃ n, n = l.length := ⟨_, rfl⟩
  rw [← hn] at h1 ho hm ⊢
  have hmx : l.length + 1 ≤ 1099511627776 := by omega
  clear hr hv hn
  go_enter Try.func71, Try.ntmps71
  go_wp2_with (at_builtin; refine wpl_appI2 _ .i64 rfl (.tmp 23) (.tmp 24) 64 24 rfl lo 3 i0 8 Try.underlying64 Try.underlying24 hi hz0 hz1 hz2 _ l rfl ho _ _ _ 1 [x] rfl rfl hx hmx (by omega) hlo ?_)
  all_goals (
    intro v' w' ho' hg' hat'
    have hg2 : w.grownBy w' (Value.slice A n c).ownBlock := by cases A <;> exact hg'
    go_wp2
    go_ret
    exact ⟨_, rfl, ho', grown_below (Below.refl _ _) ho hg2 (Nat.le_refl _) hlo⟩)

theorem ins_row {R X : List Value} {x : Value} {i n G : Nat} (hR : R.length = G) (hX : X.length = n) (hi : i ≤ n) (hG : n + 1 ≤ G) (h0 : R.take i = X.take i) {R1 R2 : List Value}
    (e1 : R1 = R.take i ++ [x] ++ R.drop (i + 1)) (e2 : R2 = R1.take (i + 1) ++ X.drop i ++ R1.drop (i + 1 + (X.drop i).length)) : R1.length = G ∧ R2.length = G ∧ R2.take (n + 1) = X.take i ++ [x] ++ X.drop i := by
  have l1 : R1.length = G := by rw [e1]; simp; omega
  have t1 : R1.take (i + 1) = X.take i ++ [x] := by
    rw [e1, ← h0, List.take_append_of_le_length (by simp; omega)]
    exact List.take_of_length_le (by simp; omega)
  rw [t1] at e2
  have l2 : (X.take i ++ [x] ++ X.drop i).length = n + 1 := by simp; omega
  refine ⟨l1, ?_, ?_⟩
  · rw [e2, List.length_append, l2]; simp [l1]; omega
  · rw [e2, List.take_append_of_le_length (by omega)]
    exact List.take_of_length_le (by omega)

theorem ins_row' {R X : List Value} {x : Value} {i n G : Nat} (hR : R.length = G) (hX : X.length = n) (hi : i < n) (hG : n + 1 ≤ G) (h0 : R.take n = X) {R1 R2 : List Value}
    (e1 : R1 = R.take (i + 1) ++ X.drop i ++ R.drop (i + 1 + (X.drop i).length)) (e2 : R2 = R1.take i ++ [x] ++ R1.drop (i + 1)) : R1.length = G ∧ R2.length = G ∧ R2.take (n + 1) = X.take i ++ [x] ++ X.drop i := by
  have l1 : R1.length = G := by rw [e1]; simp; omega
  have ti : R.take i = X.take i := by rw [← h0, List.take_take, Nat.min_eq_left (by omega)]
  have t1 : R1.take i = X.take i := by
    rw [e1, List.append_assoc, List.take_append_of_le_length (by simp; omega), List.take_take, Nat.min_eq_left (by omega), ti]
  have d1 : R1.drop (i + 1) = X.drop i ++ R.drop (i + 1 + (X.drop i).length) := by
    rw [e1, List.append_assoc, List.drop_append_of_le_length (by simp; omega), List.drop_of_length_le (by simp; omega), List.nil_append]
  rw [t1, d1] at e2
  have l2 : (X.take i ++ [x] ++ X.drop i).length = n + 1 := by simp; omega
  rw [← List.append_assoc] at e2
  refine ⟨l1, ?_, ?_⟩
  · rw [e2, List.length_append, l2]; simp; omega
  · rw [e2, List.take_append_of_le_length (by omega)]
    exact List.take_of_length_le (by omega)

theorem own_row {w : World} {lo g G : Nat} {R : List Value} {l : List Int} (hg : w.heap[g]? = some (.cells R.toArray 3 (0, 0))) (hlo : lo ≤ g) (hR : R.length = G) (hn : l.length ≤ G) (hG : G ≤ maxLen) (ht : R.take l.length = l.map (Value.int .i64)) :
    Own .i64 w lo 3 (.slice (some ⟨g, 0, none⟩) l.length G) l :=
  ⟨by simp, .inr ⟨g, G, R.toArray, rfl, hlo, hg, hn, hG, by simp [hR], by simpa using ht⟩⟩

set_option maxHeartbeats 4000000 in
set_option maxRecDepth 100000 in
theorem iInsert_grow {w : World} {lo vb b i n : Nat} {l X : List Int} {cur : List Value} {x : Int} (hb : w.heap[b]? = some (.cells cur.toArray 3 (0, 0))) (hcur : cur = l.map (Value.int .i64)) (hn : l.length = n) (hlo : lo ≤ w.heap.size) (hm : n ≤ 16777216) (hi : i < n) (hv : w.heap[vb]? = some (.cells #[.int .i64 x] 3 (0, 0))) :
    Calls Try.prog 71 #[.slice (some ⟨b, 0, none⟩) n n, .int .i64 i, .slice (some ⟨vb, 0, none⟩) 1 1] w fun e w' => ∃ v', e = .returned v' ∧ Own .i64 w' lo 3 v' (l.take i ++ [x] ++ l.drop i) ∧ Below lo w w' := by
  obtain ⟨i0, hi0, hz0, hzs, hzb⟩ := info_parts Try.info_i64
  have hsz : (Try.prog.info? 3).map (·.size) = some 1 := by rw [hi0]; simp [hzs]
  have hcl : cur.length = n := by rw [hcur]; simpa using hn
  have h1c : ∀ u ∈ cur, u.oneCell' = true := by rw [hcur]; intro u hu; obtain ⟨y, _, rfl⟩ := List.mem_map.1 hu; rfl
  have cellb : ∀ (W : World), W.heap[b]? = some (.cells cur.toArray 3 (0, 0)) → ∀ j u, cur[j]? = some u → W.cell? ⟨b, j, none⟩ = some u := fun W hW j u hj => by
    rw [cell_of_row W b j _ _ (0, 0) hW]; simpa using hj
  have hbw : b < w.heap.size := by
    rcases Nat.lt_or_ge b w.heap.size with hlt | hge
    · exact hlt
    · rw [Array.getElem?_eq_none hge] at hb; cases hb
  have hvw : vb < w.heap.size := by
    rcases Nat.lt_or_ge vb w.heap.size with hlt | hge
    · exact hlt
    · rw [Array.getElem?_eq_none hge] at hv; cases hv
  have hold : (Builtin.firstCells i0.size i (.slice (some ⟨b, 0, none⟩) i n)).run Try.prog w.drew = .ok (cur.take i).toArray w.drew := by
    rw [hzs]
    exact run_firstCells_some w.drew 1 i ⟨b, 0, none⟩ i n (cur.take i) (by rw [List.length_take]; omega) (fun j u hj => by
      rw [List.getElem?_take] at hj
      split at hj
      · rw [add_mk, Nat.zero_add]; exact cellb _ hb j u hj
      · cases hj)
  obtain ⟨G, hG⟩ : ∃ G, G = grownCap w (n + 1) n 3 := ⟨_, rfl⟩
  obtain ⟨R, hR⟩ : ∃ R : List Value, R.toArray = (cur.take i).toArray ++ Builtin.zeroCells (Value.int .i64 0).cells (n + 1 - i) ++ Builtin.zeroCells (Value.int .i64 0).cells (G - (n + 1)) := ⟨((cur.take i).toArray ++ Builtin.zeroCells (Value.int .i64 0).cells (n + 1 - i) ++ Builtin.zeroCells (Value.int .i64 0).cells (G - (n + 1))).toList, by simp⟩
  have hGn : n + 1 ≤ G := by rw [hG]; exact grownCap_ge w _ _ _
  have hGm : G ≤ maxLen := by rw [hG]; exact grownCap_le_maxLen w (n + 1) n 3 (by unfold maxLen; omega)
  have lR : R.length = G := by
    have := congrArg Array.size hR
    simp [Builtin.zeroCells, Value.cells] at this
    omega
  have tR : R.take i = cur.take i := by
    have := congrArg Array.toList hR
    simp only [Array.toList_append] at this
    rw [this, List.append_assoc, List.take_append_of_le_length (by simp; omega)]
    exact List.take_of_length_le (by simp; omega)
  have hrz : ∀ ty, (Builtin.append_ #[64, 3] ty #[.slice (some ⟨b, 0, none⟩) i n, .int .i64 ((n : Int) + 1 - (i : Int))]).run Try.prog w = .ok (.slice (some ⟨w.heap.size, 0, none⟩) (n + 1) G) (w.drew.alloc (.cells R.toArray 3)) := fun ty => by
    have h := Lib.run_append_grow_zeros w 64 3 ty 3 i0 _ .i64 .i64 Try.underlying64 Try.underlying3 hi0 hz0 (some ⟨b, 0, none⟩) i n (cur.take i) hold (n + 1 - i) (by omega) (by omega) (by omega) (by omega) (by rw [hzb]; omega) (by rw [hzb, show i + (n + 1 - i) = n + 1 by omega]; exact growslice_fits (by omega) (by omega))
    rw [show i + (n + 1 - i) = n + 1 by omega, ← hG] at h
    rw [show (n : Int) + 1 - (i : Int) = ((n + 1 - i : Nat) : Int) by omega, hR]
    exact h
  obtain ⟨R1, hR1⟩ : ∃ R1 : List Value, R1 = R.take i ++ [.int .i64 x] ++ R.drop (i + 1) := ⟨_, rfl⟩
  obtain ⟨R2, hR2⟩ : ∃ R2 : List Value, R2 = R1.take (i + 1) ++ cur.drop i ++ R1.drop (i + 1 + (cur.drop i).length) := ⟨_, rfl⟩
  obtain ⟨lR1, lR2, tR2⟩ := ins_row lR hcl (by omega) hGn tR hR1 hR2
  have hcpA : ∀ W : World, W.heap[w.heap.size]? = some (.cells R.toArray 3 (0, 0)) → W.heap[vb]? = some (.cells #[.int .i64 x] 3 (0, 0)) → ∀ ty dc, (Builtin.copy_ #[64, 24] ty #[.slice (some ⟨w.heap.size, i, none⟩) (n + 1 - i) dc, .slice (some ⟨vb, 0, none⟩) 1 1]).run Try.prog W = .ok (goInt 1) (W.setRow w.heap.size R1.toArray) := fun W hW hWv ty dc => by
    have h := run_copy_row (P := Try.prog) W 64 24 ty 3 w.heap.size i (n + 1 - i) dc ⟨vb, 0, none⟩ 1 1 R.toArray 3 [.int .i64 x] Try.underlying64 hsz hW (by simp only [List.length_singleton, Nat.min_def]; split <;> omega)
      (fun j u hj => by
        have hj0 : j = 0 := by
          rcases Nat.eq_zero_or_pos j with e | e
          · exact e
          · rw [List.getElem?_eq_none (by simp; omega)] at hj; cases hj
        subst hj0
        rw [add_mk, cell_of_row W vb (0 + 0) _ _ (0, 0) hWv]
        simpa using hj)
      (by simp [lR]; omega) (fun u hu => by simp at hu; subst hu; rfl)
    rw [hR1]
    simpa using h
  have hcpB : ∀ W : World, W.heap[w.heap.size]? = some (.cells R1.toArray 3 (0, 0)) → W.heap[b]? = some (.cells cur.toArray 3 (0, 0)) → ∀ ty dc sc, (Builtin.copy_ #[64, 64] ty #[.slice (some ⟨w.heap.size, i + 1, none⟩) (n + 1 - (i + 1)) dc, .slice (some ⟨b, i, none⟩) (n - i) sc]).run Try.prog W = .ok (goInt (cur.drop i).length) (W.setRow w.heap.size R2.toArray) := fun W hW hWb ty dc sc => by
    have h := run_copy_row (P := Try.prog) W 64 64 ty 3 w.heap.size (i + 1) (n + 1 - (i + 1)) dc ⟨b, i, none⟩ (n - i) sc R1.toArray 3 (cur.drop i) Try.underlying64 hsz hW (by simp only [List.length_drop, Nat.min_def]; split <;> omega)
      (fun j u hj => by rw [add_mk]; exact cellb _ hWb _ u (by rwa [List.getElem?_drop] at hj))
      (by simp [lR1]; omega) (fun u hu => h1c u (List.mem_of_mem_drop hu))
    rw [hR2]
    simpa using h
  obtain ⟨g, hg⟩ : ∃ g, g = w.heap.size := ⟨_, rfl⟩
  have W1g : (w.drew.alloc (.cells R.toArray 3)).heap[g]? = some (.cells R.toArray 3 (0, 0)) := by rw [hg]; exact heap_alloc_new w.drew _
  have W1b : (w.drew.alloc (.cells R.toArray 3)).heap[b]? = some (.cells cur.toArray 3 (0, 0)) := ((Below.refl w.drew.heap.size w.drew).alloc (Nat.le_refl _) (.cells R.toArray 3)).block b hbw |>.trans hb
  have W1v : (w.drew.alloc (.cells R.toArray 3)).heap[vb]? = some (.cells #[.int .i64 x] 3 (0, 0)) := ((Below.refl w.drew.heap.size w.drew).alloc (Nat.le_refl _) (.cells R.toArray 3)).block vb hvw |>.trans hv
  have B1 : Below lo w (w.drew.alloc (.cells R.toArray 3)) := ((Below.refl lo w).drew).alloc hlo _
  have W2g : ∀ W : World, W.heap[g]? = some (.cells R.toArray 3 (0, 0)) → (W.setRow g R1.toArray).heap[g]? = some (.cells R1.toArray 3 (0, 0)) := fun W h => setRow_heap W g _ _ _ _ h
  have W2b : ∀ W : World, W.heap[b]? = some (.cells cur.toArray 3 (0, 0)) → (W.setRow g R1.toArray).heap[b]? = some (.cells cur.toArray 3 (0, 0)) := fun W h => (setRow_other W g b _ (by omega)).trans h
  have W3g : ∀ W : World, W.heap[g]? = some (.cells R1.toArray 3 (0, 0)) → (W.setRow g R2.toArray).heap[g]? = some (.cells R2.toArray 3 (0, 0)) := fun W h => setRow_heap W g _ _ _ _ h
  rw [← hg] at hrz hcpA hcpB
  have hz2 : ¬ ((i : Int) = (n : Int)) := by omega
  have hin : i ≤ n := by omega
  have hci : ¬ (n = i) := by omega
  have hGi : ¬ (G = i) := by omega
  have hGi1 : ¬ (G = i + 1) := by omega
  have hw1 : IntKind.i64.wrap ((i : Int) + 1) = (i : Int) + 1 := by rw [IntKind.wrap_i64]; omega
  have hb1 : (0 : Int) ≤ (i : Int) + 1 := by omega
  have htn : ((i : Int) + 1).toNat = i + 1 := by omega
  have hb3 : (i : Int) ≤ (n : Int) := by omega
  have hFin : Own .i64 (((w.drew.alloc (.cells R.toArray 3)).setRow g R1.toArray).setRow g R2.toArray) lo 3 (.slice (some ⟨g, 0, none⟩) (n + 1) G) (l.take i ++ [x] ++ l.drop i) := by
    have hl : (l.take i ++ [x] ++ l.drop i).length = n + 1 := by simp; omega
    have h := own_row (lo := lo) (l := l.take i ++ [x] ++ l.drop i) (W3g _ (W2g _ W1g)) (by omega) lR2 (by rw [hl]; omega) hGm (by rw [hl, tR2, hcur]; simp)
    rwa [hl] at h
  have bFin : ∀ W : World, Below lo w W → Below lo w (W.setRow g R1.toArray) := fun W h => below_setRow h (by omega) _
  have bFin2 : ∀ W : World, Below lo w W → Below lo w (W.setRow g R2.toArray) := fun W h => below_setRow h (by omega) _
  clear hR hR1 hR2 tR2 tR hold hG cellb hcl hcur
  go_enter Try.func71, Try.ntmps71
  subst hg
  have mixed : Try.prog.follows Departure.mixedOrders = true := by kernel_rfl
  go_wp2_with (first
    | (at_builtin; refine Lib.wpList_append_run _ rfl _ _ _ _ rfl _ _ rfl rfl _ _ (hrz _) ?_)
    | (at_builtin; refine wpList_copy_runI _ rfl _ _ 64 24 rfl _ _ rfl rfl (hcpA (w.alloc (.cells R.toArray 3)).drew W1g W1v _ _) ?_)
    | (refine wpList_copy_runI _ rfl _ _ 64 24 rfl _ _ rfl rfl (hcpA (w.alloc (.cells R.toArray 3)).drew W1g W1v _ _) ?_))
  go_region_law_o (refine step_copy_runI rfl _ _ 64 64 rfl (.slice (some ⟨w.heap.size, i + 1, none⟩) (n + 1 - (i + 1)) (G - (i + 1))) (.slice (some ⟨b, i, none⟩) (n - i) (n - i)) (by simp [Act.eval, Act.put]) (by simp [Act.eval, Act.put]) (hcpB ((w.alloc (.cells R.toArray 3)).drew.setRow w.heap.size R1.toArray).drew (W2g _ W1g) (W2b _ W1b) 3 (G - (i + 1)) (n - i)) ?_)
  go_wp2
  go_ret
  exact ⟨_, rfl, hFin, bFin2 _ (bFin _ ((Below.refl lo w).alloc hlo _).drew).drew⟩

set_option maxHeartbeats 4000000 in
set_option maxRecDepth 100000 in
theorem iInsert_shift {w : World} {lo vb b i n c : Nat} {l : List Int} {cur : List Value} {x : Int} (hb : w.heap[b]? = some (.cells cur.toArray 3 (0, 0))) (hlc : cur.length = c) (hcur : cur.take n = l.map (Value.int .i64)) (hn : l.length = n) (hlo : lo ≤ w.heap.size) (hlb : lo ≤ b) (hm : n ≤ 16777216) (hi : i < n) (hc : n + 1 ≤ c) (hcm : c ≤ maxLen) (hv : w.heap[vb]? = some (.cells #[.int .i64 x] 3 (0, 0))) (hne : vb ≠ b) :
    Calls Try.prog 71 #[.slice (some ⟨b, 0, none⟩) n c, .int .i64 i, .slice (some ⟨vb, 0, none⟩) 1 1] w fun e w' => ∃ v', e = .returned v' ∧ Own .i64 w' lo 3 v' (l.take i ++ [x] ++ l.drop i) ∧ Below lo w w' := by
  obtain ⟨i0, hi0, hz0, hzs, hzb⟩ := info_parts Try.info_i64
  have hsz : (Try.prog.info? 3).map (·.size) = some 1 := by rw [hi0]; simp [hzs]
  obtain ⟨X, hX⟩ : ∃ X, X = l.map (Value.int .i64) := ⟨_, rfl⟩
  rw [← hX] at hcur
  have lX : X.length = n := by rw [hX]; simpa using hn
  have h1c : ∀ u ∈ X, u.oneCell' = true := by rw [hX]; intro u hu; obtain ⟨y, _, rfl⟩ := List.mem_map.1 hu; rfl
  have cellb : ∀ (W : World), W.heap[b]? = some (.cells cur.toArray 3 (0, 0)) → ∀ j u, X[j]? = some u → W.cell? ⟨b, j, none⟩ = some u := fun W hW j u hj => by
    rw [cell_of_row W b j _ _ (0, 0) hW]
    rw [← hcur, List.getElem?_take] at hj
    split at hj
    · simpa using hj
    · cases hj
  have hsv : w.shape? vb = some (3, 1) := by simp [World.shape?, hv]
  have hsb : w.shape? b = some (3, c) := by simp [World.shape?, hb, hlc]
  have hov : ∀ lb cb, (callFunc 75 #[.slice (some ⟨vb, 0, none⟩) 1 1, .slice (some ⟨b, i + 1, none⟩) lb cb]).run Try.prog w = .ok (.value (.bool false)) w := fun lb cb => by
    rw [run_callFunc_extern Try.func75 (by kernel_rfl) (by kernel_rfl) (by kernel_rfl) (e := Extern.SlicesOverlaps.overlaps #[24, 24] #[4]) (by kernel_rfl),
      Lib.run_overlaps_apart w 24 4 3 Try.underlying24 1 Try.sizeOf3 ⟨vb, 0, none⟩ ⟨b, i + 1, none⟩ 1 1 lb cb hne 3 3 1 c hsv hsb (by omega) (by simp [World.frozen?, hv]) (by simp [World.frozen?, hv])]
    rfl
  obtain ⟨R1, hR1⟩ : ∃ R1 : List Value, R1 = cur.take (i + 1) ++ X.drop i ++ cur.drop (i + 1 + (X.drop i).length) := ⟨_, rfl⟩
  obtain ⟨R2, hR2⟩ : ∃ R2 : List Value, R2 = R1.take i ++ [.int .i64 x] ++ R1.drop (i + 1) := ⟨_, rfl⟩
  obtain ⟨lR1, lR2, tR2⟩ := ins_row' hlc lX hi hc hcur hR1 hR2
  have hcpA : ∀ W : World, W.heap[b]? = some (.cells cur.toArray 3 (0, 0)) → ∀ ty dc sc, (Builtin.copy_ #[64, 64] ty #[.slice (some ⟨b, i + 1, none⟩) (n + 1 - (i + 1)) dc, .slice (some ⟨b, i, none⟩) (n + 1 - i) sc]).run Try.prog W = .ok (goInt (X.drop i).length) (W.setRow b R1.toArray) := fun W hW ty dc sc => by
    have h := run_copy_row (P := Try.prog) W 64 64 ty 3 b (i + 1) (n + 1 - (i + 1)) dc ⟨b, i, none⟩ (n + 1 - i) sc cur.toArray 3 (X.drop i) Try.underlying64 hsz hW (by simp only [List.length_drop, Nat.min_def]; split <;> omega)
      (fun j u hj => by rw [add_mk]; exact cellb _ hW _ u (by rwa [List.getElem?_drop] at hj))
      (by simp; omega) (fun u hu => h1c u (List.mem_of_mem_drop hu))
    rw [hR1]
    simpa using h
  have hcpB : ∀ W : World, W.heap[b]? = some (.cells R1.toArray 3 (0, 0)) → W.heap[vb]? = some (.cells #[.int .i64 x] 3 (0, 0)) → ∀ ty dc, (Builtin.copy_ #[64, 24] ty #[.slice (some ⟨b, i, none⟩) (n + 1 - i) dc, .slice (some ⟨vb, 0, none⟩) 1 1]).run Try.prog W = .ok (goInt 1) (W.setRow b R2.toArray) := fun W hW hWv ty dc => by
    have h := run_copy_row (P := Try.prog) W 64 24 ty 3 b i (n + 1 - i) dc ⟨vb, 0, none⟩ 1 1 R1.toArray 3 [.int .i64 x] Try.underlying64 hsz hW (by simp only [List.length_singleton, Nat.min_def]; split <;> omega)
      (fun j u hj => by
        have hj0 : j = 0 := by
          rcases Nat.eq_zero_or_pos j with e | e
          · exact e
          · rw [List.getElem?_eq_none (by simp; omega)] at hj; cases hj
        subst hj0
        rw [add_mk, cell_of_row W vb (0 + 0) _ _ (0, 0) hWv]
        simpa using hj)
      (by simp [lR1]; omega) (fun u hu => by simp at hu; subst hu; rfl)
    rw [hR2]
    simpa using h
  have W1g : ∀ W : World, W.heap[b]? = some (.cells cur.toArray 3 (0, 0)) → (W.setRow b R1.toArray).heap[b]? = some (.cells R1.toArray 3 (0, 0)) := fun W h => setRow_heap W b _ _ _ _ h
  have W1v : ∀ W : World, W.heap[vb]? = some (.cells #[.int .i64 x] 3 (0, 0)) → (W.setRow b R1.toArray).heap[vb]? = some (.cells #[.int .i64 x] 3 (0, 0)) := fun W h => (setRow_other W b vb _ hne).trans h
  have hz2 : ¬ ((i : Int) = (n : Int)) := by omega
  have hz3 : (n : Int) + 1 ≤ (c : Int) := by omega
  have hin : i ≤ n := by omega
  have hc63 : c ≤ 9223372036854775807 := by unfold maxLen at hcm; omega
  have hci : ¬ (c = i) := by omega
  have hci1 : ¬ (c = i + 1) := by omega
  have hw1 : IntKind.i64.wrap ((i : Int) + 1) = (i : Int) + 1 := by rw [IntKind.wrap_i64]; omega
  have hb1 : (0 : Int) ≤ (i : Int) + 1 := by omega
  have htn : ((i : Int) + 1).toNat = i + 1 := by omega
  have hb3 : (i : Int) ≤ (n : Int) + 1 := by omega
  have hFin : Own .i64 ((w.setRow b R1.toArray).setRow b R2.toArray) lo 3 (.slice (some ⟨b, 0, none⟩) (n + 1) c) (l.take i ++ [x] ++ l.drop i) := by
    have hl : (l.take i ++ [x] ++ l.drop i).length = n + 1 := by simp; omega
    have h := own_row (lo := lo) (l := l.take i ++ [x] ++ l.drop i) (setRow_heap _ b _ _ _ _ (W1g _ hb)) hlb lR2 (by rw [hl]; omega) hcm (by rw [hl, tR2, hX]; simp)
    rwa [hl] at h
  have bFin : ∀ W : World, Below lo w W → ∀ R, Below lo w (W.setRow b R) := fun W h R => below_setRow h hlb R
  clear hR1 hR2 tR2 cellb hX hcur hcm
  have mixed : Try.prog.follows Departure.mixedOrders = true := by kernel_rfl
  go_enter Try.func71, Try.ntmps71
  go_wp2_with (simp only [hov])
  go_region_law_o (refine step_copy_runI rfl _ _ 64 64 rfl (.slice (some ⟨b, i + 1, none⟩) (n + 1 - (i + 1)) (c - (i + 1))) (.slice (some ⟨b, i, none⟩) (n + 1 - i) (c - i)) (by simp [Act.eval, Act.put]) (by simp [Act.eval, Act.put]) (hcpA w.drew hb 3 (c - (i + 1)) (c - i)) ?_)
  go_wp2_with (refine wpList_copy_runI _ rfl _ _ 64 24 rfl _ _ rfl rfl (hcpB (w.drew.setRow b R1.toArray) (W1g _ hb) (W1v _ hv) _ _) ?_)
  go_ret
  exact ⟨_, rfl, hFin, bFin _ (bFin _ (Below.refl lo w).drew _) _⟩

theorem iInsert_c {w : World} {lo vb i : Nat} {v : Value} {l : List Int} {x : Int} (ho : Own .i64 w lo 3 v l) (hlo : lo ≤ w.heap.size) (hi : i ≤ l.length) (hm : l.length ≤ 16777216) (hv : w.heap[vb]? = some (.cells #[.int .i64 x] 3 (0, 0))) (hne : ∀ j, v.ownBlock = some j → vb ≠ j) :
    Calls Try.prog 71 #[v, .int .i64 i, .slice (some ⟨vb, 0, none⟩) 1 1] w fun e w' => ∃ v', e = .returned v' ∧ Own .i64 w' lo 3 v' (l.take i ++ [x] ++ l.drop i) ∧ Below lo w w' := by
  rcases Nat.lt_or_ge i l.length with h | h
  · rcases ho.2 with ⟨rfl, h0⟩ | ⟨g, cap, cur, rfl, hg, hh, hnc, hcm, hsz, ht⟩
    · omega
    · rw [Nat.mul_one] at ht hsz
      have hh' : w.heap[g]? = some (.cells cur.toList.toArray 3 (0, 0)) := by simpa using hh
      by_cases hc : l.length + 1 ≤ cap
      · exact iInsert_shift hh' (by simpa using hsz) ht rfl hlo hg hm h hc hcm hv (hne g rfl)
      · obtain rfl : cap = l.length := by omega
        refine iInsert_grow (X := l) hh' ?_ rfl hlo hm h hv
        rw [← ht, List.take_of_length_le (by simp [hsz])]
  · obtain rfl : i = l.length := by omega
    refine (iInsert_end ho hlo hm hv).mono ?_
    rintro e w' ⟨v', rfl, h1, h2⟩
    exact ⟨v', rfl, by simpa using h1, h2⟩

theorem filt {l : List Int} {n : Int} (h : l.Pairwise (· < ·)) (hn : n ∉ l) : l.filter (fun x => decide (x < n)) = l.take (placeI l n) ∧ l.filter (fun x => decide (n < x)) = l.drop (placeI l n) := by
  unfold placeI
  induction l with
  | nil => exact ⟨rfl, rfl⟩
  | cons a r ih =>
    rw [List.pairwise_cons] at h
    simp only [List.mem_cons, not_or] at hn
    obtain ⟨i1, i2⟩ := ih h.2 hn.2
    by_cases ha : a < n
    · have hb : ¬ n < a := by omega
      simp [ha, hb, i1, i2]
    · have hb : n < a := by omega
      have z : r.countP (fun y => decide (y < n)) = 0 := List.countP_eq_zero.2 (fun y hy => by have := h.1 y hy; simp; omega)
      have f1 : r.filter (fun x => decide (x < n)) = [] := List.filter_eq_nil_iff.2 (fun y hy => by have := h.1 y hy; simp; omega)
      have f2 : r.filter (fun x => decide (n < x)) = r := List.filter_eq_self.2 (fun y hy => by have := h.1 y hy; simp; omega)
      simp [ha, hb, z, f1, f2]
theorem add_place {l : List Int} {n : Int} (h : riseB l = true) (hn : hasI l n = false) : l.take (placeI l n) ++ [n] ++ l.drop (placeI l n) = addI l n := by
  obtain ⟨h1, h2⟩ := filt (asc_pair (rise_asc h)) (of_decide_eq_false hn)
  unfold addI
  rw [h1, h2]

set_option maxHeartbeats 1000000 in
theorem iWith_new {w : World} {v : Value} {l : List Int} {n : Int} (h : RS .i64 w v l) (hl : riseB l = true) (hn : hasI l n = false) : Calls Try.prog 51 #[v, .int .i64 n] w (NewS .i64 3 w (addI l n)) := by
  have h0 := h
  have hm := rise_len hl
  have hp : placeI l n ≤ l.length := List.countP_le_length
  have HN := Lib.hid hn
  have HP : Hid (l.take (placeI l n) ++ [n] ++ l.drop (placeI l n) = addI l n) := add_place hl hn
  clear hn
  obtain ⟨A, c, rfl, h1, h2, hr⟩ := h
  obtain ⟨k, hk⟩ : ∃ k, k = placeI l n := ⟨_, rfl⟩
  have HK := Lib.hid hk
  have hp' : k ≤ l.length := by omega
  go_enter Try.func51, Try.ntmps51
  go_wp2_with fail
  refine (iFind_c h0 (rise_asc hl) (by omega)).mono ?_
  rintro e w1 ⟨rfl, h_w1⟩
  rw [HN.out, ← hk]
  clear hk
  go_wp2_with fail
  refine (iClone_c (h0.from_ h_w1) (by omega)).mono ?_
  rintro e w2 ⟨v2, rfl, o2, h_w2⟩
  have s1 := h_w1.size
  have s2 := h_w2.size
  have B2 : Below w.heap.size w w2 := h_w1.trans (h_w2.mono s1)
  obtain ⟨w3, e_w3, s_w3, h_w3, x_v⟩ := alloc_step w2 3 [.int .i64 n]
  have own3 : Own .i64 w3 w.heap.size 3 v2 l := by rw [← e_w3]; exact (o2.1.alloc_ _).base_mono s1
  have B3 := B2.trans (h_w3.mono B2.size)
  have hne : ∀ j, v2.ownBlock = some j → w2.heap.size ≠ j := fun j hj => by have := (o2.1.at_ j hj).2; omega
  have hlo : w.heap.size ≤ w3.heap.size := B3.size
  obtain ⟨A2, c2, rfl, -, -, -⟩ := o2.rd
  clear s_w3
  go_wp2_with fail
  refine (iInsert_c (i := k) own3 hlo hp' (by omega) x_v hne).mono ?_
  rintro e w4 ⟨v4, rfl, o4, h_w4⟩
  go_wp2
  go_ret
  rw [HK.out, HP.out] at o4
  exact ⟨_, rfl, OS.mk_ o4, B3.trans h_w4⟩

theorem iWith_has {w : World} {v : Value} {l : List Int} {n : Int} (h : RS .i64 w v l) (hl : riseB l = true) (hn : hasI l n = true) : Calls Try.prog 51 #[v, .int .i64 n] w (NewS .i64 3 w l) := by
  have h0 := h
  have hm := rise_len hl
  have HN := Lib.hid hn
  clear hn
  obtain ⟨A, c, rfl, h1, h2, hr⟩ := h
  obtain ⟨k, hk⟩ : ∃ k, k = placeI l n := ⟨_, rfl⟩
  go_enter Try.func51, Try.ntmps51
  go_wp2_with fail
  refine (iFind_c h0 (rise_asc hl) (by omega)).mono ?_
  rintro e w1 ⟨rfl, h_w1⟩
  rw [HN.out, ← hk]
  clear hk
  go_wp2_with fail
  refine (iClone_c (h0.from_ h_w1) (by omega)).mono ?_
  rintro e w2 ⟨v2, rfl, o2, h_w2⟩
  have s1 := h_w1.size
  obtain ⟨A2, c2, rfl, -, -, -⟩ := o2.rd
  go_wp2
  go_ret
  exact ⟨_, rfl, o2.widen s1 (Nat.le_refl _) (Nat.le_refl _), h_w1.trans (h_w2.mono s1)⟩

end Go.Proofs.Ytaoedgcdcimibaa
