/- append onto a row of the call's own whose elements have several cells, whatever the source. No program is named here. -/
import Derived.Test.YtopmojfcdmcmbaaLay4
import Derived.Test.YtopmojfcdmcmbaaAppStep
namespace Go.Proofs.Ytopmojfcdmcmbaa
open Go.RowKit
set_option linter.unusedVariables false

section
variable {P : Program} (w : World)

theorem run_appN_nothing (base sz : Nat) (t ty e : TypeId) (i : TypeInfo) (ht : P.underlying t = some (.slice e)) (hi : P.info? e = some i)
    (v : Value) (n : Nat) (xs : List Value) (hown : w.ownsRow base e sz v n xs) (c : Nat) : (Builtin.append_ #[t, t] ty #[v, .slice none 0 c]).run P w = .ok v w := by
  rcases hown.2 with ⟨rfl, rfl⟩ | ⟨g, cap, cur, rfl, _, _, hnc, _⟩
  · simp [Builtin.append_, run_underlying ht, sizeOf, typeInfo, hi, Builtin.lenOf, Builtin.firstCells]
  · simp [Builtin.append_, run_underlying ht, sizeOf, typeInfo, hi, Builtin.lenOf, Builtin.firstCells, hnc, storeCells]

theorem run_appN (base sz : Nat) (t ty e : TypeId) (i : TypeInfo) (z : Value) (bytes : Nat) (ht : P.underlying t = some (.slice e)) (hi : P.info? e = some i) (hz : i.zero = some z)
    (hsize : i.size = sz) (hby : i.bytes = bytes) (hzs : z.cells.size = sz) (hsz : 0 < sz) (v : Value) (n : Nat) (xs : List Value) (hown : w.ownsRow base e sz v n xs)
    (B : Nat) (A : Option Addr) (c m : Nat) (ys : List Value) (hm : ys.length = m * sz) (hr : RdV w B A ys) (h1 : ∀ u ∈ ys, u.oneCell' = true)
    (hmax : n + m ≤ 67108864) (hbyt : bytes ≤ 1024) (hbase : base ≤ w.heap.size) :
    ∃ v' w', (Builtin.append_ #[t, t] ty #[v, .slice A m c]).run P w = .ok v' w' ∧ w'.ownsRow base e sz v' (n + m) (xs ++ ys) ∧ w.grownBy w' v.ownBlock ∧
      (v'.ownBlock = v.ownBlock ∨ v'.ownBlock = some w.heap.size) := by
  rcases A with _ | a
  · have h0 : ys = [] := by
      rcases Nat.eq_zero_or_pos ys.length with h | h
      · exact List.eq_nil_of_length_eq_zero h
      · obtain ⟨b, off, h', _⟩ := hr h; cases h'
    subst h0
    have hm0 : m = 0 := by
      rcases Nat.eq_zero_or_pos m with h | h
      · exact h
      · have := Nat.mul_pos h hsz; simp at hm; omega
    subst hm0
    exact ⟨v, w, run_appN_nothing w base sz t ty e i ht hi v n xs hown c, by simpa using hown, World.grownBy.refl w _, .inl rfl⟩
  · have hcells : ∀ j u, ys[j]? = some u → w.cell? (a.add j) = some u := by
      intro j u hu
      have hp : 0 < ys.length := by
        rcases Nat.eq_zero_or_pos ys.length with h | h
        · rw [List.eq_nil_of_length_eq_zero h] at hu; simp at hu
        · exact h
      obtain ⟨b, off, h', _, hc⟩ := hr hp
      simp only [Option.some.injEq] at h'
      subst h'
      rw [add_mk]; exact hc j u hu
    have hb2 : (n + m) * bytes ≤ 67108864 * 1024 := Nat.mul_le_mul hmax hbyt
    obtain ⟨v', w', hrun, h2, h3, _, h5⟩ := run_append_own_at (P := P) w base t ty e i z sz bytes ht hi hz hsize hby hzs hsz v n xs hown a m c ys hm hcells h1 (by unfold maxLen; omega) (by omega) hbase
    exact ⟨v', w', hrun, h2, h3, h5⟩

/-- THE LAW at the walk's next operation. -/
theorem wpl_appN {ops : Array Oper} {rest : List Oper} {o : Oper} {a : Act} {Q : Exit → Act → World → Prop} (hgd : o.guard = none) (s x : Operand) (t : TypeId)
    (ho : o.op = .call { callee := .builtin .append, args := #[s, x], argTypes := #[t, t] })
    (base sz : Nat) (e : TypeId) (i : TypeInfo) (z : Value) (bytes : Nat) (ht : P.underlying t = some (.slice e)) (hi : P.info? e = some i) (hz : i.zero = some z)
    (hsize : i.size = sz) (hby : i.bytes = bytes) (hzs : z.cells.size = sz) (hsz : 0 < sz) (v : Value) (n : Nat) (xs : List Value) (hs : a.eval s = v) (hown : w.ownsRow base e sz v n xs)
    (B : Nat) (A : Option Addr) (c m : Nat) (ys : List Value) (hx : a.eval x = .slice A m c) (hm : ys.length = m * sz) (hr : RdV w B A ys) (h1 : ∀ u ∈ ys, u.oneCell' = true)
    (hmax : n + m ≤ 67108864) (hbyt : bytes ≤ 1024) (hbase : base ≤ w.heap.size)
    (h : ∀ v' w', w'.ownsRow base e sz v' (n + m) (xs ++ ys) → w.grownBy w' v.ownBlock → (v'.ownBlock = v.ownBlock ∨ v'.ownBlock = some w.heap.size) → wpList P ops Q rest (a.put o.dst v') w') :
    wpList P ops Q (o :: rest) a w := by
  refine wpList_plain hgd fun K hK => ?_
  obtain ⟨v', w', hrun, h2, h3, h4⟩ := run_appN (P := P) w base sz t o.type e i z bytes ht hi hz hsize hby hzs hsz v n xs hown B A c m ys hm hr h1 hmax hbyt hbase
  unfold Oper.wp execOp
  simp only [ho, resolve, invoke, builtin, Sem.run_bind, Sem.run_pure, Result.andThen_ok, List.map_toArray, List.map_cons, List.map_nil, hs, hx, hrun]
  exact hK _ _ (h v' w' h2 h3 h4)
end

/-- .. as one step of a region that draws its order -/
theorem step_appN {P : Program} {ops : Array Oper} {o : Oper} {a : Act} {w : World} {K : Act → World → Prop} {Q : Exit → Act → World → Prop} {E : Prop} (hgd : o.guard = none) (s x : Operand) (t : TypeId)
    (ho : o.op = .call { callee := .builtin .append, args := #[s, x], argTypes := #[t, t] })
    (base sz : Nat) (e : TypeId) (i : TypeInfo) (z : Value) (bytes : Nat) (ht : P.underlying t = some (.slice e)) (hi : P.info? e = some i) (hz : i.zero = some z)
    (hsize : i.size = sz) (hby : i.bytes = bytes) (hzs : z.cells.size = sz) (hsz : 0 < sz) (v : Value) (n : Nat) (xs : List Value) (hs : a.eval s = v) (hown : w.ownsRow base e sz v n xs)
    (B : Nat) (A : Option Addr) (c m : Nat) (ys : List Value) (hx : a.eval x = .slice A m c) (hm : ys.length = m * sz) (hr : RdV w B A ys) (h1 : ∀ u ∈ ys, u.oneCell' = true)
    (hmax : n + m ≤ 67108864) (hbyt : bytes ≤ 1024) (hbase : base ≤ w.heap.size)
    (h : ∀ v' w', w'.ownsRow base e sz v' (n + m) (xs ++ ys) → w.grownBy w' v.ownBlock → (v'.ownBlock = v.ownBlock ∨ v'.ownBlock = some w.heap.size) → K (a.put o.dst v') w') :
    if Region.wanted o (yielded ops a.tmps) = true then Oper.wp P o a w K Q else E := by
  have hw : Region.wanted o (yielded ops a.tmps) = true := by simp [Region.wanted, hgd]
  rw [if_pos hw]
  obtain ⟨v', w', hrun, h2, h3, h4⟩ := run_appN (P := P) w base sz t o.type e i z bytes ht hi hz hsize hby hzs hsz v n xs hown B A c m ys hm hr h1 hmax hbyt hbase
  unfold Oper.wp execOp
  simp only [ho, resolve, invoke, builtin, Sem.run_bind, Sem.run_pure, Result.andThen_ok, List.map_toArray, List.map_cons, List.map_nil, hs, hx, hrun]
  exact h v' w' h2 h3 h4

section
variable {α : Type} {L : Lay α} {n : Nat} {e : TypeId} {w : World} {xs ys : List α} {v : Value} {B : Nat} {A : Option Addr}

/-- the cells behind a slice that reads as xs, one behind the other -/
theorem RdL.flatV (h : RdL L n w B A xs) : ∃ cf : Nat → List Value, (∀ j x, xs[j]? = some x → (cf j).length = n ∧ L.rd w B (cf j) x) ∧ (flat cf xs.length).length = xs.length * n ∧ RdV w B A (flat cf xs.length) := by
  obtain ⟨cf, h1, h2⟩ := h
  have hlen : ∀ j, j < xs.length → (cf j).length = n := fun j hj => (h1 j xs[j] (List.getElem?_eq_getElem hj)).1
  have hl := flat_len (cf := cf) (N := xs.length) hlen
  refine ⟨cf, h1, hl, fun hp => ?_⟩
  have hx : 0 < xs.length := by
    rcases Nat.eq_zero_or_pos xs.length with h | h
    · rw [hl, h] at hp; simp at hp
    · exact h
  have hn : 0 < n := by
    rcases Nat.eq_zero_or_pos n with h | h
    · rw [hl, h] at hp; simp at hp
    · exact h
  obtain ⟨b, off, rfl, hb, hc⟩ := h2 hx
  refine ⟨b, off, rfl, hb, fun q u hu => ?_⟩
  have hq := getElem?_lt hu
  rw [hl] at hq
  have e1 : q = q / n * n + q % n := by rw [Nat.mul_comm]; exact (Nat.div_add_mod q n).symm
  have e2 : q % n < n := Nat.mod_lt _ hn
  have e3 : q / n < xs.length := (Nat.div_lt_iff_lt_mul hn).2 hq
  rw [e1] at hu ⊢
  rw [flat_get hlen e3 e2] at hu
  exact hc _ _ _ e3 hu

theorem flat_app {β : Type} (cf cg : Nat → List β) (M : Nat) : ∀ N : Nat, flat (fun j => if j < M then cf j else cg (j - M)) (M + N) = flat cf M ++ flat cg N
  | 0 => by
    rw [Nat.add_zero, flat_congr (cf := cf) (fun j hj => if_pos hj)]
    simp [flat]
  | N + 1 => by
    rw [← Nat.add_assoc, flat_succ, flat_app cf cg M N, flat_succ, if_neg (by omega), Nat.add_sub_cancel_left, List.append_assoc]

/-- an append of one element of scalars: the row lies where it lay, or in a new block -/
theorem OV.app_n2 {lo m : Nat} {cs : List Value} {x : α} (hz : ∀ w T cs x, L.own w T cs x → T = []) (h : OV (sliceL e n L) w lo m v xs) (hc : cs.length = n) (hx : ∀ w, L.own w [] cs x) (hlm : lo ≤ w.heap.size) :
    ∃ ys, w.ownsRow 0 e n v xs.length ys ∧ ∀ v' w', w'.ownsRow 0 e n v' (xs.length + 1) (ys ++ cs) → w.grownBy w' v.ownBlock → (v'.ownBlock = v.ownBlock ∨ v'.ownBlock = some w.heap.size) →
      Chg lo m w w' ∧ (OV (sliceL e n L) w' lo m v' (xs ++ [x]) ∨ OV (sliceL e n L) w' w.heap.size w'.heap.size v' (xs ++ [x])) := by
  have h' := h
  obtain ⟨zs, _, ho0, hin⟩ := h.row
  have hm : m ≤ w.heap.size := by obtain ⟨_, _, _, _, _, _, hm⟩ := h; exact hm
  obtain ⟨ys, R, -, hb⟩ := OV.app_n hz h' hc hx hlm
  refine ⟨ys, R, fun v' w' hrow hg hat => ?_⟩
  obtain ⟨⟨cs0, S, hv, ⟨u, rfl, cf, sf, ho, hel, rfl⟩, hn, hS, hh⟩, -⟩ := hb v' w' hrow hg hat
  obtain rfl : v' = u := hv
  have hsf : flat sf (xs ++ [x]).length = [] := List.eq_nil_iff_forall_not_mem.2 fun j hj => by
    obtain ⟨i, hi, hm⟩ := mem_flat.1 hj
    have := hz _ _ _ _ (hel i _ (List.getElem?_eq_getElem hi)).2
    rw [this] at hm; cases hm
  have hlt := World.ownsRow.lt hrow
  have hs := hg.size
  refine ⟨Chg.of_grown hg hin, ?_⟩
  rcases hat with ha | ha
  · refine .inl ⟨_, _, rfl, ⟨_, rfl, cf, sf, ho, hel, rfl⟩, hn, fun j hj => ?_, by omega⟩
    rw [hsf, List.append_nil] at hj
    exact hin j (by rw [← ha]; simpa using hj)
  · refine .inr ⟨_, _, rfl, ⟨_, rfl, cf, sf, ho, hel, rfl⟩, hn, fun j hj => ?_, Nat.le_refl _⟩
    rw [hsf, List.append_nil] at hj
    have hj' : v'.ownBlock = some j := by simpa using hj
    have h2 := (hlt j hj').2
    rw [ha] at hj'
    obtain rfl : w.heap.size = j := by simpa using hj'
    exact ⟨Nat.le_refl _, h2⟩

/-- a variable's block, read as the cells of a slice -/
theorem Vr.rdV {b : Nat} {t : TypeId} {us : List Value} (h : Vr w b t us) : RdV w w.heap.size (some ⟨b, 0, none⟩) us := fun _ =>
  ⟨b, 0, rfl, h.lt, fun j u hu => by rw [Nat.zero_add]; exact h.cell hu⟩

/-- an append of a slice of scalars' structs: what is asked of the walk, and what lies behind -/
theorem OV.app_all {lo m : Nat} (hz : ∀ w T cs x, L.own w T cs x → T = []) (hro : ∀ w B cs x, L.rd w B cs x → ∀ w', L.own w' [] cs x) (h : OV (sliceL e n L) w lo m v xs) (hy : RdL L n w B A ys) (hlm : lo ≤ w.heap.size) :
    ∃ zs us, w.ownsRow 0 e n v xs.length zs ∧ us.length = ys.length * n ∧ RdV w B A us ∧ (∀ u ∈ us, ∃ (j : Nat) (x : α) (cs : List Value), ys[j]? = some x ∧ L.rd w B cs x ∧ u ∈ cs) ∧ ∀ v' w', w'.ownsRow 0 e n v' (xs.length + ys.length) (zs ++ us) → w.grownBy w' v.ownBlock → (v'.ownBlock = v.ownBlock ∨ v'.ownBlock = some w.heap.size) →
      OV (sliceL e n L) w' lo w'.heap.size v' (xs ++ ys) ∧ Below lo w w' := by
  obtain ⟨cs0, S, hv, ⟨u0, rfl, hO⟩, hn, hS, hm⟩ := h
  obtain rfl : v = u0 := hv
  obtain ⟨cf, sf, ho, hel, rfl⟩ := hO
  obtain ⟨cg, g1, g2, g3⟩ := hy.flatV
  refine ⟨_, _, ho, g2, g3, fun u hu => ?_, fun v' w' hrow hg hat => ?_⟩
  · obtain ⟨j, hj, hm⟩ := mem_flat.1 hu
    exact ⟨j, ys[j], cg j, List.getElem?_eq_getElem hj, (g1 j ys[j] (List.getElem?_eq_getElem hj)).2, hm⟩
  have hlt := World.ownsRow.lt hrow
  have hvS : ∀ k, v.ownBlock = some k → lo ≤ k ∧ k < m := fun k hk => hS k (List.mem_append.2 (.inl (by simp [hk])))
  have hB : Below lo w w' := ⟨hg.os, hg.tape, hg.output, hg.size, fun k hk => hg.block k (by omega) (fun e => by have := hvS k e.symm; omega)⟩
  refine ⟨⟨[v'], v'.ownBlock.toList, rfl, ⟨v', rfl, fun j => if j < xs.length then cf j else cg (j - xs.length), fun _ => [], ?_, ?_, ?_⟩, by cases v'.ownBlock <;> simp, ?_, Nat.le_refl _⟩, hB⟩
  · rw [List.length_append, flat_app]
    exact hrow
  · intro i y hy
    by_cases e1 : i < xs.length
    · rw [List.getElem?_append_left e1] at hy
      obtain ⟨h1, h2⟩ := hel i y hy
      simp only [if_pos e1]
      have hs := hz _ _ _ _ h2
      rw [hs] at h2
      exact ⟨h1, L.own_keep h2 fun k hk => by cases hk⟩
    · rw [List.getElem?_append_right (by omega)] at hy
      obtain ⟨h1, h2⟩ := g1 _ y hy
      simp only [if_neg e1]
      exact ⟨h1, hro _ _ _ _ h2 _⟩
  · have : flat (fun _ : Nat => ([] : List Nat)) (xs ++ ys).length = [] := List.eq_nil_iff_forall_not_mem.2 fun j hj => by
      obtain ⟨i, _, hm⟩ := mem_flat.1 hj; cases hm
    rw [this, List.append_nil]
  · intro k hk
    have hk' : v'.ownBlock = some k := by simpa using hk
    have h2 := (hlt k hk').2
    rcases hat with h1 | h1
    · rw [h1] at hk'
      exact ⟨(hvS k hk').1, h2⟩
    · rw [h1] at hk'
      obtain rfl : w.heap.size = k := by simpa using hk'
      exact ⟨hlm, h2⟩
end

end Go.Proofs.Ytopmojfcdmcmbaa
