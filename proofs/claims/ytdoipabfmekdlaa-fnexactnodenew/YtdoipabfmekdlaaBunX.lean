/- Texts joined: AppN, Box4, Box5, Box6, MsgI0, MsgI1, BxI0, BxI1, BxI2, BxI3. -/
import Derived.Test.YtdoipabfmekdlaaBunA
import Derived.Test.YtdoipabfmekdlaaBunD
import Derived.Handy
import Derived.Test.YtdoipabfmekdlaaBunC
import Derived.BigQuiet

namespace Go.Proofs.Ytdoipabfmekdlaa
open Go.RowKit
set_option linter.unusedVariables false

section
variable {P : Program} (w : World)

theorem run_appN_nothing (base sz : Nat) (t ty e : TypeId) (i : TypeInfo) (ht : P.underlying t = some (.slice e)) (hi : P.info? e = some i)
    (v : Value) (n : Nat) (xs : List Value) (hown : w.ownsRow base e sz v n xs) (c : Nat) : (Builtin.append_ #[t, t] ty #[v, .slice none 0 c]).run P w = .ok v w := by
  rcases hown.2 with ⟨rfl, rfl⟩ | ⟨g, cap, cur, rfl, _, _, hnc, _⟩
  · simp [Builtin.append_, run_underlying ht, sizeOf, typeInfo, hi, Builtin.lenOf, Builtin.firstCells]
  · simp [Builtin.append_, run_underlying ht, sizeOf, typeInfo, hi, Builtin.lenOf, Builtin.firstCells, hnc, storeCells]

theorem run_appN (base sz : Nat) (t ty e : TypeId) (i : TypeInfo) (z : Value) (bytes : Nat) (ht : P.underlying t = some (.slice e)) (hi : P.info? e = some i) (hz : i.zero = some z)
    (hsize : i.size = sz) (hby : i.bytes = bytes) (hzs : z.cells.size = sz) (hsz : 0 < sz) (v : Value) (n : Nat) (xs : List Value) (hown : w.ownsRow base e sz v n xs)
    (B : Nat) (A : Option Addr) (c m : Nat) (ys : List Value) (hm : ys.length = m * sz) (hr : RdV w B A ys) (h1 : ∀ u ∈ ys, u.oneCell' = true)
    (hmax : n + m ≤ 67108864) (hbyt : bytes ≤ 1024) (hbase : base ≤ w.heap.size) :
    ∃ v' w', (Builtin.append_ #[t, t] ty #[v, .slice A m c]).run P w = .ok v' w' ∧ w'.ownsRow base e sz v' (n + m) (xs ++ ys) ∧ w.grownBy w' v.ownBlock ∧
      (v'.ownBlock = v.ownBlock ∨ v'.ownBlock = some w.heap.size) := by
  rcases A with _ | a
  · have h0 : ys = [] := by
      rcases Nat.eq_zero_or_pos ys.length with h | h
      · exact List.eq_nil_of_length_eq_zero h
      · obtain ⟨b, off, h', _⟩ := hr h; cases h'
    subst h0
    have hm0 : m = 0 := by
      rcases Nat.eq_zero_or_pos m with h | h
      · exact h
      · have := Nat.mul_pos h hsz; simp at hm; omega
    subst hm0
    exact ⟨v, w, run_appN_nothing w base sz t ty e i ht hi v n xs hown c, by simpa using hown, World.grownBy.refl w _, .inl rfl⟩
  · have hcells : ∀ j u, ys[j]? = some u → w.cell? (a.add j) = some u := by
      intro j u hu
      have hp : 0 < ys.length := by
        rcases Nat.eq_zero_or_pos ys.length with h | h
        · rw [List.eq_nil_of_length_eq_zero h] at hu; simp at hu
        · exact h
      obtain ⟨b, off, h', _, hc⟩ := hr hp
      simp only [Option.some.injEq] at h'
      subst h'
      rw [add_mk]; exact hc j u hu
    have hb2 : (n + m) * bytes ≤ 67108864 * 1024 := Nat.mul_le_mul hmax hbyt
    obtain ⟨v', w', hrun, h2, h3, _, h5⟩ := run_append_own_at (P := P) w base t ty e i z sz bytes ht hi hz hsize hby hzs hsz v n xs hown a m c ys hm hcells h1 (by unfold maxLen; omega) (by omega) hbase
    exact ⟨v', w', hrun, h2, h3, h5⟩

/-- THE LAW at the walk's next operation. -/
theorem wpl_appN {ops : Array Oper} {rest : List Oper} {o : Oper} {a : Act} {Q : Exit → Act → World → Prop} (hgd : o.guard = none) (s x : Operand) (t : TypeId)
    (ho : o.op = .call { callee := .builtin .append, args := #[s, x], argTypes := #[t, t] })
    (base sz : Nat) (e : TypeId) (i : TypeInfo) (z : Value) (bytes : Nat) (ht : P.underlying t = some (.slice e)) (hi : P.info? e = some i) (hz : i.zero = some z)
    (hsize : i.size = sz) (hby : i.bytes = bytes) (hzs : z.cells.size = sz) (hsz : 0 < sz) (v : Value) (n : Nat) (xs : List Value) (hs : a.eval s = v) (hown : w.ownsRow base e sz v n xs)
    (B : Nat) (A : Option Addr) (c m : Nat) (ys : List Value) (hx : a.eval x = .slice A m c) (hm : ys.length = m * sz) (hr : RdV w B A ys) (h1 : ∀ u ∈ ys, u.oneCell' = true)
    (hmax : n + m ≤ 67108864) (hbyt : bytes ≤ 1024) (hbase : base ≤ w.heap.size)
    (h : ∀ v' w', w'.ownsRow base e sz v' (n + m) (xs ++ ys) → w.grownBy w' v.ownBlock → (v'.ownBlock = v.ownBlock ∨ v'.ownBlock = some w.heap.size) → wpList P ops Q rest (a.put o.dst v') w') :
    wpList P ops Q (o :: rest) a w := by
  refine wpList_plain hgd fun K hK => ?_
  obtain ⟨v', w', hrun, h2, h3, h4⟩ := run_appN (P := P) w base sz t o.type e i z bytes ht hi hz hsize hby hzs hsz v n xs hown B A c m ys hm hr h1 hmax hbyt hbase
  unfold Oper.wp execOp
  simp only [ho, resolve, invoke, builtin, Sem.run_bind, Sem.run_pure, Result.andThen_ok, List.map_toArray, List.map_cons, List.map_nil, hs, hx, hrun]
  exact hK _ _ (h v' w' h2 h3 h4)
end

/-- .. as one step of a region that draws its order -/
theorem step_appN {P : Program} {ops : Array Oper} {o : Oper} {a : Act} {w : World} {K : Act → World → Prop} {Q : Exit → Act → World → Prop} {E : Prop} (hgd : o.guard = none) (s x : Operand) (t : TypeId)
    (ho : o.op = .call { callee := .builtin .append, args := #[s, x], argTypes := #[t, t] })
    (base sz : Nat) (e : TypeId) (i : TypeInfo) (z : Value) (bytes : Nat) (ht : P.underlying t = some (.slice e)) (hi : P.info? e = some i) (hz : i.zero = some z)
    (hsize : i.size = sz) (hby : i.bytes = bytes) (hzs : z.cells.size = sz) (hsz : 0 < sz) (v : Value) (n : Nat) (xs : List Value) (hs : a.eval s = v) (hown : w.ownsRow base e sz v n xs)
    (B : Nat) (A : Option Addr) (c m : Nat) (ys : List Value) (hx : a.eval x = .slice A m c) (hm : ys.length = m * sz) (hr : RdV w B A ys) (h1 : ∀ u ∈ ys, u.oneCell' = true)
    (hmax : n + m ≤ 67108864) (hbyt : bytes ≤ 1024) (hbase : base ≤ w.heap.size)
    (h : ∀ v' w', w'.ownsRow base e sz v' (n + m) (xs ++ ys) → w.grownBy w' v.ownBlock → (v'.ownBlock = v.ownBlock ∨ v'.ownBlock = some w.heap.size) → K (a.put o.dst v') w') :
    if Region.wanted o (yielded ops a.tmps) = true then Oper.wp P o a w K Q else E := by
  have hw : Region.wanted o (yielded ops a.tmps) = true := by simp [Region.wanted, hgd]
  rw [if_pos hw]
  obtain ⟨v', w', hrun, h2, h3, h4⟩ := run_appN (P := P) w base sz t o.type e i z bytes ht hi hz hsize hby hzs hsz v n xs hown B A c m ys hm hr h1 hmax hbyt hbase
  unfold Oper.wp execOp
  simp only [ho, resolve, invoke, builtin, Sem.run_bind, Sem.run_pure, Result.andThen_ok, List.map_toArray, List.map_cons, List.map_nil, hs, hx, hrun]
  exact h v' w' h2 h3 h4

section
variable {α : Type} {L : Lay α} {n : Nat} {e : TypeId} {w : World} {xs ys : List α} {v : Value} {B : Nat} {A : Option Addr}

/-- the cells behind a slice that reads as xs, one behind the other -/
theorem RdL.flatV (h : RdL L n w B A xs) : ∃ cf : Nat → List Value, (∀ j x, xs[j]? = some x → (cf j).length = n ∧ L.rd w B (cf j) x) ∧ (flat cf xs.length).length = xs.length * n ∧ RdV w B A (flat cf xs.length) := by
  obtain ⟨cf, h1, h2⟩ := h
  have hlen : ∀ j, j < xs.length → (cf j).length = n := fun j hj => (h1 j xs[j] (List.getElem?_eq_getElem hj)).1
  have hl := flat_len (cf := cf) (N := xs.length) hlen
  refine ⟨cf, h1, hl, fun hp => ?_⟩
  have hx : 0 < xs.length := by
    rcases Nat.eq_zero_or_pos xs.length with h | h
    · rw [hl, h] at hp; simp at hp
    · exact h
  have hn : 0 < n := by
    rcases Nat.eq_zero_or_pos n with h | h
    · rw [hl, h] at hp; simp at hp
    · exact h
  obtain ⟨b, off, rfl, hb, hc⟩ := h2 hx
  refine ⟨b, off, rfl, hb, fun q u hu => ?_⟩
  have hq := getElem?_lt hu
  rw [hl] at hq
  have e1 : q = q / n * n + q % n := by rw [Nat.mul_comm]; exact (Nat.div_add_mod q n).symm
  have e2 : q % n < n := Nat.mod_lt _ hn
  have e3 : q / n < xs.length := (Nat.div_lt_iff_lt_mul hn).2 hq
  rw [e1] at hu ⊢
  rw [flat_get hlen e3 e2] at hu
  exact hc _ _ _ e3 hu

theorem flat_app {β : Type} (cf cg : Nat → List β) (M : Nat) : ∀ N : Nat, flat (fun j => if j < M then cf j else cg (j - M)) (M + N) = flat cf M ++ flat cg N
  | 0 => by
    rw [Nat.add_zero, flat_congr (cf := cf) (fun j hj => if_pos hj)]
    simp [flat]
  | N + 1 => by
    rw [← Nat.add_assoc, flat_succ, flat_app cf cg M N, flat_succ, if_neg (by omega), Nat.add_sub_cancel_left, List.append_assoc]

/-- an append of one element of scalars: the row lies where it lay, or in a new block -/
theorem OV.app_n2 {lo m : Nat} {cs : List Value} {x : α} (hz : ∀ w T cs x, L.own w T cs x → T = []) (h : OV (sliceL e n L) w lo m v xs) (hc : cs.length = n) (hx : ∀ w, L.own w [] cs x) (hlm : lo ≤ w.heap.size) :
    ∃ ys, w.ownsRow 0 e n v xs.length ys ∧ ∀ v' w', w'.ownsRow 0 e n v' (xs.length + 1) (ys ++ cs) → w.grownBy w' v.ownBlock → (v'.ownBlock = v.ownBlock ∨ v'.ownBlock = some w.heap.size) →
      Chg lo m w w' ∧ (OV (sliceL e n L) w' lo m v' (xs ++ [x]) ∨ OV (sliceL e n L) w' w.heap.size w'.heap.size v' (xs ++ [x])) := by
  have h' := h
  obtain ⟨zs, _, ho0, hin⟩ := h.row
  have hm : m ≤ w.heap.size := by obtain ⟨_, _, _, _, _, _, hm⟩ := h; exact hm
  obtain ⟨ys, R, -, hb⟩ := OV.app_n hz h' hc hx hlm
  refine ⟨ys, R, fun v' w' hrow hg hat => ?_⟩
  obtain ⟨⟨cs0, S, hv, ⟨u, rfl, cf, sf, ho, hel, rfl⟩, hn, hS, hh⟩, -⟩ := hb v' w' hrow hg hat
  obtain rfl : v' = u := hv
  have hsf : flat sf (xs ++ [x]).length = [] := List.eq_nil_iff_forall_not_mem.2 fun j hj => by
    obtain ⟨i, hi, hm⟩ := mem_flat.1 hj
    have := hz _ _ _ _ (hel i _ (List.getElem?_eq_getElem hi)).2
    rw [this] at hm; cases hm
  have hlt := World.ownsRow.lt hrow
  have hs := hg.size
  refine ⟨Chg.of_grown hg hin, ?_⟩
  rcases hat with ha | ha
  · refine .inl ⟨_, _, rfl, ⟨_, rfl, cf, sf, ho, hel, rfl⟩, hn, fun j hj => ?_, by omega⟩
    rw [hsf, List.append_nil] at hj
    exact hin j (by rw [← ha]; simpa using hj)
  · refine .inr ⟨_, _, rfl, ⟨_, rfl, cf, sf, ho, hel, rfl⟩, hn, fun j hj => ?_, Nat.le_refl _⟩
    rw [hsf, List.append_nil] at hj
    have hj' : v'.ownBlock = some j := by simpa using hj
    have h2 := (hlt j hj').2
    rw [ha] at hj'
    obtain rfl : w.heap.size = j := by simpa using hj'
    exact ⟨Nat.le_refl _, h2⟩

/-- a variable's block, read as the cells of a slice -/
theorem Vr.rdV {b : Nat} {t : TypeId} {us : List Value} (h : Vr w b t us) : RdV w w.heap.size (some ⟨b, 0, none⟩) us := fun _ =>
  ⟨b, 0, rfl, h.lt, fun j u hu => by rw [Nat.zero_add]; exact h.cell hu⟩

/-- an append of a slice of scalars' structs: what is asked of the walk, and what lies behind -/
theorem OV.app_all {lo m : Nat} (hz : ∀ w T cs x, L.own w T cs x → T = []) (hro : ∀ w B cs x, L.rd w B cs x → ∀ w', L.own w' [] cs x) (h : OV (sliceL e n L) w lo m v xs) (hy : RdL L n w B A ys) (hlm : lo ≤ w.heap.size) :
    ∃ zs us, w.ownsRow 0 e n v xs.length zs ∧ us.length = ys.length * n ∧ RdV w B A us ∧ (∀ u ∈ us, ∃ (j : Nat) (x : α) (cs : List Value), ys[j]? = some x ∧ L.rd w B cs x ∧ u ∈ cs) ∧ ∀ v' w', w'.ownsRow 0 e n v' (xs.length + ys.length) (zs ++ us) → w.grownBy w' v.ownBlock → (v'.ownBlock = v.ownBlock ∨ v'.ownBlock = some w.heap.size) →
      OV (sliceL e n L) w' lo w'.heap.size v' (xs ++ ys) ∧ Below lo w w' := by
  obtain ⟨cs0, S, hv, ⟨u0, rfl, hO⟩, hn, hS, hm⟩ := h
  obtain rfl : v = u0 := hv
  obtain ⟨cf, sf, ho, hel, rfl⟩ := hO
  obtain ⟨cg, g1, g2, g3⟩ := hy.flatV
  refine ⟨_, _, ho, g2, g3, fun u hu => ?_, fun v' w' hrow hg hat => ?_⟩
  · obtain ⟨j, hj, hm⟩ := mem_flat.1 hu
    exact ⟨j, ys[j], cg j, List.getElem?_eq_getElem hj, (g1 j ys[j] (List.getElem?_eq_getElem hj)).2, hm⟩
  have hlt := World.ownsRow.lt hrow
  have hvS : ∀ k, v.ownBlock = some k → lo ≤ k ∧ k < m := fun k hk => hS k (List.mem_append.2 (.inl (by simp [hk])))
  have hB : Below lo w w' := ⟨hg.os, hg.tape, hg.output, hg.size, fun k hk => hg.block k (by omega) (fun e => by have := hvS k e.symm; omega)⟩
  refine ⟨⟨[v'], v'.ownBlock.toList, rfl, ⟨v', rfl, fun j => if j < xs.length then cf j else cg (j - xs.length), fun _ => [], ?_, ?_, ?_⟩, by cases v'.ownBlock <;> simp, ?_, Nat.le_refl _⟩, hB⟩
  · rw [List.length_append, flat_app]
    exact hrow
  · intro i y hy
    by_cases e1 : i < xs.length
    · rw [List.getElem?_append_left e1] at hy
      obtain ⟨h1, h2⟩ := hel i y hy
      simp only [if_pos e1]
      have hs := hz _ _ _ _ h2
      rw [hs] at h2
      exact ⟨h1, L.own_keep h2 fun k hk => by cases hk⟩
    · rw [List.getElem?_append_right (by omega)] at hy
      obtain ⟨h1, h2⟩ := g1 _ y hy
      simp only [if_neg e1]
      exact ⟨h1, hro _ _ _ _ h2 _⟩
  · have : flat (fun _ : Nat => ([] : List Nat)) (xs ++ ys).length = [] := List.eq_nil_iff_forall_not_mem.2 fun j hj => by
      obtain ⟨i, _, hm⟩ := mem_flat.1 hj; cases hm
    rw [this, List.append_nil]
  · intro k hk
    have hk' : v'.ownBlock = some k := by simpa using hk
    have h2 := (hlt k hk').2
    rcases hat with h1 | h1
    · rw [h1] at hk'
      exact ⟨(hvS k hk').1, h2⟩
    · rw [h1] at hk'
      obtain rfl : w.heap.size = k := by simpa using hk'
      exact ⟨hlm, h2⟩
end

end Go.Proofs.Ytdoipabfmekdlaa

namespace Go.Proofs.Ytdoipabfmekdlaa
open Go.RowKit
set_option linter.unusedVariables false

theorem msg_own_of_rd (w : World) (B : Nat) (cs : List Value) (x : MMsg) (h : msgL.rd w B cs x) (w' : World) : msgL.own w' [] cs x := by
  obtain rfl := cs_msg h
  exact own_msg w' x
theorem msg_one {w : World} {B : Nat} {ys : List MMsg} {us : List Value} (h : ∀ u ∈ us, ∃ (j : Nat) (x : MMsg) (cs : List Value), ys[j]? = some x ∧ msgL.rd w B cs x ∧ u ∈ cs) : ∀ u ∈ us, u.oneCell' = true := by
  intro u hu
  obtain ⟨j, x, cs, _, hr, hm⟩ := h u hu
  obtain rfl := cs_msg hr
  simp only [List.mem_cons, List.not_mem_nil, or_false] at hm
  rcases hm with rfl | rfl | rfl | rfl <;> rfl
/-- an empty slice of messages that the walk has just laid -/
theorem ov_msgs_lit (w : World) : OV msgSL (w.alloc (.cells #[] 92)) w.heap.size (w.heap.size + 1) (.slice (some ⟨w.heap.size, 0, none⟩) 0 0) [] := by
  have h := World.ownsRow_lit (base := 0) (e := 92) (size := 4) w #[] 0 (Nat.zero_le _) (by unfold maxLen; omega) (by simp)
  refine ⟨[_], [w.heap.size], rfl, ⟨_, rfl, fun _ => [], fun _ => [], by simpa [flat] using h, fun j x hx => by simp at hx, by simp [Value.ownBlock, flat]⟩, by simp, ?_, by simp⟩
  intro j hj
  obtain rfl : j = w.heap.size := by simpa using hj
  omega

end Go.Proofs.Ytdoipabfmekdlaa

namespace Go.Proofs.Ytdoipabfmekdlaa
open Go.RowKit
set_option linter.unusedVariables false

def outAdd (o : MOut) (m : MMsg) : MOut := ⟨o.Next + 1, o.List ++ [m]⟩
def outPutB (o : MOut) (m : MMsg) : Bool := outOkB o && outOkB (outAdd o m)
def outPut (o : MOut) (m : MMsg) : MOut := if outPutB o m = true then outAdd o m else outZ
theorem outPut_len (o : MOut) (m : MMsg) : (outPut o m).List.length ≤ o.List.length + 1 := by
  unfold outPut outAdd outZ
  split <;> simp

theorem ov_out_parts {w : World} {lo hi : Nat} {v : Value} {d : MOut} (h : OV outL w lo hi v d) : ∃ A c, v = .agg #[.int .i64 d.Next, .slice A d.List.length c] ∧ OV msgSL w lo hi (.slice A d.List.length c) d.List := by
  obtain ⟨cs, S, rfl, ho, hn, hS, hh⟩ := h
  obtain ⟨_, _, S1, S2, rfl, rfl, ⟨rfl, rfl⟩, u, rfl, hO⟩ := ho
  obtain ⟨A, c, rfl, -⟩ := hO.form
  exact ⟨A, c, rfl, ⟨[_], S2, rfl, ⟨_, rfl, hO⟩, by simpa using hn, fun j hj => hS j (by simpa using hj), hh⟩⟩

end Go.Proofs.Ytdoipabfmekdlaa

namespace Go.Proofs.Ytdoipabfmekdlaa
open Go.RowKit
set_option linter.unusedVariables false

def outAckB (o : MOut) (q : Int) : Bool := outOkB o && inB q 0 (o.Next - 1)
def outAck (o : MOut) (q : Int) : MOut := if outAckB o q = true then ⟨o.Next, o.List.drop (q + 1 - outFirst o).toNat⟩ else outZ
theorem RdL.drop {α : Type} {L : Lay α} {n : Nat} {w : World} {B b off : Nat} {xs : List α} (h : RdL L n w B (some ⟨b, off, none⟩) xs) (k : Nat) : RdL L n w B (some ⟨b, off + k * n, none⟩) (xs.drop k) := by
  obtain ⟨cf, h1, h2⟩ := h
  refine ⟨fun j => cf (k + j), fun j x hx => h1 (k + j) x (by rw [List.getElem?_drop] at hx; exact hx), fun hp => ?_⟩
  rw [List.length_drop] at hp
  obtain ⟨b', off', e, hb, hc⟩ := h2 (by omega)
  simp only [Option.some.injEq, Addr.mk.injEq, and_true] at e
  obtain ⟨rfl, rfl⟩ := e
  refine ⟨b, off + k * n, rfl, hb, fun j i v hj hv => ?_⟩
  rw [List.length_drop] at hj
  have := hc (k + j) i v (by omega) hv
  rw [show off + k * n + (j * n + i) = off + ((k + j) * n + i) by rw [Nat.add_mul]; omega]
  exact this
theorem outAck_len (o : MOut) (q : Int) : (outAck o q).List.length ≤ o.List.length := by
  unfold outAck outZ
  split <;> simp

end Go.Proofs.Ytdoipabfmekdlaa

namespace Go.Proofs.Ytdoipabfmekdlaa
open Go.RowKit
set_option linter.unusedVariables false

theorem iAcct_any (n : Int) (w : World) : Calls Try.prog 126 #[.int .i64 n] w fun e w' => e = .returned (.bool (inB n 0 2)) ∧ w = w' := by
  by_cases h0 : 0 ≤ n
  · by_cases h1 : n ≤ 2
    · rw [inB_true.2 ⟨h0, h1⟩]
      have i1 : decide (n < 3) = true := decide_eq_true (by omega)
      go_enter Try.func126, Try.ntmps126
      go_wp2
      go_ret
      exact ⟨rfl, rfl⟩
    · rw [inB_false.2 (by omega)]
      have i1 : decide (n < 3) = false := decide_eq_false (by omega)
      go_enter Try.func126, Try.ntmps126
      go_wp2
      go_ret
      exact ⟨rfl, rfl⟩
  · rw [inB_false.2 (by omega)]
    have i1 : decide (0 ≤ n) = false := decide_eq_false h0
    go_enter Try.func126, Try.ntmps126
    go_wp2
    go_ret
    exact ⟨rfl, rfl⟩

set_option maxHeartbeats 1000000 in
theorem fits1_c (k a b s : Int) (w : World) : Calls Try.prog 142 #[.agg #[.int .i64 k, .int .i64 a, .int .i64 b, .int .i64 s]] w fun e w' => e = .returned (.bool (amtB b && (s == 0))) ∧ Below w.heap.size w w' := by
  obtain ⟨wa, hwa, B0, sa, x_a⟩ := frame1 w 136 [.int .i64 k, .int .i64 a, .int .i64 b, .int .i64 s]
  have c2 := x_a.cell (i := 2) rfl
  have c3 := x_a.cell (i := 3) rfl
  clear sa
  by_cases h : amtB b = true
  case neg =>
    have h' : amtB b = false := by simpa using h
    have H := Lib.hid h'
    rw [h', Bool.false_and]
    clear h h'
    go_enter Try.func142, Try.ntmps142
    go_wp2_with fail
    refine (iAmt_any _ _).mono ?_
    rintro e w' ⟨rfl, rfl⟩
    rw [H.out]
    go_wp2
    go_ret
    exact ⟨rfl, B0⟩
  have H := Lib.hid h
  rw [h, Bool.true_and]
  clear h
  obtain ⟨q, hq⟩ : ∃ q, (s == 0) = q := ⟨_, rfl⟩
  rw [hq]
  go_enter Try.func142, Try.ntmps142
  go_wp2_with fail
  refine (iAmt_any _ _).mono ?_
  rintro e w' ⟨rfl, rfl⟩
  rw [H.out]
  go_wp2
  go_ret
  exact ⟨rfl, B0⟩

set_option maxHeartbeats 1000000 in
theorem letterOf1_c (a b s : Int) (w : World) : Calls Try.prog 125 #[.agg #[.int .i64 1, .int .i64 a, .int .i64 b, .int .i64 s]] w fun e w' => e = .returned (.tuple #[.iface 136 (.agg #[.int .i64 1, .int .i64 a, .int .i64 b, .int .i64 s]), .bool true]) ∧ Below w.heap.size w w' := by
  obtain ⟨wa, hwa, B0, sa, x_a⟩ := frame1 w 92 [.int .i64 1, .int .i64 a, .int .i64 b, .int .i64 s]
  have c0 := x_a.cell (i := 0) rfl
  have c1 := x_a.cell (i := 1) rfl
  have c2 := x_a.cell (i := 2) rfl
  have c3 := x_a.cell (i := 3) rfl
  clear sa
  go_enter Try.func125, Try.ntmps125
  go_wp2
  go_ret2
  exact ⟨rfl, B0⟩

set_option maxHeartbeats 1000000 in
theorem fits2_c (k a b s : Int) (w : World) : Calls Try.prog 145 #[.agg #[.int .i64 k, .int .i64 a, .int .i64 b, .int .i64 s]] w fun e w' => e = .returned (.bool (amtB b && inB s 0 2)) ∧ Below w.heap.size w w' := by
  obtain ⟨wa, hwa, B0, sa, x_a⟩ := frame1 w 137 [.int .i64 k, .int .i64 a, .int .i64 b, .int .i64 s]
  have c2 := x_a.cell (i := 2) rfl
  have c3 := x_a.cell (i := 3) rfl
  clear sa
  by_cases h : amtB b = true
  case neg =>
    have h' : amtB b = false := by simpa using h
    have H := Lib.hid h'
    rw [h', Bool.false_and]
    clear h h'
    go_enter Try.func145, Try.ntmps145
    go_wp2_with fail
    refine (iAmt_any _ _).mono ?_
    rintro e w' ⟨rfl, rfl⟩
    rw [H.out]
    go_wp2
    go_ret
    exact ⟨rfl, B0⟩
  have H := Lib.hid h
  rw [h, Bool.true_and]
  clear h
  go_enter Try.func145, Try.ntmps145
  go_wp2_with fail
  refine (iAmt_any _ _).mono ?_
  rintro e w' ⟨rfl, rfl⟩
  rw [H.out]
  go_wp2_with fail
  refine (iAcct_any _ _).mono ?_
  rintro e w' ⟨rfl, rfl⟩
  go_wp2
  go_ret
  exact ⟨rfl, B0⟩

set_option maxHeartbeats 1000000 in
theorem letterOf2_c (a b s : Int) (w : World) : Calls Try.prog 125 #[.agg #[.int .i64 2, .int .i64 a, .int .i64 b, .int .i64 s]] w fun e w' => e = .returned (.tuple #[.iface 137 (.agg #[.int .i64 2, .int .i64 a, .int .i64 b, .int .i64 s]), .bool true]) ∧ Below w.heap.size w w' := by
  obtain ⟨wa, hwa, B0, sa, x_a⟩ := frame1 w 92 [.int .i64 2, .int .i64 a, .int .i64 b, .int .i64 s]
  have c0 := x_a.cell (i := 0) rfl
  have c1 := x_a.cell (i := 1) rfl
  have c2 := x_a.cell (i := 2) rfl
  have c3 := x_a.cell (i := 3) rfl
  clear sa
  go_enter Try.func125, Try.ntmps125
  go_wp2
  go_ret2
  exact ⟨rfl, B0⟩

set_option maxHeartbeats 1000000 in
theorem fits3_c (k a b s : Int) (w : World) : Calls Try.prog 147 #[.agg #[.int .i64 k, .int .i64 a, .int .i64 b, .int .i64 s]] w fun e w' => e = .returned (.bool (amtB b && (s == 0))) ∧ Below w.heap.size w w' := by
  obtain ⟨wa, hwa, B0, sa, x_a⟩ := frame1 w 138 [.int .i64 k, .int .i64 a, .int .i64 b, .int .i64 s]
  have c2 := x_a.cell (i := 2) rfl
  have c3 := x_a.cell (i := 3) rfl
  clear sa
  by_cases h : amtB b = true
  case neg =>
    have h' : amtB b = false := by simpa using h
    have H := Lib.hid h'
    rw [h', Bool.false_and]
    clear h h'
    go_enter Try.func147, Try.ntmps147
    go_wp2_with fail
    refine (iAmt_any _ _).mono ?_
    rintro e w' ⟨rfl, rfl⟩
    rw [H.out]
    go_wp2
    go_ret
    exact ⟨rfl, B0⟩
  have H := Lib.hid h
  rw [h, Bool.true_and]
  clear h
  obtain ⟨q, hq⟩ : ∃ q, (s == 0) = q := ⟨_, rfl⟩
  rw [hq]
  go_enter Try.func147, Try.ntmps147
  go_wp2_with fail
  refine (iAmt_any _ _).mono ?_
  rintro e w' ⟨rfl, rfl⟩
  rw [H.out]
  go_wp2
  go_ret
  exact ⟨rfl, B0⟩

set_option maxHeartbeats 1000000 in
theorem letterOf3_c (a b s : Int) (w : World) : Calls Try.prog 125 #[.agg #[.int .i64 3, .int .i64 a, .int .i64 b, .int .i64 s]] w fun e w' => e = .returned (.tuple #[.iface 138 (.agg #[.int .i64 3, .int .i64 a, .int .i64 b, .int .i64 s]), .bool true]) ∧ Below w.heap.size w w' := by
  obtain ⟨wa, hwa, B0, sa, x_a⟩ := frame1 w 92 [.int .i64 3, .int .i64 a, .int .i64 b, .int .i64 s]
  have c0 := x_a.cell (i := 0) rfl
  have c1 := x_a.cell (i := 1) rfl
  have c2 := x_a.cell (i := 2) rfl
  have c3 := x_a.cell (i := 3) rfl
  clear sa
  go_enter Try.func125, Try.ntmps125
  go_wp2
  go_ret2
  exact ⟨rfl, B0⟩

set_option maxHeartbeats 1000000 in
theorem fits4_c (k a b s : Int) (w : World) : Calls Try.prog 149 #[.agg #[.int .i64 k, .int .i64 a, .int .i64 b, .int .i64 s]] w fun e w' => e = .returned (.bool (inB b 0 3 && (s == 0))) ∧ Below w.heap.size w w' := by
  obtain ⟨wa, hwa, B0, sa, x_a⟩ := frame1 w 139 [.int .i64 k, .int .i64 a, .int .i64 b, .int .i64 s]
  have c2 := x_a.cell (i := 2) rfl
  have c3 := x_a.cell (i := 3) rfl
  clear sa
  by_cases h : inB b 0 3 = true
  case neg =>
    have h' : inB b 0 3 = false := by simpa using h
    have H := Lib.hid h'
    rw [h', Bool.false_and]
    clear h h'
    go_enter Try.func149, Try.ntmps149
    go_wp2_with fail
    refine (iNode_any _ _).mono ?_
    rintro e w' ⟨rfl, rfl⟩
    rw [H.out]
    go_wp2
    go_ret
    exact ⟨rfl, B0⟩
  have H := Lib.hid h
  rw [h, Bool.true_and]
  clear h
  obtain ⟨q, hq⟩ : ∃ q, (s == 0) = q := ⟨_, rfl⟩
  rw [hq]
  go_enter Try.func149, Try.ntmps149
  go_wp2_with fail
  refine (iNode_any _ _).mono ?_
  rintro e w' ⟨rfl, rfl⟩
  rw [H.out]
  go_wp2
  go_ret
  exact ⟨rfl, B0⟩

set_option maxHeartbeats 1000000 in
theorem letterOf4_c (a b s : Int) (w : World) : Calls Try.prog 125 #[.agg #[.int .i64 4, .int .i64 a, .int .i64 b, .int .i64 s]] w fun e w' => e = .returned (.tuple #[.iface 139 (.agg #[.int .i64 4, .int .i64 a, .int .i64 b, .int .i64 s]), .bool true]) ∧ Below w.heap.size w w' := by
  obtain ⟨wa, hwa, B0, sa, x_a⟩ := frame1 w 92 [.int .i64 4, .int .i64 a, .int .i64 b, .int .i64 s]
  have c0 := x_a.cell (i := 0) rfl
  have c1 := x_a.cell (i := 1) rfl
  have c2 := x_a.cell (i := 2) rfl
  have c3 := x_a.cell (i := 3) rfl
  clear sa
  go_enter Try.func125, Try.ntmps125
  go_wp2
  go_ret2
  exact ⟨rfl, B0⟩

set_option maxHeartbeats 1000000 in
theorem fits5_c (k a b s : Int) (w : World) : Calls Try.prog 152 #[.agg #[.int .i64 k, .int .i64 a, .int .i64 b, .int .i64 s]] w fun e w' => e = .returned (.bool (numB b && (s == 0))) ∧ Below w.heap.size w w' := by
  obtain ⟨wa, hwa, B0, sa, x_a⟩ := frame1 w 140 [.int .i64 k, .int .i64 a, .int .i64 b, .int .i64 s]
  have c2 := x_a.cell (i := 2) rfl
  have c3 := x_a.cell (i := 3) rfl
  clear sa
  by_cases h : numB b = true
  case neg =>
    have h' : numB b = false := by simpa using h
    have H := Lib.hid h'
    rw [h', Bool.false_and]
    clear h h'
    go_enter Try.func152, Try.ntmps152
    go_wp2_with fail
    refine (iNum_any _ _).mono ?_
    rintro e w' ⟨rfl, rfl⟩
    rw [H.out]
    go_wp2
    go_ret
    exact ⟨rfl, B0⟩
  have H := Lib.hid h
  rw [h, Bool.true_and]
  clear h
  obtain ⟨q, hq⟩ : ∃ q, (s == 0) = q := ⟨_, rfl⟩
  rw [hq]
  go_enter Try.func152, Try.ntmps152
  go_wp2_with fail
  refine (iNum_any _ _).mono ?_
  rintro e w' ⟨rfl, rfl⟩
  rw [H.out]
  go_wp2
  go_ret
  exact ⟨rfl, B0⟩

set_option maxHeartbeats 1000000 in
theorem letterOf5_c (a b s : Int) (w : World) : Calls Try.prog 125 #[.agg #[.int .i64 5, .int .i64 a, .int .i64 b, .int .i64 s]] w fun e w' => e = .returned (.tuple #[.iface 140 (.agg #[.int .i64 5, .int .i64 a, .int .i64 b, .int .i64 s]), .bool true]) ∧ Below w.heap.size w w' := by
  obtain ⟨wa, hwa, B0, sa, x_a⟩ := frame1 w 92 [.int .i64 5, .int .i64 a, .int .i64 b, .int .i64 s]
  have c0 := x_a.cell (i := 0) rfl
  have c1 := x_a.cell (i := 1) rfl
  have c2 := x_a.cell (i := 2) rfl
  have c3 := x_a.cell (i := 3) rfl
  clear sa
  go_enter Try.func125, Try.ntmps125
  go_wp2
  go_ret2
  exact ⟨rfl, B0⟩

set_option maxHeartbeats 1000000 in
theorem letterOf0_c (k a b s : Int) (w : World) (hk : ¬ (1 ≤ k ∧ k ≤ 5)) : Calls Try.prog 125 #[.agg #[.int .i64 k, .int .i64 a, .int .i64 b, .int .i64 s]] w fun e w' => e = .returned (.tuple #[.nilIface, .bool false]) ∧ Below w.heap.size w w' := by
  obtain ⟨wa, hwa, B0, sa, x_a⟩ := frame1 w 92 [.int .i64 k, .int .i64 a, .int .i64 b, .int .i64 s]
  have c0 := x_a.cell (i := 0) rfl
  clear sa
  have k1 : (k == 1) = false := by simp; omega
  have k2 : (k == 2) = false := by simp; omega
  have k3 : (k == 3) = false := by simp; omega
  have k4 : (k == 4) = false := by simp; omega
  have k5 : (k == 5) = false := by simp; omega
  clear hk
  go_enter Try.func125, Try.ntmps125
  go_wp2
  go_ret2
  exact ⟨rfl, B0⟩

theorem ok1 (a b s : Int) : msgOkB ⟨1, a, b, s⟩ = (inB a 0 2 && (amtB b && (s == 0))) := by
  simp only [msgOkB, amtOkB]
  generalize inB a 0 2 = p
  by_cases hs : s = 0
  · subst hs
    have h0 : inB 0 0 2 = true := by decide
    rw [h0]
    simp
  · have h1 : (s == 0) = false := by simpa using hs
    rw [h1]
    cases inB s 0 2 <;> cases p <;> simp

set_option maxHeartbeats 2000000 in
theorem valid1_c (a b s : Int) (w : World) : Calls Try.prog 124 #[.agg #[.int .i64 1, .int .i64 a, .int .i64 b, .int .i64 s]] w fun e w' => e = .returned (if msgOkB ⟨1, a, b, s⟩ then .tuple #[.iface 136 (.agg #[.int .i64 1, .int .i64 a, .int .i64 b, .int .i64 s]), .bool true] else .tuple #[.nilIface, .bool false]) ∧ Below w.heap.size w w' := by
  rw [ok1]
  obtain ⟨wa, hwa, B0, sa, x_a⟩ := frame1 w 92 [.int .i64 1, .int .i64 a, .int .i64 b, .int .i64 s]
  have c0 := x_a.cell (i := 0) rfl
  have c1 := x_a.cell (i := 1) rfl
  have c2 := x_a.cell (i := 2) rfl
  have c3 := x_a.cell (i := 3) rfl
  clear sa
  by_cases h : inB a 0 2 = true
  case neg =>
    have h' : inB a 0 2 = false := by simpa using h
    have H := Lib.hid h'
    rw [h', Bool.false_and]
    clear h h'
    go_enter Try.func124, Try.ntmps124
    go_wp2_with fail
    refine (letterOf1_c _ _ _ _).mono ?_
    rintro e w1 ⟨rfl, h1⟩
    replace x_a := x_a.from_ h1
    have d1 := x_a.cell (i := 1) rfl
    go_wp2_with fail
    refine (iAcct_any _ _).mono ?_
    rintro e w' ⟨rfl, rfl⟩
    rw [H.out]
    go_wp2
    go_ret2
    exact ⟨rfl, B0.trans (h1.mono B0.size)⟩
  have H := Lib.hid h
  rw [h, Bool.true_and]
  clear h
  by_cases hf : (amtB b && (s == 0)) = true
  · have HF := Lib.hid hf
    rw [if_pos hf]
    clear hf
    go_enter Try.func124, Try.ntmps124
    go_wp2_with fail
    refine (letterOf1_c _ _ _ _).mono ?_
    rintro e w1 ⟨rfl, h1⟩
    replace x_a := x_a.from_ h1
    have d1 := x_a.cell (i := 1) rfl
    go_wp2_with fail
    refine (iAcct_any _ _).mono ?_
    rintro e w' ⟨rfl, rfl⟩
    rw [H.out]
    go_wp2_with fail
    refine (fits1_c _ _ _ _ _).mono ?_
    rintro e w2 ⟨rfl, h2⟩
    rw [HF.out]
    have B1 := B0.trans (h1.mono B0.size)
    go_wp2
    go_ret2
    exact ⟨rfl, B1.trans (h2.mono B1.size)⟩
  · have hf' : (amtB b && (s == 0)) = false := by simpa only [Bool.not_eq_true] using hf
    have HF := Lib.hid hf'
    rw [if_neg hf]
    clear hf hf'
    go_enter Try.func124, Try.ntmps124
    go_wp2_with fail
    refine (letterOf1_c _ _ _ _).mono ?_
    rintro e w1 ⟨rfl, h1⟩
    replace x_a := x_a.from_ h1
    have d1 := x_a.cell (i := 1) rfl
    go_wp2_with fail
    refine (iAcct_any _ _).mono ?_
    rintro e w' ⟨rfl, rfl⟩
    rw [H.out]
    go_wp2_with fail
    refine (fits1_c _ _ _ _ _).mono ?_
    rintro e w2 ⟨rfl, h2⟩
    rw [HF.out]
    have B1 := B0.trans (h1.mono B0.size)
    go_wp2
    go_ret2
    exact ⟨rfl, B1.trans (h2.mono B1.size)⟩

theorem ok2 (a b s : Int) : msgOkB ⟨2, a, b, s⟩ = (inB a 0 2 && (amtB b && inB s 0 2)) := by
  simp only [msgOkB, amtOkB]
  generalize inB a 0 2 = p
  by_cases hs : s = 0
  · subst hs
    have h0 : inB 0 0 2 = true := by decide
    rw [h0]
    simp
  · have h1 : (s == 0) = false := by simpa using hs
    rw [h1]
    cases inB s 0 2 <;> cases p <;> simp

set_option maxHeartbeats 2000000 in
theorem valid2_c (a b s : Int) (w : World) : Calls Try.prog 124 #[.agg #[.int .i64 2, .int .i64 a, .int .i64 b, .int .i64 s]] w fun e w' => e = .returned (if msgOkB ⟨2, a, b, s⟩ then .tuple #[.iface 137 (.agg #[.int .i64 2, .int .i64 a, .int .i64 b, .int .i64 s]), .bool true] else .tuple #[.nilIface, .bool false]) ∧ Below w.heap.size w w' := by
  rw [ok2]
  obtain ⟨wa, hwa, B0, sa, x_a⟩ := frame1 w 92 [.int .i64 2, .int .i64 a, .int .i64 b, .int .i64 s]
  have c0 := x_a.cell (i := 0) rfl
  have c1 := x_a.cell (i := 1) rfl
  have c2 := x_a.cell (i := 2) rfl
  have c3 := x_a.cell (i := 3) rfl
  clear sa
  by_cases h : inB a 0 2 = true
  case neg =>
    have h' : inB a 0 2 = false := by simpa using h
    have H := Lib.hid h'
    rw [h', Bool.false_and]
    clear h h'
    go_enter Try.func124, Try.ntmps124
    go_wp2_with fail
    refine (letterOf2_c _ _ _ _).mono ?_
    rintro e w1 ⟨rfl, h1⟩
    replace x_a := x_a.from_ h1
    have d1 := x_a.cell (i := 1) rfl
    go_wp2_with fail
    refine (iAcct_any _ _).mono ?_
    rintro e w' ⟨rfl, rfl⟩
    rw [H.out]
    go_wp2
    go_ret2
    exact ⟨rfl, B0.trans (h1.mono B0.size)⟩
  have H := Lib.hid h
  rw [h, Bool.true_and]
  clear h
  by_cases hf : (amtB b && inB s 0 2) = true
  · have HF := Lib.hid hf
    rw [if_pos hf]
    clear hf
    go_enter Try.func124, Try.ntmps124
    go_wp2_with fail
    refine (letterOf2_c _ _ _ _).mono ?_
    rintro e w1 ⟨rfl, h1⟩
    replace x_a := x_a.from_ h1
    have d1 := x_a.cell (i := 1) rfl
    go_wp2_with fail
    refine (iAcct_any _ _).mono ?_
    rintro e w' ⟨rfl, rfl⟩
    rw [H.out]
    go_wp2_with fail
    refine (fits2_c _ _ _ _ _).mono ?_
    rintro e w2 ⟨rfl, h2⟩
    rw [HF.out]
    have B1 := B0.trans (h1.mono B0.size)
    go_wp2
    go_ret2
    exact ⟨rfl, B1.trans (h2.mono B1.size)⟩
  · have hf' : (amtB b && inB s 0 2) = false := by simpa only [Bool.not_eq_true] using hf
    have HF := Lib.hid hf'
    rw [if_neg hf]
    clear hf hf'
    go_enter Try.func124, Try.ntmps124
    go_wp2_with fail
    refine (letterOf2_c _ _ _ _).mono ?_
    rintro e w1 ⟨rfl, h1⟩
    replace x_a := x_a.from_ h1
    have d1 := x_a.cell (i := 1) rfl
    go_wp2_with fail
    refine (iAcct_any _ _).mono ?_
    rintro e w' ⟨rfl, rfl⟩
    rw [H.out]
    go_wp2_with fail
    refine (fits2_c _ _ _ _ _).mono ?_
    rintro e w2 ⟨rfl, h2⟩
    rw [HF.out]
    have B1 := B0.trans (h1.mono B0.size)
    go_wp2
    go_ret2
    exact ⟨rfl, B1.trans (h2.mono B1.size)⟩

theorem ok3 (a b s : Int) : msgOkB ⟨3, a, b, s⟩ = (inB a 0 2 && (amtB b && (s == 0))) := by
  simp only [msgOkB, amtOkB]
  generalize inB a 0 2 = p
  by_cases hs : s = 0
  · subst hs
    have h0 : inB 0 0 2 = true := by decide
    rw [h0]
    simp
  · have h1 : (s == 0) = false := by simpa using hs
    rw [h1]
    cases inB s 0 2 <;> cases p <;> simp

set_option maxHeartbeats 2000000 in
theorem valid3_c (a b s : Int) (w : World) : Calls Try.prog 124 #[.agg #[.int .i64 3, .int .i64 a, .int .i64 b, .int .i64 s]] w fun e w' => e = .returned (if msgOkB ⟨3, a, b, s⟩ then .tuple #[.iface 138 (.agg #[.int .i64 3, .int .i64 a, .int .i64 b, .int .i64 s]), .bool true] else .tuple #[.nilIface, .bool false]) ∧ Below w.heap.size w w' := by
  rw [ok3]
  obtain ⟨wa, hwa, B0, sa, x_a⟩ := frame1 w 92 [.int .i64 3, .int .i64 a, .int .i64 b, .int .i64 s]
  have c0 := x_a.cell (i := 0) rfl
  have c1 := x_a.cell (i := 1) rfl
  have c2 := x_a.cell (i := 2) rfl
  have c3 := x_a.cell (i := 3) rfl
  clear sa
  by_cases h : inB a 0 2 = true
  case neg =>
    have h' : inB a 0 2 = false := by simpa using h
    have H := Lib.hid h'
    rw [h', Bool.false_and]
    clear h h'
    go_enter Try.func124, Try.ntmps124
    go_wp2_with fail
    refine (letterOf3_c _ _ _ _).mono ?_
    rintro e w1 ⟨rfl, h1⟩
    replace x_a := x_a.from_ h1
    have d1 := x_a.cell (i := 1) rfl
    go_wp2_with fail
    refine (iAcct_any _ _).mono ?_
    rintro e w' ⟨rfl, rfl⟩
    rw [H.out]
    go_wp2
    go_ret2
    exact ⟨rfl, B0.trans (h1.mono B0.size)⟩
  have H := Lib.hid h
  rw [h, Bool.true_and]
  clear h
  by_cases hf : (amtB b && (s == 0)) = true
  · have HF := Lib.hid hf
    rw [if_pos hf]
    clear hf
    go_enter Try.func124, Try.ntmps124
    go_wp2_with fail
    refine (letterOf3_c _ _ _ _).mono ?_
    rintro e w1 ⟨rfl, h1⟩
    replace x_a := x_a.from_ h1
    have d1 := x_a.cell (i := 1) rfl
    go_wp2_with fail
    refine (iAcct_any _ _).mono ?_
    rintro e w' ⟨rfl, rfl⟩
    rw [H.out]
    go_wp2_with fail
    refine (fits3_c _ _ _ _ _).mono ?_
    rintro e w2 ⟨rfl, h2⟩
    rw [HF.out]
    have B1 := B0.trans (h1.mono B0.size)
    go_wp2
    go_ret2
    exact ⟨rfl, B1.trans (h2.mono B1.size)⟩
  · have hf' : (amtB b && (s == 0)) = false := by simpa only [Bool.not_eq_true] using hf
    have HF := Lib.hid hf'
    rw [if_neg hf]
    clear hf hf'
    go_enter Try.func124, Try.ntmps124
    go_wp2_with fail
    refine (letterOf3_c _ _ _ _).mono ?_
    rintro e w1 ⟨rfl, h1⟩
    replace x_a := x_a.from_ h1
    have d1 := x_a.cell (i := 1) rfl
    go_wp2_with fail
    refine (iAcct_any _ _).mono ?_
    rintro e w' ⟨rfl, rfl⟩
    rw [H.out]
    go_wp2_with fail
    refine (fits3_c _ _ _ _ _).mono ?_
    rintro e w2 ⟨rfl, h2⟩
    rw [HF.out]
    have B1 := B0.trans (h1.mono B0.size)
    go_wp2
    go_ret2
    exact ⟨rfl, B1.trans (h2.mono B1.size)⟩

theorem ok4 (a b s : Int) : msgOkB ⟨4, a, b, s⟩ = (inB a 0 2 && (inB b 0 3 && (s == 0))) := by
  simp only [msgOkB, amtOkB]
  generalize inB a 0 2 = p
  by_cases hs : s = 0
  · subst hs
    have h0 : inB 0 0 2 = true := by decide
    rw [h0]
    simp
  · have h1 : (s == 0) = false := by simpa using hs
    rw [h1]
    cases inB s 0 2 <;> cases p <;> simp

set_option maxHeartbeats 2000000 in
theorem valid4_c (a b s : Int) (w : World) : Calls Try.prog 124 #[.agg #[.int .i64 4, .int .i64 a, .int .i64 b, .int .i64 s]] w fun e w' => e = .returned (if msgOkB ⟨4, a, b, s⟩ then .tuple #[.iface 139 (.agg #[.int .i64 4, .int .i64 a, .int .i64 b, .int .i64 s]), .bool true] else .tuple #[.nilIface, .bool false]) ∧ Below w.heap.size w w' := by
  rw [ok4]
  obtain ⟨wa, hwa, B0, sa, x_a⟩ := frame1 w 92 [.int .i64 4, .int .i64 a, .int .i64 b, .int .i64 s]
  have c0 := x_a.cell (i := 0) rfl
  have c1 := x_a.cell (i := 1) rfl
  have c2 := x_a.cell (i := 2) rfl
  have c3 := x_a.cell (i := 3) rfl
  clear sa
  by_cases h : inB a 0 2 = true
  case neg =>
    have h' : inB a 0 2 = false := by simpa using h
    have H := Lib.hid h'
    rw [h', Bool.false_and]
    clear h h'
    go_enter Try.func124, Try.ntmps124
    go_wp2_with fail
    refine (letterOf4_c _ _ _ _).mono ?_
    rintro e w1 ⟨rfl, h1⟩
    replace x_a := x_a.from_ h1
    have d1 := x_a.cell (i := 1) rfl
    go_wp2_with fail
    refine (iAcct_any _ _).mono ?_
    rintro e w' ⟨rfl, rfl⟩
    rw [H.out]
    go_wp2
    go_ret2
    exact ⟨rfl, B0.trans (h1.mono B0.size)⟩
  have H := Lib.hid h
  rw [h, Bool.true_and]
  clear h
  by_cases hf : (inB b 0 3 && (s == 0)) = true
  · have HF := Lib.hid hf
    rw [if_pos hf]
    clear hf
    go_enter Try.func124, Try.ntmps124
    go_wp2_with fail
    refine (letterOf4_c _ _ _ _).mono ?_
    rintro e w1 ⟨rfl, h1⟩
    replace x_a := x_a.from_ h1
    have d1 := x_a.cell (i := 1) rfl
    go_wp2_with fail
    refine (iAcct_any _ _).mono ?_
    rintro e w' ⟨rfl, rfl⟩
    rw [H.out]
    go_wp2_with fail
    refine (fits4_c _ _ _ _ _).mono ?_
    rintro e w2 ⟨rfl, h2⟩
    rw [HF.out]
    have B1 := B0.trans (h1.mono B0.size)
    go_wp2
    go_ret2
    exact ⟨rfl, B1.trans (h2.mono B1.size)⟩
  · have hf' : (inB b 0 3 && (s == 0)) = false := by simpa only [Bool.not_eq_true] using hf
    have HF := Lib.hid hf'
    rw [if_neg hf]
    clear hf hf'
    go_enter Try.func124, Try.ntmps124
    go_wp2_with fail
    refine (letterOf4_c _ _ _ _).mono ?_
    rintro e w1 ⟨rfl, h1⟩
    replace x_a := x_a.from_ h1
    have d1 := x_a.cell (i := 1) rfl
    go_wp2_with fail
    refine (iAcct_any _ _).mono ?_
    rintro e w' ⟨rfl, rfl⟩
    rw [H.out]
    go_wp2_with fail
    refine (fits4_c _ _ _ _ _).mono ?_
    rintro e w2 ⟨rfl, h2⟩
    rw [HF.out]
    have B1 := B0.trans (h1.mono B0.size)
    go_wp2
    go_ret2
    exact ⟨rfl, B1.trans (h2.mono B1.size)⟩

theorem ok5 (a b s : Int) : msgOkB ⟨5, a, b, s⟩ = (inB a 0 2 && (numB b && (s == 0))) := by
  simp only [msgOkB, amtOkB]
  generalize inB a 0 2 = p
  by_cases hs : s = 0
  · subst hs
    have h0 : inB 0 0 2 = true := by decide
    rw [h0]
    simp
  · have h1 : (s == 0) = false := by simpa using hs
    rw [h1]
    cases inB s 0 2 <;> cases p <;> simp

set_option maxHeartbeats 2000000 in
theorem valid5_c (a b s : Int) (w : World) : Calls Try.prog 124 #[.agg #[.int .i64 5, .int .i64 a, .int .i64 b, .int .i64 s]] w fun e w' => e = .returned (if msgOkB ⟨5, a, b, s⟩ then .tuple #[.iface 140 (.agg #[.int .i64 5, .int .i64 a, .int .i64 b, .int .i64 s]), .bool true] else .tuple #[.nilIface, .bool false]) ∧ Below w.heap.size w w' := by
  rw [ok5]
  obtain ⟨wa, hwa, B0, sa, x_a⟩ := frame1 w 92 [.int .i64 5, .int .i64 a, .int .i64 b, .int .i64 s]
  have c0 := x_a.cell (i := 0) rfl
  have c1 := x_a.cell (i := 1) rfl
  have c2 := x_a.cell (i := 2) rfl
  have c3 := x_a.cell (i := 3) rfl
  clear sa
  by_cases h : inB a 0 2 = true
  case neg =>
    have h' : inB a 0 2 = false := by simpa using h
    have H := Lib.hid h'
    rw [h', Bool.false_and]
    clear h h'
    go_enter Try.func124, Try.ntmps124
    go_wp2_with fail
    refine (letterOf5_c _ _ _ _).mono ?_
    rintro e w1 ⟨rfl, h1⟩
    replace x_a := x_a.from_ h1
    have d1 := x_a.cell (i := 1) rfl
    go_wp2_with fail
    refine (iAcct_any _ _).mono ?_
    rintro e w' ⟨rfl, rfl⟩
    rw [H.out]
    go_wp2
    go_ret2
    exact ⟨rfl, B0.trans (h1.mono B0.size)⟩
  have H := Lib.hid h
  rw [h, Bool.true_and]
  clear h
  by_cases hf : (numB b && (s == 0)) = true
  · have HF := Lib.hid hf
    rw [if_pos hf]
    clear hf
    go_enter Try.func124, Try.ntmps124
    go_wp2_with fail
    refine (letterOf5_c _ _ _ _).mono ?_
    rintro e w1 ⟨rfl, h1⟩
    replace x_a := x_a.from_ h1
    have d1 := x_a.cell (i := 1) rfl
    go_wp2_with fail
    refine (iAcct_any _ _).mono ?_
    rintro e w' ⟨rfl, rfl⟩
    rw [H.out]
    go_wp2_with fail
    refine (fits5_c _ _ _ _ _).mono ?_
    rintro e w2 ⟨rfl, h2⟩
    rw [HF.out]
    have B1 := B0.trans (h1.mono B0.size)
    go_wp2
    go_ret2
    exact ⟨rfl, B1.trans (h2.mono B1.size)⟩
  · have hf' : (numB b && (s == 0)) = false := by simpa only [Bool.not_eq_true] using hf
    have HF := Lib.hid hf'
    rw [if_neg hf]
    clear hf hf'
    go_enter Try.func124, Try.ntmps124
    go_wp2_with fail
    refine (letterOf5_c _ _ _ _).mono ?_
    rintro e w1 ⟨rfl, h1⟩
    replace x_a := x_a.from_ h1
    have d1 := x_a.cell (i := 1) rfl
    go_wp2_with fail
    refine (iAcct_any _ _).mono ?_
    rintro e w' ⟨rfl, rfl⟩
    rw [H.out]
    go_wp2_with fail
    refine (fits5_c _ _ _ _ _).mono ?_
    rintro e w2 ⟨rfl, h2⟩
    rw [HF.out]
    have B1 := B0.trans (h1.mono B0.size)
    go_wp2
    go_ret2
    exact ⟨rfl, B1.trans (h2.mono B1.size)⟩

theorem ok0 (k a b s : Int) (hk : ¬ (1 ≤ k ∧ k ≤ 5)) : msgOkB ⟨k, a, b, s⟩ = false := by
  have h : amtOkB k b = false := by unfold amtOkB; rw [if_neg (by omega), if_neg (by omega), if_neg (by omega)]
  simp [msgOkB, h]

set_option maxHeartbeats 2000000 in
theorem valid0_c (k a b s : Int) (w : World) (hk : ¬ (1 ≤ k ∧ k ≤ 5)) : Calls Try.prog 124 #[.agg #[.int .i64 k, .int .i64 a, .int .i64 b, .int .i64 s]] w fun e w' => e = .returned (.tuple #[.nilIface, .bool false]) ∧ Below w.heap.size w w' := by
  obtain ⟨wa, hwa, B0, sa, x_a⟩ := frame1 w 92 [.int .i64 k, .int .i64 a, .int .i64 b, .int .i64 s]
  have c0 := x_a.cell (i := 0) rfl
  have c1 := x_a.cell (i := 1) rfl
  have c2 := x_a.cell (i := 2) rfl
  have c3 := x_a.cell (i := 3) rfl
  clear sa
  go_enter Try.func124, Try.ntmps124
  go_wp2_with fail
  refine (letterOf0_c _ _ _ _ _ hk).mono ?_
  rintro e w1 ⟨rfl, h1⟩
  go_wp2
  go_ret2
  exact ⟨rfl, B0.trans (h1.mono B0.size)⟩

set_option maxHeartbeats 4000000 in
theorem iMsgOk_c {w : World} {v : Value} {m : MMsg} (h : RV msgL w v m) : Calls Try.prog 123 #[v] w fun e w' => e = .returned (.bool (msgOkB m)) ∧ Below w.heap.size w w' := by
  have h' := h
  obtain rfl := rv_msg h'
  clear h' h
  obtain ⟨k, a, b, s⟩ := m
  obtain ⟨wa, hwa, B0, sa, x_a⟩ := frame1 w 92 [.int .i64 k, .int .i64 a, .int .i64 b, .int .i64 s]
  have c0 := x_a.cell (i := 0) rfl
  have c1 := x_a.cell (i := 1) rfl
  have c2 := x_a.cell (i := 2) rfl
  have c3 := x_a.cell (i := 3) rfl
  clear sa
  by_cases hk : 1 ≤ k ∧ k ≤ 5
  case neg =>
    have HK := Lib.hid hk
    clear hk
    go_enter Try.func123, Try.ntmps123
    go_wp2_with fail
    refine (valid0_c _ _ _ _ _ HK.out).mono ?_
    rintro e w1 ⟨rfl, h1⟩
    go_wp2
    go_ret
    exact ⟨by rw [ok0 _ _ _ _ HK.out]; rfl, B0.trans (h1.mono B0.size)⟩
  have h5 : k = 1 ∨ k = 2 ∨ k = 3 ∨ k = 4 ∨ k = 5 := by omega
  clear hk
  rcases h5 with rfl | rfl | rfl | rfl | rfl
  · by_cases ho : msgOkB ⟨1, a, b, s⟩ = true
    · have HO := Lib.hid ho
      clear ho
      go_enter Try.func123, Try.ntmps123
      go_wp2_with fail
      refine (valid1_c _ _ _ _).mono ?_
      rintro e w1 ⟨rfl, h1⟩
      rw [if_pos HO.out]
      replace x_a := x_a.from_ h1
      have d2 := x_a.cell (i := 2) rfl
      go_wp2
      go_ret
      exact ⟨by rw [HO.out]; rfl, B0.trans (h1.mono B0.size)⟩
    · have ho' : msgOkB ⟨1, a, b, s⟩ = false := by simpa using ho
      have HO := Lib.hid ho'
      clear ho ho'
      go_enter Try.func123, Try.ntmps123
      go_wp2_with fail
      refine (valid1_c _ _ _ _).mono ?_
      rintro e w1 ⟨rfl, h1⟩
      rw [if_neg (by rw [HO.out]; decide)]
      go_wp2
      go_ret
      exact ⟨by rw [HO.out]; rfl, B0.trans (h1.mono B0.size)⟩
  · by_cases ho : msgOkB ⟨2, a, b, s⟩ = true
    · have HO := Lib.hid ho
      clear ho
      go_enter Try.func123, Try.ntmps123
      go_wp2_with fail
      refine (valid2_c _ _ _ _).mono ?_
      rintro e w1 ⟨rfl, h1⟩
      rw [if_pos HO.out]
      replace x_a := x_a.from_ h1
      have d2 := x_a.cell (i := 2) rfl
      go_wp2
      go_ret
      exact ⟨by rw [HO.out]; rfl, B0.trans (h1.mono B0.size)⟩
    · have ho' : msgOkB ⟨2, a, b, s⟩ = false := by simpa using ho
      have HO := Lib.hid ho'
      clear ho ho'
      go_enter Try.func123, Try.ntmps123
      go_wp2_with fail
      refine (valid2_c _ _ _ _).mono ?_
      rintro e w1 ⟨rfl, h1⟩
      rw [if_neg (by rw [HO.out]; decide)]
      go_wp2
      go_ret
      exact ⟨by rw [HO.out]; rfl, B0.trans (h1.mono B0.size)⟩
  · by_cases ho : msgOkB ⟨3, a, b, s⟩ = true
    · have HO := Lib.hid ho
      clear ho
      go_enter Try.func123, Try.ntmps123
      go_wp2_with fail
      refine (valid3_c _ _ _ _).mono ?_
      rintro e w1 ⟨rfl, h1⟩
      rw [if_pos HO.out]
      replace x_a := x_a.from_ h1
      have d2 := x_a.cell (i := 2) rfl
      go_wp2
      go_ret
      exact ⟨by rw [HO.out]; rfl, B0.trans (h1.mono B0.size)⟩
    · have ho' : msgOkB ⟨3, a, b, s⟩ = false := by simpa using ho
      have HO := Lib.hid ho'
      clear ho ho'
      go_enter Try.func123, Try.ntmps123
      go_wp2_with fail
      refine (valid3_c _ _ _ _).mono ?_
      rintro e w1 ⟨rfl, h1⟩
      rw [if_neg (by rw [HO.out]; decide)]
      go_wp2
      go_ret
      exact ⟨by rw [HO.out]; rfl, B0.trans (h1.mono B0.size)⟩
  · by_cases ho : msgOkB ⟨4, a, b, s⟩ = true
    · have HO := Lib.hid ho
      clear ho
      go_enter Try.func123, Try.ntmps123
      go_wp2_with fail
      refine (valid4_c _ _ _ _).mono ?_
      rintro e w1 ⟨rfl, h1⟩
      rw [if_pos HO.out]
      replace x_a := x_a.from_ h1
      have d2 := x_a.cell (i := 2) rfl
      go_wp2
      go_ret
      exact ⟨by rw [HO.out]; rfl, B0.trans (h1.mono B0.size)⟩
    · have ho' : msgOkB ⟨4, a, b, s⟩ = false := by simpa using ho
      have HO := Lib.hid ho'
      clear ho ho'
      go_enter Try.func123, Try.ntmps123
      go_wp2_with fail
      refine (valid4_c _ _ _ _).mono ?_
      rintro e w1 ⟨rfl, h1⟩
      rw [if_neg (by rw [HO.out]; decide)]
      go_wp2
      go_ret
      exact ⟨by rw [HO.out]; rfl, B0.trans (h1.mono B0.size)⟩
  · by_cases ho : msgOkB ⟨5, a, b, s⟩ = true
    · have HO := Lib.hid ho
      clear ho
      go_enter Try.func123, Try.ntmps123
      go_wp2_with fail
      refine (valid5_c _ _ _ _).mono ?_
      rintro e w1 ⟨rfl, h1⟩
      rw [if_pos HO.out]
      replace x_a := x_a.from_ h1
      have d2 := x_a.cell (i := 2) rfl
      go_wp2
      go_ret
      exact ⟨by rw [HO.out]; rfl, B0.trans (h1.mono B0.size)⟩
    · have ho' : msgOkB ⟨5, a, b, s⟩ = false := by simpa using ho
      have HO := Lib.hid ho'
      clear ho ho'
      go_enter Try.func123, Try.ntmps123
      go_wp2_with fail
      refine (valid5_c _ _ _ _).mono ?_
      rintro e w1 ⟨rfl, h1⟩
      rw [if_neg (by rw [HO.out]; decide)]
      go_wp2
      go_ret
      exact ⟨by rw [HO.out]; rfl, B0.trans (h1.mono B0.size)⟩

end Go.Proofs.Ytdoipabfmekdlaa

namespace Go.Proofs.Ytdoipabfmekdlaa
open Go.RowKit
set_option linter.unusedVariables false

theorem ta_1_1 (v : Value) (w : World) : (Instr.typeAssert (.iface 136 v) 133 136 true).run Try.prog w = .ok (.tuple #[v, .bool true]) w := by kernel_rfl

theorem ta_1_2 (v : Value) (w : World) : (Instr.typeAssert (.iface 136 v) 133 137 true).run Try.prog w = .ok (.tuple #[.agg #[.int .i64 0, .int .i64 0, .int .i64 0, .int .i64 0], .bool false]) w := by kernel_rfl

theorem ta_1_3 (v : Value) (w : World) : (Instr.typeAssert (.iface 136 v) 133 138 true).run Try.prog w = .ok (.tuple #[.agg #[.int .i64 0, .int .i64 0, .int .i64 0, .int .i64 0], .bool false]) w := by kernel_rfl

theorem ta_2_1 (v : Value) (w : World) : (Instr.typeAssert (.iface 137 v) 133 136 true).run Try.prog w = .ok (.tuple #[.agg #[.int .i64 0, .int .i64 0, .int .i64 0, .int .i64 0], .bool false]) w := by kernel_rfl

theorem ta_2_2 (v : Value) (w : World) : (Instr.typeAssert (.iface 137 v) 133 137 true).run Try.prog w = .ok (.tuple #[v, .bool true]) w := by kernel_rfl

theorem ta_2_3 (v : Value) (w : World) : (Instr.typeAssert (.iface 137 v) 133 138 true).run Try.prog w = .ok (.tuple #[.agg #[.int .i64 0, .int .i64 0, .int .i64 0, .int .i64 0], .bool false]) w := by kernel_rfl

theorem ta_3_1 (v : Value) (w : World) : (Instr.typeAssert (.iface 138 v) 133 136 true).run Try.prog w = .ok (.tuple #[.agg #[.int .i64 0, .int .i64 0, .int .i64 0, .int .i64 0], .bool false]) w := by kernel_rfl

theorem ta_3_2 (v : Value) (w : World) : (Instr.typeAssert (.iface 138 v) 133 137 true).run Try.prog w = .ok (.tuple #[.agg #[.int .i64 0, .int .i64 0, .int .i64 0, .int .i64 0], .bool false]) w := by kernel_rfl

theorem ta_3_3 (v : Value) (w : World) : (Instr.typeAssert (.iface 138 v) 133 138 true).run Try.prog w = .ok (.tuple #[v, .bool true]) w := by kernel_rfl

theorem ta_4_1 (v : Value) (w : World) : (Instr.typeAssert (.iface 139 v) 133 136 true).run Try.prog w = .ok (.tuple #[.agg #[.int .i64 0, .int .i64 0, .int .i64 0, .int .i64 0], .bool false]) w := by kernel_rfl

theorem ta_4_2 (v : Value) (w : World) : (Instr.typeAssert (.iface 139 v) 133 137 true).run Try.prog w = .ok (.tuple #[.agg #[.int .i64 0, .int .i64 0, .int .i64 0, .int .i64 0], .bool false]) w := by kernel_rfl

theorem ta_4_3 (v : Value) (w : World) : (Instr.typeAssert (.iface 139 v) 133 138 true).run Try.prog w = .ok (.tuple #[.agg #[.int .i64 0, .int .i64 0, .int .i64 0, .int .i64 0], .bool false]) w := by kernel_rfl

theorem ta_5_1 (v : Value) (w : World) : (Instr.typeAssert (.iface 140 v) 133 136 true).run Try.prog w = .ok (.tuple #[.agg #[.int .i64 0, .int .i64 0, .int .i64 0, .int .i64 0], .bool false]) w := by kernel_rfl

theorem ta_5_2 (v : Value) (w : World) : (Instr.typeAssert (.iface 140 v) 133 137 true).run Try.prog w = .ok (.tuple #[.agg #[.int .i64 0, .int .i64 0, .int .i64 0, .int .i64 0], .bool false]) w := by kernel_rfl

theorem ta_5_3 (v : Value) (w : World) : (Instr.typeAssert (.iface 140 v) 133 138 true).run Try.prog w = .ok (.tuple #[.agg #[.int .i64 0, .int .i64 0, .int .i64 0, .int .i64 0], .bool false]) w := by kernel_rfl

theorem worth_no {m : MMsg} (h : msgOkB m = false) : msgWorth m = 0 := by unfold msgWorth; rw [h]; simp
theorem worth_ok {m : MMsg} (h : msgOkB m = true) : msgWorth m = if m.Kind ≤ 3 then m.Amt else 0 := by unfold msgWorth; rw [h]; simp

end Go.Proofs.Ytdoipabfmekdlaa

namespace Go.Proofs.Ytdoipabfmekdlaa
open Go.RowKit
set_option linter.unusedVariables false

theorem sz_queue : (Try.prog.info? 110).map (·.size) = some 2 := by kernel_rfl

theorem iCount_w (A : Option Addr) (n c : Nat) (w : World) : Calls Try.prog 121 #[.slice A n c] w fun e w' => e = .returned (.int .i64 (n : Int)) ∧ w = w' := by
  go_enter Try.func121, Try.ntmps121
  go_wp2
  go_ret
  exact ⟨rfl, rfl⟩
theorem iCount_b (A : Option Addr) (n c : Nat) (w : World) : Calls Try.prog 121 #[.slice A n c] w fun e w' => e = .returned (.int .i64 (n : Int)) ∧ Below w.heap.size w w' :=
  (iCount_w A n c w).mono (by rintro e w' ⟨rfl, rfl⟩; exact ⟨rfl, Below.refl _ _⟩)
theorem iNum_b (n : Int) (w : World) : Calls Try.prog 79 #[.int .i64 n] w fun e w' => e = .returned (.bool (numB n)) ∧ Below w.heap.size w w' :=
  (iNum_any n w).mono (by rintro e w' ⟨rfl, rfl⟩; exact ⟨rfl, Below.refl _ _⟩)

set_option maxHeartbeats 1000000 in
theorem iAllOk_c {w : World} {A : Option Addr} {c : Nat} {l : List MMsg} (h : RV msgSL w (.slice A l.length c) l) (hm : l.length ≤ 16777216) : Calls Try.prog 122 #[.slice A l.length c] w fun e w' => e = .returned (.bool (l.all msgOkB)) ∧ Below w.heap.size w w' := by
  obtain ⟨A', c', he, hc1, hc2, hr⟩ := rv_slice h
  simp only [Value.slice.injEq, true_and] at he
  obtain ⟨rfl, rfl⟩ := he
  clear h
  go_enter Try.func122, Try.ntmps122
  go_wp2
  go_loopw [7] (fun i wr => ∃ k : Nat, k ≤ l.length ∧ i = .int .i64 k ∧ Hid ((l.take k).all msgOkB = true) ∧ Below w.heap.size w wr) (fun i _ => l.length - (intOf i).toNat)
  case atStart => exact ⟨0, Nat.zero_le _, rfl, rfl, Below.refl _ _⟩
  case round =>
    obtain ⟨k, hk, rfl, HT, HB⟩ := hrel
    have hs := HB.size
    by_cases hlt : k < l.length
    · obtain ⟨x, hxe⟩ := get_of_lt hlt
      obtain ⟨b, off, rfl, hb, e0, e1, e2, e3⟩ := el_msg (hr.below HB) hxe
      have i1 : (k : Int) < (l.length : Int) := by omega
      obtain ⟨w1, a1, s1, b1, x_m⟩ := alloc_step wr 92 [.int .i64 x.Kind, .int .i64 x.Acct, .int .i64 x.Amt, .int .i64 x.Src]
      have m0 := x_m.cell (i := 0) rfl
      have m1 := x_m.cell (i := 1) rfl
      have m2 := x_m.cell (i := 2) rfl
      have m3 := x_m.cell (i := 3) rfl
      clear s1
      have B1 := HB.trans (b1.mono hs)
      by_cases hok : msgOkB x = true
      · have HK := Lib.hid hok
        have HT2 : Hid ((l.take (k + 1)).all msgOkB = true) := all_take_succ HT.out hxe hok
        clear hok hxe
        go_wp2_with fail
        refine (iMsgOk_c (m := x) rv_msg_mk).mono ?_
        rintro e w2 ⟨rfl, h2⟩
        rw [HK.out]
        have B2 := B1.trans (h2.mono B1.size)
        go_wp2
        go_roundw
        case rel => exact ⟨k + 1, by omega, by go_num, HT2, B2⟩
        case measure => simp [intOf]; omega
      · have hok' : msgOkB x = false := by simpa using hok
        have HK := Lib.hid hok'
        have HO : Hid (l.all msgOkB = false) := all_false hxe hok'
        clear hok hok' hxe
        go_wp2_with fail
        refine (iMsgOk_c (m := x) rv_msg_mk).mono ?_
        rintro e w2 ⟨rfl, h2⟩
        rw [HK.out]
        have B2 := B1.trans (h2.mono B1.size)
        go_wp2
        go_ret
        exact ⟨ret_eq (by rw [HO.out]; rfl), B2⟩
    · have hk2 : k = l.length := by omega
      subst hk2
      have HO : Hid (l.all msgOkB = true) := by have := HT.out; rwa [List.take_of_length_le (Nat.le_refl _)] at this
      go_wp2
      go_ret
      exact ⟨ret_eq (by rw [HO.out]; rfl), HB⟩

def worths : List MMsg → Int
  | [] => 0
  | m :: l => msgWorth m + worths l
theorem worths_append (l l' : List MMsg) : worths (l ++ l') = worths l + worths l' := by
  induction l with
  | nil => simp [worths]
  | cons a l ih => simp only [List.cons_append, worths, ih]; omega
theorem worths_range (l : List MMsg) : 0 ≤ worths l ∧ worths l ≤ 1000000000 * (l.length : Int) := by
  induction l with
  | nil => simp [worths]
  | cons a l ih => have := msgWorth_range a; simp only [worths, List.length_cons]; omega
theorem worths_take {l : List MMsg} {k : Nat} {x : MMsg} (h : l[k]? = some x) : worths (l.take (k + 1)) = worths (l.take k) + msgWorth x := by
  rw [List.take_add_one, h, worths_append]; simp [worths]

theorem ok_num {o : MOut} (h : outOkB o = true) : numB o.Next = true := by
  have := outOk_parts h
  unfold numB
  simp
  omega

set_option maxHeartbeats 4000000 in
theorem iQOk_c {w : World} {A : Option Addr} {c : Nat} {o : MOut} (h : RV msgSL w (.slice A o.List.length c) o.List) (hm : o.List.length ≤ 16777216) : Calls Try.prog 116 #[.agg #[.slice A o.List.length c, .int .i64 o.Next]] w fun e w' => e = .returned (.bool (outOkB o)) ∧ Below w.heap.size w w' := by
  obtain ⟨wa, hwa, B0, sa, x_a⟩ := frame1 w 110 [.slice A o.List.length c, .int .i64 o.Next]
  have sa_1 := Nat.le_of_eq sa
  have sa_2 := Nat.le_of_eq sa.symm
  clear sa
  have c_a_0_wa := x_a.cell (i := 0) rfl
  have c_a_1_wa := x_a.cell (i := 1) rfl
  by_cases hn : numB o.Next = true
  case neg =>
    have hn' : numB o.Next = false := by simpa using hn
    have HO : Hid (outOkB o = false) := by show _ = _; cases e : outOkB o; rfl; exact absurd (ok_num e) hn
    have HN := Lib.hid hn'
    clear hn hn'
    have kn : ∀ W, Calls Try.prog 79 #[.int .i64 o.Next] W fun e w' => e = .returned (.bool false) ∧ w' = W := fun W => (iNum_any _ W).mono (by rintro e w' ⟨rfl, rfl⟩; exact ⟨by rw [HN.out], rfl⟩)
    have kc : ∀ W, Calls Try.prog 121 #[.slice A o.List.length c] W fun e w' => e = .returned (.int .i64 (o.List.length : Int)) ∧ w' = W := fun W => (iCount_w _ _ _ W).mono (by rintro e w' ⟨rfl, rfl⟩; exact ⟨rfl, rfl⟩)
    go_enter Try.func116, Try.ntmps116
    go_wp2_with fail
    go_quiet (first | (go_at_call 79; exact Calls.quiet_of_same (kn _)) | (go_at_call 121; exact Calls.quiet_of_same (kc _)))
    have B9 := B0.trans (below_of_drew _ _ nq)
    go_wp2
    go_ret
    exact ⟨ret_eq (by rw [HO.out]; rfl), B9⟩
  have HN := Lib.hid hn
  have hn2 : 0 ≤ o.Next ∧ o.Next ≤ 1125899906842624 := by unfold numB at hn; simp at hn; omega
  clear hn
  by_cases h1 : 1 ≤ o.Next
  case neg =>
    have HO : Hid (outOkB o = false) := by show _ = _; cases e : outOkB o; rfl; have := outOk_parts e; omega
    have g1 : decide (1 ≤ o.Next) = false := decide_eq_false h1
    have kn : ∀ W, Calls Try.prog 79 #[.int .i64 o.Next] W fun e w' => e = .returned (.bool true) ∧ w' = W := fun W => (iNum_any _ W).mono (by rintro e w' ⟨rfl, rfl⟩; exact ⟨by rw [HN.out], rfl⟩)
    have kc : ∀ W, Calls Try.prog 121 #[.slice A o.List.length c] W fun e w' => e = .returned (.int .i64 (o.List.length : Int)) ∧ w' = W := fun W => (iCount_w _ _ _ W).mono (by rintro e w' ⟨rfl, rfl⟩; exact ⟨rfl, rfl⟩)
    go_enter Try.func116, Try.ntmps116
    go_wp2_with fail
    go_quiet (first | (go_at_call 79; exact Calls.quiet_of_same (kn _)) | (go_at_call 121; exact Calls.quiet_of_same (kc _)))
    have B9 := B0.trans (below_of_drew _ _ nq)
    go_wp2
    go_ret
    exact ⟨ret_eq (by rw [HO.out]; rfl), B9⟩
  have g1 : decide (1 ≤ o.Next) = true := decide_eq_true h1
  by_cases h2 : (o.List.length : Int) < o.Next
  case neg =>
    have HO : Hid (outOkB o = false) := by show _ = _; cases e : outOkB o; rfl; have := outOk_parts e; omega
    have g2 : decide ((o.List.length : Int) < o.Next) = false := decide_eq_false h2
    have kn : ∀ W, Calls Try.prog 79 #[.int .i64 o.Next] W fun e w' => e = .returned (.bool true) ∧ w' = W := fun W => (iNum_any _ W).mono (by rintro e w' ⟨rfl, rfl⟩; exact ⟨by rw [HN.out], rfl⟩)
    have kc : ∀ W, Calls Try.prog 121 #[.slice A o.List.length c] W fun e w' => e = .returned (.int .i64 (o.List.length : Int)) ∧ w' = W := fun W => (iCount_w _ _ _ W).mono (by rintro e w' ⟨rfl, rfl⟩; exact ⟨rfl, rfl⟩)
    go_enter Try.func116, Try.ntmps116
    go_wp2_with fail
    go_quiet (first | (go_at_call 79; exact Calls.quiet_of_same (kn _)) | (go_at_call 121; exact Calls.quiet_of_same (kc _)))
    have B9 := B0.trans (below_of_drew _ _ nq)
    go_wp2
    go_ret
    exact ⟨ret_eq (by rw [HO.out]; rfl), B9⟩
  have g2 : decide ((o.List.length : Int) < o.Next) = true := decide_eq_true h2
  by_cases h3 : (o.List.length : Int) ≤ 60
  case neg =>
    have HO : Hid (outOkB o = false) := by show _ = _; cases e : outOkB o; rfl; have := outOk_parts e; omega
    have g3 : decide ((o.List.length : Int) ≤ 60) = false := decide_eq_false h3
    have kn : ∀ W, Calls Try.prog 79 #[.int .i64 o.Next] W fun e w' => e = .returned (.bool true) ∧ w' = W := fun W => (iNum_any _ W).mono (by rintro e w' ⟨rfl, rfl⟩; exact ⟨by rw [HN.out], rfl⟩)
    have kc : ∀ W, Calls Try.prog 121 #[.slice A o.List.length c] W fun e w' => e = .returned (.int .i64 (o.List.length : Int)) ∧ w' = W := fun W => (iCount_w _ _ _ W).mono (by rintro e w' ⟨rfl, rfl⟩; exact ⟨rfl, rfl⟩)
    go_enter Try.func116, Try.ntmps116
    go_wp2_with fail
    go_quiet (first | (go_at_call 79; exact Calls.quiet_of_same (kn _)) | (go_at_call 121; exact Calls.quiet_of_same (kc _)))
    have B9 := B0.trans (below_of_drew _ _ nq)
    go_wp2
    go_ret
    exact ⟨ret_eq (by rw [HO.out]; rfl), B9⟩
  have g3 : decide ((o.List.length : Int) ≤ 60) = true := decide_eq_true h3
  obtain ⟨z, hz⟩ : ∃ z, o.List.all msgOkB = z := ⟨_, rfl⟩
  have HO : Hid (outOkB o = z) := by show _ = _; unfold outOkB; rw [hz, inB_true.2 ⟨h1, hn2.2⟩, decide_eq_true (by omega : o.List.length ≤ 60), decide_eq_true h2]; simp
  have HA := Lib.hid hz
  clear hz
  go_enter Try.func116, Try.ntmps116
  go_wp2_with fail
  go_region_held3 (fun w' => w'.cell? ⟨w.heap.size, 0, none⟩ = some (.slice A o.List.length c) ∧ w'.cell? ⟨w.heap.size, 1, none⟩ = some (.int .i64 o.Next))
    (first | exact ⟨c_a_0_wa, c_a_1_wa⟩ | exact ⟨qn_a_0, qn_a_1⟩ | exact ⟨qp_a_0, qp_a_1⟩ | exact ⟨qq_a_0, qq_a_1⟩ | exact ⟨qr_a_0, qr_a_1⟩ | go_keep)
    (first | ((go_at_call 122); (refine (iAllOk_c (h.from_ (B0.trans (hb_q.mono B0.size))) hm).mono ?_); rintro e w_r ⟨rfl, hd_r⟩; have hb_r : Below wa.heap.size wa w_r := hb_q.trans (hd_r.mono hb_q.size); have sd_r := hd_r.size; have qr_a_0 := (x_a.from_ hb_r).cell (i := 0) rfl; have qr_a_1 := (x_a.from_ hb_r).cell (i := 1) rfl; rw [HA.out])
           | ((go_at_call 121); (refine (iCount_b _ _ _ _).mono ?_); rintro e w_q ⟨rfl, hd_q⟩; have hb_q : Below wa.heap.size wa w_q := hb_p.trans (hd_q.mono hb_p.size); have sd_q := hd_q.size; have qq_a_0 := (x_a.from_ hb_q).cell (i := 0) rfl; have qq_a_1 := (x_a.from_ hb_q).cell (i := 1) rfl; have yq := hb_p)
           | ((go_at_call 121); (refine (iCount_b _ _ _ _).mono ?_); rintro e w_p ⟨rfl, hd_p⟩; have hb_p : Below wa.heap.size wa w_p := hb_n.trans (hd_p.mono hb_n.size); have sd_p := hd_p.size; have qp_a_0 := (x_a.from_ hb_p).cell (i := 0) rfl; have qp_a_1 := (x_a.from_ hb_p).cell (i := 1) rfl)
           | ((go_at_call 79); (refine (iNum_b _ _).mono ?_); rintro e w_n ⟨rfl, hd_n⟩; have hb_n : Below wa.heap.size wa w_n := (Below.refl wa.heap.size wa).drew.trans hd_n; have sd_n := hd_n.size; replace sd_n : wa.heap.size ≤ w_n.heap.size := sd_n; have qn_a_0 := (x_a.from_ hb_n).cell (i := 0) rfl; have qn_a_1 := (x_a.from_ hb_n).cell (i := 1) rfl; rw [HN.out])
           | fail)
  clear c_a_0_wa c_a_1_wa
  have dz_wa : wa.drew.heap.size = wa.heap.size := rfl
  replace x_a := x_a.from_ hb_r
  have B_r := B0.trans (hb_r.mono B0.size)
  have sz_r := hb_r.size
  go_wp2
  go_ret
  exact ⟨ret_eq (by rw [HO.out]; rfl), B_r⟩

end Go.Proofs.Ytdoipabfmekdlaa

namespace Go.Proofs.Ytdoipabfmekdlaa
open Go.RowKit
set_option linter.unusedVariables false

/-- append asks of the second argument's type only whether it is a number -/
theorem run_append_tt {P : Program} (w : World) (t t2 ty e : TypeId) (ht : P.underlying t = some (.slice e)) (ht2 : P.underlying t2 = some (.slice e)) (i : TypeInfo) (hi : P.info? e = some i) (A : Option Addr) (n c : Nat) (x : Value) : (Builtin.append_ #[t, t2] ty #[.slice A n c, x]).run P w = (Builtin.append_ #[t, t] ty #[.slice A n c, x]).run P w := by
  simp [Builtin.append_, run_underlying ht, run_underlying ht2, sizeOf, typeInfo, hi]

/-- append onto a row of one's own, the source of another slice type -/
theorem wpl_appN2 {P : Program} (w : World) {ops : Array Oper} {rest : List Oper} {o : Oper} {a : Act} {Q : Exit → Act → World → Prop} (hgd : o.guard = none) (s x : Operand) (t t2 : TypeId)
    (ho : o.op = .call { callee := .builtin .append, args := #[s, x], argTypes := #[t, t2] })
    (base sz : Nat) (e : TypeId) (i : TypeInfo) (z : Value) (bytes : Nat) (ht : P.underlying t = some (.slice e)) (ht2 : P.underlying t2 = some (.slice e)) (hi : P.info? e = some i) (hz : i.zero = some z)
    (hsize : i.size = sz) (hby : i.bytes = bytes) (hzs : z.cells.size = sz) (hsz : 0 < sz) (v : Value) (n : Nat) (xs : List Value) (hs : a.eval s = v) (hown : w.ownsRow base e sz v n xs)
    (B : Nat) (A : Option Addr) (c m : Nat) (ys : List Value) (hx : a.eval x = .slice A m c) (hm : ys.length = m * sz) (hr : RdV w B A ys) (h1 : ∀ u ∈ ys, u.oneCell' = true)
    (hmax : n + m ≤ 67108864) (hbyt : bytes ≤ 1024) (hbase : base ≤ w.heap.size)
    (h : ∀ v' w', w'.ownsRow base e sz v' (n + m) (xs ++ ys) → w.grownBy w' v.ownBlock → (v'.ownBlock = v.ownBlock ∨ v'.ownBlock = some w.heap.size) → wpList P ops Q rest (a.put o.dst v') w') :
    wpList P ops Q (o :: rest) a w := by
  refine wpList_plain hgd fun K hK => ?_
  obtain ⟨v', w', hrun, h2, h3, h4⟩ := run_appN (P := P) w base sz t o.type e i z bytes ht hi hz hsize hby hzs hsz v n xs hown B A c m ys hm hr h1 hmax hbyt hbase
  obtain ⟨A0, n0, c0, rfl⟩ : ∃ A0 n0 c0, v = .slice A0 n0 c0 := by
    rcases hown.2 with ⟨rfl, -⟩ | ⟨g, cap, cur, rfl, -⟩ <;> exact ⟨_, _, _, rfl⟩
  rw [← run_append_tt w t t2 o.type e ht ht2 i hi] at hrun
  unfold Oper.wp execOp
  simp only [ho, resolve, invoke, builtin, Sem.run_bind, Sem.run_pure, Result.andThen_ok, List.map_toArray, List.map_cons, List.map_nil, hs, hx, hrun]
  exact hK _ _ (h v' w' h2 h3 h4)

set_option maxHeartbeats 2000000 in
theorem iQueueOf_c {w : World} {A : Option Addr} {c : Nat} {o : MOut} (h : RV msgSL w (.slice A o.List.length c) o.List) (hm : o.List.length ≤ 16777216) : Calls Try.prog 103 #[.agg #[.int .i64 o.Next, .slice A o.List.length c]] w fun e w' => e = .returned (.tuple #[.agg #[.slice A o.List.length c, .int .i64 o.Next], .bool (outOkB o)]) ∧ Below w.heap.size w w' := by
  obtain ⟨wa, hwa, B0, sa, x_a, x_r⟩ := frame2 w 59 [.int .i64 o.Next, .slice A o.List.length c] 110 [.slice none 0 0, .int .i64 0]
  have sa_1 := Nat.le_of_eq sa
  have sa_2 := Nat.le_of_eq sa.symm
  clear sa
  have c_a_0_wa := x_a.cell (i := 0) rfl
  have f_a_0_wa := x_a.frozen 0
  have c_a_1_wa := x_a.cell (i := 1) rfl
  have f_a_1_wa := x_a.frozen 1
  have c_r_0_wa := x_r.cell (i := 0) rfl
  have f_r_0_wa := x_r.frozen 0
  have c_r_1_wa := x_r.cell (i := 1) rfl
  have f_r_1_wa := x_r.frozen 1
  obtain ⟨z, hz⟩ : ∃ z, outOkB o = z := ⟨_, rfl⟩
  rw [hz]
  have HZ := Lib.hid hz
  clear hz
  go_enter Try.func103, Try.ntmps103
  obtain ⟨w1, e_w1, s_w1, h_w1, x_q⟩ := alloc_step wa 110 [.slice A o.List.length c, .int .i64 o.Next]
  have s_w1_1 := Nat.le_of_eq s_w1
  have s_w1_2 := Nat.le_of_eq s_w1.symm
  clear s_w1
  replace x_a := x_a.from_ h_w1
  replace x_r := x_r.from_ h_w1
  have B_w1 := B0.trans (h_w1.mono B0.size)
  have c_a_0_w1 := x_a.cell (i := 0) rfl
  have f_a_0_w1 := x_a.frozen 0
  have c_a_1_w1 := x_a.cell (i := 1) rfl
  have f_a_1_w1 := x_a.frozen 1
  have c_r_0_w1 := x_r.cell (i := 0) rfl
  have f_r_0_w1 := x_r.frozen 0
  have c_r_1_w1 := x_r.cell (i := 1) rfl
  have f_r_1_w1 := x_r.frozen 1
  have c_q_0_w1 := x_q.cell (i := 0) rfl
  have f_q_0_w1 := x_q.frozen 0
  have c_q_1_w1 := x_q.cell (i := 1) rfl
  have f_q_1_w1 := x_q.frozen 1
  go_wp2_with fail
  go_region_held3 (fun w' => w'.cell? ⟨wa.heap.size, 0, none⟩ = some (.slice A o.List.length c) ∧ w'.cell? ⟨wa.heap.size, 1, none⟩ = some (.int .i64 o.Next))
    (first | exact ⟨c_q_0_w1, c_q_1_w1⟩ | exact ⟨qk_q_0, qk_q_1⟩ | exact ⟨(cell_sa (b := w.heap.size + 1) (p := ⟨wa.heap.size, 0, none⟩) (by show wa.heap.size ≠ w.heap.size + 1; omega) [.slice A o.List.length c, .int .i64 o.Next] 0 w_k).trans qk_q_0, (cell_sa (b := w.heap.size + 1) (p := ⟨wa.heap.size, 1, none⟩) (by show wa.heap.size ≠ w.heap.size + 1; omega) [.slice A o.List.length c, .int .i64 o.Next] 0 w_k).trans qk_q_1⟩ | go_keep)
    (first | ((go_at_call 116); (refine (iQOk_c (h.from_ (B_w1.drew)) hm).mono ?_); rintro e w_k ⟨rfl, hd_k⟩; have hb_k : Below w1.heap.size w1 w_k := (Below.refl w1.heap.size w1).drew.trans hd_k; have sd_k := hd_k.size; replace sd_k : w1.heap.size ≤ w_k.heap.size := sd_k; have qk_q_0 := (x_q.from_ hb_k).cell (i := 0) rfl; have qk_q_1 := (x_q.from_ hb_k).cell (i := 1) rfl; have qk_r_0 := (x_r.from_ hb_k).cell (i := 0) rfl; have pk_r_0 := (x_r.from_ hb_k).frozen 0; have qk_r_1 := (x_r.from_ hb_k).cell (i := 1) rfl; have pk_r_1 := (x_r.from_ hb_k).frozen 1; rw [HZ.out])
           | fail)
  clear c_a_0_wa f_a_0_wa c_a_1_wa f_a_1_wa c_r_0_wa f_r_0_wa c_r_1_wa f_r_1_wa c_a_0_w1 f_a_0_w1 c_a_1_w1 f_a_1_w1 c_r_0_w1 f_r_0_w1 c_r_1_w1 f_r_1_w1 c_q_0_w1 f_q_0_w1 c_q_1_w1 f_q_1_w1
  have dz_w1 : w1.drew.heap.size = w1.heap.size := rfl
  replace x_a := x_a.from_ hb_k
  replace x_r := x_r.from_ hb_k
  replace x_q := x_q.from_ hb_k
  have B_k := B_w1.trans (hb_k.mono B_w1.size)
  have sz_k := hb_k.size
  have c_r_0_w_k := x_r.cell (i := 0) rfl
  have f_r_0_w_k := x_r.frozen 0
  have c_r_1_w_k := x_r.cell (i := 1) rfl
  have f_r_1_w_k := x_r.frozen 1
  obtain ⟨w2, e_w2, s_w2, h_w2, y⟩ := store_step x_r [.slice A o.List.length c, .int .i64 o.Next] rfl
  replace e_w2 : ((w_k.setCell ⟨w.heap.size + 1, 0, none⟩ (.slice A o.List.length c)).setCell ⟨w.heap.size + 1, 1, none⟩ (.int .i64 o.Next)) = w2 := e_w2
  have s_w2_1 := Nat.le_of_eq s_w2
  have s_w2_2 := Nat.le_of_eq s_w2.symm
  clear s_w2
  replace x_a := x_a.chg h_w2 (by omega)
  replace x_q := x_q.chg h_w2 (by omega)
  have B_w2 := Below.chg_ B_k h_w2 (by omega) (by omega)
  replace x_r : Vr w2 (w.heap.size + 1) 110 [.slice A o.List.length c, .int .i64 o.Next] := y
  clear y
  have c_r_0_w2 := x_r.cell (i := 0) rfl
  have f_r_0_w2 := x_r.frozen 0
  have c_r_1_w2 := x_r.cell (i := 1) rfl
  have f_r_1_w2 := x_r.frozen 1
  rw [e_w2]
  go_wp2
  refine ret_cell_tmp (by rfl) (by rfl) x_r Try.underlying110 sz_queue (by rfl) ?_
  exact ⟨rfl, B_w2⟩

set_option maxHeartbeats 2000000 in
theorem iEqual_c {w : World} {A A2 : Option Addr} {c c2 : Nat} {l l2 : List MMsg} (h : RV msgSL w (.slice A l.length c) l) (h2 : RV msgSL w (.slice A2 l2.length c2) l2) (hm : l.length ≤ 16777216) (hm2 : l2.length ≤ 16777216) : Calls Try.prog 104 #[.slice A l.length c, .slice A2 l2.length c2] w fun e w' => e = .returned (.bool (decide (l = l2))) ∧ Below w.heap.size w w' := by
  obtain ⟨A', c', he, hc1_h, hc2_h, rh⟩ := rv_slice h
  simp only [Value.slice.injEq, true_and] at he
  obtain ⟨rfl, rfl⟩ := he
  clear h
  obtain ⟨A', c', he, hc1_h2, hc2_h2, rh2⟩ := rv_slice h2
  simp only [Value.slice.injEq, true_and] at he
  obtain ⟨rfl, rfl⟩ := he
  clear h2
  by_cases hl : l.length = l2.length
  case neg =>
    have HO : Hid (decide (l = l2) = false) := decide_eq_false (fun h => hl (by rw [h]))
    have g2 : ((l.length : Int) != (l2.length : Int)) = true := by simp; omega
    clear hl
    go_enter Try.func104, Try.ntmps104
    go_wp2
    go_ret
    exact ⟨ret_eq (by rw [HO.out]; rfl), Below.refl _ _⟩
  have g2 : ((l.length : Int) != (l2.length : Int)) = false := by simp; omega
  have l1 := Nat.le_of_eq hl
  have l2_ := Nat.le_of_eq hl.symm
  clear hl
  go_enter Try.func104, Try.ntmps104
  go_wp2
  go_loopw [13] (fun i wr => ∃ k : Nat, k ≤ l.length ∧ i = .int .i64 k ∧ Hid (l.take k = l2.take k) ∧ Below w.heap.size w wr) (fun i _ => l.length - (intOf i).toNat)
  case atStart => exact ⟨0, Nat.zero_le _, rfl, rfl, Below.refl _ _⟩
  case round =>
    obtain ⟨k, hk, rfl, HT, HB⟩ := hrel
    have hs := HB.size
    by_cases hlt : k < l.length
    case neg =>
      have HO : Hid (decide (l = l2) = true) := decide_eq_true (by have := HT.out; rwa [List.take_of_length_le (by omega), List.take_of_length_le (by omega)] at this)
      have hk2 : k = l.length := by omega
      subst hk2
      go_wp2
      go_ret
      exact ⟨ret_eq (by rw [HO.out]; rfl), HB⟩
    obtain ⟨x, hxe⟩ := get_of_lt hlt
    obtain ⟨y, hye⟩ := get_of_lt (xs := l2) (k := k) (by omega)
    obtain ⟨b, off, rfl, hb, e0, e1, e2, e3⟩ := el_msg (rh.below HB) hxe
    obtain ⟨b', off', rfl, hb', d0, d1, d2, d3⟩ := el_msg (rh2.below HB) hye
    have i1 : (k : Int) < (l.length : Int) := by omega
    have i2 : (k : Int) < (l2.length : Int) := by omega
    have gd := fun op x y W xs ys => guard_msg_run op x y W xs ys
    have gn := fun W => neq_msg_run W x y
    by_cases hxy : x = y
    case pos =>
      rw [show (!decide (x = y)) = false by simp [hxy]] at gn
      have H2 : Hid (l.take (k + 1) = l2.take (k + 1)) := take_succ_eqL HT.out hxe (by rw [hye, hxy])
      clear hxy hxe hye
      go_wp2_with fail
      go_quiet (fail)
      have B9 := HB.trans (below_of_drew _ _ nq)
      go_wp2
      go_roundw
      case rel => exact ⟨k + 1, by omega, by go_num, H2, B9⟩
      case measure => simp [intOf]; omega
    case neg =>
      rw [show (!decide (x = y)) = true by simp [hxy]] at gn
      have HO : Hid (decide (l = l2) = false) := decide_eq_false (fun h => hxy (by have h1 := hxe; rw [h, hye] at h1; simpa using h1.symm))
      clear hxy hxe hye
      go_wp2_with fail
      go_quiet (fail)
      have B9 := HB.trans (below_of_drew _ _ nq)
      go_wp2
      go_ret
      exact ⟨ret_eq (by rw [HO.out]; rfl), B9⟩

end Go.Proofs.Ytdoipabfmekdlaa

namespace Go.Proofs.Ytdoipabfmekdlaa
open Go.RowKit
set_option linter.unusedVariables false

theorem slice_n {A : Option Addr} {n n' c : Nat} (h : n = n') : Value.slice A n c = Value.slice A n' c := by rw [h]
theorem rv_msgs_none {w : World} {A : Option Addr} {c : Nat} {X : List MMsg} (h : X = []) (hc : c ≤ maxLen) : RV msgSL w (.slice A X.length c) X := by
  subst h
  exact ⟨[_], rfl, A, c, rfl, Nat.zero_le _, hc, fun _ => [], fun j x hx => by simp at hx, fun hp => by simp at hp⟩
theorem rv_msgs_drop {w : World} {b off c k : Nat} {l X : List MMsg} (hr : RdL msgL 4 w w.heap.size (some ⟨b, off, none⟩) l) (hc1 : l.length ≤ c) (hc2 : c ≤ maxLen) (hk : k ≤ l.length) (hX : l.drop k = X) : RV msgSL w (.slice (some ⟨b, off + k * 4, none⟩) X.length (c - k)) X := by
  subst hX
  exact ⟨[_], rfl, _, _, rfl, by rw [List.length_drop]; omega, by omega, hr.drop k⟩
def afterK (o : MOut) (q : Int) : Nat := (q + 1 - (o.Next - (o.List.length : Int))).toNat

end Go.Proofs.Ytdoipabfmekdlaa

namespace Go.Proofs.Ytdoipabfmekdlaa
open Go.RowKit
set_option linter.unusedVariables false
set_option maxHeartbeats 1000000 in
theorem iOutNew_c {w : World} : Calls Try.prog 81 #[] w (NewV outL w outNew) := by
  obtain ⟨wa, hwa, B0, sa, x_r⟩ := frame1 w 59 [.int .i64 0, .slice none 0 0]
  have sa_1 := Nat.le_of_eq sa
  have sa_2 := Nat.le_of_eq sa.symm
  clear sa
  have c_r_0_wa := x_r.cell (i := 0) rfl
  have f_r_0_wa := x_r.frozen 0
  have c_r_1_wa := x_r.cell (i := 1) rfl
  have f_r_1_wa := x_r.frozen 1
  go_enter Try.func81, Try.ntmps81
  obtain ⟨w1, e_w1, s_w1, h_w1, y⟩ := store_step x_r [.int .i64 1, .slice none 0 0] rfl
  replace e_w1 : ((wa.setCell ⟨w.heap.size, 0, none⟩ (.int .i64 1)).setCell ⟨w.heap.size, 1, none⟩ (.slice none 0 0)) = w1 := e_w1
  have s_w1_1 := Nat.le_of_eq s_w1
  have s_w1_2 := Nat.le_of_eq s_w1.symm
  clear s_w1
  have B_w1 := Below.chg_ B0 h_w1 (by omega) (by omega)
  replace x_r : Vr w1 (w.heap.size) 59 [.int .i64 1, .slice none 0 0] := y
  clear y
  have c_r_0_w1 := x_r.cell (i := 0) rfl
  have f_r_0_w1 := x_r.frozen 0
  have c_r_1_w1 := x_r.cell (i := 1) rfl
  have f_r_1_w1 := x_r.frozen 1
  go_wp2
  refine ret_cell (by rfl) (by rfl) x_r Try.underlying59 sz_out (by rfl) ?_
  exact ⟨_, rfl, ov_out (d := outNew) (ov_msgs_nil (lo := w.heap.size) (by omega)) (by omega), B_w1⟩

set_option maxHeartbeats 1000000 in
theorem iOutOk_c {w : World} {v : Value} {o : MOut} (h : RV outL w v o) (hm : o.List.length ≤ 16777216) : Calls Try.prog 78 #[v] w fun e w' => e = .returned (.bool (outOkB o)) ∧ Below w.heap.size w w' := by
  have h0 := h
  obtain ⟨A, c, rfl, hr0⟩ := rv_out h
  clear h
  obtain ⟨z, hz⟩ : ∃ z, outOkB o = z := ⟨_, rfl⟩
  rw [hz]
  have HK := Lib.hid hz
  clear hz
  obtain ⟨wa, hwa, B0, sa, x_a⟩ := frame1 w 59 [.int .i64 o.Next, .slice A o.List.length c]
  have sa_1 := Nat.le_of_eq sa
  have sa_2 := Nat.le_of_eq sa.symm
  clear sa
  have c_a_0_wa := x_a.cell (i := 0) rfl
  have f_a_0_wa := x_a.frozen 0
  have c_a_1_wa := x_a.cell (i := 1) rfl
  have f_a_1_wa := x_a.frozen 1
  go_enter Try.func78, Try.ntmps78
  go_wp2_with fail
  refine (iQueueOf_c (hr0.from_ B0) hm).mono ?_
  rintro e w1 ⟨rfl, h_w1⟩
  clear c_a_0_wa f_a_0_wa c_a_1_wa f_a_1_wa
  replace x_a := x_a.from_ h_w1
  have B_w1 := B0.trans (h_w1.mono B0.size)
  have s_w1 := h_w1.size
  rw [HK.out]
  have c_a_0_w1 := x_a.cell (i := 0) rfl
  have f_a_0_w1 := x_a.frozen 0
  have c_a_1_w1 := x_a.cell (i := 1) rfl
  have f_a_1_w1 := x_a.frozen 1
  obtain ⟨w2, e_w2, s_w2, h_w2, x_q⟩ := alloc_step w1 110 [.slice A o.List.length c, .int .i64 o.Next]
  have s_w2_1 := Nat.le_of_eq s_w2
  have s_w2_2 := Nat.le_of_eq s_w2.symm
  clear s_w2
  replace x_a := x_a.from_ h_w2
  have B_w2 := B_w1.trans (h_w2.mono B_w1.size)
  have c_a_0_w2 := x_a.cell (i := 0) rfl
  have f_a_0_w2 := x_a.frozen 0
  have c_a_1_w2 := x_a.cell (i := 1) rfl
  have f_a_1_w2 := x_a.frozen 1
  have c_q_0_w2 := x_q.cell (i := 0) rfl
  have f_q_0_w2 := x_q.frozen 0
  have c_q_1_w2 := x_q.cell (i := 1) rfl
  have f_q_1_w2 := x_q.frozen 1
  go_wp2
  go_ret
  exact ⟨rfl, B_w2⟩

theorem outW_none {o : MOut} {q : Int} (h : outOkB o = false) : ∀ k, outW o q k = 0
  | 0 => rfl
  | k + 1 => by rw [outW, outW_none h k, if_neg (by rw [h]; simp)]; rfl
theorem outW_take {o : MOut} {q : Int} (h : outOkB o = true) : ∀ k, k ≤ o.List.length → outW o q k = worths ((o.List.take k).drop (afterK o q))
  | 0, _ => by simp [outW, worths]
  | k + 1, hk => by
    have hf : outFirst o = o.Next - (o.List.length : Int) := if_pos h
    have hb := outOk_parts h
    obtain ⟨x, hx⟩ := get_of_lt (xs := o.List) (k := k) (by omega)
    have hg : o.List.getD k ⟨0, 0, 0, 0⟩ = x := by rw [List.getD_eq_getElem?_getD, hx]; rfl
    rw [outW, outW_take h k (by omega), hg, List.take_add_one, hx]
    have hl : (o.List.take k).length = k := by rw [List.length_take]; omega
    by_cases hq : q < outFirst o + (k : Int)
    · rw [if_pos ⟨h, hq⟩, hf] at *
      rw [List.drop_append_of_le_length (by rw [hl]; unfold afterK; omega), worths_append]
      simp [worths]
    · rw [if_neg (fun e => hq e.2), List.drop_of_length_le (by rw [hl]; unfold afterK; rw [hf] at hq; omega), List.drop_of_length_le (by simp only [List.length_append, hl, Option.toList_some, List.length_singleton]; unfold afterK; rw [hf] at hq; omega)]
      rfl
theorem outWorth_eq {o : MOut} {q : Int} (h : outOkB o = true) : outWorth o q = worths (o.List.drop (afterK o q)) := by
  unfold outWorth
  rw [outW_take h _ (Nat.le_refl _), List.take_of_length_le (Nat.le_refl _)]

set_option maxHeartbeats 1000000 in
theorem iOutSame_c {w : World} {v v' : Value} {o p : MOut} (h : RV outL w v o) (hp : RV outL w v' p) (hm : o.List.length ≤ 16777216) (hm2 : p.List.length ≤ 16777216) : Calls Try.prog 80 #[v, v'] w fun e w' => e = .returned (.bool (outSameB o p)) ∧ Below w.heap.size w w' := by
  have h0 := h
  obtain ⟨A, c, rfl, hr0⟩ := rv_out h
  clear h
  obtain ⟨A2, c2, rfl, hp0⟩ := rv_out hp
  clear hp
  obtain ⟨wa, hwa, B0, sa, x_a, x_b⟩ := frame2 w 59 [.int .i64 o.Next, .slice A o.List.length c] 59 [.int .i64 p.Next, .slice A2 p.List.length c2]
  have sa_1 := Nat.le_of_eq sa
  have sa_2 := Nat.le_of_eq sa.symm
  clear sa
  have c_a_0_wa := x_a.cell (i := 0) rfl
  have c_a_1_wa := x_a.cell (i := 1) rfl
  have c_b_0_wa := x_b.cell (i := 0) rfl
  have c_b_1_wa := x_b.cell (i := 1) rfl
  by_cases hn : o.Next = p.Next
  case neg =>
    have HO : Hid (outSameB o p = false) := decide_eq_false (fun h => hn h.1)
    have g : (o.Next == p.Next) = false := by simpa using hn
    clear hn
    go_enter Try.func80, Try.ntmps80
    go_wp2
    go_ret
    exact ⟨ret_eq (by rw [HO.out]; rfl), B0⟩
  have HO : Hid (outSameB o p = decide (o.List = p.List)) := by show _ = _; unfold outSameB; simp [hn]
  have g : (o.Next == p.Next) = true := by simpa using hn
  clear hn
  go_enter Try.func80, Try.ntmps80
  go_wp2_with fail
  refine (iEqual_c (hr0.from_ B0) (hp0.from_ B0) hm hm2).mono ?_
  rintro e w1 ⟨rfl, h_w1⟩
  clear c_a_0_wa c_a_1_wa c_b_0_wa c_b_1_wa
  replace x_a := x_a.from_ h_w1
  replace x_b := x_b.from_ h_w1
  have B_w1 := B0.trans (h_w1.mono B0.size)
  have s_w1 := h_w1.size
  go_wp2
  go_ret
  exact ⟨ret_eq (by rw [HO.out]; rfl), B_w1⟩

end Go.Proofs.Ytdoipabfmekdlaa
