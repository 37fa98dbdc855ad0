/- A map from ints to bools that the call makes: a set, told by a Bool function and by how many it holds. -/
import Derived.Test.YtopmojfcdmcmbaaPrims
import Derived.Maps.OwnSet
namespace Go.Proofs.Ytopmojfcdmcmbaa
open Go.RowKit
open Go.Maps (Keyed IsMap Tidy)
set_option linter.unusedVariables false

theorem mb_law : Keyed Try.prog 3 := Maps.int_keyed Try.underlying3
theorem mb_zero (w : World) : (zeroValue 4).run Try.prog w = .ok (.bool false) w := by kernel_rfl

def i64R (z : Int) : Prop := -9223372036854775808 ≤ z ∧ z ≤ 9223372036854775807

theorem mb_key {z : Int} (h : i64R z) : keyOf Try.prog 3 (.int .i64 z) = some (.int .i64 z) := Maps.keyOf_int_mk Try.underlying3 (WalkArith.wf_i64 (by unfold i64R at h; omega))

theorem plainElem_bool_inv {H : Type} {P : Program} {e : TypeId} (he : P.underlying e = some .bool) {v : Value} {z : DataW H × List MemPlace} (h : plainElem P e v = some z) : ∃ x, v = .bool x ∧ z = (.lit (.bool x), []) := by
  unfold plainElem at h
  rw [he] at h
  cases v <;> simp at h
  exact ⟨_, rfl, h.symm⟩

/-- block b is a map that holds true at just the z with p z; it has c entries, at most N -/
def MSet (w : World) (b N : Nat) (p : Int → Bool) (c : Nat) : Prop :=
  ∃ D : DataW Unit, w.ownsMap Try.prog 3 (plainElem Try.prog 4) b N D ∧ Maps.size D = c ∧
    ∀ z : Int, D.atKey (.int .i64 z) (.lit (.bool false)) = .lit (.bool (p z)) ∧ Maps.has D (.int .i64 z) = p z

section
variable {w w' : World} {b N c : Nat} {p q : Int → Bool} {z : Int}

theorem MSet.made (w : World) : MSet (w.alloc (.map #[] 0)) w.heap.size 0 (fun _ => false) 0 :=
  ⟨_, World.ownsMap_made w _ _ _, rfl, fun z => ⟨rfl, rfl⟩⟩
theorem MSet.lt (h : MSet w b N p c) : b < w.heap.size := by
  obtain ⟨D, h, -⟩ := h
  exact h.lt
theorem MSet.kept {row : Option Nat} (h : MSet w b N p c) (hg : w.grownBy w' row) (hne : some b ≠ row) : MSet w' b N p c := by
  obtain ⟨D, h, r⟩ := h
  exact ⟨D, h.kept hg hne, r⟩
theorem MSet.below (h : MSet w b N p c) (hb : Below w.heap.size w w') : MSet w' b N p c := by
  have hlt := h.lt
  obtain ⟨D, ⟨es, clock, h1, r1⟩, r⟩ := h
  exact ⟨D, ⟨es, clock, (hb.block b hlt).trans h1, r1⟩, r⟩
theorem MSet.is (h : MSet w b N p c) (hpq : ∀ y, p y = q y) : MSet w b N q c := by
  obtain ⟨D, h, hs, r⟩ := h
  exact ⟨D, h, hs, fun z => by rw [← hpq z]; exact r z⟩

theorem MSet.look (h : MSet w b N p c) (hz : i64R z) : (Instr.lookup 80 (.map (some b)) (.int .i64 z) false).run Try.prog w = .ok (.bool (p z)) w := by
  obtain ⟨D, h, hs, r⟩ := h
  obtain ⟨v, ps, hrun, hv⟩ := h.lookup mb_law Try.underlying80 (mb_zero w) (plainElem_bool Try.underlying4 false) (mb_key hz)
  rw [(r z).1] at hv
  obtain ⟨x, rfl, hx⟩ := plainElem_bool_inv Try.underlying4 hv
  have : p z = x := by simpa using congrArg Prod.fst hx
  rw [hrun, this]

theorem ne_lit {y z : Int} (h : y ≠ z) : (Lit.int .i64 y) ≠ (Lit.int .i64 z) := fun e => h (by injection e)

theorem mb_isKey (z : Int) : WideAt.IsKeyLit (.int .i64 z) := trivial

theorem MSet.put {D : DataW Unit} (ho : w'.ownsMap Try.prog 3 (plainElem Try.prog 4) b (N + 1) (D.put (.int .i64 z) (.lit (.bool true)))) (hi : Tidy D) (hs : Maps.size D = c) (r : ∀ z : Int, D.atKey (.int .i64 z) (.lit (.bool false)) = .lit (.bool (p z)) ∧ Maps.has D (.int .i64 z) = p z) (hp : p z = false) :
    MSet w' b (N + 1) (fun y => p y || decide (y = z)) (c + 1) := by
  refine ⟨_, ho, ?_, fun y => ?_⟩
  · rw [Maps.size_put hi, (r z).2, hp, hs]; rfl
  · by_cases e : y = z
    · subst e
      exact ⟨by rw [Maps.atKey_put_same hi.isMap (mb_isKey y)]; simp, by rw [Maps.has_put_same hi.isMap (mb_isKey y)]; simp⟩
    · exact ⟨by rw [Maps.atKey_put_other (ne_lit e), (r y).1]; simp [e], by rw [Maps.has_put_other (ne_lit e), (r y).2]; simp [e]⟩

theorem MSet.del {D : DataW Unit} (ho : w'.ownsMap Try.prog 3 (plainElem Try.prog 4) b N (D.del (.int .i64 z))) (hi : Tidy D) (hs : Maps.size D = c) (r : ∀ z : Int, D.atKey (.int .i64 z) (.lit (.bool false)) = .lit (.bool (p z)) ∧ Maps.has D (.int .i64 z) = p z) (hp : p z = true) :
    ∃ c', c' + 1 = c ∧ MSet w' b N (fun y => p y && !decide (y = z)) c' := by
  refine ⟨_, ?_, _, ho, rfl, fun y => ?_⟩
  · have := Maps.size_del (k := .int .i64 z) hi
    rw [(r z).2, hp, hs] at this
    simpa using this
  · by_cases e : y = z
    · subst e
      exact ⟨by rw [Maps.atKey_del_same]; simp, by rw [Maps.has_del_same]; simp⟩
    · exact ⟨by rw [Maps.atKey_del_other (ne_lit e), (r y).1]; simp [e], by rw [Maps.has_del_other (ne_lit e), (r y).2]; simp [e]⟩
end

section
variable (w : World) {ops : Array Oper} {rest : List Oper} {o : Oper} {a : Act} {Q : Exit → Act → World → Prop}

theorem wpl_msLook (hg : o.guard = none) (m x : Operand) (hop : o.op = Op.lookup 80 m x false) {b N c : Nat} {p : Int → Bool} {z : Int} (hs : MSet w b N p c) (hm : a.eval m = .map (some b)) (hx : a.eval x = .int .i64 z) (hz : i64R z) {r : Bool} (hr : p z = r)
    (hK : wpList Try.prog ops Q rest (a.put o.dst (.bool r)) w) : wpList Try.prog ops Q (o :: rest) a w := by
  subst hr
  refine wpList_plain hg fun K' hK' => ?_
  unfold Oper.wp
  simp [execOp, hop, hm, hx, hs.look hz, Result.andThen]
  exact hK' _ _ hK

theorem wpl_msPut (hg : o.guard = none) (m x v : Operand) (hop : o.op = Op.mapUpdate 80 m x v) {b N c : Nat} {p : Int → Bool} {z : Int} (hs : MSet w b N p c) (hm : a.eval m = .map (some b)) (hx : a.eval x = .int .i64 z) (hv : a.eval v = .bool true) (hz : i64R z) (hp : p z = false) (hN : N ≤ 1000)
    (hK : ∀ w', MSet w' b (N + 1) (fun y => p y || decide (y = z)) (c + 1) → w.grownBy w' (some b) → wpList Try.prog ops Q rest (a.put o.dst undef) w') : wpList Try.prog ops Q (o :: rest) a w := by
  obtain ⟨D, ho, hsz, r⟩ := hs
  exact wpList_mapUpdate_own w hg m x v 80 hop 3 4 mb_law Try.underlying80 _ b N D hm ho (by unfold maxLen; omega) _ _ _ hx hv (mb_key hz) _ [] (plainElem_bool Try.underlying4 true) (fun w' h1 h2 => hK w' (MSet.put h1 (ho.tidy mb_law) hsz r hp) h2)

theorem wpl_msDel (hg : o.guard = none) (m x : Operand) (hop : o.op = Op.call { callee := Callee.builtin Builtin.delete, args := #[m, x], argTypes := #[80, 3] }) {b N c : Nat} {p : Int → Bool} {z : Int} (hs : MSet w b N p c) (hm : a.eval m = .map (some b)) (hx : a.eval x = .int .i64 z) (hz : i64R z) (hp : p z = true)
    (hK : ∀ w' c', c' + 1 = c → MSet w' b N (fun y => p y && !decide (y = z)) c' → w.grownBy w' (some b) → wpList Try.prog ops Q rest (a.put o.dst (.tuple #[])) w') : wpList Try.prog ops Q (o :: rest) a w := by
  obtain ⟨D, ho, hsz, r⟩ := hs
  refine wpList_delete_own w hg m x 80 3 hop 4 mb_law Try.underlying80 _ b N D hm ho _ _ hx (mb_key hz) (fun w' h1 h2 => ?_)
  obtain ⟨c', e, h3⟩ := MSet.del h1 (ho.tidy mb_law) hsz r hp
  exact hK w' c' e h3 h2.grown

theorem wpl_msLen (hg : o.guard = none) (m : Operand) (hop : o.op = Op.call { callee := Callee.builtin Builtin.len, args := #[m], argTypes := #[80] }) {b N c : Nat} {p : Int → Bool} (hs : MSet w b N p c) (hm : a.eval m = .map (some b))
    (hK : wpList Try.prog ops Q rest (a.put o.dst (.int .i64 c)) w) : wpList Try.prog ops Q (o :: rest) a w := by
  obtain ⟨D, ho, hsz, r⟩ := hs
  exact wpList_len_own w hg m 80 hop 3 4 Try.underlying80 _ b N D hm ho (by rw [hsz]; exact hK)
end

end Go.Proofs.Ytopmojfcdmcmbaa
