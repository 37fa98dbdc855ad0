/- Records loaded and stored whole, as one step of a plain region. -/
import Derived.Test.YtkbhbccpmmhelaaRecEq
import Derived.StillTailTactics
import Derived.Deep.RegionHeld3
namespace Go.Proofs.Ytkbhbccpmmhelaa
open Go.RowKit
set_option linter.unusedVariables false

theorem setRow_chg9 {w : World} {b : Nat} {cs : Array Value} : Chg b (b + 1) w (w.setRow b cs) := ⟨rfl, rfl, rfl, by simp [World.setRow], fun k hk hd => setRow_other w b k cs (by omega)⟩
theorem setRow_size9 (w : World) (b : Nat) (cs : Array Value) : (w.setRow b cs).heap.size = w.heap.size := by simp [World.setRow]
def ints9 (zs : List Int) : List Value := zs.map (Value.int .i64)
theorem ints9_one (zs : List Int) : (ints9 zs).toArray.all (·.oneCell') = true := by
  rw [Array.all_eq_true_iff_forall_mem]
  intro v hv
  have hv : v ∈ ints9 zs := by simpa using hv
  obtain ⟨z, -, rfl⟩ := List.mem_map.1 hv
  rfl
section
variable {w : World} {b : Nat} {t : TypeId}
theorem wpl_rload {ops : Array Oper} {rest : List Oper} {o : Oper} {a : Act} {Q : Exit → Act → World → Prop} {x : Operand} {cs : List Value} (h : Vr w b t cs) (hl : cs.length = 9) (ho : o.op = .load 29 x) (hx : a.eval x = .pointer (some ⟨b, 0, none⟩)) (hw : Region.wanted o (yielded ops a.tmps) = true)
    (hq : wpList Try.prog ops Q rest (a.put o.dst (.agg cs.toArray)) w) : wpList Try.prog ops Q (o :: rest) a w :=
  wpList_step fun K hK => by
    rw [if_pos hw]
    exact wp_load_row _ x ho b hx t cs.toArray (0, 0) _ h rec_fields rfl (by rw [sz_rec]; simp [hl]) (hK _ _ hq)
theorem wpl_rstore {ops : Array Oper} {rest : List Oper} {o : Oper} {a : Act} {Q : Exit → Act → World → Prop} {x y : Operand} {old : List Value} {zs : List Int} (h : Vr w b t old) (hl : old.length = 9) (hc : zs.length = 9)
    (ho : o.op = .store 29 x y) (hx : a.eval x = .pointer (some ⟨b, 0, none⟩)) (hy : a.eval y = .agg (ints9 zs).toArray) (hw : Region.wanted o (yielded ops a.tmps) = true)
    (hq : ∀ w', Vr w' b t (ints9 zs) → Chg b (b + 1) w w' → (w'.heap.size ≤ w.heap.size ∧ w.heap.size ≤ w'.heap.size) → wpList Try.prog ops Q rest (a.put o.dst undef) w') : wpList Try.prog ops Q (o :: rest) a w :=
  wpList_step fun K hK => by
    rw [if_pos hw]
    have hlen : (ints9 zs).length = 9 := by unfold ints9; rw [List.length_map, hc]
    refine wp_store_row _ x y ho b (ints9 zs).toArray hx hy t old.toArray h (by rw [sz_rec]; simp [hlen]) (by simp [hl, hlen]) (ints9_one zs) (hK _ _ (hq _ ?_ setRow_chg9 ?_))
    · unfold Vr at h ⊢; exact setRow_heap w b _ _ t _ h
    · rw [setRow_size9]; omega
end

end Go.Proofs.Ytkbhbccpmmhelaa
