/- Votes: three acceptors in one row of nine cells (accs in FnVote). -/
import Derived.Test.YtaoedgcdcimibaaVoteMath
import Derived.OwnWalk
namespace Go.Proofs.Ytaoedgcdcimibaa
open Go.RowKit
set_option linter.unusedVariables false

def accCells (acc : Nat → MAcc) : List Value := [.int .i64 (acc 0).Prom, .int .i64 (acc 0).Bal, .int .i64 (acc 0).Val, .int .i64 (acc 1).Prom, .int .i64 (acc 1).Bal, .int .i64 (acc 1).Val, .int .i64 (acc 2).Prom, .int .i64 (acc 2).Bal, .int .i64 (acc 2).Val]
section
variable {w : World} {b i : Nat} {t : TypeId} {acc : Nat → MAcc}
theorem Vr.ac0 (h : Vr w b t (accCells acc)) (hi : i < 3) : w.cell? ⟨b, i * 3, none⟩ = some (.int .i64 (acc i).Prom) := by
  rcases i with _ | _ | _ | i <;> first | exact h.cell rfl | omega
theorem Vr.ac1 (h : Vr w b t (accCells acc)) (hi : i < 3) : w.cell? ⟨b, i * 3 + 1, none⟩ = some (.int .i64 (acc i).Bal) := by
  rcases i with _ | _ | _ | i <;> first | exact h.cell rfl | omega
theorem Vr.ac2 (h : Vr w b t (accCells acc)) (hi : i < 3) : w.cell? ⟨b, i * 3 + 2, none⟩ = some (.int .i64 (acc i).Val) := by
  rcases i with _ | _ | _ | i <;> first | exact h.cell rfl | omega
theorem acc_set (acc : Nat → MAcc) (hi : i < 3) (a : MAcc) : (((accCells acc).set (i * 3) (.int .i64 a.Prom)).set (i * 3 + 1) (.int .i64 a.Bal)).set (i * 3 + 2) (.int .i64 a.Val) = accCells (upd acc i a) := by
  rcases i with _ | _ | _ | i <;> first | rfl | omega
theorem acc_store (h : Vr w b t (accCells acc)) (hi : i < 3) (a : MAcc) :
    ∃ w', ((w.setCell ⟨b, i * 3, none⟩ (.int .i64 a.Prom)).setCell ⟨b, i * 3 + 1, none⟩ (.int .i64 a.Bal)).setCell ⟨b, i * 3 + 2, none⟩ (.int .i64 a.Val) = w' ∧ (w'.heap.size ≤ w.heap.size ∧ w.heap.size ≤ w'.heap.size) ∧ Chg b (b + 1) w w' ∧ Vr w' b t (accCells (upd acc i a)) := by
  obtain ⟨w1, rfl, s1, c1, v1⟩ := set_step h (i * 3) (.int .i64 a.Prom)
  obtain ⟨w2, rfl, s2, c2, v2⟩ := set_step v1 (i * 3 + 1) (.int .i64 a.Bal)
  obtain ⟨w3, rfl, s3, c3, v3⟩ := set_step v2 (i * 3 + 2) (.int .i64 a.Val)
  rw [acc_set acc hi a] at v3
  exact ⟨_, rfl, by omega, (c1.then_same c2).then_same c3, v3⟩
/-- what make lays -/
theorem acc_made {w0 : World} {base : Nat} (h : w.ownsRow base t 3 (.slice (some ⟨w0.heap.size, 0, none⟩) 3 3) 3 (madeCells (Value.agg #[.int .i64 0, .int .i64 0, .int .i64 0]).cells (3 * 3)).toList) : Vr w w0.heap.size t (accCells fun _ => accZ) := by
  rcases h.2 with ⟨h1, h0⟩ | ⟨g, cap, cur, h1, hb, hg, hn, hc, hs, ht⟩
  · omega
  · simp only [Value.slice.injEq, Option.some.injEq, Addr.mk.injEq] at h1
    obtain ⟨⟨rfl, -⟩, -, rfl⟩ := h1
    unfold Vr
    rw [hg]
    rw [List.take_of_length_le (by simp [hs])] at ht
    congr 2
    apply Array.ext'
    rw [ht]
    simp [madeCells, Value.cells, accCells, accZ, List.range, List.range.loop]
end
/-- owned, and apart from the blocks 'av' -/
def OVa {α : Type} (L : Lay α) (w : World) (av : List Nat) (v : Value) (x : α) : Prop := ∃ cs S, v = valOf cs ∧ L.own w S cs x ∧ ∀ j ∈ S, j ∉ av
section
variable {α : Type} {L : Lay α} {w w' : World} {av av' : List Nat} {v : Value} {x : α} {b lo hi : Nat}
theorem OVa.rd (h : OVa L w av v x) : RV L w v x := by
  obtain ⟨cs, S, rfl, ho, _⟩ := h
  exact ⟨cs, rfl, L.own_rd ho⟩
theorem OVa.below (h : OVa L w av v x) (hb : Below w.heap.size w w') : OVa L w' av v x := by
  obtain ⟨cs, S, rfl, ho, hS⟩ := h
  exact ⟨cs, S, rfl, L.own_below ho hb, hS⟩
theorem OVa.chg (h : OVa L w av v x) (hc : Chg b (b + 1) w w') (hb : b ∈ av) : OVa L w' av v x := by
  obtain ⟨cs, S, rfl, ho, hS⟩ := h
  exact ⟨cs, S, rfl, L.own_keep ho fun j hj => hc.block j (L.own_lt ho j hj) (by have : j ≠ b := fun e => hS j hj (e ▸ hb); omega), hS⟩
theorem OVa.more (h : OVa L w av v x) (hb : w.heap.size ≤ b) : OVa L w (b :: av) v x := by
  obtain ⟨cs, S, rfl, ho, hS⟩ := h
  refine ⟨cs, S, rfl, ho, fun j hj hm => ?_⟩
  rcases List.mem_cons.1 hm with e | e
  · have := L.own_lt ho j hj; omega
  · exact hS j hj e
theorem OVa.less (h : OVa L w av v x) (hs : ∀ j ∈ av', j ∈ av) : OVa L w av' v x := by
  obtain ⟨cs, S, rfl, ho, hS⟩ := h
  exact ⟨cs, S, rfl, ho, fun j hj hm => hS j hj (hs j hm)⟩
theorem OV.away (h : OV L w lo hi v x) (hd : ∀ j ∈ av, j < lo ∨ hi ≤ j) : OVa L w av v x := by
  obtain ⟨cs, S, rfl, ho, _, hS, _⟩ := h
  exact ⟨cs, S, rfl, ho, fun j hj hm => by have h1 := hS j hj; have h2 := hd j hm; omega⟩
end

end Go.Proofs.Ytaoedgcdcimibaa
