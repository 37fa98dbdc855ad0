/- append as one step of a region that draws its order: onto a row of the call's own, whatever the source. No program is named here. -/
import Derived.Test.YtopmojfcdmcmbaaLaw
import Derived.Deep.RegionLaw
namespace Go.Proofs.Ytopmojfcdmcmbaa
open Go.RowKit
set_option linter.unusedVariables false

theorem step_appI {P : Program} {ops : Array Oper} {o : Oper} {a : Act} {w : World} {K : Act → World → Prop} {Q : Exit → Act → World → Prop} {E : Prop} (k : IntKind) (hgd : o.guard = none) (s x : Operand) (t : TypeId)
    (ho : o.op = .call { callee := .builtin .append, args := #[s, x], argTypes := #[t, t] })
    (base : Nat) (e : TypeId) (i : TypeInfo) (bytes : Nat) (ht : P.underlying t = some (.slice e)) (hi : P.info? e = some i) (hz : i.zero = some (.int k 0))
    (hsize : i.size = 1) (hby : i.bytes = bytes) (v : Value) (xs : List Int) (hs : a.eval s = v) (hown : Own k w base e v xs)
    (B : Nat) (A : Option Addr) (c m : Nat) (ys : List Int) (hx : a.eval x = .slice A m c) (hm : ys.length = m) (hr : Rd k w B A ys)
    (hmax : xs.length + m ≤ 1099511627776) (hbyt : bytes ≤ 64) (hbase : base ≤ w.heap.size)
    (h : ∀ v' w', Own k w' base e v' (xs ++ ys) → w.grownBy w' v.ownBlock → (v'.ownBlock = v.ownBlock ∨ v'.ownBlock = some w.heap.size) → K (a.put o.dst v') w') :
    if Region.wanted o (yielded ops a.tmps) = true then Oper.wp P o a w K Q else E := by
  have hw : Region.wanted o (yielded ops a.tmps) = true := by simp [Region.wanted, hgd]
  rw [if_pos hw]
  subst hm
  obtain ⟨v', w', hrun, h2, h3, h4⟩ := run_app (P := P) w base t o.type e i (.int k 0) bytes ht hi hz hsize hby rfl v xs.length (xs.map (Value.int k)) hown B A c (ys.map (Value.int k)) hr.toV
    (fun u hu => by obtain ⟨n, _, rfl⟩ := List.mem_map.1 hu; rfl) (by simpa using hmax) hbyt hbase
  rw [List.length_map] at hrun h2
  unfold Oper.wp execOp
  simp only [ho, resolve, invoke, builtin, Sem.run_bind, Sem.run_pure, Result.andThen_ok, List.map_toArray, List.map_cons, List.map_nil, hs, hx, hrun]
  exact h v' w' (by unfold Own; rw [List.length_append, List.map_append]; simpa using h2) h3 h4

/-- where the row lies behind an append: where it lay, or in a new block -/
theorem app_own {k : IntKind} {e : TypeId} {X w' : World} {lo hi : Nat} {v v' : Value} {xs zs : List Int} (h : OS k e X lo hi v xs) (ho : Own k w' lo e v' zs) (hg : X.grownBy w' v.ownBlock) (hat : v'.ownBlock = v.ownBlock ∨ v'.ownBlock = some X.heap.size) :
    OS k e w' lo hi v' zs ∨ OS k e w' X.heap.size w'.heap.size v' zs := by
  have hs := hg.size
  rcases hat with hat | hat
  · exact .inl ⟨ho, fun j hj => h.2.1 j (hat ▸ hj), Nat.le_trans h.2.2 hs⟩
  · refine .inr ⟨⟨ho.1, ?_⟩, fun j hj => (ho.at_ j hj).2, Nat.le_refl _⟩
    rcases ho.2 with h2 | ⟨g, cap, cur, hv, hb, r⟩
    · exact .inl h2
    · refine .inr ⟨g, cap, cur, hv, ?_, r⟩
      rw [hv] at hat
      have : g = X.heap.size := by simpa [Value.ownBlock] using hat
      omega

end Go.Proofs.Ytopmojfcdmcmbaa
