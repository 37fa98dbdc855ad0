/- Contracts of impl.GetNums, spec.l01Get, spec.l01List and spec.GetNums. -/
import Derived.Test.YtdhphfmjekbmjaaGetNum
import Derived.Test.YtdhphfmjekbmjaaGetsMath
import Derived.Test.YtdhphfmjekbmjaaLawInts
namespace Go.Proofs.Ytdhphfmjekbmjaa
open Go.RowKit
set_option linter.unusedVariables false

def numsL (r : Option (List Int × Int)) : List Int := match r with | some (l, _) => l | none => []
def numsP (r : Option (List Int × Int)) : Int := match r with | some (_, p) => p | none => 0

/-- a call that answers a new row of integers, a position and a bool -/
def NewNums (w : World) (l : List Int) (p : Int) (b : Bool) (e : Ending) (w' : World) : Prop :=
  ∃ v, e = .returned (.tuple #[v, .int .i64 p, .bool b]) ∧ OS .i64 3 w' w.heap.size w'.heap.size v l ∧ Below w.heap.size w w'

theorem newNums_none {w w' : World} (hb : Below w.heap.size w w') : NewNums w [] 0 false (.returned (.tuple #[.slice none 0 0, .int .i64 0, .bool false])) w' :=
  ⟨_, rfl, OS.mk_ (World.ownsRow_nil _ _ _ _), hb⟩

/-- the reader's three fields, in their block -/
def Rdr (w : World) (g : Nat) (v : Value) (p : Int) (bad : Bool) : Prop :=
  w.heap[g]? = some (.cells #[v, .int .i64 p, .bool bad] 51 (0, 0))

section
variable {w w' : World} {g : Nat} {v : Value} {p : Int} {bad : Bool}
theorem Rdr.cells (h : Rdr w g v p bad) : w.cell? ⟨g, 0, none⟩ = some v ∧ w.cell? ⟨g, 1, none⟩ = some (.int .i64 p) ∧ w.cell? ⟨g, 2, none⟩ = some (.bool bad) ∧ w.frozen? ⟨g, 1, none⟩ = false ∧ w.frozen? ⟨g, 2, none⟩ = false :=
  ⟨by rw [cell_of_row w g 0 _ _ _ h]; rfl, by rw [cell_of_row w g 1 _ _ _ h]; rfl, by rw [cell_of_row w g 2 _ _ _ h]; rfl, frozen_of_row w g 1 _ _ h, frozen_of_row w g 2 _ _ h⟩
theorem Rdr.drewN (h : Rdr w g v p bad) (n : Nat) : Rdr (w.drewN n) g v p bad := h
theorem Rdr.setBad (h : Rdr w g v p bad) (b : Bool) : Rdr (w.setCell ⟨g, 2, none⟩ (.bool b)) g v p b := heap_setCell_same w g 2 _ _ _ h
theorem Rdr.setAt (h : Rdr w g v p bad) (q : Int) : Rdr (w.setCell ⟨g, 1, none⟩ (.int .i64 q)) g v q bad := heap_setCell_same w g 1 _ _ _ h
theorem Rdr.lt (h : Rdr w g v p bad) : g < w.heap.size := by
  rcases Nat.lt_or_ge g w.heap.size with hlt | hge
  · exact hlt
  · unfold Rdr at h; rw [Array.getElem?_eq_none hge] at h; cases h
theorem Rdr.kept {row : Option Nat} (h : Rdr w g v p bad) (hg : w.grownBy w' row) (hne : some g ≠ row) : Rdr w' g v p bad := (hg.block g h.lt hne).trans h
theorem Rdr.alloc (h : Rdr w g v p bad) (o : Obj) : Rdr (w.alloc o) g v p bad := (Below.heap_alloc w o g h.lt).trans h
end

/-- what a reading of one number leaves: only the reader's block has turned -/
def Read1 (w : World) (g : Nat) (v : Value) (x q : Int) (bad : Bool) (e : Ending) (w' : World) : Prop :=
  e = .returned (.int .i64 x) ∧ Rdr w' g v q bad ∧ w.grownBy w' (some g)

set_option maxHeartbeats 400000 in
theorem sGet_bad (g : Nat) (v : Value) (p : Int) (w : World) (h : Rdr w g v p true) :
    Calls Try.prog 37 #[.pointer (some ⟨g, 0, none⟩)] w (Read1 w g v 0 p true) := by
  obtain ⟨c0, c1, c2, f1, f2⟩ := h.cells
  go_enter Try.func37, Try.ntmps37
  go_wp2
  go_ret
  exact ⟨rfl, h, World.grownBy.refl _ _⟩

set_option maxHeartbeats 1000000 in
theorem sGet_ok (g : Nat) (A : Option Addr) (c : Nat) (zs : List Int) (p x q : Int) (b : Bool) (w : World) (h : Rdr w g (.slice A zs.length c) p false) (hr : Rd .u8 w w.heap.size A zs) (hb : Bytes zs) (hm : zs.length ≤ 16777216)
    (hp1 : -9223372036854775808 ≤ p) (hp2 : p ≤ 9223372036854775807) (HV : Hid (getVal zs p = .tuple #[.int .i64 x, .int .i64 q, .bool b])) :
    Calls Try.prog 37 #[.pointer (some ⟨g, 0, none⟩)] w (Read1 w g (.slice A zs.length c) x q (!b)) := by
  obtain ⟨c0, c1, c2, f1, f2⟩ := h.cells
  have K : ∀ n, Calls Try.prog 38 #[.slice A zs.length c, .int .i64 p] (w.drewN n) fun e w' => e = .returned (.tuple #[.int .i64 x, .int .i64 q, .bool b]) ∧ w' = w.drewN n := fun n => by
    rw [← HV.out]
    exact (sGetNum_any A c zs p (w.drewN n) _ (hr.drewN n) hb (by omega) hp1 hp2).mono fun e w' ⟨he, hw⟩ => ⟨he, hw.symm⟩
  go_enter Try.func37, Try.ntmps37
  go_wp2_with fail
  go_quiet ((go_at_call 38; exact Calls.quiet_of_same (K _)))
  have h1 := (h.drewN nq).setBad (!b)
  obtain ⟨d0, d1, d2, g1, g2⟩ := h1.cells
  have h2 := h1.setAt q
  have hgr : w.grownBy (((w.drewN nq).setCell ⟨g, 2, none⟩ (.bool (!b))).setCell ⟨g, 1, none⟩ (.int .i64 q)) (some g) :=
    grownBy_set (grownBy_set (show w.grownBy (w.drewN nq) (some g) from ⟨rfl, rfl, rfl, Nat.le_refl _, fun _ _ _ => rfl⟩) 2 _) 1 _
  clear h1 K
  go_wp2
  go_ret
  exact ⟨rfl, h2, hgr⟩

/-- what l01List leaves -/
def Listed (w : World) (g : Nat) (v : Value) (r : Option (List Int × Int)) (e : Ending) (w' : World) : Prop :=
  ∃ v2, e = .returned v2 ∧ w.grownBy w' (some g) ∧ match r with
    | none => ∃ q, Rdr w' g v q true
    | some (l, p) => Rdr w' g v p false ∧ Own .i64 w' w.heap.size 3 v2 l

/-- the loop's state: reading goes on, or has failed -/
def Listing (w : World) (g : Nat) (v : Value) (zs : List Int) (N : Nat) (p0 : Int) (i : Nat) (sl : Value) (wr : World) : Prop :=
  w.grownBy wr (some g) ∧ ((∃ (l : List Int) (p : Int), l.length = i ∧ Gets zs N p0 l p ∧ Rdr wr g v p false ∧ Own .i64 wr w.heap.size 3 sl l) ∨ (getMany zs N p0 = none ∧ ∃ q, Rdr wr g v q true))

theorem grown_alloc {w w' : World} {row : Option Nat} (h : w.grownBy w' row) (o : Obj) : w.grownBy (w'.alloc o) row :=
  ⟨h.os, h.tape, h.output, by have := h.size; simp; omega, fun k hk hne => (Below.heap_alloc w' o k (by have := h.size; omega)).trans (h.block k hk hne)⟩

theorem rd_grown {k : IntKind} {w w' : World} {B g : Nat} {A : Option Addr} {zs : List Int} (h : Rd k w B A zs) (hg : w.grownBy w' (some g)) (hB : B ≤ w.heap.size) (hBg : B ≤ g) : Rd k w' B A zs :=
  h.keep fun p hp => World.cell?_of_block (hg.block p.block (by omega) (fun e => by simp at e; omega))

theorem grown_two {a b c : World} {g : Nat} {row : Option Nat} (h : a.grownBy b (some g)) (k : b.grownBy c row) (hr : ∀ j, row = some j → a.heap.size ≤ j ∨ j = g) : a.grownBy c (some g) :=
  ⟨k.os.trans h.os, k.tape.trans h.tape, k.output.trans h.output, Nat.le_trans h.size k.size, fun i hi hne =>
    (k.block i (by have := h.size; omega) (fun e => by rcases hr i e.symm with h1 | h1
                                                       · omega
                                                       · exact hne (by rw [h1]))).trans (h.block i hi hne)⟩

theorem getMany_len {zs : List Int} {k : Nat} {p0 p : Int} {l : List Int} (h : getMany zs k p0 = some (l, p)) (h0 : 0 ≤ p0) : (l.length : Int) ≤ zs.length ∨ l = [] := by
  have : ∀ (k : Nat) (p0 p : Int) (l : List Int), getMany zs k p0 = some (l, p) → 0 ≤ p0 → l = [] ∨ p0 + (l.length : Int) ≤ zs.length := by
    intro k
    induction k with
    | zero =>
      intro p0 p l h _
      simp [getMany] at h
      exact .inl h.1
    | succ k ih =>
      intro p0 p l h h0
      unfold getMany at h
      rcases hg : getNum zs p0 with _ | ⟨n, c⟩
      · rw [hg] at h; cases h
      · rw [hg] at h
        have hs := getNum_some hg
        rcases hr : getMany zs k (p0 + c) with _ | ⟨l', p'⟩
        · simp [hr] at h
        · simp [hr] at h
          obtain ⟨rfl, rfl⟩ := h
          rcases ih _ _ _ hr (by omega) with rfl | h2
          · right; simp; omega
          · right; simp; omega
  rcases this k p0 p l h h0 with h1 | h1
  · exact .inr h1
  · exact .inl (by omega)

theorem nums_len (zs : List Int) (a most : Int) : (numsL (getNums zs a most)).length ≤ zs.length := by
  rcases h : getNums zs a most with _ | ⟨l, p⟩
  · simp [numsL]
  · unfold getNums at h
    rcases hg : getNum zs a with _ | ⟨n, c⟩
    · rw [hg] at h; cases h
    · rw [hg] at h
      have hs := getNum_some hg
      dsimp only at h
      split at h
      · cases h
      · rcases getMany_len h (by omega) with h2 | h2
        · simp [numsL]; omega
        · simp [numsL, h2]

end Go.Proofs.Ytdhphfmjekbmjaa
