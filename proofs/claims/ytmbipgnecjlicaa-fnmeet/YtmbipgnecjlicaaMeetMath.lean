/- Rights: plain mathematics of Meet: the element-wise maximum, reached element by element. -/
import Derived.Test.YtmbipgnecjlicaaRt7
namespace Go.Proofs.Ytmbipgnecjlicaa
open Go.RowKit
set_option linter.unusedVariables false

theorem getD_set2 {α : Type} (l : List α) (k i : Nat) (x d : α) (hk : k < l.length) : (l.set k x).getD i d = if i = k then x else l.getD i d := by
  by_cases h : i = k
  · rw [if_pos h, h, List.getD_eq_getElem?_getD, List.getElem?_set_self hk]; rfl
  · rw [if_neg h, List.getD_eq_getElem?_getD, List.getD_eq_getElem?_getD, List.getElem?_set_ne (Ne.symm h)]
theorem g2_set {G : List (List Int)} {k j : Nat} {R : List Int} {x : Int} (hR : G[k]? = some R) (hj : j < R.length) (i m : Nat) : g2 (G.set k (R.set j x)) i m = if i = k ∧ m = j then x else g2 G i m := by
  unfold g2
  rw [getD_set2 G k i (R.set j x) [] (getElem?_lt hR)]
  by_cases hi : i = k
  · rw [if_pos hi, getD_set2 R j m x 0 hj]
    have e : G.getD k [] = R := by rw [List.getD_eq_getElem?_getD, hR]; rfl
    by_cases hm : m = j
    · rw [if_pos hm, if_pos ⟨hi, hm⟩]
    · rw [if_neg hm, if_neg (fun c => hm c.2), hi, e]
  · rw [if_neg hi, if_neg (fun c => hi c.1)]
/-- n rows of n, n spent -/
def Shp (n : Nat) (D : MRights) : Prop := D.Give.length = n ∧ D.Spent.length = n ∧ ∀ (i : Nat) (R : List Int), D.Give[i]? = some R → R.length = n
theorem form_shp {r : MRights} (h : formB r = true) : Shp r.Give.length r := by
  obtain ⟨p1, p2, -⟩ := form_parts h
  exact ⟨rfl, by omega, fun i R hR => by have := (form_row h hR).1; omega⟩
theorem Shp.setG {n k j : Nat} {D : MRights} {R : List Int} {x : Int} (h : Shp n D) (hR : D.Give[k]? = some R) : Shp n ⟨D.Give.set k (R.set j x), D.Spent⟩ := by
  refine ⟨by rw [← h.1]; simp, h.2.1, fun i Q hQ => ?_⟩
  by_cases e : i = k
  · subst e
    rw [List.getElem?_set_self (getElem?_lt hR)] at hQ
    obtain rfl : R.set j x = Q := by simpa using hQ
    rw [List.length_set]; exact h.2.2 i R hR
  · rw [List.getElem?_set_ne (Ne.symm e)] at hQ
    exact h.2.2 i Q hQ
theorem Shp.setS {n k : Nat} {D : MRights} {x : Int} (h : Shp n D) : Shp n ⟨D.Give, D.Spent.set k x⟩ := ⟨h.1, by rw [← h.2.1]; simp, h.2.2⟩
theorem list_ext_getD {l m : List Int} {n : Nat} (hl : l.length = n) (hm : m.length = n) (h : ∀ i, i < n → l.getD i 0 = m.getD i 0) : l = m := by
  refine List.ext_getElem (by omega) fun i h1 h2 => ?_
  have := h i (by omega)
  rwa [List.getD_eq_getElem?_getD, List.getD_eq_getElem?_getD, List.getElem?_eq_getElem h1, List.getElem?_eq_getElem h2] at this
theorem mat_ext {n : Nat} {D E : MRights} (hD : Shp n D) (hE : Shp n E) (hg : ∀ i m, i < n → m < n → g2 D.Give i m = g2 E.Give i m) (hs : ∀ i, i < n → s1 D.Spent i = s1 E.Spent i) : D = E := by
  obtain ⟨G, S⟩ := D
  obtain ⟨G', S'⟩ := E
  have e2 : S = S' := list_ext_getD hD.2.1 hE.2.1 hs
  have hG : G.length = n := hD.1
  have hG' : G'.length = n := hE.1
  have e1 : G = G' := by
    refine List.ext_getElem (by omega) fun i h1 h2 => ?_
    have r1 := List.getElem?_eq_getElem h1
    have r2 := List.getElem?_eq_getElem h2
    refine list_ext_getD (hD.2.2 i _ r1) (hE.2.2 i _ r2) fun m hm => ?_
    have := hg i m (by omega) hm
    rwa [g2_of r1, g2_of r2] at this
  rw [e1, e2]
/-- the element-wise maximum -/
def meetR (r q : MRights) : MRights := ⟨(List.range r.Give.length).map fun i => (List.range r.Give.length).map fun j => mx (g2 r.Give i j) (g2 q.Give i j), (List.range r.Give.length).map fun i => mx (s1 r.Spent i) (s1 q.Spent i)⟩
theorem meetR_shp (r q : MRights) : Shp r.Give.length (meetR r q) := by
  refine ⟨by simp [meetR], by simp [meetR], fun i R hR => ?_⟩
  simp only [meetR, List.getElem?_map, Option.map_eq_some_iff] at hR
  obtain ⟨j, _, rfl⟩ := hR
  simp
theorem getD_map_range {n i : Nat} (f : Nat → Int) (h : i < n) : ((List.range n).map f).getD i 0 = f i := by
  rw [List.getD_eq_getElem?_getD, List.getElem?_map, List.getElem?_range h]; rfl
theorem meetR_g2 (r q : MRights) {i j : Nat} (hi : i < r.Give.length) (hj : j < r.Give.length) : g2 (meetR r q).Give i j = mx (g2 r.Give i j) (g2 q.Give i j) := by
  have e : (meetR r q).Give[i]? = some ((List.range r.Give.length).map fun j => mx (g2 r.Give i j) (g2 q.Give i j)) := by
    simp only [meetR, List.getElem?_map, List.getElem?_range hi]; rfl
  rw [g2_of e, getD_map_range _ hj]
theorem meetR_s1 (r q : MRights) {i : Nat} (hi : i < r.Give.length) : s1 (meetR r q).Spent i = mx (s1 r.Spent i) (s1 q.Spent i) := getD_map_range (fun i => mx (s1 r.Spent i) (s1 q.Spent i)) hi
/-- what stands when the rows below k are done, and of row k the columns below j; of what was spent the first ks -/
def MeetAt (r q D : MRights) (k j ks : Nat) : Prop := Shp r.Give.length D ∧
  (∀ i m, i < r.Give.length → m < r.Give.length → g2 D.Give i m = if i < k ∨ (i = k ∧ m < j) then mx (g2 r.Give i m) (g2 q.Give i m) else g2 r.Give i m) ∧
  ∀ i, i < r.Give.length → s1 D.Spent i = if i < ks then mx (s1 r.Spent i) (s1 q.Spent i) else s1 r.Spent i
theorem MeetAt.start {r q : MRights} (h : Shp r.Give.length r) : MeetAt r q r 0 0 0 :=
  ⟨h, fun i m _ _ => by rw [if_neg (by omega)], fun i _ => by rw [if_neg (by omega)]⟩
theorem MeetAt.spent {r q D : MRights} {k : Nat} (h : MeetAt r q D k 0 k) (hk : k < r.Give.length) : MeetAt r q ⟨D.Give, D.Spent.set k (mx (D.Spent.getD k 0) (s1 q.Spent k))⟩ k 0 (k + 1) := by
  refine ⟨h.1.setS, h.2.1, fun i hi => ?_⟩
  have hl := h.1.2.1
  show (D.Spent.set k _).getD i 0 = _
  rw [getD_set2 _ _ _ _ _ (by omega)]
  by_cases e : i = k
  · subst e
    have h2 := h.2.2 i hi
    rw [if_neg (by omega)] at h2
    rw [if_pos rfl, if_pos (by omega)]
    show mx (s1 D.Spent i) _ = _
    rw [h2]
  · have h2 := h.2.2 i hi
    rw [if_neg e]
    show s1 D.Spent i = _
    rw [h2]
    by_cases c : i < k
    · rw [if_pos c, if_pos (by omega)]
    · rw [if_neg c, if_neg (by omega)]
theorem MeetAt.give {r q D : MRights} {k j ks : Nat} {R : List Int} (h : MeetAt r q D k j ks) (hR : D.Give[k]? = some R) (hk : k < r.Give.length) (hj : j < r.Give.length) : MeetAt r q ⟨D.Give.set k (R.set j (mx (R.getD j 0) (g2 q.Give k j))), D.Spent⟩ k (j + 1) ks := by
  have hl := h.1.2.2 k R hR
  refine ⟨h.1.setG hR, fun i m hi hm => ?_, h.2.2⟩
  show g2 (D.Give.set k _) i m = _
  rw [g2_set hR (by omega)]
  have h2 := h.2.1 i m hi hm
  by_cases e : i = k ∧ m = j
  · obtain ⟨rfl, rfl⟩ := e
    rw [if_neg (by omega), g2_of hR] at h2
    rw [if_pos ⟨rfl, rfl⟩, if_pos (by omega), h2]
  · rw [if_neg e, h2]
    by_cases c : i < k ∨ (i = k ∧ m < j)
    · rw [if_pos c, if_pos (by omega)]
    · rw [if_neg c, if_neg (by omega)]
theorem MeetAt.row {r q D : MRights} {k ks : Nat} (h : MeetAt r q D k r.Give.length ks) : MeetAt r q D (k + 1) 0 ks := by
  refine ⟨h.1, fun i m hi hm => ?_, h.2.2⟩
  rw [h.2.1 i m hi hm]
  by_cases c : i < k ∨ (i = k ∧ m < r.Give.length)
  · rw [if_pos c, if_pos (by omega)]
  · rw [if_neg c, if_neg (by omega)]
theorem MeetAt.end_ {r q D : MRights} (h : MeetAt r q D r.Give.length 0 r.Give.length) : D = meetR r q :=
  mat_ext h.1 (meetR_shp r q) (fun i m hi hm => by rw [h.2.1 i m hi hm, if_pos (.inl hi), meetR_g2 r q hi hm]) (fun i hi => by rw [h.2.2 i hi, if_pos hi, meetR_s1 r q hi])
def meetB (r q : MRights) : Bool := (rightsOkB r && (rightsOkB q && decide (r.Give.length = q.Give.length))) && rightsOkB (meetR r q)
def meetM (r q : MRights) : MRights := if meetB r q = true then meetR r q else rZ

theorem OV.setG2 {w : World} {lo hi i j g n cg : Nat} {u2 : Value} {D : MRights} {R : List Int} (h : OV rightsL w lo hi (.agg #[.slice (some ⟨g, 0, none⟩) n cg, u2]) D) (hR : D.Give[i]? = some R) (hj : j < R.length) :
    ∃ b c, w.cell? ⟨g, i, none⟩ = some (.slice (some ⟨b, 0, none⟩) R.length c) ∧ w.cell? ⟨b, j, none⟩ = some (.int .i64 (R.getD j 0)) ∧ w.frozen? ⟨b, j, none⟩ = false ∧ (lo ≤ b ∧ b < hi) ∧
      ∀ x, OV rightsL (w.setCell ⟨b, j, none⟩ (.int .i64 x)) lo hi (.agg #[.slice (some ⟨g, 0, none⟩) n cg, u2]) ⟨D.Give.set i (R.set j x), D.Spent⟩ := by
  obtain ⟨g', cG, u2', b, c, he, k1, k2, k3, kb, hput⟩ := h.setG hR hj
  simp only [Value.agg.injEq, Array.mk.injEq, List.cons.injEq, Value.slice.injEq, Option.some.injEq, Addr.mk.injEq, and_true] at he
  obtain ⟨⟨rfl, rfl, rfl⟩, rfl⟩ := he
  exact ⟨b, c, k1, k2, k3, kb, hput⟩
theorem OV.setS2 {w : World} {lo hi i b n c : Nat} {u1 : Value} {D : MRights} (h : OV rightsL w lo hi (.agg #[u1, .slice (some ⟨b, 0, none⟩) n c]) D) (hj : i < D.Spent.length) :
    w.cell? ⟨b, i, none⟩ = some (.int .i64 (D.Spent.getD i 0)) ∧ w.frozen? ⟨b, i, none⟩ = false ∧ (lo ≤ b ∧ b < hi) ∧
      ∀ x, OV rightsL (w.setCell ⟨b, i, none⟩ (.int .i64 x)) lo hi (.agg #[u1, .slice (some ⟨b, 0, none⟩) n c]) ⟨D.Give, D.Spent.set i x⟩ := by
  obtain ⟨u1', b', c', he, k2, k3, kb, hput⟩ := h.setS hj
  simp only [Value.agg.injEq, Array.mk.injEq, List.cons.injEq, Value.slice.injEq, Option.some.injEq, Addr.mk.injEq, and_true] at he
  obtain ⟨rfl, rfl, rfl, rfl⟩ := he
  exact ⟨k2, k3, kb, hput⟩
theorem ov_rights_some {w : World} {lo hi : Nat} {v : Value} {r : MRights} (h : OV rightsL w lo hi v r) (h1 : 0 < r.Give.length) (h2 : 0 < r.Spent.length) : ∃ g cg b cb, v = .agg #[.slice (some ⟨g, 0, none⟩) r.Give.length cg, .slice (some ⟨b, 0, none⟩) r.Spent.length cb] := by
  obtain ⟨u1, u2, S1, S2, rfl, a1, a2, -⟩ := ov_rights_open h
  obtain ⟨b, c, rfl, -, -⟩ := own_some a2 h2
  obtain ⟨cf, sf, hrow, -⟩ := a1
  rcases hrow.2 with ⟨_, h0⟩ | ⟨g, cap, cur, rfl, _⟩
  · omega
  · exact ⟨g, cap, b, c, rfl⟩

end Go.Proofs.Ytmbipgnecjlicaa
