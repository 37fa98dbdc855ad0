/- Rights that a few steps have made: valid, of n nodes, all elements small. -/
import Derived.Test.YtmbipgnecjlicaaRtMath
namespace Go.Proofs.Ytmbipgnecjlicaa
open Go.RowKit
set_option linter.unusedVariables false

def SmallR (c n : Nat) (R : MRights) : Prop := rightsOkB R = true ∧ R.Give.length = n ∧ (∀ i j, g2 R.Give i j ≤ 50 * (c : Int)) ∧ ∀ i, s1 R.Spent i ≤ 50 * (c : Int)
theorem SmallR.more {c d n : Nat} {R : MRights} (h : SmallR c n R) (hd : c ≤ d) : SmallR d n R :=
  ⟨h.1, h.2.1, fun i j => by have := h.2.2.1 i j; omega, fun i => by have := h.2.2.2 i; omega⟩
theorem g2_addG {R : MRights} {i j : Nat} {a : Int} (hf : formB R = true) (hi : i < R.Give.length) (hj : j < R.Give.length) (k m : Nat) : g2 (addG R i j a).Give k m = if k = i ∧ m = j then g2 R.Give i j + a else g2 R.Give k m := by
  have hR := List.getElem?_eq_getElem hi
  have hl := (form_row hf hR).1
  have e : R.Give.getD i [] = R.Give[i] := by rw [List.getD_eq_getElem?_getD, hR]; rfl
  unfold addG setG
  show g2 (R.Give.set i _) k m = _
  rw [e, g2_set hR (by omega)]
theorem s1_addG {R : MRights} {i j : Nat} {a : Int} (k : Nat) : s1 (addG R i j a).Spent k = s1 R.Spent k := rfl
theorem s1_addS {R : MRights} {i : Nat} {a : Int} (hi : i < R.Spent.length) (k : Nat) : s1 (addS R i a).Spent k = if k = i then s1 R.Spent i + a else s1 R.Spent k := by
  unfold addS setS s1
  show (R.Spent.set i _).getD k 0 = _
  rw [getD_set2 _ _ _ _ _ hi]
theorem len_addG {R : MRights} {i j : Nat} {a : Int} : (addG R i j a).Give.length = R.Give.length := by unfold addG setG; simp
theorem mint_out {R : MRights} {i a : Int} (h : mintB R i a = true) : mayB R i a = true ∧ rightsOkB (addG R i.toNat i.toNat a) = true ∧ mintM R i a = addG R i.toNat i.toNat a := by
  have h' := h
  unfold mintB at h
  simp only [Bool.and_eq_true] at h
  exact ⟨h.1, h.2, if_pos h'⟩
theorem spend_out {R : MRights} {i a : Int} (h : spendB R i a = true) : mayB R i a = true ∧ rightsOkB (addS R i.toNat a) = true ∧ spendM R i a = addS R i.toNat a := by
  have h' := h
  unfold spendB at h
  simp only [Bool.and_eq_true] at h
  exact ⟨h.1, h.2, if_pos h'⟩
theorem hand_out {R : MRights} {i j a : Int} (h : handB R i j a = true) : mayB R i a = true ∧ mayB R j a = true ∧ i ≠ j ∧ rightsOkB (addG R i.toNat j.toNat a) = true ∧ handM R i j a = addG R i.toNat j.toNat a := by
  have h' := h
  unfold handB at h
  simp only [Bool.and_eq_true, Bool.not_eq_true', decide_eq_false_iff_not] at h
  exact ⟨h.1.1, h.1.2.1, h.1.2.2, h.2, if_pos h'⟩
theorem SmallR.mint {c n : Nat} {R : MRights} {i a : Int} (h : SmallR c n R) (hb : mintB R i a = true) (ha : a ≤ 50) : SmallR (c + 1) n (mintM R i a) := by
  obtain ⟨h1, h2, h3⟩ := mint_out hb
  obtain ⟨p1, p2, p3⟩ := may_parts h1
  have hi : i.toNat < R.Give.length := by omega
  rw [h3]
  refine ⟨h2, by rw [len_addG]; exact h.2.1, fun k m => ?_, fun k => ?_⟩
  · rw [g2_addG (ok_form p1) hi hi]
    have q1 := h.2.2.1 i.toNat i.toNat
    have q2 := h.2.2.1 k m
    split <;> omega
  · have q := h.2.2.2 k
    rw [s1_addG]; omega
theorem SmallR.spend {c n : Nat} {R : MRights} {i a : Int} (h : SmallR c n R) (hb : spendB R i a = true) (ha : a ≤ 50) : SmallR (c + 1) n (spendM R i a) := by
  obtain ⟨h1, h2, h3⟩ := spend_out hb
  obtain ⟨p1, p2, p3⟩ := may_parts h1
  have q := (form_parts (ok_form p1)).2.1
  rw [h3]
  refine ⟨h2, h.2.1, fun k m => ?_, fun k => ?_⟩
  · have q2 := h.2.2.1 k m
    show g2 R.Give k m ≤ _
    omega
  · have q1 := h.2.2.2 i.toNat
    have q2 := h.2.2.2 k
    rw [s1_addS (by omega)]
    split <;> omega
theorem SmallR.hand {c n : Nat} {R : MRights} {i j a : Int} (h : SmallR c n R) (hb : handB R i j a = true) (ha : a ≤ 50) : SmallR (c + 1) n (handM R i j a) := by
  obtain ⟨h1, h2, -, h4, h5⟩ := hand_out hb
  obtain ⟨p1, p2, p3⟩ := may_parts h1
  obtain ⟨-, p4, -⟩ := may_parts h2
  rw [h5]
  refine ⟨h4, by rw [len_addG]; exact h.2.1, fun k m => ?_, fun k => ?_⟩
  · rw [g2_addG (ok_form p1) (by omega) (by omega)]
    have q1 := h.2.2.1 i.toNat j.toNat
    have q2 := h.2.2.1 k m
    split <;> omega
  · have q := h.2.2.2 k
    rw [s1_addG]; omega
theorem getD_replicate_le {n i : Nat} : (List.replicate n (0 : Int)).getD i 0 = 0 := by
  rw [List.getD_eq_getElem?_getD]
  by_cases h : i < n
  · rw [List.getElem?_replicate, if_pos h]; rfl
  · rw [List.getElem?_replicate, if_neg h]; rfl
theorem new_g2 {n i j : Nat} : g2 (List.replicate n (List.replicate n (0 : Int))) i j = 0 := by
  unfold g2
  by_cases h : i < n
  · have e : (List.replicate n (List.replicate n (0 : Int))).getD i [] = List.replicate n 0 := by rw [List.getD_eq_getElem?_getD, List.getElem?_replicate, if_pos h]; rfl
    rw [e, getD_replicate_le]
  · have e : (List.replicate n (List.replicate n (0 : Int))).getD i [] = [] := by rw [List.getD_eq_getElem?_getD, List.getElem?_replicate, if_neg h]; rfl
    rw [e]; rfl
theorem new_small {n : Nat} (h1 : 1 ≤ n) (h2 : n ≤ 4) : SmallR 0 n (rightsNew (n : Int)) := by
  have e : rightsNew (n : Int) = ⟨List.replicate n (List.replicate n 0), List.replicate n 0⟩ := by unfold rightsNew; rw [if_pos (inB_true.2 (by omega))]; rfl
  rw [e]
  refine ⟨?_, by simp, fun i j => by show g2 (List.replicate n (List.replicate n 0)) i j ≤ _; rw [new_g2]; omega, fun i => by show (List.replicate n (0 : Int)).getD i 0 ≤ _; rw [getD_replicate_le]; omega⟩
  have hn : n = 1 ∨ n = 2 ∨ n = 3 ∨ n = 4 := by omega
  rcases hn with rfl | rfl | rfl | rfl <;> decide

end Go.Proofs.Ytmbipgnecjlicaa
