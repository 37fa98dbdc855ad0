/- What Mint, Spend and Hand do to the balances: what FnRights asks. -/
import Derived.Test.YtmbipgnecjlicaaUpMath
namespace Go.Proofs.Ytmbipgnecjlicaa
open Go.RowKit
set_option linter.unusedVariables false

theorem g2_addG' {R : MRights} {i j : Nat} {a : Int} (hf : formB R = true) (hi : i < R.Give.length) (hj : j < R.Give.length) (k m : Nat) : g2 (addG R i j a).Give k m = g2 R.Give k m + (if k = i ∧ m = j then a else 0) := by
  rw [g2_addG hf hi hj]
  by_cases e : k = i ∧ m = j
  · rw [if_pos e, if_pos e, e.1, e.2]
  · rw [if_neg e, if_neg e]; omega
theorem hasN_addG {R : MRights} {i j : Nat} {a : Int} (hf : formB R = true) (hi : i < R.Give.length) (hj : j < R.Give.length) (hij : i ≠ j) (k : Nat) : ∀ m, m ≤ R.Give.length →
    hasN (addG R i j a) k m = hasN R k m + (if k = j ∧ i < m then a else 0) - (if k = i ∧ j < m then a else 0)
  | 0, _ => by
    rw [hasN, hasN, g2_addG' hf hi hj, s1_addG, if_neg (by omega), if_neg (by omega), if_neg (by omega)]; omega
  | m + 1, hm => by
    rw [hasN, hasN, hasN_addG hf hi hj hij k m (by omega), g2_addG' hf hi hj, g2_addG' hf hi hj]
    repeat' split
    all_goals omega
theorem hasN_addS {R : MRights} {i : Nat} {a : Int} (hi : i < R.Spent.length) (k : Nat) : ∀ m, hasN (addS R i a) k m = hasN R k m - (if k = i then a else 0)
  | 0 => by
    rw [hasN, hasN, s1_addS hi]
    show g2 R.Give k k - _ = _
    by_cases e : k = i
    · rw [if_pos e, if_pos e, e]; omega
    · rw [if_neg e, if_neg e]; omega
  | m + 1 => by
    rw [hasN, hasN, hasN_addS hi k m]
    show _ + (if m = k then 0 else g2 R.Give m k - g2 R.Give k m) = _
    omega
section
variable {n : Nat} {R : MRights} {i j : Nat} {a : Int}
theorem hand_has (hR : SmallR 8 n R) (hi : i < n) (hj : j < n) (hij : i ≠ j) (k : Nat) : hasZ (addG R i j a) k = hasZ R k + (if k = j then a else 0) - (if k = i then a else 0) := by
  have hl := hR.2.1
  unfold hasZ
  rw [len_addG, hasN_addG (ok_form hR.1) (by omega) (by omega) hij k _ (Nat.le_refl _)]
  by_cases c1 : k = j
  · rw [if_pos (by omega), if_pos c1, if_neg (by omega), if_neg (by omega)]
  · rw [if_neg (by omega), if_neg c1]
    by_cases c2 : k = i
    · rw [if_pos (by omega), if_pos c2]
    · rw [if_neg (by omega), if_neg c2]
theorem spend_has (hR : SmallR 8 n R) (hi : i < n) (k : Nat) : hasZ (addS R i a) k = hasZ R k - (if k = i then a else 0) := by
  have hl := hR.2.1
  have h2 := hR.shp.2.1
  exact hasN_addS (by omega) k _
theorem mint_has (hR : SmallR 8 n R) (hi : i < n) (ha : 0 ≤ a ∧ a ≤ 50) {k : Nat} (hk : k < n) : hasZ (addG R i i a) k = hasZ R k + (if k = i then a else 0) := by
  have hl := hR.2.1
  have hu := up_add (a := a) hR hi ha
  have h1 := up_hasN hu hk n (Nat.le_refl _)
  unfold hasZ
  rw [len_addG, hl, h1, g2_addG (ok_form hR.1) (by omega) (by omega)]
  by_cases e : k = i
  · rw [if_pos ⟨e, e⟩, if_pos e, e]; omega
  · rw [if_neg (by omega), if_neg e]; omega
theorem small_form {D : MRights} (hn : 1 ≤ n ∧ n ≤ 4) (hs : Shp n D) (hg : ∀ k m, 0 ≤ g2 D.Give k m ∧ g2 D.Give k m ≤ 500) (h1 : ∀ k, 0 ≤ s1 D.Spent k ∧ s1 D.Spent k ≤ 500) : formB D = true ∧ numB (diagN D D.Give.length) = true := by
  have hl := hs.1
  refine ⟨form_of hn hs (fun k m _ _ => by have := hg k m; omega) (fun k _ => by have := h1 k; omega), numB_true.2 ?_⟩
  have h2 := diagN_le (M := 500) (fun k => (hg k k).2) D.Give.length
  have h3 := diagN_nn (D := D) D.Give.length (fun k _ => (hg k k).1)
  omega
theorem ok_iff {D : MRights} (hf : formB D = true ∧ numB (diagN D D.Give.length) = true) {i : Nat} {z : Int} (hi : i < D.Give.length) (h : ∀ k, k < D.Give.length → k ≠ i → 0 ≤ hasZ D k) (hz : hasZ D i = z) : rightsOkB D = decide (0 ≤ z) := by
  by_cases c : 0 ≤ z
  · rw [decide_eq_true c, ok_sum hf.1 (fun k hk => ?_)]
    · exact hf.2
    · by_cases e : k = i
      · rw [e, hz]; exact c
      · exact h k hk e
  · rw [decide_eq_false c]
    exact ok_neg hi (by omega)
theorem small_range (hR : SmallR 8 n R) : (∀ k m, 0 ≤ g2 R.Give k m ∧ g2 R.Give k m ≤ 400) ∧ ∀ k, 0 ≤ s1 R.Spent k ∧ s1 R.Spent k ≤ 400 := by
  have hf := ok_form hR.1
  refine ⟨fun k m => ?_, fun k => ?_⟩
  · have := form_g2 hf k m; have := hR.2.2.1 k m; omega
  · have := (form_parts hf).2.2 k; have := hR.2.2.2 k; omega
theorem hand_okB (hn : 1 ≤ n ∧ n ≤ 4) (hR : SmallR 8 n R) (hi : i < n) (hj : j < n) (hij : i ≠ j) (ha : 1 ≤ a ∧ a ≤ 30) : rightsOkB (addG R i j a) = decide (a ≤ hasZ R i) := by
  have hl := hR.2.1
  have hr := small_range hR
  have hsf := small_form (n := n) hn (addG_shp (j := j) (a := a) hR.shp hi) (fun k m => by
    rw [g2_addG (ok_form hR.1) (by omega) (by omega)]
    have a1 := hr.1 i j; have a2 := hr.1 k m
    split <;> omega) (fun k => by have := hr.2 k; rw [s1_addG]; omega)
  have e := ok_iff hsf (i := i) (z := hasZ R i - a) (by rw [len_addG]; omega) (fun k hk hne => by
    rw [len_addG] at hk
    rw [hand_has hR hi hj hij]
    have := ok_has hR.1 hk
    rw [if_neg hne]
    split <;> omega) (by rw [hand_has hR hi hj hij, if_neg hij, if_pos rfl]; omega)
  rw [e]
  by_cases c : a ≤ hasZ R i
  · rw [decide_eq_true c, decide_eq_true (by omega)]
  · rw [decide_eq_false c, decide_eq_false (by omega)]
theorem spend_okB (hn : 1 ≤ n ∧ n ≤ 4) (hR : SmallR 8 n R) (hi : i < n) (ha : 1 ≤ a ∧ a ≤ 30) : rightsOkB (addS R i a) = decide (a ≤ hasZ R i) := by
  have hl := hR.2.1
  have h2 := hR.shp.2.1
  have hr := small_range hR
  have hsf := small_form (n := n) (D := addS R i a) hn hR.shp.setS (fun k m => by have := hr.1 k m; show 0 ≤ g2 R.Give k m ∧ g2 R.Give k m ≤ 500; omega) (fun k => by
    rw [s1_addS (by omega)]
    have a1 := hr.2 i; have a2 := hr.2 k
    split <;> omega)
  have e := ok_iff hsf (i := i) (z := hasZ R i - a) (show i < R.Give.length by omega) (fun k hk hne => by
    replace hk : k < R.Give.length := hk
    rw [spend_has hR hi, if_neg hne]
    have := ok_has hR.1 hk
    omega) (by rw [spend_has hR hi, if_pos rfl])
  rw [e]
  by_cases c : a ≤ hasZ R i
  · rw [decide_eq_true c, decide_eq_true (by omega)]
  · rw [decide_eq_false c, decide_eq_false (by omega)]
theorem hasOf_nat {D : MRights} {k : Nat} (h : rightsOkB D = true) (hk : k < D.Give.length) : hasOf D (k : Int) = hasZ D k := by
  unfold hasOf
  rw [if_pos ⟨h, by omega⟩]
  rfl
/-- sums of balances -/
theorem sum_step {R D : MRights} {b : Int} {i j : Nat} (hl : D.Give.length = R.Give.length) (hD : rightsOkB D = true) (hR : rightsOkB R = true) (a : Int) (h : ∀ k, k < R.Give.length → hasZ D k = hasZ R k + (if k = j then a else 0) - (if k = i then b else 0)) : ∀ m, m ≤ R.Give.length →
    sumN D m = sumN R m + (if j < m then a else 0) - (if i < m then b else 0)
  | 0, _ => by rw [sumN, sumN, if_neg (by omega), if_neg (by omega)]; omega
  | m + 1, hm => by
    rw [sumN, sumN, sum_step hl hD hR a h m (by omega), hasOf_nat hD (by omega), hasOf_nat hR (by omega), h m (by omega)]
    by_cases c1 : m = j
    · rw [if_pos c1, if_neg (show ¬ j < m by omega), if_pos (show j < m + 1 by omega)]
      by_cases c2 : m = i
      · rw [if_pos c2, if_neg (show ¬ i < m by omega), if_pos (show i < m + 1 by omega)]; omega
      · rw [if_neg c2]
        by_cases c3 : i < m
        · rw [if_pos c3, if_pos (show i < m + 1 by omega)]; omega
        · rw [if_neg c3, if_neg (show ¬ i < m + 1 by omega)]; omega
    · rw [if_neg c1]
      have e1 : (if j < m + 1 then a else 0) = (if j < m then a else 0) := by
        by_cases c3 : j < m
        · rw [if_pos c3, if_pos (by omega)]
        · rw [if_neg c3, if_neg (by omega)]
      rw [e1]
      by_cases c2 : m = i
      · rw [if_pos c2, if_neg (show ¬ i < m by omega), if_pos (show i < m + 1 by omega)]; omega
      · rw [if_neg c2]
        have e2 : (if i < m + 1 then b else 0) = (if i < m then b else 0) := by
          by_cases c3 : i < m
          · rw [if_pos c3, if_pos (by omega)]
          · rw [if_neg c3, if_neg (by omega)]
        rw [e2]; omega
theorem mint_all (hR : SmallR 8 n R) (hi : i < n) (ha : 1 ≤ a ∧ a ≤ 30) : allOf (addG R i i a) = allOf R + a ∧ hasOf (addG R i i a) (i : Int) = hasZ R i + a := by
  have hl := hR.2.1
  have hok := up_ok hR (up_add (a := a) hR hi (by omega))
  have h := sum_step (i := n) (j := i) (b := 0) len_addG hok hR.1 a (fun k hk => by rw [mint_has hR hi (by omega) (by omega)]; split <;> split <;> omega) R.Give.length (Nat.le_refl _)
  rw [if_pos (by omega), if_neg (by omega)] at h
  refine ⟨by unfold allOf; rw [len_addG, h]; omega, ?_⟩
  rw [hasOf_nat hok (by rw [len_addG]; omega), mint_has hR hi (by omega) hi, if_pos rfl]
theorem hand_all (hn : 1 ≤ n ∧ n ≤ 4) (hR : SmallR 8 n R) (hi : i < n) (hj : j < n) (hij : i ≠ j) (ha : 1 ≤ a ∧ a ≤ 30) (hge : a ≤ hasZ R i) :
    allOf (addG R i j a) = allOf R ∧ hasOf (addG R i j a) (i : Int) = hasZ R i - a ∧ hasOf (addG R i j a) (j : Int) = hasZ R j + a ∧ laterB R (addG R i j a) = true := by
  have hl := hR.2.1
  have hok : rightsOkB (addG R i j a) = true := by rw [hand_okB hn hR hi hj hij ha, decide_eq_true hge]
  have h := sum_step (i := i) (j := j) (b := a) len_addG hok hR.1 a (fun k hk => hand_has hR hi hj hij k) R.Give.length (Nat.le_refl _)
  rw [if_pos (by omega), if_pos (by omega)] at h
  refine ⟨by unfold allOf; rw [len_addG, h]; omega, ?_, ?_, ?_⟩
  · rw [hasOf_nat hok (by rw [len_addG]; omega), hand_has hR hi hj hij, if_neg hij, if_pos rfl]; omega
  · rw [hasOf_nat hok (by rw [len_addG]; omega), hand_has hR hi hj hij, if_pos rfl, if_neg (Ne.symm hij)]; omega
  · unfold laterB
    rw [hR.1, hok, decide_eq_true (by rw [len_addG]), decide_eq_true (fun k hk => ?_)]
    · rfl
    · refine ⟨by rw [s1_addG]; omega, fun m hm => ?_⟩
      rw [g2_addG (ok_form hR.1) (by omega) (by omega)]
      split
      · rename_i e; rw [e.1, e.2]; omega
      · omega
theorem spend_all (hn : 1 ≤ n ∧ n ≤ 4) (hR : SmallR 8 n R) (hi : i < n) (ha : 1 ≤ a ∧ a ≤ 30) (hge : a ≤ hasZ R i) : allOf (addS R i a) = allOf R - a ∧ laterB R (addS R i a) = true := by
  have hl := hR.2.1
  have h2 := hR.shp.2.1
  have hok : rightsOkB (addS R i a) = true := by rw [spend_okB hn hR hi ha, decide_eq_true hge]
  have h := sum_step (R := R) (D := addS R i a) (i := i) (j := n) (b := a) rfl hok hR.1 0 (fun k hk => by rw [spend_has hR hi]; split <;> split <;> omega) R.Give.length (Nat.le_refl _)
  rw [if_neg (by omega), if_pos (by omega)] at h
  refine ⟨by unfold allOf; show sumN (addS R i a) R.Give.length = _; rw [h]; omega, ?_⟩
  unfold laterB
  rw [hR.1, hok, decide_eq_true (show R.Give.length = (addS R i a).Give.length from rfl), decide_eq_true (fun k hk => ?_)]
  · rfl
  · refine ⟨?_, fun m hm => Int.le_refl _⟩
    rw [s1_addS (by omega)]
    split
    · rename_i e; rw [e]; omega
    · omega
end

end Go.Proofs.Ytmbipgnecjlicaa
