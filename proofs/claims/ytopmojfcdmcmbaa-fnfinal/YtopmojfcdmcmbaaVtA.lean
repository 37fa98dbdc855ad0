/- Ascending lists: plain facts, and the contract of impl's (orderedSet).ascending. -/
import Derived.Test.YtopmojfcdmcmbaaVt2
import Derived.Test.YtopmojfcdmcmbaaINode
import Derived.BigQuiet
import Derived.Deep.QuietTactic
namespace Go.Proofs.Ytopmojfcdmcmbaa
open Go.RowKit
set_option linter.unusedVariables false

/-- an ascending list -/
def ascB (l : List Int) : Bool := decide (∀ i, i < l.length - 1 → l.getD i 0 < l.getD (i + 1) 0)
theorem asc_t {l : List Int} (h : ∀ i, i + 1 < l.length → l.getD i 0 < l.getD (i + 1) 0) : ascB l = true := decide_eq_true fun i hi => h i (by omega)
theorem asc_f {l : List Int} {k : Nat} (hk : k + 1 < l.length) (h : ¬ l.getD k 0 < l.getD (k + 1) 0) : ascB l = false := decide_eq_false fun c => h (c k (by omega))
theorem asc_lt {l : List Int} (h : ascB l = true) : ∀ a b, a < b → b < l.length → l.getD a 0 < l.getD b 0 := by
  have h := of_decide_eq_true h
  intro a b
  induction b with
  | zero => intro hab; omega
  | succ b ih =>
    intro hab hb
    have h1 := h b (by omega)
    rcases Nat.lt_or_ge a b with hlt | hge
    · have h2 := ih hlt (by omega)
      omega
    · obtain rfl : a = b := by omega
      exact h1
theorem asc_pair {l : List Int} (h : ascB l = true) : l.Pairwise (· < ·) :=
  List.pairwise_iff_getElem.2 fun i j hi hj hij => by
    have := asc_lt h i j hij hj
    simpa [List.getD, hi, hj] using this
theorem rise_asc {l : List Int} (h : riseB l = true) : ascB l = true := asc_t fun i hi => by
  have h := of_decide_eq_true h (i + 1) hi
  simp [riseAt] at h
  simpa using h.2
theorem rise_ends {l : List Int} (h : ascB l = true) (h0 : 0 < l.length → 0 ≤ l.getD 0 0) (h1 : 0 < l.length → l.getD (l.length - 1) 0 ≤ 3) : riseB l = true := decide_eq_true fun i hi => by
  have hlo : 0 ≤ l.getD i 0 := by
    rcases Nat.eq_zero_or_pos i with e | e
    · rw [e]; exact h0 (by omega)
    · have := asc_lt h 0 i e hi; have := h0 (by omega); omega
  have hhi : l.getD i 0 ≤ 3 := by
    rcases Nat.lt_or_ge i (l.length - 1) with e | e
    · have := asc_lt h i (l.length - 1) e (by omega); have := h1 (by omega); omega
    · obtain rfl : i = l.length - 1 := by omega
      exact h1 (by omega)
  unfold riseAt
  rw [inB_true.2 ⟨hlo, hhi⟩]
  rcases Nat.eq_zero_or_pos i with e | e
  · simp [e]
  · have := asc_lt h (i - 1) i (by omega) hi
    rw [decide_eq_true this]; simp
theorem rise_in {l : List Int} (h : riseB l = true) : ∀ i, i < l.length → 0 ≤ l.getD i 0 ∧ l.getD i 0 ≤ 3 := fun i hi => by
  have h := of_decide_eq_true h i hi
  simp only [riseAt, Bool.and_eq_true] at h
  exact inB_true.1 h.1

theorem rise_len {l : List Int} (h : riseB l = true) : l.length ≤ 4 := by
  have ha := asc_lt (rise_asc h)
  have hi := rise_in h
  have k : ∀ i : Nat, i < l.length → (i : Int) ≤ l.getD i 0 := by
    intro i
    induction i with
    | zero => intro h0; have := hi 0 h0; omega
    | succ i ih => intro h0; have := ih (by omega); have := ha i (i + 1) (by omega) h0; omega
  rcases Nat.lt_or_ge 4 l.length with h4 | h4
  · have h1 := k 4 h4
    have h2 := hi 4 h4
    omega
  · exact h4

set_option maxHeartbeats 1000000 in
theorem iAsc_c {w : World} {v : Value} {l : List Int} (h : RS .i64 w v l) : Calls Try.prog 80 #[v] w fun e w' => e = .returned (.bool (ascB l)) ∧ Below w.heap.size w w' := by
  obtain ⟨A, c, rfl, h1, h2, hr⟩ := h
  unfold maxLen at h2
  go_enter Try.func80, Try.ntmps80
  go_wp2
  go_loopw [3] (fun j wr => ∃ (k q : Nat), (k + 1 ≤ l.length ∨ k = 0) ∧ j = .int .i64 ((k : Int) + 1) ∧ wr = w.drewN q ∧ Hid (∀ i, i < k → l.getD i 0 < l.getD (i + 1) 0)) (fun j _ => l.length + 1 - (intOf j).toNat)
  case atStart => exact ⟨0, 0, .inr rfl, rfl, rfl, fun i hi => by omega⟩
  case round =>
    obtain ⟨k, q, hk, rfl, rfl, HT⟩ := hrel
    by_cases hlt : k + 1 < l.length
    case neg =>
      have HO : Hid (ascB l = true) := asc_t (fun i hi => HT.out i (by omega))
      have hk2 : ¬ ((k : Int) + 1 < (l.length : Int)) := by omega
      go_wp2
      go_ret
      exact ⟨ret_eq (by rw [HO.out]; rfl), bdrew (Below.refl _ _) _⟩
    obtain ⟨b, off, rfl, hb, hc⟩ := rdi_at hr (by omega)
    have hcm := hc k (by omega)
    have hck := hc (k + 1) hlt
    obtain ⟨y, hy⟩ : ∃ y, l.getD k 0 = y := ⟨_, rfl⟩
    obtain ⟨x, hx⟩ : ∃ x, l.getD (k + 1) 0 = x := ⟨_, rfl⟩
    rw [hy] at hcm
    rw [hx] at hck
    have i1 : (k : Int) + 1 < (l.length : Int) := by omega
    have i2 : (k : Int) < (l.length : Int) := by omega
    have i3 : (0 : Int) ≤ (k : Int) := by omega
    have i4 : (0 : Int) ≤ (k : Int) + 1 := by omega
    have e1 : IntKind.i64.wrap ((k : Int) + 1 - 1) = (k : Int) := by rw [show (k : Int) + 1 - 1 = (k : Int) by omega]; exact IntWalk.i64_in _ (by omega)
    have e2 : ((k : Int) + 1).toNat = k + 1 := by omega
    have e3 : IntKind.i64.wrap ((k : Int) + 1 + 1) = (k : Int) + 1 + 1 := IntWalk.i64_in _ (by omega)
    by_cases hxy : y < x
    case pos =>
      have H2 : Hid (∀ i, i < k + 1 → l.getD i 0 < l.getD (i + 1) 0) := fun i hi => by
        by_cases e : i = k
        · rw [e, hy, hx]; exact hxy
        · exact HT.out i (by omega)
      have t2 : decide (x ≤ y) = false := decide_eq_false (by omega)
      clear hc hy hx
      go_wp2
      go_quiet (fail)
      go_wp2
      go_roundw
      case rel => exact ⟨k + 1, _, .inl (by omega), by go_num, rfl, H2⟩
      case measure => simp [intOf]; omega
    have HO : Hid (ascB l = false) := asc_f hlt (by rw [hy, hx]; exact hxy)
    have t2 : decide (x ≤ y) = true := decide_eq_true (by omega)
    clear hc hy hx
    go_wp2
    go_quiet (fail)
    go_wp2
    go_ret
    exact ⟨ret_eq (by rw [HO.out]; rfl), bdrew (bdrew (Below.refl _ _) _) _⟩

theorem iNodesOf_any (v : Value) (A : Option Addr) (n c : Nat) (hv : v = .slice A n c) (w : World) : Calls Try.prog 79 #[v] w fun e w' => e = .returned v ∧ w = w' := by
  subst hv
  go_enter Try.func79, Try.ntmps79
  go_wp2
  go_ret
  exact ⟨rfl, rfl⟩

end Go.Proofs.Ytopmojfcdmcmbaa
