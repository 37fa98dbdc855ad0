/- Votes: the contracts of spec.l07Rise, l01Has, PropOk. Laid by a program of ours (src/vt2.py). -/
import Derived.Test.YtopmojfcdmcmbaaVt1
import Derived.Test.YtopmojfcdmcmbaaTProp
namespace Go.Proofs.Ytopmojfcdmcmbaa
open Go.RowKit
set_option linter.unusedVariables false

def riseAt (l : List Int) (i : Nat) : Bool := inB (l.getD i 0) 0 3 && (decide (i = 0) || decide (l.getD (i - 1) 0 < l.getD i 0))
/-- an ascending list of nodes -/
def riseB (l : List Int) : Bool := decide (∀ i, i < l.length → riseAt l i = true)
def hasI (l : List Int) (n : Int) : Bool := decide (n ∈ l)
def propOkB (p : MProp) : Bool := inB p.Bal 1 1125899906842624 && (inB p.Val 1 4 && (riseB p.From && (riseB p.Got && inB p.Best 0 (p.Bal - 1))))

theorem rdi_at {w : World} {B : Nat} {A : Option Addr} {l : List Int} (h : Rd .i64 w B A l) (h0 : 0 < l.length) : ∃ b off, A = some ⟨b, off, none⟩ ∧ b < B ∧ ∀ j, j < l.length → w.cell? ⟨b, off + j, none⟩ = some (.int .i64 (l.getD j 0)) := by
  obtain ⟨b, off, rfl, hb, hc⟩ := h h0
  exact ⟨b, off, rfl, hb, hc⟩

set_option maxHeartbeats 1000000 in
theorem sRise_c {w : World} {v : Value} {l : List Int} (h : RS .i64 w v l) : Calls Try.prog 58 #[v] w fun e w' => e = .returned (.bool (riseB l)) ∧ w = w' := by
  obtain ⟨A, c, rfl, h1, h2, hr⟩ := h
  unfold maxLen at h2
  go_enter Try.func58, Try.ntmps58
  go_wp2
  go_loop [7] (fun j => ∃ k : Nat, k ≤ l.length ∧ j = .int .i64 k ∧ Hid (∀ i, i < k → riseAt l i = true)) (fun j => l.length - (intOf j).toNat)
  case atStart => exact ⟨0, Nat.zero_le _, rfl, fun i hi => by omega⟩
  case round =>
    obtain ⟨k, hk, rfl, HT⟩ := hrel
    by_cases hlt : k < l.length
    case neg =>
      have HO : Hid (riseB l = true) := decide_eq_true (fun i hi => HT.out i (by omega))
      have hk2 : ¬ ((k : Int) < (l.length : Int)) := by omega
      go_wp2
      go_ret
      exact ⟨ret_eq (by rw [HO.out]; rfl), rfl⟩
    obtain ⟨b, off, rfl, hb, hc⟩ := rdi_at hr (by omega)
    have hck := hc k hlt
    have i1 : (k : Int) < (l.length : Int) := by omega
    obtain ⟨x, hx⟩ : ∃ x, l.getD k 0 = x := ⟨_, rfl⟩
    rw [hx] at hck
    by_cases hn : inB x 0 3 = true
    case neg =>
      replace hn : inB x 0 3 = false := by simpa using hn
      have HN := Lib.hid hn
      have HO : Hid (riseB l = false) := decide_eq_false (fun c => by have h := c k hlt; unfold riseAt at h; rw [hx, hn] at h; simp at h)
      clear hn hx hc
      go_wp2_with fail
      refine (sNode_any _ _).mono ?_
      rintro e w' ⟨rfl, rfl⟩
      rw [HN.out]
      go_wp2
      go_ret
      exact ⟨ret_eq (by rw [HO.out]; rfl), rfl⟩
    have HN := Lib.hid hn
    by_cases hk0 : k = 0
    case pos =>
      have H2 : Hid (∀ i, i < k + 1 → riseAt l i = true) := fun i hi => by
        obtain rfl : i = k := by omega
        unfold riseAt
        rw [hx, hn, hk0]; rfl
      have t0 : decide ((0 : Int) < (k : Int)) = false := decide_eq_false (by omega)
      have t1 : decide (0 < k) = false := decide_eq_false (by omega)
      clear hn hx hc hk0
      go_wp2_with fail
      refine (sNode_any _ _).mono ?_
      rintro e w' ⟨rfl, rfl⟩
      rw [HN.out]
      go_wp2
      go_round
      case rel => exact ⟨k + 1, by omega, by go_num, H2⟩
      case measure => simp [intOf]; omega
    obtain ⟨m, rfl⟩ : ∃ m, k = m + 1 := ⟨k - 1, by omega⟩
    have hcm := hc m (by omega)
    obtain ⟨y, hy⟩ : ∃ y, l.getD m 0 = y := ⟨_, rfl⟩
    rw [hy] at hcm
    have t0 : decide ((0 : Int) < ((m + 1 : Nat) : Int)) = true := decide_eq_true (by omega)
    have e1 : IntKind.i64.wrap (((m + 1 : Nat) : Int) - 1) = (m : Int) := by rw [show ((m + 1 : Nat) : Int) - 1 = (m : Int) by omega]; exact IntWalk.i64_in _ (by omega)
    have e2 : IntKind.i64.wrap ((m : Int) + 1 - 1) = (m : Int) := by rw [show (m : Int) + 1 - 1 = (m : Int) by omega]; exact IntWalk.i64_in _ (by omega)
    have i2 : (m : Int) < (l.length : Int) := by omega
    have i3 : (0 : Int) ≤ (m : Int) := by omega
    by_cases hxy : y < x
    case pos =>
      have H2 : Hid (∀ i, i < m + 1 + 1 → riseAt l i = true) := fun i hi => by
        by_cases e : i = m + 1
        · rw [e]; unfold riseAt; rw [hx, hn, show m + 1 - 1 = m from rfl, hy, decide_eq_true hxy]; simp
        · exact HT.out i (by omega)
      have t2 : decide (x ≤ y) = false := decide_eq_false (by omega)
      clear hn hx hc hk0 hy
      go_wp2_with fail
      refine (sNode_any _ _).mono ?_
      rintro e w' ⟨rfl, rfl⟩
      rw [HN.out]
      go_wp2
      go_round
      case rel => exact ⟨m + 1 + 1, by omega, by go_num, H2⟩
      case measure => simp [intOf]; omega
    have HO : Hid (riseB l = false) := decide_eq_false (fun c => by have h := c (m + 1) hlt; unfold riseAt at h; rw [hx, hn, show m + 1 - 1 = m from rfl, hy, decide_eq_false hxy] at h; simp at h)
    have t2 : decide (x ≤ y) = true := decide_eq_true (by omega)
    clear hn hx hc hk0 hy
    go_wp2_with fail
    refine (sNode_any _ _).mono ?_
    rintro e w' ⟨rfl, rfl⟩
    rw [HN.out]
    go_wp2
    go_ret
    exact ⟨ret_eq (by rw [HO.out]; rfl), rfl⟩

set_option maxHeartbeats 1000000 in
theorem sHasI_c {w : World} {v : Value} {l : List Int} {n : Int} (h : RS .i64 w v l) : Calls Try.prog 59 #[v, .int .i64 n] w fun e w' => e = .returned (.bool (hasI l n)) ∧ w = w' := by
  obtain ⟨A, c, rfl, h1, h2, hr⟩ := h
  unfold maxLen at h2
  go_enter Try.func59, Try.ntmps59
  go_wp2
  go_loop [9] (fun j => ∃ k : Nat, k ≤ l.length ∧ j = .int .i64 k ∧ Hid (n ∉ l.take k)) (fun j => l.length - (intOf j).toNat)
  case atStart => exact ⟨0, Nat.zero_le _, rfl, by simp [Hid]⟩
  case round =>
    obtain ⟨k, hk, rfl, HT⟩ := hrel
    by_cases hlt : k < l.length
    case neg =>
      have HO : Hid (hasI l n = false) := decide_eq_false (by have h := HT.out; rwa [List.take_of_length_le (by omega)] at h)
      have hk2 : ¬ ((k : Int) < (l.length : Int)) := by omega
      go_wp2
      go_ret
      exact ⟨ret_eq (by rw [HO.out]; rfl), rfl⟩
    obtain ⟨b, off, rfl, hb, hc⟩ := rdi_at hr (by omega)
    have hck := hc k hlt
    have i1 : (k : Int) < (l.length : Int) := by omega
    obtain ⟨x, hxe⟩ : ∃ x, l[k]? = some x := ⟨l[k], List.getElem?_eq_getElem hlt⟩
    rw [show l.getD k 0 = x by rw [List.getD_eq_getElem?_getD, hxe]; rfl] at hck
    by_cases hxn : x = n
    case pos =>
      have HO : Hid (hasI l n = true) := decide_eq_true (hxn ▸ List.mem_of_getElem? hxe)
      have t0 : (x == n) = true := by simpa using hxn
      clear hxn hxe hc
      go_wp2
      go_ret
      exact ⟨ret_eq (by rw [HO.out]; rfl), rfl⟩
    have H2 : Hid (n ∉ l.take (k + 1)) := fun c => by
      rw [List.take_add_one, hxe] at c
      simp only [Option.toList_some, List.mem_append, List.mem_singleton] at c
      rcases c with c | c
      · exact HT.out c
      · exact hxn c.symm
    have t0 : (x == n) = false := by simpa using hxn
    clear hxn hxe hc
    go_wp2
    go_round
    case rel => exact ⟨k + 1, by omega, by go_num, H2⟩
    case measure => simp [intOf]; omega

end Go.Proofs.Ytopmojfcdmcmbaa
