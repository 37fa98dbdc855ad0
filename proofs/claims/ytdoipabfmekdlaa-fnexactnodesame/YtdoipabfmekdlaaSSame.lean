/- The contract of spec.l01Same. -/
import Derived.Test.YtdoipabfmekdlaaBunA
import Derived.BigQuiet
import Derived.Deep.QuietTactic
namespace Go.Proofs.Ytdoipabfmekdlaa
open Go.RowKit
set_option linter.unusedVariables false

theorem rd_at {w : World} {B : Nat} {A : Option Addr} {l : List Int} (h : Rd .i64 w B A l) {j : Nat} (hj : j < l.length) : ∃ b off, A = some ⟨b, off, none⟩ ∧ b < B ∧ w.cell? ⟨b, off + j, none⟩ = some (.int .i64 (l.getD j 0)) := by
  obtain ⟨b, off, rfl, hb, hc⟩ := h (by omega)
  exact ⟨b, off, rfl, hb, hc j hj⟩

set_option maxHeartbeats 1000000 in
theorem sSame_c {w : World} {v v' : Value} {xs ys : List Int} (h : RS .i64 w v xs) (h' : RS .i64 w v' ys) :
    Calls Try.prog 61 #[v, v'] w fun e w' => e = .returned (.bool (decide (xs = ys))) ∧ Below w.heap.size w w' := by
  obtain ⟨A, c, rfl, h1, h2, hr⟩ := h
  obtain ⟨A', c', rfl, h1', h2', hr'⟩ := h'
  unfold maxLen at h2 h2'
  by_cases hl : xs.length = ys.length
  case neg =>
    have HO : Hid (decide (xs = ys) = false) := decide_eq_false (fun e => hl (by rw [e]))
    have t0 : ((xs.length : Int) != (ys.length : Int)) = true := by simp; omega
    have t1 : (xs.length != ys.length) = true := by simpa using hl
    clear hl
    go_enter Try.func61, Try.ntmps61
    go_wp2
    go_ret
    exact ⟨ret_eq (by rw [HO.out]; rfl), Below.refl _ _⟩
  have t0 : ((xs.length : Int) != (ys.length : Int)) = false := by simp; omega
  have t1 : (xs.length != ys.length) = false := by simp; omega
  have l1 := Nat.le_of_eq hl
  have l2 := Nat.le_of_eq hl.symm
  clear hl
  go_enter Try.func61, Try.ntmps61
  go_wp2
  go_loopw [13] (fun j wr => ∃ k : Nat, k ≤ xs.length ∧ j = .int .i64 k ∧ Hid (xs.take k = ys.take k) ∧ Below w.heap.size w wr) (fun j _ => xs.length - (intOf j).toNat)
  case atStart => exact ⟨0, Nat.zero_le _, rfl, rfl, Below.refl _ _⟩
  case round =>
    obtain ⟨k, hk, rfl, HT, HB⟩ := hrel
    by_cases hlt : k < xs.length
    case neg =>
      have HO : Hid (decide (xs = ys) = true) := decide_eq_true (by have h := HT.out; rwa [List.take_of_length_le (by omega), List.take_of_length_le (by omega)] at h)
      have hk2 : ¬ ((k : Int) < (xs.length : Int)) := by omega
      go_wp2
      go_ret
      exact ⟨ret_eq (by rw [HO.out]; rfl), HB⟩
    obtain ⟨x, hx⟩ := get_of_lt hlt
    obtain ⟨y, hy⟩ := get_of_lt (xs := ys) (k := k) (by omega)
    obtain ⟨b, off, rfl, hb, hc⟩ := rd_at (hr.below HB) hlt
    obtain ⟨b', off', rfl, hb', hc'⟩ := rd_at (hr'.below HB) (j := k) (by omega)
    rw [show xs.getD k 0 = x by rw [List.getD_eq_getElem?_getD, hx]; rfl] at hc
    rw [show ys.getD k 0 = y by rw [List.getD_eq_getElem?_getD, hy]; rfl] at hc'
    have i1 : (k : Int) < (xs.length : Int) := by omega
    have i2 : (k : Int) < (ys.length : Int) := by omega
    by_cases hxy : x = y
    case pos =>
      have H2 : Hid (xs.take (k + 1) = ys.take (k + 1)) := take_succ_eqL HT.out hx (by rw [hy, hxy])
      have t2 : (x != y) = false := by simpa using hxy
      clear hx hy hxy
      go_wp2_with fail
      go_quiet (fail)
      have B9 := HB.trans (below_of_drew _ _ nq)
      go_wp2
      go_roundw
      case rel => exact ⟨k + 1, by omega, by go_num, H2, B9⟩
      case measure => simp [intOf]; omega
    have HO : Hid (decide (xs = ys) = false) := decide_eq_false (fun e => hxy (by have h := hx; rw [e, hy] at h; simpa using h.symm))
    have t2 : (x != y) = true := by simpa using hxy
    clear hx hy hxy
    go_wp2_with fail
    go_quiet (fail)
    have B9 := HB.trans (below_of_drew _ _ nq)
    go_wp2
    go_ret
    exact ⟨ret_eq (by rw [HO.out]; rfl), B9⟩

end Go.Proofs.Ytdoipabfmekdlaa
