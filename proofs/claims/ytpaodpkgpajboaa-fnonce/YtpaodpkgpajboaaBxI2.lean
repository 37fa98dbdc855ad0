/- Boxes: the contract of impl's queue.after. Laid by a program of ours (src/boxi1.py). -/
import Derived.Test.YtpaodpkgpajboaaBxI1
namespace Go.Proofs.Ytpaodpkgpajboaa
open Go.RowKit
set_option linter.unusedVariables false

theorem slice_n {A : Option Addr} {n n' c : Nat} (h : n = n') : Value.slice A n c = Value.slice A n' c := by rw [h]
theorem rv_msgs_none {w : World} {A : Option Addr} {c : Nat} {X : List MMsg} (h : X = []) (hc : c ≤ maxLen) : RV msgSL w (.slice A X.length c) X := by
  subst h
  exact ⟨[_], rfl, A, c, rfl, Nat.zero_le _, hc, fun _ => [], fun j x hx => by simp at hx, fun hp => by simp at hp⟩
theorem rv_msgs_drop {w : World} {b off c k : Nat} {l X : List MMsg} (hr : RdL msgL 4 w w.heap.size (some ⟨b, off, none⟩) l) (hc1 : l.length ≤ c) (hc2 : c ≤ maxLen) (hk : k ≤ l.length) (hX : l.drop k = X) : RV msgSL w (.slice (some ⟨b, off + k * 4, none⟩) X.length (c - k)) X := by
  subst hX
  exact ⟨[_], rfl, _, _, rfl, by rw [List.length_drop]; omega, by omega, hr.drop k⟩
def afterK (o : MOut) (q : Int) : Nat := (q + 1 - (o.Next - (o.List.length : Int))).toNat

set_option maxHeartbeats 1000000 in
theorem iAfter_c {w : World} {A : Option Addr} {c : Nat} {o : MOut} (h : RV msgSL w (.slice A o.List.length c) o.List) (hm : o.List.length ≤ 16777216) {q : Int} (b1 : 1 ≤ o.Next ∧ o.Next ≤ 1125899906842624) (b2 : o.List.length ≤ 60) (b3 : (o.List.length : Int) < o.Next) (hq : -9223372036854775808 ≤ q ∧ q ≤ 9223372036854775807) : Calls Try.prog 46 #[.agg #[.slice A o.List.length c, .int .i64 o.Next], .int .i64 q] w fun e w' => ∃ A' c', e = .returned (.slice A' (o.List.drop (afterK o q)).length c') ∧ RV msgSL w (.slice A' (o.List.drop (afterK o q)).length c') (o.List.drop (afterK o q)) ∧ Below w.heap.size w w' := by
  obtain ⟨A', c', he, hc1, hc2, hr⟩ := rv_slice h
  simp only [Value.slice.injEq, true_and] at he
  obtain ⟨rfl, rfl⟩ := he
  obtain ⟨wa, hwa, B0, sa, x_a⟩ := frame1 w 64 [.slice A o.List.length c, .int .i64 o.Next]
  have sa_1 := Nat.le_of_eq sa
  have sa_2 := Nat.le_of_eq sa.symm
  clear sa
  obtain ⟨f, hf⟩ : ∃ f, o.Next - (o.List.length : Int) = f := ⟨_, rfl⟩
  have b4 : 1 ≤ f ∧ f ≤ 1125899906842624 := by omega
  have HF := Lib.hid hf
  have HN : Hid (o.Next = f + (o.List.length : Int)) := by show _ = _; omega
  obtain ⟨X, hX⟩ : ∃ X, o.List.drop (afterK o q) = X := ⟨_, rfl⟩
  rw [hX]
  unfold afterK at hX
  rw [hf] at hX
  rcases Nat.eq_zero_or_pos o.List.length with hl | hl
  case inl =>
    have hX0 : X = [] := by rw [← hX, List.eq_nil_of_length_eq_zero hl]; simp
    subst hX0
    have l1 := Nat.le_of_eq hl
    have n1 : o.Next ≤ f := by omega
    have n2 : f ≤ o.Next := by omega
    clear hl hX hf
    by_cases h1 : q < f - 1
    case pos =>
      have h2 : ¬ (o.Next - 1 < f - 1) := by omega
      have c_a_0_wa := x_a.cell (i := 0) rfl
      have f_a_0_wa := x_a.frozen 0
      have c_a_1_wa := x_a.cell (i := 1) rfl
      have f_a_1_wa := x_a.frozen 1
      go_enter Try.func46, Try.ntmps46
      go_wp2_with fail
      refine (iQFirst_c b1 b2).mono ?_
      rintro e w1 ⟨rfl, h_w1⟩
      clear c_a_0_wa f_a_0_wa c_a_1_wa f_a_1_wa
      replace x_a := x_a.from_ h_w1
      have B_w1 := B0.trans (h_w1.mono B0.size)
      have s_w1 := h_w1.size
      rw [HF.out]
      have c_a_0_w1 := x_a.cell (i := 0) rfl
      have f_a_0_w1 := x_a.frozen 0
      have c_a_1_w1 := x_a.cell (i := 1) rfl
      have f_a_1_w1 := x_a.frozen 1
      go_wp2
      all_goals (go_ret; exact ⟨_, _, congrArg Ending.returned (slice_n (by first | omega | (simp <;> omega))), rv_msgs_none rfl (by omega), B_w1⟩)
    case neg =>
      have c_a_0_wa := x_a.cell (i := 0) rfl
      have f_a_0_wa := x_a.frozen 0
      have c_a_1_wa := x_a.cell (i := 1) rfl
      have f_a_1_wa := x_a.frozen 1
      go_enter Try.func46, Try.ntmps46
      go_wp2_with fail
      refine (iQFirst_c b1 b2).mono ?_
      rintro e w1 ⟨rfl, h_w1⟩
      clear c_a_0_wa f_a_0_wa c_a_1_wa f_a_1_wa
      replace x_a := x_a.from_ h_w1
      have B_w1 := B0.trans (h_w1.mono B0.size)
      have s_w1 := h_w1.size
      rw [HF.out]
      have c_a_0_w1 := x_a.cell (i := 0) rfl
      have f_a_0_w1 := x_a.frozen 0
      have c_a_1_w1 := x_a.cell (i := 1) rfl
      have f_a_1_w1 := x_a.frozen 1
      go_wp2
      all_goals (go_ret; exact ⟨_, _, congrArg Ending.returned (slice_n (by first | omega | (simp <;> omega))), rv_msgs_none rfl (by omega), B_w1⟩)
  obtain ⟨x0, hx0⟩ := get_of_lt (xs := o.List) (k := 0) hl
  obtain ⟨b, off, rfl, hb, -, -, -, -⟩ := el_msg hr hx0
  clear hx0
  by_cases h1 : q < f - 1
  case pos =>
    have h2 : ¬ (o.Next - 1 < f - 1) := by omega
    rw [show (q + 1 - f).toNat = 0 by omega, List.drop_zero] at hX
    subst hX
    clear hf
    have c_a_0_wa := x_a.cell (i := 0) rfl
    have f_a_0_wa := x_a.frozen 0
    have c_a_1_wa := x_a.cell (i := 1) rfl
    have f_a_1_wa := x_a.frozen 1
    go_enter Try.func46, Try.ntmps46
    go_wp2_with fail
    refine (iQFirst_c b1 b2).mono ?_
    rintro e w1 ⟨rfl, h_w1⟩
    clear c_a_0_wa f_a_0_wa c_a_1_wa f_a_1_wa
    replace x_a := x_a.from_ h_w1
    have B_w1 := B0.trans (h_w1.mono B0.size)
    have s_w1 := h_w1.size
    rw [HF.out]
    have c_a_0_w1 := x_a.cell (i := 0) rfl
    have f_a_0_w1 := x_a.frozen 0
    have c_a_1_w1 := x_a.cell (i := 1) rfl
    have f_a_1_w1 := x_a.frozen 1
    go_wp2
    go_ret
    exact ⟨_, _, rfl, h, B_w1⟩
  by_cases h2 : o.Next - 1 < q
  case pos =>
    have hX0 : X = [] := by rw [← hX]; exact List.drop_of_length_le (by omega)
    subst hX0
    have e5 : o.Next - 1 - (f - 1) = (o.List.length : Int) := by omega
    have e6 : ((o.List.length : Int)).toNat = o.List.length := by simp
    clear hf hX
    have c_a_0_wa := x_a.cell (i := 0) rfl
    have f_a_0_wa := x_a.frozen 0
    have c_a_1_wa := x_a.cell (i := 1) rfl
    have f_a_1_wa := x_a.frozen 1
    go_enter Try.func46, Try.ntmps46
    go_wp2_with fail
    refine (iQFirst_c b1 b2).mono ?_
    rintro e w1 ⟨rfl, h_w1⟩
    clear c_a_0_wa f_a_0_wa c_a_1_wa f_a_1_wa
    replace x_a := x_a.from_ h_w1
    have B_w1 := B0.trans (h_w1.mono B0.size)
    have s_w1 := h_w1.size
    rw [HF.out]
    have c_a_0_w1 := x_a.cell (i := 0) rfl
    have f_a_0_w1 := x_a.frozen 0
    have c_a_1_w1 := x_a.cell (i := 1) rfl
    have f_a_1_w1 := x_a.frozen 1
    go_wp2
    all_goals (go_ret; exact ⟨_, _, congrArg Ending.returned (slice_n (by first | omega | (simp <;> omega))), rv_msgs_none rfl (by omega), B_w1⟩)
  obtain ⟨k, hk⟩ : ∃ k : Nat, q = f - 1 + (k : Int) := ⟨(q + 1 - f).toNat, by omega⟩
  rw [show (q + 1 - f).toNat = k by omega] at hX
  have k2 : k ≤ o.List.length := by omega
  have e5 : q - (f - 1) = (k : Int) := by omega
  have gk : ((k : Int)).toNat = k := by simp
  have gk2 : (k : Int) ≤ (o.List.length : Int) := by omega
  have gk3 : (0 : Int) ≤ (k : Int) := by omega
  have lX : o.List.length - k = X.length := by rw [← hX, List.length_drop]
  have HLX := Lib.hid lX
  have HX := Lib.hid hX
  clear hk hf lX hX
  have c_a_0_wa := x_a.cell (i := 0) rfl
  have f_a_0_wa := x_a.frozen 0
  have c_a_1_wa := x_a.cell (i := 1) rfl
  have f_a_1_wa := x_a.frozen 1
  go_enter Try.func46, Try.ntmps46
  go_wp2_with fail
  refine (iQFirst_c b1 b2).mono ?_
  rintro e w1 ⟨rfl, h_w1⟩
  clear c_a_0_wa f_a_0_wa c_a_1_wa f_a_1_wa
  replace x_a := x_a.from_ h_w1
  have B_w1 := B0.trans (h_w1.mono B0.size)
  have s_w1 := h_w1.size
  rw [HF.out]
  have c_a_0_w1 := x_a.cell (i := 0) rfl
  have f_a_0_w1 := x_a.frozen 0
  have c_a_1_w1 := x_a.cell (i := 1) rfl
  have f_a_1_w1 := x_a.frozen 1
  go_wp2
  case inl =>
    have hlk : o.List.length ≤ k := by omega
    go_ret
    exact ⟨_, _, congrArg Ending.returned (slice_n HLX.out), rv_msgs_none (by rw [← HX.out]; exact List.drop_of_length_le hlk) (Nat.zero_le _), B_w1⟩
  case inr =>
    go_ret
    exact ⟨_, _, congrArg Ending.returned (slice_n HLX.out), rv_msgs_drop hr hc1 hc2 k2 HX.out, B_w1⟩

end Go.Proofs.Ytpaodpkgpajboaa
