/- Boxes: contracts of impl's queue: count, allOk, ok, queueOf, first, worth. Laid by a program of ours (src/boxi.py). -/
import Derived.Test.YtpaodpkgpajboaaBox6
import Derived.Test.YtpaodpkgpajboaaPutNum
import Derived.Test.YtpaodpkgpajboaaMsgI1
namespace Go.Proofs.Ytpaodpkgpajboaa
open Go.RowKit
set_option linter.unusedVariables false

theorem sz_queue : (Try.prog.info? 64).map (·.size) = some 2 := by kernel_rfl

theorem iCount_w (A : Option Addr) (n c : Nat) (w : World) : Calls Try.prog 60 #[.slice A n c] w fun e w' => e = .returned (.int .i64 (n : Int)) ∧ w = w' := by
  go_enter Try.func60, Try.ntmps60
  go_wp2
  go_ret
  exact ⟨rfl, rfl⟩
theorem iCount_b (A : Option Addr) (n c : Nat) (w : World) : Calls Try.prog 60 #[.slice A n c] w fun e w' => e = .returned (.int .i64 (n : Int)) ∧ Below w.heap.size w w' :=
  (iCount_w A n c w).mono (by rintro e w' ⟨rfl, rfl⟩; exact ⟨rfl, Below.refl _ _⟩)
theorem iNum_b (n : Int) (w : World) : Calls Try.prog 64 #[.int .i64 n] w fun e w' => e = .returned (.bool (numB n)) ∧ Below w.heap.size w w' :=
  (iNum_any n w).mono (by rintro e w' ⟨rfl, rfl⟩; exact ⟨rfl, Below.refl _ _⟩)

set_option maxHeartbeats 1000000 in
theorem iAllOk_c {w : World} {A : Option Addr} {c : Nat} {l : List MMsg} (h : RV msgSL w (.slice A l.length c) l) (hm : l.length ≤ 16777216) : Calls Try.prog 65 #[.slice A l.length c] w fun e w' => e = .returned (.bool (l.all msgOkB)) ∧ Below w.heap.size w w' := by
  obtain ⟨A', c', he, hc1, hc2, hr⟩ := rv_slice h
  simp only [Value.slice.injEq, true_and] at he
  obtain ⟨rfl, rfl⟩ := he
  clear h
  go_enter Try.func65, Try.ntmps65
  go_wp2
  go_loopw [7] (fun i wr => ∃ k : Nat, k ≤ l.length ∧ i = .int .i64 k ∧ Hid ((l.take k).all msgOkB = true) ∧ Below w.heap.size w wr) (fun i _ => l.length - (intOf i).toNat)
  case atStart => exact ⟨0, Nat.zero_le _, rfl, rfl, Below.refl _ _⟩
  case round =>
    obtain ⟨k, hk, rfl, HT, HB⟩ := hrel
    have hs := HB.size
    by_cases hlt : k < l.length
    · obtain ⟨x, hxe⟩ := get_of_lt hlt
      obtain ⟨b, off, rfl, hb, e0, e1, e2, e3⟩ := el_msg (hr.below HB) hxe
      have i1 : (k : Int) < (l.length : Int) := by omega
      obtain ⟨w1, a1, s1, b1, x_m⟩ := alloc_step wr 29 [.int .i64 x.Kind, .int .i64 x.Acct, .int .i64 x.Amt, .int .i64 x.Src]
      have m0 := x_m.cell (i := 0) rfl
      have m1 := x_m.cell (i := 1) rfl
      have m2 := x_m.cell (i := 2) rfl
      have m3 := x_m.cell (i := 3) rfl
      clear s1
      have B1 := HB.trans (b1.mono hs)
      by_cases hok : msgOkB x = true
      · have HK := Lib.hid hok
        have HT2 : Hid ((l.take (k + 1)).all msgOkB = true) := all_take_succ HT.out hxe hok
        clear hok hxe
        go_wp2_with fail
        refine (iMsgOk_c (m := x) rv_msg_mk).mono ?_
        rintro e w2 ⟨rfl, h2⟩
        rw [HK.out]
        have B2 := B1.trans (h2.mono B1.size)
        go_wp2
        go_roundw
        case rel => exact ⟨k + 1, by omega, by go_num, HT2, B2⟩
        case measure => simp [intOf]; omega
      · have hok' : msgOkB x = false := by simpa using hok
        have HK := Lib.hid hok'
        have HO : Hid (l.all msgOkB = false) := all_false hxe hok'
        clear hok hok' hxe
        go_wp2_with fail
        refine (iMsgOk_c (m := x) rv_msg_mk).mono ?_
        rintro e w2 ⟨rfl, h2⟩
        rw [HK.out]
        have B2 := B1.trans (h2.mono B1.size)
        go_wp2
        go_ret
        exact ⟨ret_eq (by rw [HO.out]; rfl), B2⟩
    · have hk2 : k = l.length := by omega
      subst hk2
      have HO : Hid (l.all msgOkB = true) := by have := HT.out; rwa [List.take_of_length_le (Nat.le_refl _)] at this
      go_wp2
      go_ret
      exact ⟨ret_eq (by rw [HO.out]; rfl), HB⟩

def worths : List MMsg → Int
  | [] => 0
  | m :: l => msgWorth m + worths l
theorem worths_append (l l' : List MMsg) : worths (l ++ l') = worths l + worths l' := by
  induction l with
  | nil => simp [worths]
  | cons a l ih => simp only [List.cons_append, worths, ih]; omega
theorem worths_range (l : List MMsg) : 0 ≤ worths l ∧ worths l ≤ 1000000000 * (l.length : Int) := by
  induction l with
  | nil => simp [worths]
  | cons a l ih => have := msgWorth_range a; simp only [worths, List.length_cons]; omega
theorem worths_take {l : List MMsg} {k : Nat} {x : MMsg} (h : l[k]? = some x) : worths (l.take (k + 1)) = worths (l.take k) + msgWorth x := by
  rw [List.take_add_one, h, worths_append]; simp [worths]

set_option maxHeartbeats 1000000 in
theorem iWorths_c {w : World} {A : Option Addr} {c : Nat} {l : List MMsg} (h : RV msgSL w (.slice A l.length c) l) (hm : l.length ≤ 16777216) : Calls Try.prog 47 #[.slice A l.length c] w fun e w' => e = .returned (.int .i64 (worths l)) ∧ Below w.heap.size w w' := by
  obtain ⟨A', c', he, hc1, hc2, hr⟩ := rv_slice h
  simp only [Value.slice.injEq, true_and] at he
  obtain ⟨rfl, rfl⟩ := he
  clear h
  go_enter Try.func47, Try.ntmps47
  go_wp2
  go_loopw [3, 8] (fun n i wr => ∃ (k : Nat) (z : Int), k ≤ l.length ∧ i = .int .i64 k ∧ n = .int .i64 z ∧ (0 ≤ z ∧ z ≤ 1000000000 * (k : Int)) ∧ Hid (z = worths (l.take k)) ∧ Below w.heap.size w wr) (fun _ i _ => l.length - (intOf i).toNat)
  case atStart => exact ⟨0, 0, Nat.zero_le _, rfl, rfl, ⟨by omega, by omega⟩, rfl, Below.refl _ _⟩
  case round =>
    obtain ⟨k, z, hk, rfl, rfl, hz, HZ, HB⟩ := hrel
    have hs := HB.size
    by_cases hlt : k < l.length
    case neg =>
      have hk2 : k = l.length := by omega
      subst hk2
      go_wp2
      go_ret
      exact ⟨ret_eq (by rw [HZ.out, List.take_of_length_le (Nat.le_refl _)]; rfl), HB⟩
    obtain ⟨x, hxe⟩ := get_of_lt hlt
    obtain ⟨b, off, rfl, hb, e0, e1, e2, e3⟩ := el_msg (hr.below HB) hxe
    have i1 : (k : Int) < (l.length : Int) := by omega
    obtain ⟨w1, a1, s1, b1, x_m⟩ := alloc_step wr 29 [.int .i64 x.Kind, .int .i64 x.Acct, .int .i64 x.Amt, .int .i64 x.Src]
    have m0 := x_m.cell (i := 0) rfl
    have m1 := x_m.cell (i := 1) rfl
    have m2 := x_m.cell (i := 2) rfl
    have m3 := x_m.cell (i := 3) rfl
    clear s1
    have B1 := HB.trans (b1.mono hs)
    have hwr := msgWorth_range x
    obtain ⟨y, hy⟩ : ∃ y, msgWorth x = y := ⟨_, rfl⟩
    rw [hy] at hwr
    have H2 : Hid (z + y = worths (l.take (k + 1))) := by show _ = _; rw [worths_take hxe, hy, HZ.out]
    have HY := Lib.hid hy
    clear hxe hy
    go_wp2_with fail
    refine (iMsgWorth_c (m := x) rv_msg_mk).mono ?_
    rintro e w2 ⟨rfl, h2⟩
    rw [HY.out]
    have B2 := B1.trans (h2.mono B1.size)
    go_wp2
    go_roundw
    case rel => exact ⟨k + 1, _, by omega, by go_num, rfl, by omega, H2, B2⟩
    case measure => simp [intOf]; omega

theorem ok_num {o : MOut} (h : outOkB o = true) : numB o.Next = true := by
  have := outOk_parts h
  unfold numB
  simp
  omega

set_option maxHeartbeats 4000000 in
theorem iQOk_c {w : World} {A : Option Addr} {c : Nat} {o : MOut} (h : RV msgSL w (.slice A o.List.length c) o.List) (hm : o.List.length ≤ 16777216) : Calls Try.prog 59 #[.agg #[.slice A o.List.length c, .int .i64 o.Next]] w fun e w' => e = .returned (.bool (outOkB o)) ∧ Below w.heap.size w w' := by
  obtain ⟨wa, hwa, B0, sa, x_a⟩ := frame1 w 64 [.slice A o.List.length c, .int .i64 o.Next]
  have sa_1 := Nat.le_of_eq sa
  have sa_2 := Nat.le_of_eq sa.symm
  clear sa
  have c_a_0_wa := x_a.cell (i := 0) rfl
  have c_a_1_wa := x_a.cell (i := 1) rfl
  by_cases hn : numB o.Next = true
  case neg =>
    have hn' : numB o.Next = false := by simpa using hn
    have HO : Hid (outOkB o = false) := by show _ = _; cases e : outOkB o; rfl; exact absurd (ok_num e) hn
    have HN := Lib.hid hn'
    clear hn hn'
    have kn : ∀ W, Calls Try.prog 64 #[.int .i64 o.Next] W fun e w' => e = .returned (.bool false) ∧ w' = W := fun W => (iNum_any _ W).mono (by rintro e w' ⟨rfl, rfl⟩; exact ⟨by rw [HN.out], rfl⟩)
    have kc : ∀ W, Calls Try.prog 60 #[.slice A o.List.length c] W fun e w' => e = .returned (.int .i64 (o.List.length : Int)) ∧ w' = W := fun W => (iCount_w _ _ _ W).mono (by rintro e w' ⟨rfl, rfl⟩; exact ⟨rfl, rfl⟩)
    go_enter Try.func59, Try.ntmps59
    go_wp2_with fail
    go_quiet (first | (go_at_call 64; exact Calls.quiet_of_same (kn _)) | (go_at_call 60; exact Calls.quiet_of_same (kc _)))
    have B9 := B0.trans (below_of_drew _ _ nq)
    go_wp2
    go_ret
    exact ⟨ret_eq (by rw [HO.out]; rfl), B9⟩
  have HN := Lib.hid hn
  have hn2 : 0 ≤ o.Next ∧ o.Next ≤ 1125899906842624 := by unfold numB at hn; simp at hn; omega
  clear hn
  by_cases h1 : 1 ≤ o.Next
  case neg =>
    have HO : Hid (outOkB o = false) := by show _ = _; cases e : outOkB o; rfl; have := outOk_parts e; omega
    have g1 : decide (1 ≤ o.Next) = false := decide_eq_false h1
    have kn : ∀ W, Calls Try.prog 64 #[.int .i64 o.Next] W fun e w' => e = .returned (.bool true) ∧ w' = W := fun W => (iNum_any _ W).mono (by rintro e w' ⟨rfl, rfl⟩; exact ⟨by rw [HN.out], rfl⟩)
    have kc : ∀ W, Calls Try.prog 60 #[.slice A o.List.length c] W fun e w' => e = .returned (.int .i64 (o.List.length : Int)) ∧ w' = W := fun W => (iCount_w _ _ _ W).mono (by rintro e w' ⟨rfl, rfl⟩; exact ⟨rfl, rfl⟩)
    go_enter Try.func59, Try.ntmps59
    go_wp2_with fail
    go_quiet (first | (go_at_call 64; exact Calls.quiet_of_same (kn _)) | (go_at_call 60; exact Calls.quiet_of_same (kc _)))
    have B9 := B0.trans (below_of_drew _ _ nq)
    go_wp2
    go_ret
    exact ⟨ret_eq (by rw [HO.out]; rfl), B9⟩
  have g1 : decide (1 ≤ o.Next) = true := decide_eq_true h1
  by_cases h2 : (o.List.length : Int) < o.Next
  case neg =>
    have HO : Hid (outOkB o = false) := by show _ = _; cases e : outOkB o; rfl; have := outOk_parts e; omega
    have g2 : decide ((o.List.length : Int) < o.Next) = false := decide_eq_false h2
    have kn : ∀ W, Calls Try.prog 64 #[.int .i64 o.Next] W fun e w' => e = .returned (.bool true) ∧ w' = W := fun W => (iNum_any _ W).mono (by rintro e w' ⟨rfl, rfl⟩; exact ⟨by rw [HN.out], rfl⟩)
    have kc : ∀ W, Calls Try.prog 60 #[.slice A o.List.length c] W fun e w' => e = .returned (.int .i64 (o.List.length : Int)) ∧ w' = W := fun W => (iCount_w _ _ _ W).mono (by rintro e w' ⟨rfl, rfl⟩; exact ⟨rfl, rfl⟩)
    go_enter Try.func59, Try.ntmps59
    go_wp2_with fail
    go_quiet (first | (go_at_call 64; exact Calls.quiet_of_same (kn _)) | (go_at_call 60; exact Calls.quiet_of_same (kc _)))
    have B9 := B0.trans (below_of_drew _ _ nq)
    go_wp2
    go_ret
    exact ⟨ret_eq (by rw [HO.out]; rfl), B9⟩
  have g2 : decide ((o.List.length : Int) < o.Next) = true := decide_eq_true h2
  by_cases h3 : (o.List.length : Int) ≤ 60
  case neg =>
    have HO : Hid (outOkB o = false) := by show _ = _; cases e : outOkB o; rfl; have := outOk_parts e; omega
    have g3 : decide ((o.List.length : Int) ≤ 60) = false := decide_eq_false h3
    have kn : ∀ W, Calls Try.prog 64 #[.int .i64 o.Next] W fun e w' => e = .returned (.bool true) ∧ w' = W := fun W => (iNum_any _ W).mono (by rintro e w' ⟨rfl, rfl⟩; exact ⟨by rw [HN.out], rfl⟩)
    have kc : ∀ W, Calls Try.prog 60 #[.slice A o.List.length c] W fun e w' => e = .returned (.int .i64 (o.List.length : Int)) ∧ w' = W := fun W => (iCount_w _ _ _ W).mono (by rintro e w' ⟨rfl, rfl⟩; exact ⟨rfl, rfl⟩)
    go_enter Try.func59, Try.ntmps59
    go_wp2_with fail
    go_quiet (first | (go_at_call 64; exact Calls.quiet_of_same (kn _)) | (go_at_call 60; exact Calls.quiet_of_same (kc _)))
    have B9 := B0.trans (below_of_drew _ _ nq)
    go_wp2
    go_ret
    exact ⟨ret_eq (by rw [HO.out]; rfl), B9⟩
  have g3 : decide ((o.List.length : Int) ≤ 60) = true := decide_eq_true h3
  obtain ⟨z, hz⟩ : ∃ z, o.List.all msgOkB = z := ⟨_, rfl⟩
  have HO : Hid (outOkB o = z) := by show _ = _; unfold outOkB; rw [hz, inB_true.2 ⟨h1, hn2.2⟩, decide_eq_true (by omega : o.List.length ≤ 60), decide_eq_true h2]; simp
  have HA := Lib.hid hz
  clear hz
  go_enter Try.func59, Try.ntmps59
  go_wp2_with fail
  go_region_held3 (fun w' => w'.cell? ⟨w.heap.size, 0, none⟩ = some (.slice A o.List.length c) ∧ w'.cell? ⟨w.heap.size, 1, none⟩ = some (.int .i64 o.Next))
    (first | exact ⟨c_a_0_wa, c_a_1_wa⟩ | exact ⟨qn_a_0, qn_a_1⟩ | exact ⟨qp_a_0, qp_a_1⟩ | exact ⟨qq_a_0, qq_a_1⟩ | exact ⟨qr_a_0, qr_a_1⟩ | go_keep)
    (first | ((go_at_call 65); (refine (iAllOk_c (h.from_ (B0.trans (hb_q.mono B0.size))) hm).mono ?_); rintro e w_r ⟨rfl, hd_r⟩; have hb_r : Below wa.heap.size wa w_r := hb_q.trans (hd_r.mono hb_q.size); have sd_r := hd_r.size; have qr_a_0 := (x_a.from_ hb_r).cell (i := 0) rfl; have qr_a_1 := (x_a.from_ hb_r).cell (i := 1) rfl; rw [HA.out])
           | ((go_at_call 60); (refine (iCount_b _ _ _ _).mono ?_); rintro e w_q ⟨rfl, hd_q⟩; have hb_q : Below wa.heap.size wa w_q := hb_p.trans (hd_q.mono hb_p.size); have sd_q := hd_q.size; have qq_a_0 := (x_a.from_ hb_q).cell (i := 0) rfl; have qq_a_1 := (x_a.from_ hb_q).cell (i := 1) rfl; have yq := hb_p)
           | ((go_at_call 60); (refine (iCount_b _ _ _ _).mono ?_); rintro e w_p ⟨rfl, hd_p⟩; have hb_p : Below wa.heap.size wa w_p := hb_n.trans (hd_p.mono hb_n.size); have sd_p := hd_p.size; have qp_a_0 := (x_a.from_ hb_p).cell (i := 0) rfl; have qp_a_1 := (x_a.from_ hb_p).cell (i := 1) rfl)
           | ((go_at_call 64); (refine (iNum_b _ _).mono ?_); rintro e w_n ⟨rfl, hd_n⟩; have hb_n : Below wa.heap.size wa w_n := (Below.refl wa.heap.size wa).drew.trans hd_n; have sd_n := hd_n.size; replace sd_n : wa.heap.size ≤ w_n.heap.size := sd_n; have qn_a_0 := (x_a.from_ hb_n).cell (i := 0) rfl; have qn_a_1 := (x_a.from_ hb_n).cell (i := 1) rfl; rw [HN.out])
           | fail)
  clear c_a_0_wa c_a_1_wa
  have dz_wa : wa.drew.heap.size = wa.heap.size := rfl
  replace x_a := x_a.from_ hb_r
  have B_r := B0.trans (hb_r.mono B0.size)
  have sz_r := hb_r.size
  go_wp2
  go_ret
  exact ⟨ret_eq (by rw [HO.out]; rfl), B_r⟩

end Go.Proofs.Ytpaodpkgpajboaa
