/- Boxes: the model, and the contracts of spec.OutNew, spec.OutOk, spec.OutFirst, spec.InTake. -/
import Derived.Test.YtpaodpkgpajboaaMsg1
import Derived.Test.YtpaodpkgpajboaaTOut
namespace Go.Proofs.Ytpaodpkgpajboaa
open Go.RowKit
set_option linter.unusedVariables false

def outOkB (o : MOut) : Bool := o.List.all msgOkB && (inB o.Next 1 1125899906842624 && (decide (o.List.length ≤ 60) && decide ((o.List.length : Int) < o.Next)))

theorem all_take_succ {α : Type} {p : α → Bool} {xs : List α} {k : Nat} {x : α} (h : (xs.take k).all p = true) (hx : xs[k]? = some x) (hp : p x = true) : (xs.take (k + 1)).all p = true := by
  rw [List.take_add_one, hx, List.all_append, h]
  simp [hp]
theorem all_false {α : Type} {p : α → Bool} {xs : List α} {k : Nat} {x : α} (hx : xs[k]? = some x) (hp : p x = false) : xs.all p = false := by
  rw [List.all_eq_false]
  exact ⟨x, List.mem_of_getElem? hx, by simp [hp]⟩

set_option maxHeartbeats 1000000 in
theorem sOutOk_c {w : World} {v : Value} {o : MOut} (h : RV outL w v o) (hm : o.List.length ≤ 16777216) : Calls Try.prog 28 #[v] w fun e w' => e = .returned (.bool (outOkB o)) ∧ Below w.heap.size w w' := by
  obtain ⟨A, c, rfl, hr0⟩ := rv_out h
  obtain ⟨A', c', he, hc1, hc2, hr⟩ := rv_slice hr0
  simp only [Value.slice.injEq, true_and] at he
  obtain ⟨rfl, rfl⟩ := he
  obtain ⟨wa, hwa, B0, sa, x_a⟩ := frame1 w 26 [.int .i64 o.Next, .slice A o.List.length c]
  have sa_1 := Nat.le_of_eq sa
  have sa_2 := Nat.le_of_eq sa.symm
  clear sa h
  have c0 := x_a.cell (i := 0) rfl
  have c1 := x_a.cell (i := 1) rfl
  go_enter Try.func28, Try.ntmps28
  go_wp2
  go_loopw [8] (fun i wr => ∃ k : Nat, k ≤ o.List.length ∧ i = .int .i64 k ∧ Hid ((o.List.take k).all msgOkB = true) ∧ Vr wr w.heap.size 26 [.int .i64 o.Next, .slice A o.List.length c] ∧ Below w.heap.size w wr) (fun i _ => o.List.length - (intOf i).toNat)
  case atStart => exact ⟨0, Nat.zero_le _, rfl, rfl, x_a, B0⟩
  case round =>
    obtain ⟨k, hk, rfl, HT, x_r, HB⟩ := hrel
    have hs := HB.size
    have d0 := x_r.cell (i := 0) rfl
    have d1 := x_r.cell (i := 1) rfl
    by_cases hlt : k < o.List.length
    · obtain ⟨x, hxe⟩ := get_of_lt hlt
      obtain ⟨b, off, rfl, hb, e0, e1, e2, e3⟩ := el_msg (hr.below HB) hxe
      have i1 : (k : Int) < (o.List.length : Int) := by omega
      clear c0 c1 hwa
      obtain ⟨w1, a1, s1, b1, x_m⟩ := alloc_step wr 29 [.int .i64 x.Kind, .int .i64 x.Acct, .int .i64 x.Amt, .int .i64 x.Src]
      have s1_1 := Nat.le_of_eq s1
      have s1_2 := Nat.le_of_eq s1.symm
      have m0 := x_m.cell (i := 0) rfl
      have m1 := x_m.cell (i := 1) rfl
      have m2 := x_m.cell (i := 2) rfl
      have m3 := x_m.cell (i := 3) rfl
      clear s1
      replace x_r := x_r.from_ b1
      have B1 := HB.trans (b1.mono hs)
      by_cases hok : msgOkB x = true
      · have HK := Lib.hid hok
        have HT2 : Hid ((o.List.take (k + 1)).all msgOkB = true) := all_take_succ HT.out hxe hok
        clear hok hxe
        go_wp2_with fail
        refine (sMsgOk_c (m := x) rv_msg_mk).mono ?_
        rintro e w2 ⟨rfl, h2⟩
        rw [HK.out]
        have x2 := x_r.from_ h2
        have B2 := B1.trans (h2.mono B1.size)
        go_wp2
        go_roundw
        case rel => exact ⟨k + 1, by omega, by go_num, HT2, x2, B2⟩
        case measure => simp [intOf]; omega
      · have hok' : msgOkB x = false := by simpa using hok
        have HK := Lib.hid hok'
        have HO : Hid (outOkB o = false) := by show _ = _; unfold outOkB; rw [all_false hxe hok']; rfl
        clear hok hok' hxe
        go_wp2_with fail
        refine (sMsgOk_c (m := x) rv_msg_mk).mono ?_
        rintro e w2 ⟨rfl, h2⟩
        rw [HK.out]
        have B2 := B1.trans (h2.mono B1.size)
        go_wp2
        go_ret
        exact ⟨ret_eq (by rw [HO.out]; rfl), B2⟩
    · have hk2 : k = o.List.length := by omega
      subst hk2
      have hall : o.List.all msgOkB = true := by have := HT.out; rwa [List.take_of_length_le (Nat.le_refl _)] at this
      by_cases hin : inB o.Next 1 1125899906842624 = true
      case neg =>
        have hin' : inB o.Next 1 1125899906842624 = false := by simpa using hin
        have HI := Lib.hid hin'
        have HO : Hid (outOkB o = false) := by show _ = _; unfold outOkB; rw [hin']; simp
        clear hin hin' hall
        go_wp2_with fail
        refine (sIn_any _ _ _ _).mono ?_
        rintro e w2 ⟨rfl, rfl⟩
        rw [HI.out]
        go_wp2
        go_ret
        exact ⟨ret_eq (by rw [HO.out]; rfl), HB⟩
      have HI := Lib.hid hin
      have hn := hin
      rw [inB_true] at hn
      by_cases hl : o.List.length ≤ 60
      case neg =>
        have HO : Hid (outOkB o = false) := by show _ = _; unfold outOkB; rw [decide_eq_false hl]; simp
        have g : decide ((o.List.length : Int) ≤ 60) = false := by simp; omega
        clear hin hall
        go_wp2_with fail
        refine (sIn_any _ _ _ _).mono ?_
        rintro e w2 ⟨rfl, rfl⟩
        rw [HI.out]
        go_wp2
        go_ret
        exact ⟨ret_eq (by rw [HO.out]; rfl), HB⟩
      have HO : Hid (outOkB o = decide ((o.List.length : Int) < o.Next)) := by show _ = _; unfold outOkB; rw [hall, hin, decide_eq_true hl]; simp
      have g : decide ((o.List.length : Int) ≤ 60) = true := by simp; omega
      clear hin hall
      go_wp2_with fail
      refine (sIn_any _ _ _ _).mono ?_
      rintro e w2 ⟨rfl, rfl⟩
      rw [HI.out]
      go_wp2
      go_ret
      exact ⟨ret_eq (by rw [HO.out]; rfl), HB⟩

end Go.Proofs.Ytpaodpkgpajboaa
