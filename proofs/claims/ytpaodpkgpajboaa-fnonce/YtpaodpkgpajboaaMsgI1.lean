/- Contract of impl.MsgWorth: a switch over the types of letters. -/
import Derived.Test.YtpaodpkgpajboaaMsgI0
namespace Go.Proofs.Ytpaodpkgpajboaa
open Go.RowKit
set_option linter.unusedVariables false

theorem ta_1_1 (v : Value) (w : World) : (Instr.typeAssert (.iface 87 v) 84 87 true).run Try.prog w = .ok (.tuple #[v, .bool true]) w := by kernel_rfl

theorem ta_1_2 (v : Value) (w : World) : (Instr.typeAssert (.iface 87 v) 84 88 true).run Try.prog w = .ok (.tuple #[.agg #[.int .i64 0, .int .i64 0, .int .i64 0, .int .i64 0], .bool false]) w := by kernel_rfl

theorem ta_1_3 (v : Value) (w : World) : (Instr.typeAssert (.iface 87 v) 84 89 true).run Try.prog w = .ok (.tuple #[.agg #[.int .i64 0, .int .i64 0, .int .i64 0, .int .i64 0], .bool false]) w := by kernel_rfl

theorem ta_2_1 (v : Value) (w : World) : (Instr.typeAssert (.iface 88 v) 84 87 true).run Try.prog w = .ok (.tuple #[.agg #[.int .i64 0, .int .i64 0, .int .i64 0, .int .i64 0], .bool false]) w := by kernel_rfl

theorem ta_2_2 (v : Value) (w : World) : (Instr.typeAssert (.iface 88 v) 84 88 true).run Try.prog w = .ok (.tuple #[v, .bool true]) w := by kernel_rfl

theorem ta_2_3 (v : Value) (w : World) : (Instr.typeAssert (.iface 88 v) 84 89 true).run Try.prog w = .ok (.tuple #[.agg #[.int .i64 0, .int .i64 0, .int .i64 0, .int .i64 0], .bool false]) w := by kernel_rfl

theorem ta_3_1 (v : Value) (w : World) : (Instr.typeAssert (.iface 89 v) 84 87 true).run Try.prog w = .ok (.tuple #[.agg #[.int .i64 0, .int .i64 0, .int .i64 0, .int .i64 0], .bool false]) w := by kernel_rfl

theorem ta_3_2 (v : Value) (w : World) : (Instr.typeAssert (.iface 89 v) 84 88 true).run Try.prog w = .ok (.tuple #[.agg #[.int .i64 0, .int .i64 0, .int .i64 0, .int .i64 0], .bool false]) w := by kernel_rfl

theorem ta_3_3 (v : Value) (w : World) : (Instr.typeAssert (.iface 89 v) 84 89 true).run Try.prog w = .ok (.tuple #[v, .bool true]) w := by kernel_rfl

theorem ta_4_1 (v : Value) (w : World) : (Instr.typeAssert (.iface 90 v) 84 87 true).run Try.prog w = .ok (.tuple #[.agg #[.int .i64 0, .int .i64 0, .int .i64 0, .int .i64 0], .bool false]) w := by kernel_rfl

theorem ta_4_2 (v : Value) (w : World) : (Instr.typeAssert (.iface 90 v) 84 88 true).run Try.prog w = .ok (.tuple #[.agg #[.int .i64 0, .int .i64 0, .int .i64 0, .int .i64 0], .bool false]) w := by kernel_rfl

theorem ta_4_3 (v : Value) (w : World) : (Instr.typeAssert (.iface 90 v) 84 89 true).run Try.prog w = .ok (.tuple #[.agg #[.int .i64 0, .int .i64 0, .int .i64 0, .int .i64 0], .bool false]) w := by kernel_rfl

theorem ta_5_1 (v : Value) (w : World) : (Instr.typeAssert (.iface 91 v) 84 87 true).run Try.prog w = .ok (.tuple #[.agg #[.int .i64 0, .int .i64 0, .int .i64 0, .int .i64 0], .bool false]) w := by kernel_rfl

theorem ta_5_2 (v : Value) (w : World) : (Instr.typeAssert (.iface 91 v) 84 88 true).run Try.prog w = .ok (.tuple #[.agg #[.int .i64 0, .int .i64 0, .int .i64 0, .int .i64 0], .bool false]) w := by kernel_rfl

theorem ta_5_3 (v : Value) (w : World) : (Instr.typeAssert (.iface 91 v) 84 89 true).run Try.prog w = .ok (.tuple #[.agg #[.int .i64 0, .int .i64 0, .int .i64 0, .int .i64 0], .bool false]) w := by kernel_rfl

theorem worth_no {m : MMsg} (h : msgOkB m = false) : msgWorth m = 0 := by unfold msgWorth; rw [h]; simp
theorem worth_ok {m : MMsg} (h : msgOkB m = true) : msgWorth m = if m.Kind ≤ 3 then m.Amt else 0 := by unfold msgWorth; rw [h]; simp

set_option maxHeartbeats 4000000 in
theorem iMsgWorth_c {w : World} {v : Value} {m : MMsg} (h : RV msgL w v m) : Calls Try.prog 61 #[v] w fun e w' => e = .returned (.int .i64 (msgWorth m)) ∧ Below w.heap.size w w' := by
  have h' := h
  obtain rfl := rv_msg h'
  clear h' h
  obtain ⟨k, a, b, s⟩ := m
  obtain ⟨wa, hwa, B0, sa, x_a⟩ := frame1 w 29 [.int .i64 k, .int .i64 a, .int .i64 b, .int .i64 s]
  have c0 := x_a.cell (i := 0) rfl
  have c1 := x_a.cell (i := 1) rfl
  have c2 := x_a.cell (i := 2) rfl
  have c3 := x_a.cell (i := 3) rfl
  clear sa
  by_cases hk : 1 ≤ k ∧ k ≤ 5
  case neg =>
    have HK := Lib.hid hk
    clear hk
    go_enter Try.func61, Try.ntmps61
    go_wp2_with fail
    refine (valid0_c _ _ _ _ _ HK.out).mono ?_
    rintro e w1 ⟨rfl, h1⟩
    go_wp2
    go_ret
    exact ⟨by rw [worth_no (ok0 _ _ _ _ HK.out)]; rfl, B0.trans (h1.mono B0.size)⟩
  have h5 : k = 1 ∨ k = 2 ∨ k = 3 ∨ k = 4 ∨ k = 5 := by omega
  clear hk
  rcases h5 with rfl | rfl | rfl | rfl | rfl
  · by_cases ho : msgOkB ⟨1, a, b, s⟩ = true
    · have HO := Lib.hid ho
      clear ho
      go_enter Try.func61, Try.ntmps61
      go_wp2_with fail
      refine (valid1_c _ _ _ _).mono ?_
      rintro e w1 ⟨rfl, h1⟩
      rw [if_pos HO.out]
      replace x_a := x_a.from_ h1
      have d2 := x_a.cell (i := 2) rfl
      have t1 := fun v w => ta_1_1 v w
      have t2 := fun v w => ta_1_2 v w
      have t3 := fun v w => ta_1_3 v w
      go_wp2
      go_ret
      exact ⟨by rw [worth_ok HO.out]; rfl, B0.trans (h1.mono B0.size)⟩
    · have ho' : msgOkB ⟨1, a, b, s⟩ = false := by simpa using ho
      have HO := Lib.hid ho'
      clear ho ho'
      go_enter Try.func61, Try.ntmps61
      go_wp2_with fail
      refine (valid1_c _ _ _ _).mono ?_
      rintro e w1 ⟨rfl, h1⟩
      rw [if_neg (by rw [HO.out]; decide)]
      go_wp2
      go_ret
      exact ⟨by rw [worth_no (HO.out)]; rfl, B0.trans (h1.mono B0.size)⟩
  · by_cases ho : msgOkB ⟨2, a, b, s⟩ = true
    · have HO := Lib.hid ho
      clear ho
      go_enter Try.func61, Try.ntmps61
      go_wp2_with fail
      refine (valid2_c _ _ _ _).mono ?_
      rintro e w1 ⟨rfl, h1⟩
      rw [if_pos HO.out]
      replace x_a := x_a.from_ h1
      have d2 := x_a.cell (i := 2) rfl
      have t1 := fun v w => ta_2_1 v w
      have t2 := fun v w => ta_2_2 v w
      have t3 := fun v w => ta_2_3 v w
      go_wp2
      go_ret
      exact ⟨by rw [worth_ok HO.out]; rfl, B0.trans (h1.mono B0.size)⟩
    · have ho' : msgOkB ⟨2, a, b, s⟩ = false := by simpa using ho
      have HO := Lib.hid ho'
      clear ho ho'
      go_enter Try.func61, Try.ntmps61
      go_wp2_with fail
      refine (valid2_c _ _ _ _).mono ?_
      rintro e w1 ⟨rfl, h1⟩
      rw [if_neg (by rw [HO.out]; decide)]
      go_wp2
      go_ret
      exact ⟨by rw [worth_no (HO.out)]; rfl, B0.trans (h1.mono B0.size)⟩
  · by_cases ho : msgOkB ⟨3, a, b, s⟩ = true
    · have HO := Lib.hid ho
      clear ho
      go_enter Try.func61, Try.ntmps61
      go_wp2_with fail
      refine (valid3_c _ _ _ _).mono ?_
      rintro e w1 ⟨rfl, h1⟩
      rw [if_pos HO.out]
      replace x_a := x_a.from_ h1
      have d2 := x_a.cell (i := 2) rfl
      have t1 := fun v w => ta_3_1 v w
      have t2 := fun v w => ta_3_2 v w
      have t3 := fun v w => ta_3_3 v w
      go_wp2
      go_ret
      exact ⟨by rw [worth_ok HO.out]; rfl, B0.trans (h1.mono B0.size)⟩
    · have ho' : msgOkB ⟨3, a, b, s⟩ = false := by simpa using ho
      have HO := Lib.hid ho'
      clear ho ho'
      go_enter Try.func61, Try.ntmps61
      go_wp2_with fail
      refine (valid3_c _ _ _ _).mono ?_
      rintro e w1 ⟨rfl, h1⟩
      rw [if_neg (by rw [HO.out]; decide)]
      go_wp2
      go_ret
      exact ⟨by rw [worth_no (HO.out)]; rfl, B0.trans (h1.mono B0.size)⟩
  · by_cases ho : msgOkB ⟨4, a, b, s⟩ = true
    · have HO := Lib.hid ho
      clear ho
      go_enter Try.func61, Try.ntmps61
      go_wp2_with fail
      refine (valid4_c _ _ _ _).mono ?_
      rintro e w1 ⟨rfl, h1⟩
      rw [if_pos HO.out]
      replace x_a := x_a.from_ h1
      have d2 := x_a.cell (i := 2) rfl
      have t1 := fun v w => ta_4_1 v w
      have t2 := fun v w => ta_4_2 v w
      have t3 := fun v w => ta_4_3 v w
      go_wp2
      go_ret
      exact ⟨by rw [worth_ok HO.out]; rfl, B0.trans (h1.mono B0.size)⟩
    · have ho' : msgOkB ⟨4, a, b, s⟩ = false := by simpa using ho
      have HO := Lib.hid ho'
      clear ho ho'
      go_enter Try.func61, Try.ntmps61
      go_wp2_with fail
      refine (valid4_c _ _ _ _).mono ?_
      rintro e w1 ⟨rfl, h1⟩
      rw [if_neg (by rw [HO.out]; decide)]
      go_wp2
      go_ret
      exact ⟨by rw [worth_no (HO.out)]; rfl, B0.trans (h1.mono B0.size)⟩
  · by_cases ho : msgOkB ⟨5, a, b, s⟩ = true
    · have HO := Lib.hid ho
      clear ho
      go_enter Try.func61, Try.ntmps61
      go_wp2_with fail
      refine (valid5_c _ _ _ _).mono ?_
      rintro e w1 ⟨rfl, h1⟩
      rw [if_pos HO.out]
      replace x_a := x_a.from_ h1
      have d2 := x_a.cell (i := 2) rfl
      have t1 := fun v w => ta_5_1 v w
      have t2 := fun v w => ta_5_2 v w
      have t3 := fun v w => ta_5_3 v w
      go_wp2
      go_ret
      exact ⟨by rw [worth_ok HO.out]; rfl, B0.trans (h1.mono B0.size)⟩
    · have ho' : msgOkB ⟨5, a, b, s⟩ = false := by simpa using ho
      have HO := Lib.hid ho'
      clear ho ho'
      go_enter Try.func61, Try.ntmps61
      go_wp2_with fail
      refine (valid5_c _ _ _ _).mono ?_
      rintro e w1 ⟨rfl, h1⟩
      rw [if_neg (by rw [HO.out]; decide)]
      go_wp2
      go_ret
      exact ⟨by rw [worth_no (HO.out)]; rfl, B0.trans (h1.mono B0.size)⟩

end Go.Proofs.Ytpaodpkgpajboaa
