/- Records: the contract of spec.RecText. Laid by a program of ours (src/rc5.py). -/
import Derived.Test.YtkbhbccpmmhelaaDoorBunR
import Derived.Test.YtkbhbccpmmhelaaDoorBunT
namespace Go.Proofs.YtkbhbccpmmhelaaDoor
open Go.RowKit
set_option linter.unusedVariables false
set_option linter.unusedSimpArgs false

set_option maxRecDepth 100000 in
set_option maxHeartbeats 8000000 in
theorem sRecText_1 {w : World} {r : MRec} (ek : r.Kind = 1) (ho : recOkB r = true) : Calls Tryd.prog 17 #[.agg #[.int .i64 r.Kind, .int .i64 r.Acct, .int .i64 r.Other, .int .i64 r.To, .int .i64 r.Amt, .int .i64 r.M.Kind, .int .i64 r.M.Acct, .int .i64 r.M.Amt, .int .i64 r.M.Src]] w fun e w' => e = .returned (.string (recText r)) ∧ Below w.heap.size w w' := by
  have HR : Hid (recOkB r = true) := Lib.hid ho
  obtain ⟨s0, hs0⟩ : ∃ s, rkName 1 = s := ⟨_, rfl⟩
  have zs0 : s0.size ≤ 5 := by rw [← hs0]; decide
  have Hs0 := Lib.hid hs0
  obtain ⟨sAcct, hsAcct⟩ : ∃ s, numText r.Acct = s := ⟨_, rfl⟩
  have zsAcct : sAcct.size ≤ 16 := by rw [← hsAcct]; exact numText_size _
  have HsAcct := Lib.hid hsAcct
  obtain ⟨sAmt, hsAmt⟩ : ∃ s, numText r.Amt = s := ⟨_, rfl⟩
  have zsAmt : sAmt.size ≤ 16 := by rw [← hsAmt]; exact numText_size _
  have HsAmt := Lib.hid hsAmt
  have HP : recText r = s0 ++ ⟨#[32]⟩ ++ sAcct ++ ⟨#[32]⟩ ++ sAmt := by
    unfold recText
    rw [if_pos ho]
    have e1 : recFields r = [numText r.Acct, numText r.Amt] := by simp [recFields, kAcct, kOther, kTo, kAmt, ek]
    rw [recWords, e1, if_neg (by omega), List.append_nil, ek, hs0, hsAcct, hsAmt]
    rfl
  obtain ⟨t1, ht1⟩ : ∃ t, s0 ++ (⟨#[32]⟩ : ByteArray) = t := ⟨_, rfl⟩
  have zt1 : t1.size ≤ 6 := by rw [← ht1, ByteArray.size_append]; have h1 : (⟨#[32]⟩ : ByteArray).size = 1 := rfl; omega
  have kt1 : ∀ W, (Op.stringOp .add s0 (⟨#[32]⟩ : ByteArray)).run Tryd.prog W = .ok (.string t1) W := fun W => by rw [← ht1]; exact run_string_add_sum W _ _ (by have h1 : (⟨#[32]⟩ : ByteArray).size = 1 := rfl; omega)
  obtain ⟨t2, ht2⟩ : ∃ t, t1 ++ sAcct = t := ⟨_, rfl⟩
  have zt2 : t2.size ≤ 22 := by rw [← ht2, ByteArray.size_append]; omega
  have kt2 : ∀ W, (Op.stringOp .add t1 sAcct).run Tryd.prog W = .ok (.string t2) W := fun W => by rw [← ht2]; exact run_string_add_sum W _ _ (by omega)
  obtain ⟨t3, ht3⟩ : ∃ t, t2 ++ (⟨#[32]⟩ : ByteArray) = t := ⟨_, rfl⟩
  have zt3 : t3.size ≤ 23 := by rw [← ht3, ByteArray.size_append]; have h1 : (⟨#[32]⟩ : ByteArray).size = 1 := rfl; omega
  have kt3 : ∀ W, (Op.stringOp .add t2 (⟨#[32]⟩ : ByteArray)).run Tryd.prog W = .ok (.string t3) W := fun W => by rw [← ht3]; exact run_string_add_sum W _ _ (by have h1 : (⟨#[32]⟩ : ByteArray).size = 1 := rfl; omega)
  obtain ⟨t4, ht4⟩ : ∃ t, t3 ++ sAmt = t := ⟨_, rfl⟩
  have zt4 : t4.size ≤ 39 := by rw [← ht4, ByteArray.size_append]; omega
  have kt4 : ∀ W, (Op.stringOp .add t3 sAmt).run Tryd.prog W = .ok (.string t4) W := fun W => by rw [← ht4]; exact run_string_add_sum W _ _ (by omega)
  have HP2 : Hid (recText r = t4) := by show _ = _; rw [HP, ht1, ht2, ht3, ht4]
  clear HP ho ht1 ht2 ht3 ht4 hs0 hsAcct hsAmt
  obtain ⟨wa, hwa, B0, sa, x_a⟩ := frame1 w 26 [.int .i64 r.Kind, .int .i64 r.Acct, .int .i64 r.Other, .int .i64 r.To, .int .i64 r.Amt, .int .i64 r.M.Kind, .int .i64 r.M.Acct, .int .i64 r.M.Amt, .int .i64 r.M.Src]
  have sa_1 := Nat.le_of_eq sa
  have sa_2 := Nat.le_of_eq sa.symm
  clear sa
  rw [ek] at x_a hwa ⊢
  have rv : RV recL w (.agg #[.int .i64 1, .int .i64 r.Acct, .int .i64 r.Other, .int .i64 r.To, .int .i64 r.Amt, .int .i64 r.M.Kind, .int .i64 r.M.Acct, .int .i64 r.M.Amt, .int .i64 r.M.Src]) r := by rw [← ek]; exact rv_rec_mk
  clear ek
  have c_a_0_wa := x_a.cell (i := 0) rfl
  have c_a_1_wa := x_a.cell (i := 1) rfl
  have c_a_2_wa := x_a.cell (i := 2) rfl
  have c_a_3_wa := x_a.cell (i := 3) rfl
  have c_a_4_wa := x_a.cell (i := 4) rfl
  have c_a_5_wa := x_a.cell (i := 5) rfl
  have c_a_6_wa := x_a.cell (i := 6) rfl
  have c_a_7_wa := x_a.cell (i := 7) rfl
  have c_a_8_wa := x_a.cell (i := 8) rfl
  go_enter Tryd.func17, Tryd.ntmps17
  go_wp2_with fail
  refine (sRecOk_c (rv.from_ B0)).mono ?_
  rintro e w1 ⟨rfl, h_w1⟩
  clear c_a_0_wa c_a_1_wa c_a_2_wa c_a_3_wa c_a_4_wa c_a_5_wa c_a_6_wa c_a_7_wa c_a_8_wa
  replace x_a := x_a.from_ h_w1
  have B_w1 := B0.trans (h_w1.mono B0.size)
  have s_w1 := h_w1.size
  clear rv
  rw [HR.out]
  have c_a_0_w1 := x_a.cell (i := 0) rfl
  have c_a_1_w1 := x_a.cell (i := 1) rfl
  have c_a_2_w1 := x_a.cell (i := 2) rfl
  have c_a_3_w1 := x_a.cell (i := 3) rfl
  have c_a_4_w1 := x_a.cell (i := 4) rfl
  have c_a_5_w1 := x_a.cell (i := 5) rfl
  have c_a_6_w1 := x_a.cell (i := 6) rfl
  have c_a_7_w1 := x_a.cell (i := 7) rfl
  have c_a_8_w1 := x_a.cell (i := 8) rfl
  go_wp2_with fail
  refine (sHas_1 _).mono ?_
  rintro e w' ⟨rfl, rfl⟩
  go_wp2_with fail
  refine (sRkName_c _ _).mono ?_
  rintro e w2 ⟨rfl, h_w2⟩
  clear c_a_0_w1 c_a_1_w1 c_a_2_w1 c_a_3_w1 c_a_4_w1 c_a_5_w1 c_a_6_w1 c_a_7_w1 c_a_8_w1
  replace x_a := x_a.from_ h_w2
  have B_w2 := B_w1.trans (h_w2.mono B_w1.size)
  have s_w2 := h_w2.size
  rw [Hs0.out]
  have c_a_0_w2 := x_a.cell (i := 0) rfl
  have c_a_1_w2 := x_a.cell (i := 1) rfl
  have c_a_2_w2 := x_a.cell (i := 2) rfl
  have c_a_3_w2 := x_a.cell (i := 3) rfl
  have c_a_4_w2 := x_a.cell (i := 4) rfl
  have c_a_5_w2 := x_a.cell (i := 5) rfl
  have c_a_6_w2 := x_a.cell (i := 6) rfl
  have c_a_7_w2 := x_a.cell (i := 7) rfl
  have c_a_8_w2 := x_a.cell (i := 8) rfl
  go_wp2_with fail
  refine (sNumText_any _ _).mono ?_
  rintro e w3 ⟨rfl, h_w3⟩
  clear c_a_0_w2 c_a_1_w2 c_a_2_w2 c_a_3_w2 c_a_4_w2 c_a_5_w2 c_a_6_w2 c_a_7_w2 c_a_8_w2
  replace x_a := x_a.from_ h_w3
  have B_w3 := B_w2.trans (h_w3.mono B_w2.size)
  have s_w3 := h_w3.size
  rw [HsAcct.out]
  have c_a_0_w3 := x_a.cell (i := 0) rfl
  have c_a_1_w3 := x_a.cell (i := 1) rfl
  have c_a_2_w3 := x_a.cell (i := 2) rfl
  have c_a_3_w3 := x_a.cell (i := 3) rfl
  have c_a_4_w3 := x_a.cell (i := 4) rfl
  have c_a_5_w3 := x_a.cell (i := 5) rfl
  have c_a_6_w3 := x_a.cell (i := 6) rfl
  have c_a_7_w3 := x_a.cell (i := 7) rfl
  have c_a_8_w3 := x_a.cell (i := 8) rfl
  go_wp2_with fail
  refine (sNumText_any _ _).mono ?_
  rintro e w4 ⟨rfl, h_w4⟩
  clear c_a_0_w3 c_a_1_w3 c_a_2_w3 c_a_3_w3 c_a_4_w3 c_a_5_w3 c_a_6_w3 c_a_7_w3 c_a_8_w3
  replace x_a := x_a.from_ h_w4
  have B_w4 := B_w3.trans (h_w4.mono B_w3.size)
  have s_w4 := h_w4.size
  rw [HsAmt.out]
  have c_a_0_w4 := x_a.cell (i := 0) rfl
  have c_a_1_w4 := x_a.cell (i := 1) rfl
  have c_a_2_w4 := x_a.cell (i := 2) rfl
  have c_a_3_w4 := x_a.cell (i := 3) rfl
  have c_a_4_w4 := x_a.cell (i := 4) rfl
  have c_a_5_w4 := x_a.cell (i := 5) rfl
  have c_a_6_w4 := x_a.cell (i := 6) rfl
  have c_a_7_w4 := x_a.cell (i := 7) rfl
  have c_a_8_w4 := x_a.cell (i := 8) rfl
  go_wp2
  go_ret
  exact ⟨ret_eq (by rw [HP2.out]; rfl), B_w4⟩

set_option maxRecDepth 100000 in
set_option maxHeartbeats 8000000 in
theorem sRecText_2 {w : World} {r : MRec} (ek : r.Kind = 2) (ho : recOkB r = true) : Calls Tryd.prog 17 #[.agg #[.int .i64 r.Kind, .int .i64 r.Acct, .int .i64 r.Other, .int .i64 r.To, .int .i64 r.Amt, .int .i64 r.M.Kind, .int .i64 r.M.Acct, .int .i64 r.M.Amt, .int .i64 r.M.Src]] w fun e w' => e = .returned (.string (recText r)) ∧ Below w.heap.size w w' := by
  have HR : Hid (recOkB r = true) := Lib.hid ho
  obtain ⟨s0, hs0⟩ : ∃ s, rkName 2 = s := ⟨_, rfl⟩
  have zs0 : s0.size ≤ 5 := by rw [← hs0]; decide
  have Hs0 := Lib.hid hs0
  obtain ⟨sAcct, hsAcct⟩ : ∃ s, numText r.Acct = s := ⟨_, rfl⟩
  have zsAcct : sAcct.size ≤ 16 := by rw [← hsAcct]; exact numText_size _
  have HsAcct := Lib.hid hsAcct
  obtain ⟨sAmt, hsAmt⟩ : ∃ s, numText r.Amt = s := ⟨_, rfl⟩
  have zsAmt : sAmt.size ≤ 16 := by rw [← hsAmt]; exact numText_size _
  have HsAmt := Lib.hid hsAmt
  have HP : recText r = s0 ++ ⟨#[32]⟩ ++ sAcct ++ ⟨#[32]⟩ ++ sAmt := by
    unfold recText
    rw [if_pos ho]
    have e1 : recFields r = [numText r.Acct, numText r.Amt] := by simp [recFields, kAcct, kOther, kTo, kAmt, ek]
    rw [recWords, e1, if_neg (by omega), List.append_nil, ek, hs0, hsAcct, hsAmt]
    rfl
  obtain ⟨t1, ht1⟩ : ∃ t, s0 ++ (⟨#[32]⟩ : ByteArray) = t := ⟨_, rfl⟩
  have zt1 : t1.size ≤ 6 := by rw [← ht1, ByteArray.size_append]; have h1 : (⟨#[32]⟩ : ByteArray).size = 1 := rfl; omega
  have kt1 : ∀ W, (Op.stringOp .add s0 (⟨#[32]⟩ : ByteArray)).run Tryd.prog W = .ok (.string t1) W := fun W => by rw [← ht1]; exact run_string_add_sum W _ _ (by have h1 : (⟨#[32]⟩ : ByteArray).size = 1 := rfl; omega)
  obtain ⟨t2, ht2⟩ : ∃ t, t1 ++ sAcct = t := ⟨_, rfl⟩
  have zt2 : t2.size ≤ 22 := by rw [← ht2, ByteArray.size_append]; omega
  have kt2 : ∀ W, (Op.stringOp .add t1 sAcct).run Tryd.prog W = .ok (.string t2) W := fun W => by rw [← ht2]; exact run_string_add_sum W _ _ (by omega)
  obtain ⟨t3, ht3⟩ : ∃ t, t2 ++ (⟨#[32]⟩ : ByteArray) = t := ⟨_, rfl⟩
  have zt3 : t3.size ≤ 23 := by rw [← ht3, ByteArray.size_append]; have h1 : (⟨#[32]⟩ : ByteArray).size = 1 := rfl; omega
  have kt3 : ∀ W, (Op.stringOp .add t2 (⟨#[32]⟩ : ByteArray)).run Tryd.prog W = .ok (.string t3) W := fun W => by rw [← ht3]; exact run_string_add_sum W _ _ (by have h1 : (⟨#[32]⟩ : ByteArray).size = 1 := rfl; omega)
  obtain ⟨t4, ht4⟩ : ∃ t, t3 ++ sAmt = t := ⟨_, rfl⟩
  have zt4 : t4.size ≤ 39 := by rw [← ht4, ByteArray.size_append]; omega
  have kt4 : ∀ W, (Op.stringOp .add t3 sAmt).run Tryd.prog W = .ok (.string t4) W := fun W => by rw [← ht4]; exact run_string_add_sum W _ _ (by omega)
  have HP2 : Hid (recText r = t4) := by show _ = _; rw [HP, ht1, ht2, ht3, ht4]
  clear HP ho ht1 ht2 ht3 ht4 hs0 hsAcct hsAmt
  obtain ⟨wa, hwa, B0, sa, x_a⟩ := frame1 w 26 [.int .i64 r.Kind, .int .i64 r.Acct, .int .i64 r.Other, .int .i64 r.To, .int .i64 r.Amt, .int .i64 r.M.Kind, .int .i64 r.M.Acct, .int .i64 r.M.Amt, .int .i64 r.M.Src]
  have sa_1 := Nat.le_of_eq sa
  have sa_2 := Nat.le_of_eq sa.symm
  clear sa
  rw [ek] at x_a hwa ⊢
  have rv : RV recL w (.agg #[.int .i64 2, .int .i64 r.Acct, .int .i64 r.Other, .int .i64 r.To, .int .i64 r.Amt, .int .i64 r.M.Kind, .int .i64 r.M.Acct, .int .i64 r.M.Amt, .int .i64 r.M.Src]) r := by rw [← ek]; exact rv_rec_mk
  clear ek
  have c_a_0_wa := x_a.cell (i := 0) rfl
  have c_a_1_wa := x_a.cell (i := 1) rfl
  have c_a_2_wa := x_a.cell (i := 2) rfl
  have c_a_3_wa := x_a.cell (i := 3) rfl
  have c_a_4_wa := x_a.cell (i := 4) rfl
  have c_a_5_wa := x_a.cell (i := 5) rfl
  have c_a_6_wa := x_a.cell (i := 6) rfl
  have c_a_7_wa := x_a.cell (i := 7) rfl
  have c_a_8_wa := x_a.cell (i := 8) rfl
  go_enter Tryd.func17, Tryd.ntmps17
  go_wp2_with fail
  refine (sRecOk_c (rv.from_ B0)).mono ?_
  rintro e w1 ⟨rfl, h_w1⟩
  clear c_a_0_wa c_a_1_wa c_a_2_wa c_a_3_wa c_a_4_wa c_a_5_wa c_a_6_wa c_a_7_wa c_a_8_wa
  replace x_a := x_a.from_ h_w1
  have B_w1 := B0.trans (h_w1.mono B0.size)
  have s_w1 := h_w1.size
  clear rv
  rw [HR.out]
  have c_a_0_w1 := x_a.cell (i := 0) rfl
  have c_a_1_w1 := x_a.cell (i := 1) rfl
  have c_a_2_w1 := x_a.cell (i := 2) rfl
  have c_a_3_w1 := x_a.cell (i := 3) rfl
  have c_a_4_w1 := x_a.cell (i := 4) rfl
  have c_a_5_w1 := x_a.cell (i := 5) rfl
  have c_a_6_w1 := x_a.cell (i := 6) rfl
  have c_a_7_w1 := x_a.cell (i := 7) rfl
  have c_a_8_w1 := x_a.cell (i := 8) rfl
  go_wp2_with fail
  refine (sHas_2 _).mono ?_
  rintro e w' ⟨rfl, rfl⟩
  go_wp2_with fail
  refine (sRkName_c _ _).mono ?_
  rintro e w2 ⟨rfl, h_w2⟩
  clear c_a_0_w1 c_a_1_w1 c_a_2_w1 c_a_3_w1 c_a_4_w1 c_a_5_w1 c_a_6_w1 c_a_7_w1 c_a_8_w1
  replace x_a := x_a.from_ h_w2
  have B_w2 := B_w1.trans (h_w2.mono B_w1.size)
  have s_w2 := h_w2.size
  rw [Hs0.out]
  have c_a_0_w2 := x_a.cell (i := 0) rfl
  have c_a_1_w2 := x_a.cell (i := 1) rfl
  have c_a_2_w2 := x_a.cell (i := 2) rfl
  have c_a_3_w2 := x_a.cell (i := 3) rfl
  have c_a_4_w2 := x_a.cell (i := 4) rfl
  have c_a_5_w2 := x_a.cell (i := 5) rfl
  have c_a_6_w2 := x_a.cell (i := 6) rfl
  have c_a_7_w2 := x_a.cell (i := 7) rfl
  have c_a_8_w2 := x_a.cell (i := 8) rfl
  go_wp2_with fail
  refine (sNumText_any _ _).mono ?_
  rintro e w3 ⟨rfl, h_w3⟩
  clear c_a_0_w2 c_a_1_w2 c_a_2_w2 c_a_3_w2 c_a_4_w2 c_a_5_w2 c_a_6_w2 c_a_7_w2 c_a_8_w2
  replace x_a := x_a.from_ h_w3
  have B_w3 := B_w2.trans (h_w3.mono B_w2.size)
  have s_w3 := h_w3.size
  rw [HsAcct.out]
  have c_a_0_w3 := x_a.cell (i := 0) rfl
  have c_a_1_w3 := x_a.cell (i := 1) rfl
  have c_a_2_w3 := x_a.cell (i := 2) rfl
  have c_a_3_w3 := x_a.cell (i := 3) rfl
  have c_a_4_w3 := x_a.cell (i := 4) rfl
  have c_a_5_w3 := x_a.cell (i := 5) rfl
  have c_a_6_w3 := x_a.cell (i := 6) rfl
  have c_a_7_w3 := x_a.cell (i := 7) rfl
  have c_a_8_w3 := x_a.cell (i := 8) rfl
  go_wp2_with fail
  refine (sNumText_any _ _).mono ?_
  rintro e w4 ⟨rfl, h_w4⟩
  clear c_a_0_w3 c_a_1_w3 c_a_2_w3 c_a_3_w3 c_a_4_w3 c_a_5_w3 c_a_6_w3 c_a_7_w3 c_a_8_w3
  replace x_a := x_a.from_ h_w4
  have B_w4 := B_w3.trans (h_w4.mono B_w3.size)
  have s_w4 := h_w4.size
  rw [HsAmt.out]
  have c_a_0_w4 := x_a.cell (i := 0) rfl
  have c_a_1_w4 := x_a.cell (i := 1) rfl
  have c_a_2_w4 := x_a.cell (i := 2) rfl
  have c_a_3_w4 := x_a.cell (i := 3) rfl
  have c_a_4_w4 := x_a.cell (i := 4) rfl
  have c_a_5_w4 := x_a.cell (i := 5) rfl
  have c_a_6_w4 := x_a.cell (i := 6) rfl
  have c_a_7_w4 := x_a.cell (i := 7) rfl
  have c_a_8_w4 := x_a.cell (i := 8) rfl
  go_wp2
  go_ret
  exact ⟨ret_eq (by rw [HP2.out]; rfl), B_w4⟩

set_option maxRecDepth 100000 in
set_option maxHeartbeats 8000000 in
theorem sRecText_3 {w : World} {r : MRec} (ek : r.Kind = 3) (ho : recOkB r = true) : Calls Tryd.prog 17 #[.agg #[.int .i64 r.Kind, .int .i64 r.Acct, .int .i64 r.Other, .int .i64 r.To, .int .i64 r.Amt, .int .i64 r.M.Kind, .int .i64 r.M.Acct, .int .i64 r.M.Amt, .int .i64 r.M.Src]] w fun e w' => e = .returned (.string (recText r)) ∧ Below w.heap.size w w' := by
  have HR : Hid (recOkB r = true) := Lib.hid ho
  obtain ⟨s0, hs0⟩ : ∃ s, rkName 3 = s := ⟨_, rfl⟩
  have zs0 : s0.size ≤ 5 := by rw [← hs0]; decide
  have Hs0 := Lib.hid hs0
  obtain ⟨sAcct, hsAcct⟩ : ∃ s, numText r.Acct = s := ⟨_, rfl⟩
  have zsAcct : sAcct.size ≤ 16 := by rw [← hsAcct]; exact numText_size _
  have HsAcct := Lib.hid hsAcct
  obtain ⟨sTo, hsTo⟩ : ∃ s, numText r.To = s := ⟨_, rfl⟩
  have zsTo : sTo.size ≤ 16 := by rw [← hsTo]; exact numText_size _
  have HsTo := Lib.hid hsTo
  obtain ⟨sAmt, hsAmt⟩ : ∃ s, numText r.Amt = s := ⟨_, rfl⟩
  have zsAmt : sAmt.size ≤ 16 := by rw [← hsAmt]; exact numText_size _
  have HsAmt := Lib.hid hsAmt
  have HP : recText r = s0 ++ ⟨#[32]⟩ ++ sAcct ++ ⟨#[32]⟩ ++ sTo ++ ⟨#[32]⟩ ++ sAmt := by
    unfold recText
    rw [if_pos ho]
    have e1 : recFields r = [numText r.Acct, numText r.To, numText r.Amt] := by simp [recFields, kAcct, kOther, kTo, kAmt, ek]
    rw [recWords, e1, if_neg (by omega), List.append_nil, ek, hs0, hsAcct, hsTo, hsAmt]
    rfl
  obtain ⟨t1, ht1⟩ : ∃ t, s0 ++ (⟨#[32]⟩ : ByteArray) = t := ⟨_, rfl⟩
  have zt1 : t1.size ≤ 6 := by rw [← ht1, ByteArray.size_append]; have h1 : (⟨#[32]⟩ : ByteArray).size = 1 := rfl; omega
  have kt1 : ∀ W, (Op.stringOp .add s0 (⟨#[32]⟩ : ByteArray)).run Tryd.prog W = .ok (.string t1) W := fun W => by rw [← ht1]; exact run_string_add_sum W _ _ (by have h1 : (⟨#[32]⟩ : ByteArray).size = 1 := rfl; omega)
  obtain ⟨t2, ht2⟩ : ∃ t, t1 ++ sAcct = t := ⟨_, rfl⟩
  have zt2 : t2.size ≤ 22 := by rw [← ht2, ByteArray.size_append]; omega
  have kt2 : ∀ W, (Op.stringOp .add t1 sAcct).run Tryd.prog W = .ok (.string t2) W := fun W => by rw [← ht2]; exact run_string_add_sum W _ _ (by omega)
  obtain ⟨t3, ht3⟩ : ∃ t, t2 ++ (⟨#[32]⟩ : ByteArray) = t := ⟨_, rfl⟩
  have zt3 : t3.size ≤ 23 := by rw [← ht3, ByteArray.size_append]; have h1 : (⟨#[32]⟩ : ByteArray).size = 1 := rfl; omega
  have kt3 : ∀ W, (Op.stringOp .add t2 (⟨#[32]⟩ : ByteArray)).run Tryd.prog W = .ok (.string t3) W := fun W => by rw [← ht3]; exact run_string_add_sum W _ _ (by have h1 : (⟨#[32]⟩ : ByteArray).size = 1 := rfl; omega)
  obtain ⟨t4, ht4⟩ : ∃ t, t3 ++ sTo = t := ⟨_, rfl⟩
  have zt4 : t4.size ≤ 39 := by rw [← ht4, ByteArray.size_append]; omega
  have kt4 : ∀ W, (Op.stringOp .add t3 sTo).run Tryd.prog W = .ok (.string t4) W := fun W => by rw [← ht4]; exact run_string_add_sum W _ _ (by omega)
  obtain ⟨t5, ht5⟩ : ∃ t, t4 ++ (⟨#[32]⟩ : ByteArray) = t := ⟨_, rfl⟩
  have zt5 : t5.size ≤ 40 := by rw [← ht5, ByteArray.size_append]; have h1 : (⟨#[32]⟩ : ByteArray).size = 1 := rfl; omega
  have kt5 : ∀ W, (Op.stringOp .add t4 (⟨#[32]⟩ : ByteArray)).run Tryd.prog W = .ok (.string t5) W := fun W => by rw [← ht5]; exact run_string_add_sum W _ _ (by have h1 : (⟨#[32]⟩ : ByteArray).size = 1 := rfl; omega)
  obtain ⟨t6, ht6⟩ : ∃ t, t5 ++ sAmt = t := ⟨_, rfl⟩
  have zt6 : t6.size ≤ 56 := by rw [← ht6, ByteArray.size_append]; omega
  have kt6 : ∀ W, (Op.stringOp .add t5 sAmt).run Tryd.prog W = .ok (.string t6) W := fun W => by rw [← ht6]; exact run_string_add_sum W _ _ (by omega)
  have HP2 : Hid (recText r = t6) := by show _ = _; rw [HP, ht1, ht2, ht3, ht4, ht5, ht6]
  clear HP ho ht1 ht2 ht3 ht4 ht5 ht6 hs0 hsAcct hsTo hsAmt
  obtain ⟨wa, hwa, B0, sa, x_a⟩ := frame1 w 26 [.int .i64 r.Kind, .int .i64 r.Acct, .int .i64 r.Other, .int .i64 r.To, .int .i64 r.Amt, .int .i64 r.M.Kind, .int .i64 r.M.Acct, .int .i64 r.M.Amt, .int .i64 r.M.Src]
  have sa_1 := Nat.le_of_eq sa
  have sa_2 := Nat.le_of_eq sa.symm
  clear sa
  rw [ek] at x_a hwa ⊢
  have rv : RV recL w (.agg #[.int .i64 3, .int .i64 r.Acct, .int .i64 r.Other, .int .i64 r.To, .int .i64 r.Amt, .int .i64 r.M.Kind, .int .i64 r.M.Acct, .int .i64 r.M.Amt, .int .i64 r.M.Src]) r := by rw [← ek]; exact rv_rec_mk
  clear ek
  have c_a_0_wa := x_a.cell (i := 0) rfl
  have c_a_1_wa := x_a.cell (i := 1) rfl
  have c_a_2_wa := x_a.cell (i := 2) rfl
  have c_a_3_wa := x_a.cell (i := 3) rfl
  have c_a_4_wa := x_a.cell (i := 4) rfl
  have c_a_5_wa := x_a.cell (i := 5) rfl
  have c_a_6_wa := x_a.cell (i := 6) rfl
  have c_a_7_wa := x_a.cell (i := 7) rfl
  have c_a_8_wa := x_a.cell (i := 8) rfl
  go_enter Tryd.func17, Tryd.ntmps17
  go_wp2_with fail
  refine (sRecOk_c (rv.from_ B0)).mono ?_
  rintro e w1 ⟨rfl, h_w1⟩
  clear c_a_0_wa c_a_1_wa c_a_2_wa c_a_3_wa c_a_4_wa c_a_5_wa c_a_6_wa c_a_7_wa c_a_8_wa
  replace x_a := x_a.from_ h_w1
  have B_w1 := B0.trans (h_w1.mono B0.size)
  have s_w1 := h_w1.size
  clear rv
  rw [HR.out]
  have c_a_0_w1 := x_a.cell (i := 0) rfl
  have c_a_1_w1 := x_a.cell (i := 1) rfl
  have c_a_2_w1 := x_a.cell (i := 2) rfl
  have c_a_3_w1 := x_a.cell (i := 3) rfl
  have c_a_4_w1 := x_a.cell (i := 4) rfl
  have c_a_5_w1 := x_a.cell (i := 5) rfl
  have c_a_6_w1 := x_a.cell (i := 6) rfl
  have c_a_7_w1 := x_a.cell (i := 7) rfl
  have c_a_8_w1 := x_a.cell (i := 8) rfl
  go_wp2_with fail
  refine (sHas_3 _).mono ?_
  rintro e w' ⟨rfl, rfl⟩
  go_wp2_with fail
  refine (sRkName_c _ _).mono ?_
  rintro e w2 ⟨rfl, h_w2⟩
  clear c_a_0_w1 c_a_1_w1 c_a_2_w1 c_a_3_w1 c_a_4_w1 c_a_5_w1 c_a_6_w1 c_a_7_w1 c_a_8_w1
  replace x_a := x_a.from_ h_w2
  have B_w2 := B_w1.trans (h_w2.mono B_w1.size)
  have s_w2 := h_w2.size
  rw [Hs0.out]
  have c_a_0_w2 := x_a.cell (i := 0) rfl
  have c_a_1_w2 := x_a.cell (i := 1) rfl
  have c_a_2_w2 := x_a.cell (i := 2) rfl
  have c_a_3_w2 := x_a.cell (i := 3) rfl
  have c_a_4_w2 := x_a.cell (i := 4) rfl
  have c_a_5_w2 := x_a.cell (i := 5) rfl
  have c_a_6_w2 := x_a.cell (i := 6) rfl
  have c_a_7_w2 := x_a.cell (i := 7) rfl
  have c_a_8_w2 := x_a.cell (i := 8) rfl
  go_wp2_with fail
  refine (sNumText_any _ _).mono ?_
  rintro e w3 ⟨rfl, h_w3⟩
  clear c_a_0_w2 c_a_1_w2 c_a_2_w2 c_a_3_w2 c_a_4_w2 c_a_5_w2 c_a_6_w2 c_a_7_w2 c_a_8_w2
  replace x_a := x_a.from_ h_w3
  have B_w3 := B_w2.trans (h_w3.mono B_w2.size)
  have s_w3 := h_w3.size
  rw [HsAcct.out]
  have c_a_0_w3 := x_a.cell (i := 0) rfl
  have c_a_1_w3 := x_a.cell (i := 1) rfl
  have c_a_2_w3 := x_a.cell (i := 2) rfl
  have c_a_3_w3 := x_a.cell (i := 3) rfl
  have c_a_4_w3 := x_a.cell (i := 4) rfl
  have c_a_5_w3 := x_a.cell (i := 5) rfl
  have c_a_6_w3 := x_a.cell (i := 6) rfl
  have c_a_7_w3 := x_a.cell (i := 7) rfl
  have c_a_8_w3 := x_a.cell (i := 8) rfl
  go_wp2_with fail
  refine (sNumText_any _ _).mono ?_
  rintro e w4 ⟨rfl, h_w4⟩
  clear c_a_0_w3 c_a_1_w3 c_a_2_w3 c_a_3_w3 c_a_4_w3 c_a_5_w3 c_a_6_w3 c_a_7_w3 c_a_8_w3
  replace x_a := x_a.from_ h_w4
  have B_w4 := B_w3.trans (h_w4.mono B_w3.size)
  have s_w4 := h_w4.size
  rw [HsTo.out]
  have c_a_0_w4 := x_a.cell (i := 0) rfl
  have c_a_1_w4 := x_a.cell (i := 1) rfl
  have c_a_2_w4 := x_a.cell (i := 2) rfl
  have c_a_3_w4 := x_a.cell (i := 3) rfl
  have c_a_4_w4 := x_a.cell (i := 4) rfl
  have c_a_5_w4 := x_a.cell (i := 5) rfl
  have c_a_6_w4 := x_a.cell (i := 6) rfl
  have c_a_7_w4 := x_a.cell (i := 7) rfl
  have c_a_8_w4 := x_a.cell (i := 8) rfl
  go_wp2_with fail
  refine (sNumText_any _ _).mono ?_
  rintro e w5 ⟨rfl, h_w5⟩
  clear c_a_0_w4 c_a_1_w4 c_a_2_w4 c_a_3_w4 c_a_4_w4 c_a_5_w4 c_a_6_w4 c_a_7_w4 c_a_8_w4
  replace x_a := x_a.from_ h_w5
  have B_w5 := B_w4.trans (h_w5.mono B_w4.size)
  have s_w5 := h_w5.size
  rw [HsAmt.out]
  have c_a_0_w5 := x_a.cell (i := 0) rfl
  have c_a_1_w5 := x_a.cell (i := 1) rfl
  have c_a_2_w5 := x_a.cell (i := 2) rfl
  have c_a_3_w5 := x_a.cell (i := 3) rfl
  have c_a_4_w5 := x_a.cell (i := 4) rfl
  have c_a_5_w5 := x_a.cell (i := 5) rfl
  have c_a_6_w5 := x_a.cell (i := 6) rfl
  have c_a_7_w5 := x_a.cell (i := 7) rfl
  have c_a_8_w5 := x_a.cell (i := 8) rfl
  go_wp2
  go_ret
  exact ⟨ret_eq (by rw [HP2.out]; rfl), B_w5⟩

set_option maxRecDepth 100000 in
set_option maxHeartbeats 8000000 in
theorem sRecText_4 {w : World} {r : MRec} (ek : r.Kind = 4) (ho : recOkB r = true) : Calls Tryd.prog 17 #[.agg #[.int .i64 r.Kind, .int .i64 r.Acct, .int .i64 r.Other, .int .i64 r.To, .int .i64 r.Amt, .int .i64 r.M.Kind, .int .i64 r.M.Acct, .int .i64 r.M.Amt, .int .i64 r.M.Src]] w fun e w' => e = .returned (.string (recText r)) ∧ Below w.heap.size w w' := by
  have HR : Hid (recOkB r = true) := Lib.hid ho
  obtain ⟨s0, hs0⟩ : ∃ s, rkName 4 = s := ⟨_, rfl⟩
  have zs0 : s0.size ≤ 5 := by rw [← hs0]; decide
  have Hs0 := Lib.hid hs0
  obtain ⟨sAcct, hsAcct⟩ : ∃ s, numText r.Acct = s := ⟨_, rfl⟩
  have zsAcct : sAcct.size ≤ 16 := by rw [← hsAcct]; exact numText_size _
  have HsAcct := Lib.hid hsAcct
  obtain ⟨sOther, hsOther⟩ : ∃ s, numText r.Other = s := ⟨_, rfl⟩
  have zsOther : sOther.size ≤ 16 := by rw [← hsOther]; exact numText_size _
  have HsOther := Lib.hid hsOther
  obtain ⟨sTo, hsTo⟩ : ∃ s, numText r.To = s := ⟨_, rfl⟩
  have zsTo : sTo.size ≤ 16 := by rw [← hsTo]; exact numText_size _
  have HsTo := Lib.hid hsTo
  obtain ⟨sAmt, hsAmt⟩ : ∃ s, numText r.Amt = s := ⟨_, rfl⟩
  have zsAmt : sAmt.size ≤ 16 := by rw [← hsAmt]; exact numText_size _
  have HsAmt := Lib.hid hsAmt
  have HP : recText r = s0 ++ ⟨#[32]⟩ ++ sAcct ++ ⟨#[32]⟩ ++ sOther ++ ⟨#[32]⟩ ++ sTo ++ ⟨#[32]⟩ ++ sAmt := by
    unfold recText
    rw [if_pos ho]
    have e1 : recFields r = [numText r.Acct, numText r.Other, numText r.To, numText r.Amt] := by simp [recFields, kAcct, kOther, kTo, kAmt, ek]
    rw [recWords, e1, if_neg (by omega), List.append_nil, ek, hs0, hsAcct, hsOther, hsTo, hsAmt]
    rfl
  obtain ⟨t1, ht1⟩ : ∃ t, s0 ++ (⟨#[32]⟩ : ByteArray) = t := ⟨_, rfl⟩
  have zt1 : t1.size ≤ 6 := by rw [← ht1, ByteArray.size_append]; have h1 : (⟨#[32]⟩ : ByteArray).size = 1 := rfl; omega
  have kt1 : ∀ W, (Op.stringOp .add s0 (⟨#[32]⟩ : ByteArray)).run Tryd.prog W = .ok (.string t1) W := fun W => by rw [← ht1]; exact run_string_add_sum W _ _ (by have h1 : (⟨#[32]⟩ : ByteArray).size = 1 := rfl; omega)
  obtain ⟨t2, ht2⟩ : ∃ t, t1 ++ sAcct = t := ⟨_, rfl⟩
  have zt2 : t2.size ≤ 22 := by rw [← ht2, ByteArray.size_append]; omega
  have kt2 : ∀ W, (Op.stringOp .add t1 sAcct).run Tryd.prog W = .ok (.string t2) W := fun W => by rw [← ht2]; exact run_string_add_sum W _ _ (by omega)
  obtain ⟨t3, ht3⟩ : ∃ t, t2 ++ (⟨#[32]⟩ : ByteArray) = t := ⟨_, rfl⟩
  have zt3 : t3.size ≤ 23 := by rw [← ht3, ByteArray.size_append]; have h1 : (⟨#[32]⟩ : ByteArray).size = 1 := rfl; omega
  have kt3 : ∀ W, (Op.stringOp .add t2 (⟨#[32]⟩ : ByteArray)).run Tryd.prog W = .ok (.string t3) W := fun W => by rw [← ht3]; exact run_string_add_sum W _ _ (by have h1 : (⟨#[32]⟩ : ByteArray).size = 1 := rfl; omega)
  obtain ⟨t4, ht4⟩ : ∃ t, t3 ++ sOther = t := ⟨_, rfl⟩
  have zt4 : t4.size ≤ 39 := by rw [← ht4, ByteArray.size_append]; omega
  have kt4 : ∀ W, (Op.stringOp .add t3 sOther).run Tryd.prog W = .ok (.string t4) W := fun W => by rw [← ht4]; exact run_string_add_sum W _ _ (by omega)
  obtain ⟨t5, ht5⟩ : ∃ t, t4 ++ (⟨#[32]⟩ : ByteArray) = t := ⟨_, rfl⟩
  have zt5 : t5.size ≤ 40 := by rw [← ht5, ByteArray.size_append]; have h1 : (⟨#[32]⟩ : ByteArray).size = 1 := rfl; omega
  have kt5 : ∀ W, (Op.stringOp .add t4 (⟨#[32]⟩ : ByteArray)).run Tryd.prog W = .ok (.string t5) W := fun W => by rw [← ht5]; exact run_string_add_sum W _ _ (by have h1 : (⟨#[32]⟩ : ByteArray).size = 1 := rfl; omega)
  obtain ⟨t6, ht6⟩ : ∃ t, t5 ++ sTo = t := ⟨_, rfl⟩
  have zt6 : t6.size ≤ 56 := by rw [← ht6, ByteArray.size_append]; omega
  have kt6 : ∀ W, (Op.stringOp .add t5 sTo).run Tryd.prog W = .ok (.string t6) W := fun W => by rw [← ht6]; exact run_string_add_sum W _ _ (by omega)
  obtain ⟨t7, ht7⟩ : ∃ t, t6 ++ (⟨#[32]⟩ : ByteArray) = t := ⟨_, rfl⟩
  have zt7 : t7.size ≤ 57 := by rw [← ht7, ByteArray.size_append]; have h1 : (⟨#[32]⟩ : ByteArray).size = 1 := rfl; omega
  have kt7 : ∀ W, (Op.stringOp .add t6 (⟨#[32]⟩ : ByteArray)).run Tryd.prog W = .ok (.string t7) W := fun W => by rw [← ht7]; exact run_string_add_sum W _ _ (by have h1 : (⟨#[32]⟩ : ByteArray).size = 1 := rfl; omega)
  obtain ⟨t8, ht8⟩ : ∃ t, t7 ++ sAmt = t := ⟨_, rfl⟩
  have zt8 : t8.size ≤ 73 := by rw [← ht8, ByteArray.size_append]; omega
  have kt8 : ∀ W, (Op.stringOp .add t7 sAmt).run Tryd.prog W = .ok (.string t8) W := fun W => by rw [← ht8]; exact run_string_add_sum W _ _ (by omega)
  have HP2 : Hid (recText r = t8) := by show _ = _; rw [HP, ht1, ht2, ht3, ht4, ht5, ht6, ht7, ht8]
  clear HP ho ht1 ht2 ht3 ht4 ht5 ht6 ht7 ht8 hs0 hsAcct hsOther hsTo hsAmt
  obtain ⟨wa, hwa, B0, sa, x_a⟩ := frame1 w 26 [.int .i64 r.Kind, .int .i64 r.Acct, .int .i64 r.Other, .int .i64 r.To, .int .i64 r.Amt, .int .i64 r.M.Kind, .int .i64 r.M.Acct, .int .i64 r.M.Amt, .int .i64 r.M.Src]
  have sa_1 := Nat.le_of_eq sa
  have sa_2 := Nat.le_of_eq sa.symm
  clear sa
  rw [ek] at x_a hwa ⊢
  have rv : RV recL w (.agg #[.int .i64 4, .int .i64 r.Acct, .int .i64 r.Other, .int .i64 r.To, .int .i64 r.Amt, .int .i64 r.M.Kind, .int .i64 r.M.Acct, .int .i64 r.M.Amt, .int .i64 r.M.Src]) r := by rw [← ek]; exact rv_rec_mk
  clear ek
  have c_a_0_wa := x_a.cell (i := 0) rfl
  have c_a_1_wa := x_a.cell (i := 1) rfl
  have c_a_2_wa := x_a.cell (i := 2) rfl
  have c_a_3_wa := x_a.cell (i := 3) rfl
  have c_a_4_wa := x_a.cell (i := 4) rfl
  have c_a_5_wa := x_a.cell (i := 5) rfl
  have c_a_6_wa := x_a.cell (i := 6) rfl
  have c_a_7_wa := x_a.cell (i := 7) rfl
  have c_a_8_wa := x_a.cell (i := 8) rfl
  go_enter Tryd.func17, Tryd.ntmps17
  go_wp2_with fail
  refine (sRecOk_c (rv.from_ B0)).mono ?_
  rintro e w1 ⟨rfl, h_w1⟩
  clear c_a_0_wa c_a_1_wa c_a_2_wa c_a_3_wa c_a_4_wa c_a_5_wa c_a_6_wa c_a_7_wa c_a_8_wa
  replace x_a := x_a.from_ h_w1
  have B_w1 := B0.trans (h_w1.mono B0.size)
  have s_w1 := h_w1.size
  clear rv
  rw [HR.out]
  have c_a_0_w1 := x_a.cell (i := 0) rfl
  have c_a_1_w1 := x_a.cell (i := 1) rfl
  have c_a_2_w1 := x_a.cell (i := 2) rfl
  have c_a_3_w1 := x_a.cell (i := 3) rfl
  have c_a_4_w1 := x_a.cell (i := 4) rfl
  have c_a_5_w1 := x_a.cell (i := 5) rfl
  have c_a_6_w1 := x_a.cell (i := 6) rfl
  have c_a_7_w1 := x_a.cell (i := 7) rfl
  have c_a_8_w1 := x_a.cell (i := 8) rfl
  go_wp2_with fail
  refine (sHas_4 _).mono ?_
  rintro e w' ⟨rfl, rfl⟩
  go_wp2_with fail
  refine (sRkName_c _ _).mono ?_
  rintro e w2 ⟨rfl, h_w2⟩
  clear c_a_0_w1 c_a_1_w1 c_a_2_w1 c_a_3_w1 c_a_4_w1 c_a_5_w1 c_a_6_w1 c_a_7_w1 c_a_8_w1
  replace x_a := x_a.from_ h_w2
  have B_w2 := B_w1.trans (h_w2.mono B_w1.size)
  have s_w2 := h_w2.size
  rw [Hs0.out]
  have c_a_0_w2 := x_a.cell (i := 0) rfl
  have c_a_1_w2 := x_a.cell (i := 1) rfl
  have c_a_2_w2 := x_a.cell (i := 2) rfl
  have c_a_3_w2 := x_a.cell (i := 3) rfl
  have c_a_4_w2 := x_a.cell (i := 4) rfl
  have c_a_5_w2 := x_a.cell (i := 5) rfl
  have c_a_6_w2 := x_a.cell (i := 6) rfl
  have c_a_7_w2 := x_a.cell (i := 7) rfl
  have c_a_8_w2 := x_a.cell (i := 8) rfl
  go_wp2_with fail
  refine (sNumText_any _ _).mono ?_
  rintro e w3 ⟨rfl, h_w3⟩
  clear c_a_0_w2 c_a_1_w2 c_a_2_w2 c_a_3_w2 c_a_4_w2 c_a_5_w2 c_a_6_w2 c_a_7_w2 c_a_8_w2
  replace x_a := x_a.from_ h_w3
  have B_w3 := B_w2.trans (h_w3.mono B_w2.size)
  have s_w3 := h_w3.size
  rw [HsAcct.out]
  have c_a_0_w3 := x_a.cell (i := 0) rfl
  have c_a_1_w3 := x_a.cell (i := 1) rfl
  have c_a_2_w3 := x_a.cell (i := 2) rfl
  have c_a_3_w3 := x_a.cell (i := 3) rfl
  have c_a_4_w3 := x_a.cell (i := 4) rfl
  have c_a_5_w3 := x_a.cell (i := 5) rfl
  have c_a_6_w3 := x_a.cell (i := 6) rfl
  have c_a_7_w3 := x_a.cell (i := 7) rfl
  have c_a_8_w3 := x_a.cell (i := 8) rfl
  go_wp2_with fail
  refine (sNumText_any _ _).mono ?_
  rintro e w4 ⟨rfl, h_w4⟩
  clear c_a_0_w3 c_a_1_w3 c_a_2_w3 c_a_3_w3 c_a_4_w3 c_a_5_w3 c_a_6_w3 c_a_7_w3 c_a_8_w3
  replace x_a := x_a.from_ h_w4
  have B_w4 := B_w3.trans (h_w4.mono B_w3.size)
  have s_w4 := h_w4.size
  rw [HsOther.out]
  have c_a_0_w4 := x_a.cell (i := 0) rfl
  have c_a_1_w4 := x_a.cell (i := 1) rfl
  have c_a_2_w4 := x_a.cell (i := 2) rfl
  have c_a_3_w4 := x_a.cell (i := 3) rfl
  have c_a_4_w4 := x_a.cell (i := 4) rfl
  have c_a_5_w4 := x_a.cell (i := 5) rfl
  have c_a_6_w4 := x_a.cell (i := 6) rfl
  have c_a_7_w4 := x_a.cell (i := 7) rfl
  have c_a_8_w4 := x_a.cell (i := 8) rfl
  go_wp2_with fail
  refine (sNumText_any _ _).mono ?_
  rintro e w5 ⟨rfl, h_w5⟩
  clear c_a_0_w4 c_a_1_w4 c_a_2_w4 c_a_3_w4 c_a_4_w4 c_a_5_w4 c_a_6_w4 c_a_7_w4 c_a_8_w4
  replace x_a := x_a.from_ h_w5
  have B_w5 := B_w4.trans (h_w5.mono B_w4.size)
  have s_w5 := h_w5.size
  rw [HsTo.out]
  have c_a_0_w5 := x_a.cell (i := 0) rfl
  have c_a_1_w5 := x_a.cell (i := 1) rfl
  have c_a_2_w5 := x_a.cell (i := 2) rfl
  have c_a_3_w5 := x_a.cell (i := 3) rfl
  have c_a_4_w5 := x_a.cell (i := 4) rfl
  have c_a_5_w5 := x_a.cell (i := 5) rfl
  have c_a_6_w5 := x_a.cell (i := 6) rfl
  have c_a_7_w5 := x_a.cell (i := 7) rfl
  have c_a_8_w5 := x_a.cell (i := 8) rfl
  go_wp2_with fail
  refine (sNumText_any _ _).mono ?_
  rintro e w6 ⟨rfl, h_w6⟩
  clear c_a_0_w5 c_a_1_w5 c_a_2_w5 c_a_3_w5 c_a_4_w5 c_a_5_w5 c_a_6_w5 c_a_7_w5 c_a_8_w5
  replace x_a := x_a.from_ h_w6
  have B_w6 := B_w5.trans (h_w6.mono B_w5.size)
  have s_w6 := h_w6.size
  rw [HsAmt.out]
  have c_a_0_w6 := x_a.cell (i := 0) rfl
  have c_a_1_w6 := x_a.cell (i := 1) rfl
  have c_a_2_w6 := x_a.cell (i := 2) rfl
  have c_a_3_w6 := x_a.cell (i := 3) rfl
  have c_a_4_w6 := x_a.cell (i := 4) rfl
  have c_a_5_w6 := x_a.cell (i := 5) rfl
  have c_a_6_w6 := x_a.cell (i := 6) rfl
  have c_a_7_w6 := x_a.cell (i := 7) rfl
  have c_a_8_w6 := x_a.cell (i := 8) rfl
  go_wp2
  go_ret
  exact ⟨ret_eq (by rw [HP2.out]; rfl), B_w6⟩

set_option maxRecDepth 100000 in
set_option maxHeartbeats 8000000 in
theorem sRecText_5 {w : World} {r : MRec} (ek : r.Kind = 5) (ho : recOkB r = true) : Calls Tryd.prog 17 #[.agg #[.int .i64 r.Kind, .int .i64 r.Acct, .int .i64 r.Other, .int .i64 r.To, .int .i64 r.Amt, .int .i64 r.M.Kind, .int .i64 r.M.Acct, .int .i64 r.M.Amt, .int .i64 r.M.Src]] w fun e w' => e = .returned (.string (recText r)) ∧ Below w.heap.size w w' := by
  have HR : Hid (recOkB r = true) := Lib.hid ho
  obtain ⟨s0, hs0⟩ : ∃ s, rkName 5 = s := ⟨_, rfl⟩
  have zs0 : s0.size ≤ 5 := by rw [← hs0]; decide
  have Hs0 := Lib.hid hs0
  obtain ⟨sTo, hsTo⟩ : ∃ s, numText r.To = s := ⟨_, rfl⟩
  have zsTo : sTo.size ≤ 16 := by rw [← hsTo]; exact numText_size _
  have HsTo := Lib.hid hsTo
  obtain ⟨sAmt, hsAmt⟩ : ∃ s, numText r.Amt = s := ⟨_, rfl⟩
  have zsAmt : sAmt.size ≤ 16 := by rw [← hsAmt]; exact numText_size _
  have HsAmt := Lib.hid hsAmt
  have hM := (recOk_parts ho).2.2.2.2.2.1 ek
  obtain ⟨sM, hsM⟩ : ∃ s, msgText r.M = s := ⟨_, rfl⟩
  have zsM : sM.size ≤ 120 := by
    rw [← hsM, msgText]
    rw [if_pos hM]
    have h1 := msgName_size r.M.Kind
    have h2 := numText_size r.M.Acct
    have h3 := numText_size r.M.Amt
    have h4 := numText_size r.M.Src
    have h5 : (⟨#[32]⟩ : ByteArray).size = 1 := rfl
    simp only [ByteArray.size_append]
    omega
  have HsM := Lib.hid hsM
  have HP : recText r = s0 ++ ⟨#[32]⟩ ++ sTo ++ ⟨#[32]⟩ ++ sAmt ++ ⟨#[32]⟩ ++ sM := by
    unfold recText
    rw [if_pos ho]
    have e1 : recFields r = [numText r.To, numText r.Amt] := by simp [recFields, kAcct, kOther, kTo, kAmt, ek]
    rw [recWords, e1, if_pos ek, joinSp_append, joinSp_cons, ← msgText_join hM, ek, hs0, hsM]
    show joinSp s0 [numText r.To, numText r.Amt] ++ _ ++ _ = _
    rw [hsTo, hsAmt]
    rfl
  obtain ⟨t1, ht1⟩ : ∃ t, s0 ++ (⟨#[32]⟩ : ByteArray) = t := ⟨_, rfl⟩
  have zt1 : t1.size ≤ 6 := by rw [← ht1, ByteArray.size_append]; have h1 : (⟨#[32]⟩ : ByteArray).size = 1 := rfl; omega
  have kt1 : ∀ W, (Op.stringOp .add s0 (⟨#[32]⟩ : ByteArray)).run Tryd.prog W = .ok (.string t1) W := fun W => by rw [← ht1]; exact run_string_add_sum W _ _ (by have h1 : (⟨#[32]⟩ : ByteArray).size = 1 := rfl; omega)
  obtain ⟨t2, ht2⟩ : ∃ t, t1 ++ sTo = t := ⟨_, rfl⟩
  have zt2 : t2.size ≤ 22 := by rw [← ht2, ByteArray.size_append]; omega
  have kt2 : ∀ W, (Op.stringOp .add t1 sTo).run Tryd.prog W = .ok (.string t2) W := fun W => by rw [← ht2]; exact run_string_add_sum W _ _ (by omega)
  obtain ⟨t3, ht3⟩ : ∃ t, t2 ++ (⟨#[32]⟩ : ByteArray) = t := ⟨_, rfl⟩
  have zt3 : t3.size ≤ 23 := by rw [← ht3, ByteArray.size_append]; have h1 : (⟨#[32]⟩ : ByteArray).size = 1 := rfl; omega
  have kt3 : ∀ W, (Op.stringOp .add t2 (⟨#[32]⟩ : ByteArray)).run Tryd.prog W = .ok (.string t3) W := fun W => by rw [← ht3]; exact run_string_add_sum W _ _ (by have h1 : (⟨#[32]⟩ : ByteArray).size = 1 := rfl; omega)
  obtain ⟨t4, ht4⟩ : ∃ t, t3 ++ sAmt = t := ⟨_, rfl⟩
  have zt4 : t4.size ≤ 39 := by rw [← ht4, ByteArray.size_append]; omega
  have kt4 : ∀ W, (Op.stringOp .add t3 sAmt).run Tryd.prog W = .ok (.string t4) W := fun W => by rw [← ht4]; exact run_string_add_sum W _ _ (by omega)
  obtain ⟨t5, ht5⟩ : ∃ t, t4 ++ (⟨#[32]⟩ : ByteArray) = t := ⟨_, rfl⟩
  have zt5 : t5.size ≤ 40 := by rw [← ht5, ByteArray.size_append]; have h1 : (⟨#[32]⟩ : ByteArray).size = 1 := rfl; omega
  have kt5 : ∀ W, (Op.stringOp .add t4 (⟨#[32]⟩ : ByteArray)).run Tryd.prog W = .ok (.string t5) W := fun W => by rw [← ht5]; exact run_string_add_sum W _ _ (by have h1 : (⟨#[32]⟩ : ByteArray).size = 1 := rfl; omega)
  obtain ⟨t6, ht6⟩ : ∃ t, t5 ++ sM = t := ⟨_, rfl⟩
  have zt6 : t6.size ≤ 160 := by rw [← ht6, ByteArray.size_append]; omega
  have kt6 : ∀ W, (Op.stringOp .add t5 sM).run Tryd.prog W = .ok (.string t6) W := fun W => by rw [← ht6]; exact run_string_add_sum W _ _ (by omega)
  have HP2 : Hid (recText r = t6) := by show _ = _; rw [HP, ht1, ht2, ht3, ht4, ht5, ht6]
  clear HP ho ht1 ht2 ht3 ht4 ht5 ht6 hs0 hsTo hsAmt hsM hM
  obtain ⟨wa, hwa, B0, sa, x_a⟩ := frame1 w 26 [.int .i64 r.Kind, .int .i64 r.Acct, .int .i64 r.Other, .int .i64 r.To, .int .i64 r.Amt, .int .i64 r.M.Kind, .int .i64 r.M.Acct, .int .i64 r.M.Amt, .int .i64 r.M.Src]
  have sa_1 := Nat.le_of_eq sa
  have sa_2 := Nat.le_of_eq sa.symm
  clear sa
  rw [ek] at x_a hwa ⊢
  have rv : RV recL w (.agg #[.int .i64 5, .int .i64 r.Acct, .int .i64 r.Other, .int .i64 r.To, .int .i64 r.Amt, .int .i64 r.M.Kind, .int .i64 r.M.Acct, .int .i64 r.M.Amt, .int .i64 r.M.Src]) r := by rw [← ek]; exact rv_rec_mk
  clear ek
  have c_a_0_wa := x_a.cell (i := 0) rfl
  have c_a_1_wa := x_a.cell (i := 1) rfl
  have c_a_2_wa := x_a.cell (i := 2) rfl
  have c_a_3_wa := x_a.cell (i := 3) rfl
  have c_a_4_wa := x_a.cell (i := 4) rfl
  have c_a_5_wa := x_a.cell (i := 5) rfl
  have c_a_6_wa := x_a.cell (i := 6) rfl
  have c_a_7_wa := x_a.cell (i := 7) rfl
  have c_a_8_wa := x_a.cell (i := 8) rfl
  go_enter Tryd.func17, Tryd.ntmps17
  go_wp2_with fail
  refine (sRecOk_c (rv.from_ B0)).mono ?_
  rintro e w1 ⟨rfl, h_w1⟩
  clear c_a_0_wa c_a_1_wa c_a_2_wa c_a_3_wa c_a_4_wa c_a_5_wa c_a_6_wa c_a_7_wa c_a_8_wa
  replace x_a := x_a.from_ h_w1
  have B_w1 := B0.trans (h_w1.mono B0.size)
  have s_w1 := h_w1.size
  clear rv
  rw [HR.out]
  have c_a_0_w1 := x_a.cell (i := 0) rfl
  have c_a_1_w1 := x_a.cell (i := 1) rfl
  have c_a_2_w1 := x_a.cell (i := 2) rfl
  have c_a_3_w1 := x_a.cell (i := 3) rfl
  have c_a_4_w1 := x_a.cell (i := 4) rfl
  have c_a_5_w1 := x_a.cell (i := 5) rfl
  have c_a_6_w1 := x_a.cell (i := 6) rfl
  have c_a_7_w1 := x_a.cell (i := 7) rfl
  have c_a_8_w1 := x_a.cell (i := 8) rfl
  go_wp2_with fail
  refine (sHas_5 _).mono ?_
  rintro e w' ⟨rfl, rfl⟩
  go_wp2_with fail
  refine (sRkName_c _ _).mono ?_
  rintro e w2 ⟨rfl, h_w2⟩
  clear c_a_0_w1 c_a_1_w1 c_a_2_w1 c_a_3_w1 c_a_4_w1 c_a_5_w1 c_a_6_w1 c_a_7_w1 c_a_8_w1
  replace x_a := x_a.from_ h_w2
  have B_w2 := B_w1.trans (h_w2.mono B_w1.size)
  have s_w2 := h_w2.size
  rw [Hs0.out]
  have c_a_0_w2 := x_a.cell (i := 0) rfl
  have c_a_1_w2 := x_a.cell (i := 1) rfl
  have c_a_2_w2 := x_a.cell (i := 2) rfl
  have c_a_3_w2 := x_a.cell (i := 3) rfl
  have c_a_4_w2 := x_a.cell (i := 4) rfl
  have c_a_5_w2 := x_a.cell (i := 5) rfl
  have c_a_6_w2 := x_a.cell (i := 6) rfl
  have c_a_7_w2 := x_a.cell (i := 7) rfl
  have c_a_8_w2 := x_a.cell (i := 8) rfl
  go_wp2_with fail
  refine (sNumText_any _ _).mono ?_
  rintro e w3 ⟨rfl, h_w3⟩
  clear c_a_0_w2 c_a_1_w2 c_a_2_w2 c_a_3_w2 c_a_4_w2 c_a_5_w2 c_a_6_w2 c_a_7_w2 c_a_8_w2
  replace x_a := x_a.from_ h_w3
  have B_w3 := B_w2.trans (h_w3.mono B_w2.size)
  have s_w3 := h_w3.size
  rw [HsTo.out]
  have c_a_0_w3 := x_a.cell (i := 0) rfl
  have c_a_1_w3 := x_a.cell (i := 1) rfl
  have c_a_2_w3 := x_a.cell (i := 2) rfl
  have c_a_3_w3 := x_a.cell (i := 3) rfl
  have c_a_4_w3 := x_a.cell (i := 4) rfl
  have c_a_5_w3 := x_a.cell (i := 5) rfl
  have c_a_6_w3 := x_a.cell (i := 6) rfl
  have c_a_7_w3 := x_a.cell (i := 7) rfl
  have c_a_8_w3 := x_a.cell (i := 8) rfl
  go_wp2_with fail
  refine (sNumText_any _ _).mono ?_
  rintro e w4 ⟨rfl, h_w4⟩
  clear c_a_0_w3 c_a_1_w3 c_a_2_w3 c_a_3_w3 c_a_4_w3 c_a_5_w3 c_a_6_w3 c_a_7_w3 c_a_8_w3
  replace x_a := x_a.from_ h_w4
  have B_w4 := B_w3.trans (h_w4.mono B_w3.size)
  have s_w4 := h_w4.size
  rw [HsAmt.out]
  have c_a_0_w4 := x_a.cell (i := 0) rfl
  have c_a_1_w4 := x_a.cell (i := 1) rfl
  have c_a_2_w4 := x_a.cell (i := 2) rfl
  have c_a_3_w4 := x_a.cell (i := 3) rfl
  have c_a_4_w4 := x_a.cell (i := 4) rfl
  have c_a_5_w4 := x_a.cell (i := 5) rfl
  have c_a_6_w4 := x_a.cell (i := 6) rfl
  have c_a_7_w4 := x_a.cell (i := 7) rfl
  have c_a_8_w4 := x_a.cell (i := 8) rfl
  go_wp2_with fail
  refine (sMsgText_c (m := r.M) rv_msg_mk).mono ?_
  rintro e w5 ⟨rfl, h_w5⟩
  clear c_a_0_w4 c_a_1_w4 c_a_2_w4 c_a_3_w4 c_a_4_w4 c_a_5_w4 c_a_6_w4 c_a_7_w4 c_a_8_w4
  replace x_a := x_a.from_ h_w5
  have B_w5 := B_w4.trans (h_w5.mono B_w4.size)
  have s_w5 := h_w5.size
  rw [HsM.out]
  have c_a_0_w5 := x_a.cell (i := 0) rfl
  have c_a_1_w5 := x_a.cell (i := 1) rfl
  have c_a_2_w5 := x_a.cell (i := 2) rfl
  have c_a_3_w5 := x_a.cell (i := 3) rfl
  have c_a_4_w5 := x_a.cell (i := 4) rfl
  have c_a_5_w5 := x_a.cell (i := 5) rfl
  have c_a_6_w5 := x_a.cell (i := 6) rfl
  have c_a_7_w5 := x_a.cell (i := 7) rfl
  have c_a_8_w5 := x_a.cell (i := 8) rfl
  go_wp2
  go_ret
  exact ⟨ret_eq (by rw [HP2.out]; rfl), B_w5⟩

set_option maxRecDepth 100000 in
set_option maxHeartbeats 8000000 in
theorem sRecText_6 {w : World} {r : MRec} (ek : r.Kind = 6) (ho : recOkB r = true) : Calls Tryd.prog 17 #[.agg #[.int .i64 r.Kind, .int .i64 r.Acct, .int .i64 r.Other, .int .i64 r.To, .int .i64 r.Amt, .int .i64 r.M.Kind, .int .i64 r.M.Acct, .int .i64 r.M.Amt, .int .i64 r.M.Src]] w fun e w' => e = .returned (.string (recText r)) ∧ Below w.heap.size w w' := by
  have HR : Hid (recOkB r = true) := Lib.hid ho
  obtain ⟨s0, hs0⟩ : ∃ s, rkName 6 = s := ⟨_, rfl⟩
  have zs0 : s0.size ≤ 5 := by rw [← hs0]; decide
  have Hs0 := Lib.hid hs0
  obtain ⟨sTo, hsTo⟩ : ∃ s, numText r.To = s := ⟨_, rfl⟩
  have zsTo : sTo.size ≤ 16 := by rw [← hsTo]; exact numText_size _
  have HsTo := Lib.hid hsTo
  obtain ⟨sAmt, hsAmt⟩ : ∃ s, numText r.Amt = s := ⟨_, rfl⟩
  have zsAmt : sAmt.size ≤ 16 := by rw [← hsAmt]; exact numText_size _
  have HsAmt := Lib.hid hsAmt
  have HP : recText r = s0 ++ ⟨#[32]⟩ ++ sTo ++ ⟨#[32]⟩ ++ sAmt := by
    unfold recText
    rw [if_pos ho]
    have e1 : recFields r = [numText r.To, numText r.Amt] := by simp [recFields, kAcct, kOther, kTo, kAmt, ek]
    rw [recWords, e1, if_neg (by omega), List.append_nil, ek, hs0, hsTo, hsAmt]
    rfl
  obtain ⟨t1, ht1⟩ : ∃ t, s0 ++ (⟨#[32]⟩ : ByteArray) = t := ⟨_, rfl⟩
  have zt1 : t1.size ≤ 6 := by rw [← ht1, ByteArray.size_append]; have h1 : (⟨#[32]⟩ : ByteArray).size = 1 := rfl; omega
  have kt1 : ∀ W, (Op.stringOp .add s0 (⟨#[32]⟩ : ByteArray)).run Tryd.prog W = .ok (.string t1) W := fun W => by rw [← ht1]; exact run_string_add_sum W _ _ (by have h1 : (⟨#[32]⟩ : ByteArray).size = 1 := rfl; omega)
  obtain ⟨t2, ht2⟩ : ∃ t, t1 ++ sTo = t := ⟨_, rfl⟩
  have zt2 : t2.size ≤ 22 := by rw [← ht2, ByteArray.size_append]; omega
  have kt2 : ∀ W, (Op.stringOp .add t1 sTo).run Tryd.prog W = .ok (.string t2) W := fun W => by rw [← ht2]; exact run_string_add_sum W _ _ (by omega)
  obtain ⟨t3, ht3⟩ : ∃ t, t2 ++ (⟨#[32]⟩ : ByteArray) = t := ⟨_, rfl⟩
  have zt3 : t3.size ≤ 23 := by rw [← ht3, ByteArray.size_append]; have h1 : (⟨#[32]⟩ : ByteArray).size = 1 := rfl; omega
  have kt3 : ∀ W, (Op.stringOp .add t2 (⟨#[32]⟩ : ByteArray)).run Tryd.prog W = .ok (.string t3) W := fun W => by rw [← ht3]; exact run_string_add_sum W _ _ (by have h1 : (⟨#[32]⟩ : ByteArray).size = 1 := rfl; omega)
  obtain ⟨t4, ht4⟩ : ∃ t, t3 ++ sAmt = t := ⟨_, rfl⟩
  have zt4 : t4.size ≤ 39 := by rw [← ht4, ByteArray.size_append]; omega
  have kt4 : ∀ W, (Op.stringOp .add t3 sAmt).run Tryd.prog W = .ok (.string t4) W := fun W => by rw [← ht4]; exact run_string_add_sum W _ _ (by omega)
  have HP2 : Hid (recText r = t4) := by show _ = _; rw [HP, ht1, ht2, ht3, ht4]
  clear HP ho ht1 ht2 ht3 ht4 hs0 hsTo hsAmt
  obtain ⟨wa, hwa, B0, sa, x_a⟩ := frame1 w 26 [.int .i64 r.Kind, .int .i64 r.Acct, .int .i64 r.Other, .int .i64 r.To, .int .i64 r.Amt, .int .i64 r.M.Kind, .int .i64 r.M.Acct, .int .i64 r.M.Amt, .int .i64 r.M.Src]
  have sa_1 := Nat.le_of_eq sa
  have sa_2 := Nat.le_of_eq sa.symm
  clear sa
  rw [ek] at x_a hwa ⊢
  have rv : RV recL w (.agg #[.int .i64 6, .int .i64 r.Acct, .int .i64 r.Other, .int .i64 r.To, .int .i64 r.Amt, .int .i64 r.M.Kind, .int .i64 r.M.Acct, .int .i64 r.M.Amt, .int .i64 r.M.Src]) r := by rw [← ek]; exact rv_rec_mk
  clear ek
  have c_a_0_wa := x_a.cell (i := 0) rfl
  have c_a_1_wa := x_a.cell (i := 1) rfl
  have c_a_2_wa := x_a.cell (i := 2) rfl
  have c_a_3_wa := x_a.cell (i := 3) rfl
  have c_a_4_wa := x_a.cell (i := 4) rfl
  have c_a_5_wa := x_a.cell (i := 5) rfl
  have c_a_6_wa := x_a.cell (i := 6) rfl
  have c_a_7_wa := x_a.cell (i := 7) rfl
  have c_a_8_wa := x_a.cell (i := 8) rfl
  go_enter Tryd.func17, Tryd.ntmps17
  go_wp2_with fail
  refine (sRecOk_c (rv.from_ B0)).mono ?_
  rintro e w1 ⟨rfl, h_w1⟩
  clear c_a_0_wa c_a_1_wa c_a_2_wa c_a_3_wa c_a_4_wa c_a_5_wa c_a_6_wa c_a_7_wa c_a_8_wa
  replace x_a := x_a.from_ h_w1
  have B_w1 := B0.trans (h_w1.mono B0.size)
  have s_w1 := h_w1.size
  clear rv
  rw [HR.out]
  have c_a_0_w1 := x_a.cell (i := 0) rfl
  have c_a_1_w1 := x_a.cell (i := 1) rfl
  have c_a_2_w1 := x_a.cell (i := 2) rfl
  have c_a_3_w1 := x_a.cell (i := 3) rfl
  have c_a_4_w1 := x_a.cell (i := 4) rfl
  have c_a_5_w1 := x_a.cell (i := 5) rfl
  have c_a_6_w1 := x_a.cell (i := 6) rfl
  have c_a_7_w1 := x_a.cell (i := 7) rfl
  have c_a_8_w1 := x_a.cell (i := 8) rfl
  go_wp2_with fail
  refine (sHas_6 _).mono ?_
  rintro e w' ⟨rfl, rfl⟩
  go_wp2_with fail
  refine (sRkName_c _ _).mono ?_
  rintro e w2 ⟨rfl, h_w2⟩
  clear c_a_0_w1 c_a_1_w1 c_a_2_w1 c_a_3_w1 c_a_4_w1 c_a_5_w1 c_a_6_w1 c_a_7_w1 c_a_8_w1
  replace x_a := x_a.from_ h_w2
  have B_w2 := B_w1.trans (h_w2.mono B_w1.size)
  have s_w2 := h_w2.size
  rw [Hs0.out]
  have c_a_0_w2 := x_a.cell (i := 0) rfl
  have c_a_1_w2 := x_a.cell (i := 1) rfl
  have c_a_2_w2 := x_a.cell (i := 2) rfl
  have c_a_3_w2 := x_a.cell (i := 3) rfl
  have c_a_4_w2 := x_a.cell (i := 4) rfl
  have c_a_5_w2 := x_a.cell (i := 5) rfl
  have c_a_6_w2 := x_a.cell (i := 6) rfl
  have c_a_7_w2 := x_a.cell (i := 7) rfl
  have c_a_8_w2 := x_a.cell (i := 8) rfl
  go_wp2_with fail
  refine (sNumText_any _ _).mono ?_
  rintro e w3 ⟨rfl, h_w3⟩
  clear c_a_0_w2 c_a_1_w2 c_a_2_w2 c_a_3_w2 c_a_4_w2 c_a_5_w2 c_a_6_w2 c_a_7_w2 c_a_8_w2
  replace x_a := x_a.from_ h_w3
  have B_w3 := B_w2.trans (h_w3.mono B_w2.size)
  have s_w3 := h_w3.size
  rw [HsTo.out]
  have c_a_0_w3 := x_a.cell (i := 0) rfl
  have c_a_1_w3 := x_a.cell (i := 1) rfl
  have c_a_2_w3 := x_a.cell (i := 2) rfl
  have c_a_3_w3 := x_a.cell (i := 3) rfl
  have c_a_4_w3 := x_a.cell (i := 4) rfl
  have c_a_5_w3 := x_a.cell (i := 5) rfl
  have c_a_6_w3 := x_a.cell (i := 6) rfl
  have c_a_7_w3 := x_a.cell (i := 7) rfl
  have c_a_8_w3 := x_a.cell (i := 8) rfl
  go_wp2_with fail
  refine (sNumText_any _ _).mono ?_
  rintro e w4 ⟨rfl, h_w4⟩
  clear c_a_0_w3 c_a_1_w3 c_a_2_w3 c_a_3_w3 c_a_4_w3 c_a_5_w3 c_a_6_w3 c_a_7_w3 c_a_8_w3
  replace x_a := x_a.from_ h_w4
  have B_w4 := B_w3.trans (h_w4.mono B_w3.size)
  have s_w4 := h_w4.size
  rw [HsAmt.out]
  have c_a_0_w4 := x_a.cell (i := 0) rfl
  have c_a_1_w4 := x_a.cell (i := 1) rfl
  have c_a_2_w4 := x_a.cell (i := 2) rfl
  have c_a_3_w4 := x_a.cell (i := 3) rfl
  have c_a_4_w4 := x_a.cell (i := 4) rfl
  have c_a_5_w4 := x_a.cell (i := 5) rfl
  have c_a_6_w4 := x_a.cell (i := 6) rfl
  have c_a_7_w4 := x_a.cell (i := 7) rfl
  have c_a_8_w4 := x_a.cell (i := 8) rfl
  go_wp2
  go_ret
  exact ⟨ret_eq (by rw [HP2.out]; rfl), B_w4⟩

set_option maxRecDepth 100000 in
set_option maxHeartbeats 8000000 in
theorem sRecText_7 {w : World} {r : MRec} (ek : r.Kind = 7) (ho : recOkB r = true) : Calls Tryd.prog 17 #[.agg #[.int .i64 r.Kind, .int .i64 r.Acct, .int .i64 r.Other, .int .i64 r.To, .int .i64 r.Amt, .int .i64 r.M.Kind, .int .i64 r.M.Acct, .int .i64 r.M.Amt, .int .i64 r.M.Src]] w fun e w' => e = .returned (.string (recText r)) ∧ Below w.heap.size w w' := by
  have HR : Hid (recOkB r = true) := Lib.hid ho
  obtain ⟨s0, hs0⟩ : ∃ s, rkName 7 = s := ⟨_, rfl⟩
  have zs0 : s0.size ≤ 5 := by rw [← hs0]; decide
  have Hs0 := Lib.hid hs0
  obtain ⟨sAcct, hsAcct⟩ : ∃ s, numText r.Acct = s := ⟨_, rfl⟩
  have zsAcct : sAcct.size ≤ 16 := by rw [← hsAcct]; exact numText_size _
  have HsAcct := Lib.hid hsAcct
  obtain ⟨sAmt, hsAmt⟩ : ∃ s, numText r.Amt = s := ⟨_, rfl⟩
  have zsAmt : sAmt.size ≤ 16 := by rw [← hsAmt]; exact numText_size _
  have HsAmt := Lib.hid hsAmt
  have HP : recText r = s0 ++ ⟨#[32]⟩ ++ sAcct ++ ⟨#[32]⟩ ++ sAmt := by
    unfold recText
    rw [if_pos ho]
    have e1 : recFields r = [numText r.Acct, numText r.Amt] := by simp [recFields, kAcct, kOther, kTo, kAmt, ek]
    rw [recWords, e1, if_neg (by omega), List.append_nil, ek, hs0, hsAcct, hsAmt]
    rfl
  obtain ⟨t1, ht1⟩ : ∃ t, s0 ++ (⟨#[32]⟩ : ByteArray) = t := ⟨_, rfl⟩
  have zt1 : t1.size ≤ 6 := by rw [← ht1, ByteArray.size_append]; have h1 : (⟨#[32]⟩ : ByteArray).size = 1 := rfl; omega
  have kt1 : ∀ W, (Op.stringOp .add s0 (⟨#[32]⟩ : ByteArray)).run Tryd.prog W = .ok (.string t1) W := fun W => by rw [← ht1]; exact run_string_add_sum W _ _ (by have h1 : (⟨#[32]⟩ : ByteArray).size = 1 := rfl; omega)
  obtain ⟨t2, ht2⟩ : ∃ t, t1 ++ sAcct = t := ⟨_, rfl⟩
  have zt2 : t2.size ≤ 22 := by rw [← ht2, ByteArray.size_append]; omega
  have kt2 : ∀ W, (Op.stringOp .add t1 sAcct).run Tryd.prog W = .ok (.string t2) W := fun W => by rw [← ht2]; exact run_string_add_sum W _ _ (by omega)
  obtain ⟨t3, ht3⟩ : ∃ t, t2 ++ (⟨#[32]⟩ : ByteArray) = t := ⟨_, rfl⟩
  have zt3 : t3.size ≤ 23 := by rw [← ht3, ByteArray.size_append]; have h1 : (⟨#[32]⟩ : ByteArray).size = 1 := rfl; omega
  have kt3 : ∀ W, (Op.stringOp .add t2 (⟨#[32]⟩ : ByteArray)).run Tryd.prog W = .ok (.string t3) W := fun W => by rw [← ht3]; exact run_string_add_sum W _ _ (by have h1 : (⟨#[32]⟩ : ByteArray).size = 1 := rfl; omega)
  obtain ⟨t4, ht4⟩ : ∃ t, t3 ++ sAmt = t := ⟨_, rfl⟩
  have zt4 : t4.size ≤ 39 := by rw [← ht4, ByteArray.size_append]; omega
  have kt4 : ∀ W, (Op.stringOp .add t3 sAmt).run Tryd.prog W = .ok (.string t4) W := fun W => by rw [← ht4]; exact run_string_add_sum W _ _ (by omega)
  have HP2 : Hid (recText r = t4) := by show _ = _; rw [HP, ht1, ht2, ht3, ht4]
  clear HP ho ht1 ht2 ht3 ht4 hs0 hsAcct hsAmt
  obtain ⟨wa, hwa, B0, sa, x_a⟩ := frame1 w 26 [.int .i64 r.Kind, .int .i64 r.Acct, .int .i64 r.Other, .int .i64 r.To, .int .i64 r.Amt, .int .i64 r.M.Kind, .int .i64 r.M.Acct, .int .i64 r.M.Amt, .int .i64 r.M.Src]
  have sa_1 := Nat.le_of_eq sa
  have sa_2 := Nat.le_of_eq sa.symm
  clear sa
  rw [ek] at x_a hwa ⊢
  have rv : RV recL w (.agg #[.int .i64 7, .int .i64 r.Acct, .int .i64 r.Other, .int .i64 r.To, .int .i64 r.Amt, .int .i64 r.M.Kind, .int .i64 r.M.Acct, .int .i64 r.M.Amt, .int .i64 r.M.Src]) r := by rw [← ek]; exact rv_rec_mk
  clear ek
  have c_a_0_wa := x_a.cell (i := 0) rfl
  have c_a_1_wa := x_a.cell (i := 1) rfl
  have c_a_2_wa := x_a.cell (i := 2) rfl
  have c_a_3_wa := x_a.cell (i := 3) rfl
  have c_a_4_wa := x_a.cell (i := 4) rfl
  have c_a_5_wa := x_a.cell (i := 5) rfl
  have c_a_6_wa := x_a.cell (i := 6) rfl
  have c_a_7_wa := x_a.cell (i := 7) rfl
  have c_a_8_wa := x_a.cell (i := 8) rfl
  go_enter Tryd.func17, Tryd.ntmps17
  go_wp2_with fail
  refine (sRecOk_c (rv.from_ B0)).mono ?_
  rintro e w1 ⟨rfl, h_w1⟩
  clear c_a_0_wa c_a_1_wa c_a_2_wa c_a_3_wa c_a_4_wa c_a_5_wa c_a_6_wa c_a_7_wa c_a_8_wa
  replace x_a := x_a.from_ h_w1
  have B_w1 := B0.trans (h_w1.mono B0.size)
  have s_w1 := h_w1.size
  clear rv
  rw [HR.out]
  have c_a_0_w1 := x_a.cell (i := 0) rfl
  have c_a_1_w1 := x_a.cell (i := 1) rfl
  have c_a_2_w1 := x_a.cell (i := 2) rfl
  have c_a_3_w1 := x_a.cell (i := 3) rfl
  have c_a_4_w1 := x_a.cell (i := 4) rfl
  have c_a_5_w1 := x_a.cell (i := 5) rfl
  have c_a_6_w1 := x_a.cell (i := 6) rfl
  have c_a_7_w1 := x_a.cell (i := 7) rfl
  have c_a_8_w1 := x_a.cell (i := 8) rfl
  go_wp2_with fail
  refine (sHas_7 _).mono ?_
  rintro e w' ⟨rfl, rfl⟩
  go_wp2_with fail
  refine (sRkName_c _ _).mono ?_
  rintro e w2 ⟨rfl, h_w2⟩
  clear c_a_0_w1 c_a_1_w1 c_a_2_w1 c_a_3_w1 c_a_4_w1 c_a_5_w1 c_a_6_w1 c_a_7_w1 c_a_8_w1
  replace x_a := x_a.from_ h_w2
  have B_w2 := B_w1.trans (h_w2.mono B_w1.size)
  have s_w2 := h_w2.size
  rw [Hs0.out]
  have c_a_0_w2 := x_a.cell (i := 0) rfl
  have c_a_1_w2 := x_a.cell (i := 1) rfl
  have c_a_2_w2 := x_a.cell (i := 2) rfl
  have c_a_3_w2 := x_a.cell (i := 3) rfl
  have c_a_4_w2 := x_a.cell (i := 4) rfl
  have c_a_5_w2 := x_a.cell (i := 5) rfl
  have c_a_6_w2 := x_a.cell (i := 6) rfl
  have c_a_7_w2 := x_a.cell (i := 7) rfl
  have c_a_8_w2 := x_a.cell (i := 8) rfl
  go_wp2_with fail
  refine (sNumText_any _ _).mono ?_
  rintro e w3 ⟨rfl, h_w3⟩
  clear c_a_0_w2 c_a_1_w2 c_a_2_w2 c_a_3_w2 c_a_4_w2 c_a_5_w2 c_a_6_w2 c_a_7_w2 c_a_8_w2
  replace x_a := x_a.from_ h_w3
  have B_w3 := B_w2.trans (h_w3.mono B_w2.size)
  have s_w3 := h_w3.size
  rw [HsAcct.out]
  have c_a_0_w3 := x_a.cell (i := 0) rfl
  have c_a_1_w3 := x_a.cell (i := 1) rfl
  have c_a_2_w3 := x_a.cell (i := 2) rfl
  have c_a_3_w3 := x_a.cell (i := 3) rfl
  have c_a_4_w3 := x_a.cell (i := 4) rfl
  have c_a_5_w3 := x_a.cell (i := 5) rfl
  have c_a_6_w3 := x_a.cell (i := 6) rfl
  have c_a_7_w3 := x_a.cell (i := 7) rfl
  have c_a_8_w3 := x_a.cell (i := 8) rfl
  go_wp2_with fail
  refine (sNumText_any _ _).mono ?_
  rintro e w4 ⟨rfl, h_w4⟩
  clear c_a_0_w3 c_a_1_w3 c_a_2_w3 c_a_3_w3 c_a_4_w3 c_a_5_w3 c_a_6_w3 c_a_7_w3 c_a_8_w3
  replace x_a := x_a.from_ h_w4
  have B_w4 := B_w3.trans (h_w4.mono B_w3.size)
  have s_w4 := h_w4.size
  rw [HsAmt.out]
  have c_a_0_w4 := x_a.cell (i := 0) rfl
  have c_a_1_w4 := x_a.cell (i := 1) rfl
  have c_a_2_w4 := x_a.cell (i := 2) rfl
  have c_a_3_w4 := x_a.cell (i := 3) rfl
  have c_a_4_w4 := x_a.cell (i := 4) rfl
  have c_a_5_w4 := x_a.cell (i := 5) rfl
  have c_a_6_w4 := x_a.cell (i := 6) rfl
  have c_a_7_w4 := x_a.cell (i := 7) rfl
  have c_a_8_w4 := x_a.cell (i := 8) rfl
  go_wp2
  go_ret
  exact ⟨ret_eq (by rw [HP2.out]; rfl), B_w4⟩

set_option maxRecDepth 100000 in
set_option maxHeartbeats 8000000 in
theorem sRecText_8 {w : World} {r : MRec} (ek : r.Kind = 8) (ho : recOkB r = true) : Calls Tryd.prog 17 #[.agg #[.int .i64 r.Kind, .int .i64 r.Acct, .int .i64 r.Other, .int .i64 r.To, .int .i64 r.Amt, .int .i64 r.M.Kind, .int .i64 r.M.Acct, .int .i64 r.M.Amt, .int .i64 r.M.Src]] w fun e w' => e = .returned (.string (recText r)) ∧ Below w.heap.size w w' := by
  have HR : Hid (recOkB r = true) := Lib.hid ho
  obtain ⟨s0, hs0⟩ : ∃ s, rkName 8 = s := ⟨_, rfl⟩
  have zs0 : s0.size ≤ 5 := by rw [← hs0]; decide
  have Hs0 := Lib.hid hs0
  obtain ⟨sAcct, hsAcct⟩ : ∃ s, numText r.Acct = s := ⟨_, rfl⟩
  have zsAcct : sAcct.size ≤ 16 := by rw [← hsAcct]; exact numText_size _
  have HsAcct := Lib.hid hsAcct
  obtain ⟨sTo, hsTo⟩ : ∃ s, numText r.To = s := ⟨_, rfl⟩
  have zsTo : sTo.size ≤ 16 := by rw [← hsTo]; exact numText_size _
  have HsTo := Lib.hid hsTo
  obtain ⟨sAmt, hsAmt⟩ : ∃ s, numText r.Amt = s := ⟨_, rfl⟩
  have zsAmt : sAmt.size ≤ 16 := by rw [← hsAmt]; exact numText_size _
  have HsAmt := Lib.hid hsAmt
  have HP : recText r = s0 ++ ⟨#[32]⟩ ++ sAcct ++ ⟨#[32]⟩ ++ sTo ++ ⟨#[32]⟩ ++ sAmt := by
    unfold recText
    rw [if_pos ho]
    have e1 : recFields r = [numText r.Acct, numText r.To, numText r.Amt] := by simp [recFields, kAcct, kOther, kTo, kAmt, ek]
    rw [recWords, e1, if_neg (by omega), List.append_nil, ek, hs0, hsAcct, hsTo, hsAmt]
    rfl
  obtain ⟨t1, ht1⟩ : ∃ t, s0 ++ (⟨#[32]⟩ : ByteArray) = t := ⟨_, rfl⟩
  have zt1 : t1.size ≤ 6 := by rw [← ht1, ByteArray.size_append]; have h1 : (⟨#[32]⟩ : ByteArray).size = 1 := rfl; omega
  have kt1 : ∀ W, (Op.stringOp .add s0 (⟨#[32]⟩ : ByteArray)).run Tryd.prog W = .ok (.string t1) W := fun W => by rw [← ht1]; exact run_string_add_sum W _ _ (by have h1 : (⟨#[32]⟩ : ByteArray).size = 1 := rfl; omega)
  obtain ⟨t2, ht2⟩ : ∃ t, t1 ++ sAcct = t := ⟨_, rfl⟩
  have zt2 : t2.size ≤ 22 := by rw [← ht2, ByteArray.size_append]; omega
  have kt2 : ∀ W, (Op.stringOp .add t1 sAcct).run Tryd.prog W = .ok (.string t2) W := fun W => by rw [← ht2]; exact run_string_add_sum W _ _ (by omega)
  obtain ⟨t3, ht3⟩ : ∃ t, t2 ++ (⟨#[32]⟩ : ByteArray) = t := ⟨_, rfl⟩
  have zt3 : t3.size ≤ 23 := by rw [← ht3, ByteArray.size_append]; have h1 : (⟨#[32]⟩ : ByteArray).size = 1 := rfl; omega
  have kt3 : ∀ W, (Op.stringOp .add t2 (⟨#[32]⟩ : ByteArray)).run Tryd.prog W = .ok (.string t3) W := fun W => by rw [← ht3]; exact run_string_add_sum W _ _ (by have h1 : (⟨#[32]⟩ : ByteArray).size = 1 := rfl; omega)
  obtain ⟨t4, ht4⟩ : ∃ t, t3 ++ sTo = t := ⟨_, rfl⟩
  have zt4 : t4.size ≤ 39 := by rw [← ht4, ByteArray.size_append]; omega
  have kt4 : ∀ W, (Op.stringOp .add t3 sTo).run Tryd.prog W = .ok (.string t4) W := fun W => by rw [← ht4]; exact run_string_add_sum W _ _ (by omega)
  obtain ⟨t5, ht5⟩ : ∃ t, t4 ++ (⟨#[32]⟩ : ByteArray) = t := ⟨_, rfl⟩
  have zt5 : t5.size ≤ 40 := by rw [← ht5, ByteArray.size_append]; have h1 : (⟨#[32]⟩ : ByteArray).size = 1 := rfl; omega
  have kt5 : ∀ W, (Op.stringOp .add t4 (⟨#[32]⟩ : ByteArray)).run Tryd.prog W = .ok (.string t5) W := fun W => by rw [← ht5]; exact run_string_add_sum W _ _ (by have h1 : (⟨#[32]⟩ : ByteArray).size = 1 := rfl; omega)
  obtain ⟨t6, ht6⟩ : ∃ t, t5 ++ sAmt = t := ⟨_, rfl⟩
  have zt6 : t6.size ≤ 56 := by rw [← ht6, ByteArray.size_append]; omega
  have kt6 : ∀ W, (Op.stringOp .add t5 sAmt).run Tryd.prog W = .ok (.string t6) W := fun W => by rw [← ht6]; exact run_string_add_sum W _ _ (by omega)
  have HP2 : Hid (recText r = t6) := by show _ = _; rw [HP, ht1, ht2, ht3, ht4, ht5, ht6]
  clear HP ho ht1 ht2 ht3 ht4 ht5 ht6 hs0 hsAcct hsTo hsAmt
  obtain ⟨wa, hwa, B0, sa, x_a⟩ := frame1 w 26 [.int .i64 r.Kind, .int .i64 r.Acct, .int .i64 r.Other, .int .i64 r.To, .int .i64 r.Amt, .int .i64 r.M.Kind, .int .i64 r.M.Acct, .int .i64 r.M.Amt, .int .i64 r.M.Src]
  have sa_1 := Nat.le_of_eq sa
  have sa_2 := Nat.le_of_eq sa.symm
  clear sa
  rw [ek] at x_a hwa ⊢
  have rv : RV recL w (.agg #[.int .i64 8, .int .i64 r.Acct, .int .i64 r.Other, .int .i64 r.To, .int .i64 r.Amt, .int .i64 r.M.Kind, .int .i64 r.M.Acct, .int .i64 r.M.Amt, .int .i64 r.M.Src]) r := by rw [← ek]; exact rv_rec_mk
  clear ek
  have c_a_0_wa := x_a.cell (i := 0) rfl
  have c_a_1_wa := x_a.cell (i := 1) rfl
  have c_a_2_wa := x_a.cell (i := 2) rfl
  have c_a_3_wa := x_a.cell (i := 3) rfl
  have c_a_4_wa := x_a.cell (i := 4) rfl
  have c_a_5_wa := x_a.cell (i := 5) rfl
  have c_a_6_wa := x_a.cell (i := 6) rfl
  have c_a_7_wa := x_a.cell (i := 7) rfl
  have c_a_8_wa := x_a.cell (i := 8) rfl
  go_enter Tryd.func17, Tryd.ntmps17
  go_wp2_with fail
  refine (sRecOk_c (rv.from_ B0)).mono ?_
  rintro e w1 ⟨rfl, h_w1⟩
  clear c_a_0_wa c_a_1_wa c_a_2_wa c_a_3_wa c_a_4_wa c_a_5_wa c_a_6_wa c_a_7_wa c_a_8_wa
  replace x_a := x_a.from_ h_w1
  have B_w1 := B0.trans (h_w1.mono B0.size)
  have s_w1 := h_w1.size
  clear rv
  rw [HR.out]
  have c_a_0_w1 := x_a.cell (i := 0) rfl
  have c_a_1_w1 := x_a.cell (i := 1) rfl
  have c_a_2_w1 := x_a.cell (i := 2) rfl
  have c_a_3_w1 := x_a.cell (i := 3) rfl
  have c_a_4_w1 := x_a.cell (i := 4) rfl
  have c_a_5_w1 := x_a.cell (i := 5) rfl
  have c_a_6_w1 := x_a.cell (i := 6) rfl
  have c_a_7_w1 := x_a.cell (i := 7) rfl
  have c_a_8_w1 := x_a.cell (i := 8) rfl
  go_wp2_with fail
  refine (sHas_8 _).mono ?_
  rintro e w' ⟨rfl, rfl⟩
  go_wp2_with fail
  refine (sRkName_c _ _).mono ?_
  rintro e w2 ⟨rfl, h_w2⟩
  clear c_a_0_w1 c_a_1_w1 c_a_2_w1 c_a_3_w1 c_a_4_w1 c_a_5_w1 c_a_6_w1 c_a_7_w1 c_a_8_w1
  replace x_a := x_a.from_ h_w2
  have B_w2 := B_w1.trans (h_w2.mono B_w1.size)
  have s_w2 := h_w2.size
  rw [Hs0.out]
  have c_a_0_w2 := x_a.cell (i := 0) rfl
  have c_a_1_w2 := x_a.cell (i := 1) rfl
  have c_a_2_w2 := x_a.cell (i := 2) rfl
  have c_a_3_w2 := x_a.cell (i := 3) rfl
  have c_a_4_w2 := x_a.cell (i := 4) rfl
  have c_a_5_w2 := x_a.cell (i := 5) rfl
  have c_a_6_w2 := x_a.cell (i := 6) rfl
  have c_a_7_w2 := x_a.cell (i := 7) rfl
  have c_a_8_w2 := x_a.cell (i := 8) rfl
  go_wp2_with fail
  refine (sNumText_any _ _).mono ?_
  rintro e w3 ⟨rfl, h_w3⟩
  clear c_a_0_w2 c_a_1_w2 c_a_2_w2 c_a_3_w2 c_a_4_w2 c_a_5_w2 c_a_6_w2 c_a_7_w2 c_a_8_w2
  replace x_a := x_a.from_ h_w3
  have B_w3 := B_w2.trans (h_w3.mono B_w2.size)
  have s_w3 := h_w3.size
  rw [HsAcct.out]
  have c_a_0_w3 := x_a.cell (i := 0) rfl
  have c_a_1_w3 := x_a.cell (i := 1) rfl
  have c_a_2_w3 := x_a.cell (i := 2) rfl
  have c_a_3_w3 := x_a.cell (i := 3) rfl
  have c_a_4_w3 := x_a.cell (i := 4) rfl
  have c_a_5_w3 := x_a.cell (i := 5) rfl
  have c_a_6_w3 := x_a.cell (i := 6) rfl
  have c_a_7_w3 := x_a.cell (i := 7) rfl
  have c_a_8_w3 := x_a.cell (i := 8) rfl
  go_wp2_with fail
  refine (sNumText_any _ _).mono ?_
  rintro e w4 ⟨rfl, h_w4⟩
  clear c_a_0_w3 c_a_1_w3 c_a_2_w3 c_a_3_w3 c_a_4_w3 c_a_5_w3 c_a_6_w3 c_a_7_w3 c_a_8_w3
  replace x_a := x_a.from_ h_w4
  have B_w4 := B_w3.trans (h_w4.mono B_w3.size)
  have s_w4 := h_w4.size
  rw [HsTo.out]
  have c_a_0_w4 := x_a.cell (i := 0) rfl
  have c_a_1_w4 := x_a.cell (i := 1) rfl
  have c_a_2_w4 := x_a.cell (i := 2) rfl
  have c_a_3_w4 := x_a.cell (i := 3) rfl
  have c_a_4_w4 := x_a.cell (i := 4) rfl
  have c_a_5_w4 := x_a.cell (i := 5) rfl
  have c_a_6_w4 := x_a.cell (i := 6) rfl
  have c_a_7_w4 := x_a.cell (i := 7) rfl
  have c_a_8_w4 := x_a.cell (i := 8) rfl
  go_wp2_with fail
  refine (sNumText_any _ _).mono ?_
  rintro e w5 ⟨rfl, h_w5⟩
  clear c_a_0_w4 c_a_1_w4 c_a_2_w4 c_a_3_w4 c_a_4_w4 c_a_5_w4 c_a_6_w4 c_a_7_w4 c_a_8_w4
  replace x_a := x_a.from_ h_w5
  have B_w5 := B_w4.trans (h_w5.mono B_w4.size)
  have s_w5 := h_w5.size
  rw [HsAmt.out]
  have c_a_0_w5 := x_a.cell (i := 0) rfl
  have c_a_1_w5 := x_a.cell (i := 1) rfl
  have c_a_2_w5 := x_a.cell (i := 2) rfl
  have c_a_3_w5 := x_a.cell (i := 3) rfl
  have c_a_4_w5 := x_a.cell (i := 4) rfl
  have c_a_5_w5 := x_a.cell (i := 5) rfl
  have c_a_6_w5 := x_a.cell (i := 6) rfl
  have c_a_7_w5 := x_a.cell (i := 7) rfl
  have c_a_8_w5 := x_a.cell (i := 8) rfl
  go_wp2
  go_ret
  exact ⟨ret_eq (by rw [HP2.out]; rfl), B_w5⟩

set_option maxRecDepth 100000 in
set_option maxHeartbeats 8000000 in
theorem sRecText_9 {w : World} {r : MRec} (ek : r.Kind = 9) (ho : recOkB r = true) : Calls Tryd.prog 17 #[.agg #[.int .i64 r.Kind, .int .i64 r.Acct, .int .i64 r.Other, .int .i64 r.To, .int .i64 r.Amt, .int .i64 r.M.Kind, .int .i64 r.M.Acct, .int .i64 r.M.Amt, .int .i64 r.M.Src]] w fun e w' => e = .returned (.string (recText r)) ∧ Below w.heap.size w w' := by
  have HR : Hid (recOkB r = true) := Lib.hid ho
  obtain ⟨s0, hs0⟩ : ∃ s, rkName 9 = s := ⟨_, rfl⟩
  have zs0 : s0.size ≤ 5 := by rw [← hs0]; decide
  have Hs0 := Lib.hid hs0
  obtain ⟨sAcct, hsAcct⟩ : ∃ s, numText r.Acct = s := ⟨_, rfl⟩
  have zsAcct : sAcct.size ≤ 16 := by rw [← hsAcct]; exact numText_size _
  have HsAcct := Lib.hid hsAcct
  obtain ⟨sTo, hsTo⟩ : ∃ s, numText r.To = s := ⟨_, rfl⟩
  have zsTo : sTo.size ≤ 16 := by rw [← hsTo]; exact numText_size _
  have HsTo := Lib.hid hsTo
  have HP : recText r = s0 ++ ⟨#[32]⟩ ++ sAcct ++ ⟨#[32]⟩ ++ sTo := by
    unfold recText
    rw [if_pos ho]
    have e1 : recFields r = [numText r.Acct, numText r.To] := by simp [recFields, kAcct, kOther, kTo, kAmt, ek]
    rw [recWords, e1, if_neg (by omega), List.append_nil, ek, hs0, hsAcct, hsTo]
    rfl
  obtain ⟨t1, ht1⟩ : ∃ t, s0 ++ (⟨#[32]⟩ : ByteArray) = t := ⟨_, rfl⟩
  have zt1 : t1.size ≤ 6 := by rw [← ht1, ByteArray.size_append]; have h1 : (⟨#[32]⟩ : ByteArray).size = 1 := rfl; omega
  have kt1 : ∀ W, (Op.stringOp .add s0 (⟨#[32]⟩ : ByteArray)).run Tryd.prog W = .ok (.string t1) W := fun W => by rw [← ht1]; exact run_string_add_sum W _ _ (by have h1 : (⟨#[32]⟩ : ByteArray).size = 1 := rfl; omega)
  obtain ⟨t2, ht2⟩ : ∃ t, t1 ++ sAcct = t := ⟨_, rfl⟩
  have zt2 : t2.size ≤ 22 := by rw [← ht2, ByteArray.size_append]; omega
  have kt2 : ∀ W, (Op.stringOp .add t1 sAcct).run Tryd.prog W = .ok (.string t2) W := fun W => by rw [← ht2]; exact run_string_add_sum W _ _ (by omega)
  obtain ⟨t3, ht3⟩ : ∃ t, t2 ++ (⟨#[32]⟩ : ByteArray) = t := ⟨_, rfl⟩
  have zt3 : t3.size ≤ 23 := by rw [← ht3, ByteArray.size_append]; have h1 : (⟨#[32]⟩ : ByteArray).size = 1 := rfl; omega
  have kt3 : ∀ W, (Op.stringOp .add t2 (⟨#[32]⟩ : ByteArray)).run Tryd.prog W = .ok (.string t3) W := fun W => by rw [← ht3]; exact run_string_add_sum W _ _ (by have h1 : (⟨#[32]⟩ : ByteArray).size = 1 := rfl; omega)
  obtain ⟨t4, ht4⟩ : ∃ t, t3 ++ sTo = t := ⟨_, rfl⟩
  have zt4 : t4.size ≤ 39 := by rw [← ht4, ByteArray.size_append]; omega
  have kt4 : ∀ W, (Op.stringOp .add t3 sTo).run Tryd.prog W = .ok (.string t4) W := fun W => by rw [← ht4]; exact run_string_add_sum W _ _ (by omega)
  have HP2 : Hid (recText r = t4) := by show _ = _; rw [HP, ht1, ht2, ht3, ht4]
  clear HP ho ht1 ht2 ht3 ht4 hs0 hsAcct hsTo
  obtain ⟨wa, hwa, B0, sa, x_a⟩ := frame1 w 26 [.int .i64 r.Kind, .int .i64 r.Acct, .int .i64 r.Other, .int .i64 r.To, .int .i64 r.Amt, .int .i64 r.M.Kind, .int .i64 r.M.Acct, .int .i64 r.M.Amt, .int .i64 r.M.Src]
  have sa_1 := Nat.le_of_eq sa
  have sa_2 := Nat.le_of_eq sa.symm
  clear sa
  rw [ek] at x_a hwa ⊢
  have rv : RV recL w (.agg #[.int .i64 9, .int .i64 r.Acct, .int .i64 r.Other, .int .i64 r.To, .int .i64 r.Amt, .int .i64 r.M.Kind, .int .i64 r.M.Acct, .int .i64 r.M.Amt, .int .i64 r.M.Src]) r := by rw [← ek]; exact rv_rec_mk
  clear ek
  have c_a_0_wa := x_a.cell (i := 0) rfl
  have c_a_1_wa := x_a.cell (i := 1) rfl
  have c_a_2_wa := x_a.cell (i := 2) rfl
  have c_a_3_wa := x_a.cell (i := 3) rfl
  have c_a_4_wa := x_a.cell (i := 4) rfl
  have c_a_5_wa := x_a.cell (i := 5) rfl
  have c_a_6_wa := x_a.cell (i := 6) rfl
  have c_a_7_wa := x_a.cell (i := 7) rfl
  have c_a_8_wa := x_a.cell (i := 8) rfl
  go_enter Tryd.func17, Tryd.ntmps17
  go_wp2_with fail
  refine (sRecOk_c (rv.from_ B0)).mono ?_
  rintro e w1 ⟨rfl, h_w1⟩
  clear c_a_0_wa c_a_1_wa c_a_2_wa c_a_3_wa c_a_4_wa c_a_5_wa c_a_6_wa c_a_7_wa c_a_8_wa
  replace x_a := x_a.from_ h_w1
  have B_w1 := B0.trans (h_w1.mono B0.size)
  have s_w1 := h_w1.size
  clear rv
  rw [HR.out]
  have c_a_0_w1 := x_a.cell (i := 0) rfl
  have c_a_1_w1 := x_a.cell (i := 1) rfl
  have c_a_2_w1 := x_a.cell (i := 2) rfl
  have c_a_3_w1 := x_a.cell (i := 3) rfl
  have c_a_4_w1 := x_a.cell (i := 4) rfl
  have c_a_5_w1 := x_a.cell (i := 5) rfl
  have c_a_6_w1 := x_a.cell (i := 6) rfl
  have c_a_7_w1 := x_a.cell (i := 7) rfl
  have c_a_8_w1 := x_a.cell (i := 8) rfl
  go_wp2_with fail
  refine (sHas_9 _).mono ?_
  rintro e w' ⟨rfl, rfl⟩
  go_wp2_with fail
  refine (sRkName_c _ _).mono ?_
  rintro e w2 ⟨rfl, h_w2⟩
  clear c_a_0_w1 c_a_1_w1 c_a_2_w1 c_a_3_w1 c_a_4_w1 c_a_5_w1 c_a_6_w1 c_a_7_w1 c_a_8_w1
  replace x_a := x_a.from_ h_w2
  have B_w2 := B_w1.trans (h_w2.mono B_w1.size)
  have s_w2 := h_w2.size
  rw [Hs0.out]
  have c_a_0_w2 := x_a.cell (i := 0) rfl
  have c_a_1_w2 := x_a.cell (i := 1) rfl
  have c_a_2_w2 := x_a.cell (i := 2) rfl
  have c_a_3_w2 := x_a.cell (i := 3) rfl
  have c_a_4_w2 := x_a.cell (i := 4) rfl
  have c_a_5_w2 := x_a.cell (i := 5) rfl
  have c_a_6_w2 := x_a.cell (i := 6) rfl
  have c_a_7_w2 := x_a.cell (i := 7) rfl
  have c_a_8_w2 := x_a.cell (i := 8) rfl
  go_wp2_with fail
  refine (sNumText_any _ _).mono ?_
  rintro e w3 ⟨rfl, h_w3⟩
  clear c_a_0_w2 c_a_1_w2 c_a_2_w2 c_a_3_w2 c_a_4_w2 c_a_5_w2 c_a_6_w2 c_a_7_w2 c_a_8_w2
  replace x_a := x_a.from_ h_w3
  have B_w3 := B_w2.trans (h_w3.mono B_w2.size)
  have s_w3 := h_w3.size
  rw [HsAcct.out]
  have c_a_0_w3 := x_a.cell (i := 0) rfl
  have c_a_1_w3 := x_a.cell (i := 1) rfl
  have c_a_2_w3 := x_a.cell (i := 2) rfl
  have c_a_3_w3 := x_a.cell (i := 3) rfl
  have c_a_4_w3 := x_a.cell (i := 4) rfl
  have c_a_5_w3 := x_a.cell (i := 5) rfl
  have c_a_6_w3 := x_a.cell (i := 6) rfl
  have c_a_7_w3 := x_a.cell (i := 7) rfl
  have c_a_8_w3 := x_a.cell (i := 8) rfl
  go_wp2_with fail
  refine (sNumText_any _ _).mono ?_
  rintro e w4 ⟨rfl, h_w4⟩
  clear c_a_0_w3 c_a_1_w3 c_a_2_w3 c_a_3_w3 c_a_4_w3 c_a_5_w3 c_a_6_w3 c_a_7_w3 c_a_8_w3
  replace x_a := x_a.from_ h_w4
  have B_w4 := B_w3.trans (h_w4.mono B_w3.size)
  have s_w4 := h_w4.size
  rw [HsTo.out]
  have c_a_0_w4 := x_a.cell (i := 0) rfl
  have c_a_1_w4 := x_a.cell (i := 1) rfl
  have c_a_2_w4 := x_a.cell (i := 2) rfl
  have c_a_3_w4 := x_a.cell (i := 3) rfl
  have c_a_4_w4 := x_a.cell (i := 4) rfl
  have c_a_5_w4 := x_a.cell (i := 5) rfl
  have c_a_6_w4 := x_a.cell (i := 6) rfl
  have c_a_7_w4 := x_a.cell (i := 7) rfl
  have c_a_8_w4 := x_a.cell (i := 8) rfl
  go_wp2
  go_ret
  exact ⟨ret_eq (by rw [HP2.out]; rfl), B_w4⟩

set_option maxHeartbeats 4000000 in
theorem sRecText_c {w : World} {v : Value} {r : MRec} (h : RV recL w v r) : Calls Tryd.prog 17 #[v] w fun e w' => e = .returned (.string (recText r)) ∧ Below w.heap.size w w' := by
  by_cases ho : recOkB r = true
  case pos =>
    obtain rfl := rv_rec h
    have h9 := (recOk_parts ho).1
    have h5 : r.Kind = 1 ∨ r.Kind = 2 ∨ r.Kind = 3 ∨ r.Kind = 4 ∨ r.Kind = 5 ∨ r.Kind = 6 ∨ r.Kind = 7 ∨ r.Kind = 8 ∨ r.Kind = 9 := by omega
    rcases h5 with e | e | e | e | e | e | e | e | e
    · exact sRecText_1 e ho
    · exact sRecText_2 e ho
    · exact sRecText_3 e ho
    · exact sRecText_4 e ho
    · exact sRecText_5 e ho
    · exact sRecText_6 e ho
    · exact sRecText_7 e ho
    · exact sRecText_8 e ho
    · exact sRecText_9 e ho
  have ho' : recOkB r = false := by simpa using ho
  have HO := Lib.hid ho'
  have HP : Hid (recText r = ⟨#[]⟩) := by show _ = _; unfold recText; rw [if_neg ho]
  clear ho ho'
  have h1 := h
  obtain rfl := rv_rec h1
  clear h1
  obtain ⟨wa, hwa, B0, sa, x_a⟩ := frame1 w 26 [.int .i64 r.Kind, .int .i64 r.Acct, .int .i64 r.Other, .int .i64 r.To, .int .i64 r.Amt, .int .i64 r.M.Kind, .int .i64 r.M.Acct, .int .i64 r.M.Amt, .int .i64 r.M.Src]
  have sa_1 := Nat.le_of_eq sa
  have sa_2 := Nat.le_of_eq sa.symm
  clear sa
  have c_a_0_wa := x_a.cell (i := 0) rfl
  have c_a_1_wa := x_a.cell (i := 1) rfl
  have c_a_2_wa := x_a.cell (i := 2) rfl
  have c_a_3_wa := x_a.cell (i := 3) rfl
  have c_a_4_wa := x_a.cell (i := 4) rfl
  have c_a_5_wa := x_a.cell (i := 5) rfl
  have c_a_6_wa := x_a.cell (i := 6) rfl
  have c_a_7_wa := x_a.cell (i := 7) rfl
  have c_a_8_wa := x_a.cell (i := 8) rfl
  go_enter Tryd.func17, Tryd.ntmps17
  go_wp2_with fail
  refine (sRecOk_c (h.from_ B0)).mono ?_
  rintro e w1 ⟨rfl, h_w1⟩
  clear c_a_0_wa c_a_1_wa c_a_2_wa c_a_3_wa c_a_4_wa c_a_5_wa c_a_6_wa c_a_7_wa c_a_8_wa
  replace x_a := x_a.from_ h_w1
  have B_w1 := B0.trans (h_w1.mono B0.size)
  have s_w1 := h_w1.size
  rw [HO.out]
  go_wp2
  go_ret
  exact ⟨by rw [HP.out]; rfl, B_w1⟩

end Go.Proofs.YtkbhbccpmmhelaaDoor
