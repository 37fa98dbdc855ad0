/- Records: impl.RecOk, RecBytes. Laid by a program of ours (src/rcv.py). -/
import Derived.Test.YtkbhbccpmmhelaaRcV
import Derived.Test.YtkbhbccpmmhelaaBunR
import Derived.Test.YtkbhbccpmmhelaaBunM
namespace Go.Proofs.Ytkbhbccpmmhelaa
open Go.RowKit
set_option linter.unusedVariables false
set_option linter.unusedSimpArgs false

theorem str_ne_nil {s : ByteArray} (h : s ≠ ⟨#[]⟩) : (s.toList == []) = false := by
  have hsz : (s.toList == (⟨#[]⟩ : ByteArray).toList) = false := by rw [str_same]; simpa using h
  rw [show (⟨#[]⟩ : ByteArray).toList = [] from by rw [ByteArray.toList_eq]] at hsz
  exact hsz
theorem eql_rec_run (W : World) (a b : MRec) : (binOp .eql 29 (.agg #[.int .i64 a.Kind, .int .i64 a.Acct, .int .i64 a.Other, .int .i64 a.To, .int .i64 a.Amt, .int .i64 a.M.Kind, .int .i64 a.M.Acct, .int .i64 a.M.Amt, .int .i64 a.M.Src]) (.agg #[.int .i64 b.Kind, .int .i64 b.Acct, .int .i64 b.Other, .int .i64 b.To, .int .i64 b.Amt, .int .i64 b.M.Kind, .int .i64 b.M.Acct, .int .i64 b.M.Amt, .int .i64 b.M.Src])).run Try.prog W = .ok (.bool (decide (a = b))) W := by
  rw [run_eql_struct, eq_rec_run 9997]; rfl

set_option maxRecDepth 100000 in
set_option maxHeartbeats 8000000 in
theorem iRecOk_c {w : World} {v : Value} {r : MRec} (h : RV recL w v r) : Calls Try.prog 9 #[v] w fun e w' => e = .returned (.bool (recOkB r)) ∧ Below w.heap.size w w' := by
  obtain rfl := rv_rec h
  clear h
  obtain ⟨wa, hwa, B0, sa, x_a⟩ := frame1 w 29 [.int .i64 r.Kind, .int .i64 r.Acct, .int .i64 r.Other, .int .i64 r.To, .int .i64 r.Amt, .int .i64 r.M.Kind, .int .i64 r.M.Acct, .int .i64 r.M.Amt, .int .i64 r.M.Src]
  have sa_1 := Nat.le_of_eq sa
  have sa_2 := Nat.le_of_eq sa.symm
  clear sa
  have c_a_0_wa := x_a.cell (i := 0) rfl
  have c_a_1_wa := x_a.cell (i := 1) rfl
  have c_a_2_wa := x_a.cell (i := 2) rfl
  have c_a_3_wa := x_a.cell (i := 3) rfl
  have c_a_4_wa := x_a.cell (i := 4) rfl
  have c_a_5_wa := x_a.cell (i := 5) rfl
  have c_a_6_wa := x_a.cell (i := 6) rfl
  have c_a_7_wa := x_a.cell (i := 7) rfl
  have c_a_8_wa := x_a.cell (i := 8) rfl
  by_cases hk : 1 ≤ r.Kind ∧ r.Kind ≤ 9
  case neg =>
    have HO : Hid (recOkB r = false) := recOk_kind (by rw [inB_false]; exact hk)
    have HN : Hid (rkName r.Kind = ⟨#[]⟩) := by show _ = _; unfold rkName; rw [if_neg (by omega), if_neg (by omega), if_neg (by omega), if_neg (by omega), if_neg (by omega), if_neg (by omega), if_neg (by omega), if_neg (by omega), if_neg (by omega)]
    clear hk
    go_enter Try.func9, Try.ntmps9
    go_wp2_with fail
    refine (iRkName_w _ _).mono ?_
    rintro e w' ⟨rfl, rfl⟩
    rw [HN.out]
    go_wp2
    go_ret
    exact ⟨by rw [HO.out]; rfl, B0⟩
  have HI := Lib.hid (recOk_impl hk)
  obtain ⟨s, hs⟩ : ∃ s, rkName r.Kind = s := ⟨_, rfl⟩
  have HS := Lib.hid hs
  have hne : s ≠ (⟨#[]⟩ : ByteArray) := by rw [← hs]; intro e; rcases kinds9 hk with h | h | h | h | h | h | h | h | h <;> rw [h] at e <;> revert e <;> decide
  have hsz : (s.toList == (⟨#[]⟩ : ByteArray).toList) = false := by rw [str_same]; simpa using hne
  have hsz3 := str_ne_nil hne
  have HK := Lib.hid hk
  clear hs hk
  obtain ⟨q, hq⟩ : ∃ q, restR r = q := ⟨_, rfl⟩
  have HQ := Lib.hid hq
  clear hq
  have gd := fun op x y W xs ys => guard_rec_run op x y W xs ys
  obtain ⟨bA, hA⟩ : ∃ b, (inB r.Acct 0 2) = b := ⟨_, rfl⟩
  have HA := Lib.hid hA
  clear hA
  cases bA with
  | false =>
    go_enter Try.func9, Try.ntmps9
    go_wp2_with fail
    refine (iRkName_w _ _).mono ?_
    rintro e w' ⟨rfl, rfl⟩
    rw [HS.out]
    go_wp2_with fail
    refine (iAcct_any _ _).mono ?_
    rintro e w' ⟨rfl, rfl⟩
    rw [HA.out]
    go_wp2
    go_ret
    exact ⟨ret_eq (by rw [HI.out]; simp [HA.out]), B0⟩
  | true =>
    obtain ⟨bO, hO⟩ : ∃ b, (inB r.Other 0 2) = b := ⟨_, rfl⟩
    have HO := Lib.hid hO
    clear hO
    cases bO with
    | false =>
      go_enter Try.func9, Try.ntmps9
      go_wp2_with fail
      refine (iRkName_w _ _).mono ?_
      rintro e w' ⟨rfl, rfl⟩
      rw [HS.out]
      go_wp2_with fail
      refine (iAcct_any _ _).mono ?_
      rintro e w' ⟨rfl, rfl⟩
      rw [HA.out]
      go_wp2_with fail
      refine (iAcct_any _ _).mono ?_
      rintro e w' ⟨rfl, rfl⟩
      rw [HO.out]
      go_wp2
      go_ret
      exact ⟨ret_eq (by rw [HI.out]; simp [HA.out, HO.out]), B0⟩
    | true =>
      obtain ⟨bT, hT⟩ : ∃ b, (inB r.To 0 3) = b := ⟨_, rfl⟩
      have HT := Lib.hid hT
      clear hT
      cases bT with
      | false =>
        go_enter Try.func9, Try.ntmps9
        go_wp2_with fail
        refine (iRkName_w _ _).mono ?_
        rintro e w' ⟨rfl, rfl⟩
        rw [HS.out]
        go_wp2_with fail
        refine (iAcct_any _ _).mono ?_
        rintro e w' ⟨rfl, rfl⟩
        rw [HA.out]
        go_wp2_with fail
        refine (iAcct_any _ _).mono ?_
        rintro e w' ⟨rfl, rfl⟩
        rw [HO.out]
        go_wp2_with fail
        refine (iNode_any _ _).mono ?_
        rintro e w' ⟨rfl, rfl⟩
        rw [HT.out]
        go_wp2
        go_ret
        exact ⟨ret_eq (by rw [HI.out]; simp [HA.out, HO.out, HT.out]), B0⟩
      | true =>
        obtain ⟨bM, hM⟩ : ∃ b, (amtI r.Kind r.Amt) = b := ⟨_, rfl⟩
        have HM := Lib.hid hM
        clear hM
        cases bM with
        | false =>
          go_enter Try.func9, Try.ntmps9
          go_wp2_with fail
          refine (iRkName_w _ _).mono ?_
          rintro e w' ⟨rfl, rfl⟩
          rw [HS.out]
          go_wp2_with fail
          refine (iAcct_any _ _).mono ?_
          rintro e w' ⟨rfl, rfl⟩
          rw [HA.out]
          go_wp2_with fail
          refine (iAcct_any _ _).mono ?_
          rintro e w' ⟨rfl, rfl⟩
          rw [HO.out]
          go_wp2_with fail
          refine (iNode_any _ _).mono ?_
          rintro e w' ⟨rfl, rfl⟩
          rw [HT.out]
          go_wp2_with fail
          refine (iAmtFits_c HK.out).mono ?_
          rintro e w1 ⟨rfl, h_w1⟩
          clear c_a_0_wa c_a_1_wa c_a_2_wa c_a_3_wa c_a_4_wa c_a_5_wa c_a_6_wa c_a_7_wa c_a_8_wa
          replace x_a := x_a.from_ h_w1
          have B_w1 := B0.trans (h_w1.mono B0.size)
          have s_w1 := h_w1.size
          rw [HM.out]
          go_wp2
          go_ret
          exact ⟨ret_eq (by rw [HI.out]; simp [HA.out, HO.out, HT.out, HM.out]), B_w1⟩
        | true =>
          obtain ⟨bG, hG⟩ : ∃ b, ((r.Kind != 5 || msgOkB r.M)) = b := ⟨_, rfl⟩
          have HG := Lib.hid hG
          clear hG
          cases bG with
          | false =>
            go_enter Try.func9, Try.ntmps9
            go_wp2_with fail
            refine (iRkName_w _ _).mono ?_
            rintro e w' ⟨rfl, rfl⟩
            rw [HS.out]
            go_wp2_with fail
            refine (iAcct_any _ _).mono ?_
            rintro e w' ⟨rfl, rfl⟩
            rw [HA.out]
            go_wp2_with fail
            refine (iAcct_any _ _).mono ?_
            rintro e w' ⟨rfl, rfl⟩
            rw [HO.out]
            go_wp2_with fail
            refine (iNode_any _ _).mono ?_
            rintro e w' ⟨rfl, rfl⟩
            rw [HT.out]
            go_wp2_with fail
            refine (iAmtFits_c HK.out).mono ?_
            rintro e w1 ⟨rfl, h_w1⟩
            clear c_a_0_wa c_a_1_wa c_a_2_wa c_a_3_wa c_a_4_wa c_a_5_wa c_a_6_wa c_a_7_wa c_a_8_wa
            replace x_a := x_a.from_ h_w1
            have B_w1 := B0.trans (h_w1.mono B0.size)
            have s_w1 := h_w1.size
            rw [HM.out]
            have c_a_0_w1 := x_a.cell (i := 0) rfl
            have c_a_1_w1 := x_a.cell (i := 1) rfl
            have c_a_2_w1 := x_a.cell (i := 2) rfl
            have c_a_3_w1 := x_a.cell (i := 3) rfl
            have c_a_4_w1 := x_a.cell (i := 4) rfl
            have c_a_5_w1 := x_a.cell (i := 5) rfl
            have c_a_6_w1 := x_a.cell (i := 6) rfl
            have c_a_7_w1 := x_a.cell (i := 7) rfl
            have c_a_8_w1 := x_a.cell (i := 8) rfl
            go_wp2_with fail
            refine (iMsgFits_c).mono ?_
            rintro e w2 ⟨rfl, h_w2⟩
            clear c_a_0_w1 c_a_1_w1 c_a_2_w1 c_a_3_w1 c_a_4_w1 c_a_5_w1 c_a_6_w1 c_a_7_w1 c_a_8_w1
            replace x_a := x_a.from_ h_w2
            have B_w2 := B_w1.trans (h_w2.mono B_w1.size)
            have s_w2 := h_w2.size
            rw [HG.out]
            go_wp2
            go_ret
            exact ⟨ret_eq (by rw [HI.out]; simp [HA.out, HO.out, HT.out, HM.out, HG.out]), B_w2⟩
          | true =>
            obtain ⟨bU, hU⟩ : ∃ b, (decide (restR r = recZ)) = b := ⟨_, rfl⟩
            have HU := Lib.hid hU
            clear hU
            cases bU with
            | false =>
              go_enter Try.func9, Try.ntmps9
              go_wp2_with fail
              refine (iRkName_w _ _).mono ?_
              rintro e w' ⟨rfl, rfl⟩
              rw [HS.out]
              go_wp2_with fail
              refine (iAcct_any _ _).mono ?_
              rintro e w' ⟨rfl, rfl⟩
              rw [HA.out]
              go_wp2_with fail
              refine (iAcct_any _ _).mono ?_
              rintro e w' ⟨rfl, rfl⟩
              rw [HO.out]
              go_wp2_with fail
              refine (iNode_any _ _).mono ?_
              rintro e w' ⟨rfl, rfl⟩
              rw [HT.out]
              go_wp2_with fail
              refine (iAmtFits_c HK.out).mono ?_
              rintro e w1 ⟨rfl, h_w1⟩
              clear c_a_0_wa c_a_1_wa c_a_2_wa c_a_3_wa c_a_4_wa c_a_5_wa c_a_6_wa c_a_7_wa c_a_8_wa
              replace x_a := x_a.from_ h_w1
              have B_w1 := B0.trans (h_w1.mono B0.size)
              have s_w1 := h_w1.size
              rw [HM.out]
              have c_a_0_w1 := x_a.cell (i := 0) rfl
              have c_a_1_w1 := x_a.cell (i := 1) rfl
              have c_a_2_w1 := x_a.cell (i := 2) rfl
              have c_a_3_w1 := x_a.cell (i := 3) rfl
              have c_a_4_w1 := x_a.cell (i := 4) rfl
              have c_a_5_w1 := x_a.cell (i := 5) rfl
              have c_a_6_w1 := x_a.cell (i := 6) rfl
              have c_a_7_w1 := x_a.cell (i := 7) rfl
              have c_a_8_w1 := x_a.cell (i := 8) rfl
              go_wp2_with fail
              refine (iMsgFits_c).mono ?_
              rintro e w2 ⟨rfl, h_w2⟩
              clear c_a_0_w1 c_a_1_w1 c_a_2_w1 c_a_3_w1 c_a_4_w1 c_a_5_w1 c_a_6_w1 c_a_7_w1 c_a_8_w1
              replace x_a := x_a.from_ h_w2
              have B_w2 := B_w1.trans (h_w2.mono B_w1.size)
              have s_w2 := h_w2.size
              rw [HG.out]
              have c_a_0_w2 := x_a.cell (i := 0) rfl
              have c_a_1_w2 := x_a.cell (i := 1) rfl
              have c_a_2_w2 := x_a.cell (i := 2) rfl
              have c_a_3_w2 := x_a.cell (i := 3) rfl
              have c_a_4_w2 := x_a.cell (i := 4) rfl
              have c_a_5_w2 := x_a.cell (i := 5) rfl
              have c_a_6_w2 := x_a.cell (i := 6) rfl
              have c_a_7_w2 := x_a.cell (i := 7) rfl
              have c_a_8_w2 := x_a.cell (i := 8) rfl
              go_wp2_with fail
              refine (iUnused_c HK.out).mono ?_
              rintro e w3 ⟨rfl, h_w3⟩
              clear c_a_0_w2 c_a_1_w2 c_a_2_w2 c_a_3_w2 c_a_4_w2 c_a_5_w2 c_a_6_w2 c_a_7_w2 c_a_8_w2
              replace x_a := x_a.from_ h_w3
              have B_w3 := B_w2.trans (h_w3.mono B_w2.size)
              have s_w3 := h_w3.size
              rw [HQ.out]
              have ge : ∀ W : World, (binOp .eql 29 (.agg #[.int .i64 q.Kind, .int .i64 q.Acct, .int .i64 q.Other, .int .i64 q.To, .int .i64 q.Amt, .int .i64 q.M.Kind, .int .i64 q.M.Acct, .int .i64 q.M.Amt, .int .i64 q.M.Src]) (.agg #[.int .i64 0, .int .i64 0, .int .i64 0, .int .i64 0, .int .i64 0, .int .i64 0, .int .i64 0, .int .i64 0, .int .i64 0])).run Try.prog W = .ok (.bool false) W := fun W => by have := eql_rec_run W q recZ; rw [← HQ.out, HU.out] at this; rw [← HQ.out]; exact this
              go_wp2
              go_ret
              exact ⟨ret_eq (by rw [HI.out]; simp [HA.out, HO.out, HT.out, HM.out, HG.out, HU.out]), B_w3⟩
            | true =>
              go_enter Try.func9, Try.ntmps9
              go_wp2_with fail
              refine (iRkName_w _ _).mono ?_
              rintro e w' ⟨rfl, rfl⟩
              rw [HS.out]
              go_wp2_with fail
              refine (iAcct_any _ _).mono ?_
              rintro e w' ⟨rfl, rfl⟩
              rw [HA.out]
              go_wp2_with fail
              refine (iAcct_any _ _).mono ?_
              rintro e w' ⟨rfl, rfl⟩
              rw [HO.out]
              go_wp2_with fail
              refine (iNode_any _ _).mono ?_
              rintro e w' ⟨rfl, rfl⟩
              rw [HT.out]
              go_wp2_with fail
              refine (iAmtFits_c HK.out).mono ?_
              rintro e w1 ⟨rfl, h_w1⟩
              clear c_a_0_wa c_a_1_wa c_a_2_wa c_a_3_wa c_a_4_wa c_a_5_wa c_a_6_wa c_a_7_wa c_a_8_wa
              replace x_a := x_a.from_ h_w1
              have B_w1 := B0.trans (h_w1.mono B0.size)
              have s_w1 := h_w1.size
              rw [HM.out]
              have c_a_0_w1 := x_a.cell (i := 0) rfl
              have c_a_1_w1 := x_a.cell (i := 1) rfl
              have c_a_2_w1 := x_a.cell (i := 2) rfl
              have c_a_3_w1 := x_a.cell (i := 3) rfl
              have c_a_4_w1 := x_a.cell (i := 4) rfl
              have c_a_5_w1 := x_a.cell (i := 5) rfl
              have c_a_6_w1 := x_a.cell (i := 6) rfl
              have c_a_7_w1 := x_a.cell (i := 7) rfl
              have c_a_8_w1 := x_a.cell (i := 8) rfl
              go_wp2_with fail
              refine (iMsgFits_c).mono ?_
              rintro e w2 ⟨rfl, h_w2⟩
              clear c_a_0_w1 c_a_1_w1 c_a_2_w1 c_a_3_w1 c_a_4_w1 c_a_5_w1 c_a_6_w1 c_a_7_w1 c_a_8_w1
              replace x_a := x_a.from_ h_w2
              have B_w2 := B_w1.trans (h_w2.mono B_w1.size)
              have s_w2 := h_w2.size
              rw [HG.out]
              have c_a_0_w2 := x_a.cell (i := 0) rfl
              have c_a_1_w2 := x_a.cell (i := 1) rfl
              have c_a_2_w2 := x_a.cell (i := 2) rfl
              have c_a_3_w2 := x_a.cell (i := 3) rfl
              have c_a_4_w2 := x_a.cell (i := 4) rfl
              have c_a_5_w2 := x_a.cell (i := 5) rfl
              have c_a_6_w2 := x_a.cell (i := 6) rfl
              have c_a_7_w2 := x_a.cell (i := 7) rfl
              have c_a_8_w2 := x_a.cell (i := 8) rfl
              go_wp2_with fail
              refine (iUnused_c HK.out).mono ?_
              rintro e w3 ⟨rfl, h_w3⟩
              clear c_a_0_w2 c_a_1_w2 c_a_2_w2 c_a_3_w2 c_a_4_w2 c_a_5_w2 c_a_6_w2 c_a_7_w2 c_a_8_w2
              replace x_a := x_a.from_ h_w3
              have B_w3 := B_w2.trans (h_w3.mono B_w2.size)
              have s_w3 := h_w3.size
              rw [HQ.out]
              have ge : ∀ W : World, (binOp .eql 29 (.agg #[.int .i64 q.Kind, .int .i64 q.Acct, .int .i64 q.Other, .int .i64 q.To, .int .i64 q.Amt, .int .i64 q.M.Kind, .int .i64 q.M.Acct, .int .i64 q.M.Amt, .int .i64 q.M.Src]) (.agg #[.int .i64 0, .int .i64 0, .int .i64 0, .int .i64 0, .int .i64 0, .int .i64 0, .int .i64 0, .int .i64 0, .int .i64 0])).run Try.prog W = .ok (.bool true) W := fun W => by have := eql_rec_run W q recZ; rw [← HQ.out, HU.out] at this; rw [← HQ.out]; exact this
              go_wp2
              go_ret
              exact ⟨ret_eq (by rw [HI.out]; simp [HA.out, HO.out, HT.out, HM.out, HG.out, HU.out]), B_w3⟩

set_option maxRecDepth 100000 in
set_option maxHeartbeats 4000000 in
theorem iRecBytes_c {w : World} {v : Value} {r : MRec} (h : RV recL w v r) :
    Calls Try.prog 11 #[v] w (NewSB w (recBytes r) (recOkB r)) := by
  have h1 := h
  obtain rfl := rv_rec h1
  clear h1
  obtain ⟨wa, hwa, B0, sa, x_a⟩ := frame1 w 29 [.int .i64 r.Kind, .int .i64 r.Acct, .int .i64 r.Other, .int .i64 r.To, .int .i64 r.Amt, .int .i64 r.M.Kind, .int .i64 r.M.Acct, .int .i64 r.M.Amt, .int .i64 r.M.Src]
  have sa_1 := Nat.le_of_eq sa
  have sa_2 := Nat.le_of_eq sa.symm
  clear sa
  have c_a_0_wa := x_a.cell (i := 0) rfl
  have c_a_1_wa := x_a.cell (i := 1) rfl
  have c_a_2_wa := x_a.cell (i := 2) rfl
  have c_a_3_wa := x_a.cell (i := 3) rfl
  have c_a_4_wa := x_a.cell (i := 4) rfl
  have c_a_5_wa := x_a.cell (i := 5) rfl
  have c_a_6_wa := x_a.cell (i := 6) rfl
  have c_a_7_wa := x_a.cell (i := 7) rfl
  have c_a_8_wa := x_a.cell (i := 8) rfl
  by_cases ho : recOkB r = true
  case neg =>
    have ho' : recOkB r = false := by simpa using ho
    have HO := Lib.hid ho'
    have HP : Hid (recBytes r = []) := by show _ = _; unfold recBytes; rw [if_neg ho]
    clear ho ho'
    go_enter Try.func11, Try.ntmps11
    go_wp2_with fail
    refine (iRecOk_c (h.from_ B0)).mono ?_
    rintro e w1 ⟨rfl, h_w1⟩
    clear c_a_0_wa c_a_1_wa c_a_2_wa c_a_3_wa c_a_4_wa c_a_5_wa c_a_6_wa c_a_7_wa c_a_8_wa
    replace x_a := x_a.from_ h_w1
    have B_w1 := B0.trans (h_w1.mono B0.size)
    have s_w1 := h_w1.size
    rw [HO.out]
    go_wp2
    go_ret2
    exact ⟨_, by rw [HO.out]; rfl, by rw [HP.out]; exact os_none _ _, B_w1⟩
  have hall := recHead_ok ho
  have hq6 := (recOk_parts ho).2.2.2.2.2.1
  have hl := encs_len _ hall
  have hL0 : putsL [] (recHead r) = encs (recHead r) := by rw [putsL_true hall]; rfl
  obtain ⟨L, hL⟩ : ∃ L, encs (recHead r) = L := ⟨_, rfl⟩
  rw [hL] at hL0 hl
  have lL : L.length ≤ 45 := by have : (recHead r).length = 5 := rfl; omega
  have HA : Hid ((recHead r).all numB = true) := hall
  have HL0 : Hid (putsL [] [r.Kind, r.Acct, r.Other, r.To, r.Amt] = L) := hL0
  by_cases e5 : r.Kind = 5
  case pos =>
    have hM := hq6 e5
    have HP : Hid (recBytes r = msgPut L r.M) := by show _ = _; unfold recBytes msgPut; rw [if_pos ho, if_pos e5, if_pos hM, hL]
    have HM := Lib.hid hM
    clear hM
    have t5 : (r.Kind == 5) = true := by simpa using e5
    have HO := Lib.hid ho
    clear ho hall hq6 hl hL0 hL e5
    go_enter Try.func11, Try.ntmps11
    go_wp2_with fail
    refine (iRecOk_c (h.from_ B0)).mono ?_
    rintro e w1 ⟨rfl, h_w1⟩
    clear c_a_0_wa c_a_1_wa c_a_2_wa c_a_3_wa c_a_4_wa c_a_5_wa c_a_6_wa c_a_7_wa c_a_8_wa
    replace x_a := x_a.from_ h_w1
    have B_w1 := B0.trans (h_w1.mono B0.size)
    have s_w1 := h_w1.size
    rw [HO.out]
    have c_a_0_w1 := x_a.cell (i := 0) rfl
    have c_a_1_w1 := x_a.cell (i := 1) rfl
    have c_a_2_w1 := x_a.cell (i := 2) rfl
    have c_a_3_w1 := x_a.cell (i := 3) rfl
    have c_a_4_w1 := x_a.cell (i := 4) rfl
    have c_a_5_w1 := x_a.cell (i := 5) rfl
    have c_a_6_w1 := x_a.cell (i := 6) rfl
    have c_a_7_w1 := x_a.cell (i := 7) rfl
    have c_a_8_w1 := x_a.cell (i := 8) rfl
    obtain ⟨w2, e_w2, s_w2, h_w2, x_l⟩ := alloc_step w1 3 [.int .i64 r.Kind, .int .i64 r.Acct, .int .i64 r.Other, .int .i64 r.To, .int .i64 r.Amt]
    have s_w2_1 := Nat.le_of_eq s_w2
    have s_w2_2 := Nat.le_of_eq s_w2.symm
    clear s_w2
    replace x_a := x_a.from_ h_w2
    have B_w2 := B_w1.trans (h_w2.mono B_w1.size)
    have r_l := rd_vr (zs := [r.Kind, r.Acct, r.Other, r.To, r.Amt]) x_l
    go_wp2_with fail
    refine (iAppendNums_any none _ 0 5 [] [r.Kind, r.Acct, r.Other, r.To, r.Amt] _ Rd.nil r_l (by simp) (by simp)).mono ?_
    rintro e w9 ⟨v9, rfl, o9, h9⟩
    rw [show [r.Kind, r.Acct, r.Other, r.To, r.Amt].all numB = true from HA.out]
    rw [HL0.out] at o9
    have o9 := OS.mk_ o9
    obtain ⟨A9, c9, rfl, -, -, -⟩ := o9.rd
    clear c_a_0_w1 c_a_1_w1 c_a_2_w1 c_a_3_w1 c_a_4_w1 c_a_5_w1 c_a_6_w1 c_a_7_w1 c_a_8_w1
    replace x_a := x_a.from_ h9
    replace x_l := x_l.from_ h9
    have B_w9 := B_w2.trans (h9.mono B_w2.size)
    have s_w9 := h9.size
    have c_a_0_w9 := x_a.cell (i := 0) rfl
    have c_a_1_w9 := x_a.cell (i := 1) rfl
    have c_a_2_w9 := x_a.cell (i := 2) rfl
    have c_a_3_w9 := x_a.cell (i := 3) rfl
    have c_a_4_w9 := x_a.cell (i := 4) rfl
    have c_a_5_w9 := x_a.cell (i := 5) rfl
    have c_a_6_w9 := x_a.cell (i := 6) rfl
    have c_a_7_w9 := x_a.cell (i := 7) rfl
    have c_a_8_w9 := x_a.cell (i := 8) rfl
    go_wp2_with fail
    refine (iMsgPut_c (m := r.M) o9.rd rv_msg_mk (by omega)).mono ?_
    rintro e w3 ⟨vm, rfl, o_m, h_w3⟩
    clear c_a_0_w9 c_a_1_w9 c_a_2_w9 c_a_3_w9 c_a_4_w9 c_a_5_w9 c_a_6_w9 c_a_7_w9 c_a_8_w9
    replace x_a := x_a.from_ h_w3
    replace x_l := x_l.from_ h_w3
    have B_w3 := B_w9.trans (h_w3.mono B_w9.size)
    have s_w3 := h_w3.size
    rw [HM.out]
    go_wp2
    go_ret2
    exact ⟨_, by rw [HO.out]; rfl, by rw [HP.out]; exact o_m.widen (by omega) (Nat.le_refl _) (Nat.le_refl _), B_w3⟩
  have HP : Hid (recBytes r = L) := by show _ = _; unfold recBytes; rw [if_pos ho, if_neg e5, hL]
  have t5 : (r.Kind == 5) = false := by simpa using e5
  have HO := Lib.hid ho
  clear ho hall hq6 hl hL0 hL e5
  go_enter Try.func11, Try.ntmps11
  go_wp2_with fail
  refine (iRecOk_c (h.from_ B0)).mono ?_
  rintro e w1 ⟨rfl, h_w1⟩
  clear c_a_0_wa c_a_1_wa c_a_2_wa c_a_3_wa c_a_4_wa c_a_5_wa c_a_6_wa c_a_7_wa c_a_8_wa
  replace x_a := x_a.from_ h_w1
  have B_w1 := B0.trans (h_w1.mono B0.size)
  have s_w1 := h_w1.size
  rw [HO.out]
  have c_a_0_w1 := x_a.cell (i := 0) rfl
  have c_a_1_w1 := x_a.cell (i := 1) rfl
  have c_a_2_w1 := x_a.cell (i := 2) rfl
  have c_a_3_w1 := x_a.cell (i := 3) rfl
  have c_a_4_w1 := x_a.cell (i := 4) rfl
  have c_a_5_w1 := x_a.cell (i := 5) rfl
  have c_a_6_w1 := x_a.cell (i := 6) rfl
  have c_a_7_w1 := x_a.cell (i := 7) rfl
  have c_a_8_w1 := x_a.cell (i := 8) rfl
  obtain ⟨w2, e_w2, s_w2, h_w2, x_l⟩ := alloc_step w1 3 [.int .i64 r.Kind, .int .i64 r.Acct, .int .i64 r.Other, .int .i64 r.To, .int .i64 r.Amt]
  have s_w2_1 := Nat.le_of_eq s_w2
  have s_w2_2 := Nat.le_of_eq s_w2.symm
  clear s_w2
  replace x_a := x_a.from_ h_w2
  have B_w2 := B_w1.trans (h_w2.mono B_w1.size)
  have r_l := rd_vr (zs := [r.Kind, r.Acct, r.Other, r.To, r.Amt]) x_l
  go_wp2_with fail
  refine (iAppendNums_any none _ 0 5 [] [r.Kind, r.Acct, r.Other, r.To, r.Amt] _ Rd.nil r_l (by simp) (by simp)).mono ?_
  rintro e w9 ⟨v9, rfl, o9, h9⟩
  rw [show [r.Kind, r.Acct, r.Other, r.To, r.Amt].all numB = true from HA.out]
  rw [HL0.out] at o9
  have o9 := OS.mk_ o9
  obtain ⟨A9, c9, rfl, -, -, -⟩ := o9.rd
  clear c_a_0_w1 c_a_1_w1 c_a_2_w1 c_a_3_w1 c_a_4_w1 c_a_5_w1 c_a_6_w1 c_a_7_w1 c_a_8_w1
  replace x_a := x_a.from_ h9
  replace x_l := x_l.from_ h9
  have B_w9 := B_w2.trans (h9.mono B_w2.size)
  have s_w9 := h9.size
  have c_a_0_w9 := x_a.cell (i := 0) rfl
  have c_a_1_w9 := x_a.cell (i := 1) rfl
  have c_a_2_w9 := x_a.cell (i := 2) rfl
  have c_a_3_w9 := x_a.cell (i := 3) rfl
  have c_a_4_w9 := x_a.cell (i := 4) rfl
  have c_a_5_w9 := x_a.cell (i := 5) rfl
  have c_a_6_w9 := x_a.cell (i := 6) rfl
  have c_a_7_w9 := x_a.cell (i := 7) rfl
  have c_a_8_w9 := x_a.cell (i := 8) rfl
  go_wp2
  go_ret2
  exact ⟨_, by rw [HO.out]; rfl, by rw [HP.out]; exact o9.widen (by omega) (Nat.le_refl _) (Nat.le_refl _), B_w9⟩

end Go.Proofs.Ytkbhbccpmmhelaa
