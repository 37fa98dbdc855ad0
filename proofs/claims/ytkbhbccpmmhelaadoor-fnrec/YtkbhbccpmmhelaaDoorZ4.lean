/- Texts joined: RcV2, MsgIN, Shelf, BunT, MsgI4, BunS. -/
import Derived.Test.YtkbhbccpmmhelaaDoorZ3
import Derived.Shelf.Strings.Builder1
import Derived.Shelf.Strings.Builder2
import Derived.Shelf.Strings.OnBuilder
import Derived.Shelf.Strconv.Itoa0
import Derived.Shelf.Strconv.Itoa1
import Derived.Shelf.LaysM
import Derived.Shelf.Strconv.Itoa2
import Derived.Shelf.Strconv.Itoa3
import Derived.Shelf.Strconv.Clone
import Derived.Test.YtkbhbccpmmhelaaDoorProg
import Derived.Lib.ItoaNum
import Derived.Laws.BytesArg
import Derived.Laws.Strings
import Derived.WideShapes
import Derived.Lib.OthersKept
import Derived.Lib.AppendIntMem
import Derived.Deep.RegionHeld3
import Derived.Laws.Concat
import Derived.Deep.QuietTactic
import Derived.BigQuiet
import Derived.Deep.RegionWith
import Derived.WalkSmall
namespace Go.Proofs.YtkbhbccpmmhelaaDoor
open Go.RowKit
set_option linter.unusedVariables false
set_option linter.unusedSimpArgs false
theorem str_ne_nil {s : ByteArray} (h : s ≠ ⟨#[]⟩) : (s.toList == []) = false := by
  have hsz : (s.toList == (⟨#[]⟩ : ByteArray).toList) = false := by rw [str_same]; simpa using h
  rw [show (⟨#[]⟩ : ByteArray).toList = [] from by rw [ByteArray.toList_eq]] at hsz
  exact hsz
theorem eql_rec_run (W : World) (a b : MRec) : (binOp .eql 26 (.agg #[.int .i64 a.Kind, .int .i64 a.Acct, .int .i64 a.Other, .int .i64 a.To, .int .i64 a.Amt, .int .i64 a.M.Kind, .int .i64 a.M.Acct, .int .i64 a.M.Amt, .int .i64 a.M.Src]) (.agg #[.int .i64 b.Kind, .int .i64 b.Acct, .int .i64 b.Other, .int .i64 b.To, .int .i64 b.Amt, .int .i64 b.M.Kind, .int .i64 b.M.Acct, .int .i64 b.M.Amt, .int .i64 b.M.Src])).run Tryd.prog W = .ok (.bool (decide (a = b))) W := by
  rw [run_eql_struct, eq_rec_run 9997]; rfl
set_option maxRecDepth 100000 in
set_option maxHeartbeats 8000000 in
theorem iRecOk_c {w : World} {v : Value} {r : MRec} (h : RV recL w v r) : Calls Tryd.prog 11 #[v] w fun e w' => e = .returned (.bool (recOkB r)) ∧ Below w.heap.size w w' := by
  obtain rfl := rv_rec h
  clear h
  obtain ⟨wa, hwa, B0, sa, x_a⟩ := frame1 w 26 [.int .i64 r.Kind, .int .i64 r.Acct, .int .i64 r.Other, .int .i64 r.To, .int .i64 r.Amt, .int .i64 r.M.Kind, .int .i64 r.M.Acct, .int .i64 r.M.Amt, .int .i64 r.M.Src]
  have sa_1 := Nat.le_of_eq sa
  have sa_2 := Nat.le_of_eq sa.symm
  clear sa
  have c_a_0_wa := x_a.cell (i := 0) rfl
  have c_a_1_wa := x_a.cell (i := 1) rfl
  have c_a_2_wa := x_a.cell (i := 2) rfl
  have c_a_3_wa := x_a.cell (i := 3) rfl
  have c_a_4_wa := x_a.cell (i := 4) rfl
  have c_a_5_wa := x_a.cell (i := 5) rfl
  have c_a_6_wa := x_a.cell (i := 6) rfl
  have c_a_7_wa := x_a.cell (i := 7) rfl
  have c_a_8_wa := x_a.cell (i := 8) rfl
  by_cases hk : 1 ≤ r.Kind ∧ r.Kind ≤ 9
  case neg =>
    have HO : Hid (recOkB r = false) := recOk_kind (by rw [inB_false]; exact hk)
    have HN : Hid (rkName r.Kind = ⟨#[]⟩) := by show _ = _; unfold rkName; rw [if_neg (by omega), if_neg (by omega), if_neg (by omega), if_neg (by omega), if_neg (by omega), if_neg (by omega), if_neg (by omega), if_neg (by omega), if_neg (by omega)]
    clear hk
    go_enter Tryd.func11, Tryd.ntmps11
    go_wp2_with fail
    refine (iRkName_w _ _).mono ?_
    rintro e w' ⟨rfl, rfl⟩
    rw [HN.out]
    go_wp2
    go_ret
    exact ⟨by rw [HO.out]; rfl, B0⟩
  have HI := Lib.hid (recOk_impl hk)
  obtain ⟨s, hs⟩ : ∃ s, rkName r.Kind = s := ⟨_, rfl⟩
  have HS := Lib.hid hs
  have hne : s ≠ (⟨#[]⟩ : ByteArray) := by rw [← hs]; intro e; rcases kinds9 hk with h | h | h | h | h | h | h | h | h <;> rw [h] at e <;> revert e <;> decide
  have hsz : (s.toList == (⟨#[]⟩ : ByteArray).toList) = false := by rw [str_same]; simpa using hne
  have hsz3 := str_ne_nil hne
  have HK := Lib.hid hk
  clear hs hk
  obtain ⟨q, hq⟩ : ∃ q, restR r = q := ⟨_, rfl⟩
  have HQ := Lib.hid hq
  clear hq
  have gd := fun op x y W xs ys => guard_rec_run op x y W xs ys
  obtain ⟨bA, hA⟩ : ∃ b, (inB r.Acct 0 2) = b := ⟨_, rfl⟩
  have HA := Lib.hid hA
  clear hA
  cases bA with
  | false =>
    go_enter Tryd.func11, Tryd.ntmps11
    go_wp2_with fail
    refine (iRkName_w _ _).mono ?_
    rintro e w' ⟨rfl, rfl⟩
    rw [HS.out]
    go_wp2_with fail
    refine (iAcct_any _ _).mono ?_
    rintro e w' ⟨rfl, rfl⟩
    rw [HA.out]
    go_wp2
    go_ret
    exact ⟨ret_eq (by rw [HI.out]; simp [HA.out]), B0⟩
  | true =>
    obtain ⟨bO, hO⟩ : ∃ b, (inB r.Other 0 2) = b := ⟨_, rfl⟩
    have HO := Lib.hid hO
    clear hO
    cases bO with
    | false =>
      go_enter Tryd.func11, Tryd.ntmps11
      go_wp2_with fail
      refine (iRkName_w _ _).mono ?_
      rintro e w' ⟨rfl, rfl⟩
      rw [HS.out]
      go_wp2_with fail
      refine (iAcct_any _ _).mono ?_
      rintro e w' ⟨rfl, rfl⟩
      rw [HA.out]
      go_wp2_with fail
      refine (iAcct_any _ _).mono ?_
      rintro e w' ⟨rfl, rfl⟩
      rw [HO.out]
      go_wp2
      go_ret
      exact ⟨ret_eq (by rw [HI.out]; simp [HA.out, HO.out]), B0⟩
    | true =>
      obtain ⟨bT, hT⟩ : ∃ b, (inB r.To 0 3) = b := ⟨_, rfl⟩
      have HT := Lib.hid hT
      clear hT
      cases bT with
      | false =>
        go_enter Tryd.func11, Tryd.ntmps11
        go_wp2_with fail
        refine (iRkName_w _ _).mono ?_
        rintro e w' ⟨rfl, rfl⟩
        rw [HS.out]
        go_wp2_with fail
        refine (iAcct_any _ _).mono ?_
        rintro e w' ⟨rfl, rfl⟩
        rw [HA.out]
        go_wp2_with fail
        refine (iAcct_any _ _).mono ?_
        rintro e w' ⟨rfl, rfl⟩
        rw [HO.out]
        go_wp2_with fail
        refine (iNode_any _ _).mono ?_
        rintro e w' ⟨rfl, rfl⟩
        rw [HT.out]
        go_wp2
        go_ret
        exact ⟨ret_eq (by rw [HI.out]; simp [HA.out, HO.out, HT.out]), B0⟩
      | true =>
        obtain ⟨bM, hM⟩ : ∃ b, (amtI r.Kind r.Amt) = b := ⟨_, rfl⟩
        have HM := Lib.hid hM
        clear hM
        cases bM with
        | false =>
          go_enter Tryd.func11, Tryd.ntmps11
          go_wp2_with fail
          refine (iRkName_w _ _).mono ?_
          rintro e w' ⟨rfl, rfl⟩
          rw [HS.out]
          go_wp2_with fail
          refine (iAcct_any _ _).mono ?_
          rintro e w' ⟨rfl, rfl⟩
          rw [HA.out]
          go_wp2_with fail
          refine (iAcct_any _ _).mono ?_
          rintro e w' ⟨rfl, rfl⟩
          rw [HO.out]
          go_wp2_with fail
          refine (iNode_any _ _).mono ?_
          rintro e w' ⟨rfl, rfl⟩
          rw [HT.out]
          go_wp2_with fail
          refine (iAmtFits_c HK.out).mono ?_
          rintro e w1 ⟨rfl, h_w1⟩
          clear c_a_0_wa c_a_1_wa c_a_2_wa c_a_3_wa c_a_4_wa c_a_5_wa c_a_6_wa c_a_7_wa c_a_8_wa
          replace x_a := x_a.from_ h_w1
          have B_w1 := B0.trans (h_w1.mono B0.size)
          have s_w1 := h_w1.size
          rw [HM.out]
          go_wp2
          go_ret
          exact ⟨ret_eq (by rw [HI.out]; simp [HA.out, HO.out, HT.out, HM.out]), B_w1⟩
        | true =>
          obtain ⟨bG, hG⟩ : ∃ b, ((r.Kind != 5 || msgOkB r.M)) = b := ⟨_, rfl⟩
          have HG := Lib.hid hG
          clear hG
          cases bG with
          | false =>
            go_enter Tryd.func11, Tryd.ntmps11
            go_wp2_with fail
            refine (iRkName_w _ _).mono ?_
            rintro e w' ⟨rfl, rfl⟩
            rw [HS.out]
            go_wp2_with fail
            refine (iAcct_any _ _).mono ?_
            rintro e w' ⟨rfl, rfl⟩
            rw [HA.out]
            go_wp2_with fail
            refine (iAcct_any _ _).mono ?_
            rintro e w' ⟨rfl, rfl⟩
            rw [HO.out]
            go_wp2_with fail
            refine (iNode_any _ _).mono ?_
            rintro e w' ⟨rfl, rfl⟩
            rw [HT.out]
            go_wp2_with fail
            refine (iAmtFits_c HK.out).mono ?_
            rintro e w1 ⟨rfl, h_w1⟩
            clear c_a_0_wa c_a_1_wa c_a_2_wa c_a_3_wa c_a_4_wa c_a_5_wa c_a_6_wa c_a_7_wa c_a_8_wa
            replace x_a := x_a.from_ h_w1
            have B_w1 := B0.trans (h_w1.mono B0.size)
            have s_w1 := h_w1.size
            rw [HM.out]
            have c_a_0_w1 := x_a.cell (i := 0) rfl
            have c_a_1_w1 := x_a.cell (i := 1) rfl
            have c_a_2_w1 := x_a.cell (i := 2) rfl
            have c_a_3_w1 := x_a.cell (i := 3) rfl
            have c_a_4_w1 := x_a.cell (i := 4) rfl
            have c_a_5_w1 := x_a.cell (i := 5) rfl
            have c_a_6_w1 := x_a.cell (i := 6) rfl
            have c_a_7_w1 := x_a.cell (i := 7) rfl
            have c_a_8_w1 := x_a.cell (i := 8) rfl
            go_wp2_with fail
            refine (iMsgFits_c).mono ?_
            rintro e w2 ⟨rfl, h_w2⟩
            clear c_a_0_w1 c_a_1_w1 c_a_2_w1 c_a_3_w1 c_a_4_w1 c_a_5_w1 c_a_6_w1 c_a_7_w1 c_a_8_w1
            replace x_a := x_a.from_ h_w2
            have B_w2 := B_w1.trans (h_w2.mono B_w1.size)
            have s_w2 := h_w2.size
            rw [HG.out]
            go_wp2
            go_ret
            exact ⟨ret_eq (by rw [HI.out]; simp [HA.out, HO.out, HT.out, HM.out, HG.out]), B_w2⟩
          | true =>
            obtain ⟨bU, hU⟩ : ∃ b, (decide (restR r = recZ)) = b := ⟨_, rfl⟩
            have HU := Lib.hid hU
            clear hU
            cases bU with
            | false =>
              go_enter Tryd.func11, Tryd.ntmps11
              go_wp2_with fail
              refine (iRkName_w _ _).mono ?_
              rintro e w' ⟨rfl, rfl⟩
              rw [HS.out]
              go_wp2_with fail
              refine (iAcct_any _ _).mono ?_
              rintro e w' ⟨rfl, rfl⟩
              rw [HA.out]
              go_wp2_with fail
              refine (iAcct_any _ _).mono ?_
              rintro e w' ⟨rfl, rfl⟩
              rw [HO.out]
              go_wp2_with fail
              refine (iNode_any _ _).mono ?_
              rintro e w' ⟨rfl, rfl⟩
              rw [HT.out]
              go_wp2_with fail
              refine (iAmtFits_c HK.out).mono ?_
              rintro e w1 ⟨rfl, h_w1⟩
              clear c_a_0_wa c_a_1_wa c_a_2_wa c_a_3_wa c_a_4_wa c_a_5_wa c_a_6_wa c_a_7_wa c_a_8_wa
              replace x_a := x_a.from_ h_w1
              have B_w1 := B0.trans (h_w1.mono B0.size)
              have s_w1 := h_w1.size
              rw [HM.out]
              have c_a_0_w1 := x_a.cell (i := 0) rfl
              have c_a_1_w1 := x_a.cell (i := 1) rfl
              have c_a_2_w1 := x_a.cell (i := 2) rfl
              have c_a_3_w1 := x_a.cell (i := 3) rfl
              have c_a_4_w1 := x_a.cell (i := 4) rfl
              have c_a_5_w1 := x_a.cell (i := 5) rfl
              have c_a_6_w1 := x_a.cell (i := 6) rfl
              have c_a_7_w1 := x_a.cell (i := 7) rfl
              have c_a_8_w1 := x_a.cell (i := 8) rfl
              go_wp2_with fail
              refine (iMsgFits_c).mono ?_
              rintro e w2 ⟨rfl, h_w2⟩
              clear c_a_0_w1 c_a_1_w1 c_a_2_w1 c_a_3_w1 c_a_4_w1 c_a_5_w1 c_a_6_w1 c_a_7_w1 c_a_8_w1
              replace x_a := x_a.from_ h_w2
              have B_w2 := B_w1.trans (h_w2.mono B_w1.size)
              have s_w2 := h_w2.size
              rw [HG.out]
              have c_a_0_w2 := x_a.cell (i := 0) rfl
              have c_a_1_w2 := x_a.cell (i := 1) rfl
              have c_a_2_w2 := x_a.cell (i := 2) rfl
              have c_a_3_w2 := x_a.cell (i := 3) rfl
              have c_a_4_w2 := x_a.cell (i := 4) rfl
              have c_a_5_w2 := x_a.cell (i := 5) rfl
              have c_a_6_w2 := x_a.cell (i := 6) rfl
              have c_a_7_w2 := x_a.cell (i := 7) rfl
              have c_a_8_w2 := x_a.cell (i := 8) rfl
              go_wp2_with fail
              refine (iUnused_c HK.out).mono ?_
              rintro e w3 ⟨rfl, h_w3⟩
              clear c_a_0_w2 c_a_1_w2 c_a_2_w2 c_a_3_w2 c_a_4_w2 c_a_5_w2 c_a_6_w2 c_a_7_w2 c_a_8_w2
              replace x_a := x_a.from_ h_w3
              have B_w3 := B_w2.trans (h_w3.mono B_w2.size)
              have s_w3 := h_w3.size
              rw [HQ.out]
              have ge : ∀ W : World, (binOp .eql 26 (.agg #[.int .i64 q.Kind, .int .i64 q.Acct, .int .i64 q.Other, .int .i64 q.To, .int .i64 q.Amt, .int .i64 q.M.Kind, .int .i64 q.M.Acct, .int .i64 q.M.Amt, .int .i64 q.M.Src]) (.agg #[.int .i64 0, .int .i64 0, .int .i64 0, .int .i64 0, .int .i64 0, .int .i64 0, .int .i64 0, .int .i64 0, .int .i64 0])).run Tryd.prog W = .ok (.bool false) W := fun W => by have := eql_rec_run W q recZ; rw [← HQ.out, HU.out] at this; rw [← HQ.out]; exact this
              go_wp2
              go_ret
              exact ⟨ret_eq (by rw [HI.out]; simp [HA.out, HO.out, HT.out, HM.out, HG.out, HU.out]), B_w3⟩
            | true =>
              go_enter Tryd.func11, Tryd.ntmps11
              go_wp2_with fail
              refine (iRkName_w _ _).mono ?_
              rintro e w' ⟨rfl, rfl⟩
              rw [HS.out]
              go_wp2_with fail
              refine (iAcct_any _ _).mono ?_
              rintro e w' ⟨rfl, rfl⟩
              rw [HA.out]
              go_wp2_with fail
              refine (iAcct_any _ _).mono ?_
              rintro e w' ⟨rfl, rfl⟩
              rw [HO.out]
              go_wp2_with fail
              refine (iNode_any _ _).mono ?_
              rintro e w' ⟨rfl, rfl⟩
              rw [HT.out]
              go_wp2_with fail
              refine (iAmtFits_c HK.out).mono ?_
              rintro e w1 ⟨rfl, h_w1⟩
              clear c_a_0_wa c_a_1_wa c_a_2_wa c_a_3_wa c_a_4_wa c_a_5_wa c_a_6_wa c_a_7_wa c_a_8_wa
              replace x_a := x_a.from_ h_w1
              have B_w1 := B0.trans (h_w1.mono B0.size)
              have s_w1 := h_w1.size
              rw [HM.out]
              have c_a_0_w1 := x_a.cell (i := 0) rfl
              have c_a_1_w1 := x_a.cell (i := 1) rfl
              have c_a_2_w1 := x_a.cell (i := 2) rfl
              have c_a_3_w1 := x_a.cell (i := 3) rfl
              have c_a_4_w1 := x_a.cell (i := 4) rfl
              have c_a_5_w1 := x_a.cell (i := 5) rfl
              have c_a_6_w1 := x_a.cell (i := 6) rfl
              have c_a_7_w1 := x_a.cell (i := 7) rfl
              have c_a_8_w1 := x_a.cell (i := 8) rfl
              go_wp2_with fail
              refine (iMsgFits_c).mono ?_
              rintro e w2 ⟨rfl, h_w2⟩
              clear c_a_0_w1 c_a_1_w1 c_a_2_w1 c_a_3_w1 c_a_4_w1 c_a_5_w1 c_a_6_w1 c_a_7_w1 c_a_8_w1
              replace x_a := x_a.from_ h_w2
              have B_w2 := B_w1.trans (h_w2.mono B_w1.size)
              have s_w2 := h_w2.size
              rw [HG.out]
              have c_a_0_w2 := x_a.cell (i := 0) rfl
              have c_a_1_w2 := x_a.cell (i := 1) rfl
              have c_a_2_w2 := x_a.cell (i := 2) rfl
              have c_a_3_w2 := x_a.cell (i := 3) rfl
              have c_a_4_w2 := x_a.cell (i := 4) rfl
              have c_a_5_w2 := x_a.cell (i := 5) rfl
              have c_a_6_w2 := x_a.cell (i := 6) rfl
              have c_a_7_w2 := x_a.cell (i := 7) rfl
              have c_a_8_w2 := x_a.cell (i := 8) rfl
              go_wp2_with fail
              refine (iUnused_c HK.out).mono ?_
              rintro e w3 ⟨rfl, h_w3⟩
              clear c_a_0_w2 c_a_1_w2 c_a_2_w2 c_a_3_w2 c_a_4_w2 c_a_5_w2 c_a_6_w2 c_a_7_w2 c_a_8_w2
              replace x_a := x_a.from_ h_w3
              have B_w3 := B_w2.trans (h_w3.mono B_w2.size)
              have s_w3 := h_w3.size
              rw [HQ.out]
              have ge : ∀ W : World, (binOp .eql 26 (.agg #[.int .i64 q.Kind, .int .i64 q.Acct, .int .i64 q.Other, .int .i64 q.To, .int .i64 q.Amt, .int .i64 q.M.Kind, .int .i64 q.M.Acct, .int .i64 q.M.Amt, .int .i64 q.M.Src]) (.agg #[.int .i64 0, .int .i64 0, .int .i64 0, .int .i64 0, .int .i64 0, .int .i64 0, .int .i64 0, .int .i64 0, .int .i64 0])).run Tryd.prog W = .ok (.bool true) W := fun W => by have := eql_rec_run W q recZ; rw [← HQ.out, HU.out] at this; rw [← HQ.out]; exact this
              go_wp2
              go_ret
              exact ⟨ret_eq (by rw [HI.out]; simp [HA.out, HO.out, HT.out, HM.out, HG.out, HU.out]), B_w3⟩
set_option maxRecDepth 100000 in
set_option maxHeartbeats 4000000 in
theorem iRecBytes_c {w : World} {v : Value} {r : MRec} (h : RV recL w v r) :
    Calls Tryd.prog 7 #[v] w (NewSB w (recBytes r) (recOkB r)) := by
  have h1 := h
  obtain rfl := rv_rec h1
  clear h1
  obtain ⟨wa, hwa, B0, sa, x_a⟩ := frame1 w 26 [.int .i64 r.Kind, .int .i64 r.Acct, .int .i64 r.Other, .int .i64 r.To, .int .i64 r.Amt, .int .i64 r.M.Kind, .int .i64 r.M.Acct, .int .i64 r.M.Amt, .int .i64 r.M.Src]
  have sa_1 := Nat.le_of_eq sa
  have sa_2 := Nat.le_of_eq sa.symm
  clear sa
  have c_a_0_wa := x_a.cell (i := 0) rfl
  have c_a_1_wa := x_a.cell (i := 1) rfl
  have c_a_2_wa := x_a.cell (i := 2) rfl
  have c_a_3_wa := x_a.cell (i := 3) rfl
  have c_a_4_wa := x_a.cell (i := 4) rfl
  have c_a_5_wa := x_a.cell (i := 5) rfl
  have c_a_6_wa := x_a.cell (i := 6) rfl
  have c_a_7_wa := x_a.cell (i := 7) rfl
  have c_a_8_wa := x_a.cell (i := 8) rfl
  by_cases ho : recOkB r = true
  case neg =>
    have ho' : recOkB r = false := by simpa using ho
    have HO := Lib.hid ho'
    have HP : Hid (recBytes r = []) := by show _ = _; unfold recBytes; rw [if_neg ho]
    clear ho ho'
    go_enter Tryd.func7, Tryd.ntmps7
    go_wp2_with fail
    refine (iRecOk_c (h.from_ B0)).mono ?_
    rintro e w1 ⟨rfl, h_w1⟩
    clear c_a_0_wa c_a_1_wa c_a_2_wa c_a_3_wa c_a_4_wa c_a_5_wa c_a_6_wa c_a_7_wa c_a_8_wa
    replace x_a := x_a.from_ h_w1
    have B_w1 := B0.trans (h_w1.mono B0.size)
    have s_w1 := h_w1.size
    rw [HO.out]
    go_wp2
    go_ret2
    exact ⟨_, by rw [HO.out]; rfl, by rw [HP.out]; exact os_none _ _, B_w1⟩
  have hall := recHead_ok ho
  have hq6 := (recOk_parts ho).2.2.2.2.2.1
  have hl := encs_len _ hall
  have hL0 : putsL [] (recHead r) = encs (recHead r) := by rw [putsL_true hall]; rfl
  obtain ⟨L, hL⟩ : ∃ L, encs (recHead r) = L := ⟨_, rfl⟩
  rw [hL] at hL0 hl
  have lL : L.length ≤ 45 := by have : (recHead r).length = 5 := rfl; omega
  have HA : Hid ((recHead r).all numB = true) := hall
  have HL0 : Hid (putsL [] [r.Kind, r.Acct, r.Other, r.To, r.Amt] = L) := hL0
  by_cases e5 : r.Kind = 5
  case pos =>
    have hM := hq6 e5
    have HP : Hid (recBytes r = msgPut L r.M) := by show _ = _; unfold recBytes msgPut; rw [if_pos ho, if_pos e5, if_pos hM, hL]
    have HM := Lib.hid hM
    clear hM
    have t5 : (r.Kind == 5) = true := by simpa using e5
    have HO := Lib.hid ho
    clear ho hall hq6 hl hL0 hL e5
    go_enter Tryd.func7, Tryd.ntmps7
    go_wp2_with fail
    refine (iRecOk_c (h.from_ B0)).mono ?_
    rintro e w1 ⟨rfl, h_w1⟩
    clear c_a_0_wa c_a_1_wa c_a_2_wa c_a_3_wa c_a_4_wa c_a_5_wa c_a_6_wa c_a_7_wa c_a_8_wa
    replace x_a := x_a.from_ h_w1
    have B_w1 := B0.trans (h_w1.mono B0.size)
    have s_w1 := h_w1.size
    rw [HO.out]
    have c_a_0_w1 := x_a.cell (i := 0) rfl
    have c_a_1_w1 := x_a.cell (i := 1) rfl
    have c_a_2_w1 := x_a.cell (i := 2) rfl
    have c_a_3_w1 := x_a.cell (i := 3) rfl
    have c_a_4_w1 := x_a.cell (i := 4) rfl
    have c_a_5_w1 := x_a.cell (i := 5) rfl
    have c_a_6_w1 := x_a.cell (i := 6) rfl
    have c_a_7_w1 := x_a.cell (i := 7) rfl
    have c_a_8_w1 := x_a.cell (i := 8) rfl
    obtain ⟨w2, e_w2, s_w2, h_w2, x_l⟩ := alloc_step w1 3 [.int .i64 r.Kind, .int .i64 r.Acct, .int .i64 r.Other, .int .i64 r.To, .int .i64 r.Amt]
    have s_w2_1 := Nat.le_of_eq s_w2
    have s_w2_2 := Nat.le_of_eq s_w2.symm
    clear s_w2
    replace x_a := x_a.from_ h_w2
    have B_w2 := B_w1.trans (h_w2.mono B_w1.size)
    have r_l := rd_vr (zs := [r.Kind, r.Acct, r.Other, r.To, r.Amt]) x_l
    go_wp2_with fail
    refine (iAppendNums_any none _ 0 5 [] [r.Kind, r.Acct, r.Other, r.To, r.Amt] _ Rd.nil r_l (by simp) (by simp)).mono ?_
    rintro e w9 ⟨v9, rfl, o9, h9⟩
    rw [show [r.Kind, r.Acct, r.Other, r.To, r.Amt].all numB = true from HA.out]
    rw [HL0.out] at o9
    have o9 := OS.mk_ o9
    obtain ⟨A9, c9, rfl, -, -, -⟩ := o9.rd
    clear c_a_0_w1 c_a_1_w1 c_a_2_w1 c_a_3_w1 c_a_4_w1 c_a_5_w1 c_a_6_w1 c_a_7_w1 c_a_8_w1
    replace x_a := x_a.from_ h9
    replace x_l := x_l.from_ h9
    have B_w9 := B_w2.trans (h9.mono B_w2.size)
    have s_w9 := h9.size
    have c_a_0_w9 := x_a.cell (i := 0) rfl
    have c_a_1_w9 := x_a.cell (i := 1) rfl
    have c_a_2_w9 := x_a.cell (i := 2) rfl
    have c_a_3_w9 := x_a.cell (i := 3) rfl
    have c_a_4_w9 := x_a.cell (i := 4) rfl
    have c_a_5_w9 := x_a.cell (i := 5) rfl
    have c_a_6_w9 := x_a.cell (i := 6) rfl
    have c_a_7_w9 := x_a.cell (i := 7) rfl
    have c_a_8_w9 := x_a.cell (i := 8) rfl
    go_wp2_with fail
    refine (iMsgPut_c (m := r.M) o9.rd rv_msg_mk (by omega)).mono ?_
    rintro e w3 ⟨vm, rfl, o_m, h_w3⟩
    clear c_a_0_w9 c_a_1_w9 c_a_2_w9 c_a_3_w9 c_a_4_w9 c_a_5_w9 c_a_6_w9 c_a_7_w9 c_a_8_w9
    replace x_a := x_a.from_ h_w3
    replace x_l := x_l.from_ h_w3
    have B_w3 := B_w9.trans (h_w3.mono B_w9.size)
    have s_w3 := h_w3.size
    rw [HM.out]
    go_wp2
    go_ret2
    exact ⟨_, by rw [HO.out]; rfl, by rw [HP.out]; exact o_m.widen (by omega) (Nat.le_refl _) (Nat.le_refl _), B_w3⟩
  have HP : Hid (recBytes r = L) := by show _ = _; unfold recBytes; rw [if_pos ho, if_neg e5, hL]
  have t5 : (r.Kind == 5) = false := by simpa using e5
  have HO := Lib.hid ho
  clear ho hall hq6 hl hL0 hL e5
  go_enter Tryd.func7, Tryd.ntmps7
  go_wp2_with fail
  refine (iRecOk_c (h.from_ B0)).mono ?_
  rintro e w1 ⟨rfl, h_w1⟩
  clear c_a_0_wa c_a_1_wa c_a_2_wa c_a_3_wa c_a_4_wa c_a_5_wa c_a_6_wa c_a_7_wa c_a_8_wa
  replace x_a := x_a.from_ h_w1
  have B_w1 := B0.trans (h_w1.mono B0.size)
  have s_w1 := h_w1.size
  rw [HO.out]
  have c_a_0_w1 := x_a.cell (i := 0) rfl
  have c_a_1_w1 := x_a.cell (i := 1) rfl
  have c_a_2_w1 := x_a.cell (i := 2) rfl
  have c_a_3_w1 := x_a.cell (i := 3) rfl
  have c_a_4_w1 := x_a.cell (i := 4) rfl
  have c_a_5_w1 := x_a.cell (i := 5) rfl
  have c_a_6_w1 := x_a.cell (i := 6) rfl
  have c_a_7_w1 := x_a.cell (i := 7) rfl
  have c_a_8_w1 := x_a.cell (i := 8) rfl
  obtain ⟨w2, e_w2, s_w2, h_w2, x_l⟩ := alloc_step w1 3 [.int .i64 r.Kind, .int .i64 r.Acct, .int .i64 r.Other, .int .i64 r.To, .int .i64 r.Amt]
  have s_w2_1 := Nat.le_of_eq s_w2
  have s_w2_2 := Nat.le_of_eq s_w2.symm
  clear s_w2
  replace x_a := x_a.from_ h_w2
  have B_w2 := B_w1.trans (h_w2.mono B_w1.size)
  have r_l := rd_vr (zs := [r.Kind, r.Acct, r.Other, r.To, r.Amt]) x_l
  go_wp2_with fail
  refine (iAppendNums_any none _ 0 5 [] [r.Kind, r.Acct, r.Other, r.To, r.Amt] _ Rd.nil r_l (by simp) (by simp)).mono ?_
  rintro e w9 ⟨v9, rfl, o9, h9⟩
  rw [show [r.Kind, r.Acct, r.Other, r.To, r.Amt].all numB = true from HA.out]
  rw [HL0.out] at o9
  have o9 := OS.mk_ o9
  obtain ⟨A9, c9, rfl, -, -, -⟩ := o9.rd
  clear c_a_0_w1 c_a_1_w1 c_a_2_w1 c_a_3_w1 c_a_4_w1 c_a_5_w1 c_a_6_w1 c_a_7_w1 c_a_8_w1
  replace x_a := x_a.from_ h9
  replace x_l := x_l.from_ h9
  have B_w9 := B_w2.trans (h9.mono B_w2.size)
  have s_w9 := h9.size
  have c_a_0_w9 := x_a.cell (i := 0) rfl
  have c_a_1_w9 := x_a.cell (i := 1) rfl
  have c_a_2_w9 := x_a.cell (i := 2) rfl
  have c_a_3_w9 := x_a.cell (i := 3) rfl
  have c_a_4_w9 := x_a.cell (i := 4) rfl
  have c_a_5_w9 := x_a.cell (i := 5) rfl
  have c_a_6_w9 := x_a.cell (i := 6) rfl
  have c_a_7_w9 := x_a.cell (i := 7) rfl
  have c_a_8_w9 := x_a.cell (i := 8) rfl
  go_wp2
  go_ret2
  exact ⟨_, by rw [HO.out]; rfl, by rw [HP.out]; exact o9.widen (by omega) (Nat.le_refl _) (Nat.le_refl _), B_w9⟩
end Go.Proofs.YtkbhbccpmmhelaaDoor
namespace Go.Proofs.YtkbhbccpmmhelaaDoor
open Go.RowKit
set_option linter.unusedVariables false
theorem name1_c (k a b s : Int) (w : World) : Calls Tryd.prog 112 #[.agg #[.int .i64 k, .int .i64 a, .int .i64 b, .int .i64 s]] w fun e w' => e = .returned (.string (msgName 1)) ∧ Below w.heap.size w w' := by
  obtain ⟨wa, hwa, B0, sa, x_a⟩ := frame1 w 110 [.int .i64 k, .int .i64 a, .int .i64 b, .int .i64 s]
  clear sa
  go_enter Tryd.func112, Tryd.ntmps112
  go_wp2
  go_ret
  exact ⟨rfl, B0⟩
theorem name2_c (k a b s : Int) (w : World) : Calls Tryd.prog 114 #[.agg #[.int .i64 k, .int .i64 a, .int .i64 b, .int .i64 s]] w fun e w' => e = .returned (.string (msgName 2)) ∧ Below w.heap.size w w' := by
  obtain ⟨wa, hwa, B0, sa, x_a⟩ := frame1 w 111 [.int .i64 k, .int .i64 a, .int .i64 b, .int .i64 s]
  clear sa
  go_enter Tryd.func114, Tryd.ntmps114
  go_wp2
  go_ret
  exact ⟨rfl, B0⟩
theorem name3_c (k a b s : Int) (w : World) : Calls Tryd.prog 116 #[.agg #[.int .i64 k, .int .i64 a, .int .i64 b, .int .i64 s]] w fun e w' => e = .returned (.string (msgName 3)) ∧ Below w.heap.size w w' := by
  obtain ⟨wa, hwa, B0, sa, x_a⟩ := frame1 w 112 [.int .i64 k, .int .i64 a, .int .i64 b, .int .i64 s]
  clear sa
  go_enter Tryd.func116, Tryd.ntmps116
  go_wp2
  go_ret
  exact ⟨rfl, B0⟩
theorem name4_c (k a b s : Int) (w : World) : Calls Tryd.prog 118 #[.agg #[.int .i64 k, .int .i64 a, .int .i64 b, .int .i64 s]] w fun e w' => e = .returned (.string (msgName 4)) ∧ Below w.heap.size w w' := by
  obtain ⟨wa, hwa, B0, sa, x_a⟩ := frame1 w 113 [.int .i64 k, .int .i64 a, .int .i64 b, .int .i64 s]
  clear sa
  go_enter Tryd.func118, Tryd.ntmps118
  go_wp2
  go_ret
  exact ⟨rfl, B0⟩
theorem name5_c (k a b s : Int) (w : World) : Calls Tryd.prog 120 #[.agg #[.int .i64 k, .int .i64 a, .int .i64 b, .int .i64 s]] w fun e w' => e = .returned (.string (msgName 5)) ∧ Below w.heap.size w w' := by
  obtain ⟨wa, hwa, B0, sa, x_a⟩ := frame1 w 114 [.int .i64 k, .int .i64 a, .int .i64 b, .int .i64 s]
  clear sa
  go_enter Tryd.func120, Tryd.ntmps120
  go_wp2
  go_ret
  exact ⟨rfl, B0⟩
set_option maxHeartbeats 2000000 in
theorem iMsgName_c (k : Int) (w : World) : Calls Tryd.prog 60 #[.int .i64 k] w fun e w' => e = .returned (.string (msgName k)) ∧ Below w.heap.size w w' := by
  by_cases hk : 1 ≤ k ∧ k ≤ 5
  case neg =>
    have HK := Lib.hid hk
    rw [show msgName k = ⟨#[]⟩ by unfold msgName; rw [if_neg (by omega), if_neg (by omega), if_neg (by omega), if_neg (by omega), if_neg (by omega)]]
    clear hk
    go_enter Tryd.func60, Tryd.ntmps60
    go_wp2_with fail
    refine (letterOf0_c _ _ _ _ _ HK.out).mono ?_
    rintro e w1 ⟨rfl, h1⟩
    go_wp2
    go_ret
    exact ⟨rfl, h1⟩
  have h5 : k = 1 ∨ k = 2 ∨ k = 3 ∨ k = 4 ∨ k = 5 := by omega
  clear hk
  rcases h5 with rfl | rfl | rfl | rfl | rfl
  · go_enter Tryd.func60, Tryd.ntmps60
    go_wp2_with fail
    refine (letterOf1_c _ _ _ _).mono ?_
    rintro e w1 ⟨rfl, h1⟩
    go_wp2_with fail
    refine (name1_c _ _ _ _ _).mono ?_
    rintro e w2 ⟨rfl, h2⟩
    go_wp2
    go_ret
    exact ⟨rfl, h1.trans (h2.mono h1.size)⟩
  · go_enter Tryd.func60, Tryd.ntmps60
    go_wp2_with fail
    refine (letterOf2_c _ _ _ _).mono ?_
    rintro e w1 ⟨rfl, h1⟩
    go_wp2_with fail
    refine (name2_c _ _ _ _ _).mono ?_
    rintro e w2 ⟨rfl, h2⟩
    go_wp2
    go_ret
    exact ⟨rfl, h1.trans (h2.mono h1.size)⟩
  · go_enter Tryd.func60, Tryd.ntmps60
    go_wp2_with fail
    refine (letterOf3_c _ _ _ _).mono ?_
    rintro e w1 ⟨rfl, h1⟩
    go_wp2_with fail
    refine (name3_c _ _ _ _ _).mono ?_
    rintro e w2 ⟨rfl, h2⟩
    go_wp2
    go_ret
    exact ⟨rfl, h1.trans (h2.mono h1.size)⟩
  · go_enter Tryd.func60, Tryd.ntmps60
    go_wp2_with fail
    refine (letterOf4_c _ _ _ _).mono ?_
    rintro e w1 ⟨rfl, h1⟩
    go_wp2_with fail
    refine (name4_c _ _ _ _ _).mono ?_
    rintro e w2 ⟨rfl, h2⟩
    go_wp2
    go_ret
    exact ⟨rfl, h1.trans (h2.mono h1.size)⟩
  · go_enter Tryd.func60, Tryd.ntmps60
    go_wp2_with fail
    refine (letterOf5_c _ _ _ _).mono ?_
    rintro e w1 ⟨rfl, h1⟩
    go_wp2_with fail
    refine (name5_c _ _ _ _ _).mono ?_
    rintro e w2 ⟨rfl, h2⟩
    go_wp2
    go_ret
    exact ⟨rfl, h1.trans (h2.mono h1.size)⟩
end Go.Proofs.YtkbhbccpmmhelaaDoor
namespace Go.Proofs
open Go.Shelf
def Tryd.lays156_ren : Go.Shelf.Ren := ⟨fun | 156 => 31 | 165 => 62 | 166 => 63 | 169 => 64 | 240 => 78 | 241 => 79 | 276 => 82 | 277 => 83 | n => n, fun | 31 => 58 | 9 => 9 | 3 => 3 | 4 => 4 | 0 => 0 | 20 => 20 | 72 => 97 | 76 => 101 | 70 => 95 | 37 => 22 | 75 => 100 | 127 => 109 | 164 => 116 | 5 => 5 | 80 => 76 | n => n, fun | n => n⟩
theorem Tryd.lays156 : Go.Proofs.Lays.n156 Tryd.prog Tryd.lays156_ren := {
  mixed := by kernel_rfl
  f156 := Tryd.func31.trans (congrArg some (by kernel_rfl))
  f165 := Tryd.func62.trans (congrArg some (by kernel_rfl))
  f166 := Tryd.func63.trans (congrArg some (by kernel_rfl))
  f169 := Tryd.func64.trans (congrArg some (by kernel_rfl))
  f240 := Tryd.func78.trans (congrArg some (by kernel_rfl))
  f241 := Tryd.func79.trans (congrArg some (by kernel_rfl))
  f276 := Tryd.func82.trans (congrArg some (by kernel_rfl))
  f277 := Tryd.func83.trans (congrArg some (by kernel_rfl))
  t0 := Tryd.underlying0
  a0 := Tryd.isAgg0
  z0 := Tryd.sizeOf0
  v0 := Tryd.zeroValue0
  t3 := Tryd.underlying3
  a3 := Tryd.isAgg3
  z3 := Tryd.sizeOf3
  v3 := Tryd.zeroValue3
  t4 := Tryd.underlying4
  a4 := Tryd.isAgg4
  z4 := Tryd.sizeOf4
  v4 := Tryd.zeroValue4
  t9 := Tryd.underlying9
  a9 := Tryd.isAgg9
  z9 := Tryd.sizeOf9
  v9 := Tryd.zeroValue9
  t20 := Tryd.underlying20
  a20 := Tryd.isAgg20
  z20 := Tryd.sizeOf20
  v20 := Tryd.zeroValue20
  t31 := Tryd.underlying58
  a31 := Tryd.isAgg58
  z31 := Tryd.sizeOf58
  v31 := Tryd.zeroValue58
  t37 := Tryd.underlying22
  a37 := Tryd.isAgg22
  z37 := Tryd.sizeOf22
  v37 := Tryd.zeroValue22
  t70 := Tryd.underlying95
  a70 := Tryd.isAgg95
  z70 := Tryd.sizeOf95
  v70 := Tryd.zeroValue95
  t72 := Tryd.underlying97
  a72 := Tryd.isAgg97
  z72 := Tryd.sizeOf97
  v72 := Tryd.zeroValue97
  t75 := Tryd.underlying100
  a75 := Tryd.isAgg100
  z75 := Tryd.sizeOf100
  v75 := Tryd.zeroValue100
  t76 := Tryd.underlying101
  a76 := Tryd.isAgg101
  z76 := Tryd.sizeOf101
  v76 := Tryd.zeroValue101
  t127 := Tryd.underlying109
  a127 := Tryd.isAgg109
  z127 := Tryd.sizeOf109
  v127 := Tryd.zeroValue109
  t164 := Tryd.underlying116
  a164 := Tryd.isAgg116
  z164 := Tryd.sizeOf116
  v164 := Tryd.zeroValue116 }
theorem Tryd.Builder_Extra_156 : Builder.Extra Tryd.prog Tryd.lays156_ren := {
  sizeBuilder := by kernel_rfl
  liesBuilder := by kernel_rfl
  t5 := Tryd.underlying5
  a5 := Tryd.isAgg5
  z5 := Tryd.sizeOf5
  v5 := Tryd.zeroValue5
  infoByte := by kernel_rfl
  cellsByte := by kernel_rfl
  sizeByte := by kernel_rfl
  neB5 := by decide }
open Go.RowKit in
theorem Tryd.strings_Join (bk o c : Nat) (xs : List ByteArray) (sep : ByteArray) (w : World) (hcells : ∀ (j : Nat) x, xs[j]? = some x → w.cell? ⟨bk, o + j, none⟩ = some (.string x)) (hbk : bk < w.heap.size) (hN : xs.length ≤ 140737488355328) (hcap : xs.length ≤ c) (hlen : (Lib.join (xs.map (·.data.toList)) sep.data.toList).length ≤ 140737488355328) :
    Calls Tryd.prog 31 #[.slice (some ⟨bk, o, none⟩) xs.length c, .string sep] w fun e w' => e = .returned (.string ⟨(Lib.join (xs.map (·.data.toList)) sep.data.toList).toArray⟩) ∧ Below w.heap.size w w' := Any.strings_Join Tryd.lays156 Tryd.Builder_Extra_156 bk o c xs sep w hcells hbk hN hcap hlen
def Tryd.laysM171_ren : Go.Shelf.Ren := ⟨fun | 171 => 61 | 243 => 77 | 246 => 81 | 283 => 84 | 284 => 85 | 285 => 86 | 286 => 87 | 129 => 89 | 317 => 88 | 318 => 90 | 319 => 91 | 320 => 92 | 337 => 93 | 338 => 94 | n => n, fun | 3 => 3 | 9 => 9 | 2 => 2 | 4 => 4 | 171 => 119 | 0 => 0 | 53 => 120 | 37 => 22 | 5 => 5 | 173 => 123 | 212 => 127 | 51 => 128 | 20 => 20 | 213 => 129 | 46 => 107 | 232 => 132 | 233 => 133 | n => n, fun | 17 => 1 | 18 => 2 | 19 => 3 | n => n⟩
theorem Tryd.laysM171 : Go.Proofs.LaysM.n171 Tryd.prog Tryd.laysM171_ren := {
  mixed := by kernel_rfl
  f129 := Tryd.func89.trans (congrArg some (by kernel_rfl))
  f171 := Tryd.func61.trans (congrArg some (by kernel_rfl))
  f243 := Tryd.func77.trans (congrArg some (by kernel_rfl))
  f246 := Tryd.func81.trans (congrArg some (by kernel_rfl))
  f283 := Tryd.func84.trans (congrArg some (by kernel_rfl))
  f284 := Tryd.func85.trans (congrArg some (by kernel_rfl))
  f285 := Tryd.func86.trans (congrArg some (by kernel_rfl))
  f286 := Tryd.func87.trans (congrArg some (by kernel_rfl))
  f317 := Tryd.func88.trans (congrArg some (by kernel_rfl))
  f318 := Tryd.func90.trans (congrArg some (by kernel_rfl))
  f319 := Tryd.func91.trans (congrArg some (by kernel_rfl))
  f320 := Tryd.func92.trans (congrArg some (by kernel_rfl))
  f337 := Tryd.func93.trans (congrArg some (by kernel_rfl))
  f338 := Tryd.func94.trans (congrArg some (by kernel_rfl))
  t0 := Tryd.underlying0
  a0 := Tryd.isAgg0
  z0 := Tryd.sizeOf0
  v0 := Tryd.zeroValue0
  t2 := Tryd.underlying2
  a2 := Tryd.isAgg2
  z2 := Tryd.sizeOf2
  v2 := Tryd.zeroValue2
  t3 := Tryd.underlying3
  a3 := Tryd.isAgg3
  z3 := Tryd.sizeOf3
  v3 := Tryd.zeroValue3
  t4 := Tryd.underlying4
  a4 := Tryd.isAgg4
  z4 := Tryd.sizeOf4
  v4 := Tryd.zeroValue4
  t5 := Tryd.underlying5
  a5 := Tryd.isAgg5
  z5 := Tryd.sizeOf5
  v5 := Tryd.zeroValue5
  t9 := Tryd.underlying9
  a9 := Tryd.isAgg9
  z9 := Tryd.sizeOf9
  v9 := Tryd.zeroValue9
  t20 := Tryd.underlying20
  a20 := Tryd.isAgg20
  z20 := Tryd.sizeOf20
  v20 := Tryd.zeroValue20
  t37 := Tryd.underlying22
  a37 := Tryd.isAgg22
  z37 := Tryd.sizeOf22
  v37 := Tryd.zeroValue22
  t46 := Tryd.underlying107
  a46 := Tryd.isAgg107
  z46 := Tryd.sizeOf107
  v46 := Tryd.zeroValue107
  t51 := Tryd.underlying128
  a51 := Tryd.isAgg128
  z51 := Tryd.sizeOf128
  v51 := Tryd.zeroValue128
  t53 := Tryd.underlying120
  a53 := Tryd.isAgg120
  z53 := Tryd.sizeOf120
  v53 := Tryd.zeroValue120
  t171 := Tryd.underlying119
  a171 := Tryd.isAgg119
  z171 := Tryd.sizeOf119
  v171 := Tryd.zeroValue119
  t173 := Tryd.underlying123
  a173 := Tryd.isAgg123
  z173 := Tryd.sizeOf123
  v173 := Tryd.zeroValue123
  t212 := Tryd.underlying127
  a212 := Tryd.isAgg127
  z212 := Tryd.sizeOf127
  v212 := Tryd.zeroValue127
  t213 := Tryd.underlying129
  a213 := Tryd.isAgg129
  z213 := Tryd.sizeOf129
  t232 := Tryd.underlying132
  a232 := Tryd.isAgg132
  z232 := Tryd.sizeOf132
  v232 := Tryd.zeroValue132
  t233 := Tryd.underlying133
  a233 := Tryd.isAgg133
  z233 := Tryd.sizeOf133
  v233 := Tryd.zeroValue133
  g17 := by kernel_rfl
  g18 := by kernel_rfl
  g19 := by kernel_rfl
  i0 := by kernel_rfl
  i2 := by kernel_rfl
  i3 := by kernel_rfl
  i4 := by kernel_rfl
  i5 := by kernel_rfl
  i9 := by kernel_rfl
  i20 := by kernel_rfl
  i37 := by kernel_rfl
  i46 := by kernel_rfl
  i51 := by kernel_rfl
  i53 := by kernel_rfl
  i171 := by kernel_rfl
  i173 := by kernel_rfl
  i212 := by kernel_rfl
  i232 := by kernel_rfl
  i233 := by kernel_rfl
  m17 := by kernel_rfl
  m18 := by kernel_rfl
  m19 := by kernel_rfl }
open Go.RowKit Go.Sort Go.Lib in
theorem Tryd.strconv_Itoa (n : Int) (h0 : -9223372036854775808 ≤ n) (h1 : n ≤ 9223372036854775807) (w : World) (htab : Lib.TabIs Tryd.prog w "internal/strconv.uint64pow10" .u64 Lib.pow10Tab) :
    Calls Tryd.prog 61 #[.int .i64 n] w fun e w' => e = .returned (.string ⟨(Lib.itoa n).toArray⟩) ∧ ∃ k os, w' = grow (w.drewN k) os := Any.strconv_Itoa Tryd.laysM171 n h0 h1 w htab
def Tryd.laysM316_ren : Go.Shelf.Ren := ⟨fun | 316 => 80 | n => n, fun | 9 => 9 | 3 => 3 | 4 => 4 | 37 => 22 | 0 => 0 | 127 => 109 | 5 => 5 | n => n, fun | n => n⟩
theorem Tryd.laysM316 : Go.Proofs.LaysM.n316 Tryd.prog Tryd.laysM316_ren := {
  mixed := by kernel_rfl
  f316 := Tryd.func80.trans (congrArg some (by kernel_rfl))
  t0 := Tryd.underlying0
  a0 := Tryd.isAgg0
  z0 := Tryd.sizeOf0
  v0 := Tryd.zeroValue0
  t3 := Tryd.underlying3
  a3 := Tryd.isAgg3
  z3 := Tryd.sizeOf3
  v3 := Tryd.zeroValue3
  t4 := Tryd.underlying4
  a4 := Tryd.isAgg4
  z4 := Tryd.sizeOf4
  v4 := Tryd.zeroValue4
  t9 := Tryd.underlying9
  a9 := Tryd.isAgg9
  z9 := Tryd.sizeOf9
  v9 := Tryd.zeroValue9
  t37 := Tryd.underlying22
  a37 := Tryd.isAgg22
  z37 := Tryd.sizeOf22
  v37 := Tryd.zeroValue22
  t127 := Tryd.underlying109
  a127 := Tryd.isAgg109
  z127 := Tryd.sizeOf109
  v127 := Tryd.zeroValue109
  t5 := Tryd.underlying5
  a5 := Tryd.isAgg5
  z5 := Tryd.sizeOf5
  v5 := Tryd.zeroValue5
  i0 := by kernel_rfl
  i3 := by kernel_rfl
  i4 := by kernel_rfl
  i5 := by kernel_rfl
  i9 := by kernel_rfl
  i37 := by kernel_rfl
  i127 := by kernel_rfl }
open Go.RowKit in
theorem Tryd.stringslite_Clone (s : ByteArray) (w : World) (hlim : s.size ≤ 281474976710656) :
    Calls Tryd.prog 80 #[.string s] w fun e w' => e = .returned (.string s) ∧ Below w.heap.size w w' := Any.stringslite_Clone Tryd.laysM316 s w hlim
end Go.Proofs
namespace Go.Proofs.YtkbhbccpmmhelaaDoor
def numText (n : Int) : ByteArray := if numB n = true then ⟨(Lib.decDigits n.toNat).toArray⟩ else ⟨#[]⟩
theorem dec_big {m : Nat} (h : ¬ m < 10) : Lib.decDigits m = Lib.decDigits (m / 10) ++ [UInt8.ofNat (48 + m % 10)] := by rw [Lib.decDigits, dif_neg h]
theorem dec_small {m : Nat} (h : m < 10) : Lib.decDigits m = [UInt8.ofNat (48 + m)] := by rw [Lib.decDigits, dif_pos h]
def val (l : List UInt8) : Nat := l.foldl (fun a c => a * 10 + (c.toNat - 48)) 0
def isDig (c : UInt8) : Bool := decide (48 ≤ c.toNat) && decide (c.toNat ≤ 57)
theorem val_snoc (l : List UInt8) (c : UInt8) : val (l ++ [c]) = val l * 10 + (c.toNat - 48) := by simp [val]
theorem toNat_dig (x : Nat) (h : x < 10) : (UInt8.ofNat (48 + x)).toNat = 48 + x := by
  rw [UInt8.toNat_ofNat_of_lt']
  show 48 + x < 256
  omega
theorem dec_val (n : Nat) : val (Lib.decDigits n) = n ∧ (Lib.decDigits n).all isDig = true := by
  induction n using Nat.strongRecOn with
  | ind n ih =>
    by_cases h : n < 10
    · rw [dec_small h]
      have := toNat_dig n h
      constructor
      · simp [val]; omega
      · simp [isDig]; omega
    · have hi := ih (n / 10) (by omega)
      have := toNat_dig (n % 10) (by omega)
      rw [dec_big h]
      constructor
      · rw [val_snoc, hi.1, this]; omega
      · rw [List.all_append, hi.2]; simp [isDig]; omega
theorem dec_len (k n : Nat) (h : n < 10 ^ (k + 1)) : (Lib.decDigits n).length ≤ k + 1 := by
  induction k generalizing n with
  | zero => rw [dec_small (by omega)]; simp
  | succ k ih =>
    by_cases hs : n < 10
    · rw [dec_small hs]; simp
    · rw [dec_big hs, List.length_append]
      have := ih (n / 10) (by rw [Nat.div_lt_iff_lt_mul (by omega)]; rw [Nat.pow_succ] at h; exact h)
      simp; omega
theorem dec_len16 (n : Nat) (h : n ≤ 1125899906842624) : (Lib.decDigits n).length ≤ 16 := dec_len 15 n (by omega)
theorem dec_pos (n : Nat) : 0 < (Lib.decDigits n).length := by
  by_cases h : n < 10
  · rw [dec_small h]; simp
  · rw [dec_big h]; simp
def textNum (s : ByteArray) : Option Nat :=
  if val s.data.toList ≤ 1125899906842624 ∧ Lib.decDigits (val s.data.toList) = s.data.toList then some (val s.data.toList) else none
theorem textNum_none {s : ByteArray} (h : ∀ n, n ≤ 1125899906842624 → Lib.decDigits n ≠ s.data.toList) : textNum s = none := by
  unfold textNum
  rw [if_neg]
  rintro ⟨h1, h2⟩
  exact h _ h1 h2
theorem val_take_le (l : List UInt8) (k : Nat) : val (l.take k) ≤ val l := by
  have : ∀ (r : List UInt8) (a : Nat), a ≤ r.foldl (fun a c => a * 10 + (c.toNat - 48)) a := by
    intro r
    induction r with
    | nil => intro a; exact Nat.le_refl _
    | cons c r ih => intro a; exact Nat.le_trans (by omega) (ih (a * 10 + (c.toNat - 48)))
  conv => rhs; rw [← List.take_append_drop k l]
  unfold val
  rw [List.foldl_append]
  exact this _ _
theorem get_toList (s : ByteArray) (k : Nat) (hk : k < s.size) : s.get! k = s.data.toList[k]'(by simpa using hk) := by
  have : k < s.data.size := hk
  rw [Array.getElem_toList]
  show s.data[k]! = _
  exact getElem!_pos s.data k this
theorem textNum_bad {s : ByteArray} {k : Nat} (hk : k < s.size) (hb : ¬ (48 ≤ (s.get! k).toNat ∧ (s.get! k).toNat ≤ 57)) : textNum s = none := by
  apply textNum_none
  intro n _ e
  have h1 := (dec_val n).2
  rw [e] at h1
  have h2 := List.all_eq_true.1 h1 (s.data.toList[k]'(by simpa using hk)) (List.getElem_mem _)
  apply hb
  have h3 := get_toList s k hk
  rw [h3]
  simpa [isDig] using h2
theorem val_take (s : ByteArray) (k : Nat) (hk : k < s.size) : val (s.data.toList.take (k + 1)) = val (s.data.toList.take k) * 10 + ((s.get! k).toNat - 48) := by
  have hl : k < s.data.toList.length := by simpa using hk
  rw [List.take_succ_eq_append_getElem hl, val_snoc]
  rw [get_toList s k hk]
theorem textNum_great {s : ByteArray} {k : Nat} (h : 1125899906842624 < val (s.data.toList.take k)) : textNum s = none := by
  unfold textNum
  rw [if_neg]
  rintro ⟨h1, _⟩
  have := val_take_le s.data.toList k
  omega
theorem numText_eq {s : ByteArray} {n : Nat} (hn : n ≤ 1125899906842624) : numText (n : Int) = s ↔ Lib.decDigits n = s.data.toList := by
  unfold numText
  rw [if_pos (numB_true.2 (by omega)), Int.toNat_natCast]
  constructor
  · intro e; rw [← e]
  · intro e; apply WideShapes.bytes_inj; simpa using e
theorem textNum_same {s : ByteArray} (h : numText (val s.data.toList : Nat) = s) (hs : 0 < s.size) : textNum s = some (val s.data.toList) := by
  by_cases hv : val s.data.toList ≤ 1125899906842624
  · unfold textNum
    rw [if_pos ⟨hv, (numText_eq hv).1 h⟩]
  · exfalso
    unfold numText at h
    rw [numB_false.2 (by omega)] at h
    rw [← h] at hs
    simp [ByteArray.size] at hs
theorem textNum_other {s : ByteArray} (h : numText (val s.data.toList : Nat) ≠ s) : textNum s = none := by
  unfold textNum
  rw [if_neg]
  rintro ⟨h1, h2⟩
  exact h ((numText_eq h1).2 h2)
def textVal (s : ByteArray) : Value := match textNum s with | some n => .tuple #[.int .i64 (n : Int), .bool true] | none => .tuple #[.int .i64 0, .bool false]
theorem textVal_none {s : ByteArray} (h : textNum s = none) : textVal s = .tuple #[.int .i64 0, .bool false] := by unfold textVal; rw [h]
theorem textVal_some {s : ByteArray} {n : Nat} (h : textNum s = some n) : textVal s = .tuple #[.int .i64 (n : Int), .bool true] := by unfold textVal; rw [h]
theorem textNum_numText (n : Nat) (hn : n ≤ 1125899906842624) : textNum (numText (n : Int)) = some n := by
  have e : (numText (n : Int)).data.toList = Lib.decDigits n := ((numText_eq hn).1 rfl).symm
  unfold textNum
  rw [e, (dec_val n).1, if_pos ⟨hn, rfl⟩]
theorem numText_size (n : Int) : (numText n).size ≤ 16 := by
  unfold numText
  split
  · rename_i h
    have h1 := numB_true.1 h
    have := dec_len16 n.toNat (by omega)
    show (Lib.decDigits n.toNat).toArray.size ≤ 16
    simpa using this
  · show (#[] : Array UInt8).size ≤ 16
    simp
end Go.Proofs.YtkbhbccpmmhelaaDoor
namespace Go.Proofs.YtkbhbccpmmhelaaDoor
open Go.RowKit
set_option linter.unusedVariables false
def Tab10 (w : World) : Prop := Lib.TabIs Tryd.prog w "internal/strconv.uint64pow10" .u64 Lib.pow10Tab
set_option maxHeartbeats 400000 in
theorem iNumText_any (n : Int) (w : World) (ht : Tab10 w) (h0 : -9223372036854775808 ≤ n) (h1 : n ≤ 9223372036854775807) :
    Calls Tryd.prog 30 #[.int .i64 n] w fun e w' => e = .returned (.string (numText n)) ∧ Below w.heap.size w w' := by
  by_cases hN : 0 ≤ n ∧ n ≤ 1125899906842624
  · have HB := Lib.hid (numB_true.2 hN)
    have HT : Hid (numText n = ⟨(Lib.itoa n).toArray⟩) := by
      show _ = _
      unfold numText Lib.itoa
      rw [if_pos HB.out, if_neg (by omega)]
    go_enter Tryd.func30, Tryd.ntmps30
    go_wp2_with fail
    refine (iNum_any _ _).mono ?_
    rintro e w' ⟨rfl, rfl⟩
    rw [HB.out]
    go_wp2_with fail
    refine (Tryd.strconv_Itoa n h0 h1 w ht).mono ?_
    rintro e w1 ⟨rfl, k, os, rfl⟩
    rw [← HT.out]
    have hb := Lib.below_grow w.heap.size w (Nat.le_refl _) k os
    go_wp2
    go_ret
    exact ⟨rfl, hb⟩
  · have HB := Lib.hid (numB_false.2 hN)
    have HT : Hid (numText n = ⟨#[]⟩) := by
      show _ = _
      unfold numText
      rw [HB.out]; simp
    clear hN
    go_enter Tryd.func30, Tryd.ntmps30
    go_wp2_with fail
    refine (iNum_any _ _).mono ?_
    rintro e w' ⟨rfl, rfl⟩
    rw [HB.out]
    go_wp2
    go_ret
    exact ⟨ret_eq (by rw [HT.out]; rfl), Below.refl _ _⟩
theorem Tab10.below {w w' : World} (h : Tab10 w) (hb : Below w.heap.size w w') : Tab10 w' := by
  unfold Tab10 Lib.TabIs World.var? at h ⊢
  rcases hg : Tryd.prog.globalNamed "internal/strconv.uint64pow10" with _ | g
  · rw [hg] at h; cases h
  · rw [hg] at h
    simp only [Option.bind_some] at h ⊢
    have hlt : g < w.heap.size := by
      rcases Nat.lt_or_ge g w.heap.size with h' | h'
      · exact h'
      · rw [Array.getElem?_eq_none h'] at h; cases h
    rw [hb.block g hlt]
    exact h
set_option maxHeartbeats 1000000 in
theorem iTextNum_any (s : ByteArray) (w : World) (ht : Tab10 w) (hs : s.size ≤ 1073741824) :
    Calls Tryd.prog 54 #[.string s] w fun e w' => e = .returned (textVal s) ∧ Below w.heap.size w w' := by
  go_enter Tryd.func54, Tryd.ntmps54
  go_wp2
  go_loopw [4] (fun sn wr => ∃ p m : Nat, p ≤ s.size ∧ sn = .int .i64 m ∧ m ≤ 1125899906842624 ∧ wr.heap[w.heap.size]? = some (.stringIter s p) ∧ Hid (m = val (s.data.toList.take p)) ∧ Below w.heap.size w wr) (fun _ wr => s.size - wr.iterPos w.heap.size)
  case atStart => exact ⟨0, 0, by omega, rfl, by omega, World.iter_heap w s 0, rfl, (Below.refl _ _).alloc (Nat.le_refl _) _⟩
  case round =>
    obtain ⟨p, m, hp, rfl, hm, hit, HM, hbr⟩ := hrel
    have hsz := hbr.size
    have hpos : wr.iterPos w.heap.size = p := by unfold World.iterPos; rw [hit]
    have HP := Lib.hid hpos
    clear hpos
    by_cases hlt : p < s.size
    · have hg := get_bang s p hlt
      have hnx := fun ty => Lib.run_next_any_at (P := Tryd.prog) wr w.heap.size s p ty hit hlt
      obtain ⟨r, wd, hd⟩ : ∃ r wd, Utf8.decode s p = (r, wd) := ⟨_, _, rfl⟩
      rw [hd] at hnx
      have hle := decode_le s p
      rw [hd] at hle
      obtain ⟨wn, hwn⟩ : ∃ wn, wr.iterAt w.heap.size s (p + wd) = wn := ⟨_, rfl⟩
      have hbrN := Lib.below_iterAt hbr (k := w.heap.size) (Nat.le_refl _) s (p + wd)
      have hitN := Lib.iterAt_heap wr w.heap.size s p (p + wd) hit
      dsimp only at hnx hle
      rw [hwn] at hbrN hitN hnx
      clear hwn hbr hit
      by_cases hdg : 48 ≤ r ∧ r ≤ 57
      · have hasc : (s.get! p).toNat < 128 := by
          rcases Nat.lt_or_ge (s.get! p).toNat 128 with h | h
          · exact h
          · have := decode_high s p hlt (by rw [← hg]; exact h)
            rw [hd] at this
            omega
        have h1 := decode_ascii s p hlt (by rw [← hg]; exact hasc)
        rw [hd, ← hg] at h1
        simp only [Prod.mk.injEq] at h1
        obtain ⟨h1, rfl⟩ := h1
        obtain ⟨m2, hm2⟩ : ∃ m2, m * 10 + (r - 48) = m2 := ⟨_, rfl⟩
        have HM2 : Hid (m2 = val (s.data.toList.take (p + 1))) := by
          show _ = _
          rw [val_take s p hlt, ← HM.out, ← h1, hm2]
        have hm4 : (m : Int) * 10 + ((r : Int) - 48) = (m2 : Int) := by omega
        have hposN : wn.iterPos w.heap.size = p + 1 := by unfold World.iterPos; rw [hitN]
        have HPN := Lib.hid hposN
        have HIN := Lib.hid hitN
        obtain ⟨hd1, hd2⟩ := hdg
        have j2 : (48 : Int) ≤ (r : Int) := by omega
        have j3 : (r : Int) ≤ 57 := by omega
        clear hm2 hd h1 hg hposN hitN hasc
        by_cases hgr : m2 ≤ 1125899906842624
        · have j4 : (m2 : Int) ≤ 1125899906842624 := by omega
          go_wp2
          go_roundw
          case rel => exact ⟨p + 1, m2, by omega, by go_num, hgr, HIN.out, HM2, hbrN⟩
          case measure => rw [HPN.out, HP.out]; omega
        · have HV := Lib.hid (textVal_none (textNum_great (s := s) (k := p + 1) (by rw [← HM2.out]; omega)))
          have j4 : (1125899906842624 : Int) < (m2 : Int) := by omega
          go_wp2
          go_ret2
          exact ⟨ret_eq HV.out.symm, hbrN⟩
      · have hbad : ¬ (48 ≤ (s.get! p).toNat ∧ (s.get! p).toNat ≤ 57) := by
          rcases Nat.lt_or_ge (s.get! p).toNat 128 with h | h
          · have h1 := decode_ascii s p hlt (by rw [← hg]; exact h)
            rw [hd, ← hg] at h1
            simp only [Prod.mk.injEq] at h1
            omega
          · omega
        have HV := Lib.hid (textVal_none (textNum_bad hlt hbad))
        clear hbad hd hg hitN
        by_cases hd1 : 48 ≤ r
        · have j2 : (48 : Int) ≤ (r : Int) := by omega
          have j3 : (57 : Int) < (r : Int) := by omega
          clear hdg
          go_wp2
          go_ret2
          exact ⟨ret_eq HV.out.symm, hbrN⟩
        · have j2 : (r : Int) < 48 := by omega
          clear hdg
          go_wp2
          go_ret2
          exact ⟨ret_eq HV.out.symm, hbrN⟩
    · have hp2 : p = s.size := by omega
      subst hp2
      have hnx := fun ty => Lib.run_next_end_at (P := Tryd.prog) wr w.heap.size s s.size ty hit hlt
      have hM := HM.out
      rw [show s.data.toList.take s.size = s.data.toList from List.take_of_length_le (Nat.le_of_eq Array.length_toList)] at hM
      have HM2 := Lib.hid hM
      clear hM hit HP
      go_wp2_with fail
      refine (iNumText_any _ wr (ht.below hbr) (by omega) (by omega)).mono ?_
      rintro e w1 ⟨rfl, hb1⟩
      have hb2 := hbr.trans (hb1.mono hsz)
      obtain ⟨T, hT⟩ : ∃ T, numText (m : Int) = T := ⟨_, rfl⟩
      rw [hT]
      clear hnx
      by_cases hTs : T = s
      · by_cases hs0 : 0 < s.size
        · have HV := Lib.hid (textVal_some (textNum_same (s := s) (by rw [← HM2.out, hT]; exact hTs) hs0))
          rw [← HM2.out] at HV
          clear hT
          subst hTs
          go_wp2
          go_ret2
          exact ⟨ret_eq HV.out.symm, hb2⟩
        · exfalso
          have h1 := (numText_eq (s := s) hm).1 (hT.trans hTs)
          have h2 := dec_pos m
          rw [h1, show s.data.toList.length = s.size from Array.length_toList] at h2
          omega
      · have HV := Lib.hid (textVal_none (textNum_other (s := s) (by rw [← HM2.out, hT]; exact hTs)))
        clear hT
        have hne : (T.toList == s.toList) = false := by rw [str_same]; simpa using hTs
        have hne2 : (T.toList != s.toList) = true := by simp only [bne, hne]; rfl
        go_wp2
        go_ret2
        exact ⟨ret_eq HV.out.symm, hb2⟩
end Go.Proofs.YtkbhbccpmmhelaaDoor
namespace Go.Proofs.YtkbhbccpmmhelaaDoor
open Go.RowKit
set_option linter.unusedVariables false
def msgText (m : MMsg) : ByteArray := if msgOkB m then msgName m.Kind ++ ⟨#[32]⟩ ++ numText m.Acct ++ ⟨#[32]⟩ ++ numText m.Amt ++ ⟨#[32]⟩ ++ numText m.Src else ⟨#[]⟩
theorem msgName_size (k : Int) : (msgName k).size ≤ 6 := by
  unfold msgName
  repeat (split; decide)
  decide
end Go.Proofs.YtkbhbccpmmhelaaDoor
namespace Go.Proofs.YtkbhbccpmmhelaaDoor
set_option linter.unusedVariables false
def joinSp (s : ByteArray) (ws : List ByteArray) : ByteArray := ws.foldl (fun a w => a ++ ⟨#[32]⟩ ++ w) s
theorem joinSp_cons (s w : ByteArray) (ws : List ByteArray) : joinSp s (w :: ws) = s ++ ⟨#[32]⟩ ++ joinSp w ws := by
  unfold joinSp
  rw [List.foldl_cons]
  generalize s ++ ⟨#[32]⟩ = a
  induction ws generalizing w with
  | nil => rfl
  | cons x xs ih => rw [List.foldl_cons, List.foldl_cons, ← ih, ByteArray.append_assoc, ByteArray.append_assoc, ByteArray.append_assoc]
theorem joinSp_append (s : ByteArray) (xs ys : List ByteArray) : joinSp s (xs ++ ys) = joinSp (joinSp s xs) ys := by unfold joinSp; rw [List.foldl_append]
def msgWords (m : MMsg) : List ByteArray := [numText m.Acct, numText m.Amt, numText m.Src]
theorem msgText_join {m : MMsg} (h : msgOkB m = true) : msgText m = joinSp (msgName m.Kind) (msgWords m) := by
  unfold msgText
  rw [if_pos h]
  rfl
def recFields (r : MRec) : List ByteArray := (if kAcct r.Kind = true then [numText r.Acct] else []) ++ ((if kOther r.Kind = true then [numText r.Other] else []) ++ ((if kTo r.Kind = true then [numText r.To] else []) ++ (if kAmt r.Kind = true then [numText r.Amt] else [])))
def recWords (r : MRec) : List ByteArray := recFields r ++ (if r.Kind = 5 then msgName r.M.Kind :: msgWords r.M else [])
def recText (r : MRec) : ByteArray := if recOkB r = true then joinSp (rkName r.Kind) (recWords r) else ⟨#[]⟩
theorem joinSp_le (ws : List ByteArray) : ∀ (s : ByteArray) (n : Nat), (∀ x ∈ ws, x.size ≤ n) → (joinSp s ws).size ≤ s.size + ws.length * (n + 1) := by
  induction ws with
  | nil => intro s n _; simp [joinSp]
  | cons x xs ih =>
    intro s n h
    have e : joinSp s (x :: xs) = joinSp (s ++ ⟨#[32]⟩ ++ x) xs := rfl
    rw [e]
    have h1 := ih (s ++ ⟨#[32]⟩ ++ x) n (fun y hy => h y (List.mem_cons_of_mem _ hy))
    have h2 := h x (List.mem_cons_self ..)
    have h3 : (⟨#[32]⟩ : ByteArray).size = 1 := rfl
    simp only [ByteArray.size_append] at h1
    rw [List.length_cons, Nat.succ_mul]
    omega
theorem rkName_size (k : Int) : (rkName k).size ≤ 5 := by
  unfold rkName
  repeat (split; decide)
  decide
theorem recWords_size (r : MRec) : (∀ x ∈ recWords r, x.size ≤ 16) ∧ (recWords r).length ≤ 8 := by
  constructor
  · intro x hx
    unfold recWords recFields msgWords at hx
    simp only [List.mem_append] at hx
    rcases hx with (h | h | h | h) | h
    all_goals split at h
    all_goals first
      | (cases h; done)
      | (rw [List.mem_singleton] at h; subst h; exact numText_size _)
      | (simp only [List.mem_cons, List.not_mem_nil, or_false] at h
         rcases h with rfl | rfl | rfl | rfl
         · exact Nat.le_trans (msgName_size _) (by omega)
         · exact numText_size _
         · exact numText_size _
         · exact numText_size _)
  · unfold recWords recFields msgWords
    simp only [List.length_append]
    repeat' split
    all_goals simp
theorem recText_size (r : MRec) : (recText r).size ≤ 141 := by
  unfold recText
  split
  · have h1 := joinSp_le (recWords r) (rkName r.Kind) 16 (recWords_size r).1
    have h2 := (recWords_size r).2
    have h3 := rkName_size r.Kind
    omega
  · exact Nat.zero_le _
end Go.Proofs.YtkbhbccpmmhelaaDoor
namespace Go.Proofs.YtkbhbccpmmhelaaDoor
set_option linter.unusedVariables false
def txN (s : ByteArray) : Int := match textNum s with | some n => (n : Int) | none => 0
theorem textVal_txN (s : ByteArray) : textVal s = .tuple #[.int .i64 (txN s), .bool (textNum s).isSome] := by
  unfold textVal txN
  rcases textNum s with _ | n <;> rfl
theorem txN_numText {n : Int} (h : 0 ≤ n ∧ n ≤ 1125899906842624) : txN (numText n) = n := by
  obtain ⟨k, rfl⟩ : ∃ k : Nat, n = (k : Int) := ⟨n.toNat, by omega⟩
  unfold txN
  rw [textNum_numText k (by omega)]
def numsOf (ws : List ByteArray) (at_ : Nat) : List Int := (ws.drop at_).map txN ++ [0, 0, 0, 0, 0, 0]
def kindTo (w : ByteArray) : Nat → Int
  | 0 => 0
  | k + 1 => if rkName ((k + 1 : Nat) : Int) = w then ((k + 1 : Nat) : Int) else kindTo w k
def mkindTo (w : ByteArray) : Nat → Int
  | 0 => 0
  | k + 1 => if msgName ((k + 1 : Nat) : Int) = w then ((k + 1 : Nat) : Int) else mkindTo w k
theorem kindTo_range (w : ByteArray) (n : Nat) : 0 ≤ kindTo w n ∧ kindTo w n ≤ n := by
  induction n with
  | zero => exact ⟨Int.le_refl _, Int.le_refl _⟩
  | succ n ih => unfold kindTo; split <;> omega
theorem mkindTo_range (w : ByteArray) (n : Nat) : 0 ≤ mkindTo w n ∧ mkindTo w n ≤ n := by
  induction n with
  | zero => exact ⟨Int.le_refl _, Int.le_refl _⟩
  | succ n ih => unfold mkindTo; split <;> omega
def msgOf (ws : List ByteArray) (at_ : Nat) : MMsg :=
  if ws.length ≤ at_ then ⟨0, 0, 0, 0⟩ else ⟨mkindTo (ws.getD at_ ByteArray.empty) 5, (numsOf ws (at_ + 1)).getD 0 0, (numsOf ws (at_ + 1)).getD 1 0, (numsOf ws (at_ + 1)).getD 2 0⟩
def recOf (ws : List ByteArray) : MRec :=
  let k := kindTo (ws.getD 0 ByteArray.empty) 9
  let l := numsOf ws 1
  let i1 := (kAcct k).toNat
  let i2 := i1 + (kOther k).toNat
  let i3 := i2 + (kTo k).toNat
  let i4 := i3 + (kAmt k).toNat
  ⟨k, if kAcct k = true then l.getD 0 0 else 0, if kOther k = true then l.getD i1 0 else 0, if kTo k = true then l.getD i2 0 else 0, if kAmt k = true then l.getD i3 0 else 0, if k = 5 then msgOf ws (i4 + 1) else ⟨0, 0, 0, 0⟩⟩
def textRecB (s : ByteArray) : Bool := recOkB (recOf (splitL s 32)) && decide (recText (recOf (splitL s 32)) = s)
def textRec (s : ByteArray) : MRec := if textRecB s = true then recOf (splitL s 32) else recZ
theorem extract_size (s : ByteArray) (a b : Nat) (h : b ≤ s.size) : (s.extract a b).size ≤ s.size := by
  rw [ByteArray.size_extract]; omega
theorem splitSt_size (s : ByteArray) (b : Nat) : ∀ k, k ≤ s.size → ∀ x ∈ (splitSt s b k).1, x.size ≤ s.size := by
  intro k
  induction k with
  | zero => intro _ x hx; cases hx
  | succ k ih =>
    intro hk x hx
    unfold splitSt at hx
    split at hx
    · rcases List.mem_append.1 hx with h | h
      · exact ih (by omega) x h
      · rw [List.mem_singleton] at h; subst h; exact extract_size _ _ _ (by omega)
    · exact ih (by omega) x hx
theorem splitL_size (s : ByteArray) (b : Nat) : ∀ x ∈ splitL s b, x.size ≤ s.size := by
  intro x hx
  unfold splitL at hx
  rcases List.mem_append.1 hx with h | h
  · exact splitSt_size s b _ (Nat.le_refl _) x h
  · rw [List.mem_singleton] at h; subst h; exact extract_size _ _ _ (Nat.le_refl _)
theorem getD_sz {ws : List ByteArray} {n : Nat} (h : ∀ x ∈ ws, x.size ≤ n) (j : Nat) : (ws.getD j ByteArray.empty).size ≤ n := by
  by_cases hj : j < ws.length
  · rw [show ws.getD j ByteArray.empty = ws[j] by simp [hj]]
    exact h _ (List.getElem_mem hj)
  · rw [show ws.getD j ByteArray.empty = ByteArray.empty by simp; rw [List.getElem?_eq_none (by omega)]; rfl]
    exact Nat.zero_le _
end Go.Proofs.YtkbhbccpmmhelaaDoor
namespace Go.Proofs.YtkbhbccpmmhelaaDoor
open Go.RowKit
set_option linter.unusedVariables false
theorem join4_eq (s1 s2 s3 s4 : ByteArray) : (⟨(Lib.join ([s1, s2, s3, s4].map (·.data.toList)) (⟨#[32]⟩ : ByteArray).data.toList).toArray⟩ : ByteArray) = s1 ++ ⟨#[32]⟩ ++ s2 ++ ⟨#[32]⟩ ++ s3 ++ ⟨#[32]⟩ ++ s4 := by
  apply ByteArray.ext
  apply Array.toList_inj.1
  simp [Lib.join, List.intercalate, ByteArray.data_append]
theorem join4_c (s1 s2 s3 s4 : ByteArray) (w : World) (t : TypeId) (z1 : s1.size ≤ 16) (z2 : s2.size ≤ 16) (z3 : s3.size ≤ 16) (z4 : s4.size ≤ 16) :
    Calls Tryd.prog 31 #[.slice (some ⟨w.heap.size, 0, none⟩) 4 4, .string ⟨#[32]⟩] (w.alloc (.cells #[.string s1, .string s2, .string s3, .string s4] t)) fun e w' => e = .returned (.string (s1 ++ ⟨#[32]⟩ ++ s2 ++ ⟨#[32]⟩ ++ s3 ++ ⟨#[32]⟩ ++ s4)) ∧ Below w.heap.size w w' := by
  have x := Vr.new w t [.string s1, .string s2, .string s3, .string s4]
  have B : Below w.heap.size w (w.alloc (.cells #[.string s1, .string s2, .string s3, .string s4] t)) := (Below.refl _ _).alloc (Nat.le_refl _) _
  have hl : (Lib.join ([s1, s2, s3, s4].map (·.data.toList)) (⟨#[32]⟩ : ByteArray).data.toList).length ≤ 140737488355328 := by
    have h1 : s1.data.toList.length = s1.size := rfl
    have h2 : s2.data.toList.length = s2.size := rfl
    have h3 : s3.data.toList.length = s3.size := rfl
    have h4 : s4.data.toList.length = s4.size := rfl
    simp only [Lib.join, List.intercalate, List.map_cons, List.map_nil, List.intersperse, List.flatten_cons, List.flatten_nil, List.length_append, List.length_cons, List.length_nil, h1, h2, h3, h4]
    omega
  refine (Tryd.strings_Join w.heap.size 0 4 [s1, s2, s3, s4] ⟨#[32]⟩ _ ?_ (by simp) (by simp) (by simp) hl).mono ?_
  · intro j y hj
    rw [Nat.zero_add]
    refine x.cell (i := j) ?_
    have : [Value.string s1, .string s2, .string s3, .string s4] = [s1, s2, s3, s4].map Value.string := rfl
    rw [this, List.getElem?_map, hj]
    rfl
  · rintro e w' ⟨rfl, h⟩
    exact ⟨by rw [join4_eq], B.trans (h.mono (by simp))⟩
set_option maxRecDepth 100000 in
set_option maxHeartbeats 4000000 in
theorem text1_c {w : World} (ht : Tab10 w) (a b s : Int) (ho : msgOkB ⟨1, a, b, s⟩ = true) : Calls Tryd.prog 15 #[.agg #[.int .i64 1, .int .i64 a, .int .i64 b, .int .i64 s]] w fun e w' => e = .returned (.string (msgText ⟨1, a, b, s⟩)) ∧ Below w.heap.size w w' := by
  have hp := msgOk_parts ho
  obtain ⟨q1, q2, -, -, q3⟩ := hp
  simp only at q1 q2 q3
  obtain ⟨s1, hs1⟩ : ∃ z, msgName 1 = z := ⟨_, rfl⟩
  have zs1 : s1.size ≤ 16 := by rw [← hs1]; exact Nat.le_trans (msgName_size _) (by omega)
  have Hs1 := Lib.hid hs1
  obtain ⟨s2, hs2⟩ : ∃ z, numText a = z := ⟨_, rfl⟩
  have zs2 : s2.size ≤ 16 := by rw [← hs2]; exact numText_size _
  have Hs2 := Lib.hid hs2
  obtain ⟨s3, hs3⟩ : ∃ z, numText b = z := ⟨_, rfl⟩
  have zs3 : s3.size ≤ 16 := by rw [← hs3]; exact numText_size _
  have Hs3 := Lib.hid hs3
  obtain ⟨s4, hs4⟩ : ∃ z, numText s = z := ⟨_, rfl⟩
  have zs4 : s4.size ≤ 16 := by rw [← hs4]; exact numText_size _
  have Hs4 := Lib.hid hs4
  obtain ⟨R, hR⟩ : ∃ z, s1 ++ ⟨#[32]⟩ ++ s2 ++ ⟨#[32]⟩ ++ s3 ++ ⟨#[32]⟩ ++ s4 = z := ⟨_, rfl⟩
  have HP : Hid (msgText ⟨1, a, b, s⟩ = R) := by show _ = _; unfold msgText; rw [if_pos ho]; simp only []; rw [hs1, hs2, hs3, hs4, hR]
  have HR := Lib.hid hR
  have HO := Lib.hid ho
  clear ho hs1 hs2 hs3 hs4 hR
  obtain ⟨wa, hwa, B0, sa, x_a⟩ := frame1 w 24 [.int .i64 1, .int .i64 a, .int .i64 b, .int .i64 s]
  have sa_1 := Nat.le_of_eq sa
  have sa_2 := Nat.le_of_eq sa.symm
  clear sa
  have c_a_0_wa := x_a.cell (i := 0) rfl
  have c_a_1_wa := x_a.cell (i := 1) rfl
  have c_a_2_wa := x_a.cell (i := 2) rfl
  have c_a_3_wa := x_a.cell (i := 3) rfl
  go_enter Tryd.func15, Tryd.ntmps15
  go_wp2_with fail
  refine (valid1_c _ _ _ _).mono ?_
  rintro e w1 ⟨rfl, h_w1⟩
  clear c_a_0_wa c_a_1_wa c_a_2_wa c_a_3_wa
  replace x_a := x_a.from_ h_w1
  have B_w1 := B0.trans (h_w1.mono B0.size)
  have s_w1 := h_w1.size
  rw [if_pos HO.out]
  have c_a_0_w1 := x_a.cell (i := 0) rfl
  have c_a_1_w1 := x_a.cell (i := 1) rfl
  have c_a_2_w1 := x_a.cell (i := 2) rfl
  have c_a_3_w1 := x_a.cell (i := 3) rfl
  go_wp2_with fail
  go_region_held3 (fun w' => w'.cell? ⟨w.heap.size, 0, none⟩ = some (.int .i64 1) ∧ w'.cell? ⟨w.heap.size, 1, none⟩ = some (.int .i64 a) ∧ w'.cell? ⟨w.heap.size, 2, none⟩ = some (.int .i64 b) ∧ w'.cell? ⟨w.heap.size, 3, none⟩ = some (.int .i64 s))
    (first | exact ⟨c_a_0_w1, c_a_1_w1, c_a_2_w1, c_a_3_w1⟩ | exact ⟨qz1_a_0, qz1_a_1, qz1_a_2, qz1_a_3⟩ | exact ⟨qz2_a_0, qz2_a_1, qz2_a_2, qz2_a_3⟩ | exact ⟨qz3_a_0, qz3_a_1, qz3_a_2, qz3_a_3⟩ | exact ⟨qz4_a_0, qz4_a_1, qz4_a_2, qz4_a_3⟩ | exact ⟨qz5_a_0, qz5_a_1, qz5_a_2, qz5_a_3⟩ | exact ⟨((x_a.from_ hb_z4).alloc _).cell (i := 0) rfl, ((x_a.from_ hb_z4).alloc _).cell (i := 1) rfl, ((x_a.from_ hb_z4).alloc _).cell (i := 2) rfl, ((x_a.from_ hb_z4).alloc _).cell (i := 3) rfl⟩ | go_keep)
    (first | ((go_at_call 112); (refine (name1_c _ _ _ _ _).mono ?_); rintro e w_z1 ⟨rfl, hd_z1⟩; have hb_z1 : Below w1.heap.size w1 w_z1 := (Below.refl w1.heap.size w1).drew.trans hd_z1; have sd_z1 := hd_z1.size; replace sd_z1 : w1.heap.size ≤ w_z1.heap.size := sd_z1; have qz1_a_0 := (x_a.from_ hb_z1).cell (i := 0) rfl; have qz1_a_1 := (x_a.from_ hb_z1).cell (i := 1) rfl; have qz1_a_2 := (x_a.from_ hb_z1).cell (i := 2) rfl; have qz1_a_3 := (x_a.from_ hb_z1).cell (i := 3) rfl; rw [Hs1.out])
           | ((go_at_call_of 30 (Value.int .i64 a)); (refine (iNumText_any a _ (ht.below (B_w1.trans (hb_z1.mono B_w1.size))) (by omega) (by omega)).mono ?_); rintro e w_z2 ⟨rfl, hd_z2⟩; have hb_z2 : Below w1.heap.size w1 w_z2 := hb_z1.trans (hd_z2.mono hb_z1.size); have sd_z2 := hd_z2.size; have qz2_a_0 := (x_a.from_ hb_z2).cell (i := 0) rfl; have qz2_a_1 := (x_a.from_ hb_z2).cell (i := 1) rfl; have qz2_a_2 := (x_a.from_ hb_z2).cell (i := 2) rfl; have qz2_a_3 := (x_a.from_ hb_z2).cell (i := 3) rfl; rw [Hs2.out])
           | ((go_at_call_of 30 (Value.int .i64 b)); (refine (iNumText_any b _ (ht.below (B_w1.trans (hb_z2.mono B_w1.size))) (by omega) (by omega)).mono ?_); rintro e w_z3 ⟨rfl, hd_z3⟩; have hb_z3 : Below w1.heap.size w1 w_z3 := hb_z2.trans (hd_z3.mono hb_z2.size); have sd_z3 := hd_z3.size; have qz3_a_0 := (x_a.from_ hb_z3).cell (i := 0) rfl; have qz3_a_1 := (x_a.from_ hb_z3).cell (i := 1) rfl; have qz3_a_2 := (x_a.from_ hb_z3).cell (i := 2) rfl; have qz3_a_3 := (x_a.from_ hb_z3).cell (i := 3) rfl; rw [Hs3.out])
           | ((go_at_call_of 30 (Value.int .i64 s)); (refine (iNumText_any s _ (ht.below (B_w1.trans (hb_z3.mono B_w1.size))) (by omega) (by omega)).mono ?_); rintro e w_z4 ⟨rfl, hd_z4⟩; have hb_z4 : Below w1.heap.size w1 w_z4 := hb_z3.trans (hd_z4.mono hb_z3.size); have sd_z4 := hd_z4.size; have qz4_a_0 := (x_a.from_ hb_z4).cell (i := 0) rfl; have qz4_a_1 := (x_a.from_ hb_z4).cell (i := 1) rfl; have qz4_a_2 := (x_a.from_ hb_z4).cell (i := 2) rfl; have qz4_a_3 := (x_a.from_ hb_z4).cell (i := 3) rfl; rw [Hs4.out])
           | ((go_at_call 31); (refine (join4_c s1 s2 s3 s4 w_z4 9 zs1 zs2 zs3 zs4).mono ?_); rintro e w_z5 ⟨rfl, hd_z5⟩; have hb_z5 : Below w1.heap.size w1 w_z5 := hb_z4.trans (hd_z5.mono hb_z4.size); have sd_z5 := hd_z5.size; have qz5_a_0 := (x_a.from_ hb_z5).cell (i := 0) rfl; have qz5_a_1 := (x_a.from_ hb_z5).cell (i := 1) rfl; have qz5_a_2 := (x_a.from_ hb_z5).cell (i := 2) rfl; have qz5_a_3 := (x_a.from_ hb_z5).cell (i := 3) rfl; rw [HR.out])
           | fail)
  clear c_a_0_w1 c_a_1_w1 c_a_2_w1 c_a_3_w1
  have dz_w1 : w1.drew.heap.size = w1.heap.size := rfl
  replace x_a := x_a.from_ hb_z5
  have B_z5 := B_w1.trans (hb_z5.mono B_w1.size)
  have sz_z5 := hb_z5.size
  go_wp2
  go_ret
  exact ⟨ret_eq (by rw [HP.out]; rfl), B_z5⟩
set_option maxRecDepth 100000 in
set_option maxHeartbeats 4000000 in
theorem text2_c {w : World} (ht : Tab10 w) (a b s : Int) (ho : msgOkB ⟨2, a, b, s⟩ = true) : Calls Tryd.prog 15 #[.agg #[.int .i64 2, .int .i64 a, .int .i64 b, .int .i64 s]] w fun e w' => e = .returned (.string (msgText ⟨2, a, b, s⟩)) ∧ Below w.heap.size w w' := by
  have hp := msgOk_parts ho
  obtain ⟨q1, q2, -, -, q3⟩ := hp
  simp only at q1 q2 q3
  obtain ⟨s1, hs1⟩ : ∃ z, msgName 2 = z := ⟨_, rfl⟩
  have zs1 : s1.size ≤ 16 := by rw [← hs1]; exact Nat.le_trans (msgName_size _) (by omega)
  have Hs1 := Lib.hid hs1
  obtain ⟨s2, hs2⟩ : ∃ z, numText a = z := ⟨_, rfl⟩
  have zs2 : s2.size ≤ 16 := by rw [← hs2]; exact numText_size _
  have Hs2 := Lib.hid hs2
  obtain ⟨s3, hs3⟩ : ∃ z, numText b = z := ⟨_, rfl⟩
  have zs3 : s3.size ≤ 16 := by rw [← hs3]; exact numText_size _
  have Hs3 := Lib.hid hs3
  obtain ⟨s4, hs4⟩ : ∃ z, numText s = z := ⟨_, rfl⟩
  have zs4 : s4.size ≤ 16 := by rw [← hs4]; exact numText_size _
  have Hs4 := Lib.hid hs4
  obtain ⟨R, hR⟩ : ∃ z, s1 ++ ⟨#[32]⟩ ++ s2 ++ ⟨#[32]⟩ ++ s3 ++ ⟨#[32]⟩ ++ s4 = z := ⟨_, rfl⟩
  have HP : Hid (msgText ⟨2, a, b, s⟩ = R) := by show _ = _; unfold msgText; rw [if_pos ho]; simp only []; rw [hs1, hs2, hs3, hs4, hR]
  have HR := Lib.hid hR
  have HO := Lib.hid ho
  clear ho hs1 hs2 hs3 hs4 hR
  obtain ⟨wa, hwa, B0, sa, x_a⟩ := frame1 w 24 [.int .i64 2, .int .i64 a, .int .i64 b, .int .i64 s]
  have sa_1 := Nat.le_of_eq sa
  have sa_2 := Nat.le_of_eq sa.symm
  clear sa
  have c_a_0_wa := x_a.cell (i := 0) rfl
  have c_a_1_wa := x_a.cell (i := 1) rfl
  have c_a_2_wa := x_a.cell (i := 2) rfl
  have c_a_3_wa := x_a.cell (i := 3) rfl
  go_enter Tryd.func15, Tryd.ntmps15
  go_wp2_with fail
  refine (valid2_c _ _ _ _).mono ?_
  rintro e w1 ⟨rfl, h_w1⟩
  clear c_a_0_wa c_a_1_wa c_a_2_wa c_a_3_wa
  replace x_a := x_a.from_ h_w1
  have B_w1 := B0.trans (h_w1.mono B0.size)
  have s_w1 := h_w1.size
  rw [if_pos HO.out]
  have c_a_0_w1 := x_a.cell (i := 0) rfl
  have c_a_1_w1 := x_a.cell (i := 1) rfl
  have c_a_2_w1 := x_a.cell (i := 2) rfl
  have c_a_3_w1 := x_a.cell (i := 3) rfl
  go_wp2_with fail
  go_region_held3 (fun w' => w'.cell? ⟨w.heap.size, 0, none⟩ = some (.int .i64 2) ∧ w'.cell? ⟨w.heap.size, 1, none⟩ = some (.int .i64 a) ∧ w'.cell? ⟨w.heap.size, 2, none⟩ = some (.int .i64 b) ∧ w'.cell? ⟨w.heap.size, 3, none⟩ = some (.int .i64 s))
    (first | exact ⟨c_a_0_w1, c_a_1_w1, c_a_2_w1, c_a_3_w1⟩ | exact ⟨qz1_a_0, qz1_a_1, qz1_a_2, qz1_a_3⟩ | exact ⟨qz2_a_0, qz2_a_1, qz2_a_2, qz2_a_3⟩ | exact ⟨qz3_a_0, qz3_a_1, qz3_a_2, qz3_a_3⟩ | exact ⟨qz4_a_0, qz4_a_1, qz4_a_2, qz4_a_3⟩ | exact ⟨qz5_a_0, qz5_a_1, qz5_a_2, qz5_a_3⟩ | exact ⟨((x_a.from_ hb_z4).alloc _).cell (i := 0) rfl, ((x_a.from_ hb_z4).alloc _).cell (i := 1) rfl, ((x_a.from_ hb_z4).alloc _).cell (i := 2) rfl, ((x_a.from_ hb_z4).alloc _).cell (i := 3) rfl⟩ | go_keep)
    (first | ((go_at_call 114); (refine (name2_c _ _ _ _ _).mono ?_); rintro e w_z1 ⟨rfl, hd_z1⟩; have hb_z1 : Below w1.heap.size w1 w_z1 := (Below.refl w1.heap.size w1).drew.trans hd_z1; have sd_z1 := hd_z1.size; replace sd_z1 : w1.heap.size ≤ w_z1.heap.size := sd_z1; have qz1_a_0 := (x_a.from_ hb_z1).cell (i := 0) rfl; have qz1_a_1 := (x_a.from_ hb_z1).cell (i := 1) rfl; have qz1_a_2 := (x_a.from_ hb_z1).cell (i := 2) rfl; have qz1_a_3 := (x_a.from_ hb_z1).cell (i := 3) rfl; rw [Hs1.out])
           | ((go_at_call_of 30 (Value.int .i64 a)); (refine (iNumText_any a _ (ht.below (B_w1.trans (hb_z1.mono B_w1.size))) (by omega) (by omega)).mono ?_); rintro e w_z2 ⟨rfl, hd_z2⟩; have hb_z2 : Below w1.heap.size w1 w_z2 := hb_z1.trans (hd_z2.mono hb_z1.size); have sd_z2 := hd_z2.size; have qz2_a_0 := (x_a.from_ hb_z2).cell (i := 0) rfl; have qz2_a_1 := (x_a.from_ hb_z2).cell (i := 1) rfl; have qz2_a_2 := (x_a.from_ hb_z2).cell (i := 2) rfl; have qz2_a_3 := (x_a.from_ hb_z2).cell (i := 3) rfl; rw [Hs2.out])
           | ((go_at_call_of 30 (Value.int .i64 b)); (refine (iNumText_any b _ (ht.below (B_w1.trans (hb_z2.mono B_w1.size))) (by omega) (by omega)).mono ?_); rintro e w_z3 ⟨rfl, hd_z3⟩; have hb_z3 : Below w1.heap.size w1 w_z3 := hb_z2.trans (hd_z3.mono hb_z2.size); have sd_z3 := hd_z3.size; have qz3_a_0 := (x_a.from_ hb_z3).cell (i := 0) rfl; have qz3_a_1 := (x_a.from_ hb_z3).cell (i := 1) rfl; have qz3_a_2 := (x_a.from_ hb_z3).cell (i := 2) rfl; have qz3_a_3 := (x_a.from_ hb_z3).cell (i := 3) rfl; rw [Hs3.out])
           | ((go_at_call_of 30 (Value.int .i64 s)); (refine (iNumText_any s _ (ht.below (B_w1.trans (hb_z3.mono B_w1.size))) (by omega) (by omega)).mono ?_); rintro e w_z4 ⟨rfl, hd_z4⟩; have hb_z4 : Below w1.heap.size w1 w_z4 := hb_z3.trans (hd_z4.mono hb_z3.size); have sd_z4 := hd_z4.size; have qz4_a_0 := (x_a.from_ hb_z4).cell (i := 0) rfl; have qz4_a_1 := (x_a.from_ hb_z4).cell (i := 1) rfl; have qz4_a_2 := (x_a.from_ hb_z4).cell (i := 2) rfl; have qz4_a_3 := (x_a.from_ hb_z4).cell (i := 3) rfl; rw [Hs4.out])
           | ((go_at_call 31); (refine (join4_c s1 s2 s3 s4 w_z4 9 zs1 zs2 zs3 zs4).mono ?_); rintro e w_z5 ⟨rfl, hd_z5⟩; have hb_z5 : Below w1.heap.size w1 w_z5 := hb_z4.trans (hd_z5.mono hb_z4.size); have sd_z5 := hd_z5.size; have qz5_a_0 := (x_a.from_ hb_z5).cell (i := 0) rfl; have qz5_a_1 := (x_a.from_ hb_z5).cell (i := 1) rfl; have qz5_a_2 := (x_a.from_ hb_z5).cell (i := 2) rfl; have qz5_a_3 := (x_a.from_ hb_z5).cell (i := 3) rfl; rw [HR.out])
           | fail)
  clear c_a_0_w1 c_a_1_w1 c_a_2_w1 c_a_3_w1
  have dz_w1 : w1.drew.heap.size = w1.heap.size := rfl
  replace x_a := x_a.from_ hb_z5
  have B_z5 := B_w1.trans (hb_z5.mono B_w1.size)
  have sz_z5 := hb_z5.size
  go_wp2
  go_ret
  exact ⟨ret_eq (by rw [HP.out]; rfl), B_z5⟩
set_option maxRecDepth 100000 in
set_option maxHeartbeats 4000000 in
theorem text3_c {w : World} (ht : Tab10 w) (a b s : Int) (ho : msgOkB ⟨3, a, b, s⟩ = true) : Calls Tryd.prog 15 #[.agg #[.int .i64 3, .int .i64 a, .int .i64 b, .int .i64 s]] w fun e w' => e = .returned (.string (msgText ⟨3, a, b, s⟩)) ∧ Below w.heap.size w w' := by
  have hp := msgOk_parts ho
  obtain ⟨q1, q2, -, -, q3⟩ := hp
  simp only at q1 q2 q3
  obtain ⟨s1, hs1⟩ : ∃ z, msgName 3 = z := ⟨_, rfl⟩
  have zs1 : s1.size ≤ 16 := by rw [← hs1]; exact Nat.le_trans (msgName_size _) (by omega)
  have Hs1 := Lib.hid hs1
  obtain ⟨s2, hs2⟩ : ∃ z, numText a = z := ⟨_, rfl⟩
  have zs2 : s2.size ≤ 16 := by rw [← hs2]; exact numText_size _
  have Hs2 := Lib.hid hs2
  obtain ⟨s3, hs3⟩ : ∃ z, numText b = z := ⟨_, rfl⟩
  have zs3 : s3.size ≤ 16 := by rw [← hs3]; exact numText_size _
  have Hs3 := Lib.hid hs3
  obtain ⟨s4, hs4⟩ : ∃ z, numText s = z := ⟨_, rfl⟩
  have zs4 : s4.size ≤ 16 := by rw [← hs4]; exact numText_size _
  have Hs4 := Lib.hid hs4
  obtain ⟨R, hR⟩ : ∃ z, s1 ++ ⟨#[32]⟩ ++ s2 ++ ⟨#[32]⟩ ++ s3 ++ ⟨#[32]⟩ ++ s4 = z := ⟨_, rfl⟩
  have HP : Hid (msgText ⟨3, a, b, s⟩ = R) := by show _ = _; unfold msgText; rw [if_pos ho]; simp only []; rw [hs1, hs2, hs3, hs4, hR]
  have HR := Lib.hid hR
  have HO := Lib.hid ho
  clear ho hs1 hs2 hs3 hs4 hR
  obtain ⟨wa, hwa, B0, sa, x_a⟩ := frame1 w 24 [.int .i64 3, .int .i64 a, .int .i64 b, .int .i64 s]
  have sa_1 := Nat.le_of_eq sa
  have sa_2 := Nat.le_of_eq sa.symm
  clear sa
  have c_a_0_wa := x_a.cell (i := 0) rfl
  have c_a_1_wa := x_a.cell (i := 1) rfl
  have c_a_2_wa := x_a.cell (i := 2) rfl
  have c_a_3_wa := x_a.cell (i := 3) rfl
  go_enter Tryd.func15, Tryd.ntmps15
  go_wp2_with fail
  refine (valid3_c _ _ _ _).mono ?_
  rintro e w1 ⟨rfl, h_w1⟩
  clear c_a_0_wa c_a_1_wa c_a_2_wa c_a_3_wa
  replace x_a := x_a.from_ h_w1
  have B_w1 := B0.trans (h_w1.mono B0.size)
  have s_w1 := h_w1.size
  rw [if_pos HO.out]
  have c_a_0_w1 := x_a.cell (i := 0) rfl
  have c_a_1_w1 := x_a.cell (i := 1) rfl
  have c_a_2_w1 := x_a.cell (i := 2) rfl
  have c_a_3_w1 := x_a.cell (i := 3) rfl
  go_wp2_with fail
  go_region_held3 (fun w' => w'.cell? ⟨w.heap.size, 0, none⟩ = some (.int .i64 3) ∧ w'.cell? ⟨w.heap.size, 1, none⟩ = some (.int .i64 a) ∧ w'.cell? ⟨w.heap.size, 2, none⟩ = some (.int .i64 b) ∧ w'.cell? ⟨w.heap.size, 3, none⟩ = some (.int .i64 s))
    (first | exact ⟨c_a_0_w1, c_a_1_w1, c_a_2_w1, c_a_3_w1⟩ | exact ⟨qz1_a_0, qz1_a_1, qz1_a_2, qz1_a_3⟩ | exact ⟨qz2_a_0, qz2_a_1, qz2_a_2, qz2_a_3⟩ | exact ⟨qz3_a_0, qz3_a_1, qz3_a_2, qz3_a_3⟩ | exact ⟨qz4_a_0, qz4_a_1, qz4_a_2, qz4_a_3⟩ | exact ⟨qz5_a_0, qz5_a_1, qz5_a_2, qz5_a_3⟩ | exact ⟨((x_a.from_ hb_z4).alloc _).cell (i := 0) rfl, ((x_a.from_ hb_z4).alloc _).cell (i := 1) rfl, ((x_a.from_ hb_z4).alloc _).cell (i := 2) rfl, ((x_a.from_ hb_z4).alloc _).cell (i := 3) rfl⟩ | go_keep)
    (first | ((go_at_call 116); (refine (name3_c _ _ _ _ _).mono ?_); rintro e w_z1 ⟨rfl, hd_z1⟩; have hb_z1 : Below w1.heap.size w1 w_z1 := (Below.refl w1.heap.size w1).drew.trans hd_z1; have sd_z1 := hd_z1.size; replace sd_z1 : w1.heap.size ≤ w_z1.heap.size := sd_z1; have qz1_a_0 := (x_a.from_ hb_z1).cell (i := 0) rfl; have qz1_a_1 := (x_a.from_ hb_z1).cell (i := 1) rfl; have qz1_a_2 := (x_a.from_ hb_z1).cell (i := 2) rfl; have qz1_a_3 := (x_a.from_ hb_z1).cell (i := 3) rfl; rw [Hs1.out])
           | ((go_at_call_of 30 (Value.int .i64 a)); (refine (iNumText_any a _ (ht.below (B_w1.trans (hb_z1.mono B_w1.size))) (by omega) (by omega)).mono ?_); rintro e w_z2 ⟨rfl, hd_z2⟩; have hb_z2 : Below w1.heap.size w1 w_z2 := hb_z1.trans (hd_z2.mono hb_z1.size); have sd_z2 := hd_z2.size; have qz2_a_0 := (x_a.from_ hb_z2).cell (i := 0) rfl; have qz2_a_1 := (x_a.from_ hb_z2).cell (i := 1) rfl; have qz2_a_2 := (x_a.from_ hb_z2).cell (i := 2) rfl; have qz2_a_3 := (x_a.from_ hb_z2).cell (i := 3) rfl; rw [Hs2.out])
           | ((go_at_call_of 30 (Value.int .i64 b)); (refine (iNumText_any b _ (ht.below (B_w1.trans (hb_z2.mono B_w1.size))) (by omega) (by omega)).mono ?_); rintro e w_z3 ⟨rfl, hd_z3⟩; have hb_z3 : Below w1.heap.size w1 w_z3 := hb_z2.trans (hd_z3.mono hb_z2.size); have sd_z3 := hd_z3.size; have qz3_a_0 := (x_a.from_ hb_z3).cell (i := 0) rfl; have qz3_a_1 := (x_a.from_ hb_z3).cell (i := 1) rfl; have qz3_a_2 := (x_a.from_ hb_z3).cell (i := 2) rfl; have qz3_a_3 := (x_a.from_ hb_z3).cell (i := 3) rfl; rw [Hs3.out])
           | ((go_at_call_of 30 (Value.int .i64 s)); (refine (iNumText_any s _ (ht.below (B_w1.trans (hb_z3.mono B_w1.size))) (by omega) (by omega)).mono ?_); rintro e w_z4 ⟨rfl, hd_z4⟩; have hb_z4 : Below w1.heap.size w1 w_z4 := hb_z3.trans (hd_z4.mono hb_z3.size); have sd_z4 := hd_z4.size; have qz4_a_0 := (x_a.from_ hb_z4).cell (i := 0) rfl; have qz4_a_1 := (x_a.from_ hb_z4).cell (i := 1) rfl; have qz4_a_2 := (x_a.from_ hb_z4).cell (i := 2) rfl; have qz4_a_3 := (x_a.from_ hb_z4).cell (i := 3) rfl; rw [Hs4.out])
           | ((go_at_call 31); (refine (join4_c s1 s2 s3 s4 w_z4 9 zs1 zs2 zs3 zs4).mono ?_); rintro e w_z5 ⟨rfl, hd_z5⟩; have hb_z5 : Below w1.heap.size w1 w_z5 := hb_z4.trans (hd_z5.mono hb_z4.size); have sd_z5 := hd_z5.size; have qz5_a_0 := (x_a.from_ hb_z5).cell (i := 0) rfl; have qz5_a_1 := (x_a.from_ hb_z5).cell (i := 1) rfl; have qz5_a_2 := (x_a.from_ hb_z5).cell (i := 2) rfl; have qz5_a_3 := (x_a.from_ hb_z5).cell (i := 3) rfl; rw [HR.out])
           | fail)
  clear c_a_0_w1 c_a_1_w1 c_a_2_w1 c_a_3_w1
  have dz_w1 : w1.drew.heap.size = w1.heap.size := rfl
  replace x_a := x_a.from_ hb_z5
  have B_z5 := B_w1.trans (hb_z5.mono B_w1.size)
  have sz_z5 := hb_z5.size
  go_wp2
  go_ret
  exact ⟨ret_eq (by rw [HP.out]; rfl), B_z5⟩
set_option maxRecDepth 100000 in
set_option maxHeartbeats 4000000 in
theorem text4_c {w : World} (ht : Tab10 w) (a b s : Int) (ho : msgOkB ⟨4, a, b, s⟩ = true) : Calls Tryd.prog 15 #[.agg #[.int .i64 4, .int .i64 a, .int .i64 b, .int .i64 s]] w fun e w' => e = .returned (.string (msgText ⟨4, a, b, s⟩)) ∧ Below w.heap.size w w' := by
  have hp := msgOk_parts ho
  obtain ⟨q1, q2, -, -, q3⟩ := hp
  simp only at q1 q2 q3
  obtain ⟨s1, hs1⟩ : ∃ z, msgName 4 = z := ⟨_, rfl⟩
  have zs1 : s1.size ≤ 16 := by rw [← hs1]; exact Nat.le_trans (msgName_size _) (by omega)
  have Hs1 := Lib.hid hs1
  obtain ⟨s2, hs2⟩ : ∃ z, numText a = z := ⟨_, rfl⟩
  have zs2 : s2.size ≤ 16 := by rw [← hs2]; exact numText_size _
  have Hs2 := Lib.hid hs2
  obtain ⟨s3, hs3⟩ : ∃ z, numText b = z := ⟨_, rfl⟩
  have zs3 : s3.size ≤ 16 := by rw [← hs3]; exact numText_size _
  have Hs3 := Lib.hid hs3
  obtain ⟨s4, hs4⟩ : ∃ z, numText s = z := ⟨_, rfl⟩
  have zs4 : s4.size ≤ 16 := by rw [← hs4]; exact numText_size _
  have Hs4 := Lib.hid hs4
  obtain ⟨R, hR⟩ : ∃ z, s1 ++ ⟨#[32]⟩ ++ s2 ++ ⟨#[32]⟩ ++ s3 ++ ⟨#[32]⟩ ++ s4 = z := ⟨_, rfl⟩
  have HP : Hid (msgText ⟨4, a, b, s⟩ = R) := by show _ = _; unfold msgText; rw [if_pos ho]; simp only []; rw [hs1, hs2, hs3, hs4, hR]
  have HR := Lib.hid hR
  have HO := Lib.hid ho
  clear ho hs1 hs2 hs3 hs4 hR
  obtain ⟨wa, hwa, B0, sa, x_a⟩ := frame1 w 24 [.int .i64 4, .int .i64 a, .int .i64 b, .int .i64 s]
  have sa_1 := Nat.le_of_eq sa
  have sa_2 := Nat.le_of_eq sa.symm
  clear sa
  have c_a_0_wa := x_a.cell (i := 0) rfl
  have c_a_1_wa := x_a.cell (i := 1) rfl
  have c_a_2_wa := x_a.cell (i := 2) rfl
  have c_a_3_wa := x_a.cell (i := 3) rfl
  go_enter Tryd.func15, Tryd.ntmps15
  go_wp2_with fail
  refine (valid4_c _ _ _ _).mono ?_
  rintro e w1 ⟨rfl, h_w1⟩
  clear c_a_0_wa c_a_1_wa c_a_2_wa c_a_3_wa
  replace x_a := x_a.from_ h_w1
  have B_w1 := B0.trans (h_w1.mono B0.size)
  have s_w1 := h_w1.size
  rw [if_pos HO.out]
  have c_a_0_w1 := x_a.cell (i := 0) rfl
  have c_a_1_w1 := x_a.cell (i := 1) rfl
  have c_a_2_w1 := x_a.cell (i := 2) rfl
  have c_a_3_w1 := x_a.cell (i := 3) rfl
  go_wp2_with fail
  go_region_held3 (fun w' => w'.cell? ⟨w.heap.size, 0, none⟩ = some (.int .i64 4) ∧ w'.cell? ⟨w.heap.size, 1, none⟩ = some (.int .i64 a) ∧ w'.cell? ⟨w.heap.size, 2, none⟩ = some (.int .i64 b) ∧ w'.cell? ⟨w.heap.size, 3, none⟩ = some (.int .i64 s))
    (first | exact ⟨c_a_0_w1, c_a_1_w1, c_a_2_w1, c_a_3_w1⟩ | exact ⟨qz1_a_0, qz1_a_1, qz1_a_2, qz1_a_3⟩ | exact ⟨qz2_a_0, qz2_a_1, qz2_a_2, qz2_a_3⟩ | exact ⟨qz3_a_0, qz3_a_1, qz3_a_2, qz3_a_3⟩ | exact ⟨qz4_a_0, qz4_a_1, qz4_a_2, qz4_a_3⟩ | exact ⟨qz5_a_0, qz5_a_1, qz5_a_2, qz5_a_3⟩ | exact ⟨((x_a.from_ hb_z4).alloc _).cell (i := 0) rfl, ((x_a.from_ hb_z4).alloc _).cell (i := 1) rfl, ((x_a.from_ hb_z4).alloc _).cell (i := 2) rfl, ((x_a.from_ hb_z4).alloc _).cell (i := 3) rfl⟩ | go_keep)
    (first | ((go_at_call 118); (refine (name4_c _ _ _ _ _).mono ?_); rintro e w_z1 ⟨rfl, hd_z1⟩; have hb_z1 : Below w1.heap.size w1 w_z1 := (Below.refl w1.heap.size w1).drew.trans hd_z1; have sd_z1 := hd_z1.size; replace sd_z1 : w1.heap.size ≤ w_z1.heap.size := sd_z1; have qz1_a_0 := (x_a.from_ hb_z1).cell (i := 0) rfl; have qz1_a_1 := (x_a.from_ hb_z1).cell (i := 1) rfl; have qz1_a_2 := (x_a.from_ hb_z1).cell (i := 2) rfl; have qz1_a_3 := (x_a.from_ hb_z1).cell (i := 3) rfl; rw [Hs1.out])
           | ((go_at_call_of 30 (Value.int .i64 a)); (refine (iNumText_any a _ (ht.below (B_w1.trans (hb_z1.mono B_w1.size))) (by omega) (by omega)).mono ?_); rintro e w_z2 ⟨rfl, hd_z2⟩; have hb_z2 : Below w1.heap.size w1 w_z2 := hb_z1.trans (hd_z2.mono hb_z1.size); have sd_z2 := hd_z2.size; have qz2_a_0 := (x_a.from_ hb_z2).cell (i := 0) rfl; have qz2_a_1 := (x_a.from_ hb_z2).cell (i := 1) rfl; have qz2_a_2 := (x_a.from_ hb_z2).cell (i := 2) rfl; have qz2_a_3 := (x_a.from_ hb_z2).cell (i := 3) rfl; rw [Hs2.out])
           | ((go_at_call_of 30 (Value.int .i64 b)); (refine (iNumText_any b _ (ht.below (B_w1.trans (hb_z2.mono B_w1.size))) (by omega) (by omega)).mono ?_); rintro e w_z3 ⟨rfl, hd_z3⟩; have hb_z3 : Below w1.heap.size w1 w_z3 := hb_z2.trans (hd_z3.mono hb_z2.size); have sd_z3 := hd_z3.size; have qz3_a_0 := (x_a.from_ hb_z3).cell (i := 0) rfl; have qz3_a_1 := (x_a.from_ hb_z3).cell (i := 1) rfl; have qz3_a_2 := (x_a.from_ hb_z3).cell (i := 2) rfl; have qz3_a_3 := (x_a.from_ hb_z3).cell (i := 3) rfl; rw [Hs3.out])
           | ((go_at_call_of 30 (Value.int .i64 s)); (refine (iNumText_any s _ (ht.below (B_w1.trans (hb_z3.mono B_w1.size))) (by omega) (by omega)).mono ?_); rintro e w_z4 ⟨rfl, hd_z4⟩; have hb_z4 : Below w1.heap.size w1 w_z4 := hb_z3.trans (hd_z4.mono hb_z3.size); have sd_z4 := hd_z4.size; have qz4_a_0 := (x_a.from_ hb_z4).cell (i := 0) rfl; have qz4_a_1 := (x_a.from_ hb_z4).cell (i := 1) rfl; have qz4_a_2 := (x_a.from_ hb_z4).cell (i := 2) rfl; have qz4_a_3 := (x_a.from_ hb_z4).cell (i := 3) rfl; rw [Hs4.out])
           | ((go_at_call 31); (refine (join4_c s1 s2 s3 s4 w_z4 9 zs1 zs2 zs3 zs4).mono ?_); rintro e w_z5 ⟨rfl, hd_z5⟩; have hb_z5 : Below w1.heap.size w1 w_z5 := hb_z4.trans (hd_z5.mono hb_z4.size); have sd_z5 := hd_z5.size; have qz5_a_0 := (x_a.from_ hb_z5).cell (i := 0) rfl; have qz5_a_1 := (x_a.from_ hb_z5).cell (i := 1) rfl; have qz5_a_2 := (x_a.from_ hb_z5).cell (i := 2) rfl; have qz5_a_3 := (x_a.from_ hb_z5).cell (i := 3) rfl; rw [HR.out])
           | fail)
  clear c_a_0_w1 c_a_1_w1 c_a_2_w1 c_a_3_w1
  have dz_w1 : w1.drew.heap.size = w1.heap.size := rfl
  replace x_a := x_a.from_ hb_z5
  have B_z5 := B_w1.trans (hb_z5.mono B_w1.size)
  have sz_z5 := hb_z5.size
  go_wp2
  go_ret
  exact ⟨ret_eq (by rw [HP.out]; rfl), B_z5⟩
set_option maxRecDepth 100000 in
set_option maxHeartbeats 4000000 in
theorem text5_c {w : World} (ht : Tab10 w) (a b s : Int) (ho : msgOkB ⟨5, a, b, s⟩ = true) : Calls Tryd.prog 15 #[.agg #[.int .i64 5, .int .i64 a, .int .i64 b, .int .i64 s]] w fun e w' => e = .returned (.string (msgText ⟨5, a, b, s⟩)) ∧ Below w.heap.size w w' := by
  have hp := msgOk_parts ho
  obtain ⟨q1, q2, -, -, q3⟩ := hp
  simp only at q1 q2 q3
  obtain ⟨s1, hs1⟩ : ∃ z, msgName 5 = z := ⟨_, rfl⟩
  have zs1 : s1.size ≤ 16 := by rw [← hs1]; exact Nat.le_trans (msgName_size _) (by omega)
  have Hs1 := Lib.hid hs1
  obtain ⟨s2, hs2⟩ : ∃ z, numText a = z := ⟨_, rfl⟩
  have zs2 : s2.size ≤ 16 := by rw [← hs2]; exact numText_size _
  have Hs2 := Lib.hid hs2
  obtain ⟨s3, hs3⟩ : ∃ z, numText b = z := ⟨_, rfl⟩
  have zs3 : s3.size ≤ 16 := by rw [← hs3]; exact numText_size _
  have Hs3 := Lib.hid hs3
  obtain ⟨s4, hs4⟩ : ∃ z, numText s = z := ⟨_, rfl⟩
  have zs4 : s4.size ≤ 16 := by rw [← hs4]; exact numText_size _
  have Hs4 := Lib.hid hs4
  obtain ⟨R, hR⟩ : ∃ z, s1 ++ ⟨#[32]⟩ ++ s2 ++ ⟨#[32]⟩ ++ s3 ++ ⟨#[32]⟩ ++ s4 = z := ⟨_, rfl⟩
  have HP : Hid (msgText ⟨5, a, b, s⟩ = R) := by show _ = _; unfold msgText; rw [if_pos ho]; simp only []; rw [hs1, hs2, hs3, hs4, hR]
  have HR := Lib.hid hR
  have HO := Lib.hid ho
  clear ho hs1 hs2 hs3 hs4 hR
  obtain ⟨wa, hwa, B0, sa, x_a⟩ := frame1 w 24 [.int .i64 5, .int .i64 a, .int .i64 b, .int .i64 s]
  have sa_1 := Nat.le_of_eq sa
  have sa_2 := Nat.le_of_eq sa.symm
  clear sa
  have c_a_0_wa := x_a.cell (i := 0) rfl
  have c_a_1_wa := x_a.cell (i := 1) rfl
  have c_a_2_wa := x_a.cell (i := 2) rfl
  have c_a_3_wa := x_a.cell (i := 3) rfl
  go_enter Tryd.func15, Tryd.ntmps15
  go_wp2_with fail
  refine (valid5_c _ _ _ _).mono ?_
  rintro e w1 ⟨rfl, h_w1⟩
  clear c_a_0_wa c_a_1_wa c_a_2_wa c_a_3_wa
  replace x_a := x_a.from_ h_w1
  have B_w1 := B0.trans (h_w1.mono B0.size)
  have s_w1 := h_w1.size
  rw [if_pos HO.out]
  have c_a_0_w1 := x_a.cell (i := 0) rfl
  have c_a_1_w1 := x_a.cell (i := 1) rfl
  have c_a_2_w1 := x_a.cell (i := 2) rfl
  have c_a_3_w1 := x_a.cell (i := 3) rfl
  go_wp2_with fail
  go_region_held3 (fun w' => w'.cell? ⟨w.heap.size, 0, none⟩ = some (.int .i64 5) ∧ w'.cell? ⟨w.heap.size, 1, none⟩ = some (.int .i64 a) ∧ w'.cell? ⟨w.heap.size, 2, none⟩ = some (.int .i64 b) ∧ w'.cell? ⟨w.heap.size, 3, none⟩ = some (.int .i64 s))
    (first | exact ⟨c_a_0_w1, c_a_1_w1, c_a_2_w1, c_a_3_w1⟩ | exact ⟨qz1_a_0, qz1_a_1, qz1_a_2, qz1_a_3⟩ | exact ⟨qz2_a_0, qz2_a_1, qz2_a_2, qz2_a_3⟩ | exact ⟨qz3_a_0, qz3_a_1, qz3_a_2, qz3_a_3⟩ | exact ⟨qz4_a_0, qz4_a_1, qz4_a_2, qz4_a_3⟩ | exact ⟨qz5_a_0, qz5_a_1, qz5_a_2, qz5_a_3⟩ | exact ⟨((x_a.from_ hb_z4).alloc _).cell (i := 0) rfl, ((x_a.from_ hb_z4).alloc _).cell (i := 1) rfl, ((x_a.from_ hb_z4).alloc _).cell (i := 2) rfl, ((x_a.from_ hb_z4).alloc _).cell (i := 3) rfl⟩ | go_keep)
    (first | ((go_at_call 120); (refine (name5_c _ _ _ _ _).mono ?_); rintro e w_z1 ⟨rfl, hd_z1⟩; have hb_z1 : Below w1.heap.size w1 w_z1 := (Below.refl w1.heap.size w1).drew.trans hd_z1; have sd_z1 := hd_z1.size; replace sd_z1 : w1.heap.size ≤ w_z1.heap.size := sd_z1; have qz1_a_0 := (x_a.from_ hb_z1).cell (i := 0) rfl; have qz1_a_1 := (x_a.from_ hb_z1).cell (i := 1) rfl; have qz1_a_2 := (x_a.from_ hb_z1).cell (i := 2) rfl; have qz1_a_3 := (x_a.from_ hb_z1).cell (i := 3) rfl; rw [Hs1.out])
           | ((go_at_call_of 30 (Value.int .i64 a)); (refine (iNumText_any a _ (ht.below (B_w1.trans (hb_z1.mono B_w1.size))) (by omega) (by omega)).mono ?_); rintro e w_z2 ⟨rfl, hd_z2⟩; have hb_z2 : Below w1.heap.size w1 w_z2 := hb_z1.trans (hd_z2.mono hb_z1.size); have sd_z2 := hd_z2.size; have qz2_a_0 := (x_a.from_ hb_z2).cell (i := 0) rfl; have qz2_a_1 := (x_a.from_ hb_z2).cell (i := 1) rfl; have qz2_a_2 := (x_a.from_ hb_z2).cell (i := 2) rfl; have qz2_a_3 := (x_a.from_ hb_z2).cell (i := 3) rfl; rw [Hs2.out])
           | ((go_at_call_of 30 (Value.int .i64 b)); (refine (iNumText_any b _ (ht.below (B_w1.trans (hb_z2.mono B_w1.size))) (by omega) (by omega)).mono ?_); rintro e w_z3 ⟨rfl, hd_z3⟩; have hb_z3 : Below w1.heap.size w1 w_z3 := hb_z2.trans (hd_z3.mono hb_z2.size); have sd_z3 := hd_z3.size; have qz3_a_0 := (x_a.from_ hb_z3).cell (i := 0) rfl; have qz3_a_1 := (x_a.from_ hb_z3).cell (i := 1) rfl; have qz3_a_2 := (x_a.from_ hb_z3).cell (i := 2) rfl; have qz3_a_3 := (x_a.from_ hb_z3).cell (i := 3) rfl; rw [Hs3.out])
           | ((go_at_call_of 30 (Value.int .i64 s)); (refine (iNumText_any s _ (ht.below (B_w1.trans (hb_z3.mono B_w1.size))) (by omega) (by omega)).mono ?_); rintro e w_z4 ⟨rfl, hd_z4⟩; have hb_z4 : Below w1.heap.size w1 w_z4 := hb_z3.trans (hd_z4.mono hb_z3.size); have sd_z4 := hd_z4.size; have qz4_a_0 := (x_a.from_ hb_z4).cell (i := 0) rfl; have qz4_a_1 := (x_a.from_ hb_z4).cell (i := 1) rfl; have qz4_a_2 := (x_a.from_ hb_z4).cell (i := 2) rfl; have qz4_a_3 := (x_a.from_ hb_z4).cell (i := 3) rfl; rw [Hs4.out])
           | ((go_at_call 31); (refine (join4_c s1 s2 s3 s4 w_z4 9 zs1 zs2 zs3 zs4).mono ?_); rintro e w_z5 ⟨rfl, hd_z5⟩; have hb_z5 : Below w1.heap.size w1 w_z5 := hb_z4.trans (hd_z5.mono hb_z4.size); have sd_z5 := hd_z5.size; have qz5_a_0 := (x_a.from_ hb_z5).cell (i := 0) rfl; have qz5_a_1 := (x_a.from_ hb_z5).cell (i := 1) rfl; have qz5_a_2 := (x_a.from_ hb_z5).cell (i := 2) rfl; have qz5_a_3 := (x_a.from_ hb_z5).cell (i := 3) rfl; rw [HR.out])
           | fail)
  clear c_a_0_w1 c_a_1_w1 c_a_2_w1 c_a_3_w1
  have dz_w1 : w1.drew.heap.size = w1.heap.size := rfl
  replace x_a := x_a.from_ hb_z5
  have B_z5 := B_w1.trans (hb_z5.mono B_w1.size)
  have sz_z5 := hb_z5.size
  go_wp2
  go_ret
  exact ⟨ret_eq (by rw [HP.out]; rfl), B_z5⟩
set_option maxRecDepth 100000 in
set_option maxHeartbeats 4000000 in
theorem iMsgText_c {w : World} {v : Value} {m : MMsg} (ht : Tab10 w) (h : RV msgL w v m) :
    Calls Tryd.prog 15 #[v] w fun e w' => e = .returned (.string (msgText m)) ∧ Below w.heap.size w w' := by
  obtain rfl := rv_msg h
  obtain ⟨k, a, b, s⟩ := m
  by_cases hk : 1 ≤ k ∧ k ≤ 5
  case neg =>
    have HT : Hid (msgText ⟨k, a, b, s⟩ = ⟨#[]⟩) := by show _ = _; unfold msgText; rw [ok0 _ _ _ _ hk]; rfl
    have HK := Lib.hid hk
    clear hk h
    obtain ⟨wa, hwa, B0, sa, x_a⟩ := frame1 w 24 [.int .i64 k, .int .i64 a, .int .i64 b, .int .i64 s]
    have c0 := x_a.cell (i := 0) rfl
    have c1 := x_a.cell (i := 1) rfl
    have c2 := x_a.cell (i := 2) rfl
    have c3 := x_a.cell (i := 3) rfl
    clear sa
    go_enter Tryd.func15, Tryd.ntmps15
    go_wp2_with fail
    refine (valid0_c _ _ _ _ _ HK.out).mono ?_
    rintro e w1 ⟨rfl, h1⟩
    go_wp2
    go_ret
    exact ⟨by rw [HT.out]; rfl, B0.trans (h1.mono B0.size)⟩
  have h5 : k = 1 ∨ k = 2 ∨ k = 3 ∨ k = 4 ∨ k = 5 := by omega
  clear hk
  rcases h5 with rfl | rfl | rfl | rfl | rfl
  · by_cases ho : msgOkB ⟨1, a, b, s⟩ = true
    · exact text1_c ht a b s ho
    · have ho' : msgOkB ⟨1, a, b, s⟩ = false := by simpa using ho
      have HT : Hid (msgText ⟨1, a, b, s⟩ = ⟨#[]⟩) := by show _ = _; unfold msgText; rw [ho']; rfl
      have HO := Lib.hid ho'
      clear ho ho' h
      obtain ⟨wa, hwa, B0, sa, x_a⟩ := frame1 w 24 [.int .i64 1, .int .i64 a, .int .i64 b, .int .i64 s]
      have c0 := x_a.cell (i := 0) rfl
      have c1 := x_a.cell (i := 1) rfl
      have c2 := x_a.cell (i := 2) rfl
      have c3 := x_a.cell (i := 3) rfl
      clear sa
      go_enter Tryd.func15, Tryd.ntmps15
      go_wp2_with fail
      refine (valid1_c _ _ _ _).mono ?_
      rintro e w1 ⟨rfl, h1⟩
      rw [if_neg (by rw [HO.out]; decide)]
      go_wp2
      go_ret
      exact ⟨by rw [HT.out]; rfl, B0.trans (h1.mono B0.size)⟩
  · by_cases ho : msgOkB ⟨2, a, b, s⟩ = true
    · exact text2_c ht a b s ho
    · have ho' : msgOkB ⟨2, a, b, s⟩ = false := by simpa using ho
      have HT : Hid (msgText ⟨2, a, b, s⟩ = ⟨#[]⟩) := by show _ = _; unfold msgText; rw [ho']; rfl
      have HO := Lib.hid ho'
      clear ho ho' h
      obtain ⟨wa, hwa, B0, sa, x_a⟩ := frame1 w 24 [.int .i64 2, .int .i64 a, .int .i64 b, .int .i64 s]
      have c0 := x_a.cell (i := 0) rfl
      have c1 := x_a.cell (i := 1) rfl
      have c2 := x_a.cell (i := 2) rfl
      have c3 := x_a.cell (i := 3) rfl
      clear sa
      go_enter Tryd.func15, Tryd.ntmps15
      go_wp2_with fail
      refine (valid2_c _ _ _ _).mono ?_
      rintro e w1 ⟨rfl, h1⟩
      rw [if_neg (by rw [HO.out]; decide)]
      go_wp2
      go_ret
      exact ⟨by rw [HT.out]; rfl, B0.trans (h1.mono B0.size)⟩
  · by_cases ho : msgOkB ⟨3, a, b, s⟩ = true
    · exact text3_c ht a b s ho
    · have ho' : msgOkB ⟨3, a, b, s⟩ = false := by simpa using ho
      have HT : Hid (msgText ⟨3, a, b, s⟩ = ⟨#[]⟩) := by show _ = _; unfold msgText; rw [ho']; rfl
      have HO := Lib.hid ho'
      clear ho ho' h
      obtain ⟨wa, hwa, B0, sa, x_a⟩ := frame1 w 24 [.int .i64 3, .int .i64 a, .int .i64 b, .int .i64 s]
      have c0 := x_a.cell (i := 0) rfl
      have c1 := x_a.cell (i := 1) rfl
      have c2 := x_a.cell (i := 2) rfl
      have c3 := x_a.cell (i := 3) rfl
      clear sa
      go_enter Tryd.func15, Tryd.ntmps15
      go_wp2_with fail
      refine (valid3_c _ _ _ _).mono ?_
      rintro e w1 ⟨rfl, h1⟩
      rw [if_neg (by rw [HO.out]; decide)]
      go_wp2
      go_ret
      exact ⟨by rw [HT.out]; rfl, B0.trans (h1.mono B0.size)⟩
  · by_cases ho : msgOkB ⟨4, a, b, s⟩ = true
    · exact text4_c ht a b s ho
    · have ho' : msgOkB ⟨4, a, b, s⟩ = false := by simpa using ho
      have HT : Hid (msgText ⟨4, a, b, s⟩ = ⟨#[]⟩) := by show _ = _; unfold msgText; rw [ho']; rfl
      have HO := Lib.hid ho'
      clear ho ho' h
      obtain ⟨wa, hwa, B0, sa, x_a⟩ := frame1 w 24 [.int .i64 4, .int .i64 a, .int .i64 b, .int .i64 s]
      have c0 := x_a.cell (i := 0) rfl
      have c1 := x_a.cell (i := 1) rfl
      have c2 := x_a.cell (i := 2) rfl
      have c3 := x_a.cell (i := 3) rfl
      clear sa
      go_enter Tryd.func15, Tryd.ntmps15
      go_wp2_with fail
      refine (valid4_c _ _ _ _).mono ?_
      rintro e w1 ⟨rfl, h1⟩
      rw [if_neg (by rw [HO.out]; decide)]
      go_wp2
      go_ret
      exact ⟨by rw [HT.out]; rfl, B0.trans (h1.mono B0.size)⟩
  · by_cases ho : msgOkB ⟨5, a, b, s⟩ = true
    · exact text5_c ht a b s ho
    · have ho' : msgOkB ⟨5, a, b, s⟩ = false := by simpa using ho
      have HT : Hid (msgText ⟨5, a, b, s⟩ = ⟨#[]⟩) := by show _ = _; unfold msgText; rw [ho']; rfl
      have HO := Lib.hid ho'
      clear ho ho' h
      obtain ⟨wa, hwa, B0, sa, x_a⟩ := frame1 w 24 [.int .i64 5, .int .i64 a, .int .i64 b, .int .i64 s]
      have c0 := x_a.cell (i := 0) rfl
      have c1 := x_a.cell (i := 1) rfl
      have c2 := x_a.cell (i := 2) rfl
      have c3 := x_a.cell (i := 3) rfl
      clear sa
      go_enter Tryd.func15, Tryd.ntmps15
      go_wp2_with fail
      refine (valid5_c _ _ _ _).mono ?_
      rintro e w1 ⟨rfl, h1⟩
      rw [if_neg (by rw [HO.out]; decide)]
      go_wp2
      go_ret
      exact ⟨by rw [HT.out]; rfl, B0.trans (h1.mono B0.size)⟩
end Go.Proofs.YtkbhbccpmmhelaaDoor
namespace Go.Proofs.YtkbhbccpmmhelaaDoor
open Go.RowKit
set_option linter.unusedVariables false
section
variable {α : Type} (f : α → Value) (d : α)
def RdF (w : World) (B : Nat) (A : Option Addr) (xs : List α) : Prop :=
  0 < xs.length → ∃ b off, A = some ⟨b, off, none⟩ ∧ b < B ∧ ∀ j, j < xs.length → w.cell? ⟨b, off + j, none⟩ = some (f (xs.getD j d))
def OwnF (w : World) (base : Nat) (e : TypeId) (v : Value) (xs : List α) : Prop := w.ownsRow base e 1 v xs.length (xs.map f)
def RSF (w : World) (v : Value) (xs : List α) : Prop := ∃ A c, v = .slice A xs.length c ∧ xs.length ≤ c ∧ c ≤ maxLen ∧ RdF f d w w.heap.size A xs
def OSF (e : TypeId) (w : World) (lo hi : Nat) (v : Value) (xs : List α) : Prop :=
  OwnF f w lo e v xs ∧ (∀ j, v.ownBlock = some j → j < hi) ∧ hi ≤ w.heap.size
variable {f d} {w w' : World} {B B' base lo hi : Nat} {A : Option Addr} {xs : List α} {e : TypeId} {v : Value}
theorem RdF.at_ (h : RdF f d w B A xs) {j : Nat} (hj : j < xs.length) :
    ∃ b off, A = some ⟨b, off, none⟩ ∧ b < B ∧ w.cell? ⟨b, off + j, none⟩ = some (f (xs.getD j d)) := by
  obtain ⟨b, off, rfl, hb, hc⟩ := h (by omega)
  exact ⟨b, off, rfl, hb, hc j hj⟩
theorem RdF.keep (h : RdF f d w B A xs) (hk : ∀ p : Addr, p.block < B → w'.cell? p = w.cell? p) : RdF f d w' B A xs := fun hn => by
  obtain ⟨b, off, rfl, hb, hc⟩ := h hn
  exact ⟨b, off, rfl, hb, fun j hj => (hk _ hb).trans (hc j hj)⟩
theorem RdF.more (h : RdF f d w B A xs) (hB : B ≤ B') : RdF f d w B' A xs := fun hn => by
  obtain ⟨b, off, rfl, hb, hc⟩ := h hn
  exact ⟨b, off, rfl, by omega, hc⟩
theorem RdF.below (h : RdF f d w B A xs) (hb : Below B w w') : RdF f d w' B A xs := h.keep fun _ hp => hb.cell hp
theorem RdF.toV (h : RdF f d w B A xs) : RdV w B A (xs.map f) := fun hp => by
  obtain ⟨b, off, rfl, hb, hc⟩ := h (by simpa using hp)
  refine ⟨b, off, rfl, hb, fun j u hu => ?_⟩
  have hj : j < xs.length := by
    rcases Nat.lt_or_ge j xs.length with h | h
    · exact h
    · rw [List.getElem?_eq_none (by simpa using h)] at hu; cases hu
  rw [hc j hj]
  simp [hj] at hu
  simp [hj, hu]
theorem OwnF.lt (h : OwnF f w base e v xs) : ∀ j, v.ownBlock = some j → base ≤ j ∧ j < w.heap.size := World.ownsRow.lt h
theorem OwnF.form (h : OwnF f w base e v xs) : ∃ A c, v = .slice A xs.length c ∧ xs.length ≤ c ∧ c ≤ maxLen ∧ RdF f d w w.heap.size A xs := by
  have hlt := h.lt
  rcases h.2 with ⟨rfl, h0⟩ | ⟨g, cap, cur, rfl, hb, hh, hn, hm, hs, ht⟩
  · exact ⟨none, 0, by rw [h0], by omega, by unfold maxLen; omega, fun h => by omega⟩
  · refine ⟨some ⟨g, 0, none⟩, cap, rfl, hn, hm, fun hp => ⟨g, 0, rfl, (hlt g rfl).2, fun j hj => ?_⟩⟩
    have := World.ownsRow.cellAt h j (by omega)
    rw [Nat.zero_add, this]
    simp [hj]
theorem OwnF.below (h : OwnF f w base e v xs) (hb : Below B w w') (hB : w.heap.size ≤ B) : OwnF f w' base e v xs := by
  have hlt := h.lt
  refine ⟨h.1, ?_⟩
  rcases h.2 with h2 | ⟨g, cap, cur, hv, hg, hh, r⟩
  · exact .inl h2
  · refine .inr ⟨g, cap, cur, hv, hg, ?_, r⟩
    have := (hlt g (by rw [hv]; rfl)).2
    rw [hb.block g (by omega)]; exact hh
theorem OwnF.base_mono {base' : Nat} (h : OwnF f w base e v xs) (hb : base' ≤ base) : OwnF f w base' e v xs := by
  refine ⟨h.1, ?_⟩
  rcases h.2 with h2 | ⟨g, cap, cur, hv, hg, r⟩
  · exact .inl h2
  · exact .inr ⟨g, cap, cur, hv, by omega, r⟩
theorem OwnF.alloc_ (h : OwnF f w base e v xs) (o : Obj) : OwnF f (w.alloc o) base e v xs := World.ownsRow.alloc h o
theorem OwnF.len {g n c : Nat} (h : OwnF f w base e (.slice (some ⟨g, 0, none⟩) n c) xs) : n = xs.length := by
  rcases h.2 with ⟨h', _⟩ | ⟨g', cap, cur, hv, _⟩
  · simp at h'
  · simp only [Value.slice.injEq] at hv; exact hv.2.1
theorem grown_belowF {a : World} (h : Below B a w) (ho : OwnF f w base e v xs) (hg : w.grownBy w' v.ownBlock) (hB : B ≤ base) (hB2 : B ≤ w.heap.size) : Below B a w' :=
  h.grown hg hB2 (fun k hk => by have := (ho.lt k hk).1; omega)
theorem RSF.from_ (h : RSF f d w v xs) (hb : Below w.heap.size w w') : RSF f d w' v xs := by
  obtain ⟨A, c, hv, h1, h2, hr⟩ := h
  exact ⟨A, c, hv, h1, h2, (hr.below hb).more hb.size⟩
theorem OSF.rd (h : OSF f e w lo hi v xs) : RSF f d w v xs := h.1.form
theorem OSF.below (h : OSF f e w lo hi v xs) (hb : Below w.heap.size w w') : OSF f e w' lo hi v xs :=
  ⟨h.1.below hb (Nat.le_refl _), h.2.1, Nat.le_trans h.2.2 hb.size⟩
theorem OSF.chg {a b : Nat} (h : OSF f e w lo hi v xs) (hc : Chg a b w w') (hd : hi ≤ a ∨ b ≤ lo) : OSF f e w' lo hi v xs := by
  refine ⟨⟨h.1.1, ?_⟩, h.2.1, Nat.le_trans h.2.2 hc.size⟩
  rcases h.1.2 with h2 | ⟨g, cap, cur, hv, hg, hh, r⟩
  · exact .inl h2
  · refine .inr ⟨g, cap, cur, hv, hg, ?_, r⟩
    have h3 := h.2.1 g (by rw [hv]; rfl)
    have h4 := h.2.2
    rw [hc.block g (by omega) (by omega)]; exact hh
theorem OSF.mk_ (h : OwnF f w' lo e v xs) : OSF f e w' lo w'.heap.size v xs := ⟨h, fun j hj => (h.lt j hj).2, Nat.le_refl _⟩
theorem ownF_none (hb : base ≤ w.heap.size) : OwnF f (w.alloc (.cells #[] e)) base e (.slice (some ⟨w.heap.size, 0, none⟩) 0 0) [] := by
  have := World.ownsRow_lit (base := base) (e := e) (size := 1) w #[] 0 hb (by unfold maxLen; omega) (by simp)
  simpa [OwnF] using this
end
theorem rdF_one {α : Type} (f : α → Value) (d : α) (w : World) (t : TypeId) (x : α) : RdF f d (w.alloc (.cells #[f x] t)) (w.heap.size + 1) (some ⟨w.heap.size, 0, none⟩) [x] := fun _ =>
  ⟨w.heap.size, 0, rfl, by omega, fun j hj => by
    have : j = 0 := by simp at hj; omega
    subst this
    have := heap_alloc_new w (.cells #[f x] t)
    rw [cell_of_row _ w.heap.size (0 + 0) #[f x] t (0, 0) this]
    simp⟩
theorem wpl_appF {α : Type} (f : α → Value) (d : α) {P : Program} (w : World) {ops : Array Oper} {rest : List Oper} {o : Oper} {a : Act} {Q : Exit → Act → World → Prop} (hone : ∀ x, (f x).oneCell' = true) (hgd : o.guard = none) (s x : Operand) (t : TypeId)
    (ho : o.op = .call { callee := .builtin .append, args := #[s, x], argTypes := #[t, t] })
    (base : Nat) (e : TypeId) (i : TypeInfo) (z : Value) (bytes : Nat) (ht : P.underlying t = some (.slice e)) (hi : P.info? e = some i) (hz : i.zero = some z)
    (hsize : i.size = 1) (hby : i.bytes = bytes) (hzs : z.cells.size = 1) (v : Value) (xs : List α) (hs : a.eval s = v) (hown : OwnF f w base e v xs)
    (B : Nat) (A : Option Addr) (c m : Nat) (ys : List α) (hx : a.eval x = .slice A m c) (hm : ys.length = m) (hr : RdF f d w B A ys)
    (hmax : xs.length + m ≤ 1099511627776) (hbyt : bytes ≤ 64) (hbase : base ≤ w.heap.size)
    (h : ∀ v' w', OwnF f w' base e v' (xs ++ ys) → w.grownBy w' v.ownBlock → (v'.ownBlock = v.ownBlock ∨ v'.ownBlock = some w.heap.size) → wpList P ops Q rest (a.put o.dst v') w') :
    wpList P ops Q (o :: rest) a w :=
  wpl_app w hgd s x t ho base e i z bytes ht hi hz hsize hby hzs v xs.length (xs.map f) hs hown B A c m (ys.map f) hx (by simpa using hm) hr.toV
    (fun u hu => by obtain ⟨n, _, rfl⟩ := List.mem_map.1 hu; exact hone n) hmax hbyt hbase
    (fun v' w' h2 h3 h4 => h v' w' (by unfold OwnF; rw [List.length_append, List.map_append]; simpa using h2) h3 h4)
end Go.Proofs.YtkbhbccpmmhelaaDoor
namespace Go.Proofs.YtkbhbccpmmhelaaDoor
open Go.RowKit
set_option linter.unusedVariables false
end Go.Proofs.YtkbhbccpmmhelaaDoor
namespace Go.Proofs.YtkbhbccpmmhelaaDoor
open Go.RowKit
set_option linter.unusedVariables false
theorem Tryd.info_str : (Tryd.prog.info? 9).map (fun i => (i.zero, i.size, i.bytes)) = some (some (.string ⟨#[]⟩), 1, 16) := by kernel_rfl
def NewT (w : World) (xs : List ByteArray) (e : Ending) (w' : World) : Prop :=
  ∃ v, e = .returned v ∧ OSF Value.string 9 w' w.heap.size w'.heap.size v xs ∧ Below w.heap.size w w'
theorem one_str (x : ByteArray) : (Value.string x).oneCell' = true := rfl
set_option maxHeartbeats 400000 in
theorem clone_any (s : ByteArray) (w : World) (hs : s.size ≤ 1073741824) :
    Calls Tryd.prog 76 #[.string s] w fun e w' => e = .returned (.string s) ∧ Below w.heap.size w w' := by
  go_enter Tryd.func76, Tryd.ntmps76
  go_wp2_with fail
  refine (Tryd.stringslite_Clone s w (by omega)).mono ?_
  rintro e w1 ⟨rfl, hb⟩
  go_wp2
  go_ret
  exact ⟨rfl, hb⟩
section
variable {w w' : World} {base : Nat} {e : TypeId} {v : Value} {xs : List ByteArray} {g p : Nat} {s : ByteArray}
theorem own_ne_iter (h : OwnF Value.string w base e v xs) (hi : w.heap[g]? = some (.stringIter s p)) : ∀ j, v.ownBlock = some j → j ≠ g := by
  intro j hj e
  subst e
  rcases h.2 with ⟨rfl, _⟩ | ⟨g', cap, cur, rfl, _, hh, _⟩
  · simp [Value.ownBlock] at hj
  · simp [Value.ownBlock] at hj
    subst hj
    rw [hi] at hh
    cases hh
theorem own_iterAt (h : OwnF Value.string w base e v xs) (hi : w.heap[g]? = some (.stringIter s p)) (q : Nat) : OwnF Value.string (w.iterAt g s q) base e v xs := by
  have hne := own_ne_iter h hi
  refine ⟨h.1, ?_⟩
  rcases h.2 with h2 | ⟨g', cap, cur, hv, hg, hh, r⟩
  · exact .inl h2
  · exact .inr ⟨g', cap, cur, hv, hg, by rw [Lib.iterAt_other _ _ _ _ _ (hne g' (by rw [hv]; rfl))]; exact hh, r⟩
end
theorem iter_start (w : World) (s : ByteArray) (t : TypeId) : ((w.alloc (.cells #[] t)).iter s 0).heap[w.heap.size + 1]? = some (.stringIter s 0) := by
  have h := World.iter_heap (w.alloc (.cells #[] t)) s 0
  have e : (w.alloc (.cells #[] t)).heap.size = w.heap.size + 1 := by simp
  rw [e] at h
  exact h
set_option maxRecDepth 10000 in
set_option maxHeartbeats 2000000 in
theorem iSplit_any (s : ByteArray) (b : Nat) (w : World) (hs : s.size ≤ 1073741824) (hb : b < 128) :
    Calls Tryd.prog 53 #[.string s, .int .i32 b] w (NewT w (splitL s b)) := by
  obtain ⟨i0, hi, hz0, hz1, hz2⟩ := info_parts Tryd.info_str
  go_enter Tryd.func53, Tryd.ntmps53
  go_wp2
  go_loopw [5, 6] (fun so sf wr => ∃ (p fr : Nat) (l : List ByteArray), sf = .int .i64 fr ∧ OwnF Value.string wr w.heap.size 9 so l ∧ Below w.heap.size w wr ∧
      wr.heap[w.heap.size + 1]? = some (.stringIter s p) ∧ l.length ≤ p ∧ p ≤ s.size ∧ fr ≤ p ∧ Hid (splitSt s b p = (l, fr))) (fun _ _ wr => s.size - wr.iterPos (w.heap.size + 1))
  case atStart => exact ⟨0, 0, [], rfl, (ownF_none (Nat.le_refl _)).alloc_ _, ((Below.refl _ _).alloc (Nat.le_refl _) _).alloc (by simp) _, iter_start w s 9, by simp, by omega, by omega, rfl⟩
  case round =>
    obtain ⟨p, fr, l, rfl, hown, hbr, hit, hll, hp, hfr, HS⟩ := hrel
    have hsz := hbr.size
    have hpos : wr.iterPos (w.heap.size + 1) = p := by unfold World.iterPos; rw [hit]
    have HP := Lib.hid hpos
    clear hpos
    by_cases hlt : p < s.size
    · have hg := get_bang s p hlt
      have hnx := fun ty => Lib.run_next_any_at (P := Tryd.prog) wr (w.heap.size + 1) s p ty hit hlt
      obtain ⟨r, wd, hd⟩ : ∃ r wd, Utf8.decode s p = (r, wd) := ⟨_, _, rfl⟩
      rw [hd] at hnx
      have hgl : w.heap.size + 1 < wr.heap.size := (Array.getElem?_eq_some_iff.1 hit).1
      have hstep : p + wd ≤ s.size ∧ 1 ≤ wd ∧ r ≤ 2147483647 ∧ ((r = b ∧ wd = 1 ∧ splitSt s b (p + wd) = (l ++ [s.extract fr p], p + 1)) ∨ (r ≠ b ∧ splitSt s b (p + wd) = (l, fr))) := by
        have hle := decode_le s p
        rw [hd] at hle
        by_cases hasc : (s.get! p).toNat < 128
        · have h1 := decode_ascii s p hlt (by rw [← hg]; exact hasc)
          rw [hd, ← hg] at h1
          simp only [Prod.mk.injEq] at h1
          obtain ⟨h1, rfl⟩ := h1
          refine ⟨by omega, by omega, by omega, ?_⟩
          by_cases hrb : r = b
          · exact .inl ⟨hrb, rfl, by rw [splitSt_hit (by omega), HS.out]⟩
          · exact .inr ⟨hrb, by rw [splitSt_miss (by omega), HS.out]⟩
        · have h1 := decode_span s p hlt hasc
          have h2 := decode_high s p hlt (by rw [← hg]; omega)
          rw [hd] at h1 h2
          refine ⟨h1.1, h1.2.1, by omega, .inr ⟨by omega, ?_⟩⟩
          rw [splitSt_skip p wd (fun j hj => by have := h1.2.2 j hj; omega), HS.out]
      obtain ⟨hs1, hs2, hs3, hs4⟩ := hstep
      obtain ⟨wn, hwn⟩ : ∃ wn, wr.iterAt (w.heap.size + 1) s (p + wd) = wn := ⟨_, rfl⟩
      have hownN := own_iterAt hown hit (p + wd)
      have hbrN := Lib.below_iterAt hbr (k := w.heap.size + 1) (by omega) s (p + wd)
      have hitN := Lib.iterAt_heap wr (w.heap.size + 1) s p (p + wd) hit
      have hszN := Lib.iterAt_size wr (w.heap.size + 1) s (p + wd)
      dsimp only at hnx
      rw [hwn] at hownN hbrN hitN hszN hnx
      clear hwn hd hg hown hbr hit
      have hgl2 : w.heap.size + 1 < wn.heap.size := by omega
      clear hszN
      rcases hs4 with ⟨hrb, hwd, hsp⟩ | ⟨hrb, hsp⟩
      · have HN := Lib.hid hsp
        clear hsp
        subst hrb
        subst hwd
        go_wp2_with fail
        refine (clone_any (s.extract fr p) wn (by rw [ByteArray.size_extract]; omega)).mono ?_
        rintro e w3 ⟨rfl, hb3⟩
        have ho3 := hownN.below hb3 (Nat.le_refl _)
        have hb3' := hbrN.trans (hb3.mono hbrN.size)
        have hit3 : w3.heap[w.heap.size + 1]? = some (.stringIter s (p + 1)) := (hb3.block _ hgl2).trans hitN
        have hsz3 := hb3'.size
        have hgl3 : w.heap.size + 1 < w3.heap.size := by have := hb3.size; omega
        have hne := own_ne_iter ho3 hit3
        clear hownN hitN hnx
        go_wp2_with (at_builtin; refine wpl_appF Value.string ByteArray.empty _ one_str rfl (.tmp 19) (.tmp 25) 58 rfl w.heap.size 9 i0 _ 16 Tryd.underlying58 hi hz0 hz1 hz2 rfl _ l rfl (ho3.alloc_ _) _ _ _ 1 [s.extract fr p] rfl rfl (rdF_one _ _ _ _ _) ?f1 (by omega) ?f2 ?_)
        case f1 => omega
        case f2 => simp; omega
        intro v4 w4 ho4 hg4 hat4
        have hb4 : Below w.heap.size w w4 := grown_belowF (hb3'.alloc hsz3 _) (ho3.alloc_ _) hg4 (Nat.le_refl _) (by simp; omega)
        have hit4 : w4.heap[w.heap.size + 1]? = some (.stringIter s (p + 1)) := (hg4.block _ (by simp; omega) (fun e => hne _ e.symm rfl)).trans ((Below.heap_alloc w3 _ _ hgl3).trans hit3)
        have hpos4 : w4.iterPos (w.heap.size + 1) = p + 1 := by unfold World.iterPos; rw [hit4]
        have HP4 := Lib.hid hpos4
        have HI4 := Lib.hid hit4
        clear hg4 hat4 hpos4 hit4 hit3
        go_wp2
        go_roundw
        case rel => exact ⟨p + 1, p + 1, _, by go_num, ho4, hb4, HI4.out, by simp; omega, by omega, by omega, HN⟩
        case measure => rw [HP4.out, HP.out]; omega
      · have HN := Lib.hid hsp
        clear hsp
        have hrb' : ((r : Int) == (b : Int)) = false := by simp; omega
        have hposN : wn.iterPos (w.heap.size + 1) = p + wd := by unfold World.iterPos; rw [hitN]
        have HPN := Lib.hid hposN
        have HIN := Lib.hid hitN
        clear hposN hitN
        go_wp2
        go_roundw
        case rel => exact ⟨p + wd, fr, l, rfl, hownN, hbrN, HIN.out, by omega, by omega, by omega, HN⟩
        case measure => rw [HPN.out, HP.out]; omega
    · have hp2 : p = s.size := by omega
      subst hp2
      have hnx := fun ty => Lib.run_next_end_at (P := Tryd.prog) wr (w.heap.size + 1) s s.size ty hit hlt
      have HN : Hid (l ++ [s.extract fr s.size] = splitL s b) := by
        show _ = _
        unfold splitL; rw [HS.out]
      clear hit HP
      go_wp2_with fail
      refine (clone_any (s.extract fr s.size) wr (by rw [ByteArray.size_extract]; omega)).mono ?_
      rintro e w3 ⟨rfl, hb3⟩
      have ho3 := hown.below hb3 (Nat.le_refl _)
      have hb3' := hbr.trans (hb3.mono hbr.size)
      have hsz3 := hb3'.size
      clear hnx hown
      go_wp2_with (at_builtin; refine wpl_appF Value.string ByteArray.empty _ one_str rfl (.tmp 29) (.tmp 34) 58 rfl w.heap.size 9 i0 _ 16 Tryd.underlying58 hi hz0 hz1 hz2 rfl _ l rfl (ho3.alloc_ _) _ _ _ 1 [s.extract fr s.size] rfl rfl (rdF_one _ _ _ _ _) ?e1 (by omega) ?e2 ?_)
      case e1 => omega
      case e2 => simp; omega
      intro v4 w4 ho4 hg4 hat4
      have hb4 : Below w.heap.size w w4 := grown_belowF (hb3'.alloc hsz3 _) (ho3.alloc_ _) hg4 (Nat.le_refl _) (by simp; omega)
      rw [HN.out] at ho4
      clear hg4 hat4
      go_wp2
      go_ret
      exact ⟨v4, rfl, OSF.mk_ ho4, hb4⟩
end Go.Proofs.YtkbhbccpmmhelaaDoor
namespace Go.Proofs.YtkbhbccpmmhelaaDoor
open Go.RowKit
set_option linter.unusedVariables false
set_option maxHeartbeats 400000 in
theorem iCut_c {w : World} (s : ByteArray) (hs : s.size ≤ 1048576) : Calls Tryd.prog 25 #[.string s] w (NewT w (splitL s 32)) := by
  go_enter Tryd.func25, Tryd.ntmps25
  go_wp2_with fail
  refine (iSplit_any s 32 w (by omega) (by omega)).mono ?_
  rintro e w1 ⟨v, rfl, ho, hb⟩
  go_wp2
  go_ret
  exact ⟨v, rfl, ho, hb⟩
theorem str_empty (s : ByteArray) : (s.toList == []) = decide (s = ByteArray.empty) := by
  have := str_same s ByteArray.empty
  rw [show ByteArray.empty.toList = [] from by rw [ByteArray.toList_eq]; rfl] at this
  exact this
end Go.Proofs.YtkbhbccpmmhelaaDoor
namespace Go.Proofs.YtkbhbccpmmhelaaDoor
open Go.RowKit
set_option linter.unusedVariables false
theorem Chg.cell_at {a b : Nat} {w w' : World} {p : Addr} (h : Chg a b w w') (h1 : p.block < w.heap.size) (h2 : p.block < a ∨ b ≤ p.block) : w'.cell? p = w.cell? p := by
  unfold World.cell?
  rw [h.block _ h1 h2]
end Go.Proofs.YtkbhbccpmmhelaaDoor
