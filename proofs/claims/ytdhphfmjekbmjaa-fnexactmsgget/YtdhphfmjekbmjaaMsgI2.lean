/- Contract: impl.MsgPut. -/
import Derived.Test.YtdhphfmjekbmjaaMsgI0
import Derived.Test.YtdhphfmjekbmjaaMsg2
import Derived.Test.YtdhphfmjekbmjaaPutNums
namespace Go.Proofs.Ytdhphfmjekbmjaa
open Go.RowKit
set_option linter.unusedVariables false

theorem rd_vr {w : World} {b : Nat} {t : TypeId} {k : IntKind} {zs : List Int} (h : Vr w b t (zs.map (Value.int k))) : Rd k w w.heap.size (some ⟨b, 0, none⟩) zs := fun _ =>
  ⟨b, 0, rfl, h.lt, fun j hj => by
    rw [Nat.zero_add]
    refine h.cell (i := j) ?_
    rw [List.getElem?_map, List.getElem?_eq_getElem hj]
    simp [List.getD, List.getElem?_eq_getElem hj]⟩

set_option maxRecDepth 100000 in
set_option maxHeartbeats 4000000 in
theorem iMsgPut_c {w : World} {v v' : Value} {zs : List Int} {m : MMsg} (h : RS .u8 w v zs) (h' : RV msgL w v' m) (hm : zs.length ≤ 1073741000) :
    Calls Try.prog 13 #[v, v'] w (NewSB w (msgPut zs m) (msgOkB m)) := by
  have h0 := h
  obtain ⟨A, c, rfl, p1, p2, hr⟩ := h0
  have h1 := h'
  obtain rfl := rv_msg h1
  clear h1
  obtain ⟨wa, hwa, B0, sa, x_a⟩ := frame1 w 25 [.int .i64 m.Kind, .int .i64 m.Acct, .int .i64 m.Amt, .int .i64 m.Src]
  have sa_1 := Nat.le_of_eq sa
  have sa_2 := Nat.le_of_eq sa.symm
  clear sa
  have c_a_0_wa := x_a.cell (i := 0) rfl
  have c_a_1_wa := x_a.cell (i := 1) rfl
  have c_a_2_wa := x_a.cell (i := 2) rfl
  have c_a_3_wa := x_a.cell (i := 3) rfl
  by_cases ho : msgOkB m = true
  case neg =>
    have ho' : msgOkB m = false := by simpa using ho
    have HO := Lib.hid ho'
    have HP : Hid (msgPut zs m = []) := by show _ = _; unfold msgPut; rw [if_neg ho]
    clear ho ho'
    go_enter Try.func13, Try.ntmps13
    go_wp2_with fail
    refine (iMsgOk_c (h'.from_ B0)).mono ?_
    rintro e w1 ⟨rfl, h_w1⟩
    clear c_a_0_wa c_a_1_wa c_a_2_wa c_a_3_wa
    replace x_a := x_a.from_ h_w1
    have B_w1 := B0.trans (h_w1.mono B0.size)
    have s_w1 := h_w1.size
    rw [HO.out]
    go_wp2
    go_ret2
    exact ⟨_, by rw [HO.out]; rfl, by rw [HP.out]; exact os_none _ _, B_w1⟩
  have hall := msgNums_ok ho
  have HP : Hid (msgPut zs m = putsL zs [m.Kind, m.Acct, m.Amt, m.Src]) := by show _ = _; unfold msgPut putsL; rw [if_pos ho, if_pos (show [m.Kind, m.Acct, m.Amt, m.Src].all numB = true from hall)]; rfl
  have HA : Hid ([m.Kind, m.Acct, m.Amt, m.Src].all numB = true) := hall
  have HO := Lib.hid ho
  clear ho hall
  go_enter Try.func13, Try.ntmps13
  go_wp2_with fail
  refine (iMsgOk_c (h'.from_ B0)).mono ?_
  rintro e w1 ⟨rfl, h_w1⟩
  clear c_a_0_wa c_a_1_wa c_a_2_wa c_a_3_wa
  replace x_a := x_a.from_ h_w1
  have B_w1 := B0.trans (h_w1.mono B0.size)
  have s_w1 := h_w1.size
  rw [HO.out]
  have c_a_0_w1 := x_a.cell (i := 0) rfl
  have c_a_1_w1 := x_a.cell (i := 1) rfl
  have c_a_2_w1 := x_a.cell (i := 2) rfl
  have c_a_3_w1 := x_a.cell (i := 3) rfl
  obtain ⟨w2, e_w2, s_w2, h_w2, x_l⟩ := alloc_step w1 3 [.int .i64 m.Kind, .int .i64 m.Acct, .int .i64 m.Amt, .int .i64 m.Src]
  have s_w2_1 := Nat.le_of_eq s_w2
  have s_w2_2 := Nat.le_of_eq s_w2.symm
  clear s_w2
  replace x_a := x_a.from_ h_w2
  have B_w2 := B_w1.trans (h_w2.mono B_w1.size)
  have r_l := rd_vr (zs := [m.Kind, m.Acct, m.Amt, m.Src]) x_l
  go_wp2_with fail
  refine (iAppendNums_any A _ c 4 zs [m.Kind, m.Acct, m.Amt, m.Src] _ ((hr.below B_w2).more B_w2.size) r_l (by omega) (by simp)).mono ?_
  rintro e w9 ⟨v9, rfl, o9, h9⟩
  rw [HA.out]
  have B9 := B_w2.trans (h9.mono B_w2.size)
  go_wp2
  go_ret2
  exact ⟨v9, by rw [HO.out]; rfl, by rw [HP.out]; exact OS.mk_ (o9.base_mono B_w2.size), B9⟩

end Go.Proofs.Ytdhphfmjekbmjaa
