/- Contract: spec.MsgText. -/
import Derived.Test.YtdhphfmjekbmjaaDoorMsg1
import Derived.Test.YtdhphfmjekbmjaaDoorTexts
import Derived.Deep.RegionHeld3
import Derived.Laws.Concat
namespace Go.Proofs.YtdhphfmjekbmjaaDoor
open Go.RowKit
set_option linter.unusedVariables false

/-- what MsgText answers -/
def msgText (m : MMsg) : ByteArray := if msgOkB m then msgName m.Kind ++ ⟨#[32]⟩ ++ numText m.Acct ++ ⟨#[32]⟩ ++ numText m.Amt ++ ⟨#[32]⟩ ++ numText m.Src else ⟨#[]⟩
theorem msgName_size (k : Int) : (msgName k).size ≤ 6 := by
  unfold msgName
  repeat (split; decide)
  decide

set_option maxRecDepth 100000 in
set_option maxHeartbeats 4000000 in
theorem sMsgText_c {w : World} {v : Value} {m : MMsg} (h : RV msgL w v m) :
    Calls Tryd.prog 4 #[v] w fun e w' => e = .returned (.string (msgText m)) ∧ Below w.heap.size w w' := by
  have h1 := h
  obtain rfl := rv_msg h1
  clear h1
  obtain ⟨wa, hwa, B0, sa, x_a⟩ := frame1 w 25 [.int .i64 m.Kind, .int .i64 m.Acct, .int .i64 m.Amt, .int .i64 m.Src]
  have sa_1 := Nat.le_of_eq sa
  have sa_2 := Nat.le_of_eq sa.symm
  clear sa
  have c_a_0_wa := x_a.cell (i := 0) rfl
  have c_a_1_wa := x_a.cell (i := 1) rfl
  have c_a_2_wa := x_a.cell (i := 2) rfl
  have c_a_3_wa := x_a.cell (i := 3) rfl
  by_cases ho : msgOkB m = true
  case neg =>
    have ho' : msgOkB m = false := by simpa using ho
    have HO := Lib.hid ho'
    have HP : Hid (msgText m = ⟨#[]⟩) := by show _ = _; unfold msgText; rw [if_neg ho]
    clear ho ho'
    go_enter Tryd.func4, Tryd.ntmps4
    go_wp2_with fail
    refine (sMsgOk_c (h.from_ B0)).mono ?_
    rintro e w1 ⟨rfl, h_w1⟩
    clear c_a_0_wa c_a_1_wa c_a_2_wa c_a_3_wa
    replace x_a := x_a.from_ h_w1
    have B_w1 := B0.trans (h_w1.mono B0.size)
    have s_w1 := h_w1.size
    rw [HO.out]
    go_wp2
    go_ret
    exact ⟨by rw [HP.out]; rfl, B_w1⟩
  obtain ⟨s1, hs1⟩ : ∃ s, msgName m.Kind = s := ⟨_, rfl⟩
  have zs1 : s1.size ≤ 16 := by rw [← hs1]; exact Nat.le_trans (msgName_size _) (by omega)
  have Hs1 := Lib.hid hs1
  obtain ⟨s2, hs2⟩ : ∃ s, numText m.Acct = s := ⟨_, rfl⟩
  have zs2 : s2.size ≤ 16 := by rw [← hs2]; exact numText_size _
  have Hs2 := Lib.hid hs2
  obtain ⟨s3, hs3⟩ : ∃ s, numText m.Amt = s := ⟨_, rfl⟩
  have zs3 : s3.size ≤ 16 := by rw [← hs3]; exact numText_size _
  have Hs3 := Lib.hid hs3
  obtain ⟨s4, hs4⟩ : ∃ s, numText m.Src = s := ⟨_, rfl⟩
  have zs4 : s4.size ≤ 16 := by rw [← hs4]; exact numText_size _
  have Hs4 := Lib.hid hs4
  have HP : Hid (msgText m = s1 ++ ⟨#[32]⟩ ++ s2 ++ ⟨#[32]⟩ ++ s3 ++ ⟨#[32]⟩ ++ s4) := by show _ = _; unfold msgText; rw [if_pos ho, hs1, hs2, hs3, hs4]
  obtain ⟨t1, ht1⟩ : ∃ t, s1 ++ (⟨#[32]⟩ : ByteArray) = t := ⟨_, rfl⟩
  have zt1 : t1.size ≤ 34 := by rw [← ht1, ByteArray.size_append]; have h1 : (⟨#[32]⟩ : ByteArray).size = 1 := rfl; omega
  have kt1 : ∀ W, (Op.stringOp .add s1 (⟨#[32]⟩ : ByteArray)).run Tryd.prog W = .ok (.string t1) W := fun W => by rw [← ht1]; exact run_string_add_sum W _ _ (by have h1 : (⟨#[32]⟩ : ByteArray).size = 1 := rfl; omega)
  obtain ⟨t2, ht2⟩ : ∃ t, t1 ++ s2 = t := ⟨_, rfl⟩
  have zt2 : t2.size ≤ 51 := by rw [← ht2, ByteArray.size_append]; omega
  have kt2 : ∀ W, (Op.stringOp .add t1 s2).run Tryd.prog W = .ok (.string t2) W := fun W => by rw [← ht2]; exact run_string_add_sum W _ _ (by omega)
  obtain ⟨t3, ht3⟩ : ∃ t, t2 ++ (⟨#[32]⟩ : ByteArray) = t := ⟨_, rfl⟩
  have zt3 : t3.size ≤ 68 := by rw [← ht3, ByteArray.size_append]; have h1 : (⟨#[32]⟩ : ByteArray).size = 1 := rfl; omega
  have kt3 : ∀ W, (Op.stringOp .add t2 (⟨#[32]⟩ : ByteArray)).run Tryd.prog W = .ok (.string t3) W := fun W => by rw [← ht3]; exact run_string_add_sum W _ _ (by have h1 : (⟨#[32]⟩ : ByteArray).size = 1 := rfl; omega)
  obtain ⟨t4, ht4⟩ : ∃ t, t3 ++ s3 = t := ⟨_, rfl⟩
  have zt4 : t4.size ≤ 85 := by rw [← ht4, ByteArray.size_append]; omega
  have kt4 : ∀ W, (Op.stringOp .add t3 s3).run Tryd.prog W = .ok (.string t4) W := fun W => by rw [← ht4]; exact run_string_add_sum W _ _ (by omega)
  obtain ⟨t5, ht5⟩ : ∃ t, t4 ++ (⟨#[32]⟩ : ByteArray) = t := ⟨_, rfl⟩
  have zt5 : t5.size ≤ 102 := by rw [← ht5, ByteArray.size_append]; have h1 : (⟨#[32]⟩ : ByteArray).size = 1 := rfl; omega
  have kt5 : ∀ W, (Op.stringOp .add t4 (⟨#[32]⟩ : ByteArray)).run Tryd.prog W = .ok (.string t5) W := fun W => by rw [← ht5]; exact run_string_add_sum W _ _ (by have h1 : (⟨#[32]⟩ : ByteArray).size = 1 := rfl; omega)
  obtain ⟨t6, ht6⟩ : ∃ t, t5 ++ s4 = t := ⟨_, rfl⟩
  have zt6 : t6.size ≤ 119 := by rw [← ht6, ByteArray.size_append]; omega
  have kt6 : ∀ W, (Op.stringOp .add t5 s4).run Tryd.prog W = .ok (.string t6) W := fun W => by rw [← ht6]; exact run_string_add_sum W _ _ (by omega)
  have HP2 : Hid (msgText m = t6) := by show _ = _; rw [HP.out, ht1, ht2, ht3, ht4, ht5, ht6]
  clear ht1 ht2 ht3 ht4 ht5 ht6
  have HO := Lib.hid ho
  clear ho hs1 hs2 hs3 hs4
  go_enter Tryd.func4, Tryd.ntmps4
  go_wp2_with fail
  refine (sMsgOk_c (h.from_ B0)).mono ?_
  rintro e w1 ⟨rfl, h_w1⟩
  clear c_a_0_wa c_a_1_wa c_a_2_wa c_a_3_wa
  replace x_a := x_a.from_ h_w1
  have B_w1 := B0.trans (h_w1.mono B0.size)
  have s_w1 := h_w1.size
  rw [HO.out]
  have c_a_0_w1 := x_a.cell (i := 0) rfl
  have c_a_1_w1 := x_a.cell (i := 1) rfl
  have c_a_2_w1 := x_a.cell (i := 2) rfl
  have c_a_3_w1 := x_a.cell (i := 3) rfl
  go_wp2_with fail
  go_region_held3 (fun w' => w'.cell? ⟨w.heap.size, 0, none⟩ = some (.int .i64 m.Kind) ∧ w'.cell? ⟨w.heap.size, 1, none⟩ = some (.int .i64 m.Acct) ∧ w'.cell? ⟨w.heap.size, 2, none⟩ = some (.int .i64 m.Amt) ∧ w'.cell? ⟨w.heap.size, 3, none⟩ = some (.int .i64 m.Src))
    (first | exact ⟨c_a_0_w1, c_a_1_w1, c_a_2_w1, c_a_3_w1⟩ | exact ⟨qz1_a_0, qz1_a_1, qz1_a_2, qz1_a_3⟩ | exact ⟨qz2_a_0, qz2_a_1, qz2_a_2, qz2_a_3⟩ | exact ⟨qz3_a_0, qz3_a_1, qz3_a_2, qz3_a_3⟩ | exact ⟨qz4_a_0, qz4_a_1, qz4_a_2, qz4_a_3⟩ | go_keep)
    (first | ((go_at_call 8); (refine (sMsgName_c _ _).mono ?_); rintro e w_z1 ⟨rfl, hd_z1⟩; have hb_z1 : Below w1.heap.size w1 w_z1 := (Below.refl w1.heap.size w1).drew.trans hd_z1; have sd_z1 := hd_z1.size; replace sd_z1 : w1.heap.size ≤ w_z1.heap.size := sd_z1; have qz1_a_0 := (x_a.from_ hb_z1).cell (i := 0) rfl; have qz1_a_1 := (x_a.from_ hb_z1).cell (i := 1) rfl; have qz1_a_2 := (x_a.from_ hb_z1).cell (i := 2) rfl; have qz1_a_3 := (x_a.from_ hb_z1).cell (i := 3) rfl; rw [Hs1.out])
           | ((go_at_call_of 9 (Value.int .i64 m.Acct)); (refine (sNumText_any m.Acct _).mono ?_); rintro e w_z2 ⟨rfl, hd_z2⟩; have hb_z2 : Below w1.heap.size w1 w_z2 := hb_z1.trans (hd_z2.mono hb_z1.size); have sd_z2 := hd_z2.size; have qz2_a_0 := (x_a.from_ hb_z2).cell (i := 0) rfl; have qz2_a_1 := (x_a.from_ hb_z2).cell (i := 1) rfl; have qz2_a_2 := (x_a.from_ hb_z2).cell (i := 2) rfl; have qz2_a_3 := (x_a.from_ hb_z2).cell (i := 3) rfl; rw [Hs2.out])
           | ((go_at_call_of 9 (Value.int .i64 m.Amt)); (refine (sNumText_any m.Amt _).mono ?_); rintro e w_z3 ⟨rfl, hd_z3⟩; have hb_z3 : Below w1.heap.size w1 w_z3 := hb_z2.trans (hd_z3.mono hb_z2.size); have sd_z3 := hd_z3.size; have qz3_a_0 := (x_a.from_ hb_z3).cell (i := 0) rfl; have qz3_a_1 := (x_a.from_ hb_z3).cell (i := 1) rfl; have qz3_a_2 := (x_a.from_ hb_z3).cell (i := 2) rfl; have qz3_a_3 := (x_a.from_ hb_z3).cell (i := 3) rfl; rw [Hs3.out])
           | ((go_at_call_of 9 (Value.int .i64 m.Src)); (refine (sNumText_any m.Src _).mono ?_); rintro e w_z4 ⟨rfl, hd_z4⟩; have hb_z4 : Below w1.heap.size w1 w_z4 := hb_z3.trans (hd_z4.mono hb_z3.size); have sd_z4 := hd_z4.size; have qz4_a_0 := (x_a.from_ hb_z4).cell (i := 0) rfl; have qz4_a_1 := (x_a.from_ hb_z4).cell (i := 1) rfl; have qz4_a_2 := (x_a.from_ hb_z4).cell (i := 2) rfl; have qz4_a_3 := (x_a.from_ hb_z4).cell (i := 3) rfl; rw [Hs4.out])
           | fail)
  clear c_a_0_w1 c_a_1_w1 c_a_2_w1 c_a_3_w1
  have dz_w1 : w1.drew.heap.size = w1.heap.size := rfl
  replace x_a := x_a.from_ hb_z4
  have B_z4 := B_w1.trans (hb_z4.mono B_w1.size)
  have sz_z4 := hb_z4.size
  go_wp2
  go_ret
  exact ⟨ret_eq (by rw [HP2.out]; rfl), B_z4⟩

end Go.Proofs.YtdhphfmjekbmjaaDoor
