/- Contract: impl.MsgText. -/
import Derived.Test.YtkbhbccpmmhelaaDoorBunM
import Derived.Test.YtkbhbccpmmhelaaDoorMsgIN
import Derived.Test.YtkbhbccpmmhelaaDoorBunT
namespace Go.Proofs.YtkbhbccpmmhelaaDoor
open Go.RowKit
set_option linter.unusedVariables false

theorem join4_eq (s1 s2 s3 s4 : ByteArray) : (⟨(Lib.join ([s1, s2, s3, s4].map (·.data.toList)) (⟨#[32]⟩ : ByteArray).data.toList).toArray⟩ : ByteArray) = s1 ++ ⟨#[32]⟩ ++ s2 ++ ⟨#[32]⟩ ++ s3 ++ ⟨#[32]⟩ ++ s4 := by
  apply ByteArray.ext
  apply Array.toList_inj.1
  simp [Lib.join, List.intercalate, ByteArray.data_append]

theorem join4_c (s1 s2 s3 s4 : ByteArray) (w : World) (t : TypeId) (z1 : s1.size ≤ 16) (z2 : s2.size ≤ 16) (z3 : s3.size ≤ 16) (z4 : s4.size ≤ 16) :
    Calls Tryd.prog 31 #[.slice (some ⟨w.heap.size, 0, none⟩) 4 4, .string ⟨#[32]⟩] (w.alloc (.cells #[.string s1, .string s2, .string s3, .string s4] t)) fun e w' => e = .returned (.string (s1 ++ ⟨#[32]⟩ ++ s2 ++ ⟨#[32]⟩ ++ s3 ++ ⟨#[32]⟩ ++ s4)) ∧ Below w.heap.size w w' := by
  have x := Vr.new w t [.string s1, .string s2, .string s3, .string s4]
  have B : Below w.heap.size w (w.alloc (.cells #[.string s1, .string s2, .string s3, .string s4] t)) := (Below.refl _ _).alloc (Nat.le_refl _) _
  have hl : (Lib.join ([s1, s2, s3, s4].map (·.data.toList)) (⟨#[32]⟩ : ByteArray).data.toList).length ≤ 140737488355328 := by
    have h1 : s1.data.toList.length = s1.size := rfl
    have h2 : s2.data.toList.length = s2.size := rfl
    have h3 : s3.data.toList.length = s3.size := rfl
    have h4 : s4.data.toList.length = s4.size := rfl
    simp only [Lib.join, List.intercalate, List.map_cons, List.map_nil, List.intersperse, List.flatten_cons, List.flatten_nil, List.length_append, List.length_cons, List.length_nil, h1, h2, h3, h4]
    omega
  refine (Tryd.strings_Join w.heap.size 0 4 [s1, s2, s3, s4] ⟨#[32]⟩ _ ?_ (by simp) (by simp) (by simp) hl).mono ?_
  · intro j y hj
    rw [Nat.zero_add]
    refine x.cell (i := j) ?_
    have : [Value.string s1, .string s2, .string s3, .string s4] = [s1, s2, s3, s4].map Value.string := rfl
    rw [this, List.getElem?_map, hj]
    rfl
  · rintro e w' ⟨rfl, h⟩
    exact ⟨by rw [join4_eq], B.trans (h.mono (by simp))⟩

set_option maxRecDepth 100000 in
set_option maxHeartbeats 4000000 in
theorem text1_c {w : World} (ht : Tab10 w) (a b s : Int) (ho : msgOkB ⟨1, a, b, s⟩ = true) : Calls Tryd.prog 15 #[.agg #[.int .i64 1, .int .i64 a, .int .i64 b, .int .i64 s]] w fun e w' => e = .returned (.string (msgText ⟨1, a, b, s⟩)) ∧ Below w.heap.size w w' := by
  have hp := msgOk_parts ho
  obtain ⟨q1, q2, -, -, q3⟩ := hp
  simp only at q1 q2 q3
  obtain ⟨s1, hs1⟩ : ∃ z, msgName 1 = z := ⟨_, rfl⟩
  have zs1 : s1.size ≤ 16 := by rw [← hs1]; exact Nat.le_trans (msgName_size _) (by omega)
  have Hs1 := Lib.hid hs1
  obtain ⟨s2, hs2⟩ : ∃ z, numText a = z := ⟨_, rfl⟩
  have zs2 : s2.size ≤ 16 := by rw [← hs2]; exact numText_size _
  have Hs2 := Lib.hid hs2
  obtain ⟨s3, hs3⟩ : ∃ z, numText b = z := ⟨_, rfl⟩
  have zs3 : s3.size ≤ 16 := by rw [← hs3]; exact numText_size _
  have Hs3 := Lib.hid hs3
  obtain ⟨s4, hs4⟩ : ∃ z, numText s = z := ⟨_, rfl⟩
  have zs4 : s4.size ≤ 16 := by rw [← hs4]; exact numText_size _
  have Hs4 := Lib.hid hs4
  obtain ⟨R, hR⟩ : ∃ z, s1 ++ ⟨#[32]⟩ ++ s2 ++ ⟨#[32]⟩ ++ s3 ++ ⟨#[32]⟩ ++ s4 = z := ⟨_, rfl⟩
  have HP : Hid (msgText ⟨1, a, b, s⟩ = R) := by show _ = _; unfold msgText; rw [if_pos ho]; simp only []; rw [hs1, hs2, hs3, hs4, hR]
  have HR := Lib.hid hR
  have HO := Lib.hid ho
  clear ho hs1 hs2 hs3 hs4 hR
  obtain ⟨wa, hwa, B0, sa, x_a⟩ := frame1 w 24 [.int .i64 1, .int .i64 a, .int .i64 b, .int .i64 s]
  have sa_1 := Nat.le_of_eq sa
  have sa_2 := Nat.le_of_eq sa.symm
  clear sa
  have c_a_0_wa := x_a.cell (i := 0) rfl
  have c_a_1_wa := x_a.cell (i := 1) rfl
  have c_a_2_wa := x_a.cell (i := 2) rfl
  have c_a_3_wa := x_a.cell (i := 3) rfl
  go_enter Tryd.func15, Tryd.ntmps15
  go_wp2_with fail
  refine (valid1_c _ _ _ _).mono ?_
  rintro e w1 ⟨rfl, h_w1⟩
  clear c_a_0_wa c_a_1_wa c_a_2_wa c_a_3_wa
  replace x_a := x_a.from_ h_w1
  have B_w1 := B0.trans (h_w1.mono B0.size)
  have s_w1 := h_w1.size
  rw [if_pos HO.out]
  have c_a_0_w1 := x_a.cell (i := 0) rfl
  have c_a_1_w1 := x_a.cell (i := 1) rfl
  have c_a_2_w1 := x_a.cell (i := 2) rfl
  have c_a_3_w1 := x_a.cell (i := 3) rfl
  go_wp2_with fail
  go_region_held3 (fun w' => w'.cell? ⟨w.heap.size, 0, none⟩ = some (.int .i64 1) ∧ w'.cell? ⟨w.heap.size, 1, none⟩ = some (.int .i64 a) ∧ w'.cell? ⟨w.heap.size, 2, none⟩ = some (.int .i64 b) ∧ w'.cell? ⟨w.heap.size, 3, none⟩ = some (.int .i64 s))
    (first | exact ⟨c_a_0_w1, c_a_1_w1, c_a_2_w1, c_a_3_w1⟩ | exact ⟨qz1_a_0, qz1_a_1, qz1_a_2, qz1_a_3⟩ | exact ⟨qz2_a_0, qz2_a_1, qz2_a_2, qz2_a_3⟩ | exact ⟨qz3_a_0, qz3_a_1, qz3_a_2, qz3_a_3⟩ | exact ⟨qz4_a_0, qz4_a_1, qz4_a_2, qz4_a_3⟩ | exact ⟨qz5_a_0, qz5_a_1, qz5_a_2, qz5_a_3⟩ | exact ⟨((x_a.from_ hb_z4).alloc _).cell (i := 0) rfl, ((x_a.from_ hb_z4).alloc _).cell (i := 1) rfl, ((x_a.from_ hb_z4).alloc _).cell (i := 2) rfl, ((x_a.from_ hb_z4).alloc _).cell (i := 3) rfl⟩ | go_keep)
    (first | ((go_at_call 112); (refine (name1_c _ _ _ _ _).mono ?_); rintro e w_z1 ⟨rfl, hd_z1⟩; have hb_z1 : Below w1.heap.size w1 w_z1 := (Below.refl w1.heap.size w1).drew.trans hd_z1; have sd_z1 := hd_z1.size; replace sd_z1 : w1.heap.size ≤ w_z1.heap.size := sd_z1; have qz1_a_0 := (x_a.from_ hb_z1).cell (i := 0) rfl; have qz1_a_1 := (x_a.from_ hb_z1).cell (i := 1) rfl; have qz1_a_2 := (x_a.from_ hb_z1).cell (i := 2) rfl; have qz1_a_3 := (x_a.from_ hb_z1).cell (i := 3) rfl; rw [Hs1.out])
           | ((go_at_call_of 30 (Value.int .i64 a)); (refine (iNumText_any a _ (ht.below (B_w1.trans (hb_z1.mono B_w1.size))) (by omega) (by omega)).mono ?_); rintro e w_z2 ⟨rfl, hd_z2⟩; have hb_z2 : Below w1.heap.size w1 w_z2 := hb_z1.trans (hd_z2.mono hb_z1.size); have sd_z2 := hd_z2.size; have qz2_a_0 := (x_a.from_ hb_z2).cell (i := 0) rfl; have qz2_a_1 := (x_a.from_ hb_z2).cell (i := 1) rfl; have qz2_a_2 := (x_a.from_ hb_z2).cell (i := 2) rfl; have qz2_a_3 := (x_a.from_ hb_z2).cell (i := 3) rfl; rw [Hs2.out])
           | ((go_at_call_of 30 (Value.int .i64 b)); (refine (iNumText_any b _ (ht.below (B_w1.trans (hb_z2.mono B_w1.size))) (by omega) (by omega)).mono ?_); rintro e w_z3 ⟨rfl, hd_z3⟩; have hb_z3 : Below w1.heap.size w1 w_z3 := hb_z2.trans (hd_z3.mono hb_z2.size); have sd_z3 := hd_z3.size; have qz3_a_0 := (x_a.from_ hb_z3).cell (i := 0) rfl; have qz3_a_1 := (x_a.from_ hb_z3).cell (i := 1) rfl; have qz3_a_2 := (x_a.from_ hb_z3).cell (i := 2) rfl; have qz3_a_3 := (x_a.from_ hb_z3).cell (i := 3) rfl; rw [Hs3.out])
           | ((go_at_call_of 30 (Value.int .i64 s)); (refine (iNumText_any s _ (ht.below (B_w1.trans (hb_z3.mono B_w1.size))) (by omega) (by omega)).mono ?_); rintro e w_z4 ⟨rfl, hd_z4⟩; have hb_z4 : Below w1.heap.size w1 w_z4 := hb_z3.trans (hd_z4.mono hb_z3.size); have sd_z4 := hd_z4.size; have qz4_a_0 := (x_a.from_ hb_z4).cell (i := 0) rfl; have qz4_a_1 := (x_a.from_ hb_z4).cell (i := 1) rfl; have qz4_a_2 := (x_a.from_ hb_z4).cell (i := 2) rfl; have qz4_a_3 := (x_a.from_ hb_z4).cell (i := 3) rfl; rw [Hs4.out])
           | ((go_at_call 31); (refine (join4_c s1 s2 s3 s4 w_z4 9 zs1 zs2 zs3 zs4).mono ?_); rintro e w_z5 ⟨rfl, hd_z5⟩; have hb_z5 : Below w1.heap.size w1 w_z5 := hb_z4.trans (hd_z5.mono hb_z4.size); have sd_z5 := hd_z5.size; have qz5_a_0 := (x_a.from_ hb_z5).cell (i := 0) rfl; have qz5_a_1 := (x_a.from_ hb_z5).cell (i := 1) rfl; have qz5_a_2 := (x_a.from_ hb_z5).cell (i := 2) rfl; have qz5_a_3 := (x_a.from_ hb_z5).cell (i := 3) rfl; rw [HR.out])
           | fail)
  clear c_a_0_w1 c_a_1_w1 c_a_2_w1 c_a_3_w1
  have dz_w1 : w1.drew.heap.size = w1.heap.size := rfl
  replace x_a := x_a.from_ hb_z5
  have B_z5 := B_w1.trans (hb_z5.mono B_w1.size)
  have sz_z5 := hb_z5.size
  go_wp2
  go_ret
  exact ⟨ret_eq (by rw [HP.out]; rfl), B_z5⟩

set_option maxRecDepth 100000 in
set_option maxHeartbeats 4000000 in
theorem text2_c {w : World} (ht : Tab10 w) (a b s : Int) (ho : msgOkB ⟨2, a, b, s⟩ = true) : Calls Tryd.prog 15 #[.agg #[.int .i64 2, .int .i64 a, .int .i64 b, .int .i64 s]] w fun e w' => e = .returned (.string (msgText ⟨2, a, b, s⟩)) ∧ Below w.heap.size w w' := by
  have hp := msgOk_parts ho
  obtain ⟨q1, q2, -, -, q3⟩ := hp
  simp only at q1 q2 q3
  obtain ⟨s1, hs1⟩ : ∃ z, msgName 2 = z := ⟨_, rfl⟩
  have zs1 : s1.size ≤ 16 := by rw [← hs1]; exact Nat.le_trans (msgName_size _) (by omega)
  have Hs1 := Lib.hid hs1
  obtain ⟨s2, hs2⟩ : ∃ z, numText a = z := ⟨_, rfl⟩
  have zs2 : s2.size ≤ 16 := by rw [← hs2]; exact numText_size _
  have Hs2 := Lib.hid hs2
  obtain ⟨s3, hs3⟩ : ∃ z, numText b = z := ⟨_, rfl⟩
  have zs3 : s3.size ≤ 16 := by rw [← hs3]; exact numText_size _
  have Hs3 := Lib.hid hs3
  obtain ⟨s4, hs4⟩ : ∃ z, numText s = z := ⟨_, rfl⟩
  have zs4 : s4.size ≤ 16 := by rw [← hs4]; exact numText_size _
  have Hs4 := Lib.hid hs4
  obtain ⟨R, hR⟩ : ∃ z, s1 ++ ⟨#[32]⟩ ++ s2 ++ ⟨#[32]⟩ ++ s3 ++ ⟨#[32]⟩ ++ s4 = z := ⟨_, rfl⟩
  have HP : Hid (msgText ⟨2, a, b, s⟩ = R) := by show _ = _; unfold msgText; rw [if_pos ho]; simp only []; rw [hs1, hs2, hs3, hs4, hR]
  have HR := Lib.hid hR
  have HO := Lib.hid ho
  clear ho hs1 hs2 hs3 hs4 hR
  obtain ⟨wa, hwa, B0, sa, x_a⟩ := frame1 w 24 [.int .i64 2, .int .i64 a, .int .i64 b, .int .i64 s]
  have sa_1 := Nat.le_of_eq sa
  have sa_2 := Nat.le_of_eq sa.symm
  clear sa
  have c_a_0_wa := x_a.cell (i := 0) rfl
  have c_a_1_wa := x_a.cell (i := 1) rfl
  have c_a_2_wa := x_a.cell (i := 2) rfl
  have c_a_3_wa := x_a.cell (i := 3) rfl
  go_enter Tryd.func15, Tryd.ntmps15
  go_wp2_with fail
  refine (valid2_c _ _ _ _).mono ?_
  rintro e w1 ⟨rfl, h_w1⟩
  clear c_a_0_wa c_a_1_wa c_a_2_wa c_a_3_wa
  replace x_a := x_a.from_ h_w1
  have B_w1 := B0.trans (h_w1.mono B0.size)
  have s_w1 := h_w1.size
  rw [if_pos HO.out]
  have c_a_0_w1 := x_a.cell (i := 0) rfl
  have c_a_1_w1 := x_a.cell (i := 1) rfl
  have c_a_2_w1 := x_a.cell (i := 2) rfl
  have c_a_3_w1 := x_a.cell (i := 3) rfl
  go_wp2_with fail
  go_region_held3 (fun w' => w'.cell? ⟨w.heap.size, 0, none⟩ = some (.int .i64 2) ∧ w'.cell? ⟨w.heap.size, 1, none⟩ = some (.int .i64 a) ∧ w'.cell? ⟨w.heap.size, 2, none⟩ = some (.int .i64 b) ∧ w'.cell? ⟨w.heap.size, 3, none⟩ = some (.int .i64 s))
    (first | exact ⟨c_a_0_w1, c_a_1_w1, c_a_2_w1, c_a_3_w1⟩ | exact ⟨qz1_a_0, qz1_a_1, qz1_a_2, qz1_a_3⟩ | exact ⟨qz2_a_0, qz2_a_1, qz2_a_2, qz2_a_3⟩ | exact ⟨qz3_a_0, qz3_a_1, qz3_a_2, qz3_a_3⟩ | exact ⟨qz4_a_0, qz4_a_1, qz4_a_2, qz4_a_3⟩ | exact ⟨qz5_a_0, qz5_a_1, qz5_a_2, qz5_a_3⟩ | exact ⟨((x_a.from_ hb_z4).alloc _).cell (i := 0) rfl, ((x_a.from_ hb_z4).alloc _).cell (i := 1) rfl, ((x_a.from_ hb_z4).alloc _).cell (i := 2) rfl, ((x_a.from_ hb_z4).alloc _).cell (i := 3) rfl⟩ | go_keep)
    (first | ((go_at_call 114); (refine (name2_c _ _ _ _ _).mono ?_); rintro e w_z1 ⟨rfl, hd_z1⟩; have hb_z1 : Below w1.heap.size w1 w_z1 := (Below.refl w1.heap.size w1).drew.trans hd_z1; have sd_z1 := hd_z1.size; replace sd_z1 : w1.heap.size ≤ w_z1.heap.size := sd_z1; have qz1_a_0 := (x_a.from_ hb_z1).cell (i := 0) rfl; have qz1_a_1 := (x_a.from_ hb_z1).cell (i := 1) rfl; have qz1_a_2 := (x_a.from_ hb_z1).cell (i := 2) rfl; have qz1_a_3 := (x_a.from_ hb_z1).cell (i := 3) rfl; rw [Hs1.out])
           | ((go_at_call_of 30 (Value.int .i64 a)); (refine (iNumText_any a _ (ht.below (B_w1.trans (hb_z1.mono B_w1.size))) (by omega) (by omega)).mono ?_); rintro e w_z2 ⟨rfl, hd_z2⟩; have hb_z2 : Below w1.heap.size w1 w_z2 := hb_z1.trans (hd_z2.mono hb_z1.size); have sd_z2 := hd_z2.size; have qz2_a_0 := (x_a.from_ hb_z2).cell (i := 0) rfl; have qz2_a_1 := (x_a.from_ hb_z2).cell (i := 1) rfl; have qz2_a_2 := (x_a.from_ hb_z2).cell (i := 2) rfl; have qz2_a_3 := (x_a.from_ hb_z2).cell (i := 3) rfl; rw [Hs2.out])
           | ((go_at_call_of 30 (Value.int .i64 b)); (refine (iNumText_any b _ (ht.below (B_w1.trans (hb_z2.mono B_w1.size))) (by omega) (by omega)).mono ?_); rintro e w_z3 ⟨rfl, hd_z3⟩; have hb_z3 : Below w1.heap.size w1 w_z3 := hb_z2.trans (hd_z3.mono hb_z2.size); have sd_z3 := hd_z3.size; have qz3_a_0 := (x_a.from_ hb_z3).cell (i := 0) rfl; have qz3_a_1 := (x_a.from_ hb_z3).cell (i := 1) rfl; have qz3_a_2 := (x_a.from_ hb_z3).cell (i := 2) rfl; have qz3_a_3 := (x_a.from_ hb_z3).cell (i := 3) rfl; rw [Hs3.out])
           | ((go_at_call_of 30 (Value.int .i64 s)); (refine (iNumText_any s _ (ht.below (B_w1.trans (hb_z3.mono B_w1.size))) (by omega) (by omega)).mono ?_); rintro e w_z4 ⟨rfl, hd_z4⟩; have hb_z4 : Below w1.heap.size w1 w_z4 := hb_z3.trans (hd_z4.mono hb_z3.size); have sd_z4 := hd_z4.size; have qz4_a_0 := (x_a.from_ hb_z4).cell (i := 0) rfl; have qz4_a_1 := (x_a.from_ hb_z4).cell (i := 1) rfl; have qz4_a_2 := (x_a.from_ hb_z4).cell (i := 2) rfl; have qz4_a_3 := (x_a.from_ hb_z4).cell (i := 3) rfl; rw [Hs4.out])
           | ((go_at_call 31); (refine (join4_c s1 s2 s3 s4 w_z4 9 zs1 zs2 zs3 zs4).mono ?_); rintro e w_z5 ⟨rfl, hd_z5⟩; have hb_z5 : Below w1.heap.size w1 w_z5 := hb_z4.trans (hd_z5.mono hb_z4.size); have sd_z5 := hd_z5.size; have qz5_a_0 := (x_a.from_ hb_z5).cell (i := 0) rfl; have qz5_a_1 := (x_a.from_ hb_z5).cell (i := 1) rfl; have qz5_a_2 := (x_a.from_ hb_z5).cell (i := 2) rfl; have qz5_a_3 := (x_a.from_ hb_z5).cell (i := 3) rfl; rw [HR.out])
           | fail)
  clear c_a_0_w1 c_a_1_w1 c_a_2_w1 c_a_3_w1
  have dz_w1 : w1.drew.heap.size = w1.heap.size := rfl
  replace x_a := x_a.from_ hb_z5
  have B_z5 := B_w1.trans (hb_z5.mono B_w1.size)
  have sz_z5 := hb_z5.size
  go_wp2
  go_ret
  exact ⟨ret_eq (by rw [HP.out]; rfl), B_z5⟩

set_option maxRecDepth 100000 in
set_option maxHeartbeats 4000000 in
theorem text3_c {w : World} (ht : Tab10 w) (a b s : Int) (ho : msgOkB ⟨3, a, b, s⟩ = true) : Calls Tryd.prog 15 #[.agg #[.int .i64 3, .int .i64 a, .int .i64 b, .int .i64 s]] w fun e w' => e = .returned (.string (msgText ⟨3, a, b, s⟩)) ∧ Below w.heap.size w w' := by
  have hp := msgOk_parts ho
  obtain ⟨q1, q2, -, -, q3⟩ := hp
  simp only at q1 q2 q3
  obtain ⟨s1, hs1⟩ : ∃ z, msgName 3 = z := ⟨_, rfl⟩
  have zs1 : s1.size ≤ 16 := by rw [← hs1]; exact Nat.le_trans (msgName_size _) (by omega)
  have Hs1 := Lib.hid hs1
  obtain ⟨s2, hs2⟩ : ∃ z, numText a = z := ⟨_, rfl⟩
  have zs2 : s2.size ≤ 16 := by rw [← hs2]; exact numText_size _
  have Hs2 := Lib.hid hs2
  obtain ⟨s3, hs3⟩ : ∃ z, numText b = z := ⟨_, rfl⟩
  have zs3 : s3.size ≤ 16 := by rw [← hs3]; exact numText_size _
  have Hs3 := Lib.hid hs3
  obtain ⟨s4, hs4⟩ : ∃ z, numText s = z := ⟨_, rfl⟩
  have zs4 : s4.size ≤ 16 := by rw [← hs4]; exact numText_size _
  have Hs4 := Lib.hid hs4
  obtain ⟨R, hR⟩ : ∃ z, s1 ++ ⟨#[32]⟩ ++ s2 ++ ⟨#[32]⟩ ++ s3 ++ ⟨#[32]⟩ ++ s4 = z := ⟨_, rfl⟩
  have HP : Hid (msgText ⟨3, a, b, s⟩ = R) := by show _ = _; unfold msgText; rw [if_pos ho]; simp only []; rw [hs1, hs2, hs3, hs4, hR]
  have HR := Lib.hid hR
  have HO := Lib.hid ho
  clear ho hs1 hs2 hs3 hs4 hR
  obtain ⟨wa, hwa, B0, sa, x_a⟩ := frame1 w 24 [.int .i64 3, .int .i64 a, .int .i64 b, .int .i64 s]
  have sa_1 := Nat.le_of_eq sa
  have sa_2 := Nat.le_of_eq sa.symm
  clear sa
  have c_a_0_wa := x_a.cell (i := 0) rfl
  have c_a_1_wa := x_a.cell (i := 1) rfl
  have c_a_2_wa := x_a.cell (i := 2) rfl
  have c_a_3_wa := x_a.cell (i := 3) rfl
  go_enter Tryd.func15, Tryd.ntmps15
  go_wp2_with fail
  refine (valid3_c _ _ _ _).mono ?_
  rintro e w1 ⟨rfl, h_w1⟩
  clear c_a_0_wa c_a_1_wa c_a_2_wa c_a_3_wa
  replace x_a := x_a.from_ h_w1
  have B_w1 := B0.trans (h_w1.mono B0.size)
  have s_w1 := h_w1.size
  rw [if_pos HO.out]
  have c_a_0_w1 := x_a.cell (i := 0) rfl
  have c_a_1_w1 := x_a.cell (i := 1) rfl
  have c_a_2_w1 := x_a.cell (i := 2) rfl
  have c_a_3_w1 := x_a.cell (i := 3) rfl
  go_wp2_with fail
  go_region_held3 (fun w' => w'.cell? ⟨w.heap.size, 0, none⟩ = some (.int .i64 3) ∧ w'.cell? ⟨w.heap.size, 1, none⟩ = some (.int .i64 a) ∧ w'.cell? ⟨w.heap.size, 2, none⟩ = some (.int .i64 b) ∧ w'.cell? ⟨w.heap.size, 3, none⟩ = some (.int .i64 s))
    (first | exact ⟨c_a_0_w1, c_a_1_w1, c_a_2_w1, c_a_3_w1⟩ | exact ⟨qz1_a_0, qz1_a_1, qz1_a_2, qz1_a_3⟩ | exact ⟨qz2_a_0, qz2_a_1, qz2_a_2, qz2_a_3⟩ | exact ⟨qz3_a_0, qz3_a_1, qz3_a_2, qz3_a_3⟩ | exact ⟨qz4_a_0, qz4_a_1, qz4_a_2, qz4_a_3⟩ | exact ⟨qz5_a_0, qz5_a_1, qz5_a_2, qz5_a_3⟩ | exact ⟨((x_a.from_ hb_z4).alloc _).cell (i := 0) rfl, ((x_a.from_ hb_z4).alloc _).cell (i := 1) rfl, ((x_a.from_ hb_z4).alloc _).cell (i := 2) rfl, ((x_a.from_ hb_z4).alloc _).cell (i := 3) rfl⟩ | go_keep)
    (first | ((go_at_call 116); (refine (name3_c _ _ _ _ _).mono ?_); rintro e w_z1 ⟨rfl, hd_z1⟩; have hb_z1 : Below w1.heap.size w1 w_z1 := (Below.refl w1.heap.size w1).drew.trans hd_z1; have sd_z1 := hd_z1.size; replace sd_z1 : w1.heap.size ≤ w_z1.heap.size := sd_z1; have qz1_a_0 := (x_a.from_ hb_z1).cell (i := 0) rfl; have qz1_a_1 := (x_a.from_ hb_z1).cell (i := 1) rfl; have qz1_a_2 := (x_a.from_ hb_z1).cell (i := 2) rfl; have qz1_a_3 := (x_a.from_ hb_z1).cell (i := 3) rfl; rw [Hs1.out])
           | ((go_at_call_of 30 (Value.int .i64 a)); (refine (iNumText_any a _ (ht.below (B_w1.trans (hb_z1.mono B_w1.size))) (by omega) (by omega)).mono ?_); rintro e w_z2 ⟨rfl, hd_z2⟩; have hb_z2 : Below w1.heap.size w1 w_z2 := hb_z1.trans (hd_z2.mono hb_z1.size); have sd_z2 := hd_z2.size; have qz2_a_0 := (x_a.from_ hb_z2).cell (i := 0) rfl; have qz2_a_1 := (x_a.from_ hb_z2).cell (i := 1) rfl; have qz2_a_2 := (x_a.from_ hb_z2).cell (i := 2) rfl; have qz2_a_3 := (x_a.from_ hb_z2).cell (i := 3) rfl; rw [Hs2.out])
           | ((go_at_call_of 30 (Value.int .i64 b)); (refine (iNumText_any b _ (ht.below (B_w1.trans (hb_z2.mono B_w1.size))) (by omega) (by omega)).mono ?_); rintro e w_z3 ⟨rfl, hd_z3⟩; have hb_z3 : Below w1.heap.size w1 w_z3 := hb_z2.trans (hd_z3.mono hb_z2.size); have sd_z3 := hd_z3.size; have qz3_a_0 := (x_a.from_ hb_z3).cell (i := 0) rfl; have qz3_a_1 := (x_a.from_ hb_z3).cell (i := 1) rfl; have qz3_a_2 := (x_a.from_ hb_z3).cell (i := 2) rfl; have qz3_a_3 := (x_a.from_ hb_z3).cell (i := 3) rfl; rw [Hs3.out])
           | ((go_at_call_of 30 (Value.int .i64 s)); (refine (iNumText_any s _ (ht.below (B_w1.trans (hb_z3.mono B_w1.size))) (by omega) (by omega)).mono ?_); rintro e w_z4 ⟨rfl, hd_z4⟩; have hb_z4 : Below w1.heap.size w1 w_z4 := hb_z3.trans (hd_z4.mono hb_z3.size); have sd_z4 := hd_z4.size; have qz4_a_0 := (x_a.from_ hb_z4).cell (i := 0) rfl; have qz4_a_1 := (x_a.from_ hb_z4).cell (i := 1) rfl; have qz4_a_2 := (x_a.from_ hb_z4).cell (i := 2) rfl; have qz4_a_3 := (x_a.from_ hb_z4).cell (i := 3) rfl; rw [Hs4.out])
           | ((go_at_call 31); (refine (join4_c s1 s2 s3 s4 w_z4 9 zs1 zs2 zs3 zs4).mono ?_); rintro e w_z5 ⟨rfl, hd_z5⟩; have hb_z5 : Below w1.heap.size w1 w_z5 := hb_z4.trans (hd_z5.mono hb_z4.size); have sd_z5 := hd_z5.size; have qz5_a_0 := (x_a.from_ hb_z5).cell (i := 0) rfl; have qz5_a_1 := (x_a.from_ hb_z5).cell (i := 1) rfl; have qz5_a_2 := (x_a.from_ hb_z5).cell (i := 2) rfl; have qz5_a_3 := (x_a.from_ hb_z5).cell (i := 3) rfl; rw [HR.out])
           | fail)
  clear c_a_0_w1 c_a_1_w1 c_a_2_w1 c_a_3_w1
  have dz_w1 : w1.drew.heap.size = w1.heap.size := rfl
  replace x_a := x_a.from_ hb_z5
  have B_z5 := B_w1.trans (hb_z5.mono B_w1.size)
  have sz_z5 := hb_z5.size
  go_wp2
  go_ret
  exact ⟨ret_eq (by rw [HP.out]; rfl), B_z5⟩

set_option maxRecDepth 100000 in
set_option maxHeartbeats 4000000 in
theorem text4_c {w : World} (ht : Tab10 w) (a b s : Int) (ho : msgOkB ⟨4, a, b, s⟩ = true) : Calls Tryd.prog 15 #[.agg #[.int .i64 4, .int .i64 a, .int .i64 b, .int .i64 s]] w fun e w' => e = .returned (.string (msgText ⟨4, a, b, s⟩)) ∧ Below w.heap.size w w' := by
  have hp := msgOk_parts ho
  obtain ⟨q1, q2, -, -, q3⟩ := hp
  simp only at q1 q2 q3
  obtain ⟨s1, hs1⟩ : ∃ z, msgName 4 = z := ⟨_, rfl⟩
  have zs1 : s1.size ≤ 16 := by rw [← hs1]; exact Nat.le_trans (msgName_size _) (by omega)
  have Hs1 := Lib.hid hs1
  obtain ⟨s2, hs2⟩ : ∃ z, numText a = z := ⟨_, rfl⟩
  have zs2 : s2.size ≤ 16 := by rw [← hs2]; exact numText_size _
  have Hs2 := Lib.hid hs2
  obtain ⟨s3, hs3⟩ : ∃ z, numText b = z := ⟨_, rfl⟩
  have zs3 : s3.size ≤ 16 := by rw [← hs3]; exact numText_size _
  have Hs3 := Lib.hid hs3
  obtain ⟨s4, hs4⟩ : ∃ z, numText s = z := ⟨_, rfl⟩
  have zs4 : s4.size ≤ 16 := by rw [← hs4]; exact numText_size _
  have Hs4 := Lib.hid hs4
  obtain ⟨R, hR⟩ : ∃ z, s1 ++ ⟨#[32]⟩ ++ s2 ++ ⟨#[32]⟩ ++ s3 ++ ⟨#[32]⟩ ++ s4 = z := ⟨_, rfl⟩
  have HP : Hid (msgText ⟨4, a, b, s⟩ = R) := by show _ = _; unfold msgText; rw [if_pos ho]; simp only []; rw [hs1, hs2, hs3, hs4, hR]
  have HR := Lib.hid hR
  have HO := Lib.hid ho
  clear ho hs1 hs2 hs3 hs4 hR
  obtain ⟨wa, hwa, B0, sa, x_a⟩ := frame1 w 24 [.int .i64 4, .int .i64 a, .int .i64 b, .int .i64 s]
  have sa_1 := Nat.le_of_eq sa
  have sa_2 := Nat.le_of_eq sa.symm
  clear sa
  have c_a_0_wa := x_a.cell (i := 0) rfl
  have c_a_1_wa := x_a.cell (i := 1) rfl
  have c_a_2_wa := x_a.cell (i := 2) rfl
  have c_a_3_wa := x_a.cell (i := 3) rfl
  go_enter Tryd.func15, Tryd.ntmps15
  go_wp2_with fail
  refine (valid4_c _ _ _ _).mono ?_
  rintro e w1 ⟨rfl, h_w1⟩
  clear c_a_0_wa c_a_1_wa c_a_2_wa c_a_3_wa
  replace x_a := x_a.from_ h_w1
  have B_w1 := B0.trans (h_w1.mono B0.size)
  have s_w1 := h_w1.size
  rw [if_pos HO.out]
  have c_a_0_w1 := x_a.cell (i := 0) rfl
  have c_a_1_w1 := x_a.cell (i := 1) rfl
  have c_a_2_w1 := x_a.cell (i := 2) rfl
  have c_a_3_w1 := x_a.cell (i := 3) rfl
  go_wp2_with fail
  go_region_held3 (fun w' => w'.cell? ⟨w.heap.size, 0, none⟩ = some (.int .i64 4) ∧ w'.cell? ⟨w.heap.size, 1, none⟩ = some (.int .i64 a) ∧ w'.cell? ⟨w.heap.size, 2, none⟩ = some (.int .i64 b) ∧ w'.cell? ⟨w.heap.size, 3, none⟩ = some (.int .i64 s))
    (first | exact ⟨c_a_0_w1, c_a_1_w1, c_a_2_w1, c_a_3_w1⟩ | exact ⟨qz1_a_0, qz1_a_1, qz1_a_2, qz1_a_3⟩ | exact ⟨qz2_a_0, qz2_a_1, qz2_a_2, qz2_a_3⟩ | exact ⟨qz3_a_0, qz3_a_1, qz3_a_2, qz3_a_3⟩ | exact ⟨qz4_a_0, qz4_a_1, qz4_a_2, qz4_a_3⟩ | exact ⟨qz5_a_0, qz5_a_1, qz5_a_2, qz5_a_3⟩ | exact ⟨((x_a.from_ hb_z4).alloc _).cell (i := 0) rfl, ((x_a.from_ hb_z4).alloc _).cell (i := 1) rfl, ((x_a.from_ hb_z4).alloc _).cell (i := 2) rfl, ((x_a.from_ hb_z4).alloc _).cell (i := 3) rfl⟩ | go_keep)
    (first | ((go_at_call 118); (refine (name4_c _ _ _ _ _).mono ?_); rintro e w_z1 ⟨rfl, hd_z1⟩; have hb_z1 : Below w1.heap.size w1 w_z1 := (Below.refl w1.heap.size w1).drew.trans hd_z1; have sd_z1 := hd_z1.size; replace sd_z1 : w1.heap.size ≤ w_z1.heap.size := sd_z1; have qz1_a_0 := (x_a.from_ hb_z1).cell (i := 0) rfl; have qz1_a_1 := (x_a.from_ hb_z1).cell (i := 1) rfl; have qz1_a_2 := (x_a.from_ hb_z1).cell (i := 2) rfl; have qz1_a_3 := (x_a.from_ hb_z1).cell (i := 3) rfl; rw [Hs1.out])
           | ((go_at_call_of 30 (Value.int .i64 a)); (refine (iNumText_any a _ (ht.below (B_w1.trans (hb_z1.mono B_w1.size))) (by omega) (by omega)).mono ?_); rintro e w_z2 ⟨rfl, hd_z2⟩; have hb_z2 : Below w1.heap.size w1 w_z2 := hb_z1.trans (hd_z2.mono hb_z1.size); have sd_z2 := hd_z2.size; have qz2_a_0 := (x_a.from_ hb_z2).cell (i := 0) rfl; have qz2_a_1 := (x_a.from_ hb_z2).cell (i := 1) rfl; have qz2_a_2 := (x_a.from_ hb_z2).cell (i := 2) rfl; have qz2_a_3 := (x_a.from_ hb_z2).cell (i := 3) rfl; rw [Hs2.out])
           | ((go_at_call_of 30 (Value.int .i64 b)); (refine (iNumText_any b _ (ht.below (B_w1.trans (hb_z2.mono B_w1.size))) (by omega) (by omega)).mono ?_); rintro e w_z3 ⟨rfl, hd_z3⟩; have hb_z3 : Below w1.heap.size w1 w_z3 := hb_z2.trans (hd_z3.mono hb_z2.size); have sd_z3 := hd_z3.size; have qz3_a_0 := (x_a.from_ hb_z3).cell (i := 0) rfl; have qz3_a_1 := (x_a.from_ hb_z3).cell (i := 1) rfl; have qz3_a_2 := (x_a.from_ hb_z3).cell (i := 2) rfl; have qz3_a_3 := (x_a.from_ hb_z3).cell (i := 3) rfl; rw [Hs3.out])
           | ((go_at_call_of 30 (Value.int .i64 s)); (refine (iNumText_any s _ (ht.below (B_w1.trans (hb_z3.mono B_w1.size))) (by omega) (by omega)).mono ?_); rintro e w_z4 ⟨rfl, hd_z4⟩; have hb_z4 : Below w1.heap.size w1 w_z4 := hb_z3.trans (hd_z4.mono hb_z3.size); have sd_z4 := hd_z4.size; have qz4_a_0 := (x_a.from_ hb_z4).cell (i := 0) rfl; have qz4_a_1 := (x_a.from_ hb_z4).cell (i := 1) rfl; have qz4_a_2 := (x_a.from_ hb_z4).cell (i := 2) rfl; have qz4_a_3 := (x_a.from_ hb_z4).cell (i := 3) rfl; rw [Hs4.out])
           | ((go_at_call 31); (refine (join4_c s1 s2 s3 s4 w_z4 9 zs1 zs2 zs3 zs4).mono ?_); rintro e w_z5 ⟨rfl, hd_z5⟩; have hb_z5 : Below w1.heap.size w1 w_z5 := hb_z4.trans (hd_z5.mono hb_z4.size); have sd_z5 := hd_z5.size; have qz5_a_0 := (x_a.from_ hb_z5).cell (i := 0) rfl; have qz5_a_1 := (x_a.from_ hb_z5).cell (i := 1) rfl; have qz5_a_2 := (x_a.from_ hb_z5).cell (i := 2) rfl; have qz5_a_3 := (x_a.from_ hb_z5).cell (i := 3) rfl; rw [HR.out])
           | fail)
  clear c_a_0_w1 c_a_1_w1 c_a_2_w1 c_a_3_w1
  have dz_w1 : w1.drew.heap.size = w1.heap.size := rfl
  replace x_a := x_a.from_ hb_z5
  have B_z5 := B_w1.trans (hb_z5.mono B_w1.size)
  have sz_z5 := hb_z5.size
  go_wp2
  go_ret
  exact ⟨ret_eq (by rw [HP.out]; rfl), B_z5⟩

set_option maxRecDepth 100000 in
set_option maxHeartbeats 4000000 in
theorem text5_c {w : World} (ht : Tab10 w) (a b s : Int) (ho : msgOkB ⟨5, a, b, s⟩ = true) : Calls Tryd.prog 15 #[.agg #[.int .i64 5, .int .i64 a, .int .i64 b, .int .i64 s]] w fun e w' => e = .returned (.string (msgText ⟨5, a, b, s⟩)) ∧ Below w.heap.size w w' := by
  have hp := msgOk_parts ho
  obtain ⟨q1, q2, -, -, q3⟩ := hp
  simp only at q1 q2 q3
  obtain ⟨s1, hs1⟩ : ∃ z, msgName 5 = z := ⟨_, rfl⟩
  have zs1 : s1.size ≤ 16 := by rw [← hs1]; exact Nat.le_trans (msgName_size _) (by omega)
  have Hs1 := Lib.hid hs1
  obtain ⟨s2, hs2⟩ : ∃ z, numText a = z := ⟨_, rfl⟩
  have zs2 : s2.size ≤ 16 := by rw [← hs2]; exact numText_size _
  have Hs2 := Lib.hid hs2
  obtain ⟨s3, hs3⟩ : ∃ z, numText b = z := ⟨_, rfl⟩
  have zs3 : s3.size ≤ 16 := by rw [← hs3]; exact numText_size _
  have Hs3 := Lib.hid hs3
  obtain ⟨s4, hs4⟩ : ∃ z, numText s = z := ⟨_, rfl⟩
  have zs4 : s4.size ≤ 16 := by rw [← hs4]; exact numText_size _
  have Hs4 := Lib.hid hs4
  obtain ⟨R, hR⟩ : ∃ z, s1 ++ ⟨#[32]⟩ ++ s2 ++ ⟨#[32]⟩ ++ s3 ++ ⟨#[32]⟩ ++ s4 = z := ⟨_, rfl⟩
  have HP : Hid (msgText ⟨5, a, b, s⟩ = R) := by show _ = _; unfold msgText; rw [if_pos ho]; simp only []; rw [hs1, hs2, hs3, hs4, hR]
  have HR := Lib.hid hR
  have HO := Lib.hid ho
  clear ho hs1 hs2 hs3 hs4 hR
  obtain ⟨wa, hwa, B0, sa, x_a⟩ := frame1 w 24 [.int .i64 5, .int .i64 a, .int .i64 b, .int .i64 s]
  have sa_1 := Nat.le_of_eq sa
  have sa_2 := Nat.le_of_eq sa.symm
  clear sa
  have c_a_0_wa := x_a.cell (i := 0) rfl
  have c_a_1_wa := x_a.cell (i := 1) rfl
  have c_a_2_wa := x_a.cell (i := 2) rfl
  have c_a_3_wa := x_a.cell (i := 3) rfl
  go_enter Tryd.func15, Tryd.ntmps15
  go_wp2_with fail
  refine (valid5_c _ _ _ _).mono ?_
  rintro e w1 ⟨rfl, h_w1⟩
  clear c_a_0_wa c_a_1_wa c_a_2_wa c_a_3_wa
  replace x_a := x_a.from_ h_w1
  have B_w1 := B0.trans (h_w1.mono B0.size)
  have s_w1 := h_w1.size
  rw [if_pos HO.out]
  have c_a_0_w1 := x_a.cell (i := 0) rfl
  have c_a_1_w1 := x_a.cell (i := 1) rfl
  have c_a_2_w1 := x_a.cell (i := 2) rfl
  have c_a_3_w1 := x_a.cell (i := 3) rfl
  go_wp2_with fail
  go_region_held3 (fun w' => w'.cell? ⟨w.heap.size, 0, none⟩ = some (.int .i64 5) ∧ w'.cell? ⟨w.heap.size, 1, none⟩ = some (.int .i64 a) ∧ w'.cell? ⟨w.heap.size, 2, none⟩ = some (.int .i64 b) ∧ w'.cell? ⟨w.heap.size, 3, none⟩ = some (.int .i64 s))
    (first | exact ⟨c_a_0_w1, c_a_1_w1, c_a_2_w1, c_a_3_w1⟩ | exact ⟨qz1_a_0, qz1_a_1, qz1_a_2, qz1_a_3⟩ | exact ⟨qz2_a_0, qz2_a_1, qz2_a_2, qz2_a_3⟩ | exact ⟨qz3_a_0, qz3_a_1, qz3_a_2, qz3_a_3⟩ | exact ⟨qz4_a_0, qz4_a_1, qz4_a_2, qz4_a_3⟩ | exact ⟨qz5_a_0, qz5_a_1, qz5_a_2, qz5_a_3⟩ | exact ⟨((x_a.from_ hb_z4).alloc _).cell (i := 0) rfl, ((x_a.from_ hb_z4).alloc _).cell (i := 1) rfl, ((x_a.from_ hb_z4).alloc _).cell (i := 2) rfl, ((x_a.from_ hb_z4).alloc _).cell (i := 3) rfl⟩ | go_keep)
    (first | ((go_at_call 120); (refine (name5_c _ _ _ _ _).mono ?_); rintro e w_z1 ⟨rfl, hd_z1⟩; have hb_z1 : Below w1.heap.size w1 w_z1 := (Below.refl w1.heap.size w1).drew.trans hd_z1; have sd_z1 := hd_z1.size; replace sd_z1 : w1.heap.size ≤ w_z1.heap.size := sd_z1; have qz1_a_0 := (x_a.from_ hb_z1).cell (i := 0) rfl; have qz1_a_1 := (x_a.from_ hb_z1).cell (i := 1) rfl; have qz1_a_2 := (x_a.from_ hb_z1).cell (i := 2) rfl; have qz1_a_3 := (x_a.from_ hb_z1).cell (i := 3) rfl; rw [Hs1.out])
           | ((go_at_call_of 30 (Value.int .i64 a)); (refine (iNumText_any a _ (ht.below (B_w1.trans (hb_z1.mono B_w1.size))) (by omega) (by omega)).mono ?_); rintro e w_z2 ⟨rfl, hd_z2⟩; have hb_z2 : Below w1.heap.size w1 w_z2 := hb_z1.trans (hd_z2.mono hb_z1.size); have sd_z2 := hd_z2.size; have qz2_a_0 := (x_a.from_ hb_z2).cell (i := 0) rfl; have qz2_a_1 := (x_a.from_ hb_z2).cell (i := 1) rfl; have qz2_a_2 := (x_a.from_ hb_z2).cell (i := 2) rfl; have qz2_a_3 := (x_a.from_ hb_z2).cell (i := 3) rfl; rw [Hs2.out])
           | ((go_at_call_of 30 (Value.int .i64 b)); (refine (iNumText_any b _ (ht.below (B_w1.trans (hb_z2.mono B_w1.size))) (by omega) (by omega)).mono ?_); rintro e w_z3 ⟨rfl, hd_z3⟩; have hb_z3 : Below w1.heap.size w1 w_z3 := hb_z2.trans (hd_z3.mono hb_z2.size); have sd_z3 := hd_z3.size; have qz3_a_0 := (x_a.from_ hb_z3).cell (i := 0) rfl; have qz3_a_1 := (x_a.from_ hb_z3).cell (i := 1) rfl; have qz3_a_2 := (x_a.from_ hb_z3).cell (i := 2) rfl; have qz3_a_3 := (x_a.from_ hb_z3).cell (i := 3) rfl; rw [Hs3.out])
           | ((go_at_call_of 30 (Value.int .i64 s)); (refine (iNumText_any s _ (ht.below (B_w1.trans (hb_z3.mono B_w1.size))) (by omega) (by omega)).mono ?_); rintro e w_z4 ⟨rfl, hd_z4⟩; have hb_z4 : Below w1.heap.size w1 w_z4 := hb_z3.trans (hd_z4.mono hb_z3.size); have sd_z4 := hd_z4.size; have qz4_a_0 := (x_a.from_ hb_z4).cell (i := 0) rfl; have qz4_a_1 := (x_a.from_ hb_z4).cell (i := 1) rfl; have qz4_a_2 := (x_a.from_ hb_z4).cell (i := 2) rfl; have qz4_a_3 := (x_a.from_ hb_z4).cell (i := 3) rfl; rw [Hs4.out])
           | ((go_at_call 31); (refine (join4_c s1 s2 s3 s4 w_z4 9 zs1 zs2 zs3 zs4).mono ?_); rintro e w_z5 ⟨rfl, hd_z5⟩; have hb_z5 : Below w1.heap.size w1 w_z5 := hb_z4.trans (hd_z5.mono hb_z4.size); have sd_z5 := hd_z5.size; have qz5_a_0 := (x_a.from_ hb_z5).cell (i := 0) rfl; have qz5_a_1 := (x_a.from_ hb_z5).cell (i := 1) rfl; have qz5_a_2 := (x_a.from_ hb_z5).cell (i := 2) rfl; have qz5_a_3 := (x_a.from_ hb_z5).cell (i := 3) rfl; rw [HR.out])
           | fail)
  clear c_a_0_w1 c_a_1_w1 c_a_2_w1 c_a_3_w1
  have dz_w1 : w1.drew.heap.size = w1.heap.size := rfl
  replace x_a := x_a.from_ hb_z5
  have B_z5 := B_w1.trans (hb_z5.mono B_w1.size)
  have sz_z5 := hb_z5.size
  go_wp2
  go_ret
  exact ⟨ret_eq (by rw [HP.out]; rfl), B_z5⟩

set_option maxRecDepth 100000 in
set_option maxHeartbeats 4000000 in
theorem iMsgText_c {w : World} {v : Value} {m : MMsg} (ht : Tab10 w) (h : RV msgL w v m) :
    Calls Tryd.prog 15 #[v] w fun e w' => e = .returned (.string (msgText m)) ∧ Below w.heap.size w w' := by
  obtain rfl := rv_msg h
  obtain ⟨k, a, b, s⟩ := m
  by_cases hk : 1 ≤ k ∧ k ≤ 5
  case neg =>
    have HT : Hid (msgText ⟨k, a, b, s⟩ = ⟨#[]⟩) := by show _ = _; unfold msgText; rw [ok0 _ _ _ _ hk]; rfl
    have HK := Lib.hid hk
    clear hk h
    obtain ⟨wa, hwa, B0, sa, x_a⟩ := frame1 w 24 [.int .i64 k, .int .i64 a, .int .i64 b, .int .i64 s]
    have c0 := x_a.cell (i := 0) rfl
    have c1 := x_a.cell (i := 1) rfl
    have c2 := x_a.cell (i := 2) rfl
    have c3 := x_a.cell (i := 3) rfl
    clear sa
    go_enter Tryd.func15, Tryd.ntmps15
    go_wp2_with fail
    refine (valid0_c _ _ _ _ _ HK.out).mono ?_
    rintro e w1 ⟨rfl, h1⟩
    go_wp2
    go_ret
    exact ⟨by rw [HT.out]; rfl, B0.trans (h1.mono B0.size)⟩
  have h5 : k = 1 ∨ k = 2 ∨ k = 3 ∨ k = 4 ∨ k = 5 := by omega
  clear hk
  rcases h5 with rfl | rfl | rfl | rfl | rfl
  · by_cases ho : msgOkB ⟨1, a, b, s⟩ = true
    · exact text1_c ht a b s ho
    · have ho' : msgOkB ⟨1, a, b, s⟩ = false := by simpa using ho
      have HT : Hid (msgText ⟨1, a, b, s⟩ = ⟨#[]⟩) := by show _ = _; unfold msgText; rw [ho']; rfl
      have HO := Lib.hid ho'
      clear ho ho' h
      obtain ⟨wa, hwa, B0, sa, x_a⟩ := frame1 w 24 [.int .i64 1, .int .i64 a, .int .i64 b, .int .i64 s]
      have c0 := x_a.cell (i := 0) rfl
      have c1 := x_a.cell (i := 1) rfl
      have c2 := x_a.cell (i := 2) rfl
      have c3 := x_a.cell (i := 3) rfl
      clear sa
      go_enter Tryd.func15, Tryd.ntmps15
      go_wp2_with fail
      refine (valid1_c _ _ _ _).mono ?_
      rintro e w1 ⟨rfl, h1⟩
      rw [if_neg (by rw [HO.out]; decide)]
      go_wp2
      go_ret
      exact ⟨by rw [HT.out]; rfl, B0.trans (h1.mono B0.size)⟩
  · by_cases ho : msgOkB ⟨2, a, b, s⟩ = true
    · exact text2_c ht a b s ho
    · have ho' : msgOkB ⟨2, a, b, s⟩ = false := by simpa using ho
      have HT : Hid (msgText ⟨2, a, b, s⟩ = ⟨#[]⟩) := by show _ = _; unfold msgText; rw [ho']; rfl
      have HO := Lib.hid ho'
      clear ho ho' h
      obtain ⟨wa, hwa, B0, sa, x_a⟩ := frame1 w 24 [.int .i64 2, .int .i64 a, .int .i64 b, .int .i64 s]
      have c0 := x_a.cell (i := 0) rfl
      have c1 := x_a.cell (i := 1) rfl
      have c2 := x_a.cell (i := 2) rfl
      have c3 := x_a.cell (i := 3) rfl
      clear sa
      go_enter Tryd.func15, Tryd.ntmps15
      go_wp2_with fail
      refine (valid2_c _ _ _ _).mono ?_
      rintro e w1 ⟨rfl, h1⟩
      rw [if_neg (by rw [HO.out]; decide)]
      go_wp2
      go_ret
      exact ⟨by rw [HT.out]; rfl, B0.trans (h1.mono B0.size)⟩
  · by_cases ho : msgOkB ⟨3, a, b, s⟩ = true
    · exact text3_c ht a b s ho
    · have ho' : msgOkB ⟨3, a, b, s⟩ = false := by simpa using ho
      have HT : Hid (msgText ⟨3, a, b, s⟩ = ⟨#[]⟩) := by show _ = _; unfold msgText; rw [ho']; rfl
      have HO := Lib.hid ho'
      clear ho ho' h
      obtain ⟨wa, hwa, B0, sa, x_a⟩ := frame1 w 24 [.int .i64 3, .int .i64 a, .int .i64 b, .int .i64 s]
      have c0 := x_a.cell (i := 0) rfl
      have c1 := x_a.cell (i := 1) rfl
      have c2 := x_a.cell (i := 2) rfl
      have c3 := x_a.cell (i := 3) rfl
      clear sa
      go_enter Tryd.func15, Tryd.ntmps15
      go_wp2_with fail
      refine (valid3_c _ _ _ _).mono ?_
      rintro e w1 ⟨rfl, h1⟩
      rw [if_neg (by rw [HO.out]; decide)]
      go_wp2
      go_ret
      exact ⟨by rw [HT.out]; rfl, B0.trans (h1.mono B0.size)⟩
  · by_cases ho : msgOkB ⟨4, a, b, s⟩ = true
    · exact text4_c ht a b s ho
    · have ho' : msgOkB ⟨4, a, b, s⟩ = false := by simpa using ho
      have HT : Hid (msgText ⟨4, a, b, s⟩ = ⟨#[]⟩) := by show _ = _; unfold msgText; rw [ho']; rfl
      have HO := Lib.hid ho'
      clear ho ho' h
      obtain ⟨wa, hwa, B0, sa, x_a⟩ := frame1 w 24 [.int .i64 4, .int .i64 a, .int .i64 b, .int .i64 s]
      have c0 := x_a.cell (i := 0) rfl
      have c1 := x_a.cell (i := 1) rfl
      have c2 := x_a.cell (i := 2) rfl
      have c3 := x_a.cell (i := 3) rfl
      clear sa
      go_enter Tryd.func15, Tryd.ntmps15
      go_wp2_with fail
      refine (valid4_c _ _ _ _).mono ?_
      rintro e w1 ⟨rfl, h1⟩
      rw [if_neg (by rw [HO.out]; decide)]
      go_wp2
      go_ret
      exact ⟨by rw [HT.out]; rfl, B0.trans (h1.mono B0.size)⟩
  · by_cases ho : msgOkB ⟨5, a, b, s⟩ = true
    · exact text5_c ht a b s ho
    · have ho' : msgOkB ⟨5, a, b, s⟩ = false := by simpa using ho
      have HT : Hid (msgText ⟨5, a, b, s⟩ = ⟨#[]⟩) := by show _ = _; unfold msgText; rw [ho']; rfl
      have HO := Lib.hid ho'
      clear ho ho' h
      obtain ⟨wa, hwa, B0, sa, x_a⟩ := frame1 w 24 [.int .i64 5, .int .i64 a, .int .i64 b, .int .i64 s]
      have c0 := x_a.cell (i := 0) rfl
      have c1 := x_a.cell (i := 1) rfl
      have c2 := x_a.cell (i := 2) rfl
      have c3 := x_a.cell (i := 3) rfl
      clear sa
      go_enter Tryd.func15, Tryd.ntmps15
      go_wp2_with fail
      refine (valid5_c _ _ _ _).mono ?_
      rintro e w1 ⟨rfl, h1⟩
      rw [if_neg (by rw [HO.out]; decide)]
      go_wp2
      go_ret
      exact ⟨by rw [HT.out]; rfl, B0.trans (h1.mono B0.size)⟩

end Go.Proofs.YtkbhbccpmmhelaaDoor
