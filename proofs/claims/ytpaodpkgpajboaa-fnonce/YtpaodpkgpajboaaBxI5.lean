/- Boxes: the contract of impl.OutPut. Laid by a program of ours (src/boxi4.py). -/
import Derived.Test.YtpaodpkgpajboaaBxI3
import Derived.Test.YtpaodpkgpajboaaOutC
namespace Go.Proofs.Ytpaodpkgpajboaa
open Go.RowKit
set_option linter.unusedVariables false
theorem rv_msgs_one {w : World} {b : Nat} {m : MMsg} (h : Vr w b 29 [.int .i64 m.Kind, .int .i64 m.Acct, .int .i64 m.Amt, .int .i64 m.Src]) : RV msgSL w (.slice (some ⟨b, 0, none⟩) ([m] : List MMsg).length 1) [m] := by
  refine ⟨[_], rfl, _, _, rfl, Nat.le_refl _, by unfold maxLen; omega, fun _ => [.int .i64 m.Kind, .int .i64 m.Acct, .int .i64 m.Amt, .int .i64 m.Src], fun j x hx => ?_, fun _ => ⟨b, 0, rfl, h.lt, fun j i v hj hv => ?_⟩⟩
  · have hj := getElem?_lt hx
    obtain rfl : j = 0 := by simp at hj; omega
    obtain rfl : m = x := by simpa using hx
    exact ⟨rfl, msgL.own_rd (own_msg w m)⟩
  · obtain rfl : j = 0 := by simp at hj; omega
    rw [Nat.zero_mul, Nat.zero_add, Nat.zero_add]
    exact h.cell hv
def PutVar (wa : World) (n : Int) (X : List MMsg) (s : Value) (wx : World) : Prop :=
  ∃ blk A4 c4 lo hi, s = .pointer (some ⟨blk, 0, none⟩) ∧ wa.heap.size ≤ blk ∧ Vr wx blk 26 [.int .i64 n, .slice A4 X.length c4] ∧ OV msgSL wx lo hi (.slice A4 X.length c4) X ∧ (blk < lo ∨ hi ≤ blk) ∧ wa.heap.size ≤ lo ∧ Below wa.heap.size wa wx
set_option maxRecDepth 100000 in
set_option maxHeartbeats 4000000 in
theorem iOutPut_c {w : World} {v v' : Value} {o : MOut} {m : MMsg} (h : RV outL w v o) (h' : RV msgL w v' m) (hm : o.List.length ≤ 16777216) : Calls Try.prog 15 #[v, v'] w (NewVB outL w (outPut o m) (outPutB o m)) := by
  have h0 := h
  obtain ⟨A, c, rfl, hr0⟩ := rv_out h
  clear h
  obtain rfl := rv_msg h'
  clear h'
  obtain ⟨wa, hwa, B0, sa, x_a, x_m, x_r⟩ := frame3 w 26 [.int .i64 o.Next, .slice A o.List.length c] 29 [.int .i64 m.Kind, .int .i64 m.Acct, .int .i64 m.Amt, .int .i64 m.Src] 26 [.int .i64 0, .slice none 0 0]
  have sa_1 := Nat.le_of_eq sa
  have sa_2 := Nat.le_of_eq sa.symm
  clear sa
  have c_a_0_wa := x_a.cell (i := 0) rfl
  have f_a_0_wa := x_a.frozen 0
  have c_a_1_wa := x_a.cell (i := 1) rfl
  have f_a_1_wa := x_a.frozen 1
  have c_m_0_wa := x_m.cell (i := 0) rfl
  have f_m_0_wa := x_m.frozen 0
  have c_m_1_wa := x_m.cell (i := 1) rfl
  have f_m_1_wa := x_m.frozen 1
  have c_m_2_wa := x_m.cell (i := 2) rfl
  have f_m_2_wa := x_m.frozen 2
  have c_m_3_wa := x_m.cell (i := 3) rfl
  have f_m_3_wa := x_m.frozen 3
  have c_r_0_wa := x_r.cell (i := 0) rfl
  have f_r_0_wa := x_r.frozen 0
  have c_r_1_wa := x_r.cell (i := 1) rfl
  have f_r_1_wa := x_r.frozen 1
  have i_r_0_wa := x_r.same (i := 0) rfl
  have i_r_1_wa := x_r.same (i := 1) rfl
  by_cases hok : outOkB o = true
  case neg =>
    have hok' : outOkB o = false := by simpa using hok
    have HK := Lib.hid hok'
    clear hok'
    have hB : outPutB o m = false := by unfold outPutB; simp [hok]
    have HB := Lib.hid hB
    have HP : Hid (outPut o m = outZ) := if_neg (by rw [hB]; decide)
    clear hok hB
    go_enter Try.func15, Try.ntmps15
    go_wp2_with fail
    refine (iQueueOf_c (hr0.from_ B0) hm).mono ?_
    rintro e w1 ⟨rfl, h_w1⟩
    clear c_a_0_wa f_a_0_wa c_a_1_wa f_a_1_wa c_m_0_wa f_m_0_wa c_m_1_wa f_m_1_wa c_m_2_wa f_m_2_wa c_m_3_wa f_m_3_wa c_r_0_wa f_r_0_wa c_r_1_wa f_r_1_wa
    replace x_a := x_a.from_ h_w1
    replace x_m := x_m.from_ h_w1
    replace x_r := x_r.from_ h_w1
    have B_w1 := B0.trans (h_w1.mono B0.size)
    have s_w1 := h_w1.size
    rw [HK.out]
    have c_a_0_w1 := x_a.cell (i := 0) rfl
    have f_a_0_w1 := x_a.frozen 0
    have c_a_1_w1 := x_a.cell (i := 1) rfl
    have f_a_1_w1 := x_a.frozen 1
    have c_m_0_w1 := x_m.cell (i := 0) rfl
    have f_m_0_w1 := x_m.frozen 0
    have c_m_1_w1 := x_m.cell (i := 1) rfl
    have f_m_1_w1 := x_m.frozen 1
    have c_m_2_w1 := x_m.cell (i := 2) rfl
    have f_m_2_w1 := x_m.frozen 2
    have c_m_3_w1 := x_m.cell (i := 3) rfl
    have f_m_3_w1 := x_m.frozen 3
    have c_r_0_w1 := x_r.cell (i := 0) rfl
    have f_r_0_w1 := x_r.frozen 0
    have c_r_1_w1 := x_r.cell (i := 1) rfl
    have f_r_1_w1 := x_r.frozen 1
    obtain ⟨w2, e_w2, s_w2, h_w2, x_q⟩ := alloc_step w1 64 [.slice A o.List.length c, .int .i64 o.Next]
    have s_w2_1 := Nat.le_of_eq s_w2
    have s_w2_2 := Nat.le_of_eq s_w2.symm
    clear s_w2
    replace x_a := x_a.from_ h_w2
    replace x_m := x_m.from_ h_w2
    replace x_r := x_r.from_ h_w2
    have B_w2 := B_w1.trans (h_w2.mono B_w1.size)
    have c_a_0_w2 := x_a.cell (i := 0) rfl
    have f_a_0_w2 := x_a.frozen 0
    have c_a_1_w2 := x_a.cell (i := 1) rfl
    have f_a_1_w2 := x_a.frozen 1
    have c_m_0_w2 := x_m.cell (i := 0) rfl
    have f_m_0_w2 := x_m.frozen 0
    have c_m_1_w2 := x_m.cell (i := 1) rfl
    have f_m_1_w2 := x_m.frozen 1
    have c_m_2_w2 := x_m.cell (i := 2) rfl
    have f_m_2_w2 := x_m.frozen 2
    have c_m_3_w2 := x_m.cell (i := 3) rfl
    have f_m_3_w2 := x_m.frozen 3
    have c_r_0_w2 := x_r.cell (i := 0) rfl
    have f_r_0_w2 := x_r.frozen 0
    have c_r_1_w2 := x_r.cell (i := 1) rfl
    have f_r_1_w2 := x_r.frozen 1
    have c_q_0_w2 := x_q.cell (i := 0) rfl
    have f_q_0_w2 := x_q.frozen 0
    have c_q_1_w2 := x_q.cell (i := 1) rfl
    have f_q_1_w2 := x_q.frozen 1
    have i_r_0_w2 := x_r.same (i := 0) rfl
    have i_r_1_w2 := x_r.same (i := 1) rfl
    go_wp2
    refine ret_cell_tmp (by rfl) (by rfl) x_r Try.underlying26 sz_out (by rfl) ?_
    rw [HP.out, HB.out]
    exact ⟨_, rfl, ov_out (d := outZ) (ov_msgs_nil (lo := w.heap.size) (by omega)) (by omega), B_w2⟩
  have hp := outOk_parts hok
  have b1 := hp.1
  have b2 := hp.2.1
  have b3 := hp.2.2.1
  clear hp
  have HK := Lib.hid hok
  obtain ⟨X, hX⟩ : ∃ X : List MMsg, X = o.List ++ [m] := ⟨_, rfl⟩
  have lX := congrArg List.length hX
  simp only [List.length_append, List.length_singleton] at lX
  have HX := Lib.hid hX
  have lX_1 := Nat.le_of_eq lX
  have lX_2 := Nat.le_of_eq lX.symm
  clear lX
  have hBe : outPutB o m = outOkB ⟨o.Next + 1, X⟩ := by unfold outPutB outAdd; rw [hok, hX]; rfl
  have hPe : outPut o m = if outOkB ⟨o.Next + 1, X⟩ = true then ⟨o.Next + 1, X⟩ else outZ := by unfold outPut; rw [hBe, hX]; rfl
  obtain ⟨z, hz⟩ : ∃ z, outOkB ⟨o.Next + 1, X⟩ = z := ⟨_, rfl⟩
  rw [hz] at hBe hPe
  have HZ := Lib.hid hz
  have HB := Lib.hid hBe
  have HP := Lib.hid hPe
  clear hok hX hz hBe hPe
  go_enter Try.func15, Try.ntmps15
  go_wp2_with fail
  refine (iQueueOf_c (hr0.from_ B0) hm).mono ?_
  rintro e w1 ⟨rfl, h_w1⟩
  clear c_a_0_wa f_a_0_wa c_a_1_wa f_a_1_wa c_m_0_wa f_m_0_wa c_m_1_wa f_m_1_wa c_m_2_wa f_m_2_wa c_m_3_wa f_m_3_wa c_r_0_wa f_r_0_wa c_r_1_wa f_r_1_wa
  replace x_a := x_a.from_ h_w1
  replace x_m := x_m.from_ h_w1
  replace x_r := x_r.from_ h_w1
  have B_w1 := B0.trans (h_w1.mono B0.size)
  have s_w1 := h_w1.size
  rw [HK.out]
  have c_a_0_w1 := x_a.cell (i := 0) rfl
  have f_a_0_w1 := x_a.frozen 0
  have c_a_1_w1 := x_a.cell (i := 1) rfl
  have f_a_1_w1 := x_a.frozen 1
  have c_m_0_w1 := x_m.cell (i := 0) rfl
  have f_m_0_w1 := x_m.frozen 0
  have c_m_1_w1 := x_m.cell (i := 1) rfl
  have f_m_1_w1 := x_m.frozen 1
  have c_m_2_w1 := x_m.cell (i := 2) rfl
  have f_m_2_w1 := x_m.frozen 2
  have c_m_3_w1 := x_m.cell (i := 3) rfl
  have f_m_3_w1 := x_m.frozen 3
  have c_r_0_w1 := x_r.cell (i := 0) rfl
  have f_r_0_w1 := x_r.frozen 0
  have c_r_1_w1 := x_r.cell (i := 1) rfl
  have f_r_1_w1 := x_r.frozen 1
  obtain ⟨w2, e_w2, s_w2, h_w2, x_q⟩ := alloc_step w1 64 [.slice A o.List.length c, .int .i64 o.Next]
  have s_w2_1 := Nat.le_of_eq s_w2
  have s_w2_2 := Nat.le_of_eq s_w2.symm
  clear s_w2
  replace x_a := x_a.from_ h_w2
  replace x_m := x_m.from_ h_w2
  replace x_r := x_r.from_ h_w2
  have B_w2 := B_w1.trans (h_w2.mono B_w1.size)
  have c_a_0_w2 := x_a.cell (i := 0) rfl
  have f_a_0_w2 := x_a.frozen 0
  have c_a_1_w2 := x_a.cell (i := 1) rfl
  have f_a_1_w2 := x_a.frozen 1
  have c_m_0_w2 := x_m.cell (i := 0) rfl
  have f_m_0_w2 := x_m.frozen 0
  have c_m_1_w2 := x_m.cell (i := 1) rfl
  have f_m_1_w2 := x_m.frozen 1
  have c_m_2_w2 := x_m.cell (i := 2) rfl
  have f_m_2_w2 := x_m.frozen 2
  have c_m_3_w2 := x_m.cell (i := 3) rfl
  have f_m_3_w2 := x_m.frozen 3
  have c_r_0_w2 := x_r.cell (i := 0) rfl
  have f_r_0_w2 := x_r.frozen 0
  have c_r_1_w2 := x_r.cell (i := 1) rfl
  have f_r_1_w2 := x_r.frozen 1
  have c_q_0_w2 := x_q.cell (i := 0) rfl
  have f_q_0_w2 := x_q.frozen 0
  have c_q_1_w2 := x_q.cell (i := 1) rfl
  have f_q_1_w2 := x_q.frozen 1
  have i_r_0_w2 := x_r.same (i := 0) rfl
  have i_r_1_w2 := x_r.same (i := 1) rfl
  go_upto_region 4 with fail
  go_cut [8] (fun s wx => PutVar w2 (o.Next + 1) X s wx)
  case first =>
    have v3 : Vr ((w2.alloc (.cells #[.int .i64 m.Kind, .int .i64 m.Acct, .int .i64 m.Amt, .int .i64 m.Src] 29)).drew) (w2.heap.size) 29 [.int .i64 m.Kind, .int .i64 m.Acct, .int .i64 m.Amt, .int .i64 m.Src] := Vr.from_ (Vr.new w2 29 [.int .i64 m.Kind, .int .i64 m.Acct, .int .i64 m.Amt, .int .i64 m.Src]) (Below.refl _ _).drew
    have B3_ : Below w.heap.size w ((w2.alloc (.cells #[.int .i64 m.Kind, .int .i64 m.Acct, .int .i64 m.Amt, .int .i64 m.Src] 29)).drew) := ((B_w2).alloc (B_w2).size _).drew
    have C3_ : Below w2.heap.size w2 ((w2.alloc (.cells #[.int .i64 m.Kind, .int .i64 m.Acct, .int .i64 m.Amt, .int .i64 m.Src] 29)).drew) := (((Below.refl w2.heap.size w2)).alloc ((Below.refl w2.heap.size w2)).size _).drew
    have z3_ : ((w2.alloc (.cells #[.int .i64 m.Kind, .int .i64 m.Acct, .int .i64 m.Amt, .int .i64 m.Src] 29)).drew).heap.size = w2.heap.size + 1 := by show ((w2.alloc (.cells #[.int .i64 m.Kind, .int .i64 m.Acct, .int .i64 m.Amt, .int .i64 m.Src] 29))).heap.size = _; simp
    have k3 : Calls Try.prog 44 #[.slice A o.List.length c, .slice (some ⟨w2.heap.size, 0, none⟩) 1 1] ((w2.alloc (.cells #[.int .i64 m.Kind, .int .i64 m.Acct, .int .i64 m.Amt, .int .i64 m.Src] 29)).drew) (NewV msgSL ((w2.alloc (.cells #[.int .i64 m.Kind, .int .i64 m.Acct, .int .i64 m.Amt, .int .i64 m.Src] 29)).drew) (o.List ++ [m])) := iWith_c (l2 := [m]) (hr0.from_ B3_) (rv_msgs_one v3) hm (by simp)
    have v2 : Vr (((w2.alloc (.cells #[.int .i64 m.Kind, .int .i64 m.Acct, .int .i64 m.Amt, .int .i64 m.Src] 29)).alloc (.cells #[.int .i64 0, .slice none 0 0] 26)).drew) (w2.heap.size) 29 [.int .i64 m.Kind, .int .i64 m.Acct, .int .i64 m.Amt, .int .i64 m.Src] := Vr.from_ ((Vr.new w2 29 [.int .i64 m.Kind, .int .i64 m.Acct, .int .i64 m.Amt, .int .i64 m.Src]).alloc (.cells #[.int .i64 0, .slice none 0 0] 26)) (Below.refl _ _).drew
    have B2_ : Below w.heap.size w (((w2.alloc (.cells #[.int .i64 m.Kind, .int .i64 m.Acct, .int .i64 m.Amt, .int .i64 m.Src] 29)).alloc (.cells #[.int .i64 0, .slice none 0 0] 26)).drew) := ((((B_w2).alloc (B_w2).size _)).alloc (((B_w2).alloc (B_w2).size _)).size _).drew
    have C2_ : Below w2.heap.size w2 (((w2.alloc (.cells #[.int .i64 m.Kind, .int .i64 m.Acct, .int .i64 m.Amt, .int .i64 m.Src] 29)).alloc (.cells #[.int .i64 0, .slice none 0 0] 26)).drew) := (((((Below.refl w2.heap.size w2)).alloc ((Below.refl w2.heap.size w2)).size _)).alloc ((((Below.refl w2.heap.size w2)).alloc ((Below.refl w2.heap.size w2)).size _)).size _).drew
    have z2_ : (((w2.alloc (.cells #[.int .i64 m.Kind, .int .i64 m.Acct, .int .i64 m.Amt, .int .i64 m.Src] 29)).alloc (.cells #[.int .i64 0, .slice none 0 0] 26)).drew).heap.size = w2.heap.size + 2 := by show (((w2.alloc (.cells #[.int .i64 m.Kind, .int .i64 m.Acct, .int .i64 m.Amt, .int .i64 m.Src] 29)).alloc (.cells #[.int .i64 0, .slice none 0 0] 26))).heap.size = _; simp
    have k2 : Calls Try.prog 44 #[.slice A o.List.length c, .slice (some ⟨w2.heap.size, 0, none⟩) 1 1] (((w2.alloc (.cells #[.int .i64 m.Kind, .int .i64 m.Acct, .int .i64 m.Amt, .int .i64 m.Src] 29)).alloc (.cells #[.int .i64 0, .slice none 0 0] 26)).drew) (NewV msgSL (((w2.alloc (.cells #[.int .i64 m.Kind, .int .i64 m.Acct, .int .i64 m.Amt, .int .i64 m.Src] 29)).alloc (.cells #[.int .i64 0, .slice none 0 0] 26)).drew) (o.List ++ [m])) := iWith_c (l2 := [m]) (hr0.from_ B2_) (rv_msgs_one v2) hm (by simp)
    have v1 : Vr (((w2.alloc (.cells #[.int .i64 0, .slice none 0 0] 26)).alloc (.cells #[.int .i64 m.Kind, .int .i64 m.Acct, .int .i64 m.Amt, .int .i64 m.Src] 29)).drew) ((w2.alloc (.cells #[.int .i64 0, .slice none 0 0] 26)).heap.size) 29 [.int .i64 m.Kind, .int .i64 m.Acct, .int .i64 m.Amt, .int .i64 m.Src] := Vr.from_ (Vr.new (w2.alloc (.cells #[.int .i64 0, .slice none 0 0] 26)) 29 [.int .i64 m.Kind, .int .i64 m.Acct, .int .i64 m.Amt, .int .i64 m.Src]) (Below.refl _ _).drew
    rw [sz_alloc] at v1
    have B1_ : Below w.heap.size w (((w2.alloc (.cells #[.int .i64 0, .slice none 0 0] 26)).alloc (.cells #[.int .i64 m.Kind, .int .i64 m.Acct, .int .i64 m.Amt, .int .i64 m.Src] 29)).drew) := ((((B_w2).alloc (B_w2).size _)).alloc (((B_w2).alloc (B_w2).size _)).size _).drew
    have C1_ : Below w2.heap.size w2 (((w2.alloc (.cells #[.int .i64 0, .slice none 0 0] 26)).alloc (.cells #[.int .i64 m.Kind, .int .i64 m.Acct, .int .i64 m.Amt, .int .i64 m.Src] 29)).drew) := (((((Below.refl w2.heap.size w2)).alloc ((Below.refl w2.heap.size w2)).size _)).alloc ((((Below.refl w2.heap.size w2)).alloc ((Below.refl w2.heap.size w2)).size _)).size _).drew
    have z1_ : (((w2.alloc (.cells #[.int .i64 0, .slice none 0 0] 26)).alloc (.cells #[.int .i64 m.Kind, .int .i64 m.Acct, .int .i64 m.Amt, .int .i64 m.Src] 29)).drew).heap.size = w2.heap.size + 2 := by show (((w2.alloc (.cells #[.int .i64 0, .slice none 0 0] 26)).alloc (.cells #[.int .i64 m.Kind, .int .i64 m.Acct, .int .i64 m.Amt, .int .i64 m.Src] 29))).heap.size = _; simp
    have k1 : Calls Try.prog 44 #[.slice A o.List.length c, .slice (some ⟨w2.heap.size + 1, 0, none⟩) 1 1] (((w2.alloc (.cells #[.int .i64 0, .slice none 0 0] 26)).alloc (.cells #[.int .i64 m.Kind, .int .i64 m.Acct, .int .i64 m.Amt, .int .i64 m.Src] 29)).drew) (NewV msgSL (((w2.alloc (.cells #[.int .i64 0, .slice none 0 0] 26)).alloc (.cells #[.int .i64 m.Kind, .int .i64 m.Acct, .int .i64 m.Amt, .int .i64 m.Src] 29)).drew) (o.List ++ [m])) := iWith_c (l2 := [m]) (hr0.from_ B1_) (rv_msgs_one v1) hm (by simp)
    have u2 : Vr (((w2.alloc (.cells #[.int .i64 m.Kind, .int .i64 m.Acct, .int .i64 m.Amt, .int .i64 m.Src] 29)).alloc (.cells #[.int .i64 0, .slice none 0 0] 26)).drew) (w2.alloc (.cells #[.int .i64 m.Kind, .int .i64 m.Acct, .int .i64 m.Amt, .int .i64 m.Src] 29)).heap.size 26 [.int .i64 0, .slice none 0 0] := Vr.from_ (Vr.new (w2.alloc (.cells #[.int .i64 m.Kind, .int .i64 m.Acct, .int .i64 m.Amt, .int .i64 m.Src] 29)) 26 [.int .i64 0, .slice none 0 0]) (Below.refl _ _).drew
    rw [sz_alloc] at u2
    have u1 : Vr (((w2.alloc (.cells #[.int .i64 0, .slice none 0 0] 26)).alloc (.cells #[.int .i64 m.Kind, .int .i64 m.Acct, .int .i64 m.Amt, .int .i64 m.Src] 29)).drew) w2.heap.size 26 [.int .i64 0, .slice none 0 0] := Vr.from_ ((Vr.new w2 26 [.int .i64 0, .slice none 0 0]).alloc (.cells #[.int .i64 m.Kind, .int .i64 m.Acct, .int .i64 m.Amt, .int .i64 m.Src] 29)) (Below.refl _ _).drew
    have gw : IntKind.i64.wrap (o.Next + 1) = o.Next + 1 := IntWalk.i64_in _ (by omega)
    have C4_ : Below w2.heap.size w2 ((w2.alloc (.cells #[.int .i64 0, .slice none 0 0] 26)).drew) := (((Below.refl w2.heap.size w2)).alloc ((Below.refl w2.heap.size w2)).size _).drew
    have s4_ : ((w2.alloc (.cells #[.int .i64 0, .slice none 0 0] 26)).drew).cell? ⟨w1.heap.size, 0, none⟩ = some (.slice A o.List.length c) ∧ ((w2.alloc (.cells #[.int .i64 0, .slice none 0 0] 26)).drew).cell? ⟨w1.heap.size, 1, none⟩ = some (.int .i64 o.Next) ∧ ((w2.alloc (.cells #[.int .i64 0, .slice none 0 0] 26)).drew).cell? ⟨w.heap.size + 1, 0, none⟩ = some (.int .i64 m.Kind) ∧ ((w2.alloc (.cells #[.int .i64 0, .slice none 0 0] 26)).drew).cell? ⟨w.heap.size + 1, 1, none⟩ = some (.int .i64 m.Acct) ∧ ((w2.alloc (.cells #[.int .i64 0, .slice none 0 0] 26)).drew).cell? ⟨w.heap.size + 1, 2, none⟩ = some (.int .i64 m.Amt) ∧ ((w2.alloc (.cells #[.int .i64 0, .slice none 0 0] 26)).drew).cell? ⟨w.heap.size + 1, 3, none⟩ = some (.int .i64 m.Src) := ⟨(x_q.from_ C4_).cell (i := 0) rfl, (x_q.from_ C4_).cell (i := 1) rfl, (x_m.from_ C4_).cell (i := 0) rfl, (x_m.from_ C4_).cell (i := 1) rfl, (x_m.from_ C4_).cell (i := 2) rfl, (x_m.from_ C4_).cell (i := 3) rfl⟩
    have s3_ : ((w2.alloc (.cells #[.int .i64 m.Kind, .int .i64 m.Acct, .int .i64 m.Amt, .int .i64 m.Src] 29)).drew).cell? ⟨w1.heap.size, 0, none⟩ = some (.slice A o.List.length c) ∧ ((w2.alloc (.cells #[.int .i64 m.Kind, .int .i64 m.Acct, .int .i64 m.Amt, .int .i64 m.Src] 29)).drew).cell? ⟨w1.heap.size, 1, none⟩ = some (.int .i64 o.Next) ∧ ((w2.alloc (.cells #[.int .i64 m.Kind, .int .i64 m.Acct, .int .i64 m.Amt, .int .i64 m.Src] 29)).drew).cell? ⟨w.heap.size + 1, 0, none⟩ = some (.int .i64 m.Kind) ∧ ((w2.alloc (.cells #[.int .i64 m.Kind, .int .i64 m.Acct, .int .i64 m.Amt, .int .i64 m.Src] 29)).drew).cell? ⟨w.heap.size + 1, 1, none⟩ = some (.int .i64 m.Acct) ∧ ((w2.alloc (.cells #[.int .i64 m.Kind, .int .i64 m.Acct, .int .i64 m.Amt, .int .i64 m.Src] 29)).drew).cell? ⟨w.heap.size + 1, 2, none⟩ = some (.int .i64 m.Amt) ∧ ((w2.alloc (.cells #[.int .i64 m.Kind, .int .i64 m.Acct, .int .i64 m.Amt, .int .i64 m.Src] 29)).drew).cell? ⟨w.heap.size + 1, 3, none⟩ = some (.int .i64 m.Src) := ⟨(x_q.from_ C3_).cell (i := 0) rfl, (x_q.from_ C3_).cell (i := 1) rfl, (x_m.from_ C3_).cell (i := 0) rfl, (x_m.from_ C3_).cell (i := 1) rfl, (x_m.from_ C3_).cell (i := 2) rfl, (x_m.from_ C3_).cell (i := 3) rfl⟩
    have s2_ : (((w2.alloc (.cells #[.int .i64 m.Kind, .int .i64 m.Acct, .int .i64 m.Amt, .int .i64 m.Src] 29)).alloc (.cells #[.int .i64 0, .slice none 0 0] 26)).drew).cell? ⟨w1.heap.size, 0, none⟩ = some (.slice A o.List.length c) ∧ (((w2.alloc (.cells #[.int .i64 m.Kind, .int .i64 m.Acct, .int .i64 m.Amt, .int .i64 m.Src] 29)).alloc (.cells #[.int .i64 0, .slice none 0 0] 26)).drew).cell? ⟨w1.heap.size, 1, none⟩ = some (.int .i64 o.Next) ∧ (((w2.alloc (.cells #[.int .i64 m.Kind, .int .i64 m.Acct, .int .i64 m.Amt, .int .i64 m.Src] 29)).alloc (.cells #[.int .i64 0, .slice none 0 0] 26)).drew).cell? ⟨w.heap.size + 1, 0, none⟩ = some (.int .i64 m.Kind) ∧ (((w2.alloc (.cells #[.int .i64 m.Kind, .int .i64 m.Acct, .int .i64 m.Amt, .int .i64 m.Src] 29)).alloc (.cells #[.int .i64 0, .slice none 0 0] 26)).drew).cell? ⟨w.heap.size + 1, 1, none⟩ = some (.int .i64 m.Acct) ∧ (((w2.alloc (.cells #[.int .i64 m.Kind, .int .i64 m.Acct, .int .i64 m.Amt, .int .i64 m.Src] 29)).alloc (.cells #[.int .i64 0, .slice none 0 0] 26)).drew).cell? ⟨w.heap.size + 1, 2, none⟩ = some (.int .i64 m.Amt) ∧ (((w2.alloc (.cells #[.int .i64 m.Kind, .int .i64 m.Acct, .int .i64 m.Amt, .int .i64 m.Src] 29)).alloc (.cells #[.int .i64 0, .slice none 0 0] 26)).drew).cell? ⟨w.heap.size + 1, 3, none⟩ = some (.int .i64 m.Src) := ⟨(x_q.from_ C2_).cell (i := 0) rfl, (x_q.from_ C2_).cell (i := 1) rfl, (x_m.from_ C2_).cell (i := 0) rfl, (x_m.from_ C2_).cell (i := 1) rfl, (x_m.from_ C2_).cell (i := 2) rfl, (x_m.from_ C2_).cell (i := 3) rfl⟩
    have s1_ : (((w2.alloc (.cells #[.int .i64 0, .slice none 0 0] 26)).alloc (.cells #[.int .i64 m.Kind, .int .i64 m.Acct, .int .i64 m.Amt, .int .i64 m.Src] 29)).drew).cell? ⟨w1.heap.size, 0, none⟩ = some (.slice A o.List.length c) ∧ (((w2.alloc (.cells #[.int .i64 0, .slice none 0 0] 26)).alloc (.cells #[.int .i64 m.Kind, .int .i64 m.Acct, .int .i64 m.Amt, .int .i64 m.Src] 29)).drew).cell? ⟨w1.heap.size, 1, none⟩ = some (.int .i64 o.Next) ∧ (((w2.alloc (.cells #[.int .i64 0, .slice none 0 0] 26)).alloc (.cells #[.int .i64 m.Kind, .int .i64 m.Acct, .int .i64 m.Amt, .int .i64 m.Src] 29)).drew).cell? ⟨w.heap.size + 1, 0, none⟩ = some (.int .i64 m.Kind) ∧ (((w2.alloc (.cells #[.int .i64 0, .slice none 0 0] 26)).alloc (.cells #[.int .i64 m.Kind, .int .i64 m.Acct, .int .i64 m.Amt, .int .i64 m.Src] 29)).drew).cell? ⟨w.heap.size + 1, 1, none⟩ = some (.int .i64 m.Acct) ∧ (((w2.alloc (.cells #[.int .i64 0, .slice none 0 0] 26)).alloc (.cells #[.int .i64 m.Kind, .int .i64 m.Acct, .int .i64 m.Amt, .int .i64 m.Src] 29)).drew).cell? ⟨w.heap.size + 1, 2, none⟩ = some (.int .i64 m.Amt) ∧ (((w2.alloc (.cells #[.int .i64 0, .slice none 0 0] 26)).alloc (.cells #[.int .i64 m.Kind, .int .i64 m.Acct, .int .i64 m.Amt, .int .i64 m.Src] 29)).drew).cell? ⟨w.heap.size + 1, 3, none⟩ = some (.int .i64 m.Src) := ⟨(x_q.from_ C1_).cell (i := 0) rfl, (x_q.from_ C1_).cell (i := 1) rfl, (x_m.from_ C1_).cell (i := 0) rfl, (x_m.from_ C1_).cell (i := 1) rfl, (x_m.from_ C1_).cell (i := 2) rfl, (x_m.from_ C1_).cell (i := 3) rfl⟩
    go_region_held3 (fun w' => w'.cell? ⟨w1.heap.size, 0, none⟩ = some (.slice A o.List.length c) ∧ w'.cell? ⟨w1.heap.size, 1, none⟩ = some (.int .i64 o.Next) ∧ w'.cell? ⟨w.heap.size + 1, 0, none⟩ = some (.int .i64 m.Kind) ∧ w'.cell? ⟨w.heap.size + 1, 1, none⟩ = some (.int .i64 m.Acct) ∧ w'.cell? ⟨w.heap.size + 1, 2, none⟩ = some (.int .i64 m.Amt) ∧ w'.cell? ⟨w.heap.size + 1, 3, none⟩ = some (.int .i64 m.Src))
      (first | exact ⟨c_q_0_w2, c_q_1_w2, c_m_0_w2, c_m_1_w2, c_m_2_w2, c_m_3_w2⟩ | with_reducible exact s4_ | with_reducible exact s3_ | with_reducible exact s2_ | with_reducible exact s1_ | exact ⟨y_q.cell (i := 0) rfl, y_q.cell (i := 1) rfl, y_m.cell (i := 0) rfl, y_m.cell (i := 1) rfl, y_m.cell (i := 2) rfl, y_m.cell (i := 3) rfl⟩ | exact ⟨(y_q.alloc _).cell (i := 0) rfl, (y_q.alloc _).cell (i := 1) rfl, (y_m.alloc _).cell (i := 0) rfl, (y_m.alloc _).cell (i := 1) rfl, (y_m.alloc _).cell (i := 2) rfl, (y_m.alloc _).cell (i := 3) rfl⟩ | exact ⟨((y_q.set_ne (by omega) _ _).set_ne (by omega) _ _).cell (i := 0) rfl, ((y_q.set_ne (by omega) _ _).set_ne (by omega) _ _).cell (i := 1) rfl, ((y_m.set_ne (by omega) _ _).set_ne (by omega) _ _).cell (i := 0) rfl, ((y_m.set_ne (by omega) _ _).set_ne (by omega) _ _).cell (i := 1) rfl, ((y_m.set_ne (by omega) _ _).set_ne (by omega) _ _).cell (i := 2) rfl, ((y_m.set_ne (by omega) _ _).set_ne (by omega) _ _).cell (i := 3) rfl⟩ | go_keep)
      (first | ((go_at_call 44); (with_reducible refine k3.mono ?_); rintro e w_k ⟨u, rfl, ou, hd⟩; rw [← HX.out] at ou; have hk : Below w2.heap.size w2 w_k := C3_.trans (hd.mono C3_.size); have sk := hk.size; have sd := hd.size; rw [z3_] at sd ou; obtain ⟨A4, c4, rfl, -, -, -⟩ := rv_slice ou.rd; have y_a := x_a.from_ hk; have y_m := x_m.from_ hk; have y_r := x_r.from_ hk; have y_q := x_q.from_ hk)
             | ((go_at_call 44); (with_reducible refine k2.mono ?_); rintro e w_k ⟨u, rfl, ou, hd⟩; rw [← HX.out] at ou; have hk : Below w2.heap.size w2 w_k := C2_.trans (hd.mono C2_.size); have sk := hk.size; have sd := hd.size; rw [z2_] at sd ou; obtain ⟨A4, c4, rfl, -, -, -⟩ := rv_slice ou.rd; have y_a := x_a.from_ hk; have y_m := x_m.from_ hk; have y_r := x_r.from_ hk; have y_q := x_q.from_ hk; have y_p := u2.from_ hd; have p0 := y_p.cell (i := 0) rfl; have p1 := y_p.cell (i := 1) rfl; have p2 := y_p.frozen 0; have p3 := y_p.frozen 1)
             | ((go_at_call 44); (with_reducible refine k1.mono ?_); rintro e w_k ⟨u, rfl, ou, hd⟩; rw [← HX.out] at ou; have hk : Below w2.heap.size w2 w_k := C1_.trans (hd.mono C1_.size); have sk := hk.size; have sd := hd.size; rw [z1_] at sd ou; obtain ⟨A4, c4, rfl, -, -, -⟩ := rv_slice ou.rd; have y_a := x_a.from_ hk; have y_m := x_m.from_ hk; have y_r := x_r.from_ hk; have y_q := x_q.from_ hk; have y_p := u1.from_ hd; have p0 := y_p.cell (i := 0) rfl; have p1 := y_p.cell (i := 1) rfl; have p2 := y_p.frozen 0; have p3 := y_p.frozen 1)
             | fail)
    all_goals go_wp2_with fail
    all_goals go_meet
    all_goals first
      | (obtain ⟨wz, ez, sz, hz, xz⟩ := alloc_step w_k 26 [.int .i64 (o.Next + 1), .slice A4 X.length c4]; rw [ez]; have sz1 := hz.size; have hi9 := ou.le; replace ou := ou.below hz; exact ⟨_, _, _, _, _, rfl, (by omega), xz, ou, (by omega), (by omega), hk.trans (hz.mono hk.size)⟩)
      | (obtain ⟨wz, ez, sz, hz, xz⟩ := store_step y_p [.int .i64 (o.Next + 1), .slice A4 X.length c4] rfl; change PutVar _ _ _ _ (setAll w_k _ 0 [.int .i64 (o.Next + 1), .slice A4 X.length c4]); rw [ez]; replace ou := ou.chg hz (by omega); exact ⟨_, _, _, _, _, rfl, (by omega), xz, ou, (by omega), (by omega), Below.chg_ hk hz (by omega) (by omega)⟩)
      | fail
  case rest =>
    clear c_a_0_w1 f_a_0_w1 c_a_1_w1 f_a_1_w1 c_m_0_w1 f_m_0_w1 c_m_1_w1 f_m_1_w1 c_m_2_w1 f_m_2_w1 c_m_3_w1 f_m_3_w1 c_r_0_w1 f_r_0_w1 c_r_1_w1 f_r_1_w1 c_a_0_w2 f_a_0_w2 c_a_1_w2 f_a_1_w2 c_m_0_w2 f_m_0_w2 c_m_1_w2 f_m_1_w2 c_m_2_w2 f_m_2_w2 c_m_3_w2 f_m_3_w2 c_r_0_w2 f_r_0_w2 c_r_1_w2 f_r_1_w2 c_q_0_w2 f_q_0_w2 c_q_1_w2 f_q_1_w2
    obtain ⟨blk, A4, c4, lo, hi, rfl, g1, x_p, ou, g2, g3, h_wc⟩ := hcut
    replace x_a := x_a.from_ h_wc
    replace x_m := x_m.from_ h_wc
    replace x_r := x_r.from_ h_wc
    replace x_q := x_q.from_ h_wc
    have B_wc := B_w2.trans (h_wc.mono B_w2.size)
    have s_wc := h_wc.size
    have g4 := ou.le
    have g5 := x_p.lt
    have c_a_0_wc := x_a.cell (i := 0) rfl
    have f_a_0_wc := x_a.frozen 0
    have c_a_1_wc := x_a.cell (i := 1) rfl
    have f_a_1_wc := x_a.frozen 1
    have c_m_0_wc := x_m.cell (i := 0) rfl
    have f_m_0_wc := x_m.frozen 0
    have c_m_1_wc := x_m.cell (i := 1) rfl
    have f_m_1_wc := x_m.frozen 1
    have c_m_2_wc := x_m.cell (i := 2) rfl
    have f_m_2_wc := x_m.frozen 2
    have c_m_3_wc := x_m.cell (i := 3) rfl
    have f_m_3_wc := x_m.frozen 3
    have c_r_0_wc := x_r.cell (i := 0) rfl
    have f_r_0_wc := x_r.frozen 0
    have c_r_1_wc := x_r.cell (i := 1) rfl
    have f_r_1_wc := x_r.frozen 1
    have c_q_0_wc := x_q.cell (i := 0) rfl
    have f_q_0_wc := x_q.frozen 0
    have c_q_1_wc := x_q.cell (i := 1) rfl
    have f_q_1_wc := x_q.frozen 1
    have c_p_0_wc := x_p.cell (i := 0) rfl
    have f_p_0_wc := x_p.frozen 0
    have c_p_1_wc := x_p.cell (i := 1) rfl
    have f_p_1_wc := x_p.frozen 1
    have i_r_0_wc := x_r.same (i := 0) rfl
    have i_r_1_wc := x_r.same (i := 1) rfl
    have rO : RV outL wc (.agg #[.int .i64 (o.Next + 1), .slice A4 X.length c4]) ⟨o.Next + 1, X⟩ := rv_out_mk ou.rd
    go_wp2_with fail
    refine (iOutOk_c rO (by show X.length ≤ _; omega)).mono ?_
    rintro e w3 ⟨rfl, h_w3⟩
    clear c_a_0_wc f_a_0_wc c_a_1_wc f_a_1_wc c_m_0_wc f_m_0_wc c_m_1_wc f_m_1_wc c_m_2_wc f_m_2_wc c_m_3_wc f_m_3_wc c_r_0_wc f_r_0_wc c_r_1_wc f_r_1_wc c_q_0_wc f_q_0_wc c_q_1_wc f_q_1_wc c_p_0_wc f_p_0_wc c_p_1_wc f_p_1_wc
    replace x_a := x_a.from_ h_w3
    replace x_m := x_m.from_ h_w3
    replace x_r := x_r.from_ h_w3
    replace x_q := x_q.from_ h_w3
    replace x_p := x_p.from_ h_w3
    replace ou := ou.below h_w3
    have B_w3 := B_wc.trans (h_w3.mono B_wc.size)
    have s_w3 := h_w3.size
    rw [HZ.out]
    have c_a_0_w3 := x_a.cell (i := 0) rfl
    have f_a_0_w3 := x_a.frozen 0
    have c_a_1_w3 := x_a.cell (i := 1) rfl
    have f_a_1_w3 := x_a.frozen 1
    have c_m_0_w3 := x_m.cell (i := 0) rfl
    have f_m_0_w3 := x_m.frozen 0
    have c_m_1_w3 := x_m.cell (i := 1) rfl
    have f_m_1_w3 := x_m.frozen 1
    have c_m_2_w3 := x_m.cell (i := 2) rfl
    have f_m_2_w3 := x_m.frozen 2
    have c_m_3_w3 := x_m.cell (i := 3) rfl
    have f_m_3_w3 := x_m.frozen 3
    have c_r_0_w3 := x_r.cell (i := 0) rfl
    have f_r_0_w3 := x_r.frozen 0
    have c_r_1_w3 := x_r.cell (i := 1) rfl
    have f_r_1_w3 := x_r.frozen 1
    have c_q_0_w3 := x_q.cell (i := 0) rfl
    have f_q_0_w3 := x_q.frozen 0
    have c_q_1_w3 := x_q.cell (i := 1) rfl
    have f_q_1_w3 := x_q.frozen 1
    have c_p_0_w3 := x_p.cell (i := 0) rfl
    have f_p_0_w3 := x_p.frozen 0
    have c_p_1_w3 := x_p.cell (i := 1) rfl
    have f_p_1_w3 := x_p.frozen 1
    have i_r_0_w3 := x_r.same (i := 0) rfl
    have i_r_1_w3 := x_r.same (i := 1) rfl
    cases z
    case false =>
      go_wp2
      refine ret_cell_tmp (by rfl) (by rfl) x_r Try.underlying26 sz_out (by rfl) ?_
      rw [HP.out, HB.out]
      exact ⟨_, rfl, ov_out (d := outZ) (ov_msgs_nil (lo := w.heap.size) (by omega)) (by omega), B_w3⟩
    case true =>
      obtain ⟨w4, e_w4, s_w4, h_w4, y⟩ := store_step x_r [.int .i64 (o.Next + 1), .slice A4 X.length c4] rfl
      replace e_w4 : ((w3.setCell ⟨w.heap.size + 1 + 1, 0, none⟩ (.int .i64 (o.Next + 1))).setCell ⟨w.heap.size + 1 + 1, 1, none⟩ (.slice A4 X.length c4)) = w4 := e_w4
      have s_w4_1 := Nat.le_of_eq s_w4
      have s_w4_2 := Nat.le_of_eq s_w4.symm
      clear s_w4
      replace x_a := x_a.chg h_w4 (by omega)
      replace x_m := x_m.chg h_w4 (by omega)
      replace x_q := x_q.chg h_w4 (by omega)
      replace x_p := x_p.chg h_w4 (by omega)
      replace ou := ou.chg h_w4 (by omega)
      have B_w4 := Below.chg_ B_w3 h_w4 (by omega) (by omega)
      replace x_r : Vr w4 (w.heap.size + 1 + 1) 26 [.int .i64 (o.Next + 1), .slice A4 X.length c4] := y
      clear y
      have c_r_0_w4 := x_r.cell (i := 0) rfl
      have f_r_0_w4 := x_r.frozen 0
      have c_r_1_w4 := x_r.cell (i := 1) rfl
      have f_r_1_w4 := x_r.frozen 1
      go_wp2
      refine ret_cell_tmp (by rfl) (by rfl) x_r Try.underlying26 sz_out (by rfl) ?_
      rw [HP.out, HB.out]
      exact ⟨_, rfl, ov_out (d := ⟨o.Next + 1, X⟩) ou (by omega), B_w4⟩

end Go.Proofs.Ytpaodpkgpajboaa
