/- Boxes: contracts of impl's queue: queueOf, first, with, and of slices.Equal on messages. Laid by a program of ours (src/boxi1.py). -/
import Derived.Test.YtpaodpkgpajboaaBxI0
import Derived.BigQuiet
namespace Go.Proofs.Ytpaodpkgpajboaa
open Go.RowKit
set_option linter.unusedVariables false

/-- append asks of the second argument's type only whether it is a number -/
theorem run_append_tt {P : Program} (w : World) (t t2 ty e : TypeId) (ht : P.underlying t = some (.slice e)) (ht2 : P.underlying t2 = some (.slice e)) (i : TypeInfo) (hi : P.info? e = some i) (A : Option Addr) (n c : Nat) (x : Value) : (Builtin.append_ #[t, t2] ty #[.slice A n c, x]).run P w = (Builtin.append_ #[t, t] ty #[.slice A n c, x]).run P w := by
  simp [Builtin.append_, run_underlying ht, run_underlying ht2, sizeOf, typeInfo, hi]

/-- append onto a row of one's own, the source of another slice type -/
theorem wpl_appN2 {P : Program} (w : World) {ops : Array Oper} {rest : List Oper} {o : Oper} {a : Act} {Q : Exit → Act → World → Prop} (hgd : o.guard = none) (s x : Operand) (t t2 : TypeId)
    (ho : o.op = .call { callee := .builtin .append, args := #[s, x], argTypes := #[t, t2] })
    (base sz : Nat) (e : TypeId) (i : TypeInfo) (z : Value) (bytes : Nat) (ht : P.underlying t = some (.slice e)) (ht2 : P.underlying t2 = some (.slice e)) (hi : P.info? e = some i) (hz : i.zero = some z)
    (hsize : i.size = sz) (hby : i.bytes = bytes) (hzs : z.cells.size = sz) (hsz : 0 < sz) (v : Value) (n : Nat) (xs : List Value) (hs : a.eval s = v) (hown : w.ownsRow base e sz v n xs)
    (B : Nat) (A : Option Addr) (c m : Nat) (ys : List Value) (hx : a.eval x = .slice A m c) (hm : ys.length = m * sz) (hr : RdV w B A ys) (h1 : ∀ u ∈ ys, u.oneCell' = true)
    (hmax : n + m ≤ 67108864) (hbyt : bytes ≤ 1024) (hbase : base ≤ w.heap.size)
    (h : ∀ v' w', w'.ownsRow base e sz v' (n + m) (xs ++ ys) → w.grownBy w' v.ownBlock → (v'.ownBlock = v.ownBlock ∨ v'.ownBlock = some w.heap.size) → wpList P ops Q rest (a.put o.dst v') w') :
    wpList P ops Q (o :: rest) a w := by
  refine wpList_plain hgd fun K hK => ?_
  obtain ⟨v', w', hrun, h2, h3, h4⟩ := run_appN (P := P) w base sz t o.type e i z bytes ht hi hz hsize hby hzs hsz v n xs hown B A c m ys hm hr h1 hmax hbyt hbase
  obtain ⟨A0, n0, c0, rfl⟩ : ∃ A0 n0 c0, v = .slice A0 n0 c0 := by
    rcases hown.2 with ⟨rfl, -⟩ | ⟨g, cap, cur, rfl, -⟩ <;> exact ⟨_, _, _, rfl⟩
  rw [← run_append_tt w t t2 o.type e ht ht2 i hi] at hrun
  unfold Oper.wp execOp
  simp only [ho, resolve, invoke, builtin, Sem.run_bind, Sem.run_pure, Result.andThen_ok, List.map_toArray, List.map_cons, List.map_nil, hs, hx, hrun]
  exact hK _ _ (h v' w' h2 h3 h4)

set_option maxRecDepth 100000 in
set_option maxHeartbeats 2000000 in
theorem iWith_c {w : World} {A A2 : Option Addr} {c c2 : Nat} {l l2 : List MMsg} (h : RV msgSL w (.slice A l.length c) l) (h2 : RV msgSL w (.slice A2 l2.length c2) l2) (hm : l.length ≤ 16777216) (hm2 : l2.length ≤ 16777216) : Calls Try.prog 44 #[.slice A l.length c, .slice A2 l2.length c2] w (NewV msgSL w (l ++ l2)) := by
  obtain ⟨A', c', he, hc1_h, hc2_h, rh⟩ := rv_slice h
  simp only [Value.slice.injEq, true_and] at he
  obtain ⟨rfl, rfl⟩ := he
  clear h
  obtain ⟨A', c', he, hc1_h2, hc2_h2, rh2⟩ := rv_slice h2
  simp only [Value.slice.injEq, true_and] at he
  obtain ⟨rfl, rfl⟩ := he
  clear h2
  obtain ⟨i0, hi, hz0, hz1, hz2⟩ := info_parts Try.info_msg
  have hO := ov_msgs_lit w
  obtain ⟨w0, hw0⟩ : ∃ x, w.alloc (.cells #[] 29) = x := ⟨_, rfl⟩
  have B0 : Below w.heap.size w w0 := by rw [← hw0]; exact (Below.refl _ _).alloc (Nat.le_refl _) _
  have s0 := B0.size
  rw [hw0] at hO
  obtain ⟨zs, us, R, hul, hrd, hus, hend⟩ := OV.app_all own_msg_nil msg_own_of_rd hO (rh.below B0) s0
  have h1c := msg_one hus
  clear hus
  go_enter Try.func44, Try.ntmps44
  go_wp2_with (at_builtin; refine wpl_appN _ rfl (.tmp 5) (.tmp 6) 62 rfl 0 4 29 i0 (.agg #[.int .i64 0, .int .i64 0, .int .i64 0, .int .i64 0]) 32 Try.underlying62 hi hz0 hz1 hz2 rfl (by decide) _ 0 zs rfl R _ _ _ l.length us rfl hul hrd h1c ?d1 (by decide) (Nat.zero_le _) ?_)
  case d1 => omega
  intro v1 w1 ho1 hg1 hat1
  obtain ⟨o1, B1⟩ := hend v1 w1 (by simpa using ho1) hg1 hat1
  rw [List.nil_append] at o1
  clear hend R hul hrd h1c ho1 hg1 hat1
  have B01 := B0.trans B1
  have s1 := B01.size
  obtain ⟨A3, c3, rfl, -, -, -⟩ := rv_slice o1.rd
  obtain ⟨zs, us, R, hul, hrd, hus, hend⟩ := OV.app_all own_msg_nil msg_own_of_rd o1 (rh2.below B01) s1
  have h1c := msg_one hus
  clear hus
  go_wp2_with (at_builtin; refine wpl_appN2 _ rfl (.tmp 7) (.tmp 8) 62 23 rfl 0 4 29 i0 (.agg #[.int .i64 0, .int .i64 0, .int .i64 0, .int .i64 0]) 32 Try.underlying62 Try.underlying23 hi hz0 hz1 hz2 rfl (by decide) _ l.length zs rfl R _ _ _ l2.length us rfl hul hrd h1c ?d1 (by decide) (Nat.zero_le _) ?_)
  case d1 => omega
  intro v2 w2 ho2 hg2 hat2
  obtain ⟨o2, B2⟩ := hend v2 w2 ho2 hg2 hat2
  clear hend R hul hrd h1c ho2 hg2 hat2
  go_wp2
  go_ret
  exact ⟨_, rfl, o2, B01.trans B2⟩

set_option maxHeartbeats 1000000 in
theorem iQFirst_c {w : World} {A : Option Addr} {c : Nat} {o : MOut} (b1 : 1 ≤ o.Next ∧ o.Next ≤ 1125899906842624) (b2 : o.List.length ≤ 60) : Calls Try.prog 45 #[.agg #[.slice A o.List.length c, .int .i64 o.Next]] w fun e w' => e = .returned (.int .i64 (o.Next - (o.List.length : Int))) ∧ Below w.heap.size w w' := by
  obtain ⟨wa, hwa, B0, sa, x_a⟩ := frame1 w 64 [.slice A o.List.length c, .int .i64 o.Next]
  have sa_1 := Nat.le_of_eq sa
  have sa_2 := Nat.le_of_eq sa.symm
  clear sa
  have c_a_0_wa := x_a.cell (i := 0) rfl
  have c_a_1_wa := x_a.cell (i := 1) rfl
  have kc : ∀ W, Calls Try.prog 60 #[.slice A o.List.length c] W fun e w' => e = .returned (.int .i64 (o.List.length : Int)) ∧ w' = W := fun W => (iCount_w _ _ _ W).mono (by rintro e w' ⟨rfl, rfl⟩; exact ⟨rfl, rfl⟩)
  go_enter Try.func45, Try.ntmps45
  go_wp2_with fail
  go_quiet (first | (go_at_call 60; exact Calls.quiet_of_same (kc _)))
  have B9 := B0.trans (below_of_drew _ _ nq)
  go_wp2
  go_ret
  exact ⟨rfl, B9⟩

set_option maxHeartbeats 2000000 in
theorem iQueueOf_c {w : World} {A : Option Addr} {c : Nat} {o : MOut} (h : RV msgSL w (.slice A o.List.length c) o.List) (hm : o.List.length ≤ 16777216) : Calls Try.prog 43 #[.agg #[.int .i64 o.Next, .slice A o.List.length c]] w fun e w' => e = .returned (.tuple #[.agg #[.slice A o.List.length c, .int .i64 o.Next], .bool (outOkB o)]) ∧ Below w.heap.size w w' := by
  obtain ⟨wa, hwa, B0, sa, x_a, x_r⟩ := frame2 w 26 [.int .i64 o.Next, .slice A o.List.length c] 64 [.slice none 0 0, .int .i64 0]
  have sa_1 := Nat.le_of_eq sa
  have sa_2 := Nat.le_of_eq sa.symm
  clear sa
  have c_a_0_wa := x_a.cell (i := 0) rfl
  have f_a_0_wa := x_a.frozen 0
  have c_a_1_wa := x_a.cell (i := 1) rfl
  have f_a_1_wa := x_a.frozen 1
  have c_r_0_wa := x_r.cell (i := 0) rfl
  have f_r_0_wa := x_r.frozen 0
  have c_r_1_wa := x_r.cell (i := 1) rfl
  have f_r_1_wa := x_r.frozen 1
  obtain ⟨z, hz⟩ : ∃ z, outOkB o = z := ⟨_, rfl⟩
  rw [hz]
  have HZ := Lib.hid hz
  clear hz
  go_enter Try.func43, Try.ntmps43
  obtain ⟨w1, e_w1, s_w1, h_w1, x_q⟩ := alloc_step wa 64 [.slice A o.List.length c, .int .i64 o.Next]
  have s_w1_1 := Nat.le_of_eq s_w1
  have s_w1_2 := Nat.le_of_eq s_w1.symm
  clear s_w1
  replace x_a := x_a.from_ h_w1
  replace x_r := x_r.from_ h_w1
  have B_w1 := B0.trans (h_w1.mono B0.size)
  have c_a_0_w1 := x_a.cell (i := 0) rfl
  have f_a_0_w1 := x_a.frozen 0
  have c_a_1_w1 := x_a.cell (i := 1) rfl
  have f_a_1_w1 := x_a.frozen 1
  have c_r_0_w1 := x_r.cell (i := 0) rfl
  have f_r_0_w1 := x_r.frozen 0
  have c_r_1_w1 := x_r.cell (i := 1) rfl
  have f_r_1_w1 := x_r.frozen 1
  have c_q_0_w1 := x_q.cell (i := 0) rfl
  have f_q_0_w1 := x_q.frozen 0
  have c_q_1_w1 := x_q.cell (i := 1) rfl
  have f_q_1_w1 := x_q.frozen 1
  go_wp2_with fail
  go_region_held3 (fun w' => w'.cell? ⟨wa.heap.size, 0, none⟩ = some (.slice A o.List.length c) ∧ w'.cell? ⟨wa.heap.size, 1, none⟩ = some (.int .i64 o.Next))
    (first | exact ⟨c_q_0_w1, c_q_1_w1⟩ | exact ⟨qk_q_0, qk_q_1⟩ | exact ⟨(cell_sa (b := w.heap.size + 1) (p := ⟨wa.heap.size, 0, none⟩) (by show wa.heap.size ≠ w.heap.size + 1; omega) [.slice A o.List.length c, .int .i64 o.Next] 0 w_k).trans qk_q_0, (cell_sa (b := w.heap.size + 1) (p := ⟨wa.heap.size, 1, none⟩) (by show wa.heap.size ≠ w.heap.size + 1; omega) [.slice A o.List.length c, .int .i64 o.Next] 0 w_k).trans qk_q_1⟩ | go_keep)
    (first | ((go_at_call 59); (refine (iQOk_c (h.from_ (B_w1.drew)) hm).mono ?_); rintro e w_k ⟨rfl, hd_k⟩; have hb_k : Below w1.heap.size w1 w_k := (Below.refl w1.heap.size w1).drew.trans hd_k; have sd_k := hd_k.size; replace sd_k : w1.heap.size ≤ w_k.heap.size := sd_k; have qk_q_0 := (x_q.from_ hb_k).cell (i := 0) rfl; have qk_q_1 := (x_q.from_ hb_k).cell (i := 1) rfl; have qk_r_0 := (x_r.from_ hb_k).cell (i := 0) rfl; have pk_r_0 := (x_r.from_ hb_k).frozen 0; have qk_r_1 := (x_r.from_ hb_k).cell (i := 1) rfl; have pk_r_1 := (x_r.from_ hb_k).frozen 1; rw [HZ.out])
           | fail)
  clear c_a_0_wa f_a_0_wa c_a_1_wa f_a_1_wa c_r_0_wa f_r_0_wa c_r_1_wa f_r_1_wa c_a_0_w1 f_a_0_w1 c_a_1_w1 f_a_1_w1 c_r_0_w1 f_r_0_w1 c_r_1_w1 f_r_1_w1 c_q_0_w1 f_q_0_w1 c_q_1_w1 f_q_1_w1
  have dz_w1 : w1.drew.heap.size = w1.heap.size := rfl
  replace x_a := x_a.from_ hb_k
  replace x_r := x_r.from_ hb_k
  replace x_q := x_q.from_ hb_k
  have B_k := B_w1.trans (hb_k.mono B_w1.size)
  have sz_k := hb_k.size
  have c_r_0_w_k := x_r.cell (i := 0) rfl
  have f_r_0_w_k := x_r.frozen 0
  have c_r_1_w_k := x_r.cell (i := 1) rfl
  have f_r_1_w_k := x_r.frozen 1
  obtain ⟨w2, e_w2, s_w2, h_w2, y⟩ := store_step x_r [.slice A o.List.length c, .int .i64 o.Next] rfl
  replace e_w2 : ((w_k.setCell ⟨w.heap.size + 1, 0, none⟩ (.slice A o.List.length c)).setCell ⟨w.heap.size + 1, 1, none⟩ (.int .i64 o.Next)) = w2 := e_w2
  have s_w2_1 := Nat.le_of_eq s_w2
  have s_w2_2 := Nat.le_of_eq s_w2.symm
  clear s_w2
  replace x_a := x_a.chg h_w2 (by omega)
  replace x_q := x_q.chg h_w2 (by omega)
  have B_w2 := Below.chg_ B_k h_w2 (by omega) (by omega)
  replace x_r : Vr w2 (w.heap.size + 1) 64 [.slice A o.List.length c, .int .i64 o.Next] := y
  clear y
  have c_r_0_w2 := x_r.cell (i := 0) rfl
  have f_r_0_w2 := x_r.frozen 0
  have c_r_1_w2 := x_r.cell (i := 1) rfl
  have f_r_1_w2 := x_r.frozen 1
  rw [e_w2]
  go_wp2
  refine ret_cell_tmp (by rfl) (by rfl) x_r Try.underlying64 sz_queue (by rfl) ?_
  exact ⟨rfl, B_w2⟩

set_option maxHeartbeats 2000000 in
theorem iEqual_c {w : World} {A A2 : Option Addr} {c c2 : Nat} {l l2 : List MMsg} (h : RV msgSL w (.slice A l.length c) l) (h2 : RV msgSL w (.slice A2 l2.length c2) l2) (hm : l.length ≤ 16777216) (hm2 : l2.length ≤ 16777216) : Calls Try.prog 56 #[.slice A l.length c, .slice A2 l2.length c2] w fun e w' => e = .returned (.bool (decide (l = l2))) ∧ Below w.heap.size w w' := by
  obtain ⟨A', c', he, hc1_h, hc2_h, rh⟩ := rv_slice h
  simp only [Value.slice.injEq, true_and] at he
  obtain ⟨rfl, rfl⟩ := he
  clear h
  obtain ⟨A', c', he, hc1_h2, hc2_h2, rh2⟩ := rv_slice h2
  simp only [Value.slice.injEq, true_and] at he
  obtain ⟨rfl, rfl⟩ := he
  clear h2
  by_cases hl : l.length = l2.length
  case neg =>
    have HO : Hid (decide (l = l2) = false) := decide_eq_false (fun h => hl (by rw [h]))
    have g2 : ((l.length : Int) != (l2.length : Int)) = true := by simp; omega
    clear hl
    go_enter Try.func56, Try.ntmps56
    go_wp2
    go_ret
    exact ⟨ret_eq (by rw [HO.out]; rfl), Below.refl _ _⟩
  have g2 : ((l.length : Int) != (l2.length : Int)) = false := by simp; omega
  have l1 := Nat.le_of_eq hl
  have l2_ := Nat.le_of_eq hl.symm
  clear hl
  go_enter Try.func56, Try.ntmps56
  go_wp2
  go_loopw [13] (fun i wr => ∃ k : Nat, k ≤ l.length ∧ i = .int .i64 k ∧ Hid (l.take k = l2.take k) ∧ Below w.heap.size w wr) (fun i _ => l.length - (intOf i).toNat)
  case atStart => exact ⟨0, Nat.zero_le _, rfl, rfl, Below.refl _ _⟩
  case round =>
    obtain ⟨k, hk, rfl, HT, HB⟩ := hrel
    have hs := HB.size
    by_cases hlt : k < l.length
    case neg =>
      have HO : Hid (decide (l = l2) = true) := decide_eq_true (by have := HT.out; rwa [List.take_of_length_le (by omega), List.take_of_length_le (by omega)] at this)
      have hk2 : k = l.length := by omega
      subst hk2
      go_wp2
      go_ret
      exact ⟨ret_eq (by rw [HO.out]; rfl), HB⟩
    obtain ⟨x, hxe⟩ := get_of_lt hlt
    obtain ⟨y, hye⟩ := get_of_lt (xs := l2) (k := k) (by omega)
    obtain ⟨b, off, rfl, hb, e0, e1, e2, e3⟩ := el_msg (rh.below HB) hxe
    obtain ⟨b', off', rfl, hb', d0, d1, d2, d3⟩ := el_msg (rh2.below HB) hye
    have i1 : (k : Int) < (l.length : Int) := by omega
    have i2 : (k : Int) < (l2.length : Int) := by omega
    have gd := fun op x y W xs ys => guard_msg_run op x y W xs ys
    have gn := fun W => neq_msg_run W x y
    by_cases hxy : x = y
    case pos =>
      rw [show (!decide (x = y)) = false by simp [hxy]] at gn
      have H2 : Hid (l.take (k + 1) = l2.take (k + 1)) := take_succ_eqL HT.out hxe (by rw [hye, hxy])
      clear hxy hxe hye
      go_wp2_with fail
      go_quiet (fail)
      have B9 := HB.trans (below_of_drew _ _ nq)
      go_wp2
      go_roundw
      case rel => exact ⟨k + 1, by omega, by go_num, H2, B9⟩
      case measure => simp [intOf]; omega
    case neg =>
      rw [show (!decide (x = y)) = true by simp [hxy]] at gn
      have HO : Hid (decide (l = l2) = false) := decide_eq_false (fun h => hxy (by have h1 := hxe; rw [h, hye] at h1; simpa using h1.symm))
      clear hxy hxe hye
      go_wp2_with fail
      go_quiet (fail)
      have B9 := HB.trans (below_of_drew _ _ nq)
      go_wp2
      go_ret
      exact ⟨ret_eq (by rw [HO.out]; rfl), B9⟩

end Go.Proofs.Ytpaodpkgpajboaa
