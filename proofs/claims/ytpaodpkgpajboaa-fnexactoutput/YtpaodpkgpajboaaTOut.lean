/- The type Out: its model, its layout, and the contracts of the laws' own helpers on it. Laid by a program of ours (typegen.py). -/
import Derived.Test.YtpaodpkgpajboaaProg
import Derived.Test.YtpaodpkgpajboaaVars
import Derived.Test.YtpaodpkgpajboaaSMsgS
namespace Go.Proofs.Ytpaodpkgpajboaa
open Go.RowKit
set_option linter.unusedVariables false

structure MOut where
  Next : Int
  List : List MMsg

def outL : Lay MOut := isoL (fun d => (d.Next, d.List)) (consL (intL .i64) (msgSL))

theorem sz_out : (Try.prog.info? 26).map (·.size) = some 2 := by kernel_rfl

/-- how many values lie behind it -/
def MOut.bulk (d : MOut) : Nat := d.List.length

/-- how many marks it takes -/
def MOut.steps (d : MOut) : Nat := 4 * d.List.length

theorem MOut.steps_le (d : MOut) : d.steps ≤ 4 * d.bulk := by unfold MOut.steps MOut.bulk; omega

/-- what a marking from k on makes of it -/
def MOut.mark (d : MOut) (k : Int) : MOut := ⟨d.Next, marksMsg (k) d.List.length⟩

theorem rv_out {w : World} {v : Value} {d : MOut} (h : RV outL w v d) : ∃ AList cList, v = .agg #[.int .i64 d.Next, .slice AList d.List.length cList] ∧ RV msgSL w (.slice AList d.List.length cList) d.List := by
  obtain ⟨cs, rfl, hcs⟩ := h
  obtain ⟨_, _, rfl, rfl, ⟨AList, cList, rfl, hList⟩⟩ := hcs
  exact ⟨AList, cList, rfl, ⟨[_], rfl, _, _, rfl, hList⟩⟩

theorem cs_out {w : World} {B : Nat} {cs : List Value} {d : MOut} (h : outL.rd w B cs d) : ∃ AList cList, cs = [.int .i64 d.Next, .slice AList d.List.length cList] := by
  obtain ⟨_, _, rfl, rfl, ⟨AList, cList, rfl, hList⟩⟩ := h
  exact ⟨AList, cList, rfl⟩

theorem rv_out_mk {w : World} {vList : Value} {zNext : Int} {zList : List MMsg} (hList : RV msgSL w vList zList) : RV outL w (.agg #[.int .i64 zNext, vList]) ⟨zNext, zList⟩ := by
  obtain ⟨_, rfl, AList, cList, rfl, pList⟩ := hList
  exact ⟨_, rfl, [_], _, rfl, rfl, ⟨AList, cList, rfl, pList⟩⟩

theorem ovp_out {w : World} {d : MOut} {lo hi lList hList : Nat} {vList : Value} (oList : OV msgSL w lList hList vList d.List) (hc : hi ≤ w.heap.size ∧ lo ≤ lList ∧ hList ≤ hi) : OVp outL w (fun j => lo ≤ j ∧ j < hi) [.int .i64 d.Next, vList] d := by
  have h : OVp outL w _ [.int .i64 d.Next, vList] d := OVp.iso (f := fun d : MOut => (d.Next, d.List)) (OVp.cons1 (OVp.sl oList))
  exact h.imp (by intro j; omega)

theorem ov_out {w : World} {d : MOut} {lo hi lList hList : Nat} {vList : Value} (oList : OV msgSL w lList hList vList d.List) (hc : hi ≤ w.heap.size ∧ lo ≤ lList ∧ hList ≤ hi) : OV outL w lo hi (.agg #[.int .i64 d.Next, vList]) d :=
  (ovp_out (lo := lo) (hi := hi) oList hc).ov (fun _ h => h) hc.1

set_option maxHeartbeats 1000000 in
theorem toOut_c {w : World} {v : Value} {d : MOut} (h : RV outL w v d) (hm : d.bulk ≤ 16777216) : Calls Try.prog 29 #[v] w (NewV outL w d) := by
  obtain ⟨AList, cList, rfl, rList⟩ := rv_out h
  unfold MOut.bulk at hm
  obtain ⟨wa, hwa, B0, sa, x_a, x_r, x_out⟩ := frame3 w 47 [.int .i64 d.Next, .slice AList d.List.length cList] 26 [.int .i64 0, .slice none 0 0] 26 [.int .i64 0, .slice none 0 0]
  have sa_1 := Nat.le_of_eq sa
  have sa_2 := Nat.le_of_eq sa.symm
  clear sa
  have c_a_0_wa := x_a.cell (i := 0) rfl
  have f_a_0_wa := x_a.frozen 0
  have c_a_1_wa := x_a.cell (i := 1) rfl
  have f_a_1_wa := x_a.frozen 1
  have c_out_0_wa := x_out.cell (i := 0) rfl
  have f_out_0_wa := x_out.frozen 0
  have c_out_1_wa := x_out.cell (i := 1) rfl
  have f_out_1_wa := x_out.frozen 1
  go_enter Try.func29, Try.ntmps29
  have c_r_0_wa := x_r.cell (i := 0) rfl
  have f_r_0_wa := x_r.frozen 0
  have c_r_1_wa := x_r.cell (i := 1) rfl
  have f_r_1_wa := x_r.frozen 1
  obtain ⟨w1, e_w1, s_w1, h_w1, y⟩ := set_step x_out 0 (.int .i64 d.Next)
  have s_w1_1 := Nat.le_of_eq s_w1
  have s_w1_2 := Nat.le_of_eq s_w1.symm
  clear s_w1
  replace x_a := x_a.chg h_w1 (by omega)
  replace x_r := x_r.chg h_w1 (by omega)
  have B_w1 := Below.chg_ B0 h_w1 (by omega) (by omega)
  replace x_out : Vr w1 (w.heap.size + 1 + 1) 26 [.int .i64 d.Next, .slice none 0 0] := y
  clear y
  have c_a_0_w1 := x_a.cell (i := 0) rfl
  have f_a_0_w1 := x_a.frozen 0
  have c_a_1_w1 := x_a.cell (i := 1) rfl
  have f_a_1_w1 := x_a.frozen 1
  have c_out_0_w1 := x_out.cell (i := 0) rfl
  have f_out_0_w1 := x_out.frozen 0
  have c_out_1_w1 := x_out.cell (i := 1) rfl
  have f_out_1_w1 := x_out.frozen 1
  have c_r_0_w1 := x_r.cell (i := 0) rfl
  have f_r_0_w1 := x_r.frozen 0
  have c_r_1_w1 := x_r.cell (i := 1) rfl
  have f_r_1_w1 := x_r.frozen 1
  go_wp2_with fail
  refine (toMsgS_c (rList.from_ B_w1) (by omega)).mono ?_
  rintro e w2 ⟨uList, rfl, oList, h_w2⟩
  clear c_a_0_wa f_a_0_wa c_a_1_wa f_a_1_wa c_out_0_wa f_out_0_wa c_out_1_wa f_out_1_wa c_r_0_wa f_r_0_wa c_r_1_wa f_r_1_wa c_a_0_w1 f_a_0_w1 c_a_1_w1 f_a_1_w1 c_out_0_w1 f_out_0_w1 c_out_1_w1 f_out_1_w1 c_r_0_w1 f_r_0_w1 c_r_1_w1 f_r_1_w1
  replace x_a := x_a.from_ h_w2
  replace x_r := x_r.from_ h_w2
  replace x_out := x_out.from_ h_w2
  have B_w2 := B_w1.trans (h_w2.mono B_w1.size)
  have s_w2 := h_w2.size
  obtain ⟨BList, eList, rfl, -, -, -⟩ := rv_slice oList.rd
  have c_a_0_w2 := x_a.cell (i := 0) rfl
  have f_a_0_w2 := x_a.frozen 0
  have c_a_1_w2 := x_a.cell (i := 1) rfl
  have f_a_1_w2 := x_a.frozen 1
  have c_out_0_w2 := x_out.cell (i := 0) rfl
  have f_out_0_w2 := x_out.frozen 0
  have c_out_1_w2 := x_out.cell (i := 1) rfl
  have f_out_1_w2 := x_out.frozen 1
  have c_r_0_w2 := x_r.cell (i := 0) rfl
  have f_r_0_w2 := x_r.frozen 0
  have c_r_1_w2 := x_r.cell (i := 1) rfl
  have f_r_1_w2 := x_r.frozen 1
  obtain ⟨w3, e_w3, s_w3, h_w3, y⟩ := set_step x_out 1 (.slice BList d.List.length eList)
  have s_w3_1 := Nat.le_of_eq s_w3
  have s_w3_2 := Nat.le_of_eq s_w3.symm
  clear s_w3
  replace x_a := x_a.chg h_w3 (by omega)
  replace x_r := x_r.chg h_w3 (by omega)
  replace oList := oList.chg h_w3 (by omega)
  have B_w3 := Below.chg_ B_w2 h_w3 (by omega) (by omega)
  replace x_out : Vr w3 (w.heap.size + 1 + 1) 26 [.int .i64 d.Next, .slice BList d.List.length eList] := y
  clear y
  have c_a_0_w3 := x_a.cell (i := 0) rfl
  have f_a_0_w3 := x_a.frozen 0
  have c_a_1_w3 := x_a.cell (i := 1) rfl
  have f_a_1_w3 := x_a.frozen 1
  have c_out_0_w3 := x_out.cell (i := 0) rfl
  have f_out_0_w3 := x_out.frozen 0
  have c_out_1_w3 := x_out.cell (i := 1) rfl
  have f_out_1_w3 := x_out.frozen 1
  have c_r_0_w3 := x_r.cell (i := 0) rfl
  have f_r_0_w3 := x_r.frozen 0
  have c_r_1_w3 := x_r.cell (i := 1) rfl
  have f_r_1_w3 := x_r.frozen 1
  obtain ⟨w4, e_w4, s_w4, h_w4, y⟩ := store_step x_r [.int .i64 d.Next, .slice BList d.List.length eList] rfl
  replace e_w4 : ((w3.setCell ⟨w.heap.size + 1, 0, none⟩ (.int .i64 d.Next)).setCell ⟨w.heap.size + 1, 1, none⟩ (.slice BList d.List.length eList)) = w4 := e_w4
  have s_w4_1 := Nat.le_of_eq s_w4
  have s_w4_2 := Nat.le_of_eq s_w4.symm
  clear s_w4
  replace x_a := x_a.chg h_w4 (by omega)
  replace x_out := x_out.chg h_w4 (by omega)
  replace oList := oList.chg h_w4 (by omega)
  have B_w4 := Below.chg_ B_w3 h_w4 (by omega) (by omega)
  replace x_r : Vr w4 (w.heap.size + 1) 26 [.int .i64 d.Next, .slice BList d.List.length eList] := y
  clear y
  have c_r_0_w4 := x_r.cell (i := 0) rfl
  have f_r_0_w4 := x_r.frozen 0
  have c_r_1_w4 := x_r.cell (i := 1) rfl
  have f_r_1_w4 := x_r.frozen 1
  go_wp2
  refine ret_cell (by rfl) (by rfl) x_r Try.underlying26 sz_out (by rfl) ?_
  exact ⟨_, rfl, ov_out oList (by omega), B_w4⟩

set_option maxHeartbeats 1000000 in
theorem eqOut_same {w : World} {v v' : Value} {d : MOut} (h : RV outL w v d) (h' : RV outL w v' d) (hm : d.bulk ≤ 1073741824) : Calls Try.prog 24 #[v, v'] w fun e w' => e = .returned (.bool true) ∧ Below w.heap.size w w' := by
  obtain ⟨AList, cList, rfl, rList⟩ := rv_out h
  obtain ⟨AListx, cListx, rfl, rxList⟩ := rv_out h'
  unfold MOut.bulk at hm
  obtain ⟨wa, hwa, B0, sa, x_a, x_b⟩ := frame2 w 26 [.int .i64 d.Next, .slice AList d.List.length cList] 26 [.int .i64 d.Next, .slice AListx d.List.length cListx]
  have sa_1 := Nat.le_of_eq sa
  have sa_2 := Nat.le_of_eq sa.symm
  clear sa
  have c_a_0_wa := x_a.cell (i := 0) rfl
  have c_a_1_wa := x_a.cell (i := 1) rfl
  have c_b_0_wa := x_b.cell (i := 0) rfl
  have c_b_1_wa := x_b.cell (i := 1) rfl
  go_enter Try.func24, Try.ntmps24
  go_wp2_with fail
  refine (eqMsgS_same (rList.from_ B0) (rxList.from_ B0) (by omega)).mono ?_
  rintro e w1 ⟨rfl, h_w1⟩
  clear c_a_0_wa c_a_1_wa c_b_0_wa c_b_1_wa
  replace x_a := x_a.from_ h_w1
  replace x_b := x_b.from_ h_w1
  have B_w1 := B0.trans (h_w1.mono B0.size)
  have s_w1 := h_w1.size
  have c_a_0_w1 := x_a.cell (i := 0) rfl
  have c_a_1_w1 := x_a.cell (i := 1) rfl
  have c_b_0_w1 := x_b.cell (i := 0) rfl
  have c_b_1_w1 := x_b.cell (i := 1) rfl
  go_wp2
  go_ret
  exact ⟨rfl, B_w1⟩

set_option maxHeartbeats 1000000 in
theorem markOut_s {w : World} {S : List Nat} {cs : List Value} {d : MOut} {k : Int} (h : outL.own w S cs d) (hS : S.Nodup) (hm : d.steps ≤ 1073741824) (hk0 : 0 ≤ k) (hk1 : k ≤ 1073741824) :
    Calls Try.prog 25 #[valOf cs, .int .i64 k] w (MarkS outL w S cs (k + (d.steps : Int)) (d.mark k)) := by
  unfold MOut.steps at hm ⊢
  have hlt := outL.own_lt h
  obtain ⟨zNext, yNext, SNext, TNext, rfl, rfl, oNext, oList⟩ := h
  obtain ⟨rfl, rfl⟩ := oNext
  obtain ⟨AList, cList, rfl, -, -, -⟩ := msgSL.own_rd oList
  obtain ⟨nNext, mNext, dNext, eNext⟩ := nodup_app hS
  rw [show valOf ([.int .i64 d.Next] ++ ([.slice AList d.List.length cList])) = Value.agg #[.int .i64 d.Next, .slice AList d.List.length cList] from rfl]
  obtain ⟨wa, hwa, B0, sa, x_a⟩ := frame1 w 26 [.int .i64 d.Next, .slice AList d.List.length cList]
  have sa_1 := Nat.le_of_eq sa
  have sa_2 := Nat.le_of_eq sa.symm
  clear sa
  have c_a_0_wa := x_a.cell (i := 0) rfl
  have c_a_1_wa := x_a.cell (i := 1) rfl
  have C0 : ChgS ([] ++ (TNext)) w wa := ChgS.of_below B0
  have hList := fun j hj => hlt j (List.mem_append.2 (.inr hj))
  replace oList := msgSL.own_below oList B0
  go_enter Try.func25, Try.ntmps25
  go_wp2_with fail
  refine (markMsgS_s oList (by omega) (by omega) (by omega)).mono ?_
  rintro e w1 ⟨rfl, oList, h_w1⟩
  clear c_a_0_wa c_a_1_wa
  have s_w1 := h_w1.size
  replace x_a := x_a.chgS h_w1 (fun hj => by have := hList _ hj; omega)
  have Cw1 := C0.trans (h_w1.more (fun j hj => List.mem_append.2 (.inr hj)))
  have c_a_0_w1 := x_a.cell (i := 0) rfl
  have c_a_1_w1 := x_a.cell (i := 1) rfl
  go_wp2
  go_ret
  exact ⟨ret_int (by omega), ⟨_, _, _, _, rfl, rfl, ⟨rfl, rfl⟩, oList⟩, Cw1⟩

theorem markOut_c {w : World} {v : Value} {d : MOut} {lo hi : Nat} {k : Int} (h : OV outL w lo hi v d) (hm : d.steps ≤ 1073741824) (hk0 : 0 ≤ k) (hk1 : k ≤ 1073741824) :
    Calls Try.prog 25 #[v, .int .i64 k] w fun e w' => e = .returned (.int .i64 (k + (d.steps : Int))) ∧ OV outL w' lo hi v (d.mark k) ∧ Chg lo hi w w' := by
  obtain ⟨cs, S, rfl, ho, hn, hS, hh⟩ := h
  exact (markOut_s ho hn hm hk0 hk1).mono fun e w' hr => hr.up hn hS hh

set_option maxHeartbeats 1000000 in
theorem heldOut_c {w : World} {v : Value} {d : MOut} {k : Int} (h : RV outL w v (d.mark k)) (hm : d.steps ≤ 1073741824) (hk0 : 0 ≤ k) (hk1 : k ≤ 1073741824) :
    Calls Try.prog 26 #[v, .int .i64 k] w fun e w' => e = .returned (.int .i64 (k + (d.steps : Int))) ∧ Below w.heap.size w w' := by
  unfold MOut.steps at hm ⊢
  obtain ⟨AList, cList, rfl, rList⟩ := rv_out h
  obtain ⟨wa, hwa, B0, sa, x_a⟩ := frame1 w 26 [.int .i64 (d.mark k).Next, .slice AList (d.mark k).List.length cList]
  have sa_1 := Nat.le_of_eq sa
  have sa_2 := Nat.le_of_eq sa.symm
  clear sa
  have c_a_0_wa := x_a.cell (i := 0) rfl
  have c_a_1_wa := x_a.cell (i := 1) rfl
  go_enter Try.func26, Try.ntmps26
  go_wp2_with fail
  refine (heldMsgS_c (N := d.List.length) (rList.from_ B0) (by omega) (by omega) (by omega)).mono ?_
  rintro e w1 ⟨rfl, h_w1⟩
  clear c_a_0_wa c_a_1_wa
  replace x_a := x_a.from_ h_w1
  have B_w1 := B0.trans (h_w1.mono B0.size)
  have s_w1 := h_w1.size
  have c_a_0_w1 := x_a.cell (i := 0) rfl
  have c_a_1_w1 := x_a.cell (i := 1) rfl
  go_wp2
  go_ret
  exact ⟨ret_int (by omega), B_w1⟩

set_option maxHeartbeats 1000000 in
theorem szOut_c {w : World} {v : Value} {d : MOut} {left : Int} (h : RV outL w v d) (h0 : 0 ≤ left) (h1 : left ≤ 1073741824) :
    Calls Try.prog 27 #[v, .int .i64 left] w fun e w' => e = .returned (.int .i64 (szV left (d.bulk : Int))) ∧ Below w.heap.size w w' := by
  obtain ⟨AList, cList, rfl, rList⟩ := rv_out h
  obtain ⟨wa, hwa, B0, sa, x_a⟩ := frame1 w 47 [.int .i64 d.Next, .slice AList d.List.length cList]
  have sa_1 := Nat.le_of_eq sa
  have sa_2 := Nat.le_of_eq sa.symm
  clear sa
  have c_a_0_wa := x_a.cell (i := 0) rfl
  have c_a_1_wa := x_a.cell (i := 1) rfl
  have eb : (d.bulk : Int) = (d.List.length : Int) := by unfold MOut.bulk; omega
  by_cases g0 : (d.List.length : Int) ≤ left
  case neg =>
    have ez : szV left (d.bulk : Int) = -1 := by unfold szV; rw [if_neg (by omega)]
    rw [ez]
    go_enter Try.func27, Try.ntmps27
    go_wp2_with fail
    refine (szMsgS_c (rList.from_ B0) (by omega) (by omega)).mono ?_
    rintro e w1 ⟨rfl, h_w1⟩
    clear c_a_0_wa c_a_1_wa
    replace x_a := x_a.from_ h_w1
    have B_w1 := B0.trans (h_w1.mono B0.size)
    have s_w1 := h_w1.size
    rw [show szV (left) (d.List.length : Int) = -1 from if_neg (by omega)]
    go_wp2
    go_ret
    exact ⟨ret_int (by omega), B_w1⟩
  have ez : szV left (d.bulk : Int) = left - (d.bulk : Int) := by unfold szV; rw [if_pos (by omega)]
  rw [ez]
  go_enter Try.func27, Try.ntmps27
  go_wp2_with fail
  refine (szMsgS_c (rList.from_ B0) (by omega) (by omega)).mono ?_
  rintro e w1 ⟨rfl, h_w1⟩
  clear c_a_0_wa c_a_1_wa
  replace x_a := x_a.from_ h_w1
  have B_w1 := B0.trans (h_w1.mono B0.size)
  have s_w1 := h_w1.size
  rw [show szV (left) (d.List.length : Int) = left - (d.List.length : Int) from if_pos (by omega)]
  have gd0 : decide (left - (d.List.length : Int) < 0) = false := by simp; omega
  have c_a_0_w1 := x_a.cell (i := 0) rfl
  have c_a_1_w1 := x_a.cell (i := 1) rfl
  go_wp2
  go_ret
  exact ⟨ret_int (by omega), B_w1⟩

end Go.Proofs.Ytpaodpkgpajboaa
