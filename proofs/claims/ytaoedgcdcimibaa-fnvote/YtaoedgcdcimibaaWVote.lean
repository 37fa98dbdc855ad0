/- The walk of the law FnVote. Laid by a program of ours (src/fnvote.py). -/
import Derived.Test.YtaoedgcdcimibaaMakes
import Derived.Test.YtaoedgcdcimibaaVoteMem
import Derived.Test.YtaoedgcdcimibaaVtI
import Derived.IntWalk
import Derived.Deep.RegionHeld3
import Derived.StillTailTactics
namespace Go.Proofs.Ytaoedgcdcimibaa
open Go.RowKit
set_option linter.unusedVariables false

theorem rdV2 {w w' : World} {A : Option Addr} {zs : List Int} (h : Rd .u8 w w.heap.size A zs) (hb : Below w.heap.size w w') : Rd .u8 w' w'.heap.size A zs := (h.below hb).more hb.size
theorem takeH {P : Program} {md : Region.Mode} {ops : Array Oper} {Q : Exit → Act → World → Prop} {S : World → Prop} {i : Nat} {oi : Oper} {v : Value} {d : Option Tmp} {fuel : Nat} {listed : Array Bool} {a : Act} {w : World} (hi : ops[i]? = some oi) (hd : oi.dst = d)
    (hs : Region.noSelect ops = true) (hf : Region.free md ops listed i = true) (hr : (Region.ready md ops listed).contains i = true)
    (hQ : ∀ c a w, Q (.panic c) (a.put d v) w → Q (.panic c) a w) (hy : YieldsIf P ops S oi v a) (hS : S w)
    (h : wpAnyH P md ops Q S fuel (listed.setIfInBounds i true) (a.put d v) w) : wpAnyH P md ops Q S (fuel + 1) listed a w := by
  subst hd
  exact wpAnyH_take hi hs hf hr hQ hy hS h
theorem Vr.k3 {w : World} {b : Nat} {t : TypeId} {v0 v1 v2 : Value} (h : Vr w b t [v0, v1, v2]) : w.cell? ⟨b, 0, none⟩ = some v0 ∧ w.frozen? ⟨b, 0, none⟩ = false ∧ w.cell? ⟨b, 1, none⟩ = some v1 ∧ w.frozen? ⟨b, 1, none⟩ = false ∧ w.cell? ⟨b, 2, none⟩ = some v2 ∧ w.frozen? ⟨b, 2, none⟩ = false :=
  ⟨h.cell rfl, h.frozen 0, h.cell rfl, h.frozen 1, h.cell rfl, h.frozen 2⟩
theorem Vr.k5 {w : World} {b : Nat} {t : TypeId} {v0 v1 v2 v3 v4 : Value} (h : Vr w b t [v0, v1, v2, v3, v4]) : w.cell? ⟨b, 0, none⟩ = some v0 ∧ w.frozen? ⟨b, 0, none⟩ = false ∧ w.cell? ⟨b, 1, none⟩ = some v1 ∧ w.frozen? ⟨b, 1, none⟩ = false ∧ w.cell? ⟨b, 2, none⟩ = some v2 ∧ w.frozen? ⟨b, 2, none⟩ = false ∧ w.cell? ⟨b, 3, none⟩ = some v3 ∧ w.frozen? ⟨b, 3, none⟩ = false ∧ w.cell? ⟨b, 4, none⟩ = some v4 ∧ w.frozen? ⟨b, 4, none⟩ = false :=
  ⟨h.cell rfl, h.frozen 0, h.cell rfl, h.frozen 1, h.cell rfl, h.frozen 2, h.cell rfl, h.frozen 3, h.cell rfl, h.frozen 4⟩
theorem new5 : propNewB 5 1 = true ∧ propNew 5 1 = ⟨5, 1, [], 0, []⟩ := ⟨by decide, if_pos (by decide)⟩
theorem new6 : propNewB 6 2 = true ∧ propNew 6 2 = ⟨6, 2, [], 0, []⟩ := ⟨by decide, if_pos (by decide)⟩
theorem take51 : accTakeB accZ 5 1 = true ∧ accTake accZ 5 1 = ⟨5, 5, 1⟩ := ⟨by decide, if_pos (by decide)⟩
theorem bal5 : ballotOf 1 0 = 5 := by decide
theorem bal6 : ballotOf 1 1 = 6 := by decide

set_option maxRecDepth 100000 in
set_option maxHeartbeats 4000000 in
theorem wVote (v : Value) (zs : List Int) (w : World) (r : RS .u8 w v zs) (hb : Bytes zs) :
    Calls Try.prog 3 #[v] w fun e w' => e = .returned (.bool true) ∧ Below w.heap.size w w' := by
  obtain ⟨A, c, rfl, p1, p2, hr⟩ := r
  unfold maxLen at p2
  by_cases hbig : 1048576 < zs.length
  case pos =>
    have i0 : (1048576 : Int) < (zs.length : Int) := by omega
    go_enter Try.func3, Try.ntmps3
    go_wp2
    go_ret
    exact ⟨rfl, Below.refl _ _⟩
  have hm : zs.length ≤ 1048576 := by omega
  obtain ⟨ia, hia, hz0, hz1, hz2⟩ : ∃ i : TypeInfo, Try.prog.info? 33 = some i ∧ i.zero = some (.agg #[.int .i64 0, .int .i64 0, .int .i64 0]) ∧ i.size = 3 ∧ i.bytes = 24 := info_parts (by kernel_rfl)
  go_enter Try.func3, Try.ntmps3
  go_wp2_with (at_make; refine wpList_make_full _ rfl _ _ 23 rfl w.heap.size 33 ia (.agg #[.int .i64 0, .int .i64 0, .int .i64 0]) 3 Try.underlying23 hia hz0 hz1 .i64 .i64 _ _ 3 rfl rfl rfl rfl ?c1 ?c2 ?c3 ?_)
  case c1 => rw [hz2]; omega
  case c2 => unfold maxLen; omega
  case c3 => exact Nat.le_refl _
  intro w1 own1 g1
  have B_w1 : Below w.heap.size w w1 := (Below.refl _ _).grown g1 (Nat.le_refl _) (by intro k hk; cases hk)
  have x_c := acc_made own1
  have lc := x_c.lt
  clear own1 g1
  go_wp2_with fail
  refine (iBallotOf_c 1 0 _ (by omega) (by omega)).mono ?_
  rintro e w2a ⟨rfl, h_w2a⟩
  rw [bal5]
  have B_w2a := B_w1.trans (h_w2a.mono B_w1.size)
  go_wp2_with fail
  refine (iPropNew_c (b := 5) (u := 1) (by omega) (by omega)).mono ?_
  rintro e w2b ⟨up, rfl, o_p, h_w2b⟩
  rw [new5.2] at o_p
  rw [new5.1]
  have B_w2b := B_w2a.trans (h_w2b.mono B_w2a.size)
  obtain ⟨AFp, cFp, AGp, cGp, rfl, -⟩ := rv_prop o_p.rd
  obtain ⟨w2, e_w2, s_w2, h_w2, x_p⟩ := alloc_step w2b 26 [.int .i64 5, .int .i64 1, .slice AFp 0 cFp, .int .i64 0, .slice AGp 0 cGp]
  have s_w2_1 := Nat.le_of_eq s_w2
  have s_w2_2 := Nat.le_of_eq s_w2.symm
  clear s_w2
  replace o_p := o_p.below h_w2
  have B_w2 := B_w2b.trans (h_w2.mono B_w2b.size)
  replace x_c := ((x_c.from_ h_w2a).from_ h_w2b).from_ h_w2
  go_wp2_with fail
  refine (iBallotOf_c 1 1 _ (by omega) (by omega)).mono ?_
  rintro e w3a ⟨rfl, h_w3a⟩
  rw [bal6]
  have B_w3a := B_w2.trans (h_w3a.mono B_w2.size)
  go_wp2_with fail
  refine (iPropNew_c (b := 6) (u := 2) (by omega) (by omega)).mono ?_
  rintro e w3b ⟨uq, rfl, o_q, h_w3b⟩
  rw [new6.2] at o_q
  rw [new6.1]
  have B_w3b := B_w3a.trans (h_w3b.mono B_w3a.size)
  obtain ⟨AFq, cFq, AGq, cGq, rfl, -⟩ := rv_prop o_q.rd
  obtain ⟨w3, e_w3, s_w3, h_w3, x_q⟩ := alloc_step w3b 26 [.int .i64 6, .int .i64 2, .slice AFq 0 cFq, .int .i64 0, .slice AGq 0 cGq]
  have s_w3_1 := Nat.le_of_eq s_w3
  have s_w3_2 := Nat.le_of_eq s_w3.symm
  clear s_w3
  replace o_q := o_q.below h_w3
  have B_w3 := B_w3b.trans (h_w3.mono B_w3b.size)
  replace x_c := ((x_c.from_ h_w3a).from_ h_w3b).from_ h_w3
  replace x_p := ((x_p.from_ h_w3a).from_ h_w3b).from_ h_w3
  replace o_p := ((o_p.below h_w3a).below h_w3b).below h_w3
  go_wp2_with fail
  refine (makeNums_any A c zs 12 _ (rdV2 hr B_w3) hb hm (by omega) (by omega)).mono ?_
  rintro e w4 ⟨vn, l, rfl, on, hin, nl, h_w4⟩
  obtain ⟨An, cn, rfl, qn1, qn2, hrl⟩ := own_form on
  unfold maxLen at qn2
  have B_w4 := B_w3.trans (h_w4.mono B_w3.size)
  replace x_c := x_c.from_ h_w4
  replace x_p := x_p.from_ h_w4
  replace x_q := x_q.from_ h_w4
  replace o_p := o_p.below h_w4
  replace o_q := o_q.below h_w4
  have o_l := OS.mk_ on
  clear on
  have sz4 := h_w4.size
  have sz3 := h_w3b.size
  have sz2 := h_w2b.size
  have sz2a := h_w2a.size
  have sz3a := h_w3a.size
  have q_p : OVa propL w4 [w.heap.size, w2b.heap.size, w3b.heap.size] _ _ := o_p.away (by simp; omega)
  have q_q : OVa propL w4 [w.heap.size, w2b.heap.size, w3b.heap.size] _ _ := o_q.away (by simp; omega)
  have HV0 : Hid (VoteI (fun _ => accZ) ⟨5, 1, [], 0, []⟩ ⟨6, 2, [], 0, []⟩) := vote_start (fun _ _ => rfl)
  clear e_w2 e_w3
  go_wp2
  go_loopw [35] (fun j wr => ∃ (k : Nat) (acc : Nat → MAcc) (P Q : MProp) (AFp : Option Addr) (cFp : Nat) (AGp : Option Addr) (cGp : Nat) (AFq : Option Addr) (cFq : Nat) (AGq : Option Addr) (cGq : Nat), k ≤ l.length ∧ j = .int .i64 k ∧ Hid (VoteI acc P Q) ∧ Vr wr w.heap.size 33 (accCells acc) ∧ Vr wr w2b.heap.size 26 [.int .i64 P.Bal, .int .i64 P.Val, .slice AFp P.From.length cFp, .int .i64 P.Best, .slice AGp P.Got.length cGp] ∧ Vr wr w3b.heap.size 26 [.int .i64 Q.Bal, .int .i64 Q.Val, .slice AFq Q.From.length cFq, .int .i64 Q.Best, .slice AGq Q.Got.length cGq] ∧ OVa propL wr [w.heap.size, w2b.heap.size, w3b.heap.size] (.agg ([.int .i64 P.Bal, .int .i64 P.Val, .slice AFp P.From.length cFp, .int .i64 P.Best, .slice AGp P.Got.length cGp]).toArray) P ∧ OVa propL wr [w.heap.size, w2b.heap.size, w3b.heap.size] (.agg ([.int .i64 Q.Bal, .int .i64 Q.Val, .slice AFq Q.From.length cFq, .int .i64 Q.Best, .slice AGq Q.Got.length cGq]).toArray) Q ∧ OS .i64 3 wr w3.heap.size w4.heap.size (.slice An l.length cn) l ∧ Below w.heap.size w wr ∧ w4.heap.size ≤ wr.heap.size) (fun j _ => l.length - (intOf j).toNat)
  case atStart => exact ⟨0, _, _, _, _, _, _, _, _, _, _, _, Nat.zero_le _, rfl, HV0, x_c, x_p, x_q, q_p, q_q, o_l, B_w4, Nat.le_refl _⟩
  case round =>
    clear x_c x_p x_q q_p q_q o_p o_q o_l HV0
    obtain ⟨k, acc, P, Q, AFp, cFp, AGp, cGp, AFq, cFq, AGq, cGq, hk, rfl, HV, x_c, x_p, x_q, o_p, o_q, o_l, HB, hsz⟩ := hrel
    by_cases hlt : k < l.length
    case neg =>
      obtain ⟨c_p_0_wr, f_p_0_wr, c_p_1_wr, f_p_1_wr, c_p_2_wr, f_p_2_wr, c_p_3_wr, f_p_3_wr, c_p_4_wr, f_p_4_wr⟩ := x_p.k5
      obtain ⟨c_q_0_wr, f_q_0_wr, c_q_1_wr, f_q_1_wr, c_q_2_wr, f_q_2_wr, c_q_3_wr, f_q_3_wr, c_q_4_wr, f_q_4_wr⟩ := x_q.k5
      have hk2 : ¬ ((k : Int) < (l.length : Int)) := by omega
      go_wp2_with fail
      refine (iAccTake_c (a := accZ) (b := 5) (u := 1) (ov_acc (d := accZ) (lo := 0) (hi := 0) (Nat.zero_le _)).rd (by omega) (by omega)).mono ?_
      rintro e w11 ⟨v2, rfl, o_u, h_w11⟩
      clear c_p_0_wr f_p_0_wr c_p_1_wr f_p_1_wr c_p_2_wr f_p_2_wr c_p_3_wr f_p_3_wr c_p_4_wr f_p_4_wr c_q_0_wr f_q_0_wr c_q_1_wr f_q_1_wr c_q_2_wr f_q_2_wr c_q_3_wr f_q_3_wr c_q_4_wr f_q_4_wr
      replace x_c := x_c.from_ h_w11
      replace x_p := x_p.from_ h_w11
      replace x_q := x_q.from_ h_w11
      replace o_p := o_p.below h_w11
      replace o_q := o_q.below h_w11
      replace o_l := o_l.below h_w11
      have B_w11 := HB.trans (h_w11.mono HB.size)
      have z_w11 := h_w11.size
      rw [take51.2] at o_u
      rw [take51.1]
      obtain rfl := rv_acc o_u.rd
      clear o_u
      obtain ⟨w12, e_w12, s_w12, h_w12, x_a⟩ := alloc_step w11 33 [.int .i64 5, .int .i64 5, .int .i64 1]
      have s_w12_1 := Nat.le_of_eq s_w12
      have s_w12_2 := Nat.le_of_eq s_w12.symm
      clear s_w12
      replace o_p := o_p.more (Nat.le_refl w11.heap.size)
      replace o_q := o_q.more (Nat.le_refl w11.heap.size)
      replace x_c := x_c.from_ h_w12
      replace x_p := x_p.from_ h_w12
      replace x_q := x_q.from_ h_w12
      replace o_p := o_p.below h_w12
      replace o_q := o_q.below h_w12
      replace o_l := o_l.below h_w12
      have B_w12 := B_w11.trans (h_w12.mono B_w11.size)
      have z_w12 := h_w12.size
      obtain ⟨c_a_0_w12, f_a_0_w12, c_a_1_w12, f_a_1_w12, c_a_2_w12, f_a_2_w12⟩ := x_a.k3
      obtain ⟨c_p_0_w12, f_p_0_w12, c_p_1_w12, f_p_1_w12, c_p_2_w12, f_p_2_w12, c_p_3_w12, f_p_3_w12, c_p_4_w12, f_p_4_w12⟩ := x_p.k5
      obtain ⟨c_q_0_w12, f_q_0_w12, c_q_1_w12, f_q_1_w12, c_q_2_w12, f_q_2_w12, c_q_3_w12, f_q_3_w12, c_q_4_w12, f_q_4_w12⟩ := x_q.k5
      by_cases hw1 : propWonB P 3 = true
      case pos =>
       have HW : Hid (propWonB P 3 = true) := hw1
       go_wp2_with fail
       refine (iPropWon_c (p := P) (n := 3) o_p.rd HV.out.ip.bulk (by omega)).mono ?_
       rintro e w13 ⟨rfl, h_w13⟩
       clear c_a_0_w12 f_a_0_w12 c_a_1_w12 f_a_1_w12 c_a_2_w12 f_a_2_w12 c_p_0_w12 f_p_0_w12 c_p_1_w12 f_p_1_w12 c_p_2_w12 f_p_2_w12 c_p_3_w12 f_p_3_w12 c_p_4_w12 f_p_4_w12 c_q_0_w12 f_q_0_w12 c_q_1_w12 f_q_1_w12 c_q_2_w12 f_q_2_w12 c_q_3_w12 f_q_3_w12 c_q_4_w12 f_q_4_w12
       replace x_c := x_c.from_ h_w13
       replace x_p := x_p.from_ h_w13
       replace x_q := x_q.from_ h_w13
       replace x_a := x_a.from_ h_w13
       replace o_p := o_p.below h_w13
       replace o_q := o_q.below h_w13
       replace o_l := o_l.below h_w13
       have B_w13 := B_w12.trans (h_w13.mono B_w12.size)
       have z_w13 := h_w13.size
       rw [HW.out]
       clear HW
       obtain ⟨c_p_0_w13, f_p_0_w13, c_p_1_w13, f_p_1_w13, c_p_2_w13, f_p_2_w13, c_p_3_w13, f_p_3_w13, c_p_4_w13, f_p_4_w13⟩ := x_p.k5
       obtain ⟨c_q_0_w13, f_q_0_w13, c_q_1_w13, f_q_1_w13, c_q_2_w13, f_q_2_w13, c_q_3_w13, f_q_3_w13, c_q_4_w13, f_q_4_w13⟩ := x_q.k5
       by_cases hw2 : propWonB Q 3 = true
       case pos =>
        have HW : Hid (propWonB Q 3 = true) := hw2
        go_wp2_with fail
        refine (iPropWon_c (p := Q) (n := 3) o_q.rd HV.out.iq.bulk (by omega)).mono ?_
        rintro e w14 ⟨rfl, h_w14⟩
        clear c_p_0_w13 f_p_0_w13 c_p_1_w13 f_p_1_w13 c_p_2_w13 f_p_2_w13 c_p_3_w13 f_p_3_w13 c_p_4_w13 f_p_4_w13 c_q_0_w13 f_q_0_w13 c_q_1_w13 f_q_1_w13 c_q_2_w13 f_q_2_w13 c_q_3_w13 f_q_3_w13 c_q_4_w13 f_q_4_w13
        replace x_c := x_c.from_ h_w14
        replace x_p := x_p.from_ h_w14
        replace x_q := x_q.from_ h_w14
        replace x_a := x_a.from_ h_w14
        replace o_p := o_p.below h_w14
        replace o_q := o_q.below h_w14
        replace o_l := o_l.below h_w14
        have B_w14 := B_w13.trans (h_w14.mono B_w13.size)
        have z_w14 := h_w14.size
        rw [HW.out]
        clear HW
        obtain ⟨c_p_0_w14, f_p_0_w14, c_p_1_w14, f_p_1_w14, c_p_2_w14, f_p_2_w14, c_p_3_w14, f_p_3_w14, c_p_4_w14, f_p_4_w14⟩ := x_p.k5
        obtain ⟨c_q_0_w14, f_q_0_w14, c_q_1_w14, f_q_1_w14, c_q_2_w14, f_q_2_w14, c_q_3_w14, f_q_3_w14, c_q_4_w14, f_q_4_w14⟩ := x_q.k5
        have eV := vote_end HV.out hw1 hw2
        have gV : (P.Val == Q.Val) = true := by simpa using eV
        clear eV
        go_wp2
        go_ret
        exact ⟨rfl, B_w14⟩
       case neg =>
        have HW : Hid (propWonB Q 3 = false) := by show _ = _; simpa using hw2
        go_wp2_with fail
        refine (iPropWon_c (p := Q) (n := 3) o_q.rd HV.out.iq.bulk (by omega)).mono ?_
        rintro e w14 ⟨rfl, h_w14⟩
        clear c_p_0_w13 f_p_0_w13 c_p_1_w13 f_p_1_w13 c_p_2_w13 f_p_2_w13 c_p_3_w13 f_p_3_w13 c_p_4_w13 f_p_4_w13 c_q_0_w13 f_q_0_w13 c_q_1_w13 f_q_1_w13 c_q_2_w13 f_q_2_w13 c_q_3_w13 f_q_3_w13 c_q_4_w13 f_q_4_w13
        replace x_c := x_c.from_ h_w14
        replace x_p := x_p.from_ h_w14
        replace x_q := x_q.from_ h_w14
        replace x_a := x_a.from_ h_w14
        replace o_p := o_p.below h_w14
        replace o_q := o_q.below h_w14
        replace o_l := o_l.below h_w14
        have B_w14 := B_w13.trans (h_w14.mono B_w13.size)
        have z_w14 := h_w14.size
        rw [HW.out]
        go_wp2
        go_ret
        exact ⟨rfl, B_w14⟩
      case neg =>
       have HW : Hid (propWonB P 3 = false) := by show _ = _; simpa using hw1
       go_wp2_with fail
       refine (iPropWon_c (p := P) (n := 3) o_p.rd HV.out.ip.bulk (by omega)).mono ?_
       rintro e w13 ⟨rfl, h_w13⟩
       clear c_a_0_w12 f_a_0_w12 c_a_1_w12 f_a_1_w12 c_a_2_w12 f_a_2_w12 c_p_0_w12 f_p_0_w12 c_p_1_w12 f_p_1_w12 c_p_2_w12 f_p_2_w12 c_p_3_w12 f_p_3_w12 c_p_4_w12 f_p_4_w12 c_q_0_w12 f_q_0_w12 c_q_1_w12 f_q_1_w12 c_q_2_w12 f_q_2_w12 c_q_3_w12 f_q_3_w12 c_q_4_w12 f_q_4_w12
       replace x_c := x_c.from_ h_w13
       replace x_p := x_p.from_ h_w13
       replace x_q := x_q.from_ h_w13
       replace x_a := x_a.from_ h_w13
       replace o_p := o_p.below h_w13
       replace o_q := o_q.below h_w13
       replace o_l := o_l.below h_w13
       have B_w13 := B_w12.trans (h_w13.mono B_w12.size)
       have z_w13 := h_w13.size
       rw [HW.out]
       go_wp2
       go_ret
       exact ⟨rfl, B_w13⟩
    have i1 : (k : Int) < (l.length : Int) := by omega
    obtain ⟨An', cn', hen, -, -, hrl'⟩ := own_form o_l.1
    obtain ⟨rfl, rfl⟩ : An = An' ∧ cn = cn' := by simpa using hen
    clear hen
    obtain ⟨bl, ol, rfl, hbl, hcl⟩ := hrl' (by omega)
    replace hcl := hcl k hlt
    obtain ⟨kk, hkk⟩ : ∃ x, l.getD k 0 = x := ⟨_, rfl⟩
    have bk : 0 ≤ kk ∧ kk < 12 := by rw [← hkk, List.getD_eq_getElem?_getD, List.getElem?_eq_getElem hlt]; exact hin _ (List.getElem_mem hlt)
    rw [hkk] at hcl
    clear hkk
    obtain ⟨I, hIe⟩ : ∃ I : Nat, kk.tmod 3 = (I : Int) := ⟨(kk.tmod 3).toNat, by rw [Int.tmod_eq_emod_of_nonneg (by omega)]; omega⟩
    have hI : I < 3 := by have := hIe; rw [Int.tmod_eq_emod_of_nonneg (by omega)] at this; omega
    have hI2 : (I : Int) < 3 := by omega
    have t5 : IntKind.i64.wrap (I : Int) = (I : Int) := IntWalk.i64_in _ (by omega)
    obtain ⟨R2, h2⟩ : ∃ R2, kk.tmod 2 = R2 := ⟨_, rfl⟩
    have b2 : 0 ≤ R2 ∧ R2 ≤ 1 := by rw [← h2, Int.tmod_eq_emod_of_nonneg (by omega)]; omega
    have t6 : IntKind.i64.wrap R2 = R2 := IntWalk.i64_in _ (by omega)
    by_cases hod : R2 = 1
    case pos =>
     have g9 : (R2 == 1) = true := by simpa using hod
     clear hod
     by_cases h6 : kk < 6
     case pos =>
      have g6 : decide (kk < 6) = true := decide_eq_true h6
      have g7 : decide (6 ≤ kk) = false := decide_eq_false (by omega)
      by_cases hrd : propReadyB Q 3 = true
      case pos =>
       have HR : Hid (propReadyB Q 3 = true) := hrd
       clear hrd
       obtain ⟨c_p_0_wr, f_p_0_wr, c_p_1_wr, f_p_1_wr, c_p_2_wr, f_p_2_wr, c_p_3_wr, f_p_3_wr, c_p_4_wr, f_p_4_wr⟩ := x_p.k5
       obtain ⟨w11, e_w11, s_w11, h_w11, x_x⟩ := alloc_step wr 26 [.int .i64 P.Bal, .int .i64 P.Val, .slice AFp P.From.length cFp, .int .i64 P.Best, .slice AGp P.Got.length cGp]
       have s_w11_1 := Nat.le_of_eq s_w11
       have s_w11_2 := Nat.le_of_eq s_w11.symm
       clear s_w11
       replace o_p := o_p.more (Nat.le_refl wr.heap.size)
       replace o_q := o_q.more (Nat.le_refl wr.heap.size)
       replace x_c := x_c.from_ h_w11
       replace x_p := x_p.from_ h_w11
       replace x_q := x_q.from_ h_w11
       replace o_p := o_p.below h_w11
       replace o_q := o_q.below h_w11
       replace o_l := o_l.below h_w11
       have B_w11 := HB.trans (h_w11.mono HB.size)
       have z_w11 := h_w11.size
       obtain ⟨c_q_0_w11, f_q_0_w11, c_q_1_w11, f_q_1_w11, c_q_2_w11, f_q_2_w11, c_q_3_w11, f_q_3_w11, c_q_4_w11, f_q_4_w11⟩ := x_q.k5
       obtain ⟨c_x_0_w11, f_x_0_w11, c_x_1_w11, f_x_1_w11, c_x_2_w11, f_x_2_w11, c_x_3_w11, f_x_3_w11, c_x_4_w11, f_x_4_w11⟩ := x_x.k5
       obtain ⟨w12, e_w12, s_w12, h_w12, y_w12⟩ := store_step x_x [.int .i64 Q.Bal, .int .i64 Q.Val, .slice AFq Q.From.length cFq, .int .i64 Q.Best, .slice AGq Q.Got.length cGq] rfl
       replace e_w12 : (((((w11.setCell ⟨wr.heap.size, 0, none⟩ (.int .i64 Q.Bal)).setCell ⟨wr.heap.size, 1, none⟩ (.int .i64 Q.Val)).setCell ⟨wr.heap.size, 2, none⟩ (.slice AFq Q.From.length cFq)).setCell ⟨wr.heap.size, 3, none⟩ (.int .i64 Q.Best)).setCell ⟨wr.heap.size, 4, none⟩ (.slice AGq Q.Got.length cGq)) = w12 := e_w12
       have s_w12_1 := Nat.le_of_eq s_w12
       have s_w12_2 := Nat.le_of_eq s_w12.symm
       clear s_w12
       replace x_c := x_c.chg h_w12 (by omega)
       replace x_p := x_p.chg h_w12 (by omega)
       replace x_q := x_q.chg h_w12 (by omega)
       replace o_p := o_p.chg h_w12 (by simp)
       replace o_q := o_q.chg h_w12 (by simp)
       replace o_l := o_l.chg h_w12 (by omega)
       have B_w12 := Below.chg_ B_w11 h_w12 (by omega) (by omega)
       have z_w12 := h_w12.size
       replace x_x := y_w12
       clear y_w12
       have o_x := o_q
       obtain ⟨c_x_0_w12, f_x_0_w12, c_x_1_w12, f_x_1_w12, c_x_2_w12, f_x_2_w12, c_x_3_w12, f_x_3_w12, c_x_4_w12, f_x_4_w12⟩ := x_x.k5
       go_wp2_with fail
       refine (iPropReady_c (p := Q) (n := 3) o_x.rd HV.out.iq.bulk (by omega)).mono ?_
       rintro e w13 ⟨rfl, h_w13⟩
       clear c_p_0_wr f_p_0_wr c_p_1_wr f_p_1_wr c_p_2_wr f_p_2_wr c_p_3_wr f_p_3_wr c_p_4_wr f_p_4_wr c_q_0_w11 f_q_0_w11 c_q_1_w11 f_q_1_w11 c_q_2_w11 f_q_2_w11 c_q_3_w11 f_q_3_w11 c_q_4_w11 f_q_4_w11 c_x_0_w11 f_x_0_w11 c_x_1_w11 f_x_1_w11 c_x_2_w11 f_x_2_w11 c_x_3_w11 f_x_3_w11 c_x_4_w11 f_x_4_w11 c_x_0_w12 f_x_0_w12 c_x_1_w12 f_x_1_w12 c_x_2_w12 f_x_2_w12 c_x_3_w12 f_x_3_w12 c_x_4_w12 f_x_4_w12
       replace x_c := x_c.from_ h_w13
       replace x_p := x_p.from_ h_w13
       replace x_q := x_q.from_ h_w13
       replace x_x := x_x.from_ h_w13
       replace o_p := o_p.below h_w13
       replace o_q := o_q.below h_w13
       replace o_x := o_x.below h_w13
       replace o_l := o_l.below h_w13
       have B_w13 := B_w12.trans (h_w13.mono B_w12.size)
       have z_w13 := h_w13.size
       rw [HR.out]
       obtain ⟨c_x_0_w13, f_x_0_w13, c_x_1_w13, f_x_1_w13, c_x_2_w13, f_x_2_w13, c_x_3_w13, f_x_3_w13, c_x_4_w13, f_x_4_w13⟩ := x_x.k5
       obtain ⟨c_q_0_w13, f_q_0_w13, c_q_1_w13, f_q_1_w13, c_q_2_w13, f_q_2_w13, c_q_3_w13, f_q_3_w13, c_q_4_w13, f_q_4_w13⟩ := x_q.k5
       obtain ⟨w14, e_w14, s_w14, h_w14, y_w14⟩ := store_step x_q [.int .i64 Q.Bal, .int .i64 Q.Val, .slice AFq Q.From.length cFq, .int .i64 Q.Best, .slice AGq Q.Got.length cGq] rfl
       replace e_w14 : (((((w13.setCell ⟨w3b.heap.size, 0, none⟩ (.int .i64 Q.Bal)).setCell ⟨w3b.heap.size, 1, none⟩ (.int .i64 Q.Val)).setCell ⟨w3b.heap.size, 2, none⟩ (.slice AFq Q.From.length cFq)).setCell ⟨w3b.heap.size, 3, none⟩ (.int .i64 Q.Best)).setCell ⟨w3b.heap.size, 4, none⟩ (.slice AGq Q.Got.length cGq)) = w14 := e_w14
       have s_w14_1 := Nat.le_of_eq s_w14
       have s_w14_2 := Nat.le_of_eq s_w14.symm
       clear s_w14
       replace x_c := x_c.chg h_w14 (by omega)
       replace x_p := x_p.chg h_w14 (by omega)
       replace x_x := x_x.chg h_w14 (by omega)
       replace o_p := o_p.chg h_w14 (by simp)
       replace o_q := o_q.chg h_w14 (by simp)
       replace o_x := o_x.chg h_w14 (by simp)
       replace o_l := o_l.chg h_w14 (by omega)
       have B_w14 := Below.chg_ B_w13 h_w14 (by omega) (by omega)
       have z_w14 := h_w14.size
       replace x_q := y_w14
       clear y_w14
       have HA1 : Hid (accOkB (acc I) = true) := (HV.out.ia I hI).ok
       have HP1 : Hid (propOkB Q = true) := HV.out.iq.ok (.inr rfl)
       have c_c_0_w14 := x_c.ac0 hI
       have c_c_1_w14 := x_c.ac1 hI
       have c_c_2_w14 := x_c.ac2 hI
       have f_c_0_w14 := x_c.frozen (I * 3)
       have f_c_1_w14 := x_c.frozen (I * 3 + 1)
       have f_c_2_w14 := x_c.frozen (I * 3 + 2)
       obtain ⟨c_x_0_w14, f_x_0_w14, c_x_1_w14, f_x_1_w14, c_x_2_w14, f_x_2_w14, c_x_3_w14, f_x_3_w14, c_x_4_w14, f_x_4_w14⟩ := x_x.k5
       go_wp2_with fail
       refine (iAccOk_c (a := acc I) (ov_acc (d := acc I) (lo := 0) (hi := 0) (Nat.zero_le _)).rd).mono ?_
       rintro e w15 ⟨rfl, h_w15⟩
       clear c_x_0_w13 f_x_0_w13 c_x_1_w13 f_x_1_w13 c_x_2_w13 f_x_2_w13 c_x_3_w13 f_x_3_w13 c_x_4_w13 f_x_4_w13 c_q_0_w13 f_q_0_w13 c_q_1_w13 f_q_1_w13 c_q_2_w13 f_q_2_w13 c_q_3_w13 f_q_3_w13 c_q_4_w13 f_q_4_w13 c_c_0_w14 c_c_1_w14 c_c_2_w14 f_c_0_w14 f_c_1_w14 f_c_2_w14 c_x_0_w14 f_x_0_w14 c_x_1_w14 f_x_1_w14 c_x_2_w14 f_x_2_w14 c_x_3_w14 f_x_3_w14 c_x_4_w14 f_x_4_w14
       replace x_c := x_c.from_ h_w15
       replace x_p := x_p.from_ h_w15
       replace x_q := x_q.from_ h_w15
       replace x_x := x_x.from_ h_w15
       replace o_p := o_p.below h_w15
       replace o_q := o_q.below h_w15
       replace o_x := o_x.below h_w15
       replace o_l := o_l.below h_w15
       have B_w15 := B_w14.trans (h_w15.mono B_w14.size)
       have z_w15 := h_w15.size
       rw [HA1.out]
       obtain ⟨c_x_0_w15, f_x_0_w15, c_x_1_w15, f_x_1_w15, c_x_2_w15, f_x_2_w15, c_x_3_w15, f_x_3_w15, c_x_4_w15, f_x_4_w15⟩ := x_x.k5
       go_wp2_with fail
       refine (iPropOk_c (p := Q) o_x.rd HV.out.iq.bulk).mono ?_
       rintro e w16 ⟨rfl, h_w16⟩
       clear c_x_0_w15 f_x_0_w15 c_x_1_w15 f_x_1_w15 c_x_2_w15 f_x_2_w15 c_x_3_w15 f_x_3_w15 c_x_4_w15 f_x_4_w15
       replace x_c := x_c.from_ h_w16
       replace x_p := x_p.from_ h_w16
       replace x_q := x_q.from_ h_w16
       replace x_x := x_x.from_ h_w16
       replace o_p := o_p.below h_w16
       replace o_q := o_q.below h_w16
       replace o_x := o_x.below h_w16
       replace o_l := o_l.below h_w16
       have B_w16 := B_w15.trans (h_w16.mono B_w15.size)
       have z_w16 := h_w16.size
       rw [HP1.out]
       go_wp2
       go_roundw
       case rel => exact ⟨k + 1, acc, P, Q, _, _, _, _, _, _, _, _, by omega, by go_num, HV, x_c, x_p, x_q, o_p.less (by simp), o_x.less (by simp), o_l, B_w16, by omega⟩
       case measure => simp [intOf]; omega
      case neg =>
       have HR : Hid (propReadyB Q 3 = false) := by show _ = _; simpa using hrd
       clear hrd
       obtain ⟨c_p_0_wr, f_p_0_wr, c_p_1_wr, f_p_1_wr, c_p_2_wr, f_p_2_wr, c_p_3_wr, f_p_3_wr, c_p_4_wr, f_p_4_wr⟩ := x_p.k5
       obtain ⟨w11, e_w11, s_w11, h_w11, x_x⟩ := alloc_step wr 26 [.int .i64 P.Bal, .int .i64 P.Val, .slice AFp P.From.length cFp, .int .i64 P.Best, .slice AGp P.Got.length cGp]
       have s_w11_1 := Nat.le_of_eq s_w11
       have s_w11_2 := Nat.le_of_eq s_w11.symm
       clear s_w11
       replace o_p := o_p.more (Nat.le_refl wr.heap.size)
       replace o_q := o_q.more (Nat.le_refl wr.heap.size)
       replace x_c := x_c.from_ h_w11
       replace x_p := x_p.from_ h_w11
       replace x_q := x_q.from_ h_w11
       replace o_p := o_p.below h_w11
       replace o_q := o_q.below h_w11
       replace o_l := o_l.below h_w11
       have B_w11 := HB.trans (h_w11.mono HB.size)
       have z_w11 := h_w11.size
       obtain ⟨c_q_0_w11, f_q_0_w11, c_q_1_w11, f_q_1_w11, c_q_2_w11, f_q_2_w11, c_q_3_w11, f_q_3_w11, c_q_4_w11, f_q_4_w11⟩ := x_q.k5
       obtain ⟨c_x_0_w11, f_x_0_w11, c_x_1_w11, f_x_1_w11, c_x_2_w11, f_x_2_w11, c_x_3_w11, f_x_3_w11, c_x_4_w11, f_x_4_w11⟩ := x_x.k5
       obtain ⟨w12, e_w12, s_w12, h_w12, y_w12⟩ := store_step x_x [.int .i64 Q.Bal, .int .i64 Q.Val, .slice AFq Q.From.length cFq, .int .i64 Q.Best, .slice AGq Q.Got.length cGq] rfl
       replace e_w12 : (((((w11.setCell ⟨wr.heap.size, 0, none⟩ (.int .i64 Q.Bal)).setCell ⟨wr.heap.size, 1, none⟩ (.int .i64 Q.Val)).setCell ⟨wr.heap.size, 2, none⟩ (.slice AFq Q.From.length cFq)).setCell ⟨wr.heap.size, 3, none⟩ (.int .i64 Q.Best)).setCell ⟨wr.heap.size, 4, none⟩ (.slice AGq Q.Got.length cGq)) = w12 := e_w12
       have s_w12_1 := Nat.le_of_eq s_w12
       have s_w12_2 := Nat.le_of_eq s_w12.symm
       clear s_w12
       replace x_c := x_c.chg h_w12 (by omega)
       replace x_p := x_p.chg h_w12 (by omega)
       replace x_q := x_q.chg h_w12 (by omega)
       replace o_p := o_p.chg h_w12 (by simp)
       replace o_q := o_q.chg h_w12 (by simp)
       replace o_l := o_l.chg h_w12 (by omega)
       have B_w12 := Below.chg_ B_w11 h_w12 (by omega) (by omega)
       have z_w12 := h_w12.size
       replace x_x := y_w12
       clear y_w12
       have o_x := o_q
       obtain ⟨c_x_0_w12, f_x_0_w12, c_x_1_w12, f_x_1_w12, c_x_2_w12, f_x_2_w12, c_x_3_w12, f_x_3_w12, c_x_4_w12, f_x_4_w12⟩ := x_x.k5
       go_wp2_with fail
       refine (iPropReady_c (p := Q) (n := 3) o_x.rd HV.out.iq.bulk (by omega)).mono ?_
       rintro e w13 ⟨rfl, h_w13⟩
       clear c_p_0_wr f_p_0_wr c_p_1_wr f_p_1_wr c_p_2_wr f_p_2_wr c_p_3_wr f_p_3_wr c_p_4_wr f_p_4_wr c_q_0_w11 f_q_0_w11 c_q_1_w11 f_q_1_w11 c_q_2_w11 f_q_2_w11 c_q_3_w11 f_q_3_w11 c_q_4_w11 f_q_4_w11 c_x_0_w11 f_x_0_w11 c_x_1_w11 f_x_1_w11 c_x_2_w11 f_x_2_w11 c_x_3_w11 f_x_3_w11 c_x_4_w11 f_x_4_w11 c_x_0_w12 f_x_0_w12 c_x_1_w12 f_x_1_w12 c_x_2_w12 f_x_2_w12 c_x_3_w12 f_x_3_w12 c_x_4_w12 f_x_4_w12
       replace x_c := x_c.from_ h_w13
       replace x_p := x_p.from_ h_w13
       replace x_q := x_q.from_ h_w13
       replace x_x := x_x.from_ h_w13
       replace o_p := o_p.below h_w13
       replace o_q := o_q.below h_w13
       replace o_x := o_x.below h_w13
       replace o_l := o_l.below h_w13
       have B_w13 := B_w12.trans (h_w13.mono B_w12.size)
       have z_w13 := h_w13.size
       rw [HR.out]
       have HBAL : Hid (Q.Bal = 6) := HV.out.iq.1
       have hXb : -9223372036854775808 ≤ Q.Bal ∧ Q.Bal ≤ 9223372036854775807 := by rw [HBAL.out]; omega
       have hXv : -9223372036854775808 ≤ Q.Val ∧ Q.Val ≤ 9223372036854775807 := by have := HV.out.iq.2.1; omega
       have hAb : -9223372036854775808 ≤ (acc I).Bal ∧ (acc I).Bal ≤ 9223372036854775807 := by have := (HV.out.ia I hI).2.1; omega
       have hAv : -9223372036854775808 ≤ (acc I).Val ∧ (acc I).Val ≤ 9223372036854775807 := by have := (HV.out.ia I hI).2.1; omega
       obtain ⟨D, hD⟩ : ∃ D, accPrep (acc I) Q.Bal = D := ⟨_, rfl⟩
       by_cases hgd : accPrepB (acc I) Q.Bal = true
       case pos =>
        have HG : Hid (accPrepB (acc I) Q.Bal = true) := hgd
        obtain ⟨X2, hX2⟩ : ∃ x, propHear Q (I : Int) (acc I).Bal (acc I).Val = x := ⟨_, rfl⟩
        obtain ⟨acc2, hA2⟩ : ∃ x, upd acc I D = x := ⟨_, rfl⟩
        have HV2 : Hid (VoteI acc2 P X2) := by
          have h1 := hgd
          rw [HBAL.out] at h1 hD
          have := vote_hearQ HV.out hI h1
          rw [hD, hX2, hA2] at this
          exact this
        have HD := Lib.hid hD
        have HX := Lib.hid hX2
        have HA2 := Lib.hid hA2
        clear hD hX2 hA2 hgd
        go_wp2_with fail
        refine wp_region_held (S := fun u => Vr u w.heap.size 33 (accCells acc) ∧ Vr u wr.heap.size 26 [.int .i64 Q.Bal, .int .i64 Q.Val, .slice AFq Q.From.length cFq, .int .i64 Q.Best, .slice AGq Q.Got.length cGq]) (by kernel_rfl) ?_
        obtain ⟨w14, hwd⟩ : ∃ x, ({ heap := w13.heap, tape := w13.tape, drawn := w13.drawn + 1, os := w13.os, output := w13.output } : World) = x := ⟨_, rfl⟩
        have h_w14 : Below w13.heap.size w13 w14 := by rw [← hwd]; exact (Below.refl w13.heap.size w13).drew
        replace x_c := x_c.from_ h_w14
        replace x_p := x_p.from_ h_w14
        replace x_q := x_q.from_ h_w14
        replace x_x := x_x.from_ h_w14
        replace o_p := o_p.below h_w14
        replace o_q := o_q.below h_w14
        replace o_x := o_x.below h_w14
        replace o_l := o_l.below h_w14
        have B_w14 := B_w13.trans (h_w14.mono B_w13.size)
        have z_w14 := h_w14.size
        rw [hwd]
        clear hwd
        refine takeH (i := 0) (v := ?v1) (d := some 54) rfl rfl (by kernel_rfl) (by kernel_rfl) (by kernel_rfl) (fun _ _ _ h => h) (Or.inl ⟨by rfl, ?y1⟩) ⟨x_c, x_x⟩ ?r1
        case y1 => (intro W hW; go_simp; try (with_reducible rfl))
        simp only [Act.put, List.setIfInBounds_toArray, List.set_cons_zero, List.set_cons_succ]
        refine takeH (i := 1) (v := ?v2) (d := some 55) rfl rfl (by kernel_rfl) (by kernel_rfl) (by kernel_rfl) (fun _ _ _ h => h) (Or.inl ⟨by rfl, ?y2⟩) ⟨x_c, x_x⟩ ?r2
        case y2 => (intro W hW; go_simp; try (with_reducible rfl))
        simp only [Act.put, List.setIfInBounds_toArray, List.set_cons_zero, List.set_cons_succ]
        refine takeH (i := 2) (v := ?v3) (d := some 56) rfl rfl (by kernel_rfl) (by kernel_rfl) (by kernel_rfl) (fun _ _ _ h => h) (Or.inl ⟨by rfl, ?y3⟩) ⟨x_c, x_x⟩ ?r3
        case y3 => (intro W hW; go_simp; try (with_reducible rfl))
        simp only [Act.put, List.setIfInBounds_toArray, List.set_cons_zero, List.set_cons_succ]
        refine takeH (i := 3) (v := ?v4) (d := some 57) rfl rfl (by kernel_rfl) (by kernel_rfl) (by kernel_rfl) (fun _ _ _ h => h) (Or.inl ⟨by rfl, ?y4⟩) ⟨x_c, x_x⟩ ?r4
        case y4 => (intro W hW; have k0 := hW.1.ac0 hI; have k1 := hW.1.ac1 hI; have k2 := hW.1.ac2 hI; go_simp; try (with_reducible rfl))
        simp only [Act.put, List.setIfInBounds_toArray, List.set_cons_zero, List.set_cons_succ]
        refine takeH (i := 4) (v := ?v5) (d := some 58) rfl rfl (by kernel_rfl) (by kernel_rfl) (by kernel_rfl) (fun _ _ _ h => h) (Or.inl ⟨by rfl, ?y5⟩) ⟨x_c, x_x⟩ ?r5
        case y5 => (intro W hW; go_simp; try (with_reducible rfl))
        simp only [Act.put, List.setIfInBounds_toArray, List.set_cons_zero, List.set_cons_succ]
        refine takeH (i := 5) (v := ?v6) (d := some 59) rfl rfl (by kernel_rfl) (by kernel_rfl) (by kernel_rfl) (fun _ _ _ h => h) (Or.inl ⟨by rfl, ?y6⟩) ⟨x_c, x_x⟩ ?r6
        case y6 => (intro W hW; have j0 := hW.2.cell (i := 0) rfl; have j1 := hW.2.cell (i := 1) rfl; have j2 := hW.2.cell (i := 2) rfl; have j3 := hW.2.cell (i := 3) rfl; have j4 := hW.2.cell (i := 4) rfl; go_simp; try (with_reducible rfl))
        simp only [Act.put, List.setIfInBounds_toArray, List.set_cons_zero, List.set_cons_succ]
        refine wpAnyH_ready (rs := [6, 10]) (by kernel_rfl) (by simp) ?_
        refine AllReadyH.cons rfl (fun K hK => ?_) (AllReadyH.cons rfl (fun K hK => ?_) AllReadyH.nil)
        · go_simp
          skip
          refine (iAccPrep_c (a := acc I) (b := Q.Bal) (ov_acc (d := acc I) (lo := 0) (hi := 0) (Nat.zero_le _)).rd hXb).mono ?_
          rintro e w15 ⟨v9, rfl, o_a, h_w15⟩
          replace x_c := x_c.from_ h_w15
          replace x_p := x_p.from_ h_w15
          replace x_q := x_q.from_ h_w15
          replace x_x := x_x.from_ h_w15
          replace o_p := o_p.below h_w15
          replace o_q := o_q.below h_w15
          replace o_x := o_x.below h_w15
          replace o_l := o_l.below h_w15
          have B_w15 := B_w14.trans (h_w15.mono B_w14.size)
          have z_w15 := h_w15.size
          rw [HD.out] at o_a
          rw [HG.out]
          obtain rfl := rv_acc o_a.rd
          clear o_a
          go_simp
          refine hK.out _ _ ⟨x_c, x_x⟩ (fun _ => ?_)
          clear hK K
          refine takeH (i := 7) (v := ?v7) (d := some 53) rfl rfl (by kernel_rfl) (by kernel_rfl) (by kernel_rfl) (fun _ _ _ h => h) (Or.inl ⟨by rfl, ?y7⟩) ⟨x_c, x_x⟩ ?r7
          case y7 => (intro W hW; go_simp; try (with_reducible rfl))
          simp only [Act.put, List.setIfInBounds_toArray, List.set_cons_zero, List.set_cons_succ]
          refine takeH (i := 8) (v := ?v8) (d := some 61) rfl rfl (by kernel_rfl) (by kernel_rfl) (by kernel_rfl) (fun _ _ _ h => h) (Or.inl ⟨by rfl, ?y8⟩) ⟨x_c, x_x⟩ ?r8
          case y8 => (intro W hW; go_simp; try (with_reducible rfl))
          simp only [Act.put, List.setIfInBounds_toArray, List.set_cons_zero, List.set_cons_succ]
          refine takeH (i := 9) (v := ?v9) (d := some 62) rfl rfl (by kernel_rfl) (by kernel_rfl) (by kernel_rfl) (fun _ _ _ h => h) (Or.inl ⟨by rfl, ?y9⟩) ⟨x_c, x_x⟩ ?r9
          case y9 => (intro W hW; go_simp; try (with_reducible rfl))
          simp only [Act.put, List.setIfInBounds_toArray, List.set_cons_zero, List.set_cons_succ]
          refine wpAnyH_ready (rs := [10]) (by kernel_rfl) (by simp) ?_
          refine AllReadyH.cons rfl (fun K hK => ?_) AllReadyH.nil
          obtain ⟨w16, e_w16, s_w16, h_w16, x_a⟩ := alloc_step w15 33 [.int .i64 0, .int .i64 0, .int .i64 0]
          have s_w16_1 := Nat.le_of_eq s_w16
          have s_w16_2 := Nat.le_of_eq s_w16.symm
          clear s_w16
          replace o_p := o_p.more (Nat.le_refl w15.heap.size)
          replace o_q := o_q.more (Nat.le_refl w15.heap.size)
          replace o_x := o_x.more (Nat.le_refl w15.heap.size)
          replace x_c := x_c.from_ h_w16
          replace x_p := x_p.from_ h_w16
          replace x_q := x_q.from_ h_w16
          replace x_x := x_x.from_ h_w16
          replace o_p := o_p.below h_w16
          replace o_q := o_q.below h_w16
          replace o_x := o_x.below h_w16
          replace o_l := o_l.below h_w16
          have B_w16 := B_w15.trans (h_w16.mono B_w15.size)
          have z_w16 := h_w16.size
          go_simp
          refine hK.out _ _ ⟨x_c, x_x⟩ (fun _ => ?_)
          clear hK K
          obtain ⟨c_a_0_w16, f_a_0_w16, c_a_1_w16, f_a_1_w16, c_a_2_w16, f_a_2_w16⟩ := x_a.k3
          obtain ⟨w17, e_w17, s_w17, h_w17, y_w17⟩ := store_step x_a [.int .i64 D.Prom, .int .i64 D.Bal, .int .i64 D.Val] rfl
          replace e_w17 : (((w16.setCell ⟨w15.heap.size, 0, none⟩ (.int .i64 D.Prom)).setCell ⟨w15.heap.size, 1, none⟩ (.int .i64 D.Bal)).setCell ⟨w15.heap.size, 2, none⟩ (.int .i64 D.Val)) = w17 := e_w17
          have s_w17_1 := Nat.le_of_eq s_w17
          have s_w17_2 := Nat.le_of_eq s_w17.symm
          clear s_w17
          replace x_c := x_c.chg h_w17 (by omega)
          replace x_p := x_p.chg h_w17 (by omega)
          replace x_q := x_q.chg h_w17 (by omega)
          replace x_x := x_x.chg h_w17 (by omega)
          replace o_p := o_p.chg h_w17 (by simp)
          replace o_q := o_q.chg h_w17 (by simp)
          replace o_x := o_x.chg h_w17 (by simp)
          replace o_l := o_l.chg h_w17 (by omega)
          have B_w17 := Below.chg_ B_w16 h_w17 (by omega) (by omega)
          have z_w17 := h_w17.size
          replace x_a := y_w17
          clear y_w17
          refine wpAnyH_ready (rs := [11]) (by kernel_rfl) (by simp) ?_
          refine AllReadyH.cons rfl (fun K hK => ?_) AllReadyH.nil
          go_simp
          refine hK.out _ _ ⟨x_c, x_x⟩ (fun _ => ?_)
          clear hK K
          clear c_a_0_w16 f_a_0_w16 c_a_1_w16 f_a_1_w16 c_a_2_w16 f_a_2_w16
          refine wpAnyH_ready (rs := [12]) (by kernel_rfl) (by simp) ?_
          refine AllReadyH.cons rfl (fun K hK => ?_) AllReadyH.nil
          go_simp
          refine hK.out _ _ ⟨x_c, x_x⟩ (fun _ => ?_)
          clear hK K
          refine wpAnyH_done (by kernel_rfl) ?_ _
          go_wp2_with fail
          obtain ⟨w18, hwd⟩ : ∃ x, ({ heap := w17.heap, tape := w17.tape, drawn := w17.drawn + 1, os := w17.os, output := w17.output } : World) = x := ⟨_, rfl⟩
          have h_w18 : Below w17.heap.size w17 w18 := by rw [← hwd]; exact (Below.refl w17.heap.size w17).drew
          replace x_c := x_c.from_ h_w18
          replace x_p := x_p.from_ h_w18
          replace x_q := x_q.from_ h_w18
          replace x_x := x_x.from_ h_w18
          replace x_a := x_a.from_ h_w18
          replace o_p := o_p.below h_w18
          replace o_q := o_q.below h_w18
          replace o_x := o_x.below h_w18
          replace o_l := o_l.below h_w18
          have B_w18 := B_w17.trans (h_w18.mono B_w17.size)
          have z_w18 := h_w18.size
          have c_c_0_w18 := x_c.ac0 hI
          have c_c_1_w18 := x_c.ac1 hI
          have c_c_2_w18 := x_c.ac2 hI
          have f_c_0_w18 := x_c.frozen (I * 3)
          have f_c_1_w18 := x_c.frozen (I * 3 + 1)
          have f_c_2_w18 := x_c.frozen (I * 3 + 2)
          obtain ⟨c_x_0_w18, f_x_0_w18, c_x_1_w18, f_x_1_w18, c_x_2_w18, f_x_2_w18, c_x_3_w18, f_x_3_w18, c_x_4_w18, f_x_4_w18⟩ := x_x.k5
          refine wp_region_still_tail 12 (by kernel_rfl) (by kernel_rfl) ?_
          rw [hwd]
          simp only [List.take_succ_cons, List.take_zero, List.drop_succ_cons, List.drop_zero]
          repeat still_step
          refine wpStill_nil ?_
          go_wp2_with fail
          refine (iPropHear_c (p := Q) (n := (I : Int)) (b := (acc I).Bal) (u := (acc I).Val) o_x.rd HV.out.iq.bulk (by omega) hAb hAv).mono ?_
          rintro e w19 ⟨un, rfl, o_n, h_w19⟩
          clear c_c_0_w18 c_c_1_w18 c_c_2_w18 f_c_0_w18 f_c_1_w18 f_c_2_w18 c_x_0_w18 f_x_0_w18 c_x_1_w18 f_x_1_w18 c_x_2_w18 f_x_2_w18 c_x_3_w18 f_x_3_w18 c_x_4_w18 f_x_4_w18
          replace x_c := x_c.from_ h_w19
          replace x_p := x_p.from_ h_w19
          replace x_q := x_q.from_ h_w19
          replace x_x := x_x.from_ h_w19
          replace x_a := x_a.from_ h_w19
          replace o_p := o_p.below h_w19
          replace o_q := o_q.below h_w19
          replace o_x := o_x.below h_w19
          replace o_l := o_l.below h_w19
          have B_w19 := B_w18.trans (h_w19.mono B_w18.size)
          have z_w19 := h_w19.size
          rw [HX.out] at o_n
          obtain ⟨AFn, cFn, AGn, cGn, rfl, -⟩ := rv_prop o_n.rd
          replace o_x : OVa propL w19 [w.heap.size, w2b.heap.size, w3b.heap.size, wr.heap.size, w15.heap.size] _ _ := o_n.away (by simp; omega)
          clear o_n
          obtain ⟨c_x_0_w19, f_x_0_w19, c_x_1_w19, f_x_1_w19, c_x_2_w19, f_x_2_w19, c_x_3_w19, f_x_3_w19, c_x_4_w19, f_x_4_w19⟩ := x_x.k5
          obtain ⟨c_a_0_w19, f_a_0_w19, c_a_1_w19, f_a_1_w19, c_a_2_w19, f_a_2_w19⟩ := x_a.k3
          have c_c_0_w19 := x_c.ac0 hI
          have c_c_1_w19 := x_c.ac1 hI
          have c_c_2_w19 := x_c.ac2 hI
          have f_c_0_w19 := x_c.frozen (I * 3)
          have f_c_1_w19 := x_c.frozen (I * 3 + 1)
          have f_c_2_w19 := x_c.frozen (I * 3 + 2)
          obtain ⟨w20, e_w20, s_w20, h_w20, y_w20⟩ := store_step x_x [.int .i64 X2.Bal, .int .i64 X2.Val, .slice AFn X2.From.length cFn, .int .i64 X2.Best, .slice AGn X2.Got.length cGn] rfl
          replace e_w20 : (((((w19.setCell ⟨wr.heap.size, 0, none⟩ (.int .i64 X2.Bal)).setCell ⟨wr.heap.size, 1, none⟩ (.int .i64 X2.Val)).setCell ⟨wr.heap.size, 2, none⟩ (.slice AFn X2.From.length cFn)).setCell ⟨wr.heap.size, 3, none⟩ (.int .i64 X2.Best)).setCell ⟨wr.heap.size, 4, none⟩ (.slice AGn X2.Got.length cGn)) = w20 := e_w20
          have s_w20_1 := Nat.le_of_eq s_w20
          have s_w20_2 := Nat.le_of_eq s_w20.symm
          clear s_w20
          replace x_c := x_c.chg h_w20 (by omega)
          replace x_p := x_p.chg h_w20 (by omega)
          replace x_q := x_q.chg h_w20 (by omega)
          replace x_a := x_a.chg h_w20 (by omega)
          replace o_p := o_p.chg h_w20 (by simp)
          replace o_q := o_q.chg h_w20 (by simp)
          replace o_x := o_x.chg h_w20 (by simp)
          replace o_l := o_l.chg h_w20 (by omega)
          have B_w20 := Below.chg_ B_w19 h_w20 (by omega) (by omega)
          have z_w20 := h_w20.size
          replace x_x := y_w20
          clear y_w20
          obtain ⟨c_x_0_w20, f_x_0_w20, c_x_1_w20, f_x_1_w20, c_x_2_w20, f_x_2_w20, c_x_3_w20, f_x_3_w20, c_x_4_w20, f_x_4_w20⟩ := x_x.k5
          obtain ⟨c_a_0_w20, f_a_0_w20, c_a_1_w20, f_a_1_w20, c_a_2_w20, f_a_2_w20⟩ := x_a.k3
          have c_c_0_w20 := x_c.ac0 hI
          have c_c_1_w20 := x_c.ac1 hI
          have c_c_2_w20 := x_c.ac2 hI
          have f_c_0_w20 := x_c.frozen (I * 3)
          have f_c_1_w20 := x_c.frozen (I * 3 + 1)
          have f_c_2_w20 := x_c.frozen (I * 3 + 2)
          obtain ⟨w21, e_w21, s_w21, h_w21, y_w21⟩ := acc_store x_c hI D
          replace x_p := x_p.chg h_w21 (by omega)
          replace x_q := x_q.chg h_w21 (by omega)
          replace x_x := x_x.chg h_w21 (by omega)
          replace x_a := x_a.chg h_w21 (by omega)
          replace o_p := o_p.chg h_w21 (by simp)
          replace o_q := o_q.chg h_w21 (by simp)
          replace o_x := o_x.chg h_w21 (by simp)
          replace o_l := o_l.chg h_w21 (by omega)
          have B_w21 := Below.chg_ B_w20 h_w21 (by omega) (by omega)
          have z_w21 := h_w21.size
          rw [HA2.out] at y_w21
          replace x_c := y_w21
          clear y_w21
          obtain ⟨c_x_0_w21, f_x_0_w21, c_x_1_w21, f_x_1_w21, c_x_2_w21, f_x_2_w21, c_x_3_w21, f_x_3_w21, c_x_4_w21, f_x_4_w21⟩ := x_x.k5
          obtain ⟨c_q_0_w21, f_q_0_w21, c_q_1_w21, f_q_1_w21, c_q_2_w21, f_q_2_w21, c_q_3_w21, f_q_3_w21, c_q_4_w21, f_q_4_w21⟩ := x_q.k5
          obtain ⟨w22, e_w22, s_w22, h_w22, y_w22⟩ := store_step x_q [.int .i64 X2.Bal, .int .i64 X2.Val, .slice AFn X2.From.length cFn, .int .i64 X2.Best, .slice AGn X2.Got.length cGn] rfl
          replace e_w22 : (((((w21.setCell ⟨w3b.heap.size, 0, none⟩ (.int .i64 X2.Bal)).setCell ⟨w3b.heap.size, 1, none⟩ (.int .i64 X2.Val)).setCell ⟨w3b.heap.size, 2, none⟩ (.slice AFn X2.From.length cFn)).setCell ⟨w3b.heap.size, 3, none⟩ (.int .i64 X2.Best)).setCell ⟨w3b.heap.size, 4, none⟩ (.slice AGn X2.Got.length cGn)) = w22 := e_w22
          have s_w22_1 := Nat.le_of_eq s_w22
          have s_w22_2 := Nat.le_of_eq s_w22.symm
          clear s_w22
          replace x_c := x_c.chg h_w22 (by omega)
          replace x_p := x_p.chg h_w22 (by omega)
          replace x_x := x_x.chg h_w22 (by omega)
          replace x_a := x_a.chg h_w22 (by omega)
          replace o_p := o_p.chg h_w22 (by simp)
          replace o_q := o_q.chg h_w22 (by simp)
          replace o_x := o_x.chg h_w22 (by simp)
          replace o_l := o_l.chg h_w22 (by omega)
          have B_w22 := Below.chg_ B_w21 h_w22 (by omega) (by omega)
          have z_w22 := h_w22.size
          replace x_q := y_w22
          clear y_w22
          have HA1 : Hid (accOkB (acc2 I) = true) := (HV2.out.ia I hI).ok
          have HP1 : Hid (propOkB X2 = true) := HV2.out.iq.ok (.inr rfl)
          have c_c_0_w22 := x_c.ac0 hI
          have c_c_1_w22 := x_c.ac1 hI
          have c_c_2_w22 := x_c.ac2 hI
          have f_c_0_w22 := x_c.frozen (I * 3)
          have f_c_1_w22 := x_c.frozen (I * 3 + 1)
          have f_c_2_w22 := x_c.frozen (I * 3 + 2)
          obtain ⟨c_x_0_w22, f_x_0_w22, c_x_1_w22, f_x_1_w22, c_x_2_w22, f_x_2_w22, c_x_3_w22, f_x_3_w22, c_x_4_w22, f_x_4_w22⟩ := x_x.k5
          go_wp2_with fail
          refine (iAccOk_c (a := acc2 I) (ov_acc (d := acc2 I) (lo := 0) (hi := 0) (Nat.zero_le _)).rd).mono ?_
          rintro e w23 ⟨rfl, h_w23⟩
          clear c_x_0_w19 f_x_0_w19 c_x_1_w19 f_x_1_w19 c_x_2_w19 f_x_2_w19 c_x_3_w19 f_x_3_w19 c_x_4_w19 f_x_4_w19 c_a_0_w19 f_a_0_w19 c_a_1_w19 f_a_1_w19 c_a_2_w19 f_a_2_w19 c_c_0_w19 c_c_1_w19 c_c_2_w19 f_c_0_w19 f_c_1_w19 f_c_2_w19 c_x_0_w20 f_x_0_w20 c_x_1_w20 f_x_1_w20 c_x_2_w20 f_x_2_w20 c_x_3_w20 f_x_3_w20 c_x_4_w20 f_x_4_w20 c_a_0_w20 f_a_0_w20 c_a_1_w20 f_a_1_w20 c_a_2_w20 f_a_2_w20 c_c_0_w20 c_c_1_w20 c_c_2_w20 f_c_0_w20 f_c_1_w20 f_c_2_w20 c_x_0_w21 f_x_0_w21 c_x_1_w21 f_x_1_w21 c_x_2_w21 f_x_2_w21 c_x_3_w21 f_x_3_w21 c_x_4_w21 f_x_4_w21 c_q_0_w21 f_q_0_w21 c_q_1_w21 f_q_1_w21 c_q_2_w21 f_q_2_w21 c_q_3_w21 f_q_3_w21 c_q_4_w21 f_q_4_w21 c_c_0_w22 c_c_1_w22 c_c_2_w22 f_c_0_w22 f_c_1_w22 f_c_2_w22 c_x_0_w22 f_x_0_w22 c_x_1_w22 f_x_1_w22 c_x_2_w22 f_x_2_w22 c_x_3_w22 f_x_3_w22 c_x_4_w22 f_x_4_w22
          replace x_c := x_c.from_ h_w23
          replace x_p := x_p.from_ h_w23
          replace x_q := x_q.from_ h_w23
          replace x_x := x_x.from_ h_w23
          replace x_a := x_a.from_ h_w23
          replace o_p := o_p.below h_w23
          replace o_q := o_q.below h_w23
          replace o_x := o_x.below h_w23
          replace o_l := o_l.below h_w23
          have B_w23 := B_w22.trans (h_w23.mono B_w22.size)
          have z_w23 := h_w23.size
          rw [HA1.out]
          obtain ⟨c_x_0_w23, f_x_0_w23, c_x_1_w23, f_x_1_w23, c_x_2_w23, f_x_2_w23, c_x_3_w23, f_x_3_w23, c_x_4_w23, f_x_4_w23⟩ := x_x.k5
          go_wp2_with fail
          refine (iPropOk_c (p := X2) o_x.rd HV2.out.iq.bulk).mono ?_
          rintro e w24 ⟨rfl, h_w24⟩
          clear c_x_0_w23 f_x_0_w23 c_x_1_w23 f_x_1_w23 c_x_2_w23 f_x_2_w23 c_x_3_w23 f_x_3_w23 c_x_4_w23 f_x_4_w23
          replace x_c := x_c.from_ h_w24
          replace x_p := x_p.from_ h_w24
          replace x_q := x_q.from_ h_w24
          replace x_x := x_x.from_ h_w24
          replace x_a := x_a.from_ h_w24
          replace o_p := o_p.below h_w24
          replace o_q := o_q.below h_w24
          replace o_x := o_x.below h_w24
          replace o_l := o_l.below h_w24
          have B_w24 := B_w23.trans (h_w24.mono B_w23.size)
          have z_w24 := h_w24.size
          rw [HP1.out]
          go_wp2
          go_roundw
          case rel => exact ⟨k + 1, acc2, P, X2, _, _, _, _, _, _, _, _, by omega, by go_num, HV2, x_c, x_p, x_q, o_p.less (by simp), o_x.less (by simp), o_l, B_w24, by omega⟩
          case measure => simp [intOf]; omega
        · obtain ⟨w15, e_w15, s_w15, h_w15, x_a⟩ := alloc_step w14 33 [.int .i64 0, .int .i64 0, .int .i64 0]
          have s_w15_1 := Nat.le_of_eq s_w15
          have s_w15_2 := Nat.le_of_eq s_w15.symm
          clear s_w15
          replace o_p := o_p.more (Nat.le_refl w14.heap.size)
          replace o_q := o_q.more (Nat.le_refl w14.heap.size)
          replace o_x := o_x.more (Nat.le_refl w14.heap.size)
          replace x_c := x_c.from_ h_w15
          replace x_p := x_p.from_ h_w15
          replace x_q := x_q.from_ h_w15
          replace x_x := x_x.from_ h_w15
          replace o_p := o_p.below h_w15
          replace o_q := o_q.below h_w15
          replace o_x := o_x.below h_w15
          replace o_l := o_l.below h_w15
          have B_w15 := B_w14.trans (h_w15.mono B_w14.size)
          have z_w15 := h_w15.size
          go_simp
          refine hK.out _ _ ⟨x_c, x_x⟩ (fun _ => ?_)
          clear hK K
          refine wpAnyH_ready (rs := [6]) (by kernel_rfl) (by simp) ?_
          refine AllReadyH.cons rfl (fun K hK => ?_) AllReadyH.nil
          go_simp
          skip
          refine (iAccPrep_c (a := acc I) (b := Q.Bal) (ov_acc (d := acc I) (lo := 0) (hi := 0) (Nat.zero_le _)).rd hXb).mono ?_
          rintro e w16 ⟨v9, rfl, o_a, h_w16⟩
          replace x_c := x_c.from_ h_w16
          replace x_p := x_p.from_ h_w16
          replace x_q := x_q.from_ h_w16
          replace x_x := x_x.from_ h_w16
          replace x_a := x_a.from_ h_w16
          replace o_p := o_p.below h_w16
          replace o_q := o_q.below h_w16
          replace o_x := o_x.below h_w16
          replace o_l := o_l.below h_w16
          have B_w16 := B_w15.trans (h_w16.mono B_w15.size)
          have z_w16 := h_w16.size
          rw [HD.out] at o_a
          rw [HG.out]
          obtain rfl := rv_acc o_a.rd
          clear o_a
          go_simp
          refine hK.out _ _ ⟨x_c, x_x⟩ (fun _ => ?_)
          clear hK K
          refine takeH (i := 7) (v := ?v10) (d := some 53) rfl rfl (by kernel_rfl) (by kernel_rfl) (by kernel_rfl) (fun _ _ _ h => h) (Or.inl ⟨by rfl, ?y10⟩) ⟨x_c, x_x⟩ ?r10
          case y10 => (intro W hW; go_simp; try (with_reducible rfl))
          simp only [Act.put, List.setIfInBounds_toArray, List.set_cons_zero, List.set_cons_succ]
          refine takeH (i := 8) (v := ?v11) (d := some 61) rfl rfl (by kernel_rfl) (by kernel_rfl) (by kernel_rfl) (fun _ _ _ h => h) (Or.inl ⟨by rfl, ?y11⟩) ⟨x_c, x_x⟩ ?r11
          case y11 => (intro W hW; go_simp; try (with_reducible rfl))
          simp only [Act.put, List.setIfInBounds_toArray, List.set_cons_zero, List.set_cons_succ]
          refine takeH (i := 9) (v := ?v12) (d := some 62) rfl rfl (by kernel_rfl) (by kernel_rfl) (by kernel_rfl) (fun _ _ _ h => h) (Or.inl ⟨by rfl, ?y12⟩) ⟨x_c, x_x⟩ ?r12
          case y12 => (intro W hW; go_simp; try (with_reducible rfl))
          simp only [Act.put, List.setIfInBounds_toArray, List.set_cons_zero, List.set_cons_succ]
          obtain ⟨c_a_0_w16, f_a_0_w16, c_a_1_w16, f_a_1_w16, c_a_2_w16, f_a_2_w16⟩ := x_a.k3
          obtain ⟨w17, e_w17, s_w17, h_w17, y_w17⟩ := store_step x_a [.int .i64 D.Prom, .int .i64 D.Bal, .int .i64 D.Val] rfl
          replace e_w17 : (((w16.setCell ⟨w14.heap.size, 0, none⟩ (.int .i64 D.Prom)).setCell ⟨w14.heap.size, 1, none⟩ (.int .i64 D.Bal)).setCell ⟨w14.heap.size, 2, none⟩ (.int .i64 D.Val)) = w17 := e_w17
          have s_w17_1 := Nat.le_of_eq s_w17
          have s_w17_2 := Nat.le_of_eq s_w17.symm
          clear s_w17
          replace x_c := x_c.chg h_w17 (by omega)
          replace x_p := x_p.chg h_w17 (by omega)
          replace x_q := x_q.chg h_w17 (by omega)
          replace x_x := x_x.chg h_w17 (by omega)
          replace o_p := o_p.chg h_w17 (by simp)
          replace o_q := o_q.chg h_w17 (by simp)
          replace o_x := o_x.chg h_w17 (by simp)
          replace o_l := o_l.chg h_w17 (by omega)
          have B_w17 := Below.chg_ B_w16 h_w17 (by omega) (by omega)
          have z_w17 := h_w17.size
          replace x_a := y_w17
          clear y_w17
          refine wpAnyH_ready (rs := [11]) (by kernel_rfl) (by simp) ?_
          refine AllReadyH.cons rfl (fun K hK => ?_) AllReadyH.nil
          go_simp
          refine hK.out _ _ ⟨x_c, x_x⟩ (fun _ => ?_)
          clear hK K
          clear c_a_0_w16 f_a_0_w16 c_a_1_w16 f_a_1_w16 c_a_2_w16 f_a_2_w16
          refine wpAnyH_ready (rs := [12]) (by kernel_rfl) (by simp) ?_
          refine AllReadyH.cons rfl (fun K hK => ?_) AllReadyH.nil
          go_simp
          refine hK.out _ _ ⟨x_c, x_x⟩ (fun _ => ?_)
          clear hK K
          refine wpAnyH_done (by kernel_rfl) ?_ _
          go_wp2_with fail
          obtain ⟨w18, hwd⟩ : ∃ x, ({ heap := w17.heap, tape := w17.tape, drawn := w17.drawn + 1, os := w17.os, output := w17.output } : World) = x := ⟨_, rfl⟩
          have h_w18 : Below w17.heap.size w17 w18 := by rw [← hwd]; exact (Below.refl w17.heap.size w17).drew
          replace x_c := x_c.from_ h_w18
          replace x_p := x_p.from_ h_w18
          replace x_q := x_q.from_ h_w18
          replace x_x := x_x.from_ h_w18
          replace x_a := x_a.from_ h_w18
          replace o_p := o_p.below h_w18
          replace o_q := o_q.below h_w18
          replace o_x := o_x.below h_w18
          replace o_l := o_l.below h_w18
          have B_w18 := B_w17.trans (h_w18.mono B_w17.size)
          have z_w18 := h_w18.size
          have c_c_0_w18 := x_c.ac0 hI
          have c_c_1_w18 := x_c.ac1 hI
          have c_c_2_w18 := x_c.ac2 hI
          have f_c_0_w18 := x_c.frozen (I * 3)
          have f_c_1_w18 := x_c.frozen (I * 3 + 1)
          have f_c_2_w18 := x_c.frozen (I * 3 + 2)
          obtain ⟨c_x_0_w18, f_x_0_w18, c_x_1_w18, f_x_1_w18, c_x_2_w18, f_x_2_w18, c_x_3_w18, f_x_3_w18, c_x_4_w18, f_x_4_w18⟩ := x_x.k5
          refine wp_region_still_tail 12 (by kernel_rfl) (by kernel_rfl) ?_
          rw [hwd]
          simp only [List.take_succ_cons, List.take_zero, List.drop_succ_cons, List.drop_zero]
          repeat still_step
          refine wpStill_nil ?_
          go_wp2_with fail
          refine (iPropHear_c (p := Q) (n := (I : Int)) (b := (acc I).Bal) (u := (acc I).Val) o_x.rd HV.out.iq.bulk (by omega) hAb hAv).mono ?_
          rintro e w19 ⟨un, rfl, o_n, h_w19⟩
          clear c_c_0_w18 c_c_1_w18 c_c_2_w18 f_c_0_w18 f_c_1_w18 f_c_2_w18 c_x_0_w18 f_x_0_w18 c_x_1_w18 f_x_1_w18 c_x_2_w18 f_x_2_w18 c_x_3_w18 f_x_3_w18 c_x_4_w18 f_x_4_w18
          replace x_c := x_c.from_ h_w19
          replace x_p := x_p.from_ h_w19
          replace x_q := x_q.from_ h_w19
          replace x_x := x_x.from_ h_w19
          replace x_a := x_a.from_ h_w19
          replace o_p := o_p.below h_w19
          replace o_q := o_q.below h_w19
          replace o_x := o_x.below h_w19
          replace o_l := o_l.below h_w19
          have B_w19 := B_w18.trans (h_w19.mono B_w18.size)
          have z_w19 := h_w19.size
          rw [HX.out] at o_n
          obtain ⟨AFn, cFn, AGn, cGn, rfl, -⟩ := rv_prop o_n.rd
          replace o_x : OVa propL w19 [w.heap.size, w2b.heap.size, w3b.heap.size, wr.heap.size, w14.heap.size] _ _ := o_n.away (by simp; omega)
          clear o_n
          obtain ⟨c_x_0_w19, f_x_0_w19, c_x_1_w19, f_x_1_w19, c_x_2_w19, f_x_2_w19, c_x_3_w19, f_x_3_w19, c_x_4_w19, f_x_4_w19⟩ := x_x.k5
          obtain ⟨c_a_0_w19, f_a_0_w19, c_a_1_w19, f_a_1_w19, c_a_2_w19, f_a_2_w19⟩ := x_a.k3
          have c_c_0_w19 := x_c.ac0 hI
          have c_c_1_w19 := x_c.ac1 hI
          have c_c_2_w19 := x_c.ac2 hI
          have f_c_0_w19 := x_c.frozen (I * 3)
          have f_c_1_w19 := x_c.frozen (I * 3 + 1)
          have f_c_2_w19 := x_c.frozen (I * 3 + 2)
          obtain ⟨w20, e_w20, s_w20, h_w20, y_w20⟩ := store_step x_x [.int .i64 X2.Bal, .int .i64 X2.Val, .slice AFn X2.From.length cFn, .int .i64 X2.Best, .slice AGn X2.Got.length cGn] rfl
          replace e_w20 : (((((w19.setCell ⟨wr.heap.size, 0, none⟩ (.int .i64 X2.Bal)).setCell ⟨wr.heap.size, 1, none⟩ (.int .i64 X2.Val)).setCell ⟨wr.heap.size, 2, none⟩ (.slice AFn X2.From.length cFn)).setCell ⟨wr.heap.size, 3, none⟩ (.int .i64 X2.Best)).setCell ⟨wr.heap.size, 4, none⟩ (.slice AGn X2.Got.length cGn)) = w20 := e_w20
          have s_w20_1 := Nat.le_of_eq s_w20
          have s_w20_2 := Nat.le_of_eq s_w20.symm
          clear s_w20
          replace x_c := x_c.chg h_w20 (by omega)
          replace x_p := x_p.chg h_w20 (by omega)
          replace x_q := x_q.chg h_w20 (by omega)
          replace x_a := x_a.chg h_w20 (by omega)
          replace o_p := o_p.chg h_w20 (by simp)
          replace o_q := o_q.chg h_w20 (by simp)
          replace o_x := o_x.chg h_w20 (by simp)
          replace o_l := o_l.chg h_w20 (by omega)
          have B_w20 := Below.chg_ B_w19 h_w20 (by omega) (by omega)
          have z_w20 := h_w20.size
          replace x_x := y_w20
          clear y_w20
          obtain ⟨c_x_0_w20, f_x_0_w20, c_x_1_w20, f_x_1_w20, c_x_2_w20, f_x_2_w20, c_x_3_w20, f_x_3_w20, c_x_4_w20, f_x_4_w20⟩ := x_x.k5
          obtain ⟨c_a_0_w20, f_a_0_w20, c_a_1_w20, f_a_1_w20, c_a_2_w20, f_a_2_w20⟩ := x_a.k3
          have c_c_0_w20 := x_c.ac0 hI
          have c_c_1_w20 := x_c.ac1 hI
          have c_c_2_w20 := x_c.ac2 hI
          have f_c_0_w20 := x_c.frozen (I * 3)
          have f_c_1_w20 := x_c.frozen (I * 3 + 1)
          have f_c_2_w20 := x_c.frozen (I * 3 + 2)
          obtain ⟨w21, e_w21, s_w21, h_w21, y_w21⟩ := acc_store x_c hI D
          replace x_p := x_p.chg h_w21 (by omega)
          replace x_q := x_q.chg h_w21 (by omega)
          replace x_x := x_x.chg h_w21 (by omega)
          replace x_a := x_a.chg h_w21 (by omega)
          replace o_p := o_p.chg h_w21 (by simp)
          replace o_q := o_q.chg h_w21 (by simp)
          replace o_x := o_x.chg h_w21 (by simp)
          replace o_l := o_l.chg h_w21 (by omega)
          have B_w21 := Below.chg_ B_w20 h_w21 (by omega) (by omega)
          have z_w21 := h_w21.size
          rw [HA2.out] at y_w21
          replace x_c := y_w21
          clear y_w21
          obtain ⟨c_x_0_w21, f_x_0_w21, c_x_1_w21, f_x_1_w21, c_x_2_w21, f_x_2_w21, c_x_3_w21, f_x_3_w21, c_x_4_w21, f_x_4_w21⟩ := x_x.k5
          obtain ⟨c_q_0_w21, f_q_0_w21, c_q_1_w21, f_q_1_w21, c_q_2_w21, f_q_2_w21, c_q_3_w21, f_q_3_w21, c_q_4_w21, f_q_4_w21⟩ := x_q.k5
          obtain ⟨w22, e_w22, s_w22, h_w22, y_w22⟩ := store_step x_q [.int .i64 X2.Bal, .int .i64 X2.Val, .slice AFn X2.From.length cFn, .int .i64 X2.Best, .slice AGn X2.Got.length cGn] rfl
          replace e_w22 : (((((w21.setCell ⟨w3b.heap.size, 0, none⟩ (.int .i64 X2.Bal)).setCell ⟨w3b.heap.size, 1, none⟩ (.int .i64 X2.Val)).setCell ⟨w3b.heap.size, 2, none⟩ (.slice AFn X2.From.length cFn)).setCell ⟨w3b.heap.size, 3, none⟩ (.int .i64 X2.Best)).setCell ⟨w3b.heap.size, 4, none⟩ (.slice AGn X2.Got.length cGn)) = w22 := e_w22
          have s_w22_1 := Nat.le_of_eq s_w22
          have s_w22_2 := Nat.le_of_eq s_w22.symm
          clear s_w22
          replace x_c := x_c.chg h_w22 (by omega)
          replace x_p := x_p.chg h_w22 (by omega)
          replace x_x := x_x.chg h_w22 (by omega)
          replace x_a := x_a.chg h_w22 (by omega)
          replace o_p := o_p.chg h_w22 (by simp)
          replace o_q := o_q.chg h_w22 (by simp)
          replace o_x := o_x.chg h_w22 (by simp)
          replace o_l := o_l.chg h_w22 (by omega)
          have B_w22 := Below.chg_ B_w21 h_w22 (by omega) (by omega)
          have z_w22 := h_w22.size
          replace x_q := y_w22
          clear y_w22
          have HA1 : Hid (accOkB (acc2 I) = true) := (HV2.out.ia I hI).ok
          have HP1 : Hid (propOkB X2 = true) := HV2.out.iq.ok (.inr rfl)
          have c_c_0_w22 := x_c.ac0 hI
          have c_c_1_w22 := x_c.ac1 hI
          have c_c_2_w22 := x_c.ac2 hI
          have f_c_0_w22 := x_c.frozen (I * 3)
          have f_c_1_w22 := x_c.frozen (I * 3 + 1)
          have f_c_2_w22 := x_c.frozen (I * 3 + 2)
          obtain ⟨c_x_0_w22, f_x_0_w22, c_x_1_w22, f_x_1_w22, c_x_2_w22, f_x_2_w22, c_x_3_w22, f_x_3_w22, c_x_4_w22, f_x_4_w22⟩ := x_x.k5
          go_wp2_with fail
          refine (iAccOk_c (a := acc2 I) (ov_acc (d := acc2 I) (lo := 0) (hi := 0) (Nat.zero_le _)).rd).mono ?_
          rintro e w23 ⟨rfl, h_w23⟩
          clear c_x_0_w19 f_x_0_w19 c_x_1_w19 f_x_1_w19 c_x_2_w19 f_x_2_w19 c_x_3_w19 f_x_3_w19 c_x_4_w19 f_x_4_w19 c_a_0_w19 f_a_0_w19 c_a_1_w19 f_a_1_w19 c_a_2_w19 f_a_2_w19 c_c_0_w19 c_c_1_w19 c_c_2_w19 f_c_0_w19 f_c_1_w19 f_c_2_w19 c_x_0_w20 f_x_0_w20 c_x_1_w20 f_x_1_w20 c_x_2_w20 f_x_2_w20 c_x_3_w20 f_x_3_w20 c_x_4_w20 f_x_4_w20 c_a_0_w20 f_a_0_w20 c_a_1_w20 f_a_1_w20 c_a_2_w20 f_a_2_w20 c_c_0_w20 c_c_1_w20 c_c_2_w20 f_c_0_w20 f_c_1_w20 f_c_2_w20 c_x_0_w21 f_x_0_w21 c_x_1_w21 f_x_1_w21 c_x_2_w21 f_x_2_w21 c_x_3_w21 f_x_3_w21 c_x_4_w21 f_x_4_w21 c_q_0_w21 f_q_0_w21 c_q_1_w21 f_q_1_w21 c_q_2_w21 f_q_2_w21 c_q_3_w21 f_q_3_w21 c_q_4_w21 f_q_4_w21 c_c_0_w22 c_c_1_w22 c_c_2_w22 f_c_0_w22 f_c_1_w22 f_c_2_w22 c_x_0_w22 f_x_0_w22 c_x_1_w22 f_x_1_w22 c_x_2_w22 f_x_2_w22 c_x_3_w22 f_x_3_w22 c_x_4_w22 f_x_4_w22
          replace x_c := x_c.from_ h_w23
          replace x_p := x_p.from_ h_w23
          replace x_q := x_q.from_ h_w23
          replace x_x := x_x.from_ h_w23
          replace x_a := x_a.from_ h_w23
          replace o_p := o_p.below h_w23
          replace o_q := o_q.below h_w23
          replace o_x := o_x.below h_w23
          replace o_l := o_l.below h_w23
          have B_w23 := B_w22.trans (h_w23.mono B_w22.size)
          have z_w23 := h_w23.size
          rw [HA1.out]
          obtain ⟨c_x_0_w23, f_x_0_w23, c_x_1_w23, f_x_1_w23, c_x_2_w23, f_x_2_w23, c_x_3_w23, f_x_3_w23, c_x_4_w23, f_x_4_w23⟩ := x_x.k5
          go_wp2_with fail
          refine (iPropOk_c (p := X2) o_x.rd HV2.out.iq.bulk).mono ?_
          rintro e w24 ⟨rfl, h_w24⟩
          clear c_x_0_w23 f_x_0_w23 c_x_1_w23 f_x_1_w23 c_x_2_w23 f_x_2_w23 c_x_3_w23 f_x_3_w23 c_x_4_w23 f_x_4_w23
          replace x_c := x_c.from_ h_w24
          replace x_p := x_p.from_ h_w24
          replace x_q := x_q.from_ h_w24
          replace x_x := x_x.from_ h_w24
          replace x_a := x_a.from_ h_w24
          replace o_p := o_p.below h_w24
          replace o_q := o_q.below h_w24
          replace o_x := o_x.below h_w24
          replace o_l := o_l.below h_w24
          have B_w24 := B_w23.trans (h_w24.mono B_w23.size)
          have z_w24 := h_w24.size
          rw [HP1.out]
          go_wp2
          go_roundw
          case rel => exact ⟨k + 1, acc2, P, X2, _, _, _, _, _, _, _, _, by omega, by go_num, HV2, x_c, x_p, x_q, o_p.less (by simp), o_x.less (by simp), o_l, B_w24, by omega⟩
          case measure => simp [intOf]; omega
       case neg =>
        have HG : Hid (accPrepB (acc I) Q.Bal = false) := by show _ = _; simpa using hgd
        have HD := Lib.hid hD
        clear hD hgd
        go_wp2_with fail
        refine wp_region_held (S := fun u => Vr u w.heap.size 33 (accCells acc) ∧ Vr u wr.heap.size 26 [.int .i64 Q.Bal, .int .i64 Q.Val, .slice AFq Q.From.length cFq, .int .i64 Q.Best, .slice AGq Q.Got.length cGq]) (by kernel_rfl) ?_
        obtain ⟨w14, hwd⟩ : ∃ x, ({ heap := w13.heap, tape := w13.tape, drawn := w13.drawn + 1, os := w13.os, output := w13.output } : World) = x := ⟨_, rfl⟩
        have h_w14 : Below w13.heap.size w13 w14 := by rw [← hwd]; exact (Below.refl w13.heap.size w13).drew
        replace x_c := x_c.from_ h_w14
        replace x_p := x_p.from_ h_w14
        replace x_q := x_q.from_ h_w14
        replace x_x := x_x.from_ h_w14
        replace o_p := o_p.below h_w14
        replace o_q := o_q.below h_w14
        replace o_x := o_x.below h_w14
        replace o_l := o_l.below h_w14
        have B_w14 := B_w13.trans (h_w14.mono B_w13.size)
        have z_w14 := h_w14.size
        rw [hwd]
        clear hwd
        refine takeH (i := 0) (v := ?v13) (d := some 54) rfl rfl (by kernel_rfl) (by kernel_rfl) (by kernel_rfl) (fun _ _ _ h => h) (Or.inl ⟨by rfl, ?y13⟩) ⟨x_c, x_x⟩ ?r13
        case y13 => (intro W hW; go_simp; try (with_reducible rfl))
        simp only [Act.put, List.setIfInBounds_toArray, List.set_cons_zero, List.set_cons_succ]
        refine takeH (i := 1) (v := ?v14) (d := some 55) rfl rfl (by kernel_rfl) (by kernel_rfl) (by kernel_rfl) (fun _ _ _ h => h) (Or.inl ⟨by rfl, ?y14⟩) ⟨x_c, x_x⟩ ?r14
        case y14 => (intro W hW; go_simp; try (with_reducible rfl))
        simp only [Act.put, List.setIfInBounds_toArray, List.set_cons_zero, List.set_cons_succ]
        refine takeH (i := 2) (v := ?v15) (d := some 56) rfl rfl (by kernel_rfl) (by kernel_rfl) (by kernel_rfl) (fun _ _ _ h => h) (Or.inl ⟨by rfl, ?y15⟩) ⟨x_c, x_x⟩ ?r15
        case y15 => (intro W hW; go_simp; try (with_reducible rfl))
        simp only [Act.put, List.setIfInBounds_toArray, List.set_cons_zero, List.set_cons_succ]
        refine takeH (i := 3) (v := ?v16) (d := some 57) rfl rfl (by kernel_rfl) (by kernel_rfl) (by kernel_rfl) (fun _ _ _ h => h) (Or.inl ⟨by rfl, ?y16⟩) ⟨x_c, x_x⟩ ?r16
        case y16 => (intro W hW; have k0 := hW.1.ac0 hI; have k1 := hW.1.ac1 hI; have k2 := hW.1.ac2 hI; go_simp; try (with_reducible rfl))
        simp only [Act.put, List.setIfInBounds_toArray, List.set_cons_zero, List.set_cons_succ]
        refine takeH (i := 4) (v := ?v17) (d := some 58) rfl rfl (by kernel_rfl) (by kernel_rfl) (by kernel_rfl) (fun _ _ _ h => h) (Or.inl ⟨by rfl, ?y17⟩) ⟨x_c, x_x⟩ ?r17
        case y17 => (intro W hW; go_simp; try (with_reducible rfl))
        simp only [Act.put, List.setIfInBounds_toArray, List.set_cons_zero, List.set_cons_succ]
        refine takeH (i := 5) (v := ?v18) (d := some 59) rfl rfl (by kernel_rfl) (by kernel_rfl) (by kernel_rfl) (fun _ _ _ h => h) (Or.inl ⟨by rfl, ?y18⟩) ⟨x_c, x_x⟩ ?r18
        case y18 => (intro W hW; have j0 := hW.2.cell (i := 0) rfl; have j1 := hW.2.cell (i := 1) rfl; have j2 := hW.2.cell (i := 2) rfl; have j3 := hW.2.cell (i := 3) rfl; have j4 := hW.2.cell (i := 4) rfl; go_simp; try (with_reducible rfl))
        simp only [Act.put, List.setIfInBounds_toArray, List.set_cons_zero, List.set_cons_succ]
        refine wpAnyH_ready (rs := [6, 10]) (by kernel_rfl) (by simp) ?_
        refine AllReadyH.cons rfl (fun K hK => ?_) (AllReadyH.cons rfl (fun K hK => ?_) AllReadyH.nil)
        · go_simp
          skip
          refine (iAccPrep_c (a := acc I) (b := Q.Bal) (ov_acc (d := acc I) (lo := 0) (hi := 0) (Nat.zero_le _)).rd hXb).mono ?_
          rintro e w15 ⟨v9, rfl, o_a, h_w15⟩
          replace x_c := x_c.from_ h_w15
          replace x_p := x_p.from_ h_w15
          replace x_q := x_q.from_ h_w15
          replace x_x := x_x.from_ h_w15
          replace o_p := o_p.below h_w15
          replace o_q := o_q.below h_w15
          replace o_x := o_x.below h_w15
          replace o_l := o_l.below h_w15
          have B_w15 := B_w14.trans (h_w15.mono B_w14.size)
          have z_w15 := h_w15.size
          rw [HD.out] at o_a
          rw [HG.out]
          obtain rfl := rv_acc o_a.rd
          clear o_a
          go_simp
          refine hK.out _ _ ⟨x_c, x_x⟩ (fun _ => ?_)
          clear hK K
          refine takeH (i := 7) (v := ?v19) (d := some 53) rfl rfl (by kernel_rfl) (by kernel_rfl) (by kernel_rfl) (fun _ _ _ h => h) (Or.inl ⟨by rfl, ?y19⟩) ⟨x_c, x_x⟩ ?r19
          case y19 => (intro W hW; go_simp; try (with_reducible rfl))
          simp only [Act.put, List.setIfInBounds_toArray, List.set_cons_zero, List.set_cons_succ]
          refine takeH (i := 8) (v := ?v20) (d := some 61) rfl rfl (by kernel_rfl) (by kernel_rfl) (by kernel_rfl) (fun _ _ _ h => h) (Or.inl ⟨by rfl, ?y20⟩) ⟨x_c, x_x⟩ ?r20
          case y20 => (intro W hW; go_simp; try (with_reducible rfl))
          simp only [Act.put, List.setIfInBounds_toArray, List.set_cons_zero, List.set_cons_succ]
          refine takeH (i := 9) (v := ?v21) (d := some 62) rfl rfl (by kernel_rfl) (by kernel_rfl) (by kernel_rfl) (fun _ _ _ h => h) (Or.inl ⟨by rfl, ?y21⟩) ⟨x_c, x_x⟩ ?r21
          case y21 => (intro W hW; go_simp; try (with_reducible rfl))
          simp only [Act.put, List.setIfInBounds_toArray, List.set_cons_zero, List.set_cons_succ]
          refine wpAnyH_ready (rs := [10]) (by kernel_rfl) (by simp) ?_
          refine AllReadyH.cons rfl (fun K hK => ?_) AllReadyH.nil
          obtain ⟨w16, e_w16, s_w16, h_w16, x_a⟩ := alloc_step w15 33 [.int .i64 0, .int .i64 0, .int .i64 0]
          have s_w16_1 := Nat.le_of_eq s_w16
          have s_w16_2 := Nat.le_of_eq s_w16.symm
          clear s_w16
          replace o_p := o_p.more (Nat.le_refl w15.heap.size)
          replace o_q := o_q.more (Nat.le_refl w15.heap.size)
          replace o_x := o_x.more (Nat.le_refl w15.heap.size)
          replace x_c := x_c.from_ h_w16
          replace x_p := x_p.from_ h_w16
          replace x_q := x_q.from_ h_w16
          replace x_x := x_x.from_ h_w16
          replace o_p := o_p.below h_w16
          replace o_q := o_q.below h_w16
          replace o_x := o_x.below h_w16
          replace o_l := o_l.below h_w16
          have B_w16 := B_w15.trans (h_w16.mono B_w15.size)
          have z_w16 := h_w16.size
          go_simp
          refine hK.out _ _ ⟨x_c, x_x⟩ (fun _ => ?_)
          clear hK K
          obtain ⟨c_a_0_w16, f_a_0_w16, c_a_1_w16, f_a_1_w16, c_a_2_w16, f_a_2_w16⟩ := x_a.k3
          obtain ⟨w17, e_w17, s_w17, h_w17, y_w17⟩ := store_step x_a [.int .i64 D.Prom, .int .i64 D.Bal, .int .i64 D.Val] rfl
          replace e_w17 : (((w16.setCell ⟨w15.heap.size, 0, none⟩ (.int .i64 D.Prom)).setCell ⟨w15.heap.size, 1, none⟩ (.int .i64 D.Bal)).setCell ⟨w15.heap.size, 2, none⟩ (.int .i64 D.Val)) = w17 := e_w17
          have s_w17_1 := Nat.le_of_eq s_w17
          have s_w17_2 := Nat.le_of_eq s_w17.symm
          clear s_w17
          replace x_c := x_c.chg h_w17 (by omega)
          replace x_p := x_p.chg h_w17 (by omega)
          replace x_q := x_q.chg h_w17 (by omega)
          replace x_x := x_x.chg h_w17 (by omega)
          replace o_p := o_p.chg h_w17 (by simp)
          replace o_q := o_q.chg h_w17 (by simp)
          replace o_x := o_x.chg h_w17 (by simp)
          replace o_l := o_l.chg h_w17 (by omega)
          have B_w17 := Below.chg_ B_w16 h_w17 (by omega) (by omega)
          have z_w17 := h_w17.size
          replace x_a := y_w17
          clear y_w17
          refine wpAnyH_ready (rs := [11]) (by kernel_rfl) (by simp) ?_
          refine AllReadyH.cons rfl (fun K hK => ?_) AllReadyH.nil
          go_simp
          refine hK.out _ _ ⟨x_c, x_x⟩ (fun _ => ?_)
          clear hK K
          clear c_a_0_w16 f_a_0_w16 c_a_1_w16 f_a_1_w16 c_a_2_w16 f_a_2_w16
          refine wpAnyH_ready (rs := [12]) (by kernel_rfl) (by simp) ?_
          refine AllReadyH.cons rfl (fun K hK => ?_) AllReadyH.nil
          go_simp
          refine hK.out _ _ ⟨x_c, x_x⟩ (fun _ => ?_)
          clear hK K
          refine wpAnyH_done (by kernel_rfl) ?_ _
          obtain ⟨c_x_0_w17, f_x_0_w17, c_x_1_w17, f_x_1_w17, c_x_2_w17, f_x_2_w17, c_x_3_w17, f_x_3_w17, c_x_4_w17, f_x_4_w17⟩ := x_x.k5
          obtain ⟨c_q_0_w17, f_q_0_w17, c_q_1_w17, f_q_1_w17, c_q_2_w17, f_q_2_w17, c_q_3_w17, f_q_3_w17, c_q_4_w17, f_q_4_w17⟩ := x_q.k5
          obtain ⟨w18, e_w18, s_w18, h_w18, y_w18⟩ := store_step x_q [.int .i64 Q.Bal, .int .i64 Q.Val, .slice AFq Q.From.length cFq, .int .i64 Q.Best, .slice AGq Q.Got.length cGq] rfl
          replace e_w18 : (((((w17.setCell ⟨w3b.heap.size, 0, none⟩ (.int .i64 Q.Bal)).setCell ⟨w3b.heap.size, 1, none⟩ (.int .i64 Q.Val)).setCell ⟨w3b.heap.size, 2, none⟩ (.slice AFq Q.From.length cFq)).setCell ⟨w3b.heap.size, 3, none⟩ (.int .i64 Q.Best)).setCell ⟨w3b.heap.size, 4, none⟩ (.slice AGq Q.Got.length cGq)) = w18 := e_w18
          have s_w18_1 := Nat.le_of_eq s_w18
          have s_w18_2 := Nat.le_of_eq s_w18.symm
          clear s_w18
          replace x_c := x_c.chg h_w18 (by omega)
          replace x_p := x_p.chg h_w18 (by omega)
          replace x_x := x_x.chg h_w18 (by omega)
          replace x_a := x_a.chg h_w18 (by omega)
          replace o_p := o_p.chg h_w18 (by simp)
          replace o_q := o_q.chg h_w18 (by simp)
          replace o_x := o_x.chg h_w18 (by simp)
          replace o_l := o_l.chg h_w18 (by omega)
          have B_w18 := Below.chg_ B_w17 h_w18 (by omega) (by omega)
          have z_w18 := h_w18.size
          replace x_q := y_w18
          clear y_w18
          have HA1 : Hid (accOkB (acc I) = true) := (HV.out.ia I hI).ok
          have HP1 : Hid (propOkB Q = true) := HV.out.iq.ok (.inr rfl)
          have c_c_0_w18 := x_c.ac0 hI
          have c_c_1_w18 := x_c.ac1 hI
          have c_c_2_w18 := x_c.ac2 hI
          have f_c_0_w18 := x_c.frozen (I * 3)
          have f_c_1_w18 := x_c.frozen (I * 3 + 1)
          have f_c_2_w18 := x_c.frozen (I * 3 + 2)
          obtain ⟨c_x_0_w18, f_x_0_w18, c_x_1_w18, f_x_1_w18, c_x_2_w18, f_x_2_w18, c_x_3_w18, f_x_3_w18, c_x_4_w18, f_x_4_w18⟩ := x_x.k5
          go_wp2_with fail
          refine (iAccOk_c (a := acc I) (ov_acc (d := acc I) (lo := 0) (hi := 0) (Nat.zero_le _)).rd).mono ?_
          rintro e w19 ⟨rfl, h_w19⟩
          clear c_x_0_w17 f_x_0_w17 c_x_1_w17 f_x_1_w17 c_x_2_w17 f_x_2_w17 c_x_3_w17 f_x_3_w17 c_x_4_w17 f_x_4_w17 c_q_0_w17 f_q_0_w17 c_q_1_w17 f_q_1_w17 c_q_2_w17 f_q_2_w17 c_q_3_w17 f_q_3_w17 c_q_4_w17 f_q_4_w17 c_c_0_w18 c_c_1_w18 c_c_2_w18 f_c_0_w18 f_c_1_w18 f_c_2_w18 c_x_0_w18 f_x_0_w18 c_x_1_w18 f_x_1_w18 c_x_2_w18 f_x_2_w18 c_x_3_w18 f_x_3_w18 c_x_4_w18 f_x_4_w18
          replace x_c := x_c.from_ h_w19
          replace x_p := x_p.from_ h_w19
          replace x_q := x_q.from_ h_w19
          replace x_x := x_x.from_ h_w19
          replace x_a := x_a.from_ h_w19
          replace o_p := o_p.below h_w19
          replace o_q := o_q.below h_w19
          replace o_x := o_x.below h_w19
          replace o_l := o_l.below h_w19
          have B_w19 := B_w18.trans (h_w19.mono B_w18.size)
          have z_w19 := h_w19.size
          rw [HA1.out]
          obtain ⟨c_x_0_w19, f_x_0_w19, c_x_1_w19, f_x_1_w19, c_x_2_w19, f_x_2_w19, c_x_3_w19, f_x_3_w19, c_x_4_w19, f_x_4_w19⟩ := x_x.k5
          go_wp2_with fail
          refine (iPropOk_c (p := Q) o_x.rd HV.out.iq.bulk).mono ?_
          rintro e w20 ⟨rfl, h_w20⟩
          clear c_x_0_w19 f_x_0_w19 c_x_1_w19 f_x_1_w19 c_x_2_w19 f_x_2_w19 c_x_3_w19 f_x_3_w19 c_x_4_w19 f_x_4_w19
          replace x_c := x_c.from_ h_w20
          replace x_p := x_p.from_ h_w20
          replace x_q := x_q.from_ h_w20
          replace x_x := x_x.from_ h_w20
          replace x_a := x_a.from_ h_w20
          replace o_p := o_p.below h_w20
          replace o_q := o_q.below h_w20
          replace o_x := o_x.below h_w20
          replace o_l := o_l.below h_w20
          have B_w20 := B_w19.trans (h_w20.mono B_w19.size)
          have z_w20 := h_w20.size
          rw [HP1.out]
          go_wp2
          go_roundw
          case rel => exact ⟨k + 1, acc, P, Q, _, _, _, _, _, _, _, _, by omega, by go_num, HV, x_c, x_p, x_q, o_p.less (by simp), o_x.less (by simp), o_l, B_w20, by omega⟩
          case measure => simp [intOf]; omega
        · obtain ⟨w15, e_w15, s_w15, h_w15, x_a⟩ := alloc_step w14 33 [.int .i64 0, .int .i64 0, .int .i64 0]
          have s_w15_1 := Nat.le_of_eq s_w15
          have s_w15_2 := Nat.le_of_eq s_w15.symm
          clear s_w15
          replace o_p := o_p.more (Nat.le_refl w14.heap.size)
          replace o_q := o_q.more (Nat.le_refl w14.heap.size)
          replace o_x := o_x.more (Nat.le_refl w14.heap.size)
          replace x_c := x_c.from_ h_w15
          replace x_p := x_p.from_ h_w15
          replace x_q := x_q.from_ h_w15
          replace x_x := x_x.from_ h_w15
          replace o_p := o_p.below h_w15
          replace o_q := o_q.below h_w15
          replace o_x := o_x.below h_w15
          replace o_l := o_l.below h_w15
          have B_w15 := B_w14.trans (h_w15.mono B_w14.size)
          have z_w15 := h_w15.size
          go_simp
          refine hK.out _ _ ⟨x_c, x_x⟩ (fun _ => ?_)
          clear hK K
          refine wpAnyH_ready (rs := [6]) (by kernel_rfl) (by simp) ?_
          refine AllReadyH.cons rfl (fun K hK => ?_) AllReadyH.nil
          go_simp
          skip
          refine (iAccPrep_c (a := acc I) (b := Q.Bal) (ov_acc (d := acc I) (lo := 0) (hi := 0) (Nat.zero_le _)).rd hXb).mono ?_
          rintro e w16 ⟨v9, rfl, o_a, h_w16⟩
          replace x_c := x_c.from_ h_w16
          replace x_p := x_p.from_ h_w16
          replace x_q := x_q.from_ h_w16
          replace x_x := x_x.from_ h_w16
          replace x_a := x_a.from_ h_w16
          replace o_p := o_p.below h_w16
          replace o_q := o_q.below h_w16
          replace o_x := o_x.below h_w16
          replace o_l := o_l.below h_w16
          have B_w16 := B_w15.trans (h_w16.mono B_w15.size)
          have z_w16 := h_w16.size
          rw [HD.out] at o_a
          rw [HG.out]
          obtain rfl := rv_acc o_a.rd
          clear o_a
          go_simp
          refine hK.out _ _ ⟨x_c, x_x⟩ (fun _ => ?_)
          clear hK K
          refine takeH (i := 7) (v := ?v22) (d := some 53) rfl rfl (by kernel_rfl) (by kernel_rfl) (by kernel_rfl) (fun _ _ _ h => h) (Or.inl ⟨by rfl, ?y22⟩) ⟨x_c, x_x⟩ ?r22
          case y22 => (intro W hW; go_simp; try (with_reducible rfl))
          simp only [Act.put, List.setIfInBounds_toArray, List.set_cons_zero, List.set_cons_succ]
          refine takeH (i := 8) (v := ?v23) (d := some 61) rfl rfl (by kernel_rfl) (by kernel_rfl) (by kernel_rfl) (fun _ _ _ h => h) (Or.inl ⟨by rfl, ?y23⟩) ⟨x_c, x_x⟩ ?r23
          case y23 => (intro W hW; go_simp; try (with_reducible rfl))
          simp only [Act.put, List.setIfInBounds_toArray, List.set_cons_zero, List.set_cons_succ]
          refine takeH (i := 9) (v := ?v24) (d := some 62) rfl rfl (by kernel_rfl) (by kernel_rfl) (by kernel_rfl) (fun _ _ _ h => h) (Or.inl ⟨by rfl, ?y24⟩) ⟨x_c, x_x⟩ ?r24
          case y24 => (intro W hW; go_simp; try (with_reducible rfl))
          simp only [Act.put, List.setIfInBounds_toArray, List.set_cons_zero, List.set_cons_succ]
          obtain ⟨c_a_0_w16, f_a_0_w16, c_a_1_w16, f_a_1_w16, c_a_2_w16, f_a_2_w16⟩ := x_a.k3
          obtain ⟨w17, e_w17, s_w17, h_w17, y_w17⟩ := store_step x_a [.int .i64 D.Prom, .int .i64 D.Bal, .int .i64 D.Val] rfl
          replace e_w17 : (((w16.setCell ⟨w14.heap.size, 0, none⟩ (.int .i64 D.Prom)).setCell ⟨w14.heap.size, 1, none⟩ (.int .i64 D.Bal)).setCell ⟨w14.heap.size, 2, none⟩ (.int .i64 D.Val)) = w17 := e_w17
          have s_w17_1 := Nat.le_of_eq s_w17
          have s_w17_2 := Nat.le_of_eq s_w17.symm
          clear s_w17
          replace x_c := x_c.chg h_w17 (by omega)
          replace x_p := x_p.chg h_w17 (by omega)
          replace x_q := x_q.chg h_w17 (by omega)
          replace x_x := x_x.chg h_w17 (by omega)
          replace o_p := o_p.chg h_w17 (by simp)
          replace o_q := o_q.chg h_w17 (by simp)
          replace o_x := o_x.chg h_w17 (by simp)
          replace o_l := o_l.chg h_w17 (by omega)
          have B_w17 := Below.chg_ B_w16 h_w17 (by omega) (by omega)
          have z_w17 := h_w17.size
          replace x_a := y_w17
          clear y_w17
          refine wpAnyH_ready (rs := [11]) (by kernel_rfl) (by simp) ?_
          refine AllReadyH.cons rfl (fun K hK => ?_) AllReadyH.nil
          go_simp
          refine hK.out _ _ ⟨x_c, x_x⟩ (fun _ => ?_)
          clear hK K
          clear c_a_0_w16 f_a_0_w16 c_a_1_w16 f_a_1_w16 c_a_2_w16 f_a_2_w16
          refine wpAnyH_ready (rs := [12]) (by kernel_rfl) (by simp) ?_
          refine AllReadyH.cons rfl (fun K hK => ?_) AllReadyH.nil
          go_simp
          refine hK.out _ _ ⟨x_c, x_x⟩ (fun _ => ?_)
          clear hK K
          refine wpAnyH_done (by kernel_rfl) ?_ _
          obtain ⟨c_x_0_w17, f_x_0_w17, c_x_1_w17, f_x_1_w17, c_x_2_w17, f_x_2_w17, c_x_3_w17, f_x_3_w17, c_x_4_w17, f_x_4_w17⟩ := x_x.k5
          obtain ⟨c_q_0_w17, f_q_0_w17, c_q_1_w17, f_q_1_w17, c_q_2_w17, f_q_2_w17, c_q_3_w17, f_q_3_w17, c_q_4_w17, f_q_4_w17⟩ := x_q.k5
          obtain ⟨w18, e_w18, s_w18, h_w18, y_w18⟩ := store_step x_q [.int .i64 Q.Bal, .int .i64 Q.Val, .slice AFq Q.From.length cFq, .int .i64 Q.Best, .slice AGq Q.Got.length cGq] rfl
          replace e_w18 : (((((w17.setCell ⟨w3b.heap.size, 0, none⟩ (.int .i64 Q.Bal)).setCell ⟨w3b.heap.size, 1, none⟩ (.int .i64 Q.Val)).setCell ⟨w3b.heap.size, 2, none⟩ (.slice AFq Q.From.length cFq)).setCell ⟨w3b.heap.size, 3, none⟩ (.int .i64 Q.Best)).setCell ⟨w3b.heap.size, 4, none⟩ (.slice AGq Q.Got.length cGq)) = w18 := e_w18
          have s_w18_1 := Nat.le_of_eq s_w18
          have s_w18_2 := Nat.le_of_eq s_w18.symm
          clear s_w18
          replace x_c := x_c.chg h_w18 (by omega)
          replace x_p := x_p.chg h_w18 (by omega)
          replace x_x := x_x.chg h_w18 (by omega)
          replace x_a := x_a.chg h_w18 (by omega)
          replace o_p := o_p.chg h_w18 (by simp)
          replace o_q := o_q.chg h_w18 (by simp)
          replace o_x := o_x.chg h_w18 (by simp)
          replace o_l := o_l.chg h_w18 (by omega)
          have B_w18 := Below.chg_ B_w17 h_w18 (by omega) (by omega)
          have z_w18 := h_w18.size
          replace x_q := y_w18
          clear y_w18
          have HA1 : Hid (accOkB (acc I) = true) := (HV.out.ia I hI).ok
          have HP1 : Hid (propOkB Q = true) := HV.out.iq.ok (.inr rfl)
          have c_c_0_w18 := x_c.ac0 hI
          have c_c_1_w18 := x_c.ac1 hI
          have c_c_2_w18 := x_c.ac2 hI
          have f_c_0_w18 := x_c.frozen (I * 3)
          have f_c_1_w18 := x_c.frozen (I * 3 + 1)
          have f_c_2_w18 := x_c.frozen (I * 3 + 2)
          obtain ⟨c_x_0_w18, f_x_0_w18, c_x_1_w18, f_x_1_w18, c_x_2_w18, f_x_2_w18, c_x_3_w18, f_x_3_w18, c_x_4_w18, f_x_4_w18⟩ := x_x.k5
          go_wp2_with fail
          refine (iAccOk_c (a := acc I) (ov_acc (d := acc I) (lo := 0) (hi := 0) (Nat.zero_le _)).rd).mono ?_
          rintro e w19 ⟨rfl, h_w19⟩
          clear c_x_0_w17 f_x_0_w17 c_x_1_w17 f_x_1_w17 c_x_2_w17 f_x_2_w17 c_x_3_w17 f_x_3_w17 c_x_4_w17 f_x_4_w17 c_q_0_w17 f_q_0_w17 c_q_1_w17 f_q_1_w17 c_q_2_w17 f_q_2_w17 c_q_3_w17 f_q_3_w17 c_q_4_w17 f_q_4_w17 c_c_0_w18 c_c_1_w18 c_c_2_w18 f_c_0_w18 f_c_1_w18 f_c_2_w18 c_x_0_w18 f_x_0_w18 c_x_1_w18 f_x_1_w18 c_x_2_w18 f_x_2_w18 c_x_3_w18 f_x_3_w18 c_x_4_w18 f_x_4_w18
          replace x_c := x_c.from_ h_w19
          replace x_p := x_p.from_ h_w19
          replace x_q := x_q.from_ h_w19
          replace x_x := x_x.from_ h_w19
          replace x_a := x_a.from_ h_w19
          replace o_p := o_p.below h_w19
          replace o_q := o_q.below h_w19
          replace o_x := o_x.below h_w19
          replace o_l := o_l.below h_w19
          have B_w19 := B_w18.trans (h_w19.mono B_w18.size)
          have z_w19 := h_w19.size
          rw [HA1.out]
          obtain ⟨c_x_0_w19, f_x_0_w19, c_x_1_w19, f_x_1_w19, c_x_2_w19, f_x_2_w19, c_x_3_w19, f_x_3_w19, c_x_4_w19, f_x_4_w19⟩ := x_x.k5
          go_wp2_with fail
          refine (iPropOk_c (p := Q) o_x.rd HV.out.iq.bulk).mono ?_
          rintro e w20 ⟨rfl, h_w20⟩
          clear c_x_0_w19 f_x_0_w19 c_x_1_w19 f_x_1_w19 c_x_2_w19 f_x_2_w19 c_x_3_w19 f_x_3_w19 c_x_4_w19 f_x_4_w19
          replace x_c := x_c.from_ h_w20
          replace x_p := x_p.from_ h_w20
          replace x_q := x_q.from_ h_w20
          replace x_x := x_x.from_ h_w20
          replace x_a := x_a.from_ h_w20
          replace o_p := o_p.below h_w20
          replace o_q := o_q.below h_w20
          replace o_x := o_x.below h_w20
          replace o_l := o_l.below h_w20
          have B_w20 := B_w19.trans (h_w20.mono B_w19.size)
          have z_w20 := h_w20.size
          rw [HP1.out]
          go_wp2
          go_roundw
          case rel => exact ⟨k + 1, acc, P, Q, _, _, _, _, _, _, _, _, by omega, by go_num, HV, x_c, x_p, x_q, o_p.less (by simp), o_x.less (by simp), o_l, B_w20, by omega⟩
          case measure => simp [intOf]; omega
     case neg =>
      have g6 : decide (kk < 6) = false := decide_eq_false h6
      have g7 : decide (6 ≤ kk) = true := decide_eq_true (by omega)
      by_cases hrd : propReadyB Q 3 = true
      case pos =>
       have HR : Hid (propReadyB Q 3 = true) := hrd
       clear hrd
       obtain ⟨c_p_0_wr, f_p_0_wr, c_p_1_wr, f_p_1_wr, c_p_2_wr, f_p_2_wr, c_p_3_wr, f_p_3_wr, c_p_4_wr, f_p_4_wr⟩ := x_p.k5
       obtain ⟨w11, e_w11, s_w11, h_w11, x_x⟩ := alloc_step wr 26 [.int .i64 P.Bal, .int .i64 P.Val, .slice AFp P.From.length cFp, .int .i64 P.Best, .slice AGp P.Got.length cGp]
       have s_w11_1 := Nat.le_of_eq s_w11
       have s_w11_2 := Nat.le_of_eq s_w11.symm
       clear s_w11
       replace o_p := o_p.more (Nat.le_refl wr.heap.size)
       replace o_q := o_q.more (Nat.le_refl wr.heap.size)
       replace x_c := x_c.from_ h_w11
       replace x_p := x_p.from_ h_w11
       replace x_q := x_q.from_ h_w11
       replace o_p := o_p.below h_w11
       replace o_q := o_q.below h_w11
       replace o_l := o_l.below h_w11
       have B_w11 := HB.trans (h_w11.mono HB.size)
       have z_w11 := h_w11.size
       obtain ⟨c_q_0_w11, f_q_0_w11, c_q_1_w11, f_q_1_w11, c_q_2_w11, f_q_2_w11, c_q_3_w11, f_q_3_w11, c_q_4_w11, f_q_4_w11⟩ := x_q.k5
       obtain ⟨c_x_0_w11, f_x_0_w11, c_x_1_w11, f_x_1_w11, c_x_2_w11, f_x_2_w11, c_x_3_w11, f_x_3_w11, c_x_4_w11, f_x_4_w11⟩ := x_x.k5
       obtain ⟨w12, e_w12, s_w12, h_w12, y_w12⟩ := store_step x_x [.int .i64 Q.Bal, .int .i64 Q.Val, .slice AFq Q.From.length cFq, .int .i64 Q.Best, .slice AGq Q.Got.length cGq] rfl
       replace e_w12 : (((((w11.setCell ⟨wr.heap.size, 0, none⟩ (.int .i64 Q.Bal)).setCell ⟨wr.heap.size, 1, none⟩ (.int .i64 Q.Val)).setCell ⟨wr.heap.size, 2, none⟩ (.slice AFq Q.From.length cFq)).setCell ⟨wr.heap.size, 3, none⟩ (.int .i64 Q.Best)).setCell ⟨wr.heap.size, 4, none⟩ (.slice AGq Q.Got.length cGq)) = w12 := e_w12
       have s_w12_1 := Nat.le_of_eq s_w12
       have s_w12_2 := Nat.le_of_eq s_w12.symm
       clear s_w12
       replace x_c := x_c.chg h_w12 (by omega)
       replace x_p := x_p.chg h_w12 (by omega)
       replace x_q := x_q.chg h_w12 (by omega)
       replace o_p := o_p.chg h_w12 (by simp)
       replace o_q := o_q.chg h_w12 (by simp)
       replace o_l := o_l.chg h_w12 (by omega)
       have B_w12 := Below.chg_ B_w11 h_w12 (by omega) (by omega)
       have z_w12 := h_w12.size
       replace x_x := y_w12
       clear y_w12
       have o_x := o_q
       obtain ⟨c_x_0_w12, f_x_0_w12, c_x_1_w12, f_x_1_w12, c_x_2_w12, f_x_2_w12, c_x_3_w12, f_x_3_w12, c_x_4_w12, f_x_4_w12⟩ := x_x.k5
       go_wp2_with fail
       refine (iPropReady_c (p := Q) (n := 3) o_x.rd HV.out.iq.bulk (by omega)).mono ?_
       rintro e w13 ⟨rfl, h_w13⟩
       clear c_p_0_wr f_p_0_wr c_p_1_wr f_p_1_wr c_p_2_wr f_p_2_wr c_p_3_wr f_p_3_wr c_p_4_wr f_p_4_wr c_q_0_w11 f_q_0_w11 c_q_1_w11 f_q_1_w11 c_q_2_w11 f_q_2_w11 c_q_3_w11 f_q_3_w11 c_q_4_w11 f_q_4_w11 c_x_0_w11 f_x_0_w11 c_x_1_w11 f_x_1_w11 c_x_2_w11 f_x_2_w11 c_x_3_w11 f_x_3_w11 c_x_4_w11 f_x_4_w11 c_x_0_w12 f_x_0_w12 c_x_1_w12 f_x_1_w12 c_x_2_w12 f_x_2_w12 c_x_3_w12 f_x_3_w12 c_x_4_w12 f_x_4_w12
       replace x_c := x_c.from_ h_w13
       replace x_p := x_p.from_ h_w13
       replace x_q := x_q.from_ h_w13
       replace x_x := x_x.from_ h_w13
       replace o_p := o_p.below h_w13
       replace o_q := o_q.below h_w13
       replace o_x := o_x.below h_w13
       replace o_l := o_l.below h_w13
       have B_w13 := B_w12.trans (h_w13.mono B_w12.size)
       have z_w13 := h_w13.size
       rw [HR.out]
       have HBAL : Hid (Q.Bal = 6) := HV.out.iq.1
       have hXb : -9223372036854775808 ≤ Q.Bal ∧ Q.Bal ≤ 9223372036854775807 := by rw [HBAL.out]; omega
       have hXv : -9223372036854775808 ≤ Q.Val ∧ Q.Val ≤ 9223372036854775807 := by have := HV.out.iq.2.1; omega
       have hAb : -9223372036854775808 ≤ (acc I).Bal ∧ (acc I).Bal ≤ 9223372036854775807 := by have := (HV.out.ia I hI).2.1; omega
       have hAv : -9223372036854775808 ≤ (acc I).Val ∧ (acc I).Val ≤ 9223372036854775807 := by have := (HV.out.ia I hI).2.1; omega
       obtain ⟨D, hD⟩ : ∃ D, accTake (acc I) Q.Bal Q.Val = D := ⟨_, rfl⟩
       by_cases hgd : accTakeB (acc I) Q.Bal Q.Val = true
       case pos =>
        have HG : Hid (accTakeB (acc I) Q.Bal Q.Val = true) := hgd
        obtain ⟨X2, hX2⟩ : ∃ x, propGot Q (I : Int) = x := ⟨_, rfl⟩
        obtain ⟨acc2, hA2⟩ : ∃ x, upd acc I D = x := ⟨_, rfl⟩
        have HV2 : Hid (VoteI acc2 P X2) := by
          have h1 := hgd
          rw [HBAL.out] at h1 hD
          have := vote_gotQ HV.out hI h1
          rw [hD, hX2, hA2] at this
          exact this
        have HD := Lib.hid hD
        have HX := Lib.hid hX2
        have HA2 := Lib.hid hA2
        clear hD hX2 hA2 hgd
        go_wp2_with fail
        refine wp_region_held (S := fun u => Vr u w.heap.size 33 (accCells acc) ∧ Vr u wr.heap.size 26 [.int .i64 Q.Bal, .int .i64 Q.Val, .slice AFq Q.From.length cFq, .int .i64 Q.Best, .slice AGq Q.Got.length cGq]) (by kernel_rfl) ?_
        obtain ⟨w14, hwd⟩ : ∃ x, ({ heap := w13.heap, tape := w13.tape, drawn := w13.drawn + 1, os := w13.os, output := w13.output } : World) = x := ⟨_, rfl⟩
        have h_w14 : Below w13.heap.size w13 w14 := by rw [← hwd]; exact (Below.refl w13.heap.size w13).drew
        replace x_c := x_c.from_ h_w14
        replace x_p := x_p.from_ h_w14
        replace x_q := x_q.from_ h_w14
        replace x_x := x_x.from_ h_w14
        replace o_p := o_p.below h_w14
        replace o_q := o_q.below h_w14
        replace o_x := o_x.below h_w14
        replace o_l := o_l.below h_w14
        have B_w14 := B_w13.trans (h_w14.mono B_w13.size)
        have z_w14 := h_w14.size
        rw [hwd]
        clear hwd
        refine takeH (i := 0) (v := ?v25) (d := some 88) rfl rfl (by kernel_rfl) (by kernel_rfl) (by kernel_rfl) (fun _ _ _ h => h) (Or.inl ⟨by rfl, ?y25⟩) ⟨x_c, x_x⟩ ?r25
        case y25 => (intro W hW; go_simp; try (with_reducible rfl))
        simp only [Act.put, List.setIfInBounds_toArray, List.set_cons_zero, List.set_cons_succ]
        refine takeH (i := 1) (v := ?v26) (d := some 89) rfl rfl (by kernel_rfl) (by kernel_rfl) (by kernel_rfl) (fun _ _ _ h => h) (Or.inl ⟨by rfl, ?y26⟩) ⟨x_c, x_x⟩ ?r26
        case y26 => (intro W hW; go_simp; try (with_reducible rfl))
        simp only [Act.put, List.setIfInBounds_toArray, List.set_cons_zero, List.set_cons_succ]
        refine takeH (i := 2) (v := ?v27) (d := some 90) rfl rfl (by kernel_rfl) (by kernel_rfl) (by kernel_rfl) (fun _ _ _ h => h) (Or.inl ⟨by rfl, ?y27⟩) ⟨x_c, x_x⟩ ?r27
        case y27 => (intro W hW; go_simp; try (with_reducible rfl))
        simp only [Act.put, List.setIfInBounds_toArray, List.set_cons_zero, List.set_cons_succ]
        refine takeH (i := 3) (v := ?v28) (d := some 91) rfl rfl (by kernel_rfl) (by kernel_rfl) (by kernel_rfl) (fun _ _ _ h => h) (Or.inl ⟨by rfl, ?y28⟩) ⟨x_c, x_x⟩ ?r28
        case y28 => (intro W hW; have k0 := hW.1.ac0 hI; have k1 := hW.1.ac1 hI; have k2 := hW.1.ac2 hI; go_simp; try (with_reducible rfl))
        simp only [Act.put, List.setIfInBounds_toArray, List.set_cons_zero, List.set_cons_succ]
        refine takeH (i := 4) (v := ?v29) (d := some 92) rfl rfl (by kernel_rfl) (by kernel_rfl) (by kernel_rfl) (fun _ _ _ h => h) (Or.inl ⟨by rfl, ?y29⟩) ⟨x_c, x_x⟩ ?r29
        case y29 => (intro W hW; go_simp; try (with_reducible rfl))
        simp only [Act.put, List.setIfInBounds_toArray, List.set_cons_zero, List.set_cons_succ]
        refine takeH (i := 5) (v := ?v30) (d := some 93) rfl rfl (by kernel_rfl) (by kernel_rfl) (by kernel_rfl) (fun _ _ _ h => h) (Or.inl ⟨by rfl, ?y30⟩) ⟨x_c, x_x⟩ ?r30
        case y30 => (intro W hW; have j0 := hW.2.cell (i := 0) rfl; have j1 := hW.2.cell (i := 1) rfl; have j2 := hW.2.cell (i := 2) rfl; have j3 := hW.2.cell (i := 3) rfl; have j4 := hW.2.cell (i := 4) rfl; go_simp; try (with_reducible rfl))
        simp only [Act.put, List.setIfInBounds_toArray, List.set_cons_zero, List.set_cons_succ]
        refine takeH (i := 6) (v := ?v31) (d := some 94) rfl rfl (by kernel_rfl) (by kernel_rfl) (by kernel_rfl) (fun _ _ _ h => h) (Or.inl ⟨by rfl, ?y31⟩) ⟨x_c, x_x⟩ ?r31
        case y31 => (intro W hW; go_simp; try (with_reducible rfl))
        simp only [Act.put, List.setIfInBounds_toArray, List.set_cons_zero, List.set_cons_succ]
        refine takeH (i := 7) (v := ?v32) (d := some 95) rfl rfl (by kernel_rfl) (by kernel_rfl) (by kernel_rfl) (fun _ _ _ h => h) (Or.inl ⟨by rfl, ?y32⟩) ⟨x_c, x_x⟩ ?r32
        case y32 => (intro W hW; have j0 := hW.2.cell (i := 0) rfl; have j1 := hW.2.cell (i := 1) rfl; have j2 := hW.2.cell (i := 2) rfl; have j3 := hW.2.cell (i := 3) rfl; have j4 := hW.2.cell (i := 4) rfl; go_simp; try (with_reducible rfl))
        simp only [Act.put, List.setIfInBounds_toArray, List.set_cons_zero, List.set_cons_succ]
        refine wpAnyH_ready (rs := [8, 12]) (by kernel_rfl) (by simp) ?_
        refine AllReadyH.cons rfl (fun K hK => ?_) (AllReadyH.cons rfl (fun K hK => ?_) AllReadyH.nil)
        · go_simp
          skip
          refine (iAccTake_c (a := acc I) (b := Q.Bal) (u := Q.Val) (ov_acc (d := acc I) (lo := 0) (hi := 0) (Nat.zero_le _)).rd hXb hXv).mono ?_
          rintro e w15 ⟨v9, rfl, o_a, h_w15⟩
          replace x_c := x_c.from_ h_w15
          replace x_p := x_p.from_ h_w15
          replace x_q := x_q.from_ h_w15
          replace x_x := x_x.from_ h_w15
          replace o_p := o_p.below h_w15
          replace o_q := o_q.below h_w15
          replace o_x := o_x.below h_w15
          replace o_l := o_l.below h_w15
          have B_w15 := B_w14.trans (h_w15.mono B_w14.size)
          have z_w15 := h_w15.size
          rw [HD.out] at o_a
          rw [HG.out]
          obtain rfl := rv_acc o_a.rd
          clear o_a
          go_simp
          refine hK.out _ _ ⟨x_c, x_x⟩ (fun _ => ?_)
          clear hK K
          refine takeH (i := 9) (v := ?v33) (d := some 87) rfl rfl (by kernel_rfl) (by kernel_rfl) (by kernel_rfl) (fun _ _ _ h => h) (Or.inl ⟨by rfl, ?y33⟩) ⟨x_c, x_x⟩ ?r33
          case y33 => (intro W hW; go_simp; try (with_reducible rfl))
          simp only [Act.put, List.setIfInBounds_toArray, List.set_cons_zero, List.set_cons_succ]
          refine takeH (i := 10) (v := ?v34) (d := some 97) rfl rfl (by kernel_rfl) (by kernel_rfl) (by kernel_rfl) (fun _ _ _ h => h) (Or.inl ⟨by rfl, ?y34⟩) ⟨x_c, x_x⟩ ?r34
          case y34 => (intro W hW; go_simp; try (with_reducible rfl))
          simp only [Act.put, List.setIfInBounds_toArray, List.set_cons_zero, List.set_cons_succ]
          refine takeH (i := 11) (v := ?v35) (d := some 98) rfl rfl (by kernel_rfl) (by kernel_rfl) (by kernel_rfl) (fun _ _ _ h => h) (Or.inl ⟨by rfl, ?y35⟩) ⟨x_c, x_x⟩ ?r35
          case y35 => (intro W hW; go_simp; try (with_reducible rfl))
          simp only [Act.put, List.setIfInBounds_toArray, List.set_cons_zero, List.set_cons_succ]
          refine wpAnyH_ready (rs := [12]) (by kernel_rfl) (by simp) ?_
          refine AllReadyH.cons rfl (fun K hK => ?_) AllReadyH.nil
          obtain ⟨w16, e_w16, s_w16, h_w16, x_a⟩ := alloc_step w15 33 [.int .i64 0, .int .i64 0, .int .i64 0]
          have s_w16_1 := Nat.le_of_eq s_w16
          have s_w16_2 := Nat.le_of_eq s_w16.symm
          clear s_w16
          replace o_p := o_p.more (Nat.le_refl w15.heap.size)
          replace o_q := o_q.more (Nat.le_refl w15.heap.size)
          replace o_x := o_x.more (Nat.le_refl w15.heap.size)
          replace x_c := x_c.from_ h_w16
          replace x_p := x_p.from_ h_w16
          replace x_q := x_q.from_ h_w16
          replace x_x := x_x.from_ h_w16
          replace o_p := o_p.below h_w16
          replace o_q := o_q.below h_w16
          replace o_x := o_x.below h_w16
          replace o_l := o_l.below h_w16
          have B_w16 := B_w15.trans (h_w16.mono B_w15.size)
          have z_w16 := h_w16.size
          go_simp
          refine hK.out _ _ ⟨x_c, x_x⟩ (fun _ => ?_)
          clear hK K
          obtain ⟨c_a_0_w16, f_a_0_w16, c_a_1_w16, f_a_1_w16, c_a_2_w16, f_a_2_w16⟩ := x_a.k3
          obtain ⟨w17, e_w17, s_w17, h_w17, y_w17⟩ := store_step x_a [.int .i64 D.Prom, .int .i64 D.Bal, .int .i64 D.Val] rfl
          replace e_w17 : (((w16.setCell ⟨w15.heap.size, 0, none⟩ (.int .i64 D.Prom)).setCell ⟨w15.heap.size, 1, none⟩ (.int .i64 D.Bal)).setCell ⟨w15.heap.size, 2, none⟩ (.int .i64 D.Val)) = w17 := e_w17
          have s_w17_1 := Nat.le_of_eq s_w17
          have s_w17_2 := Nat.le_of_eq s_w17.symm
          clear s_w17
          replace x_c := x_c.chg h_w17 (by omega)
          replace x_p := x_p.chg h_w17 (by omega)
          replace x_q := x_q.chg h_w17 (by omega)
          replace x_x := x_x.chg h_w17 (by omega)
          replace o_p := o_p.chg h_w17 (by simp)
          replace o_q := o_q.chg h_w17 (by simp)
          replace o_x := o_x.chg h_w17 (by simp)
          replace o_l := o_l.chg h_w17 (by omega)
          have B_w17 := Below.chg_ B_w16 h_w17 (by omega) (by omega)
          have z_w17 := h_w17.size
          replace x_a := y_w17
          clear y_w17
          refine wpAnyH_ready (rs := [13]) (by kernel_rfl) (by simp) ?_
          refine AllReadyH.cons rfl (fun K hK => ?_) AllReadyH.nil
          go_simp
          refine hK.out _ _ ⟨x_c, x_x⟩ (fun _ => ?_)
          clear hK K
          clear c_a_0_w16 f_a_0_w16 c_a_1_w16 f_a_1_w16 c_a_2_w16 f_a_2_w16
          refine wpAnyH_ready (rs := [14]) (by kernel_rfl) (by simp) ?_
          refine AllReadyH.cons rfl (fun K hK => ?_) AllReadyH.nil
          go_simp
          refine hK.out _ _ ⟨x_c, x_x⟩ (fun _ => ?_)
          clear hK K
          refine wpAnyH_done (by kernel_rfl) ?_ _
          obtain ⟨c_x_0_w17, f_x_0_w17, c_x_1_w17, f_x_1_w17, c_x_2_w17, f_x_2_w17, c_x_3_w17, f_x_3_w17, c_x_4_w17, f_x_4_w17⟩ := x_x.k5
          go_wp2_with fail
          refine (iPropGot_c (p := Q) (n := (I : Int)) o_x.rd HV.out.iq.bulk (by omega)).mono ?_
          rintro e w18 ⟨un, rfl, o_n, h_w18⟩
          clear c_x_0_w17 f_x_0_w17 c_x_1_w17 f_x_1_w17 c_x_2_w17 f_x_2_w17 c_x_3_w17 f_x_3_w17 c_x_4_w17 f_x_4_w17
          replace x_c := x_c.from_ h_w18
          replace x_p := x_p.from_ h_w18
          replace x_q := x_q.from_ h_w18
          replace x_x := x_x.from_ h_w18
          replace x_a := x_a.from_ h_w18
          replace o_p := o_p.below h_w18
          replace o_q := o_q.below h_w18
          replace o_x := o_x.below h_w18
          replace o_l := o_l.below h_w18
          have B_w18 := B_w17.trans (h_w18.mono B_w17.size)
          have z_w18 := h_w18.size
          rw [HX.out] at o_n
          obtain ⟨AFn, cFn, AGn, cGn, rfl, -⟩ := rv_prop o_n.rd
          replace o_x : OVa propL w18 [w.heap.size, w2b.heap.size, w3b.heap.size, wr.heap.size, w15.heap.size] _ _ := o_n.away (by simp; omega)
          clear o_n
          obtain ⟨c_x_0_w18, f_x_0_w18, c_x_1_w18, f_x_1_w18, c_x_2_w18, f_x_2_w18, c_x_3_w18, f_x_3_w18, c_x_4_w18, f_x_4_w18⟩ := x_x.k5
          obtain ⟨c_a_0_w18, f_a_0_w18, c_a_1_w18, f_a_1_w18, c_a_2_w18, f_a_2_w18⟩ := x_a.k3
          have c_c_0_w18 := x_c.ac0 hI
          have c_c_1_w18 := x_c.ac1 hI
          have c_c_2_w18 := x_c.ac2 hI
          have f_c_0_w18 := x_c.frozen (I * 3)
          have f_c_1_w18 := x_c.frozen (I * 3 + 1)
          have f_c_2_w18 := x_c.frozen (I * 3 + 2)
          obtain ⟨w19, e_w19, s_w19, h_w19, y_w19⟩ := store_step x_x [.int .i64 X2.Bal, .int .i64 X2.Val, .slice AFn X2.From.length cFn, .int .i64 X2.Best, .slice AGn X2.Got.length cGn] rfl
          replace e_w19 : (((((w18.setCell ⟨wr.heap.size, 0, none⟩ (.int .i64 X2.Bal)).setCell ⟨wr.heap.size, 1, none⟩ (.int .i64 X2.Val)).setCell ⟨wr.heap.size, 2, none⟩ (.slice AFn X2.From.length cFn)).setCell ⟨wr.heap.size, 3, none⟩ (.int .i64 X2.Best)).setCell ⟨wr.heap.size, 4, none⟩ (.slice AGn X2.Got.length cGn)) = w19 := e_w19
          have s_w19_1 := Nat.le_of_eq s_w19
          have s_w19_2 := Nat.le_of_eq s_w19.symm
          clear s_w19
          replace x_c := x_c.chg h_w19 (by omega)
          replace x_p := x_p.chg h_w19 (by omega)
          replace x_q := x_q.chg h_w19 (by omega)
          replace x_a := x_a.chg h_w19 (by omega)
          replace o_p := o_p.chg h_w19 (by simp)
          replace o_q := o_q.chg h_w19 (by simp)
          replace o_x := o_x.chg h_w19 (by simp)
          replace o_l := o_l.chg h_w19 (by omega)
          have B_w19 := Below.chg_ B_w18 h_w19 (by omega) (by omega)
          have z_w19 := h_w19.size
          replace x_x := y_w19
          clear y_w19
          obtain ⟨c_x_0_w19, f_x_0_w19, c_x_1_w19, f_x_1_w19, c_x_2_w19, f_x_2_w19, c_x_3_w19, f_x_3_w19, c_x_4_w19, f_x_4_w19⟩ := x_x.k5
          obtain ⟨c_a_0_w19, f_a_0_w19, c_a_1_w19, f_a_1_w19, c_a_2_w19, f_a_2_w19⟩ := x_a.k3
          have c_c_0_w19 := x_c.ac0 hI
          have c_c_1_w19 := x_c.ac1 hI
          have c_c_2_w19 := x_c.ac2 hI
          have f_c_0_w19 := x_c.frozen (I * 3)
          have f_c_1_w19 := x_c.frozen (I * 3 + 1)
          have f_c_2_w19 := x_c.frozen (I * 3 + 2)
          obtain ⟨w20, e_w20, s_w20, h_w20, y_w20⟩ := acc_store x_c hI D
          replace x_p := x_p.chg h_w20 (by omega)
          replace x_q := x_q.chg h_w20 (by omega)
          replace x_x := x_x.chg h_w20 (by omega)
          replace x_a := x_a.chg h_w20 (by omega)
          replace o_p := o_p.chg h_w20 (by simp)
          replace o_q := o_q.chg h_w20 (by simp)
          replace o_x := o_x.chg h_w20 (by simp)
          replace o_l := o_l.chg h_w20 (by omega)
          have B_w20 := Below.chg_ B_w19 h_w20 (by omega) (by omega)
          have z_w20 := h_w20.size
          rw [HA2.out] at y_w20
          replace x_c := y_w20
          clear y_w20
          obtain ⟨c_x_0_w20, f_x_0_w20, c_x_1_w20, f_x_1_w20, c_x_2_w20, f_x_2_w20, c_x_3_w20, f_x_3_w20, c_x_4_w20, f_x_4_w20⟩ := x_x.k5
          obtain ⟨c_q_0_w20, f_q_0_w20, c_q_1_w20, f_q_1_w20, c_q_2_w20, f_q_2_w20, c_q_3_w20, f_q_3_w20, c_q_4_w20, f_q_4_w20⟩ := x_q.k5
          obtain ⟨w21, e_w21, s_w21, h_w21, y_w21⟩ := store_step x_q [.int .i64 X2.Bal, .int .i64 X2.Val, .slice AFn X2.From.length cFn, .int .i64 X2.Best, .slice AGn X2.Got.length cGn] rfl
          replace e_w21 : (((((w20.setCell ⟨w3b.heap.size, 0, none⟩ (.int .i64 X2.Bal)).setCell ⟨w3b.heap.size, 1, none⟩ (.int .i64 X2.Val)).setCell ⟨w3b.heap.size, 2, none⟩ (.slice AFn X2.From.length cFn)).setCell ⟨w3b.heap.size, 3, none⟩ (.int .i64 X2.Best)).setCell ⟨w3b.heap.size, 4, none⟩ (.slice AGn X2.Got.length cGn)) = w21 := e_w21
          have s_w21_1 := Nat.le_of_eq s_w21
          have s_w21_2 := Nat.le_of_eq s_w21.symm
          clear s_w21
          replace x_c := x_c.chg h_w21 (by omega)
          replace x_p := x_p.chg h_w21 (by omega)
          replace x_x := x_x.chg h_w21 (by omega)
          replace x_a := x_a.chg h_w21 (by omega)
          replace o_p := o_p.chg h_w21 (by simp)
          replace o_q := o_q.chg h_w21 (by simp)
          replace o_x := o_x.chg h_w21 (by simp)
          replace o_l := o_l.chg h_w21 (by omega)
          have B_w21 := Below.chg_ B_w20 h_w21 (by omega) (by omega)
          have z_w21 := h_w21.size
          replace x_q := y_w21
          clear y_w21
          have HA1 : Hid (accOkB (acc2 I) = true) := (HV2.out.ia I hI).ok
          have HP1 : Hid (propOkB X2 = true) := HV2.out.iq.ok (.inr rfl)
          have c_c_0_w21 := x_c.ac0 hI
          have c_c_1_w21 := x_c.ac1 hI
          have c_c_2_w21 := x_c.ac2 hI
          have f_c_0_w21 := x_c.frozen (I * 3)
          have f_c_1_w21 := x_c.frozen (I * 3 + 1)
          have f_c_2_w21 := x_c.frozen (I * 3 + 2)
          obtain ⟨c_x_0_w21, f_x_0_w21, c_x_1_w21, f_x_1_w21, c_x_2_w21, f_x_2_w21, c_x_3_w21, f_x_3_w21, c_x_4_w21, f_x_4_w21⟩ := x_x.k5
          go_wp2_with fail
          refine (iAccOk_c (a := acc2 I) (ov_acc (d := acc2 I) (lo := 0) (hi := 0) (Nat.zero_le _)).rd).mono ?_
          rintro e w22 ⟨rfl, h_w22⟩
          clear c_x_0_w18 f_x_0_w18 c_x_1_w18 f_x_1_w18 c_x_2_w18 f_x_2_w18 c_x_3_w18 f_x_3_w18 c_x_4_w18 f_x_4_w18 c_a_0_w18 f_a_0_w18 c_a_1_w18 f_a_1_w18 c_a_2_w18 f_a_2_w18 c_c_0_w18 c_c_1_w18 c_c_2_w18 f_c_0_w18 f_c_1_w18 f_c_2_w18 c_x_0_w19 f_x_0_w19 c_x_1_w19 f_x_1_w19 c_x_2_w19 f_x_2_w19 c_x_3_w19 f_x_3_w19 c_x_4_w19 f_x_4_w19 c_a_0_w19 f_a_0_w19 c_a_1_w19 f_a_1_w19 c_a_2_w19 f_a_2_w19 c_c_0_w19 c_c_1_w19 c_c_2_w19 f_c_0_w19 f_c_1_w19 f_c_2_w19 c_x_0_w20 f_x_0_w20 c_x_1_w20 f_x_1_w20 c_x_2_w20 f_x_2_w20 c_x_3_w20 f_x_3_w20 c_x_4_w20 f_x_4_w20 c_q_0_w20 f_q_0_w20 c_q_1_w20 f_q_1_w20 c_q_2_w20 f_q_2_w20 c_q_3_w20 f_q_3_w20 c_q_4_w20 f_q_4_w20 c_c_0_w21 c_c_1_w21 c_c_2_w21 f_c_0_w21 f_c_1_w21 f_c_2_w21 c_x_0_w21 f_x_0_w21 c_x_1_w21 f_x_1_w21 c_x_2_w21 f_x_2_w21 c_x_3_w21 f_x_3_w21 c_x_4_w21 f_x_4_w21
          replace x_c := x_c.from_ h_w22
          replace x_p := x_p.from_ h_w22
          replace x_q := x_q.from_ h_w22
          replace x_x := x_x.from_ h_w22
          replace x_a := x_a.from_ h_w22
          replace o_p := o_p.below h_w22
          replace o_q := o_q.below h_w22
          replace o_x := o_x.below h_w22
          replace o_l := o_l.below h_w22
          have B_w22 := B_w21.trans (h_w22.mono B_w21.size)
          have z_w22 := h_w22.size
          rw [HA1.out]
          obtain ⟨c_x_0_w22, f_x_0_w22, c_x_1_w22, f_x_1_w22, c_x_2_w22, f_x_2_w22, c_x_3_w22, f_x_3_w22, c_x_4_w22, f_x_4_w22⟩ := x_x.k5
          go_wp2_with fail
          refine (iPropOk_c (p := X2) o_x.rd HV2.out.iq.bulk).mono ?_
          rintro e w23 ⟨rfl, h_w23⟩
          clear c_x_0_w22 f_x_0_w22 c_x_1_w22 f_x_1_w22 c_x_2_w22 f_x_2_w22 c_x_3_w22 f_x_3_w22 c_x_4_w22 f_x_4_w22
          replace x_c := x_c.from_ h_w23
          replace x_p := x_p.from_ h_w23
          replace x_q := x_q.from_ h_w23
          replace x_x := x_x.from_ h_w23
          replace x_a := x_a.from_ h_w23
          replace o_p := o_p.below h_w23
          replace o_q := o_q.below h_w23
          replace o_x := o_x.below h_w23
          replace o_l := o_l.below h_w23
          have B_w23 := B_w22.trans (h_w23.mono B_w22.size)
          have z_w23 := h_w23.size
          rw [HP1.out]
          go_wp2
          go_roundw
          case rel => exact ⟨k + 1, acc2, P, X2, _, _, _, _, _, _, _, _, by omega, by go_num, HV2, x_c, x_p, x_q, o_p.less (by simp), o_x.less (by simp), o_l, B_w23, by omega⟩
          case measure => simp [intOf]; omega
        · obtain ⟨w15, e_w15, s_w15, h_w15, x_a⟩ := alloc_step w14 33 [.int .i64 0, .int .i64 0, .int .i64 0]
          have s_w15_1 := Nat.le_of_eq s_w15
          have s_w15_2 := Nat.le_of_eq s_w15.symm
          clear s_w15
          replace o_p := o_p.more (Nat.le_refl w14.heap.size)
          replace o_q := o_q.more (Nat.le_refl w14.heap.size)
          replace o_x := o_x.more (Nat.le_refl w14.heap.size)
          replace x_c := x_c.from_ h_w15
          replace x_p := x_p.from_ h_w15
          replace x_q := x_q.from_ h_w15
          replace x_x := x_x.from_ h_w15
          replace o_p := o_p.below h_w15
          replace o_q := o_q.below h_w15
          replace o_x := o_x.below h_w15
          replace o_l := o_l.below h_w15
          have B_w15 := B_w14.trans (h_w15.mono B_w14.size)
          have z_w15 := h_w15.size
          go_simp
          refine hK.out _ _ ⟨x_c, x_x⟩ (fun _ => ?_)
          clear hK K
          refine wpAnyH_ready (rs := [8]) (by kernel_rfl) (by simp) ?_
          refine AllReadyH.cons rfl (fun K hK => ?_) AllReadyH.nil
          go_simp
          skip
          refine (iAccTake_c (a := acc I) (b := Q.Bal) (u := Q.Val) (ov_acc (d := acc I) (lo := 0) (hi := 0) (Nat.zero_le _)).rd hXb hXv).mono ?_
          rintro e w16 ⟨v9, rfl, o_a, h_w16⟩
          replace x_c := x_c.from_ h_w16
          replace x_p := x_p.from_ h_w16
          replace x_q := x_q.from_ h_w16
          replace x_x := x_x.from_ h_w16
          replace x_a := x_a.from_ h_w16
          replace o_p := o_p.below h_w16
          replace o_q := o_q.below h_w16
          replace o_x := o_x.below h_w16
          replace o_l := o_l.below h_w16
          have B_w16 := B_w15.trans (h_w16.mono B_w15.size)
          have z_w16 := h_w16.size
          rw [HD.out] at o_a
          rw [HG.out]
          obtain rfl := rv_acc o_a.rd
          clear o_a
          go_simp
          refine hK.out _ _ ⟨x_c, x_x⟩ (fun _ => ?_)
          clear hK K
          refine takeH (i := 9) (v := ?v36) (d := some 87) rfl rfl (by kernel_rfl) (by kernel_rfl) (by kernel_rfl) (fun _ _ _ h => h) (Or.inl ⟨by rfl, ?y36⟩) ⟨x_c, x_x⟩ ?r36
          case y36 => (intro W hW; go_simp; try (with_reducible rfl))
          simp only [Act.put, List.setIfInBounds_toArray, List.set_cons_zero, List.set_cons_succ]
          refine takeH (i := 10) (v := ?v37) (d := some 97) rfl rfl (by kernel_rfl) (by kernel_rfl) (by kernel_rfl) (fun _ _ _ h => h) (Or.inl ⟨by rfl, ?y37⟩) ⟨x_c, x_x⟩ ?r37
          case y37 => (intro W hW; go_simp; try (with_reducible rfl))
          simp only [Act.put, List.setIfInBounds_toArray, List.set_cons_zero, List.set_cons_succ]
          refine takeH (i := 11) (v := ?v38) (d := some 98) rfl rfl (by kernel_rfl) (by kernel_rfl) (by kernel_rfl) (fun _ _ _ h => h) (Or.inl ⟨by rfl, ?y38⟩) ⟨x_c, x_x⟩ ?r38
          case y38 => (intro W hW; go_simp; try (with_reducible rfl))
          simp only [Act.put, List.setIfInBounds_toArray, List.set_cons_zero, List.set_cons_succ]
          obtain ⟨c_a_0_w16, f_a_0_w16, c_a_1_w16, f_a_1_w16, c_a_2_w16, f_a_2_w16⟩ := x_a.k3
          obtain ⟨w17, e_w17, s_w17, h_w17, y_w17⟩ := store_step x_a [.int .i64 D.Prom, .int .i64 D.Bal, .int .i64 D.Val] rfl
          replace e_w17 : (((w16.setCell ⟨w14.heap.size, 0, none⟩ (.int .i64 D.Prom)).setCell ⟨w14.heap.size, 1, none⟩ (.int .i64 D.Bal)).setCell ⟨w14.heap.size, 2, none⟩ (.int .i64 D.Val)) = w17 := e_w17
          have s_w17_1 := Nat.le_of_eq s_w17
          have s_w17_2 := Nat.le_of_eq s_w17.symm
          clear s_w17
          replace x_c := x_c.chg h_w17 (by omega)
          replace x_p := x_p.chg h_w17 (by omega)
          replace x_q := x_q.chg h_w17 (by omega)
          replace x_x := x_x.chg h_w17 (by omega)
          replace o_p := o_p.chg h_w17 (by simp)
          replace o_q := o_q.chg h_w17 (by simp)
          replace o_x := o_x.chg h_w17 (by simp)
          replace o_l := o_l.chg h_w17 (by omega)
          have B_w17 := Below.chg_ B_w16 h_w17 (by omega) (by omega)
          have z_w17 := h_w17.size
          replace x_a := y_w17
          clear y_w17
          refine wpAnyH_ready (rs := [13]) (by kernel_rfl) (by simp) ?_
          refine AllReadyH.cons rfl (fun K hK => ?_) AllReadyH.nil
          go_simp
          refine hK.out _ _ ⟨x_c, x_x⟩ (fun _ => ?_)
          clear hK K
          clear c_a_0_w16 f_a_0_w16 c_a_1_w16 f_a_1_w16 c_a_2_w16 f_a_2_w16
          refine wpAnyH_ready (rs := [14]) (by kernel_rfl) (by simp) ?_
          refine AllReadyH.cons rfl (fun K hK => ?_) AllReadyH.nil
          go_simp
          refine hK.out _ _ ⟨x_c, x_x⟩ (fun _ => ?_)
          clear hK K
          refine wpAnyH_done (by kernel_rfl) ?_ _
          obtain ⟨c_x_0_w17, f_x_0_w17, c_x_1_w17, f_x_1_w17, c_x_2_w17, f_x_2_w17, c_x_3_w17, f_x_3_w17, c_x_4_w17, f_x_4_w17⟩ := x_x.k5
          go_wp2_with fail
          refine (iPropGot_c (p := Q) (n := (I : Int)) o_x.rd HV.out.iq.bulk (by omega)).mono ?_
          rintro e w18 ⟨un, rfl, o_n, h_w18⟩
          clear c_x_0_w17 f_x_0_w17 c_x_1_w17 f_x_1_w17 c_x_2_w17 f_x_2_w17 c_x_3_w17 f_x_3_w17 c_x_4_w17 f_x_4_w17
          replace x_c := x_c.from_ h_w18
          replace x_p := x_p.from_ h_w18
          replace x_q := x_q.from_ h_w18
          replace x_x := x_x.from_ h_w18
          replace x_a := x_a.from_ h_w18
          replace o_p := o_p.below h_w18
          replace o_q := o_q.below h_w18
          replace o_x := o_x.below h_w18
          replace o_l := o_l.below h_w18
          have B_w18 := B_w17.trans (h_w18.mono B_w17.size)
          have z_w18 := h_w18.size
          rw [HX.out] at o_n
          obtain ⟨AFn, cFn, AGn, cGn, rfl, -⟩ := rv_prop o_n.rd
          replace o_x : OVa propL w18 [w.heap.size, w2b.heap.size, w3b.heap.size, wr.heap.size, w14.heap.size] _ _ := o_n.away (by simp; omega)
          clear o_n
          obtain ⟨c_x_0_w18, f_x_0_w18, c_x_1_w18, f_x_1_w18, c_x_2_w18, f_x_2_w18, c_x_3_w18, f_x_3_w18, c_x_4_w18, f_x_4_w18⟩ := x_x.k5
          obtain ⟨c_a_0_w18, f_a_0_w18, c_a_1_w18, f_a_1_w18, c_a_2_w18, f_a_2_w18⟩ := x_a.k3
          have c_c_0_w18 := x_c.ac0 hI
          have c_c_1_w18 := x_c.ac1 hI
          have c_c_2_w18 := x_c.ac2 hI
          have f_c_0_w18 := x_c.frozen (I * 3)
          have f_c_1_w18 := x_c.frozen (I * 3 + 1)
          have f_c_2_w18 := x_c.frozen (I * 3 + 2)
          obtain ⟨w19, e_w19, s_w19, h_w19, y_w19⟩ := store_step x_x [.int .i64 X2.Bal, .int .i64 X2.Val, .slice AFn X2.From.length cFn, .int .i64 X2.Best, .slice AGn X2.Got.length cGn] rfl
          replace e_w19 : (((((w18.setCell ⟨wr.heap.size, 0, none⟩ (.int .i64 X2.Bal)).setCell ⟨wr.heap.size, 1, none⟩ (.int .i64 X2.Val)).setCell ⟨wr.heap.size, 2, none⟩ (.slice AFn X2.From.length cFn)).setCell ⟨wr.heap.size, 3, none⟩ (.int .i64 X2.Best)).setCell ⟨wr.heap.size, 4, none⟩ (.slice AGn X2.Got.length cGn)) = w19 := e_w19
          have s_w19_1 := Nat.le_of_eq s_w19
          have s_w19_2 := Nat.le_of_eq s_w19.symm
          clear s_w19
          replace x_c := x_c.chg h_w19 (by omega)
          replace x_p := x_p.chg h_w19 (by omega)
          replace x_q := x_q.chg h_w19 (by omega)
          replace x_a := x_a.chg h_w19 (by omega)
          replace o_p := o_p.chg h_w19 (by simp)
          replace o_q := o_q.chg h_w19 (by simp)
          replace o_x := o_x.chg h_w19 (by simp)
          replace o_l := o_l.chg h_w19 (by omega)
          have B_w19 := Below.chg_ B_w18 h_w19 (by omega) (by omega)
          have z_w19 := h_w19.size
          replace x_x := y_w19
          clear y_w19
          obtain ⟨c_x_0_w19, f_x_0_w19, c_x_1_w19, f_x_1_w19, c_x_2_w19, f_x_2_w19, c_x_3_w19, f_x_3_w19, c_x_4_w19, f_x_4_w19⟩ := x_x.k5
          obtain ⟨c_a_0_w19, f_a_0_w19, c_a_1_w19, f_a_1_w19, c_a_2_w19, f_a_2_w19⟩ := x_a.k3
          have c_c_0_w19 := x_c.ac0 hI
          have c_c_1_w19 := x_c.ac1 hI
          have c_c_2_w19 := x_c.ac2 hI
          have f_c_0_w19 := x_c.frozen (I * 3)
          have f_c_1_w19 := x_c.frozen (I * 3 + 1)
          have f_c_2_w19 := x_c.frozen (I * 3 + 2)
          obtain ⟨w20, e_w20, s_w20, h_w20, y_w20⟩ := acc_store x_c hI D
          replace x_p := x_p.chg h_w20 (by omega)
          replace x_q := x_q.chg h_w20 (by omega)
          replace x_x := x_x.chg h_w20 (by omega)
          replace x_a := x_a.chg h_w20 (by omega)
          replace o_p := o_p.chg h_w20 (by simp)
          replace o_q := o_q.chg h_w20 (by simp)
          replace o_x := o_x.chg h_w20 (by simp)
          replace o_l := o_l.chg h_w20 (by omega)
          have B_w20 := Below.chg_ B_w19 h_w20 (by omega) (by omega)
          have z_w20 := h_w20.size
          rw [HA2.out] at y_w20
          replace x_c := y_w20
          clear y_w20
          obtain ⟨c_x_0_w20, f_x_0_w20, c_x_1_w20, f_x_1_w20, c_x_2_w20, f_x_2_w20, c_x_3_w20, f_x_3_w20, c_x_4_w20, f_x_4_w20⟩ := x_x.k5
          obtain ⟨c_q_0_w20, f_q_0_w20, c_q_1_w20, f_q_1_w20, c_q_2_w20, f_q_2_w20, c_q_3_w20, f_q_3_w20, c_q_4_w20, f_q_4_w20⟩ := x_q.k5
          obtain ⟨w21, e_w21, s_w21, h_w21, y_w21⟩ := store_step x_q [.int .i64 X2.Bal, .int .i64 X2.Val, .slice AFn X2.From.length cFn, .int .i64 X2.Best, .slice AGn X2.Got.length cGn] rfl
          replace e_w21 : (((((w20.setCell ⟨w3b.heap.size, 0, none⟩ (.int .i64 X2.Bal)).setCell ⟨w3b.heap.size, 1, none⟩ (.int .i64 X2.Val)).setCell ⟨w3b.heap.size, 2, none⟩ (.slice AFn X2.From.length cFn)).setCell ⟨w3b.heap.size, 3, none⟩ (.int .i64 X2.Best)).setCell ⟨w3b.heap.size, 4, none⟩ (.slice AGn X2.Got.length cGn)) = w21 := e_w21
          have s_w21_1 := Nat.le_of_eq s_w21
          have s_w21_2 := Nat.le_of_eq s_w21.symm
          clear s_w21
          replace x_c := x_c.chg h_w21 (by omega)
          replace x_p := x_p.chg h_w21 (by omega)
          replace x_x := x_x.chg h_w21 (by omega)
          replace x_a := x_a.chg h_w21 (by omega)
          replace o_p := o_p.chg h_w21 (by simp)
          replace o_q := o_q.chg h_w21 (by simp)
          replace o_x := o_x.chg h_w21 (by simp)
          replace o_l := o_l.chg h_w21 (by omega)
          have B_w21 := Below.chg_ B_w20 h_w21 (by omega) (by omega)
          have z_w21 := h_w21.size
          replace x_q := y_w21
          clear y_w21
          have HA1 : Hid (accOkB (acc2 I) = true) := (HV2.out.ia I hI).ok
          have HP1 : Hid (propOkB X2 = true) := HV2.out.iq.ok (.inr rfl)
          have c_c_0_w21 := x_c.ac0 hI
          have c_c_1_w21 := x_c.ac1 hI
          have c_c_2_w21 := x_c.ac2 hI
          have f_c_0_w21 := x_c.frozen (I * 3)
          have f_c_1_w21 := x_c.frozen (I * 3 + 1)
          have f_c_2_w21 := x_c.frozen (I * 3 + 2)
          obtain ⟨c_x_0_w21, f_x_0_w21, c_x_1_w21, f_x_1_w21, c_x_2_w21, f_x_2_w21, c_x_3_w21, f_x_3_w21, c_x_4_w21, f_x_4_w21⟩ := x_x.k5
          go_wp2_with fail
          refine (iAccOk_c (a := acc2 I) (ov_acc (d := acc2 I) (lo := 0) (hi := 0) (Nat.zero_le _)).rd).mono ?_
          rintro e w22 ⟨rfl, h_w22⟩
          clear c_x_0_w18 f_x_0_w18 c_x_1_w18 f_x_1_w18 c_x_2_w18 f_x_2_w18 c_x_3_w18 f_x_3_w18 c_x_4_w18 f_x_4_w18 c_a_0_w18 f_a_0_w18 c_a_1_w18 f_a_1_w18 c_a_2_w18 f_a_2_w18 c_c_0_w18 c_c_1_w18 c_c_2_w18 f_c_0_w18 f_c_1_w18 f_c_2_w18 c_x_0_w19 f_x_0_w19 c_x_1_w19 f_x_1_w19 c_x_2_w19 f_x_2_w19 c_x_3_w19 f_x_3_w19 c_x_4_w19 f_x_4_w19 c_a_0_w19 f_a_0_w19 c_a_1_w19 f_a_1_w19 c_a_2_w19 f_a_2_w19 c_c_0_w19 c_c_1_w19 c_c_2_w19 f_c_0_w19 f_c_1_w19 f_c_2_w19 c_x_0_w20 f_x_0_w20 c_x_1_w20 f_x_1_w20 c_x_2_w20 f_x_2_w20 c_x_3_w20 f_x_3_w20 c_x_4_w20 f_x_4_w20 c_q_0_w20 f_q_0_w20 c_q_1_w20 f_q_1_w20 c_q_2_w20 f_q_2_w20 c_q_3_w20 f_q_3_w20 c_q_4_w20 f_q_4_w20 c_c_0_w21 c_c_1_w21 c_c_2_w21 f_c_0_w21 f_c_1_w21 f_c_2_w21 c_x_0_w21 f_x_0_w21 c_x_1_w21 f_x_1_w21 c_x_2_w21 f_x_2_w21 c_x_3_w21 f_x_3_w21 c_x_4_w21 f_x_4_w21
          replace x_c := x_c.from_ h_w22
          replace x_p := x_p.from_ h_w22
          replace x_q := x_q.from_ h_w22
          replace x_x := x_x.from_ h_w22
          replace x_a := x_a.from_ h_w22
          replace o_p := o_p.below h_w22
          replace o_q := o_q.below h_w22
          replace o_x := o_x.below h_w22
          replace o_l := o_l.below h_w22
          have B_w22 := B_w21.trans (h_w22.mono B_w21.size)
          have z_w22 := h_w22.size
          rw [HA1.out]
          obtain ⟨c_x_0_w22, f_x_0_w22, c_x_1_w22, f_x_1_w22, c_x_2_w22, f_x_2_w22, c_x_3_w22, f_x_3_w22, c_x_4_w22, f_x_4_w22⟩ := x_x.k5
          go_wp2_with fail
          refine (iPropOk_c (p := X2) o_x.rd HV2.out.iq.bulk).mono ?_
          rintro e w23 ⟨rfl, h_w23⟩
          clear c_x_0_w22 f_x_0_w22 c_x_1_w22 f_x_1_w22 c_x_2_w22 f_x_2_w22 c_x_3_w22 f_x_3_w22 c_x_4_w22 f_x_4_w22
          replace x_c := x_c.from_ h_w23
          replace x_p := x_p.from_ h_w23
          replace x_q := x_q.from_ h_w23
          replace x_x := x_x.from_ h_w23
          replace x_a := x_a.from_ h_w23
          replace o_p := o_p.below h_w23
          replace o_q := o_q.below h_w23
          replace o_x := o_x.below h_w23
          replace o_l := o_l.below h_w23
          have B_w23 := B_w22.trans (h_w23.mono B_w22.size)
          have z_w23 := h_w23.size
          rw [HP1.out]
          go_wp2
          go_roundw
          case rel => exact ⟨k + 1, acc2, P, X2, _, _, _, _, _, _, _, _, by omega, by go_num, HV2, x_c, x_p, x_q, o_p.less (by simp), o_x.less (by simp), o_l, B_w23, by omega⟩
          case measure => simp [intOf]; omega
       case neg =>
        have HG : Hid (accTakeB (acc I) Q.Bal Q.Val = false) := by show _ = _; simpa using hgd
        have HD := Lib.hid hD
        clear hD hgd
        go_wp2_with fail
        refine wp_region_held (S := fun u => Vr u w.heap.size 33 (accCells acc) ∧ Vr u wr.heap.size 26 [.int .i64 Q.Bal, .int .i64 Q.Val, .slice AFq Q.From.length cFq, .int .i64 Q.Best, .slice AGq Q.Got.length cGq]) (by kernel_rfl) ?_
        obtain ⟨w14, hwd⟩ : ∃ x, ({ heap := w13.heap, tape := w13.tape, drawn := w13.drawn + 1, os := w13.os, output := w13.output } : World) = x := ⟨_, rfl⟩
        have h_w14 : Below w13.heap.size w13 w14 := by rw [← hwd]; exact (Below.refl w13.heap.size w13).drew
        replace x_c := x_c.from_ h_w14
        replace x_p := x_p.from_ h_w14
        replace x_q := x_q.from_ h_w14
        replace x_x := x_x.from_ h_w14
        replace o_p := o_p.below h_w14
        replace o_q := o_q.below h_w14
        replace o_x := o_x.below h_w14
        replace o_l := o_l.below h_w14
        have B_w14 := B_w13.trans (h_w14.mono B_w13.size)
        have z_w14 := h_w14.size
        rw [hwd]
        clear hwd
        refine takeH (i := 0) (v := ?v39) (d := some 88) rfl rfl (by kernel_rfl) (by kernel_rfl) (by kernel_rfl) (fun _ _ _ h => h) (Or.inl ⟨by rfl, ?y39⟩) ⟨x_c, x_x⟩ ?r39
        case y39 => (intro W hW; go_simp; try (with_reducible rfl))
        simp only [Act.put, List.setIfInBounds_toArray, List.set_cons_zero, List.set_cons_succ]
        refine takeH (i := 1) (v := ?v40) (d := some 89) rfl rfl (by kernel_rfl) (by kernel_rfl) (by kernel_rfl) (fun _ _ _ h => h) (Or.inl ⟨by rfl, ?y40⟩) ⟨x_c, x_x⟩ ?r40
        case y40 => (intro W hW; go_simp; try (with_reducible rfl))
        simp only [Act.put, List.setIfInBounds_toArray, List.set_cons_zero, List.set_cons_succ]
        refine takeH (i := 2) (v := ?v41) (d := some 90) rfl rfl (by kernel_rfl) (by kernel_rfl) (by kernel_rfl) (fun _ _ _ h => h) (Or.inl ⟨by rfl, ?y41⟩) ⟨x_c, x_x⟩ ?r41
        case y41 => (intro W hW; go_simp; try (with_reducible rfl))
        simp only [Act.put, List.setIfInBounds_toArray, List.set_cons_zero, List.set_cons_succ]
        refine takeH (i := 3) (v := ?v42) (d := some 91) rfl rfl (by kernel_rfl) (by kernel_rfl) (by kernel_rfl) (fun _ _ _ h => h) (Or.inl ⟨by rfl, ?y42⟩) ⟨x_c, x_x⟩ ?r42
        case y42 => (intro W hW; have k0 := hW.1.ac0 hI; have k1 := hW.1.ac1 hI; have k2 := hW.1.ac2 hI; go_simp; try (with_reducible rfl))
        simp only [Act.put, List.setIfInBounds_toArray, List.set_cons_zero, List.set_cons_succ]
        refine takeH (i := 4) (v := ?v43) (d := some 92) rfl rfl (by kernel_rfl) (by kernel_rfl) (by kernel_rfl) (fun _ _ _ h => h) (Or.inl ⟨by rfl, ?y43⟩) ⟨x_c, x_x⟩ ?r43
        case y43 => (intro W hW; go_simp; try (with_reducible rfl))
        simp only [Act.put, List.setIfInBounds_toArray, List.set_cons_zero, List.set_cons_succ]
        refine takeH (i := 5) (v := ?v44) (d := some 93) rfl rfl (by kernel_rfl) (by kernel_rfl) (by kernel_rfl) (fun _ _ _ h => h) (Or.inl ⟨by rfl, ?y44⟩) ⟨x_c, x_x⟩ ?r44
        case y44 => (intro W hW; have j0 := hW.2.cell (i := 0) rfl; have j1 := hW.2.cell (i := 1) rfl; have j2 := hW.2.cell (i := 2) rfl; have j3 := hW.2.cell (i := 3) rfl; have j4 := hW.2.cell (i := 4) rfl; go_simp; try (with_reducible rfl))
        simp only [Act.put, List.setIfInBounds_toArray, List.set_cons_zero, List.set_cons_succ]
        refine takeH (i := 6) (v := ?v45) (d := some 94) rfl rfl (by kernel_rfl) (by kernel_rfl) (by kernel_rfl) (fun _ _ _ h => h) (Or.inl ⟨by rfl, ?y45⟩) ⟨x_c, x_x⟩ ?r45
        case y45 => (intro W hW; go_simp; try (with_reducible rfl))
        simp only [Act.put, List.setIfInBounds_toArray, List.set_cons_zero, List.set_cons_succ]
        refine takeH (i := 7) (v := ?v46) (d := some 95) rfl rfl (by kernel_rfl) (by kernel_rfl) (by kernel_rfl) (fun _ _ _ h => h) (Or.inl ⟨by rfl, ?y46⟩) ⟨x_c, x_x⟩ ?r46
        case y46 => (intro W hW; have j0 := hW.2.cell (i := 0) rfl; have j1 := hW.2.cell (i := 1) rfl; have j2 := hW.2.cell (i := 2) rfl; have j3 := hW.2.cell (i := 3) rfl; have j4 := hW.2.cell (i := 4) rfl; go_simp; try (with_reducible rfl))
        simp only [Act.put, List.setIfInBounds_toArray, List.set_cons_zero, List.set_cons_succ]
        refine wpAnyH_ready (rs := [8, 12]) (by kernel_rfl) (by simp) ?_
        refine AllReadyH.cons rfl (fun K hK => ?_) (AllReadyH.cons rfl (fun K hK => ?_) AllReadyH.nil)
        · go_simp
          skip
          refine (iAccTake_c (a := acc I) (b := Q.Bal) (u := Q.Val) (ov_acc (d := acc I) (lo := 0) (hi := 0) (Nat.zero_le _)).rd hXb hXv).mono ?_
          rintro e w15 ⟨v9, rfl, o_a, h_w15⟩
          replace x_c := x_c.from_ h_w15
          replace x_p := x_p.from_ h_w15
          replace x_q := x_q.from_ h_w15
          replace x_x := x_x.from_ h_w15
          replace o_p := o_p.below h_w15
          replace o_q := o_q.below h_w15
          replace o_x := o_x.below h_w15
          replace o_l := o_l.below h_w15
          have B_w15 := B_w14.trans (h_w15.mono B_w14.size)
          have z_w15 := h_w15.size
          rw [HD.out] at o_a
          rw [HG.out]
          obtain rfl := rv_acc o_a.rd
          clear o_a
          go_simp
          refine hK.out _ _ ⟨x_c, x_x⟩ (fun _ => ?_)
          clear hK K
          refine takeH (i := 9) (v := ?v47) (d := some 87) rfl rfl (by kernel_rfl) (by kernel_rfl) (by kernel_rfl) (fun _ _ _ h => h) (Or.inl ⟨by rfl, ?y47⟩) ⟨x_c, x_x⟩ ?r47
          case y47 => (intro W hW; go_simp; try (with_reducible rfl))
          simp only [Act.put, List.setIfInBounds_toArray, List.set_cons_zero, List.set_cons_succ]
          refine takeH (i := 10) (v := ?v48) (d := some 97) rfl rfl (by kernel_rfl) (by kernel_rfl) (by kernel_rfl) (fun _ _ _ h => h) (Or.inl ⟨by rfl, ?y48⟩) ⟨x_c, x_x⟩ ?r48
          case y48 => (intro W hW; go_simp; try (with_reducible rfl))
          simp only [Act.put, List.setIfInBounds_toArray, List.set_cons_zero, List.set_cons_succ]
          refine takeH (i := 11) (v := ?v49) (d := some 98) rfl rfl (by kernel_rfl) (by kernel_rfl) (by kernel_rfl) (fun _ _ _ h => h) (Or.inl ⟨by rfl, ?y49⟩) ⟨x_c, x_x⟩ ?r49
          case y49 => (intro W hW; go_simp; try (with_reducible rfl))
          simp only [Act.put, List.setIfInBounds_toArray, List.set_cons_zero, List.set_cons_succ]
          refine wpAnyH_ready (rs := [12]) (by kernel_rfl) (by simp) ?_
          refine AllReadyH.cons rfl (fun K hK => ?_) AllReadyH.nil
          obtain ⟨w16, e_w16, s_w16, h_w16, x_a⟩ := alloc_step w15 33 [.int .i64 0, .int .i64 0, .int .i64 0]
          have s_w16_1 := Nat.le_of_eq s_w16
          have s_w16_2 := Nat.le_of_eq s_w16.symm
          clear s_w16
          replace o_p := o_p.more (Nat.le_refl w15.heap.size)
          replace o_q := o_q.more (Nat.le_refl w15.heap.size)
          replace o_x := o_x.more (Nat.le_refl w15.heap.size)
          replace x_c := x_c.from_ h_w16
          replace x_p := x_p.from_ h_w16
          replace x_q := x_q.from_ h_w16
          replace x_x := x_x.from_ h_w16
          replace o_p := o_p.below h_w16
          replace o_q := o_q.below h_w16
          replace o_x := o_x.below h_w16
          replace o_l := o_l.below h_w16
          have B_w16 := B_w15.trans (h_w16.mono B_w15.size)
          have z_w16 := h_w16.size
          go_simp
          refine hK.out _ _ ⟨x_c, x_x⟩ (fun _ => ?_)
          clear hK K
          obtain ⟨c_a_0_w16, f_a_0_w16, c_a_1_w16, f_a_1_w16, c_a_2_w16, f_a_2_w16⟩ := x_a.k3
          obtain ⟨w17, e_w17, s_w17, h_w17, y_w17⟩ := store_step x_a [.int .i64 D.Prom, .int .i64 D.Bal, .int .i64 D.Val] rfl
          replace e_w17 : (((w16.setCell ⟨w15.heap.size, 0, none⟩ (.int .i64 D.Prom)).setCell ⟨w15.heap.size, 1, none⟩ (.int .i64 D.Bal)).setCell ⟨w15.heap.size, 2, none⟩ (.int .i64 D.Val)) = w17 := e_w17
          have s_w17_1 := Nat.le_of_eq s_w17
          have s_w17_2 := Nat.le_of_eq s_w17.symm
          clear s_w17
          replace x_c := x_c.chg h_w17 (by omega)
          replace x_p := x_p.chg h_w17 (by omega)
          replace x_q := x_q.chg h_w17 (by omega)
          replace x_x := x_x.chg h_w17 (by omega)
          replace o_p := o_p.chg h_w17 (by simp)
          replace o_q := o_q.chg h_w17 (by simp)
          replace o_x := o_x.chg h_w17 (by simp)
          replace o_l := o_l.chg h_w17 (by omega)
          have B_w17 := Below.chg_ B_w16 h_w17 (by omega) (by omega)
          have z_w17 := h_w17.size
          replace x_a := y_w17
          clear y_w17
          refine wpAnyH_ready (rs := [13]) (by kernel_rfl) (by simp) ?_
          refine AllReadyH.cons rfl (fun K hK => ?_) AllReadyH.nil
          go_simp
          refine hK.out _ _ ⟨x_c, x_x⟩ (fun _ => ?_)
          clear hK K
          clear c_a_0_w16 f_a_0_w16 c_a_1_w16 f_a_1_w16 c_a_2_w16 f_a_2_w16
          refine wpAnyH_ready (rs := [14]) (by kernel_rfl) (by simp) ?_
          refine AllReadyH.cons rfl (fun K hK => ?_) AllReadyH.nil
          go_simp
          refine hK.out _ _ ⟨x_c, x_x⟩ (fun _ => ?_)
          clear hK K
          refine wpAnyH_done (by kernel_rfl) ?_ _
          obtain ⟨c_x_0_w17, f_x_0_w17, c_x_1_w17, f_x_1_w17, c_x_2_w17, f_x_2_w17, c_x_3_w17, f_x_3_w17, c_x_4_w17, f_x_4_w17⟩ := x_x.k5
          obtain ⟨c_q_0_w17, f_q_0_w17, c_q_1_w17, f_q_1_w17, c_q_2_w17, f_q_2_w17, c_q_3_w17, f_q_3_w17, c_q_4_w17, f_q_4_w17⟩ := x_q.k5
          obtain ⟨w18, e_w18, s_w18, h_w18, y_w18⟩ := store_step x_q [.int .i64 Q.Bal, .int .i64 Q.Val, .slice AFq Q.From.length cFq, .int .i64 Q.Best, .slice AGq Q.Got.length cGq] rfl
          replace e_w18 : (((((w17.setCell ⟨w3b.heap.size, 0, none⟩ (.int .i64 Q.Bal)).setCell ⟨w3b.heap.size, 1, none⟩ (.int .i64 Q.Val)).setCell ⟨w3b.heap.size, 2, none⟩ (.slice AFq Q.From.length cFq)).setCell ⟨w3b.heap.size, 3, none⟩ (.int .i64 Q.Best)).setCell ⟨w3b.heap.size, 4, none⟩ (.slice AGq Q.Got.length cGq)) = w18 := e_w18
          have s_w18_1 := Nat.le_of_eq s_w18
          have s_w18_2 := Nat.le_of_eq s_w18.symm
          clear s_w18
          replace x_c := x_c.chg h_w18 (by omega)
          replace x_p := x_p.chg h_w18 (by omega)
          replace x_x := x_x.chg h_w18 (by omega)
          replace x_a := x_a.chg h_w18 (by omega)
          replace o_p := o_p.chg h_w18 (by simp)
          replace o_q := o_q.chg h_w18 (by simp)
          replace o_x := o_x.chg h_w18 (by simp)
          replace o_l := o_l.chg h_w18 (by omega)
          have B_w18 := Below.chg_ B_w17 h_w18 (by omega) (by omega)
          have z_w18 := h_w18.size
          replace x_q := y_w18
          clear y_w18
          have HA1 : Hid (accOkB (acc I) = true) := (HV.out.ia I hI).ok
          have HP1 : Hid (propOkB Q = true) := HV.out.iq.ok (.inr rfl)
          have c_c_0_w18 := x_c.ac0 hI
          have c_c_1_w18 := x_c.ac1 hI
          have c_c_2_w18 := x_c.ac2 hI
          have f_c_0_w18 := x_c.frozen (I * 3)
          have f_c_1_w18 := x_c.frozen (I * 3 + 1)
          have f_c_2_w18 := x_c.frozen (I * 3 + 2)
          obtain ⟨c_x_0_w18, f_x_0_w18, c_x_1_w18, f_x_1_w18, c_x_2_w18, f_x_2_w18, c_x_3_w18, f_x_3_w18, c_x_4_w18, f_x_4_w18⟩ := x_x.k5
          go_wp2_with fail
          refine (iAccOk_c (a := acc I) (ov_acc (d := acc I) (lo := 0) (hi := 0) (Nat.zero_le _)).rd).mono ?_
          rintro e w19 ⟨rfl, h_w19⟩
          clear c_x_0_w17 f_x_0_w17 c_x_1_w17 f_x_1_w17 c_x_2_w17 f_x_2_w17 c_x_3_w17 f_x_3_w17 c_x_4_w17 f_x_4_w17 c_q_0_w17 f_q_0_w17 c_q_1_w17 f_q_1_w17 c_q_2_w17 f_q_2_w17 c_q_3_w17 f_q_3_w17 c_q_4_w17 f_q_4_w17 c_c_0_w18 c_c_1_w18 c_c_2_w18 f_c_0_w18 f_c_1_w18 f_c_2_w18 c_x_0_w18 f_x_0_w18 c_x_1_w18 f_x_1_w18 c_x_2_w18 f_x_2_w18 c_x_3_w18 f_x_3_w18 c_x_4_w18 f_x_4_w18
          replace x_c := x_c.from_ h_w19
          replace x_p := x_p.from_ h_w19
          replace x_q := x_q.from_ h_w19
          replace x_x := x_x.from_ h_w19
          replace x_a := x_a.from_ h_w19
          replace o_p := o_p.below h_w19
          replace o_q := o_q.below h_w19
          replace o_x := o_x.below h_w19
          replace o_l := o_l.below h_w19
          have B_w19 := B_w18.trans (h_w19.mono B_w18.size)
          have z_w19 := h_w19.size
          rw [HA1.out]
          obtain ⟨c_x_0_w19, f_x_0_w19, c_x_1_w19, f_x_1_w19, c_x_2_w19, f_x_2_w19, c_x_3_w19, f_x_3_w19, c_x_4_w19, f_x_4_w19⟩ := x_x.k5
          go_wp2_with fail
          refine (iPropOk_c (p := Q) o_x.rd HV.out.iq.bulk).mono ?_
          rintro e w20 ⟨rfl, h_w20⟩
          clear c_x_0_w19 f_x_0_w19 c_x_1_w19 f_x_1_w19 c_x_2_w19 f_x_2_w19 c_x_3_w19 f_x_3_w19 c_x_4_w19 f_x_4_w19
          replace x_c := x_c.from_ h_w20
          replace x_p := x_p.from_ h_w20
          replace x_q := x_q.from_ h_w20
          replace x_x := x_x.from_ h_w20
          replace x_a := x_a.from_ h_w20
          replace o_p := o_p.below h_w20
          replace o_q := o_q.below h_w20
          replace o_x := o_x.below h_w20
          replace o_l := o_l.below h_w20
          have B_w20 := B_w19.trans (h_w20.mono B_w19.size)
          have z_w20 := h_w20.size
          rw [HP1.out]
          go_wp2
          go_roundw
          case rel => exact ⟨k + 1, acc, P, Q, _, _, _, _, _, _, _, _, by omega, by go_num, HV, x_c, x_p, x_q, o_p.less (by simp), o_x.less (by simp), o_l, B_w20, by omega⟩
          case measure => simp [intOf]; omega
        · obtain ⟨w15, e_w15, s_w15, h_w15, x_a⟩ := alloc_step w14 33 [.int .i64 0, .int .i64 0, .int .i64 0]
          have s_w15_1 := Nat.le_of_eq s_w15
          have s_w15_2 := Nat.le_of_eq s_w15.symm
          clear s_w15
          replace o_p := o_p.more (Nat.le_refl w14.heap.size)
          replace o_q := o_q.more (Nat.le_refl w14.heap.size)
          replace o_x := o_x.more (Nat.le_refl w14.heap.size)
          replace x_c := x_c.from_ h_w15
          replace x_p := x_p.from_ h_w15
          replace x_q := x_q.from_ h_w15
          replace x_x := x_x.from_ h_w15
          replace o_p := o_p.below h_w15
          replace o_q := o_q.below h_w15
          replace o_x := o_x.below h_w15
          replace o_l := o_l.below h_w15
          have B_w15 := B_w14.trans (h_w15.mono B_w14.size)
          have z_w15 := h_w15.size
          go_simp
          refine hK.out _ _ ⟨x_c, x_x⟩ (fun _ => ?_)
          clear hK K
          refine wpAnyH_ready (rs := [8]) (by kernel_rfl) (by simp) ?_
          refine AllReadyH.cons rfl (fun K hK => ?_) AllReadyH.nil
          go_simp
          skip
          refine (iAccTake_c (a := acc I) (b := Q.Bal) (u := Q.Val) (ov_acc (d := acc I) (lo := 0) (hi := 0) (Nat.zero_le _)).rd hXb hXv).mono ?_
          rintro e w16 ⟨v9, rfl, o_a, h_w16⟩
          replace x_c := x_c.from_ h_w16
          replace x_p := x_p.from_ h_w16
          replace x_q := x_q.from_ h_w16
          replace x_x := x_x.from_ h_w16
          replace x_a := x_a.from_ h_w16
          replace o_p := o_p.below h_w16
          replace o_q := o_q.below h_w16
          replace o_x := o_x.below h_w16
          replace o_l := o_l.below h_w16
          have B_w16 := B_w15.trans (h_w16.mono B_w15.size)
          have z_w16 := h_w16.size
          rw [HD.out] at o_a
          rw [HG.out]
          obtain rfl := rv_acc o_a.rd
          clear o_a
          go_simp
          refine hK.out _ _ ⟨x_c, x_x⟩ (fun _ => ?_)
          clear hK K
          refine takeH (i := 9) (v := ?v50) (d := some 87) rfl rfl (by kernel_rfl) (by kernel_rfl) (by kernel_rfl) (fun _ _ _ h => h) (Or.inl ⟨by rfl, ?y50⟩) ⟨x_c, x_x⟩ ?r50
          case y50 => (intro W hW; go_simp; try (with_reducible rfl))
          simp only [Act.put, List.setIfInBounds_toArray, List.set_cons_zero, List.set_cons_succ]
          refine takeH (i := 10) (v := ?v51) (d := some 97) rfl rfl (by kernel_rfl) (by kernel_rfl) (by kernel_rfl) (fun _ _ _ h => h) (Or.inl ⟨by rfl, ?y51⟩) ⟨x_c, x_x⟩ ?r51
          case y51 => (intro W hW; go_simp; try (with_reducible rfl))
          simp only [Act.put, List.setIfInBounds_toArray, List.set_cons_zero, List.set_cons_succ]
          refine takeH (i := 11) (v := ?v52) (d := some 98) rfl rfl (by kernel_rfl) (by kernel_rfl) (by kernel_rfl) (fun _ _ _ h => h) (Or.inl ⟨by rfl, ?y52⟩) ⟨x_c, x_x⟩ ?r52
          case y52 => (intro W hW; go_simp; try (with_reducible rfl))
          simp only [Act.put, List.setIfInBounds_toArray, List.set_cons_zero, List.set_cons_succ]
          obtain ⟨c_a_0_w16, f_a_0_w16, c_a_1_w16, f_a_1_w16, c_a_2_w16, f_a_2_w16⟩ := x_a.k3
          obtain ⟨w17, e_w17, s_w17, h_w17, y_w17⟩ := store_step x_a [.int .i64 D.Prom, .int .i64 D.Bal, .int .i64 D.Val] rfl
          replace e_w17 : (((w16.setCell ⟨w14.heap.size, 0, none⟩ (.int .i64 D.Prom)).setCell ⟨w14.heap.size, 1, none⟩ (.int .i64 D.Bal)).setCell ⟨w14.heap.size, 2, none⟩ (.int .i64 D.Val)) = w17 := e_w17
          have s_w17_1 := Nat.le_of_eq s_w17
          have s_w17_2 := Nat.le_of_eq s_w17.symm
          clear s_w17
          replace x_c := x_c.chg h_w17 (by omega)
          replace x_p := x_p.chg h_w17 (by omega)
          replace x_q := x_q.chg h_w17 (by omega)
          replace x_x := x_x.chg h_w17 (by omega)
          replace o_p := o_p.chg h_w17 (by simp)
          replace o_q := o_q.chg h_w17 (by simp)
          replace o_x := o_x.chg h_w17 (by simp)
          replace o_l := o_l.chg h_w17 (by omega)
          have B_w17 := Below.chg_ B_w16 h_w17 (by omega) (by omega)
          have z_w17 := h_w17.size
          replace x_a := y_w17
          clear y_w17
          refine wpAnyH_ready (rs := [13]) (by kernel_rfl) (by simp) ?_
          refine AllReadyH.cons rfl (fun K hK => ?_) AllReadyH.nil
          go_simp
          refine hK.out _ _ ⟨x_c, x_x⟩ (fun _ => ?_)
          clear hK K
          clear c_a_0_w16 f_a_0_w16 c_a_1_w16 f_a_1_w16 c_a_2_w16 f_a_2_w16
          refine wpAnyH_ready (rs := [14]) (by kernel_rfl) (by simp) ?_
          refine AllReadyH.cons rfl (fun K hK => ?_) AllReadyH.nil
          go_simp
          refine hK.out _ _ ⟨x_c, x_x⟩ (fun _ => ?_)
          clear hK K
          refine wpAnyH_done (by kernel_rfl) ?_ _
          obtain ⟨c_x_0_w17, f_x_0_w17, c_x_1_w17, f_x_1_w17, c_x_2_w17, f_x_2_w17, c_x_3_w17, f_x_3_w17, c_x_4_w17, f_x_4_w17⟩ := x_x.k5
          obtain ⟨c_q_0_w17, f_q_0_w17, c_q_1_w17, f_q_1_w17, c_q_2_w17, f_q_2_w17, c_q_3_w17, f_q_3_w17, c_q_4_w17, f_q_4_w17⟩ := x_q.k5
          obtain ⟨w18, e_w18, s_w18, h_w18, y_w18⟩ := store_step x_q [.int .i64 Q.Bal, .int .i64 Q.Val, .slice AFq Q.From.length cFq, .int .i64 Q.Best, .slice AGq Q.Got.length cGq] rfl
          replace e_w18 : (((((w17.setCell ⟨w3b.heap.size, 0, none⟩ (.int .i64 Q.Bal)).setCell ⟨w3b.heap.size, 1, none⟩ (.int .i64 Q.Val)).setCell ⟨w3b.heap.size, 2, none⟩ (.slice AFq Q.From.length cFq)).setCell ⟨w3b.heap.size, 3, none⟩ (.int .i64 Q.Best)).setCell ⟨w3b.heap.size, 4, none⟩ (.slice AGq Q.Got.length cGq)) = w18 := e_w18
          have s_w18_1 := Nat.le_of_eq s_w18
          have s_w18_2 := Nat.le_of_eq s_w18.symm
          clear s_w18
          replace x_c := x_c.chg h_w18 (by omega)
          replace x_p := x_p.chg h_w18 (by omega)
          replace x_x := x_x.chg h_w18 (by omega)
          replace x_a := x_a.chg h_w18 (by omega)
          replace o_p := o_p.chg h_w18 (by simp)
          replace o_q := o_q.chg h_w18 (by simp)
          replace o_x := o_x.chg h_w18 (by simp)
          replace o_l := o_l.chg h_w18 (by omega)
          have B_w18 := Below.chg_ B_w17 h_w18 (by omega) (by omega)
          have z_w18 := h_w18.size
          replace x_q := y_w18
          clear y_w18
          have HA1 : Hid (accOkB (acc I) = true) := (HV.out.ia I hI).ok
          have HP1 : Hid (propOkB Q = true) := HV.out.iq.ok (.inr rfl)
          have c_c_0_w18 := x_c.ac0 hI
          have c_c_1_w18 := x_c.ac1 hI
          have c_c_2_w18 := x_c.ac2 hI
          have f_c_0_w18 := x_c.frozen (I * 3)
          have f_c_1_w18 := x_c.frozen (I * 3 + 1)
          have f_c_2_w18 := x_c.frozen (I * 3 + 2)
          obtain ⟨c_x_0_w18, f_x_0_w18, c_x_1_w18, f_x_1_w18, c_x_2_w18, f_x_2_w18, c_x_3_w18, f_x_3_w18, c_x_4_w18, f_x_4_w18⟩ := x_x.k5
          go_wp2_with fail
          refine (iAccOk_c (a := acc I) (ov_acc (d := acc I) (lo := 0) (hi := 0) (Nat.zero_le _)).rd).mono ?_
          rintro e w19 ⟨rfl, h_w19⟩
          clear c_x_0_w17 f_x_0_w17 c_x_1_w17 f_x_1_w17 c_x_2_w17 f_x_2_w17 c_x_3_w17 f_x_3_w17 c_x_4_w17 f_x_4_w17 c_q_0_w17 f_q_0_w17 c_q_1_w17 f_q_1_w17 c_q_2_w17 f_q_2_w17 c_q_3_w17 f_q_3_w17 c_q_4_w17 f_q_4_w17 c_c_0_w18 c_c_1_w18 c_c_2_w18 f_c_0_w18 f_c_1_w18 f_c_2_w18 c_x_0_w18 f_x_0_w18 c_x_1_w18 f_x_1_w18 c_x_2_w18 f_x_2_w18 c_x_3_w18 f_x_3_w18 c_x_4_w18 f_x_4_w18
          replace x_c := x_c.from_ h_w19
          replace x_p := x_p.from_ h_w19
          replace x_q := x_q.from_ h_w19
          replace x_x := x_x.from_ h_w19
          replace x_a := x_a.from_ h_w19
          replace o_p := o_p.below h_w19
          replace o_q := o_q.below h_w19
          replace o_x := o_x.below h_w19
          replace o_l := o_l.below h_w19
          have B_w19 := B_w18.trans (h_w19.mono B_w18.size)
          have z_w19 := h_w19.size
          rw [HA1.out]
          obtain ⟨c_x_0_w19, f_x_0_w19, c_x_1_w19, f_x_1_w19, c_x_2_w19, f_x_2_w19, c_x_3_w19, f_x_3_w19, c_x_4_w19, f_x_4_w19⟩ := x_x.k5
          go_wp2_with fail
          refine (iPropOk_c (p := Q) o_x.rd HV.out.iq.bulk).mono ?_
          rintro e w20 ⟨rfl, h_w20⟩
          clear c_x_0_w19 f_x_0_w19 c_x_1_w19 f_x_1_w19 c_x_2_w19 f_x_2_w19 c_x_3_w19 f_x_3_w19 c_x_4_w19 f_x_4_w19
          replace x_c := x_c.from_ h_w20
          replace x_p := x_p.from_ h_w20
          replace x_q := x_q.from_ h_w20
          replace x_x := x_x.from_ h_w20
          replace x_a := x_a.from_ h_w20
          replace o_p := o_p.below h_w20
          replace o_q := o_q.below h_w20
          replace o_x := o_x.below h_w20
          replace o_l := o_l.below h_w20
          have B_w20 := B_w19.trans (h_w20.mono B_w19.size)
          have z_w20 := h_w20.size
          rw [HP1.out]
          go_wp2
          go_roundw
          case rel => exact ⟨k + 1, acc, P, Q, _, _, _, _, _, _, _, _, by omega, by go_num, HV, x_c, x_p, x_q, o_p.less (by simp), o_x.less (by simp), o_l, B_w20, by omega⟩
          case measure => simp [intOf]; omega
      case neg =>
       have HR : Hid (propReadyB Q 3 = false) := by show _ = _; simpa using hrd
       clear hrd
       obtain ⟨c_p_0_wr, f_p_0_wr, c_p_1_wr, f_p_1_wr, c_p_2_wr, f_p_2_wr, c_p_3_wr, f_p_3_wr, c_p_4_wr, f_p_4_wr⟩ := x_p.k5
       obtain ⟨w11, e_w11, s_w11, h_w11, x_x⟩ := alloc_step wr 26 [.int .i64 P.Bal, .int .i64 P.Val, .slice AFp P.From.length cFp, .int .i64 P.Best, .slice AGp P.Got.length cGp]
       have s_w11_1 := Nat.le_of_eq s_w11
       have s_w11_2 := Nat.le_of_eq s_w11.symm
       clear s_w11
       replace o_p := o_p.more (Nat.le_refl wr.heap.size)
       replace o_q := o_q.more (Nat.le_refl wr.heap.size)
       replace x_c := x_c.from_ h_w11
       replace x_p := x_p.from_ h_w11
       replace x_q := x_q.from_ h_w11
       replace o_p := o_p.below h_w11
       replace o_q := o_q.below h_w11
       replace o_l := o_l.below h_w11
       have B_w11 := HB.trans (h_w11.mono HB.size)
       have z_w11 := h_w11.size
       obtain ⟨c_q_0_w11, f_q_0_w11, c_q_1_w11, f_q_1_w11, c_q_2_w11, f_q_2_w11, c_q_3_w11, f_q_3_w11, c_q_4_w11, f_q_4_w11⟩ := x_q.k5
       obtain ⟨c_x_0_w11, f_x_0_w11, c_x_1_w11, f_x_1_w11, c_x_2_w11, f_x_2_w11, c_x_3_w11, f_x_3_w11, c_x_4_w11, f_x_4_w11⟩ := x_x.k5
       obtain ⟨w12, e_w12, s_w12, h_w12, y_w12⟩ := store_step x_x [.int .i64 Q.Bal, .int .i64 Q.Val, .slice AFq Q.From.length cFq, .int .i64 Q.Best, .slice AGq Q.Got.length cGq] rfl
       replace e_w12 : (((((w11.setCell ⟨wr.heap.size, 0, none⟩ (.int .i64 Q.Bal)).setCell ⟨wr.heap.size, 1, none⟩ (.int .i64 Q.Val)).setCell ⟨wr.heap.size, 2, none⟩ (.slice AFq Q.From.length cFq)).setCell ⟨wr.heap.size, 3, none⟩ (.int .i64 Q.Best)).setCell ⟨wr.heap.size, 4, none⟩ (.slice AGq Q.Got.length cGq)) = w12 := e_w12
       have s_w12_1 := Nat.le_of_eq s_w12
       have s_w12_2 := Nat.le_of_eq s_w12.symm
       clear s_w12
       replace x_c := x_c.chg h_w12 (by omega)
       replace x_p := x_p.chg h_w12 (by omega)
       replace x_q := x_q.chg h_w12 (by omega)
       replace o_p := o_p.chg h_w12 (by simp)
       replace o_q := o_q.chg h_w12 (by simp)
       replace o_l := o_l.chg h_w12 (by omega)
       have B_w12 := Below.chg_ B_w11 h_w12 (by omega) (by omega)
       have z_w12 := h_w12.size
       replace x_x := y_w12
       clear y_w12
       have o_x := o_q
       obtain ⟨c_x_0_w12, f_x_0_w12, c_x_1_w12, f_x_1_w12, c_x_2_w12, f_x_2_w12, c_x_3_w12, f_x_3_w12, c_x_4_w12, f_x_4_w12⟩ := x_x.k5
       go_wp2_with fail
       refine (iPropReady_c (p := Q) (n := 3) o_x.rd HV.out.iq.bulk (by omega)).mono ?_
       rintro e w13 ⟨rfl, h_w13⟩
       clear c_p_0_wr f_p_0_wr c_p_1_wr f_p_1_wr c_p_2_wr f_p_2_wr c_p_3_wr f_p_3_wr c_p_4_wr f_p_4_wr c_q_0_w11 f_q_0_w11 c_q_1_w11 f_q_1_w11 c_q_2_w11 f_q_2_w11 c_q_3_w11 f_q_3_w11 c_q_4_w11 f_q_4_w11 c_x_0_w11 f_x_0_w11 c_x_1_w11 f_x_1_w11 c_x_2_w11 f_x_2_w11 c_x_3_w11 f_x_3_w11 c_x_4_w11 f_x_4_w11 c_x_0_w12 f_x_0_w12 c_x_1_w12 f_x_1_w12 c_x_2_w12 f_x_2_w12 c_x_3_w12 f_x_3_w12 c_x_4_w12 f_x_4_w12
       replace x_c := x_c.from_ h_w13
       replace x_p := x_p.from_ h_w13
       replace x_q := x_q.from_ h_w13
       replace x_x := x_x.from_ h_w13
       replace o_p := o_p.below h_w13
       replace o_q := o_q.below h_w13
       replace o_x := o_x.below h_w13
       replace o_l := o_l.below h_w13
       have B_w13 := B_w12.trans (h_w13.mono B_w12.size)
       have z_w13 := h_w13.size
       rw [HR.out]
       obtain ⟨c_x_0_w13, f_x_0_w13, c_x_1_w13, f_x_1_w13, c_x_2_w13, f_x_2_w13, c_x_3_w13, f_x_3_w13, c_x_4_w13, f_x_4_w13⟩ := x_x.k5
       obtain ⟨c_q_0_w13, f_q_0_w13, c_q_1_w13, f_q_1_w13, c_q_2_w13, f_q_2_w13, c_q_3_w13, f_q_3_w13, c_q_4_w13, f_q_4_w13⟩ := x_q.k5
       obtain ⟨w14, e_w14, s_w14, h_w14, y_w14⟩ := store_step x_q [.int .i64 Q.Bal, .int .i64 Q.Val, .slice AFq Q.From.length cFq, .int .i64 Q.Best, .slice AGq Q.Got.length cGq] rfl
       replace e_w14 : (((((w13.setCell ⟨w3b.heap.size, 0, none⟩ (.int .i64 Q.Bal)).setCell ⟨w3b.heap.size, 1, none⟩ (.int .i64 Q.Val)).setCell ⟨w3b.heap.size, 2, none⟩ (.slice AFq Q.From.length cFq)).setCell ⟨w3b.heap.size, 3, none⟩ (.int .i64 Q.Best)).setCell ⟨w3b.heap.size, 4, none⟩ (.slice AGq Q.Got.length cGq)) = w14 := e_w14
       have s_w14_1 := Nat.le_of_eq s_w14
       have s_w14_2 := Nat.le_of_eq s_w14.symm
       clear s_w14
       replace x_c := x_c.chg h_w14 (by omega)
       replace x_p := x_p.chg h_w14 (by omega)
       replace x_x := x_x.chg h_w14 (by omega)
       replace o_p := o_p.chg h_w14 (by simp)
       replace o_q := o_q.chg h_w14 (by simp)
       replace o_x := o_x.chg h_w14 (by simp)
       replace o_l := o_l.chg h_w14 (by omega)
       have B_w14 := Below.chg_ B_w13 h_w14 (by omega) (by omega)
       have z_w14 := h_w14.size
       replace x_q := y_w14
       clear y_w14
       have HA1 : Hid (accOkB (acc I) = true) := (HV.out.ia I hI).ok
       have HP1 : Hid (propOkB Q = true) := HV.out.iq.ok (.inr rfl)
       have c_c_0_w14 := x_c.ac0 hI
       have c_c_1_w14 := x_c.ac1 hI
       have c_c_2_w14 := x_c.ac2 hI
       have f_c_0_w14 := x_c.frozen (I * 3)
       have f_c_1_w14 := x_c.frozen (I * 3 + 1)
       have f_c_2_w14 := x_c.frozen (I * 3 + 2)
       obtain ⟨c_x_0_w14, f_x_0_w14, c_x_1_w14, f_x_1_w14, c_x_2_w14, f_x_2_w14, c_x_3_w14, f_x_3_w14, c_x_4_w14, f_x_4_w14⟩ := x_x.k5
       go_wp2_with fail
       refine (iAccOk_c (a := acc I) (ov_acc (d := acc I) (lo := 0) (hi := 0) (Nat.zero_le _)).rd).mono ?_
       rintro e w15 ⟨rfl, h_w15⟩
       clear c_x_0_w13 f_x_0_w13 c_x_1_w13 f_x_1_w13 c_x_2_w13 f_x_2_w13 c_x_3_w13 f_x_3_w13 c_x_4_w13 f_x_4_w13 c_q_0_w13 f_q_0_w13 c_q_1_w13 f_q_1_w13 c_q_2_w13 f_q_2_w13 c_q_3_w13 f_q_3_w13 c_q_4_w13 f_q_4_w13 c_c_0_w14 c_c_1_w14 c_c_2_w14 f_c_0_w14 f_c_1_w14 f_c_2_w14 c_x_0_w14 f_x_0_w14 c_x_1_w14 f_x_1_w14 c_x_2_w14 f_x_2_w14 c_x_3_w14 f_x_3_w14 c_x_4_w14 f_x_4_w14
       replace x_c := x_c.from_ h_w15
       replace x_p := x_p.from_ h_w15
       replace x_q := x_q.from_ h_w15
       replace x_x := x_x.from_ h_w15
       replace o_p := o_p.below h_w15
       replace o_q := o_q.below h_w15
       replace o_x := o_x.below h_w15
       replace o_l := o_l.below h_w15
       have B_w15 := B_w14.trans (h_w15.mono B_w14.size)
       have z_w15 := h_w15.size
       rw [HA1.out]
       obtain ⟨c_x_0_w15, f_x_0_w15, c_x_1_w15, f_x_1_w15, c_x_2_w15, f_x_2_w15, c_x_3_w15, f_x_3_w15, c_x_4_w15, f_x_4_w15⟩ := x_x.k5
       go_wp2_with fail
       refine (iPropOk_c (p := Q) o_x.rd HV.out.iq.bulk).mono ?_
       rintro e w16 ⟨rfl, h_w16⟩
       clear c_x_0_w15 f_x_0_w15 c_x_1_w15 f_x_1_w15 c_x_2_w15 f_x_2_w15 c_x_3_w15 f_x_3_w15 c_x_4_w15 f_x_4_w15
       replace x_c := x_c.from_ h_w16
       replace x_p := x_p.from_ h_w16
       replace x_q := x_q.from_ h_w16
       replace x_x := x_x.from_ h_w16
       replace o_p := o_p.below h_w16
       replace o_q := o_q.below h_w16
       replace o_x := o_x.below h_w16
       replace o_l := o_l.below h_w16
       have B_w16 := B_w15.trans (h_w16.mono B_w15.size)
       have z_w16 := h_w16.size
       rw [HP1.out]
       go_wp2
       go_roundw
       case rel => exact ⟨k + 1, acc, P, Q, _, _, _, _, _, _, _, _, by omega, by go_num, HV, x_c, x_p, x_q, o_p.less (by simp), o_x.less (by simp), o_l, B_w16, by omega⟩
       case measure => simp [intOf]; omega
    case neg =>
     have g9 : (R2 == 1) = false := by simpa using hod
     clear hod
     by_cases h6 : kk < 6
     case pos =>
      have g6 : decide (kk < 6) = true := decide_eq_true h6
      have g7 : decide (6 ≤ kk) = false := decide_eq_false (by omega)
      by_cases hrd : propReadyB P 3 = true
      case pos =>
       have HR : Hid (propReadyB P 3 = true) := hrd
       clear hrd
       obtain ⟨c_p_0_wr, f_p_0_wr, c_p_1_wr, f_p_1_wr, c_p_2_wr, f_p_2_wr, c_p_3_wr, f_p_3_wr, c_p_4_wr, f_p_4_wr⟩ := x_p.k5
       obtain ⟨w11, e_w11, s_w11, h_w11, x_x⟩ := alloc_step wr 26 [.int .i64 P.Bal, .int .i64 P.Val, .slice AFp P.From.length cFp, .int .i64 P.Best, .slice AGp P.Got.length cGp]
       have s_w11_1 := Nat.le_of_eq s_w11
       have s_w11_2 := Nat.le_of_eq s_w11.symm
       clear s_w11
       replace o_p := o_p.more (Nat.le_refl wr.heap.size)
       replace o_q := o_q.more (Nat.le_refl wr.heap.size)
       replace x_c := x_c.from_ h_w11
       replace x_p := x_p.from_ h_w11
       replace x_q := x_q.from_ h_w11
       replace o_p := o_p.below h_w11
       replace o_q := o_q.below h_w11
       replace o_l := o_l.below h_w11
       have B_w11 := HB.trans (h_w11.mono HB.size)
       have z_w11 := h_w11.size
       have o_x := o_p
       obtain ⟨c_x_0_w11, f_x_0_w11, c_x_1_w11, f_x_1_w11, c_x_2_w11, f_x_2_w11, c_x_3_w11, f_x_3_w11, c_x_4_w11, f_x_4_w11⟩ := x_x.k5
       go_wp2_with fail
       refine (iPropReady_c (p := P) (n := 3) o_x.rd HV.out.ip.bulk (by omega)).mono ?_
       rintro e w12 ⟨rfl, h_w12⟩
       clear c_p_0_wr f_p_0_wr c_p_1_wr f_p_1_wr c_p_2_wr f_p_2_wr c_p_3_wr f_p_3_wr c_p_4_wr f_p_4_wr c_x_0_w11 f_x_0_w11 c_x_1_w11 f_x_1_w11 c_x_2_w11 f_x_2_w11 c_x_3_w11 f_x_3_w11 c_x_4_w11 f_x_4_w11
       replace x_c := x_c.from_ h_w12
       replace x_p := x_p.from_ h_w12
       replace x_q := x_q.from_ h_w12
       replace x_x := x_x.from_ h_w12
       replace o_p := o_p.below h_w12
       replace o_q := o_q.below h_w12
       replace o_x := o_x.below h_w12
       replace o_l := o_l.below h_w12
       have B_w12 := B_w11.trans (h_w12.mono B_w11.size)
       have z_w12 := h_w12.size
       rw [HR.out]
       obtain ⟨c_x_0_w12, f_x_0_w12, c_x_1_w12, f_x_1_w12, c_x_2_w12, f_x_2_w12, c_x_3_w12, f_x_3_w12, c_x_4_w12, f_x_4_w12⟩ := x_x.k5
       obtain ⟨c_p_0_w12, f_p_0_w12, c_p_1_w12, f_p_1_w12, c_p_2_w12, f_p_2_w12, c_p_3_w12, f_p_3_w12, c_p_4_w12, f_p_4_w12⟩ := x_p.k5
       obtain ⟨w13, e_w13, s_w13, h_w13, y_w13⟩ := store_step x_p [.int .i64 P.Bal, .int .i64 P.Val, .slice AFp P.From.length cFp, .int .i64 P.Best, .slice AGp P.Got.length cGp] rfl
       replace e_w13 : (((((w12.setCell ⟨w2b.heap.size, 0, none⟩ (.int .i64 P.Bal)).setCell ⟨w2b.heap.size, 1, none⟩ (.int .i64 P.Val)).setCell ⟨w2b.heap.size, 2, none⟩ (.slice AFp P.From.length cFp)).setCell ⟨w2b.heap.size, 3, none⟩ (.int .i64 P.Best)).setCell ⟨w2b.heap.size, 4, none⟩ (.slice AGp P.Got.length cGp)) = w13 := e_w13
       have s_w13_1 := Nat.le_of_eq s_w13
       have s_w13_2 := Nat.le_of_eq s_w13.symm
       clear s_w13
       replace x_c := x_c.chg h_w13 (by omega)
       replace x_q := x_q.chg h_w13 (by omega)
       replace x_x := x_x.chg h_w13 (by omega)
       replace o_p := o_p.chg h_w13 (by simp)
       replace o_q := o_q.chg h_w13 (by simp)
       replace o_x := o_x.chg h_w13 (by simp)
       replace o_l := o_l.chg h_w13 (by omega)
       have B_w13 := Below.chg_ B_w12 h_w13 (by omega) (by omega)
       have z_w13 := h_w13.size
       replace x_p := y_w13
       clear y_w13
       have HA1 : Hid (accOkB (acc I) = true) := (HV.out.ia I hI).ok
       have HP1 : Hid (propOkB P = true) := HV.out.ip.ok (.inl rfl)
       have c_c_0_w13 := x_c.ac0 hI
       have c_c_1_w13 := x_c.ac1 hI
       have c_c_2_w13 := x_c.ac2 hI
       have f_c_0_w13 := x_c.frozen (I * 3)
       have f_c_1_w13 := x_c.frozen (I * 3 + 1)
       have f_c_2_w13 := x_c.frozen (I * 3 + 2)
       obtain ⟨c_x_0_w13, f_x_0_w13, c_x_1_w13, f_x_1_w13, c_x_2_w13, f_x_2_w13, c_x_3_w13, f_x_3_w13, c_x_4_w13, f_x_4_w13⟩ := x_x.k5
       go_wp2_with fail
       refine (iAccOk_c (a := acc I) (ov_acc (d := acc I) (lo := 0) (hi := 0) (Nat.zero_le _)).rd).mono ?_
       rintro e w14 ⟨rfl, h_w14⟩
       clear c_x_0_w12 f_x_0_w12 c_x_1_w12 f_x_1_w12 c_x_2_w12 f_x_2_w12 c_x_3_w12 f_x_3_w12 c_x_4_w12 f_x_4_w12 c_p_0_w12 f_p_0_w12 c_p_1_w12 f_p_1_w12 c_p_2_w12 f_p_2_w12 c_p_3_w12 f_p_3_w12 c_p_4_w12 f_p_4_w12 c_c_0_w13 c_c_1_w13 c_c_2_w13 f_c_0_w13 f_c_1_w13 f_c_2_w13 c_x_0_w13 f_x_0_w13 c_x_1_w13 f_x_1_w13 c_x_2_w13 f_x_2_w13 c_x_3_w13 f_x_3_w13 c_x_4_w13 f_x_4_w13
       replace x_c := x_c.from_ h_w14
       replace x_p := x_p.from_ h_w14
       replace x_q := x_q.from_ h_w14
       replace x_x := x_x.from_ h_w14
       replace o_p := o_p.below h_w14
       replace o_q := o_q.below h_w14
       replace o_x := o_x.below h_w14
       replace o_l := o_l.below h_w14
       have B_w14 := B_w13.trans (h_w14.mono B_w13.size)
       have z_w14 := h_w14.size
       rw [HA1.out]
       obtain ⟨c_x_0_w14, f_x_0_w14, c_x_1_w14, f_x_1_w14, c_x_2_w14, f_x_2_w14, c_x_3_w14, f_x_3_w14, c_x_4_w14, f_x_4_w14⟩ := x_x.k5
       go_wp2_with fail
       refine (iPropOk_c (p := P) o_x.rd HV.out.ip.bulk).mono ?_
       rintro e w15 ⟨rfl, h_w15⟩
       clear c_x_0_w14 f_x_0_w14 c_x_1_w14 f_x_1_w14 c_x_2_w14 f_x_2_w14 c_x_3_w14 f_x_3_w14 c_x_4_w14 f_x_4_w14
       replace x_c := x_c.from_ h_w15
       replace x_p := x_p.from_ h_w15
       replace x_q := x_q.from_ h_w15
       replace x_x := x_x.from_ h_w15
       replace o_p := o_p.below h_w15
       replace o_q := o_q.below h_w15
       replace o_x := o_x.below h_w15
       replace o_l := o_l.below h_w15
       have B_w15 := B_w14.trans (h_w15.mono B_w14.size)
       have z_w15 := h_w15.size
       rw [HP1.out]
       go_wp2
       go_roundw
       case rel => exact ⟨k + 1, acc, P, Q, _, _, _, _, _, _, _, _, by omega, by go_num, HV, x_c, x_p, x_q, o_x.less (by simp), o_q.less (by simp), o_l, B_w15, by omega⟩
       case measure => simp [intOf]; omega
      case neg =>
       have HR : Hid (propReadyB P 3 = false) := by show _ = _; simpa using hrd
       clear hrd
       obtain ⟨c_p_0_wr, f_p_0_wr, c_p_1_wr, f_p_1_wr, c_p_2_wr, f_p_2_wr, c_p_3_wr, f_p_3_wr, c_p_4_wr, f_p_4_wr⟩ := x_p.k5
       obtain ⟨w11, e_w11, s_w11, h_w11, x_x⟩ := alloc_step wr 26 [.int .i64 P.Bal, .int .i64 P.Val, .slice AFp P.From.length cFp, .int .i64 P.Best, .slice AGp P.Got.length cGp]
       have s_w11_1 := Nat.le_of_eq s_w11
       have s_w11_2 := Nat.le_of_eq s_w11.symm
       clear s_w11
       replace o_p := o_p.more (Nat.le_refl wr.heap.size)
       replace o_q := o_q.more (Nat.le_refl wr.heap.size)
       replace x_c := x_c.from_ h_w11
       replace x_p := x_p.from_ h_w11
       replace x_q := x_q.from_ h_w11
       replace o_p := o_p.below h_w11
       replace o_q := o_q.below h_w11
       replace o_l := o_l.below h_w11
       have B_w11 := HB.trans (h_w11.mono HB.size)
       have z_w11 := h_w11.size
       have o_x := o_p
       obtain ⟨c_x_0_w11, f_x_0_w11, c_x_1_w11, f_x_1_w11, c_x_2_w11, f_x_2_w11, c_x_3_w11, f_x_3_w11, c_x_4_w11, f_x_4_w11⟩ := x_x.k5
       go_wp2_with fail
       refine (iPropReady_c (p := P) (n := 3) o_x.rd HV.out.ip.bulk (by omega)).mono ?_
       rintro e w12 ⟨rfl, h_w12⟩
       clear c_p_0_wr f_p_0_wr c_p_1_wr f_p_1_wr c_p_2_wr f_p_2_wr c_p_3_wr f_p_3_wr c_p_4_wr f_p_4_wr c_x_0_w11 f_x_0_w11 c_x_1_w11 f_x_1_w11 c_x_2_w11 f_x_2_w11 c_x_3_w11 f_x_3_w11 c_x_4_w11 f_x_4_w11
       replace x_c := x_c.from_ h_w12
       replace x_p := x_p.from_ h_w12
       replace x_q := x_q.from_ h_w12
       replace x_x := x_x.from_ h_w12
       replace o_p := o_p.below h_w12
       replace o_q := o_q.below h_w12
       replace o_x := o_x.below h_w12
       replace o_l := o_l.below h_w12
       have B_w12 := B_w11.trans (h_w12.mono B_w11.size)
       have z_w12 := h_w12.size
       rw [HR.out]
       have HBAL : Hid (P.Bal = 5) := HV.out.ip.1
       have hXb : -9223372036854775808 ≤ P.Bal ∧ P.Bal ≤ 9223372036854775807 := by rw [HBAL.out]; omega
       have hXv : -9223372036854775808 ≤ P.Val ∧ P.Val ≤ 9223372036854775807 := by have := HV.out.ip.2.1; omega
       have hAb : -9223372036854775808 ≤ (acc I).Bal ∧ (acc I).Bal ≤ 9223372036854775807 := by have := (HV.out.ia I hI).2.1; omega
       have hAv : -9223372036854775808 ≤ (acc I).Val ∧ (acc I).Val ≤ 9223372036854775807 := by have := (HV.out.ia I hI).2.1; omega
       obtain ⟨D, hD⟩ : ∃ D, accPrep (acc I) P.Bal = D := ⟨_, rfl⟩
       by_cases hgd : accPrepB (acc I) P.Bal = true
       case pos =>
        have HG : Hid (accPrepB (acc I) P.Bal = true) := hgd
        obtain ⟨X2, hX2⟩ : ∃ x, propHear P (I : Int) (acc I).Bal (acc I).Val = x := ⟨_, rfl⟩
        obtain ⟨acc2, hA2⟩ : ∃ x, upd acc I D = x := ⟨_, rfl⟩
        have HV2 : Hid (VoteI acc2 X2 Q) := by
          have h1 := hgd
          rw [HBAL.out] at h1 hD
          have := vote_hearP HV.out hI h1
          rw [hD, hX2, hA2] at this
          exact this
        have HD := Lib.hid hD
        have HX := Lib.hid hX2
        have HA2 := Lib.hid hA2
        clear hD hX2 hA2 hgd
        go_wp2_with fail
        refine wp_region_held (S := fun u => Vr u w.heap.size 33 (accCells acc) ∧ Vr u wr.heap.size 26 [.int .i64 P.Bal, .int .i64 P.Val, .slice AFp P.From.length cFp, .int .i64 P.Best, .slice AGp P.Got.length cGp]) (by kernel_rfl) ?_
        obtain ⟨w13, hwd⟩ : ∃ x, ({ heap := w12.heap, tape := w12.tape, drawn := w12.drawn + 1, os := w12.os, output := w12.output } : World) = x := ⟨_, rfl⟩
        have h_w13 : Below w12.heap.size w12 w13 := by rw [← hwd]; exact (Below.refl w12.heap.size w12).drew
        replace x_c := x_c.from_ h_w13
        replace x_p := x_p.from_ h_w13
        replace x_q := x_q.from_ h_w13
        replace x_x := x_x.from_ h_w13
        replace o_p := o_p.below h_w13
        replace o_q := o_q.below h_w13
        replace o_x := o_x.below h_w13
        replace o_l := o_l.below h_w13
        have B_w13 := B_w12.trans (h_w13.mono B_w12.size)
        have z_w13 := h_w13.size
        rw [hwd]
        clear hwd
        refine takeH (i := 0) (v := ?v53) (d := some 54) rfl rfl (by kernel_rfl) (by kernel_rfl) (by kernel_rfl) (fun _ _ _ h => h) (Or.inl ⟨by rfl, ?y53⟩) ⟨x_c, x_x⟩ ?r53
        case y53 => (intro W hW; go_simp; try (with_reducible rfl))
        simp only [Act.put, List.setIfInBounds_toArray, List.set_cons_zero, List.set_cons_succ]
        refine takeH (i := 1) (v := ?v54) (d := some 55) rfl rfl (by kernel_rfl) (by kernel_rfl) (by kernel_rfl) (fun _ _ _ h => h) (Or.inl ⟨by rfl, ?y54⟩) ⟨x_c, x_x⟩ ?r54
        case y54 => (intro W hW; go_simp; try (with_reducible rfl))
        simp only [Act.put, List.setIfInBounds_toArray, List.set_cons_zero, List.set_cons_succ]
        refine takeH (i := 2) (v := ?v55) (d := some 56) rfl rfl (by kernel_rfl) (by kernel_rfl) (by kernel_rfl) (fun _ _ _ h => h) (Or.inl ⟨by rfl, ?y55⟩) ⟨x_c, x_x⟩ ?r55
        case y55 => (intro W hW; go_simp; try (with_reducible rfl))
        simp only [Act.put, List.setIfInBounds_toArray, List.set_cons_zero, List.set_cons_succ]
        refine takeH (i := 3) (v := ?v56) (d := some 57) rfl rfl (by kernel_rfl) (by kernel_rfl) (by kernel_rfl) (fun _ _ _ h => h) (Or.inl ⟨by rfl, ?y56⟩) ⟨x_c, x_x⟩ ?r56
        case y56 => (intro W hW; have k0 := hW.1.ac0 hI; have k1 := hW.1.ac1 hI; have k2 := hW.1.ac2 hI; go_simp; try (with_reducible rfl))
        simp only [Act.put, List.setIfInBounds_toArray, List.set_cons_zero, List.set_cons_succ]
        refine takeH (i := 4) (v := ?v57) (d := some 58) rfl rfl (by kernel_rfl) (by kernel_rfl) (by kernel_rfl) (fun _ _ _ h => h) (Or.inl ⟨by rfl, ?y57⟩) ⟨x_c, x_x⟩ ?r57
        case y57 => (intro W hW; go_simp; try (with_reducible rfl))
        simp only [Act.put, List.setIfInBounds_toArray, List.set_cons_zero, List.set_cons_succ]
        refine takeH (i := 5) (v := ?v58) (d := some 59) rfl rfl (by kernel_rfl) (by kernel_rfl) (by kernel_rfl) (fun _ _ _ h => h) (Or.inl ⟨by rfl, ?y58⟩) ⟨x_c, x_x⟩ ?r58
        case y58 => (intro W hW; have j0 := hW.2.cell (i := 0) rfl; have j1 := hW.2.cell (i := 1) rfl; have j2 := hW.2.cell (i := 2) rfl; have j3 := hW.2.cell (i := 3) rfl; have j4 := hW.2.cell (i := 4) rfl; go_simp; try (with_reducible rfl))
        simp only [Act.put, List.setIfInBounds_toArray, List.set_cons_zero, List.set_cons_succ]
        refine wpAnyH_ready (rs := [6, 10]) (by kernel_rfl) (by simp) ?_
        refine AllReadyH.cons rfl (fun K hK => ?_) (AllReadyH.cons rfl (fun K hK => ?_) AllReadyH.nil)
        · go_simp
          skip
          refine (iAccPrep_c (a := acc I) (b := P.Bal) (ov_acc (d := acc I) (lo := 0) (hi := 0) (Nat.zero_le _)).rd hXb).mono ?_
          rintro e w14 ⟨v9, rfl, o_a, h_w14⟩
          replace x_c := x_c.from_ h_w14
          replace x_p := x_p.from_ h_w14
          replace x_q := x_q.from_ h_w14
          replace x_x := x_x.from_ h_w14
          replace o_p := o_p.below h_w14
          replace o_q := o_q.below h_w14
          replace o_x := o_x.below h_w14
          replace o_l := o_l.below h_w14
          have B_w14 := B_w13.trans (h_w14.mono B_w13.size)
          have z_w14 := h_w14.size
          rw [HD.out] at o_a
          rw [HG.out]
          obtain rfl := rv_acc o_a.rd
          clear o_a
          go_simp
          refine hK.out _ _ ⟨x_c, x_x⟩ (fun _ => ?_)
          clear hK K
          refine takeH (i := 7) (v := ?v59) (d := some 53) rfl rfl (by kernel_rfl) (by kernel_rfl) (by kernel_rfl) (fun _ _ _ h => h) (Or.inl ⟨by rfl, ?y59⟩) ⟨x_c, x_x⟩ ?r59
          case y59 => (intro W hW; go_simp; try (with_reducible rfl))
          simp only [Act.put, List.setIfInBounds_toArray, List.set_cons_zero, List.set_cons_succ]
          refine takeH (i := 8) (v := ?v60) (d := some 61) rfl rfl (by kernel_rfl) (by kernel_rfl) (by kernel_rfl) (fun _ _ _ h => h) (Or.inl ⟨by rfl, ?y60⟩) ⟨x_c, x_x⟩ ?r60
          case y60 => (intro W hW; go_simp; try (with_reducible rfl))
          simp only [Act.put, List.setIfInBounds_toArray, List.set_cons_zero, List.set_cons_succ]
          refine takeH (i := 9) (v := ?v61) (d := some 62) rfl rfl (by kernel_rfl) (by kernel_rfl) (by kernel_rfl) (fun _ _ _ h => h) (Or.inl ⟨by rfl, ?y61⟩) ⟨x_c, x_x⟩ ?r61
          case y61 => (intro W hW; go_simp; try (with_reducible rfl))
          simp only [Act.put, List.setIfInBounds_toArray, List.set_cons_zero, List.set_cons_succ]
          refine wpAnyH_ready (rs := [10]) (by kernel_rfl) (by simp) ?_
          refine AllReadyH.cons rfl (fun K hK => ?_) AllReadyH.nil
          obtain ⟨w15, e_w15, s_w15, h_w15, x_a⟩ := alloc_step w14 33 [.int .i64 0, .int .i64 0, .int .i64 0]
          have s_w15_1 := Nat.le_of_eq s_w15
          have s_w15_2 := Nat.le_of_eq s_w15.symm
          clear s_w15
          replace o_p := o_p.more (Nat.le_refl w14.heap.size)
          replace o_q := o_q.more (Nat.le_refl w14.heap.size)
          replace o_x := o_x.more (Nat.le_refl w14.heap.size)
          replace x_c := x_c.from_ h_w15
          replace x_p := x_p.from_ h_w15
          replace x_q := x_q.from_ h_w15
          replace x_x := x_x.from_ h_w15
          replace o_p := o_p.below h_w15
          replace o_q := o_q.below h_w15
          replace o_x := o_x.below h_w15
          replace o_l := o_l.below h_w15
          have B_w15 := B_w14.trans (h_w15.mono B_w14.size)
          have z_w15 := h_w15.size
          go_simp
          refine hK.out _ _ ⟨x_c, x_x⟩ (fun _ => ?_)
          clear hK K
          obtain ⟨c_a_0_w15, f_a_0_w15, c_a_1_w15, f_a_1_w15, c_a_2_w15, f_a_2_w15⟩ := x_a.k3
          obtain ⟨w16, e_w16, s_w16, h_w16, y_w16⟩ := store_step x_a [.int .i64 D.Prom, .int .i64 D.Bal, .int .i64 D.Val] rfl
          replace e_w16 : (((w15.setCell ⟨w14.heap.size, 0, none⟩ (.int .i64 D.Prom)).setCell ⟨w14.heap.size, 1, none⟩ (.int .i64 D.Bal)).setCell ⟨w14.heap.size, 2, none⟩ (.int .i64 D.Val)) = w16 := e_w16
          have s_w16_1 := Nat.le_of_eq s_w16
          have s_w16_2 := Nat.le_of_eq s_w16.symm
          clear s_w16
          replace x_c := x_c.chg h_w16 (by omega)
          replace x_p := x_p.chg h_w16 (by omega)
          replace x_q := x_q.chg h_w16 (by omega)
          replace x_x := x_x.chg h_w16 (by omega)
          replace o_p := o_p.chg h_w16 (by simp)
          replace o_q := o_q.chg h_w16 (by simp)
          replace o_x := o_x.chg h_w16 (by simp)
          replace o_l := o_l.chg h_w16 (by omega)
          have B_w16 := Below.chg_ B_w15 h_w16 (by omega) (by omega)
          have z_w16 := h_w16.size
          replace x_a := y_w16
          clear y_w16
          refine wpAnyH_ready (rs := [11]) (by kernel_rfl) (by simp) ?_
          refine AllReadyH.cons rfl (fun K hK => ?_) AllReadyH.nil
          go_simp
          refine hK.out _ _ ⟨x_c, x_x⟩ (fun _ => ?_)
          clear hK K
          clear c_a_0_w15 f_a_0_w15 c_a_1_w15 f_a_1_w15 c_a_2_w15 f_a_2_w15
          refine wpAnyH_ready (rs := [12]) (by kernel_rfl) (by simp) ?_
          refine AllReadyH.cons rfl (fun K hK => ?_) AllReadyH.nil
          go_simp
          refine hK.out _ _ ⟨x_c, x_x⟩ (fun _ => ?_)
          clear hK K
          refine wpAnyH_done (by kernel_rfl) ?_ _
          go_wp2_with fail
          obtain ⟨w17, hwd⟩ : ∃ x, ({ heap := w16.heap, tape := w16.tape, drawn := w16.drawn + 1, os := w16.os, output := w16.output } : World) = x := ⟨_, rfl⟩
          have h_w17 : Below w16.heap.size w16 w17 := by rw [← hwd]; exact (Below.refl w16.heap.size w16).drew
          replace x_c := x_c.from_ h_w17
          replace x_p := x_p.from_ h_w17
          replace x_q := x_q.from_ h_w17
          replace x_x := x_x.from_ h_w17
          replace x_a := x_a.from_ h_w17
          replace o_p := o_p.below h_w17
          replace o_q := o_q.below h_w17
          replace o_x := o_x.below h_w17
          replace o_l := o_l.below h_w17
          have B_w17 := B_w16.trans (h_w17.mono B_w16.size)
          have z_w17 := h_w17.size
          have c_c_0_w17 := x_c.ac0 hI
          have c_c_1_w17 := x_c.ac1 hI
          have c_c_2_w17 := x_c.ac2 hI
          have f_c_0_w17 := x_c.frozen (I * 3)
          have f_c_1_w17 := x_c.frozen (I * 3 + 1)
          have f_c_2_w17 := x_c.frozen (I * 3 + 2)
          obtain ⟨c_x_0_w17, f_x_0_w17, c_x_1_w17, f_x_1_w17, c_x_2_w17, f_x_2_w17, c_x_3_w17, f_x_3_w17, c_x_4_w17, f_x_4_w17⟩ := x_x.k5
          refine wp_region_still_tail 12 (by kernel_rfl) (by kernel_rfl) ?_
          rw [hwd]
          simp only [List.take_succ_cons, List.take_zero, List.drop_succ_cons, List.drop_zero]
          repeat still_step
          refine wpStill_nil ?_
          go_wp2_with fail
          refine (iPropHear_c (p := P) (n := (I : Int)) (b := (acc I).Bal) (u := (acc I).Val) o_x.rd HV.out.ip.bulk (by omega) hAb hAv).mono ?_
          rintro e w18 ⟨un, rfl, o_n, h_w18⟩
          clear c_c_0_w17 c_c_1_w17 c_c_2_w17 f_c_0_w17 f_c_1_w17 f_c_2_w17 c_x_0_w17 f_x_0_w17 c_x_1_w17 f_x_1_w17 c_x_2_w17 f_x_2_w17 c_x_3_w17 f_x_3_w17 c_x_4_w17 f_x_4_w17
          replace x_c := x_c.from_ h_w18
          replace x_p := x_p.from_ h_w18
          replace x_q := x_q.from_ h_w18
          replace x_x := x_x.from_ h_w18
          replace x_a := x_a.from_ h_w18
          replace o_p := o_p.below h_w18
          replace o_q := o_q.below h_w18
          replace o_x := o_x.below h_w18
          replace o_l := o_l.below h_w18
          have B_w18 := B_w17.trans (h_w18.mono B_w17.size)
          have z_w18 := h_w18.size
          rw [HX.out] at o_n
          obtain ⟨AFn, cFn, AGn, cGn, rfl, -⟩ := rv_prop o_n.rd
          replace o_x : OVa propL w18 [w.heap.size, w2b.heap.size, w3b.heap.size, wr.heap.size, w14.heap.size] _ _ := o_n.away (by simp; omega)
          clear o_n
          obtain ⟨c_x_0_w18, f_x_0_w18, c_x_1_w18, f_x_1_w18, c_x_2_w18, f_x_2_w18, c_x_3_w18, f_x_3_w18, c_x_4_w18, f_x_4_w18⟩ := x_x.k5
          obtain ⟨c_a_0_w18, f_a_0_w18, c_a_1_w18, f_a_1_w18, c_a_2_w18, f_a_2_w18⟩ := x_a.k3
          have c_c_0_w18 := x_c.ac0 hI
          have c_c_1_w18 := x_c.ac1 hI
          have c_c_2_w18 := x_c.ac2 hI
          have f_c_0_w18 := x_c.frozen (I * 3)
          have f_c_1_w18 := x_c.frozen (I * 3 + 1)
          have f_c_2_w18 := x_c.frozen (I * 3 + 2)
          obtain ⟨w19, e_w19, s_w19, h_w19, y_w19⟩ := store_step x_x [.int .i64 X2.Bal, .int .i64 X2.Val, .slice AFn X2.From.length cFn, .int .i64 X2.Best, .slice AGn X2.Got.length cGn] rfl
          replace e_w19 : (((((w18.setCell ⟨wr.heap.size, 0, none⟩ (.int .i64 X2.Bal)).setCell ⟨wr.heap.size, 1, none⟩ (.int .i64 X2.Val)).setCell ⟨wr.heap.size, 2, none⟩ (.slice AFn X2.From.length cFn)).setCell ⟨wr.heap.size, 3, none⟩ (.int .i64 X2.Best)).setCell ⟨wr.heap.size, 4, none⟩ (.slice AGn X2.Got.length cGn)) = w19 := e_w19
          have s_w19_1 := Nat.le_of_eq s_w19
          have s_w19_2 := Nat.le_of_eq s_w19.symm
          clear s_w19
          replace x_c := x_c.chg h_w19 (by omega)
          replace x_p := x_p.chg h_w19 (by omega)
          replace x_q := x_q.chg h_w19 (by omega)
          replace x_a := x_a.chg h_w19 (by omega)
          replace o_p := o_p.chg h_w19 (by simp)
          replace o_q := o_q.chg h_w19 (by simp)
          replace o_x := o_x.chg h_w19 (by simp)
          replace o_l := o_l.chg h_w19 (by omega)
          have B_w19 := Below.chg_ B_w18 h_w19 (by omega) (by omega)
          have z_w19 := h_w19.size
          replace x_x := y_w19
          clear y_w19
          obtain ⟨c_x_0_w19, f_x_0_w19, c_x_1_w19, f_x_1_w19, c_x_2_w19, f_x_2_w19, c_x_3_w19, f_x_3_w19, c_x_4_w19, f_x_4_w19⟩ := x_x.k5
          obtain ⟨c_a_0_w19, f_a_0_w19, c_a_1_w19, f_a_1_w19, c_a_2_w19, f_a_2_w19⟩ := x_a.k3
          have c_c_0_w19 := x_c.ac0 hI
          have c_c_1_w19 := x_c.ac1 hI
          have c_c_2_w19 := x_c.ac2 hI
          have f_c_0_w19 := x_c.frozen (I * 3)
          have f_c_1_w19 := x_c.frozen (I * 3 + 1)
          have f_c_2_w19 := x_c.frozen (I * 3 + 2)
          obtain ⟨w20, e_w20, s_w20, h_w20, y_w20⟩ := acc_store x_c hI D
          replace x_p := x_p.chg h_w20 (by omega)
          replace x_q := x_q.chg h_w20 (by omega)
          replace x_x := x_x.chg h_w20 (by omega)
          replace x_a := x_a.chg h_w20 (by omega)
          replace o_p := o_p.chg h_w20 (by simp)
          replace o_q := o_q.chg h_w20 (by simp)
          replace o_x := o_x.chg h_w20 (by simp)
          replace o_l := o_l.chg h_w20 (by omega)
          have B_w20 := Below.chg_ B_w19 h_w20 (by omega) (by omega)
          have z_w20 := h_w20.size
          rw [HA2.out] at y_w20
          replace x_c := y_w20
          clear y_w20
          obtain ⟨c_x_0_w20, f_x_0_w20, c_x_1_w20, f_x_1_w20, c_x_2_w20, f_x_2_w20, c_x_3_w20, f_x_3_w20, c_x_4_w20, f_x_4_w20⟩ := x_x.k5
          obtain ⟨c_p_0_w20, f_p_0_w20, c_p_1_w20, f_p_1_w20, c_p_2_w20, f_p_2_w20, c_p_3_w20, f_p_3_w20, c_p_4_w20, f_p_4_w20⟩ := x_p.k5
          obtain ⟨w21, e_w21, s_w21, h_w21, y_w21⟩ := store_step x_p [.int .i64 X2.Bal, .int .i64 X2.Val, .slice AFn X2.From.length cFn, .int .i64 X2.Best, .slice AGn X2.Got.length cGn] rfl
          replace e_w21 : (((((w20.setCell ⟨w2b.heap.size, 0, none⟩ (.int .i64 X2.Bal)).setCell ⟨w2b.heap.size, 1, none⟩ (.int .i64 X2.Val)).setCell ⟨w2b.heap.size, 2, none⟩ (.slice AFn X2.From.length cFn)).setCell ⟨w2b.heap.size, 3, none⟩ (.int .i64 X2.Best)).setCell ⟨w2b.heap.size, 4, none⟩ (.slice AGn X2.Got.length cGn)) = w21 := e_w21
          have s_w21_1 := Nat.le_of_eq s_w21
          have s_w21_2 := Nat.le_of_eq s_w21.symm
          clear s_w21
          replace x_c := x_c.chg h_w21 (by omega)
          replace x_q := x_q.chg h_w21 (by omega)
          replace x_x := x_x.chg h_w21 (by omega)
          replace x_a := x_a.chg h_w21 (by omega)
          replace o_p := o_p.chg h_w21 (by simp)
          replace o_q := o_q.chg h_w21 (by simp)
          replace o_x := o_x.chg h_w21 (by simp)
          replace o_l := o_l.chg h_w21 (by omega)
          have B_w21 := Below.chg_ B_w20 h_w21 (by omega) (by omega)
          have z_w21 := h_w21.size
          replace x_p := y_w21
          clear y_w21
          have HA1 : Hid (accOkB (acc2 I) = true) := (HV2.out.ia I hI).ok
          have HP1 : Hid (propOkB X2 = true) := HV2.out.ip.ok (.inl rfl)
          have c_c_0_w21 := x_c.ac0 hI
          have c_c_1_w21 := x_c.ac1 hI
          have c_c_2_w21 := x_c.ac2 hI
          have f_c_0_w21 := x_c.frozen (I * 3)
          have f_c_1_w21 := x_c.frozen (I * 3 + 1)
          have f_c_2_w21 := x_c.frozen (I * 3 + 2)
          obtain ⟨c_x_0_w21, f_x_0_w21, c_x_1_w21, f_x_1_w21, c_x_2_w21, f_x_2_w21, c_x_3_w21, f_x_3_w21, c_x_4_w21, f_x_4_w21⟩ := x_x.k5
          go_wp2_with fail
          refine (iAccOk_c (a := acc2 I) (ov_acc (d := acc2 I) (lo := 0) (hi := 0) (Nat.zero_le _)).rd).mono ?_
          rintro e w22 ⟨rfl, h_w22⟩
          clear c_x_0_w18 f_x_0_w18 c_x_1_w18 f_x_1_w18 c_x_2_w18 f_x_2_w18 c_x_3_w18 f_x_3_w18 c_x_4_w18 f_x_4_w18 c_a_0_w18 f_a_0_w18 c_a_1_w18 f_a_1_w18 c_a_2_w18 f_a_2_w18 c_c_0_w18 c_c_1_w18 c_c_2_w18 f_c_0_w18 f_c_1_w18 f_c_2_w18 c_x_0_w19 f_x_0_w19 c_x_1_w19 f_x_1_w19 c_x_2_w19 f_x_2_w19 c_x_3_w19 f_x_3_w19 c_x_4_w19 f_x_4_w19 c_a_0_w19 f_a_0_w19 c_a_1_w19 f_a_1_w19 c_a_2_w19 f_a_2_w19 c_c_0_w19 c_c_1_w19 c_c_2_w19 f_c_0_w19 f_c_1_w19 f_c_2_w19 c_x_0_w20 f_x_0_w20 c_x_1_w20 f_x_1_w20 c_x_2_w20 f_x_2_w20 c_x_3_w20 f_x_3_w20 c_x_4_w20 f_x_4_w20 c_p_0_w20 f_p_0_w20 c_p_1_w20 f_p_1_w20 c_p_2_w20 f_p_2_w20 c_p_3_w20 f_p_3_w20 c_p_4_w20 f_p_4_w20 c_c_0_w21 c_c_1_w21 c_c_2_w21 f_c_0_w21 f_c_1_w21 f_c_2_w21 c_x_0_w21 f_x_0_w21 c_x_1_w21 f_x_1_w21 c_x_2_w21 f_x_2_w21 c_x_3_w21 f_x_3_w21 c_x_4_w21 f_x_4_w21
          replace x_c := x_c.from_ h_w22
          replace x_p := x_p.from_ h_w22
          replace x_q := x_q.from_ h_w22
          replace x_x := x_x.from_ h_w22
          replace x_a := x_a.from_ h_w22
          replace o_p := o_p.below h_w22
          replace o_q := o_q.below h_w22
          replace o_x := o_x.below h_w22
          replace o_l := o_l.below h_w22
          have B_w22 := B_w21.trans (h_w22.mono B_w21.size)
          have z_w22 := h_w22.size
          rw [HA1.out]
          obtain ⟨c_x_0_w22, f_x_0_w22, c_x_1_w22, f_x_1_w22, c_x_2_w22, f_x_2_w22, c_x_3_w22, f_x_3_w22, c_x_4_w22, f_x_4_w22⟩ := x_x.k5
          go_wp2_with fail
          refine (iPropOk_c (p := X2) o_x.rd HV2.out.ip.bulk).mono ?_
          rintro e w23 ⟨rfl, h_w23⟩
          clear c_x_0_w22 f_x_0_w22 c_x_1_w22 f_x_1_w22 c_x_2_w22 f_x_2_w22 c_x_3_w22 f_x_3_w22 c_x_4_w22 f_x_4_w22
          replace x_c := x_c.from_ h_w23
          replace x_p := x_p.from_ h_w23
          replace x_q := x_q.from_ h_w23
          replace x_x := x_x.from_ h_w23
          replace x_a := x_a.from_ h_w23
          replace o_p := o_p.below h_w23
          replace o_q := o_q.below h_w23
          replace o_x := o_x.below h_w23
          replace o_l := o_l.below h_w23
          have B_w23 := B_w22.trans (h_w23.mono B_w22.size)
          have z_w23 := h_w23.size
          rw [HP1.out]
          go_wp2
          go_roundw
          case rel => exact ⟨k + 1, acc2, X2, Q, _, _, _, _, _, _, _, _, by omega, by go_num, HV2, x_c, x_p, x_q, o_x.less (by simp), o_q.less (by simp), o_l, B_w23, by omega⟩
          case measure => simp [intOf]; omega
        · obtain ⟨w14, e_w14, s_w14, h_w14, x_a⟩ := alloc_step w13 33 [.int .i64 0, .int .i64 0, .int .i64 0]
          have s_w14_1 := Nat.le_of_eq s_w14
          have s_w14_2 := Nat.le_of_eq s_w14.symm
          clear s_w14
          replace o_p := o_p.more (Nat.le_refl w13.heap.size)
          replace o_q := o_q.more (Nat.le_refl w13.heap.size)
          replace o_x := o_x.more (Nat.le_refl w13.heap.size)
          replace x_c := x_c.from_ h_w14
          replace x_p := x_p.from_ h_w14
          replace x_q := x_q.from_ h_w14
          replace x_x := x_x.from_ h_w14
          replace o_p := o_p.below h_w14
          replace o_q := o_q.below h_w14
          replace o_x := o_x.below h_w14
          replace o_l := o_l.below h_w14
          have B_w14 := B_w13.trans (h_w14.mono B_w13.size)
          have z_w14 := h_w14.size
          go_simp
          refine hK.out _ _ ⟨x_c, x_x⟩ (fun _ => ?_)
          clear hK K
          refine wpAnyH_ready (rs := [6]) (by kernel_rfl) (by simp) ?_
          refine AllReadyH.cons rfl (fun K hK => ?_) AllReadyH.nil
          go_simp
          skip
          refine (iAccPrep_c (a := acc I) (b := P.Bal) (ov_acc (d := acc I) (lo := 0) (hi := 0) (Nat.zero_le _)).rd hXb).mono ?_
          rintro e w15 ⟨v9, rfl, o_a, h_w15⟩
          replace x_c := x_c.from_ h_w15
          replace x_p := x_p.from_ h_w15
          replace x_q := x_q.from_ h_w15
          replace x_x := x_x.from_ h_w15
          replace x_a := x_a.from_ h_w15
          replace o_p := o_p.below h_w15
          replace o_q := o_q.below h_w15
          replace o_x := o_x.below h_w15
          replace o_l := o_l.below h_w15
          have B_w15 := B_w14.trans (h_w15.mono B_w14.size)
          have z_w15 := h_w15.size
          rw [HD.out] at o_a
          rw [HG.out]
          obtain rfl := rv_acc o_a.rd
          clear o_a
          go_simp
          refine hK.out _ _ ⟨x_c, x_x⟩ (fun _ => ?_)
          clear hK K
          refine takeH (i := 7) (v := ?v62) (d := some 53) rfl rfl (by kernel_rfl) (by kernel_rfl) (by kernel_rfl) (fun _ _ _ h => h) (Or.inl ⟨by rfl, ?y62⟩) ⟨x_c, x_x⟩ ?r62
          case y62 => (intro W hW; go_simp; try (with_reducible rfl))
          simp only [Act.put, List.setIfInBounds_toArray, List.set_cons_zero, List.set_cons_succ]
          refine takeH (i := 8) (v := ?v63) (d := some 61) rfl rfl (by kernel_rfl) (by kernel_rfl) (by kernel_rfl) (fun _ _ _ h => h) (Or.inl ⟨by rfl, ?y63⟩) ⟨x_c, x_x⟩ ?r63
          case y63 => (intro W hW; go_simp; try (with_reducible rfl))
          simp only [Act.put, List.setIfInBounds_toArray, List.set_cons_zero, List.set_cons_succ]
          refine takeH (i := 9) (v := ?v64) (d := some 62) rfl rfl (by kernel_rfl) (by kernel_rfl) (by kernel_rfl) (fun _ _ _ h => h) (Or.inl ⟨by rfl, ?y64⟩) ⟨x_c, x_x⟩ ?r64
          case y64 => (intro W hW; go_simp; try (with_reducible rfl))
          simp only [Act.put, List.setIfInBounds_toArray, List.set_cons_zero, List.set_cons_succ]
          obtain ⟨c_a_0_w15, f_a_0_w15, c_a_1_w15, f_a_1_w15, c_a_2_w15, f_a_2_w15⟩ := x_a.k3
          obtain ⟨w16, e_w16, s_w16, h_w16, y_w16⟩ := store_step x_a [.int .i64 D.Prom, .int .i64 D.Bal, .int .i64 D.Val] rfl
          replace e_w16 : (((w15.setCell ⟨w13.heap.size, 0, none⟩ (.int .i64 D.Prom)).setCell ⟨w13.heap.size, 1, none⟩ (.int .i64 D.Bal)).setCell ⟨w13.heap.size, 2, none⟩ (.int .i64 D.Val)) = w16 := e_w16
          have s_w16_1 := Nat.le_of_eq s_w16
          have s_w16_2 := Nat.le_of_eq s_w16.symm
          clear s_w16
          replace x_c := x_c.chg h_w16 (by omega)
          replace x_p := x_p.chg h_w16 (by omega)
          replace x_q := x_q.chg h_w16 (by omega)
          replace x_x := x_x.chg h_w16 (by omega)
          replace o_p := o_p.chg h_w16 (by simp)
          replace o_q := o_q.chg h_w16 (by simp)
          replace o_x := o_x.chg h_w16 (by simp)
          replace o_l := o_l.chg h_w16 (by omega)
          have B_w16 := Below.chg_ B_w15 h_w16 (by omega) (by omega)
          have z_w16 := h_w16.size
          replace x_a := y_w16
          clear y_w16
          refine wpAnyH_ready (rs := [11]) (by kernel_rfl) (by simp) ?_
          refine AllReadyH.cons rfl (fun K hK => ?_) AllReadyH.nil
          go_simp
          refine hK.out _ _ ⟨x_c, x_x⟩ (fun _ => ?_)
          clear hK K
          clear c_a_0_w15 f_a_0_w15 c_a_1_w15 f_a_1_w15 c_a_2_w15 f_a_2_w15
          refine wpAnyH_ready (rs := [12]) (by kernel_rfl) (by simp) ?_
          refine AllReadyH.cons rfl (fun K hK => ?_) AllReadyH.nil
          go_simp
          refine hK.out _ _ ⟨x_c, x_x⟩ (fun _ => ?_)
          clear hK K
          refine wpAnyH_done (by kernel_rfl) ?_ _
          go_wp2_with fail
          obtain ⟨w17, hwd⟩ : ∃ x, ({ heap := w16.heap, tape := w16.tape, drawn := w16.drawn + 1, os := w16.os, output := w16.output } : World) = x := ⟨_, rfl⟩
          have h_w17 : Below w16.heap.size w16 w17 := by rw [← hwd]; exact (Below.refl w16.heap.size w16).drew
          replace x_c := x_c.from_ h_w17
          replace x_p := x_p.from_ h_w17
          replace x_q := x_q.from_ h_w17
          replace x_x := x_x.from_ h_w17
          replace x_a := x_a.from_ h_w17
          replace o_p := o_p.below h_w17
          replace o_q := o_q.below h_w17
          replace o_x := o_x.below h_w17
          replace o_l := o_l.below h_w17
          have B_w17 := B_w16.trans (h_w17.mono B_w16.size)
          have z_w17 := h_w17.size
          have c_c_0_w17 := x_c.ac0 hI
          have c_c_1_w17 := x_c.ac1 hI
          have c_c_2_w17 := x_c.ac2 hI
          have f_c_0_w17 := x_c.frozen (I * 3)
          have f_c_1_w17 := x_c.frozen (I * 3 + 1)
          have f_c_2_w17 := x_c.frozen (I * 3 + 2)
          obtain ⟨c_x_0_w17, f_x_0_w17, c_x_1_w17, f_x_1_w17, c_x_2_w17, f_x_2_w17, c_x_3_w17, f_x_3_w17, c_x_4_w17, f_x_4_w17⟩ := x_x.k5
          refine wp_region_still_tail 12 (by kernel_rfl) (by kernel_rfl) ?_
          rw [hwd]
          simp only [List.take_succ_cons, List.take_zero, List.drop_succ_cons, List.drop_zero]
          repeat still_step
          refine wpStill_nil ?_
          go_wp2_with fail
          refine (iPropHear_c (p := P) (n := (I : Int)) (b := (acc I).Bal) (u := (acc I).Val) o_x.rd HV.out.ip.bulk (by omega) hAb hAv).mono ?_
          rintro e w18 ⟨un, rfl, o_n, h_w18⟩
          clear c_c_0_w17 c_c_1_w17 c_c_2_w17 f_c_0_w17 f_c_1_w17 f_c_2_w17 c_x_0_w17 f_x_0_w17 c_x_1_w17 f_x_1_w17 c_x_2_w17 f_x_2_w17 c_x_3_w17 f_x_3_w17 c_x_4_w17 f_x_4_w17
          replace x_c := x_c.from_ h_w18
          replace x_p := x_p.from_ h_w18
          replace x_q := x_q.from_ h_w18
          replace x_x := x_x.from_ h_w18
          replace x_a := x_a.from_ h_w18
          replace o_p := o_p.below h_w18
          replace o_q := o_q.below h_w18
          replace o_x := o_x.below h_w18
          replace o_l := o_l.below h_w18
          have B_w18 := B_w17.trans (h_w18.mono B_w17.size)
          have z_w18 := h_w18.size
          rw [HX.out] at o_n
          obtain ⟨AFn, cFn, AGn, cGn, rfl, -⟩ := rv_prop o_n.rd
          replace o_x : OVa propL w18 [w.heap.size, w2b.heap.size, w3b.heap.size, wr.heap.size, w13.heap.size] _ _ := o_n.away (by simp; omega)
          clear o_n
          obtain ⟨c_x_0_w18, f_x_0_w18, c_x_1_w18, f_x_1_w18, c_x_2_w18, f_x_2_w18, c_x_3_w18, f_x_3_w18, c_x_4_w18, f_x_4_w18⟩ := x_x.k5
          obtain ⟨c_a_0_w18, f_a_0_w18, c_a_1_w18, f_a_1_w18, c_a_2_w18, f_a_2_w18⟩ := x_a.k3
          have c_c_0_w18 := x_c.ac0 hI
          have c_c_1_w18 := x_c.ac1 hI
          have c_c_2_w18 := x_c.ac2 hI
          have f_c_0_w18 := x_c.frozen (I * 3)
          have f_c_1_w18 := x_c.frozen (I * 3 + 1)
          have f_c_2_w18 := x_c.frozen (I * 3 + 2)
          obtain ⟨w19, e_w19, s_w19, h_w19, y_w19⟩ := store_step x_x [.int .i64 X2.Bal, .int .i64 X2.Val, .slice AFn X2.From.length cFn, .int .i64 X2.Best, .slice AGn X2.Got.length cGn] rfl
          replace e_w19 : (((((w18.setCell ⟨wr.heap.size, 0, none⟩ (.int .i64 X2.Bal)).setCell ⟨wr.heap.size, 1, none⟩ (.int .i64 X2.Val)).setCell ⟨wr.heap.size, 2, none⟩ (.slice AFn X2.From.length cFn)).setCell ⟨wr.heap.size, 3, none⟩ (.int .i64 X2.Best)).setCell ⟨wr.heap.size, 4, none⟩ (.slice AGn X2.Got.length cGn)) = w19 := e_w19
          have s_w19_1 := Nat.le_of_eq s_w19
          have s_w19_2 := Nat.le_of_eq s_w19.symm
          clear s_w19
          replace x_c := x_c.chg h_w19 (by omega)
          replace x_p := x_p.chg h_w19 (by omega)
          replace x_q := x_q.chg h_w19 (by omega)
          replace x_a := x_a.chg h_w19 (by omega)
          replace o_p := o_p.chg h_w19 (by simp)
          replace o_q := o_q.chg h_w19 (by simp)
          replace o_x := o_x.chg h_w19 (by simp)
          replace o_l := o_l.chg h_w19 (by omega)
          have B_w19 := Below.chg_ B_w18 h_w19 (by omega) (by omega)
          have z_w19 := h_w19.size
          replace x_x := y_w19
          clear y_w19
          obtain ⟨c_x_0_w19, f_x_0_w19, c_x_1_w19, f_x_1_w19, c_x_2_w19, f_x_2_w19, c_x_3_w19, f_x_3_w19, c_x_4_w19, f_x_4_w19⟩ := x_x.k5
          obtain ⟨c_a_0_w19, f_a_0_w19, c_a_1_w19, f_a_1_w19, c_a_2_w19, f_a_2_w19⟩ := x_a.k3
          have c_c_0_w19 := x_c.ac0 hI
          have c_c_1_w19 := x_c.ac1 hI
          have c_c_2_w19 := x_c.ac2 hI
          have f_c_0_w19 := x_c.frozen (I * 3)
          have f_c_1_w19 := x_c.frozen (I * 3 + 1)
          have f_c_2_w19 := x_c.frozen (I * 3 + 2)
          obtain ⟨w20, e_w20, s_w20, h_w20, y_w20⟩ := acc_store x_c hI D
          replace x_p := x_p.chg h_w20 (by omega)
          replace x_q := x_q.chg h_w20 (by omega)
          replace x_x := x_x.chg h_w20 (by omega)
          replace x_a := x_a.chg h_w20 (by omega)
          replace o_p := o_p.chg h_w20 (by simp)
          replace o_q := o_q.chg h_w20 (by simp)
          replace o_x := o_x.chg h_w20 (by simp)
          replace o_l := o_l.chg h_w20 (by omega)
          have B_w20 := Below.chg_ B_w19 h_w20 (by omega) (by omega)
          have z_w20 := h_w20.size
          rw [HA2.out] at y_w20
          replace x_c := y_w20
          clear y_w20
          obtain ⟨c_x_0_w20, f_x_0_w20, c_x_1_w20, f_x_1_w20, c_x_2_w20, f_x_2_w20, c_x_3_w20, f_x_3_w20, c_x_4_w20, f_x_4_w20⟩ := x_x.k5
          obtain ⟨c_p_0_w20, f_p_0_w20, c_p_1_w20, f_p_1_w20, c_p_2_w20, f_p_2_w20, c_p_3_w20, f_p_3_w20, c_p_4_w20, f_p_4_w20⟩ := x_p.k5
          obtain ⟨w21, e_w21, s_w21, h_w21, y_w21⟩ := store_step x_p [.int .i64 X2.Bal, .int .i64 X2.Val, .slice AFn X2.From.length cFn, .int .i64 X2.Best, .slice AGn X2.Got.length cGn] rfl
          replace e_w21 : (((((w20.setCell ⟨w2b.heap.size, 0, none⟩ (.int .i64 X2.Bal)).setCell ⟨w2b.heap.size, 1, none⟩ (.int .i64 X2.Val)).setCell ⟨w2b.heap.size, 2, none⟩ (.slice AFn X2.From.length cFn)).setCell ⟨w2b.heap.size, 3, none⟩ (.int .i64 X2.Best)).setCell ⟨w2b.heap.size, 4, none⟩ (.slice AGn X2.Got.length cGn)) = w21 := e_w21
          have s_w21_1 := Nat.le_of_eq s_w21
          have s_w21_2 := Nat.le_of_eq s_w21.symm
          clear s_w21
          replace x_c := x_c.chg h_w21 (by omega)
          replace x_q := x_q.chg h_w21 (by omega)
          replace x_x := x_x.chg h_w21 (by omega)
          replace x_a := x_a.chg h_w21 (by omega)
          replace o_p := o_p.chg h_w21 (by simp)
          replace o_q := o_q.chg h_w21 (by simp)
          replace o_x := o_x.chg h_w21 (by simp)
          replace o_l := o_l.chg h_w21 (by omega)
          have B_w21 := Below.chg_ B_w20 h_w21 (by omega) (by omega)
          have z_w21 := h_w21.size
          replace x_p := y_w21
          clear y_w21
          have HA1 : Hid (accOkB (acc2 I) = true) := (HV2.out.ia I hI).ok
          have HP1 : Hid (propOkB X2 = true) := HV2.out.ip.ok (.inl rfl)
          have c_c_0_w21 := x_c.ac0 hI
          have c_c_1_w21 := x_c.ac1 hI
          have c_c_2_w21 := x_c.ac2 hI
          have f_c_0_w21 := x_c.frozen (I * 3)
          have f_c_1_w21 := x_c.frozen (I * 3 + 1)
          have f_c_2_w21 := x_c.frozen (I * 3 + 2)
          obtain ⟨c_x_0_w21, f_x_0_w21, c_x_1_w21, f_x_1_w21, c_x_2_w21, f_x_2_w21, c_x_3_w21, f_x_3_w21, c_x_4_w21, f_x_4_w21⟩ := x_x.k5
          go_wp2_with fail
          refine (iAccOk_c (a := acc2 I) (ov_acc (d := acc2 I) (lo := 0) (hi := 0) (Nat.zero_le _)).rd).mono ?_
          rintro e w22 ⟨rfl, h_w22⟩
          clear c_x_0_w18 f_x_0_w18 c_x_1_w18 f_x_1_w18 c_x_2_w18 f_x_2_w18 c_x_3_w18 f_x_3_w18 c_x_4_w18 f_x_4_w18 c_a_0_w18 f_a_0_w18 c_a_1_w18 f_a_1_w18 c_a_2_w18 f_a_2_w18 c_c_0_w18 c_c_1_w18 c_c_2_w18 f_c_0_w18 f_c_1_w18 f_c_2_w18 c_x_0_w19 f_x_0_w19 c_x_1_w19 f_x_1_w19 c_x_2_w19 f_x_2_w19 c_x_3_w19 f_x_3_w19 c_x_4_w19 f_x_4_w19 c_a_0_w19 f_a_0_w19 c_a_1_w19 f_a_1_w19 c_a_2_w19 f_a_2_w19 c_c_0_w19 c_c_1_w19 c_c_2_w19 f_c_0_w19 f_c_1_w19 f_c_2_w19 c_x_0_w20 f_x_0_w20 c_x_1_w20 f_x_1_w20 c_x_2_w20 f_x_2_w20 c_x_3_w20 f_x_3_w20 c_x_4_w20 f_x_4_w20 c_p_0_w20 f_p_0_w20 c_p_1_w20 f_p_1_w20 c_p_2_w20 f_p_2_w20 c_p_3_w20 f_p_3_w20 c_p_4_w20 f_p_4_w20 c_c_0_w21 c_c_1_w21 c_c_2_w21 f_c_0_w21 f_c_1_w21 f_c_2_w21 c_x_0_w21 f_x_0_w21 c_x_1_w21 f_x_1_w21 c_x_2_w21 f_x_2_w21 c_x_3_w21 f_x_3_w21 c_x_4_w21 f_x_4_w21
          replace x_c := x_c.from_ h_w22
          replace x_p := x_p.from_ h_w22
          replace x_q := x_q.from_ h_w22
          replace x_x := x_x.from_ h_w22
          replace x_a := x_a.from_ h_w22
          replace o_p := o_p.below h_w22
          replace o_q := o_q.below h_w22
          replace o_x := o_x.below h_w22
          replace o_l := o_l.below h_w22
          have B_w22 := B_w21.trans (h_w22.mono B_w21.size)
          have z_w22 := h_w22.size
          rw [HA1.out]
          obtain ⟨c_x_0_w22, f_x_0_w22, c_x_1_w22, f_x_1_w22, c_x_2_w22, f_x_2_w22, c_x_3_w22, f_x_3_w22, c_x_4_w22, f_x_4_w22⟩ := x_x.k5
          go_wp2_with fail
          refine (iPropOk_c (p := X2) o_x.rd HV2.out.ip.bulk).mono ?_
          rintro e w23 ⟨rfl, h_w23⟩
          clear c_x_0_w22 f_x_0_w22 c_x_1_w22 f_x_1_w22 c_x_2_w22 f_x_2_w22 c_x_3_w22 f_x_3_w22 c_x_4_w22 f_x_4_w22
          replace x_c := x_c.from_ h_w23
          replace x_p := x_p.from_ h_w23
          replace x_q := x_q.from_ h_w23
          replace x_x := x_x.from_ h_w23
          replace x_a := x_a.from_ h_w23
          replace o_p := o_p.below h_w23
          replace o_q := o_q.below h_w23
          replace o_x := o_x.below h_w23
          replace o_l := o_l.below h_w23
          have B_w23 := B_w22.trans (h_w23.mono B_w22.size)
          have z_w23 := h_w23.size
          rw [HP1.out]
          go_wp2
          go_roundw
          case rel => exact ⟨k + 1, acc2, X2, Q, _, _, _, _, _, _, _, _, by omega, by go_num, HV2, x_c, x_p, x_q, o_x.less (by simp), o_q.less (by simp), o_l, B_w23, by omega⟩
          case measure => simp [intOf]; omega
       case neg =>
        have HG : Hid (accPrepB (acc I) P.Bal = false) := by show _ = _; simpa using hgd
        have HD := Lib.hid hD
        clear hD hgd
        go_wp2_with fail
        refine wp_region_held (S := fun u => Vr u w.heap.size 33 (accCells acc) ∧ Vr u wr.heap.size 26 [.int .i64 P.Bal, .int .i64 P.Val, .slice AFp P.From.length cFp, .int .i64 P.Best, .slice AGp P.Got.length cGp]) (by kernel_rfl) ?_
        obtain ⟨w13, hwd⟩ : ∃ x, ({ heap := w12.heap, tape := w12.tape, drawn := w12.drawn + 1, os := w12.os, output := w12.output } : World) = x := ⟨_, rfl⟩
        have h_w13 : Below w12.heap.size w12 w13 := by rw [← hwd]; exact (Below.refl w12.heap.size w12).drew
        replace x_c := x_c.from_ h_w13
        replace x_p := x_p.from_ h_w13
        replace x_q := x_q.from_ h_w13
        replace x_x := x_x.from_ h_w13
        replace o_p := o_p.below h_w13
        replace o_q := o_q.below h_w13
        replace o_x := o_x.below h_w13
        replace o_l := o_l.below h_w13
        have B_w13 := B_w12.trans (h_w13.mono B_w12.size)
        have z_w13 := h_w13.size
        rw [hwd]
        clear hwd
        refine takeH (i := 0) (v := ?v65) (d := some 54) rfl rfl (by kernel_rfl) (by kernel_rfl) (by kernel_rfl) (fun _ _ _ h => h) (Or.inl ⟨by rfl, ?y65⟩) ⟨x_c, x_x⟩ ?r65
        case y65 => (intro W hW; go_simp; try (with_reducible rfl))
        simp only [Act.put, List.setIfInBounds_toArray, List.set_cons_zero, List.set_cons_succ]
        refine takeH (i := 1) (v := ?v66) (d := some 55) rfl rfl (by kernel_rfl) (by kernel_rfl) (by kernel_rfl) (fun _ _ _ h => h) (Or.inl ⟨by rfl, ?y66⟩) ⟨x_c, x_x⟩ ?r66
        case y66 => (intro W hW; go_simp; try (with_reducible rfl))
        simp only [Act.put, List.setIfInBounds_toArray, List.set_cons_zero, List.set_cons_succ]
        refine takeH (i := 2) (v := ?v67) (d := some 56) rfl rfl (by kernel_rfl) (by kernel_rfl) (by kernel_rfl) (fun _ _ _ h => h) (Or.inl ⟨by rfl, ?y67⟩) ⟨x_c, x_x⟩ ?r67
        case y67 => (intro W hW; go_simp; try (with_reducible rfl))
        simp only [Act.put, List.setIfInBounds_toArray, List.set_cons_zero, List.set_cons_succ]
        refine takeH (i := 3) (v := ?v68) (d := some 57) rfl rfl (by kernel_rfl) (by kernel_rfl) (by kernel_rfl) (fun _ _ _ h => h) (Or.inl ⟨by rfl, ?y68⟩) ⟨x_c, x_x⟩ ?r68
        case y68 => (intro W hW; have k0 := hW.1.ac0 hI; have k1 := hW.1.ac1 hI; have k2 := hW.1.ac2 hI; go_simp; try (with_reducible rfl))
        simp only [Act.put, List.setIfInBounds_toArray, List.set_cons_zero, List.set_cons_succ]
        refine takeH (i := 4) (v := ?v69) (d := some 58) rfl rfl (by kernel_rfl) (by kernel_rfl) (by kernel_rfl) (fun _ _ _ h => h) (Or.inl ⟨by rfl, ?y69⟩) ⟨x_c, x_x⟩ ?r69
        case y69 => (intro W hW; go_simp; try (with_reducible rfl))
        simp only [Act.put, List.setIfInBounds_toArray, List.set_cons_zero, List.set_cons_succ]
        refine takeH (i := 5) (v := ?v70) (d := some 59) rfl rfl (by kernel_rfl) (by kernel_rfl) (by kernel_rfl) (fun _ _ _ h => h) (Or.inl ⟨by rfl, ?y70⟩) ⟨x_c, x_x⟩ ?r70
        case y70 => (intro W hW; have j0 := hW.2.cell (i := 0) rfl; have j1 := hW.2.cell (i := 1) rfl; have j2 := hW.2.cell (i := 2) rfl; have j3 := hW.2.cell (i := 3) rfl; have j4 := hW.2.cell (i := 4) rfl; go_simp; try (with_reducible rfl))
        simp only [Act.put, List.setIfInBounds_toArray, List.set_cons_zero, List.set_cons_succ]
        refine wpAnyH_ready (rs := [6, 10]) (by kernel_rfl) (by simp) ?_
        refine AllReadyH.cons rfl (fun K hK => ?_) (AllReadyH.cons rfl (fun K hK => ?_) AllReadyH.nil)
        · go_simp
          skip
          refine (iAccPrep_c (a := acc I) (b := P.Bal) (ov_acc (d := acc I) (lo := 0) (hi := 0) (Nat.zero_le _)).rd hXb).mono ?_
          rintro e w14 ⟨v9, rfl, o_a, h_w14⟩
          replace x_c := x_c.from_ h_w14
          replace x_p := x_p.from_ h_w14
          replace x_q := x_q.from_ h_w14
          replace x_x := x_x.from_ h_w14
          replace o_p := o_p.below h_w14
          replace o_q := o_q.below h_w14
          replace o_x := o_x.below h_w14
          replace o_l := o_l.below h_w14
          have B_w14 := B_w13.trans (h_w14.mono B_w13.size)
          have z_w14 := h_w14.size
          rw [HD.out] at o_a
          rw [HG.out]
          obtain rfl := rv_acc o_a.rd
          clear o_a
          go_simp
          refine hK.out _ _ ⟨x_c, x_x⟩ (fun _ => ?_)
          clear hK K
          refine takeH (i := 7) (v := ?v71) (d := some 53) rfl rfl (by kernel_rfl) (by kernel_rfl) (by kernel_rfl) (fun _ _ _ h => h) (Or.inl ⟨by rfl, ?y71⟩) ⟨x_c, x_x⟩ ?r71
          case y71 => (intro W hW; go_simp; try (with_reducible rfl))
          simp only [Act.put, List.setIfInBounds_toArray, List.set_cons_zero, List.set_cons_succ]
          refine takeH (i := 8) (v := ?v72) (d := some 61) rfl rfl (by kernel_rfl) (by kernel_rfl) (by kernel_rfl) (fun _ _ _ h => h) (Or.inl ⟨by rfl, ?y72⟩) ⟨x_c, x_x⟩ ?r72
          case y72 => (intro W hW; go_simp; try (with_reducible rfl))
          simp only [Act.put, List.setIfInBounds_toArray, List.set_cons_zero, List.set_cons_succ]
          refine takeH (i := 9) (v := ?v73) (d := some 62) rfl rfl (by kernel_rfl) (by kernel_rfl) (by kernel_rfl) (fun _ _ _ h => h) (Or.inl ⟨by rfl, ?y73⟩) ⟨x_c, x_x⟩ ?r73
          case y73 => (intro W hW; go_simp; try (with_reducible rfl))
          simp only [Act.put, List.setIfInBounds_toArray, List.set_cons_zero, List.set_cons_succ]
          refine wpAnyH_ready (rs := [10]) (by kernel_rfl) (by simp) ?_
          refine AllReadyH.cons rfl (fun K hK => ?_) AllReadyH.nil
          obtain ⟨w15, e_w15, s_w15, h_w15, x_a⟩ := alloc_step w14 33 [.int .i64 0, .int .i64 0, .int .i64 0]
          have s_w15_1 := Nat.le_of_eq s_w15
          have s_w15_2 := Nat.le_of_eq s_w15.symm
          clear s_w15
          replace o_p := o_p.more (Nat.le_refl w14.heap.size)
          replace o_q := o_q.more (Nat.le_refl w14.heap.size)
          replace o_x := o_x.more (Nat.le_refl w14.heap.size)
          replace x_c := x_c.from_ h_w15
          replace x_p := x_p.from_ h_w15
          replace x_q := x_q.from_ h_w15
          replace x_x := x_x.from_ h_w15
          replace o_p := o_p.below h_w15
          replace o_q := o_q.below h_w15
          replace o_x := o_x.below h_w15
          replace o_l := o_l.below h_w15
          have B_w15 := B_w14.trans (h_w15.mono B_w14.size)
          have z_w15 := h_w15.size
          go_simp
          refine hK.out _ _ ⟨x_c, x_x⟩ (fun _ => ?_)
          clear hK K
          obtain ⟨c_a_0_w15, f_a_0_w15, c_a_1_w15, f_a_1_w15, c_a_2_w15, f_a_2_w15⟩ := x_a.k3
          obtain ⟨w16, e_w16, s_w16, h_w16, y_w16⟩ := store_step x_a [.int .i64 D.Prom, .int .i64 D.Bal, .int .i64 D.Val] rfl
          replace e_w16 : (((w15.setCell ⟨w14.heap.size, 0, none⟩ (.int .i64 D.Prom)).setCell ⟨w14.heap.size, 1, none⟩ (.int .i64 D.Bal)).setCell ⟨w14.heap.size, 2, none⟩ (.int .i64 D.Val)) = w16 := e_w16
          have s_w16_1 := Nat.le_of_eq s_w16
          have s_w16_2 := Nat.le_of_eq s_w16.symm
          clear s_w16
          replace x_c := x_c.chg h_w16 (by omega)
          replace x_p := x_p.chg h_w16 (by omega)
          replace x_q := x_q.chg h_w16 (by omega)
          replace x_x := x_x.chg h_w16 (by omega)
          replace o_p := o_p.chg h_w16 (by simp)
          replace o_q := o_q.chg h_w16 (by simp)
          replace o_x := o_x.chg h_w16 (by simp)
          replace o_l := o_l.chg h_w16 (by omega)
          have B_w16 := Below.chg_ B_w15 h_w16 (by omega) (by omega)
          have z_w16 := h_w16.size
          replace x_a := y_w16
          clear y_w16
          refine wpAnyH_ready (rs := [11]) (by kernel_rfl) (by simp) ?_
          refine AllReadyH.cons rfl (fun K hK => ?_) AllReadyH.nil
          go_simp
          refine hK.out _ _ ⟨x_c, x_x⟩ (fun _ => ?_)
          clear hK K
          clear c_a_0_w15 f_a_0_w15 c_a_1_w15 f_a_1_w15 c_a_2_w15 f_a_2_w15
          refine wpAnyH_ready (rs := [12]) (by kernel_rfl) (by simp) ?_
          refine AllReadyH.cons rfl (fun K hK => ?_) AllReadyH.nil
          go_simp
          refine hK.out _ _ ⟨x_c, x_x⟩ (fun _ => ?_)
          clear hK K
          refine wpAnyH_done (by kernel_rfl) ?_ _
          obtain ⟨c_x_0_w16, f_x_0_w16, c_x_1_w16, f_x_1_w16, c_x_2_w16, f_x_2_w16, c_x_3_w16, f_x_3_w16, c_x_4_w16, f_x_4_w16⟩ := x_x.k5
          obtain ⟨c_p_0_w16, f_p_0_w16, c_p_1_w16, f_p_1_w16, c_p_2_w16, f_p_2_w16, c_p_3_w16, f_p_3_w16, c_p_4_w16, f_p_4_w16⟩ := x_p.k5
          obtain ⟨w17, e_w17, s_w17, h_w17, y_w17⟩ := store_step x_p [.int .i64 P.Bal, .int .i64 P.Val, .slice AFp P.From.length cFp, .int .i64 P.Best, .slice AGp P.Got.length cGp] rfl
          replace e_w17 : (((((w16.setCell ⟨w2b.heap.size, 0, none⟩ (.int .i64 P.Bal)).setCell ⟨w2b.heap.size, 1, none⟩ (.int .i64 P.Val)).setCell ⟨w2b.heap.size, 2, none⟩ (.slice AFp P.From.length cFp)).setCell ⟨w2b.heap.size, 3, none⟩ (.int .i64 P.Best)).setCell ⟨w2b.heap.size, 4, none⟩ (.slice AGp P.Got.length cGp)) = w17 := e_w17
          have s_w17_1 := Nat.le_of_eq s_w17
          have s_w17_2 := Nat.le_of_eq s_w17.symm
          clear s_w17
          replace x_c := x_c.chg h_w17 (by omega)
          replace x_q := x_q.chg h_w17 (by omega)
          replace x_x := x_x.chg h_w17 (by omega)
          replace x_a := x_a.chg h_w17 (by omega)
          replace o_p := o_p.chg h_w17 (by simp)
          replace o_q := o_q.chg h_w17 (by simp)
          replace o_x := o_x.chg h_w17 (by simp)
          replace o_l := o_l.chg h_w17 (by omega)
          have B_w17 := Below.chg_ B_w16 h_w17 (by omega) (by omega)
          have z_w17 := h_w17.size
          replace x_p := y_w17
          clear y_w17
          have HA1 : Hid (accOkB (acc I) = true) := (HV.out.ia I hI).ok
          have HP1 : Hid (propOkB P = true) := HV.out.ip.ok (.inl rfl)
          have c_c_0_w17 := x_c.ac0 hI
          have c_c_1_w17 := x_c.ac1 hI
          have c_c_2_w17 := x_c.ac2 hI
          have f_c_0_w17 := x_c.frozen (I * 3)
          have f_c_1_w17 := x_c.frozen (I * 3 + 1)
          have f_c_2_w17 := x_c.frozen (I * 3 + 2)
          obtain ⟨c_x_0_w17, f_x_0_w17, c_x_1_w17, f_x_1_w17, c_x_2_w17, f_x_2_w17, c_x_3_w17, f_x_3_w17, c_x_4_w17, f_x_4_w17⟩ := x_x.k5
          go_wp2_with fail
          refine (iAccOk_c (a := acc I) (ov_acc (d := acc I) (lo := 0) (hi := 0) (Nat.zero_le _)).rd).mono ?_
          rintro e w18 ⟨rfl, h_w18⟩
          clear c_x_0_w16 f_x_0_w16 c_x_1_w16 f_x_1_w16 c_x_2_w16 f_x_2_w16 c_x_3_w16 f_x_3_w16 c_x_4_w16 f_x_4_w16 c_p_0_w16 f_p_0_w16 c_p_1_w16 f_p_1_w16 c_p_2_w16 f_p_2_w16 c_p_3_w16 f_p_3_w16 c_p_4_w16 f_p_4_w16 c_c_0_w17 c_c_1_w17 c_c_2_w17 f_c_0_w17 f_c_1_w17 f_c_2_w17 c_x_0_w17 f_x_0_w17 c_x_1_w17 f_x_1_w17 c_x_2_w17 f_x_2_w17 c_x_3_w17 f_x_3_w17 c_x_4_w17 f_x_4_w17
          replace x_c := x_c.from_ h_w18
          replace x_p := x_p.from_ h_w18
          replace x_q := x_q.from_ h_w18
          replace x_x := x_x.from_ h_w18
          replace x_a := x_a.from_ h_w18
          replace o_p := o_p.below h_w18
          replace o_q := o_q.below h_w18
          replace o_x := o_x.below h_w18
          replace o_l := o_l.below h_w18
          have B_w18 := B_w17.trans (h_w18.mono B_w17.size)
          have z_w18 := h_w18.size
          rw [HA1.out]
          obtain ⟨c_x_0_w18, f_x_0_w18, c_x_1_w18, f_x_1_w18, c_x_2_w18, f_x_2_w18, c_x_3_w18, f_x_3_w18, c_x_4_w18, f_x_4_w18⟩ := x_x.k5
          go_wp2_with fail
          refine (iPropOk_c (p := P) o_x.rd HV.out.ip.bulk).mono ?_
          rintro e w19 ⟨rfl, h_w19⟩
          clear c_x_0_w18 f_x_0_w18 c_x_1_w18 f_x_1_w18 c_x_2_w18 f_x_2_w18 c_x_3_w18 f_x_3_w18 c_x_4_w18 f_x_4_w18
          replace x_c := x_c.from_ h_w19
          replace x_p := x_p.from_ h_w19
          replace x_q := x_q.from_ h_w19
          replace x_x := x_x.from_ h_w19
          replace x_a := x_a.from_ h_w19
          replace o_p := o_p.below h_w19
          replace o_q := o_q.below h_w19
          replace o_x := o_x.below h_w19
          replace o_l := o_l.below h_w19
          have B_w19 := B_w18.trans (h_w19.mono B_w18.size)
          have z_w19 := h_w19.size
          rw [HP1.out]
          go_wp2
          go_roundw
          case rel => exact ⟨k + 1, acc, P, Q, _, _, _, _, _, _, _, _, by omega, by go_num, HV, x_c, x_p, x_q, o_x.less (by simp), o_q.less (by simp), o_l, B_w19, by omega⟩
          case measure => simp [intOf]; omega
        · obtain ⟨w14, e_w14, s_w14, h_w14, x_a⟩ := alloc_step w13 33 [.int .i64 0, .int .i64 0, .int .i64 0]
          have s_w14_1 := Nat.le_of_eq s_w14
          have s_w14_2 := Nat.le_of_eq s_w14.symm
          clear s_w14
          replace o_p := o_p.more (Nat.le_refl w13.heap.size)
          replace o_q := o_q.more (Nat.le_refl w13.heap.size)
          replace o_x := o_x.more (Nat.le_refl w13.heap.size)
          replace x_c := x_c.from_ h_w14
          replace x_p := x_p.from_ h_w14
          replace x_q := x_q.from_ h_w14
          replace x_x := x_x.from_ h_w14
          replace o_p := o_p.below h_w14
          replace o_q := o_q.below h_w14
          replace o_x := o_x.below h_w14
          replace o_l := o_l.below h_w14
          have B_w14 := B_w13.trans (h_w14.mono B_w13.size)
          have z_w14 := h_w14.size
          go_simp
          refine hK.out _ _ ⟨x_c, x_x⟩ (fun _ => ?_)
          clear hK K
          refine wpAnyH_ready (rs := [6]) (by kernel_rfl) (by simp) ?_
          refine AllReadyH.cons rfl (fun K hK => ?_) AllReadyH.nil
          go_simp
          skip
          refine (iAccPrep_c (a := acc I) (b := P.Bal) (ov_acc (d := acc I) (lo := 0) (hi := 0) (Nat.zero_le _)).rd hXb).mono ?_
          rintro e w15 ⟨v9, rfl, o_a, h_w15⟩
          replace x_c := x_c.from_ h_w15
          replace x_p := x_p.from_ h_w15
          replace x_q := x_q.from_ h_w15
          replace x_x := x_x.from_ h_w15
          replace x_a := x_a.from_ h_w15
          replace o_p := o_p.below h_w15
          replace o_q := o_q.below h_w15
          replace o_x := o_x.below h_w15
          replace o_l := o_l.below h_w15
          have B_w15 := B_w14.trans (h_w15.mono B_w14.size)
          have z_w15 := h_w15.size
          rw [HD.out] at o_a
          rw [HG.out]
          obtain rfl := rv_acc o_a.rd
          clear o_a
          go_simp
          refine hK.out _ _ ⟨x_c, x_x⟩ (fun _ => ?_)
          clear hK K
          refine takeH (i := 7) (v := ?v74) (d := some 53) rfl rfl (by kernel_rfl) (by kernel_rfl) (by kernel_rfl) (fun _ _ _ h => h) (Or.inl ⟨by rfl, ?y74⟩) ⟨x_c, x_x⟩ ?r74
          case y74 => (intro W hW; go_simp; try (with_reducible rfl))
          simp only [Act.put, List.setIfInBounds_toArray, List.set_cons_zero, List.set_cons_succ]
          refine takeH (i := 8) (v := ?v75) (d := some 61) rfl rfl (by kernel_rfl) (by kernel_rfl) (by kernel_rfl) (fun _ _ _ h => h) (Or.inl ⟨by rfl, ?y75⟩) ⟨x_c, x_x⟩ ?r75
          case y75 => (intro W hW; go_simp; try (with_reducible rfl))
          simp only [Act.put, List.setIfInBounds_toArray, List.set_cons_zero, List.set_cons_succ]
          refine takeH (i := 9) (v := ?v76) (d := some 62) rfl rfl (by kernel_rfl) (by kernel_rfl) (by kernel_rfl) (fun _ _ _ h => h) (Or.inl ⟨by rfl, ?y76⟩) ⟨x_c, x_x⟩ ?r76
          case y76 => (intro W hW; go_simp; try (with_reducible rfl))
          simp only [Act.put, List.setIfInBounds_toArray, List.set_cons_zero, List.set_cons_succ]
          obtain ⟨c_a_0_w15, f_a_0_w15, c_a_1_w15, f_a_1_w15, c_a_2_w15, f_a_2_w15⟩ := x_a.k3
          obtain ⟨w16, e_w16, s_w16, h_w16, y_w16⟩ := store_step x_a [.int .i64 D.Prom, .int .i64 D.Bal, .int .i64 D.Val] rfl
          replace e_w16 : (((w15.setCell ⟨w13.heap.size, 0, none⟩ (.int .i64 D.Prom)).setCell ⟨w13.heap.size, 1, none⟩ (.int .i64 D.Bal)).setCell ⟨w13.heap.size, 2, none⟩ (.int .i64 D.Val)) = w16 := e_w16
          have s_w16_1 := Nat.le_of_eq s_w16
          have s_w16_2 := Nat.le_of_eq s_w16.symm
          clear s_w16
          replace x_c := x_c.chg h_w16 (by omega)
          replace x_p := x_p.chg h_w16 (by omega)
          replace x_q := x_q.chg h_w16 (by omega)
          replace x_x := x_x.chg h_w16 (by omega)
          replace o_p := o_p.chg h_w16 (by simp)
          replace o_q := o_q.chg h_w16 (by simp)
          replace o_x := o_x.chg h_w16 (by simp)
          replace o_l := o_l.chg h_w16 (by omega)
          have B_w16 := Below.chg_ B_w15 h_w16 (by omega) (by omega)
          have z_w16 := h_w16.size
          replace x_a := y_w16
          clear y_w16
          refine wpAnyH_ready (rs := [11]) (by kernel_rfl) (by simp) ?_
          refine AllReadyH.cons rfl (fun K hK => ?_) AllReadyH.nil
          go_simp
          refine hK.out _ _ ⟨x_c, x_x⟩ (fun _ => ?_)
          clear hK K
          clear c_a_0_w15 f_a_0_w15 c_a_1_w15 f_a_1_w15 c_a_2_w15 f_a_2_w15
          refine wpAnyH_ready (rs := [12]) (by kernel_rfl) (by simp) ?_
          refine AllReadyH.cons rfl (fun K hK => ?_) AllReadyH.nil
          go_simp
          refine hK.out _ _ ⟨x_c, x_x⟩ (fun _ => ?_)
          clear hK K
          refine wpAnyH_done (by kernel_rfl) ?_ _
          obtain ⟨c_x_0_w16, f_x_0_w16, c_x_1_w16, f_x_1_w16, c_x_2_w16, f_x_2_w16, c_x_3_w16, f_x_3_w16, c_x_4_w16, f_x_4_w16⟩ := x_x.k5
          obtain ⟨c_p_0_w16, f_p_0_w16, c_p_1_w16, f_p_1_w16, c_p_2_w16, f_p_2_w16, c_p_3_w16, f_p_3_w16, c_p_4_w16, f_p_4_w16⟩ := x_p.k5
          obtain ⟨w17, e_w17, s_w17, h_w17, y_w17⟩ := store_step x_p [.int .i64 P.Bal, .int .i64 P.Val, .slice AFp P.From.length cFp, .int .i64 P.Best, .slice AGp P.Got.length cGp] rfl
          replace e_w17 : (((((w16.setCell ⟨w2b.heap.size, 0, none⟩ (.int .i64 P.Bal)).setCell ⟨w2b.heap.size, 1, none⟩ (.int .i64 P.Val)).setCell ⟨w2b.heap.size, 2, none⟩ (.slice AFp P.From.length cFp)).setCell ⟨w2b.heap.size, 3, none⟩ (.int .i64 P.Best)).setCell ⟨w2b.heap.size, 4, none⟩ (.slice AGp P.Got.length cGp)) = w17 := e_w17
          have s_w17_1 := Nat.le_of_eq s_w17
          have s_w17_2 := Nat.le_of_eq s_w17.symm
          clear s_w17
          replace x_c := x_c.chg h_w17 (by omega)
          replace x_q := x_q.chg h_w17 (by omega)
          replace x_x := x_x.chg h_w17 (by omega)
          replace x_a := x_a.chg h_w17 (by omega)
          replace o_p := o_p.chg h_w17 (by simp)
          replace o_q := o_q.chg h_w17 (by simp)
          replace o_x := o_x.chg h_w17 (by simp)
          replace o_l := o_l.chg h_w17 (by omega)
          have B_w17 := Below.chg_ B_w16 h_w17 (by omega) (by omega)
          have z_w17 := h_w17.size
          replace x_p := y_w17
          clear y_w17
          have HA1 : Hid (accOkB (acc I) = true) := (HV.out.ia I hI).ok
          have HP1 : Hid (propOkB P = true) := HV.out.ip.ok (.inl rfl)
          have c_c_0_w17 := x_c.ac0 hI
          have c_c_1_w17 := x_c.ac1 hI
          have c_c_2_w17 := x_c.ac2 hI
          have f_c_0_w17 := x_c.frozen (I * 3)
          have f_c_1_w17 := x_c.frozen (I * 3 + 1)
          have f_c_2_w17 := x_c.frozen (I * 3 + 2)
          obtain ⟨c_x_0_w17, f_x_0_w17, c_x_1_w17, f_x_1_w17, c_x_2_w17, f_x_2_w17, c_x_3_w17, f_x_3_w17, c_x_4_w17, f_x_4_w17⟩ := x_x.k5
          go_wp2_with fail
          refine (iAccOk_c (a := acc I) (ov_acc (d := acc I) (lo := 0) (hi := 0) (Nat.zero_le _)).rd).mono ?_
          rintro e w18 ⟨rfl, h_w18⟩
          clear c_x_0_w16 f_x_0_w16 c_x_1_w16 f_x_1_w16 c_x_2_w16 f_x_2_w16 c_x_3_w16 f_x_3_w16 c_x_4_w16 f_x_4_w16 c_p_0_w16 f_p_0_w16 c_p_1_w16 f_p_1_w16 c_p_2_w16 f_p_2_w16 c_p_3_w16 f_p_3_w16 c_p_4_w16 f_p_4_w16 c_c_0_w17 c_c_1_w17 c_c_2_w17 f_c_0_w17 f_c_1_w17 f_c_2_w17 c_x_0_w17 f_x_0_w17 c_x_1_w17 f_x_1_w17 c_x_2_w17 f_x_2_w17 c_x_3_w17 f_x_3_w17 c_x_4_w17 f_x_4_w17
          replace x_c := x_c.from_ h_w18
          replace x_p := x_p.from_ h_w18
          replace x_q := x_q.from_ h_w18
          replace x_x := x_x.from_ h_w18
          replace x_a := x_a.from_ h_w18
          replace o_p := o_p.below h_w18
          replace o_q := o_q.below h_w18
          replace o_x := o_x.below h_w18
          replace o_l := o_l.below h_w18
          have B_w18 := B_w17.trans (h_w18.mono B_w17.size)
          have z_w18 := h_w18.size
          rw [HA1.out]
          obtain ⟨c_x_0_w18, f_x_0_w18, c_x_1_w18, f_x_1_w18, c_x_2_w18, f_x_2_w18, c_x_3_w18, f_x_3_w18, c_x_4_w18, f_x_4_w18⟩ := x_x.k5
          go_wp2_with fail
          refine (iPropOk_c (p := P) o_x.rd HV.out.ip.bulk).mono ?_
          rintro e w19 ⟨rfl, h_w19⟩
          clear c_x_0_w18 f_x_0_w18 c_x_1_w18 f_x_1_w18 c_x_2_w18 f_x_2_w18 c_x_3_w18 f_x_3_w18 c_x_4_w18 f_x_4_w18
          replace x_c := x_c.from_ h_w19
          replace x_p := x_p.from_ h_w19
          replace x_q := x_q.from_ h_w19
          replace x_x := x_x.from_ h_w19
          replace x_a := x_a.from_ h_w19
          replace o_p := o_p.below h_w19
          replace o_q := o_q.below h_w19
          replace o_x := o_x.below h_w19
          replace o_l := o_l.below h_w19
          have B_w19 := B_w18.trans (h_w19.mono B_w18.size)
          have z_w19 := h_w19.size
          rw [HP1.out]
          go_wp2
          go_roundw
          case rel => exact ⟨k + 1, acc, P, Q, _, _, _, _, _, _, _, _, by omega, by go_num, HV, x_c, x_p, x_q, o_x.less (by simp), o_q.less (by simp), o_l, B_w19, by omega⟩
          case measure => simp [intOf]; omega
     case neg =>
      have g6 : decide (kk < 6) = false := decide_eq_false h6
      have g7 : decide (6 ≤ kk) = true := decide_eq_true (by omega)
      by_cases hrd : propReadyB P 3 = true
      case pos =>
       have HR : Hid (propReadyB P 3 = true) := hrd
       clear hrd
       obtain ⟨c_p_0_wr, f_p_0_wr, c_p_1_wr, f_p_1_wr, c_p_2_wr, f_p_2_wr, c_p_3_wr, f_p_3_wr, c_p_4_wr, f_p_4_wr⟩ := x_p.k5
       obtain ⟨w11, e_w11, s_w11, h_w11, x_x⟩ := alloc_step wr 26 [.int .i64 P.Bal, .int .i64 P.Val, .slice AFp P.From.length cFp, .int .i64 P.Best, .slice AGp P.Got.length cGp]
       have s_w11_1 := Nat.le_of_eq s_w11
       have s_w11_2 := Nat.le_of_eq s_w11.symm
       clear s_w11
       replace o_p := o_p.more (Nat.le_refl wr.heap.size)
       replace o_q := o_q.more (Nat.le_refl wr.heap.size)
       replace x_c := x_c.from_ h_w11
       replace x_p := x_p.from_ h_w11
       replace x_q := x_q.from_ h_w11
       replace o_p := o_p.below h_w11
       replace o_q := o_q.below h_w11
       replace o_l := o_l.below h_w11
       have B_w11 := HB.trans (h_w11.mono HB.size)
       have z_w11 := h_w11.size
       have o_x := o_p
       obtain ⟨c_x_0_w11, f_x_0_w11, c_x_1_w11, f_x_1_w11, c_x_2_w11, f_x_2_w11, c_x_3_w11, f_x_3_w11, c_x_4_w11, f_x_4_w11⟩ := x_x.k5
       go_wp2_with fail
       refine (iPropReady_c (p := P) (n := 3) o_x.rd HV.out.ip.bulk (by omega)).mono ?_
       rintro e w12 ⟨rfl, h_w12⟩
       clear c_p_0_wr f_p_0_wr c_p_1_wr f_p_1_wr c_p_2_wr f_p_2_wr c_p_3_wr f_p_3_wr c_p_4_wr f_p_4_wr c_x_0_w11 f_x_0_w11 c_x_1_w11 f_x_1_w11 c_x_2_w11 f_x_2_w11 c_x_3_w11 f_x_3_w11 c_x_4_w11 f_x_4_w11
       replace x_c := x_c.from_ h_w12
       replace x_p := x_p.from_ h_w12
       replace x_q := x_q.from_ h_w12
       replace x_x := x_x.from_ h_w12
       replace o_p := o_p.below h_w12
       replace o_q := o_q.below h_w12
       replace o_x := o_x.below h_w12
       replace o_l := o_l.below h_w12
       have B_w12 := B_w11.trans (h_w12.mono B_w11.size)
       have z_w12 := h_w12.size
       rw [HR.out]
       have HBAL : Hid (P.Bal = 5) := HV.out.ip.1
       have hXb : -9223372036854775808 ≤ P.Bal ∧ P.Bal ≤ 9223372036854775807 := by rw [HBAL.out]; omega
       have hXv : -9223372036854775808 ≤ P.Val ∧ P.Val ≤ 9223372036854775807 := by have := HV.out.ip.2.1; omega
       have hAb : -9223372036854775808 ≤ (acc I).Bal ∧ (acc I).Bal ≤ 9223372036854775807 := by have := (HV.out.ia I hI).2.1; omega
       have hAv : -9223372036854775808 ≤ (acc I).Val ∧ (acc I).Val ≤ 9223372036854775807 := by have := (HV.out.ia I hI).2.1; omega
       obtain ⟨D, hD⟩ : ∃ D, accTake (acc I) P.Bal P.Val = D := ⟨_, rfl⟩
       by_cases hgd : accTakeB (acc I) P.Bal P.Val = true
       case pos =>
        have HG : Hid (accTakeB (acc I) P.Bal P.Val = true) := hgd
        obtain ⟨X2, hX2⟩ : ∃ x, propGot P (I : Int) = x := ⟨_, rfl⟩
        obtain ⟨acc2, hA2⟩ : ∃ x, upd acc I D = x := ⟨_, rfl⟩
        have HV2 : Hid (VoteI acc2 X2 Q) := by
          have h1 := hgd
          rw [HBAL.out] at h1 hD
          have := vote_gotP HV.out hI h1
          rw [hD, hX2, hA2] at this
          exact this
        have HD := Lib.hid hD
        have HX := Lib.hid hX2
        have HA2 := Lib.hid hA2
        clear hD hX2 hA2 hgd
        go_wp2_with fail
        refine wp_region_held (S := fun u => Vr u w.heap.size 33 (accCells acc) ∧ Vr u wr.heap.size 26 [.int .i64 P.Bal, .int .i64 P.Val, .slice AFp P.From.length cFp, .int .i64 P.Best, .slice AGp P.Got.length cGp]) (by kernel_rfl) ?_
        obtain ⟨w13, hwd⟩ : ∃ x, ({ heap := w12.heap, tape := w12.tape, drawn := w12.drawn + 1, os := w12.os, output := w12.output } : World) = x := ⟨_, rfl⟩
        have h_w13 : Below w12.heap.size w12 w13 := by rw [← hwd]; exact (Below.refl w12.heap.size w12).drew
        replace x_c := x_c.from_ h_w13
        replace x_p := x_p.from_ h_w13
        replace x_q := x_q.from_ h_w13
        replace x_x := x_x.from_ h_w13
        replace o_p := o_p.below h_w13
        replace o_q := o_q.below h_w13
        replace o_x := o_x.below h_w13
        replace o_l := o_l.below h_w13
        have B_w13 := B_w12.trans (h_w13.mono B_w12.size)
        have z_w13 := h_w13.size
        rw [hwd]
        clear hwd
        refine takeH (i := 0) (v := ?v77) (d := some 88) rfl rfl (by kernel_rfl) (by kernel_rfl) (by kernel_rfl) (fun _ _ _ h => h) (Or.inl ⟨by rfl, ?y77⟩) ⟨x_c, x_x⟩ ?r77
        case y77 => (intro W hW; go_simp; try (with_reducible rfl))
        simp only [Act.put, List.setIfInBounds_toArray, List.set_cons_zero, List.set_cons_succ]
        refine takeH (i := 1) (v := ?v78) (d := some 89) rfl rfl (by kernel_rfl) (by kernel_rfl) (by kernel_rfl) (fun _ _ _ h => h) (Or.inl ⟨by rfl, ?y78⟩) ⟨x_c, x_x⟩ ?r78
        case y78 => (intro W hW; go_simp; try (with_reducible rfl))
        simp only [Act.put, List.setIfInBounds_toArray, List.set_cons_zero, List.set_cons_succ]
        refine takeH (i := 2) (v := ?v79) (d := some 90) rfl rfl (by kernel_rfl) (by kernel_rfl) (by kernel_rfl) (fun _ _ _ h => h) (Or.inl ⟨by rfl, ?y79⟩) ⟨x_c, x_x⟩ ?r79
        case y79 => (intro W hW; go_simp; try (with_reducible rfl))
        simp only [Act.put, List.setIfInBounds_toArray, List.set_cons_zero, List.set_cons_succ]
        refine takeH (i := 3) (v := ?v80) (d := some 91) rfl rfl (by kernel_rfl) (by kernel_rfl) (by kernel_rfl) (fun _ _ _ h => h) (Or.inl ⟨by rfl, ?y80⟩) ⟨x_c, x_x⟩ ?r80
        case y80 => (intro W hW; have k0 := hW.1.ac0 hI; have k1 := hW.1.ac1 hI; have k2 := hW.1.ac2 hI; go_simp; try (with_reducible rfl))
        simp only [Act.put, List.setIfInBounds_toArray, List.set_cons_zero, List.set_cons_succ]
        refine takeH (i := 4) (v := ?v81) (d := some 92) rfl rfl (by kernel_rfl) (by kernel_rfl) (by kernel_rfl) (fun _ _ _ h => h) (Or.inl ⟨by rfl, ?y81⟩) ⟨x_c, x_x⟩ ?r81
        case y81 => (intro W hW; go_simp; try (with_reducible rfl))
        simp only [Act.put, List.setIfInBounds_toArray, List.set_cons_zero, List.set_cons_succ]
        refine takeH (i := 5) (v := ?v82) (d := some 93) rfl rfl (by kernel_rfl) (by kernel_rfl) (by kernel_rfl) (fun _ _ _ h => h) (Or.inl ⟨by rfl, ?y82⟩) ⟨x_c, x_x⟩ ?r82
        case y82 => (intro W hW; have j0 := hW.2.cell (i := 0) rfl; have j1 := hW.2.cell (i := 1) rfl; have j2 := hW.2.cell (i := 2) rfl; have j3 := hW.2.cell (i := 3) rfl; have j4 := hW.2.cell (i := 4) rfl; go_simp; try (with_reducible rfl))
        simp only [Act.put, List.setIfInBounds_toArray, List.set_cons_zero, List.set_cons_succ]
        refine takeH (i := 6) (v := ?v83) (d := some 94) rfl rfl (by kernel_rfl) (by kernel_rfl) (by kernel_rfl) (fun _ _ _ h => h) (Or.inl ⟨by rfl, ?y83⟩) ⟨x_c, x_x⟩ ?r83
        case y83 => (intro W hW; go_simp; try (with_reducible rfl))
        simp only [Act.put, List.setIfInBounds_toArray, List.set_cons_zero, List.set_cons_succ]
        refine takeH (i := 7) (v := ?v84) (d := some 95) rfl rfl (by kernel_rfl) (by kernel_rfl) (by kernel_rfl) (fun _ _ _ h => h) (Or.inl ⟨by rfl, ?y84⟩) ⟨x_c, x_x⟩ ?r84
        case y84 => (intro W hW; have j0 := hW.2.cell (i := 0) rfl; have j1 := hW.2.cell (i := 1) rfl; have j2 := hW.2.cell (i := 2) rfl; have j3 := hW.2.cell (i := 3) rfl; have j4 := hW.2.cell (i := 4) rfl; go_simp; try (with_reducible rfl))
        simp only [Act.put, List.setIfInBounds_toArray, List.set_cons_zero, List.set_cons_succ]
        refine wpAnyH_ready (rs := [8, 12]) (by kernel_rfl) (by simp) ?_
        refine AllReadyH.cons rfl (fun K hK => ?_) (AllReadyH.cons rfl (fun K hK => ?_) AllReadyH.nil)
        · go_simp
          skip
          refine (iAccTake_c (a := acc I) (b := P.Bal) (u := P.Val) (ov_acc (d := acc I) (lo := 0) (hi := 0) (Nat.zero_le _)).rd hXb hXv).mono ?_
          rintro e w14 ⟨v9, rfl, o_a, h_w14⟩
          replace x_c := x_c.from_ h_w14
          replace x_p := x_p.from_ h_w14
          replace x_q := x_q.from_ h_w14
          replace x_x := x_x.from_ h_w14
          replace o_p := o_p.below h_w14
          replace o_q := o_q.below h_w14
          replace o_x := o_x.below h_w14
          replace o_l := o_l.below h_w14
          have B_w14 := B_w13.trans (h_w14.mono B_w13.size)
          have z_w14 := h_w14.size
          rw [HD.out] at o_a
          rw [HG.out]
          obtain rfl := rv_acc o_a.rd
          clear o_a
          go_simp
          refine hK.out _ _ ⟨x_c, x_x⟩ (fun _ => ?_)
          clear hK K
          refine takeH (i := 9) (v := ?v85) (d := some 87) rfl rfl (by kernel_rfl) (by kernel_rfl) (by kernel_rfl) (fun _ _ _ h => h) (Or.inl ⟨by rfl, ?y85⟩) ⟨x_c, x_x⟩ ?r85
          case y85 => (intro W hW; go_simp; try (with_reducible rfl))
          simp only [Act.put, List.setIfInBounds_toArray, List.set_cons_zero, List.set_cons_succ]
          refine takeH (i := 10) (v := ?v86) (d := some 97) rfl rfl (by kernel_rfl) (by kernel_rfl) (by kernel_rfl) (fun _ _ _ h => h) (Or.inl ⟨by rfl, ?y86⟩) ⟨x_c, x_x⟩ ?r86
          case y86 => (intro W hW; go_simp; try (with_reducible rfl))
          simp only [Act.put, List.setIfInBounds_toArray, List.set_cons_zero, List.set_cons_succ]
          refine takeH (i := 11) (v := ?v87) (d := some 98) rfl rfl (by kernel_rfl) (by kernel_rfl) (by kernel_rfl) (fun _ _ _ h => h) (Or.inl ⟨by rfl, ?y87⟩) ⟨x_c, x_x⟩ ?r87
          case y87 => (intro W hW; go_simp; try (with_reducible rfl))
          simp only [Act.put, List.setIfInBounds_toArray, List.set_cons_zero, List.set_cons_succ]
          refine wpAnyH_ready (rs := [12]) (by kernel_rfl) (by simp) ?_
          refine AllReadyH.cons rfl (fun K hK => ?_) AllReadyH.nil
          obtain ⟨w15, e_w15, s_w15, h_w15, x_a⟩ := alloc_step w14 33 [.int .i64 0, .int .i64 0, .int .i64 0]
          have s_w15_1 := Nat.le_of_eq s_w15
          have s_w15_2 := Nat.le_of_eq s_w15.symm
          clear s_w15
          replace o_p := o_p.more (Nat.le_refl w14.heap.size)
          replace o_q := o_q.more (Nat.le_refl w14.heap.size)
          replace o_x := o_x.more (Nat.le_refl w14.heap.size)
          replace x_c := x_c.from_ h_w15
          replace x_p := x_p.from_ h_w15
          replace x_q := x_q.from_ h_w15
          replace x_x := x_x.from_ h_w15
          replace o_p := o_p.below h_w15
          replace o_q := o_q.below h_w15
          replace o_x := o_x.below h_w15
          replace o_l := o_l.below h_w15
          have B_w15 := B_w14.trans (h_w15.mono B_w14.size)
          have z_w15 := h_w15.size
          go_simp
          refine hK.out _ _ ⟨x_c, x_x⟩ (fun _ => ?_)
          clear hK K
          obtain ⟨c_a_0_w15, f_a_0_w15, c_a_1_w15, f_a_1_w15, c_a_2_w15, f_a_2_w15⟩ := x_a.k3
          obtain ⟨w16, e_w16, s_w16, h_w16, y_w16⟩ := store_step x_a [.int .i64 D.Prom, .int .i64 D.Bal, .int .i64 D.Val] rfl
          replace e_w16 : (((w15.setCell ⟨w14.heap.size, 0, none⟩ (.int .i64 D.Prom)).setCell ⟨w14.heap.size, 1, none⟩ (.int .i64 D.Bal)).setCell ⟨w14.heap.size, 2, none⟩ (.int .i64 D.Val)) = w16 := e_w16
          have s_w16_1 := Nat.le_of_eq s_w16
          have s_w16_2 := Nat.le_of_eq s_w16.symm
          clear s_w16
          replace x_c := x_c.chg h_w16 (by omega)
          replace x_p := x_p.chg h_w16 (by omega)
          replace x_q := x_q.chg h_w16 (by omega)
          replace x_x := x_x.chg h_w16 (by omega)
          replace o_p := o_p.chg h_w16 (by simp)
          replace o_q := o_q.chg h_w16 (by simp)
          replace o_x := o_x.chg h_w16 (by simp)
          replace o_l := o_l.chg h_w16 (by omega)
          have B_w16 := Below.chg_ B_w15 h_w16 (by omega) (by omega)
          have z_w16 := h_w16.size
          replace x_a := y_w16
          clear y_w16
          refine wpAnyH_ready (rs := [13]) (by kernel_rfl) (by simp) ?_
          refine AllReadyH.cons rfl (fun K hK => ?_) AllReadyH.nil
          go_simp
          refine hK.out _ _ ⟨x_c, x_x⟩ (fun _ => ?_)
          clear hK K
          clear c_a_0_w15 f_a_0_w15 c_a_1_w15 f_a_1_w15 c_a_2_w15 f_a_2_w15
          refine wpAnyH_ready (rs := [14]) (by kernel_rfl) (by simp) ?_
          refine AllReadyH.cons rfl (fun K hK => ?_) AllReadyH.nil
          go_simp
          refine hK.out _ _ ⟨x_c, x_x⟩ (fun _ => ?_)
          clear hK K
          refine wpAnyH_done (by kernel_rfl) ?_ _
          obtain ⟨c_x_0_w16, f_x_0_w16, c_x_1_w16, f_x_1_w16, c_x_2_w16, f_x_2_w16, c_x_3_w16, f_x_3_w16, c_x_4_w16, f_x_4_w16⟩ := x_x.k5
          go_wp2_with fail
          refine (iPropGot_c (p := P) (n := (I : Int)) o_x.rd HV.out.ip.bulk (by omega)).mono ?_
          rintro e w17 ⟨un, rfl, o_n, h_w17⟩
          clear c_x_0_w16 f_x_0_w16 c_x_1_w16 f_x_1_w16 c_x_2_w16 f_x_2_w16 c_x_3_w16 f_x_3_w16 c_x_4_w16 f_x_4_w16
          replace x_c := x_c.from_ h_w17
          replace x_p := x_p.from_ h_w17
          replace x_q := x_q.from_ h_w17
          replace x_x := x_x.from_ h_w17
          replace x_a := x_a.from_ h_w17
          replace o_p := o_p.below h_w17
          replace o_q := o_q.below h_w17
          replace o_x := o_x.below h_w17
          replace o_l := o_l.below h_w17
          have B_w17 := B_w16.trans (h_w17.mono B_w16.size)
          have z_w17 := h_w17.size
          rw [HX.out] at o_n
          obtain ⟨AFn, cFn, AGn, cGn, rfl, -⟩ := rv_prop o_n.rd
          replace o_x : OVa propL w17 [w.heap.size, w2b.heap.size, w3b.heap.size, wr.heap.size, w14.heap.size] _ _ := o_n.away (by simp; omega)
          clear o_n
          obtain ⟨c_x_0_w17, f_x_0_w17, c_x_1_w17, f_x_1_w17, c_x_2_w17, f_x_2_w17, c_x_3_w17, f_x_3_w17, c_x_4_w17, f_x_4_w17⟩ := x_x.k5
          obtain ⟨c_a_0_w17, f_a_0_w17, c_a_1_w17, f_a_1_w17, c_a_2_w17, f_a_2_w17⟩ := x_a.k3
          have c_c_0_w17 := x_c.ac0 hI
          have c_c_1_w17 := x_c.ac1 hI
          have c_c_2_w17 := x_c.ac2 hI
          have f_c_0_w17 := x_c.frozen (I * 3)
          have f_c_1_w17 := x_c.frozen (I * 3 + 1)
          have f_c_2_w17 := x_c.frozen (I * 3 + 2)
          obtain ⟨w18, e_w18, s_w18, h_w18, y_w18⟩ := store_step x_x [.int .i64 X2.Bal, .int .i64 X2.Val, .slice AFn X2.From.length cFn, .int .i64 X2.Best, .slice AGn X2.Got.length cGn] rfl
          replace e_w18 : (((((w17.setCell ⟨wr.heap.size, 0, none⟩ (.int .i64 X2.Bal)).setCell ⟨wr.heap.size, 1, none⟩ (.int .i64 X2.Val)).setCell ⟨wr.heap.size, 2, none⟩ (.slice AFn X2.From.length cFn)).setCell ⟨wr.heap.size, 3, none⟩ (.int .i64 X2.Best)).setCell ⟨wr.heap.size, 4, none⟩ (.slice AGn X2.Got.length cGn)) = w18 := e_w18
          have s_w18_1 := Nat.le_of_eq s_w18
          have s_w18_2 := Nat.le_of_eq s_w18.symm
          clear s_w18
          replace x_c := x_c.chg h_w18 (by omega)
          replace x_p := x_p.chg h_w18 (by omega)
          replace x_q := x_q.chg h_w18 (by omega)
          replace x_a := x_a.chg h_w18 (by omega)
          replace o_p := o_p.chg h_w18 (by simp)
          replace o_q := o_q.chg h_w18 (by simp)
          replace o_x := o_x.chg h_w18 (by simp)
          replace o_l := o_l.chg h_w18 (by omega)
          have B_w18 := Below.chg_ B_w17 h_w18 (by omega) (by omega)
          have z_w18 := h_w18.size
          replace x_x := y_w18
          clear y_w18
          obtain ⟨c_x_0_w18, f_x_0_w18, c_x_1_w18, f_x_1_w18, c_x_2_w18, f_x_2_w18, c_x_3_w18, f_x_3_w18, c_x_4_w18, f_x_4_w18⟩ := x_x.k5
          obtain ⟨c_a_0_w18, f_a_0_w18, c_a_1_w18, f_a_1_w18, c_a_2_w18, f_a_2_w18⟩ := x_a.k3
          have c_c_0_w18 := x_c.ac0 hI
          have c_c_1_w18 := x_c.ac1 hI
          have c_c_2_w18 := x_c.ac2 hI
          have f_c_0_w18 := x_c.frozen (I * 3)
          have f_c_1_w18 := x_c.frozen (I * 3 + 1)
          have f_c_2_w18 := x_c.frozen (I * 3 + 2)
          obtain ⟨w19, e_w19, s_w19, h_w19, y_w19⟩ := acc_store x_c hI D
          replace x_p := x_p.chg h_w19 (by omega)
          replace x_q := x_q.chg h_w19 (by omega)
          replace x_x := x_x.chg h_w19 (by omega)
          replace x_a := x_a.chg h_w19 (by omega)
          replace o_p := o_p.chg h_w19 (by simp)
          replace o_q := o_q.chg h_w19 (by simp)
          replace o_x := o_x.chg h_w19 (by simp)
          replace o_l := o_l.chg h_w19 (by omega)
          have B_w19 := Below.chg_ B_w18 h_w19 (by omega) (by omega)
          have z_w19 := h_w19.size
          rw [HA2.out] at y_w19
          replace x_c := y_w19
          clear y_w19
          obtain ⟨c_x_0_w19, f_x_0_w19, c_x_1_w19, f_x_1_w19, c_x_2_w19, f_x_2_w19, c_x_3_w19, f_x_3_w19, c_x_4_w19, f_x_4_w19⟩ := x_x.k5
          obtain ⟨c_p_0_w19, f_p_0_w19, c_p_1_w19, f_p_1_w19, c_p_2_w19, f_p_2_w19, c_p_3_w19, f_p_3_w19, c_p_4_w19, f_p_4_w19⟩ := x_p.k5
          obtain ⟨w20, e_w20, s_w20, h_w20, y_w20⟩ := store_step x_p [.int .i64 X2.Bal, .int .i64 X2.Val, .slice AFn X2.From.length cFn, .int .i64 X2.Best, .slice AGn X2.Got.length cGn] rfl
          replace e_w20 : (((((w19.setCell ⟨w2b.heap.size, 0, none⟩ (.int .i64 X2.Bal)).setCell ⟨w2b.heap.size, 1, none⟩ (.int .i64 X2.Val)).setCell ⟨w2b.heap.size, 2, none⟩ (.slice AFn X2.From.length cFn)).setCell ⟨w2b.heap.size, 3, none⟩ (.int .i64 X2.Best)).setCell ⟨w2b.heap.size, 4, none⟩ (.slice AGn X2.Got.length cGn)) = w20 := e_w20
          have s_w20_1 := Nat.le_of_eq s_w20
          have s_w20_2 := Nat.le_of_eq s_w20.symm
          clear s_w20
          replace x_c := x_c.chg h_w20 (by omega)
          replace x_q := x_q.chg h_w20 (by omega)
          replace x_x := x_x.chg h_w20 (by omega)
          replace x_a := x_a.chg h_w20 (by omega)
          replace o_p := o_p.chg h_w20 (by simp)
          replace o_q := o_q.chg h_w20 (by simp)
          replace o_x := o_x.chg h_w20 (by simp)
          replace o_l := o_l.chg h_w20 (by omega)
          have B_w20 := Below.chg_ B_w19 h_w20 (by omega) (by omega)
          have z_w20 := h_w20.size
          replace x_p := y_w20
          clear y_w20
          have HA1 : Hid (accOkB (acc2 I) = true) := (HV2.out.ia I hI).ok
          have HP1 : Hid (propOkB X2 = true) := HV2.out.ip.ok (.inl rfl)
          have c_c_0_w20 := x_c.ac0 hI
          have c_c_1_w20 := x_c.ac1 hI
          have c_c_2_w20 := x_c.ac2 hI
          have f_c_0_w20 := x_c.frozen (I * 3)
          have f_c_1_w20 := x_c.frozen (I * 3 + 1)
          have f_c_2_w20 := x_c.frozen (I * 3 + 2)
          obtain ⟨c_x_0_w20, f_x_0_w20, c_x_1_w20, f_x_1_w20, c_x_2_w20, f_x_2_w20, c_x_3_w20, f_x_3_w20, c_x_4_w20, f_x_4_w20⟩ := x_x.k5
          go_wp2_with fail
          refine (iAccOk_c (a := acc2 I) (ov_acc (d := acc2 I) (lo := 0) (hi := 0) (Nat.zero_le _)).rd).mono ?_
          rintro e w21 ⟨rfl, h_w21⟩
          clear c_x_0_w17 f_x_0_w17 c_x_1_w17 f_x_1_w17 c_x_2_w17 f_x_2_w17 c_x_3_w17 f_x_3_w17 c_x_4_w17 f_x_4_w17 c_a_0_w17 f_a_0_w17 c_a_1_w17 f_a_1_w17 c_a_2_w17 f_a_2_w17 c_c_0_w17 c_c_1_w17 c_c_2_w17 f_c_0_w17 f_c_1_w17 f_c_2_w17 c_x_0_w18 f_x_0_w18 c_x_1_w18 f_x_1_w18 c_x_2_w18 f_x_2_w18 c_x_3_w18 f_x_3_w18 c_x_4_w18 f_x_4_w18 c_a_0_w18 f_a_0_w18 c_a_1_w18 f_a_1_w18 c_a_2_w18 f_a_2_w18 c_c_0_w18 c_c_1_w18 c_c_2_w18 f_c_0_w18 f_c_1_w18 f_c_2_w18 c_x_0_w19 f_x_0_w19 c_x_1_w19 f_x_1_w19 c_x_2_w19 f_x_2_w19 c_x_3_w19 f_x_3_w19 c_x_4_w19 f_x_4_w19 c_p_0_w19 f_p_0_w19 c_p_1_w19 f_p_1_w19 c_p_2_w19 f_p_2_w19 c_p_3_w19 f_p_3_w19 c_p_4_w19 f_p_4_w19 c_c_0_w20 c_c_1_w20 c_c_2_w20 f_c_0_w20 f_c_1_w20 f_c_2_w20 c_x_0_w20 f_x_0_w20 c_x_1_w20 f_x_1_w20 c_x_2_w20 f_x_2_w20 c_x_3_w20 f_x_3_w20 c_x_4_w20 f_x_4_w20
          replace x_c := x_c.from_ h_w21
          replace x_p := x_p.from_ h_w21
          replace x_q := x_q.from_ h_w21
          replace x_x := x_x.from_ h_w21
          replace x_a := x_a.from_ h_w21
          replace o_p := o_p.below h_w21
          replace o_q := o_q.below h_w21
          replace o_x := o_x.below h_w21
          replace o_l := o_l.below h_w21
          have B_w21 := B_w20.trans (h_w21.mono B_w20.size)
          have z_w21 := h_w21.size
          rw [HA1.out]
          obtain ⟨c_x_0_w21, f_x_0_w21, c_x_1_w21, f_x_1_w21, c_x_2_w21, f_x_2_w21, c_x_3_w21, f_x_3_w21, c_x_4_w21, f_x_4_w21⟩ := x_x.k5
          go_wp2_with fail
          refine (iPropOk_c (p := X2) o_x.rd HV2.out.ip.bulk).mono ?_
          rintro e w22 ⟨rfl, h_w22⟩
          clear c_x_0_w21 f_x_0_w21 c_x_1_w21 f_x_1_w21 c_x_2_w21 f_x_2_w21 c_x_3_w21 f_x_3_w21 c_x_4_w21 f_x_4_w21
          replace x_c := x_c.from_ h_w22
          replace x_p := x_p.from_ h_w22
          replace x_q := x_q.from_ h_w22
          replace x_x := x_x.from_ h_w22
          replace x_a := x_a.from_ h_w22
          replace o_p := o_p.below h_w22
          replace o_q := o_q.below h_w22
          replace o_x := o_x.below h_w22
          replace o_l := o_l.below h_w22
          have B_w22 := B_w21.trans (h_w22.mono B_w21.size)
          have z_w22 := h_w22.size
          rw [HP1.out]
          go_wp2
          go_roundw
          case rel => exact ⟨k + 1, acc2, X2, Q, _, _, _, _, _, _, _, _, by omega, by go_num, HV2, x_c, x_p, x_q, o_x.less (by simp), o_q.less (by simp), o_l, B_w22, by omega⟩
          case measure => simp [intOf]; omega
        · obtain ⟨w14, e_w14, s_w14, h_w14, x_a⟩ := alloc_step w13 33 [.int .i64 0, .int .i64 0, .int .i64 0]
          have s_w14_1 := Nat.le_of_eq s_w14
          have s_w14_2 := Nat.le_of_eq s_w14.symm
          clear s_w14
          replace o_p := o_p.more (Nat.le_refl w13.heap.size)
          replace o_q := o_q.more (Nat.le_refl w13.heap.size)
          replace o_x := o_x.more (Nat.le_refl w13.heap.size)
          replace x_c := x_c.from_ h_w14
          replace x_p := x_p.from_ h_w14
          replace x_q := x_q.from_ h_w14
          replace x_x := x_x.from_ h_w14
          replace o_p := o_p.below h_w14
          replace o_q := o_q.below h_w14
          replace o_x := o_x.below h_w14
          replace o_l := o_l.below h_w14
          have B_w14 := B_w13.trans (h_w14.mono B_w13.size)
          have z_w14 := h_w14.size
          go_simp
          refine hK.out _ _ ⟨x_c, x_x⟩ (fun _ => ?_)
          clear hK K
          refine wpAnyH_ready (rs := [8]) (by kernel_rfl) (by simp) ?_
          refine AllReadyH.cons rfl (fun K hK => ?_) AllReadyH.nil
          go_simp
          skip
          refine (iAccTake_c (a := acc I) (b := P.Bal) (u := P.Val) (ov_acc (d := acc I) (lo := 0) (hi := 0) (Nat.zero_le _)).rd hXb hXv).mono ?_
          rintro e w15 ⟨v9, rfl, o_a, h_w15⟩
          replace x_c := x_c.from_ h_w15
          replace x_p := x_p.from_ h_w15
          replace x_q := x_q.from_ h_w15
          replace x_x := x_x.from_ h_w15
          replace x_a := x_a.from_ h_w15
          replace o_p := o_p.below h_w15
          replace o_q := o_q.below h_w15
          replace o_x := o_x.below h_w15
          replace o_l := o_l.below h_w15
          have B_w15 := B_w14.trans (h_w15.mono B_w14.size)
          have z_w15 := h_w15.size
          rw [HD.out] at o_a
          rw [HG.out]
          obtain rfl := rv_acc o_a.rd
          clear o_a
          go_simp
          refine hK.out _ _ ⟨x_c, x_x⟩ (fun _ => ?_)
          clear hK K
          refine takeH (i := 9) (v := ?v88) (d := some 87) rfl rfl (by kernel_rfl) (by kernel_rfl) (by kernel_rfl) (fun _ _ _ h => h) (Or.inl ⟨by rfl, ?y88⟩) ⟨x_c, x_x⟩ ?r88
          case y88 => (intro W hW; go_simp; try (with_reducible rfl))
          simp only [Act.put, List.setIfInBounds_toArray, List.set_cons_zero, List.set_cons_succ]
          refine takeH (i := 10) (v := ?v89) (d := some 97) rfl rfl (by kernel_rfl) (by kernel_rfl) (by kernel_rfl) (fun _ _ _ h => h) (Or.inl ⟨by rfl, ?y89⟩) ⟨x_c, x_x⟩ ?r89
          case y89 => (intro W hW; go_simp; try (with_reducible rfl))
          simp only [Act.put, List.setIfInBounds_toArray, List.set_cons_zero, List.set_cons_succ]
          refine takeH (i := 11) (v := ?v90) (d := some 98) rfl rfl (by kernel_rfl) (by kernel_rfl) (by kernel_rfl) (fun _ _ _ h => h) (Or.inl ⟨by rfl, ?y90⟩) ⟨x_c, x_x⟩ ?r90
          case y90 => (intro W hW; go_simp; try (with_reducible rfl))
          simp only [Act.put, List.setIfInBounds_toArray, List.set_cons_zero, List.set_cons_succ]
          obtain ⟨c_a_0_w15, f_a_0_w15, c_a_1_w15, f_a_1_w15, c_a_2_w15, f_a_2_w15⟩ := x_a.k3
          obtain ⟨w16, e_w16, s_w16, h_w16, y_w16⟩ := store_step x_a [.int .i64 D.Prom, .int .i64 D.Bal, .int .i64 D.Val] rfl
          replace e_w16 : (((w15.setCell ⟨w13.heap.size, 0, none⟩ (.int .i64 D.Prom)).setCell ⟨w13.heap.size, 1, none⟩ (.int .i64 D.Bal)).setCell ⟨w13.heap.size, 2, none⟩ (.int .i64 D.Val)) = w16 := e_w16
          have s_w16_1 := Nat.le_of_eq s_w16
          have s_w16_2 := Nat.le_of_eq s_w16.symm
          clear s_w16
          replace x_c := x_c.chg h_w16 (by omega)
          replace x_p := x_p.chg h_w16 (by omega)
          replace x_q := x_q.chg h_w16 (by omega)
          replace x_x := x_x.chg h_w16 (by omega)
          replace o_p := o_p.chg h_w16 (by simp)
          replace o_q := o_q.chg h_w16 (by simp)
          replace o_x := o_x.chg h_w16 (by simp)
          replace o_l := o_l.chg h_w16 (by omega)
          have B_w16 := Below.chg_ B_w15 h_w16 (by omega) (by omega)
          have z_w16 := h_w16.size
          replace x_a := y_w16
          clear y_w16
          refine wpAnyH_ready (rs := [13]) (by kernel_rfl) (by simp) ?_
          refine AllReadyH.cons rfl (fun K hK => ?_) AllReadyH.nil
          go_simp
          refine hK.out _ _ ⟨x_c, x_x⟩ (fun _ => ?_)
          clear hK K
          clear c_a_0_w15 f_a_0_w15 c_a_1_w15 f_a_1_w15 c_a_2_w15 f_a_2_w15
          refine wpAnyH_ready (rs := [14]) (by kernel_rfl) (by simp) ?_
          refine AllReadyH.cons rfl (fun K hK => ?_) AllReadyH.nil
          go_simp
          refine hK.out _ _ ⟨x_c, x_x⟩ (fun _ => ?_)
          clear hK K
          refine wpAnyH_done (by kernel_rfl) ?_ _
          obtain ⟨c_x_0_w16, f_x_0_w16, c_x_1_w16, f_x_1_w16, c_x_2_w16, f_x_2_w16, c_x_3_w16, f_x_3_w16, c_x_4_w16, f_x_4_w16⟩ := x_x.k5
          go_wp2_with fail
          refine (iPropGot_c (p := P) (n := (I : Int)) o_x.rd HV.out.ip.bulk (by omega)).mono ?_
          rintro e w17 ⟨un, rfl, o_n, h_w17⟩
          clear c_x_0_w16 f_x_0_w16 c_x_1_w16 f_x_1_w16 c_x_2_w16 f_x_2_w16 c_x_3_w16 f_x_3_w16 c_x_4_w16 f_x_4_w16
          replace x_c := x_c.from_ h_w17
          replace x_p := x_p.from_ h_w17
          replace x_q := x_q.from_ h_w17
          replace x_x := x_x.from_ h_w17
          replace x_a := x_a.from_ h_w17
          replace o_p := o_p.below h_w17
          replace o_q := o_q.below h_w17
          replace o_x := o_x.below h_w17
          replace o_l := o_l.below h_w17
          have B_w17 := B_w16.trans (h_w17.mono B_w16.size)
          have z_w17 := h_w17.size
          rw [HX.out] at o_n
          obtain ⟨AFn, cFn, AGn, cGn, rfl, -⟩ := rv_prop o_n.rd
          replace o_x : OVa propL w17 [w.heap.size, w2b.heap.size, w3b.heap.size, wr.heap.size, w13.heap.size] _ _ := o_n.away (by simp; omega)
          clear o_n
          obtain ⟨c_x_0_w17, f_x_0_w17, c_x_1_w17, f_x_1_w17, c_x_2_w17, f_x_2_w17, c_x_3_w17, f_x_3_w17, c_x_4_w17, f_x_4_w17⟩ := x_x.k5
          obtain ⟨c_a_0_w17, f_a_0_w17, c_a_1_w17, f_a_1_w17, c_a_2_w17, f_a_2_w17⟩ := x_a.k3
          have c_c_0_w17 := x_c.ac0 hI
          have c_c_1_w17 := x_c.ac1 hI
          have c_c_2_w17 := x_c.ac2 hI
          have f_c_0_w17 := x_c.frozen (I * 3)
          have f_c_1_w17 := x_c.frozen (I * 3 + 1)
          have f_c_2_w17 := x_c.frozen (I * 3 + 2)
          obtain ⟨w18, e_w18, s_w18, h_w18, y_w18⟩ := store_step x_x [.int .i64 X2.Bal, .int .i64 X2.Val, .slice AFn X2.From.length cFn, .int .i64 X2.Best, .slice AGn X2.Got.length cGn] rfl
          replace e_w18 : (((((w17.setCell ⟨wr.heap.size, 0, none⟩ (.int .i64 X2.Bal)).setCell ⟨wr.heap.size, 1, none⟩ (.int .i64 X2.Val)).setCell ⟨wr.heap.size, 2, none⟩ (.slice AFn X2.From.length cFn)).setCell ⟨wr.heap.size, 3, none⟩ (.int .i64 X2.Best)).setCell ⟨wr.heap.size, 4, none⟩ (.slice AGn X2.Got.length cGn)) = w18 := e_w18
          have s_w18_1 := Nat.le_of_eq s_w18
          have s_w18_2 := Nat.le_of_eq s_w18.symm
          clear s_w18
          replace x_c := x_c.chg h_w18 (by omega)
          replace x_p := x_p.chg h_w18 (by omega)
          replace x_q := x_q.chg h_w18 (by omega)
          replace x_a := x_a.chg h_w18 (by omega)
          replace o_p := o_p.chg h_w18 (by simp)
          replace o_q := o_q.chg h_w18 (by simp)
          replace o_x := o_x.chg h_w18 (by simp)
          replace o_l := o_l.chg h_w18 (by omega)
          have B_w18 := Below.chg_ B_w17 h_w18 (by omega) (by omega)
          have z_w18 := h_w18.size
          replace x_x := y_w18
          clear y_w18
          obtain ⟨c_x_0_w18, f_x_0_w18, c_x_1_w18, f_x_1_w18, c_x_2_w18, f_x_2_w18, c_x_3_w18, f_x_3_w18, c_x_4_w18, f_x_4_w18⟩ := x_x.k5
          obtain ⟨c_a_0_w18, f_a_0_w18, c_a_1_w18, f_a_1_w18, c_a_2_w18, f_a_2_w18⟩ := x_a.k3
          have c_c_0_w18 := x_c.ac0 hI
          have c_c_1_w18 := x_c.ac1 hI
          have c_c_2_w18 := x_c.ac2 hI
          have f_c_0_w18 := x_c.frozen (I * 3)
          have f_c_1_w18 := x_c.frozen (I * 3 + 1)
          have f_c_2_w18 := x_c.frozen (I * 3 + 2)
          obtain ⟨w19, e_w19, s_w19, h_w19, y_w19⟩ := acc_store x_c hI D
          replace x_p := x_p.chg h_w19 (by omega)
          replace x_q := x_q.chg h_w19 (by omega)
          replace x_x := x_x.chg h_w19 (by omega)
          replace x_a := x_a.chg h_w19 (by omega)
          replace o_p := o_p.chg h_w19 (by simp)
          replace o_q := o_q.chg h_w19 (by simp)
          replace o_x := o_x.chg h_w19 (by simp)
          replace o_l := o_l.chg h_w19 (by omega)
          have B_w19 := Below.chg_ B_w18 h_w19 (by omega) (by omega)
          have z_w19 := h_w19.size
          rw [HA2.out] at y_w19
          replace x_c := y_w19
          clear y_w19
          obtain ⟨c_x_0_w19, f_x_0_w19, c_x_1_w19, f_x_1_w19, c_x_2_w19, f_x_2_w19, c_x_3_w19, f_x_3_w19, c_x_4_w19, f_x_4_w19⟩ := x_x.k5
          obtain ⟨c_p_0_w19, f_p_0_w19, c_p_1_w19, f_p_1_w19, c_p_2_w19, f_p_2_w19, c_p_3_w19, f_p_3_w19, c_p_4_w19, f_p_4_w19⟩ := x_p.k5
          obtain ⟨w20, e_w20, s_w20, h_w20, y_w20⟩ := store_step x_p [.int .i64 X2.Bal, .int .i64 X2.Val, .slice AFn X2.From.length cFn, .int .i64 X2.Best, .slice AGn X2.Got.length cGn] rfl
          replace e_w20 : (((((w19.setCell ⟨w2b.heap.size, 0, none⟩ (.int .i64 X2.Bal)).setCell ⟨w2b.heap.size, 1, none⟩ (.int .i64 X2.Val)).setCell ⟨w2b.heap.size, 2, none⟩ (.slice AFn X2.From.length cFn)).setCell ⟨w2b.heap.size, 3, none⟩ (.int .i64 X2.Best)).setCell ⟨w2b.heap.size, 4, none⟩ (.slice AGn X2.Got.length cGn)) = w20 := e_w20
          have s_w20_1 := Nat.le_of_eq s_w20
          have s_w20_2 := Nat.le_of_eq s_w20.symm
          clear s_w20
          replace x_c := x_c.chg h_w20 (by omega)
          replace x_q := x_q.chg h_w20 (by omega)
          replace x_x := x_x.chg h_w20 (by omega)
          replace x_a := x_a.chg h_w20 (by omega)
          replace o_p := o_p.chg h_w20 (by simp)
          replace o_q := o_q.chg h_w20 (by simp)
          replace o_x := o_x.chg h_w20 (by simp)
          replace o_l := o_l.chg h_w20 (by omega)
          have B_w20 := Below.chg_ B_w19 h_w20 (by omega) (by omega)
          have z_w20 := h_w20.size
          replace x_p := y_w20
          clear y_w20
          have HA1 : Hid (accOkB (acc2 I) = true) := (HV2.out.ia I hI).ok
          have HP1 : Hid (propOkB X2 = true) := HV2.out.ip.ok (.inl rfl)
          have c_c_0_w20 := x_c.ac0 hI
          have c_c_1_w20 := x_c.ac1 hI
          have c_c_2_w20 := x_c.ac2 hI
          have f_c_0_w20 := x_c.frozen (I * 3)
          have f_c_1_w20 := x_c.frozen (I * 3 + 1)
          have f_c_2_w20 := x_c.frozen (I * 3 + 2)
          obtain ⟨c_x_0_w20, f_x_0_w20, c_x_1_w20, f_x_1_w20, c_x_2_w20, f_x_2_w20, c_x_3_w20, f_x_3_w20, c_x_4_w20, f_x_4_w20⟩ := x_x.k5
          go_wp2_with fail
          refine (iAccOk_c (a := acc2 I) (ov_acc (d := acc2 I) (lo := 0) (hi := 0) (Nat.zero_le _)).rd).mono ?_
          rintro e w21 ⟨rfl, h_w21⟩
          clear c_x_0_w17 f_x_0_w17 c_x_1_w17 f_x_1_w17 c_x_2_w17 f_x_2_w17 c_x_3_w17 f_x_3_w17 c_x_4_w17 f_x_4_w17 c_a_0_w17 f_a_0_w17 c_a_1_w17 f_a_1_w17 c_a_2_w17 f_a_2_w17 c_c_0_w17 c_c_1_w17 c_c_2_w17 f_c_0_w17 f_c_1_w17 f_c_2_w17 c_x_0_w18 f_x_0_w18 c_x_1_w18 f_x_1_w18 c_x_2_w18 f_x_2_w18 c_x_3_w18 f_x_3_w18 c_x_4_w18 f_x_4_w18 c_a_0_w18 f_a_0_w18 c_a_1_w18 f_a_1_w18 c_a_2_w18 f_a_2_w18 c_c_0_w18 c_c_1_w18 c_c_2_w18 f_c_0_w18 f_c_1_w18 f_c_2_w18 c_x_0_w19 f_x_0_w19 c_x_1_w19 f_x_1_w19 c_x_2_w19 f_x_2_w19 c_x_3_w19 f_x_3_w19 c_x_4_w19 f_x_4_w19 c_p_0_w19 f_p_0_w19 c_p_1_w19 f_p_1_w19 c_p_2_w19 f_p_2_w19 c_p_3_w19 f_p_3_w19 c_p_4_w19 f_p_4_w19 c_c_0_w20 c_c_1_w20 c_c_2_w20 f_c_0_w20 f_c_1_w20 f_c_2_w20 c_x_0_w20 f_x_0_w20 c_x_1_w20 f_x_1_w20 c_x_2_w20 f_x_2_w20 c_x_3_w20 f_x_3_w20 c_x_4_w20 f_x_4_w20
          replace x_c := x_c.from_ h_w21
          replace x_p := x_p.from_ h_w21
          replace x_q := x_q.from_ h_w21
          replace x_x := x_x.from_ h_w21
          replace x_a := x_a.from_ h_w21
          replace o_p := o_p.below h_w21
          replace o_q := o_q.below h_w21
          replace o_x := o_x.below h_w21
          replace o_l := o_l.below h_w21
          have B_w21 := B_w20.trans (h_w21.mono B_w20.size)
          have z_w21 := h_w21.size
          rw [HA1.out]
          obtain ⟨c_x_0_w21, f_x_0_w21, c_x_1_w21, f_x_1_w21, c_x_2_w21, f_x_2_w21, c_x_3_w21, f_x_3_w21, c_x_4_w21, f_x_4_w21⟩ := x_x.k5
          go_wp2_with fail
          refine (iPropOk_c (p := X2) o_x.rd HV2.out.ip.bulk).mono ?_
          rintro e w22 ⟨rfl, h_w22⟩
          clear c_x_0_w21 f_x_0_w21 c_x_1_w21 f_x_1_w21 c_x_2_w21 f_x_2_w21 c_x_3_w21 f_x_3_w21 c_x_4_w21 f_x_4_w21
          replace x_c := x_c.from_ h_w22
          replace x_p := x_p.from_ h_w22
          replace x_q := x_q.from_ h_w22
          replace x_x := x_x.from_ h_w22
          replace x_a := x_a.from_ h_w22
          replace o_p := o_p.below h_w22
          replace o_q := o_q.below h_w22
          replace o_x := o_x.below h_w22
          replace o_l := o_l.below h_w22
          have B_w22 := B_w21.trans (h_w22.mono B_w21.size)
          have z_w22 := h_w22.size
          rw [HP1.out]
          go_wp2
          go_roundw
          case rel => exact ⟨k + 1, acc2, X2, Q, _, _, _, _, _, _, _, _, by omega, by go_num, HV2, x_c, x_p, x_q, o_x.less (by simp), o_q.less (by simp), o_l, B_w22, by omega⟩
          case measure => simp [intOf]; omega
       case neg =>
        have HG : Hid (accTakeB (acc I) P.Bal P.Val = false) := by show _ = _; simpa using hgd
        have HD := Lib.hid hD
        clear hD hgd
        go_wp2_with fail
        refine wp_region_held (S := fun u => Vr u w.heap.size 33 (accCells acc) ∧ Vr u wr.heap.size 26 [.int .i64 P.Bal, .int .i64 P.Val, .slice AFp P.From.length cFp, .int .i64 P.Best, .slice AGp P.Got.length cGp]) (by kernel_rfl) ?_
        obtain ⟨w13, hwd⟩ : ∃ x, ({ heap := w12.heap, tape := w12.tape, drawn := w12.drawn + 1, os := w12.os, output := w12.output } : World) = x := ⟨_, rfl⟩
        have h_w13 : Below w12.heap.size w12 w13 := by rw [← hwd]; exact (Below.refl w12.heap.size w12).drew
        replace x_c := x_c.from_ h_w13
        replace x_p := x_p.from_ h_w13
        replace x_q := x_q.from_ h_w13
        replace x_x := x_x.from_ h_w13
        replace o_p := o_p.below h_w13
        replace o_q := o_q.below h_w13
        replace o_x := o_x.below h_w13
        replace o_l := o_l.below h_w13
        have B_w13 := B_w12.trans (h_w13.mono B_w12.size)
        have z_w13 := h_w13.size
        rw [hwd]
        clear hwd
        refine takeH (i := 0) (v := ?v91) (d := some 88) rfl rfl (by kernel_rfl) (by kernel_rfl) (by kernel_rfl) (fun _ _ _ h => h) (Or.inl ⟨by rfl, ?y91⟩) ⟨x_c, x_x⟩ ?r91
        case y91 => (intro W hW; go_simp; try (with_reducible rfl))
        simp only [Act.put, List.setIfInBounds_toArray, List.set_cons_zero, List.set_cons_succ]
        refine takeH (i := 1) (v := ?v92) (d := some 89) rfl rfl (by kernel_rfl) (by kernel_rfl) (by kernel_rfl) (fun _ _ _ h => h) (Or.inl ⟨by rfl, ?y92⟩) ⟨x_c, x_x⟩ ?r92
        case y92 => (intro W hW; go_simp; try (with_reducible rfl))
        simp only [Act.put, List.setIfInBounds_toArray, List.set_cons_zero, List.set_cons_succ]
        refine takeH (i := 2) (v := ?v93) (d := some 90) rfl rfl (by kernel_rfl) (by kernel_rfl) (by kernel_rfl) (fun _ _ _ h => h) (Or.inl ⟨by rfl, ?y93⟩) ⟨x_c, x_x⟩ ?r93
        case y93 => (intro W hW; go_simp; try (with_reducible rfl))
        simp only [Act.put, List.setIfInBounds_toArray, List.set_cons_zero, List.set_cons_succ]
        refine takeH (i := 3) (v := ?v94) (d := some 91) rfl rfl (by kernel_rfl) (by kernel_rfl) (by kernel_rfl) (fun _ _ _ h => h) (Or.inl ⟨by rfl, ?y94⟩) ⟨x_c, x_x⟩ ?r94
        case y94 => (intro W hW; have k0 := hW.1.ac0 hI; have k1 := hW.1.ac1 hI; have k2 := hW.1.ac2 hI; go_simp; try (with_reducible rfl))
        simp only [Act.put, List.setIfInBounds_toArray, List.set_cons_zero, List.set_cons_succ]
        refine takeH (i := 4) (v := ?v95) (d := some 92) rfl rfl (by kernel_rfl) (by kernel_rfl) (by kernel_rfl) (fun _ _ _ h => h) (Or.inl ⟨by rfl, ?y95⟩) ⟨x_c, x_x⟩ ?r95
        case y95 => (intro W hW; go_simp; try (with_reducible rfl))
        simp only [Act.put, List.setIfInBounds_toArray, List.set_cons_zero, List.set_cons_succ]
        refine takeH (i := 5) (v := ?v96) (d := some 93) rfl rfl (by kernel_rfl) (by kernel_rfl) (by kernel_rfl) (fun _ _ _ h => h) (Or.inl ⟨by rfl, ?y96⟩) ⟨x_c, x_x⟩ ?r96
        case y96 => (intro W hW; have j0 := hW.2.cell (i := 0) rfl; have j1 := hW.2.cell (i := 1) rfl; have j2 := hW.2.cell (i := 2) rfl; have j3 := hW.2.cell (i := 3) rfl; have j4 := hW.2.cell (i := 4) rfl; go_simp; try (with_reducible rfl))
        simp only [Act.put, List.setIfInBounds_toArray, List.set_cons_zero, List.set_cons_succ]
        refine takeH (i := 6) (v := ?v97) (d := some 94) rfl rfl (by kernel_rfl) (by kernel_rfl) (by kernel_rfl) (fun _ _ _ h => h) (Or.inl ⟨by rfl, ?y97⟩) ⟨x_c, x_x⟩ ?r97
        case y97 => (intro W hW; go_simp; try (with_reducible rfl))
        simp only [Act.put, List.setIfInBounds_toArray, List.set_cons_zero, List.set_cons_succ]
        refine takeH (i := 7) (v := ?v98) (d := some 95) rfl rfl (by kernel_rfl) (by kernel_rfl) (by kernel_rfl) (fun _ _ _ h => h) (Or.inl ⟨by rfl, ?y98⟩) ⟨x_c, x_x⟩ ?r98
        case y98 => (intro W hW; have j0 := hW.2.cell (i := 0) rfl; have j1 := hW.2.cell (i := 1) rfl; have j2 := hW.2.cell (i := 2) rfl; have j3 := hW.2.cell (i := 3) rfl; have j4 := hW.2.cell (i := 4) rfl; go_simp; try (with_reducible rfl))
        simp only [Act.put, List.setIfInBounds_toArray, List.set_cons_zero, List.set_cons_succ]
        refine wpAnyH_ready (rs := [8, 12]) (by kernel_rfl) (by simp) ?_
        refine AllReadyH.cons rfl (fun K hK => ?_) (AllReadyH.cons rfl (fun K hK => ?_) AllReadyH.nil)
        · go_simp
          skip
          refine (iAccTake_c (a := acc I) (b := P.Bal) (u := P.Val) (ov_acc (d := acc I) (lo := 0) (hi := 0) (Nat.zero_le _)).rd hXb hXv).mono ?_
          rintro e w14 ⟨v9, rfl, o_a, h_w14⟩
          replace x_c := x_c.from_ h_w14
          replace x_p := x_p.from_ h_w14
          replace x_q := x_q.from_ h_w14
          replace x_x := x_x.from_ h_w14
          replace o_p := o_p.below h_w14
          replace o_q := o_q.below h_w14
          replace o_x := o_x.below h_w14
          replace o_l := o_l.below h_w14
          have B_w14 := B_w13.trans (h_w14.mono B_w13.size)
          have z_w14 := h_w14.size
          rw [HD.out] at o_a
          rw [HG.out]
          obtain rfl := rv_acc o_a.rd
          clear o_a
          go_simp
          refine hK.out _ _ ⟨x_c, x_x⟩ (fun _ => ?_)
          clear hK K
          refine takeH (i := 9) (v := ?v99) (d := some 87) rfl rfl (by kernel_rfl) (by kernel_rfl) (by kernel_rfl) (fun _ _ _ h => h) (Or.inl ⟨by rfl, ?y99⟩) ⟨x_c, x_x⟩ ?r99
          case y99 => (intro W hW; go_simp; try (with_reducible rfl))
          simp only [Act.put, List.setIfInBounds_toArray, List.set_cons_zero, List.set_cons_succ]
          refine takeH (i := 10) (v := ?v100) (d := some 97) rfl rfl (by kernel_rfl) (by kernel_rfl) (by kernel_rfl) (fun _ _ _ h => h) (Or.inl ⟨by rfl, ?y100⟩) ⟨x_c, x_x⟩ ?r100
          case y100 => (intro W hW; go_simp; try (with_reducible rfl))
          simp only [Act.put, List.setIfInBounds_toArray, List.set_cons_zero, List.set_cons_succ]
          refine takeH (i := 11) (v := ?v101) (d := some 98) rfl rfl (by kernel_rfl) (by kernel_rfl) (by kernel_rfl) (fun _ _ _ h => h) (Or.inl ⟨by rfl, ?y101⟩) ⟨x_c, x_x⟩ ?r101
          case y101 => (intro W hW; go_simp; try (with_reducible rfl))
          simp only [Act.put, List.setIfInBounds_toArray, List.set_cons_zero, List.set_cons_succ]
          refine wpAnyH_ready (rs := [12]) (by kernel_rfl) (by simp) ?_
          refine AllReadyH.cons rfl (fun K hK => ?_) AllReadyH.nil
          obtain ⟨w15, e_w15, s_w15, h_w15, x_a⟩ := alloc_step w14 33 [.int .i64 0, .int .i64 0, .int .i64 0]
          have s_w15_1 := Nat.le_of_eq s_w15
          have s_w15_2 := Nat.le_of_eq s_w15.symm
          clear s_w15
          replace o_p := o_p.more (Nat.le_refl w14.heap.size)
          replace o_q := o_q.more (Nat.le_refl w14.heap.size)
          replace o_x := o_x.more (Nat.le_refl w14.heap.size)
          replace x_c := x_c.from_ h_w15
          replace x_p := x_p.from_ h_w15
          replace x_q := x_q.from_ h_w15
          replace x_x := x_x.from_ h_w15
          replace o_p := o_p.below h_w15
          replace o_q := o_q.below h_w15
          replace o_x := o_x.below h_w15
          replace o_l := o_l.below h_w15
          have B_w15 := B_w14.trans (h_w15.mono B_w14.size)
          have z_w15 := h_w15.size
          go_simp
          refine hK.out _ _ ⟨x_c, x_x⟩ (fun _ => ?_)
          clear hK K
          obtain ⟨c_a_0_w15, f_a_0_w15, c_a_1_w15, f_a_1_w15, c_a_2_w15, f_a_2_w15⟩ := x_a.k3
          obtain ⟨w16, e_w16, s_w16, h_w16, y_w16⟩ := store_step x_a [.int .i64 D.Prom, .int .i64 D.Bal, .int .i64 D.Val] rfl
          replace e_w16 : (((w15.setCell ⟨w14.heap.size, 0, none⟩ (.int .i64 D.Prom)).setCell ⟨w14.heap.size, 1, none⟩ (.int .i64 D.Bal)).setCell ⟨w14.heap.size, 2, none⟩ (.int .i64 D.Val)) = w16 := e_w16
          have s_w16_1 := Nat.le_of_eq s_w16
          have s_w16_2 := Nat.le_of_eq s_w16.symm
          clear s_w16
          replace x_c := x_c.chg h_w16 (by omega)
          replace x_p := x_p.chg h_w16 (by omega)
          replace x_q := x_q.chg h_w16 (by omega)
          replace x_x := x_x.chg h_w16 (by omega)
          replace o_p := o_p.chg h_w16 (by simp)
          replace o_q := o_q.chg h_w16 (by simp)
          replace o_x := o_x.chg h_w16 (by simp)
          replace o_l := o_l.chg h_w16 (by omega)
          have B_w16 := Below.chg_ B_w15 h_w16 (by omega) (by omega)
          have z_w16 := h_w16.size
          replace x_a := y_w16
          clear y_w16
          refine wpAnyH_ready (rs := [13]) (by kernel_rfl) (by simp) ?_
          refine AllReadyH.cons rfl (fun K hK => ?_) AllReadyH.nil
          go_simp
          refine hK.out _ _ ⟨x_c, x_x⟩ (fun _ => ?_)
          clear hK K
          clear c_a_0_w15 f_a_0_w15 c_a_1_w15 f_a_1_w15 c_a_2_w15 f_a_2_w15
          refine wpAnyH_ready (rs := [14]) (by kernel_rfl) (by simp) ?_
          refine AllReadyH.cons rfl (fun K hK => ?_) AllReadyH.nil
          go_simp
          refine hK.out _ _ ⟨x_c, x_x⟩ (fun _ => ?_)
          clear hK K
          refine wpAnyH_done (by kernel_rfl) ?_ _
          obtain ⟨c_x_0_w16, f_x_0_w16, c_x_1_w16, f_x_1_w16, c_x_2_w16, f_x_2_w16, c_x_3_w16, f_x_3_w16, c_x_4_w16, f_x_4_w16⟩ := x_x.k5
          obtain ⟨c_p_0_w16, f_p_0_w16, c_p_1_w16, f_p_1_w16, c_p_2_w16, f_p_2_w16, c_p_3_w16, f_p_3_w16, c_p_4_w16, f_p_4_w16⟩ := x_p.k5
          obtain ⟨w17, e_w17, s_w17, h_w17, y_w17⟩ := store_step x_p [.int .i64 P.Bal, .int .i64 P.Val, .slice AFp P.From.length cFp, .int .i64 P.Best, .slice AGp P.Got.length cGp] rfl
          replace e_w17 : (((((w16.setCell ⟨w2b.heap.size, 0, none⟩ (.int .i64 P.Bal)).setCell ⟨w2b.heap.size, 1, none⟩ (.int .i64 P.Val)).setCell ⟨w2b.heap.size, 2, none⟩ (.slice AFp P.From.length cFp)).setCell ⟨w2b.heap.size, 3, none⟩ (.int .i64 P.Best)).setCell ⟨w2b.heap.size, 4, none⟩ (.slice AGp P.Got.length cGp)) = w17 := e_w17
          have s_w17_1 := Nat.le_of_eq s_w17
          have s_w17_2 := Nat.le_of_eq s_w17.symm
          clear s_w17
          replace x_c := x_c.chg h_w17 (by omega)
          replace x_q := x_q.chg h_w17 (by omega)
          replace x_x := x_x.chg h_w17 (by omega)
          replace x_a := x_a.chg h_w17 (by omega)
          replace o_p := o_p.chg h_w17 (by simp)
          replace o_q := o_q.chg h_w17 (by simp)
          replace o_x := o_x.chg h_w17 (by simp)
          replace o_l := o_l.chg h_w17 (by omega)
          have B_w17 := Below.chg_ B_w16 h_w17 (by omega) (by omega)
          have z_w17 := h_w17.size
          replace x_p := y_w17
          clear y_w17
          have HA1 : Hid (accOkB (acc I) = true) := (HV.out.ia I hI).ok
          have HP1 : Hid (propOkB P = true) := HV.out.ip.ok (.inl rfl)
          have c_c_0_w17 := x_c.ac0 hI
          have c_c_1_w17 := x_c.ac1 hI
          have c_c_2_w17 := x_c.ac2 hI
          have f_c_0_w17 := x_c.frozen (I * 3)
          have f_c_1_w17 := x_c.frozen (I * 3 + 1)
          have f_c_2_w17 := x_c.frozen (I * 3 + 2)
          obtain ⟨c_x_0_w17, f_x_0_w17, c_x_1_w17, f_x_1_w17, c_x_2_w17, f_x_2_w17, c_x_3_w17, f_x_3_w17, c_x_4_w17, f_x_4_w17⟩ := x_x.k5
          go_wp2_with fail
          refine (iAccOk_c (a := acc I) (ov_acc (d := acc I) (lo := 0) (hi := 0) (Nat.zero_le _)).rd).mono ?_
          rintro e w18 ⟨rfl, h_w18⟩
          clear c_x_0_w16 f_x_0_w16 c_x_1_w16 f_x_1_w16 c_x_2_w16 f_x_2_w16 c_x_3_w16 f_x_3_w16 c_x_4_w16 f_x_4_w16 c_p_0_w16 f_p_0_w16 c_p_1_w16 f_p_1_w16 c_p_2_w16 f_p_2_w16 c_p_3_w16 f_p_3_w16 c_p_4_w16 f_p_4_w16 c_c_0_w17 c_c_1_w17 c_c_2_w17 f_c_0_w17 f_c_1_w17 f_c_2_w17 c_x_0_w17 f_x_0_w17 c_x_1_w17 f_x_1_w17 c_x_2_w17 f_x_2_w17 c_x_3_w17 f_x_3_w17 c_x_4_w17 f_x_4_w17
          replace x_c := x_c.from_ h_w18
          replace x_p := x_p.from_ h_w18
          replace x_q := x_q.from_ h_w18
          replace x_x := x_x.from_ h_w18
          replace x_a := x_a.from_ h_w18
          replace o_p := o_p.below h_w18
          replace o_q := o_q.below h_w18
          replace o_x := o_x.below h_w18
          replace o_l := o_l.below h_w18
          have B_w18 := B_w17.trans (h_w18.mono B_w17.size)
          have z_w18 := h_w18.size
          rw [HA1.out]
          obtain ⟨c_x_0_w18, f_x_0_w18, c_x_1_w18, f_x_1_w18, c_x_2_w18, f_x_2_w18, c_x_3_w18, f_x_3_w18, c_x_4_w18, f_x_4_w18⟩ := x_x.k5
          go_wp2_with fail
          refine (iPropOk_c (p := P) o_x.rd HV.out.ip.bulk).mono ?_
          rintro e w19 ⟨rfl, h_w19⟩
          clear c_x_0_w18 f_x_0_w18 c_x_1_w18 f_x_1_w18 c_x_2_w18 f_x_2_w18 c_x_3_w18 f_x_3_w18 c_x_4_w18 f_x_4_w18
          replace x_c := x_c.from_ h_w19
          replace x_p := x_p.from_ h_w19
          replace x_q := x_q.from_ h_w19
          replace x_x := x_x.from_ h_w19
          replace x_a := x_a.from_ h_w19
          replace o_p := o_p.below h_w19
          replace o_q := o_q.below h_w19
          replace o_x := o_x.below h_w19
          replace o_l := o_l.below h_w19
          have B_w19 := B_w18.trans (h_w19.mono B_w18.size)
          have z_w19 := h_w19.size
          rw [HP1.out]
          go_wp2
          go_roundw
          case rel => exact ⟨k + 1, acc, P, Q, _, _, _, _, _, _, _, _, by omega, by go_num, HV, x_c, x_p, x_q, o_x.less (by simp), o_q.less (by simp), o_l, B_w19, by omega⟩
          case measure => simp [intOf]; omega
        · obtain ⟨w14, e_w14, s_w14, h_w14, x_a⟩ := alloc_step w13 33 [.int .i64 0, .int .i64 0, .int .i64 0]
          have s_w14_1 := Nat.le_of_eq s_w14
          have s_w14_2 := Nat.le_of_eq s_w14.symm
          clear s_w14
          replace o_p := o_p.more (Nat.le_refl w13.heap.size)
          replace o_q := o_q.more (Nat.le_refl w13.heap.size)
          replace o_x := o_x.more (Nat.le_refl w13.heap.size)
          replace x_c := x_c.from_ h_w14
          replace x_p := x_p.from_ h_w14
          replace x_q := x_q.from_ h_w14
          replace x_x := x_x.from_ h_w14
          replace o_p := o_p.below h_w14
          replace o_q := o_q.below h_w14
          replace o_x := o_x.below h_w14
          replace o_l := o_l.below h_w14
          have B_w14 := B_w13.trans (h_w14.mono B_w13.size)
          have z_w14 := h_w14.size
          go_simp
          refine hK.out _ _ ⟨x_c, x_x⟩ (fun _ => ?_)
          clear hK K
          refine wpAnyH_ready (rs := [8]) (by kernel_rfl) (by simp) ?_
          refine AllReadyH.cons rfl (fun K hK => ?_) AllReadyH.nil
          go_simp
          skip
          refine (iAccTake_c (a := acc I) (b := P.Bal) (u := P.Val) (ov_acc (d := acc I) (lo := 0) (hi := 0) (Nat.zero_le _)).rd hXb hXv).mono ?_
          rintro e w15 ⟨v9, rfl, o_a, h_w15⟩
          replace x_c := x_c.from_ h_w15
          replace x_p := x_p.from_ h_w15
          replace x_q := x_q.from_ h_w15
          replace x_x := x_x.from_ h_w15
          replace x_a := x_a.from_ h_w15
          replace o_p := o_p.below h_w15
          replace o_q := o_q.below h_w15
          replace o_x := o_x.below h_w15
          replace o_l := o_l.below h_w15
          have B_w15 := B_w14.trans (h_w15.mono B_w14.size)
          have z_w15 := h_w15.size
          rw [HD.out] at o_a
          rw [HG.out]
          obtain rfl := rv_acc o_a.rd
          clear o_a
          go_simp
          refine hK.out _ _ ⟨x_c, x_x⟩ (fun _ => ?_)
          clear hK K
          refine takeH (i := 9) (v := ?v102) (d := some 87) rfl rfl (by kernel_rfl) (by kernel_rfl) (by kernel_rfl) (fun _ _ _ h => h) (Or.inl ⟨by rfl, ?y102⟩) ⟨x_c, x_x⟩ ?r102
          case y102 => (intro W hW; go_simp; try (with_reducible rfl))
          simp only [Act.put, List.setIfInBounds_toArray, List.set_cons_zero, List.set_cons_succ]
          refine takeH (i := 10) (v := ?v103) (d := some 97) rfl rfl (by kernel_rfl) (by kernel_rfl) (by kernel_rfl) (fun _ _ _ h => h) (Or.inl ⟨by rfl, ?y103⟩) ⟨x_c, x_x⟩ ?r103
          case y103 => (intro W hW; go_simp; try (with_reducible rfl))
          simp only [Act.put, List.setIfInBounds_toArray, List.set_cons_zero, List.set_cons_succ]
          refine takeH (i := 11) (v := ?v104) (d := some 98) rfl rfl (by kernel_rfl) (by kernel_rfl) (by kernel_rfl) (fun _ _ _ h => h) (Or.inl ⟨by rfl, ?y104⟩) ⟨x_c, x_x⟩ ?r104
          case y104 => (intro W hW; go_simp; try (with_reducible rfl))
          simp only [Act.put, List.setIfInBounds_toArray, List.set_cons_zero, List.set_cons_succ]
          obtain ⟨c_a_0_w15, f_a_0_w15, c_a_1_w15, f_a_1_w15, c_a_2_w15, f_a_2_w15⟩ := x_a.k3
          obtain ⟨w16, e_w16, s_w16, h_w16, y_w16⟩ := store_step x_a [.int .i64 D.Prom, .int .i64 D.Bal, .int .i64 D.Val] rfl
          replace e_w16 : (((w15.setCell ⟨w13.heap.size, 0, none⟩ (.int .i64 D.Prom)).setCell ⟨w13.heap.size, 1, none⟩ (.int .i64 D.Bal)).setCell ⟨w13.heap.size, 2, none⟩ (.int .i64 D.Val)) = w16 := e_w16
          have s_w16_1 := Nat.le_of_eq s_w16
          have s_w16_2 := Nat.le_of_eq s_w16.symm
          clear s_w16
          replace x_c := x_c.chg h_w16 (by omega)
          replace x_p := x_p.chg h_w16 (by omega)
          replace x_q := x_q.chg h_w16 (by omega)
          replace x_x := x_x.chg h_w16 (by omega)
          replace o_p := o_p.chg h_w16 (by simp)
          replace o_q := o_q.chg h_w16 (by simp)
          replace o_x := o_x.chg h_w16 (by simp)
          replace o_l := o_l.chg h_w16 (by omega)
          have B_w16 := Below.chg_ B_w15 h_w16 (by omega) (by omega)
          have z_w16 := h_w16.size
          replace x_a := y_w16
          clear y_w16
          refine wpAnyH_ready (rs := [13]) (by kernel_rfl) (by simp) ?_
          refine AllReadyH.cons rfl (fun K hK => ?_) AllReadyH.nil
          go_simp
          refine hK.out _ _ ⟨x_c, x_x⟩ (fun _ => ?_)
          clear hK K
          clear c_a_0_w15 f_a_0_w15 c_a_1_w15 f_a_1_w15 c_a_2_w15 f_a_2_w15
          refine wpAnyH_ready (rs := [14]) (by kernel_rfl) (by simp) ?_
          refine AllReadyH.cons rfl (fun K hK => ?_) AllReadyH.nil
          go_simp
          refine hK.out _ _ ⟨x_c, x_x⟩ (fun _ => ?_)
          clear hK K
          refine wpAnyH_done (by kernel_rfl) ?_ _
          obtain ⟨c_x_0_w16, f_x_0_w16, c_x_1_w16, f_x_1_w16, c_x_2_w16, f_x_2_w16, c_x_3_w16, f_x_3_w16, c_x_4_w16, f_x_4_w16⟩ := x_x.k5
          obtain ⟨c_p_0_w16, f_p_0_w16, c_p_1_w16, f_p_1_w16, c_p_2_w16, f_p_2_w16, c_p_3_w16, f_p_3_w16, c_p_4_w16, f_p_4_w16⟩ := x_p.k5
          obtain ⟨w17, e_w17, s_w17, h_w17, y_w17⟩ := store_step x_p [.int .i64 P.Bal, .int .i64 P.Val, .slice AFp P.From.length cFp, .int .i64 P.Best, .slice AGp P.Got.length cGp] rfl
          replace e_w17 : (((((w16.setCell ⟨w2b.heap.size, 0, none⟩ (.int .i64 P.Bal)).setCell ⟨w2b.heap.size, 1, none⟩ (.int .i64 P.Val)).setCell ⟨w2b.heap.size, 2, none⟩ (.slice AFp P.From.length cFp)).setCell ⟨w2b.heap.size, 3, none⟩ (.int .i64 P.Best)).setCell ⟨w2b.heap.size, 4, none⟩ (.slice AGp P.Got.length cGp)) = w17 := e_w17
          have s_w17_1 := Nat.le_of_eq s_w17
          have s_w17_2 := Nat.le_of_eq s_w17.symm
          clear s_w17
          replace x_c := x_c.chg h_w17 (by omega)
          replace x_q := x_q.chg h_w17 (by omega)
          replace x_x := x_x.chg h_w17 (by omega)
          replace x_a := x_a.chg h_w17 (by omega)
          replace o_p := o_p.chg h_w17 (by simp)
          replace o_q := o_q.chg h_w17 (by simp)
          replace o_x := o_x.chg h_w17 (by simp)
          replace o_l := o_l.chg h_w17 (by omega)
          have B_w17 := Below.chg_ B_w16 h_w17 (by omega) (by omega)
          have z_w17 := h_w17.size
          replace x_p := y_w17
          clear y_w17
          have HA1 : Hid (accOkB (acc I) = true) := (HV.out.ia I hI).ok
          have HP1 : Hid (propOkB P = true) := HV.out.ip.ok (.inl rfl)
          have c_c_0_w17 := x_c.ac0 hI
          have c_c_1_w17 := x_c.ac1 hI
          have c_c_2_w17 := x_c.ac2 hI
          have f_c_0_w17 := x_c.frozen (I * 3)
          have f_c_1_w17 := x_c.frozen (I * 3 + 1)
          have f_c_2_w17 := x_c.frozen (I * 3 + 2)
          obtain ⟨c_x_0_w17, f_x_0_w17, c_x_1_w17, f_x_1_w17, c_x_2_w17, f_x_2_w17, c_x_3_w17, f_x_3_w17, c_x_4_w17, f_x_4_w17⟩ := x_x.k5
          go_wp2_with fail
          refine (iAccOk_c (a := acc I) (ov_acc (d := acc I) (lo := 0) (hi := 0) (Nat.zero_le _)).rd).mono ?_
          rintro e w18 ⟨rfl, h_w18⟩
          clear c_x_0_w16 f_x_0_w16 c_x_1_w16 f_x_1_w16 c_x_2_w16 f_x_2_w16 c_x_3_w16 f_x_3_w16 c_x_4_w16 f_x_4_w16 c_p_0_w16 f_p_0_w16 c_p_1_w16 f_p_1_w16 c_p_2_w16 f_p_2_w16 c_p_3_w16 f_p_3_w16 c_p_4_w16 f_p_4_w16 c_c_0_w17 c_c_1_w17 c_c_2_w17 f_c_0_w17 f_c_1_w17 f_c_2_w17 c_x_0_w17 f_x_0_w17 c_x_1_w17 f_x_1_w17 c_x_2_w17 f_x_2_w17 c_x_3_w17 f_x_3_w17 c_x_4_w17 f_x_4_w17
          replace x_c := x_c.from_ h_w18
          replace x_p := x_p.from_ h_w18
          replace x_q := x_q.from_ h_w18
          replace x_x := x_x.from_ h_w18
          replace x_a := x_a.from_ h_w18
          replace o_p := o_p.below h_w18
          replace o_q := o_q.below h_w18
          replace o_x := o_x.below h_w18
          replace o_l := o_l.below h_w18
          have B_w18 := B_w17.trans (h_w18.mono B_w17.size)
          have z_w18 := h_w18.size
          rw [HA1.out]
          obtain ⟨c_x_0_w18, f_x_0_w18, c_x_1_w18, f_x_1_w18, c_x_2_w18, f_x_2_w18, c_x_3_w18, f_x_3_w18, c_x_4_w18, f_x_4_w18⟩ := x_x.k5
          go_wp2_with fail
          refine (iPropOk_c (p := P) o_x.rd HV.out.ip.bulk).mono ?_
          rintro e w19 ⟨rfl, h_w19⟩
          clear c_x_0_w18 f_x_0_w18 c_x_1_w18 f_x_1_w18 c_x_2_w18 f_x_2_w18 c_x_3_w18 f_x_3_w18 c_x_4_w18 f_x_4_w18
          replace x_c := x_c.from_ h_w19
          replace x_p := x_p.from_ h_w19
          replace x_q := x_q.from_ h_w19
          replace x_x := x_x.from_ h_w19
          replace x_a := x_a.from_ h_w19
          replace o_p := o_p.below h_w19
          replace o_q := o_q.below h_w19
          replace o_x := o_x.below h_w19
          replace o_l := o_l.below h_w19
          have B_w19 := B_w18.trans (h_w19.mono B_w18.size)
          have z_w19 := h_w19.size
          rw [HP1.out]
          go_wp2
          go_roundw
          case rel => exact ⟨k + 1, acc, P, Q, _, _, _, _, _, _, _, _, by omega, by go_num, HV, x_c, x_p, x_q, o_x.less (by simp), o_q.less (by simp), o_l, B_w19, by omega⟩
          case measure => simp [intOf]; omega
      case neg =>
       have HR : Hid (propReadyB P 3 = false) := by show _ = _; simpa using hrd
       clear hrd
       obtain ⟨c_p_0_wr, f_p_0_wr, c_p_1_wr, f_p_1_wr, c_p_2_wr, f_p_2_wr, c_p_3_wr, f_p_3_wr, c_p_4_wr, f_p_4_wr⟩ := x_p.k5
       obtain ⟨w11, e_w11, s_w11, h_w11, x_x⟩ := alloc_step wr 26 [.int .i64 P.Bal, .int .i64 P.Val, .slice AFp P.From.length cFp, .int .i64 P.Best, .slice AGp P.Got.length cGp]
       have s_w11_1 := Nat.le_of_eq s_w11
       have s_w11_2 := Nat.le_of_eq s_w11.symm
       clear s_w11
       replace o_p := o_p.more (Nat.le_refl wr.heap.size)
       replace o_q := o_q.more (Nat.le_refl wr.heap.size)
       replace x_c := x_c.from_ h_w11
       replace x_p := x_p.from_ h_w11
       replace x_q := x_q.from_ h_w11
       replace o_p := o_p.below h_w11
       replace o_q := o_q.below h_w11
       replace o_l := o_l.below h_w11
       have B_w11 := HB.trans (h_w11.mono HB.size)
       have z_w11 := h_w11.size
       have o_x := o_p
       obtain ⟨c_x_0_w11, f_x_0_w11, c_x_1_w11, f_x_1_w11, c_x_2_w11, f_x_2_w11, c_x_3_w11, f_x_3_w11, c_x_4_w11, f_x_4_w11⟩ := x_x.k5
       go_wp2_with fail
       refine (iPropReady_c (p := P) (n := 3) o_x.rd HV.out.ip.bulk (by omega)).mono ?_
       rintro e w12 ⟨rfl, h_w12⟩
       clear c_p_0_wr f_p_0_wr c_p_1_wr f_p_1_wr c_p_2_wr f_p_2_wr c_p_3_wr f_p_3_wr c_p_4_wr f_p_4_wr c_x_0_w11 f_x_0_w11 c_x_1_w11 f_x_1_w11 c_x_2_w11 f_x_2_w11 c_x_3_w11 f_x_3_w11 c_x_4_w11 f_x_4_w11
       replace x_c := x_c.from_ h_w12
       replace x_p := x_p.from_ h_w12
       replace x_q := x_q.from_ h_w12
       replace x_x := x_x.from_ h_w12
       replace o_p := o_p.below h_w12
       replace o_q := o_q.below h_w12
       replace o_x := o_x.below h_w12
       replace o_l := o_l.below h_w12
       have B_w12 := B_w11.trans (h_w12.mono B_w11.size)
       have z_w12 := h_w12.size
       rw [HR.out]
       obtain ⟨c_x_0_w12, f_x_0_w12, c_x_1_w12, f_x_1_w12, c_x_2_w12, f_x_2_w12, c_x_3_w12, f_x_3_w12, c_x_4_w12, f_x_4_w12⟩ := x_x.k5
       obtain ⟨c_p_0_w12, f_p_0_w12, c_p_1_w12, f_p_1_w12, c_p_2_w12, f_p_2_w12, c_p_3_w12, f_p_3_w12, c_p_4_w12, f_p_4_w12⟩ := x_p.k5
       obtain ⟨w13, e_w13, s_w13, h_w13, y_w13⟩ := store_step x_p [.int .i64 P.Bal, .int .i64 P.Val, .slice AFp P.From.length cFp, .int .i64 P.Best, .slice AGp P.Got.length cGp] rfl
       replace e_w13 : (((((w12.setCell ⟨w2b.heap.size, 0, none⟩ (.int .i64 P.Bal)).setCell ⟨w2b.heap.size, 1, none⟩ (.int .i64 P.Val)).setCell ⟨w2b.heap.size, 2, none⟩ (.slice AFp P.From.length cFp)).setCell ⟨w2b.heap.size, 3, none⟩ (.int .i64 P.Best)).setCell ⟨w2b.heap.size, 4, none⟩ (.slice AGp P.Got.length cGp)) = w13 := e_w13
       have s_w13_1 := Nat.le_of_eq s_w13
       have s_w13_2 := Nat.le_of_eq s_w13.symm
       clear s_w13
       replace x_c := x_c.chg h_w13 (by omega)
       replace x_q := x_q.chg h_w13 (by omega)
       replace x_x := x_x.chg h_w13 (by omega)
       replace o_p := o_p.chg h_w13 (by simp)
       replace o_q := o_q.chg h_w13 (by simp)
       replace o_x := o_x.chg h_w13 (by simp)
       replace o_l := o_l.chg h_w13 (by omega)
       have B_w13 := Below.chg_ B_w12 h_w13 (by omega) (by omega)
       have z_w13 := h_w13.size
       replace x_p := y_w13
       clear y_w13
       have HA1 : Hid (accOkB (acc I) = true) := (HV.out.ia I hI).ok
       have HP1 : Hid (propOkB P = true) := HV.out.ip.ok (.inl rfl)
       have c_c_0_w13 := x_c.ac0 hI
       have c_c_1_w13 := x_c.ac1 hI
       have c_c_2_w13 := x_c.ac2 hI
       have f_c_0_w13 := x_c.frozen (I * 3)
       have f_c_1_w13 := x_c.frozen (I * 3 + 1)
       have f_c_2_w13 := x_c.frozen (I * 3 + 2)
       obtain ⟨c_x_0_w13, f_x_0_w13, c_x_1_w13, f_x_1_w13, c_x_2_w13, f_x_2_w13, c_x_3_w13, f_x_3_w13, c_x_4_w13, f_x_4_w13⟩ := x_x.k5
       go_wp2_with fail
       refine (iAccOk_c (a := acc I) (ov_acc (d := acc I) (lo := 0) (hi := 0) (Nat.zero_le _)).rd).mono ?_
       rintro e w14 ⟨rfl, h_w14⟩
       clear c_x_0_w12 f_x_0_w12 c_x_1_w12 f_x_1_w12 c_x_2_w12 f_x_2_w12 c_x_3_w12 f_x_3_w12 c_x_4_w12 f_x_4_w12 c_p_0_w12 f_p_0_w12 c_p_1_w12 f_p_1_w12 c_p_2_w12 f_p_2_w12 c_p_3_w12 f_p_3_w12 c_p_4_w12 f_p_4_w12 c_c_0_w13 c_c_1_w13 c_c_2_w13 f_c_0_w13 f_c_1_w13 f_c_2_w13 c_x_0_w13 f_x_0_w13 c_x_1_w13 f_x_1_w13 c_x_2_w13 f_x_2_w13 c_x_3_w13 f_x_3_w13 c_x_4_w13 f_x_4_w13
       replace x_c := x_c.from_ h_w14
       replace x_p := x_p.from_ h_w14
       replace x_q := x_q.from_ h_w14
       replace x_x := x_x.from_ h_w14
       replace o_p := o_p.below h_w14
       replace o_q := o_q.below h_w14
       replace o_x := o_x.below h_w14
       replace o_l := o_l.below h_w14
       have B_w14 := B_w13.trans (h_w14.mono B_w13.size)
       have z_w14 := h_w14.size
       rw [HA1.out]
       obtain ⟨c_x_0_w14, f_x_0_w14, c_x_1_w14, f_x_1_w14, c_x_2_w14, f_x_2_w14, c_x_3_w14, f_x_3_w14, c_x_4_w14, f_x_4_w14⟩ := x_x.k5
       go_wp2_with fail
       refine (iPropOk_c (p := P) o_x.rd HV.out.ip.bulk).mono ?_
       rintro e w15 ⟨rfl, h_w15⟩
       clear c_x_0_w14 f_x_0_w14 c_x_1_w14 f_x_1_w14 c_x_2_w14 f_x_2_w14 c_x_3_w14 f_x_3_w14 c_x_4_w14 f_x_4_w14
       replace x_c := x_c.from_ h_w15
       replace x_p := x_p.from_ h_w15
       replace x_q := x_q.from_ h_w15
       replace x_x := x_x.from_ h_w15
       replace o_p := o_p.below h_w15
       replace o_q := o_q.below h_w15
       replace o_x := o_x.below h_w15
       replace o_l := o_l.below h_w15
       have B_w15 := B_w14.trans (h_w15.mono B_w14.size)
       have z_w15 := h_w15.size
       rw [HP1.out]
       go_wp2
       go_roundw
       case rel => exact ⟨k + 1, acc, P, Q, _, _, _, _, _, _, _, _, by omega, by go_num, HV, x_c, x_p, x_q, o_x.less (by simp), o_q.less (by simp), o_l, B_w15, by omega⟩
       case measure => simp [intOf]; omega

end Go.Proofs.Ytaoedgcdcimibaa
