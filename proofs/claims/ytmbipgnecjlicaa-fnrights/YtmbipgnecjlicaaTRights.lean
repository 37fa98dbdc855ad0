/- The type Rights: its model, its layout, and the contracts of the laws' own helpers on it. Laid by a program of ours (typegen.py). -/
import Derived.Test.YtmbipgnecjlicaaProg
import Derived.Test.YtmbipgnecjlicaaVars
import Derived.Test.YtmbipgnecjlicaaSIntSS
import Derived.Test.YtmbipgnecjlicaaLay4
namespace Go.Proofs.Ytmbipgnecjlicaa
open Go.RowKit
set_option linter.unusedVariables false

structure MRights where
  Give : List (List Int)
  Spent : List Int

def rightsL : Lay MRights := isoL (fun d => (d.Give, d.Spent)) (consL (intSSL) (numsL))

theorem sz_rights : (Try.prog.info? 27).map (·.size) = some 2 := by kernel_rfl

/-- how many values lie behind it -/
def MRights.bulk (d : MRights) : Nat := sizeSS d.Give + d.Spent.length

/-- how many marks it takes -/
def MRights.steps (d : MRights) : Nat := bulkS d.Give + d.Spent.length

theorem MRights.steps_le (d : MRights) : d.steps ≤ 1 * d.bulk := by have hGive := bulkS_le d.Give; unfold MRights.steps MRights.bulk; omega

/-- what a marking from k on makes of it -/
def MRights.mark (d : MRights) (k : Int) : MRights := ⟨marksS64 (k) d.Give, marks64 (k + (bulkS d.Give : Int)) d.Spent.length⟩

theorem rv_rights {w : World} {v : Value} {d : MRights} (h : RV rightsL w v d) : ∃ AGive cGive ASpent cSpent, v = .agg #[.slice AGive d.Give.length cGive, .slice ASpent d.Spent.length cSpent] ∧ RV intSSL w (.slice AGive d.Give.length cGive) d.Give ∧ RS .i64 w (.slice ASpent d.Spent.length cSpent) d.Spent := by
  obtain ⟨cs, rfl, hcs⟩ := h
  obtain ⟨_, _, rfl, ⟨AGive, cGive, rfl, hGive⟩, ⟨ASpent, cSpent, rfl, hSpent⟩⟩ := hcs
  exact ⟨AGive, cGive, ASpent, cSpent, rfl, ⟨[_], rfl, _, _, rfl, hGive⟩, ⟨_, _, rfl, hSpent⟩⟩

theorem cs_rights {w : World} {B : Nat} {cs : List Value} {d : MRights} (h : rightsL.rd w B cs d) : ∃ AGive cGive ASpent cSpent, cs = [.slice AGive d.Give.length cGive, .slice ASpent d.Spent.length cSpent] := by
  obtain ⟨_, _, rfl, ⟨AGive, cGive, rfl, hGive⟩, ⟨ASpent, cSpent, rfl, hSpent⟩⟩ := h
  exact ⟨AGive, cGive, ASpent, cSpent, rfl⟩

theorem rv_rights_mk {w : World} {vGive vSpent : Value} {zGive : List (List Int)} {zSpent : List Int} (hGive : RV intSSL w vGive zGive) (hSpent : RS .i64 w vSpent zSpent) : RV rightsL w (.agg #[vGive, vSpent]) ⟨zGive, zSpent⟩ := by
  obtain ⟨_, rfl, AGive, cGive, rfl, pGive⟩ := hGive
  obtain ⟨ASpent, cSpent, rfl, pSpent⟩ := hSpent
  exact ⟨_, rfl, [_], _, rfl, ⟨AGive, cGive, rfl, pGive⟩, ⟨ASpent, cSpent, rfl, pSpent⟩⟩

theorem ovp_rights {w : World} {d : MRights} {lo hi lGive hGive lSpent hSpent : Nat} {vGive vSpent : Value} (oGive : OV intSSL w lGive hGive vGive d.Give) (oSpent : OS .i64 3 w lSpent hSpent vSpent d.Spent) (hc : hi ≤ w.heap.size ∧ lo ≤ lGive ∧ hGive ≤ hi ∧ lo ≤ lSpent ∧ hSpent ≤ hi ∧ (hGive ≤ lSpent ∨ hSpent ≤ lGive)) : OVp rightsL w (fun j => lo ≤ j ∧ j < hi) [vGive, vSpent] d := by
  have h : OVp rightsL w _ [vGive, vSpent] d := OVp.iso (f := fun d : MRights => (d.Give, d.Spent)) (OVp.cons (OVp.sl oGive) (OVp.ints oSpent) (by intro j; omega))
  exact h.imp (by intro j; omega)

theorem ov_rights {w : World} {d : MRights} {lo hi lGive hGive lSpent hSpent : Nat} {vGive vSpent : Value} (oGive : OV intSSL w lGive hGive vGive d.Give) (oSpent : OS .i64 3 w lSpent hSpent vSpent d.Spent) (hc : hi ≤ w.heap.size ∧ lo ≤ lGive ∧ hGive ≤ hi ∧ lo ≤ lSpent ∧ hSpent ≤ hi ∧ (hGive ≤ lSpent ∨ hSpent ≤ lGive)) : OV rightsL w lo hi (.agg #[vGive, vSpent]) d :=
  (ovp_rights (lo := lo) (hi := hi) oGive oSpent hc).ov (fun _ h => h) hc.1

set_option maxHeartbeats 1000000 in
theorem toRights_c {w : World} {v : Value} {d : MRights} (h : RV rightsL w v d) (hm : d.bulk ≤ 16777216) : Calls Try.prog 28 #[v] w (NewV rightsL w d) := by
  obtain ⟨AGive, cGive, ASpent, cSpent, rfl, rGive, rSpent⟩ := rv_rights h
  unfold MRights.bulk at hm
  obtain ⟨wa, hwa, B0, sa, x_a, x_r, x_out⟩ := frame3 w 38 [.slice AGive d.Give.length cGive, .slice ASpent d.Spent.length cSpent] 27 [.slice none 0 0, .slice none 0 0] 27 [.slice none 0 0, .slice none 0 0]
  have sa_1 := Nat.le_of_eq sa
  have sa_2 := Nat.le_of_eq sa.symm
  clear sa
  have c_a_0_wa := x_a.cell (i := 0) rfl
  have f_a_0_wa := x_a.frozen 0
  have c_a_1_wa := x_a.cell (i := 1) rfl
  have f_a_1_wa := x_a.frozen 1
  have c_out_0_wa := x_out.cell (i := 0) rfl
  have f_out_0_wa := x_out.frozen 0
  have c_out_1_wa := x_out.cell (i := 1) rfl
  have f_out_1_wa := x_out.frozen 1
  go_enter Try.func28, Try.ntmps28
  go_wp2_with fail
  refine (toIntSS_c (rGive.from_ B0) (by omega)).mono ?_
  rintro e w1 ⟨uGive, rfl, oGive, h_w1⟩
  clear c_a_0_wa f_a_0_wa c_a_1_wa f_a_1_wa c_out_0_wa f_out_0_wa c_out_1_wa f_out_1_wa
  replace x_a := x_a.from_ h_w1
  replace x_r := x_r.from_ h_w1
  replace x_out := x_out.from_ h_w1
  have B_w1 := B0.trans (h_w1.mono B0.size)
  have s_w1 := h_w1.size
  obtain ⟨BGive, eGive, rfl, -, -, -⟩ := rv_slice oGive.rd
  have c_a_0_w1 := x_a.cell (i := 0) rfl
  have f_a_0_w1 := x_a.frozen 0
  have c_a_1_w1 := x_a.cell (i := 1) rfl
  have f_a_1_w1 := x_a.frozen 1
  have c_out_0_w1 := x_out.cell (i := 0) rfl
  have f_out_0_w1 := x_out.frozen 0
  have c_out_1_w1 := x_out.cell (i := 1) rfl
  have f_out_1_w1 := x_out.frozen 1
  have c_r_0_w1 := x_r.cell (i := 0) rfl
  have f_r_0_w1 := x_r.frozen 0
  have c_r_1_w1 := x_r.cell (i := 1) rfl
  have f_r_1_w1 := x_r.frozen 1
  obtain ⟨w2, e_w2, s_w2, h_w2, y⟩ := set_step x_out 0 (.slice BGive d.Give.length eGive)
  have s_w2_1 := Nat.le_of_eq s_w2
  have s_w2_2 := Nat.le_of_eq s_w2.symm
  clear s_w2
  replace x_a := x_a.chg h_w2 (by omega)
  replace x_r := x_r.chg h_w2 (by omega)
  replace oGive := oGive.chg h_w2 (by omega)
  have B_w2 := Below.chg_ B_w1 h_w2 (by omega) (by omega)
  replace x_out : Vr w2 (w.heap.size + 1 + 1) 27 [.slice BGive d.Give.length eGive, .slice none 0 0] := y
  clear y
  have c_a_0_w2 := x_a.cell (i := 0) rfl
  have f_a_0_w2 := x_a.frozen 0
  have c_a_1_w2 := x_a.cell (i := 1) rfl
  have f_a_1_w2 := x_a.frozen 1
  have c_out_0_w2 := x_out.cell (i := 0) rfl
  have f_out_0_w2 := x_out.frozen 0
  have c_out_1_w2 := x_out.cell (i := 1) rfl
  have f_out_1_w2 := x_out.frozen 1
  have c_r_0_w2 := x_r.cell (i := 0) rfl
  have f_r_0_w2 := x_r.frozen 0
  have c_r_1_w2 := x_r.cell (i := 1) rfl
  have f_r_1_w2 := x_r.frozen 1
  go_wp2_with fail
  refine (toIntS_c (rSpent.from_ B_w2) (by omega)).mono ?_
  rintro e w3 ⟨uSpent, rfl, oSpent, h_w3⟩
  clear c_a_0_w1 f_a_0_w1 c_a_1_w1 f_a_1_w1 c_out_0_w1 f_out_0_w1 c_out_1_w1 f_out_1_w1 c_r_0_w1 f_r_0_w1 c_r_1_w1 f_r_1_w1 c_a_0_w2 f_a_0_w2 c_a_1_w2 f_a_1_w2 c_out_0_w2 f_out_0_w2 c_out_1_w2 f_out_1_w2 c_r_0_w2 f_r_0_w2 c_r_1_w2 f_r_1_w2
  replace x_a := x_a.from_ h_w3
  replace x_r := x_r.from_ h_w3
  replace x_out := x_out.from_ h_w3
  replace oGive := oGive.below h_w3
  have B_w3 := B_w2.trans (h_w3.mono B_w2.size)
  have s_w3 := h_w3.size
  obtain ⟨BSpent, eSpent, rfl, -, -, -⟩ := oSpent.rd
  have c_a_0_w3 := x_a.cell (i := 0) rfl
  have f_a_0_w3 := x_a.frozen 0
  have c_a_1_w3 := x_a.cell (i := 1) rfl
  have f_a_1_w3 := x_a.frozen 1
  have c_out_0_w3 := x_out.cell (i := 0) rfl
  have f_out_0_w3 := x_out.frozen 0
  have c_out_1_w3 := x_out.cell (i := 1) rfl
  have f_out_1_w3 := x_out.frozen 1
  have c_r_0_w3 := x_r.cell (i := 0) rfl
  have f_r_0_w3 := x_r.frozen 0
  have c_r_1_w3 := x_r.cell (i := 1) rfl
  have f_r_1_w3 := x_r.frozen 1
  obtain ⟨w4, e_w4, s_w4, h_w4, y⟩ := set_step x_out 1 (.slice BSpent d.Spent.length eSpent)
  have s_w4_1 := Nat.le_of_eq s_w4
  have s_w4_2 := Nat.le_of_eq s_w4.symm
  clear s_w4
  replace x_a := x_a.chg h_w4 (by omega)
  replace x_r := x_r.chg h_w4 (by omega)
  replace oGive := oGive.chg h_w4 (by omega)
  replace oSpent := oSpent.chg h_w4 (by omega)
  have B_w4 := Below.chg_ B_w3 h_w4 (by omega) (by omega)
  replace x_out : Vr w4 (w.heap.size + 1 + 1) 27 [.slice BGive d.Give.length eGive, .slice BSpent d.Spent.length eSpent] := y
  clear y
  have c_a_0_w4 := x_a.cell (i := 0) rfl
  have f_a_0_w4 := x_a.frozen 0
  have c_a_1_w4 := x_a.cell (i := 1) rfl
  have f_a_1_w4 := x_a.frozen 1
  have c_out_0_w4 := x_out.cell (i := 0) rfl
  have f_out_0_w4 := x_out.frozen 0
  have c_out_1_w4 := x_out.cell (i := 1) rfl
  have f_out_1_w4 := x_out.frozen 1
  have c_r_0_w4 := x_r.cell (i := 0) rfl
  have f_r_0_w4 := x_r.frozen 0
  have c_r_1_w4 := x_r.cell (i := 1) rfl
  have f_r_1_w4 := x_r.frozen 1
  obtain ⟨w5, e_w5, s_w5, h_w5, y⟩ := store_step x_r [.slice BGive d.Give.length eGive, .slice BSpent d.Spent.length eSpent] rfl
  replace e_w5 : ((w4.setCell ⟨w.heap.size + 1, 0, none⟩ (.slice BGive d.Give.length eGive)).setCell ⟨w.heap.size + 1, 1, none⟩ (.slice BSpent d.Spent.length eSpent)) = w5 := e_w5
  have s_w5_1 := Nat.le_of_eq s_w5
  have s_w5_2 := Nat.le_of_eq s_w5.symm
  clear s_w5
  replace x_a := x_a.chg h_w5 (by omega)
  replace x_out := x_out.chg h_w5 (by omega)
  replace oGive := oGive.chg h_w5 (by omega)
  replace oSpent := oSpent.chg h_w5 (by omega)
  have B_w5 := Below.chg_ B_w4 h_w5 (by omega) (by omega)
  replace x_r : Vr w5 (w.heap.size + 1) 27 [.slice BGive d.Give.length eGive, .slice BSpent d.Spent.length eSpent] := y
  clear y
  have c_r_0_w5 := x_r.cell (i := 0) rfl
  have f_r_0_w5 := x_r.frozen 0
  have c_r_1_w5 := x_r.cell (i := 1) rfl
  have f_r_1_w5 := x_r.frozen 1
  go_wp2
  refine ret_cell (by rfl) (by rfl) x_r Try.underlying27 sz_rights (by rfl) ?_
  exact ⟨_, rfl, ov_rights oGive oSpent (by omega), B_w5⟩

set_option maxHeartbeats 1000000 in
theorem eqRights_same {w : World} {v v' : Value} {d : MRights} (h : RV rightsL w v d) (h' : RV rightsL w v' d) (hm : d.bulk ≤ 1073741824) : Calls Try.prog 29 #[v, v'] w fun e w' => e = .returned (.bool true) ∧ Below w.heap.size w w' := by
  obtain ⟨AGive, cGive, ASpent, cSpent, rfl, rGive, rSpent⟩ := rv_rights h
  obtain ⟨AGivex, cGivex, ASpentx, cSpentx, rfl, rxGive, rxSpent⟩ := rv_rights h'
  unfold MRights.bulk at hm
  obtain ⟨wa, hwa, B0, sa, x_a, x_b⟩ := frame2 w 27 [.slice AGive d.Give.length cGive, .slice ASpent d.Spent.length cSpent] 27 [.slice AGivex d.Give.length cGivex, .slice ASpentx d.Spent.length cSpentx]
  have sa_1 := Nat.le_of_eq sa
  have sa_2 := Nat.le_of_eq sa.symm
  clear sa
  have c_a_0_wa := x_a.cell (i := 0) rfl
  have c_a_1_wa := x_a.cell (i := 1) rfl
  have c_b_0_wa := x_b.cell (i := 0) rfl
  have c_b_1_wa := x_b.cell (i := 1) rfl
  go_enter Try.func29, Try.ntmps29
  go_wp2_with fail
  refine (eqIntSS_same (rGive.from_ B0) (rxGive.from_ B0) (by omega)).mono ?_
  rintro e w1 ⟨rfl, h_w1⟩
  clear c_a_0_wa c_a_1_wa c_b_0_wa c_b_1_wa
  replace x_a := x_a.from_ h_w1
  replace x_b := x_b.from_ h_w1
  have B_w1 := B0.trans (h_w1.mono B0.size)
  have s_w1 := h_w1.size
  have c_a_0_w1 := x_a.cell (i := 0) rfl
  have c_a_1_w1 := x_a.cell (i := 1) rfl
  have c_b_0_w1 := x_b.cell (i := 0) rfl
  have c_b_1_w1 := x_b.cell (i := 1) rfl
  go_wp2_with fail
  refine (eqIntS_same (rSpent.from_ B_w1) (rxSpent.from_ B_w1) (by omega)).mono ?_
  rintro e w2 ⟨rfl, h_w2⟩
  clear c_a_0_w1 c_a_1_w1 c_b_0_w1 c_b_1_w1
  replace x_a := x_a.from_ h_w2
  replace x_b := x_b.from_ h_w2
  have B_w2 := B_w1.trans (h_w2.mono B_w1.size)
  have s_w2 := h_w2.size
  have c_a_0_w2 := x_a.cell (i := 0) rfl
  have c_a_1_w2 := x_a.cell (i := 1) rfl
  have c_b_0_w2 := x_b.cell (i := 0) rfl
  have c_b_1_w2 := x_b.cell (i := 1) rfl
  go_wp2
  go_ret
  exact ⟨rfl, B_w2⟩

set_option maxHeartbeats 1000000 in
theorem markRights_s {w : World} {S : List Nat} {cs : List Value} {d : MRights} {k : Int} (h : rightsL.own w S cs d) (hS : S.Nodup) (hm : d.bulk ≤ 1073741824) (hk0 : 0 ≤ k) (hk1 : k ≤ 1073741824) :
    Calls Try.prog 32 #[valOf cs, .int .i64 k] w (MarkS rightsL w S cs (k + (d.steps : Int)) (d.mark k)) := by
  unfold MRights.steps
  unfold MRights.bulk sizeSS at hm
  have hlt := rightsL.own_lt h
  obtain ⟨zGive, yGive, SGive, TGive, rfl, rfl, oGive, oSpent⟩ := h
  obtain ⟨AGive, cGive, rfl, -, -, -⟩ := intSSL.own_rd oGive
  obtain ⟨ASpent, cSpent, rfl, -, -, -⟩ := numsL.own_rd oSpent
  obtain ⟨nGive, mGive, dGive, eGive⟩ := nodup_app hS
  rw [show valOf ([.slice AGive d.Give.length cGive] ++ ([.slice ASpent d.Spent.length cSpent])) = Value.agg #[.slice AGive d.Give.length cGive, .slice ASpent d.Spent.length cSpent] from rfl]
  obtain ⟨wa, hwa, B0, sa, x_a⟩ := frame1 w 27 [.slice AGive d.Give.length cGive, .slice ASpent d.Spent.length cSpent]
  have sa_1 := Nat.le_of_eq sa
  have sa_2 := Nat.le_of_eq sa.symm
  clear sa
  have c_a_0_wa := x_a.cell (i := 0) rfl
  have c_a_1_wa := x_a.cell (i := 1) rfl
  have C0 : ChgS (SGive ++ (TGive)) w wa := ChgS.of_below B0
  have hGive := fun j hj => hlt j (List.mem_append.2 (.inl hj))
  replace oGive := intSSL.own_below oGive B0
  have hSpent := fun j hj => hlt j (List.mem_append.2 (.inr hj))
  replace oSpent := numsL.own_below oSpent B0
  go_enter Try.func32, Try.ntmps32
  go_wp2_with fail
  refine (markIntSS_s oGive nGive (by omega) (by omega) (by omega) (by omega)).mono ?_
  rintro e w1 ⟨rfl, oGive, h_w1⟩
  clear c_a_0_wa c_a_1_wa
  have s_w1 := h_w1.size
  replace oSpent := numsL.own_chg oSpent h_w1 (fun a ha hj => dGive a hj (ha))
  replace x_a := x_a.chgS h_w1 (fun hj => by have := hGive _ hj; omega)
  have Cw1 := C0.trans (h_w1.more (fun j hj => List.mem_append.2 (.inl hj)))
  have c_a_0_w1 := x_a.cell (i := 0) rfl
  have c_a_1_w1 := x_a.cell (i := 1) rfl
  go_wp2_with fail
  refine (markIntS_s oSpent (by omega) (by omega) (by omega)).mono ?_
  rintro e w2 ⟨rfl, oSpent, h_w2⟩
  clear c_a_0_w1 c_a_1_w1
  have s_w2 := h_w2.size
  replace oGive := intSSL.own_chg oGive h_w2 (fun a ha hj => dGive a ha (hj))
  replace x_a := x_a.chgS h_w2 (fun hj => by have := hSpent _ hj; omega)
  have Cw2 := Cw1.trans (h_w2.more (fun j hj => List.mem_append.2 (.inr hj)))
  have c_a_0_w2 := x_a.cell (i := 0) rfl
  have c_a_1_w2 := x_a.cell (i := 1) rfl
  go_wp2
  go_ret
  exact ⟨ret_int (by omega), ⟨_, _, _, _, rfl, rfl, oGive, oSpent⟩, Cw2⟩

theorem markRights_c {w : World} {v : Value} {d : MRights} {lo hi : Nat} {k : Int} (h : OV rightsL w lo hi v d) (hm : d.bulk ≤ 1073741824) (hk0 : 0 ≤ k) (hk1 : k ≤ 1073741824) :
    Calls Try.prog 32 #[v, .int .i64 k] w fun e w' => e = .returned (.int .i64 (k + (d.steps : Int))) ∧ OV rightsL w' lo hi v (d.mark k) ∧ Chg lo hi w w' := by
  obtain ⟨cs, S, rfl, ho, hn, hS, hh⟩ := h
  exact (markRights_s ho hn hm hk0 hk1).mono fun e w' hr => hr.up hn hS hh

set_option maxHeartbeats 1000000 in
theorem heldRights_c {w : World} {v : Value} {d : MRights} {k : Int} (h : RV rightsL w v (d.mark k)) (hm : d.bulk ≤ 1073741824) (hk0 : 0 ≤ k) (hk1 : k ≤ 1073741824) :
    Calls Try.prog 33 #[v, .int .i64 k] w fun e w' => e = .returned (.int .i64 (k + (d.steps : Int))) ∧ Below w.heap.size w w' := by
  unfold MRights.steps
  unfold MRights.bulk at hm
  have hbGive := bulkS_le d.Give
  obtain ⟨AGive, cGive, ASpent, cSpent, rfl, rGive, rSpent⟩ := rv_rights h
  obtain ⟨wa, hwa, B0, sa, x_a⟩ := frame1 w 27 [.slice AGive (d.mark k).Give.length cGive, .slice ASpent (d.mark k).Spent.length cSpent]
  have sa_1 := Nat.le_of_eq sa
  have sa_2 := Nat.le_of_eq sa.symm
  clear sa
  have c_a_0_wa := x_a.cell (i := 0) rfl
  have c_a_1_wa := x_a.cell (i := 1) rfl
  go_enter Try.func33, Try.ntmps33
  go_wp2_with fail
  refine (heldIntSS_c (xs := d.Give) (rGive.from_ B0) (by omega) (by omega) (by omega)).mono ?_
  rintro e w1 ⟨rfl, h_w1⟩
  clear c_a_0_wa c_a_1_wa
  replace x_a := x_a.from_ h_w1
  have B_w1 := B0.trans (h_w1.mono B0.size)
  have s_w1 := h_w1.size
  have c_a_0_w1 := x_a.cell (i := 0) rfl
  have c_a_1_w1 := x_a.cell (i := 1) rfl
  go_wp2_with fail
  refine (heldIntS_c (n := d.Spent.length) (rSpent.from_ B_w1) (by omega) (by omega) (by omega)).mono ?_
  rintro e w2 ⟨rfl, h_w2⟩
  clear c_a_0_w1 c_a_1_w1
  replace x_a := x_a.from_ h_w2
  have B_w2 := B_w1.trans (h_w2.mono B_w1.size)
  have s_w2 := h_w2.size
  have c_a_0_w2 := x_a.cell (i := 0) rfl
  have c_a_1_w2 := x_a.cell (i := 1) rfl
  go_wp2
  go_ret
  exact ⟨ret_int (by omega), B_w2⟩

set_option maxHeartbeats 1000000 in
theorem szRights_c {w : World} {v : Value} {d : MRights} {left : Int} (h : RV rightsL w v d) (h0 : 0 ≤ left) (h1 : left ≤ 1073741824) :
    Calls Try.prog 26 #[v, .int .i64 left] w fun e w' => e = .returned (.int .i64 (szV left (d.bulk : Int))) ∧ Below w.heap.size w w' := by
  obtain ⟨AGive, cGive, ASpent, cSpent, rfl, rGive, rSpent⟩ := rv_rights h
  obtain ⟨wa, hwa, B0, sa, x_a⟩ := frame1 w 38 [.slice AGive d.Give.length cGive, .slice ASpent d.Spent.length cSpent]
  have sa_1 := Nat.le_of_eq sa
  have sa_2 := Nat.le_of_eq sa.symm
  clear sa
  have c_a_0_wa := x_a.cell (i := 0) rfl
  have c_a_1_wa := x_a.cell (i := 1) rfl
  have eb : (d.bulk : Int) = (sizeSS d.Give : Int) + (d.Spent.length : Int) := by unfold MRights.bulk; omega
  by_cases g0 : (sizeSS d.Give : Int) ≤ left
  case neg =>
    have ez : szV left (d.bulk : Int) = -1 := by unfold szV; rw [if_neg (by omega)]
    rw [ez]
    go_enter Try.func26, Try.ntmps26
    go_wp2_with fail
    refine (szIntSS_c (rGive.from_ B0) (by omega) (by omega)).mono ?_
    rintro e w1 ⟨rfl, h_w1⟩
    clear c_a_0_wa c_a_1_wa
    replace x_a := x_a.from_ h_w1
    have B_w1 := B0.trans (h_w1.mono B0.size)
    have s_w1 := h_w1.size
    rw [show szV (left) (sizeSS d.Give : Int) = -1 from if_neg (by omega)]
    go_wp2
    go_ret
    exact ⟨ret_int (by omega), B_w1⟩
  by_cases g1 : (sizeSS d.Give : Int) + (d.Spent.length : Int) ≤ left
  case neg =>
    have ez : szV left (d.bulk : Int) = -1 := by unfold szV; rw [if_neg (by omega)]
    rw [ez]
    go_enter Try.func26, Try.ntmps26
    go_wp2_with fail
    refine (szIntSS_c (rGive.from_ B0) (by omega) (by omega)).mono ?_
    rintro e w1 ⟨rfl, h_w1⟩
    clear c_a_0_wa c_a_1_wa
    replace x_a := x_a.from_ h_w1
    have B_w1 := B0.trans (h_w1.mono B0.size)
    have s_w1 := h_w1.size
    rw [show szV (left) (sizeSS d.Give : Int) = left - (sizeSS d.Give : Int) from if_pos (by omega)]
    have gd0 : decide (left - (sizeSS d.Give : Int) < 0) = false := by simp; omega
    have c_a_0_w1 := x_a.cell (i := 0) rfl
    have c_a_1_w1 := x_a.cell (i := 1) rfl
    go_wp2_with fail
    refine (szIntS_b (rSpent.from_ B_w1) (by omega) (by omega)).mono ?_
    rintro e w2 ⟨rfl, h_w2⟩
    clear c_a_0_w1 c_a_1_w1
    replace x_a := x_a.from_ h_w2
    have B_w2 := B_w1.trans (h_w2.mono B_w1.size)
    have s_w2 := h_w2.size
    rw [show szV (left - (sizeSS d.Give : Int)) (d.Spent.length : Int) = -1 from if_neg (by omega)]
    go_wp2
    go_ret
    exact ⟨ret_int (by omega), B_w2⟩
  have ez : szV left (d.bulk : Int) = left - (d.bulk : Int) := by unfold szV; rw [if_pos (by omega)]
  rw [ez]
  go_enter Try.func26, Try.ntmps26
  go_wp2_with fail
  refine (szIntSS_c (rGive.from_ B0) (by omega) (by omega)).mono ?_
  rintro e w1 ⟨rfl, h_w1⟩
  clear c_a_0_wa c_a_1_wa
  replace x_a := x_a.from_ h_w1
  have B_w1 := B0.trans (h_w1.mono B0.size)
  have s_w1 := h_w1.size
  rw [show szV (left) (sizeSS d.Give : Int) = left - (sizeSS d.Give : Int) from if_pos (by omega)]
  have gd0 : decide (left - (sizeSS d.Give : Int) < 0) = false := by simp; omega
  have c_a_0_w1 := x_a.cell (i := 0) rfl
  have c_a_1_w1 := x_a.cell (i := 1) rfl
  go_wp2_with fail
  refine (szIntS_b (rSpent.from_ B_w1) (by omega) (by omega)).mono ?_
  rintro e w2 ⟨rfl, h_w2⟩
  clear c_a_0_w1 c_a_1_w1
  replace x_a := x_a.from_ h_w2
  have B_w2 := B_w1.trans (h_w2.mono B_w1.size)
  have s_w2 := h_w2.size
  rw [show szV (left - (sizeSS d.Give : Int)) (d.Spent.length : Int) = left - (sizeSS d.Give : Int) - (d.Spent.length : Int) from if_pos (by omega)]
  have gd1 : decide (left - (sizeSS d.Give : Int) - (d.Spent.length : Int) < 0) = false := by simp; omega
  have c_a_0_w2 := x_a.cell (i := 0) rfl
  have c_a_1_w2 := x_a.cell (i := 1) rfl
  go_wp2
  go_ret
  exact ⟨ret_int (by omega), B_w2⟩

end Go.Proofs.Ytmbipgnecjlicaa
