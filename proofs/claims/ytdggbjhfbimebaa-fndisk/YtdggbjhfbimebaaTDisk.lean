/- The type Disk: its model, its layout, and the contracts of the laws' own helpers on it. Laid by a program of ours (typegen.py). -/
import Derived.Test.YtdggbjhfbimebaaProg
import Derived.Test.YtdggbjhfbimebaaVars
import Derived.Test.YtdggbjhfbimebaaSBytes
import Derived.Test.YtdggbjhfbimebaaBytes
namespace Go.Proofs.Ytdggbjhfbimebaa
open Go.RowKit
set_option linter.unusedVariables false

structure MDisk where
  Sure : List Int
  Soft : List Int

def diskL : Lay MDisk := isoL (fun d => (d.Sure, d.Soft)) (consL (bytesL) (bytesL))

theorem sz_disk : (Try.prog.info? 25).map (·.size) = some 2 := by kernel_rfl

/-- how many values lie behind it -/
def MDisk.bulk (d : MDisk) : Nat := d.Sure.length + d.Soft.length

/-- what a marking from k on makes of it -/
def MDisk.mark (d : MDisk) (k : Int) : MDisk := ⟨marks (k) d.Sure.length, marks (k + (d.Sure.length : Int)) d.Soft.length⟩

theorem rv_disk {w : World} {v : Value} {d : MDisk} (h : RV diskL w v d) : ∃ ASure cSure ASoft cSoft, v = .agg #[.slice ASure d.Sure.length cSure, .slice ASoft d.Soft.length cSoft] ∧ RS .u8 w (.slice ASure d.Sure.length cSure) d.Sure ∧ RS .u8 w (.slice ASoft d.Soft.length cSoft) d.Soft := by
  obtain ⟨cs, rfl, hcs⟩ := h
  obtain ⟨_, _, rfl, ⟨ASure, cSure, rfl, hSure⟩, ⟨ASoft, cSoft, rfl, hSoft⟩⟩ := hcs
  exact ⟨ASure, cSure, ASoft, cSoft, rfl, ⟨_, _, rfl, hSure⟩, ⟨_, _, rfl, hSoft⟩⟩

theorem cs_disk {w : World} {B : Nat} {cs : List Value} {d : MDisk} (h : diskL.rd w B cs d) : ∃ ASure cSure ASoft cSoft, cs = [.slice ASure d.Sure.length cSure, .slice ASoft d.Soft.length cSoft] := by
  obtain ⟨_, _, rfl, ⟨ASure, cSure, rfl, hSure⟩, ⟨ASoft, cSoft, rfl, hSoft⟩⟩ := h
  exact ⟨ASure, cSure, ASoft, cSoft, rfl⟩

theorem ovp_disk {w : World} {d : MDisk} {lo hi lSure hSure lSoft hSoft : Nat} {vSure vSoft : Value} (oSure : OS .u8 5 w lSure hSure vSure d.Sure) (oSoft : OS .u8 5 w lSoft hSoft vSoft d.Soft) (hc : hi ≤ w.heap.size ∧ lo ≤ lSure ∧ hSure ≤ hi ∧ lo ≤ lSoft ∧ hSoft ≤ hi ∧ (hSure ≤ lSoft ∨ hSoft ≤ lSure)) : OVp diskL w (fun j => lo ≤ j ∧ j < hi) [vSure, vSoft] d := by
  have h : OVp diskL w _ [vSure, vSoft] d := OVp.iso (f := fun d : MDisk => (d.Sure, d.Soft)) (OVp.cons (OVp.ints oSure) (OVp.ints oSoft) (by intro j; omega))
  exact h.imp (by intro j; omega)

theorem ov_disk {w : World} {d : MDisk} {lo hi lSure hSure lSoft hSoft : Nat} {vSure vSoft : Value} (oSure : OS .u8 5 w lSure hSure vSure d.Sure) (oSoft : OS .u8 5 w lSoft hSoft vSoft d.Soft) (hc : hi ≤ w.heap.size ∧ lo ≤ lSure ∧ hSure ≤ hi ∧ lo ≤ lSoft ∧ hSoft ≤ hi ∧ (hSure ≤ lSoft ∨ hSoft ≤ lSure)) : OV diskL w lo hi (.agg #[vSure, vSoft]) d :=
  (ovp_disk (lo := lo) (hi := hi) oSure oSoft hc).ov (fun _ h => h) hc.1

set_option maxHeartbeats 1000000 in
theorem toDisk_c {w : World} {v : Value} {d : MDisk} (h : RV diskL w v d) (hm : d.bulk ≤ 16777216) : Calls Try.prog 23 #[v] w (NewV diskL w d) := by
  obtain ⟨ASure, cSure, ASoft, cSoft, rfl, rSure, rSoft⟩ := rv_disk h
  unfold MDisk.bulk at hm
  obtain ⟨wa, hwa, B0, sa, x_a, x_r, x_out⟩ := frame3 w 36 [.slice ASure d.Sure.length cSure, .slice ASoft d.Soft.length cSoft] 25 [.slice none 0 0, .slice none 0 0] 25 [.slice none 0 0, .slice none 0 0]
  have sa_1 := Nat.le_of_eq sa
  have sa_2 := Nat.le_of_eq sa.symm
  clear sa
  have c_a_0_wa := x_a.cell (i := 0) rfl
  have f_a_0_wa := x_a.frozen 0
  have c_a_1_wa := x_a.cell (i := 1) rfl
  have f_a_1_wa := x_a.frozen 1
  have c_out_0_wa := x_out.cell (i := 0) rfl
  have f_out_0_wa := x_out.frozen 0
  have c_out_1_wa := x_out.cell (i := 1) rfl
  have f_out_1_wa := x_out.frozen 1
  go_enter Try.func23, Try.ntmps23
  go_wp2_with fail
  refine (toByteS_c (rSure.from_ B0) (by omega)).mono ?_
  rintro e w1 ⟨uSure, rfl, oSure, h_w1⟩
  clear c_a_0_wa f_a_0_wa c_a_1_wa f_a_1_wa c_out_0_wa f_out_0_wa c_out_1_wa f_out_1_wa
  replace x_a := x_a.from_ h_w1
  replace x_r := x_r.from_ h_w1
  replace x_out := x_out.from_ h_w1
  have B_w1 := B0.trans (h_w1.mono B0.size)
  have s_w1 := h_w1.size
  obtain ⟨BSure, eSure, rfl, -, -, -⟩ := oSure.rd
  have c_a_0_w1 := x_a.cell (i := 0) rfl
  have f_a_0_w1 := x_a.frozen 0
  have c_a_1_w1 := x_a.cell (i := 1) rfl
  have f_a_1_w1 := x_a.frozen 1
  have c_out_0_w1 := x_out.cell (i := 0) rfl
  have f_out_0_w1 := x_out.frozen 0
  have c_out_1_w1 := x_out.cell (i := 1) rfl
  have f_out_1_w1 := x_out.frozen 1
  have c_r_0_w1 := x_r.cell (i := 0) rfl
  have f_r_0_w1 := x_r.frozen 0
  have c_r_1_w1 := x_r.cell (i := 1) rfl
  have f_r_1_w1 := x_r.frozen 1
  obtain ⟨w2, e_w2, s_w2, h_w2, y⟩ := set_step x_out 0 (.slice BSure d.Sure.length eSure)
  have s_w2_1 := Nat.le_of_eq s_w2
  have s_w2_2 := Nat.le_of_eq s_w2.symm
  clear s_w2
  replace x_a := x_a.chg h_w2 (by omega)
  replace x_r := x_r.chg h_w2 (by omega)
  replace oSure := oSure.chg h_w2 (by omega)
  have B_w2 := Below.chg_ B_w1 h_w2 (by omega) (by omega)
  replace x_out : Vr w2 (w.heap.size + 1 + 1) 25 [.slice BSure d.Sure.length eSure, .slice none 0 0] := y
  clear y
  have c_a_0_w2 := x_a.cell (i := 0) rfl
  have f_a_0_w2 := x_a.frozen 0
  have c_a_1_w2 := x_a.cell (i := 1) rfl
  have f_a_1_w2 := x_a.frozen 1
  have c_out_0_w2 := x_out.cell (i := 0) rfl
  have f_out_0_w2 := x_out.frozen 0
  have c_out_1_w2 := x_out.cell (i := 1) rfl
  have f_out_1_w2 := x_out.frozen 1
  have c_r_0_w2 := x_r.cell (i := 0) rfl
  have f_r_0_w2 := x_r.frozen 0
  have c_r_1_w2 := x_r.cell (i := 1) rfl
  have f_r_1_w2 := x_r.frozen 1
  go_wp2_with fail
  refine (toByteS_c (rSoft.from_ B_w2) (by omega)).mono ?_
  rintro e w3 ⟨uSoft, rfl, oSoft, h_w3⟩
  clear c_a_0_w1 f_a_0_w1 c_a_1_w1 f_a_1_w1 c_out_0_w1 f_out_0_w1 c_out_1_w1 f_out_1_w1 c_r_0_w1 f_r_0_w1 c_r_1_w1 f_r_1_w1 c_a_0_w2 f_a_0_w2 c_a_1_w2 f_a_1_w2 c_out_0_w2 f_out_0_w2 c_out_1_w2 f_out_1_w2 c_r_0_w2 f_r_0_w2 c_r_1_w2 f_r_1_w2
  replace x_a := x_a.from_ h_w3
  replace x_r := x_r.from_ h_w3
  replace x_out := x_out.from_ h_w3
  replace oSure := oSure.below h_w3
  have B_w3 := B_w2.trans (h_w3.mono B_w2.size)
  have s_w3 := h_w3.size
  obtain ⟨BSoft, eSoft, rfl, -, -, -⟩ := oSoft.rd
  have c_a_0_w3 := x_a.cell (i := 0) rfl
  have f_a_0_w3 := x_a.frozen 0
  have c_a_1_w3 := x_a.cell (i := 1) rfl
  have f_a_1_w3 := x_a.frozen 1
  have c_out_0_w3 := x_out.cell (i := 0) rfl
  have f_out_0_w3 := x_out.frozen 0
  have c_out_1_w3 := x_out.cell (i := 1) rfl
  have f_out_1_w3 := x_out.frozen 1
  have c_r_0_w3 := x_r.cell (i := 0) rfl
  have f_r_0_w3 := x_r.frozen 0
  have c_r_1_w3 := x_r.cell (i := 1) rfl
  have f_r_1_w3 := x_r.frozen 1
  obtain ⟨w4, e_w4, s_w4, h_w4, y⟩ := set_step x_out 1 (.slice BSoft d.Soft.length eSoft)
  have s_w4_1 := Nat.le_of_eq s_w4
  have s_w4_2 := Nat.le_of_eq s_w4.symm
  clear s_w4
  replace x_a := x_a.chg h_w4 (by omega)
  replace x_r := x_r.chg h_w4 (by omega)
  replace oSure := oSure.chg h_w4 (by omega)
  replace oSoft := oSoft.chg h_w4 (by omega)
  have B_w4 := Below.chg_ B_w3 h_w4 (by omega) (by omega)
  replace x_out : Vr w4 (w.heap.size + 1 + 1) 25 [.slice BSure d.Sure.length eSure, .slice BSoft d.Soft.length eSoft] := y
  clear y
  have c_a_0_w4 := x_a.cell (i := 0) rfl
  have f_a_0_w4 := x_a.frozen 0
  have c_a_1_w4 := x_a.cell (i := 1) rfl
  have f_a_1_w4 := x_a.frozen 1
  have c_out_0_w4 := x_out.cell (i := 0) rfl
  have f_out_0_w4 := x_out.frozen 0
  have c_out_1_w4 := x_out.cell (i := 1) rfl
  have f_out_1_w4 := x_out.frozen 1
  have c_r_0_w4 := x_r.cell (i := 0) rfl
  have f_r_0_w4 := x_r.frozen 0
  have c_r_1_w4 := x_r.cell (i := 1) rfl
  have f_r_1_w4 := x_r.frozen 1
  obtain ⟨w5, e_w5, s_w5, h_w5, y⟩ := store_step x_r [.slice BSure d.Sure.length eSure, .slice BSoft d.Soft.length eSoft] rfl
  replace e_w5 : ((w4.setCell ⟨w.heap.size + 1, 0, none⟩ (.slice BSure d.Sure.length eSure)).setCell ⟨w.heap.size + 1, 1, none⟩ (.slice BSoft d.Soft.length eSoft)) = w5 := e_w5
  have s_w5_1 := Nat.le_of_eq s_w5
  have s_w5_2 := Nat.le_of_eq s_w5.symm
  clear s_w5
  replace x_a := x_a.chg h_w5 (by omega)
  replace x_out := x_out.chg h_w5 (by omega)
  replace oSure := oSure.chg h_w5 (by omega)
  replace oSoft := oSoft.chg h_w5 (by omega)
  have B_w5 := Below.chg_ B_w4 h_w5 (by omega) (by omega)
  replace x_r : Vr w5 (w.heap.size + 1) 25 [.slice BSure d.Sure.length eSure, .slice BSoft d.Soft.length eSoft] := y
  clear y
  have c_r_0_w5 := x_r.cell (i := 0) rfl
  have f_r_0_w5 := x_r.frozen 0
  have c_r_1_w5 := x_r.cell (i := 1) rfl
  have f_r_1_w5 := x_r.frozen 1
  go_wp2
  refine ret_cell (by rfl) (by rfl) x_r Try.underlying25 sz_disk (by rfl) ?_
  exact ⟨_, rfl, ov_disk oSure oSoft (by omega), B_w5⟩

set_option maxHeartbeats 1000000 in
theorem eqDisk_same {w : World} {v v' : Value} {d : MDisk} (h : RV diskL w v d) (h' : RV diskL w v' d) (hm : d.bulk ≤ 1073741824) : Calls Try.prog 24 #[v, v'] w fun e w' => e = .returned (.bool true) ∧ Below w.heap.size w w' := by
  obtain ⟨ASure, cSure, ASoft, cSoft, rfl, rSure, rSoft⟩ := rv_disk h
  obtain ⟨ASurex, cSurex, ASoftx, cSoftx, rfl, rxSure, rxSoft⟩ := rv_disk h'
  unfold MDisk.bulk at hm
  obtain ⟨wa, hwa, B0, sa, x_a, x_b⟩ := frame2 w 25 [.slice ASure d.Sure.length cSure, .slice ASoft d.Soft.length cSoft] 25 [.slice ASurex d.Sure.length cSurex, .slice ASoftx d.Soft.length cSoftx]
  have sa_1 := Nat.le_of_eq sa
  have sa_2 := Nat.le_of_eq sa.symm
  clear sa
  have c_a_0_wa := x_a.cell (i := 0) rfl
  have c_a_1_wa := x_a.cell (i := 1) rfl
  have c_b_0_wa := x_b.cell (i := 0) rfl
  have c_b_1_wa := x_b.cell (i := 1) rfl
  go_enter Try.func24, Try.ntmps24
  go_wp2_with fail
  refine (eqByteS_same (rSure.from_ B0) (rxSure.from_ B0) (by omega)).mono ?_
  rintro e w1 ⟨rfl, h_w1⟩
  clear c_a_0_wa c_a_1_wa c_b_0_wa c_b_1_wa
  replace x_a := x_a.from_ h_w1
  replace x_b := x_b.from_ h_w1
  have B_w1 := B0.trans (h_w1.mono B0.size)
  have s_w1 := h_w1.size
  have c_a_0_w1 := x_a.cell (i := 0) rfl
  have c_a_1_w1 := x_a.cell (i := 1) rfl
  have c_b_0_w1 := x_b.cell (i := 0) rfl
  have c_b_1_w1 := x_b.cell (i := 1) rfl
  go_wp2_with fail
  refine (eqByteS_same (rSoft.from_ B_w1) (rxSoft.from_ B_w1) (by omega)).mono ?_
  rintro e w2 ⟨rfl, h_w2⟩
  clear c_a_0_w1 c_a_1_w1 c_b_0_w1 c_b_1_w1
  replace x_a := x_a.from_ h_w2
  replace x_b := x_b.from_ h_w2
  have B_w2 := B_w1.trans (h_w2.mono B_w1.size)
  have s_w2 := h_w2.size
  have c_a_0_w2 := x_a.cell (i := 0) rfl
  have c_a_1_w2 := x_a.cell (i := 1) rfl
  have c_b_0_w2 := x_b.cell (i := 0) rfl
  have c_b_1_w2 := x_b.cell (i := 1) rfl
  go_wp2
  go_ret
  exact ⟨rfl, B_w2⟩

set_option maxHeartbeats 1000000 in
theorem markDisk_s {w : World} {S : List Nat} {cs : List Value} {d : MDisk} {k : Int} (h : diskL.own w S cs d) (hS : S.Nodup) (hm : d.bulk ≤ 1073741824) (hk0 : 0 ≤ k) (hk1 : k ≤ 1073741824) :
    Calls Try.prog 28 #[valOf cs, .int .i64 k] w (MarkS diskL w S cs (k + (d.bulk : Int)) (d.mark k)) := by
  unfold MDisk.bulk at hm ⊢
  have hlt := diskL.own_lt h
  obtain ⟨zSure, ySure, SSure, TSure, rfl, rfl, oSure, oSoft⟩ := h
  obtain ⟨ASure, cSure, rfl, -, -, -⟩ := bytesL.own_rd oSure
  obtain ⟨ASoft, cSoft, rfl, -, -, -⟩ := bytesL.own_rd oSoft
  obtain ⟨nSure, mSure, dSure, eSure⟩ := nodup_app hS
  rw [show valOf ([.slice ASure d.Sure.length cSure] ++ ([.slice ASoft d.Soft.length cSoft])) = Value.agg #[.slice ASure d.Sure.length cSure, .slice ASoft d.Soft.length cSoft] from rfl]
  obtain ⟨wa, hwa, B0, sa, x_a⟩ := frame1 w 25 [.slice ASure d.Sure.length cSure, .slice ASoft d.Soft.length cSoft]
  have sa_1 := Nat.le_of_eq sa
  have sa_2 := Nat.le_of_eq sa.symm
  clear sa
  have c_a_0_wa := x_a.cell (i := 0) rfl
  have c_a_1_wa := x_a.cell (i := 1) rfl
  have C0 : ChgS (SSure ++ (TSure)) w wa := ChgS.of_below B0
  have hSure := fun j hj => hlt j (List.mem_append.2 (.inl hj))
  replace oSure := bytesL.own_below oSure B0
  have hSoft := fun j hj => hlt j (List.mem_append.2 (.inr hj))
  replace oSoft := bytesL.own_below oSoft B0
  go_enter Try.func28, Try.ntmps28
  go_wp2_with fail
  refine (markByteS_s oSure (by omega) (by omega) (by omega)).mono ?_
  rintro e w1 ⟨rfl, oSure, h_w1⟩
  clear c_a_0_wa c_a_1_wa
  have s_w1 := h_w1.size
  replace oSoft := bytesL.own_chg oSoft h_w1 (fun a ha hj => dSure a hj (ha))
  replace x_a := x_a.chgS h_w1 (fun hj => by have := hSure _ hj; omega)
  have Cw1 := C0.trans (h_w1.more (fun j hj => List.mem_append.2 (.inl hj)))
  have c_a_0_w1 := x_a.cell (i := 0) rfl
  have c_a_1_w1 := x_a.cell (i := 1) rfl
  go_wp2_with fail
  refine (markByteS_s oSoft (by omega) (by omega) (by omega)).mono ?_
  rintro e w2 ⟨rfl, oSoft, h_w2⟩
  clear c_a_0_w1 c_a_1_w1
  have s_w2 := h_w2.size
  replace oSure := bytesL.own_chg oSure h_w2 (fun a ha hj => dSure a ha (hj))
  replace x_a := x_a.chgS h_w2 (fun hj => by have := hSoft _ hj; omega)
  have Cw2 := Cw1.trans (h_w2.more (fun j hj => List.mem_append.2 (.inr hj)))
  have c_a_0_w2 := x_a.cell (i := 0) rfl
  have c_a_1_w2 := x_a.cell (i := 1) rfl
  go_wp2
  go_ret
  exact ⟨ret_int (by omega), ⟨_, _, _, _, rfl, rfl, oSure, oSoft⟩, Cw2⟩

theorem markDisk_c {w : World} {v : Value} {d : MDisk} {lo hi : Nat} {k : Int} (h : OV diskL w lo hi v d) (hm : d.bulk ≤ 1073741824) (hk0 : 0 ≤ k) (hk1 : k ≤ 1073741824) :
    Calls Try.prog 28 #[v, .int .i64 k] w fun e w' => e = .returned (.int .i64 (k + (d.bulk : Int))) ∧ OV diskL w' lo hi v (d.mark k) ∧ Chg lo hi w w' := by
  obtain ⟨cs, S, rfl, ho, hn, hS, hh⟩ := h
  exact (markDisk_s ho hn hm hk0 hk1).mono fun e w' hr => hr.up hn hS hh

set_option maxHeartbeats 1000000 in
theorem heldDisk_c {w : World} {v : Value} {d : MDisk} {k : Int} (h : RV diskL w v (d.mark k)) (hm : d.bulk ≤ 1073741824) (hk0 : 0 ≤ k) (hk1 : k ≤ 1073741824) :
    Calls Try.prog 30 #[v, .int .i64 k] w fun e w' => e = .returned (.int .i64 (k + (d.bulk : Int))) ∧ Below w.heap.size w w' := by
  unfold MDisk.bulk at hm ⊢
  obtain ⟨ASure, cSure, ASoft, cSoft, rfl, rSure, rSoft⟩ := rv_disk h
  obtain ⟨wa, hwa, B0, sa, x_a⟩ := frame1 w 25 [.slice ASure (d.mark k).Sure.length cSure, .slice ASoft (d.mark k).Soft.length cSoft]
  have sa_1 := Nat.le_of_eq sa
  have sa_2 := Nat.le_of_eq sa.symm
  clear sa
  have c_a_0_wa := x_a.cell (i := 0) rfl
  have c_a_1_wa := x_a.cell (i := 1) rfl
  go_enter Try.func30, Try.ntmps30
  go_wp2_with fail
  refine (heldByteS_c (n := d.Sure.length) (rSure.from_ B0) (by omega) (by omega) (by omega)).mono ?_
  rintro e w1 ⟨rfl, h_w1⟩
  clear c_a_0_wa c_a_1_wa
  replace x_a := x_a.from_ h_w1
  have B_w1 := B0.trans (h_w1.mono B0.size)
  have s_w1 := h_w1.size
  have c_a_0_w1 := x_a.cell (i := 0) rfl
  have c_a_1_w1 := x_a.cell (i := 1) rfl
  go_wp2_with fail
  refine (heldByteS_c (n := d.Soft.length) (rSoft.from_ B_w1) (by omega) (by omega) (by omega)).mono ?_
  rintro e w2 ⟨rfl, h_w2⟩
  clear c_a_0_w1 c_a_1_w1
  replace x_a := x_a.from_ h_w2
  have B_w2 := B_w1.trans (h_w2.mono B_w1.size)
  have s_w2 := h_w2.size
  have c_a_0_w2 := x_a.cell (i := 0) rfl
  have c_a_1_w2 := x_a.cell (i := 1) rfl
  go_wp2
  go_ret
  exact ⟨ret_int (by omega), B_w2⟩

set_option maxHeartbeats 1000000 in
theorem szDisk_c {w : World} {v : Value} {d : MDisk} {left : Int} (h : RV diskL w v d) (h0 : 0 ≤ left) (h1 : left ≤ 1073741824) :
    Calls Try.prog 21 #[v, .int .i64 left] w fun e w' => e = .returned (.int .i64 (szV left (d.bulk : Int))) ∧ Below w.heap.size w w' := by
  obtain ⟨ASure, cSure, ASoft, cSoft, rfl, rSure, rSoft⟩ := rv_disk h
  obtain ⟨wa, hwa, B0, sa, x_a⟩ := frame1 w 36 [.slice ASure d.Sure.length cSure, .slice ASoft d.Soft.length cSoft]
  have sa_1 := Nat.le_of_eq sa
  have sa_2 := Nat.le_of_eq sa.symm
  clear sa
  have c_a_0_wa := x_a.cell (i := 0) rfl
  have c_a_1_wa := x_a.cell (i := 1) rfl
  have eb : (d.bulk : Int) = (d.Sure.length : Int) + (d.Soft.length : Int) := by unfold MDisk.bulk; omega
  by_cases g0 : (d.Sure.length : Int) ≤ left
  case neg =>
    have ez : szV left (d.bulk : Int) = -1 := by unfold szV; rw [if_neg (by omega)]
    rw [ez]
    go_enter Try.func21, Try.ntmps21
    go_wp2_with fail
    refine (szByteS_b (rSure.from_ B0) (by omega) (by omega)).mono ?_
    rintro e w1 ⟨rfl, h_w1⟩
    clear c_a_0_wa c_a_1_wa
    replace x_a := x_a.from_ h_w1
    have B_w1 := B0.trans (h_w1.mono B0.size)
    have s_w1 := h_w1.size
    rw [show szV (left) (d.Sure.length : Int) = -1 from if_neg (by omega)]
    go_wp2
    go_ret
    exact ⟨ret_int (by omega), B_w1⟩
  by_cases g1 : (d.Sure.length : Int) + (d.Soft.length : Int) ≤ left
  case neg =>
    have ez : szV left (d.bulk : Int) = -1 := by unfold szV; rw [if_neg (by omega)]
    rw [ez]
    go_enter Try.func21, Try.ntmps21
    go_wp2_with fail
    refine (szByteS_b (rSure.from_ B0) (by omega) (by omega)).mono ?_
    rintro e w1 ⟨rfl, h_w1⟩
    clear c_a_0_wa c_a_1_wa
    replace x_a := x_a.from_ h_w1
    have B_w1 := B0.trans (h_w1.mono B0.size)
    have s_w1 := h_w1.size
    rw [show szV (left) (d.Sure.length : Int) = left - (d.Sure.length : Int) from if_pos (by omega)]
    have gd0 : decide (left - (d.Sure.length : Int) < 0) = false := by simp; omega
    have c_a_0_w1 := x_a.cell (i := 0) rfl
    have c_a_1_w1 := x_a.cell (i := 1) rfl
    go_wp2_with fail
    refine (szByteS_b (rSoft.from_ B_w1) (by omega) (by omega)).mono ?_
    rintro e w2 ⟨rfl, h_w2⟩
    clear c_a_0_w1 c_a_1_w1
    replace x_a := x_a.from_ h_w2
    have B_w2 := B_w1.trans (h_w2.mono B_w1.size)
    have s_w2 := h_w2.size
    rw [show szV (left - (d.Sure.length : Int)) (d.Soft.length : Int) = -1 from if_neg (by omega)]
    go_wp2
    go_ret
    exact ⟨ret_int (by omega), B_w2⟩
  have ez : szV left (d.bulk : Int) = left - (d.bulk : Int) := by unfold szV; rw [if_pos (by omega)]
  rw [ez]
  go_enter Try.func21, Try.ntmps21
  go_wp2_with fail
  refine (szByteS_b (rSure.from_ B0) (by omega) (by omega)).mono ?_
  rintro e w1 ⟨rfl, h_w1⟩
  clear c_a_0_wa c_a_1_wa
  replace x_a := x_a.from_ h_w1
  have B_w1 := B0.trans (h_w1.mono B0.size)
  have s_w1 := h_w1.size
  rw [show szV (left) (d.Sure.length : Int) = left - (d.Sure.length : Int) from if_pos (by omega)]
  have gd0 : decide (left - (d.Sure.length : Int) < 0) = false := by simp; omega
  have c_a_0_w1 := x_a.cell (i := 0) rfl
  have c_a_1_w1 := x_a.cell (i := 1) rfl
  go_wp2_with fail
  refine (szByteS_b (rSoft.from_ B_w1) (by omega) (by omega)).mono ?_
  rintro e w2 ⟨rfl, h_w2⟩
  clear c_a_0_w1 c_a_1_w1
  replace x_a := x_a.from_ h_w2
  have B_w2 := B_w1.trans (h_w2.mono B_w1.size)
  have s_w2 := h_w2.size
  rw [show szV (left - (d.Sure.length : Int)) (d.Soft.length : Int) = left - (d.Sure.length : Int) - (d.Soft.length : Int) from if_pos (by omega)]
  have gd1 : decide (left - (d.Sure.length : Int) - (d.Soft.length : Int) < 0) = false := by simp; omega
  have c_a_0_w2 := x_a.cell (i := 0) rfl
  have c_a_1_w2 := x_a.cell (i := 1) rfl
  go_wp2
  go_ret
  exact ⟨ret_int (by omega), B_w2⟩

end Go.Proofs.Ytdggbjhfbimebaa
