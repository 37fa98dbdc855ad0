/- impl.tally: the contract of join. Laid by a program of ours (src/tl6.py). -/
import Derived.Test.YtmbipgnecjlicaaTl5
namespace Go.Proofs.Ytmbipgnecjlicaa
open Go.RowKit
set_option linter.unusedVariables false

theorem MeetAt.len {r q D : MRights} {k j ks : Nat} (h : MeetAt r q D k j ks) : D.Give.length = r.Give.length := h.1.1
theorem Vr.tnm {w : World} {b : Nat} {t : TypeId} {r q D : MRights} {k j ks : Nat} (h : Vr w b t (tl (tOf D))) (hm : MeetAt r q D k j ks) : w.cell? ⟨b, 0, none⟩ = some (.int .i64 (r.Give.length : Int)) := by rw [h.tn, hm.len]
theorem meet_setS {r q D : MRights} {k : Nat} {m : Int} (h : MeetAt r q D k 0 k) (hk : k < r.Give.length) (hn : r.Give.length ≤ 4) (hm : mx (s1 D.Spent k) (s1 q.Spent k) = m) : ∃ E, MeetAt r q E k 0 (k + 1) ∧ (tl (tOf D)).set (17 + k) (.int .i64 m) = tl (tOf E) := by
  have hl := h.1.2.1
  refine ⟨_, h.spent hk, ?_⟩
  rw [tl_set, tOf_setS (by omega) (by omega)]
  have e : mx (D.Spent.getD k 0) (s1 q.Spent k) = m := hm
  rw [e]
theorem meet_setG {r q D : MRights} {k j ks : Nat} {m : Int} (h : MeetAt r q D k j ks) (hk : k < r.Give.length) (hj : j < r.Give.length) (hn : r.Give.length ≤ 4) (hm : mx (g2 D.Give k j) (g2 q.Give k j) = m) : ∃ E, MeetAt r q E k (j + 1) ks ∧ (tl (tOf D)).set (1 + k * 4 + j) (.int .i64 m) = tl (tOf E) := by
  have hl := h.len
  have hR := List.getElem?_eq_getElem (show k < D.Give.length by omega)
  have hRl := h.1.2.2 k _ hR
  refine ⟨_, h.give hR hk hj, ?_⟩
  rw [tl_set, tOf_setG hR (by omega) (by omega) (by omega), ← g2_of hR j, hm]

set_option maxRecDepth 100000 in
set_option maxHeartbeats 4000000 in
theorem tJoin_c {w : World} {r q : MRights} (hr : Shp r.Give.length r) (hn : 1 ≤ r.Give.length ∧ r.Give.length ≤ 4) :
    Calls Try.prog 50 #[.agg (tl (tOf r)).toArray, .agg (tl (tOf q)).toArray] w fun e w' => e = .returned (.agg (tl (tOf (meetR r q))).toArray) ∧ Below w.heap.size w w' := by
  obtain ⟨wa, hwa, B0, sa, x_a, x_b, x_r⟩ := frame3 w 57 (tl (tOf r)) 57 (tl (tOf q)) 57 [.int .i64 0, .int .i64 0, .int .i64 0, .int .i64 0, .int .i64 0, .int .i64 0, .int .i64 0, .int .i64 0, .int .i64 0, .int .i64 0, .int .i64 0, .int .i64 0, .int .i64 0, .int .i64 0, .int .i64 0, .int .i64 0, .int .i64 0, .int .i64 0, .int .i64 0, .int .i64 0, .int .i64 0]
  have sa_1 := Nat.le_of_eq sa
  have sa_2 := Nat.le_of_eq sa.symm
  clear sa
  have HM0 : Hid (MeetAt r q r 0 0 0) := MeetAt.start hr
  have c0 := x_a.tn
  go_enter Try.func50, Try.ntmps50
  go_wp2
  go_loopw [9] (fun j wr => ∃ (k : Nat) (D : MRights), k ≤ r.Give.length ∧ j = .int .i64 k ∧ Hid (MeetAt r q D k 0 k) ∧ Vr wr w.heap.size 57 (tl (tOf D)) ∧ Vr wr (w.heap.size + 1) 57 (tl (tOf q)) ∧ Vr wr (w.heap.size + 1 + 1) 57 [.int .i64 0, .int .i64 0, .int .i64 0, .int .i64 0, .int .i64 0, .int .i64 0, .int .i64 0, .int .i64 0, .int .i64 0, .int .i64 0, .int .i64 0, .int .i64 0, .int .i64 0, .int .i64 0, .int .i64 0, .int .i64 0, .int .i64 0, .int .i64 0, .int .i64 0, .int .i64 0, .int .i64 0] ∧ Below w.heap.size w wr ∧ w.heap.size + 1 + 1 + 1 ≤ wr.heap.size) (fun j _ => r.Give.length - (intOf j).toNat)
  case atStart => exact ⟨0, r, Nat.zero_le _, rfl, HM0, x_a, x_b, x_r, B0, sa_2⟩
  case round =>
    clear c0 x_a x_b x_r HM0
    obtain ⟨k, D, hk, rfl, HD, x_a, x_b, x_r, HB, hsz⟩ := hrel
    by_cases hlt : k < r.Give.length
    case neg =>
      have hk2 : ¬ ((k : Int) < (r.Give.length : Int)) := by omega
      have hke : k = r.Give.length := by omega
      have HE : Hid (D = meetR r q) := by have := HD.out; rw [hke] at this; exact this.end_
      clear hke
      go_wp2_with (first | refine wpl_tload x_a (tOf_len D) rfl rfl rfl ?_ | (refine wpl_tstore x_r rfl (tl_one (tOf D)) (by rw [tl_len, tOf_len]) rfl rfl rfl rfl ?_; intro w6 x_r6 h_w6 s_w6))
      have B_w6 := Below.chg_ HB h_w6 (by omega) (by omega)
      refine ret_cell (by rfl) (by rfl) x_r6 t57u (by rw [t57i, tl_len, tOf_len]) (by rfl) ?_
      exact ⟨by rw [HE.out], B_w6⟩
    have j1 : (k : Int) < (r.Give.length : Int) := by omega
    have j4 : (k : Int) < 4 := by omega
    have k4 : k < 4 := by omega
    obtain ⟨wd, hwd⟩ : ∃ x, ({ heap := wr.heap, tape := wr.tape, drawn := wr.drawn + 1, os := wr.os, output := wr.output } : World) = x := ⟨_, rfl⟩
    have hbd : Below wr.heap.size wr wd := by rw [← hwd]; exact (Below.refl wr.heap.size wr).drew
    have y_a := x_a.from_ hbd
    have y_b := x_b.from_ hbd
    have y_r := x_r.from_ hbd
    have B_wd := HB.trans (hbd.mono HB.size)
    have s_wd := hbd.size
    have c1 := y_a.tsv k4
    have c2 := y_b.tsv k4
    have f1 := y_a.frozen (17 + k)
    obtain ⟨x, hx⟩ : ∃ x, s1 D.Spent k = x := ⟨_, rfl⟩
    obtain ⟨y, hy⟩ : ∃ y, s1 q.Spent k = y := ⟨_, rfl⟩
    rw [hx] at c1
    rw [hy] at c2
    obtain ⟨m, hm⟩ : ∃ m, mx x y = m := ⟨_, rfl⟩
    have m1 : (if x < y then y else x) = m := by rw [← hm]; unfold mx; split <;> split <;> omega
    have HM : Hid (mx (s1 D.Spent k) (s1 q.Spent k) = m) := by show _ = _; rw [hx, hy]; exact hm
    clear hx hy hm
    obtain ⟨we, hwe, s_we, h_we, z_a⟩ := set_step y_a (17 + k) (.int .i64 m)
    have s_we_1 := Nat.le_of_eq s_we
    have s_we_2 := Nat.le_of_eq s_we.symm
    clear s_we
    obtain ⟨E, hE, eE⟩ := meet_setS HD.out hlt hn.2 HM.out
    rw [eE] at z_a
    have HE := Lib.hid hE
    clear hE eE
    replace y_b := y_b.chg h_we (by omega)
    replace y_r := y_r.chg h_we (by omega)
    have B_we := Below.chg_ B_wd h_we (by omega) (by omega)
    go_wp2_with fail
    refine wp_region_still_tail 12 (by kernel_rfl) (by kernel_rfl) ?_
    rw [hwd]
    simp only [List.take_succ_cons, List.take_zero, List.drop_succ_cons, List.drop_zero]
    repeat still_step
    refine wpStill_nil ?_
    have c0 := z_a.tnm HE.out
    clear c2 m1 HM HD x_a x_b x_r y_a
    go_wp2
    go_loopw [26] (fun j wr => ∃ (l : Nat) (D : MRights), l ≤ r.Give.length ∧ j = .int .i64 l ∧ Hid (MeetAt r q D k l (k + 1)) ∧ Vr wr w.heap.size 57 (tl (tOf D)) ∧ Vr wr (w.heap.size + 1) 57 (tl (tOf q)) ∧ Vr wr (w.heap.size + 1 + 1) 57 [.int .i64 0, .int .i64 0, .int .i64 0, .int .i64 0, .int .i64 0, .int .i64 0, .int .i64 0, .int .i64 0, .int .i64 0, .int .i64 0, .int .i64 0, .int .i64 0, .int .i64 0, .int .i64 0, .int .i64 0, .int .i64 0, .int .i64 0, .int .i64 0, .int .i64 0, .int .i64 0, .int .i64 0] ∧ Below w.heap.size w wr ∧ w.heap.size + 1 + 1 + 1 ≤ wr.heap.size) (fun j _ => r.Give.length - (intOf j).toNat)
    case atStart => exact ⟨0, E, Nat.zero_le _, rfl, HE, z_a, y_b, y_r, B_we, by omega⟩
    case round =>
      clear c0 c1 f1 z_a y_b y_r HE HB B_we B_wd hbd hwd h_we hwe
      obtain ⟨l, D, hl, rfl, HD, x_a, x_b, x_r, HB, hsz2⟩ := hrel
      by_cases hll : l < r.Give.length
      case neg =>
        have hl2 : ¬ ((l : Int) < (r.Give.length : Int)) := by omega
        have hle : l = r.Give.length := by omega
        have HE : Hid (MeetAt r q D (k + 1) 0 (k + 1)) := by have := HD.out; rw [hle] at this; exact this.row
        clear hle
        go_wp2
        go_roundw
        case rel => exact ⟨k + 1, D, by omega, by go_num, HE, x_a, x_b, x_r, HB, hsz2⟩
        case measure => simp [intOf]; omega
      have i1 : (l : Int) < (r.Give.length : Int) := by omega
      have i4 : (l : Int) < 4 := by omega
      have l4 : l < 4 := by omega
      obtain ⟨wd, hwd⟩ : ∃ x, ({ heap := wr.heap, tape := wr.tape, drawn := wr.drawn + 1, os := wr.os, output := wr.output } : World) = x := ⟨_, rfl⟩
      have hbd : Below wr.heap.size wr wd := by rw [← hwd]; exact (Below.refl wr.heap.size wr).drew
      have y_a := x_a.from_ hbd
      have y_b := x_b.from_ hbd
      have y_r := x_r.from_ hbd
      have B_wd := HB.trans (hbd.mono HB.size)
      have s_wd := hbd.size
      have c1 := y_a.tgv k4 l4
      have c2 := y_b.tgv k4 l4
      have f1 := y_a.frozen (1 + k * 4 + l)
      obtain ⟨x, hx⟩ : ∃ x, g2 D.Give k l = x := ⟨_, rfl⟩
      obtain ⟨y, hy⟩ : ∃ y, g2 q.Give k l = y := ⟨_, rfl⟩
      rw [hx] at c1
      rw [hy] at c2
      obtain ⟨m, hm⟩ : ∃ m, mx x y = m := ⟨_, rfl⟩
      have m1 : (if x < y then y else x) = m := by rw [← hm]; unfold mx; split <;> split <;> omega
      have HM : Hid (mx (g2 D.Give k l) (g2 q.Give k l) = m) := by show _ = _; rw [hx, hy]; exact hm
      clear hx hy hm
      obtain ⟨we, hwe, s_we, h_we, z_a⟩ := set_step y_a (1 + k * 4 + l) (.int .i64 m)
      have s_we_1 := Nat.le_of_eq s_we
      have s_we_2 := Nat.le_of_eq s_we.symm
      clear s_we
      obtain ⟨E, hE, eE⟩ := meet_setG HD.out hlt hll hn.2 HM.out
      rw [eE] at z_a
      have HE := Lib.hid hE
      clear hE eE
      replace y_b := y_b.chg h_we (by omega)
      replace y_r := y_r.chg h_we (by omega)
      have B_we := Below.chg_ B_wd h_we (by omega) (by omega)
      go_wp2_with fail
      refine wp_region_still_tail 18 (by kernel_rfl) (by kernel_rfl) ?_
      rw [hwd]
      simp only [List.take_succ_cons, List.take_zero, List.drop_succ_cons, List.drop_zero]
      repeat still_step
      refine wpStill_nil ?_
      clear c2 m1 HM HD x_a x_b x_r y_a
      go_wp2
      go_roundw
      case rel => exact ⟨l + 1, E, by omega, by go_num, HE, z_a, y_b, y_r, B_we, by omega⟩
      case measure => simp [intOf]; omega

end Go.Proofs.Ytmbipgnecjlicaa
