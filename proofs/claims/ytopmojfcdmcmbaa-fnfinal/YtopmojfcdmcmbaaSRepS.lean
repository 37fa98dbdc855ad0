/- Slices of Rep: the contracts of the laws' own helpers toRepS, eqRepS, markRepS, heldRepS, szRepS. Laid by a program of ours (slicegen.py). -/
import Derived.Test.YtopmojfcdmcmbaaLay4
import Derived.Deep.RegionHeld3
import Derived.Test.YtopmojfcdmcmbaaSByteSS
import Derived.Test.YtopmojfcdmcmbaaTRep
namespace Go.Proofs.Ytopmojfcdmcmbaa
open Go.RowKit
set_option linter.unusedVariables false

def repSL : Lay (List MRep) := sliceL 57 2 repL

theorem el_rep {w : World} {B : Nat} {A : Option Addr} {xs : List MRep} {j : Nat} {x : MRep} (h : RdL repL 2 w B A xs) (hx : xs[j]? = some x) :
    ∃ b off, A = some ⟨b, off, none⟩ ∧ b < B ∧ w.cell? ⟨b, off + j * 2, none⟩ = some (.int .i64 x.Node) ∧ w.cell? ⟨b, off + j * 2 + 1, none⟩ = some (.int .i64 x.Amt) := by
  obtain ⟨b, off, cs, rfl, hb, hl, hc, hr⟩ := h.at_ hx
  obtain rfl := cs_rep hr
  exact ⟨b, off, rfl, hb, hc 0 _ rfl, hc 1 _ rfl⟩

set_option maxHeartbeats 400000 in
theorem eqRepS_any (A A' : Option Addr) (c c' : Nat) (xs : List MRep) (w : World) (hx : RdL repL 2 w w.heap.size A xs) (hy : RdL repL 2 w w.heap.size A' xs) (hm : xs.length ≤ 1073741824) :
    Calls Try.prog 63 #[.slice A xs.length c, .slice A' xs.length c'] w fun e w' => e = .returned (.bool true) ∧ Below w.heap.size w w' := by
  go_enter Try.func63, Try.ntmps63
  go_wp2
  go_loopw [5] (fun i wr => ∃ k : Nat, k ≤ xs.length ∧ i = .int .i64 k ∧ Below w.heap.size w wr) (fun i _ => xs.length - (intOf i).toNat)
  case atStart => exact ⟨0, Nat.zero_le _, rfl, Below.refl _ _⟩
  case round =>
    obtain ⟨k, hk, rfl, HB⟩ := hrel
    by_cases hlt : k < xs.length
    · obtain ⟨x, hxe⟩ := get_of_lt hlt
      obtain ⟨b, off, rfl, hb, c0, c1⟩ := el_rep (hx.below HB) hxe
      obtain ⟨b', off', rfl, hb', d0, d1⟩ := el_rep (hy.below HB) hxe
      clear hxe
      have i1 : (k : Int) < (xs.length : Int) := by omega
      have hs := HB.size
      have hbw : b < wr.heap.size := by omega
      have hbw' : b' < wr.heap.size := by omega
      go_wp2_with fail
      go_region_held3 (fun w' => w'.cell? ⟨b, off + k * 2, none⟩ = some (.int .i64 x.Node) ∧ w'.cell? ⟨b, off + k * 2 + 1, none⟩ = some (.int .i64 x.Amt) ∧ w'.cell? ⟨b', off' + k * 2, none⟩ = some (.int .i64 x.Node) ∧ w'.cell? ⟨b', off' + k * 2 + 1, none⟩ = some (.int .i64 x.Amt))
        (first | exact ⟨c0, c1, d0, d1⟩ | exact ⟨(hk1 _ hbw).trans c0, (hk1 _ hbw).trans c1, (hk1 _ hbw').trans d0, (hk1 _ hbw').trans d1⟩)
        (first | (go_at_call 84; refine (eqRep_same (d := x) rv_rep_mk rv_rep_mk).mono ?_; rintro e w1 ⟨rfl, hd1⟩; have hk1 : ∀ p : Addr, p.block < wr.heap.size → w1.cell? p = wr.cell? p := (fun p hp => hd1.cell hp); have hb2 : Below w.heap.size w w1 := HB.drew.trans (hd1.mono HB.size)))
      go_wp2
      go_roundw
      case rel => exact ⟨k + 1, by omega, by go_num, hb2⟩
      case measure => simp [intOf]; omega
    · have hk2 : k = xs.length := by omega
      subst hk2
      go_wp2
      go_ret
      exact ⟨rfl, HB⟩

theorem eqRepS_same {w : World} {v v' : Value} {xs : List MRep} (h : RV repSL w v xs) (h' : RV repSL w v' xs) (hm : xs.length ≤ 1073741824) :
    Calls Try.prog 63 #[v, v'] w fun e w' => e = .returned (.bool true) ∧ Below w.heap.size w w' := by
  obtain ⟨A, c, rfl, _, _, hr⟩ := rv_slice h
  obtain ⟨A', c', rfl, _, _, hr'⟩ := rv_slice h'
  exact eqRepS_any A A' c c' xs w hr hr' hm

/-- the marks that a marking lays, element behind element -/
def marksRep (k : Int) (N : Nat) : List MRep := (List.range N).map fun (i : Nat) => ⟨k + 2 * (i : Int), k + 2 * (i : Int) + 1⟩
theorem marksRep_len (k : Int) (N : Nat) : (marksRep k N).length = N := by simp [marksRep]
theorem marksRep_succ (k : Int) (N : Nat) : marksRep k (N + 1) = marksRep k N ++ [⟨k + 2 * (N : Int), k + 2 * (N : Int) + 1⟩] := by simp [marksRep, List.range_succ]
theorem marksRep_get (k : Int) {N j : Nat} (h : j < N) : (marksRep k N)[j]? = some ⟨k + 2 * (j : Int), k + 2 * (j : Int) + 1⟩ := by simp [marksRep, h]
theorem mixRep_set {xs : List MRep} {k0 : Int} {k : Nat} {x : MRep} (h : k < xs.length) (hx : x = ⟨k0 + 2 * (k : Int), k0 + 2 * (k : Int) + 1⟩) : (marksRep k0 k ++ xs.drop k).set k x = marksRep k0 (k + 1) ++ xs.drop (k + 1) := by
  have e : (marksRep k0 k).length = k := marksRep_len _ _
  rw [List.set_append, if_neg (by omega), e, Nat.sub_self, List.drop_eq_getElem_cons h, List.set_cons_zero, marksRep_succ, hx, List.append_assoc]
  rfl

theorem own_rep (w : World) (d : MRep) : repL.own w [] [.int .i64 d.Node, .int .i64 d.Amt] d := by
  have h := ovp_rep (w := w) (d := d) (lo := 0) (hi := 0) (Nat.zero_le _)
  obtain ⟨S, ho, hn, hS⟩ := h
  obtain rfl : S = [] := List.eq_nil_iff_forall_not_mem.2 fun j hj => by have := hS j hj; omega
  exact ho
theorem own_rep_nil (w : World) (T : List Nat) (cs : List Value) (x : MRep) (h : repL.own w T cs x) : T = [] := by
  obtain ⟨_, _, _, _, -, rfl, ⟨-, rfl⟩, ⟨-, rfl⟩⟩ := h
  rfl

set_option maxHeartbeats 1000000 in
theorem markRepS_own (g c : Nat) (S : List Nat) (xs : List MRep) (k0 : Int) (w : World) (ho : OwnL repL 57 2 w S (.slice (some ⟨g, 0, none⟩) xs.length c) xs) (hm : xs.length ≤ 1073741824) (hk0 : 0 ≤ k0) (hk1 : k0 ≤ 549755813888) :
    Calls Try.prog 67 #[.slice (some ⟨g, 0, none⟩) xs.length c, .int .i64 k0] w (MarkS repSL w S [.slice (some ⟨g, 0, none⟩) xs.length c] (k0 + 2 * (xs.length : Int)) (marksRep k0 xs.length)) := by
  go_enter Try.func67, Try.ntmps67
  go_wp2
  go_loopw [1, 5] (fun q i wr => ∃ (k : Nat) (z : Int), k ≤ xs.length ∧ i = .int .i64 k ∧ q = .int .i64 z ∧ Hid (z = k0 + 2 * (k : Int)) ∧ OwnL repL 57 2 wr S (.slice (some ⟨g, 0, none⟩) xs.length c) (marksRep k0 k ++ xs.drop k) ∧ ChgS S w wr) (fun _ i _ => xs.length - (intOf i).toNat)
  case atStart => exact ⟨0, k0, Nat.zero_le _, rfl, rfl, by show _ = _; simp, by simpa [marksRep] using ho, ChgS.refl _ _⟩
  case round =>
    obtain ⟨k, z, hk, rfl, rfl, HZ, hown, hgr⟩ := hrel
    by_cases hlt : k < xs.length
    · have hl : k < (marksRep k0 k ++ xs.drop k).length := by rw [List.length_append, marksRep_len, List.length_drop]; omega
      have hzb : 0 ≤ z ∧ z ≤ 1099511627776 := by have := HZ.out; omega
      obtain ⟨ys, R0⟩ := hown.rowOf
      have hq0 : k * 2 < xs.length * 2 := by omega
      have hq1 : k * 2 + 1 < xs.length * 2 := by omega
      obtain ⟨⟨u0, hu0⟩, hf0, w1, e1, R1⟩ := row_step R0 hq0 (.int .i64 (z))
      obtain ⟨⟨u1, hu1⟩, hf1, w2, e2, R2⟩ := row_step R1 hq1 (.int .i64 (z + 1))
      obtain ⟨H2, H3⟩ := hown.lay own_rep_nil (j := k) (cs := [.int .i64 (z), .int .i64 (z + 1)]) (x := ⟨z, z + 1⟩) hl rfl (own_rep _ ⟨z, z + 1⟩)
      rw [mixRep_set hlt (by have := HZ.out; simp only [MRep.mk.injEq]; omega), show setAll wr g (k * 2) [.int .i64 (z), .int .i64 (z + 1)] = w2 by rw [← e2, ← e1]; rfl] at H2
      rw [show setAll wr g (k * 2) [.int .i64 (z), .int .i64 (z + 1)] = w2 by rw [← e2, ← e1]; rfl] at H3
      replace H3 := hgr.trans H3
      have HZ2 : Hid (z + 2 = k0 + 2 * ((k + 1 : Nat) : Int)) := by
        show _ = _
        have := HZ.out
        omega
      have i1 : (k : Int) < (xs.length : Int) := by omega
      have HH2 := Lib.hid H2
      have HH3 := Lib.hid H3
      clear H2 H3 hl hown hgr HZ R0 hq0 R1 hq1 R2
      go_wp2
      go_roundw
      case rel => exact ⟨k + 1, z + 2, by omega, by go_num, by go_num, HZ2, HH2.out, HH3.out⟩
      case measure => simp [intOf]; omega
    · have hk2 : k = xs.length := by omega
      subst hk2
      rw [List.drop_of_length_le (Nat.le_refl _), List.append_nil] at hown
      go_wp2
      go_ret
      exact ⟨ret_eq (by rw [← HZ.out]; rfl), ⟨_, rfl, hown⟩, hgr⟩

set_option maxHeartbeats 400000 in
theorem markRepS_nil (A : Option Addr) (c : Nat) (S : List Nat) (k0 : Int) (w : World) (ho : OwnL repL 57 2 w S (.slice A 0 c) []) :
    Calls Try.prog 67 #[.slice A 0 c, .int .i64 k0] w (MarkS repSL w S [.slice A 0 c] (k0 + 2 * ((0 : Nat) : Int)) (marksRep k0 0)) := by
  go_enter Try.func67, Try.ntmps67
  go_wp2
  refine wp_loop_rounds 1 ?_
  rw [rounds_succ]
  go_wp2
  go_ret
  exact ⟨by simp, ⟨_, rfl, ho⟩, ChgS.refl _ _⟩

theorem markRepS_s {w : World} {S : List Nat} {v : Value} {xs : List MRep} {k : Int} (h : repSL.own w S [v] xs) (hm : xs.length ≤ 1073741824) (hk0 : 0 ≤ k) (hk1 : k ≤ 549755813888) :
    Calls Try.prog 67 #[v, .int .i64 k] w (MarkS repSL w S [v] (k + 2 * (xs.length : Int)) (marksRep k xs.length)) := by
  obtain ⟨u, e, ho⟩ := h
  obtain rfl : v = u := by simpa using e
  have ho' := ho
  obtain ⟨cf, sf, hrow, -⟩ := ho'
  rcases hrow.2 with ⟨rfl, h0⟩ | ⟨g, cap, cur, rfl, _⟩
  · obtain rfl : xs = [] := List.eq_nil_of_length_eq_zero h0
    exact markRepS_nil none 0 S k w ho
  · exact markRepS_own g cap S xs k w ho hm hk0 hk1

theorem markRepS_c {w : World} {v : Value} {xs : List MRep} {lo hi : Nat} {k : Int} (h : OV repSL w lo hi v xs) (hm : xs.length ≤ 1073741824) (hk0 : 0 ≤ k) (hk1 : k ≤ 549755813888) :
    Calls Try.prog 67 #[v, .int .i64 k] w fun e w' => e = .returned (.int .i64 (k + 2 * (xs.length : Int))) ∧ OV repSL w' lo hi v (marksRep k xs.length) ∧ Chg lo hi w w' := by
  obtain ⟨cs, S, rfl, ⟨u, rfl, ho⟩, hn, hS, hh⟩ := h
  exact (markRepS_s ⟨u, rfl, ho⟩ hm hk0 hk1).mono fun e w' hM => MarkS.up hM hn hS hh

set_option maxHeartbeats 1000000 in
theorem heldRepS_any (A : Option Addr) (c B N : Nat) (k0 : Int) (w : World) (hr : RdL repL 2 w B A (marksRep k0 N)) (hm : N ≤ 1073741824) (hk0 : 0 ≤ k0) (hk1 : k0 ≤ 549755813888) :
    Calls Try.prog 69 #[.slice A N c, .int .i64 k0] w fun e w' => e = .returned (.int .i64 (k0 + 2 * (N : Int))) ∧ w = w' := by
  go_enter Try.func69, Try.ntmps69
  go_wp2
  go_loop [1, 5] (fun q i => ∃ (k : Nat) (z : Int), k ≤ N ∧ i = .int .i64 k ∧ q = .int .i64 z ∧ Hid (z = k0 + 2 * (k : Int))) (fun _ i => N - (intOf i).toNat)
  case atStart => exact ⟨0, k0, Nat.zero_le _, rfl, rfl, by show _ = _; simp⟩
  case round =>
    obtain ⟨k, z, hk, rfl, rfl, HZ⟩ := hrel
    by_cases hlt : k < N
    · have hge := marksRep_get k0 hlt
      rw [← HZ.out] at hge
      obtain ⟨b, off, rfl, hb, c0, c1⟩ := el_rep hr hge
      have hzb : 0 ≤ z ∧ z ≤ 1099511627776 := by have := HZ.out; omega
      have HZ2 : Hid (z + 2 = k0 + 2 * ((k + 1 : Nat) : Int)) := by
        show _ = _
        have := HZ.out
        omega
      clear hge HZ
      have i1 : (k : Int) < (N : Int) := by omega
      go_wp2
      go_round
      case rel => exact ⟨k + 1, z + 2, by omega, by go_num, by go_num, HZ2⟩
      case measure => simp [intOf]; omega
    · have hk2 : k = N := by omega
      subst hk2
      go_wp2
      go_ret
      exact ⟨ret_eq (by rw [← HZ.out]; rfl), rfl⟩

theorem heldRepS_c {w : World} {v : Value} {N : Nat} {k : Int} (h : RV repSL w v (marksRep k N)) (hm : N ≤ 1073741824) (hk0 : 0 ≤ k) (hk1 : k ≤ 549755813888) :
    Calls Try.prog 69 #[v, .int .i64 k] w fun e w' => e = .returned (.int .i64 (k + 2 * (N : Int))) ∧ Below w.heap.size w w' := by
  obtain ⟨A, c, rfl, _, _, hr⟩ := rv_slice h
  rw [marksRep_len]
  exact (heldRepS_any A c _ N k w hr hm hk0 hk1).mono fun e w' ⟨he, hw⟩ => ⟨he, by rw [← hw]; exact Below.refl _ _⟩

set_option maxHeartbeats 400000 in
theorem szRepS_c {w : World} {v : Value} {xs : List MRep} {left : Int} (h : RV repSL w v xs) (h0 : 0 ≤ left) (h1 : left ≤ 1099511627776) :
    Calls Try.prog 55 #[v, .int .i64 left] w fun e w' => e = .returned (.int .i64 (szV left (xs.length : Int))) ∧ Below w.heap.size w w' := by
  obtain ⟨A, c, rfl, hc1, hc2, hr⟩ := rv_slice h
  unfold maxLen at hc2
  by_cases hl : (xs.length : Int) ≤ left
  · have e : szV left (xs.length : Int) = left - (xs.length : Int) := if_pos hl
    have g : decide (left - (xs.length : Int) < 0) = false := by simp; omega
    rw [e]
    clear e
    go_enter Try.func55, Try.ntmps55
    go_wp2
    go_ret
    exact ⟨rfl, Below.refl _ _⟩
  · have e : szV left (xs.length : Int) = -1 := if_neg hl
    have g : decide (left - (xs.length : Int) < 0) = true := by simp; omega
    rw [e]
    clear e
    go_enter Try.func55, Try.ntmps55
    go_wp2
    go_ret
    exact ⟨rfl, Below.refl _ _⟩

theorem Try.info_rep : (Try.prog.info? 57).map (fun i => (i.zero, i.size, i.bytes)) = some (some (.agg #[.int .i64 0, .int .i64 0]), 2, 16) := by kernel_rfl

set_option maxHeartbeats 1000000 in
theorem toRepS_any (A : Option Addr) (c : Nat) (xs : List MRep) (w : World) (hr : RdL repL 2 w w.heap.size A xs) (hm : xs.length ≤ 16777216) :
    Calls Try.prog 61 #[.slice A xs.length c] w (NewV repSL w xs) := by
  obtain ⟨i0, hi, hz0, hz1, hz2⟩ := info_parts Try.info_rep
  go_enter Try.func61, Try.ntmps61
  go_wp2_with (at_make; refine wpList_make_full _ rfl _ _ 25 rfl w.heap.size 57 i0 (.agg #[.int .i64 0, .int .i64 0]) 2 Try.underlying25 hi hz0 hz1 .i64 .i64 _ _ xs.length rfl rfl rfl rfl ?c1 ?c2 ?c3 ?_)
  case c1 => rw [hz2]; omega
  case c2 => unfold maxLen; omega
  case c3 => exact Nat.le_refl _
  intro w1 hown1 hg1
  have hb1 : Below w.heap.size w w1 := (Below.refl _ _).grown hg1 (Nat.le_refl _) (by intro k hk; cases hk)
  have hlt1 := World.ownsRow.lt hown1 w.heap.size rfl
  have ho1 : OV repSL w1 w.heap.size w1.heap.size (.slice (some ⟨w.heap.size, 0, none⟩) xs.length xs.length) (xs.take 0 ++ List.replicate (xs.length - 0) ⟨0, 0⟩) := by
    have h2 : w1.ownsRow 0 57 2 (.slice (some ⟨w.heap.size, 0, none⟩) xs.length xs.length) xs.length (flat (fun _ => [.int .i64 0, .int .i64 0]) xs.length) := by
      rw [flat_made _ _ (by decide)]
      refine ⟨hown1.1, ?_⟩
      rcases hown1.2 with h4 | ⟨g, cap, cur, hv, hg, r⟩
      · exact .inl h4
      · exact .inr ⟨g, cap, cur, hv, Nat.zero_le _, r⟩
    have h5 := ownL_made (L := repL) (z := ⟨0, 0⟩) (own_rep w1 ⟨0, 0⟩) rfl h2
    refine ⟨[_], _, rfl, ⟨_, rfl, by simpa using h5⟩, by simp [Value.ownBlock], fun j hj => ?_, Nat.le_refl _⟩
    obtain rfl : j = w.heap.size := by simpa [Value.ownBlock] using hj
    exact hlt1
  clear hown1 hg1 hlt1
  go_wp2
  go_loopw [4] (fun i wr => ∃ k : Nat, k ≤ xs.length ∧ i = .int .i64 k ∧ OV repSL wr w.heap.size wr.heap.size (.slice (some ⟨w.heap.size, 0, none⟩) xs.length xs.length) (xs.take k ++ List.replicate (xs.length - k) ⟨0, 0⟩) ∧ Below w.heap.size w wr) (fun i _ => xs.length - (intOf i).toNat)
  case atStart => exact ⟨0, Nat.zero_le _, rfl, ho1, hb1⟩
  case round =>
    obtain ⟨k, hk, rfl, hown, hbr⟩ := hrel
    have hsz := hbr.size
    by_cases hlt : k < xs.length
    · obtain ⟨x, hxe⟩ := get_of_lt hlt
      obtain ⟨b, off, rfl, hb, c0, c1⟩ := el_rep (hr.below hbr) hxe
      have HX := Lib.hid hxe
      clear hxe
      have i1 : (k : Int) < (xs.length : Int) := by omega
      go_wp2_with fail
      refine (toRep_c (w := wr) (d := x) rv_rep_mk).mono ?_
      rintro e w2 ⟨v2, rfl, o2, hb2⟩
      have s2 := hb2.size
      obtain rfl := rv_rep o2.rd
      have hown2 := hown.below hb2
      have hl := fill_lenL (d := (⟨0, 0⟩ : MRep)) xs k hk
      obtain ⟨H2, H3⟩ := hown2.lay own_rep_nil (j := k) (cs := [.int .i64 x.Node, .int .i64 x.Amt]) (x := x) (by rw [hl]; exact hlt) rfl (own_rep _ x)
      obtain ⟨ys, R0⟩ := hown2.rowOf
      have hq0 : k * 2 < xs.length * 2 := by omega
      have hq1 : k * 2 + 1 < xs.length * 2 := by omega
      obtain ⟨⟨u0, hu0⟩, hf0, w3, e1, R1⟩ := row_step R0 hq0 (.int .i64 x.Node)
      obtain ⟨⟨u1, hu1⟩, hf1, w4, e2, R2⟩ := row_step R1 hq1 (.int .i64 x.Amt)
      rw [fill_stepL xs k HX.out, show setAll w2 w.heap.size (k * 2) [.int .i64 x.Node, .int .i64 x.Amt] = w4 by rw [← e2, ← e1]; rfl] at H2
      rw [show setAll w2 w.heap.size (k * 2) [.int .i64 x.Node, .int .i64 x.Amt] = w4 by rw [← e2, ← e1]; rfl] at H3
      have s3 := H3.size
      have hl2 := H2.widen (Nat.le_refl _) (Nat.le_trans s2 s3) (Nat.le_refl _)
      have hb3 : Below w.heap.size w w4 := Below.chg_ (hbr.trans (hb2.mono hsz)) H3 (Nat.le_refl _) (Nat.le_trans hsz s2)
      have HR2 := Lib.hid hl2
      clear H2 H3 hl2 hl hown hown2 s3 R0 hq0 R1 hq1 R2
      go_wp2
      go_roundw
      case rel => exact ⟨k + 1, by omega, by go_num, HR2.out, hb3⟩
      case measure => simp [intOf]; omega
    · have hk2 : k = xs.length := by omega
      subst hk2
      rw [Nat.sub_self, List.replicate_zero, List.append_nil, List.take_of_length_le (Nat.le_refl _)] at hown
      go_wp2
      go_ret
      exact ⟨_, rfl, hown, hbr⟩

theorem toRepS_c {w : World} {v : Value} {xs : List MRep} (h : RV repSL w v xs) (hm : xs.length ≤ 16777216) : Calls Try.prog 61 #[v] w (NewV repSL w xs) := by
  obtain ⟨A, c, rfl, _, _, hr⟩ := rv_slice h
  exact toRepS_any A c xs w hr hm

end Go.Proofs.Ytopmojfcdmcmbaa
