/- Texts joined: TRep, SRepS, TAcct, TMsg, SMsgS, TOut, TAcc. -/
import Derived.Test.YtdoipabfmekdlaaProg
import Derived.Test.YtdoipabfmekdlaaBunA
import Derived.Deep.RegionHeld3

namespace Go.Proofs.Ytdoipabfmekdlaa
open Go.RowKit
set_option linter.unusedVariables false

structure MRep where
  Node : Int
  Amt : Int

def repL : Lay MRep := isoL (fun d => (d.Node, d.Amt)) (consL (intL .i64) (intL .i64))

theorem sz_rep : (Try.prog.info? 90).map (·.size) = some 2 := by kernel_rfl

/-- how many values lie behind it -/
def MRep.bulk (d : MRep) : Nat := 0

/-- what a marking from k on makes of it -/
def MRep.mark (d : MRep) (k : Int) : MRep := ⟨d.Node, d.Amt⟩

theorem rv_rep {w : World} {v : Value} {d : MRep} (h : RV repL w v d) : v = .agg #[.int .i64 d.Node, .int .i64 d.Amt] := by
  obtain ⟨cs, rfl, hcs⟩ := h
  obtain ⟨_, _, rfl, rfl, rfl⟩ := hcs
  rfl

theorem cs_rep {w : World} {B : Nat} {cs : List Value} {d : MRep} (h : repL.rd w B cs d) : cs = [.int .i64 d.Node, .int .i64 d.Amt] := by
  obtain ⟨_, _, rfl, rfl, rfl⟩ := h
  rfl

theorem rv_rep_mk {w : World} {zNode : Int} {zAmt : Int} : RV repL w (.agg #[.int .i64 zNode, .int .i64 zAmt]) ⟨zNode, zAmt⟩ := by
  exact ⟨_, rfl, [_], _, rfl, rfl, rfl⟩

theorem ovp_rep {w : World} {d : MRep} {lo hi : Nat} (hc : hi ≤ w.heap.size) : OVp repL w (fun j => lo ≤ j ∧ j < hi) [.int .i64 d.Node, .int .i64 d.Amt] d := by
  have h : OVp repL w _ [.int .i64 d.Node, .int .i64 d.Amt] d := OVp.iso (f := fun d : MRep => (d.Node, d.Amt)) (OVp.cons1 OVp.one)
  exact h.imp (fun _ h => h.elim)

theorem ov_rep {w : World} {d : MRep} {lo hi : Nat} (hc : hi ≤ w.heap.size) : OV repL w lo hi (.agg #[.int .i64 d.Node, .int .i64 d.Amt]) d :=
  (ovp_rep (lo := lo) (hi := hi) hc).ov (fun _ h => h) hc

set_option maxHeartbeats 1000000 in
theorem toRep_c {w : World} {v : Value} {d : MRep} (h : RV repL w v d) : Calls Try.prog 108 #[v] w (NewV repL w d) := by
  obtain rfl := rv_rep h
  obtain ⟨wa, hwa, B0, sa, x_a, x_r, x_out⟩ := frame3 w 116 [.int .i64 d.Node, .int .i64 d.Amt] 90 [.int .i64 0, .int .i64 0] 90 [.int .i64 0, .int .i64 0]
  have sa_1 := Nat.le_of_eq sa
  have sa_2 := Nat.le_of_eq sa.symm
  clear sa
  have c_a_0_wa := x_a.cell (i := 0) rfl
  have f_a_0_wa := x_a.frozen 0
  have c_a_1_wa := x_a.cell (i := 1) rfl
  have f_a_1_wa := x_a.frozen 1
  have c_out_0_wa := x_out.cell (i := 0) rfl
  have f_out_0_wa := x_out.frozen 0
  have c_out_1_wa := x_out.cell (i := 1) rfl
  have f_out_1_wa := x_out.frozen 1
  go_enter Try.func108, Try.ntmps108
  have c_r_0_wa := x_r.cell (i := 0) rfl
  have f_r_0_wa := x_r.frozen 0
  have c_r_1_wa := x_r.cell (i := 1) rfl
  have f_r_1_wa := x_r.frozen 1
  obtain ⟨w1, e_w1, s_w1, h_w1, y⟩ := set_step x_out 0 (.int .i64 d.Node)
  have s_w1_1 := Nat.le_of_eq s_w1
  have s_w1_2 := Nat.le_of_eq s_w1.symm
  clear s_w1
  replace x_a := x_a.chg h_w1 (by omega)
  replace x_r := x_r.chg h_w1 (by omega)
  have B_w1 := Below.chg_ B0 h_w1 (by omega) (by omega)
  replace x_out : Vr w1 (w.heap.size + 1 + 1) 90 [.int .i64 d.Node, .int .i64 0] := y
  clear y
  have c_a_0_w1 := x_a.cell (i := 0) rfl
  have f_a_0_w1 := x_a.frozen 0
  have c_a_1_w1 := x_a.cell (i := 1) rfl
  have f_a_1_w1 := x_a.frozen 1
  have c_out_0_w1 := x_out.cell (i := 0) rfl
  have f_out_0_w1 := x_out.frozen 0
  have c_out_1_w1 := x_out.cell (i := 1) rfl
  have f_out_1_w1 := x_out.frozen 1
  have c_r_0_w1 := x_r.cell (i := 0) rfl
  have f_r_0_w1 := x_r.frozen 0
  have c_r_1_w1 := x_r.cell (i := 1) rfl
  have f_r_1_w1 := x_r.frozen 1
  obtain ⟨w2, e_w2, s_w2, h_w2, y⟩ := set_step x_out 1 (.int .i64 d.Amt)
  have s_w2_1 := Nat.le_of_eq s_w2
  have s_w2_2 := Nat.le_of_eq s_w2.symm
  clear s_w2
  replace x_a := x_a.chg h_w2 (by omega)
  replace x_r := x_r.chg h_w2 (by omega)
  have B_w2 := Below.chg_ B_w1 h_w2 (by omega) (by omega)
  replace x_out : Vr w2 (w.heap.size + 1 + 1) 90 [.int .i64 d.Node, .int .i64 d.Amt] := y
  clear y
  have c_a_0_w2 := x_a.cell (i := 0) rfl
  have f_a_0_w2 := x_a.frozen 0
  have c_a_1_w2 := x_a.cell (i := 1) rfl
  have f_a_1_w2 := x_a.frozen 1
  have c_out_0_w2 := x_out.cell (i := 0) rfl
  have f_out_0_w2 := x_out.frozen 0
  have c_out_1_w2 := x_out.cell (i := 1) rfl
  have f_out_1_w2 := x_out.frozen 1
  have c_r_0_w2 := x_r.cell (i := 0) rfl
  have f_r_0_w2 := x_r.frozen 0
  have c_r_1_w2 := x_r.cell (i := 1) rfl
  have f_r_1_w2 := x_r.frozen 1
  obtain ⟨w3, e_w3, s_w3, h_w3, y⟩ := store_step x_r [.int .i64 d.Node, .int .i64 d.Amt] rfl
  replace e_w3 : ((w2.setCell ⟨w.heap.size + 1, 0, none⟩ (.int .i64 d.Node)).setCell ⟨w.heap.size + 1, 1, none⟩ (.int .i64 d.Amt)) = w3 := e_w3
  have s_w3_1 := Nat.le_of_eq s_w3
  have s_w3_2 := Nat.le_of_eq s_w3.symm
  clear s_w3
  replace x_a := x_a.chg h_w3 (by omega)
  replace x_out := x_out.chg h_w3 (by omega)
  have B_w3 := Below.chg_ B_w2 h_w3 (by omega) (by omega)
  replace x_r : Vr w3 (w.heap.size + 1) 90 [.int .i64 d.Node, .int .i64 d.Amt] := y
  clear y
  have c_r_0_w3 := x_r.cell (i := 0) rfl
  have f_r_0_w3 := x_r.frozen 0
  have c_r_1_w3 := x_r.cell (i := 1) rfl
  have f_r_1_w3 := x_r.frozen 1
  go_wp2
  refine ret_cell (by rfl) (by rfl) x_r Try.underlying90 sz_rep (by rfl) ?_
  exact ⟨_, rfl, ov_rep (by omega), B_w3⟩

set_option maxHeartbeats 1000000 in
theorem eqRep_same {w : World} {v v' : Value} {d : MRep} (h : RV repL w v d) (h' : RV repL w v' d) : Calls Try.prog 117 #[v, v'] w fun e w' => e = .returned (.bool true) ∧ Below w.heap.size w w' := by
  obtain rfl := rv_rep h
  obtain rfl := rv_rep h'
  obtain ⟨wa, hwa, B0, sa, x_a, x_b⟩ := frame2 w 90 [.int .i64 d.Node, .int .i64 d.Amt] 90 [.int .i64 d.Node, .int .i64 d.Amt]
  have sa_1 := Nat.le_of_eq sa
  have sa_2 := Nat.le_of_eq sa.symm
  clear sa
  have c_a_0_wa := x_a.cell (i := 0) rfl
  have c_a_1_wa := x_a.cell (i := 1) rfl
  have c_b_0_wa := x_b.cell (i := 0) rfl
  have c_b_1_wa := x_b.cell (i := 1) rfl
  go_enter Try.func117, Try.ntmps117
  go_wp2
  go_ret
  exact ⟨rfl, B0⟩

end Go.Proofs.Ytdoipabfmekdlaa

namespace Go.Proofs.Ytdoipabfmekdlaa
open Go.RowKit
set_option linter.unusedVariables false

def repSL : Lay (List MRep) := sliceL 90 2 repL

theorem el_rep {w : World} {B : Nat} {A : Option Addr} {xs : List MRep} {j : Nat} {x : MRep} (h : RdL repL 2 w B A xs) (hx : xs[j]? = some x) :
    ∃ b off, A = some ⟨b, off, none⟩ ∧ b < B ∧ w.cell? ⟨b, off + j * 2, none⟩ = some (.int .i64 x.Node) ∧ w.cell? ⟨b, off + j * 2 + 1, none⟩ = some (.int .i64 x.Amt) := by
  obtain ⟨b, off, cs, rfl, hb, hl, hc, hr⟩ := h.at_ hx
  obtain rfl := cs_rep hr
  exact ⟨b, off, rfl, hb, hc 0 _ rfl, hc 1 _ rfl⟩

set_option maxHeartbeats 400000 in
theorem eqRepS_any (A A' : Option Addr) (c c' : Nat) (xs : List MRep) (w : World) (hx : RdL repL 2 w w.heap.size A xs) (hy : RdL repL 2 w w.heap.size A' xs) (hm : xs.length ≤ 1073741824) :
    Calls Try.prog 105 #[.slice A xs.length c, .slice A' xs.length c'] w fun e w' => e = .returned (.bool true) ∧ Below w.heap.size w w' := by
  go_enter Try.func105, Try.ntmps105
  go_wp2
  go_loopw [5] (fun i wr => ∃ k : Nat, k ≤ xs.length ∧ i = .int .i64 k ∧ Below w.heap.size w wr) (fun i _ => xs.length - (intOf i).toNat)
  case atStart => exact ⟨0, Nat.zero_le _, rfl, Below.refl _ _⟩
  case round =>
    obtain ⟨k, hk, rfl, HB⟩ := hrel
    by_cases hlt : k < xs.length
    · obtain ⟨x, hxe⟩ := get_of_lt hlt
      obtain ⟨b, off, rfl, hb, c0, c1⟩ := el_rep (hx.below HB) hxe
      obtain ⟨b', off', rfl, hb', d0, d1⟩ := el_rep (hy.below HB) hxe
      clear hxe
      have i1 : (k : Int) < (xs.length : Int) := by omega
      have hs := HB.size
      have hbw : b < wr.heap.size := by omega
      have hbw' : b' < wr.heap.size := by omega
      go_wp2_with fail
      go_region_held3 (fun w' => w'.cell? ⟨b, off + k * 2, none⟩ = some (.int .i64 x.Node) ∧ w'.cell? ⟨b, off + k * 2 + 1, none⟩ = some (.int .i64 x.Amt) ∧ w'.cell? ⟨b', off' + k * 2, none⟩ = some (.int .i64 x.Node) ∧ w'.cell? ⟨b', off' + k * 2 + 1, none⟩ = some (.int .i64 x.Amt))
        (first | exact ⟨c0, c1, d0, d1⟩ | exact ⟨(hk1 _ hbw).trans c0, (hk1 _ hbw).trans c1, (hk1 _ hbw').trans d0, (hk1 _ hbw').trans d1⟩)
        (first | (go_at_call 117; refine (eqRep_same (d := x) rv_rep_mk rv_rep_mk).mono ?_; rintro e w1 ⟨rfl, hd1⟩; have hk1 : ∀ p : Addr, p.block < wr.heap.size → w1.cell? p = wr.cell? p := (fun p hp => hd1.cell hp); have hb2 : Below w.heap.size w w1 := HB.drew.trans (hd1.mono HB.size)))
      go_wp2
      go_roundw
      case rel => exact ⟨k + 1, by omega, by go_num, hb2⟩
      case measure => simp [intOf]; omega
    · have hk2 : k = xs.length := by omega
      subst hk2
      go_wp2
      go_ret
      exact ⟨rfl, HB⟩

theorem eqRepS_same {w : World} {v v' : Value} {xs : List MRep} (h : RV repSL w v xs) (h' : RV repSL w v' xs) (hm : xs.length ≤ 1073741824) :
    Calls Try.prog 105 #[v, v'] w fun e w' => e = .returned (.bool true) ∧ Below w.heap.size w w' := by
  obtain ⟨A, c, rfl, _, _, hr⟩ := rv_slice h
  obtain ⟨A', c', rfl, _, _, hr'⟩ := rv_slice h'
  exact eqRepS_any A A' c c' xs w hr hr' hm

/-- the marks that a marking lays, element behind element -/
def marksRep (k : Int) (N : Nat) : List MRep := (List.range N).map fun (i : Nat) => ⟨k + 2 * (i : Int), k + 2 * (i : Int) + 1⟩
theorem marksRep_len (k : Int) (N : Nat) : (marksRep k N).length = N := by simp [marksRep]
theorem marksRep_succ (k : Int) (N : Nat) : marksRep k (N + 1) = marksRep k N ++ [⟨k + 2 * (N : Int), k + 2 * (N : Int) + 1⟩] := by simp [marksRep, List.range_succ]
theorem marksRep_get (k : Int) {N j : Nat} (h : j < N) : (marksRep k N)[j]? = some ⟨k + 2 * (j : Int), k + 2 * (j : Int) + 1⟩ := by simp [marksRep, h]
theorem mixRep_set {xs : List MRep} {k0 : Int} {k : Nat} {x : MRep} (h : k < xs.length) (hx : x = ⟨k0 + 2 * (k : Int), k0 + 2 * (k : Int) + 1⟩) : (marksRep k0 k ++ xs.drop k).set k x = marksRep k0 (k + 1) ++ xs.drop (k + 1) := by
  have e : (marksRep k0 k).length = k := marksRep_len _ _
  rw [List.set_append, if_neg (by omega), e, Nat.sub_self, List.drop_eq_getElem_cons h, List.set_cons_zero, marksRep_succ, hx, List.append_assoc]
  rfl

theorem own_rep (w : World) (d : MRep) : repL.own w [] [.int .i64 d.Node, .int .i64 d.Amt] d := by
  have h := ovp_rep (w := w) (d := d) (lo := 0) (hi := 0) (Nat.zero_le _)
  obtain ⟨S, ho, hn, hS⟩ := h
  obtain rfl : S = [] := List.eq_nil_iff_forall_not_mem.2 fun j hj => by have := hS j hj; omega
  exact ho
theorem own_rep_nil (w : World) (T : List Nat) (cs : List Value) (x : MRep) (h : repL.own w T cs x) : T = [] := by
  obtain ⟨_, _, _, _, -, rfl, ⟨-, rfl⟩, ⟨-, rfl⟩⟩ := h
  rfl

set_option maxHeartbeats 1000000 in
theorem markRepS_own (g c : Nat) (S : List Nat) (xs : List MRep) (k0 : Int) (w : World) (ho : OwnL repL 90 2 w S (.slice (some ⟨g, 0, none⟩) xs.length c) xs) (hm : xs.length ≤ 1073741824) (hk0 : 0 ≤ k0) (hk1 : k0 ≤ 549755813888) :
    Calls Try.prog 86 #[.slice (some ⟨g, 0, none⟩) xs.length c, .int .i64 k0] w (MarkS repSL w S [.slice (some ⟨g, 0, none⟩) xs.length c] (k0 + 2 * (xs.length : Int)) (marksRep k0 xs.length)) := by
  go_enter Try.func86, Try.ntmps86
  go_wp2
  go_loopw [1, 5] (fun q i wr => ∃ (k : Nat) (z : Int), k ≤ xs.length ∧ i = .int .i64 k ∧ q = .int .i64 z ∧ Hid (z = k0 + 2 * (k : Int)) ∧ OwnL repL 90 2 wr S (.slice (some ⟨g, 0, none⟩) xs.length c) (marksRep k0 k ++ xs.drop k) ∧ ChgS S w wr) (fun _ i _ => xs.length - (intOf i).toNat)
  case atStart => exact ⟨0, k0, Nat.zero_le _, rfl, rfl, by show _ = _; simp, by simpa [marksRep] using ho, ChgS.refl _ _⟩
  case round =>
    obtain ⟨k, z, hk, rfl, rfl, HZ, hown, hgr⟩ := hrel
    by_cases hlt : k < xs.length
    · have hl : k < (marksRep k0 k ++ xs.drop k).length := by rw [List.length_append, marksRep_len, List.length_drop]; omega
      have hzb : 0 ≤ z ∧ z ≤ 1099511627776 := by have := HZ.out; omega
      obtain ⟨ys, R0⟩ := hown.rowOf
      have hq0 : k * 2 < xs.length * 2 := by omega
      have hq1 : k * 2 + 1 < xs.length * 2 := by omega
      obtain ⟨⟨u0, hu0⟩, hf0, w1, e1, R1⟩ := row_step R0 hq0 (.int .i64 (z))
      obtain ⟨⟨u1, hu1⟩, hf1, w2, e2, R2⟩ := row_step R1 hq1 (.int .i64 (z + 1))
      obtain ⟨H2, H3⟩ := hown.lay own_rep_nil (j := k) (cs := [.int .i64 (z), .int .i64 (z + 1)]) (x := ⟨z, z + 1⟩) hl rfl (own_rep _ ⟨z, z + 1⟩)
      rw [mixRep_set hlt (by have := HZ.out; simp only [MRep.mk.injEq]; omega), show setAll wr g (k * 2) [.int .i64 (z), .int .i64 (z + 1)] = w2 by rw [← e2, ← e1]; rfl] at H2
      rw [show setAll wr g (k * 2) [.int .i64 (z), .int .i64 (z + 1)] = w2 by rw [← e2, ← e1]; rfl] at H3
      replace H3 := hgr.trans H3
      have HZ2 : Hid (z + 2 = k0 + 2 * ((k + 1 : Nat) : Int)) := by
        show _ = _
        have := HZ.out
        omega
      have i1 : (k : Int) < (xs.length : Int) := by omega
      have HH2 := Lib.hid H2
      have HH3 := Lib.hid H3
      clear H2 H3 hl hown hgr HZ R0 hq0 R1 hq1 R2
      go_wp2
      go_roundw
      case rel => exact ⟨k + 1, z + 2, by omega, by go_num, by go_num, HZ2, HH2.out, HH3.out⟩
      case measure => simp [intOf]; omega
    · have hk2 : k = xs.length := by omega
      subst hk2
      rw [List.drop_of_length_le (Nat.le_refl _), List.append_nil] at hown
      go_wp2
      go_ret
      exact ⟨ret_eq (by rw [← HZ.out]; rfl), ⟨_, rfl, hown⟩, hgr⟩

set_option maxHeartbeats 400000 in
theorem markRepS_nil (A : Option Addr) (c : Nat) (S : List Nat) (k0 : Int) (w : World) (ho : OwnL repL 90 2 w S (.slice A 0 c) []) :
    Calls Try.prog 86 #[.slice A 0 c, .int .i64 k0] w (MarkS repSL w S [.slice A 0 c] (k0 + 2 * ((0 : Nat) : Int)) (marksRep k0 0)) := by
  go_enter Try.func86, Try.ntmps86
  go_wp2
  refine wp_loop_rounds 1 ?_
  rw [rounds_succ]
  go_wp2
  go_ret
  exact ⟨by simp, ⟨_, rfl, ho⟩, ChgS.refl _ _⟩

theorem markRepS_s {w : World} {S : List Nat} {v : Value} {xs : List MRep} {k : Int} (h : repSL.own w S [v] xs) (hm : xs.length ≤ 1073741824) (hk0 : 0 ≤ k) (hk1 : k ≤ 549755813888) :
    Calls Try.prog 86 #[v, .int .i64 k] w (MarkS repSL w S [v] (k + 2 * (xs.length : Int)) (marksRep k xs.length)) := by
  obtain ⟨u, e, ho⟩ := h
  obtain rfl : v = u := by simpa using e
  have ho' := ho
  obtain ⟨cf, sf, hrow, -⟩ := ho'
  rcases hrow.2 with ⟨rfl, h0⟩ | ⟨g, cap, cur, rfl, _⟩
  · obtain rfl : xs = [] := List.eq_nil_of_length_eq_zero h0
    exact markRepS_nil none 0 S k w ho
  · exact markRepS_own g cap S xs k w ho hm hk0 hk1

theorem markRepS_c {w : World} {v : Value} {xs : List MRep} {lo hi : Nat} {k : Int} (h : OV repSL w lo hi v xs) (hm : xs.length ≤ 1073741824) (hk0 : 0 ≤ k) (hk1 : k ≤ 549755813888) :
    Calls Try.prog 86 #[v, .int .i64 k] w fun e w' => e = .returned (.int .i64 (k + 2 * (xs.length : Int))) ∧ OV repSL w' lo hi v (marksRep k xs.length) ∧ Chg lo hi w w' := by
  obtain ⟨cs, S, rfl, ⟨u, rfl, ho⟩, hn, hS, hh⟩ := h
  exact (markRepS_s ⟨u, rfl, ho⟩ hm hk0 hk1).mono fun e w' hM => MarkS.up hM hn hS hh

set_option maxHeartbeats 1000000 in
theorem heldRepS_any (A : Option Addr) (c B N : Nat) (k0 : Int) (w : World) (hr : RdL repL 2 w B A (marksRep k0 N)) (hm : N ≤ 1073741824) (hk0 : 0 ≤ k0) (hk1 : k0 ≤ 549755813888) :
    Calls Try.prog 88 #[.slice A N c, .int .i64 k0] w fun e w' => e = .returned (.int .i64 (k0 + 2 * (N : Int))) ∧ w = w' := by
  go_enter Try.func88, Try.ntmps88
  go_wp2
  go_loop [1, 5] (fun q i => ∃ (k : Nat) (z : Int), k ≤ N ∧ i = .int .i64 k ∧ q = .int .i64 z ∧ Hid (z = k0 + 2 * (k : Int))) (fun _ i => N - (intOf i).toNat)
  case atStart => exact ⟨0, k0, Nat.zero_le _, rfl, rfl, by show _ = _; simp⟩
  case round =>
    obtain ⟨k, z, hk, rfl, rfl, HZ⟩ := hrel
    by_cases hlt : k < N
    · have hge := marksRep_get k0 hlt
      rw [← HZ.out] at hge
      obtain ⟨b, off, rfl, hb, c0, c1⟩ := el_rep hr hge
      have hzb : 0 ≤ z ∧ z ≤ 1099511627776 := by have := HZ.out; omega
      have HZ2 : Hid (z + 2 = k0 + 2 * ((k + 1 : Nat) : Int)) := by
        show _ = _
        have := HZ.out
        omega
      clear hge HZ
      have i1 : (k : Int) < (N : Int) := by omega
      go_wp2
      go_round
      case rel => exact ⟨k + 1, z + 2, by omega, by go_num, by go_num, HZ2⟩
      case measure => simp [intOf]; omega
    · have hk2 : k = N := by omega
      subst hk2
      go_wp2
      go_ret
      exact ⟨ret_eq (by rw [← HZ.out]; rfl), rfl⟩

theorem heldRepS_c {w : World} {v : Value} {N : Nat} {k : Int} (h : RV repSL w v (marksRep k N)) (hm : N ≤ 1073741824) (hk0 : 0 ≤ k) (hk1 : k ≤ 549755813888) :
    Calls Try.prog 88 #[v, .int .i64 k] w fun e w' => e = .returned (.int .i64 (k + 2 * (N : Int))) ∧ Below w.heap.size w w' := by
  obtain ⟨A, c, rfl, _, _, hr⟩ := rv_slice h
  rw [marksRep_len]
  exact (heldRepS_any A c _ N k w hr hm hk0 hk1).mono fun e w' ⟨he, hw⟩ => ⟨he, by rw [← hw]; exact Below.refl _ _⟩

set_option maxHeartbeats 400000 in
theorem szRepS_c {w : World} {v : Value} {xs : List MRep} {left : Int} (h : RV repSL w v xs) (h0 : 0 ≤ left) (h1 : left ≤ 1099511627776) :
    Calls Try.prog 95 #[v, .int .i64 left] w fun e w' => e = .returned (.int .i64 (szV left (xs.length : Int))) ∧ Below w.heap.size w w' := by
  obtain ⟨A, c, rfl, hc1, hc2, hr⟩ := rv_slice h
  unfold maxLen at hc2
  by_cases hl : (xs.length : Int) ≤ left
  · have e : szV left (xs.length : Int) = left - (xs.length : Int) := if_pos hl
    have g : decide (left - (xs.length : Int) < 0) = false := by simp; omega
    rw [e]
    clear e
    go_enter Try.func95, Try.ntmps95
    go_wp2
    go_ret
    exact ⟨rfl, Below.refl _ _⟩
  · have e : szV left (xs.length : Int) = -1 := if_neg hl
    have g : decide (left - (xs.length : Int) < 0) = true := by simp; omega
    rw [e]
    clear e
    go_enter Try.func95, Try.ntmps95
    go_wp2
    go_ret
    exact ⟨rfl, Below.refl _ _⟩

theorem Try.info_rep : (Try.prog.info? 90).map (fun i => (i.zero, i.size, i.bytes)) = some (some (.agg #[.int .i64 0, .int .i64 0]), 2, 16) := by kernel_rfl

set_option maxHeartbeats 1000000 in
theorem toRepS_any (A : Option Addr) (c : Nat) (xs : List MRep) (w : World) (hr : RdL repL 2 w w.heap.size A xs) (hm : xs.length ≤ 16777216) :
    Calls Try.prog 99 #[.slice A xs.length c] w (NewV repSL w xs) := by
  obtain ⟨i0, hi, hz0, hz1, hz2⟩ := info_parts Try.info_rep
  go_enter Try.func99, Try.ntmps99
  go_wp2_with (at_make; refine wpList_make_full _ rfl _ _ 50 rfl w.heap.size 90 i0 (.agg #[.int .i64 0, .int .i64 0]) 2 Try.underlying50 hi hz0 hz1 .i64 .i64 _ _ xs.length rfl rfl rfl rfl ?c1 ?c2 ?c3 ?_)
  case c1 => rw [hz2]; omega
  case c2 => unfold maxLen; omega
  case c3 => exact Nat.le_refl _
  intro w1 hown1 hg1
  have hb1 : Below w.heap.size w w1 := (Below.refl _ _).grown hg1 (Nat.le_refl _) (by intro k hk; cases hk)
  have hlt1 := World.ownsRow.lt hown1 w.heap.size rfl
  have ho1 : OV repSL w1 w.heap.size w1.heap.size (.slice (some ⟨w.heap.size, 0, none⟩) xs.length xs.length) (xs.take 0 ++ List.replicate (xs.length - 0) ⟨0, 0⟩) := by
    have h2 : w1.ownsRow 0 90 2 (.slice (some ⟨w.heap.size, 0, none⟩) xs.length xs.length) xs.length (flat (fun _ => [.int .i64 0, .int .i64 0]) xs.length) := by
      rw [flat_made _ _ (by decide)]
      refine ⟨hown1.1, ?_⟩
      rcases hown1.2 with h4 | ⟨g, cap, cur, hv, hg, r⟩
      · exact .inl h4
      · exact .inr ⟨g, cap, cur, hv, Nat.zero_le _, r⟩
    have h5 := ownL_made (L := repL) (z := ⟨0, 0⟩) (own_rep w1 ⟨0, 0⟩) rfl h2
    refine ⟨[_], _, rfl, ⟨_, rfl, by simpa using h5⟩, by simp [Value.ownBlock], fun j hj => ?_, Nat.le_refl _⟩
    obtain rfl : j = w.heap.size := by simpa [Value.ownBlock] using hj
    exact hlt1
  clear hown1 hg1 hlt1
  go_wp2
  go_loopw [4] (fun i wr => ∃ k : Nat, k ≤ xs.length ∧ i = .int .i64 k ∧ OV repSL wr w.heap.size wr.heap.size (.slice (some ⟨w.heap.size, 0, none⟩) xs.length xs.length) (xs.take k ++ List.replicate (xs.length - k) ⟨0, 0⟩) ∧ Below w.heap.size w wr) (fun i _ => xs.length - (intOf i).toNat)
  case atStart => exact ⟨0, Nat.zero_le _, rfl, ho1, hb1⟩
  case round =>
    obtain ⟨k, hk, rfl, hown, hbr⟩ := hrel
    have hsz := hbr.size
    by_cases hlt : k < xs.length
    · obtain ⟨x, hxe⟩ := get_of_lt hlt
      obtain ⟨b, off, rfl, hb, c0, c1⟩ := el_rep (hr.below hbr) hxe
      have HX := Lib.hid hxe
      clear hxe
      have i1 : (k : Int) < (xs.length : Int) := by omega
      go_wp2_with fail
      refine (toRep_c (w := wr) (d := x) rv_rep_mk).mono ?_
      rintro e w2 ⟨v2, rfl, o2, hb2⟩
      have s2 := hb2.size
      obtain rfl := rv_rep o2.rd
      have hown2 := hown.below hb2
      have hl := fill_lenL (d := (⟨0, 0⟩ : MRep)) xs k hk
      obtain ⟨H2, H3⟩ := hown2.lay own_rep_nil (j := k) (cs := [.int .i64 x.Node, .int .i64 x.Amt]) (x := x) (by rw [hl]; exact hlt) rfl (own_rep _ x)
      obtain ⟨ys, R0⟩ := hown2.rowOf
      have hq0 : k * 2 < xs.length * 2 := by omega
      have hq1 : k * 2 + 1 < xs.length * 2 := by omega
      obtain ⟨⟨u0, hu0⟩, hf0, w3, e1, R1⟩ := row_step R0 hq0 (.int .i64 x.Node)
      obtain ⟨⟨u1, hu1⟩, hf1, w4, e2, R2⟩ := row_step R1 hq1 (.int .i64 x.Amt)
      rw [fill_stepL xs k HX.out, show setAll w2 w.heap.size (k * 2) [.int .i64 x.Node, .int .i64 x.Amt] = w4 by rw [← e2, ← e1]; rfl] at H2
      rw [show setAll w2 w.heap.size (k * 2) [.int .i64 x.Node, .int .i64 x.Amt] = w4 by rw [← e2, ← e1]; rfl] at H3
      have s3 := H3.size
      have hl2 := H2.widen (Nat.le_refl _) (Nat.le_trans s2 s3) (Nat.le_refl _)
      have hb3 : Below w.heap.size w w4 := Below.chg_ (hbr.trans (hb2.mono hsz)) H3 (Nat.le_refl _) (Nat.le_trans hsz s2)
      have HR2 := Lib.hid hl2
      clear H2 H3 hl2 hl hown hown2 s3 R0 hq0 R1 hq1 R2
      go_wp2
      go_roundw
      case rel => exact ⟨k + 1, by omega, by go_num, HR2.out, hb3⟩
      case measure => simp [intOf]; omega
    · have hk2 : k = xs.length := by omega
      subst hk2
      rw [Nat.sub_self, List.replicate_zero, List.append_nil, List.take_of_length_le (Nat.le_refl _)] at hown
      go_wp2
      go_ret
      exact ⟨_, rfl, hown, hbr⟩

theorem toRepS_c {w : World} {v : Value} {xs : List MRep} (h : RV repSL w v xs) (hm : xs.length ≤ 16777216) : Calls Try.prog 99 #[v] w (NewV repSL w xs) := by
  obtain ⟨A, c, rfl, _, _, hr⟩ := rv_slice h
  exact toRepS_any A c xs w hr hm

end Go.Proofs.Ytdoipabfmekdlaa

namespace Go.Proofs.Ytdoipabfmekdlaa
open Go.RowKit
set_option linter.unusedVariables false

structure MAcct where
  Have : Int
  State : Int
  By : Int
  Marks : List Int
  Reps : List MRep

def acctL : Lay MAcct := isoL (fun d => (d.Have, d.State, d.By, d.Marks, d.Reps)) (consL (intL .i64) (consL (intL .i64) (consL (intL .i64) (consL (numsL) (repSL)))))

theorem sz_acct : (Try.prog.info? 52).map (·.size) = some 5 := by kernel_rfl

/-- how many values lie behind it -/
def MAcct.bulk (d : MAcct) : Nat := d.Marks.length + d.Reps.length

/-- how many marks it takes -/
def MAcct.steps (d : MAcct) : Nat := d.Marks.length + 2 * d.Reps.length

theorem MAcct.steps_le (d : MAcct) : d.steps ≤ 2 * d.bulk := by unfold MAcct.steps MAcct.bulk; omega

/-- what a marking from k on makes of it -/
def MAcct.mark (d : MAcct) (k : Int) : MAcct := ⟨d.Have, d.State, d.By, marks64 (k) d.Marks.length, marksRep (k + (d.Marks.length : Int)) d.Reps.length⟩

theorem rv_acct {w : World} {v : Value} {d : MAcct} (h : RV acctL w v d) : ∃ AMarks cMarks AReps cReps, v = .agg #[.int .i64 d.Have, .int .i64 d.State, .int .i64 d.By, .slice AMarks d.Marks.length cMarks, .slice AReps d.Reps.length cReps] ∧ RS .i64 w (.slice AMarks d.Marks.length cMarks) d.Marks ∧ RV repSL w (.slice AReps d.Reps.length cReps) d.Reps := by
  obtain ⟨cs, rfl, hcs⟩ := h
  obtain ⟨_, _, rfl, rfl, ⟨_, _, rfl, rfl, ⟨_, _, rfl, rfl, ⟨_, _, rfl, ⟨AMarks, cMarks, rfl, hMarks⟩, ⟨AReps, cReps, rfl, hReps⟩⟩⟩⟩⟩ := hcs
  exact ⟨AMarks, cMarks, AReps, cReps, rfl, ⟨_, _, rfl, hMarks⟩, ⟨[_], rfl, _, _, rfl, hReps⟩⟩

theorem cs_acct {w : World} {B : Nat} {cs : List Value} {d : MAcct} (h : acctL.rd w B cs d) : ∃ AMarks cMarks AReps cReps, cs = [.int .i64 d.Have, .int .i64 d.State, .int .i64 d.By, .slice AMarks d.Marks.length cMarks, .slice AReps d.Reps.length cReps] := by
  obtain ⟨_, _, rfl, rfl, ⟨_, _, rfl, rfl, ⟨_, _, rfl, rfl, ⟨_, _, rfl, ⟨AMarks, cMarks, rfl, hMarks⟩, ⟨AReps, cReps, rfl, hReps⟩⟩⟩⟩⟩ := h
  exact ⟨AMarks, cMarks, AReps, cReps, rfl⟩

theorem rv_acct_mk {w : World} {vMarks vReps : Value} {zHave : Int} {zState : Int} {zBy : Int} {zMarks : List Int} {zReps : List MRep} (hMarks : RS .i64 w vMarks zMarks) (hReps : RV repSL w vReps zReps) : RV acctL w (.agg #[.int .i64 zHave, .int .i64 zState, .int .i64 zBy, vMarks, vReps]) ⟨zHave, zState, zBy, zMarks, zReps⟩ := by
  obtain ⟨AMarks, cMarks, rfl, pMarks⟩ := hMarks
  obtain ⟨_, rfl, AReps, cReps, rfl, pReps⟩ := hReps
  exact ⟨_, rfl, [_], _, rfl, rfl, [_], _, rfl, rfl, [_], _, rfl, rfl, [_], _, rfl, ⟨AMarks, cMarks, rfl, pMarks⟩, ⟨AReps, cReps, rfl, pReps⟩⟩

theorem ovp_acct {w : World} {d : MAcct} {lo hi lMarks hMarks lReps hReps : Nat} {vMarks vReps : Value} (oMarks : OS .i64 3 w lMarks hMarks vMarks d.Marks) (oReps : OV repSL w lReps hReps vReps d.Reps) (hc : hi ≤ w.heap.size ∧ lo ≤ lMarks ∧ hMarks ≤ hi ∧ lo ≤ lReps ∧ hReps ≤ hi ∧ (hMarks ≤ lReps ∨ hReps ≤ lMarks)) : OVp acctL w (fun j => lo ≤ j ∧ j < hi) [.int .i64 d.Have, .int .i64 d.State, .int .i64 d.By, vMarks, vReps] d := by
  have h : OVp acctL w _ [.int .i64 d.Have, .int .i64 d.State, .int .i64 d.By, vMarks, vReps] d := OVp.iso (f := fun d : MAcct => (d.Have, d.State, d.By, d.Marks, d.Reps)) (OVp.cons1 (OVp.cons1 (OVp.cons1 (OVp.cons (OVp.ints oMarks) (OVp.sl oReps) (by intro j; omega)))))
  exact h.imp (by intro j; omega)

theorem ov_acct {w : World} {d : MAcct} {lo hi lMarks hMarks lReps hReps : Nat} {vMarks vReps : Value} (oMarks : OS .i64 3 w lMarks hMarks vMarks d.Marks) (oReps : OV repSL w lReps hReps vReps d.Reps) (hc : hi ≤ w.heap.size ∧ lo ≤ lMarks ∧ hMarks ≤ hi ∧ lo ≤ lReps ∧ hReps ≤ hi ∧ (hMarks ≤ lReps ∨ hReps ≤ lMarks)) : OV acctL w lo hi (.agg #[.int .i64 d.Have, .int .i64 d.State, .int .i64 d.By, vMarks, vReps]) d :=
  (ovp_acct (lo := lo) (hi := hi) oMarks oReps hc).ov (fun _ h => h) hc.1

set_option maxHeartbeats 1000000 in
theorem toAcct_c {w : World} {v : Value} {d : MAcct} (h : RV acctL w v d) (hm : d.bulk ≤ 16777216) : Calls Try.prog 71 #[v] w (NewV acctL w d) := by
  obtain ⟨AMarks, cMarks, AReps, cReps, rfl, rMarks, rReps⟩ := rv_acct h
  unfold MAcct.bulk at hm
  obtain ⟨wa, hwa, B0, sa, x_a, x_r, x_out⟩ := frame3 w 82 [.int .i64 d.Have, .int .i64 d.State, .int .i64 d.By, .slice AMarks d.Marks.length cMarks, .slice AReps d.Reps.length cReps] 52 [.int .i64 0, .int .i64 0, .int .i64 0, .slice none 0 0, .slice none 0 0] 52 [.int .i64 0, .int .i64 0, .int .i64 0, .slice none 0 0, .slice none 0 0]
  have sa_1 := Nat.le_of_eq sa
  have sa_2 := Nat.le_of_eq sa.symm
  clear sa
  have c_a_0_wa := x_a.cell (i := 0) rfl
  have f_a_0_wa := x_a.frozen 0
  have c_a_1_wa := x_a.cell (i := 1) rfl
  have f_a_1_wa := x_a.frozen 1
  have c_a_2_wa := x_a.cell (i := 2) rfl
  have f_a_2_wa := x_a.frozen 2
  have c_a_3_wa := x_a.cell (i := 3) rfl
  have f_a_3_wa := x_a.frozen 3
  have c_a_4_wa := x_a.cell (i := 4) rfl
  have f_a_4_wa := x_a.frozen 4
  have c_out_0_wa := x_out.cell (i := 0) rfl
  have f_out_0_wa := x_out.frozen 0
  have c_out_1_wa := x_out.cell (i := 1) rfl
  have f_out_1_wa := x_out.frozen 1
  have c_out_2_wa := x_out.cell (i := 2) rfl
  have f_out_2_wa := x_out.frozen 2
  have c_out_3_wa := x_out.cell (i := 3) rfl
  have f_out_3_wa := x_out.frozen 3
  have c_out_4_wa := x_out.cell (i := 4) rfl
  have f_out_4_wa := x_out.frozen 4
  go_enter Try.func71, Try.ntmps71
  have c_r_0_wa := x_r.cell (i := 0) rfl
  have f_r_0_wa := x_r.frozen 0
  have c_r_1_wa := x_r.cell (i := 1) rfl
  have f_r_1_wa := x_r.frozen 1
  have c_r_2_wa := x_r.cell (i := 2) rfl
  have f_r_2_wa := x_r.frozen 2
  have c_r_3_wa := x_r.cell (i := 3) rfl
  have f_r_3_wa := x_r.frozen 3
  have c_r_4_wa := x_r.cell (i := 4) rfl
  have f_r_4_wa := x_r.frozen 4
  obtain ⟨w1, e_w1, s_w1, h_w1, y⟩ := set_step x_out 0 (.int .i64 d.Have)
  have s_w1_1 := Nat.le_of_eq s_w1
  have s_w1_2 := Nat.le_of_eq s_w1.symm
  clear s_w1
  replace x_a := x_a.chg h_w1 (by omega)
  replace x_r := x_r.chg h_w1 (by omega)
  have B_w1 := Below.chg_ B0 h_w1 (by omega) (by omega)
  replace x_out : Vr w1 (w.heap.size + 1 + 1) 52 [.int .i64 d.Have, .int .i64 0, .int .i64 0, .slice none 0 0, .slice none 0 0] := y
  clear y
  have c_a_0_w1 := x_a.cell (i := 0) rfl
  have f_a_0_w1 := x_a.frozen 0
  have c_a_1_w1 := x_a.cell (i := 1) rfl
  have f_a_1_w1 := x_a.frozen 1
  have c_a_2_w1 := x_a.cell (i := 2) rfl
  have f_a_2_w1 := x_a.frozen 2
  have c_a_3_w1 := x_a.cell (i := 3) rfl
  have f_a_3_w1 := x_a.frozen 3
  have c_a_4_w1 := x_a.cell (i := 4) rfl
  have f_a_4_w1 := x_a.frozen 4
  have c_out_0_w1 := x_out.cell (i := 0) rfl
  have f_out_0_w1 := x_out.frozen 0
  have c_out_1_w1 := x_out.cell (i := 1) rfl
  have f_out_1_w1 := x_out.frozen 1
  have c_out_2_w1 := x_out.cell (i := 2) rfl
  have f_out_2_w1 := x_out.frozen 2
  have c_out_3_w1 := x_out.cell (i := 3) rfl
  have f_out_3_w1 := x_out.frozen 3
  have c_out_4_w1 := x_out.cell (i := 4) rfl
  have f_out_4_w1 := x_out.frozen 4
  have c_r_0_w1 := x_r.cell (i := 0) rfl
  have f_r_0_w1 := x_r.frozen 0
  have c_r_1_w1 := x_r.cell (i := 1) rfl
  have f_r_1_w1 := x_r.frozen 1
  have c_r_2_w1 := x_r.cell (i := 2) rfl
  have f_r_2_w1 := x_r.frozen 2
  have c_r_3_w1 := x_r.cell (i := 3) rfl
  have f_r_3_w1 := x_r.frozen 3
  have c_r_4_w1 := x_r.cell (i := 4) rfl
  have f_r_4_w1 := x_r.frozen 4
  obtain ⟨w2, e_w2, s_w2, h_w2, y⟩ := set_step x_out 1 (.int .i64 d.State)
  have s_w2_1 := Nat.le_of_eq s_w2
  have s_w2_2 := Nat.le_of_eq s_w2.symm
  clear s_w2
  replace x_a := x_a.chg h_w2 (by omega)
  replace x_r := x_r.chg h_w2 (by omega)
  have B_w2 := Below.chg_ B_w1 h_w2 (by omega) (by omega)
  replace x_out : Vr w2 (w.heap.size + 1 + 1) 52 [.int .i64 d.Have, .int .i64 d.State, .int .i64 0, .slice none 0 0, .slice none 0 0] := y
  clear y
  have c_a_0_w2 := x_a.cell (i := 0) rfl
  have f_a_0_w2 := x_a.frozen 0
  have c_a_1_w2 := x_a.cell (i := 1) rfl
  have f_a_1_w2 := x_a.frozen 1
  have c_a_2_w2 := x_a.cell (i := 2) rfl
  have f_a_2_w2 := x_a.frozen 2
  have c_a_3_w2 := x_a.cell (i := 3) rfl
  have f_a_3_w2 := x_a.frozen 3
  have c_a_4_w2 := x_a.cell (i := 4) rfl
  have f_a_4_w2 := x_a.frozen 4
  have c_out_0_w2 := x_out.cell (i := 0) rfl
  have f_out_0_w2 := x_out.frozen 0
  have c_out_1_w2 := x_out.cell (i := 1) rfl
  have f_out_1_w2 := x_out.frozen 1
  have c_out_2_w2 := x_out.cell (i := 2) rfl
  have f_out_2_w2 := x_out.frozen 2
  have c_out_3_w2 := x_out.cell (i := 3) rfl
  have f_out_3_w2 := x_out.frozen 3
  have c_out_4_w2 := x_out.cell (i := 4) rfl
  have f_out_4_w2 := x_out.frozen 4
  have c_r_0_w2 := x_r.cell (i := 0) rfl
  have f_r_0_w2 := x_r.frozen 0
  have c_r_1_w2 := x_r.cell (i := 1) rfl
  have f_r_1_w2 := x_r.frozen 1
  have c_r_2_w2 := x_r.cell (i := 2) rfl
  have f_r_2_w2 := x_r.frozen 2
  have c_r_3_w2 := x_r.cell (i := 3) rfl
  have f_r_3_w2 := x_r.frozen 3
  have c_r_4_w2 := x_r.cell (i := 4) rfl
  have f_r_4_w2 := x_r.frozen 4
  obtain ⟨w3, e_w3, s_w3, h_w3, y⟩ := set_step x_out 2 (.int .i64 d.By)
  have s_w3_1 := Nat.le_of_eq s_w3
  have s_w3_2 := Nat.le_of_eq s_w3.symm
  clear s_w3
  replace x_a := x_a.chg h_w3 (by omega)
  replace x_r := x_r.chg h_w3 (by omega)
  have B_w3 := Below.chg_ B_w2 h_w3 (by omega) (by omega)
  replace x_out : Vr w3 (w.heap.size + 1 + 1) 52 [.int .i64 d.Have, .int .i64 d.State, .int .i64 d.By, .slice none 0 0, .slice none 0 0] := y
  clear y
  have c_a_0_w3 := x_a.cell (i := 0) rfl
  have f_a_0_w3 := x_a.frozen 0
  have c_a_1_w3 := x_a.cell (i := 1) rfl
  have f_a_1_w3 := x_a.frozen 1
  have c_a_2_w3 := x_a.cell (i := 2) rfl
  have f_a_2_w3 := x_a.frozen 2
  have c_a_3_w3 := x_a.cell (i := 3) rfl
  have f_a_3_w3 := x_a.frozen 3
  have c_a_4_w3 := x_a.cell (i := 4) rfl
  have f_a_4_w3 := x_a.frozen 4
  have c_out_0_w3 := x_out.cell (i := 0) rfl
  have f_out_0_w3 := x_out.frozen 0
  have c_out_1_w3 := x_out.cell (i := 1) rfl
  have f_out_1_w3 := x_out.frozen 1
  have c_out_2_w3 := x_out.cell (i := 2) rfl
  have f_out_2_w3 := x_out.frozen 2
  have c_out_3_w3 := x_out.cell (i := 3) rfl
  have f_out_3_w3 := x_out.frozen 3
  have c_out_4_w3 := x_out.cell (i := 4) rfl
  have f_out_4_w3 := x_out.frozen 4
  have c_r_0_w3 := x_r.cell (i := 0) rfl
  have f_r_0_w3 := x_r.frozen 0
  have c_r_1_w3 := x_r.cell (i := 1) rfl
  have f_r_1_w3 := x_r.frozen 1
  have c_r_2_w3 := x_r.cell (i := 2) rfl
  have f_r_2_w3 := x_r.frozen 2
  have c_r_3_w3 := x_r.cell (i := 3) rfl
  have f_r_3_w3 := x_r.frozen 3
  have c_r_4_w3 := x_r.cell (i := 4) rfl
  have f_r_4_w3 := x_r.frozen 4
  go_wp2_with fail
  refine (toIntS_c (rMarks.from_ B_w3) (by omega)).mono ?_
  rintro e w4 ⟨uMarks, rfl, oMarks, h_w4⟩
  clear c_a_0_wa f_a_0_wa c_a_1_wa f_a_1_wa c_a_2_wa f_a_2_wa c_a_3_wa f_a_3_wa c_a_4_wa f_a_4_wa c_out_0_wa f_out_0_wa c_out_1_wa f_out_1_wa c_out_2_wa f_out_2_wa c_out_3_wa f_out_3_wa c_out_4_wa f_out_4_wa c_r_0_wa f_r_0_wa c_r_1_wa f_r_1_wa c_r_2_wa f_r_2_wa c_r_3_wa f_r_3_wa c_r_4_wa f_r_4_wa c_a_0_w1 f_a_0_w1 c_a_1_w1 f_a_1_w1 c_a_2_w1 f_a_2_w1 c_a_3_w1 f_a_3_w1 c_a_4_w1 f_a_4_w1 c_out_0_w1 f_out_0_w1 c_out_1_w1 f_out_1_w1 c_out_2_w1 f_out_2_w1 c_out_3_w1 f_out_3_w1 c_out_4_w1 f_out_4_w1 c_r_0_w1 f_r_0_w1 c_r_1_w1 f_r_1_w1 c_r_2_w1 f_r_2_w1 c_r_3_w1 f_r_3_w1 c_r_4_w1 f_r_4_w1 c_a_0_w2 f_a_0_w2 c_a_1_w2 f_a_1_w2 c_a_2_w2 f_a_2_w2 c_a_3_w2 f_a_3_w2 c_a_4_w2 f_a_4_w2 c_out_0_w2 f_out_0_w2 c_out_1_w2 f_out_1_w2 c_out_2_w2 f_out_2_w2 c_out_3_w2 f_out_3_w2 c_out_4_w2 f_out_4_w2 c_r_0_w2 f_r_0_w2 c_r_1_w2 f_r_1_w2 c_r_2_w2 f_r_2_w2 c_r_3_w2 f_r_3_w2 c_r_4_w2 f_r_4_w2 c_a_0_w3 f_a_0_w3 c_a_1_w3 f_a_1_w3 c_a_2_w3 f_a_2_w3 c_a_3_w3 f_a_3_w3 c_a_4_w3 f_a_4_w3 c_out_0_w3 f_out_0_w3 c_out_1_w3 f_out_1_w3 c_out_2_w3 f_out_2_w3 c_out_3_w3 f_out_3_w3 c_out_4_w3 f_out_4_w3 c_r_0_w3 f_r_0_w3 c_r_1_w3 f_r_1_w3 c_r_2_w3 f_r_2_w3 c_r_3_w3 f_r_3_w3 c_r_4_w3 f_r_4_w3
  replace x_a := x_a.from_ h_w4
  replace x_r := x_r.from_ h_w4
  replace x_out := x_out.from_ h_w4
  have B_w4 := B_w3.trans (h_w4.mono B_w3.size)
  have s_w4 := h_w4.size
  obtain ⟨BMarks, eMarks, rfl, -, -, -⟩ := oMarks.rd
  have c_a_0_w4 := x_a.cell (i := 0) rfl
  have f_a_0_w4 := x_a.frozen 0
  have c_a_1_w4 := x_a.cell (i := 1) rfl
  have f_a_1_w4 := x_a.frozen 1
  have c_a_2_w4 := x_a.cell (i := 2) rfl
  have f_a_2_w4 := x_a.frozen 2
  have c_a_3_w4 := x_a.cell (i := 3) rfl
  have f_a_3_w4 := x_a.frozen 3
  have c_a_4_w4 := x_a.cell (i := 4) rfl
  have f_a_4_w4 := x_a.frozen 4
  have c_out_0_w4 := x_out.cell (i := 0) rfl
  have f_out_0_w4 := x_out.frozen 0
  have c_out_1_w4 := x_out.cell (i := 1) rfl
  have f_out_1_w4 := x_out.frozen 1
  have c_out_2_w4 := x_out.cell (i := 2) rfl
  have f_out_2_w4 := x_out.frozen 2
  have c_out_3_w4 := x_out.cell (i := 3) rfl
  have f_out_3_w4 := x_out.frozen 3
  have c_out_4_w4 := x_out.cell (i := 4) rfl
  have f_out_4_w4 := x_out.frozen 4
  have c_r_0_w4 := x_r.cell (i := 0) rfl
  have f_r_0_w4 := x_r.frozen 0
  have c_r_1_w4 := x_r.cell (i := 1) rfl
  have f_r_1_w4 := x_r.frozen 1
  have c_r_2_w4 := x_r.cell (i := 2) rfl
  have f_r_2_w4 := x_r.frozen 2
  have c_r_3_w4 := x_r.cell (i := 3) rfl
  have f_r_3_w4 := x_r.frozen 3
  have c_r_4_w4 := x_r.cell (i := 4) rfl
  have f_r_4_w4 := x_r.frozen 4
  obtain ⟨w5, e_w5, s_w5, h_w5, y⟩ := set_step x_out 3 (.slice BMarks d.Marks.length eMarks)
  have s_w5_1 := Nat.le_of_eq s_w5
  have s_w5_2 := Nat.le_of_eq s_w5.symm
  clear s_w5
  replace x_a := x_a.chg h_w5 (by omega)
  replace x_r := x_r.chg h_w5 (by omega)
  replace oMarks := oMarks.chg h_w5 (by omega)
  have B_w5 := Below.chg_ B_w4 h_w5 (by omega) (by omega)
  replace x_out : Vr w5 (w.heap.size + 1 + 1) 52 [.int .i64 d.Have, .int .i64 d.State, .int .i64 d.By, .slice BMarks d.Marks.length eMarks, .slice none 0 0] := y
  clear y
  have c_a_0_w5 := x_a.cell (i := 0) rfl
  have f_a_0_w5 := x_a.frozen 0
  have c_a_1_w5 := x_a.cell (i := 1) rfl
  have f_a_1_w5 := x_a.frozen 1
  have c_a_2_w5 := x_a.cell (i := 2) rfl
  have f_a_2_w5 := x_a.frozen 2
  have c_a_3_w5 := x_a.cell (i := 3) rfl
  have f_a_3_w5 := x_a.frozen 3
  have c_a_4_w5 := x_a.cell (i := 4) rfl
  have f_a_4_w5 := x_a.frozen 4
  have c_out_0_w5 := x_out.cell (i := 0) rfl
  have f_out_0_w5 := x_out.frozen 0
  have c_out_1_w5 := x_out.cell (i := 1) rfl
  have f_out_1_w5 := x_out.frozen 1
  have c_out_2_w5 := x_out.cell (i := 2) rfl
  have f_out_2_w5 := x_out.frozen 2
  have c_out_3_w5 := x_out.cell (i := 3) rfl
  have f_out_3_w5 := x_out.frozen 3
  have c_out_4_w5 := x_out.cell (i := 4) rfl
  have f_out_4_w5 := x_out.frozen 4
  have c_r_0_w5 := x_r.cell (i := 0) rfl
  have f_r_0_w5 := x_r.frozen 0
  have c_r_1_w5 := x_r.cell (i := 1) rfl
  have f_r_1_w5 := x_r.frozen 1
  have c_r_2_w5 := x_r.cell (i := 2) rfl
  have f_r_2_w5 := x_r.frozen 2
  have c_r_3_w5 := x_r.cell (i := 3) rfl
  have f_r_3_w5 := x_r.frozen 3
  have c_r_4_w5 := x_r.cell (i := 4) rfl
  have f_r_4_w5 := x_r.frozen 4
  go_wp2_with fail
  refine (toRepS_c (rReps.from_ B_w5) (by omega)).mono ?_
  rintro e w6 ⟨uReps, rfl, oReps, h_w6⟩
  clear c_a_0_w4 f_a_0_w4 c_a_1_w4 f_a_1_w4 c_a_2_w4 f_a_2_w4 c_a_3_w4 f_a_3_w4 c_a_4_w4 f_a_4_w4 c_out_0_w4 f_out_0_w4 c_out_1_w4 f_out_1_w4 c_out_2_w4 f_out_2_w4 c_out_3_w4 f_out_3_w4 c_out_4_w4 f_out_4_w4 c_r_0_w4 f_r_0_w4 c_r_1_w4 f_r_1_w4 c_r_2_w4 f_r_2_w4 c_r_3_w4 f_r_3_w4 c_r_4_w4 f_r_4_w4 c_a_0_w5 f_a_0_w5 c_a_1_w5 f_a_1_w5 c_a_2_w5 f_a_2_w5 c_a_3_w5 f_a_3_w5 c_a_4_w5 f_a_4_w5 c_out_0_w5 f_out_0_w5 c_out_1_w5 f_out_1_w5 c_out_2_w5 f_out_2_w5 c_out_3_w5 f_out_3_w5 c_out_4_w5 f_out_4_w5 c_r_0_w5 f_r_0_w5 c_r_1_w5 f_r_1_w5 c_r_2_w5 f_r_2_w5 c_r_3_w5 f_r_3_w5 c_r_4_w5 f_r_4_w5
  replace x_a := x_a.from_ h_w6
  replace x_r := x_r.from_ h_w6
  replace x_out := x_out.from_ h_w6
  replace oMarks := oMarks.below h_w6
  have B_w6 := B_w5.trans (h_w6.mono B_w5.size)
  have s_w6 := h_w6.size
  obtain ⟨BReps, eReps, rfl, -, -, -⟩ := rv_slice oReps.rd
  have c_a_0_w6 := x_a.cell (i := 0) rfl
  have f_a_0_w6 := x_a.frozen 0
  have c_a_1_w6 := x_a.cell (i := 1) rfl
  have f_a_1_w6 := x_a.frozen 1
  have c_a_2_w6 := x_a.cell (i := 2) rfl
  have f_a_2_w6 := x_a.frozen 2
  have c_a_3_w6 := x_a.cell (i := 3) rfl
  have f_a_3_w6 := x_a.frozen 3
  have c_a_4_w6 := x_a.cell (i := 4) rfl
  have f_a_4_w6 := x_a.frozen 4
  have c_out_0_w6 := x_out.cell (i := 0) rfl
  have f_out_0_w6 := x_out.frozen 0
  have c_out_1_w6 := x_out.cell (i := 1) rfl
  have f_out_1_w6 := x_out.frozen 1
  have c_out_2_w6 := x_out.cell (i := 2) rfl
  have f_out_2_w6 := x_out.frozen 2
  have c_out_3_w6 := x_out.cell (i := 3) rfl
  have f_out_3_w6 := x_out.frozen 3
  have c_out_4_w6 := x_out.cell (i := 4) rfl
  have f_out_4_w6 := x_out.frozen 4
  have c_r_0_w6 := x_r.cell (i := 0) rfl
  have f_r_0_w6 := x_r.frozen 0
  have c_r_1_w6 := x_r.cell (i := 1) rfl
  have f_r_1_w6 := x_r.frozen 1
  have c_r_2_w6 := x_r.cell (i := 2) rfl
  have f_r_2_w6 := x_r.frozen 2
  have c_r_3_w6 := x_r.cell (i := 3) rfl
  have f_r_3_w6 := x_r.frozen 3
  have c_r_4_w6 := x_r.cell (i := 4) rfl
  have f_r_4_w6 := x_r.frozen 4
  obtain ⟨w7, e_w7, s_w7, h_w7, y⟩ := set_step x_out 4 (.slice BReps d.Reps.length eReps)
  have s_w7_1 := Nat.le_of_eq s_w7
  have s_w7_2 := Nat.le_of_eq s_w7.symm
  clear s_w7
  replace x_a := x_a.chg h_w7 (by omega)
  replace x_r := x_r.chg h_w7 (by omega)
  replace oMarks := oMarks.chg h_w7 (by omega)
  replace oReps := oReps.chg h_w7 (by omega)
  have B_w7 := Below.chg_ B_w6 h_w7 (by omega) (by omega)
  replace x_out : Vr w7 (w.heap.size + 1 + 1) 52 [.int .i64 d.Have, .int .i64 d.State, .int .i64 d.By, .slice BMarks d.Marks.length eMarks, .slice BReps d.Reps.length eReps] := y
  clear y
  have c_a_0_w7 := x_a.cell (i := 0) rfl
  have f_a_0_w7 := x_a.frozen 0
  have c_a_1_w7 := x_a.cell (i := 1) rfl
  have f_a_1_w7 := x_a.frozen 1
  have c_a_2_w7 := x_a.cell (i := 2) rfl
  have f_a_2_w7 := x_a.frozen 2
  have c_a_3_w7 := x_a.cell (i := 3) rfl
  have f_a_3_w7 := x_a.frozen 3
  have c_a_4_w7 := x_a.cell (i := 4) rfl
  have f_a_4_w7 := x_a.frozen 4
  have c_out_0_w7 := x_out.cell (i := 0) rfl
  have f_out_0_w7 := x_out.frozen 0
  have c_out_1_w7 := x_out.cell (i := 1) rfl
  have f_out_1_w7 := x_out.frozen 1
  have c_out_2_w7 := x_out.cell (i := 2) rfl
  have f_out_2_w7 := x_out.frozen 2
  have c_out_3_w7 := x_out.cell (i := 3) rfl
  have f_out_3_w7 := x_out.frozen 3
  have c_out_4_w7 := x_out.cell (i := 4) rfl
  have f_out_4_w7 := x_out.frozen 4
  have c_r_0_w7 := x_r.cell (i := 0) rfl
  have f_r_0_w7 := x_r.frozen 0
  have c_r_1_w7 := x_r.cell (i := 1) rfl
  have f_r_1_w7 := x_r.frozen 1
  have c_r_2_w7 := x_r.cell (i := 2) rfl
  have f_r_2_w7 := x_r.frozen 2
  have c_r_3_w7 := x_r.cell (i := 3) rfl
  have f_r_3_w7 := x_r.frozen 3
  have c_r_4_w7 := x_r.cell (i := 4) rfl
  have f_r_4_w7 := x_r.frozen 4
  obtain ⟨w8, e_w8, s_w8, h_w8, y⟩ := store_step x_r [.int .i64 d.Have, .int .i64 d.State, .int .i64 d.By, .slice BMarks d.Marks.length eMarks, .slice BReps d.Reps.length eReps] rfl
  replace e_w8 : (((((w7.setCell ⟨w.heap.size + 1, 0, none⟩ (.int .i64 d.Have)).setCell ⟨w.heap.size + 1, 1, none⟩ (.int .i64 d.State)).setCell ⟨w.heap.size + 1, 2, none⟩ (.int .i64 d.By)).setCell ⟨w.heap.size + 1, 3, none⟩ (.slice BMarks d.Marks.length eMarks)).setCell ⟨w.heap.size + 1, 4, none⟩ (.slice BReps d.Reps.length eReps)) = w8 := e_w8
  have s_w8_1 := Nat.le_of_eq s_w8
  have s_w8_2 := Nat.le_of_eq s_w8.symm
  clear s_w8
  replace x_a := x_a.chg h_w8 (by omega)
  replace x_out := x_out.chg h_w8 (by omega)
  replace oMarks := oMarks.chg h_w8 (by omega)
  replace oReps := oReps.chg h_w8 (by omega)
  have B_w8 := Below.chg_ B_w7 h_w8 (by omega) (by omega)
  replace x_r : Vr w8 (w.heap.size + 1) 52 [.int .i64 d.Have, .int .i64 d.State, .int .i64 d.By, .slice BMarks d.Marks.length eMarks, .slice BReps d.Reps.length eReps] := y
  clear y
  have c_r_0_w8 := x_r.cell (i := 0) rfl
  have f_r_0_w8 := x_r.frozen 0
  have c_r_1_w8 := x_r.cell (i := 1) rfl
  have f_r_1_w8 := x_r.frozen 1
  have c_r_2_w8 := x_r.cell (i := 2) rfl
  have f_r_2_w8 := x_r.frozen 2
  have c_r_3_w8 := x_r.cell (i := 3) rfl
  have f_r_3_w8 := x_r.frozen 3
  have c_r_4_w8 := x_r.cell (i := 4) rfl
  have f_r_4_w8 := x_r.frozen 4
  go_wp2
  refine ret_cell (by rfl) (by rfl) x_r Try.underlying52 sz_acct (by rfl) ?_
  exact ⟨_, rfl, ov_acct oMarks oReps (by omega), B_w8⟩

set_option maxHeartbeats 1000000 in
theorem eqAcct_same {w : World} {v v' : Value} {d : MAcct} (h : RV acctL w v d) (h' : RV acctL w v' d) (hm : d.bulk ≤ 1073741824) : Calls Try.prog 82 #[v, v'] w fun e w' => e = .returned (.bool true) ∧ Below w.heap.size w w' := by
  obtain ⟨AMarks, cMarks, AReps, cReps, rfl, rMarks, rReps⟩ := rv_acct h
  obtain ⟨AMarksx, cMarksx, ARepsx, cRepsx, rfl, rxMarks, rxReps⟩ := rv_acct h'
  unfold MAcct.bulk at hm
  obtain ⟨wa, hwa, B0, sa, x_a, x_b⟩ := frame2 w 52 [.int .i64 d.Have, .int .i64 d.State, .int .i64 d.By, .slice AMarks d.Marks.length cMarks, .slice AReps d.Reps.length cReps] 52 [.int .i64 d.Have, .int .i64 d.State, .int .i64 d.By, .slice AMarksx d.Marks.length cMarksx, .slice ARepsx d.Reps.length cRepsx]
  have sa_1 := Nat.le_of_eq sa
  have sa_2 := Nat.le_of_eq sa.symm
  clear sa
  have c_a_0_wa := x_a.cell (i := 0) rfl
  have c_a_1_wa := x_a.cell (i := 1) rfl
  have c_a_2_wa := x_a.cell (i := 2) rfl
  have c_a_3_wa := x_a.cell (i := 3) rfl
  have c_a_4_wa := x_a.cell (i := 4) rfl
  have c_b_0_wa := x_b.cell (i := 0) rfl
  have c_b_1_wa := x_b.cell (i := 1) rfl
  have c_b_2_wa := x_b.cell (i := 2) rfl
  have c_b_3_wa := x_b.cell (i := 3) rfl
  have c_b_4_wa := x_b.cell (i := 4) rfl
  go_enter Try.func82, Try.ntmps82
  go_wp2_with fail
  refine (eqIntS_same (rMarks.from_ B0) (rxMarks.from_ B0) (by omega)).mono ?_
  rintro e w1 ⟨rfl, h_w1⟩
  clear c_a_0_wa c_a_1_wa c_a_2_wa c_a_3_wa c_a_4_wa c_b_0_wa c_b_1_wa c_b_2_wa c_b_3_wa c_b_4_wa
  replace x_a := x_a.from_ h_w1
  replace x_b := x_b.from_ h_w1
  have B_w1 := B0.trans (h_w1.mono B0.size)
  have s_w1 := h_w1.size
  have c_a_0_w1 := x_a.cell (i := 0) rfl
  have c_a_1_w1 := x_a.cell (i := 1) rfl
  have c_a_2_w1 := x_a.cell (i := 2) rfl
  have c_a_3_w1 := x_a.cell (i := 3) rfl
  have c_a_4_w1 := x_a.cell (i := 4) rfl
  have c_b_0_w1 := x_b.cell (i := 0) rfl
  have c_b_1_w1 := x_b.cell (i := 1) rfl
  have c_b_2_w1 := x_b.cell (i := 2) rfl
  have c_b_3_w1 := x_b.cell (i := 3) rfl
  have c_b_4_w1 := x_b.cell (i := 4) rfl
  go_wp2_with fail
  refine (eqRepS_same (rReps.from_ B_w1) (rxReps.from_ B_w1) (by omega)).mono ?_
  rintro e w2 ⟨rfl, h_w2⟩
  clear c_a_0_w1 c_a_1_w1 c_a_2_w1 c_a_3_w1 c_a_4_w1 c_b_0_w1 c_b_1_w1 c_b_2_w1 c_b_3_w1 c_b_4_w1
  replace x_a := x_a.from_ h_w2
  replace x_b := x_b.from_ h_w2
  have B_w2 := B_w1.trans (h_w2.mono B_w1.size)
  have s_w2 := h_w2.size
  have c_a_0_w2 := x_a.cell (i := 0) rfl
  have c_a_1_w2 := x_a.cell (i := 1) rfl
  have c_a_2_w2 := x_a.cell (i := 2) rfl
  have c_a_3_w2 := x_a.cell (i := 3) rfl
  have c_a_4_w2 := x_a.cell (i := 4) rfl
  have c_b_0_w2 := x_b.cell (i := 0) rfl
  have c_b_1_w2 := x_b.cell (i := 1) rfl
  have c_b_2_w2 := x_b.cell (i := 2) rfl
  have c_b_3_w2 := x_b.cell (i := 3) rfl
  have c_b_4_w2 := x_b.cell (i := 4) rfl
  go_wp2
  go_ret
  exact ⟨rfl, B_w2⟩

set_option maxHeartbeats 1000000 in
theorem szAcct_c {w : World} {v : Value} {d : MAcct} {left : Int} (h : RV acctL w v d) (h0 : 0 ≤ left) (h1 : left ≤ 1073741824) :
    Calls Try.prog 65 #[v, .int .i64 left] w fun e w' => e = .returned (.int .i64 (szV left (d.bulk : Int))) ∧ Below w.heap.size w w' := by
  obtain ⟨AMarks, cMarks, AReps, cReps, rfl, rMarks, rReps⟩ := rv_acct h
  obtain ⟨wa, hwa, B0, sa, x_a⟩ := frame1 w 82 [.int .i64 d.Have, .int .i64 d.State, .int .i64 d.By, .slice AMarks d.Marks.length cMarks, .slice AReps d.Reps.length cReps]
  have sa_1 := Nat.le_of_eq sa
  have sa_2 := Nat.le_of_eq sa.symm
  clear sa
  have c_a_0_wa := x_a.cell (i := 0) rfl
  have c_a_1_wa := x_a.cell (i := 1) rfl
  have c_a_2_wa := x_a.cell (i := 2) rfl
  have c_a_3_wa := x_a.cell (i := 3) rfl
  have c_a_4_wa := x_a.cell (i := 4) rfl
  have eb : (d.bulk : Int) = (d.Marks.length : Int) + (d.Reps.length : Int) := by unfold MAcct.bulk; omega
  by_cases g0 : (d.Marks.length : Int) ≤ left
  case neg =>
    have ez : szV left (d.bulk : Int) = -1 := by unfold szV; rw [if_neg (by omega)]
    rw [ez]
    go_enter Try.func65, Try.ntmps65
    go_wp2_with fail
    refine (szIntS_b (rMarks.from_ B0) (by omega) (by omega)).mono ?_
    rintro e w1 ⟨rfl, h_w1⟩
    clear c_a_0_wa c_a_1_wa c_a_2_wa c_a_3_wa c_a_4_wa
    replace x_a := x_a.from_ h_w1
    have B_w1 := B0.trans (h_w1.mono B0.size)
    have s_w1 := h_w1.size
    rw [show szV (left) (d.Marks.length : Int) = -1 from if_neg (by omega)]
    go_wp2
    go_ret
    exact ⟨ret_int (by omega), B_w1⟩
  by_cases g1 : (d.Marks.length : Int) + (d.Reps.length : Int) ≤ left
  case neg =>
    have ez : szV left (d.bulk : Int) = -1 := by unfold szV; rw [if_neg (by omega)]
    rw [ez]
    go_enter Try.func65, Try.ntmps65
    go_wp2_with fail
    refine (szIntS_b (rMarks.from_ B0) (by omega) (by omega)).mono ?_
    rintro e w1 ⟨rfl, h_w1⟩
    clear c_a_0_wa c_a_1_wa c_a_2_wa c_a_3_wa c_a_4_wa
    replace x_a := x_a.from_ h_w1
    have B_w1 := B0.trans (h_w1.mono B0.size)
    have s_w1 := h_w1.size
    rw [show szV (left) (d.Marks.length : Int) = left - (d.Marks.length : Int) from if_pos (by omega)]
    have gd0 : decide (left - (d.Marks.length : Int) < 0) = false := by simp; omega
    have c_a_0_w1 := x_a.cell (i := 0) rfl
    have c_a_1_w1 := x_a.cell (i := 1) rfl
    have c_a_2_w1 := x_a.cell (i := 2) rfl
    have c_a_3_w1 := x_a.cell (i := 3) rfl
    have c_a_4_w1 := x_a.cell (i := 4) rfl
    go_wp2_with fail
    refine (szRepS_c (rReps.from_ B_w1) (by omega) (by omega)).mono ?_
    rintro e w2 ⟨rfl, h_w2⟩
    clear c_a_0_w1 c_a_1_w1 c_a_2_w1 c_a_3_w1 c_a_4_w1
    replace x_a := x_a.from_ h_w2
    have B_w2 := B_w1.trans (h_w2.mono B_w1.size)
    have s_w2 := h_w2.size
    rw [show szV (left - (d.Marks.length : Int)) (d.Reps.length : Int) = -1 from if_neg (by omega)]
    go_wp2
    go_ret
    exact ⟨ret_int (by omega), B_w2⟩
  have ez : szV left (d.bulk : Int) = left - (d.bulk : Int) := by unfold szV; rw [if_pos (by omega)]
  rw [ez]
  go_enter Try.func65, Try.ntmps65
  go_wp2_with fail
  refine (szIntS_b (rMarks.from_ B0) (by omega) (by omega)).mono ?_
  rintro e w1 ⟨rfl, h_w1⟩
  clear c_a_0_wa c_a_1_wa c_a_2_wa c_a_3_wa c_a_4_wa
  replace x_a := x_a.from_ h_w1
  have B_w1 := B0.trans (h_w1.mono B0.size)
  have s_w1 := h_w1.size
  rw [show szV (left) (d.Marks.length : Int) = left - (d.Marks.length : Int) from if_pos (by omega)]
  have gd0 : decide (left - (d.Marks.length : Int) < 0) = false := by simp; omega
  have c_a_0_w1 := x_a.cell (i := 0) rfl
  have c_a_1_w1 := x_a.cell (i := 1) rfl
  have c_a_2_w1 := x_a.cell (i := 2) rfl
  have c_a_3_w1 := x_a.cell (i := 3) rfl
  have c_a_4_w1 := x_a.cell (i := 4) rfl
  go_wp2_with fail
  refine (szRepS_c (rReps.from_ B_w1) (by omega) (by omega)).mono ?_
  rintro e w2 ⟨rfl, h_w2⟩
  clear c_a_0_w1 c_a_1_w1 c_a_2_w1 c_a_3_w1 c_a_4_w1
  replace x_a := x_a.from_ h_w2
  have B_w2 := B_w1.trans (h_w2.mono B_w1.size)
  have s_w2 := h_w2.size
  rw [show szV (left - (d.Marks.length : Int)) (d.Reps.length : Int) = left - (d.Marks.length : Int) - (d.Reps.length : Int) from if_pos (by omega)]
  have gd1 : decide (left - (d.Marks.length : Int) - (d.Reps.length : Int) < 0) = false := by simp; omega
  have c_a_0_w2 := x_a.cell (i := 0) rfl
  have c_a_1_w2 := x_a.cell (i := 1) rfl
  have c_a_2_w2 := x_a.cell (i := 2) rfl
  have c_a_3_w2 := x_a.cell (i := 3) rfl
  have c_a_4_w2 := x_a.cell (i := 4) rfl
  go_wp2
  go_ret
  exact ⟨ret_int (by omega), B_w2⟩

end Go.Proofs.Ytdoipabfmekdlaa

namespace Go.Proofs.Ytdoipabfmekdlaa
open Go.RowKit
set_option linter.unusedVariables false

structure MMsg where
  Kind : Int
  Acct : Int
  Amt : Int
  Src : Int

def msgL : Lay MMsg := isoL (fun d => (d.Kind, d.Acct, d.Amt, d.Src)) (consL (intL .i64) (consL (intL .i64) (consL (intL .i64) (intL .i64))))

theorem sz_msg : (Try.prog.info? 92).map (·.size) = some 4 := by kernel_rfl

/-- how many values lie behind it -/
def MMsg.bulk (d : MMsg) : Nat := 0

/-- what a marking from k on makes of it -/
def MMsg.mark (d : MMsg) (k : Int) : MMsg := ⟨d.Kind, d.Acct, d.Amt, d.Src⟩

theorem rv_msg {w : World} {v : Value} {d : MMsg} (h : RV msgL w v d) : v = .agg #[.int .i64 d.Kind, .int .i64 d.Acct, .int .i64 d.Amt, .int .i64 d.Src] := by
  obtain ⟨cs, rfl, hcs⟩ := h
  obtain ⟨_, _, rfl, rfl, ⟨_, _, rfl, rfl, ⟨_, _, rfl, rfl, rfl⟩⟩⟩ := hcs
  rfl

theorem cs_msg {w : World} {B : Nat} {cs : List Value} {d : MMsg} (h : msgL.rd w B cs d) : cs = [.int .i64 d.Kind, .int .i64 d.Acct, .int .i64 d.Amt, .int .i64 d.Src] := by
  obtain ⟨_, _, rfl, rfl, ⟨_, _, rfl, rfl, ⟨_, _, rfl, rfl, rfl⟩⟩⟩ := h
  rfl

theorem rv_msg_mk {w : World} {zKind : Int} {zAcct : Int} {zAmt : Int} {zSrc : Int} : RV msgL w (.agg #[.int .i64 zKind, .int .i64 zAcct, .int .i64 zAmt, .int .i64 zSrc]) ⟨zKind, zAcct, zAmt, zSrc⟩ := by
  exact ⟨_, rfl, [_], _, rfl, rfl, [_], _, rfl, rfl, [_], _, rfl, rfl, rfl⟩

theorem ovp_msg {w : World} {d : MMsg} {lo hi : Nat} (hc : hi ≤ w.heap.size) : OVp msgL w (fun j => lo ≤ j ∧ j < hi) [.int .i64 d.Kind, .int .i64 d.Acct, .int .i64 d.Amt, .int .i64 d.Src] d := by
  have h : OVp msgL w _ [.int .i64 d.Kind, .int .i64 d.Acct, .int .i64 d.Amt, .int .i64 d.Src] d := OVp.iso (f := fun d : MMsg => (d.Kind, d.Acct, d.Amt, d.Src)) (OVp.cons1 (OVp.cons1 (OVp.cons1 OVp.one)))
  exact h.imp (fun _ h => h.elim)

theorem ov_msg {w : World} {d : MMsg} {lo hi : Nat} (hc : hi ≤ w.heap.size) : OV msgL w lo hi (.agg #[.int .i64 d.Kind, .int .i64 d.Acct, .int .i64 d.Amt, .int .i64 d.Src]) d :=
  (ovp_msg (lo := lo) (hi := hi) hc).ov (fun _ h => h) hc

set_option maxHeartbeats 1000000 in
theorem toMsg_c {w : World} {v : Value} {d : MMsg} (h : RV msgL w v d) : Calls Try.prog 109 #[v] w (NewV msgL w d) := by
  obtain rfl := rv_msg h
  obtain ⟨wa, hwa, B0, sa, x_a, x_r, x_out⟩ := frame3 w 118 [.int .i64 d.Kind, .int .i64 d.Acct, .int .i64 d.Amt, .int .i64 d.Src] 92 [.int .i64 0, .int .i64 0, .int .i64 0, .int .i64 0] 92 [.int .i64 0, .int .i64 0, .int .i64 0, .int .i64 0]
  have sa_1 := Nat.le_of_eq sa
  have sa_2 := Nat.le_of_eq sa.symm
  clear sa
  have c_a_0_wa := x_a.cell (i := 0) rfl
  have f_a_0_wa := x_a.frozen 0
  have c_a_1_wa := x_a.cell (i := 1) rfl
  have f_a_1_wa := x_a.frozen 1
  have c_a_2_wa := x_a.cell (i := 2) rfl
  have f_a_2_wa := x_a.frozen 2
  have c_a_3_wa := x_a.cell (i := 3) rfl
  have f_a_3_wa := x_a.frozen 3
  have c_out_0_wa := x_out.cell (i := 0) rfl
  have f_out_0_wa := x_out.frozen 0
  have c_out_1_wa := x_out.cell (i := 1) rfl
  have f_out_1_wa := x_out.frozen 1
  have c_out_2_wa := x_out.cell (i := 2) rfl
  have f_out_2_wa := x_out.frozen 2
  have c_out_3_wa := x_out.cell (i := 3) rfl
  have f_out_3_wa := x_out.frozen 3
  go_enter Try.func109, Try.ntmps109
  have c_r_0_wa := x_r.cell (i := 0) rfl
  have f_r_0_wa := x_r.frozen 0
  have c_r_1_wa := x_r.cell (i := 1) rfl
  have f_r_1_wa := x_r.frozen 1
  have c_r_2_wa := x_r.cell (i := 2) rfl
  have f_r_2_wa := x_r.frozen 2
  have c_r_3_wa := x_r.cell (i := 3) rfl
  have f_r_3_wa := x_r.frozen 3
  obtain ⟨w1, e_w1, s_w1, h_w1, y⟩ := set_step x_out 0 (.int .i64 d.Kind)
  have s_w1_1 := Nat.le_of_eq s_w1
  have s_w1_2 := Nat.le_of_eq s_w1.symm
  clear s_w1
  replace x_a := x_a.chg h_w1 (by omega)
  replace x_r := x_r.chg h_w1 (by omega)
  have B_w1 := Below.chg_ B0 h_w1 (by omega) (by omega)
  replace x_out : Vr w1 (w.heap.size + 1 + 1) 92 [.int .i64 d.Kind, .int .i64 0, .int .i64 0, .int .i64 0] := y
  clear y
  have c_a_0_w1 := x_a.cell (i := 0) rfl
  have f_a_0_w1 := x_a.frozen 0
  have c_a_1_w1 := x_a.cell (i := 1) rfl
  have f_a_1_w1 := x_a.frozen 1
  have c_a_2_w1 := x_a.cell (i := 2) rfl
  have f_a_2_w1 := x_a.frozen 2
  have c_a_3_w1 := x_a.cell (i := 3) rfl
  have f_a_3_w1 := x_a.frozen 3
  have c_out_0_w1 := x_out.cell (i := 0) rfl
  have f_out_0_w1 := x_out.frozen 0
  have c_out_1_w1 := x_out.cell (i := 1) rfl
  have f_out_1_w1 := x_out.frozen 1
  have c_out_2_w1 := x_out.cell (i := 2) rfl
  have f_out_2_w1 := x_out.frozen 2
  have c_out_3_w1 := x_out.cell (i := 3) rfl
  have f_out_3_w1 := x_out.frozen 3
  have c_r_0_w1 := x_r.cell (i := 0) rfl
  have f_r_0_w1 := x_r.frozen 0
  have c_r_1_w1 := x_r.cell (i := 1) rfl
  have f_r_1_w1 := x_r.frozen 1
  have c_r_2_w1 := x_r.cell (i := 2) rfl
  have f_r_2_w1 := x_r.frozen 2
  have c_r_3_w1 := x_r.cell (i := 3) rfl
  have f_r_3_w1 := x_r.frozen 3
  obtain ⟨w2, e_w2, s_w2, h_w2, y⟩ := set_step x_out 1 (.int .i64 d.Acct)
  have s_w2_1 := Nat.le_of_eq s_w2
  have s_w2_2 := Nat.le_of_eq s_w2.symm
  clear s_w2
  replace x_a := x_a.chg h_w2 (by omega)
  replace x_r := x_r.chg h_w2 (by omega)
  have B_w2 := Below.chg_ B_w1 h_w2 (by omega) (by omega)
  replace x_out : Vr w2 (w.heap.size + 1 + 1) 92 [.int .i64 d.Kind, .int .i64 d.Acct, .int .i64 0, .int .i64 0] := y
  clear y
  have c_a_0_w2 := x_a.cell (i := 0) rfl
  have f_a_0_w2 := x_a.frozen 0
  have c_a_1_w2 := x_a.cell (i := 1) rfl
  have f_a_1_w2 := x_a.frozen 1
  have c_a_2_w2 := x_a.cell (i := 2) rfl
  have f_a_2_w2 := x_a.frozen 2
  have c_a_3_w2 := x_a.cell (i := 3) rfl
  have f_a_3_w2 := x_a.frozen 3
  have c_out_0_w2 := x_out.cell (i := 0) rfl
  have f_out_0_w2 := x_out.frozen 0
  have c_out_1_w2 := x_out.cell (i := 1) rfl
  have f_out_1_w2 := x_out.frozen 1
  have c_out_2_w2 := x_out.cell (i := 2) rfl
  have f_out_2_w2 := x_out.frozen 2
  have c_out_3_w2 := x_out.cell (i := 3) rfl
  have f_out_3_w2 := x_out.frozen 3
  have c_r_0_w2 := x_r.cell (i := 0) rfl
  have f_r_0_w2 := x_r.frozen 0
  have c_r_1_w2 := x_r.cell (i := 1) rfl
  have f_r_1_w2 := x_r.frozen 1
  have c_r_2_w2 := x_r.cell (i := 2) rfl
  have f_r_2_w2 := x_r.frozen 2
  have c_r_3_w2 := x_r.cell (i := 3) rfl
  have f_r_3_w2 := x_r.frozen 3
  obtain ⟨w3, e_w3, s_w3, h_w3, y⟩ := set_step x_out 2 (.int .i64 d.Amt)
  have s_w3_1 := Nat.le_of_eq s_w3
  have s_w3_2 := Nat.le_of_eq s_w3.symm
  clear s_w3
  replace x_a := x_a.chg h_w3 (by omega)
  replace x_r := x_r.chg h_w3 (by omega)
  have B_w3 := Below.chg_ B_w2 h_w3 (by omega) (by omega)
  replace x_out : Vr w3 (w.heap.size + 1 + 1) 92 [.int .i64 d.Kind, .int .i64 d.Acct, .int .i64 d.Amt, .int .i64 0] := y
  clear y
  have c_a_0_w3 := x_a.cell (i := 0) rfl
  have f_a_0_w3 := x_a.frozen 0
  have c_a_1_w3 := x_a.cell (i := 1) rfl
  have f_a_1_w3 := x_a.frozen 1
  have c_a_2_w3 := x_a.cell (i := 2) rfl
  have f_a_2_w3 := x_a.frozen 2
  have c_a_3_w3 := x_a.cell (i := 3) rfl
  have f_a_3_w3 := x_a.frozen 3
  have c_out_0_w3 := x_out.cell (i := 0) rfl
  have f_out_0_w3 := x_out.frozen 0
  have c_out_1_w3 := x_out.cell (i := 1) rfl
  have f_out_1_w3 := x_out.frozen 1
  have c_out_2_w3 := x_out.cell (i := 2) rfl
  have f_out_2_w3 := x_out.frozen 2
  have c_out_3_w3 := x_out.cell (i := 3) rfl
  have f_out_3_w3 := x_out.frozen 3
  have c_r_0_w3 := x_r.cell (i := 0) rfl
  have f_r_0_w3 := x_r.frozen 0
  have c_r_1_w3 := x_r.cell (i := 1) rfl
  have f_r_1_w3 := x_r.frozen 1
  have c_r_2_w3 := x_r.cell (i := 2) rfl
  have f_r_2_w3 := x_r.frozen 2
  have c_r_3_w3 := x_r.cell (i := 3) rfl
  have f_r_3_w3 := x_r.frozen 3
  obtain ⟨w4, e_w4, s_w4, h_w4, y⟩ := set_step x_out 3 (.int .i64 d.Src)
  have s_w4_1 := Nat.le_of_eq s_w4
  have s_w4_2 := Nat.le_of_eq s_w4.symm
  clear s_w4
  replace x_a := x_a.chg h_w4 (by omega)
  replace x_r := x_r.chg h_w4 (by omega)
  have B_w4 := Below.chg_ B_w3 h_w4 (by omega) (by omega)
  replace x_out : Vr w4 (w.heap.size + 1 + 1) 92 [.int .i64 d.Kind, .int .i64 d.Acct, .int .i64 d.Amt, .int .i64 d.Src] := y
  clear y
  have c_a_0_w4 := x_a.cell (i := 0) rfl
  have f_a_0_w4 := x_a.frozen 0
  have c_a_1_w4 := x_a.cell (i := 1) rfl
  have f_a_1_w4 := x_a.frozen 1
  have c_a_2_w4 := x_a.cell (i := 2) rfl
  have f_a_2_w4 := x_a.frozen 2
  have c_a_3_w4 := x_a.cell (i := 3) rfl
  have f_a_3_w4 := x_a.frozen 3
  have c_out_0_w4 := x_out.cell (i := 0) rfl
  have f_out_0_w4 := x_out.frozen 0
  have c_out_1_w4 := x_out.cell (i := 1) rfl
  have f_out_1_w4 := x_out.frozen 1
  have c_out_2_w4 := x_out.cell (i := 2) rfl
  have f_out_2_w4 := x_out.frozen 2
  have c_out_3_w4 := x_out.cell (i := 3) rfl
  have f_out_3_w4 := x_out.frozen 3
  have c_r_0_w4 := x_r.cell (i := 0) rfl
  have f_r_0_w4 := x_r.frozen 0
  have c_r_1_w4 := x_r.cell (i := 1) rfl
  have f_r_1_w4 := x_r.frozen 1
  have c_r_2_w4 := x_r.cell (i := 2) rfl
  have f_r_2_w4 := x_r.frozen 2
  have c_r_3_w4 := x_r.cell (i := 3) rfl
  have f_r_3_w4 := x_r.frozen 3
  obtain ⟨w5, e_w5, s_w5, h_w5, y⟩ := store_step x_r [.int .i64 d.Kind, .int .i64 d.Acct, .int .i64 d.Amt, .int .i64 d.Src] rfl
  replace e_w5 : ((((w4.setCell ⟨w.heap.size + 1, 0, none⟩ (.int .i64 d.Kind)).setCell ⟨w.heap.size + 1, 1, none⟩ (.int .i64 d.Acct)).setCell ⟨w.heap.size + 1, 2, none⟩ (.int .i64 d.Amt)).setCell ⟨w.heap.size + 1, 3, none⟩ (.int .i64 d.Src)) = w5 := e_w5
  have s_w5_1 := Nat.le_of_eq s_w5
  have s_w5_2 := Nat.le_of_eq s_w5.symm
  clear s_w5
  replace x_a := x_a.chg h_w5 (by omega)
  replace x_out := x_out.chg h_w5 (by omega)
  have B_w5 := Below.chg_ B_w4 h_w5 (by omega) (by omega)
  replace x_r : Vr w5 (w.heap.size + 1) 92 [.int .i64 d.Kind, .int .i64 d.Acct, .int .i64 d.Amt, .int .i64 d.Src] := y
  clear y
  have c_r_0_w5 := x_r.cell (i := 0) rfl
  have f_r_0_w5 := x_r.frozen 0
  have c_r_1_w5 := x_r.cell (i := 1) rfl
  have f_r_1_w5 := x_r.frozen 1
  have c_r_2_w5 := x_r.cell (i := 2) rfl
  have f_r_2_w5 := x_r.frozen 2
  have c_r_3_w5 := x_r.cell (i := 3) rfl
  have f_r_3_w5 := x_r.frozen 3
  go_wp2
  refine ret_cell (by rfl) (by rfl) x_r Try.underlying92 sz_msg (by rfl) ?_
  exact ⟨_, rfl, ov_msg (by omega), B_w5⟩

set_option maxHeartbeats 1000000 in
theorem eqMsg_same {w : World} {v v' : Value} {d : MMsg} (h : RV msgL w v d) (h' : RV msgL w v' d) : Calls Try.prog 118 #[v, v'] w fun e w' => e = .returned (.bool true) ∧ Below w.heap.size w w' := by
  obtain rfl := rv_msg h
  obtain rfl := rv_msg h'
  obtain ⟨wa, hwa, B0, sa, x_a, x_b⟩ := frame2 w 92 [.int .i64 d.Kind, .int .i64 d.Acct, .int .i64 d.Amt, .int .i64 d.Src] 92 [.int .i64 d.Kind, .int .i64 d.Acct, .int .i64 d.Amt, .int .i64 d.Src]
  have sa_1 := Nat.le_of_eq sa
  have sa_2 := Nat.le_of_eq sa.symm
  clear sa
  have c_a_0_wa := x_a.cell (i := 0) rfl
  have c_a_1_wa := x_a.cell (i := 1) rfl
  have c_a_2_wa := x_a.cell (i := 2) rfl
  have c_a_3_wa := x_a.cell (i := 3) rfl
  have c_b_0_wa := x_b.cell (i := 0) rfl
  have c_b_1_wa := x_b.cell (i := 1) rfl
  have c_b_2_wa := x_b.cell (i := 2) rfl
  have c_b_3_wa := x_b.cell (i := 3) rfl
  go_enter Try.func118, Try.ntmps118
  go_wp2
  go_ret
  exact ⟨rfl, B0⟩

end Go.Proofs.Ytdoipabfmekdlaa

namespace Go.Proofs.Ytdoipabfmekdlaa
open Go.RowKit
set_option linter.unusedVariables false

def msgSL : Lay (List MMsg) := sliceL 92 4 msgL

theorem el_msg {w : World} {B : Nat} {A : Option Addr} {xs : List MMsg} {j : Nat} {x : MMsg} (h : RdL msgL 4 w B A xs) (hx : xs[j]? = some x) :
    ∃ b off, A = some ⟨b, off, none⟩ ∧ b < B ∧ w.cell? ⟨b, off + j * 4, none⟩ = some (.int .i64 x.Kind) ∧ w.cell? ⟨b, off + j * 4 + 1, none⟩ = some (.int .i64 x.Acct) ∧ w.cell? ⟨b, off + j * 4 + 2, none⟩ = some (.int .i64 x.Amt) ∧ w.cell? ⟨b, off + j * 4 + 3, none⟩ = some (.int .i64 x.Src) := by
  obtain ⟨b, off, cs, rfl, hb, hl, hc, hr⟩ := h.at_ hx
  obtain rfl := cs_msg hr
  exact ⟨b, off, rfl, hb, hc 0 _ rfl, hc 1 _ rfl, hc 2 _ rfl, hc 3 _ rfl⟩

set_option maxHeartbeats 400000 in
theorem eqMsgS_any (A A' : Option Addr) (c c' : Nat) (xs : List MMsg) (w : World) (hx : RdL msgL 4 w w.heap.size A xs) (hy : RdL msgL 4 w w.heap.size A' xs) (hm : xs.length ≤ 1073741824) :
    Calls Try.prog 106 #[.slice A xs.length c, .slice A' xs.length c'] w fun e w' => e = .returned (.bool true) ∧ Below w.heap.size w w' := by
  go_enter Try.func106, Try.ntmps106
  go_wp2
  go_loopw [5] (fun i wr => ∃ k : Nat, k ≤ xs.length ∧ i = .int .i64 k ∧ Below w.heap.size w wr) (fun i _ => xs.length - (intOf i).toNat)
  case atStart => exact ⟨0, Nat.zero_le _, rfl, Below.refl _ _⟩
  case round =>
    obtain ⟨k, hk, rfl, HB⟩ := hrel
    by_cases hlt : k < xs.length
    · obtain ⟨x, hxe⟩ := get_of_lt hlt
      obtain ⟨b, off, rfl, hb, c0, c1, c2, c3⟩ := el_msg (hx.below HB) hxe
      obtain ⟨b', off', rfl, hb', d0, d1, d2, d3⟩ := el_msg (hy.below HB) hxe
      clear hxe
      have i1 : (k : Int) < (xs.length : Int) := by omega
      have hs := HB.size
      have hbw : b < wr.heap.size := by omega
      have hbw' : b' < wr.heap.size := by omega
      go_wp2_with fail
      go_region_held3 (fun w' => w'.cell? ⟨b, off + k * 4, none⟩ = some (.int .i64 x.Kind) ∧ w'.cell? ⟨b, off + k * 4 + 1, none⟩ = some (.int .i64 x.Acct) ∧ w'.cell? ⟨b, off + k * 4 + 2, none⟩ = some (.int .i64 x.Amt) ∧ w'.cell? ⟨b, off + k * 4 + 3, none⟩ = some (.int .i64 x.Src) ∧ w'.cell? ⟨b', off' + k * 4, none⟩ = some (.int .i64 x.Kind) ∧ w'.cell? ⟨b', off' + k * 4 + 1, none⟩ = some (.int .i64 x.Acct) ∧ w'.cell? ⟨b', off' + k * 4 + 2, none⟩ = some (.int .i64 x.Amt) ∧ w'.cell? ⟨b', off' + k * 4 + 3, none⟩ = some (.int .i64 x.Src))
        (first | exact ⟨c0, c1, c2, c3, d0, d1, d2, d3⟩ | exact ⟨(hk1 _ hbw).trans c0, (hk1 _ hbw).trans c1, (hk1 _ hbw).trans c2, (hk1 _ hbw).trans c3, (hk1 _ hbw').trans d0, (hk1 _ hbw').trans d1, (hk1 _ hbw').trans d2, (hk1 _ hbw').trans d3⟩)
        (first | (go_at_call 118; refine (eqMsg_same (d := x) rv_msg_mk rv_msg_mk).mono ?_; rintro e w1 ⟨rfl, hd1⟩; have hk1 : ∀ p : Addr, p.block < wr.heap.size → w1.cell? p = wr.cell? p := (fun p hp => hd1.cell hp); have hb2 : Below w.heap.size w w1 := HB.drew.trans (hd1.mono HB.size)))
      go_wp2
      go_roundw
      case rel => exact ⟨k + 1, by omega, by go_num, hb2⟩
      case measure => simp [intOf]; omega
    · have hk2 : k = xs.length := by omega
      subst hk2
      go_wp2
      go_ret
      exact ⟨rfl, HB⟩

theorem eqMsgS_same {w : World} {v v' : Value} {xs : List MMsg} (h : RV msgSL w v xs) (h' : RV msgSL w v' xs) (hm : xs.length ≤ 1073741824) :
    Calls Try.prog 106 #[v, v'] w fun e w' => e = .returned (.bool true) ∧ Below w.heap.size w w' := by
  obtain ⟨A, c, rfl, _, _, hr⟩ := rv_slice h
  obtain ⟨A', c', rfl, _, _, hr'⟩ := rv_slice h'
  exact eqMsgS_any A A' c c' xs w hr hr' hm

/-- the marks that a marking lays, element behind element -/
def marksMsg (k : Int) (N : Nat) : List MMsg := (List.range N).map fun (i : Nat) => ⟨k + 4 * (i : Int), k + 4 * (i : Int) + 1, k + 4 * (i : Int) + 2, k + 4 * (i : Int) + 3⟩
theorem marksMsg_len (k : Int) (N : Nat) : (marksMsg k N).length = N := by simp [marksMsg]
theorem marksMsg_succ (k : Int) (N : Nat) : marksMsg k (N + 1) = marksMsg k N ++ [⟨k + 4 * (N : Int), k + 4 * (N : Int) + 1, k + 4 * (N : Int) + 2, k + 4 * (N : Int) + 3⟩] := by simp [marksMsg, List.range_succ]
theorem marksMsg_get (k : Int) {N j : Nat} (h : j < N) : (marksMsg k N)[j]? = some ⟨k + 4 * (j : Int), k + 4 * (j : Int) + 1, k + 4 * (j : Int) + 2, k + 4 * (j : Int) + 3⟩ := by simp [marksMsg, h]
theorem mixMsg_set {xs : List MMsg} {k0 : Int} {k : Nat} {x : MMsg} (h : k < xs.length) (hx : x = ⟨k0 + 4 * (k : Int), k0 + 4 * (k : Int) + 1, k0 + 4 * (k : Int) + 2, k0 + 4 * (k : Int) + 3⟩) : (marksMsg k0 k ++ xs.drop k).set k x = marksMsg k0 (k + 1) ++ xs.drop (k + 1) := by
  have e : (marksMsg k0 k).length = k := marksMsg_len _ _
  rw [List.set_append, if_neg (by omega), e, Nat.sub_self, List.drop_eq_getElem_cons h, List.set_cons_zero, marksMsg_succ, hx, List.append_assoc]
  rfl

theorem own_msg (w : World) (d : MMsg) : msgL.own w [] [.int .i64 d.Kind, .int .i64 d.Acct, .int .i64 d.Amt, .int .i64 d.Src] d := by
  have h := ovp_msg (w := w) (d := d) (lo := 0) (hi := 0) (Nat.zero_le _)
  obtain ⟨S, ho, hn, hS⟩ := h
  obtain rfl : S = [] := List.eq_nil_iff_forall_not_mem.2 fun j hj => by have := hS j hj; omega
  exact ho
theorem own_msg_nil (w : World) (T : List Nat) (cs : List Value) (x : MMsg) (h : msgL.own w T cs x) : T = [] := by
  obtain ⟨_, _, _, _, -, rfl, ⟨-, rfl⟩, ⟨_, _, _, _, -, rfl, ⟨-, rfl⟩, ⟨_, _, _, _, -, rfl, ⟨-, rfl⟩, ⟨-, rfl⟩⟩⟩⟩ := h
  rfl

set_option maxHeartbeats 1000000 in
theorem markMsgS_own (g c : Nat) (S : List Nat) (xs : List MMsg) (k0 : Int) (w : World) (ho : OwnL msgL 92 4 w S (.slice (some ⟨g, 0, none⟩) xs.length c) xs) (hm : xs.length ≤ 1073741824) (hk0 : 0 ≤ k0) (hk1 : k0 ≤ 549755813888) :
    Calls Try.prog 87 #[.slice (some ⟨g, 0, none⟩) xs.length c, .int .i64 k0] w (MarkS msgSL w S [.slice (some ⟨g, 0, none⟩) xs.length c] (k0 + 4 * (xs.length : Int)) (marksMsg k0 xs.length)) := by
  go_enter Try.func87, Try.ntmps87
  go_wp2
  go_loopw [1, 5] (fun q i wr => ∃ (k : Nat) (z : Int), k ≤ xs.length ∧ i = .int .i64 k ∧ q = .int .i64 z ∧ Hid (z = k0 + 4 * (k : Int)) ∧ OwnL msgL 92 4 wr S (.slice (some ⟨g, 0, none⟩) xs.length c) (marksMsg k0 k ++ xs.drop k) ∧ ChgS S w wr) (fun _ i _ => xs.length - (intOf i).toNat)
  case atStart => exact ⟨0, k0, Nat.zero_le _, rfl, rfl, by show _ = _; simp, by simpa [marksMsg] using ho, ChgS.refl _ _⟩
  case round =>
    obtain ⟨k, z, hk, rfl, rfl, HZ, hown, hgr⟩ := hrel
    by_cases hlt : k < xs.length
    · have hl : k < (marksMsg k0 k ++ xs.drop k).length := by rw [List.length_append, marksMsg_len, List.length_drop]; omega
      have hzb : 0 ≤ z ∧ z ≤ 1099511627776 := by have := HZ.out; omega
      obtain ⟨ys, R0⟩ := hown.rowOf
      have hq0 : k * 4 < xs.length * 4 := by omega
      have hq1 : k * 4 + 1 < xs.length * 4 := by omega
      have hq2 : k * 4 + 2 < xs.length * 4 := by omega
      have hq3 : k * 4 + 3 < xs.length * 4 := by omega
      obtain ⟨⟨u0, hu0⟩, hf0, w1, e1, R1⟩ := row_step R0 hq0 (.int .i64 (z))
      obtain ⟨⟨u1, hu1⟩, hf1, w2, e2, R2⟩ := row_step R1 hq1 (.int .i64 (z + 1))
      obtain ⟨⟨u2, hu2⟩, hf2, w3, e3, R3⟩ := row_step R2 hq2 (.int .i64 (z + 1 + 1))
      obtain ⟨⟨u3, hu3⟩, hf3, w4, e4, R4⟩ := row_step R3 hq3 (.int .i64 (z + 1 + 1 + 1))
      obtain ⟨H2, H3⟩ := hown.lay own_msg_nil (j := k) (cs := [.int .i64 (z), .int .i64 (z + 1), .int .i64 (z + 1 + 1), .int .i64 (z + 1 + 1 + 1)]) (x := ⟨z, z + 1, z + 1 + 1, z + 1 + 1 + 1⟩) hl rfl (own_msg _ ⟨z, z + 1, z + 1 + 1, z + 1 + 1 + 1⟩)
      rw [mixMsg_set hlt (by have := HZ.out; simp only [MMsg.mk.injEq]; omega), show setAll wr g (k * 4) [.int .i64 (z), .int .i64 (z + 1), .int .i64 (z + 1 + 1), .int .i64 (z + 1 + 1 + 1)] = w4 by rw [← e4, ← e3, ← e2, ← e1]; rfl] at H2
      rw [show setAll wr g (k * 4) [.int .i64 (z), .int .i64 (z + 1), .int .i64 (z + 1 + 1), .int .i64 (z + 1 + 1 + 1)] = w4 by rw [← e4, ← e3, ← e2, ← e1]; rfl] at H3
      replace H3 := hgr.trans H3
      have HZ2 : Hid (z + 4 = k0 + 4 * ((k + 1 : Nat) : Int)) := by
        show _ = _
        have := HZ.out
        omega
      have i1 : (k : Int) < (xs.length : Int) := by omega
      have HH2 := Lib.hid H2
      have HH3 := Lib.hid H3
      clear H2 H3 hl hown hgr HZ R0 hq0 R1 hq1 R2 hq2 R3 hq3 R4
      go_wp2
      go_roundw
      case rel => exact ⟨k + 1, z + 4, by omega, by go_num, by go_num, HZ2, HH2.out, HH3.out⟩
      case measure => simp [intOf]; omega
    · have hk2 : k = xs.length := by omega
      subst hk2
      rw [List.drop_of_length_le (Nat.le_refl _), List.append_nil] at hown
      go_wp2
      go_ret
      exact ⟨ret_eq (by rw [← HZ.out]; rfl), ⟨_, rfl, hown⟩, hgr⟩

set_option maxHeartbeats 400000 in
theorem markMsgS_nil (A : Option Addr) (c : Nat) (S : List Nat) (k0 : Int) (w : World) (ho : OwnL msgL 92 4 w S (.slice A 0 c) []) :
    Calls Try.prog 87 #[.slice A 0 c, .int .i64 k0] w (MarkS msgSL w S [.slice A 0 c] (k0 + 4 * ((0 : Nat) : Int)) (marksMsg k0 0)) := by
  go_enter Try.func87, Try.ntmps87
  go_wp2
  refine wp_loop_rounds 1 ?_
  rw [rounds_succ]
  go_wp2
  go_ret
  exact ⟨by simp, ⟨_, rfl, ho⟩, ChgS.refl _ _⟩

theorem markMsgS_s {w : World} {S : List Nat} {v : Value} {xs : List MMsg} {k : Int} (h : msgSL.own w S [v] xs) (hm : xs.length ≤ 1073741824) (hk0 : 0 ≤ k) (hk1 : k ≤ 549755813888) :
    Calls Try.prog 87 #[v, .int .i64 k] w (MarkS msgSL w S [v] (k + 4 * (xs.length : Int)) (marksMsg k xs.length)) := by
  obtain ⟨u, e, ho⟩ := h
  obtain rfl : v = u := by simpa using e
  have ho' := ho
  obtain ⟨cf, sf, hrow, -⟩ := ho'
  rcases hrow.2 with ⟨rfl, h0⟩ | ⟨g, cap, cur, rfl, _⟩
  · obtain rfl : xs = [] := List.eq_nil_of_length_eq_zero h0
    exact markMsgS_nil none 0 S k w ho
  · exact markMsgS_own g cap S xs k w ho hm hk0 hk1

theorem markMsgS_c {w : World} {v : Value} {xs : List MMsg} {lo hi : Nat} {k : Int} (h : OV msgSL w lo hi v xs) (hm : xs.length ≤ 1073741824) (hk0 : 0 ≤ k) (hk1 : k ≤ 549755813888) :
    Calls Try.prog 87 #[v, .int .i64 k] w fun e w' => e = .returned (.int .i64 (k + 4 * (xs.length : Int))) ∧ OV msgSL w' lo hi v (marksMsg k xs.length) ∧ Chg lo hi w w' := by
  obtain ⟨cs, S, rfl, ⟨u, rfl, ho⟩, hn, hS, hh⟩ := h
  exact (markMsgS_s ⟨u, rfl, ho⟩ hm hk0 hk1).mono fun e w' hM => MarkS.up hM hn hS hh

set_option maxHeartbeats 1000000 in
theorem heldMsgS_any (A : Option Addr) (c B N : Nat) (k0 : Int) (w : World) (hr : RdL msgL 4 w B A (marksMsg k0 N)) (hm : N ≤ 1073741824) (hk0 : 0 ≤ k0) (hk1 : k0 ≤ 549755813888) :
    Calls Try.prog 89 #[.slice A N c, .int .i64 k0] w fun e w' => e = .returned (.int .i64 (k0 + 4 * (N : Int))) ∧ w = w' := by
  go_enter Try.func89, Try.ntmps89
  go_wp2
  go_loop [1, 5] (fun q i => ∃ (k : Nat) (z : Int), k ≤ N ∧ i = .int .i64 k ∧ q = .int .i64 z ∧ Hid (z = k0 + 4 * (k : Int))) (fun _ i => N - (intOf i).toNat)
  case atStart => exact ⟨0, k0, Nat.zero_le _, rfl, rfl, by show _ = _; simp⟩
  case round =>
    obtain ⟨k, z, hk, rfl, rfl, HZ⟩ := hrel
    by_cases hlt : k < N
    · have hge := marksMsg_get k0 hlt
      rw [← HZ.out] at hge
      obtain ⟨b, off, rfl, hb, c0, c1, c2, c3⟩ := el_msg hr hge
      have hzb : 0 ≤ z ∧ z ≤ 1099511627776 := by have := HZ.out; omega
      have HZ2 : Hid (z + 4 = k0 + 4 * ((k + 1 : Nat) : Int)) := by
        show _ = _
        have := HZ.out
        omega
      clear hge HZ
      have i1 : (k : Int) < (N : Int) := by omega
      go_wp2
      go_round
      case rel => exact ⟨k + 1, z + 4, by omega, by go_num, by go_num, HZ2⟩
      case measure => simp [intOf]; omega
    · have hk2 : k = N := by omega
      subst hk2
      go_wp2
      go_ret
      exact ⟨ret_eq (by rw [← HZ.out]; rfl), rfl⟩

theorem heldMsgS_c {w : World} {v : Value} {N : Nat} {k : Int} (h : RV msgSL w v (marksMsg k N)) (hm : N ≤ 1073741824) (hk0 : 0 ≤ k) (hk1 : k ≤ 549755813888) :
    Calls Try.prog 89 #[v, .int .i64 k] w fun e w' => e = .returned (.int .i64 (k + 4 * (N : Int))) ∧ Below w.heap.size w w' := by
  obtain ⟨A, c, rfl, _, _, hr⟩ := rv_slice h
  rw [marksMsg_len]
  exact (heldMsgS_any A c _ N k w hr hm hk0 hk1).mono fun e w' ⟨he, hw⟩ => ⟨he, by rw [← hw]; exact Below.refl _ _⟩

set_option maxHeartbeats 400000 in
theorem szMsgS_c {w : World} {v : Value} {xs : List MMsg} {left : Int} (h : RV msgSL w v xs) (h0 : 0 ≤ left) (h1 : left ≤ 1099511627776) :
    Calls Try.prog 96 #[v, .int .i64 left] w fun e w' => e = .returned (.int .i64 (szV left (xs.length : Int))) ∧ Below w.heap.size w w' := by
  obtain ⟨A, c, rfl, hc1, hc2, hr⟩ := rv_slice h
  unfold maxLen at hc2
  by_cases hl : (xs.length : Int) ≤ left
  · have e : szV left (xs.length : Int) = left - (xs.length : Int) := if_pos hl
    have g : decide (left - (xs.length : Int) < 0) = false := by simp; omega
    rw [e]
    clear e
    go_enter Try.func96, Try.ntmps96
    go_wp2
    go_ret
    exact ⟨rfl, Below.refl _ _⟩
  · have e : szV left (xs.length : Int) = -1 := if_neg hl
    have g : decide (left - (xs.length : Int) < 0) = true := by simp; omega
    rw [e]
    clear e
    go_enter Try.func96, Try.ntmps96
    go_wp2
    go_ret
    exact ⟨rfl, Below.refl _ _⟩

theorem Try.info_msg : (Try.prog.info? 92).map (fun i => (i.zero, i.size, i.bytes)) = some (some (.agg #[.int .i64 0, .int .i64 0, .int .i64 0, .int .i64 0]), 4, 32) := by kernel_rfl

set_option maxHeartbeats 1000000 in
theorem toMsgS_any (A : Option Addr) (c : Nat) (xs : List MMsg) (w : World) (hr : RdL msgL 4 w w.heap.size A xs) (hm : xs.length ≤ 16777216) :
    Calls Try.prog 100 #[.slice A xs.length c] w (NewV msgSL w xs) := by
  obtain ⟨i0, hi, hz0, hz1, hz2⟩ := info_parts Try.info_msg
  go_enter Try.func100, Try.ntmps100
  go_wp2_with (at_make; refine wpList_make_full _ rfl _ _ 57 rfl w.heap.size 92 i0 (.agg #[.int .i64 0, .int .i64 0, .int .i64 0, .int .i64 0]) 4 Try.underlying57 hi hz0 hz1 .i64 .i64 _ _ xs.length rfl rfl rfl rfl ?c1 ?c2 ?c3 ?_)
  case c1 => rw [hz2]; omega
  case c2 => unfold maxLen; omega
  case c3 => exact Nat.le_refl _
  intro w1 hown1 hg1
  have hb1 : Below w.heap.size w w1 := (Below.refl _ _).grown hg1 (Nat.le_refl _) (by intro k hk; cases hk)
  have hlt1 := World.ownsRow.lt hown1 w.heap.size rfl
  have ho1 : OV msgSL w1 w.heap.size w1.heap.size (.slice (some ⟨w.heap.size, 0, none⟩) xs.length xs.length) (xs.take 0 ++ List.replicate (xs.length - 0) ⟨0, 0, 0, 0⟩) := by
    have h2 : w1.ownsRow 0 92 4 (.slice (some ⟨w.heap.size, 0, none⟩) xs.length xs.length) xs.length (flat (fun _ => [.int .i64 0, .int .i64 0, .int .i64 0, .int .i64 0]) xs.length) := by
      rw [flat_made _ _ (by decide)]
      refine ⟨hown1.1, ?_⟩
      rcases hown1.2 with h4 | ⟨g, cap, cur, hv, hg, r⟩
      · exact .inl h4
      · exact .inr ⟨g, cap, cur, hv, Nat.zero_le _, r⟩
    have h5 := ownL_made (L := msgL) (z := ⟨0, 0, 0, 0⟩) (own_msg w1 ⟨0, 0, 0, 0⟩) rfl h2
    refine ⟨[_], _, rfl, ⟨_, rfl, by simpa using h5⟩, by simp [Value.ownBlock], fun j hj => ?_, Nat.le_refl _⟩
    obtain rfl : j = w.heap.size := by simpa [Value.ownBlock] using hj
    exact hlt1
  clear hown1 hg1 hlt1
  go_wp2
  go_loopw [4] (fun i wr => ∃ k : Nat, k ≤ xs.length ∧ i = .int .i64 k ∧ OV msgSL wr w.heap.size wr.heap.size (.slice (some ⟨w.heap.size, 0, none⟩) xs.length xs.length) (xs.take k ++ List.replicate (xs.length - k) ⟨0, 0, 0, 0⟩) ∧ Below w.heap.size w wr) (fun i _ => xs.length - (intOf i).toNat)
  case atStart => exact ⟨0, Nat.zero_le _, rfl, ho1, hb1⟩
  case round =>
    obtain ⟨k, hk, rfl, hown, hbr⟩ := hrel
    have hsz := hbr.size
    by_cases hlt : k < xs.length
    · obtain ⟨x, hxe⟩ := get_of_lt hlt
      obtain ⟨b, off, rfl, hb, c0, c1, c2, c3⟩ := el_msg (hr.below hbr) hxe
      have HX := Lib.hid hxe
      clear hxe
      have i1 : (k : Int) < (xs.length : Int) := by omega
      go_wp2_with fail
      refine (toMsg_c (w := wr) (d := x) rv_msg_mk).mono ?_
      rintro e w2 ⟨v2, rfl, o2, hb2⟩
      have s2 := hb2.size
      obtain rfl := rv_msg o2.rd
      have hown2 := hown.below hb2
      have hl := fill_lenL (d := (⟨0, 0, 0, 0⟩ : MMsg)) xs k hk
      obtain ⟨H2, H3⟩ := hown2.lay own_msg_nil (j := k) (cs := [.int .i64 x.Kind, .int .i64 x.Acct, .int .i64 x.Amt, .int .i64 x.Src]) (x := x) (by rw [hl]; exact hlt) rfl (own_msg _ x)
      obtain ⟨ys, R0⟩ := hown2.rowOf
      have hq0 : k * 4 < xs.length * 4 := by omega
      have hq1 : k * 4 + 1 < xs.length * 4 := by omega
      have hq2 : k * 4 + 2 < xs.length * 4 := by omega
      have hq3 : k * 4 + 3 < xs.length * 4 := by omega
      obtain ⟨⟨u0, hu0⟩, hf0, w3, e1, R1⟩ := row_step R0 hq0 (.int .i64 x.Kind)
      obtain ⟨⟨u1, hu1⟩, hf1, w4, e2, R2⟩ := row_step R1 hq1 (.int .i64 x.Acct)
      obtain ⟨⟨u2, hu2⟩, hf2, w5, e3, R3⟩ := row_step R2 hq2 (.int .i64 x.Amt)
      obtain ⟨⟨u3, hu3⟩, hf3, w6, e4, R4⟩ := row_step R3 hq3 (.int .i64 x.Src)
      rw [fill_stepL xs k HX.out, show setAll w2 w.heap.size (k * 4) [.int .i64 x.Kind, .int .i64 x.Acct, .int .i64 x.Amt, .int .i64 x.Src] = w6 by rw [← e4, ← e3, ← e2, ← e1]; rfl] at H2
      rw [show setAll w2 w.heap.size (k * 4) [.int .i64 x.Kind, .int .i64 x.Acct, .int .i64 x.Amt, .int .i64 x.Src] = w6 by rw [← e4, ← e3, ← e2, ← e1]; rfl] at H3
      have s3 := H3.size
      have hl2 := H2.widen (Nat.le_refl _) (Nat.le_trans s2 s3) (Nat.le_refl _)
      have hb3 : Below w.heap.size w w6 := Below.chg_ (hbr.trans (hb2.mono hsz)) H3 (Nat.le_refl _) (Nat.le_trans hsz s2)
      have HR2 := Lib.hid hl2
      clear H2 H3 hl2 hl hown hown2 s3 R0 hq0 R1 hq1 R2 hq2 R3 hq3 R4
      go_wp2
      go_roundw
      case rel => exact ⟨k + 1, by omega, by go_num, HR2.out, hb3⟩
      case measure => simp [intOf]; omega
    · have hk2 : k = xs.length := by omega
      subst hk2
      rw [Nat.sub_self, List.replicate_zero, List.append_nil, List.take_of_length_le (Nat.le_refl _)] at hown
      go_wp2
      go_ret
      exact ⟨_, rfl, hown, hbr⟩

theorem toMsgS_c {w : World} {v : Value} {xs : List MMsg} (h : RV msgSL w v xs) (hm : xs.length ≤ 16777216) : Calls Try.prog 100 #[v] w (NewV msgSL w xs) := by
  obtain ⟨A, c, rfl, _, _, hr⟩ := rv_slice h
  exact toMsgS_any A c xs w hr hm

end Go.Proofs.Ytdoipabfmekdlaa

namespace Go.Proofs.Ytdoipabfmekdlaa
open Go.RowKit
set_option linter.unusedVariables false

structure MOut where
  Next : Int
  List : List MMsg

def outL : Lay MOut := isoL (fun d => (d.Next, d.List)) (consL (intL .i64) (msgSL))

theorem sz_out : (Try.prog.info? 59).map (·.size) = some 2 := by kernel_rfl

/-- how many values lie behind it -/
def MOut.bulk (d : MOut) : Nat := d.List.length

/-- how many marks it takes -/
def MOut.steps (d : MOut) : Nat := 4 * d.List.length

theorem MOut.steps_le (d : MOut) : d.steps ≤ 4 * d.bulk := by unfold MOut.steps MOut.bulk; omega

/-- what a marking from k on makes of it -/
def MOut.mark (d : MOut) (k : Int) : MOut := ⟨d.Next, marksMsg (k) d.List.length⟩

theorem rv_out {w : World} {v : Value} {d : MOut} (h : RV outL w v d) : ∃ AList cList, v = .agg #[.int .i64 d.Next, .slice AList d.List.length cList] ∧ RV msgSL w (.slice AList d.List.length cList) d.List := by
  obtain ⟨cs, rfl, hcs⟩ := h
  obtain ⟨_, _, rfl, rfl, ⟨AList, cList, rfl, hList⟩⟩ := hcs
  exact ⟨AList, cList, rfl, ⟨[_], rfl, _, _, rfl, hList⟩⟩

theorem cs_out {w : World} {B : Nat} {cs : List Value} {d : MOut} (h : outL.rd w B cs d) : ∃ AList cList, cs = [.int .i64 d.Next, .slice AList d.List.length cList] := by
  obtain ⟨_, _, rfl, rfl, ⟨AList, cList, rfl, hList⟩⟩ := h
  exact ⟨AList, cList, rfl⟩

theorem rv_out_mk {w : World} {vList : Value} {zNext : Int} {zList : List MMsg} (hList : RV msgSL w vList zList) : RV outL w (.agg #[.int .i64 zNext, vList]) ⟨zNext, zList⟩ := by
  obtain ⟨_, rfl, AList, cList, rfl, pList⟩ := hList
  exact ⟨_, rfl, [_], _, rfl, rfl, ⟨AList, cList, rfl, pList⟩⟩

theorem ovp_out {w : World} {d : MOut} {lo hi lList hList : Nat} {vList : Value} (oList : OV msgSL w lList hList vList d.List) (hc : hi ≤ w.heap.size ∧ lo ≤ lList ∧ hList ≤ hi) : OVp outL w (fun j => lo ≤ j ∧ j < hi) [.int .i64 d.Next, vList] d := by
  have h : OVp outL w _ [.int .i64 d.Next, vList] d := OVp.iso (f := fun d : MOut => (d.Next, d.List)) (OVp.cons1 (OVp.sl oList))
  exact h.imp (by intro j; omega)

theorem ov_out {w : World} {d : MOut} {lo hi lList hList : Nat} {vList : Value} (oList : OV msgSL w lList hList vList d.List) (hc : hi ≤ w.heap.size ∧ lo ≤ lList ∧ hList ≤ hi) : OV outL w lo hi (.agg #[.int .i64 d.Next, vList]) d :=
  (ovp_out (lo := lo) (hi := hi) oList hc).ov (fun _ h => h) hc.1

set_option maxHeartbeats 1000000 in
theorem toOut_c {w : World} {v : Value} {d : MOut} (h : RV outL w v d) (hm : d.bulk ≤ 16777216) : Calls Try.prog 72 #[v] w (NewV outL w d) := by
  obtain ⟨AList, cList, rfl, rList⟩ := rv_out h
  unfold MOut.bulk at hm
  obtain ⟨wa, hwa, B0, sa, x_a, x_r, x_out⟩ := frame3 w 86 [.int .i64 d.Next, .slice AList d.List.length cList] 59 [.int .i64 0, .slice none 0 0] 59 [.int .i64 0, .slice none 0 0]
  have sa_1 := Nat.le_of_eq sa
  have sa_2 := Nat.le_of_eq sa.symm
  clear sa
  have c_a_0_wa := x_a.cell (i := 0) rfl
  have f_a_0_wa := x_a.frozen 0
  have c_a_1_wa := x_a.cell (i := 1) rfl
  have f_a_1_wa := x_a.frozen 1
  have c_out_0_wa := x_out.cell (i := 0) rfl
  have f_out_0_wa := x_out.frozen 0
  have c_out_1_wa := x_out.cell (i := 1) rfl
  have f_out_1_wa := x_out.frozen 1
  go_enter Try.func72, Try.ntmps72
  have c_r_0_wa := x_r.cell (i := 0) rfl
  have f_r_0_wa := x_r.frozen 0
  have c_r_1_wa := x_r.cell (i := 1) rfl
  have f_r_1_wa := x_r.frozen 1
  obtain ⟨w1, e_w1, s_w1, h_w1, y⟩ := set_step x_out 0 (.int .i64 d.Next)
  have s_w1_1 := Nat.le_of_eq s_w1
  have s_w1_2 := Nat.le_of_eq s_w1.symm
  clear s_w1
  replace x_a := x_a.chg h_w1 (by omega)
  replace x_r := x_r.chg h_w1 (by omega)
  have B_w1 := Below.chg_ B0 h_w1 (by omega) (by omega)
  replace x_out : Vr w1 (w.heap.size + 1 + 1) 59 [.int .i64 d.Next, .slice none 0 0] := y
  clear y
  have c_a_0_w1 := x_a.cell (i := 0) rfl
  have f_a_0_w1 := x_a.frozen 0
  have c_a_1_w1 := x_a.cell (i := 1) rfl
  have f_a_1_w1 := x_a.frozen 1
  have c_out_0_w1 := x_out.cell (i := 0) rfl
  have f_out_0_w1 := x_out.frozen 0
  have c_out_1_w1 := x_out.cell (i := 1) rfl
  have f_out_1_w1 := x_out.frozen 1
  have c_r_0_w1 := x_r.cell (i := 0) rfl
  have f_r_0_w1 := x_r.frozen 0
  have c_r_1_w1 := x_r.cell (i := 1) rfl
  have f_r_1_w1 := x_r.frozen 1
  go_wp2_with fail
  refine (toMsgS_c (rList.from_ B_w1) (by omega)).mono ?_
  rintro e w2 ⟨uList, rfl, oList, h_w2⟩
  clear c_a_0_wa f_a_0_wa c_a_1_wa f_a_1_wa c_out_0_wa f_out_0_wa c_out_1_wa f_out_1_wa c_r_0_wa f_r_0_wa c_r_1_wa f_r_1_wa c_a_0_w1 f_a_0_w1 c_a_1_w1 f_a_1_w1 c_out_0_w1 f_out_0_w1 c_out_1_w1 f_out_1_w1 c_r_0_w1 f_r_0_w1 c_r_1_w1 f_r_1_w1
  replace x_a := x_a.from_ h_w2
  replace x_r := x_r.from_ h_w2
  replace x_out := x_out.from_ h_w2
  have B_w2 := B_w1.trans (h_w2.mono B_w1.size)
  have s_w2 := h_w2.size
  obtain ⟨BList, eList, rfl, -, -, -⟩ := rv_slice oList.rd
  have c_a_0_w2 := x_a.cell (i := 0) rfl
  have f_a_0_w2 := x_a.frozen 0
  have c_a_1_w2 := x_a.cell (i := 1) rfl
  have f_a_1_w2 := x_a.frozen 1
  have c_out_0_w2 := x_out.cell (i := 0) rfl
  have f_out_0_w2 := x_out.frozen 0
  have c_out_1_w2 := x_out.cell (i := 1) rfl
  have f_out_1_w2 := x_out.frozen 1
  have c_r_0_w2 := x_r.cell (i := 0) rfl
  have f_r_0_w2 := x_r.frozen 0
  have c_r_1_w2 := x_r.cell (i := 1) rfl
  have f_r_1_w2 := x_r.frozen 1
  obtain ⟨w3, e_w3, s_w3, h_w3, y⟩ := set_step x_out 1 (.slice BList d.List.length eList)
  have s_w3_1 := Nat.le_of_eq s_w3
  have s_w3_2 := Nat.le_of_eq s_w3.symm
  clear s_w3
  replace x_a := x_a.chg h_w3 (by omega)
  replace x_r := x_r.chg h_w3 (by omega)
  replace oList := oList.chg h_w3 (by omega)
  have B_w3 := Below.chg_ B_w2 h_w3 (by omega) (by omega)
  replace x_out : Vr w3 (w.heap.size + 1 + 1) 59 [.int .i64 d.Next, .slice BList d.List.length eList] := y
  clear y
  have c_a_0_w3 := x_a.cell (i := 0) rfl
  have f_a_0_w3 := x_a.frozen 0
  have c_a_1_w3 := x_a.cell (i := 1) rfl
  have f_a_1_w3 := x_a.frozen 1
  have c_out_0_w3 := x_out.cell (i := 0) rfl
  have f_out_0_w3 := x_out.frozen 0
  have c_out_1_w3 := x_out.cell (i := 1) rfl
  have f_out_1_w3 := x_out.frozen 1
  have c_r_0_w3 := x_r.cell (i := 0) rfl
  have f_r_0_w3 := x_r.frozen 0
  have c_r_1_w3 := x_r.cell (i := 1) rfl
  have f_r_1_w3 := x_r.frozen 1
  obtain ⟨w4, e_w4, s_w4, h_w4, y⟩ := store_step x_r [.int .i64 d.Next, .slice BList d.List.length eList] rfl
  replace e_w4 : ((w3.setCell ⟨w.heap.size + 1, 0, none⟩ (.int .i64 d.Next)).setCell ⟨w.heap.size + 1, 1, none⟩ (.slice BList d.List.length eList)) = w4 := e_w4
  have s_w4_1 := Nat.le_of_eq s_w4
  have s_w4_2 := Nat.le_of_eq s_w4.symm
  clear s_w4
  replace x_a := x_a.chg h_w4 (by omega)
  replace x_out := x_out.chg h_w4 (by omega)
  replace oList := oList.chg h_w4 (by omega)
  have B_w4 := Below.chg_ B_w3 h_w4 (by omega) (by omega)
  replace x_r : Vr w4 (w.heap.size + 1) 59 [.int .i64 d.Next, .slice BList d.List.length eList] := y
  clear y
  have c_r_0_w4 := x_r.cell (i := 0) rfl
  have f_r_0_w4 := x_r.frozen 0
  have c_r_1_w4 := x_r.cell (i := 1) rfl
  have f_r_1_w4 := x_r.frozen 1
  go_wp2
  refine ret_cell (by rfl) (by rfl) x_r Try.underlying59 sz_out (by rfl) ?_
  exact ⟨_, rfl, ov_out oList (by omega), B_w4⟩

set_option maxHeartbeats 1000000 in
theorem eqOut_same {w : World} {v v' : Value} {d : MOut} (h : RV outL w v d) (h' : RV outL w v' d) (hm : d.bulk ≤ 1073741824) : Calls Try.prog 83 #[v, v'] w fun e w' => e = .returned (.bool true) ∧ Below w.heap.size w w' := by
  obtain ⟨AList, cList, rfl, rList⟩ := rv_out h
  obtain ⟨AListx, cListx, rfl, rxList⟩ := rv_out h'
  unfold MOut.bulk at hm
  obtain ⟨wa, hwa, B0, sa, x_a, x_b⟩ := frame2 w 59 [.int .i64 d.Next, .slice AList d.List.length cList] 59 [.int .i64 d.Next, .slice AListx d.List.length cListx]
  have sa_1 := Nat.le_of_eq sa
  have sa_2 := Nat.le_of_eq sa.symm
  clear sa
  have c_a_0_wa := x_a.cell (i := 0) rfl
  have c_a_1_wa := x_a.cell (i := 1) rfl
  have c_b_0_wa := x_b.cell (i := 0) rfl
  have c_b_1_wa := x_b.cell (i := 1) rfl
  go_enter Try.func83, Try.ntmps83
  go_wp2_with fail
  refine (eqMsgS_same (rList.from_ B0) (rxList.from_ B0) (by omega)).mono ?_
  rintro e w1 ⟨rfl, h_w1⟩
  clear c_a_0_wa c_a_1_wa c_b_0_wa c_b_1_wa
  replace x_a := x_a.from_ h_w1
  replace x_b := x_b.from_ h_w1
  have B_w1 := B0.trans (h_w1.mono B0.size)
  have s_w1 := h_w1.size
  have c_a_0_w1 := x_a.cell (i := 0) rfl
  have c_a_1_w1 := x_a.cell (i := 1) rfl
  have c_b_0_w1 := x_b.cell (i := 0) rfl
  have c_b_1_w1 := x_b.cell (i := 1) rfl
  go_wp2
  go_ret
  exact ⟨rfl, B_w1⟩

set_option maxHeartbeats 1000000 in
theorem szOut_c {w : World} {v : Value} {d : MOut} {left : Int} (h : RV outL w v d) (h0 : 0 ≤ left) (h1 : left ≤ 1073741824) :
    Calls Try.prog 66 #[v, .int .i64 left] w fun e w' => e = .returned (.int .i64 (szV left (d.bulk : Int))) ∧ Below w.heap.size w w' := by
  obtain ⟨AList, cList, rfl, rList⟩ := rv_out h
  obtain ⟨wa, hwa, B0, sa, x_a⟩ := frame1 w 86 [.int .i64 d.Next, .slice AList d.List.length cList]
  have sa_1 := Nat.le_of_eq sa
  have sa_2 := Nat.le_of_eq sa.symm
  clear sa
  have c_a_0_wa := x_a.cell (i := 0) rfl
  have c_a_1_wa := x_a.cell (i := 1) rfl
  have eb : (d.bulk : Int) = (d.List.length : Int) := by unfold MOut.bulk; omega
  by_cases g0 : (d.List.length : Int) ≤ left
  case neg =>
    have ez : szV left (d.bulk : Int) = -1 := by unfold szV; rw [if_neg (by omega)]
    rw [ez]
    go_enter Try.func66, Try.ntmps66
    go_wp2_with fail
    refine (szMsgS_c (rList.from_ B0) (by omega) (by omega)).mono ?_
    rintro e w1 ⟨rfl, h_w1⟩
    clear c_a_0_wa c_a_1_wa
    replace x_a := x_a.from_ h_w1
    have B_w1 := B0.trans (h_w1.mono B0.size)
    have s_w1 := h_w1.size
    rw [show szV (left) (d.List.length : Int) = -1 from if_neg (by omega)]
    go_wp2
    go_ret
    exact ⟨ret_int (by omega), B_w1⟩
  have ez : szV left (d.bulk : Int) = left - (d.bulk : Int) := by unfold szV; rw [if_pos (by omega)]
  rw [ez]
  go_enter Try.func66, Try.ntmps66
  go_wp2_with fail
  refine (szMsgS_c (rList.from_ B0) (by omega) (by omega)).mono ?_
  rintro e w1 ⟨rfl, h_w1⟩
  clear c_a_0_wa c_a_1_wa
  replace x_a := x_a.from_ h_w1
  have B_w1 := B0.trans (h_w1.mono B0.size)
  have s_w1 := h_w1.size
  rw [show szV (left) (d.List.length : Int) = left - (d.List.length : Int) from if_pos (by omega)]
  have gd0 : decide (left - (d.List.length : Int) < 0) = false := by simp; omega
  have c_a_0_w1 := x_a.cell (i := 0) rfl
  have c_a_1_w1 := x_a.cell (i := 1) rfl
  go_wp2
  go_ret
  exact ⟨ret_int (by omega), B_w1⟩

end Go.Proofs.Ytdoipabfmekdlaa

namespace Go.Proofs.Ytdoipabfmekdlaa
open Go.RowKit
set_option linter.unusedVariables false

structure MAcc where
  Prom : Int
  Bal : Int
  Val : Int

def accL : Lay MAcc := isoL (fun d => (d.Prom, d.Bal, d.Val)) (consL (intL .i64) (consL (intL .i64) (intL .i64)))

theorem sz_acc : (Try.prog.info? 56).map (·.size) = some 3 := by kernel_rfl

/-- how many values lie behind it -/
def MAcc.bulk (d : MAcc) : Nat := 0

/-- what a marking from k on makes of it -/
def MAcc.mark (d : MAcc) (k : Int) : MAcc := ⟨d.Prom, d.Bal, d.Val⟩

theorem rv_acc {w : World} {v : Value} {d : MAcc} (h : RV accL w v d) : v = .agg #[.int .i64 d.Prom, .int .i64 d.Bal, .int .i64 d.Val] := by
  obtain ⟨cs, rfl, hcs⟩ := h
  obtain ⟨_, _, rfl, rfl, ⟨_, _, rfl, rfl, rfl⟩⟩ := hcs
  rfl

theorem cs_acc {w : World} {B : Nat} {cs : List Value} {d : MAcc} (h : accL.rd w B cs d) : cs = [.int .i64 d.Prom, .int .i64 d.Bal, .int .i64 d.Val] := by
  obtain ⟨_, _, rfl, rfl, ⟨_, _, rfl, rfl, rfl⟩⟩ := h
  rfl

theorem rv_acc_mk {w : World} {zProm : Int} {zBal : Int} {zVal : Int} : RV accL w (.agg #[.int .i64 zProm, .int .i64 zBal, .int .i64 zVal]) ⟨zProm, zBal, zVal⟩ := by
  exact ⟨_, rfl, [_], _, rfl, rfl, [_], _, rfl, rfl, rfl⟩

theorem ovp_acc {w : World} {d : MAcc} {lo hi : Nat} (hc : hi ≤ w.heap.size) : OVp accL w (fun j => lo ≤ j ∧ j < hi) [.int .i64 d.Prom, .int .i64 d.Bal, .int .i64 d.Val] d := by
  have h : OVp accL w _ [.int .i64 d.Prom, .int .i64 d.Bal, .int .i64 d.Val] d := OVp.iso (f := fun d : MAcc => (d.Prom, d.Bal, d.Val)) (OVp.cons1 (OVp.cons1 OVp.one))
  exact h.imp (fun _ h => h.elim)

theorem ov_acc {w : World} {d : MAcc} {lo hi : Nat} (hc : hi ≤ w.heap.size) : OV accL w lo hi (.agg #[.int .i64 d.Prom, .int .i64 d.Bal, .int .i64 d.Val]) d :=
  (ovp_acc (lo := lo) (hi := hi) hc).ov (fun _ h => h) hc

set_option maxHeartbeats 1000000 in
theorem toAcc_c {w : World} {v : Value} {d : MAcc} (h : RV accL w v d) : Calls Try.prog 73 #[v] w (NewV accL w d) := by
  obtain rfl := rv_acc h
  obtain ⟨wa, hwa, B0, sa, x_a, x_r, x_out⟩ := frame3 w 97 [.int .i64 d.Prom, .int .i64 d.Bal, .int .i64 d.Val] 56 [.int .i64 0, .int .i64 0, .int .i64 0] 56 [.int .i64 0, .int .i64 0, .int .i64 0]
  have sa_1 := Nat.le_of_eq sa
  have sa_2 := Nat.le_of_eq sa.symm
  clear sa
  have c_a_0_wa := x_a.cell (i := 0) rfl
  have f_a_0_wa := x_a.frozen 0
  have c_a_1_wa := x_a.cell (i := 1) rfl
  have f_a_1_wa := x_a.frozen 1
  have c_a_2_wa := x_a.cell (i := 2) rfl
  have f_a_2_wa := x_a.frozen 2
  have c_out_0_wa := x_out.cell (i := 0) rfl
  have f_out_0_wa := x_out.frozen 0
  have c_out_1_wa := x_out.cell (i := 1) rfl
  have f_out_1_wa := x_out.frozen 1
  have c_out_2_wa := x_out.cell (i := 2) rfl
  have f_out_2_wa := x_out.frozen 2
  go_enter Try.func73, Try.ntmps73
  have c_r_0_wa := x_r.cell (i := 0) rfl
  have f_r_0_wa := x_r.frozen 0
  have c_r_1_wa := x_r.cell (i := 1) rfl
  have f_r_1_wa := x_r.frozen 1
  have c_r_2_wa := x_r.cell (i := 2) rfl
  have f_r_2_wa := x_r.frozen 2
  obtain ⟨w1, e_w1, s_w1, h_w1, y⟩ := set_step x_out 0 (.int .i64 d.Prom)
  have s_w1_1 := Nat.le_of_eq s_w1
  have s_w1_2 := Nat.le_of_eq s_w1.symm
  clear s_w1
  replace x_a := x_a.chg h_w1 (by omega)
  replace x_r := x_r.chg h_w1 (by omega)
  have B_w1 := Below.chg_ B0 h_w1 (by omega) (by omega)
  replace x_out : Vr w1 (w.heap.size + 1 + 1) 56 [.int .i64 d.Prom, .int .i64 0, .int .i64 0] := y
  clear y
  have c_a_0_w1 := x_a.cell (i := 0) rfl
  have f_a_0_w1 := x_a.frozen 0
  have c_a_1_w1 := x_a.cell (i := 1) rfl
  have f_a_1_w1 := x_a.frozen 1
  have c_a_2_w1 := x_a.cell (i := 2) rfl
  have f_a_2_w1 := x_a.frozen 2
  have c_out_0_w1 := x_out.cell (i := 0) rfl
  have f_out_0_w1 := x_out.frozen 0
  have c_out_1_w1 := x_out.cell (i := 1) rfl
  have f_out_1_w1 := x_out.frozen 1
  have c_out_2_w1 := x_out.cell (i := 2) rfl
  have f_out_2_w1 := x_out.frozen 2
  have c_r_0_w1 := x_r.cell (i := 0) rfl
  have f_r_0_w1 := x_r.frozen 0
  have c_r_1_w1 := x_r.cell (i := 1) rfl
  have f_r_1_w1 := x_r.frozen 1
  have c_r_2_w1 := x_r.cell (i := 2) rfl
  have f_r_2_w1 := x_r.frozen 2
  obtain ⟨w2, e_w2, s_w2, h_w2, y⟩ := set_step x_out 1 (.int .i64 d.Bal)
  have s_w2_1 := Nat.le_of_eq s_w2
  have s_w2_2 := Nat.le_of_eq s_w2.symm
  clear s_w2
  replace x_a := x_a.chg h_w2 (by omega)
  replace x_r := x_r.chg h_w2 (by omega)
  have B_w2 := Below.chg_ B_w1 h_w2 (by omega) (by omega)
  replace x_out : Vr w2 (w.heap.size + 1 + 1) 56 [.int .i64 d.Prom, .int .i64 d.Bal, .int .i64 0] := y
  clear y
  have c_a_0_w2 := x_a.cell (i := 0) rfl
  have f_a_0_w2 := x_a.frozen 0
  have c_a_1_w2 := x_a.cell (i := 1) rfl
  have f_a_1_w2 := x_a.frozen 1
  have c_a_2_w2 := x_a.cell (i := 2) rfl
  have f_a_2_w2 := x_a.frozen 2
  have c_out_0_w2 := x_out.cell (i := 0) rfl
  have f_out_0_w2 := x_out.frozen 0
  have c_out_1_w2 := x_out.cell (i := 1) rfl
  have f_out_1_w2 := x_out.frozen 1
  have c_out_2_w2 := x_out.cell (i := 2) rfl
  have f_out_2_w2 := x_out.frozen 2
  have c_r_0_w2 := x_r.cell (i := 0) rfl
  have f_r_0_w2 := x_r.frozen 0
  have c_r_1_w2 := x_r.cell (i := 1) rfl
  have f_r_1_w2 := x_r.frozen 1
  have c_r_2_w2 := x_r.cell (i := 2) rfl
  have f_r_2_w2 := x_r.frozen 2
  obtain ⟨w3, e_w3, s_w3, h_w3, y⟩ := set_step x_out 2 (.int .i64 d.Val)
  have s_w3_1 := Nat.le_of_eq s_w3
  have s_w3_2 := Nat.le_of_eq s_w3.symm
  clear s_w3
  replace x_a := x_a.chg h_w3 (by omega)
  replace x_r := x_r.chg h_w3 (by omega)
  have B_w3 := Below.chg_ B_w2 h_w3 (by omega) (by omega)
  replace x_out : Vr w3 (w.heap.size + 1 + 1) 56 [.int .i64 d.Prom, .int .i64 d.Bal, .int .i64 d.Val] := y
  clear y
  have c_a_0_w3 := x_a.cell (i := 0) rfl
  have f_a_0_w3 := x_a.frozen 0
  have c_a_1_w3 := x_a.cell (i := 1) rfl
  have f_a_1_w3 := x_a.frozen 1
  have c_a_2_w3 := x_a.cell (i := 2) rfl
  have f_a_2_w3 := x_a.frozen 2
  have c_out_0_w3 := x_out.cell (i := 0) rfl
  have f_out_0_w3 := x_out.frozen 0
  have c_out_1_w3 := x_out.cell (i := 1) rfl
  have f_out_1_w3 := x_out.frozen 1
  have c_out_2_w3 := x_out.cell (i := 2) rfl
  have f_out_2_w3 := x_out.frozen 2
  have c_r_0_w3 := x_r.cell (i := 0) rfl
  have f_r_0_w3 := x_r.frozen 0
  have c_r_1_w3 := x_r.cell (i := 1) rfl
  have f_r_1_w3 := x_r.frozen 1
  have c_r_2_w3 := x_r.cell (i := 2) rfl
  have f_r_2_w3 := x_r.frozen 2
  obtain ⟨w4, e_w4, s_w4, h_w4, y⟩ := store_step x_r [.int .i64 d.Prom, .int .i64 d.Bal, .int .i64 d.Val] rfl
  replace e_w4 : (((w3.setCell ⟨w.heap.size + 1, 0, none⟩ (.int .i64 d.Prom)).setCell ⟨w.heap.size + 1, 1, none⟩ (.int .i64 d.Bal)).setCell ⟨w.heap.size + 1, 2, none⟩ (.int .i64 d.Val)) = w4 := e_w4
  have s_w4_1 := Nat.le_of_eq s_w4
  have s_w4_2 := Nat.le_of_eq s_w4.symm
  clear s_w4
  replace x_a := x_a.chg h_w4 (by omega)
  replace x_out := x_out.chg h_w4 (by omega)
  have B_w4 := Below.chg_ B_w3 h_w4 (by omega) (by omega)
  replace x_r : Vr w4 (w.heap.size + 1) 56 [.int .i64 d.Prom, .int .i64 d.Bal, .int .i64 d.Val] := y
  clear y
  have c_r_0_w4 := x_r.cell (i := 0) rfl
  have f_r_0_w4 := x_r.frozen 0
  have c_r_1_w4 := x_r.cell (i := 1) rfl
  have f_r_1_w4 := x_r.frozen 1
  have c_r_2_w4 := x_r.cell (i := 2) rfl
  have f_r_2_w4 := x_r.frozen 2
  go_wp2
  refine ret_cell (by rfl) (by rfl) x_r Try.underlying56 sz_acc (by rfl) ?_
  exact ⟨_, rfl, ov_acc (by omega), B_w4⟩

set_option maxHeartbeats 1000000 in
theorem eqAcc_same {w : World} {v v' : Value} {d : MAcc} (h : RV accL w v d) (h' : RV accL w v' d) : Calls Try.prog 84 #[v, v'] w fun e w' => e = .returned (.bool true) ∧ Below w.heap.size w w' := by
  obtain rfl := rv_acc h
  obtain rfl := rv_acc h'
  obtain ⟨wa, hwa, B0, sa, x_a, x_b⟩ := frame2 w 56 [.int .i64 d.Prom, .int .i64 d.Bal, .int .i64 d.Val] 56 [.int .i64 d.Prom, .int .i64 d.Bal, .int .i64 d.Val]
  have sa_1 := Nat.le_of_eq sa
  have sa_2 := Nat.le_of_eq sa.symm
  clear sa
  have c_a_0_wa := x_a.cell (i := 0) rfl
  have c_a_1_wa := x_a.cell (i := 1) rfl
  have c_a_2_wa := x_a.cell (i := 2) rfl
  have c_b_0_wa := x_b.cell (i := 0) rfl
  have c_b_1_wa := x_b.cell (i := 1) rfl
  have c_b_2_wa := x_b.cell (i := 2) rfl
  go_enter Try.func84, Try.ntmps84
  go_wp2
  go_ret
  exact ⟨rfl, B0⟩

end Go.Proofs.Ytdoipabfmekdlaa
