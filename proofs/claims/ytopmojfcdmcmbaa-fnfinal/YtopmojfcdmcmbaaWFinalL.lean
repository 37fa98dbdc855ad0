/- The walk of the law FnFinal. Laid by a program of ours (src/fnfinal.py). -/
import Derived.Test.YtopmojfcdmcmbaaMakes
import Derived.Test.YtopmojfcdmcmbaaAcI
import Derived.Test.YtopmojfcdmcmbaaAc2
import Derived.IntWalk
namespace Go.Proofs.Ytopmojfcdmcmbaa
open Go.RowKit
set_option linter.unusedVariables false

theorem rdF {w w' : World} {A : Option Addr} {zs : List Int} (h : Rd .u8 w w.heap.size A zs) (hb : Below w.heap.size w w') : Rd .u8 w' w'.heap.size A zs := (h.below hb).more hb.size
def sumR : List MRep → Int
  | [] => 0
  | r :: l => r.Amt + sumR l
theorem wsum_plain : ∀ {l : List MRep} {z : Int}, (∀ y ∈ l, 0 ≤ y.Amt ∧ y.Amt ≤ 1000) → 0 ≤ z → z + 1000 * (l.length : Int) ≤ 1000000 → wsum l z = z + sumR l
  | [], z, _, _, _ => by show z = z + 0; omega
  | r :: l, z, h, h0, h1 => by
    have hr := h r (by simp)
    simp only [List.length_cons] at h1
    show wsum l (IntKind.i64.wrap (z + r.Amt)) = z + (r.Amt + sumR l)
    rw [show IntKind.i64.wrap (z + r.Amt) = z + r.Amt from IntWalk.i64_in _ (by omega), wsum_plain (fun y hy => h y (by simp [hy])) (by omega) (by omega)]
    omega
theorem insR_front {l : List MRep} {r : MRep} (h : ∀ y ∈ l, r.Node < y.Node) : insR l r = r :: l := by
  unfold insR
  cases l with
  | nil => rfl
  | cons y t =>
    have hy : decide (y.Node ≤ r.Node) = false := decide_eq_false (by have := h y (by simp); omega)
    simp [hy]
theorem has_front {l : List MRep} {i : Int} (h : ∀ y ∈ l, i < y.Node) : hasRep l i = false := by
  unfold hasRep
  rw [List.any_eq_false]
  intro y hy
  have := h y hy
  simp; omega
theorem fl_rep {l : List MRep} {n i q : Int} (h : ∀ y ∈ l, i < y.Node) (hi : 0 ≤ i ∧ i ≤ 3) (hq : 0 ≤ q ∧ q ≤ 1000) : acctRepB ⟨0, 1, 1, [], l⟩ i q = true ∧ acctRep ⟨0, 1, 1, [], l⟩ i q n = ⟨0, stateOf ((l.length : Int) + 1) n, 1, [], ⟨i, q⟩ :: l⟩ := by
  have e : acctRepB ⟨0, 1, 1, [], l⟩ i q = true := by
    unfold acctRepB
    rw [inB_true.2 hi, numB_true.2 (show 0 ≤ q ∧ q ≤ 1125899906842624 by omega), show hasRep (⟨0, 1, 1, [], l⟩ : MAcct).Reps i = false from has_front h]
    rfl
  refine ⟨e, ?_⟩
  unfold acctRep
  rw [if_pos e, show insR (⟨0, 1, 1, [], l⟩ : MAcct).Reps ⟨i, q⟩ = ⟨i, q⟩ :: l from insR_front h]
  simp only [List.length_cons, stateOf]
  rw [show ((l.length + 1 : Nat) : Int) = (l.length : Int) + 1 by omega]
theorem fl_twice {l : List MRep} {n i q s : Int} : acctRepB ⟨0, s, 1, [], ⟨i, q⟩ :: l⟩ i q = false ∧ acctRep ⟨0, s, 1, [], ⟨i, q⟩ :: l⟩ i q n = acctZ := by
  have e : acctRepB ⟨0, s, 1, [], ⟨i, q⟩ :: l⟩ i q = false := by
    unfold acctRepB
    rw [show hasRep (⟨0, s, 1, [], ⟨i, q⟩ :: l⟩ : MAcct).Reps i = true by simp [hasRep]]
    simp
  exact ⟨e, if_neg (by rw [e]; decide)⟩
/-- what the loop has made of the account, down to node i + 1 -/
def FinSt (n i : Int) (a : MAcct) (S : Int) : Prop := ∃ l : List MRep, a = ⟨0, stateOf (l.length : Int) n, 1, [], l⟩ ∧ (l.length : Int) = n - 1 - i ∧ (∀ y ∈ l, i < y.Node) ∧ (∀ y ∈ l, 0 ≤ y.Amt ∧ y.Amt ≤ 1000) ∧ S = sumR l
theorem fin_zero {n : Int} (hn : 2 ≤ n) : FinSt n (n - 1) ⟨0, 1, 1, [], []⟩ 0 := ⟨[], by show _ = (⟨0, stateOf (0 : Int) n, 1, [], []⟩ : MAcct); rw [show stateOf 0 n = 1 from if_neg (by omega)], by simp, fun y hy => (by cases hy), fun y hy => (by cases hy), rfl⟩
theorem fin_bulk {n i : Int} {a : MAcct} {S : Int} (h : FinSt n i a S) (hi : -1 ≤ i ∧ n ≤ 4) : a.bulk ≤ 16777216 := by
  obtain ⟨l, rfl, hl, -⟩ := h
  simp only [MAcct.bulk, List.length_nil]; omega
theorem fin_step {n i q : Int} {a : MAcct} {S : Int} (h : FinSt n i a S) (hi : 0 ≤ i ∧ i < n ∧ n ≤ 4) (hq : 0 ≤ q ∧ q ≤ 1000) :
    finalB a = false ∧ acctRepB a i q = true ∧ FinSt n (i - 1) (acctRep a i q n) (S + q) ∧ acctRepB (acctRep a i q n) i q = false ∧ acctRep (acctRep a i q n) i q n = acctZ := by
  obtain ⟨l, rfl, hl, hn, ha, rfl⟩ := h
  have e0 : stateOf (l.length : Int) n = 1 := if_neg (by omega)
  rw [e0]
  obtain ⟨h1, h2⟩ := fl_rep (n := n) hn (show 0 ≤ i ∧ i ≤ 3 by omega) hq
  rw [h2]
  refine ⟨rfl, h1, ⟨⟨i, q⟩ :: l, ?_, by simp only [List.length_cons]; omega, fun y hy => ?_, fun y hy => ?_, by show _ = q + sumR l; omega⟩, fl_twice⟩
  · rw [show ((List.length (⟨i, q⟩ :: l : List MRep) : Nat) : Int) = (l.length : Int) + 1 by simp]
  · rcases List.mem_cons.1 hy with rfl | hy
    · show i - 1 < i; omega
    · have := hn y hy; omega
  · rcases List.mem_cons.1 hy with rfl | hy
    · exact hq
    · exact ha y hy
theorem fin_end {n : Int} {a : MAcct} {S : Int} (h : FinSt n (-1) a S) (hn : n ≤ 4) : finalB a = true ∧ finalOf a = S ∧ a.State = 2 := by
  obtain ⟨l, rfl, hl, -, ha, rfl⟩ := h
  have e0 : stateOf (l.length : Int) n = 2 := if_pos (by omega)
  rw [e0]
  exact ⟨rfl, by show wsum l 0 = _; rw [wsum_plain ha (by omega) (by omega)]; omega, rfl⟩
theorem asName2 : asName 2 = ⟨#[100, 111, 110, 101]⟩ := rfl

set_option maxRecDepth 100000 in
set_option maxHeartbeats 8000000 in
theorem wFinalL (v : Value) (zs : List Int) (w : World) (r : RS .u8 w v zs) (hb : Bytes zs) :
    Calls Try.prog 3 #[v] w fun e w' => e = .returned (.bool true) ∧ Below w.heap.size w w' := by
  obtain ⟨A, c, rfl, p1, p2, hr⟩ := r
  unfold maxLen at p2
  by_cases hbig : 1048576 < zs.length
  case pos =>
    have i0 : (1048576 : Int) < (zs.length : Int) := by omega
    go_enter Try.func3, Try.ntmps3
    go_wp2
    go_ret
    exact ⟨rfl, Below.refl _ _⟩
  have hm : zs.length ≤ 1048576 := by omega
  have B0 : Below w.heap.size w w := Below.refl _ _
  go_enter Try.func3, Try.ntmps3
  go_wp2_with fail
  refine (makeNum_any A c zs 3 _ (rdF hr B0) hb hm (by omega) (by omega)).mono ?_
  rintro e w1 ⟨x0, rfl, hx1, hx2, h_w1⟩
  have B_w1 := B0.trans (h_w1.mono B0.size)
  have s_w1 := h_w1.size
  obtain ⟨n, hn⟩ : ∃ n, 2 + x0 = n := ⟨_, rfl⟩
  have bn : 2 ≤ n ∧ n ≤ 4 := by omega
  have tn : IntKind.i64.wrap (2 + x0) = n := by rw [hn]; exact IntWalk.i64_in _ (by omega)
  have tn1 : IntKind.i64.wrap (n - 1) = n - 1 := IntWalk.i64_in _ (by omega)
  go_wp2_with fail
  refine (iAcctNew_c).mono ?_
  rintro e w2 ⟨u0, rfl, o0, h_w2⟩
  have B_w2 := B_w1.trans (h_w2.mono B_w1.size)
  have s_w2 := h_w2.size
  obtain ⟨a, ha⟩ : ∃ q : MAcct, q = ⟨0, 1, 1, [], []⟩ := ⟨_, rfl⟩
  have L1 : Hid (acctShutB acctZ 1 = true) := rfl
  have L2 : Hid (acctShut acctZ 1 = a) := ha.symm
  have HA : Hid (FinSt n (n - 1) a 0) := by show FinSt _ _ _ _; rw [ha]; exact fin_zero bn.1
  clear ha
  go_wp2_with fail
  refine (iAcctShut_c (x := 1) o0.rd (by decide)).mono ?_
  rintro e w3 ⟨ua, rfl, oa, h_w3⟩
  replace o0 := o0.below h_w3
  have B_w3 := B_w2.trans (h_w3.mono B_w2.size)
  have s_w3 := h_w3.size
  rw [L1.out]
  rw [L2.out] at oa
  obtain ⟨Ma, ma, Ra, ra, rfl, -, -⟩ := ov_acct_parts oa
  clear o0 L1 L2
  obtain ⟨w4, e_w4, s_w4, h_w4, x_a⟩ := alloc_step w3 27 [.int .i64 a.Have, .int .i64 a.State, .int .i64 a.By, .slice Ma a.Marks.length ma, .slice Ra a.Reps.length ra]
  have s_w4_1 := Nat.le_of_eq s_w4
  have s_w4_2 := Nat.le_of_eq s_w4.symm
  clear s_w4
  replace oa := oa.below h_w4
  have B_w4 := B_w3.trans (h_w4.mono B_w3.size)
  have c_a_0_w4 := x_a.cell (i := 0) rfl
  have f_a_0_w4 := x_a.frozen 0
  have c_a_1_w4 := x_a.cell (i := 1) rfl
  have f_a_1_w4 := x_a.frozen 1
  have c_a_2_w4 := x_a.cell (i := 2) rfl
  have f_a_2_w4 := x_a.frozen 2
  have c_a_3_w4 := x_a.cell (i := 3) rfl
  have f_a_3_w4 := x_a.frozen 3
  have c_a_4_w4 := x_a.cell (i := 4) rfl
  have f_a_4_w4 := x_a.frozen 4
  go_wp2
  go_loopw [6, 7] (fun s6 s7 wr => ∃ (i S : Int) (a : MAcct) (Ma Ra : Option Addr) (ma ra lo hi : Nat), s7 = .int .i64 i ∧ s6 = .int .i64 S ∧ (-1 ≤ i ∧ i < n) ∧ (0 ≤ S ∧ S ≤ 1000 * (n - 1 - i)) ∧ Hid (FinSt n i a S) ∧ (hi ≤ w3.heap.size ∨ w3.heap.size + 1 ≤ lo) ∧ Vr wr (w3.heap.size) 27 [.int .i64 a.Have, .int .i64 a.State, .int .i64 a.By, .slice Ma a.Marks.length ma, .slice Ra a.Reps.length ra] ∧ OV acctL wr lo hi (.agg #[.int .i64 a.Have, .int .i64 a.State, .int .i64 a.By, .slice Ma a.Marks.length ma, .slice Ra a.Reps.length ra]) a ∧ Below w.heap.size w wr) (fun _ s7 _ => (intOf s7 + 1).toNat)
  case atStart => exact ⟨n - 1, 0, a, _, _, _, _, _, _, rfl, rfl, by omega, by omega, HA, .inl (Nat.le_refl _), x_a, oa, B_w4⟩
  case round =>
    clear c_a_0_w4 f_a_0_w4 c_a_1_w4 f_a_1_w4 c_a_2_w4 f_a_2_w4 c_a_3_w4 f_a_3_w4 c_a_4_w4 f_a_4_w4
    clear x_a oa HA
    obtain ⟨i, S, a, Ma, Ra, ma, ra, lo, hi, rfl, rfl, bi, bS, HA, hD, x_a, oa, HB⟩ := hrel
    have hs := HB.size
    have la := x_a.lt
    have c_a_0_wr := x_a.cell (i := 0) rfl
    have f_a_0_wr := x_a.frozen 0
    have c_a_1_wr := x_a.cell (i := 1) rfl
    have f_a_1_wr := x_a.frozen 1
    have c_a_2_wr := x_a.cell (i := 2) rfl
    have f_a_2_wr := x_a.frozen 2
    have c_a_3_wr := x_a.cell (i := 3) rfl
    have f_a_3_wr := x_a.frozen 3
    have c_a_4_wr := x_a.cell (i := 4) rfl
    have f_a_4_wr := x_a.frozen 4
    have ba : a.bulk ≤ 16777216 := fin_bulk HA.out (by omega)
    by_cases hi0 : 0 ≤ i
    case neg =>
      have gi : decide (0 ≤ i) = false := decide_eq_false hi0
      obtain rfl : i = -1 := by omega
      have E := fin_end HA.out (by omega)
      have E1 := Lib.hid E.1
      have E2 := Lib.hid E.2.1
      have E3 := Lib.hid E.2.2
      clear E hi0
      go_wp2_with fail
      refine (iFinalOf_c oa.rd).mono ?_
      rintro e w21 ⟨rfl, h_w21⟩
      clear c_a_0_wr f_a_0_wr c_a_1_wr f_a_1_wr c_a_2_wr f_a_2_wr c_a_3_wr f_a_3_wr c_a_4_wr f_a_4_wr
      replace x_a := x_a.from_ h_w21
      replace oa := oa.below h_w21
      have B_w21 := HB.trans (h_w21.mono HB.size)
      have s_w21 := h_w21.size
      rw [E1.out, E2.out]
      have c_a_0_w21 := x_a.cell (i := 0) rfl
      have f_a_0_w21 := x_a.frozen 0
      have c_a_1_w21 := x_a.cell (i := 1) rfl
      have f_a_1_w21 := x_a.frozen 1
      have c_a_2_w21 := x_a.cell (i := 2) rfl
      have f_a_2_w21 := x_a.frozen 2
      have c_a_3_w21 := x_a.cell (i := 3) rfl
      have f_a_3_w21 := x_a.frozen 3
      have c_a_4_w21 := x_a.cell (i := 4) rfl
      have f_a_4_w21 := x_a.frozen 4
      have gS : (a.State == 2) = true := by rw [E3.out]; rfl
      go_wp2_with fail
      refine (iAsName_c a.State _).mono ?_
      rintro e w22 ⟨rfl, h_w22⟩
      clear c_a_0_w21 f_a_0_w21 c_a_1_w21 f_a_1_w21 c_a_2_w21 f_a_2_w21 c_a_3_w21 f_a_3_w21 c_a_4_w21 f_a_4_w21
      replace x_a := x_a.from_ h_w22
      replace oa := oa.below h_w22
      have B_w22 := B_w21.trans (h_w22.mono B_w21.size)
      have s_w22 := h_w22.size
      rw [E3.out, asName2]
      have c_a_0_w22 := x_a.cell (i := 0) rfl
      have f_a_0_w22 := x_a.frozen 0
      have c_a_1_w22 := x_a.cell (i := 1) rfl
      have f_a_1_w22 := x_a.frozen 1
      have c_a_2_w22 := x_a.cell (i := 2) rfl
      have f_a_2_w22 := x_a.frozen 2
      have c_a_3_w22 := x_a.cell (i := 3) rfl
      have f_a_3_w22 := x_a.frozen 3
      have c_a_4_w22 := x_a.cell (i := 4) rfl
      have f_a_4_w22 := x_a.frozen 4
      go_wp2
      go_ret
      exact ⟨rfl, B_w22⟩
    have gi : decide (0 ≤ i) = true := decide_eq_true hi0
    go_wp2_with fail
    refine (makeNum_any A c zs 100 _ (rdF hr HB) hb hm (by omega) (by omega)).mono ?_
    rintro e w21 ⟨x1, rfl, hy1, hy2, h_w21⟩
    clear c_a_0_wr f_a_0_wr c_a_1_wr f_a_1_wr c_a_2_wr f_a_2_wr c_a_3_wr f_a_3_wr c_a_4_wr f_a_4_wr
    replace x_a := x_a.from_ h_w21
    replace oa := oa.below h_w21
    have B_w21 := HB.trans (h_w21.mono HB.size)
    have s_w21 := h_w21.size
    have c_a_0_w21 := x_a.cell (i := 0) rfl
    have f_a_0_w21 := x_a.frozen 0
    have c_a_1_w21 := x_a.cell (i := 1) rfl
    have f_a_1_w21 := x_a.frozen 1
    have c_a_2_w21 := x_a.cell (i := 2) rfl
    have f_a_2_w21 := x_a.frozen 2
    have c_a_3_w21 := x_a.cell (i := 3) rfl
    have f_a_3_w21 := x_a.frozen 3
    have c_a_4_w21 := x_a.cell (i := 4) rfl
    have f_a_4_w21 := x_a.frozen 4
    obtain ⟨q, hq⟩ : ∃ q, x1 + i = q := ⟨_, rfl⟩
    have bq : 0 ≤ q ∧ q ≤ 1000 := by omega
    have tq : IntKind.i64.wrap (x1 + i) = q := by rw [hq]; exact IntWalk.i64_in _ (by omega)
    have E := fin_step HA.out (show 0 ≤ i ∧ i < n ∧ n ≤ 4 by omega) bq
    obtain ⟨b, hbb⟩ : ∃ b, acctRep a i q n = b := ⟨_, rfl⟩
    rw [hbb] at E
    have HBb := Lib.hid hbb
    have E1 := Lib.hid E.1
    have E2 := Lib.hid E.2.1
    have E3 : Hid (FinSt n (i - 1) b (S + q)) := E.2.2.1
    have E4 := Lib.hid E.2.2.2.1
    have E5 := Lib.hid E.2.2.2.2
    clear E hbb
    have ti : IntKind.i64.wrap (i - 1) = i - 1 := IntWalk.i64_in _ (by omega)
    have tS : IntKind.i64.wrap (S + q) = S + q := IntWalk.i64_in _ (by omega)
    go_wp2_with fail
    refine (iFinalOf_c oa.rd).mono ?_
    rintro e w22 ⟨rfl, h_w22⟩
    clear c_a_0_w21 f_a_0_w21 c_a_1_w21 f_a_1_w21 c_a_2_w21 f_a_2_w21 c_a_3_w21 f_a_3_w21 c_a_4_w21 f_a_4_w21
    replace x_a := x_a.from_ h_w22
    replace oa := oa.below h_w22
    have B_w22 := B_w21.trans (h_w22.mono B_w21.size)
    have s_w22 := h_w22.size
    rw [E1.out]
    have c_a_0_w22 := x_a.cell (i := 0) rfl
    have f_a_0_w22 := x_a.frozen 0
    have c_a_1_w22 := x_a.cell (i := 1) rfl
    have f_a_1_w22 := x_a.frozen 1
    have c_a_2_w22 := x_a.cell (i := 2) rfl
    have f_a_2_w22 := x_a.frozen 2
    have c_a_3_w22 := x_a.cell (i := 3) rfl
    have f_a_3_w22 := x_a.frozen 3
    have c_a_4_w22 := x_a.cell (i := 4) rfl
    have f_a_4_w22 := x_a.frozen 4
    go_wp2_with fail
    refine (iAcctRep_c (d := i) (x := q) (n := n) oa.rd ba).mono ?_
    rintro e w23 ⟨ub, rfl, ob, h_w23⟩
    clear c_a_0_w22 f_a_0_w22 c_a_1_w22 f_a_1_w22 c_a_2_w22 f_a_2_w22 c_a_3_w22 f_a_3_w22 c_a_4_w22 f_a_4_w22
    replace x_a := x_a.from_ h_w23
    replace oa := oa.below h_w23
    have B_w23 := B_w22.trans (h_w23.mono B_w22.size)
    have s_w23 := h_w23.size
    rw [E2.out]
    rw [HBb.out] at ob
    obtain ⟨Mb, mb, Rb, rb, rfl, -, -⟩ := ov_acct_parts ob
    have c_a_0_w23 := x_a.cell (i := 0) rfl
    have f_a_0_w23 := x_a.frozen 0
    have c_a_1_w23 := x_a.cell (i := 1) rfl
    have f_a_1_w23 := x_a.frozen 1
    have c_a_2_w23 := x_a.cell (i := 2) rfl
    have f_a_2_w23 := x_a.frozen 2
    have c_a_3_w23 := x_a.cell (i := 3) rfl
    have f_a_3_w23 := x_a.frozen 3
    have c_a_4_w23 := x_a.cell (i := 4) rfl
    have f_a_4_w23 := x_a.frozen 4
    obtain ⟨w24, e_w24, s_w24, h_w24, x_b⟩ := alloc_step w23 27 [.int .i64 b.Have, .int .i64 b.State, .int .i64 b.By, .slice Mb b.Marks.length mb, .slice Rb b.Reps.length rb]
    have s_w24_1 := Nat.le_of_eq s_w24
    have s_w24_2 := Nat.le_of_eq s_w24.symm
    clear s_w24
    replace x_a := x_a.from_ h_w24
    replace oa := oa.below h_w24
    replace ob := ob.below h_w24
    have B_w24 := B_w23.trans (h_w24.mono B_w23.size)
    have c_a_0_w24 := x_a.cell (i := 0) rfl
    have f_a_0_w24 := x_a.frozen 0
    have c_a_1_w24 := x_a.cell (i := 1) rfl
    have f_a_1_w24 := x_a.frozen 1
    have c_a_2_w24 := x_a.cell (i := 2) rfl
    have f_a_2_w24 := x_a.frozen 2
    have c_a_3_w24 := x_a.cell (i := 3) rfl
    have f_a_3_w24 := x_a.frozen 3
    have c_a_4_w24 := x_a.cell (i := 4) rfl
    have f_a_4_w24 := x_a.frozen 4
    have c_b_0_w24 := x_b.cell (i := 0) rfl
    have f_b_0_w24 := x_b.frozen 0
    have c_b_1_w24 := x_b.cell (i := 1) rfl
    have f_b_1_w24 := x_b.frozen 1
    have c_b_2_w24 := x_b.cell (i := 2) rfl
    have f_b_2_w24 := x_b.frozen 2
    have c_b_3_w24 := x_b.cell (i := 3) rfl
    have f_b_3_w24 := x_b.frozen 3
    have c_b_4_w24 := x_b.cell (i := 4) rfl
    have f_b_4_w24 := x_b.frozen 4
    have bb : b.bulk ≤ 16777216 := fin_bulk E3.out (by omega)
    go_wp2_with fail
    refine (iAcctRep_c (d := i) (x := q) (n := n) ob.rd bb).mono ?_
    rintro e w25 ⟨ud, rfl, od, h_w25⟩
    clear c_a_0_w23 f_a_0_w23 c_a_1_w23 f_a_1_w23 c_a_2_w23 f_a_2_w23 c_a_3_w23 f_a_3_w23 c_a_4_w23 f_a_4_w23 c_a_0_w24 f_a_0_w24 c_a_1_w24 f_a_1_w24 c_a_2_w24 f_a_2_w24 c_a_3_w24 f_a_3_w24 c_a_4_w24 f_a_4_w24 c_b_0_w24 f_b_0_w24 c_b_1_w24 f_b_1_w24 c_b_2_w24 f_b_2_w24 c_b_3_w24 f_b_3_w24 c_b_4_w24 f_b_4_w24
    replace x_a := x_a.from_ h_w25
    replace x_b := x_b.from_ h_w25
    replace oa := oa.below h_w25
    replace ob := ob.below h_w25
    have B_w25 := B_w24.trans (h_w25.mono B_w24.size)
    have s_w25 := h_w25.size
    rw [E4.out]
    rw [E5.out] at od
    obtain ⟨z, hz⟩ : ∃ z, acctZ = z := ⟨_, rfl⟩
    rw [hz] at od
    have HZ := Lib.hid hz
    clear hz
    obtain ⟨Mz, mz, Rz, rz, rfl, -, -⟩ := ov_acct_parts od
    clear od
    have c_a_0_w25 := x_a.cell (i := 0) rfl
    have f_a_0_w25 := x_a.frozen 0
    have c_a_1_w25 := x_a.cell (i := 1) rfl
    have f_a_1_w25 := x_a.frozen 1
    have c_a_2_w25 := x_a.cell (i := 2) rfl
    have f_a_2_w25 := x_a.frozen 2
    have c_a_3_w25 := x_a.cell (i := 3) rfl
    have f_a_3_w25 := x_a.frozen 3
    have c_a_4_w25 := x_a.cell (i := 4) rfl
    have f_a_4_w25 := x_a.frozen 4
    have c_b_0_w25 := x_b.cell (i := 0) rfl
    have f_b_0_w25 := x_b.frozen 0
    have c_b_1_w25 := x_b.cell (i := 1) rfl
    have f_b_1_w25 := x_b.frozen 1
    have c_b_2_w25 := x_b.cell (i := 2) rfl
    have f_b_2_w25 := x_b.frozen 2
    have c_b_3_w25 := x_b.cell (i := 3) rfl
    have f_b_3_w25 := x_b.frozen 3
    have c_b_4_w25 := x_b.cell (i := 4) rfl
    have f_b_4_w25 := x_b.frozen 4
    obtain ⟨w26, e_w26, s_w26, h_w26, x_z⟩ := alloc_step w25 27 [.int .i64 z.Have, .int .i64 z.State, .int .i64 z.By, .slice Mz z.Marks.length mz, .slice Rz z.Reps.length rz]
    have s_w26_1 := Nat.le_of_eq s_w26
    have s_w26_2 := Nat.le_of_eq s_w26.symm
    clear s_w26
    replace x_a := x_a.from_ h_w26
    replace x_b := x_b.from_ h_w26
    replace oa := oa.below h_w26
    replace ob := ob.below h_w26
    have B_w26 := B_w25.trans (h_w26.mono B_w25.size)
    have c_a_0_w26 := x_a.cell (i := 0) rfl
    have f_a_0_w26 := x_a.frozen 0
    have c_a_1_w26 := x_a.cell (i := 1) rfl
    have f_a_1_w26 := x_a.frozen 1
    have c_a_2_w26 := x_a.cell (i := 2) rfl
    have f_a_2_w26 := x_a.frozen 2
    have c_a_3_w26 := x_a.cell (i := 3) rfl
    have f_a_3_w26 := x_a.frozen 3
    have c_a_4_w26 := x_a.cell (i := 4) rfl
    have f_a_4_w26 := x_a.frozen 4
    have c_b_0_w26 := x_b.cell (i := 0) rfl
    have f_b_0_w26 := x_b.frozen 0
    have c_b_1_w26 := x_b.cell (i := 1) rfl
    have f_b_1_w26 := x_b.frozen 1
    have c_b_2_w26 := x_b.cell (i := 2) rfl
    have f_b_2_w26 := x_b.frozen 2
    have c_b_3_w26 := x_b.cell (i := 3) rfl
    have f_b_3_w26 := x_b.frozen 3
    have c_b_4_w26 := x_b.cell (i := 4) rfl
    have f_b_4_w26 := x_b.frozen 4
    clear x_z
    clear oa
    obtain ⟨w27, e_w27, s_w27, h_w27, y⟩ := store_step x_a [.int .i64 b.Have, .int .i64 b.State, .int .i64 b.By, .slice Mb b.Marks.length mb, .slice Rb b.Reps.length rb] rfl
    replace e_w27 : (((((w26.setCell ⟨w3.heap.size, 0, none⟩ (.int .i64 b.Have)).setCell ⟨w3.heap.size, 1, none⟩ (.int .i64 b.State)).setCell ⟨w3.heap.size, 2, none⟩ (.int .i64 b.By)).setCell ⟨w3.heap.size, 3, none⟩ (.slice Mb b.Marks.length mb)).setCell ⟨w3.heap.size, 4, none⟩ (.slice Rb b.Reps.length rb)) = w27 := e_w27
    have s_w27_1 := Nat.le_of_eq s_w27
    have s_w27_2 := Nat.le_of_eq s_w27.symm
    clear s_w27
    replace x_b := x_b.chg h_w27 (by omega)
    replace ob := ob.chg h_w27 (by omega)
    have B_w27 := Below.chg_ B_w26 h_w27 (by omega) (by omega)
    replace x_a : Vr w27 (w3.heap.size) 27 [.int .i64 b.Have, .int .i64 b.State, .int .i64 b.By, .slice Mb b.Marks.length mb, .slice Rb b.Reps.length rb] := y
    clear y
    have c_a_0_w27 := x_a.cell (i := 0) rfl
    have f_a_0_w27 := x_a.frozen 0
    have c_a_1_w27 := x_a.cell (i := 1) rfl
    have f_a_1_w27 := x_a.frozen 1
    have c_a_2_w27 := x_a.cell (i := 2) rfl
    have f_a_2_w27 := x_a.frozen 2
    have c_a_3_w27 := x_a.cell (i := 3) rfl
    have f_a_3_w27 := x_a.frozen 3
    have c_a_4_w27 := x_a.cell (i := 4) rfl
    have f_a_4_w27 := x_a.frozen 4
    have c_b_0_w27 := x_b.cell (i := 0) rfl
    have f_b_0_w27 := x_b.frozen 0
    have c_b_1_w27 := x_b.cell (i := 1) rfl
    have f_b_1_w27 := x_b.frozen 1
    have c_b_2_w27 := x_b.cell (i := 2) rfl
    have f_b_2_w27 := x_b.frozen 2
    have c_b_3_w27 := x_b.cell (i := 3) rfl
    have f_b_3_w27 := x_b.frozen 3
    have c_b_4_w27 := x_b.cell (i := 4) rfl
    have f_b_4_w27 := x_b.frozen 4
    go_wp2
    go_roundw
    case rel => exact ⟨i - 1, S + q, b, _, _, _, _, _, _, rfl, rfl, by omega, by omega, E3, .inr (by omega), x_a, ob, B_w27⟩
    case measure => simp [intOf]; omega

end Go.Proofs.Ytopmojfcdmcmbaa
