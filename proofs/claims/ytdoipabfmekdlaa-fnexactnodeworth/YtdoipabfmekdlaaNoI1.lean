/- A node: the contracts of impl's placeOk, sumsOk, acctsOk, linksOk and NodeOk. Laid by a program of ours (src/noi1.py). -/
import Derived.Test.YtdoipabfmekdlaaBunN
import Derived.Test.YtdoipabfmekdlaaBunX
import Derived.Test.YtdoipabfmekdlaaBunV
import Derived.Test.YtdoipabfmekdlaaNoQ
namespace Go.Proofs.Ytdoipabfmekdlaa
open Go.RowKit
set_option linter.unusedVariables false
set_option linter.unusedSimpArgs false

def placeB (d : MNode) : Bool := inB d.N 1 4 && inB d.Id 0 (d.N - 1)
def acctsB (d : MNode) : Bool := inB (d.Accts.length : Int) 1 3 && (decide (d.Accs.length = d.Accts.length) && ndAccts d)
def linksB (d : MNode) : Bool := decide ((d.Outs.length : Int) = d.N) && (decide ((d.Ins.length : Int) = d.N) && (ndOuts d && ndLast d))
def sumsB (d : MNode) : Bool := numB d.Stray && (numB d.Came && numB d.Went)
theorem nodeOk_split (d : MNode) : nodeOkB d = (placeB d && (acctsB d && (linksB d && sumsB d))) := by
  unfold nodeOkB ndHead placeB acctsB linksB sumsB
  ac_rfl
theorem same_of {P : Program} {f : FuncId} {args : Array Value} {v : Value} {W : World} (h : Calls P f args W fun e w' => e = .returned v ∧ W = w') : Calls P f args W fun e w' => e = .returned v ∧ w' = W := h.mono (by rintro e w' ⟨rfl, rfl⟩; exact ⟨rfl, rfl⟩)

theorem iAcctCount_any (n : Int) (w : World) : Calls Try.prog 50 #[.int .i64 n] w fun e w' => e = .returned (.bool (inB n 1 3)) ∧ w = w' := by
  by_cases h0 : 1 ≤ n
  · by_cases h1 : n ≤ 3
    · rw [inB_true.2 ⟨h0, h1⟩]
      have i0 : decide (1 ≤ n) = true := decide_eq_true h0
      have i1 : decide (n ≤ 3) = true := decide_eq_true h1
      go_enter Try.func50, Try.ntmps50
      go_wp2
      go_ret
      exact ⟨rfl, rfl⟩
    · rw [inB_false.2 (by omega)]
      have i0 : decide (1 ≤ n) = true := decide_eq_true h0
      have i1 : decide (n ≤ 3) = false := decide_eq_false h1
      go_enter Try.func50, Try.ntmps50
      go_wp2
      go_ret
      exact ⟨rfl, rfl⟩
  · rw [inB_false.2 (by omega)]
    have i1 : decide (1 ≤ n) = false := decide_eq_false h0
    go_enter Try.func50, Try.ntmps50
    go_wp2
    go_ret
    exact ⟨rfl, rfl⟩

set_option maxRecDepth 100000 in
set_option maxHeartbeats 4000000 in
theorem iPlace_c {w : World} {b : Nat} {d : MNode} {vA vO vI vC : Value} (x_a : Vr w b 34 [.int .i64 d.Id, .int .i64 d.N, vA, vO, vI, vC, .int .i64 d.Stray, .int .i64 d.Came, .int .i64 d.Went]) : Calls Try.prog 41 #[.pointer (some ⟨b, 0, none⟩)] w fun e w' => e = .returned (.bool (placeB d)) ∧ Below w.heap.size w w' := by
  have B0 : Below w.heap.size w w := Below.refl _ _
  have c_a_0_w := x_a.cell (i := 0) rfl
  have c_a_1_w := x_a.cell (i := 1) rfl
  have c_a_2_w := x_a.cell (i := 2) rfl
  have c_a_3_w := x_a.cell (i := 3) rfl
  have c_a_4_w := x_a.cell (i := 4) rfl
  have c_a_5_w := x_a.cell (i := 5) rfl
  have c_a_6_w := x_a.cell (i := 6) rfl
  have c_a_7_w := x_a.cell (i := 7) rfl
  have c_a_8_w := x_a.cell (i := 8) rfl
  have lb := x_a.lt
  obtain ⟨z, hz⟩ : ∃ z, inB d.Id 0 (d.N - 1) = z := ⟨_, rfl⟩
  by_cases hN : inB d.N 1 4 = true
  case neg =>
    replace hN : inB d.N 1 4 = false := by simpa using hN
    have HN := Lib.hid hN
    have HZ := Lib.hid hz
    have HO : Hid (placeB d = false) := by show _ = _; unfold placeB; rw [hN]; rfl
    clear hN hz
    have k0 : ∀ W, Calls Try.prog 74 #[.int .i64 d.N] W fun e w' => e = .returned (.bool false) ∧ w' = W := fun W => (iNodeCount_any _ W).mono (by rintro e w' ⟨rfl, rfl⟩; exact ⟨by rw [HN.out], rfl⟩)
    have k1 : ∀ W, Calls Try.prog 75 #[.int .i64 d.Id, .int .i64 d.N] W fun e w' => e = .returned (.bool z) ∧ w' = W := fun W => (iNodeOf_any _ _ W).mono (by rintro e w' ⟨rfl, rfl⟩; exact ⟨by rw [HZ.out], rfl⟩)
    go_enter Try.func41, Try.ntmps41
    go_wp2_with fail
    go_quiet (first | (go_at_call 74; exact Calls.quiet_of_same (k0 _)) | (go_at_call 75; exact Calls.quiet_of_same (k1 _)))
    have B9 := B0.trans (below_of_drew _ _ nq)
    go_wp2
    go_ret
    exact ⟨ret_eq (by rw [HO.out]; rfl), B9⟩
  case pos =>
    have HN := Lib.hid hN
    have HZ := Lib.hid hz
    have HO : Hid (placeB d = z) := by show _ = _; unfold placeB; rw [hN, hz]; rfl
    clear hN hz
    have k0 : ∀ W, Calls Try.prog 74 #[.int .i64 d.N] W fun e w' => e = .returned (.bool true) ∧ w' = W := fun W => (iNodeCount_any _ W).mono (by rintro e w' ⟨rfl, rfl⟩; exact ⟨by rw [HN.out], rfl⟩)
    have k1 : ∀ W, Calls Try.prog 75 #[.int .i64 d.Id, .int .i64 d.N] W fun e w' => e = .returned (.bool z) ∧ w' = W := fun W => (iNodeOf_any _ _ W).mono (by rintro e w' ⟨rfl, rfl⟩; exact ⟨by rw [HZ.out], rfl⟩)
    go_enter Try.func41, Try.ntmps41
    go_wp2_with fail
    go_quiet (first | (go_at_call 74; exact Calls.quiet_of_same (k0 _)) | (go_at_call 75; exact Calls.quiet_of_same (k1 _)))
    have B9 := B0.trans (below_of_drew _ _ nq)
    go_wp2
    go_ret
    exact ⟨ret_eq (by rw [HO.out]; rfl), B9⟩

set_option maxRecDepth 100000 in
set_option maxHeartbeats 4000000 in
theorem iSums_c {w : World} {b : Nat} {d : MNode} {vA vO vI vC : Value} (x_a : Vr w b 34 [.int .i64 d.Id, .int .i64 d.N, vA, vO, vI, vC, .int .i64 d.Stray, .int .i64 d.Came, .int .i64 d.Went]) : Calls Try.prog 44 #[.pointer (some ⟨b, 0, none⟩)] w fun e w' => e = .returned (.bool (sumsB d)) ∧ Below w.heap.size w w' := by
  have B0 : Below w.heap.size w w := Below.refl _ _
  have c_a_0_w := x_a.cell (i := 0) rfl
  have c_a_1_w := x_a.cell (i := 1) rfl
  have c_a_2_w := x_a.cell (i := 2) rfl
  have c_a_3_w := x_a.cell (i := 3) rfl
  have c_a_4_w := x_a.cell (i := 4) rfl
  have c_a_5_w := x_a.cell (i := 5) rfl
  have c_a_6_w := x_a.cell (i := 6) rfl
  have c_a_7_w := x_a.cell (i := 7) rfl
  have c_a_8_w := x_a.cell (i := 8) rfl
  have lb := x_a.lt
  obtain ⟨z, hz⟩ : ∃ z, numB d.Went = z := ⟨_, rfl⟩
  have HZ := Lib.hid hz
  by_cases hS : numB d.Stray = true
  case neg =>
    replace hS : numB d.Stray = false := by simpa using hS
    have HS := Lib.hid hS
    have HO : Hid (sumsB d = false) := by show _ = _; unfold sumsB; rw [hS]; rfl
    clear hS hz
    go_enter Try.func44, Try.ntmps44
    go_wp2_with fail
    refine (iNum_any _ _).mono ?_
    rintro e w' ⟨rfl, rfl⟩
    rw [HS.out]
    go_wp2
    go_ret
    exact ⟨ret_eq (by rw [HO.out]; rfl), B0⟩
  have HS := Lib.hid hS
  by_cases hC : numB d.Came = true
  case neg =>
    replace hC : numB d.Came = false := by simpa using hC
    have HC := Lib.hid hC
    have HO : Hid (sumsB d = false) := by show _ = _; unfold sumsB; rw [hS, hC]; rfl
    clear hS hC hz
    go_enter Try.func44, Try.ntmps44
    go_wp2_with fail
    refine (iNum_any _ _).mono ?_
    rintro e w' ⟨rfl, rfl⟩
    rw [HS.out]
    go_wp2_with fail
    refine (iNum_any _ _).mono ?_
    rintro e w' ⟨rfl, rfl⟩
    rw [HC.out]
    go_wp2
    go_ret
    exact ⟨ret_eq (by rw [HO.out]; rfl), B0⟩
  have HC := Lib.hid hC
  have HO : Hid (sumsB d = z) := by show _ = _; unfold sumsB; rw [hS, hC, hz]; rfl
  clear hS hC hz
  go_enter Try.func44, Try.ntmps44
  go_wp2_with fail
  refine (iNum_any _ _).mono ?_
  rintro e w' ⟨rfl, rfl⟩
  rw [HS.out]
  go_wp2_with fail
  refine (iNum_any _ _).mono ?_
  rintro e w' ⟨rfl, rfl⟩
  rw [HC.out]
  go_wp2_with fail
  refine (iNum_any _ _).mono ?_
  rintro e w' ⟨rfl, rfl⟩
  rw [HZ.out]
  go_wp2
  go_ret
  exact ⟨ret_eq (by rw [HO.out]; rfl), B0⟩

set_option maxRecDepth 100000 in
set_option maxHeartbeats 8000000 in
theorem iAccts_c {w : World} {b : Nat} {d : MNode} {AAccts AOuts AIns AAccs : Option Addr} {cAccts cOuts cIns cAccs : Nat} (x_a : Vr w b 34 [.int .i64 d.Id, .int .i64 d.N, .slice AAccts d.Accts.length cAccts, .slice AOuts d.Outs.length cOuts, .slice AIns d.Ins.length cIns, .slice AAccs d.Accs.length cAccs, .int .i64 d.Stray, .int .i64 d.Came, .int .i64 d.Went]) (rAccts : RV acctSL w (.slice AAccts d.Accts.length cAccts) d.Accts) (rAccs : RV accSL w (.slice AAccs d.Accs.length cAccs) d.Accs) (hb : sumG MAcct.bulk d.Accts ≤ 16777216) (hq : QNode d) : Calls Try.prog 42 #[.pointer (some ⟨b, 0, none⟩)] w fun e w' => e = .returned (.bool (acctsB d)) ∧ Below w.heap.size w w' := by
  have B0 : Below w.heap.size w w := Below.refl _ _
  have c_a_0_w := x_a.cell (i := 0) rfl
  have c_a_1_w := x_a.cell (i := 1) rfl
  have c_a_2_w := x_a.cell (i := 2) rfl
  have c_a_3_w := x_a.cell (i := 3) rfl
  have c_a_4_w := x_a.cell (i := 4) rfl
  have c_a_5_w := x_a.cell (i := 5) rfl
  have c_a_6_w := x_a.cell (i := 6) rfl
  have c_a_7_w := x_a.cell (i := 7) rfl
  have c_a_8_w := x_a.cell (i := 8) rfl
  have lb := x_a.lt
  obtain ⟨A', c', he, -, -, hrA⟩ := rv_slice rAccts
  simp only [Value.slice.injEq, true_and] at he
  obtain ⟨rfl, rfl⟩ := he
  clear rAccts
  obtain ⟨A', c', he, -, -, hrC⟩ := rv_slice rAccs
  simp only [Value.slice.injEq, true_and] at he
  obtain ⟨rfl, rfl⟩ := he
  clear rAccs
  by_cases hL : inB (d.Accts.length : Int) 1 3 = true
  case neg =>
    replace hL : inB (d.Accts.length : Int) 1 3 = false := by simpa using hL
    have HL := Lib.hid hL
    have HO : Hid (acctsB d = false) := by show _ = _; unfold acctsB; rw [hL]; rfl
    clear hL
    go_enter Try.func42, Try.ntmps42
    go_wp2_with fail
    have k0 : ∀ W, Calls Try.prog 50 #[.int .i64 (d.Accts.length : Int)] W fun e w' => e = .returned (.bool false) ∧ w' = W := fun W => (iAcctCount_any _ W).mono (by rintro e w' ⟨rfl, rfl⟩; exact ⟨by rw [HL.out], rfl⟩)
    go_quiet (first | (go_at_call 50; exact Calls.quiet_of_same (k0 _)))
    have B9 := B0.trans (below_of_drew _ _ nq)
    go_wp2
    go_ret
    exact ⟨ret_eq (by rw [HO.out]; rfl), B9⟩
  have HL := Lib.hid hL
  have bl := inB_true.1 hL
  by_cases hC : d.Accs.length = d.Accts.length
  case neg =>
    have HO : Hid (acctsB d = false) := by show _ = _; unfold acctsB; rw [hL, decide_eq_false hC]; rfl
    have gC : ((d.Accs.length : Int) != (d.Accts.length : Int)) = true := by rw [bne_iff_ne]; omega
    clear hC hL
    go_enter Try.func42, Try.ntmps42
    go_wp2_with fail
    have k0 : ∀ W, Calls Try.prog 50 #[.int .i64 (d.Accts.length : Int)] W fun e w' => e = .returned (.bool true) ∧ w' = W := fun W => (iAcctCount_any _ W).mono (by rintro e w' ⟨rfl, rfl⟩; exact ⟨by rw [HL.out], rfl⟩)
    go_quiet (first | (go_at_call 50; exact Calls.quiet_of_same (k0 _)))
    have B9 := B0.trans (below_of_drew _ _ nq)
    go_wp2
    go_ret
    exact ⟨ret_eq (by rw [HO.out]; rfl), B9⟩
  have gC : ((d.Accs.length : Int) != (d.Accts.length : Int)) = false := by rw [bne_eq_false_iff_eq]; omega
  have HE : Hid (acctsB d = ndAccts d) := by show _ = _; unfold acctsB; rw [hL, decide_eq_true hC]; rfl
  have lC1 : d.Accs.length ≤ d.Accts.length := by omega
  have lC2 : d.Accs.length ≥ d.Accts.length := by omega
  clear hC hL
  go_enter Try.func42, Try.ntmps42
  go_wp2_with fail
  have k0 : ∀ W, Calls Try.prog 50 #[.int .i64 (d.Accts.length : Int)] W fun e w' => e = .returned (.bool true) ∧ w' = W := fun W => (iAcctCount_any _ W).mono (by rintro e w' ⟨rfl, rfl⟩; exact ⟨by rw [HL.out], rfl⟩)
  go_quiet (first | (go_at_call 50; exact Calls.quiet_of_same (k0 _)))
  have B9 := B0.trans (below_of_drew _ _ nq)
  have X9 := x_a.from_ (below_of_drew w.heap.size w nq)
  have c9_0 := X9.cell (i := 0) rfl
  have c9_1 := X9.cell (i := 1) rfl
  have c9_2 := X9.cell (i := 2) rfl
  have c9_3 := X9.cell (i := 3) rfl
  have c9_4 := X9.cell (i := 4) rfl
  have c9_5 := X9.cell (i := 5) rfl
  have c9_6 := X9.cell (i := 6) rfl
  have c9_7 := X9.cell (i := 7) rfl
  have c9_8 := X9.cell (i := 8) rfl
  go_wp2
  go_loopw [30] (fun i wr => ∃ k : Nat, k ≤ d.Accts.length ∧ i = .int .i64 k ∧ Hid (∀ i, i < k → ndAcct d i) ∧ Vr wr b 34 [.int .i64 d.Id, .int .i64 d.N, .slice AAccts d.Accts.length cAccts, .slice AOuts d.Outs.length cOuts, .slice AIns d.Ins.length cIns, .slice AAccs d.Accs.length cAccs, .int .i64 d.Stray, .int .i64 d.Came, .int .i64 d.Went] ∧ Below w.heap.size w wr) (fun i _ => d.Accts.length - (intOf i).toNat)
  case atStart => exact ⟨0, Nat.zero_le _, rfl, fun i hi => by omega, X9, B9⟩
  case round =>
    clear x_a X9 B9 c9_0 c9_1 c9_2 c9_3 c9_4 c9_5 c9_6 c9_7 c9_8 c_a_0_w c_a_1_w c_a_2_w c_a_3_w c_a_4_w c_a_5_w c_a_6_w c_a_7_w c_a_8_w
    obtain ⟨k, hk, rfl, HT, x_a, HB⟩ := hrel
    have hs := HB.size
    by_cases hlt : k < d.Accts.length
    case neg =>
      have hk2 : ¬ ((k : Int) < (d.Accts.length : Int)) := by omega
      have HO : Hid (acctsB d = true) := by show _ = _; rw [HE.out]; exact decide_eq_true (fun i hi => HT.out i (by omega))
      clear HT
      have c_a_0_wr := x_a.cell (i := 0) rfl
      have c_a_1_wr := x_a.cell (i := 1) rfl
      have c_a_2_wr := x_a.cell (i := 2) rfl
      have c_a_3_wr := x_a.cell (i := 3) rfl
      have c_a_4_wr := x_a.cell (i := 4) rfl
      have c_a_5_wr := x_a.cell (i := 5) rfl
      have c_a_6_wr := x_a.cell (i := 6) rfl
      have c_a_7_wr := x_a.cell (i := 7) rfl
      have c_a_8_wr := x_a.cell (i := 8) rfl
      go_wp2
      go_ret
      exact ⟨ret_eq (by rw [HO.out]; rfl), HB⟩
    obtain ⟨a, hae⟩ := get_of_lt hlt
    have ha := acctG_of hae
    have hab := sumG_at (s := MAcct.bulk) hae
    have hmk := (hq.acct hae).marks
    obtain ⟨p, hpe⟩ := get_of_lt (xs := d.Accs) (k := k) (by omega)
    have hp := accG_of hpe
    obtain ⟨b1, off, AM, cM, AR, cR, hAA, hbb, e0, e1, e2, e3, e4, rM, rR⟩ := el_acct (hrA.below HB) hae hs
    subst hAA
    obtain ⟨b', off', hAC, hbb', f0, f1, f2⟩ := el_acc (hrC.below HB) hpe
    subst hAC
    clear hae hpe
    have va : RV acctL wr _ a := rv_acct_mk rM rR
    have i1 : (k : Int) < (d.Accts.length : Int) := by omega
    have i2 : (k : Int) < (d.Accs.length : Int) := by omega
    obtain ⟨w1, e_w1, s_w1, h_w1, x_m⟩ := alloc_step wr 52 [.int .i64 a.Have, .int .i64 a.State, .int .i64 a.By, .slice AM a.Marks.length cM, .slice AR a.Reps.length cR]
    have s_w1_1 := Nat.le_of_eq s_w1
    have s_w1_2 := Nat.le_of_eq s_w1.symm
    clear s_w1
    replace x_a := x_a.from_ h_w1
    have B_w1 := HB.trans (h_w1.mono HB.size)
    have c_a_0_w1 := x_a.cell (i := 0) rfl
    have c_a_1_w1 := x_a.cell (i := 1) rfl
    have c_a_2_w1 := x_a.cell (i := 2) rfl
    have c_a_3_w1 := x_a.cell (i := 3) rfl
    have c_a_4_w1 := x_a.cell (i := 4) rfl
    have c_a_5_w1 := x_a.cell (i := 5) rfl
    have c_a_6_w1 := x_a.cell (i := 6) rfl
    have c_a_7_w1 := x_a.cell (i := 7) rfl
    have c_a_8_w1 := x_a.cell (i := 8) rfl
    have c_m_0_w1 := x_m.cell (i := 0) rfl
    have c_m_1_w1 := x_m.cell (i := 1) rfl
    have c_m_2_w1 := x_m.cell (i := 2) rfl
    have c_m_3_w1 := x_m.cell (i := 3) rfl
    have c_m_4_w1 := x_m.cell (i := 4) rfl
    have g0 := (h_w1.cell (p := ⟨b', off' + k * 3, none⟩) (by show b' < wr.heap.size; omega)).trans f0
    have g1 := (h_w1.cell (p := ⟨b', off' + k * 3 + 1, none⟩) (by show b' < wr.heap.size; omega)).trans f1
    have g2 := (h_w1.cell (p := ⟨b', off' + k * 3 + 2, none⟩) (by show b' < wr.heap.size; omega)).trans f2
    have lb2 := x_a.lt
    have lm2 := x_m.lt
    have lc2 : b' < w1.heap.size := by omega
    have va2 := va.from_ h_w1
    have vp2 : RV accL w1 _ p := rv_acc_mk
    by_cases hq1 : acctOkB a d.N d.Id = true
    case neg =>
      replace hq1 : acctOkB a d.N d.Id = false := by simpa using hq1
      have HQ := Lib.hid hq1
      have HO : Hid (acctsB d = false) := by show _ = _; rw [HE.out]; exact decide_eq_false (fun c => by have := c k hlt; unfold ndAcct at this; rw [ha, hq1] at this; simp at this)
      clear hq1 ha hp
      go_wp2_with fail
      refine wp_region_held (S := fun w' => w'.cell? ⟨b, 0, none⟩ = some (.int .i64 d.Id) ∧ w'.cell? ⟨b, 1, none⟩ = some (.int .i64 d.N) ∧ w'.cell? ⟨b, 5, none⟩ = some (.slice (some ⟨b', off', none⟩) d.Accs.length cAccs) ∧ w'.cell? ⟨wr.heap.size, 0, none⟩ = some (.int .i64 a.Have) ∧ w'.cell? ⟨wr.heap.size, 1, none⟩ = some (.int .i64 a.State) ∧ w'.cell? ⟨wr.heap.size, 2, none⟩ = some (.int .i64 a.By) ∧ w'.cell? ⟨wr.heap.size, 3, none⟩ = some (.slice AM a.Marks.length cM) ∧ w'.cell? ⟨wr.heap.size, 4, none⟩ = some (.slice AR a.Reps.length cR) ∧ w'.cell? ⟨b', off' + k * 3, none⟩ = some (.int .i64 p.Prom) ∧ w'.cell? ⟨b', off' + k * 3 + 1, none⟩ = some (.int .i64 p.Bal) ∧ w'.cell? ⟨b', off' + k * 3 + 2, none⟩ = some (.int .i64 p.Val)) (by kernel_rfl) ?_
      refine takeN (i := 0) (v := ?v0_1) (d := (some 35)) rfl rfl (by kernel_rfl) (by kernel_rfl) (by kernel_rfl) (fun _ _ _ h => h) (Or.inl ⟨by rfl, ?y0_1⟩) ⟨c_a_0_w1, c_a_1_w1, c_a_5_w1, c_m_0_w1, c_m_1_w1, c_m_2_w1, c_m_3_w1, c_m_4_w1, g0, g1, g2⟩ ?r0_1
      case y0_1 => (intro W hW; (try dsimp only at hW); go_simp; try (with_reducible rfl))
      simp only [Act.put, List.setIfInBounds_toArray, List.set_cons_zero, List.set_cons_succ]
      refine takeN (i := 1) (v := ?v1_2) (d := (some 36)) rfl rfl (by kernel_rfl) (by kernel_rfl) (by kernel_rfl) (fun _ _ _ h => h) (Or.inl ⟨by rfl, ?y1_2⟩) ⟨c_a_0_w1, c_a_1_w1, c_a_5_w1, c_m_0_w1, c_m_1_w1, c_m_2_w1, c_m_3_w1, c_m_4_w1, g0, g1, g2⟩ ?r1_2
      case y1_2 => (intro W hW; (try dsimp only at hW); go_simp; try (with_reducible rfl))
      simp only [Act.put, List.setIfInBounds_toArray, List.set_cons_zero, List.set_cons_succ]
      refine takeN (i := 2) (v := ?v2_3) (d := (some 37)) rfl rfl (by kernel_rfl) (by kernel_rfl) (by kernel_rfl) (fun _ _ _ h => h) (Or.inl ⟨by rfl, ?y2_3⟩) ⟨c_a_0_w1, c_a_1_w1, c_a_5_w1, c_m_0_w1, c_m_1_w1, c_m_2_w1, c_m_3_w1, c_m_4_w1, g0, g1, g2⟩ ?r2_3
      case y2_3 => (intro W hW; (try dsimp only at hW); go_simp; try (with_reducible rfl))
      simp only [Act.put, List.setIfInBounds_toArray, List.set_cons_zero, List.set_cons_succ]
      refine takeN (i := 3) (v := ?v3_4) (d := (some 38)) rfl rfl (by kernel_rfl) (by kernel_rfl) (by kernel_rfl) (fun _ _ _ h => h) (Or.inl ⟨by rfl, ?y3_4⟩) ⟨c_a_0_w1, c_a_1_w1, c_a_5_w1, c_m_0_w1, c_m_1_w1, c_m_2_w1, c_m_3_w1, c_m_4_w1, g0, g1, g2⟩ ?r3_4
      case y3_4 => (intro W hW; (try dsimp only at hW); go_simp; try (with_reducible rfl))
      simp only [Act.put, List.setIfInBounds_toArray, List.set_cons_zero, List.set_cons_succ]
      refine takeN (i := 4) (v := ?v4_5) (d := (some 39)) rfl rfl (by kernel_rfl) (by kernel_rfl) (by kernel_rfl) (fun _ _ _ h => h) (Or.inl ⟨by rfl, ?y4_5⟩) ⟨c_a_0_w1, c_a_1_w1, c_a_5_w1, c_m_0_w1, c_m_1_w1, c_m_2_w1, c_m_3_w1, c_m_4_w1, g0, g1, g2⟩ ?r4_5
      case y4_5 => (intro W hW; (try dsimp only at hW); go_simp; try (with_reducible rfl))
      simp only [Act.put, List.setIfInBounds_toArray, List.set_cons_zero, List.set_cons_succ]
      refine takeN (i := 5) (v := ?v5_6) (d := (some 40)) rfl rfl (by kernel_rfl) (by kernel_rfl) (by kernel_rfl) (fun _ _ _ h => h) (Or.inl ⟨by rfl, ?y5_6⟩) ⟨c_a_0_w1, c_a_1_w1, c_a_5_w1, c_m_0_w1, c_m_1_w1, c_m_2_w1, c_m_3_w1, c_m_4_w1, g0, g1, g2⟩ ?r5_6
      case y5_6 => (intro W hW; (try dsimp only at hW); go_simp; try (with_reducible rfl))
      simp only [Act.put, List.setIfInBounds_toArray, List.set_cons_zero, List.set_cons_succ]
      refine takeN (i := 6) (v := ?v6_7) (d := (some 41)) rfl rfl (by kernel_rfl) (by kernel_rfl) (by kernel_rfl) (fun _ _ _ h => h) (Or.inl ⟨by rfl, ?y6_7⟩) ⟨c_a_0_w1, c_a_1_w1, c_a_5_w1, c_m_0_w1, c_m_1_w1, c_m_2_w1, c_m_3_w1, c_m_4_w1, g0, g1, g2⟩ ?r6_7
      case y6_7 => (intro W hW; (try dsimp only at hW); go_simp; try (with_reducible rfl))
      simp only [Act.put, List.setIfInBounds_toArray, List.set_cons_zero, List.set_cons_succ]
      refine takeN (i := 7) (v := ?v7_8) (d := (some 42)) rfl rfl (by kernel_rfl) (by kernel_rfl) (by kernel_rfl) (fun _ _ _ h => h) (Or.inl ⟨by rfl, ?y7_8⟩) ⟨c_a_0_w1, c_a_1_w1, c_a_5_w1, c_m_0_w1, c_m_1_w1, c_m_2_w1, c_m_3_w1, c_m_4_w1, g0, g1, g2⟩ ?r7_8
      case y7_8 => (intro W hW; (try dsimp only at hW); go_simp; try (with_reducible rfl))
      simp only [Act.put, List.setIfInBounds_toArray, List.set_cons_zero, List.set_cons_succ]
      refine takeN (i := 8) (v := ?v8_9) (d := (some 43)) rfl rfl (by kernel_rfl) (by kernel_rfl) (by kernel_rfl) (fun _ _ _ h => h) (Or.inl ⟨by rfl, ?y8_9⟩) ⟨c_a_0_w1, c_a_1_w1, c_a_5_w1, c_m_0_w1, c_m_1_w1, c_m_2_w1, c_m_3_w1, c_m_4_w1, g0, g1, g2⟩ ?r8_9
      case y8_9 => (intro W hW; (try dsimp only at hW); go_simp; try (with_reducible rfl))
      simp only [Act.put, List.setIfInBounds_toArray, List.set_cons_zero, List.set_cons_succ]
      refine wpAnyH_ready (rs := [9]) (by kernel_rfl) (by simp) ?_
      refine AllReadyH.cons rfl (fun K hK => ?_) AllReadyH.nil
      go_simp
      refine (iAcctOk_c (va2.from_ ((Below.refl w1.heap.size w1).drew)) (by omega) hmk).mono ?_
      rintro e w_A ⟨rfl, hd_A⟩
      have hb_A : Below w1.heap.size w1 w_A := (Below.refl w1.heap.size w1).drew.trans hd_A
      rw [HQ.out]
      refine hK.out _ _ ⟨(hb_A.cell (p := ⟨b, 0, none⟩) lb2).trans c_a_0_w1, (hb_A.cell (p := ⟨b, 1, none⟩) lb2).trans c_a_1_w1, (hb_A.cell (p := ⟨b, 5, none⟩) lb2).trans c_a_5_w1, (hb_A.cell (p := ⟨wr.heap.size, 0, none⟩) lm2).trans c_m_0_w1, (hb_A.cell (p := ⟨wr.heap.size, 1, none⟩) lm2).trans c_m_1_w1, (hb_A.cell (p := ⟨wr.heap.size, 2, none⟩) lm2).trans c_m_2_w1, (hb_A.cell (p := ⟨wr.heap.size, 3, none⟩) lm2).trans c_m_3_w1, (hb_A.cell (p := ⟨wr.heap.size, 4, none⟩) lm2).trans c_m_4_w1, (hb_A.cell (p := ⟨b', off' + k * 3, none⟩) lc2).trans g0, (hb_A.cell (p := ⟨b', off' + k * 3 + 1, none⟩) lc2).trans g1, (hb_A.cell (p := ⟨b', off' + k * 3 + 2, none⟩) lc2).trans g2⟩ (fun _ => ?_)
      clear hK K
      refine takeN (i := 10) (v := ?v10_10) (d := (some 45)) rfl rfl (by kernel_rfl) (by kernel_rfl) (by kernel_rfl) (fun _ _ _ h => h) (Or.inl ⟨by rfl, ?y10_10⟩) ⟨(hb_A.cell (p := ⟨b, 0, none⟩) lb2).trans c_a_0_w1, (hb_A.cell (p := ⟨b, 1, none⟩) lb2).trans c_a_1_w1, (hb_A.cell (p := ⟨b, 5, none⟩) lb2).trans c_a_5_w1, (hb_A.cell (p := ⟨wr.heap.size, 0, none⟩) lm2).trans c_m_0_w1, (hb_A.cell (p := ⟨wr.heap.size, 1, none⟩) lm2).trans c_m_1_w1, (hb_A.cell (p := ⟨wr.heap.size, 2, none⟩) lm2).trans c_m_2_w1, (hb_A.cell (p := ⟨wr.heap.size, 3, none⟩) lm2).trans c_m_3_w1, (hb_A.cell (p := ⟨wr.heap.size, 4, none⟩) lm2).trans c_m_4_w1, (hb_A.cell (p := ⟨b', off' + k * 3, none⟩) lc2).trans g0, (hb_A.cell (p := ⟨b', off' + k * 3 + 1, none⟩) lc2).trans g1, (hb_A.cell (p := ⟨b', off' + k * 3 + 2, none⟩) lc2).trans g2⟩ ?r10_10
      case y10_10 => (intro W hW; (try dsimp only at hW); go_simp; try (with_reducible rfl))
      simp only [Act.put, List.setIfInBounds_toArray, List.set_cons_zero, List.set_cons_succ]
      refine takeN (i := 11) (v := ?v11_11) (d := (some 46)) rfl rfl (by kernel_rfl) (by kernel_rfl) (by kernel_rfl) (fun _ _ _ h => h) (Or.inl ⟨by rfl, ?y11_11⟩) ⟨(hb_A.cell (p := ⟨b, 0, none⟩) lb2).trans c_a_0_w1, (hb_A.cell (p := ⟨b, 1, none⟩) lb2).trans c_a_1_w1, (hb_A.cell (p := ⟨b, 5, none⟩) lb2).trans c_a_5_w1, (hb_A.cell (p := ⟨wr.heap.size, 0, none⟩) lm2).trans c_m_0_w1, (hb_A.cell (p := ⟨wr.heap.size, 1, none⟩) lm2).trans c_m_1_w1, (hb_A.cell (p := ⟨wr.heap.size, 2, none⟩) lm2).trans c_m_2_w1, (hb_A.cell (p := ⟨wr.heap.size, 3, none⟩) lm2).trans c_m_3_w1, (hb_A.cell (p := ⟨wr.heap.size, 4, none⟩) lm2).trans c_m_4_w1, (hb_A.cell (p := ⟨b', off' + k * 3, none⟩) lc2).trans g0, (hb_A.cell (p := ⟨b', off' + k * 3 + 1, none⟩) lc2).trans g1, (hb_A.cell (p := ⟨b', off' + k * 3 + 2, none⟩) lc2).trans g2⟩ ?r11_11
      case y11_11 => (intro W hW; (try dsimp only at hW); go_simp; try (with_reducible rfl))
      simp only [Act.put, List.setIfInBounds_toArray, List.set_cons_zero, List.set_cons_succ]
      refine takeN (i := 12) (v := undef) (d := (some 47)) rfl rfl (by kernel_rfl) (by kernel_rfl) (by kernel_rfl) (fun _ _ _ h => h) (Or.inr ⟨by rfl, rfl⟩) ⟨(hb_A.cell (p := ⟨b, 0, none⟩) lb2).trans c_a_0_w1, (hb_A.cell (p := ⟨b, 1, none⟩) lb2).trans c_a_1_w1, (hb_A.cell (p := ⟨b, 5, none⟩) lb2).trans c_a_5_w1, (hb_A.cell (p := ⟨wr.heap.size, 0, none⟩) lm2).trans c_m_0_w1, (hb_A.cell (p := ⟨wr.heap.size, 1, none⟩) lm2).trans c_m_1_w1, (hb_A.cell (p := ⟨wr.heap.size, 2, none⟩) lm2).trans c_m_2_w1, (hb_A.cell (p := ⟨wr.heap.size, 3, none⟩) lm2).trans c_m_3_w1, (hb_A.cell (p := ⟨wr.heap.size, 4, none⟩) lm2).trans c_m_4_w1, (hb_A.cell (p := ⟨b', off' + k * 3, none⟩) lc2).trans g0, (hb_A.cell (p := ⟨b', off' + k * 3 + 1, none⟩) lc2).trans g1, (hb_A.cell (p := ⟨b', off' + k * 3 + 2, none⟩) lc2).trans g2⟩ ?_
      simp only [Act.put, List.setIfInBounds_toArray, List.set_cons_zero, List.set_cons_succ]
      refine takeN (i := 13) (v := undef) (d := (some 48)) rfl rfl (by kernel_rfl) (by kernel_rfl) (by kernel_rfl) (fun _ _ _ h => h) (Or.inr ⟨by rfl, rfl⟩) ⟨(hb_A.cell (p := ⟨b, 0, none⟩) lb2).trans c_a_0_w1, (hb_A.cell (p := ⟨b, 1, none⟩) lb2).trans c_a_1_w1, (hb_A.cell (p := ⟨b, 5, none⟩) lb2).trans c_a_5_w1, (hb_A.cell (p := ⟨wr.heap.size, 0, none⟩) lm2).trans c_m_0_w1, (hb_A.cell (p := ⟨wr.heap.size, 1, none⟩) lm2).trans c_m_1_w1, (hb_A.cell (p := ⟨wr.heap.size, 2, none⟩) lm2).trans c_m_2_w1, (hb_A.cell (p := ⟨wr.heap.size, 3, none⟩) lm2).trans c_m_3_w1, (hb_A.cell (p := ⟨wr.heap.size, 4, none⟩) lm2).trans c_m_4_w1, (hb_A.cell (p := ⟨b', off' + k * 3, none⟩) lc2).trans g0, (hb_A.cell (p := ⟨b', off' + k * 3 + 1, none⟩) lc2).trans g1, (hb_A.cell (p := ⟨b', off' + k * 3 + 2, none⟩) lc2).trans g2⟩ ?_
      simp only [Act.put, List.setIfInBounds_toArray, List.set_cons_zero, List.set_cons_succ]
      refine takeN (i := 14) (v := undef) (d := (some 49)) rfl rfl (by kernel_rfl) (by kernel_rfl) (by kernel_rfl) (fun _ _ _ h => h) (Or.inr ⟨by rfl, rfl⟩) ⟨(hb_A.cell (p := ⟨b, 0, none⟩) lb2).trans c_a_0_w1, (hb_A.cell (p := ⟨b, 1, none⟩) lb2).trans c_a_1_w1, (hb_A.cell (p := ⟨b, 5, none⟩) lb2).trans c_a_5_w1, (hb_A.cell (p := ⟨wr.heap.size, 0, none⟩) lm2).trans c_m_0_w1, (hb_A.cell (p := ⟨wr.heap.size, 1, none⟩) lm2).trans c_m_1_w1, (hb_A.cell (p := ⟨wr.heap.size, 2, none⟩) lm2).trans c_m_2_w1, (hb_A.cell (p := ⟨wr.heap.size, 3, none⟩) lm2).trans c_m_3_w1, (hb_A.cell (p := ⟨wr.heap.size, 4, none⟩) lm2).trans c_m_4_w1, (hb_A.cell (p := ⟨b', off' + k * 3, none⟩) lc2).trans g0, (hb_A.cell (p := ⟨b', off' + k * 3 + 1, none⟩) lc2).trans g1, (hb_A.cell (p := ⟨b', off' + k * 3 + 2, none⟩) lc2).trans g2⟩ ?_
      simp only [Act.put, List.setIfInBounds_toArray, List.set_cons_zero, List.set_cons_succ]
      refine takeN (i := 15) (v := undef) (d := (some 50)) rfl rfl (by kernel_rfl) (by kernel_rfl) (by kernel_rfl) (fun _ _ _ h => h) (Or.inr ⟨by rfl, rfl⟩) ⟨(hb_A.cell (p := ⟨b, 0, none⟩) lb2).trans c_a_0_w1, (hb_A.cell (p := ⟨b, 1, none⟩) lb2).trans c_a_1_w1, (hb_A.cell (p := ⟨b, 5, none⟩) lb2).trans c_a_5_w1, (hb_A.cell (p := ⟨wr.heap.size, 0, none⟩) lm2).trans c_m_0_w1, (hb_A.cell (p := ⟨wr.heap.size, 1, none⟩) lm2).trans c_m_1_w1, (hb_A.cell (p := ⟨wr.heap.size, 2, none⟩) lm2).trans c_m_2_w1, (hb_A.cell (p := ⟨wr.heap.size, 3, none⟩) lm2).trans c_m_3_w1, (hb_A.cell (p := ⟨wr.heap.size, 4, none⟩) lm2).trans c_m_4_w1, (hb_A.cell (p := ⟨b', off' + k * 3, none⟩) lc2).trans g0, (hb_A.cell (p := ⟨b', off' + k * 3 + 1, none⟩) lc2).trans g1, (hb_A.cell (p := ⟨b', off' + k * 3 + 2, none⟩) lc2).trans g2⟩ ?_
      simp only [Act.put, List.setIfInBounds_toArray, List.set_cons_zero, List.set_cons_succ]
      refine takeN (i := 16) (v := undef) (d := (some 51)) rfl rfl (by kernel_rfl) (by kernel_rfl) (by kernel_rfl) (fun _ _ _ h => h) (Or.inr ⟨by rfl, rfl⟩) ⟨(hb_A.cell (p := ⟨b, 0, none⟩) lb2).trans c_a_0_w1, (hb_A.cell (p := ⟨b, 1, none⟩) lb2).trans c_a_1_w1, (hb_A.cell (p := ⟨b, 5, none⟩) lb2).trans c_a_5_w1, (hb_A.cell (p := ⟨wr.heap.size, 0, none⟩) lm2).trans c_m_0_w1, (hb_A.cell (p := ⟨wr.heap.size, 1, none⟩) lm2).trans c_m_1_w1, (hb_A.cell (p := ⟨wr.heap.size, 2, none⟩) lm2).trans c_m_2_w1, (hb_A.cell (p := ⟨wr.heap.size, 3, none⟩) lm2).trans c_m_3_w1, (hb_A.cell (p := ⟨wr.heap.size, 4, none⟩) lm2).trans c_m_4_w1, (hb_A.cell (p := ⟨b', off' + k * 3, none⟩) lc2).trans g0, (hb_A.cell (p := ⟨b', off' + k * 3 + 1, none⟩) lc2).trans g1, (hb_A.cell (p := ⟨b', off' + k * 3 + 2, none⟩) lc2).trans g2⟩ ?_
      simp only [Act.put, List.setIfInBounds_toArray, List.set_cons_zero, List.set_cons_succ]
      refine takeN (i := 17) (v := undef) (d := (some 52)) rfl rfl (by kernel_rfl) (by kernel_rfl) (by kernel_rfl) (fun _ _ _ h => h) (Or.inr ⟨by rfl, rfl⟩) ⟨(hb_A.cell (p := ⟨b, 0, none⟩) lb2).trans c_a_0_w1, (hb_A.cell (p := ⟨b, 1, none⟩) lb2).trans c_a_1_w1, (hb_A.cell (p := ⟨b, 5, none⟩) lb2).trans c_a_5_w1, (hb_A.cell (p := ⟨wr.heap.size, 0, none⟩) lm2).trans c_m_0_w1, (hb_A.cell (p := ⟨wr.heap.size, 1, none⟩) lm2).trans c_m_1_w1, (hb_A.cell (p := ⟨wr.heap.size, 2, none⟩) lm2).trans c_m_2_w1, (hb_A.cell (p := ⟨wr.heap.size, 3, none⟩) lm2).trans c_m_3_w1, (hb_A.cell (p := ⟨wr.heap.size, 4, none⟩) lm2).trans c_m_4_w1, (hb_A.cell (p := ⟨b', off' + k * 3, none⟩) lc2).trans g0, (hb_A.cell (p := ⟨b', off' + k * 3 + 1, none⟩) lc2).trans g1, (hb_A.cell (p := ⟨b', off' + k * 3 + 2, none⟩) lc2).trans g2⟩ ?_
      simp only [Act.put, List.setIfInBounds_toArray, List.set_cons_zero, List.set_cons_succ]
      refine takeN (i := 18) (v := undef) (d := (some 53)) rfl rfl (by kernel_rfl) (by kernel_rfl) (by kernel_rfl) (fun _ _ _ h => h) (Or.inr ⟨by rfl, rfl⟩) ⟨(hb_A.cell (p := ⟨b, 0, none⟩) lb2).trans c_a_0_w1, (hb_A.cell (p := ⟨b, 1, none⟩) lb2).trans c_a_1_w1, (hb_A.cell (p := ⟨b, 5, none⟩) lb2).trans c_a_5_w1, (hb_A.cell (p := ⟨wr.heap.size, 0, none⟩) lm2).trans c_m_0_w1, (hb_A.cell (p := ⟨wr.heap.size, 1, none⟩) lm2).trans c_m_1_w1, (hb_A.cell (p := ⟨wr.heap.size, 2, none⟩) lm2).trans c_m_2_w1, (hb_A.cell (p := ⟨wr.heap.size, 3, none⟩) lm2).trans c_m_3_w1, (hb_A.cell (p := ⟨wr.heap.size, 4, none⟩) lm2).trans c_m_4_w1, (hb_A.cell (p := ⟨b', off' + k * 3, none⟩) lc2).trans g0, (hb_A.cell (p := ⟨b', off' + k * 3 + 1, none⟩) lc2).trans g1, (hb_A.cell (p := ⟨b', off' + k * 3 + 2, none⟩) lc2).trans g2⟩ ?_
      simp only [Act.put, List.setIfInBounds_toArray, List.set_cons_zero, List.set_cons_succ]
      refine wpAnyH_ready (rs := [19]) (by kernel_rfl) (by simp) ?_
      refine AllReadyH.cons rfl (fun K hK => ?_) AllReadyH.nil
      go_simp
      refine hK.out _ _ ⟨(hb_A.cell (p := ⟨b, 0, none⟩) lb2).trans c_a_0_w1, (hb_A.cell (p := ⟨b, 1, none⟩) lb2).trans c_a_1_w1, (hb_A.cell (p := ⟨b, 5, none⟩) lb2).trans c_a_5_w1, (hb_A.cell (p := ⟨wr.heap.size, 0, none⟩) lm2).trans c_m_0_w1, (hb_A.cell (p := ⟨wr.heap.size, 1, none⟩) lm2).trans c_m_1_w1, (hb_A.cell (p := ⟨wr.heap.size, 2, none⟩) lm2).trans c_m_2_w1, (hb_A.cell (p := ⟨wr.heap.size, 3, none⟩) lm2).trans c_m_3_w1, (hb_A.cell (p := ⟨wr.heap.size, 4, none⟩) lm2).trans c_m_4_w1, (hb_A.cell (p := ⟨b', off' + k * 3, none⟩) lc2).trans g0, (hb_A.cell (p := ⟨b', off' + k * 3 + 1, none⟩) lc2).trans g1, (hb_A.cell (p := ⟨b', off' + k * 3 + 2, none⟩) lc2).trans g2⟩ (fun _ => ?_)
      clear hK K
      (try simp only [Act.put, List.setIfInBounds_toArray, List.set_cons_zero, List.set_cons_succ])
      refine takeN (i := 20) (v := undef) (d := (some 55)) rfl rfl (by kernel_rfl) (by kernel_rfl) (by kernel_rfl) (fun _ _ _ h => h) (Or.inr ⟨by rfl, rfl⟩) ⟨(hb_A.cell (p := ⟨b, 0, none⟩) lb2).trans c_a_0_w1, (hb_A.cell (p := ⟨b, 1, none⟩) lb2).trans c_a_1_w1, (hb_A.cell (p := ⟨b, 5, none⟩) lb2).trans c_a_5_w1, (hb_A.cell (p := ⟨wr.heap.size, 0, none⟩) lm2).trans c_m_0_w1, (hb_A.cell (p := ⟨wr.heap.size, 1, none⟩) lm2).trans c_m_1_w1, (hb_A.cell (p := ⟨wr.heap.size, 2, none⟩) lm2).trans c_m_2_w1, (hb_A.cell (p := ⟨wr.heap.size, 3, none⟩) lm2).trans c_m_3_w1, (hb_A.cell (p := ⟨wr.heap.size, 4, none⟩) lm2).trans c_m_4_w1, (hb_A.cell (p := ⟨b', off' + k * 3, none⟩) lc2).trans g0, (hb_A.cell (p := ⟨b', off' + k * 3 + 1, none⟩) lc2).trans g1, (hb_A.cell (p := ⟨b', off' + k * 3 + 2, none⟩) lc2).trans g2⟩ ?_
      simp only [Act.put, List.setIfInBounds_toArray, List.set_cons_zero, List.set_cons_succ]
      refine takeN (i := 21) (v := ?v21_12) (d := (some 56)) rfl rfl (by kernel_rfl) (by kernel_rfl) (by kernel_rfl) (fun _ _ _ h => h) (Or.inl ⟨by rfl, ?y21_12⟩) ⟨(hb_A.cell (p := ⟨b, 0, none⟩) lb2).trans c_a_0_w1, (hb_A.cell (p := ⟨b, 1, none⟩) lb2).trans c_a_1_w1, (hb_A.cell (p := ⟨b, 5, none⟩) lb2).trans c_a_5_w1, (hb_A.cell (p := ⟨wr.heap.size, 0, none⟩) lm2).trans c_m_0_w1, (hb_A.cell (p := ⟨wr.heap.size, 1, none⟩) lm2).trans c_m_1_w1, (hb_A.cell (p := ⟨wr.heap.size, 2, none⟩) lm2).trans c_m_2_w1, (hb_A.cell (p := ⟨wr.heap.size, 3, none⟩) lm2).trans c_m_3_w1, (hb_A.cell (p := ⟨wr.heap.size, 4, none⟩) lm2).trans c_m_4_w1, (hb_A.cell (p := ⟨b', off' + k * 3, none⟩) lc2).trans g0, (hb_A.cell (p := ⟨b', off' + k * 3 + 1, none⟩) lc2).trans g1, (hb_A.cell (p := ⟨b', off' + k * 3 + 2, none⟩) lc2).trans g2⟩ ?r21_12
      case y21_12 => (intro W hW; (try dsimp only at hW); go_simp; try (with_reducible rfl))
      simp only [Act.put, List.setIfInBounds_toArray, List.set_cons_zero, List.set_cons_succ]
      refine wpAnyH_done (by kernel_rfl) ?_ _
      go_wp2
      go_ret
      exact ⟨ret_eq (by rw [HO.out]; rfl), B_w1.trans (hb_A.mono B_w1.size)⟩
    have HQ := Lib.hid hq1
    by_cases hn : accOkB p = true
    case neg =>
      replace hn : accOkB p = false := by simpa using hn
      have HO : Hid (acctsB d = false) := by show _ = _; rw [HE.out]; exact decide_eq_false (fun c => by have := c k hlt; unfold ndAcct at this; rw [hp, hn] at this; simp at this)
      have HN := Lib.hid hn
      clear hq1 hn ha hp
      go_wp2_with fail
      refine wp_region_held (S := fun w' => w'.cell? ⟨b, 0, none⟩ = some (.int .i64 d.Id) ∧ w'.cell? ⟨b, 1, none⟩ = some (.int .i64 d.N) ∧ w'.cell? ⟨b, 5, none⟩ = some (.slice (some ⟨b', off', none⟩) d.Accs.length cAccs) ∧ w'.cell? ⟨wr.heap.size, 0, none⟩ = some (.int .i64 a.Have) ∧ w'.cell? ⟨wr.heap.size, 1, none⟩ = some (.int .i64 a.State) ∧ w'.cell? ⟨wr.heap.size, 2, none⟩ = some (.int .i64 a.By) ∧ w'.cell? ⟨wr.heap.size, 3, none⟩ = some (.slice AM a.Marks.length cM) ∧ w'.cell? ⟨wr.heap.size, 4, none⟩ = some (.slice AR a.Reps.length cR) ∧ w'.cell? ⟨b', off' + k * 3, none⟩ = some (.int .i64 p.Prom) ∧ w'.cell? ⟨b', off' + k * 3 + 1, none⟩ = some (.int .i64 p.Bal) ∧ w'.cell? ⟨b', off' + k * 3 + 2, none⟩ = some (.int .i64 p.Val)) (by kernel_rfl) ?_
      refine takeN (i := 0) (v := ?v0_13) (d := (some 35)) rfl rfl (by kernel_rfl) (by kernel_rfl) (by kernel_rfl) (fun _ _ _ h => h) (Or.inl ⟨by rfl, ?y0_13⟩) ⟨c_a_0_w1, c_a_1_w1, c_a_5_w1, c_m_0_w1, c_m_1_w1, c_m_2_w1, c_m_3_w1, c_m_4_w1, g0, g1, g2⟩ ?r0_13
      case y0_13 => (intro W hW; (try dsimp only at hW); go_simp; try (with_reducible rfl))
      simp only [Act.put, List.setIfInBounds_toArray, List.set_cons_zero, List.set_cons_succ]
      refine takeN (i := 1) (v := ?v1_14) (d := (some 36)) rfl rfl (by kernel_rfl) (by kernel_rfl) (by kernel_rfl) (fun _ _ _ h => h) (Or.inl ⟨by rfl, ?y1_14⟩) ⟨c_a_0_w1, c_a_1_w1, c_a_5_w1, c_m_0_w1, c_m_1_w1, c_m_2_w1, c_m_3_w1, c_m_4_w1, g0, g1, g2⟩ ?r1_14
      case y1_14 => (intro W hW; (try dsimp only at hW); go_simp; try (with_reducible rfl))
      simp only [Act.put, List.setIfInBounds_toArray, List.set_cons_zero, List.set_cons_succ]
      refine takeN (i := 2) (v := ?v2_15) (d := (some 37)) rfl rfl (by kernel_rfl) (by kernel_rfl) (by kernel_rfl) (fun _ _ _ h => h) (Or.inl ⟨by rfl, ?y2_15⟩) ⟨c_a_0_w1, c_a_1_w1, c_a_5_w1, c_m_0_w1, c_m_1_w1, c_m_2_w1, c_m_3_w1, c_m_4_w1, g0, g1, g2⟩ ?r2_15
      case y2_15 => (intro W hW; (try dsimp only at hW); go_simp; try (with_reducible rfl))
      simp only [Act.put, List.setIfInBounds_toArray, List.set_cons_zero, List.set_cons_succ]
      refine takeN (i := 3) (v := ?v3_16) (d := (some 38)) rfl rfl (by kernel_rfl) (by kernel_rfl) (by kernel_rfl) (fun _ _ _ h => h) (Or.inl ⟨by rfl, ?y3_16⟩) ⟨c_a_0_w1, c_a_1_w1, c_a_5_w1, c_m_0_w1, c_m_1_w1, c_m_2_w1, c_m_3_w1, c_m_4_w1, g0, g1, g2⟩ ?r3_16
      case y3_16 => (intro W hW; (try dsimp only at hW); go_simp; try (with_reducible rfl))
      simp only [Act.put, List.setIfInBounds_toArray, List.set_cons_zero, List.set_cons_succ]
      refine takeN (i := 4) (v := ?v4_17) (d := (some 39)) rfl rfl (by kernel_rfl) (by kernel_rfl) (by kernel_rfl) (fun _ _ _ h => h) (Or.inl ⟨by rfl, ?y4_17⟩) ⟨c_a_0_w1, c_a_1_w1, c_a_5_w1, c_m_0_w1, c_m_1_w1, c_m_2_w1, c_m_3_w1, c_m_4_w1, g0, g1, g2⟩ ?r4_17
      case y4_17 => (intro W hW; (try dsimp only at hW); go_simp; try (with_reducible rfl))
      simp only [Act.put, List.setIfInBounds_toArray, List.set_cons_zero, List.set_cons_succ]
      refine takeN (i := 5) (v := ?v5_18) (d := (some 40)) rfl rfl (by kernel_rfl) (by kernel_rfl) (by kernel_rfl) (fun _ _ _ h => h) (Or.inl ⟨by rfl, ?y5_18⟩) ⟨c_a_0_w1, c_a_1_w1, c_a_5_w1, c_m_0_w1, c_m_1_w1, c_m_2_w1, c_m_3_w1, c_m_4_w1, g0, g1, g2⟩ ?r5_18
      case y5_18 => (intro W hW; (try dsimp only at hW); go_simp; try (with_reducible rfl))
      simp only [Act.put, List.setIfInBounds_toArray, List.set_cons_zero, List.set_cons_succ]
      refine takeN (i := 6) (v := ?v6_19) (d := (some 41)) rfl rfl (by kernel_rfl) (by kernel_rfl) (by kernel_rfl) (fun _ _ _ h => h) (Or.inl ⟨by rfl, ?y6_19⟩) ⟨c_a_0_w1, c_a_1_w1, c_a_5_w1, c_m_0_w1, c_m_1_w1, c_m_2_w1, c_m_3_w1, c_m_4_w1, g0, g1, g2⟩ ?r6_19
      case y6_19 => (intro W hW; (try dsimp only at hW); go_simp; try (with_reducible rfl))
      simp only [Act.put, List.setIfInBounds_toArray, List.set_cons_zero, List.set_cons_succ]
      refine takeN (i := 7) (v := ?v7_20) (d := (some 42)) rfl rfl (by kernel_rfl) (by kernel_rfl) (by kernel_rfl) (fun _ _ _ h => h) (Or.inl ⟨by rfl, ?y7_20⟩) ⟨c_a_0_w1, c_a_1_w1, c_a_5_w1, c_m_0_w1, c_m_1_w1, c_m_2_w1, c_m_3_w1, c_m_4_w1, g0, g1, g2⟩ ?r7_20
      case y7_20 => (intro W hW; (try dsimp only at hW); go_simp; try (with_reducible rfl))
      simp only [Act.put, List.setIfInBounds_toArray, List.set_cons_zero, List.set_cons_succ]
      refine takeN (i := 8) (v := ?v8_21) (d := (some 43)) rfl rfl (by kernel_rfl) (by kernel_rfl) (by kernel_rfl) (fun _ _ _ h => h) (Or.inl ⟨by rfl, ?y8_21⟩) ⟨c_a_0_w1, c_a_1_w1, c_a_5_w1, c_m_0_w1, c_m_1_w1, c_m_2_w1, c_m_3_w1, c_m_4_w1, g0, g1, g2⟩ ?r8_21
      case y8_21 => (intro W hW; (try dsimp only at hW); go_simp; try (with_reducible rfl))
      simp only [Act.put, List.setIfInBounds_toArray, List.set_cons_zero, List.set_cons_succ]
      refine wpAnyH_ready (rs := [9]) (by kernel_rfl) (by simp) ?_
      refine AllReadyH.cons rfl (fun K hK => ?_) AllReadyH.nil
      go_simp
      refine (iAcctOk_c (va2.from_ ((Below.refl w1.heap.size w1).drew)) (by omega) hmk).mono ?_
      rintro e w_A ⟨rfl, hd_A⟩
      have hb_A : Below w1.heap.size w1 w_A := (Below.refl w1.heap.size w1).drew.trans hd_A
      rw [HQ.out]
      refine hK.out _ _ ⟨(hb_A.cell (p := ⟨b, 0, none⟩) lb2).trans c_a_0_w1, (hb_A.cell (p := ⟨b, 1, none⟩) lb2).trans c_a_1_w1, (hb_A.cell (p := ⟨b, 5, none⟩) lb2).trans c_a_5_w1, (hb_A.cell (p := ⟨wr.heap.size, 0, none⟩) lm2).trans c_m_0_w1, (hb_A.cell (p := ⟨wr.heap.size, 1, none⟩) lm2).trans c_m_1_w1, (hb_A.cell (p := ⟨wr.heap.size, 2, none⟩) lm2).trans c_m_2_w1, (hb_A.cell (p := ⟨wr.heap.size, 3, none⟩) lm2).trans c_m_3_w1, (hb_A.cell (p := ⟨wr.heap.size, 4, none⟩) lm2).trans c_m_4_w1, (hb_A.cell (p := ⟨b', off' + k * 3, none⟩) lc2).trans g0, (hb_A.cell (p := ⟨b', off' + k * 3 + 1, none⟩) lc2).trans g1, (hb_A.cell (p := ⟨b', off' + k * 3 + 2, none⟩) lc2).trans g2⟩ (fun _ => ?_)
      clear hK K
      refine takeN (i := 10) (v := ?v10_22) (d := (some 45)) rfl rfl (by kernel_rfl) (by kernel_rfl) (by kernel_rfl) (fun _ _ _ h => h) (Or.inl ⟨by rfl, ?y10_22⟩) ⟨(hb_A.cell (p := ⟨b, 0, none⟩) lb2).trans c_a_0_w1, (hb_A.cell (p := ⟨b, 1, none⟩) lb2).trans c_a_1_w1, (hb_A.cell (p := ⟨b, 5, none⟩) lb2).trans c_a_5_w1, (hb_A.cell (p := ⟨wr.heap.size, 0, none⟩) lm2).trans c_m_0_w1, (hb_A.cell (p := ⟨wr.heap.size, 1, none⟩) lm2).trans c_m_1_w1, (hb_A.cell (p := ⟨wr.heap.size, 2, none⟩) lm2).trans c_m_2_w1, (hb_A.cell (p := ⟨wr.heap.size, 3, none⟩) lm2).trans c_m_3_w1, (hb_A.cell (p := ⟨wr.heap.size, 4, none⟩) lm2).trans c_m_4_w1, (hb_A.cell (p := ⟨b', off' + k * 3, none⟩) lc2).trans g0, (hb_A.cell (p := ⟨b', off' + k * 3 + 1, none⟩) lc2).trans g1, (hb_A.cell (p := ⟨b', off' + k * 3 + 2, none⟩) lc2).trans g2⟩ ?r10_22
      case y10_22 => (intro W hW; (try dsimp only at hW); go_simp; try (with_reducible rfl))
      simp only [Act.put, List.setIfInBounds_toArray, List.set_cons_zero, List.set_cons_succ]
      refine takeN (i := 11) (v := ?v11_23) (d := (some 46)) rfl rfl (by kernel_rfl) (by kernel_rfl) (by kernel_rfl) (fun _ _ _ h => h) (Or.inl ⟨by rfl, ?y11_23⟩) ⟨(hb_A.cell (p := ⟨b, 0, none⟩) lb2).trans c_a_0_w1, (hb_A.cell (p := ⟨b, 1, none⟩) lb2).trans c_a_1_w1, (hb_A.cell (p := ⟨b, 5, none⟩) lb2).trans c_a_5_w1, (hb_A.cell (p := ⟨wr.heap.size, 0, none⟩) lm2).trans c_m_0_w1, (hb_A.cell (p := ⟨wr.heap.size, 1, none⟩) lm2).trans c_m_1_w1, (hb_A.cell (p := ⟨wr.heap.size, 2, none⟩) lm2).trans c_m_2_w1, (hb_A.cell (p := ⟨wr.heap.size, 3, none⟩) lm2).trans c_m_3_w1, (hb_A.cell (p := ⟨wr.heap.size, 4, none⟩) lm2).trans c_m_4_w1, (hb_A.cell (p := ⟨b', off' + k * 3, none⟩) lc2).trans g0, (hb_A.cell (p := ⟨b', off' + k * 3 + 1, none⟩) lc2).trans g1, (hb_A.cell (p := ⟨b', off' + k * 3 + 2, none⟩) lc2).trans g2⟩ ?r11_23
      case y11_23 => (intro W hW; (try dsimp only at hW); go_simp; try (with_reducible rfl))
      simp only [Act.put, List.setIfInBounds_toArray, List.set_cons_zero, List.set_cons_succ]
      refine takeN (i := 12) (v := ?v12_24) (d := (some 47)) rfl rfl (by kernel_rfl) (by kernel_rfl) (by kernel_rfl) (fun _ _ _ h => h) (Or.inl ⟨by rfl, ?y12_24⟩) ⟨(hb_A.cell (p := ⟨b, 0, none⟩) lb2).trans c_a_0_w1, (hb_A.cell (p := ⟨b, 1, none⟩) lb2).trans c_a_1_w1, (hb_A.cell (p := ⟨b, 5, none⟩) lb2).trans c_a_5_w1, (hb_A.cell (p := ⟨wr.heap.size, 0, none⟩) lm2).trans c_m_0_w1, (hb_A.cell (p := ⟨wr.heap.size, 1, none⟩) lm2).trans c_m_1_w1, (hb_A.cell (p := ⟨wr.heap.size, 2, none⟩) lm2).trans c_m_2_w1, (hb_A.cell (p := ⟨wr.heap.size, 3, none⟩) lm2).trans c_m_3_w1, (hb_A.cell (p := ⟨wr.heap.size, 4, none⟩) lm2).trans c_m_4_w1, (hb_A.cell (p := ⟨b', off' + k * 3, none⟩) lc2).trans g0, (hb_A.cell (p := ⟨b', off' + k * 3 + 1, none⟩) lc2).trans g1, (hb_A.cell (p := ⟨b', off' + k * 3 + 2, none⟩) lc2).trans g2⟩ ?r12_24
      case y12_24 => (intro W hW; (try dsimp only at hW); go_simp; try (with_reducible rfl))
      simp only [Act.put, List.setIfInBounds_toArray, List.set_cons_zero, List.set_cons_succ]
      refine takeN (i := 13) (v := ?v13_25) (d := (some 48)) rfl rfl (by kernel_rfl) (by kernel_rfl) (by kernel_rfl) (fun _ _ _ h => h) (Or.inl ⟨by rfl, ?y13_25⟩) ⟨(hb_A.cell (p := ⟨b, 0, none⟩) lb2).trans c_a_0_w1, (hb_A.cell (p := ⟨b, 1, none⟩) lb2).trans c_a_1_w1, (hb_A.cell (p := ⟨b, 5, none⟩) lb2).trans c_a_5_w1, (hb_A.cell (p := ⟨wr.heap.size, 0, none⟩) lm2).trans c_m_0_w1, (hb_A.cell (p := ⟨wr.heap.size, 1, none⟩) lm2).trans c_m_1_w1, (hb_A.cell (p := ⟨wr.heap.size, 2, none⟩) lm2).trans c_m_2_w1, (hb_A.cell (p := ⟨wr.heap.size, 3, none⟩) lm2).trans c_m_3_w1, (hb_A.cell (p := ⟨wr.heap.size, 4, none⟩) lm2).trans c_m_4_w1, (hb_A.cell (p := ⟨b', off' + k * 3, none⟩) lc2).trans g0, (hb_A.cell (p := ⟨b', off' + k * 3 + 1, none⟩) lc2).trans g1, (hb_A.cell (p := ⟨b', off' + k * 3 + 2, none⟩) lc2).trans g2⟩ ?r13_25
      case y13_25 => (intro W hW; (try dsimp only at hW); go_simp; try (with_reducible rfl))
      simp only [Act.put, List.setIfInBounds_toArray, List.set_cons_zero, List.set_cons_succ]
      refine takeN (i := 14) (v := ?v14_26) (d := (some 49)) rfl rfl (by kernel_rfl) (by kernel_rfl) (by kernel_rfl) (fun _ _ _ h => h) (Or.inl ⟨by rfl, ?y14_26⟩) ⟨(hb_A.cell (p := ⟨b, 0, none⟩) lb2).trans c_a_0_w1, (hb_A.cell (p := ⟨b, 1, none⟩) lb2).trans c_a_1_w1, (hb_A.cell (p := ⟨b, 5, none⟩) lb2).trans c_a_5_w1, (hb_A.cell (p := ⟨wr.heap.size, 0, none⟩) lm2).trans c_m_0_w1, (hb_A.cell (p := ⟨wr.heap.size, 1, none⟩) lm2).trans c_m_1_w1, (hb_A.cell (p := ⟨wr.heap.size, 2, none⟩) lm2).trans c_m_2_w1, (hb_A.cell (p := ⟨wr.heap.size, 3, none⟩) lm2).trans c_m_3_w1, (hb_A.cell (p := ⟨wr.heap.size, 4, none⟩) lm2).trans c_m_4_w1, (hb_A.cell (p := ⟨b', off' + k * 3, none⟩) lc2).trans g0, (hb_A.cell (p := ⟨b', off' + k * 3 + 1, none⟩) lc2).trans g1, (hb_A.cell (p := ⟨b', off' + k * 3 + 2, none⟩) lc2).trans g2⟩ ?r14_26
      case y14_26 => (intro W hW; (try dsimp only at hW); go_simp; try (with_reducible rfl))
      simp only [Act.put, List.setIfInBounds_toArray, List.set_cons_zero, List.set_cons_succ]
      refine takeN (i := 15) (v := ?v15_27) (d := (some 50)) rfl rfl (by kernel_rfl) (by kernel_rfl) (by kernel_rfl) (fun _ _ _ h => h) (Or.inl ⟨by rfl, ?y15_27⟩) ⟨(hb_A.cell (p := ⟨b, 0, none⟩) lb2).trans c_a_0_w1, (hb_A.cell (p := ⟨b, 1, none⟩) lb2).trans c_a_1_w1, (hb_A.cell (p := ⟨b, 5, none⟩) lb2).trans c_a_5_w1, (hb_A.cell (p := ⟨wr.heap.size, 0, none⟩) lm2).trans c_m_0_w1, (hb_A.cell (p := ⟨wr.heap.size, 1, none⟩) lm2).trans c_m_1_w1, (hb_A.cell (p := ⟨wr.heap.size, 2, none⟩) lm2).trans c_m_2_w1, (hb_A.cell (p := ⟨wr.heap.size, 3, none⟩) lm2).trans c_m_3_w1, (hb_A.cell (p := ⟨wr.heap.size, 4, none⟩) lm2).trans c_m_4_w1, (hb_A.cell (p := ⟨b', off' + k * 3, none⟩) lc2).trans g0, (hb_A.cell (p := ⟨b', off' + k * 3 + 1, none⟩) lc2).trans g1, (hb_A.cell (p := ⟨b', off' + k * 3 + 2, none⟩) lc2).trans g2⟩ ?r15_27
      case y15_27 => (intro W hW; (try dsimp only at hW); go_simp; try (with_reducible rfl))
      simp only [Act.put, List.setIfInBounds_toArray, List.set_cons_zero, List.set_cons_succ]
      refine takeN (i := 16) (v := ?v16_28) (d := (some 51)) rfl rfl (by kernel_rfl) (by kernel_rfl) (by kernel_rfl) (fun _ _ _ h => h) (Or.inl ⟨by rfl, ?y16_28⟩) ⟨(hb_A.cell (p := ⟨b, 0, none⟩) lb2).trans c_a_0_w1, (hb_A.cell (p := ⟨b, 1, none⟩) lb2).trans c_a_1_w1, (hb_A.cell (p := ⟨b, 5, none⟩) lb2).trans c_a_5_w1, (hb_A.cell (p := ⟨wr.heap.size, 0, none⟩) lm2).trans c_m_0_w1, (hb_A.cell (p := ⟨wr.heap.size, 1, none⟩) lm2).trans c_m_1_w1, (hb_A.cell (p := ⟨wr.heap.size, 2, none⟩) lm2).trans c_m_2_w1, (hb_A.cell (p := ⟨wr.heap.size, 3, none⟩) lm2).trans c_m_3_w1, (hb_A.cell (p := ⟨wr.heap.size, 4, none⟩) lm2).trans c_m_4_w1, (hb_A.cell (p := ⟨b', off' + k * 3, none⟩) lc2).trans g0, (hb_A.cell (p := ⟨b', off' + k * 3 + 1, none⟩) lc2).trans g1, (hb_A.cell (p := ⟨b', off' + k * 3 + 2, none⟩) lc2).trans g2⟩ ?r16_28
      case y16_28 => (intro W hW; (try dsimp only at hW); go_simp; try (with_reducible rfl))
      simp only [Act.put, List.setIfInBounds_toArray, List.set_cons_zero, List.set_cons_succ]
      refine takeN (i := 17) (v := ?v17_29) (d := (some 52)) rfl rfl (by kernel_rfl) (by kernel_rfl) (by kernel_rfl) (fun _ _ _ h => h) (Or.inl ⟨by rfl, ?y17_29⟩) ⟨(hb_A.cell (p := ⟨b, 0, none⟩) lb2).trans c_a_0_w1, (hb_A.cell (p := ⟨b, 1, none⟩) lb2).trans c_a_1_w1, (hb_A.cell (p := ⟨b, 5, none⟩) lb2).trans c_a_5_w1, (hb_A.cell (p := ⟨wr.heap.size, 0, none⟩) lm2).trans c_m_0_w1, (hb_A.cell (p := ⟨wr.heap.size, 1, none⟩) lm2).trans c_m_1_w1, (hb_A.cell (p := ⟨wr.heap.size, 2, none⟩) lm2).trans c_m_2_w1, (hb_A.cell (p := ⟨wr.heap.size, 3, none⟩) lm2).trans c_m_3_w1, (hb_A.cell (p := ⟨wr.heap.size, 4, none⟩) lm2).trans c_m_4_w1, (hb_A.cell (p := ⟨b', off' + k * 3, none⟩) lc2).trans g0, (hb_A.cell (p := ⟨b', off' + k * 3 + 1, none⟩) lc2).trans g1, (hb_A.cell (p := ⟨b', off' + k * 3 + 2, none⟩) lc2).trans g2⟩ ?r17_29
      case y17_29 => (intro W hW; (try dsimp only at hW); go_simp; try (with_reducible rfl))
      simp only [Act.put, List.setIfInBounds_toArray, List.set_cons_zero, List.set_cons_succ]
      refine takeN (i := 18) (v := ?v18_30) (d := (some 53)) rfl rfl (by kernel_rfl) (by kernel_rfl) (by kernel_rfl) (fun _ _ _ h => h) (Or.inl ⟨by rfl, ?y18_30⟩) ⟨(hb_A.cell (p := ⟨b, 0, none⟩) lb2).trans c_a_0_w1, (hb_A.cell (p := ⟨b, 1, none⟩) lb2).trans c_a_1_w1, (hb_A.cell (p := ⟨b, 5, none⟩) lb2).trans c_a_5_w1, (hb_A.cell (p := ⟨wr.heap.size, 0, none⟩) lm2).trans c_m_0_w1, (hb_A.cell (p := ⟨wr.heap.size, 1, none⟩) lm2).trans c_m_1_w1, (hb_A.cell (p := ⟨wr.heap.size, 2, none⟩) lm2).trans c_m_2_w1, (hb_A.cell (p := ⟨wr.heap.size, 3, none⟩) lm2).trans c_m_3_w1, (hb_A.cell (p := ⟨wr.heap.size, 4, none⟩) lm2).trans c_m_4_w1, (hb_A.cell (p := ⟨b', off' + k * 3, none⟩) lc2).trans g0, (hb_A.cell (p := ⟨b', off' + k * 3 + 1, none⟩) lc2).trans g1, (hb_A.cell (p := ⟨b', off' + k * 3 + 2, none⟩) lc2).trans g2⟩ ?r18_30
      case y18_30 => (intro W hW; (try dsimp only at hW); go_simp; try (with_reducible rfl))
      simp only [Act.put, List.setIfInBounds_toArray, List.set_cons_zero, List.set_cons_succ]
      refine wpAnyH_ready (rs := [19]) (by kernel_rfl) (by simp) ?_
      refine AllReadyH.cons rfl (fun K hK => ?_) AllReadyH.nil
      go_simp
      refine (iAccOk_c (vp2.from_ hb_A)).mono ?_
      rintro e w_C ⟨rfl, hd_C⟩
      have hb_C : Below w1.heap.size w1 w_C := hb_A.trans (hd_C.mono hb_A.size)
      rw [HN.out]
      refine hK.out _ _ ⟨(hb_C.cell (p := ⟨b, 0, none⟩) lb2).trans c_a_0_w1, (hb_C.cell (p := ⟨b, 1, none⟩) lb2).trans c_a_1_w1, (hb_C.cell (p := ⟨b, 5, none⟩) lb2).trans c_a_5_w1, (hb_C.cell (p := ⟨wr.heap.size, 0, none⟩) lm2).trans c_m_0_w1, (hb_C.cell (p := ⟨wr.heap.size, 1, none⟩) lm2).trans c_m_1_w1, (hb_C.cell (p := ⟨wr.heap.size, 2, none⟩) lm2).trans c_m_2_w1, (hb_C.cell (p := ⟨wr.heap.size, 3, none⟩) lm2).trans c_m_3_w1, (hb_C.cell (p := ⟨wr.heap.size, 4, none⟩) lm2).trans c_m_4_w1, (hb_C.cell (p := ⟨b', off' + k * 3, none⟩) lc2).trans g0, (hb_C.cell (p := ⟨b', off' + k * 3 + 1, none⟩) lc2).trans g1, (hb_C.cell (p := ⟨b', off' + k * 3 + 2, none⟩) lc2).trans g2⟩ (fun _ => ?_)
      clear hK K
      refine takeN (i := 20) (v := ?v20_31) (d := (some 55)) rfl rfl (by kernel_rfl) (by kernel_rfl) (by kernel_rfl) (fun _ _ _ h => h) (Or.inl ⟨by rfl, ?y20_31⟩) ⟨(hb_C.cell (p := ⟨b, 0, none⟩) lb2).trans c_a_0_w1, (hb_C.cell (p := ⟨b, 1, none⟩) lb2).trans c_a_1_w1, (hb_C.cell (p := ⟨b, 5, none⟩) lb2).trans c_a_5_w1, (hb_C.cell (p := ⟨wr.heap.size, 0, none⟩) lm2).trans c_m_0_w1, (hb_C.cell (p := ⟨wr.heap.size, 1, none⟩) lm2).trans c_m_1_w1, (hb_C.cell (p := ⟨wr.heap.size, 2, none⟩) lm2).trans c_m_2_w1, (hb_C.cell (p := ⟨wr.heap.size, 3, none⟩) lm2).trans c_m_3_w1, (hb_C.cell (p := ⟨wr.heap.size, 4, none⟩) lm2).trans c_m_4_w1, (hb_C.cell (p := ⟨b', off' + k * 3, none⟩) lc2).trans g0, (hb_C.cell (p := ⟨b', off' + k * 3 + 1, none⟩) lc2).trans g1, (hb_C.cell (p := ⟨b', off' + k * 3 + 2, none⟩) lc2).trans g2⟩ ?r20_31
      case y20_31 => (intro W hW; (try dsimp only at hW); go_simp; try (with_reducible rfl))
      simp only [Act.put, List.setIfInBounds_toArray, List.set_cons_zero, List.set_cons_succ]
      refine takeN (i := 21) (v := ?v21_32) (d := (some 56)) rfl rfl (by kernel_rfl) (by kernel_rfl) (by kernel_rfl) (fun _ _ _ h => h) (Or.inl ⟨by rfl, ?y21_32⟩) ⟨(hb_C.cell (p := ⟨b, 0, none⟩) lb2).trans c_a_0_w1, (hb_C.cell (p := ⟨b, 1, none⟩) lb2).trans c_a_1_w1, (hb_C.cell (p := ⟨b, 5, none⟩) lb2).trans c_a_5_w1, (hb_C.cell (p := ⟨wr.heap.size, 0, none⟩) lm2).trans c_m_0_w1, (hb_C.cell (p := ⟨wr.heap.size, 1, none⟩) lm2).trans c_m_1_w1, (hb_C.cell (p := ⟨wr.heap.size, 2, none⟩) lm2).trans c_m_2_w1, (hb_C.cell (p := ⟨wr.heap.size, 3, none⟩) lm2).trans c_m_3_w1, (hb_C.cell (p := ⟨wr.heap.size, 4, none⟩) lm2).trans c_m_4_w1, (hb_C.cell (p := ⟨b', off' + k * 3, none⟩) lc2).trans g0, (hb_C.cell (p := ⟨b', off' + k * 3 + 1, none⟩) lc2).trans g1, (hb_C.cell (p := ⟨b', off' + k * 3 + 2, none⟩) lc2).trans g2⟩ ?r21_32
      case y21_32 => (intro W hW; (try dsimp only at hW); go_simp; try (with_reducible rfl))
      simp only [Act.put, List.setIfInBounds_toArray, List.set_cons_zero, List.set_cons_succ]
      refine wpAnyH_done (by kernel_rfl) ?_ _
      go_wp2
      go_ret
      exact ⟨ret_eq (by rw [HO.out]; rfl), B_w1.trans (hb_C.mono B_w1.size)⟩
    have H2 : Hid (∀ i, i < k + 1 → ndAcct d i) := fun i hi => by
      by_cases e : i = k
      · rw [e]; exact ⟨by rw [ha]; exact hq1, by rw [hp]; exact hn⟩
      · exact HT.out i (by omega)
    have HN := Lib.hid hn
    clear hq1 hn ha hp
    go_wp2_with fail
    refine wp_region_held (S := fun w' => w'.cell? ⟨b, 0, none⟩ = some (.int .i64 d.Id) ∧ w'.cell? ⟨b, 1, none⟩ = some (.int .i64 d.N) ∧ w'.cell? ⟨b, 5, none⟩ = some (.slice (some ⟨b', off', none⟩) d.Accs.length cAccs) ∧ w'.cell? ⟨wr.heap.size, 0, none⟩ = some (.int .i64 a.Have) ∧ w'.cell? ⟨wr.heap.size, 1, none⟩ = some (.int .i64 a.State) ∧ w'.cell? ⟨wr.heap.size, 2, none⟩ = some (.int .i64 a.By) ∧ w'.cell? ⟨wr.heap.size, 3, none⟩ = some (.slice AM a.Marks.length cM) ∧ w'.cell? ⟨wr.heap.size, 4, none⟩ = some (.slice AR a.Reps.length cR) ∧ w'.cell? ⟨b', off' + k * 3, none⟩ = some (.int .i64 p.Prom) ∧ w'.cell? ⟨b', off' + k * 3 + 1, none⟩ = some (.int .i64 p.Bal) ∧ w'.cell? ⟨b', off' + k * 3 + 2, none⟩ = some (.int .i64 p.Val)) (by kernel_rfl) ?_
    refine takeN (i := 0) (v := ?v0_33) (d := (some 35)) rfl rfl (by kernel_rfl) (by kernel_rfl) (by kernel_rfl) (fun _ _ _ h => h) (Or.inl ⟨by rfl, ?y0_33⟩) ⟨c_a_0_w1, c_a_1_w1, c_a_5_w1, c_m_0_w1, c_m_1_w1, c_m_2_w1, c_m_3_w1, c_m_4_w1, g0, g1, g2⟩ ?r0_33
    case y0_33 => (intro W hW; (try dsimp only at hW); go_simp; try (with_reducible rfl))
    simp only [Act.put, List.setIfInBounds_toArray, List.set_cons_zero, List.set_cons_succ]
    refine takeN (i := 1) (v := ?v1_34) (d := (some 36)) rfl rfl (by kernel_rfl) (by kernel_rfl) (by kernel_rfl) (fun _ _ _ h => h) (Or.inl ⟨by rfl, ?y1_34⟩) ⟨c_a_0_w1, c_a_1_w1, c_a_5_w1, c_m_0_w1, c_m_1_w1, c_m_2_w1, c_m_3_w1, c_m_4_w1, g0, g1, g2⟩ ?r1_34
    case y1_34 => (intro W hW; (try dsimp only at hW); go_simp; try (with_reducible rfl))
    simp only [Act.put, List.setIfInBounds_toArray, List.set_cons_zero, List.set_cons_succ]
    refine takeN (i := 2) (v := ?v2_35) (d := (some 37)) rfl rfl (by kernel_rfl) (by kernel_rfl) (by kernel_rfl) (fun _ _ _ h => h) (Or.inl ⟨by rfl, ?y2_35⟩) ⟨c_a_0_w1, c_a_1_w1, c_a_5_w1, c_m_0_w1, c_m_1_w1, c_m_2_w1, c_m_3_w1, c_m_4_w1, g0, g1, g2⟩ ?r2_35
    case y2_35 => (intro W hW; (try dsimp only at hW); go_simp; try (with_reducible rfl))
    simp only [Act.put, List.setIfInBounds_toArray, List.set_cons_zero, List.set_cons_succ]
    refine takeN (i := 3) (v := ?v3_36) (d := (some 38)) rfl rfl (by kernel_rfl) (by kernel_rfl) (by kernel_rfl) (fun _ _ _ h => h) (Or.inl ⟨by rfl, ?y3_36⟩) ⟨c_a_0_w1, c_a_1_w1, c_a_5_w1, c_m_0_w1, c_m_1_w1, c_m_2_w1, c_m_3_w1, c_m_4_w1, g0, g1, g2⟩ ?r3_36
    case y3_36 => (intro W hW; (try dsimp only at hW); go_simp; try (with_reducible rfl))
    simp only [Act.put, List.setIfInBounds_toArray, List.set_cons_zero, List.set_cons_succ]
    refine takeN (i := 4) (v := ?v4_37) (d := (some 39)) rfl rfl (by kernel_rfl) (by kernel_rfl) (by kernel_rfl) (fun _ _ _ h => h) (Or.inl ⟨by rfl, ?y4_37⟩) ⟨c_a_0_w1, c_a_1_w1, c_a_5_w1, c_m_0_w1, c_m_1_w1, c_m_2_w1, c_m_3_w1, c_m_4_w1, g0, g1, g2⟩ ?r4_37
    case y4_37 => (intro W hW; (try dsimp only at hW); go_simp; try (with_reducible rfl))
    simp only [Act.put, List.setIfInBounds_toArray, List.set_cons_zero, List.set_cons_succ]
    refine takeN (i := 5) (v := ?v5_38) (d := (some 40)) rfl rfl (by kernel_rfl) (by kernel_rfl) (by kernel_rfl) (fun _ _ _ h => h) (Or.inl ⟨by rfl, ?y5_38⟩) ⟨c_a_0_w1, c_a_1_w1, c_a_5_w1, c_m_0_w1, c_m_1_w1, c_m_2_w1, c_m_3_w1, c_m_4_w1, g0, g1, g2⟩ ?r5_38
    case y5_38 => (intro W hW; (try dsimp only at hW); go_simp; try (with_reducible rfl))
    simp only [Act.put, List.setIfInBounds_toArray, List.set_cons_zero, List.set_cons_succ]
    refine takeN (i := 6) (v := ?v6_39) (d := (some 41)) rfl rfl (by kernel_rfl) (by kernel_rfl) (by kernel_rfl) (fun _ _ _ h => h) (Or.inl ⟨by rfl, ?y6_39⟩) ⟨c_a_0_w1, c_a_1_w1, c_a_5_w1, c_m_0_w1, c_m_1_w1, c_m_2_w1, c_m_3_w1, c_m_4_w1, g0, g1, g2⟩ ?r6_39
    case y6_39 => (intro W hW; (try dsimp only at hW); go_simp; try (with_reducible rfl))
    simp only [Act.put, List.setIfInBounds_toArray, List.set_cons_zero, List.set_cons_succ]
    refine takeN (i := 7) (v := ?v7_40) (d := (some 42)) rfl rfl (by kernel_rfl) (by kernel_rfl) (by kernel_rfl) (fun _ _ _ h => h) (Or.inl ⟨by rfl, ?y7_40⟩) ⟨c_a_0_w1, c_a_1_w1, c_a_5_w1, c_m_0_w1, c_m_1_w1, c_m_2_w1, c_m_3_w1, c_m_4_w1, g0, g1, g2⟩ ?r7_40
    case y7_40 => (intro W hW; (try dsimp only at hW); go_simp; try (with_reducible rfl))
    simp only [Act.put, List.setIfInBounds_toArray, List.set_cons_zero, List.set_cons_succ]
    refine takeN (i := 8) (v := ?v8_41) (d := (some 43)) rfl rfl (by kernel_rfl) (by kernel_rfl) (by kernel_rfl) (fun _ _ _ h => h) (Or.inl ⟨by rfl, ?y8_41⟩) ⟨c_a_0_w1, c_a_1_w1, c_a_5_w1, c_m_0_w1, c_m_1_w1, c_m_2_w1, c_m_3_w1, c_m_4_w1, g0, g1, g2⟩ ?r8_41
    case y8_41 => (intro W hW; (try dsimp only at hW); go_simp; try (with_reducible rfl))
    simp only [Act.put, List.setIfInBounds_toArray, List.set_cons_zero, List.set_cons_succ]
    refine wpAnyH_ready (rs := [9]) (by kernel_rfl) (by simp) ?_
    refine AllReadyH.cons rfl (fun K hK => ?_) AllReadyH.nil
    go_simp
    refine (iAcctOk_c (va2.from_ ((Below.refl w1.heap.size w1).drew)) (by omega) hmk).mono ?_
    rintro e w_A ⟨rfl, hd_A⟩
    have hb_A : Below w1.heap.size w1 w_A := (Below.refl w1.heap.size w1).drew.trans hd_A
    rw [HQ.out]
    refine hK.out _ _ ⟨(hb_A.cell (p := ⟨b, 0, none⟩) lb2).trans c_a_0_w1, (hb_A.cell (p := ⟨b, 1, none⟩) lb2).trans c_a_1_w1, (hb_A.cell (p := ⟨b, 5, none⟩) lb2).trans c_a_5_w1, (hb_A.cell (p := ⟨wr.heap.size, 0, none⟩) lm2).trans c_m_0_w1, (hb_A.cell (p := ⟨wr.heap.size, 1, none⟩) lm2).trans c_m_1_w1, (hb_A.cell (p := ⟨wr.heap.size, 2, none⟩) lm2).trans c_m_2_w1, (hb_A.cell (p := ⟨wr.heap.size, 3, none⟩) lm2).trans c_m_3_w1, (hb_A.cell (p := ⟨wr.heap.size, 4, none⟩) lm2).trans c_m_4_w1, (hb_A.cell (p := ⟨b', off' + k * 3, none⟩) lc2).trans g0, (hb_A.cell (p := ⟨b', off' + k * 3 + 1, none⟩) lc2).trans g1, (hb_A.cell (p := ⟨b', off' + k * 3 + 2, none⟩) lc2).trans g2⟩ (fun _ => ?_)
    clear hK K
    refine takeN (i := 10) (v := ?v10_42) (d := (some 45)) rfl rfl (by kernel_rfl) (by kernel_rfl) (by kernel_rfl) (fun _ _ _ h => h) (Or.inl ⟨by rfl, ?y10_42⟩) ⟨(hb_A.cell (p := ⟨b, 0, none⟩) lb2).trans c_a_0_w1, (hb_A.cell (p := ⟨b, 1, none⟩) lb2).trans c_a_1_w1, (hb_A.cell (p := ⟨b, 5, none⟩) lb2).trans c_a_5_w1, (hb_A.cell (p := ⟨wr.heap.size, 0, none⟩) lm2).trans c_m_0_w1, (hb_A.cell (p := ⟨wr.heap.size, 1, none⟩) lm2).trans c_m_1_w1, (hb_A.cell (p := ⟨wr.heap.size, 2, none⟩) lm2).trans c_m_2_w1, (hb_A.cell (p := ⟨wr.heap.size, 3, none⟩) lm2).trans c_m_3_w1, (hb_A.cell (p := ⟨wr.heap.size, 4, none⟩) lm2).trans c_m_4_w1, (hb_A.cell (p := ⟨b', off' + k * 3, none⟩) lc2).trans g0, (hb_A.cell (p := ⟨b', off' + k * 3 + 1, none⟩) lc2).trans g1, (hb_A.cell (p := ⟨b', off' + k * 3 + 2, none⟩) lc2).trans g2⟩ ?r10_42
    case y10_42 => (intro W hW; (try dsimp only at hW); go_simp; try (with_reducible rfl))
    simp only [Act.put, List.setIfInBounds_toArray, List.set_cons_zero, List.set_cons_succ]
    refine takeN (i := 11) (v := ?v11_43) (d := (some 46)) rfl rfl (by kernel_rfl) (by kernel_rfl) (by kernel_rfl) (fun _ _ _ h => h) (Or.inl ⟨by rfl, ?y11_43⟩) ⟨(hb_A.cell (p := ⟨b, 0, none⟩) lb2).trans c_a_0_w1, (hb_A.cell (p := ⟨b, 1, none⟩) lb2).trans c_a_1_w1, (hb_A.cell (p := ⟨b, 5, none⟩) lb2).trans c_a_5_w1, (hb_A.cell (p := ⟨wr.heap.size, 0, none⟩) lm2).trans c_m_0_w1, (hb_A.cell (p := ⟨wr.heap.size, 1, none⟩) lm2).trans c_m_1_w1, (hb_A.cell (p := ⟨wr.heap.size, 2, none⟩) lm2).trans c_m_2_w1, (hb_A.cell (p := ⟨wr.heap.size, 3, none⟩) lm2).trans c_m_3_w1, (hb_A.cell (p := ⟨wr.heap.size, 4, none⟩) lm2).trans c_m_4_w1, (hb_A.cell (p := ⟨b', off' + k * 3, none⟩) lc2).trans g0, (hb_A.cell (p := ⟨b', off' + k * 3 + 1, none⟩) lc2).trans g1, (hb_A.cell (p := ⟨b', off' + k * 3 + 2, none⟩) lc2).trans g2⟩ ?r11_43
    case y11_43 => (intro W hW; (try dsimp only at hW); go_simp; try (with_reducible rfl))
    simp only [Act.put, List.setIfInBounds_toArray, List.set_cons_zero, List.set_cons_succ]
    refine takeN (i := 12) (v := ?v12_44) (d := (some 47)) rfl rfl (by kernel_rfl) (by kernel_rfl) (by kernel_rfl) (fun _ _ _ h => h) (Or.inl ⟨by rfl, ?y12_44⟩) ⟨(hb_A.cell (p := ⟨b, 0, none⟩) lb2).trans c_a_0_w1, (hb_A.cell (p := ⟨b, 1, none⟩) lb2).trans c_a_1_w1, (hb_A.cell (p := ⟨b, 5, none⟩) lb2).trans c_a_5_w1, (hb_A.cell (p := ⟨wr.heap.size, 0, none⟩) lm2).trans c_m_0_w1, (hb_A.cell (p := ⟨wr.heap.size, 1, none⟩) lm2).trans c_m_1_w1, (hb_A.cell (p := ⟨wr.heap.size, 2, none⟩) lm2).trans c_m_2_w1, (hb_A.cell (p := ⟨wr.heap.size, 3, none⟩) lm2).trans c_m_3_w1, (hb_A.cell (p := ⟨wr.heap.size, 4, none⟩) lm2).trans c_m_4_w1, (hb_A.cell (p := ⟨b', off' + k * 3, none⟩) lc2).trans g0, (hb_A.cell (p := ⟨b', off' + k * 3 + 1, none⟩) lc2).trans g1, (hb_A.cell (p := ⟨b', off' + k * 3 + 2, none⟩) lc2).trans g2⟩ ?r12_44
    case y12_44 => (intro W hW; (try dsimp only at hW); go_simp; try (with_reducible rfl))
    simp only [Act.put, List.setIfInBounds_toArray, List.set_cons_zero, List.set_cons_succ]
    refine takeN (i := 13) (v := ?v13_45) (d := (some 48)) rfl rfl (by kernel_rfl) (by kernel_rfl) (by kernel_rfl) (fun _ _ _ h => h) (Or.inl ⟨by rfl, ?y13_45⟩) ⟨(hb_A.cell (p := ⟨b, 0, none⟩) lb2).trans c_a_0_w1, (hb_A.cell (p := ⟨b, 1, none⟩) lb2).trans c_a_1_w1, (hb_A.cell (p := ⟨b, 5, none⟩) lb2).trans c_a_5_w1, (hb_A.cell (p := ⟨wr.heap.size, 0, none⟩) lm2).trans c_m_0_w1, (hb_A.cell (p := ⟨wr.heap.size, 1, none⟩) lm2).trans c_m_1_w1, (hb_A.cell (p := ⟨wr.heap.size, 2, none⟩) lm2).trans c_m_2_w1, (hb_A.cell (p := ⟨wr.heap.size, 3, none⟩) lm2).trans c_m_3_w1, (hb_A.cell (p := ⟨wr.heap.size, 4, none⟩) lm2).trans c_m_4_w1, (hb_A.cell (p := ⟨b', off' + k * 3, none⟩) lc2).trans g0, (hb_A.cell (p := ⟨b', off' + k * 3 + 1, none⟩) lc2).trans g1, (hb_A.cell (p := ⟨b', off' + k * 3 + 2, none⟩) lc2).trans g2⟩ ?r13_45
    case y13_45 => (intro W hW; (try dsimp only at hW); go_simp; try (with_reducible rfl))
    simp only [Act.put, List.setIfInBounds_toArray, List.set_cons_zero, List.set_cons_succ]
    refine takeN (i := 14) (v := ?v14_46) (d := (some 49)) rfl rfl (by kernel_rfl) (by kernel_rfl) (by kernel_rfl) (fun _ _ _ h => h) (Or.inl ⟨by rfl, ?y14_46⟩) ⟨(hb_A.cell (p := ⟨b, 0, none⟩) lb2).trans c_a_0_w1, (hb_A.cell (p := ⟨b, 1, none⟩) lb2).trans c_a_1_w1, (hb_A.cell (p := ⟨b, 5, none⟩) lb2).trans c_a_5_w1, (hb_A.cell (p := ⟨wr.heap.size, 0, none⟩) lm2).trans c_m_0_w1, (hb_A.cell (p := ⟨wr.heap.size, 1, none⟩) lm2).trans c_m_1_w1, (hb_A.cell (p := ⟨wr.heap.size, 2, none⟩) lm2).trans c_m_2_w1, (hb_A.cell (p := ⟨wr.heap.size, 3, none⟩) lm2).trans c_m_3_w1, (hb_A.cell (p := ⟨wr.heap.size, 4, none⟩) lm2).trans c_m_4_w1, (hb_A.cell (p := ⟨b', off' + k * 3, none⟩) lc2).trans g0, (hb_A.cell (p := ⟨b', off' + k * 3 + 1, none⟩) lc2).trans g1, (hb_A.cell (p := ⟨b', off' + k * 3 + 2, none⟩) lc2).trans g2⟩ ?r14_46
    case y14_46 => (intro W hW; (try dsimp only at hW); go_simp; try (with_reducible rfl))
    simp only [Act.put, List.setIfInBounds_toArray, List.set_cons_zero, List.set_cons_succ]
    refine takeN (i := 15) (v := ?v15_47) (d := (some 50)) rfl rfl (by kernel_rfl) (by kernel_rfl) (by kernel_rfl) (fun _ _ _ h => h) (Or.inl ⟨by rfl, ?y15_47⟩) ⟨(hb_A.cell (p := ⟨b, 0, none⟩) lb2).trans c_a_0_w1, (hb_A.cell (p := ⟨b, 1, none⟩) lb2).trans c_a_1_w1, (hb_A.cell (p := ⟨b, 5, none⟩) lb2).trans c_a_5_w1, (hb_A.cell (p := ⟨wr.heap.size, 0, none⟩) lm2).trans c_m_0_w1, (hb_A.cell (p := ⟨wr.heap.size, 1, none⟩) lm2).trans c_m_1_w1, (hb_A.cell (p := ⟨wr.heap.size, 2, none⟩) lm2).trans c_m_2_w1, (hb_A.cell (p := ⟨wr.heap.size, 3, none⟩) lm2).trans c_m_3_w1, (hb_A.cell (p := ⟨wr.heap.size, 4, none⟩) lm2).trans c_m_4_w1, (hb_A.cell (p := ⟨b', off' + k * 3, none⟩) lc2).trans g0, (hb_A.cell (p := ⟨b', off' + k * 3 + 1, none⟩) lc2).trans g1, (hb_A.cell (p := ⟨b', off' + k * 3 + 2, none⟩) lc2).trans g2⟩ ?r15_47
    case y15_47 => (intro W hW; (try dsimp only at hW); go_simp; try (with_reducible rfl))
    simp only [Act.put, List.setIfInBounds_toArray, List.set_cons_zero, List.set_cons_succ]
    refine takeN (i := 16) (v := ?v16_48) (d := (some 51)) rfl rfl (by kernel_rfl) (by kernel_rfl) (by kernel_rfl) (fun _ _ _ h => h) (Or.inl ⟨by rfl, ?y16_48⟩) ⟨(hb_A.cell (p := ⟨b, 0, none⟩) lb2).trans c_a_0_w1, (hb_A.cell (p := ⟨b, 1, none⟩) lb2).trans c_a_1_w1, (hb_A.cell (p := ⟨b, 5, none⟩) lb2).trans c_a_5_w1, (hb_A.cell (p := ⟨wr.heap.size, 0, none⟩) lm2).trans c_m_0_w1, (hb_A.cell (p := ⟨wr.heap.size, 1, none⟩) lm2).trans c_m_1_w1, (hb_A.cell (p := ⟨wr.heap.size, 2, none⟩) lm2).trans c_m_2_w1, (hb_A.cell (p := ⟨wr.heap.size, 3, none⟩) lm2).trans c_m_3_w1, (hb_A.cell (p := ⟨wr.heap.size, 4, none⟩) lm2).trans c_m_4_w1, (hb_A.cell (p := ⟨b', off' + k * 3, none⟩) lc2).trans g0, (hb_A.cell (p := ⟨b', off' + k * 3 + 1, none⟩) lc2).trans g1, (hb_A.cell (p := ⟨b', off' + k * 3 + 2, none⟩) lc2).trans g2⟩ ?r16_48
    case y16_48 => (intro W hW; (try dsimp only at hW); go_simp; try (with_reducible rfl))
    simp only [Act.put, List.setIfInBounds_toArray, List.set_cons_zero, List.set_cons_succ]
    refine takeN (i := 17) (v := ?v17_49) (d := (some 52)) rfl rfl (by kernel_rfl) (by kernel_rfl) (by kernel_rfl) (fun _ _ _ h => h) (Or.inl ⟨by rfl, ?y17_49⟩) ⟨(hb_A.cell (p := ⟨b, 0, none⟩) lb2).trans c_a_0_w1, (hb_A.cell (p := ⟨b, 1, none⟩) lb2).trans c_a_1_w1, (hb_A.cell (p := ⟨b, 5, none⟩) lb2).trans c_a_5_w1, (hb_A.cell (p := ⟨wr.heap.size, 0, none⟩) lm2).trans c_m_0_w1, (hb_A.cell (p := ⟨wr.heap.size, 1, none⟩) lm2).trans c_m_1_w1, (hb_A.cell (p := ⟨wr.heap.size, 2, none⟩) lm2).trans c_m_2_w1, (hb_A.cell (p := ⟨wr.heap.size, 3, none⟩) lm2).trans c_m_3_w1, (hb_A.cell (p := ⟨wr.heap.size, 4, none⟩) lm2).trans c_m_4_w1, (hb_A.cell (p := ⟨b', off' + k * 3, none⟩) lc2).trans g0, (hb_A.cell (p := ⟨b', off' + k * 3 + 1, none⟩) lc2).trans g1, (hb_A.cell (p := ⟨b', off' + k * 3 + 2, none⟩) lc2).trans g2⟩ ?r17_49
    case y17_49 => (intro W hW; (try dsimp only at hW); go_simp; try (with_reducible rfl))
    simp only [Act.put, List.setIfInBounds_toArray, List.set_cons_zero, List.set_cons_succ]
    refine takeN (i := 18) (v := ?v18_50) (d := (some 53)) rfl rfl (by kernel_rfl) (by kernel_rfl) (by kernel_rfl) (fun _ _ _ h => h) (Or.inl ⟨by rfl, ?y18_50⟩) ⟨(hb_A.cell (p := ⟨b, 0, none⟩) lb2).trans c_a_0_w1, (hb_A.cell (p := ⟨b, 1, none⟩) lb2).trans c_a_1_w1, (hb_A.cell (p := ⟨b, 5, none⟩) lb2).trans c_a_5_w1, (hb_A.cell (p := ⟨wr.heap.size, 0, none⟩) lm2).trans c_m_0_w1, (hb_A.cell (p := ⟨wr.heap.size, 1, none⟩) lm2).trans c_m_1_w1, (hb_A.cell (p := ⟨wr.heap.size, 2, none⟩) lm2).trans c_m_2_w1, (hb_A.cell (p := ⟨wr.heap.size, 3, none⟩) lm2).trans c_m_3_w1, (hb_A.cell (p := ⟨wr.heap.size, 4, none⟩) lm2).trans c_m_4_w1, (hb_A.cell (p := ⟨b', off' + k * 3, none⟩) lc2).trans g0, (hb_A.cell (p := ⟨b', off' + k * 3 + 1, none⟩) lc2).trans g1, (hb_A.cell (p := ⟨b', off' + k * 3 + 2, none⟩) lc2).trans g2⟩ ?r18_50
    case y18_50 => (intro W hW; (try dsimp only at hW); go_simp; try (with_reducible rfl))
    simp only [Act.put, List.setIfInBounds_toArray, List.set_cons_zero, List.set_cons_succ]
    refine wpAnyH_ready (rs := [19]) (by kernel_rfl) (by simp) ?_
    refine AllReadyH.cons rfl (fun K hK => ?_) AllReadyH.nil
    go_simp
    refine (iAccOk_c (vp2.from_ hb_A)).mono ?_
    rintro e w_C ⟨rfl, hd_C⟩
    have hb_C : Below w1.heap.size w1 w_C := hb_A.trans (hd_C.mono hb_A.size)
    rw [HN.out]
    refine hK.out _ _ ⟨(hb_C.cell (p := ⟨b, 0, none⟩) lb2).trans c_a_0_w1, (hb_C.cell (p := ⟨b, 1, none⟩) lb2).trans c_a_1_w1, (hb_C.cell (p := ⟨b, 5, none⟩) lb2).trans c_a_5_w1, (hb_C.cell (p := ⟨wr.heap.size, 0, none⟩) lm2).trans c_m_0_w1, (hb_C.cell (p := ⟨wr.heap.size, 1, none⟩) lm2).trans c_m_1_w1, (hb_C.cell (p := ⟨wr.heap.size, 2, none⟩) lm2).trans c_m_2_w1, (hb_C.cell (p := ⟨wr.heap.size, 3, none⟩) lm2).trans c_m_3_w1, (hb_C.cell (p := ⟨wr.heap.size, 4, none⟩) lm2).trans c_m_4_w1, (hb_C.cell (p := ⟨b', off' + k * 3, none⟩) lc2).trans g0, (hb_C.cell (p := ⟨b', off' + k * 3 + 1, none⟩) lc2).trans g1, (hb_C.cell (p := ⟨b', off' + k * 3 + 2, none⟩) lc2).trans g2⟩ (fun _ => ?_)
    clear hK K
    refine takeN (i := 20) (v := ?v20_51) (d := (some 55)) rfl rfl (by kernel_rfl) (by kernel_rfl) (by kernel_rfl) (fun _ _ _ h => h) (Or.inl ⟨by rfl, ?y20_51⟩) ⟨(hb_C.cell (p := ⟨b, 0, none⟩) lb2).trans c_a_0_w1, (hb_C.cell (p := ⟨b, 1, none⟩) lb2).trans c_a_1_w1, (hb_C.cell (p := ⟨b, 5, none⟩) lb2).trans c_a_5_w1, (hb_C.cell (p := ⟨wr.heap.size, 0, none⟩) lm2).trans c_m_0_w1, (hb_C.cell (p := ⟨wr.heap.size, 1, none⟩) lm2).trans c_m_1_w1, (hb_C.cell (p := ⟨wr.heap.size, 2, none⟩) lm2).trans c_m_2_w1, (hb_C.cell (p := ⟨wr.heap.size, 3, none⟩) lm2).trans c_m_3_w1, (hb_C.cell (p := ⟨wr.heap.size, 4, none⟩) lm2).trans c_m_4_w1, (hb_C.cell (p := ⟨b', off' + k * 3, none⟩) lc2).trans g0, (hb_C.cell (p := ⟨b', off' + k * 3 + 1, none⟩) lc2).trans g1, (hb_C.cell (p := ⟨b', off' + k * 3 + 2, none⟩) lc2).trans g2⟩ ?r20_51
    case y20_51 => (intro W hW; (try dsimp only at hW); go_simp; try (with_reducible rfl))
    simp only [Act.put, List.setIfInBounds_toArray, List.set_cons_zero, List.set_cons_succ]
    refine takeN (i := 21) (v := ?v21_52) (d := (some 56)) rfl rfl (by kernel_rfl) (by kernel_rfl) (by kernel_rfl) (fun _ _ _ h => h) (Or.inl ⟨by rfl, ?y21_52⟩) ⟨(hb_C.cell (p := ⟨b, 0, none⟩) lb2).trans c_a_0_w1, (hb_C.cell (p := ⟨b, 1, none⟩) lb2).trans c_a_1_w1, (hb_C.cell (p := ⟨b, 5, none⟩) lb2).trans c_a_5_w1, (hb_C.cell (p := ⟨wr.heap.size, 0, none⟩) lm2).trans c_m_0_w1, (hb_C.cell (p := ⟨wr.heap.size, 1, none⟩) lm2).trans c_m_1_w1, (hb_C.cell (p := ⟨wr.heap.size, 2, none⟩) lm2).trans c_m_2_w1, (hb_C.cell (p := ⟨wr.heap.size, 3, none⟩) lm2).trans c_m_3_w1, (hb_C.cell (p := ⟨wr.heap.size, 4, none⟩) lm2).trans c_m_4_w1, (hb_C.cell (p := ⟨b', off' + k * 3, none⟩) lc2).trans g0, (hb_C.cell (p := ⟨b', off' + k * 3 + 1, none⟩) lc2).trans g1, (hb_C.cell (p := ⟨b', off' + k * 3 + 2, none⟩) lc2).trans g2⟩ ?r21_52
    case y21_52 => (intro W hW; (try dsimp only at hW); go_simp; try (with_reducible rfl))
    simp only [Act.put, List.setIfInBounds_toArray, List.set_cons_zero, List.set_cons_succ]
    refine wpAnyH_done (by kernel_rfl) ?_ _
    replace x_a := x_a.from_ hb_C
    go_wp2
    go_roundw
    case rel => exact ⟨k + 1, by omega, by go_num, H2, x_a, B_w1.trans (hb_C.mono B_w1.size)⟩
    case measure => simp [intOf]; omega

set_option maxRecDepth 100000 in
set_option maxHeartbeats 8000000 in
theorem iLinks_c {w : World} {b : Nat} {d : MNode} {AAccts AOuts AIns AAccs : Option Addr} {cAccts cOuts cIns cAccs : Nat} (x_a : Vr w b 34 [.int .i64 d.Id, .int .i64 d.N, .slice AAccts d.Accts.length cAccts, .slice AOuts d.Outs.length cOuts, .slice AIns d.Ins.length cIns, .slice AAccs d.Accs.length cAccs, .int .i64 d.Stray, .int .i64 d.Came, .int .i64 d.Went]) (rOuts : RV outSL w (.slice AOuts d.Outs.length cOuts) d.Outs) (rIns : RS .i64 w (.slice AIns d.Ins.length cIns) d.Ins) (hb : sumG MOut.bulk d.Outs ≤ 16777216) (hpl : placeB d = true) : Calls Try.prog 43 #[.pointer (some ⟨b, 0, none⟩)] w fun e w' => e = .returned (.bool (linksB d)) ∧ Below w.heap.size w w' := by
  have B0 : Below w.heap.size w w := Below.refl _ _
  have c_a_0_w := x_a.cell (i := 0) rfl
  have c_a_1_w := x_a.cell (i := 1) rfl
  have c_a_2_w := x_a.cell (i := 2) rfl
  have c_a_3_w := x_a.cell (i := 3) rfl
  have c_a_4_w := x_a.cell (i := 4) rfl
  have c_a_5_w := x_a.cell (i := 5) rfl
  have c_a_6_w := x_a.cell (i := 6) rfl
  have c_a_7_w := x_a.cell (i := 7) rfl
  have c_a_8_w := x_a.cell (i := 8) rfl
  have lb := x_a.lt
  obtain ⟨A', c', he, -, -, hrO⟩ := rv_slice rOuts
  simp only [Value.slice.injEq, true_and] at he
  obtain ⟨rfl, rfl⟩ := he
  clear rOuts
  have bn : (1 ≤ d.N ∧ d.N ≤ 4) ∧ (0 ≤ d.Id ∧ d.Id ≤ d.N - 1) := by unfold placeB at hpl; simp only [Bool.and_eq_true, inB_true] at hpl; exact hpl
  clear hpl
  by_cases hO : (d.Outs.length : Int) = d.N
  case neg =>
    have HO : Hid (linksB d = false) := by show _ = _; unfold linksB; rw [decide_eq_false hO]; rfl
    have gO : ((d.Outs.length : Int) != d.N) = true := by rw [bne_iff_ne]; omega
    clear hO
    go_enter Try.func43, Try.ntmps43
    go_wp2_with fail
    go_quiet (fail)
    have B9 := B0.trans (below_of_drew _ _ nq)
    go_wp2
    go_ret
    exact ⟨ret_eq (by rw [HO.out]; rfl), B9⟩
  by_cases hJ : (d.Ins.length : Int) = d.N
  case neg =>
    have HO : Hid (linksB d = false) := by show _ = _; unfold linksB; rw [decide_eq_true hO, decide_eq_false hJ]; rfl
    have gO : ((d.Outs.length : Int) != d.N) = false := by rw [bne_eq_false_iff_eq]; omega
    have gJ : ((d.Ins.length : Int) != d.N) = true := by rw [bne_iff_ne]; omega
    clear hO hJ
    go_enter Try.func43, Try.ntmps43
    go_wp2_with fail
    go_quiet (fail)
    have B9 := B0.trans (below_of_drew _ _ nq)
    go_wp2
    go_ret
    exact ⟨ret_eq (by rw [HO.out]; rfl), B9⟩
  have gO : ((d.Outs.length : Int) != d.N) = false := by rw [bne_eq_false_iff_eq]; omega
  have gJ : ((d.Ins.length : Int) != d.N) = false := by rw [bne_eq_false_iff_eq]; omega
  have HE : Hid (linksB d = (ndOuts d && ndLast d)) := by show _ = _; unfold linksB; rw [decide_eq_true hO, decide_eq_true hJ]; rfl
  have lO1 : (d.Outs.length : Int) ≤ d.N := by omega
  have lO2 : (d.Outs.length : Int) ≥ d.N := by omega
  have lJ1 : (d.Ins.length : Int) ≤ d.N := by omega
  have lJ2 : (d.Ins.length : Int) ≥ d.N := by omega
  clear hO hJ
  go_enter Try.func43, Try.ntmps43
  go_wp2_with fail
  go_quiet (fail)
  have B9 := B0.trans (below_of_drew _ _ nq)
  have X9 := x_a.from_ (below_of_drew w.heap.size w nq)
  have c9_0 := X9.cell (i := 0) rfl
  have c9_1 := X9.cell (i := 1) rfl
  have c9_2 := X9.cell (i := 2) rfl
  have c9_3 := X9.cell (i := 3) rfl
  have c9_4 := X9.cell (i := 4) rfl
  have c9_5 := X9.cell (i := 5) rfl
  have c9_6 := X9.cell (i := 6) rfl
  have c9_7 := X9.cell (i := 7) rfl
  have c9_8 := X9.cell (i := 8) rfl
  go_wp2
  go_loopw [32] (fun i wr => ∃ k : Nat, k ≤ d.Outs.length ∧ i = .int .i64 k ∧ Hid (∀ i, i < k → ndOut d i) ∧ Vr wr b 34 [.int .i64 d.Id, .int .i64 d.N, .slice AAccts d.Accts.length cAccts, .slice AOuts d.Outs.length cOuts, .slice AIns d.Ins.length cIns, .slice AAccs d.Accs.length cAccs, .int .i64 d.Stray, .int .i64 d.Came, .int .i64 d.Went] ∧ Below w.heap.size w wr) (fun i _ => d.Outs.length - (intOf i).toNat)
  case atStart => exact ⟨0, Nat.zero_le _, rfl, fun i hi => by omega, X9, B9⟩
  case round =>
    clear x_a X9 B9 c9_0 c9_1 c9_2 c9_3 c9_4 c9_5 c9_6 c9_7 c9_8 c_a_0_w c_a_1_w c_a_2_w c_a_3_w c_a_4_w c_a_5_w c_a_6_w c_a_7_w c_a_8_w
    obtain ⟨j, hj, rfl, HT, x_a, HB⟩ := hrel
    have hs := HB.size
    by_cases hlt : j < d.Outs.length
    case neg =>
      have hk2 : ¬ ((j : Int) < (d.Outs.length : Int)) := by omega
      have HE2 : Hid (linksB d = ndLast d) := by show _ = _; rw [HE.out, show ndOuts d = true from decide_eq_true (fun i hi => HT.out i (by omega))]; rfl
      clear HT
      obtain ⟨m, hm⟩ : ∃ m : Nat, d.Id = (m : Int) := ⟨d.Id.toNat, by omega⟩
      rw [hm] at x_a
      obtain ⟨p, hpe⟩ := get_of_lt (xs := d.Outs) (k := m) (by omega)
      have hp := outG_of hpe
      have hpb := sumG_at (s := MOut.bulk) hpe
      have hpu : p.bulk = p.List.length := rfl
      obtain ⟨b1, off, AList, cList, rfl, hbb, e0, e1, rp⟩ := el_out (hrO.below HB) hpe hs
      obtain ⟨b', off', rfl, hbb', hc⟩ := rdi_at ((rIns.rd_).below HB) (by omega)
      have f0 := hc m (by omega)
      obtain ⟨y, hy⟩ : ∃ y, d.Ins.getD m 0 = y := ⟨_, rfl⟩
      rw [hy] at f0
      clear hc hpe
      have hbq : b1 < wr.heap.size := by omega
      have hbq' : b' < wr.heap.size := by omega
      have lr := x_a.lt
      have vp : RV outL wr _ p := rv_out_mk rp
      have HL : Hid (ndLast d = (outSameB p outNew && decide (y = 0))) := by show _ = _; unfold ndLast; rw [show d.Id.toNat = m by omega, hp, hy]
      have i1 : (m : Int) < (d.Outs.length : Int) := by omega
      have i2 : (m : Int) < (d.Ins.length : Int) := by omega
      have i3 : (0 : Int) ≤ (m : Int) := by omega
      have c_a_0_wr := x_a.cell (i := 0) rfl
      have c_a_1_wr := x_a.cell (i := 1) rfl
      have c_a_2_wr := x_a.cell (i := 2) rfl
      have c_a_3_wr := x_a.cell (i := 3) rfl
      have c_a_4_wr := x_a.cell (i := 4) rfl
      have c_a_5_wr := x_a.cell (i := 5) rfl
      have c_a_6_wr := x_a.cell (i := 6) rfl
      have c_a_7_wr := x_a.cell (i := 7) rfl
      have c_a_8_wr := x_a.cell (i := 8) rfl
      by_cases hq : outSameB p outNew = true
      case pos =>
        have HQ := Lib.hid hq
        have HO : Hid (linksB d = (y == 0)) := by show _ = _; rw [HE2.out, HL.out, hq]; rfl
        clear hq hp hy
        go_wp2_with fail
        refine wp_region_held (S := fun w' => w'.cell? ⟨b, 0, none⟩ = some (.int .i64 (m : Int)) ∧ w'.cell? ⟨b, 3, none⟩ = some (.slice (some ⟨b1, off, none⟩) d.Outs.length cOuts) ∧ w'.cell? ⟨b, 4, none⟩ = some (.slice (some ⟨b', off', none⟩) d.Ins.length cIns) ∧ w'.cell? ⟨b1, off + m * 2, none⟩ = some (.int .i64 p.Next) ∧ w'.cell? ⟨b1, off + m * 2 + 1, none⟩ = some (.slice AList p.List.length cList) ∧ w'.cell? ⟨b', off' + m, none⟩ = some (.int .i64 y)) (by kernel_rfl) ?_
        refine takeN (i := 0) (v := ?v0_1) (d := (some 52)) rfl rfl (by kernel_rfl) (by kernel_rfl) (by kernel_rfl) (fun _ _ _ h => h) (Or.inl ⟨by rfl, ?y0_1⟩) ⟨c_a_0_wr, c_a_3_wr, c_a_4_wr, e0, e1, f0⟩ ?r0_1
        case y0_1 => (intro W hW; (try dsimp only at hW); go_simp; try (with_reducible rfl))
        simp only [Act.put, List.setIfInBounds_toArray, List.set_cons_zero, List.set_cons_succ]
        refine takeN (i := 1) (v := ?v1_2) (d := (some 53)) rfl rfl (by kernel_rfl) (by kernel_rfl) (by kernel_rfl) (fun _ _ _ h => h) (Or.inl ⟨by rfl, ?y1_2⟩) ⟨c_a_0_wr, c_a_3_wr, c_a_4_wr, e0, e1, f0⟩ ?r1_2
        case y1_2 => (intro W hW; (try dsimp only at hW); go_simp; try (with_reducible rfl))
        simp only [Act.put, List.setIfInBounds_toArray, List.set_cons_zero, List.set_cons_succ]
        refine takeN (i := 2) (v := ?v2_3) (d := (some 54)) rfl rfl (by kernel_rfl) (by kernel_rfl) (by kernel_rfl) (fun _ _ _ h => h) (Or.inl ⟨by rfl, ?y2_3⟩) ⟨c_a_0_wr, c_a_3_wr, c_a_4_wr, e0, e1, f0⟩ ?r2_3
        case y2_3 => (intro W hW; (try dsimp only at hW); go_simp; try (with_reducible rfl))
        simp only [Act.put, List.setIfInBounds_toArray, List.set_cons_zero, List.set_cons_succ]
        refine takeN (i := 3) (v := ?v3_4) (d := (some 55)) rfl rfl (by kernel_rfl) (by kernel_rfl) (by kernel_rfl) (fun _ _ _ h => h) (Or.inl ⟨by rfl, ?y3_4⟩) ⟨c_a_0_wr, c_a_3_wr, c_a_4_wr, e0, e1, f0⟩ ?r3_4
        case y3_4 => (intro W hW; (try dsimp only at hW); go_simp; try (with_reducible rfl))
        simp only [Act.put, List.setIfInBounds_toArray, List.set_cons_zero, List.set_cons_succ]
        refine takeN (i := 4) (v := ?v4_5) (d := (some 56)) rfl rfl (by kernel_rfl) (by kernel_rfl) (by kernel_rfl) (fun _ _ _ h => h) (Or.inl ⟨by rfl, ?y4_5⟩) ⟨c_a_0_wr, c_a_3_wr, c_a_4_wr, e0, e1, f0⟩ ?r4_5
        case y4_5 => (intro W hW; (try dsimp only at hW); go_simp; try (with_reducible rfl))
        simp only [Act.put, List.setIfInBounds_toArray, List.set_cons_zero, List.set_cons_succ]
        refine takeN (i := 5) (v := ?v5_6) (d := (some 57)) rfl rfl (by kernel_rfl) (by kernel_rfl) (by kernel_rfl) (fun _ _ _ h => h) (Or.inl ⟨by rfl, ?y5_6⟩) ⟨c_a_0_wr, c_a_3_wr, c_a_4_wr, e0, e1, f0⟩ ?r5_6
        case y5_6 => (intro W hW; (try dsimp only at hW); go_simp; try (with_reducible rfl))
        simp only [Act.put, List.setIfInBounds_toArray, List.set_cons_zero, List.set_cons_succ]
        refine takeN (i := 6) (v := ?v6_7) (d := (some 58)) rfl rfl (by kernel_rfl) (by kernel_rfl) (by kernel_rfl) (fun _ _ _ h => h) (Or.inl ⟨by rfl, ?y6_7⟩) ⟨c_a_0_wr, c_a_3_wr, c_a_4_wr, e0, e1, f0⟩ ?r6_7
        case y6_7 => (intro W hW; (try dsimp only at hW); go_simp; try (with_reducible rfl))
        simp only [Act.put, List.setIfInBounds_toArray, List.set_cons_zero, List.set_cons_succ]
        refine takeN (i := 7) (v := ?v7_8) (d := (some 59)) rfl rfl (by kernel_rfl) (by kernel_rfl) (by kernel_rfl) (fun _ _ _ h => h) (Or.inl ⟨by rfl, ?y7_8⟩) ⟨c_a_0_wr, c_a_3_wr, c_a_4_wr, e0, e1, f0⟩ ?r7_8
        case y7_8 => (intro W hW; (try dsimp only at hW); go_simp; try (with_reducible rfl))
        simp only [Act.put, List.setIfInBounds_toArray, List.set_cons_zero, List.set_cons_succ]
        refine takeN (i := 8) (v := ?v8_9) (d := (some 60)) rfl rfl (by kernel_rfl) (by kernel_rfl) (by kernel_rfl) (fun _ _ _ h => h) (Or.inl ⟨by rfl, ?y8_9⟩) ⟨c_a_0_wr, c_a_3_wr, c_a_4_wr, e0, e1, f0⟩ ?r8_9
        case y8_9 => (intro W hW; (try dsimp only at hW); go_simp; try (with_reducible rfl))
        simp only [Act.put, List.setIfInBounds_toArray, List.set_cons_zero, List.set_cons_succ]
        refine takeN (i := 9) (v := ?v9_10) (d := (some 61)) rfl rfl (by kernel_rfl) (by kernel_rfl) (by kernel_rfl) (fun _ _ _ h => h) (Or.inl ⟨by rfl, ?y9_10⟩) ⟨c_a_0_wr, c_a_3_wr, c_a_4_wr, e0, e1, f0⟩ ?r9_10
        case y9_10 => (intro W hW; (try dsimp only at hW); go_simp; try (with_reducible rfl))
        simp only [Act.put, List.setIfInBounds_toArray, List.set_cons_zero, List.set_cons_succ]
        refine wpAnyH_ready (rs := [10]) (by kernel_rfl) (by simp) ?_
        refine AllReadyH.cons rfl (fun K hK => ?_) AllReadyH.nil
        go_simp
        refine (iOutNew_c).mono ?_
        rintro e w_N ⟨vN, rfl, oN, hd_N⟩
        have hb_N : Below wr.heap.size wr w_N := (Below.refl wr.heap.size wr).drew.trans hd_N
        refine hK.out _ _ ⟨(hb_N.cell (p := ⟨b, 0, none⟩) lr).trans c_a_0_wr, (hb_N.cell (p := ⟨b, 3, none⟩) lr).trans c_a_3_wr, (hb_N.cell (p := ⟨b, 4, none⟩) lr).trans c_a_4_wr, (hb_N.cell (p := ⟨b1, off + m * 2, none⟩) hbq).trans e0, (hb_N.cell (p := ⟨b1, off + m * 2 + 1, none⟩) hbq).trans e1, (hb_N.cell (p := ⟨b', off' + m, none⟩) hbq').trans f0⟩ (fun _ => ?_)
        clear hK K
        refine wpAnyH_ready (rs := [11]) (by kernel_rfl) (by simp) ?_
        refine AllReadyH.cons rfl (fun K hK => ?_) AllReadyH.nil
        go_simp
        refine (iOutSame_c (vp.from_ hb_N) oN.rd (by omega) (by simp [outNew])).mono ?_
        rintro e w_S ⟨rfl, hd_S⟩
        have hb_S : Below wr.heap.size wr w_S := hb_N.trans (hd_S.mono hb_N.size)
        rw [HQ.out]
        refine hK.out _ _ ⟨(hb_S.cell (p := ⟨b, 0, none⟩) lr).trans c_a_0_wr, (hb_S.cell (p := ⟨b, 3, none⟩) lr).trans c_a_3_wr, (hb_S.cell (p := ⟨b, 4, none⟩) lr).trans c_a_4_wr, (hb_S.cell (p := ⟨b1, off + m * 2, none⟩) hbq).trans e0, (hb_S.cell (p := ⟨b1, off + m * 2 + 1, none⟩) hbq).trans e1, (hb_S.cell (p := ⟨b', off' + m, none⟩) hbq').trans f0⟩ (fun _ => ?_)
        clear hK K
        refine takeN (i := 12) (v := ?v12_11) (d := (some 64)) rfl rfl (by kernel_rfl) (by kernel_rfl) (by kernel_rfl) (fun _ _ _ h => h) (Or.inl ⟨by rfl, ?y12_11⟩) ⟨(hb_S.cell (p := ⟨b, 0, none⟩) lr).trans c_a_0_wr, (hb_S.cell (p := ⟨b, 3, none⟩) lr).trans c_a_3_wr, (hb_S.cell (p := ⟨b, 4, none⟩) lr).trans c_a_4_wr, (hb_S.cell (p := ⟨b1, off + m * 2, none⟩) hbq).trans e0, (hb_S.cell (p := ⟨b1, off + m * 2 + 1, none⟩) hbq).trans e1, (hb_S.cell (p := ⟨b', off' + m, none⟩) hbq').trans f0⟩ ?r12_11
        case y12_11 => (intro W hW; (try dsimp only at hW); go_simp; try (with_reducible rfl))
        simp only [Act.put, List.setIfInBounds_toArray, List.set_cons_zero, List.set_cons_succ]
        refine takeN (i := 13) (v := ?v13_12) (d := (some 65)) rfl rfl (by kernel_rfl) (by kernel_rfl) (by kernel_rfl) (fun _ _ _ h => h) (Or.inl ⟨by rfl, ?y13_12⟩) ⟨(hb_S.cell (p := ⟨b, 0, none⟩) lr).trans c_a_0_wr, (hb_S.cell (p := ⟨b, 3, none⟩) lr).trans c_a_3_wr, (hb_S.cell (p := ⟨b, 4, none⟩) lr).trans c_a_4_wr, (hb_S.cell (p := ⟨b1, off + m * 2, none⟩) hbq).trans e0, (hb_S.cell (p := ⟨b1, off + m * 2 + 1, none⟩) hbq).trans e1, (hb_S.cell (p := ⟨b', off' + m, none⟩) hbq').trans f0⟩ ?r13_12
        case y13_12 => (intro W hW; (try dsimp only at hW); go_simp; try (with_reducible rfl))
        simp only [Act.put, List.setIfInBounds_toArray, List.set_cons_zero, List.set_cons_succ]
        refine takeN (i := 14) (v := ?v14_13) (d := (some 66)) rfl rfl (by kernel_rfl) (by kernel_rfl) (by kernel_rfl) (fun _ _ _ h => h) (Or.inl ⟨by rfl, ?y14_13⟩) ⟨(hb_S.cell (p := ⟨b, 0, none⟩) lr).trans c_a_0_wr, (hb_S.cell (p := ⟨b, 3, none⟩) lr).trans c_a_3_wr, (hb_S.cell (p := ⟨b, 4, none⟩) lr).trans c_a_4_wr, (hb_S.cell (p := ⟨b1, off + m * 2, none⟩) hbq).trans e0, (hb_S.cell (p := ⟨b1, off + m * 2 + 1, none⟩) hbq).trans e1, (hb_S.cell (p := ⟨b', off' + m, none⟩) hbq').trans f0⟩ ?r14_13
        case y14_13 => (intro W hW; (try dsimp only at hW); go_simp; try (with_reducible rfl))
        simp only [Act.put, List.setIfInBounds_toArray, List.set_cons_zero, List.set_cons_succ]
        refine takeN (i := 15) (v := ?v15_14) (d := (some 67)) rfl rfl (by kernel_rfl) (by kernel_rfl) (by kernel_rfl) (fun _ _ _ h => h) (Or.inl ⟨by rfl, ?y15_14⟩) ⟨(hb_S.cell (p := ⟨b, 0, none⟩) lr).trans c_a_0_wr, (hb_S.cell (p := ⟨b, 3, none⟩) lr).trans c_a_3_wr, (hb_S.cell (p := ⟨b, 4, none⟩) lr).trans c_a_4_wr, (hb_S.cell (p := ⟨b1, off + m * 2, none⟩) hbq).trans e0, (hb_S.cell (p := ⟨b1, off + m * 2 + 1, none⟩) hbq).trans e1, (hb_S.cell (p := ⟨b', off' + m, none⟩) hbq').trans f0⟩ ?r15_14
        case y15_14 => (intro W hW; (try dsimp only at hW); go_simp; try (with_reducible rfl))
        simp only [Act.put, List.setIfInBounds_toArray, List.set_cons_zero, List.set_cons_succ]
        refine takeN (i := 16) (v := ?v16_15) (d := (some 68)) rfl rfl (by kernel_rfl) (by kernel_rfl) (by kernel_rfl) (fun _ _ _ h => h) (Or.inl ⟨by rfl, ?y16_15⟩) ⟨(hb_S.cell (p := ⟨b, 0, none⟩) lr).trans c_a_0_wr, (hb_S.cell (p := ⟨b, 3, none⟩) lr).trans c_a_3_wr, (hb_S.cell (p := ⟨b, 4, none⟩) lr).trans c_a_4_wr, (hb_S.cell (p := ⟨b1, off + m * 2, none⟩) hbq).trans e0, (hb_S.cell (p := ⟨b1, off + m * 2 + 1, none⟩) hbq).trans e1, (hb_S.cell (p := ⟨b', off' + m, none⟩) hbq').trans f0⟩ ?r16_15
        case y16_15 => (intro W hW; (try dsimp only at hW); go_simp; try (with_reducible rfl))
        simp only [Act.put, List.setIfInBounds_toArray, List.set_cons_zero, List.set_cons_succ]
        refine takeN (i := 17) (v := ?v17_16) (d := (some 69)) rfl rfl (by kernel_rfl) (by kernel_rfl) (by kernel_rfl) (fun _ _ _ h => h) (Or.inl ⟨by rfl, ?y17_16⟩) ⟨(hb_S.cell (p := ⟨b, 0, none⟩) lr).trans c_a_0_wr, (hb_S.cell (p := ⟨b, 3, none⟩) lr).trans c_a_3_wr, (hb_S.cell (p := ⟨b, 4, none⟩) lr).trans c_a_4_wr, (hb_S.cell (p := ⟨b1, off + m * 2, none⟩) hbq).trans e0, (hb_S.cell (p := ⟨b1, off + m * 2 + 1, none⟩) hbq).trans e1, (hb_S.cell (p := ⟨b', off' + m, none⟩) hbq').trans f0⟩ ?r17_16
        case y17_16 => (intro W hW; (try dsimp only at hW); go_simp; try (with_reducible rfl))
        simp only [Act.put, List.setIfInBounds_toArray, List.set_cons_zero, List.set_cons_succ]
        refine takeN (i := 18) (v := ?v18_17) (d := (some 70)) rfl rfl (by kernel_rfl) (by kernel_rfl) (by kernel_rfl) (fun _ _ _ h => h) (Or.inl ⟨by rfl, ?y18_17⟩) ⟨(hb_S.cell (p := ⟨b, 0, none⟩) lr).trans c_a_0_wr, (hb_S.cell (p := ⟨b, 3, none⟩) lr).trans c_a_3_wr, (hb_S.cell (p := ⟨b, 4, none⟩) lr).trans c_a_4_wr, (hb_S.cell (p := ⟨b1, off + m * 2, none⟩) hbq).trans e0, (hb_S.cell (p := ⟨b1, off + m * 2 + 1, none⟩) hbq).trans e1, (hb_S.cell (p := ⟨b', off' + m, none⟩) hbq').trans f0⟩ ?r18_17
        case y18_17 => (intro W hW; (try dsimp only at hW); go_simp; try (with_reducible rfl))
        simp only [Act.put, List.setIfInBounds_toArray, List.set_cons_zero, List.set_cons_succ]
        refine takeN (i := 19) (v := ?v19_18) (d := (some 71)) rfl rfl (by kernel_rfl) (by kernel_rfl) (by kernel_rfl) (fun _ _ _ h => h) (Or.inl ⟨by rfl, ?y19_18⟩) ⟨(hb_S.cell (p := ⟨b, 0, none⟩) lr).trans c_a_0_wr, (hb_S.cell (p := ⟨b, 3, none⟩) lr).trans c_a_3_wr, (hb_S.cell (p := ⟨b, 4, none⟩) lr).trans c_a_4_wr, (hb_S.cell (p := ⟨b1, off + m * 2, none⟩) hbq).trans e0, (hb_S.cell (p := ⟨b1, off + m * 2 + 1, none⟩) hbq).trans e1, (hb_S.cell (p := ⟨b', off' + m, none⟩) hbq').trans f0⟩ ?r19_18
        case y19_18 => (intro W hW; (try dsimp only at hW); go_simp; try (with_reducible rfl))
        simp only [Act.put, List.setIfInBounds_toArray, List.set_cons_zero, List.set_cons_succ]
        refine takeN (i := 20) (v := ?v20_19) (d := (some 72)) rfl rfl (by kernel_rfl) (by kernel_rfl) (by kernel_rfl) (fun _ _ _ h => h) (Or.inl ⟨by rfl, ?y20_19⟩) ⟨(hb_S.cell (p := ⟨b, 0, none⟩) lr).trans c_a_0_wr, (hb_S.cell (p := ⟨b, 3, none⟩) lr).trans c_a_3_wr, (hb_S.cell (p := ⟨b, 4, none⟩) lr).trans c_a_4_wr, (hb_S.cell (p := ⟨b1, off + m * 2, none⟩) hbq).trans e0, (hb_S.cell (p := ⟨b1, off + m * 2 + 1, none⟩) hbq).trans e1, (hb_S.cell (p := ⟨b', off' + m, none⟩) hbq').trans f0⟩ ?r20_19
        case y20_19 => (intro W hW; (try dsimp only at hW); go_simp; try (with_reducible rfl))
        simp only [Act.put, List.setIfInBounds_toArray, List.set_cons_zero, List.set_cons_succ]
        refine takeN (i := 21) (v := ?v21_20) (d := (some 73)) rfl rfl (by kernel_rfl) (by kernel_rfl) (by kernel_rfl) (fun _ _ _ h => h) (Or.inl ⟨by rfl, ?y21_20⟩) ⟨(hb_S.cell (p := ⟨b, 0, none⟩) lr).trans c_a_0_wr, (hb_S.cell (p := ⟨b, 3, none⟩) lr).trans c_a_3_wr, (hb_S.cell (p := ⟨b, 4, none⟩) lr).trans c_a_4_wr, (hb_S.cell (p := ⟨b1, off + m * 2, none⟩) hbq).trans e0, (hb_S.cell (p := ⟨b1, off + m * 2 + 1, none⟩) hbq).trans e1, (hb_S.cell (p := ⟨b', off' + m, none⟩) hbq').trans f0⟩ ?r21_20
        case y21_20 => (intro W hW; (try dsimp only at hW); go_simp; try (with_reducible rfl))
        simp only [Act.put, List.setIfInBounds_toArray, List.set_cons_zero, List.set_cons_succ]
        refine takeN (i := 22) (v := ?v22_21) (d := (some 74)) rfl rfl (by kernel_rfl) (by kernel_rfl) (by kernel_rfl) (fun _ _ _ h => h) (Or.inl ⟨by rfl, ?y22_21⟩) ⟨(hb_S.cell (p := ⟨b, 0, none⟩) lr).trans c_a_0_wr, (hb_S.cell (p := ⟨b, 3, none⟩) lr).trans c_a_3_wr, (hb_S.cell (p := ⟨b, 4, none⟩) lr).trans c_a_4_wr, (hb_S.cell (p := ⟨b1, off + m * 2, none⟩) hbq).trans e0, (hb_S.cell (p := ⟨b1, off + m * 2 + 1, none⟩) hbq).trans e1, (hb_S.cell (p := ⟨b', off' + m, none⟩) hbq').trans f0⟩ ?r22_21
        case y22_21 => (intro W hW; (try dsimp only at hW); go_simp; try (with_reducible rfl))
        simp only [Act.put, List.setIfInBounds_toArray, List.set_cons_zero, List.set_cons_succ]
        refine takeN (i := 23) (v := ?v23_22) (d := (some 75)) rfl rfl (by kernel_rfl) (by kernel_rfl) (by kernel_rfl) (fun _ _ _ h => h) (Or.inl ⟨by rfl, ?y23_22⟩) ⟨(hb_S.cell (p := ⟨b, 0, none⟩) lr).trans c_a_0_wr, (hb_S.cell (p := ⟨b, 3, none⟩) lr).trans c_a_3_wr, (hb_S.cell (p := ⟨b, 4, none⟩) lr).trans c_a_4_wr, (hb_S.cell (p := ⟨b1, off + m * 2, none⟩) hbq).trans e0, (hb_S.cell (p := ⟨b1, off + m * 2 + 1, none⟩) hbq).trans e1, (hb_S.cell (p := ⟨b', off' + m, none⟩) hbq').trans f0⟩ ?r23_22
        case y23_22 => (intro W hW; (try dsimp only at hW); go_simp; try (with_reducible rfl))
        simp only [Act.put, List.setIfInBounds_toArray, List.set_cons_zero, List.set_cons_succ]
        refine takeN (i := 24) (v := ?v24_23) (d := (some 76)) rfl rfl (by kernel_rfl) (by kernel_rfl) (by kernel_rfl) (fun _ _ _ h => h) (Or.inl ⟨by rfl, ?y24_23⟩) ⟨(hb_S.cell (p := ⟨b, 0, none⟩) lr).trans c_a_0_wr, (hb_S.cell (p := ⟨b, 3, none⟩) lr).trans c_a_3_wr, (hb_S.cell (p := ⟨b, 4, none⟩) lr).trans c_a_4_wr, (hb_S.cell (p := ⟨b1, off + m * 2, none⟩) hbq).trans e0, (hb_S.cell (p := ⟨b1, off + m * 2 + 1, none⟩) hbq).trans e1, (hb_S.cell (p := ⟨b', off' + m, none⟩) hbq').trans f0⟩ ?r24_23
        case y24_23 => (intro W hW; (try dsimp only at hW); go_simp; try (with_reducible rfl))
        simp only [Act.put, List.setIfInBounds_toArray, List.set_cons_zero, List.set_cons_succ]
        refine takeN (i := 25) (v := ?v25_24) (d := (some 2)) rfl rfl (by kernel_rfl) (by kernel_rfl) (by kernel_rfl) (fun _ _ _ h => h) (Or.inl ⟨by rfl, ?y25_24⟩) ⟨(hb_S.cell (p := ⟨b, 0, none⟩) lr).trans c_a_0_wr, (hb_S.cell (p := ⟨b, 3, none⟩) lr).trans c_a_3_wr, (hb_S.cell (p := ⟨b, 4, none⟩) lr).trans c_a_4_wr, (hb_S.cell (p := ⟨b1, off + m * 2, none⟩) hbq).trans e0, (hb_S.cell (p := ⟨b1, off + m * 2 + 1, none⟩) hbq).trans e1, (hb_S.cell (p := ⟨b', off' + m, none⟩) hbq').trans f0⟩ ?r25_24
        case y25_24 => (intro W hW; (try dsimp only at hW); go_simp; try (with_reducible rfl))
        simp only [Act.put, List.setIfInBounds_toArray, List.set_cons_zero, List.set_cons_succ]
        refine wpAnyH_done (by kernel_rfl) ?_ _
        go_wp2
        go_ret
        exact ⟨ret_eq (by rw [HO.out]; rfl), HB.trans (hb_S.mono HB.size)⟩
      case neg =>
        replace hq : outSameB p outNew = false := by simpa using hq
        have HQ := Lib.hid hq
        have HO : Hid (linksB d = false) := by show _ = _; rw [HE2.out, HL.out, hq]; rfl
        clear hq hp hy
        go_wp2_with fail
        refine wp_region_held (S := fun w' => w'.cell? ⟨b, 0, none⟩ = some (.int .i64 (m : Int)) ∧ w'.cell? ⟨b, 3, none⟩ = some (.slice (some ⟨b1, off, none⟩) d.Outs.length cOuts) ∧ w'.cell? ⟨b, 4, none⟩ = some (.slice (some ⟨b', off', none⟩) d.Ins.length cIns) ∧ w'.cell? ⟨b1, off + m * 2, none⟩ = some (.int .i64 p.Next) ∧ w'.cell? ⟨b1, off + m * 2 + 1, none⟩ = some (.slice AList p.List.length cList) ∧ w'.cell? ⟨b', off' + m, none⟩ = some (.int .i64 y)) (by kernel_rfl) ?_
        refine takeN (i := 0) (v := ?v0_25) (d := (some 52)) rfl rfl (by kernel_rfl) (by kernel_rfl) (by kernel_rfl) (fun _ _ _ h => h) (Or.inl ⟨by rfl, ?y0_25⟩) ⟨c_a_0_wr, c_a_3_wr, c_a_4_wr, e0, e1, f0⟩ ?r0_25
        case y0_25 => (intro W hW; (try dsimp only at hW); go_simp; try (with_reducible rfl))
        simp only [Act.put, List.setIfInBounds_toArray, List.set_cons_zero, List.set_cons_succ]
        refine takeN (i := 1) (v := ?v1_26) (d := (some 53)) rfl rfl (by kernel_rfl) (by kernel_rfl) (by kernel_rfl) (fun _ _ _ h => h) (Or.inl ⟨by rfl, ?y1_26⟩) ⟨c_a_0_wr, c_a_3_wr, c_a_4_wr, e0, e1, f0⟩ ?r1_26
        case y1_26 => (intro W hW; (try dsimp only at hW); go_simp; try (with_reducible rfl))
        simp only [Act.put, List.setIfInBounds_toArray, List.set_cons_zero, List.set_cons_succ]
        refine takeN (i := 2) (v := ?v2_27) (d := (some 54)) rfl rfl (by kernel_rfl) (by kernel_rfl) (by kernel_rfl) (fun _ _ _ h => h) (Or.inl ⟨by rfl, ?y2_27⟩) ⟨c_a_0_wr, c_a_3_wr, c_a_4_wr, e0, e1, f0⟩ ?r2_27
        case y2_27 => (intro W hW; (try dsimp only at hW); go_simp; try (with_reducible rfl))
        simp only [Act.put, List.setIfInBounds_toArray, List.set_cons_zero, List.set_cons_succ]
        refine takeN (i := 3) (v := ?v3_28) (d := (some 55)) rfl rfl (by kernel_rfl) (by kernel_rfl) (by kernel_rfl) (fun _ _ _ h => h) (Or.inl ⟨by rfl, ?y3_28⟩) ⟨c_a_0_wr, c_a_3_wr, c_a_4_wr, e0, e1, f0⟩ ?r3_28
        case y3_28 => (intro W hW; (try dsimp only at hW); go_simp; try (with_reducible rfl))
        simp only [Act.put, List.setIfInBounds_toArray, List.set_cons_zero, List.set_cons_succ]
        refine takeN (i := 4) (v := ?v4_29) (d := (some 56)) rfl rfl (by kernel_rfl) (by kernel_rfl) (by kernel_rfl) (fun _ _ _ h => h) (Or.inl ⟨by rfl, ?y4_29⟩) ⟨c_a_0_wr, c_a_3_wr, c_a_4_wr, e0, e1, f0⟩ ?r4_29
        case y4_29 => (intro W hW; (try dsimp only at hW); go_simp; try (with_reducible rfl))
        simp only [Act.put, List.setIfInBounds_toArray, List.set_cons_zero, List.set_cons_succ]
        refine takeN (i := 5) (v := ?v5_30) (d := (some 57)) rfl rfl (by kernel_rfl) (by kernel_rfl) (by kernel_rfl) (fun _ _ _ h => h) (Or.inl ⟨by rfl, ?y5_30⟩) ⟨c_a_0_wr, c_a_3_wr, c_a_4_wr, e0, e1, f0⟩ ?r5_30
        case y5_30 => (intro W hW; (try dsimp only at hW); go_simp; try (with_reducible rfl))
        simp only [Act.put, List.setIfInBounds_toArray, List.set_cons_zero, List.set_cons_succ]
        refine takeN (i := 6) (v := ?v6_31) (d := (some 58)) rfl rfl (by kernel_rfl) (by kernel_rfl) (by kernel_rfl) (fun _ _ _ h => h) (Or.inl ⟨by rfl, ?y6_31⟩) ⟨c_a_0_wr, c_a_3_wr, c_a_4_wr, e0, e1, f0⟩ ?r6_31
        case y6_31 => (intro W hW; (try dsimp only at hW); go_simp; try (with_reducible rfl))
        simp only [Act.put, List.setIfInBounds_toArray, List.set_cons_zero, List.set_cons_succ]
        refine takeN (i := 7) (v := ?v7_32) (d := (some 59)) rfl rfl (by kernel_rfl) (by kernel_rfl) (by kernel_rfl) (fun _ _ _ h => h) (Or.inl ⟨by rfl, ?y7_32⟩) ⟨c_a_0_wr, c_a_3_wr, c_a_4_wr, e0, e1, f0⟩ ?r7_32
        case y7_32 => (intro W hW; (try dsimp only at hW); go_simp; try (with_reducible rfl))
        simp only [Act.put, List.setIfInBounds_toArray, List.set_cons_zero, List.set_cons_succ]
        refine takeN (i := 8) (v := ?v8_33) (d := (some 60)) rfl rfl (by kernel_rfl) (by kernel_rfl) (by kernel_rfl) (fun _ _ _ h => h) (Or.inl ⟨by rfl, ?y8_33⟩) ⟨c_a_0_wr, c_a_3_wr, c_a_4_wr, e0, e1, f0⟩ ?r8_33
        case y8_33 => (intro W hW; (try dsimp only at hW); go_simp; try (with_reducible rfl))
        simp only [Act.put, List.setIfInBounds_toArray, List.set_cons_zero, List.set_cons_succ]
        refine takeN (i := 9) (v := ?v9_34) (d := (some 61)) rfl rfl (by kernel_rfl) (by kernel_rfl) (by kernel_rfl) (fun _ _ _ h => h) (Or.inl ⟨by rfl, ?y9_34⟩) ⟨c_a_0_wr, c_a_3_wr, c_a_4_wr, e0, e1, f0⟩ ?r9_34
        case y9_34 => (intro W hW; (try dsimp only at hW); go_simp; try (with_reducible rfl))
        simp only [Act.put, List.setIfInBounds_toArray, List.set_cons_zero, List.set_cons_succ]
        refine wpAnyH_ready (rs := [10]) (by kernel_rfl) (by simp) ?_
        refine AllReadyH.cons rfl (fun K hK => ?_) AllReadyH.nil
        go_simp
        refine (iOutNew_c).mono ?_
        rintro e w_N ⟨vN, rfl, oN, hd_N⟩
        have hb_N : Below wr.heap.size wr w_N := (Below.refl wr.heap.size wr).drew.trans hd_N
        refine hK.out _ _ ⟨(hb_N.cell (p := ⟨b, 0, none⟩) lr).trans c_a_0_wr, (hb_N.cell (p := ⟨b, 3, none⟩) lr).trans c_a_3_wr, (hb_N.cell (p := ⟨b, 4, none⟩) lr).trans c_a_4_wr, (hb_N.cell (p := ⟨b1, off + m * 2, none⟩) hbq).trans e0, (hb_N.cell (p := ⟨b1, off + m * 2 + 1, none⟩) hbq).trans e1, (hb_N.cell (p := ⟨b', off' + m, none⟩) hbq').trans f0⟩ (fun _ => ?_)
        clear hK K
        refine wpAnyH_ready (rs := [11]) (by kernel_rfl) (by simp) ?_
        refine AllReadyH.cons rfl (fun K hK => ?_) AllReadyH.nil
        go_simp
        refine (iOutSame_c (vp.from_ hb_N) oN.rd (by omega) (by simp [outNew])).mono ?_
        rintro e w_S ⟨rfl, hd_S⟩
        have hb_S : Below wr.heap.size wr w_S := hb_N.trans (hd_S.mono hb_N.size)
        rw [HQ.out]
        refine hK.out _ _ ⟨(hb_S.cell (p := ⟨b, 0, none⟩) lr).trans c_a_0_wr, (hb_S.cell (p := ⟨b, 3, none⟩) lr).trans c_a_3_wr, (hb_S.cell (p := ⟨b, 4, none⟩) lr).trans c_a_4_wr, (hb_S.cell (p := ⟨b1, off + m * 2, none⟩) hbq).trans e0, (hb_S.cell (p := ⟨b1, off + m * 2 + 1, none⟩) hbq).trans e1, (hb_S.cell (p := ⟨b', off' + m, none⟩) hbq').trans f0⟩ (fun _ => ?_)
        clear hK K
        refine takeN (i := 12) (v := ?v12_35) (d := (some 64)) rfl rfl (by kernel_rfl) (by kernel_rfl) (by kernel_rfl) (fun _ _ _ h => h) (Or.inl ⟨by rfl, ?y12_35⟩) ⟨(hb_S.cell (p := ⟨b, 0, none⟩) lr).trans c_a_0_wr, (hb_S.cell (p := ⟨b, 3, none⟩) lr).trans c_a_3_wr, (hb_S.cell (p := ⟨b, 4, none⟩) lr).trans c_a_4_wr, (hb_S.cell (p := ⟨b1, off + m * 2, none⟩) hbq).trans e0, (hb_S.cell (p := ⟨b1, off + m * 2 + 1, none⟩) hbq).trans e1, (hb_S.cell (p := ⟨b', off' + m, none⟩) hbq').trans f0⟩ ?r12_35
        case y12_35 => (intro W hW; (try dsimp only at hW); go_simp; try (with_reducible rfl))
        simp only [Act.put, List.setIfInBounds_toArray, List.set_cons_zero, List.set_cons_succ]
        refine takeN (i := 13) (v := undef) (d := (some 65)) rfl rfl (by kernel_rfl) (by kernel_rfl) (by kernel_rfl) (fun _ _ _ h => h) (Or.inr ⟨by rfl, rfl⟩) ⟨(hb_S.cell (p := ⟨b, 0, none⟩) lr).trans c_a_0_wr, (hb_S.cell (p := ⟨b, 3, none⟩) lr).trans c_a_3_wr, (hb_S.cell (p := ⟨b, 4, none⟩) lr).trans c_a_4_wr, (hb_S.cell (p := ⟨b1, off + m * 2, none⟩) hbq).trans e0, (hb_S.cell (p := ⟨b1, off + m * 2 + 1, none⟩) hbq).trans e1, (hb_S.cell (p := ⟨b', off' + m, none⟩) hbq').trans f0⟩ ?_
        simp only [Act.put, List.setIfInBounds_toArray, List.set_cons_zero, List.set_cons_succ]
        refine takeN (i := 14) (v := undef) (d := (some 66)) rfl rfl (by kernel_rfl) (by kernel_rfl) (by kernel_rfl) (fun _ _ _ h => h) (Or.inr ⟨by rfl, rfl⟩) ⟨(hb_S.cell (p := ⟨b, 0, none⟩) lr).trans c_a_0_wr, (hb_S.cell (p := ⟨b, 3, none⟩) lr).trans c_a_3_wr, (hb_S.cell (p := ⟨b, 4, none⟩) lr).trans c_a_4_wr, (hb_S.cell (p := ⟨b1, off + m * 2, none⟩) hbq).trans e0, (hb_S.cell (p := ⟨b1, off + m * 2 + 1, none⟩) hbq).trans e1, (hb_S.cell (p := ⟨b', off' + m, none⟩) hbq').trans f0⟩ ?_
        simp only [Act.put, List.setIfInBounds_toArray, List.set_cons_zero, List.set_cons_succ]
        refine takeN (i := 15) (v := undef) (d := (some 67)) rfl rfl (by kernel_rfl) (by kernel_rfl) (by kernel_rfl) (fun _ _ _ h => h) (Or.inr ⟨by rfl, rfl⟩) ⟨(hb_S.cell (p := ⟨b, 0, none⟩) lr).trans c_a_0_wr, (hb_S.cell (p := ⟨b, 3, none⟩) lr).trans c_a_3_wr, (hb_S.cell (p := ⟨b, 4, none⟩) lr).trans c_a_4_wr, (hb_S.cell (p := ⟨b1, off + m * 2, none⟩) hbq).trans e0, (hb_S.cell (p := ⟨b1, off + m * 2 + 1, none⟩) hbq).trans e1, (hb_S.cell (p := ⟨b', off' + m, none⟩) hbq').trans f0⟩ ?_
        simp only [Act.put, List.setIfInBounds_toArray, List.set_cons_zero, List.set_cons_succ]
        refine takeN (i := 16) (v := undef) (d := (some 68)) rfl rfl (by kernel_rfl) (by kernel_rfl) (by kernel_rfl) (fun _ _ _ h => h) (Or.inr ⟨by rfl, rfl⟩) ⟨(hb_S.cell (p := ⟨b, 0, none⟩) lr).trans c_a_0_wr, (hb_S.cell (p := ⟨b, 3, none⟩) lr).trans c_a_3_wr, (hb_S.cell (p := ⟨b, 4, none⟩) lr).trans c_a_4_wr, (hb_S.cell (p := ⟨b1, off + m * 2, none⟩) hbq).trans e0, (hb_S.cell (p := ⟨b1, off + m * 2 + 1, none⟩) hbq).trans e1, (hb_S.cell (p := ⟨b', off' + m, none⟩) hbq').trans f0⟩ ?_
        simp only [Act.put, List.setIfInBounds_toArray, List.set_cons_zero, List.set_cons_succ]
        refine takeN (i := 17) (v := undef) (d := (some 69)) rfl rfl (by kernel_rfl) (by kernel_rfl) (by kernel_rfl) (fun _ _ _ h => h) (Or.inr ⟨by rfl, rfl⟩) ⟨(hb_S.cell (p := ⟨b, 0, none⟩) lr).trans c_a_0_wr, (hb_S.cell (p := ⟨b, 3, none⟩) lr).trans c_a_3_wr, (hb_S.cell (p := ⟨b, 4, none⟩) lr).trans c_a_4_wr, (hb_S.cell (p := ⟨b1, off + m * 2, none⟩) hbq).trans e0, (hb_S.cell (p := ⟨b1, off + m * 2 + 1, none⟩) hbq).trans e1, (hb_S.cell (p := ⟨b', off' + m, none⟩) hbq').trans f0⟩ ?_
        simp only [Act.put, List.setIfInBounds_toArray, List.set_cons_zero, List.set_cons_succ]
        refine takeN (i := 18) (v := undef) (d := (some 70)) rfl rfl (by kernel_rfl) (by kernel_rfl) (by kernel_rfl) (fun _ _ _ h => h) (Or.inr ⟨by rfl, rfl⟩) ⟨(hb_S.cell (p := ⟨b, 0, none⟩) lr).trans c_a_0_wr, (hb_S.cell (p := ⟨b, 3, none⟩) lr).trans c_a_3_wr, (hb_S.cell (p := ⟨b, 4, none⟩) lr).trans c_a_4_wr, (hb_S.cell (p := ⟨b1, off + m * 2, none⟩) hbq).trans e0, (hb_S.cell (p := ⟨b1, off + m * 2 + 1, none⟩) hbq).trans e1, (hb_S.cell (p := ⟨b', off' + m, none⟩) hbq').trans f0⟩ ?_
        simp only [Act.put, List.setIfInBounds_toArray, List.set_cons_zero, List.set_cons_succ]
        refine takeN (i := 19) (v := undef) (d := (some 71)) rfl rfl (by kernel_rfl) (by kernel_rfl) (by kernel_rfl) (fun _ _ _ h => h) (Or.inr ⟨by rfl, rfl⟩) ⟨(hb_S.cell (p := ⟨b, 0, none⟩) lr).trans c_a_0_wr, (hb_S.cell (p := ⟨b, 3, none⟩) lr).trans c_a_3_wr, (hb_S.cell (p := ⟨b, 4, none⟩) lr).trans c_a_4_wr, (hb_S.cell (p := ⟨b1, off + m * 2, none⟩) hbq).trans e0, (hb_S.cell (p := ⟨b1, off + m * 2 + 1, none⟩) hbq).trans e1, (hb_S.cell (p := ⟨b', off' + m, none⟩) hbq').trans f0⟩ ?_
        simp only [Act.put, List.setIfInBounds_toArray, List.set_cons_zero, List.set_cons_succ]
        refine takeN (i := 20) (v := undef) (d := (some 72)) rfl rfl (by kernel_rfl) (by kernel_rfl) (by kernel_rfl) (fun _ _ _ h => h) (Or.inr ⟨by rfl, rfl⟩) ⟨(hb_S.cell (p := ⟨b, 0, none⟩) lr).trans c_a_0_wr, (hb_S.cell (p := ⟨b, 3, none⟩) lr).trans c_a_3_wr, (hb_S.cell (p := ⟨b, 4, none⟩) lr).trans c_a_4_wr, (hb_S.cell (p := ⟨b1, off + m * 2, none⟩) hbq).trans e0, (hb_S.cell (p := ⟨b1, off + m * 2 + 1, none⟩) hbq).trans e1, (hb_S.cell (p := ⟨b', off' + m, none⟩) hbq').trans f0⟩ ?_
        simp only [Act.put, List.setIfInBounds_toArray, List.set_cons_zero, List.set_cons_succ]
        refine takeN (i := 21) (v := undef) (d := (some 73)) rfl rfl (by kernel_rfl) (by kernel_rfl) (by kernel_rfl) (fun _ _ _ h => h) (Or.inr ⟨by rfl, rfl⟩) ⟨(hb_S.cell (p := ⟨b, 0, none⟩) lr).trans c_a_0_wr, (hb_S.cell (p := ⟨b, 3, none⟩) lr).trans c_a_3_wr, (hb_S.cell (p := ⟨b, 4, none⟩) lr).trans c_a_4_wr, (hb_S.cell (p := ⟨b1, off + m * 2, none⟩) hbq).trans e0, (hb_S.cell (p := ⟨b1, off + m * 2 + 1, none⟩) hbq).trans e1, (hb_S.cell (p := ⟨b', off' + m, none⟩) hbq').trans f0⟩ ?_
        simp only [Act.put, List.setIfInBounds_toArray, List.set_cons_zero, List.set_cons_succ]
        refine takeN (i := 22) (v := undef) (d := (some 74)) rfl rfl (by kernel_rfl) (by kernel_rfl) (by kernel_rfl) (fun _ _ _ h => h) (Or.inr ⟨by rfl, rfl⟩) ⟨(hb_S.cell (p := ⟨b, 0, none⟩) lr).trans c_a_0_wr, (hb_S.cell (p := ⟨b, 3, none⟩) lr).trans c_a_3_wr, (hb_S.cell (p := ⟨b, 4, none⟩) lr).trans c_a_4_wr, (hb_S.cell (p := ⟨b1, off + m * 2, none⟩) hbq).trans e0, (hb_S.cell (p := ⟨b1, off + m * 2 + 1, none⟩) hbq).trans e1, (hb_S.cell (p := ⟨b', off' + m, none⟩) hbq').trans f0⟩ ?_
        simp only [Act.put, List.setIfInBounds_toArray, List.set_cons_zero, List.set_cons_succ]
        refine takeN (i := 23) (v := undef) (d := (some 75)) rfl rfl (by kernel_rfl) (by kernel_rfl) (by kernel_rfl) (fun _ _ _ h => h) (Or.inr ⟨by rfl, rfl⟩) ⟨(hb_S.cell (p := ⟨b, 0, none⟩) lr).trans c_a_0_wr, (hb_S.cell (p := ⟨b, 3, none⟩) lr).trans c_a_3_wr, (hb_S.cell (p := ⟨b, 4, none⟩) lr).trans c_a_4_wr, (hb_S.cell (p := ⟨b1, off + m * 2, none⟩) hbq).trans e0, (hb_S.cell (p := ⟨b1, off + m * 2 + 1, none⟩) hbq).trans e1, (hb_S.cell (p := ⟨b', off' + m, none⟩) hbq').trans f0⟩ ?_
        simp only [Act.put, List.setIfInBounds_toArray, List.set_cons_zero, List.set_cons_succ]
        refine takeN (i := 24) (v := ?v24_36) (d := (some 76)) rfl rfl (by kernel_rfl) (by kernel_rfl) (by kernel_rfl) (fun _ _ _ h => h) (Or.inl ⟨by rfl, ?y24_36⟩) ⟨(hb_S.cell (p := ⟨b, 0, none⟩) lr).trans c_a_0_wr, (hb_S.cell (p := ⟨b, 3, none⟩) lr).trans c_a_3_wr, (hb_S.cell (p := ⟨b, 4, none⟩) lr).trans c_a_4_wr, (hb_S.cell (p := ⟨b1, off + m * 2, none⟩) hbq).trans e0, (hb_S.cell (p := ⟨b1, off + m * 2 + 1, none⟩) hbq).trans e1, (hb_S.cell (p := ⟨b', off' + m, none⟩) hbq').trans f0⟩ ?r24_36
        case y24_36 => (intro W hW; (try dsimp only at hW); go_simp; try (with_reducible rfl))
        simp only [Act.put, List.setIfInBounds_toArray, List.set_cons_zero, List.set_cons_succ]
        refine takeN (i := 25) (v := ?v25_37) (d := (some 2)) rfl rfl (by kernel_rfl) (by kernel_rfl) (by kernel_rfl) (fun _ _ _ h => h) (Or.inl ⟨by rfl, ?y25_37⟩) ⟨(hb_S.cell (p := ⟨b, 0, none⟩) lr).trans c_a_0_wr, (hb_S.cell (p := ⟨b, 3, none⟩) lr).trans c_a_3_wr, (hb_S.cell (p := ⟨b, 4, none⟩) lr).trans c_a_4_wr, (hb_S.cell (p := ⟨b1, off + m * 2, none⟩) hbq).trans e0, (hb_S.cell (p := ⟨b1, off + m * 2 + 1, none⟩) hbq).trans e1, (hb_S.cell (p := ⟨b', off' + m, none⟩) hbq').trans f0⟩ ?r25_37
        case y25_37 => (intro W hW; (try dsimp only at hW); go_simp; try (with_reducible rfl))
        simp only [Act.put, List.setIfInBounds_toArray, List.set_cons_zero, List.set_cons_succ]
        refine wpAnyH_done (by kernel_rfl) ?_ _
        go_wp2
        go_ret
        exact ⟨ret_eq (by rw [HO.out]; rfl), HB.trans (hb_S.mono HB.size)⟩
    obtain ⟨p, hpe⟩ := get_of_lt hlt
    have hp := outG_of hpe
    have hpb := sumG_at (s := MOut.bulk) hpe
    have hpu : p.bulk = p.List.length := rfl
    obtain ⟨b1, off, AList, cList, hAO, hbb, e0, e1, rp⟩ := el_out (hrO.below HB) hpe hs
    subst hAO
    obtain ⟨b', off', hAI, hbb', hc⟩ := rdi_at ((rIns.rd_).below HB) (by omega)
    subst hAI
    have f0 := hc j (by omega)
    obtain ⟨y, hy⟩ : ∃ y, d.Ins.getD j 0 = y := ⟨_, rfl⟩
    rw [hy] at f0
    clear hc hpe
    have vp : RV outL wr _ p := rv_out_mk rp
    have i1 : (j : Int) < (d.Outs.length : Int) := by omega
    have i2 : (j : Int) < (d.Ins.length : Int) := by omega
    obtain ⟨w1, e_w1, s_w1, h_w1, x_m⟩ := alloc_step wr 59 [.int .i64 p.Next, .slice AList p.List.length cList]
    have s_w1_1 := Nat.le_of_eq s_w1
    have s_w1_2 := Nat.le_of_eq s_w1.symm
    clear s_w1
    replace x_a := x_a.from_ h_w1
    have B_w1 := HB.trans (h_w1.mono HB.size)
    have c_a_0_w1 := x_a.cell (i := 0) rfl
    have c_a_1_w1 := x_a.cell (i := 1) rfl
    have c_a_2_w1 := x_a.cell (i := 2) rfl
    have c_a_3_w1 := x_a.cell (i := 3) rfl
    have c_a_4_w1 := x_a.cell (i := 4) rfl
    have c_a_5_w1 := x_a.cell (i := 5) rfl
    have c_a_6_w1 := x_a.cell (i := 6) rfl
    have c_a_7_w1 := x_a.cell (i := 7) rfl
    have c_a_8_w1 := x_a.cell (i := 8) rfl
    have c_m_0_w1 := x_m.cell (i := 0) rfl
    have c_m_1_w1 := x_m.cell (i := 1) rfl
    by_cases hq : outOkB p = true
    case neg =>
      replace hq : outOkB p = false := by simpa using hq
      have HQ := Lib.hid hq
      have HO : Hid (linksB d = false) := by show _ = _; rw [HE.out, show ndOuts d = false from decide_eq_false (fun c => by have := c j hlt; unfold ndOut at this; rw [hp, hq] at this; simp at this)]; rfl
      clear hq hp hy
      go_wp2_with fail
      refine (iOutOk_c (vp.from_ h_w1) (by omega)).mono ?_
      rintro e w2 ⟨rfl, h_w2⟩
      clear c_a_0_w1 c_a_1_w1 c_a_2_w1 c_a_3_w1 c_a_4_w1 c_a_5_w1 c_a_6_w1 c_a_7_w1 c_a_8_w1 c_m_0_w1 c_m_1_w1
      replace x_a := x_a.from_ h_w2
      replace x_m := x_m.from_ h_w2
      have B_w2 := B_w1.trans (h_w2.mono B_w1.size)
      have s_w2 := h_w2.size
      rw [HQ.out]
      go_wp2
      go_ret
      exact ⟨ret_eq (by rw [HO.out]; rfl), B_w2⟩
    have HQ := Lib.hid hq
    by_cases hn : numB y = true
    case neg =>
      replace hn : numB y = false := by simpa using hn
      have HO : Hid (linksB d = false) := by show _ = _; rw [HE.out, show ndOuts d = false from decide_eq_false (fun c => by have := c j hlt; unfold ndOut at this; rw [hy, hn] at this; simp at this)]; rfl
      have HN := Lib.hid hn
      clear hq hn hp hy
      go_wp2_with fail
      refine (iOutOk_c (vp.from_ h_w1) (by omega)).mono ?_
      rintro e w2 ⟨rfl, h_w2⟩
      clear c_a_0_w1 c_a_1_w1 c_a_2_w1 c_a_3_w1 c_a_4_w1 c_a_5_w1 c_a_6_w1 c_a_7_w1 c_a_8_w1 c_m_0_w1 c_m_1_w1
      replace x_a := x_a.from_ h_w2
      replace x_m := x_m.from_ h_w2
      have B_w2 := B_w1.trans (h_w2.mono B_w1.size)
      have s_w2 := h_w2.size
      rw [HQ.out]
      have c_a_0_w2 := x_a.cell (i := 0) rfl
      have c_a_1_w2 := x_a.cell (i := 1) rfl
      have c_a_2_w2 := x_a.cell (i := 2) rfl
      have c_a_3_w2 := x_a.cell (i := 3) rfl
      have c_a_4_w2 := x_a.cell (i := 4) rfl
      have c_a_5_w2 := x_a.cell (i := 5) rfl
      have c_a_6_w2 := x_a.cell (i := 6) rfl
      have c_a_7_w2 := x_a.cell (i := 7) rfl
      have c_a_8_w2 := x_a.cell (i := 8) rfl
      have f0' := (h_w2.cell (p := ⟨b', off' + j, none⟩) (by show b' < _; omega)).trans ((h_w1.cell (p := ⟨b', off' + j, none⟩) (by show b' < wr.heap.size; omega)).trans f0)
      go_wp2_with fail
      refine (iNum_any _ _).mono ?_
      rintro e w' ⟨rfl, rfl⟩
      rw [HN.out]
      go_wp2
      go_ret
      exact ⟨ret_eq (by rw [HO.out]; rfl), B_w2⟩
    have H2 : Hid (∀ i, i < j + 1 → ndOut d i) := fun i hi => by
      by_cases e : i = j
      · rw [e]; exact ⟨by rw [hp]; exact hq, by rw [hy]; exact hn⟩
      · exact HT.out i (by omega)
    have HN := Lib.hid hn
    clear hq hn hp hy
    go_wp2_with fail
    refine (iOutOk_c (vp.from_ h_w1) (by omega)).mono ?_
    rintro e w2 ⟨rfl, h_w2⟩
    clear c_a_0_w1 c_a_1_w1 c_a_2_w1 c_a_3_w1 c_a_4_w1 c_a_5_w1 c_a_6_w1 c_a_7_w1 c_a_8_w1 c_m_0_w1 c_m_1_w1
    replace x_a := x_a.from_ h_w2
    replace x_m := x_m.from_ h_w2
    have B_w2 := B_w1.trans (h_w2.mono B_w1.size)
    have s_w2 := h_w2.size
    rw [HQ.out]
    have c_a_0_w2 := x_a.cell (i := 0) rfl
    have c_a_1_w2 := x_a.cell (i := 1) rfl
    have c_a_2_w2 := x_a.cell (i := 2) rfl
    have c_a_3_w2 := x_a.cell (i := 3) rfl
    have c_a_4_w2 := x_a.cell (i := 4) rfl
    have c_a_5_w2 := x_a.cell (i := 5) rfl
    have c_a_6_w2 := x_a.cell (i := 6) rfl
    have c_a_7_w2 := x_a.cell (i := 7) rfl
    have c_a_8_w2 := x_a.cell (i := 8) rfl
    have f0' := (h_w2.cell (p := ⟨b', off' + j, none⟩) (by show b' < _; omega)).trans ((h_w1.cell (p := ⟨b', off' + j, none⟩) (by show b' < wr.heap.size; omega)).trans f0)
    go_wp2_with fail
    refine (iNum_any _ _).mono ?_
    rintro e w' ⟨rfl, rfl⟩
    rw [HN.out]
    go_wp2
    go_roundw
    case rel => exact ⟨j + 1, by omega, by go_num, H2, x_a, B_w2⟩
    case measure => simp [intOf]; omega

set_option maxRecDepth 100000 in
set_option maxHeartbeats 4000000 in
theorem iNodeOk_c {w : World} {v : Value} {d : MNode} (h : RV nodeL w v d) (hb : d.bulk ≤ 16777216) (hq : QNode d) : Calls Try.prog 12 #[v] w fun e w' => e = .returned (.bool (nodeOkB d)) ∧ Below w.heap.size w w' := by
  obtain ⟨AAccts, cAccts, AOuts, cOuts, AIns, cIns, AAccs, cAccs, rfl, rAccts, rOuts, rIns, rAccs⟩ := rv_node h
  clear h
  unfold MNode.bulk sizeAcctS sizeOutS at hb
  obtain ⟨wa, hwa, B0, sa, x_a⟩ := frame1 w 34 [.int .i64 d.Id, .int .i64 d.N, .slice AAccts d.Accts.length cAccts, .slice AOuts d.Outs.length cOuts, .slice AIns d.Ins.length cIns, .slice AAccs d.Accs.length cAccs, .int .i64 d.Stray, .int .i64 d.Came, .int .i64 d.Went]
  have sa_1 := Nat.le_of_eq sa
  have sa_2 := Nat.le_of_eq sa.symm
  clear sa
  have hsp := nodeOk_split d
  have HSP := Lib.hid hsp
  clear hsp
  by_cases hP : placeB d = true
  case neg =>
    replace hP : placeB d = false := by simpa using hP
    have HP := Lib.hid hP
    have HO : Hid (nodeOkB d = false) := by show _ = _; rw [HSP.out, hP]; rfl
    clear hP
    go_enter Try.func12, Try.ntmps12
    go_wp2_with fail
    refine (iPlace_c x_a).mono ?_
    rintro e w1 ⟨rfl, h_w1⟩
    replace x_a := x_a.from_ h_w1
    have B_w1 := B0.trans (h_w1.mono B0.size)
    have s_w1 := h_w1.size
    rw [HP.out]
    go_wp2
    go_ret
    exact ⟨ret_eq (by rw [HO.out]; rfl), B_w1⟩
  have HP := Lib.hid hP
  by_cases hA : acctsB d = true
  case neg =>
    replace hA : acctsB d = false := by simpa using hA
    have HA := Lib.hid hA
    have HO : Hid (nodeOkB d = false) := by show _ = _; rw [HSP.out, hP, hA]; rfl
    clear hP hA
    go_enter Try.func12, Try.ntmps12
    go_wp2_with fail
    refine (iPlace_c x_a).mono ?_
    rintro e w1 ⟨rfl, h_w1⟩
    replace x_a := x_a.from_ h_w1
    have B_w1 := B0.trans (h_w1.mono B0.size)
    have s_w1 := h_w1.size
    rw [HP.out]
    go_wp2_with fail
    refine (iAccts_c x_a (rAccts.from_ B_w1) (rAccs.from_ B_w1) (by omega) hq).mono ?_
    rintro e w2 ⟨rfl, h_w2⟩
    replace x_a := x_a.from_ h_w2
    have B_w2 := B_w1.trans (h_w2.mono B_w1.size)
    have s_w2 := h_w2.size
    rw [HA.out]
    go_wp2
    go_ret
    exact ⟨ret_eq (by rw [HO.out]; rfl), B_w2⟩
  have HA := Lib.hid hA
  by_cases hL : linksB d = true
  case neg =>
    replace hL : linksB d = false := by simpa using hL
    have HL := Lib.hid hL
    have HO : Hid (nodeOkB d = false) := by show _ = _; rw [HSP.out, hP, hA, hL]; rfl
    clear hP hA hL
    go_enter Try.func12, Try.ntmps12
    go_wp2_with fail
    refine (iPlace_c x_a).mono ?_
    rintro e w1 ⟨rfl, h_w1⟩
    replace x_a := x_a.from_ h_w1
    have B_w1 := B0.trans (h_w1.mono B0.size)
    have s_w1 := h_w1.size
    rw [HP.out]
    go_wp2_with fail
    refine (iAccts_c x_a (rAccts.from_ B_w1) (rAccs.from_ B_w1) (by omega) hq).mono ?_
    rintro e w2 ⟨rfl, h_w2⟩
    replace x_a := x_a.from_ h_w2
    have B_w2 := B_w1.trans (h_w2.mono B_w1.size)
    have s_w2 := h_w2.size
    rw [HA.out]
    go_wp2_with fail
    refine (iLinks_c x_a (rOuts.from_ B_w2) (rIns.from_ B_w2) (by omega) HP.out).mono ?_
    rintro e w3 ⟨rfl, h_w3⟩
    replace x_a := x_a.from_ h_w3
    have B_w3 := B_w2.trans (h_w3.mono B_w2.size)
    have s_w3 := h_w3.size
    rw [HL.out]
    go_wp2
    go_ret
    exact ⟨ret_eq (by rw [HO.out]; rfl), B_w3⟩
  have HL := Lib.hid hL
  obtain ⟨z, hS⟩ : ∃ z, sumsB d = z := ⟨_, rfl⟩
  have HS := Lib.hid hS
  have HO : Hid (nodeOkB d = z) := by show _ = _; rw [HSP.out, hP, hA, hL, hS]; rfl
  clear hP hA hL hS
  go_enter Try.func12, Try.ntmps12
  go_wp2_with fail
  refine (iPlace_c x_a).mono ?_
  rintro e w1 ⟨rfl, h_w1⟩
  replace x_a := x_a.from_ h_w1
  have B_w1 := B0.trans (h_w1.mono B0.size)
  have s_w1 := h_w1.size
  rw [HP.out]
  go_wp2_with fail
  refine (iAccts_c x_a (rAccts.from_ B_w1) (rAccs.from_ B_w1) (by omega) hq).mono ?_
  rintro e w2 ⟨rfl, h_w2⟩
  replace x_a := x_a.from_ h_w2
  have B_w2 := B_w1.trans (h_w2.mono B_w1.size)
  have s_w2 := h_w2.size
  rw [HA.out]
  go_wp2_with fail
  refine (iLinks_c x_a (rOuts.from_ B_w2) (rIns.from_ B_w2) (by omega) HP.out).mono ?_
  rintro e w3 ⟨rfl, h_w3⟩
  replace x_a := x_a.from_ h_w3
  have B_w3 := B_w2.trans (h_w3.mono B_w2.size)
  have s_w3 := h_w3.size
  rw [HL.out]
  go_wp2_with fail
  refine (iSums_c x_a).mono ?_
  rintro e w4 ⟨rfl, h_w4⟩
  replace x_a := x_a.from_ h_w4
  have B_w4 := B_w3.trans (h_w4.mono B_w3.size)
  have s_w4 := h_w4.size
  rw [HS.out]
  go_wp2
  go_ret
  exact ⟨ret_eq (by rw [HO.out]; rfl), B_w4⟩

end Go.Proofs.Ytdoipabfmekdlaa
