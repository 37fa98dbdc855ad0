/- impl.tally: its variable in memory; the contracts of has, balance, issued, allNums, ok. -/
import Derived.Test.YtmbipgnecjlicaaTlMath
import Derived.Test.YtmbipgnecjlicaaPutNum
import Derived.IntWalk
import Derived.Laws.Tables
import Derived.Deep.MidRow
namespace Go.Proofs.Ytmbipgnecjlicaa
open Go.RowKit
set_option linter.unusedVariables false

theorem t57u : Try.prog.underlying 57 = some (.struct (Try.prog.fieldsOf 57)) := by kernel_rfl
theorem t57i : (Try.prog.info? 57).map (·.size) = some 21 := by kernel_rfl

section
variable {w : World} {b : Nat} {t : TypeId} {T : List Int}
theorem Vr.tc (h : Vr w b t (tl T)) (hT : T.length = 21) (k : Nat) (hk : k < 21) : w.cell? ⟨b, k, none⟩ = some (.int .i64 (tg T k)) := h.cell (tl_get (by omega))
theorem Vr.tn {r : MRights} (h : Vr w b t (tl (tOf r))) : w.cell? ⟨b, 0, none⟩ = some (.int .i64 (r.Give.length : Int)) := by rw [h.tc (tOf_len r) 0 (by omega), tOf_n]
theorem Vr.tgv {r : MRights} (h : Vr w b t (tl (tOf r))) {i j : Nat} (hi : i < 4) (hj : j < 4) : w.cell? ⟨b, 1 + i * 4 + j, none⟩ = some (.int .i64 (g2 r.Give i j)) := by rw [h.tc (tOf_len r) _ (by omega), tOf_g r hi hj]
theorem Vr.tsv {r : MRights} (h : Vr w b t (tl (tOf r))) {i : Nat} (hi : i < 4) : w.cell? ⟨b, 17 + i, none⟩ = some (.int .i64 (s1 r.Spent i)) := by rw [h.tc (tOf_len r) _ (by omega), tOf_s r hi]
/-- the whole of it, loaded as one step of a plain region, guarded or not -/
theorem wpl_tload {ops : Array Oper} {rest : List Oper} {o : Oper} {a : Act} {Q : Exit → Act → World → Prop} {x : Operand} (h : Vr w b t (tl T)) (hT : T.length = 21) (ho : o.op = .load 57 x) (hx : a.eval x = .pointer (some ⟨b, 0, none⟩)) (hw : Region.wanted o (yielded ops a.tmps) = true)
    (hq : wpList Try.prog ops Q rest (a.put o.dst (.agg (tl T).toArray)) w) : wpList Try.prog ops Q (o :: rest) a w :=
  wpList_step fun K hK => by
    rw [if_pos hw]
    exact wp_load_row _ x ho b hx t (tl T).toArray (0, 0) _ h t57u rfl (by rw [t57i]; simp [tl_len, hT]) (hK _ _ hq)
end

set_option maxHeartbeats 400000 in
theorem tHas_c {w : World} {T : List Int} {i : Int} (hT : T.length = 21) (hi : -9223372036854775808 ≤ i ∧ i ≤ 9223372036854775807) :
    Calls Try.prog 46 #[.agg (tl T).toArray, .int .i64 i] w fun e w' => e = .returned (.bool (decide (0 ≤ i ∧ i < tg T 0))) ∧ Below w.heap.size w w' := by
  obtain ⟨wa, hwa, B0, sa, x_a⟩ := frame1 w 57 (tl T)
  have sa_1 := Nat.le_of_eq sa
  have sa_2 := Nat.le_of_eq sa.symm
  clear sa
  have c0 := x_a.tc hT 0 (by omega)
  obtain ⟨q, hq⟩ : ∃ q, decide (0 ≤ i ∧ i < tg T 0) = q := ⟨_, rfl⟩
  rw [hq]
  have HQ := Lib.hid hq
  clear hq
  go_enter Try.func46, Try.ntmps46
  go_wp2
  · go_ret
    exact ⟨ret_eq (by rw [← HQ.out]; simp; omega), B0⟩
  · go_ret
    exact ⟨ret_eq (by rw [← HQ.out]; simp; omega), B0⟩

set_option maxHeartbeats 2000000 in
theorem tBal_c {w : World} {r : MRights} {i : Nat} (hf : formB r = true) (hi : i < r.Give.length) :
    Calls Try.prog 54 #[.agg (tl (tOf r)).toArray, .int .i64 i] w fun e w' => e = .returned (.int .i64 (hasZ r i)) ∧ Below w.heap.size w w' := by
  obtain ⟨wa, hwa, B0, sa, x_a⟩ := frame1 w 57 (tl (tOf r))
  have sa_1 := Nat.le_of_eq sa
  have sa_2 := Nat.le_of_eq sa.symm
  clear sa
  obtain ⟨p1, p2, p3⟩ := form_parts hf
  have p4 := form_g2 hf
  have hN := hasN_range hf i
  have i4 : (i : Int) < 4 := by omega
  have i0 : i < 4 := by omega
  have c0 := x_a.tn
  have c1 := x_a.tgv i0 i0
  have c2 := x_a.tsv i0
  have p4i := p4 i i
  have p3i := p3 i
  obtain ⟨y, hy⟩ : ∃ y, g2 r.Give i i = y := ⟨_, rfl⟩
  obtain ⟨z, hz⟩ : ∃ z, s1 r.Spent i = z := ⟨_, rfl⟩
  rw [hy] at p4i c1
  rw [hz] at p3i c2
  have H0 : Hid (y - z = hasN r i 0) := by show _ = _; rw [hasN, hy, hz]
  clear hy hz
  go_enter Try.func54, Try.ntmps54
  go_wp2_with fail
  go_quiet (fail)
  have B1 : Below w.heap.size w (wa.drewN nq) := B0.trans (below_of_drew _ _ nq)
  have x_b := x_a.from_ (below_of_drew _ _ nq)
  clear c0 c1 c2
  have c_0 := x_b.tn
  go_wp2
  go_loopw [5, 20] (fun n j wr => ∃ (k : Nat) (z : Int), k ≤ r.Give.length ∧ j = .int .i64 k ∧ n = .int .i64 z ∧ Hid (z = hasN r i k) ∧ Vr wr w.heap.size 57 (tl (tOf r)) ∧ Below w.heap.size w wr) (fun _ j _ => r.Give.length - (intOf j).toNat)
  case atStart => exact ⟨0, _, Nat.zero_le _, rfl, by go_num, H0, x_b, B1⟩
  case round =>
    clear x_a x_b c_0
    obtain ⟨k, z, hk, rfl, rfl, HZ, x_a, HB⟩ := hrel
    have hs := HB.size
    have hzr := hN k
    rw [← HZ.out] at hzr
    by_cases hlt : k < r.Give.length
    case neg =>
      have HO : Hid (hasZ r i = z) := by show _ = _; unfold hasZ; rw [HZ.out, show k = r.Give.length by omega]
      have hk2 : ¬ ((k : Int) < (r.Give.length : Int)) := by omega
      go_wp2
      go_ret
      exact ⟨ret_eq (by rw [HO.out]; rfl), HB⟩
    have j1 : (k : Int) < (r.Give.length : Int) := by omega
    have j4 : (k : Int) < 4 := by omega
    have k4 : k < 4 := by omega
    have c1 := x_a.tgv k4 i0
    have c2 := x_a.tgv i0 k4
    have pk := p4 k i
    have pi := p4 i k
    obtain ⟨x, hx⟩ : ∃ x, g2 r.Give k i = x := ⟨_, rfl⟩
    obtain ⟨y, hy⟩ : ∃ y, g2 r.Give i k = y := ⟨_, rfl⟩
    rw [hx] at pk c1
    rw [hy] at pi c2
    have H2 : Hid (z + (x - y) = hasN r i (k + 1)) := by
      show _ = _
      rw [hasN, HZ.out]
      by_cases e : k = i
      · rw [if_pos e, ← hx, ← hy, e]; omega
      · rw [if_neg e, hx, hy]
    clear hx hy
    go_wp2_with fail
    go_quiet (fail)
    have B9 := HB.trans (below_of_drew _ _ nq)
    have x_9 := x_a.from_ (below_of_drew _ _ nq)
    go_wp2
    go_roundw
    case rel => exact ⟨k + 1, _, by omega, by go_num, by go_num, H2, x_9, B9⟩
    case measure => simp [intOf]; omega

set_option maxHeartbeats 2000000 in
theorem tIss_c {w : World} {r : MRights} (hf : formB r = true) :
    Calls Try.prog 81 #[.agg (tl (tOf r)).toArray] w fun e w' => e = .returned (.int .i64 (diagN r r.Give.length)) ∧ Below w.heap.size w w' := by
  obtain ⟨wa, hwa, B0, sa, x_a⟩ := frame1 w 57 (tl (tOf r))
  have sa_1 := Nat.le_of_eq sa
  have sa_2 := Nat.le_of_eq sa.symm
  clear sa
  obtain ⟨p1, p2, p3⟩ := form_parts hf
  have p4 := form_g2 hf
  have hD := diagN_range hf
  have c0 := x_a.tn
  go_enter Try.func81, Try.ntmps81
  go_wp2
  go_loopw [3, 7] (fun n j wr => ∃ (k : Nat) (z : Int), k ≤ r.Give.length ∧ j = .int .i64 k ∧ n = .int .i64 z ∧ Hid (z = diagN r k) ∧ wr = wa) (fun _ j _ => r.Give.length - (intOf j).toNat)
  case atStart => exact ⟨0, 0, Nat.zero_le _, rfl, rfl, rfl, rfl⟩
  case round =>
    obtain ⟨k, z, hk, rfl, rfl, HZ, rfl⟩ := hrel
    have hzr := hD k
    rw [← HZ.out] at hzr
    by_cases hlt : k < r.Give.length
    case neg =>
      have HO : Hid (diagN r r.Give.length = z) := by show _ = _; rw [HZ.out, show k = r.Give.length by omega]
      have hk2 : ¬ ((k : Int) < (r.Give.length : Int)) := by omega
      go_wp2
      go_ret
      exact ⟨ret_eq (by rw [HO.out]; rfl), B0⟩
    have j1 : (k : Int) < (r.Give.length : Int) := by omega
    have j4 : (k : Int) < 4 := by omega
    have k4 : k < 4 := by omega
    have c1 := x_a.tgv k4 k4
    have pk := p4 k k
    obtain ⟨x, hx⟩ : ∃ x, g2 r.Give k k = x := ⟨_, rfl⟩
    rw [hx] at pk c1
    have H2 : Hid (z + x = diagN r (k + 1)) := by show _ = _; rw [diagN, HZ.out, hx]
    clear hx
    go_wp2
    go_roundw
    case rel => exact ⟨k + 1, _, by omega, by go_num, by go_num, H2, by first | trivial | rfl⟩
    case measure => simp [intOf]; omega

set_option maxHeartbeats 2000000 in
theorem tAll_c {w : World} {r : MRights} (hS : Shp r.Give.length r) (h1 : 1 ≤ r.Give.length ∧ r.Give.length ≤ 4) :
    Calls Try.prog 79 #[.agg (tl (tOf r)).toArray] w fun e w' => e = .returned (.bool (formB r)) ∧ Below w.heap.size w w' := by
  obtain ⟨wa, hwa, B0, sa, x_a⟩ := frame1 w 57 (tl (tOf r))
  have sa_1 := Nat.le_of_eq sa
  have sa_2 := Nat.le_of_eq sa.symm
  clear sa
  have HI := Lib.hid (form_iff hS h1)
  have c0 := x_a.tn
  go_enter Try.func79, Try.ntmps79
  go_wp2
  go_loopw [7] (fun j wr => ∃ k : Nat, k ≤ r.Give.length ∧ j = .int .i64 k ∧ Hid (∀ i, i < k → numB (s1 r.Spent i) = true ∧ ∀ j, j < r.Give.length → numB (g2 r.Give i j) = true) ∧ wr = wa) (fun j _ => r.Give.length - (intOf j).toNat)
  case atStart => exact ⟨0, Nat.zero_le _, rfl, fun i hi => by omega, rfl⟩
  case round =>
    obtain ⟨k, hk, rfl, HA, rfl⟩ := hrel
    by_cases hlt : k < r.Give.length
    case neg =>
      have HO : Hid (formB r = true) := HI.out.2 (fun i hi => HA.out i (by omega))
      have hk2 : ¬ ((k : Int) < (r.Give.length : Int)) := by omega
      go_wp2
      go_ret
      exact ⟨ret_eq (by rw [HO.out]; rfl), B0⟩
    have j1 : (k : Int) < (r.Give.length : Int) := by omega
    have j4 : (k : Int) < 4 := by omega
    have k4 : k < 4 := by omega
    have c1 := x_a.tsv k4
    obtain ⟨x, hx⟩ : ∃ x, s1 r.Spent k = x := ⟨_, rfl⟩
    rw [hx] at c1
    have HX := Lib.hid hx
    clear hx
    by_cases hxn : numB x = true
    case neg =>
      have hxn' : numB x = false := by simpa using hxn
      have HN := Lib.hid hxn'
      have HO : Hid (formB r = false) := by
        show _ = _
        rw [Bool.eq_false_iff]
        intro c
        have := (HI.out.1 c k hlt).1
        rw [HX.out] at this
        exact hxn this
      clear hxn hxn'
      go_wp2_with fail
      refine (iNum_any _ _).mono ?_
      rintro e w' ⟨rfl, rfl⟩
      rw [HN.out]
      go_wp2
      go_ret
      exact ⟨ret_eq (by rw [HO.out]; rfl), B0⟩
    have HN := Lib.hid hxn
    clear hxn
    go_wp2_with fail
    refine (iNum_any _ _).mono ?_
    rintro e w' ⟨rfl, rfl⟩
    rw [HN.out]
    obtain ⟨w3, rfl⟩ : ∃ x, x = wr := ⟨_, rfl⟩
    go_wp2
    go_loopw [18] (fun q wr => ∃ j : Nat, j ≤ r.Give.length ∧ q = .int .i64 j ∧ Hid (∀ m, m < j → numB (g2 r.Give k m) = true) ∧ wr = w3) (fun q _ => r.Give.length - (intOf q).toNat)
    case atStart => exact ⟨0, Nat.zero_le _, rfl, fun m hm => by omega, rfl⟩
    case round =>
      obtain ⟨j, hj, rfl, HV, rfl⟩ := hrel
      by_cases hjl : j < r.Give.length
      case pos =>
        have m1 : (j : Int) < (r.Give.length : Int) := by omega
        have m4 : (j : Int) < 4 := by omega
        have j4' : j < 4 := by omega
        have c2 := x_a.tgv k4 j4'
        obtain ⟨y, hy⟩ : ∃ y, g2 r.Give k j = y := ⟨_, rfl⟩
        rw [hy] at c2
        have HY := Lib.hid hy
        clear hy
        by_cases hyn : numB y = true
        case neg =>
          have hyn' : numB y = false := by simpa using hyn
          have HN2 := Lib.hid hyn'
          have HO : Hid (formB r = false) := by
            show _ = _
            rw [Bool.eq_false_iff]
            intro c
            have := (HI.out.1 c k hlt).2 j hjl
            rw [HY.out] at this
            exact hyn this
          clear hyn hyn'
          go_wp2_with fail
          refine (iNum_any _ _).mono ?_
          rintro e w' ⟨rfl, rfl⟩
          rw [HN2.out]
          go_wp2
          go_ret
          exact ⟨ret_eq (by rw [HO.out]; rfl), B0⟩
        have HV2 : Hid (∀ m, m < j + 1 → numB (g2 r.Give k m) = true) := fun m hm => by
          by_cases e : m = j
          · rw [e, HY.out]; exact hyn
          · exact HV.out m (by omega)
        have HN2 := Lib.hid hyn
        clear hyn
        go_wp2_with fail
        refine (iNum_any _ _).mono ?_
        rintro e w' ⟨rfl, rfl⟩
        rw [HN2.out]
        go_wp2
        go_roundw
        case rel => exact ⟨j + 1, by omega, by go_num, HV2, by first | trivial | rfl⟩
        case measure => simp [intOf]; omega
      have HA2 : Hid (∀ i, i < k + 1 → numB (s1 r.Spent i) = true ∧ ∀ j, j < r.Give.length → numB (g2 r.Give i j) = true) := fun i hi => by
        by_cases e : i = k
        · rw [e]; exact ⟨by rw [HX.out]; exact HN.out, fun m hm => HV.out m (by omega)⟩
        · exact HA.out i (by omega)
      have hj2 : ¬ ((j : Int) < (r.Give.length : Int)) := by omega
      go_wp2
      go_roundw
      case rel => exact ⟨k + 1, by omega, by go_num, HA2, by first | trivial | rfl⟩
      case measure => simp [intOf]; omega

end Go.Proofs.Ytmbipgnecjlicaa
