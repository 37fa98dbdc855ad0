/- impl.tally: its 21 cells as one list of integers; plain mathematics. · impl.tally: its variable in memory; the contracts of has, balance, issued, allNums, ok. · impl.tally: the contract of ok. · impl.tally: the contract of rights. Laid by a program of ours (src/tl2.py). -/
import Derived.Test.YtmbipgnecjlicaaMeetMath
import Derived.Test.YtmbipgnecjlicaaPutNum
import Derived.IntWalk
import Derived.Laws.Tables
import Derived.Deep.MidRow
import Derived.Test.YtmbipgnecjlicaaRt2
import Derived.Deep.RegionLaw

namespace Go.Proofs.Ytmbipgnecjlicaa
open Go.RowKit
set_option linter.unusedVariables false

/-- the cells of a list of integers -/
def tl (T : List Int) : List Value := T.map (Value.int .i64)
/-- element k -/
def tg (T : List Int) (k : Nat) : Int := T.getD k 0
theorem tl_len (T : List Int) : (tl T).length = T.length := by simp [tl]
theorem tl_get {T : List Int} {k : Nat} (hk : k < T.length) : (tl T)[k]? = some (.int .i64 (tg T k)) := by
  simp [tl, tg, List.getD_eq_getElem?_getD, List.getElem?_eq_getElem hk]
theorem tl_set (T : List Int) (k : Nat) (x : Int) : (tl T).set k (.int .i64 x) = tl (T.set k x) := by simp [tl, List.map_set]
theorem tl_one (T : List Int) : ∀ v ∈ tl T, v.oneCell' = true := by
  intro v hv
  obtain ⟨n, _, rfl⟩ := List.mem_map.1 hv
  rfl
theorem tg_set {T : List Int} {k : Nat} (hk : k < T.length) (x : Int) (i : Nat) : tg (T.set k x) i = if i = k then x else tg T i := getD_set2 T k i x 0 hk
theorem tg_ext {T U : List Int} (h : T.length = 21) (h' : U.length = 21) (he : ∀ k, k < 21 → tg T k = tg U k) : T = U := list_ext_getD h h' he

/-- the counters of Rights in arrays -/
def tOf (r : MRights) : List Int := [(r.Give.length : Int), g2 r.Give 0 0, g2 r.Give 0 1, g2 r.Give 0 2, g2 r.Give 0 3, g2 r.Give 1 0, g2 r.Give 1 1, g2 r.Give 1 2, g2 r.Give 1 3, g2 r.Give 2 0, g2 r.Give 2 1, g2 r.Give 2 2, g2 r.Give 2 3, g2 r.Give 3 0, g2 r.Give 3 1, g2 r.Give 3 2, g2 r.Give 3 3, s1 r.Spent 0, s1 r.Spent 1, s1 r.Spent 2, s1 r.Spent 3]
theorem tOf_len (r : MRights) : (tOf r).length = 21 := rfl
theorem tOf_n (r : MRights) : tg (tOf r) 0 = (r.Give.length : Int) := rfl
theorem tOf_g (r : MRights) {i j : Nat} (hi : i < 4) (hj : j < 4) : tg (tOf r) (1 + i * 4 + j) = g2 r.Give i j := by
  rcases i with _ | _ | _ | _ | i <;> rcases j with _ | _ | _ | _ | j <;> first | rfl | omega
theorem tOf_s (r : MRights) {i : Nat} (hi : i < 4) : tg (tOf r) (17 + i) = s1 r.Spent i := by
  rcases i with _ | _ | _ | _ | i <;> first | rfl | omega
/-- a place among the 21 -/
theorem places (k : Nat) (hk : k < 21) : k = 0 ∨ (∃ i j, i < 4 ∧ j < 4 ∧ k = 1 + i * 4 + j) ∨ ∃ i, i < 4 ∧ k = 17 + i := by
  by_cases h0 : k = 0
  · exact .inl h0
  · by_cases h1 : k < 17
    · exact .inr (.inl ⟨(k - 1) / 4, (k - 1) % 4, by omega, by omega, by omega⟩)
    · exact .inr (.inr ⟨k - 17, by omega, by omega⟩)
theorem is_tOf {T : List Int} {r : MRights} (h : T.length = 21) (h0 : tg T 0 = (r.Give.length : Int)) (hg : ∀ i j, i < 4 → j < 4 → tg T (1 + i * 4 + j) = g2 r.Give i j) (hs : ∀ i, i < 4 → tg T (17 + i) = s1 r.Spent i) : T = tOf r := by
  refine tg_ext h rfl fun k hk => ?_
  rcases places k hk with rfl | ⟨i, j, hi, hj, rfl⟩ | ⟨i, hi, rfl⟩
  · exact h0
  · rw [hg i j hi hj, tOf_g r hi hj]
  · rw [hs i hi, tOf_s r hi]
theorem tOf_setG {D : MRights} {k j : Nat} {R : List Int} {x : Int} (hR : D.Give[k]? = some R) (hj : j < R.length) (hk4 : k < 4) (hj4 : j < 4) : (tOf D).set (1 + k * 4 + j) x = tOf ⟨D.Give.set k (R.set j x), D.Spent⟩ := by
  refine is_tOf (by simp [tOf_len]) ?_ (fun i m hi hm => ?_) (fun i hi => ?_)
  · rw [tg_set (by rw [tOf_len]; omega), if_neg (by omega), tOf_n]
    simp
  · rw [tg_set (by rw [tOf_len]; omega), tOf_g D hi hm, g2_set hR hj]
    by_cases e : i = k ∧ m = j
    · rw [if_pos (by obtain ⟨rfl, rfl⟩ := e; rfl), if_pos e]
    · rw [if_neg (by omega), if_neg e]
  · rw [tg_set (by rw [tOf_len]; omega), if_neg (by omega), tOf_s D hi]
theorem tOf_setS {D : MRights} {k : Nat} {x : Int} (hk : k < D.Spent.length) (hk4 : k < 4) : (tOf D).set (17 + k) x = tOf ⟨D.Give, D.Spent.set k x⟩ := by
  refine is_tOf (by simp [tOf_len]) ?_ (fun i m hi hm => ?_) (fun i hi => ?_)
  · rw [tg_set (by rw [tOf_len]; omega), if_neg (by omega), tOf_n]
  · rw [tg_set (by rw [tOf_len]; omega), if_neg (by omega), tOf_g D hi hm]
  · rw [tg_set (by rw [tOf_len]; omega), tOf_s D hi]
    unfold s1
    rw [getD_set2 _ _ _ _ _ hk]
    by_cases e : i = k
    · rw [if_pos (by omega), if_pos e]
    · rw [if_neg (by omega), if_neg e]
theorem g2_out {n : Nat} {D : MRights} (h : Shp n D) {i j : Nat} (ho : n ≤ i ∨ n ≤ j) : g2 D.Give i j = 0 := by
  by_cases hi : i < D.Give.length
  · have hR := List.getElem?_eq_getElem hi
    have hl := h.2.2 i _ hR
    have hn := h.1
    rw [g2_of hR, List.getD_eq_getElem?_getD, List.getElem?_eq_none (by omega)]
    rfl
  · have e : D.Give.getD i [] = [] := by rw [List.getD_eq_getElem?_getD, List.getElem?_eq_none (by omega)]; rfl
    unfold g2
    rw [e]
    simp
theorem s1_out {n : Nat} {D : MRights} (h : Shp n D) {i : Nat} (ho : n ≤ i) : s1 D.Spent i = 0 := by
  have := h.2.1
  unfold s1
  rw [List.getD_eq_getElem?_getD, List.getElem?_eq_none (by omega)]
  rfl
/-- two of one shape are the same where their arrays are -/
theorem tOf_inj {n : Nat} {D E : MRights} (hD : Shp n D) (hE : Shp n E) (hn : n ≤ 4) (h : tOf D = tOf E) : D = E :=
  mat_ext hD hE (fun i m hi hm => by rw [← tOf_g D (by omega) (by omega), ← tOf_g E (by omega) (by omega), h]) (fun i hi => by rw [← tOf_s D (by omega), ← tOf_s E (by omega), h])

/-- the shape alone -/
def shpB (r : MRights) : Bool := decide (1 ≤ r.Give.length ∧ r.Give.length ≤ 4 ∧ r.Spent.length = r.Give.length) && r.Give.all (fun row => decide (row.length = r.Give.length))
theorem shp_of {r : MRights} (h : shpB r = true) : Shp r.Give.length r ∧ 1 ≤ r.Give.length ∧ r.Give.length ≤ 4 := by
  unfold shpB at h
  simp only [Bool.and_eq_true, decide_eq_true_eq] at h
  refine ⟨⟨rfl, h.1.2.2, fun i R hR => ?_⟩, h.1.1, h.1.2.1⟩
  have := List.all_eq_true.1 h.2 R (List.mem_of_getElem? hR)
  simpa using this
/-- all elements are numbers -/
theorem form_iff {r : MRights} (h : Shp r.Give.length r) (h1 : 1 ≤ r.Give.length ∧ r.Give.length ≤ 4) : formB r = true ↔ ∀ i, i < r.Give.length → numB (s1 r.Spent i) = true ∧ ∀ j, j < r.Give.length → numB (g2 r.Give i j) = true := by
  constructor
  · intro hf i hi
    exact ⟨numB_true.2 ((form_parts hf).2.2 i), fun j _ => numB_true.2 (form_g2 hf i j)⟩
  · intro ha
    unfold formB
    simp only [Bool.and_eq_true, decide_eq_true_eq, List.all_eq_true]
    refine ⟨⟨h1.1, h1.2, h.2.1⟩, fun R hR => ?_, fun x hx => ?_⟩
    · obtain ⟨i, hi⟩ := List.getElem?_of_mem hR
      have hl := h.2.2 i R hi
      refine ⟨hl, fun x hx => ?_⟩
      obtain ⟨j, hj⟩ := List.getElem?_of_mem hx
      have := (ha i (getElem?_lt hi)).2 j (by have := getElem?_lt hj; omega)
      rwa [g2_of hi, List.getD_eq_getElem?_getD, hj] at this
    · obtain ⟨j, hj⟩ := List.getElem?_of_mem hx
      have := (ha j (by have := getElem?_lt hj; have := h.2.1; omega)).1
      unfold s1 at this
      rwa [List.getD_eq_getElem?_getD, hj] at this

end Go.Proofs.Ytmbipgnecjlicaa

namespace Go.Proofs.Ytmbipgnecjlicaa
open Go.RowKit
set_option linter.unusedVariables false

theorem t57u : Try.prog.underlying 57 = some (.struct (Try.prog.fieldsOf 57)) := by kernel_rfl
theorem t57i : (Try.prog.info? 57).map (·.size) = some 21 := by kernel_rfl

section
variable {w : World} {b : Nat} {t : TypeId} {T : List Int}
theorem Vr.tc (h : Vr w b t (tl T)) (hT : T.length = 21) (k : Nat) (hk : k < 21) : w.cell? ⟨b, k, none⟩ = some (.int .i64 (tg T k)) := h.cell (tl_get (by omega))
theorem Vr.tn {r : MRights} (h : Vr w b t (tl (tOf r))) : w.cell? ⟨b, 0, none⟩ = some (.int .i64 (r.Give.length : Int)) := by rw [h.tc (tOf_len r) 0 (by omega), tOf_n]
theorem Vr.tgv {r : MRights} (h : Vr w b t (tl (tOf r))) {i j : Nat} (hi : i < 4) (hj : j < 4) : w.cell? ⟨b, 1 + i * 4 + j, none⟩ = some (.int .i64 (g2 r.Give i j)) := by rw [h.tc (tOf_len r) _ (by omega), tOf_g r hi hj]
theorem Vr.tsv {r : MRights} (h : Vr w b t (tl (tOf r))) {i : Nat} (hi : i < 4) : w.cell? ⟨b, 17 + i, none⟩ = some (.int .i64 (s1 r.Spent i)) := by rw [h.tc (tOf_len r) _ (by omega), tOf_s r hi]
/-- the whole of it, loaded as one step of a plain region, guarded or not -/
theorem wpl_tload {ops : Array Oper} {rest : List Oper} {o : Oper} {a : Act} {Q : Exit → Act → World → Prop} {x : Operand} (h : Vr w b t (tl T)) (hT : T.length = 21) (ho : o.op = .load 57 x) (hx : a.eval x = .pointer (some ⟨b, 0, none⟩)) (hw : Region.wanted o (yielded ops a.tmps) = true)
    (hq : wpList Try.prog ops Q rest (a.put o.dst (.agg (tl T).toArray)) w) : wpList Try.prog ops Q (o :: rest) a w :=
  wpList_step fun K hK => by
    rw [if_pos hw]
    exact wp_load_row _ x ho b hx t (tl T).toArray (0, 0) _ h t57u rfl (by rw [t57i]; simp [tl_len, hT]) (hK _ _ hq)
end

set_option maxHeartbeats 400000 in
theorem tHas_c {w : World} {T : List Int} {i : Int} (hT : T.length = 21) (hi : -9223372036854775808 ≤ i ∧ i ≤ 9223372036854775807) :
    Calls Try.prog 46 #[.agg (tl T).toArray, .int .i64 i] w fun e w' => e = .returned (.bool (decide (0 ≤ i ∧ i < tg T 0))) ∧ Below w.heap.size w w' := by
  obtain ⟨wa, hwa, B0, sa, x_a⟩ := frame1 w 57 (tl T)
  have sa_1 := Nat.le_of_eq sa
  have sa_2 := Nat.le_of_eq sa.symm
  clear sa
  have c0 := x_a.tc hT 0 (by omega)
  obtain ⟨q, hq⟩ : ∃ q, decide (0 ≤ i ∧ i < tg T 0) = q := ⟨_, rfl⟩
  rw [hq]
  have HQ := Lib.hid hq
  clear hq
  go_enter Try.func46, Try.ntmps46
  go_wp2
  · go_ret
    exact ⟨ret_eq (by rw [← HQ.out]; simp; omega), B0⟩
  · go_ret
    exact ⟨ret_eq (by rw [← HQ.out]; simp; omega), B0⟩

set_option maxHeartbeats 2000000 in
theorem tBal_c {w : World} {r : MRights} {i : Nat} (hf : formB r = true) (hi : i < r.Give.length) :
    Calls Try.prog 54 #[.agg (tl (tOf r)).toArray, .int .i64 i] w fun e w' => e = .returned (.int .i64 (hasZ r i)) ∧ Below w.heap.size w w' := by
  obtain ⟨wa, hwa, B0, sa, x_a⟩ := frame1 w 57 (tl (tOf r))
  have sa_1 := Nat.le_of_eq sa
  have sa_2 := Nat.le_of_eq sa.symm
  clear sa
  obtain ⟨p1, p2, p3⟩ := form_parts hf
  have p4 := form_g2 hf
  have hN := hasN_range hf i
  have i4 : (i : Int) < 4 := by omega
  have i0 : i < 4 := by omega
  have c0 := x_a.tn
  have c1 := x_a.tgv i0 i0
  have c2 := x_a.tsv i0
  have p4i := p4 i i
  have p3i := p3 i
  obtain ⟨y, hy⟩ : ∃ y, g2 r.Give i i = y := ⟨_, rfl⟩
  obtain ⟨z, hz⟩ : ∃ z, s1 r.Spent i = z := ⟨_, rfl⟩
  rw [hy] at p4i c1
  rw [hz] at p3i c2
  have H0 : Hid (y - z = hasN r i 0) := by show _ = _; rw [hasN, hy, hz]
  clear hy hz
  go_enter Try.func54, Try.ntmps54
  go_wp2_with fail
  go_quiet (fail)
  have B1 : Below w.heap.size w (wa.drewN nq) := B0.trans (below_of_drew _ _ nq)
  have x_b := x_a.from_ (below_of_drew _ _ nq)
  clear c0 c1 c2
  have c_0 := x_b.tn
  go_wp2
  go_loopw [5, 20] (fun n j wr => ∃ (k : Nat) (z : Int), k ≤ r.Give.length ∧ j = .int .i64 k ∧ n = .int .i64 z ∧ Hid (z = hasN r i k) ∧ Vr wr w.heap.size 57 (tl (tOf r)) ∧ Below w.heap.size w wr) (fun _ j _ => r.Give.length - (intOf j).toNat)
  case atStart => exact ⟨0, _, Nat.zero_le _, rfl, by go_num, H0, x_b, B1⟩
  case round =>
    clear x_a x_b c_0
    obtain ⟨k, z, hk, rfl, rfl, HZ, x_a, HB⟩ := hrel
    have hs := HB.size
    have hzr := hN k
    rw [← HZ.out] at hzr
    by_cases hlt : k < r.Give.length
    case neg =>
      have HO : Hid (hasZ r i = z) := by show _ = _; unfold hasZ; rw [HZ.out, show k = r.Give.length by omega]
      have hk2 : ¬ ((k : Int) < (r.Give.length : Int)) := by omega
      go_wp2
      go_ret
      exact ⟨ret_eq (by rw [HO.out]; rfl), HB⟩
    have j1 : (k : Int) < (r.Give.length : Int) := by omega
    have j4 : (k : Int) < 4 := by omega
    have k4 : k < 4 := by omega
    have c1 := x_a.tgv k4 i0
    have c2 := x_a.tgv i0 k4
    have pk := p4 k i
    have pi := p4 i k
    obtain ⟨x, hx⟩ : ∃ x, g2 r.Give k i = x := ⟨_, rfl⟩
    obtain ⟨y, hy⟩ : ∃ y, g2 r.Give i k = y := ⟨_, rfl⟩
    rw [hx] at pk c1
    rw [hy] at pi c2
    have H2 : Hid (z + (x - y) = hasN r i (k + 1)) := by
      show _ = _
      rw [hasN, HZ.out]
      by_cases e : k = i
      · rw [if_pos e, ← hx, ← hy, e]; omega
      · rw [if_neg e, hx, hy]
    clear hx hy
    go_wp2_with fail
    go_quiet (fail)
    have B9 := HB.trans (below_of_drew _ _ nq)
    have x_9 := x_a.from_ (below_of_drew _ _ nq)
    go_wp2
    go_roundw
    case rel => exact ⟨k + 1, _, by omega, by go_num, by go_num, H2, x_9, B9⟩
    case measure => simp [intOf]; omega

set_option maxHeartbeats 2000000 in
theorem tIss_c {w : World} {r : MRights} (hf : formB r = true) :
    Calls Try.prog 81 #[.agg (tl (tOf r)).toArray] w fun e w' => e = .returned (.int .i64 (diagN r r.Give.length)) ∧ Below w.heap.size w w' := by
  obtain ⟨wa, hwa, B0, sa, x_a⟩ := frame1 w 57 (tl (tOf r))
  have sa_1 := Nat.le_of_eq sa
  have sa_2 := Nat.le_of_eq sa.symm
  clear sa
  obtain ⟨p1, p2, p3⟩ := form_parts hf
  have p4 := form_g2 hf
  have hD := diagN_range hf
  have c0 := x_a.tn
  go_enter Try.func81, Try.ntmps81
  go_wp2
  go_loopw [3, 7] (fun n j wr => ∃ (k : Nat) (z : Int), k ≤ r.Give.length ∧ j = .int .i64 k ∧ n = .int .i64 z ∧ Hid (z = diagN r k) ∧ wr = wa) (fun _ j _ => r.Give.length - (intOf j).toNat)
  case atStart => exact ⟨0, 0, Nat.zero_le _, rfl, rfl, rfl, rfl⟩
  case round =>
    obtain ⟨k, z, hk, rfl, rfl, HZ, rfl⟩ := hrel
    have hzr := hD k
    rw [← HZ.out] at hzr
    by_cases hlt : k < r.Give.length
    case neg =>
      have HO : Hid (diagN r r.Give.length = z) := by show _ = _; rw [HZ.out, show k = r.Give.length by omega]
      have hk2 : ¬ ((k : Int) < (r.Give.length : Int)) := by omega
      go_wp2
      go_ret
      exact ⟨ret_eq (by rw [HO.out]; rfl), B0⟩
    have j1 : (k : Int) < (r.Give.length : Int) := by omega
    have j4 : (k : Int) < 4 := by omega
    have k4 : k < 4 := by omega
    have c1 := x_a.tgv k4 k4
    have pk := p4 k k
    obtain ⟨x, hx⟩ : ∃ x, g2 r.Give k k = x := ⟨_, rfl⟩
    rw [hx] at pk c1
    have H2 : Hid (z + x = diagN r (k + 1)) := by show _ = _; rw [diagN, HZ.out, hx]
    clear hx
    go_wp2
    go_roundw
    case rel => exact ⟨k + 1, _, by omega, by go_num, by go_num, H2, by first | trivial | rfl⟩
    case measure => simp [intOf]; omega

set_option maxHeartbeats 2000000 in
theorem tAll_c {w : World} {r : MRights} (hS : Shp r.Give.length r) (h1 : 1 ≤ r.Give.length ∧ r.Give.length ≤ 4) :
    Calls Try.prog 79 #[.agg (tl (tOf r)).toArray] w fun e w' => e = .returned (.bool (formB r)) ∧ Below w.heap.size w w' := by
  obtain ⟨wa, hwa, B0, sa, x_a⟩ := frame1 w 57 (tl (tOf r))
  have sa_1 := Nat.le_of_eq sa
  have sa_2 := Nat.le_of_eq sa.symm
  clear sa
  have HI := Lib.hid (form_iff hS h1)
  have c0 := x_a.tn
  go_enter Try.func79, Try.ntmps79
  go_wp2
  go_loopw [7] (fun j wr => ∃ k : Nat, k ≤ r.Give.length ∧ j = .int .i64 k ∧ Hid (∀ i, i < k → numB (s1 r.Spent i) = true ∧ ∀ j, j < r.Give.length → numB (g2 r.Give i j) = true) ∧ wr = wa) (fun j _ => r.Give.length - (intOf j).toNat)
  case atStart => exact ⟨0, Nat.zero_le _, rfl, fun i hi => by omega, rfl⟩
  case round =>
    obtain ⟨k, hk, rfl, HA, rfl⟩ := hrel
    by_cases hlt : k < r.Give.length
    case neg =>
      have HO : Hid (formB r = true) := HI.out.2 (fun i hi => HA.out i (by omega))
      have hk2 : ¬ ((k : Int) < (r.Give.length : Int)) := by omega
      go_wp2
      go_ret
      exact ⟨ret_eq (by rw [HO.out]; rfl), B0⟩
    have j1 : (k : Int) < (r.Give.length : Int) := by omega
    have j4 : (k : Int) < 4 := by omega
    have k4 : k < 4 := by omega
    have c1 := x_a.tsv k4
    obtain ⟨x, hx⟩ : ∃ x, s1 r.Spent k = x := ⟨_, rfl⟩
    rw [hx] at c1
    have HX := Lib.hid hx
    clear hx
    by_cases hxn : numB x = true
    case neg =>
      have hxn' : numB x = false := by simpa using hxn
      have HN := Lib.hid hxn'
      have HO : Hid (formB r = false) := by
        show _ = _
        rw [Bool.eq_false_iff]
        intro c
        have := (HI.out.1 c k hlt).1
        rw [HX.out] at this
        exact hxn this
      clear hxn hxn'
      go_wp2_with fail
      refine (iNum_any _ _).mono ?_
      rintro e w' ⟨rfl, rfl⟩
      rw [HN.out]
      go_wp2
      go_ret
      exact ⟨ret_eq (by rw [HO.out]; rfl), B0⟩
    have HN := Lib.hid hxn
    clear hxn
    go_wp2_with fail
    refine (iNum_any _ _).mono ?_
    rintro e w' ⟨rfl, rfl⟩
    rw [HN.out]
    obtain ⟨w3, rfl⟩ : ∃ x, x = wr := ⟨_, rfl⟩
    go_wp2
    go_loopw [18] (fun q wr => ∃ j : Nat, j ≤ r.Give.length ∧ q = .int .i64 j ∧ Hid (∀ m, m < j → numB (g2 r.Give k m) = true) ∧ wr = w3) (fun q _ => r.Give.length - (intOf q).toNat)
    case atStart => exact ⟨0, Nat.zero_le _, rfl, fun m hm => by omega, rfl⟩
    case round =>
      obtain ⟨j, hj, rfl, HV, rfl⟩ := hrel
      by_cases hjl : j < r.Give.length
      case pos =>
        have m1 : (j : Int) < (r.Give.length : Int) := by omega
        have m4 : (j : Int) < 4 := by omega
        have j4' : j < 4 := by omega
        have c2 := x_a.tgv k4 j4'
        obtain ⟨y, hy⟩ : ∃ y, g2 r.Give k j = y := ⟨_, rfl⟩
        rw [hy] at c2
        have HY := Lib.hid hy
        clear hy
        by_cases hyn : numB y = true
        case neg =>
          have hyn' : numB y = false := by simpa using hyn
          have HN2 := Lib.hid hyn'
          have HO : Hid (formB r = false) := by
            show _ = _
            rw [Bool.eq_false_iff]
            intro c
            have := (HI.out.1 c k hlt).2 j hjl
            rw [HY.out] at this
            exact hyn this
          clear hyn hyn'
          go_wp2_with fail
          refine (iNum_any _ _).mono ?_
          rintro e w' ⟨rfl, rfl⟩
          rw [HN2.out]
          go_wp2
          go_ret
          exact ⟨ret_eq (by rw [HO.out]; rfl), B0⟩
        have HV2 : Hid (∀ m, m < j + 1 → numB (g2 r.Give k m) = true) := fun m hm => by
          by_cases e : m = j
          · rw [e, HY.out]; exact hyn
          · exact HV.out m (by omega)
        have HN2 := Lib.hid hyn
        clear hyn
        go_wp2_with fail
        refine (iNum_any _ _).mono ?_
        rintro e w' ⟨rfl, rfl⟩
        rw [HN2.out]
        go_wp2
        go_roundw
        case rel => exact ⟨j + 1, by omega, by go_num, HV2, by first | trivial | rfl⟩
        case measure => simp [intOf]; omega
      have HA2 : Hid (∀ i, i < k + 1 → numB (s1 r.Spent i) = true ∧ ∀ j, j < r.Give.length → numB (g2 r.Give i j) = true) := fun i hi => by
        by_cases e : i = k
        · rw [e]; exact ⟨by rw [HX.out]; exact HN.out, fun m hm => HV.out m (by omega)⟩
        · exact HA.out i (by omega)
      have hj2 : ¬ ((j : Int) < (r.Give.length : Int)) := by omega
      go_wp2
      go_roundw
      case rel => exact ⟨k + 1, by omega, by go_num, HA2, by first | trivial | rfl⟩
      case measure => simp [intOf]; omega

end Go.Proofs.Ytmbipgnecjlicaa

namespace Go.Proofs.Ytmbipgnecjlicaa
open Go.RowKit
set_option linter.unusedVariables false

set_option maxHeartbeats 2000000 in
theorem tOk_c {w : World} {r : MRights} (hS : Shp r.Give.length r) (h1 : 1 ≤ r.Give.length ∧ r.Give.length ≤ 4) :
    Calls Try.prog 77 #[.agg (tl (tOf r)).toArray] w fun e w' => e = .returned (.bool (rightsOkB r)) ∧ Below w.heap.size w w' := by
  obtain ⟨wa, hwa, B0, sa, x_a⟩ := frame1 w 57 (tl (tOf r))
  have sa_1 := Nat.le_of_eq sa
  have sa_2 := Nat.le_of_eq sa.symm
  clear sa
  have hT := tOf_len r
  by_cases hf : formB r = true
  case neg =>
    have hf' : formB r = false := by simpa using hf
    have HF := Lib.hid hf'
    have HO : Hid (rightsOkB r = false) := by show _ = _; unfold rightsOkB; rw [hf']; rfl
    clear hf hf'
    go_enter Try.func77, Try.ntmps77
    go_wp2_with (refine wpl_tload x_a hT rfl rfl rfl ?_)
    refine (tAll_c hS h1).mono ?_
    rintro e w1 ⟨rfl, h_w1⟩
    have B_w1 := B0.trans (h_w1.mono B0.size)
    rw [HF.out]
    go_wp2
    go_ret
    exact ⟨ret_eq (by rw [HO.out]; rfl), B_w1⟩
  have HF := Lib.hid hf
  have hdr := diagN_range hf r.Give.length
  obtain ⟨d, hd⟩ : ∃ d, diagN r r.Give.length = d := ⟨_, rfl⟩
  have HD := Lib.hid hd
  clear hf
  by_cases hn : numB d = true
  case neg =>
    have hn' : numB d = false := by simpa using hn
    have HN := Lib.hid hn'
    have HO : Hid (rightsOkB r = false) := by show _ = _; unfold rightsOkB; rw [hd, hn']; simp
    clear hn hn' hd
    go_enter Try.func77, Try.ntmps77
    go_wp2_with (refine wpl_tload x_a hT rfl rfl rfl ?_)
    refine (tAll_c hS h1).mono ?_
    rintro e w1 ⟨rfl, h_w1⟩
    replace x_a := x_a.from_ h_w1
    have B_w1 := B0.trans (h_w1.mono B0.size)
    rw [HF.out]
    go_wp2_with (refine wpl_tload x_a hT rfl rfl rfl ?_)
    refine (tIss_c HF.out).mono ?_
    rintro e w2 ⟨rfl, h_w2⟩
    replace x_a := x_a.from_ h_w2
    have B_w2 := B_w1.trans (h_w2.mono B_w1.size)
    rw [HD.out]
    go_wp2_with fail
    refine (iNum_any _ _).mono ?_
    rintro e w' ⟨rfl, rfl⟩
    rw [HN.out]
    go_wp2
    go_ret
    exact ⟨ret_eq (by rw [HO.out]; rfl), B_w2⟩
  have HN := Lib.hid hn
  clear hn hd
  go_enter Try.func77, Try.ntmps77
  go_wp2_with (refine wpl_tload x_a hT rfl rfl rfl ?_)
  refine (tAll_c hS h1).mono ?_
  rintro e w1 ⟨rfl, h_w1⟩
  replace x_a := x_a.from_ h_w1
  have B_w1 := B0.trans (h_w1.mono B0.size)
  rw [HF.out]
  go_wp2_with (refine wpl_tload x_a hT rfl rfl rfl ?_)
  refine (tIss_c HF.out).mono ?_
  rintro e w2 ⟨rfl, h_w2⟩
  replace x_a := x_a.from_ h_w2
  have B_w2 := B_w1.trans (h_w2.mono B_w1.size)
  rw [HD.out]
  go_wp2_with fail
  refine (iNum_any _ _).mono ?_
  rintro e w' ⟨rfl, rfl⟩
  rw [HN.out]
  have c0 := x_a.tn
  go_wp2
  go_loopw [15] (fun j wr => ∃ k : Nat, k ≤ r.Give.length ∧ j = .int .i64 k ∧ Hid (∀ i, i < k → 0 ≤ hasZ r i) ∧ Vr wr w.heap.size 57 (tl (tOf r)) ∧ Below w.heap.size w wr) (fun j _ => r.Give.length - (intOf j).toNat)
  case atStart => exact ⟨0, Nat.zero_le _, rfl, fun i hi => by omega, x_a, B_w2⟩
  case round =>
    clear x_a c0
    obtain ⟨k, hk, rfl, HA, x_a, HB⟩ := hrel
    have hs := HB.size
    by_cases hlt : k < r.Give.length
    case neg =>
      have HO : Hid (rightsOkB r = true) := by show _ = _; rw [ok_sum HF.out (fun i hi => HA.out i (by omega)), HD.out, HN.out]
      have hk2 : ¬ ((k : Int) < (r.Give.length : Int)) := by omega
      go_wp2
      go_ret
      exact ⟨ret_eq (by rw [HO.out]; rfl), HB⟩
    have j1 : (k : Int) < (r.Give.length : Int) := by omega
    have hhr := hasZ_range HF.out k
    obtain ⟨y, hy⟩ : ∃ y, hasZ r k = y := ⟨_, rfl⟩
    rw [hy] at hhr
    by_cases hneg : y < 0
    case pos =>
      have HO : Hid (rightsOkB r = false) := ok_neg hlt (by omega)
      have HY := Lib.hid hy
      have t0 : decide (y < 0) = true := decide_eq_true hneg
      clear hy
      go_wp2_with (refine wpl_tload x_a hT rfl rfl rfl ?_)
      refine (tBal_c HF.out hlt).mono ?_
      rintro e w4 ⟨rfl, h_w4⟩
      have B_w4 := HB.trans (h_w4.mono HB.size)
      rw [HY.out]
      go_wp2
      go_ret
      exact ⟨ret_eq (by rw [HO.out]; rfl), B_w4⟩
    have HA2 : Hid (∀ i, i < k + 1 → 0 ≤ hasZ r i) := fun i hi => by
      by_cases e : i = k
      · rw [e, hy]; omega
      · exact HA.out i (by omega)
    have HY := Lib.hid hy
    have t0 : decide (y < 0) = false := decide_eq_false hneg
    clear hy
    go_wp2_with (refine wpl_tload x_a hT rfl rfl rfl ?_)
    refine (tBal_c HF.out hlt).mono ?_
    rintro e w4 ⟨rfl, h_w4⟩
    replace x_a := x_a.from_ h_w4
    have B_w4 := HB.trans (h_w4.mono HB.size)
    rw [HY.out]
    go_wp2
    go_roundw
    case rel => exact ⟨k + 1, by omega, by go_num, HA2, x_a, B_w4⟩
    case measure => simp [intOf]; omega

end Go.Proofs.Ytmbipgnecjlicaa

namespace Go.Proofs.Ytmbipgnecjlicaa
open Go.RowKit
set_option linter.unusedVariables false

theorem Vr.rdS {w : World} {b n : Nat} {t : TypeId} {D : MRights} (h : Vr w b t (tl (tOf D))) (hS : Shp n D) (hn : n ≤ 4) : Rd .i64 w (b + 1) (some ⟨b, 17, none⟩) D.Spent := fun _ =>
  ⟨b, 17, rfl, by omega, fun j hj => by have := hS.2.1; exact h.tsv (by omega)⟩
theorem Vr.rd4 {w : World} {b n k : Nat} {t : TypeId} {D : MRights} {K : List Int} (h : Vr w b t [.int .i64 (g2 D.Give k 0), .int .i64 (g2 D.Give k 1), .int .i64 (g2 D.Give k 2), .int .i64 (g2 D.Give k 3)]) (hS : Shp n D) (hn : n ≤ 4) (hK : D.Give[k]? = some K) : Rd .i64 w (b + 1) (some ⟨b, 0, none⟩) K := fun _ =>
  ⟨b, 0, rfl, by omega, fun j hj => by
    have h1 := hS.2.2 k K hK
    rw [Nat.zero_add, ← g2_of hK j]
    have h4 : j < 4 := by omega
    rcases j with _ | _ | _ | _ | j
    · exact h.cell rfl
    · exact h.cell rfl
    · exact h.cell rfl
    · exact h.cell rfl
    · omega⟩

set_option maxRecDepth 100000 in
set_option maxHeartbeats 4000000 in
theorem tRights_c {w : World} {D : MRights} (hS : Shp D.Give.length D) (hn : 1 ≤ D.Give.length ∧ D.Give.length ≤ 4) : Calls Try.prog 66 #[.agg (tl (tOf D)).toArray] w (NewV rightsL w D) := by
  obtain ⟨i0, hi, hz0, hz1, hz2⟩ := info_parts Try.info_is
  obtain ⟨i1, hi1, hy0, hy1, hy2⟩ := info_parts Try.info_i64
  have hSl := hS.2.1
  have hS_1 := Nat.le_of_eq hSl
  have hS_2 := Nat.le_of_eq hSl.symm
  have n4 : (D.Give.length : Int) ≤ 4 := by omega
  have HSl := Lib.hid hSl
  clear hSl
  obtain ⟨wa, hwa, B0, sa, x_a, x_r⟩ := frame2 w 57 (tl (tOf D)) 27 [.slice none 0 0, .slice none 0 0]
  have sa_1 := Nat.le_of_eq sa
  have sa_2 := Nat.le_of_eq sa.symm
  clear sa
  have xa0 := x_a
  have xr0 := x_r
  go_enter Try.func66, Try.ntmps66
  have oN := own_none .i64 wa wa.heap.size 3 (Nat.le_refl _)
  obtain ⟨w1, e1, s1', h1, -⟩ := alloc_step wa 3 []
  have e1' : wa.alloc (.cells #[] 3) = w1 := e1
  rw [e1'] at oN
  clear e1'
  have s1_1 := Nat.le_of_eq s1'
  have s1_2 := Nat.le_of_eq s1'.symm
  clear s1'
  replace x_a := x_a.from_ h1
  replace x_r := x_r.from_ h1
  have B_w1 := B0.trans (h1.mono B0.size)
  have hrS := x_a.rdS hS hn.2
  have c_n_w1 := x_a.tn
  rw [← HSl.out] at c_n_w1 n4
  have c_r_0_w1 := x_r.cell (i := 0) rfl
  have f_r_0_w1 := x_r.frozen 0
  have c_r_1_w1 := x_r.cell (i := 1) rfl
  have f_r_1_w1 := x_r.frozen 1
  go_wp2_with (at_builtin; refine wpl_appI _ .i64 rfl (.tmp 6) (.tmp 10) 25 rfl wa.heap.size 3 i1 8 Try.underlying25 hi1 hy0 hy1 hy2 _ [] rfl oN _ (some ⟨w.heap.size, 17, none⟩) 4 D.Spent.length D.Spent rfl rfl hrS ?d1 (by omega) ?d2 ?_)
  case d1 => simp; omega
  case d2 => omega
  intro v2 w2 o2 g2' _
  (try rw [List.nil_append] at o2)
  have h2 : Below wa.heap.size wa w2 := grown_below h1 oN g2' (Nat.le_refl _) (by omega)
  obtain ⟨A1, c1, rfl, -, -, -⟩ := own_form o2
  have o_s := OS.mk_ o2
  clear o2 g2' oN hrS
  clear c_n_w1 c_r_0_w1 f_r_0_w1 c_r_1_w1 f_r_1_w1
  rw [HSl.out] at n4
  replace x_a := xa0.from_ h2
  replace x_r := xr0.from_ h2
  have B_w2 := B0.trans (h2.mono B0.size)
  have s_w2 := h2.size
  obtain ⟨w3, e_w3, s_w3, h_w3, x_o⟩ := alloc_step w2 27 [.slice none 0 0, .slice A1 D.Spent.length c1]
  have s_w3_1 := Nat.le_of_eq s_w3
  have s_w3_2 := Nat.le_of_eq s_w3.symm
  clear s_w3
  replace x_a := x_a.from_ h_w3
  replace x_r := x_r.from_ h_w3
  replace o_s := o_s.below h_w3
  have B_w3 := B_w2.trans (h_w3.mono B_w2.size)
  have c_n_w3 := x_a.tn
  have c_r_0_w3 := x_r.cell (i := 0) rfl
  have f_r_0_w3 := x_r.frozen 0
  have c_r_1_w3 := x_r.cell (i := 1) rfl
  have f_r_1_w3 := x_r.frozen 1
  have c_o_0_w3 := x_o.cell (i := 0) rfl
  have f_o_0_w3 := x_o.frozen 0
  have c_o_1_w3 := x_o.cell (i := 1) rfl
  have f_o_1_w3 := x_o.frozen 1
  have o_g := ov_ss_nil (w := w3) (lo := w3.heap.size) (Nat.le_refl _)
  go_wp2
  go_loopw [18] (fun j wr => ∃ (k : Nat) (G : List (List Int)) (Ag : Option Addr) (cg : Nat), k ≤ D.Give.length ∧ j = .int .i64 k ∧ Hid (G = D.Give.take k) ∧ Vr wr w.heap.size 57 (tl (tOf D)) ∧ Vr wr (w.heap.size + 1) 27 [.slice none 0 0, .slice none 0 0] ∧ Vr wr w2.heap.size 27 [.slice Ag G.length cg, .slice A1 D.Spent.length c1] ∧ OV intSSL wr w3.heap.size wr.heap.size (.slice Ag G.length cg) G ∧ OS .i64 3 wr wa.heap.size w2.heap.size (.slice A1 D.Spent.length c1) D.Spent ∧ Below w.heap.size w wr ∧ w3.heap.size ≤ wr.heap.size) (fun j _ => D.Give.length - (intOf j).toNat)
  case atStart => exact ⟨0, [], none, 0, Nat.zero_le _, rfl, rfl, x_a, x_r, x_o, o_g, o_s, B_w3, Nat.le_refl _⟩
  case round =>
    clear c_n_w3 c_r_0_w3 f_r_0_w3 c_r_1_w3 f_r_1_w3 c_o_0_w3 f_o_0_w3 c_o_1_w3 f_o_1_w3
    clear x_a x_r x_o o_g o_s
    obtain ⟨k, G, Ag, cg, hk, rfl, HG, x_a, x_r, x_o, o_g, o_s, HB, hg0⟩ := hrel
    have hs := HB.size
    have lG2 : G.length ≤ D.Give.length := by rw [HG.out, List.length_take]; omega
    by_cases hlt : k < D.Give.length
    case neg =>
      have hk2 : ¬ ((k : Int) < (D.Give.length : Int)) := by omega
      have hGr : G = D.Give := by rw [HG.out, List.take_of_length_le (by omega)]
      have HGr := Lib.hid hGr
      clear hGr
      have c_r_0_wr := x_r.cell (i := 0) rfl
      have f_r_0_wr := x_r.frozen 0
      have c_r_1_wr := x_r.cell (i := 1) rfl
      have f_r_1_wr := x_r.frozen 1
      have c_o_0_wr := x_o.cell (i := 0) rfl
      have f_o_0_wr := x_o.frozen 0
      have c_o_1_wr := x_o.cell (i := 1) rfl
      have f_o_1_wr := x_o.frozen 1
      obtain ⟨w4, e_w4, s_w4, h_w4, y⟩ := store_step x_r [.slice Ag G.length cg, .slice A1 D.Spent.length c1] rfl
      replace e_w4 : ((wr.setCell ⟨w.heap.size + 1, 0, none⟩ (.slice Ag G.length cg)).setCell ⟨w.heap.size + 1, 1, none⟩ (.slice A1 D.Spent.length c1)) = w4 := e_w4
      have s_w4_1 := Nat.le_of_eq s_w4
      have s_w4_2 := Nat.le_of_eq s_w4.symm
      clear s_w4
      replace x_o := x_o.chg h_w4 (by omega)
      replace o_s := o_s.chg h_w4 (by omega)
      replace o_g := o_g.chg h_w4 (by omega)
      have B_w4 := Below.chg_ HB h_w4 (by omega) (by omega)
      replace x_r : Vr w4 (w.heap.size + 1) 27 [.slice Ag G.length cg, .slice A1 D.Spent.length c1] := y
      clear y
      have c_r_0_w4 := x_r.cell (i := 0) rfl
      have f_r_0_w4 := x_r.frozen 0
      have c_r_1_w4 := x_r.cell (i := 1) rfl
      have f_r_1_w4 := x_r.frozen 1
      go_wp2
      refine ret_cell (by rfl) (by rfl) x_r Try.underlying27 sz_rights (by rfl) ?_
      obtain rfl := HGr.out
      exact ⟨_, rfl, ov_rights (d := D) o_g o_s (by omega), B_w4⟩
    obtain ⟨K, hK⟩ := get_of_lt hlt
    have k4 : k < 4 := by omega
    have lK := hS.2.2 k K hK
    have j1 : (k : Int) < (D.Give.length : Int) := by omega
    have d0 := x_a.tgv k4 (j := 0) (by omega)
    have d1 := x_a.tgv k4 (j := 1) (by omega)
    have d2 := x_a.tgv k4 (j := 2) (by omega)
    have d3 := x_a.tgv k4 (j := 3) (by omega)
    rw [Nat.add_zero] at d0
    obtain ⟨w4, e_w4, s_w4, h_w4, x_v⟩ := alloc_step wr 54 [.int .i64 (g2 D.Give k 0), .int .i64 (g2 D.Give k 1), .int .i64 (g2 D.Give k 2), .int .i64 (g2 D.Give k 3)]
    have s_w4_1 := Nat.le_of_eq s_w4
    have s_w4_2 := Nat.le_of_eq s_w4.symm
    clear s_w4
    replace x_a := x_a.from_ h_w4
    replace x_r := x_r.from_ h_w4
    replace x_o := x_o.from_ h_w4
    replace o_g := o_g.below h_w4
    replace o_s := o_s.below h_w4
    have B_w4 := HB.trans (h_w4.mono HB.size)
    have hs4 := B_w4.size
    have hrk := x_v.rd4 hS hn.2 hK
    have c_n_w4 := x_a.tn
    have lK1 := Nat.le_of_eq lK
    have lK2 := Nat.le_of_eq lK.symm
    have HLK := Lib.hid lK
    clear lK
    rw [← HLK.out] at c_n_w4
    have nK : (K.length : Int) ≤ 4 := by omega
    have c_o_0_w4 := x_o.cell (i := 0) rfl
    have f_o_0_w4 := x_o.frozen 0
    have c_o_1_w4 := x_o.cell (i := 1) rfl
    have f_o_1_w4 := x_o.frozen 1
    obtain ⟨X, hX⟩ : ∃ X, G ++ [K] = X := ⟨_, rfl⟩
    have HX2 : Hid (X = D.Give.take (k + 1)) := by show _ = _; rw [← hX, HG.out, List.take_add_one, hK]; rfl
    have HX := Lib.hid hX
    clear hX hK
    have oN := own_none .i64 w4.drew w4.heap.size 3 (Nat.le_refl _)
    have bN : Below w4.heap.size w4 (w4.drew.alloc (.cells #[] 3)) := ((Below.refl w4.heap.size w4).drew).alloc (Nat.le_refl _) _
    have q1 : (w4.alloc (.cells #[] 3)).cell? ⟨w2.heap.size, 0, none⟩ = some (.slice Ag G.length cg) := (x_o.from_ bN).cell (i := 0) rfl
    have q0 : (w4.alloc (.cells #[] 3)).cell? ⟨w.heap.size, 0, none⟩ = some (.int .i64 K.length) := by rw [HLK.out]; exact (x_a.from_ bN).tn
    go_wp2_with fail
    go_region_law (first
      | (refine step_appI .i64 (by rfl) (.tmp 24) (.tmp 27) 25 (by rfl) w4.heap.size 3 i1 8 Try.underlying25 hi1 hy0 hy1 hy2 (.slice (some ⟨w4.heap.size, 0, none⟩) 0 0) [] (by rfl) oN (wr.heap.size + 1) (some ⟨wr.heap.size, 0, none⟩) 4 K.length K (by rfl) rfl (hrk.below (bN.mono (by omega))) (by simp; omega) (by omega) (by simp) ?_; intro v2 wA oA gA _; (try rw [List.nil_append] at oA); have hA : Below w4.heap.size w4 wA := grown_below bN oN gA (Nat.le_refl _) (by simp); obtain ⟨A2, c2, rfl, -, -, -⟩ := own_form oA; have hba : Below wA.heap.size wA (wA.alloc (.cells #[.slice A2 K.length c2] 25)) := (Below.refl _ _).alloc (Nat.le_refl _) _; have hAs := hA.size; obtain ⟨T, hT, hTn, hTr⟩ := os_blocks64 ((OS.mk_ oA).below hba); obtain ⟨ys, hrow, -, hback⟩ := OV.app_step (((o_g.widen (Nat.le_refl _) (hi' := w4.heap.size) (by omega) (Nat.le_refl _)).below hA).below hba) hT hTn hTr (by omega) hAs (by simp); have q2 : wA.cell? ⟨w2.heap.size, 0, none⟩ = some (.slice Ag G.length cg) := (x_o.from_ hA).cell (i := 0) rfl; have q3 : (wA.alloc (.cells #[.slice A2 K.length c2] 25)).cell? ⟨w2.heap.size, 0, none⟩ = some (.slice Ag G.length cg) := ((x_o.from_ hA).from_ hba).cell (i := 0) rfl)
      | (refine step_appN (by rfl) (.tmp 23) (.tmp 29) 24 (by rfl) 0 1 25 i0 (.slice none 0 0) 24 Try.underlying24 hi hz0 hz1 hz2 (by rfl) (by decide) (.slice Ag G.length cg) G.length ys (by rfl) hrow (wA.heap.size + 1) (some ⟨wA.heap.size, 0, none⟩) 1 1 [.slice A2 K.length c2] (by rfl) rfl (rdV_one _ _ _) slice_one (by omega) (by decide) (Nat.zero_le _) ?_; intro v3 wB ho3 hg3 hat3; obtain ⟨o3, hb3⟩ := hback v3 wB ho3 hg3 (by simpa using hat3); rw [HX.out] at o3; obtain ⟨A3, c3, rfl, -, -, -⟩ := rv_slice o3.rd; have hB2 : Below w3.heap.size w4 wB := ((hA.mono (by omega)).trans (hba.mono (by omega))).trans hb3; have xB := x_o.below hB2 (by omega); have q4 := xB.cell (i := 0) rfl; have q5 := xB.frozen 0))
    all_goals
      clear q0 q1 q2 q3 q4 q5 hback ho3 hg3 hat3 hrow hT hTr oA oN bN d0 d1 d2 d3 c_n_w4 hrk
      have hB3 := hB2.size
      replace x_a := x_a.below hB2 (by omega)
      replace x_r := x_r.below hB2 (by omega)
      have c_B : Chg w3.heap.size wB.heap.size w4 wB := ⟨hB2.os, hB2.tape, hB2.output, hB2.size, fun j hj hd => hB2.block j (by omega)⟩
      replace o_s := o_s.chg c_B (by omega)
      have HB5 := B_w4.trans (hB2.mono (by omega))
      obtain ⟨wS, eS, sS, hS', y⟩ := set_step xB 0 (.slice A3 X.length c3)
      rw [eS]
      have sS_1 := Nat.le_of_eq sS
      have sS_2 := Nat.le_of_eq sS.symm
      clear sS
      replace y : Vr wS (w2.heap.size) 27 [.slice A3 X.length c3, .slice A1 D.Spent.length c1] := y
      replace x_a := x_a.chg hS' (by omega)
      replace x_r := x_r.chg hS' (by omega)
      replace o_s := o_s.chg hS' (by omega)
      replace o3 := o3.chg hS' (by omega)
      replace o3 := o3.widen (Nat.le_refl _) (hi' := wS.heap.size) (by omega) (Nat.le_refl _)
      have HB6 := Below.chg_ HB5 hS' (by omega) (by omega)
      go_wp2
      go_roundw
      case rel => exact ⟨k + 1, X, A3, c3, by omega, by go_num, HX2, x_a, x_r, y, o3, o_s, HB6, by omega⟩
      case measure => simp [intOf]; omega

end Go.Proofs.Ytmbipgnecjlicaa
