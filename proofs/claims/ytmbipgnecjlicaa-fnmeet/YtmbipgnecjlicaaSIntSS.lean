/- Slices of slices of ints: the contracts of the laws' own helpers toIntSS, eqIntSS, markIntSS, heldIntSS, szIntSS. Laid by a program of ours (src/sintss.py). -/
import Derived.Test.YtmbipgnecjlicaaSByteSS
import Derived.Test.YtmbipgnecjlicaaSInts
namespace Go.Proofs.Ytmbipgnecjlicaa
open Go.RowKit
set_option linter.unusedVariables false

def intSSL : Lay (List (List Int)) := sliceL 25 1 numsL

theorem el_cell64 {w : World} {B : Nat} {u : Value} {x : List Int} (h : numsL.rd w B [u] x) : ∃ A c, u = .slice A x.length c ∧ x.length ≤ c ∧ c ≤ maxLen ∧ Rd .i64 w B A x := by
  obtain ⟨A, c, he, h1, h2, hr⟩ := h
  obtain rfl : u = .slice A x.length c := by simpa using he
  exact ⟨A, c, rfl, h1, h2, hr⟩

set_option maxHeartbeats 400000 in
theorem eqIntSS_any (A A' : Option Addr) (c c' : Nat) (xs ys : List (List Int)) (w : World) (B : Nat) (hx : RdL numsL 1 w B A xs) (hy : RdL numsL 1 w B A' ys) (hm : xs.length ≤ 1073741824) (hm2 : bulkS xs ≤ 1073741824) :
    Calls Try.prog 62 #[.slice A xs.length c, .slice A' ys.length c'] w (SaysB w (decide (xs = ys))) := by
  by_cases hl : xs.length = ys.length
  · have hl' : ((xs.length : Int) != (ys.length : Int)) = false := by simp [hl]
    have HL := Lib.hid hl
    clear hl
    go_enter Try.func62, Try.ntmps62
    go_wp2
    go_loopw [5] (fun i wr => ∃ k n : Nat, k ≤ xs.length ∧ i = .int .i64 k ∧ Hid (xs.take k = ys.take k) ∧ Hid (wr = w.drewN n)) (fun i _ => xs.length - (intOf i).toNat)
    case atStart => exact ⟨0, 0, Nat.zero_le _, rfl, rfl, rfl⟩
    case round =>
      obtain ⟨k, n, hk, rfl, HT, HW⟩ := hrel
      have hx1 : RdL numsL 1 wr B A xs := by rw [HW.out]; exact hx.keep fun _ _ => rfl
      have hy1 : RdL numsL 1 wr B A' ys := by rw [HW.out]; exact hy.keep fun _ _ => rfl
      by_cases hlt : k < xs.length
      · have hlt' : k < ys.length := by have := HL.out; omega
        obtain ⟨x, hxe⟩ := get_of_lt hlt
        obtain ⟨y, hye⟩ := get_of_lt hlt'
        have hxl := len_le_bulk hxe
        obtain ⟨b, off, u, rfl, hb, hc, hu⟩ := hx1.at1 hxe
        obtain ⟨b', off', u', rfl, hb', hc', hu'⟩ := hy1.at1 hye
        obtain ⟨Ax, cx, rfl, -, -, hrx⟩ := el_cell64 hu
        obtain ⟨Ay, cy, rfl, -, -, hry⟩ := el_cell64 hu'
        have HX := Lib.hid hxe
        have HY := Lib.hid hye
        clear hxe hye hu hu'
        have i1 : (k : Int) < (xs.length : Int) := by omega
        have i2 : (k : Int) < (ys.length : Int) := by omega
        have K : ∀ m, Calls Try.prog 63 #[.slice Ax x.length cx, .slice Ay y.length cy] (wr.drewN m) fun e w' => e = .returned (.bool (decide (x = y))) ∧ ∃ q, w' = (wr.drewN m).drewN q := fun m => eqIntS_any Ax Ay cx cy x y (wr.drewN m) B (hrx.drewN m) (hry.drewN m) (by omega)
        by_cases hxy : x = y
        · rw [show decide (x = y) = true from decide_eq_true hxy] at K
          have HE := Lib.hid hxy
          clear hxy
          go_wp2
          go_quiet ((go_at_call 63; exact Calls.quiet_of (K _)))
          clear K
          go_wp2
          go_roundw
          case rel => exact ⟨k + 1, n + nq, by omega, by go_num, take_succ_eqL HT.out HX.out (by rw [HY.out, HE.out]), by show _ = _; rw [HW.out]; exact drewN_two _ _ _⟩
          case measure => simp [intOf]; omega
        · rw [show decide (x = y) = false from decide_eq_false hxy] at K
          have HE := Lib.hid hxy
          clear hxy
          go_wp2
          go_quiet ((go_at_call 63; exact Calls.quiet_of (K _)))
          clear K
          go_wp2
          go_ret
          have hd : decide (xs = ys) = false := by
            simp only [decide_eq_false_iff_not]
            intro e
            have h1 := HX.out
            rw [e, HY.out] at h1
            exact HE.out (by simpa using h1.symm)
          exact ⟨by rw [hd]; rfl, n + nq, by rw [HW.out]; exact drewN_two _ _ _⟩
      · have hk2 : k = xs.length := by omega
        subst hk2
        have : xs = ys := by
          have h := HT.out
          rw [List.take_of_length_le (Nat.le_refl _), List.take_of_length_le (by rw [HL.out]; exact Nat.le_refl _)] at h
          exact h
        have HQ := Lib.hid this
        clear this
        go_wp2
        go_ret
        exact ⟨by rw [decide_eq_true HQ.out]; rfl, n, HW.out⟩
  · have hl' : ((xs.length : Int) != (ys.length : Int)) = true := by simp; omega
    have hne : decide (xs = ys) = false := by
      simp; intro e; exact hl (by rw [e])
    rw [hne]
    go_enter Try.func62, Try.ntmps62
    go_wp2
    go_ret
    exact ⟨rfl, 0, rfl⟩

theorem eqIntSS_same {w : World} {v v' : Value} {xs : List (List Int)} (h : RV intSSL w v xs) (h' : RV intSSL w v' xs) (hm : sizeSS xs ≤ 1073741824) :
    Calls Try.prog 62 #[v, v'] w fun e w' => e = .returned (.bool true) ∧ Below w.heap.size w w' := by
  unfold sizeSS at hm
  obtain ⟨A, c, rfl, _, _, hr⟩ := rv_slice h
  obtain ⟨A', c', rfl, _, _, hr'⟩ := rv_slice h'
  refine (eqIntSS_any A A' c c' xs xs w _ hr hr' (by omega) (by omega)).mono fun e w' ⟨he, n, hw⟩ => ⟨by simpa using he, by rw [hw]; exact below_of_drew _ w n⟩

/-- the marks64 that a marking lays, element behind element -/
def marksS64 : Int → List (List Int) → List (List Int)
  | _, [] => []
  | k, x :: l => marks64 k x.length :: marksS64 (k + (x.length : Int)) l
theorem marksS64_len : ∀ (k : Int) (l : List (List Int)), (marksS64 k l).length = l.length
  | _, [] => rfl
  | k, x :: l => by rw [marksS64, List.length_cons, List.length_cons, marksS64_len]
theorem marksS64_bulk : ∀ (k : Int) (l : List (List Int)), bulkS (marksS64 k l) = bulkS l
  | _, [] => rfl
  | k, x :: l => by rw [marksS64, bulkS_cons, bulkS_cons, marksS64_bulk, marks64_len]
theorem marksS64_snoc : ∀ (k : Int) (l : List (List Int)) (x : List Int), marksS64 k (l ++ [x]) = marksS64 k l ++ [marks64 (k + (bulkS l : Int)) x.length]
  | k, [], x => by simp [marksS64, bulkS]
  | k, y :: l, x => by
    rw [List.cons_append, marksS64, marksS64, marksS64_snoc, List.cons_append, bulkS_cons]
    congr 4
    omega
theorem marksS64_get (k : Int) (l : List (List Int)) {j : Nat} {x : List Int} (h : l[j]? = some x) : (marksS64 k l)[j]? = some (marks64 (k + (bulkS (l.take j) : Int)) x.length) := by
  induction l generalizing k j with
  | nil => simp at h
  | cons y l ih =>
    cases j with
    | zero =>
      obtain rfl : y = x := by simpa using h
      simp [marksS64, bulkS]
    | succ j =>
      rw [List.getElem?_cons_succ] at h
      rw [marksS64, List.getElem?_cons_succ, ih _ h, List.take_succ_cons, bulkS_cons]
      congr 2
      omega
theorem mix_get64 {xs : List (List Int)} {k0 : Int} {k : Nat} {x : List Int} (h : xs[k]? = some x) : (marksS64 k0 (xs.take k) ++ xs.drop k)[k]? = some x := by
  have hk := getElem?_lt h
  have e : (marksS64 k0 (xs.take k)).length = k := by rw [marksS64_len, List.length_take]; omega
  rw [List.getElem?_append_right (by omega), e, Nat.sub_self, List.getElem?_drop]
  simpa using h
theorem mix_set64 {xs : List (List Int)} {k0 : Int} {k : Nat} {x : List Int} (h : xs[k]? = some x) :
    (marksS64 k0 (xs.take k) ++ xs.drop k).set k (marks64 (k0 + (bulkS (xs.take k) : Int)) x.length) = marksS64 k0 (xs.take (k + 1)) ++ xs.drop (k + 1) := by
  have hk := getElem?_lt h
  have e : (marksS64 k0 (xs.take k)).length = k := by rw [marksS64_len, List.length_take]; omega
  have e2 : xs.take (k + 1) = xs.take k ++ [x] := by rw [List.take_add_one, h]; rfl
  rw [List.set_append, if_neg (by omega), e, Nat.sub_self, List.drop_eq_getElem_cons hk, List.set_cons_zero, e2, marksS64_snoc, List.append_assoc]
  rfl

set_option maxHeartbeats 400000 in
theorem markIntSS_own (g c : Nat) (S : List Nat) (xs : List (List Int)) (k0 : Int) (w : World) (ho : OwnL numsL 25 1 w S (.slice (some ⟨g, 0, none⟩) xs.length c) xs) (hn : S.Nodup) (hm : xs.length ≤ 1073741824) (hm2 : bulkS xs ≤ 1073741824) (hk0 : 0 ≤ k0) (hk1 : k0 ≤ 549755813888) :
    Calls Try.prog 67 #[.slice (some ⟨g, 0, none⟩) xs.length c, .int .i64 k0] w (MarkS intSSL w S [.slice (some ⟨g, 0, none⟩) xs.length c] (k0 + (bulkS xs : Int)) (marksS64 k0 xs)) := by
  go_enter Try.func67, Try.ntmps67
  go_wp2
  go_loopw [1, 5] (fun q i wr => ∃ (k : Nat) (z : Int), k ≤ xs.length ∧ i = .int .i64 k ∧ q = .int .i64 z ∧ Hid (z = k0 + (bulkS (xs.take k) : Int)) ∧ OwnL numsL 25 1 wr S (.slice (some ⟨g, 0, none⟩) xs.length c) (marksS64 k0 (xs.take k) ++ xs.drop k) ∧ ChgS S w wr) (fun _ i _ => xs.length - (intOf i).toNat)
  case atStart => exact ⟨0, k0, Nat.zero_le _, rfl, rfl, by show _ = _; simp [bulkS], by simpa [marksS64] using ho, ChgS.refl _ _⟩
  case round =>
    obtain ⟨k, z, hk, rfl, rfl, HZ, hown, hgr⟩ := hrel
    by_cases hlt : k < xs.length
    · obtain ⟨x, hxe⟩ := get_of_lt hlt
      have hxl := len_le_bulk hxe
      obtain ⟨cs, T, hcl, hcell, hox, hTS, -, hback⟩ := hown.el hn (mix_get64 (k0 := k0) hxe)
      match cs, hcl with
      | [u], _ =>
        have hc := hcell g c xs.length rfl 0 u rfl
        rw [Nat.mul_one, Nat.add_zero] at hc
        have hzb : 0 ≤ z ∧ z ≤ 1099511627776 := by have := HZ.out; omega
        obtain ⟨Ax, cx, rfl, -⟩ := el_cell64 (numsL.own_rd hox)
        have HB : Hid (∀ w', numsL.own w' T [.slice Ax x.length cx] (marks64 z x.length) → ChgS T wr w' → OwnL numsL 25 1 w' S (.slice (some ⟨g, 0, none⟩) xs.length c) (marksS64 k0 (xs.take (k + 1)) ++ xs.drop (k + 1))) := by
          intro w' h1 h2
          have h3 := hback w' _ h1 h2
          rw [HZ.out, mix_set64 hxe] at h3
          exact h3
        have HZ2 : Hid (z + (x.length : Int) = k0 + (bulkS (xs.take (k + 1)) : Int)) := by
          show _ = _
          rw [bulkS_take xs k hxe, HZ.out]; omega
        clear hcell hback hxe
        go_wp2_with fail
        refine (markIntS_s hox (by omega) hzb.1 hzb.2).mono ?_
        rintro e w2 ⟨rfl, ho2, hc2⟩
        have H2 := HB.out w2 ho2 hc2
        have H3 := hgr.sub hc2 hTS
        go_wp2
        go_roundw
        case rel => exact ⟨k + 1, _, by omega, by go_num, rfl, HZ2, H2, H3⟩
        case measure => simp [intOf]; omega
    · have hk2 : k = xs.length := by omega
      subst hk2
      have HZ3 : Hid (z = k0 + (bulkS xs : Int)) := by
        show _ = _
        rw [HZ.out, List.take_of_length_le (Nat.le_refl _)]
      rw [List.take_of_length_le (Nat.le_refl _), List.drop_of_length_le (Nat.le_refl _), List.append_nil] at hown
      clear HZ
      go_wp2
      go_ret
      exact ⟨ret_eq (by rw [← HZ3.out]; rfl), ⟨_, rfl, hown⟩, hgr⟩

set_option maxHeartbeats 400000 in
theorem markIntSS_nil (A : Option Addr) (c : Nat) (S : List Nat) (k0 : Int) (w : World) (ho : OwnL numsL 25 1 w S (.slice A 0 c) []) :
    Calls Try.prog 67 #[.slice A 0 c, .int .i64 k0] w (MarkS intSSL w S [.slice A 0 c] (k0 + (bulkS [] : Int)) (marksS64 k0 [])) := by
  go_enter Try.func67, Try.ntmps67
  go_wp2
  refine wp_loop_rounds 1 ?_
  rw [rounds_succ]
  go_wp2
  go_ret
  exact ⟨by simp [bulkS], ⟨_, rfl, ho⟩, ChgS.refl _ _⟩

theorem markIntSS_s {w : World} {S : List Nat} {v : Value} {xs : List (List Int)} {k : Int} (h : intSSL.own w S [v] xs) (hn : S.Nodup) (hm : xs.length ≤ 1073741824) (hm2 : bulkS xs ≤ 1073741824) (hk0 : 0 ≤ k) (hk1 : k ≤ 549755813888) :
    Calls Try.prog 67 #[v, .int .i64 k] w (MarkS intSSL w S [v] (k + (bulkS xs : Int)) (marksS64 k xs)) := by
  obtain ⟨u, e, ho⟩ := h
  obtain rfl : v = u := by simpa using e
  have ho' := ho
  obtain ⟨cf, sf, hrow, -⟩ := ho'
  rcases hrow.2 with ⟨rfl, h0⟩ | ⟨g, cap, cur, rfl, _⟩
  · obtain rfl : xs = [] := List.eq_nil_of_length_eq_zero h0
    exact markIntSS_nil none 0 S k w ho
  · exact markIntSS_own g cap S xs k w ho hn hm hm2 hk0 hk1

theorem markIntSS_c {w : World} {v : Value} {xs : List (List Int)} {lo hi : Nat} {k : Int} (h : OV intSSL w lo hi v xs) (hm : sizeSS xs ≤ 1073741824) (hk0 : 0 ≤ k) (hk1 : k ≤ 549755813888) :
    Calls Try.prog 67 #[v, .int .i64 k] w fun e w' => e = .returned (.int .i64 (k + (bulkS xs : Int))) ∧ OV intSSL w' lo hi v (marksS64 k xs) ∧ Chg lo hi w w' := by
  unfold sizeSS at hm
  obtain ⟨cs, S, rfl, ⟨u, rfl, ho⟩, hn, hS, hh⟩ := h
  exact (markIntSS_s ⟨u, rfl, ho⟩ hn (by omega) (by omega) hk0 hk1).mono fun e w' hM => MarkS.up hM hn hS hh

set_option maxHeartbeats 400000 in
theorem heldIntSS_any (A : Option Addr) (c B : Nat) (xs : List (List Int)) (k0 : Int) (w : World) (hr : RdL numsL 1 w B A (marksS64 k0 xs)) (hm : xs.length ≤ 1073741824) (hm2 : bulkS xs ≤ 1073741824) (hk0 : 0 ≤ k0) (hk1 : k0 ≤ 549755813888) :
    Calls Try.prog 69 #[.slice A xs.length c, .int .i64 k0] w fun e w' => e = .returned (.int .i64 (k0 + (bulkS xs : Int))) ∧ w = w' := by
  go_enter Try.func69, Try.ntmps69
  go_wp2
  go_loop [1, 5] (fun q i => ∃ (k : Nat) (z : Int), k ≤ xs.length ∧ i = .int .i64 k ∧ q = .int .i64 z ∧ Hid (z = k0 + (bulkS (xs.take k) : Int))) (fun _ i => xs.length - (intOf i).toNat)
  case atStart => exact ⟨0, k0, Nat.zero_le _, rfl, rfl, by show _ = _; simp [bulkS]⟩
  case round =>
    obtain ⟨k, z, hk, rfl, rfl, HZ⟩ := hrel
    by_cases hlt : k < xs.length
    · obtain ⟨x, hxe⟩ := get_of_lt hlt
      have hxl := len_le_bulk hxe
      have hge := marksS64_get k0 xs hxe
      rw [← HZ.out] at hge
      obtain ⟨b, off, u, rfl, hb, hc, hu⟩ := hr.at1 hge
      obtain ⟨Ax, cx, rfl, -, -, hrx⟩ := el_cell64 hu
      have hzb : 0 ≤ z ∧ z ≤ 1099511627776 := by have := HZ.out; omega
      have HZ2 : Hid (z + (x.length : Int) = k0 + (bulkS (xs.take (k + 1)) : Int)) := by
        show _ = _
        rw [bulkS_take xs k hxe, HZ.out]; omega
      rw [marks64_len] at hc
      clear hge hu hxe
      have i1 : (k : Int) < (xs.length : Int) := by omega
      go_wp2_with fail
      refine (heldIntS_any Ax cx B x.length z w hrx (by omega) hzb.1 hzb.2).mono ?_
      rintro e w' ⟨rfl, rfl⟩
      have i2 : decide (z + (x.length : Int) < 0) = false := decide_eq_false (by omega)
      go_wp2
      go_round
      case rel => exact ⟨k + 1, _, by omega, by go_num, rfl, HZ2⟩
      case measure => simp [intOf]; omega
    · have hk2 : k = xs.length := by omega
      subst hk2
      have HZ3 : Hid (z = k0 + (bulkS xs : Int)) := by
        show _ = _
        rw [HZ.out, List.take_of_length_le (Nat.le_refl _)]
      clear HZ
      go_wp2
      go_ret
      exact ⟨ret_eq (by rw [← HZ3.out]; rfl), rfl⟩

theorem heldIntSS_c {w : World} {v : Value} {xs : List (List Int)} {k : Int} (h : RV intSSL w v (marksS64 k xs)) (hm : sizeSS xs ≤ 1073741824) (hk0 : 0 ≤ k) (hk1 : k ≤ 549755813888) :
    Calls Try.prog 69 #[v, .int .i64 k] w fun e w' => e = .returned (.int .i64 (k + (bulkS xs : Int))) ∧ Below w.heap.size w w' := by
  obtain ⟨A, c, rfl, _, _, hr⟩ := rv_slice h
  rw [marksS64_len]
  unfold sizeSS at hm
  exact (heldIntSS_any A c _ xs k w hr (by omega) (by omega) hk0 hk1).mono fun e w' ⟨he, hw⟩ => ⟨he, by rw [← hw]; exact Below.refl _ _⟩

set_option maxHeartbeats 400000 in
theorem szIntSS_any (A : Option Addr) (c B : Nat) (xs : List (List Int)) (left : Int) (w : World) (hr : RdL numsL 1 w w.heap.size A xs) (hm : xs.length ≤ 9223372036854775807) (h0 : 0 ≤ left) (h1 : left ≤ 1099511627776) :
    Calls Try.prog 55 #[.slice A xs.length c, .int .i64 left] w fun e w' => e = .returned (.int .i64 (szV left (sizeSS xs : Int))) ∧ w = w' := by
  by_cases hl : (xs.length : Int) ≤ left
  case neg =>
    have e : szV left (sizeSS xs : Int) = -1 := if_neg (by unfold sizeSS; omega)
    have g : decide (left - (xs.length : Int) < 0) = true := by simp; omega
    rw [e]
    clear e
    go_enter Try.func55, Try.ntmps55
    go_wp2
    go_ret
    exact ⟨rfl, rfl⟩
  have g : decide (left - (xs.length : Int) < 0) = false := by simp; omega
  go_enter Try.func55, Try.ntmps55
  go_wp2
  go_loop [1, 5] (fun q i => ∃ (k : Nat) (z : Int), k ≤ xs.length ∧ i = .int .i64 k ∧ q = .int .i64 z ∧ 0 ≤ z ∧ z ≤ 1099511627776 ∧ Hid (z = left - ((xs.length + bulkS (xs.take k) : Nat) : Int))) (fun _ i => xs.length - (intOf i).toNat)
  case atStart => exact ⟨0, _, Nat.zero_le _, rfl, rfl, by omega, by omega, by show _ = _; simp [bulkS]⟩
  case round =>
    obtain ⟨k, z, hk, rfl, rfl, hz0, hz1, HZ⟩ := hrel
    by_cases hlt : k < xs.length
    · obtain ⟨x, hxe⟩ := get_of_lt hlt
      have hxl := len_le_bulk hxe
      obtain ⟨b, off, u, rfl, hb, hc, hu⟩ := hr.at1 hxe
      obtain ⟨Ax, cx, rfl, hx1, hx2, hrx⟩ := el_cell64 hu
      have hsucc := bulkS_take xs k hxe
      have i1 : (k : Int) < (xs.length : Int) := by omega
      by_cases hfit : (x.length : Int) ≤ z
      · have HZ2 : Hid (z - (x.length : Int) = left - ((xs.length + bulkS (xs.take (k + 1)) : Nat) : Int)) := by
          show _ = _
          rw [hsucc, HZ.out]; omega
        have he : szV z (x.length : Int) = z - (x.length : Int) := if_pos hfit
        have HE := Lib.hid he
        clear he hu hxe hsucc
        go_wp2_with fail
        refine (szIntS_c (zs := x) ⟨Ax, cx, rfl, hx1, hx2, hrx⟩ hz0 hz1).mono ?_
        rintro e w' ⟨rfl, rfl⟩
        rw [HE.out]
        have i2 : decide (z - (x.length : Int) < 0) = false := decide_eq_false (by omega)
        go_wp2
        go_round
        case rel => exact ⟨k + 1, _, by omega, by go_num, rfl, by omega, by omega, HZ2⟩
        case measure => simp [intOf]; omega
      · have hall : szV left (sizeSS xs : Int) = -1 := if_neg (by
          have h3 := HZ.out
          unfold sizeSS
          omega)
        have he : szV z (x.length : Int) = -1 := if_neg hfit
        have HA := Lib.hid hall
        have HE := Lib.hid he
        clear he hu hxe hsucc hall
        go_wp2_with fail
        refine (szIntS_c (zs := x) ⟨Ax, cx, rfl, hx1, hx2, hrx⟩ hz0 hz1).mono ?_
        rintro e w' ⟨rfl, rfl⟩
        rw [HE.out]
        go_wp2
        go_ret
        exact ⟨ret_eq (by rw [HA.out]; rfl), rfl⟩
    · have hk2 : k = xs.length := by omega
      subst hk2
      have HA : Hid (szV left (sizeSS xs : Int) = z) := by
        show _ = _
        have h3 := HZ.out
        rw [List.take_of_length_le (Nat.le_refl _)] at h3
        unfold szV sizeSS
        rw [if_pos (by omega)]; omega
      clear HZ
      go_wp2
      go_ret
      exact ⟨ret_eq (by rw [HA.out]; rfl), rfl⟩

theorem szIntSS_c {w : World} {v : Value} {xs : List (List Int)} {left : Int} (h : RV intSSL w v xs) (h0 : 0 ≤ left) (h1 : left ≤ 1099511627776) :
    Calls Try.prog 55 #[v, .int .i64 left] w fun e w' => e = .returned (.int .i64 (szV left (sizeSS xs : Int))) ∧ Below w.heap.size w w' := by
  obtain ⟨A, c, rfl, hc1, hc2, hr⟩ := rv_slice h
  unfold maxLen at hc2
  exact (szIntSS_any A c 0 xs left w hr (by omega) h0 h1).mono fun e w' ⟨he, hw⟩ => ⟨he, by rw [← hw]; exact Below.refl _ _⟩

theorem Try.info_is : (Try.prog.info? 25).map (fun i => (i.zero, i.size, i.bytes)) = some (some (.slice none 0 0), 1, 24) := by kernel_rfl

theorem nums_nil (w : World) : numsL.own w [] [.slice none 0 0] [] := ⟨_, rfl, World.ownsRow_nil _ _ _ _, rfl⟩

theorem os_blocks64 {w : World} {lo hi : Nat} {v : Value} {zs : List Int} (h : OS .i64 3 w lo hi v zs) : ∃ T, numsL.own w T [v] zs ∧ T.Nodup ∧ ∀ j ∈ T, lo ≤ j ∧ j < hi := OVp.ints h

set_option maxHeartbeats 400000 in
theorem toIntSS_any (A : Option Addr) (c : Nat) (xs : List (List Int)) (w : World) (hr : RdL numsL 1 w w.heap.size A xs) (hm : xs.length ≤ 16777216) (hm2 : bulkS xs ≤ 16777216) :
    Calls Try.prog 60 #[.slice A xs.length c] w (NewV intSSL w xs) := by
  obtain ⟨i0, hi, hz0, hz1, hz2⟩ := info_parts Try.info_is
  go_enter Try.func60, Try.ntmps60
  go_wp2_with (at_make; refine wpList_make_full _ rfl _ _ 24 rfl w.heap.size 25 i0 (.slice none 0 0) 1 Try.underlying24 hi hz0 hz1 .i64 .i64 _ _ xs.length rfl rfl rfl rfl ?c1 ?c2 ?c3 ?_)
  case c1 => rw [hz2]; omega
  case c2 => unfold maxLen; omega
  case c3 => exact Nat.le_refl _
  intro w1 hown1 hg1
  have hb1 : Below w.heap.size w w1 := (Below.refl _ _).grown hg1 (Nat.le_refl _) (by intro k hk; cases hk)
  have hlt1 := World.ownsRow.lt hown1 w.heap.size rfl
  have ho1 : OV intSSL w1 w.heap.size w1.heap.size (.slice (some ⟨w.heap.size, 0, none⟩) xs.length xs.length) (xs.take 0 ++ List.replicate (xs.length - 0) []) := by
    have h2 : w1.ownsRow 0 25 1 (.slice (some ⟨w.heap.size, 0, none⟩) xs.length xs.length) xs.length (flat (fun _ => [Value.slice none 0 0]) xs.length) := by
      rw [flat_const1]
      have h3 : w1.ownsRow w.heap.size 25 1 (.slice (some ⟨w.heap.size, 0, none⟩) xs.length xs.length) xs.length (List.replicate xs.length (Value.slice none 0 0)) := by
        simpa [toList_madeCells_one, Value.cells] using hown1
      refine ⟨h3.1, ?_⟩
      rcases h3.2 with h4 | ⟨g, cap, cur, hv, hg, r⟩
      · exact .inl h4
      · exact .inr ⟨g, cap, cur, hv, Nat.zero_le _, r⟩
    have h5 := ownL_made (L := numsL) (nums_nil w1) rfl h2
    refine ⟨[_], _, rfl, ⟨_, rfl, by simpa using h5⟩, by simp [Value.ownBlock], fun j hj => ?_, Nat.le_refl _⟩
    obtain rfl : j = w.heap.size := by simpa [Value.ownBlock] using hj
    exact hlt1
  clear hown1 hg1 hlt1
  go_wp2
  go_loopw [4] (fun i wr => ∃ k : Nat, k ≤ xs.length ∧ i = .int .i64 k ∧ OV intSSL wr w.heap.size wr.heap.size (.slice (some ⟨w.heap.size, 0, none⟩) xs.length xs.length) (xs.take k ++ List.replicate (xs.length - k) []) ∧ Below w.heap.size w wr) (fun i _ => xs.length - (intOf i).toNat)
  case atStart => exact ⟨0, Nat.zero_le _, rfl, ho1, hb1⟩
  case round =>
    obtain ⟨k, hk, rfl, hown, hbr⟩ := hrel
    have hsz := hbr.size
    by_cases hlt : k < xs.length
    · obtain ⟨x, hxe⟩ := get_of_lt hlt
      have hxl := len_le_bulk hxe
      obtain ⟨b, off, u, rfl, hb, hc, hu⟩ := (hr.below hbr).at1 hxe
      obtain ⟨Ax, cx, rfl, hx1, hx2, hrx⟩ := el_cell64 hu
      have HX := Lib.hid hxe
      clear hu hxe
      have i1 : (k : Int) < (xs.length : Int) := by omega
      go_wp2_with fail
      refine (toIntS_c (w := wr) (zs := x) ⟨Ax, cx, rfl, hx1, hx2, hrx.more hsz⟩ (by omega)).mono ?_
      rintro e w2 ⟨v2, rfl, o2, hb2⟩
      have s2 := hb2.size
      obtain ⟨A2, c2, rfl, -, -, -⟩ := o2.rd
      obtain ⟨T, hT, hTn, hTr⟩ := os_blocks64 o2
      have hown2 := hown.below hb2
      have hl := fill_lenL (d := ([] : List Int)) xs k hk
      obtain ⟨u2, hc2, hf2⟩ := hown2.cell_ (j := k) (by rw [hl]; omega)
      have HR : OV intSSL _ _ _ _ _ := hown2.put1 (j := k) (by rw [hl]; exact hlt) hT hTn hTr hsz s2 (Nat.le_refl _)
      rw [fill_stepL xs k HX.out] at HR
      have hb3 : Below w.heap.size w (w2.setCell ⟨w.heap.size, k, none⟩ (.slice A2 x.length c2)) := (hbr.trans (hb2.mono hsz)).setCell (p := ⟨w.heap.size, k, none⟩) (Nat.le_refl _) _
      have HR2 := Lib.hid HR
      clear HR hl hown hown2 hT hTr
      go_wp2
      go_roundw
      case rel => exact ⟨k + 1, by omega, by go_num, by simpa using HR2.out, hb3⟩
      case measure => simp [intOf]; omega
    · have hk2 : k = xs.length := by omega
      subst hk2
      rw [Nat.sub_self, List.replicate_zero, List.append_nil, List.take_of_length_le (Nat.le_refl _)] at hown
      go_wp2
      go_ret
      exact ⟨_, rfl, hown, hbr⟩

theorem toIntSS_c {w : World} {v : Value} {xs : List (List Int)} (h : RV intSSL w v xs) (hm : sizeSS xs ≤ 16777216) : Calls Try.prog 60 #[v] w (NewV intSSL w xs) := by
  obtain ⟨A, c, rfl, _, _, hr⟩ := rv_slice h
  unfold sizeSS at hm
  exact toIntSS_any A c xs w hr (by omega) (by omega)

end Go.Proofs.Ytmbipgnecjlicaa
