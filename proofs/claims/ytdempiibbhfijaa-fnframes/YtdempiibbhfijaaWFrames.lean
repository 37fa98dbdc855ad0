/- The walk of the law FnFrames. -/
import Derived.Test.YtdempiibbhfijaaScan
import Derived.Test.YtdempiibbhfijaaFramesMath
import Derived.Test.YtdempiibbhfijaaSameBytes
import Derived.Test.YtdempiibbhfijaaMakes
import Derived.Test.YtdempiibbhfijaaMakesB
import Derived.IntWalk
namespace Go.Proofs.Ytdempiibbhfijaa
open Go.RowKit
set_option linter.unusedVariables false

theorem bytes_app {a b : List Int} (ha : Bytes a) (hb : Bytes b) : Bytes (a ++ b) := by
  intro j
  by_cases hj : j < a.length
  · rw [List.getD_eq_getElem?_getD, List.getElem?_append_left hj, ← List.getD_eq_getElem?_getD]; exact ha j
  · rw [List.getD_eq_getElem?_getD, List.getElem?_append_right (by omega), ← List.getD_eq_getElem?_getD]; exact hb _
theorem bytes_of_mem {l : List Int} (h : ∀ x ∈ l, 0 ≤ x ∧ x ≤ 255) : Bytes l := by
  intro j
  by_cases hj : j < l.length
  · have := h l[j] (List.getElem_mem hj)
    simpa [hj] using this
  · simp [hj]
theorem frame_bytes {p : List Int} (h : frameB p = true) (hb : Bytes p) : Bytes (frame p) := by
  have hl : 1 ≤ p.length ∧ p.length ≤ 2000 := of_decide_eq_true h
  have hc := crcOf_range hb
  refine bytes_app (bytes_of_mem ?_) hb
  intro x hx
  simp [frameHead] at hx
  rcases hx with rfl | rfl | rfl | rfl | rfl | rfl <;> omega
theorem bytes_set {l : List Int} (h : Bytes l) (k : Nat) {y : Int} (hy : 0 ≤ y ∧ y ≤ 255) : Bytes (l.set k y) := by
  intro j
  rw [getD_set_of]
  split
  · exact hy
  · exact h j
theorem Rd.take_ {k : IntKind} {w : World} {B : Nat} {A : Option Addr} {zs : List Int} (h : Rd k w B A zs) (K : Nat) : Rd k w B A (zs.take K) := fun hp => by
  rw [List.length_take] at hp
  obtain ⟨b, off, rfl, hb, hc⟩ := h (by omega)
  refine ⟨b, off, rfl, hb, fun j hj => ?_⟩
  rw [List.length_take] at hj
  rw [hc j (by omega), List.getD_eq_getElem?_getD, List.getD_eq_getElem?_getD, List.getElem?_take, if_pos (by omega)]
theorem RS.cut_ {k : IntKind} {w : World} {A : Option Addr} {n c K c' : Nat} {zs : List Int} (h : RS k w (.slice A n c) zs) (hK : K ≤ zs.length) (hc : K ≤ c' ∧ c' ≤ c) : RS k w (.slice A K c') (zs.take K) := by
  have h1 := h.le_
  refine ⟨A, c', ?_, ?_, by omega, h.rd_.take_ K⟩
  · rw [List.length_take, Nat.min_eq_left hK]
  · rw [List.length_take]; omega
theorem rs_nil (w : World) : RS .u8 w (.slice none 0 0) [] := ⟨none, 0, rfl, Nat.le_refl _, by unfold maxLen; omega, Rd.nil⟩
/-- a literal of two slices -/
theorem rv_two {w : World} {blk : Nat} {t : TypeId} {va vb : Value} {a b : List Int} (x : Vr w blk t [va, vb]) (ra : RS .u8 w va a) (rb : RS .u8 w vb b) : RV byteSSL w (.slice (some ⟨blk, 0, none⟩) 2 2) [a, b] := by
  have hc0 := x.cell (i := 0) (v := va) rfl
  have hc1 := x.cell (i := 1) (v := vb) rfl
  obtain ⟨A, c, rfl, h1, h2, hr⟩ := ra
  obtain ⟨A', c', rfl, h1', h2', hr'⟩ := rb
  refine ⟨[_], rfl, some ⟨blk, 0, none⟩, 2, rfl, Nat.le_refl _, by unfold maxLen; omega, fun j => if j = 0 then [.slice A a.length c] else [.slice A' b.length c'], ?_, ?_⟩
  · intro j z hz
    match j, hz with
    | 0, hz =>
      obtain rfl : a = z := by simpa using hz
      exact ⟨rfl, ⟨A, c, rfl, h1, h2, hr⟩⟩
    | 1, hz =>
      obtain rfl : b = z := by simpa using hz
      exact ⟨rfl, ⟨A', c', rfl, h1', h2', hr'⟩⟩
    | j + 2, hz => simp at hz
  · intro _
    refine ⟨blk, 0, rfl, x.lt, fun j i u hj hu => ?_⟩
    match j, hj with
    | 0, _ =>
      match i, hu with
      | 0, hu =>
        obtain rfl : Value.slice A a.length c = u := by simpa using hu
        exact hc0
      | i + 1, hu => simp at hu
    | 1, _ =>
      match i, hu with
      | 0, hu =>
        obtain rfl : Value.slice A' b.length c' = u := by simpa using hu
        exact hc1
      | i + 1, hu => simp at hu
/-- a byte turned by an xor with a number that is not 0 -/
theorem xor_turn (z t : Int) (hz : 0 ≤ z ∧ z ≤ 255) (ht : 1 ≤ t ∧ t ≤ 255) : ∃ y, bits .xor .u8 z t = y ∧ (0 ≤ y ∧ y ≤ 255) ∧ y ≠ z := by
  obtain ⟨p, rfl⟩ : ∃ p : Nat, z = (p : Int) := ⟨z.toNat, by omega⟩
  obtain ⟨q, rfl⟩ : ∃ q : Nat, t = (q : Int) := ⟨t.toNat, by omega⟩
  have hx : p ^^^ q < 2 ^ 8 := Nat.xor_lt_two_pow (by omega) (by omega)
  have e : bits .xor .u8 (p : Int) (q : Int) = ((p ^^^ q : Nat) : Int) := by
    show IntKind.u8.wrap ((BitVec.ofInt 8 (p : Int) ^^^ BitVec.ofInt 8 (q : Int)).toNat : Int) = _
    rw [BitVec.toNat_xor, ofInt_nat 8 p (by omega), ofInt_nat 8 q (by omega), IntKind.wrap_u8]
    omega
  refine ⟨_, e, ⟨by omega, by omega⟩, fun h => ?_⟩
  have h1 : p ^^^ q = p := by exact_mod_cast h
  have h2 : p ^^^ (p ^^^ q) = p ^^^ p := by rw [h1]
  rw [← Nat.xor_assoc, Nat.xor_self, Nat.zero_xor] at h2
  omega
theorem Own.at_some {k : IntKind} {w : World} {base : Nat} {e : TypeId} {v : Value} {zs : List Int} (h : Own k w base e v zs) (hp : 0 < zs.length) : ∃ g c, v = .slice (some ⟨g, 0, none⟩) zs.length c := by
  rcases h.2 with ⟨_, h0⟩ | ⟨g, cap, cur, rfl, _⟩
  · omega
  · exact ⟨g, cap, rfl⟩
theorem OS.put {w : World} {lo hi g n c : Nat} {zs : List Int} (h : OS .u8 5 w lo hi (.slice (some ⟨g, 0, none⟩) n c) zs) (j : Nat) (x : Int) : OS .u8 5 (w.setCell ⟨g, j, none⟩ (.int .u8 x)) lo hi (.slice (some ⟨g, 0, none⟩) n c) (zs.set j x) ∧ Chg lo hi w (w.setCell ⟨g, j, none⟩ (.int .u8 x)) := by
  have h1 := (h.1.base_le).1
  have h2 := h.2.1 g rfl
  refine ⟨⟨h.1.set_ j x, h.2.1, by simpa using h.2.2⟩, rfl, rfl, rfl, by simp, fun k hk hd => Below.heap_setCell w ⟨g, j, none⟩ _ k (by show k ≠ g; omega)⟩

theorem two_at {w : World} {lo hi n c : Nat} {A : Option Addr} {a b : List Int} (h : OV byteSSL w lo hi (.slice A n c) [a, b]) : ∃ bl ol, A = some ⟨bl, ol, none⟩ := by
  obtain ⟨A', c', hv, -, -, hr⟩ := rv_slice h.rd
  obtain ⟨b1, off1, u, e, -⟩ := hr.at1 (j := 0) rfl
  simp only [Value.slice.injEq] at hv
  exact ⟨b1, off1, by rw [hv.1, e]⟩
theorem two_cells {w : World} {lo hi n c bl ol : Nat} {a b : List Int} (h : OV byteSSL w lo hi (.slice (some ⟨bl, ol, none⟩) n c) [a, b]) :
    ∃ A0 c0 A1 c1, w.cell? ⟨bl, ol, none⟩ = some (.slice A0 a.length c0) ∧ w.cell? ⟨bl, ol + 1, none⟩ = some (.slice A1 b.length c1) ∧ RS .u8 w (.slice A0 a.length c0) a ∧ RS .u8 w (.slice A1 b.length c1) b := by
  obtain ⟨A', c', hv, -, -, hr⟩ := rv_slice h.rd
  simp only [Value.slice.injEq] at hv
  obtain ⟨e1, -, -⟩ := hv
  subst e1
  obtain ⟨b1, off1, u, e, -, hc, hu⟩ := hr.at1 (j := 0) (x := a) rfl
  obtain ⟨b2, off2, u', e', -, hc', hu'⟩ := hr.at1 (j := 1) (x := b) rfl
  simp only [Option.some.injEq, Addr.mk.injEq] at e e'
  obtain ⟨rfl, rfl, _⟩ := e
  obtain ⟨rfl, rfl, _⟩ := e'
  obtain ⟨A0, c0, rfl, p1, p2, r0⟩ := el_cell hu
  obtain ⟨A1, c1, rfl, q1, q2, r1⟩ := el_cell hu'
  exact ⟨A0, c0, A1, c1, hc, hc', ⟨A0, c0, rfl, p1, p2, r0⟩, ⟨A1, c1, rfl, q1, q2, r1⟩⟩

set_option maxRecDepth 100000 in
set_option maxHeartbeats 8000000 in
theorem wFrames (v : Value) (zs : List Int) (w : World) (r : RS .u8 w v zs) (hb : Bytes zs) :
    Calls Try.prog 3 #[v] w fun e w' => e = .returned (.bool true) ∧ Below w.heap.size w w' := by
  obtain ⟨A, c, rfl, p1, p2, hr⟩ := r
  unfold maxLen at p2
  obtain ⟨i0, hi, hz0, hz1, hz2⟩ := info_parts Try.info_u8
  by_cases hbig : 1048576 < zs.length
  case pos =>
    have i0 : (1048576 : Int) < (zs.length : Int) := by omega
    go_enter Try.func3, Try.ntmps3
    go_wp2
    go_ret
    exact ⟨rfl, Below.refl _ _⟩
  have hm : zs.length ≤ 1048576 := by omega
  have B0 : Below w.heap.size w w := Below.refl _ _
  go_enter Try.func3, Try.ntmps3
  go_wp2_with fail
  refine (makeBytes_any A c zs 30 _ ((hr.below B0).more B0.size) hb hm (by omega)).mono ?_
  rintro e w1 ⟨v0, l0, rfl, o0, bl0, n0, hA⟩
  have hsA := hA.size
  go_wp2_with (at_builtin; refine wpl_appI _ .u8 rfl (.tmp 24) (.tmp 25) 22 rfl w.heap.size 5 i0 1 Try.underlying22 hi hz0 hz1 hz2 _ l0 rfl (o0.1.alloc_ _) _ _ _ 1 [1] rfl rfl (rd_one _ _ _ _) ?d1a (by omega) ?d2a ?_)
  case d1a => omega
  case d2a => simp; omega
  intro v1 w2 o1 g1 _
  have h_w2 : Below w.heap.size w w2 := grown_below (hA.alloc hsA _) (o0.1.alloc_ _) g1 (Nat.le_refl _) (by simp; omega)
  obtain ⟨a, ha⟩ : ∃ a, a = l0 ++ [1] := ⟨_, rfl⟩
  rw [← ha] at o1
  have n_a : 1 ≤ a.length ∧ a.length ≤ 31 := by rw [ha, List.length_append, List.length_singleton]; omega
  have b_a : Bytes a := by rw [ha]; exact bytes_snoc bl0 (by omega)
  have o_a := OS.mk_ o1
  clear ha o1 g1 o0 bl0 n0 hA hsA
  obtain ⟨Aa, ca, rfl, -, -, -⟩ := o_a.rd
  have B_w2 := B0.trans (h_w2.mono B0.size)
  have s_w2 := h_w2.size
  go_wp2_with fail
  refine (makeBytes_any A c zs 20 _ ((hr.below B_w2).more B_w2.size) hb hm (by omega)).mono ?_
  rintro e w3 ⟨v0, l0, rfl, o0, bl0, n0, hA⟩
  have hsA := hA.size
  go_wp2_with (at_builtin; refine wpl_appI _ .u8 rfl (.tmp 28) (.tmp 29) 22 rfl w2.heap.size 5 i0 1 Try.underlying22 hi hz0 hz1 hz2 _ l0 rfl (o0.1.alloc_ _) _ _ _ 1 [2] rfl rfl (rd_one _ _ _ _) ?d1b (by omega) ?d2b ?_)
  case d1b => omega
  case d2b => simp; omega
  intro v1 w4 o1 g1 _
  have h_w4 : Below w2.heap.size w2 w4 := grown_below (hA.alloc hsA _) (o0.1.alloc_ _) g1 (Nat.le_refl _) (by simp; omega)
  obtain ⟨b, hb⟩ : ∃ b, b = l0 ++ [2] := ⟨_, rfl⟩
  rw [← hb] at o1
  have n_b : 1 ≤ b.length ∧ b.length ≤ 21 := by rw [hb, List.length_append, List.length_singleton]; omega
  have b_b : Bytes b := by rw [hb]; exact bytes_snoc bl0 (by omega)
  have o_b := OS.mk_ o1
  clear hb o1 g1 o0 bl0 n0 hA hsA
  obtain ⟨Ab, cb, rfl, -, -, -⟩ := o_b.rd
  replace o_a := o_a.below h_w4
  have B_w4 := B_w2.trans (h_w4.mono B_w2.size)
  have s_w4 := h_w4.size
  have fa : frameB a = true := decide_eq_true (by omega)
  have fb : frameB b = true := decide_eq_true (by omega)
  have la := frame_len a
  have lb := frame_len b
  have bfa := frame_bytes fa b_a
  have bfb := frame_bytes fb b_b
  obtain ⟨O, hO⟩ : ∃ O, O = frame a := ⟨_, rfl⟩
  obtain ⟨F, hF⟩ : ∃ F, F = frame a ++ frame b := ⟨_, rfl⟩
  have nO : O.length ≤ a.length + 6 ∧ a.length + 6 ≤ O.length := by rw [hO]; omega
  have nF : F.length ≤ O.length + b.length + 6 ∧ O.length + b.length + 6 ≤ F.length := by rw [hF, hO, List.length_append]; omega
  have bF : Bytes F := by rw [hF]; exact bytes_app bfa bfb
  have HO := Lib.hid hO
  have HF := Lib.hid hF
  have E1 := Lib.hid (frames_two fa fb).1
  have E2 : Hid (frames [a, b] = F) := by show _ = _; rw [(frames_two fa fb).2, hF]
  have E3 : Hid (scanL F = [a, b]) := by show _ = _; rw [hF]; exact (scan_two fa fb b_a b_b).1
  have E4 : Hid (scanP F = (F.length : Int)) := by show _ = _; rw [hF]; exact (scan_two fa fb b_a b_b).2
  have E5 : Hid (framePut [] a = O) := by show _ = _; unfold framePut; rw [if_pos fa, List.nil_append, hO]
  have E6 : Hid (tornB F = false) := decide_eq_false (by rw [E4.out]; simp)
  have E7 : Hid (frameAtB F 0 = true ∧ frameAtL F 0 = a ∧ frameAtP F 0 = (O.length : Int)) := by have := get_first fa b_a (frame b); rw [← hF, ← hO] at this; exact this
  have E8 : Hid (∀ K : Nat, K < O.length → scanL (F.take K) = [] ∧ scanP (F.take K) = 0) := fun K hK => by rw [hF]; exact scan_cut fa (frame b) K (by rw [← hO]; exact hK)
  have E9 : Hid (∀ (k : Nat) (y : Int), O.length + 2 ≤ k → k < F.length → (0 ≤ y ∧ y ≤ 255) → y ≠ F.getD k 0 → scanL (F.set k y) = [a]) := fun k y h1 h2 h3 h4 => by rw [hF] at h2 h4 ⊢; exact scan_bad fa fb b_a b_b k y (by rw [← hO]; exact h1) h2 h3 h4
  have FA := Lib.hid fa
  have FB := Lib.hid fb
  clear hO hF la lb fa fb bfa bfb
  obtain ⟨w5, e_w5, s_w5, h_w5, x_ll⟩ := alloc_step w4 22 [.slice Aa a.length ca, .slice Ab b.length cb]
  have s_w5_1 := Nat.le_of_eq s_w5
  have s_w5_2 := Nat.le_of_eq s_w5.symm
  clear s_w5
  replace o_a := o_a.below h_w5
  replace o_b := o_b.below h_w5
  have B_w5 := B_w4.trans (h_w5.mono B_w4.size)
  have rL := rv_two x_ll o_a.rd o_b.rd
  go_wp2_with fail
  refine (iFrames_c rL (fun x hx => by simp at hx; rcases hx with rfl | rfl <;> assumption) (by show 2 + (a.length + (b.length + 0)) ≤ _; omega)).mono ?_
  rintro e w6 ⟨v_f, rfl, o_f, h_w6⟩
  replace o_a := o_a.below h_w6
  replace o_b := o_b.below h_w6
  have B_w6 := B_w5.trans (h_w6.mono B_w5.size)
  have s_w6 := h_w6.size
  rw [E2.out] at o_f
  rw [E1.out]
  clear rL x_ll
  obtain ⟨Af, cf, rfl, qf1, qf2, -⟩ := o_f.rd
  unfold maxLen at qf2
  go_wp2_with fail
  refine (iScan_c o_f.rd bF (by omega)).mono ?_
  rintro e w7 ⟨v_l, rfl, o_l, h_w7⟩
  replace o_a := o_a.below h_w7
  replace o_b := o_b.below h_w7
  replace o_f := o_f.below h_w7
  have B_w7 := B_w6.trans (h_w7.mono B_w6.size)
  have s_w7 := h_w7.size
  rw [E3.out] at o_l
  rw [E4.out]
  obtain ⟨Al, cl, rfl, -, -, -⟩ := rv_slice o_l.rd
  replace o_l : OV byteSSL w7 _ _ (.slice Al 2 cl) [a, b] := o_l
  have e2 : [a, b].length = 2 := rfl
  rw [e2]
  clear e2
  go_wp2_with fail
  refine (iFramePut_c (rs_nil _) o_a.rd b_a (by simp) (by omega)).mono ?_
  rintro e w8 ⟨v_o, rfl, o_o, h_w8⟩
  replace o_a := o_a.below h_w8
  replace o_b := o_b.below h_w8
  replace o_f := o_f.below h_w8
  replace o_l := o_l.below h_w8
  have B_w8 := B_w7.trans (h_w8.mono B_w7.size)
  have s_w8 := h_w8.size
  rw [E5.out] at o_o
  rw [FA.out]
  obtain ⟨Ao, co, rfl, -, -, -⟩ := o_o.rd
  have t1 : ((O.length : Int) != (a.length : Int) + 6) = false := by simp; omega
  have t2 : ((F.length : Int) != (O.length : Int) + (b.length : Int) + 6) = false := by simp; omega
  go_wp2_with fail
  refine (makeNum_any A c zs (O.length : Int) _ ((hr.below B_w8).more B_w8.size) hb hm (by omega) (by omega)).mono ?_
  rintro e w9 ⟨kk, rfl, hk1, hk2, h_w9⟩
  replace o_a := o_a.below h_w9
  replace o_b := o_b.below h_w9
  replace o_f := o_f.below h_w9
  replace o_l := o_l.below h_w9
  replace o_o := o_o.below h_w9
  have B_w9 := B_w8.trans (h_w9.mono B_w8.size)
  have s_w9 := h_w9.size
  obtain ⟨K, rfl⟩ : ∃ K : Nat, kk = (K : Int) := ⟨kk.toNat, by omega⟩
  have rK := o_f.rd.cut_ (K := K) (c' := cf) (by omega) ⟨by omega, Nat.le_refl _⟩
  have hKc : (K : Int) ≤ (cf : Int) := by omega
  have hKc2 : K ≤ cf := by omega
  go_wp2_with fail
  refine (iScan_c rK (bytes_take bF K) (by rw [List.length_take]; omega)).mono ?_
  rintro e w10 ⟨v_c, rfl, o_c, h_w10⟩
  replace o_a := o_a.below h_w10
  replace o_b := o_b.below h_w10
  replace o_f := o_f.below h_w10
  replace o_l := o_l.below h_w10
  replace o_o := o_o.below h_w10
  have B_w10 := B_w9.trans (h_w10.mono B_w9.size)
  have s_w10 := h_w10.size
  rw [(E8.out K (by omega)).1] at o_c
  rw [(E8.out K (by omega)).2]
  clear rK
  obtain ⟨Ac, cc, rfl, -, -, -⟩ := rv_slice o_c.rd
  have e2 : ([] : List (List Int)).length = 0 := rfl
  rw [e2]
  clear e2
  go_wp2_with fail
  refine (iTorn_c o_f.rd bF (by omega)).mono ?_
  rintro e w11 ⟨rfl, h_w11⟩
  replace o_a := o_a.below h_w11
  replace o_b := o_b.below h_w11
  replace o_f := o_f.below h_w11
  replace o_l := o_l.below h_w11
  replace o_o := o_o.below h_w11
  have B_w11 := B_w10.trans (h_w11.mono B_w10.size)
  have s_w11 := h_w11.size
  rw [E6.out]
  go_wp2_with fail
  refine (makeNum_any A c zs ((F.length : Int) - (O.length : Int) - 2) _ ((hr.below B_w11).more B_w11.size) hb hm (by omega) (by omega)).mono ?_
  rintro e w12 ⟨jj, rfl, hj1, hj2, h_w12⟩
  replace o_a := o_a.below h_w12
  replace o_b := o_b.below h_w12
  replace o_f := o_f.below h_w12
  replace o_l := o_l.below h_w12
  replace o_o := o_o.below h_w12
  have B_w12 := B_w11.trans (h_w12.mono B_w11.size)
  have s_w12 := h_w12.size
  obtain ⟨J, rfl⟩ : ∃ J : Nat, jj = (J : Int) := ⟨jj.toNat, by omega⟩
  obtain ⟨k, hk⟩ : ∃ k, k = O.length + 2 + J := ⟨_, rfl⟩
  have hki : (O.length : Int) + 2 + (J : Int) = (k : Int) := by omega
  have g1 : (k : Int) < (F.length : Int) := by omega
  have g2 : k < F.length := by omega
  have g3 : O.length + 2 ≤ k := by omega
  clear hk
  have oN := own_none .u8 w12 w12.heap.size 5 (Nat.le_refl _)
  have bN : Below w12.heap.size w12 (w12.alloc (.cells #[] 5)) := (Below.refl _ _).alloc (Nat.le_refl _) _
  go_wp2_with (at_builtin; refine wpl_appI _ .u8 rfl (.tmp 121) (.tmp 122) 22 rfl w12.heap.size 5 i0 1 Try.underlying22 hi hz0 hz1 hz2 _ [] rfl oN _ Af cf F.length F rfl rfl (o_f.below bN).rd.rd_ ?d1 (by omega) ?d2 ?_)
  case d1 => simp; omega
  case d2 => simp
  intro v1 wb ob gb _
  have hbb : Below w12.heap.size w12 wb := grown_below bN oN gb (Nat.le_refl _) (by simp)
  clear oN bN gb
  obtain ⟨g, cb2, rfl⟩ := ob.at_some (by omega)
  have o_bad := OS.mk_ ob
  clear ob hki
  replace o_a := o_a.below hbb
  replace o_b := o_b.below hbb
  replace o_f := o_f.below hbb
  replace o_l := o_l.below hbb
  replace o_o := o_o.below hbb
  have B_wb := B_w12.trans (hbb.mono B_w12.size)
  have s_wb := hbb.size
  have hcB := o_bad.1.cell_ g2
  have hfB := o_bad.1.frozen_ k
  obtain ⟨z, hz⟩ : ∃ z, F.getD k 0 = z := ⟨_, rfl⟩
  have bz := bF k
  rw [hz] at hcB bz
  have HZ := Lib.hid hz
  clear hz
  have gB := o_bad.1.base_le
  have Bd := (B_wb.drew)
  have g0 : (0 : Int) ≤ (k : Int) := by omega
  go_wp2
  go_region_with ((go_at_call 13; refine (makeNum_any A c zs 255 _ ((hr.below Bd).more B_wb.size) hb hm (by omega) (by omega)).mono ?_; rintro e wr ⟨x, rfl, hx1, hx2, hd⟩; obtain ⟨y, hy, hy2, hy3⟩ := xor_turn z (1 + x) bz (by omega); have hcR := (hd.cell (p := ⟨g, k, none⟩) gB.2).trans hcB; have hfR := (hd.frozen (p := ⟨g, k, none⟩) gB.2).trans hfB; have q1 : IntKind.i64.wrap (1 + x) = 1 + x := IntWalk.i64_in _ (by omega); have q2 : IntKind.u8.wrap (1 + x) = 1 + x := by rw [IntKind.wrap_u8]; omega))
  all_goals
    have hbr : Below wb.heap.size wb wr := (Below.refl _ wb).drew.trans hd
    clear hd hcB hfB hcR hfR q1 q2 Bd
    replace o_a := o_a.below hbr
    replace o_b := o_b.below hbr
    replace o_f := o_f.below hbr
    replace o_l := o_l.below hbr
    replace o_o := o_o.below hbr
    replace o_bad := o_bad.below hbr
    have B_wr := B_wb.trans (hbr.mono B_wb.size)
    have s_wr := hbr.size
    obtain ⟨o_t, hct⟩ := o_bad.put k y
    obtain ⟨wt, hwt⟩ : ∃ wt, wr.setCell ⟨g, k, none⟩ (.int .u8 y) = wt := ⟨_, rfl⟩
    rw [hwt] at o_t hct
    first | rw [hwt] | skip
    clear o_bad hwt
    replace o_a := o_a.chg hct (by omega)
    replace o_b := o_b.chg hct (by omega)
    replace o_f := o_f.chg hct (by omega)
    replace o_l := o_l.chg hct (by omega)
    replace o_o := o_o.chg hct (by omega)
    have B_wt := Below.chg_ B_wr hct (by omega) (by omega)
    have s_wt := hct.size
    have hsc := E9.out k y g3 g2 hy2 (by rw [HZ.out]; exact hy3)
    obtain ⟨G, hG⟩ : ∃ G, F.set k y = G := ⟨_, rfl⟩
    have bG : Bytes G := by rw [← hG]; exact bytes_set bF k hy2
    have nG : G.length ≤ F.length := by rw [← hG, List.length_set]; exact Nat.le_refl _
    rw [hG] at o_t hsc
    obtain ⟨sp, hsp⟩ : ∃ sp, scanP G = sp := ⟨_, rfl⟩
    have E10 := Lib.hid hsc
    have E11 := Lib.hid hsp
    clear hsc hG hsp hy hy2 hy3
    go_wp2_with fail
    refine (iScan_c o_t.rd bG (by omega)).mono ?_
    rintro e w13 ⟨v_m, rfl, o_m, h_w13⟩
    replace o_a := o_a.below h_w13
    replace o_b := o_b.below h_w13
    replace o_f := o_f.below h_w13
    replace o_l := o_l.below h_w13
    replace o_o := o_o.below h_w13
    replace o_t := o_t.below h_w13
    have B_w13 := B_wt.trans (h_w13.mono B_wt.size)
    have s_w13 := h_w13.size
    rw [E10.out] at o_m
    rw [E11.out]
    obtain ⟨Am, cm, rfl, -, -, -⟩ := rv_slice o_m.rd
    have e2 : [a].length = 1 := rfl
    rw [e2]
    clear e2 o_m
    go_wp2_with fail
    refine (iFrameGet_c (a := 0) o_f.rd bF (by omega) (by omega) (by omega)).mono ?_
    rintro e w14 ⟨v_p, rfl, o_p, h_w14⟩
    replace o_a := o_a.below h_w14
    replace o_b := o_b.below h_w14
    replace o_f := o_f.below h_w14
    replace o_l := o_l.below h_w14
    replace o_o := o_o.below h_w14
    replace o_t := o_t.below h_w14
    have B_w14 := B_w13.trans (h_w14.mono B_w13.size)
    have s_w14 := h_w14.size
    obtain ⟨e70, e71, e72⟩ := E7.out
    rw [e70, e72]
    rw [e71] at o_p
    clear e70 e71 e72
    obtain ⟨Ap, cp, rfl, -, -, -⟩ := o_p.rd
    obtain ⟨bl, ol, rfl⟩ := two_at o_l
    obtain ⟨A0, c0, A1, c1, k0, k1, r0, r1⟩ := two_cells o_l
    go_wp2_with fail
    refine (iSameBytes_b r0 o_a.rd b_a b_a).mono ?_
    rintro e w15 ⟨rfl, h_w15⟩
    replace o_a := o_a.below h_w15
    replace o_b := o_b.below h_w15
    replace o_f := o_f.below h_w15
    replace o_l := o_l.below h_w15
    replace o_o := o_o.below h_w15
    replace o_t := o_t.below h_w15
    replace o_p := o_p.below h_w15
    have B_w15 := B_w14.trans (h_w15.mono B_w14.size)
    have s_w15 := h_w15.size
    rw [show decide (a = a) = true from decide_eq_true rfl]
    clear k0 k1 r0 r1
    obtain ⟨A2, c2, A3, c3, k0, k1, r0, r1⟩ := two_cells o_l
    go_wp2_with fail
    refine (iSameBytes_b r1 o_b.rd b_b b_b).mono ?_
    rintro e w16 ⟨rfl, h_w16⟩
    replace o_a := o_a.below h_w16
    replace o_b := o_b.below h_w16
    replace o_f := o_f.below h_w16
    replace o_l := o_l.below h_w16
    replace o_o := o_o.below h_w16
    replace o_t := o_t.below h_w16
    replace o_p := o_p.below h_w16
    have B_w16 := B_w15.trans (h_w16.mono B_w15.size)
    have s_w16 := h_w16.size
    rw [show decide (b = b) = true from decide_eq_true rfl]
    clear k0 k1 r0 r1
    go_wp2_with fail
    refine (iSameBytes_b o_p.rd o_a.rd b_a b_a).mono ?_
    rintro e w17 ⟨rfl, h_w17⟩
    replace o_a := o_a.below h_w17
    replace o_b := o_b.below h_w17
    replace o_f := o_f.below h_w17
    replace o_l := o_l.below h_w17
    replace o_o := o_o.below h_w17
    replace o_t := o_t.below h_w17
    replace o_p := o_p.below h_w17
    have B_w17 := B_w16.trans (h_w17.mono B_w16.size)
    have s_w17 := h_w17.size
    rw [show decide (a = a) = true from decide_eq_true rfl]
    go_wp2
    go_ret
    exact ⟨rfl, B_w17⟩

end Go.Proofs.Ytdempiibbhfijaa
