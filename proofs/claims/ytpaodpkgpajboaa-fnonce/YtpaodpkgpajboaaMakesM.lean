/- Messages drawn: spec.l04Draw, spec.MakeMsgs. Laid by a program of ours (src/makesm.py). -/
import Derived.Test.YtpaodpkgpajboaaCurV
import Derived.Test.YtpaodpkgpajboaaMsg1
import Derived.Test.YtpaodpkgpajboaaAppN
import Derived.Test.YtpaodpkgpajboaaBox4
namespace Go.Proofs.Ytpaodpkgpajboaa
open Go.RowKit
set_option linter.unusedVariables false

theorem OV.app_grow {α : Type} {L : Lay α} {e : TypeId} {n : Nat} {w : World} {v : Value} {xs : List α} {lo m : Nat} {cs : List Value} {x : α} (hz : ∀ w T cs x, L.own w T cs x → T = []) (h : OV (sliceL e n L) w lo m v xs) (hc : cs.length = n) (hx : ∀ w, L.own w [] cs x) (hlm : lo ≤ w.heap.size) :
    ∃ ys, w.ownsRow 0 e n v xs.length ys ∧ ∀ v' w', w'.ownsRow 0 e n v' (xs.length + 1) (ys ++ cs) → w.grownBy w' v.ownBlock → (v'.ownBlock = v.ownBlock ∨ v'.ownBlock = some w.heap.size) →
      Chg lo m w w' ∧ OV (sliceL e n L) w' lo w'.heap.size v' (xs ++ [x]) := by
  have hm : m ≤ w.heap.size := by obtain ⟨_, _, _, _, _, _, hm⟩ := h; exact hm
  obtain ⟨ys, R, hb⟩ := OV.app_n2 hz h hc hx hlm
  refine ⟨ys, R, fun v' w' h1 h2 h3 => ?_⟩
  obtain ⟨hc2, ho | ho⟩ := hb v' w' h1 h2 h3
  · exact ⟨hc2, ho.widen (Nat.le_refl _) (Nat.le_trans hm hc2.size) (Nat.le_refl _)⟩
  · exact ⟨hc2, ho.widen hlm (Nat.le_refl _) (Nat.le_refl _)⟩

theorem drawn_ok {k a b s : Int} (hk : 1 ≤ k ∧ k ≤ 5) (ha : 0 ≤ a ∧ a < 3) (hb : (k ≠ 4 → 1 ≤ b ∧ b ≤ 90) ∧ (k = 4 → 0 ≤ b ∧ b < 4)) (hs : 0 ≤ s ∧ s < 3 ∧ (k ≠ 2 → s = 0)) : msgOkB ⟨k, a, b, s⟩ = true := by
  have h1 : inB a 0 2 = true := inB_true.2 (by omega)
  have h2 : inB s 0 2 = true := inB_true.2 (by omega)
  rw [msgOk_rest (m := ⟨k, a, b, s⟩) h1 h2 (by show k = 2 ∨ s = 0; omega)]
  show amtOkB k b = true
  unfold amtOkB
  by_cases h3 : k = 1 ∨ k = 2 ∨ k = 3
  · rw [if_pos h3]; exact inB_true.2 (by omega)
  · rw [if_neg h3]
    by_cases h4 : k = 4
    · rw [if_pos h4]; exact inB_true.2 (by omega)
    · rw [if_neg h4, if_pos (by omega)]; exact numB_true.2 (by omega)

set_option maxRecDepth 100000 in
set_option maxHeartbeats 4000000 in
theorem cMsg_c {w : World} {g : Nat} {A : Option Addr} {c : Nat} {zs : List Int} (hk : CurOk w g A c zs) (hb : Bytes zs) (hm : zs.length ≤ 1073741824) :
    Calls Try.prog 42 #[.pointer (some ⟨g, 0, none⟩)] w fun e w' => ∃ m : MMsg, e = .returned (.agg #[.int .i64 m.Kind, .int .i64 m.Acct, .int .i64 m.Amt, .int .i64 m.Src]) ∧ msgOkB m = true ∧ CurOk w' g A c zs ∧ Chg g (g + 1) w w' := by
  have hgl := hk.lt
  have hgle := Nat.le_of_lt hgl
  obtain ⟨wa, hwa, B0, sa, x_r⟩ := frame1 w 29 [.int .i64 0, .int .i64 0, .int .i64 0, .int .i64 0]
  have sa_1 := Nat.le_of_eq sa
  have sa_2 := Nat.le_of_eq sa.symm
  clear sa
  have Bg := B0.mono hgle
  have C0 := (Chg.refl g (g + 1) w).then_below B0
  replace hk := hk.below B0
  have c_r_0_wa := x_r.cell (i := 0) rfl
  have f_r_0_wa := x_r.frozen 0
  have c_r_1_wa := x_r.cell (i := 1) rfl
  have f_r_1_wa := x_r.frozen 1
  have c_r_2_wa := x_r.cell (i := 2) rfl
  have f_r_2_wa := x_r.frozen 2
  have c_r_3_wa := x_r.cell (i := 3) rfl
  have f_r_3_wa := x_r.frozen 3
  go_enter Try.func42, Try.ntmps42
  go_wp2_with fail
  refine (cBelow_c (n := 5) hk hb hm (by omega) (by omega)).mono ?_
  rintro e w1 ⟨k, rfl, bk, y, h_w1⟩
  clear c_r_0_wa f_r_0_wa c_r_1_wa f_r_1_wa c_r_2_wa f_r_2_wa c_r_3_wa f_r_3_wa
  replace x_r := x_r.chg h_w1 (by omega)
  have B_w1 := Below.chg_ Bg h_w1 (by omega) (by omega)
  have C_w1 := C0.then_same h_w1
  have s_w1 := h_w1.size
  replace hk := y
  clear y
  go_wp2_with fail
  refine (cBelow_c (n := 3) hk hb hm (by omega) (by omega)).mono ?_
  rintro e w2 ⟨a, rfl, ba, y, h_w2⟩
  replace x_r := x_r.chg h_w2 (by omega)
  have B_w2 := Below.chg_ B_w1 h_w2 (by omega) (by omega)
  have C_w2 := C_w1.then_same h_w2
  have s_w2 := h_w2.size
  replace hk := y
  clear y
  go_wp2_with fail
  refine (cBelow_c (n := 90) hk hb hm (by omega) (by omega)).mono ?_
  rintro e w3 ⟨b, rfl, bb, y, h_w3⟩
  replace x_r := x_r.chg h_w3 (by omega)
  have B_w3 := Below.chg_ B_w2 h_w3 (by omega) (by omega)
  have C_w3 := C_w2.then_same h_w3
  have s_w3 := h_w3.size
  replace hk := y
  clear y
  have c_r_0_w3 := x_r.cell (i := 0) rfl
  have f_r_0_w3 := x_r.frozen 0
  have c_r_1_w3 := x_r.cell (i := 1) rfl
  have f_r_1_w3 := x_r.frozen 1
  have c_r_2_w3 := x_r.cell (i := 2) rfl
  have f_r_2_w3 := x_r.frozen 2
  have c_r_3_w3 := x_r.cell (i := 3) rfl
  have f_r_3_w3 := x_r.frozen 3
  by_cases h1 : k = 1
  case pos =>
    subst h1
    obtain ⟨w4, e_w4, s_w4, h_w4, x_m⟩ := alloc_step w3 29 [.int .i64 2, .int .i64 a, .int .i64 (1 + b), .int .i64 0]
    have s_w4_1 := Nat.le_of_eq s_w4
    have s_w4_2 := Nat.le_of_eq s_w4.symm
    clear s_w4
    replace x_r := x_r.from_ h_w4
    replace hk := hk.below h_w4
    have B_w4 := B_w3.trans (h_w4.mono (Nat.le_trans hgle B_w3.size))
    have C_w4 := C_w3.then_below h_w4
    have i_w4_3 := x_m.same (i := 3) rfl
    have c_r_0_w4 := x_r.cell (i := 0) rfl
    have f_r_0_w4 := x_r.frozen 0
    have c_r_1_w4 := x_r.cell (i := 1) rfl
    have f_r_1_w4 := x_r.frozen 1
    have c_r_2_w4 := x_r.cell (i := 2) rfl
    have f_r_2_w4 := x_r.frozen 2
    have c_r_3_w4 := x_r.cell (i := 3) rfl
    have f_r_3_w4 := x_r.frozen 3
    have c_m_0_w4 := x_m.cell (i := 0) rfl
    have f_m_0_w4 := x_m.frozen 0
    have c_m_1_w4 := x_m.cell (i := 1) rfl
    have f_m_1_w4 := x_m.frozen 1
    have c_m_2_w4 := x_m.cell (i := 2) rfl
    have f_m_2_w4 := x_m.frozen 2
    have c_m_3_w4 := x_m.cell (i := 3) rfl
    have f_m_3_w4 := x_m.frozen 3
    go_wp2_with fail
    refine (cBelow_c (n := 3) hk hb hm (by omega) (by omega)).mono ?_
    rintro e w5 ⟨s, rfl, bs, y, h_w5⟩
    clear c_r_0_w3 f_r_0_w3 c_r_1_w3 f_r_1_w3 c_r_2_w3 f_r_2_w3 c_r_3_w3 f_r_3_w3 i_w4_3 c_r_0_w4 f_r_0_w4 c_r_1_w4 f_r_1_w4 c_r_2_w4 f_r_2_w4 c_r_3_w4 f_r_3_w4 c_m_0_w4 f_m_0_w4 c_m_1_w4 f_m_1_w4 c_m_2_w4 f_m_2_w4 c_m_3_w4 f_m_3_w4
    replace x_r := x_r.chg h_w5 (by omega)
    replace x_m := x_m.chg h_w5 (by omega)
    have B_w5 := Below.chg_ B_w4 h_w5 (by omega) (by omega)
    have C_w5 := C_w4.then_same h_w5
    have s_w5 := h_w5.size
    replace hk := y
    clear y
    have c_r_0_w5 := x_r.cell (i := 0) rfl
    have f_r_0_w5 := x_r.frozen 0
    have c_r_1_w5 := x_r.cell (i := 1) rfl
    have f_r_1_w5 := x_r.frozen 1
    have c_r_2_w5 := x_r.cell (i := 2) rfl
    have f_r_2_w5 := x_r.frozen 2
    have c_r_3_w5 := x_r.cell (i := 3) rfl
    have f_r_3_w5 := x_r.frozen 3
    have c_m_0_w5 := x_m.cell (i := 0) rfl
    have f_m_0_w5 := x_m.frozen 0
    have c_m_1_w5 := x_m.cell (i := 1) rfl
    have f_m_1_w5 := x_m.frozen 1
    have c_m_2_w5 := x_m.cell (i := 2) rfl
    have f_m_2_w5 := x_m.frozen 2
    have c_m_3_w5 := x_m.cell (i := 3) rfl
    have f_m_3_w5 := x_m.frozen 3
    obtain ⟨w6, e_w6, s_w6, h_w6, y⟩ := set_step x_m 3 (.int .i64 s)
    have s_w6_1 := Nat.le_of_eq s_w6
    have s_w6_2 := Nat.le_of_eq s_w6.symm
    clear s_w6
    replace x_r := x_r.chg h_w6 (by omega)
    replace hk := hk.chg h_w6 (by omega)
    have B_w6 := Below.chg_ B_w5 h_w6 (by omega) (by omega)
    have C_w6 := C_w5.then_new h_w6 (by omega)
    replace x_m : Vr w6 (w3.heap.size) 29 [.int .i64 2, .int .i64 a, .int .i64 (1 + b), .int .i64 s] := y
    clear y
    have c_r_0_w6 := x_r.cell (i := 0) rfl
    have f_r_0_w6 := x_r.frozen 0
    have c_r_1_w6 := x_r.cell (i := 1) rfl
    have f_r_1_w6 := x_r.frozen 1
    have c_r_2_w6 := x_r.cell (i := 2) rfl
    have f_r_2_w6 := x_r.frozen 2
    have c_r_3_w6 := x_r.cell (i := 3) rfl
    have f_r_3_w6 := x_r.frozen 3
    have c_m_0_w6 := x_m.cell (i := 0) rfl
    have f_m_0_w6 := x_m.frozen 0
    have c_m_1_w6 := x_m.cell (i := 1) rfl
    have f_m_1_w6 := x_m.frozen 1
    have c_m_2_w6 := x_m.cell (i := 2) rfl
    have f_m_2_w6 := x_m.frozen 2
    have c_m_3_w6 := x_m.cell (i := 3) rfl
    have f_m_3_w6 := x_m.frozen 3
    obtain ⟨w7, e_w7, s_w7, h_w7, y⟩ := store_step x_r [.int .i64 2, .int .i64 a, .int .i64 (1 + b), .int .i64 s] rfl
    replace e_w7 : ((((w6.setCell ⟨w.heap.size, 0, none⟩ (.int .i64 2)).setCell ⟨w.heap.size, 1, none⟩ (.int .i64 a)).setCell ⟨w.heap.size, 2, none⟩ (.int .i64 (1 + b))).setCell ⟨w.heap.size, 3, none⟩ (.int .i64 s)) = w7 := e_w7
    have s_w7_1 := Nat.le_of_eq s_w7
    have s_w7_2 := Nat.le_of_eq s_w7.symm
    clear s_w7
    replace x_m := x_m.chg h_w7 (by omega)
    replace hk := hk.chg h_w7 (by omega)
    have B_w7 := Below.chg_ B_w6 h_w7 (by omega) (by omega)
    have C_w7 := C_w6.then_new h_w7 (by omega)
    replace x_r : Vr w7 (w.heap.size) 29 [.int .i64 2, .int .i64 a, .int .i64 (1 + b), .int .i64 s] := y
    clear y
    have c_r_0_w7 := x_r.cell (i := 0) rfl
    have f_r_0_w7 := x_r.frozen 0
    have c_r_1_w7 := x_r.cell (i := 1) rfl
    have f_r_1_w7 := x_r.frozen 1
    have c_r_2_w7 := x_r.cell (i := 2) rfl
    have f_r_2_w7 := x_r.frozen 2
    have c_r_3_w7 := x_r.cell (i := 3) rfl
    have f_r_3_w7 := x_r.frozen 3
    go_wp2
    refine ret_cell (by rfl) (by rfl) x_r Try.underlying29 sz_msg (by rfl) ?_
    exact ⟨⟨2, a, (1 + b), s⟩, rfl, drawn_ok (by omega) (by omega) (by omega) (by omega), hk, C_w7⟩
  by_cases h3 : k = 3
  case pos =>
    subst h3
    obtain ⟨w4, e_w4, s_w4, h_w4, x_m⟩ := alloc_step w3 29 [.int .i64 4, .int .i64 a, .int .i64 (1 + b), .int .i64 0]
    have s_w4_1 := Nat.le_of_eq s_w4
    have s_w4_2 := Nat.le_of_eq s_w4.symm
    clear s_w4
    replace x_r := x_r.from_ h_w4
    replace hk := hk.below h_w4
    have B_w4 := B_w3.trans (h_w4.mono (Nat.le_trans hgle B_w3.size))
    have C_w4 := C_w3.then_below h_w4
    have i_w4_3 := x_m.same (i := 3) rfl
    have c_r_0_w4 := x_r.cell (i := 0) rfl
    have f_r_0_w4 := x_r.frozen 0
    have c_r_1_w4 := x_r.cell (i := 1) rfl
    have f_r_1_w4 := x_r.frozen 1
    have c_r_2_w4 := x_r.cell (i := 2) rfl
    have f_r_2_w4 := x_r.frozen 2
    have c_r_3_w4 := x_r.cell (i := 3) rfl
    have f_r_3_w4 := x_r.frozen 3
    have c_m_0_w4 := x_m.cell (i := 0) rfl
    have f_m_0_w4 := x_m.frozen 0
    have c_m_1_w4 := x_m.cell (i := 1) rfl
    have f_m_1_w4 := x_m.frozen 1
    have c_m_2_w4 := x_m.cell (i := 2) rfl
    have f_m_2_w4 := x_m.frozen 2
    have c_m_3_w4 := x_m.cell (i := 3) rfl
    have f_m_3_w4 := x_m.frozen 3
    go_wp2_with fail
    refine (cBelow_c (n := 4) hk hb hm (by omega) (by omega)).mono ?_
    rintro e w5 ⟨s, rfl, bs, y, h_w5⟩
    clear c_r_0_w3 f_r_0_w3 c_r_1_w3 f_r_1_w3 c_r_2_w3 f_r_2_w3 c_r_3_w3 f_r_3_w3 i_w4_3 c_r_0_w4 f_r_0_w4 c_r_1_w4 f_r_1_w4 c_r_2_w4 f_r_2_w4 c_r_3_w4 f_r_3_w4 c_m_0_w4 f_m_0_w4 c_m_1_w4 f_m_1_w4 c_m_2_w4 f_m_2_w4 c_m_3_w4 f_m_3_w4
    replace x_r := x_r.chg h_w5 (by omega)
    replace x_m := x_m.chg h_w5 (by omega)
    have B_w5 := Below.chg_ B_w4 h_w5 (by omega) (by omega)
    have C_w5 := C_w4.then_same h_w5
    have s_w5 := h_w5.size
    replace hk := y
    clear y
    have c_r_0_w5 := x_r.cell (i := 0) rfl
    have f_r_0_w5 := x_r.frozen 0
    have c_r_1_w5 := x_r.cell (i := 1) rfl
    have f_r_1_w5 := x_r.frozen 1
    have c_r_2_w5 := x_r.cell (i := 2) rfl
    have f_r_2_w5 := x_r.frozen 2
    have c_r_3_w5 := x_r.cell (i := 3) rfl
    have f_r_3_w5 := x_r.frozen 3
    have c_m_0_w5 := x_m.cell (i := 0) rfl
    have f_m_0_w5 := x_m.frozen 0
    have c_m_1_w5 := x_m.cell (i := 1) rfl
    have f_m_1_w5 := x_m.frozen 1
    have c_m_2_w5 := x_m.cell (i := 2) rfl
    have f_m_2_w5 := x_m.frozen 2
    have c_m_3_w5 := x_m.cell (i := 3) rfl
    have f_m_3_w5 := x_m.frozen 3
    obtain ⟨w6, e_w6, s_w6, h_w6, y⟩ := set_step x_m 2 (.int .i64 s)
    have s_w6_1 := Nat.le_of_eq s_w6
    have s_w6_2 := Nat.le_of_eq s_w6.symm
    clear s_w6
    replace x_r := x_r.chg h_w6 (by omega)
    replace hk := hk.chg h_w6 (by omega)
    have B_w6 := Below.chg_ B_w5 h_w6 (by omega) (by omega)
    have C_w6 := C_w5.then_new h_w6 (by omega)
    replace x_m : Vr w6 (w3.heap.size) 29 [.int .i64 4, .int .i64 a, .int .i64 s, .int .i64 0] := y
    clear y
    have c_r_0_w6 := x_r.cell (i := 0) rfl
    have f_r_0_w6 := x_r.frozen 0
    have c_r_1_w6 := x_r.cell (i := 1) rfl
    have f_r_1_w6 := x_r.frozen 1
    have c_r_2_w6 := x_r.cell (i := 2) rfl
    have f_r_2_w6 := x_r.frozen 2
    have c_r_3_w6 := x_r.cell (i := 3) rfl
    have f_r_3_w6 := x_r.frozen 3
    have c_m_0_w6 := x_m.cell (i := 0) rfl
    have f_m_0_w6 := x_m.frozen 0
    have c_m_1_w6 := x_m.cell (i := 1) rfl
    have f_m_1_w6 := x_m.frozen 1
    have c_m_2_w6 := x_m.cell (i := 2) rfl
    have f_m_2_w6 := x_m.frozen 2
    have c_m_3_w6 := x_m.cell (i := 3) rfl
    have f_m_3_w6 := x_m.frozen 3
    obtain ⟨w7, e_w7, s_w7, h_w7, y⟩ := store_step x_r [.int .i64 4, .int .i64 a, .int .i64 s, .int .i64 0] rfl
    replace e_w7 : ((((w6.setCell ⟨w.heap.size, 0, none⟩ (.int .i64 4)).setCell ⟨w.heap.size, 1, none⟩ (.int .i64 a)).setCell ⟨w.heap.size, 2, none⟩ (.int .i64 s)).setCell ⟨w.heap.size, 3, none⟩ (.int .i64 0)) = w7 := e_w7
    have s_w7_1 := Nat.le_of_eq s_w7
    have s_w7_2 := Nat.le_of_eq s_w7.symm
    clear s_w7
    replace x_m := x_m.chg h_w7 (by omega)
    replace hk := hk.chg h_w7 (by omega)
    have B_w7 := Below.chg_ B_w6 h_w7 (by omega) (by omega)
    have C_w7 := C_w6.then_new h_w7 (by omega)
    replace x_r : Vr w7 (w.heap.size) 29 [.int .i64 4, .int .i64 a, .int .i64 s, .int .i64 0] := y
    clear y
    have c_r_0_w7 := x_r.cell (i := 0) rfl
    have f_r_0_w7 := x_r.frozen 0
    have c_r_1_w7 := x_r.cell (i := 1) rfl
    have f_r_1_w7 := x_r.frozen 1
    have c_r_2_w7 := x_r.cell (i := 2) rfl
    have f_r_2_w7 := x_r.frozen 2
    have c_r_3_w7 := x_r.cell (i := 3) rfl
    have f_r_3_w7 := x_r.frozen 3
    go_wp2
    refine ret_cell (by rfl) (by rfl) x_r Try.underlying29 sz_msg (by rfl) ?_
    exact ⟨⟨4, a, s, 0⟩, rfl, drawn_ok (by omega) (by omega) (by omega) (by omega), hk, C_w7⟩
  have i2 : ((1 + k : Int) == 2) = false := by simp; omega
  have i4 : ((1 + k : Int) == 4) = false := by simp; omega
  obtain ⟨w4, e_w4, s_w4, h_w4, x_m⟩ := alloc_step w3 29 [.int .i64 (1 + k), .int .i64 a, .int .i64 (1 + b), .int .i64 0]
  have s_w4_1 := Nat.le_of_eq s_w4
  have s_w4_2 := Nat.le_of_eq s_w4.symm
  clear s_w4
  replace x_r := x_r.from_ h_w4
  replace hk := hk.below h_w4
  have B_w4 := B_w3.trans (h_w4.mono (Nat.le_trans hgle B_w3.size))
  have C_w4 := C_w3.then_below h_w4
  have i_w4_3 := x_m.same (i := 3) rfl
  have c_r_0_w4 := x_r.cell (i := 0) rfl
  have f_r_0_w4 := x_r.frozen 0
  have c_r_1_w4 := x_r.cell (i := 1) rfl
  have f_r_1_w4 := x_r.frozen 1
  have c_r_2_w4 := x_r.cell (i := 2) rfl
  have f_r_2_w4 := x_r.frozen 2
  have c_r_3_w4 := x_r.cell (i := 3) rfl
  have f_r_3_w4 := x_r.frozen 3
  have c_m_0_w4 := x_m.cell (i := 0) rfl
  have f_m_0_w4 := x_m.frozen 0
  have c_m_1_w4 := x_m.cell (i := 1) rfl
  have f_m_1_w4 := x_m.frozen 1
  have c_m_2_w4 := x_m.cell (i := 2) rfl
  have f_m_2_w4 := x_m.frozen 2
  have c_m_3_w4 := x_m.cell (i := 3) rfl
  have f_m_3_w4 := x_m.frozen 3
  obtain ⟨w5, e_w5, s_w5, h_w5, y⟩ := store_step x_r [.int .i64 (1 + k), .int .i64 a, .int .i64 (1 + b), .int .i64 0] rfl
  replace e_w5 : ((((w4.setCell ⟨w.heap.size, 0, none⟩ (.int .i64 (1 + k))).setCell ⟨w.heap.size, 1, none⟩ (.int .i64 a)).setCell ⟨w.heap.size, 2, none⟩ (.int .i64 (1 + b))).setCell ⟨w.heap.size, 3, none⟩ (.int .i64 0)) = w5 := e_w5
  have s_w5_1 := Nat.le_of_eq s_w5
  have s_w5_2 := Nat.le_of_eq s_w5.symm
  clear s_w5
  replace x_m := x_m.chg h_w5 (by omega)
  replace hk := hk.chg h_w5 (by omega)
  have B_w5 := Below.chg_ B_w4 h_w5 (by omega) (by omega)
  have C_w5 := C_w4.then_new h_w5 (by omega)
  replace x_r : Vr w5 (w.heap.size) 29 [.int .i64 (1 + k), .int .i64 a, .int .i64 (1 + b), .int .i64 0] := y
  clear y
  have c_r_0_w5 := x_r.cell (i := 0) rfl
  have f_r_0_w5 := x_r.frozen 0
  have c_r_1_w5 := x_r.cell (i := 1) rfl
  have f_r_1_w5 := x_r.frozen 1
  have c_r_2_w5 := x_r.cell (i := 2) rfl
  have f_r_2_w5 := x_r.frozen 2
  have c_r_3_w5 := x_r.cell (i := 3) rfl
  have f_r_3_w5 := x_r.frozen 3
  go_wp2
  refine ret_cell (by rfl) (by rfl) x_r Try.underlying29 sz_msg (by rfl) ?_
  exact ⟨⟨(1 + k), a, (1 + b), 0⟩, rfl, drawn_ok (by omega) (by omega) (by omega) (by omega), hk, C_w5⟩

/-- all valid -/
def AllOk (l : List MMsg) : Prop := ∀ m ∈ l, msgOkB m = true
theorem AllOk.snoc {l : List MMsg} {m : MMsg} (h : AllOk l) (hm : msgOkB m = true) : AllOk (l ++ [m]) := by
  intro y hy
  rcases List.mem_append.1 hy with h1 | h1
  · exact h y h1
  · simp at h1; rw [h1]; exact hm

set_option maxRecDepth 100000 in
set_option maxHeartbeats 4000000 in
theorem makeMsgs_c {w : World} {A : Option Addr} {c : Nat} {zs : List Int} (hr : Rd .u8 w w.heap.size A zs) (hb : Bytes zs) (hm : zs.length ≤ 1048576) :
    Calls Try.prog 13 #[.slice A zs.length c] w fun e w' => ∃ v l, e = .returned v ∧ OV msgSL w' w.heap.size w'.heap.size v l ∧ AllOk l ∧ l.length ≤ 7 ∧ Below w.heap.size w w' := by
  obtain ⟨i0, hi, hz0, hz1, hz2⟩ := info_parts Try.info_msg
  go_enter Try.func13, Try.ntmps13
  go_wp2_with fail
  refine (cNew_c hr hb hm).mono ?_
  rintro e w1 ⟨rfl, k1, b1⟩
  have l1 := k1.lt
  have oL := ov_msgs_lit w1
  obtain ⟨w2, e2, s2, h2, -⟩ := alloc_step w1 29 []
  have e2' : w1.alloc (.cells #[] 29) = w2 := e2
  rw [e2'] at oL
  have k2 := k1.below h2
  have b2 := b1.trans (h2.mono b1.size)
  have s2_1 := Nat.le_of_eq s2
  have s2_2 := Nat.le_of_eq s2.symm
  clear s2 e2'
  go_wp2_with fail
  refine (cBelow_c (n := 8) k2 hb (by omega) (by omega) (by omega)).mono ?_
  rintro e w3 ⟨K, rfl, bK, k3, c3⟩
  have b3 := Below.chg_ b2 c3 (by omega) (by omega)
  have s3 := c3.size
  replace oL := oL.chg c3 (by omega)
  obtain ⟨N, rfl⟩ : ∃ N : Nat, K = (N : Int) := ⟨K.toNat, by omega⟩
  go_wp2
  go_loopw [4, 5] (fun sl sk wr => ∃ (m : Nat) (l : List MMsg), sk = .int .i64 m ∧ OV msgSL wr (w.heap.size + 1) wr.heap.size sl l ∧ AllOk l ∧ l.length + m ≤ 7 ∧ CurOk wr w.heap.size A c zs ∧ Below w.heap.size w wr ∧ w.heap.size + 1 ≤ wr.heap.size) (fun _ sk _ => (intOf sk).toNat)
  case atStart => exact ⟨N, [], rfl, oL.widen (by omega) (by omega) (Nat.le_refl _), (fun x hx => by simp at hx), by simp; omega, k3, b3, by omega⟩
  case round =>
    obtain ⟨m, l, rfl, hown, hall, hlen, hkr, hbr, hszr⟩ := hrel
    by_cases hm0 : 0 < m
    · have i1 : (0 : Int) < (m : Int) := by omega
      go_wp2_with fail
      refine (cMsg_c hkr hb (by omega)).mono ?_
      rintro e w4 ⟨d, rfl, hd, k4, c4⟩
      have b4 := Below.chg_ hbr c4 (by omega) (by omega)
      have s4 := c4.size
      have o4 := hown.chg c4 (by omega)
      obtain ⟨w5, e5, s5, h5, x5⟩ := alloc_step w4 29 [.int .i64 d.Kind, .int .i64 d.Acct, .int .i64 d.Amt, .int .i64 d.Src]
      have s5_1 := Nat.le_of_eq s5
      have s5_2 := Nat.le_of_eq s5.symm
      clear s5
      have k5 := k4.below h5
      have b5 := b4.trans (h5.mono b4.size)
      have o5 := o4.below h5
      have hRV := x5.rdV
      obtain ⟨A5, c5, rfl, -, -, -⟩ := rv_slice o5.rd
      obtain ⟨ys, R, hback⟩ := OV.app_grow own_msg_nil o5 (cs := [.int .i64 d.Kind, .int .i64 d.Acct, .int .i64 d.Amt, .int .i64 d.Src]) rfl (fun w => own_msg w d) (by omega)
      go_wp2_with (at_builtin; refine wpl_appN _ rfl (.tmp 15) (.tmp 18) 23 rfl 0 4 29 i0 (.agg #[.int .i64 0, .int .i64 0, .int .i64 0, .int .i64 0]) 32 Try.underlying23 hi hz0 hz1 hz2 rfl (by decide) _ l.length ys rfl R _ _ _ 1 [.int .i64 d.Kind, .int .i64 d.Acct, .int .i64 d.Amt, .int .i64 d.Src] rfl rfl hRV ?d0 ?d1 (by decide) (Nat.zero_le _) ?_)
      case d0 => intro u hu; simp only [List.mem_cons, List.not_mem_nil, or_false] at hu; rcases hu with rfl | rfl | rfl | rfl <;> rfl
      case d1 => omega
      intro v6 w6 ho6 hg6 hat6
      obtain ⟨c6, o6⟩ := hback v6 w6 ho6 hg6 hat6
      clear hback R ho6 hg6 hat6 hRV
      have k6 := k5.chg c6 (by omega)
      have b6 := Below.chg_ b5 c6 (by omega) (by omega)
      have s6 := c6.size
      go_wp2
      go_roundw
      case rel => exact ⟨m - 1, l ++ [d], by go_num, o6, hall.snoc hd, by simp; omega, k6, b6, by omega⟩
      case measure => simp [intOf]; omega
    · have hm1 : m = 0 := by omega
      subst hm1
      go_wp2
      go_ret
      exact ⟨_, l, rfl, hown.widen (by omega) (Nat.le_refl _) (Nat.le_refl _), hall, by omega, hbr⟩

end Go.Proofs.Ytpaodpkgpajboaa
