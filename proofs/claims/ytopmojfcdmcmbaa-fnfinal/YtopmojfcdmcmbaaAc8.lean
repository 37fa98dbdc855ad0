/- An account at a node: the contract of impl.putBefore[int]. -/
import Derived.Test.YtopmojfcdmcmbaaAc7
namespace Go.Proofs.Ytopmojfcdmcmbaa
open Go.RowKit
set_option linter.unusedVariables false

theorem rs_take {w : World} {A : Option Addr} {c p : Nat} {l : List Int} (h : RS .i64 w (.slice A l.length c) l) (hp : p ≤ l.length) (X : Option Addr) (hX : 0 < p → X = A) : RS .i64 w (.slice X p c) (l.take p) := by
  have hr := h.rd_
  obtain ⟨h1, h2⟩ := h.le_
  have hl : (l.take p).length = p := by rw [List.length_take]; omega
  refine ⟨X, c, by rw [hl], by omega, h2, fun h0 => ?_⟩
  obtain ⟨b, off, rfl, hb, hc⟩ := hr (by omega)
  refine ⟨b, off, hX (by omega), hb, fun j hj => ?_⟩
  rw [hc j (by omega)]
  rw [List.getD_eq_getElem?_getD, List.getD_eq_getElem?_getD, List.getElem?_take, if_pos (by omega)]
theorem rs_drop {w : World} {A : Option Addr} {c p : Nat} {l : List Int} (h : RS .i64 w (.slice A l.length c) l) (hp : p ≤ l.length) (X : Option Addr) (hX : ∀ b off, p < l.length → A = some ⟨b, off, none⟩ → X = some ⟨b, off + p, none⟩) : RS .i64 w (.slice X (l.length - p) (c - p)) (l.drop p) := by
  have hr := h.rd_
  obtain ⟨h1, h2⟩ := h.le_
  unfold maxLen at h2
  have hl : (l.drop p).length = l.length - p := by rw [List.length_drop]
  refine ⟨X, c - p, by rw [hl], by omega, by unfold maxLen; omega, fun h0 => ?_⟩
  obtain ⟨b, off, rfl, hb, hc⟩ := hr (by omega)
  refine ⟨b, off + p, hX b off (by omega) rfl, hb, fun j hj => ?_⟩
  rw [show off + p + j = off + (p + j) by omega, hc (p + j) (by omega)]
  rw [List.getD_eq_getElem?_getD, List.getD_eq_getElem?_getD, List.getElem?_drop]

theorem Vr.rd1 {w : World} {b : Nat} {t : TypeId} {x : Int} (h : Vr w b t [.int .i64 x]) : Rd .i64 w w.heap.size (some ⟨b, 0, none⟩) [x] := fun _ => by
  refine ⟨b, 0, rfl, h.lt, fun j hj => ?_⟩
  have : j = 0 := by simp at hj; omega
  subst this
  exact h.cell rfl

set_option maxRecDepth 100000 in
set_option maxHeartbeats 2000000 in
theorem iPutI_c {w : World} {v : Value} {l : List Int} {x : Int} {B : Nat} (h : RS .i64 w v l) (hm : l.length ≤ 16777216) (hc : w.cell? ⟨B, 0, none⟩ = some (.int .i64 x)) :
    Calls Try.prog 47 #[v, .int .i64 x, .func (.func 48) #[] #[.pointer (some ⟨B, 0, none⟩)]] w (NewS .i64 3 w (insF l x)) := by
  have h0 := h
  obtain ⟨A, c, rfl, h1, h2, hr⟩ := h
  have hM := h2
  unfold maxLen at h2
  have HP := Lib.hid (insF_place l x)
  have hple := place_le (p := leI x) l
  obtain ⟨p, hp⟩ : ∃ p, placeP (leI x) l = p := ⟨_, rfl⟩
  have HI : Hid (idxP (leI x) l = if p = l.length then -1 else (p : Int)) := by show _ = _; unfold idxP; rw [hp]
  rw [hp] at hple
  have HPP := Lib.hid hp
  clear hp
  -- the two parts of l
  obtain ⟨X0, hv0, q0⟩ : ∃ X0, (∀ W, (Instr.slice 24 (.slice A l.length c) none (some (.int .i64 p)) none).run Try.prog W = .ok (.slice X0 p c) W) ∧ RS .i64 w (.slice X0 p c) (l.take p) := by
    refine ⟨if c = 0 then A else A.map (·.add (0 * 1)), fun W => ?_, rs_take h0 hple _ (fun hp0 => ?_)⟩
    · rw [run_slice_h W 24 A l.length c (by kernel_rfl) .i64 p (by omega) (by omega)]
      rw [show Try.prog.elem 24 = 3 by kernel_rfl, Try.sizeOf3]
      simp [Result.andThen, sliced]
    · rw [if_neg (by omega)]
      cases A <;> simp [Addr.add]
  obtain ⟨X2, hv2, q2⟩ : ∃ X2, (∀ W, (Instr.slice 24 (.slice A l.length c) (some (.int .i64 p)) none none).run Try.prog W = .ok (.slice X2 (l.length - p) (c - p)) W) ∧ RS .i64 w (.slice X2 (l.length - p) (c - p)) (l.drop p) := by
    refine ⟨if c = p then A else A.map (·.add (p * 1)), fun W => ?_, rs_drop h0 hple _ (fun b off hlt hA => ?_)⟩
    · rw [run_slice_l W 24 A l.length c (by kernel_rfl) .i64 p (by omega) (by omega)]
      rw [show Try.prog.elem 24 = 3 by kernel_rfl, Try.sizeOf3]
      simp [Result.andThen, sliced]
    · rw [if_neg (by omega), hA]
      simp [add_mk]
  have l0 : (l.take p).length + 1 + (l.drop p).length ≤ 16777217 := by simp; omega
  have hgo : ∀ W, Below w.heap.size w W → Calls Try.prog 77 #[.slice (some ⟨W.heap.size + 1, 0, none⟩) 3 3] ((W.alloc (.cells #[.int .i64 x] 3)).alloc (.cells #[.slice X0 p c, .slice (some ⟨W.heap.size, 0, none⟩) 1 1, .slice X2 (l.length - p) (c - p)] 24)) fun e w' => ∃ v, e = .returned v ∧ OS .i64 3 w' w.heap.size w'.heap.size v (insF l x) ∧ Below w.heap.size w w' := fun W hW => by
    obtain ⟨w1, e1, s1, b1, x1⟩ := alloc_step W 3 [.int .i64 x]
    obtain ⟨w2, e2, s2, b2, x2⟩ := alloc_step w1 24 [.slice X0 p c, .slice (some ⟨W.heap.size, 0, none⟩) 1 1, .slice X2 (l.length - p) (c - p)]
    rw [show W.alloc (.cells #[.int .i64 x] 3) = w1 from e1, show w1.alloc (.cells #[.slice X0 p c, .slice (some ⟨W.heap.size, 0, none⟩) 1 1, .slice X2 (l.length - p) (c - p)] 24) = w2 from e2]
    have bb := hW.trans (b1.mono hW.size)
    have bc := bb.trans (b2.mono bb.size)
    rw [s1] at x2
    have qx : RS .i64 w2 (.slice (some ⟨W.heap.size, 0, none⟩) 1 1) [x] := ⟨_, 1, rfl, Nat.le_refl _, by unfold maxLen; omega, (x1.from_ b2).rd1⟩
    refine (iConcatI_c x2 (q0.from_ bc) qx (q2.from_ bc) l0 (Nat.le_refl _)).mono ?_
    rintro e w3 ⟨v3, rfl, o3, b3⟩
    rw [HP.out, HPP.out]
    exact ⟨v3, rfl, o3.widen bc.size (Nat.le_refl _) (Nat.le_refl _), bc.trans (b3.mono bc.size)⟩
  clear q0 q2 l0 hM hr
  by_cases hpl : p = l.length
  case pos =>
    have HI2 : Hid (idxP (leI x) l = -1) := by show _ = _; rw [HI.out, if_pos hpl]
    rw [hpl] at hv0
    rw [hpl, Nat.sub_self] at hv2
    rw [hpl, Nat.sub_self] at hgo
    clear hpl
    go_enter Try.func47, Try.ntmps47
    go_wp2_with fail
    refine (iIdxI_c h0 hc).mono ?_
    rintro e w' ⟨rfl, rfl⟩
    rw [HI2.out]
    go_wp2_with fail
    go_region_with (go_at_call 77; refine (hgo w.drew (Below.refl _ _).drew).mono ?_; rintro e w9 ⟨v9, rfl, o9, b9⟩)
    go_wp2
    go_ret
    exact ⟨_, rfl, o9, b9⟩
  have HI2 : Hid (idxP (leI x) l = (p : Int)) := by show _ = _; rw [HI.out, if_neg hpl]
  have hp0 : decide ((p : Int) < 0) = false := decide_eq_false (by omega)
  clear hpl
  go_enter Try.func47, Try.ntmps47
  go_wp2_with fail
  refine (iIdxI_c h0 hc).mono ?_
  rintro e w' ⟨rfl, rfl⟩
  rw [HI2.out]
  go_wp2_with fail
  go_region_with (go_at_call 77; refine (hgo w.drew (Below.refl _ _).drew).mono ?_; rintro e w9 ⟨v9, rfl, o9, b9⟩)
  go_wp2
  go_ret
  exact ⟨_, rfl, o9, b9⟩

end Go.Proofs.Ytopmojfcdmcmbaa
