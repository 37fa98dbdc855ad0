/- Boxes: the contract of spec.l05Copy. Laid by a program of ours (src/box4.py). -/
import Derived.Test.YtpaodpkgpajboaaBox3
import Derived.Test.YtpaodpkgpajboaaAppN
namespace Go.Proofs.Ytpaodpkgpajboaa
open Go.RowKit
set_option linter.unusedVariables false

theorem msg_own_of_rd (w : World) (B : Nat) (cs : List Value) (x : MMsg) (h : msgL.rd w B cs x) (w' : World) : msgL.own w' [] cs x := by
  obtain rfl := cs_msg h
  exact own_msg w' x
theorem msg_one {w : World} {B : Nat} {ys : List MMsg} {us : List Value} (h : ∀ u ∈ us, ∃ (j : Nat) (x : MMsg) (cs : List Value), ys[j]? = some x ∧ msgL.rd w B cs x ∧ u ∈ cs) : ∀ u ∈ us, u.oneCell' = true := by
  intro u hu
  obtain ⟨j, x, cs, _, hr, hm⟩ := h u hu
  obtain rfl := cs_msg hr
  simp only [List.mem_cons, List.not_mem_nil, or_false] at hm
  rcases hm with rfl | rfl | rfl | rfl <;> rfl
/-- an empty slice of messages that the walk has just laid -/
theorem ov_msgs_lit (w : World) : OV msgSL (w.alloc (.cells #[] 29)) w.heap.size (w.heap.size + 1) (.slice (some ⟨w.heap.size, 0, none⟩) 0 0) [] := by
  have h := World.ownsRow_lit (base := 0) (e := 29) (size := 4) w #[] 0 (Nat.zero_le _) (by unfold maxLen; omega) (by simp)
  refine ⟨[_], [w.heap.size], rfl, ⟨_, rfl, fun _ => [], fun _ => [], by simpa [flat] using h, fun j x hx => by simp at hx, by simp [Value.ownBlock, flat]⟩, by simp, ?_, by simp⟩
  intro j hj
  obtain rfl : j = w.heap.size := by simpa using hj
  omega

set_option maxHeartbeats 2000000 in
theorem sOutCopy_c {w : World} {v : Value} {o : MOut} (h : RV outL w v o) (hm : o.List.length ≤ 16777216) : Calls Try.prog 55 #[v] w (NewV outL w o) := by
  obtain ⟨A, c, rfl, hr0⟩ := rv_out h
  obtain ⟨A', c', he, hc1, hc2, hr⟩ := rv_slice hr0
  simp only [Value.slice.injEq, true_and] at he
  obtain ⟨rfl, rfl⟩ := he
  clear h
  obtain ⟨i0, hi, hz0, hz1, hz2⟩ := info_parts Try.info_msg
  obtain ⟨wa, hwa, B0, sa, x_a, x_r⟩ := frame2 w 26 [.int .i64 o.Next, .slice A o.List.length c] 26 [.int .i64 0, .slice none 0 0]
  have sa_1 := Nat.le_of_eq sa
  have sa_2 := Nat.le_of_eq sa.symm
  clear sa
  have c_a_0_wa := x_a.cell (i := 0) rfl
  have f_a_0_wa := x_a.frozen 0
  have c_a_1_wa := x_a.cell (i := 1) rfl
  have f_a_1_wa := x_a.frozen 1
  have c_r_0_wa := x_r.cell (i := 0) rfl
  have f_r_0_wa := x_r.frozen 0
  have c_r_1_wa := x_r.cell (i := 1) rfl
  have f_r_1_wa := x_r.frozen 1
  have hO := ov_msgs_lit wa.drew
  have hbl : Below w.heap.size w (wa.drew.alloc (.cells #[] 29)) := B0.drew.alloc B0.drew.size _
  obtain ⟨zs, us, R, hul, hrd, hus, hend⟩ := OV.app_all own_msg_nil msg_own_of_rd hO (hr.below hbl) (by show wa.heap.size ≤ _; simp)
  have h1c := msg_one hus
  clear hus
  go_enter Try.func55, Try.ntmps55
  go_wp2_with fail
  go_region_held3 (fun w' => w'.cell? ⟨w.heap.size, 0, none⟩ = some (.int .i64 o.Next) ∧ w'.cell? ⟨w.heap.size, 1, none⟩ = some (.slice A o.List.length c))
    (first | exact ⟨c_a_0_wa, c_a_1_wa⟩ | exact ⟨(x_a.alloc _).cell (i := 0) rfl, (x_a.alloc _).cell (i := 1) rfl⟩ | exact ⟨qA0, qA1⟩ | exact ⟨(cell_sa (b := w.heap.size + 1) (p := ⟨w.heap.size, 0, none⟩) (by simp) [.int .i64 o.Next, .slice A3 o.List.length k3] 0 w_A).trans qA0, (cell_sa (b := w.heap.size + 1) (p := ⟨w.heap.size, 1, none⟩) (by simp) [.int .i64 o.Next, .slice A3 o.List.length k3] 0 w_A).trans qA1⟩)
    (first | (refine step_appN (by rfl) (.tmp 5) (.tmp 7) 23 (by rfl) 0 4 29 i0 (.agg #[.int .i64 0, .int .i64 0, .int .i64 0, .int .i64 0]) 32 Try.underlying23 hi hz0 hz1 hz2 (by rfl) (by decide) (.slice (some ⟨wa.heap.size, 0, none⟩) 0 0) 0 zs (by rfl) R w.heap.size A c o.List.length us (by rfl) hul hrd h1c (by omega) (by decide) (Nat.zero_le _) ?_; intro v2 w_A ho2 hg2 hat2; obtain ⟨o2, hb2⟩ := hend v2 w_A (by simpa using ho2) hg2 hat2; rw [List.nil_append] at o2; obtain ⟨A3, k3, rfl, -, -, -⟩ := rv_slice o2.rd; have hbA : Below wa.heap.size wa w_A := ((Below.refl wa.heap.size wa).drew.alloc (Nat.le_refl _) _).trans hb2; have x_aA := x_a.from_ hbA; have x_rA := x_r.from_ hbA; have qA0 := x_aA.cell (i := 0) rfl; have qA1 := x_aA.cell (i := 1) rfl; have r0 := x_rA.cell (i := 0) rfl; have r1 := x_rA.cell (i := 1) rfl; have s0 := x_rA.frozen 0; have s1 := x_rA.frozen 1))
  obtain ⟨w4, e4, s4, h4, x_r4⟩ := store_step x_rA [.int .i64 o.Next, .slice A3 o.List.length k3] rfl
  replace e4 : (w_A.setCell ⟨w.heap.size + 1, 0, none⟩ (.int .i64 o.Next)).setCell ⟨w.heap.size + 1, 1, none⟩ (.slice A3 o.List.length k3) = w4 := e4
  rw [e4]
  have dz : wa.drew.heap.size = wa.heap.size := rfl
  have sA := hbA.size
  rw [dz] at o2
  have o3 := o2.chg h4 (by omega)
  have B4 := Below.chg_ (B0.trans (hbA.mono B0.size)) h4 (by omega) (by omega)
  go_wp2
  refine ret_cell (by rfl) (by rfl) x_r4 Try.underlying26 sz_out (by rfl) ?_
  exact ⟨_, rfl, ov_out (d := o) o3 (by omega), B4⟩

end Go.Proofs.Ytpaodpkgpajboaa
