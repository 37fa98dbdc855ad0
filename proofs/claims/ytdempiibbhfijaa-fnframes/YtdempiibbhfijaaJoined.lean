/- Contracts of spec.l01Copy and impl.joined: new rows of bytes. -/
import Derived.Test.YtdempiibbhfijaaProg
import Derived.Test.YtdempiibbhfijaaSBytes
import Derived.Test.YtdempiibbhfijaaBytes
import Derived.Laws.CopyOwn
namespace Go.Proofs.Ytdempiibbhfijaa
open Go.RowKit
set_option linter.unusedVariables false

set_option maxHeartbeats 400000 in
theorem sCopy_c {w : World} {v : Value} {zs : List Int} (h : RS .u8 w v zs) (hm : zs.length ≤ 1073741824) : Calls Try.prog 41 #[v] w (NewS .u8 5 w zs) := by
  obtain ⟨A, c, rfl, hc1, hc2, hr⟩ := h
  obtain ⟨i0, hi, hz0, hz1, hz2⟩ := info_parts Try.info_u8
  have hr2 : Rd .u8 (w.alloc (.cells #[] 5)) w.heap.size A zs := hr.below ((Below.refl _ _).alloc (Nat.le_refl _) _)
  have ho := own_none .u8 w w.heap.size 5 (Nat.le_refl _)
  go_enter Try.func41, Try.ntmps41
  go_wp2_with (at_builtin; refine wpl_appI _ .u8 rfl (.tmp 3) (.tmp 4) 22 rfl w.heap.size 5 i0 1 Try.underlying22 hi hz0 hz1 hz2 _ [] rfl ho _ A c zs.length zs rfl rfl hr2 ?d1 (by omega) ?d2 ?_)
  case d1 => simp; omega
  case d2 => simp
  intro v2 w2 ho2 hg2 hat2
  have hb : Below w.heap.size w w2 := grown_below ((Below.refl _ _).alloc (Nat.le_refl _) _) ho hg2 (Nat.le_refl _) (by simp)
  go_wp2
  go_ret
  exact ⟨_, rfl, OS.mk_ (by simpa using ho2), hb⟩

theorem own_block {k : IntKind} {w : World} {base : Nat} {e : TypeId} {g : Nat} {zs : List Int} (h : Own k w base e (.slice (some ⟨g, 0, none⟩) zs.length zs.length) zs) : w.heap[g]? = some (.cells (zs.map (Value.int k)).toArray e (0, 0)) := by
  rcases h.2 with ⟨h', _⟩ | ⟨g', cap, cur, hv, _, hh, _, _, hs, ht⟩
  · simp at h'
  · simp only [Value.slice.injEq, Option.some.injEq, Addr.mk.injEq] at hv
    obtain ⟨⟨rfl, _⟩, _, rfl⟩ := hv
    rw [hh, ← ht, List.take_of_length_le (by simp [hs])]
theorem own_of_block {k : IntKind} {w : World} {base : Nat} {e : TypeId} {g : Nat} {zs : List Int} (h : w.heap[g]? = some (.cells (zs.map (Value.int k)).toArray e (0, 0))) (hb : base ≤ g) (hm : zs.length ≤ maxLen) :
    Own k w base e (.slice (some ⟨g, 0, none⟩) zs.length zs.length) zs :=
  ⟨by simp, .inr ⟨g, zs.length, _, rfl, hb, h, Nat.le_refl _, hm, by simp, by rw [List.take_of_length_le (by simp)]⟩⟩

theorem splice2 {α : Type} (Z X Y : List α) (k : Nat) (hk : X.length = k) (hZ : Z.length = k + Y.length) : splice (splice Z 0 X) k Y = X ++ Y := by
  subst hk
  have e1 : splice Z 0 X = X ++ Z.drop X.length := by simp [splice]
  rw [e1]
  unfold splice
  rw [show (X ++ Z.drop X.length).take X.length = X by simp, show (X ++ Z.drop X.length).drop (X.length + Y.length) = [] by apply List.drop_eq_nil_of_le; simp; omega]
  simp

theorem run_copy_into {P : Program} (w : World) (T ty e : TypeId) (hu : P.underlying T = some (.slice e)) (hsz : (P.info? e).map (·.size) = some 1) (g off : Nat) (dp sp : Option Addr) (n dc sc : Nat) (cur : List Value) (t : TypeId)
    (hg : w.heap[g]? = some (.cells cur.toArray t (0, 0))) (cs : List Value) (hn : cs.length = n) (hpos : 0 < cs.length → dp = some ⟨g, off, none⟩ ∧ ∃ ad, sp = some ad ∧ ∀ j v, cs[j]? = some v → w.cell? (ad.add j) = some v)
    (hfit : off + cs.length ≤ cur.length) (h1 : ∀ v ∈ cs, v.oneCell' = true) :
    ∃ w', (Builtin.copy_ #[T, T] ty #[.slice dp n dc, .slice sp n sc]).run P w = .ok (goInt n) w' ∧ w'.heap[g]? = some (.cells (splice cur off cs).toArray t (0, 0)) ∧ ∀ B w0, Below B w0 w → B ≤ g → Below B w0 w' := by
  by_cases h0 : cs.length = 0
  · obtain rfl : cs = [] := List.eq_nil_of_length_eq_zero h0
    subst hn
    exact ⟨w, run_copy_none (P := P) w T T ty e dp sp _ dc _ sc hu hsz (by simp), by simpa [splice] using hg, fun _ _ h _ => h⟩
  · obtain ⟨rfl, ad, rfl, hsrc⟩ := hpos (by omega)
    subst hn
    refine ⟨_, run_copy_row (P := P) w T T ty e g off _ dc ad _ sc cur.toArray t cs hu hsz hg (by simp) hsrc (by simpa using hfit) h1, ?_, fun B w0 hb hBg => below_setRow hb hBg _⟩
    simpa [splice] using setRow_heap w g _ _ t _ hg

set_option maxHeartbeats 1000000 in
theorem iJoined_pos {w : World} {v v' : Value} {xs ys : List Int} (h : RS .u8 w v xs) (h' : RS .u8 w v' ys) (hm : xs.length ≤ 1073741824) (hm' : ys.length ≤ 1073741824) (hpos : 0 < ys.length) :
    Calls Try.prog 35 #[v, v'] w (NewS .u8 5 w (xs ++ ys)) := by
  obtain ⟨A, c, rfl, hc1, hc2, hr⟩ := h
  obtain ⟨A', c', rfl, hc1', hc2', hr'⟩ := h'
  obtain ⟨i0, hi, hz0, hz1, hz2⟩ := info_parts Try.info_u8
  obtain ⟨N, hN⟩ : ∃ N, N = xs.length + ys.length := ⟨_, rfl⟩
  have hNi : (xs.length : Int) + (ys.length : Int) = (N : Int) := by omega
  have g1 : (xs.length : Int) ≤ (N : Int) := by omega
  have hN0 : N ≤ 2147483648 := by omega
  have HN := Lib.hid hN
  clear hN
  obtain ⟨X, hX⟩ : ∃ X, xs.map (Value.int .u8) = X := ⟨_, rfl⟩
  obtain ⟨Y, hY⟩ : ∃ Y, ys.map (Value.int .u8) = Y := ⟨_, rfl⟩
  obtain ⟨Z, hZ⟩ : ∃ Z, (List.replicate N (0 : Int)).map (Value.int .u8) = Z := ⟨_, rfl⟩
  have lX : X.length = xs.length := by rw [← hX]; simp
  have lY : Y.length = ys.length := by rw [← hY]; simp
  have lZ : Z.length = N := by rw [← hZ]; simp
  have oX : ∀ v ∈ X, v.oneCell' = true := by intro v hv; rw [← hX] at hv; obtain ⟨n, _, rfl⟩ := List.mem_map.1 hv; rfl
  have oY : ∀ v ∈ Y, v.oneCell' = true := by intro v hv; rw [← hY] at hv; obtain ⟨n, _, rfl⟩ := List.mem_map.1 hv; rfl
  have HX := Lib.hid hX
  have HY := Lib.hid hY
  have HZ := Lib.hid hZ
  have rX : ∀ w2, Below w.heap.size w w2 → 0 < X.length → ∃ ad, A = some ad ∧ ∀ j v, X[j]? = some v → w2.cell? (ad.add j) = some v := by
    intro w2 hb hp
    obtain ⟨b, off, rfl, _, hc⟩ := (hr.below hb).toV (by rw [List.length_map]; omega)
    exact ⟨_, rfl, fun j v hv => by rw [add_mk]; exact hc j v (by rw [hX]; exact hv)⟩
  have rY : ∀ w2, Below w.heap.size w w2 → 0 < Y.length → ∃ ad, A' = some ad ∧ ∀ j v, Y[j]? = some v → w2.cell? (ad.add j) = some v := by
    intro w2 hb hp
    obtain ⟨b, off, rfl, _, hc⟩ := (hr'.below hb).toV (by rw [List.length_map]; omega)
    exact ⟨_, rfl, fun j v hv => by rw [add_mk]; exact hc j v (by rw [hY]; exact hv)⟩
  clear hX hY hZ
  go_enter Try.func35, Try.ntmps35
  go_wp2_with (at_make; refine wpList_make_full _ rfl _ _ 22 rfl w.heap.size 5 i0 (.int .u8 0) 1 Try.underlying22 hi hz0 hz1 .i64 .i64 _ _ N rfl rfl rfl rfl ?c1 ?c2 ?c3 ?_)
  case c1 => rw [hz2]; omega
  case c2 => unfold maxLen; omega
  case c3 => exact Nat.le_refl _
  intro w1 hown1 hg1
  have hb1 : Below w.heap.size w w1 := (Below.refl _ _).grown hg1 (Nat.le_refl _) (by intro k hk; cases hk)
  have hz : w1.heap[w.heap.size]? = some (.cells Z.toArray 5 (0, 0)) := by
    have ho : Own .u8 w1 w.heap.size 5 (.slice (some ⟨w.heap.size, 0, none⟩) (List.replicate N (0 : Int)).length (List.replicate N (0 : Int)).length) (List.replicate N 0) := by
      unfold Own
      simpa [toList_madeCells_one, Value.cells] using hown1
    rw [← HZ.out]
    exact own_block ho
  clear hown1 hg1
  have hsz : (Try.prog.info? 5).map (·.size) = some 1 := by rw [hi]; simp [hz1]
  obtain ⟨w2, run2, hg2, hB2⟩ := run_copy_into (P := Try.prog) w1 22 3 5 Try.underlying22 hsz w.heap.size 0 (some ⟨w.heap.size, 0, none⟩) A xs.length xs.length c Z 5 hz X lX (fun hp => ⟨rfl, rX _ hb1 hp⟩) (by rw [lX, lZ]; omega) oX
  have hb2 := hB2 _ _ hb1 (Nat.le_refl _)
  obtain ⟨w3, run3, hg3, hB3⟩ := run_copy_into (P := Try.prog) w2 22 3 5 Try.underlying22 hsz w.heap.size xs.length (some ⟨w.heap.size, xs.length, none⟩) A' ys.length ys.length c' (splice Z 0 X) 5 hg2 Y lY (fun hp => ⟨rfl, rY _ hb2 hp⟩) (by rw [length_splice _ _ _ (by omega), lY, lZ]; have := HN.out; omega) oY
  have hb3 := hB3 _ _ hb2 (Nat.le_refl _)
  have e3 := splice2 Z X Y xs.length lX (by rw [lZ, lY]; exact HN.out)
  rw [e3, ← HX.out, ← HY.out, ← List.map_append] at hg3
  have HG := Lib.hid hg3
  clear hB2 hsz hz hB3 hg3 hg2 e3
  have hsub : N - xs.length = ys.length := by have := HN.out; omega
  have hlt : xs.length < N := by have := HN.out; omega
  have hne : ¬ xs.length = N := by omega
  go_wp2
  go_ret
  have ho := own_of_block HG.out (Nat.le_refl w.heap.size) (by rw [List.length_append]; unfold maxLen; omega)
  rw [List.length_append, ← HN.out] at ho
  exact ⟨_, rfl, OS.mk_ ho, hb3⟩

set_option maxHeartbeats 1000000 in
theorem iJoined_nil {w : World} {v : Value} {xs : List Int} {A' : Option Addr} {c' : Nat} (h : RS .u8 w v xs) (hm : xs.length ≤ 1073741824) :
    Calls Try.prog 35 #[v, .slice A' 0 c'] w (NewS .u8 5 w xs) := by
  obtain ⟨A, c, rfl, hc1, hc2, hr⟩ := h
  obtain ⟨i0, hi, hz0, hz1, hz2⟩ := info_parts Try.info_u8
  obtain ⟨X, hX⟩ : ∃ X, xs.map (Value.int .u8) = X := ⟨_, rfl⟩
  obtain ⟨Z, hZ⟩ : ∃ Z, (List.replicate xs.length (0 : Int)).map (Value.int .u8) = Z := ⟨_, rfl⟩
  have lX : X.length = xs.length := by rw [← hX]; simp
  have lZ : Z.length = xs.length := by rw [← hZ]; simp
  have oX : ∀ v ∈ X, v.oneCell' = true := by intro v hv; rw [← hX] at hv; obtain ⟨n, _, rfl⟩ := List.mem_map.1 hv; rfl
  have HX := Lib.hid hX
  have HZ := Lib.hid hZ
  have rX : ∀ w2, Below w.heap.size w w2 → 0 < X.length → ∃ ad, A = some ad ∧ ∀ j v, X[j]? = some v → w2.cell? (ad.add j) = some v := by
    intro w2 hb hp
    obtain ⟨b, off, rfl, _, hc⟩ := (hr.below hb).toV (by rw [List.length_map]; omega)
    exact ⟨_, rfl, fun j v hv => by rw [add_mk]; exact hc j v (by rw [hX]; exact hv)⟩
  clear hX hZ
  go_enter Try.func35, Try.ntmps35
  go_wp2_with (at_make; refine wpList_make_full _ rfl _ _ 22 rfl w.heap.size 5 i0 (.int .u8 0) 1 Try.underlying22 hi hz0 hz1 .i64 .i64 _ _ xs.length rfl rfl rfl rfl ?c1 ?c2 ?c3 ?_)
  case c1 => rw [hz2]; omega
  case c2 => unfold maxLen; omega
  case c3 => exact Nat.le_refl _
  intro w1 hown1 hg1
  have hb1 : Below w.heap.size w w1 := (Below.refl _ _).grown hg1 (Nat.le_refl _) (by intro k hk; cases hk)
  have hz : w1.heap[w.heap.size]? = some (.cells Z.toArray 5 (0, 0)) := by
    have ho : Own .u8 w1 w.heap.size 5 (.slice (some ⟨w.heap.size, 0, none⟩) (List.replicate xs.length (0 : Int)).length (List.replicate xs.length (0 : Int)).length) (List.replicate xs.length 0) := by
      unfold Own
      simpa [toList_madeCells_one, Value.cells] using hown1
    rw [← HZ.out]
    exact own_block ho
  clear hown1 hg1
  have hsz : (Try.prog.info? 5).map (·.size) = some 1 := by rw [hi]; simp [hz1]
  obtain ⟨w2, run2, hg2, hB2⟩ := run_copy_into (P := Try.prog) w1 22 3 5 Try.underlying22 hsz w.heap.size 0 (some ⟨w.heap.size, 0, none⟩) A xs.length xs.length c Z 5 hz X lX (fun hp => ⟨rfl, rX _ hb1 hp⟩) (by rw [lX, lZ]; omega) oX
  have hb2 := hB2 _ _ hb1 (Nat.le_refl _)
  have run3 := run_copy_none (P := Try.prog) w2 22 22 3 5 (some ⟨w.heap.size, 0, none⟩) A' 0 0 0 c' Try.underlying22 hsz rfl
  have e2 : splice Z 0 X = X := by unfold splice; simp; omega
  rw [e2, ← HX.out] at hg2
  have HG := Lib.hid hg2
  clear hB2 hsz hz hg2 e2
  go_wp2
  go_ret
  exact ⟨_, rfl, OS.mk_ (own_of_block HG.out (Nat.le_refl w.heap.size) (by unfold maxLen; omega)), hb2⟩

theorem iJoined_c {w : World} {v v' : Value} {xs ys : List Int} (h : RS .u8 w v xs) (h' : RS .u8 w v' ys) (hm : xs.length ≤ 1073741824) (hm' : ys.length ≤ 1073741824) :
    Calls Try.prog 35 #[v, v'] w (NewS .u8 5 w (xs ++ ys)) := by
  by_cases hp : 0 < ys.length
  · exact iJoined_pos h h' hm hm' hp
  · obtain rfl : ys = [] := List.eq_nil_of_length_eq_zero (by omega)
    obtain ⟨A', c', rfl, _⟩ := h'
    rw [List.append_nil]
    exact iJoined_nil h hm

end Go.Proofs.Ytdempiibbhfijaa
