/- Contract: impl.Scan: a loop over the iterator that collects copies. -/
import Derived.Test.YtdempiibbhfijaaIter
namespace Go.Proofs.Ytdempiibbhfijaa
open Go.RowKit Go.Shelf
set_option linter.unusedVariables false
attribute [local go_sem] Oper.semAt_some

/-- the blocks of a row are cells -/
theorem row_cells {w : World} {base size : Nat} {e : TypeId} {v : Value} {n : Nat} {xs : List Value} (h : w.ownsRow base e size v n xs) {j : Nat} (hj : v.ownBlock = some j) : ∃ o, w.heap[j]? = some o ∧ o.isCells = true := by
  rcases h.2 with ⟨rfl, _⟩ | ⟨g, cap, cur, rfl, _, hh, _⟩
  · cases hj
  · obtain rfl : g = j := by simpa [Value.ownBlock] using hj
    exact ⟨_, hh, rfl⟩
theorem bytes_cells {w : World} {S : List Nat} {cs : List Value} {zs : List Int} (h : bytesL.own w S cs zs) : ∀ j ∈ S, ∃ o, w.heap[j]? = some o ∧ o.isCells = true := by
  obtain ⟨v, rfl, ho, rfl⟩ := h
  intro j hj
  exact row_cells ho (by simpa using hj)
theorem byteSS_cells {w : World} {S : List Nat} {cs : List Value} {xs : List (List Int)} (h : byteSSL.own w S cs xs) : ∀ j ∈ S, ∃ o, w.heap[j]? = some o ∧ o.isCells = true := by
  obtain ⟨v, rfl, cf, sf, ho, hel, rfl⟩ := h
  intro j hj
  rcases List.mem_append.1 hj with hj | hj
  · exact row_cells ho (by simpa using hj)
  · obtain ⟨i, hi, hm⟩ := mem_flat.1 hj
    exact bytes_cells (hel i xs[i] (List.getElem?_eq_getElem hi)).2 j hm

/-- the turn of a block that is no cells leaves what is owned -/
theorem ovp_kept {w w' : World} {p : Nat → Prop} {v : Value} {xs : List (List Int)} {row : Option Nat} (h : OVp byteSSL w p [v] xs) (hg : w.grownBy w' row) (hr : ∀ r, row = some r → ∃ o : Obj, w.heap[r]? = some o ∧ o.isCells = false) : OVp byteSSL w' p [v] xs := by
  obtain ⟨S, ho, hn, hS⟩ := h
  refine ⟨S, byteSSL.own_keep ho fun j hj => hg.block j (byteSSL.own_lt ho j hj) fun e => ?_, hn, hS⟩
  obtain ⟨o, h1, h2⟩ := byteSS_cells ho j hj
  obtain ⟨o', h3, h4⟩ := hr j e.symm
  rw [h1] at h3
  obtain rfl : o = o' := by simpa using h3
  rw [h2] at h4
  cases h4
/-- append as one step of a region that draws its order, inside a fence -/
theorem stepIn_app {F : Fence} {n : Nat} {P : Program} {ops : Array Oper} {o : Oper} {a : Act} {w : World} {K : Act → World → Prop} {Q : Exit → Act → World → Prop} {E : Prop} (hgd : o.guard = none) (s x : Operand) (t : TypeId)
    (ho : o.op = .call { callee := .builtin .append, args := #[s, x], argTypes := #[t, t] })
    (base : Nat) (e : TypeId) (i : TypeInfo) (z : Value) (bytes : Nat) (ht : P.underlying t = some (.slice e)) (hi : P.info? e = some i) (hz : i.zero = some z)
    (hsize : i.size = 1) (hby : i.bytes = bytes) (hzs : z.cells.size = 1) (v : Value) (k : Nat) (xs : List Value) (hs : a.eval s = v) (hown : w.ownsRow base e 1 v k xs)
    (B : Nat) (A : Option Addr) (c m : Nat) (ys : List Value) (hx : a.eval x = .slice A m c) (hm : ys.length = m) (hr : RdV w B A ys) (h1 : ∀ u ∈ ys, u.oneCell' = true)
    (hmax : k + m ≤ 1099511627776) (hbyt : bytes ≤ 64) (hbase : base ≤ w.heap.size)
    (h : ∀ v' w', w'.ownsRow base e 1 v' (k + ys.length) (xs ++ ys) → w.grownBy w' v.ownBlock → (v'.ownBlock = v.ownBlock ∨ v'.ownBlock = some w.heap.size) → K (a.put o.dst v') w') :
    if Region.wanted o (yielded ops a.tmps) = true then Oper.wpIn F n P o a w K Q else E := by
  have hw : Region.wanted o (yielded ops a.tmps) = true := by simp [Region.wanted, hgd]
  rw [if_pos hw]
  subst hm
  obtain ⟨v', w', hrun, h2, h3, h4⟩ := run_app (P := P) w base t o.type e i z bytes ht hi hz hsize hby hzs v k xs hown B A c ys hr h1 hmax hbyt hbase
  unfold Oper.wpIn
  refine ⟨?_, ?_⟩
  · simp [Oper.about, ho, resolve, Target.leads, Sem.run_pure]
  · rw [Oper.semAt_plain F _ _ (by rw [ho]; intro c hc'; cases hc')]
    simp [execOp, ho, resolve, invoke, builtin, hs, hx, hrun, Result.andThen]
    exact h v' w' h2 h3 h4

/-- what Scan's two variables hold between two rounds -/
def ScanI (zs : List Int) (w : World) (pre : List (Fr zs)) (W : World) : Prop :=
  (∃ v, Boxed W (w.heap.size + 1) 26 v ∧ OVp byteSSL W (fun j => j = w.heap.size ∨ w.heap.size + 4 ≤ j) [v] (pays pre)) ∧ Boxed W (w.heap.size + 1 + 1) 3 (.int .i64 (stopOf pre : Int)) ∧ Below w.heap.size w W ∧ w.heap.size + 4 ≤ W.heap.size

theorem scanI_own (zs : List Int) (w : World) (B0 : Nat) (hB : w.heap.size ≤ B0) : OwnFrom B0 (ScanI zs w) := by
  rintro pre W W' row ⟨⟨v, h1, h2⟩, h3, h4, h5⟩ hg hr
  exact ⟨⟨v, boxed_own' (w.heap.size + 1) 26 (fun _ : Unit => v) B0 () W W' row h1 hg hr, ovp_kept h2 hg fun r e => (hr r e).2⟩,
    boxed_own' (w.heap.size + 1 + 1) 3 (fun _ : Unit => .int .i64 (stopOf pre : Int)) B0 () W W' row h3 hg hr, h4.grown hg h4.size (fun k e => Nat.le_trans hB (hr k e).1), Nat.le_trans h5 hg.size⟩

theorem keeps_of_below {W W' : World} (h : Below W.heap.size W W') : KeepsOthers W W' := ⟨h.size, fun k o hk _ => (h.block k (Array.getElem?_eq_some_iff.1 hk).1).trans hk⟩
theorem boxed_other {W : World} {B B' : Nat} {t : TypeId} {v : Value} (h : Boxed W B t v) (u : Value) (hne : B ≠ B') : Boxed (W.setCell ⟨B', 0, none⟩ u) B t v := (Below.heap_setCell W ⟨B', 0, none⟩ u B hne).trans h
theorem ovp_set {W : World} {p : Nat → Prop} {v u : Value} {xs : List (List Int)} {B : Nat} (h : OVp byteSSL W p [v] xs) (hp : ¬ p B) : OVp byteSSL (W.setCell ⟨B, 0, none⟩ u) p [v] xs :=
  h.keep fun j hj _ => Below.heap_setCell W ⟨B, 0, none⟩ u j (fun e => hp (by have e' : j = B := e; rw [← e']; exact hj))

/-- behind the append of a round -/
theorem scan_after {zs : List Int} {w W w2 w3 : World} {pre : List (Fr zs)} {x : Fr zs} {v v2 v3 : Value} {B0 : Nat} {ys : List Value} {N : Nat} {z : Int}
    (bV : Boxed W (w.heap.size + 1) 26 v) (hs : Boxed W (w.heap.size + 1 + 1) 3 (.int .i64 z)) (bB : w.heap.size + 4 ≤ W.heap.size) (hB : Below w.heap.size w W)
    (hb2 : Below W.heap.size W w2) (hrow : (w2.alloc (.cells #[v2] 22)).ownsRow 0 22 1 v N ys) (hpv : ∀ k, v.ownBlock = some k → (k = w.heap.size ∨ w.heap.size + 4 ≤ k) ∧ k < W.heap.size)
    (hg3 : (w2.alloc (.cells #[v2] 22)).grownBy w3 v.ownBlock) (o3 : OVp byteSSL w3 (fun j => j = w.heap.size ∨ w.heap.size + 4 ≤ j) [v3] (pays (pre ++ [x]))) :
    Boxed w3 (w.heap.size + 1) 26 v ∧ Boxed (w3.setCell ⟨w.heap.size + 1, 0, none⟩ v3) (w.heap.size + 1 + 1) 3 (.int .i64 z) ∧
    (KeepsFrom B0 W ((w3.setCell ⟨w.heap.size + 1, 0, none⟩ v3).setCell ⟨w.heap.size + 1 + 1, 0, none⟩ (.int .i64 (stopOf (pre ++ [x]) : Int))) ∧
     KpF w.heap.size (w.heap.size + 1 + 1 + 1) W ((w3.setCell ⟨w.heap.size + 1, 0, none⟩ v3).setCell ⟨w.heap.size + 1 + 1, 0, none⟩ (.int .i64 (stopOf (pre ++ [x]) : Int))) ∧
     ScanI zs w (pre ++ [x]) ((w3.setCell ⟨w.heap.size + 1, 0, none⟩ v3).setCell ⟨w.heap.size + 1 + 1, 0, none⟩ (.int .i64 (stopOf (pre ++ [x]) : Int)))) := by
  have hsz := hB.size
  have hs2 := hb2.size
  have hba : Below w2.heap.size w2 (w2.alloc (.cells #[v2] 22)) := (Below.refl _ _).alloc (Nat.le_refl _) _
  have hbw : Below W.heap.size W (w2.alloc (.cells #[v2] 22)) := hb2.trans (hba.mono hs2)
  have keepW : ∀ k, k < W.heap.size → v.ownBlock ≠ some k → w3.heap[k]? = W.heap[k]? := fun k hk hne => (hg3.block k (by have := hbw.size; omega) (fun e => hne e.symm)).trans (hbw.block k hk)
  have ne1 : v.ownBlock ≠ some (w.heap.size + 1) := fun e => by have := (hpv _ e).1; omega
  have ne2 : v.ownBlock ≠ some (w.heap.size + 1 + 1) := fun e => by have := (hpv _ e).1; omega
  have ne3 : v.ownBlock ≠ some (w.heap.size + 1 + 1 + 1) := fun e => by have := (hpv _ e).1; omega
  have b1 : Boxed w3 (w.heap.size + 1) 26 v := (keepW _ bV.lt ne1).trans bV
  have b2 : Boxed w3 (w.heap.size + 1 + 1) 3 (.int .i64 z) := (keepW _ hs.lt ne2).trans hs
  have b2' : Boxed (w3.setCell ⟨w.heap.size + 1, 0, none⟩ v3) (w.heap.size + 1 + 1) 3 (.int .i64 z) := boxed_other b2 v3 (by omega)
  have hB3 : Below w.heap.size W w3 := by
    refine ((hbw.mono hsz)).grown hg3 (by have := hbw.size; omega) (fun k e => ?_)
    have := (hpv k e).1; omega
  have hB5 : Below w.heap.size W ((w3.setCell ⟨w.heap.size + 1, 0, none⟩ v3).setCell ⟨w.heap.size + 1 + 1, 0, none⟩ (.int .i64 (stopOf (pre ++ [x]) : Int))) :=
    (hB3.setCell (p := ⟨w.heap.size + 1, 0, none⟩) (by show w.heap.size ≤ w.heap.size + 1; omega) _).setCell (p := ⟨w.heap.size + 1 + 1, 0, none⟩) (by show w.heap.size ≤ w.heap.size + 1 + 1; omega) _
  refine ⟨b1, b2', ?_, ⟨hB5, ?_⟩, ⟨⟨v3, boxed_other (b1.set v3) _ (by omega), ovp_set (ovp_set o3 (by omega)) (by omega)⟩, b2'.set _, hB.trans hB5, Nat.le_trans bB hB5.size⟩⟩
  · refine KeepsOthers.from ?_ B0
    refine ((((keeps_of_below hb2).trans (KeepsOthers.alloc _ _)).trans (KeepsOthers.of_grownBy hg3 fun j o ej hj => ?_)).trans (KeepsOthers.setCell _ _ _)).trans (KeepsOthers.setCell _ _ _)
    obtain ⟨o', h1, h2⟩ := row_cells hrow ej
    rw [hj] at h1
    obtain rfl : o = o' := by simpa using h1
    exact h2
  · rw [Below.heap_setCell _ _ _ _ (by show w.heap.size + 1 + 1 + 1 ≠ w.heap.size + 1 + 1; omega), Below.heap_setCell _ _ _ _ (by show w.heap.size + 1 + 1 + 1 ≠ w.heap.size + 1; omega)]
    exact keepW _ (by omega) ne3

set_option maxRecDepth 100000 in
set_option maxHeartbeats 4000000 in
theorem iScan_c {w : World} {v : Value} {zs : List Int} (h : RS .u8 w v zs) (hb : Bytes zs) (hm : zs.length ≤ 16777216) :
    Calls Try.prog 11 #[v] w (NewVI w (scanL zs) (scanP zs)) := by
  obtain ⟨A, c, rfl, hc1, hc2, hr⟩ := h
  unfold maxLen at hc2
  obtain ⟨b, off, hA⟩ := addr_or hr
  obtain ⟨i0, hi, hz0, hz1, hz2⟩ := info_parts Try.info_bs
  refine (callsIn_wide (n := 8)).1 ?_
  refine callsIn_of_wp_marks Try.func11 rfl trivial ?_ rfl
  simp only [Try.ntmps11, List.size_toArray, List.length_cons, List.length_nil, Nat.reduceAdd, Nat.reduceSub, Array.replicate_succ, Array.replicate_zero, List.push_toArray, List.append_toArray, List.nil_append, List.cons_append]
  gi_wp2_with fail
  refine ⟨trivial, (callsIn_wide.2 (iGood_c _ _ ⟨_, _, _, rfl⟩)).mono ?_⟩
  rintro e w' ⟨rfl, rfl⟩
  gi_wp2
  obtain ⟨w4, hw4⟩ : ∃ w4, ((((w.alloc (Obj.cells #[] 22)).alloc (Obj.cells #[Value.slice (some { block := w.heap.size, off := 0 }) 0 0] 26)).alloc (Obj.cells #[Value.int IntKind.i64 0] 3)).alloc (Obj.cells #[Value.slice A zs.length c] 22)) = w4 := ⟨_, rfl⟩
  have hsz4 : w4.heap.size ≤ w.heap.size + 4 ∧ w.heap.size + 4 ≤ w4.heap.size := by rw [← hw4]; simp
  have bP : Boxed w4 (w.heap.size + 1) 26 (.slice (some ⟨w.heap.size, 0, none⟩) 0 0) := by
    have := Boxed.new (w.alloc (Obj.cells #[] 22)) 26 (.slice (some ⟨w.heap.size, 0, none⟩) 0 0)
    rw [World.size_alloc] at this
    rw [← hw4]; exact (this.alloc _).alloc _
  have bS : Boxed w4 (w.heap.size + 1 + 1) 3 (.int .i64 0) := by
    have := Boxed.new ((w.alloc (Obj.cells #[] 22)).alloc (Obj.cells #[Value.slice (some { block := w.heap.size, off := 0 }) 0 0] 26)) 3 (.int .i64 0)
    rw [World.size_alloc, World.size_alloc] at this
    rw [← hw4]; exact this.alloc _
  have bB : Boxed w4 (w.heap.size + 1 + 1 + 1) 22 (.slice A zs.length c) := by
    have := Boxed.new (((w.alloc (Obj.cells #[] 22)).alloc (Obj.cells #[Value.slice (some { block := w.heap.size, off := 0 }) 0 0] 26)).alloc (Obj.cells #[Value.int IntKind.i64 0] 3)) 22 (.slice A zs.length c)
    rw [World.size_alloc, World.size_alloc, World.size_alloc] at this
    rw [← hw4]; exact this
  have hB0 : Below w.heap.size w w4 := by
    rw [← hw4]; exact ((((Below.refl _ w).alloc (Nat.le_refl _) _).alloc (by simp) _).alloc (by simp; omega) _).alloc (by simp; omega) _
  have hO0 : OVp byteSSL w4 (fun j => j = w.heap.size ∨ w.heap.size + 4 ≤ j) [.slice (some ⟨w.heap.size, 0, none⟩) 0 0] [] := by
    obtain ⟨cs, S, hv, ho, hn, hS, -⟩ := ov_lit0 bytesL 22 1 w
    obtain ⟨u, rfl, ho⟩ := ho
    obtain rfl : Value.slice (some ⟨w.heap.size, 0, none⟩) 0 0 = u := hv
    refine ⟨S, byteSSL.own_keep (w := w.alloc (.cells #[] 22)) ⟨_, rfl, ho⟩ fun j hj => ?_, hn, fun j hj => .inl ?_⟩
    · have hjs := hS j hj
      rw [← hw4]
      rw [World.size_alloc] at hjs
      rw [Below.heap_alloc _ _ _ (by simp; omega), Below.heap_alloc _ _ _ (by simp; omega), Below.heap_alloc _ _ _ (by simp; omega)]
    · have := hS j hj; rw [World.size_alloc] at this; omega
  have hr4 := hr.below hB0
  rw [hw4]
  clear hw4
  refine wpIn_rangeFunc_ownG rfl (by omega) (gf := 47) (lb := #[.pointer (some ⟨w.heap.size + 1 + 1 + 1, 0, none⟩)]) rfl trivial (enters_of Try.func47 (by kernel_rfl) rfl)
    (good_stops _ (by omega) (w.heap.size + 1 + 1 + 1) w.heap.size b off A c zs hA hb hm hc1 hc2 _ bB (by omega) hr4) KpF.trans (KpF.put (by omega) (by omega)) (Below.refl _ _) (fun _ => rfl)
    (ScanI zs w)
    (fun _ _ _ => False)
    (scanI_own zs w _ (by omega))
    (fun _ _ _ _ _ hs _ _ => hs)
    ⟨⟨_, bP, hO0⟩, bS, hB0, by omega⟩
    (fun x => { tmps := #[.slice A zs.length c, undef, .slice none 0 0, .int .i64 0, .pointer (some ⟨w.heap.size + 1, 0, none⟩), .pointer (some ⟨w.heap.size + 1 + 1, 0, none⟩), .slice (some ⟨b, off + (x.1 + 6), none⟩) (lenAt zs x.1) (lenAt zs x.1), .int .i64 ((x.1 : Int) + 6 + (lenAt zs x.1 : Int)), .slice (some ⟨w.heap.size, 0, none⟩) 0 0, .slice A zs.length c, .func (.func 47) #[] #[.pointer (some ⟨w.heap.size + 1 + 1 + 1, 0, none⟩)], .slice (some ⟨b, off + (x.1 + 6), none⟩) (lenAt zs x.1) (lenAt zs x.1), .int .i64 ((x.1 : Int) + 6 + (lenAt zs x.1 : Int)), undef, undef, undef, undef, undef, undef, undef, undef], defers := [] }) ?assign ?body ?done ?stop
  case assign =>
    intro l x W K hK
    dsimp only [encF]
    gi_wp2
    exact hK
  case body =>
    rintro l pre x W ⟨⟨v, bV, oV⟩, hs, hB, h4W⟩ hlt
    obtain ⟨x, hx⟩ := x
    dsimp only
    have hsz := hB.size
    have hx3 := hx.2.2.1
    have hx4 := hx.2.2.2.1
    have hx7 := hx.1
    rcases hA with rfl | hno
    case inr => exact absurd hx (hno x)
    have hrp : Rd .u8 W w.heap.size (some ⟨b, off + (x + 6), none⟩) (payAt zs x) := by
      have := (hr.below hB).sub (x + 6) (lenAt zs x) (by omega)
      exact this
    have hpl := payAt_len hx4
    obtain ⟨Av, cv, N, rfl, hN⟩ : ∃ Av cv N, v = .slice Av N cv ∧ (pays pre).length = N := by
      obtain ⟨A', c', he, -⟩ := oV.rd
      exact ⟨A', c', _, by simpa using he, rfl⟩
    have hcv := bV.cell
    have hfv := bV.frozen
    have HN := Lib.hid hN
    have HL := Lib.hid hpl
    clear hN hpl
    have hW : Below W.heap.size W W.drew := (Below.refl _ _).drew
    gi_wp2
    refine wpIn_region_any (by kernel_rfl) ?_
    change wpAnyIn _ _ _ _ _ _ _ _ _ (World.drew _)
    refine wpAnyIn_ready (rs := [0, 1]) (by kernel_rfl) (by simp) (AllReadyIn.cons rfl (fun K hK => ?_) (AllReadyIn.cons rfl (fun K hK => ?_) AllReadyIn.nil))
    · go_simp
      refine hK _ _ ?_
      clear hK K
      refine wpAnyIn_ready (rs := [1]) (by kernel_rfl) (by simp) (AllReadyIn.cons rfl (fun K hK => ?_) AllReadyIn.nil)
      go_simp
      refine hK _ _ ?_
      clear hK K
      refine wpAnyIn_ready (rs := [2]) (by kernel_rfl) (by simp) (AllReadyIn.cons rfl (fun K hK => ?_) AllReadyIn.nil)
      go_simp
      refine ⟨trivial, (CallsIn.inRound l (callsIn_wide.2 (iJoined_nil (w := W.drew) (xs := payAt zs x) ⟨_, lenAt zs x, by rw [HL.out], by rw [HL.out]; exact Nat.le_refl _, by unfold maxLen; omega, hrp.more hsz⟩ (by rw [HL.out]; omega)))).mono ?_⟩
      rintro e w2 ⟨v2, rfl, o2, hb2⟩
      obtain ⟨A2, c2, rfl, -, -, -⟩ := o2.rd
      rw [HL.out] at o2 ⊢
      have hs2 := hb2.size
      have hcv2 := (bV.kept (W' := w2) (row := none) ⟨hb2.os, hb2.tape, hb2.output, hb2.size, fun k hk _ => hb2.block k hk⟩ (by simp)).cell
      have hcv3 := ((bV.kept (W' := w2) (row := none) ⟨hb2.os, hb2.tape, hb2.output, hb2.size, fun k hk _ => hb2.block k hk⟩ (by simp)).alloc (.cells #[.slice A2 (lenAt zs x) c2] 22)).cell
      refine hK _ _ ?_
      clear hK K
      refine wpAnyIn_ready (rs := [3]) (by kernel_rfl) (by simp) (AllReadyIn.cons rfl (fun K hK => ?_) AllReadyIn.nil)
      go_simp
      refine hK _ _ ?_
      clear hK K
      refine wpAnyIn_ready (rs := [4]) (by kernel_rfl) (by simp) (AllReadyIn.cons rfl (fun K hK => ?_) AllReadyIn.nil)
      have hba : Below w2.heap.size w2 (w2.alloc (.cells #[.slice A2 (lenAt zs x) c2] 22)) := (Below.refl _ _).alloc (Nat.le_refl _) _
      have hb2' : Below W.heap.size W w2 := hW.trans hb2
      obtain ⟨T, hT, hTn, hTr⟩ := os_blocks (o2.below hba)
      obtain ⟨ys, hrow, -, hpv, hback⟩ := OVp.app_step (q := fun j => j = w.heap.size ∨ w.heap.size + 4 ≤ j) (m := W.heap.size) ((oV.lt.below hb2').below hba) hT hTn (fun k hk => (hTr k hk).1) (fun k hk => hk.2) (by have := hba.size; have := hb2'.size; omega) (fun k hk => hk.1) (fun k hk => .inr (by omega))
      rw [HN.out] at hrow hback
      refine stepIn_app rfl (.tmp 13) (.tmp 16) 26 rfl 0 22 i0 (.slice none 0 0) 24 Try.underlying26 hi hz0 hz1 hz2 rfl _ N ys rfl hrow _ _ _ 1 [.slice A2 (lenAt zs x) c2] rfl rfl (rdV_one _ _ _) (by intro u hu; obtain rfl : u = .slice A2 (lenAt zs x) c2 := (by simpa using hu); rfl) (by have := HN.out; have : (pays pre).length = pre.length := (by simp [pays]); omega) (by omega) (Nat.zero_le _) ?_
      intro v3 w3 ho3 hg3 hat3
      have o3 := hback v3 w3 ho3 hg3 hat3
      rw [← pays_snoc pre ⟨x, hx⟩] at o3
      obtain ⟨g3, cap3, rfl⟩ := ownsRow_succ ho3
      obtain ⟨b1, b2, hpost⟩ := scan_after (B0 := w4.heap.size) bV hs h4W hB hb2' hrow hpv hg3 o3
      rw [stopOf_snoc] at hpost
      simp only [Int.natCast_add, Int.cast_ofNat_Int] at hpost
      have HP := Lib.hid hpost
      have k1 := b1.cell
      have k2 := b1.frozen
      have k3 := b2.cell
      have k4 := b2.frozen
      clear hback hT hTr hat3 ho3 hpost
      refine hK _ _ ?_
      clear hK K
      refine wpAnyIn_ready (rs := [5]) (by kernel_rfl) (by simp) (AllReadyIn.cons rfl (fun K hK => ?_) AllReadyIn.nil)
      go_simp
      refine hK _ _ ?_
      clear hK K
      refine wpAnyIn_done (by kernel_rfl) ?_ _
      gi_wp2
      exact HP.out
    · go_simp
      refine hK _ _ ?_
      clear hK K
      refine wpAnyIn_ready (rs := [0, 2]) (by kernel_rfl) (by simp) (AllReadyIn.cons rfl (fun K hK => ?_) (AllReadyIn.cons rfl (fun K hK => ?_) AllReadyIn.nil))
      · go_simp
        refine hK _ _ ?_
        clear hK K
        refine wpAnyIn_ready (rs := [2]) (by kernel_rfl) (by simp) (AllReadyIn.cons rfl (fun K hK => ?_) AllReadyIn.nil)
        go_simp
        refine ⟨trivial, (CallsIn.inRound l (callsIn_wide.2 (iJoined_nil (w := W.drew) (xs := payAt zs x) ⟨_, lenAt zs x, by rw [HL.out], by rw [HL.out]; exact Nat.le_refl _, by unfold maxLen; omega, hrp.more hsz⟩ (by rw [HL.out]; omega)))).mono ?_⟩
        rintro e w2 ⟨v2, rfl, o2, hb2⟩
        obtain ⟨A2, c2, rfl, -, -, -⟩ := o2.rd
        rw [HL.out] at o2 ⊢
        have hs2 := hb2.size
        have hcv2 := (bV.kept (W' := w2) (row := none) ⟨hb2.os, hb2.tape, hb2.output, hb2.size, fun k hk _ => hb2.block k hk⟩ (by simp)).cell
        have hcv3 := ((bV.kept (W' := w2) (row := none) ⟨hb2.os, hb2.tape, hb2.output, hb2.size, fun k hk _ => hb2.block k hk⟩ (by simp)).alloc (.cells #[.slice A2 (lenAt zs x) c2] 22)).cell
        refine hK _ _ ?_
        clear hK K
        refine wpAnyIn_ready (rs := [3]) (by kernel_rfl) (by simp) (AllReadyIn.cons rfl (fun K hK => ?_) AllReadyIn.nil)
        go_simp
        refine hK _ _ ?_
        clear hK K
        refine wpAnyIn_ready (rs := [4]) (by kernel_rfl) (by simp) (AllReadyIn.cons rfl (fun K hK => ?_) AllReadyIn.nil)
        have hba : Below w2.heap.size w2 (w2.alloc (.cells #[.slice A2 (lenAt zs x) c2] 22)) := (Below.refl _ _).alloc (Nat.le_refl _) _
        have hb2' : Below W.heap.size W w2 := hW.trans hb2
        obtain ⟨T, hT, hTn, hTr⟩ := os_blocks (o2.below hba)
        obtain ⟨ys, hrow, -, hpv, hback⟩ := OVp.app_step (q := fun j => j = w.heap.size ∨ w.heap.size + 4 ≤ j) (m := W.heap.size) ((oV.lt.below hb2').below hba) hT hTn (fun k hk => (hTr k hk).1) (fun k hk => hk.2) (by have := hba.size; have := hb2'.size; omega) (fun k hk => hk.1) (fun k hk => .inr (by omega))
        rw [HN.out] at hrow hback
        refine stepIn_app rfl (.tmp 13) (.tmp 16) 26 rfl 0 22 i0 (.slice none 0 0) 24 Try.underlying26 hi hz0 hz1 hz2 rfl _ N ys rfl hrow _ _ _ 1 [.slice A2 (lenAt zs x) c2] rfl rfl (rdV_one _ _ _) (by intro u hu; obtain rfl : u = .slice A2 (lenAt zs x) c2 := (by simpa using hu); rfl) (by have := HN.out; have : (pays pre).length = pre.length := (by simp [pays]); omega) (by omega) (Nat.zero_le _) ?_
        intro v3 w3 ho3 hg3 hat3
        have o3 := hback v3 w3 ho3 hg3 hat3
        rw [← pays_snoc pre ⟨x, hx⟩] at o3
        obtain ⟨g3, cap3, rfl⟩ := ownsRow_succ ho3
        obtain ⟨b1, b2, hpost⟩ := scan_after (B0 := w4.heap.size) bV hs h4W hB hb2' hrow hpv hg3 o3
        rw [stopOf_snoc] at hpost
        simp only [Int.natCast_add, Int.cast_ofNat_Int] at hpost
        have HP := Lib.hid hpost
        have k1 := b1.cell
        have k2 := b1.frozen
        have k3 := b2.cell
        have k4 := b2.frozen
        clear hback hT hTr hat3 ho3 hpost
        refine hK _ _ ?_
        clear hK K
        refine wpAnyIn_ready (rs := [5]) (by kernel_rfl) (by simp) (AllReadyIn.cons rfl (fun K hK => ?_) AllReadyIn.nil)
        go_simp
        refine hK _ _ ?_
        clear hK K
        refine wpAnyIn_done (by kernel_rfl) ?_ _
        gi_wp2
        exact HP.out
      · go_simp
        refine ⟨trivial, (CallsIn.inRound l (callsIn_wide.2 (iJoined_nil (w := W.drew) (xs := payAt zs x) ⟨_, lenAt zs x, by rw [HL.out], by rw [HL.out]; exact Nat.le_refl _, by unfold maxLen; omega, hrp.more hsz⟩ (by rw [HL.out]; omega)))).mono ?_⟩
        rintro e w2 ⟨v2, rfl, o2, hb2⟩
        obtain ⟨A2, c2, rfl, -, -, -⟩ := o2.rd
        rw [HL.out] at o2 ⊢
        have hs2 := hb2.size
        have hcv2 := (bV.kept (W' := w2) (row := none) ⟨hb2.os, hb2.tape, hb2.output, hb2.size, fun k hk _ => hb2.block k hk⟩ (by simp)).cell
        have hcv3 := ((bV.kept (W' := w2) (row := none) ⟨hb2.os, hb2.tape, hb2.output, hb2.size, fun k hk _ => hb2.block k hk⟩ (by simp)).alloc (.cells #[.slice A2 (lenAt zs x) c2] 22)).cell
        refine hK _ _ ?_
        clear hK K
        refine wpAnyIn_ready (rs := [0, 3]) (by kernel_rfl) (by simp) (AllReadyIn.cons rfl (fun K hK => ?_) (AllReadyIn.cons rfl (fun K hK => ?_) AllReadyIn.nil))
        · go_simp
          refine hK _ _ ?_
          clear hK K
          refine wpAnyIn_ready (rs := [3]) (by kernel_rfl) (by simp) (AllReadyIn.cons rfl (fun K hK => ?_) AllReadyIn.nil)
          go_simp
          refine hK _ _ ?_
          clear hK K
          refine wpAnyIn_ready (rs := [4]) (by kernel_rfl) (by simp) (AllReadyIn.cons rfl (fun K hK => ?_) AllReadyIn.nil)
          have hba : Below w2.heap.size w2 (w2.alloc (.cells #[.slice A2 (lenAt zs x) c2] 22)) := (Below.refl _ _).alloc (Nat.le_refl _) _
          have hb2' : Below W.heap.size W w2 := hW.trans hb2
          obtain ⟨T, hT, hTn, hTr⟩ := os_blocks (o2.below hba)
          obtain ⟨ys, hrow, -, hpv, hback⟩ := OVp.app_step (q := fun j => j = w.heap.size ∨ w.heap.size + 4 ≤ j) (m := W.heap.size) ((oV.lt.below hb2').below hba) hT hTn (fun k hk => (hTr k hk).1) (fun k hk => hk.2) (by have := hba.size; have := hb2'.size; omega) (fun k hk => hk.1) (fun k hk => .inr (by omega))
          rw [HN.out] at hrow hback
          refine stepIn_app rfl (.tmp 13) (.tmp 16) 26 rfl 0 22 i0 (.slice none 0 0) 24 Try.underlying26 hi hz0 hz1 hz2 rfl _ N ys rfl hrow _ _ _ 1 [.slice A2 (lenAt zs x) c2] rfl rfl (rdV_one _ _ _) (by intro u hu; obtain rfl : u = .slice A2 (lenAt zs x) c2 := (by simpa using hu); rfl) (by have := HN.out; have : (pays pre).length = pre.length := (by simp [pays]); omega) (by omega) (Nat.zero_le _) ?_
          intro v3 w3 ho3 hg3 hat3
          have o3 := hback v3 w3 ho3 hg3 hat3
          rw [← pays_snoc pre ⟨x, hx⟩] at o3
          obtain ⟨g3, cap3, rfl⟩ := ownsRow_succ ho3
          obtain ⟨b1, b2, hpost⟩ := scan_after (B0 := w4.heap.size) bV hs h4W hB hb2' hrow hpv hg3 o3
          rw [stopOf_snoc] at hpost
          simp only [Int.natCast_add, Int.cast_ofNat_Int] at hpost
          have HP := Lib.hid hpost
          have k1 := b1.cell
          have k2 := b1.frozen
          have k3 := b2.cell
          have k4 := b2.frozen
          clear hback hT hTr hat3 ho3 hpost
          refine hK _ _ ?_
          clear hK K
          refine wpAnyIn_ready (rs := [5]) (by kernel_rfl) (by simp) (AllReadyIn.cons rfl (fun K hK => ?_) AllReadyIn.nil)
          go_simp
          refine hK _ _ ?_
          clear hK K
          refine wpAnyIn_done (by kernel_rfl) ?_ _
          gi_wp2
          exact HP.out
        · go_simp
          refine hK _ _ ?_
          clear hK K
          refine wpAnyIn_ready (rs := [0]) (by kernel_rfl) (by simp) (AllReadyIn.cons rfl (fun K hK => ?_) AllReadyIn.nil)
          go_simp
          refine hK _ _ ?_
          clear hK K
          refine wpAnyIn_ready (rs := [4]) (by kernel_rfl) (by simp) (AllReadyIn.cons rfl (fun K hK => ?_) AllReadyIn.nil)
          have hba : Below w2.heap.size w2 (w2.alloc (.cells #[.slice A2 (lenAt zs x) c2] 22)) := (Below.refl _ _).alloc (Nat.le_refl _) _
          have hb2' : Below W.heap.size W w2 := hW.trans hb2
          obtain ⟨T, hT, hTn, hTr⟩ := os_blocks (o2.below hba)
          obtain ⟨ys, hrow, -, hpv, hback⟩ := OVp.app_step (q := fun j => j = w.heap.size ∨ w.heap.size + 4 ≤ j) (m := W.heap.size) ((oV.lt.below hb2').below hba) hT hTn (fun k hk => (hTr k hk).1) (fun k hk => hk.2) (by have := hba.size; have := hb2'.size; omega) (fun k hk => hk.1) (fun k hk => .inr (by omega))
          rw [HN.out] at hrow hback
          refine stepIn_app rfl (.tmp 13) (.tmp 16) 26 rfl 0 22 i0 (.slice none 0 0) 24 Try.underlying26 hi hz0 hz1 hz2 rfl _ N ys rfl hrow _ _ _ 1 [.slice A2 (lenAt zs x) c2] rfl rfl (rdV_one _ _ _) (by intro u hu; obtain rfl : u = .slice A2 (lenAt zs x) c2 := (by simpa using hu); rfl) (by have := HN.out; have : (pays pre).length = pre.length := (by simp [pays]); omega) (by omega) (Nat.zero_le _) ?_
          intro v3 w3 ho3 hg3 hat3
          have o3 := hback v3 w3 ho3 hg3 hat3
          rw [← pays_snoc pre ⟨x, hx⟩] at o3
          obtain ⟨g3, cap3, rfl⟩ := ownsRow_succ ho3
          obtain ⟨b1, b2, hpost⟩ := scan_after (B0 := w4.heap.size) bV hs h4W hB hb2' hrow hpv hg3 o3
          rw [stopOf_snoc] at hpost
          simp only [Int.natCast_add, Int.cast_ofNat_Int] at hpost
          have HP := Lib.hid hpost
          have k1 := b1.cell
          have k2 := b1.frozen
          have k3 := b2.cell
          have k4 := b2.frozen
          clear hback hT hTr hat3 ho3 hpost
          refine hK _ _ ?_
          clear hK K
          refine wpAnyIn_ready (rs := [5]) (by kernel_rfl) (by simp) (AllReadyIn.cons rfl (fun K hK => ?_) AllReadyIn.nil)
          go_simp
          refine hK _ _ ?_
          clear hK K
          refine wpAnyIn_done (by kernel_rfl) ?_ _
          gi_wp2
          exact HP.out
  case done =>
    rintro D ys W hD ⟨hL, hS⟩ ⟨⟨v, bV, oV⟩, hs, hB, h4W⟩ hK
    obtain ⟨Av, cv, N, rfl, hN⟩ : ∃ Av cv N, v = .slice Av N cv ∧ (pays ys).length = N := by
      obtain ⟨A', c', he, -⟩ := oV.rd
      exact ⟨A', c', _, by simpa using he, rfl⟩
    have hcv := bV.cell
    have hcs := hs.cell
    rw [hS] at hcs
    rw [hL] at oV
    clear hN hL hS
    gi_wp2
    gi_region
    all_goals gi_wp2
    all_goals refine ⟨by simp, .inl ⟨_, _, rfl, run_takeDeferred (w := W.drew) hK, ?_⟩⟩
    have hg : W.drew.grownBy (W.drew.putObj D (.deferred none)) (some D) := grownBy_putObj' _ _ _
    have o1 : OVp byteSSL W.drew (fun j => j = w.heap.size ∨ w.heap.size + 4 ≤ j) [.slice Av N cv] (scanL zs) := oV.below ((Below.refl _ _).drew)
    have o2 := (ovp_kept o1 hg (fun r e => by cases e; exact ⟨_, hK, rfl⟩)).lt
    have o3 := o2.ov (lo := w.heap.size) (hi := (W.drew.putObj D (.deferred none)).heap.size) (fun j hj => ⟨by have := hj.1; omega, hj.2⟩) (Nat.le_refl _)
    have hB5 : Below w.heap.size w (W.drew.putObj D (.deferred none)) := (hB.drew).trans (belowK_b (w := w) (Nat.le_refl _) W.drew D _ _ (by omega) hK rfl rfl)
    exact ⟨_, results_tmp2 rfl _ _ _, _, rfl, o3, hB5⟩
  case stop =>
    rintro D c pre W _ _ h _
    exact h.elim

end Go.Proofs.Ytdempiibbhfijaa
