/- The iterator over frames: contracts of impl.goodFrames and of the function that it hands back; impl.Torn. -/
import Derived.RangeFuncNested
import Derived.RangeFuncBound
import Derived.RangeFuncCalls
import Derived.RangeFuncLeaves
import Derived.RangeFuncBox
import Derived.Shelf.Abstract
import Derived.Shelf.RegionOpen
import Derived.WalkKit
import Derived.OwnWalkIn
import Derived.TacticsInMore
import Derived.LoopNIn
import Derived.LoopIn
import Derived.Maps.AppendAt
import Derived.Test.YtdempiibbhfijaaFrame3
namespace Go.Proofs.Ytdempiibbhfijaa
open Go.RowKit Go.Shelf
set_option linter.unusedVariables false
attribute [local go_sem] Oper.semAt_some

/-- the offset of a frame -/
abbrev Fr (zs : List Int) : Type := { k : Nat // isFrame zs k }
/-- what a round is handed -/
def encF (b off : Nat) {zs : List Int} (x : Fr zs) : Array Value := #[.slice (some ⟨b, off + (x.1 + 6), none⟩) (lenAt zs x.1) (lenAt zs x.1), .int .i64 ((x.1 : Int) + 6 + (lenAt zs x.1 : Int))]
def pays {zs : List Int} (pre : List (Fr zs)) : List (List Int) := pre.map fun x => payAt zs x.1
/-- where the last frame ends -/
def stopOf {zs : List Int} (pre : List (Fr zs)) : Nat := match pre.getLast? with | none => 0 | some x => x.1 + 6 + lenAt zs x.1
theorem stopOf_snoc {zs : List Int} (pre : List (Fr zs)) (x : Fr zs) : stopOf (pre ++ [x]) = x.1 + 6 + lenAt zs x.1 := by simp [stopOf]
theorem pays_snoc {zs : List Int} (pre : List (Fr zs)) (x : Fr zs) : pays (pre ++ [x]) = pays pre ++ [payAt zs x.1] := by simp [pays]
/-- the frames pre have come, up to offset k -/
def Came (zs : List Int) (pre : List (Fr zs)) (k : Nat) : Prop := Scanned zs k (pays pre) ∧ stopOf pre = k
theorem Came.start (zs : List Int) : Came zs [] 0 := ⟨Scanned.start zs, rfl⟩
theorem Came.next {zs : List Int} {pre : List (Fr zs)} {k : Nat} (h : Came zs pre k) (hf : isFrame zs k) : Came zs (pre ++ [⟨k, hf⟩]) (k + 6 + lenAt zs k) :=
  ⟨by rw [pays_snoc]; exact h.1.next hf, stopOf_snoc _ _⟩
theorem Came.few {zs : List Int} {pre : List (Fr zs)} {k : Nat} (h : Came zs pre k) (hf : isFrame zs k) : pre.length < zs.length := by
  have h1 := h.1.2.1
  have h2 := hf.1
  have h3 : (pays pre).length = pre.length := by simp [pays]
  omega
/-- all frames have come -/
def CameAll (zs : List Int) (pre : List (Fr zs)) : Prop := pays pre = scanL zs ∧ (stopOf pre : Int) = scanP zs
theorem Came.stop {zs : List Int} {pre : List (Fr zs)} {k : Nat} (h : Came zs pre k) (hf : ¬ isFrame zs k) : CameAll zs pre := by
  obtain ⟨e1, e2⟩ := h.1.stop hf
  exact ⟨e1.symm, by rw [h.2, e2]⟩

/-- what a round keeps: what lay below n₀, and the iterator's own box -/
def KpF (n₀ Bs : Nat) (W W' : World) : Prop := Below n₀ W W' ∧ W'.heap[Bs]? = W.heap[Bs]?
theorem KpF.refl (n₀ Bs : Nat) (W : World) : KpF n₀ Bs W W := ⟨Below.refl _ _, rfl⟩
theorem KpF.trans {n₀ Bs : Nat} {A B C : World} (h : KpF n₀ Bs A B) (k : KpF n₀ Bs B C) : KpF n₀ Bs A C := ⟨h.1.trans k.1, k.2.trans h.2⟩
theorem KpF.drewN {n₀ Bs : Nat} {A B : World} (h : KpF n₀ Bs A B) (m : Nat) : KpF n₀ Bs A (B.drewN m) := ⟨bdrew h.1 m, h.2⟩
theorem grown_drewN (w : World) (m : Nat) (row : Option Nat) : w.grownBy (w.drewN m) row := ⟨rfl, rfl, rfl, Nat.le_refl _, fun _ _ _ => rfl⟩

theorem iGood_c (v : Value) (w : World) (hv : ∃ A n c, v = .slice A n c) : Calls Try.prog 34 #[v] w fun e w' => e = .returned (.func (.func 47) #[] #[.pointer (some ⟨w.heap.size, 0, none⟩)]) ∧ w' = w.alloc (.cells #[v] 22) := by
  obtain ⟨A, n, c, rfl⟩ := hv
  go_enter Try.func34, Try.ntmps34
  go_wp2
  go_ret
  exact ⟨rfl, rfl⟩

set_option maxRecDepth 100000 in
set_option maxHeartbeats 2000000 in
theorem good1_in (n : Nat) (hn : 2 ≤ n) (l Bs n₀ b off : Nat) (A : Option Addr) (c : Nat) (zs : List Int) (hA : A = some ⟨b, off, none⟩ ∨ ∀ k, ¬ isFrame zs k) (hb : Bytes zs) (hm : zs.length ≤ 16777216) (hc1 : zs.length ≤ c) (hc2 : c ≤ 9223372036854775807)
    (J Jx : List (Fr zs) → World → Prop) (W : World) (hJ : AbidesFrom W.heap.size J)
    (hY : ∀ pre x W1, J pre W1 → pre.length < zs.length → YieldAt Fence.wide (n - 1) Try.prog l (encF b off x) W1 fun e W' =>
      (e = .returned (.bool true) ∧ J (pre ++ [x]) W' ∧ KpF n₀ Bs W1 W') ∨ (e = .returned (.bool false) ∧ Jx (pre ++ [x]) W'))
    (hBs : W.heap[Bs]? = some (.cells #[.slice A zs.length c] 22 (0, 0))) (hr : Rd .u8 W n₀ A zs) (h0 : J [] W) :
    CallsIn Fence.wide n Try.prog 47 #[.func (.yield l) #[] #[], .pointer (some ⟨Bs, 0, none⟩)] W fun e W' => (∃ v, e = .returned v) ∧
      ((∃ ys, CameAll zs ys ∧ J ys W') ∨ (∃ pre, True ∧ Jx pre W')) := by
  refine callsIn_of_wp Try.func47 rfl trivial ?_ rfl
  simp only [Try.ntmps47, List.size_toArray, List.length_cons, List.length_nil, Nat.reduceAdd, Nat.reduceSub, Array.replicate_succ, Array.replicate_zero, List.push_toArray, List.append_toArray, List.nil_append, List.cons_append]
  gi_wp2
  gi_loopw [3] (fun p wr => ∃ (pre : List (Fr zs)) (k : Nat), Came zs pre k ∧ p = .int .i64 k ∧ J pre wr ∧ KpF n₀ Bs W wr) (fun p _ => zs.length - (intOf p).toNat)
  case atStart => exact ⟨[], 0, Came.start zs, rfl, h0, KpF.refl _ _ _⟩
  case round =>
    obtain ⟨pre, k, hC, rfl, hJs, hK⟩ := hrel
    have hbox : Boxed wr Bs 22 (.slice A zs.length c) := hK.2.trans hBs
    have hcell := hbox.cell
    have hr1 : Rd .u8 wr n₀ A zs := hr.below hK.1
    have hk1 := hC.1.1
    by_cases hf : isFrame zs k
    · rcases hA with rfl | hno
      case inr => exact absurd hf (hno k)
      have hC2 := Lib.hid (hC.next hf)
      have hfew := hC.few hf
      have hle := hf.2.2.2.1
      have hlen := hf.2.2.1
      have hpos := hf.1
      gi_wp2_with fail
      refine ⟨trivial, fun _ => by omega, (callsIn_wide.2 (iPayload_yes b off c zs k (lenAt zs k) wr n₀ hr1 hb hc1 hc2 hf rfl)).mono ?_⟩
      rintro e w' ⟨rfl, m, rfl⟩
      obtain ⟨fn, tmps, assign, body, hy, hR⟩ := hY pre ⟨k, hf⟩ (wr.drewN m) (hJ pre wr _ none hJs (grown_drewN wr m none) (fun r e => by cases e)) hfew
      dsimp only [encF] at hy
      gi_wp2
      refine ⟨fun _ => by omega, hR.mono ?_⟩
      rintro e W3 (⟨rfl, hJ3, hk3⟩ | ⟨rfl, hJx3⟩)
      · gi_wp2
        go_roundw
        case rel => exact ⟨pre ++ [⟨k, hf⟩], k + 6 + lenAt zs k, hC2.out, by go_num, hJ3, (hK.drewN m).trans hk3⟩
        case measure => simp [intOf]; omega
      · gi_wp2
        refine bodyPost_ret (results_none rfl _ _ _) rfl ?_
        exact ⟨⟨_, rfl⟩, .inr ⟨_, trivial, hJx3⟩⟩
    · have hB : frameAtB zs (k : Int) = false := by rw [frameAtB_nat]; exact decide_eq_false hf
      have HB := Lib.hid hB
      have hAll := Lib.hid (hC.stop hf)
      clear hB hf
      gi_wp2_with fail
      refine ⟨trivial, fun _ => by omega, (callsIn_wide.2 (iPayload_no A c zs k wr n₀ hr1 hb hc1 hc2 HB.out (by omega))).mono ?_⟩
      rintro e w' ⟨rfl, m, rfl⟩
      unfold noFrame
      have hJm := hJ pre wr _ none hJs (grown_drewN wr m none) (fun r e => by cases e)
      gi_wp2
      refine ⟨fun _ h => (by cases h), ?_⟩
      gi_wp2
      refine bodyPost_ret (results_none rfl _ _ _) rfl ?_
      exact ⟨⟨_, rfl⟩, .inl ⟨pre, hAll.out, hJm⟩⟩

theorem good_stops (n : Nat) (hn : 2 ≤ n) (Bs n₀ b off : Nat) (A : Option Addr) (c : Nat) (zs : List Int) (hA : A = some ⟨b, off, none⟩ ∨ ∀ k, ¬ isFrame zs k) (hb : Bytes zs) (hm : zs.length ≤ 16777216) (hc1 : zs.length ≤ c) (hc2 : c ≤ 9223372036854775807) (w : World)
    (hBs : Boxed w Bs 22 (.slice A zs.length c)) (hn₀ : n₀ ≤ w.heap.size) (hr : Rd .u8 w n₀ A zs) :
    SeqStopsK Fence.wide n Try.prog 47 #[.pointer (some ⟨Bs, 0, none⟩)] (encF b off (zs := zs)) (KpF n₀ Bs) (CameAll zs) (fun _ => True) zs.length w := fun l J Jx W hW hJ _ hY h0 =>
  good1_in n hn l Bs n₀ b off A c zs hA hb hm hc1 hc2 J Jx W hJ hY ((hW.block Bs hBs.lt).trans hBs) (hr.below (hW.mono hn₀)) h0

theorem KpF.put {n₀ Bs : Nat} {w : World} (hn : n₀ ≤ w.heap.size) (hB : Bs < w.heap.size) (W : World) (l : Nat) (o o' : Obj) (hl : w.heap.size ≤ l) (h : W.heap[l]? = some o) (h1 : o.isCells = false) (h2 : o.isWalk = false) : KpF n₀ Bs W (W.putObj l o') :=
  ⟨belowK_b hn W l o o' hl h h1 h2, World.putObj_heap_other (by omega)⟩

/-- where the slice lies, or there is no frame -/
theorem addr_or {w : World} {B : Nat} {A : Option Addr} {zs : List Int} (hr : Rd .u8 w B A zs) : ∃ b off, A = some ⟨b, off, none⟩ ∨ ∀ k, ¬ isFrame zs k := by
  by_cases h : 0 < zs.length
  · obtain ⟨b, off, e, _⟩ := hr h
    exact ⟨b, off, .inl e⟩
  · exact ⟨0, 0, .inr fun k hf => by have := hf.1; omega⟩

theorem boxed_own' {β : Type} (B : Nat) (t : TypeId) (f : β → Value) (B0 : Nat) : OwnFrom B0 (fun (s : β) W => Boxed W B t (f s)) := by
  intro s W W' row h hg hr
  refine h.kept hg fun e => ?_
  obtain ⟨_, o, ho, hc⟩ := hr B e.symm
  rw [show W.heap[B]? = _ from h] at ho
  cases ho
  cases hc

set_option maxRecDepth 100000 in
set_option maxHeartbeats 2000000 in
theorem iTorn_c {w : World} {v : Value} {zs : List Int} (h : RS .u8 w v zs) (hb : Bytes zs) (hm : zs.length ≤ 16777216) :
    Calls Try.prog 14 #[v] w fun e w' => e = .returned (.bool (tornB zs)) ∧ Below w.heap.size w w' := by
  obtain ⟨A, c, rfl, hc1, hc2, hr⟩ := h
  unfold maxLen at hc2
  obtain ⟨b, off, hA⟩ := addr_or hr
  refine (callsIn_wide (n := 8)).1 ?_
  refine callsIn_of_wp_marks Try.func14 rfl trivial ?_ rfl
  simp only [Try.ntmps14, List.size_toArray, List.length_cons, List.length_nil, Nat.reduceAdd, Nat.reduceSub, Array.replicate_succ, Array.replicate_zero, List.push_toArray, List.append_toArray, List.nil_append, List.cons_append]
  gi_wp2_with fail
  refine ⟨trivial, (callsIn_wide.2 (iGood_c _ _ ⟨_, _, _, rfl⟩)).mono ?_⟩
  rintro e w' ⟨rfl, rfl⟩
  gi_wp2
  have bS := Boxed.new w 3 (.int .i64 0)
  have bB := Boxed.new (w.alloc (.cells #[.int .i64 0] 3)) 22 (.slice A zs.length c)
  rw [World.size_alloc] at bB
  have hB0 : Below w.heap.size w ((w.alloc (.cells #[.int .i64 0] 3)).alloc (.cells #[.slice A zs.length c] 22)) := ((Below.refl _ w).alloc (Nat.le_refl _) _).alloc (by simp) _
  refine wpIn_rangeFunc_ownG rfl (by omega) (gf := 47) (lb := #[.pointer (some ⟨w.heap.size + 1, 0, none⟩)]) rfl trivial (enters_of Try.func47 (by kernel_rfl) rfl)
    (good_stops _ (by omega) (w.heap.size + 1) w.heap.size b off A c zs hA hb hm hc1 hc2 _ bB (by simp; omega) (hr.below hB0)) KpF.trans (KpF.put (by simp; omega) (by simp)) (Below.refl _ _) (fun _ => rfl)
    (fun pre W => Boxed W w.heap.size 3 (.int .i64 (stopOf pre : Int)) ∧ Below w.heap.size w W)
    (fun _ _ _ => False)
    (OwnFrom.and (boxed_own' w.heap.size 3 (fun pre => .int .i64 (stopOf pre : Int)) _) (ownFrom_below (Nat.le_refl _) (by simp; omega)))
    (fun _ _ _ _ _ hs _ _ => hs)
    ⟨bS.alloc _, hB0⟩
    (fun x => { tmps := #[.slice A zs.length c, undef, .bool false, .pointer (some ⟨w.heap.size, 0, none⟩), undef, .int .i64 ((x.1 : Int) + 6 + (lenAt zs x.1 : Int)), .slice A zs.length c, .func (.func 47) #[] #[.pointer (some ⟨w.heap.size + 1, 0, none⟩)], .slice (some ⟨b, off + (x.1 + 6), none⟩) (lenAt zs x.1) (lenAt zs x.1), .int .i64 ((x.1 : Int) + 6 + (lenAt zs x.1 : Int)), undef, undef, undef, undef, undef], defers := [] }) ?assign ?body ?done ?stop
  case assign =>
    intro l x W K hK
    dsimp only [encF]
    gi_wp2
    exact hK
  case body =>
    rintro l pre x W ⟨hs, hB⟩ _
    have hc := hs.cell
    have hf := hs.frozen
    have hE : ((x.1 : Int) + 6 + (lenAt zs x.1 : Int)) = ((stopOf (pre ++ [x]) : Nat) : Int) := by rw [stopOf_snoc]; omega
    have H2 := hs.set (.int .i64 ((x.1 : Int) + 6 + (lenAt zs x.1 : Int)))
    have HE := Lib.hid hE
    clear hE
    gi_wp2
    refine ⟨(KeepsOthers.setCell _ _ _).from _, ⟨(Below.refl w.heap.size W).setCell (p := ⟨w.heap.size, 0, none⟩) (Nat.le_refl _) _, ?_⟩, ?_, hB.setCell (p := ⟨w.heap.size, 0, none⟩) (Nat.le_refl _) _⟩
    · exact Below.heap_setCell _ _ _ _ (by show w.heap.size + 1 ≠ w.heap.size; omega)
    · rw [← HE.out]; exact H2
  case done =>
    rintro D ys W hD ⟨-, hS⟩ ⟨hs, hB⟩ hK
    have hc := hs.cell
    rw [hS] at hc
    have hsb := scan_bounds zs
    obtain ⟨p, hp⟩ : ∃ p, scanP zs = p := ⟨_, rfl⟩
    have ht : decide (p < (zs.length : Int)) = tornB zs := by
      rw [← hp]; unfold tornB
      exact decide_eq_decide.2 (by omega)
    obtain ⟨q, hq⟩ : ∃ q, tornB zs = q := ⟨_, rfl⟩
    rw [hp] at hc hsb
    rw [hq] at ht
    have HQ := Lib.hid hq
    clear hS hp hq
    gi_wp2
    refine ⟨by simp, .inl ⟨_, _, rfl, run_takeDeferred hK, ?_⟩⟩
    exact ⟨_, results_tmp rfl _ _ _, by rw [HQ.out]; rfl, hB.trans (belowK_b (w := w) (Nat.le_refl _) W D _ _ (by simp at hD; omega) hK rfl rfl)⟩
  case stop =>
    rintro D c pre W _ _ h _
    exact h.elim

end Go.Proofs.Ytdempiibbhfijaa
