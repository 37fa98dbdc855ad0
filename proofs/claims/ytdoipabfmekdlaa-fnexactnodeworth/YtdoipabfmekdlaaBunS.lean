/- Texts joined: SAcctS, SOutS, SAccS, TNode. -/
import Derived.Test.YtdoipabfmekdlaaBunA
import Derived.Deep.RegionHeld3
import Derived.Test.YtdoipabfmekdlaaBunB
import Derived.Test.YtdoipabfmekdlaaProg

namespace Go.Proofs.Ytdoipabfmekdlaa
open Go.RowKit
set_option linter.unusedVariables false

def acctSL : Lay (List MAcct) := sliceL 52 5 acctL
/-- what the laws reckon for a slice -/
def sizeAcctS (xs : List MAcct) : Nat := xs.length + sumG MAcct.bulk xs
/-- how many marks an element takes in a slice -/
def MAcct.stepE (d : MAcct) : Nat := 3 + d.steps
/-- an element marked in a slice -/
def MAcct.markE (k : Int) (d : MAcct) : MAcct := MAcct.mark ⟨k, k + 1, k + 1 + 1, d.Marks, d.Reps⟩ (k + 1 + 1 + 1)
theorem MAcct.stepE_le (d : MAcct) : d.stepE ≤ 3 + 2 * d.bulk := by
  have := d.steps_le
  unfold MAcct.stepE; omega
theorem sumAcctE_le (xs : List MAcct) : sumG MAcct.stepE xs ≤ 3 * xs.length + 2 * sumG MAcct.bulk xs := sumG_le MAcct.stepE_le xs
theorem sumAcctE_size (xs : List MAcct) : sumG MAcct.stepE xs ≤ 3 * sizeAcctS xs := by
  have := sumAcctE_le xs
  unfold sizeAcctS; omega

theorem el_acct {w : World} {B : Nat} {A : Option Addr} {xs : List MAcct} {j : Nat} {x : MAcct} (h : RdL acctL 5 w B A xs) (hx : xs[j]? = some x) (hB : B ≤ w.heap.size) :
    ∃ b off AMarks cMarks AReps cReps, A = some ⟨b, off, none⟩ ∧ b < B ∧ w.cell? ⟨b, off + j * 5, none⟩ = some (.int .i64 x.Have) ∧ w.cell? ⟨b, off + j * 5 + 1, none⟩ = some (.int .i64 x.State) ∧ w.cell? ⟨b, off + j * 5 + 2, none⟩ = some (.int .i64 x.By) ∧ w.cell? ⟨b, off + j * 5 + 3, none⟩ = some (.slice AMarks x.Marks.length cMarks) ∧ w.cell? ⟨b, off + j * 5 + 4, none⟩ = some (.slice AReps x.Reps.length cReps) ∧ RS .i64 w (.slice AMarks x.Marks.length cMarks) x.Marks ∧ RV repSL w (.slice AReps x.Reps.length cReps) x.Reps := by
  obtain ⟨b, off, cs, rfl, hb, hl, hc, hr⟩ := h.at_ hx
  replace hr := acctL.rd_more hr hB
  obtain ⟨_, _, rfl, rfl, ⟨_, _, rfl, rfl, ⟨_, _, rfl, rfl, ⟨_, _, rfl, ⟨AMarks, cMarks, rfl, hMarks⟩, ⟨AReps, cReps, rfl, hReps⟩⟩⟩⟩⟩ := hr
  exact ⟨b, off, AMarks, cMarks, AReps, cReps, rfl, hb, hc 0 _ rfl, hc 1 _ rfl, hc 2 _ rfl, hc 3 _ rfl, hc 4 _ rfl, ⟨_, _, rfl, hMarks⟩, ⟨[_], rfl, _, _, rfl, hReps⟩⟩

set_option maxHeartbeats 1000000 in
theorem eqAcctS_any (A A' : Option Addr) (c c' : Nat) (xs : List MAcct) (w : World) (hx : RdL acctL 5 w w.heap.size A xs) (hy : RdL acctL 5 w w.heap.size A' xs) (hm : xs.length ≤ 1073741824) (hm2 : sumG MAcct.bulk xs ≤ 1073741824) :
    Calls Try.prog 45 #[.slice A xs.length c, .slice A' xs.length c'] w fun e w' => e = .returned (.bool true) ∧ Below w.heap.size w w' := by
  go_enter Try.func45, Try.ntmps45
  go_wp2
  go_loopw [5] (fun i wr => ∃ k : Nat, k ≤ xs.length ∧ i = .int .i64 k ∧ Below w.heap.size w wr) (fun i _ => xs.length - (intOf i).toNat)
  case atStart => exact ⟨0, Nat.zero_le _, rfl, Below.refl _ _⟩
  case round =>
    obtain ⟨k, hk, rfl, HB⟩ := hrel
    by_cases hlt : k < xs.length
    · obtain ⟨x, hxe⟩ := get_of_lt hlt
      have hxb := sumG_at (s := MAcct.bulk) hxe
      have hs := HB.size
      obtain ⟨b, off, AMarks, cMarks, AReps, cReps, rfl, hb, yc0, yc1, yc2, yc3, yc4, rMarks, rReps⟩ := el_acct (hx.below HB) hxe hs
      obtain ⟨b', off', AMarksx, cMarksx, ARepsx, cRepsx, rfl, hb', yd0, yd1, yd2, yd3, yd4, rxMarks, rxReps⟩ := el_acct (hy.below HB) hxe hs
      clear hxe
      have i1 : (k : Int) < (xs.length : Int) := by omega
      have hbw : b < wr.heap.size := by omega
      have hbw' : b' < wr.heap.size := by omega
      have va := (rv_acct_mk rMarks rReps : RV acctL wr _ (⟨x.Have, x.State, x.By, x.Marks, x.Reps⟩ : MAcct))
      have vb := (rv_acct_mk rxMarks rxReps : RV acctL wr _ (⟨x.Have, x.State, x.By, x.Marks, x.Reps⟩ : MAcct))
      clear rMarks rxMarks rReps rxReps
      go_wp2_with fail
      go_region_held3 (fun w' => w'.cell? ⟨b, off + k * 5, none⟩ = some (.int .i64 x.Have) ∧ w'.cell? ⟨b, off + k * 5 + 1, none⟩ = some (.int .i64 x.State) ∧ w'.cell? ⟨b, off + k * 5 + 2, none⟩ = some (.int .i64 x.By) ∧ w'.cell? ⟨b, off + k * 5 + 3, none⟩ = some (.slice AMarks x.Marks.length cMarks) ∧ w'.cell? ⟨b, off + k * 5 + 4, none⟩ = some (.slice AReps x.Reps.length cReps) ∧ w'.cell? ⟨b', off' + k * 5, none⟩ = some (.int .i64 x.Have) ∧ w'.cell? ⟨b', off' + k * 5 + 1, none⟩ = some (.int .i64 x.State) ∧ w'.cell? ⟨b', off' + k * 5 + 2, none⟩ = some (.int .i64 x.By) ∧ w'.cell? ⟨b', off' + k * 5 + 3, none⟩ = some (.slice AMarksx x.Marks.length cMarksx) ∧ w'.cell? ⟨b', off' + k * 5 + 4, none⟩ = some (.slice ARepsx x.Reps.length cRepsx))
        (first | exact ⟨yc0, yc1, yc2, yc3, yc4, yd0, yd1, yd2, yd3, yd4⟩ | exact ⟨(hk1 _ hbw).trans yc0, (hk1 _ hbw).trans yc1, (hk1 _ hbw).trans yc2, (hk1 _ hbw).trans yc3, (hk1 _ hbw).trans yc4, (hk1 _ hbw').trans yd0, (hk1 _ hbw').trans yd1, (hk1 _ hbw').trans yd2, (hk1 _ hbw').trans yd3, (hk1 _ hbw').trans yd4⟩)
        (first | (go_at_call 82; refine (eqAcct_same (d := x) va.drew_ vb.drew_ (by omega)).mono ?_; rintro e w1 ⟨rfl, hd1⟩; have hk1 : ∀ p : Addr, p.block < wr.heap.size → w1.cell? p = wr.cell? p := (fun p hp => hd1.cell hp); have hb2 : Below w.heap.size w w1 := HB.drew.trans (hd1.mono HB.size)))
      go_wp2
      go_roundw
      case rel => exact ⟨k + 1, by omega, by go_num, hb2⟩
      case measure => simp [intOf]; omega
    · have hk2 : k = xs.length := by omega
      subst hk2
      go_wp2
      go_ret
      exact ⟨rfl, HB⟩

theorem eqAcctS_same {w : World} {v v' : Value} {xs : List MAcct} (h : RV acctSL w v xs) (h' : RV acctSL w v' xs) (hm : sizeAcctS xs ≤ 1073741824) :
    Calls Try.prog 45 #[v, v'] w fun e w' => e = .returned (.bool true) ∧ Below w.heap.size w w' := by
  unfold sizeAcctS at hm
  obtain ⟨A, c, rfl, _, _, hr⟩ := rv_slice h
  obtain ⟨A', c', rfl, _, _, hr'⟩ := rv_slice h'
  exact eqAcctS_any A A' c c' xs w hr hr' (by omega) (by omega)

set_option maxHeartbeats 2000000 in
theorem markAcctS_own (g c : Nat) (S : List Nat) (xs : List MAcct) (k0 : Int) (w : World) (ho : OwnL acctL 52 5 w S (.slice (some ⟨g, 0, none⟩) xs.length c) xs) (hn : S.Nodup) (hm : xs.length ≤ 1073741824) (hm2 : sumG MAcct.bulk xs ≤ 1073741824) (hk0 : 0 ≤ k0) (hk1 : k0 ≤ 274877906944) :
    Calls Try.prog 53 #[.slice (some ⟨g, 0, none⟩) xs.length c, .int .i64 k0] w (MarkS acctSL w S [.slice (some ⟨g, 0, none⟩) xs.length c] (k0 + (sumG MAcct.stepE xs : Int)) (marksG MAcct.markE MAcct.stepE k0 xs)) := by
  have hst := sumAcctE_le xs
  go_enter Try.func53, Try.ntmps53
  go_wp2
  go_loopw [1, 5] (fun q i wr => ∃ (k : Nat) (z : Int), k ≤ xs.length ∧ i = .int .i64 k ∧ q = .int .i64 z ∧ Hid (z = k0 + (sumG MAcct.stepE (xs.take k) : Int)) ∧ OwnL acctL 52 5 wr S (.slice (some ⟨g, 0, none⟩) xs.length c) (marksG MAcct.markE MAcct.stepE k0 (xs.take k) ++ xs.drop k) ∧ ChgS S w wr) (fun _ i _ => xs.length - (intOf i).toNat)
  case atStart => exact ⟨0, k0, Nat.zero_le _, rfl, rfl, by show _ = _; simp [sumG], by simpa [marksG] using ho, ChgS.refl _ _⟩
  case round =>
    obtain ⟨k, z, hk, rfl, rfl, HZ, hown, hgr⟩ := hrel
    by_cases hlt : k < xs.length
    · obtain ⟨x, hxe⟩ := get_of_lt hlt
      have hxl := sumG_at (s := MAcct.stepE) hxe
      have hxb := sumG_at (s := MAcct.bulk) hxe
      have hxu : x.bulk = x.Marks.length + x.Reps.length := rfl
      have hzb : 0 ≤ z ∧ z + (x.stepE : Int) ≤ 549755813888 := by have := HZ.out; omega
      have hxs : x.stepE = 3 + (x.Marks.length + 2 * x.Reps.length) := rfl
      obtain ⟨cs, T, ys, hcl, -, R0, hcell, hox, hTn, hTS, hgS, hgT, hback⟩ := hown.elM hn (mixG_get (f := MAcct.markE) (s := MAcct.stepE) (k0 := k0) hxe)
      have hq0 : k * 5 < xs.length * 5 := by omega
      have hq1 : k * 5 + 1 < xs.length * 5 := by omega
      have hq2 : k * 5 + 2 < xs.length * 5 := by omega
      have hq3 : k * 5 + 3 < xs.length * 5 := by omega
      have hq4 : k * 5 + 4 < xs.length * 5 := by omega
      have hTlt := acctL.own_lt hox
      obtain ⟨zHave, yHave, SHave, THave, rfl, rfl, oHave, ⟨zState, yState, SState, TState, rfl, rfl, oState, ⟨zBy, yBy, SBy, TBy, rfl, rfl, oBy, ⟨zMarks, yMarks, SMarks, TMarks, rfl, rfl, oMarks, oReps⟩⟩⟩⟩ := hox
      obtain ⟨rfl, rfl⟩ := oHave
      obtain ⟨rfl, rfl⟩ := oState
      obtain ⟨rfl, rfl⟩ := oBy
      obtain ⟨AMarks, cMarks, rfl, -, -, -⟩ := numsL.own_rd oMarks
      obtain ⟨AReps, cReps, rfl, -, -, -⟩ := repSL.own_rd oReps
      obtain ⟨nHave, mHave, dHave, eHave⟩ := nodup_app hTn
      obtain ⟨nState, mState, dState, eState⟩ := nodup_app mHave
      obtain ⟨nBy, mBy, dBy, eBy⟩ := nodup_app mState
      obtain ⟨nMarks, mMarks, dMarks, eMarks⟩ := nodup_app mBy
      obtain ⟨⟨u0, hu0⟩, hf0, w1, e1, R1⟩ := row_step R0 hq0 (.int .i64 (z))
      obtain ⟨⟨u1, hu1⟩, hf1, w2, e2, R2⟩ := row_step R1 hq1 (.int .i64 (z + 1))
      obtain ⟨⟨u2, hu2⟩, hf2, w3, e3, R3⟩ := row_step R2 hq2 (.int .i64 (z + 1 + 1))
      obtain ⟨-, hg⟩ := ownsRow_setAll [.int .i64 (z), .int .i64 (z + 1), .int .i64 (z + 1 + 1)] _ (k * 5) wr R0
      rw [show setAll wr g (k * 5) [.int .i64 (z), .int .i64 (z + 1), .int .i64 (z + 1 + 1)] = w3 by rw [← e3, ← e2, ← e1]; rfl] at hg
      have HROW : w3.ownsRow 0 52 5 (.slice (some ⟨g, 0, none⟩) xs.length c) xs.length (setsL ys (k * 5) [.int .i64 (z), .int .i64 (z + 1), .int .i64 (z + 1 + 1), .slice AMarks x.Marks.length cMarks, .slice AReps x.Reps.length cReps]) := by
        have h1 := setsL_head [.int .i64 (z), .int .i64 (z + 1), .int .i64 (z + 1 + 1)] [.slice AMarks x.Marks.length cMarks, .slice AReps x.Reps.length cReps] ys (k * 5) (fun i u hu => by
          have h2 := (hcell (3 + i) u (by rw [show 3 + i = i + 3 by omega]; exact hu)).1
          rw [← Nat.add_assoc] at h2; exact h2)
        have h3 : setsL ys (k * 5) [.int .i64 (z), .int .i64 (z + 1), .int .i64 (z + 1 + 1), .slice AMarks x.Marks.length cMarks, .slice AReps x.Reps.length cReps] = _ := h1
        rw [h3]; exact R3
      have y3 : w3.cell? ⟨g, k * 5 + 3, none⟩ = some (.slice AMarks x.Marks.length cMarks) := (cell_set (cell_set (cell_set (hcell 3 _ rfl).2 e1 (by intro h; injection h with h1 h2 h3; omega)) e2 (by intro h; injection h with h1 h2 h3; omega)) e3 (by intro h; injection h with h1 h2 h3; omega))
      have y4 : w3.cell? ⟨g, k * 5 + 4, none⟩ = some (.slice AReps x.Reps.length cReps) := (cell_set (cell_set (cell_set (hcell 4 _ rfl).2 e1 (by intro h; injection h with h1 h2 h3; omega)) e2 (by intro h; injection h with h1 h2 h3; omega)) e3 (by intro h; injection h with h1 h2 h3; omega))
      have hgl : g < wr.heap.size := hown.lt g hgS
      have hgs := hg.size
      have hlMarks : ∀ j ∈ SMarks, j < wr.heap.size := fun j hj => hTlt j (List.mem_append.2 (.inr (List.mem_append.2 (.inr (List.mem_append.2 (.inr (List.mem_append.2 (.inl hj))))))))
      have hgMarks : g ∉ SMarks := fun hj => hgT (List.mem_append.2 (.inr (List.mem_append.2 (.inr (List.mem_append.2 (.inr (List.mem_append.2 (.inl hj))))))))
      replace oMarks := numsL.own_keep (w' := w3) oMarks (fun j hj => hg.block j (hlMarks j hj) (fun e => hgMarks ((show j = g by simpa using e) ▸ hj)))
      have hlReps : ∀ j ∈ TMarks, j < wr.heap.size := fun j hj => hTlt j (List.mem_append.2 (.inr (List.mem_append.2 (.inr (List.mem_append.2 (.inr (List.mem_append.2 (.inr hj))))))))
      have hgReps : g ∉ TMarks := fun hj => hgT (List.mem_append.2 (.inr (List.mem_append.2 (.inr (List.mem_append.2 (.inr (List.mem_append.2 (.inr hj))))))))
      replace oReps := repSL.own_keep (w' := w3) oReps (fun j hj => hg.block j (hlReps j hj) (fun e => hgReps ((show j = g by simpa using e) ▸ hj)))
      have HB : Hid (∀ w', acctL.own w' ([] ++ ([] ++ ([] ++ (SMarks ++ (TMarks))))) [.int .i64 (z), .int .i64 (z + 1), .int .i64 (z + 1 + 1), .slice AMarks x.Marks.length cMarks, .slice AReps x.Reps.length cReps] (MAcct.markE z x) → ChgS ([] ++ ([] ++ ([] ++ (SMarks ++ (TMarks))))) w3 w' → OwnL acctL 52 5 w' S (.slice (some ⟨g, 0, none⟩) xs.length c) (marksG MAcct.markE MAcct.stepE k0 (xs.take (k + 1)) ++ xs.drop (k + 1)) ∧ ChgS S w w') := by
        intro w' h1 h2
        obtain ⟨h3, h4⟩ := hback _ _ w' _ rfl HROW hg h1 h2
        rw [HZ.out, mixG_set hxe] at h3
        exact ⟨h3, hgr.trans h4⟩
      have HZ2 : Hid (z + 1 + 1 + 1 + (x.Marks.length : Int) + 2 * (x.Reps.length : Int) = k0 + (sumG MAcct.stepE (xs.take (k + 1)) : Int)) := by
        show _ = _
        rw [sumG_take hxe, HZ.out]; unfold MAcct.stepE MAcct.steps; omega
      have i1 : (k : Int) < (xs.length : Int) := by omega
      have CC : ChgS ([] ++ ([] ++ ([] ++ (SMarks ++ (TMarks))))) w3 w3 := ChgS.refl _ _
      clear hback hcell hxe HROW R0 R1 R2 R3
      go_wp2_with fail
      refine (markIntS_s oMarks (by omega) (by omega) (by omega)).mono ?_
      rintro e v1 ⟨rfl, oMarks, h_v1⟩
      replace oReps := repSL.own_chg oReps h_v1 (fun a ha hj => dMarks a hj (ha))
      replace y4 : v1.cell? ⟨g, k * 5 + 4, none⟩ = some (.slice AReps x.Reps.length cReps) := (cell_of_block (p := ⟨g, k * 5 + 4, none⟩) (h_v1.block g (by omega) hgMarks)).trans y4
      have s_v1 := h_v1.size
      have Cv1 := CC.trans (h_v1.more (fun j hj => List.mem_append.2 (.inr (List.mem_append.2 (.inr (List.mem_append.2 (.inr (List.mem_append.2 (.inl hj)))))))))
      go_wp2_with fail
      refine (markRepS_s oReps (by omega) (by omega) (by omega)).mono ?_
      rintro e v2 ⟨rfl, oReps, h_v2⟩
      replace oMarks := numsL.own_chg oMarks h_v2 (fun a ha hj => dMarks a ha (hj))
      have s_v2 := h_v2.size
      have Cv2 := Cv1.trans (h_v2.more (fun j hj => List.mem_append.2 (.inr (List.mem_append.2 (.inr (List.mem_append.2 (.inr (List.mem_append.2 (.inr hj)))))))))
      obtain ⟨H2, H3⟩ := HB.out v2 ⟨_, _, [], _, rfl, rfl, ⟨rfl, rfl⟩, ⟨_, _, [], _, rfl, rfl, ⟨rfl, rfl⟩, ⟨_, _, [], _, rfl, rfl, ⟨rfl, rfl⟩, ⟨_, _, SMarks, _, rfl, rfl, oMarks, oReps⟩⟩⟩⟩ Cv2
      have HH2 := Lib.hid H2
      have HH3 := Lib.hid H3
      clear H2 H3 HB
      go_wp2
      go_roundw
      case rel => exact ⟨k + 1, z + 1 + 1 + 1 + (x.Marks.length : Int) + 2 * (x.Reps.length : Int), by omega, by go_num, by go_num, HZ2, HH2.out, HH3.out⟩
      case measure => simp [intOf]; omega
    · have hk2 : k = xs.length := by omega
      subst hk2
      have HZ3 : Hid (z = k0 + (sumG MAcct.stepE xs : Int)) := by
        show _ = _
        rw [HZ.out, List.take_of_length_le (Nat.le_refl _)]
      rw [List.take_of_length_le (Nat.le_refl _), List.drop_of_length_le (Nat.le_refl _), List.append_nil] at hown
      clear HZ
      go_wp2
      go_ret
      exact ⟨ret_eq (by rw [← HZ3.out]; rfl), ⟨_, rfl, hown⟩, hgr⟩

set_option maxHeartbeats 400000 in
theorem markAcctS_nil (A : Option Addr) (c : Nat) (S : List Nat) (k0 : Int) (w : World) (ho : OwnL acctL 52 5 w S (.slice A 0 c) []) :
    Calls Try.prog 53 #[.slice A 0 c, .int .i64 k0] w (MarkS acctSL w S [.slice A 0 c] (k0 + (sumG MAcct.stepE [] : Int)) (marksG MAcct.markE MAcct.stepE k0 [])) := by
  go_enter Try.func53, Try.ntmps53
  go_wp2
  refine wp_loop_rounds 1 ?_
  rw [rounds_succ]
  go_wp2
  go_ret
  exact ⟨by simp [sumG], ⟨_, rfl, ho⟩, ChgS.refl _ _⟩

theorem markAcctS_s {w : World} {S : List Nat} {v : Value} {xs : List MAcct} {k : Int} (h : acctSL.own w S [v] xs) (hn : S.Nodup) (hm : xs.length ≤ 1073741824) (hm2 : sumG MAcct.bulk xs ≤ 1073741824) (hk0 : 0 ≤ k) (hk1 : k ≤ 274877906944) :
    Calls Try.prog 53 #[v, .int .i64 k] w (MarkS acctSL w S [v] (k + (sumG MAcct.stepE xs : Int)) (marksG MAcct.markE MAcct.stepE k xs)) := by
  obtain ⟨u, e, ho⟩ := h
  obtain rfl : v = u := by simpa using e
  have ho' := ho
  obtain ⟨cf, sf, hrow, -⟩ := ho'
  rcases hrow.2 with ⟨rfl, h0⟩ | ⟨g, cap, cur, rfl, _⟩
  · obtain rfl : xs = [] := List.eq_nil_of_length_eq_zero h0
    exact markAcctS_nil none 0 S k w ho
  · exact markAcctS_own g cap S xs k w ho hn hm hm2 hk0 hk1

theorem markAcctS_c {w : World} {v : Value} {xs : List MAcct} {lo hi : Nat} {k : Int} (h : OV acctSL w lo hi v xs) (hm : sizeAcctS xs ≤ 1073741824) (hk0 : 0 ≤ k) (hk1 : k ≤ 274877906944) :
    Calls Try.prog 53 #[v, .int .i64 k] w fun e w' => e = .returned (.int .i64 (k + (sumG MAcct.stepE xs : Int))) ∧ OV acctSL w' lo hi v (marksG MAcct.markE MAcct.stepE k xs) ∧ Chg lo hi w w' := by
  unfold sizeAcctS at hm
  obtain ⟨cs, S, rfl, ⟨u, rfl, ho⟩, hn, hS, hh⟩ := h
  exact (markAcctS_s ⟨u, rfl, ho⟩ hn (by omega) (by omega) hk0 hk1).mono fun e w' hM => MarkS.up hM hn hS hh

set_option maxHeartbeats 2000000 in
theorem heldAcctS_any (A : Option Addr) (c : Nat) (xs : List MAcct) (k0 : Int) (w : World) (hr : RdL acctL 5 w w.heap.size A (marksG MAcct.markE MAcct.stepE k0 xs)) (hm : xs.length ≤ 1073741824) (hm2 : sumG MAcct.bulk xs ≤ 1073741824) (hk0 : 0 ≤ k0) (hk1 : k0 ≤ 274877906944) :
    Calls Try.prog 57 #[.slice A xs.length c, .int .i64 k0] w fun e w' => e = .returned (.int .i64 (k0 + (sumG MAcct.stepE xs : Int))) ∧ Below w.heap.size w w' := by
  have hst := sumAcctE_le xs
  go_enter Try.func57, Try.ntmps57
  go_wp2
  go_loopw [1, 5] (fun q i wr => ∃ (k : Nat) (z : Int), k ≤ xs.length ∧ i = .int .i64 k ∧ q = .int .i64 z ∧ Hid (z = k0 + (sumG MAcct.stepE (xs.take k) : Int)) ∧ Below w.heap.size w wr) (fun _ i _ => xs.length - (intOf i).toNat)
  case atStart => exact ⟨0, k0, Nat.zero_le _, rfl, rfl, by show _ = _; simp [sumG], Below.refl _ _⟩
  case round =>
    obtain ⟨k, z, hk, rfl, rfl, HZ, HB⟩ := hrel
    by_cases hlt : k < xs.length
    · obtain ⟨x, hxe⟩ := get_of_lt hlt
      have hxl := sumG_at (s := MAcct.stepE) hxe
      have hxb := sumG_at (s := MAcct.bulk) hxe
      have hxu : x.bulk = x.Marks.length + x.Reps.length := rfl
      have hzb : 0 ≤ z ∧ z + (x.stepE : Int) ≤ 549755813888 := by have := HZ.out; omega
      have hxs : x.stepE = 3 + (x.Marks.length + 2 * x.Reps.length) := rfl
      have hs := HB.size
      have hge := marksG_get (f := MAcct.markE) (s := MAcct.stepE) (k := k0) hxe
      rw [← HZ.out] at hge
      have HZ2 : Hid (z + 1 + 1 + 1 + (x.Marks.length : Int) + 2 * (x.Reps.length : Int) = k0 + (sumG MAcct.stepE (xs.take (k + 1)) : Int)) := by
        show _ = _
        rw [sumG_take hxe, HZ.out]; unfold MAcct.stepE MAcct.steps; omega
      clear hxe HZ
      obtain ⟨b, off, AMarks, cMarks, AReps, cReps, rfl, hb, yc0, yc1, yc2, yc3, yc4, rMarks, rReps⟩ := el_acct (hr.below HB) hge hs
      replace yc0 : wr.cell? ⟨b, off + k * 5, none⟩ = some (.int .i64 (z)) := yc0
      replace yc1 : wr.cell? ⟨b, off + k * 5 + 1, none⟩ = some (.int .i64 (z + 1)) := yc1
      replace yc2 : wr.cell? ⟨b, off + k * 5 + 2, none⟩ = some (.int .i64 (z + 1 + 1)) := yc2
      replace rMarks : RS .i64 wr (.slice AMarks (MAcct.markE z x).Marks.length cMarks) (marks64 (z + 1 + 1 + 1) x.Marks.length) := rMarks
      replace rReps : RV repSL wr (.slice AReps (MAcct.markE z x).Reps.length cReps) (marksRep (z + 1 + 1 + 1 + (x.Marks.length : Int)) x.Reps.length) := rReps
      clear hge
      have i1 : (k : Int) < (xs.length : Int) := by omega
      go_wp2_with fail
      refine (heldIntS_c (n := x.Marks.length) rMarks (by omega) (by omega) (by omega)).mono ?_
      rintro e v1 ⟨rfl, h_v1⟩
      have s_v1 := h_v1.size
      have i2 : decide (z + 1 + 1 + 1 + (x.Marks.length : Int) < 0) = false := decide_eq_false (by omega)
      replace yc4 := (h_v1.cell (p := ⟨b, off + k * 5 + 4, none⟩) (by show b < _; omega)).trans yc4
      replace rReps := rReps.from_ h_v1
      replace HB := HB.trans (h_v1.mono HB.size)
      go_wp2_with fail
      refine (heldRepS_c (N := x.Reps.length) rReps (by omega) (by omega) (by omega)).mono ?_
      rintro e v2 ⟨rfl, h_v2⟩
      have s_v2 := h_v2.size
      have i3 : decide (z + 1 + 1 + 1 + (x.Marks.length : Int) + 2 * (x.Reps.length : Int) < 0) = false := decide_eq_false (by omega)
      replace HB := HB.trans (h_v2.mono HB.size)
      go_wp2
      go_roundw
      case rel => exact ⟨k + 1, z + 1 + 1 + 1 + (x.Marks.length : Int) + 2 * (x.Reps.length : Int), by omega, by go_num, by go_num, HZ2, HB⟩
      case measure => simp [intOf]; omega
    · have hk2 : k = xs.length := by omega
      subst hk2
      have HZ3 : Hid (z = k0 + (sumG MAcct.stepE xs : Int)) := by
        show _ = _
        rw [HZ.out, List.take_of_length_le (Nat.le_refl _)]
      clear HZ
      go_wp2
      go_ret
      exact ⟨ret_eq (by rw [← HZ3.out]; rfl), HB⟩

theorem heldAcctS_c {w : World} {v : Value} {xs : List MAcct} {k : Int} (h : RV acctSL w v (marksG MAcct.markE MAcct.stepE k xs)) (hm : sizeAcctS xs ≤ 1073741824) (hk0 : 0 ≤ k) (hk1 : k ≤ 274877906944) :
    Calls Try.prog 57 #[v, .int .i64 k] w fun e w' => e = .returned (.int .i64 (k + (sumG MAcct.stepE xs : Int))) ∧ Below w.heap.size w w' := by
  unfold sizeAcctS at hm
  obtain ⟨A, c, rfl, _, _, hr⟩ := rv_slice h
  rw [marksG_len]
  exact heldAcctS_any A c xs k w hr (by omega) (by omega) hk0 hk1

set_option maxHeartbeats 1000000 in
theorem szAcctS_any (A : Option Addr) (c : Nat) (xs : List MAcct) (left : Int) (w : World) (hr : RdL acctL 5 w w.heap.size A xs) (hm : xs.length ≤ 9223372036854775807) (h0 : 0 ≤ left) (h1 : left ≤ 1073741824) :
    Calls Try.prog 26 #[.slice A xs.length c, .int .i64 left] w fun e w' => e = .returned (.int .i64 (szV left (sizeAcctS xs : Int))) ∧ Below w.heap.size w w' := by
  by_cases hl : (xs.length : Int) ≤ left
  case neg =>
    have e : szV left (sizeAcctS xs : Int) = -1 := if_neg (by unfold sizeAcctS; omega)
    have g : decide (left - (xs.length : Int) < 0) = true := by simp; omega
    rw [e]
    clear e
    go_enter Try.func26, Try.ntmps26
    go_wp2
    go_ret
    exact ⟨rfl, Below.refl _ _⟩
  have g : decide (left - (xs.length : Int) < 0) = false := by simp; omega
  go_enter Try.func26, Try.ntmps26
  go_wp2
  go_loopw [1, 5] (fun q i wr => ∃ (k : Nat) (z : Int), k ≤ xs.length ∧ i = .int .i64 k ∧ q = .int .i64 z ∧ 0 ≤ z ∧ z ≤ 1073741824 ∧ Hid (z = left - ((xs.length + sumG MAcct.bulk (xs.take k) : Nat) : Int)) ∧ Below w.heap.size w wr) (fun _ i _ => xs.length - (intOf i).toNat)
  case atStart => exact ⟨0, _, Nat.zero_le _, rfl, rfl, by omega, by omega, by show _ = _; simp [sumG], Below.refl _ _⟩
  case round =>
    obtain ⟨k, z, hk, rfl, rfl, hz0, hz1, HZ, HB⟩ := hrel
    by_cases hlt : k < xs.length
    · obtain ⟨x, hxe⟩ := get_of_lt hlt
      have hxl := sumG_at (s := MAcct.bulk) hxe
      have hs := HB.size
      obtain ⟨b, off, AMarks, cMarks, AReps, cReps, rfl, hb, yc0, yc1, yc2, yc3, yc4, rMarks, rReps⟩ := el_acct (hr.below HB) hxe hs
      have va := (rv_acct_mk rMarks rReps : RV acctL wr _ (⟨x.Have, x.State, x.By, x.Marks, x.Reps⟩ : MAcct))
      have hsucc := sumG_take (s := MAcct.bulk) hxe
      have i1 : (k : Int) < (xs.length : Int) := by omega
      by_cases hfit : (x.bulk : Int) ≤ z
      · have HZ2 : Hid (z - (x.bulk : Int) = left - ((xs.length + sumG MAcct.bulk (xs.take (k + 1)) : Nat) : Int)) := by
          show _ = _
          rw [hsucc, HZ.out]; omega
        have HE := Lib.hid (show szV z (x.bulk : Int) = z - (x.bulk : Int) from if_pos hfit)
        clear hxe hsucc rMarks rReps
        go_wp2_with fail
        refine (szAcct_c (d := x) va hz0 (by omega)).mono ?_
        rintro e w1 ⟨rfl, hd1⟩
        have hb2 : Below w.heap.size w w1 := HB.trans (hd1.mono HB.size)
        rw [HE.out]
        have i2 : decide (z - (x.bulk : Int) < 0) = false := decide_eq_false (by omega)
        go_wp2
        go_roundw
        case rel => exact ⟨k + 1, _, by omega, by go_num, rfl, by omega, by omega, HZ2, hb2⟩
        case measure => simp [intOf]; omega
      · have HA := Lib.hid (show szV left (sizeAcctS xs : Int) = -1 from if_neg (by
          have h3 := HZ.out
          unfold sizeAcctS
          omega))
        have HE := Lib.hid (show szV z (x.bulk : Int) = -1 from if_neg hfit)
        clear hxe hsucc rMarks rReps
        go_wp2_with fail
        refine (szAcct_c (d := x) va hz0 (by omega)).mono ?_
        rintro e w1 ⟨rfl, hd1⟩
        have hb2 : Below w.heap.size w w1 := HB.trans (hd1.mono HB.size)
        rw [HE.out]
        go_wp2
        go_ret
        exact ⟨ret_eq (by rw [HA.out]; rfl), hb2⟩
    · have hk2 : k = xs.length := by omega
      subst hk2
      have HA : Hid (szV left (sizeAcctS xs : Int) = z) := by
        show _ = _
        have h3 := HZ.out
        rw [List.take_of_length_le (Nat.le_refl _)] at h3
        unfold szV sizeAcctS
        rw [if_pos (by omega)]; omega
      clear HZ
      go_wp2
      go_ret
      exact ⟨ret_eq (by rw [HA.out]; rfl), HB⟩

theorem szAcctS_c {w : World} {v : Value} {xs : List MAcct} {left : Int} (h : RV acctSL w v xs) (h0 : 0 ≤ left) (h1 : left ≤ 1073741824) :
    Calls Try.prog 26 #[v, .int .i64 left] w fun e w' => e = .returned (.int .i64 (szV left (sizeAcctS xs : Int))) ∧ Below w.heap.size w w' := by
  obtain ⟨A, c, rfl, hc1, hc2, hr⟩ := rv_slice h
  unfold maxLen at hc2
  exact szAcctS_any A c xs left w hr (by omega) h0 h1

theorem own_acct_zero (w : World) : acctL.own w [] [.int .i64 0, .int .i64 0, .int .i64 0, .slice none 0 0, .slice none 0 0] ⟨0, 0, 0, [], []⟩ := ⟨_, _, [], [], rfl, rfl, ⟨rfl, rfl⟩, ⟨_, _, [], [], rfl, rfl, ⟨rfl, rfl⟩, ⟨_, _, [], [], rfl, rfl, ⟨rfl, rfl⟩, ⟨_, _, [], [], rfl, rfl, ⟨_, rfl, World.ownsRow_nil _ _ _ _, rfl⟩, ⟨_, rfl, ownL_nil⟩⟩⟩⟩⟩

theorem Try.info_acct : (Try.prog.info? 52).map (fun i => (i.zero, i.size, i.bytes)) = some (some (.agg #[.int .i64 0, .int .i64 0, .int .i64 0, .slice none 0 0, .slice none 0 0]), 5, 72) := by kernel_rfl

set_option maxHeartbeats 2000000 in
theorem toAcctS_any (A : Option Addr) (c : Nat) (xs : List MAcct) (w : World) (hr : RdL acctL 5 w w.heap.size A xs) (hm : xs.length ≤ 16777216) (hm2 : sumG MAcct.bulk xs ≤ 16777216) :
    Calls Try.prog 37 #[.slice A xs.length c] w (NewV acctSL w xs) := by
  obtain ⟨i0, hi, hz0, hz1, hz2⟩ := info_parts Try.info_acct
  go_enter Try.func37, Try.ntmps37
  go_wp2_with (at_make; refine wpList_make_full _ rfl _ _ 30 rfl w.heap.size 52 i0 (.agg #[.int .i64 0, .int .i64 0, .int .i64 0, .slice none 0 0, .slice none 0 0]) 5 Try.underlying30 hi hz0 hz1 .i64 .i64 _ _ xs.length rfl rfl rfl rfl ?c1 ?c2 ?c3 ?_)
  case c1 => rw [hz2]; omega
  case c2 => unfold maxLen; omega
  case c3 => exact Nat.le_refl _
  intro w1 hown1 hg1
  have hb1 : Below w.heap.size w w1 := (Below.refl _ _).grown hg1 (Nat.le_refl _) (by intro k hk; cases hk)
  have hlt1 := World.ownsRow.lt hown1 w.heap.size rfl
  have ho1 : OV acctSL w1 w.heap.size w1.heap.size (.slice (some ⟨w.heap.size, 0, none⟩) xs.length xs.length) (xs.take 0 ++ List.replicate (xs.length - 0) ⟨0, 0, 0, [], []⟩) := by
    have h2 : w1.ownsRow 0 52 5 (.slice (some ⟨w.heap.size, 0, none⟩) xs.length xs.length) xs.length (flat (fun _ => [.int .i64 0, .int .i64 0, .int .i64 0, .slice none 0 0, .slice none 0 0]) xs.length) := by
      rw [flat_made _ _ (by decide)]
      refine ⟨hown1.1, ?_⟩
      rcases hown1.2 with h4 | ⟨g, cap, cur, hv, hg, r⟩
      · exact .inl h4
      · exact .inr ⟨g, cap, cur, hv, Nat.zero_le _, r⟩
    have h5 := ownL_made (L := acctL) (z := ⟨0, 0, 0, [], []⟩) (own_acct_zero w1) rfl h2
    refine ⟨[_], _, rfl, ⟨_, rfl, by simpa using h5⟩, by simp [Value.ownBlock], fun j hj => ?_, Nat.le_refl _⟩
    obtain rfl : j = w.heap.size := by simpa [Value.ownBlock] using hj
    exact hlt1
  clear hown1 hg1 hlt1
  go_wp2
  go_loopw [4] (fun i wr => ∃ k : Nat, k ≤ xs.length ∧ i = .int .i64 k ∧ OV acctSL wr w.heap.size wr.heap.size (.slice (some ⟨w.heap.size, 0, none⟩) xs.length xs.length) (xs.take k ++ List.replicate (xs.length - k) ⟨0, 0, 0, [], []⟩) ∧ Below w.heap.size w wr) (fun i _ => xs.length - (intOf i).toNat)
  case atStart => exact ⟨0, Nat.zero_le _, rfl, ho1, hb1⟩
  case round =>
    obtain ⟨k, hk, rfl, hown, hbr⟩ := hrel
    have hsz := hbr.size
    by_cases hlt : k < xs.length
    · obtain ⟨x, hxe⟩ := get_of_lt hlt
      have hxb := sumG_at (s := MAcct.bulk) hxe
      obtain ⟨b, off, AMarks, cMarks, AReps, cReps, rfl, hb, yc0, yc1, yc2, yc3, yc4, rMarks, rReps⟩ := el_acct (hr.below hbr) hxe hsz
      have va := (rv_acct_mk rMarks rReps : RV acctL wr _ (⟨x.Have, x.State, x.By, x.Marks, x.Reps⟩ : MAcct))
      have HX := Lib.hid hxe
      clear hxe rMarks rReps
      have i1 : (k : Int) < (xs.length : Int) := by omega
      go_wp2_with fail
      refine (toAcct_c (w := wr) (d := x) va (by omega)).mono ?_
      rintro e w2 ⟨v2, rfl, o2, hb2⟩
      have s2 := hb2.size
      obtain ⟨cs2, T, hv2, hT, hTn, hTr, -⟩ := o2
      obtain ⟨AMarks2, cMarks2, AReps2, cReps2, rfl⟩ := cs_acct (acctL.own_rd hT)
      obtain rfl : v2 = .agg #[.int .i64 x.Have, .int .i64 x.State, .int .i64 x.By, .slice AMarks2 x.Marks.length cMarks2, .slice AReps2 x.Reps.length cReps2] := hv2
      have hown2 := hown.below hb2
      have hl := fill_lenL (d := (⟨0, 0, 0, [], []⟩ : MAcct)) xs k hk
      obtain ⟨H2, H3, -, -⟩ := hown2.putM (j := k) (by rw [hl]; exact hlt) rfl hT hTn hTr hsz s2 (Nat.le_refl _)
      obtain ⟨ys, R0⟩ := hown2.rowOf
      have hq0 : k * 5 < xs.length * 5 := by omega
      have hq1 : k * 5 + 1 < xs.length * 5 := by omega
      have hq2 : k * 5 + 2 < xs.length * 5 := by omega
      have hq3 : k * 5 + 3 < xs.length * 5 := by omega
      have hq4 : k * 5 + 4 < xs.length * 5 := by omega
      obtain ⟨⟨u0, hu0⟩, hf0, w3, e1, R1⟩ := row_step R0 hq0 (.int .i64 x.Have)
      obtain ⟨⟨u1, hu1⟩, hf1, w4, e2, R2⟩ := row_step R1 hq1 (.int .i64 x.State)
      obtain ⟨⟨u2, hu2⟩, hf2, w5, e3, R3⟩ := row_step R2 hq2 (.int .i64 x.By)
      obtain ⟨⟨u3, hu3⟩, hf3, w6, e4, R4⟩ := row_step R3 hq3 (.slice AMarks2 x.Marks.length cMarks2)
      obtain ⟨⟨u4, hu4⟩, hf4, w7, e5, R5⟩ := row_step R4 hq4 (.slice AReps2 x.Reps.length cReps2)
      rw [fill_stepL xs k HX.out, show setAll w2 w.heap.size (k * 5) [.int .i64 x.Have, .int .i64 x.State, .int .i64 x.By, .slice AMarks2 x.Marks.length cMarks2, .slice AReps2 x.Reps.length cReps2] = w7 by rw [← e5, ← e4, ← e3, ← e2, ← e1]; rfl] at H2
      rw [show setAll w2 w.heap.size (k * 5) [.int .i64 x.Have, .int .i64 x.State, .int .i64 x.By, .slice AMarks2 x.Marks.length cMarks2, .slice AReps2 x.Reps.length cReps2] = w7 by rw [← e5, ← e4, ← e3, ← e2, ← e1]; rfl] at H3
      have s3 := H3.size
      have hl2 := H2.widen (Nat.le_refl _) s3 (Nat.le_refl _)
      have hb3 : Below w.heap.size w w7 := (hbr.trans (hb2.mono hsz)).grown H3 (Nat.le_trans hsz s2) (fun j hj => Nat.le_of_eq (by simpa using hj))
      have HR2 := Lib.hid hl2
      clear H2 H3 hl2 hl hown hown2 s3 hT hTn hTr R0 hq0 R1 hq1 R2 hq2 R3 hq3 R4 hq4 R5
      go_wp2
      go_roundw
      case rel => exact ⟨k + 1, by omega, by go_num, HR2.out, hb3⟩
      case measure => simp [intOf]; omega
    · have hk2 : k = xs.length := by omega
      subst hk2
      rw [Nat.sub_self, List.replicate_zero, List.append_nil, List.take_of_length_le (Nat.le_refl _)] at hown
      go_wp2
      go_ret
      exact ⟨_, rfl, hown, hbr⟩

theorem toAcctS_c {w : World} {v : Value} {xs : List MAcct} (h : RV acctSL w v xs) (hm : sizeAcctS xs ≤ 16777216) : Calls Try.prog 37 #[v] w (NewV acctSL w xs) := by
  unfold sizeAcctS at hm
  obtain ⟨A, c, rfl, _, _, hr⟩ := rv_slice h
  exact toAcctS_any A c xs w hr (by omega) (by omega)

end Go.Proofs.Ytdoipabfmekdlaa

namespace Go.Proofs.Ytdoipabfmekdlaa
open Go.RowKit
set_option linter.unusedVariables false

def outSL : Lay (List MOut) := sliceL 59 2 outL
/-- what the laws reckon for a slice -/
def sizeOutS (xs : List MOut) : Nat := xs.length + sumG MOut.bulk xs
/-- how many marks an element takes in a slice -/
def MOut.stepE (d : MOut) : Nat := 1 + d.steps
/-- an element marked in a slice -/
def MOut.markE (k : Int) (d : MOut) : MOut := MOut.mark ⟨k, d.List⟩ (k + 1)
theorem MOut.stepE_le (d : MOut) : d.stepE ≤ 1 + 4 * d.bulk := by
  have := d.steps_le
  unfold MOut.stepE; omega
theorem sumOutE_le (xs : List MOut) : sumG MOut.stepE xs ≤ 1 * xs.length + 4 * sumG MOut.bulk xs := sumG_le MOut.stepE_le xs
theorem sumOutE_size (xs : List MOut) : sumG MOut.stepE xs ≤ 4 * sizeOutS xs := by
  have := sumOutE_le xs
  unfold sizeOutS; omega

theorem el_out {w : World} {B : Nat} {A : Option Addr} {xs : List MOut} {j : Nat} {x : MOut} (h : RdL outL 2 w B A xs) (hx : xs[j]? = some x) (hB : B ≤ w.heap.size) :
    ∃ b off AList cList, A = some ⟨b, off, none⟩ ∧ b < B ∧ w.cell? ⟨b, off + j * 2, none⟩ = some (.int .i64 x.Next) ∧ w.cell? ⟨b, off + j * 2 + 1, none⟩ = some (.slice AList x.List.length cList) ∧ RV msgSL w (.slice AList x.List.length cList) x.List := by
  obtain ⟨b, off, cs, rfl, hb, hl, hc, hr⟩ := h.at_ hx
  replace hr := outL.rd_more hr hB
  obtain ⟨_, _, rfl, rfl, ⟨AList, cList, rfl, hList⟩⟩ := hr
  exact ⟨b, off, AList, cList, rfl, hb, hc 0 _ rfl, hc 1 _ rfl, ⟨[_], rfl, _, _, rfl, hList⟩⟩

set_option maxHeartbeats 1000000 in
theorem eqOutS_any (A A' : Option Addr) (c c' : Nat) (xs : List MOut) (w : World) (hx : RdL outL 2 w w.heap.size A xs) (hy : RdL outL 2 w w.heap.size A' xs) (hm : xs.length ≤ 1073741824) (hm2 : sumG MOut.bulk xs ≤ 1073741824) :
    Calls Try.prog 46 #[.slice A xs.length c, .slice A' xs.length c'] w fun e w' => e = .returned (.bool true) ∧ Below w.heap.size w w' := by
  go_enter Try.func46, Try.ntmps46
  go_wp2
  go_loopw [5] (fun i wr => ∃ k : Nat, k ≤ xs.length ∧ i = .int .i64 k ∧ Below w.heap.size w wr) (fun i _ => xs.length - (intOf i).toNat)
  case atStart => exact ⟨0, Nat.zero_le _, rfl, Below.refl _ _⟩
  case round =>
    obtain ⟨k, hk, rfl, HB⟩ := hrel
    by_cases hlt : k < xs.length
    · obtain ⟨x, hxe⟩ := get_of_lt hlt
      have hxb := sumG_at (s := MOut.bulk) hxe
      have hs := HB.size
      obtain ⟨b, off, AList, cList, rfl, hb, yc0, yc1, rList⟩ := el_out (hx.below HB) hxe hs
      obtain ⟨b', off', AListx, cListx, rfl, hb', yd0, yd1, rxList⟩ := el_out (hy.below HB) hxe hs
      clear hxe
      have i1 : (k : Int) < (xs.length : Int) := by omega
      have hbw : b < wr.heap.size := by omega
      have hbw' : b' < wr.heap.size := by omega
      have va := (rv_out_mk rList : RV outL wr _ (⟨x.Next, x.List⟩ : MOut))
      have vb := (rv_out_mk rxList : RV outL wr _ (⟨x.Next, x.List⟩ : MOut))
      clear rList rxList
      go_wp2_with fail
      go_region_held3 (fun w' => w'.cell? ⟨b, off + k * 2, none⟩ = some (.int .i64 x.Next) ∧ w'.cell? ⟨b, off + k * 2 + 1, none⟩ = some (.slice AList x.List.length cList) ∧ w'.cell? ⟨b', off' + k * 2, none⟩ = some (.int .i64 x.Next) ∧ w'.cell? ⟨b', off' + k * 2 + 1, none⟩ = some (.slice AListx x.List.length cListx))
        (first | exact ⟨yc0, yc1, yd0, yd1⟩ | exact ⟨(hk1 _ hbw).trans yc0, (hk1 _ hbw).trans yc1, (hk1 _ hbw').trans yd0, (hk1 _ hbw').trans yd1⟩)
        (first | (go_at_call 83; refine (eqOut_same (d := x) va.drew_ vb.drew_ (by omega)).mono ?_; rintro e w1 ⟨rfl, hd1⟩; have hk1 : ∀ p : Addr, p.block < wr.heap.size → w1.cell? p = wr.cell? p := (fun p hp => hd1.cell hp); have hb2 : Below w.heap.size w w1 := HB.drew.trans (hd1.mono HB.size)))
      go_wp2
      go_roundw
      case rel => exact ⟨k + 1, by omega, by go_num, hb2⟩
      case measure => simp [intOf]; omega
    · have hk2 : k = xs.length := by omega
      subst hk2
      go_wp2
      go_ret
      exact ⟨rfl, HB⟩

theorem eqOutS_same {w : World} {v v' : Value} {xs : List MOut} (h : RV outSL w v xs) (h' : RV outSL w v' xs) (hm : sizeOutS xs ≤ 1073741824) :
    Calls Try.prog 46 #[v, v'] w fun e w' => e = .returned (.bool true) ∧ Below w.heap.size w w' := by
  unfold sizeOutS at hm
  obtain ⟨A, c, rfl, _, _, hr⟩ := rv_slice h
  obtain ⟨A', c', rfl, _, _, hr'⟩ := rv_slice h'
  exact eqOutS_any A A' c c' xs w hr hr' (by omega) (by omega)

set_option maxHeartbeats 2000000 in
theorem markOutS_own (g c : Nat) (S : List Nat) (xs : List MOut) (k0 : Int) (w : World) (ho : OwnL outL 59 2 w S (.slice (some ⟨g, 0, none⟩) xs.length c) xs) (hn : S.Nodup) (hm : xs.length ≤ 1073741824) (hm2 : sumG MOut.bulk xs ≤ 1073741824) (hk0 : 0 ≤ k0) (hk1 : k0 ≤ 274877906944) :
    Calls Try.prog 54 #[.slice (some ⟨g, 0, none⟩) xs.length c, .int .i64 k0] w (MarkS outSL w S [.slice (some ⟨g, 0, none⟩) xs.length c] (k0 + (sumG MOut.stepE xs : Int)) (marksG MOut.markE MOut.stepE k0 xs)) := by
  have hst := sumOutE_le xs
  go_enter Try.func54, Try.ntmps54
  go_wp2
  go_loopw [1, 5] (fun q i wr => ∃ (k : Nat) (z : Int), k ≤ xs.length ∧ i = .int .i64 k ∧ q = .int .i64 z ∧ Hid (z = k0 + (sumG MOut.stepE (xs.take k) : Int)) ∧ OwnL outL 59 2 wr S (.slice (some ⟨g, 0, none⟩) xs.length c) (marksG MOut.markE MOut.stepE k0 (xs.take k) ++ xs.drop k) ∧ ChgS S w wr) (fun _ i _ => xs.length - (intOf i).toNat)
  case atStart => exact ⟨0, k0, Nat.zero_le _, rfl, rfl, by show _ = _; simp [sumG], by simpa [marksG] using ho, ChgS.refl _ _⟩
  case round =>
    obtain ⟨k, z, hk, rfl, rfl, HZ, hown, hgr⟩ := hrel
    by_cases hlt : k < xs.length
    · obtain ⟨x, hxe⟩ := get_of_lt hlt
      have hxl := sumG_at (s := MOut.stepE) hxe
      have hxb := sumG_at (s := MOut.bulk) hxe
      have hxu : x.bulk = x.List.length := rfl
      have hzb : 0 ≤ z ∧ z + (x.stepE : Int) ≤ 549755813888 := by have := HZ.out; omega
      have hxs : x.stepE = 1 + (4 * x.List.length) := rfl
      obtain ⟨cs, T, ys, hcl, -, R0, hcell, hox, hTn, hTS, hgS, hgT, hback⟩ := hown.elM hn (mixG_get (f := MOut.markE) (s := MOut.stepE) (k0 := k0) hxe)
      have hq0 : k * 2 < xs.length * 2 := by omega
      have hq1 : k * 2 + 1 < xs.length * 2 := by omega
      have hTlt := outL.own_lt hox
      obtain ⟨zNext, yNext, SNext, TNext, rfl, rfl, oNext, oList⟩ := hox
      obtain ⟨rfl, rfl⟩ := oNext
      obtain ⟨AList, cList, rfl, -, -, -⟩ := msgSL.own_rd oList
      obtain ⟨nNext, mNext, dNext, eNext⟩ := nodup_app hTn
      obtain ⟨⟨u0, hu0⟩, hf0, w1, e1, R1⟩ := row_step R0 hq0 (.int .i64 (z))
      obtain ⟨-, hg⟩ := ownsRow_setAll [.int .i64 (z)] _ (k * 2) wr R0
      rw [show setAll wr g (k * 2) [.int .i64 (z)] = w1 by rw [← e1]; rfl] at hg
      have HROW : w1.ownsRow 0 59 2 (.slice (some ⟨g, 0, none⟩) xs.length c) xs.length (setsL ys (k * 2) [.int .i64 (z), .slice AList x.List.length cList]) := by
        have h1 := setsL_head [.int .i64 (z)] [.slice AList x.List.length cList] ys (k * 2) (fun i u hu => by
          have h2 := (hcell (1 + i) u (by rw [show 1 + i = i + 1 by omega]; exact hu)).1
          rw [← Nat.add_assoc] at h2; exact h2)
        have h3 : setsL ys (k * 2) [.int .i64 (z), .slice AList x.List.length cList] = _ := h1
        rw [h3]; exact R1
      have y1 : w1.cell? ⟨g, k * 2 + 1, none⟩ = some (.slice AList x.List.length cList) := (cell_set (hcell 1 _ rfl).2 e1 (by intro h; injection h with h1 h2 h3; omega))
      have hgl : g < wr.heap.size := hown.lt g hgS
      have hgs := hg.size
      have hlList : ∀ j ∈ TNext, j < wr.heap.size := fun j hj => hTlt j (List.mem_append.2 (.inr hj))
      have hgList : g ∉ TNext := fun hj => hgT (List.mem_append.2 (.inr hj))
      replace oList := msgSL.own_keep (w' := w1) oList (fun j hj => hg.block j (hlList j hj) (fun e => hgList ((show j = g by simpa using e) ▸ hj)))
      have HB : Hid (∀ w', outL.own w' ([] ++ (TNext)) [.int .i64 (z), .slice AList x.List.length cList] (MOut.markE z x) → ChgS ([] ++ (TNext)) w1 w' → OwnL outL 59 2 w' S (.slice (some ⟨g, 0, none⟩) xs.length c) (marksG MOut.markE MOut.stepE k0 (xs.take (k + 1)) ++ xs.drop (k + 1)) ∧ ChgS S w w') := by
        intro w' h1 h2
        obtain ⟨h3, h4⟩ := hback _ _ w' _ rfl HROW hg h1 h2
        rw [HZ.out, mixG_set hxe] at h3
        exact ⟨h3, hgr.trans h4⟩
      have HZ2 : Hid (z + 1 + 4 * (x.List.length : Int) = k0 + (sumG MOut.stepE (xs.take (k + 1)) : Int)) := by
        show _ = _
        rw [sumG_take hxe, HZ.out]; unfold MOut.stepE MOut.steps; omega
      have i1 : (k : Int) < (xs.length : Int) := by omega
      have CC : ChgS ([] ++ (TNext)) w1 w1 := ChgS.refl _ _
      clear hback hcell hxe HROW R0 R1
      go_wp2_with fail
      refine (markMsgS_s oList (by omega) (by omega) (by omega)).mono ?_
      rintro e v1 ⟨rfl, oList, h_v1⟩
      have s_v1 := h_v1.size
      have Cv1 := CC.trans (h_v1.more (fun j hj => List.mem_append.2 (.inr hj)))
      obtain ⟨H2, H3⟩ := HB.out v1 ⟨_, _, [], _, rfl, rfl, ⟨rfl, rfl⟩, oList⟩ Cv1
      have HH2 := Lib.hid H2
      have HH3 := Lib.hid H3
      clear H2 H3 HB
      go_wp2
      go_roundw
      case rel => exact ⟨k + 1, z + 1 + 4 * (x.List.length : Int), by omega, by go_num, by go_num, HZ2, HH2.out, HH3.out⟩
      case measure => simp [intOf]; omega
    · have hk2 : k = xs.length := by omega
      subst hk2
      have HZ3 : Hid (z = k0 + (sumG MOut.stepE xs : Int)) := by
        show _ = _
        rw [HZ.out, List.take_of_length_le (Nat.le_refl _)]
      rw [List.take_of_length_le (Nat.le_refl _), List.drop_of_length_le (Nat.le_refl _), List.append_nil] at hown
      clear HZ
      go_wp2
      go_ret
      exact ⟨ret_eq (by rw [← HZ3.out]; rfl), ⟨_, rfl, hown⟩, hgr⟩

set_option maxHeartbeats 400000 in
theorem markOutS_nil (A : Option Addr) (c : Nat) (S : List Nat) (k0 : Int) (w : World) (ho : OwnL outL 59 2 w S (.slice A 0 c) []) :
    Calls Try.prog 54 #[.slice A 0 c, .int .i64 k0] w (MarkS outSL w S [.slice A 0 c] (k0 + (sumG MOut.stepE [] : Int)) (marksG MOut.markE MOut.stepE k0 [])) := by
  go_enter Try.func54, Try.ntmps54
  go_wp2
  refine wp_loop_rounds 1 ?_
  rw [rounds_succ]
  go_wp2
  go_ret
  exact ⟨by simp [sumG], ⟨_, rfl, ho⟩, ChgS.refl _ _⟩

theorem markOutS_s {w : World} {S : List Nat} {v : Value} {xs : List MOut} {k : Int} (h : outSL.own w S [v] xs) (hn : S.Nodup) (hm : xs.length ≤ 1073741824) (hm2 : sumG MOut.bulk xs ≤ 1073741824) (hk0 : 0 ≤ k) (hk1 : k ≤ 274877906944) :
    Calls Try.prog 54 #[v, .int .i64 k] w (MarkS outSL w S [v] (k + (sumG MOut.stepE xs : Int)) (marksG MOut.markE MOut.stepE k xs)) := by
  obtain ⟨u, e, ho⟩ := h
  obtain rfl : v = u := by simpa using e
  have ho' := ho
  obtain ⟨cf, sf, hrow, -⟩ := ho'
  rcases hrow.2 with ⟨rfl, h0⟩ | ⟨g, cap, cur, rfl, _⟩
  · obtain rfl : xs = [] := List.eq_nil_of_length_eq_zero h0
    exact markOutS_nil none 0 S k w ho
  · exact markOutS_own g cap S xs k w ho hn hm hm2 hk0 hk1

theorem markOutS_c {w : World} {v : Value} {xs : List MOut} {lo hi : Nat} {k : Int} (h : OV outSL w lo hi v xs) (hm : sizeOutS xs ≤ 1073741824) (hk0 : 0 ≤ k) (hk1 : k ≤ 274877906944) :
    Calls Try.prog 54 #[v, .int .i64 k] w fun e w' => e = .returned (.int .i64 (k + (sumG MOut.stepE xs : Int))) ∧ OV outSL w' lo hi v (marksG MOut.markE MOut.stepE k xs) ∧ Chg lo hi w w' := by
  unfold sizeOutS at hm
  obtain ⟨cs, S, rfl, ⟨u, rfl, ho⟩, hn, hS, hh⟩ := h
  exact (markOutS_s ⟨u, rfl, ho⟩ hn (by omega) (by omega) hk0 hk1).mono fun e w' hM => MarkS.up hM hn hS hh

set_option maxHeartbeats 2000000 in
theorem heldOutS_any (A : Option Addr) (c : Nat) (xs : List MOut) (k0 : Int) (w : World) (hr : RdL outL 2 w w.heap.size A (marksG MOut.markE MOut.stepE k0 xs)) (hm : xs.length ≤ 1073741824) (hm2 : sumG MOut.bulk xs ≤ 1073741824) (hk0 : 0 ≤ k0) (hk1 : k0 ≤ 274877906944) :
    Calls Try.prog 58 #[.slice A xs.length c, .int .i64 k0] w fun e w' => e = .returned (.int .i64 (k0 + (sumG MOut.stepE xs : Int))) ∧ Below w.heap.size w w' := by
  have hst := sumOutE_le xs
  go_enter Try.func58, Try.ntmps58
  go_wp2
  go_loopw [1, 5] (fun q i wr => ∃ (k : Nat) (z : Int), k ≤ xs.length ∧ i = .int .i64 k ∧ q = .int .i64 z ∧ Hid (z = k0 + (sumG MOut.stepE (xs.take k) : Int)) ∧ Below w.heap.size w wr) (fun _ i _ => xs.length - (intOf i).toNat)
  case atStart => exact ⟨0, k0, Nat.zero_le _, rfl, rfl, by show _ = _; simp [sumG], Below.refl _ _⟩
  case round =>
    obtain ⟨k, z, hk, rfl, rfl, HZ, HB⟩ := hrel
    by_cases hlt : k < xs.length
    · obtain ⟨x, hxe⟩ := get_of_lt hlt
      have hxl := sumG_at (s := MOut.stepE) hxe
      have hxb := sumG_at (s := MOut.bulk) hxe
      have hxu : x.bulk = x.List.length := rfl
      have hzb : 0 ≤ z ∧ z + (x.stepE : Int) ≤ 549755813888 := by have := HZ.out; omega
      have hxs : x.stepE = 1 + (4 * x.List.length) := rfl
      have hs := HB.size
      have hge := marksG_get (f := MOut.markE) (s := MOut.stepE) (k := k0) hxe
      rw [← HZ.out] at hge
      have HZ2 : Hid (z + 1 + 4 * (x.List.length : Int) = k0 + (sumG MOut.stepE (xs.take (k + 1)) : Int)) := by
        show _ = _
        rw [sumG_take hxe, HZ.out]; unfold MOut.stepE MOut.steps; omega
      clear hxe HZ
      obtain ⟨b, off, AList, cList, rfl, hb, yc0, yc1, rList⟩ := el_out (hr.below HB) hge hs
      replace yc0 : wr.cell? ⟨b, off + k * 2, none⟩ = some (.int .i64 (z)) := yc0
      replace rList : RV msgSL wr (.slice AList (MOut.markE z x).List.length cList) (marksMsg (z + 1) x.List.length) := rList
      clear hge
      have i1 : (k : Int) < (xs.length : Int) := by omega
      go_wp2_with fail
      refine (heldMsgS_c (N := x.List.length) rList (by omega) (by omega) (by omega)).mono ?_
      rintro e v1 ⟨rfl, h_v1⟩
      have s_v1 := h_v1.size
      have i2 : decide (z + 1 + 4 * (x.List.length : Int) < 0) = false := decide_eq_false (by omega)
      replace HB := HB.trans (h_v1.mono HB.size)
      go_wp2
      go_roundw
      case rel => exact ⟨k + 1, z + 1 + 4 * (x.List.length : Int), by omega, by go_num, by go_num, HZ2, HB⟩
      case measure => simp [intOf]; omega
    · have hk2 : k = xs.length := by omega
      subst hk2
      have HZ3 : Hid (z = k0 + (sumG MOut.stepE xs : Int)) := by
        show _ = _
        rw [HZ.out, List.take_of_length_le (Nat.le_refl _)]
      clear HZ
      go_wp2
      go_ret
      exact ⟨ret_eq (by rw [← HZ3.out]; rfl), HB⟩

theorem heldOutS_c {w : World} {v : Value} {xs : List MOut} {k : Int} (h : RV outSL w v (marksG MOut.markE MOut.stepE k xs)) (hm : sizeOutS xs ≤ 1073741824) (hk0 : 0 ≤ k) (hk1 : k ≤ 274877906944) :
    Calls Try.prog 58 #[v, .int .i64 k] w fun e w' => e = .returned (.int .i64 (k + (sumG MOut.stepE xs : Int))) ∧ Below w.heap.size w w' := by
  unfold sizeOutS at hm
  obtain ⟨A, c, rfl, _, _, hr⟩ := rv_slice h
  rw [marksG_len]
  exact heldOutS_any A c xs k w hr (by omega) (by omega) hk0 hk1

set_option maxHeartbeats 1000000 in
theorem szOutS_any (A : Option Addr) (c : Nat) (xs : List MOut) (left : Int) (w : World) (hr : RdL outL 2 w w.heap.size A xs) (hm : xs.length ≤ 9223372036854775807) (h0 : 0 ≤ left) (h1 : left ≤ 1073741824) :
    Calls Try.prog 27 #[.slice A xs.length c, .int .i64 left] w fun e w' => e = .returned (.int .i64 (szV left (sizeOutS xs : Int))) ∧ Below w.heap.size w w' := by
  by_cases hl : (xs.length : Int) ≤ left
  case neg =>
    have e : szV left (sizeOutS xs : Int) = -1 := if_neg (by unfold sizeOutS; omega)
    have g : decide (left - (xs.length : Int) < 0) = true := by simp; omega
    rw [e]
    clear e
    go_enter Try.func27, Try.ntmps27
    go_wp2
    go_ret
    exact ⟨rfl, Below.refl _ _⟩
  have g : decide (left - (xs.length : Int) < 0) = false := by simp; omega
  go_enter Try.func27, Try.ntmps27
  go_wp2
  go_loopw [1, 5] (fun q i wr => ∃ (k : Nat) (z : Int), k ≤ xs.length ∧ i = .int .i64 k ∧ q = .int .i64 z ∧ 0 ≤ z ∧ z ≤ 1073741824 ∧ Hid (z = left - ((xs.length + sumG MOut.bulk (xs.take k) : Nat) : Int)) ∧ Below w.heap.size w wr) (fun _ i _ => xs.length - (intOf i).toNat)
  case atStart => exact ⟨0, _, Nat.zero_le _, rfl, rfl, by omega, by omega, by show _ = _; simp [sumG], Below.refl _ _⟩
  case round =>
    obtain ⟨k, z, hk, rfl, rfl, hz0, hz1, HZ, HB⟩ := hrel
    by_cases hlt : k < xs.length
    · obtain ⟨x, hxe⟩ := get_of_lt hlt
      have hxl := sumG_at (s := MOut.bulk) hxe
      have hs := HB.size
      obtain ⟨b, off, AList, cList, rfl, hb, yc0, yc1, rList⟩ := el_out (hr.below HB) hxe hs
      have va := (rv_out_mk rList : RV outL wr _ (⟨x.Next, x.List⟩ : MOut))
      have hsucc := sumG_take (s := MOut.bulk) hxe
      have i1 : (k : Int) < (xs.length : Int) := by omega
      by_cases hfit : (x.bulk : Int) ≤ z
      · have HZ2 : Hid (z - (x.bulk : Int) = left - ((xs.length + sumG MOut.bulk (xs.take (k + 1)) : Nat) : Int)) := by
          show _ = _
          rw [hsucc, HZ.out]; omega
        have HE := Lib.hid (show szV z (x.bulk : Int) = z - (x.bulk : Int) from if_pos hfit)
        clear hxe hsucc rList
        go_wp2_with fail
        refine (szOut_c (d := x) va hz0 (by omega)).mono ?_
        rintro e w1 ⟨rfl, hd1⟩
        have hb2 : Below w.heap.size w w1 := HB.trans (hd1.mono HB.size)
        rw [HE.out]
        have i2 : decide (z - (x.bulk : Int) < 0) = false := decide_eq_false (by omega)
        go_wp2
        go_roundw
        case rel => exact ⟨k + 1, _, by omega, by go_num, rfl, by omega, by omega, HZ2, hb2⟩
        case measure => simp [intOf]; omega
      · have HA := Lib.hid (show szV left (sizeOutS xs : Int) = -1 from if_neg (by
          have h3 := HZ.out
          unfold sizeOutS
          omega))
        have HE := Lib.hid (show szV z (x.bulk : Int) = -1 from if_neg hfit)
        clear hxe hsucc rList
        go_wp2_with fail
        refine (szOut_c (d := x) va hz0 (by omega)).mono ?_
        rintro e w1 ⟨rfl, hd1⟩
        have hb2 : Below w.heap.size w w1 := HB.trans (hd1.mono HB.size)
        rw [HE.out]
        go_wp2
        go_ret
        exact ⟨ret_eq (by rw [HA.out]; rfl), hb2⟩
    · have hk2 : k = xs.length := by omega
      subst hk2
      have HA : Hid (szV left (sizeOutS xs : Int) = z) := by
        show _ = _
        have h3 := HZ.out
        rw [List.take_of_length_le (Nat.le_refl _)] at h3
        unfold szV sizeOutS
        rw [if_pos (by omega)]; omega
      clear HZ
      go_wp2
      go_ret
      exact ⟨ret_eq (by rw [HA.out]; rfl), HB⟩

theorem szOutS_c {w : World} {v : Value} {xs : List MOut} {left : Int} (h : RV outSL w v xs) (h0 : 0 ≤ left) (h1 : left ≤ 1073741824) :
    Calls Try.prog 27 #[v, .int .i64 left] w fun e w' => e = .returned (.int .i64 (szV left (sizeOutS xs : Int))) ∧ Below w.heap.size w w' := by
  obtain ⟨A, c, rfl, hc1, hc2, hr⟩ := rv_slice h
  unfold maxLen at hc2
  exact szOutS_any A c xs left w hr (by omega) h0 h1

theorem own_out_zero (w : World) : outL.own w [] [.int .i64 0, .slice none 0 0] ⟨0, []⟩ := ⟨_, _, [], [], rfl, rfl, ⟨rfl, rfl⟩, ⟨_, rfl, ownL_nil⟩⟩

theorem Try.info_out : (Try.prog.info? 59).map (fun i => (i.zero, i.size, i.bytes)) = some (some (.agg #[.int .i64 0, .slice none 0 0]), 2, 32) := by kernel_rfl

set_option maxHeartbeats 2000000 in
theorem toOutS_any (A : Option Addr) (c : Nat) (xs : List MOut) (w : World) (hr : RdL outL 2 w w.heap.size A xs) (hm : xs.length ≤ 16777216) (hm2 : sumG MOut.bulk xs ≤ 16777216) :
    Calls Try.prog 38 #[.slice A xs.length c] w (NewV outSL w xs) := by
  obtain ⟨i0, hi, hz0, hz1, hz2⟩ := info_parts Try.info_out
  go_enter Try.func38, Try.ntmps38
  go_wp2_with (at_make; refine wpList_make_full _ rfl _ _ 31 rfl w.heap.size 59 i0 (.agg #[.int .i64 0, .slice none 0 0]) 2 Try.underlying31 hi hz0 hz1 .i64 .i64 _ _ xs.length rfl rfl rfl rfl ?c1 ?c2 ?c3 ?_)
  case c1 => rw [hz2]; omega
  case c2 => unfold maxLen; omega
  case c3 => exact Nat.le_refl _
  intro w1 hown1 hg1
  have hb1 : Below w.heap.size w w1 := (Below.refl _ _).grown hg1 (Nat.le_refl _) (by intro k hk; cases hk)
  have hlt1 := World.ownsRow.lt hown1 w.heap.size rfl
  have ho1 : OV outSL w1 w.heap.size w1.heap.size (.slice (some ⟨w.heap.size, 0, none⟩) xs.length xs.length) (xs.take 0 ++ List.replicate (xs.length - 0) ⟨0, []⟩) := by
    have h2 : w1.ownsRow 0 59 2 (.slice (some ⟨w.heap.size, 0, none⟩) xs.length xs.length) xs.length (flat (fun _ => [.int .i64 0, .slice none 0 0]) xs.length) := by
      rw [flat_made _ _ (by decide)]
      refine ⟨hown1.1, ?_⟩
      rcases hown1.2 with h4 | ⟨g, cap, cur, hv, hg, r⟩
      · exact .inl h4
      · exact .inr ⟨g, cap, cur, hv, Nat.zero_le _, r⟩
    have h5 := ownL_made (L := outL) (z := ⟨0, []⟩) (own_out_zero w1) rfl h2
    refine ⟨[_], _, rfl, ⟨_, rfl, by simpa using h5⟩, by simp [Value.ownBlock], fun j hj => ?_, Nat.le_refl _⟩
    obtain rfl : j = w.heap.size := by simpa [Value.ownBlock] using hj
    exact hlt1
  clear hown1 hg1 hlt1
  go_wp2
  go_loopw [4] (fun i wr => ∃ k : Nat, k ≤ xs.length ∧ i = .int .i64 k ∧ OV outSL wr w.heap.size wr.heap.size (.slice (some ⟨w.heap.size, 0, none⟩) xs.length xs.length) (xs.take k ++ List.replicate (xs.length - k) ⟨0, []⟩) ∧ Below w.heap.size w wr) (fun i _ => xs.length - (intOf i).toNat)
  case atStart => exact ⟨0, Nat.zero_le _, rfl, ho1, hb1⟩
  case round =>
    obtain ⟨k, hk, rfl, hown, hbr⟩ := hrel
    have hsz := hbr.size
    by_cases hlt : k < xs.length
    · obtain ⟨x, hxe⟩ := get_of_lt hlt
      have hxb := sumG_at (s := MOut.bulk) hxe
      obtain ⟨b, off, AList, cList, rfl, hb, yc0, yc1, rList⟩ := el_out (hr.below hbr) hxe hsz
      have va := (rv_out_mk rList : RV outL wr _ (⟨x.Next, x.List⟩ : MOut))
      have HX := Lib.hid hxe
      clear hxe rList
      have i1 : (k : Int) < (xs.length : Int) := by omega
      go_wp2_with fail
      refine (toOut_c (w := wr) (d := x) va (by omega)).mono ?_
      rintro e w2 ⟨v2, rfl, o2, hb2⟩
      have s2 := hb2.size
      obtain ⟨cs2, T, hv2, hT, hTn, hTr, -⟩ := o2
      obtain ⟨AList2, cList2, rfl⟩ := cs_out (outL.own_rd hT)
      obtain rfl : v2 = .agg #[.int .i64 x.Next, .slice AList2 x.List.length cList2] := hv2
      have hown2 := hown.below hb2
      have hl := fill_lenL (d := (⟨0, []⟩ : MOut)) xs k hk
      obtain ⟨H2, H3, -, -⟩ := hown2.putM (j := k) (by rw [hl]; exact hlt) rfl hT hTn hTr hsz s2 (Nat.le_refl _)
      obtain ⟨ys, R0⟩ := hown2.rowOf
      have hq0 : k * 2 < xs.length * 2 := by omega
      have hq1 : k * 2 + 1 < xs.length * 2 := by omega
      obtain ⟨⟨u0, hu0⟩, hf0, w3, e1, R1⟩ := row_step R0 hq0 (.int .i64 x.Next)
      obtain ⟨⟨u1, hu1⟩, hf1, w4, e2, R2⟩ := row_step R1 hq1 (.slice AList2 x.List.length cList2)
      rw [fill_stepL xs k HX.out, show setAll w2 w.heap.size (k * 2) [.int .i64 x.Next, .slice AList2 x.List.length cList2] = w4 by rw [← e2, ← e1]; rfl] at H2
      rw [show setAll w2 w.heap.size (k * 2) [.int .i64 x.Next, .slice AList2 x.List.length cList2] = w4 by rw [← e2, ← e1]; rfl] at H3
      have s3 := H3.size
      have hl2 := H2.widen (Nat.le_refl _) s3 (Nat.le_refl _)
      have hb3 : Below w.heap.size w w4 := (hbr.trans (hb2.mono hsz)).grown H3 (Nat.le_trans hsz s2) (fun j hj => Nat.le_of_eq (by simpa using hj))
      have HR2 := Lib.hid hl2
      clear H2 H3 hl2 hl hown hown2 s3 hT hTn hTr R0 hq0 R1 hq1 R2
      go_wp2
      go_roundw
      case rel => exact ⟨k + 1, by omega, by go_num, HR2.out, hb3⟩
      case measure => simp [intOf]; omega
    · have hk2 : k = xs.length := by omega
      subst hk2
      rw [Nat.sub_self, List.replicate_zero, List.append_nil, List.take_of_length_le (Nat.le_refl _)] at hown
      go_wp2
      go_ret
      exact ⟨_, rfl, hown, hbr⟩

theorem toOutS_c {w : World} {v : Value} {xs : List MOut} (h : RV outSL w v xs) (hm : sizeOutS xs ≤ 16777216) : Calls Try.prog 38 #[v] w (NewV outSL w xs) := by
  unfold sizeOutS at hm
  obtain ⟨A, c, rfl, _, _, hr⟩ := rv_slice h
  exact toOutS_any A c xs w hr (by omega) (by omega)

end Go.Proofs.Ytdoipabfmekdlaa

namespace Go.Proofs.Ytdoipabfmekdlaa
open Go.RowKit
set_option linter.unusedVariables false

def accSL : Lay (List MAcc) := sliceL 56 3 accL

theorem el_acc {w : World} {B : Nat} {A : Option Addr} {xs : List MAcc} {j : Nat} {x : MAcc} (h : RdL accL 3 w B A xs) (hx : xs[j]? = some x) :
    ∃ b off, A = some ⟨b, off, none⟩ ∧ b < B ∧ w.cell? ⟨b, off + j * 3, none⟩ = some (.int .i64 x.Prom) ∧ w.cell? ⟨b, off + j * 3 + 1, none⟩ = some (.int .i64 x.Bal) ∧ w.cell? ⟨b, off + j * 3 + 2, none⟩ = some (.int .i64 x.Val) := by
  obtain ⟨b, off, cs, rfl, hb, hl, hc, hr⟩ := h.at_ hx
  obtain rfl := cs_acc hr
  exact ⟨b, off, rfl, hb, hc 0 _ rfl, hc 1 _ rfl, hc 2 _ rfl⟩

set_option maxHeartbeats 400000 in
theorem eqAccS_any (A A' : Option Addr) (c c' : Nat) (xs : List MAcc) (w : World) (hx : RdL accL 3 w w.heap.size A xs) (hy : RdL accL 3 w w.heap.size A' xs) (hm : xs.length ≤ 1073741824) :
    Calls Try.prog 48 #[.slice A xs.length c, .slice A' xs.length c'] w fun e w' => e = .returned (.bool true) ∧ Below w.heap.size w w' := by
  go_enter Try.func48, Try.ntmps48
  go_wp2
  go_loopw [5] (fun i wr => ∃ k : Nat, k ≤ xs.length ∧ i = .int .i64 k ∧ Below w.heap.size w wr) (fun i _ => xs.length - (intOf i).toNat)
  case atStart => exact ⟨0, Nat.zero_le _, rfl, Below.refl _ _⟩
  case round =>
    obtain ⟨k, hk, rfl, HB⟩ := hrel
    by_cases hlt : k < xs.length
    · obtain ⟨x, hxe⟩ := get_of_lt hlt
      obtain ⟨b, off, rfl, hb, c0, c1, c2⟩ := el_acc (hx.below HB) hxe
      obtain ⟨b', off', rfl, hb', d0, d1, d2⟩ := el_acc (hy.below HB) hxe
      clear hxe
      have i1 : (k : Int) < (xs.length : Int) := by omega
      have hs := HB.size
      have hbw : b < wr.heap.size := by omega
      have hbw' : b' < wr.heap.size := by omega
      go_wp2_with fail
      go_region_held3 (fun w' => w'.cell? ⟨b, off + k * 3, none⟩ = some (.int .i64 x.Prom) ∧ w'.cell? ⟨b, off + k * 3 + 1, none⟩ = some (.int .i64 x.Bal) ∧ w'.cell? ⟨b, off + k * 3 + 2, none⟩ = some (.int .i64 x.Val) ∧ w'.cell? ⟨b', off' + k * 3, none⟩ = some (.int .i64 x.Prom) ∧ w'.cell? ⟨b', off' + k * 3 + 1, none⟩ = some (.int .i64 x.Bal) ∧ w'.cell? ⟨b', off' + k * 3 + 2, none⟩ = some (.int .i64 x.Val))
        (first | exact ⟨c0, c1, c2, d0, d1, d2⟩ | exact ⟨(hk1 _ hbw).trans c0, (hk1 _ hbw).trans c1, (hk1 _ hbw).trans c2, (hk1 _ hbw').trans d0, (hk1 _ hbw').trans d1, (hk1 _ hbw').trans d2⟩)
        (first | (go_at_call 84; refine (eqAcc_same (d := x) rv_acc_mk rv_acc_mk).mono ?_; rintro e w1 ⟨rfl, hd1⟩; have hk1 : ∀ p : Addr, p.block < wr.heap.size → w1.cell? p = wr.cell? p := (fun p hp => hd1.cell hp); have hb2 : Below w.heap.size w w1 := HB.drew.trans (hd1.mono HB.size)))
      go_wp2
      go_roundw
      case rel => exact ⟨k + 1, by omega, by go_num, hb2⟩
      case measure => simp [intOf]; omega
    · have hk2 : k = xs.length := by omega
      subst hk2
      go_wp2
      go_ret
      exact ⟨rfl, HB⟩

theorem eqAccS_same {w : World} {v v' : Value} {xs : List MAcc} (h : RV accSL w v xs) (h' : RV accSL w v' xs) (hm : xs.length ≤ 1073741824) :
    Calls Try.prog 48 #[v, v'] w fun e w' => e = .returned (.bool true) ∧ Below w.heap.size w w' := by
  obtain ⟨A, c, rfl, _, _, hr⟩ := rv_slice h
  obtain ⟨A', c', rfl, _, _, hr'⟩ := rv_slice h'
  exact eqAccS_any A A' c c' xs w hr hr' hm

/-- the marks that a marking lays, element behind element -/
def marksAcc (k : Int) (N : Nat) : List MAcc := (List.range N).map fun (i : Nat) => ⟨k + 3 * (i : Int), k + 3 * (i : Int) + 1, k + 3 * (i : Int) + 2⟩
theorem marksAcc_len (k : Int) (N : Nat) : (marksAcc k N).length = N := by simp [marksAcc]
theorem marksAcc_succ (k : Int) (N : Nat) : marksAcc k (N + 1) = marksAcc k N ++ [⟨k + 3 * (N : Int), k + 3 * (N : Int) + 1, k + 3 * (N : Int) + 2⟩] := by simp [marksAcc, List.range_succ]
theorem marksAcc_get (k : Int) {N j : Nat} (h : j < N) : (marksAcc k N)[j]? = some ⟨k + 3 * (j : Int), k + 3 * (j : Int) + 1, k + 3 * (j : Int) + 2⟩ := by simp [marksAcc, h]
theorem mixAcc_set {xs : List MAcc} {k0 : Int} {k : Nat} {x : MAcc} (h : k < xs.length) (hx : x = ⟨k0 + 3 * (k : Int), k0 + 3 * (k : Int) + 1, k0 + 3 * (k : Int) + 2⟩) : (marksAcc k0 k ++ xs.drop k).set k x = marksAcc k0 (k + 1) ++ xs.drop (k + 1) := by
  have e : (marksAcc k0 k).length = k := marksAcc_len _ _
  rw [List.set_append, if_neg (by omega), e, Nat.sub_self, List.drop_eq_getElem_cons h, List.set_cons_zero, marksAcc_succ, hx, List.append_assoc]
  rfl

theorem own_acc (w : World) (d : MAcc) : accL.own w [] [.int .i64 d.Prom, .int .i64 d.Bal, .int .i64 d.Val] d := by
  have h := ovp_acc (w := w) (d := d) (lo := 0) (hi := 0) (Nat.zero_le _)
  obtain ⟨S, ho, hn, hS⟩ := h
  obtain rfl : S = [] := List.eq_nil_iff_forall_not_mem.2 fun j hj => by have := hS j hj; omega
  exact ho
theorem own_acc_nil (w : World) (T : List Nat) (cs : List Value) (x : MAcc) (h : accL.own w T cs x) : T = [] := by
  obtain ⟨_, _, _, _, -, rfl, ⟨-, rfl⟩, ⟨_, _, _, _, -, rfl, ⟨-, rfl⟩, ⟨-, rfl⟩⟩⟩ := h
  rfl

set_option maxHeartbeats 1000000 in
theorem markAccS_own (g c : Nat) (S : List Nat) (xs : List MAcc) (k0 : Int) (w : World) (ho : OwnL accL 56 3 w S (.slice (some ⟨g, 0, none⟩) xs.length c) xs) (hm : xs.length ≤ 1073741824) (hk0 : 0 ≤ k0) (hk1 : k0 ≤ 549755813888) :
    Calls Try.prog 56 #[.slice (some ⟨g, 0, none⟩) xs.length c, .int .i64 k0] w (MarkS accSL w S [.slice (some ⟨g, 0, none⟩) xs.length c] (k0 + 3 * (xs.length : Int)) (marksAcc k0 xs.length)) := by
  go_enter Try.func56, Try.ntmps56
  go_wp2
  go_loopw [1, 5] (fun q i wr => ∃ (k : Nat) (z : Int), k ≤ xs.length ∧ i = .int .i64 k ∧ q = .int .i64 z ∧ Hid (z = k0 + 3 * (k : Int)) ∧ OwnL accL 56 3 wr S (.slice (some ⟨g, 0, none⟩) xs.length c) (marksAcc k0 k ++ xs.drop k) ∧ ChgS S w wr) (fun _ i _ => xs.length - (intOf i).toNat)
  case atStart => exact ⟨0, k0, Nat.zero_le _, rfl, rfl, by show _ = _; simp, by simpa [marksAcc] using ho, ChgS.refl _ _⟩
  case round =>
    obtain ⟨k, z, hk, rfl, rfl, HZ, hown, hgr⟩ := hrel
    by_cases hlt : k < xs.length
    · have hl : k < (marksAcc k0 k ++ xs.drop k).length := by rw [List.length_append, marksAcc_len, List.length_drop]; omega
      have hzb : 0 ≤ z ∧ z ≤ 1099511627776 := by have := HZ.out; omega
      obtain ⟨ys, R0⟩ := hown.rowOf
      have hq0 : k * 3 < xs.length * 3 := by omega
      have hq1 : k * 3 + 1 < xs.length * 3 := by omega
      have hq2 : k * 3 + 2 < xs.length * 3 := by omega
      obtain ⟨⟨u0, hu0⟩, hf0, w1, e1, R1⟩ := row_step R0 hq0 (.int .i64 (z))
      obtain ⟨⟨u1, hu1⟩, hf1, w2, e2, R2⟩ := row_step R1 hq1 (.int .i64 (z + 1))
      obtain ⟨⟨u2, hu2⟩, hf2, w3, e3, R3⟩ := row_step R2 hq2 (.int .i64 (z + 1 + 1))
      obtain ⟨H2, H3⟩ := hown.lay own_acc_nil (j := k) (cs := [.int .i64 (z), .int .i64 (z + 1), .int .i64 (z + 1 + 1)]) (x := ⟨z, z + 1, z + 1 + 1⟩) hl rfl (own_acc _ ⟨z, z + 1, z + 1 + 1⟩)
      rw [mixAcc_set hlt (by have := HZ.out; simp only [MAcc.mk.injEq]; omega), show setAll wr g (k * 3) [.int .i64 (z), .int .i64 (z + 1), .int .i64 (z + 1 + 1)] = w3 by rw [← e3, ← e2, ← e1]; rfl] at H2
      rw [show setAll wr g (k * 3) [.int .i64 (z), .int .i64 (z + 1), .int .i64 (z + 1 + 1)] = w3 by rw [← e3, ← e2, ← e1]; rfl] at H3
      replace H3 := hgr.trans H3
      have HZ2 : Hid (z + 3 = k0 + 3 * ((k + 1 : Nat) : Int)) := by
        show _ = _
        have := HZ.out
        omega
      have i1 : (k : Int) < (xs.length : Int) := by omega
      have HH2 := Lib.hid H2
      have HH3 := Lib.hid H3
      clear H2 H3 hl hown hgr HZ R0 hq0 R1 hq1 R2 hq2 R3
      go_wp2
      go_roundw
      case rel => exact ⟨k + 1, z + 3, by omega, by go_num, by go_num, HZ2, HH2.out, HH3.out⟩
      case measure => simp [intOf]; omega
    · have hk2 : k = xs.length := by omega
      subst hk2
      rw [List.drop_of_length_le (Nat.le_refl _), List.append_nil] at hown
      go_wp2
      go_ret
      exact ⟨ret_eq (by rw [← HZ.out]; rfl), ⟨_, rfl, hown⟩, hgr⟩

set_option maxHeartbeats 400000 in
theorem markAccS_nil (A : Option Addr) (c : Nat) (S : List Nat) (k0 : Int) (w : World) (ho : OwnL accL 56 3 w S (.slice A 0 c) []) :
    Calls Try.prog 56 #[.slice A 0 c, .int .i64 k0] w (MarkS accSL w S [.slice A 0 c] (k0 + 3 * ((0 : Nat) : Int)) (marksAcc k0 0)) := by
  go_enter Try.func56, Try.ntmps56
  go_wp2
  refine wp_loop_rounds 1 ?_
  rw [rounds_succ]
  go_wp2
  go_ret
  exact ⟨by simp, ⟨_, rfl, ho⟩, ChgS.refl _ _⟩

theorem markAccS_s {w : World} {S : List Nat} {v : Value} {xs : List MAcc} {k : Int} (h : accSL.own w S [v] xs) (hm : xs.length ≤ 1073741824) (hk0 : 0 ≤ k) (hk1 : k ≤ 549755813888) :
    Calls Try.prog 56 #[v, .int .i64 k] w (MarkS accSL w S [v] (k + 3 * (xs.length : Int)) (marksAcc k xs.length)) := by
  obtain ⟨u, e, ho⟩ := h
  obtain rfl : v = u := by simpa using e
  have ho' := ho
  obtain ⟨cf, sf, hrow, -⟩ := ho'
  rcases hrow.2 with ⟨rfl, h0⟩ | ⟨g, cap, cur, rfl, _⟩
  · obtain rfl : xs = [] := List.eq_nil_of_length_eq_zero h0
    exact markAccS_nil none 0 S k w ho
  · exact markAccS_own g cap S xs k w ho hm hk0 hk1

theorem markAccS_c {w : World} {v : Value} {xs : List MAcc} {lo hi : Nat} {k : Int} (h : OV accSL w lo hi v xs) (hm : xs.length ≤ 1073741824) (hk0 : 0 ≤ k) (hk1 : k ≤ 549755813888) :
    Calls Try.prog 56 #[v, .int .i64 k] w fun e w' => e = .returned (.int .i64 (k + 3 * (xs.length : Int))) ∧ OV accSL w' lo hi v (marksAcc k xs.length) ∧ Chg lo hi w w' := by
  obtain ⟨cs, S, rfl, ⟨u, rfl, ho⟩, hn, hS, hh⟩ := h
  exact (markAccS_s ⟨u, rfl, ho⟩ hm hk0 hk1).mono fun e w' hM => MarkS.up hM hn hS hh

set_option maxHeartbeats 1000000 in
theorem heldAccS_any (A : Option Addr) (c B N : Nat) (k0 : Int) (w : World) (hr : RdL accL 3 w B A (marksAcc k0 N)) (hm : N ≤ 1073741824) (hk0 : 0 ≤ k0) (hk1 : k0 ≤ 549755813888) :
    Calls Try.prog 60 #[.slice A N c, .int .i64 k0] w fun e w' => e = .returned (.int .i64 (k0 + 3 * (N : Int))) ∧ w = w' := by
  go_enter Try.func60, Try.ntmps60
  go_wp2
  go_loop [1, 5] (fun q i => ∃ (k : Nat) (z : Int), k ≤ N ∧ i = .int .i64 k ∧ q = .int .i64 z ∧ Hid (z = k0 + 3 * (k : Int))) (fun _ i => N - (intOf i).toNat)
  case atStart => exact ⟨0, k0, Nat.zero_le _, rfl, rfl, by show _ = _; simp⟩
  case round =>
    obtain ⟨k, z, hk, rfl, rfl, HZ⟩ := hrel
    by_cases hlt : k < N
    · have hge := marksAcc_get k0 hlt
      rw [← HZ.out] at hge
      obtain ⟨b, off, rfl, hb, c0, c1, c2⟩ := el_acc hr hge
      have hzb : 0 ≤ z ∧ z ≤ 1099511627776 := by have := HZ.out; omega
      have HZ2 : Hid (z + 3 = k0 + 3 * ((k + 1 : Nat) : Int)) := by
        show _ = _
        have := HZ.out
        omega
      clear hge HZ
      have i1 : (k : Int) < (N : Int) := by omega
      go_wp2
      go_round
      case rel => exact ⟨k + 1, z + 3, by omega, by go_num, by go_num, HZ2⟩
      case measure => simp [intOf]; omega
    · have hk2 : k = N := by omega
      subst hk2
      go_wp2
      go_ret
      exact ⟨ret_eq (by rw [← HZ.out]; rfl), rfl⟩

theorem heldAccS_c {w : World} {v : Value} {N : Nat} {k : Int} (h : RV accSL w v (marksAcc k N)) (hm : N ≤ 1073741824) (hk0 : 0 ≤ k) (hk1 : k ≤ 549755813888) :
    Calls Try.prog 60 #[v, .int .i64 k] w fun e w' => e = .returned (.int .i64 (k + 3 * (N : Int))) ∧ Below w.heap.size w w' := by
  obtain ⟨A, c, rfl, _, _, hr⟩ := rv_slice h
  rw [marksAcc_len]
  exact (heldAccS_any A c _ N k w hr hm hk0 hk1).mono fun e w' ⟨he, hw⟩ => ⟨he, by rw [← hw]; exact Below.refl _ _⟩

set_option maxHeartbeats 400000 in
theorem szAccS_c {w : World} {v : Value} {xs : List MAcc} {left : Int} (h : RV accSL w v xs) (h0 : 0 ≤ left) (h1 : left ≤ 1099511627776) :
    Calls Try.prog 29 #[v, .int .i64 left] w fun e w' => e = .returned (.int .i64 (szV left (xs.length : Int))) ∧ Below w.heap.size w w' := by
  obtain ⟨A, c, rfl, hc1, hc2, hr⟩ := rv_slice h
  unfold maxLen at hc2
  by_cases hl : (xs.length : Int) ≤ left
  · have e : szV left (xs.length : Int) = left - (xs.length : Int) := if_pos hl
    have g : decide (left - (xs.length : Int) < 0) = false := by simp; omega
    rw [e]
    clear e
    go_enter Try.func29, Try.ntmps29
    go_wp2
    go_ret
    exact ⟨rfl, Below.refl _ _⟩
  · have e : szV left (xs.length : Int) = -1 := if_neg hl
    have g : decide (left - (xs.length : Int) < 0) = true := by simp; omega
    rw [e]
    clear e
    go_enter Try.func29, Try.ntmps29
    go_wp2
    go_ret
    exact ⟨rfl, Below.refl _ _⟩

theorem Try.info_acc : (Try.prog.info? 56).map (fun i => (i.zero, i.size, i.bytes)) = some (some (.agg #[.int .i64 0, .int .i64 0, .int .i64 0]), 3, 24) := by kernel_rfl

set_option maxHeartbeats 1000000 in
theorem toAccS_any (A : Option Addr) (c : Nat) (xs : List MAcc) (w : World) (hr : RdL accL 3 w w.heap.size A xs) (hm : xs.length ≤ 16777216) :
    Calls Try.prog 40 #[.slice A xs.length c] w (NewV accSL w xs) := by
  obtain ⟨i0, hi, hz0, hz1, hz2⟩ := info_parts Try.info_acc
  go_enter Try.func40, Try.ntmps40
  go_wp2_with (at_make; refine wpList_make_full _ rfl _ _ 32 rfl w.heap.size 56 i0 (.agg #[.int .i64 0, .int .i64 0, .int .i64 0]) 3 Try.underlying32 hi hz0 hz1 .i64 .i64 _ _ xs.length rfl rfl rfl rfl ?c1 ?c2 ?c3 ?_)
  case c1 => rw [hz2]; omega
  case c2 => unfold maxLen; omega
  case c3 => exact Nat.le_refl _
  intro w1 hown1 hg1
  have hb1 : Below w.heap.size w w1 := (Below.refl _ _).grown hg1 (Nat.le_refl _) (by intro k hk; cases hk)
  have hlt1 := World.ownsRow.lt hown1 w.heap.size rfl
  have ho1 : OV accSL w1 w.heap.size w1.heap.size (.slice (some ⟨w.heap.size, 0, none⟩) xs.length xs.length) (xs.take 0 ++ List.replicate (xs.length - 0) ⟨0, 0, 0⟩) := by
    have h2 : w1.ownsRow 0 56 3 (.slice (some ⟨w.heap.size, 0, none⟩) xs.length xs.length) xs.length (flat (fun _ => [.int .i64 0, .int .i64 0, .int .i64 0]) xs.length) := by
      rw [flat_made _ _ (by decide)]
      refine ⟨hown1.1, ?_⟩
      rcases hown1.2 with h4 | ⟨g, cap, cur, hv, hg, r⟩
      · exact .inl h4
      · exact .inr ⟨g, cap, cur, hv, Nat.zero_le _, r⟩
    have h5 := ownL_made (L := accL) (z := ⟨0, 0, 0⟩) (own_acc w1 ⟨0, 0, 0⟩) rfl h2
    refine ⟨[_], _, rfl, ⟨_, rfl, by simpa using h5⟩, by simp [Value.ownBlock], fun j hj => ?_, Nat.le_refl _⟩
    obtain rfl : j = w.heap.size := by simpa [Value.ownBlock] using hj
    exact hlt1
  clear hown1 hg1 hlt1
  go_wp2
  go_loopw [4] (fun i wr => ∃ k : Nat, k ≤ xs.length ∧ i = .int .i64 k ∧ OV accSL wr w.heap.size wr.heap.size (.slice (some ⟨w.heap.size, 0, none⟩) xs.length xs.length) (xs.take k ++ List.replicate (xs.length - k) ⟨0, 0, 0⟩) ∧ Below w.heap.size w wr) (fun i _ => xs.length - (intOf i).toNat)
  case atStart => exact ⟨0, Nat.zero_le _, rfl, ho1, hb1⟩
  case round =>
    obtain ⟨k, hk, rfl, hown, hbr⟩ := hrel
    have hsz := hbr.size
    by_cases hlt : k < xs.length
    · obtain ⟨x, hxe⟩ := get_of_lt hlt
      obtain ⟨b, off, rfl, hb, c0, c1, c2⟩ := el_acc (hr.below hbr) hxe
      have HX := Lib.hid hxe
      clear hxe
      have i1 : (k : Int) < (xs.length : Int) := by omega
      go_wp2_with fail
      refine (toAcc_c (w := wr) (d := x) rv_acc_mk).mono ?_
      rintro e w2 ⟨v2, rfl, o2, hb2⟩
      have s2 := hb2.size
      obtain rfl := rv_acc o2.rd
      have hown2 := hown.below hb2
      have hl := fill_lenL (d := (⟨0, 0, 0⟩ : MAcc)) xs k hk
      obtain ⟨H2, H3⟩ := hown2.lay own_acc_nil (j := k) (cs := [.int .i64 x.Prom, .int .i64 x.Bal, .int .i64 x.Val]) (x := x) (by rw [hl]; exact hlt) rfl (own_acc _ x)
      obtain ⟨ys, R0⟩ := hown2.rowOf
      have hq0 : k * 3 < xs.length * 3 := by omega
      have hq1 : k * 3 + 1 < xs.length * 3 := by omega
      have hq2 : k * 3 + 2 < xs.length * 3 := by omega
      obtain ⟨⟨u0, hu0⟩, hf0, w3, e1, R1⟩ := row_step R0 hq0 (.int .i64 x.Prom)
      obtain ⟨⟨u1, hu1⟩, hf1, w4, e2, R2⟩ := row_step R1 hq1 (.int .i64 x.Bal)
      obtain ⟨⟨u2, hu2⟩, hf2, w5, e3, R3⟩ := row_step R2 hq2 (.int .i64 x.Val)
      rw [fill_stepL xs k HX.out, show setAll w2 w.heap.size (k * 3) [.int .i64 x.Prom, .int .i64 x.Bal, .int .i64 x.Val] = w5 by rw [← e3, ← e2, ← e1]; rfl] at H2
      rw [show setAll w2 w.heap.size (k * 3) [.int .i64 x.Prom, .int .i64 x.Bal, .int .i64 x.Val] = w5 by rw [← e3, ← e2, ← e1]; rfl] at H3
      have s3 := H3.size
      have hl2 := H2.widen (Nat.le_refl _) (Nat.le_trans s2 s3) (Nat.le_refl _)
      have hb3 : Below w.heap.size w w5 := Below.chg_ (hbr.trans (hb2.mono hsz)) H3 (Nat.le_refl _) (Nat.le_trans hsz s2)
      have HR2 := Lib.hid hl2
      clear H2 H3 hl2 hl hown hown2 s3 R0 hq0 R1 hq1 R2 hq2 R3
      go_wp2
      go_roundw
      case rel => exact ⟨k + 1, by omega, by go_num, HR2.out, hb3⟩
      case measure => simp [intOf]; omega
    · have hk2 : k = xs.length := by omega
      subst hk2
      rw [Nat.sub_self, List.replicate_zero, List.append_nil, List.take_of_length_le (Nat.le_refl _)] at hown
      go_wp2
      go_ret
      exact ⟨_, rfl, hown, hbr⟩

theorem toAccS_c {w : World} {v : Value} {xs : List MAcc} (h : RV accSL w v xs) (hm : xs.length ≤ 16777216) : Calls Try.prog 40 #[v] w (NewV accSL w xs) := by
  obtain ⟨A, c, rfl, _, _, hr⟩ := rv_slice h
  exact toAccS_any A c xs w hr hm

end Go.Proofs.Ytdoipabfmekdlaa

namespace Go.Proofs.Ytdoipabfmekdlaa
open Go.RowKit
set_option linter.unusedVariables false

structure MNode where
  Id : Int
  N : Int
  Accts : List MAcct
  Outs : List MOut
  Ins : List Int
  Accs : List MAcc
  Stray : Int
  Came : Int
  Went : Int

def nodeL : Lay MNode := isoL (fun d => (d.Id, d.N, d.Accts, d.Outs, d.Ins, d.Accs, d.Stray, d.Came, d.Went)) (consL (intL .i64) (consL (intL .i64) (consL (acctSL) (consL (outSL) (consL (numsL) (consL (accSL) (consL (intL .i64) (consL (intL .i64) (intL .i64)))))))))

theorem sz_node : (Try.prog.info? 34).map (·.size) = some 9 := by kernel_rfl

/-- how many values lie behind it -/
def MNode.bulk (d : MNode) : Nat := sizeAcctS d.Accts + sizeOutS d.Outs + d.Ins.length + d.Accs.length

/-- how many marks it takes -/
def MNode.steps (d : MNode) : Nat := sumG MAcct.stepE d.Accts + sumG MOut.stepE d.Outs + d.Ins.length + 3 * d.Accs.length

theorem MNode.steps_le (d : MNode) : d.steps ≤ 4 * d.bulk := by have hAccts := sumAcctE_size d.Accts; have hOuts := sumOutE_size d.Outs; unfold MNode.steps MNode.bulk; omega

/-- what a marking from k on makes of it -/
def MNode.mark (d : MNode) (k : Int) : MNode := ⟨d.Id, d.N, marksG MAcct.markE MAcct.stepE (k) d.Accts, marksG MOut.markE MOut.stepE (k + (sumG MAcct.stepE d.Accts : Int)) d.Outs, marks64 (k + (sumG MAcct.stepE d.Accts : Int) + (sumG MOut.stepE d.Outs : Int)) d.Ins.length, marksAcc (k + (sumG MAcct.stepE d.Accts : Int) + (sumG MOut.stepE d.Outs : Int) + (d.Ins.length : Int)) d.Accs.length, d.Stray, d.Came, d.Went⟩

theorem rv_node {w : World} {v : Value} {d : MNode} (h : RV nodeL w v d) : ∃ AAccts cAccts AOuts cOuts AIns cIns AAccs cAccs, v = .agg #[.int .i64 d.Id, .int .i64 d.N, .slice AAccts d.Accts.length cAccts, .slice AOuts d.Outs.length cOuts, .slice AIns d.Ins.length cIns, .slice AAccs d.Accs.length cAccs, .int .i64 d.Stray, .int .i64 d.Came, .int .i64 d.Went] ∧ RV acctSL w (.slice AAccts d.Accts.length cAccts) d.Accts ∧ RV outSL w (.slice AOuts d.Outs.length cOuts) d.Outs ∧ RS .i64 w (.slice AIns d.Ins.length cIns) d.Ins ∧ RV accSL w (.slice AAccs d.Accs.length cAccs) d.Accs := by
  obtain ⟨cs, rfl, hcs⟩ := h
  obtain ⟨_, _, rfl, rfl, ⟨_, _, rfl, rfl, ⟨_, _, rfl, ⟨AAccts, cAccts, rfl, hAccts⟩, ⟨_, _, rfl, ⟨AOuts, cOuts, rfl, hOuts⟩, ⟨_, _, rfl, ⟨AIns, cIns, rfl, hIns⟩, ⟨_, _, rfl, ⟨AAccs, cAccs, rfl, hAccs⟩, ⟨_, _, rfl, rfl, ⟨_, _, rfl, rfl, rfl⟩⟩⟩⟩⟩⟩⟩⟩ := hcs
  exact ⟨AAccts, cAccts, AOuts, cOuts, AIns, cIns, AAccs, cAccs, rfl, ⟨[_], rfl, _, _, rfl, hAccts⟩, ⟨[_], rfl, _, _, rfl, hOuts⟩, ⟨_, _, rfl, hIns⟩, ⟨[_], rfl, _, _, rfl, hAccs⟩⟩

theorem cs_node {w : World} {B : Nat} {cs : List Value} {d : MNode} (h : nodeL.rd w B cs d) : ∃ AAccts cAccts AOuts cOuts AIns cIns AAccs cAccs, cs = [.int .i64 d.Id, .int .i64 d.N, .slice AAccts d.Accts.length cAccts, .slice AOuts d.Outs.length cOuts, .slice AIns d.Ins.length cIns, .slice AAccs d.Accs.length cAccs, .int .i64 d.Stray, .int .i64 d.Came, .int .i64 d.Went] := by
  obtain ⟨_, _, rfl, rfl, ⟨_, _, rfl, rfl, ⟨_, _, rfl, ⟨AAccts, cAccts, rfl, hAccts⟩, ⟨_, _, rfl, ⟨AOuts, cOuts, rfl, hOuts⟩, ⟨_, _, rfl, ⟨AIns, cIns, rfl, hIns⟩, ⟨_, _, rfl, ⟨AAccs, cAccs, rfl, hAccs⟩, ⟨_, _, rfl, rfl, ⟨_, _, rfl, rfl, rfl⟩⟩⟩⟩⟩⟩⟩⟩ := h
  exact ⟨AAccts, cAccts, AOuts, cOuts, AIns, cIns, AAccs, cAccs, rfl⟩

theorem rv_node_mk {w : World} {vAccts vOuts vIns vAccs : Value} {zId : Int} {zN : Int} {zAccts : List MAcct} {zOuts : List MOut} {zIns : List Int} {zAccs : List MAcc} {zStray : Int} {zCame : Int} {zWent : Int} (hAccts : RV acctSL w vAccts zAccts) (hOuts : RV outSL w vOuts zOuts) (hIns : RS .i64 w vIns zIns) (hAccs : RV accSL w vAccs zAccs) : RV nodeL w (.agg #[.int .i64 zId, .int .i64 zN, vAccts, vOuts, vIns, vAccs, .int .i64 zStray, .int .i64 zCame, .int .i64 zWent]) ⟨zId, zN, zAccts, zOuts, zIns, zAccs, zStray, zCame, zWent⟩ := by
  obtain ⟨_, rfl, AAccts, cAccts, rfl, pAccts⟩ := hAccts
  obtain ⟨_, rfl, AOuts, cOuts, rfl, pOuts⟩ := hOuts
  obtain ⟨AIns, cIns, rfl, pIns⟩ := hIns
  obtain ⟨_, rfl, AAccs, cAccs, rfl, pAccs⟩ := hAccs
  exact ⟨_, rfl, [_], _, rfl, rfl, [_], _, rfl, rfl, [_], _, rfl, ⟨AAccts, cAccts, rfl, pAccts⟩, [_], _, rfl, ⟨AOuts, cOuts, rfl, pOuts⟩, [_], _, rfl, ⟨AIns, cIns, rfl, pIns⟩, [_], _, rfl, ⟨AAccs, cAccs, rfl, pAccs⟩, [_], _, rfl, rfl, [_], _, rfl, rfl, rfl⟩

theorem ovp_node {w : World} {d : MNode} {lo hi lAccts hAccts lOuts hOuts lIns hIns lAccs hAccs : Nat} {vAccts vOuts vIns vAccs : Value} (oAccts : OV acctSL w lAccts hAccts vAccts d.Accts) (oOuts : OV outSL w lOuts hOuts vOuts d.Outs) (oIns : OS .i64 3 w lIns hIns vIns d.Ins) (oAccs : OV accSL w lAccs hAccs vAccs d.Accs) (hc : hi ≤ w.heap.size ∧ lo ≤ lAccts ∧ hAccts ≤ hi ∧ lo ≤ lOuts ∧ hOuts ≤ hi ∧ lo ≤ lIns ∧ hIns ≤ hi ∧ lo ≤ lAccs ∧ hAccs ≤ hi ∧ (hAccts ≤ lOuts ∨ hOuts ≤ lAccts) ∧ (hAccts ≤ lIns ∨ hIns ≤ lAccts) ∧ (hAccts ≤ lAccs ∨ hAccs ≤ lAccts) ∧ (hOuts ≤ lIns ∨ hIns ≤ lOuts) ∧ (hOuts ≤ lAccs ∨ hAccs ≤ lOuts) ∧ (hIns ≤ lAccs ∨ hAccs ≤ lIns)) : OVp nodeL w (fun j => lo ≤ j ∧ j < hi) [.int .i64 d.Id, .int .i64 d.N, vAccts, vOuts, vIns, vAccs, .int .i64 d.Stray, .int .i64 d.Came, .int .i64 d.Went] d := by
  have h : OVp nodeL w _ [.int .i64 d.Id, .int .i64 d.N, vAccts, vOuts, vIns, vAccs, .int .i64 d.Stray, .int .i64 d.Came, .int .i64 d.Went] d := OVp.iso (f := fun d : MNode => (d.Id, d.N, d.Accts, d.Outs, d.Ins, d.Accs, d.Stray, d.Came, d.Went)) (OVp.cons1 (OVp.cons1 (OVp.cons (OVp.sl oAccts) (OVp.cons (OVp.sl oOuts) (OVp.cons (OVp.ints oIns) (OVp.consR (OVp.sl oAccs) (OVp.cons1 (OVp.cons1 OVp.one))) (by intro j; omega)) (by intro j; omega)) (by intro j; omega))))
  exact h.imp (by intro j; omega)

theorem ov_node {w : World} {d : MNode} {lo hi lAccts hAccts lOuts hOuts lIns hIns lAccs hAccs : Nat} {vAccts vOuts vIns vAccs : Value} (oAccts : OV acctSL w lAccts hAccts vAccts d.Accts) (oOuts : OV outSL w lOuts hOuts vOuts d.Outs) (oIns : OS .i64 3 w lIns hIns vIns d.Ins) (oAccs : OV accSL w lAccs hAccs vAccs d.Accs) (hc : hi ≤ w.heap.size ∧ lo ≤ lAccts ∧ hAccts ≤ hi ∧ lo ≤ lOuts ∧ hOuts ≤ hi ∧ lo ≤ lIns ∧ hIns ≤ hi ∧ lo ≤ lAccs ∧ hAccs ≤ hi ∧ (hAccts ≤ lOuts ∨ hOuts ≤ lAccts) ∧ (hAccts ≤ lIns ∨ hIns ≤ lAccts) ∧ (hAccts ≤ lAccs ∨ hAccs ≤ lAccts) ∧ (hOuts ≤ lIns ∨ hIns ≤ lOuts) ∧ (hOuts ≤ lAccs ∨ hAccs ≤ lOuts) ∧ (hIns ≤ lAccs ∨ hAccs ≤ lIns)) : OV nodeL w lo hi (.agg #[.int .i64 d.Id, .int .i64 d.N, vAccts, vOuts, vIns, vAccs, .int .i64 d.Stray, .int .i64 d.Came, .int .i64 d.Went]) d :=
  (ovp_node (lo := lo) (hi := hi) oAccts oOuts oIns oAccs hc).ov (fun _ h => h) hc.1

set_option maxHeartbeats 1000000 in
theorem toNode_c {w : World} {v : Value} {d : MNode} (h : RV nodeL w v d) (hm : d.bulk ≤ 16777216) : Calls Try.prog 11 #[v] w (NewV nodeL w d) := by
  obtain ⟨AAccts, cAccts, AOuts, cOuts, AIns, cIns, AAccs, cAccs, rfl, rAccts, rOuts, rIns, rAccs⟩ := rv_node h
  unfold MNode.bulk at hm
  obtain ⟨wa, hwa, B0, sa, x_a, x_r, x_out⟩ := frame3 w 27 [.int .i64 d.Id, .int .i64 d.N, .slice AAccts d.Accts.length cAccts, .slice AOuts d.Outs.length cOuts, .slice AIns d.Ins.length cIns, .slice AAccs d.Accs.length cAccs, .int .i64 d.Stray, .int .i64 d.Came, .int .i64 d.Went] 34 [.int .i64 0, .int .i64 0, .slice none 0 0, .slice none 0 0, .slice none 0 0, .slice none 0 0, .int .i64 0, .int .i64 0, .int .i64 0] 34 [.int .i64 0, .int .i64 0, .slice none 0 0, .slice none 0 0, .slice none 0 0, .slice none 0 0, .int .i64 0, .int .i64 0, .int .i64 0]
  have sa_1 := Nat.le_of_eq sa
  have sa_2 := Nat.le_of_eq sa.symm
  clear sa
  have c_a_0_wa := x_a.cell (i := 0) rfl
  have f_a_0_wa := x_a.frozen 0
  have c_a_1_wa := x_a.cell (i := 1) rfl
  have f_a_1_wa := x_a.frozen 1
  have c_a_2_wa := x_a.cell (i := 2) rfl
  have f_a_2_wa := x_a.frozen 2
  have c_a_3_wa := x_a.cell (i := 3) rfl
  have f_a_3_wa := x_a.frozen 3
  have c_a_4_wa := x_a.cell (i := 4) rfl
  have f_a_4_wa := x_a.frozen 4
  have c_a_5_wa := x_a.cell (i := 5) rfl
  have f_a_5_wa := x_a.frozen 5
  have c_a_6_wa := x_a.cell (i := 6) rfl
  have f_a_6_wa := x_a.frozen 6
  have c_a_7_wa := x_a.cell (i := 7) rfl
  have f_a_7_wa := x_a.frozen 7
  have c_a_8_wa := x_a.cell (i := 8) rfl
  have f_a_8_wa := x_a.frozen 8
  have c_out_0_wa := x_out.cell (i := 0) rfl
  have f_out_0_wa := x_out.frozen 0
  have c_out_1_wa := x_out.cell (i := 1) rfl
  have f_out_1_wa := x_out.frozen 1
  have c_out_2_wa := x_out.cell (i := 2) rfl
  have f_out_2_wa := x_out.frozen 2
  have c_out_3_wa := x_out.cell (i := 3) rfl
  have f_out_3_wa := x_out.frozen 3
  have c_out_4_wa := x_out.cell (i := 4) rfl
  have f_out_4_wa := x_out.frozen 4
  have c_out_5_wa := x_out.cell (i := 5) rfl
  have f_out_5_wa := x_out.frozen 5
  have c_out_6_wa := x_out.cell (i := 6) rfl
  have f_out_6_wa := x_out.frozen 6
  have c_out_7_wa := x_out.cell (i := 7) rfl
  have f_out_7_wa := x_out.frozen 7
  have c_out_8_wa := x_out.cell (i := 8) rfl
  have f_out_8_wa := x_out.frozen 8
  go_enter Try.func11, Try.ntmps11
  have c_r_0_wa := x_r.cell (i := 0) rfl
  have f_r_0_wa := x_r.frozen 0
  have c_r_1_wa := x_r.cell (i := 1) rfl
  have f_r_1_wa := x_r.frozen 1
  have c_r_2_wa := x_r.cell (i := 2) rfl
  have f_r_2_wa := x_r.frozen 2
  have c_r_3_wa := x_r.cell (i := 3) rfl
  have f_r_3_wa := x_r.frozen 3
  have c_r_4_wa := x_r.cell (i := 4) rfl
  have f_r_4_wa := x_r.frozen 4
  have c_r_5_wa := x_r.cell (i := 5) rfl
  have f_r_5_wa := x_r.frozen 5
  have c_r_6_wa := x_r.cell (i := 6) rfl
  have f_r_6_wa := x_r.frozen 6
  have c_r_7_wa := x_r.cell (i := 7) rfl
  have f_r_7_wa := x_r.frozen 7
  have c_r_8_wa := x_r.cell (i := 8) rfl
  have f_r_8_wa := x_r.frozen 8
  obtain ⟨w1, e_w1, s_w1, h_w1, y⟩ := set_step x_out 0 (.int .i64 d.Id)
  have s_w1_1 := Nat.le_of_eq s_w1
  have s_w1_2 := Nat.le_of_eq s_w1.symm
  clear s_w1
  replace x_a := x_a.chg h_w1 (by omega)
  replace x_r := x_r.chg h_w1 (by omega)
  have B_w1 := Below.chg_ B0 h_w1 (by omega) (by omega)
  replace x_out : Vr w1 (w.heap.size + 1 + 1) 34 [.int .i64 d.Id, .int .i64 0, .slice none 0 0, .slice none 0 0, .slice none 0 0, .slice none 0 0, .int .i64 0, .int .i64 0, .int .i64 0] := y
  clear y
  have c_a_0_w1 := x_a.cell (i := 0) rfl
  have f_a_0_w1 := x_a.frozen 0
  have c_a_1_w1 := x_a.cell (i := 1) rfl
  have f_a_1_w1 := x_a.frozen 1
  have c_a_2_w1 := x_a.cell (i := 2) rfl
  have f_a_2_w1 := x_a.frozen 2
  have c_a_3_w1 := x_a.cell (i := 3) rfl
  have f_a_3_w1 := x_a.frozen 3
  have c_a_4_w1 := x_a.cell (i := 4) rfl
  have f_a_4_w1 := x_a.frozen 4
  have c_a_5_w1 := x_a.cell (i := 5) rfl
  have f_a_5_w1 := x_a.frozen 5
  have c_a_6_w1 := x_a.cell (i := 6) rfl
  have f_a_6_w1 := x_a.frozen 6
  have c_a_7_w1 := x_a.cell (i := 7) rfl
  have f_a_7_w1 := x_a.frozen 7
  have c_a_8_w1 := x_a.cell (i := 8) rfl
  have f_a_8_w1 := x_a.frozen 8
  have c_out_0_w1 := x_out.cell (i := 0) rfl
  have f_out_0_w1 := x_out.frozen 0
  have c_out_1_w1 := x_out.cell (i := 1) rfl
  have f_out_1_w1 := x_out.frozen 1
  have c_out_2_w1 := x_out.cell (i := 2) rfl
  have f_out_2_w1 := x_out.frozen 2
  have c_out_3_w1 := x_out.cell (i := 3) rfl
  have f_out_3_w1 := x_out.frozen 3
  have c_out_4_w1 := x_out.cell (i := 4) rfl
  have f_out_4_w1 := x_out.frozen 4
  have c_out_5_w1 := x_out.cell (i := 5) rfl
  have f_out_5_w1 := x_out.frozen 5
  have c_out_6_w1 := x_out.cell (i := 6) rfl
  have f_out_6_w1 := x_out.frozen 6
  have c_out_7_w1 := x_out.cell (i := 7) rfl
  have f_out_7_w1 := x_out.frozen 7
  have c_out_8_w1 := x_out.cell (i := 8) rfl
  have f_out_8_w1 := x_out.frozen 8
  have c_r_0_w1 := x_r.cell (i := 0) rfl
  have f_r_0_w1 := x_r.frozen 0
  have c_r_1_w1 := x_r.cell (i := 1) rfl
  have f_r_1_w1 := x_r.frozen 1
  have c_r_2_w1 := x_r.cell (i := 2) rfl
  have f_r_2_w1 := x_r.frozen 2
  have c_r_3_w1 := x_r.cell (i := 3) rfl
  have f_r_3_w1 := x_r.frozen 3
  have c_r_4_w1 := x_r.cell (i := 4) rfl
  have f_r_4_w1 := x_r.frozen 4
  have c_r_5_w1 := x_r.cell (i := 5) rfl
  have f_r_5_w1 := x_r.frozen 5
  have c_r_6_w1 := x_r.cell (i := 6) rfl
  have f_r_6_w1 := x_r.frozen 6
  have c_r_7_w1 := x_r.cell (i := 7) rfl
  have f_r_7_w1 := x_r.frozen 7
  have c_r_8_w1 := x_r.cell (i := 8) rfl
  have f_r_8_w1 := x_r.frozen 8
  obtain ⟨w2, e_w2, s_w2, h_w2, y⟩ := set_step x_out 1 (.int .i64 d.N)
  have s_w2_1 := Nat.le_of_eq s_w2
  have s_w2_2 := Nat.le_of_eq s_w2.symm
  clear s_w2
  replace x_a := x_a.chg h_w2 (by omega)
  replace x_r := x_r.chg h_w2 (by omega)
  have B_w2 := Below.chg_ B_w1 h_w2 (by omega) (by omega)
  replace x_out : Vr w2 (w.heap.size + 1 + 1) 34 [.int .i64 d.Id, .int .i64 d.N, .slice none 0 0, .slice none 0 0, .slice none 0 0, .slice none 0 0, .int .i64 0, .int .i64 0, .int .i64 0] := y
  clear y
  have c_a_0_w2 := x_a.cell (i := 0) rfl
  have f_a_0_w2 := x_a.frozen 0
  have c_a_1_w2 := x_a.cell (i := 1) rfl
  have f_a_1_w2 := x_a.frozen 1
  have c_a_2_w2 := x_a.cell (i := 2) rfl
  have f_a_2_w2 := x_a.frozen 2
  have c_a_3_w2 := x_a.cell (i := 3) rfl
  have f_a_3_w2 := x_a.frozen 3
  have c_a_4_w2 := x_a.cell (i := 4) rfl
  have f_a_4_w2 := x_a.frozen 4
  have c_a_5_w2 := x_a.cell (i := 5) rfl
  have f_a_5_w2 := x_a.frozen 5
  have c_a_6_w2 := x_a.cell (i := 6) rfl
  have f_a_6_w2 := x_a.frozen 6
  have c_a_7_w2 := x_a.cell (i := 7) rfl
  have f_a_7_w2 := x_a.frozen 7
  have c_a_8_w2 := x_a.cell (i := 8) rfl
  have f_a_8_w2 := x_a.frozen 8
  have c_out_0_w2 := x_out.cell (i := 0) rfl
  have f_out_0_w2 := x_out.frozen 0
  have c_out_1_w2 := x_out.cell (i := 1) rfl
  have f_out_1_w2 := x_out.frozen 1
  have c_out_2_w2 := x_out.cell (i := 2) rfl
  have f_out_2_w2 := x_out.frozen 2
  have c_out_3_w2 := x_out.cell (i := 3) rfl
  have f_out_3_w2 := x_out.frozen 3
  have c_out_4_w2 := x_out.cell (i := 4) rfl
  have f_out_4_w2 := x_out.frozen 4
  have c_out_5_w2 := x_out.cell (i := 5) rfl
  have f_out_5_w2 := x_out.frozen 5
  have c_out_6_w2 := x_out.cell (i := 6) rfl
  have f_out_6_w2 := x_out.frozen 6
  have c_out_7_w2 := x_out.cell (i := 7) rfl
  have f_out_7_w2 := x_out.frozen 7
  have c_out_8_w2 := x_out.cell (i := 8) rfl
  have f_out_8_w2 := x_out.frozen 8
  have c_r_0_w2 := x_r.cell (i := 0) rfl
  have f_r_0_w2 := x_r.frozen 0
  have c_r_1_w2 := x_r.cell (i := 1) rfl
  have f_r_1_w2 := x_r.frozen 1
  have c_r_2_w2 := x_r.cell (i := 2) rfl
  have f_r_2_w2 := x_r.frozen 2
  have c_r_3_w2 := x_r.cell (i := 3) rfl
  have f_r_3_w2 := x_r.frozen 3
  have c_r_4_w2 := x_r.cell (i := 4) rfl
  have f_r_4_w2 := x_r.frozen 4
  have c_r_5_w2 := x_r.cell (i := 5) rfl
  have f_r_5_w2 := x_r.frozen 5
  have c_r_6_w2 := x_r.cell (i := 6) rfl
  have f_r_6_w2 := x_r.frozen 6
  have c_r_7_w2 := x_r.cell (i := 7) rfl
  have f_r_7_w2 := x_r.frozen 7
  have c_r_8_w2 := x_r.cell (i := 8) rfl
  have f_r_8_w2 := x_r.frozen 8
  go_wp2_with fail
  refine (toAcctS_c (rAccts.from_ B_w2) (by omega)).mono ?_
  rintro e w3 ⟨uAccts, rfl, oAccts, h_w3⟩
  clear c_a_0_wa f_a_0_wa c_a_1_wa f_a_1_wa c_a_2_wa f_a_2_wa c_a_3_wa f_a_3_wa c_a_4_wa f_a_4_wa c_a_5_wa f_a_5_wa c_a_6_wa f_a_6_wa c_a_7_wa f_a_7_wa c_a_8_wa f_a_8_wa c_out_0_wa f_out_0_wa c_out_1_wa f_out_1_wa c_out_2_wa f_out_2_wa c_out_3_wa f_out_3_wa c_out_4_wa f_out_4_wa c_out_5_wa f_out_5_wa c_out_6_wa f_out_6_wa c_out_7_wa f_out_7_wa c_out_8_wa f_out_8_wa c_r_0_wa f_r_0_wa c_r_1_wa f_r_1_wa c_r_2_wa f_r_2_wa c_r_3_wa f_r_3_wa c_r_4_wa f_r_4_wa c_r_5_wa f_r_5_wa c_r_6_wa f_r_6_wa c_r_7_wa f_r_7_wa c_r_8_wa f_r_8_wa c_a_0_w1 f_a_0_w1 c_a_1_w1 f_a_1_w1 c_a_2_w1 f_a_2_w1 c_a_3_w1 f_a_3_w1 c_a_4_w1 f_a_4_w1 c_a_5_w1 f_a_5_w1 c_a_6_w1 f_a_6_w1 c_a_7_w1 f_a_7_w1 c_a_8_w1 f_a_8_w1 c_out_0_w1 f_out_0_w1 c_out_1_w1 f_out_1_w1 c_out_2_w1 f_out_2_w1 c_out_3_w1 f_out_3_w1 c_out_4_w1 f_out_4_w1 c_out_5_w1 f_out_5_w1 c_out_6_w1 f_out_6_w1 c_out_7_w1 f_out_7_w1 c_out_8_w1 f_out_8_w1 c_r_0_w1 f_r_0_w1 c_r_1_w1 f_r_1_w1 c_r_2_w1 f_r_2_w1 c_r_3_w1 f_r_3_w1 c_r_4_w1 f_r_4_w1 c_r_5_w1 f_r_5_w1 c_r_6_w1 f_r_6_w1 c_r_7_w1 f_r_7_w1 c_r_8_w1 f_r_8_w1 c_a_0_w2 f_a_0_w2 c_a_1_w2 f_a_1_w2 c_a_2_w2 f_a_2_w2 c_a_3_w2 f_a_3_w2 c_a_4_w2 f_a_4_w2 c_a_5_w2 f_a_5_w2 c_a_6_w2 f_a_6_w2 c_a_7_w2 f_a_7_w2 c_a_8_w2 f_a_8_w2 c_out_0_w2 f_out_0_w2 c_out_1_w2 f_out_1_w2 c_out_2_w2 f_out_2_w2 c_out_3_w2 f_out_3_w2 c_out_4_w2 f_out_4_w2 c_out_5_w2 f_out_5_w2 c_out_6_w2 f_out_6_w2 c_out_7_w2 f_out_7_w2 c_out_8_w2 f_out_8_w2 c_r_0_w2 f_r_0_w2 c_r_1_w2 f_r_1_w2 c_r_2_w2 f_r_2_w2 c_r_3_w2 f_r_3_w2 c_r_4_w2 f_r_4_w2 c_r_5_w2 f_r_5_w2 c_r_6_w2 f_r_6_w2 c_r_7_w2 f_r_7_w2 c_r_8_w2 f_r_8_w2
  replace x_a := x_a.from_ h_w3
  replace x_r := x_r.from_ h_w3
  replace x_out := x_out.from_ h_w3
  have B_w3 := B_w2.trans (h_w3.mono B_w2.size)
  have s_w3 := h_w3.size
  obtain ⟨BAccts, eAccts, rfl, -, -, -⟩ := rv_slice oAccts.rd
  have c_a_0_w3 := x_a.cell (i := 0) rfl
  have f_a_0_w3 := x_a.frozen 0
  have c_a_1_w3 := x_a.cell (i := 1) rfl
  have f_a_1_w3 := x_a.frozen 1
  have c_a_2_w3 := x_a.cell (i := 2) rfl
  have f_a_2_w3 := x_a.frozen 2
  have c_a_3_w3 := x_a.cell (i := 3) rfl
  have f_a_3_w3 := x_a.frozen 3
  have c_a_4_w3 := x_a.cell (i := 4) rfl
  have f_a_4_w3 := x_a.frozen 4
  have c_a_5_w3 := x_a.cell (i := 5) rfl
  have f_a_5_w3 := x_a.frozen 5
  have c_a_6_w3 := x_a.cell (i := 6) rfl
  have f_a_6_w3 := x_a.frozen 6
  have c_a_7_w3 := x_a.cell (i := 7) rfl
  have f_a_7_w3 := x_a.frozen 7
  have c_a_8_w3 := x_a.cell (i := 8) rfl
  have f_a_8_w3 := x_a.frozen 8
  have c_out_0_w3 := x_out.cell (i := 0) rfl
  have f_out_0_w3 := x_out.frozen 0
  have c_out_1_w3 := x_out.cell (i := 1) rfl
  have f_out_1_w3 := x_out.frozen 1
  have c_out_2_w3 := x_out.cell (i := 2) rfl
  have f_out_2_w3 := x_out.frozen 2
  have c_out_3_w3 := x_out.cell (i := 3) rfl
  have f_out_3_w3 := x_out.frozen 3
  have c_out_4_w3 := x_out.cell (i := 4) rfl
  have f_out_4_w3 := x_out.frozen 4
  have c_out_5_w3 := x_out.cell (i := 5) rfl
  have f_out_5_w3 := x_out.frozen 5
  have c_out_6_w3 := x_out.cell (i := 6) rfl
  have f_out_6_w3 := x_out.frozen 6
  have c_out_7_w3 := x_out.cell (i := 7) rfl
  have f_out_7_w3 := x_out.frozen 7
  have c_out_8_w3 := x_out.cell (i := 8) rfl
  have f_out_8_w3 := x_out.frozen 8
  have c_r_0_w3 := x_r.cell (i := 0) rfl
  have f_r_0_w3 := x_r.frozen 0
  have c_r_1_w3 := x_r.cell (i := 1) rfl
  have f_r_1_w3 := x_r.frozen 1
  have c_r_2_w3 := x_r.cell (i := 2) rfl
  have f_r_2_w3 := x_r.frozen 2
  have c_r_3_w3 := x_r.cell (i := 3) rfl
  have f_r_3_w3 := x_r.frozen 3
  have c_r_4_w3 := x_r.cell (i := 4) rfl
  have f_r_4_w3 := x_r.frozen 4
  have c_r_5_w3 := x_r.cell (i := 5) rfl
  have f_r_5_w3 := x_r.frozen 5
  have c_r_6_w3 := x_r.cell (i := 6) rfl
  have f_r_6_w3 := x_r.frozen 6
  have c_r_7_w3 := x_r.cell (i := 7) rfl
  have f_r_7_w3 := x_r.frozen 7
  have c_r_8_w3 := x_r.cell (i := 8) rfl
  have f_r_8_w3 := x_r.frozen 8
  obtain ⟨w4, e_w4, s_w4, h_w4, y⟩ := set_step x_out 2 (.slice BAccts d.Accts.length eAccts)
  have s_w4_1 := Nat.le_of_eq s_w4
  have s_w4_2 := Nat.le_of_eq s_w4.symm
  clear s_w4
  replace x_a := x_a.chg h_w4 (by omega)
  replace x_r := x_r.chg h_w4 (by omega)
  replace oAccts := oAccts.chg h_w4 (by omega)
  have B_w4 := Below.chg_ B_w3 h_w4 (by omega) (by omega)
  replace x_out : Vr w4 (w.heap.size + 1 + 1) 34 [.int .i64 d.Id, .int .i64 d.N, .slice BAccts d.Accts.length eAccts, .slice none 0 0, .slice none 0 0, .slice none 0 0, .int .i64 0, .int .i64 0, .int .i64 0] := y
  clear y
  have c_a_0_w4 := x_a.cell (i := 0) rfl
  have f_a_0_w4 := x_a.frozen 0
  have c_a_1_w4 := x_a.cell (i := 1) rfl
  have f_a_1_w4 := x_a.frozen 1
  have c_a_2_w4 := x_a.cell (i := 2) rfl
  have f_a_2_w4 := x_a.frozen 2
  have c_a_3_w4 := x_a.cell (i := 3) rfl
  have f_a_3_w4 := x_a.frozen 3
  have c_a_4_w4 := x_a.cell (i := 4) rfl
  have f_a_4_w4 := x_a.frozen 4
  have c_a_5_w4 := x_a.cell (i := 5) rfl
  have f_a_5_w4 := x_a.frozen 5
  have c_a_6_w4 := x_a.cell (i := 6) rfl
  have f_a_6_w4 := x_a.frozen 6
  have c_a_7_w4 := x_a.cell (i := 7) rfl
  have f_a_7_w4 := x_a.frozen 7
  have c_a_8_w4 := x_a.cell (i := 8) rfl
  have f_a_8_w4 := x_a.frozen 8
  have c_out_0_w4 := x_out.cell (i := 0) rfl
  have f_out_0_w4 := x_out.frozen 0
  have c_out_1_w4 := x_out.cell (i := 1) rfl
  have f_out_1_w4 := x_out.frozen 1
  have c_out_2_w4 := x_out.cell (i := 2) rfl
  have f_out_2_w4 := x_out.frozen 2
  have c_out_3_w4 := x_out.cell (i := 3) rfl
  have f_out_3_w4 := x_out.frozen 3
  have c_out_4_w4 := x_out.cell (i := 4) rfl
  have f_out_4_w4 := x_out.frozen 4
  have c_out_5_w4 := x_out.cell (i := 5) rfl
  have f_out_5_w4 := x_out.frozen 5
  have c_out_6_w4 := x_out.cell (i := 6) rfl
  have f_out_6_w4 := x_out.frozen 6
  have c_out_7_w4 := x_out.cell (i := 7) rfl
  have f_out_7_w4 := x_out.frozen 7
  have c_out_8_w4 := x_out.cell (i := 8) rfl
  have f_out_8_w4 := x_out.frozen 8
  have c_r_0_w4 := x_r.cell (i := 0) rfl
  have f_r_0_w4 := x_r.frozen 0
  have c_r_1_w4 := x_r.cell (i := 1) rfl
  have f_r_1_w4 := x_r.frozen 1
  have c_r_2_w4 := x_r.cell (i := 2) rfl
  have f_r_2_w4 := x_r.frozen 2
  have c_r_3_w4 := x_r.cell (i := 3) rfl
  have f_r_3_w4 := x_r.frozen 3
  have c_r_4_w4 := x_r.cell (i := 4) rfl
  have f_r_4_w4 := x_r.frozen 4
  have c_r_5_w4 := x_r.cell (i := 5) rfl
  have f_r_5_w4 := x_r.frozen 5
  have c_r_6_w4 := x_r.cell (i := 6) rfl
  have f_r_6_w4 := x_r.frozen 6
  have c_r_7_w4 := x_r.cell (i := 7) rfl
  have f_r_7_w4 := x_r.frozen 7
  have c_r_8_w4 := x_r.cell (i := 8) rfl
  have f_r_8_w4 := x_r.frozen 8
  go_wp2_with fail
  refine (toOutS_c (rOuts.from_ B_w4) (by omega)).mono ?_
  rintro e w5 ⟨uOuts, rfl, oOuts, h_w5⟩
  clear c_a_0_w3 f_a_0_w3 c_a_1_w3 f_a_1_w3 c_a_2_w3 f_a_2_w3 c_a_3_w3 f_a_3_w3 c_a_4_w3 f_a_4_w3 c_a_5_w3 f_a_5_w3 c_a_6_w3 f_a_6_w3 c_a_7_w3 f_a_7_w3 c_a_8_w3 f_a_8_w3 c_out_0_w3 f_out_0_w3 c_out_1_w3 f_out_1_w3 c_out_2_w3 f_out_2_w3 c_out_3_w3 f_out_3_w3 c_out_4_w3 f_out_4_w3 c_out_5_w3 f_out_5_w3 c_out_6_w3 f_out_6_w3 c_out_7_w3 f_out_7_w3 c_out_8_w3 f_out_8_w3 c_r_0_w3 f_r_0_w3 c_r_1_w3 f_r_1_w3 c_r_2_w3 f_r_2_w3 c_r_3_w3 f_r_3_w3 c_r_4_w3 f_r_4_w3 c_r_5_w3 f_r_5_w3 c_r_6_w3 f_r_6_w3 c_r_7_w3 f_r_7_w3 c_r_8_w3 f_r_8_w3 c_a_0_w4 f_a_0_w4 c_a_1_w4 f_a_1_w4 c_a_2_w4 f_a_2_w4 c_a_3_w4 f_a_3_w4 c_a_4_w4 f_a_4_w4 c_a_5_w4 f_a_5_w4 c_a_6_w4 f_a_6_w4 c_a_7_w4 f_a_7_w4 c_a_8_w4 f_a_8_w4 c_out_0_w4 f_out_0_w4 c_out_1_w4 f_out_1_w4 c_out_2_w4 f_out_2_w4 c_out_3_w4 f_out_3_w4 c_out_4_w4 f_out_4_w4 c_out_5_w4 f_out_5_w4 c_out_6_w4 f_out_6_w4 c_out_7_w4 f_out_7_w4 c_out_8_w4 f_out_8_w4 c_r_0_w4 f_r_0_w4 c_r_1_w4 f_r_1_w4 c_r_2_w4 f_r_2_w4 c_r_3_w4 f_r_3_w4 c_r_4_w4 f_r_4_w4 c_r_5_w4 f_r_5_w4 c_r_6_w4 f_r_6_w4 c_r_7_w4 f_r_7_w4 c_r_8_w4 f_r_8_w4
  replace x_a := x_a.from_ h_w5
  replace x_r := x_r.from_ h_w5
  replace x_out := x_out.from_ h_w5
  replace oAccts := oAccts.below h_w5
  have B_w5 := B_w4.trans (h_w5.mono B_w4.size)
  have s_w5 := h_w5.size
  obtain ⟨BOuts, eOuts, rfl, -, -, -⟩ := rv_slice oOuts.rd
  have c_a_0_w5 := x_a.cell (i := 0) rfl
  have f_a_0_w5 := x_a.frozen 0
  have c_a_1_w5 := x_a.cell (i := 1) rfl
  have f_a_1_w5 := x_a.frozen 1
  have c_a_2_w5 := x_a.cell (i := 2) rfl
  have f_a_2_w5 := x_a.frozen 2
  have c_a_3_w5 := x_a.cell (i := 3) rfl
  have f_a_3_w5 := x_a.frozen 3
  have c_a_4_w5 := x_a.cell (i := 4) rfl
  have f_a_4_w5 := x_a.frozen 4
  have c_a_5_w5 := x_a.cell (i := 5) rfl
  have f_a_5_w5 := x_a.frozen 5
  have c_a_6_w5 := x_a.cell (i := 6) rfl
  have f_a_6_w5 := x_a.frozen 6
  have c_a_7_w5 := x_a.cell (i := 7) rfl
  have f_a_7_w5 := x_a.frozen 7
  have c_a_8_w5 := x_a.cell (i := 8) rfl
  have f_a_8_w5 := x_a.frozen 8
  have c_out_0_w5 := x_out.cell (i := 0) rfl
  have f_out_0_w5 := x_out.frozen 0
  have c_out_1_w5 := x_out.cell (i := 1) rfl
  have f_out_1_w5 := x_out.frozen 1
  have c_out_2_w5 := x_out.cell (i := 2) rfl
  have f_out_2_w5 := x_out.frozen 2
  have c_out_3_w5 := x_out.cell (i := 3) rfl
  have f_out_3_w5 := x_out.frozen 3
  have c_out_4_w5 := x_out.cell (i := 4) rfl
  have f_out_4_w5 := x_out.frozen 4
  have c_out_5_w5 := x_out.cell (i := 5) rfl
  have f_out_5_w5 := x_out.frozen 5
  have c_out_6_w5 := x_out.cell (i := 6) rfl
  have f_out_6_w5 := x_out.frozen 6
  have c_out_7_w5 := x_out.cell (i := 7) rfl
  have f_out_7_w5 := x_out.frozen 7
  have c_out_8_w5 := x_out.cell (i := 8) rfl
  have f_out_8_w5 := x_out.frozen 8
  have c_r_0_w5 := x_r.cell (i := 0) rfl
  have f_r_0_w5 := x_r.frozen 0
  have c_r_1_w5 := x_r.cell (i := 1) rfl
  have f_r_1_w5 := x_r.frozen 1
  have c_r_2_w5 := x_r.cell (i := 2) rfl
  have f_r_2_w5 := x_r.frozen 2
  have c_r_3_w5 := x_r.cell (i := 3) rfl
  have f_r_3_w5 := x_r.frozen 3
  have c_r_4_w5 := x_r.cell (i := 4) rfl
  have f_r_4_w5 := x_r.frozen 4
  have c_r_5_w5 := x_r.cell (i := 5) rfl
  have f_r_5_w5 := x_r.frozen 5
  have c_r_6_w5 := x_r.cell (i := 6) rfl
  have f_r_6_w5 := x_r.frozen 6
  have c_r_7_w5 := x_r.cell (i := 7) rfl
  have f_r_7_w5 := x_r.frozen 7
  have c_r_8_w5 := x_r.cell (i := 8) rfl
  have f_r_8_w5 := x_r.frozen 8
  obtain ⟨w6, e_w6, s_w6, h_w6, y⟩ := set_step x_out 3 (.slice BOuts d.Outs.length eOuts)
  have s_w6_1 := Nat.le_of_eq s_w6
  have s_w6_2 := Nat.le_of_eq s_w6.symm
  clear s_w6
  replace x_a := x_a.chg h_w6 (by omega)
  replace x_r := x_r.chg h_w6 (by omega)
  replace oAccts := oAccts.chg h_w6 (by omega)
  replace oOuts := oOuts.chg h_w6 (by omega)
  have B_w6 := Below.chg_ B_w5 h_w6 (by omega) (by omega)
  replace x_out : Vr w6 (w.heap.size + 1 + 1) 34 [.int .i64 d.Id, .int .i64 d.N, .slice BAccts d.Accts.length eAccts, .slice BOuts d.Outs.length eOuts, .slice none 0 0, .slice none 0 0, .int .i64 0, .int .i64 0, .int .i64 0] := y
  clear y
  have c_a_0_w6 := x_a.cell (i := 0) rfl
  have f_a_0_w6 := x_a.frozen 0
  have c_a_1_w6 := x_a.cell (i := 1) rfl
  have f_a_1_w6 := x_a.frozen 1
  have c_a_2_w6 := x_a.cell (i := 2) rfl
  have f_a_2_w6 := x_a.frozen 2
  have c_a_3_w6 := x_a.cell (i := 3) rfl
  have f_a_3_w6 := x_a.frozen 3
  have c_a_4_w6 := x_a.cell (i := 4) rfl
  have f_a_4_w6 := x_a.frozen 4
  have c_a_5_w6 := x_a.cell (i := 5) rfl
  have f_a_5_w6 := x_a.frozen 5
  have c_a_6_w6 := x_a.cell (i := 6) rfl
  have f_a_6_w6 := x_a.frozen 6
  have c_a_7_w6 := x_a.cell (i := 7) rfl
  have f_a_7_w6 := x_a.frozen 7
  have c_a_8_w6 := x_a.cell (i := 8) rfl
  have f_a_8_w6 := x_a.frozen 8
  have c_out_0_w6 := x_out.cell (i := 0) rfl
  have f_out_0_w6 := x_out.frozen 0
  have c_out_1_w6 := x_out.cell (i := 1) rfl
  have f_out_1_w6 := x_out.frozen 1
  have c_out_2_w6 := x_out.cell (i := 2) rfl
  have f_out_2_w6 := x_out.frozen 2
  have c_out_3_w6 := x_out.cell (i := 3) rfl
  have f_out_3_w6 := x_out.frozen 3
  have c_out_4_w6 := x_out.cell (i := 4) rfl
  have f_out_4_w6 := x_out.frozen 4
  have c_out_5_w6 := x_out.cell (i := 5) rfl
  have f_out_5_w6 := x_out.frozen 5
  have c_out_6_w6 := x_out.cell (i := 6) rfl
  have f_out_6_w6 := x_out.frozen 6
  have c_out_7_w6 := x_out.cell (i := 7) rfl
  have f_out_7_w6 := x_out.frozen 7
  have c_out_8_w6 := x_out.cell (i := 8) rfl
  have f_out_8_w6 := x_out.frozen 8
  have c_r_0_w6 := x_r.cell (i := 0) rfl
  have f_r_0_w6 := x_r.frozen 0
  have c_r_1_w6 := x_r.cell (i := 1) rfl
  have f_r_1_w6 := x_r.frozen 1
  have c_r_2_w6 := x_r.cell (i := 2) rfl
  have f_r_2_w6 := x_r.frozen 2
  have c_r_3_w6 := x_r.cell (i := 3) rfl
  have f_r_3_w6 := x_r.frozen 3
  have c_r_4_w6 := x_r.cell (i := 4) rfl
  have f_r_4_w6 := x_r.frozen 4
  have c_r_5_w6 := x_r.cell (i := 5) rfl
  have f_r_5_w6 := x_r.frozen 5
  have c_r_6_w6 := x_r.cell (i := 6) rfl
  have f_r_6_w6 := x_r.frozen 6
  have c_r_7_w6 := x_r.cell (i := 7) rfl
  have f_r_7_w6 := x_r.frozen 7
  have c_r_8_w6 := x_r.cell (i := 8) rfl
  have f_r_8_w6 := x_r.frozen 8
  go_wp2_with fail
  refine (toIntS_c (rIns.from_ B_w6) (by omega)).mono ?_
  rintro e w7 ⟨uIns, rfl, oIns, h_w7⟩
  clear c_a_0_w5 f_a_0_w5 c_a_1_w5 f_a_1_w5 c_a_2_w5 f_a_2_w5 c_a_3_w5 f_a_3_w5 c_a_4_w5 f_a_4_w5 c_a_5_w5 f_a_5_w5 c_a_6_w5 f_a_6_w5 c_a_7_w5 f_a_7_w5 c_a_8_w5 f_a_8_w5 c_out_0_w5 f_out_0_w5 c_out_1_w5 f_out_1_w5 c_out_2_w5 f_out_2_w5 c_out_3_w5 f_out_3_w5 c_out_4_w5 f_out_4_w5 c_out_5_w5 f_out_5_w5 c_out_6_w5 f_out_6_w5 c_out_7_w5 f_out_7_w5 c_out_8_w5 f_out_8_w5 c_r_0_w5 f_r_0_w5 c_r_1_w5 f_r_1_w5 c_r_2_w5 f_r_2_w5 c_r_3_w5 f_r_3_w5 c_r_4_w5 f_r_4_w5 c_r_5_w5 f_r_5_w5 c_r_6_w5 f_r_6_w5 c_r_7_w5 f_r_7_w5 c_r_8_w5 f_r_8_w5 c_a_0_w6 f_a_0_w6 c_a_1_w6 f_a_1_w6 c_a_2_w6 f_a_2_w6 c_a_3_w6 f_a_3_w6 c_a_4_w6 f_a_4_w6 c_a_5_w6 f_a_5_w6 c_a_6_w6 f_a_6_w6 c_a_7_w6 f_a_7_w6 c_a_8_w6 f_a_8_w6 c_out_0_w6 f_out_0_w6 c_out_1_w6 f_out_1_w6 c_out_2_w6 f_out_2_w6 c_out_3_w6 f_out_3_w6 c_out_4_w6 f_out_4_w6 c_out_5_w6 f_out_5_w6 c_out_6_w6 f_out_6_w6 c_out_7_w6 f_out_7_w6 c_out_8_w6 f_out_8_w6 c_r_0_w6 f_r_0_w6 c_r_1_w6 f_r_1_w6 c_r_2_w6 f_r_2_w6 c_r_3_w6 f_r_3_w6 c_r_4_w6 f_r_4_w6 c_r_5_w6 f_r_5_w6 c_r_6_w6 f_r_6_w6 c_r_7_w6 f_r_7_w6 c_r_8_w6 f_r_8_w6
  replace x_a := x_a.from_ h_w7
  replace x_r := x_r.from_ h_w7
  replace x_out := x_out.from_ h_w7
  replace oAccts := oAccts.below h_w7
  replace oOuts := oOuts.below h_w7
  have B_w7 := B_w6.trans (h_w7.mono B_w6.size)
  have s_w7 := h_w7.size
  obtain ⟨BIns, eIns, rfl, -, -, -⟩ := oIns.rd
  have c_a_0_w7 := x_a.cell (i := 0) rfl
  have f_a_0_w7 := x_a.frozen 0
  have c_a_1_w7 := x_a.cell (i := 1) rfl
  have f_a_1_w7 := x_a.frozen 1
  have c_a_2_w7 := x_a.cell (i := 2) rfl
  have f_a_2_w7 := x_a.frozen 2
  have c_a_3_w7 := x_a.cell (i := 3) rfl
  have f_a_3_w7 := x_a.frozen 3
  have c_a_4_w7 := x_a.cell (i := 4) rfl
  have f_a_4_w7 := x_a.frozen 4
  have c_a_5_w7 := x_a.cell (i := 5) rfl
  have f_a_5_w7 := x_a.frozen 5
  have c_a_6_w7 := x_a.cell (i := 6) rfl
  have f_a_6_w7 := x_a.frozen 6
  have c_a_7_w7 := x_a.cell (i := 7) rfl
  have f_a_7_w7 := x_a.frozen 7
  have c_a_8_w7 := x_a.cell (i := 8) rfl
  have f_a_8_w7 := x_a.frozen 8
  have c_out_0_w7 := x_out.cell (i := 0) rfl
  have f_out_0_w7 := x_out.frozen 0
  have c_out_1_w7 := x_out.cell (i := 1) rfl
  have f_out_1_w7 := x_out.frozen 1
  have c_out_2_w7 := x_out.cell (i := 2) rfl
  have f_out_2_w7 := x_out.frozen 2
  have c_out_3_w7 := x_out.cell (i := 3) rfl
  have f_out_3_w7 := x_out.frozen 3
  have c_out_4_w7 := x_out.cell (i := 4) rfl
  have f_out_4_w7 := x_out.frozen 4
  have c_out_5_w7 := x_out.cell (i := 5) rfl
  have f_out_5_w7 := x_out.frozen 5
  have c_out_6_w7 := x_out.cell (i := 6) rfl
  have f_out_6_w7 := x_out.frozen 6
  have c_out_7_w7 := x_out.cell (i := 7) rfl
  have f_out_7_w7 := x_out.frozen 7
  have c_out_8_w7 := x_out.cell (i := 8) rfl
  have f_out_8_w7 := x_out.frozen 8
  have c_r_0_w7 := x_r.cell (i := 0) rfl
  have f_r_0_w7 := x_r.frozen 0
  have c_r_1_w7 := x_r.cell (i := 1) rfl
  have f_r_1_w7 := x_r.frozen 1
  have c_r_2_w7 := x_r.cell (i := 2) rfl
  have f_r_2_w7 := x_r.frozen 2
  have c_r_3_w7 := x_r.cell (i := 3) rfl
  have f_r_3_w7 := x_r.frozen 3
  have c_r_4_w7 := x_r.cell (i := 4) rfl
  have f_r_4_w7 := x_r.frozen 4
  have c_r_5_w7 := x_r.cell (i := 5) rfl
  have f_r_5_w7 := x_r.frozen 5
  have c_r_6_w7 := x_r.cell (i := 6) rfl
  have f_r_6_w7 := x_r.frozen 6
  have c_r_7_w7 := x_r.cell (i := 7) rfl
  have f_r_7_w7 := x_r.frozen 7
  have c_r_8_w7 := x_r.cell (i := 8) rfl
  have f_r_8_w7 := x_r.frozen 8
  obtain ⟨w8, e_w8, s_w8, h_w8, y⟩ := set_step x_out 4 (.slice BIns d.Ins.length eIns)
  have s_w8_1 := Nat.le_of_eq s_w8
  have s_w8_2 := Nat.le_of_eq s_w8.symm
  clear s_w8
  replace x_a := x_a.chg h_w8 (by omega)
  replace x_r := x_r.chg h_w8 (by omega)
  replace oAccts := oAccts.chg h_w8 (by omega)
  replace oOuts := oOuts.chg h_w8 (by omega)
  replace oIns := oIns.chg h_w8 (by omega)
  have B_w8 := Below.chg_ B_w7 h_w8 (by omega) (by omega)
  replace x_out : Vr w8 (w.heap.size + 1 + 1) 34 [.int .i64 d.Id, .int .i64 d.N, .slice BAccts d.Accts.length eAccts, .slice BOuts d.Outs.length eOuts, .slice BIns d.Ins.length eIns, .slice none 0 0, .int .i64 0, .int .i64 0, .int .i64 0] := y
  clear y
  have c_a_0_w8 := x_a.cell (i := 0) rfl
  have f_a_0_w8 := x_a.frozen 0
  have c_a_1_w8 := x_a.cell (i := 1) rfl
  have f_a_1_w8 := x_a.frozen 1
  have c_a_2_w8 := x_a.cell (i := 2) rfl
  have f_a_2_w8 := x_a.frozen 2
  have c_a_3_w8 := x_a.cell (i := 3) rfl
  have f_a_3_w8 := x_a.frozen 3
  have c_a_4_w8 := x_a.cell (i := 4) rfl
  have f_a_4_w8 := x_a.frozen 4
  have c_a_5_w8 := x_a.cell (i := 5) rfl
  have f_a_5_w8 := x_a.frozen 5
  have c_a_6_w8 := x_a.cell (i := 6) rfl
  have f_a_6_w8 := x_a.frozen 6
  have c_a_7_w8 := x_a.cell (i := 7) rfl
  have f_a_7_w8 := x_a.frozen 7
  have c_a_8_w8 := x_a.cell (i := 8) rfl
  have f_a_8_w8 := x_a.frozen 8
  have c_out_0_w8 := x_out.cell (i := 0) rfl
  have f_out_0_w8 := x_out.frozen 0
  have c_out_1_w8 := x_out.cell (i := 1) rfl
  have f_out_1_w8 := x_out.frozen 1
  have c_out_2_w8 := x_out.cell (i := 2) rfl
  have f_out_2_w8 := x_out.frozen 2
  have c_out_3_w8 := x_out.cell (i := 3) rfl
  have f_out_3_w8 := x_out.frozen 3
  have c_out_4_w8 := x_out.cell (i := 4) rfl
  have f_out_4_w8 := x_out.frozen 4
  have c_out_5_w8 := x_out.cell (i := 5) rfl
  have f_out_5_w8 := x_out.frozen 5
  have c_out_6_w8 := x_out.cell (i := 6) rfl
  have f_out_6_w8 := x_out.frozen 6
  have c_out_7_w8 := x_out.cell (i := 7) rfl
  have f_out_7_w8 := x_out.frozen 7
  have c_out_8_w8 := x_out.cell (i := 8) rfl
  have f_out_8_w8 := x_out.frozen 8
  have c_r_0_w8 := x_r.cell (i := 0) rfl
  have f_r_0_w8 := x_r.frozen 0
  have c_r_1_w8 := x_r.cell (i := 1) rfl
  have f_r_1_w8 := x_r.frozen 1
  have c_r_2_w8 := x_r.cell (i := 2) rfl
  have f_r_2_w8 := x_r.frozen 2
  have c_r_3_w8 := x_r.cell (i := 3) rfl
  have f_r_3_w8 := x_r.frozen 3
  have c_r_4_w8 := x_r.cell (i := 4) rfl
  have f_r_4_w8 := x_r.frozen 4
  have c_r_5_w8 := x_r.cell (i := 5) rfl
  have f_r_5_w8 := x_r.frozen 5
  have c_r_6_w8 := x_r.cell (i := 6) rfl
  have f_r_6_w8 := x_r.frozen 6
  have c_r_7_w8 := x_r.cell (i := 7) rfl
  have f_r_7_w8 := x_r.frozen 7
  have c_r_8_w8 := x_r.cell (i := 8) rfl
  have f_r_8_w8 := x_r.frozen 8
  go_wp2_with fail
  refine (toAccS_c (rAccs.from_ B_w8) (by omega)).mono ?_
  rintro e w9 ⟨uAccs, rfl, oAccs, h_w9⟩
  clear c_a_0_w7 f_a_0_w7 c_a_1_w7 f_a_1_w7 c_a_2_w7 f_a_2_w7 c_a_3_w7 f_a_3_w7 c_a_4_w7 f_a_4_w7 c_a_5_w7 f_a_5_w7 c_a_6_w7 f_a_6_w7 c_a_7_w7 f_a_7_w7 c_a_8_w7 f_a_8_w7 c_out_0_w7 f_out_0_w7 c_out_1_w7 f_out_1_w7 c_out_2_w7 f_out_2_w7 c_out_3_w7 f_out_3_w7 c_out_4_w7 f_out_4_w7 c_out_5_w7 f_out_5_w7 c_out_6_w7 f_out_6_w7 c_out_7_w7 f_out_7_w7 c_out_8_w7 f_out_8_w7 c_r_0_w7 f_r_0_w7 c_r_1_w7 f_r_1_w7 c_r_2_w7 f_r_2_w7 c_r_3_w7 f_r_3_w7 c_r_4_w7 f_r_4_w7 c_r_5_w7 f_r_5_w7 c_r_6_w7 f_r_6_w7 c_r_7_w7 f_r_7_w7 c_r_8_w7 f_r_8_w7 c_a_0_w8 f_a_0_w8 c_a_1_w8 f_a_1_w8 c_a_2_w8 f_a_2_w8 c_a_3_w8 f_a_3_w8 c_a_4_w8 f_a_4_w8 c_a_5_w8 f_a_5_w8 c_a_6_w8 f_a_6_w8 c_a_7_w8 f_a_7_w8 c_a_8_w8 f_a_8_w8 c_out_0_w8 f_out_0_w8 c_out_1_w8 f_out_1_w8 c_out_2_w8 f_out_2_w8 c_out_3_w8 f_out_3_w8 c_out_4_w8 f_out_4_w8 c_out_5_w8 f_out_5_w8 c_out_6_w8 f_out_6_w8 c_out_7_w8 f_out_7_w8 c_out_8_w8 f_out_8_w8 c_r_0_w8 f_r_0_w8 c_r_1_w8 f_r_1_w8 c_r_2_w8 f_r_2_w8 c_r_3_w8 f_r_3_w8 c_r_4_w8 f_r_4_w8 c_r_5_w8 f_r_5_w8 c_r_6_w8 f_r_6_w8 c_r_7_w8 f_r_7_w8 c_r_8_w8 f_r_8_w8
  replace x_a := x_a.from_ h_w9
  replace x_r := x_r.from_ h_w9
  replace x_out := x_out.from_ h_w9
  replace oAccts := oAccts.below h_w9
  replace oOuts := oOuts.below h_w9
  replace oIns := oIns.below h_w9
  have B_w9 := B_w8.trans (h_w9.mono B_w8.size)
  have s_w9 := h_w9.size
  obtain ⟨BAccs, eAccs, rfl, -, -, -⟩ := rv_slice oAccs.rd
  have c_a_0_w9 := x_a.cell (i := 0) rfl
  have f_a_0_w9 := x_a.frozen 0
  have c_a_1_w9 := x_a.cell (i := 1) rfl
  have f_a_1_w9 := x_a.frozen 1
  have c_a_2_w9 := x_a.cell (i := 2) rfl
  have f_a_2_w9 := x_a.frozen 2
  have c_a_3_w9 := x_a.cell (i := 3) rfl
  have f_a_3_w9 := x_a.frozen 3
  have c_a_4_w9 := x_a.cell (i := 4) rfl
  have f_a_4_w9 := x_a.frozen 4
  have c_a_5_w9 := x_a.cell (i := 5) rfl
  have f_a_5_w9 := x_a.frozen 5
  have c_a_6_w9 := x_a.cell (i := 6) rfl
  have f_a_6_w9 := x_a.frozen 6
  have c_a_7_w9 := x_a.cell (i := 7) rfl
  have f_a_7_w9 := x_a.frozen 7
  have c_a_8_w9 := x_a.cell (i := 8) rfl
  have f_a_8_w9 := x_a.frozen 8
  have c_out_0_w9 := x_out.cell (i := 0) rfl
  have f_out_0_w9 := x_out.frozen 0
  have c_out_1_w9 := x_out.cell (i := 1) rfl
  have f_out_1_w9 := x_out.frozen 1
  have c_out_2_w9 := x_out.cell (i := 2) rfl
  have f_out_2_w9 := x_out.frozen 2
  have c_out_3_w9 := x_out.cell (i := 3) rfl
  have f_out_3_w9 := x_out.frozen 3
  have c_out_4_w9 := x_out.cell (i := 4) rfl
  have f_out_4_w9 := x_out.frozen 4
  have c_out_5_w9 := x_out.cell (i := 5) rfl
  have f_out_5_w9 := x_out.frozen 5
  have c_out_6_w9 := x_out.cell (i := 6) rfl
  have f_out_6_w9 := x_out.frozen 6
  have c_out_7_w9 := x_out.cell (i := 7) rfl
  have f_out_7_w9 := x_out.frozen 7
  have c_out_8_w9 := x_out.cell (i := 8) rfl
  have f_out_8_w9 := x_out.frozen 8
  have c_r_0_w9 := x_r.cell (i := 0) rfl
  have f_r_0_w9 := x_r.frozen 0
  have c_r_1_w9 := x_r.cell (i := 1) rfl
  have f_r_1_w9 := x_r.frozen 1
  have c_r_2_w9 := x_r.cell (i := 2) rfl
  have f_r_2_w9 := x_r.frozen 2
  have c_r_3_w9 := x_r.cell (i := 3) rfl
  have f_r_3_w9 := x_r.frozen 3
  have c_r_4_w9 := x_r.cell (i := 4) rfl
  have f_r_4_w9 := x_r.frozen 4
  have c_r_5_w9 := x_r.cell (i := 5) rfl
  have f_r_5_w9 := x_r.frozen 5
  have c_r_6_w9 := x_r.cell (i := 6) rfl
  have f_r_6_w9 := x_r.frozen 6
  have c_r_7_w9 := x_r.cell (i := 7) rfl
  have f_r_7_w9 := x_r.frozen 7
  have c_r_8_w9 := x_r.cell (i := 8) rfl
  have f_r_8_w9 := x_r.frozen 8
  obtain ⟨w10, e_w10, s_w10, h_w10, y⟩ := set_step x_out 5 (.slice BAccs d.Accs.length eAccs)
  have s_w10_1 := Nat.le_of_eq s_w10
  have s_w10_2 := Nat.le_of_eq s_w10.symm
  clear s_w10
  replace x_a := x_a.chg h_w10 (by omega)
  replace x_r := x_r.chg h_w10 (by omega)
  replace oAccts := oAccts.chg h_w10 (by omega)
  replace oOuts := oOuts.chg h_w10 (by omega)
  replace oIns := oIns.chg h_w10 (by omega)
  replace oAccs := oAccs.chg h_w10 (by omega)
  have B_w10 := Below.chg_ B_w9 h_w10 (by omega) (by omega)
  replace x_out : Vr w10 (w.heap.size + 1 + 1) 34 [.int .i64 d.Id, .int .i64 d.N, .slice BAccts d.Accts.length eAccts, .slice BOuts d.Outs.length eOuts, .slice BIns d.Ins.length eIns, .slice BAccs d.Accs.length eAccs, .int .i64 0, .int .i64 0, .int .i64 0] := y
  clear y
  have c_a_0_w10 := x_a.cell (i := 0) rfl
  have f_a_0_w10 := x_a.frozen 0
  have c_a_1_w10 := x_a.cell (i := 1) rfl
  have f_a_1_w10 := x_a.frozen 1
  have c_a_2_w10 := x_a.cell (i := 2) rfl
  have f_a_2_w10 := x_a.frozen 2
  have c_a_3_w10 := x_a.cell (i := 3) rfl
  have f_a_3_w10 := x_a.frozen 3
  have c_a_4_w10 := x_a.cell (i := 4) rfl
  have f_a_4_w10 := x_a.frozen 4
  have c_a_5_w10 := x_a.cell (i := 5) rfl
  have f_a_5_w10 := x_a.frozen 5
  have c_a_6_w10 := x_a.cell (i := 6) rfl
  have f_a_6_w10 := x_a.frozen 6
  have c_a_7_w10 := x_a.cell (i := 7) rfl
  have f_a_7_w10 := x_a.frozen 7
  have c_a_8_w10 := x_a.cell (i := 8) rfl
  have f_a_8_w10 := x_a.frozen 8
  have c_out_0_w10 := x_out.cell (i := 0) rfl
  have f_out_0_w10 := x_out.frozen 0
  have c_out_1_w10 := x_out.cell (i := 1) rfl
  have f_out_1_w10 := x_out.frozen 1
  have c_out_2_w10 := x_out.cell (i := 2) rfl
  have f_out_2_w10 := x_out.frozen 2
  have c_out_3_w10 := x_out.cell (i := 3) rfl
  have f_out_3_w10 := x_out.frozen 3
  have c_out_4_w10 := x_out.cell (i := 4) rfl
  have f_out_4_w10 := x_out.frozen 4
  have c_out_5_w10 := x_out.cell (i := 5) rfl
  have f_out_5_w10 := x_out.frozen 5
  have c_out_6_w10 := x_out.cell (i := 6) rfl
  have f_out_6_w10 := x_out.frozen 6
  have c_out_7_w10 := x_out.cell (i := 7) rfl
  have f_out_7_w10 := x_out.frozen 7
  have c_out_8_w10 := x_out.cell (i := 8) rfl
  have f_out_8_w10 := x_out.frozen 8
  have c_r_0_w10 := x_r.cell (i := 0) rfl
  have f_r_0_w10 := x_r.frozen 0
  have c_r_1_w10 := x_r.cell (i := 1) rfl
  have f_r_1_w10 := x_r.frozen 1
  have c_r_2_w10 := x_r.cell (i := 2) rfl
  have f_r_2_w10 := x_r.frozen 2
  have c_r_3_w10 := x_r.cell (i := 3) rfl
  have f_r_3_w10 := x_r.frozen 3
  have c_r_4_w10 := x_r.cell (i := 4) rfl
  have f_r_4_w10 := x_r.frozen 4
  have c_r_5_w10 := x_r.cell (i := 5) rfl
  have f_r_5_w10 := x_r.frozen 5
  have c_r_6_w10 := x_r.cell (i := 6) rfl
  have f_r_6_w10 := x_r.frozen 6
  have c_r_7_w10 := x_r.cell (i := 7) rfl
  have f_r_7_w10 := x_r.frozen 7
  have c_r_8_w10 := x_r.cell (i := 8) rfl
  have f_r_8_w10 := x_r.frozen 8
  obtain ⟨w11, e_w11, s_w11, h_w11, y⟩ := set_step x_out 6 (.int .i64 d.Stray)
  have s_w11_1 := Nat.le_of_eq s_w11
  have s_w11_2 := Nat.le_of_eq s_w11.symm
  clear s_w11
  replace x_a := x_a.chg h_w11 (by omega)
  replace x_r := x_r.chg h_w11 (by omega)
  replace oAccts := oAccts.chg h_w11 (by omega)
  replace oOuts := oOuts.chg h_w11 (by omega)
  replace oIns := oIns.chg h_w11 (by omega)
  replace oAccs := oAccs.chg h_w11 (by omega)
  have B_w11 := Below.chg_ B_w10 h_w11 (by omega) (by omega)
  replace x_out : Vr w11 (w.heap.size + 1 + 1) 34 [.int .i64 d.Id, .int .i64 d.N, .slice BAccts d.Accts.length eAccts, .slice BOuts d.Outs.length eOuts, .slice BIns d.Ins.length eIns, .slice BAccs d.Accs.length eAccs, .int .i64 d.Stray, .int .i64 0, .int .i64 0] := y
  clear y
  have c_a_0_w11 := x_a.cell (i := 0) rfl
  have f_a_0_w11 := x_a.frozen 0
  have c_a_1_w11 := x_a.cell (i := 1) rfl
  have f_a_1_w11 := x_a.frozen 1
  have c_a_2_w11 := x_a.cell (i := 2) rfl
  have f_a_2_w11 := x_a.frozen 2
  have c_a_3_w11 := x_a.cell (i := 3) rfl
  have f_a_3_w11 := x_a.frozen 3
  have c_a_4_w11 := x_a.cell (i := 4) rfl
  have f_a_4_w11 := x_a.frozen 4
  have c_a_5_w11 := x_a.cell (i := 5) rfl
  have f_a_5_w11 := x_a.frozen 5
  have c_a_6_w11 := x_a.cell (i := 6) rfl
  have f_a_6_w11 := x_a.frozen 6
  have c_a_7_w11 := x_a.cell (i := 7) rfl
  have f_a_7_w11 := x_a.frozen 7
  have c_a_8_w11 := x_a.cell (i := 8) rfl
  have f_a_8_w11 := x_a.frozen 8
  have c_out_0_w11 := x_out.cell (i := 0) rfl
  have f_out_0_w11 := x_out.frozen 0
  have c_out_1_w11 := x_out.cell (i := 1) rfl
  have f_out_1_w11 := x_out.frozen 1
  have c_out_2_w11 := x_out.cell (i := 2) rfl
  have f_out_2_w11 := x_out.frozen 2
  have c_out_3_w11 := x_out.cell (i := 3) rfl
  have f_out_3_w11 := x_out.frozen 3
  have c_out_4_w11 := x_out.cell (i := 4) rfl
  have f_out_4_w11 := x_out.frozen 4
  have c_out_5_w11 := x_out.cell (i := 5) rfl
  have f_out_5_w11 := x_out.frozen 5
  have c_out_6_w11 := x_out.cell (i := 6) rfl
  have f_out_6_w11 := x_out.frozen 6
  have c_out_7_w11 := x_out.cell (i := 7) rfl
  have f_out_7_w11 := x_out.frozen 7
  have c_out_8_w11 := x_out.cell (i := 8) rfl
  have f_out_8_w11 := x_out.frozen 8
  have c_r_0_w11 := x_r.cell (i := 0) rfl
  have f_r_0_w11 := x_r.frozen 0
  have c_r_1_w11 := x_r.cell (i := 1) rfl
  have f_r_1_w11 := x_r.frozen 1
  have c_r_2_w11 := x_r.cell (i := 2) rfl
  have f_r_2_w11 := x_r.frozen 2
  have c_r_3_w11 := x_r.cell (i := 3) rfl
  have f_r_3_w11 := x_r.frozen 3
  have c_r_4_w11 := x_r.cell (i := 4) rfl
  have f_r_4_w11 := x_r.frozen 4
  have c_r_5_w11 := x_r.cell (i := 5) rfl
  have f_r_5_w11 := x_r.frozen 5
  have c_r_6_w11 := x_r.cell (i := 6) rfl
  have f_r_6_w11 := x_r.frozen 6
  have c_r_7_w11 := x_r.cell (i := 7) rfl
  have f_r_7_w11 := x_r.frozen 7
  have c_r_8_w11 := x_r.cell (i := 8) rfl
  have f_r_8_w11 := x_r.frozen 8
  obtain ⟨w12, e_w12, s_w12, h_w12, y⟩ := set_step x_out 7 (.int .i64 d.Came)
  have s_w12_1 := Nat.le_of_eq s_w12
  have s_w12_2 := Nat.le_of_eq s_w12.symm
  clear s_w12
  replace x_a := x_a.chg h_w12 (by omega)
  replace x_r := x_r.chg h_w12 (by omega)
  replace oAccts := oAccts.chg h_w12 (by omega)
  replace oOuts := oOuts.chg h_w12 (by omega)
  replace oIns := oIns.chg h_w12 (by omega)
  replace oAccs := oAccs.chg h_w12 (by omega)
  have B_w12 := Below.chg_ B_w11 h_w12 (by omega) (by omega)
  replace x_out : Vr w12 (w.heap.size + 1 + 1) 34 [.int .i64 d.Id, .int .i64 d.N, .slice BAccts d.Accts.length eAccts, .slice BOuts d.Outs.length eOuts, .slice BIns d.Ins.length eIns, .slice BAccs d.Accs.length eAccs, .int .i64 d.Stray, .int .i64 d.Came, .int .i64 0] := y
  clear y
  have c_a_0_w12 := x_a.cell (i := 0) rfl
  have f_a_0_w12 := x_a.frozen 0
  have c_a_1_w12 := x_a.cell (i := 1) rfl
  have f_a_1_w12 := x_a.frozen 1
  have c_a_2_w12 := x_a.cell (i := 2) rfl
  have f_a_2_w12 := x_a.frozen 2
  have c_a_3_w12 := x_a.cell (i := 3) rfl
  have f_a_3_w12 := x_a.frozen 3
  have c_a_4_w12 := x_a.cell (i := 4) rfl
  have f_a_4_w12 := x_a.frozen 4
  have c_a_5_w12 := x_a.cell (i := 5) rfl
  have f_a_5_w12 := x_a.frozen 5
  have c_a_6_w12 := x_a.cell (i := 6) rfl
  have f_a_6_w12 := x_a.frozen 6
  have c_a_7_w12 := x_a.cell (i := 7) rfl
  have f_a_7_w12 := x_a.frozen 7
  have c_a_8_w12 := x_a.cell (i := 8) rfl
  have f_a_8_w12 := x_a.frozen 8
  have c_out_0_w12 := x_out.cell (i := 0) rfl
  have f_out_0_w12 := x_out.frozen 0
  have c_out_1_w12 := x_out.cell (i := 1) rfl
  have f_out_1_w12 := x_out.frozen 1
  have c_out_2_w12 := x_out.cell (i := 2) rfl
  have f_out_2_w12 := x_out.frozen 2
  have c_out_3_w12 := x_out.cell (i := 3) rfl
  have f_out_3_w12 := x_out.frozen 3
  have c_out_4_w12 := x_out.cell (i := 4) rfl
  have f_out_4_w12 := x_out.frozen 4
  have c_out_5_w12 := x_out.cell (i := 5) rfl
  have f_out_5_w12 := x_out.frozen 5
  have c_out_6_w12 := x_out.cell (i := 6) rfl
  have f_out_6_w12 := x_out.frozen 6
  have c_out_7_w12 := x_out.cell (i := 7) rfl
  have f_out_7_w12 := x_out.frozen 7
  have c_out_8_w12 := x_out.cell (i := 8) rfl
  have f_out_8_w12 := x_out.frozen 8
  have c_r_0_w12 := x_r.cell (i := 0) rfl
  have f_r_0_w12 := x_r.frozen 0
  have c_r_1_w12 := x_r.cell (i := 1) rfl
  have f_r_1_w12 := x_r.frozen 1
  have c_r_2_w12 := x_r.cell (i := 2) rfl
  have f_r_2_w12 := x_r.frozen 2
  have c_r_3_w12 := x_r.cell (i := 3) rfl
  have f_r_3_w12 := x_r.frozen 3
  have c_r_4_w12 := x_r.cell (i := 4) rfl
  have f_r_4_w12 := x_r.frozen 4
  have c_r_5_w12 := x_r.cell (i := 5) rfl
  have f_r_5_w12 := x_r.frozen 5
  have c_r_6_w12 := x_r.cell (i := 6) rfl
  have f_r_6_w12 := x_r.frozen 6
  have c_r_7_w12 := x_r.cell (i := 7) rfl
  have f_r_7_w12 := x_r.frozen 7
  have c_r_8_w12 := x_r.cell (i := 8) rfl
  have f_r_8_w12 := x_r.frozen 8
  obtain ⟨w13, e_w13, s_w13, h_w13, y⟩ := set_step x_out 8 (.int .i64 d.Went)
  have s_w13_1 := Nat.le_of_eq s_w13
  have s_w13_2 := Nat.le_of_eq s_w13.symm
  clear s_w13
  replace x_a := x_a.chg h_w13 (by omega)
  replace x_r := x_r.chg h_w13 (by omega)
  replace oAccts := oAccts.chg h_w13 (by omega)
  replace oOuts := oOuts.chg h_w13 (by omega)
  replace oIns := oIns.chg h_w13 (by omega)
  replace oAccs := oAccs.chg h_w13 (by omega)
  have B_w13 := Below.chg_ B_w12 h_w13 (by omega) (by omega)
  replace x_out : Vr w13 (w.heap.size + 1 + 1) 34 [.int .i64 d.Id, .int .i64 d.N, .slice BAccts d.Accts.length eAccts, .slice BOuts d.Outs.length eOuts, .slice BIns d.Ins.length eIns, .slice BAccs d.Accs.length eAccs, .int .i64 d.Stray, .int .i64 d.Came, .int .i64 d.Went] := y
  clear y
  have c_a_0_w13 := x_a.cell (i := 0) rfl
  have f_a_0_w13 := x_a.frozen 0
  have c_a_1_w13 := x_a.cell (i := 1) rfl
  have f_a_1_w13 := x_a.frozen 1
  have c_a_2_w13 := x_a.cell (i := 2) rfl
  have f_a_2_w13 := x_a.frozen 2
  have c_a_3_w13 := x_a.cell (i := 3) rfl
  have f_a_3_w13 := x_a.frozen 3
  have c_a_4_w13 := x_a.cell (i := 4) rfl
  have f_a_4_w13 := x_a.frozen 4
  have c_a_5_w13 := x_a.cell (i := 5) rfl
  have f_a_5_w13 := x_a.frozen 5
  have c_a_6_w13 := x_a.cell (i := 6) rfl
  have f_a_6_w13 := x_a.frozen 6
  have c_a_7_w13 := x_a.cell (i := 7) rfl
  have f_a_7_w13 := x_a.frozen 7
  have c_a_8_w13 := x_a.cell (i := 8) rfl
  have f_a_8_w13 := x_a.frozen 8
  have c_out_0_w13 := x_out.cell (i := 0) rfl
  have f_out_0_w13 := x_out.frozen 0
  have c_out_1_w13 := x_out.cell (i := 1) rfl
  have f_out_1_w13 := x_out.frozen 1
  have c_out_2_w13 := x_out.cell (i := 2) rfl
  have f_out_2_w13 := x_out.frozen 2
  have c_out_3_w13 := x_out.cell (i := 3) rfl
  have f_out_3_w13 := x_out.frozen 3
  have c_out_4_w13 := x_out.cell (i := 4) rfl
  have f_out_4_w13 := x_out.frozen 4
  have c_out_5_w13 := x_out.cell (i := 5) rfl
  have f_out_5_w13 := x_out.frozen 5
  have c_out_6_w13 := x_out.cell (i := 6) rfl
  have f_out_6_w13 := x_out.frozen 6
  have c_out_7_w13 := x_out.cell (i := 7) rfl
  have f_out_7_w13 := x_out.frozen 7
  have c_out_8_w13 := x_out.cell (i := 8) rfl
  have f_out_8_w13 := x_out.frozen 8
  have c_r_0_w13 := x_r.cell (i := 0) rfl
  have f_r_0_w13 := x_r.frozen 0
  have c_r_1_w13 := x_r.cell (i := 1) rfl
  have f_r_1_w13 := x_r.frozen 1
  have c_r_2_w13 := x_r.cell (i := 2) rfl
  have f_r_2_w13 := x_r.frozen 2
  have c_r_3_w13 := x_r.cell (i := 3) rfl
  have f_r_3_w13 := x_r.frozen 3
  have c_r_4_w13 := x_r.cell (i := 4) rfl
  have f_r_4_w13 := x_r.frozen 4
  have c_r_5_w13 := x_r.cell (i := 5) rfl
  have f_r_5_w13 := x_r.frozen 5
  have c_r_6_w13 := x_r.cell (i := 6) rfl
  have f_r_6_w13 := x_r.frozen 6
  have c_r_7_w13 := x_r.cell (i := 7) rfl
  have f_r_7_w13 := x_r.frozen 7
  have c_r_8_w13 := x_r.cell (i := 8) rfl
  have f_r_8_w13 := x_r.frozen 8
  obtain ⟨w14, e_w14, s_w14, h_w14, y⟩ := store_step x_r [.int .i64 d.Id, .int .i64 d.N, .slice BAccts d.Accts.length eAccts, .slice BOuts d.Outs.length eOuts, .slice BIns d.Ins.length eIns, .slice BAccs d.Accs.length eAccs, .int .i64 d.Stray, .int .i64 d.Came, .int .i64 d.Went] rfl
  replace e_w14 : (((((((((w13.setCell ⟨w.heap.size + 1, 0, none⟩ (.int .i64 d.Id)).setCell ⟨w.heap.size + 1, 1, none⟩ (.int .i64 d.N)).setCell ⟨w.heap.size + 1, 2, none⟩ (.slice BAccts d.Accts.length eAccts)).setCell ⟨w.heap.size + 1, 3, none⟩ (.slice BOuts d.Outs.length eOuts)).setCell ⟨w.heap.size + 1, 4, none⟩ (.slice BIns d.Ins.length eIns)).setCell ⟨w.heap.size + 1, 5, none⟩ (.slice BAccs d.Accs.length eAccs)).setCell ⟨w.heap.size + 1, 6, none⟩ (.int .i64 d.Stray)).setCell ⟨w.heap.size + 1, 7, none⟩ (.int .i64 d.Came)).setCell ⟨w.heap.size + 1, 8, none⟩ (.int .i64 d.Went)) = w14 := e_w14
  have s_w14_1 := Nat.le_of_eq s_w14
  have s_w14_2 := Nat.le_of_eq s_w14.symm
  clear s_w14
  replace x_a := x_a.chg h_w14 (by omega)
  replace x_out := x_out.chg h_w14 (by omega)
  replace oAccts := oAccts.chg h_w14 (by omega)
  replace oOuts := oOuts.chg h_w14 (by omega)
  replace oIns := oIns.chg h_w14 (by omega)
  replace oAccs := oAccs.chg h_w14 (by omega)
  have B_w14 := Below.chg_ B_w13 h_w14 (by omega) (by omega)
  replace x_r : Vr w14 (w.heap.size + 1) 34 [.int .i64 d.Id, .int .i64 d.N, .slice BAccts d.Accts.length eAccts, .slice BOuts d.Outs.length eOuts, .slice BIns d.Ins.length eIns, .slice BAccs d.Accs.length eAccs, .int .i64 d.Stray, .int .i64 d.Came, .int .i64 d.Went] := y
  clear y
  have c_r_0_w14 := x_r.cell (i := 0) rfl
  have f_r_0_w14 := x_r.frozen 0
  have c_r_1_w14 := x_r.cell (i := 1) rfl
  have f_r_1_w14 := x_r.frozen 1
  have c_r_2_w14 := x_r.cell (i := 2) rfl
  have f_r_2_w14 := x_r.frozen 2
  have c_r_3_w14 := x_r.cell (i := 3) rfl
  have f_r_3_w14 := x_r.frozen 3
  have c_r_4_w14 := x_r.cell (i := 4) rfl
  have f_r_4_w14 := x_r.frozen 4
  have c_r_5_w14 := x_r.cell (i := 5) rfl
  have f_r_5_w14 := x_r.frozen 5
  have c_r_6_w14 := x_r.cell (i := 6) rfl
  have f_r_6_w14 := x_r.frozen 6
  have c_r_7_w14 := x_r.cell (i := 7) rfl
  have f_r_7_w14 := x_r.frozen 7
  have c_r_8_w14 := x_r.cell (i := 8) rfl
  have f_r_8_w14 := x_r.frozen 8
  go_wp2
  refine ret_cell (by rfl) (by rfl) x_r Try.underlying34 sz_node (by rfl) ?_
  exact ⟨_, rfl, ov_node oAccts oOuts oIns oAccs (by omega), B_w14⟩

set_option maxHeartbeats 1000000 in
theorem eqNode_same {w : World} {v v' : Value} {d : MNode} (h : RV nodeL w v d) (h' : RV nodeL w v' d) (hm : d.bulk ≤ 1073741824) : Calls Try.prog 13 #[v, v'] w fun e w' => e = .returned (.bool true) ∧ Below w.heap.size w w' := by
  obtain ⟨AAccts, cAccts, AOuts, cOuts, AIns, cIns, AAccs, cAccs, rfl, rAccts, rOuts, rIns, rAccs⟩ := rv_node h
  obtain ⟨AAcctsx, cAcctsx, AOutsx, cOutsx, AInsx, cInsx, AAccsx, cAccsx, rfl, rxAccts, rxOuts, rxIns, rxAccs⟩ := rv_node h'
  unfold MNode.bulk at hm
  obtain ⟨wa, hwa, B0, sa, x_a, x_b⟩ := frame2 w 34 [.int .i64 d.Id, .int .i64 d.N, .slice AAccts d.Accts.length cAccts, .slice AOuts d.Outs.length cOuts, .slice AIns d.Ins.length cIns, .slice AAccs d.Accs.length cAccs, .int .i64 d.Stray, .int .i64 d.Came, .int .i64 d.Went] 34 [.int .i64 d.Id, .int .i64 d.N, .slice AAcctsx d.Accts.length cAcctsx, .slice AOutsx d.Outs.length cOutsx, .slice AInsx d.Ins.length cInsx, .slice AAccsx d.Accs.length cAccsx, .int .i64 d.Stray, .int .i64 d.Came, .int .i64 d.Went]
  have sa_1 := Nat.le_of_eq sa
  have sa_2 := Nat.le_of_eq sa.symm
  clear sa
  have c_a_0_wa := x_a.cell (i := 0) rfl
  have c_a_1_wa := x_a.cell (i := 1) rfl
  have c_a_2_wa := x_a.cell (i := 2) rfl
  have c_a_3_wa := x_a.cell (i := 3) rfl
  have c_a_4_wa := x_a.cell (i := 4) rfl
  have c_a_5_wa := x_a.cell (i := 5) rfl
  have c_a_6_wa := x_a.cell (i := 6) rfl
  have c_a_7_wa := x_a.cell (i := 7) rfl
  have c_a_8_wa := x_a.cell (i := 8) rfl
  have c_b_0_wa := x_b.cell (i := 0) rfl
  have c_b_1_wa := x_b.cell (i := 1) rfl
  have c_b_2_wa := x_b.cell (i := 2) rfl
  have c_b_3_wa := x_b.cell (i := 3) rfl
  have c_b_4_wa := x_b.cell (i := 4) rfl
  have c_b_5_wa := x_b.cell (i := 5) rfl
  have c_b_6_wa := x_b.cell (i := 6) rfl
  have c_b_7_wa := x_b.cell (i := 7) rfl
  have c_b_8_wa := x_b.cell (i := 8) rfl
  go_enter Try.func13, Try.ntmps13
  go_wp2_with fail
  refine (eqAcctS_same (rAccts.from_ B0) (rxAccts.from_ B0) (by omega)).mono ?_
  rintro e w1 ⟨rfl, h_w1⟩
  clear c_a_0_wa c_a_1_wa c_a_2_wa c_a_3_wa c_a_4_wa c_a_5_wa c_a_6_wa c_a_7_wa c_a_8_wa c_b_0_wa c_b_1_wa c_b_2_wa c_b_3_wa c_b_4_wa c_b_5_wa c_b_6_wa c_b_7_wa c_b_8_wa
  replace x_a := x_a.from_ h_w1
  replace x_b := x_b.from_ h_w1
  have B_w1 := B0.trans (h_w1.mono B0.size)
  have s_w1 := h_w1.size
  have c_a_0_w1 := x_a.cell (i := 0) rfl
  have c_a_1_w1 := x_a.cell (i := 1) rfl
  have c_a_2_w1 := x_a.cell (i := 2) rfl
  have c_a_3_w1 := x_a.cell (i := 3) rfl
  have c_a_4_w1 := x_a.cell (i := 4) rfl
  have c_a_5_w1 := x_a.cell (i := 5) rfl
  have c_a_6_w1 := x_a.cell (i := 6) rfl
  have c_a_7_w1 := x_a.cell (i := 7) rfl
  have c_a_8_w1 := x_a.cell (i := 8) rfl
  have c_b_0_w1 := x_b.cell (i := 0) rfl
  have c_b_1_w1 := x_b.cell (i := 1) rfl
  have c_b_2_w1 := x_b.cell (i := 2) rfl
  have c_b_3_w1 := x_b.cell (i := 3) rfl
  have c_b_4_w1 := x_b.cell (i := 4) rfl
  have c_b_5_w1 := x_b.cell (i := 5) rfl
  have c_b_6_w1 := x_b.cell (i := 6) rfl
  have c_b_7_w1 := x_b.cell (i := 7) rfl
  have c_b_8_w1 := x_b.cell (i := 8) rfl
  go_wp2_with fail
  refine (eqOutS_same (rOuts.from_ B_w1) (rxOuts.from_ B_w1) (by omega)).mono ?_
  rintro e w2 ⟨rfl, h_w2⟩
  clear c_a_0_w1 c_a_1_w1 c_a_2_w1 c_a_3_w1 c_a_4_w1 c_a_5_w1 c_a_6_w1 c_a_7_w1 c_a_8_w1 c_b_0_w1 c_b_1_w1 c_b_2_w1 c_b_3_w1 c_b_4_w1 c_b_5_w1 c_b_6_w1 c_b_7_w1 c_b_8_w1
  replace x_a := x_a.from_ h_w2
  replace x_b := x_b.from_ h_w2
  have B_w2 := B_w1.trans (h_w2.mono B_w1.size)
  have s_w2 := h_w2.size
  have c_a_0_w2 := x_a.cell (i := 0) rfl
  have c_a_1_w2 := x_a.cell (i := 1) rfl
  have c_a_2_w2 := x_a.cell (i := 2) rfl
  have c_a_3_w2 := x_a.cell (i := 3) rfl
  have c_a_4_w2 := x_a.cell (i := 4) rfl
  have c_a_5_w2 := x_a.cell (i := 5) rfl
  have c_a_6_w2 := x_a.cell (i := 6) rfl
  have c_a_7_w2 := x_a.cell (i := 7) rfl
  have c_a_8_w2 := x_a.cell (i := 8) rfl
  have c_b_0_w2 := x_b.cell (i := 0) rfl
  have c_b_1_w2 := x_b.cell (i := 1) rfl
  have c_b_2_w2 := x_b.cell (i := 2) rfl
  have c_b_3_w2 := x_b.cell (i := 3) rfl
  have c_b_4_w2 := x_b.cell (i := 4) rfl
  have c_b_5_w2 := x_b.cell (i := 5) rfl
  have c_b_6_w2 := x_b.cell (i := 6) rfl
  have c_b_7_w2 := x_b.cell (i := 7) rfl
  have c_b_8_w2 := x_b.cell (i := 8) rfl
  go_wp2_with fail
  refine (eqIntS_same (rIns.from_ B_w2) (rxIns.from_ B_w2) (by omega)).mono ?_
  rintro e w3 ⟨rfl, h_w3⟩
  clear c_a_0_w2 c_a_1_w2 c_a_2_w2 c_a_3_w2 c_a_4_w2 c_a_5_w2 c_a_6_w2 c_a_7_w2 c_a_8_w2 c_b_0_w2 c_b_1_w2 c_b_2_w2 c_b_3_w2 c_b_4_w2 c_b_5_w2 c_b_6_w2 c_b_7_w2 c_b_8_w2
  replace x_a := x_a.from_ h_w3
  replace x_b := x_b.from_ h_w3
  have B_w3 := B_w2.trans (h_w3.mono B_w2.size)
  have s_w3 := h_w3.size
  have c_a_0_w3 := x_a.cell (i := 0) rfl
  have c_a_1_w3 := x_a.cell (i := 1) rfl
  have c_a_2_w3 := x_a.cell (i := 2) rfl
  have c_a_3_w3 := x_a.cell (i := 3) rfl
  have c_a_4_w3 := x_a.cell (i := 4) rfl
  have c_a_5_w3 := x_a.cell (i := 5) rfl
  have c_a_6_w3 := x_a.cell (i := 6) rfl
  have c_a_7_w3 := x_a.cell (i := 7) rfl
  have c_a_8_w3 := x_a.cell (i := 8) rfl
  have c_b_0_w3 := x_b.cell (i := 0) rfl
  have c_b_1_w3 := x_b.cell (i := 1) rfl
  have c_b_2_w3 := x_b.cell (i := 2) rfl
  have c_b_3_w3 := x_b.cell (i := 3) rfl
  have c_b_4_w3 := x_b.cell (i := 4) rfl
  have c_b_5_w3 := x_b.cell (i := 5) rfl
  have c_b_6_w3 := x_b.cell (i := 6) rfl
  have c_b_7_w3 := x_b.cell (i := 7) rfl
  have c_b_8_w3 := x_b.cell (i := 8) rfl
  go_wp2_with fail
  refine (eqAccS_same (rAccs.from_ B_w3) (rxAccs.from_ B_w3) (by omega)).mono ?_
  rintro e w4 ⟨rfl, h_w4⟩
  clear c_a_0_w3 c_a_1_w3 c_a_2_w3 c_a_3_w3 c_a_4_w3 c_a_5_w3 c_a_6_w3 c_a_7_w3 c_a_8_w3 c_b_0_w3 c_b_1_w3 c_b_2_w3 c_b_3_w3 c_b_4_w3 c_b_5_w3 c_b_6_w3 c_b_7_w3 c_b_8_w3
  replace x_a := x_a.from_ h_w4
  replace x_b := x_b.from_ h_w4
  have B_w4 := B_w3.trans (h_w4.mono B_w3.size)
  have s_w4 := h_w4.size
  have c_a_0_w4 := x_a.cell (i := 0) rfl
  have c_a_1_w4 := x_a.cell (i := 1) rfl
  have c_a_2_w4 := x_a.cell (i := 2) rfl
  have c_a_3_w4 := x_a.cell (i := 3) rfl
  have c_a_4_w4 := x_a.cell (i := 4) rfl
  have c_a_5_w4 := x_a.cell (i := 5) rfl
  have c_a_6_w4 := x_a.cell (i := 6) rfl
  have c_a_7_w4 := x_a.cell (i := 7) rfl
  have c_a_8_w4 := x_a.cell (i := 8) rfl
  have c_b_0_w4 := x_b.cell (i := 0) rfl
  have c_b_1_w4 := x_b.cell (i := 1) rfl
  have c_b_2_w4 := x_b.cell (i := 2) rfl
  have c_b_3_w4 := x_b.cell (i := 3) rfl
  have c_b_4_w4 := x_b.cell (i := 4) rfl
  have c_b_5_w4 := x_b.cell (i := 5) rfl
  have c_b_6_w4 := x_b.cell (i := 6) rfl
  have c_b_7_w4 := x_b.cell (i := 7) rfl
  have c_b_8_w4 := x_b.cell (i := 8) rfl
  go_wp2
  go_ret
  exact ⟨rfl, B_w4⟩

set_option maxHeartbeats 1000000 in
theorem markNode_s {w : World} {S : List Nat} {cs : List Value} {d : MNode} {k : Int} (h : nodeL.own w S cs d) (hS : S.Nodup) (hm : d.bulk ≤ 1073741824) (hk0 : 0 ≤ k) (hk1 : k ≤ 1073741824) :
    Calls Try.prog 16 #[valOf cs, .int .i64 k] w (MarkS nodeL w S cs (k + (d.steps : Int)) (d.mark k)) := by
  unfold MNode.steps
  have hbAccts := sumAcctE_size d.Accts
  have hbOuts := sumOutE_size d.Outs
  unfold MNode.bulk at hm
  unfold sizeAcctS at hm hbAccts
  unfold sizeOutS at hm hbOuts
  have hlt := nodeL.own_lt h
  obtain ⟨zId, yId, SId, TId, rfl, rfl, oId, ⟨zN, yN, SN, TN, rfl, rfl, oN, ⟨zAccts, yAccts, SAccts, TAccts, rfl, rfl, oAccts, ⟨zOuts, yOuts, SOuts, TOuts, rfl, rfl, oOuts, ⟨zIns, yIns, SIns, TIns, rfl, rfl, oIns, ⟨zAccs, yAccs, SAccs, TAccs, rfl, rfl, oAccs, ⟨zStray, yStray, SStray, TStray, rfl, rfl, oStray, ⟨zCame, yCame, SCame, TCame, rfl, rfl, oCame, oWent⟩⟩⟩⟩⟩⟩⟩⟩ := h
  obtain ⟨rfl, rfl⟩ := oId
  obtain ⟨rfl, rfl⟩ := oN
  obtain ⟨AAccts, cAccts, rfl, -, -, -⟩ := acctSL.own_rd oAccts
  obtain ⟨AOuts, cOuts, rfl, -, -, -⟩ := outSL.own_rd oOuts
  obtain ⟨AIns, cIns, rfl, -, -, -⟩ := numsL.own_rd oIns
  obtain ⟨AAccs, cAccs, rfl, -, -, -⟩ := accSL.own_rd oAccs
  obtain ⟨rfl, rfl⟩ := oStray
  obtain ⟨rfl, rfl⟩ := oCame
  obtain ⟨rfl, rfl⟩ := oWent
  obtain ⟨nId, mId, dId, eId⟩ := nodup_app hS
  obtain ⟨nN, mN, dN, eN⟩ := nodup_app mId
  obtain ⟨nAccts, mAccts, dAccts, eAccts⟩ := nodup_app mN
  obtain ⟨nOuts, mOuts, dOuts, eOuts⟩ := nodup_app mAccts
  obtain ⟨nIns, mIns, dIns, eIns⟩ := nodup_app mOuts
  obtain ⟨nAccs, mAccs, dAccs, eAccs⟩ := nodup_app mIns
  obtain ⟨nStray, mStray, dStray, eStray⟩ := nodup_app mAccs
  obtain ⟨nCame, mCame, dCame, eCame⟩ := nodup_app mStray
  rw [show valOf ([.int .i64 d.Id] ++ ([.int .i64 d.N] ++ ([.slice AAccts d.Accts.length cAccts] ++ ([.slice AOuts d.Outs.length cOuts] ++ ([.slice AIns d.Ins.length cIns] ++ ([.slice AAccs d.Accs.length cAccs] ++ ([.int .i64 d.Stray] ++ ([.int .i64 d.Came] ++ ([.int .i64 d.Went]))))))))) = Value.agg #[.int .i64 d.Id, .int .i64 d.N, .slice AAccts d.Accts.length cAccts, .slice AOuts d.Outs.length cOuts, .slice AIns d.Ins.length cIns, .slice AAccs d.Accs.length cAccs, .int .i64 d.Stray, .int .i64 d.Came, .int .i64 d.Went] from rfl]
  obtain ⟨wa, hwa, B0, sa, x_a⟩ := frame1 w 34 [.int .i64 d.Id, .int .i64 d.N, .slice AAccts d.Accts.length cAccts, .slice AOuts d.Outs.length cOuts, .slice AIns d.Ins.length cIns, .slice AAccs d.Accs.length cAccs, .int .i64 d.Stray, .int .i64 d.Came, .int .i64 d.Went]
  have sa_1 := Nat.le_of_eq sa
  have sa_2 := Nat.le_of_eq sa.symm
  clear sa
  have c_a_0_wa := x_a.cell (i := 0) rfl
  have c_a_1_wa := x_a.cell (i := 1) rfl
  have c_a_2_wa := x_a.cell (i := 2) rfl
  have c_a_3_wa := x_a.cell (i := 3) rfl
  have c_a_4_wa := x_a.cell (i := 4) rfl
  have c_a_5_wa := x_a.cell (i := 5) rfl
  have c_a_6_wa := x_a.cell (i := 6) rfl
  have c_a_7_wa := x_a.cell (i := 7) rfl
  have c_a_8_wa := x_a.cell (i := 8) rfl
  have C0 : ChgS ([] ++ ([] ++ (SAccts ++ (SOuts ++ (SIns ++ (SAccs ++ ([] ++ ([] ++ ([]))))))))) w wa := ChgS.of_below B0
  have hAccts := fun j hj => hlt j (List.mem_append.2 (.inr (List.mem_append.2 (.inr (List.mem_append.2 (.inl hj))))))
  replace oAccts := acctSL.own_below oAccts B0
  have hOuts := fun j hj => hlt j (List.mem_append.2 (.inr (List.mem_append.2 (.inr (List.mem_append.2 (.inr (List.mem_append.2 (.inl hj))))))))
  replace oOuts := outSL.own_below oOuts B0
  have hIns := fun j hj => hlt j (List.mem_append.2 (.inr (List.mem_append.2 (.inr (List.mem_append.2 (.inr (List.mem_append.2 (.inr (List.mem_append.2 (.inl hj))))))))))
  replace oIns := numsL.own_below oIns B0
  have hAccs := fun j hj => hlt j (List.mem_append.2 (.inr (List.mem_append.2 (.inr (List.mem_append.2 (.inr (List.mem_append.2 (.inr (List.mem_append.2 (.inr (List.mem_append.2 (.inl hj))))))))))))
  replace oAccs := accSL.own_below oAccs B0
  go_enter Try.func16, Try.ntmps16
  go_wp2_with fail
  refine (markAcctS_s oAccts nAccts (by omega) (by omega) (by omega) (by omega)).mono ?_
  rintro e w1 ⟨rfl, oAccts, h_w1⟩
  clear c_a_0_wa c_a_1_wa c_a_2_wa c_a_3_wa c_a_4_wa c_a_5_wa c_a_6_wa c_a_7_wa c_a_8_wa
  have s_w1 := h_w1.size
  replace oOuts := outSL.own_chg oOuts h_w1 (fun a ha hj => dAccts a hj (List.mem_append.2 (.inl ha)))
  replace oIns := numsL.own_chg oIns h_w1 (fun a ha hj => dAccts a hj (List.mem_append.2 (.inr (List.mem_append.2 (.inl ha)))))
  replace oAccs := accSL.own_chg oAccs h_w1 (fun a ha hj => dAccts a hj (List.mem_append.2 (.inr (List.mem_append.2 (.inr (List.mem_append.2 (.inl ha)))))))
  replace x_a := x_a.chgS h_w1 (fun hj => by have := hAccts _ hj; omega)
  have Cw1 := C0.trans (h_w1.more (fun j hj => List.mem_append.2 (.inr (List.mem_append.2 (.inr (List.mem_append.2 (.inl hj)))))))
  have c_a_0_w1 := x_a.cell (i := 0) rfl
  have c_a_1_w1 := x_a.cell (i := 1) rfl
  have c_a_2_w1 := x_a.cell (i := 2) rfl
  have c_a_3_w1 := x_a.cell (i := 3) rfl
  have c_a_4_w1 := x_a.cell (i := 4) rfl
  have c_a_5_w1 := x_a.cell (i := 5) rfl
  have c_a_6_w1 := x_a.cell (i := 6) rfl
  have c_a_7_w1 := x_a.cell (i := 7) rfl
  have c_a_8_w1 := x_a.cell (i := 8) rfl
  go_wp2_with fail
  refine (markOutS_s oOuts nOuts (by omega) (by omega) (by omega) (by omega)).mono ?_
  rintro e w2 ⟨rfl, oOuts, h_w2⟩
  clear c_a_0_w1 c_a_1_w1 c_a_2_w1 c_a_3_w1 c_a_4_w1 c_a_5_w1 c_a_6_w1 c_a_7_w1 c_a_8_w1
  have s_w2 := h_w2.size
  replace oAccts := acctSL.own_chg oAccts h_w2 (fun a ha hj => dAccts a ha (List.mem_append.2 (.inl hj)))
  replace oIns := numsL.own_chg oIns h_w2 (fun a ha hj => dOuts a hj (List.mem_append.2 (.inl ha)))
  replace oAccs := accSL.own_chg oAccs h_w2 (fun a ha hj => dOuts a hj (List.mem_append.2 (.inr (List.mem_append.2 (.inl ha)))))
  replace x_a := x_a.chgS h_w2 (fun hj => by have := hOuts _ hj; omega)
  have Cw2 := Cw1.trans (h_w2.more (fun j hj => List.mem_append.2 (.inr (List.mem_append.2 (.inr (List.mem_append.2 (.inr (List.mem_append.2 (.inl hj)))))))))
  have c_a_0_w2 := x_a.cell (i := 0) rfl
  have c_a_1_w2 := x_a.cell (i := 1) rfl
  have c_a_2_w2 := x_a.cell (i := 2) rfl
  have c_a_3_w2 := x_a.cell (i := 3) rfl
  have c_a_4_w2 := x_a.cell (i := 4) rfl
  have c_a_5_w2 := x_a.cell (i := 5) rfl
  have c_a_6_w2 := x_a.cell (i := 6) rfl
  have c_a_7_w2 := x_a.cell (i := 7) rfl
  have c_a_8_w2 := x_a.cell (i := 8) rfl
  go_wp2_with fail
  refine (markIntS_s oIns (by omega) (by omega) (by omega)).mono ?_
  rintro e w3 ⟨rfl, oIns, h_w3⟩
  clear c_a_0_w2 c_a_1_w2 c_a_2_w2 c_a_3_w2 c_a_4_w2 c_a_5_w2 c_a_6_w2 c_a_7_w2 c_a_8_w2
  have s_w3 := h_w3.size
  replace oAccts := acctSL.own_chg oAccts h_w3 (fun a ha hj => dAccts a ha (List.mem_append.2 (.inr (List.mem_append.2 (.inl hj)))))
  replace oOuts := outSL.own_chg oOuts h_w3 (fun a ha hj => dOuts a ha (List.mem_append.2 (.inl hj)))
  replace oAccs := accSL.own_chg oAccs h_w3 (fun a ha hj => dIns a hj (List.mem_append.2 (.inl ha)))
  replace x_a := x_a.chgS h_w3 (fun hj => by have := hIns _ hj; omega)
  have Cw3 := Cw2.trans (h_w3.more (fun j hj => List.mem_append.2 (.inr (List.mem_append.2 (.inr (List.mem_append.2 (.inr (List.mem_append.2 (.inr (List.mem_append.2 (.inl hj)))))))))))
  have c_a_0_w3 := x_a.cell (i := 0) rfl
  have c_a_1_w3 := x_a.cell (i := 1) rfl
  have c_a_2_w3 := x_a.cell (i := 2) rfl
  have c_a_3_w3 := x_a.cell (i := 3) rfl
  have c_a_4_w3 := x_a.cell (i := 4) rfl
  have c_a_5_w3 := x_a.cell (i := 5) rfl
  have c_a_6_w3 := x_a.cell (i := 6) rfl
  have c_a_7_w3 := x_a.cell (i := 7) rfl
  have c_a_8_w3 := x_a.cell (i := 8) rfl
  go_wp2_with fail
  refine (markAccS_s oAccs (by omega) (by omega) (by omega)).mono ?_
  rintro e w4 ⟨rfl, oAccs, h_w4⟩
  clear c_a_0_w3 c_a_1_w3 c_a_2_w3 c_a_3_w3 c_a_4_w3 c_a_5_w3 c_a_6_w3 c_a_7_w3 c_a_8_w3
  have s_w4 := h_w4.size
  replace oAccts := acctSL.own_chg oAccts h_w4 (fun a ha hj => dAccts a ha (List.mem_append.2 (.inr (List.mem_append.2 (.inr (List.mem_append.2 (.inl hj)))))))
  replace oOuts := outSL.own_chg oOuts h_w4 (fun a ha hj => dOuts a ha (List.mem_append.2 (.inr (List.mem_append.2 (.inl hj)))))
  replace oIns := numsL.own_chg oIns h_w4 (fun a ha hj => dIns a ha (List.mem_append.2 (.inl hj)))
  replace x_a := x_a.chgS h_w4 (fun hj => by have := hAccs _ hj; omega)
  have Cw4 := Cw3.trans (h_w4.more (fun j hj => List.mem_append.2 (.inr (List.mem_append.2 (.inr (List.mem_append.2 (.inr (List.mem_append.2 (.inr (List.mem_append.2 (.inr (List.mem_append.2 (.inl hj)))))))))))))
  have c_a_0_w4 := x_a.cell (i := 0) rfl
  have c_a_1_w4 := x_a.cell (i := 1) rfl
  have c_a_2_w4 := x_a.cell (i := 2) rfl
  have c_a_3_w4 := x_a.cell (i := 3) rfl
  have c_a_4_w4 := x_a.cell (i := 4) rfl
  have c_a_5_w4 := x_a.cell (i := 5) rfl
  have c_a_6_w4 := x_a.cell (i := 6) rfl
  have c_a_7_w4 := x_a.cell (i := 7) rfl
  have c_a_8_w4 := x_a.cell (i := 8) rfl
  go_wp2
  go_ret
  exact ⟨ret_int (by omega), ⟨_, _, [], _, rfl, rfl, ⟨rfl, rfl⟩, ⟨_, _, [], _, rfl, rfl, ⟨rfl, rfl⟩, ⟨_, _, SAccts, _, rfl, rfl, oAccts, ⟨_, _, SOuts, _, rfl, rfl, oOuts, ⟨_, _, SIns, _, rfl, rfl, oIns, ⟨_, _, SAccs, _, rfl, rfl, oAccs, ⟨_, _, [], _, rfl, rfl, ⟨rfl, rfl⟩, ⟨_, _, [], _, rfl, rfl, ⟨rfl, rfl⟩, ⟨rfl, rfl⟩⟩⟩⟩⟩⟩⟩⟩⟩, Cw4⟩

theorem markNode_c {w : World} {v : Value} {d : MNode} {lo hi : Nat} {k : Int} (h : OV nodeL w lo hi v d) (hm : d.bulk ≤ 1073741824) (hk0 : 0 ≤ k) (hk1 : k ≤ 1073741824) :
    Calls Try.prog 16 #[v, .int .i64 k] w fun e w' => e = .returned (.int .i64 (k + (d.steps : Int))) ∧ OV nodeL w' lo hi v (d.mark k) ∧ Chg lo hi w w' := by
  obtain ⟨cs, S, rfl, ho, hn, hS, hh⟩ := h
  exact (markNode_s ho hn hm hk0 hk1).mono fun e w' hr => hr.up hn hS hh

set_option maxHeartbeats 1000000 in
theorem heldNode_c {w : World} {v : Value} {d : MNode} {k : Int} (h : RV nodeL w v (d.mark k)) (hm : d.bulk ≤ 1073741824) (hk0 : 0 ≤ k) (hk1 : k ≤ 1073741824) :
    Calls Try.prog 17 #[v, .int .i64 k] w fun e w' => e = .returned (.int .i64 (k + (d.steps : Int))) ∧ Below w.heap.size w w' := by
  unfold MNode.steps
  unfold MNode.bulk at hm
  have hbAccts := sumAcctE_size d.Accts
  have hbOuts := sumOutE_size d.Outs
  obtain ⟨AAccts, cAccts, AOuts, cOuts, AIns, cIns, AAccs, cAccs, rfl, rAccts, rOuts, rIns, rAccs⟩ := rv_node h
  obtain ⟨wa, hwa, B0, sa, x_a⟩ := frame1 w 34 [.int .i64 (d.mark k).Id, .int .i64 (d.mark k).N, .slice AAccts (d.mark k).Accts.length cAccts, .slice AOuts (d.mark k).Outs.length cOuts, .slice AIns (d.mark k).Ins.length cIns, .slice AAccs (d.mark k).Accs.length cAccs, .int .i64 (d.mark k).Stray, .int .i64 (d.mark k).Came, .int .i64 (d.mark k).Went]
  have sa_1 := Nat.le_of_eq sa
  have sa_2 := Nat.le_of_eq sa.symm
  clear sa
  have c_a_0_wa := x_a.cell (i := 0) rfl
  have c_a_1_wa := x_a.cell (i := 1) rfl
  have c_a_2_wa := x_a.cell (i := 2) rfl
  have c_a_3_wa := x_a.cell (i := 3) rfl
  have c_a_4_wa := x_a.cell (i := 4) rfl
  have c_a_5_wa := x_a.cell (i := 5) rfl
  have c_a_6_wa := x_a.cell (i := 6) rfl
  have c_a_7_wa := x_a.cell (i := 7) rfl
  have c_a_8_wa := x_a.cell (i := 8) rfl
  go_enter Try.func17, Try.ntmps17
  go_wp2_with fail
  refine (heldAcctS_c (xs := d.Accts) (rAccts.from_ B0) (by omega) (by omega) (by omega)).mono ?_
  rintro e w1 ⟨rfl, h_w1⟩
  clear c_a_0_wa c_a_1_wa c_a_2_wa c_a_3_wa c_a_4_wa c_a_5_wa c_a_6_wa c_a_7_wa c_a_8_wa
  replace x_a := x_a.from_ h_w1
  have B_w1 := B0.trans (h_w1.mono B0.size)
  have s_w1 := h_w1.size
  have c_a_0_w1 := x_a.cell (i := 0) rfl
  have c_a_1_w1 := x_a.cell (i := 1) rfl
  have c_a_2_w1 := x_a.cell (i := 2) rfl
  have c_a_3_w1 := x_a.cell (i := 3) rfl
  have c_a_4_w1 := x_a.cell (i := 4) rfl
  have c_a_5_w1 := x_a.cell (i := 5) rfl
  have c_a_6_w1 := x_a.cell (i := 6) rfl
  have c_a_7_w1 := x_a.cell (i := 7) rfl
  have c_a_8_w1 := x_a.cell (i := 8) rfl
  go_wp2_with fail
  refine (heldOutS_c (xs := d.Outs) (rOuts.from_ B_w1) (by omega) (by omega) (by omega)).mono ?_
  rintro e w2 ⟨rfl, h_w2⟩
  clear c_a_0_w1 c_a_1_w1 c_a_2_w1 c_a_3_w1 c_a_4_w1 c_a_5_w1 c_a_6_w1 c_a_7_w1 c_a_8_w1
  replace x_a := x_a.from_ h_w2
  have B_w2 := B_w1.trans (h_w2.mono B_w1.size)
  have s_w2 := h_w2.size
  have c_a_0_w2 := x_a.cell (i := 0) rfl
  have c_a_1_w2 := x_a.cell (i := 1) rfl
  have c_a_2_w2 := x_a.cell (i := 2) rfl
  have c_a_3_w2 := x_a.cell (i := 3) rfl
  have c_a_4_w2 := x_a.cell (i := 4) rfl
  have c_a_5_w2 := x_a.cell (i := 5) rfl
  have c_a_6_w2 := x_a.cell (i := 6) rfl
  have c_a_7_w2 := x_a.cell (i := 7) rfl
  have c_a_8_w2 := x_a.cell (i := 8) rfl
  go_wp2_with fail
  refine (heldIntS_c (n := d.Ins.length) (rIns.from_ B_w2) (by omega) (by omega) (by omega)).mono ?_
  rintro e w3 ⟨rfl, h_w3⟩
  clear c_a_0_w2 c_a_1_w2 c_a_2_w2 c_a_3_w2 c_a_4_w2 c_a_5_w2 c_a_6_w2 c_a_7_w2 c_a_8_w2
  replace x_a := x_a.from_ h_w3
  have B_w3 := B_w2.trans (h_w3.mono B_w2.size)
  have s_w3 := h_w3.size
  have c_a_0_w3 := x_a.cell (i := 0) rfl
  have c_a_1_w3 := x_a.cell (i := 1) rfl
  have c_a_2_w3 := x_a.cell (i := 2) rfl
  have c_a_3_w3 := x_a.cell (i := 3) rfl
  have c_a_4_w3 := x_a.cell (i := 4) rfl
  have c_a_5_w3 := x_a.cell (i := 5) rfl
  have c_a_6_w3 := x_a.cell (i := 6) rfl
  have c_a_7_w3 := x_a.cell (i := 7) rfl
  have c_a_8_w3 := x_a.cell (i := 8) rfl
  go_wp2_with fail
  refine (heldAccS_c (N := d.Accs.length) (rAccs.from_ B_w3) (by omega) (by omega) (by omega)).mono ?_
  rintro e w4 ⟨rfl, h_w4⟩
  clear c_a_0_w3 c_a_1_w3 c_a_2_w3 c_a_3_w3 c_a_4_w3 c_a_5_w3 c_a_6_w3 c_a_7_w3 c_a_8_w3
  replace x_a := x_a.from_ h_w4
  have B_w4 := B_w3.trans (h_w4.mono B_w3.size)
  have s_w4 := h_w4.size
  have c_a_0_w4 := x_a.cell (i := 0) rfl
  have c_a_1_w4 := x_a.cell (i := 1) rfl
  have c_a_2_w4 := x_a.cell (i := 2) rfl
  have c_a_3_w4 := x_a.cell (i := 3) rfl
  have c_a_4_w4 := x_a.cell (i := 4) rfl
  have c_a_5_w4 := x_a.cell (i := 5) rfl
  have c_a_6_w4 := x_a.cell (i := 6) rfl
  have c_a_7_w4 := x_a.cell (i := 7) rfl
  have c_a_8_w4 := x_a.cell (i := 8) rfl
  go_wp2
  go_ret
  exact ⟨ret_int (by omega), B_w4⟩

set_option maxHeartbeats 1000000 in
theorem szNode_c {w : World} {v : Value} {d : MNode} {left : Int} (h : RV nodeL w v d) (h0 : 0 ≤ left) (h1 : left ≤ 1073741824) :
    Calls Try.prog 9 #[v, .int .i64 left] w fun e w' => e = .returned (.int .i64 (szV left (d.bulk : Int))) ∧ Below w.heap.size w w' := by
  obtain ⟨AAccts, cAccts, AOuts, cOuts, AIns, cIns, AAccs, cAccs, rfl, rAccts, rOuts, rIns, rAccs⟩ := rv_node h
  obtain ⟨wa, hwa, B0, sa, x_a⟩ := frame1 w 27 [.int .i64 d.Id, .int .i64 d.N, .slice AAccts d.Accts.length cAccts, .slice AOuts d.Outs.length cOuts, .slice AIns d.Ins.length cIns, .slice AAccs d.Accs.length cAccs, .int .i64 d.Stray, .int .i64 d.Came, .int .i64 d.Went]
  have sa_1 := Nat.le_of_eq sa
  have sa_2 := Nat.le_of_eq sa.symm
  clear sa
  have c_a_0_wa := x_a.cell (i := 0) rfl
  have c_a_1_wa := x_a.cell (i := 1) rfl
  have c_a_2_wa := x_a.cell (i := 2) rfl
  have c_a_3_wa := x_a.cell (i := 3) rfl
  have c_a_4_wa := x_a.cell (i := 4) rfl
  have c_a_5_wa := x_a.cell (i := 5) rfl
  have c_a_6_wa := x_a.cell (i := 6) rfl
  have c_a_7_wa := x_a.cell (i := 7) rfl
  have c_a_8_wa := x_a.cell (i := 8) rfl
  have eb : (d.bulk : Int) = (sizeAcctS d.Accts : Int) + (sizeOutS d.Outs : Int) + (d.Ins.length : Int) + (d.Accs.length : Int) := by unfold MNode.bulk; omega
  by_cases g0 : (sizeAcctS d.Accts : Int) ≤ left
  case neg =>
    have ez : szV left (d.bulk : Int) = -1 := by unfold szV; rw [if_neg (by omega)]
    rw [ez]
    go_enter Try.func9, Try.ntmps9
    go_wp2_with fail
    refine (szAcctS_c (rAccts.from_ B0) (by omega) (by omega)).mono ?_
    rintro e w1 ⟨rfl, h_w1⟩
    clear c_a_0_wa c_a_1_wa c_a_2_wa c_a_3_wa c_a_4_wa c_a_5_wa c_a_6_wa c_a_7_wa c_a_8_wa
    replace x_a := x_a.from_ h_w1
    have B_w1 := B0.trans (h_w1.mono B0.size)
    have s_w1 := h_w1.size
    rw [show szV (left) (sizeAcctS d.Accts : Int) = -1 from if_neg (by omega)]
    go_wp2
    go_ret
    exact ⟨ret_int (by omega), B_w1⟩
  by_cases g1 : (sizeAcctS d.Accts : Int) + (sizeOutS d.Outs : Int) ≤ left
  case neg =>
    have ez : szV left (d.bulk : Int) = -1 := by unfold szV; rw [if_neg (by omega)]
    rw [ez]
    go_enter Try.func9, Try.ntmps9
    go_wp2_with fail
    refine (szAcctS_c (rAccts.from_ B0) (by omega) (by omega)).mono ?_
    rintro e w1 ⟨rfl, h_w1⟩
    clear c_a_0_wa c_a_1_wa c_a_2_wa c_a_3_wa c_a_4_wa c_a_5_wa c_a_6_wa c_a_7_wa c_a_8_wa
    replace x_a := x_a.from_ h_w1
    have B_w1 := B0.trans (h_w1.mono B0.size)
    have s_w1 := h_w1.size
    rw [show szV (left) (sizeAcctS d.Accts : Int) = left - (sizeAcctS d.Accts : Int) from if_pos (by omega)]
    have gd0 : decide (left - (sizeAcctS d.Accts : Int) < 0) = false := by simp; omega
    have c_a_0_w1 := x_a.cell (i := 0) rfl
    have c_a_1_w1 := x_a.cell (i := 1) rfl
    have c_a_2_w1 := x_a.cell (i := 2) rfl
    have c_a_3_w1 := x_a.cell (i := 3) rfl
    have c_a_4_w1 := x_a.cell (i := 4) rfl
    have c_a_5_w1 := x_a.cell (i := 5) rfl
    have c_a_6_w1 := x_a.cell (i := 6) rfl
    have c_a_7_w1 := x_a.cell (i := 7) rfl
    have c_a_8_w1 := x_a.cell (i := 8) rfl
    go_wp2_with fail
    refine (szOutS_c (rOuts.from_ B_w1) (by omega) (by omega)).mono ?_
    rintro e w2 ⟨rfl, h_w2⟩
    clear c_a_0_w1 c_a_1_w1 c_a_2_w1 c_a_3_w1 c_a_4_w1 c_a_5_w1 c_a_6_w1 c_a_7_w1 c_a_8_w1
    replace x_a := x_a.from_ h_w2
    have B_w2 := B_w1.trans (h_w2.mono B_w1.size)
    have s_w2 := h_w2.size
    rw [show szV (left - (sizeAcctS d.Accts : Int)) (sizeOutS d.Outs : Int) = -1 from if_neg (by omega)]
    go_wp2
    go_ret
    exact ⟨ret_int (by omega), B_w2⟩
  by_cases g2 : (sizeAcctS d.Accts : Int) + (sizeOutS d.Outs : Int) + (d.Ins.length : Int) ≤ left
  case neg =>
    have ez : szV left (d.bulk : Int) = -1 := by unfold szV; rw [if_neg (by omega)]
    rw [ez]
    go_enter Try.func9, Try.ntmps9
    go_wp2_with fail
    refine (szAcctS_c (rAccts.from_ B0) (by omega) (by omega)).mono ?_
    rintro e w1 ⟨rfl, h_w1⟩
    clear c_a_0_wa c_a_1_wa c_a_2_wa c_a_3_wa c_a_4_wa c_a_5_wa c_a_6_wa c_a_7_wa c_a_8_wa
    replace x_a := x_a.from_ h_w1
    have B_w1 := B0.trans (h_w1.mono B0.size)
    have s_w1 := h_w1.size
    rw [show szV (left) (sizeAcctS d.Accts : Int) = left - (sizeAcctS d.Accts : Int) from if_pos (by omega)]
    have gd0 : decide (left - (sizeAcctS d.Accts : Int) < 0) = false := by simp; omega
    have c_a_0_w1 := x_a.cell (i := 0) rfl
    have c_a_1_w1 := x_a.cell (i := 1) rfl
    have c_a_2_w1 := x_a.cell (i := 2) rfl
    have c_a_3_w1 := x_a.cell (i := 3) rfl
    have c_a_4_w1 := x_a.cell (i := 4) rfl
    have c_a_5_w1 := x_a.cell (i := 5) rfl
    have c_a_6_w1 := x_a.cell (i := 6) rfl
    have c_a_7_w1 := x_a.cell (i := 7) rfl
    have c_a_8_w1 := x_a.cell (i := 8) rfl
    go_wp2_with fail
    refine (szOutS_c (rOuts.from_ B_w1) (by omega) (by omega)).mono ?_
    rintro e w2 ⟨rfl, h_w2⟩
    clear c_a_0_w1 c_a_1_w1 c_a_2_w1 c_a_3_w1 c_a_4_w1 c_a_5_w1 c_a_6_w1 c_a_7_w1 c_a_8_w1
    replace x_a := x_a.from_ h_w2
    have B_w2 := B_w1.trans (h_w2.mono B_w1.size)
    have s_w2 := h_w2.size
    rw [show szV (left - (sizeAcctS d.Accts : Int)) (sizeOutS d.Outs : Int) = left - (sizeAcctS d.Accts : Int) - (sizeOutS d.Outs : Int) from if_pos (by omega)]
    have gd1 : decide (left - (sizeAcctS d.Accts : Int) - (sizeOutS d.Outs : Int) < 0) = false := by simp; omega
    have c_a_0_w2 := x_a.cell (i := 0) rfl
    have c_a_1_w2 := x_a.cell (i := 1) rfl
    have c_a_2_w2 := x_a.cell (i := 2) rfl
    have c_a_3_w2 := x_a.cell (i := 3) rfl
    have c_a_4_w2 := x_a.cell (i := 4) rfl
    have c_a_5_w2 := x_a.cell (i := 5) rfl
    have c_a_6_w2 := x_a.cell (i := 6) rfl
    have c_a_7_w2 := x_a.cell (i := 7) rfl
    have c_a_8_w2 := x_a.cell (i := 8) rfl
    go_wp2_with fail
    refine (szIntS_b (rIns.from_ B_w2) (by omega) (by omega)).mono ?_
    rintro e w3 ⟨rfl, h_w3⟩
    clear c_a_0_w2 c_a_1_w2 c_a_2_w2 c_a_3_w2 c_a_4_w2 c_a_5_w2 c_a_6_w2 c_a_7_w2 c_a_8_w2
    replace x_a := x_a.from_ h_w3
    have B_w3 := B_w2.trans (h_w3.mono B_w2.size)
    have s_w3 := h_w3.size
    rw [show szV (left - (sizeAcctS d.Accts : Int) - (sizeOutS d.Outs : Int)) (d.Ins.length : Int) = -1 from if_neg (by omega)]
    go_wp2
    go_ret
    exact ⟨ret_int (by omega), B_w3⟩
  by_cases g3 : (sizeAcctS d.Accts : Int) + (sizeOutS d.Outs : Int) + (d.Ins.length : Int) + (d.Accs.length : Int) ≤ left
  case neg =>
    have ez : szV left (d.bulk : Int) = -1 := by unfold szV; rw [if_neg (by omega)]
    rw [ez]
    go_enter Try.func9, Try.ntmps9
    go_wp2_with fail
    refine (szAcctS_c (rAccts.from_ B0) (by omega) (by omega)).mono ?_
    rintro e w1 ⟨rfl, h_w1⟩
    clear c_a_0_wa c_a_1_wa c_a_2_wa c_a_3_wa c_a_4_wa c_a_5_wa c_a_6_wa c_a_7_wa c_a_8_wa
    replace x_a := x_a.from_ h_w1
    have B_w1 := B0.trans (h_w1.mono B0.size)
    have s_w1 := h_w1.size
    rw [show szV (left) (sizeAcctS d.Accts : Int) = left - (sizeAcctS d.Accts : Int) from if_pos (by omega)]
    have gd0 : decide (left - (sizeAcctS d.Accts : Int) < 0) = false := by simp; omega
    have c_a_0_w1 := x_a.cell (i := 0) rfl
    have c_a_1_w1 := x_a.cell (i := 1) rfl
    have c_a_2_w1 := x_a.cell (i := 2) rfl
    have c_a_3_w1 := x_a.cell (i := 3) rfl
    have c_a_4_w1 := x_a.cell (i := 4) rfl
    have c_a_5_w1 := x_a.cell (i := 5) rfl
    have c_a_6_w1 := x_a.cell (i := 6) rfl
    have c_a_7_w1 := x_a.cell (i := 7) rfl
    have c_a_8_w1 := x_a.cell (i := 8) rfl
    go_wp2_with fail
    refine (szOutS_c (rOuts.from_ B_w1) (by omega) (by omega)).mono ?_
    rintro e w2 ⟨rfl, h_w2⟩
    clear c_a_0_w1 c_a_1_w1 c_a_2_w1 c_a_3_w1 c_a_4_w1 c_a_5_w1 c_a_6_w1 c_a_7_w1 c_a_8_w1
    replace x_a := x_a.from_ h_w2
    have B_w2 := B_w1.trans (h_w2.mono B_w1.size)
    have s_w2 := h_w2.size
    rw [show szV (left - (sizeAcctS d.Accts : Int)) (sizeOutS d.Outs : Int) = left - (sizeAcctS d.Accts : Int) - (sizeOutS d.Outs : Int) from if_pos (by omega)]
    have gd1 : decide (left - (sizeAcctS d.Accts : Int) - (sizeOutS d.Outs : Int) < 0) = false := by simp; omega
    have c_a_0_w2 := x_a.cell (i := 0) rfl
    have c_a_1_w2 := x_a.cell (i := 1) rfl
    have c_a_2_w2 := x_a.cell (i := 2) rfl
    have c_a_3_w2 := x_a.cell (i := 3) rfl
    have c_a_4_w2 := x_a.cell (i := 4) rfl
    have c_a_5_w2 := x_a.cell (i := 5) rfl
    have c_a_6_w2 := x_a.cell (i := 6) rfl
    have c_a_7_w2 := x_a.cell (i := 7) rfl
    have c_a_8_w2 := x_a.cell (i := 8) rfl
    go_wp2_with fail
    refine (szIntS_b (rIns.from_ B_w2) (by omega) (by omega)).mono ?_
    rintro e w3 ⟨rfl, h_w3⟩
    clear c_a_0_w2 c_a_1_w2 c_a_2_w2 c_a_3_w2 c_a_4_w2 c_a_5_w2 c_a_6_w2 c_a_7_w2 c_a_8_w2
    replace x_a := x_a.from_ h_w3
    have B_w3 := B_w2.trans (h_w3.mono B_w2.size)
    have s_w3 := h_w3.size
    rw [show szV (left - (sizeAcctS d.Accts : Int) - (sizeOutS d.Outs : Int)) (d.Ins.length : Int) = left - (sizeAcctS d.Accts : Int) - (sizeOutS d.Outs : Int) - (d.Ins.length : Int) from if_pos (by omega)]
    have gd2 : decide (left - (sizeAcctS d.Accts : Int) - (sizeOutS d.Outs : Int) - (d.Ins.length : Int) < 0) = false := by simp; omega
    have c_a_0_w3 := x_a.cell (i := 0) rfl
    have c_a_1_w3 := x_a.cell (i := 1) rfl
    have c_a_2_w3 := x_a.cell (i := 2) rfl
    have c_a_3_w3 := x_a.cell (i := 3) rfl
    have c_a_4_w3 := x_a.cell (i := 4) rfl
    have c_a_5_w3 := x_a.cell (i := 5) rfl
    have c_a_6_w3 := x_a.cell (i := 6) rfl
    have c_a_7_w3 := x_a.cell (i := 7) rfl
    have c_a_8_w3 := x_a.cell (i := 8) rfl
    go_wp2_with fail
    refine (szAccS_c (rAccs.from_ B_w3) (by omega) (by omega)).mono ?_
    rintro e w4 ⟨rfl, h_w4⟩
    clear c_a_0_w3 c_a_1_w3 c_a_2_w3 c_a_3_w3 c_a_4_w3 c_a_5_w3 c_a_6_w3 c_a_7_w3 c_a_8_w3
    replace x_a := x_a.from_ h_w4
    have B_w4 := B_w3.trans (h_w4.mono B_w3.size)
    have s_w4 := h_w4.size
    rw [show szV (left - (sizeAcctS d.Accts : Int) - (sizeOutS d.Outs : Int) - (d.Ins.length : Int)) (d.Accs.length : Int) = -1 from if_neg (by omega)]
    go_wp2
    go_ret
    exact ⟨ret_int (by omega), B_w4⟩
  have ez : szV left (d.bulk : Int) = left - (d.bulk : Int) := by unfold szV; rw [if_pos (by omega)]
  rw [ez]
  go_enter Try.func9, Try.ntmps9
  go_wp2_with fail
  refine (szAcctS_c (rAccts.from_ B0) (by omega) (by omega)).mono ?_
  rintro e w1 ⟨rfl, h_w1⟩
  clear c_a_0_wa c_a_1_wa c_a_2_wa c_a_3_wa c_a_4_wa c_a_5_wa c_a_6_wa c_a_7_wa c_a_8_wa
  replace x_a := x_a.from_ h_w1
  have B_w1 := B0.trans (h_w1.mono B0.size)
  have s_w1 := h_w1.size
  rw [show szV (left) (sizeAcctS d.Accts : Int) = left - (sizeAcctS d.Accts : Int) from if_pos (by omega)]
  have gd0 : decide (left - (sizeAcctS d.Accts : Int) < 0) = false := by simp; omega
  have c_a_0_w1 := x_a.cell (i := 0) rfl
  have c_a_1_w1 := x_a.cell (i := 1) rfl
  have c_a_2_w1 := x_a.cell (i := 2) rfl
  have c_a_3_w1 := x_a.cell (i := 3) rfl
  have c_a_4_w1 := x_a.cell (i := 4) rfl
  have c_a_5_w1 := x_a.cell (i := 5) rfl
  have c_a_6_w1 := x_a.cell (i := 6) rfl
  have c_a_7_w1 := x_a.cell (i := 7) rfl
  have c_a_8_w1 := x_a.cell (i := 8) rfl
  go_wp2_with fail
  refine (szOutS_c (rOuts.from_ B_w1) (by omega) (by omega)).mono ?_
  rintro e w2 ⟨rfl, h_w2⟩
  clear c_a_0_w1 c_a_1_w1 c_a_2_w1 c_a_3_w1 c_a_4_w1 c_a_5_w1 c_a_6_w1 c_a_7_w1 c_a_8_w1
  replace x_a := x_a.from_ h_w2
  have B_w2 := B_w1.trans (h_w2.mono B_w1.size)
  have s_w2 := h_w2.size
  rw [show szV (left - (sizeAcctS d.Accts : Int)) (sizeOutS d.Outs : Int) = left - (sizeAcctS d.Accts : Int) - (sizeOutS d.Outs : Int) from if_pos (by omega)]
  have gd1 : decide (left - (sizeAcctS d.Accts : Int) - (sizeOutS d.Outs : Int) < 0) = false := by simp; omega
  have c_a_0_w2 := x_a.cell (i := 0) rfl
  have c_a_1_w2 := x_a.cell (i := 1) rfl
  have c_a_2_w2 := x_a.cell (i := 2) rfl
  have c_a_3_w2 := x_a.cell (i := 3) rfl
  have c_a_4_w2 := x_a.cell (i := 4) rfl
  have c_a_5_w2 := x_a.cell (i := 5) rfl
  have c_a_6_w2 := x_a.cell (i := 6) rfl
  have c_a_7_w2 := x_a.cell (i := 7) rfl
  have c_a_8_w2 := x_a.cell (i := 8) rfl
  go_wp2_with fail
  refine (szIntS_b (rIns.from_ B_w2) (by omega) (by omega)).mono ?_
  rintro e w3 ⟨rfl, h_w3⟩
  clear c_a_0_w2 c_a_1_w2 c_a_2_w2 c_a_3_w2 c_a_4_w2 c_a_5_w2 c_a_6_w2 c_a_7_w2 c_a_8_w2
  replace x_a := x_a.from_ h_w3
  have B_w3 := B_w2.trans (h_w3.mono B_w2.size)
  have s_w3 := h_w3.size
  rw [show szV (left - (sizeAcctS d.Accts : Int) - (sizeOutS d.Outs : Int)) (d.Ins.length : Int) = left - (sizeAcctS d.Accts : Int) - (sizeOutS d.Outs : Int) - (d.Ins.length : Int) from if_pos (by omega)]
  have gd2 : decide (left - (sizeAcctS d.Accts : Int) - (sizeOutS d.Outs : Int) - (d.Ins.length : Int) < 0) = false := by simp; omega
  have c_a_0_w3 := x_a.cell (i := 0) rfl
  have c_a_1_w3 := x_a.cell (i := 1) rfl
  have c_a_2_w3 := x_a.cell (i := 2) rfl
  have c_a_3_w3 := x_a.cell (i := 3) rfl
  have c_a_4_w3 := x_a.cell (i := 4) rfl
  have c_a_5_w3 := x_a.cell (i := 5) rfl
  have c_a_6_w3 := x_a.cell (i := 6) rfl
  have c_a_7_w3 := x_a.cell (i := 7) rfl
  have c_a_8_w3 := x_a.cell (i := 8) rfl
  go_wp2_with fail
  refine (szAccS_c (rAccs.from_ B_w3) (by omega) (by omega)).mono ?_
  rintro e w4 ⟨rfl, h_w4⟩
  clear c_a_0_w3 c_a_1_w3 c_a_2_w3 c_a_3_w3 c_a_4_w3 c_a_5_w3 c_a_6_w3 c_a_7_w3 c_a_8_w3
  replace x_a := x_a.from_ h_w4
  have B_w4 := B_w3.trans (h_w4.mono B_w3.size)
  have s_w4 := h_w4.size
  rw [show szV (left - (sizeAcctS d.Accts : Int) - (sizeOutS d.Outs : Int) - (d.Ins.length : Int)) (d.Accs.length : Int) = left - (sizeAcctS d.Accts : Int) - (sizeOutS d.Outs : Int) - (d.Ins.length : Int) - (d.Accs.length : Int) from if_pos (by omega)]
  have gd3 : decide (left - (sizeAcctS d.Accts : Int) - (sizeOutS d.Outs : Int) - (d.Ins.length : Int) - (d.Accs.length : Int) < 0) = false := by simp; omega
  have c_a_0_w4 := x_a.cell (i := 0) rfl
  have c_a_1_w4 := x_a.cell (i := 1) rfl
  have c_a_2_w4 := x_a.cell (i := 2) rfl
  have c_a_3_w4 := x_a.cell (i := 3) rfl
  have c_a_4_w4 := x_a.cell (i := 4) rfl
  have c_a_5_w4 := x_a.cell (i := 5) rfl
  have c_a_6_w4 := x_a.cell (i := 6) rfl
  have c_a_7_w4 := x_a.cell (i := 7) rfl
  have c_a_8_w4 := x_a.cell (i := 8) rfl
  go_wp2
  go_ret
  exact ⟨ret_int (by omega), B_w4⟩

end Go.Proofs.Ytdoipabfmekdlaa
