/- Contracts of spec.l01Split, strings.Clone and impl.splitAt. -/
import Derived.Test.YtfdhilpmblbkfaaShelf
import Derived.Test.YtfdhilpmblbkfaaStrs
import Derived.Test.YtfdhilpmblbkfaaSplitMath
import Derived.Lib.OthersKept
namespace Go.Proofs.Ytfdhilpmblbkfaa
open Go.RowKit
set_option linter.unusedVariables false

theorem Try.info_str : (Try.prog.info? 9).map (fun i => (i.zero, i.size, i.bytes)) = some (some (.string ⟨#[]⟩), 1, 16) := by kernel_rfl

/-- a call that answers a new row of strings alone -/
def NewT (w : World) (xs : List ByteArray) (e : Ending) (w' : World) : Prop :=
  ∃ v, e = .returned v ∧ OSF Value.string 9 w' w.heap.size w'.heap.size v xs ∧ Below w.heap.size w w'

theorem one_str (x : ByteArray) : (Value.string x).oneCell' = true := rfl

set_option maxHeartbeats 1000000 in
theorem sSplit_any (s : ByteArray) (b : Nat) (w : World) (hs : s.size ≤ 1073741824) (hb : b < 256) :
    Calls Try.prog 45 #[.string s, .int .u8 b] w (NewT w (splitL s b)) := by
  obtain ⟨i0, hi, hz0, hz1, hz2⟩ := info_parts Try.info_str
  go_enter Try.func45, Try.ntmps45
  go_wp2
  go_loopw [5, 6, 7] (fun so sf si wr => ∃ (k fr : Nat) (l : List ByteArray), si = .int .i64 k ∧ sf = .int .i64 fr ∧ OwnF Value.string wr w.heap.size 9 so l ∧ Below w.heap.size w wr ∧
      l.length ≤ k ∧ ((k ≤ s.size ∧ fr ≤ k ∧ Hid (splitSt s b k = (l, fr))) ∨ (k = s.size + 1 ∧ Hid (l = splitL s b)))) (fun _ _ si _ => s.size + 1 - (intOf si).toNat)
  case atStart => exact ⟨0, 0, [], rfl, rfl, ownF_none (Nat.le_refl _), (Below.refl _ _).alloc (Nat.le_refl _) _, by simp, .inl ⟨by omega, by omega, rfl⟩⟩
  case round =>
    obtain ⟨k, fr, l, rfl, rfl, hown, hbr, hll, hst⟩ := hrel
    have hsz := hbr.size
    rcases hst with ⟨hk, hfr, HS⟩ | ⟨hk, HL⟩
    · by_cases hend : k = s.size
      · subst hend
        have HN : Hid (l ++ [s.extract fr s.size] = splitL s b) := by
          show _ = _
          unfold splitL; rw [HS.out]
        go_wp2_with (at_builtin; refine wpl_appF Value.string ByteArray.empty _ one_str rfl (.tmp 26) (.tmp 31) 40 rfl w.heap.size 9 i0 _ 16 Try.underlying40 hi hz0 hz1 hz2 rfl _ l rfl (hown.alloc_ _) _ _ _ 1 [s.extract fr s.size] rfl rfl (rdF_one _ _ _ _ _) ?d1 (by omega) ?d2 ?_)
        case d1 => omega
        case d2 => simp; omega
        intro v2 w2 ho2 hg2 hat2
        have hb2 : Below w.heap.size w w2 := grown_belowF (hbr.alloc hsz _) (hown.alloc_ _) hg2 (Nat.le_refl _) (by simp; omega)
        clear hg2 hat2
        go_wp2
        go_roundw
        case rel => exact ⟨s.size + 1, s.size + 1, _, by go_num, by go_num, ho2, hb2, by simp; omega, .inr ⟨rfl, HN⟩⟩
        case measure => first | omega | (simp [intOf]; done) | (simp [intOf]; omega)
      · have hlt : k < s.size := by omega
        have hne : ((k : Int) == (s.size : Int)) = false := by simp; omega
        have hg := get_bang s k hlt
        obtain ⟨x, hx⟩ : ∃ x, (s[k]'hlt).toNat = x := ⟨_, rfl⟩
        rw [← hg] at hx
        have HX := Lib.hid hx
        rw [hg] at hx
        clear hg
        by_cases hxb : x = b
        · have HN : Hid (splitSt s b (k + 1) = (l ++ [s.extract fr k], k + 1)) := by
            show _ = _
            rw [splitSt_hit (HX.out.trans hxb), HS.out]
          subst hxb
          go_wp2_with (at_builtin; refine wpl_appF Value.string ByteArray.empty _ one_str rfl (.tmp 26) (.tmp 31) 40 rfl w.heap.size 9 i0 _ 16 Try.underlying40 hi hz0 hz1 hz2 rfl _ l rfl (hown.alloc_ _) _ _ _ 1 [s.extract fr k] rfl rfl (rdF_one _ _ _ _ _) ?f1 (by omega) ?f2 ?_)
          case f1 => omega
          case f2 => simp; omega
          intro v2 w2 ho2 hg2 hat2
          have hb2 : Below w.heap.size w w2 := grown_belowF (hbr.alloc hsz _) (hown.alloc_ _) hg2 (Nat.le_refl _) (by simp; omega)
          clear hg2 hat2
          go_wp2
          go_roundw
          case rel => exact ⟨k + 1, k + 1, _, by go_num, by go_num, ho2, hb2, by simp; omega, .inl ⟨by omega, by omega, HN⟩⟩
          case measure => first | omega | (simp [intOf]; done) | (simp [intOf]; omega)
        · have HN : Hid (splitSt s b (k + 1) = (l, fr)) := by
            show _ = _
            rw [splitSt_miss (by rw [HX.out]; exact hxb), HS.out]
          have hxb' : ((x : Int) == (b : Int)) = false := by simp; omega
          go_wp2
          go_roundw
          case rel => exact ⟨k + 1, fr, l, by go_num, rfl, hown, hbr, by omega, .inl ⟨by omega, by omega, HN⟩⟩
          case measure => first | omega | (simp [intOf]; done) | (simp [intOf]; omega)
    · subst hk
      have i1 : decide (((s.size + 1 : Nat) : Int) ≤ (s.size : Int)) = false := by simp; omega
      have i2 : decide (s.size + 1 ≤ s.size) = false := by simp
      go_wp2
      go_ret
      rw [← HL.out]
      exact ⟨_, rfl, OSF.mk_ hown, hbr⟩

set_option maxHeartbeats 400000 in
theorem clone_any (s : ByteArray) (w : World) (hs : s.size ≤ 1073741824) :
    Calls Try.prog 53 #[.string s] w fun e w' => e = .returned (.string s) ∧ Below w.heap.size w w' := by
  go_enter Try.func53, Try.ntmps53
  go_wp2_with fail
  refine (Try.stringslite_Clone s w (by omega)).mono ?_
  rintro e w1 ⟨rfl, hb⟩
  go_wp2
  go_ret
  exact ⟨rfl, hb⟩

section
variable {w w' : World} {base : Nat} {e : TypeId} {v : Value} {xs : List ByteArray} {g p : Nat} {s : ByteArray}
theorem own_ne_iter (h : OwnF Value.string w base e v xs) (hi : w.heap[g]? = some (.stringIter s p)) : ∀ j, v.ownBlock = some j → j ≠ g := by
  intro j hj e
  subst e
  rcases h.2 with ⟨rfl, _⟩ | ⟨g', cap, cur, rfl, _, hh, _⟩
  · simp [Value.ownBlock] at hj
  · simp [Value.ownBlock] at hj
    subst hj
    rw [hi] at hh
    cases hh
theorem own_iterAt (h : OwnF Value.string w base e v xs) (hi : w.heap[g]? = some (.stringIter s p)) (q : Nat) : OwnF Value.string (w.iterAt g s q) base e v xs := by
  have hne := own_ne_iter h hi
  refine ⟨h.1, ?_⟩
  rcases h.2 with h2 | ⟨g', cap, cur, hv, hg, hh, r⟩
  · exact .inl h2
  · exact .inr ⟨g', cap, cur, hv, hg, by rw [Lib.iterAt_other _ _ _ _ _ (hne g' (by rw [hv]; rfl))]; exact hh, r⟩
end

theorem iter_start (w : World) (s : ByteArray) (t : TypeId) : ((w.alloc (.cells #[] t)).iter s 0).heap[w.heap.size + 1]? = some (.stringIter s 0) := by
  have h := World.iter_heap (w.alloc (.cells #[] t)) s 0
  have e : (w.alloc (.cells #[] t)).heap.size = w.heap.size + 1 := by simp
  rw [e] at h
  exact h

set_option maxHeartbeats 2000000 in
theorem iSplit_any (s : ByteArray) (b : Nat) (w : World) (hs : s.size ≤ 1073741824) (hb : b < 128) :
    Calls Try.prog 46 #[.string s, .int .i32 b] w (NewT w (splitL s b)) := by
  obtain ⟨i0, hi, hz0, hz1, hz2⟩ := info_parts Try.info_str
  go_enter Try.func46, Try.ntmps46
  go_wp2
  go_loopw [5, 6] (fun so sf wr => ∃ (p fr : Nat) (l : List ByteArray), sf = .int .i64 fr ∧ OwnF Value.string wr w.heap.size 9 so l ∧ Below w.heap.size w wr ∧
      wr.heap[w.heap.size + 1]? = some (.stringIter s p) ∧ l.length ≤ p ∧ p ≤ s.size ∧ fr ≤ p ∧ Hid (splitSt s b p = (l, fr))) (fun _ _ wr => s.size - wr.iterPos (w.heap.size + 1))
  case atStart => exact ⟨0, 0, [], rfl, (ownF_none (Nat.le_refl _)).alloc_ _, ((Below.refl _ _).alloc (Nat.le_refl _) _).alloc (by simp) _, iter_start w s 9, by simp, by omega, by omega, rfl⟩
  case round =>
    obtain ⟨p, fr, l, rfl, hown, hbr, hit, hll, hp, hfr, HS⟩ := hrel
    have hsz := hbr.size
    have hpos : wr.iterPos (w.heap.size + 1) = p := by unfold World.iterPos; rw [hit]
    have HP := Lib.hid hpos
    clear hpos
    by_cases hlt : p < s.size
    · have hg := get_bang s p hlt
      have hnx := fun ty => Lib.run_next_any_at (P := Try.prog) wr (w.heap.size + 1) s p ty hit hlt
      obtain ⟨r, wd, hd⟩ : ∃ r wd, Utf8.decode s p = (r, wd) := ⟨_, _, rfl⟩
      rw [hd] at hnx
      have hgl : w.heap.size + 1 < wr.heap.size := (Array.getElem?_eq_some_iff.1 hit).1
      have hstep : p + wd ≤ s.size ∧ 1 ≤ wd ∧ r ≤ 2147483647 ∧ ((r = b ∧ wd = 1 ∧ splitSt s b (p + wd) = (l ++ [s.extract fr p], p + 1)) ∨ (r ≠ b ∧ splitSt s b (p + wd) = (l, fr))) := by
        have hle := decode_le s p
        rw [hd] at hle
        by_cases hasc : (s.get! p).toNat < 128
        · have h1 := decode_ascii s p hlt (by rw [← hg]; exact hasc)
          rw [hd, ← hg] at h1
          simp only [Prod.mk.injEq] at h1
          obtain ⟨h1, rfl⟩ := h1
          refine ⟨by omega, by omega, by omega, ?_⟩
          by_cases hrb : r = b
          · exact .inl ⟨hrb, rfl, by rw [splitSt_hit (by omega), HS.out]⟩
          · exact .inr ⟨hrb, by rw [splitSt_miss (by omega), HS.out]⟩
        · have h1 := decode_span s p hlt hasc
          have h2 := decode_high s p hlt (by rw [← hg]; omega)
          rw [hd] at h1 h2
          refine ⟨h1.1, h1.2.1, by omega, .inr ⟨by omega, ?_⟩⟩
          rw [splitSt_skip p wd (fun j hj => by have := h1.2.2 j hj; omega), HS.out]
      obtain ⟨hs1, hs2, hs3, hs4⟩ := hstep
      obtain ⟨wn, hwn⟩ : ∃ wn, wr.iterAt (w.heap.size + 1) s (p + wd) = wn := ⟨_, rfl⟩
      have hownN := own_iterAt hown hit (p + wd)
      have hbrN := Lib.below_iterAt hbr (k := w.heap.size + 1) (by omega) s (p + wd)
      have hitN := Lib.iterAt_heap wr (w.heap.size + 1) s p (p + wd) hit
      have hszN := Lib.iterAt_size wr (w.heap.size + 1) s (p + wd)
      dsimp only at hnx
      rw [hwn] at hownN hbrN hitN hszN hnx
      clear hwn hd hg hown hbr hit
      have hgl2 : w.heap.size + 1 < wn.heap.size := by omega
      clear hszN
      rcases hs4 with ⟨hrb, hwd, hsp⟩ | ⟨hrb, hsp⟩
      · have HN := Lib.hid hsp
        clear hsp
        subst hrb
        subst hwd
        go_wp2_with fail
        refine (clone_any (s.extract fr p) wn (by rw [ByteArray.size_extract]; omega)).mono ?_
        rintro e w3 ⟨rfl, hb3⟩
        have ho3 := hownN.below hb3 (Nat.le_refl _)
        have hb3' := hbrN.trans (hb3.mono hbrN.size)
        have hit3 : w3.heap[w.heap.size + 1]? = some (.stringIter s (p + 1)) := (hb3.block _ hgl2).trans hitN
        have hsz3 := hb3'.size
        have hgl3 : w.heap.size + 1 < w3.heap.size := by have := hb3.size; omega
        have hne := own_ne_iter ho3 hit3
        clear hownN hitN hnx
        go_wp2_with (at_builtin; refine wpl_appF Value.string ByteArray.empty _ one_str rfl (.tmp 19) (.tmp 25) 40 rfl w.heap.size 9 i0 _ 16 Try.underlying40 hi hz0 hz1 hz2 rfl _ l rfl (ho3.alloc_ _) _ _ _ 1 [s.extract fr p] rfl rfl (rdF_one _ _ _ _ _) ?f1 (by omega) ?f2 ?_)
        case f1 => omega
        case f2 => simp; omega
        intro v4 w4 ho4 hg4 hat4
        have hb4 : Below w.heap.size w w4 := grown_belowF (hb3'.alloc hsz3 _) (ho3.alloc_ _) hg4 (Nat.le_refl _) (by simp; omega)
        have hit4 : w4.heap[w.heap.size + 1]? = some (.stringIter s (p + 1)) := (hg4.block _ (by simp; omega) (fun e => hne _ e.symm rfl)).trans ((Below.heap_alloc w3 _ _ hgl3).trans hit3)
        have hpos4 : w4.iterPos (w.heap.size + 1) = p + 1 := by unfold World.iterPos; rw [hit4]
        have HP4 := Lib.hid hpos4
        have HI4 := Lib.hid hit4
        clear hg4 hat4 hpos4 hit4 hit3
        go_wp2
        go_roundw
        case rel => exact ⟨p + 1, p + 1, _, by go_num, ho4, hb4, HI4.out, by simp; omega, by omega, by omega, HN⟩
        case measure => rw [HP4.out, HP.out]; omega
      · have HN := Lib.hid hsp
        clear hsp
        have hrb' : ((r : Int) == (b : Int)) = false := by simp; omega
        have hposN : wn.iterPos (w.heap.size + 1) = p + wd := by unfold World.iterPos; rw [hitN]
        have HPN := Lib.hid hposN
        have HIN := Lib.hid hitN
        clear hposN hitN
        go_wp2
        go_roundw
        case rel => exact ⟨p + wd, fr, l, rfl, hownN, hbrN, HIN.out, by omega, by omega, by omega, HN⟩
        case measure => rw [HPN.out, HP.out]; omega
    · have hp2 : p = s.size := by omega
      subst hp2
      have hnx := fun ty => Lib.run_next_end_at (P := Try.prog) wr (w.heap.size + 1) s s.size ty hit hlt
      have HN : Hid (l ++ [s.extract fr s.size] = splitL s b) := by
        show _ = _
        unfold splitL; rw [HS.out]
      clear hit HP
      go_wp2_with fail
      refine (clone_any (s.extract fr s.size) wr (by rw [ByteArray.size_extract]; omega)).mono ?_
      rintro e w3 ⟨rfl, hb3⟩
      have ho3 := hown.below hb3 (Nat.le_refl _)
      have hb3' := hbr.trans (hb3.mono hbr.size)
      have hsz3 := hb3'.size
      clear hnx hown
      go_wp2_with (at_builtin; refine wpl_appF Value.string ByteArray.empty _ one_str rfl (.tmp 29) (.tmp 34) 40 rfl w.heap.size 9 i0 _ 16 Try.underlying40 hi hz0 hz1 hz2 rfl _ l rfl (ho3.alloc_ _) _ _ _ 1 [s.extract fr s.size] rfl rfl (rdF_one _ _ _ _ _) ?e1 (by omega) ?e2 ?_)
      case e1 => omega
      case e2 => simp; omega
      intro v4 w4 ho4 hg4 hat4
      have hb4 : Below w.heap.size w w4 := grown_belowF (hb3'.alloc hsz3 _) (ho3.alloc_ _) hg4 (Nat.le_refl _) (by simp; omega)
      rw [HN.out] at ho4
      clear hg4 hat4
      go_wp2
      go_ret
      exact ⟨v4, rfl, OSF.mk_ ho4, hb4⟩
end Go.Proofs.Ytfdhilpmblbkfaa
