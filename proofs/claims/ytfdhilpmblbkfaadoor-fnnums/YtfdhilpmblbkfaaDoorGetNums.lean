/- Contracts of impl.GetNums, spec.l01Get, spec.l01List and spec.GetNums. -/
import Derived.Test.YtfdhilpmblbkfaaDoorGetNum
import Derived.Test.YtfdhilpmblbkfaaDoorGetsMath
import Derived.Test.YtfdhilpmblbkfaaDoorLawInts
namespace Go.Proofs.YtfdhilpmblbkfaaDoor
open Go.RowKit
set_option linter.unusedVariables false

def numsL (r : Option (List Int × Int)) : List Int := match r with | some (l, _) => l | none => []
def numsP (r : Option (List Int × Int)) : Int := match r with | some (_, p) => p | none => 0

/-- a call that answers a new row of integers, a position and a bool -/
def NewNums (w : World) (l : List Int) (p : Int) (b : Bool) (e : Ending) (w' : World) : Prop :=
  ∃ v, e = .returned (.tuple #[v, .int .i64 p, .bool b]) ∧ OS .i64 3 w' w.heap.size w'.heap.size v l ∧ Below w.heap.size w w'

theorem newNums_none {w w' : World} (hb : Below w.heap.size w w') : NewNums w [] 0 false (.returned (.tuple #[.slice none 0 0, .int .i64 0, .bool false])) w' :=
  ⟨_, rfl, OS.mk_ (World.ownsRow_nil _ _ _ _), hb⟩

set_option maxHeartbeats 1000000 in
theorem iGetNums_any (A : Option Addr) (c : Nat) (zs : List Int) (a most : Int) (w : World) (hr : Rd .u8 w w.heap.size A zs) (hb : Bytes zs) (hm : zs.length ≤ 16777216) (hcap : zs.length ≤ c) (hcm : c ≤ maxLen) (ha1 : -9223372036854775808 ≤ a) (ha2 : a ≤ 9223372036854775807) (r : Option (List Int × Int)) (HR : Hid (getNums zs a most = r)) :
    Calls Tryd.prog 8 #[.slice A zs.length c, .int .i64 a, .int .i64 most] w (NewNums w (numsL r) (numsP r) r.isSome) := by
  obtain ⟨i0, hi, hz0, hz1, hz2⟩ := info_parts Tryd.info_i64
  have HR0 := HR.out
  unfold getNums at HR0
  rcases hg : getNum zs a with _ | ⟨n, k⟩
  · rw [hg] at HR0
    obtain rfl : none = r := HR0
    have HG := Lib.hid (getVal_none hg)
    clear hg
    go_enter Tryd.func8, Tryd.ntmps8
    go_wp2_with fail
    refine (iGetNum_any A c zs a w _ hr hb (by omega) hcap hcm ha1 ha2).mono ?_
    rintro e w' ⟨rfl, rfl⟩
    rw [HG.out]
    go_wp2
    go_ret3
    exact newNums_none (Below.refl _ _)
  · rw [hg] at HR0
    have HG := Lib.hid (getVal_some hg)
    have hs := getNum_some hg
    clear hg
    by_cases hmost : n > most
    · have hr0 : none = r := by simpa [hmost] using HR0
      subst hr0
      clear HR0
      go_enter Tryd.func8, Tryd.ntmps8
      go_wp2_with fail
      refine (iGetNum_any A c zs a w _ hr hb (by omega) hcap hcm ha1 ha2).mono ?_
      rintro e w' ⟨rfl, rfl⟩
      rw [HG.out]
      go_wp2
      go_ret3
      exact newNums_none (Below.refl _ _)
    · have hr0 : getMany zs n.toNat (a + k) = r := by simpa [hmost] using HR0
      have HM := Lib.hid hr0
      clear hr0 HR0
      obtain ⟨N, rfl⟩ : ∃ N : Nat, n = (N : Int) := ⟨n.toNat, by omega⟩
      rw [Int.toNat_natCast] at HM
      obtain ⟨p0, hp0⟩ : ∃ p0, a + (k : Int) = p0 := ⟨_, rfl⟩
      rw [hp0] at HG HM
      have h00 : 0 ≤ p0 ∧ p0 ≤ zs.length := by omega
      clear hp0
      obtain ⟨h01, h02⟩ := h00
      have hN : N ≤ 1125899906842624 := by omega
      clear hs
      go_enter Tryd.func8, Tryd.ntmps8
      go_wp2_with fail
      refine (iGetNum_any A c zs a w _ hr hb (by omega) hcap hcm ha1 ha2).mono ?_
      rintro e w' ⟨rfl, rfl⟩
      rw [HG.out]
      go_wp2
      go_loopw [10, 12, 32] (fun se sl si wr => ∃ (l : List Int) (p : Int), Gets zs N p0 l p ∧ se = .int .i64 p ∧ si = .int .i64 l.length ∧ Own .i64 wr w.heap.size 3 sl l ∧ Below w.heap.size w wr) (fun _ _ si _ => N - (intOf si).toNat)
      case atStart => exact ⟨[], p0, Gets.start h01 h02, rfl, rfl, own_none .i64 w w.heap.size 3 (Nat.le_refl _), (Below.refl _ _).alloc (Nat.le_refl _) _⟩
      case round =>
        obtain ⟨l, p, hG, rfl, rfl, hown, hbr⟩ := hrel
        have h1 := hG.lo
        have h2 := hG.hi
        have h3 := hG.few
        have h4 := hG.le
        have hsz := hbr.size
        by_cases hlt : l.length < N
        · have i1 : (l.length : Int) < (N : Int) := by omega
          rcases hg : getNum zs p with _ | ⟨x, k2⟩
          · have HG2 := Lib.hid (getVal_none hg)
            have HF := Lib.hid (hG.fails hlt hg)
            clear hg
            go_wp2_with fail
            refine (iGetNum_any A c zs p wr _ (hr.below hbr) hb (by omega) hcap hcm (by omega) (by omega)).mono ?_
            rintro e w' ⟨rfl, rfl⟩
            rw [HG2.out]
            go_wp2
            go_ret3
            rw [← HM.out, HF.out]
            exact newNums_none hbr
          · have HG2 := Lib.hid (getVal_some hg)
            have hs2 := getNum_some hg
            have HN := hG.next hlt hg
            clear hg
            go_wp2_with fail
            refine (iGetNum_any A c zs p wr _ (hr.below hbr) hb (by omega) hcap hcm (by omega) (by omega)).mono ?_
            rintro e w' ⟨rfl, rfl⟩
            rw [HG2.out]
            go_wp2_with (at_builtin; refine wpl_appI _ .i64 rfl (.tmp 43) (.tmp 45) 23 rfl w.heap.size 3 i0 8 Tryd.underlying23 hi hz0 hz1 hz2 _ l rfl (hown.alloc_ _) _ _ _ 1 [x] rfl rfl (rd_one _ _ _ _) ?d1 (by omega) ?d2 ?_)
            case d1 => omega
            case d2 => simp; omega
            intro v2 w2 ho2 hg2 hat2
            have hb2 : Below w.heap.size w w2 := grown_below (hbr.alloc hsz _) (hown.alloc_ _) hg2 (Nat.le_refl _) (by simp; omega)
            clear hg2 hat2
            go_wp2
            go_roundw
            case rel => exact ⟨l ++ [x], p + k2, HN, rfl, by simp, ho2, hb2⟩
            case measure => simp [intOf]; omega
        · have hl : l.length = N := by omega
          have HD := Lib.hid (hG.done hl)
          have i1 : decide ((l.length : Int) < (N : Int)) = false := by simp; omega
          have i2 : decide (l.length < N) = false := by simp; omega
          clear hl
          go_wp2
          go_ret3
          rw [← HM.out, HD.out]
          exact ⟨_, rfl, OS.mk_ hown, hbr⟩

theorem grown_alloc {w w' : World} {row : Option Nat} (h : w.grownBy w' row) (o : Obj) : w.grownBy (w'.alloc o) row :=
  ⟨h.os, h.tape, h.output, by have := h.size; simp; omega, fun k hk hne => (Below.heap_alloc w' o k (by have := h.size; omega)).trans (h.block k hk hne)⟩

theorem rd_grown {k : IntKind} {w w' : World} {B g : Nat} {A : Option Addr} {zs : List Int} (h : Rd k w B A zs) (hg : w.grownBy w' (some g)) (hB : B ≤ w.heap.size) (hBg : B ≤ g) : Rd k w' B A zs :=
  h.keep fun p hp => World.cell?_of_block (hg.block p.block (by omega) (fun e => by simp at e; omega))

theorem grown_two {a b c : World} {g : Nat} {row : Option Nat} (h : a.grownBy b (some g)) (k : b.grownBy c row) (hr : ∀ j, row = some j → a.heap.size ≤ j ∨ j = g) : a.grownBy c (some g) :=
  ⟨k.os.trans h.os, k.tape.trans h.tape, k.output.trans h.output, Nat.le_trans h.size k.size, fun i hi hne =>
    (k.block i (by have := h.size; omega) (fun e => by rcases hr i e.symm with h1 | h1
                                                       · omega
                                                       · exact hne (by rw [h1]))).trans (h.block i hi hne)⟩

theorem iGetNums_c {w : World} {v : Value} {zs : List Int} {a most : Int} (h : RS .u8 w v zs) (hb : Bytes zs) (hm : zs.length ≤ 16777216) (ha1 : -9223372036854775808 ≤ a) (ha2 : a ≤ 9223372036854775807) :
    Calls Tryd.prog 8 #[v, .int .i64 a, .int .i64 most] w (NewNums w (numsL (getNums zs a most)) (numsP (getNums zs a most)) (getNums zs a most).isSome) := by
  obtain ⟨A, c, rfl, h1, h2, hr⟩ := h
  exact iGetNums_any A c zs a most w hr hb hm h1 h2 ha1 ha2 _ rfl

theorem getMany_len {zs : List Int} {k : Nat} {p0 p : Int} {l : List Int} (h : getMany zs k p0 = some (l, p)) (h0 : 0 ≤ p0) : (l.length : Int) ≤ zs.length ∨ l = [] := by
  have : ∀ (k : Nat) (p0 p : Int) (l : List Int), getMany zs k p0 = some (l, p) → 0 ≤ p0 → l = [] ∨ p0 + (l.length : Int) ≤ zs.length := by
    intro k
    induction k with
    | zero =>
      intro p0 p l h _
      simp [getMany] at h
      exact .inl h.1
    | succ k ih =>
      intro p0 p l h h0
      unfold getMany at h
      rcases hg : getNum zs p0 with _ | ⟨n, c⟩
      · rw [hg] at h; cases h
      · rw [hg] at h
        have hs := getNum_some hg
        rcases hr : getMany zs k (p0 + c) with _ | ⟨l', p'⟩
        · simp [hr] at h
        · simp [hr] at h
          obtain ⟨rfl, rfl⟩ := h
          rcases ih _ _ _ hr (by omega) with rfl | h2
          · right; simp; omega
          · right; simp; omega
  rcases this k p0 p l h h0 with h1 | h1
  · exact .inr h1
  · exact .inl (by omega)

theorem nums_len (zs : List Int) (a most : Int) : (numsL (getNums zs a most)).length ≤ zs.length := by
  rcases h : getNums zs a most with _ | ⟨l, p⟩
  · simp [numsL]
  · unfold getNums at h
    rcases hg : getNum zs a with _ | ⟨n, c⟩
    · rw [hg] at h; cases h
    · rw [hg] at h
      have hs := getNum_some hg
      dsimp only at h
      split at h
      · cases h
      · rcases getMany_len h (by omega) with h2 | h2
        · simp [numsL]; omega
        · simp [numsL, h2]

end Go.Proofs.YtfdhilpmblbkfaaDoor
