/- Contracts of impl.GetNums, spec.l01Get, spec.l01List and spec.GetNums. -/
import Derived.Test.YtfdhilpmblbkfaaGetNum
import Derived.Test.YtfdhilpmblbkfaaGetsMath
import Derived.Test.YtfdhilpmblbkfaaLawInts
namespace Go.Proofs.Ytfdhilpmblbkfaa
open Go.RowKit
set_option linter.unusedVariables false

def numsL (r : Option (List Int × Int)) : List Int := match r with | some (l, _) => l | none => []
def numsP (r : Option (List Int × Int)) : Int := match r with | some (_, p) => p | none => 0

/-- a call that answers a new row of integers, a position and a bool -/
def NewNums (w : World) (l : List Int) (p : Int) (b : Bool) (e : Ending) (w' : World) : Prop :=
  ∃ v, e = .returned (.tuple #[v, .int .i64 p, .bool b]) ∧ OS .i64 3 w' w.heap.size w'.heap.size v l ∧ Below w.heap.size w w'

theorem newNums_none {w w' : World} (hb : Below w.heap.size w w') : NewNums w [] 0 false (.returned (.tuple #[.slice none 0 0, .int .i64 0, .bool false])) w' :=
  ⟨_, rfl, OS.mk_ (World.ownsRow_nil _ _ _ _), hb⟩

set_option maxHeartbeats 1000000 in
theorem iGetNums_any (A : Option Addr) (c : Nat) (zs : List Int) (a most : Int) (w : World) (hr : Rd .u8 w w.heap.size A zs) (hb : Bytes zs) (hm : zs.length ≤ 16777216) (hcap : zs.length ≤ c) (hcm : c ≤ maxLen) (ha1 : -9223372036854775808 ≤ a) (ha2 : a ≤ 9223372036854775807) (r : Option (List Int × Int)) (HR : Hid (getNums zs a most = r)) :
    Calls Try.prog 26 #[.slice A zs.length c, .int .i64 a, .int .i64 most] w (NewNums w (numsL r) (numsP r) r.isSome) := by
  obtain ⟨i0, hi, hz0, hz1, hz2⟩ := info_parts Try.info_i64
  have HR0 := HR.out
  unfold getNums at HR0
  rcases hg : getNum zs a with _ | ⟨n, k⟩
  · rw [hg] at HR0
    obtain rfl : none = r := HR0
    have HG := Lib.hid (getVal_none hg)
    clear hg
    go_enter Try.func26, Try.ntmps26
    go_wp2_with fail
    refine (iGetNum_any A c zs a w _ hr hb (by omega) hcap hcm ha1 ha2).mono ?_
    rintro e w' ⟨rfl, rfl⟩
    rw [HG.out]
    go_wp2
    go_ret3
    exact newNums_none (Below.refl _ _)
  · rw [hg] at HR0
    have HG := Lib.hid (getVal_some hg)
    have hs := getNum_some hg
    clear hg
    by_cases hmost : n > most
    · have hr0 : none = r := by simpa [hmost] using HR0
      subst hr0
      clear HR0
      go_enter Try.func26, Try.ntmps26
      go_wp2_with fail
      refine (iGetNum_any A c zs a w _ hr hb (by omega) hcap hcm ha1 ha2).mono ?_
      rintro e w' ⟨rfl, rfl⟩
      rw [HG.out]
      go_wp2
      go_ret3
      exact newNums_none (Below.refl _ _)
    · have hr0 : getMany zs n.toNat (a + k) = r := by simpa [hmost] using HR0
      have HM := Lib.hid hr0
      clear hr0 HR0
      obtain ⟨N, rfl⟩ : ∃ N : Nat, n = (N : Int) := ⟨n.toNat, by omega⟩
      rw [Int.toNat_natCast] at HM
      obtain ⟨p0, hp0⟩ : ∃ p0, a + (k : Int) = p0 := ⟨_, rfl⟩
      rw [hp0] at HG HM
      have h00 : 0 ≤ p0 ∧ p0 ≤ zs.length := by omega
      clear hp0
      obtain ⟨h01, h02⟩ := h00
      have hN : N ≤ 1125899906842624 := by omega
      clear hs
      go_enter Try.func26, Try.ntmps26
      go_wp2_with fail
      refine (iGetNum_any A c zs a w _ hr hb (by omega) hcap hcm ha1 ha2).mono ?_
      rintro e w' ⟨rfl, rfl⟩
      rw [HG.out]
      go_wp2
      go_loopw [10, 12, 32] (fun se sl si wr => ∃ (l : List Int) (p : Int), Gets zs N p0 l p ∧ se = .int .i64 p ∧ si = .int .i64 l.length ∧ Own .i64 wr w.heap.size 3 sl l ∧ Below w.heap.size w wr) (fun _ _ si _ => N - (intOf si).toNat)
      case atStart => exact ⟨[], p0, Gets.start h01 h02, rfl, rfl, own_none .i64 w w.heap.size 3 (Nat.le_refl _), (Below.refl _ _).alloc (Nat.le_refl _) _⟩
      case round =>
        obtain ⟨l, p, hG, rfl, rfl, hown, hbr⟩ := hrel
        have h1 := hG.lo
        have h2 := hG.hi
        have h3 := hG.few
        have h4 := hG.le
        have hsz := hbr.size
        by_cases hlt : l.length < N
        · have i1 : (l.length : Int) < (N : Int) := by omega
          rcases hg : getNum zs p with _ | ⟨x, k2⟩
          · have HG2 := Lib.hid (getVal_none hg)
            have HF := Lib.hid (hG.fails hlt hg)
            clear hg
            go_wp2_with fail
            refine (iGetNum_any A c zs p wr _ (hr.below hbr) hb (by omega) hcap hcm (by omega) (by omega)).mono ?_
            rintro e w' ⟨rfl, rfl⟩
            rw [HG2.out]
            go_wp2
            go_ret3
            rw [← HM.out, HF.out]
            exact newNums_none hbr
          · have HG2 := Lib.hid (getVal_some hg)
            have hs2 := getNum_some hg
            have HN := hG.next hlt hg
            clear hg
            go_wp2_with fail
            refine (iGetNum_any A c zs p wr _ (hr.below hbr) hb (by omega) hcap hcm (by omega) (by omega)).mono ?_
            rintro e w' ⟨rfl, rfl⟩
            rw [HG2.out]
            go_wp2_with (at_builtin; refine wpl_appI _ .i64 rfl (.tmp 43) (.tmp 45) 31 rfl w.heap.size 3 i0 8 Try.underlying31 hi hz0 hz1 hz2 _ l rfl (hown.alloc_ _) _ _ _ 1 [x] rfl rfl (rd_one _ _ _ _) ?d1 (by omega) ?d2 ?_)
            case d1 => omega
            case d2 => simp; omega
            intro v2 w2 ho2 hg2 hat2
            have hb2 : Below w.heap.size w w2 := grown_below (hbr.alloc hsz _) (hown.alloc_ _) hg2 (Nat.le_refl _) (by simp; omega)
            clear hg2 hat2
            go_wp2
            go_roundw
            case rel => exact ⟨l ++ [x], p + k2, HN, rfl, by simp, ho2, hb2⟩
            case measure => simp [intOf]; omega
        · have hl : l.length = N := by omega
          have HD := Lib.hid (hG.done hl)
          have i1 : decide ((l.length : Int) < (N : Int)) = false := by simp; omega
          have i2 : decide (l.length < N) = false := by simp; omega
          clear hl
          go_wp2
          go_ret3
          rw [← HM.out, HD.out]
          exact ⟨_, rfl, OS.mk_ hown, hbr⟩

/-- the reader's three fields, in their block -/
def Rdr (w : World) (g : Nat) (v : Value) (p : Int) (bad : Bool) : Prop :=
  w.heap[g]? = some (.cells #[v, .int .i64 p, .bool bad] 52 (0, 0))

section
variable {w w' : World} {g : Nat} {v : Value} {p : Int} {bad : Bool}
theorem Rdr.cells (h : Rdr w g v p bad) : w.cell? ⟨g, 0, none⟩ = some v ∧ w.cell? ⟨g, 1, none⟩ = some (.int .i64 p) ∧ w.cell? ⟨g, 2, none⟩ = some (.bool bad) ∧ w.frozen? ⟨g, 1, none⟩ = false ∧ w.frozen? ⟨g, 2, none⟩ = false :=
  ⟨by rw [cell_of_row w g 0 _ _ _ h]; rfl, by rw [cell_of_row w g 1 _ _ _ h]; rfl, by rw [cell_of_row w g 2 _ _ _ h]; rfl, frozen_of_row w g 1 _ _ h, frozen_of_row w g 2 _ _ h⟩
theorem Rdr.drewN (h : Rdr w g v p bad) (n : Nat) : Rdr (w.drewN n) g v p bad := h
theorem Rdr.setBad (h : Rdr w g v p bad) (b : Bool) : Rdr (w.setCell ⟨g, 2, none⟩ (.bool b)) g v p b := heap_setCell_same w g 2 _ _ _ h
theorem Rdr.setAt (h : Rdr w g v p bad) (q : Int) : Rdr (w.setCell ⟨g, 1, none⟩ (.int .i64 q)) g v q bad := heap_setCell_same w g 1 _ _ _ h
theorem Rdr.lt (h : Rdr w g v p bad) : g < w.heap.size := by
  rcases Nat.lt_or_ge g w.heap.size with hlt | hge
  · exact hlt
  · unfold Rdr at h; rw [Array.getElem?_eq_none hge] at h; cases h
theorem Rdr.kept {row : Option Nat} (h : Rdr w g v p bad) (hg : w.grownBy w' row) (hne : some g ≠ row) : Rdr w' g v p bad := (hg.block g h.lt hne).trans h
theorem Rdr.alloc (h : Rdr w g v p bad) (o : Obj) : Rdr (w.alloc o) g v p bad := (Below.heap_alloc w o g h.lt).trans h
end

/-- what a reading of one number leaves: only the reader's block has turned -/
def Read1 (w : World) (g : Nat) (v : Value) (x q : Int) (bad : Bool) (e : Ending) (w' : World) : Prop :=
  e = .returned (.int .i64 x) ∧ Rdr w' g v q bad ∧ w.grownBy w' (some g)

set_option maxHeartbeats 400000 in
theorem sGet_bad (g : Nat) (v : Value) (p : Int) (w : World) (h : Rdr w g v p true) :
    Calls Try.prog 52 #[.pointer (some ⟨g, 0, none⟩)] w (Read1 w g v 0 p true) := by
  obtain ⟨c0, c1, c2, f1, f2⟩ := h.cells
  go_enter Try.func52, Try.ntmps52
  go_wp2
  go_ret
  exact ⟨rfl, h, World.grownBy.refl _ _⟩

set_option maxHeartbeats 1000000 in
theorem sGet_ok (g : Nat) (A : Option Addr) (c : Nat) (zs : List Int) (p x q : Int) (b : Bool) (w : World) (h : Rdr w g (.slice A zs.length c) p false) (hr : Rd .u8 w w.heap.size A zs) (hb : Bytes zs) (hm : zs.length ≤ 16777216)
    (hp1 : -9223372036854775808 ≤ p) (hp2 : p ≤ 9223372036854775807) (HV : Hid (getVal zs p = .tuple #[.int .i64 x, .int .i64 q, .bool b])) :
    Calls Try.prog 52 #[.pointer (some ⟨g, 0, none⟩)] w (Read1 w g (.slice A zs.length c) x q (!b)) := by
  obtain ⟨c0, c1, c2, f1, f2⟩ := h.cells
  have K : ∀ n, Calls Try.prog 18 #[.slice A zs.length c, .int .i64 p] (w.drewN n) fun e w' => e = .returned (.tuple #[.int .i64 x, .int .i64 q, .bool b]) ∧ w' = w.drewN n := fun n => by
    rw [← HV.out]
    exact (sGetNum_any A c zs p (w.drewN n) _ (hr.drewN n) hb (by omega) hp1 hp2).mono fun e w' ⟨he, hw⟩ => ⟨he, hw.symm⟩
  go_enter Try.func52, Try.ntmps52
  go_wp2_with fail
  go_quiet ((go_at_call 18; exact Calls.quiet_of_same (K _)))
  have h1 := (h.drewN nq).setBad (!b)
  obtain ⟨d0, d1, d2, g1, g2⟩ := h1.cells
  have h2 := h1.setAt q
  have hgr : w.grownBy (((w.drewN nq).setCell ⟨g, 2, none⟩ (.bool (!b))).setCell ⟨g, 1, none⟩ (.int .i64 q)) (some g) :=
    grownBy_set (grownBy_set (show w.grownBy (w.drewN nq) (some g) from ⟨rfl, rfl, rfl, Nat.le_refl _, fun _ _ _ => rfl⟩) 2 _) 1 _
  clear h1 K
  go_wp2
  go_ret
  exact ⟨rfl, h2, hgr⟩

/-- what l01List leaves -/
def Listed (w : World) (g : Nat) (v : Value) (r : Option (List Int × Int)) (e : Ending) (w' : World) : Prop :=
  ∃ v2, e = .returned v2 ∧ w.grownBy w' (some g) ∧ match r with
    | none => ∃ q, Rdr w' g v q true
    | some (l, p) => Rdr w' g v p false ∧ Own .i64 w' w.heap.size 3 v2 l

/-- the loop's state: reading goes on, or has failed -/
def Listing (w : World) (g : Nat) (v : Value) (zs : List Int) (N : Nat) (p0 : Int) (i : Nat) (sl : Value) (wr : World) : Prop :=
  w.grownBy wr (some g) ∧ ((∃ (l : List Int) (p : Int), l.length = i ∧ Gets zs N p0 l p ∧ Rdr wr g v p false ∧ Own .i64 wr w.heap.size 3 sl l) ∨ (getMany zs N p0 = none ∧ ∃ q, Rdr wr g v q true))

theorem grown_alloc {w w' : World} {row : Option Nat} (h : w.grownBy w' row) (o : Obj) : w.grownBy (w'.alloc o) row :=
  ⟨h.os, h.tape, h.output, by have := h.size; simp; omega, fun k hk hne => (Below.heap_alloc w' o k (by have := h.size; omega)).trans (h.block k hk hne)⟩

theorem rd_grown {k : IntKind} {w w' : World} {B g : Nat} {A : Option Addr} {zs : List Int} (h : Rd k w B A zs) (hg : w.grownBy w' (some g)) (hB : B ≤ w.heap.size) (hBg : B ≤ g) : Rd k w' B A zs :=
  h.keep fun p hp => World.cell?_of_block (hg.block p.block (by omega) (fun e => by simp at e; omega))

theorem grown_two {a b c : World} {g : Nat} {row : Option Nat} (h : a.grownBy b (some g)) (k : b.grownBy c row) (hr : ∀ j, row = some j → a.heap.size ≤ j ∨ j = g) : a.grownBy c (some g) :=
  ⟨k.os.trans h.os, k.tape.trans h.tape, k.output.trans h.output, Nat.le_trans h.size k.size, fun i hi hne =>
    (k.block i (by have := h.size; omega) (fun e => by rcases hr i e.symm with h1 | h1
                                                       · omega
                                                       · exact hne (by rw [h1]))).trans (h.block i hi hne)⟩

set_option maxHeartbeats 2000000 in
theorem sList_any (g : Nat) (A : Option Addr) (c : Nat) (zs : List Int) (a most : Int) (w : World) (h : Rdr w g (.slice A zs.length c) a false) (hr : Rd .u8 w g A zs) (hb : Bytes zs) (hm : zs.length ≤ 16777216)
    (ha1 : -9223372036854775808 ≤ a) (ha2 : a ≤ 9223372036854775807) (r : Option (List Int × Int)) (HR : Hid (getNums zs a most = r)) :
    Calls Try.prog 44 #[.pointer (some ⟨g, 0, none⟩), .int .i64 most] w (Listed w g (.slice A zs.length c) r) := by
  obtain ⟨i0, hi, hz0, hz1, hz2⟩ := info_parts Try.info_i64
  have hlt := h.lt
  have HR0 := HR.out
  unfold getNums at HR0
  rcases hg : getNum zs a with _ | ⟨n, k⟩
  · rw [hg] at HR0
    obtain rfl : none = r := HR0
    have HG := Lib.hid (getVal_none hg)
    clear hg
    by_cases hmost : 0 > most
    · go_enter Try.func44, Try.ntmps44
      go_wp2_with fail
      refine (sGet_ok g A c zs a 0 0 false w h (hr.more (by omega)) hb hm ha1 ha2 HG).mono ?_
      rintro e w1 ⟨rfl, h1, hg1⟩
      have h1' := (h1.alloc (.cells #[] 3))
      obtain ⟨d0, d1, d2, f1, f2⟩ := h1'.cells
      have h2 := h1'.setBad true
      obtain ⟨b0, b1, b2, k1, k2⟩ := h2.cells
      go_wp2
      refine wp_loop_rounds 1 ?_
      rw [rounds_succ]
      go_wp2
      go_ret
      exact ⟨_, rfl, grownBy_set (grown_alloc hg1 _) 2 _, _, h2⟩
    · go_enter Try.func44, Try.ntmps44
      go_wp2_with fail
      refine (sGet_ok g A c zs a 0 0 false w h (hr.more (by omega)) hb hm ha1 ha2 HG).mono ?_
      rintro e w1 ⟨rfl, h1, hg1⟩
      go_wp2
      refine wp_loop_rounds 1 ?_
      rw [rounds_succ]
      go_wp2
      go_ret
      exact ⟨_, rfl, grown_alloc hg1 _, _, h1.alloc _⟩
  · rw [hg] at HR0
    have HG := Lib.hid (getVal_some hg)
    have hs := getNum_some hg
    clear hg
    obtain ⟨N, rfl⟩ : ∃ N : Nat, n = (N : Int) := ⟨n.toNat, by omega⟩
    obtain ⟨p0, hp0⟩ : ∃ p0, a + (k : Int) = p0 := ⟨_, rfl⟩
    dsimp only at HR0
    rw [hp0] at HG HR0
    have h00 : 0 ≤ p0 ∧ p0 ≤ zs.length := by omega
    clear hp0
    obtain ⟨h01, h02⟩ := h00
    have hN : N ≤ 1125899906842624 := by omega
    clear hs
    by_cases hmost : (N : Int) > most
    · have hr0 : none = r := by simpa [hmost] using HR0
      subst hr0
      clear HR0
      by_cases hN0 : N = 0
      · subst hN0
        go_enter Try.func44, Try.ntmps44
        go_wp2_with fail
        refine (sGet_ok g A c zs a _ p0 true w h (hr.more (by omega)) hb hm ha1 ha2 HG).mono ?_
        rintro e w1 ⟨rfl, h1, hg1⟩
        have h1' := (h1.alloc (.cells #[] 3))
        obtain ⟨d0, d1, d2, f1, f2⟩ := h1'.cells
        have h2 := h1'.setBad true
        obtain ⟨b0, b1, b2, k1, k2⟩ := h2.cells
        go_wp2
        refine wp_loop_rounds 1 ?_
        rw [rounds_succ]
        go_wp2
        go_ret
        exact ⟨_, rfl, grownBy_set (grown_alloc hg1 _) 2 _, _, h2⟩
      · have hN1 : (0 : Int) < (N : Int) := by omega
        go_enter Try.func44, Try.ntmps44
        go_wp2_with fail
        refine (sGet_ok g A c zs a _ p0 true w h (hr.more (by omega)) hb hm ha1 ha2 HG).mono ?_
        rintro e w1 ⟨rfl, h1, hg1⟩
        have h1' := (h1.alloc (.cells #[] 3))
        obtain ⟨d0, d1, d2, f1, f2⟩ := h1'.cells
        have h2 := h1'.setBad true
        obtain ⟨b0, b1, b2, k1, k2⟩ := h2.cells
        go_wp2
        refine wp_loop_rounds 1 ?_
        rw [rounds_succ]
        go_wp2
        go_ret
        exact ⟨_, rfl, grownBy_set (grown_alloc hg1 _) 2 _, _, h2⟩
    · have hr0 : getMany zs N p0 = r := by simpa [hmost] using HR0
      have HM := Lib.hid hr0
      clear hr0 HR0
      go_enter Try.func44, Try.ntmps44
      go_wp2_with fail
      refine (sGet_ok g A c zs a _ p0 true w h (hr.more (by omega)) hb hm ha1 ha2 HG).mono ?_
      rintro e w1 ⟨rfl, h1, hg1⟩
      have hsz1 := hg1.size
      go_wp2
      go_loopw [6, 7] (fun sl si wr => ∃ i : Nat, i ≤ N ∧ si = .int .i64 i ∧ Listing w g (.slice A zs.length c) zs N p0 i sl wr) (fun _ si _ => N - (intOf si).toNat)
      case atStart => exact ⟨0, Nat.zero_le _, rfl, grown_alloc hg1 _, .inl ⟨[], p0, rfl, Gets.start h01 h02, h1.alloc _, own_none .i64 w1 w.heap.size 3 hsz1⟩⟩
      case round =>
        obtain ⟨i, hi', rfl, hgr, hst⟩ := hrel
        have hszr := hgr.size
        rcases hst with ⟨l, p, rfl, hG, hR, hown⟩ | ⟨hbad, q, hR⟩
        · have q1 := hG.lo
          have q2 := hG.hi
          have q3 := hG.few
          obtain ⟨d0, d1, d2, f1, f2⟩ := hR.cells
          have hrr := rd_grown hr hgr (by omega) (Nat.le_refl _)
          by_cases hln : l.length < N
          · have i1 : (l.length : Int) < (N : Int) := by omega
            rcases hg : getNum zs p with _ | ⟨x, k2⟩
            · have HG2 := Lib.hid (getVal_none hg)
              have HF := Lib.hid (hG.fails hln hg)
              clear hg
              go_wp2_with fail
              refine (sGet_ok g A c zs p 0 0 false wr hR (hrr.more (by omega)) hb hm (by omega) (by omega) HG2).mono ?_
              rintro e w2 ⟨rfl, h2, hg2⟩
              have hsz2 := hg2.size
              have ho2 : Own .i64 w2 w.heap.size 3 u6 l := hown.kept_ hg2 (fun j hj e => by simp at e; have := (hown.at_ j hj).1; omega)
              go_wp2_with (at_builtin; refine wpl_appI _ .i64 rfl (.tmp 29) (.tmp 32) 31 rfl w.heap.size 3 i0 8 Try.underlying31 hi hz0 hz1 hz2 _ l rfl (ho2.alloc_ _) _ _ _ 1 [0] rfl rfl (rd_one _ _ _ _) ?d1 (by omega) ?d2 ?_)
              case d1 => omega
              case d2 => simp; omega
              intro v3 w3 ho3 hg3 hat3
              have hgA : w.grownBy w3 (some g) := grown_two (grown_alloc (grown_two hgr hg2 (fun j hj => .inr (by simp at hj; exact hj.symm))) _) hg3 (fun j hj => .inl (ho2.at_ j hj).1)
              have hR3 : Rdr w3 g (.slice A zs.length c) 0 true := (h2.alloc _).kept hg3 (fun e => by have := (ho2.at_ g e.symm).1; omega)
              clear hg3 hat3
              go_wp2
              go_roundw
              case rel => exact ⟨l.length + 1, by omega, by go_num, hgA, .inr ⟨HF.out, 0, hR3⟩⟩
              case measure => simp [intOf]; omega
            · have HG2 := Lib.hid (getVal_some hg)
              have hs2 := getNum_some hg
              have HN := hG.next hln hg
              clear hg
              go_wp2_with fail
              refine (sGet_ok g A c zs p _ _ true wr hR (hrr.more (by omega)) hb hm (by omega) (by omega) HG2).mono ?_
              rintro e w2 ⟨rfl, h2, hg2⟩
              have hsz2 := hg2.size
              have ho2 : Own .i64 w2 w.heap.size 3 u6 l := hown.kept_ hg2 (fun j hj e => by simp at e; have := (hown.at_ j hj).1; omega)
              go_wp2_with (at_builtin; refine wpl_appI _ .i64 rfl (.tmp 29) (.tmp 32) 31 rfl w.heap.size 3 i0 8 Try.underlying31 hi hz0 hz1 hz2 _ l rfl (ho2.alloc_ _) _ _ _ 1 [x] rfl rfl (rd_one _ _ _ _) ?d1 (by omega) ?d2 ?_)
              case d1 => omega
              case d2 => simp; omega
              intro v3 w3 ho3 hg3 hat3
              have hgA : w.grownBy w3 (some g) := grown_two (grown_alloc (grown_two hgr hg2 (fun j hj => .inr (by simp at hj; exact hj.symm))) _) hg3 (fun j hj => .inl (ho2.at_ j hj).1)
              have hR3 : Rdr w3 g (.slice A zs.length c) (p + k2) false := (h2.alloc _).kept hg3 (fun e => by have := (ho2.at_ g e.symm).1; omega)
              clear hg3 hat3
              go_wp2
              go_roundw
              case rel => exact ⟨l.length + 1, by omega, by go_num, hgA, .inl ⟨l ++ [x], p + k2, by simp, HN, hR3, ho3⟩⟩
              case measure => simp [intOf]; omega
          · have hl : l.length = N := by omega
            have HD := Lib.hid (hG.done hl)
            have i1 : decide ((l.length : Int) < (N : Int)) = false := by simp; omega
            have i2 : decide (l.length < N) = false := by simp; omega
            clear hl
            go_wp2
            go_ret
            refine ⟨_, rfl, hgr, ?_⟩
            rw [← HM.out, HD.out]
            exact ⟨hR, hown⟩
        · obtain ⟨d0, d1, d2, f1, f2⟩ := hR.cells
          have HB := Lib.hid hbad
          clear hbad
          by_cases hin : i < N
          · have i1 : (i : Int) < (N : Int) := by omega
            go_wp2
            go_ret
            refine ⟨_, rfl, hgr, ?_⟩
            rw [← HM.out, HB.out]
            exact ⟨_, hR⟩
          · have i1 : decide ((i : Int) < (N : Int)) = false := by simp; omega
            have i2 : decide (i < N) = false := by simp; omega
            go_wp2
            go_ret
            refine ⟨_, rfl, hgr, ?_⟩
            rw [← HM.out, HB.out]
            exact ⟨_, hR⟩

set_option maxHeartbeats 1000000 in
theorem sGetNums_any (A : Option Addr) (c : Nat) (zs : List Int) (a most : Int) (w : World) (hr : Rd .u8 w w.heap.size A zs) (hb : Bytes zs) (hm : zs.length ≤ 16777216) (ha1 : -9223372036854775808 ≤ a) (ha2 : a ≤ 9223372036854775807) (r : Option (List Int × Int)) (HR : Hid (getNums zs a most = r)) :
    Calls Try.prog 25 #[.slice A zs.length c, .int .i64 a, .int .i64 most] w (NewNums w (numsL r) (numsP r) r.isSome) := by
  have h0 : Rdr (w.alloc (.cells #[.slice A zs.length c, .int .i64 a, .bool false] 52)) w.heap.size (.slice A zs.length c) a false := heap_alloc_new w _
  have hr0 : Rd .u8 (w.alloc (.cells #[.slice A zs.length c, .int .i64 a, .bool false] 52)) w.heap.size A zs := hr.below ((Below.refl _ _).alloc (Nat.le_refl _) _)
  go_enter Try.func25, Try.ntmps25
  go_wp2_with fail
  refine (sList_any w.heap.size A c zs a most _ h0 hr0 hb hm ha1 ha2 r HR).mono ?_
  rintro e w1 ⟨v, rfl, hg1, hst⟩
  have hB : Below w.heap.size w w1 := ((Below.refl _ _).alloc (Nat.le_refl _) _).grown hg1 (by simp) (fun j hj => by simp at hj; omega)
  rcases r with _ | ⟨l, p⟩
  · obtain ⟨q, hR⟩ := hst
    obtain ⟨d0, d1, d2, f1, f2⟩ := hR.cells
    go_wp2
    go_ret3
    exact newNums_none hB
  · obtain ⟨hR, hown⟩ := hst
    obtain ⟨d0, d1, d2, f1, f2⟩ := hR.cells
    go_wp2
    go_quiet (fail)
    go_wp2
    go_ret3
    exact ⟨v, rfl, (OS.mk_ (hown.base_mono (by simp))).below (below_of_drew _ _ _), bdrew hB _⟩

theorem sGetNums_c {w : World} {v : Value} {zs : List Int} {a most : Int} (h : RS .u8 w v zs) (hb : Bytes zs) (hm : zs.length ≤ 16777216) (ha1 : -9223372036854775808 ≤ a) (ha2 : a ≤ 9223372036854775807) :
    Calls Try.prog 25 #[v, .int .i64 a, .int .i64 most] w (NewNums w (numsL (getNums zs a most)) (numsP (getNums zs a most)) (getNums zs a most).isSome) := by
  obtain ⟨A, c, rfl, _, _, hr⟩ := h
  exact sGetNums_any A c zs a most w hr hb hm ha1 ha2 _ rfl

theorem iGetNums_c {w : World} {v : Value} {zs : List Int} {a most : Int} (h : RS .u8 w v zs) (hb : Bytes zs) (hm : zs.length ≤ 16777216) (ha1 : -9223372036854775808 ≤ a) (ha2 : a ≤ 9223372036854775807) :
    Calls Try.prog 26 #[v, .int .i64 a, .int .i64 most] w (NewNums w (numsL (getNums zs a most)) (numsP (getNums zs a most)) (getNums zs a most).isSome) := by
  obtain ⟨A, c, rfl, h1, h2, hr⟩ := h
  exact iGetNums_any A c zs a most w hr hb hm h1 h2 ha1 ha2 _ rfl

theorem getMany_len {zs : List Int} {k : Nat} {p0 p : Int} {l : List Int} (h : getMany zs k p0 = some (l, p)) (h0 : 0 ≤ p0) : (l.length : Int) ≤ zs.length ∨ l = [] := by
  have : ∀ (k : Nat) (p0 p : Int) (l : List Int), getMany zs k p0 = some (l, p) → 0 ≤ p0 → l = [] ∨ p0 + (l.length : Int) ≤ zs.length := by
    intro k
    induction k with
    | zero =>
      intro p0 p l h _
      simp [getMany] at h
      exact .inl h.1
    | succ k ih =>
      intro p0 p l h h0
      unfold getMany at h
      rcases hg : getNum zs p0 with _ | ⟨n, c⟩
      · rw [hg] at h; cases h
      · rw [hg] at h
        have hs := getNum_some hg
        rcases hr : getMany zs k (p0 + c) with _ | ⟨l', p'⟩
        · simp [hr] at h
        · simp [hr] at h
          obtain ⟨rfl, rfl⟩ := h
          rcases ih _ _ _ hr (by omega) with rfl | h2
          · right; simp; omega
          · right; simp; omega
  rcases this k p0 p l h h0 with h1 | h1
  · exact .inr h1
  · exact .inl (by omega)

theorem nums_len (zs : List Int) (a most : Int) : (numsL (getNums zs a most)).length ≤ zs.length := by
  rcases h : getNums zs a most with _ | ⟨l, p⟩
  · simp [numsL]
  · unfold getNums at h
    rcases hg : getNum zs a with _ | ⟨n, c⟩
    · rw [hg] at h; cases h
    · rw [hg] at h
      have hs := getNum_some hg
      dsimp only at h
      split at h
      · cases h
      · rcases getMany_len h (by omega) with h2 | h2
        · simp [numsL]; omega
        · simp [numsL, h2]
end Go.Proofs.Ytfdhilpmblbkfaa
