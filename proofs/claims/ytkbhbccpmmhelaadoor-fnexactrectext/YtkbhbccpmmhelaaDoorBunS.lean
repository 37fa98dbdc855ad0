/- Texts joined: Gen, Strs, Split, Cut, Rc7. -/
import Derived.Test.YtkbhbccpmmhelaaDoorBunA
import Derived.Test.YtkbhbccpmmhelaaDoorProg
import Derived.Deep.QuietTactic
import Derived.BigQuiet
import Derived.Deep.RegionHeld3
import Derived.Deep.RegionWith
import Derived.Test.YtkbhbccpmmhelaaDoorShelf
import Derived.Lib.OthersKept
import Derived.WalkSmall
import Derived.Test.YtkbhbccpmmhelaaDoorBunT

namespace Go.Proofs.YtkbhbccpmmhelaaDoor
open Go.RowKit
set_option linter.unusedVariables false

section
variable {α : Type} (f : α → Value) (d : α)

def RdF (w : World) (B : Nat) (A : Option Addr) (xs : List α) : Prop :=
  0 < xs.length → ∃ b off, A = some ⟨b, off, none⟩ ∧ b < B ∧ ∀ j, j < xs.length → w.cell? ⟨b, off + j, none⟩ = some (f (xs.getD j d))

def OwnF (w : World) (base : Nat) (e : TypeId) (v : Value) (xs : List α) : Prop := w.ownsRow base e 1 v xs.length (xs.map f)

def RSF (w : World) (v : Value) (xs : List α) : Prop := ∃ A c, v = .slice A xs.length c ∧ xs.length ≤ c ∧ c ≤ maxLen ∧ RdF f d w w.heap.size A xs

def OSF (e : TypeId) (w : World) (lo hi : Nat) (v : Value) (xs : List α) : Prop :=
  OwnF f w lo e v xs ∧ (∀ j, v.ownBlock = some j → j < hi) ∧ hi ≤ w.heap.size

variable {f d} {w w' : World} {B B' base lo hi : Nat} {A : Option Addr} {xs : List α} {e : TypeId} {v : Value}

theorem RdF.at_ (h : RdF f d w B A xs) {j : Nat} (hj : j < xs.length) :
    ∃ b off, A = some ⟨b, off, none⟩ ∧ b < B ∧ w.cell? ⟨b, off + j, none⟩ = some (f (xs.getD j d)) := by
  obtain ⟨b, off, rfl, hb, hc⟩ := h (by omega)
  exact ⟨b, off, rfl, hb, hc j hj⟩
theorem RdF.keep (h : RdF f d w B A xs) (hk : ∀ p : Addr, p.block < B → w'.cell? p = w.cell? p) : RdF f d w' B A xs := fun hn => by
  obtain ⟨b, off, rfl, hb, hc⟩ := h hn
  exact ⟨b, off, rfl, hb, fun j hj => (hk _ hb).trans (hc j hj)⟩
theorem RdF.more (h : RdF f d w B A xs) (hB : B ≤ B') : RdF f d w B' A xs := fun hn => by
  obtain ⟨b, off, rfl, hb, hc⟩ := h hn
  exact ⟨b, off, rfl, by omega, hc⟩
theorem RdF.below (h : RdF f d w B A xs) (hb : Below B w w') : RdF f d w' B A xs := h.keep fun _ hp => hb.cell hp

theorem RdF.toV (h : RdF f d w B A xs) : RdV w B A (xs.map f) := fun hp => by
  obtain ⟨b, off, rfl, hb, hc⟩ := h (by simpa using hp)
  refine ⟨b, off, rfl, hb, fun j u hu => ?_⟩
  have hj : j < xs.length := by
    rcases Nat.lt_or_ge j xs.length with h | h
    · exact h
    · rw [List.getElem?_eq_none (by simpa using h)] at hu; cases hu
  rw [hc j hj]
  simp [hj] at hu
  simp [hj, hu]

theorem OwnF.lt (h : OwnF f w base e v xs) : ∀ j, v.ownBlock = some j → base ≤ j ∧ j < w.heap.size := World.ownsRow.lt h

theorem OwnF.form (h : OwnF f w base e v xs) : ∃ A c, v = .slice A xs.length c ∧ xs.length ≤ c ∧ c ≤ maxLen ∧ RdF f d w w.heap.size A xs := by
  have hlt := h.lt
  rcases h.2 with ⟨rfl, h0⟩ | ⟨g, cap, cur, rfl, hb, hh, hn, hm, hs, ht⟩
  · exact ⟨none, 0, by rw [h0], by omega, by unfold maxLen; omega, fun h => by omega⟩
  · refine ⟨some ⟨g, 0, none⟩, cap, rfl, hn, hm, fun hp => ⟨g, 0, rfl, (hlt g rfl).2, fun j hj => ?_⟩⟩
    have := World.ownsRow.cellAt h j (by omega)
    rw [Nat.zero_add, this]
    simp [hj]

theorem OwnF.below (h : OwnF f w base e v xs) (hb : Below B w w') (hB : w.heap.size ≤ B) : OwnF f w' base e v xs := by
  have hlt := h.lt
  refine ⟨h.1, ?_⟩
  rcases h.2 with h2 | ⟨g, cap, cur, hv, hg, hh, r⟩
  · exact .inl h2
  · refine .inr ⟨g, cap, cur, hv, hg, ?_, r⟩
    have := (hlt g (by rw [hv]; rfl)).2
    rw [hb.block g (by omega)]; exact hh

theorem OwnF.base_mono {base' : Nat} (h : OwnF f w base e v xs) (hb : base' ≤ base) : OwnF f w base' e v xs := by
  refine ⟨h.1, ?_⟩
  rcases h.2 with h2 | ⟨g, cap, cur, hv, hg, r⟩
  · exact .inl h2
  · exact .inr ⟨g, cap, cur, hv, by omega, r⟩

theorem OwnF.kept_ {row : Option Nat} (h : OwnF f w base e v xs) (hg : w.grownBy w' row) (hne : ∀ j, v.ownBlock = some j → row ≠ some j) : OwnF f w' base e v xs :=
  World.ownsRow.kept h hg (by
    rcases hv : v.ownBlock with _ | j
    · exact .inl rfl
    · exact .inr (fun e => hne j hv e.symm))

theorem OwnF.alloc_ (h : OwnF f w base e v xs) (o : Obj) : OwnF f (w.alloc o) base e v xs := World.ownsRow.alloc h o

theorem OwnF.len {g n c : Nat} (h : OwnF f w base e (.slice (some ⟨g, 0, none⟩) n c) xs) : n = xs.length := by
  rcases h.2 with ⟨h', _⟩ | ⟨g', cap, cur, hv, _⟩
  · simp at h'
  · simp only [Value.slice.injEq] at hv; exact hv.2.1
theorem OwnF.cell_ {g n c : Nat} (h : OwnF f w base e (.slice (some ⟨g, 0, none⟩) n c) xs) {j : Nat} (hj : j < xs.length) : w.cell? ⟨g, j, none⟩ = some (f (xs.getD j d)) := by
  obtain rfl := h.len
  rw [World.ownsRow.cellAt h j (by omega)]
  simp [hj]
theorem OwnF.frozen_ {g n c : Nat} (h : OwnF f w base e (.slice (some ⟨g, 0, none⟩) n c) xs) (j : Nat) : w.frozen? ⟨g, j, none⟩ = false := by
  obtain rfl := h.len
  exact World.ownsRow.frozenAt h j
theorem OwnF.set_ {g n c : Nat} (h : OwnF f w base e (.slice (some ⟨g, 0, none⟩) n c) xs) (j : Nat) (x : α) :
    OwnF f (w.setCell ⟨g, j, none⟩ (f x)) base e (.slice (some ⟨g, 0, none⟩) n c) (xs.set j x) := by
  obtain rfl := h.len
  have := (World.ownsRow.stored h j (f x)).1
  unfold OwnF
  rw [List.map_set, List.length_set]
  exact this

theorem grown_belowF {a : World} (h : Below B a w) (ho : OwnF f w base e v xs) (hg : w.grownBy w' v.ownBlock) (hB : B ≤ base) (hB2 : B ≤ w.heap.size) : Below B a w' :=
  h.grown hg hB2 (fun k hk => by have := (ho.lt k hk).1; omega)

theorem RSF.from_ (h : RSF f d w v xs) (hb : Below w.heap.size w w') : RSF f d w' v xs := by
  obtain ⟨A, c, hv, h1, h2, hr⟩ := h
  exact ⟨A, c, hv, h1, h2, (hr.below hb).more hb.size⟩
theorem OSF.rd (h : OSF f e w lo hi v xs) : RSF f d w v xs := h.1.form
theorem OSF.below (h : OSF f e w lo hi v xs) (hb : Below w.heap.size w w') : OSF f e w' lo hi v xs :=
  ⟨h.1.below hb (Nat.le_refl _), h.2.1, Nat.le_trans h.2.2 hb.size⟩
theorem OSF.chg {a b : Nat} (h : OSF f e w lo hi v xs) (hc : Chg a b w w') (hd : hi ≤ a ∨ b ≤ lo) : OSF f e w' lo hi v xs := by
  refine ⟨⟨h.1.1, ?_⟩, h.2.1, Nat.le_trans h.2.2 hc.size⟩
  rcases h.1.2 with h2 | ⟨g, cap, cur, hv, hg, hh, r⟩
  · exact .inl h2
  · refine .inr ⟨g, cap, cur, hv, hg, ?_, r⟩
    have h3 := h.2.1 g (by rw [hv]; rfl)
    have h4 := h.2.2
    rw [hc.block g (by omega) (by omega)]; exact hh
theorem OSF.mk_ (h : OwnF f w' lo e v xs) : OSF f e w' lo w'.heap.size v xs := ⟨h, fun j hj => (h.lt j hj).2, Nat.le_refl _⟩

theorem ownF_nil : OwnF f w base e (.slice none 0 0) [] := World.ownsRow_nil w base e 1
theorem ownF_none (hb : base ≤ w.heap.size) : OwnF f (w.alloc (.cells #[] e)) base e (.slice (some ⟨w.heap.size, 0, none⟩) 0 0) [] := by
  have := World.ownsRow_lit (base := base) (e := e) (size := 1) w #[] 0 hb (by unfold maxLen; omega) (by simp)
  simpa [OwnF] using this
end

/-- a block of one cell that the walk has just laid -/
theorem rdF_one {α : Type} (f : α → Value) (d : α) (w : World) (t : TypeId) (x : α) : RdF f d (w.alloc (.cells #[f x] t)) (w.heap.size + 1) (some ⟨w.heap.size, 0, none⟩) [x] := fun _ =>
  ⟨w.heap.size, 0, rfl, by omega, fun j hj => by
    have : j = 0 := by simp at hj; omega
    subst this
    have := heap_alloc_new w (.cells #[f x] t)
    rw [cell_of_row _ w.heap.size (0 + 0) #[f x] t (0, 0) this]
    simp⟩

/-- append, of elements encoded by f -/
theorem wpl_appF {α : Type} (f : α → Value) (d : α) {P : Program} (w : World) {ops : Array Oper} {rest : List Oper} {o : Oper} {a : Act} {Q : Exit → Act → World → Prop} (hone : ∀ x, (f x).oneCell' = true) (hgd : o.guard = none) (s x : Operand) (t : TypeId)
    (ho : o.op = .call { callee := .builtin .append, args := #[s, x], argTypes := #[t, t] })
    (base : Nat) (e : TypeId) (i : TypeInfo) (z : Value) (bytes : Nat) (ht : P.underlying t = some (.slice e)) (hi : P.info? e = some i) (hz : i.zero = some z)
    (hsize : i.size = 1) (hby : i.bytes = bytes) (hzs : z.cells.size = 1) (v : Value) (xs : List α) (hs : a.eval s = v) (hown : OwnF f w base e v xs)
    (B : Nat) (A : Option Addr) (c m : Nat) (ys : List α) (hx : a.eval x = .slice A m c) (hm : ys.length = m) (hr : RdF f d w B A ys)
    (hmax : xs.length + m ≤ 1099511627776) (hbyt : bytes ≤ 64) (hbase : base ≤ w.heap.size)
    (h : ∀ v' w', OwnF f w' base e v' (xs ++ ys) → w.grownBy w' v.ownBlock → (v'.ownBlock = v.ownBlock ∨ v'.ownBlock = some w.heap.size) → wpList P ops Q rest (a.put o.dst v') w') :
    wpList P ops Q (o :: rest) a w :=
  wpl_app w hgd s x t ho base e i z bytes ht hi hz hsize hby hzs v xs.length (xs.map f) hs hown B A c m (ys.map f) hx (by simpa using hm) hr.toV
    (fun u hu => by obtain ⟨n, _, rfl⟩ := List.mem_map.1 hu; exact hone n) hmax hbyt hbase
    (fun v' w' h2 h3 h4 => h v' w' (by unfold OwnF; rw [List.length_append, List.map_append]; simpa using h2) h3 h4)

end Go.Proofs.YtkbhbccpmmhelaaDoor

namespace Go.Proofs.YtkbhbccpmmhelaaDoor
open Go.RowKit
set_option linter.unusedVariables false

theorem take_succ_eqF {α : Type} {xs ys : List α} {d : α} {k : Nat} (h : xs.take k = ys.take k) (hx : k < xs.length) (hy : k < ys.length) (hk : xs.getD k d = ys.getD k d) : xs.take (k + 1) = ys.take (k + 1) := by
  rw [List.take_succ_eq_append_getElem hx, List.take_succ_eq_append_getElem hy, h]
  simp [hx, hy] at hk
  rw [hk]

/-- markText's digits, put ahead of acc -/
def digs (k : Nat) (acc : ByteArray) : ByteArray := if h : 0 < k then digs (k / 10) (strOfNums [(48 : Int) + (k : Int) % 10] ++ acc) else acc
termination_by k
decreasing_by omega

/-- markText's answer at a positive number -/
def mtext (k : Nat) : ByteArray := ⟨#[109]⟩ ++ digs k ⟨#[]⟩

/-- the strings that a marking from k on lays into n places -/
def tmarks (k : Int) (n : Nat) : List ByteArray := (List.range n).map fun i : Nat => mtext (k + (i : Int)).toNat

theorem tmarks_len (k : Int) (n : Nat) : (tmarks k n).length = n := by simp [tmarks]
theorem tmarks_getD (k : Int) (n j : Nat) (h : j < n) : (tmarks k n).getD j ByteArray.empty = mtext (k + (j : Int)).toNat := by simp [tmarks, h]
theorem tmark_step (xs : List ByteArray) (k0 : Int) (k : Nat) (h : k < xs.length) :
    (tmarks k0 k ++ xs.drop k).set k (mtext (k0 + (k : Int)).toNat) = tmarks k0 (k + 1) ++ xs.drop (k + 1) := by
  have e1 := tmarks_len k0 k
  rw [List.set_append, if_neg (by omega), e1, Nat.sub_self, List.drop_eq_getElem_cons h, List.set_cons_zero]
  simp [tmarks, List.range_succ]

/-- what a marking call leaves below 'B' and elsewhere: only the row's block, and new ones -/
def MarkedT (w : World) (base : Nat) (v : Value) (k : Int) (xs : List ByteArray) (e : Ending) (w' : World) : Prop :=
  e = .returned (.int .i64 (k + (xs.length : Int))) ∧ OwnF Value.string w' base 9 v (tmarks k xs.length) ∧ w.grownBy w' v.ownBlock

end Go.Proofs.YtkbhbccpmmhelaaDoor

namespace Go.Proofs.YtkbhbccpmmhelaaDoor
open Go.RowKit
set_option linter.unusedVariables false

theorem Tryd.info_str : (Tryd.prog.info? 9).map (fun i => (i.zero, i.size, i.bytes)) = some (some (.string ⟨#[]⟩), 1, 16) := by kernel_rfl

/-- a call that answers a new row of strings alone -/
def NewT (w : World) (xs : List ByteArray) (e : Ending) (w' : World) : Prop :=
  ∃ v, e = .returned v ∧ OSF Value.string 9 w' w.heap.size w'.heap.size v xs ∧ Below w.heap.size w w'

theorem one_str (x : ByteArray) : (Value.string x).oneCell' = true := rfl

set_option maxRecDepth 10000 in
set_option maxHeartbeats 1000000 in
theorem sSplit_any (s : ByteArray) (b : Nat) (w : World) (hs : s.size ≤ 1073741824) (hb : b < 256) :
    Calls Tryd.prog 74 #[.string s, .int .u8 b] w (NewT w (splitL s b)) := by
  obtain ⟨i0, hi, hz0, hz1, hz2⟩ := info_parts Tryd.info_str
  go_enter Tryd.func74, Tryd.ntmps74
  go_wp2
  go_loopw [5, 6, 7] (fun so sf si wr => ∃ (k fr : Nat) (l : List ByteArray), si = .int .i64 k ∧ sf = .int .i64 fr ∧ OwnF Value.string wr w.heap.size 9 so l ∧ Below w.heap.size w wr ∧
      l.length ≤ k ∧ ((k ≤ s.size ∧ fr ≤ k ∧ Hid (splitSt s b k = (l, fr))) ∨ (k = s.size + 1 ∧ Hid (l = splitL s b)))) (fun _ _ si _ => s.size + 1 - (intOf si).toNat)
  case atStart => exact ⟨0, 0, [], rfl, rfl, ownF_none (Nat.le_refl _), (Below.refl _ _).alloc (Nat.le_refl _) _, by simp, .inl ⟨by omega, by omega, rfl⟩⟩
  case round =>
    obtain ⟨k, fr, l, rfl, rfl, hown, hbr, hll, hst⟩ := hrel
    have hsz := hbr.size
    rcases hst with ⟨hk, hfr, HS⟩ | ⟨hk, HL⟩
    · by_cases hend : k = s.size
      · subst hend
        have HN : Hid (l ++ [s.extract fr s.size] = splitL s b) := by
          show _ = _
          unfold splitL; rw [HS.out]
        go_wp2_with (at_builtin; refine wpl_appF Value.string ByteArray.empty _ one_str rfl (.tmp 26) (.tmp 31) 58 rfl w.heap.size 9 i0 _ 16 Tryd.underlying58 hi hz0 hz1 hz2 rfl _ l rfl (hown.alloc_ _) _ _ _ 1 [s.extract fr s.size] rfl rfl (rdF_one _ _ _ _ _) ?d1 (by omega) ?d2 ?_)
        case d1 => omega
        case d2 => simp; omega
        intro v2 w2 ho2 hg2 hat2
        have hb2 : Below w.heap.size w w2 := grown_belowF (hbr.alloc hsz _) (hown.alloc_ _) hg2 (Nat.le_refl _) (by simp; omega)
        clear hg2 hat2
        go_wp2
        go_roundw
        case rel => exact ⟨s.size + 1, s.size + 1, _, by go_num, by go_num, ho2, hb2, by simp; omega, .inr ⟨rfl, HN⟩⟩
        case measure => first | omega | (simp [intOf]; done) | (simp [intOf]; omega)
      · have hlt : k < s.size := by omega
        have hne : ((k : Int) == (s.size : Int)) = false := by simp; omega
        have hg := get_bang s k hlt
        obtain ⟨x, hx⟩ : ∃ x, (s[k]'hlt).toNat = x := ⟨_, rfl⟩
        rw [← hg] at hx
        have HX := Lib.hid hx
        rw [hg] at hx
        clear hg
        by_cases hxb : x = b
        · have HN : Hid (splitSt s b (k + 1) = (l ++ [s.extract fr k], k + 1)) := by
            show _ = _
            rw [splitSt_hit (HX.out.trans hxb), HS.out]
          subst hxb
          go_wp2_with (at_builtin; refine wpl_appF Value.string ByteArray.empty _ one_str rfl (.tmp 26) (.tmp 31) 58 rfl w.heap.size 9 i0 _ 16 Tryd.underlying58 hi hz0 hz1 hz2 rfl _ l rfl (hown.alloc_ _) _ _ _ 1 [s.extract fr k] rfl rfl (rdF_one _ _ _ _ _) ?f1 (by omega) ?f2 ?_)
          case f1 => omega
          case f2 => simp; omega
          intro v2 w2 ho2 hg2 hat2
          have hb2 : Below w.heap.size w w2 := grown_belowF (hbr.alloc hsz _) (hown.alloc_ _) hg2 (Nat.le_refl _) (by simp; omega)
          clear hg2 hat2
          go_wp2
          go_roundw
          case rel => exact ⟨k + 1, k + 1, _, by go_num, by go_num, ho2, hb2, by simp; omega, .inl ⟨by omega, by omega, HN⟩⟩
          case measure => first | omega | (simp [intOf]; done) | (simp [intOf]; omega)
        · have HN : Hid (splitSt s b (k + 1) = (l, fr)) := by
            show _ = _
            rw [splitSt_miss (by rw [HX.out]; exact hxb), HS.out]
          have hxb' : ((x : Int) == (b : Int)) = false := by simp; omega
          go_wp2
          go_roundw
          case rel => exact ⟨k + 1, fr, l, by go_num, rfl, hown, hbr, by omega, .inl ⟨by omega, by omega, HN⟩⟩
          case measure => first | omega | (simp [intOf]; done) | (simp [intOf]; omega)
    · subst hk
      have i1 : decide (((s.size + 1 : Nat) : Int) ≤ (s.size : Int)) = false := by simp; omega
      have i2 : decide (s.size + 1 ≤ s.size) = false := by simp
      go_wp2
      go_ret
      rw [← HL.out]
      exact ⟨_, rfl, OSF.mk_ hown, hbr⟩

set_option maxHeartbeats 400000 in
theorem clone_any (s : ByteArray) (w : World) (hs : s.size ≤ 1073741824) :
    Calls Tryd.prog 76 #[.string s] w fun e w' => e = .returned (.string s) ∧ Below w.heap.size w w' := by
  go_enter Tryd.func76, Tryd.ntmps76
  go_wp2_with fail
  refine (Tryd.stringslite_Clone s w (by omega)).mono ?_
  rintro e w1 ⟨rfl, hb⟩
  go_wp2
  go_ret
  exact ⟨rfl, hb⟩

section
variable {w w' : World} {base : Nat} {e : TypeId} {v : Value} {xs : List ByteArray} {g p : Nat} {s : ByteArray}
theorem own_ne_iter (h : OwnF Value.string w base e v xs) (hi : w.heap[g]? = some (.stringIter s p)) : ∀ j, v.ownBlock = some j → j ≠ g := by
  intro j hj e
  subst e
  rcases h.2 with ⟨rfl, _⟩ | ⟨g', cap, cur, rfl, _, hh, _⟩
  · simp [Value.ownBlock] at hj
  · simp [Value.ownBlock] at hj
    subst hj
    rw [hi] at hh
    cases hh
theorem own_iterAt (h : OwnF Value.string w base e v xs) (hi : w.heap[g]? = some (.stringIter s p)) (q : Nat) : OwnF Value.string (w.iterAt g s q) base e v xs := by
  have hne := own_ne_iter h hi
  refine ⟨h.1, ?_⟩
  rcases h.2 with h2 | ⟨g', cap, cur, hv, hg, hh, r⟩
  · exact .inl h2
  · exact .inr ⟨g', cap, cur, hv, hg, by rw [Lib.iterAt_other _ _ _ _ _ (hne g' (by rw [hv]; rfl))]; exact hh, r⟩
end

theorem iter_start (w : World) (s : ByteArray) (t : TypeId) : ((w.alloc (.cells #[] t)).iter s 0).heap[w.heap.size + 1]? = some (.stringIter s 0) := by
  have h := World.iter_heap (w.alloc (.cells #[] t)) s 0
  have e : (w.alloc (.cells #[] t)).heap.size = w.heap.size + 1 := by simp
  rw [e] at h
  exact h

set_option maxRecDepth 10000 in
set_option maxHeartbeats 2000000 in
theorem iSplit_any (s : ByteArray) (b : Nat) (w : World) (hs : s.size ≤ 1073741824) (hb : b < 128) :
    Calls Tryd.prog 53 #[.string s, .int .i32 b] w (NewT w (splitL s b)) := by
  obtain ⟨i0, hi, hz0, hz1, hz2⟩ := info_parts Tryd.info_str
  go_enter Tryd.func53, Tryd.ntmps53
  go_wp2
  go_loopw [5, 6] (fun so sf wr => ∃ (p fr : Nat) (l : List ByteArray), sf = .int .i64 fr ∧ OwnF Value.string wr w.heap.size 9 so l ∧ Below w.heap.size w wr ∧
      wr.heap[w.heap.size + 1]? = some (.stringIter s p) ∧ l.length ≤ p ∧ p ≤ s.size ∧ fr ≤ p ∧ Hid (splitSt s b p = (l, fr))) (fun _ _ wr => s.size - wr.iterPos (w.heap.size + 1))
  case atStart => exact ⟨0, 0, [], rfl, (ownF_none (Nat.le_refl _)).alloc_ _, ((Below.refl _ _).alloc (Nat.le_refl _) _).alloc (by simp) _, iter_start w s 9, by simp, by omega, by omega, rfl⟩
  case round =>
    obtain ⟨p, fr, l, rfl, hown, hbr, hit, hll, hp, hfr, HS⟩ := hrel
    have hsz := hbr.size
    have hpos : wr.iterPos (w.heap.size + 1) = p := by unfold World.iterPos; rw [hit]
    have HP := Lib.hid hpos
    clear hpos
    by_cases hlt : p < s.size
    · have hg := get_bang s p hlt
      have hnx := fun ty => Lib.run_next_any_at (P := Tryd.prog) wr (w.heap.size + 1) s p ty hit hlt
      obtain ⟨r, wd, hd⟩ : ∃ r wd, Utf8.decode s p = (r, wd) := ⟨_, _, rfl⟩
      rw [hd] at hnx
      have hgl : w.heap.size + 1 < wr.heap.size := (Array.getElem?_eq_some_iff.1 hit).1
      have hstep : p + wd ≤ s.size ∧ 1 ≤ wd ∧ r ≤ 2147483647 ∧ ((r = b ∧ wd = 1 ∧ splitSt s b (p + wd) = (l ++ [s.extract fr p], p + 1)) ∨ (r ≠ b ∧ splitSt s b (p + wd) = (l, fr))) := by
        have hle := decode_le s p
        rw [hd] at hle
        by_cases hasc : (s.get! p).toNat < 128
        · have h1 := decode_ascii s p hlt (by rw [← hg]; exact hasc)
          rw [hd, ← hg] at h1
          simp only [Prod.mk.injEq] at h1
          obtain ⟨h1, rfl⟩ := h1
          refine ⟨by omega, by omega, by omega, ?_⟩
          by_cases hrb : r = b
          · exact .inl ⟨hrb, rfl, by rw [splitSt_hit (by omega), HS.out]⟩
          · exact .inr ⟨hrb, by rw [splitSt_miss (by omega), HS.out]⟩
        · have h1 := decode_span s p hlt hasc
          have h2 := decode_high s p hlt (by rw [← hg]; omega)
          rw [hd] at h1 h2
          refine ⟨h1.1, h1.2.1, by omega, .inr ⟨by omega, ?_⟩⟩
          rw [splitSt_skip p wd (fun j hj => by have := h1.2.2 j hj; omega), HS.out]
      obtain ⟨hs1, hs2, hs3, hs4⟩ := hstep
      obtain ⟨wn, hwn⟩ : ∃ wn, wr.iterAt (w.heap.size + 1) s (p + wd) = wn := ⟨_, rfl⟩
      have hownN := own_iterAt hown hit (p + wd)
      have hbrN := Lib.below_iterAt hbr (k := w.heap.size + 1) (by omega) s (p + wd)
      have hitN := Lib.iterAt_heap wr (w.heap.size + 1) s p (p + wd) hit
      have hszN := Lib.iterAt_size wr (w.heap.size + 1) s (p + wd)
      dsimp only at hnx
      rw [hwn] at hownN hbrN hitN hszN hnx
      clear hwn hd hg hown hbr hit
      have hgl2 : w.heap.size + 1 < wn.heap.size := by omega
      clear hszN
      rcases hs4 with ⟨hrb, hwd, hsp⟩ | ⟨hrb, hsp⟩
      · have HN := Lib.hid hsp
        clear hsp
        subst hrb
        subst hwd
        go_wp2_with fail
        refine (clone_any (s.extract fr p) wn (by rw [ByteArray.size_extract]; omega)).mono ?_
        rintro e w3 ⟨rfl, hb3⟩
        have ho3 := hownN.below hb3 (Nat.le_refl _)
        have hb3' := hbrN.trans (hb3.mono hbrN.size)
        have hit3 : w3.heap[w.heap.size + 1]? = some (.stringIter s (p + 1)) := (hb3.block _ hgl2).trans hitN
        have hsz3 := hb3'.size
        have hgl3 : w.heap.size + 1 < w3.heap.size := by have := hb3.size; omega
        have hne := own_ne_iter ho3 hit3
        clear hownN hitN hnx
        go_wp2_with (at_builtin; refine wpl_appF Value.string ByteArray.empty _ one_str rfl (.tmp 19) (.tmp 25) 58 rfl w.heap.size 9 i0 _ 16 Tryd.underlying58 hi hz0 hz1 hz2 rfl _ l rfl (ho3.alloc_ _) _ _ _ 1 [s.extract fr p] rfl rfl (rdF_one _ _ _ _ _) ?f1 (by omega) ?f2 ?_)
        case f1 => omega
        case f2 => simp; omega
        intro v4 w4 ho4 hg4 hat4
        have hb4 : Below w.heap.size w w4 := grown_belowF (hb3'.alloc hsz3 _) (ho3.alloc_ _) hg4 (Nat.le_refl _) (by simp; omega)
        have hit4 : w4.heap[w.heap.size + 1]? = some (.stringIter s (p + 1)) := (hg4.block _ (by simp; omega) (fun e => hne _ e.symm rfl)).trans ((Below.heap_alloc w3 _ _ hgl3).trans hit3)
        have hpos4 : w4.iterPos (w.heap.size + 1) = p + 1 := by unfold World.iterPos; rw [hit4]
        have HP4 := Lib.hid hpos4
        have HI4 := Lib.hid hit4
        clear hg4 hat4 hpos4 hit4 hit3
        go_wp2
        go_roundw
        case rel => exact ⟨p + 1, p + 1, _, by go_num, ho4, hb4, HI4.out, by simp; omega, by omega, by omega, HN⟩
        case measure => rw [HP4.out, HP.out]; omega
      · have HN := Lib.hid hsp
        clear hsp
        have hrb' : ((r : Int) == (b : Int)) = false := by simp; omega
        have hposN : wn.iterPos (w.heap.size + 1) = p + wd := by unfold World.iterPos; rw [hitN]
        have HPN := Lib.hid hposN
        have HIN := Lib.hid hitN
        clear hposN hitN
        go_wp2
        go_roundw
        case rel => exact ⟨p + wd, fr, l, rfl, hownN, hbrN, HIN.out, by omega, by omega, by omega, HN⟩
        case measure => rw [HPN.out, HP.out]; omega
    · have hp2 : p = s.size := by omega
      subst hp2
      have hnx := fun ty => Lib.run_next_end_at (P := Tryd.prog) wr (w.heap.size + 1) s s.size ty hit hlt
      have HN : Hid (l ++ [s.extract fr s.size] = splitL s b) := by
        show _ = _
        unfold splitL; rw [HS.out]
      clear hit HP
      go_wp2_with fail
      refine (clone_any (s.extract fr s.size) wr (by rw [ByteArray.size_extract]; omega)).mono ?_
      rintro e w3 ⟨rfl, hb3⟩
      have ho3 := hown.below hb3 (Nat.le_refl _)
      have hb3' := hbr.trans (hb3.mono hbr.size)
      have hsz3 := hb3'.size
      clear hnx hown
      go_wp2_with (at_builtin; refine wpl_appF Value.string ByteArray.empty _ one_str rfl (.tmp 29) (.tmp 34) 58 rfl w.heap.size 9 i0 _ 16 Tryd.underlying58 hi hz0 hz1 hz2 rfl _ l rfl (ho3.alloc_ _) _ _ _ 1 [s.extract fr s.size] rfl rfl (rdF_one _ _ _ _ _) ?e1 (by omega) ?e2 ?_)
      case e1 => omega
      case e2 => simp; omega
      intro v4 w4 ho4 hg4 hat4
      have hb4 : Below w.heap.size w w4 := grown_belowF (hb3'.alloc hsz3 _) (ho3.alloc_ _) hg4 (Nat.le_refl _) (by simp; omega)
      rw [HN.out] at ho4
      clear hg4 hat4
      go_wp2
      go_ret
      exact ⟨v4, rfl, OSF.mk_ ho4, hb4⟩

end Go.Proofs.YtkbhbccpmmhelaaDoor

namespace Go.Proofs.YtkbhbccpmmhelaaDoor
open Go.RowKit
set_option linter.unusedVariables false

set_option maxHeartbeats 400000 in
theorem sCut_c {w : World} (s : ByteArray) (hs : s.size ≤ 1048576) : Calls Tryd.prog 47 #[.string s] w (NewT w (splitL s 32)) := by
  go_enter Tryd.func47, Tryd.ntmps47
  go_wp2_with fail
  refine (sSplit_any s 32 w (by omega) (by omega)).mono ?_
  rintro e w1 ⟨v, rfl, ho, hb⟩
  go_wp2
  go_ret
  exact ⟨v, rfl, ho, hb⟩

set_option maxHeartbeats 400000 in
theorem iCut_c {w : World} (s : ByteArray) (hs : s.size ≤ 1048576) : Calls Tryd.prog 25 #[.string s] w (NewT w (splitL s 32)) := by
  go_enter Tryd.func25, Tryd.ntmps25
  go_wp2_with fail
  refine (iSplit_any s 32 w (by omega) (by omega)).mono ?_
  rintro e w1 ⟨v, rfl, ho, hb⟩
  go_wp2
  go_ret
  exact ⟨v, rfl, ho, hb⟩

/-- the lines: an empty last piece is left out -/
def linesL (s : ByteArray) : List ByteArray := if (splitL s 10).getD ((splitL s 10).length - 1) ByteArray.empty = ByteArray.empty then (splitL s 10).dropLast else splitL s 10

theorem linesL_len (s : ByteArray) : (linesL s).length ≤ s.size + 1 := by
  have := splitL_len s 10
  unfold linesL
  split
  · rw [List.length_dropLast]; omega
  · exact this

theorem own_pop {w : World} {lo hi : Nat} {e : TypeId} {g n c : Nat} {xs : List ByteArray} (h : OSF Value.string e w lo hi (.slice (some ⟨g, 0, none⟩) n c) xs) (hx : xs ≠ []) :
    OSF Value.string e w lo hi (.slice (some ⟨g, 0, none⟩) (xs.length - 1) c) xs.dropLast := by
  obtain rfl := h.1.len
  obtain ⟨m, hm⟩ : ∃ m, xs.length = m + 1 := ⟨xs.length - 1, by have := List.length_pos_iff.2 hx; omega⟩
  have e1 : xs.dropLast.map Value.string ++ [Value.string (xs.getLast hx)] = xs.map Value.string := by
    conv => rhs; rw [← List.dropLast_concat_getLast hx]
    rw [List.map_append]; rfl
  have h1 := h.1
  unfold OwnF at h1
  rw [hm, ← e1] at h1
  have h2 := ownsRow_pop (by rw [List.length_map, List.length_dropLast, hm]; omega) h1
  refine ⟨?_, h.2.1, h.2.2⟩
  unfold OwnF
  rw [List.length_dropLast, hm, Nat.add_sub_cancel]
  exact h2

theorem own_slice {w : World} {lo hi : Nat} {e : TypeId} {v : Value} {xs : List ByteArray} (h : OSF Value.string e w lo hi v xs) (hx : xs ≠ []) : ∃ g c, v = .slice (some ⟨g, 0, none⟩) xs.length c ∧ xs.length ≤ c ∧ c ≤ maxLen := by
  have hl := List.length_pos_iff.2 hx
  rcases h.1.2 with ⟨rfl, h0⟩ | ⟨g, cap, cur, rfl, _, _, hn, hm, _⟩
  · omega
  · exact ⟨g, cap, rfl, hn, hm⟩

theorem str_empty (s : ByteArray) : (s.toList == []) = decide (s = ByteArray.empty) := by
  have := str_same s ByteArray.empty
  rw [show ByteArray.empty.toList = [] from by rw [ByteArray.toList_eq]; rfl] at this
  exact this

end Go.Proofs.YtkbhbccpmmhelaaDoor

namespace Go.Proofs.YtkbhbccpmmhelaaDoor
open Go.RowKit
set_option linter.unusedVariables false

theorem rd_six (w : World) (t : TypeId) : Rd .i64 (w.alloc (.cells #[.int .i64 0, .int .i64 0, .int .i64 0, .int .i64 0, .int .i64 0, .int .i64 0] t)) (w.alloc (.cells #[.int .i64 0, .int .i64 0, .int .i64 0, .int .i64 0, .int .i64 0, .int .i64 0] t)).heap.size (some ⟨w.heap.size, 0, none⟩) [0, 0, 0, 0, 0, 0] := by
  intro hp
  obtain ⟨w1, e, s, h, x⟩ := alloc_step w t [.int .i64 0, .int .i64 0, .int .i64 0, .int .i64 0, .int .i64 0, .int .i64 0]
  refine ⟨w.heap.size, 0, rfl, by simp, ?_⟩
  intro j hj
  have hj6 : j < 6 := hj
  replace e : w.alloc (.cells #[.int .i64 0, .int .i64 0, .int .i64 0, .int .i64 0, .int .i64 0, .int .i64 0] t) = w1 := e
  rw [e]
  have h6 : j = 0 ∨ j = 1 ∨ j = 2 ∨ j = 3 ∨ j = 4 ∨ j = 5 := by omega
  rcases h6 with rfl | rfl | rfl | rfl | rfl | rfl
  · exact x.cell (i := 0) rfl
  · exact x.cell (i := 1) rfl
  · exact x.cell (i := 2) rfl
  · exact x.cell (i := 3) rfl
  · exact x.cell (i := 4) rfl
  · exact x.cell (i := 5) rfl

set_option maxRecDepth 100000 in
set_option maxHeartbeats 4000000 in
theorem sNumsOf_c {w : World} {v : Value} {ws : List ByteArray} {q : Nat} (h : RSF Value.string ByteArray.empty w v ws) (hq : q ≤ 1000) (hz : ∀ x ∈ ws, x.size ≤ 1048576) (hm : ws.length ≤ 16777216) : Calls Tryd.prog 48 #[v, .int .i64 q] w (NewS .i64 3 w (numsOf ws q)) := by
  obtain ⟨A, c, rfl, h1, h2, hr⟩ := h
  obtain ⟨i0, hi, hz0, hz1, hz2⟩ := info_parts Tryd.info_i64
  have hb0 : Below w.heap.size w (w.alloc (.cells #[] 3)) := (Below.refl _ _).alloc (Nat.le_refl _) _
  have ho : Own .i64 (w.alloc (.cells #[] 3)) w.heap.size 3 (.slice (some ⟨w.heap.size, 0, none⟩) 0 0) [] := own_none .i64 w w.heap.size 3 (Nat.le_refl _)
  go_enter Tryd.func48, Tryd.ntmps48
  go_wp2
  go_loopw [5, 6] (fun s5 j wr => ∃ (k : Nat) (g : List Int), q ≤ k ∧ (k ≤ ws.length ∨ k = q) ∧ j = .int .i64 k ∧ Hid (g = ((ws.drop q).take (k - q)).map txN) ∧ g.length ≤ k ∧ Own .i64 wr w.heap.size 3 s5 g ∧ Below w.heap.size w wr) (fun _ j _ => ws.length - (intOf j).toNat)
  case atStart => exact ⟨q, [], Nat.le_refl _, .inr rfl, rfl, by show _ = _; simp, Nat.zero_le _, ho, hb0⟩
  case round =>
    clear ho hb0
    obtain ⟨k, g, hqk, hk, rfl, HG, lg, hown, hbr⟩ := hrel
    have hsz := hbr.size
    by_cases hlt : k < ws.length
    case neg =>
      have hk2 : ¬ ((k : Int) < (ws.length : Int)) := by omega
      have HO : Hid (numsOf ws q = g ++ [0, 0, 0, 0, 0, 0]) := by
        show _ = _
        unfold numsOf
        rw [HG.out, List.take_of_length_le (by simp; omega)]
      go_wp2_with (at_builtin; refine wpl_appI _ .i64 rfl (.tmp 29) (.tmp 30) 81 rfl w.heap.size 3 i0 8 Tryd.underlying81 hi hz0 hz1 hz2 _ g rfl (hown.alloc_ _) _ _ _ 6 [0, 0, 0, 0, 0, 0] rfl rfl (rd_six _ _) ?d1 (by omega) ?d2 ?_)
      case d1 => omega
      case d2 => first | omega | (simp; omega)
      intro v4 w4 ho4 hg4 hat4
      have hb6 : Below w.heap.size w w4 := grown_below (hbr.alloc hbr.size _) (hown.alloc_ _) hg4 (Nat.le_refl _) (by simp; omega)
      clear hg4 hat4 hown
      go_wp2
      go_ret
      rw [HO.out]
      exact ⟨_, rfl, OS.mk_ ho4, hb6⟩
    obtain ⟨b, off, rfl, hb, e0⟩ := hr.at_ hlt
    have e1 : wr.cell? ⟨b, off + k, none⟩ = some (Value.string (ws.getD k ByteArray.empty)) := (hbr.cell (p := ⟨b, off + k, none⟩) hb).trans e0
    have hbw : b < wr.heap.size := by omega
    have zx := getD_sz hz k
    obtain ⟨x, hx⟩ : ∃ x, ws.getD k ByteArray.empty = x := ⟨_, rfl⟩
    rw [hx] at e1 zx
    have i1 : (k : Int) < (ws.length : Int) := by omega
    have H2 : Hid (g ++ [txN x] = ((ws.drop q).take (k + 1 - q)).map txN) := by
      show _ = _
      have hd : k - q < (ws.drop q).length := by simp; omega
      rw [show k + 1 - q = k - q + 1 by omega, List.take_succ_eq_append_getElem hd, List.map_append, HG.out, List.getElem_drop]
      have hx2 : ws[q + (k - q)]'(by omega) = x := by
        rw [← hx]
        simp [show q + (k - q) = k by omega, hlt]
      rw [hx2]
      rfl
    clear e0 hx
    go_wp2_with fail
    refine (sTextNum_any x _ (by omega)).mono ?_
    rintro e w1 ⟨rfl, h_w1⟩
    rw [textVal_txN]
    have B_w1 := hbr.trans (h_w1.mono hbr.size)
    have s_w1 := h_w1.size
    have hown1 := hown.below h_w1 (Nat.le_refl _)
    obtain ⟨n, hn⟩ : ∃ n, txN x = n := ⟨_, rfl⟩
    rw [hn] at H2 ⊢
    clear hn hown
    go_wp2_with (at_builtin; refine wpl_appI _ .i64 rfl (.tmp 25) (.tmp 27) 81 rfl w.heap.size 3 i0 8 Tryd.underlying81 hi hz0 hz1 hz2 _ g rfl (hown1.alloc_ _) _ _ _ 1 [n] rfl rfl (rd_one _ _ _ _) ?f1 (by omega) ?f2 ?_)
    case f1 => omega
    case f2 => first | omega | (simp; omega)
    intro v4 w4 ho4 hg4 hat4
    have hb6 : Below w.heap.size w w4 := grown_below (B_w1.alloc B_w1.size _) (hown1.alloc_ _) hg4 (Nat.le_refl _) (by simp; omega)
    clear hg4 hat4 hown1
    go_wp2
    go_roundw
    case rel => exact ⟨k + 1, g ++ [n], by omega, .inl (by omega), by go_num, H2, by simp; omega, ho4, hb6⟩
    case measure => simp [intOf]; omega

theorem Chg.cell_at {a b : Nat} {w w' : World} {p : Addr} (h : Chg a b w w') (h1 : p.block < w.heap.size) (h2 : p.block < a ∨ b ≤ p.block) : w'.cell? p = w.cell? p := by
  unfold World.cell?
  rw [h.block _ h1 h2]
theorem own_slice64 {w : World} {lo hi : Nat} {e : TypeId} {v : Value} {xs : List Int} (h : OS .i64 e w lo hi v xs) (hx : 0 < xs.length) : ∃ g c, v = .slice (some ⟨g, 0, none⟩) xs.length c := by
  rcases h.1.2 with ⟨rfl, h0⟩ | ⟨g, cap, cur, rfl, _⟩
  · omega
  · exact ⟨g, cap, rfl⟩
theorem mkindTo_at (x : ByteArray) {k : Nat} (h : 1 ≤ k) : mkindTo x k = if msgName (k : Int) = x then (k : Int) else mkindTo x (k - 1) := by
  obtain ⟨j, rfl⟩ : ∃ j, k = j + 1 := ⟨k - 1, by omega⟩
  rfl
theorem beq_str (s s' : ByteArray) : (s.toList == s'.toList) = decide (s = s') := str_same s s'

set_option maxRecDepth 100000 in
set_option maxHeartbeats 4000000 in
theorem sMsgOf_c {w : World} {v : Value} {ws : List ByteArray} {q : Nat} (h : RSF Value.string ByteArray.empty w v ws) (hq : q ≤ 900) (hz : ∀ x ∈ ws, x.size ≤ 1048576) (hm : ws.length ≤ 16777216) : Calls Tryd.prog 49 #[v, .int .i64 q] w (NewV msgL w (msgOf ws q)) := by
  have h0 := h
  obtain ⟨A, c, rfl, h1, h2, hr⟩ := h0
  obtain ⟨wa, hwa, B0, sa, x_r⟩ := frame1 w 24 [.int .i64 0, .int .i64 0, .int .i64 0, .int .i64 0]
  have sa_1 := Nat.le_of_eq sa
  have sa_2 := Nat.le_of_eq sa.symm
  clear sa
  have c_r_0_wa := x_r.cell (i := 0) rfl
  have f_r_0_wa := x_r.frozen 0
  have c_r_1_wa := x_r.cell (i := 1) rfl
  have f_r_1_wa := x_r.frozen 1
  have c_r_2_wa := x_r.cell (i := 2) rfl
  have f_r_2_wa := x_r.frozen 2
  have c_r_3_wa := x_r.cell (i := 3) rfl
  have f_r_3_wa := x_r.frozen 3
  obtain ⟨w1, e_w1, s_w1, h_w1, x_m⟩ := alloc_step wa 24 [.int .i64 0, .int .i64 0, .int .i64 0, .int .i64 0]
  have s_w1_1 := Nat.le_of_eq s_w1
  have s_w1_2 := Nat.le_of_eq s_w1.symm
  clear s_w1
  replace x_r := x_r.from_ h_w1
  have B_w1 := B0.trans (h_w1.mono B0.size)
  have i_w1_3 := x_m.same (i := 3) rfl
  have i_w1_2 := x_m.same (i := 2) rfl
  have i_w1_1 := x_m.same (i := 1) rfl
  have i_w1_0 := x_m.same (i := 0) rfl
  have c_r_0_w1 := x_r.cell (i := 0) rfl
  have f_r_0_w1 := x_r.frozen 0
  have c_r_1_w1 := x_r.cell (i := 1) rfl
  have f_r_1_w1 := x_r.frozen 1
  have c_r_2_w1 := x_r.cell (i := 2) rfl
  have f_r_2_w1 := x_r.frozen 2
  have c_r_3_w1 := x_r.cell (i := 3) rfl
  have f_r_3_w1 := x_r.frozen 3
  have c_m_0_w1 := x_m.cell (i := 0) rfl
  have f_m_0_w1 := x_m.frozen 0
  have c_m_1_w1 := x_m.cell (i := 1) rfl
  have f_m_1_w1 := x_m.frozen 1
  have c_m_2_w1 := x_m.cell (i := 2) rfl
  have f_m_2_w1 := x_m.frozen 2
  have c_m_3_w1 := x_m.cell (i := 3) rfl
  have f_m_3_w1 := x_m.frozen 3
  by_cases hl : ws.length ≤ q
  case pos =>
    have i1 : (ws.length : Int) ≤ (q : Int) := by omega
    have HP : Hid (msgOf ws q = ⟨0, 0, 0, 0⟩) := by show _ = _; unfold msgOf; rw [if_pos hl]
    have i_r_0 := x_r.same (i := 0) rfl
    have i_r_1 := x_r.same (i := 1) rfl
    have i_r_2 := x_r.same (i := 2) rfl
    have i_r_3 := x_r.same (i := 3) rfl
    go_enter Tryd.func49, Tryd.ntmps49
    go_wp2
    refine ret_cell (by rfl) (by rfl) x_r Tryd.underlying24 sz_msg (by rfl) ?_
    rw [HP.out]
    exact ⟨_, rfl, ov_msg (d := ⟨0, 0, 0, 0⟩) (Nat.le_refl _), B_w1⟩
  have i1 : ¬ (ws.length : Int) ≤ (q : Int) := by omega
  have hlt : q < ws.length := by omega
  obtain ⟨b, off, rfl, hb, e0⟩ := hr.at_ hlt
  obtain ⟨x, hx⟩ : ∃ x, ws.getD q ByteArray.empty = x := ⟨_, rfl⟩
  rw [hx] at e0
  have HP : Hid (msgOf ws q = ⟨mkindTo x 5, (numsOf ws (q + 1)).getD 0 0, (numsOf ws (q + 1)).getD 1 0, (numsOf ws (q + 1)).getD 2 0⟩) := by show _ = _; unfold msgOf; rw [if_neg hl, hx]
  clear hx hl
  go_enter Tryd.func49, Tryd.ntmps49
  go_wp2
  go_loopw [6] (fun j wr => ∃ k : Nat, 1 ≤ k ∧ k ≤ 6 ∧ j = .int .i64 k ∧ Vr wr (wa.heap.size) 24 [.int .i64 (mkindTo x (k - 1)), .int .i64 0, .int .i64 0, .int .i64 0] ∧ Vr wr (w.heap.size) 24 [.int .i64 0, .int .i64 0, .int .i64 0, .int .i64 0] ∧ Below w.heap.size w wr) (fun j _ => 6 - (intOf j).toNat)
  case atStart => exact ⟨1, by omega, by omega, rfl, x_m, x_r, B_w1⟩
  case round =>
    clear c_r_0_wa f_r_0_wa c_r_1_wa f_r_1_wa c_r_2_wa f_r_2_wa c_r_3_wa f_r_3_wa i_w1_3 i_w1_2 i_w1_1 i_w1_0 c_r_0_w1 f_r_0_w1 c_r_1_w1 f_r_1_w1 c_r_2_w1 f_r_2_w1 c_r_3_w1 f_r_3_w1 c_m_0_w1 f_m_0_w1 c_m_1_w1 f_m_1_w1 c_m_2_w1 f_m_2_w1 c_m_3_w1 f_m_3_w1
    clear x_m x_r
    obtain ⟨k, hk1, hk, rfl, x_m, x_r, HB⟩ := hrel
    have hs := HB.size
    have hsm := x_m.lt
    have hsr := x_r.lt
    have e1 : wr.cell? ⟨b, off + q, none⟩ = some (Value.string x) := (HB.cell (p := ⟨b, off + q, none⟩) hb).trans e0
    have hbw : b < wr.heap.size := by omega
    by_cases hk5 : k = 6
    case pos =>
      subst hk5
      have i2 : ¬ ((6 : Nat) : Int) ≤ 5 := by omega
      replace x_m : Vr wr (wa.heap.size) 24 [.int .i64 (mkindTo x 5), .int .i64 0, .int .i64 0, .int .i64 0] := x_m
      have c_m_0_wr := x_m.cell (i := 0) rfl
      have f_m_0_wr := x_m.frozen 0
      have c_m_1_wr := x_m.cell (i := 1) rfl
      have f_m_1_wr := x_m.frozen 1
      have c_m_2_wr := x_m.cell (i := 2) rfl
      have f_m_2_wr := x_m.frozen 2
      have c_m_3_wr := x_m.cell (i := 3) rfl
      have f_m_3_wr := x_m.frozen 3
      have c_r_0_wr := x_r.cell (i := 0) rfl
      have f_r_0_wr := x_r.frozen 0
      have c_r_1_wr := x_r.cell (i := 1) rfl
      have f_r_1_wr := x_r.frozen 1
      have c_r_2_wr := x_r.cell (i := 2) rfl
      have f_r_2_wr := x_r.frozen 2
      have c_r_3_wr := x_r.cell (i := 3) rfl
      have f_r_3_wr := x_r.frozen 3
      obtain ⟨kk, hkk⟩ : ∃ z, mkindTo x 5 = z := ⟨_, rfl⟩
      have HKK := Lib.hid hkk
      rw [hkk] at x_m c_m_0_wr
      clear hkk
      obtain ⟨L, hL⟩ : ∃ L, numsOf ws (q + 1) = L := ⟨_, rfl⟩
      have lL := numsOf_len ws (q + 1)
      rw [hL] at lL
      have HL := Lib.hid hL
      clear hL
      have aq : IntKind.i64.wrap ((q : Int) + 1) = ((q + 1 : Nat) : Int) := by rw [IntWalk.i64_in _ (by omega)]; omega
      go_wp2_with fail
      refine (sNumsOf_c (q := q + 1) (h.from_ HB) (by omega) hz hm).mono ?_
      rintro e w2 ⟨vL, rfl, o_L, h_w2⟩
      clear c_m_0_wr f_m_0_wr c_m_1_wr f_m_1_wr c_m_2_wr f_m_2_wr c_m_3_wr f_m_3_wr c_r_0_wr f_r_0_wr c_r_1_wr f_r_1_wr c_r_2_wr f_r_2_wr c_r_3_wr f_r_3_wr
      replace x_r := x_r.from_ h_w2
      replace x_m := x_m.from_ h_w2
      have B_w2 := HB.trans (h_w2.mono HB.size)
      have s_w2 := h_w2.size
      rw [HL.out] at o_L
      clear e1
      obtain ⟨bL, cL, rfl⟩ := own_slice64 o_L (by omega)
      obtain ⟨hbl0, hbL⟩ := o_L.1.base_le
      have j0 : (0 : Int) < (L.length : Int) := by omega
      have j1 : (1 : Int) < (L.length : Int) := by omega
      have j2 : (2 : Int) < (L.length : Int) := by omega
      have d0 := o_L.1.cell_ (j := 0) (by omega)
      have d1 := o_L.1.cell_ (j := 1) (by omega)
      have d2 := o_L.1.cell_ (j := 2) (by omega)
      obtain ⟨l0, hl0⟩ : ∃ z, L.getD 0 0 = z := ⟨_, rfl⟩
      rw [hl0] at d0
      have HL0 := Lib.hid hl0
      clear hl0
      obtain ⟨l1, hl1⟩ : ∃ z, L.getD 1 0 = z := ⟨_, rfl⟩
      rw [hl1] at d1
      have HL1 := Lib.hid hl1
      clear hl1
      obtain ⟨l2, hl2⟩ : ∃ z, L.getD 2 0 = z := ⟨_, rfl⟩
      rw [hl2] at d2
      have HL2 := Lib.hid hl2
      clear hl2
      have lm := x_m.lt
      have lr := x_r.lt
      have c_m_0_w2 := x_m.cell (i := 0) rfl
      have f_m_0_w2 := x_m.frozen 0
      have c_m_1_w2 := x_m.cell (i := 1) rfl
      have f_m_1_w2 := x_m.frozen 1
      have c_m_2_w2 := x_m.cell (i := 2) rfl
      have f_m_2_w2 := x_m.frozen 2
      have c_m_3_w2 := x_m.cell (i := 3) rfl
      have f_m_3_w2 := x_m.frozen 3
      have c_r_0_w2 := x_r.cell (i := 0) rfl
      have f_r_0_w2 := x_r.frozen 0
      have c_r_1_w2 := x_r.cell (i := 1) rfl
      have f_r_1_w2 := x_r.frozen 1
      have c_r_2_w2 := x_r.cell (i := 2) rfl
      have f_r_2_w2 := x_r.frozen 2
      have c_r_3_w2 := x_r.cell (i := 3) rfl
      have f_r_3_w2 := x_r.frozen 3
      obtain ⟨w3, e_w3, s_w3, h_w3, y⟩ := set_step x_m 1 (.int .i64 l0)
      have s_w3_1 := Nat.le_of_eq s_w3
      have s_w3_2 := Nat.le_of_eq s_w3.symm
      clear s_w3
      replace x_r := x_r.chg h_w3 (by omega)
      replace o_L := o_L.chg h_w3 (by omega)
      have B_w3 := Below.chg_ B_w2 h_w3 (by omega) (by omega)
      replace x_m : Vr w3 (wa.heap.size) 24 [.int .i64 kk, .int .i64 l0, .int .i64 0, .int .i64 0] := y
      clear y
      have c_m_0_w3 := x_m.cell (i := 0) rfl
      have f_m_0_w3 := x_m.frozen 0
      have c_m_1_w3 := x_m.cell (i := 1) rfl
      have f_m_1_w3 := x_m.frozen 1
      have c_m_2_w3 := x_m.cell (i := 2) rfl
      have f_m_2_w3 := x_m.frozen 2
      have c_m_3_w3 := x_m.cell (i := 3) rfl
      have f_m_3_w3 := x_m.frozen 3
      have c_r_0_w3 := x_r.cell (i := 0) rfl
      have f_r_0_w3 := x_r.frozen 0
      have c_r_1_w3 := x_r.cell (i := 1) rfl
      have f_r_1_w3 := x_r.frozen 1
      have c_r_2_w3 := x_r.cell (i := 2) rfl
      have f_r_2_w3 := x_r.frozen 2
      have c_r_3_w3 := x_r.cell (i := 3) rfl
      have f_r_3_w3 := x_r.frozen 3
      replace d1 := (h_w3.cell_at (p := ⟨bL, 1, none⟩) (by show bL < _; omega) (by show bL < _ ∨ _ ≤ bL; omega)).trans d1
      replace d2 := (h_w3.cell_at (p := ⟨bL, 2, none⟩) (by show bL < _; omega) (by show bL < _ ∨ _ ≤ bL; omega)).trans d2
      obtain ⟨w4, e_w4, s_w4, h_w4, y⟩ := set_step x_m 2 (.int .i64 l1)
      have s_w4_1 := Nat.le_of_eq s_w4
      have s_w4_2 := Nat.le_of_eq s_w4.symm
      clear s_w4
      replace x_r := x_r.chg h_w4 (by omega)
      replace o_L := o_L.chg h_w4 (by omega)
      have B_w4 := Below.chg_ B_w3 h_w4 (by omega) (by omega)
      replace x_m : Vr w4 (wa.heap.size) 24 [.int .i64 kk, .int .i64 l0, .int .i64 l1, .int .i64 0] := y
      clear y
      have c_m_0_w4 := x_m.cell (i := 0) rfl
      have f_m_0_w4 := x_m.frozen 0
      have c_m_1_w4 := x_m.cell (i := 1) rfl
      have f_m_1_w4 := x_m.frozen 1
      have c_m_2_w4 := x_m.cell (i := 2) rfl
      have f_m_2_w4 := x_m.frozen 2
      have c_m_3_w4 := x_m.cell (i := 3) rfl
      have f_m_3_w4 := x_m.frozen 3
      have c_r_0_w4 := x_r.cell (i := 0) rfl
      have f_r_0_w4 := x_r.frozen 0
      have c_r_1_w4 := x_r.cell (i := 1) rfl
      have f_r_1_w4 := x_r.frozen 1
      have c_r_2_w4 := x_r.cell (i := 2) rfl
      have f_r_2_w4 := x_r.frozen 2
      have c_r_3_w4 := x_r.cell (i := 3) rfl
      have f_r_3_w4 := x_r.frozen 3
      replace d2 := (h_w4.cell_at (p := ⟨bL, 2, none⟩) (by show bL < _; omega) (by show bL < _ ∨ _ ≤ bL; omega)).trans d2
      obtain ⟨w5, e_w5, s_w5, h_w5, y⟩ := set_step x_m 3 (.int .i64 l2)
      have s_w5_1 := Nat.le_of_eq s_w5
      have s_w5_2 := Nat.le_of_eq s_w5.symm
      clear s_w5
      replace x_r := x_r.chg h_w5 (by omega)
      replace o_L := o_L.chg h_w5 (by omega)
      have B_w5 := Below.chg_ B_w4 h_w5 (by omega) (by omega)
      replace x_m : Vr w5 (wa.heap.size) 24 [.int .i64 kk, .int .i64 l0, .int .i64 l1, .int .i64 l2] := y
      clear y
      have c_m_0_w5 := x_m.cell (i := 0) rfl
      have f_m_0_w5 := x_m.frozen 0
      have c_m_1_w5 := x_m.cell (i := 1) rfl
      have f_m_1_w5 := x_m.frozen 1
      have c_m_2_w5 := x_m.cell (i := 2) rfl
      have f_m_2_w5 := x_m.frozen 2
      have c_m_3_w5 := x_m.cell (i := 3) rfl
      have f_m_3_w5 := x_m.frozen 3
      have c_r_0_w5 := x_r.cell (i := 0) rfl
      have f_r_0_w5 := x_r.frozen 0
      have c_r_1_w5 := x_r.cell (i := 1) rfl
      have f_r_1_w5 := x_r.frozen 1
      have c_r_2_w5 := x_r.cell (i := 2) rfl
      have f_r_2_w5 := x_r.frozen 2
      have c_r_3_w5 := x_r.cell (i := 3) rfl
      have f_r_3_w5 := x_r.frozen 3
      obtain ⟨w6, e_w6, s_w6, h_w6, y⟩ := store_step x_r [.int .i64 kk, .int .i64 l0, .int .i64 l1, .int .i64 l2] rfl
      replace e_w6 : ((((w5.setCell ⟨w.heap.size, 0, none⟩ (.int .i64 kk)).setCell ⟨w.heap.size, 1, none⟩ (.int .i64 l0)).setCell ⟨w.heap.size, 2, none⟩ (.int .i64 l1)).setCell ⟨w.heap.size, 3, none⟩ (.int .i64 l2)) = w6 := e_w6
      have s_w6_1 := Nat.le_of_eq s_w6
      have s_w6_2 := Nat.le_of_eq s_w6.symm
      clear s_w6
      replace x_m := x_m.chg h_w6 (by omega)
      replace o_L := o_L.chg h_w6 (by omega)
      have B_w6 := Below.chg_ B_w5 h_w6 (by omega) (by omega)
      replace x_r : Vr w6 (w.heap.size) 24 [.int .i64 kk, .int .i64 l0, .int .i64 l1, .int .i64 l2] := y
      clear y
      have c_r_0_w6 := x_r.cell (i := 0) rfl
      have f_r_0_w6 := x_r.frozen 0
      have c_r_1_w6 := x_r.cell (i := 1) rfl
      have f_r_1_w6 := x_r.frozen 1
      have c_r_2_w6 := x_r.cell (i := 2) rfl
      have f_r_2_w6 := x_r.frozen 2
      have c_r_3_w6 := x_r.cell (i := 3) rfl
      have f_r_3_w6 := x_r.frozen 3
      go_wp2
      refine ret_cell (by rfl) (by rfl) x_r Tryd.underlying24 sz_msg (by rfl) ?_
      rw [HP.out, HL.out, HL0.out, HL1.out, HL2.out, HKK.out]
      exact ⟨_, rfl, ov_msg (d := ⟨kk, l0, l1, l2⟩) (Nat.le_refl _), B_w6⟩
    have hk4 : k < 6 := by omega
    have i2 : (k : Int) ≤ 5 := by omega
    obtain ⟨kk, hkk⟩ : ∃ z, mkindTo x (k - 1) = z := ⟨_, rfl⟩
    rw [hkk] at x_m
    obtain ⟨nm, hnm⟩ : ∃ z, msgName (k : Int) = z := ⟨_, rfl⟩
    have HNM := Lib.hid hnm
    by_cases hnx : nm = x
    case pos =>
      have HK : Hid (mkindTo x (k + 1 - 1) = (k : Int)) := by show _ = _; rw [Nat.add_sub_cancel, mkindTo_at x hk1, hnm]; rw [if_pos hnx]
      have hc : (nm.toList == x.toList) = true := by rw [beq_str]; exact decide_eq_true hnx
      clear hnx hkk hnm
      have c_m_0_wr := x_m.cell (i := 0) rfl
      have f_m_0_wr := x_m.frozen 0
      have c_m_1_wr := x_m.cell (i := 1) rfl
      have f_m_1_wr := x_m.frozen 1
      have c_m_2_wr := x_m.cell (i := 2) rfl
      have f_m_2_wr := x_m.frozen 2
      have c_m_3_wr := x_m.cell (i := 3) rfl
      have f_m_3_wr := x_m.frozen 3
      have c_r_0_wr := x_r.cell (i := 0) rfl
      have f_r_0_wr := x_r.frozen 0
      have c_r_1_wr := x_r.cell (i := 1) rfl
      have f_r_1_wr := x_r.frozen 1
      have c_r_2_wr := x_r.cell (i := 2) rfl
      have f_r_2_wr := x_r.frozen 2
      have c_r_3_wr := x_r.cell (i := 3) rfl
      have f_r_3_wr := x_r.frozen 3
      go_wp2_with fail
      go_region_held3 (fun w' => w'.cell? ⟨b, off + q, none⟩ = some (Value.string x))
        (first | exact e1 | exact (kp1 _ hbw).trans e1)
        (first | (go_at_call 73; refine (sMsgName_c _ _).mono ?_; rintro e w1 ⟨rfl, hd1⟩; rw [HNM.out]; have hb1 : Below wr.heap.size wr w1 := (Below.refl wr.heap.size wr).drew.trans hd1; have kp1 : ∀ p : Addr, p.block < wr.heap.size → w1.cell? p = wr.cell? p := (fun p hp => hd1.cell hp)) | fail)
      clear c_m_0_wr f_m_0_wr c_m_1_wr f_m_1_wr c_m_2_wr f_m_2_wr c_m_3_wr f_m_3_wr c_r_0_wr f_r_0_wr c_r_1_wr f_r_1_wr c_r_2_wr f_r_2_wr c_r_3_wr f_r_3_wr
      clear kp1 hd1 e1
      replace x_m := x_m.from_ hb1
      replace x_r := x_r.from_ hb1
      have HB1 := HB.trans (hb1.mono HB.size)
      have s_w1 := hb1.size
      have c_m_0_w1 := x_m.cell (i := 0) rfl
      have f_m_0_w1 := x_m.frozen 0
      have c_m_1_w1 := x_m.cell (i := 1) rfl
      have f_m_1_w1 := x_m.frozen 1
      have c_m_2_w1 := x_m.cell (i := 2) rfl
      have f_m_2_w1 := x_m.frozen 2
      have c_m_3_w1 := x_m.cell (i := 3) rfl
      have f_m_3_w1 := x_m.frozen 3
      have c_r_0_w1 := x_r.cell (i := 0) rfl
      have f_r_0_w1 := x_r.frozen 0
      have c_r_1_w1 := x_r.cell (i := 1) rfl
      have f_r_1_w1 := x_r.frozen 1
      have c_r_2_w1 := x_r.cell (i := 2) rfl
      have f_r_2_w1 := x_r.frozen 2
      have c_r_3_w1 := x_r.cell (i := 3) rfl
      have f_r_3_w1 := x_r.frozen 3
      obtain ⟨w2, e_w2, s_w2, h_w2, y⟩ := set_step x_m 0 (.int .i64 (k : Int))
      have s_w2_1 := Nat.le_of_eq s_w2
      have s_w2_2 := Nat.le_of_eq s_w2.symm
      clear s_w2
      replace x_r := x_r.chg h_w2 (by omega)
      have B_w2 := Below.chg_ HB1 h_w2 (by omega) (by omega)
      replace x_m : Vr w2 (wa.heap.size) 24 [.int .i64 (k : Int), .int .i64 0, .int .i64 0, .int .i64 0] := y
      clear y
      have c_m_0_w2 := x_m.cell (i := 0) rfl
      have f_m_0_w2 := x_m.frozen 0
      have c_m_1_w2 := x_m.cell (i := 1) rfl
      have f_m_1_w2 := x_m.frozen 1
      have c_m_2_w2 := x_m.cell (i := 2) rfl
      have f_m_2_w2 := x_m.frozen 2
      have c_m_3_w2 := x_m.cell (i := 3) rfl
      have f_m_3_w2 := x_m.frozen 3
      have c_r_0_w2 := x_r.cell (i := 0) rfl
      have f_r_0_w2 := x_r.frozen 0
      have c_r_1_w2 := x_r.cell (i := 1) rfl
      have f_r_1_w2 := x_r.frozen 1
      have c_r_2_w2 := x_r.cell (i := 2) rfl
      have f_r_2_w2 := x_r.frozen 2
      have c_r_3_w2 := x_r.cell (i := 3) rfl
      have f_r_3_w2 := x_r.frozen 3
      go_wp2
      go_roundw
      case rel => exact ⟨k + 1, by omega, by omega, by go_num, by rw [HK.out]; exact x_m, x_r, B_w2⟩
      case measure => simp [intOf]; omega
    case neg =>
      have HK : Hid (mkindTo x (k + 1 - 1) = kk) := by show _ = _; rw [Nat.add_sub_cancel, mkindTo_at x hk1, hnm]; rw [if_neg hnx]; exact hkk
      have hc : (nm.toList == x.toList) = false := by rw [beq_str]; exact decide_eq_false hnx
      clear hnx hkk hnm
      have c_m_0_wr := x_m.cell (i := 0) rfl
      have f_m_0_wr := x_m.frozen 0
      have c_m_1_wr := x_m.cell (i := 1) rfl
      have f_m_1_wr := x_m.frozen 1
      have c_m_2_wr := x_m.cell (i := 2) rfl
      have f_m_2_wr := x_m.frozen 2
      have c_m_3_wr := x_m.cell (i := 3) rfl
      have f_m_3_wr := x_m.frozen 3
      have c_r_0_wr := x_r.cell (i := 0) rfl
      have f_r_0_wr := x_r.frozen 0
      have c_r_1_wr := x_r.cell (i := 1) rfl
      have f_r_1_wr := x_r.frozen 1
      have c_r_2_wr := x_r.cell (i := 2) rfl
      have f_r_2_wr := x_r.frozen 2
      have c_r_3_wr := x_r.cell (i := 3) rfl
      have f_r_3_wr := x_r.frozen 3
      go_wp2_with fail
      go_region_held3 (fun w' => w'.cell? ⟨b, off + q, none⟩ = some (Value.string x))
        (first | exact e1 | exact (kp1 _ hbw).trans e1)
        (first | (go_at_call 73; refine (sMsgName_c _ _).mono ?_; rintro e w1 ⟨rfl, hd1⟩; rw [HNM.out]; have hb1 : Below wr.heap.size wr w1 := (Below.refl wr.heap.size wr).drew.trans hd1; have kp1 : ∀ p : Addr, p.block < wr.heap.size → w1.cell? p = wr.cell? p := (fun p hp => hd1.cell hp)) | fail)
      clear c_m_0_wr f_m_0_wr c_m_1_wr f_m_1_wr c_m_2_wr f_m_2_wr c_m_3_wr f_m_3_wr c_r_0_wr f_r_0_wr c_r_1_wr f_r_1_wr c_r_2_wr f_r_2_wr c_r_3_wr f_r_3_wr
      clear kp1 hd1 e1
      replace x_m := x_m.from_ hb1
      replace x_r := x_r.from_ hb1
      have HB1 := HB.trans (hb1.mono HB.size)
      have s_w1 := hb1.size
      have c_m_0_w1 := x_m.cell (i := 0) rfl
      have f_m_0_w1 := x_m.frozen 0
      have c_m_1_w1 := x_m.cell (i := 1) rfl
      have f_m_1_w1 := x_m.frozen 1
      have c_m_2_w1 := x_m.cell (i := 2) rfl
      have f_m_2_w1 := x_m.frozen 2
      have c_m_3_w1 := x_m.cell (i := 3) rfl
      have f_m_3_w1 := x_m.frozen 3
      have c_r_0_w1 := x_r.cell (i := 0) rfl
      have f_r_0_w1 := x_r.frozen 0
      have c_r_1_w1 := x_r.cell (i := 1) rfl
      have f_r_1_w1 := x_r.frozen 1
      have c_r_2_w1 := x_r.cell (i := 2) rfl
      have f_r_2_w1 := x_r.frozen 2
      have c_r_3_w1 := x_r.cell (i := 3) rfl
      have f_r_3_w1 := x_r.frozen 3
      go_wp2
      go_roundw
      case rel => exact ⟨k + 1, by omega, by omega, by go_num, by rw [HK.out]; exact x_m, x_r, HB1⟩
      case measure => simp [intOf]; omega

end Go.Proofs.YtkbhbccpmmhelaaDoor
