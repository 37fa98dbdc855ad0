/- Texts joined: Opens, OpensS, OpenL, OMsg, ORec. -/
import Derived.Test.YtkbhbccpmmhelaaBunA
import Derived.ChangeSlices
import Derived.Lib.SmallJoins
import Derived.Test.YtkbhbccpmmhelaaBunL
import Derived.Test.YtkbhbccpmmhelaaBunB

namespace Go.Proofs.Ytkbhbccpmmhelaa
open Go.RowKit Go.ChangeShapes Go.WideShapes

theorem rs_of_trod {H : Type} {enc : TypeId × Value → H} {P : Program} {w : World} {base : Nat} {spare : Nat → Bool} {held : Bool} {t e : TypeId} {k : IntKind} {fuel : Nat} {v : Value} {x : DataW H × List MemPlace}
    (ht : P.underlying t = some (.slice e)) (he : P.underlying e = some (.int k)) (hc : P.cellsOf e = 1) (h : DataW.trod enc P w base spare held fuel t [v] = some x) :
    ∃ zs, RS k w v zs ∧ ∀ n ∈ zs, (Lit.int k n).wf = true := by
  rcases open_ints ht he hc h with ⟨hcs, _⟩ | ⟨a, len, cap, zs, hcs, _, hl, hm, hz, _, hcell, hwz⟩
  · obtain rfl : v = .slice none 0 0 := by simpa using hcs
    exact ⟨[], ⟨none, 0, rfl, Nat.le_refl _, by unfold maxLen; omega, Rd.nil⟩, fun n hn => by cases hn⟩
  · obtain rfl : v = .slice (some a) len cap := by simpa using hcs
    have hlz : len ≤ zs.length := by rw [hz]; split <;> omega
    have hlen : (zs.take len).length = len := by rw [List.length_take]; omega
    refine ⟨zs.take len, ⟨some a, cap, by rw [hlen], by omega, hm, fun h0 => ?_⟩, fun n hn => hwz n (List.mem_of_mem_take hn)⟩
    obtain ⟨b, off, spot⟩ := a
    have hspot : spot = none := by simpa [Addr.add] using World.cell?_spot (hcell 0 (by omega))
    subst hspot
    refine ⟨b, off, rfl, ?_, fun j hj => ?_⟩
    · have := lt_of_cell (hcell 0 (by omega))
      simpa [Addr.add] using this
    · have hj2 : j < len := by omega
      have := hcell j (by omega)
      rw [add_mk] at this
      rw [this, List.getD_eq_getElem?_getD, List.getD_eq_getElem?_getD, List.getElem?_take, if_pos hj2]

theorem int_of_trod {H : Type} {enc : TypeId × Value → H} {P : Program} {w : World} {base : Nat} {spare : Nat → Bool} {held : Bool} {t : TypeId} {k : IntKind} {fuel : Nat} {v : Value} {x : DataW H × List MemPlace}
    (ht : P.underlying t = some (.int k)) (h : DataW.trod enc P w base spare held fuel t [v] = some x) : ∃ n, v = .int k n ∧ (Lit.int k n).wf = true := by
  obtain ⟨m, hv, -, hw⟩ := DataW.trod_int ht h
  exact ⟨m, by simpa using hv, hw⟩

theorem i64_of_wf {a : Int} (h : (Lit.int .i64 a).wf = true) : -9223372036854775808 ≤ a ∧ a ≤ 9223372036854775807 := by
  simpa [Lit.wf, IntKind.min, IntKind.max, IntKind.signed, IntKind.bits] using h

end Go.Proofs.Ytkbhbccpmmhelaa

namespace Go.Proofs.Ytkbhbccpmmhelaa
open Go.RowKit Go.ChangeShapes Go.WideShapes

theorem rv_slice_of_trod {α : Type} {L : Lay α} {Q : α → Prop} {H : Type} {enc : TypeId × Value → H} {P : Program} {w : World} {base : Nat} {spare : Nat → Bool} {held : Bool} {t e e' : TypeId} {n fuel : Nat} {v : Value} {x : DataW H × List MemPlace}
    (ht : P.underlying t = some (.slice e)) (hc : P.cellsOf e = n) (hn : 0 < n)
    (hE : ∀ m cs y, cs.length = n → DataW.trod enc P w base spare held m e cs = some y → ∃ z, L.rd w w.heap.size cs z ∧ Q z)
    (h : DataW.trod enc P w base spare held fuel t [v] = some x) : ∃ xs, RV (sliceL e' n L) w v xs ∧ ∀ z ∈ xs, Q z := by
  rcases DataW.trod_slice ht h with ⟨hcs, _⟩ | ⟨a, len, cap, elems, rest, m, _, hcs, _, hb, hl, hm, hlen, hel, -, -⟩
  · obtain rfl : v = .slice none 0 0 := by simpa using hcs
    exact ⟨[], ⟨[_], rfl, none, 0, rfl, Nat.le_refl _, by unfold maxLen; omega, fun _ => [], fun j x hx => by simp at hx, fun hp => by simp at hp⟩, fun z hz => by cases hz⟩
  · obtain rfl : v = .slice (some a) len cap := by simpa using hcs
    have each : ∀ i : Fin len, ∃ p : List Value × α, p.1.length = n ∧ L.rd w w.heap.size p.1 p.2 ∧ Q p.2 ∧ ∀ k, k < n → w.cell? ((a.add (i.1 * n)).add k) = p.1[k]? := by
      intro i
      have h1 := hel i.1 i.2
      rw [hc, List.getElem?_eq_getElem (by omega)] at h1
      obtain ⟨cs, h2, h3⟩ := Option.bind_eq_some_iff.1 h1
      obtain ⟨_, h4, h5⟩ := World.cells?_some h2
      obtain ⟨z, hz, hq⟩ := hE m cs _ h4 h3
      exact ⟨(cs, z), h4, hz, hq, h5⟩
    obtain ⟨f, hf⟩ := Classical.axiomOfChoice each
    have hl2 : (List.ofFn fun i => (f i).2).length = len := by simp
    refine ⟨List.ofFn fun i => (f i).2, ⟨[_], rfl, some a, cap, by rw [hl2], by omega, hm, fun j => if hj : j < len then (f ⟨j, hj⟩).1 else [], ?_, ?_⟩, ?_⟩
    · intro j z hz
      have hj := getElem?_lt hz
      rw [hl2] at hj
      obtain rfl : (f ⟨j, hj⟩).2 = z := by simpa [hj] using hz
      simp only [dif_pos hj]
      exact ⟨(hf ⟨j, hj⟩).1, (hf ⟨j, hj⟩).2.1⟩
    · intro hp
      rw [hl2] at hp
      obtain ⟨b, off, spot⟩ := a
      have h0 := (hf ⟨0, hp⟩).2.2.2 0 hn
      have hl0 := (hf ⟨0, hp⟩).1
      rw [List.getElem?_eq_getElem (by omega)] at h0
      have hspot : spot = none := by simpa [Addr.add] using World.cell?_spot h0
      subst hspot
      refine ⟨b, off, rfl, ?_, fun j i u hj hu => ?_⟩
      · have := lt_of_cell h0
        simpa [Addr.add] using this
      · rw [hl2] at hj
        simp only [dif_pos hj] at hu
        have hi : i < n := by have := getElem?_lt hu; rw [(hf ⟨j, hj⟩).1] at this; exact this
        have := (hf ⟨j, hj⟩).2.2.2 i hi
        rw [add_mk, add_mk, hu, Nat.add_assoc] at this
        exact this
    · intro z hz
      obtain ⟨i, hi⟩ := List.mem_ofFn.1 hz
      rw [← hi]
      exact (hf i).2.2.1

/-- a slice of slices of integers -/
theorem rss_of_trod {H : Type} {enc : TypeId × Value → H} {P : Program} {w : World} {base : Nat} {spare : Nat → Bool} {held : Bool} {t t1 e e' e1 : TypeId} {k : IntKind} {fuel : Nat} {v : Value} {x : DataW H × List MemPlace}
    (ht : P.underlying t = some (.slice t1)) (ht1 : P.underlying t1 = some (.slice e)) (hc1 : P.cellsOf t1 = 1) (he : P.underlying e = some (.int k)) (hc : P.cellsOf e = 1) (h : DataW.trod enc P w base spare held fuel t [v] = some x) :
    ∃ xs, RV (sliceL e' 1 (intsL k e1)) w v xs ∧ ∀ zs ∈ xs, ∀ n ∈ zs, (Lit.int k n).wf = true := by
  refine rv_slice_of_trod (Q := fun zs => ∀ n ∈ zs, (Lit.int k n).wf = true) ht hc1 (by omega) ?_ h
  intro m cs y hl hy
  match cs, hl with
  | [u], _ =>
    obtain ⟨zs, ⟨A, c, rfl, h1, h2, hr⟩, hw⟩ := rs_of_trod ht1 he hc hy
    exact ⟨zs, ⟨A, c, rfl, h1, h2, hr⟩, hw⟩

end Go.Proofs.Ytkbhbccpmmhelaa

namespace Go.Proofs.Ytkbhbccpmmhelaa
open Go.RowKit Go.ChangeShapes Go.WideShapes
set_option linter.unusedVariables false

/-- cells of the type t (n of them) that are read as data read by the layout L, and Q holds of what they read as -/
def Opn (P : Program) {α : Type} (L : Lay α) (Q : α → Prop) (t : TypeId) (n : Nat) : Prop :=
  ∀ (H : Type) (enc : TypeId × Value → H) (w : World) (base : Nat) (spare : Nat → Bool) (held : Bool) (m : Nat) (cs : List Value) (y : DataW H × List MemPlace),
    cs.length = n → DataW.trod enc P w base spare held m t cs = some y → ∃ z, L.rd w w.heap.size cs z ∧ Q z

/-- the fields fs, from the offset o on, n cells -/
def OpnF (P : Program) {α : Type} (L : Lay α) (Q : α → Prop) (fs : List Field) (o n : Nat) : Prop :=
  ∀ (H : Type) (enc : TypeId × Value → H) (w : World) (base : Nat) (spare : Nat → Bool) (held : Bool) (m : Nat) (cs : List Value),
    cs.length = o + n → (∀ (i : Nat) (f : Field), fs[i]? = some f → ∃ y, DataW.trod enc P w base spare held m f.type ((cs.drop f.offset).take (P.cellsOf f.type)) = some y) → ∃ z, L.rd w w.heap.size (cs.drop o) z ∧ Q z

section
variable {P : Program} {α β : Type} {L : Lay α} {M : Lay β} {Q : α → Prop} {R : β → Prop} {t e e' : TypeId} {n : Nat}

theorem opn_int {k : IntKind} (ht : P.underlying t = some (.int k)) : Opn P (intL k) (fun z => (Lit.int k z).wf = true) t 1 := by
  intro H enc w base spare held m cs y hl h
  obtain ⟨z, rfl, -, hw⟩ := DataW.trod_int ht h
  exact ⟨z, rfl, hw⟩
theorem opn_bool (ht : P.underlying t = some .bool) : Opn P boolL (fun _ => True) t 1 := by
  intro H enc w base spare held m cs y hl h
  obtain ⟨z, rfl, -⟩ := DataW.trod_bool ht h
  exact ⟨z, rfl, trivial⟩
theorem opn_string (ht : P.underlying t = some .string) : Opn P strL (fun z => z.size ≤ maxLen) t 1 := by
  intro H enc w base spare held m cs y hl h
  obtain ⟨z, hv, -, hw⟩ := DataW.trod_string ht h
  exact ⟨_, hv, hw⟩
theorem opn_ints {k : IntKind} (ht : P.underlying t = some (.slice e)) (he : P.underlying e = some (.int k)) (hc : P.cellsOf e = 1) : Opn P (intsL k e') (fun zs => ∀ z ∈ zs, (Lit.int k z).wf = true) t 1 := by
  intro H enc w base spare held m cs y hl h
  match cs, hl with
  | [v], _ =>
    obtain ⟨zs, ⟨A, c, rfl, h1, h2, hr⟩, hw⟩ := rs_of_trod ht he hc h
    exact ⟨zs, ⟨A, c, rfl, h1, h2, hr⟩, hw⟩
theorem opn_slice (ht : P.underlying t = some (.slice e)) (hc : P.cellsOf e = n) (hn : 0 < n) (hE : Opn P L Q e n) : Opn P (sliceL e' n L) (fun xs => ∀ z ∈ xs, Q z) t 1 := by
  intro H enc w base spare held m cs y hl h
  match cs, hl with
  | [v], _ =>
    obtain ⟨xs, ⟨cs2, he, hr⟩, hq⟩ := rv_slice_of_trod (e' := e') ht hc hn (fun m cs y hl hy => hE H enc w base spare held m cs y hl hy) h
    obtain ⟨A, c, rfl, h1, h2, hr2⟩ := hr
    have he2 : v = .slice A xs.length c := he
    subst he2
    exact ⟨xs, ⟨A, c, rfl, h1, h2, hr2⟩, hq⟩
theorem opn_iso {f : β → α} {g : α → β} (hfg : ∀ z, f (g z) = z) (h : Opn P L Q t n) : Opn P (isoL f L) (fun d => Q (f d)) t n := by
  intro H enc w base spare held m cs y hl hy
  obtain ⟨z, hz, hq⟩ := h H enc w base spare held m cs y hl hy
  exact ⟨g z, by show L.rd _ _ _ (f (g z)); rw [hfg]; exact hz, by show Q (f (g z)); rw [hfg]; exact hq⟩
theorem opn_imp {Q' : α → Prop} (h : Opn P L Q t n) (hq : ∀ z, Q z → Q' z) : Opn P L Q' t n := by
  intro H enc w base spare held m cs y hl hy
  obtain ⟨z, hz, hz2⟩ := h H enc w base spare held m cs y hl hy
  exact ⟨z, hz, hq z hz2⟩
theorem opnF_one {f : Field} {o : Nat} (ho : f.offset = o) (hc : P.cellsOf f.type = n) (h : Opn P L Q f.type n) : OpnF P L Q [f] o n := by
  intro H enc w base spare held m cs hl hf
  obtain ⟨y, hy⟩ := hf 0 f rfl
  rw [ho, hc, List.take_of_length_le (by rw [List.length_drop]; omega)] at hy
  exact h H enc w base spare held m _ y (by rw [List.length_drop]; omega) hy
theorem opnF_cons {f : Field} {fs : List Field} {o n2 : Nat} (ho : f.offset = o) (hc : P.cellsOf f.type = n) (h : Opn P L Q f.type n) (h2 : OpnF P M R fs (o + n) n2) : OpnF P (consL L M) (fun x => Q x.1 ∧ R x.2) (f :: fs) o (n + n2) := by
  intro H enc w base spare held m cs hl hf
  obtain ⟨y, hy⟩ := hf 0 f rfl
  rw [ho, hc] at hy
  obtain ⟨z, hz, hq⟩ := h H enc w base spare held m _ y (by rw [List.length_take, List.length_drop]; omega) hy
  obtain ⟨z2, hz2, hq2⟩ := h2 H enc w base spare held m cs (by omega) (fun i g hg => hf (i + 1) g (by simpa using hg))
  refine ⟨(z, z2), ⟨_, _, ?_, hz, hz2⟩, hq, hq2⟩
  rw [← List.drop_drop, List.take_append_drop]
theorem opn_struct {fs : Array Field} (ht : P.underlying t = some (.struct fs)) (h : OpnF P L Q fs.toList 0 n) : Opn P L Q t n := by
  intro H enc w base spare held m cs y hl hy
  obtain ⟨xs, k, -, -, -, hlen, hf⟩ := DataW.trod_struct ht hy
  refine h H enc w base spare held k cs (by omega) fun i f hi => ?_
  have hi2 : fs[i]? = some f := by simpa using hi
  have hlt : i < xs.length := by rw [hlen]; exact (Array.getElem?_eq_some_iff.1 hi2).1
  exact ⟨xs[i], by rw [hf i f hi2, List.getElem?_eq_getElem hlt]⟩
/-- a parameter of a struct type -/
theorem rv_of_struct {H : Type} {enc : TypeId × Value → H} {w : World} {r : Reach} {b0 base : Nat} {spare : Nat → Bool} {held : Bool} {fs : Array Field} {v : Value} {d : DataW H} {p : List MemPlace} (ht : P.underlying t = some (.struct fs)) (hC : P.cellsOf t = n) (hn : 2 ≤ n) (h : Opn P L Q t n)
    (hv : Value.okWide P w r b0 t v) (ht2 : DataW.Trod enc P w base spare held t v d p) : ∃ z, RV L w v z ∧ Q z := by
  obtain ⟨cs, rfl, hsz⟩ := okWide_struct ht hv
  obtain ⟨fuel, hf⟩ := ht2
  obtain ⟨l⟩ := cs
  have hl : l.length = n := by simpa [hC] using hsz
  obtain ⟨z, hz, hq⟩ := h H enc w base spare held fuel l _ hl (by simpa [Value.cells] using hf)
  refine ⟨z, ⟨l, ?_, hz⟩, hq⟩
  match l, hl with
  | [], h0 => simp at h0; omega
  | [a], h0 => simp at h0; omega
  | a :: b :: r, _ => rfl
/-- a parameter of a slice type -/
theorem rv_of_slice {H : Type} {enc : TypeId × Value → H} {w : World} {base : Nat} {spare : Nat → Bool} {held : Bool} {fuel : Nat} {v : Value} {x : DataW H × List MemPlace} (h : Opn P L Q t 1)
    (ht2 : DataW.trod enc P w base spare held fuel t [v] = some x) : ∃ z, RV L w v z ∧ Q z := by
  obtain ⟨z, hz, hq⟩ := h H enc w base spare held fuel [v] x rfl ht2
  exact ⟨z, ⟨[v], rfl, hz⟩, hq⟩
end

end Go.Proofs.Ytkbhbccpmmhelaa

namespace Go.Proofs.Ytkbhbccpmmhelaa
open Go.RowKit
set_option linter.unusedVariables false

def QMsg (d : MMsg) : Prop := (fun z => (Lit.int .i64 z).wf = true) d.Kind ∧ ((fun z => (Lit.int .i64 z).wf = true) d.Acct ∧ ((fun z => (Lit.int .i64 z).wf = true) d.Amt ∧ ((fun z => (Lit.int .i64 z).wf = true) d.Src)))

theorem opn_msg : Opn Try.prog msgL QMsg 23 4 :=
  opn_iso (g := fun x => ⟨x.1, x.2.1, x.2.2.1, x.2.2.2⟩) (fun _ => rfl) (opn_struct Try.underlying23 (opnF_cons rfl (by kernel_rfl) (opn_int Try.underlying3) (opnF_cons rfl (by kernel_rfl) (opn_int Try.underlying3) (opnF_cons rfl (by kernel_rfl) (opn_int Try.underlying3) (opnF_one rfl (by kernel_rfl) (opn_int Try.underlying3))))))

end Go.Proofs.Ytkbhbccpmmhelaa

namespace Go.Proofs.Ytkbhbccpmmhelaa
open Go.RowKit
set_option linter.unusedVariables false

def QRec (d : MRec) : Prop := (fun z => (Lit.int .i64 z).wf = true) d.Kind ∧ ((fun z => (Lit.int .i64 z).wf = true) d.Acct ∧ ((fun z => (Lit.int .i64 z).wf = true) d.Other ∧ ((fun z => (Lit.int .i64 z).wf = true) d.To ∧ ((fun z => (Lit.int .i64 z).wf = true) d.Amt ∧ (QMsg d.M)))))

theorem opn_rec : Opn Try.prog recL QRec 25 9 :=
  opn_iso (g := fun x => ⟨x.1, x.2.1, x.2.2.1, x.2.2.2.1, x.2.2.2.2.1, x.2.2.2.2.2⟩) (fun _ => rfl) (opn_struct Try.underlying25 (opnF_cons rfl (by kernel_rfl) (opn_int Try.underlying3) (opnF_cons rfl (by kernel_rfl) (opn_int Try.underlying3) (opnF_cons rfl (by kernel_rfl) (opn_int Try.underlying3) (opnF_cons rfl (by kernel_rfl) (opn_int Try.underlying3) (opnF_cons rfl (by kernel_rfl) (opn_int Try.underlying3) (opnF_one rfl (by kernel_rfl) (opn_msg))))))))

end Go.Proofs.Ytkbhbccpmmhelaa
