/- Arguments of any type with a layout, opened: what the reading of a parameter gives the walk; put together out of parts. No program is named here. -/
import Derived.Test.YtopmojfcdmcmbaaOpensS
namespace Go.Proofs.Ytopmojfcdmcmbaa
open Go.RowKit Go.ChangeShapes Go.WideShapes
set_option linter.unusedVariables false

/-- cells of the type t (n of them) that are read as data read by the layout L, and Q holds of what they read as -/
def Opn (P : Program) {α : Type} (L : Lay α) (Q : α → Prop) (t : TypeId) (n : Nat) : Prop :=
  ∀ (H : Type) (enc : TypeId × Value → H) (w : World) (base : Nat) (spare : Nat → Bool) (held : Bool) (m : Nat) (cs : List Value) (y : DataW H × List MemPlace),
    cs.length = n → DataW.trod enc P w base spare held m t cs = some y → ∃ z, L.rd w w.heap.size cs z ∧ Q z

/-- the fields fs, from the offset o on, n cells -/
def OpnF (P : Program) {α : Type} (L : Lay α) (Q : α → Prop) (fs : List Field) (o n : Nat) : Prop :=
  ∀ (H : Type) (enc : TypeId × Value → H) (w : World) (base : Nat) (spare : Nat → Bool) (held : Bool) (m : Nat) (cs : List Value),
    cs.length = o + n → (∀ (i : Nat) (f : Field), fs[i]? = some f → ∃ y, DataW.trod enc P w base spare held m f.type ((cs.drop f.offset).take (P.cellsOf f.type)) = some y) → ∃ z, L.rd w w.heap.size (cs.drop o) z ∧ Q z

section
variable {P : Program} {α β : Type} {L : Lay α} {M : Lay β} {Q : α → Prop} {R : β → Prop} {t e e' : TypeId} {n : Nat}

theorem opn_int {k : IntKind} (ht : P.underlying t = some (.int k)) : Opn P (intL k) (fun z => (Lit.int k z).wf = true) t 1 := by
  intro H enc w base spare held m cs y hl h
  obtain ⟨z, rfl, -, hw⟩ := DataW.trod_int ht h
  exact ⟨z, rfl, hw⟩
theorem opn_bool (ht : P.underlying t = some .bool) : Opn P boolL (fun _ => True) t 1 := by
  intro H enc w base spare held m cs y hl h
  obtain ⟨z, rfl, -⟩ := DataW.trod_bool ht h
  exact ⟨z, rfl, trivial⟩
theorem opn_string (ht : P.underlying t = some .string) : Opn P strL (fun z => z.size ≤ maxLen) t 1 := by
  intro H enc w base spare held m cs y hl h
  obtain ⟨z, hv, -, hw⟩ := DataW.trod_string ht h
  exact ⟨_, hv, hw⟩
theorem opn_ints {k : IntKind} (ht : P.underlying t = some (.slice e)) (he : P.underlying e = some (.int k)) (hc : P.cellsOf e = 1) : Opn P (intsL k e') (fun zs => ∀ z ∈ zs, (Lit.int k z).wf = true) t 1 := by
  intro H enc w base spare held m cs y hl h
  match cs, hl with
  | [v], _ =>
    obtain ⟨zs, ⟨A, c, rfl, h1, h2, hr⟩, hw⟩ := rs_of_trod ht he hc h
    exact ⟨zs, ⟨A, c, rfl, h1, h2, hr⟩, hw⟩
theorem opn_slice (ht : P.underlying t = some (.slice e)) (hc : P.cellsOf e = n) (hn : 0 < n) (hE : Opn P L Q e n) : Opn P (sliceL e' n L) (fun xs => ∀ z ∈ xs, Q z) t 1 := by
  intro H enc w base spare held m cs y hl h
  match cs, hl with
  | [v], _ =>
    obtain ⟨xs, ⟨cs2, he, hr⟩, hq⟩ := rv_slice_of_trod (e' := e') ht hc hn (fun m cs y hl hy => hE H enc w base spare held m cs y hl hy) h
    obtain ⟨A, c, rfl, h1, h2, hr2⟩ := hr
    have he2 : v = .slice A xs.length c := he
    subst he2
    exact ⟨xs, ⟨A, c, rfl, h1, h2, hr2⟩, hq⟩
theorem opn_iso {f : β → α} {g : α → β} (hfg : ∀ z, f (g z) = z) (h : Opn P L Q t n) : Opn P (isoL f L) (fun d => Q (f d)) t n := by
  intro H enc w base spare held m cs y hl hy
  obtain ⟨z, hz, hq⟩ := h H enc w base spare held m cs y hl hy
  exact ⟨g z, by show L.rd _ _ _ (f (g z)); rw [hfg]; exact hz, by show Q (f (g z)); rw [hfg]; exact hq⟩
theorem opn_imp {Q' : α → Prop} (h : Opn P L Q t n) (hq : ∀ z, Q z → Q' z) : Opn P L Q' t n := by
  intro H enc w base spare held m cs y hl hy
  obtain ⟨z, hz, hz2⟩ := h H enc w base spare held m cs y hl hy
  exact ⟨z, hz, hq z hz2⟩
theorem opnF_one {f : Field} {o : Nat} (ho : f.offset = o) (hc : P.cellsOf f.type = n) (h : Opn P L Q f.type n) : OpnF P L Q [f] o n := by
  intro H enc w base spare held m cs hl hf
  obtain ⟨y, hy⟩ := hf 0 f rfl
  rw [ho, hc, List.take_of_length_le (by rw [List.length_drop]; omega)] at hy
  exact h H enc w base spare held m _ y (by rw [List.length_drop]; omega) hy
theorem opnF_cons {f : Field} {fs : List Field} {o n2 : Nat} (ho : f.offset = o) (hc : P.cellsOf f.type = n) (h : Opn P L Q f.type n) (h2 : OpnF P M R fs (o + n) n2) : OpnF P (consL L M) (fun x => Q x.1 ∧ R x.2) (f :: fs) o (n + n2) := by
  intro H enc w base spare held m cs hl hf
  obtain ⟨y, hy⟩ := hf 0 f rfl
  rw [ho, hc] at hy
  obtain ⟨z, hz, hq⟩ := h H enc w base spare held m _ y (by rw [List.length_take, List.length_drop]; omega) hy
  obtain ⟨z2, hz2, hq2⟩ := h2 H enc w base spare held m cs (by omega) (fun i g hg => hf (i + 1) g (by simpa using hg))
  refine ⟨(z, z2), ⟨_, _, ?_, hz, hz2⟩, hq, hq2⟩
  rw [← List.drop_drop, List.take_append_drop]
theorem opn_struct {fs : Array Field} (ht : P.underlying t = some (.struct fs)) (h : OpnF P L Q fs.toList 0 n) : Opn P L Q t n := by
  intro H enc w base spare held m cs y hl hy
  obtain ⟨xs, k, -, -, -, hlen, hf⟩ := DataW.trod_struct ht hy
  refine h H enc w base spare held k cs (by omega) fun i f hi => ?_
  have hi2 : fs[i]? = some f := by simpa using hi
  have hlt : i < xs.length := by rw [hlen]; exact (Array.getElem?_eq_some_iff.1 hi2).1
  exact ⟨xs[i], by rw [hf i f hi2, List.getElem?_eq_getElem hlt]⟩
/-- a parameter of a struct type -/
theorem rv_of_struct {H : Type} {enc : TypeId × Value → H} {w : World} {r : Reach} {b0 base : Nat} {spare : Nat → Bool} {held : Bool} {fs : Array Field} {v : Value} {d : DataW H} {p : List MemPlace} (ht : P.underlying t = some (.struct fs)) (hC : P.cellsOf t = n) (hn : 2 ≤ n) (h : Opn P L Q t n)
    (hv : Value.okWide P w r b0 t v) (ht2 : DataW.Trod enc P w base spare held t v d p) : ∃ z, RV L w v z ∧ Q z := by
  obtain ⟨cs, rfl, hsz⟩ := okWide_struct ht hv
  obtain ⟨fuel, hf⟩ := ht2
  obtain ⟨l⟩ := cs
  have hl : l.length = n := by simpa [hC] using hsz
  obtain ⟨z, hz, hq⟩ := h H enc w base spare held fuel l _ hl (by simpa [Value.cells] using hf)
  refine ⟨z, ⟨l, ?_, hz⟩, hq⟩
  match l, hl with
  | [], h0 => simp at h0; omega
  | [a], h0 => simp at h0; omega
  | a :: b :: r, _ => rfl
/-- a parameter of a slice type -/
theorem rv_of_slice {H : Type} {enc : TypeId × Value → H} {w : World} {base : Nat} {spare : Nat → Bool} {held : Bool} {fuel : Nat} {v : Value} {x : DataW H × List MemPlace} (h : Opn P L Q t 1)
    (ht2 : DataW.trod enc P w base spare held fuel t [v] = some x) : ∃ z, RV L w v z ∧ Q z := by
  obtain ⟨z, hz, hq⟩ := h H enc w base spare held fuel [v] x rfl ht2
  exact ⟨z, ⟨[v], rfl, hz⟩, hq⟩
end

end Go.Proofs.Ytopmojfcdmcmbaa
