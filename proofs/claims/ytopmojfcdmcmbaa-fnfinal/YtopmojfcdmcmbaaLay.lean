/- Layouts: how the value of a Go type lies in memory, what it reads as, which blocks are its own; put together out of parts. No program is named here. -/
import Derived.Test.YtopmojfcdmcmbaaLaw
namespace Go.Proofs.Ytopmojfcdmcmbaa
open Go.RowKit
set_option linter.unusedVariables false

/-- w' is w but for the blocks of S, and for new ones -/
structure ChgS (S : List Nat) (w w' : World) : Prop where
  os : w'.os = w.os
  tape : w'.tape = w.tape
  output : w'.output = w.output
  size : w.heap.size ≤ w'.heap.size
  block : ∀ k, k < w.heap.size → k ∉ S → w'.heap[k]? = w.heap[k]?

theorem ChgS.refl (S : List Nat) (w : World) : ChgS S w w := ⟨rfl, rfl, rfl, Nat.le_refl _, fun _ _ _ => rfl⟩
theorem ChgS.trans {S : List Nat} {a b c : World} (h : ChgS S a b) (k : ChgS S b c) : ChgS S a c :=
  ⟨k.os.trans h.os, k.tape.trans h.tape, k.output.trans h.output, Nat.le_trans h.size k.size, fun i hi hn => (k.block i (Nat.lt_of_lt_of_le hi h.size) hn).trans (h.block i hi hn)⟩
theorem ChgS.more {S T : List Nat} {a b : World} (h : ChgS S a b) (hs : ∀ j ∈ S, j ∈ T) : ChgS T a b :=
  ⟨h.os, h.tape, h.output, h.size, fun k hk hn => h.block k hk (fun e => hn (hs k e))⟩
theorem ChgS.of_grown {w w' : World} {row : Option Nat} (h : w.grownBy w' row) : ChgS row.toList w w' :=
  ⟨h.os, h.tape, h.output, h.size, fun k hk hn => h.block k hk (fun e => hn (by rw [← e]; simp))⟩
theorem ChgS.chg {S : List Nat} {lo hi : Nat} {w w' : World} (h : ChgS S w w') (hS : ∀ j ∈ S, lo ≤ j ∧ j < hi) : Chg lo hi w w' :=
  ⟨h.os, h.tape, h.output, h.size, fun k hk hab => h.block k hk (fun e => by have := hS k e; omega)⟩
theorem ChgS.below {S : List Nat} {B : Nat} {w w' : World} (h : ChgS S w w') (hS : ∀ j ∈ S, B ≤ j) (hB : B ≤ w.heap.size) : Below B w w' :=
  ⟨h.os, h.tape, h.output, h.size, fun k hk => h.block k (by omega) (fun e => by have := hS k e; omega)⟩

/-- A layout: 'rd w B cs x': the cells cs read as x, all memory behind them in blocks below B; 'own w S cs x': they do, and the blocks behind them are S, each for one slice alone. -/
structure Lay (α : Type) where
  rd : World → Nat → List Value → α → Prop
  own : World → List Nat → List Value → α → Prop
  rd_keep : ∀ {w w' : World} {B : Nat} {cs : List Value} {x : α}, rd w B cs x → (∀ p : Addr, p.block < B → w'.cell? p = w.cell? p) → rd w' B cs x
  rd_more : ∀ {w : World} {B B' : Nat} {cs : List Value} {x : α}, rd w B cs x → B ≤ B' → rd w B' cs x
  own_rd : ∀ {w : World} {S : List Nat} {cs : List Value} {x : α}, own w S cs x → rd w w.heap.size cs x
  own_lt : ∀ {w : World} {S : List Nat} {cs : List Value} {x : α}, own w S cs x → ∀ j ∈ S, j < w.heap.size
  own_keep : ∀ {w w' : World} {S : List Nat} {cs : List Value} {x : α}, own w S cs x → (∀ j ∈ S, w'.heap[j]? = w.heap[j]?) → own w' S cs x

/-- a slice of integers -/
def intsL (k : IntKind) (e : TypeId) : Lay (List Int) where
  rd w B cs zs := ∃ A c, cs = [.slice A zs.length c] ∧ zs.length ≤ c ∧ c ≤ maxLen ∧ Rd k w B A zs
  own w S cs zs := ∃ v, cs = [v] ∧ Own k w 0 e v zs ∧ S = v.ownBlock.toList
  rd_keep := by
    rintro w w' B cs zs ⟨A, c, rfl, h1, h2, hr⟩ hk
    exact ⟨A, c, rfl, h1, h2, hr.keep hk⟩
  rd_more := by
    rintro w B B' cs zs ⟨A, c, rfl, h1, h2, hr⟩ hB
    exact ⟨A, c, rfl, h1, h2, hr.more hB⟩
  own_rd := by
    rintro w S cs zs ⟨v, rfl, ho, rfl⟩
    obtain ⟨A, c, rfl, h1, h2, hr⟩ := own_form ho
    exact ⟨A, c, rfl, h1, h2, hr⟩
  own_lt := by
    rintro w S cs zs ⟨v, rfl, ho, rfl⟩ j hj
    exact (ho.at_ j (by simpa using hj)).2
  own_keep := by
    rintro w w' S cs zs ⟨v, rfl, ho, rfl⟩ hk
    refine ⟨v, rfl, ⟨ho.1, ?_⟩, rfl⟩
    rcases ho.2 with h2 | ⟨g, cap, cur, hv, hg, hh, r⟩
    · exact .inl h2
    · exact .inr ⟨g, cap, cur, hv, hg, (hk g (by rw [hv]; simp [Value.ownBlock])).trans hh, r⟩

/-- one cell that leads nowhere -/
def oneL {α : Type} (f : α → Value) : Lay α where
  rd _ _ cs x := cs = [f x]
  own _ S cs x := cs = [f x] ∧ S = []
  rd_keep h _ := h
  rd_more h _ := h
  own_rd h := h.1
  own_lt h j hj := by rw [h.2] at hj; cases hj
  own_keep h _ := h

def intL (k : IntKind) : Lay Int := oneL (Value.int k)
def boolL : Lay Bool := oneL Value.bool
def strL : Lay ByteArray := oneL Value.string

/-- two parts, one behind the other -/
def consL {α β : Type} (L : Lay α) (M : Lay β) : Lay (α × β) where
  rd w B cs x := ∃ c1 c2, cs = c1 ++ c2 ∧ L.rd w B c1 x.1 ∧ M.rd w B c2 x.2
  own w S cs x := ∃ c1 c2 S1 S2, cs = c1 ++ c2 ∧ S = S1 ++ S2 ∧ L.own w S1 c1 x.1 ∧ M.own w S2 c2 x.2
  rd_keep := by
    rintro w w' B cs x ⟨c1, c2, rfl, h1, h2⟩ hk
    exact ⟨c1, c2, rfl, L.rd_keep h1 hk, M.rd_keep h2 hk⟩
  rd_more := by
    rintro w B B' cs x ⟨c1, c2, rfl, h1, h2⟩ hB
    exact ⟨c1, c2, rfl, L.rd_more h1 hB, M.rd_more h2 hB⟩
  own_rd := by
    rintro w S cs x ⟨c1, c2, S1, S2, rfl, rfl, h1, h2⟩
    exact ⟨c1, c2, rfl, L.own_rd h1, M.own_rd h2⟩
  own_lt := by
    rintro w S cs x ⟨c1, c2, S1, S2, rfl, rfl, h1, h2⟩ j hj
    rcases List.mem_append.1 hj with h | h
    · exact L.own_lt h1 j h
    · exact M.own_lt h2 j h
  own_keep := by
    rintro w w' S cs x ⟨c1, c2, S1, S2, rfl, rfl, h1, h2⟩ hk
    exact ⟨c1, c2, S1, S2, rfl, rfl, L.own_keep h1 fun j hj => hk j (List.mem_append.2 (.inl hj)), M.own_keep h2 fun j hj => hk j (List.mem_append.2 (.inr hj))⟩

/-- the same cells, read as another type -/
def isoL {α β : Type} (f : β → α) (L : Lay α) : Lay β where
  rd w B cs y := L.rd w B cs (f y)
  own w S cs y := L.own w S cs (f y)
  rd_keep h hk := L.rd_keep h hk
  rd_more h hB := L.rd_more h hB
  own_rd h := L.own_rd h
  own_lt h := L.own_lt h
  own_keep h hk := L.own_keep h hk

/-- the value whose cells these are -/
def valOf : List Value → Value
  | [v] => v
  | cs => .agg cs.toArray

/-- the value v reads as x -/
def RV {α : Type} (L : Lay α) (w : World) (v : Value) (x : α) : Prop := ∃ cs, v = valOf cs ∧ L.rd w w.heap.size cs x

/-- the value v reads as x, in blocks of its own from lo on and below hi -/
def OV {α : Type} (L : Lay α) (w : World) (lo hi : Nat) (v : Value) (x : α) : Prop :=
  ∃ cs S, v = valOf cs ∧ L.own w S cs x ∧ S.Nodup ∧ (∀ j ∈ S, lo ≤ j ∧ j < hi) ∧ hi ≤ w.heap.size

section
variable {α β : Type} {L : Lay α} {M : Lay β} {w w' : World} {lo hi : Nat} {v : Value} {x : α} {S : List Nat} {cs : List Value}

theorem cell_of_block {w w' : World} {p : Addr} (h : w'.heap[p.block]? = w.heap[p.block]?) : w'.cell? p = w.cell? p := by
  unfold World.cell?; rw [h]

theorem Lay.rd_below {B : Nat} (h : L.rd w B cs x) (hb : Below B w w') : L.rd w' B cs x := L.rd_keep h fun _ hp => hb.cell hp
theorem Lay.rd_from (h : L.rd w w.heap.size cs x) (hb : Below w.heap.size w w') : L.rd w' w'.heap.size cs x := L.rd_more (L.rd_below h hb) hb.size
theorem Lay.own_below (h : L.own w S cs x) (hb : Below w.heap.size w w') : L.own w' S cs x := L.own_keep h fun j hj => hb.block j (L.own_lt h j hj)
theorem Lay.own_chg {T : List Nat} (h : L.own w S cs x) (hc : ChgS T w w') (hd : ∀ j ∈ S, j ∉ T) : L.own w' S cs x := L.own_keep h fun j hj => hc.block j (L.own_lt h j hj) (hd j hj)

theorem RV.from_ (h : RV L w v x) (hb : Below w.heap.size w w') : RV L w' v x := by
  obtain ⟨cs, rfl, h⟩ := h
  exact ⟨cs, rfl, L.rd_from h hb⟩
theorem OV.rd (h : OV L w lo hi v x) : RV L w v x := by
  obtain ⟨cs, S, rfl, ho, _⟩ := h
  exact ⟨cs, rfl, L.own_rd ho⟩
theorem OV.below (h : OV L w lo hi v x) (hb : Below w.heap.size w w') : OV L w' lo hi v x := by
  obtain ⟨cs, S, rfl, ho, hn, hS, hh⟩ := h
  exact ⟨cs, S, rfl, L.own_below ho hb, hn, hS, Nat.le_trans hh hb.size⟩
theorem OV.chg {a b : Nat} (h : OV L w lo hi v x) (hc : Chg a b w w') (hd : hi ≤ a ∨ b ≤ lo) : OV L w' lo hi v x := by
  obtain ⟨cs, S, rfl, ho, hn, hS, hh⟩ := h
  exact ⟨cs, S, rfl, L.own_keep ho fun j hj => hc.block j (L.own_lt ho j hj) (by have := hS j hj; omega), hn, hS, Nat.le_trans hh hc.size⟩

theorem rv_ints {k : IntKind} {e : TypeId} {zs : List Int} : RV (intsL k e) w v zs ↔ RS k w v zs := by
  constructor
  · rintro ⟨cs, rfl, A, c, rfl, h1, h2, hr⟩
    exact ⟨A, c, rfl, h1, h2, hr⟩
  · rintro ⟨A, c, rfl, h1, h2, hr⟩
    exact ⟨_, rfl, A, c, rfl, h1, h2, hr⟩

theorem own_at {k : IntKind} {e : TypeId} {zs : List Int} {lo : Nat} (h : Own k w 0 e v zs) (hl : ∀ j, v.ownBlock = some j → lo ≤ j) : Own k w lo e v zs := by
  refine ⟨h.1, ?_⟩
  rcases h.2 with h2 | ⟨g, cap, cur, hv, hg, r⟩
  · exact .inl h2
  · exact .inr ⟨g, cap, cur, hv, hl g (by rw [hv]; rfl), r⟩

theorem ov_ints {k : IntKind} {e : TypeId} {zs : List Int} : OV (intsL k e) w lo hi v zs ↔ OS k e w lo hi v zs := by
  constructor
  · rintro ⟨cs, S, rfl, ⟨u, rfl, ho, rfl⟩, hn, hS, hh⟩
    have hj2 : ∀ j, (valOf [u]).ownBlock = some j → j ∈ u.ownBlock.toList := fun j hj => by
      have hj' : u.ownBlock = some j := hj
      rw [hj']; simp
    exact ⟨own_at ho fun j hj => (hS j (hj2 j hj)).1, fun j hj => (hS j (hj2 j hj)).2, hh⟩
  · rintro ⟨ho, h1, h2⟩
    refine ⟨[v], _, rfl, ⟨v, rfl, ho.base_mono (Nat.zero_le _), rfl⟩, ?_, fun j hj => ?_, h2⟩
    · cases v.ownBlock <;> simp
    · have hj' : v.ownBlock = some j := by simpa using hj
      exact ⟨(ho.at_ j hj').1, h1 j hj'⟩
end

/-- a call that answers a new value of this layout alone -/
def NewV {α : Type} (L : Lay α) (w : World) (x : α) (e : Ending) (w' : World) : Prop :=
  ∃ v, e = .returned v ∧ OV L w' w.heap.size w'.heap.size v x ∧ Below w.heap.size w w'

/-- a call that answers a new value of this layout and a bool -/
def NewVB {α : Type} (L : Lay α) (w : World) (x : α) (b : Bool) (e : Ending) (w' : World) : Prop :=
  ∃ v, e = .returned (.tuple #[v, .bool b]) ∧ OV L w' w.heap.size w'.heap.size v x ∧ Below w.heap.size w w'

/-- a call that answers a new value of this layout, a number and a bool -/
def NewVIB {α : Type} (L : Lay α) (w : World) (x : α) (n : Int) (b : Bool) (e : Ending) (w' : World) : Prop :=
  ∃ v, e = .returned (.tuple #[v, .int .i64 n, .bool b]) ∧ OV L w' w.heap.size w'.heap.size v x ∧ Below w.heap.size w w'

/-- the cells cs read as x, in blocks of their own that meet p -/
def OVp {α : Type} (L : Lay α) (w : World) (p : Nat → Prop) (cs : List Value) (x : α) : Prop := ∃ S, L.own w S cs x ∧ S.Nodup ∧ ∀ j ∈ S, p j

section
variable {α β : Type} {L : Lay α} {M : Lay β} {w w' : World} {lo hi : Nat} {v : Value} {x : α} {y : β} {c1 c2 cs : List Value} {p q : Nat → Prop}

theorem OVp.imp' (h : OVp L w p cs x) (hp : ∀ j, p j → q j) : OVp L w q cs x := by
  obtain ⟨S, ho, hn, hS⟩ := h
  exact ⟨S, ho, hn, fun j hj => hp j (hS j hj)⟩
theorem OVp.cons (h1 : OVp L w p c1 x) (h2 : OVp M w q c2 y) (hd : ∀ j, p j → q j → False) : OVp (consL L M) w (fun j => p j ∨ q j) (c1 ++ c2) (x, y) := by
  obtain ⟨S1, o1, n1, b1⟩ := h1
  obtain ⟨S2, o2, n2, b2⟩ := h2
  refine ⟨S1 ++ S2, ⟨c1, c2, S1, S2, rfl, rfl, o1, o2⟩, ?_, ?_⟩
  · rw [List.nodup_append]
    exact ⟨n1, n2, fun a ha b hb e => hd a (b1 a ha) (e ▸ b2 b hb)⟩
  · intro j hj
    rcases List.mem_append.1 hj with h | h
    · exact .inl (b1 j h)
    · exact .inr (b2 j h)
theorem OVp.cons1 {f : α → Value} (h2 : OVp M w q c2 y) : OVp (consL (oneL f) M) w q ([f x] ++ c2) (x, y) := by
  obtain ⟨S2, o2, n2, b2⟩ := h2
  exact ⟨S2, ⟨[f x], c2, [], S2, rfl, rfl, ⟨rfl, rfl⟩, o2⟩, n2, b2⟩
theorem OVp.consR (h1 : OVp L w p c1 x) (h2 : OVp M w (fun _ => False) c2 y) : OVp (consL L M) w p (c1 ++ c2) (x, y) :=
  (OVp.cons h1 h2 (fun _ _ h => h)).imp' (fun _ h => h.elim id (fun f => f.elim))
theorem OVp.one {f : α → Value} : OVp (oneL f) w (fun _ => False) [f x] x := ⟨[], ⟨rfl, rfl⟩, List.nodup_nil, fun _ h => by cases h⟩
theorem OVp.ints {k : IntKind} {e : TypeId} {zs : List Int} (h : OS k e w lo hi v zs) : OVp (intsL k e) w (fun j => lo ≤ j ∧ j < hi) [v] zs := by
  obtain ⟨cs, S, e1, ho, hn, hS, _⟩ := ov_ints.2 h
  obtain ⟨u, rfl, ho⟩ := ho
  obtain rfl : v = u := e1
  exact ⟨S, ⟨v, rfl, ho⟩, hn, hS⟩
theorem OVp.ov (h : OVp L w p cs x) (hp : ∀ j, p j → lo ≤ j ∧ j < hi) (hh : hi ≤ w.heap.size) : OV L w lo hi (valOf cs) x := by
  obtain ⟨S, ho, hn, hS⟩ := h
  exact ⟨cs, S, rfl, ho, hn, fun j hj => hp j (hS j hj), hh⟩
theorem OVp.imp (h : OVp L w p cs x) (hp : ∀ j, p j → q j) : OVp L w q cs x := by
  obtain ⟨S, ho, hn, hS⟩ := h
  exact ⟨S, ho, hn, fun j hj => hp j (hS j hj)⟩
theorem OVp.rd (h : OVp L w p cs x) : L.rd w w.heap.size cs x := by
  obtain ⟨S, ho, _, _⟩ := h
  exact L.own_rd ho
theorem OVp.iso {f : β → α} {y : β} (h : OVp L w p cs (f y)) : OVp (isoL f L) w p cs y := h
theorem OV.widen {lo' hi' : Nat} (h : OV L w lo hi v x) (hl : lo' ≤ lo) (hh : hi ≤ hi') (hw : hi' ≤ w.heap.size) : OV L w lo' hi' v x := by
  obtain ⟨cs, S, e, ho, hn, hS, _⟩ := h
  exact ⟨cs, S, e, ho, hn, fun j hj => by have := hS j hj; omega, hw⟩
end

/-- a marking: what a call leaves that marks the cells cs (blocks S), from k on -/
def MarkS {α : Type} (L : Lay α) (w : World) (S : List Nat) (cs : List Value) (n : Int) (x : α) (e : Ending) (w' : World) : Prop :=
  e = .returned (.int .i64 n) ∧ L.own w' S cs x ∧ ChgS S w w'

theorem MarkS.up {α : Type} {L : Lay α} {w : World} {lo hi : Nat} {S : List Nat} {cs : List Value} {n : Int} {x : α} {e : Ending} {w' : World} (h : MarkS L w S cs n x e w') (hn : S.Nodup) (hS : ∀ j ∈ S, lo ≤ j ∧ j < hi) (hh : hi ≤ w.heap.size) :
    e = .returned (.int .i64 n) ∧ OV L w' lo hi (valOf cs) x ∧ Chg lo hi w w' :=
  ⟨h.1, ⟨cs, S, rfl, h.2.1, hn, hS, Nat.le_trans hh h.2.2.size⟩, h.2.2.chg hS⟩

theorem nodup_app {S T : List Nat} (h : (S ++ T).Nodup) : S.Nodup ∧ T.Nodup ∧ (∀ j ∈ S, j ∉ T) ∧ (∀ j ∈ T, j ∉ S) := by
  rw [List.nodup_append] at h
  exact ⟨h.1, h.2.1, fun j hj hj' => h.2.2 j hj j hj' rfl, fun j hj hj' => h.2.2 j hj' j hj rfl⟩
theorem ChgS.of_below {S : List Nat} {w w' : World} (h : Below w.heap.size w w') : ChgS S w w' := ⟨h.os, h.tape, h.output, h.size, fun k hk _ => h.block k hk⟩
theorem ret_int {a b : Int} (h : a = b) : Ending.returned (.int .i64 a) = Ending.returned (.int .i64 b) := by rw [h]

end Go.Proofs.Ytopmojfcdmcmbaa
