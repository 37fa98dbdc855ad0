/- The uniform words in which the walks of the exact laws are written: what a slice value reads as, what is the call's own between two block numbers, what a marking leaves alone. -/
import Derived.Test.YtopmojfcdmcmbaaBytes
import Derived.Test.YtopmojfcdmcmbaaApp
namespace Go.Proofs.Ytopmojfcdmcmbaa
open Go.RowKit
set_option linter.unusedVariables false

/-- the value v is a slice that reads as the integers zs -/
def RS (k : IntKind) (w : World) (v : Value) (zs : List Int) : Prop :=
  ∃ A c, v = .slice A zs.length c ∧ zs.length ≤ c ∧ c ≤ maxLen ∧ Rd k w w.heap.size A zs

/-- the value v is a row of integers zs, in a block of its own from lo on and below hi -/
def OS (k : IntKind) (e : TypeId) (w : World) (lo hi : Nat) (v : Value) (zs : List Int) : Prop :=
  Own k w lo e v zs ∧ (∀ j, v.ownBlock = some j → j < hi) ∧ hi ≤ w.heap.size

/-- w' is w but for the blocks from a on and below b, and for new ones -/
structure Chg (a b : Nat) (w w' : World) : Prop where
  os : w'.os = w.os
  tape : w'.tape = w.tape
  output : w'.output = w.output
  size : w.heap.size ≤ w'.heap.size
  block : ∀ k, k < w.heap.size → (k < a ∨ b ≤ k) → w'.heap[k]? = w.heap[k]?

theorem Chg.below {a b B : Nat} {w w' : World} (h : Chg a b w w') (hB : B ≤ a) (hB2 : B ≤ w.heap.size) : Below B w w' :=
  ⟨h.os, h.tape, h.output, h.size, fun k hk => h.block k (by omega) (.inl (by omega))⟩

theorem Chg.of_grown {a b : Nat} {w w' : World} {row : Option Nat} (h : w.grownBy w' row) (hr : ∀ j, row = some j → a ≤ j ∧ j < b) : Chg a b w w' :=
  ⟨h.os, h.tape, h.output, h.size, fun k hk hab => h.block k hk (fun e => by have := hr k e.symm; omega)⟩

section
variable {k : IntKind} {e : TypeId} {w w' : World} {lo hi : Nat} {v : Value} {zs : List Int}

theorem RS.from_ (h : RS k w v zs) (hb : Below w.heap.size w w') : RS k w' v zs := by
  obtain ⟨A, c, hv, h1, h2, hr⟩ := h
  exact ⟨A, c, hv, h1, h2, (hr.below hb).more hb.size⟩

theorem RS.rd_ {A : Option Addr} {n c : Nat} (h : RS k w (.slice A n c) zs) : Rd k w w.heap.size A zs := by
  obtain ⟨A', c', hv, h1, h2, hr⟩ := h
  simp only [Value.slice.injEq] at hv
  rw [hv.1]; exact hr
theorem RS.le_ {A : Option Addr} {n c : Nat} (h : RS k w (.slice A n c) zs) : zs.length ≤ c ∧ c ≤ maxLen := by
  obtain ⟨A', c', hv, h1, h2, hr⟩ := h
  simp only [Value.slice.injEq] at hv
  rw [hv.2.2]; exact ⟨h1, h2⟩

theorem own_form {v : Value} (h : Own k w lo e v zs) : ∃ A c, v = .slice A zs.length c ∧ zs.length ≤ c ∧ c ≤ maxLen ∧ Rd k w w.heap.size A zs := by
  obtain ⟨A, c, hv, hr⟩ := h.form
  refine ⟨A, c, hv, ?_, ?_, hr⟩
  · rcases h.2 with ⟨h1, h0⟩ | ⟨g, cap, cur, h1, _, _, hn, _⟩
    · omega
    · rw [hv] at h1; simp only [Value.slice.injEq] at h1; omega
  · rcases h.2 with ⟨h1, h0⟩ | ⟨g, cap, cur, h1, _, _, _, hn, _⟩
    · rw [hv] at h1; simp only [Value.slice.injEq] at h1; unfold maxLen; omega
    · rw [hv] at h1; simp only [Value.slice.injEq] at h1; omega

theorem OS.rd (h : OS k e w lo hi v zs) : RS k w v zs := own_form h.1

theorem OS.below (h : OS k e w lo hi v zs) (hb : Below w.heap.size w w') : OS k e w' lo hi v zs :=
  ⟨h.1.below hb (Nat.le_refl _), h.2.1, Nat.le_trans h.2.2 hb.size⟩

theorem OS.chg {a b : Nat} (h : OS k e w lo hi v zs) (hc : Chg a b w w') (hd : hi ≤ a ∨ b ≤ lo) : OS k e w' lo hi v zs := by
  refine ⟨⟨h.1.1, ?_⟩, h.2.1, Nat.le_trans h.2.2 hc.size⟩
  rcases h.1.2 with h2 | ⟨g, cap, cur, hv, hg, hh, r⟩
  · exact .inl h2
  · refine .inr ⟨g, cap, cur, hv, hg, ?_, r⟩
    have h3 := h.2.1 g (by rw [hv]; rfl)
    have h4 := h.2.2
    rw [hc.block g (by omega) (by omega)]; exact hh

theorem OS.widen {lo' hi' : Nat} (h : OS k e w lo hi v zs) (hl : lo' ≤ lo) (hh : hi ≤ hi') (hw : hi' ≤ w.heap.size) : OS k e w lo' hi' v zs :=
  ⟨h.1.base_mono hl, fun j hj => Nat.lt_of_lt_of_le (h.2.1 j hj) hh, hw⟩
theorem OS.mk_ (h : Own k w' lo e v zs) : OS k e w' lo w'.heap.size v zs := ⟨h, fun j hj => (h.at_ j hj).2, Nat.le_refl _⟩
end

/-- an argument, as the row's frame opens it -/
theorem rs_of_row {k : IntKind} {w : World} {a : Option Addr} {len cap : Nat} {zs : List Int} (h : IsRow k w a len cap zs) : RS k w (.slice a len cap) (zs.take len) := by
  obtain ⟨hr, hl, hm, _⟩ := rd_of_row h
  refine ⟨a, cap, by rw [hl], ?_, ?_, hr⟩
  · rcases h with ⟨_, h1, h2, _⟩ | ⟨_, _, h1, _⟩ <;> omega
  · rcases h with ⟨_, _, h2, _⟩ | ⟨_, _, _, h2, _⟩
    · unfold maxLen; omega
    · exact h2

/-- a call that answers a new row alone -/
def NewS (k : IntKind) (t : TypeId) (w : World) (zs : List Int) (e : Ending) (w' : World) : Prop :=
  ∃ v, e = .returned v ∧ OS k t w' w.heap.size w'.heap.size v zs ∧ Below w.heap.size w w'

/-- a call that answers a new row of bytes and a bool -/
def NewSB (w : World) (zs : List Int) (b : Bool) (e : Ending) (w' : World) : Prop :=
  ∃ v, e = .returned (.tuple #[v, .bool b]) ∧ OS .u8 5 w' w.heap.size w'.heap.size v zs ∧ Below w.heap.size w w'
/-- a call that answers a new row of bytes, a number and a bool -/
def NewSIB (w : World) (zs : List Int) (n : Int) (b : Bool) (e : Ending) (w' : World) : Prop :=
  ∃ v, e = .returned (.tuple #[v, .int .i64 n, .bool b]) ∧ OS .u8 5 w' w.heap.size w'.heap.size v zs ∧ Below w.heap.size w w'
theorem os_none (w : World) (lo : Nat) : OS .u8 5 w lo w.heap.size (.slice none 0 0) [] := OS.mk_ (World.ownsRow_nil _ _ _ _)

end Go.Proofs.Ytopmojfcdmcmbaa
