/- The draws' cursor, carried from world to world; l01Below as a change of the cursor's block. -/
import Derived.Test.YtmbipgnecjlicaaCursor
import Derived.Test.YtmbipgnecjlicaaVars
namespace Go.Proofs.Ytmbipgnecjlicaa
open Go.RowKit
set_option linter.unusedVariables false

section
variable {w w' : World} {g : Nat} {A : Option Addr} {c : Nat} {zs : List Int}
theorem CurOk.lt (k : CurOk w g A c zs) : g < w.heap.size := by
  obtain ⟨i, h, hc, -⟩ := k
  exact hc.lt
theorem CurOk.below (k : CurOk w g A c zs) (hb : Below w.heap.size w w') : CurOk w' g A c zs := by
  have hl := k.lt
  obtain ⟨i, h, hc, hi, h1, h2, hr⟩ := k
  exact ⟨i, h, hc.below hb hl, hi, h1, h2, hr.below (hb.mono (Nat.le_of_lt hl))⟩
theorem CurOk.chg {a b : Nat} (k : CurOk w g A c zs) (hc : Chg a b w w') (hd : g < a) : CurOk w' g A c zs := by
  have hl := k.lt
  have hb : Below (g + 1) w w' := ⟨hc.os, hc.tape, hc.output, hc.size, fun i hi => hc.block i (by omega) (.inl (by omega))⟩
  obtain ⟨i, h, hc2, hi, h1, h2, hr⟩ := k
  exact ⟨i, h, hc2.below hb (Nat.lt_succ_self g), hi, h1, h2, hr.below (hb.mono (Nat.le_succ g))⟩
theorem cBelow_c {n : Int} (hk : CurOk w g A c zs) (hb : Bytes zs) (hm : zs.length ≤ 1073741824) (hn : 0 < n) (hn2 : n ≤ 9223372036854775807) :
    Calls Try.prog 43 #[.pointer (some ⟨g, 0, none⟩), .int .i64 n] w fun e w' => ∃ x, e = .returned (.int .i64 x) ∧ (0 ≤ x ∧ x < n) ∧ CurOk w' g A c zs ∧ Chg g (g + 1) w w' :=
  (cBelow_any g A c zs n w hk hb hm hn hn2).mono fun e w' ⟨x, he, hx, hk2, hg⟩ => ⟨x, he, hx, hk2, Chg.of_grown hg fun j hj => by simp at hj; omega⟩
/-- a new cursor -/
theorem cNew_c (hr : Rd .u8 w w.heap.size A zs) (hb : Bytes zs) (hm : zs.length ≤ 1048576) :
    Calls Try.prog 42 #[.slice A zs.length c] w fun e w' => e = .returned (.pointer (some ⟨w.heap.size, 0, none⟩)) ∧ CurOk w' w.heap.size A c zs ∧ Below w.heap.size w w' := by
  refine (cNew_any A c zs w hr hb hm).mono ?_
  rintro e w' ⟨he, h, h1, h2, hw⟩
  obtain ⟨hc, hb1⟩ := NewCur.cur hw
  exact ⟨he, ⟨0, h, hc, Nat.zero_le _, by omega, by omega, hr.below hb1⟩, hb1⟩
end

end Go.Proofs.Ytmbipgnecjlicaa
