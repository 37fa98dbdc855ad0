/- The reader of numbers (spec.l01Rd): one step, as a variable's cells turn. -/
import Derived.Test.YtdhphfmjekbmjaaGetNums
import Derived.Test.YtdhphfmjekbmjaaVars
namespace Go.Proofs.Ytdhphfmjekbmjaa
open Go.RowKit
set_option linter.unusedVariables false

/-- one number read: the number, the place behind it, has reading failed -/
def rdNum (zs : List Int) (p : Int) (bad : Bool) : Int × Int × Bool :=
  if bad then (0, p, true) else match getNum zs p with
    | none => (0, 0, true)
    | some (n, c) => (n, p + c, false)
theorem rdNum_bad (zs : List Int) (p : Int) : rdNum zs p true = (0, p, true) := rfl
theorem rdNum_none {zs : List Int} {p : Int} (h : getNum zs p = none) : rdNum zs p false = (0, 0, true) := by unfold rdNum; rw [h]; rfl
theorem rdNum_some {zs : List Int} {p n : Int} {c : Nat} (h : getNum zs p = some (n, c)) : rdNum zs p false = (n, p + c, false) := by unfold rdNum; rw [h]; rfl
/-- the place stays within an int's range, the number is one -/
theorem rdNum_range (zs : List Int) (p : Int) (bad : Bool) (hz : zs.length ≤ 1073741824) (hp : -9223372036854775808 ≤ p ∧ p ≤ 9223372036854775807) :
    (0 ≤ (rdNum zs p bad).1 ∧ (rdNum zs p bad).1 ≤ 1125899906842624) ∧ (-9223372036854775808 ≤ (rdNum zs p bad).2.1 ∧ (rdNum zs p bad).2.1 ≤ 9223372036854775807) := by
  cases bad with
  | true => rw [rdNum_bad]; exact ⟨by simp, hp⟩
  | false =>
    rcases hg : getNum zs p with _ | ⟨n, c⟩
    · rw [rdNum_none hg]; simp
    · rw [rdNum_some hg]
      have := getNum_some hg
      exact ⟨⟨this.2.2.2.1, this.2.2.2.2⟩, by constructor <;> simp <;> omega⟩

/-- the reader's variable -/
abbrev RdVr (w : World) (g : Nat) (A : Option Addr) (c : Nat) (zs : List Int) (p : Int) (bad : Bool) : Prop := Vr w g 51 [.slice A zs.length c, .int .i64 p, .bool bad]

set_option maxHeartbeats 400000 in
theorem sGet_c {w : World} {g : Nat} {A : Option Addr} {c : Nat} {zs : List Int} {p : Int} {bad : Bool} (x : RdVr w g A c zs p bad) (hr : Rd .u8 w g A zs) (hb : Bytes zs) (hm : zs.length ≤ 16777216) (hp : -9223372036854775808 ≤ p ∧ p ≤ 9223372036854775807) :
    Calls Try.prog 37 #[.pointer (some ⟨g, 0, none⟩)] w fun e w' => e = .returned (.int .i64 (rdNum zs p bad).1) ∧ RdVr w' g A c zs (rdNum zs p bad).2.1 (rdNum zs p bad).2.2 ∧ Chg g (g + 1) w w' := by
  have hg := x.lt
  cases bad with
  | true =>
    exact (sGet_bad g (.slice A zs.length c) p w x).mono fun e w' ⟨he, h1, h2⟩ => ⟨he, h1, Chg.of_grown h2 fun j hj => by simp at hj; omega⟩
  | false =>
    rcases hn : getNum zs p with _ | ⟨n, k⟩
    · rw [rdNum_none hn]
      exact (sGet_ok g A c zs p 0 0 false w x (hr.more (by omega)) hb hm hp.1 hp.2 (Lib.hid (getVal_none hn))).mono fun e w' ⟨he, h1, h2⟩ => ⟨he, h1, Chg.of_grown h2 fun j hj => by simp at hj; omega⟩
    · rw [rdNum_some hn]
      exact (sGet_ok g A c zs p n (p + k) true w x (hr.more (by omega)) hb hm hp.1 hp.2 (Lib.hid (getVal_some hn))).mono fun e w' ⟨he, h1, h2⟩ => ⟨he, h1, Chg.of_grown h2 fun j hj => by simp at hj; omega⟩

end Go.Proofs.Ytdhphfmjekbmjaa
