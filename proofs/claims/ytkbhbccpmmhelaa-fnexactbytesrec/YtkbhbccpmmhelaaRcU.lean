/- A record's numbers behind pointers: the five lists, and the map of method expressions that finds them. Laid by a program of ours (src/rcu.py). -/
import Derived.Test.YtkbhbccpmmhelaaRcN
import Derived.Maps.Own
import Derived.Maps.OwnOps
import Derived.StringKeys
import Derived.Shelf.Abstract
namespace Go.Proofs.Ytkbhbccpmmhelaa
open Go.RowKit
open Go.Maps (Keyed)
set_option linter.unusedVariables false

/-- how a function that holds nothing reads in a map -/
def fnElem (v : Value) : Option (DataW Unit × List MemPlace) :=
  match v with
  | .func (.func n) a b => if a.size = 0 ∧ b.size = 0 then some (.lit (.int .i64 n), []) else none
  | _ => none
theorem fnElem_mk (n : Nat) : fnElem (.func (.func n) #[] #[]) = some (.lit (.int .i64 n), []) := by simp [fnElem]
theorem fnElem_inv {v : Value} {z : DataW Unit × List MemPlace} (h : fnElem v = some z) : ∃ m : Nat, v = .func (.func m) #[] #[] ∧ z.1 = .lit (.int .i64 m) := by
  unfold fnElem at h
  split at h
  · rename_i n a b
    split at h
    · rename_i hc
      have h1 := Array.eq_empty_of_size_eq_zero hc.1
      have h2 := Array.eq_empty_of_size_eq_zero hc.2
      subst h1; subst h2
      exact ⟨n, rfl, by rw [← Option.some.inj h]⟩
    · cases h
  · cases h
theorem str_law : Keyed Try.prog 9 := Maps.string_keyed Try.underlying9
theorem lit_inj {a b : Int} (h : (DataW.lit (.int .i64 a) : DataW Unit) = .lit (.int .i64 b)) : a = b := by
  injection h with h
  injection h
def fnOf (x : Option Nat) : Int := match x with | some n => (n : Int) | none => -1
/-- block b is a map from strings to functions, told by a function on strings -/
def FM (w : World) (b N : Nat) (p : ByteArray → Option Nat) : Prop :=
  ∃ D : DataW Unit, w.ownsMap Try.prog 9 fnElem b N D ∧ ∀ s : ByteArray, D.atKey (.string s.data.toList) (.lit (.int .i64 (-1))) = .lit (.int .i64 (fnOf (p s)))
theorem below_fm {b : Nat} {a w w' : World} (h : Below a.heap.size a w) (hg : w.grownBy w' (some b)) (hB : a.heap.size ≤ b) : Below a.heap.size a w' := h.grown hg h.size (fun k hk => by cases hk; exact hB)
theorem lits_ne {s t : ByteArray} (h : s ≠ t) : (Lit.string s.data.toList) ≠ (Lit.string t.data.toList) := fun e => h (by
  injection e with e
  exact ByteArray.ext (Array.toList_inj.1 e))
section
variable {w w' : World} {b N : Nat} {p q : ByteArray → Option Nat} {s : ByteArray}
theorem FM.made (w : World) : FM (w.alloc (.map #[] 0)) w.heap.size 0 (fun _ => none) := ⟨_, World.ownsMap_made w _ _ _, fun z => rfl⟩
theorem FM.lt (h : FM w b N p) : b < w.heap.size := by
  obtain ⟨D, h, -⟩ := h
  exact h.lt
theorem FM.below (h : FM w b N p) (hb : Below w.heap.size w w') : FM w' b N p := by
  have hlt := h.lt
  obtain ⟨D, ⟨es, clock, h1, r1⟩, r⟩ := h
  exact ⟨D, ⟨es, clock, (hb.block b hlt).trans h1, r1⟩, r⟩
theorem fm_key (hs : s.size ≤ 1000) : keyOf Try.prog 9 (.string s) = some (.string s.data.toList) := WideMaps.keyOf_string_mk Try.underlying9 (by unfold maxLen; omega)
theorem fm_zero (w : World) : (zeroValue 75).run Try.prog w = .ok .nilFunc w := by kernel_rfl
theorem FM.look (h : FM w b N p) (hs : s.size ≤ 1000) : (Instr.lookup 76 (.map (some b)) (.string s) true).run Try.prog w = .ok (match p s with | some n => .tuple #[.func (.func n) #[] #[], .bool true] | none => .tuple #[.nilFunc, .bool false]) w := by
  obtain ⟨D, ⟨es, clock, hb, F, _, rfl⟩, r⟩ := h
  have r := r s
  rcases Maps.fit_look true str_law Try.underlying76 (fm_zero w) hb F (fm_key hs) with ⟨hrun, _, hat⟩ | ⟨e0, y, _, _, hrun, hRv, hat, _⟩
  · rw [hat] at r
    have : fnOf (p s) = -1 := (lit_inj r).symm
    cases hp : p s with
    | none => exact hrun
    | some n => rw [hp] at this; simp [fnOf] at this
  · obtain ⟨m, hv, hm⟩ := fnElem_inv hRv
    rw [hat, hm] at r
    have : (m : Int) = fnOf (p s) := lit_inj r
    cases hp : p s with
    | none => rw [hp] at this; simp [fnOf] at this
    | some n =>
      rw [hp] at this
      have e : m = n := by simp [fnOf] at this; omega
      subst e
      rw [hv] at hrun
      exact hrun
theorem FM.put {D : DataW Unit} {n : Nat} (ho : w'.ownsMap Try.prog 9 fnElem b (N + 1) (D.put (.string s.data.toList) (.lit (.int .i64 n)))) (hi : Maps.IsMap D) (r : ∀ s : ByteArray, D.atKey (.string s.data.toList) (.lit (.int .i64 (-1))) = .lit (.int .i64 (fnOf (p s)))) :
    FM w' b (N + 1) (fun y => if y = s then some n else p y) := by
  refine ⟨_, ho, fun y => ?_⟩
  by_cases e : y = s
  · subst e
    rw [Maps.atKey_put_same hi (show WideAt.IsKeyLit (.string y.data.toList) from trivial)]; simp [fnOf]
  · rw [Maps.atKey_put_other (lits_ne e), r y]; simp [e]
end
section
variable (w : World) {ops : Array Oper} {rest : List Oper} {o : Oper} {a : Act} {Q : Exit → Act → World → Prop}
theorem wpl_fmPut (s : ByteArray) (n : Nat) (hg : o.guard = none) (m x v : Operand) (hop : o.op = Op.insert 76 m x v) {b N : Nat} {p : ByteArray → Option Nat} (hs : FM w b N p) (hm : a.eval m = .map (some b)) (hx : a.eval x = .string s) (hv : a.eval v = .func (.func n) #[] #[]) (hz : s.size ≤ 1000) (hN : N ≤ 1000)
    (hK : ∀ w', FM w' b (N + 1) (fun y => if y = s then some n else p y) → w.grownBy w' (some b) → wpList Try.prog ops Q rest (a.put o.dst undef) w') : wpList Try.prog ops Q (o :: rest) a w := by
  obtain ⟨D, ho, r⟩ := hs
  refine wpList_plain hg fun K' hK' => ?_
  obtain ⟨w', hrun, r1, r2⟩ := ho.update str_law Try.underlying76 (by unfold maxLen; omega) (fm_key hz) (fnElem_mk n)
  unfold Oper.wp
  simp [execOp, hop, hm, hx, hv, hrun, Result.andThen]
  exact hK' _ _ (hK w' (FM.put r1 (ho.tidy str_law).isMap r) r2)
theorem wpl_fmLook (hg : o.guard = none) (m x : Operand) (hop : o.op = Op.lookup 76 m x true) {b N : Nat} {p : ByteArray → Option Nat} {s : ByteArray} (hs : FM w b N p) (hm : a.eval m = .map (some b)) (hx : a.eval x = .string s) (hz : s.size ≤ 1000) {v : Value} (hr : (match p s with | some n => Value.tuple #[.func (.func n) #[] #[], .bool true] | none => .tuple #[.nilFunc, .bool false]) = v)
    (hK : wpList Try.prog ops Q rest (a.put o.dst v) w) : wpList Try.prog ops Q (o :: rest) a w := by
  subst hr
  refine wpList_plain hg fun K' hK' => ?_
  unfold Oper.wp
  simp [execOp, hop, hm, hx, hs.look hz, Result.andThen]
  exact hK' _ _ hK
end

theorem i_acctAmt {w : World} {b : Nat} {cs : List Value} (x_a : Vr w b 29 cs) : Calls Try.prog 51 #[.pointer (some ⟨b, 0, none⟩)] w fun e w' => ∃ B T, e = .returned (.slice (some ⟨B, 0, none⟩) 2 2) ∧ Vr w' B T [.pointer (some ⟨b, 1, none⟩), .pointer (some ⟨b, 4, none⟩)] ∧ w.heap.size ≤ B ∧ Below w.heap.size w w' := by
  go_enter Try.func51, Try.ntmps51
  go_wp2_with fail
  go_region
  go_wp2
  go_ret
  exact ⟨_, _, rfl, Vr.new _ _ _, Nat.le_refl _, (Below.refl _ _).drew.alloc (Nat.le_refl _) _⟩

theorem i_acctTo {w : World} {b : Nat} {cs : List Value} (x_a : Vr w b 29 cs) : Calls Try.prog 55 #[.pointer (some ⟨b, 0, none⟩)] w fun e w' => ∃ B T, e = .returned (.slice (some ⟨B, 0, none⟩) 2 2) ∧ Vr w' B T [.pointer (some ⟨b, 1, none⟩), .pointer (some ⟨b, 3, none⟩)] ∧ w.heap.size ≤ B ∧ Below w.heap.size w w' := by
  go_enter Try.func55, Try.ntmps55
  go_wp2_with fail
  go_region
  go_wp2
  go_ret
  exact ⟨_, _, rfl, Vr.new _ _ _, Nat.le_refl _, (Below.refl _ _).drew.alloc (Nat.le_refl _) _⟩

theorem i_toAmt {w : World} {b : Nat} {cs : List Value} (x_a : Vr w b 29 cs) : Calls Try.prog 54 #[.pointer (some ⟨b, 0, none⟩)] w fun e w' => ∃ B T, e = .returned (.slice (some ⟨B, 0, none⟩) 2 2) ∧ Vr w' B T [.pointer (some ⟨b, 3, none⟩), .pointer (some ⟨b, 4, none⟩)] ∧ w.heap.size ≤ B ∧ Below w.heap.size w w' := by
  go_enter Try.func54, Try.ntmps54
  go_wp2_with fail
  go_region
  go_wp2
  go_ret
  exact ⟨_, _, rfl, Vr.new _ _ _, Nat.le_refl _, (Below.refl _ _).drew.alloc (Nat.le_refl _) _⟩

theorem i_acctToAmt {w : World} {b : Nat} {cs : List Value} (x_a : Vr w b 29 cs) : Calls Try.prog 52 #[.pointer (some ⟨b, 0, none⟩)] w fun e w' => ∃ B T, e = .returned (.slice (some ⟨B, 0, none⟩) 3 3) ∧ Vr w' B T [.pointer (some ⟨b, 1, none⟩), .pointer (some ⟨b, 3, none⟩), .pointer (some ⟨b, 4, none⟩)] ∧ w.heap.size ≤ B ∧ Below w.heap.size w w' := by
  go_enter Try.func52, Try.ntmps52
  go_wp2_with fail
  go_region
  go_wp2
  go_ret
  exact ⟨_, _, rfl, Vr.new _ _ _, Nat.le_refl _, (Below.refl _ _).drew.alloc (Nat.le_refl _) _⟩

theorem i_allNums {w : World} {b : Nat} {cs : List Value} (x_a : Vr w b 29 cs) : Calls Try.prog 53 #[.pointer (some ⟨b, 0, none⟩)] w fun e w' => ∃ B T, e = .returned (.slice (some ⟨B, 0, none⟩) 4 4) ∧ Vr w' B T [.pointer (some ⟨b, 1, none⟩), .pointer (some ⟨b, 2, none⟩), .pointer (some ⟨b, 3, none⟩), .pointer (some ⟨b, 4, none⟩)] ∧ w.heap.size ≤ B ∧ Below w.heap.size w w' := by
  go_enter Try.func53, Try.ntmps53
  go_wp2_with fail
  go_region
  go_wp2
  go_ret
  exact ⟨_, _, rfl, Vr.new _ _ _, Nat.le_refl _, (Below.refl _ _).drew.alloc (Nat.le_refl _) _⟩

set_option maxRecDepth 100000 in
set_option maxHeartbeats 4000000 in
theorem iUsed_0 {w : World} {b : Nat} {cs : List Value} (x_a : Vr w b 29 cs) (h0 : cs[0]? = some (.int .i64 0)) : Calls Try.prog 46 #[.pointer (some ⟨b, 0, none⟩)] w fun e w' => e = .returned (.slice none 0 0) ∧ Below w.heap.size w w' := by
  have hmm := @run_makeMap Try.prog
  have hM := FM.made w
  have B0 : Below w.heap.size w (w.alloc (.map #[] 0)) := (Below.refl _ _).alloc (Nat.le_refl _) _
  generalize hw0 : w.alloc (.map #[] 0) = w0 at hM B0
  go_enter Try.func46, Try.ntmps46
  go_wp2_with (refine wpl_fmPut _ ⟨#[99, 111, 109, 101]⟩ 51 rfl _ _ _ rfl hM rfl rfl rfl (by decide) (by omega) ?_)
  intro w1 hM hg
  have B1 := below_fm B0 hg (Nat.le_refl _)
  clear hg
  go_wp2_with (refine wpl_fmPut _ ⟨#[119, 101, 110, 116]⟩ 51 rfl _ _ _ rfl hM rfl rfl rfl (by decide) (by omega) ?_)
  intro w2 hM hg
  have B2 := below_fm B1 hg (Nat.le_refl _)
  clear hg
  go_wp2_with (refine wpl_fmPut _ ⟨#[103, 105, 118, 101]⟩ 52 rfl _ _ _ rfl hM rfl rfl rfl (by decide) (by omega) ?_)
  intro w3 hM hg
  have B3 := below_fm B2 hg (Nat.le_refl _)
  clear hg
  go_wp2_with (refine wpl_fmPut _ ⟨#[109, 111, 118, 101]⟩ 53 rfl _ _ _ rfl hM rfl rfl rfl (by decide) (by omega) ?_)
  intro w4 hM hg
  have B4 := below_fm B3 hg (Nat.le_refl _)
  clear hg
  go_wp2_with (refine wpl_fmPut _ ⟨#[116, 111, 111, 107]⟩ 54 rfl _ _ _ rfl hM rfl rfl rfl (by decide) (by omega) ?_)
  intro w5 hM hg
  have B5 := below_fm B4 hg (Nat.le_refl _)
  clear hg
  go_wp2_with (refine wpl_fmPut _ ⟨#[104, 101, 97, 114, 100]⟩ 54 rfl _ _ _ rfl hM rfl rfl rfl (by decide) (by omega) ?_)
  intro w6 hM hg
  have B6 := below_fm B5 hg (Nat.le_refl _)
  clear hg
  go_wp2_with (refine wpl_fmPut _ ⟨#[112, 114, 111, 109]⟩ 51 rfl _ _ _ rfl hM rfl rfl rfl (by decide) (by omega) ?_)
  intro w7 hM hg
  have B7 := below_fm B6 hg (Nat.le_refl _)
  clear hg
  go_wp2_with (refine wpl_fmPut _ ⟨#[118, 111, 116, 101]⟩ 52 rfl _ _ _ rfl hM rfl rfl rfl (by decide) (by omega) ?_)
  intro w8 hM hg
  have B8 := below_fm B7 hg (Nat.le_refl _)
  clear hg
  go_wp2_with (refine wpl_fmPut _ ⟨#[115, 104, 117, 116]⟩ 55 rfl _ _ _ rfl hM rfl rfl rfl (by decide) (by omega) ?_)
  intro w9 hM hg
  have B9 := below_fm B8 hg (Nat.le_refl _)
  clear hg
  replace x_a := x_a.from_ B9
  have c0 := x_a.cell h0
  go_wp2_with fail
  refine (iRkName_w _ _).mono ?_
  rintro e w' ⟨rfl, rfl⟩
  go_wp2_with (refine wpl_fmLook _ rfl _ _ rfl hM rfl rfl (by decide) (v := .tuple #[.nilFunc, .bool false]) (by rfl) ?_)
  go_wp2
  go_ret
  exact ⟨rfl, B9⟩

set_option maxRecDepth 100000 in
set_option maxHeartbeats 4000000 in
theorem iUsed_1 {w : World} {b : Nat} {cs : List Value} (x_a : Vr w b 29 cs) (h0 : cs[0]? = some (.int .i64 1)) : Calls Try.prog 46 #[.pointer (some ⟨b, 0, none⟩)] w fun e w' => ∃ B T, e = .returned (.slice (some ⟨B, 0, none⟩) 2 2) ∧ Vr w' B T [.pointer (some ⟨b, 1, none⟩), .pointer (some ⟨b, 4, none⟩)] ∧ w.heap.size ≤ B ∧ Below w.heap.size w w' := by
  have eg : ∀ args w, (callFunc 51 args).run Try.prog w = .ok (.enter 51 args) w := enters_of Try.func51 (by kernel_rfl) rfl
  have hmm := @run_makeMap Try.prog
  have hM := FM.made w
  have B0 : Below w.heap.size w (w.alloc (.map #[] 0)) := (Below.refl _ _).alloc (Nat.le_refl _) _
  generalize hw0 : w.alloc (.map #[] 0) = w0 at hM B0
  go_enter Try.func46, Try.ntmps46
  go_wp2_with (refine wpl_fmPut _ ⟨#[99, 111, 109, 101]⟩ 51 rfl _ _ _ rfl hM rfl rfl rfl (by decide) (by omega) ?_)
  intro w1 hM hg
  have B1 := below_fm B0 hg (Nat.le_refl _)
  clear hg
  go_wp2_with (refine wpl_fmPut _ ⟨#[119, 101, 110, 116]⟩ 51 rfl _ _ _ rfl hM rfl rfl rfl (by decide) (by omega) ?_)
  intro w2 hM hg
  have B2 := below_fm B1 hg (Nat.le_refl _)
  clear hg
  go_wp2_with (refine wpl_fmPut _ ⟨#[103, 105, 118, 101]⟩ 52 rfl _ _ _ rfl hM rfl rfl rfl (by decide) (by omega) ?_)
  intro w3 hM hg
  have B3 := below_fm B2 hg (Nat.le_refl _)
  clear hg
  go_wp2_with (refine wpl_fmPut _ ⟨#[109, 111, 118, 101]⟩ 53 rfl _ _ _ rfl hM rfl rfl rfl (by decide) (by omega) ?_)
  intro w4 hM hg
  have B4 := below_fm B3 hg (Nat.le_refl _)
  clear hg
  go_wp2_with (refine wpl_fmPut _ ⟨#[116, 111, 111, 107]⟩ 54 rfl _ _ _ rfl hM rfl rfl rfl (by decide) (by omega) ?_)
  intro w5 hM hg
  have B5 := below_fm B4 hg (Nat.le_refl _)
  clear hg
  go_wp2_with (refine wpl_fmPut _ ⟨#[104, 101, 97, 114, 100]⟩ 54 rfl _ _ _ rfl hM rfl rfl rfl (by decide) (by omega) ?_)
  intro w6 hM hg
  have B6 := below_fm B5 hg (Nat.le_refl _)
  clear hg
  go_wp2_with (refine wpl_fmPut _ ⟨#[112, 114, 111, 109]⟩ 51 rfl _ _ _ rfl hM rfl rfl rfl (by decide) (by omega) ?_)
  intro w7 hM hg
  have B7 := below_fm B6 hg (Nat.le_refl _)
  clear hg
  go_wp2_with (refine wpl_fmPut _ ⟨#[118, 111, 116, 101]⟩ 52 rfl _ _ _ rfl hM rfl rfl rfl (by decide) (by omega) ?_)
  intro w8 hM hg
  have B8 := below_fm B7 hg (Nat.le_refl _)
  clear hg
  go_wp2_with (refine wpl_fmPut _ ⟨#[115, 104, 117, 116]⟩ 55 rfl _ _ _ rfl hM rfl rfl rfl (by decide) (by omega) ?_)
  intro w9 hM hg
  have B9 := below_fm B8 hg (Nat.le_refl _)
  clear hg
  replace x_a := x_a.from_ B9
  have c0 := x_a.cell h0
  go_wp2_with fail
  refine (iRkName_w _ _).mono ?_
  rintro e w' ⟨rfl, rfl⟩
  go_wp2_with (refine wpl_fmLook _ rfl _ _ rfl hM rfl rfl (by decide) (v := .tuple #[.func (.func 51) #[] #[], .bool true]) (by rfl) ?_)
  go_wp2_with fail
  refine (i_acctAmt x_a).mono ?_
  rintro e w' ⟨B, T, rfl, x, hB, hb⟩
  go_wp2
  go_ret
  exact ⟨B, T, rfl, x, Nat.le_trans B9.size hB, B9.trans (hb.mono B9.size)⟩

set_option maxRecDepth 100000 in
set_option maxHeartbeats 4000000 in
theorem iUsed_2 {w : World} {b : Nat} {cs : List Value} (x_a : Vr w b 29 cs) (h0 : cs[0]? = some (.int .i64 2)) : Calls Try.prog 46 #[.pointer (some ⟨b, 0, none⟩)] w fun e w' => ∃ B T, e = .returned (.slice (some ⟨B, 0, none⟩) 2 2) ∧ Vr w' B T [.pointer (some ⟨b, 1, none⟩), .pointer (some ⟨b, 4, none⟩)] ∧ w.heap.size ≤ B ∧ Below w.heap.size w w' := by
  have eg : ∀ args w, (callFunc 51 args).run Try.prog w = .ok (.enter 51 args) w := enters_of Try.func51 (by kernel_rfl) rfl
  have hmm := @run_makeMap Try.prog
  have hM := FM.made w
  have B0 : Below w.heap.size w (w.alloc (.map #[] 0)) := (Below.refl _ _).alloc (Nat.le_refl _) _
  generalize hw0 : w.alloc (.map #[] 0) = w0 at hM B0
  go_enter Try.func46, Try.ntmps46
  go_wp2_with (refine wpl_fmPut _ ⟨#[99, 111, 109, 101]⟩ 51 rfl _ _ _ rfl hM rfl rfl rfl (by decide) (by omega) ?_)
  intro w1 hM hg
  have B1 := below_fm B0 hg (Nat.le_refl _)
  clear hg
  go_wp2_with (refine wpl_fmPut _ ⟨#[119, 101, 110, 116]⟩ 51 rfl _ _ _ rfl hM rfl rfl rfl (by decide) (by omega) ?_)
  intro w2 hM hg
  have B2 := below_fm B1 hg (Nat.le_refl _)
  clear hg
  go_wp2_with (refine wpl_fmPut _ ⟨#[103, 105, 118, 101]⟩ 52 rfl _ _ _ rfl hM rfl rfl rfl (by decide) (by omega) ?_)
  intro w3 hM hg
  have B3 := below_fm B2 hg (Nat.le_refl _)
  clear hg
  go_wp2_with (refine wpl_fmPut _ ⟨#[109, 111, 118, 101]⟩ 53 rfl _ _ _ rfl hM rfl rfl rfl (by decide) (by omega) ?_)
  intro w4 hM hg
  have B4 := below_fm B3 hg (Nat.le_refl _)
  clear hg
  go_wp2_with (refine wpl_fmPut _ ⟨#[116, 111, 111, 107]⟩ 54 rfl _ _ _ rfl hM rfl rfl rfl (by decide) (by omega) ?_)
  intro w5 hM hg
  have B5 := below_fm B4 hg (Nat.le_refl _)
  clear hg
  go_wp2_with (refine wpl_fmPut _ ⟨#[104, 101, 97, 114, 100]⟩ 54 rfl _ _ _ rfl hM rfl rfl rfl (by decide) (by omega) ?_)
  intro w6 hM hg
  have B6 := below_fm B5 hg (Nat.le_refl _)
  clear hg
  go_wp2_with (refine wpl_fmPut _ ⟨#[112, 114, 111, 109]⟩ 51 rfl _ _ _ rfl hM rfl rfl rfl (by decide) (by omega) ?_)
  intro w7 hM hg
  have B7 := below_fm B6 hg (Nat.le_refl _)
  clear hg
  go_wp2_with (refine wpl_fmPut _ ⟨#[118, 111, 116, 101]⟩ 52 rfl _ _ _ rfl hM rfl rfl rfl (by decide) (by omega) ?_)
  intro w8 hM hg
  have B8 := below_fm B7 hg (Nat.le_refl _)
  clear hg
  go_wp2_with (refine wpl_fmPut _ ⟨#[115, 104, 117, 116]⟩ 55 rfl _ _ _ rfl hM rfl rfl rfl (by decide) (by omega) ?_)
  intro w9 hM hg
  have B9 := below_fm B8 hg (Nat.le_refl _)
  clear hg
  replace x_a := x_a.from_ B9
  have c0 := x_a.cell h0
  go_wp2_with fail
  refine (iRkName_w _ _).mono ?_
  rintro e w' ⟨rfl, rfl⟩
  go_wp2_with (refine wpl_fmLook _ rfl _ _ rfl hM rfl rfl (by decide) (v := .tuple #[.func (.func 51) #[] #[], .bool true]) (by rfl) ?_)
  go_wp2_with fail
  refine (i_acctAmt x_a).mono ?_
  rintro e w' ⟨B, T, rfl, x, hB, hb⟩
  go_wp2
  go_ret
  exact ⟨B, T, rfl, x, Nat.le_trans B9.size hB, B9.trans (hb.mono B9.size)⟩

set_option maxRecDepth 100000 in
set_option maxHeartbeats 4000000 in
theorem iUsed_3 {w : World} {b : Nat} {cs : List Value} (x_a : Vr w b 29 cs) (h0 : cs[0]? = some (.int .i64 3)) : Calls Try.prog 46 #[.pointer (some ⟨b, 0, none⟩)] w fun e w' => ∃ B T, e = .returned (.slice (some ⟨B, 0, none⟩) 3 3) ∧ Vr w' B T [.pointer (some ⟨b, 1, none⟩), .pointer (some ⟨b, 3, none⟩), .pointer (some ⟨b, 4, none⟩)] ∧ w.heap.size ≤ B ∧ Below w.heap.size w w' := by
  have eg : ∀ args w, (callFunc 52 args).run Try.prog w = .ok (.enter 52 args) w := enters_of Try.func52 (by kernel_rfl) rfl
  have hmm := @run_makeMap Try.prog
  have hM := FM.made w
  have B0 : Below w.heap.size w (w.alloc (.map #[] 0)) := (Below.refl _ _).alloc (Nat.le_refl _) _
  generalize hw0 : w.alloc (.map #[] 0) = w0 at hM B0
  go_enter Try.func46, Try.ntmps46
  go_wp2_with (refine wpl_fmPut _ ⟨#[99, 111, 109, 101]⟩ 51 rfl _ _ _ rfl hM rfl rfl rfl (by decide) (by omega) ?_)
  intro w1 hM hg
  have B1 := below_fm B0 hg (Nat.le_refl _)
  clear hg
  go_wp2_with (refine wpl_fmPut _ ⟨#[119, 101, 110, 116]⟩ 51 rfl _ _ _ rfl hM rfl rfl rfl (by decide) (by omega) ?_)
  intro w2 hM hg
  have B2 := below_fm B1 hg (Nat.le_refl _)
  clear hg
  go_wp2_with (refine wpl_fmPut _ ⟨#[103, 105, 118, 101]⟩ 52 rfl _ _ _ rfl hM rfl rfl rfl (by decide) (by omega) ?_)
  intro w3 hM hg
  have B3 := below_fm B2 hg (Nat.le_refl _)
  clear hg
  go_wp2_with (refine wpl_fmPut _ ⟨#[109, 111, 118, 101]⟩ 53 rfl _ _ _ rfl hM rfl rfl rfl (by decide) (by omega) ?_)
  intro w4 hM hg
  have B4 := below_fm B3 hg (Nat.le_refl _)
  clear hg
  go_wp2_with (refine wpl_fmPut _ ⟨#[116, 111, 111, 107]⟩ 54 rfl _ _ _ rfl hM rfl rfl rfl (by decide) (by omega) ?_)
  intro w5 hM hg
  have B5 := below_fm B4 hg (Nat.le_refl _)
  clear hg
  go_wp2_with (refine wpl_fmPut _ ⟨#[104, 101, 97, 114, 100]⟩ 54 rfl _ _ _ rfl hM rfl rfl rfl (by decide) (by omega) ?_)
  intro w6 hM hg
  have B6 := below_fm B5 hg (Nat.le_refl _)
  clear hg
  go_wp2_with (refine wpl_fmPut _ ⟨#[112, 114, 111, 109]⟩ 51 rfl _ _ _ rfl hM rfl rfl rfl (by decide) (by omega) ?_)
  intro w7 hM hg
  have B7 := below_fm B6 hg (Nat.le_refl _)
  clear hg
  go_wp2_with (refine wpl_fmPut _ ⟨#[118, 111, 116, 101]⟩ 52 rfl _ _ _ rfl hM rfl rfl rfl (by decide) (by omega) ?_)
  intro w8 hM hg
  have B8 := below_fm B7 hg (Nat.le_refl _)
  clear hg
  go_wp2_with (refine wpl_fmPut _ ⟨#[115, 104, 117, 116]⟩ 55 rfl _ _ _ rfl hM rfl rfl rfl (by decide) (by omega) ?_)
  intro w9 hM hg
  have B9 := below_fm B8 hg (Nat.le_refl _)
  clear hg
  replace x_a := x_a.from_ B9
  have c0 := x_a.cell h0
  go_wp2_with fail
  refine (iRkName_w _ _).mono ?_
  rintro e w' ⟨rfl, rfl⟩
  go_wp2_with (refine wpl_fmLook _ rfl _ _ rfl hM rfl rfl (by decide) (v := .tuple #[.func (.func 52) #[] #[], .bool true]) (by rfl) ?_)
  go_wp2_with fail
  refine (i_acctToAmt x_a).mono ?_
  rintro e w' ⟨B, T, rfl, x, hB, hb⟩
  go_wp2
  go_ret
  exact ⟨B, T, rfl, x, Nat.le_trans B9.size hB, B9.trans (hb.mono B9.size)⟩

set_option maxRecDepth 100000 in
set_option maxHeartbeats 4000000 in
theorem iUsed_4 {w : World} {b : Nat} {cs : List Value} (x_a : Vr w b 29 cs) (h0 : cs[0]? = some (.int .i64 4)) : Calls Try.prog 46 #[.pointer (some ⟨b, 0, none⟩)] w fun e w' => ∃ B T, e = .returned (.slice (some ⟨B, 0, none⟩) 4 4) ∧ Vr w' B T [.pointer (some ⟨b, 1, none⟩), .pointer (some ⟨b, 2, none⟩), .pointer (some ⟨b, 3, none⟩), .pointer (some ⟨b, 4, none⟩)] ∧ w.heap.size ≤ B ∧ Below w.heap.size w w' := by
  have eg : ∀ args w, (callFunc 53 args).run Try.prog w = .ok (.enter 53 args) w := enters_of Try.func53 (by kernel_rfl) rfl
  have hmm := @run_makeMap Try.prog
  have hM := FM.made w
  have B0 : Below w.heap.size w (w.alloc (.map #[] 0)) := (Below.refl _ _).alloc (Nat.le_refl _) _
  generalize hw0 : w.alloc (.map #[] 0) = w0 at hM B0
  go_enter Try.func46, Try.ntmps46
  go_wp2_with (refine wpl_fmPut _ ⟨#[99, 111, 109, 101]⟩ 51 rfl _ _ _ rfl hM rfl rfl rfl (by decide) (by omega) ?_)
  intro w1 hM hg
  have B1 := below_fm B0 hg (Nat.le_refl _)
  clear hg
  go_wp2_with (refine wpl_fmPut _ ⟨#[119, 101, 110, 116]⟩ 51 rfl _ _ _ rfl hM rfl rfl rfl (by decide) (by omega) ?_)
  intro w2 hM hg
  have B2 := below_fm B1 hg (Nat.le_refl _)
  clear hg
  go_wp2_with (refine wpl_fmPut _ ⟨#[103, 105, 118, 101]⟩ 52 rfl _ _ _ rfl hM rfl rfl rfl (by decide) (by omega) ?_)
  intro w3 hM hg
  have B3 := below_fm B2 hg (Nat.le_refl _)
  clear hg
  go_wp2_with (refine wpl_fmPut _ ⟨#[109, 111, 118, 101]⟩ 53 rfl _ _ _ rfl hM rfl rfl rfl (by decide) (by omega) ?_)
  intro w4 hM hg
  have B4 := below_fm B3 hg (Nat.le_refl _)
  clear hg
  go_wp2_with (refine wpl_fmPut _ ⟨#[116, 111, 111, 107]⟩ 54 rfl _ _ _ rfl hM rfl rfl rfl (by decide) (by omega) ?_)
  intro w5 hM hg
  have B5 := below_fm B4 hg (Nat.le_refl _)
  clear hg
  go_wp2_with (refine wpl_fmPut _ ⟨#[104, 101, 97, 114, 100]⟩ 54 rfl _ _ _ rfl hM rfl rfl rfl (by decide) (by omega) ?_)
  intro w6 hM hg
  have B6 := below_fm B5 hg (Nat.le_refl _)
  clear hg
  go_wp2_with (refine wpl_fmPut _ ⟨#[112, 114, 111, 109]⟩ 51 rfl _ _ _ rfl hM rfl rfl rfl (by decide) (by omega) ?_)
  intro w7 hM hg
  have B7 := below_fm B6 hg (Nat.le_refl _)
  clear hg
  go_wp2_with (refine wpl_fmPut _ ⟨#[118, 111, 116, 101]⟩ 52 rfl _ _ _ rfl hM rfl rfl rfl (by decide) (by omega) ?_)
  intro w8 hM hg
  have B8 := below_fm B7 hg (Nat.le_refl _)
  clear hg
  go_wp2_with (refine wpl_fmPut _ ⟨#[115, 104, 117, 116]⟩ 55 rfl _ _ _ rfl hM rfl rfl rfl (by decide) (by omega) ?_)
  intro w9 hM hg
  have B9 := below_fm B8 hg (Nat.le_refl _)
  clear hg
  replace x_a := x_a.from_ B9
  have c0 := x_a.cell h0
  go_wp2_with fail
  refine (iRkName_w _ _).mono ?_
  rintro e w' ⟨rfl, rfl⟩
  go_wp2_with (refine wpl_fmLook _ rfl _ _ rfl hM rfl rfl (by decide) (v := .tuple #[.func (.func 53) #[] #[], .bool true]) (by rfl) ?_)
  go_wp2_with fail
  refine (i_allNums x_a).mono ?_
  rintro e w' ⟨B, T, rfl, x, hB, hb⟩
  go_wp2
  go_ret
  exact ⟨B, T, rfl, x, Nat.le_trans B9.size hB, B9.trans (hb.mono B9.size)⟩

set_option maxRecDepth 100000 in
set_option maxHeartbeats 4000000 in
theorem iUsed_5 {w : World} {b : Nat} {cs : List Value} (x_a : Vr w b 29 cs) (h0 : cs[0]? = some (.int .i64 5)) : Calls Try.prog 46 #[.pointer (some ⟨b, 0, none⟩)] w fun e w' => ∃ B T, e = .returned (.slice (some ⟨B, 0, none⟩) 2 2) ∧ Vr w' B T [.pointer (some ⟨b, 3, none⟩), .pointer (some ⟨b, 4, none⟩)] ∧ w.heap.size ≤ B ∧ Below w.heap.size w w' := by
  have eg : ∀ args w, (callFunc 54 args).run Try.prog w = .ok (.enter 54 args) w := enters_of Try.func54 (by kernel_rfl) rfl
  have hmm := @run_makeMap Try.prog
  have hM := FM.made w
  have B0 : Below w.heap.size w (w.alloc (.map #[] 0)) := (Below.refl _ _).alloc (Nat.le_refl _) _
  generalize hw0 : w.alloc (.map #[] 0) = w0 at hM B0
  go_enter Try.func46, Try.ntmps46
  go_wp2_with (refine wpl_fmPut _ ⟨#[99, 111, 109, 101]⟩ 51 rfl _ _ _ rfl hM rfl rfl rfl (by decide) (by omega) ?_)
  intro w1 hM hg
  have B1 := below_fm B0 hg (Nat.le_refl _)
  clear hg
  go_wp2_with (refine wpl_fmPut _ ⟨#[119, 101, 110, 116]⟩ 51 rfl _ _ _ rfl hM rfl rfl rfl (by decide) (by omega) ?_)
  intro w2 hM hg
  have B2 := below_fm B1 hg (Nat.le_refl _)
  clear hg
  go_wp2_with (refine wpl_fmPut _ ⟨#[103, 105, 118, 101]⟩ 52 rfl _ _ _ rfl hM rfl rfl rfl (by decide) (by omega) ?_)
  intro w3 hM hg
  have B3 := below_fm B2 hg (Nat.le_refl _)
  clear hg
  go_wp2_with (refine wpl_fmPut _ ⟨#[109, 111, 118, 101]⟩ 53 rfl _ _ _ rfl hM rfl rfl rfl (by decide) (by omega) ?_)
  intro w4 hM hg
  have B4 := below_fm B3 hg (Nat.le_refl _)
  clear hg
  go_wp2_with (refine wpl_fmPut _ ⟨#[116, 111, 111, 107]⟩ 54 rfl _ _ _ rfl hM rfl rfl rfl (by decide) (by omega) ?_)
  intro w5 hM hg
  have B5 := below_fm B4 hg (Nat.le_refl _)
  clear hg
  go_wp2_with (refine wpl_fmPut _ ⟨#[104, 101, 97, 114, 100]⟩ 54 rfl _ _ _ rfl hM rfl rfl rfl (by decide) (by omega) ?_)
  intro w6 hM hg
  have B6 := below_fm B5 hg (Nat.le_refl _)
  clear hg
  go_wp2_with (refine wpl_fmPut _ ⟨#[112, 114, 111, 109]⟩ 51 rfl _ _ _ rfl hM rfl rfl rfl (by decide) (by omega) ?_)
  intro w7 hM hg
  have B7 := below_fm B6 hg (Nat.le_refl _)
  clear hg
  go_wp2_with (refine wpl_fmPut _ ⟨#[118, 111, 116, 101]⟩ 52 rfl _ _ _ rfl hM rfl rfl rfl (by decide) (by omega) ?_)
  intro w8 hM hg
  have B8 := below_fm B7 hg (Nat.le_refl _)
  clear hg
  go_wp2_with (refine wpl_fmPut _ ⟨#[115, 104, 117, 116]⟩ 55 rfl _ _ _ rfl hM rfl rfl rfl (by decide) (by omega) ?_)
  intro w9 hM hg
  have B9 := below_fm B8 hg (Nat.le_refl _)
  clear hg
  replace x_a := x_a.from_ B9
  have c0 := x_a.cell h0
  go_wp2_with fail
  refine (iRkName_w _ _).mono ?_
  rintro e w' ⟨rfl, rfl⟩
  go_wp2_with (refine wpl_fmLook _ rfl _ _ rfl hM rfl rfl (by decide) (v := .tuple #[.func (.func 54) #[] #[], .bool true]) (by rfl) ?_)
  go_wp2_with fail
  refine (i_toAmt x_a).mono ?_
  rintro e w' ⟨B, T, rfl, x, hB, hb⟩
  go_wp2
  go_ret
  exact ⟨B, T, rfl, x, Nat.le_trans B9.size hB, B9.trans (hb.mono B9.size)⟩

set_option maxRecDepth 100000 in
set_option maxHeartbeats 4000000 in
theorem iUsed_6 {w : World} {b : Nat} {cs : List Value} (x_a : Vr w b 29 cs) (h0 : cs[0]? = some (.int .i64 6)) : Calls Try.prog 46 #[.pointer (some ⟨b, 0, none⟩)] w fun e w' => ∃ B T, e = .returned (.slice (some ⟨B, 0, none⟩) 2 2) ∧ Vr w' B T [.pointer (some ⟨b, 3, none⟩), .pointer (some ⟨b, 4, none⟩)] ∧ w.heap.size ≤ B ∧ Below w.heap.size w w' := by
  have eg : ∀ args w, (callFunc 54 args).run Try.prog w = .ok (.enter 54 args) w := enters_of Try.func54 (by kernel_rfl) rfl
  have hmm := @run_makeMap Try.prog
  have hM := FM.made w
  have B0 : Below w.heap.size w (w.alloc (.map #[] 0)) := (Below.refl _ _).alloc (Nat.le_refl _) _
  generalize hw0 : w.alloc (.map #[] 0) = w0 at hM B0
  go_enter Try.func46, Try.ntmps46
  go_wp2_with (refine wpl_fmPut _ ⟨#[99, 111, 109, 101]⟩ 51 rfl _ _ _ rfl hM rfl rfl rfl (by decide) (by omega) ?_)
  intro w1 hM hg
  have B1 := below_fm B0 hg (Nat.le_refl _)
  clear hg
  go_wp2_with (refine wpl_fmPut _ ⟨#[119, 101, 110, 116]⟩ 51 rfl _ _ _ rfl hM rfl rfl rfl (by decide) (by omega) ?_)
  intro w2 hM hg
  have B2 := below_fm B1 hg (Nat.le_refl _)
  clear hg
  go_wp2_with (refine wpl_fmPut _ ⟨#[103, 105, 118, 101]⟩ 52 rfl _ _ _ rfl hM rfl rfl rfl (by decide) (by omega) ?_)
  intro w3 hM hg
  have B3 := below_fm B2 hg (Nat.le_refl _)
  clear hg
  go_wp2_with (refine wpl_fmPut _ ⟨#[109, 111, 118, 101]⟩ 53 rfl _ _ _ rfl hM rfl rfl rfl (by decide) (by omega) ?_)
  intro w4 hM hg
  have B4 := below_fm B3 hg (Nat.le_refl _)
  clear hg
  go_wp2_with (refine wpl_fmPut _ ⟨#[116, 111, 111, 107]⟩ 54 rfl _ _ _ rfl hM rfl rfl rfl (by decide) (by omega) ?_)
  intro w5 hM hg
  have B5 := below_fm B4 hg (Nat.le_refl _)
  clear hg
  go_wp2_with (refine wpl_fmPut _ ⟨#[104, 101, 97, 114, 100]⟩ 54 rfl _ _ _ rfl hM rfl rfl rfl (by decide) (by omega) ?_)
  intro w6 hM hg
  have B6 := below_fm B5 hg (Nat.le_refl _)
  clear hg
  go_wp2_with (refine wpl_fmPut _ ⟨#[112, 114, 111, 109]⟩ 51 rfl _ _ _ rfl hM rfl rfl rfl (by decide) (by omega) ?_)
  intro w7 hM hg
  have B7 := below_fm B6 hg (Nat.le_refl _)
  clear hg
  go_wp2_with (refine wpl_fmPut _ ⟨#[118, 111, 116, 101]⟩ 52 rfl _ _ _ rfl hM rfl rfl rfl (by decide) (by omega) ?_)
  intro w8 hM hg
  have B8 := below_fm B7 hg (Nat.le_refl _)
  clear hg
  go_wp2_with (refine wpl_fmPut _ ⟨#[115, 104, 117, 116]⟩ 55 rfl _ _ _ rfl hM rfl rfl rfl (by decide) (by omega) ?_)
  intro w9 hM hg
  have B9 := below_fm B8 hg (Nat.le_refl _)
  clear hg
  replace x_a := x_a.from_ B9
  have c0 := x_a.cell h0
  go_wp2_with fail
  refine (iRkName_w _ _).mono ?_
  rintro e w' ⟨rfl, rfl⟩
  go_wp2_with (refine wpl_fmLook _ rfl _ _ rfl hM rfl rfl (by decide) (v := .tuple #[.func (.func 54) #[] #[], .bool true]) (by rfl) ?_)
  go_wp2_with fail
  refine (i_toAmt x_a).mono ?_
  rintro e w' ⟨B, T, rfl, x, hB, hb⟩
  go_wp2
  go_ret
  exact ⟨B, T, rfl, x, Nat.le_trans B9.size hB, B9.trans (hb.mono B9.size)⟩

set_option maxRecDepth 100000 in
set_option maxHeartbeats 4000000 in
theorem iUsed_7 {w : World} {b : Nat} {cs : List Value} (x_a : Vr w b 29 cs) (h0 : cs[0]? = some (.int .i64 7)) : Calls Try.prog 46 #[.pointer (some ⟨b, 0, none⟩)] w fun e w' => ∃ B T, e = .returned (.slice (some ⟨B, 0, none⟩) 2 2) ∧ Vr w' B T [.pointer (some ⟨b, 1, none⟩), .pointer (some ⟨b, 4, none⟩)] ∧ w.heap.size ≤ B ∧ Below w.heap.size w w' := by
  have eg : ∀ args w, (callFunc 51 args).run Try.prog w = .ok (.enter 51 args) w := enters_of Try.func51 (by kernel_rfl) rfl
  have hmm := @run_makeMap Try.prog
  have hM := FM.made w
  have B0 : Below w.heap.size w (w.alloc (.map #[] 0)) := (Below.refl _ _).alloc (Nat.le_refl _) _
  generalize hw0 : w.alloc (.map #[] 0) = w0 at hM B0
  go_enter Try.func46, Try.ntmps46
  go_wp2_with (refine wpl_fmPut _ ⟨#[99, 111, 109, 101]⟩ 51 rfl _ _ _ rfl hM rfl rfl rfl (by decide) (by omega) ?_)
  intro w1 hM hg
  have B1 := below_fm B0 hg (Nat.le_refl _)
  clear hg
  go_wp2_with (refine wpl_fmPut _ ⟨#[119, 101, 110, 116]⟩ 51 rfl _ _ _ rfl hM rfl rfl rfl (by decide) (by omega) ?_)
  intro w2 hM hg
  have B2 := below_fm B1 hg (Nat.le_refl _)
  clear hg
  go_wp2_with (refine wpl_fmPut _ ⟨#[103, 105, 118, 101]⟩ 52 rfl _ _ _ rfl hM rfl rfl rfl (by decide) (by omega) ?_)
  intro w3 hM hg
  have B3 := below_fm B2 hg (Nat.le_refl _)
  clear hg
  go_wp2_with (refine wpl_fmPut _ ⟨#[109, 111, 118, 101]⟩ 53 rfl _ _ _ rfl hM rfl rfl rfl (by decide) (by omega) ?_)
  intro w4 hM hg
  have B4 := below_fm B3 hg (Nat.le_refl _)
  clear hg
  go_wp2_with (refine wpl_fmPut _ ⟨#[116, 111, 111, 107]⟩ 54 rfl _ _ _ rfl hM rfl rfl rfl (by decide) (by omega) ?_)
  intro w5 hM hg
  have B5 := below_fm B4 hg (Nat.le_refl _)
  clear hg
  go_wp2_with (refine wpl_fmPut _ ⟨#[104, 101, 97, 114, 100]⟩ 54 rfl _ _ _ rfl hM rfl rfl rfl (by decide) (by omega) ?_)
  intro w6 hM hg
  have B6 := below_fm B5 hg (Nat.le_refl _)
  clear hg
  go_wp2_with (refine wpl_fmPut _ ⟨#[112, 114, 111, 109]⟩ 51 rfl _ _ _ rfl hM rfl rfl rfl (by decide) (by omega) ?_)
  intro w7 hM hg
  have B7 := below_fm B6 hg (Nat.le_refl _)
  clear hg
  go_wp2_with (refine wpl_fmPut _ ⟨#[118, 111, 116, 101]⟩ 52 rfl _ _ _ rfl hM rfl rfl rfl (by decide) (by omega) ?_)
  intro w8 hM hg
  have B8 := below_fm B7 hg (Nat.le_refl _)
  clear hg
  go_wp2_with (refine wpl_fmPut _ ⟨#[115, 104, 117, 116]⟩ 55 rfl _ _ _ rfl hM rfl rfl rfl (by decide) (by omega) ?_)
  intro w9 hM hg
  have B9 := below_fm B8 hg (Nat.le_refl _)
  clear hg
  replace x_a := x_a.from_ B9
  have c0 := x_a.cell h0
  go_wp2_with fail
  refine (iRkName_w _ _).mono ?_
  rintro e w' ⟨rfl, rfl⟩
  go_wp2_with (refine wpl_fmLook _ rfl _ _ rfl hM rfl rfl (by decide) (v := .tuple #[.func (.func 51) #[] #[], .bool true]) (by rfl) ?_)
  go_wp2_with fail
  refine (i_acctAmt x_a).mono ?_
  rintro e w' ⟨B, T, rfl, x, hB, hb⟩
  go_wp2
  go_ret
  exact ⟨B, T, rfl, x, Nat.le_trans B9.size hB, B9.trans (hb.mono B9.size)⟩

set_option maxRecDepth 100000 in
set_option maxHeartbeats 4000000 in
theorem iUsed_8 {w : World} {b : Nat} {cs : List Value} (x_a : Vr w b 29 cs) (h0 : cs[0]? = some (.int .i64 8)) : Calls Try.prog 46 #[.pointer (some ⟨b, 0, none⟩)] w fun e w' => ∃ B T, e = .returned (.slice (some ⟨B, 0, none⟩) 3 3) ∧ Vr w' B T [.pointer (some ⟨b, 1, none⟩), .pointer (some ⟨b, 3, none⟩), .pointer (some ⟨b, 4, none⟩)] ∧ w.heap.size ≤ B ∧ Below w.heap.size w w' := by
  have eg : ∀ args w, (callFunc 52 args).run Try.prog w = .ok (.enter 52 args) w := enters_of Try.func52 (by kernel_rfl) rfl
  have hmm := @run_makeMap Try.prog
  have hM := FM.made w
  have B0 : Below w.heap.size w (w.alloc (.map #[] 0)) := (Below.refl _ _).alloc (Nat.le_refl _) _
  generalize hw0 : w.alloc (.map #[] 0) = w0 at hM B0
  go_enter Try.func46, Try.ntmps46
  go_wp2_with (refine wpl_fmPut _ ⟨#[99, 111, 109, 101]⟩ 51 rfl _ _ _ rfl hM rfl rfl rfl (by decide) (by omega) ?_)
  intro w1 hM hg
  have B1 := below_fm B0 hg (Nat.le_refl _)
  clear hg
  go_wp2_with (refine wpl_fmPut _ ⟨#[119, 101, 110, 116]⟩ 51 rfl _ _ _ rfl hM rfl rfl rfl (by decide) (by omega) ?_)
  intro w2 hM hg
  have B2 := below_fm B1 hg (Nat.le_refl _)
  clear hg
  go_wp2_with (refine wpl_fmPut _ ⟨#[103, 105, 118, 101]⟩ 52 rfl _ _ _ rfl hM rfl rfl rfl (by decide) (by omega) ?_)
  intro w3 hM hg
  have B3 := below_fm B2 hg (Nat.le_refl _)
  clear hg
  go_wp2_with (refine wpl_fmPut _ ⟨#[109, 111, 118, 101]⟩ 53 rfl _ _ _ rfl hM rfl rfl rfl (by decide) (by omega) ?_)
  intro w4 hM hg
  have B4 := below_fm B3 hg (Nat.le_refl _)
  clear hg
  go_wp2_with (refine wpl_fmPut _ ⟨#[116, 111, 111, 107]⟩ 54 rfl _ _ _ rfl hM rfl rfl rfl (by decide) (by omega) ?_)
  intro w5 hM hg
  have B5 := below_fm B4 hg (Nat.le_refl _)
  clear hg
  go_wp2_with (refine wpl_fmPut _ ⟨#[104, 101, 97, 114, 100]⟩ 54 rfl _ _ _ rfl hM rfl rfl rfl (by decide) (by omega) ?_)
  intro w6 hM hg
  have B6 := below_fm B5 hg (Nat.le_refl _)
  clear hg
  go_wp2_with (refine wpl_fmPut _ ⟨#[112, 114, 111, 109]⟩ 51 rfl _ _ _ rfl hM rfl rfl rfl (by decide) (by omega) ?_)
  intro w7 hM hg
  have B7 := below_fm B6 hg (Nat.le_refl _)
  clear hg
  go_wp2_with (refine wpl_fmPut _ ⟨#[118, 111, 116, 101]⟩ 52 rfl _ _ _ rfl hM rfl rfl rfl (by decide) (by omega) ?_)
  intro w8 hM hg
  have B8 := below_fm B7 hg (Nat.le_refl _)
  clear hg
  go_wp2_with (refine wpl_fmPut _ ⟨#[115, 104, 117, 116]⟩ 55 rfl _ _ _ rfl hM rfl rfl rfl (by decide) (by omega) ?_)
  intro w9 hM hg
  have B9 := below_fm B8 hg (Nat.le_refl _)
  clear hg
  replace x_a := x_a.from_ B9
  have c0 := x_a.cell h0
  go_wp2_with fail
  refine (iRkName_w _ _).mono ?_
  rintro e w' ⟨rfl, rfl⟩
  go_wp2_with (refine wpl_fmLook _ rfl _ _ rfl hM rfl rfl (by decide) (v := .tuple #[.func (.func 52) #[] #[], .bool true]) (by rfl) ?_)
  go_wp2_with fail
  refine (i_acctToAmt x_a).mono ?_
  rintro e w' ⟨B, T, rfl, x, hB, hb⟩
  go_wp2
  go_ret
  exact ⟨B, T, rfl, x, Nat.le_trans B9.size hB, B9.trans (hb.mono B9.size)⟩

set_option maxRecDepth 100000 in
set_option maxHeartbeats 4000000 in
theorem iUsed_9 {w : World} {b : Nat} {cs : List Value} (x_a : Vr w b 29 cs) (h0 : cs[0]? = some (.int .i64 9)) : Calls Try.prog 46 #[.pointer (some ⟨b, 0, none⟩)] w fun e w' => ∃ B T, e = .returned (.slice (some ⟨B, 0, none⟩) 2 2) ∧ Vr w' B T [.pointer (some ⟨b, 1, none⟩), .pointer (some ⟨b, 3, none⟩)] ∧ w.heap.size ≤ B ∧ Below w.heap.size w w' := by
  have eg : ∀ args w, (callFunc 55 args).run Try.prog w = .ok (.enter 55 args) w := enters_of Try.func55 (by kernel_rfl) rfl
  have hmm := @run_makeMap Try.prog
  have hM := FM.made w
  have B0 : Below w.heap.size w (w.alloc (.map #[] 0)) := (Below.refl _ _).alloc (Nat.le_refl _) _
  generalize hw0 : w.alloc (.map #[] 0) = w0 at hM B0
  go_enter Try.func46, Try.ntmps46
  go_wp2_with (refine wpl_fmPut _ ⟨#[99, 111, 109, 101]⟩ 51 rfl _ _ _ rfl hM rfl rfl rfl (by decide) (by omega) ?_)
  intro w1 hM hg
  have B1 := below_fm B0 hg (Nat.le_refl _)
  clear hg
  go_wp2_with (refine wpl_fmPut _ ⟨#[119, 101, 110, 116]⟩ 51 rfl _ _ _ rfl hM rfl rfl rfl (by decide) (by omega) ?_)
  intro w2 hM hg
  have B2 := below_fm B1 hg (Nat.le_refl _)
  clear hg
  go_wp2_with (refine wpl_fmPut _ ⟨#[103, 105, 118, 101]⟩ 52 rfl _ _ _ rfl hM rfl rfl rfl (by decide) (by omega) ?_)
  intro w3 hM hg
  have B3 := below_fm B2 hg (Nat.le_refl _)
  clear hg
  go_wp2_with (refine wpl_fmPut _ ⟨#[109, 111, 118, 101]⟩ 53 rfl _ _ _ rfl hM rfl rfl rfl (by decide) (by omega) ?_)
  intro w4 hM hg
  have B4 := below_fm B3 hg (Nat.le_refl _)
  clear hg
  go_wp2_with (refine wpl_fmPut _ ⟨#[116, 111, 111, 107]⟩ 54 rfl _ _ _ rfl hM rfl rfl rfl (by decide) (by omega) ?_)
  intro w5 hM hg
  have B5 := below_fm B4 hg (Nat.le_refl _)
  clear hg
  go_wp2_with (refine wpl_fmPut _ ⟨#[104, 101, 97, 114, 100]⟩ 54 rfl _ _ _ rfl hM rfl rfl rfl (by decide) (by omega) ?_)
  intro w6 hM hg
  have B6 := below_fm B5 hg (Nat.le_refl _)
  clear hg
  go_wp2_with (refine wpl_fmPut _ ⟨#[112, 114, 111, 109]⟩ 51 rfl _ _ _ rfl hM rfl rfl rfl (by decide) (by omega) ?_)
  intro w7 hM hg
  have B7 := below_fm B6 hg (Nat.le_refl _)
  clear hg
  go_wp2_with (refine wpl_fmPut _ ⟨#[118, 111, 116, 101]⟩ 52 rfl _ _ _ rfl hM rfl rfl rfl (by decide) (by omega) ?_)
  intro w8 hM hg
  have B8 := below_fm B7 hg (Nat.le_refl _)
  clear hg
  go_wp2_with (refine wpl_fmPut _ ⟨#[115, 104, 117, 116]⟩ 55 rfl _ _ _ rfl hM rfl rfl rfl (by decide) (by omega) ?_)
  intro w9 hM hg
  have B9 := below_fm B8 hg (Nat.le_refl _)
  clear hg
  replace x_a := x_a.from_ B9
  have c0 := x_a.cell h0
  go_wp2_with fail
  refine (iRkName_w _ _).mono ?_
  rintro e w' ⟨rfl, rfl⟩
  go_wp2_with (refine wpl_fmLook _ rfl _ _ rfl hM rfl rfl (by decide) (v := .tuple #[.func (.func 55) #[] #[], .bool true]) (by rfl) ?_)
  go_wp2_with fail
  refine (i_acctTo x_a).mono ?_
  rintro e w' ⟨B, T, rfl, x, hB, hb⟩
  go_wp2
  go_ret
  exact ⟨B, T, rfl, x, Nat.le_trans B9.size hB, B9.trans (hb.mono B9.size)⟩

end Go.Proofs.Ytkbhbccpmmhelaa
