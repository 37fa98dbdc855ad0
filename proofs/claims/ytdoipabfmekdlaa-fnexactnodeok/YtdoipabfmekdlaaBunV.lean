/- Texts joined: Vt4, Vt5, VtI1, MapB, Ac3, Ac4. -/
import Derived.Test.YtdoipabfmekdlaaBunC
import Derived.IntWalk
import Derived.Maps.OwnSet
import Derived.BigQuiet

namespace Go.Proofs.Ytdoipabfmekdlaa
open Go.RowKit
set_option linter.unusedVariables false

def hearB (p : MProp) (n b u : Int) : Bool := propOkB p && (inB n 0 3 && (!hasI p.From n && (inB b 0 (p.Bal - 1) && !(decide (0 < b) && !inB u 1 4))))
def propHear (p : MProp) (n b u : Int) : MProp := if hearB p n b u = true then (if p.Best < b then ⟨p.Bal, u, addI p.From n, b, p.Got⟩ else ⟨p.Bal, p.Val, addI p.From n, p.Best, p.Got⟩) else p
def gotB (p : MProp) (n : Int) : Bool := propOkB p && (inB n 0 3 && !hasI p.Got n)
def propGot (p : MProp) (n : Int) : MProp := if gotB p n = true then ⟨p.Bal, p.Val, p.From, p.Best, addI p.Got n⟩ else p
theorem addI_len (l : List Int) (n : Int) : (addI l n).length ≤ 2 * l.length + 1 := by
  unfold addI
  have h1 := List.length_filter_le (fun x => decide (x < n)) l
  have h2 := List.length_filter_le (fun x => decide (n < x)) l
  simp only [List.length_append, List.length_singleton]
  omega
theorem ov_prop_parts {w : World} {lo hi : Nat} {v : Value} {p : MProp} (h : OV propL w lo hi v p) : ∃ AF cF AT cT, v = .agg #[.int .i64 p.Bal, .int .i64 p.Val, .slice AF p.From.length cF, .int .i64 p.Best, .slice AT p.Got.length cT] ∧
    OS .i64 3 w lo hi (.slice AF p.From.length cF) p.From ∧ OS .i64 3 w lo hi (.slice AT p.Got.length cT) p.Got := by
  obtain ⟨cs, S, rfl, ho, hn, hS, hh⟩ := h
  obtain ⟨_, _, S1, T1, rfl, rfl, ⟨rfl, rfl⟩, _, _, S2, T2, rfl, rfl, ⟨rfl, rfl⟩, _, _, S3, T3, rfl, rfl, ⟨vF, rfl, oF, rfl⟩, _, _, S4, T4, rfl, rfl, ⟨rfl, rfl⟩, ⟨vT, rfl, oT, rfl⟩⟩ := ho
  simp only [List.nil_append] at hn hS
  obtain ⟨n1, n2, -, -⟩ := nodup_app hn
  have qF : OS .i64 3 w lo hi vF p.From := ov_ints.1 ⟨[vF], _, rfl, ⟨vF, rfl, oF, rfl⟩, n1, fun j hj => hS j (List.mem_append.2 (.inl hj)), hh⟩
  have qT : OS .i64 3 w lo hi vT p.Got := ov_ints.1 ⟨[vT], _, rfl, ⟨vT, rfl, oT, rfl⟩, n2, fun j hj => hS j (List.mem_append.2 (.inr hj)), hh⟩
  obtain ⟨AF, cF, rfl, -, -, -⟩ := qF.rd
  obtain ⟨AT, cT, rfl, -, -, -⟩ := qT.rd
  exact ⟨AF, cF, AT, cT, rfl, qF, qT⟩

theorem propOk_bal {p : MProp} (h : propOkB p = true) : 1 ≤ p.Bal ∧ p.Bal ≤ 1125899906842624 := by
  unfold propOkB at h
  simp only [Bool.and_eq_true, inB_true] at h
  exact h.1

end Go.Proofs.Ytdoipabfmekdlaa

namespace Go.Proofs.Ytdoipabfmekdlaa
open Go.RowKit
set_option linter.unusedVariables false

theorem propNew_bulk (b u : Int) : (propNew b u).bulk ≤ 16777216 := by
  unfold propNew
  split <;> simp [MProp.bulk, propZ]

theorem propHear_bulk (p : MProp) (n b u : Int) : (propHear p n b u).bulk ≤ 2 * p.bulk + 1 := by
  have h := addI_len p.From n
  unfold propHear
  split
  · split <;> (unfold MProp.bulk; simp only; omega)
  · omega

theorem propGot_bulk (p : MProp) (n : Int) : (propGot p n).bulk ≤ 2 * p.bulk + 1 := by
  have h := addI_len p.Got n
  unfold propGot
  split
  · unfold MProp.bulk; simp only; omega
  · omega

end Go.Proofs.Ytdoipabfmekdlaa

namespace Go.Proofs.Ytdoipabfmekdlaa
open Go.RowKit
set_option linter.unusedVariables false

def promB (B b u : Int) : Bool := inB b 0 (B - 1) && !(decide (0 < b) && !inB u 1 4)
theorem wrange {x : Int} (h : -9223372036854775808 ≤ x ∧ x ≤ 9223372036854775807) : IntKind.i64.wrap x = x := IntWalk.i64_in _ (by omega)

theorem iChoice_any (n : Int) (w : World) : Calls Try.prog 102 #[.int .i64 n] w fun e w' => e = .returned (.bool (inB n 1 4)) ∧ w = w' := by
  by_cases h0 : 1 ≤ n
  · by_cases h1 : n ≤ 4
    · rw [inB_true.2 (by omega)]
      have i0 : decide (1 ≤ n) = true := decide_eq_true h0
      have i1 : decide (n ≤ 4) = true := decide_eq_true h1
      go_enter Try.func102, Try.ntmps102
      go_wp2
      go_ret
      exact ⟨rfl, rfl⟩
    · rw [inB_false.2 (by omega)]
      have i0 : decide (1 ≤ n) = true := decide_eq_true h0
      have i1 : decide (n ≤ 4) = false := decide_eq_false h1
      go_enter Try.func102, Try.ntmps102
      go_wp2
      go_ret
      exact ⟨rfl, rfl⟩
  · rw [inB_false.2 (by omega)]
    have i1 : decide (1 ≤ n) = false := decide_eq_false h0
    go_enter Try.func102, Try.ntmps102
    go_wp2
    go_ret
    exact ⟨rfl, rfl⟩

set_option maxHeartbeats 1000000 in
theorem iAccOk_c {w : World} {v : Value} {a : MAcc} (h : RV accL w v a) : Calls Try.prog 77 #[v] w fun e w' => e = .returned (.bool (accOkB a)) ∧ Below w.heap.size w w' := by
  obtain rfl := rv_acc h
  clear h
  obtain ⟨wa, hwa, B0, sa, x_a⟩ := frame1 w 56 [.int .i64 a.Prom, .int .i64 a.Bal, .int .i64 a.Val]
  have sa_1 := Nat.le_of_eq sa
  have sa_2 := Nat.le_of_eq sa.symm
  clear sa
  have c_a_0_wa := x_a.cell (i := 0) rfl
  have c_a_1_wa := x_a.cell (i := 1) rfl
  have c_a_2_wa := x_a.cell (i := 2) rfl
  by_cases h1 : a.Bal = 0
  case pos =>
    have i1 : (a.Bal == 0) = true := by simpa using h1
    by_cases h2 : a.Val = 0
    case pos =>
      have i2 : (a.Val == 0) = true := by simpa using h2
      have HO : Hid (accOkB a = numB a.Prom) := by
        show _ = _
        unfold accOkB
        rw [decide_eq_true h1, decide_eq_true h2]
        cases hp : numB a.Prom
        · rfl
        · have b0 : 0 ≤ a.Prom ∧ a.Prom ≤ 1125899906842624 := by simpa [numB] using hp
          rw [inB_true.2 (by omega)]
          simp
      clear h1 h2
      go_enter Try.func77, Try.ntmps77
      go_wp2_with fail
      refine (iNum_any _ _).mono ?_
      rintro e w' ⟨rfl, rfl⟩
      go_wp2
      go_ret
      exact ⟨ret_eq (by rw [HO.out]; rfl), B0⟩
    case neg =>
      have i2 : (a.Val == 0) = false := by simpa using h2
      have hz : ¬ (a.Bal = 0 ∧ a.Val = 0) := fun c => h2 c.2
      clear h2
      have hb0 := Lib.hid h1
      clear h1
      have h1 := hb0.out
      have i3 : decide (1 ≤ a.Bal) = false := decide_eq_false (by omega)
      have HO : Hid (accOkB a = false) := by
        show _ = _
        refine Bool.eq_false_iff.2 (fun c => ?_)
        simp only [accOkB, Bool.and_eq_true, Bool.or_eq_true, decide_eq_true_eq] at c
        obtain ⟨c1, c2, c3⟩ := c
        rcases c3 with ⟨c3, c4⟩ | ⟨c3, c4⟩
        · omega
        · exact hz ⟨c4, c3⟩
      clear h1 hz
      cases hP : numB a.Prom
      case false =>
        have HP := Lib.hid hP
        clear hP
        go_enter Try.func77, Try.ntmps77
        go_wp2_with fail
        refine (iNum_any _ _).mono ?_
        rintro e w' ⟨rfl, rfl⟩
        rw [HP.out]
        go_wp2
        go_ret
        exact ⟨ret_eq (by rw [HO.out]; rfl), B0⟩
      case true =>
        have HP := Lib.hid hP
        clear hP
        go_enter Try.func77, Try.ntmps77
        go_wp2_with fail
        refine (iNum_any _ _).mono ?_
        rintro e w' ⟨rfl, rfl⟩
        rw [HP.out]
        go_wp2
        go_ret
        exact ⟨ret_eq (by rw [HO.out]; rfl), B0⟩
  case neg =>
    have i1 : (a.Bal == 0) = false := by simpa using h1
    have hz : ¬ (a.Bal = 0 ∧ a.Val = 0) := fun c => h1 c.1
    clear h1
    by_cases hP : numB a.Prom = true
    case neg =>
      replace hP : numB a.Prom = false := by simpa using hP
      have HO : Hid (accOkB a = false) := by
        show _ = _
        refine Bool.eq_false_iff.2 (fun c => ?_)
        simp only [accOkB, Bool.and_eq_true, Bool.or_eq_true, decide_eq_true_eq] at c
        obtain ⟨c1, c2, c3⟩ := c
        have c2 := inB_true.1 c2
        rcases c3 with ⟨c3, c4⟩ | ⟨c3, c4⟩
        · rw [hP] at c1; cases c1
        · exact hz ⟨c4, c3⟩
      have HP := Lib.hid hP
      clear hP hz
      go_enter Try.func77, Try.ntmps77
      go_wp2_with fail
      refine (iNum_any _ _).mono ?_
      rintro e w' ⟨rfl, rfl⟩
      rw [HP.out]
      go_wp2
      go_ret
      exact ⟨ret_eq (by rw [HO.out]; rfl), B0⟩
    have HP := Lib.hid hP
    by_cases hB : 1 ≤ a.Bal
    case neg =>
      have HO : Hid (accOkB a = false) := by
        show _ = _
        refine Bool.eq_false_iff.2 (fun c => ?_)
        simp only [accOkB, Bool.and_eq_true, Bool.or_eq_true, decide_eq_true_eq] at c
        obtain ⟨c1, c2, c3⟩ := c
        have c2 := inB_true.1 c2
        rcases c3 with ⟨c3, c4⟩ | ⟨c3, c4⟩
        · omega
        · exact hz ⟨c4, c3⟩
      have i3 : decide (1 ≤ a.Bal) = false := decide_eq_false hB
      clear hP hz
      go_enter Try.func77, Try.ntmps77
      go_wp2_with fail
      refine (iNum_any _ _).mono ?_
      rintro e w' ⟨rfl, rfl⟩
      rw [HP.out]
      go_wp2
      go_ret
      exact ⟨ret_eq (by rw [HO.out]; rfl), B0⟩
    have i3 : decide (1 ≤ a.Bal) = true := decide_eq_true hB
    by_cases hC : a.Bal ≤ a.Prom
    case neg =>
      have HO : Hid (accOkB a = false) := by
        show _ = _
        refine Bool.eq_false_iff.2 (fun c => ?_)
        simp only [accOkB, Bool.and_eq_true, Bool.or_eq_true, decide_eq_true_eq] at c
        obtain ⟨c1, c2, c3⟩ := c
        have c2 := inB_true.1 c2
        rcases c3 with ⟨c3, c4⟩ | ⟨c3, c4⟩
        · omega
        · exact hz ⟨c4, c3⟩
      have i4 : decide (a.Bal ≤ a.Prom) = false := decide_eq_false hC
      clear hP hz
      go_enter Try.func77, Try.ntmps77
      go_wp2_with fail
      refine (iNum_any _ _).mono ?_
      rintro e w' ⟨rfl, rfl⟩
      rw [HP.out]
      go_wp2
      go_ret
      exact ⟨ret_eq (by rw [HO.out]; rfl), B0⟩
    have i4 : decide (a.Bal ≤ a.Prom) = true := decide_eq_true hC
    have HO : Hid (accOkB a = inB a.Val 1 4) := by
      show _ = _
      unfold accOkB
      rw [hP, inB_true.2 ⟨by omega, hC⟩, decide_eq_true (by omega : 0 < a.Bal), decide_eq_false (by omega : ¬ a.Bal = 0)]
      simp
    clear hP hz
    go_enter Try.func77, Try.ntmps77
    go_wp2_with fail
    refine (iNum_any _ _).mono ?_
    rintro e w' ⟨rfl, rfl⟩
    rw [HP.out]
    go_wp2_with fail
    refine (iChoice_any _ _).mono ?_
    rintro e w' ⟨rfl, rfl⟩
    go_wp2
    go_ret
    exact ⟨ret_eq (by rw [HO.out]; rfl), B0⟩

end Go.Proofs.Ytdoipabfmekdlaa

namespace Go.Proofs.Ytdoipabfmekdlaa
open Go.RowKit
open Go.Maps (Keyed IsMap Tidy)
set_option linter.unusedVariables false

theorem mb_law : Keyed Try.prog 3 := Maps.int_keyed Try.underlying3
theorem mb_zero (w : World) : (zeroValue 4).run Try.prog w = .ok (.bool false) w := by kernel_rfl

def i64R (z : Int) : Prop := -9223372036854775808 ≤ z ∧ z ≤ 9223372036854775807

theorem mb_key {z : Int} (h : i64R z) : keyOf Try.prog 3 (.int .i64 z) = some (.int .i64 z) := Maps.keyOf_int_mk Try.underlying3 (WalkArith.wf_i64 (by unfold i64R at h; omega))

theorem plainElem_bool_inv {H : Type} {P : Program} {e : TypeId} (he : P.underlying e = some .bool) {v : Value} {z : DataW H × List MemPlace} (h : plainElem P e v = some z) : ∃ x, v = .bool x ∧ z = (.lit (.bool x), []) := by
  unfold plainElem at h
  rw [he] at h
  cases v <;> simp at h
  exact ⟨_, rfl, h.symm⟩

/-- block b is a map that holds true at just the z with p z; it has c entries, at most N -/
def MSet (w : World) (b N : Nat) (p : Int → Bool) (c : Nat) : Prop :=
  ∃ D : DataW Unit, w.ownsMap Try.prog 3 (plainElem Try.prog 4) b N D ∧ Maps.size D = c ∧
    ∀ z : Int, D.atKey (.int .i64 z) (.lit (.bool false)) = .lit (.bool (p z)) ∧ Maps.has D (.int .i64 z) = p z

section
variable {w w' : World} {b N c : Nat} {p q : Int → Bool} {z : Int}

theorem MSet.made (w : World) : MSet (w.alloc (.map #[] 0)) w.heap.size 0 (fun _ => false) 0 :=
  ⟨_, World.ownsMap_made w _ _ _, rfl, fun z => ⟨rfl, rfl⟩⟩
theorem MSet.lt (h : MSet w b N p c) : b < w.heap.size := by
  obtain ⟨D, h, -⟩ := h
  exact h.lt
theorem MSet.kept {row : Option Nat} (h : MSet w b N p c) (hg : w.grownBy w' row) (hne : some b ≠ row) : MSet w' b N p c := by
  obtain ⟨D, h, r⟩ := h
  exact ⟨D, h.kept hg hne, r⟩
theorem MSet.below (h : MSet w b N p c) (hb : Below w.heap.size w w') : MSet w' b N p c := by
  have hlt := h.lt
  obtain ⟨D, ⟨es, clock, h1, r1⟩, r⟩ := h
  exact ⟨D, ⟨es, clock, (hb.block b hlt).trans h1, r1⟩, r⟩
theorem MSet.is (h : MSet w b N p c) (hpq : ∀ y, p y = q y) : MSet w b N q c := by
  obtain ⟨D, h, hs, r⟩ := h
  exact ⟨D, h, hs, fun z => by rw [← hpq z]; exact r z⟩

theorem MSet.look (h : MSet w b N p c) (hz : i64R z) : (Instr.lookup 119 (.map (some b)) (.int .i64 z) false).run Try.prog w = .ok (.bool (p z)) w := by
  obtain ⟨D, h, hs, r⟩ := h
  obtain ⟨v, ps, hrun, hv⟩ := h.lookup mb_law Try.underlying119 (mb_zero w) (plainElem_bool Try.underlying4 false) (mb_key hz)
  rw [(r z).1] at hv
  obtain ⟨x, rfl, hx⟩ := plainElem_bool_inv Try.underlying4 hv
  have : p z = x := by simpa using congrArg Prod.fst hx
  rw [hrun, this]

theorem ne_lit {y z : Int} (h : y ≠ z) : (Lit.int .i64 y) ≠ (Lit.int .i64 z) := fun e => h (by injection e)

theorem mb_isKey (z : Int) : WideAt.IsKeyLit (.int .i64 z) := trivial

theorem MSet.put {D : DataW Unit} (ho : w'.ownsMap Try.prog 3 (plainElem Try.prog 4) b (N + 1) (D.put (.int .i64 z) (.lit (.bool true)))) (hi : Tidy D) (hs : Maps.size D = c) (r : ∀ z : Int, D.atKey (.int .i64 z) (.lit (.bool false)) = .lit (.bool (p z)) ∧ Maps.has D (.int .i64 z) = p z) (hp : p z = false) :
    MSet w' b (N + 1) (fun y => p y || decide (y = z)) (c + 1) := by
  refine ⟨_, ho, ?_, fun y => ?_⟩
  · rw [Maps.size_put hi, (r z).2, hp, hs]; rfl
  · by_cases e : y = z
    · subst e
      exact ⟨by rw [Maps.atKey_put_same hi.isMap (mb_isKey y)]; simp, by rw [Maps.has_put_same hi.isMap (mb_isKey y)]; simp⟩
    · exact ⟨by rw [Maps.atKey_put_other (ne_lit e), (r y).1]; simp [e], by rw [Maps.has_put_other (ne_lit e), (r y).2]; simp [e]⟩

theorem MSet.del {D : DataW Unit} (ho : w'.ownsMap Try.prog 3 (plainElem Try.prog 4) b N (D.del (.int .i64 z))) (hi : Tidy D) (hs : Maps.size D = c) (r : ∀ z : Int, D.atKey (.int .i64 z) (.lit (.bool false)) = .lit (.bool (p z)) ∧ Maps.has D (.int .i64 z) = p z) (hp : p z = true) :
    ∃ c', c' + 1 = c ∧ MSet w' b N (fun y => p y && !decide (y = z)) c' := by
  refine ⟨_, ?_, _, ho, rfl, fun y => ?_⟩
  · have := Maps.size_del (k := .int .i64 z) hi
    rw [(r z).2, hp, hs] at this
    simpa using this
  · by_cases e : y = z
    · subst e
      exact ⟨by rw [Maps.atKey_del_same]; simp, by rw [Maps.has_del_same]; simp⟩
    · exact ⟨by rw [Maps.atKey_del_other (ne_lit e), (r y).1]; simp [e], by rw [Maps.has_del_other (ne_lit e), (r y).2]; simp [e]⟩
end

section
variable (w : World) {ops : Array Oper} {rest : List Oper} {o : Oper} {a : Act} {Q : Exit → Act → World → Prop}

theorem wpl_msLook (hg : o.guard = none) (m x : Operand) (hop : o.op = Op.lookup 119 m x false) {b N c : Nat} {p : Int → Bool} {z : Int} (hs : MSet w b N p c) (hm : a.eval m = .map (some b)) (hx : a.eval x = .int .i64 z) (hz : i64R z) {r : Bool} (hr : p z = r)
    (hK : wpList Try.prog ops Q rest (a.put o.dst (.bool r)) w) : wpList Try.prog ops Q (o :: rest) a w := by
  subst hr
  refine wpList_plain hg fun K' hK' => ?_
  unfold Oper.wp
  simp [execOp, hop, hm, hx, hs.look hz, Result.andThen]
  exact hK' _ _ hK

theorem wpl_msPut (hg : o.guard = none) (m x v : Operand) (hop : o.op = Op.mapUpdate 119 m x v) {b N c : Nat} {p : Int → Bool} {z : Int} (hs : MSet w b N p c) (hm : a.eval m = .map (some b)) (hx : a.eval x = .int .i64 z) (hv : a.eval v = .bool true) (hz : i64R z) (hp : p z = false) (hN : N ≤ 1000)
    (hK : ∀ w', MSet w' b (N + 1) (fun y => p y || decide (y = z)) (c + 1) → w.grownBy w' (some b) → wpList Try.prog ops Q rest (a.put o.dst undef) w') : wpList Try.prog ops Q (o :: rest) a w := by
  obtain ⟨D, ho, hsz, r⟩ := hs
  exact wpList_mapUpdate_own w hg m x v 119 hop 3 4 mb_law Try.underlying119 _ b N D hm ho (by unfold maxLen; omega) _ _ _ hx hv (mb_key hz) _ [] (plainElem_bool Try.underlying4 true) (fun w' h1 h2 => hK w' (MSet.put h1 (ho.tidy mb_law) hsz r hp) h2)

theorem wpl_msDel (hg : o.guard = none) (m x : Operand) (hop : o.op = Op.call { callee := Callee.builtin Builtin.delete, args := #[m, x], argTypes := #[119, 3] }) {b N c : Nat} {p : Int → Bool} {z : Int} (hs : MSet w b N p c) (hm : a.eval m = .map (some b)) (hx : a.eval x = .int .i64 z) (hz : i64R z) (hp : p z = true)
    (hK : ∀ w' c', c' + 1 = c → MSet w' b N (fun y => p y && !decide (y = z)) c' → w.grownBy w' (some b) → wpList Try.prog ops Q rest (a.put o.dst (.tuple #[])) w') : wpList Try.prog ops Q (o :: rest) a w := by
  obtain ⟨D, ho, hsz, r⟩ := hs
  refine wpList_delete_own w hg m x 119 3 hop 4 mb_law Try.underlying119 _ b N D hm ho _ _ hx (mb_key hz) (fun w' h1 h2 => ?_)
  obtain ⟨c', e, h3⟩ := MSet.del h1 (ho.tidy mb_law) hsz r hp
  exact hK w' c' e h3 h2.grown

theorem wpl_msLen (hg : o.guard = none) (m : Operand) (hop : o.op = Op.call { callee := Callee.builtin Builtin.len, args := #[m], argTypes := #[119] }) {b N c : Nat} {p : Int → Bool} (hs : MSet w b N p c) (hm : a.eval m = .map (some b))
    (hK : wpList Try.prog ops Q rest (a.put o.dst (.int .i64 c)) w) : wpList Try.prog ops Q (o :: rest) a w := by
  obtain ⟨D, ho, hsz, r⟩ := hs
  exact wpList_len_own w hg m 119 hop 3 4 Try.underlying119 _ b N D hm ho (by rw [hsz]; exact hK)
end

end Go.Proofs.Ytdoipabfmekdlaa

namespace Go.Proofs.Ytdoipabfmekdlaa
open Go.RowKit
set_option linter.unusedVariables false

theorem iNodeOf_any (x n : Int) (w : World) : Calls Try.prog 75 #[.int .i64 x, .int .i64 n] w fun e w' => e = .returned (.bool (inB x 0 (n - 1))) ∧ w = w' := by
  by_cases h0 : 0 ≤ x
  · by_cases h1 : x < n
    · rw [inB_true.2 (by omega)]
      have i0 : decide (0 ≤ x) = true := decide_eq_true h0
      have i1 : decide (x < n) = true := decide_eq_true h1
      go_enter Try.func75, Try.ntmps75
      go_wp2
      go_ret
      exact ⟨rfl, rfl⟩
    · rw [inB_false.2 (by omega)]
      have i0 : decide (0 ≤ x) = true := decide_eq_true h0
      have i1 : decide (x < n) = false := decide_eq_false h1
      go_enter Try.func75, Try.ntmps75
      go_wp2
      go_ret
      exact ⟨rfl, rfl⟩
  · rw [inB_false.2 (by omega)]
    have i1 : decide (0 ≤ x) = false := decide_eq_false h0
    go_enter Try.func75, Try.ntmps75
    go_wp2
    go_ret
    exact ⟨rfl, rfl⟩

theorem iNodeCount_any (n : Int) (w : World) : Calls Try.prog 74 #[.int .i64 n] w fun e w' => e = .returned (.bool (inB n 1 4)) ∧ w = w' := by
  by_cases h0 : 1 ≤ n
  · by_cases h1 : n ≤ 4
    · rw [inB_true.2 ⟨h0, h1⟩]
      have i0 : decide (1 ≤ n) = true := decide_eq_true h0
      have i1 : decide (n ≤ 4) = true := decide_eq_true h1
      go_enter Try.func74, Try.ntmps74
      go_wp2
      go_ret
      exact ⟨rfl, rfl⟩
    · rw [inB_false.2 (by omega)]
      have i0 : decide (1 ≤ n) = true := decide_eq_true h0
      have i1 : decide (n ≤ 4) = false := decide_eq_false h1
      go_enter Try.func74, Try.ntmps74
      go_wp2
      go_ret
      exact ⟨rfl, rfl⟩
  · rw [inB_false.2 (by omega)]
    have i1 : decide (1 ≤ n) = false := decide_eq_false h0
    go_enter Try.func74, Try.ntmps74
    go_wp2
    go_ret
    exact ⟨rfl, rfl⟩

theorem iClosedState_any (k n : Int) (w : World) : Calls Try.prog 115 #[.int .i64 k, .int .i64 n] w fun e w' => e = .returned (.int .i64 (stateOf k n)) ∧ w = w' := by
  by_cases h : k = n
  · have HO : Hid (stateOf k n = 2) := if_pos h
    have g : (k == n) = true := by simpa using h
    clear h
    go_enter Try.func115, Try.ntmps115
    go_wp2
    go_ret
    exact ⟨ret_eq (by rw [HO.out]; rfl), rfl⟩
  · have HO : Hid (stateOf k n = 1) := if_neg h
    have g : (k == n) = false := by simpa using h
    clear h
    go_enter Try.func115, Try.ntmps115
    go_wp2
    go_ret
    exact ⟨ret_eq (by rw [HO.out]; rfl), rfl⟩

/-- what missingMarks leaves -/
def MissP (w : World) (l : List Int) (m : Nat) (id : Int) (e : Ending) (w' : World) : Prop :=
  Below w.heap.size w w' ∧ ((marksFit l m id = false ∧ e = .returned (.tuple #[.map none, .bool false])) ∨ (marksFit l m id = true ∧ ∃ b N c p, e = .returned (.tuple #[.map (some b), .bool true]) ∧ MSet w' b N p c ∧ c + l.length + 1 = m))

def fitAt (l : List Int) (n id : Int) (i : Nat) : Prop := (0 ≤ l.getD i 0 ∧ l.getD i 0 < n ∧ l.getD i 0 ≠ id) ∧ ∀ j, j < i → l.getD j 0 ≠ l.getD i 0
def missB (l : List Int) (n id : Int) (k : Nat) (y : Int) : Bool := decide ((0 ≤ y ∧ y < n ∧ y ≠ id) ∧ ∀ j, j < k → l.getD j 0 ≠ y)
theorem miss_fit {l : List Int} {n id : Int} {k : Nat} : missB l n id k (l.getD k 0) = true ↔ fitAt l n id k := by unfold missB fitAt; rw [decide_eq_true_eq]
theorem miss_succ (l : List Int) (n id : Int) (k : Nat) (y : Int) : (missB l n id k y && !decide (y = l.getD k 0)) = missB l n id (k + 1) y := by
  rw [Bool.eq_iff_iff]
  unfold missB
  simp only [Bool.and_eq_true, Bool.not_eq_true', decide_eq_true_eq, decide_eq_false_iff_not]
  constructor
  · rintro ⟨⟨h1, h2⟩, h3⟩
    refine ⟨h1, fun j hj e => ?_⟩
    by_cases ej : j = k
    · subst ej; exact h3 e.symm
    · exact h2 j (by omega) e
  · rintro ⟨h1, h2⟩
    exact ⟨⟨h1, fun j hj => h2 j (by omega)⟩, fun e => h2 k (by omega) e.symm⟩
def uptoB (j : Nat) (y : Int) : Bool := decide (0 ≤ y ∧ y < (j : Int))
theorem miss_zero (l : List Int) (m : Nat) (id y : Int) : (uptoB m y && !decide (y = id)) = missB l m id 0 y := by
  rw [Bool.eq_iff_iff]
  unfold missB uptoB
  simp only [Bool.and_eq_true, Bool.not_eq_true', decide_eq_true_eq, decide_eq_false_iff_not]
  constructor
  · rintro ⟨⟨h1, h2⟩, h3⟩
    exact ⟨⟨h1, h2, h3⟩, fun j hj => by omega⟩
  · rintro ⟨⟨h1, h2, h3⟩, -⟩
    exact ⟨⟨h1, h2⟩, h3⟩
theorem upto_succ (j : Nat) (y : Int) : (uptoB j y || decide (y = (j : Int))) = uptoB (j + 1) y := by
  rw [Bool.eq_iff_iff]
  unfold uptoB
  simp only [Bool.or_eq_true, decide_eq_true_eq]
  omega
theorem below_map {b : Nat} {a w w' : World} (h : Below a.heap.size a w) (hg : w.grownBy w' (some b)) (hB : a.heap.size ≤ b) : Below a.heap.size a w' := h.grown hg h.size (fun k hk => by cases hk; exact hB)

set_option maxHeartbeats 4000000 in
theorem iMissing_c {w : World} {v : Value} {l : List Int} {m : Nat} {id : Int} (h : RS .i64 w v l) (hm : 1 ≤ m ∧ m ≤ 4) (hid : 0 ≤ id ∧ id < (m : Int)) (hk : ∀ i, i < l.length → i64R (l.getD i 0)) : Calls Try.prog 110 #[v, .int .i64 m, .int .i64 id] w (MissP w l m id) := by
  obtain ⟨A, c, rfl, h1, h2, hr⟩ := h
  unfold maxLen at h2
  have hmm := @run_makeMap Try.prog
  have HK := Lib.hid hk
  have idR : i64R id := by unfold i64R; omega
  clear hk
  go_enter Try.func110, Try.ntmps110
  go_wp2
  go_loopw [14] (fun i wr => ∃ j : Nat, j ≤ m ∧ i = .int .i64 j ∧ MSet wr w.heap.size j (uptoB j) j ∧ Below w.heap.size w wr) (fun i _ => m - (intOf i).toNat)
  case atStart => exact ⟨0, Nat.zero_le _, rfl, (MSet.made w).is (fun y => (decide_eq_false (by omega)).symm), (Below.refl _ _).alloc (Nat.le_refl _) _⟩
  case round =>
    clear hmm
    obtain ⟨j, hj, rfl, hS, HB⟩ := hrel
    have hs := HB.size
    by_cases hlt : j < m
    case pos =>
      have i1 : (j : Int) < (m : Int) := by omega
      have jR : i64R (j : Int) := by unfold i64R; omega
      have hp : uptoB j (j : Int) = false := decide_eq_false (by omega)
      have HP := Lib.hid hp
      clear hp
      go_wp2_with (at_mapUpdate; refine wpl_msPut _ rfl (.tmp 17) (.tmp 18) _ rfl hS rfl rfl rfl jR HP.out (by omega) ?_)
      intro w1 hS1 hg1
      have B1 := below_map HB hg1 (Nat.le_refl _)
      go_wp2
      go_roundw
      case rel => exact ⟨j + 1, by omega, by go_num, hS1.is (upto_succ j), B1⟩
      case measure => simp [intOf]; omega
    obtain rfl : j = m := by omega
    have hk2 : ¬ ((j : Int) < (j : Int)) := by omega
    have hp : uptoB j id = true := decide_eq_true (by omega)
    have HP := Lib.hid hp
    clear hp
    go_wp2_with (at_delete; refine wpl_msDel _ rfl (.tmp 20) (.tmp 21) rfl hS rfl rfl idR HP.out ?_)
    intro w1 c1 hc1 hS1 hg1
    have B1 := below_map HB hg1 (Nat.le_refl _)
    have hS2 := hS1.is (miss_zero l j id)
    clear hS hS1 HB
    go_wp2
    go_loopw [24] (fun i wr => ∃ k c : Nat, k ≤ l.length ∧ i = .int .i64 k ∧ c + k + 1 = j ∧ MSet wr w.heap.size j (missB l j id k) c ∧ Hid (∀ i, i < k → fitAt l j id i) ∧ Below w.heap.size w wr) (fun i _ => l.length - (intOf i).toNat)
    case atStart => exact ⟨0, c1, Nat.zero_le _, rfl, by omega, hS2, fun i hi => by omega, B1⟩
    case round =>
      clear hS2 B1 hs hc1
      obtain ⟨k, c2, hk, rfl, hc2, hS, HT, HB⟩ := hrel
      have hs := HB.size
      by_cases hlt2 : k < l.length
      case neg =>
        have hk3 : ¬ ((k : Int) < (l.length : Int)) := by omega
        have hf : marksFit l j id = true := decide_eq_true (fun i hi => HT.out i (by omega))
        have HF := Lib.hid hf
        have hl : k = l.length := by omega
        have HL := Lib.hid hl
        have HC := Lib.hid hc2
        clear hf hl hc2
        go_wp2
        go_ret2
        exact ⟨HB, .inr ⟨HF.out, w.heap.size, j, c2, _, rfl, hS, by rw [← HL.out]; exact HC.out⟩⟩
      obtain ⟨b, off, rfl, hb, hc⟩ := rdi_at (hr.below HB) (by omega)
      have hck := hc k hlt2
      have i1 : (k : Int) < (l.length : Int) := by omega
      have xR := HK.out k hlt2
      obtain ⟨x, hx⟩ : ∃ x, l.getD k 0 = x := ⟨_, rfl⟩
      by_cases hp : missB l j id k x = true
      case pos =>
        have H2 : Hid (∀ i, i < k + 1 → fitAt l j id i) := fun i hi => by
          by_cases e : i = k
          · rw [e]; rw [← hx] at hp; exact miss_fit.1 hp
          · exact HT.out i (by omega)
        have HX := Lib.hid hx
        rw [hx] at hck xR
        have HP := Lib.hid hp
        have HC := Lib.hid hc2
        clear hp hx hc hc2
        go_wp2_with (first | (at_lookup; refine wpl_msLook _ rfl (.tmp 28) (.tmp 29) rfl hS rfl rfl xR HP.out ?_) | (at_delete; refine wpl_msDel _ rfl (.tmp 32) (.tmp 33) rfl hS rfl rfl xR HP.out ?_))
        intro w1 c3 hc3 hS1 hg1
        have B1 := below_map HB hg1 (Nat.le_refl _)
        go_wp2
        go_roundw
        case rel => exact ⟨k + 1, c3, by omega, by go_num, by have := HC.out; omega, hS1.is (fun y => by rw [← HX.out]; exact miss_succ l j id k y), H2, B1⟩
        case measure => simp [intOf]; omega
      replace hp : missB l j id k x = false := by simpa using hp
      have HF : Hid (marksFit l j id = false) := decide_eq_false (fun cf => by
        have := miss_fit.2 (show fitAt l j id k from cf k hlt2)
        rw [hx, hp] at this; cases this)
      rw [hx] at hck xR
      have HP := Lib.hid hp
      clear hp hx hc hc2
      go_wp2_with (at_lookup; refine wpl_msLook _ rfl (.tmp 28) (.tmp 29) rfl hS rfl rfl xR HP.out ?_)
      go_ret2
      exact ⟨HB, .inl ⟨HF.out, rfl⟩⟩

set_option maxHeartbeats 2000000 in
theorem iRepNodes_c {w : World} {v : Value} {l : List MRep} (h : RV repSL w v l) (hm : l.length ≤ 16777216) : Calls Try.prog 119 #[v] w (NewS .i64 3 w (nodesR l)) := by
  obtain ⟨A, c, rfl, h1, h2, hr⟩ := rv_slice h
  clear h
  obtain ⟨i0, hi, hz0, hz1, hz2⟩ := info_parts Try.info_i64
  have hb0 : Below w.heap.size w (w.alloc (.cells #[] 3)) := (Below.refl _ _).alloc (Nat.le_refl _) _
  have ho : Own .i64 (w.alloc (.cells #[] 3)) w.heap.size 3 (.slice (some ⟨w.heap.size, 0, none⟩) 0 0) [] := own_none .i64 w w.heap.size 3 (Nat.le_refl _)
  go_enter Try.func119, Try.ntmps119
  go_wp2
  go_loopw [3, 9] (fun s3 j wr => ∃ (k : Nat) (g : List Int), k ≤ l.length ∧ j = .int .i64 k ∧ Hid (g = nodesR (l.take k)) ∧ g.length ≤ k ∧ Own .i64 wr w.heap.size 3 s3 g ∧ Below w.heap.size w wr) (fun _ j _ => l.length - (intOf j).toNat)
  case atStart => exact ⟨0, [], Nat.zero_le _, rfl, rfl, Nat.le_refl _, ho, hb0⟩
  case round =>
    clear ho hb0
    obtain ⟨k, g, hk, rfl, HG, lg, hown, hbr⟩ := hrel
    have hsz := hbr.size
    by_cases hlt : k < l.length
    case neg =>
      have hk2 : ¬ ((k : Int) < (l.length : Int)) := by omega
      have HO : Hid (nodesR l = g) := by show _ = _; rw [HG.out, List.take_of_length_le (by omega)]
      go_wp2
      go_ret
      rw [HO.out]
      exact ⟨_, rfl, OS.mk_ hown, hbr⟩
    obtain ⟨x, hxe⟩ := get_of_lt hlt
    obtain ⟨b, off, rfl, hb, e0, e1⟩ := el_rep (hr.below hbr) hxe
    have i1 : (k : Int) < (l.length : Int) := by omega
    have H2 : Hid (g ++ [x.Node] = nodesR (l.take (k + 1))) := by show _ = _; rw [HG.out, List.take_add_one, hxe]; simp [nodesR]
    clear hxe
    obtain ⟨w1, e_w1, s_w1, h_w1, x_m⟩ := alloc_step wr 90 [.int .i64 x.Node, .int .i64 x.Amt]
    have s_w1_1 := Nat.le_of_eq s_w1
    have s_w1_2 := Nat.le_of_eq s_w1.symm
    clear s_w1
    have hown1 := hown.alloc_ (.cells #[.int .i64 x.Node, .int .i64 x.Amt] 90)
    rw [show wr.alloc (.cells #[.int .i64 x.Node, .int .i64 x.Amt] 90) = w1 from e_w1] at hown1
    have B_w1 := hbr.trans (h_w1.mono hbr.size)
    have c_m_0_w1 := x_m.cell (i := 0) rfl
    have f_m_0_w1 := x_m.frozen 0
    have c_m_1_w1 := x_m.cell (i := 1) rfl
    have f_m_1_w1 := x_m.frozen 1
    go_wp2_with (at_builtin; refine wpl_appI _ .i64 rfl (.tmp 13) (.tmp 16) 24 rfl w.heap.size 3 i0 8 Try.underlying24 hi hz0 hz1 hz2 _ g rfl (hown1.alloc_ _) _ _ _ 1 [x.Node] rfl rfl (rd_one _ _ _ _) ?d1 (by omega) ?d2 ?_)
    case d1 => omega
    case d2 => first | omega | (simp; omega)
    intro v4 w4 ho4 hg4 hat4
    have hb6 : Below w.heap.size w w4 := grown_below (B_w1.alloc B_w1.size _) (hown1.alloc_ _) hg4 (Nat.le_refl _) (by simp; omega)
    clear hg4 hat4 hown hown1
    go_wp2
    go_roundw
    case rel => exact ⟨k + 1, g ++ [x.Node], by omega, by go_num, H2, by simp; omega, ho4, hb6⟩
    case measure => simp [intOf]; omega

theorem first_at {l : List MRep} {k : Nat} {x : MRep} {n : Int} (hx : l[k]? = some x) (hn : x.Node = n) (h : hasRep (l.take k) n = false) : repFirst l n = x := by
  unfold repFirst
  have hl : k < l.length := by
    rcases Nat.lt_or_ge k l.length with h | h
    · exact h
    · rw [List.getElem?_eq_none h] at hx; cases hx
  have e : l = l.take k ++ x :: l.drop (k + 1) := by
    have h1 := List.drop_eq_getElem_cons hl
    rw [List.getElem?_eq_getElem hl] at hx
    simp only [Option.some.injEq] at hx
    rw [hx] at h1
    rw [← h1, List.take_append_drop]
  have h0 : (l.take k).find? (fun r => decide (r.Node = n)) = none := List.find?_eq_none.2 (fun y hy => by
    unfold hasRep at h; rw [List.any_eq_false] at h; simpa using h y hy)
  rw [e, List.find?_append, h0]
  simp [hn]

set_option maxHeartbeats 2000000 in
theorem iRepOf_c {w : World} {v : Value} {l : List MRep} {n : Int} (h : RV repSL w v l) : Calls Try.prog 114 #[v, .int .i64 n] w (NewVB repL w (repFirst l n) (hasRep l n)) := by
  obtain ⟨A, c, rfl, h1, h2, hr⟩ := rv_slice h
  clear h
  unfold maxLen at h2
  obtain ⟨wa, hwa, B0, sa, x_r⟩ := frame1 w 90 [.int .i64 0, .int .i64 0]
  have sa_1 := Nat.le_of_eq sa
  have sa_2 := Nat.le_of_eq sa.symm
  clear sa
  have c_r_0_wa := x_r.cell (i := 0) rfl
  have f_r_0_wa := x_r.frozen 0
  have c_r_1_wa := x_r.cell (i := 1) rfl
  have f_r_1_wa := x_r.frozen 1
  go_enter Try.func114, Try.ntmps114
  go_wp2
  go_loopw [10] (fun i wr => ∃ k : Nat, k ≤ l.length ∧ i = .int .i64 k ∧ Hid (hasRep (l.take k) n = false) ∧ Vr wr w.heap.size 90 [.int .i64 0, .int .i64 0] ∧ Below w.heap.size w wr) (fun i _ => l.length - (intOf i).toNat)
  case atStart => exact ⟨0, Nat.zero_le _, rfl, rfl, x_r, B0⟩
  case round =>
    clear c_r_0_wa f_r_0_wa c_r_1_wa f_r_1_wa
    clear x_r hwa
    obtain ⟨k, hk, rfl, HT, x_r, HB⟩ := hrel
    have hs := HB.size
    have lr := x_r.lt
    by_cases hlt : k < l.length
    case neg =>
      have hk2 : ¬ ((k : Int) < (l.length : Int)) := by omega
      have HO : Hid (hasRep l n = false) := by have := HT.out; rwa [List.take_of_length_le (by omega)] at this
      have HM : Hid (repFirst l n = ⟨0, 0⟩) := by show _ = _; unfold repFirst; rw [List.find?_eq_none.2 (fun x hx => by have := HO.out; unfold hasRep at this; rw [List.any_eq_false] at this; simpa using this x hx)]; rfl
      have c_r_0_wr := x_r.cell (i := 0) rfl
      have f_r_0_wr := x_r.frozen 0
      have c_r_1_wr := x_r.cell (i := 1) rfl
      have f_r_1_wr := x_r.frozen 1
      have i_r_0 := x_r.same (i := 0) rfl
      have i_r_1 := x_r.same (i := 1) rfl
      go_wp2
      refine ret_cell_tmp (by rfl) (by rfl) x_r Try.underlying90 sz_rep (by rfl) ?_
      rw [HM.out, HO.out]
      exact ⟨_, rfl, ov_rep (d := ⟨0, 0⟩) (Nat.le_refl _), HB⟩
    obtain ⟨x, hxe⟩ := get_of_lt hlt
    obtain ⟨b, off, rfl, hb, e0, e1⟩ := el_rep (hr.below HB) hxe
    have i1 : (k : Int) < (l.length : Int) := by omega
    obtain ⟨w1, e_w1, s_w1, h_w1, x_m⟩ := alloc_step wr 90 [.int .i64 x.Node, .int .i64 x.Amt]
    have s_w1_1 := Nat.le_of_eq s_w1
    have s_w1_2 := Nat.le_of_eq s_w1.symm
    clear s_w1
    replace x_r := x_r.from_ h_w1
    have B_w1 := HB.trans (h_w1.mono HB.size)
    have c_r_0_w1 := x_r.cell (i := 0) rfl
    have f_r_0_w1 := x_r.frozen 0
    have c_r_1_w1 := x_r.cell (i := 1) rfl
    have f_r_1_w1 := x_r.frozen 1
    have c_m_0_w1 := x_m.cell (i := 0) rfl
    have f_m_0_w1 := x_m.frozen 0
    have c_m_1_w1 := x_m.cell (i := 1) rfl
    have f_m_1_w1 := x_m.frozen 1
    by_cases hn : x.Node = n
    case neg =>
      have g : (x.Node == n) = false := by simpa using hn
      have H2 : Hid (hasRep (l.take (k + 1)) n = false) := by show _ = _; rw [hasRep_take hxe, HT.out, decide_eq_false hn]; rfl
      clear hn hxe
      go_wp2
      go_roundw
      case rel => exact ⟨k + 1, by omega, by go_num, H2, x_r, B_w1⟩
      case measure => simp [intOf]; omega
    have g : (x.Node == n) = true := by simpa using hn
    have HO : Hid (hasRep l n = true) := hasRep_get.2 ⟨k, hlt, by rw [repG_of hxe]; exact hn⟩
    have HM : Hid (repFirst l n = x) := first_at hxe hn HT.out
    clear hn hxe
    obtain ⟨w2, e_w2, s_w2, h_w2, y⟩ := store_step x_r [.int .i64 x.Node, .int .i64 x.Amt] rfl
    replace e_w2 : ((w1.setCell ⟨w.heap.size, 0, none⟩ (.int .i64 x.Node)).setCell ⟨w.heap.size, 1, none⟩ (.int .i64 x.Amt)) = w2 := e_w2
    have s_w2_1 := Nat.le_of_eq s_w2
    have s_w2_2 := Nat.le_of_eq s_w2.symm
    clear s_w2
    replace x_m := x_m.chg h_w2 (by omega)
    have B_w2 := Below.chg_ B_w1 h_w2 (by omega) (by omega)
    replace x_r : Vr w2 (w.heap.size) 90 [.int .i64 x.Node, .int .i64 x.Amt] := y
    clear y
    have c_r_0_w2 := x_r.cell (i := 0) rfl
    have f_r_0_w2 := x_r.frozen 0
    have c_r_1_w2 := x_r.cell (i := 1) rfl
    have f_r_1_w2 := x_r.frozen 1
    go_wp2
    refine ret_cell_tmp (by rfl) (by rfl) x_r Try.underlying90 sz_rep (by rfl) ?_
    rw [HM.out, HO.out]
    exact ⟨_, rfl, ov_rep (d := x) (Nat.le_refl _), B_w2⟩

theorem amts_f {l : List MRep} {k : Nat} {x : MRep} (hx : l[k]? = some x) (h : numB x.Amt = false) : amtsB l = false := by
  unfold amtsB
  rw [List.all_eq_false]
  exact ⟨x, List.mem_iff_getElem?.2 ⟨k, hx⟩, by simp [h]⟩
theorem amts_t {l : List MRep} {k : Nat} {x : MRep} (h : amtsB (l.take k) = true) (hx : l[k]? = some x) (hn : numB x.Amt = true) : amtsB (l.take (k + 1)) = true := by
  unfold amtsB at *
  rw [List.take_add_one, hx, List.all_append, h]
  simp [hn]
theorem rv_below {α : Type} {L : Lay α} {w w' : World} {v : Value} {x : α} (h : RV L w v x) (hb : Below w.heap.size w w') : RV L w' v x := h.from_ hb

set_option maxHeartbeats 1000000 in
theorem iWithin_g {w : World} {v : Value} {l : List Int} {hi : Int} (h : RS .i64 w v l) : Calls Try.prog 120 #[v, .int .i64 0, .int .i64 hi] w fun e w' => e = .returned (.bool (wideB l hi)) ∧ Below w.heap.size w w' := by
  have h0 := h
  obtain ⟨A, c, rfl, h1, h2, hr⟩ := h
  unfold maxLen at h2
  by_cases ha : ascB l = true
  case neg =>
    replace ha : ascB l = false := by simpa using ha
    have HA := Lib.hid ha
    have HO : Hid (wideB l hi = false) := by show _ = _; unfold wideB; rw [ha]; rfl
    clear ha
    go_enter Try.func120, Try.ntmps120
    go_wp2_with fail
    refine (iAsc_c h0).mono ?_
    rintro e w1 ⟨rfl, h_w1⟩
    rw [HA.out]
    go_wp2
    go_ret
    exact ⟨ret_eq (by rw [HO.out]; rfl), h_w1⟩
  have HA := Lib.hid ha
  rcases Nat.eq_zero_or_pos l.length with e0 | e0
  case inl =>
    have HO : Hid (wideB l hi = true) := by show _ = _; unfold wideB; rw [ha, decide_eq_true e0]; rfl
    have i0 : ((l.length : Int) == 0) = true := by simp [e0]
    clear ha e0
    go_enter Try.func120, Try.ntmps120
    go_wp2_with fail
    refine (iAsc_c h0).mono ?_
    rintro e w1 ⟨rfl, h_w1⟩
    rw [HA.out]
    go_wp2
    go_ret
    exact ⟨ret_eq (by rw [HO.out]; rfl), h_w1⟩
  obtain ⟨b, off, rfl, hb, hc⟩ := hr e0
  obtain ⟨m, hm⟩ : ∃ m, l.length = m + 1 := ⟨l.length - 1, by omega⟩
  have c0 := hc 0 e0
  have cn := hc m (by omega)
  obtain ⟨x, hx⟩ : ∃ x, l.getD 0 0 = x := ⟨_, rfl⟩
  obtain ⟨y, hy⟩ : ∃ y, l.getD m 0 = y := ⟨_, rfl⟩
  rw [hx] at c0
  rw [hy] at cn
  have i0 : ((l.length : Int) == 0) = false := by rw [hm]; exact beq_eq_false_iff_ne.2 (by omega)
  have i1 : (0 : Int) < (l.length : Int) := by omega
  have i2 : (m : Int) < (l.length : Int) := by omega
  have i3 : (0 : Int) ≤ (m : Int) := by omega
  have e1 : IntKind.i64.wrap ((l.length : Int) - 1) = (m : Int) := by rw [show (l.length : Int) - 1 = (m : Int) by omega]; exact IntWalk.i64_in _ (by omega)
  have e1' : (l.length : Int) - 1 = (m : Int) := by omega
  have HW : Hid (wideB l hi = (decide (0 ≤ x) && decide (y ≤ hi))) := by show _ = _; unfold wideB; rw [ha, decide_eq_false (by omega), hx, show l.length - 1 = m by omega, hy]; rfl
  clear hc hr
  by_cases hx0 : 0 ≤ x
  case neg =>
    have HO : Hid (wideB l hi = false) := by show _ = _; rw [HW.out, decide_eq_false hx0]; rfl
    have g0 : decide (0 ≤ x) = false := decide_eq_false hx0
    clear ha hx hy e0 hm e1'
    go_enter Try.func120, Try.ntmps120
    go_wp2_with fail
    refine (iAsc_c h0).mono ?_
    rintro e w1 ⟨rfl, h_w1⟩
    rw [HA.out]
    have c01 := (h_w1.cell (p := ⟨b, off + 0, none⟩) hb).trans c0
    have c02 : w1.cell? ⟨b, off, none⟩ = some (.int .i64 x) := c01
    have cn1 := (h_w1.cell (p := ⟨b, off + m, none⟩) hb).trans cn
    clear c0 cn
    go_wp2
    go_ret
    exact ⟨ret_eq (by rw [HO.out]; rfl), h_w1⟩
  have g0 : decide (0 ≤ x) = true := decide_eq_true hx0
  have HO : Hid (wideB l hi = decide (y ≤ hi)) := by show _ = _; rw [HW.out, decide_eq_true hx0]; rfl
  by_cases hy3 : y ≤ hi
  all_goals (
    clear ha hx hy e0 hm e1'
    go_enter Try.func120, Try.ntmps120
    go_wp2_with fail
    refine (iAsc_c h0).mono ?_
    rintro e w1 ⟨rfl, h_w1⟩
    rw [HA.out]
    have c01 := (h_w1.cell (p := ⟨b, off + 0, none⟩) hb).trans c0
    have c02 : w1.cell? ⟨b, off, none⟩ = some (.int .i64 x) := c01
    have cn1 := (h_w1.cell (p := ⟨b, off + m, none⟩) hb).trans cn
    clear c0 cn
    go_wp2
    go_ret
    exact ⟨ret_eq (by rw [HO.out]; first | rfl | (rw [decide_eq_true hy3]; rfl) | (rw [decide_eq_false hy3]; rfl)), h_w1⟩)

theorem iNodesS_c {w : World} {v : Value} {l : List Int} (h : RS .i64 w v l) : Calls Try.prog 111 #[v] w fun e w' => e = .returned v ∧ w = w' := by
  obtain ⟨A, c, rfl, h1, h2, hr⟩ := h
  exact iNodesOf_any _ A _ c rfl w

def repsIn (l : List MRep) (n : Int) : Bool := amtsB l && wideB (nodesR l) (n - 1)

set_option maxHeartbeats 2000000 in
theorem iRepsOk_c {w : World} {v : Value} {l : List MRep} {n : Int} (h : RV repSL w v l) (hm : l.length ≤ 16777216) (hn : 1 ≤ n ∧ n ≤ 4) : Calls Try.prog 113 #[v, .int .i64 n] w fun e w' => e = .returned (.bool (repsIn l n)) ∧ Below w.heap.size w w' := by
  have h0 := h
  obtain ⟨A, c, rfl, h1, h2, hr⟩ := rv_slice h
  clear h
  unfold maxLen at h2
  have tn : IntKind.i64.wrap (n - 1) = n - 1 := IntWalk.i64_in _ (by omega)
  have B0 : Below w.heap.size w w := Below.refl _ _
  go_enter Try.func113, Try.ntmps113
  go_wp2
  go_loopw [9] (fun i wr => ∃ k : Nat, k ≤ l.length ∧ i = .int .i64 k ∧ Hid (amtsB (l.take k) = true) ∧ Below w.heap.size w wr) (fun i _ => l.length - (intOf i).toNat)
  case atStart => exact ⟨0, Nat.zero_le _, rfl, rfl, B0⟩
  case round =>
    obtain ⟨k, hk, rfl, HT, HB⟩ := hrel
    have hs := HB.size
    by_cases hlt : k < l.length
    case neg =>
      have hk2 : ¬ ((k : Int) < (l.length : Int)) := by omega
      have HO : Hid (repsIn l n = wideB (nodesR l) (n - 1)) := by show _ = _; unfold repsIn; have := HT.out; rw [List.take_of_length_le (by omega)] at this; rw [this]; rfl
      go_wp2_with fail
      refine (iRepNodes_c (rv_below h0 HB) hm).mono ?_
      rintro e w1 ⟨u_, rfl, ou, h_w1⟩
      have B_w1 := HB.trans (h_w1.mono HB.size)
      have s_w1 := h_w1.size
      obtain ⟨A2, c2, rfl, -, -, -⟩ := ou.rd
      rw [nodesR_len]
      go_wp2_with fail
      refine (iNodesS_c (l := nodesR l) (by have := ou.rd; rwa [nodesR_len] at this)).mono ?_
      rintro e w' ⟨rfl, rfl⟩
      go_wp2_with fail
      refine (iWithin_g (l := nodesR l) (hi := n - 1) (by have := ou.rd; rwa [nodesR_len] at this)).mono ?_
      rintro e w2 ⟨rfl, h_w2⟩
      have B_w2 := B_w1.trans (h_w2.mono B_w1.size)
      have s_w2 := h_w2.size
      go_wp2
      go_ret
      exact ⟨ret_eq (by rw [HO.out]; rfl), B_w2⟩
    obtain ⟨x, hxe⟩ := get_of_lt hlt
    obtain ⟨b, off, rfl, hb, e0, e1⟩ := el_rep (hr.below HB) hxe
    have i1 : (k : Int) < (l.length : Int) := by omega
    obtain ⟨w1, e_w1, s_w1, h_w1, x_m⟩ := alloc_step wr 90 [.int .i64 x.Node, .int .i64 x.Amt]
    have s_w1_1 := Nat.le_of_eq s_w1
    have s_w1_2 := Nat.le_of_eq s_w1.symm
    clear s_w1
    have B_w1 := HB.trans (h_w1.mono HB.size)
    have c_m_0_w1 := x_m.cell (i := 0) rfl
    have f_m_0_w1 := x_m.frozen 0
    have c_m_1_w1 := x_m.cell (i := 1) rfl
    have f_m_1_w1 := x_m.frozen 1
    by_cases hn9 : numB x.Amt = true
    case neg =>
      replace hn9 : numB x.Amt = false := by simpa using hn9
      have HN := Lib.hid hn9
      have HO : Hid (repsIn l n = false) := by show _ = _; unfold repsIn; rw [show amtsB l = false from amts_f hxe hn9]; rfl
      clear hn9 hxe
      go_wp2_with fail
      refine (iNum_any _ _).mono ?_
      rintro e w' ⟨rfl, rfl⟩
      rw [HN.out]
      go_wp2
      go_ret
      exact ⟨ret_eq (by rw [HO.out]; rfl), B_w1⟩
    have HN := Lib.hid hn9
    have H2 : Hid (amtsB (l.take (k + 1)) = true) := amts_t HT.out hxe hn9
    clear hn9 hxe
    go_wp2_with fail
    refine (iNum_any _ _).mono ?_
    rintro e w' ⟨rfl, rfl⟩
    rw [HN.out]
    go_wp2
    go_roundw
    case rel => exact ⟨k + 1, by omega, by go_num, H2, B_w1⟩
    case measure => simp [intOf]; omega

end Go.Proofs.Ytdoipabfmekdlaa

namespace Go.Proofs.Ytdoipabfmekdlaa
open Go.RowKit
set_option linter.unusedVariables false

def MissT (w : World) (len m : Nat) (e : Ending) (w' : World) : Prop := ∃ b N c p, e = .returned (.tuple #[.map (some b), .bool true]) ∧ MSet w' b N p c ∧ c + len + 1 = m ∧ Below w.heap.size w w'
theorem iMissing_t {w : World} {v : Value} {l : List Int} {m : Nat} {id : Int} (h : RS .i64 w v l) (hm : 1 ≤ m ∧ m ≤ 4) (hid : 0 ≤ id ∧ id < (m : Int)) (hk : ∀ i, i < l.length → i64R (l.getD i 0)) (hf : marksFit l m id = true) : Calls Try.prog 110 #[v, .int .i64 m, .int .i64 id] w (MissT w l.length m) :=
  (iMissing_c h hm hid hk).mono (by
    rintro e w' ⟨hB, ⟨hc, -⟩ | ⟨-, b, N, c, p, he, hS, hl⟩⟩
    · rw [hf] at hc; cases hc
    · exact ⟨b, N, c, p, he, hS, hl, hB⟩)
theorem iMissing_f {w : World} {v : Value} {l : List Int} {m : Nat} {id : Int} (h : RS .i64 w v l) (hm : 1 ≤ m ∧ m ≤ 4) (hid : 0 ≤ id ∧ id < (m : Int)) (hk : ∀ i, i < l.length → i64R (l.getD i 0)) (hf : marksFit l m id = false) : Calls Try.prog 110 #[v, .int .i64 m, .int .i64 id] w fun e w' => e = .returned (.tuple #[.map none, .bool false]) ∧ Below w.heap.size w w' :=
  (iMissing_c h hm hid hk).mono (by
    rintro e w' ⟨hB, ⟨-, he⟩ | ⟨hc, -⟩⟩
    · exact ⟨he, hB⟩
    · rw [hf] at hc; cases hc)

set_option maxRecDepth 100000 in
set_option maxHeartbeats 4000000 in
theorem iClosedOk_c {w : World} {v : Value} {a : MAcct} {m : Nat} {id : Int} (h : RV acctL w v a) (hb : a.bulk ≤ 16777216) (hm : 1 ≤ m ∧ m ≤ 4) (hid : 0 ≤ id ∧ id < (m : Int)) (hk : ∀ i, i < a.Marks.length → i64R (a.Marks.getD i 0)) : Calls Try.prog 101 #[v, .int .i64 m, .int .i64 id] w fun e w' => e = .returned (.bool (closedB a m id)) ∧ Below w.heap.size w w' := by
  obtain ⟨AM, cM, AR, cR, rfl, rM, rR⟩ := rv_acct h
  clear h
  have hbR : a.Reps.length ≤ 16777216 := by unfold MAcct.bulk at hb; omega
  clear hb
  have HE : Hid (closedB a m id = (marksFit a.Marks m id && (ascB a.Marks && (amtsB a.Reps && (wideB (nodesR a.Reps) (m - 1) && (ownB a m id && (ownFit a id && (inB a.By 0 (m - 1) && decide (a.State = stateOf a.Reps.length m))))))))) := closed_eq (by omega)
  have HK := Lib.hid hk
  clear hk
  obtain ⟨wa, hwa, B0, sa, x_a⟩ := frame1 w 52 [.int .i64 a.Have, .int .i64 a.State, .int .i64 a.By, .slice AM a.Marks.length cM, .slice AR a.Reps.length cR]
  have sa_1 := Nat.le_of_eq sa
  have sa_2 := Nat.le_of_eq sa.symm
  clear sa
  have c_a_0_wa := x_a.cell (i := 0) rfl
  have f_a_0_wa := x_a.frozen 0
  have c_a_1_wa := x_a.cell (i := 1) rfl
  have f_a_1_wa := x_a.frozen 1
  have c_a_2_wa := x_a.cell (i := 2) rfl
  have f_a_2_wa := x_a.frozen 2
  have c_a_3_wa := x_a.cell (i := 3) rfl
  have f_a_3_wa := x_a.frozen 3
  have c_a_4_wa := x_a.cell (i := 4) rfl
  have f_a_4_wa := x_a.frozen 4
  by_cases hF : marksFit a.Marks m id = true
  case neg =>
    replace hF : marksFit a.Marks m id = false := by simpa using hF
    have HF := Lib.hid hF
    have HO : Hid (closedB a m id = false) := by show _ = _; rw [HE.out, hF]; simp
    clear hF
    go_enter Try.func101, Try.ntmps101
    go_wp2_with fail
    refine (iMissing_f (rM.from_ B0) hm hid HK.out HF.out).mono ?_
    rintro e w1 ⟨rfl, h_w1⟩
    clear c_a_0_wa f_a_0_wa c_a_1_wa f_a_1_wa c_a_2_wa f_a_2_wa c_a_3_wa f_a_3_wa c_a_4_wa f_a_4_wa
    replace x_a := x_a.from_ h_w1
    have B_w1 := B0.trans (h_w1.mono B0.size)
    have s_w1 := h_w1.size
    have c_a_0_w1 := x_a.cell (i := 0) rfl
    have f_a_0_w1 := x_a.frozen 0
    have c_a_1_w1 := x_a.cell (i := 1) rfl
    have f_a_1_w1 := x_a.frozen 1
    have c_a_2_w1 := x_a.cell (i := 2) rfl
    have f_a_2_w1 := x_a.frozen 2
    have c_a_3_w1 := x_a.cell (i := 3) rfl
    have f_a_3_w1 := x_a.frozen 3
    have c_a_4_w1 := x_a.cell (i := 4) rfl
    have f_a_4_w1 := x_a.frozen 4
    go_wp2
    go_ret
    exact ⟨ret_eq (by rw [HO.out]; rfl), B_w1⟩
  have HF := Lib.hid hF
  clear hF
  by_cases hA : ascB a.Marks = true
  case neg =>
    replace hA : ascB a.Marks = false := by simpa using hA
    have HA := Lib.hid hA
    have HO : Hid (closedB a m id = false) := by show _ = _; rw [HE.out, hA]; simp
    clear hA
    go_enter Try.func101, Try.ntmps101
    go_wp2_with fail
    refine (iMissing_t (rM.from_ B0) hm hid HK.out HF.out).mono ?_
    rintro e w1 ⟨b9, N9, c9, p9, rfl, oS, hcl, h_w1⟩
    clear c_a_0_wa f_a_0_wa c_a_1_wa f_a_1_wa c_a_2_wa f_a_2_wa c_a_3_wa f_a_3_wa c_a_4_wa f_a_4_wa
    replace x_a := x_a.from_ h_w1
    have B_w1 := B0.trans (h_w1.mono B0.size)
    have s_w1 := h_w1.size
    have HC := Lib.hid hcl
    clear hcl
    have c_a_0_w1 := x_a.cell (i := 0) rfl
    have f_a_0_w1 := x_a.frozen 0
    have c_a_1_w1 := x_a.cell (i := 1) rfl
    have f_a_1_w1 := x_a.frozen 1
    have c_a_2_w1 := x_a.cell (i := 2) rfl
    have f_a_2_w1 := x_a.frozen 2
    have c_a_3_w1 := x_a.cell (i := 3) rfl
    have f_a_3_w1 := x_a.frozen 3
    have c_a_4_w1 := x_a.cell (i := 4) rfl
    have f_a_4_w1 := x_a.frozen 4
    go_wp2_with fail
    refine (iNodesS_c (rM.from_ B_w1)).mono ?_
    rintro e w' ⟨rfl, rfl⟩
    go_wp2_with fail
    refine (iAsc_c (rM.from_ B_w1)).mono ?_
    rintro e w2 ⟨rfl, h_w2⟩
    clear c_a_0_w1 f_a_0_w1 c_a_1_w1 f_a_1_w1 c_a_2_w1 f_a_2_w1 c_a_3_w1 f_a_3_w1 c_a_4_w1 f_a_4_w1
    replace x_a := x_a.from_ h_w2
    replace oS := oS.below h_w2
    have B_w2 := B_w1.trans (h_w2.mono B_w1.size)
    have s_w2 := h_w2.size
    rw [HA.out]
    have c_a_0_w2 := x_a.cell (i := 0) rfl
    have f_a_0_w2 := x_a.frozen 0
    have c_a_1_w2 := x_a.cell (i := 1) rfl
    have f_a_1_w2 := x_a.frozen 1
    have c_a_2_w2 := x_a.cell (i := 2) rfl
    have f_a_2_w2 := x_a.frozen 2
    have c_a_3_w2 := x_a.cell (i := 3) rfl
    have f_a_3_w2 := x_a.frozen 3
    have c_a_4_w2 := x_a.cell (i := 4) rfl
    have f_a_4_w2 := x_a.frozen 4
    go_wp2
    go_ret
    exact ⟨ret_eq (by rw [HO.out]; rfl), B_w2⟩
  have HA := Lib.hid hA
  clear hA
  by_cases hR : repsIn a.Reps m = true
  case neg =>
    replace hR : repsIn a.Reps m = false := by simpa using hR
    have HR := Lib.hid hR
    have HO : Hid (closedB a m id = false) := by show _ = _; rw [HE.out, HF.out, HA.out]; unfold repsIn at hR; rw [← Bool.and_assoc (amtsB a.Reps), hR]; rfl
    clear hR
    go_enter Try.func101, Try.ntmps101
    go_wp2_with fail
    refine (iMissing_t (rM.from_ B0) hm hid HK.out HF.out).mono ?_
    rintro e w1 ⟨b9, N9, c9, p9, rfl, oS, hcl, h_w1⟩
    clear c_a_0_wa f_a_0_wa c_a_1_wa f_a_1_wa c_a_2_wa f_a_2_wa c_a_3_wa f_a_3_wa c_a_4_wa f_a_4_wa
    replace x_a := x_a.from_ h_w1
    have B_w1 := B0.trans (h_w1.mono B0.size)
    have s_w1 := h_w1.size
    have HC := Lib.hid hcl
    clear hcl
    have c_a_0_w1 := x_a.cell (i := 0) rfl
    have f_a_0_w1 := x_a.frozen 0
    have c_a_1_w1 := x_a.cell (i := 1) rfl
    have f_a_1_w1 := x_a.frozen 1
    have c_a_2_w1 := x_a.cell (i := 2) rfl
    have f_a_2_w1 := x_a.frozen 2
    have c_a_3_w1 := x_a.cell (i := 3) rfl
    have f_a_3_w1 := x_a.frozen 3
    have c_a_4_w1 := x_a.cell (i := 4) rfl
    have f_a_4_w1 := x_a.frozen 4
    go_wp2_with fail
    refine (iNodesS_c (rM.from_ B_w1)).mono ?_
    rintro e w' ⟨rfl, rfl⟩
    go_wp2_with fail
    refine (iAsc_c (rM.from_ B_w1)).mono ?_
    rintro e w2 ⟨rfl, h_w2⟩
    clear c_a_0_w1 f_a_0_w1 c_a_1_w1 f_a_1_w1 c_a_2_w1 f_a_2_w1 c_a_3_w1 f_a_3_w1 c_a_4_w1 f_a_4_w1
    replace x_a := x_a.from_ h_w2
    replace oS := oS.below h_w2
    have B_w2 := B_w1.trans (h_w2.mono B_w1.size)
    have s_w2 := h_w2.size
    rw [HA.out]
    have c_a_0_w2 := x_a.cell (i := 0) rfl
    have f_a_0_w2 := x_a.frozen 0
    have c_a_1_w2 := x_a.cell (i := 1) rfl
    have f_a_1_w2 := x_a.frozen 1
    have c_a_2_w2 := x_a.cell (i := 2) rfl
    have f_a_2_w2 := x_a.frozen 2
    have c_a_3_w2 := x_a.cell (i := 3) rfl
    have f_a_3_w2 := x_a.frozen 3
    have c_a_4_w2 := x_a.cell (i := 4) rfl
    have f_a_4_w2 := x_a.frozen 4
    go_wp2_with fail
    refine (iRepsOk_c (rR.from_ B_w2) hbR (by omega)).mono ?_
    rintro e w3 ⟨rfl, h_w3⟩
    clear c_a_0_w2 f_a_0_w2 c_a_1_w2 f_a_1_w2 c_a_2_w2 f_a_2_w2 c_a_3_w2 f_a_3_w2 c_a_4_w2 f_a_4_w2
    replace x_a := x_a.from_ h_w3
    replace oS := oS.below h_w3
    have B_w3 := B_w2.trans (h_w3.mono B_w2.size)
    have s_w3 := h_w3.size
    rw [HR.out]
    have c_a_0_w3 := x_a.cell (i := 0) rfl
    have f_a_0_w3 := x_a.frozen 0
    have c_a_1_w3 := x_a.cell (i := 1) rfl
    have f_a_1_w3 := x_a.frozen 1
    have c_a_2_w3 := x_a.cell (i := 2) rfl
    have f_a_2_w3 := x_a.frozen 2
    have c_a_3_w3 := x_a.cell (i := 3) rfl
    have f_a_3_w3 := x_a.frozen 3
    have c_a_4_w3 := x_a.cell (i := 4) rfl
    have f_a_4_w3 := x_a.frozen 4
    go_wp2
    go_ret
    exact ⟨ret_eq (by rw [HO.out]; rfl), B_w3⟩
  have HR := Lib.hid hR
  have HE2 : Hid (closedB a m id = (ownB a m id && (ownFit a id && (inB a.By 0 (m - 1) && decide (a.State = stateOf a.Reps.length m))))) := by show _ = _; rw [HE.out, HF.out, HA.out]; unfold repsIn at hR; rw [← Bool.and_assoc (amtsB a.Reps), hR]; rfl
  clear hR
  by_cases hH : hasRep a.Reps id = true
  case pos =>
    have HH := Lib.hid hH
    by_cases hK : a.Marks.length + 1 = m
    case pos =>
      have HOW : Hid (ownB a m id = true) := by show _ = _; unfold ownB; rw [hH, decide_eq_true (show (a.Marks.length : Int) = (m : Int) - 1 by omega)]; rfl
      have HK2 := Lib.hid hK
      clear hK hH
      by_cases hA9 : (repFirst a.Reps id).Amt = a.Have
      case neg =>
        have HO : Hid (closedB a m id = false) := by show _ = _; rw [HE2.out, HOW.out]; unfold ownFit; rw [HH.out, decide_eq_false hA9]; rfl
        have gA : ((repFirst a.Reps id).Amt != a.Have) = true := by simpa using hA9
        clear hA9
        go_enter Try.func101, Try.ntmps101
        go_wp2_with fail
        refine (iMissing_t (rM.from_ B0) hm hid HK.out HF.out).mono ?_
        rintro e w1 ⟨b9, N9, c9, p9, rfl, oS, hcl, h_w1⟩
        clear c_a_0_wa f_a_0_wa c_a_1_wa f_a_1_wa c_a_2_wa f_a_2_wa c_a_3_wa f_a_3_wa c_a_4_wa f_a_4_wa
        replace x_a := x_a.from_ h_w1
        have B_w1 := B0.trans (h_w1.mono B0.size)
        have s_w1 := h_w1.size
        have HC := Lib.hid hcl
        clear hcl
        have c_a_0_w1 := x_a.cell (i := 0) rfl
        have f_a_0_w1 := x_a.frozen 0
        have c_a_1_w1 := x_a.cell (i := 1) rfl
        have f_a_1_w1 := x_a.frozen 1
        have c_a_2_w1 := x_a.cell (i := 2) rfl
        have f_a_2_w1 := x_a.frozen 2
        have c_a_3_w1 := x_a.cell (i := 3) rfl
        have f_a_3_w1 := x_a.frozen 3
        have c_a_4_w1 := x_a.cell (i := 4) rfl
        have f_a_4_w1 := x_a.frozen 4
        go_wp2_with fail
        refine (iNodesS_c (rM.from_ B_w1)).mono ?_
        rintro e w' ⟨rfl, rfl⟩
        go_wp2_with fail
        refine (iAsc_c (rM.from_ B_w1)).mono ?_
        rintro e w2 ⟨rfl, h_w2⟩
        clear c_a_0_w1 f_a_0_w1 c_a_1_w1 f_a_1_w1 c_a_2_w1 f_a_2_w1 c_a_3_w1 f_a_3_w1 c_a_4_w1 f_a_4_w1
        replace x_a := x_a.from_ h_w2
        replace oS := oS.below h_w2
        have B_w2 := B_w1.trans (h_w2.mono B_w1.size)
        have s_w2 := h_w2.size
        rw [HA.out]
        have c_a_0_w2 := x_a.cell (i := 0) rfl
        have f_a_0_w2 := x_a.frozen 0
        have c_a_1_w2 := x_a.cell (i := 1) rfl
        have f_a_1_w2 := x_a.frozen 1
        have c_a_2_w2 := x_a.cell (i := 2) rfl
        have f_a_2_w2 := x_a.frozen 2
        have c_a_3_w2 := x_a.cell (i := 3) rfl
        have f_a_3_w2 := x_a.frozen 3
        have c_a_4_w2 := x_a.cell (i := 4) rfl
        have f_a_4_w2 := x_a.frozen 4
        go_wp2_with fail
        refine (iRepsOk_c (rR.from_ B_w2) hbR (by omega)).mono ?_
        rintro e w3 ⟨rfl, h_w3⟩
        clear c_a_0_w2 f_a_0_w2 c_a_1_w2 f_a_1_w2 c_a_2_w2 f_a_2_w2 c_a_3_w2 f_a_3_w2 c_a_4_w2 f_a_4_w2
        replace x_a := x_a.from_ h_w3
        replace oS := oS.below h_w3
        have B_w3 := B_w2.trans (h_w3.mono B_w2.size)
        have s_w3 := h_w3.size
        rw [HR.out]
        have c_a_0_w3 := x_a.cell (i := 0) rfl
        have f_a_0_w3 := x_a.frozen 0
        have c_a_1_w3 := x_a.cell (i := 1) rfl
        have f_a_1_w3 := x_a.frozen 1
        have c_a_2_w3 := x_a.cell (i := 2) rfl
        have f_a_2_w3 := x_a.frozen 2
        have c_a_3_w3 := x_a.cell (i := 3) rfl
        have f_a_3_w3 := x_a.frozen 3
        have c_a_4_w3 := x_a.cell (i := 4) rfl
        have f_a_4_w3 := x_a.frozen 4
        go_wp2_with fail
        refine (iRepOf_c (n := id) (rR.from_ B_w3)).mono ?_
        rintro e w4 ⟨u_, rfl, ou, h_w4⟩
        clear c_a_0_w3 f_a_0_w3 c_a_1_w3 f_a_1_w3 c_a_2_w3 f_a_2_w3 c_a_3_w3 f_a_3_w3 c_a_4_w3 f_a_4_w3
        replace x_a := x_a.from_ h_w4
        replace oS := oS.below h_w4
        have B_w4 := B_w3.trans (h_w4.mono B_w3.size)
        have s_w4 := h_w4.size
        rw [HH.out]
        obtain rfl := rv_rep ou.rd
        clear ou
        have c_a_0_w4 := x_a.cell (i := 0) rfl
        have f_a_0_w4 := x_a.frozen 0
        have c_a_1_w4 := x_a.cell (i := 1) rfl
        have f_a_1_w4 := x_a.frozen 1
        have c_a_2_w4 := x_a.cell (i := 2) rfl
        have f_a_2_w4 := x_a.frozen 2
        have c_a_3_w4 := x_a.cell (i := 3) rfl
        have f_a_3_w4 := x_a.frozen 3
        have c_a_4_w4 := x_a.cell (i := 4) rfl
        have f_a_4_w4 := x_a.frozen 4
        obtain ⟨w5, e_w5, s_w5, h_w5, x_o⟩ := alloc_step w4 90 [.int .i64 (repFirst a.Reps id).Node, .int .i64 (repFirst a.Reps id).Amt]
        have s_w5_1 := Nat.le_of_eq s_w5
        have s_w5_2 := Nat.le_of_eq s_w5.symm
        clear s_w5
        replace x_a := x_a.from_ h_w5
        replace oS := oS.below h_w5
        have B_w5 := B_w4.trans (h_w5.mono B_w4.size)
        have c_a_0_w5 := x_a.cell (i := 0) rfl
        have f_a_0_w5 := x_a.frozen 0
        have c_a_1_w5 := x_a.cell (i := 1) rfl
        have f_a_1_w5 := x_a.frozen 1
        have c_a_2_w5 := x_a.cell (i := 2) rfl
        have f_a_2_w5 := x_a.frozen 2
        have c_a_3_w5 := x_a.cell (i := 3) rfl
        have f_a_3_w5 := x_a.frozen 3
        have c_a_4_w5 := x_a.cell (i := 4) rfl
        have f_a_4_w5 := x_a.frozen 4
        have c_o_0_w5 := x_o.cell (i := 0) rfl
        have f_o_0_w5 := x_o.frozen 0
        have c_o_1_w5 := x_o.cell (i := 1) rfl
        have f_o_1_w5 := x_o.frozen 1
        have g0 : ((c9 : Int) == 0) = true := by have h1 := HC.out; have h2 := HK2.out; rw [beq_iff_eq]; omega
        go_wp2_with (at_len; refine wpl_msLen _ rfl (.tmp 43) rfl oS rfl ?_)
        go_ret
        exact ⟨ret_eq (by rw [HO.out]; rfl), B_w5⟩
      have HFT : Hid (ownFit a id = true) := by show _ = _; unfold ownFit; rw [HH.out, decide_eq_true hA9]; rfl
      have gA : ((repFirst a.Reps id).Amt != a.Have) = false := by simpa using hA9
      clear hA9
      obtain ⟨S, hS⟩ : ∃ S, stateOf (a.Reps.length : Int) (m : Int) = S := ⟨_, rfl⟩
      have HS := Lib.hid hS
      have ks : ∀ W, Calls Try.prog 115 #[.int .i64 (a.Reps.length : Int), .int .i64 (m : Int)] W fun e w' => e = .returned (.int .i64 S) ∧ w' = W := fun W => (iClosedState_any _ _ W).mono (by rintro e w' ⟨rfl, rfl⟩; exact ⟨by rw [HS.out], rfl⟩)
      clear hS
      by_cases hBy : inB a.By 0 (m - 1) = true
      case neg =>
        replace hBy : inB a.By 0 (m - 1) = false := by simpa using hBy
        have HBy := Lib.hid hBy
        have kn : ∀ W, Calls Try.prog 75 #[.int .i64 a.By, .int .i64 (m : Int)] W fun e w' => e = .returned (.bool false) ∧ w' = W := fun W => (iNodeOf_any _ _ W).mono (by rintro e w' ⟨rfl, rfl⟩; exact ⟨by rw [HBy.out], rfl⟩)
        clear hBy
        have HO : Hid (closedB a m id = false) := by show _ = _; rw [HE2.out, HOW.out, HFT.out, HBy.out]; rfl
        go_enter Try.func101, Try.ntmps101
        go_wp2_with fail
        refine (iMissing_t (rM.from_ B0) hm hid HK.out HF.out).mono ?_
        rintro e w1 ⟨b9, N9, c9, p9, rfl, oS, hcl, h_w1⟩
        clear c_a_0_wa f_a_0_wa c_a_1_wa f_a_1_wa c_a_2_wa f_a_2_wa c_a_3_wa f_a_3_wa c_a_4_wa f_a_4_wa
        replace x_a := x_a.from_ h_w1
        have B_w1 := B0.trans (h_w1.mono B0.size)
        have s_w1 := h_w1.size
        have HC := Lib.hid hcl
        clear hcl
        have c_a_0_w1 := x_a.cell (i := 0) rfl
        have f_a_0_w1 := x_a.frozen 0
        have c_a_1_w1 := x_a.cell (i := 1) rfl
        have f_a_1_w1 := x_a.frozen 1
        have c_a_2_w1 := x_a.cell (i := 2) rfl
        have f_a_2_w1 := x_a.frozen 2
        have c_a_3_w1 := x_a.cell (i := 3) rfl
        have f_a_3_w1 := x_a.frozen 3
        have c_a_4_w1 := x_a.cell (i := 4) rfl
        have f_a_4_w1 := x_a.frozen 4
        go_wp2_with fail
        refine (iNodesS_c (rM.from_ B_w1)).mono ?_
        rintro e w' ⟨rfl, rfl⟩
        go_wp2_with fail
        refine (iAsc_c (rM.from_ B_w1)).mono ?_
        rintro e w2 ⟨rfl, h_w2⟩
        clear c_a_0_w1 f_a_0_w1 c_a_1_w1 f_a_1_w1 c_a_2_w1 f_a_2_w1 c_a_3_w1 f_a_3_w1 c_a_4_w1 f_a_4_w1
        replace x_a := x_a.from_ h_w2
        replace oS := oS.below h_w2
        have B_w2 := B_w1.trans (h_w2.mono B_w1.size)
        have s_w2 := h_w2.size
        rw [HA.out]
        have c_a_0_w2 := x_a.cell (i := 0) rfl
        have f_a_0_w2 := x_a.frozen 0
        have c_a_1_w2 := x_a.cell (i := 1) rfl
        have f_a_1_w2 := x_a.frozen 1
        have c_a_2_w2 := x_a.cell (i := 2) rfl
        have f_a_2_w2 := x_a.frozen 2
        have c_a_3_w2 := x_a.cell (i := 3) rfl
        have f_a_3_w2 := x_a.frozen 3
        have c_a_4_w2 := x_a.cell (i := 4) rfl
        have f_a_4_w2 := x_a.frozen 4
        go_wp2_with fail
        refine (iRepsOk_c (rR.from_ B_w2) hbR (by omega)).mono ?_
        rintro e w3 ⟨rfl, h_w3⟩
        clear c_a_0_w2 f_a_0_w2 c_a_1_w2 f_a_1_w2 c_a_2_w2 f_a_2_w2 c_a_3_w2 f_a_3_w2 c_a_4_w2 f_a_4_w2
        replace x_a := x_a.from_ h_w3
        replace oS := oS.below h_w3
        have B_w3 := B_w2.trans (h_w3.mono B_w2.size)
        have s_w3 := h_w3.size
        rw [HR.out]
        have c_a_0_w3 := x_a.cell (i := 0) rfl
        have f_a_0_w3 := x_a.frozen 0
        have c_a_1_w3 := x_a.cell (i := 1) rfl
        have f_a_1_w3 := x_a.frozen 1
        have c_a_2_w3 := x_a.cell (i := 2) rfl
        have f_a_2_w3 := x_a.frozen 2
        have c_a_3_w3 := x_a.cell (i := 3) rfl
        have f_a_3_w3 := x_a.frozen 3
        have c_a_4_w3 := x_a.cell (i := 4) rfl
        have f_a_4_w3 := x_a.frozen 4
        go_wp2_with fail
        refine (iRepOf_c (n := id) (rR.from_ B_w3)).mono ?_
        rintro e w4 ⟨u_, rfl, ou, h_w4⟩
        clear c_a_0_w3 f_a_0_w3 c_a_1_w3 f_a_1_w3 c_a_2_w3 f_a_2_w3 c_a_3_w3 f_a_3_w3 c_a_4_w3 f_a_4_w3
        replace x_a := x_a.from_ h_w4
        replace oS := oS.below h_w4
        have B_w4 := B_w3.trans (h_w4.mono B_w3.size)
        have s_w4 := h_w4.size
        rw [HH.out]
        obtain rfl := rv_rep ou.rd
        clear ou
        have c_a_0_w4 := x_a.cell (i := 0) rfl
        have f_a_0_w4 := x_a.frozen 0
        have c_a_1_w4 := x_a.cell (i := 1) rfl
        have f_a_1_w4 := x_a.frozen 1
        have c_a_2_w4 := x_a.cell (i := 2) rfl
        have f_a_2_w4 := x_a.frozen 2
        have c_a_3_w4 := x_a.cell (i := 3) rfl
        have f_a_3_w4 := x_a.frozen 3
        have c_a_4_w4 := x_a.cell (i := 4) rfl
        have f_a_4_w4 := x_a.frozen 4
        obtain ⟨w5, e_w5, s_w5, h_w5, x_o⟩ := alloc_step w4 90 [.int .i64 (repFirst a.Reps id).Node, .int .i64 (repFirst a.Reps id).Amt]
        have s_w5_1 := Nat.le_of_eq s_w5
        have s_w5_2 := Nat.le_of_eq s_w5.symm
        clear s_w5
        replace x_a := x_a.from_ h_w5
        replace oS := oS.below h_w5
        have B_w5 := B_w4.trans (h_w5.mono B_w4.size)
        have c_a_0_w5 := x_a.cell (i := 0) rfl
        have f_a_0_w5 := x_a.frozen 0
        have c_a_1_w5 := x_a.cell (i := 1) rfl
        have f_a_1_w5 := x_a.frozen 1
        have c_a_2_w5 := x_a.cell (i := 2) rfl
        have f_a_2_w5 := x_a.frozen 2
        have c_a_3_w5 := x_a.cell (i := 3) rfl
        have f_a_3_w5 := x_a.frozen 3
        have c_a_4_w5 := x_a.cell (i := 4) rfl
        have f_a_4_w5 := x_a.frozen 4
        have c_o_0_w5 := x_o.cell (i := 0) rfl
        have f_o_0_w5 := x_o.frozen 0
        have c_o_1_w5 := x_o.cell (i := 1) rfl
        have f_o_1_w5 := x_o.frozen 1
        have g0 : ((c9 : Int) == 0) = true := by have h1 := HC.out; have h2 := HK2.out; rw [beq_iff_eq]; omega
        go_wp2_with (at_len; refine wpl_msLen _ rfl (.tmp 43) rfl oS rfl ?_)
        go_quiet ((first | (go_at_call 75; exact Calls.quiet_of_same (kn _)) | (go_at_call 115; exact Calls.quiet_of_same (ks _))))
        have B9 := B_w5.trans (below_of_drew _ _ nq)
        go_wp2
        go_ret
        exact ⟨ret_eq (by rw [HO.out]; rfl), B9⟩
      have HBy := Lib.hid hBy
      have kn : ∀ W, Calls Try.prog 75 #[.int .i64 a.By, .int .i64 (m : Int)] W fun e w' => e = .returned (.bool true) ∧ w' = W := fun W => (iNodeOf_any _ _ W).mono (by rintro e w' ⟨rfl, rfl⟩; exact ⟨by rw [HBy.out], rfl⟩)
      clear hBy
      by_cases hSt : a.State = S
      case pos =>
        have HO : Hid (closedB a m id = true) := by show _ = _; rw [HE2.out, HOW.out, HFT.out, HBy.out, HS.out, decide_eq_true hSt]; rfl
        have gS : (a.State == S) = true := by simpa using hSt
        clear hSt
        go_enter Try.func101, Try.ntmps101
        go_wp2_with fail
        refine (iMissing_t (rM.from_ B0) hm hid HK.out HF.out).mono ?_
        rintro e w1 ⟨b9, N9, c9, p9, rfl, oS, hcl, h_w1⟩
        clear c_a_0_wa f_a_0_wa c_a_1_wa f_a_1_wa c_a_2_wa f_a_2_wa c_a_3_wa f_a_3_wa c_a_4_wa f_a_4_wa
        replace x_a := x_a.from_ h_w1
        have B_w1 := B0.trans (h_w1.mono B0.size)
        have s_w1 := h_w1.size
        have HC := Lib.hid hcl
        clear hcl
        have c_a_0_w1 := x_a.cell (i := 0) rfl
        have f_a_0_w1 := x_a.frozen 0
        have c_a_1_w1 := x_a.cell (i := 1) rfl
        have f_a_1_w1 := x_a.frozen 1
        have c_a_2_w1 := x_a.cell (i := 2) rfl
        have f_a_2_w1 := x_a.frozen 2
        have c_a_3_w1 := x_a.cell (i := 3) rfl
        have f_a_3_w1 := x_a.frozen 3
        have c_a_4_w1 := x_a.cell (i := 4) rfl
        have f_a_4_w1 := x_a.frozen 4
        go_wp2_with fail
        refine (iNodesS_c (rM.from_ B_w1)).mono ?_
        rintro e w' ⟨rfl, rfl⟩
        go_wp2_with fail
        refine (iAsc_c (rM.from_ B_w1)).mono ?_
        rintro e w2 ⟨rfl, h_w2⟩
        clear c_a_0_w1 f_a_0_w1 c_a_1_w1 f_a_1_w1 c_a_2_w1 f_a_2_w1 c_a_3_w1 f_a_3_w1 c_a_4_w1 f_a_4_w1
        replace x_a := x_a.from_ h_w2
        replace oS := oS.below h_w2
        have B_w2 := B_w1.trans (h_w2.mono B_w1.size)
        have s_w2 := h_w2.size
        rw [HA.out]
        have c_a_0_w2 := x_a.cell (i := 0) rfl
        have f_a_0_w2 := x_a.frozen 0
        have c_a_1_w2 := x_a.cell (i := 1) rfl
        have f_a_1_w2 := x_a.frozen 1
        have c_a_2_w2 := x_a.cell (i := 2) rfl
        have f_a_2_w2 := x_a.frozen 2
        have c_a_3_w2 := x_a.cell (i := 3) rfl
        have f_a_3_w2 := x_a.frozen 3
        have c_a_4_w2 := x_a.cell (i := 4) rfl
        have f_a_4_w2 := x_a.frozen 4
        go_wp2_with fail
        refine (iRepsOk_c (rR.from_ B_w2) hbR (by omega)).mono ?_
        rintro e w3 ⟨rfl, h_w3⟩
        clear c_a_0_w2 f_a_0_w2 c_a_1_w2 f_a_1_w2 c_a_2_w2 f_a_2_w2 c_a_3_w2 f_a_3_w2 c_a_4_w2 f_a_4_w2
        replace x_a := x_a.from_ h_w3
        replace oS := oS.below h_w3
        have B_w3 := B_w2.trans (h_w3.mono B_w2.size)
        have s_w3 := h_w3.size
        rw [HR.out]
        have c_a_0_w3 := x_a.cell (i := 0) rfl
        have f_a_0_w3 := x_a.frozen 0
        have c_a_1_w3 := x_a.cell (i := 1) rfl
        have f_a_1_w3 := x_a.frozen 1
        have c_a_2_w3 := x_a.cell (i := 2) rfl
        have f_a_2_w3 := x_a.frozen 2
        have c_a_3_w3 := x_a.cell (i := 3) rfl
        have f_a_3_w3 := x_a.frozen 3
        have c_a_4_w3 := x_a.cell (i := 4) rfl
        have f_a_4_w3 := x_a.frozen 4
        go_wp2_with fail
        refine (iRepOf_c (n := id) (rR.from_ B_w3)).mono ?_
        rintro e w4 ⟨u_, rfl, ou, h_w4⟩
        clear c_a_0_w3 f_a_0_w3 c_a_1_w3 f_a_1_w3 c_a_2_w3 f_a_2_w3 c_a_3_w3 f_a_3_w3 c_a_4_w3 f_a_4_w3
        replace x_a := x_a.from_ h_w4
        replace oS := oS.below h_w4
        have B_w4 := B_w3.trans (h_w4.mono B_w3.size)
        have s_w4 := h_w4.size
        rw [HH.out]
        obtain rfl := rv_rep ou.rd
        clear ou
        have c_a_0_w4 := x_a.cell (i := 0) rfl
        have f_a_0_w4 := x_a.frozen 0
        have c_a_1_w4 := x_a.cell (i := 1) rfl
        have f_a_1_w4 := x_a.frozen 1
        have c_a_2_w4 := x_a.cell (i := 2) rfl
        have f_a_2_w4 := x_a.frozen 2
        have c_a_3_w4 := x_a.cell (i := 3) rfl
        have f_a_3_w4 := x_a.frozen 3
        have c_a_4_w4 := x_a.cell (i := 4) rfl
        have f_a_4_w4 := x_a.frozen 4
        obtain ⟨w5, e_w5, s_w5, h_w5, x_o⟩ := alloc_step w4 90 [.int .i64 (repFirst a.Reps id).Node, .int .i64 (repFirst a.Reps id).Amt]
        have s_w5_1 := Nat.le_of_eq s_w5
        have s_w5_2 := Nat.le_of_eq s_w5.symm
        clear s_w5
        replace x_a := x_a.from_ h_w5
        replace oS := oS.below h_w5
        have B_w5 := B_w4.trans (h_w5.mono B_w4.size)
        have c_a_0_w5 := x_a.cell (i := 0) rfl
        have f_a_0_w5 := x_a.frozen 0
        have c_a_1_w5 := x_a.cell (i := 1) rfl
        have f_a_1_w5 := x_a.frozen 1
        have c_a_2_w5 := x_a.cell (i := 2) rfl
        have f_a_2_w5 := x_a.frozen 2
        have c_a_3_w5 := x_a.cell (i := 3) rfl
        have f_a_3_w5 := x_a.frozen 3
        have c_a_4_w5 := x_a.cell (i := 4) rfl
        have f_a_4_w5 := x_a.frozen 4
        have c_o_0_w5 := x_o.cell (i := 0) rfl
        have f_o_0_w5 := x_o.frozen 0
        have c_o_1_w5 := x_o.cell (i := 1) rfl
        have f_o_1_w5 := x_o.frozen 1
        have g0 : ((c9 : Int) == 0) = true := by have h1 := HC.out; have h2 := HK2.out; rw [beq_iff_eq]; omega
        go_wp2_with (at_len; refine wpl_msLen _ rfl (.tmp 43) rfl oS rfl ?_)
        go_quiet ((first | (go_at_call 75; exact Calls.quiet_of_same (kn _)) | (go_at_call 115; exact Calls.quiet_of_same (ks _))))
        have B9 := B_w5.trans (below_of_drew _ _ nq)
        go_wp2
        go_ret
        exact ⟨ret_eq (by rw [HO.out]; rfl), B9⟩
      case neg =>
        have HO : Hid (closedB a m id = false) := by show _ = _; rw [HE2.out, HOW.out, HFT.out, HBy.out, HS.out, decide_eq_false hSt]; rfl
        have gS : (a.State == S) = false := by simpa using hSt
        clear hSt
        go_enter Try.func101, Try.ntmps101
        go_wp2_with fail
        refine (iMissing_t (rM.from_ B0) hm hid HK.out HF.out).mono ?_
        rintro e w1 ⟨b9, N9, c9, p9, rfl, oS, hcl, h_w1⟩
        clear c_a_0_wa f_a_0_wa c_a_1_wa f_a_1_wa c_a_2_wa f_a_2_wa c_a_3_wa f_a_3_wa c_a_4_wa f_a_4_wa
        replace x_a := x_a.from_ h_w1
        have B_w1 := B0.trans (h_w1.mono B0.size)
        have s_w1 := h_w1.size
        have HC := Lib.hid hcl
        clear hcl
        have c_a_0_w1 := x_a.cell (i := 0) rfl
        have f_a_0_w1 := x_a.frozen 0
        have c_a_1_w1 := x_a.cell (i := 1) rfl
        have f_a_1_w1 := x_a.frozen 1
        have c_a_2_w1 := x_a.cell (i := 2) rfl
        have f_a_2_w1 := x_a.frozen 2
        have c_a_3_w1 := x_a.cell (i := 3) rfl
        have f_a_3_w1 := x_a.frozen 3
        have c_a_4_w1 := x_a.cell (i := 4) rfl
        have f_a_4_w1 := x_a.frozen 4
        go_wp2_with fail
        refine (iNodesS_c (rM.from_ B_w1)).mono ?_
        rintro e w' ⟨rfl, rfl⟩
        go_wp2_with fail
        refine (iAsc_c (rM.from_ B_w1)).mono ?_
        rintro e w2 ⟨rfl, h_w2⟩
        clear c_a_0_w1 f_a_0_w1 c_a_1_w1 f_a_1_w1 c_a_2_w1 f_a_2_w1 c_a_3_w1 f_a_3_w1 c_a_4_w1 f_a_4_w1
        replace x_a := x_a.from_ h_w2
        replace oS := oS.below h_w2
        have B_w2 := B_w1.trans (h_w2.mono B_w1.size)
        have s_w2 := h_w2.size
        rw [HA.out]
        have c_a_0_w2 := x_a.cell (i := 0) rfl
        have f_a_0_w2 := x_a.frozen 0
        have c_a_1_w2 := x_a.cell (i := 1) rfl
        have f_a_1_w2 := x_a.frozen 1
        have c_a_2_w2 := x_a.cell (i := 2) rfl
        have f_a_2_w2 := x_a.frozen 2
        have c_a_3_w2 := x_a.cell (i := 3) rfl
        have f_a_3_w2 := x_a.frozen 3
        have c_a_4_w2 := x_a.cell (i := 4) rfl
        have f_a_4_w2 := x_a.frozen 4
        go_wp2_with fail
        refine (iRepsOk_c (rR.from_ B_w2) hbR (by omega)).mono ?_
        rintro e w3 ⟨rfl, h_w3⟩
        clear c_a_0_w2 f_a_0_w2 c_a_1_w2 f_a_1_w2 c_a_2_w2 f_a_2_w2 c_a_3_w2 f_a_3_w2 c_a_4_w2 f_a_4_w2
        replace x_a := x_a.from_ h_w3
        replace oS := oS.below h_w3
        have B_w3 := B_w2.trans (h_w3.mono B_w2.size)
        have s_w3 := h_w3.size
        rw [HR.out]
        have c_a_0_w3 := x_a.cell (i := 0) rfl
        have f_a_0_w3 := x_a.frozen 0
        have c_a_1_w3 := x_a.cell (i := 1) rfl
        have f_a_1_w3 := x_a.frozen 1
        have c_a_2_w3 := x_a.cell (i := 2) rfl
        have f_a_2_w3 := x_a.frozen 2
        have c_a_3_w3 := x_a.cell (i := 3) rfl
        have f_a_3_w3 := x_a.frozen 3
        have c_a_4_w3 := x_a.cell (i := 4) rfl
        have f_a_4_w3 := x_a.frozen 4
        go_wp2_with fail
        refine (iRepOf_c (n := id) (rR.from_ B_w3)).mono ?_
        rintro e w4 ⟨u_, rfl, ou, h_w4⟩
        clear c_a_0_w3 f_a_0_w3 c_a_1_w3 f_a_1_w3 c_a_2_w3 f_a_2_w3 c_a_3_w3 f_a_3_w3 c_a_4_w3 f_a_4_w3
        replace x_a := x_a.from_ h_w4
        replace oS := oS.below h_w4
        have B_w4 := B_w3.trans (h_w4.mono B_w3.size)
        have s_w4 := h_w4.size
        rw [HH.out]
        obtain rfl := rv_rep ou.rd
        clear ou
        have c_a_0_w4 := x_a.cell (i := 0) rfl
        have f_a_0_w4 := x_a.frozen 0
        have c_a_1_w4 := x_a.cell (i := 1) rfl
        have f_a_1_w4 := x_a.frozen 1
        have c_a_2_w4 := x_a.cell (i := 2) rfl
        have f_a_2_w4 := x_a.frozen 2
        have c_a_3_w4 := x_a.cell (i := 3) rfl
        have f_a_3_w4 := x_a.frozen 3
        have c_a_4_w4 := x_a.cell (i := 4) rfl
        have f_a_4_w4 := x_a.frozen 4
        obtain ⟨w5, e_w5, s_w5, h_w5, x_o⟩ := alloc_step w4 90 [.int .i64 (repFirst a.Reps id).Node, .int .i64 (repFirst a.Reps id).Amt]
        have s_w5_1 := Nat.le_of_eq s_w5
        have s_w5_2 := Nat.le_of_eq s_w5.symm
        clear s_w5
        replace x_a := x_a.from_ h_w5
        replace oS := oS.below h_w5
        have B_w5 := B_w4.trans (h_w5.mono B_w4.size)
        have c_a_0_w5 := x_a.cell (i := 0) rfl
        have f_a_0_w5 := x_a.frozen 0
        have c_a_1_w5 := x_a.cell (i := 1) rfl
        have f_a_1_w5 := x_a.frozen 1
        have c_a_2_w5 := x_a.cell (i := 2) rfl
        have f_a_2_w5 := x_a.frozen 2
        have c_a_3_w5 := x_a.cell (i := 3) rfl
        have f_a_3_w5 := x_a.frozen 3
        have c_a_4_w5 := x_a.cell (i := 4) rfl
        have f_a_4_w5 := x_a.frozen 4
        have c_o_0_w5 := x_o.cell (i := 0) rfl
        have f_o_0_w5 := x_o.frozen 0
        have c_o_1_w5 := x_o.cell (i := 1) rfl
        have f_o_1_w5 := x_o.frozen 1
        have g0 : ((c9 : Int) == 0) = true := by have h1 := HC.out; have h2 := HK2.out; rw [beq_iff_eq]; omega
        go_wp2_with (at_len; refine wpl_msLen _ rfl (.tmp 43) rfl oS rfl ?_)
        go_quiet ((first | (go_at_call 75; exact Calls.quiet_of_same (kn _)) | (go_at_call 115; exact Calls.quiet_of_same (ks _))))
        have B9 := B_w5.trans (below_of_drew _ _ nq)
        go_wp2
        go_ret
        exact ⟨ret_eq (by rw [HO.out]; rfl), B9⟩
    case neg =>
      have HOW : Hid (ownB a m id = false) := by show _ = _; unfold ownB; rw [hH, decide_eq_false (show ¬ ((a.Marks.length : Int) = (m : Int) - 1) by omega)]; rfl
      have HK2 := Lib.hid hK
      clear hK hH
      have HO : Hid (closedB a m id = false) := by show _ = _; rw [HE2.out, HOW.out]; rfl
      go_enter Try.func101, Try.ntmps101
      go_wp2_with fail
      refine (iMissing_t (rM.from_ B0) hm hid HK.out HF.out).mono ?_
      rintro e w1 ⟨b9, N9, c9, p9, rfl, oS, hcl, h_w1⟩
      clear c_a_0_wa f_a_0_wa c_a_1_wa f_a_1_wa c_a_2_wa f_a_2_wa c_a_3_wa f_a_3_wa c_a_4_wa f_a_4_wa
      replace x_a := x_a.from_ h_w1
      have B_w1 := B0.trans (h_w1.mono B0.size)
      have s_w1 := h_w1.size
      have HC := Lib.hid hcl
      clear hcl
      have c_a_0_w1 := x_a.cell (i := 0) rfl
      have f_a_0_w1 := x_a.frozen 0
      have c_a_1_w1 := x_a.cell (i := 1) rfl
      have f_a_1_w1 := x_a.frozen 1
      have c_a_2_w1 := x_a.cell (i := 2) rfl
      have f_a_2_w1 := x_a.frozen 2
      have c_a_3_w1 := x_a.cell (i := 3) rfl
      have f_a_3_w1 := x_a.frozen 3
      have c_a_4_w1 := x_a.cell (i := 4) rfl
      have f_a_4_w1 := x_a.frozen 4
      go_wp2_with fail
      refine (iNodesS_c (rM.from_ B_w1)).mono ?_
      rintro e w' ⟨rfl, rfl⟩
      go_wp2_with fail
      refine (iAsc_c (rM.from_ B_w1)).mono ?_
      rintro e w2 ⟨rfl, h_w2⟩
      clear c_a_0_w1 f_a_0_w1 c_a_1_w1 f_a_1_w1 c_a_2_w1 f_a_2_w1 c_a_3_w1 f_a_3_w1 c_a_4_w1 f_a_4_w1
      replace x_a := x_a.from_ h_w2
      replace oS := oS.below h_w2
      have B_w2 := B_w1.trans (h_w2.mono B_w1.size)
      have s_w2 := h_w2.size
      rw [HA.out]
      have c_a_0_w2 := x_a.cell (i := 0) rfl
      have f_a_0_w2 := x_a.frozen 0
      have c_a_1_w2 := x_a.cell (i := 1) rfl
      have f_a_1_w2 := x_a.frozen 1
      have c_a_2_w2 := x_a.cell (i := 2) rfl
      have f_a_2_w2 := x_a.frozen 2
      have c_a_3_w2 := x_a.cell (i := 3) rfl
      have f_a_3_w2 := x_a.frozen 3
      have c_a_4_w2 := x_a.cell (i := 4) rfl
      have f_a_4_w2 := x_a.frozen 4
      go_wp2_with fail
      refine (iRepsOk_c (rR.from_ B_w2) hbR (by omega)).mono ?_
      rintro e w3 ⟨rfl, h_w3⟩
      clear c_a_0_w2 f_a_0_w2 c_a_1_w2 f_a_1_w2 c_a_2_w2 f_a_2_w2 c_a_3_w2 f_a_3_w2 c_a_4_w2 f_a_4_w2
      replace x_a := x_a.from_ h_w3
      replace oS := oS.below h_w3
      have B_w3 := B_w2.trans (h_w3.mono B_w2.size)
      have s_w3 := h_w3.size
      rw [HR.out]
      have c_a_0_w3 := x_a.cell (i := 0) rfl
      have f_a_0_w3 := x_a.frozen 0
      have c_a_1_w3 := x_a.cell (i := 1) rfl
      have f_a_1_w3 := x_a.frozen 1
      have c_a_2_w3 := x_a.cell (i := 2) rfl
      have f_a_2_w3 := x_a.frozen 2
      have c_a_3_w3 := x_a.cell (i := 3) rfl
      have f_a_3_w3 := x_a.frozen 3
      have c_a_4_w3 := x_a.cell (i := 4) rfl
      have f_a_4_w3 := x_a.frozen 4
      go_wp2_with fail
      refine (iRepOf_c (n := id) (rR.from_ B_w3)).mono ?_
      rintro e w4 ⟨u_, rfl, ou, h_w4⟩
      clear c_a_0_w3 f_a_0_w3 c_a_1_w3 f_a_1_w3 c_a_2_w3 f_a_2_w3 c_a_3_w3 f_a_3_w3 c_a_4_w3 f_a_4_w3
      replace x_a := x_a.from_ h_w4
      replace oS := oS.below h_w4
      have B_w4 := B_w3.trans (h_w4.mono B_w3.size)
      have s_w4 := h_w4.size
      rw [HH.out]
      obtain rfl := rv_rep ou.rd
      clear ou
      have c_a_0_w4 := x_a.cell (i := 0) rfl
      have f_a_0_w4 := x_a.frozen 0
      have c_a_1_w4 := x_a.cell (i := 1) rfl
      have f_a_1_w4 := x_a.frozen 1
      have c_a_2_w4 := x_a.cell (i := 2) rfl
      have f_a_2_w4 := x_a.frozen 2
      have c_a_3_w4 := x_a.cell (i := 3) rfl
      have f_a_3_w4 := x_a.frozen 3
      have c_a_4_w4 := x_a.cell (i := 4) rfl
      have f_a_4_w4 := x_a.frozen 4
      obtain ⟨w5, e_w5, s_w5, h_w5, x_o⟩ := alloc_step w4 90 [.int .i64 (repFirst a.Reps id).Node, .int .i64 (repFirst a.Reps id).Amt]
      have s_w5_1 := Nat.le_of_eq s_w5
      have s_w5_2 := Nat.le_of_eq s_w5.symm
      clear s_w5
      replace x_a := x_a.from_ h_w5
      replace oS := oS.below h_w5
      have B_w5 := B_w4.trans (h_w5.mono B_w4.size)
      have c_a_0_w5 := x_a.cell (i := 0) rfl
      have f_a_0_w5 := x_a.frozen 0
      have c_a_1_w5 := x_a.cell (i := 1) rfl
      have f_a_1_w5 := x_a.frozen 1
      have c_a_2_w5 := x_a.cell (i := 2) rfl
      have f_a_2_w5 := x_a.frozen 2
      have c_a_3_w5 := x_a.cell (i := 3) rfl
      have f_a_3_w5 := x_a.frozen 3
      have c_a_4_w5 := x_a.cell (i := 4) rfl
      have f_a_4_w5 := x_a.frozen 4
      have c_o_0_w5 := x_o.cell (i := 0) rfl
      have f_o_0_w5 := x_o.frozen 0
      have c_o_1_w5 := x_o.cell (i := 1) rfl
      have f_o_1_w5 := x_o.frozen 1
      have g0 : ((c9 : Int) == 0) = false := by have h1 := HC.out; have h2 := HK2.out; rw [beq_eq_false_iff_ne]; omega
      go_wp2_with (at_len; refine wpl_msLen _ rfl (.tmp 43) rfl oS rfl ?_)
      go_ret
      exact ⟨ret_eq (by rw [HO.out]; rfl), B_w5⟩
  case neg =>
    replace hH : hasRep a.Reps id = false := by simpa using hH
    have HH := Lib.hid hH
    by_cases hK : a.Marks.length + 1 = m
    case pos =>
      have HOW : Hid (ownB a m id = false) := by show _ = _; unfold ownB; rw [hH, decide_eq_true (show (a.Marks.length : Int) = (m : Int) - 1 by omega)]; rfl
      have HK2 := Lib.hid hK
      clear hK hH
      have HO : Hid (closedB a m id = false) := by show _ = _; rw [HE2.out, HOW.out]; rfl
      go_enter Try.func101, Try.ntmps101
      go_wp2_with fail
      refine (iMissing_t (rM.from_ B0) hm hid HK.out HF.out).mono ?_
      rintro e w1 ⟨b9, N9, c9, p9, rfl, oS, hcl, h_w1⟩
      clear c_a_0_wa f_a_0_wa c_a_1_wa f_a_1_wa c_a_2_wa f_a_2_wa c_a_3_wa f_a_3_wa c_a_4_wa f_a_4_wa
      replace x_a := x_a.from_ h_w1
      have B_w1 := B0.trans (h_w1.mono B0.size)
      have s_w1 := h_w1.size
      have HC := Lib.hid hcl
      clear hcl
      have c_a_0_w1 := x_a.cell (i := 0) rfl
      have f_a_0_w1 := x_a.frozen 0
      have c_a_1_w1 := x_a.cell (i := 1) rfl
      have f_a_1_w1 := x_a.frozen 1
      have c_a_2_w1 := x_a.cell (i := 2) rfl
      have f_a_2_w1 := x_a.frozen 2
      have c_a_3_w1 := x_a.cell (i := 3) rfl
      have f_a_3_w1 := x_a.frozen 3
      have c_a_4_w1 := x_a.cell (i := 4) rfl
      have f_a_4_w1 := x_a.frozen 4
      go_wp2_with fail
      refine (iNodesS_c (rM.from_ B_w1)).mono ?_
      rintro e w' ⟨rfl, rfl⟩
      go_wp2_with fail
      refine (iAsc_c (rM.from_ B_w1)).mono ?_
      rintro e w2 ⟨rfl, h_w2⟩
      clear c_a_0_w1 f_a_0_w1 c_a_1_w1 f_a_1_w1 c_a_2_w1 f_a_2_w1 c_a_3_w1 f_a_3_w1 c_a_4_w1 f_a_4_w1
      replace x_a := x_a.from_ h_w2
      replace oS := oS.below h_w2
      have B_w2 := B_w1.trans (h_w2.mono B_w1.size)
      have s_w2 := h_w2.size
      rw [HA.out]
      have c_a_0_w2 := x_a.cell (i := 0) rfl
      have f_a_0_w2 := x_a.frozen 0
      have c_a_1_w2 := x_a.cell (i := 1) rfl
      have f_a_1_w2 := x_a.frozen 1
      have c_a_2_w2 := x_a.cell (i := 2) rfl
      have f_a_2_w2 := x_a.frozen 2
      have c_a_3_w2 := x_a.cell (i := 3) rfl
      have f_a_3_w2 := x_a.frozen 3
      have c_a_4_w2 := x_a.cell (i := 4) rfl
      have f_a_4_w2 := x_a.frozen 4
      go_wp2_with fail
      refine (iRepsOk_c (rR.from_ B_w2) hbR (by omega)).mono ?_
      rintro e w3 ⟨rfl, h_w3⟩
      clear c_a_0_w2 f_a_0_w2 c_a_1_w2 f_a_1_w2 c_a_2_w2 f_a_2_w2 c_a_3_w2 f_a_3_w2 c_a_4_w2 f_a_4_w2
      replace x_a := x_a.from_ h_w3
      replace oS := oS.below h_w3
      have B_w3 := B_w2.trans (h_w3.mono B_w2.size)
      have s_w3 := h_w3.size
      rw [HR.out]
      have c_a_0_w3 := x_a.cell (i := 0) rfl
      have f_a_0_w3 := x_a.frozen 0
      have c_a_1_w3 := x_a.cell (i := 1) rfl
      have f_a_1_w3 := x_a.frozen 1
      have c_a_2_w3 := x_a.cell (i := 2) rfl
      have f_a_2_w3 := x_a.frozen 2
      have c_a_3_w3 := x_a.cell (i := 3) rfl
      have f_a_3_w3 := x_a.frozen 3
      have c_a_4_w3 := x_a.cell (i := 4) rfl
      have f_a_4_w3 := x_a.frozen 4
      go_wp2_with fail
      refine (iRepOf_c (n := id) (rR.from_ B_w3)).mono ?_
      rintro e w4 ⟨u_, rfl, ou, h_w4⟩
      clear c_a_0_w3 f_a_0_w3 c_a_1_w3 f_a_1_w3 c_a_2_w3 f_a_2_w3 c_a_3_w3 f_a_3_w3 c_a_4_w3 f_a_4_w3
      replace x_a := x_a.from_ h_w4
      replace oS := oS.below h_w4
      have B_w4 := B_w3.trans (h_w4.mono B_w3.size)
      have s_w4 := h_w4.size
      rw [HH.out]
      obtain rfl := rv_rep ou.rd
      clear ou
      have c_a_0_w4 := x_a.cell (i := 0) rfl
      have f_a_0_w4 := x_a.frozen 0
      have c_a_1_w4 := x_a.cell (i := 1) rfl
      have f_a_1_w4 := x_a.frozen 1
      have c_a_2_w4 := x_a.cell (i := 2) rfl
      have f_a_2_w4 := x_a.frozen 2
      have c_a_3_w4 := x_a.cell (i := 3) rfl
      have f_a_3_w4 := x_a.frozen 3
      have c_a_4_w4 := x_a.cell (i := 4) rfl
      have f_a_4_w4 := x_a.frozen 4
      obtain ⟨w5, e_w5, s_w5, h_w5, x_o⟩ := alloc_step w4 90 [.int .i64 (repFirst a.Reps id).Node, .int .i64 (repFirst a.Reps id).Amt]
      have s_w5_1 := Nat.le_of_eq s_w5
      have s_w5_2 := Nat.le_of_eq s_w5.symm
      clear s_w5
      replace x_a := x_a.from_ h_w5
      replace oS := oS.below h_w5
      have B_w5 := B_w4.trans (h_w5.mono B_w4.size)
      have c_a_0_w5 := x_a.cell (i := 0) rfl
      have f_a_0_w5 := x_a.frozen 0
      have c_a_1_w5 := x_a.cell (i := 1) rfl
      have f_a_1_w5 := x_a.frozen 1
      have c_a_2_w5 := x_a.cell (i := 2) rfl
      have f_a_2_w5 := x_a.frozen 2
      have c_a_3_w5 := x_a.cell (i := 3) rfl
      have f_a_3_w5 := x_a.frozen 3
      have c_a_4_w5 := x_a.cell (i := 4) rfl
      have f_a_4_w5 := x_a.frozen 4
      have c_o_0_w5 := x_o.cell (i := 0) rfl
      have f_o_0_w5 := x_o.frozen 0
      have c_o_1_w5 := x_o.cell (i := 1) rfl
      have f_o_1_w5 := x_o.frozen 1
      have g0 : ((c9 : Int) == 0) = true := by have h1 := HC.out; have h2 := HK2.out; rw [beq_iff_eq]; omega
      go_wp2_with (at_len; refine wpl_msLen _ rfl (.tmp 43) rfl oS rfl ?_)
      go_ret
      exact ⟨ret_eq (by rw [HO.out]; rfl), B_w5⟩
    case neg =>
      have HOW : Hid (ownB a m id = true) := by show _ = _; unfold ownB; rw [hH, decide_eq_false (show ¬ ((a.Marks.length : Int) = (m : Int) - 1) by omega)]; rfl
      have HK2 := Lib.hid hK
      clear hK hH
      have HFT : Hid (ownFit a id = true) := by show _ = _; unfold ownFit; rw [HH.out]; rfl
      obtain ⟨S, hS⟩ : ∃ S, stateOf (a.Reps.length : Int) (m : Int) = S := ⟨_, rfl⟩
      have HS := Lib.hid hS
      have ks : ∀ W, Calls Try.prog 115 #[.int .i64 (a.Reps.length : Int), .int .i64 (m : Int)] W fun e w' => e = .returned (.int .i64 S) ∧ w' = W := fun W => (iClosedState_any _ _ W).mono (by rintro e w' ⟨rfl, rfl⟩; exact ⟨by rw [HS.out], rfl⟩)
      clear hS
      by_cases hBy : inB a.By 0 (m - 1) = true
      case neg =>
        replace hBy : inB a.By 0 (m - 1) = false := by simpa using hBy
        have HBy := Lib.hid hBy
        have kn : ∀ W, Calls Try.prog 75 #[.int .i64 a.By, .int .i64 (m : Int)] W fun e w' => e = .returned (.bool false) ∧ w' = W := fun W => (iNodeOf_any _ _ W).mono (by rintro e w' ⟨rfl, rfl⟩; exact ⟨by rw [HBy.out], rfl⟩)
        clear hBy
        have HO : Hid (closedB a m id = false) := by show _ = _; rw [HE2.out, HOW.out, HFT.out, HBy.out]; rfl
        go_enter Try.func101, Try.ntmps101
        go_wp2_with fail
        refine (iMissing_t (rM.from_ B0) hm hid HK.out HF.out).mono ?_
        rintro e w1 ⟨b9, N9, c9, p9, rfl, oS, hcl, h_w1⟩
        clear c_a_0_wa f_a_0_wa c_a_1_wa f_a_1_wa c_a_2_wa f_a_2_wa c_a_3_wa f_a_3_wa c_a_4_wa f_a_4_wa
        replace x_a := x_a.from_ h_w1
        have B_w1 := B0.trans (h_w1.mono B0.size)
        have s_w1 := h_w1.size
        have HC := Lib.hid hcl
        clear hcl
        have c_a_0_w1 := x_a.cell (i := 0) rfl
        have f_a_0_w1 := x_a.frozen 0
        have c_a_1_w1 := x_a.cell (i := 1) rfl
        have f_a_1_w1 := x_a.frozen 1
        have c_a_2_w1 := x_a.cell (i := 2) rfl
        have f_a_2_w1 := x_a.frozen 2
        have c_a_3_w1 := x_a.cell (i := 3) rfl
        have f_a_3_w1 := x_a.frozen 3
        have c_a_4_w1 := x_a.cell (i := 4) rfl
        have f_a_4_w1 := x_a.frozen 4
        go_wp2_with fail
        refine (iNodesS_c (rM.from_ B_w1)).mono ?_
        rintro e w' ⟨rfl, rfl⟩
        go_wp2_with fail
        refine (iAsc_c (rM.from_ B_w1)).mono ?_
        rintro e w2 ⟨rfl, h_w2⟩
        clear c_a_0_w1 f_a_0_w1 c_a_1_w1 f_a_1_w1 c_a_2_w1 f_a_2_w1 c_a_3_w1 f_a_3_w1 c_a_4_w1 f_a_4_w1
        replace x_a := x_a.from_ h_w2
        replace oS := oS.below h_w2
        have B_w2 := B_w1.trans (h_w2.mono B_w1.size)
        have s_w2 := h_w2.size
        rw [HA.out]
        have c_a_0_w2 := x_a.cell (i := 0) rfl
        have f_a_0_w2 := x_a.frozen 0
        have c_a_1_w2 := x_a.cell (i := 1) rfl
        have f_a_1_w2 := x_a.frozen 1
        have c_a_2_w2 := x_a.cell (i := 2) rfl
        have f_a_2_w2 := x_a.frozen 2
        have c_a_3_w2 := x_a.cell (i := 3) rfl
        have f_a_3_w2 := x_a.frozen 3
        have c_a_4_w2 := x_a.cell (i := 4) rfl
        have f_a_4_w2 := x_a.frozen 4
        go_wp2_with fail
        refine (iRepsOk_c (rR.from_ B_w2) hbR (by omega)).mono ?_
        rintro e w3 ⟨rfl, h_w3⟩
        clear c_a_0_w2 f_a_0_w2 c_a_1_w2 f_a_1_w2 c_a_2_w2 f_a_2_w2 c_a_3_w2 f_a_3_w2 c_a_4_w2 f_a_4_w2
        replace x_a := x_a.from_ h_w3
        replace oS := oS.below h_w3
        have B_w3 := B_w2.trans (h_w3.mono B_w2.size)
        have s_w3 := h_w3.size
        rw [HR.out]
        have c_a_0_w3 := x_a.cell (i := 0) rfl
        have f_a_0_w3 := x_a.frozen 0
        have c_a_1_w3 := x_a.cell (i := 1) rfl
        have f_a_1_w3 := x_a.frozen 1
        have c_a_2_w3 := x_a.cell (i := 2) rfl
        have f_a_2_w3 := x_a.frozen 2
        have c_a_3_w3 := x_a.cell (i := 3) rfl
        have f_a_3_w3 := x_a.frozen 3
        have c_a_4_w3 := x_a.cell (i := 4) rfl
        have f_a_4_w3 := x_a.frozen 4
        go_wp2_with fail
        refine (iRepOf_c (n := id) (rR.from_ B_w3)).mono ?_
        rintro e w4 ⟨u_, rfl, ou, h_w4⟩
        clear c_a_0_w3 f_a_0_w3 c_a_1_w3 f_a_1_w3 c_a_2_w3 f_a_2_w3 c_a_3_w3 f_a_3_w3 c_a_4_w3 f_a_4_w3
        replace x_a := x_a.from_ h_w4
        replace oS := oS.below h_w4
        have B_w4 := B_w3.trans (h_w4.mono B_w3.size)
        have s_w4 := h_w4.size
        rw [HH.out]
        obtain rfl := rv_rep ou.rd
        clear ou
        have c_a_0_w4 := x_a.cell (i := 0) rfl
        have f_a_0_w4 := x_a.frozen 0
        have c_a_1_w4 := x_a.cell (i := 1) rfl
        have f_a_1_w4 := x_a.frozen 1
        have c_a_2_w4 := x_a.cell (i := 2) rfl
        have f_a_2_w4 := x_a.frozen 2
        have c_a_3_w4 := x_a.cell (i := 3) rfl
        have f_a_3_w4 := x_a.frozen 3
        have c_a_4_w4 := x_a.cell (i := 4) rfl
        have f_a_4_w4 := x_a.frozen 4
        obtain ⟨w5, e_w5, s_w5, h_w5, x_o⟩ := alloc_step w4 90 [.int .i64 (repFirst a.Reps id).Node, .int .i64 (repFirst a.Reps id).Amt]
        have s_w5_1 := Nat.le_of_eq s_w5
        have s_w5_2 := Nat.le_of_eq s_w5.symm
        clear s_w5
        replace x_a := x_a.from_ h_w5
        replace oS := oS.below h_w5
        have B_w5 := B_w4.trans (h_w5.mono B_w4.size)
        have c_a_0_w5 := x_a.cell (i := 0) rfl
        have f_a_0_w5 := x_a.frozen 0
        have c_a_1_w5 := x_a.cell (i := 1) rfl
        have f_a_1_w5 := x_a.frozen 1
        have c_a_2_w5 := x_a.cell (i := 2) rfl
        have f_a_2_w5 := x_a.frozen 2
        have c_a_3_w5 := x_a.cell (i := 3) rfl
        have f_a_3_w5 := x_a.frozen 3
        have c_a_4_w5 := x_a.cell (i := 4) rfl
        have f_a_4_w5 := x_a.frozen 4
        have c_o_0_w5 := x_o.cell (i := 0) rfl
        have f_o_0_w5 := x_o.frozen 0
        have c_o_1_w5 := x_o.cell (i := 1) rfl
        have f_o_1_w5 := x_o.frozen 1
        have g0 : ((c9 : Int) == 0) = false := by have h1 := HC.out; have h2 := HK2.out; rw [beq_eq_false_iff_ne]; omega
        go_wp2_with (at_len; refine wpl_msLen _ rfl (.tmp 43) rfl oS rfl ?_)
        go_quiet ((first | (go_at_call 75; exact Calls.quiet_of_same (kn _)) | (go_at_call 115; exact Calls.quiet_of_same (ks _))))
        have B9 := B_w5.trans (below_of_drew _ _ nq)
        go_wp2
        go_ret
        exact ⟨ret_eq (by rw [HO.out]; rfl), B9⟩
      have HBy := Lib.hid hBy
      have kn : ∀ W, Calls Try.prog 75 #[.int .i64 a.By, .int .i64 (m : Int)] W fun e w' => e = .returned (.bool true) ∧ w' = W := fun W => (iNodeOf_any _ _ W).mono (by rintro e w' ⟨rfl, rfl⟩; exact ⟨by rw [HBy.out], rfl⟩)
      clear hBy
      by_cases hSt : a.State = S
      case pos =>
        have HO : Hid (closedB a m id = true) := by show _ = _; rw [HE2.out, HOW.out, HFT.out, HBy.out, HS.out, decide_eq_true hSt]; rfl
        have gS : (a.State == S) = true := by simpa using hSt
        clear hSt
        go_enter Try.func101, Try.ntmps101
        go_wp2_with fail
        refine (iMissing_t (rM.from_ B0) hm hid HK.out HF.out).mono ?_
        rintro e w1 ⟨b9, N9, c9, p9, rfl, oS, hcl, h_w1⟩
        clear c_a_0_wa f_a_0_wa c_a_1_wa f_a_1_wa c_a_2_wa f_a_2_wa c_a_3_wa f_a_3_wa c_a_4_wa f_a_4_wa
        replace x_a := x_a.from_ h_w1
        have B_w1 := B0.trans (h_w1.mono B0.size)
        have s_w1 := h_w1.size
        have HC := Lib.hid hcl
        clear hcl
        have c_a_0_w1 := x_a.cell (i := 0) rfl
        have f_a_0_w1 := x_a.frozen 0
        have c_a_1_w1 := x_a.cell (i := 1) rfl
        have f_a_1_w1 := x_a.frozen 1
        have c_a_2_w1 := x_a.cell (i := 2) rfl
        have f_a_2_w1 := x_a.frozen 2
        have c_a_3_w1 := x_a.cell (i := 3) rfl
        have f_a_3_w1 := x_a.frozen 3
        have c_a_4_w1 := x_a.cell (i := 4) rfl
        have f_a_4_w1 := x_a.frozen 4
        go_wp2_with fail
        refine (iNodesS_c (rM.from_ B_w1)).mono ?_
        rintro e w' ⟨rfl, rfl⟩
        go_wp2_with fail
        refine (iAsc_c (rM.from_ B_w1)).mono ?_
        rintro e w2 ⟨rfl, h_w2⟩
        clear c_a_0_w1 f_a_0_w1 c_a_1_w1 f_a_1_w1 c_a_2_w1 f_a_2_w1 c_a_3_w1 f_a_3_w1 c_a_4_w1 f_a_4_w1
        replace x_a := x_a.from_ h_w2
        replace oS := oS.below h_w2
        have B_w2 := B_w1.trans (h_w2.mono B_w1.size)
        have s_w2 := h_w2.size
        rw [HA.out]
        have c_a_0_w2 := x_a.cell (i := 0) rfl
        have f_a_0_w2 := x_a.frozen 0
        have c_a_1_w2 := x_a.cell (i := 1) rfl
        have f_a_1_w2 := x_a.frozen 1
        have c_a_2_w2 := x_a.cell (i := 2) rfl
        have f_a_2_w2 := x_a.frozen 2
        have c_a_3_w2 := x_a.cell (i := 3) rfl
        have f_a_3_w2 := x_a.frozen 3
        have c_a_4_w2 := x_a.cell (i := 4) rfl
        have f_a_4_w2 := x_a.frozen 4
        go_wp2_with fail
        refine (iRepsOk_c (rR.from_ B_w2) hbR (by omega)).mono ?_
        rintro e w3 ⟨rfl, h_w3⟩
        clear c_a_0_w2 f_a_0_w2 c_a_1_w2 f_a_1_w2 c_a_2_w2 f_a_2_w2 c_a_3_w2 f_a_3_w2 c_a_4_w2 f_a_4_w2
        replace x_a := x_a.from_ h_w3
        replace oS := oS.below h_w3
        have B_w3 := B_w2.trans (h_w3.mono B_w2.size)
        have s_w3 := h_w3.size
        rw [HR.out]
        have c_a_0_w3 := x_a.cell (i := 0) rfl
        have f_a_0_w3 := x_a.frozen 0
        have c_a_1_w3 := x_a.cell (i := 1) rfl
        have f_a_1_w3 := x_a.frozen 1
        have c_a_2_w3 := x_a.cell (i := 2) rfl
        have f_a_2_w3 := x_a.frozen 2
        have c_a_3_w3 := x_a.cell (i := 3) rfl
        have f_a_3_w3 := x_a.frozen 3
        have c_a_4_w3 := x_a.cell (i := 4) rfl
        have f_a_4_w3 := x_a.frozen 4
        go_wp2_with fail
        refine (iRepOf_c (n := id) (rR.from_ B_w3)).mono ?_
        rintro e w4 ⟨u_, rfl, ou, h_w4⟩
        clear c_a_0_w3 f_a_0_w3 c_a_1_w3 f_a_1_w3 c_a_2_w3 f_a_2_w3 c_a_3_w3 f_a_3_w3 c_a_4_w3 f_a_4_w3
        replace x_a := x_a.from_ h_w4
        replace oS := oS.below h_w4
        have B_w4 := B_w3.trans (h_w4.mono B_w3.size)
        have s_w4 := h_w4.size
        rw [HH.out]
        obtain rfl := rv_rep ou.rd
        clear ou
        have c_a_0_w4 := x_a.cell (i := 0) rfl
        have f_a_0_w4 := x_a.frozen 0
        have c_a_1_w4 := x_a.cell (i := 1) rfl
        have f_a_1_w4 := x_a.frozen 1
        have c_a_2_w4 := x_a.cell (i := 2) rfl
        have f_a_2_w4 := x_a.frozen 2
        have c_a_3_w4 := x_a.cell (i := 3) rfl
        have f_a_3_w4 := x_a.frozen 3
        have c_a_4_w4 := x_a.cell (i := 4) rfl
        have f_a_4_w4 := x_a.frozen 4
        obtain ⟨w5, e_w5, s_w5, h_w5, x_o⟩ := alloc_step w4 90 [.int .i64 (repFirst a.Reps id).Node, .int .i64 (repFirst a.Reps id).Amt]
        have s_w5_1 := Nat.le_of_eq s_w5
        have s_w5_2 := Nat.le_of_eq s_w5.symm
        clear s_w5
        replace x_a := x_a.from_ h_w5
        replace oS := oS.below h_w5
        have B_w5 := B_w4.trans (h_w5.mono B_w4.size)
        have c_a_0_w5 := x_a.cell (i := 0) rfl
        have f_a_0_w5 := x_a.frozen 0
        have c_a_1_w5 := x_a.cell (i := 1) rfl
        have f_a_1_w5 := x_a.frozen 1
        have c_a_2_w5 := x_a.cell (i := 2) rfl
        have f_a_2_w5 := x_a.frozen 2
        have c_a_3_w5 := x_a.cell (i := 3) rfl
        have f_a_3_w5 := x_a.frozen 3
        have c_a_4_w5 := x_a.cell (i := 4) rfl
        have f_a_4_w5 := x_a.frozen 4
        have c_o_0_w5 := x_o.cell (i := 0) rfl
        have f_o_0_w5 := x_o.frozen 0
        have c_o_1_w5 := x_o.cell (i := 1) rfl
        have f_o_1_w5 := x_o.frozen 1
        have g0 : ((c9 : Int) == 0) = false := by have h1 := HC.out; have h2 := HK2.out; rw [beq_eq_false_iff_ne]; omega
        go_wp2_with (at_len; refine wpl_msLen _ rfl (.tmp 43) rfl oS rfl ?_)
        go_quiet ((first | (go_at_call 75; exact Calls.quiet_of_same (kn _)) | (go_at_call 115; exact Calls.quiet_of_same (ks _))))
        have B9 := B_w5.trans (below_of_drew _ _ nq)
        go_wp2
        go_ret
        exact ⟨ret_eq (by rw [HO.out]; rfl), B9⟩
      case neg =>
        have HO : Hid (closedB a m id = false) := by show _ = _; rw [HE2.out, HOW.out, HFT.out, HBy.out, HS.out, decide_eq_false hSt]; rfl
        have gS : (a.State == S) = false := by simpa using hSt
        clear hSt
        go_enter Try.func101, Try.ntmps101
        go_wp2_with fail
        refine (iMissing_t (rM.from_ B0) hm hid HK.out HF.out).mono ?_
        rintro e w1 ⟨b9, N9, c9, p9, rfl, oS, hcl, h_w1⟩
        clear c_a_0_wa f_a_0_wa c_a_1_wa f_a_1_wa c_a_2_wa f_a_2_wa c_a_3_wa f_a_3_wa c_a_4_wa f_a_4_wa
        replace x_a := x_a.from_ h_w1
        have B_w1 := B0.trans (h_w1.mono B0.size)
        have s_w1 := h_w1.size
        have HC := Lib.hid hcl
        clear hcl
        have c_a_0_w1 := x_a.cell (i := 0) rfl
        have f_a_0_w1 := x_a.frozen 0
        have c_a_1_w1 := x_a.cell (i := 1) rfl
        have f_a_1_w1 := x_a.frozen 1
        have c_a_2_w1 := x_a.cell (i := 2) rfl
        have f_a_2_w1 := x_a.frozen 2
        have c_a_3_w1 := x_a.cell (i := 3) rfl
        have f_a_3_w1 := x_a.frozen 3
        have c_a_4_w1 := x_a.cell (i := 4) rfl
        have f_a_4_w1 := x_a.frozen 4
        go_wp2_with fail
        refine (iNodesS_c (rM.from_ B_w1)).mono ?_
        rintro e w' ⟨rfl, rfl⟩
        go_wp2_with fail
        refine (iAsc_c (rM.from_ B_w1)).mono ?_
        rintro e w2 ⟨rfl, h_w2⟩
        clear c_a_0_w1 f_a_0_w1 c_a_1_w1 f_a_1_w1 c_a_2_w1 f_a_2_w1 c_a_3_w1 f_a_3_w1 c_a_4_w1 f_a_4_w1
        replace x_a := x_a.from_ h_w2
        replace oS := oS.below h_w2
        have B_w2 := B_w1.trans (h_w2.mono B_w1.size)
        have s_w2 := h_w2.size
        rw [HA.out]
        have c_a_0_w2 := x_a.cell (i := 0) rfl
        have f_a_0_w2 := x_a.frozen 0
        have c_a_1_w2 := x_a.cell (i := 1) rfl
        have f_a_1_w2 := x_a.frozen 1
        have c_a_2_w2 := x_a.cell (i := 2) rfl
        have f_a_2_w2 := x_a.frozen 2
        have c_a_3_w2 := x_a.cell (i := 3) rfl
        have f_a_3_w2 := x_a.frozen 3
        have c_a_4_w2 := x_a.cell (i := 4) rfl
        have f_a_4_w2 := x_a.frozen 4
        go_wp2_with fail
        refine (iRepsOk_c (rR.from_ B_w2) hbR (by omega)).mono ?_
        rintro e w3 ⟨rfl, h_w3⟩
        clear c_a_0_w2 f_a_0_w2 c_a_1_w2 f_a_1_w2 c_a_2_w2 f_a_2_w2 c_a_3_w2 f_a_3_w2 c_a_4_w2 f_a_4_w2
        replace x_a := x_a.from_ h_w3
        replace oS := oS.below h_w3
        have B_w3 := B_w2.trans (h_w3.mono B_w2.size)
        have s_w3 := h_w3.size
        rw [HR.out]
        have c_a_0_w3 := x_a.cell (i := 0) rfl
        have f_a_0_w3 := x_a.frozen 0
        have c_a_1_w3 := x_a.cell (i := 1) rfl
        have f_a_1_w3 := x_a.frozen 1
        have c_a_2_w3 := x_a.cell (i := 2) rfl
        have f_a_2_w3 := x_a.frozen 2
        have c_a_3_w3 := x_a.cell (i := 3) rfl
        have f_a_3_w3 := x_a.frozen 3
        have c_a_4_w3 := x_a.cell (i := 4) rfl
        have f_a_4_w3 := x_a.frozen 4
        go_wp2_with fail
        refine (iRepOf_c (n := id) (rR.from_ B_w3)).mono ?_
        rintro e w4 ⟨u_, rfl, ou, h_w4⟩
        clear c_a_0_w3 f_a_0_w3 c_a_1_w3 f_a_1_w3 c_a_2_w3 f_a_2_w3 c_a_3_w3 f_a_3_w3 c_a_4_w3 f_a_4_w3
        replace x_a := x_a.from_ h_w4
        replace oS := oS.below h_w4
        have B_w4 := B_w3.trans (h_w4.mono B_w3.size)
        have s_w4 := h_w4.size
        rw [HH.out]
        obtain rfl := rv_rep ou.rd
        clear ou
        have c_a_0_w4 := x_a.cell (i := 0) rfl
        have f_a_0_w4 := x_a.frozen 0
        have c_a_1_w4 := x_a.cell (i := 1) rfl
        have f_a_1_w4 := x_a.frozen 1
        have c_a_2_w4 := x_a.cell (i := 2) rfl
        have f_a_2_w4 := x_a.frozen 2
        have c_a_3_w4 := x_a.cell (i := 3) rfl
        have f_a_3_w4 := x_a.frozen 3
        have c_a_4_w4 := x_a.cell (i := 4) rfl
        have f_a_4_w4 := x_a.frozen 4
        obtain ⟨w5, e_w5, s_w5, h_w5, x_o⟩ := alloc_step w4 90 [.int .i64 (repFirst a.Reps id).Node, .int .i64 (repFirst a.Reps id).Amt]
        have s_w5_1 := Nat.le_of_eq s_w5
        have s_w5_2 := Nat.le_of_eq s_w5.symm
        clear s_w5
        replace x_a := x_a.from_ h_w5
        replace oS := oS.below h_w5
        have B_w5 := B_w4.trans (h_w5.mono B_w4.size)
        have c_a_0_w5 := x_a.cell (i := 0) rfl
        have f_a_0_w5 := x_a.frozen 0
        have c_a_1_w5 := x_a.cell (i := 1) rfl
        have f_a_1_w5 := x_a.frozen 1
        have c_a_2_w5 := x_a.cell (i := 2) rfl
        have f_a_2_w5 := x_a.frozen 2
        have c_a_3_w5 := x_a.cell (i := 3) rfl
        have f_a_3_w5 := x_a.frozen 3
        have c_a_4_w5 := x_a.cell (i := 4) rfl
        have f_a_4_w5 := x_a.frozen 4
        have c_o_0_w5 := x_o.cell (i := 0) rfl
        have f_o_0_w5 := x_o.frozen 0
        have c_o_1_w5 := x_o.cell (i := 1) rfl
        have f_o_1_w5 := x_o.frozen 1
        have g0 : ((c9 : Int) == 0) = false := by have h1 := HC.out; have h2 := HK2.out; rw [beq_eq_false_iff_ne]; omega
        go_wp2_with (at_len; refine wpl_msLen _ rfl (.tmp 43) rfl oS rfl ?_)
        go_quiet ((first | (go_at_call 75; exact Calls.quiet_of_same (kn _)) | (go_at_call 115; exact Calls.quiet_of_same (ks _))))
        have B9 := B_w5.trans (below_of_drew _ _ nq)
        go_wp2
        go_ret
        exact ⟨ret_eq (by rw [HO.out]; rfl), B9⟩

set_option maxRecDepth 100000 in
set_option maxHeartbeats 4000000 in
theorem iAcctOk_c {w : World} {v : Value} {a : MAcct} {n id : Int} (h : RV acctL w v a) (hb : a.bulk ≤ 16777216) (hk : ∀ i, i < a.Marks.length → i64R (a.Marks.getD i 0)) : Calls Try.prog 76 #[v, .int .i64 n, .int .i64 id] w fun e w' => e = .returned (.bool (acctOkB a n id)) ∧ Below w.heap.size w w' := by
  have h0 := h
  obtain ⟨AM, cM, AR, cR, rfl, rM, rR⟩ := rv_acct h
  clear h
  have HK9 := Lib.hid hk
  clear hk
  obtain ⟨wa, hwa, B0, sa, x_a⟩ := frame1 w 52 [.int .i64 a.Have, .int .i64 a.State, .int .i64 a.By, .slice AM a.Marks.length cM, .slice AR a.Reps.length cR]
  have sa_1 := Nat.le_of_eq sa
  have sa_2 := Nat.le_of_eq sa.symm
  clear sa
  have c_a_0_wa := x_a.cell (i := 0) rfl
  have c_a_1_wa := x_a.cell (i := 1) rfl
  have c_a_2_wa := x_a.cell (i := 2) rfl
  have c_a_3_wa := x_a.cell (i := 3) rfl
  have c_a_4_wa := x_a.cell (i := 4) rfl
  by_cases hN : inB n 1 4 = true
  case neg =>
    replace hN : inB n 1 4 = false := by simpa using hN
    have HN := Lib.hid hN
    have HO : Hid (acctOkB a n id = false) := by show _ = _; unfold acctOkB; rw [hN]; simp
    clear hN
    go_enter Try.func76, Try.ntmps76
    go_wp2_with fail
    refine (iNodeCount_any _ _).mono ?_
    rintro e w' ⟨rfl, rfl⟩
    rw [HN.out]
    go_wp2
    go_ret
    exact ⟨ret_eq (by rw [HO.out]; rfl), B0⟩
  have HN := Lib.hid hN
  by_cases hI : inB id 0 (n - 1) = true
  case neg =>
    replace hI : inB id 0 (n - 1) = false := by simpa using hI
    have HI := Lib.hid hI
    have HO : Hid (acctOkB a n id = false) := by show _ = _; unfold acctOkB; rw [hI]; simp
    clear hN hI
    go_enter Try.func76, Try.ntmps76
    go_wp2_with fail
    refine (iNodeCount_any _ _).mono ?_
    rintro e w' ⟨rfl, rfl⟩
    rw [HN.out]
    go_wp2_with fail
    refine (iNodeOf_any _ _ _).mono ?_
    rintro e w' ⟨rfl, rfl⟩
    rw [HI.out]
    go_wp2
    go_ret
    exact ⟨ret_eq (by rw [HO.out]; rfl), B0⟩
  have HI := Lib.hid hI
  by_cases hV : numB a.Have = true
  case neg =>
    replace hV : numB a.Have = false := by simpa using hV
    have HV := Lib.hid hV
    have HO : Hid (acctOkB a n id = false) := by show _ = _; unfold acctOkB; rw [hV]; simp
    clear hN hI hV
    go_enter Try.func76, Try.ntmps76
    go_wp2_with fail
    refine (iNodeCount_any _ _).mono ?_
    rintro e w' ⟨rfl, rfl⟩
    rw [HN.out]
    go_wp2_with fail
    refine (iNodeOf_any _ _ _).mono ?_
    rintro e w' ⟨rfl, rfl⟩
    rw [HI.out]
    go_wp2_with fail
    refine (iNum_any _ _).mono ?_
    rintro e w' ⟨rfl, rfl⟩
    rw [HV.out]
    go_wp2
    go_ret
    exact ⟨ret_eq (by rw [HO.out]; rfl), B0⟩
  have HV := Lib.hid hV
  have HE : Hid (acctOkB a n id = if a.State = 0 then openB a else closedB a n id) := by show _ = _; unfold acctOkB; rw [hN, hI, hV]; rfl
  have bn := inB_true.1 hN
  have bi := inB_true.1 hI
  clear hN hI hV
  by_cases hS : a.State = 0
  case neg =>
    have HO : Hid (acctOkB a n id = closedB a n id) := by show _ = _; rw [HE.out, if_neg hS]
    have gS : (a.State == 0) = false := by simpa using hS
    clear hS
    obtain ⟨m, rfl⟩ : ∃ m : Nat, n = (m : Int) := ⟨n.toNat, by omega⟩
    go_enter Try.func76, Try.ntmps76
    go_wp2_with fail
    refine (iNodeCount_any _ _).mono ?_
    rintro e w' ⟨rfl, rfl⟩
    rw [HN.out]
    go_wp2_with fail
    refine (iNodeOf_any _ _ _).mono ?_
    rintro e w' ⟨rfl, rfl⟩
    rw [HI.out]
    go_wp2_with fail
    refine (iNum_any _ _).mono ?_
    rintro e w' ⟨rfl, rfl⟩
    rw [HV.out]
    go_wp2_with fail
    refine (iClosedOk_c (h0.from_ B0) hb (by omega) (by omega) HK9.out).mono ?_
    rintro e w1 ⟨rfl, h_w1⟩
    clear c_a_0_wa c_a_1_wa c_a_2_wa c_a_3_wa c_a_4_wa
    replace x_a := x_a.from_ h_w1
    have B_w1 := B0.trans (h_w1.mono B0.size)
    have s_w1 := h_w1.size
    go_wp2
    go_ret
    exact ⟨ret_eq (by rw [HO.out]; rfl), B_w1⟩
  have gS : (a.State == 0) = true := by simpa using hS
  have HE2 : Hid (acctOkB a n id = openB a) := by show _ = _; rw [HE.out, if_pos hS]
  clear hS
  by_cases hBy : a.By = 0
  case neg =>
    have HO : Hid (acctOkB a n id = false) := by show _ = _; rw [HE2.out]; unfold openB; rw [decide_eq_false hBy]; simp
    have gBy : (a.By == 0) = false := by rw [beq_eq_false_iff_ne]; omega
    clear hBy
    go_enter Try.func76, Try.ntmps76
    go_wp2_with fail
    refine (iNodeCount_any _ _).mono ?_
    rintro e w' ⟨rfl, rfl⟩
    rw [HN.out]
    go_wp2_with fail
    refine (iNodeOf_any _ _ _).mono ?_
    rintro e w' ⟨rfl, rfl⟩
    rw [HI.out]
    go_wp2_with fail
    refine (iNum_any _ _).mono ?_
    rintro e w' ⟨rfl, rfl⟩
    rw [HV.out]
    go_wp2
    go_ret
    exact ⟨ret_eq (by rw [HO.out]; rfl), B0⟩
  have gBy : (a.By == 0) = true := by rw [beq_iff_eq]; omega
  by_cases hM : a.Marks.length = 0
  case neg =>
    have HO : Hid (acctOkB a n id = false) := by show _ = _; rw [HE2.out]; unfold openB; rw [decide_eq_false hM]; simp
    have gM : ((a.Marks.length : Int) == 0) = false := by rw [beq_eq_false_iff_ne]; omega
    clear hBy hM
    go_enter Try.func76, Try.ntmps76
    go_wp2_with fail
    refine (iNodeCount_any _ _).mono ?_
    rintro e w' ⟨rfl, rfl⟩
    rw [HN.out]
    go_wp2_with fail
    refine (iNodeOf_any _ _ _).mono ?_
    rintro e w' ⟨rfl, rfl⟩
    rw [HI.out]
    go_wp2_with fail
    refine (iNum_any _ _).mono ?_
    rintro e w' ⟨rfl, rfl⟩
    rw [HV.out]
    go_wp2
    go_ret
    exact ⟨ret_eq (by rw [HO.out]; rfl), B0⟩
  have gM : ((a.Marks.length : Int) == 0) = true := by rw [beq_iff_eq]; omega
  by_cases hR : a.Reps.length = 0
  case neg =>
    have HO : Hid (acctOkB a n id = false) := by show _ = _; rw [HE2.out]; unfold openB; rw [decide_eq_false hR]; simp
    have gR : ((a.Reps.length : Int) == 0) = false := by rw [beq_eq_false_iff_ne]; omega
    clear hBy hM hR
    go_enter Try.func76, Try.ntmps76
    go_wp2_with fail
    refine (iNodeCount_any _ _).mono ?_
    rintro e w' ⟨rfl, rfl⟩
    rw [HN.out]
    go_wp2_with fail
    refine (iNodeOf_any _ _ _).mono ?_
    rintro e w' ⟨rfl, rfl⟩
    rw [HI.out]
    go_wp2_with fail
    refine (iNum_any _ _).mono ?_
    rintro e w' ⟨rfl, rfl⟩
    rw [HV.out]
    go_wp2
    go_ret
    exact ⟨ret_eq (by rw [HO.out]; rfl), B0⟩
  have gR : ((a.Reps.length : Int) == 0) = true := by rw [beq_iff_eq]; omega
  have HO : Hid (acctOkB a n id = true) := by show _ = _; rw [HE2.out]; unfold openB; rw [decide_eq_true hBy, decide_eq_true hM, decide_eq_true hR]; rfl
  clear hBy hM hR
  go_enter Try.func76, Try.ntmps76
  go_wp2_with fail
  refine (iNodeCount_any _ _).mono ?_
  rintro e w' ⟨rfl, rfl⟩
  rw [HN.out]
  go_wp2_with fail
  refine (iNodeOf_any _ _ _).mono ?_
  rintro e w' ⟨rfl, rfl⟩
  rw [HI.out]
  go_wp2_with fail
  refine (iNum_any _ _).mono ?_
  rintro e w' ⟨rfl, rfl⟩
  rw [HV.out]
  go_wp2
  go_ret
  exact ⟨ret_eq (by rw [HO.out]; rfl), B0⟩

end Go.Proofs.Ytdoipabfmekdlaa
