/- Plain mathematics of queues: what FnOnce asks. -/
import Derived.Test.YtpaodpkgpajboaaBox6
import Derived.Test.YtpaodpkgpajboaaMakesM
namespace Go.Proofs.Ytpaodpkgpajboaa
open Go.RowKit
set_option linter.unusedVariables false

theorem allOk_all {l : List MMsg} (h : AllOk l) : l.all msgOkB = true := List.all_eq_true.2 h
theorem AllOk.take {l : List MMsg} (h : AllOk l) (k : Nat) : AllOk (l.take k) := fun m hm => h m (List.mem_of_mem_take hm)
theorem AllOk.drop {l : List MMsg} (h : AllOk l) (k : Nat) : AllOk (l.drop k) := fun m hm => h m (List.mem_of_mem_drop hm)

theorem ob_ok {l : List MMsg} {N : Int} (h : AllOk l) (hl : l.length ≤ 60) (h1 : (l.length : Int) < N) (h2 : N ≤ 1125899906842624) : outOkB ⟨N, l⟩ = true := by
  simp only [outOkB, Bool.and_eq_true, decide_eq_true_eq, inB_true]
  exact ⟨allOk_all h, by omega, hl, h1⟩

theorem ob_put {l : List MMsg} {k : Nat} {x : MMsg} (h : AllOk l) (hl : l.length ≤ 7) (hx : l[k]? = some x) :
    outPutB ⟨1 + (k : Int), l.take k⟩ x = true ∧ outPut ⟨1 + (k : Int), l.take k⟩ x = ⟨1 + ((k + 1 : Nat) : Int), l.take (k + 1)⟩ := by
  have hk : k < l.length := getElem?_lt hx
  have ht : (l.take k).length = k := by rw [List.length_take]; omega
  have ht1 : (l.take (k + 1)).length = k + 1 := by rw [List.length_take]; omega
  have e : outAdd ⟨1 + (k : Int), l.take k⟩ x = ⟨1 + ((k + 1 : Nat) : Int), l.take (k + 1)⟩ := by
    unfold outAdd
    rw [List.take_add_one, hx]
    simp only [Option.toList_some, MOut.mk.injEq, and_true]
    omega
  have e1 : outPutB ⟨1 + (k : Int), l.take k⟩ x = true := by
    unfold outPutB
    rw [e, ob_ok (h.take k) (by omega) (by omega) (by omega), ob_ok (h.take (k + 1)) (by omega) (by omega) (by omega)]
    rfl
  exact ⟨e1, by unfold outPut; rw [if_pos e1, e]⟩

theorem ob_first {l : List MMsg} (h : AllOk l) (hl : l.length ≤ 7) : outFirst ⟨1 + (l.length : Int), l⟩ = 1 := by
  unfold outFirst
  rw [if_pos (ob_ok h (by omega) (by omega) (by omega))]
  show 1 + (l.length : Int) - (l.length : Int) = 1
  omega

theorem ob_atB {l : List MMsg} {q : Int} (h : AllOk l) (hl : l.length ≤ 7) : outAtB ⟨1 + (l.length : Int), l⟩ q = decide (1 ≤ q ∧ q ≤ (l.length : Int)) := by
  unfold outAtB
  rw [ob_first h hl, ob_ok h (by omega) (by omega) (by omega)]
  show (true && (decide (1 ≤ q) && decide (q < 1 + (l.length : Int)))) = _
  rw [Bool.true_and, Bool.eq_iff_iff, Bool.and_eq_true, decide_eq_true_eq, decide_eq_true_eq, decide_eq_true_eq]
  omega
theorem ob_atM {l : List MMsg} {L : Nat} {x : MMsg} (h : AllOk l) (hl : l.length ≤ 7) (hx : l[L]? = some x) : outAtM ⟨1 + (l.length : Int), l⟩ ((L : Int) + 1) = x := by
  have hL : L < l.length := getElem?_lt hx
  unfold outAtM
  rw [if_pos (by rw [ob_atB h hl]; exact decide_eq_true (by omega)), ob_first h hl]
  show l.getD ((L : Int) + 1 - 1).toNat _ = x
  rw [show ((L : Int) + 1 - 1).toNat = L by omega, List.getD_eq_getElem?_getD, hx]
  rfl

theorem ob_ack {l : List MMsg} {L : Nat} (h : AllOk l) (hl : l.length ≤ 7) (hL : L ≤ l.length) :
    outAckB ⟨1 + (l.length : Int), l⟩ (L : Int) = true ∧ outAck ⟨1 + (l.length : Int), l⟩ (L : Int) = ⟨1 + (l.length : Int), l.drop L⟩ := by
  have e1 : outAckB ⟨1 + (l.length : Int), l⟩ (L : Int) = true := by
    unfold outAckB
    rw [ob_ok h (by omega) (by omega) (by omega), Bool.true_and, inB_true]
    show 0 ≤ (L : Int) ∧ (L : Int) ≤ 1 + (l.length : Int) - 1
    omega
  refine ⟨e1, ?_⟩
  unfold outAck
  rw [if_pos e1, ob_first h hl, show ((L : Int) + 1 - 1).toNat = L by omega]

theorem ob_okD {l : List MMsg} {L : Nat} (h : AllOk l) (hl : l.length ≤ 7) : outOkB ⟨1 + (l.length : Int), l.drop L⟩ = true :=
  ob_ok (h.drop L) (by rw [List.length_drop]; omega) (by rw [List.length_drop]; omega) (by omega)
theorem ob_firstD {l : List MMsg} {L : Nat} (h : AllOk l) (hl : l.length ≤ 7) (hL : L ≤ l.length) : outFirst ⟨1 + (l.length : Int), l.drop L⟩ = (L : Int) + 1 := by
  unfold outFirst
  rw [if_pos (ob_okD h hl)]
  show 1 + (l.length : Int) - ((l.drop L).length : Int) = _
  rw [List.length_drop]
  omega

theorem ob_w0 {l : List MMsg} {L : Nat} (h : AllOk l) (hl : l.length ≤ 7) : ∀ k, k ≤ L → outW ⟨1 + (l.length : Int), l⟩ (L : Int) k = 0
  | 0, _ => rfl
  | k + 1, hk => by
    rw [outW, ob_w0 h hl k (by omega), ob_first h hl, if_neg (fun c => by have := c.2; omega)]
    rfl
theorem ob_wj {l : List MMsg} {L : Nat} (h : AllOk l) (hl : l.length ≤ 7) (hL : L ≤ l.length) : ∀ j, outW ⟨1 + (l.length : Int), l⟩ (L : Int) (L + j) = outW ⟨1 + (l.length : Int), l.drop L⟩ 0 j
  | 0 => by rw [Nat.add_zero, ob_w0 h hl L (Nat.le_refl _)]; rfl
  | j + 1 => by
    rw [← Nat.add_assoc, outW, outW, ob_wj h hl hL j, ob_first h hl, ob_firstD h hl hL, if_pos ⟨ob_ok h (by omega) (by omega) (by omega), by omega⟩, if_pos ⟨ob_okD h hl, by omega⟩]
    show _ + msgWorth (l.getD (L + j) _) = _ + msgWorth ((l.drop L).getD j _)
    rw [List.getD_eq_getElem?_getD, List.getD_eq_getElem?_getD, List.getElem?_drop]
theorem ob_worth {l : List MMsg} {L : Nat} (h : AllOk l) (hl : l.length ≤ 7) (hL : L ≤ l.length) : outWorth ⟨1 + (l.length : Int), l⟩ (L : Int) = outWorth ⟨1 + (l.length : Int), l.drop L⟩ 0 := by
  unfold outWorth
  have := ob_wj h hl hL (l.length - L)
  rw [show L + (l.length - L) = l.length by omega] at this
  show outW _ _ l.length = outW _ _ (l.drop L).length
  rw [List.length_drop]
  exact this

theorem inTake_hit (L : Int) : inTakeN L (L + 1) = L + 1 ∧ inTakeB L (L + 1) = true := by
  have h : L < L + 1 ∧ L = L + 1 - 1 := by omega
  exact ⟨if_pos h, decide_eq_true h⟩
theorem inTake_miss {L q : Int} (h : q ≠ L + 1) : inTakeN L q = L ∧ inTakeB L q = false := by
  have h' : ¬ (L < q ∧ L = q - 1) := by omega
  exact ⟨if_neg h', decide_eq_false h'⟩

end Go.Proofs.Ytpaodpkgpajboaa
