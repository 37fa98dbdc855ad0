/- Slices of slices of bytes: the contracts of the laws' own helpers toByteSS, eqByteSS, markByteSS, heldByteSS, szByteSS. -/
import Derived.Test.YtopmojfcdmcmbaaLay3
import Derived.Test.YtopmojfcdmcmbaaSBytes
import Derived.Test.YtopmojfcdmcmbaaGetNum
import Derived.Test.YtopmojfcdmcmbaaAppStep
namespace Go.Proofs.Ytopmojfcdmcmbaa
open Go.RowKit
set_option linter.unusedVariables false

def byteSSL : Lay (List (List Int)) := sliceL 22 1 bytesL
/-- how many bytes in all -/
def bulkS (xs : List (List Int)) : Nat := (xs.map List.length).sum
/-- what the laws reckon for a slice of slices -/
def sizeSS (xs : List (List Int)) : Nat := xs.length + bulkS xs
theorem bulkS_le (xs : List (List Int)) : bulkS xs ≤ sizeSS xs := by unfold sizeSS; omega
theorem bulkS_cons (x : List Int) (l : List (List Int)) : bulkS (x :: l) = x.length + bulkS l := by simp [bulkS]
theorem bulkS_append (l m : List (List Int)) : bulkS (l ++ m) = bulkS l + bulkS m := by simp [bulkS]
theorem bulkS_take (xs : List (List Int)) (k : Nat) {x : List Int} (h : xs[k]? = some x) : bulkS (xs.take (k + 1)) = bulkS (xs.take k) + x.length := by
  have hk := getElem?_lt h
  rw [List.take_succ_eq_append_getElem hk, bulkS_append]
  rw [List.getElem?_eq_getElem hk] at h
  obtain rfl : xs[k] = x := by simpa using h
  simp [bulkS]
theorem bulkS_split (xs : List (List Int)) (k : Nat) : bulkS (xs.take k) + bulkS (xs.drop k) = bulkS xs := by
  rw [← bulkS_append, List.take_append_drop]
theorem len_le_bulk {xs : List (List Int)} {k : Nat} {x : List Int} (h : xs[k]? = some x) : bulkS (xs.take k) + x.length ≤ bulkS xs := by
  have h1 := bulkS_take xs k h
  have h2 := bulkS_split xs (k + 1)
  omega

theorem el_cell {w : World} {B : Nat} {u : Value} {x : List Int} (h : bytesL.rd w B [u] x) : ∃ A c, u = .slice A x.length c ∧ x.length ≤ c ∧ c ≤ maxLen ∧ Rd .u8 w B A x := by
  obtain ⟨A, c, he, h1, h2, hr⟩ := h
  obtain rfl : u = .slice A x.length c := by simpa using he
  exact ⟨A, c, rfl, h1, h2, hr⟩

theorem take_succ_eqL {α : Type} {xs ys : List α} {k : Nat} {x : α} (h : xs.take k = ys.take k) (hx : xs[k]? = some x) (hy : ys[k]? = some x) : xs.take (k + 1) = ys.take (k + 1) := by
  rw [List.take_add_one, List.take_add_one, h, hx, hy]

theorem get_of_lt {α : Type} {xs : List α} {k : Nat} (h : k < xs.length) : ∃ x, xs[k]? = some x := ⟨xs[k], List.getElem?_eq_getElem h⟩

/-- the marks that a marking lays, element behind element -/
def marksS : Int → List (List Int) → List (List Int)
  | _, [] => []
  | k, x :: l => marks k x.length :: marksS (k + (x.length : Int)) l
theorem marksS_len : ∀ (k : Int) (l : List (List Int)), (marksS k l).length = l.length
  | _, [] => rfl
  | k, x :: l => by rw [marksS, List.length_cons, List.length_cons, marksS_len]
theorem marksS_bulk : ∀ (k : Int) (l : List (List Int)), bulkS (marksS k l) = bulkS l
  | _, [] => rfl
  | k, x :: l => by rw [marksS, bulkS_cons, bulkS_cons, marksS_bulk, marks_len]
theorem marksS_snoc : ∀ (k : Int) (l : List (List Int)) (x : List Int), marksS k (l ++ [x]) = marksS k l ++ [marks (k + (bulkS l : Int)) x.length]
  | k, [], x => by simp [marksS, bulkS]
  | k, y :: l, x => by
    rw [List.cons_append, marksS, marksS, marksS_snoc, List.cons_append, bulkS_cons]
    congr 4
    omega
theorem marksS_get (k : Int) (l : List (List Int)) {j : Nat} {x : List Int} (h : l[j]? = some x) : (marksS k l)[j]? = some (marks (k + (bulkS (l.take j) : Int)) x.length) := by
  induction l generalizing k j with
  | nil => simp at h
  | cons y l ih =>
    cases j with
    | zero =>
      obtain rfl : y = x := by simpa using h
      simp [marksS, bulkS]
    | succ j =>
      rw [List.getElem?_cons_succ] at h
      rw [marksS, List.getElem?_cons_succ, ih _ h, List.take_succ_cons, bulkS_cons]
      congr 2
      omega
theorem mix_get {xs : List (List Int)} {k0 : Int} {k : Nat} {x : List Int} (h : xs[k]? = some x) : (marksS k0 (xs.take k) ++ xs.drop k)[k]? = some x := by
  have hk := getElem?_lt h
  have e : (marksS k0 (xs.take k)).length = k := by rw [marksS_len, List.length_take]; omega
  rw [List.getElem?_append_right (by omega), e, Nat.sub_self, List.getElem?_drop]
  simpa using h
theorem mix_set {xs : List (List Int)} {k0 : Int} {k : Nat} {x : List Int} (h : xs[k]? = some x) :
    (marksS k0 (xs.take k) ++ xs.drop k).set k (marks (k0 + (bulkS (xs.take k) : Int)) x.length) = marksS k0 (xs.take (k + 1)) ++ xs.drop (k + 1) := by
  have hk := getElem?_lt h
  have e : (marksS k0 (xs.take k)).length = k := by rw [marksS_len, List.length_take]; omega
  have e2 : xs.take (k + 1) = xs.take k ++ [x] := by rw [List.take_add_one, h]; rfl
  rw [List.set_append, if_neg (by omega), e, Nat.sub_self, List.drop_eq_getElem_cons hk, List.set_cons_zero, e2, marksS_snoc, List.append_assoc]
  rfl

theorem ChgS.sub {S T : List Nat} {a b c : World} (h : ChgS S a b) (k : ChgS T b c) (hs : ∀ j ∈ T, j ∈ S) : ChgS S a c := h.trans (k.more hs)

theorem szV_step (left n m : Int) (h0 : 0 ≤ n) (h1 : 0 ≤ m) (h : n ≤ left) : szV (left - n) m = szV left (n + m) := by
  unfold szV
  by_cases h2 : n + m ≤ left
  · rw [if_pos h2, if_pos (by omega)]; omega
  · rw [if_neg h2, if_neg (by omega)]

theorem Try.info_bs : (Try.prog.info? 22).map (fun i => (i.zero, i.size, i.bytes)) = some (some (.slice none 0 0), 1, 24) := by kernel_rfl

theorem bytes_nil (w : World) : bytesL.own w [] [.slice none 0 0] [] := ⟨_, rfl, World.ownsRow_nil _ _ _ _, rfl⟩
theorem fill_stepL {α : Type} {d : α} (zs : List α) (k : Nat) {x : α} (hx : zs[k]? = some x) :
    (zs.take k ++ List.replicate (zs.length - k) d).set k x = zs.take (k + 1) ++ List.replicate (zs.length - (k + 1)) d := by
  have h := getElem?_lt hx
  have e1 : (zs.take k).length = k := by simp; omega
  obtain ⟨m, hm⟩ : ∃ m, zs.length = k + 1 + m := ⟨zs.length - (k + 1), by omega⟩
  have e2 : zs.length - k = m + 1 := by omega
  have e3 : zs.length - (k + 1) = m := by omega
  have e4 : zs.take (k + 1) = zs.take k ++ [x] := by rw [List.take_add_one, hx]; rfl
  rw [e2, e3, e4, List.set_append, if_neg (by omega), e1, Nat.sub_self, List.replicate_succ, List.set_cons_zero, List.append_assoc]
  rfl
theorem fill_lenL {α : Type} {d : α} (zs : List α) (k : Nat) (h : k ≤ zs.length) : (zs.take k ++ List.replicate (zs.length - k) d).length = zs.length := by simp; omega
theorem os_blocks {w : World} {lo hi : Nat} {v : Value} {zs : List Int} (h : OS .u8 5 w lo hi v zs) : ∃ T, bytesL.own w T [v] zs ∧ T.Nodup ∧ ∀ j ∈ T, lo ≤ j ∧ j < hi := OVp.ints h

end Go.Proofs.Ytopmojfcdmcmbaa
