/- Records out of texts: the words are numbers and names just where the text is the record's. Plain mathematics. -/
import Derived.Test.YtkbhbccpmmhelaaDoorRcM
namespace Go.Proofs.YtkbhbccpmmhelaaDoor
set_option linter.unusedVariables false
set_option linter.unusedSimpArgs false

theorem extract_snoc (s : ByteArray) (k : Nat) (h : k < s.size) (hb : (s.get! k).toNat = 32) : s.extract 0 (k + 1) = s.extract 0 k ++ ⟨#[32]⟩ := by
  have e : s.get! k = s.data[k]'(by simpa using h) := by
    have : s.get! k = s.data[k]! := rfl
    rw [this, getElem!_pos s.data k (by simpa using h)]
  have e2 : s.data[k]'(by simpa using h) = 32 := by
    rw [← e]; exact UInt8.toNat_inj.1 hb
  apply ByteArray.ext
  rw [ByteArray.data_append, ByteArray.data_extract, ByteArray.data_extract]
  apply Array.toList_inj.1
  simp
  rw [List.take_succ_eq_append_getElem (by simpa using h)]
  simp [e2]
theorem extract_glue (s : ByteArray) (a b : Nat) (h : a ≤ b) : s.extract 0 a ++ s.extract a b = s.extract 0 b := by
  apply ByteArray.ext
  rw [ByteArray.data_append, ByteArray.data_extract, ByteArray.data_extract, ByteArray.data_extract]
  apply Array.toList_inj.1
  simp [Nat.max_eq_right h]
theorem joinSp_snoc (s x : ByteArray) (ws : List ByteArray) : joinSp s (ws ++ [x]) = joinSp s ws ++ ⟨#[32]⟩ ++ x := by rw [joinSp_append]; rfl
theorem split_st (s : ByteArray) : ∀ k, k ≤ s.size → ((splitSt s 32 k).1 = [] ∧ (splitSt s 32 k).2 = 0) ∨ ∃ w ws, (splitSt s 32 k).1 = w :: ws ∧ joinSp w ws ++ ⟨#[32]⟩ = s.extract 0 (splitSt s 32 k).2 := by
  intro k
  induction k with
  | zero => intro _; exact .inl ⟨rfl, rfl⟩
  | succ k ih =>
    intro hk
    have ih := ih (by omega)
    have hle := (splitSt_le s 32 k).1
    unfold splitSt
    split
    · rename_i hb
      right
      rcases ih with ⟨h1, h2⟩ | ⟨w, ws, h1, h2⟩
      · refine ⟨s.extract 0 k, [], ?_, ?_⟩
        · rw [h1, h2]; rfl
        · rw [extract_snoc s k (by omega) hb]; rfl
      · refine ⟨w, ws ++ [s.extract (splitSt s 32 k).2 k], ?_, ?_⟩
        · rw [h1]; rfl
        · rw [joinSp_snoc, h2, extract_glue s _ _ hle, extract_snoc s k (by omega) hb]
    · exact ih
theorem splitL_joins {s w : ByteArray} {ws : List ByteArray} (h : splitL s 32 = w :: ws) : joinSp w ws = s := by
  have hle := (splitSt_le s 32 s.size).1
  have e0 : s.extract 0 s.size = s := by
    apply ByteArray.ext
    rw [ByteArray.data_extract]
    apply Array.toList_inj.1
    simp
    exact List.take_of_length_le (Nat.le_of_eq rfl)
  unfold splitL at h
  rcases split_st s s.size (Nat.le_refl _) with ⟨h1, h2⟩ | ⟨w', ws', h1, h2⟩
  · rw [h1, h2] at h
    obtain ⟨rfl, rfl⟩ := List.cons.inj h
    exact e0
  · rw [h1, List.cons_append] at h
    obtain ⟨rfl, rfl⟩ := List.cons.inj h
    rw [joinSp_snoc, h2, extract_glue s _ _ hle, e0]

theorem txN_back {x : ByteArray} (h : (textNum x).isSome = true) : numText (txN x) = x := by
  unfold txN
  cases hx : textNum x with
  | none => rw [hx] at h; cases h
  | some n =>
    unfold textNum at hx
    split at hx
    · rename_i hc
      obtain rfl := Option.some.inj hx
      exact (numText_eq hc.1).2 hc.2
    · cases hx
theorem isSome_num {n : Int} (h : 0 ≤ n ∧ n ≤ 1125899906842624) : (textNum (numText n)).isSome = true := by
  obtain ⟨k, rfl⟩ : ∃ k : Nat, n = (k : Int) := ⟨n.toNat, by omega⟩
  rw [textNum_numText k (by omega)]; rfl
theorem kindTo_back {x : ByteArray} : ∀ n, kindTo x n ≠ 0 → rkName (kindTo x n) = x
  | 0, h => absurd rfl h
  | n + 1, h => by
    unfold kindTo at h ⊢
    split
    · rename_i e; exact e
    · rename_i e; rw [if_neg e] at h; exact kindTo_back n h
theorem mkindTo_back {x : ByteArray} : ∀ n, mkindTo x n ≠ 0 → msgName (mkindTo x n) = x
  | 0, h => absurd rfl h
  | n + 1, h => by
    unfold mkindTo at h ⊢
    split
    · rename_i e; exact e
    · rename_i e; rw [if_neg e] at h; exact mkindTo_back n h
def nF (k : Int) : Nat := (kAcct k).toNat + (kOther k).toNat + (kTo k).toNat + (kAmt k).toNat
def allN (l : List ByteArray) : Bool := l.all fun x => (textNum x).isSome
/-- the words' form -/
def okT (ws : List ByteArray) : Bool :=
  if kindTo (ws.getD 0 ByteArray.empty) 9 = 5 then decide (ws.length = 7) && (allN ((ws.drop 1).take 2) && allN ((ws.drop 4).take 3))
  else decide (ws.length = nF (kindTo (ws.getD 0 ByteArray.empty) 9) + 1) && allN (ws.drop 1)
theorem len_2 {ws : List ByteArray} (h : ws.length = 3) : ∃ a b c, ws = [a, b, c] := by
  match ws, h with
  | [a, b, c], _ => exact ⟨a, b, c, rfl⟩
theorem len_3 {ws : List ByteArray} (h : ws.length = 4) : ∃ a b c d, ws = [a, b, c, d] := by
  match ws, h with
  | [a, b, c, d], _ => exact ⟨a, b, c, d, rfl⟩
theorem len_4 {ws : List ByteArray} (h : ws.length = 5) : ∃ a b c d e, ws = [a, b, c, d, e] := by
  match ws, h with
  | [a, b, c, d, e], _ => exact ⟨a, b, c, d, e, rfl⟩
theorem len_6 {ws : List ByteArray} (h : ws.length = 7) : ∃ a b c d e f g, ws = [a, b, c, d, e, f, g] := by
  match ws, h with
  | [a, b, c, d, e, f, g], _ => exact ⟨a, b, c, d, e, f, g, rfl⟩
theorem recOf_kind (ws : List ByteArray) : (recOf ws).Kind = kindTo (ws.getD 0 ByteArray.empty) 9 := rfl
theorem words_1 {ws : List ByteArray} (hkk : kindTo (ws.getD 0 ByteArray.empty) 9 = 1) (hl : ws.length = 3) (ha : allN (ws.drop 1) = true) : recWords (recOf ws) = ws.drop 1 := by
  obtain ⟨a, b, c, rfl⟩ := len_2 hl
  have e0 : [a, b, c].getD 0 ByteArray.empty = a := rfl
  rw [e0] at hkk
  simp [allN] at ha
  obtain ⟨hb, hc⟩ := ha
  simp [recOf, hkk, numsOf, kAcct, kOther, kTo, kAmt, recWords, recFields, txN_back hb, txN_back hc]
theorem words_2 {ws : List ByteArray} (hkk : kindTo (ws.getD 0 ByteArray.empty) 9 = 2) (hl : ws.length = 3) (ha : allN (ws.drop 1) = true) : recWords (recOf ws) = ws.drop 1 := by
  obtain ⟨a, b, c, rfl⟩ := len_2 hl
  have e0 : [a, b, c].getD 0 ByteArray.empty = a := rfl
  rw [e0] at hkk
  simp [allN] at ha
  obtain ⟨hb, hc⟩ := ha
  simp [recOf, hkk, numsOf, kAcct, kOther, kTo, kAmt, recWords, recFields, txN_back hb, txN_back hc]
theorem words_3 {ws : List ByteArray} (hkk : kindTo (ws.getD 0 ByteArray.empty) 9 = 3) (hl : ws.length = 4) (ha : allN (ws.drop 1) = true) : recWords (recOf ws) = ws.drop 1 := by
  obtain ⟨a, b, c, d, rfl⟩ := len_3 hl
  have e0 : [a, b, c, d].getD 0 ByteArray.empty = a := rfl
  rw [e0] at hkk
  simp [allN] at ha
  obtain ⟨hb, hc, hd⟩ := ha
  simp [recOf, hkk, numsOf, kAcct, kOther, kTo, kAmt, recWords, recFields, txN_back hb, txN_back hc, txN_back hd]
theorem words_4 {ws : List ByteArray} (hkk : kindTo (ws.getD 0 ByteArray.empty) 9 = 4) (hl : ws.length = 5) (ha : allN (ws.drop 1) = true) : recWords (recOf ws) = ws.drop 1 := by
  obtain ⟨a, b, c, d, e, rfl⟩ := len_4 hl
  have e0 : [a, b, c, d, e].getD 0 ByteArray.empty = a := rfl
  rw [e0] at hkk
  simp [allN] at ha
  obtain ⟨hb, hc, hd, he⟩ := ha
  simp [recOf, hkk, numsOf, kAcct, kOther, kTo, kAmt, recWords, recFields, txN_back hb, txN_back hc, txN_back hd, txN_back he]
theorem words_6 {ws : List ByteArray} (hkk : kindTo (ws.getD 0 ByteArray.empty) 9 = 6) (hl : ws.length = 3) (ha : allN (ws.drop 1) = true) : recWords (recOf ws) = ws.drop 1 := by
  obtain ⟨a, b, c, rfl⟩ := len_2 hl
  have e0 : [a, b, c].getD 0 ByteArray.empty = a := rfl
  rw [e0] at hkk
  simp [allN] at ha
  obtain ⟨hb, hc⟩ := ha
  simp [recOf, hkk, numsOf, kAcct, kOther, kTo, kAmt, recWords, recFields, txN_back hb, txN_back hc]
theorem words_7 {ws : List ByteArray} (hkk : kindTo (ws.getD 0 ByteArray.empty) 9 = 7) (hl : ws.length = 3) (ha : allN (ws.drop 1) = true) : recWords (recOf ws) = ws.drop 1 := by
  obtain ⟨a, b, c, rfl⟩ := len_2 hl
  have e0 : [a, b, c].getD 0 ByteArray.empty = a := rfl
  rw [e0] at hkk
  simp [allN] at ha
  obtain ⟨hb, hc⟩ := ha
  simp [recOf, hkk, numsOf, kAcct, kOther, kTo, kAmt, recWords, recFields, txN_back hb, txN_back hc]
theorem words_8 {ws : List ByteArray} (hkk : kindTo (ws.getD 0 ByteArray.empty) 9 = 8) (hl : ws.length = 4) (ha : allN (ws.drop 1) = true) : recWords (recOf ws) = ws.drop 1 := by
  obtain ⟨a, b, c, d, rfl⟩ := len_3 hl
  have e0 : [a, b, c, d].getD 0 ByteArray.empty = a := rfl
  rw [e0] at hkk
  simp [allN] at ha
  obtain ⟨hb, hc, hd⟩ := ha
  simp [recOf, hkk, numsOf, kAcct, kOther, kTo, kAmt, recWords, recFields, txN_back hb, txN_back hc, txN_back hd]
theorem words_9 {ws : List ByteArray} (hkk : kindTo (ws.getD 0 ByteArray.empty) 9 = 9) (hl : ws.length = 3) (ha : allN (ws.drop 1) = true) : recWords (recOf ws) = ws.drop 1 := by
  obtain ⟨a, b, c, rfl⟩ := len_2 hl
  have e0 : [a, b, c].getD 0 ByteArray.empty = a := rfl
  rw [e0] at hkk
  simp [allN] at ha
  obtain ⟨hb, hc⟩ := ha
  simp [recOf, hkk, numsOf, kAcct, kOther, kTo, kAmt, recWords, recFields, txN_back hb, txN_back hc]
theorem words_5 {ws : List ByteArray} (hkk : kindTo (ws.getD 0 ByteArray.empty) 9 = 5) (hl : ws.length = 7) (ha : allN ((ws.drop 1).take 2) = true) (ha2 : allN ((ws.drop 4).take 3) = true) (hm : mkindTo (ws.getD 3 ByteArray.empty) 5 ≠ 0) : recWords (recOf ws) = ws.drop 1 := by
  obtain ⟨a, b, c, d, e, f, g, rfl⟩ := len_6 hl
  have e0 : [a, b, c, d, e, f, g].getD 0 ByteArray.empty = a := rfl
  have e3 : [a, b, c, d, e, f, g].getD 3 ByteArray.empty = d := rfl
  rw [e0] at hkk
  rw [e3] at hm
  simp [allN] at ha ha2
  obtain ⟨hb, hc⟩ := ha
  obtain ⟨he, hf, hg⟩ := ha2
  simp [recOf, hkk, numsOf, kAcct, kOther, kTo, kAmt, recWords, recFields, msgOf, msgWords, mkindTo_back 5 hm, txN_back hb, txN_back hc, txN_back he, txN_back hf, txN_back hg]
theorem recOf_msg {ws : List ByteArray} (hkk : kindTo (ws.getD 0 ByteArray.empty) 9 = 5) (hl : ws.length = 7) : (recOf ws).M.Kind = mkindTo (ws.getD 3 ByteArray.empty) 5 := by
  have h1 : (recOf ws).M = msgOf ws 3 := by
    unfold recOf
    simp only [hkk]
    rfl
  rw [h1]
  unfold msgOf
  rw [if_neg (by omega)]
theorem words_all {ws : List ByteArray} (ho : okT ws = true) (hr : recOkB (recOf ws) = true) : rkName (recOf ws).Kind = ws.getD 0 ByteArray.empty ∧ recWords (recOf ws) = ws.drop 1 := by
  obtain ⟨q1, q2, q3, q4, q5, q6, q7⟩ := recOk_parts hr
  rw [recOf_kind] at q1 q6 ⊢
  refine ⟨kindTo_back 9 (by omega), ?_⟩
  unfold okT at ho
  have h9 : kindTo (ws.getD 0 ByteArray.empty) 9 = 1 ∨ kindTo (ws.getD 0 ByteArray.empty) 9 = 2 ∨ kindTo (ws.getD 0 ByteArray.empty) 9 = 3 ∨ kindTo (ws.getD 0 ByteArray.empty) 9 = 4 ∨ kindTo (ws.getD 0 ByteArray.empty) 9 = 5 ∨ kindTo (ws.getD 0 ByteArray.empty) 9 = 6 ∨ kindTo (ws.getD 0 ByteArray.empty) 9 = 7 ∨ kindTo (ws.getD 0 ByteArray.empty) 9 = 8 ∨ kindTo (ws.getD 0 ByteArray.empty) 9 = 9 := by omega
  rcases h9 with hk | hk | hk | hk | hk | hk | hk | hk | hk
  case inr.inr.inr.inr.inl =>
    rw [if_pos hk] at ho
    simp only [Bool.and_eq_true, decide_eq_true_eq] at ho
    have hm := (msgOk_parts (q6 hk)).2.2.2.1
    rw [recOf_msg hk ho.1] at hm
    exact words_5 hk ho.1 ho.2.1 ho.2.2 (by omega)
  · rw [if_neg (by omega), hk] at ho
    simp only [Bool.and_eq_true, decide_eq_true_eq] at ho
    exact words_1 hk ho.1 ho.2
  · rw [if_neg (by omega), hk] at ho
    simp only [Bool.and_eq_true, decide_eq_true_eq] at ho
    exact words_2 hk ho.1 ho.2
  · rw [if_neg (by omega), hk] at ho
    simp only [Bool.and_eq_true, decide_eq_true_eq] at ho
    exact words_3 hk ho.1 ho.2
  · rw [if_neg (by omega), hk] at ho
    simp only [Bool.and_eq_true, decide_eq_true_eq] at ho
    exact words_4 hk ho.1 ho.2
  · rw [if_neg (by omega), hk] at ho
    simp only [Bool.and_eq_true, decide_eq_true_eq] at ho
    exact words_6 hk ho.1 ho.2
  · rw [if_neg (by omega), hk] at ho
    simp only [Bool.and_eq_true, decide_eq_true_eq] at ho
    exact words_7 hk ho.1 ho.2
  · rw [if_neg (by omega), hk] at ho
    simp only [Bool.and_eq_true, decide_eq_true_eq] at ho
    exact words_8 hk ho.1 ho.2
  · rw [if_neg (by omega), hk] at ho
    simp only [Bool.and_eq_true, decide_eq_true_eq] at ho
    exact words_9 hk ho.1 ho.2
theorem words_ok {r : MRec} (h : recOkB r = true) : okT (rkName r.Kind :: recWords r) = true := by
  obtain ⟨q1, q2, q3, q4, q5, q6, q7⟩ := recOk_parts h
  have hk := kindTo_name q1
  unfold okT
  have e0 : (rkName r.Kind :: recWords r).getD 0 ByteArray.empty = rkName r.Kind := rfl
  rw [e0, hk]
  have n1 := isSome_num (n := r.Acct) (by omega)
  have n2 := isSome_num (n := r.Other) (by omega)
  have n3 := isSome_num (n := r.To) (by omega)
  have n4 := isSome_num (n := r.Amt) (by omega)
  have h9 : r.Kind = 1 ∨ r.Kind = 2 ∨ r.Kind = 3 ∨ r.Kind = 4 ∨ r.Kind = 5 ∨ r.Kind = 6 ∨ r.Kind = 7 ∨ r.Kind = 8 ∨ r.Kind = 9 := by omega
  rcases h9 with e | e | e | e | e | e | e | e | e
  case inr.inr.inr.inr.inl =>
    obtain ⟨m1, m2, -, m3, m4⟩ := msgOk_parts (q6 e)
    have n5 := isSome_num (n := r.M.Acct) (by omega)
    have n6 := isSome_num (n := r.M.Amt) (by omega)
    have n7 := isSome_num (n := r.M.Src) (by omega)
    simp [e, recWords, recFields, kAcct, kOther, kTo, kAmt, msgWords, allN, n3, n4, n5, n6, n7]
  all_goals simp [e, nF, recWords, recFields, kAcct, kOther, kTo, kAmt, allN, n1, n2, n3, n4]
/-- a text is a record's just where its words have the form and the record is valid -/
theorem textB_eq (s : ByteArray) : textRecB s = (okT (splitL s 32) && recOkB (recOf (splitL s 32))) := by
  unfold textRecB
  cases hr : recOkB (recOf (splitL s 32)) with
  | false => simp
  | true =>
    have key : recText (recOf (splitL s 32)) = s ↔ okT (splitL s 32) = true := by
      constructor
      · intro h
        have h1 := splitL_text hr
        rw [h] at h1
        have h2 := words_ok hr
        rw [← h1] at h2
        exact h2
      · intro ho
        obtain ⟨h1, h2⟩ := words_all ho hr
        unfold recText
        rw [if_pos hr, h1, h2]
        generalize hw : splitL s 32 = ws
        cases ws with
        | nil => exact absurd hw (splitL_ne s 32)
        | cons w l => exact splitL_joins hw
    cases ho : okT (splitL s 32) with
    | true => simp [key.2 ho]
    | false =>
      have : ¬ recText (recOf (splitL s 32)) = s := fun h => by rw [key.1 h] at ho; cases ho
      simp [this]
theorem textRec_no {s : ByteArray} (h : textRecB s = false) : textRec s = recZ := by unfold textRec; rw [h]; rfl
theorem textRec_yes {s : ByteArray} (h : textRecB s = true) : textRec s = recOf (splitL s 32) := by unfold textRec; rw [if_pos h]

end Go.Proofs.YtkbhbccpmmhelaaDoor
