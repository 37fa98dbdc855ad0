/- Records: what is written is read again. Plain mathematics. -/
import Derived.Test.YtkbhbccpmmhelaaDoorBunT
import Derived.Test.YtkbhbccpmmhelaaDoorRc4
import Derived.Test.YtkbhbccpmmhelaaDoorBunA
namespace Go.Proofs.YtkbhbccpmmhelaaDoor
set_option linter.unusedVariables false
set_option linter.unusedSimpArgs false

theorem rdNum_enc (xs ys : List Int) {n : Int} (h : 0 ≤ n ∧ n ≤ 1125899906842624) : rdNum (xs ++ (enc n.toNat ++ ys)) (xs.length : Int) false = (n, (((xs ++ enc n.toNat).length : Nat) : Int), false) := by
  obtain ⟨k, rfl⟩ : ∃ k : Nat, n = (k : Int) := ⟨n.toNat, by omega⟩
  rw [Int.toNat_natCast, rdNum_some (getNum_enc xs ys k (by omega)), List.length_append]
  rw [Int.natCast_add]
theorem rdNum_at {zs xs ys : List Int} {n p : Int} (h : 0 ≤ n ∧ n ≤ 1125899906842624) (hz : zs = xs ++ (enc n.toNat ++ ys)) (hp : p = (xs.length : Int)) : rdNum zs p false = (n, (((xs ++ enc n.toNat).length : Nat) : Int), false) := by
  subst hz; subst hp; exact rdNum_enc xs ys h
theorem rdMsg_at {zs xs ys : List Int} {m : MMsg} {p : Int} (h : msgOkB m = true) (hz : zs = xs ++ (encs (msgNums m) ++ ys)) (hp : p = (xs.length : Int)) : rdMsg zs p false = (m, (((xs ++ encs (msgNums m)).length : Nat) : Int), false) := by
  obtain ⟨q1, q2, -, q3, q4⟩ := msgOk_parts h
  have e : encs (msgNums m) = enc m.Kind.toNat ++ (enc m.Acct.toNat ++ (enc m.Amt.toNat ++ enc m.Src.toNat)) := by simp [encs, msgNums]
  rw [e] at hz ⊢
  have h1 := rdNum_at (zs := zs) (xs := xs) (ys := enc m.Acct.toNat ++ (enc m.Amt.toNat ++ (enc m.Src.toNat ++ ys))) (n := m.Kind) (p := p) (by omega) (by rw [hz]; simp [List.append_assoc]) hp
  have h2 := rdNum_at (zs := zs) (xs := xs ++ enc m.Kind.toNat) (ys := enc m.Amt.toNat ++ (enc m.Src.toNat ++ ys)) (n := m.Acct) (p := ((xs ++ enc m.Kind.toNat).length : Nat)) (by omega) (by rw [hz]; simp [List.append_assoc]) rfl
  have h3 := rdNum_at (zs := zs) (xs := (xs ++ enc m.Kind.toNat) ++ enc m.Acct.toNat) (ys := enc m.Src.toNat ++ ys) (n := m.Amt) (p := (((xs ++ enc m.Kind.toNat) ++ enc m.Acct.toNat).length : Nat)) (by omega) (by rw [hz]; simp [List.append_assoc]) rfl
  have h4 := rdNum_at (zs := zs) (xs := ((xs ++ enc m.Kind.toNat) ++ enc m.Acct.toNat) ++ enc m.Amt.toNat) (ys := ys) (n := m.Src) (p := ((((xs ++ enc m.Kind.toNat) ++ enc m.Acct.toNat) ++ enc m.Amt.toNat).length : Nat)) (by omega) (by rw [hz]; simp [List.append_assoc]) rfl
  unfold rdMsg
  simp only [h1, h2, h3, h4]
  have hm : (⟨m.Kind, m.Acct, m.Amt, m.Src⟩ : MMsg) = m := rfl
  rw [hm, h]
  simp [List.append_assoc]

theorem recRd_bytes {r : MRec} (h : recOkB r = true) (ys : List Int) : recRd (recBytes r ++ ys) = (r, false) := by
  obtain ⟨q1, q2, q3, q4, q5, q6, q7⟩ := recOk_parts h
  have e : encs (recHead r) = enc r.Kind.toNat ++ (enc r.Acct.toNat ++ (enc r.Other.toNat ++ (enc r.To.toNat ++ enc r.Amt.toNat))) := by simp [encs, recHead]
  obtain ⟨tl, htl⟩ : ∃ tl, recBytes r ++ ys = enc r.Kind.toNat ++ (enc r.Acct.toNat ++ (enc r.Other.toNat ++ (enc r.To.toNat ++ (enc r.Amt.toNat ++ tl)))) ∧ (r.Kind = 5 → tl = encs (msgNums r.M) ++ ys) := by
    by_cases h5 : r.Kind = 5
    · refine ⟨encs (msgNums r.M) ++ ys, ?_, fun _ => rfl⟩
      unfold recBytes
      rw [if_pos h, if_pos h5, e]
      simp only [List.append_assoc]
    · refine ⟨ys, ?_, fun h => absurd h h5⟩
      unfold recBytes
      rw [if_pos h, if_neg h5, e]
      simp only [List.append_assoc]
  generalize hz : recBytes r ++ ys = zs at htl
  have h1 := rdNum_at (zs := zs) (xs := []) (ys := enc r.Acct.toNat ++ (enc r.Other.toNat ++ (enc r.To.toNat ++ (enc r.Amt.toNat ++ tl)))) (n := r.Kind) (p := 0) (by omega) (by rw [htl.1]; simp [List.append_assoc]) rfl
  have h2 := rdNum_at (zs := zs) (xs := [] ++ enc r.Kind.toNat) (ys := enc r.Other.toNat ++ (enc r.To.toNat ++ (enc r.Amt.toNat ++ tl))) (n := r.Acct) (p := (([] ++ enc r.Kind.toNat).length : Nat)) (by omega) (by rw [htl.1]; simp [List.append_assoc]) rfl
  have h3 := rdNum_at (zs := zs) (xs := ([] ++ enc r.Kind.toNat) ++ enc r.Acct.toNat) (ys := enc r.To.toNat ++ (enc r.Amt.toNat ++ tl)) (n := r.Other) (p := ((([] ++ enc r.Kind.toNat) ++ enc r.Acct.toNat).length : Nat)) (by omega) (by rw [htl.1]; simp [List.append_assoc]) rfl
  have h4 := rdNum_at (zs := zs) (xs := (([] ++ enc r.Kind.toNat) ++ enc r.Acct.toNat) ++ enc r.Other.toNat) (ys := enc r.Amt.toNat ++ tl) (n := r.To) (p := (((([] ++ enc r.Kind.toNat) ++ enc r.Acct.toNat) ++ enc r.Other.toNat).length : Nat)) (by omega) (by rw [htl.1]; simp [List.append_assoc]) rfl
  have h5 := rdNum_at (zs := zs) (xs := ((([] ++ enc r.Kind.toNat) ++ enc r.Acct.toNat) ++ enc r.Other.toNat) ++ enc r.To.toNat) (ys := tl) (n := r.Amt) (p := ((((([] ++ enc r.Kind.toNat) ++ enc r.Acct.toNat) ++ enc r.Other.toNat) ++ enc r.To.toNat).length : Nat)) (by omega) (by rw [htl.1]; simp [List.append_assoc]) rfl
  unfold recRd
  simp only [h1, h2, h3, h4, h5]
  by_cases k5 : r.Kind = 5
  · have h6 := rdMsg_at (zs := zs) (xs := (((([] ++ enc r.Kind.toNat) ++ enc r.Acct.toNat) ++ enc r.Other.toNat) ++ enc r.To.toNat) ++ enc r.Amt.toNat) (ys := ys) (m := r.M) (p := (((((([] ++ enc r.Kind.toNat) ++ enc r.Acct.toNat) ++ enc r.Other.toNat) ++ enc r.To.toNat) ++ enc r.Amt.toNat).length : Nat)) (q6 k5) (by rw [htl.1, htl.2 k5]; simp [List.append_assoc]) rfl
    rw [if_pos k5, h6]
  · rw [if_neg k5, ← q7 k5]
theorem bytesRec_bytes {r : MRec} (h : recOkB r = true) : bytesRecB (recBytes r) = true ∧ bytesRec (recBytes r) = r := by
  have e := recRd_bytes h []
  rw [List.append_nil] at e
  have hB : bytesRecB (recBytes r) = true := by
    unfold bytesRecB
    rw [e]
    show (!false && (recOkB r && decide (recBytes r = recBytes r))) = true
    rw [h, decide_eq_true rfl]
    rfl
  refine ⟨hB, ?_⟩
  unfold bytesRec
  rw [if_pos hB, e]
theorem bytesRec_more {r : MRec} (h : recOkB r = true) : bytesRecB (recBytes r ++ [0]) = false := by
  unfold bytesRecB
  rw [recRd_bytes h]
  show (!false && (recOkB r && decide (recBytes r = recBytes r ++ [0]))) = false
  rw [decide_eq_false (by intro e; have := congrArg List.length e; simp at this), h]
  rfl
theorem msgGet_at {zs xs ys : List Int} {m : MMsg} {p : Int} (h : msgOkB m = true) (hz : zs = xs ++ (encs (msgNums m) ++ ys)) (hp : p = (xs.length : Int)) : msgGetB zs p = true ∧ msgGetM zs p = m ∧ msgGetP zs p = (((xs ++ encs (msgNums m)).length : Nat) : Int) := by
  have e := rdMsg_at h hz hp
  have hB : msgGetB zs p = true := by unfold msgGetB; rw [e]; rfl
  refine ⟨hB, ?_, ?_⟩
  · unfold msgGetM; rw [if_pos hB, e]
  · unfold msgGetP; rw [if_pos hB, e]
/-- the encodings of a list of messages, one behind the other -/
def msgsEnc (l : List MMsg) : List Int := (l.map fun m => encs (msgNums m)).flatten
theorem msgsEnc_snoc (l : List MMsg) (m : MMsg) : msgsEnc (l ++ [m]) = msgsEnc l ++ encs (msgNums m) := by simp [msgsEnc]

/-! ### words -/
/-- no space in it -/
def NoSp (x : ByteArray) : Prop := ∀ j, j < x.size → (x.get! j).toNat ≠ 32
theorem get_left (a b : ByteArray) {j : Nat} (h : j < a.size) : (a ++ b).get! j = a.get! j := by
  rw [get_toList _ _ (by rw [ByteArray.size_append]; omega), get_toList _ _ h]
  simp only [ByteArray.data_append, Array.toList_append]
  rw [List.getElem_append_left]
theorem get_right (a b : ByteArray) {j : Nat} (h : j < b.size) : (a ++ b).get! (a.size + j) = b.get! j := by
  rw [get_toList _ _ (by rw [ByteArray.size_append]; omega), get_toList _ _ h]
  simp only [ByteArray.data_append, Array.toList_append]
  rw [List.getElem_append_right (by simp)]
  simp
theorem extract_left (a b : ByteArray) {i n : Nat} (h : n ≤ a.size) : (a ++ b).extract i n = a.extract i n := by
  apply WideShapes.bytes_inj
  simp only [ByteArray.data_extract, ByteArray.data_append, Array.toList_extract, Array.toList_append, List.extract_eq_take_drop]
  have hl : a.data.toList.length = a.size := by simp
  rcases Nat.lt_or_ge n i with hi | hi
  · rw [show n - i = 0 by omega]; simp
  · rw [List.drop_append_of_le_length (by omega), List.take_append_of_le_length (by simp; omega)]
theorem extract_right (a b : ByteArray) : (a ++ b).extract a.size (a.size + b.size) = b := by
  apply WideShapes.bytes_inj
  simp only [ByteArray.data_extract, ByteArray.data_append, Array.toList_extract, Array.toList_append, List.extract_eq_take_drop]
  have hl : a.data.toList.length = a.size := by simp
  have hb : b.data.toList.length = b.size := by simp
  rw [← hl, List.drop_left, List.take_of_length_le (by omega)]
theorem extract_all (b : ByteArray) : b.extract 0 b.size = b := by
  apply WideShapes.bytes_inj
  simp only [ByteArray.data_extract, Array.toList_extract, List.extract_eq_take_drop]
  have hb : b.data.toList.length = b.size := by simp
  rw [List.drop_zero, List.take_of_length_le (by omega)]
theorem splitSt_left (a b : ByteArray) (c : Nat) : ∀ k, k ≤ a.size → splitSt (a ++ b) c k = splitSt a c k := by
  intro k
  induction k with
  | zero => intro _; rfl
  | succ k ih =>
    intro hk
    unfold splitSt
    rw [ih (by omega), get_left a b (by omega)]
    split
    · rw [extract_left a b (by omega)]
    · rfl
theorem splitL_one {s : ByteArray} (h : NoSp s) : splitL s 32 = [s] := by
  have e : splitSt s 32 (0 + s.size) = splitSt s 32 0 := splitSt_skip 0 s.size (fun j hj => by rw [Nat.zero_add]; exact h j hj)
  rw [Nat.zero_add] at e
  unfold splitL
  rw [e]
  show [] ++ [s.extract 0 s.size] = [s]
  rw [extract_all]
  rfl
theorem splitL_snoc (s : ByteArray) {x : ByteArray} (h : NoSp x) : splitL (s ++ ⟨#[32]⟩ ++ x) 32 = splitL s 32 ++ [x] := by
  have h1 : (⟨#[32]⟩ : ByteArray).size = 1 := rfl
  have hz : (s ++ ⟨#[32]⟩ ++ x).size = s.size + 1 + x.size := by simp only [ByteArray.size_append]; omega
  have e0 : splitSt (s ++ ⟨#[32]⟩ ++ x) 32 s.size = splitSt s 32 s.size := by rw [ByteArray.append_assoc]; exact splitSt_left _ _ _ _ (Nat.le_refl _)
  have g0 : ((s ++ ⟨#[32]⟩ ++ x).get! s.size).toNat = 32 := by
    rw [ByteArray.append_assoc]
    have := get_right s (⟨#[32]⟩ ++ x) (j := 0) (by rw [ByteArray.size_append]; omega)
    rw [Nat.add_zero] at this
    rw [this, get_left _ _ (by omega)]
    rfl
  have e1 := splitSt_hit (s := s ++ ⟨#[32]⟩ ++ x) (b := 32) (k := s.size) g0
  have e2 : splitSt (s ++ ⟨#[32]⟩ ++ x) 32 (s.size + 1 + x.size) = splitSt (s ++ ⟨#[32]⟩ ++ x) 32 (s.size + 1) :=
    splitSt_skip (s.size + 1) x.size (fun j hj => by
      have := get_right (s ++ ⟨#[32]⟩) x hj
      rw [ByteArray.size_append, h1] at this
      rw [this]
      exact h j hj)
  unfold splitL
  rw [hz, e2, e1, e0]
  show ((splitSt s 32 s.size).1 ++ [(s ++ ⟨#[32]⟩ ++ x).extract (splitSt s 32 s.size).2 s.size]) ++ [(s ++ ⟨#[32]⟩ ++ x).extract (s.size + 1) (s.size + 1 + x.size)] = _
  congr 1
  · congr 2
    rw [ByteArray.append_assoc]
    exact extract_left _ _ (Nat.le_refl _)
  · have := extract_right (s ++ ⟨#[32]⟩) x
    rw [ByteArray.size_append, h1] at this
    rw [this]
theorem splitL_join (ws : List ByteArray) : ∀ s, (∀ x ∈ ws, NoSp x) → splitL (joinSp s ws) 32 = splitL s 32 ++ ws := by
  induction ws with
  | nil => intro s _; simp [joinSp]
  | cons x xs ih =>
    intro s h
    have e : joinSp s (x :: xs) = joinSp (s ++ ⟨#[32]⟩ ++ x) xs := rfl
    rw [e, ih _ (fun y hy => h y (List.mem_cons_of_mem _ hy)), splitL_snoc s (h x (List.mem_cons_self ..)), List.append_assoc]
    rfl
theorem noSp_num (n : Int) : NoSp (numText n) := by
  intro j hj
  unfold numText at hj ⊢
  split
  · rename_i hn
    rw [if_pos hn] at hj
    have h1 := (dec_val n.toNat).2
    rw [List.all_eq_true] at h1
    have h2 := h1 _ (List.getElem_mem (l := Lib.decDigits n.toNat) (n := j) (by simpa [ByteArray.size] using hj))
    rw [get_toList _ _ hj]
    unfold isDig at h2
    simp only [Bool.and_eq_true, decide_eq_true_eq] at h2
    intro e
    simp only [List.toList_toArray] at e
    omega
  · rename_i hn
    rw [if_neg hn] at hj
    exact absurd hj (by show ¬ j < 0; omega)
theorem noSp_dec {x : ByteArray} (h : (List.range x.size).all (fun j => (x.get! j).toNat != 32) = true) : NoSp x := by
  intro j hj
  rw [List.all_eq_true] at h
  have := h j (List.mem_range.2 hj)
  simpa using this
theorem noSp_rk (k : Int) : NoSp (rkName k) := by
  unfold rkName
  repeat (split; exact noSp_dec (by decide))
  exact noSp_dec (by decide)
theorem noSp_msg (k : Int) : NoSp (msgName k) := by
  unfold msgName
  repeat (split; exact noSp_dec (by decide))
  exact noSp_dec (by decide)
theorem noSp_words (r : MRec) : ∀ x ∈ recWords r, NoSp x := by
  intro x hx
  unfold recWords recFields msgWords at hx
  simp only [List.mem_append] at hx
  rcases hx with (h | h | h | h) | h
  · split at h
    · rw [List.mem_singleton] at h; subst h; exact noSp_num _
    · cases h
  · split at h
    · rw [List.mem_singleton] at h; subst h; exact noSp_num _
    · cases h
  · split at h
    · rw [List.mem_singleton] at h; subst h; exact noSp_num _
    · cases h
  · split at h
    · rw [List.mem_singleton] at h; subst h; exact noSp_num _
    · cases h
  · split at h
    · simp only [List.mem_cons, List.not_mem_nil, or_false] at h
      rcases h with rfl | rfl | rfl | rfl
      · exact noSp_msg _
      · exact noSp_num _
      · exact noSp_num _
      · exact noSp_num _
    · cases h
theorem splitL_text {r : MRec} (h : recOkB r = true) : splitL (recText r) 32 = rkName r.Kind :: recWords r := by
  unfold recText
  rw [if_pos h, splitL_join _ _ (noSp_words r), splitL_one (noSp_rk _)]
  rfl
theorem kindTo_name {k : Int} (h : 1 ≤ k ∧ k ≤ 9) : kindTo (rkName k) 9 = k := by
  have h5 : k = 1 ∨ k = 2 ∨ k = 3 ∨ k = 4 ∨ k = 5 ∨ k = 6 ∨ k = 7 ∨ k = 8 ∨ k = 9 := by omega
  rcases h5 with rfl | rfl | rfl | rfl | rfl | rfl | rfl | rfl | rfl <;> decide
theorem mkindTo_name {k : Int} (h : 1 ≤ k ∧ k ≤ 5) : mkindTo (msgName k) 5 = k := by
  have h5 : k = 1 ∨ k = 2 ∨ k = 3 ∨ k = 4 ∨ k = 5 := by omega
  rcases h5 with rfl | rfl | rfl | rfl | rfl <;> decide
/-- the words of a valid record tell it -/
theorem recOf_words {r : MRec} (h : recOkB r = true) : recOf (rkName r.Kind :: recWords r) = r := by
  obtain ⟨q1, q2, q3, q4, q5, q6, q7⟩ := recOk_parts h
  have n2 := txN_numText (n := r.Acct) (by omega)
  have n3 := txN_numText (n := r.Other) (by omega)
  have n4 := txN_numText (n := r.To) (by omega)
  have n5 := txN_numText (n := r.Amt) (by omega)
  have z : ∀ b : Bool, (b || r.Acct == 0) = true → b = false → r.Acct = 0 := by intro b hb e; subst e; simpa using hb
  have h' := h
  simp only [recOkB, Bool.and_eq_true] at h'
  obtain ⟨-, -, -, -, zA, zO, zT, zM, -⟩ := h'
  obtain ⟨K, A, O, T, M, m⟩ := r
  simp only at q1 q2 q3 q4 q5 q6 q7 n2 n3 n4 n5 zA zO zT zM
  have hk := kindTo_name q1
  have h5 : K = 1 ∨ K = 2 ∨ K = 3 ∨ K = 4 ∨ K = 5 ∨ K = 6 ∨ K = 7 ∨ K = 8 ∨ K = 9 := by omega
  unfold recOf
  simp only [List.getD_cons_zero, hk]
  by_cases k5 : K = 5
  · subst k5
    have hm := q6 rfl
    obtain ⟨p1, p2, -, p3, p4⟩ := msgOk_parts hm
    have m1 := mkindTo_name p3
    have m2 := txN_numText (n := m.Acct) (by omega)
    have m3 := txN_numText (n := m.Amt) (by omega)
    have m4 := txN_numText (n := m.Src) (by omega)
    simp [recWords, recFields, msgWords, kAcct, kOther, kTo, kAmt, numsOf, msgOf, n4, n5, m1, m2, m3, m4] at zA zO ⊢
    exact ⟨zA.symm, zO.symm⟩
  · have e7 := q7 k5
    subst e7
    rcases h5 with rfl | rfl | rfl | rfl | rfl | rfl | rfl | rfl | rfl
    all_goals simp [recWords, recFields, kAcct, kOther, kTo, kAmt, numsOf, n2, n3, n4, n5] at zA zO zT zM k5 ⊢
    all_goals first | done | omega | (simp only [zA, zO, zT, zM]; done) | (refine ⟨?_, ?_⟩ <;> omega) | (refine ⟨?_, ?_, ?_⟩ <;> omega)
theorem textRec_text {r : MRec} (h : recOkB r = true) : textRecB (recText r) = true ∧ textRec (recText r) = r := by
  have e : recOf (splitL (recText r) 32) = r := by rw [splitL_text h, recOf_words h]
  have hB : textRecB (recText r) = true := by
    unfold textRecB
    rw [e, h, decide_eq_true rfl]
    rfl
  exact ⟨hB, by unfold textRec; rw [if_pos hB, e]⟩

end Go.Proofs.YtkbhbccpmmhelaaDoor
