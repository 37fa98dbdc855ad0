/- Texts joined: Prims, PutMath, PutNum, Vt1, TProp, Vt2, INode, VtA, Vt3, Ac0. -/
import Derived.Test.YtdoipabfmekdlaaProg
import Derived.Test.YtdoipabfmekdlaaBunA
import Derived.Test.YtdoipabfmekdlaaBunB
import Derived.IntWalk
import Derived.BigQuiet
import Derived.Deep.QuietTactic

namespace Go.Proofs.Ytdoipabfmekdlaa
open Go.RowKit
set_option linter.unusedVariables false

/-- lo ≤ n ≤ hi -/
def inB (n lo hi : Int) : Bool := decide (lo ≤ n ∧ n ≤ hi)
theorem inB_true {n lo hi : Int} : inB n lo hi = true ↔ lo ≤ n ∧ n ≤ hi := by simp [inB]
theorem inB_false {n lo hi : Int} : inB n lo hi = false ↔ ¬ (lo ≤ n ∧ n ≤ hi) := by simp [inB]
/-- an amount -/
def amtB (n : Int) : Bool := inB n 1 1000000000

theorem sIn_any (n lo hi : Int) (w : World) : Calls Try.prog 30 #[.int .i64 n, .int .i64 lo, .int .i64 hi] w fun e w' => e = .returned (.bool (inB n lo hi)) ∧ w = w' := by
  by_cases h0 : lo ≤ n
  · by_cases h1 : n ≤ hi
    · rw [inB_true.2 ⟨h0, h1⟩]
      have i0 : decide (lo ≤ n) = true := decide_eq_true h0
      have i1 : decide (n ≤ hi) = true := decide_eq_true h1
      go_enter Try.func30, Try.ntmps30
      go_wp2
      go_ret
      exact ⟨rfl, rfl⟩
    · rw [inB_false.2 (by omega)]
      have i0 : decide (lo ≤ n) = true := decide_eq_true h0
      have i1 : decide (n ≤ hi) = false := decide_eq_false h1
      go_enter Try.func30, Try.ntmps30
      go_wp2
      go_ret
      exact ⟨rfl, rfl⟩
  · rw [inB_false.2 (by omega)]
    have i1 : decide (lo ≤ n) = false := decide_eq_false h0
    go_enter Try.func30, Try.ntmps30
    go_wp2
    go_ret
    exact ⟨rfl, rfl⟩

theorem sAmt_any (n : Int) (w : World) : Calls Try.prog 98 #[.int .i64 n] w fun e w' => e = .returned (.bool (amtB n)) ∧ w = w' := by
  go_enter Try.func98, Try.ntmps98
  go_wp2_with fail
  refine (sIn_any _ _ _ _).mono ?_
  rintro e w' ⟨rfl, rfl⟩
  go_wp2
  go_ret
  exact ⟨rfl, rfl⟩

theorem iAmt_any (n : Int) (w : World) : Calls Try.prog 144 #[.int .i64 n] w fun e w' => e = .returned (.bool (amtB n)) ∧ w = w' := by
  unfold amtB
  by_cases h0 : 1 ≤ n
  · by_cases h1 : n ≤ 1000000000
    · rw [inB_true.2 ⟨h0, h1⟩]
      go_enter Try.func144, Try.ntmps144
      go_wp2
      go_ret
      exact ⟨rfl, rfl⟩
    · rw [inB_false.2 (by omega)]
      have i1 : decide (n ≤ 1000000000) = false := decide_eq_false h1
      go_enter Try.func144, Try.ntmps144
      go_wp2
      go_ret
      exact ⟨rfl, rfl⟩
  · rw [inB_false.2 (by omega)]
    have i1 : decide (1 ≤ n) = false := decide_eq_false h0
    go_enter Try.func144, Try.ntmps144
    go_wp2
    go_ret
    exact ⟨rfl, rfl⟩

end Go.Proofs.Ytdoipabfmekdlaa

namespace Go.Proofs.Ytdoipabfmekdlaa

/-- is n a number of the document -/
def numB (n : Int) : Bool := decide (0 ≤ n) && decide (n ≤ 1125899906842624)
theorem numB_true {n : Int} : numB n = true ↔ 0 ≤ n ∧ n ≤ 1125899906842624 := by simp [numB]
theorem numB_false {n : Int} : numB n = false ↔ ¬ (0 ≤ n ∧ n ≤ 1125899906842624) := by rw [← numB_true]; simp

/-- the varint of n -/
def enc (n : Nat) : List Int := if h : 127 < n then (128 + (n % 128 : Nat) : Int) :: enc (n / 128) else [(n : Int)]
termination_by n
decreasing_by omega

theorem enc_big (n : Nat) (h : 127 < n) : enc n = (128 + (n % 128 : Nat) : Int) :: enc (n / 128) := by rw [enc, dif_pos h]
theorem enc_small (n : Nat) (h : ¬ 127 < n) : enc n = [(n : Int)] := by rw [enc, dif_neg h]

theorem enc_len (k n : Nat) (h : n < 128 ^ (k + 1)) : (enc n).length ≤ k + 1 := by
  induction k generalizing n with
  | zero => rw [enc_small n (by omega)]; simp
  | succ k ih =>
    by_cases hb : 127 < n
    · rw [enc_big n hb, List.length_cons]
      have : n / 128 < 128 ^ (k + 1) := by rw [Nat.div_lt_iff_lt_mul (by omega)]; rw [Nat.pow_succ] at h; exact h
      have := ih _ this
      omega
    · rw [enc_small n hb]; simp

theorem enc_len8 (n : Nat) (h : n ≤ 1125899906842624) : (enc n).length ≤ 8 := enc_len 7 n (by omega)

theorem enc_bytes (n : Nat) : ∀ x ∈ enc n, 0 ≤ x ∧ x ≤ 255 := by
  induction n using Nat.strongRecOn with
  | ind n ih =>
    by_cases hb : 127 < n
    · rw [enc_big n hb]
      intro x hx
      rcases List.mem_cons.1 hx with rfl | hx
      · omega
      · exact ih _ (by omega) x hx
    · rw [enc_small n hb]
      intro x hx
      simp at hx
      omega

theorem and127_i64 (n : Int) (h0 : 0 ≤ n) (h1 : n ≤ 9223372036854775807) : bits .and .i64 n 127 = n % 128 := by
  obtain ⟨a, rfl⟩ : ∃ a : Nat, n = (a : Int) := ⟨n.toNat, by omega⟩
  have hx : a &&& 127 < 2 ^ 63 := Nat.and_lt_two_pow _ (by omega)
  show IntKind.i64.wrap ((BitVec.ofInt 64 (a : Int) &&& BitVec.ofInt 64 127).toNat : Int) = _
  rw [BitVec.toNat_and, ofInt_nat 64 a (by omega), show (127 : Int) = ((127 : Nat) : Int) from rfl, ofInt_nat 64 127 (by omega), IntKind.wrap_i64, show (127 : Nat) = 2 ^ 7 - 1 from rfl, Nat.and_two_pow_sub_one_eq_mod]
  omega

theorem or128_i64 (y : Int) (h0 : 0 ≤ y) (h1 : y ≤ 127) : bits .or .i64 y 128 = 128 + y := by
  have := or_shift y 1 1 (by omega) h0 (by omega) (by omega) (by omega)
  simpa [Int.add_comm] using this

/-- the varints of a list of numbers, one behind the other -/
def encs (ns : List Int) : List Int := (ns.map fun n => enc n.toNat).flatten

theorem encs_nil : encs [] = [] := rfl
theorem encs_take (ns : List Int) (k : Nat) (h : k < ns.length) : encs (ns.take (k + 1)) = encs (ns.take k) ++ enc (ns.getD k 0).toNat := by
  unfold encs
  rw [List.take_succ_eq_append_getElem h, List.map_append, List.flatten_append]
  simp [h]
theorem all_take (ns : List Int) (k : Nat) (h : k < ns.length) (ha : (ns.take k).all numB = true) (hk : numB (ns.getD k 0) = true) : (ns.take (k + 1)).all numB = true := by
  rw [List.take_succ_eq_append_getElem h, List.all_append, ha]
  simp [h] at hk
  simp [hk]
theorem not_all (ns : List Int) (k : Nat) (h : k < ns.length) (hk : numB (ns.getD k 0) = false) : ns.all numB = false := by
  rw [Bool.eq_false_iff]
  intro ha
  have := List.all_eq_true.1 ha ns[k] (List.getElem_mem h)
  simp [h] at hk
  rw [hk] at this
  cases this
theorem encs_len (ns : List Int) (h : ns.all numB = true) : (encs ns).length ≤ 8 * ns.length := by
  induction ns with
  | nil => simp [encs]
  | cons n ns ih =>
    rw [List.all_cons, Bool.and_eq_true] at h
    have h1 := ih h.2
    have h2 := numB_true.1 h.1
    have h3 := enc_len8 n.toNat (by omega)
    unfold encs at h1 ⊢
    rw [List.map_cons, List.flatten_cons, List.length_append, List.length_cons]
    omega

/-- PutNum's and PutNums' bytes behind zs -/
def putsL (zs ns : List Int) : List Int := if ns.all numB = true then zs ++ encs ns else []

end Go.Proofs.Ytdoipabfmekdlaa

namespace Go.Proofs.Ytdoipabfmekdlaa
open Go.RowKit
set_option linter.unusedVariables false

/-- a call that returns a new row of bytes and a bool -/
def GivesL (w : World) (l : List Int) (b : Bool) (e : Ending) (w' : World) : Prop :=
  ∃ v, e = .returned (.tuple #[v, .bool b]) ∧ Own .u8 w' w.heap.size 5 v l ∧ Below w.heap.size w w'

/-- PutNum's bytes -/
def putL (zs : List Int) (n : Int) : List Int := if numB n = true then zs ++ enc n.toNat else []

theorem enc_pre {n m : Nat} {p : List Int} (h : p ++ enc m = enc n) (hn : n ≤ 1125899906842624) : p.length ≤ 8 := by
  have h1 := enc_len8 n hn
  have h2 := congrArg List.length h
  rw [List.length_append] at h2
  omega

theorem enc_go {n m : Nat} {p : List Int} (h : p ++ enc m = enc n) (hm : 127 < m) : (p ++ [(128 : Int) + (m : Int) % 128]) ++ enc (m / 128) = enc n := by
  rw [← h, enc_big m hm, List.append_assoc]
  simp

set_option maxHeartbeats 400000 in
theorem sNum_any (n : Int) (w : World) : Calls Try.prog 31 #[.int .i64 n] w fun e w' => e = .returned (.bool (numB n)) ∧ w = w' := by
  by_cases h0 : 0 ≤ n
  · by_cases h1 : n ≤ 1125899906842624
    · rw [numB_true.2 ⟨h0, h1⟩]
      go_enter Try.func31, Try.ntmps31
      go_wp2
      go_ret
      exact ⟨rfl, rfl⟩
    · rw [numB_false.2 (by omega)]
      have i1 : decide (n ≤ 1125899906842624) = false := by simp; omega
      go_enter Try.func31, Try.ntmps31
      go_wp2
      go_ret
      exact ⟨rfl, rfl⟩
  · rw [numB_false.2 (by omega)]
    have i1 : decide (0 ≤ n) = false := by simp; omega
    go_enter Try.func31, Try.ntmps31
    go_wp2
    go_ret
    exact ⟨rfl, rfl⟩

set_option maxHeartbeats 400000 in
theorem iNum_any (n : Int) (w : World) : Calls Try.prog 79 #[.int .i64 n] w fun e w' => e = .returned (.bool (numB n)) ∧ w = w' := by
  by_cases h0 : 0 ≤ n
  · by_cases h1 : n ≤ 1125899906842624
    · rw [numB_true.2 ⟨h0, h1⟩]
      go_enter Try.func79, Try.ntmps79
      go_wp2
      go_ret
      exact ⟨rfl, rfl⟩
    · rw [numB_false.2 (by omega)]
      have i1 : decide (n ≤ 1125899906842624) = false := by simp; omega
      go_enter Try.func79, Try.ntmps79
      go_wp2
      go_ret
      exact ⟨rfl, rfl⟩
  · rw [numB_false.2 (by omega)]
    have i1 : decide (0 ≤ n) = false := by simp; omega
    go_enter Try.func79, Try.ntmps79
    go_wp2
    go_ret
    exact ⟨rfl, rfl⟩

/-- a call that appends to a row of the caller's own -/
def Grows (base : Nat) (w : World) (l : List Int) (e : Ending) (w' : World) : Prop :=
  ∃ v, e = .returned v ∧ Own .u8 w' base 5 v l ∧ Below base w w'

theorem rd_one64 (w : World) (t : TypeId) (x : Int) : Rd .i64 (w.alloc (.cells #[.int .i64 x] t)) (w.alloc (.cells #[.int .i64 x] t)).heap.size (some ⟨w.heap.size, 0, none⟩) [x] :=
  (rd_one .i64 w t x).more (by simp)

end Go.Proofs.Ytdoipabfmekdlaa

namespace Go.Proofs.Ytdoipabfmekdlaa
open Go.RowKit
set_option linter.unusedVariables false

def ballotOf (r n : Int) : Int := if inB r 0 1000000000 = true ∧ inB n 0 3 = true then r * 4 + n + 1 else 0
def ballotAbove (b n : Int) : Int := if inB b 0 1000000000 = true ∧ inB n 0 3 = true then (if b < ballotOf (b / 4) n then ballotOf (b / 4) n else ballotOf (b / 4) n + 4) else 0
def isMostB (k n : Int) : Bool := decide (IntKind.i64.wrap (n - k) < k)
def accOkB (a : MAcc) : Bool := numB a.Prom && (inB a.Bal 0 a.Prom && ((inB a.Val 1 4 && decide (0 < a.Bal)) || (decide (a.Val = 0) && decide (a.Bal = 0))))
def accZ : MAcc := ⟨0, 0, 0⟩
def accPrepB (a : MAcc) (b : Int) : Bool := accOkB a && (numB b && decide (a.Prom < b))
def accPrep (a : MAcc) (b : Int) : MAcc := if accPrepB a b = true then ⟨b, a.Bal, a.Val⟩ else accZ
def accTakeB (a : MAcc) (b v : Int) : Bool := accOkB a && (inB v 1 4 && (inB b 1 1125899906842624 && decide (a.Prom ≤ b)))
def accTake (a : MAcc) (b v : Int) : MAcc := if accTakeB a b v = true then ⟨b, b, v⟩ else accZ

theorem sNode_any (n : Int) (w : World) : Calls Try.prog 97 #[.int .i64 n] w fun e w' => e = .returned (.bool (inB n 0 3)) ∧ w = w' := by
  go_enter Try.func97, Try.ntmps97
  go_wp2_with fail
  refine (sIn_any _ _ _ _).mono ?_
  rintro e w' ⟨rfl, rfl⟩
  go_wp2
  go_ret
  exact ⟨rfl, rfl⟩

theorem sVal_any (n : Int) (w : World) : Calls Try.prog 69 #[.int .i64 n] w fun e w' => e = .returned (.bool (inB n 1 4)) ∧ w = w' := by
  go_enter Try.func69, Try.ntmps69
  go_wp2_with fail
  refine (sIn_any _ _ _ _).mono ?_
  rintro e w' ⟨rfl, rfl⟩
  go_wp2
  go_ret
  exact ⟨rfl, rfl⟩

set_option maxHeartbeats 1000000 in
theorem sAccOk_c {w : World} {v : Value} {a : MAcc} (h : RV accL w v a) : Calls Try.prog 33 #[v] w fun e w' => e = .returned (.bool (accOkB a)) ∧ Below w.heap.size w w' := by
  obtain rfl := rv_acc h
  clear h
  obtain ⟨wa, hwa, B0, sa, x_a⟩ := frame1 w 56 [.int .i64 a.Prom, .int .i64 a.Bal, .int .i64 a.Val]
  have sa_1 := Nat.le_of_eq sa
  have sa_2 := Nat.le_of_eq sa.symm
  clear sa
  have c_a_0_wa := x_a.cell (i := 0) rfl
  have c_a_1_wa := x_a.cell (i := 1) rfl
  have c_a_2_wa := x_a.cell (i := 2) rfl
  by_cases hP : numB a.Prom = true
  case neg =>
    replace hP : numB a.Prom = false := by simpa using hP
    have HP := Lib.hid hP
    have HO : Hid (accOkB a = false) := by show _ = _; unfold accOkB; rw [hP]; rfl
    clear hP
    go_enter Try.func33, Try.ntmps33
    go_wp2_with fail
    refine (sNum_any _ _).mono ?_
    rintro e w' ⟨rfl, rfl⟩
    rw [HP.out]
    go_wp2
    go_ret
    exact ⟨ret_eq (by rw [HO.out]; rfl), B0⟩
  have HP := Lib.hid hP
  by_cases hB : inB a.Bal 0 a.Prom = true
  case neg =>
    replace hB : inB a.Bal 0 a.Prom = false := by simpa using hB
    have HB := Lib.hid hB
    have HO : Hid (accOkB a = false) := by show _ = _; unfold accOkB; rw [hB]; simp
    clear hP hB
    go_enter Try.func33, Try.ntmps33
    go_wp2_with fail
    refine (sNum_any _ _).mono ?_
    rintro e w' ⟨rfl, rfl⟩
    rw [HP.out]
    go_wp2_with fail
    refine (sIn_any _ _ _ _).mono ?_
    rintro e w' ⟨rfl, rfl⟩
    rw [HB.out]
    go_wp2
    go_ret
    exact ⟨ret_eq (by rw [HO.out]; rfl), B0⟩
  have HB := Lib.hid hB
  have bB := inB_true.1 hB
  by_cases h0 : a.Val = 0
  case pos =>
    have hV : inB a.Val 1 4 = false := inB_false.2 (by omega)
    have HV := Lib.hid hV
    have g0 : (a.Val == 0) = true := by simpa using h0
    by_cases h1 : a.Bal = 0
    case pos =>
      have HO : Hid (accOkB a = true) := by show _ = _; unfold accOkB; rw [hP, hB, hV, decide_eq_true h0, decide_eq_true h1]; rfl
      have g1 : (a.Bal == 0) = true := by simpa using h1
      clear h0 h1 hP hB hV
      go_enter Try.func33, Try.ntmps33
      go_wp2_with fail
      refine (sNum_any _ _).mono ?_
      rintro e w' ⟨rfl, rfl⟩
      rw [HP.out]
      go_wp2_with fail
      refine (sIn_any _ _ _ _).mono ?_
      rintro e w' ⟨rfl, rfl⟩
      rw [HB.out]
      go_wp2_with fail
      refine (sVal_any _ _).mono ?_
      rintro e w' ⟨rfl, rfl⟩
      rw [HV.out]
      go_wp2
      go_ret
      exact ⟨ret_eq (by rw [HO.out]; rfl), B0⟩
    case neg =>
      have HO : Hid (accOkB a = false) := by show _ = _; unfold accOkB; rw [hP, hB, hV, decide_eq_true h0, decide_eq_false h1]; rfl
      have g1 : (a.Bal == 0) = false := by simpa using h1
      clear h0 h1 hP hB hV
      go_enter Try.func33, Try.ntmps33
      go_wp2_with fail
      refine (sNum_any _ _).mono ?_
      rintro e w' ⟨rfl, rfl⟩
      rw [HP.out]
      go_wp2_with fail
      refine (sIn_any _ _ _ _).mono ?_
      rintro e w' ⟨rfl, rfl⟩
      rw [HB.out]
      go_wp2_with fail
      refine (sVal_any _ _).mono ?_
      rintro e w' ⟨rfl, rfl⟩
      rw [HV.out]
      go_wp2
      go_ret
      exact ⟨ret_eq (by rw [HO.out]; rfl), B0⟩
  have g0 : (a.Val == 0) = false := by simpa using h0
  by_cases hV : inB a.Val 1 4 = true
  case neg =>
    replace hV : inB a.Val 1 4 = false := by simpa using hV
    have HV := Lib.hid hV
    have HO : Hid (accOkB a = false) := by show _ = _; unfold accOkB; rw [hV, decide_eq_false h0]; simp
    clear h0 hP hB hV
    go_enter Try.func33, Try.ntmps33
    go_wp2_with fail
    refine (sNum_any _ _).mono ?_
    rintro e w' ⟨rfl, rfl⟩
    rw [HP.out]
    go_wp2_with fail
    refine (sIn_any _ _ _ _).mono ?_
    rintro e w' ⟨rfl, rfl⟩
    rw [HB.out]
    go_wp2_with fail
    refine (sVal_any _ _).mono ?_
    rintro e w' ⟨rfl, rfl⟩
    rw [HV.out]
    go_wp2
    go_ret
    exact ⟨ret_eq (by rw [HO.out]; rfl), B0⟩
  have HV := Lib.hid hV
  by_cases h1 : 0 < a.Bal
  case pos =>
    have HO : Hid (accOkB a = true) := by show _ = _; unfold accOkB; rw [hP, hB, hV, decide_eq_false h0, decide_eq_true h1]; rfl
    have g1 : decide (0 < a.Bal) = true := decide_eq_true h1
    clear h0 h1 hP hB hV
    go_enter Try.func33, Try.ntmps33
    go_wp2_with fail
    refine (sNum_any _ _).mono ?_
    rintro e w' ⟨rfl, rfl⟩
    rw [HP.out]
    go_wp2_with fail
    refine (sIn_any _ _ _ _).mono ?_
    rintro e w' ⟨rfl, rfl⟩
    rw [HB.out]
    go_wp2_with fail
    refine (sVal_any _ _).mono ?_
    rintro e w' ⟨rfl, rfl⟩
    rw [HV.out]
    go_wp2
    go_ret
    exact ⟨ret_eq (by rw [HO.out]; rfl), B0⟩
  case neg =>
    have HO : Hid (accOkB a = false) := by show _ = _; unfold accOkB; rw [hP, hB, hV, decide_eq_false h0, decide_eq_false h1]; rfl
    have g1 : decide (0 < a.Bal) = false := decide_eq_false h1
    clear h0 h1 hP hB hV
    go_enter Try.func33, Try.ntmps33
    go_wp2_with fail
    refine (sNum_any _ _).mono ?_
    rintro e w' ⟨rfl, rfl⟩
    rw [HP.out]
    go_wp2_with fail
    refine (sIn_any _ _ _ _).mono ?_
    rintro e w' ⟨rfl, rfl⟩
    rw [HB.out]
    go_wp2_with fail
    refine (sVal_any _ _).mono ?_
    rintro e w' ⟨rfl, rfl⟩
    rw [HV.out]
    go_wp2
    go_ret
    exact ⟨ret_eq (by rw [HO.out]; rfl), B0⟩

end Go.Proofs.Ytdoipabfmekdlaa

namespace Go.Proofs.Ytdoipabfmekdlaa
open Go.RowKit
set_option linter.unusedVariables false

structure MProp where
  Bal : Int
  Val : Int
  From : List Int
  Best : Int
  Got : List Int

def propL : Lay MProp := isoL (fun d => (d.Bal, d.Val, d.From, d.Best, d.Got)) (consL (intL .i64) (consL (intL .i64) (consL (numsL) (consL (intL .i64) (numsL)))))

/-- how many values lie behind it -/
def MProp.bulk (d : MProp) : Nat := d.From.length + d.Got.length

/-- what a marking from k on makes of it -/
def MProp.mark (d : MProp) (k : Int) : MProp := ⟨d.Bal, d.Val, marks64 (k) d.From.length, d.Best, marks64 (k + (d.From.length : Int)) d.Got.length⟩

theorem rv_prop {w : World} {v : Value} {d : MProp} (h : RV propL w v d) : ∃ AFrom cFrom AGot cGot, v = .agg #[.int .i64 d.Bal, .int .i64 d.Val, .slice AFrom d.From.length cFrom, .int .i64 d.Best, .slice AGot d.Got.length cGot] ∧ RS .i64 w (.slice AFrom d.From.length cFrom) d.From ∧ RS .i64 w (.slice AGot d.Got.length cGot) d.Got := by
  obtain ⟨cs, rfl, hcs⟩ := h
  obtain ⟨_, _, rfl, rfl, ⟨_, _, rfl, rfl, ⟨_, _, rfl, ⟨AFrom, cFrom, rfl, hFrom⟩, ⟨_, _, rfl, rfl, ⟨AGot, cGot, rfl, hGot⟩⟩⟩⟩⟩ := hcs
  exact ⟨AFrom, cFrom, AGot, cGot, rfl, ⟨_, _, rfl, hFrom⟩, ⟨_, _, rfl, hGot⟩⟩

theorem cs_prop {w : World} {B : Nat} {cs : List Value} {d : MProp} (h : propL.rd w B cs d) : ∃ AFrom cFrom AGot cGot, cs = [.int .i64 d.Bal, .int .i64 d.Val, .slice AFrom d.From.length cFrom, .int .i64 d.Best, .slice AGot d.Got.length cGot] := by
  obtain ⟨_, _, rfl, rfl, ⟨_, _, rfl, rfl, ⟨_, _, rfl, ⟨AFrom, cFrom, rfl, hFrom⟩, ⟨_, _, rfl, rfl, ⟨AGot, cGot, rfl, hGot⟩⟩⟩⟩⟩ := h
  exact ⟨AFrom, cFrom, AGot, cGot, rfl⟩

theorem rv_prop_mk {w : World} {vFrom vGot : Value} {zBal : Int} {zVal : Int} {zFrom : List Int} {zBest : Int} {zGot : List Int} (hFrom : RS .i64 w vFrom zFrom) (hGot : RS .i64 w vGot zGot) : RV propL w (.agg #[.int .i64 zBal, .int .i64 zVal, vFrom, .int .i64 zBest, vGot]) ⟨zBal, zVal, zFrom, zBest, zGot⟩ := by
  obtain ⟨AFrom, cFrom, rfl, pFrom⟩ := hFrom
  obtain ⟨AGot, cGot, rfl, pGot⟩ := hGot
  exact ⟨_, rfl, [_], _, rfl, rfl, [_], _, rfl, rfl, [_], _, rfl, ⟨AFrom, cFrom, rfl, pFrom⟩, [_], _, rfl, rfl, ⟨AGot, cGot, rfl, pGot⟩⟩

theorem ovp_prop {w : World} {d : MProp} {lo hi lFrom hFrom lGot hGot : Nat} {vFrom vGot : Value} (oFrom : OS .i64 3 w lFrom hFrom vFrom d.From) (oGot : OS .i64 3 w lGot hGot vGot d.Got) (hc : hi ≤ w.heap.size ∧ lo ≤ lFrom ∧ hFrom ≤ hi ∧ lo ≤ lGot ∧ hGot ≤ hi ∧ (hFrom ≤ lGot ∨ hGot ≤ lFrom)) : OVp propL w (fun j => lo ≤ j ∧ j < hi) [.int .i64 d.Bal, .int .i64 d.Val, vFrom, .int .i64 d.Best, vGot] d := by
  have h : OVp propL w _ [.int .i64 d.Bal, .int .i64 d.Val, vFrom, .int .i64 d.Best, vGot] d := OVp.iso (f := fun d : MProp => (d.Bal, d.Val, d.From, d.Best, d.Got)) (OVp.cons1 (OVp.cons1 (OVp.cons (OVp.ints oFrom) (OVp.cons1 (OVp.ints oGot)) (by intro j; omega))))
  exact h.imp (by intro j; omega)

theorem ov_prop {w : World} {d : MProp} {lo hi lFrom hFrom lGot hGot : Nat} {vFrom vGot : Value} (oFrom : OS .i64 3 w lFrom hFrom vFrom d.From) (oGot : OS .i64 3 w lGot hGot vGot d.Got) (hc : hi ≤ w.heap.size ∧ lo ≤ lFrom ∧ hFrom ≤ hi ∧ lo ≤ lGot ∧ hGot ≤ hi ∧ (hFrom ≤ lGot ∨ hGot ≤ lFrom)) : OV propL w lo hi (.agg #[.int .i64 d.Bal, .int .i64 d.Val, vFrom, .int .i64 d.Best, vGot]) d :=
  (ovp_prop (lo := lo) (hi := hi) oFrom oGot hc).ov (fun _ h => h) hc.1

end Go.Proofs.Ytdoipabfmekdlaa

namespace Go.Proofs.Ytdoipabfmekdlaa
open Go.RowKit
set_option linter.unusedVariables false

def riseAt (l : List Int) (i : Nat) : Bool := inB (l.getD i 0) 0 3 && (decide (i = 0) || decide (l.getD (i - 1) 0 < l.getD i 0))
/-- an ascending list of nodes -/
def riseB (l : List Int) : Bool := decide (∀ i, i < l.length → riseAt l i = true)
def hasI (l : List Int) (n : Int) : Bool := decide (n ∈ l)
def propOkB (p : MProp) : Bool := inB p.Bal 1 1125899906842624 && (inB p.Val 1 4 && (riseB p.From && (riseB p.Got && inB p.Best 0 (p.Bal - 1))))

theorem rdi_at {w : World} {B : Nat} {A : Option Addr} {l : List Int} (h : Rd .i64 w B A l) (h0 : 0 < l.length) : ∃ b off, A = some ⟨b, off, none⟩ ∧ b < B ∧ ∀ j, j < l.length → w.cell? ⟨b, off + j, none⟩ = some (.int .i64 (l.getD j 0)) := by
  obtain ⟨b, off, rfl, hb, hc⟩ := h h0
  exact ⟨b, off, rfl, hb, hc⟩

set_option maxHeartbeats 1000000 in
theorem sRise_c {w : World} {v : Value} {l : List Int} (h : RS .i64 w v l) : Calls Try.prog 67 #[v] w fun e w' => e = .returned (.bool (riseB l)) ∧ w = w' := by
  obtain ⟨A, c, rfl, h1, h2, hr⟩ := h
  unfold maxLen at h2
  go_enter Try.func67, Try.ntmps67
  go_wp2
  go_loop [7] (fun j => ∃ k : Nat, k ≤ l.length ∧ j = .int .i64 k ∧ Hid (∀ i, i < k → riseAt l i = true)) (fun j => l.length - (intOf j).toNat)
  case atStart => exact ⟨0, Nat.zero_le _, rfl, fun i hi => by omega⟩
  case round =>
    obtain ⟨k, hk, rfl, HT⟩ := hrel
    by_cases hlt : k < l.length
    case neg =>
      have HO : Hid (riseB l = true) := decide_eq_true (fun i hi => HT.out i (by omega))
      have hk2 : ¬ ((k : Int) < (l.length : Int)) := by omega
      go_wp2
      go_ret
      exact ⟨ret_eq (by rw [HO.out]; rfl), rfl⟩
    obtain ⟨b, off, rfl, hb, hc⟩ := rdi_at hr (by omega)
    have hck := hc k hlt
    have i1 : (k : Int) < (l.length : Int) := by omega
    obtain ⟨x, hx⟩ : ∃ x, l.getD k 0 = x := ⟨_, rfl⟩
    rw [hx] at hck
    by_cases hn : inB x 0 3 = true
    case neg =>
      replace hn : inB x 0 3 = false := by simpa using hn
      have HN := Lib.hid hn
      have HO : Hid (riseB l = false) := decide_eq_false (fun c => by have h := c k hlt; unfold riseAt at h; rw [hx, hn] at h; simp at h)
      clear hn hx hc
      go_wp2_with fail
      refine (sNode_any _ _).mono ?_
      rintro e w' ⟨rfl, rfl⟩
      rw [HN.out]
      go_wp2
      go_ret
      exact ⟨ret_eq (by rw [HO.out]; rfl), rfl⟩
    have HN := Lib.hid hn
    by_cases hk0 : k = 0
    case pos =>
      have H2 : Hid (∀ i, i < k + 1 → riseAt l i = true) := fun i hi => by
        obtain rfl : i = k := by omega
        unfold riseAt
        rw [hx, hn, hk0]; rfl
      have t0 : decide ((0 : Int) < (k : Int)) = false := decide_eq_false (by omega)
      have t1 : decide (0 < k) = false := decide_eq_false (by omega)
      clear hn hx hc hk0
      go_wp2_with fail
      refine (sNode_any _ _).mono ?_
      rintro e w' ⟨rfl, rfl⟩
      rw [HN.out]
      go_wp2
      go_round
      case rel => exact ⟨k + 1, by omega, by go_num, H2⟩
      case measure => simp [intOf]; omega
    obtain ⟨m, rfl⟩ : ∃ m, k = m + 1 := ⟨k - 1, by omega⟩
    have hcm := hc m (by omega)
    obtain ⟨y, hy⟩ : ∃ y, l.getD m 0 = y := ⟨_, rfl⟩
    rw [hy] at hcm
    have t0 : decide ((0 : Int) < ((m + 1 : Nat) : Int)) = true := decide_eq_true (by omega)
    have e1 : IntKind.i64.wrap (((m + 1 : Nat) : Int) - 1) = (m : Int) := by rw [show ((m + 1 : Nat) : Int) - 1 = (m : Int) by omega]; exact IntWalk.i64_in _ (by omega)
    have e2 : IntKind.i64.wrap ((m : Int) + 1 - 1) = (m : Int) := by rw [show (m : Int) + 1 - 1 = (m : Int) by omega]; exact IntWalk.i64_in _ (by omega)
    have i2 : (m : Int) < (l.length : Int) := by omega
    have i3 : (0 : Int) ≤ (m : Int) := by omega
    by_cases hxy : y < x
    case pos =>
      have H2 : Hid (∀ i, i < m + 1 + 1 → riseAt l i = true) := fun i hi => by
        by_cases e : i = m + 1
        · rw [e]; unfold riseAt; rw [hx, hn, show m + 1 - 1 = m from rfl, hy, decide_eq_true hxy]; simp
        · exact HT.out i (by omega)
      have t2 : decide (x ≤ y) = false := decide_eq_false (by omega)
      clear hn hx hc hk0 hy
      go_wp2_with fail
      refine (sNode_any _ _).mono ?_
      rintro e w' ⟨rfl, rfl⟩
      rw [HN.out]
      go_wp2
      go_round
      case rel => exact ⟨m + 1 + 1, by omega, by go_num, H2⟩
      case measure => simp [intOf]; omega
    have HO : Hid (riseB l = false) := decide_eq_false (fun c => by have h := c (m + 1) hlt; unfold riseAt at h; rw [hx, hn, show m + 1 - 1 = m from rfl, hy, decide_eq_false hxy] at h; simp at h)
    have t2 : decide (x ≤ y) = true := decide_eq_true (by omega)
    clear hn hx hc hk0 hy
    go_wp2_with fail
    refine (sNode_any _ _).mono ?_
    rintro e w' ⟨rfl, rfl⟩
    rw [HN.out]
    go_wp2
    go_ret
    exact ⟨ret_eq (by rw [HO.out]; rfl), rfl⟩

set_option maxHeartbeats 1000000 in
theorem sHasI_c {w : World} {v : Value} {l : List Int} {n : Int} (h : RS .i64 w v l) : Calls Try.prog 68 #[v, .int .i64 n] w fun e w' => e = .returned (.bool (hasI l n)) ∧ w = w' := by
  obtain ⟨A, c, rfl, h1, h2, hr⟩ := h
  unfold maxLen at h2
  go_enter Try.func68, Try.ntmps68
  go_wp2
  go_loop [9] (fun j => ∃ k : Nat, k ≤ l.length ∧ j = .int .i64 k ∧ Hid (n ∉ l.take k)) (fun j => l.length - (intOf j).toNat)
  case atStart => exact ⟨0, Nat.zero_le _, rfl, by simp [Hid]⟩
  case round =>
    obtain ⟨k, hk, rfl, HT⟩ := hrel
    by_cases hlt : k < l.length
    case neg =>
      have HO : Hid (hasI l n = false) := decide_eq_false (by have h := HT.out; rwa [List.take_of_length_le (by omega)] at h)
      have hk2 : ¬ ((k : Int) < (l.length : Int)) := by omega
      go_wp2
      go_ret
      exact ⟨ret_eq (by rw [HO.out]; rfl), rfl⟩
    obtain ⟨b, off, rfl, hb, hc⟩ := rdi_at hr (by omega)
    have hck := hc k hlt
    have i1 : (k : Int) < (l.length : Int) := by omega
    obtain ⟨x, hxe⟩ : ∃ x, l[k]? = some x := ⟨l[k], List.getElem?_eq_getElem hlt⟩
    rw [show l.getD k 0 = x by rw [List.getD_eq_getElem?_getD, hxe]; rfl] at hck
    by_cases hxn : x = n
    case pos =>
      have HO : Hid (hasI l n = true) := decide_eq_true (hxn ▸ List.mem_of_getElem? hxe)
      have t0 : (x == n) = true := by simpa using hxn
      clear hxn hxe hc
      go_wp2
      go_ret
      exact ⟨ret_eq (by rw [HO.out]; rfl), rfl⟩
    have H2 : Hid (n ∉ l.take (k + 1)) := fun c => by
      rw [List.take_add_one, hxe] at c
      simp only [Option.toList_some, List.mem_append, List.mem_singleton] at c
      rcases c with c | c
      · exact HT.out c
      · exact hxn c.symm
    have t0 : (x == n) = false := by simpa using hxn
    clear hxn hxe hc
    go_wp2
    go_round
    case rel => exact ⟨k + 1, by omega, by go_num, H2⟩
    case measure => simp [intOf]; omega

end Go.Proofs.Ytdoipabfmekdlaa

namespace Go.Proofs.Ytdoipabfmekdlaa
open Go.RowKit

theorem iNode_any (n : Int) (w : World) : Calls Try.prog 151 #[.int .i64 n] w fun e w' => e = .returned (.bool (inB n 0 3)) ∧ w = w' := by
  by_cases h0 : 0 ≤ n
  · by_cases h1 : n < 4
    · rw [inB_true.2 (by omega)]
      have i0 : decide (0 ≤ n) = true := decide_eq_true h0
      have i1 : decide (n < 4) = true := decide_eq_true h1
      go_enter Try.func151, Try.ntmps151
      go_wp2
      go_ret
      exact ⟨rfl, rfl⟩
    · rw [inB_false.2 (by omega)]
      have i0 : decide (0 ≤ n) = true := decide_eq_true h0
      have i1 : decide (n < 4) = false := decide_eq_false h1
      go_enter Try.func151, Try.ntmps151
      go_wp2
      go_ret
      exact ⟨rfl, rfl⟩
  · rw [inB_false.2 (by omega)]
    have i1 : decide (0 ≤ n) = false := decide_eq_false h0
    go_enter Try.func151, Try.ntmps151
    go_wp2
    go_ret
    exact ⟨rfl, rfl⟩

end Go.Proofs.Ytdoipabfmekdlaa

namespace Go.Proofs.Ytdoipabfmekdlaa
open Go.RowKit
set_option linter.unusedVariables false

/-- an ascending list -/
def ascB (l : List Int) : Bool := decide (∀ i, i < l.length - 1 → l.getD i 0 < l.getD (i + 1) 0)
theorem asc_t {l : List Int} (h : ∀ i, i + 1 < l.length → l.getD i 0 < l.getD (i + 1) 0) : ascB l = true := decide_eq_true fun i hi => h i (by omega)
theorem asc_f {l : List Int} {k : Nat} (hk : k + 1 < l.length) (h : ¬ l.getD k 0 < l.getD (k + 1) 0) : ascB l = false := decide_eq_false fun c => h (c k (by omega))
theorem asc_lt {l : List Int} (h : ascB l = true) : ∀ a b, a < b → b < l.length → l.getD a 0 < l.getD b 0 := by
  have h := of_decide_eq_true h
  intro a b
  induction b with
  | zero => intro hab; omega
  | succ b ih =>
    intro hab hb
    have h1 := h b (by omega)
    rcases Nat.lt_or_ge a b with hlt | hge
    · have h2 := ih hlt (by omega)
      omega
    · obtain rfl : a = b := by omega
      exact h1
theorem asc_pair {l : List Int} (h : ascB l = true) : l.Pairwise (· < ·) :=
  List.pairwise_iff_getElem.2 fun i j hi hj hij => by
    have := asc_lt h i j hij hj
    simpa [List.getD, hi, hj] using this
theorem rise_asc {l : List Int} (h : riseB l = true) : ascB l = true := asc_t fun i hi => by
  have h := of_decide_eq_true h (i + 1) hi
  simp [riseAt] at h
  simpa using h.2
theorem rise_ends {l : List Int} (h : ascB l = true) (h0 : 0 < l.length → 0 ≤ l.getD 0 0) (h1 : 0 < l.length → l.getD (l.length - 1) 0 ≤ 3) : riseB l = true := decide_eq_true fun i hi => by
  have hlo : 0 ≤ l.getD i 0 := by
    rcases Nat.eq_zero_or_pos i with e | e
    · rw [e]; exact h0 (by omega)
    · have := asc_lt h 0 i e hi; have := h0 (by omega); omega
  have hhi : l.getD i 0 ≤ 3 := by
    rcases Nat.lt_or_ge i (l.length - 1) with e | e
    · have := asc_lt h i (l.length - 1) e (by omega); have := h1 (by omega); omega
    · obtain rfl : i = l.length - 1 := by omega
      exact h1 (by omega)
  unfold riseAt
  rw [inB_true.2 ⟨hlo, hhi⟩]
  rcases Nat.eq_zero_or_pos i with e | e
  · simp [e]
  · have := asc_lt h (i - 1) i (by omega) hi
    rw [decide_eq_true this]; simp
theorem rise_in {l : List Int} (h : riseB l = true) : ∀ i, i < l.length → 0 ≤ l.getD i 0 ∧ l.getD i 0 ≤ 3 := fun i hi => by
  have h := of_decide_eq_true h i hi
  simp only [riseAt, Bool.and_eq_true] at h
  exact inB_true.1 h.1

theorem rise_len {l : List Int} (h : riseB l = true) : l.length ≤ 4 := by
  have ha := asc_lt (rise_asc h)
  have hi := rise_in h
  have k : ∀ i : Nat, i < l.length → (i : Int) ≤ l.getD i 0 := by
    intro i
    induction i with
    | zero => intro h0; have := hi 0 h0; omega
    | succ i ih => intro h0; have := ih (by omega); have := ha i (i + 1) (by omega) h0; omega
  rcases Nat.lt_or_ge 4 l.length with h4 | h4
  · have h1 := k 4 h4
    have h2 := hi 4 h4
    omega
  · exact h4

set_option maxHeartbeats 1000000 in
theorem iAsc_c {w : World} {v : Value} {l : List Int} (h : RS .i64 w v l) : Calls Try.prog 112 #[v] w fun e w' => e = .returned (.bool (ascB l)) ∧ Below w.heap.size w w' := by
  obtain ⟨A, c, rfl, h1, h2, hr⟩ := h
  unfold maxLen at h2
  go_enter Try.func112, Try.ntmps112
  go_wp2
  go_loopw [3] (fun j wr => ∃ (k q : Nat), (k + 1 ≤ l.length ∨ k = 0) ∧ j = .int .i64 ((k : Int) + 1) ∧ wr = w.drewN q ∧ Hid (∀ i, i < k → l.getD i 0 < l.getD (i + 1) 0)) (fun j _ => l.length + 1 - (intOf j).toNat)
  case atStart => exact ⟨0, 0, .inr rfl, rfl, rfl, fun i hi => by omega⟩
  case round =>
    obtain ⟨k, q, hk, rfl, rfl, HT⟩ := hrel
    by_cases hlt : k + 1 < l.length
    case neg =>
      have HO : Hid (ascB l = true) := asc_t (fun i hi => HT.out i (by omega))
      have hk2 : ¬ ((k : Int) + 1 < (l.length : Int)) := by omega
      go_wp2
      go_ret
      exact ⟨ret_eq (by rw [HO.out]; rfl), bdrew (Below.refl _ _) _⟩
    obtain ⟨b, off, rfl, hb, hc⟩ := rdi_at hr (by omega)
    have hcm := hc k (by omega)
    have hck := hc (k + 1) hlt
    obtain ⟨y, hy⟩ : ∃ y, l.getD k 0 = y := ⟨_, rfl⟩
    obtain ⟨x, hx⟩ : ∃ x, l.getD (k + 1) 0 = x := ⟨_, rfl⟩
    rw [hy] at hcm
    rw [hx] at hck
    have i1 : (k : Int) + 1 < (l.length : Int) := by omega
    have i2 : (k : Int) < (l.length : Int) := by omega
    have i3 : (0 : Int) ≤ (k : Int) := by omega
    have i4 : (0 : Int) ≤ (k : Int) + 1 := by omega
    have e1 : IntKind.i64.wrap ((k : Int) + 1 - 1) = (k : Int) := by rw [show (k : Int) + 1 - 1 = (k : Int) by omega]; exact IntWalk.i64_in _ (by omega)
    have e2 : ((k : Int) + 1).toNat = k + 1 := by omega
    have e3 : IntKind.i64.wrap ((k : Int) + 1 + 1) = (k : Int) + 1 + 1 := IntWalk.i64_in _ (by omega)
    by_cases hxy : y < x
    case pos =>
      have H2 : Hid (∀ i, i < k + 1 → l.getD i 0 < l.getD (i + 1) 0) := fun i hi => by
        by_cases e : i = k
        · rw [e, hy, hx]; exact hxy
        · exact HT.out i (by omega)
      have t2 : decide (x ≤ y) = false := decide_eq_false (by omega)
      clear hc hy hx
      go_wp2
      go_quiet (fail)
      go_wp2
      go_roundw
      case rel => exact ⟨k + 1, _, .inl (by omega), by go_num, rfl, H2⟩
      case measure => simp [intOf]; omega
    have HO : Hid (ascB l = false) := asc_f hlt (by rw [hy, hx]; exact hxy)
    have t2 : decide (x ≤ y) = true := decide_eq_true (by omega)
    clear hc hy hx
    go_wp2
    go_quiet (fail)
    go_wp2
    go_ret
    exact ⟨ret_eq (by rw [HO.out]; rfl), bdrew (bdrew (Below.refl _ _) _) _⟩

theorem iNodesOf_any (v : Value) (A : Option Addr) (n c : Nat) (hv : v = .slice A n c) (w : World) : Calls Try.prog 111 #[v] w fun e w' => e = .returned v ∧ w = w' := by
  subst hv
  go_enter Try.func111, Try.ntmps111
  go_wp2
  go_ret
  exact ⟨rfl, rfl⟩

end Go.Proofs.Ytdoipabfmekdlaa

namespace Go.Proofs.Ytdoipabfmekdlaa
open Go.RowKit
set_option linter.unusedVariables false

def addI (l : List Int) (n : Int) : List Int := l.filter (fun x => decide (x < n)) ++ [n] ++ l.filter (fun x => decide (n < x))
def propZ : MProp := ⟨0, 0, [], 0, []⟩
def propNewB (b u : Int) : Bool := propOkB ⟨b, u, [], 0, []⟩
def propNew (b u : Int) : MProp := if propNewB b u = true then ⟨b, u, [], 0, []⟩ else propZ
def propReadyB (p : MProp) (n : Int) : Bool := propOkB p && isMostB (p.From.length : Int) n
def propWonB (p : MProp) (n : Int) : Bool := propReadyB p n && isMostB (p.Got.length : Int) n
theorem os_nil {w : World} {lo hi : Nat} (h : hi ≤ w.heap.size) : OS .i64 3 w lo hi (.slice none 0 0) [] := ⟨World.ownsRow_nil _ _ _ _, fun j hj => by simp [Value.ownBlock] at hj, h⟩
theorem filter_take_succ {l : List Int} {p : Int → Bool} {k : Nat} {x : Int} (hx : l[k]? = some x) : (l.take (k + 1)).filter p = (l.take k).filter p ++ (if p x = true then [x] else []) := by
  rw [List.take_add_one, hx, List.filter_append]
  simp only [Option.toList_some, List.filter_cons, List.filter_nil]

end Go.Proofs.Ytdoipabfmekdlaa

namespace Go.Proofs.Ytdoipabfmekdlaa
open Go.RowKit
set_option linter.unusedVariables false

deriving instance DecidableEq for MRep

def acctZ : MAcct := ⟨0, 0, 0, [], []⟩
def repG (l : List MRep) (i : Nat) : MRep := l.getD i ⟨0, 0⟩
def repAt (l : List MRep) (n : Int) (i : Nat) : Bool := inB (repG l i).Node 0 (n - 1) && (numB (repG l i).Amt && (decide (i = 0) || decide ((repG l (i - 1)).Node < (repG l i).Node)))
def hasRep (l : List MRep) (id : Int) : Bool := l.any (fun r => decide (r.Node = id))
def repsB (l : List MRep) (n id h : Int) : Bool := decide (∀ i, i < l.length → repAt l n i = true ∧ ((repG l i).Node = id → (repG l i).Amt = h))
def underB (l : List Int) (n : Int) : Bool := decide (l.length = 0) || decide (l.getD (l.length - 1) 0 < n)
def stateOf (k n : Int) : Int := if k = n then 2 else 1
def ownB (a : MAcct) (n id : Int) : Bool := decide (hasRep a.Reps id = decide ((a.Marks.length : Int) = n - 1))
def closedB (a : MAcct) (n id : Int) : Bool := inB a.By 0 (n - 1) && (riseB a.Marks && (!hasI a.Marks id && (repsB a.Reps n id a.Have && (underB a.Marks n && (ownB a n id && decide (a.State = stateOf a.Reps.length n))))))
def openB (a : MAcct) : Bool := decide (a.By = 0) && (decide (a.Marks.length = 0) && decide (a.Reps.length = 0))
def acctOkB (a : MAcct) (n id : Int) : Bool := inB n 1 4 && (inB id 0 (n - 1) && (numB a.Have && (if a.State = 0 then openB a else closedB a n id)))

def acctAddB (a : MAcct) (x : Int) : Bool := amtB x && inB a.Have 0 (1125899906842624 - x)
def acctAdd (a : MAcct) (x : Int) : MAcct := if acctAddB a x = true then ⟨a.Have + x, a.State, a.By, a.Marks, a.Reps⟩ else acctZ
def acctTakeB (a : MAcct) (x : Int) : Bool := amtB x && decide (x ≤ a.Have)
def acctTake (a : MAcct) (x : Int) : MAcct := if acctTakeB a x = true then ⟨a.Have - x, a.State, a.By, a.Marks, a.Reps⟩ else acctZ
def acctShutB (a : MAcct) (b : Int) : Bool := decide (a.State = 0) && inB b 0 3
def acctShut (a : MAcct) (b : Int) : MAcct := if acctShutB a b = true then ⟨a.Have, 1, b, a.Marks, a.Reps⟩ else acctZ
def insF (l : List Int) (x : Int) : List Int := l.takeWhile (fun y => decide (y ≤ x)) ++ [x] ++ l.dropWhile (fun y => decide (y ≤ x))
def acctMarkB (a : MAcct) (x : Int) : Bool := !decide (a.State = 0) && (inB x 0 3 && !hasI a.Marks x)
/-- as the program does it -/
def acctMark (a : MAcct) (x : Int) : MAcct := if acctMarkB a x = true then ⟨a.Have, a.State, a.By, insF a.Marks x, a.Reps⟩ else acctZ
def insR (l : List MRep) (x : MRep) : List MRep := l.takeWhile (fun y => decide (y.Node ≤ x.Node)) ++ [x] ++ l.dropWhile (fun y => decide (y.Node ≤ x.Node))
def acctRepB (a : MAcct) (d x : Int) : Bool := !decide (a.State = 0) && (inB d 0 3 && (numB x && !hasRep a.Reps d))
def acctRep (a : MAcct) (d x n : Int) : MAcct := if acctRepB a d x = true then ⟨a.Have, if ((insR a.Reps ⟨d, x⟩).length : Int) = n then 2 else a.State, a.By, a.Marks, insR a.Reps ⟨d, x⟩⟩ else acctZ
def wsum : List MRep → Int → Int
  | [], z => z
  | r :: l, z => wsum l (IntKind.i64.wrap (z + r.Amt))
def finalB (a : MAcct) : Bool := decide (a.State = 2)
def finalOf (a : MAcct) : Int := if a.State = 2 then wsum a.Reps 0 else 0
def acctSameB (a b : MAcct) : Bool := decide (a.Have = b.Have) && (decide (a.State = b.State) && (decide (a.By = b.By) && (decide (a.Marks = b.Marks) && decide (a.Reps = b.Reps))))

theorem insF_len (l : List Int) (x : Int) : (insF l x).length = l.length + 1 := by
  have := congrArg List.length (List.takeWhile_append_dropWhile (p := fun y => decide (y ≤ x)) (l := l))
  simp only [List.length_append] at this
  simp only [insF, List.length_append, List.length_cons, List.length_nil]
  omega
theorem insR_len (l : List MRep) (x : MRep) : (insR l x).length = l.length + 1 := by
  have := congrArg List.length (List.takeWhile_append_dropWhile (p := fun y : MRep => decide (y.Node ≤ x.Node)) (l := l))
  simp only [List.length_append] at this
  simp only [insR, List.length_append, List.length_cons, List.length_nil]
  omega
theorem acctAdd_bulk (a : MAcct) (x : Int) : (acctAdd a x).bulk ≤ a.bulk := by
  unfold acctAdd; split
  · exact Nat.le_refl _
  · simp [MAcct.bulk, acctZ]
theorem acctTake_bulk (a : MAcct) (x : Int) : (acctTake a x).bulk ≤ a.bulk := by
  unfold acctTake; split
  · exact Nat.le_refl _
  · simp [MAcct.bulk, acctZ]
theorem acctShut_bulk (a : MAcct) (x : Int) : (acctShut a x).bulk ≤ a.bulk := by
  unfold acctShut; split
  · exact Nat.le_refl _
  · simp [MAcct.bulk, acctZ]
theorem acctMark_bulk (a : MAcct) (x : Int) : (acctMark a x).bulk ≤ a.bulk + 1 := by
  unfold acctMark; split
  · simp only [MAcct.bulk, insF_len]; omega
  · simp [MAcct.bulk, acctZ]
theorem acctRep_bulk (a : MAcct) (d x n : Int) : (acctRep a d x n).bulk ≤ a.bulk + 1 := by
  unfold acctRep; split
  · simp only [MAcct.bulk, insR_len]; omega
  · simp [MAcct.bulk, acctZ]

theorem wsum_snoc : ∀ (l : List MRep) (z : Int) (x : MRep), wsum (l ++ [x]) z = IntKind.i64.wrap (wsum l z + x.Amt)
  | [], _, _ => rfl
  | r :: l, z, x => by
    show wsum (l ++ [x]) _ = IntKind.i64.wrap (wsum l _ + x.Amt)
    exact wsum_snoc l _ x
theorem wsum_take {l : List MRep} {k : Nat} {x : MRep} (hx : l[k]? = some x) : wsum (l.take (k + 1)) 0 = IntKind.i64.wrap (wsum (l.take k) 0 + x.Amt) := by
  rw [List.take_add_one, hx]
  exact wsum_snoc _ _ _

theorem repG_of {l : List MRep} {k : Nat} {x : MRep} (hx : l[k]? = some x) : repG l k = x := by
  unfold repG; rw [List.getD_eq_getElem?_getD, hx]; rfl
theorem hasRep_take {l : List MRep} {k : Nat} {x : MRep} (hx : l[k]? = some x) (id : Int) : hasRep (l.take (k + 1)) id = (hasRep (l.take k) id || decide (x.Node = id)) := by
  unfold hasRep
  rw [List.take_add_one, hx, List.any_append]
  simp

/-- the nodes of a list of reports -/
def nodesR (l : List MRep) : List Int := l.map (·.Node)
theorem nodesR_len (l : List MRep) : (nodesR l).length = l.length := by simp [nodesR]
theorem nodesR_get (l : List MRep) (i : Nat) : (nodesR l).getD i 0 = (repG l i).Node := by
  unfold nodesR repG
  rw [List.getD_eq_getElem?_getD, List.getD_eq_getElem?_getD, List.getElem?_map]
  cases l[i]? <;> rfl

/-- what impl asks of a list of marks -/
def marksFit (l : List Int) (n id : Int) : Bool := decide (∀ i, i < l.length → (0 ≤ l.getD i 0 ∧ l.getD i 0 < n ∧ l.getD i 0 ≠ id) ∧ ∀ j, j < i → l.getD j 0 ≠ l.getD i 0)
/-- ascending, between 0 and hi -/
def wideB (l : List Int) (hi : Int) : Bool := ascB l && (decide (l.length = 0) || (decide (0 ≤ l.getD 0 0) && decide (l.getD (l.length - 1) 0 ≤ hi)))
def amtsB (l : List MRep) : Bool := l.all (fun r => numB r.Amt)
def repFirst (l : List MRep) (id : Int) : MRep := (l.find? (fun r => decide (r.Node = id))).getD ⟨0, 0⟩
def ownFit (a : MAcct) (id : Int) : Bool := !hasRep a.Reps id || decide ((repFirst a.Reps id).Amt = a.Have)

theorem wide_in {l : List Int} {hi : Int} (h : wideB l hi = true) : ascB l = true ∧ ∀ i, i < l.length → 0 ≤ l.getD i 0 ∧ l.getD i 0 ≤ hi := by
  unfold wideB at h
  simp only [Bool.and_eq_true, Bool.or_eq_true, decide_eq_true_eq] at h
  obtain ⟨ha, hr⟩ := h
  refine ⟨ha, fun i hi' => ?_⟩
  have hr := hr.resolve_left (by omega)
  have hlo : 0 ≤ l.getD i 0 := by
    rcases Nat.eq_zero_or_pos i with e | e
    · rw [e]; exact hr.1
    · have := asc_lt ha 0 i e hi'; omega
  have hhi : l.getD i 0 ≤ hi := by
    rcases Nat.lt_or_ge i (l.length - 1) with e | e
    · have := asc_lt ha i (l.length - 1) e (by omega); omega
    · obtain rfl : i = l.length - 1 := by omega
      exact hr.2
  exact ⟨hlo, hhi⟩
theorem wide_of {l : List Int} {hi : Int} (ha : ascB l = true) (h : ∀ i, i < l.length → 0 ≤ l.getD i 0 ∧ l.getD i 0 ≤ hi) : wideB l hi = true := by
  unfold wideB
  simp only [Bool.and_eq_true, Bool.or_eq_true, decide_eq_true_eq]
  refine ⟨ha, ?_⟩
  rcases Nat.eq_zero_or_pos l.length with e | e
  · exact .inl e
  · exact .inr ⟨(h 0 e).1, (h (l.length - 1) (by omega)).2⟩

theorem hasI_get {l : List Int} {n : Int} : hasI l n = true ↔ ∃ i, i < l.length ∧ l.getD i 0 = n := by
  unfold hasI
  rw [decide_eq_true_eq, List.mem_iff_getElem?]
  constructor
  · rintro ⟨i, hi⟩
    have hl : i < l.length := by
      rcases Nat.lt_or_ge i l.length with h | h
      · exact h
      · rw [List.getElem?_eq_none h] at hi; cases hi
    exact ⟨i, hl, by rw [List.getD_eq_getElem?_getD, hi]; rfl⟩
  · rintro ⟨i, hi, h⟩
    refine ⟨i, ?_⟩
    rw [List.getD_eq_getElem?_getD, List.getElem?_eq_getElem hi] at h
    rw [List.getElem?_eq_getElem hi]
    exact congrArg some h

theorem fit_iff {l : List Int} {n id : Int} (hn : 1 ≤ n ∧ n ≤ 4) : (marksFit l n id = true ∧ ascB l = true) ↔ (riseB l = true ∧ hasI l id = false ∧ underB l n = true) := by
  constructor
  · rintro ⟨hf, ha⟩
    have hf := of_decide_eq_true hf
    refine ⟨rise_ends ha (fun h0 => (hf 0 h0).1.1) (fun h0 => by have := (hf (l.length - 1) (by omega)).1.2.1; omega), ?_, ?_⟩
    · cases hc : hasI l id
      · rfl
      · obtain ⟨i, hi, e⟩ := hasI_get.1 hc
        exact absurd e (hf i hi).1.2.2
    · unfold underB
      simp only [Bool.or_eq_true, decide_eq_true_eq]
      rcases Nat.eq_zero_or_pos l.length with e | e
      · exact .inl e
      · exact .inr (hf (l.length - 1) (by omega)).1.2.1
  · rintro ⟨hr, hi, hu⟩
    have ha := rise_asc hr
    refine ⟨decide_eq_true fun i hl => ⟨⟨(rise_in hr i hl).1, ?_, ?_⟩, fun j hj => ?_⟩, ha⟩
    · unfold underB at hu
      simp only [Bool.or_eq_true, decide_eq_true_eq] at hu
      have hu := hu.resolve_left (by omega)
      rcases Nat.lt_or_ge i (l.length - 1) with e | e
      · have := asc_lt ha i (l.length - 1) e (by omega); omega
      · obtain rfl : i = l.length - 1 := by omega
        exact hu
    · intro e
      have := hasI_get.2 ⟨i, hl, e⟩
      rw [hi] at this; cases this
    · have := asc_lt ha j i hj hl; omega

theorem hasRep_get {l : List MRep} {id : Int} : hasRep l id = true ↔ ∃ i, i < l.length ∧ (repG l i).Node = id := by
  unfold hasRep
  rw [List.any_eq_true]
  constructor
  · rintro ⟨x, hx, h⟩
    obtain ⟨i, hi⟩ := List.mem_iff_getElem?.1 hx
    have hl : i < l.length := by
      rcases Nat.lt_or_ge i l.length with h | h
      · exact h
      · rw [List.getElem?_eq_none h] at hi; cases hi
    exact ⟨i, hl, by rw [repG_of hi]; exact of_decide_eq_true h⟩
  · rintro ⟨i, hi, h⟩
    refine ⟨l[i], List.getElem_mem hi, decide_eq_true ?_⟩
    rw [repG_of (List.getElem?_eq_getElem hi)] at h
    exact h

theorem repFirst_get {l : List MRep} {id : Int} (h : hasRep l id = true) : ∃ i, i < l.length ∧ (repG l i).Node = id ∧ repFirst l id = repG l i := by
  unfold repFirst
  rcases hf : l.find? (fun r => decide (r.Node = id)) with _ | x
  · rw [List.find?_eq_none] at hf
    unfold hasRep at h
    rw [List.any_eq_true] at h
    obtain ⟨y, hy, h⟩ := h
    exact absurd h (hf y hy)
  · have h1 := List.find?_some hf
    obtain ⟨i, hi⟩ := List.mem_iff_getElem?.1 (List.mem_of_find?_eq_some hf)
    have hl : i < l.length := by
      rcases Nat.lt_or_ge i l.length with h | h
      · exact h
      · rw [List.getElem?_eq_none h] at hi; cases hi
    exact ⟨i, hl, by rw [repG_of hi]; simpa using h1, by rw [repG_of hi, hf]; rfl⟩

theorem reps_iff {l : List MRep} {n id h : Int} : repsB l n id h = true ↔ (amtsB l = true ∧ wideB (nodesR l) (n - 1) = true ∧ (hasRep l id = true → (repFirst l id).Amt = h)) := by
  constructor
  · intro hr
    have hr := of_decide_eq_true hr
    have hp : ∀ i, i < l.length → (0 ≤ (repG l i).Node ∧ (repG l i).Node ≤ n - 1) ∧ numB (repG l i).Amt = true ∧ (i = 0 ∨ (repG l (i - 1)).Node < (repG l i).Node) := fun i hi => by
      have := (hr i hi).1
      unfold repAt at this
      simp only [Bool.and_eq_true, Bool.or_eq_true, decide_eq_true_eq] at this
      exact ⟨inB_true.1 this.1, this.2.1, this.2.2⟩
    refine ⟨List.all_eq_true.2 fun x hx => ?_, wide_of (asc_t fun i hi => ?_) (fun i hi => ?_), fun ho => ?_⟩
    · obtain ⟨i, hi⟩ := List.mem_iff_getElem?.1 hx
      have hl : i < l.length := by
        rcases Nat.lt_or_ge i l.length with h | h
        · exact h
        · rw [List.getElem?_eq_none h] at hi; cases hi
      have := (hp i hl).2.1
      rwa [repG_of hi] at this
    · rw [nodesR_len] at hi
      rw [nodesR_get, nodesR_get]
      have := (hp (i + 1) hi).2.2
      simpa using this
    · rw [nodesR_len] at hi
      rw [nodesR_get]
      exact (hp i hi).1
    · obtain ⟨i, hi, h1, h2⟩ := repFirst_get ho
      rw [h2]
      exact (hr i hi).2 h1
  · rintro ⟨ha, hw, ho⟩
    obtain ⟨hasc, hin⟩ := wide_in hw
    refine decide_eq_true fun i hi => ⟨?_, fun hid => ?_⟩
    · unfold repAt
      have h1 := hin i (by rw [nodesR_len]; exact hi)
      rw [nodesR_get] at h1
      have h2 : numB (repG l i).Amt = true := by
        rw [repG_of (List.getElem?_eq_getElem hi)]
        exact List.all_eq_true.1 ha _ (List.getElem_mem hi)
      rw [inB_true.2 h1, h2]
      rcases Nat.eq_zero_or_pos i with e | e
      · simp [e]
      · have := asc_lt hasc (i - 1) i (by omega) (by rw [nodesR_len]; exact hi)
        rw [nodesR_get, nodesR_get] at this
        rw [decide_eq_true this]; simp
    · obtain ⟨j, hj, h1, h2⟩ := repFirst_get (hasRep_get.2 ⟨i, hi, hid⟩)
      have h3 := ho (hasRep_get.2 ⟨i, hi, hid⟩)
      rcases Nat.lt_trichotomy i j with e | e | e
      · have := asc_lt hasc i j e (by rw [nodesR_len]; exact hj)
        rw [nodesR_get, nodesR_get] at this
        omega
      · rw [e, ← h2]; exact h3
      · have := asc_lt hasc j i e (by rw [nodesR_len]; exact hi)
        rw [nodesR_get, nodesR_get] at this
        omega

/-- what impl asks of a closed account -/
theorem closed_eq {a : MAcct} {n id : Int} (hn : 1 ≤ n ∧ n ≤ 4) : closedB a n id = (marksFit a.Marks n id && (ascB a.Marks && (amtsB a.Reps && (wideB (nodesR a.Reps) (n - 1) && (ownB a n id && (ownFit a id && (inB a.By 0 (n - 1) && decide (a.State = stateOf a.Reps.length n)))))))) := by
  rw [Bool.eq_iff_iff]
  unfold closedB
  have h1 := fit_iff (l := a.Marks) (id := id) hn
  have h2 := reps_iff (l := a.Reps) (n := n) (id := id) (h := a.Have)
  have h3 : ownFit a id = true ↔ (hasRep a.Reps id = true → (repFirst a.Reps id).Amt = a.Have) := by
    unfold ownFit
    cases hasRep a.Reps id <;> simp
  simp only [Bool.and_eq_true, Bool.not_eq_true']
  rw [h2, h3]
  constructor
  · rintro ⟨b1, b2, b3, ⟨b4, b5, b6⟩, b7, b8, b9⟩
    have := h1.2 ⟨b2, b3, b7⟩
    exact ⟨this.1, this.2, b4, b5, b8, b6, b1, b9⟩
  · rintro ⟨c1, c2, c3, c4, c5, c6, c7, c8⟩
    have := h1.1 ⟨c1, c2⟩
    exact ⟨c7, this.1, this.2.1, ⟨c3, c4, c6⟩, this.2.2, c5, c8⟩

end Go.Proofs.Ytdoipabfmekdlaa
