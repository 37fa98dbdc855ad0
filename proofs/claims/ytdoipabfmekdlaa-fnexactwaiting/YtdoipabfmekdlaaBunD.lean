/- Texts joined: Msg1, Box1, Box2, MsgEq, Box3. -/
import Derived.Test.YtdoipabfmekdlaaBunC
import Derived.Test.YtdoipabfmekdlaaBunB
import Derived.IntWalk
import Derived.Deep.RegionHeld3
import Derived.Laws.StructEq

namespace Go.Proofs.Ytdoipabfmekdlaa
open Go.RowKit
set_option linter.unusedVariables false

/-- what Amt may be, by kind -/
def amtOkB (k a : Int) : Bool := if k = 1 ∨ k = 2 ∨ k = 3 then amtB a else if k = 4 then inB a 0 3 else if k = 5 then numB a else false
def msgOkB (m : MMsg) : Bool := inB m.Acct 0 2 && (inB m.Src 0 2 && ((m.Kind == 2 || m.Src == 0) && amtOkB m.Kind m.Amt))
/-- what MsgWorth answers -/
def msgWorth (m : MMsg) : Int := if msgOkB m = true ∧ m.Kind ≤ 3 then m.Amt else 0

theorem msgOk_acct {m : MMsg} (h : inB m.Acct 0 2 = false) : msgOkB m = false := by simp [msgOkB, h]
theorem msgOk_src {m : MMsg} (h : inB m.Src 0 2 = false) : msgOkB m = false := by simp [msgOkB, h]
theorem msgOk_two {m : MMsg} (h : m.Kind ≠ 2) (h2 : m.Src ≠ 0) : msgOkB m = false := by simp [msgOkB, h, h2]
theorem msgOk_rest {m : MMsg} (h0 : inB m.Acct 0 2 = true) (h1 : inB m.Src 0 2 = true) (h : m.Kind = 2 ∨ m.Src = 0) : msgOkB m = amtOkB m.Kind m.Amt := by
  unfold msgOkB
  rw [h0, h1]
  rcases h with h | h <;> simp [h]
theorem msgOk_parts {m : MMsg} (h : msgOkB m = true) : (0 ≤ m.Acct ∧ m.Acct ≤ 2) ∧ (0 ≤ m.Src ∧ m.Src ≤ 2) ∧ (m.Kind = 2 ∨ m.Src = 0) ∧ (1 ≤ m.Kind ∧ m.Kind ≤ 5) ∧ (0 ≤ m.Amt ∧ m.Amt ≤ 1125899906842624) := by
  simp only [msgOkB, Bool.and_eq_true, Bool.or_eq_true, beq_iff_eq, inB_true] at h
  obtain ⟨h1, h2, h3, h4⟩ := h
  have h5 : (1 ≤ m.Kind ∧ m.Kind ≤ 5) ∧ (0 ≤ m.Amt ∧ m.Amt ≤ 1125899906842624) := by
    unfold amtOkB at h4
    split at h4
    · unfold amtB at h4; rw [inB_true] at h4; omega
    · split at h4
      · rw [inB_true] at h4; omega
      · split at h4
        · rw [numB_true] at h4; omega
        · cases h4
  exact ⟨h1, h2, h3, h5.1, h5.2⟩

set_option maxHeartbeats 2000000 in
theorem sMsgOk_c {w : World} {v : Value} {m : MMsg} (h : RV msgL w v m) : Calls Try.prog 70 #[v] w fun e w' => e = .returned (.bool (msgOkB m)) ∧ Below w.heap.size w w' := by
  obtain rfl := rv_msg h
  obtain ⟨wa, hwa, B0, sa, x_a⟩ := frame1 w 92 [.int .i64 m.Kind, .int .i64 m.Acct, .int .i64 m.Amt, .int .i64 m.Src]
  have sa_1 := Nat.le_of_eq sa
  have sa_2 := Nat.le_of_eq sa.symm
  clear sa h
  by_cases ha : inB m.Acct 0 2 = true
  case neg =>
    have ha' : inB m.Acct 0 2 = false := by simpa using ha
    rw [msgOk_acct ha']
    have HA := Lib.hid ha'
    clear ha ha'
    have c0 := x_a.cell (i := 0) rfl
    have c1 := x_a.cell (i := 1) rfl
    have c2 := x_a.cell (i := 2) rfl
    have c3 := x_a.cell (i := 3) rfl
    go_enter Try.func70, Try.ntmps70
    go_wp2_with fail
    refine (sIn_any _ _ _ _).mono ?_
    rintro e w' ⟨rfl, rfl⟩
    rw [HA.out]
    go_wp2
    go_ret
    exact ⟨rfl, B0⟩
  have HA := Lib.hid ha
  by_cases hs : inB m.Src 0 2 = true
  case neg =>
    have hs' : inB m.Src 0 2 = false := by simpa using hs
    rw [msgOk_src hs']
    have HS := Lib.hid hs'
    clear ha hs hs'
    have c0 := x_a.cell (i := 0) rfl
    have c1 := x_a.cell (i := 1) rfl
    have c2 := x_a.cell (i := 2) rfl
    have c3 := x_a.cell (i := 3) rfl
    go_enter Try.func70, Try.ntmps70
    go_wp2_with fail
    refine (sIn_any _ _ _ _).mono ?_
    rintro e w' ⟨rfl, rfl⟩
    rw [HA.out]
    go_wp2_with fail
    refine (sIn_any _ _ _ _).mono ?_
    rintro e w' ⟨rfl, rfl⟩
    rw [HS.out]
    go_wp2
    go_ret
    exact ⟨rfl, B0⟩
  have HS := Lib.hid hs
  by_cases h2 : m.Kind = 2 ∨ m.Src = 0
  case neg =>
    rw [msgOk_two (fun e => h2 (.inl e)) (fun e => h2 (.inr e))]
    have k2 : (m.Kind != 2) = true := by simp; exact fun e => h2 (.inl e)
    have k0 : (m.Src != 0) = true := by simp; exact fun e => h2 (.inr e)
    clear ha hs h2
    have c0 := x_a.cell (i := 0) rfl
    have c1 := x_a.cell (i := 1) rfl
    have c2 := x_a.cell (i := 2) rfl
    have c3 := x_a.cell (i := 3) rfl
    go_enter Try.func70, Try.ntmps70
    go_wp2_with fail
    refine (sIn_any _ _ _ _).mono ?_
    rintro e w' ⟨rfl, rfl⟩
    rw [HA.out]
    go_wp2_with fail
    refine (sIn_any _ _ _ _).mono ?_
    rintro e w' ⟨rfl, rfl⟩
    rw [HS.out]
    go_wp2
    go_ret
    exact ⟨rfl, B0⟩
  rw [msgOk_rest ha hs h2]
  clear ha hs
  by_cases e1 : m.Kind = 1
  case pos =>
    rw [show amtOkB m.Kind m.Amt = amtB m.Amt by unfold amtOkB; rw [e1]; simp]
    have k2 : (m.Kind != 2) = true := by simp [e1]
    have k0 : (m.Src != 0) = false := by simp; omega
    rw [e1] at x_a hwa k2 ⊢
    clear h2
    clear e1
    have c0 := x_a.cell (i := 0) rfl
    have c1 := x_a.cell (i := 1) rfl
    have c2 := x_a.cell (i := 2) rfl
    have c3 := x_a.cell (i := 3) rfl
    go_enter Try.func70, Try.ntmps70
    go_wp2_with fail
    refine (sIn_any _ _ _ _).mono ?_
    rintro e w' ⟨rfl, rfl⟩
    rw [HA.out]
    go_wp2_with fail
    refine (sIn_any _ _ _ _).mono ?_
    rintro e w' ⟨rfl, rfl⟩
    rw [HS.out]
    go_wp2_with fail
    refine (sAmt_any _ _).mono ?_
    rintro e w' ⟨rfl, rfl⟩
    go_wp2
    go_ret
    exact ⟨rfl, B0⟩
  by_cases e2 : m.Kind = 2
  case pos =>
    rw [show amtOkB m.Kind m.Amt = amtB m.Amt by unfold amtOkB; rw [e2]; simp]
    have k2 : (m.Kind != 2) = false := by simp [e2]
    rw [e2] at x_a hwa k2 ⊢
    clear h2
    clear e2
    have c0 := x_a.cell (i := 0) rfl
    have c1 := x_a.cell (i := 1) rfl
    have c2 := x_a.cell (i := 2) rfl
    have c3 := x_a.cell (i := 3) rfl
    go_enter Try.func70, Try.ntmps70
    go_wp2_with fail
    refine (sIn_any _ _ _ _).mono ?_
    rintro e w' ⟨rfl, rfl⟩
    rw [HA.out]
    go_wp2_with fail
    refine (sIn_any _ _ _ _).mono ?_
    rintro e w' ⟨rfl, rfl⟩
    rw [HS.out]
    go_wp2_with fail
    refine (sAmt_any _ _).mono ?_
    rintro e w' ⟨rfl, rfl⟩
    go_wp2
    go_ret
    exact ⟨rfl, B0⟩
  by_cases e3 : m.Kind = 3
  case pos =>
    rw [show amtOkB m.Kind m.Amt = amtB m.Amt by unfold amtOkB; rw [e3]; simp]
    have k2 : (m.Kind != 2) = true := by simp [e3]
    have k0 : (m.Src != 0) = false := by simp; omega
    rw [e3] at x_a hwa k2 ⊢
    clear h2
    clear e3
    have c0 := x_a.cell (i := 0) rfl
    have c1 := x_a.cell (i := 1) rfl
    have c2 := x_a.cell (i := 2) rfl
    have c3 := x_a.cell (i := 3) rfl
    go_enter Try.func70, Try.ntmps70
    go_wp2_with fail
    refine (sIn_any _ _ _ _).mono ?_
    rintro e w' ⟨rfl, rfl⟩
    rw [HA.out]
    go_wp2_with fail
    refine (sIn_any _ _ _ _).mono ?_
    rintro e w' ⟨rfl, rfl⟩
    rw [HS.out]
    go_wp2_with fail
    refine (sAmt_any _ _).mono ?_
    rintro e w' ⟨rfl, rfl⟩
    go_wp2
    go_ret
    exact ⟨rfl, B0⟩
  by_cases e4 : m.Kind = 4
  case pos =>
    rw [show amtOkB m.Kind m.Amt = inB m.Amt 0 3 by unfold amtOkB; rw [e4]; simp]
    have k2 : (m.Kind != 2) = true := by simp [e4]
    have k0 : (m.Src != 0) = false := by simp; omega
    rw [e4] at x_a hwa k2 ⊢
    clear h2
    clear e4
    have c0 := x_a.cell (i := 0) rfl
    have c1 := x_a.cell (i := 1) rfl
    have c2 := x_a.cell (i := 2) rfl
    have c3 := x_a.cell (i := 3) rfl
    go_enter Try.func70, Try.ntmps70
    go_wp2_with fail
    refine (sIn_any _ _ _ _).mono ?_
    rintro e w' ⟨rfl, rfl⟩
    rw [HA.out]
    go_wp2_with fail
    refine (sIn_any _ _ _ _).mono ?_
    rintro e w' ⟨rfl, rfl⟩
    rw [HS.out]
    go_wp2_with fail
    refine (sIn_any _ _ _ _).mono ?_
    rintro e w' ⟨rfl, rfl⟩
    go_wp2
    go_ret
    exact ⟨rfl, B0⟩
  by_cases e5 : m.Kind = 5
  case pos =>
    rw [show amtOkB m.Kind m.Amt = numB m.Amt by unfold amtOkB; rw [e5]; simp]
    have k2 : (m.Kind != 2) = true := by simp [e5]
    have k0 : (m.Src != 0) = false := by simp; omega
    rw [e5] at x_a hwa k2 ⊢
    clear h2
    clear e5
    have c0 := x_a.cell (i := 0) rfl
    have c1 := x_a.cell (i := 1) rfl
    have c2 := x_a.cell (i := 2) rfl
    have c3 := x_a.cell (i := 3) rfl
    go_enter Try.func70, Try.ntmps70
    go_wp2_with fail
    refine (sIn_any _ _ _ _).mono ?_
    rintro e w' ⟨rfl, rfl⟩
    rw [HA.out]
    go_wp2_with fail
    refine (sIn_any _ _ _ _).mono ?_
    rintro e w' ⟨rfl, rfl⟩
    rw [HS.out]
    go_wp2_with fail
    refine (sNum_any _ _).mono ?_
    rintro e w' ⟨rfl, rfl⟩
    go_wp2
    go_ret
    exact ⟨rfl, B0⟩
  rw [show amtOkB m.Kind m.Amt = false by simp [amtOkB, e1, e2, e3, e4, e5]]
  have k2 : (m.Kind != 2) = true := by simp [e2]
  have k0 : (m.Src != 0) = false := by simp; omega
  have q1 : (m.Kind == 1) = false := by simp [e1]
  have q2 : (m.Kind == 2) = false := by simp [e2]
  have q3 : (m.Kind == 3) = false := by simp [e3]
  have q4 : (m.Kind == 4) = false := by simp [e4]
  have q5 : (m.Kind == 5) = false := by simp [e5]
  clear h2 e1 e2 e3 e4 e5
  have c0 := x_a.cell (i := 0) rfl
  have c1 := x_a.cell (i := 1) rfl
  have c2 := x_a.cell (i := 2) rfl
  have c3 := x_a.cell (i := 3) rfl
  go_enter Try.func70, Try.ntmps70
  go_wp2_with fail
  refine (sIn_any _ _ _ _).mono ?_
  rintro e w' ⟨rfl, rfl⟩
  rw [HA.out]
  go_wp2_with fail
  refine (sIn_any _ _ _ _).mono ?_
  rintro e w' ⟨rfl, rfl⟩
  rw [HS.out]
  go_wp2
  go_ret
  exact ⟨rfl, B0⟩

/-- the words of the kinds: rights, credit, bounce, mark, report -/
def msgName (k : Int) : ByteArray :=
  if k = 1 then ⟨#[114, 105, 103, 104, 116, 115]⟩ else if k = 2 then ⟨#[99, 114, 101, 100, 105, 116]⟩ else if k = 3 then ⟨#[98, 111, 117, 110, 99, 101]⟩ else if k = 4 then ⟨#[109, 97, 114, 107]⟩ else if k = 5 then ⟨#[114, 101, 112, 111, 114, 116]⟩ else ⟨#[]⟩

end Go.Proofs.Ytdoipabfmekdlaa

namespace Go.Proofs.Ytdoipabfmekdlaa
open Go.RowKit
set_option linter.unusedVariables false

def outOkB (o : MOut) : Bool := o.List.all msgOkB && (inB o.Next 1 1125899906842624 && (decide (o.List.length ≤ 60) && decide ((o.List.length : Int) < o.Next)))

theorem all_take_succ {α : Type} {p : α → Bool} {xs : List α} {k : Nat} {x : α} (h : (xs.take k).all p = true) (hx : xs[k]? = some x) (hp : p x = true) : (xs.take (k + 1)).all p = true := by
  rw [List.take_add_one, hx, List.all_append, h]
  simp [hp]
theorem all_false {α : Type} {p : α → Bool} {xs : List α} {k : Nat} {x : α} (hx : xs[k]? = some x) (hp : p x = false) : xs.all p = false := by
  rw [List.all_eq_false]
  exact ⟨x, List.mem_of_getElem? hx, by simp [hp]⟩

set_option maxHeartbeats 1000000 in
theorem sOutOk_c {w : World} {v : Value} {o : MOut} (h : RV outL w v o) (hm : o.List.length ≤ 16777216) : Calls Try.prog 34 #[v] w fun e w' => e = .returned (.bool (outOkB o)) ∧ Below w.heap.size w w' := by
  obtain ⟨A, c, rfl, hr0⟩ := rv_out h
  obtain ⟨A', c', he, hc1, hc2, hr⟩ := rv_slice hr0
  simp only [Value.slice.injEq, true_and] at he
  obtain ⟨rfl, rfl⟩ := he
  obtain ⟨wa, hwa, B0, sa, x_a⟩ := frame1 w 59 [.int .i64 o.Next, .slice A o.List.length c]
  have sa_1 := Nat.le_of_eq sa
  have sa_2 := Nat.le_of_eq sa.symm
  clear sa h
  have c0 := x_a.cell (i := 0) rfl
  have c1 := x_a.cell (i := 1) rfl
  go_enter Try.func34, Try.ntmps34
  go_wp2
  go_loopw [8] (fun i wr => ∃ k : Nat, k ≤ o.List.length ∧ i = .int .i64 k ∧ Hid ((o.List.take k).all msgOkB = true) ∧ Vr wr w.heap.size 59 [.int .i64 o.Next, .slice A o.List.length c] ∧ Below w.heap.size w wr) (fun i _ => o.List.length - (intOf i).toNat)
  case atStart => exact ⟨0, Nat.zero_le _, rfl, rfl, x_a, B0⟩
  case round =>
    obtain ⟨k, hk, rfl, HT, x_r, HB⟩ := hrel
    have hs := HB.size
    have d0 := x_r.cell (i := 0) rfl
    have d1 := x_r.cell (i := 1) rfl
    by_cases hlt : k < o.List.length
    · obtain ⟨x, hxe⟩ := get_of_lt hlt
      obtain ⟨b, off, rfl, hb, e0, e1, e2, e3⟩ := el_msg (hr.below HB) hxe
      have i1 : (k : Int) < (o.List.length : Int) := by omega
      clear c0 c1 hwa
      obtain ⟨w1, a1, s1, b1, x_m⟩ := alloc_step wr 92 [.int .i64 x.Kind, .int .i64 x.Acct, .int .i64 x.Amt, .int .i64 x.Src]
      have s1_1 := Nat.le_of_eq s1
      have s1_2 := Nat.le_of_eq s1.symm
      have m0 := x_m.cell (i := 0) rfl
      have m1 := x_m.cell (i := 1) rfl
      have m2 := x_m.cell (i := 2) rfl
      have m3 := x_m.cell (i := 3) rfl
      clear s1
      replace x_r := x_r.from_ b1
      have B1 := HB.trans (b1.mono hs)
      by_cases hok : msgOkB x = true
      · have HK := Lib.hid hok
        have HT2 : Hid ((o.List.take (k + 1)).all msgOkB = true) := all_take_succ HT.out hxe hok
        clear hok hxe
        go_wp2_with fail
        refine (sMsgOk_c (m := x) rv_msg_mk).mono ?_
        rintro e w2 ⟨rfl, h2⟩
        rw [HK.out]
        have x2 := x_r.from_ h2
        have B2 := B1.trans (h2.mono B1.size)
        go_wp2
        go_roundw
        case rel => exact ⟨k + 1, by omega, by go_num, HT2, x2, B2⟩
        case measure => simp [intOf]; omega
      · have hok' : msgOkB x = false := by simpa using hok
        have HK := Lib.hid hok'
        have HO : Hid (outOkB o = false) := by show _ = _; unfold outOkB; rw [all_false hxe hok']; rfl
        clear hok hok' hxe
        go_wp2_with fail
        refine (sMsgOk_c (m := x) rv_msg_mk).mono ?_
        rintro e w2 ⟨rfl, h2⟩
        rw [HK.out]
        have B2 := B1.trans (h2.mono B1.size)
        go_wp2
        go_ret
        exact ⟨ret_eq (by rw [HO.out]; rfl), B2⟩
    · have hk2 : k = o.List.length := by omega
      subst hk2
      have hall : o.List.all msgOkB = true := by have := HT.out; rwa [List.take_of_length_le (Nat.le_refl _)] at this
      by_cases hin : inB o.Next 1 1125899906842624 = true
      case neg =>
        have hin' : inB o.Next 1 1125899906842624 = false := by simpa using hin
        have HI := Lib.hid hin'
        have HO : Hid (outOkB o = false) := by show _ = _; unfold outOkB; rw [hin']; simp
        clear hin hin' hall
        go_wp2_with fail
        refine (sIn_any _ _ _ _).mono ?_
        rintro e w2 ⟨rfl, rfl⟩
        rw [HI.out]
        go_wp2
        go_ret
        exact ⟨ret_eq (by rw [HO.out]; rfl), HB⟩
      have HI := Lib.hid hin
      have hn := hin
      rw [inB_true] at hn
      by_cases hl : o.List.length ≤ 60
      case neg =>
        have HO : Hid (outOkB o = false) := by show _ = _; unfold outOkB; rw [decide_eq_false hl]; simp
        have g : decide ((o.List.length : Int) ≤ 60) = false := by simp; omega
        clear hin hall
        go_wp2_with fail
        refine (sIn_any _ _ _ _).mono ?_
        rintro e w2 ⟨rfl, rfl⟩
        rw [HI.out]
        go_wp2
        go_ret
        exact ⟨ret_eq (by rw [HO.out]; rfl), HB⟩
      have HO : Hid (outOkB o = decide ((o.List.length : Int) < o.Next)) := by show _ = _; unfold outOkB; rw [hall, hin, decide_eq_true hl]; simp
      have g : decide ((o.List.length : Int) ≤ 60) = true := by simp; omega
      clear hin hall
      go_wp2_with fail
      refine (sIn_any _ _ _ _).mono ?_
      rintro e w2 ⟨rfl, rfl⟩
      rw [HI.out]
      go_wp2
      go_ret
      exact ⟨ret_eq (by rw [HO.out]; rfl), HB⟩

end Go.Proofs.Ytdoipabfmekdlaa

namespace Go.Proofs.Ytdoipabfmekdlaa
open Go.RowKit
set_option linter.unusedVariables false

def outZ : MOut := ⟨0, []⟩
def outNew : MOut := ⟨1, []⟩
def outFirst (o : MOut) : Int := if outOkB o = true then o.Next - (o.List.length : Int) else 0
def inTakeN (last seq : Int) : Int := if last < seq ∧ last = seq - 1 then seq else last
def inTakeB (last seq : Int) : Bool := decide (last < seq ∧ last = seq - 1)

theorem outOk_parts {o : MOut} (h : outOkB o = true) : (1 ≤ o.Next ∧ o.Next ≤ 1125899906842624) ∧ o.List.length ≤ 60 ∧ (o.List.length : Int) < o.Next ∧ o.List.all msgOkB = true := by
  simp only [outOkB, Bool.and_eq_true, decide_eq_true_eq, inB_true] at h
  exact ⟨h.2.1, h.2.2.1, h.2.2.2, h.1⟩

theorem cell_sa {b : Nat} {p : Addr} (hp : p.block ≠ b) : ∀ (vs : List Value) (o : Nat) (w : World), (setAll w b o vs).cell? p = w.cell? p
  | [], _, _ => rfl
  | u :: vs, o, w => by
    rw [setAll, cell_sa hp vs (o + 1)]
    have := Below.heap_setCell w ⟨b, o, none⟩ u p.block hp
    unfold World.cell?
    rw [this]

theorem ov_msgs_nil {w : World} {lo : Nat} (h : lo ≤ w.heap.size) : OV msgSL w lo lo (.slice none 0 0) [] :=
  ⟨[_], [], rfl, ⟨_, rfl, ownL_nil⟩, List.nodup_nil, (fun j hj => by cases hj), h⟩

set_option maxHeartbeats 1000000 in
theorem sOutNew_c {w : World} : Calls Try.prog 36 #[] w (NewV outL w outNew) := by
  obtain ⟨wa, hwa, B0, sa, x_r⟩ := frame1 w 59 [.int .i64 0, .slice none 0 0]
  have sa_1 := Nat.le_of_eq sa
  have sa_2 := Nat.le_of_eq sa.symm
  clear sa
  have c_r_0_wa := x_r.cell (i := 0) rfl
  have f_r_0_wa := x_r.frozen 0
  have c_r_1_wa := x_r.cell (i := 1) rfl
  have f_r_1_wa := x_r.frozen 1
  go_enter Try.func36, Try.ntmps36
  obtain ⟨w1, e_w1, s_w1, h_w1, y⟩ := store_step x_r [.int .i64 1, .slice none 0 0] rfl
  replace e_w1 : ((wa.setCell ⟨w.heap.size, 0, none⟩ (.int .i64 1)).setCell ⟨w.heap.size, 1, none⟩ (.slice none 0 0)) = w1 := e_w1
  have s_w1_1 := Nat.le_of_eq s_w1
  have s_w1_2 := Nat.le_of_eq s_w1.symm
  clear s_w1
  have B_w1 := Below.chg_ B0 h_w1 (by omega) (by omega)
  replace x_r : Vr w1 (w.heap.size) 59 [.int .i64 1, .slice none 0 0] := y
  clear y
  have c_r_0_w1 := x_r.cell (i := 0) rfl
  have f_r_0_w1 := x_r.frozen 0
  have c_r_1_w1 := x_r.cell (i := 1) rfl
  have f_r_1_w1 := x_r.frozen 1
  go_wp2
  refine ret_cell (by rfl) (by rfl) x_r Try.underlying59 sz_out (by rfl) ?_
  exact ⟨_, rfl, ov_out (d := outNew) (ov_msgs_nil (lo := w.heap.size) (by omega)) (by omega), B_w1⟩

def outAtB (o : MOut) (q : Int) : Bool := outOkB o && (decide (outFirst o ≤ q) && decide (q < o.Next))
def outAtM (o : MOut) (q : Int) : MMsg := if outAtB o q = true then o.List.getD (q - outFirst o).toNat ⟨0, 0, 0, 0⟩ else ⟨0, 0, 0, 0⟩

end Go.Proofs.Ytdoipabfmekdlaa

namespace Go.Proofs.Ytdoipabfmekdlaa
open Go.RowKit
set_option linter.unusedVariables false

deriving instance DecidableEq for MMsg

theorem msg_held : Try.prog.stoodInHeld 92 = false := by kernel_rfl
theorem msg_guard : Try.prog.eqGuardType Try.prog.depth 92 = false := by kernel_rfl

theorem msg_fields : Try.prog.underlying 92 = some (.struct (Try.prog.fieldsOf 92)) := by
  unfold Program.fieldsOf; rw [Try.underlying92]

theorem eq_msg_run (d : Nat) (W : World) (a b : MMsg) : (Op.equalIn (d + 2) 92 (.agg #[.int .i64 a.Kind, .int .i64 a.Acct, .int .i64 a.Amt, .int .i64 a.Src]) (.agg #[.int .i64 b.Kind, .int .i64 b.Acct, .int .i64 b.Amt, .int .i64 b.Src])).run Try.prog W = .ok (decide (a = b)) W := by
  rw [run_equalIn_agg W (d + 1) _ _ _ msg_fields msg_held]
  unfold Program.fieldsOf
  rw [Try.underlying92]
  have hu : Try.prog.underlying 3 = some (.int .i64) := Try.underlying3
  obtain ⟨a1, a2, a3, a4⟩ := a
  obtain ⟨b1, b2, b3, b4⟩ := b
  simp [Op.eqFields, go_sem, hu]
  by_cases e1 : a1 = b1 <;> by_cases e2 : a2 = b2 <;> by_cases e3 : a3 = b3 <;> by_cases e4 : a4 = b4 <;> simp [e1, e2, e3, e4]

theorem neq_msg_run (W : World) (a b : MMsg) : (binOp .neq 92 (.agg #[.int .i64 a.Kind, .int .i64 a.Acct, .int .i64 a.Amt, .int .i64 a.Src]) (.agg #[.int .i64 b.Kind, .int .i64 b.Acct, .int .i64 b.Amt, .int .i64 b.Src])).run Try.prog W = .ok (.bool (!decide (a = b))) W := by
  rw [run_neq_struct, eq_msg_run 9998]; rfl
theorem eql_msg_run (W : World) (a b : MMsg) : (binOp .eql 92 (.agg #[.int .i64 a.Kind, .int .i64 a.Acct, .int .i64 a.Amt, .int .i64 a.Src]) (.agg #[.int .i64 b.Kind, .int .i64 b.Acct, .int .i64 b.Amt, .int .i64 b.Src])).run Try.prog W = .ok (.bool (decide (a = b))) W := by
  rw [run_eql_struct, eq_msg_run 9998]; rfl
theorem guard_msg_run (op : BinOp) (x y : Operand) (W : World) (xs ys : Array Value) : (eqGuard op 92 x y (.agg xs) (.agg ys)).run Try.prog W = .ok () W := run_eqGuard_agg W op _ x y xs ys msg_guard

end Go.Proofs.Ytdoipabfmekdlaa

namespace Go.Proofs.Ytdoipabfmekdlaa
open Go.RowKit
set_option linter.unusedVariables false

def outSameB (a b : MOut) : Bool := decide (a.Next = b.Next ∧ a.List = b.List)
def outW (o : MOut) (last : Int) : Nat → Int
  | 0 => 0
  | k + 1 => outW o last k + (if outOkB o = true ∧ last < outFirst o + (k : Int) then msgWorth (o.List.getD k ⟨0, 0, 0, 0⟩) else 0)
def outWorth (o : MOut) (last : Int) : Int := outW o last o.List.length
theorem msgWorth_range (m : MMsg) : 0 ≤ msgWorth m ∧ msgWorth m ≤ 1000000000 := by
  unfold msgWorth
  split
  · rename_i h
    have h1 := msgOk_parts h.1
    have h2 := h.1
    simp only [msgOkB, Bool.and_eq_true] at h2
    have h3 := h2.2.2.2
    unfold amtOkB at h3
    rw [if_pos (by omega)] at h3
    unfold amtB at h3
    rw [inB_true] at h3
    omega
  · omega
theorem outW_range (o : MOut) (last : Int) : ∀ k : Nat, 0 ≤ outW o last k ∧ outW o last k ≤ 1000000000 * (k : Int)
  | 0 => by simp [outW]
  | k + 1 => by
    have h := outW_range o last k
    have g := msgWorth_range (o.List.getD k ⟨0, 0, 0, 0⟩)
    rw [outW]
    split <;> omega

set_option maxHeartbeats 2000000 in
theorem sOutSame_c {w : World} {v v' : Value} {o p : MOut} (h : RV outL w v o) (hp : RV outL w v' p) (hm : o.List.length ≤ 16777216) (hm2 : p.List.length ≤ 16777216) : Calls Try.prog 35 #[v, v'] w fun e w' => e = .returned (.bool (outSameB o p)) ∧ Below w.heap.size w w' := by
  have h0 := h
  obtain ⟨A, c, rfl, hr0⟩ := rv_out h
  obtain ⟨A', c', he, hc1, hc2, hr⟩ := rv_slice hr0
  simp only [Value.slice.injEq, true_and] at he
  obtain ⟨rfl, rfl⟩ := he
  clear h
  obtain ⟨A2, c2, rfl, hp0⟩ := rv_out hp
  obtain ⟨A', c', he, hd1, hd2, hr2⟩ := rv_slice hp0
  simp only [Value.slice.injEq, true_and] at he
  obtain ⟨rfl, rfl⟩ := he
  clear hp
  obtain ⟨wa, hwa, B0, sa, x_a, x_b⟩ := frame2 w 59 [.int .i64 o.Next, .slice A o.List.length c] 59 [.int .i64 p.Next, .slice A2 p.List.length c2]
  have sa_1 := Nat.le_of_eq sa
  have sa_2 := Nat.le_of_eq sa.symm
  clear sa
  have c_a_0_wa := x_a.cell (i := 0) rfl
  have c_a_1_wa := x_a.cell (i := 1) rfl
  have c_b_0_wa := x_b.cell (i := 0) rfl
  have c_b_1_wa := x_b.cell (i := 1) rfl
  by_cases hn : o.Next = p.Next
  case neg =>
    have HO : Hid (outSameB o p = false) := decide_eq_false (fun h => hn h.1)
    have g : (o.Next != p.Next) = true := by simpa using hn
    clear hn
    go_enter Try.func35, Try.ntmps35
    go_wp2
    go_ret
    exact ⟨ret_eq (by rw [HO.out]; rfl), B0⟩
  have g : (o.Next != p.Next) = false := by simpa using hn
  have HN := Lib.hid hn
  clear hn
  by_cases hl : o.List.length = p.List.length
  case neg =>
    have HO : Hid (outSameB o p = false) := decide_eq_false (fun h => hl (by rw [h.2]))
    have g2 : ((o.List.length : Int) != (p.List.length : Int)) = true := by simp; omega
    clear hl
    go_enter Try.func35, Try.ntmps35
    go_wp2
    go_ret
    exact ⟨ret_eq (by rw [HO.out]; rfl), B0⟩
  have g2 : ((o.List.length : Int) != (p.List.length : Int)) = false := by simp; omega
  have l1 := Nat.le_of_eq hl
  have l2 := Nat.le_of_eq hl.symm
  clear hl
  go_enter Try.func35, Try.ntmps35
  go_wp2
  go_loopw [24] (fun i wr => ∃ k : Nat, k ≤ o.List.length ∧ i = .int .i64 k ∧ Hid (o.List.take k = p.List.take k) ∧ Vr wr w.heap.size 59 [.int .i64 o.Next, .slice A o.List.length c] ∧ Vr wr (w.heap.size + 1) 59 [.int .i64 p.Next, .slice A2 p.List.length c2] ∧ Below w.heap.size w wr) (fun i _ => o.List.length - (intOf i).toNat)
  case atStart => exact ⟨0, Nat.zero_le _, rfl, rfl, x_a, x_b, B0⟩
  case round =>
    clear c_a_0_wa c_a_1_wa c_b_0_wa c_b_1_wa x_a x_b hwa
    obtain ⟨k, hk, rfl, HT, x_a, x_b, HB⟩ := hrel
    have hs := HB.size
    by_cases hlt : k < o.List.length
    case neg =>
      have HO : Hid (outSameB o p = true) := decide_eq_true ⟨HN.out, by have := HT.out; rwa [List.take_of_length_le (by omega), List.take_of_length_le (by omega)] at this⟩
      have hk2 : k = o.List.length := by omega
      subst hk2
      go_wp2
      go_ret
      exact ⟨ret_eq (by rw [HO.out]; rfl), HB⟩
    obtain ⟨x, hxe⟩ := get_of_lt hlt
    obtain ⟨y, hye⟩ := get_of_lt (xs := p.List) (k := k) (by omega)
    obtain ⟨b, off, rfl, hb, e0, e1, e2, e3⟩ := el_msg (hr.below HB) hxe
    obtain ⟨b', off', rfl, hb', d0, d1, d2, d3⟩ := el_msg (hr2.below HB) hye
    have i1 : (k : Int) < (o.List.length : Int) := by omega
    have i2 : (k : Int) < (p.List.length : Int) := by omega
    obtain ⟨w1, e_w1, s_w1, h_w1, x_m⟩ := alloc_step wr 92 [.int .i64 x.Kind, .int .i64 x.Acct, .int .i64 x.Amt, .int .i64 x.Src]
    have s_w1_1 := Nat.le_of_eq s_w1
    have s_w1_2 := Nat.le_of_eq s_w1.symm
    clear s_w1
    replace x_a := x_a.from_ h_w1
    replace x_b := x_b.from_ h_w1
    have B_w1 := HB.trans (h_w1.mono HB.size)
    have c_a_0_w1 := x_a.cell (i := 0) rfl
    have c_a_1_w1 := x_a.cell (i := 1) rfl
    have c_b_0_w1 := x_b.cell (i := 0) rfl
    have c_b_1_w1 := x_b.cell (i := 1) rfl
    have c_m_0_w1 := x_m.cell (i := 0) rfl
    have c_m_1_w1 := x_m.cell (i := 1) rfl
    have c_m_2_w1 := x_m.cell (i := 2) rfl
    have c_m_3_w1 := x_m.cell (i := 3) rfl
    replace d0 := (h_w1.cell (p := ⟨b', off' + k * 4, none⟩) (by show b' < wr.heap.size; omega)).trans d0
    replace d1 := (h_w1.cell (p := ⟨b', off' + k * 4 + 1, none⟩) (by show b' < wr.heap.size; omega)).trans d1
    replace d2 := (h_w1.cell (p := ⟨b', off' + k * 4 + 2, none⟩) (by show b' < wr.heap.size; omega)).trans d2
    replace d3 := (h_w1.cell (p := ⟨b', off' + k * 4 + 3, none⟩) (by show b' < wr.heap.size; omega)).trans d3
    have gd := fun op x y W xs ys => guard_msg_run op x y W xs ys
    have gn := fun W => neq_msg_run W x y
    by_cases hxy : x = y
    case pos =>
      rw [show (!decide (x = y)) = false by simp [hxy]] at gn
      have H2 : Hid (o.List.take (k + 1) = p.List.take (k + 1)) := take_succ_eqL HT.out hxe (by rw [hye, hxy])
      clear hxy hxe hye
      go_wp2_with fail
      go_quiet (fail)
      have B9 : Below w.heap.size w (w1.drewN nq) := B_w1.trans (below_of_drew _ _ nq)
      have X1 := x_a.from_ (below_of_drew _ _ nq)
      have X2 := x_b.from_ (below_of_drew _ _ nq)
      go_wp2
      go_roundw
      case rel => exact ⟨k + 1, by omega, by go_num, H2, X1, X2, B9⟩
      case measure => simp [intOf]; omega
    case neg =>
      rw [show (!decide (x = y)) = true by simp [hxy]] at gn
      have HO : Hid (outSameB o p = false) := decide_eq_false (fun h => hxy (by have h1 := hxe; rw [h.2, hye] at h1; simpa using h1.symm))
      clear hxy hxe hye
      go_wp2_with fail
      go_quiet (fail)
      go_wp2
      go_ret
      exact ⟨ret_eq (by rw [HO.out]; rfl), B_w1.trans (below_of_drew _ _ _)⟩

end Go.Proofs.Ytdoipabfmekdlaa
