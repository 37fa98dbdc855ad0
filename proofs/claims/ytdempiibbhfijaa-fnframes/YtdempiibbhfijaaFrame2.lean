/- Contracts: impl.readLowFirst, impl.payloadAt, spec.FrameGet, impl.FrameGet. -/
import Derived.Test.YtdempiibbhfijaaFrame1
import Derived.IntWalk
namespace Go.Proofs.Ytdempiibbhfijaa
open Go.RowKit
set_option linter.unusedVariables false

theorem take_getD (zs : List Int) (j : Nat) (h : j < zs.length) : zs.take (j + 1) = zs.take j ++ [zs.getD j 0] := by
  rw [List.take_succ_eq_append_getElem h]; simp [h]

set_option maxHeartbeats 1000000 in
theorem iRead_any (A : Option Addr) (c : Nat) (zs : List Int) (w : World) (B : Nat) (hr : Rd .u8 w B A zs) (hb : Bytes zs) (hm : zs.length ≤ 4) :
    Calls Try.prog 48 #[.slice A zs.length c] w fun e w' => e = .returned (.int .i64 (lowV zs)) ∧ w = w' := by
  go_enter Try.func48, Try.ntmps48
  go_wp2
  go_loop [3, 8] (fun sx si => ∃ (k : Nat) (v : Int), k ≤ zs.length ∧ si = .int .i64 k ∧ sx = .int .i64 v ∧ Hid (v = lowV (zs.take k))) (fun _ si => zs.length - (intOf si).toNat)
  case atStart => exact ⟨0, 0, Nat.zero_le _, rfl, rfl, rfl⟩
  case round =>
    obtain ⟨k, v, hk, rfl, rfl, HV⟩ := hrel
    by_cases hlt : k < zs.length
    · obtain ⟨b, off, rfl, hbb, hc⟩ := hr.at_ hlt
      have hx2 := hb k
      obtain ⟨d, hd⟩ : ∃ d : Int, zs.getD k 0 = d := ⟨_, rfl⟩
      rw [hd] at hc hx2
      obtain ⟨hd0, hd1⟩ := hx2
      have HD := Lib.hid hd
      clear hd
      have hrg := lowV_range (zs.take k) (bytes_mem (bytes_take hb k))
      rw [← HV.out, List.length_take, Nat.min_eq_left hk] at hrg
      have hor := or_shift8 v d k (by omega) hrg.1 hrg.2 hd0 hd1
      have hpl := pow_mul_le8 d k (by omega) hd0 hd1
      have h0 := hrg.1
      have hv4 : v < 16777216 := Int.lt_of_lt_of_le hrg.2 (pow256_le k (by omega))
      obtain ⟨u, hu⟩ : ∃ u, v + d * 256 ^ k = u := ⟨_, rfl⟩
      rw [hu] at hor
      have HU : Hid (u = lowV (zs.take (k + 1))) := by
        show u = _
        rw [take_getD zs k hlt, lowV_snoc, HD.out, ← HV.out, List.length_take, Nat.min_eq_left hk, hu]
      clear hu hrg
      have i1 : (k : Int) < (zs.length : Int) := by omega
      go_wp2
      go_round
      case rel => exact ⟨k + 1, u, by omega, by go_num, rfl, HU⟩
      case measure => simp [intOf]; omega
    · have hk2 : k = zs.length := by omega
      subst hk2
      have HZ : Hid (v = lowV zs) := by
        show v = _
        rw [HV.out, List.take_of_length_le (Nat.le_refl _)]
      go_wp2
      go_ret
      exact ⟨ret_eq (by rw [← HZ.out]; rfl), rfl⟩

theorem iRead_n (A : Option Addr) (c : Nat) (zs : List Int) (n : Nat) (w : World) (B : Nat) (hr : Rd .u8 w B A zs) (hn : zs.length = n) (hb : Bytes zs) (hm : zs.length ≤ 4) :
    Calls Try.prog 48 #[.slice A n c] w fun e w' => e = .returned (.int .i64 (lowV zs)) ∧ w = w' := by
  subst hn; exact iRead_any A c zs w B hr hb hm
theorem iCrc_n (A : Option Addr) (c : Nat) (zs : List Int) (n : Nat) (w : World) (B : Nat) (hr : Rd .u8 w B A zs) (hn : zs.length = n) (hb : Bytes zs) (hm : zs.length ≤ 1073741824) :
    Calls Try.prog 46 #[.slice A n c] w fun e w' => e = .returned (.int .i64 (crcOf zs)) ∧ w = w' := by
  subst hn; exact iCrc_any A c zs w B hr hb hm

/-- a reading call that answers v: draws at most -/
def SaysV (w : World) (v : Value) (e : Ending) (w' : World) : Prop := e = .returned v ∧ ∃ n, w' = w.drewN n

set_option maxHeartbeats 1000000 in
theorem iPayload_yes (b off c : Nat) (zs : List Int) (k n : Nat) (w : World) (B : Nat) (hr : Rd .u8 w B (some ⟨b, off, none⟩) zs) (hb : Bytes zs) (hc : zs.length ≤ c) (hm : c ≤ 9223372036854775807) (hf : isFrame zs k) (hn : lenAt zs k = n) :
    Calls Try.prog 37 #[.slice (some ⟨b, off, none⟩) zs.length c, .int .i64 k] w (SaysV w (.tuple #[.slice (some ⟨b, off + (k + 6), none⟩) n n, .int .i64 (k + 6 + n), .bool true])) := by
  obtain ⟨f1, f2, f3, f4, f5⟩ := hf
  rw [hn] at f2 f3 f4
  have e2 := low_two zs k (by omega) hb
  rw [hn] at e2
  have e4 := low_four zs (k + 2) (by omega)
  have ep : payAt zs k = (zs.drop (k + 6)).take n := by unfold payAt; rw [hn]
  rw [ep, ← e4] at f5
  have H2 := Lib.hid e2
  have H5 := Lib.hid f5
  obtain ⟨u, hu⟩ : ∃ u, crcOf ((zs.drop (k + 6)).take n) = u := ⟨_, rfl⟩
  have HU := Lib.hid hu
  clear hu
  clear e2 e4 ep f5 hn
  have hfit : fitB (n : Int) = true := decide_eq_true (by omega)
  have HF := Lib.hid hfit
  clear hfit
  have r1 := hr.sub k 2 (by omega)
  have r2 := hr.sub (k + 6) n (by omega)
  have r3 := hr.sub (k + 2) 4 (by omega)
  have d1 : ¬ ((zs.length : Int) - 6 < (k : Int)) := by omega
  have d2 : ¬ ((zs.length : Int) - ((k : Int) + 6) < (n : Int)) := by omega
  go_enter Try.func37, Try.ntmps37
  go_wp2_with fail
  refine (iRead_n _ _ _ 2 w B r1 (sub_len (by omega)) (bytes_take (bytes_drop hb _) _) (by rw [sub_len (by omega)]; omega)).mono ?_
  rintro e w' ⟨rfl, rfl⟩
  rw [H2.out]
  go_wp2_with fail
  refine (iFit_any _ _).mono ?_
  rintro e w' ⟨rfl, rfl⟩
  rw [HF.out]
  go_wp2
  have K1 : ∀ m, Calls Try.prog 46 #[.slice (some ⟨b, off + (k + 6), none⟩) n n] (w.drewN m) fun e w' => e = .returned (.int .i64 u) ∧ w' = w.drewN m := fun m => by
    rw [← HU.out]
    exact (iCrc_n _ _ _ n (w.drewN m) B r2 (sub_len (by omega)) (bytes_take (bytes_drop hb _) _) (by rw [sub_len (by omega)]; omega)).mono fun _ _ ⟨he, hw⟩ => ⟨he, hw.symm⟩
  have K2 : ∀ m, Calls Try.prog 48 #[.slice (some ⟨b, off + (k + 2), none⟩) 4 (c - (k + 2))] (w.drewN m) fun e w' => e = .returned (.int .i64 u) ∧ w' = w.drewN m := fun m => by
    rw [← HU.out, H5.out]
    exact (iRead_n _ _ _ 4 (w.drewN m) B r3 (sub_len (by omega)) (bytes_take (bytes_drop hb _) _) (by rw [sub_len (by omega)]; omega)).mono fun _ _ ⟨he, hw⟩ => ⟨he, hw.symm⟩
  clear r1 r2 r3
  have q1 : IntKind.i64.wrap ((k : Int) + 2) = (k : Int) + 2 := IntWalk.i64_in _ (by omega)
  go_quiet ((first | (go_at_call 46; exact Calls.quiet_of_same (K1 _)) | (go_at_call 48; exact Calls.quiet_of_same (K2 _))))
  clear K1 K2 q1
  go_wp2
  go_ret3
  have hkn : k + 6 + n - (k + 6) = n := by omega
  refine ⟨ret_eq ?_, _, rfl⟩
  show Value.tuple #[.slice (some ⟨b, off + (k + 6), none⟩) (k + 6 + n - (k + 6)) (k + 6 + n - (k + 6)), .int .i64 ((k : Int) + 6 + n), .bool true] = _
  rw [hkn]

def noFrame : Value := .tuple #[.slice none 0 0, .int .i64 0, .bool false]

set_option maxHeartbeats 1000000 in
theorem iPayload_no (A : Option Addr) (c : Nat) (zs : List Int) (a : Int) (w : World) (B : Nat) (hr : Rd .u8 w B A zs) (hb : Bytes zs) (hc : zs.length ≤ c) (hm : c ≤ 9223372036854775807) (hf : frameAtB zs a = false) (ha : a ≤ 9223372036854775807) :
    Calls Try.prog 37 #[.slice A zs.length c, .int .i64 a] w (SaysV w noFrame) := by
  have hf2 : ¬ (0 ≤ a ∧ isFrame zs a.toNat) := of_decide_eq_false hf
  clear hf
  by_cases ha0 : a < 0
  · clear hf2
    go_enter Try.func37, Try.ntmps37
    go_wp2
    go_ret3
    exact ⟨rfl, 0, rfl⟩
  obtain ⟨k, rfl⟩ : ∃ k : Nat, a = (k : Int) := ⟨a.toNat, by omega⟩
  have hf3 : ¬ isFrame zs k := fun h => hf2 ⟨by omega, by simpa using h⟩
  clear hf2 ha0
  by_cases hk : (zs.length : Int) - 6 < (k : Int)
  · clear hf3
    go_enter Try.func37, Try.ntmps37
    go_wp2
    go_ret3
    exact ⟨rfl, 0, rfl⟩
  obtain ⟨b, off, rfl, -⟩ := hr.at_ (j := 0) (by omega)
  obtain ⟨n, hn⟩ : ∃ n, lenAt zs k = n := ⟨_, rfl⟩
  have e2 := low_two zs k (by omega) hb
  rw [hn] at e2
  have H2 := Lib.hid e2
  clear e2
  have r1 := hr.sub k 2 (by omega)
  by_cases hfit : fitB (n : Int) = true
  · have hl : 1 ≤ (n : Int) ∧ (n : Int) ≤ 2000 := of_decide_eq_true hfit
    have HF := Lib.hid hfit
    clear hfit
    by_cases hn2 : (zs.length : Int) - ((k : Int) + 6) < (n : Int)
    · clear hf3 hn
      go_enter Try.func37, Try.ntmps37
      go_wp2_with fail
      refine (iRead_n _ _ _ 2 w B r1 (sub_len (by omega)) (bytes_take (bytes_drop hb _) _) (by rw [sub_len (by omega)]; omega)).mono ?_
      rintro e w' ⟨rfl, rfl⟩
      rw [H2.out]
      go_wp2_with fail
      refine (iFit_any _ _).mono ?_
      rintro e w' ⟨rfl, rfl⟩
      rw [HF.out]
      go_wp2
      go_ret3
      exact ⟨rfl, 0, rfl⟩
    · have e4 := low_four zs (k + 2) (by omega)
      have ep : payAt zs k = (zs.drop (k + 6)).take n := by unfold payAt; rw [hn]
      have hne : crcOf ((zs.drop (k + 6)).take n) ≠ lowV ((zs.drop (k + 2)).take 4) := fun e => by
        rw [← ep, e4] at e
        exact hf3 ⟨by omega, by omega, by omega, by omega, e⟩
      have r2 := hr.sub (k + 6) n (by omega)
      have r3 := hr.sub (k + 2) 4 (by omega)
      obtain ⟨u, hu⟩ : ∃ u, crcOf ((zs.drop (k + 6)).take n) = u := ⟨_, rfl⟩
      obtain ⟨v, hv⟩ : ∃ v, lowV ((zs.drop (k + 2)).take 4) = v := ⟨_, rfl⟩
      rw [hu, hv] at hne
      have HU := Lib.hid hu
      have HV := Lib.hid hv
      clear hu hv ep e4 hn hf3
      have hne2 : (u != v) = true := by simpa using hne
      go_enter Try.func37, Try.ntmps37
      go_wp2_with fail
      refine (iRead_n _ _ _ 2 w B r1 (sub_len (by omega)) (bytes_take (bytes_drop hb _) _) (by rw [sub_len (by omega)]; omega)).mono ?_
      rintro e w' ⟨rfl, rfl⟩
      rw [H2.out]
      go_wp2_with fail
      refine (iFit_any _ _).mono ?_
      rintro e w' ⟨rfl, rfl⟩
      rw [HF.out]
      go_wp2
      have K1 : ∀ m, Calls Try.prog 46 #[.slice (some ⟨b, off + (k + 6), none⟩) n n] (w.drewN m) fun e w' => e = .returned (.int .i64 u) ∧ w' = w.drewN m := fun m => by
        rw [← HU.out]
        exact (iCrc_n _ _ _ n (w.drewN m) B r2 (sub_len (by omega)) (bytes_take (bytes_drop hb _) _) (by rw [sub_len (by omega)]; omega)).mono fun _ _ ⟨he, hw⟩ => ⟨he, hw.symm⟩
      have K2 : ∀ m, Calls Try.prog 48 #[.slice (some ⟨b, off + (k + 2), none⟩) 4 (c - (k + 2))] (w.drewN m) fun e w' => e = .returned (.int .i64 v) ∧ w' = w.drewN m := fun m => by
        rw [← HV.out]
        exact (iRead_n _ _ _ 4 (w.drewN m) B r3 (sub_len (by omega)) (bytes_take (bytes_drop hb _) _) (by rw [sub_len (by omega)]; omega)).mono fun _ _ ⟨he, hw⟩ => ⟨he, hw.symm⟩
      clear r1 r2 r3
      have q1 : IntKind.i64.wrap ((k : Int) + 2) = (k : Int) + 2 := IntWalk.i64_in _ (by omega)
      go_quiet ((first | (go_at_call 46; exact Calls.quiet_of_same (K1 _)) | (go_at_call 48; exact Calls.quiet_of_same (K2 _))))
      clear K1 K2 q1
      go_wp2
      go_ret3
      exact ⟨rfl, _, rfl⟩
  · have hfit' : fitB (n : Int) = false := by simpa using hfit
    have HF := Lib.hid hfit'
    clear hfit hfit' hf3 hn
    go_enter Try.func37, Try.ntmps37
    go_wp2_with fail
    refine (iRead_n _ _ _ 2 w B r1 (sub_len (by omega)) (bytes_take (bytes_drop hb _) _) (by rw [sub_len (by omega)]; omega)).mono ?_
    rintro e w' ⟨rfl, rfl⟩
    rw [H2.out]
    go_wp2_with fail
    refine (iFit_any _ _).mono ?_
    rintro e w' ⟨rfl, rfl⟩
    rw [HF.out]
    go_wp2
    go_ret3
    exact ⟨rfl, 0, rfl⟩

/-- a call that answers a new row of bytes, a number and a bool -/
def NewSIB (w : World) (zs : List Int) (n : Int) (b : Bool) (e : Ending) (w' : World) : Prop :=
  ∃ v, e = .returned (.tuple #[v, .int .i64 n, .bool b]) ∧ OS .u8 5 w' w.heap.size w'.heap.size v zs ∧ Below w.heap.size w w'

theorem frameAt_yes {zs : List Int} {a : Int} (h : frameAtB zs a = true) : ∃ k n : Nat, a = (k : Int) ∧ isFrame zs k ∧ lenAt zs k = n ∧ frameAtL zs a = payAt zs k ∧ frameAtP zs a = k + 6 + n := by
  have h2 : 0 ≤ a ∧ isFrame zs a.toNat := of_decide_eq_true h
  refine ⟨a.toNat, lenAt zs a.toNat, by omega, h2.2, rfl, ?_, ?_⟩
  · unfold frameAtL; rw [if_pos h]
  · unfold frameAtP; rw [if_pos h]; omega
theorem frameAt_no {zs : List Int} {a : Int} (h : frameAtB zs a = false) : frameAtL zs a = [] ∧ frameAtP zs a = 0 := by
  unfold frameAtL frameAtP; rw [h]; simp

set_option maxHeartbeats 1000000 in
theorem iFrameGet_c {w : World} {v : Value} {zs : List Int} {a : Int} (h : RS .u8 w v zs) (hb : Bytes zs) (hm : zs.length ≤ 16777216) (ha1 : -9223372036854775808 ≤ a) (ha2 : a ≤ 9223372036854775807) :
    Calls Try.prog 15 #[v, .int .i64 a] w (NewSIB w (frameAtL zs a) (frameAtP zs a) (frameAtB zs a)) := by
  obtain ⟨A, c, rfl, hc1, hc2, hr⟩ := h
  unfold maxLen at hc2
  by_cases hf : frameAtB zs a = true
  · obtain ⟨k, n, rfl, hk, hn, hL, hP⟩ := frameAt_yes hf
    obtain ⟨f1, f2, f3, f4, -⟩ := id hk
    rw [hn] at f2 f3 f4
    obtain ⟨b, off, rfl, -⟩ := hr.at_ (j := 0) (by omega)
    have r2 := hr.sub (k + 6) n (by omega)
    have ep : payAt zs k = (zs.drop (k + 6)).take n := by unfold payAt; rw [hn]
    rw [← ep] at r2
    have hpl : (payAt zs k).length = n := by rw [ep]; exact sub_len (by omega)
    rw [hL, hP, hf]
    have HK := Lib.hid hk
    have HN := Lib.hid hn
    have HL := Lib.hid hpl
    clear hL hP hf hk hn ep hpl
    go_enter Try.func15, Try.ntmps15
    go_wp2_with fail
    refine (iPayload_yes b off c zs k n w _ hr hb hc1 hc2 HK.out HN.out).mono ?_
    rintro e w' ⟨rfl, m, rfl⟩
    go_wp2_with fail
    refine (iJoined_nil (w := w.drewN m) (xs := payAt zs k) ⟨_, n, by rw [HL.out], by rw [HL.out]; exact Nat.le_refl _, by unfold maxLen; omega, r2.drewN m⟩ (by rw [HL.out]; omega)).mono ?_
    rintro e w2 ⟨v2, rfl, o2, hb2⟩
    go_wp2
    go_ret3
    exact ⟨_, rfl, o2, (below_of_drew _ w m).trans hb2⟩
  · have hf' : frameAtB zs a = false := by simpa using hf
    obtain ⟨hL, hP⟩ := frameAt_no hf'
    rw [hL, hP, hf']
    have HF := Lib.hid hf'
    clear hf hf' hL hP
    go_enter Try.func15, Try.ntmps15
    go_wp2_with fail
    refine (iPayload_no A c zs a w _ hr hb hc1 hc2 HF.out ha2).mono ?_
    rintro e w' ⟨rfl, m, rfl⟩
    unfold noFrame
    go_wp2
    go_ret3
    exact ⟨_, rfl, os_none _ _, below_of_drew _ w m⟩

end Go.Proofs.Ytdempiibbhfijaa
