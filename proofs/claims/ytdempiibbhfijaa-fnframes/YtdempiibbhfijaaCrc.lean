/- Contracts of spec.Crc and impl.Crc; the walk of the law FnExactCrc. -/
import Derived.Test.YtdempiibbhfijaaBytes
import Derived.Test.YtdempiibbhfijaaGetNum
namespace Go.Proofs.Ytdempiibbhfijaa
open Go.RowKit
set_option linter.unusedVariables false

/-- one step of the checksum on a bit, and eight of them -/
def crcBit (v : Nat) : Nat := if v % 2 = 1 then (v / 2) ^^^ 3988292384 else v / 2
def crcBits : Nat → Nat → Nat
  | 0, v => v
  | k + 1, v => crcBit (crcBits k v)
def crcStep (v d : Nat) : Nat := crcBits 8 (v ^^^ d)
/-- the state behind the bytes ds -/
def crcRun (ds : List Int) : Nat := ds.foldl (fun v d => crcStep v d.toNat) 4294967295
def crcOf (ds : List Int) : Int := ((crcRun ds ^^^ 4294967295 : Nat) : Int)

theorem crcBit_lt (v : Nat) (h : v < 4294967296) : crcBit v < 4294967296 := by
  unfold crcBit
  split
  · exact Nat.xor_lt_two_pow (n := 32) (by omega) (by omega)
  · omega
theorem crcBits_lt (k v : Nat) (h : v < 4294967296) : crcBits k v < 4294967296 := by
  induction k with
  | zero => exact h
  | succ k ih => exact crcBit_lt _ ih
theorem crcRun_lt (ds : List Int) (hb : Bytes ds) : crcRun ds < 4294967296 := by
  have : ∀ (l : List Int) (v : Nat), (∀ x ∈ l, 0 ≤ x ∧ x ≤ 255) → v < 4294967296 → l.foldl (fun v d => crcStep v d.toNat) v < 4294967296 := by
    intro l
    induction l with
    | nil => intro v _ h; exact h
    | cons x l ih =>
      intro v hl h
      rw [List.foldl_cons]
      refine ih _ (fun y hy => hl y (List.mem_cons_of_mem _ hy)) ?_
      have hx := hl x (List.mem_cons_self ..)
      exact crcBits_lt 8 _ (Nat.xor_lt_two_pow (n := 32) (by omega) (by omega))
  refine this ds _ (fun x hx => ?_) (by omega)
  obtain ⟨j, hj, rfl⟩ := List.mem_iff_getElem.1 hx
  have := hb j
  simpa [hj] using this
theorem crcRun_take (ds : List Int) (k : Nat) (h : k < ds.length) : crcRun (ds.take (k + 1)) = crcStep (crcRun (ds.take k)) (ds.getD k 0).toNat := by
  unfold crcRun
  rw [List.take_succ_eq_append_getElem h, List.foldl_append]
  simp [h]

theorem bytes_take {zs : List Int} (hb : Bytes zs) (k : Nat) : Bytes (zs.take k) := by
  intro j
  by_cases h : j < k
  · have := hb j
    simpa [List.getD_eq_getElem?_getD, List.getElem?_take, h] using this
  · simp [List.getD_eq_getElem?_getD, List.getElem?_take, h]

set_option maxHeartbeats 1000000 in
theorem sCrc_any (A : Option Addr) (c : Nat) (zs : List Int) (w : World) (B : Nat) (hr : Rd .u8 w B A zs) (hb : Bytes zs) (hm : zs.length ≤ 1073741824) :
    Calls Try.prog 40 #[.slice A zs.length c] w fun e w' => e = .returned (.int .i64 (crcOf zs)) ∧ w = w' := by
  go_enter Try.func40, Try.ntmps40
  go_wp2
  go_loop [3, 10] (fun sx si => ∃ (k v : Nat), k ≤ zs.length ∧ si = .int .i64 k ∧ sx = .int .i64 v ∧ v < 4294967296 ∧ Hid (v = crcRun (zs.take k))) (fun _ si => zs.length - (intOf si).toNat)
  case atStart => exact ⟨0, 4294967295, Nat.zero_le _, rfl, rfl, by omega, rfl⟩
  case round =>
    obtain ⟨k, v, hk, rfl, rfl, hv, HV⟩ := hrel
    by_cases hlt : k < zs.length
    · obtain ⟨b, off, rfl, hbb, hc⟩ := hr.at_ hlt
      have hx2 := hb k
      obtain ⟨d, hd⟩ : ∃ d : Nat, zs.getD k 0 = (d : Int) := ⟨(zs.getD k 0).toNat, by omega⟩
      rw [hd] at hc hx2
      have hd1 : d < 256 := by omega
      have HD := Lib.hid hd
      clear hd hx2
      obtain ⟨u, hu⟩ : ∃ u : Nat, v ^^^ d = u := ⟨_, rfl⟩
      have hx := bits_xor_i64 v d (by omega) (by omega)
      rw [hu] at hx
      have hu1 : u < 4294967296 := by rw [← hu]; exact Nat.xor_lt_two_pow (n := 32) (by omega) (by omega)
      have HU := Lib.hid hu
      clear hu
      have i1 : (k : Int) < (zs.length : Int) := by omega
      go_wp2
      go_loop [3, 6] (fun sx si => ∃ (i y : Nat), i ≤ 8 ∧ si = .int .i64 i ∧ sx = .int .i64 y ∧ y < 4294967296 ∧ Hid (y = crcBits i u)) (fun _ si => 8 - (intOf si).toNat)
      case atStart => exact ⟨0, u, by omega, rfl, rfl, hu1, rfl⟩
      case round =>
        obtain ⟨i, y, hi, rfl, rfl, hy, HY⟩ := hrel
        by_cases h8 : i < 8
        · by_cases hodd : y % 2 = 1
          · have ho : ((y : Int) % 2 == 1) = true := by simp; omega
            obtain ⟨q, hq⟩ : ∃ q : Nat, y / 2 = q := ⟨_, rfl⟩
            have hq' : (y : Int) / 2 = (q : Int) := by omega
            obtain ⟨z, hz⟩ : ∃ z : Nat, q ^^^ 3988292384 = z := ⟨_, rfl⟩
            have hx2 := bits_xor_i64 q 3988292384 (by omega) (by omega)
            rw [hz, show ((3988292384 : Nat) : Int) = 3988292384 from rfl] at hx2
            have hz1 : z < 4294967296 := by rw [← hz]; exact Nat.xor_lt_two_pow (n := 32) (by omega) (by omega)
            have HZ : Hid (z = crcBits (i + 1) u) := by
              show z = crcBit (crcBits i u)
              rw [← HY.out]; unfold crcBit; rw [if_pos hodd, hq, hz]
            clear hz hq hodd
            go_wp2
            go_round
            case rel => exact ⟨i + 1, z, by omega, by go_num, rfl, hz1, HZ⟩
            case measure => simp [intOf]; omega
          · have ho : ((y : Int) % 2 == 1) = false := by simp; omega
            obtain ⟨q, hq⟩ : ∃ q : Nat, y / 2 = q := ⟨_, rfl⟩
            have hq' : (y : Int) / 2 = (q : Int) := by omega
            have hq1 : q < 4294967296 := by omega
            have HZ : Hid (q = crcBits (i + 1) u) := by
              show q = crcBit (crcBits i u)
              rw [← HY.out]; unfold crcBit; rw [if_neg hodd, hq]
            clear hq hodd
            go_wp2
            go_round
            case rel => exact ⟨i + 1, q, by omega, by go_num, rfl, hq1, HZ⟩
            case measure => simp [intOf]; omega
        · have h8' : i = 8 := by omega
          subst h8'
          have HN : Hid (y = crcRun (zs.take (k + 1))) := by
            show y = crcRun (zs.take (k + 1))
            rw [crcRun_take zs k hlt, HD.out, ← HV.out, HY.out, ← HU.out]; rfl
          go_wp2
          go_round
          case rel => exact ⟨k + 1, y, by omega, by go_num, rfl, hy, HN⟩
          case measure => simp [intOf]; omega
    · have hk2 : k = zs.length := by omega
      subst hk2
      obtain ⟨z, hz⟩ : ∃ z : Nat, v ^^^ 4294967295 = z := ⟨_, rfl⟩
      have hx2 := bits_xor_i64 v 4294967295 (by omega) (by omega)
      rw [hz, show ((4294967295 : Nat) : Int) = 4294967295 from rfl] at hx2
      have HZ : Hid ((z : Int) = crcOf zs) := by
        show (z : Int) = crcOf zs
        unfold crcOf
        rw [← hz, HV.out, List.take_of_length_le (Nat.le_refl _)]
      clear hz
      go_wp2
      go_ret
      exact ⟨ret_eq (by rw [← HZ.out]; rfl), rfl⟩

set_option maxHeartbeats 1000000 in
theorem iCrc_any (A : Option Addr) (c : Nat) (zs : List Int) (w : World) (B : Nat) (hr : Rd .u8 w B A zs) (hb : Bytes zs) (hm : zs.length ≤ 1073741824) :
    Calls Try.prog 46 #[.slice A zs.length c] w fun e w' => e = .returned (.int .i64 (crcOf zs)) ∧ w = w' := by
  go_enter Try.func46, Try.ntmps46
  go_wp2
  go_loop [3, 9] (fun sx si => ∃ (k v : Nat), k ≤ zs.length ∧ si = .int .i64 k ∧ sx = .int .u32 v ∧ v < 4294967296 ∧ Hid (v = crcRun (zs.take k))) (fun _ si => zs.length - (intOf si).toNat)
  case atStart => exact ⟨0, 4294967295, Nat.zero_le _, rfl, rfl, by omega, rfl⟩
  case round =>
    obtain ⟨k, v, hk, rfl, rfl, hv, HV⟩ := hrel
    by_cases hlt : k < zs.length
    · obtain ⟨b, off, rfl, hbb, hc⟩ := hr.at_ hlt
      have hx2 := hb k
      obtain ⟨d, hd⟩ : ∃ d : Nat, zs.getD k 0 = (d : Int) := ⟨(zs.getD k 0).toNat, by omega⟩
      rw [hd] at hc hx2
      have hd1 : d < 256 := by omega
      have HD := Lib.hid hd
      clear hd hx2
      obtain ⟨u, hu⟩ : ∃ u : Nat, v ^^^ d = u := ⟨_, rfl⟩
      have hx := bits_xor_u32 v d (by omega) (by omega)
      rw [hu] at hx
      have hu1 : u < 4294967296 := by rw [← hu]; exact Nat.xor_lt_two_pow (n := 32) (by omega) (by omega)
      have HU := Lib.hid hu
      clear hu
      have i1 : (k : Int) < (zs.length : Int) := by omega
      go_wp2
      go_loop [3, 17] (fun sx si => ∃ (i y : Nat), i ≤ 8 ∧ si = .int .i64 i ∧ sx = .int .u32 y ∧ y < 4294967296 ∧ Hid (y = crcBits i u)) (fun _ si => 8 - (intOf si).toNat)
      case atStart => exact ⟨0, u, by omega, rfl, rfl, hu1, rfl⟩
      case round =>
        obtain ⟨i, y, hi, rfl, rfl, hy, HY⟩ := hrel
        by_cases h8 : i < 8
        · have ha := bits_and_u32 y 1 (by omega) (by omega)
          rw [show ((1 : Nat) : Int) = 1 from rfl, Nat.and_one_is_mod] at ha
          by_cases hodd : y % 2 = 1
          · rw [hodd, show ((1 : Nat) : Int) = 1 from rfl] at ha
            obtain ⟨q, hq⟩ : ∃ q : Nat, y / 2 = q := ⟨_, rfl⟩
            have hq' : (y : Int) / 2 = (q : Int) := by omega
            obtain ⟨z, hz⟩ : ∃ z : Nat, q ^^^ 3988292384 = z := ⟨_, rfl⟩
            have hx2 := bits_xor_u32 q 3988292384 (by omega) (by omega)
            rw [hz, show ((3988292384 : Nat) : Int) = 3988292384 from rfl] at hx2
            have hz1 : z < 4294967296 := by rw [← hz]; exact Nat.xor_lt_two_pow (n := 32) (by omega) (by omega)
            have HZ : Hid (z = crcBits (i + 1) u) := by
              show z = crcBit (crcBits i u)
              rw [← HY.out]; unfold crcBit; rw [if_pos hodd, hq, hz]
            clear hz hq hodd
            go_wp2
            go_round
            case rel => exact ⟨i + 1, z, by omega, by go_num, rfl, hz1, HZ⟩
            case measure => simp [intOf]; omega
          · rw [show y % 2 = 0 by omega, show ((0 : Nat) : Int) = 0 from rfl] at ha
            obtain ⟨q, hq⟩ : ∃ q : Nat, y / 2 = q := ⟨_, rfl⟩
            have hq' : (y : Int) / 2 = (q : Int) := by omega
            have hq1 : q < 4294967296 := by omega
            have HZ : Hid (q = crcBits (i + 1) u) := by
              show q = crcBit (crcBits i u)
              rw [← HY.out]; unfold crcBit; rw [if_neg hodd, hq]
            clear hq hodd
            go_wp2
            go_round
            case rel => exact ⟨i + 1, q, by omega, by go_num, rfl, hq1, HZ⟩
            case measure => simp [intOf]; omega
        · have h8' : i = 8 := by omega
          subst h8'
          have HN : Hid (y = crcRun (zs.take (k + 1))) := by
            show y = crcRun (zs.take (k + 1))
            rw [crcRun_take zs k hlt, HD.out, ← HV.out, HY.out, ← HU.out]; rfl
          go_wp2
          go_round
          case rel => exact ⟨k + 1, y, by omega, by go_num, rfl, hy, HN⟩
          case measure => simp [intOf]; omega
    · have hk2 : k = zs.length := by omega
      subst hk2
      obtain ⟨z, hz⟩ : ∃ z : Nat, v ^^^ 4294967295 = z := ⟨_, rfl⟩
      have hx2 := bits_xor_u32 v 4294967295 (by omega) (by omega)
      rw [hz, show ((4294967295 : Nat) : Int) = 4294967295 from rfl] at hx2
      have hz1 : z < 4294967296 := by rw [← hz]; exact Nat.xor_lt_two_pow (n := 32) (by omega) (by omega)
      have HZ : Hid ((z : Int) = crcOf zs) := by
        show (z : Int) = crcOf zs
        unfold crcOf
        rw [← hz, HV.out, List.take_of_length_le (Nat.le_refl _)]
      clear hz
      go_wp2
      go_ret
      exact ⟨ret_eq (by rw [← HZ.out]; rfl), rfl⟩

end Go.Proofs.Ytdempiibbhfijaa
