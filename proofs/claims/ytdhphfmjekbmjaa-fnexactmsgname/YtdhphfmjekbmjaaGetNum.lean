/- Contracts of spec.GetNum and impl.GetNum: both answer getVal. -/
import Derived.Test.YtdhphfmjekbmjaaProg
import Derived.Test.YtdhphfmjekbmjaaNumMath
import Derived.Test.YtdhphfmjekbmjaaBits
import Derived.Deep.QuietTactic
import Derived.BigQuiet
namespace Go.Proofs.Ytdhphfmjekbmjaa
open Go.RowKit
set_option linter.unusedVariables false

/-- every element is a byte -/
def Bytes (zs : List Int) : Prop := ∀ j, 0 ≤ zs.getD j 0 ∧ zs.getD j 0 ≤ 255

theorem bytes_of_wf {zs : List Int} (h : ∀ n ∈ zs, (Lit.int .u8 n).wf = true) : Bytes zs := by
  intro j
  by_cases hj : j < zs.length
  · have := h zs[j] (List.getElem_mem hj)
    have h2 : 0 ≤ zs[j] ∧ zs[j] ≤ 255 := by simpa [Lit.wf, IntKind.min, IntKind.max, IntKind.signed, IntKind.bits] using this
    simpa [hj] using h2
  · simp [hj]

theorem ret_eq {a b : Value} (h : a = b) : Ending.returned a = .returned b := by rw [h]

set_option maxHeartbeats 1000000 in
theorem sGetNum_any (A : Option Addr) (c : Nat) (zs : List Int) (a : Int) (w : World) (B : Nat) (hr : Rd .u8 w B A zs) (hb : Bytes zs) (hm : zs.length ≤ 1073741824) (ha1 : -9223372036854775808 ≤ a) (ha2 : a ≤ 9223372036854775807) :
    Calls Try.prog 38 #[.slice A zs.length c, .int .i64 a] w fun e w' => e = .returned (getVal zs a) ∧ w = w' := by
  by_cases hneg : a < 0
  · have hn : getVal zs a = .tuple #[.int .i64 0, .int .i64 0, .bool false] := getVal_none (by unfold getNum; rw [if_pos hneg])
    rw [hn]
    clear hn
    go_enter Try.func38, Try.ntmps38
    go_wp2
    go_ret3
    exact ⟨rfl, rfl⟩
  · obtain ⟨t, rfl⟩ : ∃ t : Nat, a = (t : Int) := ⟨a.toNat, by omega⟩
    clear hneg ha1
    go_enter Try.func38, Try.ntmps38
    go_wp2
    go_loop [7, 8, 9] (fun sn sf si => ∃ (j : Nat) (n f : Int), Getting zs t j n ∧ sn = .int .i64 n ∧ sf = .int .i64 f ∧ Hid (f = p128 j) ∧ si = .int .i64 (t + j) ∧ (j = 0 ∨ t + j ≤ zs.length)) (fun _ _ si => 8 + t - (intOf si).toNat)
    case atStart => exact ⟨0, 0, 1, Getting.start zs t, rfl, rfl, rfl, by simp, .inl rfl⟩
    case round =>
      obtain ⟨j, n, f, hg, rfl, rfl, HF, rfl, hj⟩ := hrel
      have hj8 := hg.j8
      by_cases hin : j < 8 ∧ t + j < zs.length
      · obtain ⟨h8, hl⟩ := hin
        obtain ⟨b, off, rfl, hbb, hc⟩ := hr.at_ hl
        obtain ⟨x, hx⟩ : ∃ x, x = zs.getD (t + j) 0 := ⟨_, rfl⟩
        rw [← hx] at hc
        have hx2 := hb (t + j)
        rw [← hx] at hx2
        obtain ⟨hx0, hx255⟩ := hx2
        have HX := Lib.hid hx
        clear hx
        have hp := hg.prod (x := x)
        have hp7 := p128_le (j + 1) (by omega)
        have hf7 := p128_le7 j (by omega)
        have hf0 := p128_pos j
        rw [← HF.out] at hp hf7 hf0
        obtain ⟨hp1, hp2⟩ := hp
        have hp3 : n + x % 128 * f ≤ 72057594037927936 := by omega
        have hlo := hg.lo
        have i1 : ((t : Int) + (j : Int)) < (zs.length : Int) := by omega
        clear hp2 hp7
        have hfe := HF.out
        by_cases hlt : x < 128
        · by_cases hbig : 1125899906842624 < n + x % 128 * f
          · have E := Lib.hid (getVal_none (hg.bad h8 hl HX.out hlt (.inl (by rw [← hfe]; exact hbig))))
            clear hfe
            go_wp2
            go_ret3
            exact ⟨ret_eq E.out.symm, rfl⟩
          · by_cases hz : x = 0 ∧ 0 < j
            · have E := Lib.hid (getVal_none (hg.bad h8 hl HX.out hlt (.inr hz)))
              clear hfe
              obtain ⟨rfl, hj0⟩ := hz
              have i2 : (t : Int) < (t : Int) + (j : Int) := by omega
              go_wp2
              go_ret3
              exact ⟨ret_eq E.out.symm, rfl⟩
            · have E := Lib.hid (getVal_some (hg.good h8 hl HX.out hlt (by rw [← hfe]; omega)))
              rw [← hfe, show (t : Int) + ((j + 1 : Nat) : Int) = (t : Int) + (j : Int) + 1 by omega] at E
              clear hfe
              by_cases hx0 : x = 0
              · have hx1 : (x == 0) = true := by simpa using hx0
                have i2 : decide ((t : Int) < (t : Int) + (j : Int)) = false := by simp; omega
                clear hx0
                go_wp2
                go_ret3
                exact ⟨ret_eq E.out.symm, rfl⟩
              · have hx1 : (x == 0) = false := by simpa using hx0
                go_wp2
                go_ret3
                exact ⟨ret_eq E.out.symm, rfl⟩
        · have G := hg.more h8 hl HX.out hlt
          have F := Lib.hid (show f * 128 = p128 (j + 1) by rw [p128_succ, hfe])
          rw [← hfe] at G
          clear hfe
          go_wp2
          go_round
          case rel => exact ⟨j + 1, _, _, G, rfl, rfl, F, by go_num, by omega⟩
          case measure => simp [intOf]; omega
      · have E := Lib.hid (getVal_none (hg.stop hin))
        by_cases hl : t + j < zs.length
        · have h8 : j = 8 := by omega
          subst h8
          have i1 : ((t : Int) + (8 : Nat)) < (zs.length : Int) := by omega
          go_wp2
          go_ret3
          exact ⟨ret_eq E.out.symm, rfl⟩
        · have i1 : decide (((t : Int) + (j : Nat)) < (zs.length : Int)) = false := by simp; omega
          go_wp2
          go_ret3
          exact ⟨ret_eq E.out.symm, rfl⟩

set_option maxHeartbeats 1000000 in
theorem iGetNum_any (A : Option Addr) (c : Nat) (zs : List Int) (a : Int) (w : World) (B : Nat) (hr : Rd .u8 w B A zs) (hb : Bytes zs) (hm : zs.length ≤ 1073741824) (hcap : zs.length ≤ c) (hcm : c ≤ maxLen) (ha1 : -9223372036854775808 ≤ a) (ha2 : a ≤ 9223372036854775807) :
    Calls Try.prog 31 #[.slice A zs.length c, .int .i64 a] w fun e w' => e = .returned (getVal zs a) ∧ w = w' := by
  by_cases hneg : a < 0
  · have hn : getVal zs a = .tuple #[.int .i64 0, .int .i64 0, .bool false] := getVal_none (by unfold getNum; rw [if_pos hneg])
    rw [hn]
    clear hn
    go_enter Try.func31, Try.ntmps31
    go_wp2
    go_ret3
    exact ⟨rfl, rfl⟩
  · obtain ⟨t, rfl⟩ : ∃ t : Nat, a = (t : Int) := ⟨a.toNat, by omega⟩
    clear hneg ha1
    by_cases hin : t < zs.length
    · unfold maxLen at hcm
      have hne : ¬ c = t := by omega
      obtain ⟨b, off, rfl, hbb, hcells⟩ := hr (by omega)
      go_enter Try.func31, Try.ntmps31
      go_wp2
      go_loop [7, 22] (fun sn si => ∃ (j : Nat) (n : Int), Getting zs t j n ∧ sn = .int .i64 n ∧ si = .int .i64 j ∧ t + j ≤ zs.length) (fun _ si => 8 + t - (intOf si).toNat)
      case atStart => exact ⟨0, 0, Getting.start zs t, rfl, rfl, by omega⟩
      case round =>
        obtain ⟨j, n, hg, rfl, rfl, hj⟩ := hrel
        have hj8 := hg.j8
        by_cases hin : j < 8 ∧ t + j < zs.length
        · obtain ⟨h8, hl⟩ := hin
          have hc := hcells (t + j) hl
          obtain ⟨x, hx⟩ : ∃ x, x = zs.getD (t + j) 0 := ⟨_, rfl⟩
          rw [← hx, ← Nat.add_assoc] at hc
          have hx2 := hb (t + j)
          rw [← hx] at hx2
          obtain ⟨hx0, hx255⟩ := hx2
          have HX := Lib.hid hx
          clear hx
          have i1 : (j : Int) < ((zs.length - t : Nat) : Int) := by omega
          have i3 : ((j : Int) == 8) = false := by simp; omega
          obtain ⟨y, hy⟩ : ∃ y, bits .and .u8 x 127 = y := ⟨_, rfl⟩
          have hy' : y = x % 128 := by rw [← hy]; exact and127 x hx0 hx255
          have hy0 : 0 ≤ y := by omega
          have hy1 : y ≤ 127 := by omega
          obtain ⟨z, hz⟩ : ∃ z, y * 2 ^ (7 * j) = z := ⟨_, rfl⟩
          have hz' := pow_mul_le y j (by omega) hy0 hy1
          rw [hz] at hz'
          obtain ⟨hz0, hz1⟩ := hz'
          obtain ⟨m, hm⟩ : ∃ m, bits .or .i64 n z = m := ⟨_, rfl⟩
          have hmm : m = n + x % 128 * p128 j := by
            rw [← hm, ← hz, ← hy']
            exact or_shift n y j (by omega) hg.lo hg.hi hy0 hy1
          have hp := hg.prod (x := x)
          have hp7 := p128_le (j + 1) (by omega)
          have hlo := hg.lo
          have hm0 : 0 ≤ m := by omega
          have hm1 : m ≤ 72057594037927936 := by omega
          clear hy' hp hp7
          have HM := Lib.hid hmm
          clear hmm
          by_cases hlt : x < 128
          · by_cases hbig : 1125899906842624 < m
            · have E := Lib.hid (getVal_none (hg.bad h8 hl HX.out hlt (.inl (by rw [← HM.out]; exact hbig))))
              go_wp2
              go_ret3
              exact ⟨ret_eq E.out.symm, rfl⟩
            · by_cases hz : x = 0 ∧ 0 < j
              · have E := Lib.hid (getVal_none (hg.bad h8 hl HX.out hlt (.inr hz)))
                obtain ⟨hx0', hj0⟩ := hz
                have hx1 : (x == 0) = true := by simpa using hx0'
                clear hx0'
                go_wp2
                go_ret3
                exact ⟨ret_eq E.out.symm, rfl⟩
              · have E := Lib.hid (getVal_some (hg.good h8 hl HX.out hlt (by rw [← HM.out]; omega)))
                rw [← HM.out, show (t : Int) + ((j + 1 : Nat) : Int) = (t : Int) + (j : Int) + 1 by omega] at E
                by_cases hx0 : x = 0
                · have hx1 : (x == 0) = true := by simpa using hx0
                  have i2 : decide (0 < (j : Int)) = false := by simp; omega
                  have i4 : decide (0 < j) = false := by simp; omega
                  clear hx0
                  go_wp2
                  go_ret3
                  exact ⟨ret_eq E.out.symm, rfl⟩
                · have hx1 : (x == 0) = false := by simpa using hx0
                  go_wp2
                  go_ret3
                  exact ⟨ret_eq E.out.symm, rfl⟩
          · have G := hg.more h8 hl HX.out hlt
            rw [← HM.out] at G
            go_wp2
            go_round
            case rel => exact ⟨j + 1, _, G, rfl, by go_num, by omega⟩
            case measure => simp [intOf]; omega
        · have E := Lib.hid (getVal_none (hg.stop hin))
          by_cases hl : t + j < zs.length
          · have h8 : j = 8 := by omega
            subst h8
            obtain ⟨x, hx⟩ : ∃ x, x = zs.getD (t + 8) 0 := ⟨_, rfl⟩
            have hc := hcells (t + 8) hl
            rw [← hx, ← Nat.add_assoc] at hc
            clear hx
            have i1 : ((8 : Nat) : Int) < ((zs.length - t : Nat) : Int) := by omega
            go_wp2
            go_ret3
            exact ⟨ret_eq E.out.symm, rfl⟩
          · have i1 : decide ((j : Int) < ((zs.length - t : Nat) : Int)) = false := by simp; omega
            have i2 : decide (j < zs.length - t) = false := by simp; omega
            go_wp2
            go_ret3
            exact ⟨ret_eq E.out.symm, rfl⟩
    · have hn : getVal zs t = .tuple #[.int .i64 0, .int .i64 0, .bool false] := getVal_none (by rw [getNum_at, List.drop_eq_nil_of_le (by omega)]; rfl)
      rw [hn]
      clear hn
      have i1 : (zs.length : Int) ≤ (t : Int) := by omega
      go_enter Try.func31, Try.ntmps31
      go_wp2
      go_ret3
      exact ⟨rfl, rfl⟩

end Go.Proofs.Ytdhphfmjekbmjaa
