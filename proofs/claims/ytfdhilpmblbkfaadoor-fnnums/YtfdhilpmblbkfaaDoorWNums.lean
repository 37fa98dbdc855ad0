/- The walk of the law FnNums. -/
import Derived.Test.YtfdhilpmblbkfaaDoorTexts
import Derived.Test.YtfdhilpmblbkfaaDoorMakes
import Derived.Test.YtfdhilpmblbkfaaDoorPutNums
import Derived.Test.YtfdhilpmblbkfaaDoorGetNums
import Derived.Test.YtfdhilpmblbkfaaDoorRoundMath
namespace Go.Proofs.YtfdhilpmblbkfaaDoor
open Go.RowKit
set_option linter.unusedVariables false

theorem bytes_enc (n : Nat) : Bytes (enc n) := by
  intro j
  by_cases hj : j < (enc n).length
  · have := enc_bytes n (enc n)[j] (List.getElem_mem hj)
    simpa [hj] using this
  · simp [hj]
theorem bytes_of_mem {l : List Int} (h : ∀ x ∈ l, 0 ≤ x ∧ x ≤ 255) : Bytes l := by
  intro j
  by_cases hj : j < l.length
  · have := h l[j] (List.getElem_mem hj)
    simpa [hj] using this
  · simp [hj]
theorem encs_mem (ns : List Int) : ∀ x ∈ encs ns, 0 ≤ x ∧ x ≤ 255 := by
  intro x hx
  unfold encs at hx
  rw [List.mem_flatten] at hx
  obtain ⟨l, hl, hx⟩ := hx
  obtain ⟨n, _, rfl⟩ := List.mem_map.1 hl
  exact enc_bytes _ x hx

set_option maxRecDepth 100000 in
set_option maxHeartbeats 4000000 in
theorem wNums (A : Option Addr) (c : Nat) (zs : List Int) (w : World) (ht : Tab10 w) (hr : Rd .u8 w w.heap.size A zs) (hb : Bytes zs) (hml : zs.length ≤ maxLen) :
    Calls Tryd.prog 3 #[.slice A zs.length c] w fun e w' => e = .returned (.bool true) ∧ Below w.heap.size w w' := by
  unfold maxLen at hml
  by_cases hbig : 1048576 < zs.length
  · have i0 : (1048576 : Int) < (zs.length : Int) := by omega
    go_enter Tryd.func3, Tryd.ntmps3
    go_wp2
    go_ret
    exact ⟨rfl, Below.refl _ _⟩
  · have hm : zs.length ≤ 1048576 := by omega
    go_enter Tryd.func3, Tryd.ntmps3
    go_wp2_with fail
    refine (makeNums_any A c zs 70000 w hr hb hm (by omega) (by omega)).mono ?_
    rintro e w1 ⟨v1, l, rfl, ho1, hall, hlen, hb1⟩
    have hN := allNum hall (by omega)
    have OS1 := OS.mk_ ho1
    obtain ⟨A1, c1, rfl, hc1, hc1', hr1⟩ := own_form ho1
    -- the bytes
    obtain ⟨E, hE⟩ : ∃ E, encs ((l.length : Int) :: l) = E := ⟨_, rfl⟩
    have hP : putsL [] ((l.length : Int) :: l) = E := by rw [putsL_true ((all_cons (by omega)).trans hN), ← hE]; rfl
    have hA : ((l.length : Int) :: l).all numB = true := (all_cons (by omega)).trans hN
    have hEl : E.length ≤ 16777216 := by
      have := encs_len _ hA
      rw [hE, List.length_cons] at this
      omega
    have hEb : Bytes E := by rw [← hE]; exact bytes_of_mem (encs_mem _)
    have HG : Hid (getNums E 0 (l.length : Int) = some (l, (E.length : Int))) := by
      show _ = _
      rw [← hE]; exact getNums_puts l hN (by omega)
    have HP := Lib.hid hP
    have HA := Lib.hid hA
    clear hE hP hA ho1 hall hN
    go_wp2_with fail
    refine (iPutNums_any none A1 0 c1 [] l w1 Rd.nil hr1 (by simp) (by omega)).mono ?_
    rintro e w2 ⟨v2, rfl, ho2, hb2⟩
    rw [HP.out] at ho2
    rw [HA.out]
    have B2 := hb1.trans (hb2.mono hb1.size)
    have OS2 := OS1.below hb2
    have OE2 := OS.mk_ ho2
    obtain ⟨A2, c2, rfl, hc2, hc2', hr2⟩ := own_form ho2
    clear ho2 OS1
    go_wp2_with fail
    refine (iGetNums_any A2 c2 E 0 (l.length : Int) w2 hr2 hEb (by omega) hc2 hc2' (by omega) (by omega) _ HG).mono ?_
    rintro e w3 ⟨v3, rfl, ho3, hb3⟩
    have ho3' : OS .i64 3 w3 w2.heap.size w3.heap.size v3 l := ho3
    have B3 := B2.trans (hb3.mono B2.size)
    have OS3 := OS2.below hb3
    obtain ⟨A3, c3, rfl, hc3, hc3', hr3⟩ := ho3'.rd
    clear ho3 OS2 OE2
    rw [show numsP (some (l, (E.length : Int))) = (E.length : Int) from rfl, show (some (l, (E.length : Int))).isSome = true from rfl]
    -- one number
    go_wp2_with fail
    refine (makeNum_any A c zs 1000000 w3 ((hr.below B3).more B3.size) hb hm (by omega) (by omega)).mono ?_
    rintro e w4 ⟨x, rfl, hx1, hx2, hb4⟩
    have B4 := B3.trans (hb4.mono B3.size)
    have OS4 := OS3.below hb4
    have OT4 := ho3'.below hb4
    clear OS3 ho3' hr3 hr1 hr2
    obtain ⟨N, rfl⟩ : ∃ N : Nat, x = (N : Int) := ⟨x.toNat, by omega⟩
    have hN1 : N ≤ 1125899906842624 := by omega
    obtain ⟨F, hF⟩ : ∃ F, [(7 : Int)] ++ enc N = F := ⟨_, rfl⟩
    have hPF : putL [7] (N : Int) = F := by unfold putL; rw [if_pos (numB_true.2 (by omega)), Int.toNat_natCast, hF]
    have hFl : F.length ≤ 9 := by rw [← hF, List.length_append]; have := enc_len8 N hN1; simp; omega
    have hFb : Bytes F := by
      rw [← hF]
      apply bytes_of_mem
      intro y hy
      rcases List.mem_append.1 hy with h1 | h1
      · simp at h1; omega
      · exact enc_bytes N y h1
    have HGF : Hid (getVal F 1 = .tuple #[.int .i64 (N : Int), .int .i64 (F.length : Int), .bool true]) := by
      show _ = _
      have h1 := getNum_enc [7] [] N hN1
      rw [List.append_nil, hF, show (([7] : List Int).length : Int) = 1 from rfl] at h1
      rw [getVal_some h1, ← hF]
      simp [Int.add_comm]
    have HPF := Lib.hid hPF
    have HB := Lib.hid (numB_true.2 (show (0 : Int) ≤ (N : Int) ∧ (N : Int) ≤ 1125899906842624 by omega))
    clear hF hPF
    have h7 : Rd .u8 (w4.alloc (.cells #[.int .u8 7] 5)) (w4.alloc (.cells #[.int .u8 7] 5)).heap.size (some ⟨w4.heap.size, 0, none⟩) [7] := (rd_one .u8 w4 _ 7).more (by simp)
    have hb5 : Below w4.heap.size w4 (w4.alloc (.cells #[.int .u8 7] 5)) := (Below.refl _ _).alloc (Nat.le_refl _) _
    go_wp2_with fail
    refine (iPutNum_any (some ⟨w4.heap.size, 0, none⟩) 1 [7] (N : Int) _ h7 (by simp)).mono ?_
    rintro e w6 ⟨v6, rfl, ho6, hb6⟩
    rw [HPF.out] at ho6
    rw [HB.out]
    have hb46 : Below w4.heap.size w4 w6 := hb5.trans (hb6.mono (by simp))
    have B6 := B4.trans (hb46.mono B4.size)
    have OS6 := OS4.below hb46
    have OT6 := OT4.below hb46
    obtain ⟨A6, c6, rfl, hc6, hc6', hr6⟩ := own_form ho6
    clear OS4 OT4 h7 hb5 hb6 ho6
    go_wp2_with fail
    refine (iGetNum_any A6 c6 F 1 w6 _ hr6 hFb (by omega) hc6 hc6' (by omega) (by omega)).mono ?_
    rintro e w' ⟨rfl, rfl⟩
    rw [HGF.out]
    -- its text
    go_wp2_with fail
    refine (iNumText_any (N : Int) w6 (ht.below B6) (by omega) (by omega)).mono ?_
    rintro e w7 ⟨rfl, hb7⟩
    have B7 := B6.trans (hb7.mono B6.size)
    have OS7 := OS6.below hb7
    have OT7 := OT6.below hb7
    have HT := Lib.hid (textVal_some (textNum_numText N hN1))
    have hTs := numText_size (N : Int)
    obtain ⟨T, hT⟩ : ∃ T, numText (N : Int) = T := ⟨_, rfl⟩
    rw [hT] at hTs HT
    rw [hT]
    clear OS6 OT6 hT hr6
    go_wp2_with fail
    refine (iTextNum_any T w7 (ht.below B7) (by omega)).mono ?_
    rintro e w8 ⟨rfl, hb8⟩
    rw [HT.out]
    have B8 := B7.trans (hb8.mono B7.size)
    have OS8 := OS7.below hb8
    have OT8 := OT7.below hb8
    clear OS7 OT7
    have r1 := OS8.rd
    have r3 := OT8.rd
    obtain ⟨A1', c1'', e1, _, _, hr1⟩ := r1
    obtain ⟨A3', c3'', e3, _, _, hr3⟩ := r3
    simp only [Value.slice.injEq] at e1 e3
    obtain ⟨rfl, -, rfl⟩ := e1
    obtain ⟨rfl, -, rfl⟩ := e3
    go_wp2
    go_loopw [105] (fun si wr => ∃ k n : Nat, k ≤ l.length ∧ si = .int .i64 k ∧ wr = w8.drewN n) (fun si _ => l.length - (intOf si).toNat)
    case atStart => exact ⟨0, 0, Nat.zero_le _, rfl, rfl⟩
    case round =>
      obtain ⟨k, n, hk, rfl, rfl⟩ := hrel
      by_cases hlt : k < l.length
      · obtain ⟨b, off, rfl, hb', hc⟩ := hr1.at_ hlt
        obtain ⟨b3, off3, rfl, hb3', hc3⟩ := hr3.at_ hlt
        obtain ⟨x, hxe⟩ : ∃ x, x = l.getD k 0 := ⟨_, rfl⟩
        rw [← hxe] at hc hc3
        clear hxe
        have i1 : (k : Int) < (l.length : Int) := by omega
        go_wp2
        go_quiet (fail)
        go_wp2
        go_roundw
        case rel => exact ⟨k + 1, _, by omega, by go_num, rfl⟩
        case measure => simp [intOf]; omega
      · have hk2 : k = l.length := by omega
        subst hk2
        go_wp2
        go_ret
        exact ⟨rfl, bdrew B8 n⟩

end Go.Proofs.YtfdhilpmblbkfaaDoor
