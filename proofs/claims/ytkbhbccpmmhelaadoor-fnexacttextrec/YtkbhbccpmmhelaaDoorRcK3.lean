/- Records out of texts: impl.TextRec. Laid by a program of ours (src/rck.py). -/
import Derived.Test.YtkbhbccpmmhelaaDoorRcK2
import Derived.Test.YtkbhbccpmmhelaaDoorRcV2
import Derived.Test.YtkbhbccpmmhelaaDoorRSt
namespace Go.Proofs.YtkbhbccpmmhelaaDoor
open Go.RowKit
set_option linter.unusedVariables false
set_option linter.unusedSimpArgs false

theorem textNo1 {s : ByteArray} {ws : List ByteArray} (hw : splitL s 32 = ws) (h : okT ws = false) : textRecB s = false ∧ textRec s = recZ := by
  have e : textRecB s = false := by rw [textB_eq, hw, h]; rfl
  exact ⟨e, textRec_no e⟩
theorem textNo2 {s : ByteArray} {ws : List ByteArray} {r : MRec} (hw : splitL s 32 = ws) (h : recOf ws = r) (ho : recOkB r = false) : textRecB s = false ∧ textRec s = recZ := by
  have e : textRecB s = false := by rw [textB_eq, hw, h, ho]; simp
  exact ⟨e, textRec_no e⟩
theorem textYes {s : ByteArray} {ws : List ByteArray} {r : MRec} (hw : splitL s 32 = ws) (h : recOf ws = r) (ht : okT ws = true) (ho : recOkB r = true) : textRecB s = true ∧ textRec s = r := by
  have e : textRecB s = true := by rw [textB_eq, hw, h, ho, ht]; rfl
  exact ⟨e, by rw [textRec_yes e, hw, h]⟩
theorem textNo0 {s : ByteArray} {ws : List ByteArray} (hw : splitL s 32 = ws) (hk : kindTo (ws.getD 0 ByteArray.empty) 9 = 0) : textRecB s = false ∧ textRec s = recZ :=
  textNo2 hw rfl (recOk_kind (by rw [recOf_kind, hk]; decide))
set_option maxHeartbeats 1000000 in
/-- no fields: the words stay -/
theorem iRead_none {w : World} {B0 : Nat} {v : Value} {ws : List ByteArray} (h : WS w B0 v ws) : Calls Tryd.prog 27 #[v, .slice none 0 0] w fun e w' => ∃ v', e = .returned (.tuple #[v', .bool true]) ∧ WS w' B0 v' ws ∧ w = w' := by
  have h' := h
  obtain ⟨A, c, rfl, hc1, hc2, hr⟩ := h'
  have hdr := run_wdrop A c 0 ws.length 0 rfl (Nat.zero_le _)
  have hWD := h.drop (n := 0) (Nat.zero_le _)
  have i1 : ¬ ((ws.length : Int) < 0) := by omega
  generalize (if c = 0 then A else A.map (·.add (0 * 1))) = X at hdr hWD
  go_enter Tryd.func27, Tryd.ntmps27
  go_wp2_with fail
  refine wp_loop_rounds 1 ?_
  rw [rounds_succ]
  go_wp2
  go_ret2
  exact ⟨_, rfl, hWD, rfl⟩

end Go.Proofs.YtkbhbccpmmhelaaDoor
