/- A slice of bytes converted to a string; strings compared. -/
import Derived.Test.YtdhphfmjekbmjaaDoorProg
import Derived.Test.YtdhphfmjekbmjaaDoorApp
import Derived.Laws.BytesArg
import Derived.Laws.Strings
import Derived.WideShapes
namespace Go.Proofs.YtdhphfmjekbmjaaDoor
open Go.RowKit
set_option linter.unusedVariables false

theorem run_conv {P : Program} (w : World) (src e dst : TypeId) (hs : P.underlying src = some (.slice e)) (he : P.underlying e = some (.int .u8)) (hd : P.underlying dst = some .string)
    (A : Option Addr) (c B : Nat) (zs : List Int) (hr : Rd .u8 w B A zs) : (convert src dst (.slice A zs.length c)).run P w = .ok (.string (strOfNums zs)) w := by
  rcases A with _ | a
  · have h0 : zs = [] := by
      rcases Nat.eq_zero_or_pos zs.length with h | h
      · exact List.eq_nil_of_length_eq_zero h
      · obtain ⟨b, off, h', _⟩ := hr h; cases h'
    subst h0
    exact run_convert_bytes_nil w src e hs he _ c dst hd
  · rcases Nat.eq_zero_or_pos zs.length with h | h
    · obtain rfl := List.eq_nil_of_length_eq_zero h
      have hl : (loadCells a 0).run P w = .ok ((([] : List Int).map (Value.int .u8)).toArray) w := by
        have := run_loadCells_list (P := P) w a [] (fun j v hj => by simp at hj)
        simpa using this
      rw [List.length_nil, run_convert_bytes_string w src dst e _ 0 c hs he hd, run_bytesToString w a 0 c [] hl]
      rfl
    · obtain ⟨b, off, h', _, hc⟩ := hr h
      simp only [Option.some.injEq] at h'
      subst h'
      exact run_convert_bytes_arg w src e hs he b off zs.length c zs rfl hc dst hd

theorem str_same (s s' : ByteArray) : (s.toList == s'.toList) = decide (s = s') := by
  rw [ByteArray.toList_eq, ByteArray.toList_eq]
  by_cases h : s = s'
  · simp [h]
  · have : ¬ s.data.toList = s'.data.toList := fun e => h (WideShapes.bytes_inj e)
    simp only [h, decide_false, beq_eq_false_iff_ne]
    exact this

theorem conv_one (W : World) (x : Int) : (convert 39 9 (.slice (some ⟨W.heap.size, 0, none⟩) 1 1)).run Tryd.prog (W.alloc (.cells #[.int .u8 x] 5)) = .ok (.string (strOfNums [x])) (W.alloc (.cells #[.int .u8 x] 5)) :=
  run_conv (P := Tryd.prog) _ 39 5 9 Tryd.underlying39 Tryd.underlying5 Tryd.underlying9 _ 1 _ [x] (rd_one .u8 W _ x)

end Go.Proofs.YtdhphfmjekbmjaaDoor
