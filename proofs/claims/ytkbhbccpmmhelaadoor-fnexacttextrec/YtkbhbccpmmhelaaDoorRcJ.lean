/- The impl's contracts of chapter 11 that need the tables, gathered; impl.TextRec. -/
import Derived.Test.YtkbhbccpmmhelaaDoorRcJ0
import Derived.Test.YtkbhbccpmmhelaaDoorRcK4
import Derived.Test.YtkbhbccpmmhelaaDoorRcK5
import Derived.Test.YtkbhbccpmmhelaaDoorRcK6
import Derived.Test.YtkbhbccpmmhelaaDoorRcK7
import Derived.Test.YtkbhbccpmmhelaaDoorRc8
import Derived.Test.YtkbhbccpmmhelaaDoorRc6
import Derived.Test.YtkbhbccpmmhelaaDoorBunR
import Derived.Test.YtkbhbccpmmhelaaDoorRc4
namespace Go.Proofs.YtkbhbccpmmhelaaDoor
open Go.RowKit

theorem iTextRec_c {w : World} (ht : Tab10 w) (s : ByteArray) (hs : s.size ≤ 1048576) : Calls Tryd.prog 9 #[.string s] w (NewVB recL w (textRec s) (textRecB s)) := by
  have hKr := kindTo_range ((splitL s 32).getD 0 ByteArray.empty) 9
  have h10 : kindTo ((splitL s 32).getD 0 ByteArray.empty) 9 = 0 ∨ kindTo ((splitL s 32).getD 0 ByteArray.empty) 9 = 1 ∨ kindTo ((splitL s 32).getD 0 ByteArray.empty) 9 = 2 ∨ kindTo ((splitL s 32).getD 0 ByteArray.empty) 9 = 3 ∨ kindTo ((splitL s 32).getD 0 ByteArray.empty) 9 = 4 ∨ kindTo ((splitL s 32).getD 0 ByteArray.empty) 9 = 5 ∨ kindTo ((splitL s 32).getD 0 ByteArray.empty) 9 = 6 ∨ kindTo ((splitL s 32).getD 0 ByteArray.empty) 9 = 7 ∨ kindTo ((splitL s 32).getD 0 ByteArray.empty) 9 = 8 ∨ kindTo ((splitL s 32).getD 0 ByteArray.empty) 9 = 9 := by omega
  rcases h10 with h | h | h | h | h | h | h | h | h | h
  · exact iText_0 ht s hs h
  · exact iText_1 ht s hs h
  · exact iText_2 ht s hs h
  · exact iText_3 ht s hs h
  · exact iText_4 ht s hs h
  · exact iText_5 ht s hs h
  · exact iText_6 ht s hs h
  · exact iText_7 ht s hs h
  · exact iText_8 ht s hs h
  · exact iText_9 ht s hs h

end Go.Proofs.YtkbhbccpmmhelaaDoor
