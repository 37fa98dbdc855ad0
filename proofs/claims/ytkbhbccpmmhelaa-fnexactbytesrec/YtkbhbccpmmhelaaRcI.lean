/- The impl's contracts of chapter 11 that need no tables, gathered. -/
import Derived.Test.YtkbhbccpmmhelaaRcV2
import Derived.Test.YtkbhbccpmmhelaaRc4
import Derived.Test.YtkbhbccpmmhelaaBunR
namespace Go.Proofs.Ytkbhbccpmmhelaa

end Go.Proofs.Ytkbhbccpmmhelaa
