/- The same words for slices of integers. -/
import Derived.Test.YtfdhilpmblbkfaaDoorLaw
import Derived.Test.YtfdhilpmblbkfaaDoorInts
namespace Go.Proofs.YtfdhilpmblbkfaaDoor
open Go.RowKit
set_option linter.unusedVariables false

end Go.Proofs.YtfdhilpmblbkfaaDoor
