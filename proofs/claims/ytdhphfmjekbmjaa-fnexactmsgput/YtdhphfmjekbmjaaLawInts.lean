/- The same words for slices of integers. -/
import Derived.Test.YtdhphfmjekbmjaaLaw
import Derived.Test.YtdhphfmjekbmjaaInts
namespace Go.Proofs.Ytdhphfmjekbmjaa
open Go.RowKit
set_option linter.unusedVariables false

end Go.Proofs.Ytdhphfmjekbmjaa
