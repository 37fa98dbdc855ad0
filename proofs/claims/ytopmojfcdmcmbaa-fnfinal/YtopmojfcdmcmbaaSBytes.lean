/- Slices of bytes in the words of layouts: marking by blocks, the size's reckoning. -/
import Derived.Test.YtopmojfcdmcmbaaLay
namespace Go.Proofs.Ytopmojfcdmcmbaa
open Go.RowKit
set_option linter.unusedVariables false

def bytesL : Lay (List Int) := intsL .u8 5

/-- what a reckoning of sizes answers -/
def szV (left : Int) (n : Int) : Int := if n ≤ left then left - n else -1

end Go.Proofs.Ytopmojfcdmcmbaa
