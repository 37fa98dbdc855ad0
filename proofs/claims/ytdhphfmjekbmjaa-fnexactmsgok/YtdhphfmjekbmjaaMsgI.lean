/- The impl's contracts of chapter 5, gathered. -/
import Derived.Test.YtdhphfmjekbmjaaMsgI0
import Derived.Test.YtdhphfmjekbmjaaMsgI1
import Derived.Test.YtdhphfmjekbmjaaMsgI2
import Derived.Test.YtdhphfmjekbmjaaMsgI3
namespace Go.Proofs.Ytdhphfmjekbmjaa

end Go.Proofs.Ytdhphfmjekbmjaa
