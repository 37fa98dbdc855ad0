/- The impl's contracts of chapter 6, gathered. -/
import Derived.Test.YtpaodpkgpajboaaBxI4
namespace Go.Proofs.Ytpaodpkgpajboaa

end Go.Proofs.Ytpaodpkgpajboaa
