/- Rights: the contracts of impl's functions of chapter 7, all together. -/
import Derived.Test.YtmbipgnecjlicaaRtMath
import Derived.Test.YtmbipgnecjlicaaRt4
import Derived.Test.YtmbipgnecjlicaaRt5
import Derived.Test.YtmbipgnecjlicaaRt6
import Derived.Test.YtmbipgnecjlicaaRt8
import Derived.Test.YtmbipgnecjlicaaRtI1
import Derived.Test.YtmbipgnecjlicaaRtI2
import Derived.Test.YtmbipgnecjlicaaRtI3
import Derived.Test.YtmbipgnecjlicaaRtI4
import Derived.Test.YtmbipgnecjlicaaRtI5
import Derived.Test.YtmbipgnecjlicaaTl8
namespace Go.Proofs.Ytmbipgnecjlicaa

end Go.Proofs.Ytmbipgnecjlicaa
