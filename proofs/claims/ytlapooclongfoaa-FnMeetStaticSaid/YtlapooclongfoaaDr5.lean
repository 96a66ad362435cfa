/- Draws: l6Near. -/
import Derived.Test.YtlapooclongfoaaDr3
import Derived.Test.YtlapooclongfoaaDr4
import Derived.Test.YtlapooclongfoaaBlB
import Derived.Test.YtlapooclongfoaaRgL
import Derived.Deep.RegionLaw
namespace Go.Proofs.Ytlapooclongfoaa
open Go.RowKit

end Go.Proofs.Ytlapooclongfoaa
