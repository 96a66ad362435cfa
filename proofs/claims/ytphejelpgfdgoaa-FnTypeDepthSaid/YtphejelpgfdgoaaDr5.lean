/- Draws: l6Near. -/
import Derived.Test.YtphejelpgfdgoaaDr3
import Derived.Test.YtphejelpgfdgoaaDr4
import Derived.Test.YtphejelpgfdgoaaBlB
import Derived.Test.YtphejelpgfdgoaaRgL
import Derived.Deep.RegionLaw
namespace Go.Proofs.Ytphejelpgfdgoaa
open Go.RowKit

end Go.Proofs.Ytphejelpgfdgoaa
