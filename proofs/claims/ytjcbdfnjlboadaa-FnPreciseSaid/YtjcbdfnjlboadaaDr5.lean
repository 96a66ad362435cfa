/- Draws: l6Near. -/
import Derived.Test.YtjcbdfnjlboadaaDr3
import Derived.Test.YtjcbdfnjlboadaaDr4
import Derived.Test.YtjcbdfnjlboadaaBlB
import Derived.Test.YtjcbdfnjlboadaaRgL
import Derived.Deep.RegionLaw
namespace Go.Proofs.Ytjcbdfnjlboadaa
open Go.RowKit

end Go.Proofs.Ytjcbdfnjlboadaa
