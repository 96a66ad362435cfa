/- Draws: l6Near. -/
import Derived.Test.YtdnnfgbhmaoabaaDr3
import Derived.Test.YtdnnfgbhmaoabaaDr4
import Derived.Test.YtdnnfgbhmaoabaaBlB
import Derived.Test.YtdnnfgbhmaoabaaRgL
import Derived.Deep.RegionLaw
namespace Go.Proofs.Ytdnnfgbhmaoabaa
open Go.RowKit

end Go.Proofs.Ytdnnfgbhmaoabaa
