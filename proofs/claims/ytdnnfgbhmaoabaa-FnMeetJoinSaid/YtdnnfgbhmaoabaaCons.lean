/- Consistency and precision as plain functions, and the specification's functions. -/
import Derived.Test.YtdnnfgbhmaoabaaPkA
import Derived.StillTailTactics
namespace Go.Proofs.Ytdnnfgbhmaoabaa
open Go.RowKit

end Go.Proofs.Ytdnnfgbhmaoabaa
