/- The depth of a type: the specification's function and the program's. -/
import Derived.Test.YtdnnfgbhmaoabaaPkA
namespace Go.Proofs.Ytdnnfgbhmaoabaa
open Go.RowKit

end Go.Proofs.Ytdnnfgbhmaoabaa
