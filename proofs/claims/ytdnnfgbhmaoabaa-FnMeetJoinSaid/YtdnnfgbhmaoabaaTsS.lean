/- TypeSame, of the specification. -/
import Derived.Test.YtdnnfgbhmaoabaaPkA
namespace Go.Proofs.Ytdnnfgbhmaoabaa
open Go.RowKit

end Go.Proofs.Ytdnnfgbhmaoabaa
