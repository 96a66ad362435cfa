/- Precision: the specification's function. -/
import Derived.Test.YtdnnfgbhmaoabaaCons
namespace Go.Proofs.Ytdnnfgbhmaoabaa
open Go.RowKit

end Go.Proofs.Ytdnnfgbhmaoabaa
