/- CountAny, of the specification and of the program. -/
import Derived.Test.YtdnnfgbhmaoabaaPkA
import Derived.Test.YtdnnfgbhmaoabaaCount
namespace Go.Proofs.Ytdnnfgbhmaoabaa
open Go.RowKit

def anyOf (t : Ty) : Int := if vld t then cntAny t else 0

end Go.Proofs.Ytdnnfgbhmaoabaa
