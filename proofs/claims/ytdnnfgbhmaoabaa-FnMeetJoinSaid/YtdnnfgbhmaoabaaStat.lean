/- IsStatic and TypeDepth, of the specification and of the program. -/
import Derived.Test.YtdnnfgbhmaoabaaPkA
import Derived.Test.YtdnnfgbhmaoabaaCount
import Derived.Test.YtdnnfgbhmaoabaaDep
namespace Go.Proofs.Ytdnnfgbhmaoabaa
open Go.RowKit

def depOf (t : Ty) : Int := if vld t then dep t else 0
def staOf (t : Ty) : Bool := vld t && (cntAny t == 0)

end Go.Proofs.Ytdnnfgbhmaoabaa
