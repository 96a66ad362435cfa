/- The program's IsStatic. -/
import Derived.Test.YtdehhobpfaaboaaDoorPkA
import Derived.Test.YtdehhobpfaaboaaDoorCount
namespace Go.Proofs.YtdehhobpfaaboaaDoor
open Go.RowKit

def staOf (t : Ty) : Bool := vld t && (cntAny t == 0)

end Go.Proofs.YtdehhobpfaaboaaDoor
