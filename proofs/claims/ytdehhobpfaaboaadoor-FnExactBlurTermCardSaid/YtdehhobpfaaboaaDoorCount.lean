/- Counting the unknown parts of a type: the specification's function and the program's. -/
import Derived.Test.YtdehhobpfaaboaaDoorPkA
namespace Go.Proofs.YtdehhobpfaaboaaDoor
open Go.RowKit

end Go.Proofs.YtdehhobpfaaboaaDoor
