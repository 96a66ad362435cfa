/- The depth of a type: the specification's function and the program's. -/
import Derived.Test.YtlapooclongfoaaPkA
namespace Go.Proofs.Ytlapooclongfoaa
open Go.RowKit

end Go.Proofs.Ytlapooclongfoaa
