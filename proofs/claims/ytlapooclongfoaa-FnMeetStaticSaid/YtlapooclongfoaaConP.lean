/- Precision: the specification's function. -/
import Derived.Test.YtlapooclongfoaaCons
namespace Go.Proofs.Ytlapooclongfoaa
open Go.RowKit

end Go.Proofs.Ytlapooclongfoaa
