/- TypeSame, of the specification. -/
import Derived.Test.YtlapooclongfoaaPkA
namespace Go.Proofs.Ytlapooclongfoaa
open Go.RowKit

end Go.Proofs.Ytlapooclongfoaa
