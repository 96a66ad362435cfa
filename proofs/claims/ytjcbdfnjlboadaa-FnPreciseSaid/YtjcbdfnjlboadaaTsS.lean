/- TypeSame, of the specification. -/
import Derived.Test.YtjcbdfnjlboadaaPkA
namespace Go.Proofs.Ytjcbdfnjlboadaa
open Go.RowKit

end Go.Proofs.Ytjcbdfnjlboadaa
