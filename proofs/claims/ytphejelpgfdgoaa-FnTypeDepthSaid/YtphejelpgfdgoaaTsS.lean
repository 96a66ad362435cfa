/- TypeSame, of the specification. -/
import Derived.Test.YtphejelpgfdgoaaPkA
namespace Go.Proofs.Ytphejelpgfdgoaa
open Go.RowKit

end Go.Proofs.Ytphejelpgfdgoaa
