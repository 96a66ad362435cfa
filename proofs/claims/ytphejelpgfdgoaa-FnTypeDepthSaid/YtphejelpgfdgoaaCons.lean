/- Consistency and precision as plain functions, and the specification's functions. -/
import Derived.Test.YtphejelpgfdgoaaPkA
import Derived.StillTailTactics
namespace Go.Proofs.Ytphejelpgfdgoaa
open Go.RowKit

end Go.Proofs.Ytphejelpgfdgoaa
