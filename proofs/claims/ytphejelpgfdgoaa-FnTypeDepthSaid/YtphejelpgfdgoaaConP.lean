/- Precision: the specification's function. -/
import Derived.Test.YtphejelpgfdgoaaCons
namespace Go.Proofs.Ytphejelpgfdgoaa
open Go.RowKit

end Go.Proofs.Ytphejelpgfdgoaa
