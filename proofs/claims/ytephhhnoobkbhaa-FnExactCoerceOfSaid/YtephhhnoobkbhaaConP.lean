/- Precision: the specification's function. -/
import Derived.Test.YtephhhnoobkbhaaCons
namespace Go.Proofs.Ytephhhnoobkbhaa
open Go.RowKit

end Go.Proofs.Ytephhhnoobkbhaa
