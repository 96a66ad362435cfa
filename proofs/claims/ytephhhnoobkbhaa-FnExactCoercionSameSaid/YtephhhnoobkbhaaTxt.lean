/- The specification's FormatType. -/
import Derived.Test.YtephhhnoobkbhaaTx0
namespace Go.Proofs.Ytephhhnoobkbhaa
open Go.RowKit

end Go.Proofs.Ytephhhnoobkbhaa
