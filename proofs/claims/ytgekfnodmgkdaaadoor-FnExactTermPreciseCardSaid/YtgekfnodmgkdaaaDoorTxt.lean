/- The specification's FormatType. -/
import Derived.Test.YtgekfnodmgkdaaaDoorTx0
namespace Go.Proofs.YtgekfnodmgkdaaaDoor
open Go.RowKit

end Go.Proofs.YtgekfnodmgkdaaaDoor
