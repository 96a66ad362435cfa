/- The specification's FormatType. -/
import Derived.Test.YtgekfnodmgkdaaaTx0
namespace Go.Proofs.Ytgekfnodmgkdaaa
open Go.RowKit

end Go.Proofs.Ytgekfnodmgkdaaa
