/- The specification's TermTypes. -/
import Derived.Test.YtgekfnodmgkdaaaDoorTysM
namespace Go.Proofs.YtgekfnodmgkdaaaDoor
open Go.RowKit

/-- The document's TermTypes. -/
def tyLst (t : Tm) : List Ty := if vldM t then tysOf t else []

end Go.Proofs.YtgekfnodmgkdaaaDoor
