/- Precision: the specification's function. -/
import Derived.Test.YtelbpgdlcnnabaaCons
namespace Go.Proofs.Ytelbpgdlcnnabaa
open Go.RowKit

end Go.Proofs.Ytelbpgdlcnnabaa
