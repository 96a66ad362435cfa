/- Precision: the specification's function. -/
import Derived.Test.YthnicmgllhocgaaCons
namespace Go.Proofs.Ythnicmgllhocgaa
open Go.RowKit

end Go.Proofs.Ythnicmgllhocgaa
