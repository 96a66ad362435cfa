/- strconv.Itoa, laid at this seat's own numbers. -/
import Derived.Shelf.Strconv.Itoa3
import Derived.Test.YtgekfnodmgkdaaaPkA
namespace Go.Proofs.Ytgekfnodmgkdaaa
open Go.Shelf Go.RowKit

end Go.Proofs.Ytgekfnodmgkdaaa
