/- slices.Sort at uint64, of 12 or fewer; slices.Compact. -/
import Derived.Test.YtgbmgdffgmablaaSuA
import Derived.Test.YtgbmgdffgmablaaShelfJ
namespace Go.Proofs.Ytgbmgdffgmablaa
open Go.RowKit Go.Sort Go.Lib Go.Shelf

end Go.Proofs.Ytgbmgdffgmablaa
