/- slices.swapRangeCmpFunc. -/
import Derived.Test.YtgbmgdffgmablaaSrM
namespace Go.Proofs.Ytgbmgdffgmablaa
open Go.RowKit Go.Sort Go.Lib Go.Shelf

end Go.Proofs.Ytgbmgdffgmablaa
