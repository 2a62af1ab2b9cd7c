/- slices.swapRangeCmpFunc. -/
import Derived.Test.YtailiaobbgikfaaSrM
namespace Go.Proofs.Ytailiaobbgikfaa
open Go.RowKit Go.Sort Go.Lib Go.Shelf

end Go.Proofs.Ytailiaobbgikfaa
