/- slices.Sort at uint64, of 12 or fewer; slices.Compact. -/
import Derived.Test.YtailiaobbgikfaaSuA
import Derived.Test.YtailiaobbgikfaaShelfJ
namespace Go.Proofs.Ytailiaobbgikfaa
open Go.RowKit Go.Sort Go.Lib Go.Shelf

end Go.Proofs.Ytailiaobbgikfaa
