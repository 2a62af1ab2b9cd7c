/- slices.Sort at uint64: rows, cmp.Less, insertion. (By mksu.py.) -/
import Derived.Test.YtgbmgdffgmablaaSrP
import Derived.Test.YtgbmgdffgmablaaOrA
import Derived.Shelf.SlSortCmp.Kit1
import Derived.BigRegion
import Derived.Deep.LoopGhost
namespace Go.Proofs.Ytgbmgdffgmablaa
open Go.RowKit Go.Sort Go.Lib Go.Shelf

def eU (z : Int) : Value := .int .u64 z
theorem eU_one : OneCell eU := fun _ => rfl
end Go.Proofs.Ytgbmgdffgmablaa
