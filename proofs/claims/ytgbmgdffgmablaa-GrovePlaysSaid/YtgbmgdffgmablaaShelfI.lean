/-
  THE SHELF's CONTRACTS AT THIS DUMP.
-/
import Derived.Shelf.Lay
import Derived.Shelf.LaySoft
import Derived.Shelf.SlGeneric
import Derived.Shelf.SlSortCmp.InsertionK
import Derived.Shelf.SlicesE.Clone
import Derived.Ground.SlsfProg
import Derived.Ground.SlgnProg
import Derived.Test.YtgbmgdffgmablaaProg
namespace Go.Proofs
open Go.Shelf
end Go.Proofs
