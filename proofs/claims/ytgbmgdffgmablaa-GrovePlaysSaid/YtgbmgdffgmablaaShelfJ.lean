/-
  THE SHELF's CONTRACTS AT THIS DUMP.
-/
import Derived.Shelf.Lay
import Derived.Shelf.LaySoft
import Derived.Shelf.SlGeneric
import Derived.Shelf.SlicesE.Compact
import Derived.Shelf.Small.Bits
import Derived.Ground.SlgnProg
import Derived.Ground.NamesProg
import Derived.Test.YtgbmgdffgmablaaProg
namespace Go.Proofs
open Go.Shelf
end Go.Proofs
