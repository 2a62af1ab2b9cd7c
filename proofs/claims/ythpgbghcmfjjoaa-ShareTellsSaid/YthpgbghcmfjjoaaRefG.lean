/- The other sign; both together. -/
import Derived.Test.YthpgbghcmfjjoaaRefA
import Derived.Test.YthpgbghcmfjjoaaRefB
import Derived.Test.YthpgbghcmfjjoaaRefC
import Derived.Test.YthpgbghcmfjjoaaRefD
import Derived.Test.YthpgbghcmfjjoaaRefE
import Derived.Test.YthpgbghcmfjjoaaRefF
namespace Go.Proofs.Ythpgbghcmfjjoaa
open Go.RowKit

/-- A whole number as a row of bits and a sign. -/
def NZ (x : Int) : Array Value := NC x.natAbs (decide (x < 0))
end Go.Proofs.Ythpgbghcmfjjoaa
