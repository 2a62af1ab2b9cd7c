/- coin: a product by a number, rounded the way 2: given what the calls below tell. -/
import Derived.Test.YtpegkojcemggaabCoinF
namespace Go.Proofs.Ytpegkojcemggaab
open Go.RowKit

end Go.Proofs.Ytpegkojcemggaab
