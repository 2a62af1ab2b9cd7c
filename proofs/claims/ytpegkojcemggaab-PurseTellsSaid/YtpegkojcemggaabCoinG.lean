/- coin: Div. -/
import Derived.Test.YtpegkojcemggaabCoinF1
import Derived.Test.YtpegkojcemggaabCoinF2
import Derived.Test.YtpegkojcemggaabCoinF3
namespace Go.Proofs.Ytpegkojcemggaab
open Go.RowKit

end Go.Proofs.Ytpegkojcemggaab
