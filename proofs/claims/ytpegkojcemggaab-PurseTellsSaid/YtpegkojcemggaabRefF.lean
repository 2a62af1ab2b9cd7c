/- Whether a row of bits is 0; which of two is less; one place up. -/
import Derived.Test.YtpegkojcemggaabRefK
namespace Go.Proofs.Ytpegkojcemggaab
open Go.RowKit

end Go.Proofs.Ytpegkojcemggaab
