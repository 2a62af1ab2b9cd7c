/- parcel: the reference's parcel. -/
import Derived.Test.YtpinenfclpapjaaPcF
namespace Go.Proofs.Ytpinenfclpapjaa
open Go.RowKit

end Go.Proofs.Ytpinenfclpapjaa
