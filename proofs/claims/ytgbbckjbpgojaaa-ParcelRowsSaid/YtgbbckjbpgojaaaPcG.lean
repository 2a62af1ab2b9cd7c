/- parcel: the reference's parcel. -/
import Derived.Test.YtgbbckjbpgojaaaPcF
namespace Go.Proofs.Ytgbbckjbpgojaaa
open Go.RowKit

end Go.Proofs.Ytgbbckjbpgojaaa
