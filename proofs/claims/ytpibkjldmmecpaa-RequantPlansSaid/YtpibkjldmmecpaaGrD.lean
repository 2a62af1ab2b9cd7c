/- grid: a row's end; how many prices are not above a number. -/
import Derived.Test.YtpibkjldmmecpaaGrC
namespace Go.Proofs.Ytpibkjldmmecpaa
open Go.RowKit

end Go.Proofs.Ytpibkjldmmecpaa
