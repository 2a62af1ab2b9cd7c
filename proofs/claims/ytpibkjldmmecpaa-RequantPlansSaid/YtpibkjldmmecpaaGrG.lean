/- grid: the next price above; how many lie between. -/
import Derived.Test.YtpibkjldmmecpaaGrF
namespace Go.Proofs.Ytpibkjldmmecpaa
open Go.RowKit

theorem Got.after {w w1 w' : World} {v : Value} {e : Ending} (h : Got w1 v e w') (hb : Below w.heap.size w w1) : Got w v e w' := ⟨h.1, hb.trans (h.2.mono hb.size)⟩

end Go.Proofs.Ytpibkjldmmecpaa
