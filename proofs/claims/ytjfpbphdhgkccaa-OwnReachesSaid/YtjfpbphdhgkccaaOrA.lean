/- order: rank, asBuyer, Better; the library's Compare and Or. -/
import Derived.Test.YtjfpbphdhgkccaaMem
namespace Go.Proofs.Ytjfpbphdhgkccaa
open Go.RowKit

def rkN (s : Int) : Int := if s = 1 then 0 else if s = 2 then 1 else 2
/-- Is the price a better than b? -/
def betN (s a b : Int) : Bool := (s == 1 && decide (b < a)) || (s == 2 && decide (a < b))
def croN (s a b : Int) : Bool := (s == 1 && decide (b ≤ a)) || (s == 2 && decide (a ≤ b))
def cmpN (a b : Int) : Int := if a < b then -1 else if b < a then 1 else 0
end Go.Proofs.Ytjfpbphdhgkccaa
