/- parcel: memory of the laws. -/
import Derived.Test.YtgbbckjbpgojaaaPcQ
namespace Go.Proofs.Ytgbbckjbpgojaaa
open Go.RowKit
theorem SlB.below {w w' : World} {A : Option Addr} {n : Nat} {l : List UInt8} (h : SlB w A n l) (hb : Below w.heap.size w w') : SlB w' A n l := h.fr0 (S := fun _ => False) (Fr.of_below hb) (fun _ _ _ h => h)
end Go.Proofs.Ytgbbckjbpgojaaa
