/- grid: Index; a price's step; whether it is on the grid; the next ones. -/
import Derived.Test.YtpibkjldmmecpaaGrD
import Derived.Deep.RegionHeld3
namespace Go.Proofs.Ytpibkjldmmecpaa
open Go.RowKit

theorem F_inj {t : List Tk} (h : Good t) {i j : Nat} (hi : i < t.length) (hj : j < t.length) (he : F t i = F t j) : i = j := by
  rcases Nat.lt_trichotomy i j with h1 | h1 | h1
  · have := h.lt h1 hj; omega
  · exact h1
  · have := h.lt h1 hi; omega

theorem below_drewN {B : Nat} {a w : World} (h : Below B a w) (n : Nat) : Below B a (w.drewN n) := ⟨h.os, h.tape, h.output, h.size, h.block⟩

end Go.Proofs.Ytpibkjldmmecpaa
