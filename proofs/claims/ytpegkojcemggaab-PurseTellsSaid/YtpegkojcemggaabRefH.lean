/- The product. -/
import Derived.Test.YtpegkojcemggaabRefG
namespace Go.Proofs.Ytpegkojcemggaab
open Go.RowKit

theorem mod_low (a b k : Nat) : a * (b % 2 ^ (k + 1)) = a * (b % 2 ^ k) + (if b.testBit k then a * 2 ^ k else 0) := by
  rw [low_succ, Nat.mul_add]
  cases b.testBit k <;> simp

end Go.Proofs.Ytpegkojcemggaab
