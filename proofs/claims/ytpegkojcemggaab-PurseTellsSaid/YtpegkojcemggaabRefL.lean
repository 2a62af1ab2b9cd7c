/- The reference's sum, difference, product; which of two products is less; a sum that goes no further. -/
import Derived.Test.YtpegkojcemggaabRefJ
import Derived.Test.YtpegkojcemggaabRefH
namespace Go.Proofs.Ytpegkojcemggaab
open Go.RowKit

theorem Of_z (x : Int) (hx : InR x) (w : World) :
    Calls Try.prog 47 #[.int .i64 x] w fun e w' => e = .returned (.agg (NZ x)) ∧ Below w.heap.size w w' := Of_c x hx.1 hx.2 w
theorem Plus_z (x y : Int) (hx : x.natAbs < 2 ^ 135) (hy : y.natAbs < 2 ^ 135) (w : World) :
    Calls Try.prog 46 #[.agg (NZ x), .agg (NZ y)] w fun e w' => e = .returned (.agg (NZ (x + y))) ∧ Below w.heap.size w w' :=
  Plus_n x.natAbs y.natAbs (decide (x < 0)) (decide (y < 0)) (x + y).natAbs (decide (x + y < 0)) hx hy
    (by by_cases h1 : x < 0 <;> by_cases h2 : y < 0 <;> simp [h1, h2] <;> first | omega | (split <;> omega))
    (by
      by_cases h1 : x < 0 <;> by_cases h2 : y < 0 <;> simp [h1, h2]
      · by_cases h3 : x + y = 0 <;> simp [h3] <;> omega
      · by_cases h3 : x.natAbs < y.natAbs <;> by_cases h4 : x + y = 0 <;> simp [h3, h4] <;> omega
      · by_cases h3 : x.natAbs < y.natAbs <;> by_cases h4 : x + y = 0 <;> simp [h3, h4] <;> omega
      · omega) w
theorem mul_rng {x y : Int} (hx : InR x) (hy : InR y) : (x * y).natAbs ≤ 2 ^ 126 := by
  rw [Int.natAbs_mul]
  have h1 : x.natAbs ≤ 2 ^ 63 := by unfold InR at hx; omega
  have h2 : y.natAbs ≤ 2 ^ 63 := by unfold InR at hy; omega
  exact Nat.le_trans (Nat.mul_le_mul h1 h2) (by rw [← Nat.pow_add]; exact Nat.le_refl _)

end Go.Proofs.Ytpegkojcemggaab
