/- The reference's sum, difference, product; which of two products is less; a sum that goes no further. -/
import Derived.Test.YthpgbghcmfjjoaaRefJ
import Derived.Test.YthpgbghcmfjjoaaRefH
namespace Go.Proofs.Ythpgbghcmfjjoaa
open Go.RowKit

theorem Of_z (x : Int) (hx : InR x) (w : World) :
    Calls Try.prog 27 #[.int .i64 x] w fun e w' => e = .returned (.agg (NZ x)) ∧ Below w.heap.size w w' := Of_c x hx.1 hx.2 w
theorem Times_z (x y : Int) (hx : InR x) (hy : InR y) (w : World) :
    Calls Try.prog 26 #[.agg (NZ x), .agg (NZ y)] w fun e w' => e = .returned (.agg (NZ (x * y))) ∧ Below w.heap.size w w' :=
  Times_n x.natAbs y.natAbs (decide (x < 0)) (decide (y < 0)) (x * y).natAbs (decide (x * y < 0)) (by unfold InR at hx; omega) (by unfold InR at hy; omega)
    (Int.natAbs_mul x y)
    (by
      by_cases h0 : x = 0
      · subst h0; simp
      · by_cases h1 : y = 0
        · subst h1; simp
        · have hne : x * y ≠ 0 := Int.mul_ne_zero h0 h1
          rcases Int.lt_or_gt_of_ne h0 with a | a <;> rcases Int.lt_or_gt_of_ne h1 with b | b
          · have := Int.mul_pos_of_neg_of_neg a b; simp [a, b, hne]; omega
          · have := Int.mul_neg_of_neg_of_pos a b; simp [a, hne, show ¬ y < 0 by omega, this]
          · have := Int.mul_neg_of_pos_of_neg a b; simp [b, hne, show ¬ x < 0 by omega, this]
          · have := Int.mul_pos a b; simp [show ¬ x < 0 by omega, show ¬ y < 0 by omega]; omega) w
theorem mul_rng {x y : Int} (hx : InR x) (hy : InR y) : (x * y).natAbs ≤ 2 ^ 126 := by
  rw [Int.natAbs_mul]
  have h1 : x.natAbs ≤ 2 ^ 63 := by unfold InR at hx; omega
  have h2 : y.natAbs ≤ 2 ^ 63 := by unfold InR at hy; omega
  exact Nat.le_trans (Nat.mul_le_mul h1 h2) (by rw [← Nat.pow_add]; exact Nat.le_refl _)

end Go.Proofs.Ythpgbghcmfjjoaa
