/- The reference's quotient, rounded: any numbers. -/
import Derived.Test.YthpgbghcmfjjoaaRefN
import Derived.Test.YthpgbghcmfjjoaaCoinN
namespace Go.Proofs.Ythpgbghcmfjjoaa
open Go.RowKit

set_option maxHeartbeats 4000000 in
set_option maxRecDepth 100000 in
theorem refDiv_wrong (a b c round : Int) (hround : ¬ (round = 1 ∨ round = 2 ∨ round = 3)) (w : World) :
    Calls Try.prog 17 #[.int .i64 a, .int .i64 b, .int .i64 c, .int .i64 round] w fun e w' => e = .returned (.tuple #[.int .i64 0, .int .i64 2]) ∧ Below w.heap.size w w' := by
  by_cases h : round < 1
  · clear hround
    go_enter Try.func17, Try.ntmps17
    go_wp2_with fail
    go_ret2
    first | exact ⟨rfl, Below.refl _ _⟩ | exact Below.refl _ _
  · have h1 : 1 ≤ round := by omega
    have h3 : 3 < round := by omega
    clear hround h
    go_enter Try.func17, Try.ntmps17
    go_wp2_with fail
    go_ret2
    first | exact ⟨rfl, Below.refl _ _⟩ | exact Below.refl _ _

set_option maxHeartbeats 4000000 in
set_option maxRecDepth 100000 in
theorem refDiv_zero (a b round : Int) (h1 : 1 ≤ round) (h3 : round ≤ 3) (w : World) :
    Calls Try.prog 17 #[.int .i64 a, .int .i64 b, .int .i64 0, .int .i64 round] w fun e w' => e = .returned (.tuple #[.int .i64 0, .int .i64 11]) ∧ Below w.heap.size w w' := by
  go_enter Try.func17, Try.ntmps17
  go_wp2_with fail
  go_ret2
  first | exact ⟨rfl, Below.refl _ _⟩ | exact Below.refl _ _

theorem refDiv_any (a b c round : Int) (ha : InR a) (hb : InR b) (hc : InR c) (w : World) :
    Calls Try.prog 17 #[.int .i64 a, .int .i64 b, .int .i64 c, .int .i64 round] w fun e w' => e = .returned (.tuple #[.int .i64 (dv a b c round), .int .i64 (de a b c round)]) ∧ Below w.heap.size w w' := by
  by_cases hround : round = 1 ∨ round = 2 ∨ round = 3
  · have hnn : ¬ ¬ (round = 1 ∨ round = 2 ∨ round = 3) := fun h => h hround
    by_cases hc0 : c = 0
    · rw [dv, de, if_neg hnn, if_neg hnn, if_pos hc0, if_pos hc0, hc0]; exact refDiv_zero a b round (by omega) (by omega) w
    · rw [dv, de, if_neg hnn, if_neg hnn, if_neg hc0, if_neg hc0]
      have hm := mul_rng ha hb
      refine refDiv_core a b c round (a * b).natAbs c.natAbs _ _ (decide (a * b < 0)) (decide (c < 0)) (decide (a * b < 0) != decide (c < 0)) (decide ((a * b).natAbs / c.natAbs % 2 = 1)) _ (divR a b c round) ha hb hc hround (by simp [hc0]) ?_ rfl rfl (by omega) (by unfold InR at hc; omega) (by omega) rfl rfl (divR_eq a b c round _ _ rfl rfl) rfl ?_ w
      · cases decide (a * b < 0) <;> cases decide (c < 0) <;> rfl
      · show ∀ w, _
        intro w
        exact Times_z a b ha hb w
  · rw [dv, de, if_pos hround, if_pos hround]; exact refDiv_wrong a b c round hround w
end Go.Proofs.Ythpgbghcmfjjoaa
