/- coin: Add, Sub, Mul; which product is below. -/
import Derived.Test.YtpegkojcemggaabCoinC
namespace Go.Proofs.Ytpegkojcemggaab
open Go.RowKit

theorem bl3 {a b c d : World} (h1 : Below a.heap.size a b) (h2 : Below b.heap.size b c) (h3 : Below c.heap.size c d) : Below a.heap.size a d :=
  (h1.trans (h2.mono h1.size)).trans (h3.mono (Nat.le_trans h1.size h2.size))

theorem below_math (x y : Int) : (x < y ↔ (hiOf x < hiOf y ∨ hiOf x = hiOf y ∧ loOf x < loOf y)) := by
  have h1 := hi_lo x
  have h2 := hi_lo y
  have h3 := lo_bd x
  have h4 := lo_bd y
  omega

set_option maxHeartbeats 1000000 in
theorem Capped_c (a b : Int) (ha : InR a) (hb : InR b) (r : Int)
    (hr : r = if a < 0 ∨ b < 0 ∨ 4611686018427387904 < a ∨ 4611686018427387904 < b then 0 else if 4611686018427387904 < a + b then 4611686018427387904 else a + b) (w : World) :
    Calls Try.prog 49 #[.int .i64 a, .int .i64 b] w fun e w' => e = .returned (.int .i64 r) ∧ w = w' := by
  have ⟨a0, a1⟩ := ha
  have ⟨b0, b1⟩ := hb
  clear ha hb
  have Hr := Lib.hid hr; clear hr
  have fin : ∀ x : Int, x = r → Ending.returned (.int .i64 x) = .returned (.int .i64 r) := fun x h => by rw [h]
  by_cases c1 : a < 0
  · go_enter Try.func49, Try.ntmps49
    go_wp2
    go_ret
    exact ⟨fin _ (by rw [Hr.out, if_pos (by omega)]), rfl⟩
  · by_cases c2 : b < 0
    · go_enter Try.func49, Try.ntmps49
      go_wp2
      go_ret
      exact ⟨fin _ (by rw [Hr.out, if_pos (by omega)]), rfl⟩
    · by_cases c3 : 4611686018427387904 < a
      · go_enter Try.func49, Try.ntmps49
        go_wp2
        go_ret
        exact ⟨fin _ (by rw [Hr.out, if_pos (by omega)]), rfl⟩
      · by_cases c4 : 4611686018427387904 < b
        · go_enter Try.func49, Try.ntmps49
          go_wp2
          go_ret
          exact ⟨fin _ (by rw [Hr.out, if_pos (by omega)]), rfl⟩
        · by_cases c5 : 4611686018427387904 - b < a
          · go_enter Try.func49, Try.ntmps49
            go_wp2
            go_ret
            exact ⟨fin _ (by rw [Hr.out, if_neg (by omega), if_pos (by omega)]), rfl⟩
          · go_enter Try.func49, Try.ntmps49
            go_wp2
            go_ret
            exact ⟨fin _ (by rw [Hr.out, if_neg (by omega), if_neg (by omega)]), rfl⟩
end Go.Proofs.Ytpegkojcemggaab
