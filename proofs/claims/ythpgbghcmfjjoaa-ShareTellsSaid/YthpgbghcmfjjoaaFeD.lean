/- limits and fees: what is told of a product by a million, rounded. -/
import Derived.Test.YthpgbghcmfjjoaaMem
import Derived.Test.YthpgbghcmfjjoaaCoinN
import Derived.Test.YthpgbghcmfjjoaaFeP
namespace Go.Proofs.Ythpgbghcmfjjoaa

theorem divR_mil {a b : Int} (h : 0 ≤ a * b) (round : Int) (hr : round = 1 ∨ round = 2 ∨ round = 3) : divR a b 1000000 round = (milN (a * b).toNat round : Int) := by
  rw [divR_eq a b 1000000 round false _ (by rw [decide_eq_false (by omega), decide_eq_false (by omega)]; rfl) rfl]
  have e : (a * b).natAbs = (a * b).toNat := by omega
  rw [e]
  generalize (a * b).toNat = p
  rw [if_neg (by simp)]
  unfold milN awayB
  have hc : Int.natAbs 1000000 = 1000000 := rfl
  rw [hc]
  by_cases h0 : p % 1000000 = 0
  · simp [h0]
  · rw [if_neg h0, if_neg h0]
    rcases hr with rfl | rfl | rfl
    · simp
    · simp
    · simp only [if_neg (show ¬ (3 : Int) = 2 by omega), if_neg (show ¬ (3 : Int) = 1 by omega)]
      congr 2
      simp only [Bool.or_eq_true, Bool.and_eq_true, decide_eq_true_eq]
theorem dv_mil {a b : Int} (h : 0 ≤ a * b) (h2 : a * b ≤ 1000000 * 9223372036854775806) (round : Int) (hr : round = 1 ∨ round = 2 ∨ round = 3) :
    dv a b 1000000 round = (milN (a * b).toNat round : Int) ∧ de a b 1000000 round = 0 := by
  have hb := milN_lo (a * b).toNat round
  have hi : InR (divR a b 1000000 round) := by
    rw [divR_mil h round hr]; unfold InR; omega
  rw [dv, de, if_neg (not_not_intro hr), if_neg (not_not_intro hr), if_neg (by omega), if_neg (by omega), tv_in hi, te_in hi, divR_mil h round hr]
  exact ⟨rfl, rfl⟩
theorem dv_down {a b : Int} (h : 0 ≤ a * b) (h2 : a * b ≤ 1000000 * 9223372036854775806) : dv a b 1000000 1 = a * b / 1000000 := by
  rw [(dv_mil h h2 1 (.inl rfl)).1]
  have : milN (a * b).toNat 1 = (a * b).toNat / 1000000 := by
    unfold milN
    split
    · rfl
    · simp
  rw [this]
  omega
theorem de_wrong {a b c round : Int} (hr : ¬ (round = 1 ∨ round = 2 ∨ round = 3)) : dv a b c round = 0 ∧ de a b c round = 2 := by
  rw [dv, de, if_pos hr, if_pos hr]; exact ⟨rfl, rfl⟩
/-- What coin tells of a fee whose numbers may be. -/
theorem dv_fee {n p round : Int} (h1 : 0 ≤ n) (h2 : n ≤ 4611686018427387904) (h3 : 0 ≤ p) (h4 : p ≤ 100000) : dv n p 1000000 round = feeN n p round ∧ de n p 1000000 round = feeE n p round := by
  unfold feeN feeE
  by_cases hr : round = 1 ∨ round = 2 ∨ round = 3
  · rw [if_pos ⟨h1, h2, h3, h4, hr⟩, if_pos ⟨h1, h2, h3, h4, hr⟩]
    have hp : n * p ≤ n * 100000 := Int.mul_le_mul_of_nonneg_left h4 h1
    exact dv_mil (Int.mul_nonneg h1 h3) (by omega) round hr
  · rw [if_neg (fun x => hr x.2.2.2.2), if_neg (fun x => hr x.2.2.2.2)]
    exact de_wrong hr
end Go.Proofs.Ythpgbghcmfjjoaa
