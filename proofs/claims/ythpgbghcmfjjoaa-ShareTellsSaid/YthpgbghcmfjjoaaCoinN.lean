/- coin: rounded down, up and to the nearest one, in plain numbers. -/
import Derived.Test.YthpgbghcmfjjoaaDivB
namespace Go.Proofs.Ythpgbghcmfjjoaa

theorem tv_bd (x : Int) : InR (tv x) := by unfold tv InR; split <;> omega
theorem dv_in (a b c round : Int) : InR (dv a b c round) := by
  unfold dv
  split
  · unfold InR; omega
  · split
    · unfold InR; omega
    · exact tv_bd _

theorem divR_eq (a b c round : Int) (neg : Bool) (q : Nat) (hneg : neg = (decide (a * b < 0) != decide (c < 0))) (hq : q = (a * b).natAbs / c.natAbs) :
    divR a b c round = if neg then -((q + if awayB round neg (decide (q % 2 = 1)) ((a * b).natAbs % c.natAbs) c.natAbs then 1 else 0 : Nat) : Int) else ((q + if awayB round neg (decide (q % 2 = 1)) ((a * b).natAbs % c.natAbs) c.natAbs then 1 else 0 : Nat) : Int) := by
  rw [hneg, hq]; rfl

theorem near_R (a b c : Int) : 0 ≤ divR a b c 2 - divR a b c 1 ∧ divR a b c 2 - divR a b c 1 ≤ 1 ∧ (divR a b c 3 = divR a b c 1 ∨ divR a b c 3 = divR a b c 2) := by
  obtain ⟨neg, hneg⟩ : ∃ neg, neg = (decide (a * b < 0) != decide (c < 0)) := ⟨_, rfl⟩
  obtain ⟨q, hq⟩ : ∃ q, q = (a * b).natAbs / c.natAbs := ⟨_, rfl⟩
  rw [divR_eq a b c 1 neg q hneg hq, divR_eq a b c 2 neg q hneg hq, divR_eq a b c 3 neg q hneg hq]
  clear hneg hq
  generalize (a * b).natAbs % c.natAbs = r
  generalize decide (q % 2 = 1) = odd
  by_cases hr : r = 0
  · have h : ∀ round, awayB round neg odd r c.natAbs = false := fun round => by unfold awayB; rw [if_pos hr]
    rw [h 1, h 2, h 3]
    cases neg <;> simp
  · have h1 : awayB 1 neg odd r c.natAbs = neg := by unfold awayB; rw [if_neg hr]; simp
    have h2 : awayB 2 neg odd r c.natAbs = !neg := by unfold awayB; rw [if_neg hr]; simp
    rw [h1, h2]
    cases awayB 3 neg odd r c.natAbs <;> cases neg <;> simp <;> omega

/-- An error, or all three are near. -/
theorem near_of {a b c x e y f z g : Int} (hx : x = dv a b c 1) (he : e = de a b c 1) (hy : y = dv a b c 2) (hf : f = de a b c 2) (hz : z = dv a b c 3) (hg : g = de a b c 3) :
    (e ≠ 0 ∨ f ≠ 0) ∨ e = 0 ∧ f = 0 ∧ 0 ≤ y - x ∧ y - x ≤ 1 ∧ g = 0 ∧ (z = x ∨ z = y) := by
  have hn := near_R a b c
  rw [dv, if_neg (by simp)] at hx hy hz
  rw [de, if_neg (by simp)] at he hf hg
  by_cases hc : c = 0
  · rw [if_pos hc] at he; left; left; omega
  · rw [if_neg hc] at hx hy hz he hf hg
    generalize divR a b c 1 = u at *
    generalize divR a b c 2 = v at *
    generalize divR a b c 3 = t at *
    by_cases hu : InR u
    · by_cases hv : InR v
      · have ht : InR t := by rcases hn.2.2 with h | h <;> rw [h] <;> assumption
        rw [tv_in hu] at hx; rw [te_in hu] at he; rw [tv_in hv] at hy; rw [te_in hv] at hf; rw [tv_in ht] at hz; rw [te_in ht] at hg
        right; omega
      · rw [te_out hv] at hf; left; right; omega
    · rw [te_out hu] at he; left; left; omega
end Go.Proofs.Ythpgbghcmfjjoaa
