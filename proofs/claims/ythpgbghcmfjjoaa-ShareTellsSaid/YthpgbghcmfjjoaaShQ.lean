/- share, in plain numbers: what follows. -/
import Derived.Test.YthpgbghcmfjjoaaShP
namespace Go.Proofs.Ythpgbghcmfjjoaa
set_option linter.unusedSectionVars false
set_option linter.unusedVariables false
set_option linter.unusedSimpArgs false

/-- What the first k have got. -/
def outS (mode all T lot : Int) (Q : List Int) : Nat → Int
  | 0 => 0
  | k + 1 => outS mode all T lot Q k + outN mode all T lot Q k

section
variable {mode all lot : Int} {Q : List Int} (hl : 1 ≤ lot) (hQ : OkQ Q) (ha : 0 ≤ all) (haT : all ≤ sumT lot Q) (hT : 0 < sumT lot Q)
include hl hQ ha haT hT

theorem p1_rng (k : Nat) (hk : k < Q.length) : 0 ≤ p1 mode all (sumT lot Q) lot (Q.getD k 0) ∧ p1 mode all (sumT lot Q) lot (Q.getD k 0) ≤ trimN lot (Q.getD k 0) := by
  have h := (p1_fits (mode := mode) hl hQ ha haT hT k (by omega)).2 hk
  exact ⟨h.1, h.2.2.1⟩
theorem lef2_rng (k : Nat) (hk : k ≤ Q.length) : 0 ≤ lef2 mode all (sumT lot Q) lot Q k ∧ lef2 mode all (sumT lot Q) lot Q k ≤ all := by
  induction k with
  | zero => have h := (p1_fits (mode := mode) hl hQ ha haT hT Q.length (by omega)).1; exact ⟨h.1, h.2.1⟩
  | succ k ih =>
    have h := ih (by omega)
    have hp := p1_rng (mode := mode) hl hQ ha haT hT k (by omega)
    simp only [lef2]
    omega
theorem outN_rng (k : Nat) (hk : k < Q.length) : 0 ≤ outN mode all (sumT lot Q) lot Q k ∧ outN mode all (sumT lot Q) lot Q k ≤ trimN lot (Q.getD k 0) ∧ p1 mode all (sumT lot Q) lot (Q.getD k 0) ≤ outN mode all (sumT lot Q) lot Q k := by
  have h := lef2_rng (mode := mode) hl hQ ha haT hT k (by omega)
  have hp := p1_rng (mode := mode) hl hQ ha haT hT k hk
  unfold outN
  omega
theorem outS_lef (k : Nat) (hk : k ≤ Q.length) : lef2 mode all (sumT lot Q) lot Q k + outS mode all (sumT lot Q) lot Q k = lef1 mode all (sumT lot Q) lot Q Q.length + (all - lef1 mode all (sumT lot Q) lot Q k) := by
  induction k with
  | zero => simp [lef2, outS, lef1]
  | succ k ih =>
    have h := ih (by omega)
    simp only [lef2, outS, lef1, outN]
    omega
theorem full_or (k : Nat) (hk : k ≤ Q.length) : lef2 mode all (sumT lot Q) lot Q k = 0 ∨ outS mode all (sumT lot Q) lot Q k = sumT lot (Q.take k) := by
  induction k with
  | zero => right; simp [outS, sumT]
  | succ k ih =>
    have hp := p1_rng (mode := mode) hl hQ ha haT hT k (by omega)
    have h2 := lef2_rng (mode := mode) hl hQ ha haT hT k (by omega)
    have e := sumT_take lot Q k (by omega)
    rcases ih (by omega) with h | h
    · left
      simp only [lef2, h]
      omega
    · simp only [lef2, outS, outN, h, e]
      omega
/-- All together get what there is. -/
theorem outS_all : outS mode all (sumT lot Q) lot Q Q.length = all := by
  have h1 := outS_lef (mode := mode) hl hQ ha haT hT Q.length (Nat.le_refl _)
  have h2 := lef2_rng (mode := mode) hl hQ ha haT hT Q.length (Nat.le_refl _)
  rcases full_or (mode := mode) hl hQ ha haT hT Q.length (Nat.le_refl _) with h | h
  · omega
  · rw [List.take_length] at h
    omega
theorem outS_rng (k : Nat) (hk : k ≤ Q.length) : 0 ≤ outS mode all (sumT lot Q) lot Q k ∧ outS mode all (sumT lot Q) lot Q k ≤ sumT lot (Q.take k) := by
  induction k with
  | zero => simp [outS, sumT]
  | succ k ih =>
    have h := ih (by omega)
    have ho := outN_rng (mode := mode) hl hQ ha haT hT k (by omega)
    have e := sumT_take lot Q k (by omega)
    simp only [outS, e]
    omega
/-- Whole lots alone. -/
theorem outN_mod (hm : all % lot = 0) (k : Nat) (hk : k < Q.length) : outN mode all (sumT lot Q) lot Q k % lot = 0 := by
  have p0 : ∀ k, p1 mode all (sumT lot Q) lot (Q.getD k 0) % lot = 0 := by
    intro k
    unfold p1
    split
    · exact trim_mod
    · exact Int.zero_emod _
  have l1 : ∀ k, lef1 mode all (sumT lot Q) lot Q k % lot = 0 := by
    intro k
    induction k with
    | zero => exact hm
    | succ k ih => simp only [lef1]; exact Int.emod_eq_zero_of_dvd (Int.dvd_sub (Int.dvd_of_emod_eq_zero ih) (Int.dvd_of_emod_eq_zero (p0 k)))
  have step : ∀ (k : Nat) (m : Int), m % lot = 0 → min m (trimN lot (Q.getD k 0) - p1 mode all (sumT lot Q) lot (Q.getD k 0)) % lot = 0 := by
    intro k m h
    rw [Int.min_def]
    split
    · exact h
    · exact Int.emod_eq_zero_of_dvd (Int.dvd_sub (Int.dvd_of_emod_eq_zero trim_mod) (Int.dvd_of_emod_eq_zero (p0 k)))
  have l2 : ∀ k, lef2 mode all (sumT lot Q) lot Q k % lot = 0 := by
    intro k
    induction k with
    | zero => exact l1 _
    | succ k ih => simp only [lef2]; exact Int.emod_eq_zero_of_dvd (Int.dvd_sub (Int.dvd_of_emod_eq_zero ih) (Int.dvd_of_emod_eq_zero (step k _ ih)))
  unfold outN
  exact Int.emod_eq_zero_of_dvd (Int.dvd_add (Int.dvd_of_emod_eq_zero (p0 k)) (Int.dvd_of_emod_eq_zero (step k _ (l2 k))))
/-- By share nobody gets less than its part, but for less than a lot. -/
theorem outN_part (hm : mode = 2) (k : Nat) (hk : k < Q.length) : all * trimN lot (Q.getD k 0) / sumT lot Q - outN mode all (sumT lot Q) lot Q k < lot := by
  have ho := (outN_rng (mode := mode) hl hQ ha haT hT k hk).2.2
  have hq := getD_ok hQ k
  have ht := trim_rng hl hq.1
  have hnn : 0 ≤ all * trimN lot (Q.getD k 0) / sumT lot Q := Int.ediv_nonneg (Int.mul_nonneg ha ht.1) (by omega)
  have h1 := trim_rng hl hnn
  unfold p1 at ho
  rw [if_pos hm] at ho
  omega
/-- By time nobody gets something behind one that has something left. -/
theorem outN_time (hm : mode = 1) (k : Nat) (hk : k < Q.length) (j : Nat) (hj : j < k) (h : outN mode all (sumT lot Q) lot Q j < trimN lot (Q.getD j 0)) : outN mode all (sumT lot Q) lot Q k = 0 := by
  have z : ∀ k, p1 mode all (sumT lot Q) lot (Q.getD k 0) = 0 := by intro k; unfold p1; rw [if_neg (by omega)]
  have l : ∀ i, j + 1 + i ≤ Q.length → lef2 mode all (sumT lot Q) lot Q (j + 1 + i) = 0 := by
    intro i
    induction i with
    | zero =>
      intro _
      have h2 := lef2_rng (mode := mode) hl hQ ha haT hT j (by omega)
      unfold outN at h
      simp only [Nat.add_zero, lef2]
      omega
    | succ i ih =>
      intro hi
      have e := ih (by omega)
      have ht := p1_rng (mode := mode) hl hQ ha haT hT (j + 1 + i) (by omega)
      show lef2 mode all (sumT lot Q) lot Q (j + 1 + i + 1) = 0
      simp only [lef2, e]
      omega
  have e := l (k - (j + 1)) (by omega)
  rw [show j + 1 + (k - (j + 1)) = k by omega] at e
  have ht := p1_rng (mode := mode) hl hQ ha haT hT k hk
  unfold outN
  rw [e, z]
  have := z k
  omega
end
theorem sumT_mod (lot : Int) (Q : List Int) : sumT lot Q % lot = 0 := by
  induction Q with
  | nil => exact Int.zero_emod _
  | cons q Q ih => exact Int.emod_eq_zero_of_dvd (Int.dvd_add (Int.dvd_of_emod_eq_zero trim_mod) (Int.dvd_of_emod_eq_zero ih))
theorem allN_mod (lot qty : Int) (Q : List Int) : allN lot qty (sumT lot Q) % lot = 0 := by
  unfold allN
  rw [Int.min_def]
  split
  · exact trim_mod
  · exact sumT_mod _ _
theorem trim_own {lot q : Int} (h : 1 ≤ lot) (hq : 0 ≤ q) : q - q % lot = trimN lot q := by
  by_cases h1 : q < 1
  · have : q = 0 := by omega
    subst this
    rw [trim_no (.inr (by omega)), Int.zero_emod]; rfl
  · exact (trim_bd (lot := lot) (qty := q) h (by omega)).2.2.2.2.symm
end Go.Proofs.Ythpgbghcmfjjoaa
