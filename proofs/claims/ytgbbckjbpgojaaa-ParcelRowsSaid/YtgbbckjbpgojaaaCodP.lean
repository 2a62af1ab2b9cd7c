/- Numbers as bytes, in plain words: written, and read. No program. -/
import Derived.Test.YtgbbckjbpgojaaaRows
import Derived.WalkKit
import Derived.Lib.Hide
import Derived.Laws.Bits64b
namespace Go.Proofs.Ytgbbckjbpgojaaa

/-- A natural number's bytes. -/
def natB (n : Nat) : List UInt8 := if n < 128 then [UInt8.ofNat n] else UInt8.ofNat (n % 128 + 128) :: natB (n / 128)
termination_by n
decreasing_by omega

theorem natB_small {n : Nat} (h : n < 128) : natB n = [UInt8.ofNat n] := by rw [natB, if_pos h]
theorem natB_big {n : Nat} (h : 128 ≤ n) : natB n = UInt8.ofNat (n % 128 + 128) :: natB (n / 128) := by rw [natB, if_neg (by omega)]

/-- What is read from the place i on, n having been read: the number, and what is left. -/
def natAt : Nat → Nat → List UInt8 → Option (Nat × List UInt8)
  | _, _, [] => none
  | i, n, b :: t =>
    if i = 9 ∧ 1 < b.toNat then none
    else if b.toNat < 128 then (if b.toNat = 0 ∧ i ≠ 0 then none else some (n + b.toNat % 128 * 128 ^ i, t))
    else natAt (i + 1) (n + b.toNat % 128 * 128 ^ i) t

/-- A number that is not above most. -/
def readNat (l : List UInt8) (most : Nat) : Option (Nat × List UInt8) :=
  match natAt 0 0 l with
  | some (n, t) => if n ≤ most then some (n, t) else none
  | none => none

theorem natAt_nil (i n : Nat) : natAt i n [] = none := rfl
theorem natAt_over {i n : Nat} {b : UInt8} {t : List UInt8} (h : i = 9 ∧ 1 < b.toNat) : natAt i n (b :: t) = none := by rw [natAt, if_pos h]
theorem natAt_last {i n : Nat} {b : UInt8} {t : List UInt8} (h : ¬ (i = 9 ∧ 1 < b.toNat)) (hb : b.toNat < 128) (h0 : ¬ (b.toNat = 0 ∧ i ≠ 0)) : natAt i n (b :: t) = some (n + b.toNat * 128 ^ i, t) := by
  rw [natAt, if_neg h, if_pos hb, if_neg h0, Nat.mod_eq_of_lt hb]
theorem natAt_long {i n : Nat} {b : UInt8} {t : List UInt8} (h : ¬ (i = 9 ∧ 1 < b.toNat)) (hb : b.toNat < 128) (h0 : b.toNat = 0 ∧ i ≠ 0) : natAt i n (b :: t) = none := by
  rw [natAt, if_neg h, if_pos hb, if_pos h0]
theorem natAt_more {i n : Nat} {b : UInt8} {t : List UInt8} (h : ¬ (i = 9 ∧ 1 < b.toNat)) (hb : 128 ≤ b.toNat) : natAt i n (b :: t) = natAt (i + 1) (n + (b.toNat - 128) * 128 ^ i) t := by
  have hlt := b.toNat_lt
  rw [natAt, if_neg h, if_neg (by omega), show b.toNat % 128 = b.toNat - 128 by omega]

theorem natAt_bound : ∀ (l : List UInt8) (i n : Nat), i ≤ 9 → n < 128 ^ i → ∀ m t, natAt i n l = some (m, t) → m < 2 ^ 64 ∧ t.length < l.length
  | [], _, _, _, _, _, _, h => by cases h
  | b :: l, i, n, hi, hn, m, t, h => by
    have hlt := b.toNat_lt
    by_cases h9 : i = 9 ∧ 1 < b.toNat
    · rw [natAt_over h9] at h; cases h
    · have hpow : ∀ k, b.toNat ≤ k → n + b.toNat * 128 ^ i < (k + 1) * 128 ^ i := fun k hk => by
        have := Nat.mul_le_mul_right (128 ^ i) hk
        rw [Nat.succ_mul]; omega
      by_cases hb : b.toNat < 128
      · by_cases h0 : b.toNat = 0 ∧ i ≠ 0
        · rw [natAt_long h9 hb h0] at h; cases h
        · rw [natAt_last h9 hb h0] at h
          injection h with h; injection h with h1 h2
          subst h1; subst h2
          refine ⟨?_, by simp⟩
          by_cases h10 : i = 9
          · subst h10
            have := hpow 1 (by omega)
            have e : (1 + 1) * 128 ^ 9 = 2 ^ 64 := by decide
            omega
          · have h2 := hpow 127 (by omega)
            have e : (127 + 1) * 128 ^ i = 128 ^ (i + 1) := by rw [Nat.pow_succ, Nat.mul_comm]
            have : 128 ^ (i + 1) ≤ 128 ^ 9 := Nat.pow_le_pow_right (by omega) (by omega)
            have e2 : 128 ^ 9 ≤ 2 ^ 64 := by decide
            omega
      · rw [natAt_more h9 (by omega)] at h
        have h2 := natAt_bound l (i + 1) _ (by omega) (by
          have : (b.toNat - 128) * 128 ^ i ≤ 127 * 128 ^ i := Nat.mul_le_mul_right _ (by omega)
          rw [Nat.pow_succ]; omega) m t h
        exact ⟨h2.1, by have := h2.2; simp; omega⟩

theorem readNat_bound {l : List UInt8} {most n : Nat} {t : List UInt8} (h : readNat l most = some (n, t)) : n ≤ most ∧ n < 2 ^ 64 ∧ t.length < l.length := by
  unfold readNat at h
  cases e : natAt 0 0 l with
  | none => rw [e] at h; cases h
  | some p =>
    obtain ⟨m, u⟩ := p
    rw [e] at h
    simp only at h
    split at h
    · injection h with h; injection h with h1 h2
      subst h1; subst h2
      have := natAt_bound l 0 0 (by omega) (by simp) _ _ e
      exact ⟨by assumption, this.1, this.2⟩
    · cases h

theorem ofNat_toNat {n : Nat} (h : n < 256) : (UInt8.ofNat n).toNat = n := by simp [UInt8.toNat_ofNat', Nat.mod_eq_of_lt h]

/-- What was written is read, whatever stands behind. -/
theorem natAt_natB : ∀ (n i a : Nat) (t : List UInt8), i ≤ 9 → a < 128 ^ i → (0 < i → 0 < n) → a + n * 128 ^ i < 2 ^ 64 → natAt i a (natB n ++ t) = some (a + n * 128 ^ i, t) := by
  intro n
  induction n using Nat.strongRecOn with
  | ind n ih =>
    intro i a t hi ha h0 hlt
    have h9 : i = 9 → n ≤ 1 := by
      rintro rfl
      have e : 2 ^ 64 = 2 * 128 ^ 9 := by decide
      rw [e] at hlt
      have : n * 128 ^ 9 < 2 * 128 ^ 9 := by omega
      have := Nat.lt_of_mul_lt_mul_right this
      omega
    by_cases hn : n < 128
    · rw [natB_small hn, List.singleton_append]
      have e : (UInt8.ofNat n).toNat = n := ofNat_toNat (by omega)
      rw [natAt_last (by rw [e]; intro h; have := h9 h.1; omega) (by rw [e]; omega) (by rw [e]; intro h; have := h0 (by omega); omega), e]
    · rw [natB_big (by omega), List.cons_append]
      have e : (UInt8.ofNat (n % 128 + 128)).toNat = n % 128 + 128 := ofNat_toNat (by omega)
      have hi9 : i ≠ 9 := fun h => by have := h9 h; omega
      rw [natAt_more (by intro h; exact hi9 h.1) (by rw [e]; omega), e]
      have e2 : n % 128 + 128 - 128 = n % 128 := by omega
      rw [e2]
      have e3 : a + n % 128 * 128 ^ i + n / 128 * 128 ^ (i + 1) = a + n * 128 ^ i := by
        have hd := Nat.div_add_mod n 128
        have : n * 128 ^ i = (128 * (n / 128) + n % 128) * 128 ^ i := by rw [hd]
        rw [this, Nat.add_mul, Nat.pow_succ, Nat.mul_comm 128 (n / 128), Nat.mul_assoc, Nat.mul_comm 128 (128 ^ i)]
        omega
      have ha2 : a + n % 128 * 128 ^ i < 128 ^ (i + 1) := by
        have : n % 128 * 128 ^ i ≤ 127 * 128 ^ i := Nat.mul_le_mul_right _ (by omega)
        rw [Nat.pow_succ]; omega
      rw [ih (n / 128) (by omega) (i + 1) _ t (by omega) ha2 (by intro _; omega) (by rw [e3]; exact hlt), e3]

/-- What is read, written again, is those bytes. -/
theorem natB_natAt : ∀ (l : List UInt8) (i a : Nat) (m : Nat) (t : List UInt8), natAt i a l = some (m, t) → ∃ n, m = a + n * 128 ^ i ∧ l = natB n ++ t ∧ (0 < i → 0 < n)
  | [], _, _, _, _, h => by cases h
  | b :: l, i, a, m, t, h => by
    have hlt := b.toNat_lt
    by_cases h9 : i = 9 ∧ 1 < b.toNat
    · rw [natAt_over h9] at h; cases h
    · by_cases hb : b.toNat < 128
      · by_cases h0 : b.toNat = 0 ∧ i ≠ 0
        · rw [natAt_long h9 hb h0] at h; cases h
        · rw [natAt_last h9 hb h0] at h
          injection h with h; injection h with h1 h2
          subst h1; subst h2
          refine ⟨b.toNat, rfl, ?_, fun hi => ?_⟩
          · rw [natB_small hb, UInt8.ofNat_toNat]; rfl
          · rcases Nat.eq_zero_or_pos b.toNat with h | h
            · exact absurd ⟨h, by omega⟩ h0
            · exact h
      · rw [natAt_more h9 (by omega)] at h
        obtain ⟨n, e1, e2, e3⟩ := natB_natAt l (i + 1) _ m t h
        have hn := e3 (by omega)
        refine ⟨b.toNat - 128 + 128 * n, ?_, ?_, fun _ => by omega⟩
        · rw [e1, Nat.add_mul, Nat.pow_succ, Nat.mul_comm 128 n, Nat.mul_assoc, Nat.mul_comm 128 (128 ^ i)]
          omega
        · rw [natB_big (by omega), show (b.toNat - 128 + 128 * n) / 128 = n by omega, show (b.toNat - 128 + 128 * n) % 128 + 128 = b.toNat by omega, UInt8.ofNat_toNat, List.cons_append, e2]

theorem readNat_natB {n most : Nat} (t : List UInt8) (h : n < 2 ^ 64) (hm : n ≤ most) : readNat (natB n ++ t) most = some (n, t) := by
  have := natAt_natB n 0 0 t (by omega) (by simp) (by omega) (by simpa using h)
  unfold readNat
  rw [this]
  simp [hm]
theorem natB_readNat {l t : List UInt8} {n most : Nat} (h : readNat l most = some (n, t)) : l = natB n ++ t := by
  unfold readNat at h
  cases e : natAt 0 0 l with
  | none => rw [e] at h; cases h
  | some p =>
    obtain ⟨m, u⟩ := p
    rw [e] at h
    simp only at h
    split at h
    · injection h with h; injection h with h1 h2
      subst h1; subst h2
      obtain ⟨n, e1, e2, _⟩ := natB_natAt l 0 0 _ _ e
      have : m = n := by simpa using e1
      rw [this]; exact e2
    · cases h

/-- A group joined to what has been read: in bits, and in numbers. -/
theorem join_or {n c i : Nat} (hi : i ≤ 9) (hn : n < 128 ^ i) (hc : c < 128) (h9 : i = 9 → c ≤ 1) :
    n ||| (c * 2 ^ (7 * i)) % 18446744073709551616 = n + c * 128 ^ i ∧ n + c * 128 ^ i < 18446744073709551616 := by
  have hb : c * 128 ^ i + 128 ^ i ≤ 18446744073709551616 := by
    have e9 : (128 : Nat) ^ 9 = 9223372036854775808 := by decide
    by_cases h : i = 9
    · have h1 := Nat.mul_le_mul_right (128 ^ i) (h9 h)
      have hp : 128 ^ i = 9223372036854775808 := by rw [h]
      clear hn h9 e9
      generalize 128 ^ i = p at *
      omega
    · have h1 := Nat.mul_le_mul_right (128 ^ i) (show c ≤ 127 by omega)
      have h2 : 128 ^ (i + 1) ≤ 128 ^ 9 := Nat.pow_le_pow_right (by omega) (by omega)
      rw [Nat.pow_succ, e9] at h2
      clear hn h9 e9
      generalize 128 ^ i = p at *
      omega
  have e : (2 : Nat) ^ (7 * i) = 128 ^ i := by rw [Nat.pow_mul]
  rw [Nat.mod_eq_of_lt (by rw [e]; have := Nat.pow_pos (n := i) (show 0 < 128 by omega); omega), e]
  refine ⟨?_, by omega⟩
  have hn' : n < 2 ^ (7 * i) := by rw [e]; exact hn
  rw [Nat.or_comm, ← e, Nat.mul_comm c, ← Nat.two_pow_add_eq_or_of_lt hn' c]
  omega
end Go.Proofs.Ytgbbckjbpgojaaa
