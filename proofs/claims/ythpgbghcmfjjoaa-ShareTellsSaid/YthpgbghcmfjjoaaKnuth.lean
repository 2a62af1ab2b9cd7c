/- A digit of a long division: the loop that lowers it, in plain numbers. -/
import Derived.Test.YthpgbghcmfjjoaaNum
namespace Go.Proofs.Ythpgbghcmfjjoaa

/-- The state of the loop: the guess q, what it leaves r. B is 2^32. -/
structure Digit (y1 y0 u u1 q r : Nat) : Prop where
  sum : u = q * y1 + r
  least : (u * 4294967296 + u1) / (y1 * 4294967296 + y0) ≤ q
  most : q ≤ 4294967297
  small : r < 4294967296
  edge : q = 4294967297 → r + y1 < 4294967296
structure DigitIn (y1 y0 u u1 : Nat) : Prop where
  a : 2147483648 ≤ y1
  b : y1 < 4294967296
  c : y0 < 4294967296
  d : u1 < 4294967296
  e : u < y1 * 4294967296 + y0

theorem digit_start {y1 y0 u u1 : Nat} (h : DigitIn y1 y0 u u1) : Digit y1 y0 u u1 (u / y1) (u % y1) := by
  obtain ⟨a, b, c, d, e⟩ := h
  have hp : 0 < y1 := by omega
  have hm := Nat.mod_lt u hp
  have hs := Nat.div_add_mod u y1
  have hc : y1 * (u / y1) = u / y1 * y1 := Nat.mul_comm _ _
  have hq : u / y1 ≤ 4294967297 := by
    have : u / y1 < 4294967298 := by
      rw [Nat.div_lt_iff_lt_mul hp]; omega
    omega
  refine ⟨by omega, ?_, hq, by omega, ?_⟩
  · rw [Nat.le_div_iff_mul_le hp]
    have h1 := Nat.div_mul_le_self (u * 4294967296 + u1) (y1 * 4294967296 + y0)
    generalize (u * 4294967296 + u1) / (y1 * 4294967296 + y0) = t at *
    rw [Nat.mul_add, ← Nat.mul_assoc] at h1
    generalize t * y1 = p at *
    omega
  · intro h1
    rw [h1] at hc hs
    omega

theorem digit_done {y1 y0 u u1 q r : Nat} (h : DigitIn y1 y0 u u1) (s : Digit y1 y0 u u1 q r) (hn : q * y0 ≤ 4294967296 * r + u1) :
    q = (u * 4294967296 + u1) / (y1 * 4294967296 + y0) := by
  have hp : 0 < y1 * 4294967296 + y0 := by have := h.a; omega
  have hl := s.least
  have : q ≤ (u * 4294967296 + u1) / (y1 * 4294967296 + y0) := by
    rw [Nat.le_div_iff_mul_le hp, Nat.mul_add, ← Nat.mul_assoc]
    have := s.sum
    generalize q * y1 = p at *
    generalize q * y0 = p0 at *
    omega
  omega

theorem digit_small {y1 y0 u u1 : Nat} (h : DigitIn y1 y0 u u1) : (u * 4294967296 + u1) / (y1 * 4294967296 + y0) < 4294967296 := by
  have hp : 0 < y1 * 4294967296 + y0 := by have := h.a; omega
  rw [Nat.div_lt_iff_lt_mul hp]
  have := h.e
  have := h.d
  omega

/-- Where the guess is too great it is lowered. -/
theorem digit_lower {y1 y0 u u1 q r : Nat} (h : DigitIn y1 y0 u u1) (s : Digit y1 y0 u u1 q r) (hn : 4294967296 ≤ q ∨ 4294967296 * r + u1 < q * y0) :
    0 < q ∧ u = (q - 1) * y1 + (r + y1) ∧ (u * 4294967296 + u1) / (y1 * 4294967296 + y0) ≤ q - 1 := by
  have hp : 0 < y1 * 4294967296 + y0 := by have := h.a; omega
  have hq : (u * 4294967296 + u1) / (y1 * 4294967296 + y0) < q := by
    rcases hn with hn | hn
    · have := digit_small h; omega
    · rw [Nat.div_lt_iff_lt_mul hp, Nat.mul_add, ← Nat.mul_assoc]
      have := s.sum
      generalize q * y1 = p at *
      generalize q * y0 = p0 at *
      omega
  generalize (u * 4294967296 + u1) / (y1 * 4294967296 + y0) = t at *
  refine ⟨by omega, ?_, by omega⟩
  have h1 := s.sum
  have h2 : q * y1 = (q - 1) * y1 + y1 := by
    obtain ⟨k, rfl⟩ : ∃ k, q = k + 1 := ⟨q - 1, by omega⟩
    rw [Nat.add_mul]; simp
  generalize q * y1 = p at *
  generalize (q - 1) * y1 = p' at *
  omega

/-- .. and the loop goes on .. -/
theorem digit_next {y1 y0 u u1 q r : Nat} (h : DigitIn y1 y0 u u1) (s : Digit y1 y0 u u1 q r) (hn : 4294967296 ≤ q ∨ 4294967296 * r + u1 < q * y0) (hr : r + y1 < 4294967296) :
    Digit y1 y0 u u1 (q - 1) (r + y1) := by
  obtain ⟨h0, h1, h2⟩ := digit_lower h s hn
  exact ⟨h1, h2, by have := s.most; omega, hr, fun e => by have := s.most; omega⟩

/-- .. or is done. -/
theorem digit_break {y1 y0 u u1 q r : Nat} (h : DigitIn y1 y0 u u1) (s : Digit y1 y0 u u1 q r) (hn : 4294967296 ≤ q ∨ 4294967296 * r + u1 < q * y0) (hr : 4294967296 ≤ r + y1) :
    q - 1 = (u * 4294967296 + u1) / (y1 * 4294967296 + y0) := by
  obtain ⟨h0, h1, h2⟩ := digit_lower h s hn
  have hp : 0 < y1 * 4294967296 + y0 := by have := h.a; omega
  have hb : q - 1 ≤ 4294967295 := by
    have := s.most
    by_cases e : q = 4294967297
    · have := s.edge e; omega
    · omega
  have : q - 1 ≤ (u * 4294967296 + u1) / (y1 * 4294967296 + y0) := by
    rw [Nat.le_div_iff_mul_le hp, Nat.mul_add, ← Nat.mul_assoc]
    have h3 : (q - 1) * y0 ≤ 4294967295 * 4294967295 := Nat.mul_le_mul hb (by have := h.c; omega)
    generalize (q - 1) * y1 = p at *
    generalize (q - 1) * y0 = p0 at *
    omega
  omega
end Go.Proofs.Ythpgbghcmfjjoaa
