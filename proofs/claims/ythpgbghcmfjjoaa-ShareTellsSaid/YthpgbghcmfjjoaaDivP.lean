/- Plain numbers of a long division by two digits: wraps, shifts, and what both digits make. -/
import Derived.Test.YthpgbghcmfjjoaaKnuth
import Derived.Lib.BitFns
import Derived.Laws.Bits64b
import Derived.Deep.DeepCutAuto
namespace Go.Proofs.Ythpgbghcmfjjoaa

theorem wrapN (x : Int) : ∃ c : Nat, IntKind.u64.wrap x = (c : Int) ∧ (c : Int) = x % 18446744073709551616 ∧ c < 18446744073709551616 := by
  refine ⟨(x % 18446744073709551616).toNat, ?_, ?_, ?_⟩
  · rw [IntKind.wrap_u64]; omega
  · omega
  · omega

/-- The digit that is told, and what is left. -/
theorem left_of {y1 y0 u u1 c1 c2 c3 c4 Y t : Nat} (h : DigitIn y1 y0 u u1) (hY : Y = y1 * 4294967296 + y0) (ht : t = (u * 4294967296 + u1) / Y) (hY2 : Y < 18446744073709551616)
    (h1 : (c1 : Int) = ((u : Int) * 4294967296) % 18446744073709551616) (h2 : (c2 : Int) = ((c1 : Int) + u1) % 18446744073709551616) (h3 : (c3 : Int) = ((t : Int) * Y) % 18446744073709551616) (h4 : (c4 : Int) = ((c2 : Int) - c3) % 18446744073709551616) :
    c4 = (u * 4294967296 + u1) % Y := by
  have hp : 0 < Y := by have := h.a; omega
  have hm := Nat.mod_lt (u * 4294967296 + u1) hp
  have hd := Nat.div_add_mod (u * 4294967296 + u1) Y
  rw [← ht, Nat.mul_comm Y t] at hd
  generalize (u * 4294967296 + u1) % Y = m at *
  have e : (t : Int) * (Y : Int) = ((t * Y : Nat) : Int) := (Int.natCast_mul _ _).symm
  rw [e] at h3
  generalize t * Y = p at *
  omega

/-- The second digit's state, behind the first. -/
theorem digit_second {y1 y0 u u1 u0 : Nat} (h : DigitIn y1 y0 u u1) (h0 : u0 < 4294967296) : DigitIn y1 y0 ((u * 4294967296 + u1) % (y1 * 4294967296 + y0)) u0 :=
  ⟨h.a, h.b, h.c, h0, Nat.mod_lt _ (by have := h.a; omega)⟩

/-- Both digits, and what is left, are those of the number without the shift. -/
theorem both_of {hi lo y s Y u v u1 u0 t1 m t0 m0 : Nat} (hY : Y = y * 2 ^ s) (hp : 0 < y)
    (hu : u = (hi * 18446744073709551616 + lo) * 2 ^ s / 18446744073709551616) (hv : v = (hi * 18446744073709551616 + lo) * 2 ^ s % 18446744073709551616)
    (h1 : u1 = v / 4294967296) (h0 : u0 = v % 4294967296)
    (ht1 : t1 = (u * 4294967296 + u1) / Y) (hm : m = (u * 4294967296 + u1) % Y) (ht0 : t0 = (m * 4294967296 + u0) / Y) (hm0 : m0 = (m * 4294967296 + u0) % Y) :
    t1 * 4294967296 + t0 = (hi * 18446744073709551616 + lo) / y ∧ m0 / 2 ^ s = (hi * 18446744073709551616 + lo) % y := by
  have hq : 0 < 2 ^ s := Nat.two_pow_pos s
  have hYp : 0 < Y := by rw [hY]; exact Nat.mul_pos hp hq
  obtain ⟨n, hn⟩ : ∃ n, n = hi * 18446744073709551616 + lo := ⟨_, rfl⟩
  rw [← hn] at hu hv ⊢
  have e1 := Nat.div_add_mod (n * 2 ^ s) 18446744073709551616
  have e2 := Nat.div_add_mod (u * 4294967296 + u1) Y
  have e3 := Nat.div_add_mod (m * 4294967296 + u0) Y
  have l3 := Nat.mod_lt (m * 4294967296 + u0) hYp
  rw [← ht1, ← hm] at e2
  rw [← ht0, ← hm0] at e3
  rw [← hm0] at l3
  rw [← hu, ← hv] at e1
  have key : n * 2 ^ s = Y * (t1 * 4294967296 + t0) + m0 := by
    rw [Nat.mul_add, ← Nat.mul_assoc]
    generalize Y * t1 = p1 at *
    generalize Y * t0 = p0 at *
    omega
  have dq : (n * 2 ^ s) / Y = t1 * 4294967296 + t0 := by
    rw [key, Nat.mul_add_div hYp, Nat.div_eq_of_lt l3, Nat.add_zero]
  have dm : (n * 2 ^ s) % Y = m0 := by
    rw [key, Nat.mul_add_mod, Nat.mod_eq_of_lt l3]
  rw [hY, Nat.mul_div_mul_right _ _ hq] at dq
  rw [hY, Nat.mul_mod_mul_right] at dm
  exact ⟨dq.symm, by rw [← dm, Nat.mul_div_cancel _ hq]⟩

theorem aux_bounds : ∀ f x : Nat, x < 2 ^ f → x ≠ 0 → 0 < Lib.bitLenAux f x ∧ 2 ^ (Lib.bitLenAux f x - 1) ≤ x ∧ x < 2 ^ Lib.bitLenAux f x
  | 0, x => fun h h0 => by simp at h; omega
  | f + 1, x => fun h h0 => by
    simp only [Lib.bitLenAux, if_neg h0]
    by_cases h1 : x / 2 = 0
    · have : x = 1 := by omega
      subst this
      cases f <;> simp [Lib.bitLenAux]
    · obtain ⟨a, b, c⟩ := aux_bounds f (x / 2) (by rw [Nat.pow_succ] at h; omega) h1
      generalize Lib.bitLenAux f (x / 2) = k at *
      obtain ⟨j, rfl⟩ : ∃ j, k = j + 1 := ⟨k - 1, by omega⟩
      have e : 1 + (j + 1) - 1 = j + 1 := by omega
      have e2 : 1 + (j + 1) = (j + 1) + 1 := by omega
      rw [e, e2, Nat.pow_succ 2 (j + 1), Nat.pow_succ 2 j]
      rw [Nat.pow_succ] at c
      simp only [Nat.add_sub_cancel] at b
      generalize 2 ^ j = p at *
      omega

/-- The shift of Div64, in plain numbers. -/
theorem shift_bits {y s : Nat} (hp : 0 < y) (hy : y < 2 ^ 64) (hs : s = 64 - Lib.bitLen y) : s < 64 ∧ 2 ^ 63 ≤ y * 2 ^ s ∧ y * 2 ^ s < 2 ^ 64 := by
  obtain ⟨a, b, c⟩ := aux_bounds 64 y hy (by omega)
  have hl := Lib.bitLen_le y 64 (by omega) hy
  have hs' : s = 64 - Lib.bitLenAux 64 y := hs
  have hl' : Lib.bitLenAux 64 y ≤ 64 := hl
  clear hs hl
  generalize Lib.bitLenAux 64 y = k at *
  refine ⟨by omega, ?_, ?_⟩
  · have : 2 ^ 63 = 2 ^ (k - 1) * 2 ^ s := by rw [← Nat.pow_add]; congr 1; omega
    rw [this]
    exact Nat.mul_le_mul_right _ b
  · have : 2 ^ 64 = 2 ^ k * 2 ^ s := by rw [← Nat.pow_add]; congr 1; omega
    rw [this]
    exact Nat.mul_lt_mul_of_pos_right c (Nat.two_pow_pos s)

theorem and_low {v : Nat} (hv : v < 18446744073709551616) : bits .and .u64 (v : Int) 4294967295 = ((v % 4294967296 : Nat) : Int) := by
  have := bits_and_u64_nat v 4294967295 hv (by omega)
  rw [show ((4294967295 : Nat) : Int) = 4294967295 from rfl] at this
  rw [this]
  have e := Nat.and_two_pow_sub_one_eq_mod v 32
  rw [show (2 : Nat) ^ 32 - 1 = 4294967295 from rfl, show (2 : Nat) ^ 32 = 4294967296 from rfl] at e
  rw [e]

/-- hi and lo, shifted together. -/
theorem or_parts {hi lo s : Nat} (hs : s < 64) (hlo : lo < 18446744073709551616) (hh : hi * 2 ^ s < 18446744073709551616) :
    bits .or .u64 ((hi * 2 ^ s : Nat) : Int) ((lo / 2 ^ (64 - s) : Nat) : Int) = (((hi * 18446744073709551616 + lo) * 2 ^ s / 18446744073709551616 : Nat) : Int) := by
  have hq : 0 < 2 ^ s := Nat.two_pow_pos s
  have hr : 0 < 2 ^ (64 - s) := Nat.two_pow_pos _
  have hB : 18446744073709551616 = 2 ^ (64 - s) * 2 ^ s := by
    rw [← Nat.pow_add, show 64 - s + s = 64 by omega]
  have hL : lo / 2 ^ (64 - s) < 2 ^ s := by
    rw [Nat.div_lt_iff_lt_mul hr, Nat.mul_comm, ← hB]; exact hlo
  have hL2 : lo / 2 ^ (64 - s) < 18446744073709551616 := Nat.lt_of_le_of_lt (Nat.div_le_self _ _) hlo
  rw [bits_or_u64_nat _ _ hh hL2]
  congr 1
  rw [Nat.mul_comm hi, ← Nat.two_pow_add_eq_or_of_lt hL hi]
  have e1 : (hi * 18446744073709551616 + lo) * 2 ^ s = 18446744073709551616 * (2 ^ s * hi) + lo * 2 ^ s := by
    rw [Nat.add_mul, Nat.mul_comm hi, Nat.mul_assoc, Nat.mul_comm hi]
  rw [e1, Nat.mul_add_div (by omega)]
  congr 1
  rw [hB, Nat.mul_div_mul_right _ _ hq]

/-- .. and lo alone, shifted: what is below. -/
theorem low_part {hi lo s : Nat} : lo * 2 ^ s % 18446744073709551616 = (hi * 18446744073709551616 + lo) * 2 ^ s % 18446744073709551616 := by
  have e1 : (hi * 18446744073709551616 + lo) * 2 ^ s = 18446744073709551616 * (2 ^ s * hi) + lo * 2 ^ s := by
    rw [Nat.add_mul, Nat.mul_comm hi, Nat.mul_assoc, Nat.mul_comm hi]
  rw [e1, Nat.mul_add_mod]
end Go.Proofs.Ythpgbghcmfjjoaa
