/- coin: the product of two numbers of 64 bits. -/
import Derived.Test.YtpegkojcemggaabCoinB
namespace Go.Proofs.Ytpegkojcemggaab
open Go.RowKit

theorem ret_two {k k' : IntKind} {a b c d : Int} (h : a = b) (h' : c = d) : Ending.returned (.tuple #[.int k a, .int k' c]) = .returned (.tuple #[.int k b, .int k' d]) := by rw [h, h']

theorem times_rm {a b : Int} (ha : InR a) (hb : InR b) : Rm (a * b) := by
  have h1 : a.natAbs ≤ 2 ^ 63 := by unfold InR at ha; omega
  have h2 : b.natAbs ≤ 2 ^ 63 := by unfold InR at hb; omega
  have h := Nat.mul_le_mul h1 h2
  rw [← Int.natAbs_mul] at h
  unfold Rm
  omega
theorem times_neg {a b : Int} (ha : InR a) (hb : InR b) : Rm (-(a * b)) := by
  have h1 : a.natAbs ≤ 2 ^ 63 := by unfold InR at ha; omega
  have h2 : b.natAbs ≤ 2 ^ 63 := by unfold InR at hb; omega
  have h := Nat.mul_le_mul h1 h2
  rw [← Int.natAbs_mul] at h
  unfold Rm
  omega
theorem times_math (a b : Int) (ha : InR a) (hb : InR b) (h l : Int) (hh : h = IntKind.u64.wrap a * IntKind.u64.wrap b / 18446744073709551616) (hl : l = IntKind.u64.wrap a * IntKind.u64.wrap b % 18446744073709551616) :
    l = loOf (a * b) ∧
    (0 ≤ a → 0 ≤ b → wrap64 h = hiOf (a * b)) ∧ (a < 0 → 0 ≤ b → wrap64 (wrap64 h - b) = hiOf (a * b)) ∧
    (0 ≤ a → b < 0 → wrap64 (wrap64 h - a) = hiOf (a * b)) ∧ (a < 0 → b < 0 → wrap64 (wrap64 (wrap64 h - b) - a) = hiOf (a * b)) := by
  have hr := times_rm ha hb
  have hb' := hi_bd hr
  have hz := hi_lo (a * b)
  have hlo := lo_bd (a * b)
  have wa : IntKind.u64.wrap a = if a < 0 then a + 18446744073709551616 else a := by rw [IntKind.wrap_u64]; unfold InR at ha; split <;> omega
  have wb : IntKind.u64.wrap b = if b < 0 then b + 18446744073709551616 else b := by rw [IntKind.wrap_u64]; unfold InR at hb; split <;> omega
  rw [wa, wb] at hh hl
  clear wa wb
  have key : (if a < 0 then a + 18446744073709551616 else a) * (if b < 0 then b + 18446744073709551616 else b) = a * b + 18446744073709551616 * ((if a < 0 then b else 0) + (if b < 0 then a else 0) + (if a < 0 then (if b < 0 then 18446744073709551616 else 0) else 0)) := by
    split <;> split <;> grind
  rw [key] at hh hl
  clear key hr
  generalize hiOf (a * b) = H at *
  generalize loOf (a * b) = L at *
  generalize a * b = p at *
  unfold InR at ha hb
  unfold wrap64
  refine ⟨?_, ?_, ?_, ?_, ?_⟩
  · omega
  · intro h1 h2
    rw [if_neg (by omega), if_neg (by omega), if_neg (by omega)] at hh
    omega
  · intro h1 h2
    rw [if_pos h1, if_neg (by omega), if_pos h1, if_neg (by omega)] at hh
    omega
  · intro h1 h2
    rw [if_neg (by omega), if_pos h2, if_neg (by omega)] at hh
    omega
  · intro h1 h2
    rw [if_pos h1, if_pos h2, if_pos h1, if_pos h2] at hh
    omega

end Go.Proofs.Ytpegkojcemggaab
