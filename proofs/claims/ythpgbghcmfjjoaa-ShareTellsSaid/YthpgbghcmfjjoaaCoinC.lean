/- coin: the product of two numbers of 64 bits. -/
import Derived.Test.YthpgbghcmfjjoaaCoinB
namespace Go.Proofs.Ythpgbghcmfjjoaa
open Go.RowKit

theorem ret_two {k k' : IntKind} {a b c d : Int} (h : a = b) (h' : c = d) : Ending.returned (.tuple #[.int k a, .int k' c]) = .returned (.tuple #[.int k b, .int k' d]) := by rw [h, h']

set_option maxHeartbeats 1000000 in
theorem Mul64_c (x y : Int) (x0 : 0 ≤ x) (x1 : x ≤ 18446744073709551615) (y0 : 0 ≤ y) (y1 : y ≤ 18446744073709551615) (w : World) :
    Calls Try.prog 34 #[.int .u64 x, .int .u64 y] w fun e w' => e = .returned (.tuple #[.int .u64 (x * y / 18446744073709551616), .int .u64 (x * y % 18446744073709551616)]) ∧ w = w' := by
  have e1 := and_low32 x x0 (by omega)
  have e2 := and_low32 y y0 (by omega)
  go_enter Try.func34, Try.ntmps34
  go_wp2
  go_ret2
  refine ⟨ret_two ?_ (IntKind.wrap_u64 _), rfl⟩
  rw [and_low32 _ (wrap_u64_bd _).1 (by have := (wrap_u64_bd (IntKind.u64.wrap (x / 4294967296 * (y % 4294967296)) + IntKind.u64.wrap (x % 4294967296 * (y % 4294967296)) / 4294967296)).2; omega)]
  simp only [IntKind.wrap_u64]
  exact mul64_arith x y x0 (by omega) y0 (by omega)

theorem times_rm {a b : Int} (ha : InR a) (hb : InR b) : Rm (a * b) := by
  have h1 : a.natAbs ≤ 2 ^ 63 := by unfold InR at ha; omega
  have h2 : b.natAbs ≤ 2 ^ 63 := by unfold InR at hb; omega
  have h := Nat.mul_le_mul h1 h2
  rw [← Int.natAbs_mul] at h
  unfold Rm
  omega
theorem times_neg {a b : Int} (ha : InR a) (hb : InR b) : Rm (-(a * b)) := by
  have h1 : a.natAbs ≤ 2 ^ 63 := by unfold InR at ha; omega
  have h2 : b.natAbs ≤ 2 ^ 63 := by unfold InR at hb; omega
  have h := Nat.mul_le_mul h1 h2
  rw [← Int.natAbs_mul] at h
  unfold Rm
  omega
theorem times_math (a b : Int) (ha : InR a) (hb : InR b) (h l : Int) (hh : h = IntKind.u64.wrap a * IntKind.u64.wrap b / 18446744073709551616) (hl : l = IntKind.u64.wrap a * IntKind.u64.wrap b % 18446744073709551616) :
    l = loOf (a * b) ∧
    (0 ≤ a → 0 ≤ b → wrap64 h = hiOf (a * b)) ∧ (a < 0 → 0 ≤ b → wrap64 (wrap64 h - b) = hiOf (a * b)) ∧
    (0 ≤ a → b < 0 → wrap64 (wrap64 h - a) = hiOf (a * b)) ∧ (a < 0 → b < 0 → wrap64 (wrap64 (wrap64 h - b) - a) = hiOf (a * b)) := by
  have hr := times_rm ha hb
  have hb' := hi_bd hr
  have hz := hi_lo (a * b)
  have hlo := lo_bd (a * b)
  have wa : IntKind.u64.wrap a = if a < 0 then a + 18446744073709551616 else a := by rw [IntKind.wrap_u64]; unfold InR at ha; split <;> omega
  have wb : IntKind.u64.wrap b = if b < 0 then b + 18446744073709551616 else b := by rw [IntKind.wrap_u64]; unfold InR at hb; split <;> omega
  rw [wa, wb] at hh hl
  clear wa wb
  have key : (if a < 0 then a + 18446744073709551616 else a) * (if b < 0 then b + 18446744073709551616 else b) = a * b + 18446744073709551616 * ((if a < 0 then b else 0) + (if b < 0 then a else 0) + (if a < 0 then (if b < 0 then 18446744073709551616 else 0) else 0)) := by
    split <;> split <;> grind
  rw [key] at hh hl
  clear key hr
  generalize hiOf (a * b) = H at *
  generalize loOf (a * b) = L at *
  generalize a * b = p at *
  unfold InR at ha hb
  unfold wrap64
  refine ⟨?_, ?_, ?_, ?_, ?_⟩
  · omega
  · intro h1 h2
    rw [if_neg (by omega), if_neg (by omega), if_neg (by omega)] at hh
    omega
  · intro h1 h2
    rw [if_pos h1, if_neg (by omega), if_pos h1, if_neg (by omega)] at hh
    omega
  · intro h1 h2
    rw [if_neg (by omega), if_pos h2, if_neg (by omega)] at hh
    omega
  · intro h1 h2
    rw [if_pos h1, if_pos h2, if_pos h1, if_pos h2] at hh
    omega

set_option maxHeartbeats 1000000 in
theorem times_c (a b : Int) (ha : InR a) (hb : InR b) (w : World) :
    Calls Try.prog 18 #[.int .i64 a, .int .i64 b] w fun e w' => e = .returned (PV (a * b)) ∧ Below w.heap.size w w' := by
  obtain ⟨h, hh⟩ : ∃ h, h = IntKind.u64.wrap a * IntKind.u64.wrap b / 18446744073709551616 := ⟨_, rfl⟩
  obtain ⟨l, hl⟩ : ∃ l, l = IntKind.u64.wrap a * IntKind.u64.wrap b % 18446744073709551616 := ⟨_, rfl⟩
  obtain ⟨m0, m1, m2, m3, m4⟩ := times_math a b ha hb h l hh hl
  have hc := fun w => Mul64_c (IntKind.u64.wrap a) (IntKind.u64.wrap b) (wrap_u64_bd _).1 (wrap_u64_bd _).2 (wrap_u64_bd _).1 (wrap_u64_bd _).2 w
  rw [← hh, ← hl, m0] at hc
  have a0 := ha.1
  have a1 := ha.2
  have b0 := hb.1
  have b1 := hb.2
  clear hh hl m0 ha hb
  have Hc := Lib.hid hc; clear hc
  by_cases sa : a < 0
  · by_cases sb : b < 0
    · have e := m4 sa sb
      clear m1 m2 m3 m4
      go_enter Try.func18, Try.ntmps18
      go_wp2_with (go_at_call 34; (with_reducible refine (Hc.out _).mono ?_); rintro e w' ⟨rfl, rfl⟩)
      go_returns
      first | exact ⟨rfl, by go_grown⟩ | go_grown
    · have e := m2 sa (by omega)
      rw [show IntKind.u64.wrap b = b by rw [IntKind.wrap_u64]; omega] at Hc
      clear m1 m2 m3 m4
      go_enter Try.func18, Try.ntmps18
      go_wp2_with (go_at_call 34; (with_reducible refine (Hc.out _).mono ?_); rintro e w' ⟨rfl, rfl⟩)
      go_returns
      first | exact ⟨rfl, by go_grown⟩ | go_grown
  · by_cases sb : b < 0
    · have e := m3 (by omega) sb
      rw [show IntKind.u64.wrap a = a by rw [IntKind.wrap_u64]; omega] at Hc
      clear m1 m2 m3 m4
      go_enter Try.func18, Try.ntmps18
      go_wp2_with (go_at_call 34; (with_reducible refine (Hc.out _).mono ?_); rintro e w' ⟨rfl, rfl⟩)
      go_returns
      first | exact ⟨rfl, by go_grown⟩ | go_grown
    · have e := m1 (by omega) (by omega)
      rw [show IntKind.u64.wrap a = a by rw [IntKind.wrap_u64]; omega, show IntKind.u64.wrap b = b by rw [IntKind.wrap_u64]; omega] at Hc
      clear m1 m2 m3 m4
      go_enter Try.func18, Try.ntmps18
      go_wp2_with (go_at_call 34; (with_reducible refine (Hc.out _).mono ?_); rintro e w' ⟨rfl, rfl⟩)
      go_returns
      first | exact ⟨rfl, by go_grown⟩ | go_grown
end Go.Proofs.Ythpgbghcmfjjoaa
