/- The reference's sum, difference, product; which of two products is less; a sum that goes no further. -/
import Derived.Test.YtoechhbdpkjppabRefJ
import Derived.Test.YtoechhbdpkjppabRefH
namespace Go.Proofs.Ytoechhbdpkjppab
open Go.RowKit

theorem Of_z (x : Int) (hx : InR x) (w : World) :
    Calls Try.prog 30 #[.int .i64 x] w fun e w' => e = .returned (.agg (NZ x)) ∧ Below w.heap.size w w' := Of_c x hx.1 hx.2 w
theorem Plus_z (x y : Int) (hx : x.natAbs < 2 ^ 135) (hy : y.natAbs < 2 ^ 135) (w : World) :
    Calls Try.prog 29 #[.agg (NZ x), .agg (NZ y)] w fun e w' => e = .returned (.agg (NZ (x + y))) ∧ Below w.heap.size w w' :=
  Plus_n x.natAbs y.natAbs (decide (x < 0)) (decide (y < 0)) (x + y).natAbs (decide (x + y < 0)) hx hy
    (by by_cases h1 : x < 0 <;> by_cases h2 : y < 0 <;> simp [h1, h2] <;> first | omega | (split <;> omega))
    (by
      by_cases h1 : x < 0 <;> by_cases h2 : y < 0 <;> simp [h1, h2]
      · by_cases h3 : x + y = 0 <;> simp [h3] <;> omega
      · by_cases h3 : x.natAbs < y.natAbs <;> by_cases h4 : x + y = 0 <;> simp [h3, h4] <;> omega
      · by_cases h3 : x.natAbs < y.natAbs <;> by_cases h4 : x + y = 0 <;> simp [h3, h4] <;> omega
      · omega) w
theorem Times_z (x y : Int) (hx : InR x) (hy : InR y) (w : World) :
    Calls Try.prog 32 #[.agg (NZ x), .agg (NZ y)] w fun e w' => e = .returned (.agg (NZ (x * y))) ∧ Below w.heap.size w w' :=
  Times_n x.natAbs y.natAbs (decide (x < 0)) (decide (y < 0)) (x * y).natAbs (decide (x * y < 0)) (by unfold InR at hx; omega) (by unfold InR at hy; omega)
    (Int.natAbs_mul x y)
    (by
      by_cases h0 : x = 0
      · subst h0; simp
      · by_cases h1 : y = 0
        · subst h1; simp
        · have hne : x * y ≠ 0 := Int.mul_ne_zero h0 h1
          rcases Int.lt_or_gt_of_ne h0 with a | a <;> rcases Int.lt_or_gt_of_ne h1 with b | b
          · have := Int.mul_pos_of_neg_of_neg a b; simp [a, b, hne]; omega
          · have := Int.mul_neg_of_neg_of_pos a b; simp [a, hne, show ¬ y < 0 by omega, this]
          · have := Int.mul_neg_of_pos_of_neg a b; simp [b, hne, show ¬ x < 0 by omega, this]
          · have := Int.mul_pos a b; simp [show ¬ x < 0 by omega, show ¬ y < 0 by omega]; omega) w
theorem mul_rng {x y : Int} (hx : InR x) (hy : InR y) : (x * y).natAbs ≤ 2 ^ 126 := by
  rw [Int.natAbs_mul]
  have h1 : x.natAbs ≤ 2 ^ 63 := by unfold InR at hx; omega
  have h2 : y.natAbs ≤ 2 ^ 63 := by unfold InR at hy; omega
  exact Nat.le_trans (Nat.mul_le_mul h1 h2) (by rw [← Nat.pow_add]; exact Nat.le_refl _)

set_option maxHeartbeats 4000000 in
set_option maxRecDepth 100000 in
theorem refAdd_c (x y : Int) (hx : InR x) (hy : InR y) (w : World) :
    Calls Try.prog 11 #[.int .i64 x, .int .i64 y] w fun e w' => e = .returned (.tuple #[.int .i64 (tv (x + y)), .int .i64 (te (x + y))]) ∧ Below w.heap.size w w' := by
  have Hx := Lib.hid hx
  have Hy := Lib.hid hy
  have H1 : Hid (x.natAbs < 2 ^ 135) := by show _ < _; unfold InR at hx; omega
  have H2 : Hid (y.natAbs < 2 ^ 135) := by show _ < _; unfold InR at hy; omega
  have H3 : Hid ((x + y).natAbs < 2 ^ 136) := by show _ < _; unfold InR at hx hy; omega
  clear hx hy
  go_enter Try.func11, Try.ntmps11
  go_wp2_with fail
  ((with_reducible refine (Of_z x Hx.out _).mono ?_); rintro e w1 ⟨rfl, hb1⟩)
  go_wp2_with fail
  ((with_reducible refine (Of_z y Hy.out _).mono ?_); rintro e w2 ⟨rfl, hb2⟩)
  go_wp2_with fail
  ((with_reducible refine (Plus_z x y H1.out H2.out _).mono ?_); rintro e w3 ⟨rfl, hb3⟩)
  go_wp2_with fail
  ((with_reducible refine (told_c (x + y) H3.out _).mono ?_); rintro e w4 ⟨rfl, hb4⟩)
  have hB : Below w.heap.size w w4 := ((hb1.trans (hb2.mono hb1.size)).trans (hb3.mono (Nat.le_trans hb1.size hb2.size))).trans (hb4.mono (Nat.le_trans hb1.size (Nat.le_trans hb2.size hb3.size)))
  clear hb1 hb2 hb3 hb4
  go_wp2_with fail
  go_ret2
  first | exact ⟨rfl, hB⟩ | exact hB

set_option maxHeartbeats 4000000 in
set_option maxRecDepth 100000 in
theorem refSub_c (x y : Int) (hx : InR x) (hy : InR y) (w : World) :
    Calls Try.prog 12 #[.int .i64 x, .int .i64 y] w fun e w' => e = .returned (.tuple #[.int .i64 (tv (x - y)), .int .i64 (te (x - y))]) ∧ Below w.heap.size w w' := by
  have Hx := Lib.hid hx
  have Hy := Lib.hid hy
  have H1 : Hid (x.natAbs < 2 ^ 135) := by show _ < _; unfold InR at hx; omega
  have H0 : Hid (y.natAbs < 2 ^ 136) := by show _ < _; unfold InR at hy; omega
  have H2 : Hid ((-y).natAbs < 2 ^ 135) := by show _ < _; unfold InR at hy; omega
  have H3 : Hid ((x - y).natAbs < 2 ^ 136) := by show _ < _; unfold InR at hx hy; omega
  clear hx hy
  go_enter Try.func12, Try.ntmps12
  go_wp2_with fail
  ((with_reducible refine (Of_z x Hx.out _).mono ?_); rintro e w1 ⟨rfl, hb1⟩)
  go_wp2_with fail
  ((with_reducible refine (Of_z y Hy.out _).mono ?_); rintro e w2 ⟨rfl, hb2⟩)
  go_wp2_with fail
  ((with_reducible refine (Minus_c y H0.out _).mono ?_); rintro e w5 ⟨rfl, hb5⟩)
  go_wp2_with fail
  ((with_reducible refine (Plus_z x (-y) H1.out H2.out _).mono ?_); rintro e w3 ⟨rfl, hb3⟩)
  rw [show x + -y = x - y by omega]
  go_wp2_with fail
  ((with_reducible refine (told_c (x - y) H3.out _).mono ?_); rintro e w4 ⟨rfl, hb4⟩)
  have s1 := hb1.size
  have s2 := hb2.size
  have s3 := hb3.size
  have s5 := hb5.size
  have hB : Below w.heap.size w w4 := (((hb1.trans (hb2.mono (by omega))).trans (hb5.mono (by omega))).trans (hb3.mono (by omega))).trans (hb4.mono (by omega))
  clear hb1 hb2 hb3 hb4 hb5 s1 s2 s3 s5
  go_wp2_with fail
  go_ret2
  first | exact ⟨rfl, hB⟩ | exact hB

set_option maxHeartbeats 4000000 in
set_option maxRecDepth 100000 in
theorem refMul_c (x y : Int) (hx : InR x) (hy : InR y) (w : World) :
    Calls Try.prog 13 #[.int .i64 x, .int .i64 y] w fun e w' => e = .returned (.tuple #[.int .i64 (tv (x * y)), .int .i64 (te (x * y))]) ∧ Below w.heap.size w w' := by
  have Hx := Lib.hid hx
  have Hy := Lib.hid hy
  have H3 : Hid ((x * y).natAbs < 2 ^ 136) := by show _ < _; have := mul_rng hx hy; omega
  clear hx hy
  go_enter Try.func13, Try.ntmps13
  go_wp2_with fail
  ((with_reducible refine (Of_z x Hx.out _).mono ?_); rintro e w1 ⟨rfl, hb1⟩)
  go_wp2_with fail
  ((with_reducible refine (Of_z y Hy.out _).mono ?_); rintro e w2 ⟨rfl, hb2⟩)
  go_wp2_with fail
  ((with_reducible refine (Times_z x y Hx.out Hy.out _).mono ?_); rintro e w3 ⟨rfl, hb3⟩)
  go_wp2_with fail
  ((with_reducible refine (told_c (x * y) H3.out _).mono ?_); rintro e w4 ⟨rfl, hb4⟩)
  have hB : Below w.heap.size w w4 := ((hb1.trans (hb2.mono hb1.size)).trans (hb3.mono (Nat.le_trans hb1.size hb2.size))).trans (hb4.mono (Nat.le_trans hb1.size (Nat.le_trans hb2.size hb3.size)))
  clear hb1 hb2 hb3 hb4
  go_wp2_with fail
  go_ret2
  first | exact ⟨rfl, hB⟩ | exact hB
end Go.Proofs.Ytoechhbdpkjppab
