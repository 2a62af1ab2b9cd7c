/- math/bits: Div64, any numbers that it answers; coin: Div, any numbers. -/
import Derived.Test.YthpgbghcmfjjoaaDivA
import Derived.Test.YthpgbghcmfjjoaaShelf
import Derived.Test.YthpgbghcmfjjoaaCoinG
namespace Go.Proofs.Ythpgbghcmfjjoaa
open Go.RowKit

theorem pow_cast (s : Nat) : ((2 : Int) ^ s) = ((2 ^ s : Nat) : Int) := by simp

theorem wrap_nat {n : Nat} (h : n < 18446744073709551616) : IntKind.u64.wrap (n : Int) = (n : Int) := by rw [IntKind.wrap_u64]; omega

theorem Div64_big (hi lo y : Nat) (h0 : 0 < hi) (hlt : hi < y) (hy : y < 2 ^ 64) (hlo : lo < 2 ^ 64) (w : World) :
    Calls Try.prog 21 #[.int .u64 (hi : Int), .int .u64 (lo : Int), .int .u64 (y : Int)] w fun e w' => e = .returned (.tuple #[.int .u64 (((hi * 18446744073709551616 + lo) / y : Nat) : Int), .int .u64 (((hi * 18446744073709551616 + lo) % y : Nat) : Int)]) ∧ ∃ nq, w.drewN nq = w' := by
  obtain ⟨s, hs⟩ : ∃ s, s = 64 - Lib.bitLen y := ⟨_, rfl⟩
  obtain ⟨hs64, hY1, hY2⟩ := shift_bits (by omega) hy hs
  have hbl := Lib.bitLen_le y 64 (by omega) hy
  have HZ : ∀ w, Calls Try.prog 35 #[.int .u64 (y : Int)] w fun e w' => e = .returned (.int .i64 (s : Int)) ∧ w = w' := by
    intro w
    refine (Try.bits_LeadingZeros64 (y : Int) w (by omega) (by omega)).mono ?_
    rintro e w' ⟨rfl, rfl⟩
    refine ⟨?_, rfl⟩
    rw [Int.toNat_natCast, hs]
    congr 2
    omega
  clear hs
  obtain ⟨Y, hY⟩ : ∃ Y, Y = y * 2 ^ s := ⟨_, rfl⟩
  rw [← hY] at hY1 hY2
  obtain ⟨n, hn⟩ : ∃ n, n = hi * 18446744073709551616 + lo := ⟨_, rfl⟩
  have hq : 0 < 2 ^ s := Nat.two_pow_pos s
  have hHY : hi * 2 ^ s < Y := by rw [hY]; exact Nat.mul_lt_mul_of_pos_right hlt hq
  obtain ⟨u, hu⟩ : ∃ u, u = n * 2 ^ s / 18446744073709551616 := ⟨_, rfl⟩
  obtain ⟨v, hv⟩ : ∃ v, v = n * 2 ^ s % 18446744073709551616 := ⟨_, rfl⟩
  obtain ⟨y1, hy1⟩ : ∃ y1, y1 = Y / 4294967296 := ⟨_, rfl⟩
  obtain ⟨y0, hy0⟩ : ∃ y0, y0 = Y % 4294967296 := ⟨_, rfl⟩
  obtain ⟨u1, hu1⟩ : ∃ u1, u1 = v / 4294967296 := ⟨_, rfl⟩
  obtain ⟨u0, hu0⟩ : ∃ u0, u0 = v % 4294967296 := ⟨_, rfl⟩
  have hYs : Y = y1 * 4294967296 + y0 := by omega
  have huY : u < Y := by
    rw [hu, Nat.div_lt_iff_lt_mul (by omega), hY, hn]
    have e : y * 2 ^ s * 18446744073709551616 = (y * 18446744073709551616) * 2 ^ s := by rw [Nat.mul_right_comm]
    rw [e]
    exact Nat.mul_lt_mul_of_pos_right (by omega) hq
  have D1 : DigitIn y1 y0 u u1 := ⟨by omega, by omega, by omega, by omega, by omega⟩
  have S1 := digit_start D1
  obtain ⟨t1, ht1⟩ : ∃ t1, t1 = (u * 4294967296 + u1) / Y := ⟨_, rfl⟩
  obtain ⟨m, hm⟩ : ∃ m, m = (u * 4294967296 + u1) % Y := ⟨_, rfl⟩
  have D2 : DigitIn y1 y0 m u0 := by rw [hm, hYs]; exact digit_second D1 (by omega)
  have S2 := digit_start D2
  obtain ⟨t0, ht0⟩ : ∃ t0, t0 = (m * 4294967296 + u0) / Y := ⟨_, rfl⟩
  obtain ⟨m0, hm0⟩ : ∃ m0, m0 = (m * 4294967296 + u0) % Y := ⟨_, rfl⟩
  have l1 := digit_small D1
  have l0 := digit_small D2
  rw [← hYs, ← ht1] at l1
  rw [← hYs, ← ht0] at l0
  obtain ⟨c1, e14, p14, _⟩ := wrapN ((u : Int) * 4294967296)
  obtain ⟨c2, e15, p15, _⟩ := wrapN ((c1 : Int) + (u1 : Int))
  obtain ⟨c3, e16, p16, _⟩ := wrapN ((t1 : Int) * (Y : Int))
  obtain ⟨c4, e17, p17, _⟩ := wrapN ((c2 : Int) - (c3 : Int))
  have hc4 : c4 = m := by rw [hm]; exact left_of D1 hYs ht1 (by omega) p14 p15 p16 p17
  obtain ⟨d2, e24, p24, _⟩ := wrapN ((m : Int) * 4294967296)
  obtain ⟨d3, e25, p25, _⟩ := wrapN ((d2 : Int) + (u0 : Int))
  obtain ⟨d4, e26, p26, _⟩ := wrapN ((t0 : Int) * (Y : Int))
  obtain ⟨d5, e27, p27, _⟩ := wrapN ((d3 : Int) - (d4 : Int))
  have hd5 : d5 = m0 := by rw [hm0]; exact left_of D2 hYs ht0 (by omega) p24 p25 p26 p27
  obtain ⟨d0, e22, p22, _⟩ := wrapN ((t1 : Int) * 4294967296)
  obtain ⟨d1, e23, p23, _⟩ := wrapN ((d0 : Int) + (t0 : Int))
  have hd1 : d1 = t1 * 4294967296 + t0 := by omega
  have both := both_of (hi := hi) (lo := lo) hY (by omega) (by rw [← hn]; exact hu) (by rw [← hn]; exact hv) hu1 hu0 ht1 hm ht0 hm0
  have hmY : m < Y := by rw [hm]; exact Nat.mod_lt _ (by omega)
  have hym : 0 < y1 := by omega
  have q1 : u / y1 * y1 + u % y1 = u := by have := S1.sum; omega
  have q2 : m / y1 * y1 + m % y1 = m := by have := S2.sum; omega
  have q3 : u / y1 ≤ u := Nat.div_le_self _ _
  have q4 : m / y1 ≤ m := Nat.div_le_self _ _
  have core := Div64_core hi lo y s Y y1 y0 (hi * 2 ^ s) (lo / 2 ^ (64 - s)) u v u1 u0 (u / y1) (u / y1 * y1) (u % y1) t1 c1 c2 c3 m (m / y1) (m / y1 * y1) (m % y1) t0 d0 d1 d2 d3 d4 d5 (m0 / 2 ^ s) h0 hlt hy hlo hs64
    (by rw [IntKind.wrap_u64, pow_cast, ← Int.natCast_mul, ← hY]; omega) (by omega) (by rw [hy0]; exact and_low (by omega))
    (by rw [IntKind.wrap_u64, pow_cast, ← Int.natCast_mul]; omega) (by rw [pow_cast, ← Int.natCast_ediv]) (by rw [or_parts hs64 hlo (by omega), ← hn, ← hu])
    (by rw [IntKind.wrap_u64, pow_cast, ← Int.natCast_mul, hv, hn, ← low_part]; omega) (by omega) (by rw [hu0]; exact and_low (by omega))
    (by rw [← Int.natCast_ediv]) (wrap_nat (Nat.lt_of_le_of_lt q3 (by omega))) (by rw [IntKind.wrap_u64, ← Int.natCast_mul]; omega) (by rw [IntKind.wrap_u64]; omega)
    D1 S1 (by rw [← hYs]; exact ht1) e14 e15 e16 (by rw [e17, hc4])
    (by rw [← Int.natCast_ediv]) (wrap_nat (Nat.lt_of_le_of_lt q4 (by omega))) (by rw [IntKind.wrap_u64, ← Int.natCast_mul]; omega) (by rw [IntKind.wrap_u64]; omega)
    D2 S2 (by rw [← hYs]; exact ht0) e22 e23 e24 e25 e26 e27 (by rw [pow_cast, ← Int.natCast_ediv, hd5]) (by omega) (by omega) HZ w
  refine core.mono ?_
  rintro e w' ⟨rfl, rfl⟩
  refine ⟨?_, 0, rfl⟩
  rw [hd1, both.1, both.2]

theorem Div64_c (hi lo y : Nat) (hlt : hi < y) (hy : y < 2 ^ 64) (hlo : lo < 2 ^ 64) (w : World) :
    Calls Try.prog 21 #[.int .u64 (hi : Int), .int .u64 (lo : Int), .int .u64 (y : Int)] w fun e w' => e = .returned (.tuple #[.int .u64 (((hi * 18446744073709551616 + lo) / y : Nat) : Int), .int .u64 (((hi * 18446744073709551616 + lo) % y : Nat) : Int)]) ∧ ∃ nq, w.drewN nq = w' := by
  by_cases h0 : hi = 0
  · subst h0
    have := Div64_small lo y hlo (by omega) hy w
    simpa using this
  · exact Div64_big hi lo y (by omega) hlt hy hlo w

/-- Div where the quotient has 64 bits at most. -/
theorem Div_fits (a b c round : Int) (ha : InR a) (hb : InR b) (hc : InR c) (hc0 : c ≠ 0) (hround : round = 1 ∨ round = 2 ∨ round = 3) (hlt : (a * b).natAbs / 18446744073709551616 < c.natAbs) (w : World) :
    Calls Try.prog 15 #[.int .i64 a, .int .i64 b, .int .i64 c, .int .i64 round] w fun e w' => e = .returned (.tuple #[.int .i64 (tv (divR a b c round)), .int .i64 (te (divR a b c round))]) ∧ Below w.heap.size w w' := by
  refine Div_c a b c round ha hb hc hc0 hround _ _ rfl rfl hlt (fun w => ?_) w
  have h1 : c.natAbs < 2 ^ 64 := by unfold InR at hc; omega
  generalize (a * b).natAbs = n at *
  rw [small_lo _ h1]
  have e1 : hiOf (n : Int) = ((n / 18446744073709551616 : Nat) : Int) := by unfold hiOf; omega
  have e2 : loOf (n : Int) = ((n % 18446744073709551616 : Nat) : Int) := by unfold loOf; omega
  rw [e1, e2]
  have h := Div64_c (n / 18446744073709551616) (n % 18446744073709551616) c.natAbs hlt h1 (by omega) w
  have e3 : n / 18446744073709551616 * 18446744073709551616 + n % 18446744073709551616 = n := by omega
  rw [e3] at h
  exact h

set_option maxHeartbeats 4000000 in
set_option maxRecDepth 100000 in
theorem Div_over (a b c round p : Int) (n d : Nat) (c1 : -9223372036854775808 ≤ c) (c2 : c ≤ 9223372036854775807) (e0 : (c == 0) = false) (hround : round = 1 ∨ round = 2 ∨ round = 3)
    (hhi : loOf (d : Int) ≤ hiOf (n : Int)) (hhi1 : hiOf (n : Int) ≤ 9223372036854775807)
    (HT : Hid (∀ w, Calls Try.prog 18 #[.int .i64 a, .int .i64 b] w fun e w' => e = .returned (PV p) ∧ Below w.heap.size w w'))
    (HS : Hid (∀ w, Calls Try.prog 19 #[PV p] w fun e w' => e = .returned (PV (n : Int)) ∧ Below w.heap.size w w'))
    (HSc : Hid (∀ w, Calls Try.prog 19 #[PV c] w fun e w' => e = .returned (PV (d : Int)) ∧ Below w.heap.size w w')) (w : World) :
    Calls Try.prog 15 #[.int .i64 a, .int .i64 b, .int .i64 c, .int .i64 round] w fun e w' => e = .returned (.tuple #[.int .i64 0, .int .i64 10]) ∧ Below w.heap.size w w' := by
  have hh0 : 0 ≤ hiOf (n : Int) := by unfold hiOf; omega
  rcases hround with rfl | rfl | rfl
  all_goals
    go_enter Try.func15, Try.ntmps15
    go_wp2_with fail
    ((with_reducible refine (HT.out _).mono ?_); rintro e w1 ⟨rfl, hb1⟩)
    have Hb1 := Lib.hid hb1; clear hb1
    go_wp2_with fail
    ((with_reducible refine (HS.out _).mono ?_); rintro e w2 ⟨rfl, hb2⟩)
    go_wp2_with fail
    ((with_reducible refine (wide_c c c1 c2 _).mono ?_); rintro e w' ⟨rfl, rfl⟩)
    have z2 : w1.heap.size + 1 ≤ w2.heap.size := by have := hb2.size; simp at this; omega
    have B2 : Hid (Below w.heap.size w w2) := by
      show Below _ _ _
      have s1 := Hb1.out.size
      exact Below.trans (Below.alloc Hb1.out s1 _) (hb2.mono (by simp; omega))
    clear hb2
    go_wp2_with fail
    ((with_reducible refine (HSc.out _).mono ?_); rintro e w3 ⟨rfl, hb3⟩)
    have B3 : Hid (Below w.heap.size w w3) := by
      show Below _ _ _
      have s1 := B2.out.size
      exact Below.trans (Below.alloc B2.out s1 _) (hb3.mono (by simp; omega))
    clear hb3 B2 z2 Hb1
    have z3 := B3.out.size
    go_wp2_with fail
    go_ret2
    have B4 := B3.out
    first | exact ⟨rfl, by (focus ((repeat' (first | (with_reducible exact Below.refl _ _) | (with_reducible assumption) | (with_reducible refine Below.alloc ?_ ?_ _) | (with_reducible refine Below.setCell ?_ ?_ _) | (with_reducible refine Below.row ?_ ?_ _) | (with_reducible refine Below.drew ?_) | (with_reducible refine below_drewN ?_ _) | (focus (first | (simp; done) | omega | (simp; omega))))); done))⟩ | (focus ((repeat' (first | (with_reducible exact Below.refl _ _) | (with_reducible assumption) | (with_reducible refine Below.alloc ?_ ?_ _) | (with_reducible refine Below.setCell ?_ ?_ _) | (with_reducible refine Below.row ?_ ?_ _) | (with_reducible refine Below.drew ?_) | (with_reducible refine below_drewN ?_ _) | (focus (first | (simp; done) | omega | (simp; omega))))); done))

set_option maxHeartbeats 4000000 in
set_option maxRecDepth 100000 in
theorem Div_wrong (a b c round : Int) (hround : ¬ (round = 1 ∨ round = 2 ∨ round = 3)) (w : World) :
    Calls Try.prog 15 #[.int .i64 a, .int .i64 b, .int .i64 c, .int .i64 round] w fun e w' => e = .returned (.tuple #[.int .i64 0, .int .i64 2]) ∧ Below w.heap.size w w' := by
  have h1 : (round == 1) = false := by simp; omega
  have h2 : (round == 2) = false := by simp; omega
  have h3 : (round == 3) = false := by simp; omega
  have g1 : (round != 1) = true := by simp; omega
  have g2 : (round != 2) = true := by simp; omega
  have g3 : (round != 3) = true := by simp; omega
  clear hround
  go_enter Try.func15, Try.ntmps15
  go_wp2_with fail
  go_ret2
  first | exact ⟨rfl, Below.refl _ _⟩ | exact Below.refl _ _

set_option maxHeartbeats 4000000 in
set_option maxRecDepth 100000 in
theorem Div_zero (a b round : Int) (hround : round = 1 ∨ round = 2 ∨ round = 3) (w : World) :
    Calls Try.prog 15 #[.int .i64 a, .int .i64 b, .int .i64 0, .int .i64 round] w fun e w' => e = .returned (.tuple #[.int .i64 0, .int .i64 11]) ∧ Below w.heap.size w w' := by
  rcases hround with rfl | rfl | rfl
  all_goals
    go_enter Try.func15, Try.ntmps15
    go_wp2_with fail
    go_ret2
    first | exact ⟨rfl, Below.refl _ _⟩ | exact Below.refl _ _

/-- What is told of a quotient: its value .. -/
def dv (a b c round : Int) : Int := if ¬ (round = 1 ∨ round = 2 ∨ round = 3) then 0 else if c = 0 then 0 else tv (divR a b c round)
/-- .. and the error. -/
def de (a b c round : Int) : Int := if ¬ (round = 1 ∨ round = 2 ∨ round = 3) then 2 else if c = 0 then 11 else te (divR a b c round)

theorem divR_over {a b c round : Int} (h : c.natAbs ≤ (a * b).natAbs / 18446744073709551616) (hc0 : c ≠ 0) : ¬ InR (divR a b c round) := by
  have hd : 0 < c.natAbs := by omega
  have h1 : 18446744073709551616 ≤ (a * b).natAbs / c.natAbs := by
    rw [Nat.le_div_iff_mul_le hd]
    omega
  intro h2
  simp only [divR, InR] at h2
  generalize (a * b).natAbs / c.natAbs = q at *
  split at h2 <;> split at h2 <;> omega

theorem Div_any (a b c round : Int) (ha : InR a) (hb : InR b) (hc : InR c) (w : World) :
    Calls Try.prog 15 #[.int .i64 a, .int .i64 b, .int .i64 c, .int .i64 round] w fun e w' => e = .returned (.tuple #[.int .i64 (dv a b c round), .int .i64 (de a b c round)]) ∧ Below w.heap.size w w' := by
  by_cases hround : round = 1 ∨ round = 2 ∨ round = 3
  · have hnn : ¬ ¬ (round = 1 ∨ round = 2 ∨ round = 3) := fun h => h hround
    by_cases hc0 : c = 0
    · rw [dv, de, if_neg hnn, if_neg hnn, if_pos hc0, if_pos hc0, hc0]; exact Div_zero a b round hround w
    · rw [dv, de, if_neg hnn, if_neg hnn, if_neg hc0, if_neg hc0]
      by_cases hlt : (a * b).natAbs / 18446744073709551616 < c.natAbs
      · exact Div_fits a b c round ha hb hc hc0 hround hlt w
      · rw [tv_out (divR_over (by omega) hc0), te_out (divR_over (by omega) hc0)]
        have hprm := times_rm ha hb
        have hprn := times_neg ha hb
        have hn : Rm (((a * b).natAbs : Nat) : Int) := by unfold Rm at hprm hprn ⊢; omega
        have hc64 : c.natAbs < 2 ^ 64 := by unfold InR at hc; omega
        refine Div_over a b c round (a * b) (a * b).natAbs c.natAbs hc.1 hc.2 (by simp [hc0]) hround ?_ (hi_bd hn).2 ?_ ?_ ?_ w
        · rw [small_lo _ hc64]; unfold hiOf; omega
        · show ∀ w, _; intro w; exact times_c a b ha hb w
        · show ∀ w, _; intro w; exact size_c (a * b) hprm hprn w
        · show ∀ w, _; intro w; exact size_c c (rm_in hc) (by unfold InR at hc; unfold Rm; omega) w
  · rw [dv, de, if_pos hround, if_pos hround]; exact Div_wrong a b c round hround w
end Go.Proofs.Ythpgbghcmfjjoaa
