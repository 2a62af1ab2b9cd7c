/- coin: Div. -/
import Derived.Test.YthpgbghcmfjjoaaCoinF1
import Derived.Test.YthpgbghcmfjjoaaCoinF2
import Derived.Test.YthpgbghcmfjjoaaCoinF3
namespace Go.Proofs.Ythpgbghcmfjjoaa
open Go.RowKit

theorem Div_c (a b c round : Int) (ha : InR a) (hb : InR b) (hc : InR c) (hc0 : c ≠ 0) (hround : round = 1 ∨ round = 2 ∨ round = 3) (n d : Nat) (hn : n = (a * b).natAbs) (hd : d = c.natAbs) (hlt : n / 18446744073709551616 < d)
    (D64 : ∀ w, Calls Try.prog 21 #[.int .u64 (hiOf (n : Int)), .int .u64 (loOf (n : Int)), .int .u64 (loOf (d : Int))] w fun e w' => e = .returned (.tuple #[.int .u64 ((n / d : Nat) : Int), .int .u64 ((n % d : Nat) : Int)]) ∧ ∃ nq, w.drewN nq = w') (w : World) :
    Calls Try.prog 15 #[.int .i64 a, .int .i64 b, .int .i64 c, .int .i64 round] w fun e w' => e = .returned (.tuple #[.int .i64 (tv (divR a b c round)), .int .i64 (te (divR a b c round))]) ∧ Below w.heap.size w w' := by
  have hdpos : 0 < d := by omega
  have hd64 : d < 2 ^ 64 := by rw [hd]; unfold InR at hc; omega
  have hr64 : n % d < 2 ^ 64 := by have := Nat.mod_lt n hdpos; omega
  have hq64 : n / d < 2 ^ 64 := by
    rw [Nat.div_lt_iff_lt_mul hdpos]
    have h1 := Nat.div_add_mod n 18446744073709551616
    have h2 := Nat.mod_lt n (show 0 < 18446744073709551616 by omega)
    have h3 : n / 18446744073709551616 + 1 ≤ d := hlt
    have h4 := Nat.mul_le_mul_left 18446744073709551616 h3
    omega
  have hprm := times_rm ha hb
  have hprn := times_neg ha hb
  obtain ⟨p, hp⟩ : ∃ p, p = a * b := ⟨_, rfl⟩
  rw [← hp] at hprm hprn hn
  obtain ⟨neg, hneg⟩ : ∃ neg, neg = (decide (p < 0) != decide (c < 0)) := ⟨_, rfl⟩
  obtain ⟨odd, hodd⟩ : ∃ odd, odd = decide (n / d % 2 = 1) := ⟨_, rfl⟩
  obtain ⟨aw, haw⟩ : ∃ aw, aw = awayB round neg odd (n % d) d := ⟨_, rfl⟩
  have hres : divR a b c round = if neg then -((n / d + if aw then 1 else 0 : Nat) : Int) else ((n / d + if aw then 1 else 0 : Nat) : Int) := by
    rw [haw, hneg, hodd, hn, hd, hp]; rfl
  have hodd' := and_one (n / d) (by omega)
  rw [← hodd] at hodd'
  have HO : Hid (∀ w, Calls Try.prog 22 #[.int .i64 round, .bool neg, .bool odd, .agg #[.int .i64 0, .int .u64 ((n % d : Nat) : Int)], PV (d : Int)] w fun e w' => e = .returned (.bool aw) ∧ Below w.heap.size w w') := by
    intro w
    have := outward_c round neg odd (n % d) d hr64 hd64 hround aw haw w
    unfold PV at this ⊢
    rw [small_hi _ hr64, small_lo _ hr64] at this
    exact this
  have hhi : hiOf (n : Int) < loOf (d : Int) := by unfold hiOf loOf; omega
  have hhi0 : 0 ≤ hiOf (n : Int) := by unfold hiOf; omega
  have hhi1 : hiOf (n : Int) ≤ 9223372036854775807 := (hi_bd (x := (n : Int)) (by rw [hn]; unfold Rm at hprm hprn ⊢; omega)).2
  have HT : Hid (∀ w, Calls Try.prog 18 #[.int .i64 a, .int .i64 b] w fun e w' => e = .returned (PV p) ∧ Below w.heap.size w w') := by
    intro w; rw [hp]; exact times_c a b ha hb w
  have HS : Hid (∀ w, Calls Try.prog 19 #[PV p] w fun e w' => e = .returned (PV (n : Int)) ∧ Below w.heap.size w w') := by
    intro w; rw [hn]; exact size_c p hprm hprn w
  have HSc : Hid (∀ w, Calls Try.prog 19 #[PV c] w fun e w' => e = .returned (PV (d : Int)) ∧ Below w.heap.size w w') := by
    intro w; rw [hd]; exact size_c c (rm_in hc) (by unfold InR at hc; unfold Rm; omega) w
  rcases hround with h | h | h
  · exact Div_core1 a b c round p n d (n / d) (n % d) neg odd aw hc.1 hc.2 (by simp [hc0]) h hprm hneg hodd' hq64 hr64 hhi hhi0 hhi1 HT HS HSc HO D64 _ rfl _ hres w
  · exact Div_core2 a b c round p n d (n / d) (n % d) neg odd aw hc.1 hc.2 (by simp [hc0]) h hprm hneg hodd' hq64 hr64 hhi hhi0 hhi1 HT HS HSc HO D64 _ rfl _ hres w
  · exact Div_core3 a b c round p n d (n / d) (n % d) neg odd aw hc.1 hc.2 (by simp [hc0]) h hprm hneg hodd' hq64 hr64 hhi hhi0 hhi1 HT HS HSc HO D64 _ rfl _ hres w

set_option maxHeartbeats 1000000 in
theorem Div64_small (lo y : Nat) (hl : lo < 2 ^ 64) (hy : 0 < y) (hy2 : y < 2 ^ 64) (w : World) :
    Calls Try.prog 21 #[.int .u64 0, .int .u64 (lo : Int), .int .u64 (y : Int)] w fun e w' => e = .returned (.tuple #[.int .u64 ((lo / y : Nat) : Int), .int .u64 ((lo % y : Nat) : Int)]) ∧ ∃ nq, w.drewN nq = w' := by
  have e0 : ((y : Int) == 0) = false := by simp; omega
  have e1 : ¬ (y : Int) ≤ 0 := by omega
  have b0 : (0 : Int) ≤ (lo : Int) := by omega
  have b1 : (lo : Int) ≤ 18446744073709551615 := by omega
  have b2 : (1 : Int) ≤ (y : Int) := by omega
  have b3 : (y : Int) ≤ 18446744073709551615 := by omega
  go_enter Try.func21, Try.ntmps21
  go_wp2
  go_quiet (fail)
  go_wp2
  go_ret2
  refine ⟨ret_two ?_ ?_, _, rfl⟩
  · rw [IntKind.wrap_u64, ← Int.natCast_ediv]
    have := Nat.div_le_self lo y
    generalize lo / y = k at *
    omega
  · rw [← Int.natCast_emod]

/-- Div where the product has 64 bits at most. -/
theorem Div_small (a b c round : Int) (ha : InR a) (hb : InR b) (hc : InR c) (hc0 : c ≠ 0) (hround : round = 1 ∨ round = 2 ∨ round = 3) (hs : (a * b).natAbs < 2 ^ 64) (w : World) :
    Calls Try.prog 15 #[.int .i64 a, .int .i64 b, .int .i64 c, .int .i64 round] w fun e w' => e = .returned (.tuple #[.int .i64 (tv (divR a b c round)), .int .i64 (te (divR a b c round))]) ∧ Below w.heap.size w w' := by
  refine Div_c a b c round ha hb hc hc0 hround _ _ rfl rfl (by omega) (fun w => ?_) w
  have h1 : c.natAbs < 2 ^ 64 := by unfold InR at hc; omega
  rw [small_hi _ hs, small_lo _ hs, small_lo _ h1]
  exact Div64_small _ _ hs (by omega) h1 w

end Go.Proofs.Ythpgbghcmfjjoaa
