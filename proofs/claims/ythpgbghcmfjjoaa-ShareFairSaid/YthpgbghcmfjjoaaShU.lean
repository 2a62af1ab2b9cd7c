/- share: ShareFair, walked. (By mkfair.py.) -/
import Derived.Test.YthpgbghcmfjjoaaShT
namespace Go.Proofs.Ythpgbghcmfjjoaa
open Go.RowKit Go.Lib
set_option linter.unusedVariables false

theorem mul_small {a t T : Int} (h1 : 0 ≤ a) (h2 : 0 ≤ t) (h3 : t ≤ T) (h4 : a ≤ T) (h5 : T < 1048576) : 0 ≤ a * t ∧ a * t ≤ 1099511627776 := by
  have e1 : 0 ≤ a * t := Int.mul_nonneg h1 h2
  have e2 : a * t ≤ a * T := Int.mul_le_mul_of_nonneg_left h3 h1
  have e3 : a * T ≤ 1048576 * T := Int.mul_le_mul_of_nonneg_right (by omega) (by omega)
  exact ⟨e1, by omega⟩

set_option maxHeartbeats 4000000 in
set_option maxRecDepth 100000 in
theorem fair_big (mode : Int) (A : Option Addr) (n c : Nat) (qty lot : Int) (w : World) (h1 : 64 < n) :
    Calls Try.prog 4 #[.int .i64 mode, .slice A n c, .int .i64 qty, .int .i64 lot] w fun e w' => e = .returned (.bool true) ∧ Below w.heap.size w w' := by
  have h1I : (64 : Int) < (n : Int) := by omega
  go_enter Try.func4, Try.ntmps4
  go_wp2_with ((with_reducible refine (lives16_c _).mono ?_); rintro e w5 ⟨rfl, b5⟩)
  go_ret
  exact ⟨rfl, b5⟩

set_option maxHeartbeats 4000000 in
set_option maxRecDepth 100000 in
theorem fair_no (mode : Int) (A : Option Addr) (n c : Nat) (L : List Od) (qty lot : Int) (hlot : InR lot) (w : World) (HO : Ods w A n L) (h1 : ¬ 64 < n) (hno : NoSh mode (qs L) qty lot) :
    Calls Try.prog 4 #[.int .i64 mode, .slice A n c, .int .i64 qty, .int .i64 lot] w fun e w' => e = .returned (.bool true) ∧ Below w.heap.size w w' := by
  have hn64 : n ≤ 64 := by omega
  have h1I : ¬ (64 : Int) < (n : Int) := by omega
  obtain ⟨T, hT⟩ : ∃ T, T = totN (qs L) lot := ⟨_, rfl⟩
  have HTot : Hid (∀ wr, Below w.heap.size w wr → Calls Try.prog 11 #[.slice A n c, .int .i64 lot] wr fun e w' => e = .returned (.int .i64 T) ∧ Below wr.heap.size wr w') := Lib.hid (by rw [hT]; exact tot_on (wr := w) hlot HO (by omega))
  have HS : Hid (Calls Try.prog 9 #[.int .i64 mode, .slice A n c, .int .i64 qty, .int .i64 lot] w fun e w' => e = .returned (.slice none 0 0) ∧ Below w.heap.size w w') := Lib.hid (share_no mode A n c L qty lot hlot w HO (by omega) hno)
  have hTb := totN_bd (qs L) lot
  rw [← hT] at hTb
  unfold NoSh at hno
  rw [← hT] at hno
  have hl0 : lot < 1 → T = 0 := fun h => by rw [hT]; exact if_pos (.inl h)
  obtain ⟨t0, t1⟩ := hTb
  have tg : decide (T < 0) = false := decide_eq_false (by omega)
  clear HO hlot hT h1
  by_cases l : lot < 1
  · obtain rfl : T = 0 := hl0 l
    have lg : decide (lot < 1) = true := decide_eq_true l
    clear hno hl0
    go_enter Try.func4, Try.ntmps4
    go_wp2_with fail
    ((with_reducible refine HS.out.mono ?_); rintro e w2 ⟨rfl, b2⟩)
    have C := HTot.out w2 b2
    clear HS HTot
    go_wp2_with fail
    ((with_reducible refine C.mono ?_); rintro e w3 ⟨rfl, b3⟩)
    have B3 := b2.trans (b3.mono b2.size)
    clear C b2 b3
    go_wp2_with ((with_reducible refine (lives16_c _).mono ?_); rintro e w5 ⟨rfl, b5⟩)
    have B5 := B3.trans (b5.mono B3.size)
    go_ret
    exact ⟨rfl, B5⟩
  have lg : decide (lot < 1) = false := decide_eq_false l
  clear hl0
  by_cases z : T = 0
  · subst z; clear hno
    go_enter Try.func4, Try.ntmps4
    go_wp2_with fail
    ((with_reducible refine HS.out.mono ?_); rintro e w2 ⟨rfl, b2⟩)
    have C := HTot.out w2 b2
    clear HS HTot
    go_wp2_with fail
    ((with_reducible refine C.mono ?_); rintro e w3 ⟨rfl, b3⟩)
    have B3 := b2.trans (b3.mono b2.size)
    clear C b2 b3
    go_wp2_with ((with_reducible refine (lives16_c _).mono ?_); rintro e w5 ⟨rfl, b5⟩)
    have B5 := B3.trans (b5.mono B3.size)
    go_ret
    exact ⟨rfl, B5⟩
  have z1 : (T == 0) = false := by simp [z]
  by_cases q1 : qty < 1
  · have q2 : decide (qty < 1) = true := decide_eq_true q1
    clear hno z
    go_enter Try.func4, Try.ntmps4
    go_wp2_with fail
    ((with_reducible refine HS.out.mono ?_); rintro e w2 ⟨rfl, b2⟩)
    have C := HTot.out w2 b2
    clear HS HTot
    go_wp2_with fail
    ((with_reducible refine C.mono ?_); rintro e w3 ⟨rfl, b3⟩)
    have B3 := b2.trans (b3.mono b2.size)
    clear C b2 b3
    go_wp2_with ((with_reducible refine (lives16_c _).mono ?_); rintro e w5 ⟨rfl, b5⟩)
    have B5 := B3.trans (b5.mono B3.size)
    go_ret
    exact ⟨rfl, B5⟩
  have q2 : decide (qty < 1) = false := decide_eq_false q1
  by_cases q3 : 4611686018427387904 < qty
  · have q4 : decide (4611686018427387904 < qty) = true := decide_eq_true q3
    clear hno z
    go_enter Try.func4, Try.ntmps4
    go_wp2_with fail
    ((with_reducible refine HS.out.mono ?_); rintro e w2 ⟨rfl, b2⟩)
    have C := HTot.out w2 b2
    clear HS HTot
    go_wp2_with fail
    ((with_reducible refine C.mono ?_); rintro e w3 ⟨rfl, b3⟩)
    have B3 := b2.trans (b3.mono b2.size)
    clear C b2 b3
    go_wp2_with ((with_reducible refine (lives16_c _).mono ?_); rintro e w5 ⟨rfl, b5⟩)
    have B5 := B3.trans (b5.mono B3.size)
    go_ret
    exact ⟨rfl, B5⟩
  have q4 : decide (4611686018427387904 < qty) = false := decide_eq_false q3
  have m0 : ¬ (mode = 1 ∨ mode = 2) := by rcases hno with h | h | h | h; exact h; exact absurd h z; exact absurd h q1; exact absurd h q3
  have m1 : (mode == 1) = false := by simp; omega
  have m2 : (mode != 1) = true := by simp; omega
  have m3 : (mode == 2) = false := by simp; omega
  have m4 : (mode != 2) = true := by simp; omega
  clear hno z m0
  go_enter Try.func4, Try.ntmps4
  go_wp2_with fail
  ((with_reducible refine HS.out.mono ?_); rintro e w2 ⟨rfl, b2⟩)
  have C := HTot.out w2 b2
  clear HS HTot
  go_wp2_with fail
  ((with_reducible refine C.mono ?_); rintro e w3 ⟨rfl, b3⟩)
  have B3 := b2.trans (b3.mono b2.size)
  clear C b2 b3
  go_wp2_with ((with_reducible refine (lives16_c _).mono ?_); rintro e w5 ⟨rfl, b5⟩)
  have B5 := B3.trans (b5.mono B3.size)
  go_ret
  exact ⟨rfl, B5⟩

set_option maxHeartbeats 4000000 in
set_option maxRecDepth 100000 in
theorem fair_1 (A : Option Addr) (n c : Nat) (L : List Od) (qty lot : Int) (hlot : InR lot) (w : World) (HO : Ods w A n L) (h1 : ¬ 64 < n) (hok : ShOk (qs L) qty lot) :
    Calls Try.prog 4 #[.int .i64 1, .slice A n c, .int .i64 qty, .int .i64 lot] w fun e w' => e = .returned (.bool true) ∧ Below w.heap.size w w' := by
  have hn64 : n ≤ 64 := by omega
  have h1I : ¬ (64 : Int) < (n : Int) := by omega
  obtain ⟨T, hT⟩ : ∃ T, T = totN (qs L) lot := ⟨_, rfl⟩
  have HTot : Hid (∀ wr, Below w.heap.size w wr → Calls Try.prog 11 #[.slice A n c, .int .i64 lot] wr fun e w' => e = .returned (.int .i64 T) ∧ Below wr.heap.size wr w') := Lib.hid (by rw [hT]; exact tot_on (wr := w) hlot HO (by omega))
  have hTs : T = sumT lot (qs L) := hT.trans hok.t
  have HS : Hid (Calls Try.prog 9 #[.int .i64 1, .slice A n c, .int .i64 qty, .int .i64 lot] w (Shd w n (outN 1 (allN lot qty T) T lot (qs L)))) := Lib.hid (by rw [hTs]; exact share_1 A n c L qty lot hlot w HO (by omega) hok)
  have hab := all_bd hok
  have hmd := allN_mod lot qty (qs L)
  have hql := Lib.hid (show (qs L).length = n by rw [qs_len]; exact HO.1)
  have hT2 : 0 < T ∧ T ≤ 70368744177664 := by rw [hTs]; exact ⟨hok.t1, hok.t2⟩
  have n0 : 0 < n := by
    rcases Nat.eq_zero_or_pos n with h | h
    · have h2 := hok.t1
      have h3 : qs L = [] := List.length_eq_zero_iff.1 (by rw [hql.out]; exact h)
      rw [h3] at h2
      exact absurd h2 (by simp [sumT])
    · exact h
  have hall : allN lot qty (sumT lot (qs L)) = min (qty - qty % lot) T := by
    rw [trim_own hok.l1 (by have := hok.y1; omega), hTs]; rfl
  obtain ⟨all, eall⟩ : ∃ a, a = allN lot qty (sumT lot (qs L)) := ⟨_, rfl⟩
  rw [← eall] at hall hab hmd
  rw [hTs, ← eall, ← hTs] at HS
  have HK := Lib.hid hok
  have HT := Lib.hid hTs
  have HM := Lib.hid hmd
  have g1 := hok.l1
  have g2 := hok.l2
  have g3 : (lot == 0) = false := by simp; omega
  have g4 : ¬ lot = 0 := by omega
  have lg : decide (lot < 1) = false := decide_eq_false (by omega)
  have tg : decide (T < 0) = false := decide_eq_false (by omega)
  have tp : decide (0 < T) = true := decide_eq_true (by omega)
  have y1 := hok.y1
  have y2 := hok.y2
  have ng : ((n : Int) == 0) = false := by simp; omega
  have nn : ((n : Int) != (n : Int)) = false := by simp
  have nn2 : ((n : Int) == (n : Int)) = true := by simp
  have hqr := Int.emod_nonneg qty g4
  have hqr2 : qty % lot ≤ qty := by
    have := Int.emod_lt_of_pos qty (show 0 < lot by omega)
    have h3 := trim_own hok.l1 (show (0 : Int) ≤ qty by omega)
    have h4 := trim_rng (lot := lot) (q := qty) hok.l1 (by omega)
    omega
  have emin : min (qty - qty % lot) T = all := hall.symm
  have HOd : Aside (Ods w A n L) := HO
  have hS1 := outS_all (mode := 1) hok.l1 hok.q hab.1 hab.2 hok.t1
  rw [← hTs, hql.out] at hS1
  have HS1 := Lib.hid hS1
  have ht0 : (T == 0) = false := by simp; omega
  rw [← hTs] at hab
  clear hT hTs eall hall hmd hok HO h1 hlot hS1
  go_enter Try.func4, Try.ntmps4
  go_wp2_with fail
  ((with_reducible refine HS.out.mono ?_); rintro e w2 ⟨b, rfl, hb, b2, hrow⟩)
  have hrw := Lib.hid hrow
  have C := HTot.out w2 b2
  clear HS HTot hrow
  go_wp2_with fail
  ((with_reducible refine C.mono ?_); rintro e w3 ⟨rfl, b3⟩)
  have B3 : Hid (Below w.heap.size w w3) := Lib.hid (b2.trans (b3.mono b2.size))
  have HR : Hid (w3.rowIs b 2 n (fun i => .int .i64 (outN 1 all T lot (qs L) i))) := Lib.hid (hrw.out.of_block (b3.block _ hrw.out.lt))
  clear C b2 b3 hrw hb
  go_wp2_with fail
  go_loopg [11, 82] n (fun kx s11 s82 wr => ∃ k : Nat, s82 = .int .i64 k ∧ k ≤ n ∧ n - k ≤ kx ∧ s11 = .int .i64 (outS 1 all T lot (qs L) k) ∧ Hid (Below w3.heap.size w3 wr))
  case atStart => exact ⟨0, rfl, by omega, by omega, rfl, Lib.hid (Below.refl _ _)⟩
  case round =>
    obtain ⟨k, rfl, hk, hkx, rfl, hB⟩ := hrel
    by_cases hlt : k < n
    · have hltI : (k : Int) < (n : Int) := by omega
      have hk0 : (0 : Int) ≤ (k : Int) := by omega
      have c1 : wr.cell? ⟨b, k, none⟩ = some (.int .i64 (outN 1 all T lot (qs L) k)) := (HR.out.of_block (hB.out.block _ HR.out.lt)).cell hlt
      have HO2 : Ods wr A n L := HOd.out.below ((B3.out.trans (hB.out.mono B3.out.size)))
      obtain ⟨b2, off, rfl, hb, hc⟩ : ∃ b off, A = some ⟨b, off, none⟩ ∧ b < wr.heap.size ∧ ∀ i, i < n → (L[i]!).at wr b (off + i * 6) := by
        rcases HO2.2.2.2 with h | h
        · omega
        · exact h
      have kq := (hc k hlt).2.2.2.2.1
      have hqq := qs_get L k (by rw [HO2.1]; exact hlt)
      have haT : all ≤ sumT lot (qs L) := by rw [← HT.out]; exact hab.2
      have hrng := outN_rng (mode := 1) HK.out.l1 HK.out.q hab.1 haT HK.out.t1 k (by rw [hql.out]; exact hlt)
      have hsr := outS_rng (mode := 1) HK.out.l1 HK.out.q hab.1 haT HK.out.t1 k (by rw [hql.out]; exact hk)
      have hmod := outN_mod (mode := 1) HK.out.l1 HK.out.q hab.1 haT HK.out.t1 HM.out k (by rw [hql.out]; exact hlt)
      have htl := trim_le_sum HK.out.l1 HK.out.q k (by rw [hql.out]; exact hlt)
      have hstk := sumT_take_le HK.out.l1 HK.out.q k
      rw [← HT.out] at hrng hsr hmod htl hstk
      have hgd := getD_ok HK.out.q k
      have htr := trim_rng (lot := lot) HK.out.l1 hgd.1
      have hown := trim_own (lot := lot) HK.out.l1 hgd.1
      have HST := Lib.hid (show outS 1 all T lot (qs L) (k + 1) = outS 1 all T lot (qs L) k + outN 1 all T lot (qs L) k from rfl)
      rw [hqq] at hgd htr hown hrng htl
      have hrem := Int.emod_nonneg L[k]!.qty g4
      have hs2 : 0 ≤ outS 1 all T lot (qs L) k ∧ outS 1 all T lot (qs L) k ≤ 70368744177664 := by omega
      clear hsr hstk hqq hc HO2 haT
      generalize outS 1 all T lot (qs L) k = S at *
      generalize outN 1 all T lot (qs L) k = z at *
      generalize L[k]!.qty = q at *
      generalize trimN lot q = t at *
      obtain ⟨z0, z1, _⟩ := hrng
      have HOW : q.tmod lot = q % lot := Int.tmod_eq_emod_of_nonneg hgd.1
      generalize q % lot = rr at *
      have hwr : IntKind.i64.wrap (q - rr) = t := by rw [IntKind.wrap_i64]; omega
      have f1 : decide (z < 0) = false := decide_eq_false (by omega)
      have f2 : decide (q < z) = false := decide_eq_false (by omega)
      have f3 : (z % lot == 0) = true := by rw [hmod]; rfl
      have f4 : (z % lot != 0) = false := by rw [hmod]; rfl
      have f5 : ¬ q < z := by omega
      have f6 : ¬ z < 0 := by omega
      have z2 : z ≤ 1099511627776 := by omega
      clear hmod
      go_wp2_with fail
      go_quiet (fail)
      have hN : Hid (Below w3.heap.size w3 (wr.drewN nq)) := Lib.hid (below_drewN hB.out nq)
      clear hwr HOW hown
      go_wp2_with fail
      go_roundg (n - (k + 1))
      case measure => omega
      case rel => exact ⟨k + 1, by go_num, by omega, by omega, by rw [HST.out], hN⟩
    · have hltI : ¬ (k : Int) < (n : Int) := by omega
      obtain rfl : k = n := by omega
      rw [HS1.out]
      have ee : (all == all) = true := by simp
      have B1 := B3.out.trans (hB.out.mono B3.out.size)
      go_wp2_with ((with_reducible refine (lives16_c _).mono ?_); rintro e w5 ⟨rfl, b5⟩)
      go_ret
      exact ⟨rfl, B1.trans (b5.mono B1.size)⟩

set_option maxHeartbeats 4000000 in
set_option maxRecDepth 100000 in
theorem fair_2 (A : Option Addr) (n c : Nat) (L : List Od) (qty lot : Int) (hlot : InR lot) (w : World) (HO : Ods w A n L) (h1 : ¬ 64 < n) (hok : ShOk (qs L) qty lot) :
    Calls Try.prog 4 #[.int .i64 2, .slice A n c, .int .i64 qty, .int .i64 lot] w fun e w' => e = .returned (.bool true) ∧ Below w.heap.size w w' := by
  have hn64 : n ≤ 64 := by omega
  have h1I : ¬ (64 : Int) < (n : Int) := by omega
  obtain ⟨T, hT⟩ : ∃ T, T = totN (qs L) lot := ⟨_, rfl⟩
  have HTot : Hid (∀ wr, Below w.heap.size w wr → Calls Try.prog 11 #[.slice A n c, .int .i64 lot] wr fun e w' => e = .returned (.int .i64 T) ∧ Below wr.heap.size wr w') := Lib.hid (by rw [hT]; exact tot_on (wr := w) hlot HO (by omega))
  have hTs : T = sumT lot (qs L) := hT.trans hok.t
  have HS : Hid (Calls Try.prog 9 #[.int .i64 2, .slice A n c, .int .i64 qty, .int .i64 lot] w (Shd w n (outN 2 (allN lot qty T) T lot (qs L)))) := Lib.hid (by rw [hTs]; exact share_2 A n c L qty lot hlot w HO (by omega) hok)
  have hab := all_bd hok
  have hmd := allN_mod lot qty (qs L)
  have hql := Lib.hid (show (qs L).length = n by rw [qs_len]; exact HO.1)
  have hT2 : 0 < T ∧ T ≤ 70368744177664 := by rw [hTs]; exact ⟨hok.t1, hok.t2⟩
  have n0 : 0 < n := by
    rcases Nat.eq_zero_or_pos n with h | h
    · have h2 := hok.t1
      have h3 : qs L = [] := List.length_eq_zero_iff.1 (by rw [hql.out]; exact h)
      rw [h3] at h2
      exact absurd h2 (by simp [sumT])
    · exact h
  have hall : allN lot qty (sumT lot (qs L)) = min (qty - qty % lot) T := by
    rw [trim_own hok.l1 (by have := hok.y1; omega), hTs]; rfl
  obtain ⟨all, eall⟩ : ∃ a, a = allN lot qty (sumT lot (qs L)) := ⟨_, rfl⟩
  rw [← eall] at hall hab hmd
  rw [hTs, ← eall, ← hTs] at HS
  have HK := Lib.hid hok
  have HT := Lib.hid hTs
  have HM := Lib.hid hmd
  have g1 := hok.l1
  have g2 := hok.l2
  have g3 : (lot == 0) = false := by simp; omega
  have g4 : ¬ lot = 0 := by omega
  have lg : decide (lot < 1) = false := decide_eq_false (by omega)
  have tg : decide (T < 0) = false := decide_eq_false (by omega)
  have tp : decide (0 < T) = true := decide_eq_true (by omega)
  have y1 := hok.y1
  have y2 := hok.y2
  have ng : ((n : Int) == 0) = false := by simp; omega
  have nn : ((n : Int) != (n : Int)) = false := by simp
  have nn2 : ((n : Int) == (n : Int)) = true := by simp
  have hqr := Int.emod_nonneg qty g4
  have hqr2 : qty % lot ≤ qty := by
    have := Int.emod_lt_of_pos qty (show 0 < lot by omega)
    have h3 := trim_own hok.l1 (show (0 : Int) ≤ qty by omega)
    have h4 := trim_rng (lot := lot) (q := qty) hok.l1 (by omega)
    omega
  have emin : min (qty - qty % lot) T = all := hall.symm
  have HOd : Aside (Ods w A n L) := HO
  have hS1 := outS_all (mode := 2) hok.l1 hok.q hab.1 hab.2 hok.t1
  rw [← hTs, hql.out] at hS1
  have HS1 := Lib.hid hS1
  have ht0 : (T == 0) = false := by simp; omega
  rw [← hTs] at hab
  clear hT hTs eall hall hmd hok HO h1 hlot hS1
  go_enter Try.func4, Try.ntmps4
  go_wp2_with fail
  ((with_reducible refine HS.out.mono ?_); rintro e w2 ⟨b, rfl, hb, b2, hrow⟩)
  have hrw := Lib.hid hrow
  have C := HTot.out w2 b2
  clear HS HTot hrow
  go_wp2_with fail
  ((with_reducible refine C.mono ?_); rintro e w3 ⟨rfl, b3⟩)
  have B3 : Hid (Below w.heap.size w w3) := Lib.hid (b2.trans (b3.mono b2.size))
  have HR : Hid (w3.rowIs b 2 n (fun i => .int .i64 (outN 2 all T lot (qs L) i))) := Lib.hid (hrw.out.of_block (b3.block _ hrw.out.lt))
  clear C b2 b3 hrw hb
  go_wp2_with fail
  go_loopg [11, 82] n (fun kx s11 s82 wr => ∃ k : Nat, s82 = .int .i64 k ∧ k ≤ n ∧ n - k ≤ kx ∧ s11 = .int .i64 (outS 2 all T lot (qs L) k) ∧ Hid (Below w3.heap.size w3 wr))
  case atStart => exact ⟨0, rfl, by omega, by omega, rfl, Lib.hid (Below.refl _ _)⟩
  case round =>
    obtain ⟨k, rfl, hk, hkx, rfl, hB⟩ := hrel
    by_cases hlt : k < n
    · have hltI : (k : Int) < (n : Int) := by omega
      have hk0 : (0 : Int) ≤ (k : Int) := by omega
      have c1 : wr.cell? ⟨b, k, none⟩ = some (.int .i64 (outN 2 all T lot (qs L) k)) := (HR.out.of_block (hB.out.block _ HR.out.lt)).cell hlt
      have HO2 : Ods wr A n L := HOd.out.below ((B3.out.trans (hB.out.mono B3.out.size)))
      obtain ⟨b2, off, rfl, hb, hc⟩ : ∃ b off, A = some ⟨b, off, none⟩ ∧ b < wr.heap.size ∧ ∀ i, i < n → (L[i]!).at wr b (off + i * 6) := by
        rcases HO2.2.2.2 with h | h
        · omega
        · exact h
      have kq := (hc k hlt).2.2.2.2.1
      have hqq := qs_get L k (by rw [HO2.1]; exact hlt)
      have haT : all ≤ sumT lot (qs L) := by rw [← HT.out]; exact hab.2
      have hrng := outN_rng (mode := 2) HK.out.l1 HK.out.q hab.1 haT HK.out.t1 k (by rw [hql.out]; exact hlt)
      have hsr := outS_rng (mode := 2) HK.out.l1 HK.out.q hab.1 haT HK.out.t1 k (by rw [hql.out]; exact hk)
      have hmod := outN_mod (mode := 2) HK.out.l1 HK.out.q hab.1 haT HK.out.t1 HM.out k (by rw [hql.out]; exact hlt)
      have htl := trim_le_sum HK.out.l1 HK.out.q k (by rw [hql.out]; exact hlt)
      have hstk := sumT_take_le HK.out.l1 HK.out.q k
      have hpart := outN_part (mode := 2) HK.out.l1 HK.out.q hab.1 haT HK.out.t1 rfl k (by rw [hql.out]; exact hlt)
      rw [← HT.out] at hrng hsr hmod htl hstk hpart
      have hgd := getD_ok HK.out.q k
      have htr := trim_rng (lot := lot) HK.out.l1 hgd.1
      have hown := trim_own (lot := lot) HK.out.l1 hgd.1
      have HST := Lib.hid (show outS 2 all T lot (qs L) (k + 1) = outS 2 all T lot (qs L) k + outN 2 all T lot (qs L) k from rfl)
      rw [hqq] at hgd htr hown hrng htl hpart
      have hrem := Int.emod_nonneg L[k]!.qty g4
      have hs2 : 0 ≤ outS 2 all T lot (qs L) k ∧ outS 2 all T lot (qs L) k ≤ 70368744177664 := by omega
      clear hsr hstk hqq hc HO2 haT
      generalize outS 2 all T lot (qs L) k = S at *
      generalize outN 2 all T lot (qs L) k = z at *
      generalize L[k]!.qty = q at *
      generalize trimN lot q = t at *
      obtain ⟨z0, z1, _⟩ := hrng
      have HOW : q.tmod lot = q % lot := Int.tmod_eq_emod_of_nonneg hgd.1
      generalize q % lot = rr at *
      have hwr : IntKind.i64.wrap (q - rr) = t := by rw [IntKind.wrap_i64]; omega
      have f1 : decide (z < 0) = false := decide_eq_false (by omega)
      have f2 : decide (q < z) = false := decide_eq_false (by omega)
      have f3 : (z % lot == 0) = true := by rw [hmod]; rfl
      have f4 : (z % lot != 0) = false := by rw [hmod]; rfl
      have f5 : ¬ q < z := by omega
      have f6 : ¬ z < 0 := by omega
      have z2 : z ≤ 1099511627776 := by omega
      clear hmod
      by_cases sm : T < 1048576
      · have s1 : decide (T < 1048576) = true := decide_eq_true sm
        obtain ⟨m1, m2⟩ := mul_small hab.1 htr.1 htl hab.2 sm
        obtain ⟨P, hP⟩ : ∃ P, all * t = P := ⟨_, rfl⟩
        rw [hP] at m1 m2 hpart
        have d0 : 0 ≤ P / T := Int.ediv_nonneg m1 (by omega)
        have d1 : P / T ≤ P := Int.ediv_le_self _ m1
        have HD : Hid (all * t = P) := Lib.hid hP
        have hwP : IntKind.i64.wrap (all * t) = P := by rw [hP, IntKind.wrap_i64]; omega
        have d2 : ¬ lot ≤ P / T - z := by omega
        have d3 : decide (lot ≤ P / T - z) = false := decide_eq_false d2
        have hT0 : ¬ T = 0 := by omega
        go_wp2_with fail
        go_quiet (fail)
        have hN : Hid (Below w3.heap.size w3 (wr.drewN nq)) := Lib.hid (below_drewN hB.out nq)
        clear hwr HOW hown
        go_wp2_with fail
        go_roundg (n - (k + 1))
        case measure => omega
        case rel => exact ⟨k + 1, by go_num, by omega, by omega, by rw [HST.out], hN⟩
      · have s1 : decide (T < 1048576) = false := decide_eq_false sm
        clear hpart
        go_wp2_with fail
        go_quiet (fail)
        have hN : Hid (Below w3.heap.size w3 (wr.drewN nq)) := Lib.hid (below_drewN hB.out nq)
        clear hwr HOW hown
        go_wp2_with fail
        go_roundg (n - (k + 1))
        case measure => omega
        case rel => exact ⟨k + 1, by go_num, by omega, by omega, by rw [HST.out], hN⟩
    · have hltI : ¬ (k : Int) < (n : Int) := by omega
      obtain rfl : k = n := by omega
      rw [HS1.out]
      have ee : (all == all) = true := by simp
      have B1 := B3.out.trans (hB.out.mono B3.out.size)
      go_wp2_with ((with_reducible refine (lives16_c _).mono ?_); rintro e w5 ⟨rfl, b5⟩)
      go_ret
      exact ⟨rfl, B1.trans (b5.mono B1.size)⟩

theorem fair_w (mode : Int) (A : Option Addr) (n c : Nat) (L : List Od) (qty lot : Int) (hlot : InR lot) (w : World) (HO : Ods w A n L) :
    Calls Try.prog 4 #[.int .i64 mode, .slice A n c, .int .i64 qty, .int .i64 lot] w fun e w' => e = .returned (.bool true) ∧ Below w.heap.size w w' := by
  by_cases h1 : 64 < n
  · exact fair_big mode A n c qty lot w h1
  by_cases h : NoSh mode (qs L) qty lot
  · exact fair_no mode A n c L qty lot hlot w HO h1 h
  · obtain ⟨hm, hok⟩ := shOk h
    rcases hm with rfl | rfl
    · exact fair_1 A n c L qty lot hlot w HO h1 hok
    · exact fair_2 A n c L qty lot hlot w HO h1 hok
end Go.Proofs.Ythpgbghcmfjjoaa
