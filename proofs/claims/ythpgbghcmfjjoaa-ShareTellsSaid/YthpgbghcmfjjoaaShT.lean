/- share: ShareTime, walked. -/
import Derived.Test.YthpgbghcmfjjoaaShE
namespace Go.Proofs.Ythpgbghcmfjjoaa
open Go.RowKit Go.Lib
set_option linter.unusedVariables false

/-- What Share tells, where there is something, and where there is nothing. -/
def ShAny (w : World) (mode : Int) (n : Nat) (Q : List Int) (qty lot : Int) (e : Ending) (w' : World) : Prop :=
  ∃ A m c, e = .returned (.slice A m c) ∧ Hid (Below w.heap.size w w' ∧ RowN w' A m (outN mode (allN lot qty (sumT lot Q)) (sumT lot Q) lot Q) ∧ ((m = 0 ∧ NoSh mode Q qty lot) ∨ (m = n ∧ (mode = 1 ∨ mode = 2) ∧ ShOk Q qty lot))) ∧ m ≤ n
theorem share_any (mode : Int) (A : Option Addr) (n c : Nat) (L : List Od) (qty lot : Int) (hlot : InR lot) (w : World) (HO : Ods w A n L) (hn : n ≤ 1000) :
    Calls Try.prog 9 #[.int .i64 mode, .slice A n c, .int .i64 qty, .int .i64 lot] w (ShAny w mode n (qs L) qty lot) := by
  by_cases h : NoSh mode (qs L) qty lot
  · exact (share_no mode A n c L qty lot hlot w HO hn h).mono fun e w' hh => ⟨none, 0, 0, hh.1, Lib.hid ⟨hh.2, .inl rfl, .inl ⟨rfl, h⟩⟩, by omega⟩
  · obtain ⟨hm, hok⟩ := shOk h
    rcases hm with rfl | rfl
    · exact (share_1 A n c L qty lot hlot w HO hn hok).mono fun e w' ⟨b, h1, h2, h3, h4⟩ => ⟨_, n, n, h1, Lib.hid ⟨h3, RowN.of h4, .inr ⟨rfl, .inl rfl, hok⟩⟩, Nat.le_refl _⟩
    · exact (share_2 A n c L qty lot hlot w HO hn hok).mono fun e w' ⟨b, h1, h2, h3, h4⟩ => ⟨_, n, n, h1, Lib.hid ⟨h3, RowN.of h4, .inr ⟨rfl, .inr rfl, hok⟩⟩, Nat.le_refl _⟩

/-- Has one of the first k something left? -/
def opn (f : Nat → Int) (lot : Int) (Q : List Int) : Nat → Bool
  | 0 => false
  | k + 1 => opn f lot Q k || decide (f k < trimN lot (Q.getD k 0))
theorem opn_some {f : Nat → Int} {lot : Int} {Q : List Int} {k : Nat} (h : opn f lot Q k = true) : ∃ j, j < k ∧ f j < trimN lot (Q.getD j 0) := by
  induction k with
  | zero => exact absurd h (by simp [opn])
  | succ k ih =>
    simp only [opn, Bool.or_eq_true, decide_eq_true_eq] at h
    rcases h with h | h
    · obtain ⟨j, h1, h2⟩ := ih h; exact ⟨j, by omega, h2⟩
    · exact ⟨k, by omega, h⟩

set_option maxHeartbeats 4000000 in
set_option maxRecDepth 100000 in
theorem time_w (A : Option Addr) (n c : Nat) (L : List Od) (qty lot : Int) (hlot : InR lot) (w : World) (HO : Ods w A n L) :
    Calls Try.prog 5 #[.slice A n c, .int .i64 qty, .int .i64 lot] w fun e w' => e = .returned (.bool true) ∧ Below w.heap.size w w' := by
  by_cases h1 : 64 < n
  · have h1I : (64 : Int) < (n : Int) := by omega
    clear HO
    go_enter Try.func5, Try.ntmps5
    go_wp2_with ((with_reducible refine (lives16_c _).mono ?_); rintro e w1 ⟨rfl, b1⟩)
    go_ret
    exact ⟨rfl, b1⟩
  have h1I : ¬ (64 : Int) < (n : Int) := by omega
  by_cases h2 : lot < 1
  · clear HO h1
    go_enter Try.func5, Try.ntmps5
    go_wp2_with ((with_reducible refine (lives16_c _).mono ?_); rintro e w1 ⟨rfl, b1⟩)
    go_ret
    exact ⟨rfl, b1⟩
  have HS : Hid (Calls Try.prog 9 #[.int .i64 1, .slice A n c, .int .i64 qty, .int .i64 lot] w (ShAny w 1 n (qs L) qty lot)) := Lib.hid (share_any 1 A n c L qty lot hlot w HO (by omega))
  have HOd : Aside (Ods w A n L) := HO
  have hql := Lib.hid (show (qs L).length = n by rw [qs_len]; exact HO.1)
  have g1 : 1 ≤ lot := by omega
  have g2 : lot ≤ 9223372036854775807 := hlot.2
  have g3 : (lot == 0) = false := by simp; omega
  have g4 : ¬ lot = 0 := by omega
  have hn64 : n ≤ 64 := by omega
  clear HO h1 h2 hlot
  go_enter Try.func5, Try.ntmps5
  go_wp2_with fail
  ((with_reducible refine HS.out.mono ?_); rintro e w1 ⟨B, m, cc, rfl, hh, hmn⟩)
  clear HS
  have HF : Hid (∃ f, f = outN 1 (allN lot qty (sumT lot (qs L))) (sumT lot (qs L)) lot (qs L)) := Lib.hid ⟨_, rfl⟩
  go_wp2_with fail
  go_loopg [7, 23] m (fun kx s7 s23 wr => ∃ k : Nat, s23 = .int .i64 k ∧ k ≤ m ∧ m - k ≤ kx ∧ s7 = .bool (opn (outN 1 (allN lot qty (sumT lot (qs L))) (sumT lot (qs L)) lot (qs L)) lot (qs L) k) ∧ Hid (Below w1.heap.size w1 wr))
  case atStart => exact ⟨0, rfl, by omega, by omega, rfl, Lib.hid (Below.refl _ _)⟩
  case round =>
    obtain ⟨k, rfl, hk, hkx, rfl, hB⟩ := hrel
    by_cases hlt : k < m
    · have hltI : (k : Int) < (m : Int) := by omega
      have hk0 : (0 : Int) ≤ (k : Int) := by omega
      have hkn : k < n := by omega
      have hknI : (k : Int) < (n : Int) := by omega
      have hkg : decide ((n : Int) ≤ (k : Int)) = false := decide_eq_false (by omega)
      obtain ⟨b, rfl, _, hcb⟩ : ∃ b, B = some ⟨b, 0, none⟩ ∧ b < wr.heap.size ∧ ∀ i, i < m → wr.cell? ⟨b, i, none⟩ = some (.int .i64 (outN 1 (allN lot qty (sumT lot (qs L))) (sumT lot (qs L)) lot (qs L) i)) := by
        rcases hh.out.2.1.below hB.out with h | h
        · omega
        · exact h
      have c1 := hcb k hlt
      have hok : ShOk (qs L) qty lot := by
        rcases hh.out.2.2 with ⟨h, _⟩ | ⟨_, _, h⟩
        · omega
        · exact h
      have HO2 : Ods wr A n L := HOd.out.below ((hh.out.1.trans (hB.out.mono hh.out.1.size)))
      obtain ⟨b2, off, rfl, hb, hc⟩ : ∃ b off, A = some ⟨b, off, none⟩ ∧ b < wr.heap.size ∧ ∀ i, i < n → (L[i]!).at wr b (off + i * 6) := by
        rcases HO2.2.2.2 with h | h
        · omega
        · exact h
      have kq := (hc k hkn).2.2.2.2.1
      have hqq := qs_get L k (by rw [HO2.1]; exact hkn)
      have hab := all_bd hok
      have htime := outN_time (mode := 1) hok.l1 hok.q hab.1 hab.2 hok.t1 rfl k (by rw [hql.out]; exact hkn)
      have hrng := outN_rng (mode := 1) hok.l1 hok.q hab.1 hab.2 hok.t1 k (by rw [hql.out]; exact hkn)
      have hgd := getD_ok hok.q k
      have htr := trim_rng (lot := lot) hok.l1 hgd.1
      have hown := trim_own (lot := lot) hok.l1 hgd.1
      have hst : opn (outN 1 (allN lot qty (sumT lot (qs L))) (sumT lot (qs L)) lot (qs L)) lot (qs L) (k + 1) = (opn (outN 1 (allN lot qty (sumT lot (qs L))) (sumT lot (qs L)) lot (qs L)) lot (qs L) k || decide (outN 1 (allN lot qty (sumT lot (qs L))) (sumT lot (qs L)) lot (qs L) k < trimN lot ((qs L).getD k 0))) := rfl
      have hz0 : opn (outN 1 (allN lot qty (sumT lot (qs L))) (sumT lot (qs L)) lot (qs L)) lot (qs L) k = true → outN 1 (allN lot qty (sumT lot (qs L))) (sumT lot (qs L)) lot (qs L) k = 0 := by
        intro h
        obtain ⟨j, hj, hf⟩ := opn_some h
        exact htime j hj hf
      rw [hqq] at hgd htr hown hst hrng
      have hrem := Int.emod_nonneg L[k]!.qty g4
      have hrem2 := Int.emod_lt_of_pos L[k]!.qty (show 0 < lot by omega)
      have HST := Lib.hid hst
      clear hst htime hqq hab hcb hc HO2 hok
      generalize opn (outN 1 (allN lot qty (sumT lot (qs L))) (sumT lot (qs L)) lot (qs L)) lot (qs L) k = op at *
      generalize outN 1 (allN lot qty (sumT lot (qs L))) (sumT lot (qs L)) lot (qs L) k = z at *
      generalize L[k]!.qty = q at *
      generalize trimN lot q = t at *
      have HOW : q.tmod lot = q % lot := Int.tmod_eq_emod_of_nonneg hgd.1
      generalize q % lot = rr at *
      have hwr : IntKind.i64.wrap (q - rr) = t := by rw [IntKind.wrap_i64]; omega
      have hw2 : q - rr = t := hown
      cases op with
      | true =>
        have z0 : z = 0 := hz0 rfl
        subst z0
        clear hz0 hrng
        go_wp2_with fail
        go_quiet (fail)
        have hN : Hid (Below w1.heap.size w1 (wr.drewN nq)) := Lib.hid (below_drewN hB.out nq)
        go_wp2_with fail
        go_roundg (m - (k + 1))
        case measure => omega
        case rel => exact ⟨k + 1, by go_num, by omega, by omega, by rw [HST.out]; rfl, hN⟩
      | false =>
        clear hz0
        cases hd : decide (z < t) with
        | true =>
          go_wp2_with fail
          go_quiet (fail)
          have hN : Hid (Below w1.heap.size w1 (wr.drewN nq)) := Lib.hid (below_drewN hB.out nq)
          have hr : Hid (opn (outN 1 (allN lot qty (sumT lot (qs L))) (sumT lot (qs L)) lot (qs L)) lot (qs L) (k + 1) = true) := Lib.hid (by rw [HST.out]; exact hd)
          clear hwr hw2 HOW hown hd HST
          go_wp2_with fail
          go_roundg (m - (k + 1))
          case measure => omega
          case rel => exact ⟨k + 1, by go_num, by omega, by omega, by rw [hr.out], hN⟩
        | false =>
          go_wp2_with fail
          go_quiet (fail)
          have hN : Hid (Below w1.heap.size w1 (wr.drewN nq)) := Lib.hid (below_drewN hB.out nq)
          have hr : Hid (opn (outN 1 (allN lot qty (sumT lot (qs L))) (sumT lot (qs L)) lot (qs L)) lot (qs L) (k + 1) = false) := Lib.hid (by rw [HST.out]; exact hd)
          clear hwr hw2 HOW hown hd HST
          go_wp2_with fail
          go_roundg (m - (k + 1))
          case measure => omega
          case rel => exact ⟨k + 1, by go_num, by omega, by omega, by rw [hr.out], hN⟩
    · have hltI : ¬ (k : Int) < (m : Int) := by omega
      have B1 := hh.out.1.trans (hB.out.mono hh.out.1.size)
      go_wp2_with ((with_reducible refine (lives16_c _).mono ?_); rintro e w3 ⟨rfl, b3⟩)
      go_ret
      exact ⟨rfl, B1.trans (b3.mono B1.size)⟩
end Go.Proofs.Ythpgbghcmfjjoaa
