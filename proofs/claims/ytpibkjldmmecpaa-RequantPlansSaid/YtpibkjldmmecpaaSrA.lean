/- slices.swapRangeCmpFunc. -/
import Derived.Test.YtpibkjldmmecpaaSrM
namespace Go.Proofs.Ytpibkjldmmecpaa
open Go.RowKit Go.Sort Go.Lib Go.Shelf

set_option maxHeartbeats 4000000 in
set_option maxRecDepth 1000000 in
theorem swapRange_c (k : Nat) (aE : ∀ w, (isAgg 29).run Try.prog w = .ok true w) (zE : ∀ w, (Go.sizeOf 29).run Try.prog w = .ok k w) (enc : Dd → List Value) (f : Value) (blk off cap a b n : Nat) (d0 d : Array Dd) (w0 w : World)
    (R : RowK enc k w0 blk off d0) (hs : d0.size = d.size) (S : SWK enc k w0 blk off d w) (hab : a + n ≤ b) (hb : b + n ≤ d.size) (hsz : d.size < 4611686018427387904) :
    Calls Try.prog 39 #[.slice (some ⟨blk, off, none⟩) d.size cap, .int .i64 a, .int .i64 b, .int .i64 n, f] w fun e w' => e = .returned (.tuple #[]) ∧
      ∃ d', SWK enc k w0 blk off d' w' ∧ PermIn a (b + n) d d' ∧ ∀ p, d'[p]! = d[sig a b n p]! := by
  have mixed : Try.prog.follows .mixedOrders = true := by kernel_rfl
  have S0 : Aside (SWK enc k w0 blk off d w) := S
  clear S
  go_enter Try.func39, Try.ntmps39
  go_wp2
  go_loopg [10] n (fun kx s10 wr => ∃ (i : Nat) (dk : Array Dd), s10 = .int .i64 i ∧ i ≤ n ∧ n - i ≤ kx ∧ dk.size = d.size ∧ Aside (SWK enc k w0 blk off dk wr) ∧ PermIn a (b + n) d dk ∧ Hid (∀ p, dk[p]! = d[sig a b i p]!))
  case atStart => exact ⟨0, d, rfl, by omega, by omega, rfl, S0, permIn_refl _ _ _, Lib.hid (fun p => by rw [sig_zero])⟩
  case round =>
    clear S0
    obtain ⟨i, dk, rfl, hin, hkx, hds, S1, HPm, HP⟩ := hrel
    by_cases hlt : i < n
    · have hltz : (i : Int) < (n : Int) := by omega
      go_wp2_with fail
      have ra : IntKind.i64.wrap ((a : Int) + (i : Int)) = ((a + i : Nat) : Int) := by rw [IntKind.wrap_i64]; omega
      have rb : IntKind.i64.wrap ((b : Int) + (i : Int)) = ((b + i : Nat) : Int) := by rw [IntKind.wrap_i64]; omega
      have S2 : Aside (SWK enc k w0 blk off (swp dk (a + i) (b + i)) ((wr.drew.setCells blk (off + (a + i) * k) (enc dk[b + i]!)).setCells blk (off + (b + i) * k) (enc dk[a + i]!))) := S1.out.swapped R (a + i) (b + i) (by omega) (by omega)
      have l44a := S1.out.ld1 R (by omega) Try.prog (a + i) (by omega)
      have l44b := S1.out.ld1 R (by omega) Try.prog (b + i) (by omega)
      have s44a := S1.out.st1 R (by omega) Try.prog (a + i) (by omega) dk[b + i]!
      have s44b := S1.out.st2 R (by omega) Try.prog (a + i) (b + i) (by omega) (by omega) dk[b + i]! dk[a + i]!
      have n44a : (enc dk[a + i]!).length = k := R.hk _
      have n44b : (enc dk[b + i]!).length = k := R.hk _
      have HPn : PermIn a (b + n) d (swp dk (a + i) (b + i)) := permIn_trans _ _ _ _ _ HPm (swp_permIn dk a (b + n) (a + i) (b + i) (by omega) (by omega) (by omega) (by omega) (by omega))
      have HQ : Hid (∀ p, (swp dk (a + i) (b + i))[p]! = d[sig a b (i + 1) p]!) := Lib.hid (fun p => by
        rw [swp_get dk (by omega) (by omega), HP.out, HP.out, HP.out]
        unfold sig
        (repeat' split) <;> first | omega | (congr 1; done) | (congr 1; omega))
      generalize enc dk[a + i]! = cI44 at S2 l44a s44b n44a
      generalize enc dk[b + i]! = cJ44 at S2 l44b s44a s44b n44b
      clear S1 HP HPm
      go_wp2_with fail
      go_big_region
      clear l44a l44b s44a s44b
      generalize (wr.drew.setCells blk (off + (a + i) * k) cJ44).setCells blk (off + (b + i) * k) cI44 = w2 at S2 ⊢
      go_wp2
      go_roundg (n - (i + 1))
      case measure => omega
      case rel => exact ⟨i + 1, swp dk (a + i) (b + i), by go_num, by omega, Nat.le_refl _, by rw [size_swp]; exact hds, S2, HPn, HQ⟩
    · have hltz : ¬ (i : Int) < (n : Int) := by omega
      go_wp2
      go_end0
      obtain rfl : i = n := by omega
      exact ⟨rfl, dk, S1.out, HPm, HP.out⟩

theorem swapRange_z (k : Nat) (aE : ∀ w, (isAgg 29).run Try.prog w = .ok true w) (zE : ∀ w, (Go.sizeOf 29).run Try.prog w = .ok k w) (enc : Dd → List Value) (f : Value) (blk off cap : Nat) (d0 : Array Dd) (w0 : World) (R : RowK enc k w0 blk off d0)
    (a b n : Nat) (za zb zn : Int) (ha : za = a) (hzb : zb = b) (hn : zn = n) (d : Array Dd) (w : World) (N : Nat) (hN : N = d.size) (hs : d0.size = d.size) (S : SWK enc k w0 blk off d w) (hab : a + n ≤ b) (hb : b + n ≤ d.size) (hsz : d.size < 4611686018427387904) :
    Calls Try.prog 39 #[.slice (some ⟨blk, off, none⟩) N cap, .int .i64 za, .int .i64 zb, .int .i64 zn, f] w fun e w' => e = .returned (.tuple #[]) ∧
      ∃ d', SWK enc k w0 blk off d' w' ∧ PermIn a (b + n) d d' ∧ ∀ p, d'[p]! = d[sig a b n p]! := by
  subst ha hzb hn hN
  exact swapRange_c k aE zE enc f blk off cap a b n d0 d w0 w R hs S hab hb hsz

set_option maxHeartbeats 4000000 in
set_option maxRecDepth 1000000 in
theorem rotate_c (k : Nat) (aE : ∀ w, (isAgg 29).run Try.prog w = .ok true w) (zE : ∀ w, (Go.sizeOf 29).run Try.prog w = .ok k w) (enc : Dd → List Value) (f : Value) (blk off cap a m b : Nat) (d0 d : Array Dd) (w0 w : World)
    (R : RowK enc k w0 blk off d0) (hs : d0.size = d.size) (S : SWK enc k w0 blk off d w) (ham : a < m) (hmb : m < b) (hb : b ≤ d.size) (hsz : d.size < 4611686018427387904) :
    Calls Try.prog 36 #[.slice (some ⟨blk, off, none⟩) d.size cap, .int .i64 a, .int .i64 m, .int .i64 b, f] w fun e w' => e = .returned (.tuple #[]) ∧
      ∃ d', SWK enc k w0 blk off d' w' ∧ PermIn a b d d' ∧ ∀ p, d'[p]! = d[rho a m b p]! := by
  have mixed : Try.prog.follows .mixedOrders = true := by kernel_rfl
  have S0 : Aside (SWK enc k w0 blk off d w) := S
  have HZ := Lib.hid (swapRange_z k aE zE enc f blk off cap d0 w0 R)
  clear S aE zE
  go_enter Try.func36, Try.ntmps36
  go_wp2
  go_loopg [10, 11] b (fun kx s10 s11 wr => ∃ (i j : Nat) (dk : Array Dd), s10 = .int .i64 i ∧ s11 = .int .i64 j ∧ 0 < i ∧ 0 < j ∧ i + a ≤ m ∧ m + j ≤ b ∧ i + j ≤ kx ∧ Aside (SWK enc k w0 blk off dk wr) ∧ PermIn a b d dk ∧ Hid (∀ p, dk[rho (m - i) m (m + j) p]! = d[rho a m b p]!))
  case atStart => exact ⟨m - a, b - m, d, by rw [Int.ofNat_sub (by omega)], by rw [Int.ofNat_sub (by omega)], by omega, by omega, by omega, by omega, by omega, S0, permIn_refl _ _ _, Lib.hid (fun p => by rw [show m - (m - a) = a by omega, show m + (b - m) = b by omega])⟩
  case round =>
    clear S0
    obtain ⟨i, j, dk, rfl, rfl, hi0, hj0, him, hjm, hkx, S1, HPm, HP⟩ := hrel
    have hds : dk.size = d.size := HPm.1
    have E : Hid (dk.size = d.size) := hds
    clear hds
    rcases Nat.lt_trichotomy i j with hlt | heq | hlt
    · have e1 : ((i : Int) != (j : Int)) = true := by simp; omega
      have e2 : ¬ (j : Int) < (i : Int) := by omega
      go_wp2_with (((with_reducible refine (HZ.out (m - i) (m + j - i) i _ _ _ ?_ ?_ ?_ dk _ d.size ?_ ?_ ?_ ?_ ?_ ?_).mono ?_); omega; omega; rfl; exact E.out.symm; (rw [E.out]; exact hs); exact S1.out; omega; (rw [E.out]; omega); (rw [E.out]; omega)); rintro e w2 ⟨rfl, d2, S2, P2, Q2⟩)
      have P3 : PermIn a b d d2 := permIn_trans _ _ _ _ _ HPm (permIn_mono _ _ _ _ _ _ (by omega) (by omega) (by rw [E.out]; exact hb) P2)
      have Q3 : Hid (∀ p, d2[rho (m - i) m (m + (j - i)) p]! = d[rho a m b p]!) := Lib.hid (fun p => by rw [Q2, rho_less i j m p (by omega) hlt, HP.out])
      have S3 : Aside (SWK enc k w0 blk off d2 w2) := S2
      clear S2 P2 Q2 S1 HP HPm
      go_roundg (j)
      case measure => omega
      case rel => exact ⟨i, j - i, d2, rfl, by rw [Int.ofNat_sub (by omega)], by omega, by omega, by omega, by omega, by omega, S3, P3, Q3⟩
    · subst heq
      have e1 : ((i : Int) != (i : Int)) = false := by simp
      go_wp2_with (((with_reducible refine (HZ.out (m - i) m i _ _ _ ?_ ?_ ?_ dk _ d.size ?_ ?_ ?_ ?_ ?_ ?_).mono ?_); omega; rfl; rfl; exact E.out.symm; (rw [E.out]; exact hs); exact S1.out; omega; (rw [E.out]; omega); (rw [E.out]; omega)); rintro e w2 ⟨rfl, d2, S2, P2, Q2⟩)
      have P3 : PermIn a b d d2 := permIn_trans _ _ _ _ _ HPm (permIn_mono _ _ _ _ _ _ (by omega) (by omega) (by rw [E.out]; exact hb) P2)
      have Q3 : ∀ p, d2[p]! = d[rho a m b p]! := fun p => by rw [Q2, rho_same i m p (by omega), HP.out]
      go_end0
      exact ⟨rfl, d2, S2, P3, Q3⟩
    · have e1 : ((i : Int) != (j : Int)) = true := by simp; omega
      have e2 : (j : Int) < (i : Int) := by omega
      go_wp2_with (((with_reducible refine (HZ.out (m - i) m j _ _ _ ?_ ?_ ?_ dk _ d.size ?_ ?_ ?_ ?_ ?_ ?_).mono ?_); omega; rfl; rfl; exact E.out.symm; (rw [E.out]; exact hs); exact S1.out; omega; (rw [E.out]; omega); (rw [E.out]; omega)); rintro e w2 ⟨rfl, d2, S2, P2, Q2⟩)
      have P3 : PermIn a b d d2 := permIn_trans _ _ _ _ _ HPm (permIn_mono _ _ _ _ _ _ (by omega) (by omega) (by rw [E.out]; exact hb) P2)
      have Q3 : Hid (∀ p, d2[rho (m - (i - j)) m (m + j) p]! = d[rho a m b p]!) := Lib.hid (fun p => by rw [Q2, rho_big m i j p (by omega) hlt, HP.out])
      have S3 : Aside (SWK enc k w0 blk off d2 w2) := S2
      clear S2 P2 Q2 S1 HP HPm
      go_roundg (i)
      case measure => omega
      case rel => exact ⟨i - j, j, d2, by rw [Int.ofNat_sub (by omega)], rfl, by omega, by omega, by omega, by omega, by omega, S3, P3, Q3⟩
end Go.Proofs.Ytpibkjldmmecpaa
