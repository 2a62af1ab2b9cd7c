/- math/bits: Div64 where its first number is not 0: the walk. -/
import Derived.Test.YthpgbghcmfjjoaaCoinD
import Derived.Test.YthpgbghcmfjjoaaDivP
import Derived.Deep.DeepCutAuto
import Derived.Deep.CutBlock
namespace Go.Proofs.Ythpgbghcmfjjoaa
open Go.RowKit

theorem u64_eq {a b : Int} (h : a = b) : Value.int .u64 a = .int .u64 b := by rw [h]
theorem wrap_prod {q y0 p : Nat} (hp : p = q * y0) (hq : q ≤ 4294967297) (h0 : y0 < 4294967296) : IntKind.u64.wrap ((q : Int) * (y0 : Int)) = (p : Int) := by
  rw [IntKind.wrap_u64, ← Int.natCast_mul, ← hp]
  have h1 : q * y0 ≤ 4294967297 * 4294967295 := Nat.mul_le_mul hq (by omega)
  omega

set_option maxHeartbeats 4000000 in
set_option maxRecDepth 100000 in
theorem Div64_core (hi lo y s Y y1 y0 H L u v u1 u0 g gy r t1 c1 c2 c3 m g2 gy2 r2 t0 d0 d1 d2 d3 d4 d5 m0 : Nat) (h0 : 0 < hi) (hlt : hi < y) (hy : y < 2 ^ 64) (hlo : lo < 2 ^ 64) (hs : s < 64)
    (E1 : IntKind.u64.wrap ((y : Int) * 2 ^ s) = (Y : Int)) (E2 : (Y : Int) / 4294967296 = (y1 : Int)) (E3 : bits .and .u64 (Y : Int) 4294967295 = (y0 : Int))
    (E4 : IntKind.u64.wrap ((hi : Int) * 2 ^ s) = (H : Int)) (E5 : (lo : Int) / 2 ^ (64 - s) = (L : Int)) (E6 : bits .or .u64 (H : Int) (L : Int) = (u : Int))
    (E7 : IntKind.u64.wrap ((lo : Int) * 2 ^ s) = (v : Int)) (E8 : (v : Int) / 4294967296 = (u1 : Int)) (E9 : bits .and .u64 (v : Int) 4294967295 = (u0 : Int))
    (E10 : (u : Int) / (y1 : Int) = (g : Int)) (E11 : IntKind.u64.wrap (g : Int) = (g : Int)) (E12 : IntKind.u64.wrap ((g : Int) * (y1 : Int)) = (gy : Int)) (E13 : IntKind.u64.wrap ((u : Int) - (gy : Int)) = (r : Int))
    (D1 : DigitIn y1 y0 u u1) (S1 : Digit y1 y0 u u1 g r) (T1 : t1 = (u * 4294967296 + u1) / (y1 * 4294967296 + y0))
    (E14 : IntKind.u64.wrap ((u : Int) * 4294967296) = (c1 : Int)) (E15 : IntKind.u64.wrap ((c1 : Int) + (u1 : Int)) = (c2 : Int)) (E16 : IntKind.u64.wrap ((t1 : Int) * (Y : Int)) = (c3 : Int)) (E17 : IntKind.u64.wrap ((c2 : Int) - (c3 : Int)) = (m : Int))
    (E18 : (m : Int) / (y1 : Int) = (g2 : Int)) (E19 : IntKind.u64.wrap (g2 : Int) = (g2 : Int)) (E20 : IntKind.u64.wrap ((g2 : Int) * (y1 : Int)) = (gy2 : Int)) (E21 : IntKind.u64.wrap ((m : Int) - (gy2 : Int)) = (r2 : Int))
    (D2 : DigitIn y1 y0 m u0) (S2 : Digit y1 y0 m u0 g2 r2) (T2 : t0 = (m * 4294967296 + u0) / (y1 * 4294967296 + y0))
    (E22 : IntKind.u64.wrap ((t1 : Int) * 4294967296) = (d0 : Int)) (E23 : IntKind.u64.wrap ((d0 : Int) + (t0 : Int)) = (d1 : Int))
    (E24 : IntKind.u64.wrap ((m : Int) * 4294967296) = (d2 : Int)) (E25 : IntKind.u64.wrap ((d2 : Int) + (u0 : Int)) = (d3 : Int)) (E26 : IntKind.u64.wrap ((t0 : Int) * (Y : Int)) = (d4 : Int)) (E27 : IntKind.u64.wrap ((d3 : Int) - (d4 : Int)) = (d5 : Int)) (E28 : (d5 : Int) / 2 ^ s = (m0 : Int))
    (hu : u < 18446744073709551616) (hm : m < 18446744073709551616)
    (HZ : ∀ w, Calls Try.prog 35 #[.int .u64 (y : Int)] w fun e w' => e = .returned (.int .i64 (s : Int)) ∧ w = w') (w : World) :
    Calls Try.prog 21 #[.int .u64 (hi : Int), .int .u64 (lo : Int), .int .u64 (y : Int)] w fun e w' => e = .returned (.tuple #[.int .u64 (d1 : Int), .int .u64 (m0 : Int)]) ∧ w = w' := by
  have HZ' := Lib.hid HZ; clear HZ
  have D1' := Lib.hid D1
  have D2' := Lib.hid D2
  have S1' := Lib.hid S1; clear S1
  have S2' := Lib.hid S2; clear S2
  have T1' := Lib.hid T1; clear T1
  have T2' := Lib.hid T2; clear T2
  have e0 : ((y : Int) == 0) = false := by simp; omega
  have e1 : ((hi : Int) == 0) = false := by simp; omega
  have e2 : ((y1 : Int) == 0) = false := by have := D1.a; simp; omega
  have b0 : (1 : Int) ≤ (hi : Int) := by omega
  have b1 : (hi : Int) < (y : Int) := by omega
  have b2 : (y : Int) ≤ 18446744073709551615 := by omega
  have b3 : (lo : Int) ≤ 18446744073709551615 := by omega
  have b4 : (0 : Int) ≤ (lo : Int) := by omega
  have b5 : (s : Int) < 64 := by omega
  have b6 : (2147483648 : Int) ≤ y1 := by have := D1.a; omega
  have b7 : (y1 : Int) ≤ 4294967295 := by have := D1.b; omega
  have b8 : (u : Int) ≤ 18446744073709551615 := by omega
  have b9 : (y0 : Int) ≤ 4294967295 := by have := D1.c; omega
  have b10 : (u1 : Int) ≤ 4294967295 := by have := D1.d; omega
  have b11 : (u0 : Int) ≤ 4294967295 := by have := D2.d; omega
  have b12 : (m : Int) ≤ 18446744073709551615 := by omega
  have c0 : y0 < 4294967296 := D1.c
  clear D1 D2
  go_enter Try.func21, Try.ntmps21
  go_upto_block 0 with (first | (go_at_call 35; refine (HZ'.out _).mono ?_; rintro e w' ⟨rfl, rfl⟩))
  go_cut [15, 16] (fun s15 s16 wx => s15 = .int .u64 (t1 : Int) ∧ wx = w)
  case first =>
    go_wp2_with fail
    go_loop [15, 16] (fun a b => ∃ q r : Nat, a = .int .u64 (q : Int) ∧ b = .int .u64 (r : Int) ∧ Digit y1 y0 u u1 q r) (fun a _ => (intOf a).toNat)
    case atStart => exact ⟨g, r, rfl, rfl, S1'.out⟩
    case round =>
      obtain ⟨q, r, rfl, rfl, hq⟩ := hrel
      obtain ⟨p, hp⟩ : ∃ p : Nat, p = q * y0 := ⟨_, rfl⟩
      have P1 : IntKind.u64.wrap ((q : Int) * (y0 : Int)) = (p : Int) := wrap_prod hp hq.most c0
      have c1 : (r : Int) ≤ 4294967295 := by have := hq.small; omega
      have c2 : (q : Int) ≤ 4294967297 := by have := hq.most; omega
      have HQ := Lib.hid hq; clear hq
      have HP := Lib.hid hp; clear hp
      by_cases hA : 4294967296 ≤ q ∨ 4294967296 * r + u1 < q * y0
      · have hA' := Lib.hid hA
        have hl := (digit_lower D1'.out HQ.out hA).1
        have c3 : (1 : Int) ≤ (q : Int) := by omega
        rw [← HP.out] at hA
        by_cases hR : r + y1 < 4294967296
        · have c4 : decide ((4294967296 : Int) ≤ (r : Int) + (y1 : Int)) = false := decide_eq_false (by omega)
          have NX := Lib.hid (digit_next D1'.out HQ.out hA'.out hR)
          clear hR hl
          by_cases hB : 4294967296 ≤ q
          · have c5 : (4294967296 : Int) ≤ (q : Int) := by omega
            clear hA
            go_wp2_with fail
            go_round
            case rel => exact ⟨q - 1, r + y1, u64_eq (by omega), u64_eq (by omega), NX.out⟩
            case measure => simp [intOf]; omega
          · have c5 : (q : Int) < 4294967296 := by omega
            have c6 : 4294967296 * (r : Int) + (u1 : Int) < (p : Int) := by omega
            clear hA
            go_wp2_with fail
            go_round
            case rel => exact ⟨q - 1, r + y1, u64_eq (by omega), u64_eq (by omega), NX.out⟩
            case measure => simp [intOf]; omega
        · have c4 : (4294967296 : Int) ≤ (r : Int) + (y1 : Int) := by omega
          have NX := Lib.hid (digit_break D1'.out HQ.out hA'.out (by omega))
          clear hR hl
          by_cases hB : 4294967296 ≤ q
          · have c5 : (4294967296 : Int) ≤ (q : Int) := by omega
            clear hA
            go_wp2_with fail
            go_meet
            case rel => exact ⟨u64_eq (by have := NX.out; rw [T1'.out]; omega), rfl⟩
          · have c5 : (q : Int) < 4294967296 := by omega
            have c6 : 4294967296 * (r : Int) + (u1 : Int) < (p : Int) := by omega
            clear hA
            go_wp2_with fail
            go_meet
            case rel => exact ⟨u64_eq (by have := NX.out; rw [T1'.out]; omega), rfl⟩
      · have c5 : decide ((4294967296 : Int) ≤ (q : Int)) = false := decide_eq_false (by omega)
        have c6 : decide (4294967296 * (r : Int) + (u1 : Int) < (p : Int)) = false := decide_eq_false (by have := HP.out; omega)
        have NX := Lib.hid (digit_done D1'.out HQ.out (by omega))
        clear hA
        go_wp2_with fail
        go_meet
        case rel => exact ⟨u64_eq (by rw [T1'.out, ← NX.out]), rfl⟩
  case rest =>
    obtain ⟨rfl, rfl⟩ := hcut
    go_upto_block 2 with fail
    go_cut [18, 16] (fun s18 s16 wx => s18 = .int .u64 (t0 : Int) ∧ wx = wc)
    case first =>
      go_wp2_with fail
      go_loop [18, 16] (fun a b => ∃ q r : Nat, a = .int .u64 (q : Int) ∧ b = .int .u64 (r : Int) ∧ Digit y1 y0 m u0 q r) (fun a _ => (intOf a).toNat)
      case atStart => exact ⟨g2, r2, rfl, rfl, S2'.out⟩
      case round =>
        obtain ⟨q, r, rfl, rfl, hq⟩ := hrel
        obtain ⟨p, hp⟩ : ∃ p : Nat, p = q * y0 := ⟨_, rfl⟩
        have P1 : IntKind.u64.wrap ((q : Int) * (y0 : Int)) = (p : Int) := wrap_prod hp hq.most c0
        have c1 : (r : Int) ≤ 4294967295 := by have := hq.small; omega
        have c2 : (q : Int) ≤ 4294967297 := by have := hq.most; omega
        have HQ := Lib.hid hq; clear hq
        have HP := Lib.hid hp; clear hp
        by_cases hA : 4294967296 ≤ q ∨ 4294967296 * r + u0 < q * y0
        · have hA' := Lib.hid hA
          have hl := (digit_lower D2'.out HQ.out hA).1
          have c3 : (1 : Int) ≤ (q : Int) := by omega
          rw [← HP.out] at hA
          by_cases hR : r + y1 < 4294967296
          · have c4 : decide ((4294967296 : Int) ≤ (r : Int) + (y1 : Int)) = false := decide_eq_false (by omega)
            have NX := Lib.hid (digit_next D2'.out HQ.out hA'.out hR)
            clear hR hl
            by_cases hB : 4294967296 ≤ q
            · have c5 : (4294967296 : Int) ≤ (q : Int) := by omega
              clear hA
              go_wp2_with fail
              go_round
              case rel => exact ⟨q - 1, r + y1, u64_eq (by omega), u64_eq (by omega), NX.out⟩
              case measure => simp [intOf]; omega
            · have c5 : (q : Int) < 4294967296 := by omega
              have c6 : 4294967296 * (r : Int) + (u0 : Int) < (p : Int) := by omega
              clear hA
              go_wp2_with fail
              go_round
              case rel => exact ⟨q - 1, r + y1, u64_eq (by omega), u64_eq (by omega), NX.out⟩
              case measure => simp [intOf]; omega
          · have c4 : (4294967296 : Int) ≤ (r : Int) + (y1 : Int) := by omega
            have NX := Lib.hid (digit_break D2'.out HQ.out hA'.out (by omega))
            clear hR hl
            by_cases hB : 4294967296 ≤ q
            · have c5 : (4294967296 : Int) ≤ (q : Int) := by omega
              clear hA
              go_wp2_with fail
              go_meet
              case rel => exact ⟨u64_eq (by have := NX.out; rw [T2'.out]; omega), rfl⟩
            · have c5 : (q : Int) < 4294967296 := by omega
              have c6 : 4294967296 * (r : Int) + (u0 : Int) < (p : Int) := by omega
              clear hA
              go_wp2_with fail
              go_meet
              case rel => exact ⟨u64_eq (by have := NX.out; rw [T2'.out]; omega), rfl⟩
        · have c5 : decide ((4294967296 : Int) ≤ (q : Int)) = false := decide_eq_false (by omega)
          have c6 : decide (4294967296 * (r : Int) + (u0 : Int) < (p : Int)) = false := decide_eq_false (by have := HP.out; omega)
          have NX := Lib.hid (digit_done D2'.out HQ.out (by omega))
          clear hA
          go_wp2_with fail
          go_meet
          case rel => exact ⟨u64_eq (by rw [T2'.out, ← NX.out]), rfl⟩
    case rest =>
      obtain ⟨rfl, rfl⟩ := hcut
      go_wp2_with fail
      go_ret2
      exact ⟨rfl, rfl⟩
end Go.Proofs.Ythpgbghcmfjjoaa
