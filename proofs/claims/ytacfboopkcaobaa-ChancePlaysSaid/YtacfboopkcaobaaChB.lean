/- chance: a number of some bytes; one below another. -/
import Derived.Test.YtacfboopkcaobaaChA
import Derived.Test.YtacfboopkcaobaaShelf
namespace Go.Proofs.Ytacfboopkcaobaa
open Go.RowKit

theorem or_byte {a b : Nat} (ha : a * 256 < 18446744073709551616) (hb : b < 256) : bits .or .u64 ((a : Int) * 256) (b : Int) = ((a * 256 + b : Nat) : Int) := by
  have h := bits_or_u64_nat (a * 256) b ha (by omega)
  have h2 : a * 256 ||| b = a * 256 + b := by
    have := Nat.two_pow_add_eq_or_of_lt (i := 8) (b := b) (by simpa using hb) a
    rw [Nat.mul_comm a 256]
    simpa using this.symm
  rw [h2] at h
  rw [show (a : Int) * 256 = ((a * 256 : Nat) : Int) by omega]
  exact h

set_option maxHeartbeats 4000000 in
set_option maxRecDepth 100000 in
theorem number_c (p : Option Addr) (k : Nat) (l : List UInt8) (w : World) (h : ST 89 w p l) (hk : k ≤ 8) :
    Calls Try.prog 44 #[.pointer p, .int .i64 (k : Int)] w (TookP 89 w p (takeN l k).2 (.int .u64 ((takeN l k).1 : Int))) := by
  have hk1 : (k : Int) ≤ 8 := by omega
  have HS := Lib.hid h; clear h
  go_enter Try.func44, Try.ntmps44
  go_wp2_with fail
  go_loopw [5, 10] (fun n i wr => ∃ j : Nat, j ≤ k ∧ i = .int .i64 (j : Int) ∧ n = .int .u64 ((takeN l j).1 : Int) ∧ Hid (TP p w wr ∧ ST 89 wr p (takeN l j).2)) (fun _ i _ => k - (intOf i).toNat)
  case atStart => exact ⟨0, by omega, rfl, rfl, TP.refl p w, HS.out⟩
  case round =>
    obtain ⟨j, hj, rfl, rfl, hd⟩ := hrel
    by_cases hlt : j < k
    · have hltI : (j : Int) < (k : Int) := by omega
      have hb := takeN_lt l j
      have hb1 : (takeN l j).1 * 256 < 18446744073709551616 := by
        have := takeN_64 l (k := j + 1) (by omega)
        simp only [takeN] at this
        omega
      have hb2 : ((takeN l j).1 : Int) * 256 ≤ 18446744073709551615 := by omega
      have hor := or_byte hb1 (((takeN l j).2.headD 0).toNat_lt)
      have HB := Lib.hid (pByte_c p _ wr hd.out.2)
      have HN : Hid ((takeN l j).1 * 256 + ((takeN l j).2.headD 0).toNat = (takeN l (j + 1)).1) := rfl
      have HT : Hid ((takeN l j).2.tail = (takeN l (j + 1)).2) := rfl
      obtain ⟨n, hn⟩ : ∃ n, n = (takeN l j).1 := ⟨_, rfl⟩
      obtain ⟨b, hbb⟩ : ∃ b, b = ((takeN l j).2.headD 0).toNat := ⟨_, rfl⟩
      rw [← hn] at hb2 hor HN ⊢
      rw [← hbb] at HB hor HN
      have hb3 : b < 256 := by rw [hbb]; exact ((takeN l j).2.headD 0).toNat_lt
      have hb4 : (b : Int) ≤ 255 := by omega
      clear hb hb1 hn hbb hb3
      go_wp2_with fail
      ((with_reducible refine HB.out.mono ?_); rintro e w1 ⟨rfl, hd1⟩)
      have hD : Hid (TP p w w1 ∧ ST 89 w1 p (takeN l (j + 1)).2) := ⟨hd.out.1.trans hd1.out.1, hd1.out.2⟩
      clear HB hd hd1
      go_wp2_with fail
      exact ⟨⟨j + 1, by omega, by go_num, by rw [← HN.out]; go_num, hD.out⟩, by simp [intOf]; omega⟩
    · have hjk : j = k := by omega
      subst hjk
      go_wp2_with fail
      go_ret
      exact ⟨rfl, hd.out⟩

theorem Len64_c (n : Nat) (hn : n < 18446744073709551616) (w : World) :
    Calls Try.prog 45 #[.int .u64 (n : Int)] w fun e w' => e = .returned (.int .i64 (Lib.bitLen n : Int)) ∧ w = w' :=
  (Try.bits_Len64 (n : Int) w (by omega) (by omega)).mono fun _ _ ⟨he, hw⟩ => ⟨he, hw.symm⟩

set_option maxHeartbeats 4000000 in
set_option maxRecDepth 100000 in
theorem below_c (p : Option Addr) (n : Nat) (l : List UInt8) (w : World) (h : ST 89 w p l) (hn : n < 18446744073709551616) :
    Calls Try.prog 24 #[.pointer p, .int .u64 (n : Int)] w (TookP 89 w p (belowN l n).2 (.int .u64 ((belowN l n).1 : Int))) := by
  by_cases h2 : n < 2
  · have hI : (n : Int) < 2 := by omega
    have hD : Hid (TP p w w ∧ ST 89 w p l) := ⟨TP.refl p w, h⟩
    rw [show belowN l n = (0, l) by unfold belowN; rw [if_pos h2]]
    clear h h2 hn
    go_enter Try.func24, Try.ntmps24
    go_wp2_with fail
    go_ret
    exact ⟨rfl, hD.out⟩
  · have hI : 2 ≤ (n : Int) := by omega
    have hI2 : (n : Int) ≤ 18446744073709551615 := by omega
    have hsub : (n : Int) - 1 = ((n - 1 : Nat) : Int) := by omega
    obtain ⟨m, hm⟩ : ∃ m, m = n - 1 := ⟨_, rfl⟩
    rw [← hm] at hsub
    have hm2 : m < 18446744073709551616 := by omega
    have d1 := digs_bits hm2
    have d2 := bitLen_le hm2
    have d3 := digs_8 hm2
    rw [show belowN l n = ((takeN l (digs m)).1 % n, (takeN l (digs m)).2) by unfold belowN; rw [if_neg h2, ← hm]]
    have t1 := takeN_64 l d3
    have HN := Lib.hid (number_c p (digs m) l w h d3)
    have HL := Lib.hid (Len64_c m hm2 w)
    obtain ⟨bl, hbl⟩ : ∃ bl, bl = Lib.bitLen m := ⟨_, rfl⟩
    rw [← hbl] at HL d1 d2
    obtain ⟨d, hd⟩ : ∃ d, d = digs m := ⟨_, rfl⟩
    rw [← hd] at HN d1 d3 t1 ⊢
    have e1 : ((bl : Int) + 8 - 1) / 8 = (d : Int) := by omega
    have b1 : (bl : Int) ≤ 64 := by omega
    obtain ⟨x, hx⟩ : ∃ x, x = (takeN l d).1 := ⟨_, rfl⟩
    rw [← hx] at HN t1 ⊢
    have t2 : (x : Int) ≤ 18446744073709551615 := by omega
    have hmod : (x : Int) % (n : Int) = ((x % n : Nat) : Int) := rfl
    have HE := Lib.hid hmod
    clear h hm hbl hd hx h2 hn hm2 d1 d2 d3 t1 hmod
    go_enter Try.func24, Try.ntmps24
    go_wp2_with fail
    ((with_reducible refine HL.out.mono ?_); rintro e w1 ⟨rfl, rfl⟩)
    go_wp2_with fail
    ((with_reducible refine HN.out.mono ?_); rintro e w1 ⟨rfl, hd1⟩)
    go_wp2_with fail
    go_ret
    exact ⟨by rw [← HE.out]; rfl, hd1.out⟩
end Go.Proofs.Ytacfboopkcaobaa
