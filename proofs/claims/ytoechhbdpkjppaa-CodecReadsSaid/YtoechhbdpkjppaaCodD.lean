/- codec's reader: whole numbers, flags, texts; what is left; its end; one that is nil. -/
import Derived.Test.YtoechhbdpkjppaaCodC
namespace Go.Proofs.Ytoechhbdpkjppaa
open Go.RowKit

theorem xor_all (n : Int) (h0 : -9223372036854775808 ≤ n) (h1 : n ≤ 9223372036854775807) : bits .xor .i64 (-1) n = -n - 1 := by
  have e : BitVec.ofInt 64 (-1) = BitVec.allOnes 64 := by decide
  have hx : (BitVec.ofInt 64 n).toNat = (n % 18446744073709551616).toNat := by rw [BitVec.toNat_ofInt]; rfl
  show IntKind.i64.wrap ((BitVec.ofInt 64 (-1) ^^^ BitVec.ofInt 64 n).toNat : Int) = _
  rw [e, BitVec.allOnes_xor, BitVec.toNat_not, hx, IntKind.wrap_i64]
  omega
theorem ret_i64 {a b : Int} (h : a = b) : Ending.returned (.int .i64 a) = .returned (.int .i64 b) := by rw [h]
theorem zz_bd {n : Nat} (h : n < 2 ^ 64) : -9223372036854775808 ≤ zz n ∧ zz n ≤ 9223372036854775807 := by unfold zz; split <;> omega
theorem and_bit {n : Nat} (h : n < 18446744073709551616) : bits .and .u64 (n : Int) 1 = ((n % 2 : Nat) : Int) := by
  have := bits_and_u64_nat n 1 h (by omega)
  rw [show ((1 : Nat) : Int) = 1 from rfl] at this
  rw [this, Nat.and_one_is_mod]

set_option maxHeartbeats 1000000 in
theorem unfold_c (n : Nat) (h : n < 2 ^ 64) (w : World) :
    Calls Try.prog 56 #[.int .u64 (n : Int)] w fun e w' => e = .returned (.int .i64 (zz n)) ∧ w = w' := by
  have ha := and_bit (n := n) (by omega)
  have b0 : (n : Int) ≤ 18446744073709551615 := by omega
  have hhalf : IntKind.i64.wrap ((n : Int) / 2) = ((n / 2 : Nat) : Int) := by rw [IntKind.wrap_i64]; omega
  obtain ⟨z, hz⟩ : ∃ z, z = zz n := ⟨_, rfl⟩
  rw [← hz]
  have Hz := Lib.hid hz; clear hz
  obtain ⟨k, hk⟩ : ∃ k : Nat, k = n / 2 := ⟨_, rfl⟩
  rw [← hk] at hhalf
  have b1 : (k : Int) ≤ 9223372036854775807 := by omega
  have Hk := Lib.hid hk; clear hk
  have Hh := Lib.hid h; clear h
  by_cases hp : n % 2 = 1
  · have e1 : ((n % 2 : Nat) : Int) = 1 := by omega
    rw [e1] at ha
    have hzz : -(k : Int) - 1 = z := by rw [Hz.out, zz, if_neg (by omega), Hk.out]
    have Hzz := Lib.hid hzz
    clear e1 hp hzz
    go_enter Try.func56, Try.ntmps56
    go_wp2
    go_ret
    exact ⟨ret_i64 (by rw [← Hzz.out, xor_all _ (by omega) (by omega)]), rfl⟩
  · have e1 : ((n % 2 : Nat) : Int) = 0 := by omega
    rw [e1] at ha
    have hzz : (k : Int) = z := by rw [Hz.out, zz, if_pos (by omega), Hk.out]
    have Hzz := Lib.hid hzz
    clear e1 hp hzz
    go_enter Try.func56, Try.ntmps56
    go_wp2
    go_ret
    exact ⟨ret_i64 Hzz.out, rfl⟩

set_option maxHeartbeats 1000000 in
theorem rInt_c (g : Nat) (l : List UInt8) (bd : Bool) (w : World) (h : RB w g l bd) (n : Nat) (t : List UInt8) (b : Bool) (hr : rdN l bd 18446744073709551615 = (n, t, b)) :
    Calls Try.prog 27 #[.pointer (some ⟨g, 0, none⟩)] w fun e w' => e = .returned (.int .i64 (zz n)) ∧ Tch g w w' ∧ RB w' g t b := by
  have hn : n < 2 ^ 64 := by have := (rdN_bound l bd 18446744073709551615).2.1; rw [hr] at this; exact this
  have h0 := rNat_c g l bd 18446744073709551615 w h n t b hr
  rw [show ((18446744073709551615 : Nat) : Int) = 18446744073709551615 from rfl] at h0
  have H0 := Lib.hid h0
  have Hn := Lib.hid hn
  clear h0 hn hr h
  go_enter Try.func27, Try.ntmps27
  go_wp2_with fail
  ((with_reducible refine H0.out.mono ?_); rintro e w1 ⟨rfl, hT, hR⟩)
  have HT := Lib.hid hT; clear hT
  have HR := Lib.hid hR; clear hR
  go_wp2_with fail
  ((with_reducible refine (unfold_c n Hn.out _).mono ?_); rintro e w2 ⟨rfl, rfl⟩)
  go_wp2_with fail
  go_ret
  exact ⟨rfl, HT.out, HR.out⟩

set_option maxHeartbeats 1000000 in
theorem rFlag_c (g : Nat) (l : List UInt8) (bd : Bool) (w : World) (h : RB w g l bd) (n : Nat) (t : List UInt8) (b : Bool) (hr : rdN l bd 1 = (n, t, b)) :
    Calls Try.prog 29 #[.pointer (some ⟨g, 0, none⟩)] w fun e w' => e = .returned (.bool ((n : Int) == 1)) ∧ Tch g w w' ∧ RB w' g t b := by
  have h0 := rNat_c g l bd 1 w h n t b hr
  rw [show ((1 : Nat) : Int) = 1 from rfl] at h0
  have H0 := Lib.hid h0
  clear h0 hr h
  go_enter Try.func29, Try.ntmps29
  go_wp2_with fail
  ((with_reducible refine H0.out.mono ?_); rintro e w1 ⟨rfl, hT, hR⟩)
  have HT := Lib.hid hT; clear hT
  have HR := Lib.hid hR; clear hR
  go_wp2_with fail
  go_ret
  exact ⟨rfl, HT.out, HR.out⟩

theorem Left_c (g : Nat) (l : List UInt8) (bd : Bool) (w : World) (h : RB w g l bd) :
    Calls Try.prog 35 #[.pointer (some ⟨g, 0, none⟩)] w fun e w' => e = .returned (.int .i64 (l.length : Int)) ∧ w = w' := by
  have k0 := h.c0
  clear h
  go_enter Try.func35, Try.ntmps35
  go_wp2
  go_ret
  exact ⟨rfl, rfl⟩

theorem Bad_c (g : Nat) (l : List UInt8) (bd : Bool) (w : World) (h : RB w g l bd) :
    Calls Try.prog 36 #[.pointer (some ⟨g, 0, none⟩)] w fun e w' => e = .returned (.bool bd) ∧ w = w' := by
  have k0 := h.c1
  clear h
  go_enter Try.func36, Try.ntmps36
  go_wp2
  go_ret
  exact ⟨rfl, rfl⟩

/-- What End tells. -/
def endE (l : List UInt8) (bd : Bool) : Int := if bd = true ∨ l ≠ [] then 20 else 0
theorem End_c (g : Nat) (l : List UInt8) (bd : Bool) (w : World) (h : RB w g l bd) :
    Calls Try.prog 37 #[.pointer (some ⟨g, 0, none⟩)] w fun e w' => e = .returned (.int .i64 (endE l bd)) ∧ w = w' := by
  have k0 := h.c0
  have k1 := h.c1
  clear h
  obtain ⟨v, hv⟩ : ∃ v, v = endE l bd := ⟨_, rfl⟩
  rw [← hv]
  cases bd <;> cases l
  all_goals
    simp [endE] at hv
    subst hv
    go_enter Try.func37, Try.ntmps37
    go_wp2
    go_ret
    exact ⟨rfl, rfl⟩

/-! ### A reader that is nil -/
theorem nilFail_c (w : World) : Calls Try.prog 33 #[.pointer none] w fun e w' => e = .returned (.tuple #[]) ∧ w = w' := by
  go_enter Try.func33, Try.ntmps33
  go_wp2
  go_end0
  exact ⟨rfl, rfl⟩
theorem nilNat_c (n : Nat) (w : World) : Calls Try.prog 25 #[.pointer none, .int .u64 (n : Int)] w fun e w' => e = .returned (.int .u64 0) ∧ Below w.heap.size w w' := by
  go_enter Try.func25, Try.ntmps25
  go_wp2
  go_ret
  exact ⟨rfl, (Below.refl _ _).alloc (Nat.le_refl _) _⟩
theorem nilInt_c (w : World) : Calls Try.prog 27 #[.pointer none] w fun e w' => e = .returned (.int .i64 0) ∧ Below w.heap.size w w' := by
  have h0 := nilNat_c 18446744073709551615 w
  rw [show ((18446744073709551615 : Nat) : Int) = 18446744073709551615 from rfl] at h0
  have H0 := Lib.hid h0; clear h0
  go_enter Try.func27, Try.ntmps27
  go_wp2_with fail
  ((with_reducible refine H0.out.mono ?_); rintro e w1 ⟨rfl, hT⟩)
  go_wp2_with fail
  have hu := unfold_c 0 (by omega) w1
  rw [show ((0 : Nat) : Int) = 0 from rfl] at hu
  ((with_reducible refine hu.mono ?_); rintro e w2 ⟨rfl, rfl⟩)
  go_wp2_with fail
  go_ret
  first | exact ⟨rfl, hT⟩ | exact hT
theorem nilFlag_c (w : World) : Calls Try.prog 29 #[.pointer none] w fun e w' => e = .returned (.bool false) ∧ Below w.heap.size w w' := by
  have h0 := nilNat_c 1 w
  rw [show ((1 : Nat) : Int) = 1 from rfl] at h0
  have H0 := Lib.hid h0; clear h0
  go_enter Try.func29, Try.ntmps29
  go_wp2_with fail
  ((with_reducible refine H0.out.mono ?_); rintro e w1 ⟨rfl, hT⟩)
  go_wp2_with fail
  go_ret
  first | exact ⟨rfl, hT⟩ | exact hT
theorem nilText_c (n : Int) (w : World) : Calls Try.prog 31 #[.pointer none, .int .i64 n] w fun e w' => e = .returned (Str []) ∧ w = w' := by
  go_enter Try.func31, Try.ntmps31
  go_wp2_with (go_at_call 33; refine (nilFail_c _).mono ?_; rintro e w' ⟨rfl, rfl⟩)
  go_ret
  exact ⟨rfl, rfl⟩
theorem nilLeft_c (w : World) : Calls Try.prog 35 #[.pointer none] w fun e w' => e = .returned (.int .i64 0) ∧ w = w' := by
  go_enter Try.func35, Try.ntmps35
  go_wp2
  go_ret
  exact ⟨rfl, rfl⟩
theorem nilBad_c (w : World) : Calls Try.prog 36 #[.pointer none] w fun e w' => e = .returned (.bool false) ∧ w = w' := by
  go_enter Try.func36, Try.ntmps36
  go_wp2
  go_ret
  exact ⟨rfl, rfl⟩
theorem nilEnd_c (w : World) : Calls Try.prog 37 #[.pointer none] w fun e w' => e = .returned (.int .i64 1) ∧ w = w' := by
  go_enter Try.func37, Try.ntmps37
  go_wp2
  go_ret
  exact ⟨rfl, rfl⟩

/-! ### A text -/
theorem str_drop (l : List UInt8) (n : Nat) : (⟨l.toArray⟩ : ByteArray).extract n l.length = ⟨(l.drop n).toArray⟩ := by
  rw [ByteArray.extract_mk]; congr 1; simp [List.take_of_length_le]
theorem str_take (l : List UInt8) (n : Nat) : (⟨l.toArray⟩ : ByteArray).extract 0 n = ⟨(l.take n).toArray⟩ := by
  rw [ByteArray.extract_mk]; simp
theorem str_size (l : List UInt8) : (⟨l.toArray⟩ : ByteArray).size = l.length := rfl

set_option maxHeartbeats 2000000 in
theorem rText_neg (g : Nat) (l : List UInt8) (bd : Bool) (most : Int) (w : World) (h : RB w g l bd) (hm : most < 0) :
    Calls Try.prog 31 #[.pointer (some ⟨g, 0, none⟩), .int .i64 most] w fun e w' => e = .returned (Str []) ∧ Tch g w w' ∧ RB w' g [] true := by
  have h0 := Lib.hid (Fail_c g l bd w h)
  clear h
  go_enter Try.func31, Try.ntmps31
  go_wp2_with fail
  ((with_reducible refine h0.out.mono ?_); rintro e w1 ⟨rfl, hT, hR⟩)
  have HT := Lib.hid hT; clear hT
  have HR := Lib.hid hR; clear hR
  go_wp2_with fail
  go_ret
  exact ⟨rfl, HT.out, HR.out⟩

set_option maxHeartbeats 2000000 in
theorem rText_short (g : Nat) (l : List UInt8) (bd : Bool) (most : Nat) (w : World) (h : RB w g l bd) (hm : most ≤ 9223372036854775807) (n : Nat) (t : List UInt8) (b : Bool) (hr : rdN l bd most = (n, t, b)) (hn : t.length < n) :
    Calls Try.prog 31 #[.pointer (some ⟨g, 0, none⟩), .int .i64 (most : Int)] w fun e w' => e = .returned (Str []) ∧ Tch g w w' ∧ RB w' g [] true := by
  have hb := rdN_bound l bd most
  rw [hr] at hb
  have hb0 : t.length ≤ l.length := hb.2.2
  have H0 := Lib.hid (rNat_c g l bd most w h n t b hr)
  have m0 : (most : Int) ≤ 9223372036854775807 := by omega
  have t0 : (t.length : Int) ≤ 9223372036854775807 := by omega
  have n0 : (t.length : Int) < (n : Int) := by omega
  clear h hr hb hb0 hm hn
  go_enter Try.func31, Try.ntmps31
  go_wp2_with fail
  ((with_reducible refine H0.out.mono ?_); rintro e w1 ⟨rfl, hT, hR⟩)
  have k0 := hR.c0
  have HT := Lib.hid hT; clear hT
  have HF := Lib.hid (Fail_c g t b w1 hR)
  have HR := Lib.hid hR; clear hR
  go_wp2_with fail
  ((with_reducible refine HF.out.mono ?_); rintro e w2 ⟨rfl, hT, hR⟩)
  have HT2 := Lib.hid hT; clear hT
  have HR2 := Lib.hid hR; clear hR
  go_wp2_with fail
  go_ret
  exact ⟨rfl, HT.out.trans HT2.out, HR2.out⟩

set_option maxHeartbeats 2000000 in
theorem rText_good (g : Nat) (l : List UInt8) (bd : Bool) (most : Nat) (w : World) (h : RB w g l bd) (hm : most ≤ 9223372036854775807) (hl : l.length ≤ 9223372036854775807) (n : Nat) (t : List UInt8) (b : Bool) (hr : rdN l bd most = (n, t, b)) (hn : n ≤ t.length) :
    Calls Try.prog 31 #[.pointer (some ⟨g, 0, none⟩), .int .i64 (most : Int)] w fun e w' => e = .returned (Str (t.take n)) ∧ Tch g w w' ∧ RB w' g (t.drop n) b := by
  have hb := rdN_bound l bd most
  rw [hr] at hb
  have hb0 : t.length ≤ l.length := hb.2.2
  have H0 := Lib.hid (rNat_c g l bd most w h n t b hr)
  have m0 : (most : Int) ≤ 9223372036854775807 := by omega
  have t0 : (t.length : Int) ≤ 9223372036854775807 := by omega
  have n0 : (n : Int) ≤ (t.length : Int) := by omega
  have n1 : n ≤ t.length := hn
  have s1 := str_drop t n
  have s2 := str_take t n
  clear h hr hb hb0 hm hl hn
  go_enter Try.func31, Try.ntmps31
  go_wp2_with fail
  ((with_reducible refine H0.out.mono ?_); rintro e w1 ⟨rfl, hT, hR⟩)
  have k0 := hR.c0
  have k1 := hR.f0
  have HT := Lib.hid hT; clear hT
  have HR := Lib.hid hR; clear hR
  go_wp2_with fail
  go_ret
  exact ⟨rfl, HT.out.set 0 _, HR.out.set0 _⟩
end Go.Proofs.Ytoechhbdpkjppaa
