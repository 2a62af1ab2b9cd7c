/- The reference's reader: whole numbers, flags, texts, its end. -/
import Derived.Test.YtoechhbdpkjppaaRefR
namespace Go.Proofs.Ytoechhbdpkjppaa
open Go.RowKit

set_option maxHeartbeats 1000000 in
theorem qInt_c (bs q : Nat) (l : List UInt8) (bd : Bool) (w : World) (h : RR w bs q l bd) (n : Nat) (t : List UInt8) (b : Bool) (hr : rdN l bd 18446744073709551615 = (n, t, b)) :
    Calls Try.prog 28 #[.pointer (some ⟨q, 0, none⟩)] w fun e w' => e = .returned (.int .i64 (zz n)) ∧ Hid (Tch q w w' ∧ RR w' bs q t b) := by
  have hn : n < 2 ^ 64 := by have := (rdN_bound l bd 18446744073709551615).2.1; rw [hr] at this; exact this
  have h0 := qNat_c bs q l bd 18446744073709551615 w h n t b hr
  rw [show ((18446744073709551615 : Nat) : Int) = 18446744073709551615 from rfl] at h0
  have H0 := Lib.hid h0
  have hhalf : IntKind.i64.wrap ((n : Int) / 2) = ((n / 2 : Nat) : Int) := by rw [IntKind.wrap_i64]; omega
  obtain ⟨z, hz⟩ : ∃ z, z = zz n := ⟨_, rfl⟩
  rw [← hz]
  have Hz := Lib.hid hz; clear hz
  obtain ⟨k, hk⟩ : ∃ k : Nat, k = n / 2 := ⟨_, rfl⟩
  rw [← hk] at hhalf
  have b1 : (k : Int) ≤ 9223372036854775807 := by omega
  have b0 : (n : Int) ≤ 18446744073709551615 := by omega
  have Hk := Lib.hid hk; clear hk
  have Hn := Lib.hid hn
  clear h0 hn hr h
  by_cases hp : n % 2 = 1
  · have e1 : (n : Int) % 2 = 1 := by omega
    have hzz : -(k : Int) - 1 = z := by rw [Hz.out, zz, if_neg (by omega), Hk.out]
    have Hzz := Lib.hid hzz
    clear hp hzz
    go_enter Try.func28, Try.ntmps28
    go_wp2_with fail
    ((with_reducible refine H0.out.mono ?_); rintro e w1 ⟨rfl, hT⟩)
    go_wp2_with fail
    go_ret
    exact ⟨ret_i64 Hzz.out, hT⟩
  · have e1 : (n : Int) % 2 = 0 := by omega
    have hzz : (k : Int) = z := by rw [Hz.out, zz, if_pos (by omega), Hk.out]
    have Hzz := Lib.hid hzz
    clear hp hzz
    go_enter Try.func28, Try.ntmps28
    go_wp2_with fail
    ((with_reducible refine H0.out.mono ?_); rintro e w1 ⟨rfl, hT⟩)
    go_wp2_with fail
    go_ret
    exact ⟨ret_i64 Hzz.out, hT⟩

set_option maxHeartbeats 1000000 in
theorem qFlag_c (bs q : Nat) (l : List UInt8) (bd : Bool) (w : World) (h : RR w bs q l bd) (n : Nat) (t : List UInt8) (b : Bool) (hr : rdN l bd 1 = (n, t, b)) :
    Calls Try.prog 30 #[.pointer (some ⟨q, 0, none⟩)] w fun e w' => e = .returned (.bool ((n : Int) == 1)) ∧ Hid (Tch q w w' ∧ RR w' bs q t b) := by
  have h0 := qNat_c bs q l bd 1 w h n t b hr
  rw [show ((1 : Nat) : Int) = 1 from rfl] at h0
  have H0 := Lib.hid h0
  clear h0 hr h
  go_enter Try.func30, Try.ntmps30
  go_wp2_with fail
  ((with_reducible refine H0.out.mono ?_); rintro e w1 ⟨rfl, hT⟩)
  go_wp2_with fail
  go_ret
  exact ⟨rfl, hT⟩

set_option maxHeartbeats 1000000 in
theorem qEnd_c (bs q : Nat) (l : List UInt8) (bd : Bool) (w : World) (h : RR w bs q l bd) :
    Calls Try.prog 38 #[.pointer (some ⟨q, 0, none⟩)] w fun e w' => e = .returned (.int .i64 (endE l bd)) ∧ w = w' := by
  obtain ⟨A, N, c, h⟩ := h
  have h0 := h.1
  have k0 : w.cell? ⟨q, 0, none⟩ = some (.slice A N c) := by rw [cell_of_row _ _ _ _ _ _ h0]; rfl
  have k1 : w.cell? ⟨q, 1, none⟩ = some (.bool bd) := by rw [cell_of_row _ _ _ _ _ _ h0]; rfl
  have hl := h.2.1.1
  clear h h0
  obtain ⟨v, hv⟩ : ∃ v, v = endE l bd := ⟨_, rfl⟩
  rw [← hv]
  cases bd
  · by_cases hN : N = 0
    · subst hN
      obtain rfl : l = [] := List.eq_nil_of_length_eq_zero hl
      simp [endE] at hv
      subst hv
      clear hl
      go_enter Try.func38, Try.ntmps38
      go_wp2
      go_ret
      exact ⟨rfl, rfl⟩
    · have hne : l ≠ [] := fun e => by subst e; simp at hl; omega
      simp [endE, hne] at hv
      subst hv
      have hI : (0 : Int) < (N : Int) := by omega
      clear hl hne hN
      go_enter Try.func38, Try.ntmps38
      go_wp2
      go_ret
      exact ⟨rfl, rfl⟩
  · simp [endE] at hv
    subst hv
    clear hl
    go_enter Try.func38, Try.ntmps38
    go_wp2
    go_ret
    exact ⟨rfl, rfl⟩

theorem SlB.take {w : World} {A : Option Addr} {n : Nat} {l : List UInt8} (h : SlB w A n l) (k : Nat) (hk : k ≤ n) : SlB w A k (l.take k) := by
  obtain ⟨hl, h2⟩ := h
  refine ⟨by simp; omega, ?_⟩
  rcases h2 with h0 | ⟨b, off, rfl, hb, hc⟩
  · exact .inl (by omega)
  · refine .inr ⟨b, off, rfl, hb, fun i hi => ?_⟩
    rw [hc i (by omega)]
    simp [List.getD_eq_getElem?_getD, hi]

set_option maxHeartbeats 2000000 in
theorem qText_neg (bs q : Nat) (l : List UInt8) (bd : Bool) (most : Int) (w : World) (h : RR w bs q l bd) (hm : most < 0) :
    Calls Try.prog 32 #[.pointer (some ⟨q, 0, none⟩), .int .i64 most] w fun e w' => e = .returned (Str []) ∧ Hid (Tch q w w' ∧ RR w' bs q [] true) := by
  have H0 := Lib.hid (qfail_c bs q l bd w h)
  clear h
  go_enter Try.func32, Try.ntmps32
  go_wp2_with fail
  ((with_reducible refine H0.out.mono ?_); rintro e w1 ⟨rfl, hT⟩)
  go_wp2_with fail
  go_ret
  exact ⟨rfl, hT⟩

set_option maxHeartbeats 2000000 in
theorem qText_short (bs q : Nat) (l : List UInt8) (bd : Bool) (most : Nat) (w : World) (h : RR w bs q l bd) (hm : most ≤ 9223372036854775807) (n : Nat) (t : List UInt8) (b : Bool) (hr : rdN l bd most = (n, t, b)) (hn : t.length < n) :
    Calls Try.prog 32 #[.pointer (some ⟨q, 0, none⟩), .int .i64 (most : Int)] w fun e w' => e = .returned (Str []) ∧ Hid (Tch q w w' ∧ RR w' bs q [] true) := by
  have H0 := Lib.hid (qNat_c bs q l bd most w h n t b hr)
  have m0 : (most : Int) ≤ 9223372036854775807 := by omega
  have Hn := Lib.hid hn
  clear h hr hm hn
  go_enter Try.func32, Try.ntmps32
  go_wp2_with fail
  ((with_reducible refine H0.out.mono ?_); rintro e w1 ⟨rfl, hT⟩)
  obtain ⟨A, N, c, hq⟩ := hT.out.2
  have h0 := hq.1
  have k0 : w1.cell? ⟨q, 0, none⟩ = some (.slice A N c) := by rw [cell_of_row _ _ _ _ _ _ h0]; rfl
  have hNc := hq.2.2.1
  have hcM := hq.2.2.2.1
  have t0 : (N : Int) ≤ 9223372036854775807 := by unfold maxLen at hcM; omega
  have n0 : (N : Int) < (n : Int) := by have := hq.2.1.1; have := Hn.out; omega
  have HF := Lib.hid (qfail_c bs q t b w1 ⟨A, N, c, hq⟩)
  clear h0 hq hNc hcM H0
  go_wp2_with fail
  ((with_reducible refine HF.out.mono ?_); rintro e w2 ⟨rfl, hT2⟩)
  go_wp2_with fail
  go_ret
  exact ⟨rfl, hT.out.1.trans hT2.out.1, hT2.out.2⟩

theorem add_block (a : Addr) (n : Nat) : (a.add n).block = a.block := by unfold Addr.add; split <;> rfl
theorem qcutA {w : World} {bs q N c k : Nat} {a : Addr} {l : List UInt8} {bd : Bool} (h : RRc w bs q (some a) N c l bd) (hk : k ≤ N) :
    RR (w.setCell ⟨q, 0, none⟩ (.slice (some (a.add k)) (N - k) (c - k))) bs q (l.drop k) bd := by
  obtain ⟨hh, hs, hc, hm, hq, hb⟩ := h
  have hb1 : 0 < c → a.block < bs := hb _ rfl
  refine ⟨_, _, _, by rw [heap_set hh]; rfl, ?_, by omega, by omega, hq, fun a' e h0 => by injection e with e; rw [← e, add_block]; exact hb1 (by omega)⟩
  have := hs.drop k hk
  simp only [Option.map_some] at this
  refine this.fr0 (Fr.tch ((Tch.refl q w).set 0 _)) (fun a' e h0 hS => ?_)
  injection e with e
  rw [← e, add_block] at hS
  have := hb1 (by omega)
  have hS' : a.block = q := hS
  omega
theorem qcutB {w : World} {bs q N c k N' : Nat} {A : Option Addr} {l : List UInt8} {bd : Bool} (h : RRc w bs q A N c l bd) (hk : N ≤ k) (h2 : N' = 0) {c' : Nat} (hc' : c' ≤ maxLen) (hA : ∀ a, A = some a → 0 < c' → a.block < bs) :
    RR (w.setCell ⟨q, 0, none⟩ (.slice A N' c')) bs q (l.drop k) bd := by
  obtain ⟨hh, hs, hc, hm, hq, hb⟩ := h
  subst h2
  have hl := hs.1
  rw [List.drop_of_length_le (by omega)]
  exact ⟨_, _, _, by rw [heap_set hh]; rfl, ⟨rfl, .inl rfl⟩, Nat.zero_le _, hc', hq, hA⟩

set_option maxHeartbeats 2000000 in
theorem qText_good (bs q : Nat) (l : List UInt8) (bd : Bool) (most : Nat) (w : World) (h : RR w bs q l bd) (hm : most ≤ 9223372036854775807) (n : Nat) (t : List UInt8) (b : Bool) (hr : rdN l bd most = (n, t, b)) (hn : n ≤ t.length) :
    Calls Try.prog 32 #[.pointer (some ⟨q, 0, none⟩), .int .i64 (most : Int)] w fun e w' => e = .returned (Str (t.take n)) ∧ Hid (Tch q w w' ∧ RR w' bs q (t.drop n) b) := by
  have H0 := Lib.hid (qNat_c bs q l bd most w h n t b hr)
  have m0 : (most : Int) ≤ 9223372036854775807 := by omega
  have Hn := Lib.hid hn
  clear h hr hm hn
  go_enter Try.func32, Try.ntmps32
  go_wp2_with fail
  ((with_reducible refine H0.out.mono ?_); rintro e w1 ⟨rfl, hT⟩)
  obtain ⟨A, N, c, hq⟩ := hT.out.2
  have h0 := hq.1
  have k0 : w1.cell? ⟨q, 0, none⟩ = some (.slice A N c) := by rw [cell_of_row _ _ _ _ _ _ h0]; rfl
  have f0 : w1.frozen? ⟨q, 0, none⟩ = false := frozen_of_row _ _ _ _ _ h0
  have hNc := hq.2.2.1
  have hcM := hq.2.2.2.1
  have hnN : n ≤ N := by have := hq.2.1.1; have := Hn.out; omega
  have t0 : (N : Int) ≤ 9223372036854775807 := by unfold maxLen at hcM; omega
  have c0 : (c : Int) ≤ 9223372036854775807 := by unfold maxLen at hcM; omega
  have n0 : (n : Int) ≤ (N : Int) := by omega
  have n1 : (N : Int) ≤ (c : Int) := by omega
  have hcv := fun C => conv_str (c := C) (hq.2.1.take n hnN)
  have HQ := Lib.hid hq
  have HnN := Lib.hid hnN
  clear h0 hq hNc hcM H0 hnN
  cases A with
  | none =>
    have hN0 : N = 0 := by
      rcases HQ.out.2.1.2 with h | ⟨_, _, h, _⟩
      · exact h
      · cases h
    subst hN0
    have hn0 : n = 0 := by omega
    subst hn0
    go_wp2
    all_goals
      go_ret
      exact ⟨rfl, hT.out.1.set 0 _, qcutB HQ.out (by omega) (by omega) (by have := HQ.out.2.2.2.1; omega) (fun a e => by cases e)⟩
  | some a =>
    obtain ⟨bk, off, pth⟩ := a
    go_wp2
    all_goals
      go_ret
      refine ⟨rfl, hT.out.1.set 0 _, ?_⟩
      first
      | exact qcutA HQ.out HnN.out
      | exact qcutB HQ.out (by have := HQ.out.2.2.1; omega) (by have := HQ.out.2.2.1; omega) (Nat.zero_le _) (fun a e h => absurd h (Nat.lt_irrefl 0))

theorem qText_c (bs q : Nat) (l : List UInt8) (bd : Bool) (most : Int) (w : World) (h : RR w bs q l bd) (hm : most ≤ 9223372036854775807) (s t : List UInt8) (b : Bool) (hr : rdT l bd most = (s, t, b)) :
    Calls Try.prog 32 #[.pointer (some ⟨q, 0, none⟩), .int .i64 most] w fun e w' => e = .returned (Str s) ∧ Hid (Tch q w w' ∧ RR w' bs q t b) := by
  unfold rdT at hr
  by_cases hn : most < 0
  · rw [if_pos hn] at hr
    injection hr with h1 h2; injection h2 with h2 h3
    subst h1; subst h2; subst h3
    exact qText_neg bs q l bd most w h hn
  · rw [if_neg hn] at hr
    obtain ⟨m, rfl⟩ : ∃ m : Nat, (m : Int) = most := ⟨most.toNat, by omega⟩
    rw [Int.toNat_natCast] at hr
    obtain ⟨p, hp⟩ : ∃ p, p = rdN l bd m := ⟨_, rfl⟩
    obtain ⟨n, u, b'⟩ := p
    rw [← hp] at hr
    simp only at hr
    by_cases hs : u.length < n
    · rw [if_pos hs] at hr
      injection hr with h1 h2; injection h2 with h2 h3
      subst h1; subst h2; subst h3
      exact qText_short bs q l bd m w h (by omega) n u b' hp.symm hs
    · rw [if_neg hs] at hr
      injection hr with h1 h2; injection h2 with h2 h3
      subst h1; subst h2; subst h3
      exact qText_good bs q l bd m w h (by omega) n u _ hp.symm (by omega)
end Go.Proofs.Ytoechhbdpkjppaa
