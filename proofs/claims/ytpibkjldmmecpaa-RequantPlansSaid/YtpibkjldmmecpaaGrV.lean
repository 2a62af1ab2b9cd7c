/- grid, the reference: a price's row, its step, whether it is on the grid; the code's step. -/
import Derived.Test.YtpibkjldmmecpaaGrU
namespace Go.Proofs.Ytpibkjldmmecpaa
open Go.RowKit

theorem May.le_iff {t : List Tk} {p : Int} (h : May t p) {i : Nat} (hi : i < t.length) : F t i ≤ p ↔ i ≤ ri t p := by
  obtain ⟨_, b, c, d⟩ := h.row
  constructor
  · intro hf
    rcases Nat.lt_or_ge (ri t p) i with e | e
    · exfalso
      have h3 := d (by omega)
      by_cases e2 : ri t p + 1 = i
      · rw [e2] at h3; omega
      · have := h.1.lt (i := ri t p + 1) (j := i) (by omega) hi; omega
    · exact e
  · intro e
    by_cases e2 : i = ri t p
    · rw [e2]; exact c
    · have := h.1.lt (i := i) (j := ri t p) (by omega) b; omega

set_option maxHeartbeats 4000000 in
set_option maxRecDepth 100000 in
theorem rrow_c (p : Int) (a : Option Addr) (len cap : Nat) (t : List Tk) (w : World) (h : Tks w a len t) (hm : May t p) :
    Calls Try.prog 28 #[.slice a len cap, .int .i64 p] w fun e w' => e = .returned (.int .i64 (ri t p : Int)) ∧ w = w' := by
  have HT := Lib.hid h
  have HL := Lib.hid h.1
  have HM := Lib.hid hm
  have hl8 : (len : Int) ≤ 8 := by have := hm.1.2.1; have := h.1; omega
  obtain ⟨_, hb, _, _⟩ := hm.row
  have hrl : ri t p < len := by have := h.1; omega
  clear h hm hb
  go_enter Try.func28, Try.ntmps28
  go_wp2_with fail
  go_loop [5, 6] (fun u i => ∃ k : Nat, k ≤ len ∧ i = .int .i64 (k : Int) ∧ u = .int .i64 ((min (k - 1) (ri t p) : Nat) : Int)) (fun _ i => len - (intOf i).toNat)
  case atStart => exact ⟨0, by omega, rfl, by simp⟩
  case round =>
    obtain ⟨k, hk, rfl, rfl⟩ := hrel
    have hk0 : (0 : Int) ≤ (k : Int) := by omega
    by_cases hlt : k < len
    · have hltI : (k : Int) < (len : Int) := by omega
      obtain ⟨b, off, rfl, hb, p0, p1, _, _⟩ := HT.out.row hlt
      have hiff := HM.out.le_iff (i := k) (by rw [HL.out]; exact hlt)
      by_cases hle : k ≤ ri t p
      · have hf := hiff.2 hle
        have hmin : min (k + 1 - 1) (ri t p) = k := by omega
        have HMi := Lib.hid hmin
        obtain ⟨f, hff⟩ : ∃ f, f = F t k := ⟨_, rfl⟩
        rw [← hff] at p0 hf
        obtain ⟨m, hmm⟩ : ∃ m, m = min (k - 1) (ri t p) := ⟨_, rfl⟩
        rw [← hmm]
        clear hff hiff hmin hmm
        go_wp2_with fail
        exact ⟨⟨k + 1, by omega, by go_num, by rw [HMi.out]⟩, by simp [intOf]; omega⟩
      · have hf : p < F t k := by
          rcases Int.lt_or_le p (F t k) with h | h
          · exact h
          · exact absurd (hiff.1 h) hle
        have hmin : min (k + 1 - 1) (ri t p) = min (k - 1) (ri t p) := by omega
        have HMi := Lib.hid hmin
        obtain ⟨f, hff⟩ : ∃ f, f = F t k := ⟨_, rfl⟩
        rw [← hff] at p0 hf
        obtain ⟨m, hmm⟩ : ∃ m, m = min (k - 1) (ri t p) := ⟨_, rfl⟩
        rw [← hmm] at HMi ⊢
        clear hff hiff hmin hmm
        go_wp2_with fail
        exact ⟨⟨k + 1, by omega, by go_num, by rw [HMi.out]⟩, by simp [intOf]; omega⟩
    · have hkl : k = len := by omega
      subst hkl
      rw [show min (k - 1) (ri t p) = ri t p by omega]
      go_wp2_with fail
      go_ret
      exact ⟨rfl, rfl⟩

set_option maxHeartbeats 4000000 in
set_option maxRecDepth 100000 in
theorem rOn_c (p : Int) (a : Option Addr) (len cap : Nat) (t : List Tk) (w : World) (h : Tks w a len t) :
    Calls Try.prog 19 #[.slice a len cap, .int .i64 p] w (Got w (.bool (onN t p))) := by
  by_cases hm : May t p
  · have M := Lib.hid (rmay_c p a len cap t w h true (decide_eq_true hm).symm)
    have HT := Lib.hid h
    rw [show onN t p = decide ((p - F t (ri t p)) % S t (ri t p) = 0) by unfold onN; rw [if_pos hm]]
    obtain ⟨b1, b2, b3, b4, b5⟩ := hm.bounds
    obtain ⟨_, hb, _, _⟩ := hm.row
    have hrl : ri t p < len := by have := h.1; omega
    have HR := Lib.hid (fun (W : World) (hW : Below w.heap.size w W) => rrow_c p a len cap t W (h.below hW) hm)
    obtain ⟨k, hk⟩ : ∃ k, k = ri t p := ⟨_, rfl⟩
    rw [← hk] at HR hrl b1 b2 b3 b4 ⊢
    have hkI : (k : Int) < (len : Int) := by omega
    have hk0 : (0 : Int) ≤ (k : Int) := by omega
    clear h hm hb hk
    go_enter Try.func19, Try.ntmps19
    go_wp2_with fail
    ((with_reducible refine M.out.mono ?_); rintro e w1 ⟨rfl, c1⟩)
    have B1 := Lib.hid c1
    have N := Lib.hid (HR.out w1 c1)
    obtain ⟨b, off, rfl, _, p0, p1, _, _⟩ := (HT.out.below c1).row hrl
    obtain ⟨f, hf⟩ : ∃ f, f = F t k := ⟨_, rfl⟩
    obtain ⟨s, hs⟩ : ∃ s, s = S t k := ⟨_, rfl⟩
    have HFS : Hid (f = F t k ∧ s = S t k) := ⟨hf, hs⟩
    rw [← hf] at p0 b1 b2
    rw [← hs] at p1 b3 b4
    have hb0 : (s == 0) = false := by simp; omega
    have hpf : 0 ≤ p - f := by omega
    have hpf2 : p - f ≤ 1099511627776 := by omega
    have hsz := c1.size
    clear hf hs c1 M HR
    go_wp2_with fail
    ((with_reducible refine N.out.mono ?_); rintro e w2 ⟨rfl, rfl⟩)
    go_wp2_with fail
    go_ret
    rw [← HFS.out.1, ← HFS.out.2]
    exact ⟨rfl, B1.out.alloc hsz _⟩
  · have M := Lib.hid (rmay_c p a len cap t w h false (decide_eq_false hm).symm)
    rw [show onN t p = false by unfold onN; rw [if_neg hm]]
    clear h hm
    go_enter Try.func19, Try.ntmps19
    go_wp2_with fail
    ((with_reducible refine M.out.mono ?_); rintro e w1 ⟨rfl, b1⟩)
    go_wp2_with fail
    go_ret
    exact ⟨rfl, b1⟩
end Go.Proofs.Ytpibkjldmmecpaa
