/- grid: Index; a price's step; whether it is on the grid; the next ones. -/
import Derived.Test.YtacfboopkcaobabGrD
import Derived.Deep.RegionHeld3
namespace Go.Proofs.Ytacfboopkcaobab
open Go.RowKit

theorem F_inj {t : List Tk} (h : Good t) {i j : Nat} (hi : i < t.length) (hj : j < t.length) (he : F t i = F t j) : i = j := by
  rcases Nat.lt_trichotomy i j with h1 | h1 | h1
  · have := h.lt h1 hj; omega
  · exact h1
  · have := h.lt h1 hi; omega

theorem below_drewN {B : Nat} {a w : World} (h : Below B a w) (n : Nat) : Below B a (w.drewN n) := ⟨h.os, h.tape, h.output, h.size, h.block⟩

set_option maxHeartbeats 8000000 in
set_option maxRecDepth 100000 in
theorem index_c (r : Nat) (a : Option Addr) (len cap : Nat) (t : List Tk) (w : World) (h : Tks w a len t) (hg : Good t) (hr : r < len) :
    Calls Try.prog 41 #[.slice a len cap, .agg #[.int .i64 (F t r), .int .i64 (S t r)]] w (Got w (.int .i64 (r : Int))) := by
  have HT := Lib.hid h
  have hl := h.1
  have hl8 : (len : Int) ≤ 8 := by have := hg.2.1; omega
  have HG := Lib.hid hg
  have HL := Lib.hid hl
  obtain ⟨f, hf⟩ : ∃ f, f = F t r := ⟨_, rfl⟩
  obtain ⟨s, hs⟩ : ∃ s, s = S t r := ⟨_, rfl⟩
  have HFS : Hid (f = F t r ∧ s = S t r) := ⟨hf, hs⟩
  rw [← hf, ← hs]
  have H0 : Hid (Below w.heap.size w (w.alloc (.cells #[.int .i64 f, .int .i64 s] 63)) ∧ (w.alloc (.cells #[.int .i64 f, .int .i64 s] 63)).heap[w.heap.size]? = some (.cells #[.int .i64 f, .int .i64 s] 63 (0, 0))) := ⟨(Below.refl _ w).alloc (Nat.le_refl _) _, heap_alloc_new w _⟩
  clear h hl hg hf hs
  go_enter Try.func41, Try.ntmps41
  go_wp2_with fail
  obtain ⟨c, hc⟩ : ∃ c, c = w.heap.size := ⟨_, rfl⟩
  rw [← hc] at H0 ⊢
  have HCc := Lib.hid hc
  clear hc
  go_loopw [8] (fun i wr => ∃ k : Nat, k ≤ r ∧ i = .int .i64 (k : Int) ∧ Hid (Below c w wr ∧ wr.heap[c]? = some (.cells #[.int .i64 f, .int .i64 s] 63 (0, 0)))) (fun i _ => len - (intOf i).toNat)
  case atStart => exact ⟨0, by omega, rfl, H0.out⟩
  case round =>
    clear H0
    obtain ⟨k, hk, rfl, hd⟩ := hrel
    have hlt : k < len := by omega
    have hltI : (k : Int) < (len : Int) := by omega
    have hk0 : (0 : Int) ≤ (k : Int) := by omega
    obtain ⟨b, off, rfl, hb, p0, p1, _, _⟩ := (HT.out.below (by rw [← HCc.out]; exact hd.out.1)).row hlt
    have c0 : wr.cell? ⟨c, 0, none⟩ = some (.int .i64 f) := by rw [cell_of_row _ _ _ _ _ _ hd.out.2]; rfl
    have c1 : wr.cell? ⟨c, 1, none⟩ = some (.int .i64 s) := by rw [cell_of_row _ _ _ _ _ _ hd.out.2]; rfl
    have hne : k ≠ r → (f == F t k) = false := fun hkr => by
      have : f ≠ F t k := by
        rw [HFS.out.1]
        intro he
        exact hkr (F_inj HG.out (by rw [HL.out]; omega) (by rw [HL.out]; omega) he.symm)
      simp [this]
    have heq : k = r → F t k = f ∧ S t k = s := fun e => by rw [e]; exact ⟨HFS.out.1.symm, HFS.out.2.symm⟩
    obtain ⟨f', hf'⟩ : ∃ f', f' = F t k := ⟨_, rfl⟩
    obtain ⟨s', hs'⟩ : ∃ s', s' = S t k := ⟨_, rfl⟩
    rw [← hf'] at p0 hne heq
    rw [← hs'] at p1 heq
    clear hf' hs'
    by_cases hkr : k = r
    · obtain ⟨rfl, rfl⟩ := heq hkr
      subst hkr
      clear hne heq
      go_wp2_with fail
      go_region_held3 (fun w' => w'.cell? ⟨c, 0, none⟩ = some (.int .i64 f') ∧ w'.cell? ⟨c, 1, none⟩ = some (.int .i64 s') ∧ w'.cell? ⟨b, off + k * 2, none⟩ = some (.int .i64 f') ∧ w'.cell? ⟨b, off + k * 2 + 1, none⟩ = some (.int .i64 s')) (go_keep) (first | fail)
      all_goals
        go_wp2_with fail
        go_ret
        exact ⟨rfl, by have := hd.out.1; rw [HCc.out] at this; exact this.drew⟩
    · have hkI : (k : Int) < (r : Int) := by omega
      have hb1 := hne hkr
      clear hne heq
      go_wp2_with fail
      go_region_held3 (fun w' => w'.cell? ⟨c, 0, none⟩ = some (.int .i64 f) ∧ w'.cell? ⟨c, 1, none⟩ = some (.int .i64 s) ∧ w'.cell? ⟨b, off + k * 2, none⟩ = some (.int .i64 f') ∧ w'.cell? ⟨b, off + k * 2 + 1, none⟩ = some (.int .i64 s')) (go_keep) (first | fail)
      all_goals
        go_wp2_with fail
        exact ⟨⟨k + 1, by omega, by go_num, hd.out.1.drew, hd.out.2⟩, by simp [intOf]; omega⟩
end Go.Proofs.Ytacfboopkcaobab
