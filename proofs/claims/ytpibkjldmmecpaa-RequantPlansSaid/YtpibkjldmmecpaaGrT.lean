/- grid, the reference: whether it may be asked; how many lie between. -/
import Derived.Test.YtpibkjldmmecpaaGrS
namespace Go.Proofs.Ytpibkjldmmecpaa
open Go.RowKit

set_option maxHeartbeats 4000000 in
set_option maxRecDepth 100000 in
theorem rmay_c (p : Int) (a : Option Addr) (len cap : Nat) (t : List Tk) (w : World) (h : Tks w a len t) (g : Bool) (hg : g = decide (May t p)) :
    Calls Try.prog 27 #[.slice a len cap, .int .i64 p] w (Got w (.bool g)) := by
  have HG := Lib.hid (rGood_c a len cap t w h (decide (Good t)) rfl)
  clear h
  by_cases h0 : Good t
  · rw [decide_eq_true h0] at HG
    by_cases h1 : 1 ≤ p
    · by_cases h2 : p ≤ 1099511627776
      · have hv : g = true := by rw [hg]; exact decide_eq_true (show May t p from ⟨h0, h1, h2⟩)
        subst hv
        clear hg h0
        go_enter Try.func27, Try.ntmps27
        go_wp2_with fail
        ((with_reducible refine HG.out.mono ?_); rintro e w1 ⟨rfl, hd1⟩)
        go_wp2_with fail
        go_ret
        exact ⟨rfl, hd1⟩
      · have hv : g = false := by rw [hg]; exact decide_eq_false (fun h : May t p => h2 h.2.2)
        have hd : decide (p ≤ 1099511627776) = false := decide_eq_false h2
        subst hv
        clear hg h0 h2
        go_enter Try.func27, Try.ntmps27
        go_wp2_with fail
        ((with_reducible refine HG.out.mono ?_); rintro e w1 ⟨rfl, hd1⟩)
        go_wp2_with fail
        go_ret
        exact ⟨rfl, hd1⟩
    · have hv : g = false := by rw [hg]; exact decide_eq_false (fun h : May t p => h1 h.2.1)
      have hd : decide (1 ≤ p) = false := decide_eq_false h1
      subst hv
      clear hg h0 h1
      go_enter Try.func27, Try.ntmps27
      go_wp2_with fail
      ((with_reducible refine HG.out.mono ?_); rintro e w1 ⟨rfl, hd1⟩)
      go_wp2_with fail
      go_ret
      exact ⟨rfl, hd1⟩
  · rw [decide_eq_false h0] at HG
    have hv : g = false := by rw [hg]; exact decide_eq_false (fun h : May t p => h0 h.1)
    subst hv
    clear hg h0
    go_enter Try.func27, Try.ntmps27
    go_wp2_with fail
    ((with_reducible refine HG.out.mono ?_); rintro e w1 ⟨rfl, hd1⟩)
    go_wp2_with fail
    go_ret
    exact ⟨rfl, hd1⟩

theorem rC_two (t : List Tk) (lo hi : Int) (k : Nat) (hhi : hi ≤ 1099511627776) (A B : Int) (hA : A = max lo (F t k)) (hB : B = if k + 1 < t.length then min hi (F t (k + 1) - 1) else hi) :
    rC t lo hi k = if B < A then 0 else if (A - F t k + S t k - 1) / S t k ≤ (B - F t k) / S t k then (B - F t k) / S t k - (A - F t k + S t k - 1) / S t k + 1 else 0 := by
  have e : min hi (endN t k - 1) = B := by
    rw [hB]
    unfold endN
    split
    · rfl
    · omega
  unfold rC
  rw [e, ← hA]
theorem rS_bound {t : List Tk} (h : Good t) {lo hi : Int} : ∀ k, k ≤ t.length → 0 ≤ rS t lo hi k ∧ rS t lo hi k ≤ 1099511627777 * k
  | 0, _ => by simp [rS]
  | k + 1, hk => by
    have h1 := rS_bound h (lo := lo) (hi := hi) k (by omega)
    have h2 : 0 ≤ rC t lo hi k ∧ rC t lo hi k ≤ 1099511627777 := by
      by_cases hl : lo ≤ hi
      · have e := rC_eq h (i := k) (by omega) hl
        have c1 := cN_bound h (i := k) (by omega) hi
        have c2 := cN_bound h (i := k) (by omega) (lo - 1)
        refine ⟨?_, by omega⟩
        unfold rC
        split
        · omega
        · split <;> omega
      · rw [rC_zero (by omega)]; omega
    simp only [rS]
    omega

end Go.Proofs.Ytpibkjldmmecpaa
