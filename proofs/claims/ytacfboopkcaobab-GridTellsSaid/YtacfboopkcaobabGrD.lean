/- grid: a row's end; how many prices are not above a number. -/
import Derived.Test.YtacfboopkcaobabGrC
namespace Go.Proofs.Ytacfboopkcaobab
open Go.RowKit

set_option maxHeartbeats 4000000 in
set_option maxRecDepth 100000 in
theorem end_c (k : Nat) (a : Option Addr) (len cap : Nat) (t : List Tk) (w : World) (h : Tks w a len t) (hk : k < 1000000) :
    Calls Try.prog 40 #[.slice a len cap, .int .i64 (k : Int)] w fun e w' => e = .returned (.int .i64 (endN t k)) ∧ w = w' := by
  have hl := h.1
  have hm := h.2.1
  have hmI : (len : Int) ≤ 9223372036854775807 := by omega
  have hk0 : (0 : Int) ≤ (k : Int) := by omega
  have hk1 : (k : Int) < 1000000 := by omega
  by_cases hlt : k + 1 < len
  · obtain ⟨b, off, rfl, hb, p0, _, _, _⟩ := h.row hlt
    rw [show endN t k = F t (k + 1) by unfold endN; rw [if_pos (by omega)]]
    obtain ⟨f, hf⟩ : ∃ f, f = F t (k + 1) := ⟨_, rfl⟩
    rw [← hf] at p0 ⊢
    have hltI : (k : Int) + 1 < (len : Int) := by omega
    have hkk : ((k : Int) + 1).toNat = k + 1 := by omega
    have e1 : (k : Int) + 1 = ((k + 1 : Nat) : Int) := by omega
    clear h hl hm hf hlt hb e1
    go_enter Try.func40, Try.ntmps40
    go_wp2
    go_ret
    exact ⟨rfl, rfl⟩
  · rw [show endN t k = 1099511627777 by unfold endN; rw [if_neg (by omega)]]
    have hltI : decide ((k : Int) + 1 < (len : Int)) = false := decide_eq_false (by omega)
    clear h hl hm hlt hmI
    go_enter Try.func40, Try.ntmps40
    go_wp2
    go_ret
    exact ⟨rfl, rfl⟩

set_option maxHeartbeats 8000000 in
set_option maxRecDepth 100000 in
theorem upTo_c (top : Int) (a : Option Addr) (len cap : Nat) (t : List Tk) (w : World) (h : Tks w a len t) (hg : Good t) (ht0 : 0 ≤ top) (ht1 : top ≤ 1099511627776) :
    Calls Try.prog 45 #[.slice a len cap, .int .i64 top] w (Got w (.int .i64 (upS t top len))) := by
  have hl := h.1
  have hl8 : (len : Int) ≤ 8 := by have := hg.2.1; omega
  have HT := Lib.hid h
  have HG := Lib.hid hg
  have HL := Lib.hid hl
  clear h hg hl
  go_enter Try.func45, Try.ntmps45
  go_wp2_with fail
  go_loopw [5, 11] (fun n i wr => ∃ k : Nat, k ≤ len ∧ i = .int .i64 (k : Int) ∧ n = .int .i64 (upS t top k) ∧ Hid (Below w.heap.size w wr)) (fun _ i _ => len - (intOf i).toNat)
  case atStart => exact ⟨0, by omega, rfl, rfl, Below.refl _ _⟩
  case round =>
    obtain ⟨k, hk, rfl, rfl, hd⟩ := hrel
    by_cases hlt : k < len
    · have hltI : (k : Int) < (len : Int) := by omega
      have hk0 : (0 : Int) ≤ (k : Int) := by omega
      obtain ⟨b, off, rfl, hb, p0, p1, _, _⟩ := (HT.out.below hd.out).row hlt
      have hr := HG.out.row (i := k) (by rw [HL.out]; exact hlt)
      have hs := HG.out.sz (i := k) (by rw [HL.out]; exact hlt)
      have hu := upS_bound HG.out top k (by rw [HL.out]; exact hk)
      have hcn := cN_bound HG.out (i := k) (by rw [HL.out]; exact hlt) top
      have HN : Hid (upS t top (k + 1) = upS t top k + cN t top k) := rfl
      have hsz := hd.out.size
      have HE := fun (W : World) (hW : Below wr.heap.size wr W) => end_c k (some ⟨b, off, none⟩) len cap t W ((HT.out.below hd.out).below hW) (by omega)
      have hc1 : cN t top k = if F t k ≤ min top (endN t k - 1) then (min top (endN t k - 1) - F t k) / S t k + 1 else 0 := rfl
      obtain ⟨f, hf⟩ : ∃ f, f = F t k := ⟨_, rfl⟩
      obtain ⟨s, hss⟩ : ∃ s, s = S t k := ⟨_, rfl⟩
      obtain ⟨E, hE⟩ : ∃ E, E = endN t k := ⟨_, rfl⟩
      obtain ⟨n, hn⟩ : ∃ n, n = upS t top k := ⟨_, rfl⟩
      obtain ⟨c, hc⟩ : ∃ c, c = cN t top k := ⟨_, rfl⟩
      rw [← hc] at HN hcn hc1
      rw [← hn] at HN hu ⊢
      rw [← hf] at p0 hr hc1
      rw [← hss] at p1 hs hc1
      rw [← hE] at HE hr hc1
      obtain ⟨m, hm⟩ : ∃ m, min top (E - 1) = m := ⟨_, rfl⟩
      rw [hm] at hc1
      have HE2 := Lib.hid (HE _ ((Below.refl _ wr).alloc (Nat.le_refl _) (.cells #[.int .i64 f, .int .i64 s] 63)))
      have hmm : (if E - 1 < top then E - 1 else top) = m := by split <;> omega
      have hm0 : m ≤ top := by omega
      have hm1 : m ≤ E - 1 := by omega
      have hm2 : -1 ≤ m := by omega
      have hu1 := hu.1
      have hu2 : n ≤ 8796093022216 := by omega
      clear hf hss hE hn hc HE hu hm
      by_cases hin : f ≤ m
      · rw [if_pos hin] at hc1
        obtain ⟨q, hq⟩ : ∃ q, (m - f) / s = q := ⟨_, rfl⟩
        rw [hq] at hc1
        have hq0 : 0 ≤ q := by rw [← hq]; exact Int.ediv_nonneg (by omega) (by omega)
        have hq1 : q ≤ 1099511627777 := by omega
        have HC := Lib.hid hc1
        have hB : Hid (Below w.heap.size w (wr.alloc (.cells #[.int .i64 f, .int .i64 s] 63))) := hd.out.alloc hsz _
        obtain ⟨f0, f1, f2⟩ := hr
        obtain ⟨s0, s1⟩ := hs
        clear hc1 hcn hd
        go_wp2_with fail
        ((with_reducible refine HE2.out.mono ?_); rintro e w1 ⟨rfl, rfl⟩)
        clear HE2
        go_wp2_with fail
        exact ⟨⟨k + 1, by omega, by go_num, by rw [HN.out, HC.out], hB.out⟩, by simp [intOf]; omega⟩
      · rw [if_neg hin] at hc1
        have hin2 : m < f := by omega
        have HC := Lib.hid hc1
        have hB : Hid (Below w.heap.size w (wr.alloc (.cells #[.int .i64 f, .int .i64 s] 63))) := hd.out.alloc hsz _
        obtain ⟨f0, f1, f2⟩ := hr
        obtain ⟨s0, s1⟩ := hs
        clear hc1 hcn hd hin
        go_wp2_with fail
        ((with_reducible refine HE2.out.mono ?_); rintro e w1 ⟨rfl, rfl⟩)
        clear HE2
        go_wp2_with fail
        exact ⟨⟨k + 1, by omega, by go_num, by rw [HN.out, HC.out, Int.add_zero], hB.out⟩, by simp [intOf]; omega⟩
    · have hkl : k = len := by omega
      subst hkl
      go_wp2_with fail
      go_ret
      exact ⟨rfl, hd.out⟩
end Go.Proofs.Ytacfboopkcaobab
