/- grid, the reference: whether it may be asked; how many lie between. -/
import Derived.Test.YtacfboopkcaobabGrS
namespace Go.Proofs.Ytacfboopkcaobab
open Go.RowKit

set_option maxHeartbeats 4000000 in
set_option maxRecDepth 100000 in
theorem rmay_c (p : Int) (a : Option Addr) (len cap : Nat) (t : List Tk) (w : World) (h : Tks w a len t) (g : Bool) (hg : g = decide (May t p)) :
    Calls Try.prog 38 #[.slice a len cap, .int .i64 p] w (Got w (.bool g)) := by
  have HG := Lib.hid (rGood_c a len cap t w h (decide (Good t)) rfl)
  clear h
  by_cases h0 : Good t
  · rw [decide_eq_true h0] at HG
    by_cases h1 : 1 ≤ p
    · by_cases h2 : p ≤ 1099511627776
      · have hv : g = true := by rw [hg]; exact decide_eq_true (show May t p from ⟨h0, h1, h2⟩)
        subst hv
        clear hg h0
        go_enter Try.func38, Try.ntmps38
        go_wp2_with fail
        ((with_reducible refine HG.out.mono ?_); rintro e w1 ⟨rfl, hd1⟩)
        go_wp2_with fail
        go_ret
        exact ⟨rfl, hd1⟩
      · have hv : g = false := by rw [hg]; exact decide_eq_false (fun h : May t p => h2 h.2.2)
        have hd : decide (p ≤ 1099511627776) = false := decide_eq_false h2
        subst hv
        clear hg h0 h2
        go_enter Try.func38, Try.ntmps38
        go_wp2_with fail
        ((with_reducible refine HG.out.mono ?_); rintro e w1 ⟨rfl, hd1⟩)
        go_wp2_with fail
        go_ret
        exact ⟨rfl, hd1⟩
    · have hv : g = false := by rw [hg]; exact decide_eq_false (fun h : May t p => h1 h.2.1)
      have hd : decide (1 ≤ p) = false := decide_eq_false h1
      subst hv
      clear hg h0 h1
      go_enter Try.func38, Try.ntmps38
      go_wp2_with fail
      ((with_reducible refine HG.out.mono ?_); rintro e w1 ⟨rfl, hd1⟩)
      go_wp2_with fail
      go_ret
      exact ⟨rfl, hd1⟩
  · rw [decide_eq_false h0] at HG
    have hv : g = false := by rw [hg]; exact decide_eq_false (fun h : May t p => h0 h.1)
    subst hv
    clear hg h0
    go_enter Try.func38, Try.ntmps38
    go_wp2_with fail
    ((with_reducible refine HG.out.mono ?_); rintro e w1 ⟨rfl, hd1⟩)
    go_wp2_with fail
    go_ret
    exact ⟨rfl, hd1⟩

theorem rC_two (t : List Tk) (lo hi : Int) (k : Nat) (hhi : hi ≤ 1099511627776) (A B : Int) (hA : A = max lo (F t k)) (hB : B = if k + 1 < t.length then min hi (F t (k + 1) - 1) else hi) :
    rC t lo hi k = if B < A then 0 else if (A - F t k + S t k - 1) / S t k ≤ (B - F t k) / S t k then (B - F t k) / S t k - (A - F t k + S t k - 1) / S t k + 1 else 0 := by
  have e : min hi (endN t k - 1) = B := by
    rw [hB]
    unfold endN
    split
    · rfl
    · omega
  unfold rC
  rw [e, ← hA]
theorem rS_bound {t : List Tk} (h : Good t) {lo hi : Int} : ∀ k, k ≤ t.length → 0 ≤ rS t lo hi k ∧ rS t lo hi k ≤ 1099511627777 * k
  | 0, _ => by simp [rS]
  | k + 1, hk => by
    have h1 := rS_bound h (lo := lo) (hi := hi) k (by omega)
    have h2 : 0 ≤ rC t lo hi k ∧ rC t lo hi k ≤ 1099511627777 := by
      by_cases hl : lo ≤ hi
      · have e := rC_eq h (i := k) (by omega) hl
        have c1 := cN_bound h (i := k) (by omega) hi
        have c2 := cN_bound h (i := k) (by omega) (lo - 1)
        refine ⟨?_, by omega⟩
        unfold rC
        split
        · omega
        · split <;> omega
      · rw [rC_zero (by omega)]; omega
    simp only [rS]
    omega

set_option maxHeartbeats 8000000 in
set_option maxRecDepth 100000 in
theorem rCount_yes (lo hi : Int) (a : Option Addr) (len cap : Nat) (t : List Tk) (w : World) (h : Tks w a len t) (hl : May t lo) (hh : May t hi) :
    Calls Try.prog 31 #[.slice a len cap, .int .i64 lo, .int .i64 hi] w (Got w (.int .i64 (rS t lo hi len))) := by
  have HM := Lib.hid (fun (p : Int) (hp : May t p) (W : World) (hW : Below w.heap.size w W) => rmay_c p a len cap t W (h.below hW) true (decide_eq_true hp).symm)
  have HT := Lib.hid h
  have hlen := h.1
  have HG := Lib.hid hl.1
  have hl8 : (len : Int) ≤ 8 := by have := hl.1.2.1; omega
  have l1 := hl.2.1
  have l2 := hl.2.2
  have h1 := hh.2.1
  have h2 := hh.2.2
  have HL := Lib.hid hlen
  have M1 := Lib.hid (HM.out lo hl w (Below.refl _ _))
  have M2 := Lib.hid (HM.out hi hh)
  clear h hl hh hlen HM
  go_enter Try.func31, Try.ntmps31
  go_wp2_with fail
  ((with_reducible refine M1.out.mono ?_); rintro e w1 ⟨rfl, b1⟩)
  have B1 := Lib.hid b1
  have N := Lib.hid (M2.out w1 b1)
  clear b1 M1 M2
  go_wp2_with fail
  ((with_reducible refine N.out.mono ?_); rintro e w2 ⟨rfl, b2⟩)
  have B2 : Hid (Below w.heap.size w w2) := B1.out.trans (b2.mono B1.out.size)
  clear b2 N B1
  go_wp2_with fail
  go_loopw [7, 8] (fun n i wr => ∃ k : Nat, k ≤ len ∧ i = .int .i64 (k : Int) ∧ n = .int .i64 (rS t lo hi k) ∧ Hid (Below w.heap.size w wr)) (fun _ i _ => len - (intOf i).toNat)
  case atStart => exact ⟨0, by omega, rfl, rfl, B2.out⟩
  case round =>
    clear B2
    obtain ⟨k, hk, rfl, rfl, hd⟩ := hrel
    have hk0 : (0 : Int) ≤ (k : Int) := by omega
    by_cases hlt : k < len
    · have hltI : (k : Int) < (len : Int) := by omega
      obtain ⟨b, off, rfl, hb, p0, p1, _, _⟩ := (HT.out.below hd.out).row hlt
      have hr := HG.out.row (i := k) (by rw [HL.out]; exact hlt)
      have hs := HG.out.sz (i := k) (by rw [HL.out]; exact hlt)
      have hsb := rS_bound HG.out (lo := lo) (hi := hi) k (by rw [HL.out]; exact hk)
      have HN : Hid (rS t lo hi (k + 1) = rS t lo hi k + rC t lo hi k) := rfl
      obtain ⟨A, hA⟩ : ∃ A, A = max lo (F t k) := ⟨_, rfl⟩
      obtain ⟨B, hB⟩ : ∃ B, B = if k + 1 < t.length then min hi (F t (k + 1) - 1) else hi := ⟨_, rfl⟩
      have hrc := rC_two t lo hi k h2 A B hA hB
      have hnext : (k + 1 = len ∧ B = hi) ∨ (k + 1 < len ∧ ∃ f', wr.cell? ⟨b, off + (k + 1) * 2, none⟩ = some (.int .i64 f') ∧ (if f' - 1 < hi then f' - 1 else hi) = B ∧ 0 ≤ f' ∧ f' ≤ 1099511627776) := by
        by_cases hn : k + 1 < len
        · right
          obtain ⟨b', off', ha, _, q0, _, _, _⟩ := (HT.out.below hd.out).row hn
          injection ha with ha
          injection ha with ha1 ha2
          subst ha1; subst ha2
          have hr2 := HG.out.row (i := k + 1) (by rw [HL.out]; exact hn)
          have hr3 := HG.out.hi (i := k + 1) (by rw [HL.out]; exact hn)
          refine ⟨hn, F t (k + 1), q0, ?_, hr2.1, hr3⟩
          have hB2 : B = min hi (F t (k + 1) - 1) := by rw [hB, if_pos (by rw [HL.out]; exact hn)]
          split <;> omega
        · left
          exact ⟨by omega, by rw [hB, if_neg (by rw [HL.out]; exact hn)]⟩
      have hBb : -1 ≤ B ∧ B ≤ 1099511627776 := by
        rcases hnext with ⟨_, h⟩ | ⟨_, f', _, h, _, _⟩
        · omega
        · rw [← h]; split <;> omega
      obtain ⟨f, hf⟩ : ∃ f, f = F t k := ⟨_, rfl⟩
      obtain ⟨s, hss⟩ : ∃ s, s = S t k := ⟨_, rfl⟩
      obtain ⟨n, hn⟩ : ∃ n, n = rS t lo hi k := ⟨_, rfl⟩
      obtain ⟨c, hc⟩ : ∃ c, c = rC t lo hi k := ⟨_, rfl⟩
      rw [← hc] at HN hrc
      rw [← hn] at HN hsb ⊢
      rw [← hf] at p0 hr hrc hA
      rw [← hss] at p1 hs hrc
      have hAA : (if lo < f then f else lo) = A := by rw [hA]; split <;> omega
      have hA0 : f ≤ A := by omega
      have hA1 : A ≤ 1099511627776 := by omega
      obtain ⟨f0, f1, f2⟩ := hr
      obtain ⟨s0, s1⟩ := hs
      have hn0 := hsb.1
      have hn1 : n ≤ 8796093022216 := by omega
      clear hf hss hn hc hsb hA hB
      by_cases hBA : B < A
      · rw [if_pos hBA] at hrc
        subst hrc
        have HB : Hid (Below w.heap.size w wr) := hd.out
        clear hd
        rcases hnext with ⟨hn, rfl⟩ | ⟨hn, f', q0, hBB, _, _⟩
        · have hnI : ¬ (k : Int) < (len : Int) - 1 := by omega
          go_wp2_with fail
          exact ⟨⟨k + 1, by omega, by go_num, by rw [HN.out, Int.add_zero], HB.out⟩, by simp [intOf]; omega⟩
        · have hnI : (k : Int) < (len : Int) - 1 := by omega
          have hnI2 : (k : Int) + 1 < (len : Int) := by omega
          go_wp2_with fail
          exact ⟨⟨k + 1, by omega, by go_num, by rw [HN.out, Int.add_zero], HB.out⟩, by simp [intOf]; omega⟩
      · rw [if_neg hBA] at hrc
        have hAB : A ≤ B := by omega
        obtain ⟨q1, hq1⟩ : ∃ q, (A - f + s - 1) / s = q := ⟨_, rfl⟩
        obtain ⟨q2, hq2⟩ : ∃ q, (B - f) / s = q := ⟨_, rfl⟩
        have x1 : 0 ≤ A - f + s - 1 := by omega
        have x2 : 0 ≤ B - f := by omega
        have q10 : 0 ≤ q1 := by rw [← hq1]; exact Int.ediv_nonneg x1 (by omega)
        have q11 : q1 ≤ A - f + s - 1 := by rw [← hq1]; exact Int.ediv_le_self _ x1
        have q20 : 0 ≤ q2 := by rw [← hq2]; exact Int.ediv_nonneg x2 (by omega)
        have q21 : q2 ≤ B - f := by rw [← hq2]; exact Int.ediv_le_self _ x2
        rw [hq1, hq2] at hrc
        have v1 : (A - f + s - 1).tdiv s = q1 := by rw [Int.tdiv_eq_ediv_of_nonneg x1, hq1]
        have v2 : (B - f).tdiv s = q2 := by rw [Int.tdiv_eq_ediv_of_nonneg x2, hq2]
        have w1 : IntKind.i64.wrap (A - f) = A - f := by rw [IntKind.wrap_i64]; omega
        have w2 : IntKind.i64.wrap (A - f + s) = A - f + s := by rw [IntKind.wrap_i64]; omega
        have w3 : IntKind.i64.wrap (A - f + s - 1) = A - f + s - 1 := by rw [IntKind.wrap_i64]; omega
        have w4 : IntKind.i64.wrap (B - f) = B - f := by rw [IntKind.wrap_i64]; omega
        have w5 : IntKind.i64.wrap q1 = q1 := by rw [IntKind.wrap_i64]; omega
        have w6 : IntKind.i64.wrap q2 = q2 := by rw [IntKind.wrap_i64]; omega
        have hs0 : ¬ s = 0 := by omega
        have q12 : q1 ≤ 2199023255552 := by omega
        have q22 : q2 ≤ 1099511627776 := by omega
        have HB : Hid (Below w.heap.size w wr) := hd.out
        have HC := Lib.hid hrc
        clear hd hrc q11 q21 hBA x1 x2
        clear hq1 hq2
        rcases hnext with ⟨hn, rfl⟩ | ⟨hn, f', q0, hBB, _, _⟩
        · have hnI : ¬ (k : Int) < (len : Int) - 1 := by omega
          by_cases hq : q1 ≤ q2
          · have HC2 : Hid (c = q2 - q1 + 1) := by show c = _; rw [HC.out, if_pos hq]
            go_wp2_with fail
            go_quiet (fail)
            go_wp2_with fail
            go_quiet (fail)
            clear v1 v2 w1 w2 w3 w4 w5 w6 hs0
            go_wp2_with fail
            exact ⟨⟨k + 1, by omega, by go_num, by rw [HN.out, HC2.out]; congr 1; omega, below_drewN HB.out _⟩, by simp [intOf]; omega⟩
          · have HC2 : Hid (c = 0) := by show c = _; rw [HC.out, if_neg hq]
            have hq2 : q2 < q1 := by omega
            clear hq
            go_wp2_with fail
            go_quiet (fail)
            go_wp2_with fail
            go_quiet (fail)
            clear v1 v2 w1 w2 w3 w4 w5 w6 hs0
            go_wp2_with fail
            exact ⟨⟨k + 1, by omega, by go_num, by rw [HN.out, HC2.out, Int.add_zero], below_drewN HB.out _⟩, by simp [intOf]; omega⟩
        · have hnI : (k : Int) < (len : Int) - 1 := by omega
          have hnI2 : (k : Int) + 1 < (len : Int) := by omega
          by_cases hq : q1 ≤ q2
          · have HC2 : Hid (c = q2 - q1 + 1) := by show c = _; rw [HC.out, if_pos hq]
            go_wp2_with fail
            go_quiet (fail)
            go_wp2_with fail
            go_quiet (fail)
            clear v1 v2 w1 w2 w3 w4 w5 w6 hs0
            go_wp2_with fail
            exact ⟨⟨k + 1, by omega, by go_num, by rw [HN.out, HC2.out]; congr 1; omega, below_drewN HB.out _⟩, by simp [intOf]; omega⟩
          · have HC2 : Hid (c = 0) := by show c = _; rw [HC.out, if_neg hq]
            have hq2 : q2 < q1 := by omega
            clear hq
            go_wp2_with fail
            go_quiet (fail)
            go_wp2_with fail
            go_quiet (fail)
            clear v1 v2 w1 w2 w3 w4 w5 w6 hs0
            go_wp2_with fail
            exact ⟨⟨k + 1, by omega, by go_num, by rw [HN.out, HC2.out, Int.add_zero], below_drewN HB.out _⟩, by simp [intOf]; omega⟩
    · have hkl : k = len := by omega
      subst hkl
      go_wp2_with fail
      go_ret
      exact ⟨rfl, hd.out⟩
end Go.Proofs.Ytacfboopkcaobab
