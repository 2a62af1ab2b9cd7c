/- fees: a volume's row; the greatest part; a role's part. -/
import Derived.Test.YtghpafbgjbhohaaFeB
namespace Go.Proofs.Ytghpafbgjbhohaa
open Go.RowKit

theorem checkT_iff {t : List Ti} : (GoodT t → checkT t = 0) ∧ (¬ GoodT t → checkT t = 43) := ⟨fun h => if_pos h, fun h => if_neg h⟩
theorem T3.all {w : World} {c : Nat} {f m k : Int} (h : T3 w c f m k) : w.cell? ⟨c, 0, none⟩ = some (.int .i64 f) ∧ w.cell? ⟨c, 1, none⟩ = some (.int .i64 m) ∧ w.cell? ⟨c, 2, none⟩ = some (.int .i64 k) ∧ w.frozen? ⟨c, 0, none⟩ = false ∧ w.frozen? ⟨c, 1, none⟩ = false ∧ w.frozen? ⟨c, 2, none⟩ = false ∧ c < w.heap.size :=
  ⟨h.c0, h.c1, h.c2, h.f 0, h.f 1, h.f 2, blk_lt h⟩
theorem T3.three {w : World} {c : Nat} {f m k : Int} (h : T3 w c f m k) : w.cell? ⟨c, 0, none⟩ = some (.int .i64 f) ∧ w.cell? ⟨c, 1, none⟩ = some (.int .i64 m) ∧ w.cell? ⟨c, 2, none⟩ = some (.int .i64 k) :=
  ⟨h.c0, h.c1, h.c2⟩

set_option maxHeartbeats 8000000 in
set_option maxRecDepth 100000 in
theorem tier_no (v : Int) (a : Option Addr) (len cap : Nat) (t : List Ti) (w : World) (h : Tis w a len t) (hg : ¬ GoodT t) :
    Calls Try.prog 21 #[.slice a len cap, .int .i64 v] w (Got w (.agg #[.int .i64 0, .int .i64 0, .int .i64 0])) := by
  have hb0 : Below w.heap.size w (w.alloc (.cells #[.int .i64 0, .int .i64 0, .int .i64 0] 41)) := (Below.refl _ w).alloc (Nat.le_refl _) _
  have HC := Lib.hid (check_c a len cap t _ (h.below hb0))
  rw [checkT_iff.2 hg] at HC
  have HX : Hid (T3 (w.alloc (.cells #[.int .i64 0, .int .i64 0, .int .i64 0] 41)) w.heap.size 0 0 0) := heap_alloc_new w _
  have H0 := Lib.hid hb0
  clear h hb0 hg
  go_enter Try.func21, Try.ntmps21
  go_wp2_with fail
  ((with_reducible refine HC.out.mono ?_); rintro e w1 ⟨rfl, hd1⟩)
  have hb1 : Hid (Below w.heap.size w w1) := H0.out.trans (hd1.mono H0.out.size)
  have HX1 := Lib.hid (HX.out.below hd1)
  obtain ⟨c0, c1, c2, f0, f1, f2, cl⟩ := HX1.out.all
  have hfin := Lib.hid (T3.low (c := w.heap.size) hb1.out (Nat.le_refl _) 0 0 0)
  obtain ⟨d0, d1, d2⟩ := (HX1.out.set 0 0 0).three
  clear hd1 HC H0 HX
  go_wp2_with fail
  refine bodyPost_ret (v := .agg #[.int .i64 0, .int .i64 0, .int .i64 0]) (by simp [results, Try.results21, go_sem, d0, d1, d2]) rfl ⟨rfl, hfin.out⟩

set_option maxHeartbeats 8000000 in
set_option maxRecDepth 100000 in
theorem tier_yes (v : Int) (a : Option Addr) (len cap : Nat) (t : List Ti) (w : World) (h : Tis w a len t) (hg : GoodT t) (rf rm rk : Int) (hr : (⟨rf, rm, rk⟩ : Ti) = rowT t v) :
    Calls Try.prog 21 #[.slice a len cap, .int .i64 v] w (Got w (.agg #[.int .i64 rf, .int .i64 rm, .int .i64 rk])) := by
  have hb0 : Below w.heap.size w (w.alloc (.cells #[.int .i64 0, .int .i64 0, .int .i64 0] 41)) := (Below.refl _ w).alloc (Nat.le_refl _) _
  have HC := Lib.hid (check_c a len cap t _ (h.below hb0))
  rw [checkT_iff.1 hg] at HC
  have HX : Hid (T3 (w.alloc (.cells #[.int .i64 0, .int .i64 0, .int .i64 0] 41)) w.heap.size 0 0 0) := heap_alloc_new w _
  have H0 := Lib.hid hb0
  have HT := Lib.hid h
  have HL := Lib.hid h.1
  have hl8 : (len : Int) ≤ 8 := by have := hg.2.1; have := h.1; omega
  have HR : Hid ((⟨rf, rm, rk⟩ : Ti) = match upto t v len with | 0 => ⟨0, 0, 0⟩ | n + 1 => t.getD n ⟨0, 0, 0⟩) := by
    show _ = _
    rw [hr, ← h.1]; exact if_pos hg
  clear h hb0 hg hr
  go_enter Try.func21, Try.ntmps21
  go_wp2_with fail
  ((with_reducible refine HC.out.mono ?_); rintro e w1 ⟨rfl, hd1⟩)
  have hb1 : Hid (Below w.heap.size w w1) := H0.out.trans (hd1.mono H0.out.size)
  have HX1 := Lib.hid (HX.out.below hd1)
  clear hd1 HC H0 HX
  go_wp2_with fail
  obtain ⟨c, hc⟩ : ∃ c, c = w.heap.size := ⟨_, rfl⟩
  rw [← hc] at HX1 hb1 ⊢
  have HCc := Lib.hid hc
  clear hc
  go_loopw [13] (fun i wr => ∃ k : Nat, k ≤ len ∧ i = .int .i64 (k : Int) ∧ Hid (upto t v len = upto t v (len - k) ∧ Below c w wr ∧ T3 wr c 0 0 0)) (fun i _ => len - (intOf i).toNat)
  case atStart => exact ⟨0, by omega, rfl, rfl, hb1.out, HX1.out⟩
  case round =>
    clear hb1 HX1
    obtain ⟨k, hk, rfl, hd⟩ := hrel
    have hk0 : (0 : Int) ≤ (k : Int) := by omega
    by_cases hlt : k < len
    · have hltI : (k : Int) < (len : Int) := by omega
      obtain ⟨i, hi⟩ : ∃ i, len = i + 1 + k := ⟨len - 1 - k, by omega⟩
      have hil : i < len := by omega
      have hiI : (i : Int) < (len : Int) := by omega
      have hi0 : (0 : Int) ≤ (i : Int) := by omega
      have he : (len : Int) - 1 - (k : Int) = (i : Int) := by omega
      obtain ⟨b, off, rfl, hb, p0, p1, p2, _⟩ := (HT.out.below (by rw [← HCc.out]; exact hd.out.2.1)).row hil
      have hm : (⟨TF t i, TM t i, TK t i⟩ : Ti) = t.getD i ⟨0, 0, 0⟩ := rfl
      have hU : Hid (upto t v len = upto t v (i + 1)) := by
        show _ = _
        rw [hd.out.1]; congr 1; omega
      obtain ⟨f, hf⟩ : ∃ f, f = TF t i := ⟨_, rfl⟩
      obtain ⟨m, hmm⟩ : ∃ m, m = TM t i := ⟨_, rfl⟩
      obtain ⟨x, hx⟩ : ∃ x, x = TK t i := ⟨_, rfl⟩
      rw [← hf] at p0
      rw [← hmm] at p1
      rw [← hx] at p2
      rw [← hf, ← hmm, ← hx] at hm
      obtain ⟨c0, c1, c2, f0, f1, f2, cl⟩ := hd.out.2.2.all
      by_cases hfv : f ≤ v
      · have hres : rf = f ∧ rm = m ∧ rk = x := by
          have := HR.out
          rw [hU.out, upto_yes (by rw [← hf]; exact hfv)] at this
          simp only at this
          rw [← hm] at this
          injection this with e1 e2 e3
          exact ⟨e1, e2, e3⟩
        obtain ⟨rfl, rfl, rfl⟩ := hres
        have hfin : Hid (Below w.heap.size w ((set3 wr c rf rm rk).alloc (.cells #[.int .i64 rf, .int .i64 rm, .int .i64 rk] 41))) := by
          have := T3.low (c := c) hd.out.2.1 (Nat.le_refl _) rf rm rk
          have hs := this.size
          rw [HCc.out] at this ⊢
          rw [HCc.out] at hs
          exact this.alloc hs _
        obtain ⟨d0, d1, d2⟩ := ((hd.out.2.2.set rf rm rk).alloc (.cells #[.int .i64 rf, .int .i64 rm, .int .i64 rk] 41)).three
        clear hf hmm hx hm hU hd hi
        go_wp2_with fail
        refine bodyPost_ret (v := .agg #[.int .i64 rf, .int .i64 rm, .int .i64 rk]) (by simp [results, Try.results21, go_sem, d0, d1, d2]) rfl ⟨rfl, hfin.out⟩
      · have hvf : v < f := by omega
        have hN : Hid (upto t v len = upto t v (len - (k + 1)) ∧ Below c w (wr.alloc (.cells #[.int .i64 f, .int .i64 m, .int .i64 x] 41)) ∧ T3 (wr.alloc (.cells #[.int .i64 f, .int .i64 m, .int .i64 x] 41)) c 0 0 0) := by
          refine ⟨?_, hd.out.2.1.alloc (by have := hd.out.2.1.size; rw [HCc.out]; exact this) _, hd.out.2.2.alloc _⟩
          rw [hU.out, upto_no (by rw [← hf]; exact hfv)]
          congr 1; omega
        clear hf hmm hx hm hU hd hi hfv
        go_wp2_with fail
        exact ⟨⟨k + 1, by omega, by go_num, hN.out⟩, by simp [intOf]; omega⟩
    · have hkl : k = len := by omega
      subst hkl
      have hres : rf = 0 ∧ rm = 0 ∧ rk = 0 := by
        have := HR.out
        rw [hd.out.1, Nat.sub_self] at this
        simp only [upto] at this
        injection this with e1 e2 e3
        exact ⟨e1, e2, e3⟩
      obtain ⟨rfl, rfl, rfl⟩ := hres
      obtain ⟨c0, c1, c2, f0, f1, f2, cl⟩ := hd.out.2.2.all
      have hfin : Hid (Below w.heap.size w (set3 wr c 0 0 0)) := by
        have := T3.low (c := c) hd.out.2.1 (Nat.le_refl _) 0 0 0
        rw [HCc.out] at this ⊢
        exact this
      obtain ⟨d0, d1, d2⟩ := (hd.out.2.2.set 0 0 0).three
      clear hd
      go_wp2_with fail
      refine bodyPost_ret (v := .agg #[.int .i64 0, .int .i64 0, .int .i64 0]) (by simp [results, Try.results21, go_sem, d0, d1, d2]) rfl ⟨rfl, hfin.out⟩

theorem tier_c (v : Int) (a : Option Addr) (len cap : Nat) (t : List Ti) (w : World) (h : Tis w a len t) :
    Calls Try.prog 21 #[.slice a len cap, .int .i64 v] w (Got w (.agg #[.int .i64 (rowT t v).f, .int .i64 (rowT t v).m, .int .i64 (rowT t v).k])) := by
  by_cases hg : GoodT t
  · exact tier_yes v a len cap t w h hg _ _ _ rfl
  · rw [show rowT t v = ⟨0, 0, 0⟩ from if_neg hg]
    exact tier_no v a len cap t w h hg

set_option maxHeartbeats 8000000 in
set_option maxRecDepth 100000 in
theorem top_c (a : Option Addr) (len cap : Nat) (t : List Ti) (w : World) (h : Tis w a len t) :
    Calls Try.prog 23 #[.slice a len cap] w (Got w (.int .i64 (topT t))) := by
  have HC := Lib.hid (check_c a len cap t w h)
  have HT := Lib.hid h
  have HL := Lib.hid h.1
  by_cases hg : GoodT t
  · rw [checkT_iff.1 hg] at HC
    have hl8 : (len : Int) ≤ 8 := by have := hg.2.1; have := h.1; omega
    have HR : Hid (topT t = topS t len) := by show _ = _; rw [← h.1]; exact if_pos hg
    clear h hg
    go_enter Try.func23, Try.ntmps23
    go_wp2_with fail
    ((with_reducible refine HC.out.mono ?_); rintro e w1 ⟨rfl, hd1⟩)
    have HB1 := Lib.hid hd1
    clear hd1 HC
    go_wp2_with fail
    go_loopw [3, 11] (fun v i wr => ∃ k : Nat, k ≤ len ∧ i = .int .i64 (k : Int) ∧ v = .int .i64 (topS t k) ∧ Hid (Below w.heap.size w wr)) (fun _ i _ => len - (intOf i).toNat)
    case atStart => exact ⟨0, by omega, rfl, rfl, HB1.out⟩
    case round =>
      clear HB1
      obtain ⟨k, hk, rfl, rfl, hd⟩ := hrel
      have hk0 : (0 : Int) ≤ (k : Int) := by omega
      by_cases hlt : k < len
      · have hltI : (k : Int) < (len : Int) := by omega
        obtain ⟨b, off, rfl, hb, p0, p1, p2, _⟩ := (HT.out.below hd.out).row hlt
        have HN : Hid (max (max (topS t k) (TM t k)) (TK t k) = topS t (k + 1)) := rfl
        obtain ⟨f, hf⟩ : ∃ f, f = TF t k := ⟨_, rfl⟩
        obtain ⟨m, hmm⟩ : ∃ m, m = TM t k := ⟨_, rfl⟩
        obtain ⟨x, hx⟩ : ∃ x, x = TK t k := ⟨_, rfl⟩
        obtain ⟨s, hs⟩ : ∃ s, s = topS t k := ⟨_, rfl⟩
        obtain ⟨n, hn⟩ : ∃ n, n = topS t (k + 1) := ⟨_, rfl⟩
        rw [← hf] at p0
        rw [← hmm] at p1 HN
        rw [← hx] at p2 HN
        rw [← hs] at HN ⊢
        rw [← hn] at HN
        have HNn := Lib.hid hn
        have hB : Hid (Below w.heap.size w (wr.alloc (.cells #[.int .i64 f, .int .i64 m, .int .i64 x] 41))) := hd.out.alloc hd.out.size _
        have hcase : (s < m ∧ m < x ∧ n = x) ∨ (s < m ∧ x ≤ m ∧ n = m) ∨ (m ≤ s ∧ s < x ∧ n = x) ∨ (m ≤ s ∧ x ≤ s ∧ n = s) := by have := HN.out; omega
        clear hf hmm hx hs hn hd HN
        rcases hcase with ⟨g1, g2, rfl⟩ | ⟨g1, g2, rfl⟩ | ⟨g1, g2, rfl⟩ | ⟨g1, g2, rfl⟩
        all_goals
          go_wp2_with fail
          exact ⟨⟨k + 1, by omega, by go_num, by rw [HNn.out], hB.out⟩, by simp [intOf]; omega⟩
      · have hkl : k = len := by omega
        subst hkl
        go_wp2_with fail
        go_ret
        rw [HR.out]
        exact ⟨rfl, hd.out⟩
  · rw [checkT_iff.2 hg] at HC
    rw [show topT t = 0 from if_neg hg]
    clear h hg
    go_enter Try.func23, Try.ntmps23
    go_wp2_with fail
    ((with_reducible refine HC.out.mono ?_); rintro e w1 ⟨rfl, hd1⟩)
    go_wp2_with fail
    go_ret
    exact ⟨rfl, hd1⟩

set_option maxHeartbeats 8000000 in
theorem paid_c (f m k role : Int) (w : World) :
    Calls Try.prog 40 #[.agg #[.int .i64 f, .int .i64 m, .int .i64 k], .int .i64 role] w (Got w (.tuple #[.int .i64 (if role = 1 then k else if role = 2 then m else 0), .bool (decide (role = 1 ∨ role = 2))])) := by
  by_cases h1 : role = 1
  · subst h1
    rw [if_pos rfl, decide_eq_true (.inl rfl)]
    go_enter Try.func40, Try.ntmps40
    go_wp2_with fail
    go_ret2
    exact ⟨rfl, (Below.refl _ w).alloc (Nat.le_refl _) _⟩
  have e1 : (role == 1) = false := by simp [h1]
  by_cases h2 : role = 2
  · subst h2
    rw [if_neg h1, if_pos rfl, decide_eq_true (.inr rfl)]
    clear h1
    go_enter Try.func40, Try.ntmps40
    go_wp2_with fail
    go_ret2
    exact ⟨rfl, (Below.refl _ w).alloc (Nat.le_refl _) _⟩
  · have e2 : (role == 2) = false := by simp [h2]
    rw [if_neg h1, if_neg h2, decide_eq_false (by omega)]
    clear h1 h2
    go_enter Try.func40, Try.ntmps40
    go_wp2_with fail
    go_ret2
    exact ⟨rfl, (Below.refl _ w).alloc (Nat.le_refl _) _⟩
end Go.Proofs.Ytghpafbgjbhohaa
