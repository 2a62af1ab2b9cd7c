/- grid: a price's row. -/
import Derived.Test.YtpibkjldmmecpaaGrB
namespace Go.Proofs.Ytpibkjldmmecpaa
open Go.RowKit

theorem frst_behind {t : List Tk} {p : Int} : ∀ (d i : Nat), t.length - i = d → i ≤ t.length → (frst t (fun j => decide (p < F t j)) i = (behind t p i : Int) ∧ behind t p i < t.length) ∨ (frst t (fun j => decide (p < F t j)) i = -1 ∧ behind t p i = t.length)
  | 0, i, hd, hi => by rw [frst_end (by omega), behind_end (by omega)]; exact .inr ⟨rfl, rfl⟩
  | d + 1, i, hd, hi => by
    by_cases hp : p < F t i
    · rw [frst_yes (by omega) (decide_eq_true hp), behind_yes (by omega) hp]; exact .inl ⟨rfl, by omega⟩
    · rw [frst_no (by omega) (decide_eq_false hp), behind_no (by omega) hp]; exact frst_behind d (i + 1) (by omega) (by omega)

set_option maxHeartbeats 4000000 in
set_option maxRecDepth 100000 in
theorem above_c (c : Nat) (p f s : Int) (w : World) (h : Bx 2 w c (.int .i64 p)) :
    Calls Try.prog 33 #[.agg #[.int .i64 f, .int .i64 s], .pointer (some ⟨c, 0, none⟩)] w (Got w (.bool (decide (p < f)))) := by
  have k0 := (h.alloc (.cells #[.int .i64 f, .int .i64 s] 56)).c0
  clear h
  go_enter Try.func33, Try.ntmps33
  go_wp2_with fail
  go_ret
  exact ⟨rfl, (Below.refl _ w).alloc (Nat.le_refl _) _⟩

set_option maxHeartbeats 4000000 in
set_option maxRecDepth 100000 in
theorem idxAbove_c (c : Nat) (p : Int) (a : Option Addr) (len cap : Nat) (t : List Tk) (w : World) (h : Tks w a len t) (hx : Bx 2 w c (.int .i64 p)) :
    Calls Try.prog 34 #[.slice a len cap, .func (.func 33) #[] #[.pointer (some ⟨c, 0, none⟩)]] w (Got w (.int .i64 (frst t (fun j => decide (p < F t j)) 0))) := by
  have HT := Lib.hid h
  have HX := Lib.hid hx
  have hl := h.1
  have hm := h.2.1
  have HL := Lib.hid hl
  have hmI : (len : Int) ≤ 9223372036854775807 := by omega
  clear h hl hm hx
  obtain ⟨r, hr⟩ : ∃ r, r = frst t (fun j => decide (p < F t j)) 0 := ⟨_, rfl⟩
  rw [← hr]
  have HR := Lib.hid hr
  clear hr
  go_enter Try.func34, Try.ntmps34
  go_wp2_with fail
  go_loopw [8] (fun i wr => ∃ k : Nat, k ≤ len ∧ i = .int .i64 (k : Int) ∧ Hid (r = frst t (fun j => decide (p < F t j)) k ∧ Below w.heap.size w wr)) (fun i _ => len - (intOf i).toNat)
  case atStart => exact ⟨0, by omega, rfl, HR.out, Below.refl _ _⟩
  case round =>
    clear HR
    obtain ⟨k, hk, rfl, hd⟩ := hrel
    by_cases hlt : k < len
    · have hltI : (k : Int) < (len : Int) := by omega
      have hk0 : (0 : Int) ≤ (k : Int) := by omega
      obtain ⟨b, off, rfl, hb, p0, p1, _, _⟩ := (HT.out.below hd.out.2).row hlt
      have hbx : Bx 2 wr c (.int .i64 p) := (hd.out.2.block c (blk_lt HX.out)).trans HX.out
      have HW := Lib.hid (above_c c p (F t k) (S t k) wr hbx)
      clear hbx
      by_cases hp : p < F t k
      · have HF : Hid (r = (k : Int)) := by show _ = _; rw [hd.out.1, frst_yes (by rw [HL.out]; exact hlt) (decide_eq_true hp)]
        rw [decide_eq_true hp] at HW
        obtain ⟨f, hf⟩ : ∃ f, f = F t k := ⟨_, rfl⟩
        obtain ⟨s, hs⟩ : ∃ s, s = S t k := ⟨_, rfl⟩
        rw [← hf, ← hs] at HW
        rw [← hf] at p0
        rw [← hs] at p1
        clear hp hf hs
        go_wp2_with fail
        ((with_reducible refine HW.out.mono ?_); rintro e w1 ⟨rfl, hd1⟩)
        have hD : Hid (Below w.heap.size w w1) := hd.out.2.trans (hd1.mono hd.out.2.size)
        clear hd hd1 HW
        go_wp2_with fail
        go_ret
        rw [HF.out]
        exact ⟨rfl, hD.out⟩
      · have HF : Hid (r = frst t (fun j => decide (p < F t j)) (k + 1)) := by show _ = _; rw [hd.out.1, frst_no (by rw [HL.out]; exact hlt) (decide_eq_false hp)]
        rw [decide_eq_false hp] at HW
        obtain ⟨f, hf⟩ : ∃ f, f = F t k := ⟨_, rfl⟩
        obtain ⟨s, hs⟩ : ∃ s, s = S t k := ⟨_, rfl⟩
        rw [← hf, ← hs] at HW
        rw [← hf] at p0
        rw [← hs] at p1
        clear hp hf hs
        go_wp2_with fail
        ((with_reducible refine HW.out.mono ?_); rintro e w1 ⟨rfl, hd1⟩)
        have hD : Hid (Below w.heap.size w w1) := hd.out.2.trans (hd1.mono hd.out.2.size)
        clear hd hd1 HW
        go_wp2_with fail
        exact ⟨⟨k + 1, by omega, by go_num, HF.out, hD.out⟩, by simp [intOf]; omega⟩
    · have HF : Hid (r = -1) := by show _ = _; rw [hd.out.1, frst_end (by rw [HL.out]; omega)]
      have hkl : k = len := by omega
      subst hkl
      go_wp2_with fail
      go_ret
      rw [HF.out]
      exact ⟨rfl, hd.out.2⟩

set_option maxHeartbeats 4000000 in
theorem none_c (w : World) : Calls Try.prog 26 #[] w (Got w (.agg #[.int .i64 0, .int .i64 0])) := by
  go_enter Try.func26, Try.ntmps26
  go_wp2_with fail
  refine bodyPost_ret (v := .agg #[.int .i64 0, .int .i64 0]) (by simp [results, Try.results26, go_sem]) rfl ⟨rfl, ?_⟩
  exact (Below.refl _ w).alloc (Nat.le_refl _) _

theorem may_iff {t : List Tk} {p : Int} : May t p ↔ checkN t = 0 ∧ 1 ≤ p ∧ p ≤ 1099511627776 := by
  unfold May checkN
  by_cases h : Good t
  · simp [h]
  · simp [h]

/-- The price's box, and the result's cells behind it. -/
def RX (w : World) (c : Nat) (p f s : Int) : Prop := Bx 2 w c (.int .i64 p) ∧ w.heap[c + 1]? = some (.cells #[.int .i64 f, .int .i64 s] 56 (0, 0))
theorem RX.new (w : World) (p : Int) : RX ((w.alloc (.cells #[.int .i64 p] 2)).alloc (.cells #[.int .i64 0, .int .i64 0] 56)) w.heap.size p 0 0 := by
  refine ⟨Bx.alloc (heap_alloc_new w _) _, ?_⟩
  have h := heap_alloc_new (w.alloc (.cells #[.int .i64 p] 2)) (.cells #[.int .i64 0, .int .i64 0] 56)
  rw [World.size_alloc] at h
  exact h
theorem RX.below {w w' : World} {c : Nat} {p f s : Int} (h : RX w c p f s) (hb : Below w.heap.size w w') : RX w' c p f s := ⟨(hb.block c (blk_lt h.1)).trans h.1, (hb.block _ (blk_lt h.2)).trans h.2⟩
theorem RX.all {w : World} {c : Nat} {p f s : Int} (h : RX w c p f s) : w.cell? ⟨c, 0, none⟩ = some (.int .i64 p) ∧ w.cell? ⟨c + 1, 0, none⟩ = some (.int .i64 f) ∧ w.cell? ⟨c + 1, 1, none⟩ = some (.int .i64 s) ∧ w.frozen? ⟨c + 1, 0, none⟩ = false ∧ w.frozen? ⟨c + 1, 1, none⟩ = false ∧ c + 1 < w.heap.size :=
  ⟨h.1.c0, by rw [cell_of_row _ _ _ _ _ _ h.2]; rfl, by rw [cell_of_row _ _ _ _ _ _ h.2]; rfl, frozen_of_row _ _ _ _ _ h.2, frozen_of_row _ _ _ _ _ h.2, blk_lt h.2⟩
theorem RX.set {w : World} {c : Nat} {B : Nat} {w0 : World} (hb : Below B w0 w) (hB : B ≤ c) (x y : Int) : Below B w0 ((w.setCell ⟨c + 1, 0, none⟩ (.int .i64 x)).setCell ⟨c + 1, 1, none⟩ (.int .i64 y)) :=
  (hb.setCell (p := ⟨c + 1, 0, none⟩) (by simp; omega) _).setCell (p := ⟨c + 1, 1, none⟩) (by simp; omega) _
theorem RX.cells {w : World} {c : Nat} {p f s : Int} (h : RX w c p f s) (x y : Int) : ((w.setCell ⟨c + 1, 0, none⟩ (.int .i64 x)).setCell ⟨c + 1, 1, none⟩ (.int .i64 y)).cell? ⟨c + 1, 0, none⟩ = some (.int .i64 x) ∧ ((w.setCell ⟨c + 1, 0, none⟩ (.int .i64 x)).setCell ⟨c + 1, 1, none⟩ (.int .i64 y)).cell? ⟨c + 1, 1, none⟩ = some (.int .i64 y) := by
  have h2 := heap_set (k := 1) (v := .int .i64 y) (heap_set (k := 0) (v := .int .i64 x) h.2)
  exact ⟨by rw [cell_of_row _ _ _ _ _ _ h2]; rfl, by rw [cell_of_row _ _ _ _ _ _ h2]; rfl⟩

set_option maxHeartbeats 8000000 in
set_option maxRecDepth 100000 in
theorem rowOf_no (p : Int) (a : Option Addr) (len cap : Nat) (t : List Tk) (w : World) (h : Tks w a len t) (hm : ¬ May t p) :
    Calls Try.prog 25 #[.slice a len cap, .int .i64 p] w (Got w (.agg #[.int .i64 0, .int .i64 0])) := by
  have hb0 : Below w.heap.size w ((w.alloc (.cells #[.int .i64 p] 2)).alloc (.cells #[.int .i64 0, .int .i64 0] 56)) := ((Below.refl _ w).alloc (Nat.le_refl _) _).alloc (by simp) _
  have HC := Lib.hid (check_c a len cap t _ (h.below hb0))
  have H0 := Lib.hid hb0
  have HX := Lib.hid (RX.new w p)
  clear h hb0
  rw [may_iff] at hm
  obtain ⟨k, hk⟩ : ∃ k, k = checkN t := ⟨_, rfl⟩
  rw [← hk] at HC hm
  clear hk
  have hcase : (((k == 0) = false ∧ (k != 0) = true)) ∨ (k = 0 ∧ (p < 1 ∨ (1 ≤ p ∧ 1099511627776 < p))) := by
    by_cases h0 : k = 0
    · right; refine ⟨h0, ?_⟩; omega
    · left; simp [h0]
  clear hm
  rcases hcase with ⟨hk1, hk2⟩ | ⟨rfl, h1 | ⟨h1, h2⟩⟩
  all_goals
    go_enter Try.func25, Try.ntmps25
    go_wp2_with fail
    ((with_reducible refine HC.out.mono ?_); rintro e w1 ⟨rfl, hd1⟩)
    have hb1 : Hid (Below w.heap.size w w1) := H0.out.trans (hd1.mono H0.out.size)
    have HX1 := Lib.hid (HX.out.below hd1)
    obtain ⟨c0, c1, c2, c3, c4, c5⟩ := HX1.out.all
    clear hd1 HC H0 HX
    go_wp2_with fail
    ((with_reducible refine (none_c _).mono ?_); rintro e w2 ⟨rfl, hd2⟩)
    clear c0 c1 c2 c3 c4 c5
    have hb2 : Hid (Below w.heap.size w w2) := hb1.out.trans (hd2.mono hb1.out.size)
    have HX2 := Lib.hid (HX1.out.below hd2)
    obtain ⟨c0, c1, c2, c3, c4, c5⟩ := HX2.out.all
    have hfin := Lib.hid (RX.set (c := w.heap.size) hb2.out (Nat.le_refl _) 0 0)
    obtain ⟨d0, d1⟩ := HX2.out.cells 0 0
    clear hd2 hb1 HX1
    go_wp2_with fail
    refine bodyPost_ret (v := .agg #[.int .i64 0, .int .i64 0]) (by simp [results, Try.results25, go_sem, d0, d1]) rfl ⟨rfl, hfin.out⟩

set_option maxHeartbeats 8000000 in
set_option maxRecDepth 100000 in
theorem rowOf_yes (p : Int) (a : Option Addr) (len cap : Nat) (t : List Tk) (w : World) (h : Tks w a len t) (hm : May t p) :
    Calls Try.prog 25 #[.slice a len cap, .int .i64 p] w (Got w (.agg #[.int .i64 (F t (ri t p)), .int .i64 (S t (ri t p))])) := by
  have hb0 : Below w.heap.size w ((w.alloc (.cells #[.int .i64 p] 2)).alloc (.cells #[.int .i64 0, .int .i64 0] 56)) := ((Below.refl _ w).alloc (Nat.le_refl _) _).alloc (by simp) _
  have HC := Lib.hid (check_c a len cap t _ (h.below hb0))
  have H0 := Lib.hid hb0
  have HX := Lib.hid (RX.new w p)
  have HT := Lib.hid h
  have hlen := h.1
  have hl8 : (len : Int) ≤ 8 := by have := hm.1.2.1; omega
  have hl1 : (1 : Int) ≤ (len : Int) := by have := hm.1.1; omega
  have hp1 : 1 ≤ p := hm.2.1
  have hp2 : p ≤ 1099511627776 := hm.2.2
  obtain ⟨r1, r2, _, _⟩ := hm.row
  have hfb := frst_behind (t := t) (p := p) _ 0 rfl (Nat.zero_le _)
  rw [(may_iff.1 hm).1] at HC
  obtain ⟨k, hk⟩ : ∃ k, k = ri t p := ⟨_, rfl⟩
  rw [← hk] at r1 r2 ⊢
  rw [r1] at hfb
  have hkl : k < len := by omega
  have hkI : (k : Int) < (len : Int) := by omega
  have hk0 : (0 : Int) ≤ (k : Int) := by omega
  have HIx := fun (W : World) (hW : Tks W a len t) (hc : Bx 2 W w.heap.size (.int .i64 p)) => idxAbove_c w.heap.size p a len cap t W hW hc
  have hcase : (frst t (fun j => decide (p < F t j)) 0 = (k : Int) + 1) ∨ (frst t (fun j => decide (p < F t j)) 0 = -1 ∧ (len : Int) - 1 = (k : Int)) := by
    rcases hfb with ⟨h1, _⟩ | ⟨h1, h2⟩
    · left; rw [h1]; omega
    · right; rw [h1]; exact ⟨rfl, by omega⟩
  obtain ⟨i, hi⟩ : ∃ i, i = frst t (fun j => decide (p < F t j)) 0 := ⟨_, rfl⟩
  rw [← hi] at hcase HIx
  have HI := Lib.hid HIx
  clear h hb0 hm hlen hfb hi HIx r1 r2 hk
  have hcase2 : (i = (k : Int) + 1) ∨ (i = -1 ∧ k + 1 = len) := by
    rcases hcase with h | ⟨h, h2⟩
    · exact .inl h
    · exact .inr ⟨h, by omega⟩
  clear hcase
  rcases hcase2 with rfl | ⟨rfl, rfl⟩
  all_goals
    go_enter Try.func25, Try.ntmps25
    go_wp2_with fail
    ((with_reducible refine HC.out.mono ?_); rintro e w1 ⟨rfl, hd1⟩)
    have hb1 : Hid (Below w.heap.size w w1) := H0.out.trans (hd1.mono H0.out.size)
    have HX1 := Lib.hid (HX.out.below hd1)
    have HI1 := Lib.hid (HI.out w1 (HT.out.below hb1.out) HX1.out.1)
    obtain ⟨c0, c1, c2, c3, c4, c5⟩ := HX1.out.all
    clear hd1 HC H0 HX HI
    go_wp2_with fail
    ((with_reducible refine HI1.out.mono ?_); rintro e w2 ⟨rfl, hd2⟩)
    clear c0 c1 c2 c3 c4 c5
    have hb2 : Hid (Below w.heap.size w w2) := hb1.out.trans (hd2.mono hb1.out.size)
    have HX2 := Lib.hid (HX1.out.below hd2)
    obtain ⟨b, off, rfl, hb, p0, p1, _, _⟩ := (HT.out.below hb2.out).row hkl
    obtain ⟨f, hf⟩ : ∃ f, f = F t k := ⟨_, rfl⟩
    obtain ⟨s, hs⟩ : ∃ s, s = S t k := ⟨_, rfl⟩
    have HFS : Hid (f = F t k ∧ s = S t k) := ⟨hf, hs⟩
    rw [← hf] at p0
    rw [← hs] at p1
    clear hf hs
    obtain ⟨c0, c1, c2, c3, c4, c5⟩ := HX2.out.all
    have hfin := Lib.hid (RX.set (c := w.heap.size) hb2.out (Nat.le_refl _) f s)
    obtain ⟨d0, d1⟩ := HX2.out.cells f s
    clear hd2 hb1 HX1 HI1
    go_wp2_with fail
    rw [← HFS.out.1, ← HFS.out.2]
    refine bodyPost_ret (v := .agg #[.int .i64 f, .int .i64 s]) (by simp [results, Try.results25, go_sem, d0, d1]) rfl ⟨rfl, hfin.out⟩
end Go.Proofs.Ytpibkjldmmecpaa
