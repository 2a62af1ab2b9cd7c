/- fees, the reference: a volume's row, the greatest part, fees. -/
import Derived.Test.YtghpafbgjbhohaaFeS
import Derived.Test.YtghpafbgjbhohaaFeE
namespace Go.Proofs.Ytghpafbgjbhohaa
open Go.RowKit

set_option maxHeartbeats 4000000 in
set_option maxRecDepth 100000 in
theorem rCheck_c (a : Option Addr) (len cap : Nat) (t : List Ti) (w : World) (h : Tis w a len t) :
    Calls Try.prog 20 #[.slice a len cap] w (Got w (.int .i64 (checkT t))) := by
  have HG := Lib.hid (rGood_c a len cap t w h (decide (GoodT t)) rfl)
  clear h
  unfold checkT
  by_cases h0 : GoodT t
  · rw [decide_eq_true h0] at HG
    rw [if_pos h0]
    clear h0
    go_enter Try.func20, Try.ntmps20
    go_wp2_with fail
    ((with_reducible refine HG.out.mono ?_); rintro e w1 ⟨rfl, hd1⟩)
    go_wp2_with fail
    go_ret
    exact ⟨rfl, hd1⟩
  · rw [decide_eq_false h0] at HG
    rw [if_neg h0]
    clear h0
    go_enter Try.func20, Try.ntmps20
    go_wp2_with fail
    ((with_reducible refine HG.out.mono ?_); rintro e w1 ⟨rfl, hd1⟩)
    go_wp2_with fail
    go_ret
    exact ⟨rfl, hd1⟩

/-- A row of the call's own, of the reference. -/
def R3 (w : World) (c : Nat) (f m k : Int) : Prop := w.heap[c]? = some (.cells #[.int .i64 f, .int .i64 m, .int .i64 k] 40 (0, 0))
theorem R3.below {w w' : World} {c : Nat} {f m k : Int} (h : R3 w c f m k) (hb : Below w.heap.size w w') : R3 w' c f m k := (hb.block c (blk_lt h)).trans h
theorem R3.alloc {w : World} {c : Nat} {f m k : Int} (h : R3 w c f m k) (o : Obj) : R3 (w.alloc o) c f m k := (Below.heap_alloc w o c (blk_lt h)).trans h
theorem R3.set {w : World} {c : Nat} {f m k : Int} (h : R3 w c f m k) (x y z : Int) : R3 (set3 w c x y z) c x y z := by
  have h2 := heap_set (k := 2) (v := .int .i64 z) (heap_set (k := 1) (v := .int .i64 y) (heap_set (k := 0) (v := .int .i64 x) h))
  exact h2
theorem R3.far {w : World} {c d : Nat} {f m k : Int} (h : R3 w c f m k) (x y z : Int) (hd : c ≠ d) : R3 (set3 w d x y z) c f m k := by
  show _ = _
  rw [heap_far (a := ⟨d, 2, none⟩) hd, heap_far (a := ⟨d, 1, none⟩) hd, heap_far (a := ⟨d, 0, none⟩) hd]
  exact h
theorem R3.three {w : World} {c : Nat} {f m k : Int} (h : R3 w c f m k) : w.cell? ⟨c, 0, none⟩ = some (.int .i64 f) ∧ w.cell? ⟨c, 1, none⟩ = some (.int .i64 m) ∧ w.cell? ⟨c, 2, none⟩ = some (.int .i64 k) :=
  ⟨by rw [cell_of_row _ _ _ _ _ _ h]; rfl, by rw [cell_of_row _ _ _ _ _ _ h]; rfl, by rw [cell_of_row _ _ _ _ _ _ h]; rfl⟩
theorem R3.fr {w : World} {c : Nat} {f m k : Int} (h : R3 w c f m k) : w.frozen? ⟨c, 0, none⟩ = false ∧ w.frozen? ⟨c, 1, none⟩ = false ∧ w.frozen? ⟨c, 2, none⟩ = false ∧ c < w.heap.size :=
  ⟨frozen_of_row _ _ _ _ _ h, frozen_of_row _ _ _ _ _ h, frozen_of_row _ _ _ _ _ h, blk_lt h⟩
/-- The row of a count. -/
def rowU (t : List Ti) : Nat → Ti
  | 0 => ⟨0, 0, 0⟩
  | n + 1 => t.getD n ⟨0, 0, 0⟩
theorem rowT_U {t : List Ti} (h : GoodT t) (v : Int) : rowT t v = rowU t (upto t v t.length) := by
  unfold rowT
  rw [if_pos h]
  cases upto t v t.length <;> rfl
theorem rowT_zero {t : List Ti} {v : Int} (h : ¬ GoodT t ∨ v < 0) : rowT t v = ⟨0, 0, 0⟩ := by
  by_cases hg : GoodT t
  · rw [rowT_U hg, upto_neg hg (by rcases h with h | h; exact absurd hg h; exact h) _ (Nat.le_refl _)]; rfl
  · exact if_neg hg
/-- The result, and what is gathered behind it. -/
def RW (B : Nat) (w0 : World) (c : Nat) (f m k : Int) (w : World) : Prop := Below B w0 w ∧ B ≤ c ∧ R3 w c 0 0 0 ∧ R3 w (c + 1) f m k
theorem RW.new (w : World) : RW w.heap.size w w.heap.size 0 0 0 ((w.alloc (.cells #[.int .i64 0, .int .i64 0, .int .i64 0] 40)).alloc (.cells #[.int .i64 0, .int .i64 0, .int .i64 0] 40)) := by
  refine ⟨((Below.refl _ w).alloc (Nat.le_refl _) _).alloc (by simp) _, Nat.le_refl _, R3.alloc (heap_alloc_new w _) _, ?_⟩
  have h := heap_alloc_new (w.alloc (.cells #[.int .i64 0, .int .i64 0, .int .i64 0] 40)) (.cells #[.int .i64 0, .int .i64 0, .int .i64 0] 40)
  rw [World.size_alloc] at h
  exact h
theorem RW.below {B : Nat} {w0 : World} {c : Nat} {f m k : Int} {w w' : World} (h : RW B w0 c f m k w) (hb : Below w.heap.size w w') : RW B w0 c f m k w' :=
  ⟨h.1.trans (hb.mono (by have := blk_lt h.2.2.1; have := h.2.1; omega)), h.2.1, h.2.2.1.below hb, h.2.2.2.below hb⟩
theorem RW.set {B : Nat} {w0 : World} {c : Nat} {f m k : Int} {w : World} (h : RW B w0 c f m k w) (x y z : Int) : RW B w0 c x y z (set3 w (c + 1) x y z) :=
  ⟨T3.low h.1 (by have := h.2.1; omega) x y z, h.2.1, h.2.2.1.far x y z (by omega), h.2.2.2.set x y z⟩
theorem RW.fin {B : Nat} {w0 : World} {c : Nat} {f m k : Int} {w : World} (h : RW B w0 c f m k w) : Below B w0 (set3 w c f m k) ∧ R3 (set3 w c f m k) c f m k :=
  ⟨T3.low h.1 h.2.1 f m k, h.2.2.1.set f m k⟩

set_option maxHeartbeats 8000000 in
set_option maxRecDepth 100000 in
theorem rRow_no (v : Int) (a : Option Addr) (len cap : Nat) (t : List Ti) (w : World) (h : Tis w a len t) (hg : ¬ GoodT t ∨ v < 0) :
    Calls Try.prog 22 #[.slice a len cap, .int .i64 v] w (Got w (.agg #[.int .i64 0, .int .i64 0, .int .i64 0])) := by
  have HX := Lib.hid (RW.new w)
  obtain ⟨g, hgg⟩ : ∃ g, g = decide (GoodT t) := ⟨_, rfl⟩
  have HG := Lib.hid (fun (W : World) (hW : Below w.heap.size w W) => rGood_c a len cap t W (h.below hW) g hgg)
  have hcase : g = false ∨ (g = true ∧ v < 0) := by
    rcases hg with h | h
    · exact .inl (by rw [hgg]; exact decide_eq_false h)
    · cases hh : g
      · exact .inl rfl
      · exact .inr ⟨rfl, h⟩
  clear h hg hgg
  rcases hcase with rfl | ⟨rfl, hv⟩
  all_goals
    go_enter Try.func22, Try.ntmps22
    go_wp2_with fail
    obtain ⟨c, hc⟩ : ∃ c, c = w.heap.size := ⟨_, rfl⟩
    have HX2 : Hid (RW c w c 0 0 0 ((w.alloc (.cells #[.int .i64 0, .int .i64 0, .int .i64 0] 40)).alloc (.cells #[.int .i64 0, .int .i64 0, .int .i64 0] 40))) := by rw [hc]; exact HX.out
    clear HX
    rw [← hc]
    have HCc := Lib.hid hc
    clear hc
    go_loopw [6] (fun i wr => i = .int .i64 0 ∧ Hid (RW c w c 0 0 0 wr)) (fun _ _ => 0)
    case atStart => exact ⟨rfl, HX2.out⟩
    case round =>
      clear HX2
      obtain ⟨rfl, hd⟩ := hrel
      have N := Lib.hid (HG.out wr (by rw [← HCc.out]; exact hd.out.1))
      clear HG
      go_wp2_with fail
      ((with_reducible refine N.out.mono ?_); rintro e w2 ⟨rfl, b2⟩)
      have hd2 := Lib.hid (hd.out.below b2)
      clear hd N b2
      obtain ⟨c0, c1, c2⟩ := hd2.out.2.2.2.three
      obtain ⟨f0, f1, f2, fl⟩ := hd2.out.2.2.1.fr
      obtain ⟨r0, r1, r2⟩ := hd2.out.2.2.1.three
      have HF := Lib.hid hd2.out.fin
      obtain ⟨d0, d1, d2⟩ := HF.out.2.three
      clear hd2
      go_wp2_with fail
      refine bodyPost_ret (v := .agg #[.int .i64 0, .int .i64 0, .int .i64 0]) (by simp [results, Try.results22, go_sem, d0, d1, d2]) rfl ⟨rfl, ?_⟩
      rw [← HCc.out]
      exact HF.out.1

set_option maxHeartbeats 8000000 in
set_option maxRecDepth 100000 in
theorem rRow_yes (v : Int) (a : Option Addr) (len cap : Nat) (t : List Ti) (w : World) (h : Tis w a len t) (hg : GoodT t) (hv : 0 ≤ v) (rf rm rk : Int) (hr : (⟨rf, rm, rk⟩ : Ti) = rowU t (upto t v len)) :
    Calls Try.prog 22 #[.slice a len cap, .int .i64 v] w (Got w (.agg #[.int .i64 rf, .int .i64 rm, .int .i64 rk])) := by
  have HX := Lib.hid (RW.new w)
  have HG := Lib.hid (fun (W : World) (hW : Below w.heap.size w W) => rGood_c a len cap t W (h.below hW) true (decide_eq_true hg).symm)
  have hl8 : (len : Int) ≤ 8 := by have := hg.2.1; have := h.1; omega
  have HT := Lib.hid h
  have HL := Lib.hid h.1
  have HR := Lib.hid hr
  clear h hg hr
  go_enter Try.func22, Try.ntmps22
  go_wp2_with fail
  obtain ⟨c, hc⟩ : ∃ c, c = w.heap.size := ⟨_, rfl⟩
  have HX2 : Hid (RW c w c 0 0 0 ((w.alloc (.cells #[.int .i64 0, .int .i64 0, .int .i64 0] 40)).alloc (.cells #[.int .i64 0, .int .i64 0, .int .i64 0] 40))) := by rw [hc]; exact HX.out
  clear HX
  rw [← hc]
  have HCc := Lib.hid hc
  clear hc
  go_loopw [6] (fun i wr => ∃ k : Nat, k ≤ len ∧ i = .int .i64 (k : Int) ∧ Hid (RW c w c (rowU t (upto t v k)).f (rowU t (upto t v k)).m (rowU t (upto t v k)).k wr)) (fun i _ => len - (intOf i).toNat)
  case atStart => exact ⟨0, by omega, rfl, HX2.out⟩
  case round =>
    clear HX2
    obtain ⟨k, hk, rfl, hd⟩ := hrel
    have hk0 : (0 : Int) ≤ (k : Int) := by omega
    have N := Lib.hid (HG.out wr (by rw [← HCc.out]; exact hd.out.1))
    obtain ⟨u, hu⟩ : ∃ u, u = rowU t (upto t v k) := ⟨_, rfl⟩
    rw [← hu] at hd
    have HU := Lib.hid hu
    clear hu HG
    by_cases hlt : k < len
    · have hltI : (k : Int) < (len : Int) := by omega
      have hm : t.getD k ⟨0, 0, 0⟩ = ⟨TF t k, TM t k, TK t k⟩ := rfl
      have hTFk : TF t k = (t.getD k ⟨0, 0, 0⟩).f := rfl
      go_wp2_with fail
      ((with_reducible refine N.out.mono ?_); rintro e w2 ⟨rfl, b2⟩)
      have hd2 := Lib.hid (hd.out.below b2)
      clear hd N b2
      obtain ⟨b, off, rfl, hb, p0, p1, p2, _⟩ := (HT.out.below (by rw [← HCc.out]; exact hd2.out.1)).row hlt
      obtain ⟨f, hf⟩ : ∃ f, f = TF t k := ⟨_, rfl⟩
      obtain ⟨m, hmm⟩ : ∃ m, m = TM t k := ⟨_, rfl⟩
      obtain ⟨x, hx⟩ : ∃ x, x = TK t k := ⟨_, rfl⟩
      rw [← hf] at p0
      rw [← hmm] at p1
      rw [← hx] at p2
      by_cases hfv : f ≤ v
      · have hN : Hid (RW c w c (rowU t (upto t v (k + 1))).f (rowU t (upto t v (k + 1))).m (rowU t (upto t v (k + 1))).k (set3 w2 (c + 1) f m x)) := by
          rw [upto_yes (by rw [← hf]; exact hfv)]
          show RW _ _ _ (t.getD k ⟨0, 0, 0⟩).f _ _ _
          show RW _ _ _ (TF t k) (TM t k) (TK t k) _
          rw [← hf, ← hmm, ← hx]
          exact hd2.out.set f m x
        obtain ⟨f0, f1, f2, fl⟩ := hd2.out.2.2.2.fr
        obtain ⟨r0, r1, r2⟩ := hd2.out.2.2.2.three
        clear hf hmm hx hd2 hm hTFk
        go_wp2_with fail
        exact ⟨⟨k + 1, by omega, by go_num, hN.out⟩, by simp [intOf]; omega⟩
      · have hN : Hid (RW c w c (rowU t (upto t v (k + 1))).f (rowU t (upto t v (k + 1))).m (rowU t (upto t v (k + 1))).k w2) := by
          rw [upto_no (by rw [← hf]; exact hfv), ← HU.out]
          exact hd2.out
        have hfv2 : v < f := by omega
        clear hf hmm hx hd2 hfv hm hTFk
        go_wp2_with fail
        exact ⟨⟨k + 1, by omega, by go_num, hN.out⟩, by simp [intOf]; omega⟩
    · have hkl : k = len := by omega
      subst hkl
      have hru : rf = u.f ∧ rm = u.m ∧ rk = u.k := by
        have := HR.out
        rw [← HU.out] at this
        rw [← this]
        exact ⟨rfl, rfl, rfl⟩
      obtain ⟨rfl, rfl, rfl⟩ := hru
      obtain ⟨uf, um, uk⟩ := u
      simp only at hd ⊢
      go_wp2_with fail
      ((with_reducible refine N.out.mono ?_); rintro e w2 ⟨rfl, b2⟩)
      have hd2 := Lib.hid (hd.out.below b2)
      clear hd N b2
      obtain ⟨c0, c1, c2⟩ := hd2.out.2.2.2.three
      obtain ⟨f0, f1, f2, fl⟩ := hd2.out.2.2.1.fr
      obtain ⟨r0, r1, r2⟩ := hd2.out.2.2.1.three
      have HF := Lib.hid hd2.out.fin
      obtain ⟨d0, d1, d2⟩ := HF.out.2.three
      clear hd2
      go_wp2_with fail
      refine bodyPost_ret (v := .agg #[.int .i64 uf, .int .i64 um, .int .i64 uk]) (by simp [results, Try.results22, go_sem, d0, d1, d2]) rfl ⟨rfl, ?_⟩
      rw [← HCc.out]
      exact HF.out.1

theorem rRow_c (v : Int) (a : Option Addr) (len cap : Nat) (t : List Ti) (w : World) (h : Tis w a len t) :
    Calls Try.prog 22 #[.slice a len cap, .int .i64 v] w (Got w (.agg #[.int .i64 (rowT t v).f, .int .i64 (rowT t v).m, .int .i64 (rowT t v).k])) := by
  by_cases hg : ¬ GoodT t ∨ v < 0
  · rw [rowT_zero hg]
    exact rRow_no v a len cap t w h hg
  · have hgt : GoodT t := Decidable.byContradiction (fun x => hg (.inl x))
    rw [rowT_U hgt, h.1]
    exact rRow_yes v a len cap t w h hgt (by omega) _ _ _ rfl
end Go.Proofs.Ytghpafbgjbhohaa
