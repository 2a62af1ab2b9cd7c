/- fees, the reference: whether a table may be. -/
import Derived.Test.YtghpafbgjbhohaaFeR
import Derived.Test.YtghpafbgjbhohaaFeB
namespace Go.Proofs.Ytghpafbgjbhohaa
open Go.RowKit

theorem below_drewT {B : Nat} {a w : World} (h : Below B a w) (n : Nat) : Below B a (w.drewN n) := ⟨h.os, h.tape, h.output, h.size, h.block⟩

set_option maxHeartbeats 8000000 in
set_option maxRecDepth 100000 in
theorem rGood_c (a : Option Addr) (len cap : Nat) (t : List Ti) (w : World) (h : Tis w a len t) (g : Bool) (hg : g = decide (GoodT t)) :
    Calls Try.prog 39 #[.slice a len cap] w (Got w (.bool g)) := by
  have hl := h.1
  have HT := Lib.hid h
  have HL := Lib.hid hl
  by_cases h1 : len < 1
  · have hv : g = false := by rw [hg]; exact decide_eq_false (fun hg : GoodT t => by have := hg.1; omega)
    subst hv
    have h1I : (len : Int) < 1 := by omega
    clear h hl h1 hg
    go_enter Try.func39, Try.ntmps39
    go_wp2_with fail
    go_ret
    exact ⟨rfl, Below.refl _ _⟩
  · by_cases h8 : 8 < len
    · have hv : g = false := by rw [hg]; exact decide_eq_false (fun hg : GoodT t => by have := hg.2.1; omega)
      subst hv
      have h1I : (1 : Int) ≤ (len : Int) := by omega
      have h8I : (8 : Int) < (len : Int) := by omega
      clear h hl h1 h8 hg
      go_enter Try.func39, Try.ntmps39
      go_wp2_with fail
      go_ret
      exact ⟨rfl, Below.refl _ _⟩
    · obtain ⟨b, off, rfl, hb, p0, _, _, bd, _⟩ := h.row (i := 0) (by omega)
      rw [Nat.zero_mul, Nat.add_zero] at p0
      have h1I : (1 : Int) ≤ (len : Int) := by omega
      have h8I : (len : Int) ≤ 8 := by omega
      have h0I : (0 : Int) < (len : Int) := by omega
      have h0N : 0 < len := by omega
      by_cases hf : TF t 0 = 0
      · rw [hf] at p0
        have HG : Hid (g = true ↔ ∀ i, i < t.length → okT t i) := by
          rw [hg, decide_eq_true_iff]
          exact ⟨fun h => h.2.2.2, fun h => ⟨by omega, by omega, hf, h⟩⟩
        have Hf := Lib.hid hf
        clear hg h1 h8 bd h hl hb hf
        go_enter Try.func39, Try.ntmps39
        go_wp2_with fail
        clear p0
        go_loopw [3] (fun i wr => ∃ k : Nat, k ≤ len ∧ i = .int .i64 (k : Int) ∧ Hid ((∀ j, j < k → okT t j) ∧ Below w.heap.size w wr)) (fun i _ => len - (intOf i).toNat)
        case atStart => exact ⟨0, by omega, rfl, fun j hj => absurd hj (Nat.not_lt_zero _), Below.refl _ _⟩
        case round =>
          obtain ⟨k, hk, rfl, hd⟩ := hrel
          have hk0 : (0 : Int) ≤ (k : Int) := by omega
          by_cases hlt : k < len
          · have hltI : (k : Int) < (len : Int) := by omega
            obtain ⟨b', off', ha, hb, p0, p1, p2, _⟩ := (HT.out.below hd.out.2).row hlt
            injection ha with ha
            injection ha with ha1 ha2
            subst ha1; subst ha2
            have HB : Hid (Below w.heap.size w wr) := hd.out.2
            have hbadg : ¬ okT t k → g = false := fun hb => by
              cases e : g
              · rfl
              · exact absurd (HG.out.1 e k (by rw [HL.out]; exact hlt)) hb
            have hokI : okT t k = (lastT t k < TF t k ∧ TF t k ≤ 4611686018427387904 ∧ 0 ≤ TM t k ∧ TM t k ≤ 100000 ∧ 0 ≤ TK t k ∧ TK t k ≤ 100000) := rfl
            have hprev : k = 0 ∨ ∃ j, k = j + 1 ∧ lastT t k = TF t j ∧ j < len := by
              cases k with
              | zero => exact .inl rfl
              | succ j => exact .inr ⟨j, rfl, rfl, by omega⟩
            by_cases hok : okT t k
            · have hok2 := hok
              rw [hokI] at hok2
              obtain ⟨o1, o2, o3, o4, o5, o6⟩ := hok2
              have hnx : Hid ((∀ j, j < k + 1 → okT t j) ∧ Below w.heap.size w wr) := by
                refine ⟨fun j hj => ?_, hd.out.2⟩
                by_cases e : j = k
                · rw [e]; exact hok
                · exact hd.out.1 j (by omega)
              obtain ⟨f, hff⟩ : ∃ f, f = TF t k := ⟨_, rfl⟩
              obtain ⟨m, hmm⟩ : ∃ m, m = TM t k := ⟨_, rfl⟩
              obtain ⟨x, hxx⟩ : ∃ x, x = TK t k := ⟨_, rfl⟩
              rw [← hff] at p0 o1 o2
              rw [← hmm] at p1 o3 o4
              rw [← hxx] at p2 o5 o6
              have d1 : decide (4611686018427387904 < f) = false := decide_eq_false (by omega)
              have d2 : decide (m < 0) = false := decide_eq_false (by omega)
              have d3 : decide (100000 < m) = false := decide_eq_false (by omega)
              have d4 : decide (x < 0) = false := decide_eq_false (by omega)
              have d5 : decide (100000 < x) = false := decide_eq_false (by omega)
              clear hff hmm hxx hok hokI hbadg
              rcases hprev with rfl | ⟨j, rfl, hj, hjl⟩
              · rw [Nat.zero_mul, Nat.add_zero] at p0 p1 p2
                clear o1 hd
                go_wp2_with fail
                go_quiet (fail)
                go_wp2_with fail
                exact ⟨⟨1, by omega, rfl, hnx.out.1, below_drewT hnx.out.2 _⟩, by simp [intOf]; omega⟩
              · obtain ⟨b', off', ha, _, q0, _, _, _⟩ := (HT.out.below hd.out.2).row hjl
                injection ha with ha
                injection ha with ha1 ha2
                subst ha1; subst ha2
                rw [hj] at o1
                obtain ⟨fp, hfp⟩ : ∃ fp, fp = TF t j := ⟨_, rfl⟩
                rw [← hfp] at q0 o1
                have d6 : decide (f ≤ fp) = false := decide_eq_false (by omega)
                have d7 : decide ((0 : Int) < (j : Int) + 1) = true := decide_eq_true (by omega)
                have hj0 : (0 : Int) ≤ (j : Int) := by omega
                have hjI : (j : Int) < (len : Int) := by omega
                clear hfp hj hd
                go_wp2_with fail
                go_quiet (fail)
                go_wp2_with fail
                exact ⟨⟨j + 1 + 1, by omega, by go_num, hnx.out.1, below_drewT hnx.out.2 _⟩, by simp [intOf]; omega⟩
            · have hgf := Lib.hid (hbadg hok)
              have hf0 : k = 0 → TF t k = 0 := fun e => by rw [e]; exact Hf.out
              obtain ⟨f, hff⟩ : ∃ f, f = TF t k := ⟨_, rfl⟩
              obtain ⟨m, hmm⟩ : ∃ m, m = TM t k := ⟨_, rfl⟩
              obtain ⟨x, hxx⟩ : ∃ x, x = TK t k := ⟨_, rfl⟩
              rw [← hff] at p0 hf0 hokI
              rw [← hmm] at p1 hokI
              rw [← hxx] at p2 hokI
              have hcase : 4611686018427387904 < f ∨ (f ≤ 4611686018427387904 ∧ m < 0) ∨ (f ≤ 4611686018427387904 ∧ 0 ≤ m ∧ 100000 < m) ∨ (f ≤ 4611686018427387904 ∧ 0 ≤ m ∧ m ≤ 100000 ∧ x < 0) ∨ (f ≤ 4611686018427387904 ∧ 0 ≤ m ∧ m ≤ 100000 ∧ 0 ≤ x ∧ 100000 < x) ∨
                  (f ≤ 4611686018427387904 ∧ 0 ≤ m ∧ m ≤ 100000 ∧ 0 ≤ x ∧ x ≤ 100000 ∧ f ≤ lastT t k) := by
                rw [hokI] at hok; omega
              have hrow := fun j (hj : j < len) => (HT.out.below hd.out.2).row hj
              clear hff hmm hxx hok hokI hbadg hd
              rcases hcase with c1 | ⟨c01, c2⟩ | ⟨c01, c02, c3⟩ | ⟨c01, c02, c03, c4⟩ | ⟨c01, c02, c03, c04, c5⟩ | ⟨c01, c02, c03, c04, c05, c6⟩
              · have d1 : decide (4611686018427387904 < f) = true := decide_eq_true c1
                clear hprev hrow hf0
                go_wp2_with fail
                go_quiet (fail)
                go_wp2_with fail
                go_ret
                rw [hgf.out]
                exact ⟨rfl, below_drewT HB.out _⟩
              · have d1 : decide (4611686018427387904 < f) = false := decide_eq_false (by omega)
                have d2 : decide (m < 0) = true := decide_eq_true c2
                clear hprev hrow hf0
                go_wp2_with fail
                go_quiet (fail)
                go_wp2_with fail
                go_ret
                rw [hgf.out]
                exact ⟨rfl, below_drewT HB.out _⟩
              · have d1 : decide (4611686018427387904 < f) = false := decide_eq_false (by omega)
                have d2 : decide (m < 0) = false := decide_eq_false (by omega)
                have d3 : decide (100000 < m) = true := decide_eq_true c3
                clear hprev hrow hf0
                go_wp2_with fail
                go_quiet (fail)
                go_wp2_with fail
                go_ret
                rw [hgf.out]
                exact ⟨rfl, below_drewT HB.out _⟩
              · have d1 : decide (4611686018427387904 < f) = false := decide_eq_false (by omega)
                have d2 : decide (m < 0) = false := decide_eq_false (by omega)
                have d3 : decide (100000 < m) = false := decide_eq_false (by omega)
                have d4 : decide (x < 0) = true := decide_eq_true c4
                clear hprev hrow hf0
                go_wp2_with fail
                go_quiet (fail)
                go_wp2_with fail
                go_ret
                rw [hgf.out]
                exact ⟨rfl, below_drewT HB.out _⟩
              · have d1 : decide (4611686018427387904 < f) = false := decide_eq_false (by omega)
                have d2 : decide (m < 0) = false := decide_eq_false (by omega)
                have d3 : decide (100000 < m) = false := decide_eq_false (by omega)
                have d4 : decide (x < 0) = false := decide_eq_false (by omega)
                have d5 : decide (100000 < x) = true := decide_eq_true c5
                clear hprev hrow hf0
                go_wp2_with fail
                go_quiet (fail)
                go_wp2_with fail
                go_ret
                rw [hgf.out]
                exact ⟨rfl, below_drewT HB.out _⟩
              · rcases hprev with rfl | ⟨j, rfl, hj, hjl⟩
                · exfalso
                  have := hf0 rfl
                  rw [this] at c6
                  simp [lastT] at c6
                · obtain ⟨b', off', ha, _, q0, _, _, _⟩ := hrow j hjl
                  injection ha with ha
                  injection ha with ha1 ha2
                  subst ha1; subst ha2
                  rw [hj] at c6
                  obtain ⟨fp, hfp⟩ : ∃ fp, fp = TF t j := ⟨_, rfl⟩
                  rw [← hfp] at q0 c6
                  have d1 : decide (4611686018427387904 < f) = false := decide_eq_false (by omega)
                  have d2 : decide (m < 0) = false := decide_eq_false (by omega)
                  have d3 : decide (100000 < m) = false := decide_eq_false (by omega)
                  have d4 : decide (x < 0) = false := decide_eq_false (by omega)
                  have d5 : decide (100000 < x) = false := decide_eq_false (by omega)
                  have d6 : decide (f ≤ fp) = true := decide_eq_true c6
                  have d7 : decide ((0 : Int) < (j : Int) + 1) = true := decide_eq_true (by omega)
                  have hj0 : (0 : Int) ≤ (j : Int) := by omega
                  have hjI : (j : Int) < (len : Int) := by omega
                  clear hfp hj hrow hf0
                  go_wp2_with fail
                  go_quiet (fail)
                  go_wp2_with fail
                  go_ret
                  rw [hgf.out]
                  exact ⟨rfl, below_drewT HB.out _⟩
          · have hkl : k = len := by omega
            subst hkl
            have hgt : Hid (g = true) := by
              show g = true
              exact HG.out.2 (fun i hi => hd.out.1 i (by rw [HL.out] at hi; exact hi))
            go_wp2_with fail
            go_ret
            rw [hgt.out]
            exact ⟨rfl, hd.out.2⟩
      · have hv : g = false := by rw [hg]; exact decide_eq_false (fun hg : GoodT t => hf hg.2.2.1)
        subst hv
        have hfb : (TF t 0 == 0) = false := by simp [hf]
        have hfb2 : (TF t 0 != 0) = true := by simp [hf]
        clear h hl h1 h8 hf hg
        go_enter Try.func39, Try.ntmps39
        go_wp2_with fail
        go_ret
        exact ⟨rfl, Below.refl _ _⟩
end Go.Proofs.Ytghpafbgjbhohaa
