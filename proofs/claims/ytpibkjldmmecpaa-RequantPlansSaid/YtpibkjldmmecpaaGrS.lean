/- grid, the reference: whether a table may be, and be asked. -/
import Derived.Test.YtpibkjldmmecpaaGrR
namespace Go.Proofs.Ytpibkjldmmecpaa
open Go.RowKit

theorem take9 (t : List Tk) : t.take 9 = t ∨ (¬ Good t ∧ ¬ Good (t.take 9)) := by
  by_cases h : t.length ≤ 9
  · exact .inl (List.take_of_length_le h)
  · right
    refine ⟨fun hg => by have := hg.2.1; omega, fun hg => ?_⟩
    have := hg.2.1
    rw [List.length_take] at this
    omega

set_option maxHeartbeats 8000000 in
set_option maxRecDepth 100000 in
theorem rGood_c (a : Option Addr) (len cap : Nat) (t : List Tk) (w : World) (h : Tks w a len t) (g : Bool) (hg : g = decide (Good t)) :
    Calls Try.prog 35 #[.slice a len cap] w (Got w (.bool g)) := by
  have hl := h.1
  have HT := Lib.hid h
  have HL := Lib.hid hl
  by_cases h1 : len < 1
  · have hv : g = false := by rw [hg]; exact decide_eq_false (fun hg : Good t => by have := hg.1; omega)
    subst hv
    have h1I : (len : Int) < 1 := by omega
    clear h hl h1 hg
    go_enter Try.func35, Try.ntmps35
    go_wp2_with fail
    go_ret
    exact ⟨rfl, Below.refl _ _⟩
  · by_cases h8 : 8 < len
    · have hv : g = false := by rw [hg]; exact decide_eq_false (fun hg : Good t => by have := hg.2.1; omega)
      subst hv
      have h1I : (1 : Int) ≤ (len : Int) := by omega
      have h8I : (8 : Int) < (len : Int) := by omega
      clear h hl h1 h8 hg
      go_enter Try.func35, Try.ntmps35
      go_wp2_with fail
      go_ret
      exact ⟨rfl, Below.refl _ _⟩
    · obtain ⟨b, off, rfl, hb, p0, p1, bd, _⟩ := h.row (i := 0) (by omega)
      rw [Nat.zero_mul, Nat.add_zero] at p0
      have h1I : (1 : Int) ≤ (len : Int) := by omega
      have h8I : (len : Int) ≤ 8 := by omega
      have h0I : (0 : Int) < (len : Int) := by omega
      have h0N : 0 < len := by omega
      by_cases hf : F t 0 = 0
      · rw [hf] at p0
        have HG : Hid (g = true ↔ ∀ i, i < t.length → okI t i) := by
          rw [hg, decide_eq_true_iff]
          exact ⟨fun h => h.2.2.2, fun h => ⟨by omega, by omega, hf, h⟩⟩
        have Hf := Lib.hid hf
        clear hg h1 h8 bd p1 h hl hb hf
        go_enter Try.func35, Try.ntmps35
        go_wp2_with fail
        clear p0
        go_loopw [3] (fun i wr => ∃ k : Nat, k ≤ len ∧ i = .int .i64 (k : Int) ∧ Hid ((∀ j, j < k → okI t j) ∧ Below w.heap.size w wr)) (fun i _ => len - (intOf i).toNat)
        case atStart => exact ⟨0, by omega, rfl, fun j hj => absurd hj (Nat.not_lt_zero _), Below.refl _ _⟩
        case round =>
          obtain ⟨k, hk, rfl, hd⟩ := hrel
          have hk0 : (0 : Int) ≤ (k : Int) := by omega
          by_cases hlt : k < len
          · have hltI : (k : Int) < (len : Int) := by omega
            obtain ⟨b', off', ha, hb, p0, p1, _, _⟩ := (HT.out.below hd.out.2).row hlt
            injection ha with ha
            injection ha with ha1 ha2
            subst ha1; subst ha2
            have HB : Hid (Below w.heap.size w wr) := hd.out.2
            have hbadg : ¬ okI t k → g = false := fun hb => by
              cases e : g
              · rfl
              · exact absurd (HG.out.1 e k (by rw [HL.out]; exact hlt)) hb
            have hokI : okI t k = (lastI t k < F t k ∧ F t k ≤ 1099511627776 ∧ 1 ≤ S t k ∧ S t k ≤ 1099511627776) := rfl
            by_cases hok : okI t k
            · have hok2 := hok
              rw [hokI] at hok2
              obtain ⟨o1, o2, o3, o4⟩ := hok2
              have hnx : Hid ((∀ j, j < k + 1 → okI t j) ∧ Below w.heap.size w wr) := by
                refine ⟨fun j hj => ?_, hd.out.2⟩
                by_cases e : j = k
                · rw [e]; exact hok
                · exact hd.out.1 j (by omega)
              have hprev : k = 0 ∨ ∃ j, k = j + 1 ∧ lastI t k = F t j ∧ j < len := by
                cases k with
                | zero => exact .inl rfl
                | succ j => exact .inr ⟨j, rfl, rfl, by omega⟩
              obtain ⟨f, hff⟩ : ∃ f, f = F t k := ⟨_, rfl⟩
              obtain ⟨s, hss⟩ : ∃ s, s = S t k := ⟨_, rfl⟩
              rw [← hff] at p0 o1 o2
              rw [← hss] at p1 o3 o4
              have d1 : decide (s < 1) = false := decide_eq_false (by omega)
              have d2 : decide (1099511627776 < s) = false := decide_eq_false (by omega)
              have d3 : decide (1099511627776 < f) = false := decide_eq_false (by omega)
              clear hff hss hok hokI hbadg
              rcases hprev with rfl | ⟨j, rfl, hj, hjl⟩
              · rw [Nat.zero_mul, Nat.add_zero] at p0 p1
                clear o1 hd
                go_wp2_with fail
                go_quiet (fail)
                go_wp2_with fail
                exact ⟨⟨1, by omega, rfl, hnx.out.1, below_drewN hnx.out.2 _⟩, by simp [intOf]; omega⟩
              · obtain ⟨b', off', ha, _, q0, _, _, _⟩ := (HT.out.below hd.out.2).row hjl
                injection ha with ha
                injection ha with ha1 ha2
                subst ha1; subst ha2
                rw [hj] at o1
                obtain ⟨fp, hfp⟩ : ∃ fp, fp = F t j := ⟨_, rfl⟩
                rw [← hfp] at q0 o1
                have d4 : decide (f ≤ fp) = false := decide_eq_false (by omega)
                have d5 : decide ((0 : Int) < (j : Int) + 1) = true := decide_eq_true (by omega)
                have hj0 : (0 : Int) ≤ (j : Int) := by omega
                have hjI : (j : Int) < (len : Int) := by omega
                clear hfp hj hd
                go_wp2_with fail
                go_quiet (fail)
                go_wp2_with fail
                exact ⟨⟨j + 1 + 1, by omega, by go_num, hnx.out.1, below_drewN hnx.out.2 _⟩, by simp [intOf]; omega⟩
            · have hgf := Lib.hid (hbadg hok)
              have hprev : k = 0 ∨ ∃ j, k = j + 1 ∧ lastI t k = F t j ∧ j < len := by
                cases k with
                | zero => exact .inl rfl
                | succ j => exact .inr ⟨j, rfl, rfl, by omega⟩
              have hcase : S t k < 1 ∨ (1 ≤ S t k ∧ 1099511627776 < S t k) ∨ (1 ≤ S t k ∧ S t k ≤ 1099511627776 ∧ 1099511627776 < F t k) ∨ (1 ≤ S t k ∧ S t k ≤ 1099511627776 ∧ F t k ≤ 1099511627776 ∧ F t k ≤ lastI t k) := by
                rw [hokI] at hok; omega
              have hf0 : k = 0 → F t k = 0 := fun e => by rw [e]; exact Hf.out
              obtain ⟨f, hff⟩ : ∃ f, f = F t k := ⟨_, rfl⟩
              obtain ⟨s, hss⟩ : ∃ s, s = S t k := ⟨_, rfl⟩
              rw [← hff] at p0 hcase hf0
              rw [← hss] at p1 hcase
              have hrow := fun j (hj : j < len) => (HT.out.below hd.out.2).row hj
              clear hff hss hok hokI hbadg hd
              rcases hcase with c1 | ⟨c1, c2⟩ | ⟨c1, c2, c3⟩ | ⟨c1, c2, c3, c4⟩
              · have d1 : decide (s < 1) = true := decide_eq_true c1
                clear hprev hrow hf0
                go_wp2_with fail
                go_quiet (fail)
                go_wp2_with fail
                go_ret
                rw [hgf.out]
                exact ⟨rfl, below_drewN HB.out _⟩
              · have d1 : decide (s < 1) = false := decide_eq_false (by omega)
                have d2 : decide (1099511627776 < s) = true := decide_eq_true c2
                clear hprev hrow hf0
                go_wp2_with fail
                go_quiet (fail)
                go_wp2_with fail
                go_ret
                rw [hgf.out]
                exact ⟨rfl, below_drewN HB.out _⟩
              · have d1 : decide (s < 1) = false := decide_eq_false (by omega)
                have d2 : decide (1099511627776 < s) = false := decide_eq_false (by omega)
                have d3 : decide (1099511627776 < f) = true := decide_eq_true c3
                clear hprev hrow hf0
                go_wp2_with fail
                go_quiet (fail)
                go_wp2_with fail
                go_ret
                rw [hgf.out]
                exact ⟨rfl, below_drewN HB.out _⟩
              · rcases hprev with rfl | ⟨j, rfl, hj, hjl⟩
                · exfalso
                  have := hf0 rfl
                  rw [this] at c4
                  simp [lastI] at c4
                · obtain ⟨b', off', ha, _, q0, _, _, _⟩ := hrow j hjl
                  injection ha with ha
                  injection ha with ha1 ha2
                  subst ha1; subst ha2
                  rw [hj] at c4
                  obtain ⟨fp, hfp⟩ : ∃ fp, fp = F t j := ⟨_, rfl⟩
                  rw [← hfp] at q0 c4
                  have d1 : decide (s < 1) = false := decide_eq_false (by omega)
                  have d2 : decide (1099511627776 < s) = false := decide_eq_false (by omega)
                  have d3 : decide (1099511627776 < f) = false := decide_eq_false (by omega)
                  have d4 : decide (f ≤ fp) = true := decide_eq_true c4
                  have d5 : decide ((0 : Int) < (j : Int) + 1) = true := decide_eq_true (by omega)
                  have hj0 : (0 : Int) ≤ (j : Int) := by omega
                  have hjI : (j : Int) < (len : Int) := by omega
                  clear hfp hj hrow hf0
                  go_wp2_with fail
                  go_quiet (fail)
                  go_wp2_with fail
                  go_ret
                  rw [hgf.out]
                  exact ⟨rfl, below_drewN HB.out _⟩
          · have hkl : k = len := by omega
            subst hkl
            have hgt : Hid (g = true) := by
              show g = true
              exact HG.out.2 (fun i hi => hd.out.1 i (by rw [HL.out] at hi; exact hi))
            go_wp2_with fail
            go_ret
            rw [hgt.out]
            exact ⟨rfl, hd.out.2⟩
      · have hv : g = false := by rw [hg]; exact decide_eq_false (fun hg : Good t => hf hg.2.2.1)
        subst hv
        have hfb : (F t 0 == 0) = false := by simp [hf]
        have hfb2 : (F t 0 != 0) = true := by simp [hf]
        clear h hl h1 h8 hf hg
        go_enter Try.func35, Try.ntmps35
        go_wp2_with fail
        go_ret
        exact ⟨rfl, Below.refl _ _⟩
end Go.Proofs.Ytpibkjldmmecpaa
