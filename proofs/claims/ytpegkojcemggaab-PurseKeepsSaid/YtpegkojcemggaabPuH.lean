/- purse: Good. -/
import Derived.Test.YtpegkojcemggaabPuG
import Derived.Test.YtpegkojcemggaabPuR1
namespace Go.Proofs.Ytpegkojcemggaab
open Go.RowKit

theorem money2 {c0 c1 : Int} (h : InR c0 ∧ InR c1) (b : Nat) (w : World) (hg : w.heap[b]? = some (.cells #[.int .i64 c0, .int .i64 c1] 2 (0, 0))) :
    Calls Try.prog 15 #[.slice (some ⟨b, 0, none⟩) 2 2] w fun e w' => e = .returned (.bool (mnyB c0 && mnyB c1)) ∧ w = w' := by
  have hs : SlI w (some ⟨b, 0, none⟩) 2 [c0, c1] := by
    refine ⟨rfl, fun x hx => ?_, .inr ⟨b, 0, rfl, fun i hi => ?_⟩⟩
    · simp only [List.mem_cons, List.not_mem_nil, or_false] at hx
      rcases hx with rfl | rfl
      · exact h.1
      · exact h.2
    · rw [cell_of_row _ _ _ _ _ _ hg]
      have e : i = 0 ∨ i = 1 := by omega
      rcases e with rfl | rfl <;> rfl
  have := money_c _ 2 2 _ w hs (by omega)
  simpa using this
theorem nn_cash {z : Ti} (h : ∀ a, a < 8 → PurOk z a) (h48 : Mny (z 48)) : 0 ≤ cashS z := by
  have h' : ∀ a, a < 8 → 0 ≤ z (6 * a) := fun a ha => (h a ha).1.1
  have g0 := h' 0 (by omega); have g1 := h' 1 (by omega); have g2 := h' 2 (by omega); have g3 := h' 3 (by omega); have g4 := h' 4 (by omega); have g5 := h' 5 (by omega); have g6 := h' 6 (by omega); have g7 := h' 7 (by omega)
  have := h48.1
  simp [cashS] at *; omega
theorem nn_stock {z : Ti} (h : ∀ a, a < 8 → PurOk z a) : 0 ≤ stockS z := by
  have h' : ∀ a, a < 8 → 0 ≤ z (6 * a + 1) := fun a ha => (h a ha).2.1.1
  have g0 := h' 0 (by omega); have g1 := h' 1 (by omega); have g2 := h' 2 (by omega); have g3 := h' 3 (by omega); have g4 := h' 4 (by omega); have g5 := h' 5 (by omega); have g6 := h' 6 (by omega); have g7 := h' 7 (by omega)
  simp [stockS] at *; omega
instance (z : Ti) : Decidable (Good z) := by unfold Good; infer_instance
theorem ends_good {z : Ti} (h : ∀ a, a < 8 → PurOk z a) (h48 : Mny (z 48)) : decide (Good z) = (okS (cashS z) && okS (stockS z)) := by
  have a := nn_cash h h48
  have b := nn_stock h
  unfold okS
  rw [← Bool.decide_and, decide_eq_decide]
  exact ⟨fun g => ⟨⟨by have := g.2.2.1; unfold InR; omega, g.2.2.1⟩, by have := g.2.2.2; unfold InR; omega, g.2.2.2⟩, fun g => ⟨h, h48, g.1.2, g.2.2⟩⟩
theorem okS_mny {s : Int} (h : InR s) (h0 : 0 ≤ s) : okS s = mnyB s := by
  rw [okS_in h]; unfold mnyB Mny; simp [h0]

set_option maxHeartbeats 4000000 in
set_option maxRecDepth 100000 in
theorem good_c (z : Ti) (hin : ∀ k, k < 49 → InR (z k)) (w : World) :
    Calls Try.prog 7 #[.agg (TC z)] w fun e w' => e = .returned (.bool (decide (Good z))) ∧ Below w.heap.size w w' := by
  have Hin := Lib.hid hin; clear hin
  go_enter Try.func7, Try.ntmps7
  go_wp2_with ((with_reducible apply loadPs); rfl; rfl; rfl; (focus ((repeat' (first | (with_reducible assumption) | ((with_reducible refine heap_last ?_); (focus (first | (simp; done) | omega | (simp; omega)))) | ((with_reducible refine heap_prev ?_ ?_); (focus (first | (simp; done) | omega | (simp; omega)))) | (with_reducible apply row_heap) | ((with_reducible apply till_set); (focus (first | (simp; done) | omega | (simp; omega)))) | ((with_reducible refine sign_other ?_ ?_); (focus (first | (simp; done) | omega | (simp; omega)))) | ((with_reducible refine row_other ?_ ?_); (focus (first | (simp; done) | omega | (simp; omega)))) | (with_reducible refine drew_heap ?_) | (with_reducible refine drewN_heap ?_))); done)); skip)
  go_loopw [11] (fun i wr => ∃ k : Nat, k ≤ 8 ∧ i = .int .i64 k ∧ Hid (∀ a, a < k → PurOk z a) ∧ Hid (wr.heap[w.heap.size]? = some (.cells (TC z) 26 (0, 0))) ∧ Below w.heap.size w wr ∧ w.heap.size + 1 ≤ wr.heap.size) (fun i _ => 8 - (intOf i).toNat)
  case atStart => exact ⟨0, by omega, rfl, fun a ha => by omega, by show _ = _; (focus ((repeat' (first | (with_reducible assumption) | ((with_reducible refine heap_last ?_); (focus (first | (simp; done) | omega | (simp; omega)))) | ((with_reducible refine heap_prev ?_ ?_); (focus (first | (simp; done) | omega | (simp; omega)))) | (with_reducible apply row_heap) | ((with_reducible apply till_set); (focus (first | (simp; done) | omega | (simp; omega)))) | ((with_reducible refine sign_other ?_ ?_); (focus (first | (simp; done) | omega | (simp; omega)))) | ((with_reducible refine row_other ?_ ?_); (focus (first | (simp; done) | omega | (simp; omega)))) | (with_reducible refine drew_heap ?_) | (with_reducible refine drewN_heap ?_))); done)), by (focus ((repeat' (first | (with_reducible exact Below.refl _ _) | (with_reducible assumption) | (with_reducible refine Below.alloc ?_ ?_ _) | (with_reducible refine Below.setCell ?_ ?_ _) | (with_reducible refine Below.row ?_ ?_ _) | (with_reducible refine Below.drew ?_) | (with_reducible refine below_drewN ?_ _) | (focus (first | (simp; done) | omega | (simp; omega))))); done)), by simp⟩
  case round =>
    obtain ⟨k, hk, rfl, hp, ht, hB, hsz⟩ := hrel
    have hz9 : w.heap.size ≤ wr.heap.size := by omega
    by_cases hlt : k < 8
    · have hltI : (k : Int) < 8 := by omega
      have hk0 : (0 : Int) ≤ (k : Int) := by omega
      have hidx := pu_index z k hlt
      have hsix : InR (z (6 * k)) ∧ InR (z (6 * k + 1)) ∧ InR (z (6 * k + 2)) ∧ InR (z (6 * k + 3)) ∧ InR (z (6 * k + 4)) ∧ InR (z (6 * k + 5)) := ⟨Hin.out _ (by omega), Hin.out _ (by omega), Hin.out _ (by omega), Hin.out _ (by omega), Hin.out _ (by omega), Hin.out _ (by omega)⟩
      have HM0 := fun b w hg => money6 hsix b w hg
      by_cases hm : [z (6 * k), z (6 * k + 1), z (6 * k + 2), z (6 * k + 3), z (6 * k + 4), z (6 * k + 5)].all mnyB = false
      · have d : Hid (decide (Good z) = false) := by
          show _ = _
          refine decide_eq_false fun g => ?_
          obtain ⟨p0, p1, p2, p3, p4, p5, _⟩ := g.1 k hlt
          rw [six_all, decide_eq_true ⟨p0, p1, p2, p3, p4, p5⟩] at hm; cases hm
        simp only [hm] at HM0
        have HM := Lib.hid HM0
        clear HM0 hm hsix
        go_wp2_with ((with_reducible refine (HM.out _ _ ?_).mono ?_); (focus ((repeat' (first | (with_reducible assumption) | ((with_reducible refine heap_last ?_); (focus (first | (simp; done) | omega | (simp; omega)))) | ((with_reducible refine heap_prev ?_ ?_); (focus (first | (simp; done) | omega | (simp; omega)))) | (with_reducible apply row_heap) | ((with_reducible apply till_set); (focus (first | (simp; done) | omega | (simp; omega)))) | ((with_reducible refine sign_other ?_ ?_); (focus (first | (simp; done) | omega | (simp; omega)))) | ((with_reducible refine row_other ?_ ?_); (focus (first | (simp; done) | omega | (simp; omega)))) | (with_reducible refine drew_heap ?_) | (with_reducible refine drewN_heap ?_))); done)); rintro e w' ⟨rfl, rfl⟩)
        go_ret
        rw [d.out]; exact ⟨rfl, by (focus ((repeat' (first | (with_reducible exact Below.refl _ _) | (with_reducible assumption) | (with_reducible refine Below.alloc ?_ ?_ _) | (with_reducible refine Below.setCell ?_ ?_ _) | (with_reducible refine Below.row ?_ ?_ _) | (with_reducible refine Below.drew ?_) | (with_reducible refine below_drewN ?_ _) | (focus (first | (simp; done) | omega | (simp; omega))))); done))⟩
      have hm2 : [z (6 * k), z (6 * k + 1), z (6 * k + 2), z (6 * k + 3), z (6 * k + 4), z (6 * k + 5)].all mnyB = true := by simpa using hm
      simp only [hm2] at HM0
      have HM := Lib.hid HM0
      rw [six_all] at hm2
      have hm3 := Lib.hid (of_decide_eq_true hm2)
      clear HM0 hm hm2 hsix
      by_cases h1 : z (6 * k) < z (6 * k + 2)
      · have d : Hid (decide (Good z) = false) := by show _ = _; exact decide_eq_false fun g => by have := (g.1 k hlt).2.2.2.2.2.2.1; omega
        go_wp2_with ((with_reducible refine (HM.out _ _ ?_).mono ?_); (focus ((repeat' (first | (with_reducible assumption) | ((with_reducible refine heap_last ?_); (focus (first | (simp; done) | omega | (simp; omega)))) | ((with_reducible refine heap_prev ?_ ?_); (focus (first | (simp; done) | omega | (simp; omega)))) | (with_reducible apply row_heap) | ((with_reducible apply till_set); (focus (first | (simp; done) | omega | (simp; omega)))) | ((with_reducible refine sign_other ?_ ?_); (focus (first | (simp; done) | omega | (simp; omega)))) | ((with_reducible refine row_other ?_ ?_); (focus (first | (simp; done) | omega | (simp; omega)))) | (with_reducible refine drew_heap ?_) | (with_reducible refine drewN_heap ?_))); done)); rintro e w' ⟨rfl, rfl⟩)
        go_ret
        rw [d.out]; exact ⟨rfl, by (focus ((repeat' (first | (with_reducible exact Below.refl _ _) | (with_reducible assumption) | (with_reducible refine Below.alloc ?_ ?_ _) | (with_reducible refine Below.setCell ?_ ?_ _) | (with_reducible refine Below.row ?_ ?_ _) | (with_reducible refine Below.drew ?_) | (with_reducible refine below_drewN ?_ _) | (focus (first | (simp; done) | omega | (simp; omega))))); done))⟩
      have g1 : decide (z (6 * k) < z (6 * k + 2)) = false := decide_eq_false h1
      by_cases h2 : z (6 * k + 1) < z (6 * k + 3)
      · have d : Hid (decide (Good z) = false) := by show _ = _; exact decide_eq_false fun g => by have := (g.1 k hlt).2.2.2.2.2.2.2; omega
        clear h1
        go_wp2_with ((with_reducible refine (HM.out _ _ ?_).mono ?_); (focus ((repeat' (first | (with_reducible assumption) | ((with_reducible refine heap_last ?_); (focus (first | (simp; done) | omega | (simp; omega)))) | ((with_reducible refine heap_prev ?_ ?_); (focus (first | (simp; done) | omega | (simp; omega)))) | (with_reducible apply row_heap) | ((with_reducible apply till_set); (focus (first | (simp; done) | omega | (simp; omega)))) | ((with_reducible refine sign_other ?_ ?_); (focus (first | (simp; done) | omega | (simp; omega)))) | ((with_reducible refine row_other ?_ ?_); (focus (first | (simp; done) | omega | (simp; omega)))) | (with_reducible refine drew_heap ?_) | (with_reducible refine drewN_heap ?_))); done)); rintro e w' ⟨rfl, rfl⟩)
        go_ret
        rw [d.out]; exact ⟨rfl, by (focus ((repeat' (first | (with_reducible exact Below.refl _ _) | (with_reducible assumption) | (with_reducible refine Below.alloc ?_ ?_ _) | (with_reducible refine Below.setCell ?_ ?_ _) | (with_reducible refine Below.row ?_ ?_ _) | (with_reducible refine Below.drew ?_) | (with_reducible refine below_drewN ?_ _) | (focus (first | (simp; done) | omega | (simp; omega))))); done))⟩
      have g2 : decide (z (6 * k + 1) < z (6 * k + 3)) = false := decide_eq_false h2
      have hp2 : Hid (∀ a, a < k + 1 → PurOk z a) := fun a ha => by
        by_cases e : a = k
        · subst e; have := hm3.out; exact ⟨this.1, this.2.1, this.2.2.1, this.2.2.2.1, this.2.2.2.2.1, this.2.2.2.2.2, by omega, by omega⟩
        · exact hp.out a (by omega)
      have htr := ht.out
      clear h1 h2 hm3
      go_wp2_with ((with_reducible refine (HM.out _ _ ?_).mono ?_); (focus ((repeat' (first | (with_reducible assumption) | ((with_reducible refine heap_last ?_); (focus (first | (simp; done) | omega | (simp; omega)))) | ((with_reducible refine heap_prev ?_ ?_); (focus (first | (simp; done) | omega | (simp; omega)))) | (with_reducible apply row_heap) | ((with_reducible apply till_set); (focus (first | (simp; done) | omega | (simp; omega)))) | ((with_reducible refine sign_other ?_ ?_); (focus (first | (simp; done) | omega | (simp; omega)))) | ((with_reducible refine row_other ?_ ?_); (focus (first | (simp; done) | omega | (simp; omega)))) | (with_reducible refine drew_heap ?_) | (with_reducible refine drewN_heap ?_))); done)); rintro e w' ⟨rfl, rfl⟩)
      exact ⟨⟨k + 1, by omega, by go_num, hp2, by show _ = _; (focus ((repeat' (first | (with_reducible assumption) | ((with_reducible refine heap_last ?_); (focus (first | (simp; done) | omega | (simp; omega)))) | ((with_reducible refine heap_prev ?_ ?_); (focus (first | (simp; done) | omega | (simp; omega)))) | (with_reducible apply row_heap) | ((with_reducible apply till_set); (focus (first | (simp; done) | omega | (simp; omega)))) | ((with_reducible refine sign_other ?_ ?_); (focus (first | (simp; done) | omega | (simp; omega)))) | ((with_reducible refine row_other ?_ ?_); (focus (first | (simp; done) | omega | (simp; omega)))) | (with_reducible refine drew_heap ?_) | (with_reducible refine drewN_heap ?_))); done)), by (focus ((repeat' (first | (with_reducible exact Below.refl _ _) | (with_reducible assumption) | (with_reducible refine Below.alloc ?_ ?_ _) | (with_reducible refine Below.setCell ?_ ?_ _) | (with_reducible refine Below.row ?_ ?_ _) | (with_reducible refine Below.drew ?_) | (with_reducible refine below_drewN ?_ _) | (focus (first | (simp; done) | omega | (simp; omega))))); done)), by (focus (first | (simp; done) | omega | (simp; omega)))⟩, by simp [intOf]; omega⟩
    · obtain rfl : k = 8 := by omega
      have H1 := Lib.hid (all_cash z Hin.out)
      have H2 := Lib.hid (all_stock z Hin.out)
      have H3 := Lib.hid (fun b w hg => money1 (z 48) (Hin.out 48 (by omega)) b 2 w hg)
      have htr := ht.out
      have HE := Lib.hid (fun h => ends_good hp.out h)
      go_wp2_with (first | ((with_reducible apply loadP); rfl; rfl; rfl; (focus ((repeat' (first | (with_reducible assumption) | ((with_reducible refine heap_last ?_); (focus (first | (simp; done) | omega | (simp; omega)))) | ((with_reducible refine heap_prev ?_ ?_); (focus (first | (simp; done) | omega | (simp; omega)))) | (with_reducible apply row_heap) | ((with_reducible apply till_set); (focus (first | (simp; done) | omega | (simp; omega)))) | ((with_reducible refine sign_other ?_ ?_); (focus (first | (simp; done) | omega | (simp; omega)))) | ((with_reducible refine row_other ?_ ?_); (focus (first | (simp; done) | omega | (simp; omega)))) | (with_reducible refine drew_heap ?_) | (with_reducible refine drewN_heap ?_))); done)); skip))
      ((with_reducible refine (H1.out _).mono ?_); rintro e w1 ⟨rfl, b1⟩)
      have t1 : w1.heap[w.heap.size]? = some (.cells (TC z) 26 (0, 0)) := by rw [b1.block _ (by (focus (first | (simp; done) | omega | (simp; omega))))]; (focus ((repeat' (first | (with_reducible assumption) | ((with_reducible refine heap_last ?_); (focus (first | (simp; done) | omega | (simp; omega)))) | ((with_reducible refine heap_prev ?_ ?_); (focus (first | (simp; done) | omega | (simp; omega)))) | (with_reducible apply row_heap) | ((with_reducible apply till_set); (focus (first | (simp; done) | omega | (simp; omega)))) | ((with_reducible refine sign_other ?_ ?_); (focus (first | (simp; done) | omega | (simp; omega)))) | ((with_reducible refine row_other ?_ ?_); (focus (first | (simp; done) | omega | (simp; omega)))) | (with_reducible refine drew_heap ?_) | (with_reducible refine drewN_heap ?_))); done))
      have z1 : w.heap.size + 1 ≤ w1.heap.size := by have := b1.size; (try simp at this); omega
      have B1 : Below w.heap.size w w1 := Below.trans (by (focus ((repeat' (first | (with_reducible exact Below.refl _ _) | (with_reducible assumption) | (with_reducible refine Below.alloc ?_ ?_ _) | (with_reducible refine Below.setCell ?_ ?_ _) | (with_reducible refine Below.row ?_ ?_ _) | (with_reducible refine Below.drew ?_) | (with_reducible refine below_drewN ?_ _) | (focus (first | (simp; done) | omega | (simp; omega))))); done))) (b1.mono (by (focus (first | (simp; done) | omega | (simp; omega)))))
      clear b1 htr ht hB hsz hz9
      go_wp2_with (first | ((with_reducible apply loadP); rfl; rfl; rfl; (focus ((repeat' (first | (with_reducible assumption) | ((with_reducible refine heap_last ?_); (focus (first | (simp; done) | omega | (simp; omega)))) | ((with_reducible refine heap_prev ?_ ?_); (focus (first | (simp; done) | omega | (simp; omega)))) | (with_reducible apply row_heap) | ((with_reducible apply till_set); (focus (first | (simp; done) | omega | (simp; omega)))) | ((with_reducible refine sign_other ?_ ?_); (focus (first | (simp; done) | omega | (simp; omega)))) | ((with_reducible refine row_other ?_ ?_); (focus (first | (simp; done) | omega | (simp; omega)))) | (with_reducible refine drew_heap ?_) | (with_reducible refine drewN_heap ?_))); done)); skip))
      ((with_reducible refine (H2.out _).mono ?_); rintro e w2 ⟨rfl, b2⟩)
      have t2 : w2.heap[w.heap.size]? = some (.cells (TC z) 26 (0, 0)) := by rw [b2.block _ (by (focus (first | (simp; done) | omega | (simp; omega))))]; (focus ((repeat' (first | (with_reducible assumption) | ((with_reducible refine heap_last ?_); (focus (first | (simp; done) | omega | (simp; omega)))) | ((with_reducible refine heap_prev ?_ ?_); (focus (first | (simp; done) | omega | (simp; omega)))) | (with_reducible apply row_heap) | ((with_reducible apply till_set); (focus (first | (simp; done) | omega | (simp; omega)))) | ((with_reducible refine sign_other ?_ ?_); (focus (first | (simp; done) | omega | (simp; omega)))) | ((with_reducible refine row_other ?_ ?_); (focus (first | (simp; done) | omega | (simp; omega)))) | (with_reducible refine drew_heap ?_) | (with_reducible refine drewN_heap ?_))); done))
      have z2 : w.heap.size + 1 ≤ w2.heap.size := by have := b2.size; (try simp at this); omega
      have B2 : Below w.heap.size w w2 := Below.trans (by (focus ((repeat' (first | (with_reducible exact Below.refl _ _) | (with_reducible assumption) | (with_reducible refine Below.alloc ?_ ?_ _) | (with_reducible refine Below.setCell ?_ ?_ _) | (with_reducible refine Below.row ?_ ?_ _) | (with_reducible refine Below.drew ?_) | (with_reducible refine below_drewN ?_ _) | (focus (first | (simp; done) | omega | (simp; omega))))); done))) (b2.mono (by (focus (first | (simp; done) | omega | (simp; omega)))))
      clear b2 t1 z1 B1
      have z3 : w.heap.size ≤ w2.heap.size := by omega
      have c48 := till_cell t2 (show 48 < 49 by omega)
      by_cases h48 : Mny (z 48)
      rotate_left
      · have d : Hid (decide (Good z) = false) := by show _ = _; exact decide_eq_false fun g => h48 g.2.1
        have H3' := Lib.hid H3.out
        rw [show mnyB (z 48) = false from decide_eq_false h48] at H3'
        clear h48 H3 H1 H2
        go_wp2_with ((with_reducible refine (H3'.out _ _ ?_).mono ?_); (focus ((repeat' (first | (with_reducible assumption) | ((with_reducible refine heap_last ?_); (focus (first | (simp; done) | omega | (simp; omega)))) | ((with_reducible refine heap_prev ?_ ?_); (focus (first | (simp; done) | omega | (simp; omega)))) | (with_reducible apply row_heap) | ((with_reducible apply till_set); (focus (first | (simp; done) | omega | (simp; omega)))) | ((with_reducible refine sign_other ?_ ?_); (focus (first | (simp; done) | omega | (simp; omega)))) | ((with_reducible refine row_other ?_ ?_); (focus (first | (simp; done) | omega | (simp; omega)))) | (with_reducible refine drew_heap ?_) | (with_reducible refine drewN_heap ?_))); done)); rintro e w' ⟨rfl, rfl⟩)
        go_ret
        rw [d.out]; exact ⟨rfl, by (focus ((repeat' (first | (with_reducible exact Below.refl _ _) | (with_reducible assumption) | (with_reducible refine Below.alloc ?_ ?_ _) | (with_reducible refine Below.setCell ?_ ?_ _) | (with_reducible refine Below.row ?_ ?_ _) | (with_reducible refine Below.drew ?_) | (with_reducible refine below_drewN ?_ _) | (focus (first | (simp; done) | omega | (simp; omega))))); done))⟩
      have hE := HE.out h48
      have hn1 := nn_cash hp.out h48
      have hn2 := nn_stock hp.out
      have H3' := Lib.hid H3.out
      rw [show mnyB (z 48) = true from decide_eq_true h48] at H3'
      clear h48 H3 H1 H2 HE
      by_cases i1 : InR (cashS z)
      rotate_left
      · have d : Hid (decide (Good z) = false) := by show _ = _; rw [hE, okS_out i1]; rfl
        have te1 := te_out i1
        clear i1 hn1 hn2 hE
        go_wp2_with ((with_reducible refine (H3'.out _ _ ?_).mono ?_); (focus ((repeat' (first | (with_reducible assumption) | ((with_reducible refine heap_last ?_); (focus (first | (simp; done) | omega | (simp; omega)))) | ((with_reducible refine heap_prev ?_ ?_); (focus (first | (simp; done) | omega | (simp; omega)))) | (with_reducible apply row_heap) | ((with_reducible apply till_set); (focus (first | (simp; done) | omega | (simp; omega)))) | ((with_reducible refine sign_other ?_ ?_); (focus (first | (simp; done) | omega | (simp; omega)))) | ((with_reducible refine row_other ?_ ?_); (focus (first | (simp; done) | omega | (simp; omega)))) | (with_reducible refine drew_heap ?_) | (with_reducible refine drewN_heap ?_))); done)); rintro e w' ⟨rfl, rfl⟩)
        go_ret
        rw [d.out]; exact ⟨rfl, by (focus ((repeat' (first | (with_reducible exact Below.refl _ _) | (with_reducible assumption) | (with_reducible refine Below.alloc ?_ ?_ _) | (with_reducible refine Below.setCell ?_ ?_ _) | (with_reducible refine Below.row ?_ ?_ _) | (with_reducible refine Below.drew ?_) | (with_reducible refine below_drewN ?_ _) | (focus (first | (simp; done) | omega | (simp; omega))))); done))⟩
      have te1 := te_in i1
      by_cases i2 : InR (stockS z)
      rotate_left
      · have d : Hid (decide (Good z) = false) := by show _ = _; rw [hE, okS_out i2, Bool.and_false]
        have te2 := te_out i2
        clear i1 i2 hn1 hn2 hE
        go_wp2_with ((with_reducible refine (H3'.out _ _ ?_).mono ?_); (focus ((repeat' (first | (with_reducible assumption) | ((with_reducible refine heap_last ?_); (focus (first | (simp; done) | omega | (simp; omega)))) | ((with_reducible refine heap_prev ?_ ?_); (focus (first | (simp; done) | omega | (simp; omega)))) | (with_reducible apply row_heap) | ((with_reducible apply till_set); (focus (first | (simp; done) | omega | (simp; omega)))) | ((with_reducible refine sign_other ?_ ?_); (focus (first | (simp; done) | omega | (simp; omega)))) | ((with_reducible refine row_other ?_ ?_); (focus (first | (simp; done) | omega | (simp; omega)))) | (with_reducible refine drew_heap ?_) | (with_reducible refine drewN_heap ?_))); done)); rintro e w' ⟨rfl, rfl⟩)
        go_ret
        rw [d.out]; exact ⟨rfl, by (focus ((repeat' (first | (with_reducible exact Below.refl _ _) | (with_reducible assumption) | (with_reducible refine Below.alloc ?_ ?_ _) | (with_reducible refine Below.setCell ?_ ?_ _) | (with_reducible refine Below.row ?_ ?_ _) | (with_reducible refine Below.drew ?_) | (with_reducible refine below_drewN ?_ _) | (focus (first | (simp; done) | omega | (simp; omega))))); done))⟩
      have te2 := te_in i2
      have tv1 := tv_in i1
      have tv2 := tv_in i2
      have d : Hid (decide (Good z) = (mnyB (cashS z) && mnyB (stockS z))) := by show _ = _; rw [hE, okS_mny i1 hn1, okS_mny i2 hn2]
      have H4 := Lib.hid (fun b w hg => money2 ⟨i1, i2⟩ b w hg)
      generalize (mnyB (cashS z) && mnyB (stockS z)) = r at *
      clear i1 i2 hn1 hn2 hE
      go_wp2_with (first | ((with_reducible refine (H3'.out _ _ ?_).mono ?_); (focus ((repeat' (first | (with_reducible assumption) | ((with_reducible refine heap_last ?_); (focus (first | (simp; done) | omega | (simp; omega)))) | ((with_reducible refine heap_prev ?_ ?_); (focus (first | (simp; done) | omega | (simp; omega)))) | (with_reducible apply row_heap) | ((with_reducible apply till_set); (focus (first | (simp; done) | omega | (simp; omega)))) | ((with_reducible refine sign_other ?_ ?_); (focus (first | (simp; done) | omega | (simp; omega)))) | ((with_reducible refine row_other ?_ ?_); (focus (first | (simp; done) | omega | (simp; omega)))) | (with_reducible refine drew_heap ?_) | (with_reducible refine drewN_heap ?_))); done)); rintro e w' ⟨rfl, rfl⟩) | ((with_reducible refine (H4.out _ _ ?_).mono ?_); (focus ((repeat' (first | (with_reducible assumption) | ((with_reducible refine heap_last ?_); (focus (first | (simp; done) | omega | (simp; omega)))) | ((with_reducible refine heap_prev ?_ ?_); (focus (first | (simp; done) | omega | (simp; omega)))) | (with_reducible apply row_heap) | ((with_reducible apply till_set); (focus (first | (simp; done) | omega | (simp; omega)))) | ((with_reducible refine sign_other ?_ ?_); (focus (first | (simp; done) | omega | (simp; omega)))) | ((with_reducible refine row_other ?_ ?_); (focus (first | (simp; done) | omega | (simp; omega)))) | (with_reducible refine drew_heap ?_) | (with_reducible refine drewN_heap ?_))); done)); rintro e w' ⟨rfl, rfl⟩))
      go_ret
      rw [d.out]; exact ⟨rfl, by (focus ((repeat' (first | (with_reducible exact Below.refl _ _) | (with_reducible assumption) | (with_reducible refine Below.alloc ?_ ?_ _) | (with_reducible refine Below.setCell ?_ ?_ _) | (with_reducible refine Below.row ?_ ?_ _) | (with_reducible refine Below.drew ?_) | (with_reducible refine below_drewN ?_ _) | (focus (first | (simp; done) | omega | (simp; omega))))); done))⟩
end Go.Proofs.Ytpegkojcemggaab
