/- the reference's purse: Good. -/
import Derived.Test.YtpegkojcemggaabPuH
import Derived.Test.YtpegkojcemggaabPuR2
namespace Go.Proofs.Ytpegkojcemggaab
open Go.RowKit

set_option maxHeartbeats 4000000 in
set_option maxRecDepth 100000 in
theorem rgood_c (z : Ti) (hin : ∀ k, k < 49 → InR (z k)) (w : World) :
    Calls Try.prog 8 #[.agg (TC z)] w fun e w' => e = .returned (.bool (decide (Good z))) ∧ Below w.heap.size w w' := by
  have Hin := Lib.hid hin; clear hin
  have HQ := Lib.hid (fun n w => rfine_c n w)
  have cH := TC_get z (show 48 < 49 by omega)
  by_cases h48 : Mny (z 48)
  rotate_left
  · have d : Hid (decide (Good z) = false) := by show _ = _; exact decide_eq_false fun g => h48 g.2.1
    have H0 := Lib.hid (fun w => HQ.out (z 48) w)
    rw [show mnyB (z 48) = false from decide_eq_false h48] at H0
    clear h48
    go_enter Try.func8, Try.ntmps8
    go_wp2_with ((with_reducible refine (H0.out _).mono ?_); rintro e w' ⟨rfl, rfl⟩)
    go_ret
    rw [d.out]; exact ⟨rfl, by (focus ((repeat' (first | (with_reducible exact Below.refl _ _) | (with_reducible assumption) | (with_reducible refine Below.alloc ?_ ?_ _) | (with_reducible refine Below.setCell ?_ ?_ _) | (with_reducible refine Below.row ?_ ?_ _) | (with_reducible refine Below.drew ?_) | (with_reducible refine below_drewN ?_ _) | (focus (first | (simp; done) | omega | (simp; omega))))); done))⟩
  have H0 := Lib.hid (fun w => HQ.out (z 48) w)
  rw [show mnyB (z 48) = true from decide_eq_true h48] at H0
  have H48 := Lib.hid h48; clear h48
  go_enter Try.func8, Try.ntmps8
  go_wp2_with ((with_reducible refine (H0.out _).mono ?_); rintro e w' ⟨rfl, rfl⟩)
  clear H0 cH
  go_loopw [3] (fun i wr => ∃ k : Nat, k ≤ 8 ∧ i = .int .i64 k ∧ Hid (∀ a, a < k → PurOk z a) ∧ Hid (wr.heap[w.heap.size]? = some (.cells (TC z) 30 (0, 0))) ∧ Below w.heap.size w wr ∧ w.heap.size + 1 ≤ wr.heap.size) (fun i _ => 8 - (intOf i).toNat)
  case atStart => exact ⟨0, by omega, rfl, fun a ha => by omega, by show _ = _; (focus ((repeat' (first | (with_reducible assumption) | ((with_reducible refine heap_last ?_); (focus (first | (simp; done) | omega | (simp; omega)))) | ((with_reducible refine heap_prev ?_ ?_); (focus (first | (simp; done) | omega | (simp; omega)))) | (with_reducible apply row_heap) | ((with_reducible apply till_set); (focus (first | (simp; done) | omega | (simp; omega)))) | ((with_reducible refine sign_other ?_ ?_); (focus (first | (simp; done) | omega | (simp; omega)))) | ((with_reducible refine row_other ?_ ?_); (focus (first | (simp; done) | omega | (simp; omega)))) | (with_reducible refine drew_heap ?_) | (with_reducible refine drewN_heap ?_))); done)), by (focus ((repeat' (first | (with_reducible exact Below.refl _ _) | (with_reducible assumption) | (with_reducible refine Below.alloc ?_ ?_ _) | (with_reducible refine Below.setCell ?_ ?_ _) | (with_reducible refine Below.row ?_ ?_ _) | (with_reducible refine Below.drew ?_) | (with_reducible refine below_drewN ?_ _) | (focus (first | (simp; done) | omega | (simp; omega))))); done)), by simp⟩
  case round =>
    obtain ⟨k, hk, rfl, hp, ht, hB, hsz⟩ := hrel
    have hz9 : w.heap.size ≤ wr.heap.size := by omega
    have htr := ht.out
    by_cases hlt : k < 8
    · have hltI : (k : Int) < 8 := by omega
      have hk0 : (0 : Int) ≤ (k : Int) := by omega
      have R0 := Lib.hid (fun w => HQ.out (z (6 * k)) w)
      by_cases m0 : Mny (z (6 * k))
      rotate_left
      · have d : Hid (decide (Good z) = false) := by
          show _ = _
          refine decide_eq_false fun g => ?_
          obtain ⟨p0, p1, p2, p3, p4, p5, _⟩ := g.1 k hlt
          exact m0 p0
        rw [show mnyB (z (6 * k)) = false from decide_eq_false m0] at R0
        clear m0 
        go_wp2_with (first | ((with_reducible apply loadRu (k := k)); rfl; rfl; rfl; (focus ((repeat' (first | (with_reducible assumption) | ((with_reducible refine heap_last ?_); (focus (first | (simp; done) | omega | (simp; omega)))) | ((with_reducible refine heap_prev ?_ ?_); (focus (first | (simp; done) | omega | (simp; omega)))) | (with_reducible apply row_heap) | ((with_reducible apply till_set); (focus (first | (simp; done) | omega | (simp; omega)))) | ((with_reducible refine sign_other ?_ ?_); (focus (first | (simp; done) | omega | (simp; omega)))) | ((with_reducible refine row_other ?_ ?_); (focus (first | (simp; done) | omega | (simp; omega)))) | (with_reducible refine drew_heap ?_) | (with_reducible refine drewN_heap ?_))); done)); exact hlt; omega; skip) | ((with_reducible refine (R0.out _).mono ?_); rintro e w' ⟨rfl, rfl⟩))
        go_ret
        rw [d.out]; exact ⟨rfl, by (focus ((repeat' (first | (with_reducible exact Below.refl _ _) | (with_reducible assumption) | (with_reducible refine Below.alloc ?_ ?_ _) | (with_reducible refine Below.setCell ?_ ?_ _) | (with_reducible refine Below.row ?_ ?_ _) | (with_reducible refine Below.drew ?_) | (with_reducible refine below_drewN ?_ _) | (focus (first | (simp; done) | omega | (simp; omega))))); done))⟩
      rw [show mnyB (z (6 * k)) = true from decide_eq_true m0] at R0
      have R1 := Lib.hid (fun w => HQ.out (z (6 * k + 1)) w)
      by_cases m1 : Mny (z (6 * k + 1))
      rotate_left
      · have d : Hid (decide (Good z) = false) := by
          show _ = _
          refine decide_eq_false fun g => ?_
          obtain ⟨p0, p1, p2, p3, p4, p5, _⟩ := g.1 k hlt
          exact m1 p1
        rw [show mnyB (z (6 * k + 1)) = false from decide_eq_false m1] at R1
        clear m1 m0
        go_wp2_with (first | ((with_reducible apply loadRu (k := k)); rfl; rfl; rfl; (focus ((repeat' (first | (with_reducible assumption) | ((with_reducible refine heap_last ?_); (focus (first | (simp; done) | omega | (simp; omega)))) | ((with_reducible refine heap_prev ?_ ?_); (focus (first | (simp; done) | omega | (simp; omega)))) | (with_reducible apply row_heap) | ((with_reducible apply till_set); (focus (first | (simp; done) | omega | (simp; omega)))) | ((with_reducible refine sign_other ?_ ?_); (focus (first | (simp; done) | omega | (simp; omega)))) | ((with_reducible refine row_other ?_ ?_); (focus (first | (simp; done) | omega | (simp; omega)))) | (with_reducible refine drew_heap ?_) | (with_reducible refine drewN_heap ?_))); done)); exact hlt; omega; skip) | ((with_reducible refine (R0.out _).mono ?_); rintro e w' ⟨rfl, rfl⟩) | ((with_reducible refine (R1.out _).mono ?_); rintro e w' ⟨rfl, rfl⟩))
        go_ret
        rw [d.out]; exact ⟨rfl, by (focus ((repeat' (first | (with_reducible exact Below.refl _ _) | (with_reducible assumption) | (with_reducible refine Below.alloc ?_ ?_ _) | (with_reducible refine Below.setCell ?_ ?_ _) | (with_reducible refine Below.row ?_ ?_ _) | (with_reducible refine Below.drew ?_) | (with_reducible refine below_drewN ?_ _) | (focus (first | (simp; done) | omega | (simp; omega))))); done))⟩
      rw [show mnyB (z (6 * k + 1)) = true from decide_eq_true m1] at R1
      have R2 := Lib.hid (fun w => HQ.out (z (6 * k + 2)) w)
      by_cases m2 : Mny (z (6 * k + 2))
      rotate_left
      · have d : Hid (decide (Good z) = false) := by
          show _ = _
          refine decide_eq_false fun g => ?_
          obtain ⟨p0, p1, p2, p3, p4, p5, _⟩ := g.1 k hlt
          exact m2 p2
        rw [show mnyB (z (6 * k + 2)) = false from decide_eq_false m2] at R2
        clear m2 m0 m1
        go_wp2_with (first | ((with_reducible apply loadRu (k := k)); rfl; rfl; rfl; (focus ((repeat' (first | (with_reducible assumption) | ((with_reducible refine heap_last ?_); (focus (first | (simp; done) | omega | (simp; omega)))) | ((with_reducible refine heap_prev ?_ ?_); (focus (first | (simp; done) | omega | (simp; omega)))) | (with_reducible apply row_heap) | ((with_reducible apply till_set); (focus (first | (simp; done) | omega | (simp; omega)))) | ((with_reducible refine sign_other ?_ ?_); (focus (first | (simp; done) | omega | (simp; omega)))) | ((with_reducible refine row_other ?_ ?_); (focus (first | (simp; done) | omega | (simp; omega)))) | (with_reducible refine drew_heap ?_) | (with_reducible refine drewN_heap ?_))); done)); exact hlt; omega; skip) | ((with_reducible refine (R0.out _).mono ?_); rintro e w' ⟨rfl, rfl⟩) | ((with_reducible refine (R1.out _).mono ?_); rintro e w' ⟨rfl, rfl⟩) | ((with_reducible refine (R2.out _).mono ?_); rintro e w' ⟨rfl, rfl⟩))
        go_ret
        rw [d.out]; exact ⟨rfl, by (focus ((repeat' (first | (with_reducible exact Below.refl _ _) | (with_reducible assumption) | (with_reducible refine Below.alloc ?_ ?_ _) | (with_reducible refine Below.setCell ?_ ?_ _) | (with_reducible refine Below.row ?_ ?_ _) | (with_reducible refine Below.drew ?_) | (with_reducible refine below_drewN ?_ _) | (focus (first | (simp; done) | omega | (simp; omega))))); done))⟩
      rw [show mnyB (z (6 * k + 2)) = true from decide_eq_true m2] at R2
      have R3 := Lib.hid (fun w => HQ.out (z (6 * k + 3)) w)
      by_cases m3 : Mny (z (6 * k + 3))
      rotate_left
      · have d : Hid (decide (Good z) = false) := by
          show _ = _
          refine decide_eq_false fun g => ?_
          obtain ⟨p0, p1, p2, p3, p4, p5, _⟩ := g.1 k hlt
          exact m3 p3
        rw [show mnyB (z (6 * k + 3)) = false from decide_eq_false m3] at R3
        clear m3 m0 m1 m2
        go_wp2_with (first | ((with_reducible apply loadRu (k := k)); rfl; rfl; rfl; (focus ((repeat' (first | (with_reducible assumption) | ((with_reducible refine heap_last ?_); (focus (first | (simp; done) | omega | (simp; omega)))) | ((with_reducible refine heap_prev ?_ ?_); (focus (first | (simp; done) | omega | (simp; omega)))) | (with_reducible apply row_heap) | ((with_reducible apply till_set); (focus (first | (simp; done) | omega | (simp; omega)))) | ((with_reducible refine sign_other ?_ ?_); (focus (first | (simp; done) | omega | (simp; omega)))) | ((with_reducible refine row_other ?_ ?_); (focus (first | (simp; done) | omega | (simp; omega)))) | (with_reducible refine drew_heap ?_) | (with_reducible refine drewN_heap ?_))); done)); exact hlt; omega; skip) | ((with_reducible refine (R0.out _).mono ?_); rintro e w' ⟨rfl, rfl⟩) | ((with_reducible refine (R1.out _).mono ?_); rintro e w' ⟨rfl, rfl⟩) | ((with_reducible refine (R2.out _).mono ?_); rintro e w' ⟨rfl, rfl⟩) | ((with_reducible refine (R3.out _).mono ?_); rintro e w' ⟨rfl, rfl⟩))
        go_ret
        rw [d.out]; exact ⟨rfl, by (focus ((repeat' (first | (with_reducible exact Below.refl _ _) | (with_reducible assumption) | (with_reducible refine Below.alloc ?_ ?_ _) | (with_reducible refine Below.setCell ?_ ?_ _) | (with_reducible refine Below.row ?_ ?_ _) | (with_reducible refine Below.drew ?_) | (with_reducible refine below_drewN ?_ _) | (focus (first | (simp; done) | omega | (simp; omega))))); done))⟩
      rw [show mnyB (z (6 * k + 3)) = true from decide_eq_true m3] at R3
      have R4 := Lib.hid (fun w => HQ.out (z (6 * k + 4)) w)
      by_cases m4 : Mny (z (6 * k + 4))
      rotate_left
      · have d : Hid (decide (Good z) = false) := by
          show _ = _
          refine decide_eq_false fun g => ?_
          obtain ⟨p0, p1, p2, p3, p4, p5, _⟩ := g.1 k hlt
          exact m4 p4
        rw [show mnyB (z (6 * k + 4)) = false from decide_eq_false m4] at R4
        clear m4 m0 m1 m2 m3
        go_wp2_with (first | ((with_reducible apply loadRu (k := k)); rfl; rfl; rfl; (focus ((repeat' (first | (with_reducible assumption) | ((with_reducible refine heap_last ?_); (focus (first | (simp; done) | omega | (simp; omega)))) | ((with_reducible refine heap_prev ?_ ?_); (focus (first | (simp; done) | omega | (simp; omega)))) | (with_reducible apply row_heap) | ((with_reducible apply till_set); (focus (first | (simp; done) | omega | (simp; omega)))) | ((with_reducible refine sign_other ?_ ?_); (focus (first | (simp; done) | omega | (simp; omega)))) | ((with_reducible refine row_other ?_ ?_); (focus (first | (simp; done) | omega | (simp; omega)))) | (with_reducible refine drew_heap ?_) | (with_reducible refine drewN_heap ?_))); done)); exact hlt; omega; skip) | ((with_reducible refine (R0.out _).mono ?_); rintro e w' ⟨rfl, rfl⟩) | ((with_reducible refine (R1.out _).mono ?_); rintro e w' ⟨rfl, rfl⟩) | ((with_reducible refine (R2.out _).mono ?_); rintro e w' ⟨rfl, rfl⟩) | ((with_reducible refine (R3.out _).mono ?_); rintro e w' ⟨rfl, rfl⟩) | ((with_reducible refine (R4.out _).mono ?_); rintro e w' ⟨rfl, rfl⟩))
        go_ret
        rw [d.out]; exact ⟨rfl, by (focus ((repeat' (first | (with_reducible exact Below.refl _ _) | (with_reducible assumption) | (with_reducible refine Below.alloc ?_ ?_ _) | (with_reducible refine Below.setCell ?_ ?_ _) | (with_reducible refine Below.row ?_ ?_ _) | (with_reducible refine Below.drew ?_) | (with_reducible refine below_drewN ?_ _) | (focus (first | (simp; done) | omega | (simp; omega))))); done))⟩
      rw [show mnyB (z (6 * k + 4)) = true from decide_eq_true m4] at R4
      have R5 := Lib.hid (fun w => HQ.out (z (6 * k + 5)) w)
      by_cases m5 : Mny (z (6 * k + 5))
      rotate_left
      · have d : Hid (decide (Good z) = false) := by
          show _ = _
          refine decide_eq_false fun g => ?_
          obtain ⟨p0, p1, p2, p3, p4, p5, _⟩ := g.1 k hlt
          exact m5 p5
        rw [show mnyB (z (6 * k + 5)) = false from decide_eq_false m5] at R5
        clear m5 m0 m1 m2 m3 m4
        go_wp2_with (first | ((with_reducible apply loadRu (k := k)); rfl; rfl; rfl; (focus ((repeat' (first | (with_reducible assumption) | ((with_reducible refine heap_last ?_); (focus (first | (simp; done) | omega | (simp; omega)))) | ((with_reducible refine heap_prev ?_ ?_); (focus (first | (simp; done) | omega | (simp; omega)))) | (with_reducible apply row_heap) | ((with_reducible apply till_set); (focus (first | (simp; done) | omega | (simp; omega)))) | ((with_reducible refine sign_other ?_ ?_); (focus (first | (simp; done) | omega | (simp; omega)))) | ((with_reducible refine row_other ?_ ?_); (focus (first | (simp; done) | omega | (simp; omega)))) | (with_reducible refine drew_heap ?_) | (with_reducible refine drewN_heap ?_))); done)); exact hlt; omega; skip) | ((with_reducible refine (R0.out _).mono ?_); rintro e w' ⟨rfl, rfl⟩) | ((with_reducible refine (R1.out _).mono ?_); rintro e w' ⟨rfl, rfl⟩) | ((with_reducible refine (R2.out _).mono ?_); rintro e w' ⟨rfl, rfl⟩) | ((with_reducible refine (R3.out _).mono ?_); rintro e w' ⟨rfl, rfl⟩) | ((with_reducible refine (R4.out _).mono ?_); rintro e w' ⟨rfl, rfl⟩) | ((with_reducible refine (R5.out _).mono ?_); rintro e w' ⟨rfl, rfl⟩))
        go_ret
        rw [d.out]; exact ⟨rfl, by (focus ((repeat' (first | (with_reducible exact Below.refl _ _) | (with_reducible assumption) | (with_reducible refine Below.alloc ?_ ?_ _) | (with_reducible refine Below.setCell ?_ ?_ _) | (with_reducible refine Below.row ?_ ?_ _) | (with_reducible refine Below.drew ?_) | (with_reducible refine below_drewN ?_ _) | (focus (first | (simp; done) | omega | (simp; omega))))); done))⟩
      rw [show mnyB (z (6 * k + 5)) = true from decide_eq_true m5] at R5
      by_cases h1 : z (6 * k) < z (6 * k + 2)
      · have d : Hid (decide (Good z) = false) := by show _ = _; exact decide_eq_false fun g => by have := (g.1 k hlt).2.2.2.2.2.2.1; omega
        clear m0 m1 m2 m3 m4 m5
        go_wp2_with (first | ((with_reducible apply loadRu (k := k)); rfl; rfl; rfl; (focus ((repeat' (first | (with_reducible assumption) | ((with_reducible refine heap_last ?_); (focus (first | (simp; done) | omega | (simp; omega)))) | ((with_reducible refine heap_prev ?_ ?_); (focus (first | (simp; done) | omega | (simp; omega)))) | (with_reducible apply row_heap) | ((with_reducible apply till_set); (focus (first | (simp; done) | omega | (simp; omega)))) | ((with_reducible refine sign_other ?_ ?_); (focus (first | (simp; done) | omega | (simp; omega)))) | ((with_reducible refine row_other ?_ ?_); (focus (first | (simp; done) | omega | (simp; omega)))) | (with_reducible refine drew_heap ?_) | (with_reducible refine drewN_heap ?_))); done)); exact hlt; omega; skip) | ((with_reducible refine (R0.out _).mono ?_); rintro e w' ⟨rfl, rfl⟩) | ((with_reducible refine (R1.out _).mono ?_); rintro e w' ⟨rfl, rfl⟩) | ((with_reducible refine (R2.out _).mono ?_); rintro e w' ⟨rfl, rfl⟩) | ((with_reducible refine (R3.out _).mono ?_); rintro e w' ⟨rfl, rfl⟩) | ((with_reducible refine (R4.out _).mono ?_); rintro e w' ⟨rfl, rfl⟩) | ((with_reducible refine (R5.out _).mono ?_); rintro e w' ⟨rfl, rfl⟩))
        go_ret
        rw [d.out]; exact ⟨rfl, by (focus ((repeat' (first | (with_reducible exact Below.refl _ _) | (with_reducible assumption) | (with_reducible refine Below.alloc ?_ ?_ _) | (with_reducible refine Below.setCell ?_ ?_ _) | (with_reducible refine Below.row ?_ ?_ _) | (with_reducible refine Below.drew ?_) | (with_reducible refine below_drewN ?_ _) | (focus (first | (simp; done) | omega | (simp; omega))))); done))⟩
      have g1 : decide (z (6 * k) < z (6 * k + 2)) = false := decide_eq_false h1
      by_cases h2 : z (6 * k + 1) < z (6 * k + 3)
      · have d : Hid (decide (Good z) = false) := by show _ = _; exact decide_eq_false fun g => by have := (g.1 k hlt).2.2.2.2.2.2.2; omega
        clear h1 m0 m1 m2 m3 m4 m5
        go_wp2_with (first | ((with_reducible apply loadRu (k := k)); rfl; rfl; rfl; (focus ((repeat' (first | (with_reducible assumption) | ((with_reducible refine heap_last ?_); (focus (first | (simp; done) | omega | (simp; omega)))) | ((with_reducible refine heap_prev ?_ ?_); (focus (first | (simp; done) | omega | (simp; omega)))) | (with_reducible apply row_heap) | ((with_reducible apply till_set); (focus (first | (simp; done) | omega | (simp; omega)))) | ((with_reducible refine sign_other ?_ ?_); (focus (first | (simp; done) | omega | (simp; omega)))) | ((with_reducible refine row_other ?_ ?_); (focus (first | (simp; done) | omega | (simp; omega)))) | (with_reducible refine drew_heap ?_) | (with_reducible refine drewN_heap ?_))); done)); exact hlt; omega; skip) | ((with_reducible refine (R0.out _).mono ?_); rintro e w' ⟨rfl, rfl⟩) | ((with_reducible refine (R1.out _).mono ?_); rintro e w' ⟨rfl, rfl⟩) | ((with_reducible refine (R2.out _).mono ?_); rintro e w' ⟨rfl, rfl⟩) | ((with_reducible refine (R3.out _).mono ?_); rintro e w' ⟨rfl, rfl⟩) | ((with_reducible refine (R4.out _).mono ?_); rintro e w' ⟨rfl, rfl⟩) | ((with_reducible refine (R5.out _).mono ?_); rintro e w' ⟨rfl, rfl⟩))
        go_ret
        rw [d.out]; exact ⟨rfl, by (focus ((repeat' (first | (with_reducible exact Below.refl _ _) | (with_reducible assumption) | (with_reducible refine Below.alloc ?_ ?_ _) | (with_reducible refine Below.setCell ?_ ?_ _) | (with_reducible refine Below.row ?_ ?_ _) | (with_reducible refine Below.drew ?_) | (with_reducible refine below_drewN ?_ _) | (focus (first | (simp; done) | omega | (simp; omega))))); done))⟩
      have g2 : decide (z (6 * k + 1) < z (6 * k + 3)) = false := decide_eq_false h2
      have hp2 : Hid (∀ a, a < k + 1 → PurOk z a) := fun a ha => by
        by_cases e : a = k
        · subst e; exact ⟨m0, m1, m2, m3, m4, m5, by omega, by omega⟩
        · exact hp.out a (by omega)
      clear h1 h2 m0 m1 m2 m3 m4 m5
      go_wp2_with (first | ((with_reducible apply loadRu (k := k)); rfl; rfl; rfl; (focus ((repeat' (first | (with_reducible assumption) | ((with_reducible refine heap_last ?_); (focus (first | (simp; done) | omega | (simp; omega)))) | ((with_reducible refine heap_prev ?_ ?_); (focus (first | (simp; done) | omega | (simp; omega)))) | (with_reducible apply row_heap) | ((with_reducible apply till_set); (focus (first | (simp; done) | omega | (simp; omega)))) | ((with_reducible refine sign_other ?_ ?_); (focus (first | (simp; done) | omega | (simp; omega)))) | ((with_reducible refine row_other ?_ ?_); (focus (first | (simp; done) | omega | (simp; omega)))) | (with_reducible refine drew_heap ?_) | (with_reducible refine drewN_heap ?_))); done)); exact hlt; omega; skip) | ((with_reducible refine (R0.out _).mono ?_); rintro e w' ⟨rfl, rfl⟩) | ((with_reducible refine (R1.out _).mono ?_); rintro e w' ⟨rfl, rfl⟩) | ((with_reducible refine (R2.out _).mono ?_); rintro e w' ⟨rfl, rfl⟩) | ((with_reducible refine (R3.out _).mono ?_); rintro e w' ⟨rfl, rfl⟩) | ((with_reducible refine (R4.out _).mono ?_); rintro e w' ⟨rfl, rfl⟩) | ((with_reducible refine (R5.out _).mono ?_); rintro e w' ⟨rfl, rfl⟩))
      exact ⟨⟨k + 1, by omega, by go_num, hp2, by show _ = _; (focus ((repeat' (first | (with_reducible assumption) | ((with_reducible refine heap_last ?_); (focus (first | (simp; done) | omega | (simp; omega)))) | ((with_reducible refine heap_prev ?_ ?_); (focus (first | (simp; done) | omega | (simp; omega)))) | (with_reducible apply row_heap) | ((with_reducible apply till_set); (focus (first | (simp; done) | omega | (simp; omega)))) | ((with_reducible refine sign_other ?_ ?_); (focus (first | (simp; done) | omega | (simp; omega)))) | ((with_reducible refine row_other ?_ ?_); (focus (first | (simp; done) | omega | (simp; omega)))) | (with_reducible refine drew_heap ?_) | (with_reducible refine drewN_heap ?_))); done)), by (focus ((repeat' (first | (with_reducible exact Below.refl _ _) | (with_reducible assumption) | (with_reducible refine Below.alloc ?_ ?_ _) | (with_reducible refine Below.setCell ?_ ?_ _) | (with_reducible refine Below.row ?_ ?_ _) | (with_reducible refine Below.drew ?_) | (with_reducible refine below_drewN ?_ _) | (focus (first | (simp; done) | omega | (simp; omega))))); done)), by (focus (first | (simp; done) | omega | (simp; omega)))⟩, by simp [intOf]; omega⟩
    · obtain rfl : k = 8 := by omega
      have H1 := fun w => rall_cash z Hin.out 0 (by unfold InR; omega) w
      have H2 := fun w => rall_stock z Hin.out 0 (by unfold InR; omega) w
      rw [Int.add_zero] at H1 H2
      replace H1 := Lib.hid H1
      replace H2 := Lib.hid H2
      have HE := Lib.hid (ends_good hp.out H48.out)
      go_wp2_with (first | ((with_reducible apply loadR); rfl; rfl; rfl; (focus ((repeat' (first | (with_reducible assumption) | ((with_reducible refine heap_last ?_); (focus (first | (simp; done) | omega | (simp; omega)))) | ((with_reducible refine heap_prev ?_ ?_); (focus (first | (simp; done) | omega | (simp; omega)))) | (with_reducible apply row_heap) | ((with_reducible apply till_set); (focus (first | (simp; done) | omega | (simp; omega)))) | ((with_reducible refine sign_other ?_ ?_); (focus (first | (simp; done) | omega | (simp; omega)))) | ((with_reducible refine row_other ?_ ?_); (focus (first | (simp; done) | omega | (simp; omega)))) | (with_reducible refine drew_heap ?_) | (with_reducible refine drewN_heap ?_))); done)); skip))
      ((with_reducible refine (H1.out _).mono ?_); rintro e w1 ⟨rfl, b1⟩)
      have t1 : w1.heap[w.heap.size]? = some (.cells (TC z) 30 (0, 0)) := by rw [b1.block _ (by (focus (first | (simp; done) | omega | (simp; omega))))]; (focus ((repeat' (first | (with_reducible assumption) | ((with_reducible refine heap_last ?_); (focus (first | (simp; done) | omega | (simp; omega)))) | ((with_reducible refine heap_prev ?_ ?_); (focus (first | (simp; done) | omega | (simp; omega)))) | (with_reducible apply row_heap) | ((with_reducible apply till_set); (focus (first | (simp; done) | omega | (simp; omega)))) | ((with_reducible refine sign_other ?_ ?_); (focus (first | (simp; done) | omega | (simp; omega)))) | ((with_reducible refine row_other ?_ ?_); (focus (first | (simp; done) | omega | (simp; omega)))) | (with_reducible refine drew_heap ?_) | (with_reducible refine drewN_heap ?_))); done))
      have z1 : w.heap.size + 1 ≤ w1.heap.size := by have := b1.size; (try simp at this); omega
      have B1 : Below w.heap.size w w1 := Below.trans (by (focus ((repeat' (first | (with_reducible exact Below.refl _ _) | (with_reducible assumption) | (with_reducible refine Below.alloc ?_ ?_ _) | (with_reducible refine Below.setCell ?_ ?_ _) | (with_reducible refine Below.row ?_ ?_ _) | (with_reducible refine Below.drew ?_) | (with_reducible refine below_drewN ?_ _) | (focus (first | (simp; done) | omega | (simp; omega))))); done))) (b1.mono (by (focus (first | (simp; done) | omega | (simp; omega)))))
      clear b1 htr ht hB hsz hz9
      go_wp2_with (first | ((with_reducible apply loadR); rfl; rfl; rfl; (focus ((repeat' (first | (with_reducible assumption) | ((with_reducible refine heap_last ?_); (focus (first | (simp; done) | omega | (simp; omega)))) | ((with_reducible refine heap_prev ?_ ?_); (focus (first | (simp; done) | omega | (simp; omega)))) | (with_reducible apply row_heap) | ((with_reducible apply till_set); (focus (first | (simp; done) | omega | (simp; omega)))) | ((with_reducible refine sign_other ?_ ?_); (focus (first | (simp; done) | omega | (simp; omega)))) | ((with_reducible refine row_other ?_ ?_); (focus (first | (simp; done) | omega | (simp; omega)))) | (with_reducible refine drew_heap ?_) | (with_reducible refine drewN_heap ?_))); done)); skip))
      ((with_reducible refine (H2.out _).mono ?_); rintro e w2 ⟨rfl, b2⟩)
      have t2 : w2.heap[w.heap.size]? = some (.cells (TC z) 30 (0, 0)) := by rw [b2.block _ (by (focus (first | (simp; done) | omega | (simp; omega))))]; (focus ((repeat' (first | (with_reducible assumption) | ((with_reducible refine heap_last ?_); (focus (first | (simp; done) | omega | (simp; omega)))) | ((with_reducible refine heap_prev ?_ ?_); (focus (first | (simp; done) | omega | (simp; omega)))) | (with_reducible apply row_heap) | ((with_reducible apply till_set); (focus (first | (simp; done) | omega | (simp; omega)))) | ((with_reducible refine sign_other ?_ ?_); (focus (first | (simp; done) | omega | (simp; omega)))) | ((with_reducible refine row_other ?_ ?_); (focus (first | (simp; done) | omega | (simp; omega)))) | (with_reducible refine drew_heap ?_) | (with_reducible refine drewN_heap ?_))); done))
      have z2 : w.heap.size + 1 ≤ w2.heap.size := by have := b2.size; (try simp at this); omega
      have B2 : Below w.heap.size w w2 := Below.trans (by (focus ((repeat' (first | (with_reducible exact Below.refl _ _) | (with_reducible assumption) | (with_reducible refine Below.alloc ?_ ?_ _) | (with_reducible refine Below.setCell ?_ ?_ _) | (with_reducible refine Below.row ?_ ?_ _) | (with_reducible refine Below.drew ?_) | (with_reducible refine below_drewN ?_ _) | (focus (first | (simp; done) | omega | (simp; omega))))); done))) (b2.mono (by (focus (first | (simp; done) | omega | (simp; omega)))))
      clear b2 t1 z1 B1
      cases hq : okS (cashS z)
      · rw [hq, Bool.false_and] at HE
        go_wp2_with fail
        go_ret
        rw [HE.out]; exact ⟨rfl, B2⟩
      · rw [hq, Bool.true_and] at HE
        go_wp2_with fail
        go_ret
        rw [HE.out]; exact ⟨rfl, B2⟩
end Go.Proofs.Ytpegkojcemggaab
