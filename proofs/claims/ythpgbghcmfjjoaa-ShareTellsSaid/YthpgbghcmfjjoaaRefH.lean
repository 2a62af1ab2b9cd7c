/- The product. -/
import Derived.Test.YthpgbghcmfjjoaaRefG
namespace Go.Proofs.Ythpgbghcmfjjoaa
open Go.RowKit

theorem mod_low (a b k : Nat) : a * (b % 2 ^ (k + 1)) = a * (b % 2 ^ k) + (if b.testBit k then a * 2 ^ k else 0) := by
  rw [low_succ, Nat.mul_add]
  cases b.testBit k <;> simp

set_option maxHeartbeats 4000000 in
set_option maxRecDepth 100000 in
theorem Times_n (a b : Nat) (s t : Bool) (m : Nat) (r : Bool) (ha : a < 2 ^ 64) (hb : b < 2 ^ 64)
    (hm : m = a * b) (hr : r = ((s != t) && !decide (m = 0))) (w : World) :
    Calls Try.prog 26 #[.agg (NC a s), .agg (NC b t)] w fun e w' => e = .returned (.agg (NC m r)) ∧ Below w.heap.size w w' := by
  have hz := zero83
  have g1 := NC_sign a s
  have g2 := NC_sign b t
  have Hm : Hid (m < 2 ^ 136) := by
    show _ < _
    rw [hm]
    exact Nat.lt_of_lt_of_le (Nat.mul_lt_mul'' ha hb) (by rw [← Nat.pow_add]; exact Nat.pow_le_pow_right (by omega) (by omega))
  have Ha := Lib.hid ha; clear ha
  have Hb := Lib.hid hb; clear hb
  have Hmm := Lib.hid hm; clear hm
  have Hr := Lib.hid hr; clear hr
  go_enter Try.func26, Try.ntmps26
  go_wp2_with (first | ((with_reducible apply load83); rfl; rfl; rfl; (focus ((repeat' (first | (with_reducible assumption) | ((with_reducible refine heap_last ?_); (focus (first | (simp; done) | omega | (simp; omega)))) | ((with_reducible refine heap_prev ?_ ?_); (focus (first | (simp; done) | omega | (simp; omega)))) | (with_reducible apply sign_heap) | (with_reducible apply row_heap) | (with_reducible apply bit0_heap) | ((with_reducible refine sign_other ?_ ?_); (focus (first | (simp; done) | omega | (simp; omega)))) | ((with_reducible refine row_other ?_ ?_); (focus (first | (simp; done) | omega | (simp; omega)))) | (with_reducible refine drew_heap ?_))); done)); skip) | (first | ((with_reducible apply store83_0); rfl; rfl; rfl; rfl; (focus (simp; done)); skip) | ((with_reducible apply store83_1); rfl; rfl; rfl; rfl; (focus (simp; done)); skip) | ((with_reducible apply store83_2); rfl; rfl; rfl; rfl; (focus (simp; done)); skip) | ((with_reducible apply store83_3); rfl; rfl; rfl; rfl; (focus (simp; done)); skip) | ((with_reducible apply store83_4); rfl; rfl; rfl; rfl; (focus (simp; done)); skip)))
  go_loopw [7] (fun i wr => ∃ k : Nat, k ≤ 64 ∧ i = .int .i64 k ∧ Hid (wr.heap[w.heap.size]? = some (.cells (NC a s) 57 (0, 0))) ∧ Hid (wr.heap[w.heap.size + 1]? = some (.cells (NC b t) 57 (0, 0))) ∧
      Hid (wr.heap[w.heap.size + 1 + 1]? = some (.cells (NC 0 false) 57 (0, 0))) ∧ Hid (wr.heap[w.heap.size + 1 + 1 + 1]? = some (.cells (NC (a * (b % 2 ^ k)) false) 57 (0, 0))) ∧
      Hid (wr.heap[w.heap.size + 1 + 1 + 1 + 1]? = some (.cells (NC (a * 2 ^ k) s) 57 (0, 0))) ∧ w.heap.size + 5 ≤ wr.heap.size ∧ Below w.heap.size w wr) (fun i _ => 64 - (intOf i).toNat)
  case atStart =>
    refine ⟨0, by omega, rfl, by show _ = _; (focus ((repeat' (first | (with_reducible assumption) | ((with_reducible refine heap_last ?_); (focus (first | (simp; done) | omega | (simp; omega)))) | ((with_reducible refine heap_prev ?_ ?_); (focus (first | (simp; done) | omega | (simp; omega)))) | (with_reducible apply sign_heap) | (with_reducible apply row_heap) | (with_reducible apply bit0_heap) | ((with_reducible refine sign_other ?_ ?_); (focus (first | (simp; done) | omega | (simp; omega)))) | ((with_reducible refine row_other ?_ ?_); (focus (first | (simp; done) | omega | (simp; omega)))) | (with_reducible refine drew_heap ?_))); done)), by show _ = _; (focus ((repeat' (first | (with_reducible assumption) | ((with_reducible refine heap_last ?_); (focus (first | (simp; done) | omega | (simp; omega)))) | ((with_reducible refine heap_prev ?_ ?_); (focus (first | (simp; done) | omega | (simp; omega)))) | (with_reducible apply sign_heap) | (with_reducible apply row_heap) | (with_reducible apply bit0_heap) | ((with_reducible refine sign_other ?_ ?_); (focus (first | (simp; done) | omega | (simp; omega)))) | ((with_reducible refine row_other ?_ ?_); (focus (first | (simp; done) | omega | (simp; omega)))) | (with_reducible refine drew_heap ?_))); done)), by show _ = _; (focus ((repeat' (first | (with_reducible assumption) | ((with_reducible refine heap_last ?_); (focus (first | (simp; done) | omega | (simp; omega)))) | ((with_reducible refine heap_prev ?_ ?_); (focus (first | (simp; done) | omega | (simp; omega)))) | (with_reducible apply sign_heap) | (with_reducible apply row_heap) | (with_reducible apply bit0_heap) | ((with_reducible refine sign_other ?_ ?_); (focus (first | (simp; done) | omega | (simp; omega)))) | ((with_reducible refine row_other ?_ ?_); (focus (first | (simp; done) | omega | (simp; omega)))) | (with_reducible refine drew_heap ?_))); done)), ?_, ?_, by simp, by (focus ((repeat' (first | (with_reducible exact Below.refl _ _) | (with_reducible assumption) | (with_reducible refine Below.alloc ?_ ?_ _) | (with_reducible refine Below.setCell ?_ ?_ _) | (with_reducible refine Below.row ?_ ?_ _) | (with_reducible refine Below.drew ?_) | (with_reducible refine below_drewN ?_ _) | (focus (first | (simp; done) | omega | (simp; omega))))); done))⟩
    · show _ = _
      rw [show a * (b % 2 ^ 0) = 0 by simp [Nat.mod_one]]; (focus ((repeat' (first | (with_reducible assumption) | ((with_reducible refine heap_last ?_); (focus (first | (simp; done) | omega | (simp; omega)))) | ((with_reducible refine heap_prev ?_ ?_); (focus (first | (simp; done) | omega | (simp; omega)))) | (with_reducible apply sign_heap) | (with_reducible apply row_heap) | (with_reducible apply bit0_heap) | ((with_reducible refine sign_other ?_ ?_); (focus (first | (simp; done) | omega | (simp; omega)))) | ((with_reducible refine row_other ?_ ?_); (focus (first | (simp; done) | omega | (simp; omega)))) | (with_reducible refine drew_heap ?_))); done))
    · show _ = _
      rw [show a * 2 ^ 0 = a by simp]; (focus ((repeat' (first | (with_reducible assumption) | ((with_reducible refine heap_last ?_); (focus (first | (simp; done) | omega | (simp; omega)))) | ((with_reducible refine heap_prev ?_ ?_); (focus (first | (simp; done) | omega | (simp; omega)))) | (with_reducible apply sign_heap) | (with_reducible apply row_heap) | (with_reducible apply bit0_heap) | ((with_reducible refine sign_other ?_ ?_); (focus (first | (simp; done) | omega | (simp; omega)))) | ((with_reducible refine row_other ?_ ?_); (focus (first | (simp; done) | omega | (simp; omega)))) | (with_reducible refine drew_heap ?_))); done))
  case round =>
    obtain ⟨k, hk, rfl, h0, h1, h2, h3, h4, z1, hB⟩ := hrel
    by_cases hlt : k < 64
    · have c1 : wr.cell? ⟨w.heap.size + 1, k, none⟩ = some (.bool (b.testBit k)) := by rw [cell_of_row wr _ _ _ _ _ h1.out, NC_get b t k (by omega)]
      have hml := mod_low a b k
      generalize b.testBit k = y at *
      have H5 : Hid (2 * (a * 2 ^ k) = a * 2 ^ (k + 1)) := by show _ = _; rw [Nat.pow_succ]; grind
      cases y
      · have hml' : a * (b % 2 ^ k) = a * (b % 2 ^ (k + 1)) := by rw [hml]; simp
        have H6 := Lib.hid hml'; clear hml hml'
        have q4 := h4.out
        go_wp2_with (first | ((with_reducible apply load83); rfl; rfl; rfl; (focus ((repeat' (first | (with_reducible assumption) | ((with_reducible refine heap_last ?_); (focus (first | (simp; done) | omega | (simp; omega)))) | ((with_reducible refine heap_prev ?_ ?_); (focus (first | (simp; done) | omega | (simp; omega)))) | (with_reducible apply sign_heap) | (with_reducible apply row_heap) | (with_reducible apply bit0_heap) | ((with_reducible refine sign_other ?_ ?_); (focus (first | (simp; done) | omega | (simp; omega)))) | ((with_reducible refine row_other ?_ ?_); (focus (first | (simp; done) | omega | (simp; omega)))) | (with_reducible refine drew_heap ?_))); done)); skip))
        clear q4
        ((with_reducible refine (twice_c _ _ _).mono ?_); rintro e w1 ⟨rfl, hb1⟩)
        rw [H5.out]
        have y0 : Hid (w1.heap[w.heap.size]? = some (.cells (NC a s) 57 (0, 0))) := (hb1.block _ (by omega)).trans h0
        have y1 : Hid (w1.heap[w.heap.size + 1]? = some (.cells (NC b t) 57 (0, 0))) := (hb1.block _ (by omega)).trans h1
        have y2 : Hid (w1.heap[w.heap.size + 1 + 1]? = some (.cells (NC 0 false) 57 (0, 0))) := (hb1.block _ (by omega)).trans h2
        have y3 : Hid (w1.heap[w.heap.size + 1 + 1 + 1]? = some (.cells (NC (a * (b % 2 ^ k)) false) 57 (0, 0))) := (hb1.block _ (by omega)).trans h3
        have y4 : w1.heap[w.heap.size + 1 + 1 + 1 + 1]? = some (.cells (NC (a * 2 ^ k) s) 57 (0, 0)) := (hb1.block _ (by omega)).trans h4
        have yz : w.heap.size + 5 ≤ w1.heap.size := by have := hb1.size; omega
        have yB : Below w.heap.size w w1 := hB.trans (hb1.mono (by omega))
        clear hb1 h0 h1 h2 h3 h4 z1 hB c1
        go_wp2_with (first | ((with_reducible apply store83); rfl; rfl; rfl; rfl; (focus ((repeat' (first | (with_reducible assumption) | ((with_reducible refine heap_last ?_); (focus (first | (simp; done) | omega | (simp; omega)))) | ((with_reducible refine heap_prev ?_ ?_); (focus (first | (simp; done) | omega | (simp; omega)))) | (with_reducible apply sign_heap) | (with_reducible apply row_heap) | (with_reducible apply bit0_heap) | ((with_reducible refine sign_other ?_ ?_); (focus (first | (simp; done) | omega | (simp; omega)))) | ((with_reducible refine row_other ?_ ?_); (focus (first | (simp; done) | omega | (simp; omega)))) | (with_reducible refine drew_heap ?_))); done)); skip))
        refine ⟨⟨k + 1, by omega, by go_num, row_other (by omega) y0.out, row_other (by omega) y1.out, row_other (by omega) y2.out, ?_, row_heap y4, by simp; omega, by (focus ((repeat' (first | (with_reducible exact Below.refl _ _) | (with_reducible assumption) | (with_reducible refine Below.alloc ?_ ?_ _) | (with_reducible refine Below.setCell ?_ ?_ _) | (with_reducible refine Below.row ?_ ?_ _) | (with_reducible refine Below.drew ?_) | (with_reducible refine below_drewN ?_ _) | (focus (first | (simp; done) | omega | (simp; omega))))); done))⟩, by simp [intOf]; omega⟩
        show _ = _
        rw [← H6.out]
        exact row_other (by omega) y3.out
      · have hml' : a * (b % 2 ^ k) + a * 2 ^ k = a * (b % 2 ^ (k + 1)) := by rw [hml]; simp
        have H6 := Lib.hid hml'; clear hml hml'
        have q4 := h4.out
        have q3 := h3.out
        go_wp2_with (first | ((with_reducible apply load83); rfl; rfl; rfl; (focus ((repeat' (first | (with_reducible assumption) | ((with_reducible refine heap_last ?_); (focus (first | (simp; done) | omega | (simp; omega)))) | ((with_reducible refine heap_prev ?_ ?_); (focus (first | (simp; done) | omega | (simp; omega)))) | (with_reducible apply sign_heap) | (with_reducible apply row_heap) | (with_reducible apply bit0_heap) | ((with_reducible refine sign_other ?_ ?_); (focus (first | (simp; done) | omega | (simp; omega)))) | ((with_reducible refine row_other ?_ ?_); (focus (first | (simp; done) | omega | (simp; omega)))) | (with_reducible refine drew_heap ?_))); done)); skip))
        clear q4 q3
        ((with_reducible refine (more_c _ _ _ _ _).mono ?_); rintro e w1 ⟨rfl, hb1⟩)
        rw [H6.out]
        have y0 : Hid (w1.heap[w.heap.size]? = some (.cells (NC a s) 57 (0, 0))) := (hb1.block _ (by omega)).trans h0
        have y1 : Hid (w1.heap[w.heap.size + 1]? = some (.cells (NC b t) 57 (0, 0))) := (hb1.block _ (by omega)).trans h1
        have y2 : Hid (w1.heap[w.heap.size + 1 + 1]? = some (.cells (NC 0 false) 57 (0, 0))) := (hb1.block _ (by omega)).trans h2
        have y3 : w1.heap[w.heap.size + 1 + 1 + 1]? = some (.cells (NC (a * (b % 2 ^ k)) false) 57 (0, 0)) := (hb1.block _ (by omega)).trans h3
        have y4 : w1.heap[w.heap.size + 1 + 1 + 1 + 1]? = some (.cells (NC (a * 2 ^ k) s) 57 (0, 0)) := (hb1.block _ (by omega)).trans h4
        have yz : w.heap.size + 5 ≤ w1.heap.size := by have := hb1.size; omega
        have yB : Below w.heap.size w w1 := hB.trans (hb1.mono (by omega))
        clear hb1 h0 h1 h2 h3 h4 z1 hB c1
        go_wp2_with (first | ((with_reducible apply store83); rfl; rfl; rfl; rfl; (focus ((repeat' (first | (with_reducible assumption) | ((with_reducible refine heap_last ?_); (focus (first | (simp; done) | omega | (simp; omega)))) | ((with_reducible refine heap_prev ?_ ?_); (focus (first | (simp; done) | omega | (simp; omega)))) | (with_reducible apply sign_heap) | (with_reducible apply row_heap) | (with_reducible apply bit0_heap) | ((with_reducible refine sign_other ?_ ?_); (focus (first | (simp; done) | omega | (simp; omega)))) | ((with_reducible refine row_other ?_ ?_); (focus (first | (simp; done) | omega | (simp; omega)))) | (with_reducible refine drew_heap ?_))); done)); skip) | ((with_reducible apply load83); rfl; rfl; rfl; (focus ((repeat' (first | (with_reducible assumption) | ((with_reducible refine heap_last ?_); (focus (first | (simp; done) | omega | (simp; omega)))) | ((with_reducible refine heap_prev ?_ ?_); (focus (first | (simp; done) | omega | (simp; omega)))) | (with_reducible apply sign_heap) | (with_reducible apply row_heap) | (with_reducible apply bit0_heap) | ((with_reducible refine sign_other ?_ ?_); (focus (first | (simp; done) | omega | (simp; omega)))) | ((with_reducible refine row_other ?_ ?_); (focus (first | (simp; done) | omega | (simp; omega)))) | (with_reducible refine drew_heap ?_))); done)); skip))
        ((with_reducible refine (twice_c _ _ _).mono ?_); rintro e w2 ⟨rfl, hb2⟩)
        rw [H5.out]
        have x0 : Hid (w2.heap[w.heap.size]? = some (.cells (NC a s) 57 (0, 0))) := (hb2.block _ (by (focus (first | (simp; done) | omega | (simp; omega))))).trans (row_other (by omega) y0.out)
        have x1 : Hid (w2.heap[w.heap.size + 1]? = some (.cells (NC b t) 57 (0, 0))) := (hb2.block _ (by (focus (first | (simp; done) | omega | (simp; omega))))).trans (row_other (by omega) y1.out)
        have x2 : Hid (w2.heap[w.heap.size + 1 + 1]? = some (.cells (NC 0 false) 57 (0, 0))) := (hb2.block _ (by (focus (first | (simp; done) | omega | (simp; omega))))).trans (row_other (by omega) y2.out)
        have x3 : Hid (w2.heap[w.heap.size + 1 + 1 + 1]? = some (.cells (NC (a * (b % 2 ^ (k + 1))) false) 57 (0, 0))) := (hb2.block _ (by (focus (first | (simp; done) | omega | (simp; omega))))).trans (row_heap y3)
        have x4 : w2.heap[w.heap.size + 1 + 1 + 1 + 1]? = some (.cells (NC (a * 2 ^ k) s) 57 (0, 0)) := (hb2.block _ (by (focus (first | (simp; done) | omega | (simp; omega))))).trans (row_other (by omega) y4)
        have xz : w.heap.size + 5 ≤ w2.heap.size := by have := hb2.size; simp at this; omega
        have xB : Below w.heap.size w w2 := Below.trans (by (focus ((repeat' (first | (with_reducible exact Below.refl _ _) | (with_reducible assumption) | (with_reducible refine Below.alloc ?_ ?_ _) | (with_reducible refine Below.setCell ?_ ?_ _) | (with_reducible refine Below.row ?_ ?_ _) | (with_reducible refine Below.drew ?_) | (with_reducible refine below_drewN ?_ _) | (focus (first | (simp; done) | omega | (simp; omega))))); done))) (hb2.mono (by simp; omega))
        clear hb2 y0 y1 y2 y3 y4 yz yB
        go_wp2_with (first | ((with_reducible apply store83); rfl; rfl; rfl; rfl; (focus ((repeat' (first | (with_reducible assumption) | ((with_reducible refine heap_last ?_); (focus (first | (simp; done) | omega | (simp; omega)))) | ((with_reducible refine heap_prev ?_ ?_); (focus (first | (simp; done) | omega | (simp; omega)))) | (with_reducible apply sign_heap) | (with_reducible apply row_heap) | (with_reducible apply bit0_heap) | ((with_reducible refine sign_other ?_ ?_); (focus (first | (simp; done) | omega | (simp; omega)))) | ((with_reducible refine row_other ?_ ?_); (focus (first | (simp; done) | omega | (simp; omega)))) | (with_reducible refine drew_heap ?_))); done)); skip))
        exact ⟨⟨k + 1, by omega, by go_num, row_other (by omega) x0.out, row_other (by omega) x1.out, row_other (by omega) x2.out, row_other (by omega) x3.out, row_heap x4, by simp; omega, by (focus ((repeat' (first | (with_reducible exact Below.refl _ _) | (with_reducible assumption) | (with_reducible refine Below.alloc ?_ ?_ _) | (with_reducible refine Below.setCell ?_ ?_ _) | (with_reducible refine Below.row ?_ ?_ _) | (with_reducible refine Below.drew ?_) | (with_reducible refine below_drewN ?_ _) | (focus (first | (simp; done) | omega | (simp; omega))))); done))⟩, by simp [intOf]; omega⟩
    · obtain rfl : k = 64 := by omega
      have hm3 : a * (b % 2 ^ 64) = m := by rw [Nat.mod_eq_of_lt Hb.out]; exact Hmm.out.symm
      rw [hm3] at h3
      clear hm3
      have c0 : wr.cell? ⟨w.heap.size, 136, none⟩ = some (.bool s) := by rw [cell_of_row wr _ _ _ _ _ h0.out, NC_sign]
      have c1 : wr.cell? ⟨w.heap.size + 1, 136, none⟩ = some (.bool t) := by rw [cell_of_row wr _ _ _ _ _ h1.out, NC_sign]
      have c3 : wr.cell? ⟨w.heap.size + 1 + 1 + 1, 136, none⟩ = some (.bool false) := by rw [cell_of_row wr _ _ _ _ _ h3.out, NC_sign]
      have f3 : wr.frozen? ⟨w.heap.size + 1 + 1 + 1, 136, none⟩ = false := frozen_of_row wr _ _ _ _ h3.out
      have hr := Hr.out
      by_cases hst : s = t
      · obtain rfl : r = false := by rw [hr, hst]; simp
        have e1 : (s != t) = false := by simp [hst]
        have e2 : (s == t) = true := by simp [hst]
        clear hr
        have Hst := Lib.hid hst; clear hst
        have q3 := h3.out
        have q2 := h2.out
        go_wp2_with (first | ((with_reducible apply load83); rfl; rfl; rfl; (focus ((repeat' (first | (with_reducible assumption) | ((with_reducible refine heap_last ?_); (focus (first | (simp; done) | omega | (simp; omega)))) | ((with_reducible refine heap_prev ?_ ?_); (focus (first | (simp; done) | omega | (simp; omega)))) | (with_reducible apply sign_heap) | (with_reducible apply row_heap) | (with_reducible apply bit0_heap) | ((with_reducible refine sign_other ?_ ?_); (focus (first | (simp; done) | omega | (simp; omega)))) | ((with_reducible refine row_other ?_ ?_); (focus (first | (simp; done) | omega | (simp; omega)))) | (with_reducible refine drew_heap ?_))); done)); skip) | (first | ((with_reducible apply store83_0); rfl; rfl; rfl; rfl; (focus (simp; done)); skip) | ((with_reducible apply store83_1); rfl; rfl; rfl; rfl; (focus (simp; done)); skip) | ((with_reducible apply store83_2); rfl; rfl; rfl; rfl; (focus (simp; done)); skip) | ((with_reducible apply store83_3); rfl; rfl; rfl; rfl; (focus (simp; done)); skip) | ((with_reducible apply store83_4); rfl; rfl; rfl; rfl; (focus (simp; done)); skip)) | ((with_reducible apply store83); rfl; rfl; rfl; rfl; (focus ((repeat' (first | (with_reducible assumption) | ((with_reducible refine heap_last ?_); (focus (first | (simp; done) | omega | (simp; omega)))) | ((with_reducible refine heap_prev ?_ ?_); (focus (first | (simp; done) | omega | (simp; omega)))) | (with_reducible apply sign_heap) | (with_reducible apply row_heap) | (with_reducible apply bit0_heap) | ((with_reducible refine sign_other ?_ ?_); (focus (first | (simp; done) | omega | (simp; omega)))) | ((with_reducible refine row_other ?_ ?_); (focus (first | (simp; done) | omega | (simp; omega)))) | (with_reducible refine drew_heap ?_))); done)); skip) | ((with_reducible apply bodyPost_ret); (apply ret83; rfl; rfl; (focus ((repeat' (first | (with_reducible assumption) | ((with_reducible refine heap_last ?_); (focus (first | (simp; done) | omega | (simp; omega)))) | ((with_reducible refine heap_prev ?_ ?_); (focus (first | (simp; done) | omega | (simp; omega)))) | (with_reducible apply sign_heap) | (with_reducible apply row_heap) | (with_reducible apply bit0_heap) | ((with_reducible refine sign_other ?_ ?_); (focus (first | (simp; done) | omega | (simp; omega)))) | ((with_reducible refine row_other ?_ ?_); (focus (first | (simp; done) | omega | (simp; omega)))) | (with_reducible refine drew_heap ?_))); done))); rfl; skip))
        first | exact ⟨rfl, by (focus ((repeat' (first | (with_reducible exact Below.refl _ _) | (with_reducible assumption) | (with_reducible refine Below.alloc ?_ ?_ _) | (with_reducible refine Below.setCell ?_ ?_ _) | (with_reducible refine Below.row ?_ ?_ _) | (with_reducible refine Below.drew ?_) | (with_reducible refine below_drewN ?_ _) | (focus (first | (simp; done) | omega | (simp; omega))))); done))⟩ | (focus ((repeat' (first | (with_reducible exact Below.refl _ _) | (with_reducible assumption) | (with_reducible refine Below.alloc ?_ ?_ _) | (with_reducible refine Below.setCell ?_ ?_ _) | (with_reducible refine Below.row ?_ ?_ _) | (with_reducible refine Below.drew ?_) | (with_reducible refine below_drewN ?_ _) | (focus (first | (simp; done) | omega | (simp; omega))))); done))
      · have e1 : (s != t) = true := by simp [hst]
        have e2 : (s == t) = false := by simp [hst]
        obtain ⟨bz, hbz⟩ : ∃ bz, bz = decide (m = 0) := ⟨_, rfl⟩
        have Hbz := Lib.hid hbz
        obtain rfl : r = !bz := by rw [hr, e1, ← hbz]; rfl
        clear hr hbz
        have Hst := Lib.hid hst; clear hst
        have q3 := h3.out
        go_wp2_with (first | ((with_reducible apply load83); rfl; rfl; rfl; (focus ((repeat' (first | (with_reducible assumption) | ((with_reducible refine heap_last ?_); (focus (first | (simp; done) | omega | (simp; omega)))) | ((with_reducible refine heap_prev ?_ ?_); (focus (first | (simp; done) | omega | (simp; omega)))) | (with_reducible apply sign_heap) | (with_reducible apply row_heap) | (with_reducible apply bit0_heap) | ((with_reducible refine sign_other ?_ ?_); (focus (first | (simp; done) | omega | (simp; omega)))) | ((with_reducible refine row_other ?_ ?_); (focus (first | (simp; done) | omega | (simp; omega)))) | (with_reducible refine drew_heap ?_))); done)); skip))
        ((with_reducible refine (nought_c m _ bz Hm.out Hbz.out _).mono ?_); rintro e w2 ⟨rfl, hb2⟩)
        have x3 : w2.heap[w.heap.size + 1 + 1 + 1]? = some (.cells (NC m false) 57 (0, 0)) := (hb2.block _ (by (focus (first | (simp; done) | omega | (simp; omega))))).trans q3
        have x2 : w2.heap[w.heap.size + 1 + 1]? = some (.cells (NC 0 false) 57 (0, 0)) := (hb2.block _ (by (focus (first | (simp; done) | omega | (simp; omega))))).trans h2.out
        have xz : w.heap.size + 5 ≤ w2.heap.size := by have := hb2.size; omega
        have xB : Below w.heap.size w w2 := hB.trans (hb2.mono (by omega))
        have yc : w2.cell? ⟨w.heap.size + 1 + 1 + 1, 136, none⟩ = some (.bool false) := by rw [cell_of_row _ _ _ _ _ _ x3, NC_sign]
        have yf : w2.frozen? ⟨w.heap.size + 1 + 1 + 1, 136, none⟩ = false := frozen_of_row _ _ _ _ _ x3
        clear hb2 hB z1 h0 h1 h2 h3 h4 q3 c0 c1 c3 f3
        cases bz
        all_goals
          go_wp2_with (first | ((with_reducible apply load83); rfl; rfl; rfl; (focus ((repeat' (first | (with_reducible assumption) | ((with_reducible refine heap_last ?_); (focus (first | (simp; done) | omega | (simp; omega)))) | ((with_reducible refine heap_prev ?_ ?_); (focus (first | (simp; done) | omega | (simp; omega)))) | (with_reducible apply sign_heap) | (with_reducible apply row_heap) | (with_reducible apply bit0_heap) | ((with_reducible refine sign_other ?_ ?_); (focus (first | (simp; done) | omega | (simp; omega)))) | ((with_reducible refine row_other ?_ ?_); (focus (first | (simp; done) | omega | (simp; omega)))) | (with_reducible refine drew_heap ?_))); done)); skip) | (first | ((with_reducible apply store83_0); rfl; rfl; rfl; rfl; (focus (simp; done)); skip) | ((with_reducible apply store83_1); rfl; rfl; rfl; rfl; (focus (simp; done)); skip) | ((with_reducible apply store83_2); rfl; rfl; rfl; rfl; (focus (simp; done)); skip) | ((with_reducible apply store83_3); rfl; rfl; rfl; rfl; (focus (simp; done)); skip) | ((with_reducible apply store83_4); rfl; rfl; rfl; rfl; (focus (simp; done)); skip)) | ((with_reducible apply store83); rfl; rfl; rfl; rfl; (focus ((repeat' (first | (with_reducible assumption) | ((with_reducible refine heap_last ?_); (focus (first | (simp; done) | omega | (simp; omega)))) | ((with_reducible refine heap_prev ?_ ?_); (focus (first | (simp; done) | omega | (simp; omega)))) | (with_reducible apply sign_heap) | (with_reducible apply row_heap) | (with_reducible apply bit0_heap) | ((with_reducible refine sign_other ?_ ?_); (focus (first | (simp; done) | omega | (simp; omega)))) | ((with_reducible refine row_other ?_ ?_); (focus (first | (simp; done) | omega | (simp; omega)))) | (with_reducible refine drew_heap ?_))); done)); skip) | ((with_reducible apply bodyPost_ret); (apply ret83; rfl; rfl; (focus ((repeat' (first | (with_reducible assumption) | ((with_reducible refine heap_last ?_); (focus (first | (simp; done) | omega | (simp; omega)))) | ((with_reducible refine heap_prev ?_ ?_); (focus (first | (simp; done) | omega | (simp; omega)))) | (with_reducible apply sign_heap) | (with_reducible apply row_heap) | (with_reducible apply bit0_heap) | ((with_reducible refine sign_other ?_ ?_); (focus (first | (simp; done) | omega | (simp; omega)))) | ((with_reducible refine row_other ?_ ?_); (focus (first | (simp; done) | omega | (simp; omega)))) | (with_reducible refine drew_heap ?_))); done))); rfl; skip))
          first | exact ⟨rfl, by (focus ((repeat' (first | (with_reducible exact Below.refl _ _) | (with_reducible assumption) | (with_reducible refine Below.alloc ?_ ?_ _) | (with_reducible refine Below.setCell ?_ ?_ _) | (with_reducible refine Below.row ?_ ?_ _) | (with_reducible refine Below.drew ?_) | (with_reducible refine below_drewN ?_ _) | (focus (first | (simp; done) | omega | (simp; omega))))); done))⟩ | (focus ((repeat' (first | (with_reducible exact Below.refl _ _) | (with_reducible assumption) | (with_reducible refine Below.alloc ?_ ?_ _) | (with_reducible refine Below.setCell ?_ ?_ _) | (with_reducible refine Below.row ?_ ?_ _) | (with_reducible refine Below.drew ?_) | (with_reducible refine below_drewN ?_ _) | (focus (first | (simp; done) | omega | (simp; omega))))); done))
end Go.Proofs.Ythpgbghcmfjjoaa
