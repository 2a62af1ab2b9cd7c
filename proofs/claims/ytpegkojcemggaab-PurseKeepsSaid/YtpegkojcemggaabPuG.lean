/- purse: may, charged, Totals. -/
import Derived.Test.YtpegkojcemggaabPuD
namespace Go.Proofs.Ytpegkojcemggaab
open Go.RowKit

/-- A deal's cells. -/
abbrev DC (d : Dl) : Array Value := #[.int .i64 d.b, .int .i64 d.s, .int .i64 d.cash, .int .i64 d.stock, .int .i64 d.hc, .int .i64 d.hs, .int .i64 d.bf, .int .i64 d.sf]
def Dl.six (d : Dl) : List Int := [d.cash, d.stock, d.hc, d.hs, d.bf, d.sf]
def Dl.inr (d : Dl) : Prop := InR d.cash ∧ InR d.stock ∧ InR d.hc ∧ InR d.hs ∧ InR d.bf ∧ InR d.sf
theorem six_sli {w : World} {b : Nat} {t : TypeId} {c0 c1 c2 c3 c4 c5 : Int} (hg : w.heap[b]? = some (.cells #[.int .i64 c0, .int .i64 c1, .int .i64 c2, .int .i64 c3, .int .i64 c4, .int .i64 c5] t (0, 0)))
    (h : InR c0 ∧ InR c1 ∧ InR c2 ∧ InR c3 ∧ InR c4 ∧ InR c5) : SlI w (some ⟨b, 0, none⟩) 6 [c0, c1, c2, c3, c4, c5] := by
  obtain ⟨h0, h1, h2, h3, h4, h5⟩ := h
  refine ⟨rfl, fun x hx => ?_, .inr ⟨b, 0, rfl, fun i hi => ?_⟩⟩
  · simp only [List.mem_cons, List.not_mem_nil, or_false] at hx
    rcases hx with rfl | rfl | rfl | rfl | rfl | rfl <;> assumption
  · rw [cell_of_row _ _ _ _ _ _ hg]
    have e : i = 0 ∨ i = 1 ∨ i = 2 ∨ i = 3 ∨ i = 4 ∨ i = 5 := by omega
    rcases e with rfl | rfl | rfl | rfl | rfl | rfl <;> rfl
theorem money6 {c0 c1 c2 c3 c4 c5 : Int} (h : InR c0 ∧ InR c1 ∧ InR c2 ∧ InR c3 ∧ InR c4 ∧ InR c5) (b : Nat) (w : World) (hg : w.heap[b]? = some (.cells #[.int .i64 c0, .int .i64 c1, .int .i64 c2, .int .i64 c3, .int .i64 c4, .int .i64 c5] 2 (0, 0))) :
    Calls Try.prog 15 #[.slice (some ⟨b, 0, none⟩) 6 6] w fun e w' => e = .returned (.bool ([c0, c1, c2, c3, c4, c5].all mnyB)) ∧ w = w' :=
  money_c _ 6 6 _ w (six_sli hg h) (by omega)
theorem six_all {c0 c1 c2 c3 c4 c5 : Int} : [c0, c1, c2, c3, c4, c5].all mnyB = decide (Mny c0 ∧ Mny c1 ∧ Mny c2 ∧ Mny c3 ∧ Mny c4 ∧ Mny c5) := by
  simp [mnyB]

set_option maxHeartbeats 4000000 in
set_option maxRecDepth 100000 in
theorem dmay_c (d : Dl) (hd : d.inr) (w : World) :
    Calls Try.prog 38 #[.agg (DC d)] w fun e w' => e = .returned (.bool (decide d.may)) ∧ Below w.heap.size w w' := by
  obtain ⟨b, s, c, st, hc, hs, bf, sf⟩ := d
  have H1 := Lib.hid (there_c b)
  have H2 := Lib.hid (there_c s)
  have HM := Lib.hid (fun g w hg => money6 hd g w hg)
  by_cases h1 : There b
  rotate_left
  · have dd : Hid (decide (Dl.may ⟨b, s, c, st, hc, hs, bf, sf⟩) = false) := by show _ = _; exact decide_eq_false fun h => h1 h.1
    rw [decide_eq_false h1] at H1
    clear h1 hd
    go_enter Try.func38, Try.ntmps38
    go_wp2_with ((with_reducible refine (H1.out _).mono ?_); rintro e w' ⟨rfl, rfl⟩)
    go_ret
    rw [dd.out]; exact ⟨rfl, by (focus ((repeat' (first | (with_reducible exact Below.refl _ _) | (with_reducible assumption) | (with_reducible refine Below.alloc ?_ ?_ _) | (with_reducible refine Below.setCell ?_ ?_ _) | (with_reducible refine Below.row ?_ ?_ _) | (with_reducible refine Below.drew ?_) | (with_reducible refine below_drewN ?_ _) | (focus (first | (simp; done) | omega | (simp; omega))))); done))⟩
  rw [decide_eq_true h1] at H1
  by_cases h2 : There s
  rotate_left
  · have dd : Hid (decide (Dl.may ⟨b, s, c, st, hc, hs, bf, sf⟩) = false) := by show _ = _; exact decide_eq_false fun h => h2 h.2.1
    rw [decide_eq_false h2] at H2
    clear h1 h2 hd
    go_enter Try.func38, Try.ntmps38
    go_wp2_with (first | ((with_reducible refine (H1.out _).mono ?_); rintro e w' ⟨rfl, rfl⟩) | ((with_reducible refine (H2.out _).mono ?_); rintro e w' ⟨rfl, rfl⟩))
    go_ret
    rw [dd.out]; exact ⟨rfl, by (focus ((repeat' (first | (with_reducible exact Below.refl _ _) | (with_reducible assumption) | (with_reducible refine Below.alloc ?_ ?_ _) | (with_reducible refine Below.setCell ?_ ?_ _) | (with_reducible refine Below.row ?_ ?_ _) | (with_reducible refine Below.drew ?_) | (with_reducible refine below_drewN ?_ _) | (focus (first | (simp; done) | omega | (simp; omega))))); done))⟩
  rw [decide_eq_true h2] at H2
  have dd : Hid (decide (Dl.may ⟨b, s, c, st, hc, hs, bf, sf⟩) = [c, st, hc, hs, bf, sf].all mnyB) := by
    show _ = _
    rw [six_all]; exact decide_eq_decide.2 ⟨fun h => h.2.2, fun h => ⟨h1, h2, h⟩⟩
  generalize [c, st, hc, hs, bf, sf].all mnyB = r at *
  clear h1 h2 hd
  go_enter Try.func38, Try.ntmps38
  go_wp2_with (first | ((with_reducible refine (H1.out _).mono ?_); rintro e w' ⟨rfl, rfl⟩) | ((with_reducible refine (H2.out _).mono ?_); rintro e w' ⟨rfl, rfl⟩) | ((with_reducible refine (HM.out _ _ ?_).mono ?_); (focus ((repeat' (first | (with_reducible assumption) | ((with_reducible refine heap_last ?_); (focus (first | (simp; done) | omega | (simp; omega)))) | ((with_reducible refine heap_prev ?_ ?_); (focus (first | (simp; done) | omega | (simp; omega)))) | (with_reducible apply row_heap) | ((with_reducible apply till_set); (focus (first | (simp; done) | omega | (simp; omega)))) | ((with_reducible refine sign_other ?_ ?_); (focus (first | (simp; done) | omega | (simp; omega)))) | ((with_reducible refine row_other ?_ ?_); (focus (first | (simp; done) | omega | (simp; omega)))) | (with_reducible refine drew_heap ?_) | (with_reducible refine drewN_heap ?_))); done)); rintro e w' ⟨rfl, rfl⟩))
  go_ret
  rw [dd.out]; exact ⟨rfl, by (focus ((repeat' (first | (with_reducible exact Below.refl _ _) | (with_reducible assumption) | (with_reducible refine Below.alloc ?_ ?_ _) | (with_reducible refine Below.setCell ?_ ?_ _) | (with_reducible refine Below.row ?_ ?_ _) | (with_reducible refine Below.drew ?_) | (with_reducible refine below_drewN ?_ _) | (focus (first | (simp; done) | omega | (simp; omega))))); done))⟩

theorem cap_as (a b : Int) : capN a b = if a < 0 ∨ b < 0 ∨ 4611686018427387904 < a ∨ 4611686018427387904 < b then 0 else if 4611686018427387904 < a + b then 4611686018427387904 else a + b := by
  unfold capN
  by_cases h : a < 0 ∨ b < 0 ∨ 4611686018427387904 < a ∨ 4611686018427387904 < b
  · rw [if_pos h, if_pos h]
  · rw [if_neg h, if_neg h]
    by_cases h2 : 4611686018427387904 < a + b
    · rw [if_pos h2, if_pos (by omega)]
    · rw [if_neg h2, if_neg (by omega)]

set_option maxHeartbeats 4000000 in
set_option maxRecDepth 100000 in
theorem charged_c (z : Ti) (k : Nat) (hk : k < 8) (fee cash : Int) (hf : InR fee) (hc : InR cash) (h4 : InR (z (6 * k + 4))) (h5 : InR (z (6 * k + 5))) (w : World) :
    Calls Try.prog 39 #[.agg (TC z), .int .i64 (k : Int), .int .i64 fee, .int .i64 cash] w fun e w' => e = .returned (.agg (TC (oweN z k fee cash))) ∧ Below w.heap.size w w' := by
  have hz := zeroP
  have hkI : (k : Int) < 8 := by omega
  have hk0 : (0 : Int) ≤ (k : Int) := by omega
  unfold oweN
  have C1 := Lib.hid (Capped_c (z (6 * k + 4)) fee h4 hf (capN (z (6 * k + 4)) fee) (cap_as _ _))
  have C2 := Lib.hid (Capped_c (z (6 * k + 5)) cash h5 hc (capN (z (6 * k + 5)) cash) (cap_as _ _))
  have f4 := TC_get z (show k * 6 + 4 < 49 by omega)
  rw [show z (k * 6 + 4) = z (6 * k + 4) by rw [Nat.mul_comm]] at f4
  have f5 := TC_get (put z (6 * k + 4) (capN (z (6 * k + 4)) fee)) (show k * 6 + 5 < 49 by omega)
  rw [show put z (6 * k + 4) (capN (z (6 * k + 4)) fee) (k * 6 + 5) = z (6 * k + 5) by rw [put_other _ _ _ _ (by omega), Nat.mul_comm]] at f5
  generalize z (6 * k + 4) = v4 at *
  generalize z (6 * k + 5) = v5 at *
  generalize capN v4 fee = c4 at *
  generalize capN v5 cash = c5 at *
  have s4 := TC_set z (6 * k + 4) c4 (by omega)
  rw [show 6 * k + 4 = k * 6 + 4 by omega] at s4 f5 ⊢
  have s5 := TC_set (put z (k * 6 + 4) c4) (6 * k + 5) c5 (by omega)
  rw [show 6 * k + 5 = k * 6 + 5 by omega] at s5 ⊢
  clear hf hc h4 h5
  go_enter Try.func39, Try.ntmps39
  go_wp2_with (first | ((with_reducible refine (C1.out _).mono ?_); rintro e w' ⟨rfl, rfl⟩) | ((with_reducible refine (C2.out _).mono ?_); rintro e w' ⟨rfl, rfl⟩) | ((with_reducible apply loadP); rfl; rfl; rfl; (focus ((repeat' (first | (with_reducible assumption) | ((with_reducible refine heap_last ?_); (focus (first | (simp; done) | omega | (simp; omega)))) | ((with_reducible refine heap_prev ?_ ?_); (focus (first | (simp; done) | omega | (simp; omega)))) | (with_reducible apply row_heap) | ((with_reducible apply till_set); (focus (first | (simp; done) | omega | (simp; omega)))) | ((with_reducible refine sign_other ?_ ?_); (focus (first | (simp; done) | omega | (simp; omega)))) | ((with_reducible refine row_other ?_ ?_); (focus (first | (simp; done) | omega | (simp; omega)))) | (with_reducible refine drew_heap ?_) | (with_reducible refine drewN_heap ?_))); done)); skip) | ((with_reducible apply storeP); rfl; rfl; rfl; rfl; (focus ((repeat' (first | (with_reducible assumption) | ((with_reducible refine heap_last ?_); (focus (first | (simp; done) | omega | (simp; omega)))) | ((with_reducible refine heap_prev ?_ ?_); (focus (first | (simp; done) | omega | (simp; omega)))) | (with_reducible apply row_heap) | ((with_reducible apply till_set); (focus (first | (simp; done) | omega | (simp; omega)))) | ((with_reducible refine sign_other ?_ ?_); (focus (first | (simp; done) | omega | (simp; omega)))) | ((with_reducible refine row_other ?_ ?_); (focus (first | (simp; done) | omega | (simp; omega)))) | (with_reducible refine drew_heap ?_) | (with_reducible refine drewN_heap ?_))); done)); skip))
  ((with_reducible apply bodyPost_ret); (apply retP; rfl; rfl; (focus ((repeat' (first | (with_reducible assumption) | ((with_reducible refine heap_last ?_); (focus (first | (simp; done) | omega | (simp; omega)))) | ((with_reducible refine heap_prev ?_ ?_); (focus (first | (simp; done) | omega | (simp; omega)))) | (with_reducible apply row_heap) | ((with_reducible apply till_set); (focus (first | (simp; done) | omega | (simp; omega)))) | ((with_reducible refine sign_other ?_ ?_); (focus (first | (simp; done) | omega | (simp; omega)))) | ((with_reducible refine row_other ?_ ?_); (focus (first | (simp; done) | omega | (simp; omega)))) | (with_reducible refine drew_heap ?_) | (with_reducible refine drewN_heap ?_))); done))); rfl; skip)
  exact ⟨rfl, by (focus ((repeat' (first | (with_reducible exact Below.refl _ _) | (with_reducible assumption) | (with_reducible refine Below.alloc ?_ ?_ _) | (with_reducible refine Below.setCell ?_ ?_ _) | (with_reducible refine Below.row ?_ ?_ _) | (with_reducible refine Below.drew ?_) | (with_reducible refine below_drewN ?_ _) | (focus (first | (simp; done) | omega | (simp; omega))))); done))⟩

set_option maxHeartbeats 4000000 in
set_option maxRecDepth 100000 in
theorem totals_c (z : Ti) (hin : ∀ k, k < 49 → InR (z k)) (w : World) :
    Calls Try.prog 10 #[.agg (TC z)] w fun e w' => e = .returned (.tuple #[.int .i64 (tv (cashS z)), .int .i64 (tv (stockS z))]) ∧ Below w.heap.size w w' := by
  have H1 := Lib.hid (all_cash z hin)
  have H2 := Lib.hid (all_stock z hin)
  clear hin
  go_enter Try.func10, Try.ntmps10
  go_wp2_with (first | ((with_reducible apply loadP); rfl; rfl; rfl; (focus ((repeat' (first | (with_reducible assumption) | ((with_reducible refine heap_last ?_); (focus (first | (simp; done) | omega | (simp; omega)))) | ((with_reducible refine heap_prev ?_ ?_); (focus (first | (simp; done) | omega | (simp; omega)))) | (with_reducible apply row_heap) | ((with_reducible apply till_set); (focus (first | (simp; done) | omega | (simp; omega)))) | ((with_reducible refine sign_other ?_ ?_); (focus (first | (simp; done) | omega | (simp; omega)))) | ((with_reducible refine row_other ?_ ?_); (focus (first | (simp; done) | omega | (simp; omega)))) | (with_reducible refine drew_heap ?_) | (with_reducible refine drewN_heap ?_))); done)); skip))
  ((with_reducible refine (H1.out _).mono ?_); rintro e w1 ⟨rfl, b1⟩)
  have t1_0 : w1.heap[w.heap.size]? = some (.cells (TC z) 26 (0, 0)) := by rw [b1.block _ (by (focus (first | (simp; done) | omega | (simp; omega))))]; (focus ((repeat' (first | (with_reducible assumption) | ((with_reducible refine heap_last ?_); (focus (first | (simp; done) | omega | (simp; omega)))) | ((with_reducible refine heap_prev ?_ ?_); (focus (first | (simp; done) | omega | (simp; omega)))) | (with_reducible apply row_heap) | ((with_reducible apply till_set); (focus (first | (simp; done) | omega | (simp; omega)))) | ((with_reducible refine sign_other ?_ ?_); (focus (first | (simp; done) | omega | (simp; omega)))) | ((with_reducible refine row_other ?_ ?_); (focus (first | (simp; done) | omega | (simp; omega)))) | (with_reducible refine drew_heap ?_) | (with_reducible refine drewN_heap ?_))); done))
  have z1 : w.heap.size + 1 ≤ w1.heap.size := by have := b1.size; (try simp at this); omega
  have B1 : Below w.heap.size w w1 := Below.trans (by (focus ((repeat' (first | (with_reducible exact Below.refl _ _) | (with_reducible assumption) | (with_reducible refine Below.alloc ?_ ?_ _) | (with_reducible refine Below.setCell ?_ ?_ _) | (with_reducible refine Below.row ?_ ?_ _) | (with_reducible refine Below.drew ?_) | (with_reducible refine below_drewN ?_ _) | (focus (first | (simp; done) | omega | (simp; omega))))); done))) (b1.mono (by (focus (first | (simp; done) | omega | (simp; omega)))))
  clear b1
  go_wp2_with (first | ((with_reducible apply loadP); rfl; rfl; rfl; (focus ((repeat' (first | (with_reducible assumption) | ((with_reducible refine heap_last ?_); (focus (first | (simp; done) | omega | (simp; omega)))) | ((with_reducible refine heap_prev ?_ ?_); (focus (first | (simp; done) | omega | (simp; omega)))) | (with_reducible apply row_heap) | ((with_reducible apply till_set); (focus (first | (simp; done) | omega | (simp; omega)))) | ((with_reducible refine sign_other ?_ ?_); (focus (first | (simp; done) | omega | (simp; omega)))) | ((with_reducible refine row_other ?_ ?_); (focus (first | (simp; done) | omega | (simp; omega)))) | (with_reducible refine drew_heap ?_) | (with_reducible refine drewN_heap ?_))); done)); skip))
  ((with_reducible refine (H2.out _).mono ?_); rintro e w2 ⟨rfl, b2⟩)
  have t2_0 : w2.heap[w.heap.size]? = some (.cells (TC z) 26 (0, 0)) := by rw [b2.block _ (by (focus (first | (simp; done) | omega | (simp; omega))))]; (focus ((repeat' (first | (with_reducible assumption) | ((with_reducible refine heap_last ?_); (focus (first | (simp; done) | omega | (simp; omega)))) | ((with_reducible refine heap_prev ?_ ?_); (focus (first | (simp; done) | omega | (simp; omega)))) | (with_reducible apply row_heap) | ((with_reducible apply till_set); (focus (first | (simp; done) | omega | (simp; omega)))) | ((with_reducible refine sign_other ?_ ?_); (focus (first | (simp; done) | omega | (simp; omega)))) | ((with_reducible refine row_other ?_ ?_); (focus (first | (simp; done) | omega | (simp; omega)))) | (with_reducible refine drew_heap ?_) | (with_reducible refine drewN_heap ?_))); done))
  have z2 : w.heap.size + 1 ≤ w2.heap.size := by have := b2.size; (try simp at this); omega
  have B2 : Below w.heap.size w w2 := Below.trans (by (focus ((repeat' (first | (with_reducible exact Below.refl _ _) | (with_reducible assumption) | (with_reducible refine Below.alloc ?_ ?_ _) | (with_reducible refine Below.setCell ?_ ?_ _) | (with_reducible refine Below.row ?_ ?_ _) | (with_reducible refine Below.drew ?_) | (with_reducible refine below_drewN ?_ _) | (focus (first | (simp; done) | omega | (simp; omega))))); done))) (b2.mono (by (focus (first | (simp; done) | omega | (simp; omega)))))
  clear b2
  clear B1 z1 t1_0
  go_wp2_with fail
  go_ret2
  exact ⟨rfl, B2⟩
end Go.Proofs.Ytpegkojcemggaab
