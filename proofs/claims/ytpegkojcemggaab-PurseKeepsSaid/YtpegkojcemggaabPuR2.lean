/- the reference's purse: put, owe, Free, Totals. -/
import Derived.Test.YtpegkojcemggaabPuG
import Derived.Test.YtpegkojcemggaabPuR1
namespace Go.Proofs.Ytpegkojcemggaab
open Go.RowKit

theorem rmay_yes {k : Nat} {s : Int} (hk : k < 8) (hs : s = 1 ∨ s = 2) (w : World) : Calls Try.prog 24 #[.int .i64 (k : Int), .int .i64 s] w fun e w' => e = .returned (.bool true) ∧ w = w' := by
  have := rmay_c (k : Int) s w
  rwa [decide_eq_true (show May (k : Int) s from ⟨by omega, by omega, hs⟩)] at this
theorem rmay_no {a s : Int} (h : ¬ May a s) (w : World) : Calls Try.prog 24 #[.int .i64 a, .int .i64 s] w fun e w' => e = .returned (.bool false) ∧ w = w' := by
  have := rmay_c a s w
  rwa [decide_eq_false h] at this
theorem loadRu {ops : Array Oper} {rest : List Oper} {o : Oper} {a : Act} {w : World} {Q : Exit → Act → World → Prop} (hgd : Region.wanted o (yielded ops a.tmps) = true) (x : Operand) (ho : o.op = .load 27 x) (g f : Nat) (hx : a.eval x = .pointer (some ⟨g, f, none⟩)) (z : Ti) (t : TypeId)
    (hg : w.heap[g]? = some (.cells (TC z) t (0, 0))) (k : Nat) (hk : k < 8) (hf : f = 6 * k) (h : wpList Try.prog ops Q rest (a.put o.dst (.agg (UC z k))) w) : wpList Try.prog ops Q (o :: rest) a w :=
  BigFrame.wpList_want hgd fun _ hK => wp_load_mid _ x ho g f hx (UL z k) _ (till_purse hg hk hf) Try.underlying27 rfl (infoRu z k) (hK _ _ h)

set_option maxHeartbeats 4000000 in
set_option maxRecDepth 100000 in
theorem rput_cash (z : Ti) (k : Nat) (hk : k < 8) (n m : Int) (h1 : InR (z (6 * k) + n)) (h2 : InR (z (6 * k + 2) + m)) (w : World) :
    Calls Try.prog 41 #[.agg (TC z), .int .i64 (k : Int), .int .i64 1, .int .i64 n, .int .i64 m] w fun e w' => e = .returned (.agg (TC (upd (upd z (6 * k) n) (6 * k + 2) m))) ∧ Below w.heap.size w w' := by
  have hz := zeroR
  have hkI : (k : Int) < 8 := by omega
  have hk0 : (0 : Int) ≤ (k : Int) := by omega
  rw [← put_upd (upd z (6 * k) n), upd_other _ _ _ _ (show 6 * k + 2 ≠ 6 * k by omega), ← put_upd]
  have f1 := TC_get z (show k * 6 < 49 by omega)
  rw [show z (k * 6) = z (6 * k) by rw [Nat.mul_comm]] at f1
  have f2 := TC_get (put z (6 * k) (z (6 * k) + n)) (show k * 6 + 2 < 49 by omega)
  rw [show put z (6 * k) (z (6 * k) + n) (k * 6 + 2) = z (6 * k + 2) by rw [put_other _ _ _ _ (by omega), Nat.mul_comm]] at f2
  unfold InR at h1 h2
  obtain ⟨a1, a2⟩ := h1
  obtain ⟨b1, b2⟩ := h2
  generalize z (6 * k) = v1 at *
  generalize z (6 * k + 2) = v2 at *
  have s1 := TC_set z (6 * k) (v1 + n) (by omega)
  rw [show 6 * k = k * 6 by omega] at s1 f2 ⊢
  have s2 := TC_set (put z (k * 6) (v1 + n)) (6 * k + 2) (v2 + m) (by omega)
  rw [show 6 * k + 2 = k * 6 + 2 by omega] at s2
  go_enter Try.func41, Try.ntmps41
  go_wp2_with (first | ((with_reducible apply loadR); rfl; rfl; rfl; (focus ((repeat' (first | (with_reducible assumption) | ((with_reducible refine heap_last ?_); (focus (first | (simp; done) | omega | (simp; omega)))) | ((with_reducible refine heap_prev ?_ ?_); (focus (first | (simp; done) | omega | (simp; omega)))) | (with_reducible apply row_heap) | ((with_reducible apply till_set); (focus (first | (simp; done) | omega | (simp; omega)))) | ((with_reducible refine sign_other ?_ ?_); (focus (first | (simp; done) | omega | (simp; omega)))) | ((with_reducible refine row_other ?_ ?_); (focus (first | (simp; done) | omega | (simp; omega)))) | (with_reducible refine drew_heap ?_) | (with_reducible refine drewN_heap ?_))); done)); skip) | ((with_reducible apply storeR); rfl; rfl; rfl; rfl; (focus ((repeat' (first | (with_reducible assumption) | ((with_reducible refine heap_last ?_); (focus (first | (simp; done) | omega | (simp; omega)))) | ((with_reducible refine heap_prev ?_ ?_); (focus (first | (simp; done) | omega | (simp; omega)))) | (with_reducible apply row_heap) | ((with_reducible apply till_set); (focus (first | (simp; done) | omega | (simp; omega)))) | ((with_reducible refine sign_other ?_ ?_); (focus (first | (simp; done) | omega | (simp; omega)))) | ((with_reducible refine row_other ?_ ?_); (focus (first | (simp; done) | omega | (simp; omega)))) | (with_reducible refine drew_heap ?_) | (with_reducible refine drewN_heap ?_))); done)); skip))
  ((with_reducible apply bodyPost_ret); (apply retR; rfl; rfl; (focus ((repeat' (first | (with_reducible assumption) | ((with_reducible refine heap_last ?_); (focus (first | (simp; done) | omega | (simp; omega)))) | ((with_reducible refine heap_prev ?_ ?_); (focus (first | (simp; done) | omega | (simp; omega)))) | (with_reducible apply row_heap) | ((with_reducible apply till_set); (focus (first | (simp; done) | omega | (simp; omega)))) | ((with_reducible refine sign_other ?_ ?_); (focus (first | (simp; done) | omega | (simp; omega)))) | ((with_reducible refine row_other ?_ ?_); (focus (first | (simp; done) | omega | (simp; omega)))) | (with_reducible refine drew_heap ?_) | (with_reducible refine drewN_heap ?_))); done))); rfl; skip)
  exact ⟨rfl, by (focus ((repeat' (first | (with_reducible exact Below.refl _ _) | (with_reducible assumption) | (with_reducible refine Below.alloc ?_ ?_ _) | (with_reducible refine Below.setCell ?_ ?_ _) | (with_reducible refine Below.row ?_ ?_ _) | (with_reducible refine Below.drew ?_) | (with_reducible refine below_drewN ?_ _) | (focus (first | (simp; done) | omega | (simp; omega))))); done))⟩

set_option maxHeartbeats 4000000 in
set_option maxRecDepth 100000 in
theorem rput_stock (z : Ti) (k : Nat) (hk : k < 8) (n m : Int) (h1 : InR (z (6 * k + 1) + n)) (h2 : InR (z (6 * k + 3) + m)) (w : World) :
    Calls Try.prog 41 #[.agg (TC z), .int .i64 (k : Int), .int .i64 2, .int .i64 n, .int .i64 m] w fun e w' => e = .returned (.agg (TC (upd (upd z (6 * k + 1) n) (6 * k + 3) m))) ∧ Below w.heap.size w w' := by
  have hz := zeroR
  have hkI : (k : Int) < 8 := by omega
  have hk0 : (0 : Int) ≤ (k : Int) := by omega
  rw [← put_upd (upd z (6 * k + 1) n), upd_other _ _ _ _ (show 6 * k + 3 ≠ 6 * k + 1 by omega), ← put_upd]
  have f1 := TC_get z (show k * 6 + 1 < 49 by omega)
  rw [show z (k * 6 + 1) = z (6 * k + 1) by rw [Nat.mul_comm]] at f1
  have f2 := TC_get (put z (6 * k + 1) (z (6 * k + 1) + n)) (show k * 6 + 3 < 49 by omega)
  rw [show put z (6 * k + 1) (z (6 * k + 1) + n) (k * 6 + 3) = z (6 * k + 3) by rw [put_other _ _ _ _ (by omega), Nat.mul_comm]] at f2
  unfold InR at h1 h2
  obtain ⟨a1, a2⟩ := h1
  obtain ⟨b1, b2⟩ := h2
  generalize z (6 * k + 1) = v1 at *
  generalize z (6 * k + 3) = v2 at *
  have s1 := TC_set z (6 * k + 1) (v1 + n) (by omega)
  rw [show 6 * k + 1 = k * 6 + 1 by omega] at s1 f2 ⊢
  have s2 := TC_set (put z (k * 6 + 1) (v1 + n)) (6 * k + 3) (v2 + m) (by omega)
  rw [show 6 * k + 3 = k * 6 + 3 by omega] at s2 ⊢
  go_enter Try.func41, Try.ntmps41
  go_wp2_with (first | ((with_reducible apply loadR); rfl; rfl; rfl; (focus ((repeat' (first | (with_reducible assumption) | ((with_reducible refine heap_last ?_); (focus (first | (simp; done) | omega | (simp; omega)))) | ((with_reducible refine heap_prev ?_ ?_); (focus (first | (simp; done) | omega | (simp; omega)))) | (with_reducible apply row_heap) | ((with_reducible apply till_set); (focus (first | (simp; done) | omega | (simp; omega)))) | ((with_reducible refine sign_other ?_ ?_); (focus (first | (simp; done) | omega | (simp; omega)))) | ((with_reducible refine row_other ?_ ?_); (focus (first | (simp; done) | omega | (simp; omega)))) | (with_reducible refine drew_heap ?_) | (with_reducible refine drewN_heap ?_))); done)); skip) | ((with_reducible apply storeR); rfl; rfl; rfl; rfl; (focus ((repeat' (first | (with_reducible assumption) | ((with_reducible refine heap_last ?_); (focus (first | (simp; done) | omega | (simp; omega)))) | ((with_reducible refine heap_prev ?_ ?_); (focus (first | (simp; done) | omega | (simp; omega)))) | (with_reducible apply row_heap) | ((with_reducible apply till_set); (focus (first | (simp; done) | omega | (simp; omega)))) | ((with_reducible refine sign_other ?_ ?_); (focus (first | (simp; done) | omega | (simp; omega)))) | ((with_reducible refine row_other ?_ ?_); (focus (first | (simp; done) | omega | (simp; omega)))) | (with_reducible refine drew_heap ?_) | (with_reducible refine drewN_heap ?_))); done)); skip))
  ((with_reducible apply bodyPost_ret); (apply retR; rfl; rfl; (focus ((repeat' (first | (with_reducible assumption) | ((with_reducible refine heap_last ?_); (focus (first | (simp; done) | omega | (simp; omega)))) | ((with_reducible refine heap_prev ?_ ?_); (focus (first | (simp; done) | omega | (simp; omega)))) | (with_reducible apply row_heap) | ((with_reducible apply till_set); (focus (first | (simp; done) | omega | (simp; omega)))) | ((with_reducible refine sign_other ?_ ?_); (focus (first | (simp; done) | omega | (simp; omega)))) | ((with_reducible refine row_other ?_ ?_); (focus (first | (simp; done) | omega | (simp; omega)))) | (with_reducible refine drew_heap ?_) | (with_reducible refine drewN_heap ?_))); done))); rfl; skip)
  exact ⟨rfl, by (focus ((repeat' (first | (with_reducible exact Below.refl _ _) | (with_reducible assumption) | (with_reducible refine Below.alloc ?_ ?_ _) | (with_reducible refine Below.setCell ?_ ?_ _) | (with_reducible refine Below.row ?_ ?_ _) | (with_reducible refine Below.drew ?_) | (with_reducible refine below_drewN ?_ _) | (focus (first | (simp; done) | omega | (simp; omega))))); done))⟩

set_option maxHeartbeats 4000000 in
set_option maxRecDepth 100000 in
theorem rowe_c (z : Ti) (k : Nat) (hk : k < 8) (fee cash : Int) (hf : InR fee) (hc : InR cash) (h4 : InR (z (6 * k + 4))) (h5 : InR (z (6 * k + 5))) (w : World) :
    Calls Try.prog 42 #[.agg (TC z), .int .i64 (k : Int), .int .i64 fee, .int .i64 cash] w fun e w' => e = .returned (.agg (TC (oweN z k fee cash))) ∧ Below w.heap.size w w' := by
  have hz := zeroR
  have hkI : (k : Int) < 8 := by omega
  have hk0 : (0 : Int) ≤ (k : Int) := by omega
  unfold oweN
  have C1 := Lib.hid (refCapped_c (z (6 * k + 4)) fee h4 hf (capN (z (6 * k + 4)) fee) (cap_as _ _))
  have C2 := Lib.hid (refCapped_c (z (6 * k + 5)) cash h5 hc (capN (z (6 * k + 5)) cash) (cap_as _ _))
  have f4 := TC_get z (show k * 6 + 4 < 49 by omega)
  rw [show z (k * 6 + 4) = z (6 * k + 4) by rw [Nat.mul_comm]] at f4
  have f5 := TC_get (put z (6 * k + 4) (capN (z (6 * k + 4)) fee)) (show k * 6 + 5 < 49 by omega)
  rw [show put z (6 * k + 4) (capN (z (6 * k + 4)) fee) (k * 6 + 5) = z (6 * k + 5) by rw [put_other _ _ _ _ (by omega), Nat.mul_comm]] at f5
  generalize z (6 * k + 4) = v4 at *
  generalize z (6 * k + 5) = v5 at *
  generalize capN v4 fee = c4 at *
  generalize capN v5 cash = c5 at *
  have s4 := TC_set z (6 * k + 4) c4 (by omega)
  rw [show 6 * k + 4 = k * 6 + 4 by omega] at s4 f5 ⊢
  have s5 := TC_set (put z (k * 6 + 4) c4) (6 * k + 5) c5 (by omega)
  rw [show 6 * k + 5 = k * 6 + 5 by omega] at s5 ⊢
  clear hf hc h4 h5
  go_enter Try.func42, Try.ntmps42
  go_wp2_with (first | ((with_reducible refine (C1.out _).mono ?_); rintro e w' ⟨rfl, rfl⟩) | ((with_reducible refine (C2.out _).mono ?_); rintro e w' ⟨rfl, rfl⟩) | ((with_reducible apply loadR); rfl; rfl; rfl; (focus ((repeat' (first | (with_reducible assumption) | ((with_reducible refine heap_last ?_); (focus (first | (simp; done) | omega | (simp; omega)))) | ((with_reducible refine heap_prev ?_ ?_); (focus (first | (simp; done) | omega | (simp; omega)))) | (with_reducible apply row_heap) | ((with_reducible apply till_set); (focus (first | (simp; done) | omega | (simp; omega)))) | ((with_reducible refine sign_other ?_ ?_); (focus (first | (simp; done) | omega | (simp; omega)))) | ((with_reducible refine row_other ?_ ?_); (focus (first | (simp; done) | omega | (simp; omega)))) | (with_reducible refine drew_heap ?_) | (with_reducible refine drewN_heap ?_))); done)); skip) | ((with_reducible apply storeR); rfl; rfl; rfl; rfl; (focus ((repeat' (first | (with_reducible assumption) | ((with_reducible refine heap_last ?_); (focus (first | (simp; done) | omega | (simp; omega)))) | ((with_reducible refine heap_prev ?_ ?_); (focus (first | (simp; done) | omega | (simp; omega)))) | (with_reducible apply row_heap) | ((with_reducible apply till_set); (focus (first | (simp; done) | omega | (simp; omega)))) | ((with_reducible refine sign_other ?_ ?_); (focus (first | (simp; done) | omega | (simp; omega)))) | ((with_reducible refine row_other ?_ ?_); (focus (first | (simp; done) | omega | (simp; omega)))) | (with_reducible refine drew_heap ?_) | (with_reducible refine drewN_heap ?_))); done)); skip))
  ((with_reducible apply bodyPost_ret); (apply retR; rfl; rfl; (focus ((repeat' (first | (with_reducible assumption) | ((with_reducible refine heap_last ?_); (focus (first | (simp; done) | omega | (simp; omega)))) | ((with_reducible refine heap_prev ?_ ?_); (focus (first | (simp; done) | omega | (simp; omega)))) | (with_reducible apply row_heap) | ((with_reducible apply till_set); (focus (first | (simp; done) | omega | (simp; omega)))) | ((with_reducible refine sign_other ?_ ?_); (focus (first | (simp; done) | omega | (simp; omega)))) | ((with_reducible refine row_other ?_ ?_); (focus (first | (simp; done) | omega | (simp; omega)))) | (with_reducible refine drew_heap ?_) | (with_reducible refine drewN_heap ?_))); done))); rfl; skip)
  exact ⟨rfl, by (focus ((repeat' (first | (with_reducible exact Below.refl _ _) | (with_reducible assumption) | (with_reducible refine Below.alloc ?_ ?_ _) | (with_reducible refine Below.setCell ?_ ?_ _) | (with_reducible refine Below.row ?_ ?_ _) | (with_reducible refine Below.drew ?_) | (with_reducible refine below_drewN ?_ _) | (focus (first | (simp; done) | omega | (simp; omega))))); done))⟩


set_option maxHeartbeats 4000000 in
set_option maxRecDepth 100000 in
theorem rfree_no (z : Ti) (a s : Int) (h : ¬ May a s) (w : World) :
    Calls Try.prog 13 #[.agg (TC z), .int .i64 a, .int .i64 s] w fun e w' => e = .returned (.int .i64 0) ∧ Below w.heap.size w w' := by
  have HK := Lib.hid (rmay_no h)
  clear h
  go_enter Try.func13, Try.ntmps13
  go_wp2_with ((with_reducible refine (HK.out _).mono ?_); rintro e w' ⟨rfl, rfl⟩)
  go_ret
  exact ⟨rfl, by (focus ((repeat' (first | (with_reducible exact Below.refl _ _) | (with_reducible assumption) | (with_reducible refine Below.alloc ?_ ?_ _) | (with_reducible refine Below.setCell ?_ ?_ _) | (with_reducible refine Below.row ?_ ?_ _) | (with_reducible refine Below.drew ?_) | (with_reducible refine below_drewN ?_ _) | (focus (first | (simp; done) | omega | (simp; omega))))); done))⟩

set_option maxHeartbeats 4000000 in
set_option maxRecDepth 100000 in
theorem rfree_cash (z : Ti) (g : Good z) (k : Nat) (hk : k < 8) (w : World) :
    Calls Try.prog 13 #[.agg (TC z), .int .i64 (k : Int), .int .i64 1] w fun e w' => e = .returned (.int .i64 (z (6 * k) - z (6 * k + 2))) ∧ Below w.heap.size w w' := by
  have HK := Lib.hid (rmay_yes (s := 1) hk (by omega))
  obtain ⟨p0, p1, p2, p3, p4, p5, p6, p7⟩ := g.1 k hk
  have ⟨q1, q2⟩ : -9223372036854775808 ≤ z (6 * k) - z (6 * k + 2) ∧ z (6 * k) - z (6 * k + 2) ≤ 9223372036854775807 := by unfold Mny at *; omega
  have hkI : (k : Int) < 8 := by omega
  have hk0 : (0 : Int) ≤ (k : Int) := by omega
  clear g p0 p1 p2 p3 p4 p5 p6 p7
  go_enter Try.func13, Try.ntmps13
  go_wp2_with (first | ((with_reducible refine (HK.out _).mono ?_); rintro e w' ⟨rfl, rfl⟩) | ((with_reducible apply loadRu (k := k)); rfl; rfl; rfl; (focus ((repeat' (first | (with_reducible assumption) | ((with_reducible refine heap_last ?_); (focus (first | (simp; done) | omega | (simp; omega)))) | ((with_reducible refine heap_prev ?_ ?_); (focus (first | (simp; done) | omega | (simp; omega)))) | (with_reducible apply row_heap) | ((with_reducible apply till_set); (focus (first | (simp; done) | omega | (simp; omega)))) | ((with_reducible refine sign_other ?_ ?_); (focus (first | (simp; done) | omega | (simp; omega)))) | ((with_reducible refine row_other ?_ ?_); (focus (first | (simp; done) | omega | (simp; omega)))) | (with_reducible refine drew_heap ?_) | (with_reducible refine drewN_heap ?_))); done)); exact hk; omega; skip))
  go_ret
  exact ⟨rfl, by (focus ((repeat' (first | (with_reducible exact Below.refl _ _) | (with_reducible assumption) | (with_reducible refine Below.alloc ?_ ?_ _) | (with_reducible refine Below.setCell ?_ ?_ _) | (with_reducible refine Below.row ?_ ?_ _) | (with_reducible refine Below.drew ?_) | (with_reducible refine below_drewN ?_ _) | (focus (first | (simp; done) | omega | (simp; omega))))); done))⟩

set_option maxHeartbeats 4000000 in
set_option maxRecDepth 100000 in
theorem rfree_stock (z : Ti) (g : Good z) (k : Nat) (hk : k < 8) (w : World) :
    Calls Try.prog 13 #[.agg (TC z), .int .i64 (k : Int), .int .i64 2] w fun e w' => e = .returned (.int .i64 (z (6 * k + 1) - z (6 * k + 3))) ∧ Below w.heap.size w w' := by
  have HK := Lib.hid (rmay_yes (s := 2) hk (by omega))
  obtain ⟨p0, p1, p2, p3, p4, p5, p6, p7⟩ := g.1 k hk
  have ⟨q1, q2⟩ : -9223372036854775808 ≤ z (6 * k + 1) - z (6 * k + 3) ∧ z (6 * k + 1) - z (6 * k + 3) ≤ 9223372036854775807 := by unfold Mny at *; omega
  have hkI : (k : Int) < 8 := by omega
  have hk0 : (0 : Int) ≤ (k : Int) := by omega
  clear g p0 p1 p2 p3 p4 p5 p6 p7
  go_enter Try.func13, Try.ntmps13
  go_wp2_with (first | ((with_reducible refine (HK.out _).mono ?_); rintro e w' ⟨rfl, rfl⟩) | ((with_reducible apply loadRu (k := k)); rfl; rfl; rfl; (focus ((repeat' (first | (with_reducible assumption) | ((with_reducible refine heap_last ?_); (focus (first | (simp; done) | omega | (simp; omega)))) | ((with_reducible refine heap_prev ?_ ?_); (focus (first | (simp; done) | omega | (simp; omega)))) | (with_reducible apply row_heap) | ((with_reducible apply till_set); (focus (first | (simp; done) | omega | (simp; omega)))) | ((with_reducible refine sign_other ?_ ?_); (focus (first | (simp; done) | omega | (simp; omega)))) | ((with_reducible refine row_other ?_ ?_); (focus (first | (simp; done) | omega | (simp; omega)))) | (with_reducible refine drew_heap ?_) | (with_reducible refine drewN_heap ?_))); done)); exact hk; omega; skip))
  go_ret
  exact ⟨rfl, by (focus ((repeat' (first | (with_reducible exact Below.refl _ _) | (with_reducible assumption) | (with_reducible refine Below.alloc ?_ ?_ _) | (with_reducible refine Below.setCell ?_ ?_ _) | (with_reducible refine Below.row ?_ ?_ _) | (with_reducible refine Below.drew ?_) | (with_reducible refine below_drewN ?_ _) | (focus (first | (simp; done) | omega | (simp; omega))))); done))⟩

set_option maxHeartbeats 4000000 in
set_option maxRecDepth 100000 in
theorem rtotals_c (z : Ti) (hin : ∀ k, k < 49 → InR (z k)) (w : World) :
    Calls Try.prog 11 #[.agg (TC z)] w fun e w' => e = .returned (.tuple #[.int .i64 (tv (cashS z)), .int .i64 (tv (stockS z))]) ∧ Below w.heap.size w w' := by
  have H1 := fun w => rall_cash z hin 0 (by unfold InR; omega) w
  have H2 := fun w => rall_stock z hin 0 (by unfold InR; omega) w
  rw [Int.add_zero] at H1 H2
  replace H1 := Lib.hid H1
  replace H2 := Lib.hid H2
  clear hin
  go_enter Try.func11, Try.ntmps11
  go_wp2_with (first | ((with_reducible apply loadR); rfl; rfl; rfl; (focus ((repeat' (first | (with_reducible assumption) | ((with_reducible refine heap_last ?_); (focus (first | (simp; done) | omega | (simp; omega)))) | ((with_reducible refine heap_prev ?_ ?_); (focus (first | (simp; done) | omega | (simp; omega)))) | (with_reducible apply row_heap) | ((with_reducible apply till_set); (focus (first | (simp; done) | omega | (simp; omega)))) | ((with_reducible refine sign_other ?_ ?_); (focus (first | (simp; done) | omega | (simp; omega)))) | ((with_reducible refine row_other ?_ ?_); (focus (first | (simp; done) | omega | (simp; omega)))) | (with_reducible refine drew_heap ?_) | (with_reducible refine drewN_heap ?_))); done)); skip))
  ((with_reducible refine (H1.out _).mono ?_); rintro e w1 ⟨rfl, b1⟩)
  have t1_0 : w1.heap[w.heap.size]? = some (.cells (TC z) 30 (0, 0)) := by rw [b1.block _ (by (focus (first | (simp; done) | omega | (simp; omega))))]; (focus ((repeat' (first | (with_reducible assumption) | ((with_reducible refine heap_last ?_); (focus (first | (simp; done) | omega | (simp; omega)))) | ((with_reducible refine heap_prev ?_ ?_); (focus (first | (simp; done) | omega | (simp; omega)))) | (with_reducible apply row_heap) | ((with_reducible apply till_set); (focus (first | (simp; done) | omega | (simp; omega)))) | ((with_reducible refine sign_other ?_ ?_); (focus (first | (simp; done) | omega | (simp; omega)))) | ((with_reducible refine row_other ?_ ?_); (focus (first | (simp; done) | omega | (simp; omega)))) | (with_reducible refine drew_heap ?_) | (with_reducible refine drewN_heap ?_))); done))
  have z1 : w.heap.size + 1 ≤ w1.heap.size := by have := b1.size; (try simp at this); omega
  have B1 : Below w.heap.size w w1 := Below.trans (by (focus ((repeat' (first | (with_reducible exact Below.refl _ _) | (with_reducible assumption) | (with_reducible refine Below.alloc ?_ ?_ _) | (with_reducible refine Below.setCell ?_ ?_ _) | (with_reducible refine Below.row ?_ ?_ _) | (with_reducible refine Below.drew ?_) | (with_reducible refine below_drewN ?_ _) | (focus (first | (simp; done) | omega | (simp; omega))))); done))) (b1.mono (by (focus (first | (simp; done) | omega | (simp; omega)))))
  clear b1
  go_wp2_with (first | ((with_reducible apply loadR); rfl; rfl; rfl; (focus ((repeat' (first | (with_reducible assumption) | ((with_reducible refine heap_last ?_); (focus (first | (simp; done) | omega | (simp; omega)))) | ((with_reducible refine heap_prev ?_ ?_); (focus (first | (simp; done) | omega | (simp; omega)))) | (with_reducible apply row_heap) | ((with_reducible apply till_set); (focus (first | (simp; done) | omega | (simp; omega)))) | ((with_reducible refine sign_other ?_ ?_); (focus (first | (simp; done) | omega | (simp; omega)))) | ((with_reducible refine row_other ?_ ?_); (focus (first | (simp; done) | omega | (simp; omega)))) | (with_reducible refine drew_heap ?_) | (with_reducible refine drewN_heap ?_))); done)); skip))
  ((with_reducible refine (H2.out _).mono ?_); rintro e w2 ⟨rfl, b2⟩)
  have t2_0 : w2.heap[w.heap.size]? = some (.cells (TC z) 30 (0, 0)) := by rw [b2.block _ (by (focus (first | (simp; done) | omega | (simp; omega))))]; (focus ((repeat' (first | (with_reducible assumption) | ((with_reducible refine heap_last ?_); (focus (first | (simp; done) | omega | (simp; omega)))) | ((with_reducible refine heap_prev ?_ ?_); (focus (first | (simp; done) | omega | (simp; omega)))) | (with_reducible apply row_heap) | ((with_reducible apply till_set); (focus (first | (simp; done) | omega | (simp; omega)))) | ((with_reducible refine sign_other ?_ ?_); (focus (first | (simp; done) | omega | (simp; omega)))) | ((with_reducible refine row_other ?_ ?_); (focus (first | (simp; done) | omega | (simp; omega)))) | (with_reducible refine drew_heap ?_) | (with_reducible refine drewN_heap ?_))); done))
  have z2 : w.heap.size + 1 ≤ w2.heap.size := by have := b2.size; (try simp at this); omega
  have B2 : Below w.heap.size w w2 := Below.trans (by (focus ((repeat' (first | (with_reducible exact Below.refl _ _) | (with_reducible assumption) | (with_reducible refine Below.alloc ?_ ?_ _) | (with_reducible refine Below.setCell ?_ ?_ _) | (with_reducible refine Below.row ?_ ?_ _) | (with_reducible refine Below.drew ?_) | (with_reducible refine below_drewN ?_ _) | (focus (first | (simp; done) | omega | (simp; omega))))); done))) (b2.mono (by (focus (first | (simp; done) | omega | (simp; omega)))))
  clear b2
  clear B1 z1 t1_0
  go_wp2_with fail
  go_ret2
  exact ⟨rfl, B2⟩
end Go.Proofs.Ytpegkojcemggaab
