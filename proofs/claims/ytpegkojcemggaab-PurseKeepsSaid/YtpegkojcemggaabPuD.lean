/- purse: Free, Deposit, Withdraw, Hold, Release. -/
import Derived.Test.YtpegkojcemggaabPuA
import Derived.Test.YtpegkojcemggaabPuC
namespace Go.Proofs.Ytpegkojcemggaab
open Go.RowKit

theorem mny_in {n : Int} (h : Mny n) : InR n := by unfold Mny at h; unfold InR; omega
theorem good_inr {z : Ti} (g : Good z) : ∀ k, k < 49 → InR (z k) := fun _ hk => mny_in (good_in g hk)
theorem cash_nn {z : Ti} (g : Good z) : 0 ≤ cashS z := by have := cash_le g (show 0 < 8 by omega); have := (g.1 0 (by omega)).1.1; have := g.2.1.1; omega
theorem stock_nn {z : Ti} (g : Good z) : 0 ≤ stockS z := by have := stock_le g (show 0 < 8 by omega); have := (g.1 0 (by omega)).2.1.1; omega
theorem gall_cash {z : Ti} (g : Good z) (w : World) : Calls Try.prog 16 #[.agg (TC z), .int .i64 1] w fun e w' => e = .returned (.tuple #[.int .i64 (cashS z), .int .i64 0]) ∧ Below w.heap.size w w' := by
  have h : InR (cashS z) := by have := cash_nn g; have := g.2.2.1; unfold InR; omega
  have := all_cash z (good_inr g) w
  rwa [tv_in h, te_in h] at this
theorem gall_stock {z : Ti} (g : Good z) (w : World) : Calls Try.prog 16 #[.agg (TC z), .int .i64 2] w fun e w' => e = .returned (.tuple #[.int .i64 (stockS z), .int .i64 0]) ∧ Below w.heap.size w w' := by
  have h : InR (stockS z) := by have := stock_nn g; have := g.2.2.2; unfold InR; omega
  have := all_stock z (good_inr g) w
  rwa [tv_in h, te_in h] at this
theorem money1 (n : Int) (hn : InR n) (b : Nat) (t : TypeId) (w : World) (hg : w.heap[b]? = some (.cells #[.int .i64 n] t (0, 0))) :
    Calls Try.prog 15 #[.slice (some ⟨b, 0, none⟩) 1 1] w fun e w' => e = .returned (.bool (mnyB n)) ∧ w = w' := by
  have hs : SlI w (some ⟨b, 0, none⟩) 1 [n] := ⟨rfl, by intro x hx; rw [List.mem_singleton] at hx; subst hx; exact hn, .inr ⟨b, 0, rfl, fun i hi => by
    obtain rfl : i = 0 := by omega
    rw [cell_of_row _ _ _ _ _ _ hg]; rfl⟩⟩
  have := money_c _ 1 1 [n] w hs (by omega)
  simpa using this
theorem known_yes {k : Nat} {s : Int} (hk : k < 8) (hs : s = 1 ∨ s = 2) (w : World) : Calls Try.prog 22 #[.int .i64 (k : Int), .int .i64 s] w fun e w' => e = .returned (.bool true) ∧ w = w' := by
  have := known_c (k : Int) s w
  rwa [decide_eq_true (show May (k : Int) s from ⟨by omega, by omega, hs⟩)] at this
theorem known_no {a s : Int} (h : ¬ May a s) (w : World) : Calls Try.prog 22 #[.int .i64 a, .int .i64 s] w fun e w' => e = .returned (.bool false) ∧ w = w' := by
  have := known_c a s w
  rwa [decide_eq_false h] at this

set_option maxHeartbeats 4000000 in
set_option maxRecDepth 100000 in
theorem free_no (z : Ti) (a s : Int) (h : ¬ May a s) (w : World) :
    Calls Try.prog 12 #[.agg (TC z), .int .i64 a, .int .i64 s] w fun e w' => e = .returned (.int .i64 0) ∧ Below w.heap.size w w' := by
  have HK := Lib.hid (known_no h)
  clear h
  go_enter Try.func12, Try.ntmps12
  go_wp2_with ((with_reducible refine (HK.out _).mono ?_); rintro e w' ⟨rfl, rfl⟩)
  go_ret
  exact ⟨rfl, by (focus ((repeat' (first | (with_reducible exact Below.refl _ _) | (with_reducible assumption) | (with_reducible refine Below.alloc ?_ ?_ _) | (with_reducible refine Below.setCell ?_ ?_ _) | (with_reducible refine Below.row ?_ ?_ _) | (with_reducible refine Below.drew ?_) | (with_reducible refine below_drewN ?_ _) | (focus (first | (simp; done) | omega | (simp; omega))))); done))⟩

set_option maxHeartbeats 4000000 in
set_option maxRecDepth 100000 in
theorem free_cash (z : Ti) (g : Good z) (k : Nat) (hk : k < 8) (w : World) :
    Calls Try.prog 12 #[.agg (TC z), .int .i64 (k : Int), .int .i64 1] w fun e w' => e = .returned (.int .i64 (z (6 * k) - z (6 * k + 2))) ∧ Below w.heap.size w w' := by
  have HK := Lib.hid (known_yes (s := 1) hk (by omega))
  obtain ⟨p0, p1, p2, p3, p4, p5, p6, p7⟩ := g.1 k hk
  have ⟨q1, q2⟩ : -9223372036854775808 ≤ z (6 * k) - z (6 * k + 2) ∧ z (6 * k) - z (6 * k + 2) ≤ 9223372036854775807 := by unfold Mny at *; omega
  have hkI : (k : Int) < 8 := by omega
  have hk0 : (0 : Int) ≤ (k : Int) := by omega
  have HO := fun w => Lib.hid (of_cash (z (6 * k)) (z (6 * k + 1)) (z (6 * k + 2)) (z (6 * k + 3)) (z (6 * k + 4)) (z (6 * k + 5)) w)
  clear g p0 p1 p2 p3 p4 p5 p6 p7
  go_enter Try.func12, Try.ntmps12
  go_wp2_with (first | ((with_reducible refine (HK.out _).mono ?_); rintro e w' ⟨rfl, rfl⟩) | ((with_reducible apply loadPu (k := k)); rfl; rfl; rfl; (focus ((repeat' (first | (with_reducible assumption) | ((with_reducible refine heap_last ?_); (focus (first | (simp; done) | omega | (simp; omega)))) | ((with_reducible refine heap_prev ?_ ?_); (focus (first | (simp; done) | omega | (simp; omega)))) | (with_reducible apply row_heap) | ((with_reducible apply till_set); (focus (first | (simp; done) | omega | (simp; omega)))) | ((with_reducible refine sign_other ?_ ?_); (focus (first | (simp; done) | omega | (simp; omega)))) | ((with_reducible refine row_other ?_ ?_); (focus (first | (simp; done) | omega | (simp; omega)))) | (with_reducible refine drew_heap ?_) | (with_reducible refine drewN_heap ?_))); done)); exact hk; omega; skip) | ((with_reducible refine (HO _).out.mono ?_); rintro e w1 ⟨rfl, b1⟩))
  go_ret
  exact ⟨rfl, Below.trans (by (focus ((repeat' (first | (with_reducible exact Below.refl _ _) | (with_reducible assumption) | (with_reducible refine Below.alloc ?_ ?_ _) | (with_reducible refine Below.setCell ?_ ?_ _) | (with_reducible refine Below.row ?_ ?_ _) | (with_reducible refine Below.drew ?_) | (with_reducible refine below_drewN ?_ _) | (focus (first | (simp; done) | omega | (simp; omega))))); done))) (b1.mono (by (focus (first | (simp; done) | omega | (simp; omega)))))⟩

set_option maxHeartbeats 4000000 in
set_option maxRecDepth 100000 in
theorem free_stock (z : Ti) (g : Good z) (k : Nat) (hk : k < 8) (w : World) :
    Calls Try.prog 12 #[.agg (TC z), .int .i64 (k : Int), .int .i64 2] w fun e w' => e = .returned (.int .i64 (z (6 * k + 1) - z (6 * k + 3))) ∧ Below w.heap.size w w' := by
  have HK := Lib.hid (known_yes (s := 2) hk (by omega))
  obtain ⟨p0, p1, p2, p3, p4, p5, p6, p7⟩ := g.1 k hk
  have ⟨q1, q2⟩ : -9223372036854775808 ≤ z (6 * k + 1) - z (6 * k + 3) ∧ z (6 * k + 1) - z (6 * k + 3) ≤ 9223372036854775807 := by unfold Mny at *; omega
  have hkI : (k : Int) < 8 := by omega
  have hk0 : (0 : Int) ≤ (k : Int) := by omega
  have HO := fun w => Lib.hid (of_stock (z (6 * k)) (z (6 * k + 1)) (z (6 * k + 2)) (z (6 * k + 3)) (z (6 * k + 4)) (z (6 * k + 5)) w)
  clear g p0 p1 p2 p3 p4 p5 p6 p7
  go_enter Try.func12, Try.ntmps12
  go_wp2_with (first | ((with_reducible refine (HK.out _).mono ?_); rintro e w' ⟨rfl, rfl⟩) | ((with_reducible apply loadPu (k := k)); rfl; rfl; rfl; (focus ((repeat' (first | (with_reducible assumption) | ((with_reducible refine heap_last ?_); (focus (first | (simp; done) | omega | (simp; omega)))) | ((with_reducible refine heap_prev ?_ ?_); (focus (first | (simp; done) | omega | (simp; omega)))) | (with_reducible apply row_heap) | ((with_reducible apply till_set); (focus (first | (simp; done) | omega | (simp; omega)))) | ((with_reducible refine sign_other ?_ ?_); (focus (first | (simp; done) | omega | (simp; omega)))) | ((with_reducible refine row_other ?_ ?_); (focus (first | (simp; done) | omega | (simp; omega)))) | (with_reducible refine drew_heap ?_) | (with_reducible refine drewN_heap ?_))); done)); exact hk; omega; skip) | ((with_reducible refine (HO _).out.mono ?_); rintro e w1 ⟨rfl, b1⟩))
  go_ret
  exact ⟨rfl, Below.trans (by (focus ((repeat' (first | (with_reducible exact Below.refl _ _) | (with_reducible assumption) | (with_reducible refine Below.alloc ?_ ?_ _) | (with_reducible refine Below.setCell ?_ ?_ _) | (with_reducible refine Below.row ?_ ?_ _) | (with_reducible refine Below.drew ?_) | (with_reducible refine below_drewN ?_ _) | (focus (first | (simp; done) | omega | (simp; omega))))); done))) (b1.mono (by (focus (first | (simp; done) | omega | (simp; omega)))))⟩
end Go.Proofs.Ytpegkojcemggaab
