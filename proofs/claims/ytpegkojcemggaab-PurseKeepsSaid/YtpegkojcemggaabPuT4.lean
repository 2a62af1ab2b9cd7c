/- purse: Trade's ways. -/
import Derived.Test.YtpegkojcemggaabPuL
import Derived.Test.YtpegkojcemggaabPuI
namespace Go.Proofs.Ytpegkojcemggaab
open Go.RowKit
set_option linter.unusedSimpArgs false

set_option maxHeartbeats 4000000 in
set_option maxRecDepth 100000 in
theorem tr_core_ok (z z1 z2 z3 z4 z5 z6 z7 z8 : Ti) (kb ks : Nat) (c st hc hs bf sf : Int) (R1 : Int) (R2 : Int) (HMay : Hid (∀ w, Calls Try.prog 38 #[.agg #[.int .i64 (kb : Int), .int .i64 (ks : Int), .int .i64 c, .int .i64 st, .int .i64 hc, .int .i64 hs, .int .i64 bf, .int .i64 sf]] w fun e w' => e = .returned (.bool true) ∧ Below w.heap.size w w')) (HR1 : Hid (∀ w, Calls Try.prog 29 #[.agg (TC z), .int .i64 (kb : Int), .int .i64 1, .int .i64 hc] w fun e w' => e = .returned (.tuple #[.agg (TC z1), .int .i64 0]) ∧ Below w.heap.size w w')) (HR2 : Hid (∀ w, Calls Try.prog 29 #[.agg (TC z1), .int .i64 (ks : Int), .int .i64 2, .int .i64 hs] w fun e w' => e = .returned (.tuple #[.agg (TC z2), .int .i64 0]) ∧ Below w.heap.size w w')) (HF1 : Hid (∀ w, Calls Try.prog 12 #[.agg (TC z2), .int .i64 (kb : Int), .int .i64 1] w fun e w' => e = .returned (.int .i64 R1) ∧ Below w.heap.size w w')) (hd1 : decide (R1 < c) = false) (HF2 : Hid (∀ w, Calls Try.prog 12 #[.agg (TC z2), .int .i64 (ks : Int), .int .i64 2] w fun e w' => e = .returned (.int .i64 R2) ∧ Below w.heap.size w w')) (hd2 : decide (R2 < st) = false) (HM1 : Hid (∀ w, Calls Try.prog 36 #[.agg (TC z2), .int .i64 (kb : Int), .int .i64 1, .int .i64 (-c)] w fun e w' => e = .returned (.agg (TC z3)) ∧ Below w.heap.size w w')) (HM2 : Hid (∀ w, Calls Try.prog 36 #[.agg (TC z3), .int .i64 (ks : Int), .int .i64 1, .int .i64 c] w fun e w' => e = .returned (.agg (TC z4)) ∧ Below w.heap.size w w')) (HM3 : Hid (∀ w, Calls Try.prog 36 #[.agg (TC z4), .int .i64 (ks : Int), .int .i64 2, .int .i64 (-st)] w fun e w' => e = .returned (.agg (TC z5)) ∧ Below w.heap.size w w')) (HM4 : Hid (∀ w, Calls Try.prog 36 #[.agg (TC z5), .int .i64 (kb : Int), .int .i64 2, .int .i64 st] w fun e w' => e = .returned (.agg (TC z6)) ∧ Below w.heap.size w w')) (HC1 : Hid (∀ w, Calls Try.prog 39 #[.agg (TC z6), .int .i64 (kb : Int), .int .i64 bf, .int .i64 c] w fun e w' => e = .returned (.agg (TC z7)) ∧ Below w.heap.size w w')) (HC2 : Hid (∀ w, Calls Try.prog 39 #[.agg (TC z7), .int .i64 (ks : Int), .int .i64 sf, .int .i64 c] w fun e w' => e = .returned (.agg (TC z8)) ∧ Below w.heap.size w w')) (c0 : 0 ≤ c) (c1 : c ≤ 4611686018427387904) (s0 : 0 ≤ st) (s1 : st ≤ 4611686018427387904) (w : World) :
    Calls Try.prog 21 #[.agg (TC z), .agg #[.int .i64 (kb : Int), .int .i64 (ks : Int), .int .i64 c, .int .i64 st, .int .i64 hc, .int .i64 hs, .int .i64 bf, .int .i64 sf]] w fun e w' => e = .returned (.tuple #[.agg (TC z8), .int .i64 0]) ∧ Below w.heap.size w w' := by
  have hz := zeroP
  go_enter Try.func21, Try.ntmps21
  go_wp2_with (first | ((with_reducible apply loadP); rfl; rfl; rfl; (focus ((repeat' (first | (with_reducible assumption) | ((with_reducible refine heap_last ?_); (focus (first | (simp; done) | omega | (simp; omega)))) | ((with_reducible refine heap_prev ?_ ?_); (focus (first | (simp; done) | omega | (simp; omega)))) | (with_reducible apply row_heap) | ((with_reducible apply till_set); (focus (first | (simp; done) | omega | (simp; omega)))) | ((with_reducible refine sign_other ?_ ?_); (focus (first | (simp; done) | omega | (simp; omega)))) | ((with_reducible refine row_other ?_ ?_); (focus (first | (simp; done) | omega | (simp; omega)))) | (with_reducible refine drew_heap ?_) | (with_reducible refine drewN_heap ?_))); done)); skip) | ((with_reducible apply storeP); rfl; rfl; rfl; rfl; (focus ((repeat' (first | (with_reducible assumption) | ((with_reducible refine heap_last ?_); (focus (first | (simp; done) | omega | (simp; omega)))) | ((with_reducible refine heap_prev ?_ ?_); (focus (first | (simp; done) | omega | (simp; omega)))) | (with_reducible apply row_heap) | ((with_reducible apply till_set); (focus (first | (simp; done) | omega | (simp; omega)))) | ((with_reducible refine sign_other ?_ ?_); (focus (first | (simp; done) | omega | (simp; omega)))) | ((with_reducible refine row_other ?_ ?_); (focus (first | (simp; done) | omega | (simp; omega)))) | (with_reducible refine drew_heap ?_) | (with_reducible refine drewN_heap ?_))); done)); skip))
  ((with_reducible refine (HMay.out _).mono ?_); rintro e w1 ⟨rfl, b1⟩)
  obtain ⟨t01, tr1, td1⟩ : w1.heap[w.heap.size]? = some (.cells (TC z) 26 (0, 0)) ∧ w1.heap[w.heap.size + 2]? = some (.cells (TC zT) 26 (0, 0)) ∧ w1.heap[w.heap.size + 1]? = some (.cells #[.int .i64 (kb : Int), .int .i64 (ks : Int), .int .i64 c, .int .i64 st, .int .i64 hc, .int .i64 hs, .int .i64 bf, .int .i64 sf] 43 (0, 0)) := by refine ⟨?_, ?_, ?_⟩ <;> (rw [b1.block _ (by (focus (first | (simp; done) | omega | (simp; omega))))]; (focus ((repeat' (first | (with_reducible assumption) | ((with_reducible refine heap_last ?_); (focus (first | (simp; done) | omega | (simp; omega)))) | ((with_reducible refine heap_prev ?_ ?_); (focus (first | (simp; done) | omega | (simp; omega)))) | (with_reducible apply row_heap) | ((with_reducible apply till_set); (focus (first | (simp; done) | omega | (simp; omega)))) | ((with_reducible refine sign_other ?_ ?_); (focus (first | (simp; done) | omega | (simp; omega)))) | ((with_reducible refine row_other ?_ ?_); (focus (first | (simp; done) | omega | (simp; omega)))) | (with_reducible refine drew_heap ?_) | (with_reducible refine drewN_heap ?_))); done)))
  have zz1 : w.heap.size + 3 ≤ w1.heap.size := by have := b1.size; (try simp at this); omega
  have B1 : Below w.heap.size w w1 := Below.trans (by (focus ((repeat' (first | (with_reducible exact Below.refl _ _) | (with_reducible assumption) | (with_reducible refine Below.alloc ?_ ?_ _) | (with_reducible refine Below.setCell ?_ ?_ _) | (with_reducible refine Below.row ?_ ?_ _) | (with_reducible refine Below.drew ?_) | (with_reducible refine below_drewN ?_ _) | (focus (first | (simp; done) | omega | (simp; omega))))); done))) (b1.mono (by (focus (first | (simp; done) | omega | (simp; omega)))))
  have d10 : w1.cell? ⟨w.heap.size + 1, 0, none⟩ = some (.int .i64 (kb : Int)) := cell_heap td1 rfl
  have d11 : w1.cell? ⟨w.heap.size + 1, 1, none⟩ = some (.int .i64 (ks : Int)) := cell_heap td1 rfl
  have d12 : w1.cell? ⟨w.heap.size + 1, 2, none⟩ = some (.int .i64 c) := cell_heap td1 rfl
  have d13 : w1.cell? ⟨w.heap.size + 1, 3, none⟩ = some (.int .i64 st) := cell_heap td1 rfl
  have d14 : w1.cell? ⟨w.heap.size + 1, 4, none⟩ = some (.int .i64 hc) := cell_heap td1 rfl
  have d15 : w1.cell? ⟨w.heap.size + 1, 5, none⟩ = some (.int .i64 hs) := cell_heap td1 rfl
  have d16 : w1.cell? ⟨w.heap.size + 1, 6, none⟩ = some (.int .i64 bf) := cell_heap td1 rfl
  have d17 : w1.cell? ⟨w.heap.size + 1, 7, none⟩ = some (.int .i64 sf) := cell_heap td1 rfl
  clear b1 HMay
  go_wp2_with (first | ((with_reducible apply loadP); rfl; rfl; rfl; (focus ((repeat' (first | (with_reducible assumption) | ((with_reducible refine heap_last ?_); (focus (first | (simp; done) | omega | (simp; omega)))) | ((with_reducible refine heap_prev ?_ ?_); (focus (first | (simp; done) | omega | (simp; omega)))) | (with_reducible apply row_heap) | ((with_reducible apply till_set); (focus (first | (simp; done) | omega | (simp; omega)))) | ((with_reducible refine sign_other ?_ ?_); (focus (first | (simp; done) | omega | (simp; omega)))) | ((with_reducible refine row_other ?_ ?_); (focus (first | (simp; done) | omega | (simp; omega)))) | (with_reducible refine drew_heap ?_) | (with_reducible refine drewN_heap ?_))); done)); skip) | ((with_reducible apply storeP); rfl; rfl; rfl; rfl; (focus ((repeat' (first | (with_reducible assumption) | ((with_reducible refine heap_last ?_); (focus (first | (simp; done) | omega | (simp; omega)))) | ((with_reducible refine heap_prev ?_ ?_); (focus (first | (simp; done) | omega | (simp; omega)))) | (with_reducible apply row_heap) | ((with_reducible apply till_set); (focus (first | (simp; done) | omega | (simp; omega)))) | ((with_reducible refine sign_other ?_ ?_); (focus (first | (simp; done) | omega | (simp; omega)))) | ((with_reducible refine row_other ?_ ?_); (focus (first | (simp; done) | omega | (simp; omega)))) | (with_reducible refine drew_heap ?_) | (with_reducible refine drewN_heap ?_))); done)); skip))
  ((with_reducible refine (HR1.out _).mono ?_); rintro e w2 ⟨rfl, b2⟩)
  obtain ⟨t02, tr2, td2⟩ : w2.heap[w.heap.size]? = some (.cells (TC z) 26 (0, 0)) ∧ w2.heap[w.heap.size + 2]? = some (.cells (TC zT) 26 (0, 0)) ∧ w2.heap[w.heap.size + 1]? = some (.cells #[.int .i64 (kb : Int), .int .i64 (ks : Int), .int .i64 c, .int .i64 st, .int .i64 hc, .int .i64 hs, .int .i64 bf, .int .i64 sf] 43 (0, 0)) := by refine ⟨?_, ?_, ?_⟩ <;> (rw [b2.block _ (by (focus (first | (simp; done) | omega | (simp; omega))))]; (focus ((repeat' (first | (with_reducible assumption) | ((with_reducible refine heap_last ?_); (focus (first | (simp; done) | omega | (simp; omega)))) | ((with_reducible refine heap_prev ?_ ?_); (focus (first | (simp; done) | omega | (simp; omega)))) | (with_reducible apply row_heap) | ((with_reducible apply till_set); (focus (first | (simp; done) | omega | (simp; omega)))) | ((with_reducible refine sign_other ?_ ?_); (focus (first | (simp; done) | omega | (simp; omega)))) | ((with_reducible refine row_other ?_ ?_); (focus (first | (simp; done) | omega | (simp; omega)))) | (with_reducible refine drew_heap ?_) | (with_reducible refine drewN_heap ?_))); done)))
  have zz2 : w.heap.size + 3 ≤ w2.heap.size := by have := b2.size; (try simp at this); omega
  have B2 : Below w.heap.size w w2 := Below.trans (by (focus ((repeat' (first | (with_reducible exact Below.refl _ _) | (with_reducible assumption) | (with_reducible refine Below.alloc ?_ ?_ _) | (with_reducible refine Below.setCell ?_ ?_ _) | (with_reducible refine Below.row ?_ ?_ _) | (with_reducible refine Below.drew ?_) | (with_reducible refine below_drewN ?_ _) | (focus (first | (simp; done) | omega | (simp; omega))))); done))) (b2.mono (by (focus (first | (simp; done) | omega | (simp; omega)))))
  have d20 : w2.cell? ⟨w.heap.size + 1, 0, none⟩ = some (.int .i64 (kb : Int)) := cell_heap td2 rfl
  have d21 : w2.cell? ⟨w.heap.size + 1, 1, none⟩ = some (.int .i64 (ks : Int)) := cell_heap td2 rfl
  have d22 : w2.cell? ⟨w.heap.size + 1, 2, none⟩ = some (.int .i64 c) := cell_heap td2 rfl
  have d23 : w2.cell? ⟨w.heap.size + 1, 3, none⟩ = some (.int .i64 st) := cell_heap td2 rfl
  have d24 : w2.cell? ⟨w.heap.size + 1, 4, none⟩ = some (.int .i64 hc) := cell_heap td2 rfl
  have d25 : w2.cell? ⟨w.heap.size + 1, 5, none⟩ = some (.int .i64 hs) := cell_heap td2 rfl
  have d26 : w2.cell? ⟨w.heap.size + 1, 6, none⟩ = some (.int .i64 bf) := cell_heap td2 rfl
  have d27 : w2.cell? ⟨w.heap.size + 1, 7, none⟩ = some (.int .i64 sf) := cell_heap td2 rfl
  clear b2 t01 tr1 td1 zz1 B1 d10 d11 d12 d13 d14 d15 d16 d17 HR1
  have ob : (World.setRow (w2.alloc (.cells (TC zT) 26)) w2.heap.size (TC z1)).heap[w.heap.size + 1]? = some (.cells #[.int .i64 (kb : Int), .int .i64 (ks : Int), .int .i64 c, .int .i64 st, .int .i64 hc, .int .i64 hs, .int .i64 bf, .int .i64 sf] 43 (0, 0)) := by (focus ((repeat' (first | (with_reducible assumption) | ((with_reducible refine heap_last ?_); (focus (first | (simp; done) | omega | (simp; omega)))) | ((with_reducible refine heap_prev ?_ ?_); (focus (first | (simp; done) | omega | (simp; omega)))) | (with_reducible apply row_heap) | ((with_reducible apply till_set); (focus (first | (simp; done) | omega | (simp; omega)))) | ((with_reducible refine sign_other ?_ ?_); (focus (first | (simp; done) | omega | (simp; omega)))) | ((with_reducible refine row_other ?_ ?_); (focus (first | (simp; done) | omega | (simp; omega)))) | (with_reducible refine drew_heap ?_) | (with_reducible refine drewN_heap ?_))); done))
  have e21 : (World.setRow (w2.alloc (.cells (TC zT) 26)) w2.heap.size (TC z1)).cell? ⟨w.heap.size + 1, 1, none⟩ = some (.int .i64 (ks : Int)) := cell_heap ob rfl
  have e25 : (World.setRow (w2.alloc (.cells (TC zT) 26)) w2.heap.size (TC z1)).cell? ⟨w.heap.size + 1, 5, none⟩ = some (.int .i64 hs) := cell_heap ob rfl
  clear ob
  go_wp2_with (first | ((with_reducible apply loadP); rfl; rfl; rfl; (focus ((repeat' (first | (with_reducible assumption) | ((with_reducible refine heap_last ?_); (focus (first | (simp; done) | omega | (simp; omega)))) | ((with_reducible refine heap_prev ?_ ?_); (focus (first | (simp; done) | omega | (simp; omega)))) | (with_reducible apply row_heap) | ((with_reducible apply till_set); (focus (first | (simp; done) | omega | (simp; omega)))) | ((with_reducible refine sign_other ?_ ?_); (focus (first | (simp; done) | omega | (simp; omega)))) | ((with_reducible refine row_other ?_ ?_); (focus (first | (simp; done) | omega | (simp; omega)))) | (with_reducible refine drew_heap ?_) | (with_reducible refine drewN_heap ?_))); done)); skip) | ((with_reducible apply storeP); rfl; rfl; rfl; rfl; (focus ((repeat' (first | (with_reducible assumption) | ((with_reducible refine heap_last ?_); (focus (first | (simp; done) | omega | (simp; omega)))) | ((with_reducible refine heap_prev ?_ ?_); (focus (first | (simp; done) | omega | (simp; omega)))) | (with_reducible apply row_heap) | ((with_reducible apply till_set); (focus (first | (simp; done) | omega | (simp; omega)))) | ((with_reducible refine sign_other ?_ ?_); (focus (first | (simp; done) | omega | (simp; omega)))) | ((with_reducible refine row_other ?_ ?_); (focus (first | (simp; done) | omega | (simp; omega)))) | (with_reducible refine drew_heap ?_) | (with_reducible refine drewN_heap ?_))); done)); skip))
  ((with_reducible refine (HR2.out _).mono ?_); rintro e w3 ⟨rfl, b3⟩)
  obtain ⟨t03, tr3, tt3, td3⟩ : w3.heap[w.heap.size]? = some (.cells (TC z) 26 (0, 0)) ∧ w3.heap[w.heap.size + 2]? = some (.cells (TC zT) 26 (0, 0)) ∧ w3.heap[w2.heap.size]? = some (.cells (TC z1) 26 (0, 0)) ∧ w3.heap[w.heap.size + 1]? = some (.cells #[.int .i64 (kb : Int), .int .i64 (ks : Int), .int .i64 c, .int .i64 st, .int .i64 hc, .int .i64 hs, .int .i64 bf, .int .i64 sf] 43 (0, 0)) := by refine ⟨?_, ?_, ?_, ?_⟩ <;> (rw [b3.block _ (by (focus (first | (simp; done) | omega | (simp; omega))))]; (focus ((repeat' (first | (with_reducible assumption) | ((with_reducible refine heap_last ?_); (focus (first | (simp; done) | omega | (simp; omega)))) | ((with_reducible refine heap_prev ?_ ?_); (focus (first | (simp; done) | omega | (simp; omega)))) | (with_reducible apply row_heap) | ((with_reducible apply till_set); (focus (first | (simp; done) | omega | (simp; omega)))) | ((with_reducible refine sign_other ?_ ?_); (focus (first | (simp; done) | omega | (simp; omega)))) | ((with_reducible refine row_other ?_ ?_); (focus (first | (simp; done) | omega | (simp; omega)))) | (with_reducible refine drew_heap ?_) | (with_reducible refine drewN_heap ?_))); done)))
  have zz3 : w2.heap.size + 1 ≤ w3.heap.size := by have := b3.size; (try simp at this); omega
  have B3 : Below w.heap.size w w3 := Below.trans (by (focus ((repeat' (first | (with_reducible exact Below.refl _ _) | (with_reducible assumption) | (with_reducible refine Below.alloc ?_ ?_ _) | (with_reducible refine Below.setCell ?_ ?_ _) | (with_reducible refine Below.row ?_ ?_ _) | (with_reducible refine Below.drew ?_) | (with_reducible refine below_drewN ?_ _) | (focus (first | (simp; done) | omega | (simp; omega))))); done))) (b3.mono (by (focus (first | (simp; done) | omega | (simp; omega)))))
  have d30 : w3.cell? ⟨w.heap.size + 1, 0, none⟩ = some (.int .i64 (kb : Int)) := cell_heap td3 rfl
  have d31 : w3.cell? ⟨w.heap.size + 1, 1, none⟩ = some (.int .i64 (ks : Int)) := cell_heap td3 rfl
  have d32 : w3.cell? ⟨w.heap.size + 1, 2, none⟩ = some (.int .i64 c) := cell_heap td3 rfl
  have d33 : w3.cell? ⟨w.heap.size + 1, 3, none⟩ = some (.int .i64 st) := cell_heap td3 rfl
  have d34 : w3.cell? ⟨w.heap.size + 1, 4, none⟩ = some (.int .i64 hc) := cell_heap td3 rfl
  have d35 : w3.cell? ⟨w.heap.size + 1, 5, none⟩ = some (.int .i64 hs) := cell_heap td3 rfl
  have d36 : w3.cell? ⟨w.heap.size + 1, 6, none⟩ = some (.int .i64 bf) := cell_heap td3 rfl
  have d37 : w3.cell? ⟨w.heap.size + 1, 7, none⟩ = some (.int .i64 sf) := cell_heap td3 rfl
  clear b3 t02 tr2 td2  B2 d20 d21 d22 d23 d24 d25 d26 d27 HR2 e21 e25
  go_wp2_with (first | ((with_reducible apply loadP); rfl; rfl; rfl; (focus ((repeat' (first | (with_reducible assumption) | ((with_reducible refine heap_last ?_); (focus (first | (simp; done) | omega | (simp; omega)))) | ((with_reducible refine heap_prev ?_ ?_); (focus (first | (simp; done) | omega | (simp; omega)))) | (with_reducible apply row_heap) | ((with_reducible apply till_set); (focus (first | (simp; done) | omega | (simp; omega)))) | ((with_reducible refine sign_other ?_ ?_); (focus (first | (simp; done) | omega | (simp; omega)))) | ((with_reducible refine row_other ?_ ?_); (focus (first | (simp; done) | omega | (simp; omega)))) | (with_reducible refine drew_heap ?_) | (with_reducible refine drewN_heap ?_))); done)); skip) | ((with_reducible apply storeP); rfl; rfl; rfl; rfl; (focus ((repeat' (first | (with_reducible assumption) | ((with_reducible refine heap_last ?_); (focus (first | (simp; done) | omega | (simp; omega)))) | ((with_reducible refine heap_prev ?_ ?_); (focus (first | (simp; done) | omega | (simp; omega)))) | (with_reducible apply row_heap) | ((with_reducible apply till_set); (focus (first | (simp; done) | omega | (simp; omega)))) | ((with_reducible refine sign_other ?_ ?_); (focus (first | (simp; done) | omega | (simp; omega)))) | ((with_reducible refine row_other ?_ ?_); (focus (first | (simp; done) | omega | (simp; omega)))) | (with_reducible refine drew_heap ?_) | (with_reducible refine drewN_heap ?_))); done)); skip))
  refine wp_region_held_drew (S := fun w' => w'.heap[w.heap.size + 1]? = some (.cells #[.int .i64 (kb : Int), .int .i64 (ks : Int), .int .i64 c, .int .i64 st, .int .i64 hc, .int .i64 hs, .int .i64 bf, .int .i64 sf] 43 (0, 0))) (by kernel_rfl) (by first | exact td3 | (focus ((repeat' (first | (with_reducible assumption) | ((with_reducible refine heap_last ?_); (focus (first | (simp; done) | omega | (simp; omega)))) | ((with_reducible refine heap_prev ?_ ?_); (focus (first | (simp; done) | omega | (simp; omega)))) | (with_reducible apply row_heap) | ((with_reducible apply till_set); (focus (first | (simp; done) | omega | (simp; omega)))) | ((with_reducible refine sign_other ?_ ?_); (focus (first | (simp; done) | omega | (simp; omega)))) | ((with_reducible refine row_other ?_ ?_); (focus (first | (simp; done) | omega | (simp; omega)))) | (with_reducible refine drew_heap ?_) | (with_reducible refine drewN_heap ?_))); done))) (fun hHeld => ?_)
  refine wpAnyH_take (i := 1) (oi := ⟨some 39, _, _, _, _, _⟩) (v := ?_) rfl (by kernel_rfl) (by kernel_rfl) (by kernel_rfl) (fun _ _ _ h => h) (Or.inl ⟨by kernel_rfl, ?_⟩) (by assumption) ?_
  rotate_left
  · (intro w hSw; (try dsimp only at hSw); go_simp; try with_reducible rfl)
  (try simp only [Act.put, List.setIfInBounds_toArray, List.set_cons_succ, List.set_cons_zero])
  refine wpAnyH_take (i := 2) (oi := ⟨some 40, _, _, _, _, _⟩) (v := ?_) rfl (by kernel_rfl) (by kernel_rfl) (by kernel_rfl) (fun _ _ _ h => h) (Or.inl ⟨by kernel_rfl, ?_⟩) (by assumption) ?_
  rotate_left
  · (intro w hSw; have cc := cell_of_row _ _ 0 _ _ _ hSw; (try dsimp only at hSw); go_simp; try with_reducible rfl)
  (try simp only [Act.put, List.setIfInBounds_toArray, List.set_cons_succ, List.set_cons_zero])
  refine wpAnyH_take (i := 4) (oi := ⟨some 42, _, _, _, _, _⟩) (v := ?_) rfl (by kernel_rfl) (by kernel_rfl) (by kernel_rfl) (fun _ _ _ h => h) (Or.inl ⟨by kernel_rfl, ?_⟩) (by assumption) ?_
  rotate_left
  · (intro w hSw; (try dsimp only at hSw); go_simp; try with_reducible rfl)
  (try simp only [Act.put, List.setIfInBounds_toArray, List.set_cons_succ, List.set_cons_zero])
  refine wpAnyH_take (i := 5) (oi := ⟨some 43, _, _, _, _, _⟩) (v := ?_) rfl (by kernel_rfl) (by kernel_rfl) (by kernel_rfl) (fun _ _ _ h => h) (Or.inl ⟨by kernel_rfl, ?_⟩) (by assumption) ?_
  rotate_left
  · (intro w hSw; have cc := cell_of_row _ _ 2 _ _ _ hSw; (try dsimp only at hSw); go_simp; try with_reducible rfl)
  (try simp only [Act.put, List.setIfInBounds_toArray, List.set_cons_succ, List.set_cons_zero])
  refine wpAnyH_ready (rs := [0]) (by kernel_rfl) (by simp) ?_
  refine AllReadyH.cons (o := ⟨some 38, _, _, _, _, _⟩) rfl (fun K hK => ?_) AllReadyH.nil
  ((with_reducible apply any_loadP); rfl; rfl; rfl; (focus ((repeat' (first | (with_reducible assumption) | ((with_reducible refine heap_last ?_); (focus (first | (simp; done) | omega | (simp; omega)))) | ((with_reducible refine heap_prev ?_ ?_); (focus (first | (simp; done) | omega | (simp; omega)))) | (with_reducible apply row_heap) | ((with_reducible apply till_set); (focus (first | (simp; done) | omega | (simp; omega)))) | ((with_reducible refine sign_other ?_ ?_); (focus (first | (simp; done) | omega | (simp; omega)))) | ((with_reducible refine row_other ?_ ?_); (focus (first | (simp; done) | omega | (simp; omega)))) | (with_reducible refine drew_heap ?_) | (with_reducible refine drewN_heap ?_))); done)); skip)
  refine hK.out _ _ (by assumption) (fun hHeld => ?_)
  clear hK K
  (try simp only [Act.put, List.setIfInBounds_toArray, List.set_cons_succ, List.set_cons_zero])
  refine wpAnyH_ready (rs := [3]) (by kernel_rfl) (by simp) ?_
  refine AllReadyH.cons (o := ⟨some 41, _, _, _, _, _⟩) rfl (fun K hK => ?_) AllReadyH.nil
  go_simp
  ((with_reducible refine (HF1.out _).mono ?_); rintro e w4 ⟨rfl, b4⟩)
  obtain ⟨t04, tr4, tt4, td4⟩ : w4.heap[w.heap.size]? = some (.cells (TC z) 26 (0, 0)) ∧ w4.heap[w.heap.size + 2]? = some (.cells (TC zT) 26 (0, 0)) ∧ w4.heap[w2.heap.size]? = some (.cells (TC z2) 26 (0, 0)) ∧ w4.heap[w.heap.size + 1]? = some (.cells #[.int .i64 (kb : Int), .int .i64 (ks : Int), .int .i64 c, .int .i64 st, .int .i64 hc, .int .i64 hs, .int .i64 bf, .int .i64 sf] 43 (0, 0)) := by refine ⟨?_, ?_, ?_, ?_⟩ <;> (rw [b4.block _ (by (focus (first | (simp; done) | omega | (simp; omega))))]; (focus ((repeat' (first | (with_reducible assumption) | ((with_reducible refine heap_last ?_); (focus (first | (simp; done) | omega | (simp; omega)))) | ((with_reducible refine heap_prev ?_ ?_); (focus (first | (simp; done) | omega | (simp; omega)))) | (with_reducible apply row_heap) | ((with_reducible apply till_set); (focus (first | (simp; done) | omega | (simp; omega)))) | ((with_reducible refine sign_other ?_ ?_); (focus (first | (simp; done) | omega | (simp; omega)))) | ((with_reducible refine row_other ?_ ?_); (focus (first | (simp; done) | omega | (simp; omega)))) | (with_reducible refine drew_heap ?_) | (with_reducible refine drewN_heap ?_))); done)))
  have zz4 : w2.heap.size + 1 ≤ w4.heap.size := by have := b4.size; (try simp at this); omega
  have B4 : Below w.heap.size w w4 := Below.trans (by (focus ((repeat' (first | (with_reducible exact Below.refl _ _) | (with_reducible assumption) | (with_reducible refine Below.alloc ?_ ?_ _) | (with_reducible refine Below.setCell ?_ ?_ _) | (with_reducible refine Below.row ?_ ?_ _) | (with_reducible refine Below.drew ?_) | (with_reducible refine below_drewN ?_ _) | (focus (first | (simp; done) | omega | (simp; omega))))); done))) (b4.mono (by (focus (first | (simp; done) | omega | (simp; omega)))))
  clear b4 HF1
  refine hK.out _ _ (by exact td4) (fun hHeld => ?_)
  clear hK K
  (try simp only [Act.put, List.setIfInBounds_toArray, List.set_cons_succ, List.set_cons_zero])
  refine wpAnyH_take (i := 6) (oi := ⟨some 44, _, _, _, _, _⟩) (v := ?_) rfl (by kernel_rfl) (by kernel_rfl) (by kernel_rfl) (fun _ _ _ h => h) (Or.inl ⟨by kernel_rfl, ?_⟩) (by assumption) ?_
  rotate_left
  · (intro w hSw; (try dsimp only at hSw); go_simp; try with_reducible rfl)
  (try simp only [Act.put, List.setIfInBounds_toArray, List.set_cons_succ, List.set_cons_zero])
  refine wpAnyH_take (i := 7) (oi := ⟨some 45, _, _, _, _, _⟩) (v := ?_) rfl (by kernel_rfl) (by kernel_rfl) (by kernel_rfl) (fun _ _ _ h => h) (Or.inl ⟨by kernel_rfl, ?_⟩) (by assumption) ?_
  rotate_left
  · (intro w hSw; (try dsimp only at hSw); go_simp; try with_reducible rfl)
  (try simp only [Act.put, List.setIfInBounds_toArray, List.set_cons_succ, List.set_cons_zero])
  refine wpAnyH_take (i := 9) (oi := ⟨some 47, _, _, _, _, _⟩) (v := ?_) rfl (by kernel_rfl) (by kernel_rfl) (by kernel_rfl) (fun _ _ _ h => h) (Or.inl ⟨by kernel_rfl, ?_⟩) (by assumption) ?_
  rotate_left
  · (intro w hSw; (try dsimp only at hSw); go_simp; try with_reducible rfl)
  (try simp only [Act.put, List.setIfInBounds_toArray, List.set_cons_succ, List.set_cons_zero])
  refine wpAnyH_take (i := 10) (oi := ⟨some 48, _, _, _, _, _⟩) (v := ?_) rfl (by kernel_rfl) (by kernel_rfl) (by kernel_rfl) (fun _ _ _ h => h) (Or.inl ⟨by kernel_rfl, ?_⟩) (by assumption) ?_
  rotate_left
  · (intro w hSw; have cc := cell_of_row _ _ 1 _ _ _ hSw; (try dsimp only at hSw); go_simp; try with_reducible rfl)
  (try simp only [Act.put, List.setIfInBounds_toArray, List.set_cons_succ, List.set_cons_zero])
  refine wpAnyH_take (i := 12) (oi := ⟨some 50, _, _, _, _, _⟩) (v := ?_) rfl (by kernel_rfl) (by kernel_rfl) (by kernel_rfl) (fun _ _ _ h => h) (Or.inl ⟨by kernel_rfl, ?_⟩) (by assumption) ?_
  rotate_left
  · (intro w hSw; (try dsimp only at hSw); go_simp; try with_reducible rfl)
  (try simp only [Act.put, List.setIfInBounds_toArray, List.set_cons_succ, List.set_cons_zero])
  refine wpAnyH_take (i := 13) (oi := ⟨some 51, _, _, _, _, _⟩) (v := ?_) rfl (by kernel_rfl) (by kernel_rfl) (by kernel_rfl) (fun _ _ _ h => h) (Or.inl ⟨by kernel_rfl, ?_⟩) (by assumption) ?_
  rotate_left
  · (intro w hSw; have cc := cell_of_row _ _ 3 _ _ _ hSw; (try dsimp only at hSw); go_simp; try with_reducible rfl)
  (try simp only [Act.put, List.setIfInBounds_toArray, List.set_cons_succ, List.set_cons_zero])
  refine wpAnyH_ready (rs := [8]) (by kernel_rfl) (by simp) ?_
  refine AllReadyH.cons (o := ⟨some 46, _, _, _, _, _⟩) rfl (fun K hK => ?_) AllReadyH.nil
  ((with_reducible apply any_loadP); rfl; rfl; rfl; (focus ((repeat' (first | (with_reducible assumption) | ((with_reducible refine heap_last ?_); (focus (first | (simp; done) | omega | (simp; omega)))) | ((with_reducible refine heap_prev ?_ ?_); (focus (first | (simp; done) | omega | (simp; omega)))) | (with_reducible apply row_heap) | ((with_reducible apply till_set); (focus (first | (simp; done) | omega | (simp; omega)))) | ((with_reducible refine sign_other ?_ ?_); (focus (first | (simp; done) | omega | (simp; omega)))) | ((with_reducible refine row_other ?_ ?_); (focus (first | (simp; done) | omega | (simp; omega)))) | (with_reducible refine drew_heap ?_) | (with_reducible refine drewN_heap ?_))); done)); skip)
  refine hK.out _ _ (by assumption) (fun hHeld => ?_)
  clear hK K
  (try simp only [Act.put, List.setIfInBounds_toArray, List.set_cons_succ, List.set_cons_zero])
  refine wpAnyH_ready (rs := [11]) (by kernel_rfl) (by simp) ?_
  refine AllReadyH.cons (o := ⟨some 49, _, _, _, _, _⟩) rfl (fun K hK => ?_) AllReadyH.nil
  go_simp
  ((with_reducible refine (HF2.out _).mono ?_); rintro e w5 ⟨rfl, b5⟩)
  obtain ⟨t05, tr5, tt5, td5⟩ : w5.heap[w.heap.size]? = some (.cells (TC z) 26 (0, 0)) ∧ w5.heap[w.heap.size + 2]? = some (.cells (TC zT) 26 (0, 0)) ∧ w5.heap[w2.heap.size]? = some (.cells (TC z2) 26 (0, 0)) ∧ w5.heap[w.heap.size + 1]? = some (.cells #[.int .i64 (kb : Int), .int .i64 (ks : Int), .int .i64 c, .int .i64 st, .int .i64 hc, .int .i64 hs, .int .i64 bf, .int .i64 sf] 43 (0, 0)) := by refine ⟨?_, ?_, ?_, ?_⟩ <;> (rw [b5.block _ (by (focus (first | (simp; done) | omega | (simp; omega))))]; (focus ((repeat' (first | (with_reducible assumption) | ((with_reducible refine heap_last ?_); (focus (first | (simp; done) | omega | (simp; omega)))) | ((with_reducible refine heap_prev ?_ ?_); (focus (first | (simp; done) | omega | (simp; omega)))) | (with_reducible apply row_heap) | ((with_reducible apply till_set); (focus (first | (simp; done) | omega | (simp; omega)))) | ((with_reducible refine sign_other ?_ ?_); (focus (first | (simp; done) | omega | (simp; omega)))) | ((with_reducible refine row_other ?_ ?_); (focus (first | (simp; done) | omega | (simp; omega)))) | (with_reducible refine drew_heap ?_) | (with_reducible refine drewN_heap ?_))); done)))
  have zz5 : w2.heap.size + 1 ≤ w5.heap.size := by have := b5.size; (try simp at this); omega
  have B5 : Below w.heap.size w w5 := Below.trans (by (focus ((repeat' (first | (with_reducible exact Below.refl _ _) | (with_reducible assumption) | (with_reducible refine Below.alloc ?_ ?_ _) | (with_reducible refine Below.setCell ?_ ?_ _) | (with_reducible refine Below.row ?_ ?_ _) | (with_reducible refine Below.drew ?_) | (with_reducible refine below_drewN ?_ _) | (focus (first | (simp; done) | omega | (simp; omega))))); done))) (b5.mono (by (focus (first | (simp; done) | omega | (simp; omega)))))
  clear b5 HF2 t04 tr4 tt4 td4 B4
  refine hK.out _ _ (by exact td5) (fun hHeld => ?_)
  clear hK K
  (try simp only [Act.put, List.setIfInBounds_toArray, List.set_cons_succ, List.set_cons_zero])
  refine wpAnyH_take (i := 14) (oi := ⟨some 52, _, _, _, _, _⟩) (v := ?_) rfl (by kernel_rfl) (by kernel_rfl) (by kernel_rfl) (fun _ _ _ h => h) (Or.inl ⟨by kernel_rfl, ?_⟩) (by assumption) ?_
  rotate_left
  · (intro w hSw; (try dsimp only at hSw); go_simp; try with_reducible rfl)
  (try simp only [Act.put, List.setIfInBounds_toArray, List.set_cons_succ, List.set_cons_zero])
  refine wpAnyH_take (i := 15) (oi := ⟨some 53, _, _, _, _, _⟩) (v := ?_) rfl (by kernel_rfl) (by kernel_rfl) (by kernel_rfl) (fun _ _ _ h => h) (Or.inl ⟨by kernel_rfl, ?_⟩) (by assumption) ?_
  rotate_left
  · (intro w hSw; (try dsimp only at hSw); go_simp; try with_reducible rfl)
  (try simp only [Act.put, List.setIfInBounds_toArray, List.set_cons_succ, List.set_cons_zero])
  refine wpAnyH_done (by kernel_rfl) ?_ _
  go_wp2_with (first | ((with_reducible apply loadP); rfl; rfl; rfl; (focus ((repeat' (first | (with_reducible assumption) | ((with_reducible refine heap_last ?_); (focus (first | (simp; done) | omega | (simp; omega)))) | ((with_reducible refine heap_prev ?_ ?_); (focus (first | (simp; done) | omega | (simp; omega)))) | (with_reducible apply row_heap) | ((with_reducible apply till_set); (focus (first | (simp; done) | omega | (simp; omega)))) | ((with_reducible refine sign_other ?_ ?_); (focus (first | (simp; done) | omega | (simp; omega)))) | ((with_reducible refine row_other ?_ ?_); (focus (first | (simp; done) | omega | (simp; omega)))) | (with_reducible refine drew_heap ?_) | (with_reducible refine drewN_heap ?_))); done)); skip) | ((with_reducible apply storeP); rfl; rfl; rfl; rfl; (focus ((repeat' (first | (with_reducible assumption) | ((with_reducible refine heap_last ?_); (focus (first | (simp; done) | omega | (simp; omega)))) | ((with_reducible refine heap_prev ?_ ?_); (focus (first | (simp; done) | omega | (simp; omega)))) | (with_reducible apply row_heap) | ((with_reducible apply till_set); (focus (first | (simp; done) | omega | (simp; omega)))) | ((with_reducible refine sign_other ?_ ?_); (focus (first | (simp; done) | omega | (simp; omega)))) | ((with_reducible refine row_other ?_ ?_); (focus (first | (simp; done) | omega | (simp; omega)))) | (with_reducible refine drew_heap ?_) | (with_reducible refine drewN_heap ?_))); done)); skip))
  have wc : IntKind.i64.wrap (-c) = -c := by rw [IntKind.wrap_i64]; omega
  have ws : IntKind.i64.wrap (-st) = -st := by rw [IntKind.wrap_i64]; omega
  refine wp_region_held_drew (S := fun w' => w'.heap[w.heap.size + 1]? = some (.cells #[.int .i64 (kb : Int), .int .i64 (ks : Int), .int .i64 c, .int .i64 st, .int .i64 hc, .int .i64 hs, .int .i64 bf, .int .i64 sf] 43 (0, 0))) (by kernel_rfl) (by first | exact td5 | (focus ((repeat' (first | (with_reducible assumption) | ((with_reducible refine heap_last ?_); (focus (first | (simp; done) | omega | (simp; omega)))) | ((with_reducible refine heap_prev ?_ ?_); (focus (first | (simp; done) | omega | (simp; omega)))) | (with_reducible apply row_heap) | ((with_reducible apply till_set); (focus (first | (simp; done) | omega | (simp; omega)))) | ((with_reducible refine sign_other ?_ ?_); (focus (first | (simp; done) | omega | (simp; omega)))) | ((with_reducible refine row_other ?_ ?_); (focus (first | (simp; done) | omega | (simp; omega)))) | (with_reducible refine drew_heap ?_) | (with_reducible refine drewN_heap ?_))); done))) (fun hHeld => ?_)
  refine wpAnyH_take (i := 1) (oi := ⟨some 56, _, _, _, _, _⟩) (v := ?_) rfl (by kernel_rfl) (by kernel_rfl) (by kernel_rfl) (fun _ _ _ h => h) (Or.inl ⟨by kernel_rfl, ?_⟩) (by assumption) ?_
  rotate_left
  · (intro w hSw; (try dsimp only at hSw); go_simp; try with_reducible rfl)
  (try simp only [Act.put, List.setIfInBounds_toArray, List.set_cons_succ, List.set_cons_zero])
  refine wpAnyH_take (i := 2) (oi := ⟨some 57, _, _, _, _, _⟩) (v := ?_) rfl (by kernel_rfl) (by kernel_rfl) (by kernel_rfl) (fun _ _ _ h => h) (Or.inl ⟨by kernel_rfl, ?_⟩) (by assumption) ?_
  rotate_left
  · (intro w hSw; have cc := cell_of_row _ _ 0 _ _ _ hSw; (try dsimp only at hSw); go_simp; try with_reducible rfl)
  (try simp only [Act.put, List.setIfInBounds_toArray, List.set_cons_succ, List.set_cons_zero])
  refine wpAnyH_take (i := 3) (oi := ⟨some 58, _, _, _, _, _⟩) (v := ?_) rfl (by kernel_rfl) (by kernel_rfl) (by kernel_rfl) (fun _ _ _ h => h) (Or.inl ⟨by kernel_rfl, ?_⟩) (by assumption) ?_
  rotate_left
  · (intro w hSw; (try dsimp only at hSw); go_simp; try with_reducible rfl)
  (try simp only [Act.put, List.setIfInBounds_toArray, List.set_cons_succ, List.set_cons_zero])
  refine wpAnyH_take (i := 4) (oi := ⟨some 59, _, _, _, _, _⟩) (v := ?_) rfl (by kernel_rfl) (by kernel_rfl) (by kernel_rfl) (fun _ _ _ h => h) (Or.inl ⟨by kernel_rfl, ?_⟩) (by assumption) ?_
  rotate_left
  · (intro w hSw; have cc := cell_of_row _ _ 2 _ _ _ hSw; (try dsimp only at hSw); go_simp; try with_reducible rfl)
  (try simp only [Act.put, List.setIfInBounds_toArray, List.set_cons_succ, List.set_cons_zero])
  refine wpAnyH_take (i := 5) (oi := ⟨some 60, _, _, _, _, _⟩) (v := ?_) rfl (by kernel_rfl) (by kernel_rfl) (by kernel_rfl) (fun _ _ _ h => h) (Or.inl ⟨by kernel_rfl, ?_⟩) (by assumption) ?_
  rotate_left
  · (intro w hSw; (try dsimp only at hSw); go_simp; try with_reducible rfl)
  (try simp only [Act.put, List.setIfInBounds_toArray, List.set_cons_succ, List.set_cons_zero])
  refine wpAnyH_take (i := 7) (oi := ⟨some 62, _, _, _, _, _⟩) (v := ?_) rfl (by kernel_rfl) (by kernel_rfl) (by kernel_rfl) (fun _ _ _ h => h) (Or.inl ⟨by kernel_rfl, ?_⟩) (by assumption) ?_
  rotate_left
  · (intro w hSw; (try dsimp only at hSw); go_simp; try with_reducible rfl)
  (try simp only [Act.put, List.setIfInBounds_toArray, List.set_cons_succ, List.set_cons_zero])
  refine wpAnyH_take (i := 8) (oi := ⟨some 63, _, _, _, _, _⟩) (v := ?_) rfl (by kernel_rfl) (by kernel_rfl) (by kernel_rfl) (fun _ _ _ h => h) (Or.inl ⟨by kernel_rfl, ?_⟩) (by assumption) ?_
  rotate_left
  · (intro w hSw; have cc := cell_of_row _ _ 1 _ _ _ hSw; (try dsimp only at hSw); go_simp; try with_reducible rfl)
  (try simp only [Act.put, List.setIfInBounds_toArray, List.set_cons_succ, List.set_cons_zero])
  refine wpAnyH_take (i := 9) (oi := ⟨some 64, _, _, _, _, _⟩) (v := ?_) rfl (by kernel_rfl) (by kernel_rfl) (by kernel_rfl) (fun _ _ _ h => h) (Or.inl ⟨by kernel_rfl, ?_⟩) (by assumption) ?_
  rotate_left
  · (intro w hSw; (try dsimp only at hSw); go_simp; try with_reducible rfl)
  (try simp only [Act.put, List.setIfInBounds_toArray, List.set_cons_succ, List.set_cons_zero])
  refine wpAnyH_take (i := 10) (oi := ⟨some 65, _, _, _, _, _⟩) (v := ?_) rfl (by kernel_rfl) (by kernel_rfl) (by kernel_rfl) (fun _ _ _ h => h) (Or.inl ⟨by kernel_rfl, ?_⟩) (by assumption) ?_
  rotate_left
  · (intro w hSw; have cc := cell_of_row _ _ 2 _ _ _ hSw; (try dsimp only at hSw); go_simp; try with_reducible rfl)
  (try simp only [Act.put, List.setIfInBounds_toArray, List.set_cons_succ, List.set_cons_zero])
  refine wpAnyH_ready (rs := [0]) (by kernel_rfl) (by simp) ?_
  refine AllReadyH.cons (o := ⟨some 55, _, _, _, _, _⟩) rfl (fun K hK => ?_) AllReadyH.nil
  ((with_reducible apply any_loadP); rfl; rfl; rfl; (focus ((repeat' (first | (with_reducible assumption) | ((with_reducible refine heap_last ?_); (focus (first | (simp; done) | omega | (simp; omega)))) | ((with_reducible refine heap_prev ?_ ?_); (focus (first | (simp; done) | omega | (simp; omega)))) | (with_reducible apply row_heap) | ((with_reducible apply till_set); (focus (first | (simp; done) | omega | (simp; omega)))) | ((with_reducible refine sign_other ?_ ?_); (focus (first | (simp; done) | omega | (simp; omega)))) | ((with_reducible refine row_other ?_ ?_); (focus (first | (simp; done) | omega | (simp; omega)))) | (with_reducible refine drew_heap ?_) | (with_reducible refine drewN_heap ?_))); done)); skip)
  refine hK.out _ _ (by assumption) (fun hHeld => ?_)
  clear hK K
  (try simp only [Act.put, List.setIfInBounds_toArray, List.set_cons_succ, List.set_cons_zero])
  refine wpAnyH_ready (rs := [6]) (by kernel_rfl) (by simp) ?_
  refine AllReadyH.cons (o := ⟨some 61, _, _, _, _, _⟩) rfl (fun K hK => ?_) AllReadyH.nil
  go_simp
  ((with_reducible refine (HM1.out _).mono ?_); rintro e w6 ⟨rfl, b6⟩)
  obtain ⟨t06, tr6, tt6, td6⟩ : w6.heap[w.heap.size]? = some (.cells (TC z) 26 (0, 0)) ∧ w6.heap[w.heap.size + 2]? = some (.cells (TC zT) 26 (0, 0)) ∧ w6.heap[w2.heap.size]? = some (.cells (TC z2) 26 (0, 0)) ∧ w6.heap[w.heap.size + 1]? = some (.cells #[.int .i64 (kb : Int), .int .i64 (ks : Int), .int .i64 c, .int .i64 st, .int .i64 hc, .int .i64 hs, .int .i64 bf, .int .i64 sf] 43 (0, 0)) := by refine ⟨?_, ?_, ?_, ?_⟩ <;> (rw [b6.block _ (by (focus (first | (simp; done) | omega | (simp; omega))))]; (focus ((repeat' (first | (with_reducible assumption) | ((with_reducible refine heap_last ?_); (focus (first | (simp; done) | omega | (simp; omega)))) | ((with_reducible refine heap_prev ?_ ?_); (focus (first | (simp; done) | omega | (simp; omega)))) | (with_reducible apply row_heap) | ((with_reducible apply till_set); (focus (first | (simp; done) | omega | (simp; omega)))) | ((with_reducible refine sign_other ?_ ?_); (focus (first | (simp; done) | omega | (simp; omega)))) | ((with_reducible refine row_other ?_ ?_); (focus (first | (simp; done) | omega | (simp; omega)))) | (with_reducible refine drew_heap ?_) | (with_reducible refine drewN_heap ?_))); done)))
  have zz6 : w2.heap.size + 1 ≤ w6.heap.size := by have := b6.size; (try simp at this); omega
  have B6 : Below w.heap.size w w6 := Below.trans (by (focus ((repeat' (first | (with_reducible exact Below.refl _ _) | (with_reducible assumption) | (with_reducible refine Below.alloc ?_ ?_ _) | (with_reducible refine Below.setCell ?_ ?_ _) | (with_reducible refine Below.row ?_ ?_ _) | (with_reducible refine Below.drew ?_) | (with_reducible refine below_drewN ?_ _) | (focus (first | (simp; done) | omega | (simp; omega))))); done))) (b6.mono (by (focus (first | (simp; done) | omega | (simp; omega)))))
  clear b6 HM1 t05 tr5 tt5 td5  B5
  refine hK.out _ _ (by exact td6) (fun hHeld => ?_)
  clear hK K
  (try simp only [Act.put, List.setIfInBounds_toArray, List.set_cons_succ, List.set_cons_zero])
  refine wpAnyH_ready (rs := [11]) (by kernel_rfl) (by simp) ?_
  refine AllReadyH.cons (o := ⟨some 66, _, _, _, _, _⟩) rfl (fun K hK => ?_) AllReadyH.nil
  go_simp
  ((with_reducible refine (HM2.out _).mono ?_); rintro e w7 ⟨rfl, b7⟩)
  obtain ⟨t07, tr7, tt7, td7⟩ : w7.heap[w.heap.size]? = some (.cells (TC z) 26 (0, 0)) ∧ w7.heap[w.heap.size + 2]? = some (.cells (TC zT) 26 (0, 0)) ∧ w7.heap[w2.heap.size]? = some (.cells (TC z2) 26 (0, 0)) ∧ w7.heap[w.heap.size + 1]? = some (.cells #[.int .i64 (kb : Int), .int .i64 (ks : Int), .int .i64 c, .int .i64 st, .int .i64 hc, .int .i64 hs, .int .i64 bf, .int .i64 sf] 43 (0, 0)) := by refine ⟨?_, ?_, ?_, ?_⟩ <;> (rw [b7.block _ (by (focus (first | (simp; done) | omega | (simp; omega))))]; (focus ((repeat' (first | (with_reducible assumption) | ((with_reducible refine heap_last ?_); (focus (first | (simp; done) | omega | (simp; omega)))) | ((with_reducible refine heap_prev ?_ ?_); (focus (first | (simp; done) | omega | (simp; omega)))) | (with_reducible apply row_heap) | ((with_reducible apply till_set); (focus (first | (simp; done) | omega | (simp; omega)))) | ((with_reducible refine sign_other ?_ ?_); (focus (first | (simp; done) | omega | (simp; omega)))) | ((with_reducible refine row_other ?_ ?_); (focus (first | (simp; done) | omega | (simp; omega)))) | (with_reducible refine drew_heap ?_) | (with_reducible refine drewN_heap ?_))); done)))
  have zz7 : w2.heap.size + 1 ≤ w7.heap.size := by have := b7.size; (try simp at this); omega
  have B7 : Below w.heap.size w w7 := Below.trans (by (focus ((repeat' (first | (with_reducible exact Below.refl _ _) | (with_reducible assumption) | (with_reducible refine Below.alloc ?_ ?_ _) | (with_reducible refine Below.setCell ?_ ?_ _) | (with_reducible refine Below.row ?_ ?_ _) | (with_reducible refine Below.drew ?_) | (with_reducible refine below_drewN ?_ _) | (focus (first | (simp; done) | omega | (simp; omega))))); done))) (b7.mono (by (focus (first | (simp; done) | omega | (simp; omega)))))
  clear b7 HM2 t06 tr6 tt6 td6  B6
  refine hK.out _ _ (by exact td7) (fun hHeld => ?_)
  clear hK K
  (try simp only [Act.put, List.setIfInBounds_toArray, List.set_cons_succ, List.set_cons_zero])
  refine wpAnyH_ready (rs := [12]) (by kernel_rfl) (by simp) ?_
  refine AllReadyH.cons (o := ⟨none, _, _, _, _, _⟩) rfl (fun K hK => ?_) AllReadyH.nil
  ((with_reducible apply any_storeP); rfl; rfl; rfl; rfl; (focus ((repeat' (first | (with_reducible assumption) | ((with_reducible refine heap_last ?_); (focus (first | (simp; done) | omega | (simp; omega)))) | ((with_reducible refine heap_prev ?_ ?_); (focus (first | (simp; done) | omega | (simp; omega)))) | (with_reducible apply row_heap) | ((with_reducible apply till_set); (focus (first | (simp; done) | omega | (simp; omega)))) | ((with_reducible refine sign_other ?_ ?_); (focus (first | (simp; done) | omega | (simp; omega)))) | ((with_reducible refine row_other ?_ ?_); (focus (first | (simp; done) | omega | (simp; omega)))) | (with_reducible refine drew_heap ?_) | (with_reducible refine drewN_heap ?_))); done)); skip)
  refine hK.out _ _ (by (focus ((repeat' (first | (with_reducible assumption) | ((with_reducible refine heap_last ?_); (focus (first | (simp; done) | omega | (simp; omega)))) | ((with_reducible refine heap_prev ?_ ?_); (focus (first | (simp; done) | omega | (simp; omega)))) | (with_reducible apply row_heap) | ((with_reducible apply till_set); (focus (first | (simp; done) | omega | (simp; omega)))) | ((with_reducible refine sign_other ?_ ?_); (focus (first | (simp; done) | omega | (simp; omega)))) | ((with_reducible refine row_other ?_ ?_); (focus (first | (simp; done) | omega | (simp; omega)))) | (with_reducible refine drew_heap ?_) | (with_reducible refine drewN_heap ?_))); done))) (fun hHeld => ?_)
  clear hK K
  (try simp only [Act.put, List.setIfInBounds_toArray, List.set_cons_succ, List.set_cons_zero])
  refine wpAnyH_done (by kernel_rfl) ?_ _
  go_wp2_with fail
  refine wp_region_held_drew (S := fun w' => w'.heap[w.heap.size + 1]? = some (.cells #[.int .i64 (kb : Int), .int .i64 (ks : Int), .int .i64 c, .int .i64 st, .int .i64 hc, .int .i64 hs, .int .i64 bf, .int .i64 sf] 43 (0, 0))) (by kernel_rfl) (by first | exact td7 | (focus ((repeat' (first | (with_reducible assumption) | ((with_reducible refine heap_last ?_); (focus (first | (simp; done) | omega | (simp; omega)))) | ((with_reducible refine heap_prev ?_ ?_); (focus (first | (simp; done) | omega | (simp; omega)))) | (with_reducible apply row_heap) | ((with_reducible apply till_set); (focus (first | (simp; done) | omega | (simp; omega)))) | ((with_reducible refine sign_other ?_ ?_); (focus (first | (simp; done) | omega | (simp; omega)))) | ((with_reducible refine row_other ?_ ?_); (focus (first | (simp; done) | omega | (simp; omega)))) | (with_reducible refine drew_heap ?_) | (with_reducible refine drewN_heap ?_))); done))) (fun hHeld => ?_)
  refine wpAnyH_take (i := 1) (oi := ⟨some 68, _, _, _, _, _⟩) (v := ?_) rfl (by kernel_rfl) (by kernel_rfl) (by kernel_rfl) (fun _ _ _ h => h) (Or.inl ⟨by kernel_rfl, ?_⟩) (by assumption) ?_
  rotate_left
  · (intro w hSw; (try dsimp only at hSw); go_simp; try with_reducible rfl)
  (try simp only [Act.put, List.setIfInBounds_toArray, List.set_cons_succ, List.set_cons_zero])
  refine wpAnyH_take (i := 2) (oi := ⟨some 69, _, _, _, _, _⟩) (v := ?_) rfl (by kernel_rfl) (by kernel_rfl) (by kernel_rfl) (fun _ _ _ h => h) (Or.inl ⟨by kernel_rfl, ?_⟩) (by assumption) ?_
  rotate_left
  · (intro w hSw; have cc := cell_of_row _ _ 1 _ _ _ hSw; (try dsimp only at hSw); go_simp; try with_reducible rfl)
  (try simp only [Act.put, List.setIfInBounds_toArray, List.set_cons_succ, List.set_cons_zero])
  refine wpAnyH_take (i := 3) (oi := ⟨some 70, _, _, _, _, _⟩) (v := ?_) rfl (by kernel_rfl) (by kernel_rfl) (by kernel_rfl) (fun _ _ _ h => h) (Or.inl ⟨by kernel_rfl, ?_⟩) (by assumption) ?_
  rotate_left
  · (intro w hSw; (try dsimp only at hSw); go_simp; try with_reducible rfl)
  (try simp only [Act.put, List.setIfInBounds_toArray, List.set_cons_succ, List.set_cons_zero])
  refine wpAnyH_take (i := 4) (oi := ⟨some 71, _, _, _, _, _⟩) (v := ?_) rfl (by kernel_rfl) (by kernel_rfl) (by kernel_rfl) (fun _ _ _ h => h) (Or.inl ⟨by kernel_rfl, ?_⟩) (by assumption) ?_
  rotate_left
  · (intro w hSw; have cc := cell_of_row _ _ 3 _ _ _ hSw; (try dsimp only at hSw); go_simp; try with_reducible rfl)
  (try simp only [Act.put, List.setIfInBounds_toArray, List.set_cons_succ, List.set_cons_zero])
  refine wpAnyH_take (i := 5) (oi := ⟨some 72, _, _, _, _, _⟩) (v := ?_) rfl (by kernel_rfl) (by kernel_rfl) (by kernel_rfl) (fun _ _ _ h => h) (Or.inl ⟨by kernel_rfl, ?_⟩) (by assumption) ?_
  rotate_left
  · (intro w hSw; (try dsimp only at hSw); go_simp; try with_reducible rfl)
  (try simp only [Act.put, List.setIfInBounds_toArray, List.set_cons_succ, List.set_cons_zero])
  refine wpAnyH_take (i := 7) (oi := ⟨some 74, _, _, _, _, _⟩) (v := ?_) rfl (by kernel_rfl) (by kernel_rfl) (by kernel_rfl) (fun _ _ _ h => h) (Or.inl ⟨by kernel_rfl, ?_⟩) (by assumption) ?_
  rotate_left
  · (intro w hSw; (try dsimp only at hSw); go_simp; try with_reducible rfl)
  (try simp only [Act.put, List.setIfInBounds_toArray, List.set_cons_succ, List.set_cons_zero])
  refine wpAnyH_take (i := 8) (oi := ⟨some 75, _, _, _, _, _⟩) (v := ?_) rfl (by kernel_rfl) (by kernel_rfl) (by kernel_rfl) (fun _ _ _ h => h) (Or.inl ⟨by kernel_rfl, ?_⟩) (by assumption) ?_
  rotate_left
  · (intro w hSw; have cc := cell_of_row _ _ 0 _ _ _ hSw; (try dsimp only at hSw); go_simp; try with_reducible rfl)
  (try simp only [Act.put, List.setIfInBounds_toArray, List.set_cons_succ, List.set_cons_zero])
  refine wpAnyH_take (i := 9) (oi := ⟨some 76, _, _, _, _, _⟩) (v := ?_) rfl (by kernel_rfl) (by kernel_rfl) (by kernel_rfl) (fun _ _ _ h => h) (Or.inl ⟨by kernel_rfl, ?_⟩) (by assumption) ?_
  rotate_left
  · (intro w hSw; (try dsimp only at hSw); go_simp; try with_reducible rfl)
  (try simp only [Act.put, List.setIfInBounds_toArray, List.set_cons_succ, List.set_cons_zero])
  refine wpAnyH_take (i := 10) (oi := ⟨some 77, _, _, _, _, _⟩) (v := ?_) rfl (by kernel_rfl) (by kernel_rfl) (by kernel_rfl) (fun _ _ _ h => h) (Or.inl ⟨by kernel_rfl, ?_⟩) (by assumption) ?_
  rotate_left
  · (intro w hSw; have cc := cell_of_row _ _ 3 _ _ _ hSw; (try dsimp only at hSw); go_simp; try with_reducible rfl)
  (try simp only [Act.put, List.setIfInBounds_toArray, List.set_cons_succ, List.set_cons_zero])
  refine wpAnyH_ready (rs := [0]) (by kernel_rfl) (by simp) ?_
  refine AllReadyH.cons (o := ⟨some 67, _, _, _, _, _⟩) rfl (fun K hK => ?_) AllReadyH.nil
  ((with_reducible apply any_loadP); rfl; rfl; rfl; (focus ((repeat' (first | (with_reducible assumption) | ((with_reducible refine heap_last ?_); (focus (first | (simp; done) | omega | (simp; omega)))) | ((with_reducible refine heap_prev ?_ ?_); (focus (first | (simp; done) | omega | (simp; omega)))) | (with_reducible apply row_heap) | ((with_reducible apply till_set); (focus (first | (simp; done) | omega | (simp; omega)))) | ((with_reducible refine sign_other ?_ ?_); (focus (first | (simp; done) | omega | (simp; omega)))) | ((with_reducible refine row_other ?_ ?_); (focus (first | (simp; done) | omega | (simp; omega)))) | (with_reducible refine drew_heap ?_) | (with_reducible refine drewN_heap ?_))); done)); skip)
  refine hK.out _ _ (by assumption) (fun hHeld => ?_)
  clear hK K
  (try simp only [Act.put, List.setIfInBounds_toArray, List.set_cons_succ, List.set_cons_zero])
  refine wpAnyH_ready (rs := [6]) (by kernel_rfl) (by simp) ?_
  refine AllReadyH.cons (o := ⟨some 73, _, _, _, _, _⟩) rfl (fun K hK => ?_) AllReadyH.nil
  go_simp
  ((with_reducible refine (HM3.out _).mono ?_); rintro e w8 ⟨rfl, b8⟩)
  obtain ⟨t08, tr8, tt8, td8⟩ : w8.heap[w.heap.size]? = some (.cells (TC z) 26 (0, 0)) ∧ w8.heap[w.heap.size + 2]? = some (.cells (TC zT) 26 (0, 0)) ∧ w8.heap[w2.heap.size]? = some (.cells (TC z4) 26 (0, 0)) ∧ w8.heap[w.heap.size + 1]? = some (.cells #[.int .i64 (kb : Int), .int .i64 (ks : Int), .int .i64 c, .int .i64 st, .int .i64 hc, .int .i64 hs, .int .i64 bf, .int .i64 sf] 43 (0, 0)) := by refine ⟨?_, ?_, ?_, ?_⟩ <;> (rw [b8.block _ (by (focus (first | (simp; done) | omega | (simp; omega))))]; (focus ((repeat' (first | (with_reducible assumption) | ((with_reducible refine heap_last ?_); (focus (first | (simp; done) | omega | (simp; omega)))) | ((with_reducible refine heap_prev ?_ ?_); (focus (first | (simp; done) | omega | (simp; omega)))) | (with_reducible apply row_heap) | ((with_reducible apply till_set); (focus (first | (simp; done) | omega | (simp; omega)))) | ((with_reducible refine sign_other ?_ ?_); (focus (first | (simp; done) | omega | (simp; omega)))) | ((with_reducible refine row_other ?_ ?_); (focus (first | (simp; done) | omega | (simp; omega)))) | (with_reducible refine drew_heap ?_) | (with_reducible refine drewN_heap ?_))); done)))
  have zz8 : w2.heap.size + 1 ≤ w8.heap.size := by have := b8.size; (try simp at this); omega
  have B8 : Below w.heap.size w w8 := Below.trans (by (focus ((repeat' (first | (with_reducible exact Below.refl _ _) | (with_reducible assumption) | (with_reducible refine Below.alloc ?_ ?_ _) | (with_reducible refine Below.setCell ?_ ?_ _) | (with_reducible refine Below.row ?_ ?_ _) | (with_reducible refine Below.drew ?_) | (with_reducible refine below_drewN ?_ _) | (focus (first | (simp; done) | omega | (simp; omega))))); done))) (b8.mono (by (focus (first | (simp; done) | omega | (simp; omega)))))
  clear b8 HM3 t07 tr7 tt7 td7  B7
  refine hK.out _ _ (by exact td8) (fun hHeld => ?_)
  clear hK K
  (try simp only [Act.put, List.setIfInBounds_toArray, List.set_cons_succ, List.set_cons_zero])
  refine wpAnyH_ready (rs := [11]) (by kernel_rfl) (by simp) ?_
  refine AllReadyH.cons (o := ⟨some 78, _, _, _, _, _⟩) rfl (fun K hK => ?_) AllReadyH.nil
  go_simp
  ((with_reducible refine (HM4.out _).mono ?_); rintro e w9 ⟨rfl, b9⟩)
  obtain ⟨t09, tr9, tt9, td9⟩ : w9.heap[w.heap.size]? = some (.cells (TC z) 26 (0, 0)) ∧ w9.heap[w.heap.size + 2]? = some (.cells (TC zT) 26 (0, 0)) ∧ w9.heap[w2.heap.size]? = some (.cells (TC z4) 26 (0, 0)) ∧ w9.heap[w.heap.size + 1]? = some (.cells #[.int .i64 (kb : Int), .int .i64 (ks : Int), .int .i64 c, .int .i64 st, .int .i64 hc, .int .i64 hs, .int .i64 bf, .int .i64 sf] 43 (0, 0)) := by refine ⟨?_, ?_, ?_, ?_⟩ <;> (rw [b9.block _ (by (focus (first | (simp; done) | omega | (simp; omega))))]; (focus ((repeat' (first | (with_reducible assumption) | ((with_reducible refine heap_last ?_); (focus (first | (simp; done) | omega | (simp; omega)))) | ((with_reducible refine heap_prev ?_ ?_); (focus (first | (simp; done) | omega | (simp; omega)))) | (with_reducible apply row_heap) | ((with_reducible apply till_set); (focus (first | (simp; done) | omega | (simp; omega)))) | ((with_reducible refine sign_other ?_ ?_); (focus (first | (simp; done) | omega | (simp; omega)))) | ((with_reducible refine row_other ?_ ?_); (focus (first | (simp; done) | omega | (simp; omega)))) | (with_reducible refine drew_heap ?_) | (with_reducible refine drewN_heap ?_))); done)))
  have zz9 : w2.heap.size + 1 ≤ w9.heap.size := by have := b9.size; (try simp at this); omega
  have B9 : Below w.heap.size w w9 := Below.trans (by (focus ((repeat' (first | (with_reducible exact Below.refl _ _) | (with_reducible assumption) | (with_reducible refine Below.alloc ?_ ?_ _) | (with_reducible refine Below.setCell ?_ ?_ _) | (with_reducible refine Below.row ?_ ?_ _) | (with_reducible refine Below.drew ?_) | (with_reducible refine below_drewN ?_ _) | (focus (first | (simp; done) | omega | (simp; omega))))); done))) (b9.mono (by (focus (first | (simp; done) | omega | (simp; omega)))))
  clear b9 HM4 t08 tr8 tt8 td8  B8
  refine hK.out _ _ (by exact td9) (fun hHeld => ?_)
  clear hK K
  (try simp only [Act.put, List.setIfInBounds_toArray, List.set_cons_succ, List.set_cons_zero])
  refine wpAnyH_ready (rs := [12]) (by kernel_rfl) (by simp) ?_
  refine AllReadyH.cons (o := ⟨none, _, _, _, _, _⟩) rfl (fun K hK => ?_) AllReadyH.nil
  ((with_reducible apply any_storeP); rfl; rfl; rfl; rfl; (focus ((repeat' (first | (with_reducible assumption) | ((with_reducible refine heap_last ?_); (focus (first | (simp; done) | omega | (simp; omega)))) | ((with_reducible refine heap_prev ?_ ?_); (focus (first | (simp; done) | omega | (simp; omega)))) | (with_reducible apply row_heap) | ((with_reducible apply till_set); (focus (first | (simp; done) | omega | (simp; omega)))) | ((with_reducible refine sign_other ?_ ?_); (focus (first | (simp; done) | omega | (simp; omega)))) | ((with_reducible refine row_other ?_ ?_); (focus (first | (simp; done) | omega | (simp; omega)))) | (with_reducible refine drew_heap ?_) | (with_reducible refine drewN_heap ?_))); done)); skip)
  refine hK.out _ _ (by (focus ((repeat' (first | (with_reducible assumption) | ((with_reducible refine heap_last ?_); (focus (first | (simp; done) | omega | (simp; omega)))) | ((with_reducible refine heap_prev ?_ ?_); (focus (first | (simp; done) | omega | (simp; omega)))) | (with_reducible apply row_heap) | ((with_reducible apply till_set); (focus (first | (simp; done) | omega | (simp; omega)))) | ((with_reducible refine sign_other ?_ ?_); (focus (first | (simp; done) | omega | (simp; omega)))) | ((with_reducible refine row_other ?_ ?_); (focus (first | (simp; done) | omega | (simp; omega)))) | (with_reducible refine drew_heap ?_) | (with_reducible refine drewN_heap ?_))); done))) (fun hHeld => ?_)
  clear hK K
  (try simp only [Act.put, List.setIfInBounds_toArray, List.set_cons_succ, List.set_cons_zero])
  refine wpAnyH_done (by kernel_rfl) ?_ _
  go_wp2_with fail
  refine wp_region_held_drew (S := fun w' => w'.heap[w.heap.size + 1]? = some (.cells #[.int .i64 (kb : Int), .int .i64 (ks : Int), .int .i64 c, .int .i64 st, .int .i64 hc, .int .i64 hs, .int .i64 bf, .int .i64 sf] 43 (0, 0))) (by kernel_rfl) (by first | exact td9 | (focus ((repeat' (first | (with_reducible assumption) | ((with_reducible refine heap_last ?_); (focus (first | (simp; done) | omega | (simp; omega)))) | ((with_reducible refine heap_prev ?_ ?_); (focus (first | (simp; done) | omega | (simp; omega)))) | (with_reducible apply row_heap) | ((with_reducible apply till_set); (focus (first | (simp; done) | omega | (simp; omega)))) | ((with_reducible refine sign_other ?_ ?_); (focus (first | (simp; done) | omega | (simp; omega)))) | ((with_reducible refine row_other ?_ ?_); (focus (first | (simp; done) | omega | (simp; omega)))) | (with_reducible refine drew_heap ?_) | (with_reducible refine drewN_heap ?_))); done))) (fun hHeld => ?_)
  refine wpAnyH_take (i := 1) (oi := ⟨some 80, _, _, _, _, _⟩) (v := ?_) rfl (by kernel_rfl) (by kernel_rfl) (by kernel_rfl) (fun _ _ _ h => h) (Or.inl ⟨by kernel_rfl, ?_⟩) (by assumption) ?_
  rotate_left
  · (intro w hSw; (try dsimp only at hSw); go_simp; try with_reducible rfl)
  (try simp only [Act.put, List.setIfInBounds_toArray, List.set_cons_succ, List.set_cons_zero])
  refine wpAnyH_take (i := 2) (oi := ⟨some 81, _, _, _, _, _⟩) (v := ?_) rfl (by kernel_rfl) (by kernel_rfl) (by kernel_rfl) (fun _ _ _ h => h) (Or.inl ⟨by kernel_rfl, ?_⟩) (by assumption) ?_
  rotate_left
  · (intro w hSw; have cc := cell_of_row _ _ 0 _ _ _ hSw; (try dsimp only at hSw); go_simp; try with_reducible rfl)
  (try simp only [Act.put, List.setIfInBounds_toArray, List.set_cons_succ, List.set_cons_zero])
  refine wpAnyH_take (i := 3) (oi := ⟨some 82, _, _, _, _, _⟩) (v := ?_) rfl (by kernel_rfl) (by kernel_rfl) (by kernel_rfl) (fun _ _ _ h => h) (Or.inl ⟨by kernel_rfl, ?_⟩) (by assumption) ?_
  rotate_left
  · (intro w hSw; (try dsimp only at hSw); go_simp; try with_reducible rfl)
  (try simp only [Act.put, List.setIfInBounds_toArray, List.set_cons_succ, List.set_cons_zero])
  refine wpAnyH_take (i := 4) (oi := ⟨some 83, _, _, _, _, _⟩) (v := ?_) rfl (by kernel_rfl) (by kernel_rfl) (by kernel_rfl) (fun _ _ _ h => h) (Or.inl ⟨by kernel_rfl, ?_⟩) (by assumption) ?_
  rotate_left
  · (intro w hSw; have cc := cell_of_row _ _ 6 _ _ _ hSw; (try dsimp only at hSw); go_simp; try with_reducible rfl)
  (try simp only [Act.put, List.setIfInBounds_toArray, List.set_cons_succ, List.set_cons_zero])
  refine wpAnyH_take (i := 5) (oi := ⟨some 84, _, _, _, _, _⟩) (v := ?_) rfl (by kernel_rfl) (by kernel_rfl) (by kernel_rfl) (fun _ _ _ h => h) (Or.inl ⟨by kernel_rfl, ?_⟩) (by assumption) ?_
  rotate_left
  · (intro w hSw; (try dsimp only at hSw); go_simp; try with_reducible rfl)
  (try simp only [Act.put, List.setIfInBounds_toArray, List.set_cons_succ, List.set_cons_zero])
  refine wpAnyH_take (i := 6) (oi := ⟨some 85, _, _, _, _, _⟩) (v := ?_) rfl (by kernel_rfl) (by kernel_rfl) (by kernel_rfl) (fun _ _ _ h => h) (Or.inl ⟨by kernel_rfl, ?_⟩) (by assumption) ?_
  rotate_left
  · (intro w hSw; have cc := cell_of_row _ _ 2 _ _ _ hSw; (try dsimp only at hSw); go_simp; try with_reducible rfl)
  (try simp only [Act.put, List.setIfInBounds_toArray, List.set_cons_succ, List.set_cons_zero])
  refine wpAnyH_take (i := 8) (oi := ⟨some 87, _, _, _, _, _⟩) (v := ?_) rfl (by kernel_rfl) (by kernel_rfl) (by kernel_rfl) (fun _ _ _ h => h) (Or.inl ⟨by kernel_rfl, ?_⟩) (by assumption) ?_
  rotate_left
  · (intro w hSw; (try dsimp only at hSw); go_simp; try with_reducible rfl)
  (try simp only [Act.put, List.setIfInBounds_toArray, List.set_cons_succ, List.set_cons_zero])
  refine wpAnyH_take (i := 9) (oi := ⟨some 88, _, _, _, _, _⟩) (v := ?_) rfl (by kernel_rfl) (by kernel_rfl) (by kernel_rfl) (fun _ _ _ h => h) (Or.inl ⟨by kernel_rfl, ?_⟩) (by assumption) ?_
  rotate_left
  · (intro w hSw; have cc := cell_of_row _ _ 1 _ _ _ hSw; (try dsimp only at hSw); go_simp; try with_reducible rfl)
  (try simp only [Act.put, List.setIfInBounds_toArray, List.set_cons_succ, List.set_cons_zero])
  refine wpAnyH_take (i := 10) (oi := ⟨some 89, _, _, _, _, _⟩) (v := ?_) rfl (by kernel_rfl) (by kernel_rfl) (by kernel_rfl) (fun _ _ _ h => h) (Or.inl ⟨by kernel_rfl, ?_⟩) (by assumption) ?_
  rotate_left
  · (intro w hSw; (try dsimp only at hSw); go_simp; try with_reducible rfl)
  (try simp only [Act.put, List.setIfInBounds_toArray, List.set_cons_succ, List.set_cons_zero])
  refine wpAnyH_take (i := 11) (oi := ⟨some 90, _, _, _, _, _⟩) (v := ?_) rfl (by kernel_rfl) (by kernel_rfl) (by kernel_rfl) (fun _ _ _ h => h) (Or.inl ⟨by kernel_rfl, ?_⟩) (by assumption) ?_
  rotate_left
  · (intro w hSw; have cc := cell_of_row _ _ 7 _ _ _ hSw; (try dsimp only at hSw); go_simp; try with_reducible rfl)
  (try simp only [Act.put, List.setIfInBounds_toArray, List.set_cons_succ, List.set_cons_zero])
  refine wpAnyH_take (i := 12) (oi := ⟨some 91, _, _, _, _, _⟩) (v := ?_) rfl (by kernel_rfl) (by kernel_rfl) (by kernel_rfl) (fun _ _ _ h => h) (Or.inl ⟨by kernel_rfl, ?_⟩) (by assumption) ?_
  rotate_left
  · (intro w hSw; (try dsimp only at hSw); go_simp; try with_reducible rfl)
  (try simp only [Act.put, List.setIfInBounds_toArray, List.set_cons_succ, List.set_cons_zero])
  refine wpAnyH_take (i := 13) (oi := ⟨some 92, _, _, _, _, _⟩) (v := ?_) rfl (by kernel_rfl) (by kernel_rfl) (by kernel_rfl) (fun _ _ _ h => h) (Or.inl ⟨by kernel_rfl, ?_⟩) (by assumption) ?_
  rotate_left
  · (intro w hSw; have cc := cell_of_row _ _ 2 _ _ _ hSw; (try dsimp only at hSw); go_simp; try with_reducible rfl)
  (try simp only [Act.put, List.setIfInBounds_toArray, List.set_cons_succ, List.set_cons_zero])
  refine wpAnyH_ready (rs := [0]) (by kernel_rfl) (by simp) ?_
  refine AllReadyH.cons (o := ⟨some 79, _, _, _, _, _⟩) rfl (fun K hK => ?_) AllReadyH.nil
  ((with_reducible apply any_loadP); rfl; rfl; rfl; (focus ((repeat' (first | (with_reducible assumption) | ((with_reducible refine heap_last ?_); (focus (first | (simp; done) | omega | (simp; omega)))) | ((with_reducible refine heap_prev ?_ ?_); (focus (first | (simp; done) | omega | (simp; omega)))) | (with_reducible apply row_heap) | ((with_reducible apply till_set); (focus (first | (simp; done) | omega | (simp; omega)))) | ((with_reducible refine sign_other ?_ ?_); (focus (first | (simp; done) | omega | (simp; omega)))) | ((with_reducible refine row_other ?_ ?_); (focus (first | (simp; done) | omega | (simp; omega)))) | (with_reducible refine drew_heap ?_) | (with_reducible refine drewN_heap ?_))); done)); skip)
  refine hK.out _ _ (by assumption) (fun hHeld => ?_)
  clear hK K
  (try simp only [Act.put, List.setIfInBounds_toArray, List.set_cons_succ, List.set_cons_zero])
  refine wpAnyH_ready (rs := [7]) (by kernel_rfl) (by simp) ?_
  refine AllReadyH.cons (o := ⟨some 86, _, _, _, _, _⟩) rfl (fun K hK => ?_) AllReadyH.nil
  go_simp
  ((with_reducible refine (HC1.out _).mono ?_); rintro e w10 ⟨rfl, b10⟩)
  obtain ⟨t010, tr10, tt10, td10⟩ : w10.heap[w.heap.size]? = some (.cells (TC z) 26 (0, 0)) ∧ w10.heap[w.heap.size + 2]? = some (.cells (TC zT) 26 (0, 0)) ∧ w10.heap[w2.heap.size]? = some (.cells (TC z6) 26 (0, 0)) ∧ w10.heap[w.heap.size + 1]? = some (.cells #[.int .i64 (kb : Int), .int .i64 (ks : Int), .int .i64 c, .int .i64 st, .int .i64 hc, .int .i64 hs, .int .i64 bf, .int .i64 sf] 43 (0, 0)) := by refine ⟨?_, ?_, ?_, ?_⟩ <;> (rw [b10.block _ (by (focus (first | (simp; done) | omega | (simp; omega))))]; (focus ((repeat' (first | (with_reducible assumption) | ((with_reducible refine heap_last ?_); (focus (first | (simp; done) | omega | (simp; omega)))) | ((with_reducible refine heap_prev ?_ ?_); (focus (first | (simp; done) | omega | (simp; omega)))) | (with_reducible apply row_heap) | ((with_reducible apply till_set); (focus (first | (simp; done) | omega | (simp; omega)))) | ((with_reducible refine sign_other ?_ ?_); (focus (first | (simp; done) | omega | (simp; omega)))) | ((with_reducible refine row_other ?_ ?_); (focus (first | (simp; done) | omega | (simp; omega)))) | (with_reducible refine drew_heap ?_) | (with_reducible refine drewN_heap ?_))); done)))
  have zz10 : w2.heap.size + 1 ≤ w10.heap.size := by have := b10.size; (try simp at this); omega
  have B10 : Below w.heap.size w w10 := Below.trans (by (focus ((repeat' (first | (with_reducible exact Below.refl _ _) | (with_reducible assumption) | (with_reducible refine Below.alloc ?_ ?_ _) | (with_reducible refine Below.setCell ?_ ?_ _) | (with_reducible refine Below.row ?_ ?_ _) | (with_reducible refine Below.drew ?_) | (with_reducible refine below_drewN ?_ _) | (focus (first | (simp; done) | omega | (simp; omega))))); done))) (b10.mono (by (focus (first | (simp; done) | omega | (simp; omega)))))
  clear b10 HC1 t09 tr9 tt9 td9  B9
  refine hK.out _ _ (by exact td10) (fun hHeld => ?_)
  clear hK K
  (try simp only [Act.put, List.setIfInBounds_toArray, List.set_cons_succ, List.set_cons_zero])
  refine wpAnyH_ready (rs := [14]) (by kernel_rfl) (by simp) ?_
  refine AllReadyH.cons (o := ⟨some 93, _, _, _, _, _⟩) rfl (fun K hK => ?_) AllReadyH.nil
  go_simp
  ((with_reducible refine (HC2.out _).mono ?_); rintro e w11 ⟨rfl, b11⟩)
  obtain ⟨t011, tr11, tt11, td11⟩ : w11.heap[w.heap.size]? = some (.cells (TC z) 26 (0, 0)) ∧ w11.heap[w.heap.size + 2]? = some (.cells (TC zT) 26 (0, 0)) ∧ w11.heap[w2.heap.size]? = some (.cells (TC z6) 26 (0, 0)) ∧ w11.heap[w.heap.size + 1]? = some (.cells #[.int .i64 (kb : Int), .int .i64 (ks : Int), .int .i64 c, .int .i64 st, .int .i64 hc, .int .i64 hs, .int .i64 bf, .int .i64 sf] 43 (0, 0)) := by refine ⟨?_, ?_, ?_, ?_⟩ <;> (rw [b11.block _ (by (focus (first | (simp; done) | omega | (simp; omega))))]; (focus ((repeat' (first | (with_reducible assumption) | ((with_reducible refine heap_last ?_); (focus (first | (simp; done) | omega | (simp; omega)))) | ((with_reducible refine heap_prev ?_ ?_); (focus (first | (simp; done) | omega | (simp; omega)))) | (with_reducible apply row_heap) | ((with_reducible apply till_set); (focus (first | (simp; done) | omega | (simp; omega)))) | ((with_reducible refine sign_other ?_ ?_); (focus (first | (simp; done) | omega | (simp; omega)))) | ((with_reducible refine row_other ?_ ?_); (focus (first | (simp; done) | omega | (simp; omega)))) | (with_reducible refine drew_heap ?_) | (with_reducible refine drewN_heap ?_))); done)))
  have zz11 : w2.heap.size + 1 ≤ w11.heap.size := by have := b11.size; (try simp at this); omega
  have B11 : Below w.heap.size w w11 := Below.trans (by (focus ((repeat' (first | (with_reducible exact Below.refl _ _) | (with_reducible assumption) | (with_reducible refine Below.alloc ?_ ?_ _) | (with_reducible refine Below.setCell ?_ ?_ _) | (with_reducible refine Below.row ?_ ?_ _) | (with_reducible refine Below.drew ?_) | (with_reducible refine below_drewN ?_ _) | (focus (first | (simp; done) | omega | (simp; omega))))); done))) (b11.mono (by (focus (first | (simp; done) | omega | (simp; omega)))))
  clear b11 HC2 t010 tr10 tt10 td10  B10
  refine hK.out _ _ (by exact td11) (fun hHeld => ?_)
  clear hK K
  (try simp only [Act.put, List.setIfInBounds_toArray, List.set_cons_succ, List.set_cons_zero])
  refine wpAnyH_ready (rs := [15]) (by kernel_rfl) (by simp) ?_
  refine AllReadyH.cons (o := ⟨none, _, _, _, _, _⟩) rfl (fun K hK => ?_) AllReadyH.nil
  ((with_reducible apply any_storeP); rfl; rfl; rfl; rfl; (focus ((repeat' (first | (with_reducible assumption) | ((with_reducible refine heap_last ?_); (focus (first | (simp; done) | omega | (simp; omega)))) | ((with_reducible refine heap_prev ?_ ?_); (focus (first | (simp; done) | omega | (simp; omega)))) | (with_reducible apply row_heap) | ((with_reducible apply till_set); (focus (first | (simp; done) | omega | (simp; omega)))) | ((with_reducible refine sign_other ?_ ?_); (focus (first | (simp; done) | omega | (simp; omega)))) | ((with_reducible refine row_other ?_ ?_); (focus (first | (simp; done) | omega | (simp; omega)))) | (with_reducible refine drew_heap ?_) | (with_reducible refine drewN_heap ?_))); done)); skip)
  refine hK.out _ _ (by (focus ((repeat' (first | (with_reducible assumption) | ((with_reducible refine heap_last ?_); (focus (first | (simp; done) | omega | (simp; omega)))) | ((with_reducible refine heap_prev ?_ ?_); (focus (first | (simp; done) | omega | (simp; omega)))) | (with_reducible apply row_heap) | ((with_reducible apply till_set); (focus (first | (simp; done) | omega | (simp; omega)))) | ((with_reducible refine sign_other ?_ ?_); (focus (first | (simp; done) | omega | (simp; omega)))) | ((with_reducible refine row_other ?_ ?_); (focus (first | (simp; done) | omega | (simp; omega)))) | (with_reducible refine drew_heap ?_) | (with_reducible refine drewN_heap ?_))); done))) (fun hHeld => ?_)
  clear hK K
  (try simp only [Act.put, List.setIfInBounds_toArray, List.set_cons_succ, List.set_cons_zero])
  refine wpAnyH_take (i := 16) (oi := ⟨some 5, _, _, _, _, _⟩) (v := ?_) rfl (by kernel_rfl) (by kernel_rfl) (by kernel_rfl) (fun _ _ _ h => h) (Or.inl ⟨by kernel_rfl, ?_⟩) (by assumption) ?_
  rotate_left
  · (intro w hSw; (try dsimp only at hSw); go_simp; try with_reducible rfl)
  (try simp only [Act.put, List.setIfInBounds_toArray, List.set_cons_succ, List.set_cons_zero])
  refine wpAnyH_done (by kernel_rfl) ?_ _
  go_wp2_with fail
  ((with_reducible apply bodyPost_ret); (apply retP2; rfl; rfl; (focus ((repeat' (first | (with_reducible assumption) | ((with_reducible refine heap_last ?_); (focus (first | (simp; done) | omega | (simp; omega)))) | ((with_reducible refine heap_prev ?_ ?_); (focus (first | (simp; done) | omega | (simp; omega)))) | (with_reducible apply row_heap) | ((with_reducible apply till_set); (focus (first | (simp; done) | omega | (simp; omega)))) | ((with_reducible refine sign_other ?_ ?_); (focus (first | (simp; done) | omega | (simp; omega)))) | ((with_reducible refine row_other ?_ ?_); (focus (first | (simp; done) | omega | (simp; omega)))) | (with_reducible refine drew_heap ?_) | (with_reducible refine drewN_heap ?_))); done)); rfl); rfl; skip)
  exact ⟨rfl, by (focus ((repeat' (first | (with_reducible exact Below.refl _ _) | (with_reducible assumption) | (with_reducible refine Below.alloc ?_ ?_ _) | (with_reducible refine Below.setCell ?_ ?_ _) | (with_reducible refine Below.row ?_ ?_ _) | (with_reducible refine Below.drew ?_) | (with_reducible refine below_drewN ?_ _) | (focus (first | (simp; done) | omega | (simp; omega))))); done))⟩
end Go.Proofs.Ytpegkojcemggaab
