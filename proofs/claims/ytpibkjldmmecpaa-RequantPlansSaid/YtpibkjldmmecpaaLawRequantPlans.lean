/-
  RequantPlans: for every input the law returns true, and each argument reads behind the call as it read before. No condition.
-/
import Derived.Test.YtpibkjldmmecpaaRows
import Derived.WalkKit
import Derived.ProofKit
import Derived.OpenShut
import Derived.ShutString
import Derived.ChangeOld
import Derived.Below
import Derived.Carry
import Derived.Test.YtpibkjldmmecpaaRqG
namespace Go.Proofs.Ytpibkjldmmecpaa.requantPlans
open Go.ChangeShapes Go.WideShapes Go.ChangeAt Go.RowKit
open Go.ChangeMaps (open_string shut_string)
set_option linter.unusedVariables false

theorem own : ownKnob Try.prog.godebug = none := by kernel_rfl
theorem laidOut : laidOutB Try.prog = true := by kernel_rfl

/-- A slice of bytes that came in, as the form reads it. -/
def IsRow (w : World) (a : Option Addr) (len cap : Nat) (zs : List Int) : Prop :=
  (a = none ∧ len = 0 ∧ cap = 0 ∧ zs = []) ∨ ∃ x, a = some x ∧ len ≤ cap ∧ cap ≤ maxLen ∧ zs.length = cap ∧ (∀ i, i < zs.length → w.cell? (x.add i) = some (.int .u8 (zs.getD i 0))) ∧ ∀ n ∈ zs, (Lit.int .u8 n).wf = true

set_option maxHeartbeats 8000000 in
set_option maxRecDepth 100000 in
theorem walk (a0 : Option Addr) (len0 cap0 : Nat) (its0 : List Od) (x1 : Rul) (x2 : Od) (w : World) (w0 : Ods w a0 len0 its0 ∧ len0 ≤ cap0 ∧ cap0 ≤ maxLen) (w1 : x1.ok w) (w2 : x2.ok w) :
    Calls Try.prog 3 #[.slice a0 len0 cap0, x1.val, x2.val] w fun e w' => e = .returned (.bool true) ∧ Below w.heap.size w w' := by
  have mixed : Try.prog.follows .mixedOrders = true := by kernel_rfl
  obtain ⟨hO, hc1, hc2⟩ := w0
  have hT : Tks w x1.tkA x1.tkL x1.tkZ := w1.2.1.1
  clear w1 w2
  change Calls Try.prog 3 #[.slice a0 len0 cap0, .agg (RC x1), .agg (OC x2)] w fun e w' => e = .returned (.bool true) ∧ Below w.heap.size w w'
  have HL := Lib.hid lives23_c
  have HLi := Lib.hid (light_c x1)
  obtain ⟨li, hli⟩ : ∃ li, li = (decide (x1.tkL ≤ 20) && decide (x1.feL ≤ 20)) := ⟨_, rfl⟩
  rw [← hli] at HLi
  have TB := Lib.hid (two_boxes w (Obj.cells (RC x1) 26) (Obj.cells (OC x2) 29))
  by_cases h100 : len0 ≤ 100
  case neg =>
    have hz : (100 : Int) < (len0 : Int) := by omega
    clear hO hT h100 hli
    go_enter Try.func3, Try.ntmps3
    go_wp2_with fail
    refine (HL.out _).mono ?_
    rintro e y2 ⟨rfl, k2⟩
    have G2 : Hid (Below w.heap.size w y2) := TB.out.2.2.1.trans (k2.mono TB.out.2.2.1.size)
    clear k2 TB
    go_wp2_with fail
    go_ret
    exact ⟨rfl, G2.out⟩
  have hz : ¬ (100 : Int) < (len0 : Int) := by omega
  have HO := Lib.hid hO
  have HN := Lib.hid hO.1
  have HTk := Lib.hid hT
  have HPl := Lib.hid (fun W (B : Below w.heap.size w W) => plain_c a0 len0 cap0 its0 W (HO.out.below B) (by omega))
  have HP := Lib.hid (fun W (B : Below w.heap.size w W) => plan23_c a0 len0 cap0 its0 x1 W (HO.out.below B) h100 (HTk.out.below B))
  obtain ⟨KL, hKL⟩ : ∃ KL, KL = its0.filter (fitN x1.tkZ x1.lot) := ⟨_, rfl⟩
  obtain ⟨GL, hGL⟩ : ∃ GL, GL = sortL ltC (its0.filter fun x => !fitN x1.tkZ x1.lot x) := ⟨_, rfl⟩
  obtain ⟨zz, hzz⟩ : ∃ zz, zz = whyN x1.tkZ x1.lot x2 := ⟨_, rfl⟩
  have HKL := Lib.hid hKL
  have HGL := Lib.hid hGL
  have HZZ := Lib.hid hzz
  clear hO hT hli hKL hGL hzz
  go_enter Try.func3, Try.ntmps3
  go_wp2_with fail
  have TB1 := TB.out
  generalize (w.alloc (Obj.cells (RC x1) 26)).alloc (Obj.cells (OC x2) 29) = y1 at TB1 ⊢
  obtain ⟨f1, f2, b1, _⟩ := TB1
  clear TB
  refine (HLi.out y1).mono ?_
  rintro e y2 ⟨rfl, b2⟩
  have g1 := bel_heap f1 b2
  have g2 := bel_heap f2 b2
  have B2 : Hid (Below w.heap.size w y2) := b1.trans (b2.mono b1.size)
  clear f1 f2 b1 b2 HLi
  cases li with
  | false =>
    clear g1 g2
    go_wp2_with fail
    refine (HL.out _).mono ?_
    rintro e y3 ⟨rfl, k3⟩
    have G3 : Hid (Below w.heap.size w y3) := B2.out.trans (k3.mono B2.out.size)
    clear k3
    go_wp2_with fail
    go_ret
    exact ⟨rfl, G3.out⟩
  | true =>
  obtain ⟨r0, r1, r2, r3, r4, r5, r6, r7, r8⟩ := rul_cells g1
  go_wp2_with fail
  refine (HP.out y2 B2.out).mono ?_
  rintro e y3 ⟨A, n, c, B, m, d, rfl, HF⟩
  replace g1 := bel_heap g1 HF.out.1
  replace g2 := bel_heap g2 HF.out.1
  have B3 : Hid (Below w.heap.size w y3) := B2.out.trans (HF.out.1.mono B2.out.size)
  have HK3 : Hid (Ods y3 A n KL ∧ Ods y3 B m GL) := by
    show _ ∧ _
    rw [HKL.out, HGL.out]
    exact ⟨HF.out.2.1, HF.out.2.2.2.1⟩
  clear HF HP B2 r0 r1 r2 r3 r4 r5 r6 r7 r8
  go_wp2_with fail
  refine wp_region_held_drew (S := (fun W => W.heap[w.heap.size]? = some (.cells (RC x1) 26 (0, 0)) ∧ W.heap[w.heap.size + 1]? = some (.cells (OC x2) 29 (0, 0)))) (by kernel_rfl) (by first | (dsimp only; (exact ⟨g1, g2⟩)) | (exact ⟨g1, g2⟩)) (fun hHeld => ?_)
  refine wpAnyH_take (i := 0) (oi := ⟨some 27, _, _, _, _, _⟩) (v := ?_) rfl (by kernel_rfl) (by kernel_rfl) (by kernel_rfl) (fun _ _ _ h => h) (Or.inl ⟨by kernel_rfl, ?_⟩) (by assumption) ?_
  rotate_left
  · (intro w hSw; (try dsimp only at hSw); go_simp; try with_reducible rfl)
  (repeat (first | simp only [Act.put] | simp only [List.setIfInBounds_toArray] | simp only [List.set_cons_succ] | simp only [List.set_cons_zero]))
  refine wpAnyH_take (i := 2) (oi := ⟨some 29, _, _, _, _, _⟩) (v := ?_) rfl (by kernel_rfl) (by kernel_rfl) (by kernel_rfl) (fun _ _ _ h => h) (Or.inl ⟨by kernel_rfl, ?_⟩) (by assumption) ?_
  rotate_left
  · (intro w hSw; (obtain ⟨r0, r1, r2, r3, r4, r5, r6, r7, r8⟩ := rul_cells hSw.1); (try dsimp only at hSw); go_simp; try with_reducible rfl)
  (repeat (first | simp only [Act.put] | simp only [List.setIfInBounds_toArray] | simp only [List.set_cons_succ] | simp only [List.set_cons_zero]))
  refine wpAnyH_ready (rs := [1]) (by kernel_rfl) (by simp) ?_
  refine AllReadyH.cons (o := ⟨some 28, _, _, _, _, _⟩) rfl (fun K hK => ?_) AllReadyH.nil
  go_simp
  ((with_reducible refine (HPl.out y3.drew B3.out.drew).mono ?_); rintro e z1 ⟨A1, n1, c1, rfl, H1⟩; replace g1 := bel_heap (w := y3.drew) g1 H1.out.1; replace g2 := bel_heap (w := y3.drew) g2 H1.out.1; have B4 : Hid (Below w.heap.size w z1) := B3.out.drew.trans (H1.out.1.mono B3.out.size); have HK4 : Hid (Ods z1 A n KL ∧ Ods z1 B m GL) := ⟨HK3.out.1.below (w := y3.drew) H1.out.1, HK3.out.2.below (w := y3.drew) H1.out.1⟩; obtain ⟨n1, rfl⟩ : ∃ k, k = n1 := ⟨_, rfl⟩; have en : n1 = len0 := H1.out.2.1.1.symm.trans HN.out; subst en; have HRP := Lib.hid (rplan_c A1 n1 c1 its0 x1 z1 H1.out.2.1 (by omega) (HTk.out.below B4.out)); clear H1 HPl B3 HK3)
  (try go_wp2_with fail)
  refine hK.out _ _ (by first | (dsimp only; (exact ⟨g1, g2⟩)) | (exact ⟨g1, g2⟩) | assumption) (fun hHeld => ?_)
  clear hK K
  (repeat (first | simp only [Act.put] | simp only [List.setIfInBounds_toArray] | simp only [List.set_cons_succ] | simp only [List.set_cons_zero]))
  refine wpAnyH_ready (rs := [3]) (by kernel_rfl) (by simp) ?_
  refine AllReadyH.cons (o := ⟨some 30, _, _, _, _, _⟩) rfl (fun K hK => ?_) AllReadyH.nil
  go_simp
  ((with_reducible refine HRP.out.mono ?_); rintro e z2 ⟨A2, n2, c2, A3, n3, c3, rfl, H2⟩; replace g1 := bel_heap g1 H2.out.1; replace g2 := bel_heap g2 H2.out.1; have B5 : Hid (Below w.heap.size w z2) := B4.out.trans (H2.out.1.mono B4.out.size); have HK5 : Hid (Ods z2 A n KL ∧ Ods z2 B m GL) := ⟨HK4.out.1.below H2.out.1, HK4.out.2.below H2.out.1⟩; have HJ5 : Hid (Ods z2 A2 n2 KL ∧ Ods z2 A3 n3 GL) := (by (first | (show _ ∧ _; rw [HKL.out, HGL.out]; done) | (show _ ∧ _; rw [HKL.out, HGL.out]; exact ⟨H2.out.2.1, H2.out.2.2.2.1⟩))); clear H2 HRP B4 HK4)
  (try go_wp2_with fail)
  refine hK.out _ _ (by first | (dsimp only; (exact ⟨g1, g2⟩)) | (exact ⟨g1, g2⟩) | assumption) (fun hHeld => ?_)
  clear hK K
  (repeat (first | simp only [Act.put] | simp only [List.setIfInBounds_toArray] | simp only [List.set_cons_succ] | simp only [List.set_cons_zero]))
  refine wpAnyH_take (i := 4) (oi := ⟨some 26, _, _, _, _, _⟩) (v := ?_) rfl (by kernel_rfl) (by kernel_rfl) (by kernel_rfl) (fun _ _ _ h => h) (Or.inl ⟨by kernel_rfl, ?_⟩) (by assumption) ?_
  rotate_left
  · (intro w hSw; (try dsimp only at hSw); go_simp; try with_reducible rfl)
  (repeat (first | simp only [Act.put] | simp only [List.setIfInBounds_toArray] | simp only [List.set_cons_succ] | simp only [List.set_cons_zero]))
  refine wpAnyH_take (i := 5) (oi := ⟨some 31, _, _, _, _, _⟩) (v := ?_) rfl (by kernel_rfl) (by kernel_rfl) (by kernel_rfl) (fun _ _ _ h => h) (Or.inl ⟨by kernel_rfl, ?_⟩) (by assumption) ?_
  rotate_left
  · (intro w hSw; (try dsimp only at hSw); go_simp; try with_reducible rfl)
  (repeat (first | simp only [Act.put] | simp only [List.setIfInBounds_toArray] | simp only [List.set_cons_succ] | simp only [List.set_cons_zero]))
  refine wpAnyH_take (i := 6) (oi := ⟨some 32, _, _, _, _, _⟩) (v := ?_) rfl (by kernel_rfl) (by kernel_rfl) (by kernel_rfl) (fun _ _ _ h => h) (Or.inl ⟨by kernel_rfl, ?_⟩) (by assumption) ?_
  rotate_left
  · (intro w hSw; (try dsimp only at hSw); go_simp; try with_reducible rfl)
  (repeat (first | simp only [Act.put] | simp only [List.setIfInBounds_toArray] | simp only [List.set_cons_succ] | simp only [List.set_cons_zero]))
  refine wpAnyH_take (i := 7) (oi := ⟨some 9, _, _, _, _, _⟩) (v := ?_) rfl (by kernel_rfl) (by kernel_rfl) (by kernel_rfl) (fun _ _ _ h => h) (Or.inl ⟨by kernel_rfl, ?_⟩) (by assumption) ?_
  rotate_left
  · (intro w hSw; (try dsimp only at hSw); go_simp; try with_reducible rfl)
  (repeat (first | simp only [Act.put] | simp only [List.setIfInBounds_toArray] | simp only [List.set_cons_succ] | simp only [List.set_cons_zero]))
  refine wpAnyH_take (i := 8) (oi := ⟨some 10, _, _, _, _, _⟩) (v := ?_) rfl (by kernel_rfl) (by kernel_rfl) (by kernel_rfl) (fun _ _ _ h => h) (Or.inl ⟨by kernel_rfl, ?_⟩) (by assumption) ?_
  rotate_left
  · (intro w hSw; (try dsimp only at hSw); go_simp; try with_reducible rfl)
  (repeat (first | simp only [Act.put] | simp only [List.setIfInBounds_toArray] | simp only [List.set_cons_succ] | simp only [List.set_cons_zero]))
  refine wpAnyH_done (by kernel_rfl) ?_ _
  have e2 : n2 = n := by rw [← HK5.out.1.1, ← HJ5.out.1.1]
  subst e2
  have e3 : n3 = m := by rw [← HK5.out.2.1, ← HJ5.out.2.1]
  subst e3
  have hn2 : n2 ≤ 1000 := by
    have h1 := HK5.out.1.1
    rw [HKL.out] at h1
    have h2 := List.length_filter_le (fitN x1.tkZ x1.lot) its0
    rw [HN.out] at h2
    omega
  have hn3 : n3 ≤ 1000 := by
    have h1 := HK5.out.2.1
    rw [HGL.out, sortL_len] at h1
    have h2 := List.length_filter_le (fun x => !fitN x1.tkZ x1.lot x) its0
    rw [HN.out] at h2
    omega
  have HS1 := Lib.hid (fun W (Bz : Below z2.heap.size z2 W) => same_c A A2 n2 c c2 KL KL W (HK5.out.1.below Bz) (HJ5.out.1.below Bz) hn2)
  have HS2 := Lib.hid (fun W (Bz : Below z2.heap.size z2 W) => same_c B A3 n3 d c3 GL GL W (HK5.out.2.below Bz) (HJ5.out.2.below Bz) hn3)
  have ee : eqL KL KL = true := (eqL_iff _ _).2 rfl
  have ef : eqL GL GL = true := (eqL_iff _ _).2 rfl
  rw [ee] at HS1
  rw [ef] at HS2
  have hqq : (zz == zz) = true := by simp
  have B0 : Hid (Below z2.heap.size z2 z2.drew) := (Below.refl _ _).drew
  clear ee ef hn2 hn3 HK5 HJ5 HKL HGL hHeld
  go_wp2_with fail
  refine wp_region_held_drew (S := (fun W => W.heap[w.heap.size]? = some (.cells (RC x1) 26 (0, 0)) ∧ W.heap[w.heap.size + 1]? = some (.cells (OC x2) 29 (0, 0)))) (by kernel_rfl) (by first | (dsimp only; (exact ⟨g1, g2⟩)) | (exact ⟨g1, g2⟩)) (fun hHeld => ?_)
  refine wpAnyH_take (i := 0) (oi := ⟨some 33, _, _, _, _, _⟩) (v := ?_) rfl (by kernel_rfl) (by kernel_rfl) (by kernel_rfl) (fun _ _ _ h => h) (Or.inl ⟨by kernel_rfl, ?_⟩) (by assumption) ?_
  rotate_left
  · (intro w hSw; (try dsimp only at hSw); go_simp; try with_reducible rfl)
  (repeat (first | simp only [Act.put] | simp only [List.setIfInBounds_toArray] | simp only [List.set_cons_succ] | simp only [List.set_cons_zero]))
  refine wpAnyH_take (i := 1) (oi := ⟨some 34, _, _, _, _, _⟩) (v := ?_) rfl (by kernel_rfl) (by kernel_rfl) (by kernel_rfl) (fun _ _ _ h => h) (Or.inl ⟨by kernel_rfl, ?_⟩) (by assumption) ?_
  rotate_left
  · (intro w hSw; (try dsimp only at hSw); go_simp; try with_reducible rfl)
  (repeat (first | simp only [Act.put] | simp only [List.setIfInBounds_toArray] | simp only [List.set_cons_succ] | simp only [List.set_cons_zero]))
  refine wpAnyH_ready (rs := [2]) (by kernel_rfl) (by simp) ?_
  refine AllReadyH.cons (o := ⟨some 35, _, _, _, _, _⟩) rfl (fun K hK => ?_) AllReadyH.nil
  go_simp
  ((with_reducible refine (HS1.out z2.drew B0.out).mono ?_); rintro e z3 ⟨rfl, k3⟩; replace g1 := bel_heap (w := z2.drew) g1 k3.b; replace g2 := bel_heap (w := z2.drew) g2 k3.b; have B6 : Hid (Below w.heap.size w z3) := B5.out.drew.trans (k3.b.mono B5.out.size); have C6 : Hid (Below z2.heap.size z2 z3) := B0.out.trans k3.b; clear k3 HS1)
  (try go_wp2_with fail)
  refine hK.out _ _ (by first | (dsimp only; (exact ⟨g1, g2⟩)) | (exact ⟨g1, g2⟩) | assumption) (fun hHeld => ?_)
  clear hK K
  (repeat (first | simp only [Act.put] | simp only [List.setIfInBounds_toArray] | simp only [List.set_cons_succ] | simp only [List.set_cons_zero]))
  refine wpAnyH_take (i := 3) (oi := ⟨some 36, _, _, _, _, _⟩) (v := ?_) rfl (by kernel_rfl) (by kernel_rfl) (by kernel_rfl) (fun _ _ _ h => h) (Or.inl ⟨by kernel_rfl, ?_⟩) (by assumption) ?_
  rotate_left
  · (intro w hSw; (try dsimp only at hSw); go_simp; try with_reducible rfl)
  (repeat (first | simp only [Act.put] | simp only [List.setIfInBounds_toArray] | simp only [List.set_cons_succ] | simp only [List.set_cons_zero]))
  refine wpAnyH_take (i := 4) (oi := ⟨some 37, _, _, _, _, _⟩) (v := ?_) rfl (by kernel_rfl) (by kernel_rfl) (by kernel_rfl) (fun _ _ _ h => h) (Or.inl ⟨by kernel_rfl, ?_⟩) (by assumption) ?_
  rotate_left
  · (intro w hSw; (try dsimp only at hSw); go_simp; try with_reducible rfl)
  (repeat (first | simp only [Act.put] | simp only [List.setIfInBounds_toArray] | simp only [List.set_cons_succ] | simp only [List.set_cons_zero]))
  refine wpAnyH_take (i := 5) (oi := ⟨some 38, _, _, _, _, _⟩) (v := ?_) rfl (by kernel_rfl) (by kernel_rfl) (by kernel_rfl) (fun _ _ _ h => h) (Or.inl ⟨by kernel_rfl, ?_⟩) (by assumption) ?_
  rotate_left
  · (intro w hSw; (try dsimp only at hSw); go_simp; try with_reducible rfl)
  (repeat (first | simp only [Act.put] | simp only [List.setIfInBounds_toArray] | simp only [List.set_cons_succ] | simp only [List.set_cons_zero]))
  refine wpAnyH_ready (rs := [6]) (by kernel_rfl) (by simp) ?_
  refine AllReadyH.cons (o := ⟨some 39, _, _, _, _, _⟩) rfl (fun K hK => ?_) AllReadyH.nil
  go_simp
  ((with_reducible refine (HS2.out z3 C6.out).mono ?_); rintro e z4 ⟨rfl, k4⟩; replace g1 := bel_heap g1 k4.b; replace g2 := bel_heap g2 k4.b; have B7 : Hid (Below w.heap.size w z4) := B6.out.trans (k4.b.mono B6.out.size); have HWy := Lib.hid (why_c x2 x1 z4 (HTk.out.below B7.out)); rw [← HZZ.out] at HWy; clear k4 HS2 C6 B6)
  (try go_wp2_with fail)
  refine hK.out _ _ (by first | (dsimp only; (exact ⟨g1, g2⟩)) | (exact ⟨g1, g2⟩) | assumption) (fun hHeld => ?_)
  clear hK K
  (repeat (first | simp only [Act.put] | simp only [List.setIfInBounds_toArray] | simp only [List.set_cons_succ] | simp only [List.set_cons_zero]))
  refine wpAnyH_take (i := 7) (oi := ⟨some 40, _, _, _, _, _⟩) (v := ?_) rfl (by kernel_rfl) (by kernel_rfl) (by kernel_rfl) (fun _ _ _ h => h) (Or.inl ⟨by kernel_rfl, ?_⟩) (by assumption) ?_
  rotate_left
  · (intro w hSw; (try dsimp only at hSw); go_simp; try with_reducible rfl)
  (repeat (first | simp only [Act.put] | simp only [List.setIfInBounds_toArray] | simp only [List.set_cons_succ] | simp only [List.set_cons_zero]))
  refine wpAnyH_take (i := 8) (oi := ⟨some 41, _, _, _, _, _⟩) (v := ?_) rfl (by kernel_rfl) (by kernel_rfl) (by kernel_rfl) (fun _ _ _ h => h) (Or.inl ⟨by kernel_rfl, ?_⟩) (by assumption) ?_
  rotate_left
  · (intro w hSw; (try dsimp only at hSw); go_simp; try with_reducible rfl)
  (repeat (first | simp only [Act.put] | simp only [List.setIfInBounds_toArray] | simp only [List.set_cons_succ] | simp only [List.set_cons_zero]))
  refine wpAnyH_take (i := 9) (oi := ⟨some 42, _, _, _, _, _⟩) (v := ?_) rfl (by kernel_rfl) (by kernel_rfl) (by kernel_rfl) (fun _ _ _ h => h) (Or.inl ⟨by kernel_rfl, ?_⟩) (by assumption) ?_
  rotate_left
  · (intro w hSw; (obtain ⟨o0, o1, o2, o3, o4, o5⟩ := od_cells hSw.2); (try dsimp only at hSw); go_simp; try with_reducible rfl)
  (repeat (first | simp only [Act.put] | simp only [List.setIfInBounds_toArray] | simp only [List.set_cons_succ] | simp only [List.set_cons_zero]))
  refine wpAnyH_take (i := 10) (oi := ⟨some 43, _, _, _, _, _⟩) (v := ?_) rfl (by kernel_rfl) (by kernel_rfl) (by kernel_rfl) (fun _ _ _ h => h) (Or.inl ⟨by kernel_rfl, ?_⟩) (by assumption) ?_
  rotate_left
  · (intro w hSw; (obtain ⟨r0, r1, r2, r3, r4, r5, r6, r7, r8⟩ := rul_cells hSw.1); (try dsimp only at hSw); go_simp; try with_reducible rfl)
  (repeat (first | simp only [Act.put] | simp only [List.setIfInBounds_toArray] | simp only [List.set_cons_succ] | simp only [List.set_cons_zero]))
  refine wpAnyH_take (i := 12) (oi := ⟨some 45, _, _, _, _, _⟩) (v := ?_) rfl (by kernel_rfl) (by kernel_rfl) (by kernel_rfl) (fun _ _ _ h => h) (Or.inl ⟨by kernel_rfl, ?_⟩) (by assumption) ?_
  rotate_left
  · (intro w hSw; (obtain ⟨o0, o1, o2, o3, o4, o5⟩ := od_cells hSw.2); (try dsimp only at hSw); go_simp; try with_reducible rfl)
  (repeat (first | simp only [Act.put] | simp only [List.setIfInBounds_toArray] | simp only [List.set_cons_succ] | simp only [List.set_cons_zero]))
  refine wpAnyH_take (i := 13) (oi := ⟨some 46, _, _, _, _, _⟩) (v := ?_) rfl (by kernel_rfl) (by kernel_rfl) (by kernel_rfl) (fun _ _ _ h => h) (Or.inl ⟨by kernel_rfl, ?_⟩) (by assumption) ?_
  rotate_left
  · (intro w hSw; (obtain ⟨r0, r1, r2, r3, r4, r5, r6, r7, r8⟩ := rul_cells hSw.1); (try dsimp only at hSw); go_simp; try with_reducible rfl)
  (repeat (first | simp only [Act.put] | simp only [List.setIfInBounds_toArray] | simp only [List.set_cons_succ] | simp only [List.set_cons_zero]))
  refine wpAnyH_ready (rs := [11]) (by kernel_rfl) (by simp) ?_
  refine AllReadyH.cons (o := ⟨some 44, _, _, _, _, _⟩) rfl (fun K hK => ?_) AllReadyH.nil
  go_simp
  ((with_reducible refine HWy.out.mono ?_); rintro e z5 ⟨rfl, b5⟩; replace g1 := bel_heap g1 b5; replace g2 := bel_heap g2 b5; have B8 : Hid (Below w.heap.size w z5) := B7.out.trans (b5.mono B7.out.size); have HRy := Lib.hid (rwhy_c x2 x1 z5 (HTk.out.below B8.out)); rw [← HZZ.out] at HRy; clear b5 HWy B7)
  (try go_wp2_with fail)
  refine hK.out _ _ (by first | (dsimp only; (exact ⟨g1, g2⟩)) | (exact ⟨g1, g2⟩) | assumption) (fun hHeld => ?_)
  clear hK K
  (repeat (first | simp only [Act.put] | simp only [List.setIfInBounds_toArray] | simp only [List.set_cons_succ] | simp only [List.set_cons_zero]))
  refine wpAnyH_ready (rs := [14]) (by kernel_rfl) (by simp) ?_
  refine AllReadyH.cons (o := ⟨some 47, _, _, _, _, _⟩) rfl (fun K hK => ?_) AllReadyH.nil
  go_simp
  ((with_reducible refine HRy.out.mono ?_); rintro e z6 ⟨rfl, b6⟩; replace g1 := bel_heap g1 b6; replace g2 := bel_heap g2 b6; have B9 : Hid (Below w.heap.size w z6) := B8.out.trans (b6.mono B8.out.size); clear b6 HRy B8)
  (try go_wp2_with fail)
  refine hK.out _ _ (by first | (dsimp only; (exact ⟨g1, g2⟩)) | (exact ⟨g1, g2⟩) | assumption) (fun hHeld => ?_)
  clear hK K
  (repeat (first | simp only [Act.put] | simp only [List.setIfInBounds_toArray] | simp only [List.set_cons_succ] | simp only [List.set_cons_zero]))
  refine wpAnyH_take (i := 15) (oi := ⟨some 48, _, _, _, _, _⟩) (v := ?_) rfl (by kernel_rfl) (by kernel_rfl) (by kernel_rfl) (fun _ _ _ h => h) (Or.inl ⟨by kernel_rfl, ?_⟩) (by assumption) ?_
  rotate_left
  · (intro w hSw; (try dsimp only at hSw); go_simp; try with_reducible rfl)
  (repeat (first | simp only [Act.put] | simp only [List.setIfInBounds_toArray] | simp only [List.set_cons_succ] | simp only [List.set_cons_zero]))
  refine wpAnyH_take (i := 16) (oi := ⟨some 49, _, _, _, _, _⟩) (v := ?_) rfl (by kernel_rfl) (by kernel_rfl) (by kernel_rfl) (fun _ _ _ h => h) (Or.inl ⟨by kernel_rfl, ?_⟩) (by assumption) ?_
  rotate_left
  · (intro w hSw; (try dsimp only at hSw); go_simp; try with_reducible rfl)
  (repeat (first | simp only [Act.put] | simp only [List.setIfInBounds_toArray] | simp only [List.set_cons_succ] | simp only [List.set_cons_zero]))
  refine wpAnyH_take (i := 17) (oi := ⟨some 50, _, _, _, _, _⟩) (v := ?_) rfl (by kernel_rfl) (by kernel_rfl) (by kernel_rfl) (fun _ _ _ h => h) (Or.inl ⟨by kernel_rfl, ?_⟩) (by assumption) ?_
  rotate_left
  · (intro w hSw; (try dsimp only at hSw); go_simp; try with_reducible rfl)
  (repeat (first | simp only [Act.put] | simp only [List.setIfInBounds_toArray] | simp only [List.set_cons_succ] | simp only [List.set_cons_zero]))
  refine wpAnyH_ready (rs := [18]) (by kernel_rfl) (by simp) ?_
  refine AllReadyH.cons (o := ⟨some 51, _, _, _, _, _⟩) rfl (fun K hK => ?_) AllReadyH.nil
  go_simp
  ((with_reducible refine (HL.out _).mono ?_); rintro e z7 ⟨rfl, b7⟩; replace g1 := bel_heap g1 b7; replace g2 := bel_heap g2 b7; have B10 : Hid (Below w.heap.size w z7) := B9.out.trans (b7.mono B9.out.size); clear b7 B9)
  (try go_wp2_with fail)
  refine hK.out _ _ (by first | (dsimp only; (exact ⟨g1, g2⟩)) | (exact ⟨g1, g2⟩) | assumption) (fun hHeld => ?_)
  clear hK K
  (repeat (first | simp only [Act.put] | simp only [List.setIfInBounds_toArray] | simp only [List.set_cons_succ] | simp only [List.set_cons_zero]))
  refine wpAnyH_take (i := 19) (oi := ⟨some 52, _, _, _, _, _⟩) (v := ?_) rfl (by kernel_rfl) (by kernel_rfl) (by kernel_rfl) (fun _ _ _ h => h) (Or.inl ⟨by kernel_rfl, ?_⟩) (by assumption) ?_
  rotate_left
  · (intro w hSw; (try dsimp only at hSw); go_simp; try with_reducible rfl)
  (repeat (first | simp only [Act.put] | simp only [List.setIfInBounds_toArray] | simp only [List.set_cons_succ] | simp only [List.set_cons_zero]))
  refine wpAnyH_take (i := 20) (oi := ⟨some 6, _, _, _, _, _⟩) (v := ?_) rfl (by kernel_rfl) (by kernel_rfl) (by kernel_rfl) (fun _ _ _ h => h) (Or.inl ⟨by kernel_rfl, ?_⟩) (by assumption) ?_
  rotate_left
  · (intro w hSw; (try dsimp only at hSw); go_simp; try with_reducible rfl)
  (repeat (first | simp only [Act.put] | simp only [List.setIfInBounds_toArray] | simp only [List.set_cons_succ] | simp only [List.set_cons_zero]))
  refine wpAnyH_done (by kernel_rfl) ?_ _
  go_wp2_with fail
  go_ret
  exact ⟨rfl, B10.out⟩

set_option maxRecDepth 100000 in
theorem lifted (os : Os) (started : os.Started) (H : Type) (enc : TypeId × Value → H) :
    ReturnsInHanded {} Try.checked os 3 .any (Rows.requantPlansSpec.pre6 enc Try.prog Try.f3 Rows.requantPlansRow.domain false) (Rows.requantPlansSpec.post enc Try.prog Try.f3 false true false false) := by
  refine returnsInHanded_of_change (C := Try.checked) own started (by kernel_rfl) Try.func3
    (ChangeSpec.witness6 (enc := enc) (C := Try.checked) false ⟨#[], #[.slice none 0 0, .agg #[.int .i64 0, .slice none 0 0, .int .i64 0, .int .i64 0, .slice none 0 0, .int .i64 0, .int .i64 0, .int .i64 0, .int .i64 0], .agg #[.int .u64 0, .int .i64 0, .int .i64 0, .int .i64 0, .int .i64 0, .int .u64 0]], []⟩ 8 (by kernel_rfl) (by kernel_rfl) (by kernel_rfl) (by kernel_rfl)) ?_
  intro W base args ds gs before hval0 hW hcnd _
  have hval : ∀ (j : Nat) t v, Try.f3.params[j]? = some t → args[j]? = some v → Value.okWide Try.prog W .any base t v := hval0
  have hW' := hW
  obtain ⟨p, q, hA0, hV, rfl, hfz, hnd⟩ := hW
  have hA : DataW.TrodAll enc Try.prog W 0 (fun _ => true) true Try.f3.params.toList args.toList ds p := hA0
  rw [Try.params3] at hA hval
  obtain ⟨v0, vs0, d0, ds0, p0, q0, hargs, rfl, rfl, h0, r0⟩ := trodAll_cons hA
  obtain ⟨v1, vs1, d1, ds1, p1, q1, rfl, rfl, rfl, h1, r1⟩ := trodAll_cons r0
  obtain ⟨v2, vs2, d2, ds2, p2, q2, rfl, rfl, rfl, h2, r2⟩ := trodAll_cons r1
  obtain ⟨rfl, rfl, rfl⟩ := trodAll_nil r2
  obtain rfl : args = #[v0, v1, v2] := by cases args; simp_all
  obtain ⟨rfl, rfl⟩ := trodVars_none hV
  have k0 := h0
  have lt0 : ∀ x ∈ p0, x.block < W.heap.size := by obtain ⟨m, hm⟩ := k0; exact DataW.trod_lt m _ _ _ hm
  obtain ⟨a0, len0, cap0, rfl⟩ := okWide_slice Try.underlying22 (hval 0 22 v0 rfl rfl)
  obtain ⟨its0, w0⟩ := open_ods h0
  have k1 := h1
  have lt1 : ∀ x ∈ p1, x.block < W.heap.size := by obtain ⟨m, hm⟩ := k1; exact DataW.trod_lt m _ _ _ hm
  obtain ⟨x1, w1, rfl⟩ := open_rul_val (hval 1 26 v1 rfl rfl) h1
  have k2 := h2
  have lt2 : ∀ x ∈ p2, x.block < W.heap.size := by obtain ⟨m, hm⟩ := k2; exact DataW.trod_lt m _ _ _ hm
  obtain ⟨x2, w2, rfl⟩ := open_od_val (hval 2 29 v2 rfl rfl) h2
  clear hA0 hval0
  refine (walk a0 len0 cap0 its0 x1 x2 W w0 w1 w2).mono fun e W' ⟨he, bel⟩ => ?_
  subst he
  exact ⟨_, rfl, _, _, _, [], _, [], hW', trodAll_mk1 (shut_bool Try.underlying4 _), (trodAll_cons_mk (Below.trod laidOut (by kernel_rfl) (of_decide_eq_true (by kernel_rfl)) k0 bel lt0) (trodAll_cons_mk (Below.trod laidOut (by kernel_rfl) (of_decide_eq_true (by kernel_rfl)) k1 bel lt1) (trodAll_cons_mk (Below.trod laidOut (by kernel_rfl) (of_decide_eq_true (by kernel_rfl)) k2 bel lt2) trodAll_mk0))), rfl, bel.frame _, fun h => by cases h⟩

theorem over : Rows.requantPlansRow.holds Try.pinned (OpenSpec.ofChange Rows.requantPlansSpec) :=
  OpenClaim.holds_of_wide 3 Try.f3 rfl rfl rfl rfl rfl rfl rfl ⟨rfl, rfl, rfl, rfl, rfl⟩ rfl rfl rfl rfl rfl (by kernel_rfl) Try.func3 (by kernel_rfl)
    (of_decide_eq_true (by kernel_rfl)) (by unfold Func.isWrapper; first | (rw [if_pos (by decide +kernel)]; kernel_rfl) | (rw [if_neg (by decide +kernel)]; exact ⟨rfl, rfl⟩))
    (fun os started H enc _ => lifted os started H enc)

theorem proved : Rows.RequantPlansSaid := over
end Go.Proofs.Ytpibkjldmmecpaa.requantPlans
