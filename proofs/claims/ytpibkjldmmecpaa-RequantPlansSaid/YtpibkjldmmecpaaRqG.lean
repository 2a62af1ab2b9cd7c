/- requant: the chapter's example; whether rules are light. -/
import Derived.Test.YtpibkjldmmecpaaRqF
namespace Go.Proofs.Ytpibkjldmmecpaa
open Go.RowKit Go.Sort Go.Lib Go.Shelf

set_option maxHeartbeats 4000000 in
set_option maxRecDepth 100000 in
theorem light_c (r : Rul) (w : World) : Calls Try.prog 4 #[.agg (RC r)] w (Got w (.bool (decide (r.tkL ≤ 20) && decide (r.feL ≤ 20)))) := by
  have HB : Hid (Below w.heap.size w (w.alloc (Obj.cells (RC r) 26))) := (Below.refl _ _).alloc (Nat.le_refl _) _
  by_cases h1 : r.tkL ≤ 20
  · have d1 : decide ((r.tkL : Int) ≤ 20) = true := decide_eq_true (by omega)
    have i1 : (r.tkL : Int) ≤ 20 := by omega
    by_cases h2 : r.feL ≤ 20
    · have d2 : decide ((r.feL : Int) ≤ 20) = true := decide_eq_true (by omega)
      have i2 : (r.feL : Int) ≤ 20 := by omega
      rw [decide_eq_true h1, decide_eq_true h2]
      clear h1 h2
      go_enter Try.func4, Try.ntmps4
      go_wp2_with fail
      go_ret
      exact ⟨rfl, HB.out⟩
    · have d2 : decide ((r.feL : Int) ≤ 20) = false := decide_eq_false (by omega)
      have i2 : ¬ (r.feL : Int) ≤ 20 := by omega
      rw [decide_eq_true h1, decide_eq_false h2]
      clear h1 h2
      go_enter Try.func4, Try.ntmps4
      go_wp2_with fail
      go_ret
      exact ⟨rfl, HB.out⟩
  · have d1 : decide ((r.tkL : Int) ≤ 20) = false := decide_eq_false (by omega)
    have i1 : ¬ (r.tkL : Int) ≤ 20 := by omega
    rw [decide_eq_false h1]
    clear h1
    go_enter Try.func4, Try.ntmps4
    go_wp2_with fail
    go_ret
    exact ⟨rfl, HB.out⟩

def q1 : Od := ⟨1, 0, 1, 12, 10, 0⟩
def q2 : Od := ⟨2, 0, 1, 15, 10, 0⟩
def exT : List Tk := [⟨0, 5⟩]
theorem ex_keep : [q1, q2].filter (fitN exT 10) = [q2] := by kernel_rfl
theorem ex_gone : [q1, q2].filter (fun x => !fitN exT 10 x) = [q1] := by kernel_rfl
theorem ex_why : whyN exT 10 q1 = 40 := by kernel_rfl
theorem ex_sort1 : sortL ltC [q1] = [q1] := List.perm_singleton.1 (sortL_perm [q1])
/-- The example's rules. -/
def BasicIs (w : World) (e : Ending) (w' : World) : Prop := ∃ r : Rul, e = .returned (.agg (RC r)) ∧ Hid (Tks w' r.tkA r.tkL r.tkZ ∧ r.tkZ = exT ∧ r.lot = 10 ∧ Below w.heap.size w w')
theorem infoRul : (Try.prog.info? 26).map (·.size) = some 9 := by kernel_rfl
theorem retR {fn : Func} {p : Tmp} (h : fn.results = #[.cell p 26]) (tmps : Array Value) (w : World) (g : Nat) (hp : tmps.getD p undef = .pointer (some ⟨g, 0, none⟩)) (z : Rul) (t : TypeId)
    (hg : w.heap[g]? = some (.cells (RC z) t (0, 0))) : (results fn tmps).run Try.prog w = .ok (.agg (RC z)) w :=
  results_cell_row h tmps w g _ _ (0, 0) _ hp hg Try.underlying26 rfl infoRul
set_option maxHeartbeats 4000000 in
set_option maxRecDepth 100000 in
theorem basic_c (w : World) : Calls Try.prog 12 #[] w (BasicIs w) := by
  go_enter Try.func12, Try.ntmps12
  go_wp2_with fail
  have kR : (((w.alloc (Obj.cells (RC ⟨1, some ⟨w.heap.size + 1, 0, none⟩, 1, 1, exT, 10, 0, some ⟨w.heap.size + 1 + 1, 0, none⟩, 1, 1, 2, 1, 2, 1⟩) 26)).alloc (Obj.cells #[.int .i64 0, .int .i64 5] 56)).alloc (Obj.cells #[.int .i64 0, .int .i64 100, .int .i64 200] 58)).heap[w.heap.size]? = some (.cells (RC ⟨1, some ⟨w.heap.size + 1, 0, none⟩, 1, 1, exT, 10, 0, some ⟨w.heap.size + 1 + 1, 0, none⟩, 1, 1, 2, 1, 2, 1⟩) 26 (0, 0)) := hd_prev (by simp; omega) (hd_prev (by simp) (hd_last rfl))
  (with_reducible apply bodyPost_ret)
  (apply retR; rfl; rfl; exact kR)
  rfl
  refine ⟨⟨1, some ⟨w.heap.size + 1, 0, none⟩, 1, 1, exT, 10, 0, some ⟨w.heap.size + 1 + 1, 0, none⟩, 1, 1, 2, 1, 2, 1⟩, rfl, ?_⟩
  refine ⟨⟨rfl, (by show (1 : Nat) ≤ 9223372036854775807; omega), ?_, .inr ⟨w.heap.size + 1, 0, rfl, (by first | (simp; done) | (simp; omega)), ?_⟩⟩, rfl, rfl, (((Below.refl _ _).alloc (Nat.le_refl _) _).alloc (by simp) _).alloc (by simp; omega) _⟩
  · intro x hx
    rw [exT, List.mem_singleton] at hx
    subst hx
    unfold Tk.ok
    decide
  · intro i hi
    obtain rfl : i = 0 := by have hi2 : i < 1 := hi; omega
    have f : (((w.alloc (Obj.cells #[.int .i64 1, .slice (some ⟨w.heap.size + 1, 0, none⟩) 1 1, .int .i64 10, .int .i64 0, .slice (some ⟨w.heap.size + 1 + 1, 0, none⟩) 1 1, .int .i64 2, .int .i64 1, .int .i64 2, .int .i64 1] 26)).alloc (Obj.cells #[.int .i64 0, .int .i64 5] 56)).alloc (Obj.cells #[.int .i64 0, .int .i64 100, .int .i64 200] 58)).heap[w.heap.size + 1]? = some (.cells #[.int .i64 0, .int .i64 5] 56 (0, 0)) := hd_prev (by simp) (hd_last (by simp))
    refine ⟨?_, ?_⟩ <;> (rw [cell_of_row _ _ _ _ _ _ f]; rfl)
theorem ex23_ok (w : World) : ∀ x ∈ [q1, q2], Od.ok w x := by
  intro x hx
  simp only [List.mem_cons, List.not_mem_nil, or_false] at hx
  rcases hx with rfl | rfl <;> (unfold Od.ok; decide)
theorem ex23_row {w : World} {b : Nat} {t : TypeId} (h : w.heap[b]? = some (.cells #[.int .u64 1, .int .i64 0, .int .i64 1, .int .i64 12, .int .i64 10, .int .u64 0, .int .u64 2, .int .i64 0, .int .i64 1, .int .i64 15, .int .i64 10, .int .u64 0] t (0, 0))) : Ods w (some ⟨b, 0, none⟩) 2 [q1, q2] := by
  refine ⟨rfl, by omega, ex23_ok w, .inr ⟨b, 0, rfl, blk_lt h, fun i hi => ?_⟩⟩
  have e : i = 0 ∨ i = 1 := by omega
  rcases e with rfl | rfl
  · refine at_of fun c u hu => ?_
    have hc : c < 6 := (List.getElem?_eq_some_iff.1 hu).1
    rw [cell_of_row _ _ _ _ _ _ h, ← hu]
    have e : c = 0 ∨ c = 1 ∨ c = 2 ∨ c = 3 ∨ c = 4 ∨ c = 5 := by omega
    rcases e with rfl | rfl | rfl | rfl | rfl | rfl <;> rfl
  · refine at_of fun c u hu => ?_
    have hc : c < 6 := (List.getElem?_eq_some_iff.1 hu).1
    rw [cell_of_row _ _ _ _ _ _ h, ← hu]
    have e : c = 0 ∨ c = 1 ∨ c = 2 ∨ c = 3 ∨ c = 4 ∨ c = 5 := by omega
    rcases e with rfl | rfl | rfl | rfl | rfl | rfl <;> rfl
set_option maxHeartbeats 4000000 in
set_option maxRecDepth 100000 in
theorem lives23_c (w : World) : Calls Try.prog 5 #[] w fun e w' => e = .returned (.bool true) ∧ Below w.heap.size w w' := by
  have mixed : Try.prog.follows .mixedOrders = true := by kernel_rfl
  have HBs := Lib.hid basic_c
  have f0 := heap_alloc_new w (Obj.cells #[.int .u64 1, .int .i64 0, .int .i64 1, .int .i64 12, .int .i64 10, .int .u64 0, .int .u64 2, .int .i64 0, .int .i64 1, .int .i64 15, .int .i64 10, .int .u64 0] 29)
  have b0 : Below w.heap.size w (w.alloc (Obj.cells #[.int .u64 1, .int .i64 0, .int .i64 1, .int .i64 12, .int .i64 10, .int .u64 0, .int .u64 2, .int .i64 0, .int .i64 1, .int .i64 15, .int .i64 10, .int .u64 0] 29)) := (Below.refl _ _).alloc (Nat.le_refl _) _
  have HO0 := Lib.hid (ex23_row f0)
  have HB0 := Lib.hid b0
  clear f0 b0
  go_enter Try.func5, Try.ntmps5
  go_wp2_with fail
  refine (HBs.out _).mono ?_
  rintro e w1 ⟨r, rfl, HR⟩
  have B1 : Hid (Below w.heap.size w w1) := HB0.out.trans (HR.out.2.2.2.mono HB0.out.size)
  have HP := Lib.hid (plan23_c _ 2 2 [q1, q2] r w1 (HO0.out.below HR.out.2.2.2) (by omega) HR.out.1)
  clear HO0 HB0
  go_wp2_with fail
  refine HP.out.mono ?_
  rintro e w2 ⟨A, n, c, B, m, d, rfl, HF⟩
  have F := HF.out
  rw [HR.out.2.1, HR.out.2.2.1, ex_keep, ex_gone, ex_sort1] at F
  obtain ⟨b2, OA, _, OB, _⟩ := F
  have B2 : Hid (Below w.heap.size w w2) := B1.out.trans (b2.mono B1.out.size)
  obtain rfl : 1 = n := OA.1
  obtain rfl : 1 = m := OB.1
  rcases OA.2.2.2 with h | ⟨b, off, rfl, hb1, _⟩
  · omega
  rcases OB.2.2.2 with h | ⟨b', off', rfl, hb2, _⟩
  · omega
  have k0 : w2.cell? ⟨b, off, none⟩ = some (.int .u64 2) := (OA.cellsAt (i := 0) (by omega)).1
  obtain ⟨z0, z1, z2, z3, z4, z5⟩ : q1.at w2 b' off' := OB.cellsAt (i := 0) (by omega)
  clear OA OB b2 HF HP HR B1
  go_wp2_with fail
  refine wp_region_held_drew (S := (fun W => W.heap[b]? = w2.heap[b]? ∧ W.heap[b']? = w2.heap[b']?)) (by kernel_rfl) (by first | (dsimp only; (first | exact ⟨rfl, rfl⟩ | exact ⟨g1, g2⟩)) | (first | exact ⟨rfl, rfl⟩ | exact ⟨g1, g2⟩)) (fun hHeld => ?_)
  refine wpAnyH_take (i := 0) (oi := ⟨some 11, _, _, _, _, _⟩) (v := ?_) rfl (by kernel_rfl) (by kernel_rfl) (by kernel_rfl) (fun _ _ _ h => h) (Or.inl ⟨by kernel_rfl, ?_⟩) (by assumption) ?_
  rotate_left
  · (intro w hSw; (try dsimp only at hSw); go_simp; try with_reducible rfl)
  (repeat (first | simp only [Act.put] | simp only [List.setIfInBounds_toArray] | simp only [List.set_cons_succ] | simp only [List.set_cons_zero]))
  refine wpAnyH_take (i := 1) (oi := ⟨some 12, _, _, _, _, _⟩) (v := ?_) rfl (by kernel_rfl) (by kernel_rfl) (by kernel_rfl) (fun _ _ _ h => h) (Or.inl ⟨by kernel_rfl, ?_⟩) (by assumption) ?_
  rotate_left
  · (intro w hSw; (try dsimp only at hSw); go_simp; try with_reducible rfl)
  (repeat (first | simp only [Act.put] | simp only [List.setIfInBounds_toArray] | simp only [List.set_cons_succ] | simp only [List.set_cons_zero]))
  refine wpAnyH_take (i := 2) (oi := ⟨some 13, _, _, _, _, _⟩) (v := ?_) rfl (by kernel_rfl) (by kernel_rfl) (by kernel_rfl) (fun _ _ _ h => h) (Or.inl ⟨by kernel_rfl, ?_⟩) (by assumption) ?_
  rotate_left
  · (intro w hSw; (try dsimp only at hSw); go_simp; try with_reducible rfl)
  (repeat (first | simp only [Act.put] | simp only [List.setIfInBounds_toArray] | simp only [List.set_cons_succ] | simp only [List.set_cons_zero]))
  refine wpAnyH_take (i := 3) (oi := ⟨some 14, _, _, _, _, _⟩) (v := ?_) rfl (by kernel_rfl) (by kernel_rfl) (by kernel_rfl) (fun _ _ _ h => h) (Or.inl ⟨by kernel_rfl, ?_⟩) (by assumption) ?_
  rotate_left
  · (intro w hSw; (try dsimp only at hSw); go_simp; try with_reducible rfl)
  (repeat (first | simp only [Act.put] | simp only [List.setIfInBounds_toArray] | simp only [List.set_cons_succ] | simp only [List.set_cons_zero]))
  refine wpAnyH_take (i := 4) (oi := ⟨some 15, _, _, _, _, _⟩) (v := ?_) rfl (by kernel_rfl) (by kernel_rfl) (by kernel_rfl) (fun _ _ _ h => h) (Or.inl ⟨by kernel_rfl, ?_⟩) (by assumption) ?_
  rotate_left
  · (intro w hSw; (try dsimp only at hSw); go_simp; try with_reducible rfl)
  (repeat (first | simp only [Act.put] | simp only [List.setIfInBounds_toArray] | simp only [List.set_cons_succ] | simp only [List.set_cons_zero]))
  refine wpAnyH_take (i := 5) (oi := ⟨some 16, _, _, _, _, _⟩) (v := ?_) rfl (by kernel_rfl) (by kernel_rfl) (by kernel_rfl) (fun _ _ _ h => h) (Or.inl ⟨by kernel_rfl, ?_⟩) (by assumption) ?_
  rotate_left
  · (intro w hSw; (try dsimp only at hSw); go_simp; try with_reducible rfl)
  (repeat (first | simp only [Act.put] | simp only [List.setIfInBounds_toArray] | simp only [List.set_cons_succ] | simp only [List.set_cons_zero]))
  refine wpAnyH_take (i := 6) (oi := ⟨some 17, _, _, _, _, _⟩) (v := ?_) rfl (by kernel_rfl) (by kernel_rfl) (by kernel_rfl) (fun _ _ _ h => h) (Or.inl ⟨by kernel_rfl, ?_⟩) (by assumption) ?_
  rotate_left
  · (intro w hSw; (try dsimp only at hSw); go_simp; try with_reducible rfl)
  (repeat (first | simp only [Act.put] | simp only [List.setIfInBounds_toArray] | simp only [List.set_cons_succ] | simp only [List.set_cons_zero]))
  refine wpAnyH_take (i := 7) (oi := ⟨some 18, _, _, _, _, _⟩) (v := ?_) rfl (by kernel_rfl) (by kernel_rfl) (by kernel_rfl) (fun _ _ _ h => h) (Or.inl ⟨by kernel_rfl, ?_⟩) (by assumption) ?_
  rotate_left
  · (intro w hSw; have p0 := (World.cell?_of_block (a := ⟨b, off, none⟩) hSw.1).trans k0; (try dsimp only at hSw); go_simp; try with_reducible rfl)
  (repeat (first | simp only [Act.put] | simp only [List.setIfInBounds_toArray] | simp only [List.set_cons_succ] | simp only [List.set_cons_zero]))
  refine wpAnyH_take (i := 8) (oi := ⟨some 19, _, _, _, _, _⟩) (v := ?_) rfl (by kernel_rfl) (by kernel_rfl) (by kernel_rfl) (fun _ _ _ h => h) (Or.inl ⟨by kernel_rfl, ?_⟩) (by assumption) ?_
  rotate_left
  · (intro w hSw; (try dsimp only at hSw); go_simp; try with_reducible rfl)
  (repeat (first | simp only [Act.put] | simp only [List.setIfInBounds_toArray] | simp only [List.set_cons_succ] | simp only [List.set_cons_zero]))
  refine wpAnyH_take (i := 9) (oi := ⟨some 20, _, _, _, _, _⟩) (v := ?_) rfl (by kernel_rfl) (by kernel_rfl) (by kernel_rfl) (fun _ _ _ h => h) (Or.inl ⟨by kernel_rfl, ?_⟩) (by assumption) ?_
  rotate_left
  · (intro w hSw; (try dsimp only at hSw); go_simp; try with_reducible rfl)
  (repeat (first | simp only [Act.put] | simp only [List.setIfInBounds_toArray] | simp only [List.set_cons_succ] | simp only [List.set_cons_zero]))
  refine wpAnyH_take (i := 10) (oi := ⟨some 21, _, _, _, _, _⟩) (v := ?_) rfl (by kernel_rfl) (by kernel_rfl) (by kernel_rfl) (fun _ _ _ h => h) (Or.inl ⟨by kernel_rfl, ?_⟩) (by assumption) ?_
  rotate_left
  · (intro w hSw; (try dsimp only at hSw); go_simp; try with_reducible rfl)
  (repeat (first | simp only [Act.put] | simp only [List.setIfInBounds_toArray] | simp only [List.set_cons_succ] | simp only [List.set_cons_zero]))
  refine wpAnyH_take (i := 11) (oi := ⟨some 22, _, _, _, _, _⟩) (v := ?_) rfl (by kernel_rfl) (by kernel_rfl) (by kernel_rfl) (fun _ _ _ h => h) (Or.inl ⟨by kernel_rfl, ?_⟩) (by assumption) ?_
  rotate_left
  · (intro w hSw; (try dsimp only at hSw); go_simp; try with_reducible rfl)
  (repeat (first | simp only [Act.put] | simp only [List.setIfInBounds_toArray] | simp only [List.set_cons_succ] | simp only [List.set_cons_zero]))
  refine wpAnyH_take (i := 12) (oi := ⟨some 23, _, _, _, _, _⟩) (v := ?_) rfl (by kernel_rfl) (by kernel_rfl) (by kernel_rfl) (fun _ _ _ h => h) (Or.inl ⟨by kernel_rfl, ?_⟩) (by assumption) ?_
  rotate_left
  · (intro w hSw; (try dsimp only at hSw); go_simp; try with_reducible rfl)
  (repeat (first | simp only [Act.put] | simp only [List.setIfInBounds_toArray] | simp only [List.set_cons_succ] | simp only [List.set_cons_zero]))
  refine wpAnyH_take (i := 13) (oi := ⟨some 24, _, _, _, _, _⟩) (v := ?_) rfl (by kernel_rfl) (by kernel_rfl) (by kernel_rfl) (fun _ _ _ h => h) (Or.inl ⟨by kernel_rfl, ?_⟩) (by assumption) ?_
  rotate_left
  · (intro w hSw; (try dsimp only at hSw); go_simp; try with_reducible rfl)
  (repeat (first | simp only [Act.put] | simp only [List.setIfInBounds_toArray] | simp only [List.set_cons_succ] | simp only [List.set_cons_zero]))
  refine wpAnyH_take (i := 14) (oi := ⟨some 25, _, _, _, _, _⟩) (v := ?_) rfl (by kernel_rfl) (by kernel_rfl) (by kernel_rfl) (fun _ _ _ h => h) (Or.inl ⟨by kernel_rfl, ?_⟩) (by assumption) ?_
  rotate_left
  · (intro w hSw; (try dsimp only at hSw); go_simp; try with_reducible rfl)
  (repeat (first | simp only [Act.put] | simp only [List.setIfInBounds_toArray] | simp only [List.set_cons_succ] | simp only [List.set_cons_zero]))
  refine wpAnyH_take (i := 15) (oi := ⟨some 26, _, _, _, _, _⟩) (v := ?_) rfl (by kernel_rfl) (by kernel_rfl) (by kernel_rfl) (fun _ _ _ h => h) (Or.inl ⟨by kernel_rfl, ?_⟩) (by assumption) ?_
  rotate_left
  · (intro w hSw; (try dsimp only at hSw); go_simp; try with_reducible rfl)
  (repeat (first | simp only [Act.put] | simp only [List.setIfInBounds_toArray] | simp only [List.set_cons_succ] | simp only [List.set_cons_zero]))
  refine wpAnyH_take (i := 16) (oi := ⟨some 27, _, _, _, _, _⟩) (v := ?_) rfl (by kernel_rfl) (by kernel_rfl) (by kernel_rfl) (fun _ _ _ h => h) (Or.inl ⟨by kernel_rfl, ?_⟩) (by assumption) ?_
  rotate_left
  · (intro w hSw; (try dsimp only at hSw); go_simp; try with_reducible rfl)
  (repeat (first | simp only [Act.put] | simp only [List.setIfInBounds_toArray] | simp only [List.set_cons_succ] | simp only [List.set_cons_zero]))
  refine wpAnyH_take (i := 17) (oi := ⟨some 28, _, _, _, _, _⟩) (v := ?_) rfl (by kernel_rfl) (by kernel_rfl) (by kernel_rfl) (fun _ _ _ h => h) (Or.inl ⟨by kernel_rfl, ?_⟩) (by assumption) ?_
  rotate_left
  · (intro w hSw; (try dsimp only at hSw); go_simp; try with_reducible rfl)
  (repeat (first | simp only [Act.put] | simp only [List.setIfInBounds_toArray] | simp only [List.set_cons_succ] | simp only [List.set_cons_zero]))
  refine wpAnyH_take (i := 18) (oi := ⟨some 29, _, _, _, _, _⟩) (v := ?_) rfl (by kernel_rfl) (by kernel_rfl) (by kernel_rfl) (fun _ _ _ h => h) (Or.inl ⟨by kernel_rfl, ?_⟩) (by assumption) ?_
  rotate_left
  · (intro w hSw; have p0 := (World.cell?_of_block (a := ⟨b', off', none⟩) hSw.2).trans z0; have p1 := (World.cell?_of_block (a := ⟨b', off' + 1, none⟩) hSw.2).trans z1; have p2 := (World.cell?_of_block (a := ⟨b', off' + 2, none⟩) hSw.2).trans z2; have p3 := (World.cell?_of_block (a := ⟨b', off' + 3, none⟩) hSw.2).trans z3; have p4 := (World.cell?_of_block (a := ⟨b', off' + 4, none⟩) hSw.2).trans z4; have p5 := (World.cell?_of_block (a := ⟨b', off' + 5, none⟩) hSw.2).trans z5; (try dsimp only at hSw); go_simp; try with_reducible rfl)
  (repeat (first | simp only [Act.put] | simp only [List.setIfInBounds_toArray] | simp only [List.set_cons_succ] | simp only [List.set_cons_zero]))
  refine wpAnyH_ready (rs := [19]) (by kernel_rfl) (by simp) ?_
  refine AllReadyH.cons (o := ⟨some 30, _, _, _, _, _⟩) rfl (fun K hK => ?_) AllReadyH.nil
  go_simp
  ((with_reducible refine (HBs.out w2.drew).mono ?_); rintro e y1 ⟨r', rfl, HR'⟩; have g1 : y1.heap[b]? = w2.heap[b]? := HR'.out.2.2.2.block b hb1; have g2 : y1.heap[b']? = w2.heap[b']? := HR'.out.2.2.2.block b' hb2; have HWy := Lib.hid (why_c q1 r' y1 HR'.out.1); have ew : whyN r'.tkZ r'.lot q1 = 40 := (by rw [HR'.out.2.1, HR'.out.2.2.1]; first | done | exact ex_why); rw [ew] at HWy; clear ew; have B3 : Hid (Below w.heap.size w y1) := B2.out.drew.trans (HR'.out.2.2.2.mono B2.out.size))
  (try go_wp2_with fail)
  refine hK.out _ _ (by first | (dsimp only; (first | exact ⟨rfl, rfl⟩ | exact ⟨g1, g2⟩)) | (first | exact ⟨rfl, rfl⟩ | exact ⟨g1, g2⟩) | assumption) (fun hHeld => ?_)
  clear hK K
  (repeat (first | simp only [Act.put] | simp only [List.setIfInBounds_toArray] | simp only [List.set_cons_succ] | simp only [List.set_cons_zero]))
  refine wpAnyH_ready (rs := [20]) (by kernel_rfl) (by simp) ?_
  refine AllReadyH.cons (o := ⟨some 31, _, _, _, _, _⟩) rfl (fun K hK => ?_) AllReadyH.nil
  go_simp
  ((with_reducible refine HWy.out.mono ?_); rintro e y2 ⟨rfl, b4⟩; replace g1 := (b4.block b (Nat.lt_of_lt_of_le hb1 HR'.out.2.2.2.size)).trans g1; replace g2 := (b4.block b' (Nat.lt_of_lt_of_le hb2 HR'.out.2.2.2.size)).trans g2; have B4 : Hid (Below w.heap.size w y2) := B3.out.trans (b4.mono B3.out.size))
  (try go_wp2_with fail)
  refine hK.out _ _ (by first | (dsimp only; (first | exact ⟨rfl, rfl⟩ | exact ⟨g1, g2⟩)) | (first | exact ⟨rfl, rfl⟩ | exact ⟨g1, g2⟩) | assumption) (fun hHeld => ?_)
  clear hK K
  (repeat (first | simp only [Act.put] | simp only [List.setIfInBounds_toArray] | simp only [List.set_cons_succ] | simp only [List.set_cons_zero]))
  refine wpAnyH_take (i := 21) (oi := ⟨some 32, _, _, _, _, _⟩) (v := ?_) rfl (by kernel_rfl) (by kernel_rfl) (by kernel_rfl) (fun _ _ _ h => h) (Or.inl ⟨by kernel_rfl, ?_⟩) (by assumption) ?_
  rotate_left
  · (intro w hSw; (try dsimp only at hSw); go_simp; try with_reducible rfl)
  (repeat (first | simp only [Act.put] | simp only [List.setIfInBounds_toArray] | simp only [List.set_cons_succ] | simp only [List.set_cons_zero]))
  refine wpAnyH_take (i := 22) (oi := ⟨some 33, _, _, _, _, _⟩) (v := ?_) rfl (by kernel_rfl) (by kernel_rfl) (by kernel_rfl) (fun _ _ _ h => h) (Or.inl ⟨by kernel_rfl, ?_⟩) (by assumption) ?_
  rotate_left
  · (intro w hSw; (try dsimp only at hSw); go_simp; try with_reducible rfl)
  (repeat (first | simp only [Act.put] | simp only [List.setIfInBounds_toArray] | simp only [List.set_cons_succ] | simp only [List.set_cons_zero]))
  refine wpAnyH_take (i := 23) (oi := ⟨some 0, _, _, _, _, _⟩) (v := ?_) rfl (by kernel_rfl) (by kernel_rfl) (by kernel_rfl) (fun _ _ _ h => h) (Or.inl ⟨by kernel_rfl, ?_⟩) (by assumption) ?_
  rotate_left
  · (intro w hSw; (try dsimp only at hSw); go_simp; try with_reducible rfl)
  (repeat (first | simp only [Act.put] | simp only [List.setIfInBounds_toArray] | simp only [List.set_cons_succ] | simp only [List.set_cons_zero]))
  refine wpAnyH_done (by kernel_rfl) ?_ _
  go_wp2_with fail
  go_ret
  exact ⟨rfl, B4.out⟩
end Go.Proofs.Ytpibkjldmmecpaa
