/- order: Ahead. -/
import Derived.Test.YtgbmgdffgmablaaOrA
import Derived.Sort.Grow
namespace Go.Proofs.Ytgbmgdffgmablaa
open Go.RowKit

/-- What a call leaves that only makes memory, and draws. -/
structure Gw (w w' : World) : Prop where
  b : Below w.heap.size w w'
  d : w.drawn ≤ w'.drawn
theorem Gw.refl (w : World) : Gw w w := ⟨Below.refl _ _, Nat.le_refl _⟩
theorem Gw.trans {a b c : World} (h : Gw a b) (k : Gw b c) : Gw a c := ⟨h.b.trans (k.b.mono h.b.size), Nat.le_trans h.d k.d⟩
theorem Gw.alloc {a b : World} (h : Gw a b) (o : Obj) : Gw a (b.alloc o) := ⟨h.b.alloc h.b.size o, h.d⟩
theorem Gw.grow {w w' : World} (h : Gw w w') : ∃ q os, w' = Go.Sort.grow (w.drewN q) os := by
  refine ⟨w'.drawn - w.drawn, w'.heap.extract w.heap.size w'.heap.size, ?_⟩
  have e : w'.heap = w.heap ++ w'.heap.extract w.heap.size w'.heap.size := by
    apply Array.ext_getElem?
    intro i
    rw [Array.getElem?_append]
    by_cases hi : i < w.heap.size
    · rw [if_pos hi]; exact h.b.block i hi
    · rw [if_neg hi, Array.getElem?_extract]
      by_cases hj : i < w'.heap.size
      · rw [if_pos (by omega)]; congr 1; omega
      · rw [if_neg (by omega), Array.getElem?_eq_none (by omega)]
  have hd := h.d
  have h1 := h.b.tape; have h2 := h.b.os; have h3 := h.b.output
  cases w'; cases w
  simp only at e hd h1 h2 h3 ⊢
  subst h1 h2 h3
  unfold Go.Sort.grow World.drewN
  simp only [World.mk.injEq, true_and, and_true]
  exact ⟨e, by omega⟩
theorem hd_last {w : World} {o : Obj} {n : Nat} (h : n = w.heap.size) : (w.alloc o).heap[n]? = some o := by subst h; exact heap_alloc_new w o
theorem hd_prev {w : World} {o p : Obj} {n : Nat} (h : n < w.heap.size) (hp : w.heap[n]? = some p) : (w.alloc o).heap[n]? = some p := (heap_alloc_old (w := w) (o := o) h).trans hp
theorem hd_drew {w : World} {g : Nat} {p : Obj} (h : w.heap[g]? = some p) : w.drew.heap[g]? = some p := h
/-- Is the first order (ID, side, price, Seq) ahead of the second one? -/
def ahdN (i1 s1 p1 q1 i2 s2 p2 q2 : Int) : Bool :=
  if s1 ≠ s2 ∨ (s1 ≠ 1 ∧ s1 ≠ 2) then false else if p1 ≠ p2 then betN s1 p1 p2 else decide ((if cmpN q1 q2 = 0 then cmpN i1 i2 else cmpN q1 q2) < 0)
theorem rk_2 (s : Int) : (rkN s == 2) = decide (s ≠ 1 ∧ s ≠ 2) := by
  unfold rkN
  by_cases h1 : s = 1
  · simp [h1]
  · by_cases h2 : s = 2
    · simp [h2]
    · simp [h1, h2]
set_option maxHeartbeats 4000000 in
set_option maxRecDepth 100000 in
theorem ahead_c (i1 a1 s1 p1 n1 q1 i2 a2 s2 p2 n2 q2 : Int) (w : World) :
    Calls Try.prog 51 #[.agg #[.int .u64 i1, .int .i64 a1, .int .i64 s1, .int .i64 p1, .int .i64 n1, .int .u64 q1], .agg #[.int .u64 i2, .int .i64 a2, .int .i64 s2, .int .i64 p2, .int .i64 n2, .int .u64 q2]] w fun e w' => e = .returned (.bool (ahdN i1 s1 p1 q1 i2 s2 p2 q2)) ∧ Gw w w' := by
  unfold ahdN
  have HK := Lib.hid rank_c
  by_cases h1 : s1 = s2
  rotate_left
  · rw [if_pos (.inl h1)]
    have e1 : (s1 != s2) = true := by simp [h1]
    clear h1
    go_enter Try.func51, Try.ntmps51
    go_wp2_with fail
    go_ret
    exact ⟨rfl, ⟨by (focus ((repeat' (first | (with_reducible exact Below.refl _ _) | (with_reducible assumption) | (with_reducible refine Below.alloc ?_ ?_ _) | (with_reducible refine Below.setCell ?_ ?_ _) | (with_reducible refine Below.row ?_ ?_ _) | (with_reducible refine Below.drew ?_) | (with_reducible refine below_drewN ?_ _) | (focus (first | (simp; done) | omega | (simp; omega))))); done)), by first | exact Nat.le_refl _ | exact Nat.le_succ _⟩⟩
  have e1 : (s1 != s2) = false := by simp [h1]
  have r2 := rk_2 s1
  by_cases h2 : s1 ≠ 1 ∧ s1 ≠ 2
  · rw [if_pos (.inr h2)]
    rw [decide_eq_true h2] at r2
    clear h1 h2
    go_enter Try.func51, Try.ntmps51
    go_wp2_with ((with_reducible refine (HK.out _ _).mono ?_); rintro e w' ⟨rfl, rfl⟩)
    go_ret
    exact ⟨rfl, ⟨by (focus ((repeat' (first | (with_reducible exact Below.refl _ _) | (with_reducible assumption) | (with_reducible refine Below.alloc ?_ ?_ _) | (with_reducible refine Below.setCell ?_ ?_ _) | (with_reducible refine Below.row ?_ ?_ _) | (with_reducible refine Below.drew ?_) | (with_reducible refine below_drewN ?_ _) | (focus (first | (simp; done) | omega | (simp; omega))))); done)), by first | exact Nat.le_refl _ | exact Nat.le_succ _⟩⟩
  have hno : ¬ (s1 ≠ s2 ∨ (s1 ≠ 1 ∧ s1 ≠ 2)) := fun h => h.elim (fun h => h h1) h2
  rw [if_neg hno]
  rw [decide_eq_false h2] at r2
  by_cases h3 : p1 = p2
  rotate_left
  · rw [if_pos h3]
    have e3 : (p1 != p2) = true := by simp [h3]
    have HB := Lib.hid (better_c s1 p1 p2)
    generalize betN s1 p1 p2 = r at *
    clear h1 h2 h3 hno
    go_enter Try.func51, Try.ntmps51
    go_wp2_with (first | ((with_reducible refine (HK.out _ _).mono ?_); rintro e w' ⟨rfl, rfl⟩) | ((with_reducible refine (HB.out _).mono ?_); rintro e w' ⟨rfl, rfl⟩))
    go_ret
    exact ⟨rfl, ⟨by (focus ((repeat' (first | (with_reducible exact Below.refl _ _) | (with_reducible assumption) | (with_reducible refine Below.alloc ?_ ?_ _) | (with_reducible refine Below.setCell ?_ ?_ _) | (with_reducible refine Below.row ?_ ?_ _) | (with_reducible refine Below.drew ?_) | (with_reducible refine below_drewN ?_ _) | (focus (first | (simp; done) | omega | (simp; omega))))); done)), by first | exact Nat.le_refl _ | exact Nat.le_succ _⟩⟩
  rw [if_neg (by simp [h3])]
  have e3 : (p1 != p2) = false := by simp [h3]
  have HC1 := Lib.hid (compare_c q1 q2)
  have HC2 := Lib.hid (compare_c i1 i2)
  have HO := Lib.hid (fun g w hg => or_c (cmpN q1 q2) (cmpN i1 i2) g w hg)
  generalize cmpN q1 q2 = c1 at *
  generalize cmpN i1 i2 = c2 at *
  generalize (if c1 = 0 then c2 else c1) = c at *
  clear h1 h2 h3 hno
  go_enter Try.func51, Try.ntmps51
  go_wp2_with ((with_reducible refine (HK.out _ _).mono ?_); rintro e w' ⟨rfl, rfl⟩)
  refine wp_region_held_drew (S := (fun w' => w'.heap[w.heap.size]? = some (.cells #[.int .u64 i1, .int .i64 a1, .int .i64 s1, .int .i64 p1, .int .i64 n1, .int .u64 q1] 24 (0, 0)) ∧ w'.heap[w.heap.size + 1]? = some (.cells #[.int .u64 i2, .int .i64 a2, .int .i64 s2, .int .i64 p2, .int .i64 n2, .int .u64 q2] 24 (0, 0)))) (by kernel_rfl) (by first | (dsimp only; exact ⟨by (focus ((repeat' (first | (with_reducible assumption) | ((with_reducible refine hd_last ?_); (focus (first | (simp; done) | omega | (simp; omega)))) | ((with_reducible refine hd_prev ?_ ?_); (focus (first | (simp; done) | omega | (simp; omega)))) | (with_reducible refine hd_drew ?_))); done)), by (focus ((repeat' (first | (with_reducible assumption) | ((with_reducible refine hd_last ?_); (focus (first | (simp; done) | omega | (simp; omega)))) | ((with_reducible refine hd_prev ?_ ?_); (focus (first | (simp; done) | omega | (simp; omega)))) | (with_reducible refine hd_drew ?_))); done))⟩) | exact ⟨by (focus ((repeat' (first | (with_reducible assumption) | ((with_reducible refine hd_last ?_); (focus (first | (simp; done) | omega | (simp; omega)))) | ((with_reducible refine hd_prev ?_ ?_); (focus (first | (simp; done) | omega | (simp; omega)))) | (with_reducible refine hd_drew ?_))); done)), by (focus ((repeat' (first | (with_reducible assumption) | ((with_reducible refine hd_last ?_); (focus (first | (simp; done) | omega | (simp; omega)))) | ((with_reducible refine hd_prev ?_ ?_); (focus (first | (simp; done) | omega | (simp; omega)))) | (with_reducible refine hd_drew ?_))); done))⟩) (fun hHeld => ?_)
  refine wpAnyH_take (i := 0) (oi := ⟨some 28, _, _, _, _, _⟩) (v := ?_) rfl (by kernel_rfl) (by kernel_rfl) (by kernel_rfl) (fun _ _ _ h => h) (Or.inl ⟨by kernel_rfl, ?_⟩) (by assumption) ?_
  rotate_left
  · (intro w hSw; (try dsimp only at hSw); go_simp; try with_reducible rfl)
  (repeat (first | simp only [Act.put] | simp only [List.setIfInBounds_toArray] | simp only [List.set_cons_succ] | simp only [List.set_cons_zero]))
  refine wpAnyH_take (i := 1) (oi := ⟨some 29, _, _, _, _, _⟩) (v := ?_) rfl (by kernel_rfl) (by kernel_rfl) (by kernel_rfl) (fun _ _ _ h => h) (Or.inl ⟨by kernel_rfl, ?_⟩) (by assumption) ?_
  rotate_left
  · (intro w hSw; have cc := cell_of_row _ _ 5 _ _ _ hSw.1; (try dsimp only at hSw); go_simp; try with_reducible rfl)
  (repeat (first | simp only [Act.put] | simp only [List.setIfInBounds_toArray] | simp only [List.set_cons_succ] | simp only [List.set_cons_zero]))
  refine wpAnyH_take (i := 2) (oi := ⟨some 30, _, _, _, _, _⟩) (v := ?_) rfl (by kernel_rfl) (by kernel_rfl) (by kernel_rfl) (fun _ _ _ h => h) (Or.inl ⟨by kernel_rfl, ?_⟩) (by assumption) ?_
  rotate_left
  · (intro w hSw; (try dsimp only at hSw); go_simp; try with_reducible rfl)
  (repeat (first | simp only [Act.put] | simp only [List.setIfInBounds_toArray] | simp only [List.set_cons_succ] | simp only [List.set_cons_zero]))
  refine wpAnyH_take (i := 3) (oi := ⟨some 31, _, _, _, _, _⟩) (v := ?_) rfl (by kernel_rfl) (by kernel_rfl) (by kernel_rfl) (fun _ _ _ h => h) (Or.inl ⟨by kernel_rfl, ?_⟩) (by assumption) ?_
  rotate_left
  · (intro w hSw; have cc := cell_of_row _ _ 5 _ _ _ hSw.2; (try dsimp only at hSw); go_simp; try with_reducible rfl)
  (repeat (first | simp only [Act.put] | simp only [List.setIfInBounds_toArray] | simp only [List.set_cons_succ] | simp only [List.set_cons_zero]))
  refine wpAnyH_take (i := 5) (oi := ⟨some 33, _, _, _, _, _⟩) (v := ?_) rfl (by kernel_rfl) (by kernel_rfl) (by kernel_rfl) (fun _ _ _ h => h) (Or.inl ⟨by kernel_rfl, ?_⟩) (by assumption) ?_
  rotate_left
  · (intro w hSw; (try dsimp only at hSw); go_simp; try with_reducible rfl)
  (repeat (first | simp only [Act.put] | simp only [List.setIfInBounds_toArray] | simp only [List.set_cons_succ] | simp only [List.set_cons_zero]))
  refine wpAnyH_take (i := 6) (oi := ⟨some 34, _, _, _, _, _⟩) (v := ?_) rfl (by kernel_rfl) (by kernel_rfl) (by kernel_rfl) (fun _ _ _ h => h) (Or.inl ⟨by kernel_rfl, ?_⟩) (by assumption) ?_
  rotate_left
  · (intro w hSw; have cc := cell_of_row _ _ 0 _ _ _ hSw.1; (try dsimp only at hSw); go_simp; try with_reducible rfl)
  (repeat (first | simp only [Act.put] | simp only [List.setIfInBounds_toArray] | simp only [List.set_cons_succ] | simp only [List.set_cons_zero]))
  refine wpAnyH_take (i := 7) (oi := ⟨some 35, _, _, _, _, _⟩) (v := ?_) rfl (by kernel_rfl) (by kernel_rfl) (by kernel_rfl) (fun _ _ _ h => h) (Or.inl ⟨by kernel_rfl, ?_⟩) (by assumption) ?_
  rotate_left
  · (intro w hSw; (try dsimp only at hSw); go_simp; try with_reducible rfl)
  (repeat (first | simp only [Act.put] | simp only [List.setIfInBounds_toArray] | simp only [List.set_cons_succ] | simp only [List.set_cons_zero]))
  refine wpAnyH_take (i := 8) (oi := ⟨some 36, _, _, _, _, _⟩) (v := ?_) rfl (by kernel_rfl) (by kernel_rfl) (by kernel_rfl) (fun _ _ _ h => h) (Or.inl ⟨by kernel_rfl, ?_⟩) (by assumption) ?_
  rotate_left
  · (intro w hSw; have cc := cell_of_row _ _ 0 _ _ _ hSw.2; (try dsimp only at hSw); go_simp; try with_reducible rfl)
  (repeat (first | simp only [Act.put] | simp only [List.setIfInBounds_toArray] | simp only [List.set_cons_succ] | simp only [List.set_cons_zero]))
  refine wpAnyH_ready (rs := [4]) (by kernel_rfl) (by simp) ?_
  refine AllReadyH.cons (o := ⟨some 32, _, _, _, _, _⟩) rfl (fun K hK => ?_) AllReadyH.nil
  go_simp
  ((with_reducible refine (HC1.out _).mono ?_); rintro e w' ⟨rfl, rfl⟩)
  refine hK.out _ _ (by first | assumption | exact ⟨by (focus ((repeat' (first | (with_reducible assumption) | ((with_reducible refine hd_last ?_); (focus (first | (simp; done) | omega | (simp; omega)))) | ((with_reducible refine hd_prev ?_ ?_); (focus (first | (simp; done) | omega | (simp; omega)))) | (with_reducible refine hd_drew ?_))); done)), by (focus ((repeat' (first | (with_reducible assumption) | ((with_reducible refine hd_last ?_); (focus (first | (simp; done) | omega | (simp; omega)))) | ((with_reducible refine hd_prev ?_ ?_); (focus (first | (simp; done) | omega | (simp; omega)))) | (with_reducible refine hd_drew ?_))); done))⟩) (fun hHeld => ?_)
  clear hK K
  (repeat (first | simp only [Act.put] | simp only [List.setIfInBounds_toArray] | simp only [List.set_cons_succ] | simp only [List.set_cons_zero]))
  refine wpAnyH_ready (rs := [9]) (by kernel_rfl) (by simp) ?_
  refine AllReadyH.cons (o := ⟨some 37, _, _, _, _, _⟩) rfl (fun K hK => ?_) AllReadyH.nil
  go_simp
  ((with_reducible refine (HC2.out _).mono ?_); rintro e w' ⟨rfl, rfl⟩)
  refine hK.out _ _ (by first | assumption | exact ⟨by (focus ((repeat' (first | (with_reducible assumption) | ((with_reducible refine hd_last ?_); (focus (first | (simp; done) | omega | (simp; omega)))) | ((with_reducible refine hd_prev ?_ ?_); (focus (first | (simp; done) | omega | (simp; omega)))) | (with_reducible refine hd_drew ?_))); done)), by (focus ((repeat' (first | (with_reducible assumption) | ((with_reducible refine hd_last ?_); (focus (first | (simp; done) | omega | (simp; omega)))) | ((with_reducible refine hd_prev ?_ ?_); (focus (first | (simp; done) | omega | (simp; omega)))) | (with_reducible refine hd_drew ?_))); done))⟩) (fun hHeld => ?_)
  clear hK K
  (repeat (first | simp only [Act.put] | simp only [List.setIfInBounds_toArray] | simp only [List.set_cons_succ] | simp only [List.set_cons_zero]))
  refine wpAnyH_ready (rs := [10]) (by kernel_rfl) (by simp) ?_
  refine AllReadyH.cons (o := ⟨some 38, _, _, _, _, _⟩) rfl (fun K hK => ?_) AllReadyH.nil
  go_simp
  refine hK.out _ _ (by first | assumption | exact ⟨by (focus ((repeat' (first | (with_reducible assumption) | ((with_reducible refine hd_last ?_); (focus (first | (simp; done) | omega | (simp; omega)))) | ((with_reducible refine hd_prev ?_ ?_); (focus (first | (simp; done) | omega | (simp; omega)))) | (with_reducible refine hd_drew ?_))); done)), by (focus ((repeat' (first | (with_reducible assumption) | ((with_reducible refine hd_last ?_); (focus (first | (simp; done) | omega | (simp; omega)))) | ((with_reducible refine hd_prev ?_ ?_); (focus (first | (simp; done) | omega | (simp; omega)))) | (with_reducible refine hd_drew ?_))); done))⟩) (fun hHeld => ?_)
  clear hK K
  (repeat (first | simp only [Act.put] | simp only [List.setIfInBounds_toArray] | simp only [List.set_cons_succ] | simp only [List.set_cons_zero]))
  refine wpAnyH_ready (rs := [11]) (by kernel_rfl) (by simp) ?_
  refine AllReadyH.cons (o := ⟨some 39, _, _, _, _, _⟩) rfl (fun K hK => ?_) AllReadyH.nil
  go_simp
  ((with_reducible refine (HO.out _ _ ?_).mono ?_); (focus ((repeat' (first | (with_reducible assumption) | ((with_reducible refine hd_last ?_); (focus (first | (simp; done) | omega | (simp; omega)))) | ((with_reducible refine hd_prev ?_ ?_); (focus (first | (simp; done) | omega | (simp; omega)))) | (with_reducible refine hd_drew ?_))); done)); rintro e w' ⟨rfl, rfl⟩)
  refine hK.out _ _ (by first | assumption | exact ⟨by (focus ((repeat' (first | (with_reducible assumption) | ((with_reducible refine hd_last ?_); (focus (first | (simp; done) | omega | (simp; omega)))) | ((with_reducible refine hd_prev ?_ ?_); (focus (first | (simp; done) | omega | (simp; omega)))) | (with_reducible refine hd_drew ?_))); done)), by (focus ((repeat' (first | (with_reducible assumption) | ((with_reducible refine hd_last ?_); (focus (first | (simp; done) | omega | (simp; omega)))) | ((with_reducible refine hd_prev ?_ ?_); (focus (first | (simp; done) | omega | (simp; omega)))) | (with_reducible refine hd_drew ?_))); done))⟩) (fun hHeld => ?_)
  clear hK K
  (repeat (first | simp only [Act.put] | simp only [List.setIfInBounds_toArray] | simp only [List.set_cons_succ] | simp only [List.set_cons_zero]))
  refine wpAnyH_take (i := 12) (oi := ⟨some 40, _, _, _, _, _⟩) (v := ?_) rfl (by kernel_rfl) (by kernel_rfl) (by kernel_rfl) (fun _ _ _ h => h) (Or.inl ⟨by kernel_rfl, ?_⟩) (by assumption) ?_
  rotate_left
  · (intro w hSw; (try dsimp only at hSw); go_simp; try with_reducible rfl)
  (repeat (first | simp only [Act.put] | simp only [List.setIfInBounds_toArray] | simp only [List.set_cons_succ] | simp only [List.set_cons_zero]))
  refine wpAnyH_take (i := 13) (oi := ⟨some 4, _, _, _, _, _⟩) (v := ?_) rfl (by kernel_rfl) (by kernel_rfl) (by kernel_rfl) (fun _ _ _ h => h) (Or.inl ⟨by kernel_rfl, ?_⟩) (by assumption) ?_
  rotate_left
  · (intro w hSw; (try dsimp only at hSw); go_simp; try with_reducible rfl)
  (repeat (first | simp only [Act.put] | simp only [List.setIfInBounds_toArray] | simp only [List.set_cons_succ] | simp only [List.set_cons_zero]))
  refine wpAnyH_done (by kernel_rfl) ?_ _
  go_wp2_with fail
  go_ret
  exact ⟨rfl, ⟨by (focus ((repeat' (first | (with_reducible exact Below.refl _ _) | (with_reducible assumption) | (with_reducible refine Below.alloc ?_ ?_ _) | (with_reducible refine Below.setCell ?_ ?_ _) | (with_reducible refine Below.row ?_ ?_ _) | (with_reducible refine Below.drew ?_) | (with_reducible refine below_drewN ?_ _) | (focus (first | (simp; done) | omega | (simp; omega))))); done)), by first | exact Nat.le_refl _ | exact Nat.le_succ _⟩⟩
end Go.Proofs.Ytgbmgdffgmablaa
