/- requant: which of two came first (came), . -/
import Derived.Test.YtpibkjldmmecpaaRqP
namespace Go.Proofs.Ytpibkjldmmecpaa
open Go.RowKit Go.Sort Go.Lib Go.Shelf

set_option maxHeartbeats 4000000 in
set_option maxRecDepth 100000 in
theorem came_n (i1 a1 s1 p1 n1 q1 i2 a2 s2 p2 n2 q2 : Int) (w : World) :
    Calls Try.prog 16 #[.agg #[.int .u64 i1, .int .i64 a1, .int .i64 s1, .int .i64 p1, .int .i64 n1, .int .u64 q1], .agg #[.int .u64 i2, .int .i64 a2, .int .i64 s2, .int .i64 p2, .int .i64 n2, .int .u64 q2]] w fun e w' => e = .returned (.int .i64 (if cmpN q1 q2 = 0 then cmpN i1 i2 else cmpN q1 q2)) ∧ Gw w w' := by
  have HC1 := Lib.hid (compare_c q1 q2)
  have HC2 := Lib.hid (compare_c i1 i2)
  have HO := Lib.hid (fun g w hg => or_c (cmpN q1 q2) (cmpN i1 i2) g w hg)
  generalize cmpN q1 q2 = c1 at *
  generalize cmpN i1 i2 = c2 at *
  generalize (if c1 = 0 then c2 else c1) = c at *
  go_enter Try.func16, Try.ntmps16
  go_wp2_with fail
  refine wp_region_held_drew (S := (fun w' => w'.heap[w.heap.size]? = some (.cells #[.int .u64 i1, .int .i64 a1, .int .i64 s1, .int .i64 p1, .int .i64 n1, .int .u64 q1] 29 (0, 0)) ∧ w'.heap[w.heap.size + 1]? = some (.cells #[.int .u64 i2, .int .i64 a2, .int .i64 s2, .int .i64 p2, .int .i64 n2, .int .u64 q2] 29 (0, 0)))) (by kernel_rfl) (by first | (dsimp only; exact ⟨by (focus ((repeat' (first | (with_reducible assumption) | ((with_reducible refine hd_last ?_); (focus (first | (simp; done) | omega | (simp; omega)))) | ((with_reducible refine hd_prev ?_ ?_); (focus (first | (simp; done) | omega | (simp; omega)))) | (with_reducible refine hd_drew ?_))); done)), by (focus ((repeat' (first | (with_reducible assumption) | ((with_reducible refine hd_last ?_); (focus (first | (simp; done) | omega | (simp; omega)))) | ((with_reducible refine hd_prev ?_ ?_); (focus (first | (simp; done) | omega | (simp; omega)))) | (with_reducible refine hd_drew ?_))); done))⟩) | exact ⟨by (focus ((repeat' (first | (with_reducible assumption) | ((with_reducible refine hd_last ?_); (focus (first | (simp; done) | omega | (simp; omega)))) | ((with_reducible refine hd_prev ?_ ?_); (focus (first | (simp; done) | omega | (simp; omega)))) | (with_reducible refine hd_drew ?_))); done)), by (focus ((repeat' (first | (with_reducible assumption) | ((with_reducible refine hd_last ?_); (focus (first | (simp; done) | omega | (simp; omega)))) | ((with_reducible refine hd_prev ?_ ?_); (focus (first | (simp; done) | omega | (simp; omega)))) | (with_reducible refine hd_drew ?_))); done))⟩) (fun hHeld => ?_)
  refine wpAnyH_take (i := 0) (oi := ⟨some 5, _, _, _, _, _⟩) (v := ?_) rfl (by kernel_rfl) (by kernel_rfl) (by kernel_rfl) (fun _ _ _ h => h) (Or.inl ⟨by kernel_rfl, ?_⟩) (by assumption) ?_
  rotate_left
  · (intro w hSw; (try dsimp only at hSw); go_simp; try with_reducible rfl)
  (repeat (first | simp only [Act.put] | simp only [List.setIfInBounds_toArray] | simp only [List.set_cons_succ] | simp only [List.set_cons_zero]))
  refine wpAnyH_take (i := 1) (oi := ⟨some 6, _, _, _, _, _⟩) (v := ?_) rfl (by kernel_rfl) (by kernel_rfl) (by kernel_rfl) (fun _ _ _ h => h) (Or.inl ⟨by kernel_rfl, ?_⟩) (by assumption) ?_
  rotate_left
  · (intro w hSw; have cc := cell_of_row _ _ 5 _ _ _ hSw.1; (try dsimp only at hSw); go_simp; try with_reducible rfl)
  (repeat (first | simp only [Act.put] | simp only [List.setIfInBounds_toArray] | simp only [List.set_cons_succ] | simp only [List.set_cons_zero]))
  refine wpAnyH_take (i := 2) (oi := ⟨some 7, _, _, _, _, _⟩) (v := ?_) rfl (by kernel_rfl) (by kernel_rfl) (by kernel_rfl) (fun _ _ _ h => h) (Or.inl ⟨by kernel_rfl, ?_⟩) (by assumption) ?_
  rotate_left
  · (intro w hSw; (try dsimp only at hSw); go_simp; try with_reducible rfl)
  (repeat (first | simp only [Act.put] | simp only [List.setIfInBounds_toArray] | simp only [List.set_cons_succ] | simp only [List.set_cons_zero]))
  refine wpAnyH_take (i := 3) (oi := ⟨some 8, _, _, _, _, _⟩) (v := ?_) rfl (by kernel_rfl) (by kernel_rfl) (by kernel_rfl) (fun _ _ _ h => h) (Or.inl ⟨by kernel_rfl, ?_⟩) (by assumption) ?_
  rotate_left
  · (intro w hSw; have cc := cell_of_row _ _ 5 _ _ _ hSw.2; (try dsimp only at hSw); go_simp; try with_reducible rfl)
  (repeat (first | simp only [Act.put] | simp only [List.setIfInBounds_toArray] | simp only [List.set_cons_succ] | simp only [List.set_cons_zero]))
  refine wpAnyH_take (i := 5) (oi := ⟨some 10, _, _, _, _, _⟩) (v := ?_) rfl (by kernel_rfl) (by kernel_rfl) (by kernel_rfl) (fun _ _ _ h => h) (Or.inl ⟨by kernel_rfl, ?_⟩) (by assumption) ?_
  rotate_left
  · (intro w hSw; (try dsimp only at hSw); go_simp; try with_reducible rfl)
  (repeat (first | simp only [Act.put] | simp only [List.setIfInBounds_toArray] | simp only [List.set_cons_succ] | simp only [List.set_cons_zero]))
  refine wpAnyH_take (i := 6) (oi := ⟨some 11, _, _, _, _, _⟩) (v := ?_) rfl (by kernel_rfl) (by kernel_rfl) (by kernel_rfl) (fun _ _ _ h => h) (Or.inl ⟨by kernel_rfl, ?_⟩) (by assumption) ?_
  rotate_left
  · (intro w hSw; have cc := cell_of_row _ _ 0 _ _ _ hSw.1; (try dsimp only at hSw); go_simp; try with_reducible rfl)
  (repeat (first | simp only [Act.put] | simp only [List.setIfInBounds_toArray] | simp only [List.set_cons_succ] | simp only [List.set_cons_zero]))
  refine wpAnyH_take (i := 7) (oi := ⟨some 12, _, _, _, _, _⟩) (v := ?_) rfl (by kernel_rfl) (by kernel_rfl) (by kernel_rfl) (fun _ _ _ h => h) (Or.inl ⟨by kernel_rfl, ?_⟩) (by assumption) ?_
  rotate_left
  · (intro w hSw; (try dsimp only at hSw); go_simp; try with_reducible rfl)
  (repeat (first | simp only [Act.put] | simp only [List.setIfInBounds_toArray] | simp only [List.set_cons_succ] | simp only [List.set_cons_zero]))
  refine wpAnyH_take (i := 8) (oi := ⟨some 13, _, _, _, _, _⟩) (v := ?_) rfl (by kernel_rfl) (by kernel_rfl) (by kernel_rfl) (fun _ _ _ h => h) (Or.inl ⟨by kernel_rfl, ?_⟩) (by assumption) ?_
  rotate_left
  · (intro w hSw; have cc := cell_of_row _ _ 0 _ _ _ hSw.2; (try dsimp only at hSw); go_simp; try with_reducible rfl)
  (repeat (first | simp only [Act.put] | simp only [List.setIfInBounds_toArray] | simp only [List.set_cons_succ] | simp only [List.set_cons_zero]))
  refine wpAnyH_ready (rs := [4]) (by kernel_rfl) (by simp) ?_
  refine AllReadyH.cons (o := ⟨some 9, _, _, _, _, _⟩) rfl (fun K hK => ?_) AllReadyH.nil
  go_simp
  ((with_reducible refine (HC1.out _).mono ?_); rintro e w' ⟨rfl, rfl⟩)
  refine hK.out _ _ (by first | assumption | exact ⟨by (focus ((repeat' (first | (with_reducible assumption) | ((with_reducible refine hd_last ?_); (focus (first | (simp; done) | omega | (simp; omega)))) | ((with_reducible refine hd_prev ?_ ?_); (focus (first | (simp; done) | omega | (simp; omega)))) | (with_reducible refine hd_drew ?_))); done)), by (focus ((repeat' (first | (with_reducible assumption) | ((with_reducible refine hd_last ?_); (focus (first | (simp; done) | omega | (simp; omega)))) | ((with_reducible refine hd_prev ?_ ?_); (focus (first | (simp; done) | omega | (simp; omega)))) | (with_reducible refine hd_drew ?_))); done))⟩) (fun hHeld => ?_)
  clear hK K
  (repeat (first | simp only [Act.put] | simp only [List.setIfInBounds_toArray] | simp only [List.set_cons_succ] | simp only [List.set_cons_zero]))
  refine wpAnyH_ready (rs := [9]) (by kernel_rfl) (by simp) ?_
  refine AllReadyH.cons (o := ⟨some 14, _, _, _, _, _⟩) rfl (fun K hK => ?_) AllReadyH.nil
  go_simp
  ((with_reducible refine (HC2.out _).mono ?_); rintro e w' ⟨rfl, rfl⟩)
  refine hK.out _ _ (by first | assumption | exact ⟨by (focus ((repeat' (first | (with_reducible assumption) | ((with_reducible refine hd_last ?_); (focus (first | (simp; done) | omega | (simp; omega)))) | ((with_reducible refine hd_prev ?_ ?_); (focus (first | (simp; done) | omega | (simp; omega)))) | (with_reducible refine hd_drew ?_))); done)), by (focus ((repeat' (first | (with_reducible assumption) | ((with_reducible refine hd_last ?_); (focus (first | (simp; done) | omega | (simp; omega)))) | ((with_reducible refine hd_prev ?_ ?_); (focus (first | (simp; done) | omega | (simp; omega)))) | (with_reducible refine hd_drew ?_))); done))⟩) (fun hHeld => ?_)
  clear hK K
  (repeat (first | simp only [Act.put] | simp only [List.setIfInBounds_toArray] | simp only [List.set_cons_succ] | simp only [List.set_cons_zero]))
  refine wpAnyH_ready (rs := [10]) (by kernel_rfl) (by simp) ?_
  refine AllReadyH.cons (o := ⟨some 15, _, _, _, _, _⟩) rfl (fun K hK => ?_) AllReadyH.nil
  go_simp
  refine hK.out _ _ (by first | assumption | exact ⟨by (focus ((repeat' (first | (with_reducible assumption) | ((with_reducible refine hd_last ?_); (focus (first | (simp; done) | omega | (simp; omega)))) | ((with_reducible refine hd_prev ?_ ?_); (focus (first | (simp; done) | omega | (simp; omega)))) | (with_reducible refine hd_drew ?_))); done)), by (focus ((repeat' (first | (with_reducible assumption) | ((with_reducible refine hd_last ?_); (focus (first | (simp; done) | omega | (simp; omega)))) | ((with_reducible refine hd_prev ?_ ?_); (focus (first | (simp; done) | omega | (simp; omega)))) | (with_reducible refine hd_drew ?_))); done))⟩) (fun hHeld => ?_)
  clear hK K
  (repeat (first | simp only [Act.put] | simp only [List.setIfInBounds_toArray] | simp only [List.set_cons_succ] | simp only [List.set_cons_zero]))
  refine wpAnyH_ready (rs := [11]) (by kernel_rfl) (by simp) ?_
  refine AllReadyH.cons (o := ⟨some 16, _, _, _, _, _⟩) rfl (fun K hK => ?_) AllReadyH.nil
  go_simp
  ((with_reducible refine (HO.out _ _ ?_).mono ?_); (focus ((repeat' (first | (with_reducible assumption) | ((with_reducible refine hd_last ?_); (focus (first | (simp; done) | omega | (simp; omega)))) | ((with_reducible refine hd_prev ?_ ?_); (focus (first | (simp; done) | omega | (simp; omega)))) | (with_reducible refine hd_drew ?_))); done)); rintro e w' ⟨rfl, rfl⟩)
  refine hK.out _ _ (by first | assumption | exact ⟨by (focus ((repeat' (first | (with_reducible assumption) | ((with_reducible refine hd_last ?_); (focus (first | (simp; done) | omega | (simp; omega)))) | ((with_reducible refine hd_prev ?_ ?_); (focus (first | (simp; done) | omega | (simp; omega)))) | (with_reducible refine hd_drew ?_))); done)), by (focus ((repeat' (first | (with_reducible assumption) | ((with_reducible refine hd_last ?_); (focus (first | (simp; done) | omega | (simp; omega)))) | ((with_reducible refine hd_prev ?_ ?_); (focus (first | (simp; done) | omega | (simp; omega)))) | (with_reducible refine hd_drew ?_))); done))⟩) (fun hHeld => ?_)
  clear hK K
  (repeat (first | simp only [Act.put] | simp only [List.setIfInBounds_toArray] | simp only [List.set_cons_succ] | simp only [List.set_cons_zero]))
  refine wpAnyH_take (i := 12) (oi := ⟨some 4, _, _, _, _, _⟩) (v := ?_) rfl (by kernel_rfl) (by kernel_rfl) (by kernel_rfl) (fun _ _ _ h => h) (Or.inl ⟨by kernel_rfl, ?_⟩) (by assumption) ?_
  rotate_left
  · (intro w hSw; (try dsimp only at hSw); go_simp; try with_reducible rfl)
  (repeat (first | simp only [Act.put] | simp only [List.setIfInBounds_toArray] | simp only [List.set_cons_succ] | simp only [List.set_cons_zero]))
  refine wpAnyH_done (by kernel_rfl) ?_ _
  go_wp2_with fail
  go_ret
  exact ⟨rfl, ⟨by (focus ((repeat' (first | (with_reducible exact Below.refl _ _) | (with_reducible assumption) | (with_reducible refine Below.alloc ?_ ?_ _) | (with_reducible refine Below.setCell ?_ ?_ _) | (with_reducible refine Below.row ?_ ?_ _) | (with_reducible refine Below.drew ?_) | (with_reducible refine below_drewN ?_ _) | (focus (first | (simp; done) | omega | (simp; omega))))); done)), by first | exact Nat.le_refl _ | exact Nat.le_succ _⟩⟩
theorem came_c (x y : Od) (w : World) : Calls Try.prog 16 #[x.val, y.val] w fun e w' => e = .returned (.int .i64 (cmpC x y)) ∧ Gw w w' := came_n _ _ _ _ _ _ _ _ _ _ _ _ w
end Go.Proofs.Ytpibkjldmmecpaa
