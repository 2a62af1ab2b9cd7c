/- What the laws lean on, in a few texts (by shake.py): number 3 of 5. -/
import Derived.Test.YtdjbnnjcifgnlaaCp1
import Derived.Test.YtdjbnnjcifgnlaaCp2
import Derived.Maps.OwnSet
import Derived.Maps.OwnOps
import Derived.Deep.LoopGhost
import Derived.BigQuiet
import Derived.Maps.AppendAt
import Derived.Deep.Cut
import Derived.Deep.CutRange
import Derived.Shelf.SlSortCmp.QuietGrown
import Derived.Laws.OwnMore
import Derived.Laws.AppendOwnNone
import Derived.Sort.AssemblyPlain
import Derived.Deep.CutBlock
import Derived.Deep.DeepCutAuto
import Derived.OpenShut

namespace Go.Proofs.Ytdjbnnjcifgnlaa
open Go.RowKit Go.Lib
set_option linter.unusedVariables false

set_option maxHeartbeats 4000000 in
set_option maxRecDepth 100000 in
theorem wants_c (x : Od) (p : Int) (w : World) : Calls Try.prog 26 #[.agg #[.int .u64 x.id, .int .i64 x.acc, .int .i64 x.side, .int .i64 x.price, .int .i64 x.qty, .int .u64 x.seq], .int .i64 p] w fun e w' => e = .returned (.bool (wnO x p)) ∧ Gw w w' := by
  have HC := Lib.hid (crosses_c x.side x.price p)
  unfold wnO
  generalize croN x.side x.price p = r at *
  go_enter Try.func26, Try.ntmps26
  go_wp2_with ((with_reducible refine (HC.out _).mono ?_); rintro e w' ⟨rfl, rfl⟩)
  go_ret
  exact ⟨rfl, (Gw.refl w).alloc _⟩
set_option maxHeartbeats 4000000 in
set_option maxRecDepth 100000 in
theorem isNaNI_c (a : Int) (w : World) : Calls Try.prog 35 #[.int .i64 a] w fun e w' => e = .returned (.bool false) ∧ w = w' := by
  go_enter Try.func35, Try.ntmps35
  go_wp2_with fail
  go_ret
  exact ⟨rfl, rfl⟩
set_option maxHeartbeats 4000000 in
set_option maxRecDepth 100000 in
theorem compareI_c (a b : Int) (w : World) : Calls Try.prog 19 #[.int .i64 a, .int .i64 b] w fun e w' => e = .returned (.int .i64 (cmpN a b)) ∧ w = w' := by
  have HN := Lib.hid isNaNI_c
  unfold cmpN
  by_cases h1 : a < b
  · rw [if_pos h1]
    go_enter Try.func19, Try.ntmps19
    go_wp2_with ((with_reducible refine (HN.out _ _).mono ?_); rintro e w' ⟨rfl, rfl⟩)
    go_ret
    exact ⟨rfl, rfl⟩
  rw [if_neg h1]
  have g1 : decide (a < b) = false := decide_eq_false h1
  by_cases h2 : b < a
  · rw [if_pos h2]
    clear h1
    go_enter Try.func19, Try.ntmps19
    go_wp2_with ((with_reducible refine (HN.out _ _).mono ?_); rintro e w' ⟨rfl, rfl⟩)
    go_ret
    exact ⟨rfl, rfl⟩
  rw [if_neg h2]
  have g2 : decide (b < a) = false := decide_eq_false h2
  clear h1 h2
  go_enter Try.func19, Try.ntmps19
  go_wp2_with ((with_reducible refine (HN.out _ _).mono ?_); rintro e w' ⟨rfl, rfl⟩)
  go_ret
  exact ⟨rfl, rfl⟩
def or4 (a b c d : Int) : Int := if a ≠ 0 then a else if b ≠ 0 then b else if c ≠ 0 then c else d
theorem or4_lt (v o y p v' o' y' p' : Int) : decide (or4 (cmpN v' v) (cmpN o o') (cmpN y y') (cmpN p p') < 0) = btc v o y p v' o' y' p' := by
  have zz : ∀ a b : Int, a = b → ¬ (cmpN a b ≠ 0) := fun a b h hn => hn ((cmpN_0 a b).2 h)
  have nn : ∀ a b : Int, a ≠ b → cmpN a b ≠ 0 := fun a b h hn => h ((cmpN_0 a b).1 hn)
  unfold or4 btc
  by_cases h1 : v = v'
  · have k1 := zz v' v h1.symm
    have m1 : ¬ (v ≠ v') := fun h => h h1
    rw [if_neg k1, if_neg m1]
    by_cases h2 : o = o'
    · have k2 := zz o o' h2
      have m2 : ¬ (o ≠ o') := fun h => h h2
      rw [if_neg k2, if_neg m2]
      by_cases h3 : y = y'
      · have k3 := zz y y' h3
        have m3 : ¬ (y ≠ y') := fun h => h h3
        rw [if_neg k3, if_neg m3]
        exact decide_eq_decide.2 (cmpN_lt _ _)
      · rw [if_pos (nn y y' h3), if_pos h3]
        exact decide_eq_decide.2 (cmpN_lt _ _)
    · rw [if_pos (nn o o' h2), if_pos h2]
      exact decide_eq_decide.2 (cmpN_lt _ _)
  · rw [if_pos (nn v' v (fun h => h1 h.symm)), if_pos h1]
    exact decide_eq_decide.2 (cmpN_lt _ _)
theorem nz {a : Int} (h : a ≠ 0) : (a != 0) = true := by simp [h]
theorem isz {a : Int} (h : a = 0) : (a != 0) = false := by simp [h]
set_option maxHeartbeats 4000000 in
set_option maxRecDepth 100000 in
theorem or4_c (a b c d : Int) (g : Nat) (w : World) (hg : w.heap[g]? = some (.cells #[.int .i64 a, .int .i64 b, .int .i64 c, .int .i64 d] 3 (0, 0))) :
    Calls Try.prog 18 #[.slice (some ⟨g, 0, none⟩) 4 4] w fun e w' => e = .returned (.int .i64 (or4 a b c d)) ∧ w = w' := by
  have c0 : w.cell? ⟨g, 0, none⟩ = some (.int .i64 a) := by rw [cell_of_row _ _ _ _ _ _ hg]; rfl
  have c1 : w.cell? ⟨g, 1, none⟩ = some (.int .i64 b) := by rw [cell_of_row _ _ _ _ _ _ hg]; rfl
  have c2 : w.cell? ⟨g, 2, none⟩ = some (.int .i64 c) := by rw [cell_of_row _ _ _ _ _ _ hg]; rfl
  have c3 : w.cell? ⟨g, 3, none⟩ = some (.int .i64 d) := by rw [cell_of_row _ _ _ _ _ _ hg]; rfl
  clear hg
  by_cases h0 : a = 0
  rotate_left
  · have e0 := nz h0
    have E2 : Hid (Ending.returned (.int .i64 a) = Ending.returned (.int .i64 (or4 a b c d))) := Lib.hid (by unfold or4; rw [if_pos h0])
    clear h0
    go_enter Try.func18, Try.ntmps18
    go_wp2_with fail
    go_loop [8] (fun i => ∃ k : Nat, k ≤ 0 ∧ i = .int .i64 k) (fun i => 4 - (intOf i).toNat)
    case atStart => exact ⟨0, by omega, rfl⟩
    case round =>
      obtain ⟨k, hk, rfl⟩ := hrel
      have e : k = 0 := by omega
      rcases e with rfl
      · go_wp2_with fail
        go_ret
        exact ⟨E2.out, rfl⟩
  by_cases h1 : b = 0
  rotate_left
  · have e0 := isz h0
    have e1 := nz h1
    have E2 : Hid (Ending.returned (.int .i64 b) = Ending.returned (.int .i64 (or4 a b c d))) := Lib.hid (by unfold or4; rw [if_neg (not_not_intro h0), if_pos h1])
    clear h0 h1
    go_enter Try.func18, Try.ntmps18
    go_wp2_with fail
    go_loop [8] (fun i => ∃ k : Nat, k ≤ 1 ∧ i = .int .i64 k) (fun i => 4 - (intOf i).toNat)
    case atStart => exact ⟨0, by omega, rfl⟩
    case round =>
      obtain ⟨k, hk, rfl⟩ := hrel
      have e : k = 0 ∨ k = 1 := by omega
      rcases e with rfl | rfl
      · go_wp2_with fail
        exact ⟨⟨1, by omega, rfl⟩, by simp [intOf]⟩
      · go_wp2_with fail
        go_ret
        exact ⟨E2.out, rfl⟩
  by_cases h2 : c = 0
  rotate_left
  · have e0 := isz h0
    have e1 := isz h1
    have e2 := nz h2
    have E2 : Hid (Ending.returned (.int .i64 c) = Ending.returned (.int .i64 (or4 a b c d))) := Lib.hid (by unfold or4; rw [if_neg (not_not_intro h0), if_neg (not_not_intro h1), if_pos h2])
    clear h0 h1 h2
    go_enter Try.func18, Try.ntmps18
    go_wp2_with fail
    go_loop [8] (fun i => ∃ k : Nat, k ≤ 2 ∧ i = .int .i64 k) (fun i => 4 - (intOf i).toNat)
    case atStart => exact ⟨0, by omega, rfl⟩
    case round =>
      obtain ⟨k, hk, rfl⟩ := hrel
      have e : k = 0 ∨ k = 1 ∨ k = 2 := by omega
      rcases e with rfl | rfl | rfl
      · go_wp2_with fail
        exact ⟨⟨1, by omega, rfl⟩, by simp [intOf]⟩
      · go_wp2_with fail
        exact ⟨⟨2, by omega, rfl⟩, by simp [intOf]⟩
      · go_wp2_with fail
        go_ret
        exact ⟨E2.out, rfl⟩
  by_cases h3 : d = 0
  rotate_left
  · have e0 := isz h0
    have e1 := isz h1
    have e2 := isz h2
    have e3 := nz h3
    have E2 : Hid (Ending.returned (.int .i64 d) = Ending.returned (.int .i64 (or4 a b c d))) := Lib.hid (by unfold or4; rw [if_neg (not_not_intro h0), if_neg (not_not_intro h1), if_neg (not_not_intro h2)])
    clear h0 h1 h2 h3
    go_enter Try.func18, Try.ntmps18
    go_wp2_with fail
    go_loop [8] (fun i => ∃ k : Nat, k ≤ 3 ∧ i = .int .i64 k) (fun i => 4 - (intOf i).toNat)
    case atStart => exact ⟨0, by omega, rfl⟩
    case round =>
      obtain ⟨k, hk, rfl⟩ := hrel
      have e : k = 0 ∨ k = 1 ∨ k = 2 ∨ k = 3 := by omega
      rcases e with rfl | rfl | rfl | rfl
      · go_wp2_with fail
        exact ⟨⟨1, by omega, rfl⟩, by simp [intOf]⟩
      · go_wp2_with fail
        exact ⟨⟨2, by omega, rfl⟩, by simp [intOf]⟩
      · go_wp2_with fail
        exact ⟨⟨3, by omega, rfl⟩, by simp [intOf]⟩
      · go_wp2_with fail
        go_ret
        exact ⟨E2.out, rfl⟩
  have e0 := isz h0
  have e1 := isz h1
  have e2 := isz h2
  have e3 := isz h3
  have E2 : Hid (Ending.returned (.int .i64 0) = Ending.returned (.int .i64 (or4 a b c d))) := Lib.hid (by unfold or4; rw [if_neg (not_not_intro h0), if_neg (not_not_intro h1), if_neg (not_not_intro h2), h3])
  clear h0 h1 h2 h3
  go_enter Try.func18, Try.ntmps18
  go_wp2_with fail
  go_loop [8] (fun i => ∃ k : Nat, k ≤ 4 ∧ i = .int .i64 k) (fun i => 4 - (intOf i).toNat)
  case atStart => exact ⟨0, by omega, rfl⟩
  case round =>
    obtain ⟨k, hk, rfl⟩ := hrel
    have e : k = 0 ∨ k = 1 ∨ k = 2 ∨ k = 3 ∨ k = 4 := by omega
    rcases e with rfl | rfl | rfl | rfl | rfl
    · go_wp2_with fail
      exact ⟨⟨1, by omega, rfl⟩, by simp [intOf]⟩
    · go_wp2_with fail
      exact ⟨⟨2, by omega, rfl⟩, by simp [intOf]⟩
    · go_wp2_with fail
      exact ⟨⟨3, by omega, rfl⟩, by simp [intOf]⟩
    · go_wp2_with fail
      exact ⟨⟨4, by omega, rfl⟩, by simp [intOf]⟩
    · go_wp2_with fail
      go_ret
      exact ⟨E2.out, rfl⟩
set_option maxHeartbeats 4000000 in
set_option maxRecDepth 100000 in
theorem better_k (v o y p v' o' y' p' : Int) (w : World) : Calls Try.prog 17 #[.agg #[.int .i64 p, .int .i64 v, .int .i64 o, .int .i64 y], .agg #[.int .i64 p', .int .i64 v', .int .i64 o', .int .i64 y']] w fun e w' => e = .returned (.bool (btc v o y p v' o' y' p')) ∧ Gw w w' := by
  rw [← or4_lt]
  have H1 := Lib.hid (compareI_c v' v)
  have H2 := Lib.hid (compareI_c o o')
  have H3 := Lib.hid (compareI_c y y')
  have H4 := Lib.hid (compareI_c p p')
  have HO := Lib.hid (fun g w hg => or4_c (cmpN v' v) (cmpN o o') (cmpN y y') (cmpN p p') g w hg)
  generalize cmpN v' v = c1 at *
  generalize cmpN o o' = c2 at *
  generalize cmpN y y' = c3 at *
  generalize cmpN p p' = c4 at *
  generalize or4 c1 c2 c3 c4 = c at *
  go_enter Try.func17, Try.ntmps17
  go_wp2_with fail
  refine wp_region_held_drew (S := (fun w' => w'.heap[w.heap.size]? = some (.cells #[.int .i64 p, .int .i64 v, .int .i64 o, .int .i64 y] 51 (0, 0)) ∧ w'.heap[w.heap.size + 1]? = some (.cells #[.int .i64 p', .int .i64 v', .int .i64 o', .int .i64 y'] 51 (0, 0)))) (by kernel_rfl) (by first | (dsimp only; exact ⟨by (focus ((repeat' (first | (with_reducible assumption) | ((with_reducible refine hd_last ?_); (focus (first | (simp; done) | omega | (simp; omega)))) | ((with_reducible refine hd_prev ?_ ?_); (focus (first | (simp; done) | omega | (simp; omega)))) | (with_reducible refine hd_drew ?_))); done)), by (focus ((repeat' (first | (with_reducible assumption) | ((with_reducible refine hd_last ?_); (focus (first | (simp; done) | omega | (simp; omega)))) | ((with_reducible refine hd_prev ?_ ?_); (focus (first | (simp; done) | omega | (simp; omega)))) | (with_reducible refine hd_drew ?_))); done))⟩) | exact ⟨by (focus ((repeat' (first | (with_reducible assumption) | ((with_reducible refine hd_last ?_); (focus (first | (simp; done) | omega | (simp; omega)))) | ((with_reducible refine hd_prev ?_ ?_); (focus (first | (simp; done) | omega | (simp; omega)))) | (with_reducible refine hd_drew ?_))); done)), by (focus ((repeat' (first | (with_reducible assumption) | ((with_reducible refine hd_last ?_); (focus (first | (simp; done) | omega | (simp; omega)))) | ((with_reducible refine hd_prev ?_ ?_); (focus (first | (simp; done) | omega | (simp; omega)))) | (with_reducible refine hd_drew ?_))); done))⟩) (fun hHeld => ?_)
  refine wpAnyH_take (i := 0) (oi := ⟨some 5, _, _, _, _, _⟩) (v := ?_) rfl (by kernel_rfl) (by kernel_rfl) (by kernel_rfl) (fun _ _ _ h => h) (Or.inl ⟨by kernel_rfl, ?_⟩) (by assumption) ?_
  rotate_left
  · (intro w hSw; (try dsimp only at hSw); go_simp; try with_reducible rfl)
  (repeat (first | simp only [Act.put] | simp only [List.setIfInBounds_toArray] | simp only [List.set_cons_succ] | simp only [List.set_cons_zero]))
  refine wpAnyH_take (i := 1) (oi := ⟨some 6, _, _, _, _, _⟩) (v := ?_) rfl (by kernel_rfl) (by kernel_rfl) (by kernel_rfl) (fun _ _ _ h => h) (Or.inl ⟨by kernel_rfl, ?_⟩) (by assumption) ?_
  rotate_left
  · (intro w hSw; have cc := cell_of_row _ _ 1 _ _ _ hSw.2; (try dsimp only at hSw); go_simp; try with_reducible rfl)
  (repeat (first | simp only [Act.put] | simp only [List.setIfInBounds_toArray] | simp only [List.set_cons_succ] | simp only [List.set_cons_zero]))
  refine wpAnyH_take (i := 2) (oi := ⟨some 7, _, _, _, _, _⟩) (v := ?_) rfl (by kernel_rfl) (by kernel_rfl) (by kernel_rfl) (fun _ _ _ h => h) (Or.inl ⟨by kernel_rfl, ?_⟩) (by assumption) ?_
  rotate_left
  · (intro w hSw; (try dsimp only at hSw); go_simp; try with_reducible rfl)
  (repeat (first | simp only [Act.put] | simp only [List.setIfInBounds_toArray] | simp only [List.set_cons_succ] | simp only [List.set_cons_zero]))
  refine wpAnyH_take (i := 3) (oi := ⟨some 8, _, _, _, _, _⟩) (v := ?_) rfl (by kernel_rfl) (by kernel_rfl) (by kernel_rfl) (fun _ _ _ h => h) (Or.inl ⟨by kernel_rfl, ?_⟩) (by assumption) ?_
  rotate_left
  · (intro w hSw; have cc := cell_of_row _ _ 1 _ _ _ hSw.1; (try dsimp only at hSw); go_simp; try with_reducible rfl)
  (repeat (first | simp only [Act.put] | simp only [List.setIfInBounds_toArray] | simp only [List.set_cons_succ] | simp only [List.set_cons_zero]))
  refine wpAnyH_take (i := 5) (oi := ⟨some 10, _, _, _, _, _⟩) (v := ?_) rfl (by kernel_rfl) (by kernel_rfl) (by kernel_rfl) (fun _ _ _ h => h) (Or.inl ⟨by kernel_rfl, ?_⟩) (by assumption) ?_
  rotate_left
  · (intro w hSw; (try dsimp only at hSw); go_simp; try with_reducible rfl)
  (repeat (first | simp only [Act.put] | simp only [List.setIfInBounds_toArray] | simp only [List.set_cons_succ] | simp only [List.set_cons_zero]))
  refine wpAnyH_take (i := 6) (oi := ⟨some 11, _, _, _, _, _⟩) (v := ?_) rfl (by kernel_rfl) (by kernel_rfl) (by kernel_rfl) (fun _ _ _ h => h) (Or.inl ⟨by kernel_rfl, ?_⟩) (by assumption) ?_
  rotate_left
  · (intro w hSw; have cc := cell_of_row _ _ 2 _ _ _ hSw.1; (try dsimp only at hSw); go_simp; try with_reducible rfl)
  (repeat (first | simp only [Act.put] | simp only [List.setIfInBounds_toArray] | simp only [List.set_cons_succ] | simp only [List.set_cons_zero]))
  refine wpAnyH_take (i := 7) (oi := ⟨some 12, _, _, _, _, _⟩) (v := ?_) rfl (by kernel_rfl) (by kernel_rfl) (by kernel_rfl) (fun _ _ _ h => h) (Or.inl ⟨by kernel_rfl, ?_⟩) (by assumption) ?_
  rotate_left
  · (intro w hSw; (try dsimp only at hSw); go_simp; try with_reducible rfl)
  (repeat (first | simp only [Act.put] | simp only [List.setIfInBounds_toArray] | simp only [List.set_cons_succ] | simp only [List.set_cons_zero]))
  refine wpAnyH_take (i := 8) (oi := ⟨some 13, _, _, _, _, _⟩) (v := ?_) rfl (by kernel_rfl) (by kernel_rfl) (by kernel_rfl) (fun _ _ _ h => h) (Or.inl ⟨by kernel_rfl, ?_⟩) (by assumption) ?_
  rotate_left
  · (intro w hSw; have cc := cell_of_row _ _ 2 _ _ _ hSw.2; (try dsimp only at hSw); go_simp; try with_reducible rfl)
  (repeat (first | simp only [Act.put] | simp only [List.setIfInBounds_toArray] | simp only [List.set_cons_succ] | simp only [List.set_cons_zero]))
  refine wpAnyH_take (i := 10) (oi := ⟨some 15, _, _, _, _, _⟩) (v := ?_) rfl (by kernel_rfl) (by kernel_rfl) (by kernel_rfl) (fun _ _ _ h => h) (Or.inl ⟨by kernel_rfl, ?_⟩) (by assumption) ?_
  rotate_left
  · (intro w hSw; (try dsimp only at hSw); go_simp; try with_reducible rfl)
  (repeat (first | simp only [Act.put] | simp only [List.setIfInBounds_toArray] | simp only [List.set_cons_succ] | simp only [List.set_cons_zero]))
  refine wpAnyH_take (i := 11) (oi := ⟨some 16, _, _, _, _, _⟩) (v := ?_) rfl (by kernel_rfl) (by kernel_rfl) (by kernel_rfl) (fun _ _ _ h => h) (Or.inl ⟨by kernel_rfl, ?_⟩) (by assumption) ?_
  rotate_left
  · (intro w hSw; have cc := cell_of_row _ _ 3 _ _ _ hSw.1; (try dsimp only at hSw); go_simp; try with_reducible rfl)
  (repeat (first | simp only [Act.put] | simp only [List.setIfInBounds_toArray] | simp only [List.set_cons_succ] | simp only [List.set_cons_zero]))
  refine wpAnyH_take (i := 12) (oi := ⟨some 17, _, _, _, _, _⟩) (v := ?_) rfl (by kernel_rfl) (by kernel_rfl) (by kernel_rfl) (fun _ _ _ h => h) (Or.inl ⟨by kernel_rfl, ?_⟩) (by assumption) ?_
  rotate_left
  · (intro w hSw; (try dsimp only at hSw); go_simp; try with_reducible rfl)
  (repeat (first | simp only [Act.put] | simp only [List.setIfInBounds_toArray] | simp only [List.set_cons_succ] | simp only [List.set_cons_zero]))
  refine wpAnyH_take (i := 13) (oi := ⟨some 18, _, _, _, _, _⟩) (v := ?_) rfl (by kernel_rfl) (by kernel_rfl) (by kernel_rfl) (fun _ _ _ h => h) (Or.inl ⟨by kernel_rfl, ?_⟩) (by assumption) ?_
  rotate_left
  · (intro w hSw; have cc := cell_of_row _ _ 3 _ _ _ hSw.2; (try dsimp only at hSw); go_simp; try with_reducible rfl)
  (repeat (first | simp only [Act.put] | simp only [List.setIfInBounds_toArray] | simp only [List.set_cons_succ] | simp only [List.set_cons_zero]))
  refine wpAnyH_take (i := 15) (oi := ⟨some 20, _, _, _, _, _⟩) (v := ?_) rfl (by kernel_rfl) (by kernel_rfl) (by kernel_rfl) (fun _ _ _ h => h) (Or.inl ⟨by kernel_rfl, ?_⟩) (by assumption) ?_
  rotate_left
  · (intro w hSw; (try dsimp only at hSw); go_simp; try with_reducible rfl)
  (repeat (first | simp only [Act.put] | simp only [List.setIfInBounds_toArray] | simp only [List.set_cons_succ] | simp only [List.set_cons_zero]))
  refine wpAnyH_take (i := 16) (oi := ⟨some 21, _, _, _, _, _⟩) (v := ?_) rfl (by kernel_rfl) (by kernel_rfl) (by kernel_rfl) (fun _ _ _ h => h) (Or.inl ⟨by kernel_rfl, ?_⟩) (by assumption) ?_
  rotate_left
  · (intro w hSw; have cc := cell_of_row _ _ 0 _ _ _ hSw.1; (try dsimp only at hSw); go_simp; try with_reducible rfl)
  (repeat (first | simp only [Act.put] | simp only [List.setIfInBounds_toArray] | simp only [List.set_cons_succ] | simp only [List.set_cons_zero]))
  refine wpAnyH_take (i := 17) (oi := ⟨some 22, _, _, _, _, _⟩) (v := ?_) rfl (by kernel_rfl) (by kernel_rfl) (by kernel_rfl) (fun _ _ _ h => h) (Or.inl ⟨by kernel_rfl, ?_⟩) (by assumption) ?_
  rotate_left
  · (intro w hSw; (try dsimp only at hSw); go_simp; try with_reducible rfl)
  (repeat (first | simp only [Act.put] | simp only [List.setIfInBounds_toArray] | simp only [List.set_cons_succ] | simp only [List.set_cons_zero]))
  refine wpAnyH_take (i := 18) (oi := ⟨some 23, _, _, _, _, _⟩) (v := ?_) rfl (by kernel_rfl) (by kernel_rfl) (by kernel_rfl) (fun _ _ _ h => h) (Or.inl ⟨by kernel_rfl, ?_⟩) (by assumption) ?_
  rotate_left
  · (intro w hSw; have cc := cell_of_row _ _ 0 _ _ _ hSw.2; (try dsimp only at hSw); go_simp; try with_reducible rfl)
  (repeat (first | simp only [Act.put] | simp only [List.setIfInBounds_toArray] | simp only [List.set_cons_succ] | simp only [List.set_cons_zero]))
  refine wpAnyH_ready (rs := [4]) (by kernel_rfl) (by simp) ?_
  refine AllReadyH.cons (o := ⟨some 9, _, _, _, _, _⟩) rfl (fun K hK => ?_) AllReadyH.nil
  go_simp
  ((with_reducible refine (H1.out _).mono ?_); rintro e w' ⟨rfl, rfl⟩)
  refine hK.out _ _ (by first | (dsimp only; exact ⟨by (focus ((repeat' (first | (with_reducible assumption) | ((with_reducible refine hd_last ?_); (focus (first | (simp; done) | omega | (simp; omega)))) | ((with_reducible refine hd_prev ?_ ?_); (focus (first | (simp; done) | omega | (simp; omega)))) | (with_reducible refine hd_drew ?_))); done)), by (focus ((repeat' (first | (with_reducible assumption) | ((with_reducible refine hd_last ?_); (focus (first | (simp; done) | omega | (simp; omega)))) | ((with_reducible refine hd_prev ?_ ?_); (focus (first | (simp; done) | omega | (simp; omega)))) | (with_reducible refine hd_drew ?_))); done))⟩) | exact ⟨by (focus ((repeat' (first | (with_reducible assumption) | ((with_reducible refine hd_last ?_); (focus (first | (simp; done) | omega | (simp; omega)))) | ((with_reducible refine hd_prev ?_ ?_); (focus (first | (simp; done) | omega | (simp; omega)))) | (with_reducible refine hd_drew ?_))); done)), by (focus ((repeat' (first | (with_reducible assumption) | ((with_reducible refine hd_last ?_); (focus (first | (simp; done) | omega | (simp; omega)))) | ((with_reducible refine hd_prev ?_ ?_); (focus (first | (simp; done) | omega | (simp; omega)))) | (with_reducible refine hd_drew ?_))); done))⟩) (fun hHeld => ?_)
  clear hK K
  (repeat (first | simp only [Act.put] | simp only [List.setIfInBounds_toArray] | simp only [List.set_cons_succ] | simp only [List.set_cons_zero]))
  refine wpAnyH_ready (rs := [9]) (by kernel_rfl) (by simp) ?_
  refine AllReadyH.cons (o := ⟨some 14, _, _, _, _, _⟩) rfl (fun K hK => ?_) AllReadyH.nil
  go_simp
  ((with_reducible refine (H2.out _).mono ?_); rintro e w' ⟨rfl, rfl⟩)
  refine hK.out _ _ (by first | (dsimp only; exact ⟨by (focus ((repeat' (first | (with_reducible assumption) | ((with_reducible refine hd_last ?_); (focus (first | (simp; done) | omega | (simp; omega)))) | ((with_reducible refine hd_prev ?_ ?_); (focus (first | (simp; done) | omega | (simp; omega)))) | (with_reducible refine hd_drew ?_))); done)), by (focus ((repeat' (first | (with_reducible assumption) | ((with_reducible refine hd_last ?_); (focus (first | (simp; done) | omega | (simp; omega)))) | ((with_reducible refine hd_prev ?_ ?_); (focus (first | (simp; done) | omega | (simp; omega)))) | (with_reducible refine hd_drew ?_))); done))⟩) | exact ⟨by (focus ((repeat' (first | (with_reducible assumption) | ((with_reducible refine hd_last ?_); (focus (first | (simp; done) | omega | (simp; omega)))) | ((with_reducible refine hd_prev ?_ ?_); (focus (first | (simp; done) | omega | (simp; omega)))) | (with_reducible refine hd_drew ?_))); done)), by (focus ((repeat' (first | (with_reducible assumption) | ((with_reducible refine hd_last ?_); (focus (first | (simp; done) | omega | (simp; omega)))) | ((with_reducible refine hd_prev ?_ ?_); (focus (first | (simp; done) | omega | (simp; omega)))) | (with_reducible refine hd_drew ?_))); done))⟩) (fun hHeld => ?_)
  clear hK K
  (repeat (first | simp only [Act.put] | simp only [List.setIfInBounds_toArray] | simp only [List.set_cons_succ] | simp only [List.set_cons_zero]))
  refine wpAnyH_ready (rs := [14]) (by kernel_rfl) (by simp) ?_
  refine AllReadyH.cons (o := ⟨some 19, _, _, _, _, _⟩) rfl (fun K hK => ?_) AllReadyH.nil
  go_simp
  ((with_reducible refine (H3.out _).mono ?_); rintro e w' ⟨rfl, rfl⟩)
  refine hK.out _ _ (by first | (dsimp only; exact ⟨by (focus ((repeat' (first | (with_reducible assumption) | ((with_reducible refine hd_last ?_); (focus (first | (simp; done) | omega | (simp; omega)))) | ((with_reducible refine hd_prev ?_ ?_); (focus (first | (simp; done) | omega | (simp; omega)))) | (with_reducible refine hd_drew ?_))); done)), by (focus ((repeat' (first | (with_reducible assumption) | ((with_reducible refine hd_last ?_); (focus (first | (simp; done) | omega | (simp; omega)))) | ((with_reducible refine hd_prev ?_ ?_); (focus (first | (simp; done) | omega | (simp; omega)))) | (with_reducible refine hd_drew ?_))); done))⟩) | exact ⟨by (focus ((repeat' (first | (with_reducible assumption) | ((with_reducible refine hd_last ?_); (focus (first | (simp; done) | omega | (simp; omega)))) | ((with_reducible refine hd_prev ?_ ?_); (focus (first | (simp; done) | omega | (simp; omega)))) | (with_reducible refine hd_drew ?_))); done)), by (focus ((repeat' (first | (with_reducible assumption) | ((with_reducible refine hd_last ?_); (focus (first | (simp; done) | omega | (simp; omega)))) | ((with_reducible refine hd_prev ?_ ?_); (focus (first | (simp; done) | omega | (simp; omega)))) | (with_reducible refine hd_drew ?_))); done))⟩) (fun hHeld => ?_)
  clear hK K
  (repeat (first | simp only [Act.put] | simp only [List.setIfInBounds_toArray] | simp only [List.set_cons_succ] | simp only [List.set_cons_zero]))
  refine wpAnyH_ready (rs := [19]) (by kernel_rfl) (by simp) ?_
  refine AllReadyH.cons (o := ⟨some 24, _, _, _, _, _⟩) rfl (fun K hK => ?_) AllReadyH.nil
  go_simp
  ((with_reducible refine (H4.out _).mono ?_); rintro e w' ⟨rfl, rfl⟩)
  refine hK.out _ _ (by first | (dsimp only; exact ⟨by (focus ((repeat' (first | (with_reducible assumption) | ((with_reducible refine hd_last ?_); (focus (first | (simp; done) | omega | (simp; omega)))) | ((with_reducible refine hd_prev ?_ ?_); (focus (first | (simp; done) | omega | (simp; omega)))) | (with_reducible refine hd_drew ?_))); done)), by (focus ((repeat' (first | (with_reducible assumption) | ((with_reducible refine hd_last ?_); (focus (first | (simp; done) | omega | (simp; omega)))) | ((with_reducible refine hd_prev ?_ ?_); (focus (first | (simp; done) | omega | (simp; omega)))) | (with_reducible refine hd_drew ?_))); done))⟩) | exact ⟨by (focus ((repeat' (first | (with_reducible assumption) | ((with_reducible refine hd_last ?_); (focus (first | (simp; done) | omega | (simp; omega)))) | ((with_reducible refine hd_prev ?_ ?_); (focus (first | (simp; done) | omega | (simp; omega)))) | (with_reducible refine hd_drew ?_))); done)), by (focus ((repeat' (first | (with_reducible assumption) | ((with_reducible refine hd_last ?_); (focus (first | (simp; done) | omega | (simp; omega)))) | ((with_reducible refine hd_prev ?_ ?_); (focus (first | (simp; done) | omega | (simp; omega)))) | (with_reducible refine hd_drew ?_))); done))⟩) (fun hHeld => ?_)
  clear hK K
  (repeat (first | simp only [Act.put] | simp only [List.setIfInBounds_toArray] | simp only [List.set_cons_succ] | simp only [List.set_cons_zero]))
  refine wpAnyH_ready (rs := [20]) (by kernel_rfl) (by simp) ?_
  refine AllReadyH.cons (o := ⟨some 25, _, _, _, _, _⟩) rfl (fun K hK => ?_) AllReadyH.nil
  go_simp
  refine hK.out _ _ (by first | (dsimp only; exact ⟨by (focus ((repeat' (first | (with_reducible assumption) | ((with_reducible refine hd_last ?_); (focus (first | (simp; done) | omega | (simp; omega)))) | ((with_reducible refine hd_prev ?_ ?_); (focus (first | (simp; done) | omega | (simp; omega)))) | (with_reducible refine hd_drew ?_))); done)), by (focus ((repeat' (first | (with_reducible assumption) | ((with_reducible refine hd_last ?_); (focus (first | (simp; done) | omega | (simp; omega)))) | ((with_reducible refine hd_prev ?_ ?_); (focus (first | (simp; done) | omega | (simp; omega)))) | (with_reducible refine hd_drew ?_))); done))⟩) | exact ⟨by (focus ((repeat' (first | (with_reducible assumption) | ((with_reducible refine hd_last ?_); (focus (first | (simp; done) | omega | (simp; omega)))) | ((with_reducible refine hd_prev ?_ ?_); (focus (first | (simp; done) | omega | (simp; omega)))) | (with_reducible refine hd_drew ?_))); done)), by (focus ((repeat' (first | (with_reducible assumption) | ((with_reducible refine hd_last ?_); (focus (first | (simp; done) | omega | (simp; omega)))) | ((with_reducible refine hd_prev ?_ ?_); (focus (first | (simp; done) | omega | (simp; omega)))) | (with_reducible refine hd_drew ?_))); done))⟩) (fun hHeld => ?_)
  clear hK K
  (repeat (first | simp only [Act.put] | simp only [List.setIfInBounds_toArray] | simp only [List.set_cons_succ] | simp only [List.set_cons_zero]))
  refine wpAnyH_ready (rs := [21]) (by kernel_rfl) (by simp) ?_
  refine AllReadyH.cons (o := ⟨some 26, _, _, _, _, _⟩) rfl (fun K hK => ?_) AllReadyH.nil
  go_simp
  ((with_reducible refine (HO.out _ _ ?_).mono ?_); (focus ((repeat' (first | (with_reducible assumption) | ((with_reducible refine hd_last ?_); (focus (first | (simp; done) | omega | (simp; omega)))) | ((with_reducible refine hd_prev ?_ ?_); (focus (first | (simp; done) | omega | (simp; omega)))) | (with_reducible refine hd_drew ?_))); done)); rintro e w' ⟨rfl, rfl⟩)
  refine hK.out _ _ (by first | (dsimp only; exact ⟨by (focus ((repeat' (first | (with_reducible assumption) | ((with_reducible refine hd_last ?_); (focus (first | (simp; done) | omega | (simp; omega)))) | ((with_reducible refine hd_prev ?_ ?_); (focus (first | (simp; done) | omega | (simp; omega)))) | (with_reducible refine hd_drew ?_))); done)), by (focus ((repeat' (first | (with_reducible assumption) | ((with_reducible refine hd_last ?_); (focus (first | (simp; done) | omega | (simp; omega)))) | ((with_reducible refine hd_prev ?_ ?_); (focus (first | (simp; done) | omega | (simp; omega)))) | (with_reducible refine hd_drew ?_))); done))⟩) | exact ⟨by (focus ((repeat' (first | (with_reducible assumption) | ((with_reducible refine hd_last ?_); (focus (first | (simp; done) | omega | (simp; omega)))) | ((with_reducible refine hd_prev ?_ ?_); (focus (first | (simp; done) | omega | (simp; omega)))) | (with_reducible refine hd_drew ?_))); done)), by (focus ((repeat' (first | (with_reducible assumption) | ((with_reducible refine hd_last ?_); (focus (first | (simp; done) | omega | (simp; omega)))) | ((with_reducible refine hd_prev ?_ ?_); (focus (first | (simp; done) | omega | (simp; omega)))) | (with_reducible refine hd_drew ?_))); done))⟩) (fun hHeld => ?_)
  clear hK K
  (repeat (first | simp only [Act.put] | simp only [List.setIfInBounds_toArray] | simp only [List.set_cons_succ] | simp only [List.set_cons_zero]))
  refine wpAnyH_take (i := 22) (oi := ⟨some 27, _, _, _, _, _⟩) (v := ?_) rfl (by kernel_rfl) (by kernel_rfl) (by kernel_rfl) (fun _ _ _ h => h) (Or.inl ⟨by kernel_rfl, ?_⟩) (by assumption) ?_
  rotate_left
  · (intro w hSw; (try dsimp only at hSw); go_simp; try with_reducible rfl)
  (repeat (first | simp only [Act.put] | simp only [List.setIfInBounds_toArray] | simp only [List.set_cons_succ] | simp only [List.set_cons_zero]))
  refine wpAnyH_take (i := 23) (oi := ⟨some 4, _, _, _, _, _⟩) (v := ?_) rfl (by kernel_rfl) (by kernel_rfl) (by kernel_rfl) (fun _ _ _ h => h) (Or.inl ⟨by kernel_rfl, ?_⟩) (by assumption) ?_
  rotate_left
  · (intro w hSw; (try dsimp only at hSw); go_simp; try with_reducible rfl)
  (repeat (first | simp only [Act.put] | simp only [List.setIfInBounds_toArray] | simp only [List.set_cons_succ] | simp only [List.set_cons_zero]))
  refine wpAnyH_done (by kernel_rfl) ?_ _
  go_wp2_with fail
  go_ret
  exact ⟨rfl, ⟨by (focus ((repeat' (first | (with_reducible exact Below.refl _ _) | (with_reducible assumption) | (with_reducible refine Below.alloc ?_ ?_ _) | (with_reducible refine Below.setCell ?_ ?_ _) | (with_reducible refine Below.row ?_ ?_ _) | (with_reducible refine Below.drew ?_) | (with_reducible refine below_drewN ?_ _) | (focus (first | (simp; done) | omega | (simp; omega))))); done)), by first | exact Nat.le_refl _ | exact Nat.le_succ _ | (simp; done)⟩⟩
/-- A candidate, by its price; none, where that is 0. -/
def fl4 (p v o y : Int) : Nat → Int
  | 0 => p | 1 => v | 2 => o | _ => y
abbrev C4 (p v o y : Int) : Array Value := #[.int .i64 p, .int .i64 v, .int .i64 o, .int .i64 y]
theorem pt40 (p v o y : Int) (w : World) : (part 2 (C4 p v o y) 0).run Try.prog w = .ok (.int .i64 (fl4 p v o y 0)) w := by kernel_rfl
theorem pt41 (p v o y : Int) (w : World) : (part 2 (C4 p v o y) 1).run Try.prog w = .ok (.int .i64 (fl4 p v o y 1)) w := by kernel_rfl
theorem pt42 (p v o y : Int) (w : World) : (part 2 (C4 p v o y) 2).run Try.prog w = .ok (.int .i64 (fl4 p v o y 2)) w := by kernel_rfl
theorem pt43 (p v o y : Int) (w : World) : (part 2 (C4 p v o y) 3).run Try.prog w = .ok (.int .i64 (fl4 p v o y 3)) w := by kernel_rfl
theorem eq_cand (p v o y p' v' o' y' : Int) (w : World) : (Op.equalIn 10000 51 (.agg (C4 p v o y)) (.agg (C4 p' v' o' y'))).run Try.prog w = .ok ((p == p') && ((v == v') && ((o == o') && (y == y')))) w := by
  rw [run_equalIn_agg w 9999 51 _ _ (by unfold Program.fieldsOf; rw [Try.underlying51]) (by kernel_rfl)]
  have h2 : ∀ (a b : Int) (w : World), (Op.equalIn 9999 2 (.int .i64 a) (.int .i64 b)).run Try.prog w = .ok (a == b) w := fun a b w => run_equalIn_int w 9998 _ _ _ a b Try.underlying2
  unfold Program.fieldsOf
  rw [Try.underlying51]
  refine (eqf w 9999 _ _ _ ?_ (fun f => fl4 p v o y f.offset == fl4 p' v' o' y' f.offset) ?_).trans ?_
  · intro f hf
    simp only [List.mem_cons, List.not_mem_nil, or_false] at hf
    rcases hf with rfl | rfl | rfl | rfl <;> decide
  · intro f hf
    simp only [List.mem_cons, List.not_mem_nil, or_false] at hf
    rcases hf with rfl | rfl | rfl | rfl
    · exact ⟨_, _, pt40 p v o y w, pt40 p' v' o' y' w, h2 _ _ _⟩
    · exact ⟨_, _, pt41 p v o y w, pt41 p' v' o' y' w, h2 _ _ _⟩
    · exact ⟨_, _, pt42 p v o y w, pt42 p' v' o' y' w, h2 _ _ _⟩
    · exact ⟨_, _, pt43 p v o y w, pt43 p' v' o' y' w, h2 _ _ _⟩
  · simp [fl4]
theorem eqC (p v o y p' v' o' y' : Int) (w : World) : (binOp .eql 51 (.agg (C4 p v o y)) (.agg (C4 p' v' o' y'))).run Try.prog w = .ok (.bool ((p == p') && ((v == v') && ((o == o') && (y == y'))))) w := by
  rw [run_eql_struct, eq_cand]; rfl
end Go.Proofs.Ytdjbnnjcifgnlaa

namespace Go.Proofs.Ytdjbnnjcifgnlaa
open Go.RowKit Go.Lib Go.Maps
set_option linter.unusedVariables false

theorem c4_one (p v o y : Int) : (C4 p v o y).all Value.oneCell' = true := all_oneCell_toArray (cs := [.int .i64 p, .int .i64 v, .int .i64 o, .int .i64 y]) (by
  intro u hu
  simp only [List.mem_cons, List.not_mem_nil, or_false] at hu
  rcases hu with rfl | rfl | rfl | rfl <;> rfl)
theorem info_c4 (p v o y : Int) : (Try.prog.info? 51).map (·.size) = some (C4 p v o y).size := by kernel_rfl
section
variable {ops : Array Oper} {rest : List Oper} {o : Oper} {a : Act} {w : World} {Q : Exit → Act → World → Prop}
theorem loadK (x : Operand) (ho : o.op = .load 51 x) (hgd : o.guard = none) (g : Nat) (hx : a.eval x = .pointer (some ⟨g, 0, none⟩)) (p v q y : Int) (t : TypeId)
    (hg : w.heap[g]? = some (.cells (C4 p v q y) t (0, 0))) (h : wpList Try.prog ops Q rest (a.put o.dst (.agg (C4 p v q y))) w) : wpList Try.prog ops Q (o :: rest) a w :=
  wpList_plain hgd fun _ hK => wp_load_row _ x ho g hx _ _ (0, 0) _ hg Try.underlying51 rfl (info_c4 p v q y) (hK _ _ h)
theorem storeK (x z : Operand) (ho : o.op = .store 51 x z) (hgd : o.guard = none) (g : Nat) (p v q y : Int) (hx : a.eval x = .pointer (some ⟨g, 0, none⟩)) (hy : a.eval z = .agg (C4 p v q y)) (p' v' q' y' : Int) (t : TypeId)
    (hg : w.heap[g]? = some (.cells (C4 p' v' q' y') t (0, 0))) (h : wpList Try.prog ops Q rest (a.put o.dst undef) (w.setRow g (C4 p v q y))) : wpList Try.prog ops Q (o :: rest) a w :=
  wpList_plain hgd fun _ hK => wp_store_row _ x z ho g _ hx hy _ _ hg (info_c4 p v q y) rfl (c4_one p v q y) (hK _ _ h)
theorem storeK_0 {w0 : World} (x z : Operand) (ho : o.op = .store 51 x z) (hgd : o.guard = none) (g : Nat) (p v q y : Int) (hx : a.eval x = .pointer (some ⟨g, 0, none⟩)) (hy : a.eval z = .agg (C4 p v q y)) (p' v' q' y' : Int)
    (hg : g = w0.heap.size) (h : wpList Try.prog ops Q rest (a.put o.dst undef) (w0.alloc (.cells (C4 p v q y) 51))) : wpList Try.prog ops Q (o :: rest) a (w0.alloc (.cells (C4 p' v' q' y') 51)) := by
  subst hg
  refine storeK x z ho hgd _ p v q y hx hy p' v' q' y' _ (heap_last rfl) ?_
  rw [setRow_last rfl]
  exact h
end
theorem retK {fn : Func} {r : Tmp} (h : fn.results = #[.cell r 51]) (tmps : Array Value) (w : World) (g : Nat) (hp : tmps.getD r undef = .pointer (some ⟨g, 0, none⟩)) (p v q y : Int) (t : TypeId)
    (hg : w.heap[g]? = some (.cells (C4 p v q y) t (0, 0))) : (results fn tmps).run Try.prog w = .ok (.agg (C4 p v q y)) w :=
  results_cell_row h tmps w g _ _ (0, 0) _ hp hg Try.underlying51 rfl (info_c4 p v q y)
theorem keyC : Keyed Try.prog 3 := int_keyed Try.underlying3
theorem zeroC (w : World) : (zeroValue 2).run Try.prog w = .ok (.int .i64 0) w := by kernel_rfl
abbrev EL := DataW Unit
def zC : EL := .lit (.int .i64 0)
/-- The map: what those of both sides want. -/
def MapIs (w : World) (M k : Nat) (d1 d2 : Int) : Prop := ∃ D : EL, w.ownsMap Try.prog 3 (plainElem Try.prog 2) M k D ∧ D.atKey (.int .i64 1) zC = .lit (.int .i64 d1) ∧ D.atKey (.int .i64 2) zC = .lit (.int .i64 d2)
theorem MapIs.kept {w w' : World} {M k : Nat} {d1 d2 : Int} (h : MapIs w M k d1 d2) (hb : Below w.heap.size w w') : MapIs w' M k d1 d2 := by
  obtain ⟨D, h1, h2⟩ := h
  have hlt := h1.lt
  obtain ⟨es, clock, hm, F, hs, hD⟩ := h1
  exact ⟨D, ⟨es, clock, (hb.block M hlt).trans hm, F, hs, hD⟩, h2⟩
theorem key_lit (s : Int) : WideAt.IsKeyLit (.int .i64 s) := trivial
theorem put_keys {D : EL} (hD : IsMap D) {d1 d2 s c q : Int} (h1 : D.atKey (.int .i64 1) zC = .lit (.int .i64 d1)) (h2 : D.atKey (.int .i64 2) zC = .lit (.int .i64 d2)) (hc : D.atKey (.int .i64 s) zC = .lit (.int .i64 c)) (hs : s = 1 ∨ s = 2) :
    (D.put (.int .i64 s) (.lit (.int .i64 (c + q)))).atKey (.int .i64 1) zC = .lit (.int .i64 (d1 + if s = 1 then q else 0)) ∧ (D.put (.int .i64 s) (.lit (.int .i64 (c + q)))).atKey (.int .i64 2) zC = .lit (.int .i64 (d2 + if s = 2 then q else 0)) := by
  rcases hs with rfl | rfl
  · rw [h1] at hc
    injection hc with hc; injection hc with _ hc
    rw [atKey_put_same hD (key_lit 1), atKey_put_other (by simp), h2, hc]
    simp
  · rw [h2] at hc
    injection hc with hc; injection hc with _ hc
    rw [atKey_put_same hD (key_lit 2), atKey_put_other (by simp), h1, hc]
    simp
theorem sum_fits {L : List Od} (hq : QtyOk L) (h64 : L.length ≤ 64) (s p : Int) : 0 ≤ allS s p L ∧ allS s p L ≤ 70368744177664 := by
  have h := allS_bd s p hq
  have : (1099511627776 : Int) * L.length ≤ 1099511627776 * 64 := Int.mul_le_mul_of_nonneg_left (by omega) (by omega)
  omega
theorem map_next {w1 : World} {M k : Nat} {D : EL} {L : List Od} {p c : Int} {x : Od} (hk : k < L.length) (hx : L[k]! = x) (hg : goodO x = true) (hq : QtyOk L) (h64 : L.length ≤ 64) (hw : wnO x p = true)
    (h1 : D.atKey (.int .i64 1) zC = .lit (.int .i64 (allS 1 p (L.take k)))) (h2 : D.atKey (.int .i64 2) zC = .lit (.int .i64 (allS 2 p (L.take k)))) (hc : D.atKey (.int .i64 x.side) zC = .lit (.int .i64 c)) (hD : IsMap D)
    (hown : w1.ownsMap Try.prog 3 (plainElem Try.prog 2) M (k + 1) (D.put (.int .i64 x.side) (.lit (.int .i64 (wrap64 (c + x.qty)))))) : MapIs w1 M (k + 1) (allS 1 p (L.take (k + 1))) (allS 2 p (L.take (k + 1))) := by
  have hgq := good_qty hg
  have b1 := sum_fits (hq.take k) (by rw [List.length_take]; omega) 1 p
  have b2 := sum_fits (hq.take k) (by rw [List.length_take]; omega) 2 p
  have ec : c = allS 1 p (L.take k) ∨ c = allS 2 p (L.take k) := by
    rcases hgq.2.1 with e | e
    · rw [e, h1] at hc; injection hc with hc; injection hc with _ hc; exact .inl hc.symm
    · rw [e, h2] at hc; injection hc with hc; injection hc with _ hc; exact .inr hc.symm
  have ew : wrap64 (c + x.qty) = c + x.qty := by unfold wrap64; omega
  rw [ew] at hown
  have hp := put_keys (q := x.qty) hD h1 h2 hc hgq.2.1
  refine ⟨_, hown, ?_, ?_⟩
  · rw [hp.1, allS_take 1 p hk, hx]; unfold wnQ
    by_cases e : x.side = 1
    · rw [if_pos e, if_pos ⟨e, hw⟩]
    · rw [if_neg e, if_neg (fun h => e h.1)]
  · rw [hp.2, allS_take 2 p hk, hx]; unfold wnQ
    by_cases e : x.side = 2
    · rw [if_pos e, if_pos ⟨e, hw⟩]
    · rw [if_neg e, if_neg (fun h => e h.1)]
theorem map_stays {w1 : World} {M k : Nat} {L : List Od} {p : Int} {x : Od} (hk : k < L.length) (hx : L[k]! = x) (hw : wnO x p = false) (h : MapIs w1 M k (allS 1 p (L.take k)) (allS 2 p (L.take k))) : MapIs w1 M (k + 1) (allS 1 p (L.take (k + 1))) (allS 2 p (L.take (k + 1))) := by
  have e : ∀ s, allS s p (L.take (k + 1)) = allS s p (L.take k) := fun s => by
    rw [allS_take s p hk, hx]; unfold wnQ; rw [if_neg (by rw [hw]; simp)]; omega
  rw [e, e]
  obtain ⟨D, h1, h2⟩ := h
  exact ⟨D, h1.mono (by omega), h2⟩
/-- What the loop keeps: the result's block, the map. -/
def AtIn (w wr : World) (k : Nat) (d1 d2 : Int) : Prop := Below w.heap.size w wr ∧ wr.heap[w.heap.size]? = some (.cells (C4 0 0 0 0) 51 (0, 0)) ∧ MapIs wr (w.heap.size + 1) k d1 d2
theorem AtIn.below {w wr w' : World} {k : Nat} {d1 d2 : Int} (h : AtIn w wr k d1 d2) (hb : Below wr.heap.size wr w') : AtIn w w' k d1 d2 :=
  ⟨h.1.trans (hb.mono h.1.size), (hb.block _ (blk_lt h.2.1)).trans h.2.1, h.2.2.kept hb⟩

set_option maxHeartbeats 4000000 in
set_option maxRecDepth 100000 in
theorem at_c (A : Option Addr) (n c : Nat) (L : List Od) (p last : Int) (w : World) (HO : Ods w A n L) (hn : n ≤ 64) (hg : ∀ x ∈ L, goodO x = true) (hp : 1 ≤ p ∧ p ≤ 1099511627776) (hl : InR last) :
    Calls Try.prog 20 #[.slice A n c, .int .i64 p, .int .i64 last] w fun e w' => e = .returned (.agg (C4 p (volS L p) (ovrS L p) (wyN p last))) ∧ Below w.heap.size w w' := by
  have hmm := @run_makeMap Try.prog
  have HL := Lib.hid HO.1
  have HH := Lib.hid HO
  have HG := Lib.hid hg
  have HQ := Lib.hid (good_all hg)
  have b1 := sum_fits (good_all hg) (by rw [HO.1]; exact hn) 1 p
  have b2 := sum_fits (good_all hg) (by rw [HO.1]; exact hn) 2 p
  obtain ⟨v, hv⟩ : ∃ v, v = volS L p := ⟨_, rfl⟩
  obtain ⟨q, hq⟩ : ∃ q, q = ovrS L p := ⟨_, rfl⟩
  obtain ⟨y, hy⟩ : ∃ y, y = wyN p last := ⟨_, rfl⟩
  rw [← hv, ← hq, ← hy]
  have HV := Lib.hid hv
  have HQ2 := Lib.hid hq
  have HY := Lib.hid hy
  have HP := Lib.hid hp
  have HLast := Lib.hid hl
  have HB := Lib.hid (And.intro b1 b2)
  clear hv hq hy HO hg hp hl b1 b2
  go_enter Try.func20, Try.ntmps20
  go_wp2_with fail
  go_loopg [16] n (fun kx s16 wr => ∃ k : Nat, s16 = .int .i64 (k : Int) ∧ k ≤ n ∧ n - k ≤ kx ∧ Hid (AtIn w wr k (allS 1 p (L.take k)) (allS 2 p (L.take k))))
  case atStart =>
    refine ⟨0, rfl, by omega, by omega, Lib.hid ⟨((Below.refl _ _).alloc (Nat.le_refl _) _).alloc (by simp) _, ?_, .map [], ?_, rfl, rfl⟩⟩
    · exact hd_prev (by simp) (hd_last rfl)
    · have h := World.ownsMap_made (H := Unit) (w.alloc (.cells (C4 0 0 0 0) 51)) Try.prog 3 (plainElem Try.prog 2)
      simpa using h
  case round =>
    obtain ⟨k, rfl, hk, hkx, hI⟩ := hrel
    by_cases hlt : k < n
    · have hltI : (k : Int) < (n : Int) := by omega
      have hk0 : (0 : Int) ≤ (k : Int) := by omega
      have hO := HH.out.below hI.out.1
      obtain ⟨b, off, rfl, hb, hc⟩ : ∃ b off, A = some ⟨b, off, none⟩ ∧ b < wr.heap.size ∧ ∀ i, i < n → (L[i]!).at wr b (off + i * 6) := by
        rcases hO.2.2.2 with h | h
        · omega
        · exact h
      have hx := hc k hlt
      have hmem : L[k]! ∈ L := by rw [getElem!_pos L k (by rw [HL.out]; exact hlt)]; exact List.getElem_mem _
      have hgx := HG.out _ hmem
      obtain ⟨x, ex⟩ : ∃ x, L[k]! = x := ⟨_, rfl⟩
      rw [ex] at hx hgx
      have HX := Lib.hid ex
      have HGX := Lib.hid hgx
      have HKL : Hid (k < L.length) := Lib.hid (by rw [HL.out]; exact hlt)
      have HW := Lib.hid (wants_c x p (wr.alloc (.cells #[.int .u64 x.id, .int .i64 x.acc, .int .i64 x.side, .int .i64 x.price, .int .i64 x.qty, .int .u64 x.seq] 42)))
      clear ex hc hmem hO hgx
      obtain ⟨x0, x1, x2, x3, x4, x5⟩ := hx
      cases hbd : wnO x p with
      | false =>
        rw [hbd] at HW
        have HBD := Lib.hid hbd
        clear hbd
        go_wp2_with fail
        ((with_reducible refine HW.out.mono ?_); rintro e w4 ⟨rfl, k4⟩)
        have hN : Hid (AtIn w w4 (k + 1) (allS 1 p (L.take (k + 1))) (allS 2 p (L.take (k + 1)))) := Lib.hid (by
          have hb4 : Below wr.heap.size wr w4 := ((Below.refl _ _).alloc (Nat.le_refl _) _).trans (k4.b.mono (by simp))
          have := hI.out.below hb4
          exact ⟨this.1, this.2.1, map_stays HKL.out HX.out HBD.out this.2.2⟩)
        clear HW k4 hI
        go_wp2_with fail
        go_roundg (n - (k + 1))
        case measure => omega
        case rel => exact ⟨k + 1, by go_num, by omega, by omega, hN⟩
      | true =>
        rw [hbd] at HW
        have HBD := Lib.hid hbd
        clear hbd
        go_wp2_with fail
        ((with_reducible refine HW.out.mono ?_); rintro e w4 ⟨rfl, k4⟩)
        have hb4 : Below wr.heap.size wr w4 := ((Below.refl _ _).alloc (Nat.le_refl _) _).trans (k4.b.mono (by simp))
        have hc2 : w4.cell? ⟨wr.heap.size, 2, none⟩ = some (.int .i64 x.side) := by
          rw [k4.b.cell (p := ⟨wr.heap.size, 2, none⟩) (by simp), cell_of_row _ _ _ _ _ _ (heap_alloc_new wr _)]; rfl
        have hc4 : w4.cell? ⟨wr.heap.size, 4, none⟩ = some (.int .i64 x.qty) := by
          rw [k4.b.cell (p := ⟨wr.heap.size, 4, none⟩) (by simp), cell_of_row _ _ _ _ _ _ (heap_alloc_new wr _)]; rfl
        have hI4 := Lib.hid (hI.out.below hb4)
        obtain ⟨D, hown, hk1, hk2⟩ := hI4.out.2.2
        have HK1 := Lib.hid hk1
        have HK2 := Lib.hid hk2
        have hwf : (Lit.int .i64 x.side).wf = true := WalkArith.wf_i64 (by rcases (good_qty HGX.out).2.1 with e | e <;> omega)
        have hkey : keyOf Try.prog 3 (.int .i64 x.side) = some (.int .i64 x.side) := keyOf_int_mk Try.underlying3 hwf
        clear HW k4 hI hb4 hk1 hk2 hwf
        go_wp2_with (first
          | (at_lookup; refine wpList_lookup_own_int _ rfl _ _ 73 rfl 3 2 .i64 keyC Try.underlying73 Try.underlying2 (zeroC _) (w.heap.size + 1) k _ rfl hown _ _ rfl hkey ?_; intro cc hat hwc)
          | (at_mapUpdate; refine wpList_mapUpdate_own _ rfl _ _ _ 73 rfl 3 2 keyC Try.underlying73 _ (w.heap.size + 1) k _ rfl hown (by unfold maxLen; omega) _ _ _ rfl rfl hkey _ [] (plainElem_int Try.underlying2 (wrap64_wf _)) ?_; intro w5 hown5 hgrow5))
        have hN : Hid (AtIn w w5 (k + 1) (allS 1 p (L.take (k + 1))) (allS 2 p (L.take (k + 1)))) := Lib.hid (by
          have h4 := hI4.out
          exact ⟨h4.1.grown hgrow5 h4.1.size (fun j hj => by cases hj; omega), (World.grownBy.block hgrow5 _ (blk_lt h4.2.1) (by simp)).trans h4.2.1, map_next HKL.out HX.out HGX.out HQ.out (by rw [HL.out]; exact hn) HBD.out HK1.out HK2.out hat hown.isMap hown5⟩)
        clear hown5 hgrow5
        go_roundg (n - (k + 1))
        case measure => omega
        case rel => exact ⟨k + 1, by go_num, by omega, by omega, hN⟩
    · have hltI : ¬ (k : Int) < (n : Int) := by omega
      obtain rfl : k = n := by omega
      have htk : L.take k = L := List.take_of_length_le (by rw [HL.out]; exact Nat.le_refl _)
      rw [htk] at hI
      have HBl := Lib.hid hI.out.1
      have hR := hI.out.2.1
      obtain ⟨D, hown, hk1, hk2⟩ := hI.out.2.2
      obtain ⟨c1, ha1⟩ : ∃ c1, c1 = allS 1 p L := ⟨_, rfl⟩
      obtain ⟨c2, ha2⟩ : ∃ c2, c2 = allS 2 p L := ⟨_, rfl⟩
      have hr1 : ∀ m, (Instr.lookup 73 (.map (some (w.heap.size + 1))) (.int .i64 1) false).run Try.prog (wr.drewN m) = .ok (.int .i64 c1) (wr.drewN m) := fun m => by
        obtain ⟨cc, hr, ha, _⟩ := (show (wr.drewN m).ownsMap Try.prog 3 (plainElem Try.prog 2) (w.heap.size + 1) k D from hown).lookup_int keyC Try.underlying73 Try.underlying2 (zeroC _) (keyOf_int_mk (q := .i64) (a := 1) Try.underlying3 (by decide))
        rw [show (D.atKey (.int .i64 1) (.lit (.int .i64 0))) = D.atKey (.int .i64 1) zC from rfl, hk1] at ha
        injection ha with ha; injection ha with _ ha
        rw [hr, ha1, ha]
      have hr2 : ∀ m, (Instr.lookup 73 (.map (some (w.heap.size + 1))) (.int .i64 2) false).run Try.prog (wr.drewN m) = .ok (.int .i64 c2) (wr.drewN m) := fun m => by
        obtain ⟨cc, hr, ha, _⟩ := (show (wr.drewN m).ownsMap Try.prog 3 (plainElem Try.prog 2) (w.heap.size + 1) k D from hown).lookup_int keyC Try.underlying73 Try.underlying2 (zeroC _) (keyOf_int_mk (q := .i64) (a := 2) Try.underlying3 (by decide))
        rw [show (D.atKey (.int .i64 2) (.lit (.int .i64 0))) = D.atKey (.int .i64 2) zC from rfl, hk2] at ha
        injection ha with ha; injection ha with _ ha
        rw [hr, ha2, ha]
      have HV2 := HV.out
      have HQ3 := HQ2.out
      have hB := HB.out
      unfold volS at HV2
      unfold ovrS farN at HQ3
      rw [← ha1, ← ha2] at HV2 HQ3 hB
      have HV4 := Lib.hid HV2
      have HQ4 := Lib.hid HQ3
      obtain ⟨⟨p1, p2⟩, p3, p4⟩ := hB
      clear HV2 HQ3 ha1 ha2 hk1 hk2 hown hI HV HQ2 HB htk
      go_wp2_with fail
      go_quiet (fail)
      have hR2 : (wr.drewN nq).heap[w.heap.size]? = some (.cells (C4 0 0 0 0) 51 (0, 0)) := hR
      have HB2 := Lib.hid (below_drewN HBl.out nq)
      have hp0 := HP.out
      have hv0 : min c1 c2 = v := HV4.out.symm
      have hq0 : max (c1 - c2) (c2 - c1) = q := by rw [HQ4.out]; split <;> omega
      clear hR HBl HV4 HQ4
      generalize wr.drewN nq = w2 at hR2 HB2
      have hlt0 : w.heap.size < w2.heap.size := blk_lt hR2
      have hl9 := HLast.out
      unfold InR at hl9
      by_cases hl0 : 0 < last
      · have hy0 : max (p - last) (last - p) = y := by rw [HY.out]; unfold wyN farN; rw [if_pos hl0]; split <;> omega
        go_wp2_with (first | ((with_reducible apply loadK); rfl; rfl; rfl; (focus ((repeat' (first | (with_reducible assumption) | ((with_reducible refine heap_last ?_); (focus (first | (simp; done) | omega | (simp; omega)))) | ((with_reducible refine heap_prev ?_ ?_); (focus (first | (simp; done) | omega | (simp; omega)))) | (with_reducible apply sign_heap) | (with_reducible apply row_heap) | (with_reducible apply bit0_heap) | ((with_reducible refine sign_other ?_ ?_); (focus (first | (simp; done) | omega | (simp; omega)))) | ((with_reducible refine row_other ?_ ?_); (focus (first | (simp; done) | omega | (simp; omega)))) | (with_reducible refine drew_heap ?_))); done)); skip) | ((with_reducible apply storeK_0); rfl; rfl; rfl; rfl; rfl; skip) | ((with_reducible apply storeK); rfl; rfl; rfl; rfl; (focus ((repeat' (first | (with_reducible assumption) | ((with_reducible refine heap_last ?_); (focus (first | (simp; done) | omega | (simp; omega)))) | ((with_reducible refine heap_prev ?_ ?_); (focus (first | (simp; done) | omega | (simp; omega)))) | (with_reducible apply sign_heap) | (with_reducible apply row_heap) | (with_reducible apply bit0_heap) | ((with_reducible refine sign_other ?_ ?_); (focus (first | (simp; done) | omega | (simp; omega)))) | ((with_reducible refine row_other ?_ ?_); (focus (first | (simp; done) | omega | (simp; omega)))) | (with_reducible refine drew_heap ?_))); done)); skip))
        (with_reducible apply bodyPost_ret)
        (apply retK; rfl; rfl; (focus ((repeat' (first | (with_reducible assumption) | ((with_reducible refine heap_last ?_); (focus (first | (simp; done) | omega | (simp; omega)))) | ((with_reducible refine heap_prev ?_ ?_); (focus (first | (simp; done) | omega | (simp; omega)))) | (with_reducible apply sign_heap) | (with_reducible apply row_heap) | (with_reducible apply bit0_heap) | ((with_reducible refine sign_other ?_ ?_); (focus (first | (simp; done) | omega | (simp; omega)))) | ((with_reducible refine row_other ?_ ?_); (focus (first | (simp; done) | omega | (simp; omega)))) | (with_reducible refine drew_heap ?_))); done)))
        rfl
        exact ⟨rfl, Below.row (HB2.out.alloc HB2.out.size _) (Nat.le_refl _) _⟩
      · have hy0 : y = 0 := by rw [HY.out]; unfold wyN; rw [if_neg hl0]
        subst hy0
        go_wp2_with (first | ((with_reducible apply loadK); rfl; rfl; rfl; (focus ((repeat' (first | (with_reducible assumption) | ((with_reducible refine heap_last ?_); (focus (first | (simp; done) | omega | (simp; omega)))) | ((with_reducible refine heap_prev ?_ ?_); (focus (first | (simp; done) | omega | (simp; omega)))) | (with_reducible apply sign_heap) | (with_reducible apply row_heap) | (with_reducible apply bit0_heap) | ((with_reducible refine sign_other ?_ ?_); (focus (first | (simp; done) | omega | (simp; omega)))) | ((with_reducible refine row_other ?_ ?_); (focus (first | (simp; done) | omega | (simp; omega)))) | (with_reducible refine drew_heap ?_))); done)); skip) | ((with_reducible apply storeK_0); rfl; rfl; rfl; rfl; rfl; skip) | ((with_reducible apply storeK); rfl; rfl; rfl; rfl; (focus ((repeat' (first | (with_reducible assumption) | ((with_reducible refine heap_last ?_); (focus (first | (simp; done) | omega | (simp; omega)))) | ((with_reducible refine heap_prev ?_ ?_); (focus (first | (simp; done) | omega | (simp; omega)))) | (with_reducible apply sign_heap) | (with_reducible apply row_heap) | (with_reducible apply bit0_heap) | ((with_reducible refine sign_other ?_ ?_); (focus (first | (simp; done) | omega | (simp; omega)))) | ((with_reducible refine row_other ?_ ?_); (focus (first | (simp; done) | omega | (simp; omega)))) | (with_reducible refine drew_heap ?_))); done)); skip))
        (with_reducible apply bodyPost_ret)
        (apply retK; rfl; rfl; (focus ((repeat' (first | (with_reducible assumption) | ((with_reducible refine heap_last ?_); (focus (first | (simp; done) | omega | (simp; omega)))) | ((with_reducible refine heap_prev ?_ ?_); (focus (first | (simp; done) | omega | (simp; omega)))) | (with_reducible apply sign_heap) | (with_reducible apply row_heap) | (with_reducible apply bit0_heap) | ((with_reducible refine sign_other ?_ ?_); (focus (first | (simp; done) | omega | (simp; omega)))) | ((with_reducible refine row_other ?_ ?_); (focus (first | (simp; done) | omega | (simp; omega)))) | (with_reducible refine drew_heap ?_))); done)))
        rfl
        exact ⟨rfl, Below.row (HB2.out.alloc HB2.out.size _) (Nat.le_refl _) _⟩
end Go.Proofs.Ytdjbnnjcifgnlaa

namespace Go.Proofs.Ytdjbnnjcifgnlaa
open Go.RowKit Go.Sort Go.Lib Go.Shelf

/-- The capacity; of nil: none. -/
def CapOk (A : Option Addr) (n c : Nat) : Prop := n ≤ c ∧ (A = none → c = 0)
/-- A row of the call's own reads as orders. -/
theorem own_ods {w : World} {base n : Nat} {T : TypeId} {v : Value} {L : List Od} (h : w.ownsRow base T 6 v n (ol L)) (hn : n ≤ 1000) (hok : ∀ x ∈ L, Od.ok w x) : ∃ A c, v = .slice A n c ∧ CapOk A n c ∧ Ods w A n L := by
  obtain ⟨h1, h2⟩ := h
  rw [ol_len] at h1
  have hl : L.length = n := by omega
  rcases h2 with ⟨hv, h0⟩ | ⟨k, cap, cur, hv, _, hk, hc, hm, hs, ht⟩
  · subst h0; exact ⟨none, 0, hv, ⟨Nat.le_refl _, fun _ => rfl⟩, hl, by omega, hok, .inl rfl⟩
  · refine ⟨_, _, hv, ⟨hc, fun h => by cases h⟩, hl, by omega, hok, .inr ⟨k, 0, rfl, blk_lt hk, fun i hi => ?_⟩⟩
    have hcell : ∀ j v, (ol L)[j]? = some v → w.cell? ⟨k, 0 + j, none⟩ = some v := by
      intro j v hj
      rw [← ht, List.getElem?_take] at hj
      split at hj
      · rw [Array.getElem?_toList] at hj
        rw [Nat.zero_add, cell_of_row _ _ _ _ _ _ hk, hj]
      · cases hj
    have g : ∀ c v, c < 6 → (encO L[i]!)[c]? = some v → w.cell? ⟨k, 0 + i * 6 + c, none⟩ = some v := fun c v hc hv => by
      rw [Nat.add_assoc]
      exact hcell (i * 6 + c) v ((ol_get L i c (by omega) hc).trans hv)
    exact ⟨g 0 _ (by omega) rfl, g 1 _ (by omega) rfl, g 2 _ (by omega) rfl, g 3 _ (by omega) rfl, g 4 _ (by omega) rfl, g 5 _ (by omega) rfl⟩
theorem ol_snoc {L : List Od} {k : Nat} (h : k < L.length) : ol (L.take (k + 1)) = ol (L.take k) ++ encO L[k]! := by
  unfold ol
  rw [List.take_succ_eq_append_getElem h, List.flatMap_append, getElem!_pos L k h]
  simp
theorem ol_app (L : List Od) (x : Od) : ol (L ++ [x]) = ol L ++ encO x := by
  unfold ol
  rw [List.flatMap_append]
  simp
theorem six_news (w : World) (x : Od) : ∀ (j : Nat) (u : Value), (encO x)[j]? = some u → (w.alloc (Obj.cells (OC x) 41)).cell? ((⟨w.heap.size, 0, none⟩ : Addr).add j) = some u := by
  intro j u hu
  rw [addr_add, cell_of_row _ _ _ _ _ _ (heap_alloc_new w _)]
  match j, hu with
  | 0, hu => simpa [encO] using hu
  | 1, hu => simpa [encO] using hu
  | 2, hu => simpa [encO] using hu
  | 3, hu => simpa [encO] using hu
  | 4, hu => simpa [encO] using hu
  | 5, hu => simpa [encO] using hu
theorem info_ro : (Try.prog.info? 41).map (fun i => (i.zero, i.size, i.bytes)) = some (some (.agg (OC ⟨0, 0, 0, 0, 0, 0⟩)), 6, 48) := by kernel_rfl
theorem enc_one (x : Od) : ∀ u ∈ encO x, u.oneCell' = true := fun u hu => encD_one (x, 0) u hu

/-- Orders that came back in a row of their own. -/
def RowIs (w : World) (L : List Od) (e : Ending) (w' : World) : Prop := ∃ A n c, e = .returned (.slice A n c) ∧ Hid (Below w.heap.size w w' ∧ Ods w' A n L ∧ CapOk A n c)

set_option maxHeartbeats 4000000 in
set_option maxRecDepth 1000000 in
theorem plain_c (A : Option Addr) (n c : Nat) (L : List Od) (w : World) (H : Ods w A n L) (hn : n ≤ 1000) :
    Calls Try.prog 10 #[.slice A n c] w (RowIs w L) := by
  obtain ⟨i0, hi0, hz0, hz1, hz2⟩ := info_parts info_ro
  have HO : Aside (Ods w A n L) := H
  have HLn := Lib.hid H.1
  clear H
  go_enter Try.func10, Try.ntmps10
  go_wp2_with fail
  go_loopg [3, 8] n (fun kx v s8 wr => ∃ k : Nat, s8 = .int .i64 k ∧ k ≤ n ∧ n - k ≤ kx ∧ wr.ownsRow w.heap.size 41 6 v k (ol (L.take k)) ∧ Hid (Below w.heap.size w wr))
  case atStart => exact ⟨0, rfl, by omega, by omega, World.ownsRow_nil _ _ _ _, Below.refl _ _⟩
  case round =>
    obtain ⟨k, rfl, hk, hkx, hown, hd⟩ := hrel
    by_cases hlt : k < n
    · have hltI : (k : Int) < (n : Int) := by omega
      have h1 := (HO.out.below hd.out).2.2.2
      rcases h1 with h1 | ⟨b, off, rfl, _, hc⟩
      · omega
      have hx := hc k hlt
      clear hc
      have HN := Lib.hid (ol_snoc (L := L) (k := k) (by rw [HLn.out]; exact hlt))
      obtain ⟨x, ex⟩ : ∃ x, L[k]! = x := ⟨_, rfl⟩
      rw [ex] at hx HN
      clear ex
      obtain ⟨x0, x1, x2, x3, x4, x5⟩ := hx
      have hsz := hd.out.size
      go_wp2_with (at_builtin; refine wpList_append_own _ rfl _ _ 27 rfl w.heap.size 41 i0 (.agg (OC ⟨0, 0, 0, 0, 0, 0⟩)) 6 48 Try.underlying27 hi0 hz0 hz1 hz2 rfl (by decide) _ _ _ rfl ((hown.alloc (Obj.cells (OC x) 42)).alloc _) ⟨wr.heap.size + 1, 0, none⟩ 1 1 (encO x) rfl rfl ?c1 ?c2 ?c3 ?c4 ?c5 ?_)
      case c1 =>
        have e1 : wr.heap.size + 1 = (wr.alloc (Obj.cells (OC x) 42)).heap.size := by simp
        rw [e1]
        exact six_news _ x
      case c2 => exact enc_one x
      case c3 => unfold maxLen; omega
      case c4 => omega
      case c5 => simp; omega
      intro v1 w1 hown1 hg1 _
      have hB1 : Hid (Below w.heap.size w w1) := Below.grown ((hd.out.alloc hsz _).alloc (by simp; omega) _) hg1 (by simp; omega) (fun k hk => (hown.lt k hk).1)
      rw [← HN.out] at hown1
      clear hg1 hown hd
      go_wp2_with fail
      go_roundg (n - (k + 1))
      case measure => omega
      case rel => exact ⟨k + 1, by go_num, by omega, by omega, hown1, hB1⟩
    · have hltI : ¬ (k : Int) < (n : Int) := by omega
      obtain rfl : k = n := by omega
      rw [List.take_of_length_le (by rw [HLn.out]; exact Nat.le_refl _)] at hown
      obtain ⟨A', c', rfl, hc, ht⟩ := own_ods hown hn (fun x hx => (HO.out.below hd.out).2.2.1 x hx)
      have HF : Hid (Below w.heap.size w wr ∧ Ods wr A' k L ∧ CapOk A' k c') := ⟨hd.out, ht, hc⟩
      clear hown ht hd
      go_wp2_with fail
      go_ret
      exact ⟨A', k, c', rfl, HF.out⟩

end Go.Proofs.Ytdjbnnjcifgnlaa

namespace Go.Proofs.Ytdjbnnjcifgnlaa
open Go.RowKit Go.Sort Go.Lib Go.Shelf

/-- The side, or 0 of none. -/
def clsO (x : Od) : Int := if x.side < 1 ∨ 2 < x.side then 0 else x.side
def ofO (s : Int) (x : Od) : Bool := decide (clsO x = s)
theorem fil_yes {L : List Od} {k : Nat} {s : Int} (h : k < L.length) (hp : clsO L[k]! = s) : (L.take (k + 1)).filter (ofO s) = (L.take k).filter (ofO s) ++ [L[k]!] := by
  rw [List.take_succ_eq_append_getElem h, List.filter_append, ← getElem!_pos L k h]
  congr 1
  rw [List.filter_cons_of_pos (by unfold ofO; exact decide_eq_true hp)]
  rfl
theorem fil_no {L : List Od} {k : Nat} {s : Int} (h : k < L.length) (hp : ¬ clsO L[k]! = s) : (L.take (k + 1)).filter (ofO s) = (L.take k).filter (ofO s) := by
  rw [List.take_succ_eq_append_getElem h, List.filter_append, ← getElem!_pos L k h]
  rw [List.filter_cons_of_neg (by unfold ofO; simpa using hp)]
  simp
set_option maxHeartbeats 4000000 in
set_option maxRecDepth 1000000 in
theorem rSide_c (A : Option Addr) (n c : Nat) (s : Int) (L : List Od) (w : World) (H : Ods w A n L) (hn : n ≤ 1000) :
    Calls Try.prog 55 #[.slice A n c, .int .i64 s] w (RowIs w (L.filter (ofO s))) := by
  obtain ⟨i0, hi0, hz0, hz1, hz2⟩ := info_parts info_ro
  have HO : Aside (Ods w A n L) := H
  have HLn := Lib.hid H.1
  clear H
  go_enter Try.func55, Try.ntmps55
  go_wp2_with fail
  go_loopg [5, 6] n (fun kx v s6 wr => ∃ k m : Nat, s6 = .int .i64 k ∧ k ≤ n ∧ n - k ≤ kx ∧ m ≤ k ∧ wr.ownsRow w.heap.size 41 6 v m (ol ((L.take k).filter (ofO s))) ∧ Hid (Below w.heap.size w wr))
  case atStart => exact ⟨0, 0, rfl, by omega, by omega, by omega, World.ownsRow_nil _ _ _ _, Below.refl _ _⟩
  case round =>
    obtain ⟨k, m, rfl, hk, hkx, hmk, hown, hd⟩ := hrel
    by_cases hlt : k < n
    · have hltI : (k : Int) < (n : Int) := by omega
      have h1 := (HO.out.below hd.out).2.2.2
      rcases h1 with h1 | ⟨b, off, rfl, _, hc⟩
      · omega
      have hx := hc k hlt
      clear hc
      have HY := Lib.hid (fun h => fil_yes (L := L) (k := k) (s := s) (by rw [HLn.out]; exact hlt) h)
      have HN := Lib.hid (fun h => fil_no (L := L) (k := k) (s := s) (by rw [HLn.out]; exact hlt) h)
      obtain ⟨x, ex⟩ : ∃ x, L[k]! = x := ⟨_, rfl⟩
      rw [ex] at hx HN HY
      clear ex
      obtain ⟨x0, x1, x2, x3, x4, x5⟩ := hx
      have hsz := hd.out.size
      by_cases h1 : x.side < 1
      · have c1 : decide (x.side < 1) = true := decide_eq_true h1
        have e : clsO x = 0 := by unfold clsO; rw [if_pos (.inl h1)]
        by_cases hp : clsO x = s
        · have hs := hp
          rw [e] at hs
          have e1 : ((0 : Int) == s) = true := by simp [hs]
          have HF := HY.out hp
          have HF := Lib.hid HF
          clear hp HY HN hs e
          go_wp2_with (at_builtin; refine wpList_append_own _ rfl _ _ 27 rfl w.heap.size 41 i0 (.agg (OC ⟨0, 0, 0, 0, 0, 0⟩)) 6 48 Try.underlying27 hi0 hz0 hz1 hz2 rfl (by decide) _ _ _ rfl (hown.alloc _) ⟨wr.heap.size, 0, none⟩ 1 1 (encO x) rfl rfl ?c1 ?c2 ?c3 ?c4 ?c5 ?_)
          case c1 => first | exact six_news _ x | exact fun j u h => h
          case c2 => exact enc_one x
          case c3 => unfold maxLen; omega
          case c4 => omega
          case c5 => first | omega | (simp; omega)
          intro v1 w1 hown1 hg1 _
          have hB1 : Hid (Below w.heap.size w w1) := Below.grown (hd.out.alloc hsz _) hg1 (by simp; omega) (fun k hk => (hown.lt k hk).1)
          rw [← ol_app, ← HF.out] at hown1
          clear hg1 hown hd
          go_wp2_with fail
          go_roundg (n - (k + 1))
          case measure => omega
          case rel => exact ⟨k + 1, m + 1, by go_num, by omega, by omega, by omega, hown1, hB1⟩
        · have hs := hp
          rw [e] at hs
          have e1 : ((0 : Int) == s) = false := by rw [beq_eq_false_iff_ne]; exact hs
          have HF := HN.out hp
          rw [← HF] at hown
          clear hp HY HN HF hs e
          go_wp2_with fail
          go_roundg (n - (k + 1))
          case measure => omega
          case rel => exact ⟨k + 1, m, by go_num, by omega, by omega, by omega, hown, hd⟩
      · have c1 : decide (x.side < 1) = false := decide_eq_false h1
        by_cases h2 : 2 < x.side
        · have c2 : decide (2 < x.side) = true := decide_eq_true h2
          have e : clsO x = 0 := by unfold clsO; rw [if_pos (.inr h2)]
          by_cases hp : clsO x = s
          · have hs := hp
            rw [e] at hs
            have e1 : ((0 : Int) == s) = true := by simp [hs]
            have HF := HY.out hp
            have HF := Lib.hid HF
            clear hp HY HN hs e
            go_wp2_with (at_builtin; refine wpList_append_own _ rfl _ _ 27 rfl w.heap.size 41 i0 (.agg (OC ⟨0, 0, 0, 0, 0, 0⟩)) 6 48 Try.underlying27 hi0 hz0 hz1 hz2 rfl (by decide) _ _ _ rfl (hown.alloc _) ⟨wr.heap.size, 0, none⟩ 1 1 (encO x) rfl rfl ?c1 ?c2 ?c3 ?c4 ?c5 ?_)
            case c1 => first | exact six_news _ x | exact fun j u h => h
            case c2 => exact enc_one x
            case c3 => unfold maxLen; omega
            case c4 => omega
            case c5 => first | omega | (simp; omega)
            intro v1 w1 hown1 hg1 _
            have hB1 : Hid (Below w.heap.size w w1) := Below.grown (hd.out.alloc hsz _) hg1 (by simp; omega) (fun k hk => (hown.lt k hk).1)
            rw [← ol_app, ← HF.out] at hown1
            clear hg1 hown hd
            go_wp2_with fail
            go_roundg (n - (k + 1))
            case measure => omega
            case rel => exact ⟨k + 1, m + 1, by go_num, by omega, by omega, by omega, hown1, hB1⟩
          · have hs := hp
            rw [e] at hs
            have e1 : ((0 : Int) == s) = false := by rw [beq_eq_false_iff_ne]; exact hs
            have HF := HN.out hp
            rw [← HF] at hown
            clear hp HY HN HF hs e
            go_wp2_with fail
            go_roundg (n - (k + 1))
            case measure => omega
            case rel => exact ⟨k + 1, m, by go_num, by omega, by omega, by omega, hown, hd⟩
        · have c2 : decide (2 < x.side) = false := decide_eq_false h2
          have e : clsO x = x.side := by unfold clsO; rw [if_neg (by omega)]
          by_cases hp : clsO x = s
          · have hs := hp
            rw [e] at hs
            have e1 : (x.side == s) = true := by simp [hs]
            have HF := HY.out hp
            have HF := Lib.hid HF
            clear hp HY HN hs e
            go_wp2_with (at_builtin; refine wpList_append_own _ rfl _ _ 27 rfl w.heap.size 41 i0 (.agg (OC ⟨0, 0, 0, 0, 0, 0⟩)) 6 48 Try.underlying27 hi0 hz0 hz1 hz2 rfl (by decide) _ _ _ rfl (hown.alloc _) ⟨wr.heap.size, 0, none⟩ 1 1 (encO x) rfl rfl ?c1 ?c2 ?c3 ?c4 ?c5 ?_)
            case c1 => first | exact six_news _ x | exact fun j u h => h
            case c2 => exact enc_one x
            case c3 => unfold maxLen; omega
            case c4 => omega
            case c5 => first | omega | (simp; omega)
            intro v1 w1 hown1 hg1 _
            have hB1 : Hid (Below w.heap.size w w1) := Below.grown (hd.out.alloc hsz _) hg1 (by simp; omega) (fun k hk => (hown.lt k hk).1)
            rw [← ol_app, ← HF.out] at hown1
            clear hg1 hown hd
            go_wp2_with fail
            go_roundg (n - (k + 1))
            case measure => omega
            case rel => exact ⟨k + 1, m + 1, by go_num, by omega, by omega, by omega, hown1, hB1⟩
          · have hs := hp
            rw [e] at hs
            have e1 : (x.side == s) = false := by rw [beq_eq_false_iff_ne]; exact hs
            have HF := HN.out hp
            rw [← HF] at hown
            clear hp HY HN HF hs e
            go_wp2_with fail
            go_roundg (n - (k + 1))
            case measure => omega
            case rel => exact ⟨k + 1, m, by go_num, by omega, by omega, by omega, hown, hd⟩
    · have hltI : ¬ (k : Int) < (n : Int) := by omega
      obtain rfl : k = n := by omega
      rw [List.take_of_length_le (by rw [HLn.out]; exact Nat.le_refl _)] at hown
      obtain ⟨A', c', rfl, hc, ht⟩ := own_ods hown (by omega) (fun x hx => (HO.out.below hd.out).2.2.1 x ((List.mem_filter.1 hx).1))
      have HF : Hid (Below w.heap.size w wr ∧ Ods wr A' m (L.filter (ofO s)) ∧ CapOk A' m c') := ⟨hd.out, ht, hc⟩
      clear hown ht hd
      go_wp2_with fail
      go_ret
      exact ⟨A', m, c', rfl, HF.out⟩
end Go.Proofs.Ytdjbnnjcifgnlaa

namespace Go.Proofs.Ytdjbnnjcifgnlaa
open Go.RowKit Go.Sort Go.Lib Go.Shelf

/-- Of one side, in the order of their places. -/
structure SelD (D : List (Od × Nat)) : Prop where
  inc : D.Pairwise (fun x y => x.2 < y.2)
  one : ∀ x ∈ D, ∀ y ∈ D, x.1.side = y.1.side
theorem lt_ahd {x y : Od} (h : x.side = y.side) : ltO x y = ahdO x y := by unfold ltO; rw [h]; simp
/-- What is left, and what is out. -/
structure SelI (D0 D O : List (Od × Nat)) : Prop where
  sel : SelD D
  perm : (O ++ D).Perm D0
  srt : O.Pairwise (fun x y => ltR ltO y x = false)
  aft : ∀ o ∈ O, ∀ d ∈ D, ltR ltO d o = false
def MinTo (D : List (Od × Nat)) (i at' : Nat) : Prop := ∀ j, j < i → ltR ltO D[j]! D[at']! = false
theorem min_one (D : List (Od × Nat)) : MinTo D 1 0 := fun j hj => by
  obtain rfl : j = 0 := by omega
  exact (swo_ltR swo_ltO).irrefl _
theorem mem_at {D : List (Od × Nat)} {i : Nat} (h : i < D.length) : D[i]! ∈ D := by rw [getElem!_pos D i h]; exact List.getElem_mem _
theorem min_yes {D : List (Od × Nat)} {i k : Nat} (hS : SelD D) (hi : i < D.length) (hk : k < i) (h : MinTo D i k) (ha : ahdO (D[i]!).1 (D[k]!).1 = true) : MinTo D (i + 1) i := fun j hj => by
  have hR := swo_ltR swo_ltO
  by_cases e : j = i
  · rw [e]; exact hR.irrefl _
  · have h1 : ltR ltO D[i]! D[k]! = true := ltR_iff.2 (.inl (by rw [lt_ahd (hS.one _ (mem_at hi) _ (mem_at (by omega)))]; exact ha))
    cases e2 : ltR ltO D[j]! D[i]! with
    | false => rfl
    | true => have := hR.trans _ _ _ e2 h1; rw [h j (by omega)] at this; cases this
theorem min_no {D : List (Od × Nat)} {i k : Nat} (hS : SelD D) (hi : i < D.length) (hk : k < i) (h : MinTo D i k) (ha : ahdO (D[i]!).1 (D[k]!).1 = false) : MinTo D (i + 1) k := fun j hj => by
  by_cases e : j = i
  · rw [e, ltR_no, lt_ahd (hS.one _ (mem_at hi) _ (mem_at (by omega)))]
    refine ⟨ha, .inr ?_⟩
    have := List.pairwise_iff_getElem.1 hS.inc k i (by omega) hi hk
    rw [getElem!_pos D k (by omega), getElem!_pos D i hi]
    omega
  · exact h j (by omega)
theorem SelI.step {D0 D O : List (Od × Nat)} {k : Nat} (h : SelI D0 D O) (hk : k < D.length) (hm : MinTo D D.length k) : SelI D0 (D.take k ++ D.drop (k + 1)) (O ++ [D[k]!]) := by
  have hsub : (D.take k ++ D.drop (k + 1)).Sublist D := by
    rw [← List.eraseIdx_eq_take_drop_succ]; exact List.eraseIdx_sublist _ _
  have hmem : ∀ d ∈ D.take k ++ D.drop (k + 1), d ∈ D := fun d hd => hsub.subset hd
  have hmin : ∀ d ∈ D, ltR ltO d D[k]! = false := fun d hd => by
    obtain ⟨j, hj, rfl⟩ := List.getElem_of_mem hd
    have := hm j hj
    rw [getElem!_pos D j hj] at this
    exact this
  refine ⟨⟨h.sel.inc.sublist hsub, fun x hx y hy => h.sel.one x (hmem x hx) y (hmem y hy)⟩, ?_, ?_, ?_⟩
  · refine List.Perm.trans ?_ h.perm
    rw [List.append_assoc]
    refine List.Perm.append_left _ ?_
    have e : D = D.take k ++ D[k]! :: D.drop (k + 1) := by
      rw [getElem!_pos D k hk, List.getElem_cons_drop, List.take_append_drop]
    have : ([D[k]!] ++ (D.take k ++ D.drop (k + 1))).Perm (D.take k ++ D[k]! :: D.drop (k + 1)) := by
      show (D[k]! :: (D.take k ++ D.drop (k + 1))).Perm _
      exact List.perm_middle.symm
    rw [← e] at this
    exact this
  · rw [List.pairwise_append]
    refine ⟨h.srt, List.pairwise_singleton _ _, fun a ha b hb => ?_⟩
    rw [List.mem_singleton.1 hb]
    exact h.aft a ha _ (mem_at hk)
  · intro o ho d hd
    rcases List.mem_append.1 ho with ho | ho
    · exact h.aft o ho d (hmem d hd)
    · rw [List.mem_singleton.1 ho]
      exact hmin d (hmem d hd)
theorem SelI.start {D : List (Od × Nat)} (h : SelD D) : SelI D D [] := ⟨h, List.Perm.refl _, List.Pairwise.nil, fun _ h => by cases h⟩

theorem Ods.keep {w w' : World} {a : Option Addr} {len : Nat} {its : List Od} (h : Ods w a len its) (hs : w.heap.size ≤ w'.heap.size) (hk : ∀ b off, a = some ⟨b, off, none⟩ → b < w.heap.size → w'.heap[b]? = w.heap[b]?) : Ods w' a len its := by
  obtain ⟨h1, hle, h2, h3⟩ := h
  refine ⟨h1, hle, h2, ?_⟩
  rcases h3 with h0 | ⟨b, off, rfl, hlt, hc⟩
  · exact .inl h0
  · refine .inr ⟨b, off, rfl, Nat.lt_of_lt_of_le hlt hs, fun i hi => ?_⟩
    have hb := hk b off rfl hlt
    have := hc i hi
    unfold Od.at at this ⊢
    simpa only [World.cell?_of_block (w := w) (w' := w') (a := ⟨b, _, none⟩) hb] using this
/-- The cells of some that follow one another. -/
theorem Ods.part {w : World} {b off len i m : Nat} {its : List Od} (h : Ods w (some ⟨b, off, none⟩) len its) (hm : i + m ≤ len) : ∀ j u, (ol ((its.drop i).take m))[j]? = some u → w.cell? ((⟨b, off + i * 6, none⟩ : Addr).add j) = some u := by
  intro j u hj
  obtain ⟨h1, _, _, h3⟩ := h
  have hl : ((its.drop i).take m).length = m := by rw [List.length_take, List.length_drop]; omega
  have hj6 : j < m * 6 := by
    have := (List.getElem?_eq_some_iff.1 hj).1
    rw [ol_len, hl] at this
    exact this
  rcases h3 with h0 | ⟨b', off', e, _, hc⟩
  · omega
  injection e with e
  injection e with e1 e2
  subst e1; subst e2
  have hq : j / 6 < m := by omega
  have ej : j = j / 6 * 6 + j % 6 := by omega
  have hx := hc (i + j / 6) (by omega)
  have hg := ol_get ((its.drop i).take m) (j / 6) (j % 6) (by rw [hl]; exact hq) (by omega)
  rw [← ej, hj] at hg
  have e3 : ((its.drop i).take m)[j / 6]! = its[i + j / 6]! := by
    rw [getElem!_pos _ _ (by rw [hl]; exact hq), getElem!_pos its _ (by omega)]
    simp
  rw [e3] at hg
  have := at_cell (c := j % 6) (u := u) hx hg.symm
  rw [addr_add]
  show w.cell? ⟨b, off + i * 6 + j, none⟩ = _
  rw [← this]
  congr 2
  omega
end Go.Proofs.Ytdjbnnjcifgnlaa

namespace Go.Proofs.Ytdjbnnjcifgnlaa
open Go.RowKit Go.Sort Go.Lib Go.Shelf

theorem mapG (D : List (Od × Nat)) (i : Nat) (h : i < D.length) : (D.map Prod.fst)[i]! = (D[i]!).1 := by
  rw [getElem!_pos _ i (by rw [List.length_map]; exact h), getElem!_pos D i h, List.getElem_map]
theorem rAheadG (x y : Od) (W : World) : Calls Try.prog 87 #[.agg (OC x), .agg (OC y)] W fun e w' => e = .returned (.bool (ahdO x y)) ∧ ∃ q os, w' = Go.Sort.grow (W.drewN q) os :=
  (rAhead_c x y W).mono fun _ _ h => ⟨h.1, h.2.grow⟩
theorem Ods.cellsAt {w : World} {b off len i : Nat} {its : List Od} (h : Ods w (some ⟨b, off, none⟩) len its) (hi : i < len) : (its[i]!).at w b (off + i * 6) := by
  rcases h.2.2.2 with h0 | ⟨b', off', e, _, hc⟩
  · omega
  · injection e with e
    injection e with e1 e2
    subst e1; subst e2
    exact hc i hi
/-- What is sorted, and comes back in a row of its own. -/
def SelIs (w : World) (D0 : List (Od × Nat)) (e : Ending) (w' : World) : Prop := ∃ O : List (Od × Nat), O.Perm D0 ∧ O.Pairwise (fun x y => ltR ltO y x = false) ∧ RowIs w (O.map Prod.fst) e w'

set_option maxHeartbeats 4000000 in
set_option maxRecDepth 1000000 in
theorem rSorted1_c (A : Option Addr) (n c : Nat) (D0 : List (Od × Nat)) (w : World) (H : Ods w A n (D0.map Prod.fst)) (hn : n ≤ 1000) (hnc : n ≤ c) (hD : SelD D0) :
    Calls Try.prog 54 #[.slice A n c] w (SelIs w D0) := by
  have mixed : Try.prog.follows .mixedOrders = true := by kernel_rfl
  obtain ⟨i0, hi0, hz0, hz1, hz2⟩ := info_parts info_ro
  have HA := Lib.hid rAheadG
  have HO : Aside (Ods w A n (D0.map Prod.fst)) := H
  have HOk := Lib.hid H.2.2.1
  have HAw : Hid (∀ b off, A = some ⟨b, off, none⟩ → n = 0 ∨ b < w.heap.size) := Lib.hid (fun b off e => by
    rcases H.2.2.2 with h | ⟨b', off', e', h, _⟩
    · exact .inl h
    · rw [e] at e'; injection e' with e'; injection e' with e1 e2; subst e1; exact .inr h)
  have HI0 : Hid (SelI D0 D0 []) := SelI.start hD
  clear H hD
  go_enter Try.func54, Try.ntmps54
  go_wp2_with fail
  go_loopg [0, 3] n (fun kx s0 v wr => ∃ (A' : Option Addr) (m c' q : Nat) (D O : List (Od × Nat)), s0 = .slice A' m c' ∧ m ≤ kx ∧ m ≤ c' ∧ q + m = n ∧ Hid (SelI D0 D O) ∧ Aside (Ods wr A' m (D.map Prod.fst)) ∧ wr.ownsRow w.heap.size 41 6 v q (ol (O.map Prod.fst)) ∧ Hid (Below w.heap.size w wr) ∧
      Hid (m = 0 ∨ ∀ k b off, v.ownBlock = some k → A' = some ⟨b, off, none⟩ → b ≠ k))
  case atStart =>
    exact ⟨A, n, c, 0, D0, [], rfl, Nat.le_refl _, hnc, by omega, HI0, HO, World.ownsRow_nil _ _ _ _, Below.refl _ _, Lib.hid (.inr (fun k b off e => by cases e))⟩
  case round =>
  clear HO HI0 HAw
  obtain ⟨A', m, c', q, D, O, rfl, hmk, hmc, hqm, HI, HO, hown, hd, HB⟩ := hrel
  by_cases h0 : m = 0
  · have hz : ¬ (m : Int) > 0 := by omega
    have hl : D = [] := by
      have := HO.out.1
      rw [List.length_map] at this
      exact List.length_eq_zero_iff.1 (by omega)
    obtain rfl : q = n := by omega
    obtain ⟨A2, c2, rfl, hc2, ht⟩ := own_ods hown hn (fun x hx => by
      obtain ⟨d, hdm, rfl⟩ := List.mem_map.1 hx
      have hp := HI.out.perm
      rw [hl, List.append_nil] at hp
      exact HOk.out _ (List.mem_map.2 ⟨d, hp.mem_iff.1 hdm, rfl⟩))
    have HF : Hid (O.Perm D0 ∧ O.Pairwise (fun x y => ltR ltO y x = false) ∧ Below w.heap.size w wr ∧ Ods wr A2 q (O.map Prod.fst) ∧ CapOk A2 q c2) := by
      have hp := HI.out.perm
      rw [hl, List.append_nil] at hp
      exact ⟨hp, HI.out.srt, hd.out, ht, hc2⟩
    clear hown hd HI HO HB ht hl
    go_wp2_with fail
    go_ret
    exact ⟨O, HF.out.1, HF.out.2.1, A2, q, c2, rfl, HF.out.2.2⟩
  have hz : (m : Int) > 0 := by omega
  have h1 := HO.out.2.2.2
  rcases h1 with h1 | ⟨b, off, rfl, hbw, _⟩
  · omega
  have HDl : Hid (D.length = m) := by have := HO.out.1; rw [List.length_map] at this; exact this
  have HBn := Lib.hid (fun k e => (HB.out.resolve_left h0) k b off e rfl)
  clear HB h0
  go_wp2_with fail
  obtain ⟨wo, hwo⟩ : ∃ W, W = wr := ⟨_, rfl⟩
  subst hwo
  rw [show decide (0 < m) = true from decide_eq_true (by omega)]
  go_loopg [4, 5] m (fun kx s4 s5 wx => ∃ (k i : Nat), s4 = .int .i64 k ∧ s5 = .int .i64 i ∧ k < i ∧ i ≤ m ∧ m - i ≤ kx ∧ Hid (MinTo D i k) ∧ Hid (Gw wo wx))
  case atStart => exact ⟨0, 1, rfl, rfl, by omega, by omega, by omega, min_one D, Gw.refl wo⟩
  case round =>
  obtain ⟨k, i, rfl, rfl, hki, him, hkx, HM, HG⟩ := hrel
  by_cases hlt : i < m
  · have hltz : (i : Int) < (m : Int) := by omega
    have hkz : (k : Int) < (m : Int) := by omega
    have HOx := HO.out.below (HG.out.b)
    have hx := HOx.cellsAt hlt
    have hy := HOx.cellsAt (show k < m by omega)
    rw [mapG D i (by rw [HDl.out]; exact hlt)] at hx
    rw [mapG D k (by rw [HDl.out]; omega)] at hy
    obtain ⟨x, ex⟩ : ∃ x, (D[i]!).1 = x := ⟨_, rfl⟩
    obtain ⟨y, ey⟩ : ∃ x, (D[k]!).1 = x := ⟨_, rfl⟩
    rw [ex] at hx
    rw [ey] at hy
    have EX := Lib.hid ex
    have EY := Lib.hid ey
    clear ex ey HOx
    obtain ⟨x0, x1, x2, x3, x4, x5⟩ := hx
    obtain ⟨y0, y1, y2, y3, y4, y5⟩ := hy
    have hbx : b < wr.heap.size := Nat.lt_of_lt_of_le hbw HG.out.b.size
    have X0 := fun n os => cell_grown (a := ⟨b, _, none⟩) hbx x0 n os
    have Y0 := fun n os => cell_grown (a := ⟨b, _, none⟩) hbx y0 n os
    have X1 := fun n os => cell_grown (a := ⟨b, _, none⟩) hbx x1 n os
    have Y1 := fun n os => cell_grown (a := ⟨b, _, none⟩) hbx y1 n os
    have X2 := fun n os => cell_grown (a := ⟨b, _, none⟩) hbx x2 n os
    have Y2 := fun n os => cell_grown (a := ⟨b, _, none⟩) hbx y2 n os
    have X3 := fun n os => cell_grown (a := ⟨b, _, none⟩) hbx x3 n os
    have Y3 := fun n os => cell_grown (a := ⟨b, _, none⟩) hbx y3 n os
    have X4 := fun n os => cell_grown (a := ⟨b, _, none⟩) hbx x4 n os
    have Y4 := fun n os => cell_grown (a := ⟨b, _, none⟩) hbx y4 n os
    have X5 := fun n os => cell_grown (a := ⟨b, _, none⟩) hbx x5 n os
    have Y5 := fun n os => cell_grown (a := ⟨b, _, none⟩) hbx y5 n os
    clear x0 x1 x2 x3 x4 x5 y0 y1 y2 y3 y4 y5
    cases ha : ahdO x y with
    | true =>
      have HN : Hid (MinTo D (i + 1) i) := min_yes HI.out.sel (by rw [HDl.out]; exact hlt) hki HM.out (by rw [EX.out, EY.out]; exact ha)
      have hcg := fun W => HA.out x y W
      rw [ha] at hcg
      clear ha
      go_wp2_with fail
      go_quiet_grown ((go_at_call 87; with_reducible refine Calls.grown_of (hcg _)))
      have G2 : Hid (Gw wo (grow (wr.drewN nq) osq)) := HG.out.trans (gw_grow _ _ _)
      clear hcg X0 X1 X2 X3 X4 X5 Y0 Y1 Y2 Y3 Y4 Y5 HG hbx
      generalize grow (wr.drewN nq) osq = w2 at G2 ⊢
      go_wp2_with fail
      go_roundg (m - (i + 1))
      case measure => omega
      case rel => exact ⟨i, i + 1, rfl, by go_num, by omega, by omega, by omega, HN, G2⟩
    | false =>
      have HN : Hid (MinTo D (i + 1) k) := min_no HI.out.sel (by rw [HDl.out]; exact hlt) hki HM.out (by rw [EX.out, EY.out]; exact ha)
      have hcg := fun W => HA.out x y W
      rw [ha] at hcg
      clear ha
      go_wp2_with fail
      go_quiet_grown ((go_at_call 87; with_reducible refine Calls.grown_of (hcg _)))
      have G2 : Hid (Gw wo (grow (wr.drewN nq) osq)) := HG.out.trans (gw_grow _ _ _)
      clear hcg X0 X1 X2 X3 X4 X5 Y0 Y1 Y2 Y3 Y4 Y5 HG hbx
      generalize grow (wr.drewN nq) osq = w2 at G2 ⊢
      go_wp2_with fail
      go_roundg (m - (i + 1))
      case measure => omega
      case rel => exact ⟨k, i + 1, rfl, by go_num, by omega, by omega, by omega, HN, G2⟩
  have hltz : ¬ (i : Int) < (m : Int) := by omega
  obtain rfl : i = m := by omega
  have hs1 := HG.out.b.size
  have hown2 := own_fr (S := fun _ => False) hown (Fr.of_below HG.out.b) (fun _ _ h => h)
  have hd2 : Hid (Below w.heap.size w wr) := hd.out.trans (HG.out.b.mono hd.out.size)
  have HO2 : Aside (Ods wr (some ⟨b, off, none⟩) i (D.map Prod.fst)) := HO.out.below HG.out.b
  have hx := HO2.out.cellsAt hki
  rw [mapG D k (by rw [HDl.out]; exact hki)] at hx
  obtain ⟨x, ex⟩ : ∃ x, (D[k]!).1 = x := ⟨_, rfl⟩
  rw [ex] at hx
  have HIn : Hid (SelI D0 (D.take k ++ D.drop (k + 1)) (O ++ [D[k]!]) ∧ (D[k]!).1 = x) := ⟨HI.out.step (by rw [HDl.out]; exact hki) (by rw [HDl.out]; exact HM.out), ex⟩
  have hbx : b < wr.heap.size := by omega
  clear ex hown hd HO HI HM HG hs1
  obtain ⟨x0, x1, x2, x3, x4, x5⟩ := hx
  have hsz := hd2.out.size
  go_wp2_with (at_builtin; refine wpList_append_own _ rfl _ _ 27 rfl w.heap.size 41 i0 (.agg (OC ⟨0, 0, 0, 0, 0, 0⟩)) 6 48 Try.underlying27 hi0 hz0 hz1 hz2 rfl (by decide) _ _ _ rfl (hown2.alloc _) ⟨wr.heap.size, 0, none⟩ 1 1 (encO x) rfl rfl ?c1 ?c2 ?c3 ?c4 ?c5 ?_)
  case c1 => first | exact six_news _ x | exact fun j u h => h
  case c2 => exact enc_one x
  case c3 => unfold maxLen; omega
  case c4 => omega
  case c5 => first | omega | (simp; omega)
  intro v1 w1 hown1 hg1 _
  have hB1 : Hid (Below w.heap.size w w1) := Below.grown (hd2.out.alloc hsz _) hg1 (by simp; omega) (fun k hk => (hown2.lt k hk).1)
  have hs1 := hg1.size
  have HO3 : Aside (Ods w1 (some ⟨b, off, none⟩) i (D.map Prod.fst)) := (HO2.out.below ((Below.refl wr.heap.size wr).alloc (Nat.le_refl _) _)).keep hg1.size (fun b' off' e hb' => by
    injection e with e
    injection e with e1 e2
    subst e1
    exact hg1.block _ hb' (fun e => HBn.out b e.symm rfl))
  have hB1s := hB1.out.size
  have eD : Hid (ol ((O ++ [D[k]!]).map Prod.fst) = ol (O.map Prod.fst) ++ encO x) := by
    show _ = _
    rw [List.map_append, List.map_cons, List.map_nil, HIn.out.2, ol_app]
  rw [← eD.out] at hown1
  have HIs : Hid (SelI D0 (D.take k ++ D.drop (k + 1)) (O ++ [D[k]!])) := HIn.out.1
  generalize O ++ [D[k]!] = O' at hown1 HIs eD
  have hq1 : k ≤ i := by omega
  have hp1 := Lib.hid (Ods.part (i := 0) (m := k) HO3.out (by omega))
  have hl1 : Hid ((ol (((D.map Prod.fst).drop 0).take k)).length = k * 6) := by
    show _ = _
    rw [ol_len, List.length_take, List.length_drop, List.length_map, HDl.out]
    congr 1
    omega
  clear x0 x1 x2 x3 x4 x5 HIn HO2 HBn hg1 hown2 hd2 hsz hbx eD
  have hkz : (k : Int) ≤ (c' : Int) := by omega
  go_wp2_with (at_builtin; refine wpList_append_own _ rfl _ _ 27 rfl w1.heap.size 41 i0 (.agg (OC ⟨0, 0, 0, 0, 0, 0⟩)) 6 48 Try.underlying27 hi0 hz0 hz1 hz2 rfl (by decide) (.slice none 0 0) 0 [] rfl (World.ownsRow_nil _ _ _ _) ⟨b, off, none⟩ k _ (ol (((D.map Prod.fst).drop 0).take k)) rfl hl1.out ?c1 ?c2 ?c3 ?c4 ?c5 ?_)
  case c1 => simpa using hp1.out
  case c2 => exact ol_one _
  case c3 => unfold maxLen; omega
  case c4 => omega
  case c5 => exact Nat.le_refl _
  intro v2 w2 hown2 hg2 _
  have B12 : Hid (Below w1.heap.size w1 w2) := Below.grown (Below.refl _ _) hg2 (Nat.le_refl _) (by intro k hk; cases hk)
  have HO4 : Aside (Ods w2 (some ⟨b, off, none⟩) i (D.map Prod.fst)) := HO3.out.below B12.out
  have hp2 := Lib.hid (Ods.part (i := k + 1) (m := i - (k + 1)) HO4.out (by omega))
  have hl2 : Hid ((ol (((D.map Prod.fst).drop (k + 1)).take (i - (k + 1)))).length = (i - (k + 1)) * 6) := by
    show _ = _
    rw [ol_len, List.length_take, List.length_drop, List.length_map, HDl.out]
    congr 1
    omega
  have hs2 := B12.out.size
  clear hg2 HO3 hp1 hl1
  have zk1 : (k : Int) + 1 ≤ (i : Int) := by omega
  have zk2 : (i : Int) - ((k : Int) + 1) = ((i - (k + 1) : Nat) : Int) := by omega
  by_cases hcap : c' = k + 1
  · subst hcap
    go_wp2_with (at_builtin; refine wpList_append_own _ rfl _ _ 27 rfl w1.heap.size 41 i0 (.agg (OC ⟨0, 0, 0, 0, 0, 0⟩)) 6 48 Try.underlying27 hi0 hz0 hz1 hz2 rfl (by decide) _ _ _ rfl hown2 ⟨b, off, none⟩ _ _ [] rfl ?c0 ?c1 ?c2 ?c3 ?c4 ?c5 ?_)
    case c0 =>
      show 0 = _
      omega
    case c1 => intro j u hu; cases hu
    case c2 => intro u hu; cases hu
    case c3 => unfold maxLen; omega
    case c4 => omega
    case c5 => exact hs2
    intro v3 w3 hown3 hg3 _
    have B13 : Hid (Below w1.heap.size w1 w3) := Below.grown B12.out hg3 hs2 (fun k hk => (hown2.lt k hk).1)
    have hownO := own_fr (S := fun _ => False) hown1 (Fr.of_below B13.out) (fun _ _ h => h)
    have hown4 : w3.ownsRow w1.heap.size 41 6 v3 (i - 1) (ol ((D.take k ++ D.drop (k + 1)).map Prod.fst)) := by
      have h1 : D.drop (k + 1) = [] := List.drop_eq_nil_of_le (by rw [HDl.out]; omega)
      have h2 : i - (k + 1) = 0 := by omega
      have h3 : i - 1 = k := by omega
      rw [h1, h3, List.append_nil, List.map_take]
      simpa [h2] using hown3
    have B3 : Hid (Below w.heap.size w w3) := hB1.out.trans (B13.out.mono hB1s)
    obtain ⟨A3, c3, rfl, hc3, ht3⟩ := own_ods hown4 (by omega) (fun x hx => by
      obtain ⟨d, hdm, rfl⟩ := List.mem_map.1 hx
      exact HOk.out _ (List.mem_map.2 ⟨d, HIs.out.perm.mem_iff.1 (List.mem_append.2 (.inr hdm)), rfl⟩))
    have HBx : Hid (i - 1 = 0 ∨ ∀ k b off, v1.ownBlock = some k → A3 = some ⟨b, off, none⟩ → b ≠ k) := Lib.hid (.inr (fun kk bb oo e1 e2 => by
      subst e2
      have := (hown1.lt kk e1).2
      have := (hown4.lt bb rfl).1
      omega))
    clear hown4 hown3 hg3 hown2 B12 B13 hp2 hl2 HO4 hown1 hB1 hB1s
    go_wp2_with fail
    go_roundg (i - 1)
    case measure => omega
    case rel => exact ⟨A3, i - 1, c3, q + 1, _, O', rfl, by omega, hc3.1, by omega, HIs, ht3, hownO, B3, HBx⟩
  · have hcap2 : ¬ k + 1 = c' := by omega
    go_wp2_with (at_builtin; refine wpList_append_own _ rfl _ _ 27 rfl w1.heap.size 41 i0 (.agg (OC ⟨0, 0, 0, 0, 0, 0⟩)) 6 48 Try.underlying27 hi0 hz0 hz1 hz2 rfl (by decide) _ _ _ rfl hown2 ⟨b, off + (k + 1) * 6, none⟩ (i - (k + 1)) _ (ol (((D.map Prod.fst).drop (k + 1)).take (i - (k + 1)))) rfl hl2.out ?c1 ?c2 ?c3 ?c4 ?c5 ?_)
    case c1 => exact hp2.out
    case c2 => exact ol_one _
    case c3 => unfold maxLen; omega
    case c4 => omega
    case c5 => exact hs2
    intro v3 w3 hown3 hg3 _
    have B13 : Hid (Below w1.heap.size w1 w3) := Below.grown B12.out hg3 hs2 (fun k hk => (hown2.lt k hk).1)
    have hownO := own_fr (S := fun _ => False) hown1 (Fr.of_below B13.out) (fun _ _ h => h)
    have hown4 : w3.ownsRow w1.heap.size 41 6 v3 (i - 1) (ol ((D.take k ++ D.drop (k + 1)).map Prod.fst)) := by
      have en : i - 1 = k + (i - (k + 1)) := by omega
      have eL : ol ((D.take k ++ D.drop (k + 1)).map Prod.fst) = ol ((D.map Prod.fst).take k) ++ ol (((D.map Prod.fst).drop (k + 1)).take (i - (k + 1))) := by
        rw [List.map_append, List.map_take, List.map_drop, List.take_of_length_le (i := i - (k + 1)) (by rw [List.length_drop, List.length_map, HDl.out]; exact Nat.le_refl _)]
        unfold ol
        rw [List.flatMap_append]
      rw [en, eL]
      simpa using hown3
    have B3 : Hid (Below w.heap.size w w3) := hB1.out.trans (B13.out.mono hB1s)
    obtain ⟨A3, c3, rfl, hc3, ht3⟩ := own_ods hown4 (by omega) (fun x hx => by
      obtain ⟨d, hdm, rfl⟩ := List.mem_map.1 hx
      exact HOk.out _ (List.mem_map.2 ⟨d, HIs.out.perm.mem_iff.1 (List.mem_append.2 (.inr hdm)), rfl⟩))
    have HBx : Hid (i - 1 = 0 ∨ ∀ k b off, v1.ownBlock = some k → A3 = some ⟨b, off, none⟩ → b ≠ k) := Lib.hid (.inr (fun kk bb oo e1 e2 => by
      subst e2
      have := (hown1.lt kk e1).2
      have := (hown4.lt bb rfl).1
      omega))
    clear hown4 hown3 hg3 hown2 B12 B13 hp2 hl2 HO4 hown1 hB1 hB1s
    go_wp2_with fail
    go_roundg (i - 1)
    case measure => omega
    case rel => exact ⟨A3, i - 1, c3, q + 1, _, O', rfl, by omega, hc3.1, by omega, HIs, ht3, hownO, B3, HBx⟩
end Go.Proofs.Ytdjbnnjcifgnlaa

namespace Go.Proofs.Ytdjbnnjcifgnlaa
open Go.RowKit Go.Sort Go.Lib Go.Shelf

def fz (s : Int) (L : List Od) : List (Od × Nat) := L.zipIdx.filter (fun d => ofO s d.1)
theorem fz_fst (s : Int) (L : List Od) : (fz s L).map Prod.fst = L.filter (ofO s) := by
  unfold fz
  have h : L.filter (ofO s) = (L.zipIdx.map Prod.fst).filter (ofO s) := by rw [List.zipIdx_map_fst]
  rw [h, List.filter_map]
  rfl
theorem zip_inc (L : List Od) : L.zipIdx.Pairwise (fun x y => x.2 < y.2) := by
  rw [List.pairwise_iff_getElem]
  intro i j hi hj hij
  rw [List.getElem_zipIdx, List.getElem_zipIdx]
  simpa using hij
theorem cls_side {s : Int} {x : Od} (hs : s = 1 ∨ s = 2) (h : ofO s x = true) : x.side = s := by
  unfold ofO clsO at h
  have := of_decide_eq_true h
  split at this <;> omega
theorem cls_0 {x : Od} (h : ofO 0 x = true) : ¬ x.side = 1 ∧ ¬ x.side = 2 := by
  unfold ofO clsO at h
  have := of_decide_eq_true h
  split at this <;> omega
theorem cls_three (x : Od) : (!ofO 1 x && !ofO 2 x) = ofO 0 x := by
  have h3 : clsO x = 0 ∨ clsO x = 1 ∨ clsO x = 2 := by unfold clsO; split <;> omega
  unfold ofO
  rcases h3 with h | h | h <;> rw [h] <;> rfl
theorem fz_sel {s : Int} (hs : s = 1 ∨ s = 2) (L : List Od) : SelD (fz s L) :=
  ⟨(zip_inc L).sublist List.filter_sublist, fun x hx y hy => by
    rw [cls_side hs (List.mem_filter.1 hx).2, cls_side hs (List.mem_filter.1 hy).2]⟩
theorem sortO_sides {L : List Od} {O1 O2 : List (Od × Nat)} (h1 : O1.Perm (fz 1 L)) (s1 : O1.Pairwise (fun x y => ltR ltO y x = false)) (h2 : O2.Perm (fz 2 L)) (s2 : O2.Pairwise (fun x y => ltR ltO y x = false)) :
    sortO L = (O1.map Prod.fst ++ O2.map Prod.fst) ++ L.filter (ofO 0) := by
  rw [← fz_fst, ← List.map_append, ← List.map_append]
  have hm1 : ∀ x ∈ O1, x.1.side = 1 := fun x hx => cls_side (.inl rfl) (List.mem_filter.1 (h1.mem_iff.1 hx)).2
  have hm2 : ∀ x ∈ O2, x.1.side = 2 := fun x hx => cls_side (.inr rfl) (List.mem_filter.1 (h2.mem_iff.1 hx)).2
  have hm0 : ∀ x ∈ fz 0 L, ¬ x.1.side = 1 ∧ ¬ x.1.side = 2 := fun x hx => cls_0 (List.mem_filter.1 hx).2
  refine sortO_eq ?_ ?_
  · refine ((h1.append h2).append_right _).trans ?_
    have p1 := List.filter_append_perm (fun d : Od × Nat => ofO 1 d.1) L.zipIdx
    have p2 := List.filter_append_perm (fun d : Od × Nat => ofO 2 d.1) (L.zipIdx.filter (fun d => !ofO 1 d.1))
    rw [List.filter_filter, List.filter_filter] at p2
    have e2 : L.zipIdx.filter (fun a => ofO 2 a.1 && !ofO 1 a.1) = fz 2 L := by
      unfold fz
      refine List.filter_congr fun d _ => ?_
      cases h : ofO 2 d.1 with
      | false => rfl
      | true =>
        cases h' : ofO 1 d.1 with
        | false => rfl
        | true => have := cls_side (.inr rfl) h; have := cls_side (.inl rfl) h'; omega
    have e0 : L.zipIdx.filter (fun a => !ofO 2 a.1 && !ofO 1 a.1) = fz 0 L := by
      unfold fz
      refine List.filter_congr fun d _ => ?_
      rw [Bool.and_comm]
      exact cls_three d.1
    rw [e2, e0] at p2
    rw [List.append_assoc]
    exact (List.Perm.append_left _ p2).trans p1
  · have cross : ∀ x y : Od × Nat, rkN x.1.side < rkN y.1.side → ltR ltO y x = false := fun x y h => by
      rw [ltR_no]
      have hl : ltO x.1 y.1 = true := by rw [ltO_iff]; exact .inl h
      exact ⟨(ltO_no _ _).2 (by unfold Lex; omega), .inl hl⟩
    have r1 : rkN 1 = 0 := rfl
    have r2 : rkN 2 = 1 := rfl
    have r0 : ∀ s : Int, ¬ s = 1 → ¬ s = 2 → rkN s = 2 := fun s a b => by unfold rkN; simp [a, b]
    rw [List.pairwise_append, List.pairwise_append]
    refine ⟨⟨s1, s2, fun x hx y hy => cross x y (by rw [hm1 x hx, hm2 y hy, r1, r2]; decide)⟩, ?_, fun x hx y hy => ?_⟩
    · have hp : (fz 0 L).Pairwise (fun x y => x.2 < y.2) := (zip_inc L).sublist List.filter_sublist
      refine (List.Pairwise.and_mem.1 hp).imp ?_
      rintro x y ⟨hx, hy, hxy⟩
      have k1 := hm0 x hx
      have k2 := hm0 y hy
      rw [ltR_no, ltO_no]
      refine ⟨?_, .inr (by omega)⟩
      rw [r0 _ k1.1 k1.2, r0 _ k2.1 k2.2]
      unfold kpO kqO kiO Lex
      simp [k1, k2]
    · have k2 := hm0 y hy
      rcases List.mem_append.1 hx with hx | hx
      · exact cross x y (by rw [hm1 x hx, r1, r0 _ k2.1 k2.2]; decide)
      · exact cross x y (by rw [hm2 x hx, r2, r0 _ k2.1 k2.2]; decide)
end Go.Proofs.Ytdjbnnjcifgnlaa

namespace Go.Proofs.Ytdjbnnjcifgnlaa
open Go.RowKit Go.Sort Go.Lib Go.Shelf

theorem fil_le (s : Int) (L : List Od) : (L.filter (ofO s)).length ≤ L.length := List.length_filter_le _ _

theorem sortO_perm (L : List Od) : (sortO L).Perm L := by
  have h := (List.mergeSort_perm L.zipIdx (fun x y => !ltR ltO y x)).map Prod.fst
  rw [List.zipIdx_map_fst] at h
  exact h
theorem append_row {w : World} {ops : Array Oper} {rest : List Oper} {o : Oper} {a : Act} {Q : Exit → Act → World → Prop} (hgd : o.guard = none) (s x : Operand)
    (ho : o.op = .call { callee := .builtin .append, args := #[s, x], argTypes := #[27, 27] })
    (base : Nat) (v : Value) (n : Nat) (xs : List Value) (hs : a.eval s = v) (hown : w.ownsRow base 41 6 v n xs)
    (A : Option Addr) (m c : Nat) (L : List Od) (hx : a.eval x = .slice A m c) (HO : Ods w A m L) (hc : CapOk A m c) (h63 : n + m ≤ 3000) (hbase : base ≤ w.heap.size)
    (h : ∀ v' w', w'.ownsRow base 41 6 v' (n + m) (xs ++ ol L) → Below base w w' → wpList Try.prog ops Q rest (a.put o.dst v') w') : wpList Try.prog ops Q (o :: rest) a w := by
  obtain ⟨i0, hi0, hz0, hz1, hz2⟩ := info_parts info_ro
  have hl := HO.1
  have hlen : (ol L).length = m * 6 := by rw [ol_len, hl]
  cases A with
  | none =>
    obtain rfl : c = 0 := hc.2 rfl
    obtain rfl : m = 0 := by have := hc.1; omega
    have e : L = [] := List.length_eq_zero_iff.1 hl
    refine wpList_append_own_none hgd s x _ ho base _ i0 6 Try.underlying27 hi0 v n xs hs hown hx (h v w ?_ (Below.refl _ _ |>.mono hbase))
    rw [e]
    simpa [ol] using hown
  | some ad =>
    refine wpList_append_own _ hgd s x _ ho base _ i0 (.agg (OC ⟨0, 0, 0, 0, 0, 0⟩)) 6 48 Try.underlying27 hi0 hz0 hz1 hz2 rfl (by decide) v n xs hs hown ad m c (ol L) hx hlen ?_ (ol_one _) (by unfold maxLen; omega) (by omega) hbase (fun v' w' h1 h2 _ => h v' w' h1 (Below.grown ((Below.refl _ _).mono hbase) h2 hbase (fun k hk => (hown.lt k hk).1)))
    rcases HO.2.2.2 with h0 | ⟨b, off, e, _, _⟩
    · intro j u hu
      have := (List.getElem?_eq_some_iff.1 hu).1
      omega
    · injection e with e
      subst e
      have := Ods.part (i := 0) (m := m) HO (by omega)
      rw [List.drop_zero, List.take_of_length_le (by omega)] at this
      simpa using this

set_option maxHeartbeats 4000000 in
set_option maxRecDepth 1000000 in
theorem rSorted_c (A : Option Addr) (n c : Nat) (L : List Od) (w : World) (H : Ods w A n L) (hn : n ≤ 1000) :
    Calls Try.prog 36 #[.slice A n c] w (RowIs w (sortO L)) := by
  obtain ⟨i0, hi0, hz0, hz1, hz2⟩ := info_parts info_ro
  have HO : Aside (Ods w A n L) := H
  have HLn := Lib.hid H.1
  clear H
  have hown0 : (w.alloc (Obj.cells #[] 41)).ownsRow w.heap.size 41 6 (.slice (some ⟨w.heap.size, 0, none⟩) 0 0) 0 [] :=
    ⟨rfl, .inr ⟨w.heap.size, 0, #[], rfl, Nat.le_refl _, heap_alloc_new w _, Nat.le_refl _, Nat.zero_le _, rfl, rfl⟩⟩
  have B0 : Hid (Below w.heap.size w (w.alloc (Obj.cells #[] 41))) := (Below.refl _ _).alloc (Nat.le_refl _) _
  have HS1 := Lib.hid (rSide_c A n c 1 L _ (HO.out.below B0.out) hn)
  go_enter Try.func36, Try.ntmps36
  go_wp2_with ((with_reducible refine (HS1.out).mono ?_); rintro e w1 ⟨A1, n1, c1, rfl, HF1⟩)
  have HO1 : Aside (Ods w1 A1 n1 ((fz 1 L).map Prod.fst)) := by
    show Ods _ _ _ _
    rw [fz_fst]; exact HF1.out.2.1
  have hn1 : n1 ≤ n := by
    have h1 := HF1.out.2.1.1
    have h2 := fil_le 1 L
    have h3 := HLn.out
    omega
  have B1 : Hid (Below w.heap.size w w1) := B0.out.trans (HF1.out.1.mono B0.out.size)
  have hown1 := own_fr (S := fun _ => False) hown0 (Fr.of_below HF1.out.1) (fun _ _ h => h)
  refine (rSorted1_c A1 n1 c1 (fz 1 L) w1 HO1.out (by omega) HF1.out.2.2.1 (fz_sel (.inl rfl) L)).mono ?_
  rintro e w2 ⟨O1, p1, s1, A2, n2, c2, rfl, HF2⟩
  have hown2 := own_fr (S := fun _ => False) hown1 (Fr.of_below HF2.out.1) (fun _ _ h => h)
  have B2 : Hid (Below w.heap.size w w2) := B1.out.trans (HF2.out.1.mono B1.out.size)
  have HO2 : Aside (Ods w2 A2 n2 (O1.map Prod.fst)) := HF2.out.2.1
  have P1 : Hid (O1.Perm (fz 1 L) ∧ O1.Pairwise (fun x y => ltR ltO y x = false)) := ⟨p1, s1⟩
  have hc2 : CapOk A2 n2 c2 := HF2.out.2.2
  have hn2 : n2 ≤ n := by
    have h1 := HO2.out.1
    have h2 := p1.length_eq
    have h3 := fil_le 1 L
    rw [← fz_fst] at h3
    rw [List.length_map] at h1 h3
    have h4 := HLn.out
    omega
  clear p1 s1 HF1 HF2 HO1 hown0 hown1 B0 B1 HS1 hn1
  have hs2 := B2.out.size
  go_wp2_with (at_builtin; refine append_row rfl _ _ rfl w.heap.size _ _ _ rfl hown2 A2 n2 c2 _ rfl HO2.out hc2 (by omega) hs2 ?_)
  intro v1 w3 hown3 b3
  have B3 : Hid (Below w.heap.size w w3) := B2.out.trans b3
  have HS2 := Lib.hid (rSide_c A n c 2 L w3 (HO.out.below B3.out) hn)
  clear b3 hown2 HO2 hc2 B2 hs2
  go_wp2_with fail
  refine HS2.out.mono ?_
  rintro e w4 ⟨A3, n3, c3, rfl, HF3⟩
  have HO3 : Aside (Ods w4 A3 n3 ((fz 2 L).map Prod.fst)) := by
    show Ods _ _ _ _
    rw [fz_fst]; exact HF3.out.2.1
  have hn3 : n3 ≤ n := by
    have h1 := HF3.out.2.1.1
    have h2 := fil_le 2 L
    have h3 := HLn.out
    omega
  have B4 : Hid (Below w.heap.size w w4) := B3.out.trans (HF3.out.1.mono B3.out.size)
  have hown4 := own_fr (S := fun _ => False) hown3 (Fr.of_below HF3.out.1) (fun _ _ h => h)
  have HC2 := Lib.hid (rSorted1_c A3 n3 c3 (fz 2 L) w4 HO3.out (by omega) HF3.out.2.2.1 (fz_sel (.inr rfl) L))
  clear hown3 B3 HS2 HO3 HF3
  go_wp2_with fail
  refine HC2.out.mono ?_
  rintro e w5 ⟨O2, p2, s2, A4, n4, c4, rfl, HF4⟩
  have hown5 := own_fr (S := fun _ => False) hown4 (Fr.of_below HF4.out.1) (fun _ _ h => h)
  have B5 : Hid (Below w.heap.size w w5) := B4.out.trans (HF4.out.1.mono B4.out.size)
  have HO4 : Aside (Ods w5 A4 n4 (O2.map Prod.fst)) := HF4.out.2.1
  have P2 : Hid (O2.Perm (fz 2 L) ∧ O2.Pairwise (fun x y => ltR ltO y x = false)) := ⟨p2, s2⟩
  have hc4 : CapOk A4 n4 c4 := HF4.out.2.2
  have hn4 : n4 ≤ n := by
    have h1 := HO4.out.1
    have h2 := p2.length_eq
    have h3 := fil_le 2 L
    rw [← fz_fst] at h3
    rw [List.length_map] at h1 h3
    have h4 := HLn.out
    omega
  clear p2 s2 HF4 hown4 B4 HC2 hn3
  have hs5 := B5.out.size
  go_wp2_with (at_builtin; refine append_row rfl _ _ rfl w.heap.size _ _ _ rfl hown5 A4 n4 c4 _ rfl HO4.out hc4 (by omega) hs5 ?_)
  intro v2 w6 hown6 b6
  have B6 : Hid (Below w.heap.size w w6) := B5.out.trans b6
  have HS3 := Lib.hid (rSide_c A n c 0 L w6 (HO.out.below B6.out) hn)
  clear b6 hown5 HO4 hc4 B5 hs5
  go_wp2_with fail
  refine HS3.out.mono ?_
  rintro e w7 ⟨A5, n5, c5, rfl, HF5⟩
  have hown7 := own_fr (S := fun _ => False) hown6 (Fr.of_below HF5.out.1) (fun _ _ h => h)
  have B7 : Hid (Below w.heap.size w w7) := B6.out.trans (HF5.out.1.mono B6.out.size)
  have HO5 : Aside (Ods w7 A5 n5 (L.filter (ofO 0))) := HF5.out.2.1
  have hc5 : CapOk A5 n5 c5 := HF5.out.2.2
  have hn5 : n5 ≤ n := by
    have h1 := HO5.out.1
    have h2 := fil_le 0 L
    have h3 := HLn.out
    omega
  clear HF5 hown6 B6 HS3
  have hs7 := B7.out.size
  go_wp2_with (at_builtin; refine append_row rfl _ _ rfl w.heap.size _ _ _ rfl hown7 A5 n5 c5 _ rfl HO5.out hc5 (by omega) hs7 ?_)
  intro v3 w8 hown8 b8
  have B8 : Hid (Below w.heap.size w w8) := B7.out.trans b8
  have e8 : [] ++ ol (O1.map Prod.fst) ++ ol (O2.map Prod.fst) ++ ol (L.filter (ofO 0)) = ol (sortO L) := by
    rw [sortO_sides P1.out.1 P1.out.2 P2.out.1 P2.out.2, List.nil_append]
    unfold ol
    rw [List.flatMap_append, List.flatMap_append]
  have e9 : ol (O1.map Prod.fst) ++ ol (O2.map Prod.fst) ++ ol (L.filter (ofO 0)) = ol (sortO L) := by rw [← e8, List.nil_append]
  obtain ⟨m8, hm8⟩ : ∃ m, m = n2 + n4 + n5 := ⟨_, rfl⟩
  have hown9 : w8.ownsRow w.heap.size 41 6 v3 m8 (ol (sortO L)) := by
    rw [← e9, hm8]
    simpa using hown8
  have h8 : m8 ≤ 1000 := by
    have h1 := hown9.1
    rw [ol_len, sortO_len, HLn.out] at h1
    omega
  obtain ⟨A8, c8, rfl, hc8, ht8⟩ := own_ods hown9 h8 (fun x hx => (HO.out.below B8.out).2.2.1 x ((sortO_perm L).mem_iff.1 hx))
  have HF : Hid (Below w.heap.size w w8 ∧ Ods w8 A8 m8 (sortO L) ∧ CapOk A8 m8 c8) := ⟨B8.out, ht8, hc8⟩
  clear hown9 hown8 b8 hown7 HO5 hc5 B7 B8 ht8 hm8 e8 e9 hs7 P1 P2
  go_wp2_with fail
  go_ret
  exact ⟨A8, m8, c8, rfl, HF.out⟩
end Go.Proofs.Ytdjbnnjcifgnlaa

namespace Go.Proofs.Ytdjbnnjcifgnlaa
open Go.RowKit Go.Sort Go.Lib Go.Shelf

theorem book_iff (L : List Od) : bookO L = true ↔ L.length ≤ 64 ∧ (∀ x ∈ L, goodO x = true) ∧ (L.map Od.id).Nodup ∧ L = sortO L := by
  unfold bookO
  rw [Bool.and_eq_true, Bool.and_eq_true, Bool.and_eq_true, decide_eq_true_iff, decide_eq_true_iff, List.all_eq_true, eqL_iff]
theorem book_no {L : List Od} (h : ¬ (L.length ≤ 64 ∧ (∀ x ∈ L, goodO x = true) ∧ (L.map Od.id).Nodup ∧ L = sortO L)) : bookO L = false := by
  cases e : bookO L with
  | false => rfl
  | true => exact absurd ((book_iff L).1 e) h
theorem book_unlike {L : List Od} {i : Nat} (h : eqO (sortO L)[i]! L[i]! = false) : bookO L = false :=
  book_no fun hc => by
    rw [← hc.2.2.2] at h
    have := (eqO_iff L[i]! L[i]!).2 rfl
    rw [h] at this
    cases this
theorem book_pair {L : List Od} {i k : Nat} (hk : k < i) (hi : i < L.length) (h : (L[k]!).id = (L[i]!).id) : bookO L = false :=
  book_no fun hc => by
    have := List.pairwise_iff_getElem.1 hc.2.2.1 k i (by rw [List.length_map]; omega) (by rw [List.length_map]; exact hi) hk
    rw [List.getElem_map, List.getElem_map] at this
    rw [getElem!_pos L k (by omega), getElem!_pos L i hi] at h
    exact this h
theorem book_yes {L : List Od} (h64 : L.length ≤ 64) (h : ∀ i, i < L.length → goodO L[i]! = true ∧ eqO (sortO L)[i]! L[i]! = true ∧ ∀ k, k < i → (L[k]!).id ≠ (L[i]!).id) : bookO L = true := by
  rw [book_iff]
  refine ⟨h64, fun x hx => ?_, ?_, ?_⟩
  · obtain ⟨i, hi, rfl⟩ := List.getElem_of_mem hx
    have := (h i hi).1
    rw [getElem!_pos L i hi] at this
    exact this
  · refine List.pairwise_iff_getElem.2 fun k i hk hi hki => ?_
    rw [List.length_map] at hk hi
    rw [List.getElem_map, List.getElem_map]
    have := (h i hi).2.2 k hki
    rw [getElem!_pos L k hk, getElem!_pos L i hi] at this
    exact this
  · refine List.ext_getElem (sortO_len L).symm fun i h1 h2 => ?_
    have := (eqO_iff _ _).1 (h i h1).2.1
    rw [getElem!_pos L i h1, getElem!_pos _ i h2] at this
    exact this.symm

theorem rGoodG (x : Od) (W : World) : Calls Try.prog 37 #[.agg (OC x)] W fun e w' => e = .returned (.bool (goodO x)) ∧ ∃ q os, w' = Go.Sort.grow (W.drewN q) os :=
  (rGood_c x W).mono fun _ _ h => ⟨h.1, h.2.grow⟩

set_option maxHeartbeats 1000000 in
set_option maxRecDepth 1000000 in
theorem rBook_c (A : Option Addr) (n c : Nat) (L : List Od) (w : World) (H : Ods w A n L) (hn : n ≤ 1000) :
    Calls Try.prog 21 #[.slice A n c] w (BookIs w (bookO L)) := by
  have mixed : Try.prog.follows .mixedOrders = true := by kernel_rfl
  by_cases h64 : n ≤ 64
  case neg =>
    have e : bookO L = false := book_long (by rw [H.1]; exact h64)
    rw [e]
    have hz : (64 : Int) < (n : Int) := by omega
    clear h64 H
    go_enter Try.func21, Try.ntmps21
    go_wp2_with fail
    go_ret
    exact ⟨rfl, Below.refl _ _⟩
  have hz64 : ¬ (64 : Int) < (n : Int) := by omega
  have HG := Lib.hid rGoodG
  have HO : Aside (Ods w A n L) := H
  have HLn := Lib.hid H.1
  have HS := Lib.hid (rSorted_c A n c L w H hn)
  clear H
  go_enter Try.func21, Try.ntmps21
  go_wp2_with ((with_reducible refine (HS.out).mono ?_); rintro e w1 ⟨A1, n1, c1, rfl, HF⟩)
  have B1 : Hid (Below w.heap.size w w1) := HF.out.1
  have HS1 : Aside (Ods w1 A1 n1 (sortO L)) := HF.out.2.1
  obtain rfl : n1 = n := by
    have h1 := HF.out.2.1.1
    rw [sortO_len, HLn.out] at h1
    exact h1.symm
  clear HF HS
  go_loopg [4] n1 (fun kx s4 wr => ∃ i : Nat, s4 = .int .i64 i ∧ i ≤ n1 ∧ n1 - i ≤ kx ∧ Hid (Below w1.heap.size w1 wr) ∧ Hid (∀ j, j < i → goodO L[j]! = true ∧ eqO (sortO L)[j]! L[j]! = true ∧ ∀ k, k < j → (L[k]!).id ≠ (L[j]!).id))
  case atStart => exact ⟨0, rfl, by omega, by omega, Below.refl _ _, Lib.hid (fun j hj => by omega)⟩
  case round =>
  obtain ⟨i, rfl, hin, hkx, hd, HJ⟩ := hrel
  by_cases hlt : i < n1
  case neg =>
    have hltz : ¬ (i : Int) < (n1 : Int) := by omega
    obtain rfl : i = n1 := by omega
    have e : Hid (bookO L = true) := book_yes (by rw [HLn.out]; exact h64) (fun j hj => HJ.out j (by rw [HLn.out] at hj; exact hj))
    have B2 : Hid (Below w.heap.size w wr) := B1.out.trans (hd.out.mono B1.out.size)
    clear HJ hd B1
    go_wp2_with fail
    go_ret
    rw [e.out]
    exact ⟨rfl, B2.out⟩
  have hltz : (i : Int) < (n1 : Int) := by omega
  have B2 : Hid (Below w.heap.size w wr) := B1.out.trans (hd.out.mono B1.out.size)
  have h1 := (HO.out.below B2.out).2.2.2
  have k1 := (HS1.out.below hd.out).2.2.2
  rcases h1 with h1 | ⟨b, off, rfl, hb, hc⟩
  · omega
  rcases k1 with k1 | ⟨b', off', rfl, hb', kc⟩
  · omega
  have hx := hc i hlt
  have hy := kc i hlt
  clear hc kc
  obtain ⟨x, ex⟩ : ∃ x, L[i]! = x := ⟨_, rfl⟩
  obtain ⟨y, ey⟩ : ∃ y, (sortO L)[i]! = y := ⟨_, rfl⟩
  rw [ex] at hx
  rw [ey] at hy
  have EX := Lib.hid ex
  have EY := Lib.hid ey
  clear ex ey
  obtain ⟨x0, x1, x2, x3, x4, x5⟩ := hx
  obtain ⟨y0, y1, y2, y3, y4, y5⟩ := hy
  have X0 := fun n os => cell_grown (a := ⟨b, _, none⟩) hb x0 n os
  have Y0 := fun n os => cell_grown (a := ⟨b', _, none⟩) hb' y0 n os
  have X1 := fun n os => cell_grown (a := ⟨b, _, none⟩) hb x1 n os
  have Y1 := fun n os => cell_grown (a := ⟨b', _, none⟩) hb' y1 n os
  have X2 := fun n os => cell_grown (a := ⟨b, _, none⟩) hb x2 n os
  have Y2 := fun n os => cell_grown (a := ⟨b', _, none⟩) hb' y2 n os
  have X3 := fun n os => cell_grown (a := ⟨b, _, none⟩) hb x3 n os
  have Y3 := fun n os => cell_grown (a := ⟨b', _, none⟩) hb' y3 n os
  have X4 := fun n os => cell_grown (a := ⟨b, _, none⟩) hb x4 n os
  have Y4 := fun n os => cell_grown (a := ⟨b', _, none⟩) hb' y4 n os
  have X5 := fun n os => cell_grown (a := ⟨b, _, none⟩) hb x5 n os
  have Y5 := fun n os => cell_grown (a := ⟨b', _, none⟩) hb' y5 n os
  clear x0 x1 x2 x3 x4 x5 y0 y1 y2 y3 y4 y5
  have hcg := fun W => HG.out x W
  have hq := neqR y x
  go_upto_region 7 with fail
  cases hg : goodO x with
  | false =>
    have HB : Hid (bookO L = false) := Lib.hid (book_bad (i := i) (by rw [HLn.out]; exact hlt) (by rw [EX.out]; exact hg))
    rw [hg] at hcg
    clear hg
    refine wp_region_quiet_grown (by assumption) (by kernel_rfl) ?_
    iterate 7 (quiet_step ((go_at_call 37; with_reducible refine Calls.grown_of (hcg _))))
    iterate 9 (go_big_quiet_skip)
    go_big_quiet_step (fail)
    refine wpQuiet_nil ?_
    intro _ hw'
    obtain ⟨⟨nq, osq⟩, hw''⟩ := hw'
    subst hw''
    have B3 : Hid (Below w.heap.size w (grow (wr.drewN nq) osq)) := B2.out.trans ((gw_grow wr nq osq).b.mono B2.out.size)
    clear hcg X0 X1 X2 X3 X4 X5 Y0 Y1 Y2 Y3 Y4 Y5 hq
    generalize grow (wr.drewN nq) osq = w2 at B3 ⊢
    go_wp2_with fail
    go_ret
    rw [HB.out]
    exact ⟨rfl, B3.out⟩
  | true =>
  have HGd : Hid (goodO L[i]! = true) := by
    show _ = _
    rw [EX.out]; exact hg
  rw [hg] at hcg
  clear hg
  cases he : eqO y x with
  | false =>
    have HB : Hid (bookO L = false) := Lib.hid (book_unlike (i := i) (by rw [EX.out, EY.out]; exact he))
    rw [he] at hq
    clear he
    go_quiet_grown ((go_at_call 37; with_reducible refine Calls.grown_of (hcg _)))
    have B3 : Hid (Below w.heap.size w (grow (wr.drewN nq) osq)) := B2.out.trans ((gw_grow wr nq osq).b.mono B2.out.size)
    clear hcg X0 X1 X2 X3 X4 X5 Y0 Y1 Y2 Y3 Y4 Y5 hq
    generalize grow (wr.drewN nq) osq = w2 at B3 ⊢
    go_wp2_with fail
    go_ret
    rw [HB.out]
    exact ⟨rfl, B3.out⟩
  | true =>
  have HEq : Hid (eqO (sortO L)[i]! L[i]! = true) := by
    show _ = _
    rw [EX.out, EY.out]; exact he
  rw [he] at hq
  clear he
  go_quiet_grown ((go_at_call 37; with_reducible refine Calls.grown_of (hcg _)))
  have D3 : Hid (Below w1.heap.size w1 (grow (wr.drewN nq) osq)) := hd.out.trans ((gw_grow wr nq osq).b.mono hd.out.size)
  clear hcg X0 X1 X2 X3 X4 X5 Y0 Y1 Y2 Y3 Y4 Y5 hq EX EY hd B2 hb hb'
  generalize grow (wr.drewN nq) osq = w2 at D3 ⊢
  go_wp2_with fail
  go_loopg [5] i (fun kx s5 wx => ∃ k : Nat, s5 = .int .i64 k ∧ k ≤ i ∧ i - k ≤ kx ∧ Hid (Below w1.heap.size w1 wx) ∧ Hid (∀ j, j < k → (L[j]!).id ≠ (L[i]!).id))
  case atStart => exact ⟨0, rfl, by omega, by omega, D3, Lib.hid (fun j hj => by omega)⟩
  case round =>
  clear D3
  obtain ⟨k, rfl, hki, hkk, hd, HK⟩ := hrel
  by_cases hk : k < i
  case neg =>
    have hkz : ¬ (k : Int) < (i : Int) := by omega
    obtain rfl : k = i := by omega
    have HN : Hid (∀ j, j < k + 1 → goodO L[j]! = true ∧ eqO (sortO L)[j]! L[j]! = true ∧ ∀ q, q < j → (L[q]!).id ≠ (L[j]!).id) := Lib.hid (fun j hj => by
      by_cases e : j < k
      · exact HJ.out j e
      · obtain rfl : j = k := by omega
        exact ⟨HGd.out, HEq.out, fun q hq => HK.out q hq⟩)
    clear HJ HK
    go_wp2_with fail
    go_roundg (n1 - (k + 1))
    case measure => omega
    case rel => exact ⟨k + 1, by go_num, by omega, by omega, hd, HN⟩
  have hkz : (k : Int) < (i : Int) := by omega
  have hkn : (k : Int) < (n1 : Int) := by omega
  have B2 : Hid (Below w.heap.size w wr) := B1.out.trans (hd.out.mono B1.out.size)
  have hx := (HO.out.below B2.out).cellsAt hlt
  have hy := (HO.out.below B2.out).cellsAt (show k < n1 by omega)
  obtain ⟨x, ex⟩ : ∃ x, L[i]! = x := ⟨_, rfl⟩
  obtain ⟨y, ey⟩ : ∃ y, L[k]! = y := ⟨_, rfl⟩
  rw [ex] at hx
  rw [ey] at hy
  have EX := Lib.hid ex
  have EY := Lib.hid ey
  clear ex ey
  obtain ⟨x0, _, _, _, _, _⟩ := hx
  obtain ⟨y0, _, _, _, _, _⟩ := hy
  by_cases he : y.id = x.id
  · have HB : Hid (bookO L = false) := Lib.hid (book_pair hk (by rw [HLn.out]; exact hlt) (by rw [EX.out, EY.out]; exact he))
    have e1 : (y.id == x.id) = true := by simp [he]
    clear he
    go_wp2_with fail
    go_quiet (fail)
    have B3 : Hid (Below w.heap.size w (wr.drewN nq)) := below_drewN B2.out nq
    go_wp2_with fail
    go_ret
    rw [HB.out]
    exact ⟨rfl, B3.out⟩
  · have e1 : (y.id == x.id) = false := by simp [he]
    have HN : Hid (∀ j, j < k + 1 → (L[j]!).id ≠ (L[i]!).id) := Lib.hid (fun j hj => by
      by_cases e : j < k
      · exact HK.out j e
      · obtain rfl : j = k := by omega
        rw [EX.out, EY.out]; exact he)
    clear he HK
    go_wp2_with fail
    go_quiet (fail)
    have B3 : Hid (Below w1.heap.size w1 (wr.drewN nq)) := below_drewN hd.out nq
    generalize wr.drewN nq = w3 at B3 ⊢
    go_wp2_with fail
    go_roundg (i - (k + 1))
    case measure => omega
    case rel => exact ⟨k + 1, by go_num, by omega, by omega, B3, HN⟩
end Go.Proofs.Ytdjbnnjcifgnlaa

namespace Go.Proofs.Ytdjbnnjcifgnlaa
open Go.RowKit Go.Sort Go.Lib Go.Shelf

theorem sd_stop {hi first r : Nat} {d : Array Int} (h : hi ≤ 2 * r + 1) : siftDown ltInt hi first r d = d := by
  rw [siftDown, dif_pos h]
theorem sd_A {hi first r : Nat} {d : Array Int} (h : 2 * r + 2 < hi) (hl : ltInt d[first + (2 * r + 1)]! d[first + (2 * r + 1) + 1]! = true) :
    siftDown ltInt hi first r d = if ltInt d[first + r]! d[first + (2 * r + 2)]! = true then siftDown ltInt hi first (2 * r + 2) (swp d (first + r) (first + (2 * r + 2))) else d := by
  rw [siftDown, dif_neg (by omega), if_pos (by rw [hl, Bool.and_true]; exact decide_eq_true (by omega))]
  cases ltInt d[first + r]! d[first + (2 * r + 2)]! with
  | true => rw [if_neg (by decide), dif_pos h, if_pos rfl]
  | false => rw [if_pos (by decide), if_neg (by decide)]
theorem sd_B {hi first r : Nat} {d : Array Int} (h0 : 2 * r + 1 < hi) (h : ¬ 2 * r + 2 < hi ∨ ltInt d[first + (2 * r + 1)]! d[first + (2 * r + 1) + 1]! = false) :
    siftDown ltInt hi first r d = if ltInt d[first + r]! d[first + (2 * r + 1)]! = true then siftDown ltInt hi first (2 * r + 1) (swp d (first + r) (first + (2 * r + 1))) else d := by
  rw [siftDown, dif_neg (by omega), if_neg (by
    intro hc
    rw [Bool.and_eq_true, decide_eq_true_iff] at hc
    rcases h with h | h
    · omega
    · rw [h] at hc; cases hc.2)]
  cases ltInt d[first + r]! d[first + (2 * r + 1)]! with
  | true => rw [if_neg (by decide), if_pos rfl]
  | false => rw [if_pos (by decide), if_neg (by decide)]

set_option maxHeartbeats 4000000 in
set_option maxRecDepth 1000000 in
theorem sift_c (blk off cap : Nat) (lo hi first : Nat) (zl zh zf : Int) (hzl : zl = lo) (hzh : zh = hi) (hzf : zf = first) (d0 d : Array Int) (w0 w : World) (n : Nat) (hn : n = d.size) (R : Row1 eU w0 blk off d0) (hs : d0.size = d.size) (S : SW eU w0 blk off d w) (hsz : d.size < 4611686018427387904) (hf : first + hi ≤ d.size) (hlo : lo ≤ d.size) :
    Calls Try.prog 95 #[.slice (some ⟨blk, off, none⟩) n cap, .int .i64 zl, .int .i64 zh, .int .i64 zf] w fun e w' => e = .returned (.tuple #[]) ∧ SW eU w0 blk off (siftDown ltInt hi first lo d) w' := by
  subst hn hzl hzh hzf
  have mixed : Try.prog.follows .mixedOrders = true := by kernel_rfl
  have S0 : Aside (SW eU w0 blk off d w) := S
  have HS := Lib.hid hs
  have HL := Lib.hid lessU_c
  clear S hs
  go_enter Try.func95, Try.ntmps95
  go_wp2
  go_loopg [8] (hi + 1) (fun kx s8 wr => ∃ (r : Nat) (dk : Array Int), s8 = .int .i64 r ∧ hi + 1 - r ≤ kx + 1 ∧ dk.size = d.size ∧ Aside (SW eU w0 blk off dk wr) ∧ Hid (siftDown ltInt hi first r dk = siftDown ltInt hi first lo d) ∧ (r < hi ∨ r = lo) ∧ r ≤ lo + hi)
  case atStart => exact ⟨lo, d, rfl, by omega, rfl, S0, Lib.hid rfl, .inr rfl, by omega⟩
  case round =>
    clear S0
    obtain ⟨r, dk, rfl, hkx, hds, S1, HE, hrl, hrb⟩ := hrel
    have HD := Lib.hid hds
    clear hds
    have hrd : r ≤ d.size := by omega
    by_cases hlt : hi ≤ 2 * r + 1
    · have hz : (hi : Int) ≤ 2 * (r : Int) + 1 := by omega
      go_wp2_with fail
      go_end0
      refine ⟨rfl, ?_⟩
      rw [← HE.out, sd_stop hlt]
      exact S1.out
    · obtain ⟨c1, hc1⟩ : ∃ c, c = 2 * r + 1 := ⟨_, rfl⟩
      obtain ⟨c2, hc2⟩ : ∃ c, c = 2 * r + 2 := ⟨_, rfl⟩
      obtain ⟨f1, hf1⟩ : ∃ c, c = first + c1 := ⟨_, rfl⟩
      obtain ⟨f2, hf2⟩ : ∃ c, c = first + c2 := ⟨_, rfl⟩
      obtain ⟨fr, hfr⟩ : ∃ c, c = first + r := ⟨_, rfl⟩
      have hz : (hi : Int) - 1 ≥ (c1 : Int) := by omega
      have hz0 : ¬ (hi : Int) ≤ (c1 : Int) := by omega
      have q1 : 2 * (r : Int) + 1 = (c1 : Int) := by omega
      have q2 : IntKind.i64.wrap ((c1 : Int) + 1) = (c2 : Int) := by rw [IntKind.wrap_i64]; omega
      have q2' : (c1 : Int) + 1 = (c2 : Int) := by omega
      have q3 : IntKind.i64.wrap ((first : Int) + (c1 : Int)) = (f1 : Int) := by rw [IntKind.wrap_i64]; omega
      have q4 : IntKind.i64.wrap ((f1 : Int) + 1) = (f2 : Int) := by rw [IntKind.wrap_i64]; omega
      have q5 : IntKind.i64.wrap ((first : Int) + (r : Int)) = (fr : Int) := by rw [IntKind.wrap_i64]; omega
      have q6 : IntKind.i64.wrap ((first : Int) + (c2 : Int)) = (f2 : Int) := by rw [IntKind.wrap_i64]; omega
      have HN := Lib.hid (And.intro hc1 (And.intro hc2 (And.intro hf1 (And.intro hf2 hfr))))
      have n1 : c1 < hi := by omega
      have n2 : f1 < first + hi := by omega
      have n3 : fr < f1 := by omega
      have l1 : f1 ≤ first + c1 := by omega
      have l2 : first + c1 ≤ f1 := by omega
      have l3 : f2 ≤ first + c2 := by omega
      have l4 : first + c2 ≤ f2 := by omega
      have l5 : fr ≤ first + r := by omega
      have l6 : first + r ≤ fr := by omega
      have l7 : c1 ≤ 2 * r + 1 := by omega
      have l8 : 2 * r + 1 ≤ c1 := by omega
      have l9 : c2 ≤ c1 + 1 := by omega
      have l10 : c1 + 1 ≤ c2 := by omega
      clear hc1 hc2 hf1 hf2 hfr hlt hrl
      by_cases h2 : c2 < hi
      · have h2z : (c2 : Int) < (hi : Int) := by omega
        have hsz2 := HD.out
        obtain ⟨y, hy⟩ : ∃ x, dk[f1]! = x := ⟨_, rfl⟩
        have cy := S1.out.c1 R (by rw [HD.out]; exact HS.out.symm) (f1) (by omega)
        rw [hy] at cy
        replace cy : wr.cell? ⟨blk, off + f1, none⟩ = some (.int .u64 y) := cy
        have Xy := Lib.hid hy
        clear hy
        have bby : (f1 : Int) < (d.size : Int) := by omega
        obtain ⟨u, hu⟩ : ∃ x, dk[f2]! = x := ⟨_, rfl⟩
        have cu := S1.out.c1 R (by rw [HD.out]; exact HS.out.symm) (f2) (by omega)
        rw [hu] at cu
        replace cu : wr.cell? ⟨blk, off + f2, none⟩ = some (.int .u64 u) := cu
        have Xu := Lib.hid hu
        clear hu
        have bbu : (f2 : Int) < (d.size : Int) := by omega
        clear hsz2
        cases hl : ltInt y u with
        | true =>
          have HA : Hid (2 * r + 2 < hi ∧ ltInt dk[first + (2 * r + 1)]! dk[first + (2 * r + 1) + 1]! = true) := by
            refine Lib.hid ⟨by omega, ?_⟩
            rw [← HN.out.1, ← HN.out.2.2.1, show f1 + 1 = f2 by omega, Xy.out, Xu.out]; exact hl
          go_wp2_with fail
          go_quiet ((go_at_call 79; with_reducible exact Calls.quiet_of_same (HL.out _ _ _)))
          have S3 : Aside (SW eU w0 blk off dk (wr.drewN nq)) := S1.out.drewN nq
          clear cy bby cu bbu S1
          generalize wr.drewN nq = wq at S3 ⊢
          clear hl
          go_wp2_with fail
          have hsz2 := HD.out
          obtain ⟨x, hx⟩ : ∃ x, dk[fr]! = x := ⟨_, rfl⟩
          have cx := S3.out.c1 R (by rw [HD.out]; exact HS.out.symm) (fr) (by omega)
          rw [hx] at cx
          replace cx : wq.cell? ⟨blk, off + fr, none⟩ = some (.int .u64 x) := cx
          have Xx := Lib.hid hx
          clear hx
          have bbx : (fr : Int) < (d.size : Int) := by omega
          obtain ⟨z, hz⟩ : ∃ x, dk[f2]! = x := ⟨_, rfl⟩
          have cz := S3.out.c1 R (by rw [HD.out]; exact HS.out.symm) (f2) (by omega)
          rw [hz] at cz
          replace cz : wq.cell? ⟨blk, off + f2, none⟩ = some (.int .u64 z) := cz
          have Xz := Lib.hid hz
          clear hz
          have bbz : (f2 : Int) < (d.size : Int) := by omega
          clear hsz2
          cases hl2 : ltInt x z with
          | true =>
            have HN2 : Hid (siftDown ltInt hi first c2 (swp dk fr f2) = siftDown ltInt hi first lo d) := by
              have e := sd_A (hi := hi) (first := first) (r := r) (d := dk) HA.out.1 HA.out.2
              rw [← HN.out.2.1] at e
              rw [← HN.out.2.2.2.2, ← HN.out.2.2.2.1, Xx.out, Xz.out, if_pos hl2] at e
              show _ = _
              rw [← HE.out, e]
            go_wp2_with fail
            go_quiet ((go_at_call 79; with_reducible exact Calls.quiet_of_same (HL.out _ _ _)))
            have S4 : Aside (SW eU w0 blk off dk (wq.drewN nq)) := S3.out.drewN nq
            clear cx bbx cz bbz S3
            generalize wq.drewN nq = wt at S4 ⊢
            clear hl2 HE
            go_wp2_with fail
            have hsz2 := HD.out
            have bI : (fr : Int) < (d.size : Int) := by omega
            have bJ : (f2 : Int) < (d.size : Int) := by omega
            have S2 := S4.out.swapped R (fr) (f2) (by omega) (by omega)
            have ca := S4.out.c1 R (by rw [HD.out]; exact HS.out.symm) (fr) (by omega)
            have cb := S4.out.c1 R (by rw [HD.out]; exact HS.out.symm) (f2) (by omega)
            have fa := S4.out.f1 R (by rw [HD.out]; exact HS.out.symm) (fr) (by omega)
            have fb := S4.out.f1 R (by rw [HD.out]; exact HS.out.symm) (f2) (by omega)
            obtain ⟨uc, cc⟩ := S4.out.c2 R (by rw [HD.out]; exact HS.out.symm) (fr) (f2) (by omega) (by omega) (eU dk[f2]!)
            clear hsz2
            generalize dk[fr]! = vI at S2 ca cc
            generalize dk[f2]! = vJ at S2 cb cc
            replace S2 : Aside (SW eU w0 blk off (swp dk (fr) (f2)) ((wt.setCell ⟨blk, off + fr, none⟩ (.int .u64 vJ)).setCell ⟨blk, off + f2, none⟩ (.int .u64 vI)).drew) := S2
            replace ca : wt.cell? ⟨blk, off + fr, none⟩ = some (.int .u64 vI) := ca
            replace cb : wt.cell? ⟨blk, off + f2, none⟩ = some (.int .u64 vJ) := cb
            replace cc : (wt.setCell ⟨blk, off + fr, none⟩ (.int .u64 vJ)).cell? ⟨blk, off + f2, none⟩ = some uc := cc
            clear S4
            go_wp2_with fail
            go_big_region
            clear ca cb fa fb cc bI bJ
            generalize ((wt.setCell ⟨blk, off + fr, none⟩ (.int .u64 vJ)).setCell ⟨blk, off + f2, none⟩ (.int .u64 vI)).drew = w2 at S2 ⊢
            go_wp2
            go_roundg (hi - c2)
            case measure => omega
            case rel => exact ⟨c2, swp dk fr f2, rfl, by omega, by rw [size_swp]; exact HD.out, S2, HN2, .inl (by omega), by omega⟩
          | false =>
            have HN2 : Hid (siftDown ltInt hi first lo d = dk) := by
              have e := sd_A (hi := hi) (first := first) (r := r) (d := dk) HA.out.1 HA.out.2
              rw [← HN.out.2.1] at e
              rw [← HN.out.2.2.2.2, ← HN.out.2.2.2.1, Xx.out, Xz.out, if_neg (by rw [hl2]; decide)] at e
              show _ = _
              rw [← HE.out, e]
            go_wp2_with fail
            go_quiet ((go_at_call 79; with_reducible exact Calls.quiet_of_same (HL.out _ _ _)))
            have S4 : Aside (SW eU w0 blk off dk (wq.drewN nq)) := S3.out.drewN nq
            clear cx bbx cz bbz S3
            generalize wq.drewN nq = wt at S4 ⊢
            go_wp2_with fail
            first | go_end0 | ((try simp only [Exit.inBlock, Exit.then]); refine bodyPost_ret (results_none rfl _ _ _) rfl ?_)
            refine ⟨rfl, ?_⟩
            rw [HN2.out]
            exact S4.out
        | false =>
          have HA : Hid (2 * r + 1 < hi ∧ ltInt dk[first + (2 * r + 1)]! dk[first + (2 * r + 1) + 1]! = false) := by
            refine Lib.hid ⟨by omega, ?_⟩
            rw [← HN.out.1, ← HN.out.2.2.1, show f1 + 1 = f2 by omega, Xy.out, Xu.out]; exact hl
          go_wp2_with fail
          go_quiet ((go_at_call 79; with_reducible exact Calls.quiet_of_same (HL.out _ _ _)))
          have S3 : Aside (SW eU w0 blk off dk (wr.drewN nq)) := S1.out.drewN nq
          clear cy bby cu bbu S1
          generalize wr.drewN nq = wq at S3 ⊢
          clear hl
          go_wp2_with fail
          have hsz2 := HD.out
          obtain ⟨x, hx⟩ : ∃ x, dk[fr]! = x := ⟨_, rfl⟩
          have cx := S3.out.c1 R (by rw [HD.out]; exact HS.out.symm) (fr) (by omega)
          rw [hx] at cx
          replace cx : wq.cell? ⟨blk, off + fr, none⟩ = some (.int .u64 x) := cx
          have Xx := Lib.hid hx
          clear hx
          have bbx : (fr : Int) < (d.size : Int) := by omega
          obtain ⟨z, hz⟩ : ∃ x, dk[f1]! = x := ⟨_, rfl⟩
          have cz := S3.out.c1 R (by rw [HD.out]; exact HS.out.symm) (f1) (by omega)
          rw [hz] at cz
          replace cz : wq.cell? ⟨blk, off + f1, none⟩ = some (.int .u64 z) := cz
          have Xz := Lib.hid hz
          clear hz
          have bbz : (f1 : Int) < (d.size : Int) := by omega
          clear hsz2
          cases hl2 : ltInt x z with
          | true =>
            have HN2 : Hid (siftDown ltInt hi first c1 (swp dk fr f1) = siftDown ltInt hi first lo d) := by
              have e := sd_B (hi := hi) (first := first) (r := r) (d := dk) HA.out.1 (.inr HA.out.2)
              rw [← HN.out.1] at e
              rw [← HN.out.2.2.2.2, ← HN.out.2.2.1, Xx.out, Xz.out, if_pos hl2] at e
              show _ = _
              rw [← HE.out, e]
            go_wp2_with fail
            go_quiet ((go_at_call 79; with_reducible exact Calls.quiet_of_same (HL.out _ _ _)))
            have S4 : Aside (SW eU w0 blk off dk (wq.drewN nq)) := S3.out.drewN nq
            clear cx bbx cz bbz S3
            generalize wq.drewN nq = wt at S4 ⊢
            clear hl2 HE
            go_wp2_with fail
            have hsz2 := HD.out
            have bI : (fr : Int) < (d.size : Int) := by omega
            have bJ : (f1 : Int) < (d.size : Int) := by omega
            have S2 := S4.out.swapped R (fr) (f1) (by omega) (by omega)
            have ca := S4.out.c1 R (by rw [HD.out]; exact HS.out.symm) (fr) (by omega)
            have cb := S4.out.c1 R (by rw [HD.out]; exact HS.out.symm) (f1) (by omega)
            have fa := S4.out.f1 R (by rw [HD.out]; exact HS.out.symm) (fr) (by omega)
            have fb := S4.out.f1 R (by rw [HD.out]; exact HS.out.symm) (f1) (by omega)
            obtain ⟨uc, cc⟩ := S4.out.c2 R (by rw [HD.out]; exact HS.out.symm) (fr) (f1) (by omega) (by omega) (eU dk[f1]!)
            clear hsz2
            generalize dk[fr]! = vI at S2 ca cc
            generalize dk[f1]! = vJ at S2 cb cc
            replace S2 : Aside (SW eU w0 blk off (swp dk (fr) (f1)) ((wt.setCell ⟨blk, off + fr, none⟩ (.int .u64 vJ)).setCell ⟨blk, off + f1, none⟩ (.int .u64 vI)).drew) := S2
            replace ca : wt.cell? ⟨blk, off + fr, none⟩ = some (.int .u64 vI) := ca
            replace cb : wt.cell? ⟨blk, off + f1, none⟩ = some (.int .u64 vJ) := cb
            replace cc : (wt.setCell ⟨blk, off + fr, none⟩ (.int .u64 vJ)).cell? ⟨blk, off + f1, none⟩ = some uc := cc
            clear S4
            go_wp2_with fail
            go_big_region
            clear ca cb fa fb cc bI bJ
            generalize ((wt.setCell ⟨blk, off + fr, none⟩ (.int .u64 vJ)).setCell ⟨blk, off + f1, none⟩ (.int .u64 vI)).drew = w2 at S2 ⊢
            go_wp2
            go_roundg (hi - c1)
            case measure => omega
            case rel => exact ⟨c1, swp dk fr f1, rfl, by omega, by rw [size_swp]; exact HD.out, S2, HN2, .inl (by omega), by omega⟩
          | false =>
            have HN2 : Hid (siftDown ltInt hi first lo d = dk) := by
              have e := sd_B (hi := hi) (first := first) (r := r) (d := dk) HA.out.1 (.inr HA.out.2)
              rw [← HN.out.1] at e
              rw [← HN.out.2.2.2.2, ← HN.out.2.2.1, Xx.out, Xz.out, if_neg (by rw [hl2]; decide)] at e
              show _ = _
              rw [← HE.out, e]
            go_wp2_with fail
            go_quiet ((go_at_call 79; with_reducible exact Calls.quiet_of_same (HL.out _ _ _)))
            have S4 : Aside (SW eU w0 blk off dk (wq.drewN nq)) := S3.out.drewN nq
            clear cx bbx cz bbz S3
            generalize wq.drewN nq = wt at S4 ⊢
            go_wp2_with fail
            first | go_end0 | ((try simp only [Exit.inBlock, Exit.then]); refine bodyPost_ret (results_none rfl _ _ _) rfl ?_)
            refine ⟨rfl, ?_⟩
            rw [HN2.out]
            exact S4.out
      · have h2z : ¬ (c2 : Int) < (hi : Int) := by omega
        have HA : Hid (2 * r + 1 < hi ∧ ¬ 2 * r + 2 < hi) := Lib.hid ⟨by omega, by omega⟩
        go_wp2_with fail
        go_quiet ((go_at_call 79; with_reducible exact Calls.quiet_of_same (HL.out _ _ _)))
        have S3 : Aside (SW eU w0 blk off dk (wr.drewN nq)) := S1.out.drewN nq
        clear S1
        generalize wr.drewN nq = wq at S3 ⊢
        go_wp2_with fail
        have hsz2 := HD.out
        obtain ⟨x, hx⟩ : ∃ x, dk[fr]! = x := ⟨_, rfl⟩
        have cx := S3.out.c1 R (by rw [HD.out]; exact HS.out.symm) (fr) (by omega)
        rw [hx] at cx
        replace cx : wq.cell? ⟨blk, off + fr, none⟩ = some (.int .u64 x) := cx
        have Xx := Lib.hid hx
        clear hx
        have bbx : (fr : Int) < (d.size : Int) := by omega
        obtain ⟨z, hz⟩ : ∃ x, dk[f1]! = x := ⟨_, rfl⟩
        have cz := S3.out.c1 R (by rw [HD.out]; exact HS.out.symm) (f1) (by omega)
        rw [hz] at cz
        replace cz : wq.cell? ⟨blk, off + f1, none⟩ = some (.int .u64 z) := cz
        have Xz := Lib.hid hz
        clear hz
        have bbz : (f1 : Int) < (d.size : Int) := by omega
        clear hsz2
        cases hl2 : ltInt x z with
        | true =>
          have HN2 : Hid (siftDown ltInt hi first c1 (swp dk fr f1) = siftDown ltInt hi first lo d) := by
            have e := sd_B (hi := hi) (first := first) (r := r) (d := dk) HA.out.1 (.inl HA.out.2)
            rw [← HN.out.1] at e
            rw [← HN.out.2.2.2.2, ← HN.out.2.2.1, Xx.out, Xz.out, if_pos hl2] at e
            show _ = _
            rw [← HE.out, e]
          go_wp2_with fail
          go_quiet ((go_at_call 79; with_reducible exact Calls.quiet_of_same (HL.out _ _ _)))
          have S4 : Aside (SW eU w0 blk off dk (wq.drewN nq)) := S3.out.drewN nq
          clear cx bbx cz bbz S3
          generalize wq.drewN nq = wt at S4 ⊢
          clear hl2 HE
          go_wp2_with fail
          have hsz2 := HD.out
          have bI : (fr : Int) < (d.size : Int) := by omega
          have bJ : (f1 : Int) < (d.size : Int) := by omega
          have S2 := S4.out.swapped R (fr) (f1) (by omega) (by omega)
          have ca := S4.out.c1 R (by rw [HD.out]; exact HS.out.symm) (fr) (by omega)
          have cb := S4.out.c1 R (by rw [HD.out]; exact HS.out.symm) (f1) (by omega)
          have fa := S4.out.f1 R (by rw [HD.out]; exact HS.out.symm) (fr) (by omega)
          have fb := S4.out.f1 R (by rw [HD.out]; exact HS.out.symm) (f1) (by omega)
          obtain ⟨uc, cc⟩ := S4.out.c2 R (by rw [HD.out]; exact HS.out.symm) (fr) (f1) (by omega) (by omega) (eU dk[f1]!)
          clear hsz2
          generalize dk[fr]! = vI at S2 ca cc
          generalize dk[f1]! = vJ at S2 cb cc
          replace S2 : Aside (SW eU w0 blk off (swp dk (fr) (f1)) ((wt.setCell ⟨blk, off + fr, none⟩ (.int .u64 vJ)).setCell ⟨blk, off + f1, none⟩ (.int .u64 vI)).drew) := S2
          replace ca : wt.cell? ⟨blk, off + fr, none⟩ = some (.int .u64 vI) := ca
          replace cb : wt.cell? ⟨blk, off + f1, none⟩ = some (.int .u64 vJ) := cb
          replace cc : (wt.setCell ⟨blk, off + fr, none⟩ (.int .u64 vJ)).cell? ⟨blk, off + f1, none⟩ = some uc := cc
          clear S4
          go_wp2_with fail
          go_big_region
          clear ca cb fa fb cc bI bJ
          generalize ((wt.setCell ⟨blk, off + fr, none⟩ (.int .u64 vJ)).setCell ⟨blk, off + f1, none⟩ (.int .u64 vI)).drew = w2 at S2 ⊢
          go_wp2
          go_roundg (hi - c1)
          case measure => omega
          case rel => exact ⟨c1, swp dk fr f1, rfl, by omega, by rw [size_swp]; exact HD.out, S2, HN2, .inl (by omega), by omega⟩
        | false =>
          have HN2 : Hid (siftDown ltInt hi first lo d = dk) := by
            have e := sd_B (hi := hi) (first := first) (r := r) (d := dk) HA.out.1 (.inl HA.out.2)
            rw [← HN.out.1] at e
            rw [← HN.out.2.2.2.2, ← HN.out.2.2.1, Xx.out, Xz.out, if_neg (by rw [hl2]; decide)] at e
            show _ = _
            rw [← HE.out, e]
          go_wp2_with fail
          go_quiet ((go_at_call 79; with_reducible exact Calls.quiet_of_same (HL.out _ _ _)))
          have S4 : Aside (SW eU w0 blk off dk (wq.drewN nq)) := S3.out.drewN nq
          clear cx bbx cz bbz S3
          generalize wq.drewN nq = wt at S4 ⊢
          go_wp2_with fail
          first | go_end0 | ((try simp only [Exit.inBlock, Exit.then]); refine bodyPost_ret (results_none rfl _ _ _) rfl ?_)
          refine ⟨rfl, ?_⟩
          rw [HN2.out]
          exact S4.out
end Go.Proofs.Ytdjbnnjcifgnlaa

namespace Go.Proofs.Ytdjbnnjcifgnlaa
open Go.RowKit Go.Sort Go.Lib Go.Shelf

theorem size_sift (hi first : Nat) : ∀ (n r : Nat) (d : Array Int), hi - r ≤ n → (siftDown ltInt hi first r d).size = d.size
  | 0, r, d, h => by rw [sd_stop (by omega)]
  | n + 1, r, d, h => by
    by_cases h1 : hi ≤ 2 * r + 1
    · rw [sd_stop h1]
    · by_cases h2 : 2 * r + 2 < hi ∧ ltInt d[first + (2 * r + 1)]! d[first + (2 * r + 1) + 1]! = true
      · rw [sd_A h2.1 h2.2]
        split
        · rw [size_sift hi first n _ _ (by omega), size_swp]
        · rfl
      · rw [sd_B (by omega) (by
          by_cases h3 : 2 * r + 2 < hi
          · right
            cases e : ltInt d[first + (2 * r + 1)]! d[first + (2 * r + 1) + 1]! with
            | false => rfl
            | true => exact absurd ⟨h3, e⟩ h2
          · exact .inl h3)]
        split
        · rw [size_sift hi first n _ _ (by omega), size_swp]
        · rfl

set_option maxHeartbeats 4000000 in
set_option maxRecDepth 1000000 in
theorem heap_c (blk off cap : Nat) (a b : Nat) (za zb : Int) (hza : za = a) (hzb : zb = b) (d0 d : Array Int) (w0 w : World) (n : Nat) (hn : n = d.size) (R : Row1 eU w0 blk off d0) (hs : d0.size = d.size) (S : SW eU w0 blk off d w) (hsz : d.size < 4611686018427387904) (hab : a < b) (hb : b ≤ d.size) :
    Calls Try.prog 74 #[.slice (some ⟨blk, off, none⟩) n cap, .int .i64 za, .int .i64 zb] w fun e w' => e = .returned (.tuple #[]) ∧ ∃ d', SW eU w0 blk off d' w' ∧ PermIn a b d d' ∧ SortedIn ltInt a b d' := by
  subst hn hza hzb
  have HF := Lib.hid (heapSort_holds (lt := ltInt) swo_ltInt d a b (by omega) hb)
  have HSD := Lib.hid (fun lo hi first zl zh zf dk wk n h1 h2 h3 h4 h5 h6 h7 h8 h9 => sift_c blk off cap lo hi first zl zh zf h1 h2 h3 d0 dk w0 wk n h4 R h5 h6 h7 h8 h9)
  obtain ⟨hi, hhi⟩ : ∃ h, h = b - a := ⟨_, rfl⟩
  have q0 : (b : Int) - (a : Int) = (hi : Int) := by omega
  obtain ⟨k0, hk0⟩ : ∃ k, k = (hi - 1) / 2 := ⟨_, rfl⟩
  have q1 : ((hi : Int) - 1) / 2 = (k0 : Int) := by omega
  have q1' : ((hi : Int) - 1).tdiv 2 = (k0 : Int) := by rw [Int.tdiv_eq_ediv_of_nonneg (by omega)]; exact q1
  have HK := Lib.hid (And.intro hhi hk0)
  have m1 : 0 < hi := by omega
  have m2 : a + hi ≤ b := by omega
  have m3 : b ≤ a + hi := by omega
  have m4 : k0 ≤ hi := by omega
  clear hhi hk0
  have mixed : Try.prog.follows .mixedOrders = true := by kernel_rfl
  have S0 : Aside (SW eU w0 blk off d w) := S
  have HS := Lib.hid hs
  have HL := Lib.hid lessU_c
  clear S hs
  go_enter Try.func74, Try.ntmps74
  go_wp2
  go_loopg [9] (k0 + 1) (fun kx s9 wr => ∃ (k : Nat) (z : Int) (dk : Array Int), s9 = .int .i64 z ∧ z + 1 = (k : Int) ∧ k ≤ k0 + 1 ∧ k ≤ kx ∧ dk.size = d.size ∧ Aside (SW eU w0 blk off dk wr) ∧ Hid (heapBuild ltInt hi a k dk = heapBuild ltInt hi a (k0 + 1) d))
  case atStart => exact ⟨k0 + 1, k0, d, rfl, by omega, by omega, by omega, rfl, S0, Lib.hid rfl⟩
  case round =>
    clear S0
    obtain ⟨k, z, dk, rfl, hzk, hk0, hkx, hds, S1, HE⟩ := hrel
    have HD := Lib.hid hds
    clear hds
    by_cases hk : 0 < k
    · obtain ⟨j, rfl⟩ : ∃ j, k = j + 1 := ⟨k - 1, by omega⟩
      obtain rfl : z = (j : Int) := by omega
      have hz : (0 : Int) ≤ (j : Int) := by omega
      clear hzk
      go_wp2_with (((with_reducible refine (HSD.out j hi a _ _ _ dk _ d.size rfl rfl rfl ?_ ?_ ?_ ?_ ?_ ?_).mono ?_); exact HD.out.symm; (rw [HD.out]; exact HS.out); exact S1.out; (rw [HD.out]; omega); (rw [HD.out]; omega); (rw [HD.out]; omega)); rintro e w2 ⟨rfl, S2⟩)
      have S3 : Aside (SW eU w0 blk off (siftDown ltInt hi a j dk) w2) := S2
      have HD3 : Hid ((siftDown ltInt hi a j dk).size = d.size) := Lib.hid (by rw [size_sift hi a hi j dk (by omega)]; exact HD.out)
      have HE3 : Hid (heapBuild ltInt hi a j (siftDown ltInt hi a j dk) = heapBuild ltInt hi a (k0 + 1) d) := by
        show _ = _
        rw [← HE.out]; rfl
      clear S2 S1 HE
      go_roundg (j)
      case measure => omega
      case rel => exact ⟨j, (j : Int) - 1, _, rfl, by omega, by omega, by omega, HD3.out, S3, HE3⟩
    · obtain rfl : k = 0 := by omega
      obtain rfl : z = -1 := by omega
      have HB : Hid (dk = heapBuild ltInt hi a (k0 + 1) d) := by
        show _ = _
        rw [← HE.out]; rfl
      clear hk hzk HE
      go_wp2
      go_loopg [10] (hi) (fun kx s10 wr => ∃ (k : Nat) (z : Int) (dj : Array Int), s10 = .int .i64 z ∧ z + 1 = (k : Int) ∧ k ≤ hi ∧ k ≤ kx ∧ dj.size = d.size ∧ Aside (SW eU w0 blk off dj wr) ∧ Hid (heapPop ltInt a k dj = heapPop ltInt a hi dk))
      case atStart => exact ⟨hi, (hi : Int) - 1, dk, rfl, by omega, by omega, by omega, HD.out, S1, Lib.hid rfl⟩
      case round =>
        clear S1 HD
        obtain ⟨k, z, dj, rfl, hzk, hk0', hkx', hds, S1, HE⟩ := hrel
        have HD := Lib.hid hds
        clear hds
        by_cases hk : 0 < k
        · obtain ⟨j, rfl⟩ : ∃ j, k = j + 1 := ⟨k - 1, by omega⟩
          obtain rfl : z = (j : Int) := by omega
          have hz : (0 : Int) ≤ (j : Int) := by omega
          obtain ⟨aj, haj⟩ : ∃ x, x = a + j := ⟨_, rfl⟩
          have q2 : IntKind.i64.wrap ((a : Int) + (j : Int)) = (aj : Int) := by rw [IntKind.wrap_i64]; omega
          have l1 : aj ≤ a + j := by omega
          have l2 : a + j ≤ aj := by omega
          have HAJ := Lib.hid haj
          clear hzk haj
          go_wp2_with fail
          have hsz2 := HD.out
          have bI : (a : Int) < (d.size : Int) := by omega
          have bJ : (aj : Int) < (d.size : Int) := by omega
          have S2 := S1.out.swapped R (a) (aj) (by omega) (by omega)
          have ca := S1.out.c1 R (by rw [HD.out]; exact HS.out.symm) (a) (by omega)
          have cb := S1.out.c1 R (by rw [HD.out]; exact HS.out.symm) (aj) (by omega)
          have fa := S1.out.f1 R (by rw [HD.out]; exact HS.out.symm) (a) (by omega)
          have fb := S1.out.f1 R (by rw [HD.out]; exact HS.out.symm) (aj) (by omega)
          obtain ⟨uc, cc⟩ := S1.out.c2 R (by rw [HD.out]; exact HS.out.symm) (a) (aj) (by omega) (by omega) (eU dj[aj]!)
          clear hsz2
          generalize dj[a]! = vI at S2 ca cc
          generalize dj[aj]! = vJ at S2 cb cc
          replace S2 : Aside (SW eU w0 blk off (swp dj (a) (aj)) ((wr.setCell ⟨blk, off + a, none⟩ (.int .u64 vJ)).setCell ⟨blk, off + aj, none⟩ (.int .u64 vI)).drew) := S2
          replace ca : wr.cell? ⟨blk, off + a, none⟩ = some (.int .u64 vI) := ca
          replace cb : wr.cell? ⟨blk, off + aj, none⟩ = some (.int .u64 vJ) := cb
          replace cc : (wr.setCell ⟨blk, off + a, none⟩ (.int .u64 vJ)).cell? ⟨blk, off + aj, none⟩ = some uc := cc
          clear S1
          go_wp2_with fail
          go_big_region
          clear ca cb fa fb cc bI bJ
          generalize ((wr.setCell ⟨blk, off + a, none⟩ (.int .u64 vJ)).setCell ⟨blk, off + aj, none⟩ (.int .u64 vI)).drew = w2 at S2 ⊢
          have HD2 : Hid ((swp dj a aj).size = d.size) := Lib.hid (by rw [size_swp]; exact HD.out)
          go_wp2_with (((with_reducible refine (HSD.out 0 j a _ _ _ (swp dj a aj) _ d.size ?_ rfl rfl ?_ ?_ ?_ ?_ ?_ ?_).mono ?_); rfl; exact HD2.out.symm; (rw [HD2.out]; exact HS.out); exact S2.out; (rw [HD2.out]; omega); (rw [HD2.out]; omega); (rw [HD2.out]; omega)); rintro e w3 ⟨rfl, S3⟩)
          have S4 : Aside (SW eU w0 blk off (siftDown ltInt j a 0 (swp dj a aj)) w3) := S3
          have HD3 : Hid ((siftDown ltInt j a 0 (swp dj a aj)).size = d.size) := Lib.hid (by rw [size_sift j a j 0 _ (by omega)]; exact HD2.out)
          have HE3 : Hid (heapPop ltInt a j (siftDown ltInt j a 0 (swp dj a aj)) = heapPop ltInt a hi dk) := by
            show _ = _
            rw [← HE.out, HAJ.out]; rfl
          clear S3 S2 HE
          go_roundg (j)
          case measure => omega
          case rel => exact ⟨j, (j : Int) - 1, _, rfl, by omega, by omega, by omega, HD3.out, S4, HE3⟩
        · obtain rfl : k = 0 := by omega
          obtain rfl : z = -1 := by omega
          have HX : Hid (heapSort ltInt d a b = dj) := by
            show _ = _
            unfold heapSort
            rw [← HK.out.1, ← HK.out.2, ← HB.out, ← HE.out]; rfl
          clear hk hzk HE
          go_wp2
          go_end0
          refine ⟨rfl, dj, S1.out, ?_⟩
          rw [← HX.out]
          exact HF.out
end Go.Proofs.Ytdjbnnjcifgnlaa

namespace Go.Proofs.Ytdjbnnjcifgnlaa
open Go.RowKit Go.Sort Go.Lib Go.Shelf

/-- Between a and i the low ones, behind j the others; the pivot at a. -/
structure PInv (L : Int → Bool) (a b i j : Nat) (v : Int) (d dk : Array Int) : Prop where
  i1 : a + 1 ≤ i
  ij : i ≤ j + 1
  jb : j < b
  v : dk[a]! = v
  lo : ∀ p, a < p → p < i → L dk[p]! = true
  hi : ∀ p, j < p → p < b → L dk[p]! = false
  perm : PermIn a b d dk
theorem PInv.start (L : Int → Bool) {a b pv : Nat} {d : Array Int} (h1 : a ≤ pv) (h2 : pv < b) (hb : b ≤ d.size) : PInv L a b (a + 1) (b - 1) d[pv]! d (swp d a pv) :=
  ⟨Nat.le_refl _, by omega, by omega, by
    by_cases e : a = pv
    · subst e; rw [swp_right _ _ _ (by omega)]
    · exact swp_left _ _ _ (by omega) e, fun p h h' => by omega, fun p h h' => by omega, swp_permIn d a b a pv (Nat.le_refl _) (by omega) h1 h2 hb⟩
theorem PInv.up {L : Int → Bool} {a b i j : Nat} {v : Int} {d dk : Array Int} (h : PInv L a b i j v d dk) (hij : i ≤ j) (hl : L dk[i]! = true) : PInv L a b (i + 1) j v d dk :=
  ⟨by have := h.i1; omega, by omega, h.jb, h.v, fun p h1 h2 => by
    by_cases e : p = i
    · rw [e]; exact hl
    · exact h.lo p h1 (by omega), h.hi, h.perm⟩
theorem PInv.down {L : Int → Bool} {a b i j : Nat} {v : Int} {d dk : Array Int} (h : PInv L a b i (j + 1) v d dk) (hij : i ≤ j + 1) (hl : L dk[j + 1]! = false) : PInv L a b i j v d dk :=
  ⟨h.i1, hij, by have := h.jb; omega, h.v, h.lo, fun p h1 h2 => by
    by_cases e : p = j + 1
    · rw [e]; exact hl
    · exact h.hi p (by omega) h2, h.perm⟩
theorem PInv.swap {L : Int → Bool} {a b i j : Nat} {v : Int} {d dk : Array Int} (h : PInv L a b i (j + 1) v d dk) (hij : i ≤ j + 1) (h1 : L dk[i]! = false) (h2 : L dk[j + 1]! = true) (hb : b ≤ d.size) : i ≤ j ∧ PInv L a b (i + 1) j v d (swp dk i (j + 1)) := by
  have hs : dk.size = d.size := h.perm.1
  have hne : i ≠ j + 1 := by rintro rfl; rw [h1] at h2; cases h2
  have b1 := h.i1
  have b2 := h.jb
  refine ⟨by omega, by omega, by omega, by omega, ?_, fun p q1 q2 => ?_, fun p q1 q2 => ?_, permIn_trans _ _ _ _ _ h.perm (swp_permIn dk a b i (j + 1) (by omega) (by omega) (by omega) (by omega) (by omega))⟩
  · rw [swp_other _ _ _ _ (by omega) (by omega)]; exact h.v
  · by_cases e : p = i
    · rw [e, swp_left _ _ _ (by omega) hne]; exact h2
    · rw [swp_other _ _ _ _ e (by omega)]; exact h.lo p q1 (by omega)
  · by_cases e : p = j + 1
    · rw [e, swp_right _ _ _ (by omega)]; exact h1
    · rw [swp_other _ _ _ _ (by omega) e]; exact h.hi p (by omega) q2
theorem PInv.swapj {L : Int → Bool} {a b i j : Nat} {v : Int} {d dk : Array Int} (h : PInv L a b i j v d dk) (hij : i ≤ j) (h1 : L dk[i]! = false) (h2 : L dk[j]! = true) (hb : b ≤ d.size) : i < j ∧ PInv L a b (i + 1) (j - 1) v d (swp dk i j) := by
  have b1 := h.i1
  obtain ⟨j2, rfl⟩ : ∃ j2, j = j2 + 1 := ⟨j - 1, by omega⟩
  have := h.swap hij h1 h2 hb
  exact ⟨by omega, this.2⟩
def lowE (v x : Int) : Bool := !ltInt v x
def lowP (v x : Int) : Bool := ltInt x v
/-- What partitionEqual leaves. -/
def PEq (a b m : Nat) (v : Int) (d d' : Array Int) : Prop := PermIn a b d d' ∧ a < m ∧ m ≤ b ∧ (∀ p, a ≤ p → p < m → ltInt v d'[p]! = false) ∧ ∀ p, m ≤ p → p < b → ltInt v d'[p]! = true
theorem peq_of {a b i j : Nat} {v : Int} {d dk : Array Int} (h : PInv (lowE v) a b i j v d dk) (hij : j < i) : PEq a b i v d dk := by
  have b1 := h.i1; have b2 := h.ij; have b3 := h.jb
  refine ⟨h.perm, by omega, by omega, fun p q1 q2 => ?_, fun p q1 q2 => ?_⟩
  · by_cases e : p = a
    · rw [e, h.v]; exact swo_ltInt.irrefl _
    · have := h.lo p (by omega) q2
      unfold lowE at this; simpa using this
  · have := h.hi p (by omega) q2
    unfold lowE at this; simpa using this
/-- What partition leaves. -/
def PPart (a b m : Nat) (d d' : Array Int) : Prop := PermIn a b d d' ∧ a ≤ m ∧ m < b ∧ (∀ p, a ≤ p → p < m → ltInt d'[p]! d'[m]! = true) ∧ ∀ p, m < p → p < b → ltInt d'[p]! d'[m]! = false
theorem ppart_of {a b i j : Nat} {v : Int} {d dk : Array Int} (h : PInv (lowP v) a b i j v d dk) (hij : j < i) (hb : b ≤ d.size) : PPart a b j d (swp dk j a) := by
  have b1 := h.i1; have b2 := h.ij; have b3 := h.jb
  have hs : dk.size = d.size := h.perm.1
  have hj : (swp dk j a)[j]! = v := by
    by_cases e : j = a
    · rw [e, swp_right _ _ _ (by omega)]; exact h.v
    · rw [swp_left _ _ _ (by omega) e]; exact h.v
  refine ⟨permIn_trans _ _ _ _ _ h.perm (swp_permIn dk a b j a (by omega) (by omega) (by omega) (by omega) (by omega)), by omega, b3, fun p q1 q2 => ?_, fun p q1 q2 => ?_⟩
  · rw [hj]
    by_cases e : p = a
    · rw [e, swp_right _ _ _ (by omega)]
      have := h.lo j (by omega) (by omega)
      exact this
    · rw [swp_other _ _ _ _ (by omega) e]
      exact h.lo p (by omega) (by omega)
  · rw [hj, swp_other _ _ _ _ (by omega) (by omega)]
    exact h.hi p q1 q2

set_option maxHeartbeats 4000000 in
set_option maxRecDepth 1000000 in
theorem peq_c (blk off cap : Nat) (a b pv : Nat) (za zb zp : Int) (hza : za = a) (hzb : zb = b) (hzp : zp = pv) (d0 d : Array Int) (w0 w : World) (n : Nat) (hn : n = d.size) (R : Row1 eU w0 blk off d0) (hs : d0.size = d.size) (S : SW eU w0 blk off d w) (hsz : d.size < 4611686018427387904) (h1 : a ≤ pv) (h2 : pv < b) (hb : b ≤ d.size) :
    Calls Try.prog 80 #[.slice (some ⟨blk, off, none⟩) n cap, .int .i64 za, .int .i64 zb, .int .i64 zp] w fun e w' => ∃ m : Nat, e = .returned (.int .i64 m) ∧ ∃ d', SW eU w0 blk off d' w' ∧ PEq a b m d[pv]! d d' := by
  subst hn hza hzb hzp
  obtain ⟨v, hv⟩ : ∃ v, d[pv]! = v := ⟨_, rfl⟩
  have P0 := PInv.start (lowE v) h1 h2 hb
  rw [hv] at P0
  rw [hv]
  have HP0 := Lib.hid P0
  have HD : Hid (d.size ≤ d.size) := Nat.le_refl _
  clear P0 hv
  have mixed : Try.prog.follows .mixedOrders = true := by kernel_rfl
  have S0 : Aside (SW eU w0 blk off d w) := S
  have HS := Lib.hid hs
  have HL := Lib.hid lessU_c
  clear S hs
  go_enter Try.func80, Try.ntmps80
  go_wp2_with fail
  have hsz2 := HD.out
  have bI : (a : Int) < (d.size : Int) := by omega
  have bJ : (pv : Int) < (d.size : Int) := by omega
  have S2 := S0.out.swapped R (a) (pv) (by omega) (by omega)
  have ca := S0.out.c1 R HS.out.symm (a) (by omega)
  have cb := S0.out.c1 R HS.out.symm (pv) (by omega)
  have fa := S0.out.f1 R HS.out.symm (a) (by omega)
  have fb := S0.out.f1 R HS.out.symm (pv) (by omega)
  obtain ⟨uc, cc⟩ := S0.out.c2 R HS.out.symm (a) (pv) (by omega) (by omega) (eU d[pv]!)
  clear hsz2
  generalize d[a]! = vI at S2 ca cc
  generalize d[pv]! = vJ at S2 cb cc
  replace S2 : Aside (SW eU w0 blk off (swp d (a) (pv)) ((w.setCell ⟨blk, off + a, none⟩ (.int .u64 vJ)).setCell ⟨blk, off + pv, none⟩ (.int .u64 vI)).drew) := S2
  replace ca : w.cell? ⟨blk, off + a, none⟩ = some (.int .u64 vI) := ca
  replace cb : w.cell? ⟨blk, off + pv, none⟩ = some (.int .u64 vJ) := cb
  replace cc : (w.setCell ⟨blk, off + a, none⟩ (.int .u64 vJ)).cell? ⟨blk, off + pv, none⟩ = some uc := cc
  clear S0
  go_wp2_with fail
  go_big_region
  clear ca cb fa fb cc bI bJ
  generalize ((w.setCell ⟨blk, off + a, none⟩ (.int .u64 vJ)).setCell ⟨blk, off + pv, none⟩ (.int .u64 vI)).drew = w2 at S2 ⊢
  clear HD
  go_wp2_with fail
  go_loopg [9, 10] b (fun kx s9 s10 wr => ∃ (i j : Nat) (dk : Array Int), s9 = .int .i64 i ∧ s10 = .int .i64 j ∧ i ≤ j + 1 ∧ a + 1 ≤ i ∧ j < b ∧ j ≤ kx ∧ Aside (SW eU w0 blk off dk wr) ∧ Hid (PInv (lowE v) a b i j v d dk))
  case atStart => exact ⟨a + 1, b - 1, swp d a pv, by go_num, by rw [Int.ofNat_sub (by omega)]; rfl, by omega, by omega, by omega, by omega, S2, HP0⟩
  case round =>
    clear S2 HP0
    obtain ⟨i0, j0, dk, rfl, rfl, hij0, hi0, hj0, hkx0, S1, PV⟩ := hrel
    have HD : Hid (dk.size = d.size) := PV.out.perm.1
    go_upto_block 2 with fail
    go_cut [9] from 29 to 45 (fun sx wx => ∃ i : Nat, sx = .int .i64 i ∧ i ≤ j0 + 1 ∧ a + 1 ≤ i ∧ Aside (SW eU w0 blk off dk wx) ∧ Hid (PInv (lowE v) a b i j0 v d dk) ∧ Hid (i ≤ j0 → lowE v dk[i]! = false))
    case first =>
      go_wp2_with fail
      go_loopg [9] (j0 + 1 - i0) (fun kx sx wx => ∃ i' : Nat, sx = .int .i64 i' ∧ i' ≤ j0 + 1 ∧ a + 1 ≤ i' ∧ j0 + 1 - i' ≤ kx ∧ Aside (SW eU w0 blk off dk wx) ∧ Hid (PInv (lowE v) a b i' j0 v d dk))
      case atStart => exact ⟨i0, rfl, by omega, by omega, Nat.le_refl _, S1, PV⟩
      case round =>
        clear S1 PV
        obtain ⟨i', rfl, hi1, hi2, hkx, S1, PV⟩ := hrel
        by_cases hij : i' ≤ j0
        · have hz : (i' : Int) ≤ (j0 : Int) := by omega
          have hsz2 := HD.out
          obtain ⟨x, hx⟩ : ∃ x, dk[i']! = x := ⟨_, rfl⟩
          have cx := S1.out.c1 R (by rw [HD.out]; exact HS.out.symm) (i') (by omega)
          rw [hx] at cx
          have cv := S1.out.c1 R (by rw [HD.out]; exact HS.out.symm) a (by omega)
          rw [PV.out.v] at cv
          replace cx : wr.cell? ⟨blk, off + i', none⟩ = some (.int .u64 x) := cx
          replace cv : wr.cell? ⟨blk, off + a, none⟩ = some (.int .u64 v) := cv
          have bx : (i' : Int) < (d.size : Int) := by omega
          have bv : (a : Int) < (d.size : Int) := by omega
          have EX := Lib.hid hx
          clear hx hsz2
          cases hl : ltInt v x with
          | true =>
              have HLx : Hid (lowE v dk[i']! = false) := by
                show _ = _
                rw [EX.out]; unfold lowE; rw [hl]; rfl
              go_wp2_with fail
              go_quiet ((go_at_call 79; with_reducible exact Calls.quiet_of_same (HL.out _ _ _)))
              have S2 : Aside (SW eU w0 blk off dk (wr.drewN nq)) := S1.out.drewN nq
              clear cx cv bx bv S1
              generalize wr.drewN nq = wq at S2 ⊢
              go_wp2
              go_meet
              case rel => exact ⟨i', rfl, by omega, by omega, S2, PV, Lib.hid (fun _ => HLx.out)⟩
          | false =>
              have HLx : Hid (lowE v dk[i']! = true) := by
                show _ = _
                rw [EX.out]; unfold lowE; rw [hl]; rfl
              go_wp2_with fail
              go_quiet ((go_at_call 79; with_reducible exact Calls.quiet_of_same (HL.out _ _ _)))
              have S2 : Aside (SW eU w0 blk off dk (wr.drewN nq)) := S1.out.drewN nq
              clear cx cv bx bv S1
              generalize wr.drewN nq = wq at S2 ⊢
              have HN : Hid (PInv (lowE v) a b (i' + 1) j0 v d dk) := Lib.hid (PV.out.up hij HLx.out)
              clear PV
              go_wp2
              go_roundg (j0 + 1 - (i' + 1))
              case measure => omega
              case rel => exact ⟨i' + 1, by go_num, by omega, by omega, Nat.le_refl _, S2, HN⟩
        · have hz : ¬ (i' : Int) ≤ (j0 : Int) := by omega
          have hzd : decide ((i' : Int) ≤ (j0 : Int)) = false := decide_eq_false hz
          go_wp2_with fail
          go_quiet ((go_at_call 79; with_reducible exact Calls.quiet_of_same (HL.out _ _ _)))
          have S2 : Aside (SW eU w0 blk off dk (wr.drewN nq)) := S1.out.drewN nq
          clear S1
          generalize wr.drewN nq = wq at S2 ⊢
          go_wp2
          go_meet
          case rel => exact ⟨i', rfl, by omega, by omega, S2, PV, Lib.hid (fun h => absurd h hij)⟩
    case rest =>
    obtain ⟨i, rfl, hij1, hi1, S3, PV, NI⟩ := hcut
    go_upto_block 4 with fail
    go_cut [10] from 46 to 61 (fun sx wx => ∃ j : Nat, sx = .int .i64 j ∧ i ≤ j + 1 ∧ j < b ∧ j ≤ j0 ∧ Aside (SW eU w0 blk off dk wx) ∧ Hid (PInv (lowE v) a b i j v d dk) ∧ Hid (i ≤ j → lowE v dk[j]! = true))
    case first =>
      go_wp2_with fail
      go_loopg [10] j0 (fun kx sx wx => ∃ j' : Nat, sx = .int .i64 j' ∧ i ≤ j' + 1 ∧ j' < b ∧ j' ≤ j0 ∧ j' ≤ kx ∧ Aside (SW eU w0 blk off dk wx) ∧ Hid (PInv (lowE v) a b i j' v d dk))
      case atStart => exact ⟨j0, rfl, by omega, by omega, Nat.le_refl _, Nat.le_refl _, S3, PV⟩
      case round =>
        clear S3 PV
        obtain ⟨j', rfl, hj1, hj2, hj3, hkx, S1, PV⟩ := hrel
        by_cases hij : i ≤ j'
        · have hz : (i : Int) ≤ (j' : Int) := by omega
          have hsz2 := HD.out
          obtain ⟨x, hx⟩ : ∃ x, dk[j']! = x := ⟨_, rfl⟩
          have cx := S1.out.c1 R (by rw [HD.out]; exact HS.out.symm) (j') (by omega)
          rw [hx] at cx
          have cv := S1.out.c1 R (by rw [HD.out]; exact HS.out.symm) a (by omega)
          rw [PV.out.v] at cv
          replace cx : wr.cell? ⟨blk, off + j', none⟩ = some (.int .u64 x) := cx
          replace cv : wr.cell? ⟨blk, off + a, none⟩ = some (.int .u64 v) := cv
          have bx : (j' : Int) < (d.size : Int) := by omega
          have bv : (a : Int) < (d.size : Int) := by omega
          have EX := Lib.hid hx
          clear hx hsz2
          cases hl : ltInt v x with
          | true =>
              have HLx : Hid (lowE v dk[j']! = false) := by
                show _ = _
                rw [EX.out]; unfold lowE; rw [hl]; rfl
              go_wp2_with fail
              go_quiet ((go_at_call 79; with_reducible exact Calls.quiet_of_same (HL.out _ _ _)))
              have S2 : Aside (SW eU w0 blk off dk (wr.drewN nq)) := S1.out.drewN nq
              clear cx cv bx bv S1
              generalize wr.drewN nq = wq at S2 ⊢
              obtain ⟨j2, rfl⟩ : ∃ j2, j' = j2 + 1 := ⟨j' - 1, by omega⟩
              have HN : Hid (PInv (lowE v) a b i j2 v d dk) := Lib.hid (PV.out.down hij HLx.out)
              clear PV
              go_wp2
              go_roundg (j2)
              case measure => omega
              case rel => exact ⟨j2, by go_num, by omega, by omega, by omega, Nat.le_refl _, S2, HN⟩
          | false =>
              have HLx : Hid (lowE v dk[j']! = true) := by
                show _ = _
                rw [EX.out]; unfold lowE; rw [hl]; rfl
              go_wp2_with fail
              go_quiet ((go_at_call 79; with_reducible exact Calls.quiet_of_same (HL.out _ _ _)))
              have S2 : Aside (SW eU w0 blk off dk (wr.drewN nq)) := S1.out.drewN nq
              clear cx cv bx bv S1
              generalize wr.drewN nq = wq at S2 ⊢
              go_wp2
              go_meet
              case rel => exact ⟨j', rfl, by omega, by omega, hj3, S2, PV, Lib.hid (fun _ => HLx.out)⟩
        · have hz : ¬ (i : Int) ≤ (j' : Int) := by omega
          have hzd : decide ((i : Int) ≤ (j' : Int)) = false := decide_eq_false hz
          go_wp2_with fail
          go_quiet ((go_at_call 79; with_reducible exact Calls.quiet_of_same (HL.out _ _ _)))
          have S2 : Aside (SW eU w0 blk off dk (wr.drewN nq)) := S1.out.drewN nq
          clear S1
          generalize wr.drewN nq = wq at S2 ⊢
          go_wp2
          go_meet
          case rel => exact ⟨j', rfl, by omega, by omega, hj3, S2, PV, Lib.hid (fun h => absurd h hij)⟩
    case rest =>
    obtain ⟨j, rfl, hij2, hj2, hj3, S4, PV, NJ⟩ := hcut
    by_cases hgt : j < i
    · have hz : (j : Int) < (i : Int) := by omega
      have HF := Lib.hid (peq_of PV.out hgt)
      clear PV NI NJ
      go_wp2_with fail
      go_ret
      exact ⟨i, rfl, dk, S4.out, HF.out⟩
    · have hz : ¬ (j : Int) < (i : Int) := by omega
      obtain ⟨hlt, PN0⟩ := PV.out.swapj (by omega) (NI.out (by omega)) (NJ.out (by omega)) hb
      have PN := Lib.hid PN0
      clear PN0 PV NI NJ
      go_wp2_with fail
      have hsz2 := HD.out
      have bI : (i : Int) < (d.size : Int) := by omega
      have bJ : (j : Int) < (d.size : Int) := by omega
      have S2 := S4.out.swapped R (i) (j) (by omega) (by omega)
      have ca := S4.out.c1 R (by rw [HD.out]; exact HS.out.symm) (i) (by omega)
      have cb := S4.out.c1 R (by rw [HD.out]; exact HS.out.symm) (j) (by omega)
      have fa := S4.out.f1 R (by rw [HD.out]; exact HS.out.symm) (i) (by omega)
      have fb := S4.out.f1 R (by rw [HD.out]; exact HS.out.symm) (j) (by omega)
      obtain ⟨uc, cc⟩ := S4.out.c2 R (by rw [HD.out]; exact HS.out.symm) (i) (j) (by omega) (by omega) (eU dk[j]!)
      clear hsz2
      generalize dk[i]! = vI at S2 ca cc
      generalize dk[j]! = vJ at S2 cb cc
      replace S2 : Aside (SW eU w0 blk off (swp dk (i) (j)) ((wc.setCell ⟨blk, off + i, none⟩ (.int .u64 vJ)).setCell ⟨blk, off + j, none⟩ (.int .u64 vI)).drew) := S2
      replace ca : wc.cell? ⟨blk, off + i, none⟩ = some (.int .u64 vI) := ca
      replace cb : wc.cell? ⟨blk, off + j, none⟩ = some (.int .u64 vJ) := cb
      replace cc : (wc.setCell ⟨blk, off + i, none⟩ (.int .u64 vJ)).cell? ⟨blk, off + j, none⟩ = some uc := cc
      clear S4
      go_wp2_with fail
      go_big_region
      clear ca cb fa fb cc bI bJ
      generalize ((wc.setCell ⟨blk, off + i, none⟩ (.int .u64 vJ)).setCell ⟨blk, off + j, none⟩ (.int .u64 vI)).drew = w2 at S2 ⊢
      go_wp2_with fail
      go_roundg (j - 1)
      case measure => omega
      case rel => exact ⟨i + 1, j - 1, swp dk i j, by go_num, by rw [Int.ofNat_sub (by omega)]; rfl, by omega, by omega, by omega, Nat.le_refl _, S2, PN⟩

set_option maxHeartbeats 4000000 in
set_option maxRecDepth 1000000 in
theorem part_c (blk off cap : Nat) (a b pv : Nat) (za zb zp : Int) (hza : za = a) (hzb : zb = b) (hzp : zp = pv) (d0 d : Array Int) (w0 w : World) (n : Nat) (hn : n = d.size) (R : Row1 eU w0 blk off d0) (hs : d0.size = d.size) (S : SW eU w0 blk off d w) (hsz : d.size < 4611686018427387904) (h1 : a ≤ pv) (h2 : pv < b) (hb : b ≤ d.size) :
    Calls Try.prog 81 #[.slice (some ⟨blk, off, none⟩) n cap, .int .i64 za, .int .i64 zb, .int .i64 zp] w fun e w' => ∃ (m : Nat) (t : Bool), e = .returned (.tuple #[.int .i64 m, .bool t]) ∧ ∃ d', SW eU w0 blk off d' w' ∧ PPart a b m d d' := by
  subst hn hza hzb hzp
  obtain ⟨v, hv⟩ : ∃ v, d[pv]! = v := ⟨_, rfl⟩
  have P0 := PInv.start (lowP v) h1 h2 hb
  rw [hv] at P0
  have HP0 := Lib.hid P0
  have HD : Hid (d.size ≤ d.size) := Nat.le_refl _
  clear P0 hv
  have mixed : Try.prog.follows .mixedOrders = true := by kernel_rfl
  have S0 : Aside (SW eU w0 blk off d w) := S
  have HS := Lib.hid hs
  have HL := Lib.hid lessU_c
  clear S hs
  go_enter Try.func81, Try.ntmps81
  go_wp2_with fail
  have hsz2 := HD.out
  have bI : (a : Int) < (d.size : Int) := by omega
  have bJ : (pv : Int) < (d.size : Int) := by omega
  have S2 := S0.out.swapped R (a) (pv) (by omega) (by omega)
  have ca := S0.out.c1 R HS.out.symm (a) (by omega)
  have cb := S0.out.c1 R HS.out.symm (pv) (by omega)
  have fa := S0.out.f1 R HS.out.symm (a) (by omega)
  have fb := S0.out.f1 R HS.out.symm (pv) (by omega)
  obtain ⟨uc, cc⟩ := S0.out.c2 R HS.out.symm (a) (pv) (by omega) (by omega) (eU d[pv]!)
  clear hsz2
  generalize d[a]! = vI at S2 ca cc
  generalize d[pv]! = vJ at S2 cb cc
  replace S2 : Aside (SW eU w0 blk off (swp d (a) (pv)) ((w.setCell ⟨blk, off + a, none⟩ (.int .u64 vJ)).setCell ⟨blk, off + pv, none⟩ (.int .u64 vI)).drew) := S2
  replace ca : w.cell? ⟨blk, off + a, none⟩ = some (.int .u64 vI) := ca
  replace cb : w.cell? ⟨blk, off + pv, none⟩ = some (.int .u64 vJ) := cb
  replace cc : (w.setCell ⟨blk, off + a, none⟩ (.int .u64 vJ)).cell? ⟨blk, off + pv, none⟩ = some uc := cc
  clear S0
  go_wp2_with fail
  go_big_region
  clear ca cb fa fb cc bI bJ
  generalize ((w.setCell ⟨blk, off + a, none⟩ (.int .u64 vJ)).setCell ⟨blk, off + pv, none⟩ (.int .u64 vI)).drew = w2 at S2 ⊢
  clear HD
  obtain ⟨dk, hdk⟩ : ∃ x, x = swp d a pv := ⟨_, rfl⟩
  rw [← hdk] at S2 HP0
  clear hdk
  have PV := HP0
  have HD : Hid (dk.size = d.size) := PV.out.perm.1
  clear HP0
  obtain ⟨i0, hi0e⟩ : ∃ x, x = a + 1 := ⟨_, rfl⟩
  obtain ⟨j0, hj0e⟩ : ∃ x, x = b - 1 := ⟨_, rfl⟩
  have z1 : (a : Int) + 1 = (i0 : Int) := by omega
  have z2 : (b : Int) - 1 = (j0 : Int) := by omega
  rw [← hi0e, ← hj0e] at PV
  have hij0 : i0 ≤ j0 + 1 := by omega
  have hi0 : a + 1 ≤ i0 := by omega
  have hj0 : j0 < b := by omega
  have hj0' : b ≤ j0 + 1 := by omega
  clear hi0e hj0e
  go_upto_block 0 with fail
  go_cut [10]  (fun sx wx => ∃ i : Nat, sx = .int .i64 i ∧ i ≤ j0 + 1 ∧ a + 1 ≤ i ∧ Aside (SW eU w0 blk off dk wx) ∧ Hid (PInv (lowP v) a b i j0 v d dk) ∧ Hid (i ≤ j0 → lowP v dk[i]! = false))
  case first =>
    go_wp2_with fail
    go_loopg [10] (j0 + 1 - i0) (fun kx sx wx => ∃ i' : Nat, sx = .int .i64 i' ∧ i' ≤ j0 + 1 ∧ a + 1 ≤ i' ∧ j0 + 1 - i' ≤ kx ∧ Aside (SW eU w0 blk off dk wx) ∧ Hid (PInv (lowP v) a b i' j0 v d dk))
    case atStart => exact ⟨i0, rfl, by omega, by omega, Nat.le_refl _, S2, PV⟩
    case round =>
      clear S2 PV
      obtain ⟨i', rfl, hi1, hi2, hkx, S1, PV⟩ := hrel
      by_cases hij : i' ≤ j0
      · have hz : (i' : Int) ≤ (j0 : Int) := by omega
        have hsz2 := HD.out
        obtain ⟨x, hx⟩ : ∃ x, dk[i']! = x := ⟨_, rfl⟩
        have cx := S1.out.c1 R (by rw [HD.out]; exact HS.out.symm) (i') (by omega)
        rw [hx] at cx
        have cv := S1.out.c1 R (by rw [HD.out]; exact HS.out.symm) a (by omega)
        rw [PV.out.v] at cv
        replace cx : wr.cell? ⟨blk, off + i', none⟩ = some (.int .u64 x) := cx
        replace cv : wr.cell? ⟨blk, off + a, none⟩ = some (.int .u64 v) := cv
        have bx : (i' : Int) < (d.size : Int) := by omega
        have bv : (a : Int) < (d.size : Int) := by omega
        have EX := Lib.hid hx
        clear hx hsz2
        cases hl : ltInt x v with
        | true =>
            have HLx : Hid (lowP v dk[i']! = true) := by
              show _ = _
              rw [EX.out]; unfold lowP; rw [hl]
            go_wp2_with fail
            go_quiet ((go_at_call 79; with_reducible exact Calls.quiet_of_same (HL.out _ _ _)))
            have S2 : Aside (SW eU w0 blk off dk (wr.drewN nq)) := S1.out.drewN nq
            clear cx cv bx bv S1
            generalize wr.drewN nq = wq at S2 ⊢
            have HN : Hid (PInv (lowP v) a b (i' + 1) j0 v d dk) := Lib.hid (PV.out.up hij HLx.out)
            clear PV
            go_wp2
            go_roundg (j0 + 1 - (i' + 1))
            case measure => omega
            case rel => exact ⟨i' + 1, by go_num, by omega, by omega, Nat.le_refl _, S2, HN⟩
        | false =>
            have HLx : Hid (lowP v dk[i']! = false) := by
              show _ = _
              rw [EX.out]; unfold lowP; rw [hl]
            go_wp2_with fail
            go_quiet ((go_at_call 79; with_reducible exact Calls.quiet_of_same (HL.out _ _ _)))
            have S2 : Aside (SW eU w0 blk off dk (wr.drewN nq)) := S1.out.drewN nq
            clear cx cv bx bv S1
            generalize wr.drewN nq = wq at S2 ⊢
            go_wp2
            go_meet
            case rel => exact ⟨i', rfl, by omega, by omega, S2, PV, Lib.hid (fun _ => HLx.out)⟩
      · have hz : ¬ (i' : Int) ≤ (j0 : Int) := by omega
        have hzd : decide ((i' : Int) ≤ (j0 : Int)) = false := decide_eq_false hz
        go_wp2_with fail
        go_quiet ((go_at_call 79; with_reducible exact Calls.quiet_of_same (HL.out _ _ _)))
        have S2 : Aside (SW eU w0 blk off dk (wr.drewN nq)) := S1.out.drewN nq
        clear S1
        generalize wr.drewN nq = wq at S2 ⊢
        go_wp2
        go_meet
        case rel => exact ⟨i', rfl, by omega, by omega, S2, PV, Lib.hid (fun h => absurd h hij)⟩
  case rest =>
  obtain ⟨i, rfl, hij1, hi1, S3, PV, NI⟩ := hcut
  go_upto_block 2 with fail
  go_cut [11]  (fun sx wx => ∃ j : Nat, sx = .int .i64 j ∧ i ≤ j + 1 ∧ j < b ∧ j ≤ j0 ∧ Aside (SW eU w0 blk off dk wx) ∧ Hid (PInv (lowP v) a b i j v d dk) ∧ Hid (i ≤ j → lowP v dk[j]! = true))
  case first =>
    go_wp2_with fail
    go_loopg [11] j0 (fun kx sx wx => ∃ j' : Nat, sx = .int .i64 j' ∧ i ≤ j' + 1 ∧ j' < b ∧ j' ≤ j0 ∧ j' ≤ kx ∧ Aside (SW eU w0 blk off dk wx) ∧ Hid (PInv (lowP v) a b i j' v d dk))
    case atStart => exact ⟨j0, rfl, by omega, by omega, Nat.le_refl _, Nat.le_refl _, S3, PV⟩
    case round =>
      clear S3 PV
      obtain ⟨j', rfl, hj1, hj2, hj3, hkx, S1, PV⟩ := hrel
      by_cases hij : i ≤ j'
      · have hz : (i : Int) ≤ (j' : Int) := by omega
        have hsz2 := HD.out
        obtain ⟨x, hx⟩ : ∃ x, dk[j']! = x := ⟨_, rfl⟩
        have cx := S1.out.c1 R (by rw [HD.out]; exact HS.out.symm) (j') (by omega)
        rw [hx] at cx
        have cv := S1.out.c1 R (by rw [HD.out]; exact HS.out.symm) a (by omega)
        rw [PV.out.v] at cv
        replace cx : wr.cell? ⟨blk, off + j', none⟩ = some (.int .u64 x) := cx
        replace cv : wr.cell? ⟨blk, off + a, none⟩ = some (.int .u64 v) := cv
        have bx : (j' : Int) < (d.size : Int) := by omega
        have bv : (a : Int) < (d.size : Int) := by omega
        have EX := Lib.hid hx
        clear hx hsz2
        cases hl : ltInt x v with
        | true =>
            have HLx : Hid (lowP v dk[j']! = true) := by
              show _ = _
              rw [EX.out]; unfold lowP; rw [hl]
            go_wp2_with fail
            go_quiet ((go_at_call 79; with_reducible exact Calls.quiet_of_same (HL.out _ _ _)))
            have S2 : Aside (SW eU w0 blk off dk (wr.drewN nq)) := S1.out.drewN nq
            clear cx cv bx bv S1
            generalize wr.drewN nq = wq at S2 ⊢
            go_wp2
            go_meet
            case rel => exact ⟨j', rfl, by omega, by omega, hj3, S2, PV, Lib.hid (fun _ => HLx.out)⟩
        | false =>
            have HLx : Hid (lowP v dk[j']! = false) := by
              show _ = _
              rw [EX.out]; unfold lowP; rw [hl]
            go_wp2_with fail
            go_quiet ((go_at_call 79; with_reducible exact Calls.quiet_of_same (HL.out _ _ _)))
            have S2 : Aside (SW eU w0 blk off dk (wr.drewN nq)) := S1.out.drewN nq
            clear cx cv bx bv S1
            generalize wr.drewN nq = wq at S2 ⊢
            obtain ⟨j2, rfl⟩ : ∃ j2, j' = j2 + 1 := ⟨j' - 1, by omega⟩
            have HN : Hid (PInv (lowP v) a b i j2 v d dk) := Lib.hid (PV.out.down hij HLx.out)
            clear PV
            go_wp2
            go_roundg (j2)
            case measure => omega
            case rel => exact ⟨j2, by go_num, by omega, by omega, by omega, Nat.le_refl _, S2, HN⟩
      · have hz : ¬ (i : Int) ≤ (j' : Int) := by omega
        have hzd : decide ((i : Int) ≤ (j' : Int)) = false := decide_eq_false hz
        go_wp2_with fail
        go_quiet ((go_at_call 79; with_reducible exact Calls.quiet_of_same (HL.out _ _ _)))
        have S2 : Aside (SW eU w0 blk off dk (wr.drewN nq)) := S1.out.drewN nq
        clear S1
        generalize wr.drewN nq = wq at S2 ⊢
        go_wp2
        go_meet
        case rel => exact ⟨j', rfl, by omega, by omega, hj3, S2, PV, Lib.hid (fun h => absurd h hij)⟩
  case rest =>
  obtain ⟨j, rfl, hij2, hj2, hj3, S4, PV, NJ⟩ := hcut
  by_cases hgt : j < i
  · have hz : (j : Int) < (i : Int) := by omega
    have HF := Lib.hid (ppart_of PV.out hgt hb)
    have hja : a ≤ j := by have := PV.out.i1; omega
    clear PV NI NJ
    go_wp2_with fail
    have hsz2 := HD.out
    have bI : (j : Int) < (d.size : Int) := by omega
    have bJ : (a : Int) < (d.size : Int) := by omega
    have S2 := S4.out.swapped R (j) (a) (by omega) (by omega)
    have ca := S4.out.c1 R (by rw [HD.out]; exact HS.out.symm) (j) (by omega)
    have cb := S4.out.c1 R (by rw [HD.out]; exact HS.out.symm) (a) (by omega)
    have fa := S4.out.f1 R (by rw [HD.out]; exact HS.out.symm) (j) (by omega)
    have fb := S4.out.f1 R (by rw [HD.out]; exact HS.out.symm) (a) (by omega)
    obtain ⟨uc, cc⟩ := S4.out.c2 R (by rw [HD.out]; exact HS.out.symm) (j) (a) (by omega) (by omega) (eU dk[a]!)
    clear hsz2
    generalize dk[j]! = vI at S2 ca cc
    generalize dk[a]! = vJ at S2 cb cc
    replace S2 : Aside (SW eU w0 blk off (swp dk (j) (a)) ((wc.setCell ⟨blk, off + j, none⟩ (.int .u64 vJ)).setCell ⟨blk, off + a, none⟩ (.int .u64 vI)).drew) := S2
    replace ca : wc.cell? ⟨blk, off + j, none⟩ = some (.int .u64 vI) := ca
    replace cb : wc.cell? ⟨blk, off + a, none⟩ = some (.int .u64 vJ) := cb
    replace cc : (wc.setCell ⟨blk, off + j, none⟩ (.int .u64 vJ)).cell? ⟨blk, off + a, none⟩ = some uc := cc
    clear S4
    go_wp2_with fail
    go_big_region
    clear ca cb fa fb cc bI bJ
    generalize ((wc.setCell ⟨blk, off + j, none⟩ (.int .u64 vJ)).setCell ⟨blk, off + a, none⟩ (.int .u64 vI)).drew = w2 at S2 ⊢
    go_wp2_with fail
    go_ret2
    exact ⟨j, true, rfl, _, S2, HF.out⟩
  · have hz : ¬ (j : Int) < (i : Int) := by omega
    obtain ⟨hlt, PN0⟩ := PV.out.swapj (by omega) (NI.out (by omega)) (NJ.out (by omega)) hb
    have PN := Lib.hid PN0
    clear PN0 PV NI NJ
    go_wp2_with fail
    have hsz2 := HD.out
    have bI : (i : Int) < (d.size : Int) := by omega
    have bJ : (j : Int) < (d.size : Int) := by omega
    have S2 := S4.out.swapped R (i) (j) (by omega) (by omega)
    have ca := S4.out.c1 R (by rw [HD.out]; exact HS.out.symm) (i) (by omega)
    have cb := S4.out.c1 R (by rw [HD.out]; exact HS.out.symm) (j) (by omega)
    have fa := S4.out.f1 R (by rw [HD.out]; exact HS.out.symm) (i) (by omega)
    have fb := S4.out.f1 R (by rw [HD.out]; exact HS.out.symm) (j) (by omega)
    obtain ⟨uc, cc⟩ := S4.out.c2 R (by rw [HD.out]; exact HS.out.symm) (i) (j) (by omega) (by omega) (eU dk[j]!)
    clear hsz2
    generalize dk[i]! = vI at S2 ca cc
    generalize dk[j]! = vJ at S2 cb cc
    replace S2 : Aside (SW eU w0 blk off (swp dk (i) (j)) ((wc.setCell ⟨blk, off + i, none⟩ (.int .u64 vJ)).setCell ⟨blk, off + j, none⟩ (.int .u64 vI)).drew) := S2
    replace ca : wc.cell? ⟨blk, off + i, none⟩ = some (.int .u64 vI) := ca
    replace cb : wc.cell? ⟨blk, off + j, none⟩ = some (.int .u64 vJ) := cb
    replace cc : (wc.setCell ⟨blk, off + i, none⟩ (.int .u64 vJ)).cell? ⟨blk, off + j, none⟩ = some uc := cc
    clear S4
    go_wp2_with fail
    go_big_region
    clear ca cb fa fb cc bI bJ
    generalize ((wc.setCell ⟨blk, off + i, none⟩ (.int .u64 vJ)).setCell ⟨blk, off + j, none⟩ (.int .u64 vI)).drew = w2 at S2 ⊢
    clear HD
    go_wp2_with fail
    go_loopg [10, 11] b (fun kx s10 s11 wr => ∃ (i j : Nat) (dk : Array Int), s10 = .int .i64 i ∧ s11 = .int .i64 j ∧ i ≤ j + 1 ∧ a + 1 ≤ i ∧ j < b ∧ j ≤ kx ∧ Aside (SW eU w0 blk off dk wr) ∧ Hid (PInv (lowP v) a b i j v d dk))
    case atStart => exact ⟨i + 1, j - 1, swp dk i j, by go_num, by rw [Int.ofNat_sub (by omega)]; rfl, by omega, by omega, by omega, by omega, S2, PN⟩
    case round =>
      clear S2 PN hlt hz hgt hij2 hj2 hj3 hij1 hi1 hij0 hi0 hj0 hj0' z1 z2
      obtain ⟨i0, j0, dk, rfl, rfl, hij0, hi0, hj0, hkx0, S1, PV⟩ := hrel
      have HD : Hid (dk.size = d.size) := PV.out.perm.1
      go_upto_block 6 with fail
      go_cut [10] from 99 to 114 (fun sx wx => ∃ i : Nat, sx = .int .i64 i ∧ i ≤ j0 + 1 ∧ a + 1 ≤ i ∧ Aside (SW eU w0 blk off dk wx) ∧ Hid (PInv (lowP v) a b i j0 v d dk) ∧ Hid (i ≤ j0 → lowP v dk[i]! = false))
      case first =>
        go_wp2_with fail
        go_loopg [10] (j0 + 1 - i0) (fun kx sx wx => ∃ i' : Nat, sx = .int .i64 i' ∧ i' ≤ j0 + 1 ∧ a + 1 ≤ i' ∧ j0 + 1 - i' ≤ kx ∧ Aside (SW eU w0 blk off dk wx) ∧ Hid (PInv (lowP v) a b i' j0 v d dk))
        case atStart => exact ⟨i0, rfl, by omega, by omega, Nat.le_refl _, S1, PV⟩
        case round =>
          clear S1 PV
          obtain ⟨i', rfl, hi1, hi2, hkx, S1, PV⟩ := hrel
          by_cases hij : i' ≤ j0
          · have hz : (i' : Int) ≤ (j0 : Int) := by omega
            have hsz2 := HD.out
            obtain ⟨x, hx⟩ : ∃ x, dk[i']! = x := ⟨_, rfl⟩
            have cx := S1.out.c1 R (by rw [HD.out]; exact HS.out.symm) (i') (by omega)
            rw [hx] at cx
            have cv := S1.out.c1 R (by rw [HD.out]; exact HS.out.symm) a (by omega)
            rw [PV.out.v] at cv
            replace cx : wr.cell? ⟨blk, off + i', none⟩ = some (.int .u64 x) := cx
            replace cv : wr.cell? ⟨blk, off + a, none⟩ = some (.int .u64 v) := cv
            have bx : (i' : Int) < (d.size : Int) := by omega
            have bv : (a : Int) < (d.size : Int) := by omega
            have EX := Lib.hid hx
            clear hx hsz2
            cases hl : ltInt x v with
            | true =>
                have HLx : Hid (lowP v dk[i']! = true) := by
                  show _ = _
                  rw [EX.out]; unfold lowP; rw [hl]
                go_wp2_with fail
                go_quiet ((go_at_call 79; with_reducible exact Calls.quiet_of_same (HL.out _ _ _)))
                have S2 : Aside (SW eU w0 blk off dk (wr.drewN nq)) := S1.out.drewN nq
                clear cx cv bx bv S1
                generalize wr.drewN nq = wq at S2 ⊢
                have HN : Hid (PInv (lowP v) a b (i' + 1) j0 v d dk) := Lib.hid (PV.out.up hij HLx.out)
                clear PV
                go_wp2
                go_roundg (j0 + 1 - (i' + 1))
                case measure => omega
                case rel => exact ⟨i' + 1, by go_num, by omega, by omega, Nat.le_refl _, S2, HN⟩
            | false =>
                have HLx : Hid (lowP v dk[i']! = false) := by
                  show _ = _
                  rw [EX.out]; unfold lowP; rw [hl]
                go_wp2_with fail
                go_quiet ((go_at_call 79; with_reducible exact Calls.quiet_of_same (HL.out _ _ _)))
                have S2 : Aside (SW eU w0 blk off dk (wr.drewN nq)) := S1.out.drewN nq
                clear cx cv bx bv S1
                generalize wr.drewN nq = wq at S2 ⊢
                go_wp2
                go_meet
                case rel => exact ⟨i', rfl, by omega, by omega, S2, PV, Lib.hid (fun _ => HLx.out)⟩
          · have hz : ¬ (i' : Int) ≤ (j0 : Int) := by omega
            have hzd : decide ((i' : Int) ≤ (j0 : Int)) = false := decide_eq_false hz
            go_wp2_with fail
            go_quiet ((go_at_call 79; with_reducible exact Calls.quiet_of_same (HL.out _ _ _)))
            have S2 : Aside (SW eU w0 blk off dk (wr.drewN nq)) := S1.out.drewN nq
            clear S1
            generalize wr.drewN nq = wq at S2 ⊢
            go_wp2
            go_meet
            case rel => exact ⟨i', rfl, by omega, by omega, S2, PV, Lib.hid (fun h => absurd h hij)⟩
      case rest =>
      obtain ⟨i, rfl, hij1, hi1, S3, PV, NI⟩ := hcut
      go_upto_block 8 with fail
      go_cut [11] from 115 to 131 (fun sx wx => ∃ j : Nat, sx = .int .i64 j ∧ i ≤ j + 1 ∧ j < b ∧ j ≤ j0 ∧ Aside (SW eU w0 blk off dk wx) ∧ Hid (PInv (lowP v) a b i j v d dk) ∧ Hid (i ≤ j → lowP v dk[j]! = true))
      case first =>
        go_wp2_with fail
        go_loopg [11] j0 (fun kx sx wx => ∃ j' : Nat, sx = .int .i64 j' ∧ i ≤ j' + 1 ∧ j' < b ∧ j' ≤ j0 ∧ j' ≤ kx ∧ Aside (SW eU w0 blk off dk wx) ∧ Hid (PInv (lowP v) a b i j' v d dk))
        case atStart => exact ⟨j0, rfl, by omega, by omega, Nat.le_refl _, Nat.le_refl _, S3, PV⟩
        case round =>
          clear S3 PV
          obtain ⟨j', rfl, hj1, hj2, hj3, hkx, S1, PV⟩ := hrel
          by_cases hij : i ≤ j'
          · have hz : (i : Int) ≤ (j' : Int) := by omega
            have hsz2 := HD.out
            obtain ⟨x, hx⟩ : ∃ x, dk[j']! = x := ⟨_, rfl⟩
            have cx := S1.out.c1 R (by rw [HD.out]; exact HS.out.symm) (j') (by omega)
            rw [hx] at cx
            have cv := S1.out.c1 R (by rw [HD.out]; exact HS.out.symm) a (by omega)
            rw [PV.out.v] at cv
            replace cx : wr.cell? ⟨blk, off + j', none⟩ = some (.int .u64 x) := cx
            replace cv : wr.cell? ⟨blk, off + a, none⟩ = some (.int .u64 v) := cv
            have bx : (j' : Int) < (d.size : Int) := by omega
            have bv : (a : Int) < (d.size : Int) := by omega
            have EX := Lib.hid hx
            clear hx hsz2
            cases hl : ltInt x v with
            | true =>
                have HLx : Hid (lowP v dk[j']! = true) := by
                  show _ = _
                  rw [EX.out]; unfold lowP; rw [hl]
                go_wp2_with fail
                go_quiet ((go_at_call 79; with_reducible exact Calls.quiet_of_same (HL.out _ _ _)))
                have S2 : Aside (SW eU w0 blk off dk (wr.drewN nq)) := S1.out.drewN nq
                clear cx cv bx bv S1
                generalize wr.drewN nq = wq at S2 ⊢
                go_wp2
                go_meet
                case rel => exact ⟨j', rfl, by omega, by omega, hj3, S2, PV, Lib.hid (fun _ => HLx.out)⟩
            | false =>
                have HLx : Hid (lowP v dk[j']! = false) := by
                  show _ = _
                  rw [EX.out]; unfold lowP; rw [hl]
                go_wp2_with fail
                go_quiet ((go_at_call 79; with_reducible exact Calls.quiet_of_same (HL.out _ _ _)))
                have S2 : Aside (SW eU w0 blk off dk (wr.drewN nq)) := S1.out.drewN nq
                clear cx cv bx bv S1
                generalize wr.drewN nq = wq at S2 ⊢
                obtain ⟨j2, rfl⟩ : ∃ j2, j' = j2 + 1 := ⟨j' - 1, by omega⟩
                have HN : Hid (PInv (lowP v) a b i j2 v d dk) := Lib.hid (PV.out.down hij HLx.out)
                clear PV
                go_wp2
                go_roundg (j2)
                case measure => omega
                case rel => exact ⟨j2, by go_num, by omega, by omega, by omega, Nat.le_refl _, S2, HN⟩
          · have hz : ¬ (i : Int) ≤ (j' : Int) := by omega
            have hzd : decide ((i : Int) ≤ (j' : Int)) = false := decide_eq_false hz
            go_wp2_with fail
            go_quiet ((go_at_call 79; with_reducible exact Calls.quiet_of_same (HL.out _ _ _)))
            have S2 : Aside (SW eU w0 blk off dk (wr.drewN nq)) := S1.out.drewN nq
            clear S1
            generalize wr.drewN nq = wq at S2 ⊢
            go_wp2
            go_meet
            case rel => exact ⟨j', rfl, by omega, by omega, hj3, S2, PV, Lib.hid (fun h => absurd h hij)⟩
      case rest =>
      obtain ⟨j, rfl, hij2, hj2, hj3, S4, PV, NJ⟩ := hcut
      by_cases hgt : j < i
      · have hz : (j : Int) < (i : Int) := by omega
        have HF := Lib.hid (ppart_of PV.out hgt hb)
        have hja : a ≤ j := by have := PV.out.i1; omega
        clear PV NI NJ
        go_wp2_with fail
        have hsz2 := HD.out
        have bI : (j : Int) < (d.size : Int) := by omega
        have bJ : (a : Int) < (d.size : Int) := by omega
        have S2 := S4.out.swapped R (j) (a) (by omega) (by omega)
        have ca := S4.out.c1 R (by rw [HD.out]; exact HS.out.symm) (j) (by omega)
        have cb := S4.out.c1 R (by rw [HD.out]; exact HS.out.symm) (a) (by omega)
        have fa := S4.out.f1 R (by rw [HD.out]; exact HS.out.symm) (j) (by omega)
        have fb := S4.out.f1 R (by rw [HD.out]; exact HS.out.symm) (a) (by omega)
        obtain ⟨uc, cc⟩ := S4.out.c2 R (by rw [HD.out]; exact HS.out.symm) (j) (a) (by omega) (by omega) (eU dk[a]!)
        clear hsz2
        generalize dk[j]! = vI at S2 ca cc
        generalize dk[a]! = vJ at S2 cb cc
        replace S2 : Aside (SW eU w0 blk off (swp dk (j) (a)) ((wc.setCell ⟨blk, off + j, none⟩ (.int .u64 vJ)).setCell ⟨blk, off + a, none⟩ (.int .u64 vI)).drew) := S2
        replace ca : wc.cell? ⟨blk, off + j, none⟩ = some (.int .u64 vI) := ca
        replace cb : wc.cell? ⟨blk, off + a, none⟩ = some (.int .u64 vJ) := cb
        replace cc : (wc.setCell ⟨blk, off + j, none⟩ (.int .u64 vJ)).cell? ⟨blk, off + a, none⟩ = some uc := cc
        clear S4
        go_wp2_with fail
        go_big_region
        clear ca cb fa fb cc bI bJ
        generalize ((wc.setCell ⟨blk, off + j, none⟩ (.int .u64 vJ)).setCell ⟨blk, off + a, none⟩ (.int .u64 vI)).drew = w2 at S2 ⊢
        go_wp2_with fail
        go_ret2
        exact ⟨j, false, rfl, _, S2, HF.out⟩
      · have hz : ¬ (j : Int) < (i : Int) := by omega
        obtain ⟨hlt, PN0⟩ := PV.out.swapj (by omega) (NI.out (by omega)) (NJ.out (by omega)) hb
        have PN := Lib.hid PN0
        clear PN0 PV NI NJ
        go_wp2_with fail
        have hsz2 := HD.out
        have bI : (i : Int) < (d.size : Int) := by omega
        have bJ : (j : Int) < (d.size : Int) := by omega
        have S2 := S4.out.swapped R (i) (j) (by omega) (by omega)
        have ca := S4.out.c1 R (by rw [HD.out]; exact HS.out.symm) (i) (by omega)
        have cb := S4.out.c1 R (by rw [HD.out]; exact HS.out.symm) (j) (by omega)
        have fa := S4.out.f1 R (by rw [HD.out]; exact HS.out.symm) (i) (by omega)
        have fb := S4.out.f1 R (by rw [HD.out]; exact HS.out.symm) (j) (by omega)
        obtain ⟨uc, cc⟩ := S4.out.c2 R (by rw [HD.out]; exact HS.out.symm) (i) (j) (by omega) (by omega) (eU dk[j]!)
        clear hsz2
        generalize dk[i]! = vI at S2 ca cc
        generalize dk[j]! = vJ at S2 cb cc
        replace S2 : Aside (SW eU w0 blk off (swp dk (i) (j)) ((wc.setCell ⟨blk, off + i, none⟩ (.int .u64 vJ)).setCell ⟨blk, off + j, none⟩ (.int .u64 vI)).drew) := S2
        replace ca : wc.cell? ⟨blk, off + i, none⟩ = some (.int .u64 vI) := ca
        replace cb : wc.cell? ⟨blk, off + j, none⟩ = some (.int .u64 vJ) := cb
        replace cc : (wc.setCell ⟨blk, off + i, none⟩ (.int .u64 vJ)).cell? ⟨blk, off + j, none⟩ = some uc := cc
        clear S4
        go_wp2_with fail
        go_big_region
        clear ca cb fa fb cc bI bJ
        generalize ((wc.setCell ⟨blk, off + i, none⟩ (.int .u64 vJ)).setCell ⟨blk, off + j, none⟩ (.int .u64 vI)).drew = w2 at S2 ⊢
        go_wp2_with fail
        go_roundg (j - 1)
        case measure => omega
        case rel => exact ⟨i + 1, j - 1, swp dk i j, by go_num, by rw [Int.ofNat_sub (by omega)]; rfl, by omega, by omega, by omega, Nat.le_refl _, S2, PN⟩
end Go.Proofs.Ytdjbnnjcifgnlaa

namespace Go.Proofs.Ytdjbnnjcifgnlaa
open Go.RowKit Go.Sort Go.Lib Go.Shelf


set_option maxHeartbeats 4000000 in
set_option maxRecDepth 1000000 in
theorem rev_c (blk off cap : Nat) (a b : Nat) (za zb : Int) (hza : za = a) (hzb : zb = b) (d0 d : Array Int) (w0 w : World) (n : Nat) (hn : n = d.size) (R : Row1 eU w0 blk off d0) (hs : d0.size = d.size) (S : SW eU w0 blk off d w) (hsz : d.size < 4611686018427387904) (hab : a < b) (hb : b ≤ d.size) :
    Calls Try.prog 77 #[.slice (some ⟨blk, off, none⟩) n cap, .int .i64 za, .int .i64 zb] w fun e w' => e = .returned (.tuple #[]) ∧ ∃ d', SW eU w0 blk off d' w' ∧ PermIn a b d d' := by
  subst hn hza hzb
  have mixed : Try.prog.follows .mixedOrders = true := by kernel_rfl
  have S0 : Aside (SW eU w0 blk off d w) := S
  have HS := Lib.hid hs
  have HL := Lib.hid lessU_c
  clear S hs
  go_enter Try.func77, Try.ntmps77
  obtain ⟨j0, hj0⟩ : ∃ j, j = b - 1 := ⟨_, rfl⟩
  have z1 : (b : Int) - 1 = (j0 : Int) := by omega
  have l1 : j0 < b := by omega
  have l2 : a ≤ j0 := by omega
  clear hj0
  go_wp2
  go_loopg [6, 7] b (fun kx s6 s7 wr => ∃ (i j : Nat) (dk : Array Int), s6 = .int .i64 i ∧ s7 = .int .i64 j ∧ a ≤ i ∧ i ≤ j + 1 ∧ j < b ∧ j ≤ kx ∧ Aside (SW eU w0 blk off dk wr) ∧ PermIn a b d dk)
  case atStart => exact ⟨a, j0, d, rfl, rfl, by omega, by omega, by omega, by omega, S0, permIn_refl _ _ _⟩
  case round =>
    clear S0
    obtain ⟨i, j, dk, rfl, rfl, hai, hij, hjb, hkx, S1, HPm⟩ := hrel
    have HD : Hid (dk.size = d.size) := HPm.1
    by_cases hlt : i < j
    · have hz : (i : Int) < (j : Int) := by omega
      have HPn : PermIn a b d (swp dk i j) := permIn_trans _ _ _ _ _ HPm (swp_permIn dk a b i j (by omega) (by omega) (by omega) (by omega) (by rw [HD.out]; omega))
      clear HPm
      go_wp2_with fail
      have hsz2 := HD.out
      have bI : (i : Int) < (d.size : Int) := by omega
      have bJ : (j : Int) < (d.size : Int) := by omega
      have S2 := S1.out.swapped R (i) (j) (by omega) (by omega)
      have ca := S1.out.c1 R (by rw [HD.out]; exact HS.out.symm) (i) (by omega)
      have cb := S1.out.c1 R (by rw [HD.out]; exact HS.out.symm) (j) (by omega)
      have fa := S1.out.f1 R (by rw [HD.out]; exact HS.out.symm) (i) (by omega)
      have fb := S1.out.f1 R (by rw [HD.out]; exact HS.out.symm) (j) (by omega)
      obtain ⟨uc, cc⟩ := S1.out.c2 R (by rw [HD.out]; exact HS.out.symm) (i) (j) (by omega) (by omega) (eU dk[j]!)
      clear hsz2
      generalize dk[i]! = vI at S2 ca cc
      generalize dk[j]! = vJ at S2 cb cc
      replace S2 : Aside (SW eU w0 blk off (swp dk (i) (j)) ((wr.setCell ⟨blk, off + i, none⟩ (.int .u64 vJ)).setCell ⟨blk, off + j, none⟩ (.int .u64 vI)).drew) := S2
      replace ca : wr.cell? ⟨blk, off + i, none⟩ = some (.int .u64 vI) := ca
      replace cb : wr.cell? ⟨blk, off + j, none⟩ = some (.int .u64 vJ) := cb
      replace cc : (wr.setCell ⟨blk, off + i, none⟩ (.int .u64 vJ)).cell? ⟨blk, off + j, none⟩ = some uc := cc
      clear S1
      go_wp2_with fail
      go_big_region
      clear ca cb fa fb cc bI bJ
      generalize ((wr.setCell ⟨blk, off + i, none⟩ (.int .u64 vJ)).setCell ⟨blk, off + j, none⟩ (.int .u64 vI)).drew = w2 at S2 ⊢
      go_wp2_with fail
      go_roundg (j - 1)
      case measure => omega
      case rel => exact ⟨i + 1, j - 1, swp dk i j, by go_num, by rw [Int.ofNat_sub (by omega)]; rfl, by omega, by omega, by omega, Nat.le_refl _, S2, HPn⟩
    · have hz : ¬ (i : Int) < (j : Int) := by omega
      clear HD
      go_wp2
      go_end0
      exact ⟨rfl, dk, S1.out, HPm⟩

theorem ss_go {d : Array Int} {b i : Nat} (h : i < b) (hl : ltInt d[i]! d[i - 1]! = false) : scanSorted ltInt d b i = scanSorted ltInt d b (i + 1) := by
  conv => lhs; rw [scanSorted]
  rw [if_pos (by rw [hl]; simpa using h)]
theorem ss_stop {d : Array Int} {b i : Nat} (h : ¬ i < b ∨ ltInt d[i]! d[i - 1]! = true) : scanSorted ltInt d b i = i := by
  rw [scanSorted, if_neg (by
    intro hc
    rw [Bool.and_eq_true, decide_eq_true_iff] at hc
    rcases h with h | h
    · exact h hc.1
    · rw [h] at hc; cases hc.2)]
theorem sdn_go {d : Array Int} {j : Nat} (hl : ltInt d[j + 1]! d[j]! = true) : shiftDown ltInt (j + 1) d = shiftDown ltInt j (swp d (j + 1) j) := by
  show (if (!ltInt d[j + 1]! d[j]!) = true then d else _) = _
  rw [hl, if_neg (by decide)]
theorem sdn_stop {d : Array Int} {j : Nat} (hl : ltInt d[j + 1]! d[j]! = false) : shiftDown ltInt (j + 1) d = d := by
  show (if (!ltInt d[j + 1]! d[j]!) = true then d else _) = _
  rw [hl, if_pos (by decide)]
theorem sup_go {d : Array Int} {b j : Nat} (h : j < b) (hl : ltInt d[j]! d[j - 1]! = true) : shiftUp ltInt b j d = shiftUp ltInt b (j + 1) (swp d j (j - 1)) := by
  conv => lhs; rw [shiftUp]
  rw [if_pos h, hl, if_neg (by decide)]
theorem sup_stop {d : Array Int} {b j : Nat} (h : ¬ j < b ∨ ltInt d[j]! d[j - 1]! = false) : shiftUp ltInt b j d = d := by
  rw [shiftUp]
  by_cases h1 : j < b
  · rw [if_pos h1]
    rcases h with h | h
    · exact absurd h1 h
    · rw [h, if_pos (by decide)]
  · rw [if_neg h1]
theorem size_sdn : ∀ (j : Nat) (d : Array Int), (shiftDown ltInt j d).size = d.size
  | 0, _ => rfl
  | j + 1, d => by
    cases h : ltInt d[j + 1]! d[j]! with
    | true => rw [sdn_go h, size_sdn j, size_swp]
    | false => rw [sdn_stop h]
def dnOf (a i : Nat) (d : Array Int) : Array Int := if i - a ≥ 2 then shiftDown ltInt (i - 1) d else d
def upOf (b i : Nat) (d : Array Int) : Array Int := if b - i ≥ 2 then shiftUp ltInt b (i + 1) d else d
theorem size_dn (a i : Nat) (d : Array Int) : (dnOf a i d).size = d.size := by unfold dnOf; split; exact size_sdn _ _; rfl
theorem pi_done {a b t i : Nat} {d : Array Int} (h : scanSorted ltInt d b i = b) : partialIns ltInt a b (t + 1) i d = (d, true) := by
  show (if scanSorted ltInt d b i = b then _ else _) = _
  rw [if_pos h]
theorem pi_short {a b t i k : Nat} {d : Array Int} (h : scanSorted ltInt d b i = k) (hk : k ≠ b) (hs : b - a < 50) : partialIns ltInt a b (t + 1) i d = (d, false) := by
  show (if scanSorted ltInt d b i = b then _ else if b - a < 50 then _ else _) = _
  rw [if_neg (by rw [h]; exact hk), if_pos hs]
theorem pi_next {a b t i k : Nat} {d : Array Int} (h : scanSorted ltInt d b i = k) (hk : k ≠ b) (hs : ¬ b - a < 50) : partialIns ltInt a b (t + 1) i d = partialIns ltInt a b t k (upOf b k (dnOf a k (swp d k (k - 1)))) := by
  subst h
  show (if scanSorted ltInt d b i = b then _ else if b - a < 50 then _ else _) = _
  rw [if_neg hk, if_neg hs]
  rfl

set_option maxHeartbeats 4000000 in
set_option maxRecDepth 1000000 in
theorem pins_c (blk off cap : Nat) (a b : Nat) (za zb : Int) (hza : za = a) (hzb : zb = b) (d0 d : Array Int) (w0 w : World) (n : Nat) (hn : n = d.size) (R : Row1 eU w0 blk off d0) (hs : d0.size = d.size) (S : SW eU w0 blk off d w) (hsz : d.size < 4611686018427387904) (hab : a < b) (hb : b ≤ d.size) :
    Calls Try.prog 78 #[.slice (some ⟨blk, off, none⟩) n cap, .int .i64 za, .int .i64 zb] w fun e w' => e = .returned (.bool (partialIns ltInt a b 5 (a + 1) d).2) ∧ SW eU w0 blk off (partialIns ltInt a b 5 (a + 1) d).1 w' := by
  subst hn hza hzb
  obtain ⟨res, hres⟩ : ∃ r, r = partialIns ltInt a b 5 (a + 1) d := ⟨_, rfl⟩
  rw [← hres]
  have HR := Lib.hid hres
  clear hres
  have mixed : Try.prog.follows .mixedOrders = true := by kernel_rfl
  have S0 : Aside (SW eU w0 blk off d w) := S
  have HS := Lib.hid hs
  have HL := Lib.hid lessU_c
  clear S hs
  go_enter Try.func78, Try.ntmps78
  go_wp2
  go_loopg [7, 8] 5 (fun kx s7 s8 wr => ∃ (i s : Nat) (dk : Array Int), s7 = .int .i64 i ∧ s8 = .int .i64 s ∧ s ≤ 5 ∧ 5 - s ≤ kx ∧ a < i ∧ i ≤ b ∧ dk.size = d.size ∧ Aside (SW eU w0 blk off dk wr) ∧ Hid (partialIns ltInt a b (5 - s) i dk = res))
  case atStart => exact ⟨a + 1, 0, d, by go_num, rfl, by omega, by omega, by omega, by omega, rfl, S0, Lib.hid HR.out.symm⟩
  case round =>
    clear S0 HR
    obtain ⟨i0, s, dk, rfl, rfl, hs5, hkx0, hai, hib, hds, S1, HE⟩ := hrel
    have HD := Lib.hid hds
    clear hds
    by_cases hs : s < 5
    rotate_left
    · obtain rfl : s = 5 := by omega
      have HF : Hid (res = (dk, false)) := by show _ = _; rw [← HE.out]; rfl
      clear HE hs hs5
      go_wp2
      go_ret
      rw [HF.out]
      exact ⟨rfl, S1.out⟩
    · have hsz1 : (s : Int) < 5 := by omega
      obtain ⟨t, ht⟩ : ∃ t, 5 - s = t + 1 := ⟨5 - s - 1, by omega⟩
      have HT : Hid (5 - s = t + 1) := ht
      rw [ht] at HE
      clear ht
      go_upto_block 2 with fail
      go_cut [7] from 17 to 34 (fun sx wx => ∃ i : Nat, sx = .int .i64 i ∧ a < i ∧ i ≤ b ∧ Aside (SW eU w0 blk off dk wx) ∧ Hid (scanSorted ltInt dk b i0 = i))
      case first =>
        go_wp2_with fail
        go_loopg [7] (b - i0) (fun kx sx wx => ∃ i' : Nat, sx = .int .i64 i' ∧ a < i' ∧ i' ≤ b ∧ b - i' ≤ kx ∧ Aside (SW eU w0 blk off dk wx) ∧ Hid (scanSorted ltInt dk b i' = scanSorted ltInt dk b i0))
        case atStart => exact ⟨i0, rfl, hai, hib, Nat.le_refl _, S1, Lib.hid rfl⟩
        case round =>
          clear S1
          obtain ⟨i', rfl, hi1, hi2, hkx, S1, HI⟩ := hrel
          by_cases hlt : i' < b
          · have hz : (i' : Int) < (b : Int) := by omega
            obtain ⟨ip, hip⟩ : ∃ x, x = i' - 1 := ⟨_, rfl⟩
            have q1 : IntKind.i64.wrap ((i' : Int) - 1) = (ip : Int) := by rw [IntKind.wrap_i64]; omega
            have l1 : ip < i' := by omega
            have HIP := Lib.hid hip
            clear hip
            have hsz2 := HD.out
            obtain ⟨x, hx⟩ : ∃ x, dk[i']! = x := ⟨_, rfl⟩
            have cx := S1.out.c1 R (by rw [HD.out]; exact HS.out.symm) (i') (by omega)
            rw [hx] at cx
            replace cx : wr.cell? ⟨blk, off + i', none⟩ = some (.int .u64 x) := cx
            have Xx := Lib.hid hx
            clear hx
            have bbx : (i' : Int) < (d.size : Int) := by omega
            obtain ⟨y, hy⟩ : ∃ x, dk[ip]! = x := ⟨_, rfl⟩
            have cy := S1.out.c1 R (by rw [HD.out]; exact HS.out.symm) (ip) (by omega)
            rw [hy] at cy
            replace cy : wr.cell? ⟨blk, off + ip, none⟩ = some (.int .u64 y) := cy
            have Xy := Lib.hid hy
            clear hy
            have bby : (ip : Int) < (d.size : Int) := by omega
            clear hsz2
            cases hl : ltInt x y with
            | true =>
              have HN : Hid (scanSorted ltInt dk b i0 = i') := by
                show _ = _
                rw [← HI.out]; exact ss_stop (.inr (by rw [← HIP.out, Xx.out, Xy.out]; exact hl))
              go_wp2_with fail
              go_quiet ((go_at_call 79; with_reducible exact Calls.quiet_of_same (HL.out _ _ _)))
              have S2 : Aside (SW eU w0 blk off dk (wr.drewN nq)) := S1.out.drewN nq
              clear cx bbx cy bby S1
              generalize wr.drewN nq = wq at S2 ⊢
              go_wp2
              go_meet
              case rel => exact ⟨i', rfl, by omega, by omega, S2, HN⟩
            | false =>
              have HN : Hid (scanSorted ltInt dk b (i' + 1) = scanSorted ltInt dk b i0) := by
                show _ = _
                rw [← HI.out]; exact (ss_go hlt (by rw [← HIP.out, Xx.out, Xy.out]; exact hl)).symm
              go_wp2_with fail
              go_quiet ((go_at_call 79; with_reducible exact Calls.quiet_of_same (HL.out _ _ _)))
              have S2 : Aside (SW eU w0 blk off dk (wr.drewN nq)) := S1.out.drewN nq
              clear cx bbx cy bby S1
              generalize wr.drewN nq = wq at S2 ⊢
              go_wp2
              go_roundg (b - (i' + 1))
              case measure => omega
              case rel => exact ⟨i' + 1, by go_num, by omega, by omega, Nat.le_refl _, S2, HN⟩
          · have hz : ¬ (i' : Int) < (b : Int) := by omega
            have hzd : decide ((i' : Int) < (b : Int)) = false := decide_eq_false hz
            have HN : Hid (scanSorted ltInt dk b i0 = i') := by
              show _ = _
              rw [← HI.out]; exact ss_stop (.inl hlt)
            go_wp2_with fail
            go_quiet ((go_at_call 79; with_reducible exact Calls.quiet_of_same (HL.out _ _ _)))
            have S2 : Aside (SW eU w0 blk off dk (wr.drewN nq)) := S1.out.drewN nq
            clear S1
            generalize wr.drewN nq = wq at S2 ⊢
            go_wp2
            go_meet
            case rel => exact ⟨i', rfl, by omega, by omega, S2, HN⟩
      case rest =>
      obtain ⟨i, rfl, hi1, hi2, S2, HSc⟩ := hcut
      clear S1
      by_cases hib2 : i = b
      · subst hib2
        have he : ((i : Int) == (i : Int)) = true := by simp
        have HF : Hid (res = (dk, true)) := by show _ = _; rw [← HE.out, pi_done HSc.out]
        clear HE HSc
        go_wp2_with fail
        go_ret
        rw [HF.out]
        exact ⟨rfl, S2.out⟩
      · have he : ((i : Int) == (b : Int)) = false := by rw [beq_eq_false_iff_ne]; omega
        by_cases h50 : b - a < 50
        · have hz5 : (b : Int) - (a : Int) < 50 := by omega
          have HF : Hid (res = (dk, false)) := by show _ = _; rw [← HE.out, pi_short HSc.out hib2 h50]
          clear HE HSc
          go_wp2_with fail
          go_ret
          rw [HF.out]
          exact ⟨rfl, S2.out⟩
        · have hz5 : ¬ (b : Int) - (a : Int) < 50 := by omega
          obtain ⟨ip, hip⟩ : ∃ x, x = i - 1 := ⟨_, rfl⟩
          have HN : Hid (partialIns ltInt a b t i (upOf b i (dnOf a i (swp dk i ip))) = res) := by
            show _ = _
            rw [← HE.out, pi_next HSc.out hib2 h50, hip]
          have HIP := Lib.hid hip
          have q1 : IntKind.i64.wrap ((i : Int) - 1) = (ip : Int) := by rw [IntKind.wrap_i64]; omega
          have q1' : (i : Int) - 1 = (ip : Int) := by omega
          have l1 : ip < i := by omega
          have l2 : i ≤ ip + 1 := by omega
          have l3 : i < b := by omega
          clear hip HE HSc
          have S9 := S2
          clear S2
          go_wp2_with fail
          have hsz2 := HD.out
          have bI : (i : Int) < (d.size : Int) := by omega
          have bJ : (ip : Int) < (d.size : Int) := by omega
          have S2 := S9.out.swapped R (i) (ip) (by omega) (by omega)
          have ca := S9.out.c1 R (by rw [HD.out]; exact HS.out.symm) (i) (by omega)
          have cb := S9.out.c1 R (by rw [HD.out]; exact HS.out.symm) (ip) (by omega)
          have fa := S9.out.f1 R (by rw [HD.out]; exact HS.out.symm) (i) (by omega)
          have fb := S9.out.f1 R (by rw [HD.out]; exact HS.out.symm) (ip) (by omega)
          obtain ⟨uc, cc⟩ := S9.out.c2 R (by rw [HD.out]; exact HS.out.symm) (i) (ip) (by omega) (by omega) (eU dk[ip]!)
          clear hsz2
          generalize dk[i]! = vI at S2 ca cc
          generalize dk[ip]! = vJ at S2 cb cc
          replace S2 : Aside (SW eU w0 blk off (swp dk (i) (ip)) ((wc.setCell ⟨blk, off + i, none⟩ (.int .u64 vJ)).setCell ⟨blk, off + ip, none⟩ (.int .u64 vI)).drew) := S2
          replace ca : wc.cell? ⟨blk, off + i, none⟩ = some (.int .u64 vI) := ca
          replace cb : wc.cell? ⟨blk, off + ip, none⟩ = some (.int .u64 vJ) := cb
          replace cc : (wc.setCell ⟨blk, off + i, none⟩ (.int .u64 vJ)).cell? ⟨blk, off + ip, none⟩ = some uc := cc
          clear S9
          go_wp2_with fail
          go_big_region
          clear ca cb fa fb cc bI bJ
          generalize ((wc.setCell ⟨blk, off + i, none⟩ (.int .u64 vJ)).setCell ⟨blk, off + ip, none⟩ (.int .u64 vI)).drew = w2 at S2 ⊢
          obtain ⟨d1, hd1⟩ : ∃ x, x = swp dk i ip := ⟨_, rfl⟩
          have HD1 : Hid (d1.size = d.size) := Lib.hid (by rw [hd1, size_swp]; exact HD.out)
          rw [← hd1] at S2 HN
          clear hd1 HD
          go_upto_if 61 with fail
          go_cut [9] from 13 to 132 (fun s9 wx => Aside (SW eU w0 blk off (dnOf a i d1) wx))
          case first =>
            by_cases h2 : i - a ≥ 2
            · have hz2 : (2 : Int) ≤ (i : Int) - (a : Int) := by omega
              have HDN : Hid (dnOf a i d1 = shiftDown ltInt ip d1) := by show _ = _; unfold dnOf; rw [if_pos h2, HIP.out]
              clear h2
              go_wp2_with fail
              go_loopg [9] ip (fun kx sx wx => ∃ (j : Nat) (dj : Array Int), sx = .int .i64 j ∧ j ≤ ip ∧ j ≤ kx ∧ dj.size = d.size ∧ Aside (SW eU w0 blk off dj wx) ∧ Hid (shiftDown ltInt j dj = dnOf a i d1))
              case atStart => exact ⟨ip, d1, rfl, Nat.le_refl _, Nat.le_refl _, HD1.out, S2, Lib.hid HDN.out.symm⟩
              case round =>
                clear S2
                obtain ⟨j1, dj, rfl, hji, hkx, hdj, S1, HJ⟩ := hrel
                have HD := Lib.hid hdj
                clear hdj
                by_cases hj : 0 < j1
                · obtain ⟨j, hjj⟩ : ∃ j, j1 = j + 1 := ⟨j1 - 1, by omega⟩
                  have HJJ := Lib.hid hjj
                  have hz : (1 : Int) ≤ (j1 : Int) := by omega
                  have q3 : IntKind.i64.wrap ((j1 : Int) - 1) = (j : Int) := by rw [IntKind.wrap_i64]; omega
                  have q3' : (j1 : Int) - 1 = (j : Int) := by omega
                  have l4 : j < j1 := by omega
                  have l5 : j1 ≤ j + 1 := by omega
                  clear hjj
                  have hsz2 := HD.out
                  obtain ⟨x, hx⟩ : ∃ x, dj[j1]! = x := ⟨_, rfl⟩
                  have cx := S1.out.c1 R (by rw [HD.out]; exact HS.out.symm) (j1) (by omega)
                  rw [hx] at cx
                  replace cx : wr.cell? ⟨blk, off + j1, none⟩ = some (.int .u64 x) := cx
                  have Xx := Lib.hid hx
                  clear hx
                  have bbx : (j1 : Int) < (d.size : Int) := by omega
                  obtain ⟨y, hy⟩ : ∃ x, dj[j]! = x := ⟨_, rfl⟩
                  have cy := S1.out.c1 R (by rw [HD.out]; exact HS.out.symm) (j) (by omega)
                  rw [hy] at cy
                  replace cy : wr.cell? ⟨blk, off + j, none⟩ = some (.int .u64 y) := cy
                  have Xy := Lib.hid hy
                  clear hy
                  have bby : (j : Int) < (d.size : Int) := by omega
                  clear hsz2
                  cases hl : ltInt x y with
                  | true =>
                    have HJ2 : Hid (shiftDown ltInt j (swp dj j1 j) = dnOf a i d1) := by
                      show _ = _
                      rw [← HJ.out, HJJ.out]; exact (sdn_go (by rw [← HJJ.out, Xx.out, Xy.out]; exact hl)).symm
                    go_wp2_with fail
                    go_quiet ((go_at_call 79; with_reducible exact Calls.quiet_of_same (HL.out _ _ _)))
                    have S3 : Aside (SW eU w0 blk off dj (wr.drewN nq)) := S1.out.drewN nq
                    clear cx bbx cy bby S1
                    generalize wr.drewN nq = wq at S3 ⊢
                    clear hl
                    go_wp2_with fail
                    have hsz2 := HD.out
                    have bI : (j1 : Int) < (d.size : Int) := by omega
                    have bJ : (j : Int) < (d.size : Int) := by omega
                    have S2 := S3.out.swapped R (j1) (j) (by omega) (by omega)
                    have ca := S3.out.c1 R (by rw [HD.out]; exact HS.out.symm) (j1) (by omega)
                    have cb := S3.out.c1 R (by rw [HD.out]; exact HS.out.symm) (j) (by omega)
                    have fa := S3.out.f1 R (by rw [HD.out]; exact HS.out.symm) (j1) (by omega)
                    have fb := S3.out.f1 R (by rw [HD.out]; exact HS.out.symm) (j) (by omega)
                    obtain ⟨uc, cc⟩ := S3.out.c2 R (by rw [HD.out]; exact HS.out.symm) (j1) (j) (by omega) (by omega) (eU dj[j]!)
                    clear hsz2
                    generalize dj[j1]! = vI at S2 ca cc
                    generalize dj[j]! = vJ at S2 cb cc
                    replace S2 : Aside (SW eU w0 blk off (swp dj (j1) (j)) ((wq.setCell ⟨blk, off + j1, none⟩ (.int .u64 vJ)).setCell ⟨blk, off + j, none⟩ (.int .u64 vI)).drew) := S2
                    replace ca : wq.cell? ⟨blk, off + j1, none⟩ = some (.int .u64 vI) := ca
                    replace cb : wq.cell? ⟨blk, off + j, none⟩ = some (.int .u64 vJ) := cb
                    replace cc : (wq.setCell ⟨blk, off + j1, none⟩ (.int .u64 vJ)).cell? ⟨blk, off + j, none⟩ = some uc := cc
                    clear S3
                    go_wp2_with fail
                    go_big_region
                    clear ca cb fa fb cc bI bJ
                    generalize ((wq.setCell ⟨blk, off + j1, none⟩ (.int .u64 vJ)).setCell ⟨blk, off + j, none⟩ (.int .u64 vI)).drew = w2 at S2 ⊢
                    have HD2 : Hid ((swp dj j1 j).size = d.size) := Lib.hid (by rw [size_swp]; exact HD.out)
                    go_wp2_with fail
                    go_roundg (j)
                    case measure => omega
                    case rel => exact ⟨j, swp dj j1 j, rfl, by omega, Nat.le_refl _, HD2.out, S2, HJ2⟩
                  | false =>
                    have HJ2 : Hid (dnOf a i d1 = dj) := by
                      show _ = _
                      rw [← HJ.out, HJJ.out]; exact sdn_stop (by rw [← HJJ.out, Xx.out, Xy.out]; exact hl)
                    go_wp2_with fail
                    go_quiet ((go_at_call 79; with_reducible exact Calls.quiet_of_same (HL.out _ _ _)))
                    have S3 : Aside (SW eU w0 blk off dj (wr.drewN nq)) := S1.out.drewN nq
                    clear cx bbx cy bby S1
                    generalize wr.drewN nq = wq at S3 ⊢
                    clear hl
                    go_wp2_with fail
                    go_meet
                    case rel => rw [HJ2.out]; exact S3
                · obtain rfl : j1 = 0 := by omega
                  have HJ2 : Hid (dnOf a i d1 = dj) := by show _ = _; rw [← HJ.out]; rfl
                  clear hj
                  go_wp2_with fail
                  go_meet
                  case rel => rw [HJ2.out]; exact S1
            · have hz2 : ¬ (2 : Int) ≤ (i : Int) - (a : Int) := by omega
              have HDN : Hid (dnOf a i d1 = d1) := by show _ = _; unfold dnOf; rw [if_neg h2]
              clear h2
              go_wp2_with fail
              go_meet
              case rel => rw [HDN.out]; exact S2
          case rest =>
          have S3 := hcut
          clear S2
          have HDd : Hid ((dnOf a i d1).size = d.size) := Lib.hid (by rw [size_dn]; exact HD1.out)
          obtain ⟨d2, hd2⟩ : ∃ x, x = dnOf a i d1 := ⟨_, rfl⟩
          rw [← hd2] at S3 HN HDd
          clear hd2 HD1 hcut
          obtain ⟨i1, hi1e⟩ : ∃ x, x = i + 1 := ⟨_, rfl⟩
          have HI1 := Lib.hid hi1e
          have q4 : (i : Int) + 1 = (i1 : Int) := by omega
          have l6 : i < i1 := by omega
          have l7 : i1 ≤ b := by omega
          clear hi1e
          by_cases h2 : b - i ≥ 2
          · have hz2 : (2 : Int) ≤ (b : Int) - (i : Int) := by omega
            have HUP : Hid (upOf b i d2 = shiftUp ltInt b i1 d2) := by show _ = _; unfold upOf; rw [if_pos h2, HI1.out]
            clear h2
            go_wp2_with fail
            go_loopg [10] (b - i1) (fun kx sx wx => ∃ (j : Nat) (dj : Array Int), sx = .int .i64 j ∧ i < j ∧ j ≤ b ∧ b - j ≤ kx ∧ dj.size = d.size ∧ Aside (SW eU w0 blk off dj wx) ∧ Hid (shiftUp ltInt b j dj = upOf b i d2))
            case atStart => exact ⟨i1, d2, rfl, by omega, by omega, Nat.le_refl _, HDd.out, S3, Lib.hid HUP.out.symm⟩
            case round =>
              clear S3
              obtain ⟨j1, dj, rfl, hji, hjb, hkx, hdj, S1, HJ⟩ := hrel
              have HD := Lib.hid hdj
              clear hdj
              by_cases hj : j1 < b
              · obtain ⟨j, hjj⟩ : ∃ j, j = j1 - 1 := ⟨_, rfl⟩
                have HJJ := Lib.hid hjj
                have hz : (j1 : Int) < (b : Int) := by omega
                have q3 : IntKind.i64.wrap ((j1 : Int) - 1) = (j : Int) := by rw [IntKind.wrap_i64]; omega
                have l4 : j < j1 := by omega
                clear hjj
                have hsz2 := HD.out
                obtain ⟨x, hx⟩ : ∃ x, dj[j1]! = x := ⟨_, rfl⟩
                have cx := S1.out.c1 R (by rw [HD.out]; exact HS.out.symm) (j1) (by omega)
                rw [hx] at cx
                replace cx : wr.cell? ⟨blk, off + j1, none⟩ = some (.int .u64 x) := cx
                have Xx := Lib.hid hx
                clear hx
                have bbx : (j1 : Int) < (d.size : Int) := by omega
                obtain ⟨y, hy⟩ : ∃ x, dj[j]! = x := ⟨_, rfl⟩
                have cy := S1.out.c1 R (by rw [HD.out]; exact HS.out.symm) (j) (by omega)
                rw [hy] at cy
                replace cy : wr.cell? ⟨blk, off + j, none⟩ = some (.int .u64 y) := cy
                have Xy := Lib.hid hy
                clear hy
                have bby : (j : Int) < (d.size : Int) := by omega
                clear hsz2
                cases hl : ltInt x y with
                | true =>
                  have HJ2 : Hid (shiftUp ltInt b (j1 + 1) (swp dj j1 j) = upOf b i d2) := by
                    show _ = _
                    rw [← HJ.out, HJJ.out]; exact (sup_go hj (by rw [← HJJ.out, Xx.out, Xy.out]; exact hl)).symm
                  go_wp2_with fail
                  go_quiet ((go_at_call 79; with_reducible exact Calls.quiet_of_same (HL.out _ _ _)))
                  have S4 : Aside (SW eU w0 blk off dj (wr.drewN nq)) := S1.out.drewN nq
                  clear cx bbx cy bby S1
                  generalize wr.drewN nq = wq at S4 ⊢
                  clear hl
                  go_wp2_with fail
                  have hsz2 := HD.out
                  have bI : (j1 : Int) < (d.size : Int) := by omega
                  have bJ : (j : Int) < (d.size : Int) := by omega
                  have S2 := S4.out.swapped R (j1) (j) (by omega) (by omega)
                  have ca := S4.out.c1 R (by rw [HD.out]; exact HS.out.symm) (j1) (by omega)
                  have cb := S4.out.c1 R (by rw [HD.out]; exact HS.out.symm) (j) (by omega)
                  have fa := S4.out.f1 R (by rw [HD.out]; exact HS.out.symm) (j1) (by omega)
                  have fb := S4.out.f1 R (by rw [HD.out]; exact HS.out.symm) (j) (by omega)
                  obtain ⟨uc, cc⟩ := S4.out.c2 R (by rw [HD.out]; exact HS.out.symm) (j1) (j) (by omega) (by omega) (eU dj[j]!)
                  clear hsz2
                  generalize dj[j1]! = vI at S2 ca cc
                  generalize dj[j]! = vJ at S2 cb cc
                  replace S2 : Aside (SW eU w0 blk off (swp dj (j1) (j)) ((wq.setCell ⟨blk, off + j1, none⟩ (.int .u64 vJ)).setCell ⟨blk, off + j, none⟩ (.int .u64 vI)).drew) := S2
                  replace ca : wq.cell? ⟨blk, off + j1, none⟩ = some (.int .u64 vI) := ca
                  replace cb : wq.cell? ⟨blk, off + j, none⟩ = some (.int .u64 vJ) := cb
                  replace cc : (wq.setCell ⟨blk, off + j1, none⟩ (.int .u64 vJ)).cell? ⟨blk, off + j, none⟩ = some uc := cc
                  clear S4
                  go_wp2_with fail
                  go_big_region
                  clear ca cb fa fb cc bI bJ
                  generalize ((wq.setCell ⟨blk, off + j1, none⟩ (.int .u64 vJ)).setCell ⟨blk, off + j, none⟩ (.int .u64 vI)).drew = w2 at S2 ⊢
                  have HD2 : Hid ((swp dj j1 j).size = d.size) := Lib.hid (by rw [size_swp]; exact HD.out)
                  go_wp2_with fail
                  go_roundg (b - (j1 + 1))
                  case measure => omega
                  case rel => exact ⟨j1 + 1, swp dj j1 j, by go_num, by omega, by omega, Nat.le_refl _, HD2.out, S2, HJ2⟩
                | false =>
                  have HJ2 : Hid (upOf b i d2 = dj) := by
                    show _ = _
                    rw [← HJ.out]; exact sup_stop (.inr (by rw [← HJJ.out, Xx.out, Xy.out]; exact hl))
                  go_wp2_with fail
                  go_quiet ((go_at_call 79; with_reducible exact Calls.quiet_of_same (HL.out _ _ _)))
                  have S4 : Aside (SW eU w0 blk off dj (wr.drewN nq)) := S1.out.drewN nq
                  clear cx bbx cy bby S1
                  generalize wr.drewN nq = wq at S4 ⊢
                  clear hl
                  have HNs : Hid (partialIns ltInt a b (5 - (s + 1)) i dj = res) := by
                    show _ = _
                    rw [show 5 - (s + 1) = t by have := HT.out; omega, ← HJ2.out]; exact HN.out
                  clear HN HT HJ2
                  go_wp2_with fail
                  go_roundg (5 - (s + 1))
                  case measure => omega
                  case rel => exact ⟨i, s + 1, dj, rfl, by go_num, by omega, Nat.le_refl _, by omega, by omega, HD.out, S4, HNs⟩
              · have hz : ¬ (j1 : Int) < (b : Int) := by omega
                have HJ2 : Hid (upOf b i d2 = dj) := by show _ = _; rw [← HJ.out]; exact sup_stop (.inl hj)
                clear hj
                have HNs : Hid (partialIns ltInt a b (5 - (s + 1)) i dj = res) := by
                  show _ = _
                  rw [show 5 - (s + 1) = t by have := HT.out; omega, ← HJ2.out]; exact HN.out
                clear HN HT HJ2
                go_wp2_with fail
                go_roundg (5 - (s + 1))
                case measure => omega
                case rel => exact ⟨i, s + 1, dj, rfl, by go_num, by omega, Nat.le_refl _, by omega, by omega, HD.out, S1, HNs⟩
          · have hz2 : ¬ (2 : Int) ≤ (b : Int) - (i : Int) := by omega
            have HJ2 : Hid (upOf b i d2 = d2) := by show _ = _; unfold upOf; rw [if_neg h2]
            clear h2
            have HNs : Hid (partialIns ltInt a b (5 - (s + 1)) i d2 = res) := by
              show _ = _
              rw [show 5 - (s + 1) = t by have := HT.out; omega, ← HJ2.out]; exact HN.out
            clear HN HT HJ2
            go_wp2_with fail
            go_roundg (5 - (s + 1))
            case measure => omega
            case rel => exact ⟨i, s + 1, d2, rfl, by go_num, by omega, Nat.le_refl _, by omega, by omega, HDd.out, S3, HNs⟩
end Go.Proofs.Ytdjbnnjcifgnlaa

namespace Go.Proofs.Ytdjbnnjcifgnlaa
open Go.RowKit Go.Sort Go.Lib Go.Shelf Go.ChangeShapes Go.WideShapes

/-- A box since the sort began, that holds v. -/
structure BoxU (w0 : World) (c : Nat) (v : Value) (W : World) : Prop where
  cell : W.cell? ⟨c, 0, none⟩ = some v
  froz : W.frozen? ⟨c, 0, none⟩ = false
  old : w0.heap.size ≤ c
  lt : c < W.heap.size
theorem bits_in (op : BinOp) (x y : Int) : 0 ≤ bits op .u64 x y ∧ bits op .u64 x y < 18446744073709551616 := by
  have h := bounds_u64 (wf_bits op .u64 x y)
  omega
theorem BoxU.set {w0 W : World} {c : Nat} {v : Value} (h : BoxU w0 c v W) (u : Value) : BoxU w0 c u (W.setCell ⟨c, 0, none⟩ u) :=
  ⟨World.cell?_setCell_same' _ _ _ (by rw [h.cell]; rfl), by rw [World.frozen?_setCell]; exact h.froz, h.old, by simpa using h.lt⟩
theorem BoxU.drew {w0 W : World} {c : Nat} {v : Value} (h : BoxU w0 c v W) : BoxU w0 c v W.drew := ⟨h.cell, h.froz, h.old, h.lt⟩
theorem BoxU.drewN {w0 W : World} {c : Nat} {v : Value} (h : BoxU w0 c v W) (n : Nat) : BoxU w0 c v (W.drewN n) := ⟨h.cell, h.froz, h.old, h.lt⟩
theorem BoxU.start {w0 W : World} {blk off : Nat} {d : Array Int} (S : SW eU w0 blk off d W) (v : Value) (t : TypeId) : BoxU w0 W.heap.size v (W.alloc (.cells #[v] t)) :=
  ⟨by rw [cell_of_row _ _ _ _ _ _ (heap_alloc_new W _)]; rfl, frozen_of_row _ _ _ _ _ (heap_alloc_new W _), S.le, by simp⟩
/-- Behind an exchange in the row. -/
theorem BoxU.swapped {w0 W : World} {blk x y c : Nat} {v : Value} (h : BoxU w0 c v W) (hb : blk < w0.heap.size) (u u' : Value) : BoxU w0 c v ((W.setCell ⟨blk, x, none⟩ u).setCell ⟨blk, y, none⟩ u').drew := by
  have hne : c ≠ blk := by have := h.old; omega
  have hk := box_kept_swap1 hne h.cell h.froz x y u u'
  exact ⟨hk.1, hk.2, h.old, by have := h.lt; simpa using this⟩
set_option maxHeartbeats 4000000 in
set_option maxRecDepth 1000000 in
theorem next_c (blk off c : Nat) (x : Int) (d : Array Int) (w0 w : World) (S : SW eU w0 blk off d w) (C : BoxU w0 c (.int .u64 x) w) (_h0 : 0 ≤ x) (_h1 : x < 18446744073709551616) :
    Calls Try.prog 97 #[.pointer (some ⟨c, 0, none⟩)] w fun e w' => ∃ y : Int, e = .returned (.int .u64 y) ∧ 0 ≤ y ∧ y < 18446744073709551616 ∧ SW eU w0 blk off d w' ∧ BoxU w0 c (.int .u64 y) w' := by
  have mixed : Try.prog.follows .mixedOrders = true := by kernel_rfl
  have c0 := C.cell
  have f0 := C.froz
  have S0 : Aside (SW eU w0 blk off d w) := S
  have C0 : Aside (BoxU w0 c (.int .u64 x) w) := C
  clear S C
  go_enter Try.func97, Try.ntmps97
  go_wp2_with fail
  go_big_region
  have S1 : Aside (SW eU w0 blk off d (w.setCell ⟨c, 0, none⟩ (.int .u64 (bits .xor .u64 x (IntKind.u64.wrap (x * 8192))))).drew) := (S0.out.setCell_new c 0 _ C0.out.old).drew
  have C1 : Aside (BoxU w0 c (.int .u64 (bits .xor .u64 x (IntKind.u64.wrap (x * 8192)))) (w.setCell ⟨c, 0, none⟩ (.int .u64 (bits .xor .u64 x (IntKind.u64.wrap (x * 8192))))).drew) := (C0.out.set _).drew
  have B1 := bits_in .xor x (IntKind.u64.wrap (x * 8192))
  clear c0 f0 S0 C0
  generalize (w.setCell ⟨c, 0, none⟩ (.int .u64 (bits .xor .u64 x (IntKind.u64.wrap (x * 8192))))).drew = w1 at S1 C1 ⊢
  generalize bits .xor .u64 x (IntKind.u64.wrap (x * 8192)) = x1 at C1 B1 ⊢
  obtain ⟨b10, b11⟩ := B1
  have c1 := C1.out.cell
  have f1 := C1.out.froz
  go_wp2_with fail
  go_big_region
  have S2 : Aside (SW eU w0 blk off d (w1.setCell ⟨c, 0, none⟩ (.int .u64 (bits .xor .u64 x1 (x1 / 128)))).drew) := (S1.out.setCell_new c 0 _ C1.out.old).drew
  have C2 : Aside (BoxU w0 c (.int .u64 (bits .xor .u64 x1 (x1 / 128))) (w1.setCell ⟨c, 0, none⟩ (.int .u64 (bits .xor .u64 x1 (x1 / 128)))).drew) := (C1.out.set _).drew
  have B2 := bits_in .xor x1 (x1 / 128)
  clear c1 f1 S1 C1 b10 b11
  generalize (w1.setCell ⟨c, 0, none⟩ (.int .u64 (bits .xor .u64 x1 (x1 / 128)))).drew = w2 at S2 C2 ⊢
  generalize bits .xor .u64 x1 (x1 / 128) = x2 at C2 B2 ⊢
  obtain ⟨b20, b21⟩ := B2
  have c2 := C2.out.cell
  have f2 := C2.out.froz
  go_wp2_with fail
  go_big_region
  have S3 : Aside (SW eU w0 blk off d (w2.setCell ⟨c, 0, none⟩ (.int .u64 (bits .xor .u64 x2 (IntKind.u64.wrap (x2 * 131072))))).drew) := (S2.out.setCell_new c 0 _ C2.out.old).drew
  have C3 : Aside (BoxU w0 c (.int .u64 (bits .xor .u64 x2 (IntKind.u64.wrap (x2 * 131072)))) (w2.setCell ⟨c, 0, none⟩ (.int .u64 (bits .xor .u64 x2 (IntKind.u64.wrap (x2 * 131072))))).drew) := (C2.out.set _).drew
  have B3 := bits_in .xor x2 (IntKind.u64.wrap (x2 * 131072))
  clear c2 f2 S2 C2 b20 b21
  generalize (w2.setCell ⟨c, 0, none⟩ (.int .u64 (bits .xor .u64 x2 (IntKind.u64.wrap (x2 * 131072))))).drew = w3 at S3 C3 ⊢
  generalize bits .xor .u64 x2 (IntKind.u64.wrap (x2 * 131072)) = x3 at C3 B3 ⊢
  obtain ⟨b30, b31⟩ := B3
  have c3 := C3.out.cell
  have f3 := C3.out.froz
  go_wp2_with fail
  go_ret
  exact ⟨x3, rfl, b30, b31, S3.out, C3.out⟩
theorem bl_cases : ∀ n : Fin 65, 8 ≤ n.val → (Lib.bitLen n.val = 4 ∧ 8 ≤ n.val) ∨ (Lib.bitLen n.val = 5 ∧ 16 ≤ n.val) ∨ (Lib.bitLen n.val = 6 ∧ 32 ≤ n.val) ∨ (Lib.bitLen n.val = 7 ∧ 64 ≤ n.val) := by decide +kernel
set_option maxHeartbeats 4000000 in
theorem nextPow_c (n : Nat) (h8 : 8 ≤ n) (h64 : n ≤ 64) (w : World) : Calls Try.prog 96 #[.int .i64 n] w fun e w' => ∃ m : Nat, e = .returned (.int .u64 m) ∧ 1 ≤ m ∧ m ≤ 2 * n ∧ w' = w := by
  have hl := bl_cases ⟨n, by omega⟩ h8
  have HLn := fun W => len_c (n : Int) W (by omega) (by omega)
  rw [Int.toNat_natCast] at HLn
  have wz : IntKind.u64.wrap (n : Int) = (n : Int) := by rw [IntKind.wrap_u64]; omega
  rcases hl with ⟨hb, hn⟩ | ⟨hb, hn⟩ | ⟨hb, hn⟩ | ⟨hb, hn⟩
  · simp only at hb
    rw [hb] at HLn
    have H := Lib.hid HLn
    have hm : 16 ≤ 2 * n := by simp only at hn; omega
    clear HLn hb hn
    go_enter Try.func96, Try.ntmps96
    go_wp2_with ((with_reducible refine (H.out _).mono ?_); rintro e w' ⟨rfl, rfl⟩)
    go_ret
    exact ⟨16, rfl, by omega, hm, rfl⟩
  · simp only at hb
    rw [hb] at HLn
    have H := Lib.hid HLn
    have hm : 32 ≤ 2 * n := by simp only at hn; omega
    clear HLn hb hn
    go_enter Try.func96, Try.ntmps96
    go_wp2_with ((with_reducible refine (H.out _).mono ?_); rintro e w' ⟨rfl, rfl⟩)
    go_ret
    exact ⟨32, rfl, by omega, hm, rfl⟩
  · simp only at hb
    rw [hb] at HLn
    have H := Lib.hid HLn
    have hm : 64 ≤ 2 * n := by simp only at hn; omega
    clear HLn hb hn
    go_enter Try.func96, Try.ntmps96
    go_wp2_with ((with_reducible refine (H.out _).mono ?_); rintro e w' ⟨rfl, rfl⟩)
    go_ret
    exact ⟨64, rfl, by omega, hm, rfl⟩
  · simp only at hb
    rw [hb] at HLn
    have H := Lib.hid HLn
    have hm : 128 ≤ 2 * n := by simp only at hn; omega
    clear HLn hb hn
    go_enter Try.func96, Try.ntmps96
    go_wp2_with ((with_reducible refine (H.out _).mono ?_); rintro e w' ⟨rfl, rfl⟩)
    go_ret
    exact ⟨128, rfl, by omega, hm, rfl⟩

set_option maxHeartbeats 4000000 in
set_option maxRecDepth 1000000 in
theorem brk_c (blk off cap : Nat) (a b : Nat) (za zb : Int) (hza : za = a) (hzb : zb = b) (d0 d : Array Int) (w0 w : World) (n : Nat) (hn : n = d.size) (R : Row1 eU w0 blk off d0) (hs : d0.size = d.size) (S : SW eU w0 blk off d w) (hsz : d.size < 4611686018427387904) (hab : a + 12 < b) (hb : b ≤ d.size) (h64 : b ≤ a + 64) :
    Calls Try.prog 75 #[.slice (some ⟨blk, off, none⟩) n cap, .int .i64 za, .int .i64 zb] w fun e w' => e = .returned (.tuple #[]) ∧ ∃ d', SW eU w0 blk off d' w' ∧ PermIn a b d d' := by
  subst hn hza hzb
  have mixed : Try.prog.follows .mixedOrders = true := by kernel_rfl
  have S0 : Aside (SW eU w0 blk off d w) := S
  have HS := Lib.hid hs
  have HL := Lib.hid lessU_c
  clear S hs
  obtain ⟨ln, hln⟩ : ∃ x, x = b - a := ⟨_, rfl⟩
  obtain ⟨q4, hq4⟩ : ∃ x, x = ln / 4 := ⟨_, rfl⟩
  obtain ⟨i0, hi0⟩ : ∃ x, x = a + q4 * 2 - 1 := ⟨_, rfl⟩
  obtain ⟨i2, hi2⟩ : ∃ x, x = a + q4 * 2 + 1 := ⟨_, rfl⟩
  have z1 : (b : Int) - (a : Int) = (ln : Int) := by omega
  have z2 : (ln : Int) / 4 = (q4 : Int) := by omega
  have z2' : (ln : Int).tdiv 4 = (q4 : Int) := by rw [Int.tdiv_eq_ediv_of_nonneg (by omega)]; exact z2
  have z3 : (a : Int) + (q4 : Int) * 2 - 1 = (i0 : Int) := by omega
  have z4 : (a : Int) + (q4 : Int) * 2 + 1 = (i2 : Int) := by omega
  have l1 : 8 ≤ ln := by omega
  have l2 : ln ≤ 64 := by omega
  have l3 : a ≤ i0 := by omega
  have l4 : i2 < b := by omega
  have l5 : i0 + 2 ≤ i2 := by omega
  have l6 : a + ln ≤ b := by omega
  have l7 : i2 ≤ i0 + 2 := by omega
  have wl : IntKind.u64.wrap (ln : Int) = (ln : Int) := by rw [IntKind.wrap_u64]; omega
  have HP2 := Lib.hid (fun W => nextPow_c ln l1 l2 W)
  have HNX := Lib.hid (fun c x d W S C h0 h1 => next_c blk off c x d w0 W S C h0 h1)
  have ST := Lib.hid (fun (W : World) (hW : SW eU w0 blk off d W) => And.intro (hW.alloc (.cells #[.int .u64 (ln : Int)] 138)) (BoxU.start hW (.int .u64 (ln : Int)) 138))
  have ST0 := Lib.hid (ST.out w S0.out)
  clear hln hq4 hi0 hi2 ST
  go_enter Try.func75, Try.ntmps75
  go_wp2_with fail
  refine (HP2.out _).mono ?_
  rintro e w1 ⟨m, rfl, m1, m2, rfl⟩
  obtain ⟨k, hk⟩ : ∃ k, m = k + 1 := ⟨m - 1, by omega⟩
  have zm : (m : Int) - 1 = (k : Int) := by omega
  have lk : k < 2 * ln := by omega
  clear hk
  have S1 : Aside (SW eU w0 blk off d (w.alloc (.cells #[.int .u64 (ln : Int)] 138))) := ST0.out.1
  have C1 : Aside (BoxU w0 w.heap.size (.int .u64 (ln : Int)) (w.alloc (.cells #[.int .u64 (ln : Int)] 138))) := ST0.out.2
  clear ST0 S0 HP2
  generalize w.alloc (.cells #[.int .u64 (ln : Int)] 138) = w1 at S1 C1 ⊢
  obtain ⟨c, hc⟩ : ∃ c, c = w.heap.size := ⟨_, rfl⟩
  rw [← hc] at C1 ⊢
  clear hc
  go_wp2_with fail
  go_loopg [9] 3 (fun kx s9 wr => ∃ (i : Nat) (x : Int) (dk : Array Int), s9 = .int .i64 i ∧ a ≤ i ∧ i ≤ i2 + 1 ∧ i2 + 1 - i ≤ kx ∧ 0 ≤ x ∧ x < 18446744073709551616 ∧ Aside (SW eU w0 blk off dk wr) ∧ Aside (BoxU w0 c (.int .u64 x) wr) ∧ PermIn a b d dk)
  case atStart => exact ⟨i0, (ln : Int), d, rfl, by omega, by omega, by omega, by omega, by omega, S1, C1, permIn_refl _ _ _⟩
  case round =>
    clear S1 C1
    obtain ⟨i, x, dk, rfl, hai, hii, hkx, hx0, hx1, S1, C1, HPm⟩ := hrel
    have HD : Hid (dk.size = d.size) := HPm.1
    by_cases hlt : i ≤ i2
    · have hz : (i : Int) ≤ (i2 : Int) := by omega
      go_wp2_with fail
      refine (HNX.out c x dk _ S1.out C1.out hx0 hx1).mono ?_
      rintro e w2 ⟨y, rfl, hy0, hy1, S2', C2'⟩
      have S2 : Aside (SW eU w0 blk off dk w2) := S2'
      have C2 : Aside (BoxU w0 c (.int .u64 y) w2) := C2'
      obtain ⟨Y, rfl⟩ : ∃ Y : Nat, y = (Y : Int) := ⟨y.toNat, by omega⟩
      obtain ⟨o, ho⟩ : ∃ o, o = Y &&& k := ⟨_, rfl⟩
      have zb : bits .and .u64 (Y : Int) (k : Int) = (o : Int) := by rw [bits_and_u64_nat Y k (by omega) (by omega), ho]
      have lo : o ≤ k := by rw [ho]; exact Nat.and_le_right
      clear ho S1 C1 S2' C2' hx0 hx1
      have S9 := S2
      clear S2
      by_cases hge : ln ≤ o
      · have hz2 : (ln : Int) ≤ (o : Int) := by omega
        obtain ⟨o2, ho2⟩ : ∃ x, x = o - ln := ⟨_, rfl⟩
        have q8 : (o : Int) - (ln : Int) = (o2 : Int) := by omega
        have lo2 : o2 < ln := by omega
        clear ho2
        go_wp2_with fail
        obtain ⟨ao, hao⟩ : ∃ x, x = a + o2 := ⟨_, rfl⟩
        have q9 : IntKind.i64.wrap ((a : Int) + (o2 : Int)) = (ao : Int) := by rw [IntKind.wrap_i64]; omega
        have la1 : a ≤ ao := by omega
        have la2 : ao < b := by omega
        have HPn : PermIn a b d (swp dk i ao) := permIn_trans _ _ _ _ _ HPm (swp_permIn dk a b i ao (by omega) (by omega) (by omega) (by omega) (by rw [HD.out]; omega))
        have hbk := R.hblk
        have C3 := fun u u' => C2.out.swapped (x := off + i) (y := off + ao) hbk u u'
        have C3' : Aside (∀ (u u' : Value), BoxU w0 c (.int .u64 (Y : Int)) ((w2.setCell ⟨blk, off + i, none⟩ u).setCell ⟨blk, off + ao, none⟩ u').drew) := C3
        clear hao HPm C2 C3 hbk
        go_wp2_with fail
        have hsz2 := HD.out
        have bI : (i : Int) < (d.size : Int) := by omega
        have bJ : (ao : Int) < (d.size : Int) := by omega
        have S2 := S9.out.swapped R (i) (ao) (by omega) (by omega)
        have ca := S9.out.c1 R (by rw [HD.out]; exact HS.out.symm) (i) (by omega)
        have cb := S9.out.c1 R (by rw [HD.out]; exact HS.out.symm) (ao) (by omega)
        have fa := S9.out.f1 R (by rw [HD.out]; exact HS.out.symm) (i) (by omega)
        have fb := S9.out.f1 R (by rw [HD.out]; exact HS.out.symm) (ao) (by omega)
        obtain ⟨uc, cc⟩ := S9.out.c2 R (by rw [HD.out]; exact HS.out.symm) (i) (ao) (by omega) (by omega) (eU dk[ao]!)
        clear hsz2
        generalize dk[i]! = vI at S2 ca cc
        generalize dk[ao]! = vJ at S2 cb cc
        replace S2 : Aside (SW eU w0 blk off (swp dk (i) (ao)) ((w2.setCell ⟨blk, off + i, none⟩ (.int .u64 vJ)).setCell ⟨blk, off + ao, none⟩ (.int .u64 vI)).drew) := S2
        replace ca : w2.cell? ⟨blk, off + i, none⟩ = some (.int .u64 vI) := ca
        replace cb : w2.cell? ⟨blk, off + ao, none⟩ = some (.int .u64 vJ) := cb
        replace cc : (w2.setCell ⟨blk, off + i, none⟩ (.int .u64 vJ)).cell? ⟨blk, off + ao, none⟩ = some uc := cc
        clear S9
        go_wp2_with fail
        go_big_region
        clear ca cb fa fb cc bI bJ
        have C4 := C3'.out (.int .u64 vJ) (.int .u64 vI)
        generalize ((w2.setCell ⟨blk, off + i, none⟩ (.int .u64 vJ)).setCell ⟨blk, off + ao, none⟩ (.int .u64 vI)).drew = w3 at S2 C4 ⊢
        have C5 : Aside (BoxU w0 c (.int .u64 (Y : Int)) w3) := C4
        clear C4 C3'
        go_wp2_with fail
        go_roundg (i2 + 1 - (i + 1))
        case measure => omega
        case rel => exact ⟨i + 1, (Y : Int), swp dk i ao, by go_num, by omega, by omega, Nat.le_refl _, by omega, by omega, S2, C5, HPn⟩
      · have hz2 : ¬ (ln : Int) ≤ (o : Int) := by omega
        have lo2 : o < ln := by omega
        go_wp2_with fail
        obtain ⟨ao, hao⟩ : ∃ x, x = a + o := ⟨_, rfl⟩
        have q9 : IntKind.i64.wrap ((a : Int) + (o : Int)) = (ao : Int) := by rw [IntKind.wrap_i64]; omega
        have la1 : a ≤ ao := by omega
        have la2 : ao < b := by omega
        have HPn : PermIn a b d (swp dk i ao) := permIn_trans _ _ _ _ _ HPm (swp_permIn dk a b i ao (by omega) (by omega) (by omega) (by omega) (by rw [HD.out]; omega))
        have hbk := R.hblk
        have C3 := fun u u' => C2.out.swapped (x := off + i) (y := off + ao) hbk u u'
        have C3' : Aside (∀ (u u' : Value), BoxU w0 c (.int .u64 (Y : Int)) ((w2.setCell ⟨blk, off + i, none⟩ u).setCell ⟨blk, off + ao, none⟩ u').drew) := C3
        clear hao HPm C2 C3 hbk
        go_wp2_with fail
        have hsz2 := HD.out
        have bI : (i : Int) < (d.size : Int) := by omega
        have bJ : (ao : Int) < (d.size : Int) := by omega
        have S2 := S9.out.swapped R (i) (ao) (by omega) (by omega)
        have ca := S9.out.c1 R (by rw [HD.out]; exact HS.out.symm) (i) (by omega)
        have cb := S9.out.c1 R (by rw [HD.out]; exact HS.out.symm) (ao) (by omega)
        have fa := S9.out.f1 R (by rw [HD.out]; exact HS.out.symm) (i) (by omega)
        have fb := S9.out.f1 R (by rw [HD.out]; exact HS.out.symm) (ao) (by omega)
        obtain ⟨uc, cc⟩ := S9.out.c2 R (by rw [HD.out]; exact HS.out.symm) (i) (ao) (by omega) (by omega) (eU dk[ao]!)
        clear hsz2
        generalize dk[i]! = vI at S2 ca cc
        generalize dk[ao]! = vJ at S2 cb cc
        replace S2 : Aside (SW eU w0 blk off (swp dk (i) (ao)) ((w2.setCell ⟨blk, off + i, none⟩ (.int .u64 vJ)).setCell ⟨blk, off + ao, none⟩ (.int .u64 vI)).drew) := S2
        replace ca : w2.cell? ⟨blk, off + i, none⟩ = some (.int .u64 vI) := ca
        replace cb : w2.cell? ⟨blk, off + ao, none⟩ = some (.int .u64 vJ) := cb
        replace cc : (w2.setCell ⟨blk, off + i, none⟩ (.int .u64 vJ)).cell? ⟨blk, off + ao, none⟩ = some uc := cc
        clear S9
        go_wp2_with fail
        go_big_region
        clear ca cb fa fb cc bI bJ
        have C4 := C3'.out (.int .u64 vJ) (.int .u64 vI)
        generalize ((w2.setCell ⟨blk, off + i, none⟩ (.int .u64 vJ)).setCell ⟨blk, off + ao, none⟩ (.int .u64 vI)).drew = w3 at S2 C4 ⊢
        have C5 : Aside (BoxU w0 c (.int .u64 (Y : Int)) w3) := C4
        clear C4 C3'
        go_wp2_with fail
        go_roundg (i2 + 1 - (i + 1))
        case measure => omega
        case rel => exact ⟨i + 1, (Y : Int), swp dk i ao, by go_num, by omega, by omega, Nat.le_refl _, by omega, by omega, S2, C5, HPn⟩
    · have hz : ¬ (i : Int) ≤ (i2 : Int) := by omega
      clear HD
      go_wp2
      go_end0
      exact ⟨rfl, dk, S1.out, HPm⟩
end Go.Proofs.Ytdjbnnjcifgnlaa

namespace Go.Proofs.Ytdjbnnjcifgnlaa
open Go.RowKit Go.Sort Go.Lib Go.Shelf


set_option maxHeartbeats 4000000 in
set_option maxRecDepth 1000000 in
theorem ord2_c (blk off cap : Nat) (a b : Nat) (za zb : Int) (hza : za = a) (hzb : zb = b) (d0 d : Array Int) (w0 w : World) (n : Nat) (hn : n = d.size) (R : Row1 eU w0 blk off d0) (hs : d0.size = d.size) (S : SW eU w0 blk off d w) (hsz : d.size < 4611686018427387904) (c : Nat) (s : Int) (C : BoxU w0 c (.int .i64 s) w) (ha : a < d.size) (hb : b < d.size) :
    Calls Try.prog 104 #[.slice (some ⟨blk, off, none⟩) n cap, .int .i64 za, .int .i64 zb, .pointer (some ⟨c, 0, none⟩)] w fun e w' => ∃ x y : Nat, e = .returned (.tuple #[.int .i64 x, .int .i64 y]) ∧ ((x = a ∧ y = b) ∨ (x = b ∧ y = a)) ∧ SW eU w0 blk off d w' ∧ ∃ s', BoxU w0 c (.int .i64 s') w' := by
  subst hn hza hzb
  have _hz := hsz
  have HD : Hid (d.size ≤ d.size) := Nat.le_refl _
  have C0 : Aside (BoxU w0 c (.int .i64 s) w) := C
  clear C
  have mixed : Try.prog.follows .mixedOrders = true := by kernel_rfl
  have S0 : Aside (SW eU w0 blk off d w) := S
  have HS := Lib.hid hs
  have HL := Lib.hid lessU_c
  clear S hs
  go_enter Try.func104, Try.ntmps104
  go_wp2_with fail
  have hsz2 := HD.out
  obtain ⟨x, hx⟩ : ∃ x, d[b]! = x := ⟨_, rfl⟩
  have cx := S0.out.c1 R HS.out.symm (b) (by omega)
  rw [hx] at cx
  replace cx : w.cell? ⟨blk, off + b, none⟩ = some (.int .u64 x) := cx
  have Xx := Lib.hid hx
  clear hx
  have bbx : (b : Int) < (d.size : Int) := by omega
  obtain ⟨y, hy⟩ : ∃ x, d[a]! = x := ⟨_, rfl⟩
  have cy := S0.out.c1 R HS.out.symm (a) (by omega)
  rw [hy] at cy
  replace cy : w.cell? ⟨blk, off + a, none⟩ = some (.int .u64 y) := cy
  have Xy := Lib.hid hy
  clear hy
  have bby : (a : Int) < (d.size : Int) := by omega
  clear hsz2
  cases hl : ltInt x y with
  | true =>
    go_wp2_with fail
    go_quiet ((go_at_call 79; with_reducible exact Calls.quiet_of_same (HL.out _ _ _)))
    have S1 : Aside (SW eU w0 blk off d (w.drewN nq)) := S0.out.drewN nq
    have C1 : Aside (BoxU w0 c (.int .i64 s) (w.drewN nq)) := C0.out.drewN nq
    clear C0
    clear cx bbx cy bby S0
    generalize w.drewN nq = wq at S1 C1 ⊢
    have c1 := C1.out.cell
    have f1 := C1.out.froz
    rw [hl]
    go_wp2_with fail
    go_ret2
    exact ⟨b, a, rfl, .inr ⟨rfl, rfl⟩, S1.out.setCell_new c 0 _ C1.out.old, _, C1.out.set _⟩
  | false =>
    go_wp2_with fail
    go_quiet ((go_at_call 79; with_reducible exact Calls.quiet_of_same (HL.out _ _ _)))
    have S1 : Aside (SW eU w0 blk off d (w.drewN nq)) := S0.out.drewN nq
    have C1 : Aside (BoxU w0 c (.int .i64 s) (w.drewN nq)) := C0.out.drewN nq
    clear C0
    clear cx bbx cy bby S0
    generalize w.drewN nq = wq at S1 C1 ⊢
    rw [hl]
    go_wp2_with fail
    go_ret2
    exact ⟨a, b, rfl, .inl ⟨rfl, rfl⟩, S1.out, _, C1.out⟩

set_option maxHeartbeats 4000000 in
set_option maxRecDepth 1000000 in
theorem med_c (blk off cap : Nat) (a b c3 : Nat) (za zb zc : Int) (hza : za = a) (hzb : zb = b) (hzc : zc = c3) (d0 d : Array Int) (w0 w : World) (n : Nat) (hn : n = d.size) (R : Row1 eU w0 blk off d0) (hs : d0.size = d.size) (S : SW eU w0 blk off d w) (hsz : d.size < 4611686018427387904) (c : Nat) (s : Int) (C : BoxU w0 c (.int .i64 s) w) (ha : a < d.size) (hb : b < d.size) (hc : c3 < d.size) :
    Calls Try.prog 99 #[.slice (some ⟨blk, off, none⟩) n cap, .int .i64 za, .int .i64 zb, .int .i64 zc, .pointer (some ⟨c, 0, none⟩)] w fun e w' => ∃ m : Nat, e = .returned (.int .i64 m) ∧ (m = a ∨ m = b ∨ m = c3) ∧ SW eU w0 blk off d w' ∧ ∃ s', BoxU w0 c (.int .i64 s') w' := by
  subst hn hza hzb hzc
  have HO := Lib.hid (fun a b W S c s C ha hb => ord2_c blk off cap a b a b rfl rfl d0 d w0 W d.size rfl R hs S hsz c s C ha hb)
  have C0 : Aside (BoxU w0 c (.int .i64 s) w) := C
  clear C
  have mixed : Try.prog.follows .mixedOrders = true := by kernel_rfl
  have S0 : Aside (SW eU w0 blk off d w) := S
  have HS := Lib.hid hs
  have HL := Lib.hid lessU_c
  clear S hs
  go_enter Try.func99, Try.ntmps99
  go_wp2_with fail
  refine (HO.out a b _ S0.out c s C0.out ha hb).mono ?_
  rintro e w1 ⟨x1, y1, rfl, h1, S1', s1, C1'⟩
  have S1 : Aside (SW eU w0 blk off d w1) := S1'
  have C1 : Aside (BoxU w0 c (.int .i64 s1) w1) := C1'
  have H1 := Lib.hid h1
  have k1 : x1 < d.size := by omega
  have k2 : y1 < d.size := by omega
  clear S1' C1' h1 S0 C0
  go_wp2_with fail
  refine (HO.out y1 c3 _ S1.out c s1 C1.out k2 hc).mono ?_
  rintro e w2 ⟨x2, y2, rfl, h2, S2', s2, C2'⟩
  have S2 : Aside (SW eU w0 blk off d w2) := S2'
  have C2 : Aside (BoxU w0 c (.int .i64 s2) w2) := C2'
  have H2 := Lib.hid h2
  have k3 : x2 < d.size := by omega
  clear S2' C2' h2 S1 C1
  go_wp2_with fail
  refine (HO.out x1 x2 _ S2.out c s2 C2.out k1 k3).mono ?_
  rintro e w3 ⟨x3, y3, rfl, h3, S3', s3, C3'⟩
  have S3 : Aside (SW eU w0 blk off d w3) := S3'
  have C3 : Aside (BoxU w0 c (.int .i64 s3) w3) := C3'
  have HF : Hid (y3 = a ∨ y3 = b ∨ y3 = c3) := by
    have := H1.out
    have := H2.out
    show _ ∨ _
    omega
  clear S3' C3' h3 S2 C2
  go_wp2_with fail
  go_ret
  exact ⟨y3, rfl, HF.out, S3.out, s3, C3.out⟩

set_option maxHeartbeats 4000000 in
set_option maxRecDepth 1000000 in
theorem adj_c (blk off cap : Nat) (a : Nat) (za : Int) (hza : za = a) (d0 d : Array Int) (w0 w : World) (n : Nat) (hn : n = d.size) (R : Row1 eU w0 blk off d0) (hs : d0.size = d.size) (S : SW eU w0 blk off d w) (hsz : d.size < 4611686018427387904) (c : Nat) (s : Int) (C : BoxU w0 c (.int .i64 s) w) (h0 : 1 ≤ a) (ha : a + 1 < d.size) :
    Calls Try.prog 98 #[.slice (some ⟨blk, off, none⟩) n cap, .int .i64 za, .pointer (some ⟨c, 0, none⟩)] w fun e w' => ∃ m : Nat, e = .returned (.int .i64 m) ∧ (m + 1 = a ∨ m = a ∨ m = a + 1) ∧ SW eU w0 blk off d w' ∧ ∃ s', BoxU w0 c (.int .i64 s') w' := by
  subst hn hza
  obtain ⟨p, hp⟩ : ∃ p, p = a - 1 := ⟨_, rfl⟩
  have z1 : (a : Int) - 1 = (p : Int) := by omega
  have z2 : (a : Int) + 1 = ((a + 1 : Nat) : Int) := by omega
  have HO := Lib.hid (med_c blk off cap p a (a + 1) p a ((a : Int) + 1) rfl rfl z2 d0 d w0 w d.size rfl R hs S hsz c s C (by omega) (by omega) ha)
  have l1 : p + 1 ≤ a := by omega
  have l2 : a ≤ p + 1 := by omega
  clear C hp z2
  have mixed : Try.prog.follows .mixedOrders = true := by kernel_rfl
  have S0 : Aside (SW eU w0 blk off d w) := S
  have HS := Lib.hid hs
  have HL := Lib.hid lessU_c
  clear S hs
  go_enter Try.func98, Try.ntmps98
  go_wp2_with fail
  refine (HO.out).mono ?_
  rintro e w1 ⟨m, rfl, h1, S1', s1, C1'⟩
  have S1 : Aside (SW eU w0 blk off d w1) := S1'
  have C1 : Aside (BoxU w0 c (.int .i64 s1) w1) := C1'
  have HF : Hid (m + 1 = a ∨ m = a ∨ m = a + 1) := by show _ ∨ _; omega
  clear S1' C1' h1 S0
  go_wp2_with fail
  go_ret
  exact ⟨m, rfl, HF.out, S1.out, s1, C1.out⟩

set_option maxHeartbeats 4000000 in
set_option maxRecDepth 1000000 in
theorem piv_c (blk off cap : Nat) (a b : Nat) (za zb : Int) (hza : za = a) (hzb : zb = b) (d0 d : Array Int) (w0 w : World) (n : Nat) (hn : n = d.size) (R : Row1 eU w0 blk off d0) (hs : d0.size = d.size) (S : SW eU w0 blk off d w) (hsz : d.size < 4611686018427387904) (hab : a + 12 < b) (hb : b ≤ d.size) :
    Calls Try.prog 76 #[.slice (some ⟨blk, off, none⟩) n cap, .int .i64 za, .int .i64 zb] w fun e w' => ∃ p h : Nat, e = .returned (.tuple #[.int .i64 p, .int .i64 h]) ∧ a ≤ p ∧ p < b ∧ h ≤ 2 ∧ SW eU w0 blk off d w' := by
  subst hn hza hzb
  have HMe := Lib.hid (fun a b c3 W S c s C ha hb hc => med_c blk off cap a b c3 a b c3 rfl rfl rfl d0 d w0 W d.size rfl R hs S hsz c s C ha hb hc)
  have HAd := Lib.hid (fun a W S c s C h0 ha => adj_c blk off cap a a rfl d0 d w0 W d.size rfl R hs S hsz c s C h0 ha)
  have mixed : Try.prog.follows .mixedOrders = true := by kernel_rfl
  have S0 : Aside (SW eU w0 blk off d w) := S
  have HS := Lib.hid hs
  have HL := Lib.hid lessU_c
  clear S hs
  obtain ⟨ln, hln⟩ : ∃ x, x = b - a := ⟨_, rfl⟩
  obtain ⟨q4, hq4⟩ : ∃ x, x = ln / 4 := ⟨_, rfl⟩
  obtain ⟨i, hi⟩ : ∃ x, x = a + q4 := ⟨_, rfl⟩
  obtain ⟨j, hj⟩ : ∃ x, x = a + q4 * 2 := ⟨_, rfl⟩
  obtain ⟨k, hk⟩ : ∃ x, x = a + q4 * 3 := ⟨_, rfl⟩
  have z1 : (b : Int) - (a : Int) = (ln : Int) := by omega
  have z2 : (ln : Int) / 4 = (q4 : Int) := by omega
  have z2' : (ln : Int).tdiv 4 = (q4 : Int) := by rw [Int.tdiv_eq_ediv_of_nonneg (by omega)]; exact z2
  have z3 : (a : Int) + (q4 : Int) = (i : Int) := by omega
  have z4 : (a : Int) + (q4 : Int) * 2 = (j : Int) := by omega
  have z5 : (a : Int) + (q4 : Int) * 3 = (k : Int) := by omega
  have l1 : 13 ≤ ln := by omega
  have l8 : (8 : Int) ≤ (ln : Int) := by omega
  have l2 : a + 3 ≤ i := by omega
  have l3 : i < j := by omega
  have l4 : j < k := by omega
  have l5 : k + 1 < b := by omega
  have ST := Lib.hid (fun (W : World) (hW : SW eU w0 blk off d W) => And.intro (hW.alloc (.cells #[.int .i64 0] 3)) (BoxU.start hW (.int .i64 0) 3))
  have ST0 := Lib.hid (ST.out w S0.out)
  clear hln hq4 hi hj hk ST
  go_enter Try.func76, Try.ntmps76
  go_upto_if 32 with fail
  have S1 : Aside (SW eU w0 blk off d (w.alloc (.cells #[.int .i64 0] 3))) := ST0.out.1
  have C1 : Aside (BoxU w0 w.heap.size (.int .i64 0) (w.alloc (.cells #[.int .i64 0] 3))) := ST0.out.2
  clear ST0 S0
  generalize w.alloc (.cells #[.int .i64 0] 3) = w1 at S1 C1 ⊢
  obtain ⟨c, hc⟩ : ∃ c, c = w.heap.size := ⟨_, rfl⟩
  rw [← hc] at C1 ⊢
  clear hc
  go_cut [11] (fun s11 wx => ∃ (p : Nat) (s : Int), s11 = .int .i64 p ∧ a ≤ p ∧ p < b ∧ Aside (SW eU w0 blk off d wx) ∧ Aside (BoxU w0 c (.int .i64 s) wx))
  case first =>
    by_cases h50 : 50 ≤ ln
    · have z50 : (50 : Int) ≤ (ln : Int) := by omega
      go_wp2_with fail
      refine (HAd.out i _ S1.out c 0 C1.out (by omega) (by omega)).mono ?_
      rintro e w2 ⟨i', rfl, hi', S2', s2, C2'⟩
      have S2 : Aside (SW eU w0 blk off d w2) := S2'
      have C2 : Aside (BoxU w0 c (.int .i64 s2) w2) := C2'
      have m1 : a ≤ i' := by omega
      have m2 : i' < b := by omega
      clear hi' S2' C2' S1 C1
      go_wp2_with fail
      refine (HAd.out j _ S2.out c s2 C2.out (by omega) (by omega)).mono ?_
      rintro e w3 ⟨j', rfl, hj', S3', s3, C3'⟩
      have S3 : Aside (SW eU w0 blk off d w3) := S3'
      have C3 : Aside (BoxU w0 c (.int .i64 s3) w3) := C3'
      have m3 : a ≤ j' := by omega
      have m4 : j' < b := by omega
      clear hj' S3' C3' S2 C2
      go_wp2_with fail
      refine (HAd.out k _ S3.out c s3 C3.out (by omega) (by omega)).mono ?_
      rintro e w4 ⟨k', rfl, hk', S4', s4, C4'⟩
      have S4 : Aside (SW eU w0 blk off d w4) := S4'
      have C4 : Aside (BoxU w0 c (.int .i64 s4) w4) := C4'
      have m5 : a ≤ k' := by omega
      have m6 : k' < b := by omega
      clear hk' S4' C4' S3 C3
      go_wp2_with fail
      refine (HMe.out i' j' k' _ S4.out c s4 C4.out (by omega) (by omega) (by omega)).mono ?_
      rintro e w5 ⟨m, rfl, hm, S5', s5, C5'⟩
      have S5 : Aside (SW eU w0 blk off d w5) := S5'
      have C5 : Aside (BoxU w0 c (.int .i64 s5) w5) := C5'
      have m7 : a ≤ m := by omega
      have m8 : m < b := by omega
      clear hm S5' C5' S4 C4
      go_wp2_with fail
      go_meet
      case rel => exact ⟨m, s5, rfl, m7, m8, S5, C5⟩
    · have z50 : ¬ (50 : Int) ≤ (ln : Int) := by omega
      go_wp2_with fail
      refine (HMe.out i j k _ S1.out c 0 C1.out (by omega) (by omega) (by omega)).mono ?_
      rintro e w5 ⟨m, rfl, hm, S5', s5, C5'⟩
      have S5 : Aside (SW eU w0 blk off d w5) := S5'
      have C5 : Aside (BoxU w0 c (.int .i64 s5) w5) := C5'
      have m7 : a ≤ m := by omega
      have m8 : m < b := by omega
      clear hm S5' C5' S1 C1
      go_wp2_with fail
      go_meet
      case rel => exact ⟨m, s5, rfl, m7, m8, S5, C5⟩
  case rest =>
  obtain ⟨p, s, rfl, hp1, hp2, S5, C5⟩ := hcut
  clear S1 C1
  have c5 := C5.out.cell
  by_cases h0 : s = 0
  · have e0 : (s == 0) = true := by simp [h0]
    clear h0
    go_wp2_with fail
    go_ret2
    exact ⟨p, 1, rfl, hp1, hp2, by omega, S5.out⟩
  · have e0 : (s == 0) = false := by simp [h0]
    by_cases h12 : s = 12
    · have e12 : (s == 12) = true := by simp [h12]
      clear h0 h12
      go_wp2_with fail
      go_ret2
      exact ⟨p, 2, rfl, hp1, hp2, by omega, S5.out⟩
    · have e12 : (s == 12) = false := by simp [h12]
      clear h0 h12
      go_wp2_with fail
      go_ret2
      exact ⟨p, 0, rfl, hp1, hp2, by omega, S5.out⟩
end Go.Proofs.Ytdjbnnjcifgnlaa

namespace Go.Proofs.Ytdjbnnjcifgnlaa
open Go.RowKit Go.Sort Go.Lib Go.Shelf

/-- Whatever sorts [a, b) of d from here sorts [a0, b0) of d0. -/
def OkU (a0 b0 : Nat) (d0 : Array Int) (a b : Nat) (d : Array Int) : Prop := ∀ R, PermIn a b d R → SortedIn ltInt a b R → PermIn a0 b0 d0 R ∧ SortedIn ltInt a0 b0 R
def StU (a0 b0 : Nat) (d0 : Array Int) (a b : Nat) (d : Array Int) : Prop := d.size = d0.size ∧ Below ltInt a b d ∧ OkU a0 b0 d0 a b d
theorem StU.perm {a0 b0 a b : Nat} {d0 d d' : Array Int} (h : StU a0 b0 d0 a b d) (hb : b ≤ d0.size) (hp : PermIn a b d d') : StU a0 b0 d0 a b d' :=
  ⟨hp.1.trans h.1, h.2.1.perm (by rw [h.1]; exact hb) hp, fun R hR hs => h.2.2 R (permIn_trans _ _ _ a b hp hR) hs⟩
theorem ltI {x y : Int} : ltInt x y = true ↔ x < y := by simp [ltInt]
theorem ltI' {x y : Int} : ltInt x y = false ↔ y ≤ x := by simp [ltInt]
theorem StU.eq {a0 b0 a b m pv : Nat} {d0 d d' : Array Int} (h : StU a0 b0 d0 a b d) (hb : b ≤ d0.size) (h0 : 0 < a) (hn : ltInt d[a - 1]! d[pv]! = false) (hP : PEq a b m d[pv]! d d') :
    StU a0 b0 d0 m b d' := by
  obtain ⟨hs, hB, hO⟩ := h
  obtain ⟨hp, ha, hm, hle, hgt⟩ := hP
  have hbd : b ≤ d.size := by rw [hs]; exact hb
  have hbd' : b ≤ d'.size := by rw [hp.1]; exact hbd
  have hge : ∀ i, a ≤ i → i < b → d[pv]! ≤ d'[i]! := fun i hi hi' => by
    refine permIn_all d d' a b (fun x => d[pv]! ≤ x) hbd hp (fun k hk hk' => ?_) i hi hi'
    rcases hB with h1 | hB
    · omega
    · have k1 := ltI'.1 (hB k hk hk')
      have k2 := ltI'.1 hn
      omega
  have hlt : ∀ i, m ≤ i → i < b → d[pv]! < d'[i]! := fun i hi hi' => ltI.1 (hgt i hi hi')
  have heq : ∀ i, a ≤ i → i < m → d'[i]! = d[pv]! := fun i hi hi' => by
    have k1 := hge i hi (by omega)
    have k2 := ltI'.1 (hle i hi hi')
    omega
  refine ⟨hp.1.trans hs, .inr fun i hi hi' => ?_, fun R hR hsR => hO R ?_ ?_⟩
  · rw [heq (m - 1) (by omega) (by omega)]
    have := hlt i hi hi'
    exact ltI'.2 (by omega)
  · exact permIn_trans _ _ _ a b hp (permIn_mono _ _ m b a b (by omega) (Nat.le_refl _) hbd' hR)
  · intro i j hi hij hj
    by_cases h1 : m ≤ i
    · exact hsR i j h1 hij hj
    · have e1 : R[i]! = d[pv]! := by rw [hR.2.1 i (.inl (by omega))]; exact heq i hi (by omega)
      rw [e1]
      by_cases h2 : m ≤ j
      · have := permIn_all d' R m b (fun x => d[pv]! < x) hbd' hR hlt j h2 hj
        exact ltI'.2 (by omega)
      · have e2 : R[j]! = d[pv]! := by rw [hR.2.1 j (.inl (by omega))]; exact heq j (by omega) (by omega)
        rw [e2]
        exact ltI'.2 (Int.le_refl _)
theorem StU.left {a0 b0 a b m : Nat} {d0 d d' L : Array Int} (h : StU a0 b0 d0 a b d) (hb : b ≤ d0.size) (hP : PPart a b m d d') (hL : PermIn a m d' L) (hsL : SortedIn ltInt a m L) : StU a0 b0 d0 (m + 1) b L := by
  obtain ⟨hs, hB, hO⟩ := h
  obtain ⟨hp, ha, hm, hlo, hhi⟩ := hP
  have hbd' : b ≤ d'.size := by rw [hp.1, hs]; exact hb
  have hbL : b ≤ L.size := by rw [hL.1]; exact hbd'
  have eL : ∀ i, m ≤ i → L[i]! = d'[i]! := fun i hi => hL.2.1 i (.inr hi)
  have kL : ∀ i, a ≤ i → i < m → ltInt L[i]! d'[m]! = true := permIn_all d' L a m (fun x => ltInt x d'[m]! = true) (by omega) hL hlo
  have kR : ∀ i, m < i → i < b → ltInt L[i]! d'[m]! = false := fun i hi hi' => by rw [eL i (by omega)]; exact hhi i hi hi'
  refine ⟨hL.1.trans (hp.1.trans hs), .inr fun i hi hi' => ?_, fun R hR hsR => hO R ?_ ?_⟩
  · rw [show m + 1 - 1 = m by omega, eL m (Nat.le_refl _)]
    exact kR i (by omega) hi'
  · exact permIn_trans _ _ _ a b hp (permIn_trans _ _ _ a b (permIn_mono _ _ a m a b (Nat.le_refl _) (by omega) hbd' hL) (permIn_mono _ _ (m + 1) b a b (by omega) (Nat.le_refl _) hbL hR))
  · have eR : ∀ i, i ≤ m → R[i]! = L[i]! := fun i hi => hR.2.1 i (.inl (by omega))
    have em : R[m]! = d'[m]! := (eR m (Nat.le_refl _)).trans (eL m (Nat.le_refl _))
    refine sorted_glue swo_ltInt (mid := m) (fun i j hi hij hj => ?_) hsR (fun i hi hi' => ?_) fun i hi hi' => ?_
    · rw [eR i (by omega), eR j (by omega)]
      exact hsL i j hi hij hj
    · rw [em, eR i (by omega)]
      exact kL i hi hi'
    · rw [em]
      exact permIn_all L R (m + 1) b (fun x => ltInt x d'[m]! = false) hbL hR (fun k hk hk' => kR k (by omega) hk') i (by omega) hi'
theorem StU.right {a0 b0 a b m : Nat} {d0 d d' L : Array Int} (h : StU a0 b0 d0 a b d) (hb : b ≤ d0.size) (hP : PPart a b m d d') (hL : PermIn (m + 1) b d' L) (hsL : SortedIn ltInt (m + 1) b L) : StU a0 b0 d0 a m L := by
  obtain ⟨hs, hB, hO⟩ := h
  obtain ⟨hp, ha, hm, hlo, hhi⟩ := hP
  have hbd : b ≤ d.size := by rw [hs]; exact hb
  have hbd' : b ≤ d'.size := by rw [hp.1]; exact hbd
  have hbL : b ≤ L.size := by rw [hL.1]; exact hbd'
  have eL : ∀ i, i ≤ m → L[i]! = d'[i]! := fun i hi => hL.2.1 i (.inl (by omega))
  have kR : ∀ i, m < i → i < b → ltInt L[i]! d'[m]! = false := fun i hi hi' => permIn_all d' L (m + 1) b (fun x => ltInt x d'[m]! = false) hbd' hL (fun k hk hk' => hhi k (by omega) hk') i (by omega) hi'
  refine ⟨hL.1.trans (hp.1.trans hs), ?_, fun R hR hsR => hO R ?_ ?_⟩
  · rcases hB.perm hbd hp with h1 | h1
    · exact .inl h1
    · by_cases h0 : a = 0
      · exact .inl h0
      · refine .inr fun i hi hi' => ?_
        rw [eL i (by omega), eL (a - 1) (by omega)]
        exact h1 i hi (by omega)
  · exact permIn_trans _ _ _ a b hp (permIn_trans _ _ _ a b (permIn_mono _ _ (m + 1) b a b (by omega) (Nat.le_refl _) hbd' hL) (permIn_mono _ _ a m a b (Nat.le_refl _) (by omega) hbL hR))
  · have eR : ∀ i, m ≤ i → R[i]! = L[i]! := fun i hi => hR.2.1 i (.inr hi)
    have em : R[m]! = d'[m]! := (eR m (Nat.le_refl _)).trans (eL m (Nat.le_refl _))
    refine sorted_glue swo_ltInt (mid := m) hsR (fun i j hi hij hj => ?_) (fun i hi hi' => ?_) fun i hi hi' => ?_
    · rw [eR i (by omega), eR j (by omega)]
      exact hsL i j hi hij hj
    · rw [em]
      exact permIn_all L R a m (fun x => ltInt x d'[m]! = true) (by omega) hR (fun k hk hk' => by rw [eL k (by omega)]; exact hlo k hk hk') i hi hi'
    · rw [em, eR i (by omega)]
      exact kR i hi hi'
theorem below_left {a b m : Nat} {d d' : Array Int} (hB : Below ltInt a b d) (hb : b ≤ d.size) (hP : PPart a b m d d') : Below ltInt a m d' :=
  (hB.perm hb hP.1).mono (by have := hP.2.2.1; omega)
theorem below_right {a b m : Nat} {d d' : Array Int} (hP : PPart a b m d d') : Below ltInt (m + 1) b d' :=
  .inr fun i hi hi' => by rw [show m + 1 - 1 = m by omega]; exact hP.2.2.2.2 i (by omega) hi'

theorem pins2_c (blk off cap : Nat) (a b : Nat) (d0 d : Array Int) (w0 w : World) (n : Nat) (hn : n = d.size) (R : Row1 eU w0 blk off d0) (hs : d0.size = d.size) (S : SW eU w0 blk off d w) (hsz : d.size < 4611686018427387904) (hab : a < b) (hb : b ≤ d.size) (hB : Below ltInt a b d) :
    Calls Try.prog 78 #[.slice (some ⟨blk, off, none⟩) n cap, .int .i64 a, .int .i64 b] w fun e w' => ∃ (t : Bool) (d' : Array Int), e = .returned (.bool t) ∧ SW eU w0 blk off d' w' ∧ PermIn a b d d' ∧ (t = true → SortedIn ltInt a b d') := by
  refine (pins_c blk off cap a b a b rfl rfl d0 d w0 w n hn R hs S hsz hab hb).mono ?_
  rintro e w' ⟨rfl, S'⟩
  have H := partialInsertionSort_holds swo_ltInt d a b hab hb hB
  exact ⟨_, _, rfl, S', H.1, H.2⟩

set_option maxHeartbeats 4000000 in
set_option maxRecDepth 1000000 in
theorem pdq_c (blk off cap : Nat) (d0 : Array Int) (w0 : World) (R : Row1 eU w0 blk off d0) (h64 : d0.size ≤ 64) : ∀ (N a b lim : Nat) (za zb zl : Int) (d : Array Int) (w : World) (n : Nat), za = a → zb = b → zl = lim → n = d.size → d0.size = d.size → SW eU w0 blk off d w → b - a < N → a ≤ b → b ≤ d.size → lim < 1000 → Below ltInt a b d →
    Calls Try.prog 48 #[.slice (some ⟨blk, off, none⟩) n cap, .int .i64 za, .int .i64 zb, .int .i64 zl] w fun e w' => e = .returned (.tuple #[]) ∧
      ∃ d', SW eU w0 blk off d' w' ∧ PermIn a b d d' ∧ SortedIn ltInt a b d' := by
  intro N
  induction N with
  | zero => intro _ _ _ _ _ _ _ _ _ _ _ _ _ _ _ h; exact absurd h (Nat.not_lt_zero _)
  | succ N ih =>
  intro a b lim za zb zl d w n hza hzb hzl hn hs S hN hab hb hlim hB
  subst hza hzb hzl hn
  have hd64 : d.size ≤ 64 := by omega
  have HS := Lib.hid hs
  have HL := Lib.hid lessU_c
  have HI := Lib.hid (fun a' b' dk W (h : d.size = dk.size) S h1 (h2 : b' ≤ d.size) => insU_c blk off cap a' b' a' b' d0 dk w0 W d.size rfl rfl h R (hs.trans h) S h1 (by omega) (by omega))
  have HH := Lib.hid (fun a' b' dk W (h : d.size = dk.size) S h1 (h2 : b' ≤ d.size) => heap_c blk off cap a' b' a' b' rfl rfl d0 dk w0 W d.size h R (hs.trans h) S (by omega) h1 (by omega))
  have HB := Lib.hid (fun a' b' dk W (h : d.size = dk.size) S h1 (h2 : b' ≤ d.size) => brk_c blk off cap a' b' a' b' rfl rfl d0 dk w0 W d.size h R (hs.trans h) S (by omega) h1 (by omega) (by omega))
  have HP := Lib.hid (fun a' b' dk W (h : d.size = dk.size) S h1 (h2 : b' ≤ d.size) => piv_c blk off cap a' b' a' b' rfl rfl d0 dk w0 W d.size h R (hs.trans h) S (by omega) h1 (by omega))
  have HR := Lib.hid (fun a' b' dk W (h : d.size = dk.size) S h1 (h2 : b' ≤ d.size) => rev_c blk off cap a' b' a' b' rfl rfl d0 dk w0 W d.size h R (hs.trans h) S (by omega) h1 (by omega))
  have HN := Lib.hid (fun a' b' dk W (h : d.size = dk.size) S h1 (h2 : b' ≤ d.size) hB => pins2_c blk off cap a' b' d0 dk w0 W d.size h R (hs.trans h) S (by omega) h1 (by omega) hB)
  have HE := Lib.hid (fun a' b' p dk W (h : d.size = dk.size) S h1 h2 (h3 : b' ≤ d.size) => peq_c blk off cap a' b' p a' b' p rfl rfl rfl d0 dk w0 W d.size h R (hs.trans h) S (by omega) h1 h2 (by omega))
  have HA := Lib.hid (fun a' b' p dk W (h : d.size = dk.size) S h1 h2 (h3 : b' ≤ d.size) => part_c blk off cap a' b' p a' b' p rfl rfl rfl d0 dk w0 W d.size h R (hs.trans h) S (by omega) h1 h2 (by omega))
  have IH := Lib.hid (fun (a' b' l : Nat) (za : Int) (hza : za = a') dk W (h : d.size = dk.size) S h1 h2 (h3 : b' ≤ d.size) hl hB => ih a' b' l za b' l dk W d.size hza rfl rfl h (hs.trans h) S h1 h2 (by omega) hl hB)
  have S0 : Aside (SW eU w0 blk off d w) := S
  have HX0 : Aside (StU a b d a b d) := show StU a b d a b d from ⟨rfl, hB, fun R h1 h2 => ⟨h1, h2⟩⟩
  clear S hs ih hB
  go_enter Try.func48, Try.ntmps48
  go_wp2
  go_loopg [1, 2, 3, 8, 9] (b - a) (fun k s1 s2 s3 s8 s9 wr => ∃ (a' b' l : Nat) (wb wp : Bool) (dk : Array Int), s1 = .int .i64 a' ∧ s2 = .int .i64 b' ∧ s3 = .int .i64 l ∧ s8 = .bool wb ∧ s9 = .bool wp ∧
      a' ≤ b' ∧ b' ≤ d.size ∧ b' - a' ≤ k ∧ k ≤ b - a ∧ l ≤ lim ∧ Aside (StU a b d a' b' dk) ∧ Aside (SW eU w0 blk off dk wr))
  case atStart => exact ⟨a, b, lim, true, true, d, rfl, rfl, rfl, rfl, rfl, hab, hb, Nat.le_refl _, Nat.le_refl _, Nat.le_refl _, HX0, S0⟩
  case round =>
  clear S0 HX0
  obtain ⟨a', b', l, wb, wp, dk, rfl, rfl, rfl, rfl, rfl, hab', hb', hk, hkN, hl, HX, S1⟩ := hrel
  by_cases h12 : b' - a' ≤ 12
  · have h12z : (b' : Int) - (a' : Int) ≤ 12 := by omega
    clear h12
    go_wp2_with fail
    refine (HI.out a' b' dk _ HX.out.1.symm S1.out hab' hb').mono ?_
    rintro e w2 ⟨rfl, d2, S2, P2, O2⟩
    go_wp2_with fail
    (try simp only [Exit.inBlock, Exit.then])
    refine bodyPost_ret (results_none rfl _ _ _) rfl ?_
    exact ⟨rfl, d2, S2, (HX.out.2.2 d2 P2 O2).1, (HX.out.2.2 d2 P2 O2).2⟩
  have h12z : ¬ ((b' : Int) - (a' : Int) ≤ 12) := by omega
  have h13 : a' + 12 < b' := by omega
  clear h12
  by_cases hl0 : l = 0
  · subst hl0
    go_wp2_with fail
    refine (HH.out a' b' dk _ HX.out.1.symm S1.out (by omega) hb').mono ?_
    rintro e w2 ⟨rfl, d2, S2, P2, O2⟩
    go_wp2_with fail
    (try simp only [Exit.inBlock, Exit.then])
    refine bodyPost_ret (results_none rfl _ _ _) rfl ?_
    exact ⟨rfl, d2, S2, (HX.out.2.2 d2 P2 O2).1, (HX.out.2.2 d2 P2 O2).2⟩
  have hl0z : ¬ ((l : Int) = 0) := by omega
  go_upto_if 35 with fail
  go_cut [3] from 19 to 133 (fun s3 wx => ∃ (l1 : Nat) (d1 : Array Int), s3 = .int .i64 l1 ∧ l1 ≤ lim ∧ Aside (PermIn a' b' dk d1) ∧ Aside (SW eU w0 blk off d1 wx))
  case first =>
    cases wb
    · go_wp2_with fail
      refine (HB.out a' b' dk _ HX.out.1.symm S1.out h13 hb').mono ?_
      rintro e w2 ⟨rfl, d1, S2, P2⟩
      go_wp2_with fail
      go_meet
      case rel =>
        refine ⟨l - 1, d1, ?_, by omega, P2, S2⟩
        show Value.int .i64 ((l : Int) - 1) = Value.int .i64 ((l - 1 : Nat) : Int)
        congr 1
        omega
    · go_wp2_with fail
      go_meet
      case rel => exact ⟨l, dk, rfl, hl, permIn_refl _ _ _, S1⟩
  case rest =>
  obtain ⟨l1, d1, rfl, hl1, P1, S2⟩ := hcut
  have HX1 : Aside (StU a b d a' b' d1) := StU.perm HX.out hb' P1.out
  clear S1 HX P1 hl0 hl0z hl
  have HC := Lib.hid (HP.out a' b' d1 _ HX1.out.1.symm S2.out h13 hb')
  go_upto_if 50 with ((with_reducible refine (HC.out).mono ?_); rintro e w3 ⟨p, h, rfl, hp1, hp2, hh, S3'⟩)
  have S3 : Aside (SW eU w0 blk off d1 w3) := S3'
  clear S3' S2 HC
  go_cut [11, 12] from 19 to 133 (fun s11 s12 wx => ∃ (p' h' : Nat) (d2 : Array Int), s11 = .int .i64 p' ∧ s12 = .int .i64 h' ∧ a' ≤ p' ∧ p' < b' ∧ Aside (PermIn a' b' d1 d2) ∧ Aside (SW eU w0 blk off d2 wx))
  case first =>
    by_cases h2 : h = 2
    · subst h2
      go_wp2_with fail
      refine (HR.out a' b' d1 _ HX1.out.1.symm S3.out (by omega) hb').mono ?_
      rintro e w4 ⟨rfl, d2, S4, P4⟩
      go_wp2_with fail
      go_meet
      case rel =>
        refine ⟨(b' - 1) - (p - a'), 1, d2, ?_, rfl, by omega, by omega, P4, S4⟩
        congr 1
        omega
    · have h2z : ¬ ((h : Int) = 2) := by omega
      go_wp2_with fail
      go_meet
      case rel => exact ⟨p, h, d1, rfl, rfl, hp1, hp2, permIn_refl _ _ _, S3⟩
  case rest =>
  obtain ⟨p', h', d2, rfl, rfl, hq1, hq2, P2, S4⟩ := hcut
  have HX2 : Aside (StU a b d a' b' d2) := StU.perm HX1.out hb' P2.out
  clear S3 HX1 P2 hp1 hp2 hh
  go_upto_region 15 with fail
  go_cut [12, 68] from 19 to 133 (fun s12 s68 wx => ∃ c : Bool, s12 = .int .i64 h' ∧ s68 = .bool c ∧ wx = wc)
  case first =>
    cases wb <;> cases wp <;> (by_cases h1 : h' = 1
                               · have h1z : (h' : Int) = 1 := by omega
                                 go_wp2_with fail
                                 go_meet
                                 case rel => exact ⟨_, rfl, rfl, rfl⟩
                               · have h1z : ¬ (h' : Int) = 1 := by omega
                                 go_wp2_with fail
                                 go_meet
                                 case rel => exact ⟨_, rfl, rfl, rfl⟩)
  case rest =>
  obtain ⟨c, rfl, rfl, rfl⟩ := hcut
  go_upto_if 68 with fail
  go_cut [] from 19 to 133 (fun wx => ∃ d3 : Array Int, Aside (PermIn a' b' d2 d3) ∧ Aside (SW eU w0 blk off d3 wx))
  case first =>
    cases c
    · go_wp2_with fail
      go_meet
      case rel => exact ⟨d2, permIn_refl _ _ _, S4⟩
    · go_wp2_with fail
      refine (HN.out a' b' d2 _ HX2.out.1.symm S4.out (by omega) hb' HX2.out.2.1).mono ?_
      rintro e w5 ⟨t, d3, rfl, S5, P5, O5⟩
      cases t
      · go_wp2_with fail
        go_meet
        case rel => exact ⟨d3, P5, S5⟩
      · go_wp2_with fail
        (try simp only [Exit.inBlock, Exit.then])
        refine bodyPost_ret (results_none rfl _ _ _) rfl ?_
        exact ⟨rfl, d3, S5, (HX2.out.2.2 d3 P5 (O5 (by trivial))).1, (HX2.out.2.2 d3 P5 (O5 (by trivial))).2⟩
  case rest =>
  obtain ⟨d3, P3, S5⟩ := hcut
  have HX3 : Aside (StU a b d a' b' d3) := StU.perm HX2.out hb' P3.out
  have HD : Hid (d3.size = d.size) := HX3.out.1
  clear S4 HX2 P3
  go_upto_region 17 with fail
  go_cut [87] from 19 to 133 (fun s87 wx => ∃ t : Bool, s87 = .bool t ∧ Aside (t = true → 0 < a' ∧ ltInt d3[a' - 1]! d3[p']! = false) ∧ Aside (SW eU w0 blk off d3 wx))
  case first =>
    rcases Nat.eq_zero_or_pos a' with ha0 | ha0
    · have ha0z : decide ((a' : Int) > 0) = false := decide_eq_false (by omega)
      go_quiet ((go_at_call 79; with_reducible exact Calls.quiet_of_same (HL.out _ _ _)))
      have S6 : Aside (SW eU w0 blk off d3 (wc.drewN nq)) := S5.out.drewN nq
      clear S5
      generalize wc.drewN nq = wq at S6 ⊢
      go_wp2_with fail
      go_meet
      case rel =>
        refine ⟨false, rfl, ?_, S6⟩
        show _ → _
        intro h
        cases h
    · have ha0z : (a' : Int) > 0 := by omega
      obtain ⟨q, hq⟩ : ∃ q, q = a' - 1 := ⟨_, rfl⟩
      have zq : (a' : Int) - 1 = (q : Int) := by omega
      have lq : q < a' := by omega
      have HQ := Lib.hid hq
      clear hq
      have hsz2 := HD.out
      obtain ⟨x, hx⟩ : ∃ x, d3[q]! = x := ⟨_, rfl⟩
      have cx := S5.out.c1 R (by rw [HD.out]; exact HS.out.symm) (q) (by omega)
      rw [hx] at cx
      replace cx : wc.cell? ⟨blk, off + q, none⟩ = some (.int .u64 x) := cx
      have Xx := Lib.hid hx
      clear hx
      have bbx : (q : Int) < (d.size : Int) := by omega
      obtain ⟨y, hy⟩ : ∃ x, d3[p']! = x := ⟨_, rfl⟩
      have cy := S5.out.c1 R (by rw [HD.out]; exact HS.out.symm) (p') (by omega)
      rw [hy] at cy
      replace cy : wc.cell? ⟨blk, off + p', none⟩ = some (.int .u64 y) := cy
      have Xy := Lib.hid hy
      clear hy
      have bby : (p' : Int) < (d.size : Int) := by omega
      clear hsz2
      go_quiet ((go_at_call 79; with_reducible exact Calls.quiet_of_same (HL.out _ _ _)))
      have S6 : Aside (SW eU w0 blk off d3 (wc.drewN nq)) := S5.out.drewN nq
      clear cx bbx cy bby S5
      generalize wc.drewN nq = wq at S6 ⊢
      go_wp2_with fail
      go_meet
      case rel =>
        refine ⟨!ltInt x y, rfl, ?_, S6⟩
        show _ → _
        intro h
        rw [← HQ.out, Xx.out, Xy.out]
        exact ⟨ha0, by simpa using h⟩
  case rest =>
  obtain ⟨t, rfl, HT, S6⟩ := hcut
  clear S5
  cases t
  · have HC := Lib.hid (HA.out a' b' p' d3 _ HX3.out.1.symm S6.out hq1 hq2 hb')
    go_upto_if 113 with ((with_reducible refine (HC.out).mono ?_); rintro e w7 ⟨mid, ap, rfl, d4, S7', P7'⟩; have r1 : a' ≤ mid := P7'.2.1; have r2 : mid < b' := P7'.2.2.1)
    have S7 : Aside (SW eU w0 blk off d4 w7) := S7'
    have P7 : Aside (PPart a' b' mid d3 d4) := P7'
    have H4 : Hid (d.size = d4.size) := by show _ = _; rw [P7'.1.1]; exact HX3.out.1.symm
    clear S7' P7' S6 HC HT
    by_cases h4 : mid - a' < b' - mid
    · have h4z : (mid : Int) - (a' : Int) < (b' : Int) - (mid : Int) := by omega
      go_wp2_with fail
      refine (IH.out a' mid l1 a' rfl d4 _ H4.out S7.out (by omega) r1 (by omega) (by omega) (below_left HX3.out.2.1 (by rw [HD.out]; exact hb') P7.out)).mono ?_
      rintro e w8 ⟨rfl, d5, S8', P8', O8'⟩
      have S8 : Aside (SW eU w0 blk off d5 w8) := S8'
      have HX5 : Aside (StU a b d (mid + 1) b' d5) := StU.left HX3.out hb' P7.out P8' O8'
      clear S8' P8' O8' S7 P7 HX3 H4
      go_wp2_with fail
      go_roundg (b' - (mid + 1))
      case measure => omega
      case rel => exact ⟨mid + 1, b', l1, _, ap, d5, by go_num, rfl, rfl, rfl, rfl, by omega, hb', Nat.le_refl _, by omega, hl1, HX5, S8⟩
    · have h4z : ¬ ((mid : Int) - (a' : Int) < (b' : Int) - (mid : Int)) := by omega
      go_wp2_with fail
      refine (IH.out (mid + 1) b' l1 ((mid : Int) + 1) rfl d4 _ H4.out S7.out (by omega) (by omega) hb' (by omega) (below_right P7.out)).mono ?_
      rintro e w8 ⟨rfl, d5, S8', P8', O8'⟩
      have S8 : Aside (SW eU w0 blk off d5 w8) := S8'
      have HX5 : Aside (StU a b d a' mid d5) := StU.right HX3.out hb' P7.out P8' O8'
      clear S8' P8' O8' S7 P7 HX3 H4
      go_wp2_with fail
      go_roundg (mid - a')
      case measure => omega
      case rel => exact ⟨a', mid, l1, _, ap, d5, rfl, rfl, rfl, rfl, rfl, r1, by omega, Nat.le_refl _, by omega, hl1, HX5, S8⟩
  · have HTT := HT.out rfl
    go_wp2_with fail
    refine (HE.out a' b' p' d3 _ HX3.out.1.symm S6.out hq1 hq2 hb').mono ?_
    rintro e w7 ⟨m, rfl, d4, S7', P7'⟩
    have S7 : Aside (SW eU w0 blk off d4 w7) := S7'
    have HX5 : Aside (StU a b d m b' d4) := StU.eq HX3.out hb' HTT.1 HTT.2 P7'
    have r1 : a' < m := P7'.2.1
    have r2 : m ≤ b' := P7'.2.2.1
    clear S7' P7' S6 HX3 HT HTT
    go_wp2_with fail
    go_roundg (b' - m)
    case measure => omega
    case rel => exact ⟨m, b', l1, wb, wp, d4, rfl, rfl, rfl, rfl, rfl, r2, hb', Nat.le_refl _, by omega, hl1, HX5, S7⟩

theorem bl_small : ∀ n : Fin 65, Lib.bitLen n.val < 1000 := by decide +kernel
set_option maxHeartbeats 4000000 in
theorem sort64_c (n : Nat) (h64 : n ≤ 64) : SortsU n := by
  intro blk off cap d w hn hH hb
  have R : Row1 eU w blk off d := ⟨eU_one, hH, hb⟩
  have HP := Lib.hid (fun lim hl => pdq_c blk off cap d w R (by omega) (n + 1) 0 n lim 0 n lim d w n rfl rfl rfl hn rfl (SW.start hH) (by omega) (Nat.zero_le _) (by omega) hl (.inl rfl))
  have hl1 : Lib.bitLen n < 1000 := bl_small ⟨n, by omega⟩
  have hl2 : Lib.bitLen (n : Int).toNat < 1000 := by rw [Int.toNat_natCast]; exact hl1
  have HL := Lib.hid (len_c (n : Int) w (by omega) (by omega))
  have wz : IntKind.u64.wrap (n : Int) = (n : Int) := by rw [IntKind.wrap_u64]; omega
  clear hn hH R
  go_enter Try.func31, Try.ntmps31
  go_wp2_with (first | ((with_reducible refine (HL.out).mono ?_); rintro e w2 ⟨rfl, rfl⟩) | ((with_reducible refine (HP.out _ hl2).mono ?_); rintro e w2 ⟨rfl, d2, S2, P2, O2⟩) | ((with_reducible refine (HP.out _ hl1).mono ?_); rintro e w2 ⟨rfl, d2, S2, P2, O2⟩))
  go_end0
  exact ⟨rfl, d2, S2, P2, O2⟩
end Go.Proofs.Ytdjbnnjcifgnlaa

namespace Go.Proofs.Ytdjbnnjcifgnlaa
open Go.RowKit Go.Sort Go.Lib Go.Shelf

theorem bookAny_c (A : Option Addr) (n c : Nat) (L : List Od) (w : World) (H : Ods w A n L) : Calls Try.prog 16 #[.slice A n c] w (BookIs w (bookO L)) := by
  by_cases h : n ≤ 64
  · exact book_c A n c L w H h (sort64_c n h)
  · exact bookLong_c A n c L w H.1 h
end Go.Proofs.Ytdjbnnjcifgnlaa
