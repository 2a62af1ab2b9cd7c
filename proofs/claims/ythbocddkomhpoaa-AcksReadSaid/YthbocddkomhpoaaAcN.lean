/- acks: Drop, All, Set. (By mkacn.py.) -/
import Derived.Test.YthbocddkomhpoaaAcM
import Derived.Laws.StructEq
namespace Go.Proofs.Ythbocddkomhpoaa
open Go.RowKit

def dropK (z : Ta) (y k : Nat) : Ta := fun j => if j = 0 then z 0 else if j ≤ k then z j &&& (18446744073709551615 - y) else z j
theorem dropK_zero (z : Ta) (y : Nat) : dropK z y 0 = z := by
  funext j
  unfold dropK
  by_cases h : j = 0
  · rw [if_pos h, h]
  · rw [if_neg h, if_neg (by omega)]
theorem dropK_next (z : Ta) (y k : Nat) : updA (dropK z y k) (k + 1) (z (k + 1) &&& (18446744073709551615 - y)) = dropK z y (k + 1) := by
  funext j
  unfold updA dropK
  by_cases h : j = k + 1
  · rw [if_pos h, if_neg (by omega), if_pos (by omega), h]
  · rw [if_neg h]
    by_cases h0 : j = 0
    · rw [if_pos h0, if_pos h0]
    · rw [if_neg h0, if_neg h0]
      by_cases h1 : j ≤ k
      · rw [if_pos h1, if_pos (by omega)]
      · rw [if_neg h1, if_neg (by omega)]
theorem dropK_at (z : Ta) (y k : Nat) : dropK z y k (k + 1) = z (k + 1) := by unfold dropK; rw [if_neg (by omega), if_neg (by omega)]
theorem dropK_done (z : Ta) (v : Int) : AC (dropK z (bitN v) 7) = AC (dropA z v) := by
  refine AC_ext (AC_size _) fun k hk => ?_
  rw [AC_get _ hk]
  unfold ceA dropK dropA
  by_cases h0 : k = 0
  · rw [if_pos h0, if_pos h0, if_pos rfl, if_pos rfl]
  · rw [if_neg h0, if_neg h0, if_neg h0, if_neg h0, if_pos (by omega)]
set_option maxHeartbeats 4000000 in
set_option maxRecDepth 100000 in
theorem drop_c (z : Ta) (hz : Tb z) (v : Int) (w : World) :
    Calls Try.prog 10 #[.agg (AC z), .int .i64 v] w fun e w' => e = .returned (.agg (AC (dropA z v))) ∧ Below w.heap.size w w' := by
  have hzr := zeroA
  have HB := Lib.hid (aBit_c v)
  have HD := Lib.hid (dropK_done z v)
  have HL := Lib.hid hz.lt
  have hy := bitN_lt v
  generalize bitN v = y at *
  have HY := Lib.hid hy
  clear hy hz
  go_enter Try.func10, Try.ntmps10
  go_wp2_with fail
  go_loopw [6] (fun i wr => ∃ k : Nat, k ≤ 7 ∧ i = .int .i64 k ∧ Hid (wr.heap[w.heap.size]? = some (.cells (AC (dropK z y k)) 27 (0, 0))) ∧ Hid (wr.heap[w.heap.size + 1]? = some (.cells (AC zA) 27 (0, 0))) ∧ Below w.heap.size w wr ∧ w.heap.size + 2 ≤ wr.heap.size) (fun i _ => 7 - (intOf i).toNat)
  case atStart => exact ⟨0, by omega, rfl, by rw [dropK_zero]; show _ = _; (focus ((repeat' (first | (with_reducible assumption) | ((with_reducible refine heap_last ?_); (focus (first | (simp; done) | omega | (simp; omega)))) | ((with_reducible refine heap_prev ?_ ?_); (focus (first | (simp; done) | omega | (simp; omega)))) | (with_reducible apply row_heap) | ((with_reducible apply tab_set); (focus (first | (simp; done) | omega | (simp; omega)))) | ((with_reducible refine sign_other ?_ ?_); (focus (first | (simp; done) | omega | (simp; omega)))) | ((with_reducible refine row_other ?_ ?_); (focus (first | (simp; done) | omega | (simp; omega)))) | (with_reducible refine drew_heap ?_) | (with_reducible refine drewN_heap ?_))); done)), by show _ = _; (focus ((repeat' (first | (with_reducible assumption) | ((with_reducible refine heap_last ?_); (focus (first | (simp; done) | omega | (simp; omega)))) | ((with_reducible refine heap_prev ?_ ?_); (focus (first | (simp; done) | omega | (simp; omega)))) | (with_reducible apply row_heap) | ((with_reducible apply tab_set); (focus (first | (simp; done) | omega | (simp; omega)))) | ((with_reducible refine sign_other ?_ ?_); (focus (first | (simp; done) | omega | (simp; omega)))) | ((with_reducible refine row_other ?_ ?_); (focus (first | (simp; done) | omega | (simp; omega)))) | (with_reducible refine drew_heap ?_) | (with_reducible refine drewN_heap ?_))); done)), by (focus ((repeat' (first | (with_reducible exact Below.refl _ _) | (with_reducible assumption) | (with_reducible refine Below.alloc ?_ ?_ _) | (with_reducible refine Below.setCell ?_ ?_ _) | (with_reducible refine Below.row ?_ ?_ _) | (with_reducible refine Below.drew ?_) | (with_reducible refine below_drewN ?_ _) | (focus (first | (simp; done) | omega | (simp; omega))))); done)), by (focus (first | (simp; done) | omega | (simp; omega)))⟩
  case round =>
    obtain ⟨k, hk, rfl, h1, h2, hB, hsz⟩ := hrel
    by_cases hlt : k < 7
    · have hk7 := hlt
      have hltI : (k : Int) < 7 := by omega
      have hk0 : (0 : Int) ≤ (k : Int) := by omega
      have q1 := h1.out
      have c2 := tab_cell' q1 hk7
      rw [dropK_at] at c2
      have c3 : wr.frozen? ⟨w.heap.size, 1 + k, none⟩ = false := tab_frozen q1
      have ho := u64_andNot_nat (z (k + 1)) y (by have := HL.out (k + 1) (by omega); omega) (by have := HY.out; omega)
      go_wp2_with fail
      refine wp_region_held_drew (S := fun _ => True) (by kernel_rfl) trivial (fun hHeld => ?_)
      refine wpAnyH_take (i := 0) (oi := ⟨some 9, _, _, _, _, _⟩) (v := ?_) rfl (by kernel_rfl) (by kernel_rfl) (by kernel_rfl) (fun _ _ _ h => h) (Or.inl ⟨by kernel_rfl, ?_⟩) (by assumption) ?_
      rotate_left
      · (intro w hSw; (try dsimp only at hSw); go_simp; try with_reducible rfl)
      (repeat (first | simp only [Act.put] | simp only [List.setIfInBounds_toArray] | simp only [List.set_cons_succ] | simp only [List.set_cons_zero]))
      refine wpAnyH_take (i := 1) (oi := ⟨some 10, _, _, _, _, _⟩) (v := ?_) rfl (by kernel_rfl) (by kernel_rfl) (by kernel_rfl) (fun _ _ _ h => h) (Or.inl ⟨by kernel_rfl, ?_⟩) (by assumption) ?_
      rotate_left
      · (intro w hSw; (try dsimp only at hSw); go_simp; try with_reducible rfl)
      (repeat (first | simp only [Act.put] | simp only [List.setIfInBounds_toArray] | simp only [List.set_cons_succ] | simp only [List.set_cons_zero]))
      refine wpAnyH_take (i := 2) (oi := ⟨some 11, _, _, _, _, _⟩) (v := ?_) rfl (by kernel_rfl) (by kernel_rfl) (by kernel_rfl) (fun _ _ _ h => h) (Or.inl ⟨by kernel_rfl, ?_⟩) (by assumption) ?_
      rotate_left
      · (intro w hSw; (try dsimp only at hSw); go_simp; try with_reducible rfl)
      (repeat (first | simp only [Act.put] | simp only [List.setIfInBounds_toArray] | simp only [List.set_cons_succ] | simp only [List.set_cons_zero]))
      refine wpAnyH_take (i := 4) (oi := ⟨some 13, _, _, _, _, _⟩) (v := ?_) rfl (by kernel_rfl) (by kernel_rfl) (by kernel_rfl) (fun _ _ _ h => h) (Or.inl ⟨by kernel_rfl, ?_⟩) (by assumption) ?_
      rotate_left
      · (intro w hSw; (try dsimp only at hSw); go_simp; try with_reducible rfl)
      (repeat (first | simp only [Act.put] | simp only [List.setIfInBounds_toArray] | simp only [List.set_cons_succ] | simp only [List.set_cons_zero]))
      refine wpAnyH_take (i := 7) (oi := ⟨some 16, _, _, _, _, _⟩) (v := ?_) rfl (by kernel_rfl) (by kernel_rfl) (by kernel_rfl) (fun _ _ _ h => h) (Or.inl ⟨by kernel_rfl, ?_⟩) (by assumption) ?_
      rotate_left
      · (intro w hSw; (try dsimp only at hSw); go_simp; try with_reducible rfl)
      (repeat (first | simp only [Act.put] | simp only [List.setIfInBounds_toArray] | simp only [List.set_cons_succ] | simp only [List.set_cons_zero]))
      refine wpAnyH_ready (rs := [3, 5]) (by kernel_rfl) (by simp) ?_
      refine AllReadyH.cons (o := ⟨some 12, _, _, _, _, _⟩) rfl (fun K hK => ?_) (AllReadyH.cons (o := ⟨some 14, _, _, _, _, _⟩) rfl (fun K hK => ?_) AllReadyH.nil)
      · skip
        go_simp
        refine hK.out _ _ trivial (fun hHeld => ?_)
        clear hK K
        (repeat (first | simp only [Act.put] | simp only [List.setIfInBounds_toArray] | simp only [List.set_cons_succ] | simp only [List.set_cons_zero]))
        refine wpAnyH_ready (rs := [5]) (by kernel_rfl) (by simp) ?_
        refine AllReadyH.cons (o := ⟨some 14, _, _, _, _, _⟩) rfl (fun K hK => ?_) AllReadyH.nil
        go_simp
        ((with_reducible refine (HB.out _).mono ?_); rintro e w3 ⟨rfl, rfl⟩)
        (try go_wp2_with fail)
        refine hK.out _ _ trivial (fun hHeld => ?_)
        clear hK K
        (repeat (first | simp only [Act.put] | simp only [List.setIfInBounds_toArray] | simp only [List.set_cons_succ] | simp only [List.set_cons_zero]))
        refine wpAnyH_take (i := 6) (oi := ⟨some 15, _, _, _, _, _⟩) (v := ?_) rfl (by kernel_rfl) (by kernel_rfl) (by kernel_rfl) (fun _ _ _ h => h) (Or.inl ⟨by kernel_rfl, ?_⟩) (by assumption) ?_
        rotate_left
        · (intro w hSw; (try dsimp only at hSw); go_simp; try with_reducible rfl)
        (repeat (first | simp only [Act.put] | simp only [List.setIfInBounds_toArray] | simp only [List.set_cons_succ] | simp only [List.set_cons_zero]))
        refine wpAnyH_take (i := 8) (oi := ⟨some 17, _, _, _, _, _⟩) (v := ?_) rfl (by kernel_rfl) (by kernel_rfl) (by kernel_rfl) (fun _ _ _ h => h) (Or.inl ⟨by kernel_rfl, ?_⟩) (by assumption) ?_
        rotate_left
        · (intro w hSw; (try dsimp only at hSw); go_simp; try with_reducible rfl)
        (repeat (first | simp only [Act.put] | simp only [List.setIfInBounds_toArray] | simp only [List.set_cons_succ] | simp only [List.set_cons_zero]))
        refine wpAnyH_ready (rs := [9]) (by kernel_rfl) (by simp) ?_
        refine AllReadyH.cons (o := ⟨none, _, _, _, _, _⟩) rfl (fun K hK => ?_) AllReadyH.nil
        go_simp
        refine hK.out _ _ trivial (fun hHeld => ?_)
        clear hK K
        (repeat (first | simp only [Act.put] | simp only [List.setIfInBounds_toArray] | simp only [List.set_cons_succ] | simp only [List.set_cons_zero]))
        refine wpAnyH_done (by kernel_rfl) ?_ _
        have p3 := tab_set' (v := z (k + 1) &&& (18446744073709551615 - y)) q1 hk7
        rw [dropK_next] at p3
        have P3 := Lib.hid p3
        have P4 : Hid ((wr.setCell ⟨w.heap.size, 1 + k, none⟩ (.int .u64 ((z (k + 1) &&& (18446744073709551615 - y) : Nat) : Int))).heap[w.heap.size + 1]? = some (.cells (AC zA) 27 (0, 0))) := Lib.hid (sign_other (by simp) h2.out)
        clear p3 q1 c2 c3 ho
        go_wp2_with fail
        exact ⟨⟨k + 1, by omega, by go_num, P3, P4, by (focus ((repeat' (first | (with_reducible exact Below.refl _ _) | (with_reducible assumption) | (with_reducible refine Below.alloc ?_ ?_ _) | (with_reducible refine Below.setCell ?_ ?_ _) | (with_reducible refine Below.row ?_ ?_ _) | (with_reducible refine Below.drew ?_) | (with_reducible refine below_drewN ?_ _) | (focus (first | (simp; done) | omega | (simp; omega))))); done)), by (focus (first | (simp; done) | omega | (simp; omega)))⟩, by simp [intOf]; omega⟩
      · skip
        go_simp
        ((with_reducible refine (HB.out _).mono ?_); rintro e w3 ⟨rfl, rfl⟩)
        (try go_wp2_with fail)
        refine hK.out _ _ trivial (fun hHeld => ?_)
        clear hK K
        (repeat (first | simp only [Act.put] | simp only [List.setIfInBounds_toArray] | simp only [List.set_cons_succ] | simp only [List.set_cons_zero]))
        refine wpAnyH_ready (rs := [3]) (by kernel_rfl) (by simp) ?_
        refine AllReadyH.cons (o := ⟨some 12, _, _, _, _, _⟩) rfl (fun K hK => ?_) AllReadyH.nil
        go_simp
        refine hK.out _ _ trivial (fun hHeld => ?_)
        clear hK K
        (repeat (first | simp only [Act.put] | simp only [List.setIfInBounds_toArray] | simp only [List.set_cons_succ] | simp only [List.set_cons_zero]))
        refine wpAnyH_take (i := 6) (oi := ⟨some 15, _, _, _, _, _⟩) (v := ?_) rfl (by kernel_rfl) (by kernel_rfl) (by kernel_rfl) (fun _ _ _ h => h) (Or.inl ⟨by kernel_rfl, ?_⟩) (by assumption) ?_
        rotate_left
        · (intro w hSw; (try dsimp only at hSw); go_simp; try with_reducible rfl)
        (repeat (first | simp only [Act.put] | simp only [List.setIfInBounds_toArray] | simp only [List.set_cons_succ] | simp only [List.set_cons_zero]))
        refine wpAnyH_take (i := 8) (oi := ⟨some 17, _, _, _, _, _⟩) (v := ?_) rfl (by kernel_rfl) (by kernel_rfl) (by kernel_rfl) (fun _ _ _ h => h) (Or.inl ⟨by kernel_rfl, ?_⟩) (by assumption) ?_
        rotate_left
        · (intro w hSw; (try dsimp only at hSw); go_simp; try with_reducible rfl)
        (repeat (first | simp only [Act.put] | simp only [List.setIfInBounds_toArray] | simp only [List.set_cons_succ] | simp only [List.set_cons_zero]))
        refine wpAnyH_ready (rs := [9]) (by kernel_rfl) (by simp) ?_
        refine AllReadyH.cons (o := ⟨none, _, _, _, _, _⟩) rfl (fun K hK => ?_) AllReadyH.nil
        go_simp
        refine hK.out _ _ trivial (fun hHeld => ?_)
        clear hK K
        (repeat (first | simp only [Act.put] | simp only [List.setIfInBounds_toArray] | simp only [List.set_cons_succ] | simp only [List.set_cons_zero]))
        refine wpAnyH_done (by kernel_rfl) ?_ _
        have p3 := tab_set' (v := z (k + 1) &&& (18446744073709551615 - y)) q1 hk7
        rw [dropK_next] at p3
        have P3 := Lib.hid p3
        have P4 : Hid ((wr.setCell ⟨w.heap.size, 1 + k, none⟩ (.int .u64 ((z (k + 1) &&& (18446744073709551615 - y) : Nat) : Int))).heap[w.heap.size + 1]? = some (.cells (AC zA) 27 (0, 0))) := Lib.hid (sign_other (by simp) h2.out)
        clear p3 q1 c2 c3 ho
        go_wp2_with fail
        exact ⟨⟨k + 1, by omega, by go_num, P3, P4, by (focus ((repeat' (first | (with_reducible exact Below.refl _ _) | (with_reducible assumption) | (with_reducible refine Below.alloc ?_ ?_ _) | (with_reducible refine Below.setCell ?_ ?_ _) | (with_reducible refine Below.row ?_ ?_ _) | (with_reducible refine Below.drew ?_) | (with_reducible refine below_drewN ?_ _) | (focus (first | (simp; done) | omega | (simp; omega))))); done)), by (focus (first | (simp; done) | omega | (simp; omega)))⟩, by simp [intOf]; omega⟩
    · obtain rfl : k = 7 := by omega
      have g1 := h1.out
      have g2 := h2.out
      rw [HD.out] at g1
      go_wp2_with (first | ((with_reducible apply loadA); rfl; rfl; rfl; (focus ((repeat' (first | (with_reducible assumption) | ((with_reducible refine heap_last ?_); (focus (first | (simp; done) | omega | (simp; omega)))) | ((with_reducible refine heap_prev ?_ ?_); (focus (first | (simp; done) | omega | (simp; omega)))) | (with_reducible apply row_heap) | ((with_reducible apply tab_set); (focus (first | (simp; done) | omega | (simp; omega)))) | ((with_reducible refine sign_other ?_ ?_); (focus (first | (simp; done) | omega | (simp; omega)))) | ((with_reducible refine row_other ?_ ?_); (focus (first | (simp; done) | omega | (simp; omega)))) | (with_reducible refine drew_heap ?_) | (with_reducible refine drewN_heap ?_))); done)); skip) | ((with_reducible apply storeA); rfl; rfl; rfl; rfl; (focus ((repeat' (first | (with_reducible assumption) | ((with_reducible refine heap_last ?_); (focus (first | (simp; done) | omega | (simp; omega)))) | ((with_reducible refine heap_prev ?_ ?_); (focus (first | (simp; done) | omega | (simp; omega)))) | (with_reducible apply row_heap) | ((with_reducible apply tab_set); (focus (first | (simp; done) | omega | (simp; omega)))) | ((with_reducible refine sign_other ?_ ?_); (focus (first | (simp; done) | omega | (simp; omega)))) | ((with_reducible refine row_other ?_ ?_); (focus (first | (simp; done) | omega | (simp; omega)))) | (with_reducible refine drew_heap ?_) | (with_reducible refine drewN_heap ?_))); done)); skip))
      refine bodyPost_ret (retA rfl _ _ (w.heap.size + 1) rfl (dropA z v) 27 (by (focus ((repeat' (first | (with_reducible assumption) | ((with_reducible refine heap_last ?_); (focus (first | (simp; done) | omega | (simp; omega)))) | ((with_reducible refine heap_prev ?_ ?_); (focus (first | (simp; done) | omega | (simp; omega)))) | (with_reducible apply row_heap) | ((with_reducible apply tab_set); (focus (first | (simp; done) | omega | (simp; omega)))) | ((with_reducible refine sign_other ?_ ?_); (focus (first | (simp; done) | omega | (simp; omega)))) | ((with_reducible refine row_other ?_ ?_); (focus (first | (simp; done) | omega | (simp; omega)))) | (with_reducible refine drew_heap ?_) | (with_reducible refine drewN_heap ?_))); done)))) rfl ?_
      exact ⟨rfl, by (focus ((repeat' (first | (with_reducible exact Below.refl _ _) | (with_reducible assumption) | (with_reducible refine Below.alloc ?_ ?_ _) | (with_reducible refine Below.setCell ?_ ?_ _) | (with_reducible refine Below.row ?_ ?_ _) | (with_reducible refine Below.drew ?_) | (with_reducible refine below_drewN ?_ _) | (focus (first | (simp; done) | omega | (simp; omega))))); done))⟩

/-- Seven yes-or-noes, the first k of them as told. -/
def BC (k : Nat) (f : Nat → Bool) : Array Value := ((List.range 7).map fun i => Value.bool (decide (i < k) && f i)).toArray
theorem BC_size (k : Nat) (f : Nat → Bool) : (BC k f).size = 7 := by simp [BC]
theorem BC_get (k : Nat) (f : Nat → Bool) {i : Nat} (h : i < 7) : (BC k f)[i]? = some (.bool (decide (i < k) && f i)) := by simp [BC, h]
theorem BC_set (k : Nat) (f : Nat → Bool) (hk : k < 7) : (BC k f).setIfInBounds k (.bool (f k)) = BC (k + 1) f := by
  apply Array.ext_getElem?
  intro i
  by_cases hi : i < 7
  · rw [BC_get _ _ hi, Array.getElem?_setIfInBounds]
    by_cases e : k = i
    · subst e; rw [if_pos rfl, if_pos (by rw [BC_size]; exact hk)]; simp
    · rw [if_neg e, BC_get _ _ hi]
      congr 2
      rw [show decide (i < k + 1) = decide (i < k) from decide_eq_decide.2 (by omega)]
  · rw [Array.getElem?_eq_none (by rw [Array.size_setIfInBounds, BC_size]; omega), Array.getElem?_eq_none (by rw [BC_size]; omega)]
theorem BC_zero (f : Nat → Bool) : BC 0 f = #[.bool false, .bool false, .bool false, .bool false, .bool false, .bool false, .bool false] := by
  simp [BC, List.range, List.range.loop]
theorem bool_set {w : World} {g k : Nat} {f : Nat → Bool} {t : TypeId} (h : w.heap[g]? = some (.cells (BC k f) t (0, 0))) (hk : k < 7) : (w.setCell ⟨g, k, none⟩ (.bool (f k))).heap[g]? = some (.cells (BC (k + 1) f) t (0, 0)) := by
  rw [heap_setCell_same _ _ _ _ _ _ h, BC_set k f hk]
theorem bool_frozen {w : World} {g k j : Nat} {f : Nat → Bool} {t : TypeId} (h : w.heap[g]? = some (.cells (BC k f) t (0, 0))) : w.frozen? ⟨g, j, none⟩ = false := by
  simp [World.frozen?, h]
theorem bool_cell {w : World} {g k j : Nat} {f : Nat → Bool} {t : TypeId} (h : w.heap[g]? = some (.cells (BC k f) t (0, 0))) (hj : j < 7) : w.cell? ⟨g, j, none⟩ = some (.bool (decide (j < k) && f j)) := by
  rw [cell_of_row _ _ _ _ _ _ h, BC_get _ _ hj]
theorem infoB (k : Nat) (f : Nat → Bool) : (Try.prog.info? 66).map (·.size) = some (BC k f).size := by rw [BC_size]; kernel_rfl
theorem loadB {ops : Array Oper} {rest : List Oper} {o : Oper} {a : Act} {w : World} {Q : Exit → Act → World → Prop} (hgd : Region.wanted o (yielded ops a.tmps) = true) (x : Operand) (ho : o.op = .load 66 x) (g : Nat) (hx : a.eval x = .pointer (some ⟨g, 0, none⟩)) (k : Nat) (f : Nat → Bool) (t : TypeId)
    (hg : w.heap[g]? = some (.cells (BC k f) t (0, 0))) (h : wpList Try.prog ops Q rest (a.put o.dst (.agg (BC k f))) w) : wpList Try.prog ops Q (o :: rest) a w :=
  BigFrame.wpList_want hgd fun _ hK => wp_load_row _ x ho g hx _ _ (0, 0) _ hg Try.underlying66 rfl (infoB k f) (hK _ _ h)
/-- Two arrays are the same where all their elements are. -/
theorem eq_array {P : Program} (w : World) (d : Nat) (t e : TypeId) (n m : Nat) (xs ys : Array Value) (ht : P.underlying t = some (.array n e)) (hm : ∀ w, (sizeOf e).run P w = .ok m w) (E : Nat → Bool)
    (h : ∀ i, i < n → ∃ a b, (part e xs (i * m)).run P w = .ok a w ∧ (part e ys (i * m)).run P w = .ok b w ∧ (Op.equalIn d e a b).run P w = .ok (E i) w) :
    (Op.equalIn (d + 1) t (.agg xs) (.agg ys)).run P w = .ok ((List.range n).all E) w := by
  simp only [Op.equalIn, Sem.run_bind, run_underlying ht, Result.andThen_ok, hm]
  rw [Std.Legacy.Range.forIn_eq_forIn_range']
  have e0 : List.range' [:n].start [:n].size [:n].step = List.range n := by
    simp [Std.Legacy.Range.size, List.range_eq_range']
  rw [e0]
  have hl : ∀ i ∈ List.range n, i < n := fun i hi => List.mem_range.1 hi
  generalize List.range n = l at *
  clear e0
  induction l with
  | nil => simp
  | cons i l ih =>
    obtain ⟨a, b, h1, h2, h3⟩ := h i (hl i List.mem_cons_self)
    have ih' := ih (fun j hj => hl j (List.mem_cons_of_mem _ hj))
    simp only [List.forIn_cons, Sem.run_bind, h1, h2, h3, Result.andThen_ok, List.all_cons, Sem.run_ite]
    cases hE : E i
    · simp
    · simpa using ih'
def allB (z : Ta) (v : Int) : Bool := (List.range 7).all fun i => hasA z i v == thereA z i
theorem pb0 (f : Nat → Bool) (w : World) : (part 4 (BC 7 f) 0).run Try.prog w = .ok (.bool (f 0)) w := by kernel_rfl
theorem pb1 (f : Nat → Bool) (w : World) : (part 4 (BC 7 f) 1).run Try.prog w = .ok (.bool (f 1)) w := by kernel_rfl
theorem pb2 (f : Nat → Bool) (w : World) : (part 4 (BC 7 f) 2).run Try.prog w = .ok (.bool (f 2)) w := by kernel_rfl
theorem pb3 (f : Nat → Bool) (w : World) : (part 4 (BC 7 f) 3).run Try.prog w = .ok (.bool (f 3)) w := by kernel_rfl
theorem pb4 (f : Nat → Bool) (w : World) : (part 4 (BC 7 f) 4).run Try.prog w = .ok (.bool (f 4)) w := by kernel_rfl
theorem pb5 (f : Nat → Bool) (w : World) : (part 4 (BC 7 f) 5).run Try.prog w = .ok (.bool (f 5)) w := by kernel_rfl
theorem pb6 (f : Nat → Bool) (w : World) : (part 4 (BC 7 f) 6).run Try.prog w = .ok (.bool (f 6)) w := by kernel_rfl
theorem eqB (f g : Nat → Bool) (w : World) : (Op.equalIn 10000 66 (.agg (BC 7 f)) (.agg (BC 7 g))).run Try.prog w = .ok ((List.range 7).all fun i => f i == g i) w := by
  have hs : ∀ w : World, (sizeOf 4).run Try.prog w = .ok 1 w := by intro w; kernel_rfl
  refine eq_array w 9999 66 4 7 1 _ _ Try.underlying66 hs (fun i => f i == g i) fun i hi => ?_
  have hp : ∀ f : Nat → Bool, (part 4 (BC 7 f) (i * 1)).run Try.prog w = .ok (.bool (f i)) w := by
    intro f
    have h7 : i = 0 ∨ i = 1 ∨ i = 2 ∨ i = 3 ∨ i = 4 ∨ i = 5 ∨ i = 6 := by omega
    rcases h7 with rfl | rfl | rfl | rfl | rfl | rfl | rfl
    · exact pb0 f w
    · exact pb1 f w
    · exact pb2 f w
    · exact pb3 f w
    · exact pb4 f w
    · exact pb5 f w
    · exact pb6 f w
  exact ⟨_, _, hp f, hp g, run_equalIn_bool' w 9998 _ _ _ Try.underlying4⟩
set_option maxHeartbeats 4000000 in
set_option maxRecDepth 100000 in
theorem all_c (z : Ta) (hz : Tb z) (v : Int) (w : World) :
    Calls Try.prog 9 #[.agg (AC z), .int .i64 v] w fun e w' => e = .returned (.bool (allA z v)) ∧ Below w.heap.size w w' := by
  have HT := Lib.hid (fun r => there_c z r)
  have HH := Lib.hid (fun r => has_c z hz r v)
  obtain ⟨A, hA⟩ : ∃ A, A = allA z v := ⟨_, rfl⟩
  rw [← hA]
  replace hA := Lib.hid hA
  clear hz
  go_enter Try.func9, Try.ntmps9
  go_wp2_with fail
  go_loopw [8] (fun i wr => ∃ k : Nat, k ≤ 7 ∧ i = .int .i64 k ∧ Hid (wr.heap[w.heap.size]? = some (.cells (AC z) 27 (0, 0))) ∧ Hid (wr.heap[w.heap.size + 1]? = some (.cells (BC k (fun i => thereA z i)) 66 (0, 0))) ∧ Hid (wr.heap[w.heap.size + 2]? = some (.cells (BC k (fun i => hasA z i v)) 66 (0, 0))) ∧ Below w.heap.size w wr ∧ w.heap.size + 3 ≤ wr.heap.size) (fun i _ => 7 - (intOf i).toNat)
  case atStart => exact ⟨0, by omega, rfl, by show _ = _; (focus ((repeat' (first | (with_reducible assumption) | ((with_reducible refine heap_last ?_); (focus (first | (simp; done) | omega | (simp; omega)))) | ((with_reducible refine heap_prev ?_ ?_); (focus (first | (simp; done) | omega | (simp; omega)))) | (with_reducible apply row_heap) | ((with_reducible apply tab_set); (focus (first | (simp; done) | omega | (simp; omega)))) | ((with_reducible refine sign_other ?_ ?_); (focus (first | (simp; done) | omega | (simp; omega)))) | ((with_reducible refine row_other ?_ ?_); (focus (first | (simp; done) | omega | (simp; omega)))) | (with_reducible refine drew_heap ?_) | (with_reducible refine drewN_heap ?_))); done)), by show _ = _; rw [BC_zero]; (focus ((repeat' (first | (with_reducible assumption) | ((with_reducible refine heap_last ?_); (focus (first | (simp; done) | omega | (simp; omega)))) | ((with_reducible refine heap_prev ?_ ?_); (focus (first | (simp; done) | omega | (simp; omega)))) | (with_reducible apply row_heap) | ((with_reducible apply tab_set); (focus (first | (simp; done) | omega | (simp; omega)))) | ((with_reducible refine sign_other ?_ ?_); (focus (first | (simp; done) | omega | (simp; omega)))) | ((with_reducible refine row_other ?_ ?_); (focus (first | (simp; done) | omega | (simp; omega)))) | (with_reducible refine drew_heap ?_) | (with_reducible refine drewN_heap ?_))); done)), by show _ = _; rw [BC_zero]; (focus ((repeat' (first | (with_reducible assumption) | ((with_reducible refine heap_last ?_); (focus (first | (simp; done) | omega | (simp; omega)))) | ((with_reducible refine heap_prev ?_ ?_); (focus (first | (simp; done) | omega | (simp; omega)))) | (with_reducible apply row_heap) | ((with_reducible apply tab_set); (focus (first | (simp; done) | omega | (simp; omega)))) | ((with_reducible refine sign_other ?_ ?_); (focus (first | (simp; done) | omega | (simp; omega)))) | ((with_reducible refine row_other ?_ ?_); (focus (first | (simp; done) | omega | (simp; omega)))) | (with_reducible refine drew_heap ?_) | (with_reducible refine drewN_heap ?_))); done)), by (focus ((repeat' (first | (with_reducible exact Below.refl _ _) | (with_reducible assumption) | (with_reducible refine Below.alloc ?_ ?_ _) | (with_reducible refine Below.setCell ?_ ?_ _) | (with_reducible refine Below.row ?_ ?_ _) | (with_reducible refine Below.drew ?_) | (with_reducible refine below_drewN ?_ _) | (focus (first | (simp; done) | omega | (simp; omega))))); done)), by (focus (first | (simp; done) | omega | (simp; omega)))⟩
  case round =>
    obtain ⟨k, hk, rfl, h1, h2, h3, hB, hsz⟩ := hrel
    by_cases hlt : k < 7
    · have hk7 := hlt
      have hltI : (k : Int) < 7 := by omega
      have hk0 : (0 : Int) ≤ (k : Int) := by omega
      have q1 := h1.out
      have q2 := h2.out
      have q3 := h3.out
      replace HT := Lib.hid (HT.out k)
      replace HH := Lib.hid (HH.out k)
      go_wp2_with fail
      refine wp_region_held_drew (S := (fun w' => w'.heap[w.heap.size]? = some (.cells (AC z) 27 (0, 0)))) (by kernel_rfl) (by first | (dsimp only; assumption) | assumption) (fun hHeld => ?_)
      refine wpAnyH_take (i := 0) (oi := ⟨some 11, _, _, _, _, _⟩) (v := ?_) rfl (by kernel_rfl) (by kernel_rfl) (by kernel_rfl) (fun _ _ _ h => h) (Or.inl ⟨by kernel_rfl, ?_⟩) (by assumption) ?_
      rotate_left
      · (intro w hSw; (try dsimp only at hSw); go_simp; try with_reducible rfl)
      (repeat (first | simp only [Act.put] | simp only [List.setIfInBounds_toArray] | simp only [List.set_cons_succ] | simp only [List.set_cons_zero]))
      refine wpAnyH_take (i := 1) (oi := ⟨some 12, _, _, _, _, _⟩) (v := ?_) rfl (by kernel_rfl) (by kernel_rfl) (by kernel_rfl) (fun _ _ _ h => h) (Or.inl ⟨by kernel_rfl, ?_⟩) (by assumption) ?_
      rotate_left
      · (intro w hSw; (try dsimp only at hSw); go_simp; try with_reducible rfl)
      (repeat (first | simp only [Act.put] | simp only [List.setIfInBounds_toArray] | simp only [List.set_cons_succ] | simp only [List.set_cons_zero]))
      refine wpAnyH_take (i := 3) (oi := ⟨some 14, _, _, _, _, _⟩) (v := ?_) rfl (by kernel_rfl) (by kernel_rfl) (by kernel_rfl) (fun _ _ _ h => h) (Or.inl ⟨by kernel_rfl, ?_⟩) (by assumption) ?_
      rotate_left
      · (intro w hSw; (try dsimp only at hSw); go_simp; try with_reducible rfl)
      (repeat (first | simp only [Act.put] | simp only [List.setIfInBounds_toArray] | simp only [List.set_cons_succ] | simp only [List.set_cons_zero]))
      refine wpAnyH_take (i := 6) (oi := ⟨some 17, _, _, _, _, _⟩) (v := ?_) rfl (by kernel_rfl) (by kernel_rfl) (by kernel_rfl) (fun _ _ _ h => h) (Or.inl ⟨by kernel_rfl, ?_⟩) (by assumption) ?_
      rotate_left
      · (intro w hSw; (try dsimp only at hSw); go_simp; try with_reducible rfl)
      (repeat (first | simp only [Act.put] | simp only [List.setIfInBounds_toArray] | simp only [List.set_cons_succ] | simp only [List.set_cons_zero]))
      refine wpAnyH_take (i := 7) (oi := ⟨some 18, _, _, _, _, _⟩) (v := ?_) rfl (by kernel_rfl) (by kernel_rfl) (by kernel_rfl) (fun _ _ _ h => h) (Or.inl ⟨by kernel_rfl, ?_⟩) (by assumption) ?_
      rotate_left
      · (intro w hSw; (try dsimp only at hSw); go_simp; try with_reducible rfl)
      (repeat (first | simp only [Act.put] | simp only [List.setIfInBounds_toArray] | simp only [List.set_cons_succ] | simp only [List.set_cons_zero]))
      refine wpAnyH_take (i := 2) (oi := ⟨some 13, _, _, _, _, _⟩) (v := (.agg (AC z))) rfl (by kernel_rfl) (by kernel_rfl) (by kernel_rfl) (fun _ _ _ h => h) ?_ (by assumption) ?_
      · (apply yieldA; (focus kernel_rfl); rfl; rfl; intro w hS; exact hS)
      (repeat (first | simp only [Act.put] | simp only [List.setIfInBounds_toArray] | simp only [List.set_cons_succ] | simp only [List.set_cons_zero]))
      refine wpAnyH_take (i := 5) (oi := ⟨some 16, _, _, _, _, _⟩) (v := (.agg (AC z))) rfl (by kernel_rfl) (by kernel_rfl) (by kernel_rfl) (fun _ _ _ h => h) ?_ (by assumption) ?_
      · (apply yieldA; (focus kernel_rfl); rfl; rfl; intro w hS; exact hS)
      (repeat (first | simp only [Act.put] | simp only [List.setIfInBounds_toArray] | simp only [List.set_cons_succ] | simp only [List.set_cons_zero]))
      refine wpAnyH_ready (rs := [4]) (by kernel_rfl) (by simp) ?_
      refine AllReadyH.cons (o := ⟨some 15, _, _, _, _, _⟩) rfl (fun K hK => ?_) AllReadyH.nil
      go_simp
      ((with_reducible refine (HT.out _).mono ?_); rintro e v1 ⟨rfl, b1⟩)
      have p11 : v1.heap[w.heap.size]? = some (.cells (AC z) 27 (0, 0)) := by rw [b1.block _ (by (focus (first | (simp; done) | omega | (simp; omega))))]; (focus ((repeat' (first | (with_reducible assumption) | ((with_reducible refine heap_last ?_); (focus (first | (simp; done) | omega | (simp; omega)))) | ((with_reducible refine heap_prev ?_ ?_); (focus (first | (simp; done) | omega | (simp; omega)))) | (with_reducible apply row_heap) | ((with_reducible apply tab_set); (focus (first | (simp; done) | omega | (simp; omega)))) | ((with_reducible refine sign_other ?_ ?_); (focus (first | (simp; done) | omega | (simp; omega)))) | ((with_reducible refine row_other ?_ ?_); (focus (first | (simp; done) | omega | (simp; omega)))) | (with_reducible refine drew_heap ?_) | (with_reducible refine drewN_heap ?_))); done))
      have p12 : v1.heap[w.heap.size + 1]? = some (.cells (BC k (fun i => thereA z i)) 66 (0, 0)) := by rw [b1.block _ (by (focus (first | (simp; done) | omega | (simp; omega))))]; (focus ((repeat' (first | (with_reducible assumption) | ((with_reducible refine heap_last ?_); (focus (first | (simp; done) | omega | (simp; omega)))) | ((with_reducible refine heap_prev ?_ ?_); (focus (first | (simp; done) | omega | (simp; omega)))) | (with_reducible apply row_heap) | ((with_reducible apply tab_set); (focus (first | (simp; done) | omega | (simp; omega)))) | ((with_reducible refine sign_other ?_ ?_); (focus (first | (simp; done) | omega | (simp; omega)))) | ((with_reducible refine row_other ?_ ?_); (focus (first | (simp; done) | omega | (simp; omega)))) | (with_reducible refine drew_heap ?_) | (with_reducible refine drewN_heap ?_))); done))
      have p13 : v1.heap[w.heap.size + 2]? = some (.cells (BC k (fun i => hasA z i v)) 66 (0, 0)) := by rw [b1.block _ (by (focus (first | (simp; done) | omega | (simp; omega))))]; (focus ((repeat' (first | (with_reducible assumption) | ((with_reducible refine heap_last ?_); (focus (first | (simp; done) | omega | (simp; omega)))) | ((with_reducible refine heap_prev ?_ ?_); (focus (first | (simp; done) | omega | (simp; omega)))) | (with_reducible apply row_heap) | ((with_reducible apply tab_set); (focus (first | (simp; done) | omega | (simp; omega)))) | ((with_reducible refine sign_other ?_ ?_); (focus (first | (simp; done) | omega | (simp; omega)))) | ((with_reducible refine row_other ?_ ?_); (focus (first | (simp; done) | omega | (simp; omega)))) | (with_reducible refine drew_heap ?_) | (with_reducible refine drewN_heap ?_))); done))
      have s1 : w.heap.size + 3 ≤ v1.heap.size := by have := b1.size; (try simp at this); omega
      have B1 : Below w.heap.size w v1 := Below.trans (by (focus ((repeat' (first | (with_reducible exact Below.refl _ _) | (with_reducible assumption) | (with_reducible refine Below.alloc ?_ ?_ _) | (with_reducible refine Below.setCell ?_ ?_ _) | (with_reducible refine Below.row ?_ ?_ _) | (with_reducible refine Below.drew ?_) | (with_reducible refine below_drewN ?_ _) | (focus (first | (simp; done) | omega | (simp; omega))))); done))) (b1.mono (by (focus (first | (simp; done) | omega | (simp; omega)))))
      clear b1
      (try go_wp2_with fail)
      refine hK.out _ _ (by first | (dsimp only; assumption) | assumption | assumption) (fun hHeld => ?_)
      clear hK K
      (repeat (first | simp only [Act.put] | simp only [List.setIfInBounds_toArray] | simp only [List.set_cons_succ] | simp only [List.set_cons_zero]))
      refine wpAnyH_take (i := 9) (oi := ⟨some 20, _, _, _, _, _⟩) (v := ?_) rfl (by kernel_rfl) (by kernel_rfl) (by kernel_rfl) (fun _ _ _ h => h) (Or.inl ⟨by kernel_rfl, ?_⟩) (by assumption) ?_
      rotate_left
      · (intro w hSw; (try dsimp only at hSw); go_simp; try with_reducible rfl)
      (repeat (first | simp only [Act.put] | simp only [List.setIfInBounds_toArray] | simp only [List.set_cons_succ] | simp only [List.set_cons_zero]))
      refine wpAnyH_ready (rs := [8]) (by kernel_rfl) (by simp) ?_
      refine AllReadyH.cons (o := ⟨some 19, _, _, _, _, _⟩) rfl (fun K hK => ?_) AllReadyH.nil
      go_simp
      ((with_reducible refine (HH.out _).mono ?_); rintro e v2 ⟨rfl, b2⟩)
      have p21 : v2.heap[w.heap.size]? = some (.cells (AC z) 27 (0, 0)) := by rw [b2.block _ (by (focus (first | (simp; done) | omega | (simp; omega))))]; (focus ((repeat' (first | (with_reducible assumption) | ((with_reducible refine heap_last ?_); (focus (first | (simp; done) | omega | (simp; omega)))) | ((with_reducible refine heap_prev ?_ ?_); (focus (first | (simp; done) | omega | (simp; omega)))) | (with_reducible apply row_heap) | ((with_reducible apply tab_set); (focus (first | (simp; done) | omega | (simp; omega)))) | ((with_reducible refine sign_other ?_ ?_); (focus (first | (simp; done) | omega | (simp; omega)))) | ((with_reducible refine row_other ?_ ?_); (focus (first | (simp; done) | omega | (simp; omega)))) | (with_reducible refine drew_heap ?_) | (with_reducible refine drewN_heap ?_))); done))
      have p22 : v2.heap[w.heap.size + 1]? = some (.cells (BC k (fun i => thereA z i)) 66 (0, 0)) := by rw [b2.block _ (by (focus (first | (simp; done) | omega | (simp; omega))))]; (focus ((repeat' (first | (with_reducible assumption) | ((with_reducible refine heap_last ?_); (focus (first | (simp; done) | omega | (simp; omega)))) | ((with_reducible refine heap_prev ?_ ?_); (focus (first | (simp; done) | omega | (simp; omega)))) | (with_reducible apply row_heap) | ((with_reducible apply tab_set); (focus (first | (simp; done) | omega | (simp; omega)))) | ((with_reducible refine sign_other ?_ ?_); (focus (first | (simp; done) | omega | (simp; omega)))) | ((with_reducible refine row_other ?_ ?_); (focus (first | (simp; done) | omega | (simp; omega)))) | (with_reducible refine drew_heap ?_) | (with_reducible refine drewN_heap ?_))); done))
      have p23 : v2.heap[w.heap.size + 2]? = some (.cells (BC k (fun i => hasA z i v)) 66 (0, 0)) := by rw [b2.block _ (by (focus (first | (simp; done) | omega | (simp; omega))))]; (focus ((repeat' (first | (with_reducible assumption) | ((with_reducible refine heap_last ?_); (focus (first | (simp; done) | omega | (simp; omega)))) | ((with_reducible refine heap_prev ?_ ?_); (focus (first | (simp; done) | omega | (simp; omega)))) | (with_reducible apply row_heap) | ((with_reducible apply tab_set); (focus (first | (simp; done) | omega | (simp; omega)))) | ((with_reducible refine sign_other ?_ ?_); (focus (first | (simp; done) | omega | (simp; omega)))) | ((with_reducible refine row_other ?_ ?_); (focus (first | (simp; done) | omega | (simp; omega)))) | (with_reducible refine drew_heap ?_) | (with_reducible refine drewN_heap ?_))); done))
      have s2 : w.heap.size + 3 ≤ v2.heap.size := by have := b2.size; (try simp at this); omega
      have B2 : Below w.heap.size w v2 := Below.trans (by (focus ((repeat' (first | (with_reducible exact Below.refl _ _) | (with_reducible assumption) | (with_reducible refine Below.alloc ?_ ?_ _) | (with_reducible refine Below.setCell ?_ ?_ _) | (with_reducible refine Below.row ?_ ?_ _) | (with_reducible refine Below.drew ?_) | (with_reducible refine below_drewN ?_ _) | (focus (first | (simp; done) | omega | (simp; omega))))); done))) (b2.mono (by (focus (first | (simp; done) | omega | (simp; omega)))))
      clear b2
      (try go_wp2_with fail)
      refine hK.out _ _ (by first | (dsimp only; assumption) | assumption | assumption) (fun hHeld => ?_)
      clear hK K
      (repeat (first | simp only [Act.put] | simp only [List.setIfInBounds_toArray] | simp only [List.set_cons_succ] | simp only [List.set_cons_zero]))
      have e1 := bool_set p22 hk7; have e2 : v2.frozen? ⟨w.heap.size + 1, k, none⟩ = false := bool_frozen p22; have e3 := bool_cell p22 hk7
      refine wpAnyH_ready (rs := [10]) (by kernel_rfl) (by simp) ?_
      refine AllReadyH.cons (o := ⟨none, _, _, _, _, _⟩) rfl (fun K hK => ?_) AllReadyH.nil
      go_simp
      refine hK.out _ _ (by first | (dsimp only; (exact sign_other (by simp) p21)) | (exact sign_other (by simp) p21) | assumption) (fun hHeld => ?_)
      clear hK K
      (repeat (first | simp only [Act.put] | simp only [List.setIfInBounds_toArray] | simp only [List.set_cons_succ] | simp only [List.set_cons_zero]))
      refine wpAnyH_take (i := 11) (oi := ⟨some 21, _, _, _, _, _⟩) (v := ?_) rfl (by kernel_rfl) (by kernel_rfl) (by kernel_rfl) (fun _ _ _ h => h) (Or.inl ⟨by kernel_rfl, ?_⟩) (by assumption) ?_
      rotate_left
      · (intro w hSw; (try dsimp only at hSw); go_simp; try with_reducible rfl)
      (repeat (first | simp only [Act.put] | simp only [List.setIfInBounds_toArray] | simp only [List.set_cons_succ] | simp only [List.set_cons_zero]))
      have f1 := sign_other (w := v2) (a := ⟨w.heap.size + 1, k, none⟩) (v := .bool (thereA z k)) (show w.heap.size + 2 ≠ w.heap.size + 1 by omega) p23
      have f2 := bool_set f1 hk7; have f3 := bool_frozen (j := k) f1; have f4 := bool_cell f1 hk7
      have f5 := sign_other (w := v2) (a := ⟨w.heap.size + 1, k, none⟩) (v := .bool (thereA z k)) (show w.heap.size ≠ w.heap.size + 1 by omega) p21
      refine wpAnyH_ready (rs := [12]) (by kernel_rfl) (by simp) ?_
      refine AllReadyH.cons (o := ⟨none, _, _, _, _, _⟩) rfl (fun K hK => ?_) AllReadyH.nil
      go_simp
      refine hK.out _ _ (by first | (dsimp only; (exact sign_other (by (focus (first | (simp; done) | omega | (simp; omega)))) f5)) | (exact sign_other (by (focus (first | (simp; done) | omega | (simp; omega)))) f5) | assumption) (fun hHeld => ?_)
      clear hK K
      (repeat (first | simp only [Act.put] | simp only [List.setIfInBounds_toArray] | simp only [List.set_cons_succ] | simp only [List.set_cons_zero]))
      refine wpAnyH_done (by kernel_rfl) ?_ _
      have F1 := Lib.hid (sign_other (a := ⟨w.heap.size + 2, k, none⟩) (v := .bool (hasA z k v)) (show w.heap.size ≠ w.heap.size + 2 by omega) f5)
      have F2 := Lib.hid (sign_other (a := ⟨w.heap.size + 2, k, none⟩) (v := .bool (hasA z k v)) (show w.heap.size + 1 ≠ w.heap.size + 2 by omega) e1)
      have F3 := Lib.hid f2
      clear f1 f2 f3 f4 f5 e1 e2 e3 p11 p12 p13 p21 p22 p23 q1 q2 q3
      go_wp2_with fail
      exact ⟨⟨k + 1, by omega, by go_num, F1, F2, F3, by (focus ((repeat' (first | (with_reducible exact Below.refl _ _) | (with_reducible assumption) | (with_reducible refine Below.alloc ?_ ?_ _) | (with_reducible refine Below.setCell ?_ ?_ _) | (with_reducible refine Below.row ?_ ?_ _) | (with_reducible refine Below.drew ?_) | (with_reducible refine below_drewN ?_ _) | (focus (first | (simp; done) | omega | (simp; omega))))); done)), by (focus (first | (simp; done) | omega | (simp; omega)))⟩, by simp [intOf]; omega⟩
    · obtain rfl : k = 7 := by omega
      have g1 := h1.out
      have g2 := h2.out
      have g3 := h3.out
      have c0 := tab_n g1
      by_cases h0 : 0 < z 0
      · have hI : (0 : Int) < (z 0 : Int) := by omega
        have hE : allA z v = allB z v := by
          unfold allA allB
          rw [Bool.eq_iff_iff, decide_eq_true_iff, List.all_eq_true]
          constructor
          · rintro ⟨_, h⟩ i hi
            rw [h i (List.mem_range.1 hi)]
            simp
          · intro h
            refine ⟨h0, fun i hi => ?_⟩
            have := h i (List.mem_range.2 hi)
            simpa using this
        have hq := eqB (fun i => hasA z i v) (fun i => thereA z i) wr
        change _ = Result.ok (allB z v) wr at hq
        rw [← hE, ← hA.out] at hq
        go_wp2_with (first | ((with_reducible apply loadB); rfl; rfl; rfl; (focus ((repeat' (first | (with_reducible assumption) | ((with_reducible refine heap_last ?_); (focus (first | (simp; done) | omega | (simp; omega)))) | ((with_reducible refine heap_prev ?_ ?_); (focus (first | (simp; done) | omega | (simp; omega)))) | (with_reducible apply row_heap) | ((with_reducible apply tab_set); (focus (first | (simp; done) | omega | (simp; omega)))) | ((with_reducible refine sign_other ?_ ?_); (focus (first | (simp; done) | omega | (simp; omega)))) | ((with_reducible refine row_other ?_ ?_); (focus (first | (simp; done) | omega | (simp; omega)))) | (with_reducible refine drew_heap ?_) | (with_reducible refine drewN_heap ?_))); done)); skip))
        go_ret
        exact ⟨rfl, by (focus ((repeat' (first | (with_reducible exact Below.refl _ _) | (with_reducible assumption) | (with_reducible refine Below.alloc ?_ ?_ _) | (with_reducible refine Below.setCell ?_ ?_ _) | (with_reducible refine Below.row ?_ ?_ _) | (with_reducible refine Below.drew ?_) | (with_reducible refine below_drewN ?_ _) | (focus (first | (simp; done) | omega | (simp; omega))))); done))⟩
      · have hI : ¬ (0 : Int) < (z 0 : Int) := by omega
        have hE : allA z v = false := by unfold allA; rw [decide_eq_false_iff_not]; exact fun h => h0 h.1
        rw [← hA.out] at hE
        subst hE
        go_wp2_with fail
        go_ret
        exact ⟨rfl, by (focus ((repeat' (first | (with_reducible exact Below.refl _ _) | (with_reducible assumption) | (with_reducible refine Below.alloc ?_ ?_ _) | (with_reducible refine Below.setCell ?_ ?_ _) | (with_reducible refine Below.row ?_ ?_ _) | (with_reducible refine Below.drew ?_) | (with_reducible refine below_drewN ?_ _) | (focus (first | (simp; done) | omega | (simp; omega))))); done))⟩
end Go.Proofs.Ythbocddkomhpoaa
