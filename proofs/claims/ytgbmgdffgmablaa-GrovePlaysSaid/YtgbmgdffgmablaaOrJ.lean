/- order: for OrderRank. -/
import Derived.Test.YtgbmgdffgmablaaOrI
namespace Go.Proofs.Ytgbmgdffgmablaa
open Go.RowKit Go.Sort Go.Lib Go.Shelf

theorem three_box (w : World) (o0 o1 o2 : Obj) : (((w.alloc o0).alloc o1).alloc o2).heap[w.heap.size]? = some o0 ∧ (((w.alloc o0).alloc o1).alloc o2).heap[w.heap.size + 1]? = some o1 ∧ (((w.alloc o0).alloc o1).alloc o2).heap[w.heap.size + 1 + 1]? = some o2 ∧ Gw w (((w.alloc o0).alloc o1).alloc o2) ∧ (((w.alloc o0).alloc o1).alloc o2).heap.size = w.heap.size + 3 := by
  refine ⟨?_, ?_, ?_, ?_, ?_⟩
  · exact hd_prev (by simp; omega) (hd_prev (by simp) (hd_last rfl))
  · exact hd_prev (by simp) (hd_last (by simp))
  · exact hd_last (by simp)
  · exact ((Gw.refl w).alloc _).alloc _ |>.alloc _
  · simp
theorem gw_grow (w : World) (n : Nat) (os : Array Obj) : Gw w (grow (w.drewN n) os) :=
  ⟨⟨rfl, rfl, rfl, by rw [size_grow]; exact Nat.le_add_right _ _, fun j hj => by rw [heap_grow_old _ _ (by exact hj)]; rfl⟩, Nat.le_add_right _ _⟩
theorem gw_heap {w w' : World} (h : Gw w w') {g : Nat} {o : Obj} (hg : w.heap[g]? = some o) : w'.heap[g]? = some o := (h.b.block g (blk_lt hg)).trans hg
theorem grown_cell {w : World} {g : Nat} {x : Od} {t : TypeId} (h : w.heap[g]? = some (.cells (OC x) t (0, 0))) (n : Nat) (os : Array Obj) : (grow (w.drewN n) os).heap[g]? = some (.cells (OC x) t (0, 0)) := gw_heap (gw_grow w n os) h
theorem box_cells {w : World} {g : Nat} {x : Od} {t : TypeId} (h : w.heap[g]? = some (.cells (OC x) t (0, 0))) :
    w.cell? ⟨g, 0, none⟩ = some (.int .u64 x.id) ∧ w.cell? ⟨g, 1, none⟩ = some (.int .i64 x.acc) ∧ w.cell? ⟨g, 2, none⟩ = some (.int .i64 x.side) ∧ w.cell? ⟨g, 3, none⟩ = some (.int .i64 x.price) ∧ w.cell? ⟨g, 4, none⟩ = some (.int .i64 x.qty) ∧ w.cell? ⟨g, 5, none⟩ = some (.int .u64 x.seq) := by
  refine ⟨?_, ?_, ?_, ?_, ?_, ?_⟩ <;> (rw [cell_of_row _ _ _ _ _ _ h]; rfl)
theorem ahead_g (x y : Od) (w : World) : Calls Try.prog 51 #[.agg (OC x), .agg (OC y)] w fun e w' => e = .returned (.bool (ahdO x y)) ∧ ∃ q os', w' = grow (w.drewN q) os' :=
  (ahead_o x y w).mono fun _ _ ⟨h1, h2⟩ => ⟨h1, h2.grow⟩
def unlikeO (x y : Od) : Bool := decide (x.price ≠ y.price ∨ x.seq ≠ y.seq ∨ x.id ≠ y.id)
theorem ahd_unlike {x y : Od} {s : Int} (hx : x.side = s) (hy : y.side = s) (hs : s = 1 ∨ s = 2) : (ahdO x y != ahdO y x) = unlikeO x y := by
  have h1 := ahd_iff x y
  have h2 := ahd_iff y x
  rw [hx, hy] at h1 h2
  unfold unlikeO
  cases e1 : ahdO x y <;> cases e2 : ahdO y x <;> rw [e1] at h1 <;> rw [e2] at h2 <;> simp only [bne_self_eq_false, Bool.bne_true, Bool.bne_false, Bool.not_false] <;> symm <;> first | (rw [decide_eq_true_iff]; simp at h1 h2; omega) | (rw [decide_eq_false_iff_not]; simp at h1 h2; omega)
theorem ahd_trans {x y z : Od} (h : ahdO x y = true) (k : ahdO y z = true) : ahdO x z = true := by
  rw [ahd_iff] at *; omega
theorem ahd_none {x y : Od} (h1 : x.side ≠ 1) (h2 : x.side ≠ 2) : ahdO x y = false := by
  cases e : ahdO x y with
  | false => rfl
  | true => rw [ahd_iff] at e; omega
end Go.Proofs.Ytgbmgdffgmablaa
