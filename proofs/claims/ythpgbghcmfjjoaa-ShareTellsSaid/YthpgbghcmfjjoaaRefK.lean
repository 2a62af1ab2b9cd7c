/- Whole numbers (136 bits and a sign) in and out of memory. -/
import Derived.Test.YthpgbghcmfjjoaaNum
import Derived.WalkSpells
import Derived.WalkLawsBesides
import Derived.Handy
import Derived.BigQuiet
import Derived.Deep.QuietTactic
import Derived.Deep.WholeRow
namespace Go.Proofs.Ythpgbghcmfjjoaa
open Go.RowKit

theorem zero83 (w : World) : (zeroValue 57).run Try.prog w = .ok (.agg (NC 0 false)) w := by kernel_rfl
theorem info83 : (Try.prog.info? 57).map (·.size) = some 137 := by kernel_rfl
theorem info83' (m : Nat) (s : Bool) : (Try.prog.info? 57).map (·.size) = some (NC m s).size := by rw [info83, NC_size]
theorem setRow_last {w : World} {n : Nat} {c c' : Array Value} {t : TypeId} (h : n = w.heap.size) : (w.alloc (.cells c t)).setRow n c' = w.alloc (.cells c' t) := by
  subst h; exact World.setRow_alloc_new w c c' t
theorem setRow_prev {w : World} {n : Nat} {c' : Array Value} {o : Obj} (h : n < w.heap.size) : (w.alloc o).setRow n c' = (w.setRow n c').alloc o := by
  simp only [World.setRow, World.alloc]
  congr 1
  apply Array.ext_getElem?
  intro i
  simp only [Array.getElem?_modify, Array.getElem?_push, Array.size_modify]
  by_cases h1 : n = i
  · subst h1; simp [show ¬ n = w.heap.size by omega]
  · simp [h1]

theorem sign_heap {w : World} {g m : Nat} {s r : Bool} {t : TypeId} (h : w.heap[g]? = some (.cells (NC m s) t (0, 0))) : (w.setCell ⟨g, 136, none⟩ (.bool r)).heap[g]? = some (.cells (NC m r) t (0, 0)) := by
  rw [heap_setCell_same _ _ _ _ _ _ h, NC_setSign]
theorem bit0_heap {w : World} {g m : Nat} {s v : Bool} {t : TypeId} (h : w.heap[g]? = some (.cells (NC (2 * m) s) t (0, 0))) : (w.setCell ⟨g, 0, none⟩ (.bool v)).heap[g]? = some (.cells (NC (2 * m + if v then 1 else 0) s) t (0, 0)) := by
  rw [heap_setCell_same _ _ _ _ _ _ h, setBit0]
theorem sign_other {w : World} {g : Nat} {a : Addr} {v : Value} {p : Obj} (hne : g ≠ a.block) (h : w.heap[g]? = some p) : (w.setCell a v).heap[g]? = some p := by
  rw [heap_setCell_other _ _ _ _ hne]; exact h
theorem row_heap {w : World} {g : Nat} {c c' : Array Value} {t : TypeId} (h : w.heap[g]? = some (.cells c t (0, 0))) : (w.setRow g c').heap[g]? = some (.cells c' t (0, 0)) := setRow_heap w g c c' t _ h
theorem row_other {w : World} {g k : Nat} {c' : Array Value} {p : Obj} (hne : k ≠ g) (h : w.heap[k]? = some p) : (w.setRow g c').heap[k]? = some p := by rw [setRow_other w g k c' hne]; exact h
theorem Below.row {B g : Nat} {w0 w : World} (hb : Below B w0 w) (hBg : B ≤ g) (cs : Array Value) : Below B w0 (w.setRow g cs) :=
  hb.trans ⟨rfl, rfl, rfl, by simp [World.setRow], fun k hk => setRow_other w g k cs (by omega)⟩
theorem heap_at (w : World) (o : Obj) (n : Nat) : (w.alloc o).heap[n]? = if n = w.heap.size then some o else w.heap[n]? := by
  show (w.heap.push o)[n]? = _
  rw [Array.getElem?_push]
section
variable {ops : Array Oper} {rest : List Oper} {o : Oper} {a : Act} {w : World} {Q : Exit → Act → World → Prop}
theorem load83 (hgd : Region.wanted o (yielded ops a.tmps) = true) (x : Operand) (ho : o.op = .load 57 x) (g : Nat) (hx : a.eval x = .pointer (some ⟨g, 0, none⟩)) (m : Nat) (s : Bool)
    (hg : w.heap[g]? = some (.cells (NC m s) 57 (0, 0))) (h : wpList Try.prog ops Q rest (a.put o.dst (.agg (NC m s))) w) : wpList Try.prog ops Q (o :: rest) a w :=
  BigFrame.wpList_want hgd fun _ hK => wp_load_row _ x ho g hx _ _ (0, 0) _ hg Try.underlying57 rfl (info83' m s) (hK _ _ h)
theorem store83 (hgd : Region.wanted o (yielded ops a.tmps) = true) (x y : Operand) (ho : o.op = .store 57 x y) (g : Nat) (m : Nat) (s : Bool) (hx : a.eval x = .pointer (some ⟨g, 0, none⟩)) (hy : a.eval y = .agg (NC m s)) (m' : Nat) (s' : Bool)
    (hg : w.heap[g]? = some (.cells (NC m' s') 57 (0, 0))) (h : wpList Try.prog ops Q rest (a.put o.dst undef) (w.setRow g (NC m s))) : wpList Try.prog ops Q (o :: rest) a w :=
  BigFrame.wpList_want hgd fun _ hK => wp_store_row _ x y ho g _ hx hy _ _ hg (info83' m s) (by rw [NC_size, NC_size]) (NC_one m s) (hK _ _ h)
theorem store83_0 {w0 : World} (hgd : Region.wanted o (yielded ops a.tmps) = true) (x y : Operand) (ho : o.op = .store 57 x y) (g : Nat) (m : Nat) (s : Bool) (hx : a.eval x = .pointer (some ⟨g, 0, none⟩)) (hy : a.eval y = .agg (NC m s)) (m' : Nat) (s' : Bool)
    (hg : g = w0.heap.size) (h : wpList Try.prog ops Q rest (a.put o.dst undef) (w0.alloc (.cells (NC m s) 57))) : wpList Try.prog ops Q (o :: rest) a (w0.alloc (.cells (NC m' s') 57)) := by
  subst hg
  refine store83 hgd x y ho _ m s hx hy m' s' (heap_last rfl) ?_
  rw [setRow_last rfl]
  exact h
theorem store83_1 {w0 : World} {p1 : Obj} (hgd : Region.wanted o (yielded ops a.tmps) = true) (x y : Operand) (ho : o.op = .store 57 x y) (g : Nat) (m : Nat) (s : Bool) (hx : a.eval x = .pointer (some ⟨g, 0, none⟩)) (hy : a.eval y = .agg (NC m s)) (m' : Nat) (s' : Bool)
    (hg : g = w0.heap.size) (h : wpList Try.prog ops Q rest (a.put o.dst undef) ((w0.alloc (.cells (NC m s) 57)).alloc p1)) : wpList Try.prog ops Q (o :: rest) a ((w0.alloc (.cells (NC m' s') 57)).alloc p1) := by
  subst hg
  refine store83 hgd x y ho _ m s hx hy m' s' (heap_prev (by simp only [World.size_alloc]; omega) (heap_last rfl)) ?_
  rw [setRow_prev (by simp only [World.size_alloc]; omega), setRow_last rfl]
  exact h
theorem store83_2 {w0 : World} {p1 p2 : Obj} (hgd : Region.wanted o (yielded ops a.tmps) = true) (x y : Operand) (ho : o.op = .store 57 x y) (g : Nat) (m : Nat) (s : Bool) (hx : a.eval x = .pointer (some ⟨g, 0, none⟩)) (hy : a.eval y = .agg (NC m s)) (m' : Nat) (s' : Bool)
    (hg : g = w0.heap.size) (h : wpList Try.prog ops Q rest (a.put o.dst undef) (((w0.alloc (.cells (NC m s) 57)).alloc p1).alloc p2)) : wpList Try.prog ops Q (o :: rest) a (((w0.alloc (.cells (NC m' s') 57)).alloc p1).alloc p2) := by
  subst hg
  refine store83 hgd x y ho _ m s hx hy m' s' (heap_prev (by simp only [World.size_alloc]; omega) (heap_prev (by simp only [World.size_alloc]; omega) (heap_last rfl))) ?_
  rw [setRow_prev (by simp only [World.size_alloc]; omega), setRow_prev (by simp only [World.size_alloc]; omega), setRow_last rfl]
  exact h
theorem store83_3 {w0 : World} {p1 p2 p3 : Obj} (hgd : Region.wanted o (yielded ops a.tmps) = true) (x y : Operand) (ho : o.op = .store 57 x y) (g : Nat) (m : Nat) (s : Bool) (hx : a.eval x = .pointer (some ⟨g, 0, none⟩)) (hy : a.eval y = .agg (NC m s)) (m' : Nat) (s' : Bool)
    (hg : g = w0.heap.size) (h : wpList Try.prog ops Q rest (a.put o.dst undef) ((((w0.alloc (.cells (NC m s) 57)).alloc p1).alloc p2).alloc p3)) : wpList Try.prog ops Q (o :: rest) a ((((w0.alloc (.cells (NC m' s') 57)).alloc p1).alloc p2).alloc p3) := by
  subst hg
  refine store83 hgd x y ho _ m s hx hy m' s' (heap_prev (by simp only [World.size_alloc]; omega) (heap_prev (by simp only [World.size_alloc]; omega) (heap_prev (by simp only [World.size_alloc]; omega) (heap_last rfl)))) ?_
  rw [setRow_prev (by simp only [World.size_alloc]; omega), setRow_prev (by simp only [World.size_alloc]; omega), setRow_prev (by simp only [World.size_alloc]; omega), setRow_last rfl]
  exact h
theorem store83_4 {w0 : World} {p1 p2 p3 p4 : Obj} (hgd : Region.wanted o (yielded ops a.tmps) = true) (x y : Operand) (ho : o.op = .store 57 x y) (g : Nat) (m : Nat) (s : Bool) (hx : a.eval x = .pointer (some ⟨g, 0, none⟩)) (hy : a.eval y = .agg (NC m s)) (m' : Nat) (s' : Bool)
    (hg : g = w0.heap.size) (h : wpList Try.prog ops Q rest (a.put o.dst undef) (((((w0.alloc (.cells (NC m s) 57)).alloc p1).alloc p2).alloc p3).alloc p4)) : wpList Try.prog ops Q (o :: rest) a (((((w0.alloc (.cells (NC m' s') 57)).alloc p1).alloc p2).alloc p3).alloc p4) := by
  subst hg
  refine store83 hgd x y ho _ m s hx hy m' s' (heap_prev (by simp only [World.size_alloc]; omega) (heap_prev (by simp only [World.size_alloc]; omega) (heap_prev (by simp only [World.size_alloc]; omega) (heap_prev (by simp only [World.size_alloc]; omega) (heap_last rfl))))) ?_
  rw [setRow_prev (by simp only [World.size_alloc]; omega), setRow_prev (by simp only [World.size_alloc]; omega), setRow_prev (by simp only [World.size_alloc]; omega), setRow_prev (by simp only [World.size_alloc]; omega), setRow_last rfl]
  exact h
theorem any_load83 {K : Act → World → Prop} {E : Prop} (hgd : Region.wanted o (yielded ops a.tmps) = true) (x : Operand) (ho : o.op = .load 57 x) (g : Nat) (hx : a.eval x = .pointer (some ⟨g, 0, none⟩)) (m : Nat) (s : Bool)
    (hg : w.heap[g]? = some (.cells (NC m s) 57 (0, 0))) (h : K (a.put o.dst (.agg (NC m s))) w) : if Region.wanted o (yielded ops a.tmps) = true then Oper.wp Try.prog o a w K Q else E := by
  rw [if_pos hgd]
  exact wp_load_row _ x ho g hx _ _ (0, 0) _ hg Try.underlying57 rfl (info83' m s) h
theorem any_store83 {K : Act → World → Prop} {E : Prop} (hgd : Region.wanted o (yielded ops a.tmps) = true) (x y : Operand) (ho : o.op = .store 57 x y) (g : Nat) (m : Nat) (s : Bool) (hx : a.eval x = .pointer (some ⟨g, 0, none⟩)) (hy : a.eval y = .agg (NC m s)) (m' : Nat) (s' : Bool)
    (hg : w.heap[g]? = some (.cells (NC m' s') 57 (0, 0))) (h : K (a.put o.dst undef) (w.setRow g (NC m s))) : if Region.wanted o (yielded ops a.tmps) = true then Oper.wp Try.prog o a w K Q else E := by
  rw [if_pos hgd]
  exact wp_store_row _ x y ho g _ hx hy _ _ hg (info83' m s) (by rw [NC_size, NC_size]) (NC_one m s) h
theorem ret83_two {fn : Func} {p q : Tmp} (h : fn.results = #[.cell p 57, .cell q 57]) (tmps : Array Value) (w : World) (g g' : Nat) (hp : tmps.getD p undef = .pointer (some ⟨g, 0, none⟩)) (hq : tmps.getD q undef = .pointer (some ⟨g', 0, none⟩)) (m m' : Nat) (s s' : Bool)
    (hg : w.heap[g]? = some (.cells (NC m s) 57 (0, 0))) (hg' : w.heap[g']? = some (.cells (NC m' s') 57 (0, 0))) : (results fn tmps).run Try.prog w = .ok (.tuple #[.agg (NC m s), .agg (NC m' s')]) w := by
  have hp' : tmps[p]?.getD undef = .pointer (some ⟨g, 0, none⟩) := by simpa using hp
  have hq' : tmps[q]?.getD undef = .pointer (some ⟨g', 0, none⟩) := by simpa using hq
  simp [results, h, hp', hq', asAddr, run_loadVar_row w g _ _ _ (0, 0) _ hg Try.underlying57 rfl (info83' m s), run_loadVar_row w g' _ _ _ (0, 0) _ hg' Try.underlying57 rfl (info83' m' s')]
theorem ret83 {fn : Func} {p : Tmp} (h : fn.results = #[.cell p 57]) (tmps : Array Value) (w : World) (g : Nat) (hp : tmps.getD p undef = .pointer (some ⟨g, 0, none⟩)) (m : Nat) (s : Bool)
    (hg : w.heap[g]? = some (.cells (NC m s) 57 (0, 0))) : (results fn tmps).run Try.prog w = .ok (.agg (NC m s)) w :=
  results_cell_row h tmps w g _ _ (0, 0) _ hp hg Try.underlying57 rfl (info83' m s)
end
end Go.Proofs.Ythpgbghcmfjjoaa
