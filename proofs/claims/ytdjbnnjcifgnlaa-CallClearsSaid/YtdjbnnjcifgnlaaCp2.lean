/- What the laws lean on, in a few texts (by shake.py): number 2 of 5. -/
import Derived.Test.YtdjbnnjcifgnlaaCp1
import Derived.WalkSpells
import Derived.WalkLawsBesides
import Derived.Handy
import Derived.BigQuiet
import Derived.Deep.QuietTactic
import Derived.Deep.WholeRow
import Derived.Lib.Hide
import Derived.Deep.RegionWith
import Derived.Deep.RegionHeld3

namespace Go.Proofs.Ytdjbnnjcifgnlaa
open Go.RowKit

theorem zero83 (w : World) : (zeroValue 108).run Try.prog w = .ok (.agg (NC 0 false)) w := by kernel_rfl
theorem info83 : (Try.prog.info? 108).map (·.size) = some 137 := by kernel_rfl
theorem info83' (m : Nat) (s : Bool) : (Try.prog.info? 108).map (·.size) = some (NC m s).size := by rw [info83, NC_size]
theorem setRow_last {w : World} {n : Nat} {c c' : Array Value} {t : TypeId} (h : n = w.heap.size) : (w.alloc (.cells c t)).setRow n c' = w.alloc (.cells c' t) := by
  subst h; exact World.setRow_alloc_new w c c' t
theorem setRow_prev {w : World} {n : Nat} {c' : Array Value} {o : Obj} (h : n < w.heap.size) : (w.alloc o).setRow n c' = (w.setRow n c').alloc o := by
  simp only [World.setRow, World.alloc]
  congr 1
  apply Array.ext_getElem?
  intro i
  simp only [Array.getElem?_modify, Array.getElem?_push, Array.size_modify]
  by_cases h1 : n = i
  · subst h1; simp [show ¬ n = w.heap.size by omega]
  · simp [h1]

theorem sign_heap {w : World} {g m : Nat} {s r : Bool} {t : TypeId} (h : w.heap[g]? = some (.cells (NC m s) t (0, 0))) : (w.setCell ⟨g, 136, none⟩ (.bool r)).heap[g]? = some (.cells (NC m r) t (0, 0)) := by
  rw [heap_setCell_same _ _ _ _ _ _ h, NC_setSign]
theorem bit0_heap {w : World} {g m : Nat} {s v : Bool} {t : TypeId} (h : w.heap[g]? = some (.cells (NC (2 * m) s) t (0, 0))) : (w.setCell ⟨g, 0, none⟩ (.bool v)).heap[g]? = some (.cells (NC (2 * m + if v then 1 else 0) s) t (0, 0)) := by
  rw [heap_setCell_same _ _ _ _ _ _ h, setBit0]
theorem sign_other {w : World} {g : Nat} {a : Addr} {v : Value} {p : Obj} (hne : g ≠ a.block) (h : w.heap[g]? = some p) : (w.setCell a v).heap[g]? = some p := by
  rw [heap_setCell_other _ _ _ _ hne]; exact h
theorem row_heap {w : World} {g : Nat} {c c' : Array Value} {t : TypeId} (h : w.heap[g]? = some (.cells c t (0, 0))) : (w.setRow g c').heap[g]? = some (.cells c' t (0, 0)) := setRow_heap w g c c' t _ h
theorem row_other {w : World} {g k : Nat} {c' : Array Value} {p : Obj} (hne : k ≠ g) (h : w.heap[k]? = some p) : (w.setRow g c').heap[k]? = some p := by rw [setRow_other w g k c' hne]; exact h
theorem Below.row {B g : Nat} {w0 w : World} (hb : Below B w0 w) (hBg : B ≤ g) (cs : Array Value) : Below B w0 (w.setRow g cs) :=
  hb.trans ⟨rfl, rfl, rfl, by simp [World.setRow], fun k hk => setRow_other w g k cs (by omega)⟩
section
variable {ops : Array Oper} {rest : List Oper} {o : Oper} {a : Act} {w : World} {Q : Exit → Act → World → Prop}
theorem load83 (hgd : Region.wanted o (yielded ops a.tmps) = true) (x : Operand) (ho : o.op = .load 108 x) (g : Nat) (hx : a.eval x = .pointer (some ⟨g, 0, none⟩)) (m : Nat) (s : Bool)
    (hg : w.heap[g]? = some (.cells (NC m s) 108 (0, 0))) (h : wpList Try.prog ops Q rest (a.put o.dst (.agg (NC m s))) w) : wpList Try.prog ops Q (o :: rest) a w :=
  BigFrame.wpList_want hgd fun _ hK => wp_load_row _ x ho g hx _ _ (0, 0) _ hg Try.underlying108 rfl (info83' m s) (hK _ _ h)
theorem store83 (hgd : Region.wanted o (yielded ops a.tmps) = true) (x y : Operand) (ho : o.op = .store 108 x y) (g : Nat) (m : Nat) (s : Bool) (hx : a.eval x = .pointer (some ⟨g, 0, none⟩)) (hy : a.eval y = .agg (NC m s)) (m' : Nat) (s' : Bool)
    (hg : w.heap[g]? = some (.cells (NC m' s') 108 (0, 0))) (h : wpList Try.prog ops Q rest (a.put o.dst undef) (w.setRow g (NC m s))) : wpList Try.prog ops Q (o :: rest) a w :=
  BigFrame.wpList_want hgd fun _ hK => wp_store_row _ x y ho g _ hx hy _ _ hg (info83' m s) (by rw [NC_size, NC_size]) (NC_one m s) (hK _ _ h)
theorem store83_0 {w0 : World} (hgd : Region.wanted o (yielded ops a.tmps) = true) (x y : Operand) (ho : o.op = .store 108 x y) (g : Nat) (m : Nat) (s : Bool) (hx : a.eval x = .pointer (some ⟨g, 0, none⟩)) (hy : a.eval y = .agg (NC m s)) (m' : Nat) (s' : Bool)
    (hg : g = w0.heap.size) (h : wpList Try.prog ops Q rest (a.put o.dst undef) (w0.alloc (.cells (NC m s) 108))) : wpList Try.prog ops Q (o :: rest) a (w0.alloc (.cells (NC m' s') 108)) := by
  subst hg
  refine store83 hgd x y ho _ m s hx hy m' s' (heap_last rfl) ?_
  rw [setRow_last rfl]
  exact h
theorem store83_1 {w0 : World} {p1 : Obj} (hgd : Region.wanted o (yielded ops a.tmps) = true) (x y : Operand) (ho : o.op = .store 108 x y) (g : Nat) (m : Nat) (s : Bool) (hx : a.eval x = .pointer (some ⟨g, 0, none⟩)) (hy : a.eval y = .agg (NC m s)) (m' : Nat) (s' : Bool)
    (hg : g = w0.heap.size) (h : wpList Try.prog ops Q rest (a.put o.dst undef) ((w0.alloc (.cells (NC m s) 108)).alloc p1)) : wpList Try.prog ops Q (o :: rest) a ((w0.alloc (.cells (NC m' s') 108)).alloc p1) := by
  subst hg
  refine store83 hgd x y ho _ m s hx hy m' s' (heap_prev (by simp only [World.size_alloc]; omega) (heap_last rfl)) ?_
  rw [setRow_prev (by simp only [World.size_alloc]; omega), setRow_last rfl]
  exact h
theorem store83_2 {w0 : World} {p1 p2 : Obj} (hgd : Region.wanted o (yielded ops a.tmps) = true) (x y : Operand) (ho : o.op = .store 108 x y) (g : Nat) (m : Nat) (s : Bool) (hx : a.eval x = .pointer (some ⟨g, 0, none⟩)) (hy : a.eval y = .agg (NC m s)) (m' : Nat) (s' : Bool)
    (hg : g = w0.heap.size) (h : wpList Try.prog ops Q rest (a.put o.dst undef) (((w0.alloc (.cells (NC m s) 108)).alloc p1).alloc p2)) : wpList Try.prog ops Q (o :: rest) a (((w0.alloc (.cells (NC m' s') 108)).alloc p1).alloc p2) := by
  subst hg
  refine store83 hgd x y ho _ m s hx hy m' s' (heap_prev (by simp only [World.size_alloc]; omega) (heap_prev (by simp only [World.size_alloc]; omega) (heap_last rfl))) ?_
  rw [setRow_prev (by simp only [World.size_alloc]; omega), setRow_prev (by simp only [World.size_alloc]; omega), setRow_last rfl]
  exact h
theorem store83_3 {w0 : World} {p1 p2 p3 : Obj} (hgd : Region.wanted o (yielded ops a.tmps) = true) (x y : Operand) (ho : o.op = .store 108 x y) (g : Nat) (m : Nat) (s : Bool) (hx : a.eval x = .pointer (some ⟨g, 0, none⟩)) (hy : a.eval y = .agg (NC m s)) (m' : Nat) (s' : Bool)
    (hg : g = w0.heap.size) (h : wpList Try.prog ops Q rest (a.put o.dst undef) ((((w0.alloc (.cells (NC m s) 108)).alloc p1).alloc p2).alloc p3)) : wpList Try.prog ops Q (o :: rest) a ((((w0.alloc (.cells (NC m' s') 108)).alloc p1).alloc p2).alloc p3) := by
  subst hg
  refine store83 hgd x y ho _ m s hx hy m' s' (heap_prev (by simp only [World.size_alloc]; omega) (heap_prev (by simp only [World.size_alloc]; omega) (heap_prev (by simp only [World.size_alloc]; omega) (heap_last rfl)))) ?_
  rw [setRow_prev (by simp only [World.size_alloc]; omega), setRow_prev (by simp only [World.size_alloc]; omega), setRow_prev (by simp only [World.size_alloc]; omega), setRow_last rfl]
  exact h
theorem store83_4 {w0 : World} {p1 p2 p3 p4 : Obj} (hgd : Region.wanted o (yielded ops a.tmps) = true) (x y : Operand) (ho : o.op = .store 108 x y) (g : Nat) (m : Nat) (s : Bool) (hx : a.eval x = .pointer (some ⟨g, 0, none⟩)) (hy : a.eval y = .agg (NC m s)) (m' : Nat) (s' : Bool)
    (hg : g = w0.heap.size) (h : wpList Try.prog ops Q rest (a.put o.dst undef) (((((w0.alloc (.cells (NC m s) 108)).alloc p1).alloc p2).alloc p3).alloc p4)) : wpList Try.prog ops Q (o :: rest) a (((((w0.alloc (.cells (NC m' s') 108)).alloc p1).alloc p2).alloc p3).alloc p4) := by
  subst hg
  refine store83 hgd x y ho _ m s hx hy m' s' (heap_prev (by simp only [World.size_alloc]; omega) (heap_prev (by simp only [World.size_alloc]; omega) (heap_prev (by simp only [World.size_alloc]; omega) (heap_prev (by simp only [World.size_alloc]; omega) (heap_last rfl))))) ?_
  rw [setRow_prev (by simp only [World.size_alloc]; omega), setRow_prev (by simp only [World.size_alloc]; omega), setRow_prev (by simp only [World.size_alloc]; omega), setRow_prev (by simp only [World.size_alloc]; omega), setRow_last rfl]
  exact h
theorem any_load83 {K : Act → World → Prop} {E : Prop} (hgd : Region.wanted o (yielded ops a.tmps) = true) (x : Operand) (ho : o.op = .load 108 x) (g : Nat) (hx : a.eval x = .pointer (some ⟨g, 0, none⟩)) (m : Nat) (s : Bool)
    (hg : w.heap[g]? = some (.cells (NC m s) 108 (0, 0))) (h : K (a.put o.dst (.agg (NC m s))) w) : if Region.wanted o (yielded ops a.tmps) = true then Oper.wp Try.prog o a w K Q else E := by
  rw [if_pos hgd]
  exact wp_load_row _ x ho g hx _ _ (0, 0) _ hg Try.underlying108 rfl (info83' m s) h
theorem any_store83 {K : Act → World → Prop} {E : Prop} (hgd : Region.wanted o (yielded ops a.tmps) = true) (x y : Operand) (ho : o.op = .store 108 x y) (g : Nat) (m : Nat) (s : Bool) (hx : a.eval x = .pointer (some ⟨g, 0, none⟩)) (hy : a.eval y = .agg (NC m s)) (m' : Nat) (s' : Bool)
    (hg : w.heap[g]? = some (.cells (NC m' s') 108 (0, 0))) (h : K (a.put o.dst undef) (w.setRow g (NC m s))) : if Region.wanted o (yielded ops a.tmps) = true then Oper.wp Try.prog o a w K Q else E := by
  rw [if_pos hgd]
  exact wp_store_row _ x y ho g _ hx hy _ _ hg (info83' m s) (by rw [NC_size, NC_size]) (NC_one m s) h
theorem ret83_two {fn : Func} {p q : Tmp} (h : fn.results = #[.cell p 108, .cell q 108]) (tmps : Array Value) (w : World) (g g' : Nat) (hp : tmps.getD p undef = .pointer (some ⟨g, 0, none⟩)) (hq : tmps.getD q undef = .pointer (some ⟨g', 0, none⟩)) (m m' : Nat) (s s' : Bool)
    (hg : w.heap[g]? = some (.cells (NC m s) 108 (0, 0))) (hg' : w.heap[g']? = some (.cells (NC m' s') 108 (0, 0))) : (results fn tmps).run Try.prog w = .ok (.tuple #[.agg (NC m s), .agg (NC m' s')]) w := by
  have hp' : tmps[p]?.getD undef = .pointer (some ⟨g, 0, none⟩) := by simpa using hp
  have hq' : tmps[q]?.getD undef = .pointer (some ⟨g', 0, none⟩) := by simpa using hq
  simp [results, h, hp', hq', asAddr, run_loadVar_row w g _ _ _ (0, 0) _ hg Try.underlying108 rfl (info83' m s), run_loadVar_row w g' _ _ _ (0, 0) _ hg' Try.underlying108 rfl (info83' m' s')]
theorem ret83 {fn : Func} {p : Tmp} (h : fn.results = #[.cell p 108]) (tmps : Array Value) (w : World) (g : Nat) (hp : tmps.getD p undef = .pointer (some ⟨g, 0, none⟩)) (m : Nat) (s : Bool)
    (hg : w.heap[g]? = some (.cells (NC m s) 108 (0, 0))) : (results fn tmps).run Try.prog w = .ok (.agg (NC m s)) w :=
  results_cell_row h tmps w g _ _ (0, 0) _ hp hg Try.underlying108 rfl (info83' m s)
end
end Go.Proofs.Ytdjbnnjcifgnlaa

namespace Go.Proofs.Ytdjbnnjcifgnlaa
open Go.RowKit

set_option maxHeartbeats 4000000 in
set_option maxRecDepth 100000 in
theorem more_c (a b : Nat) (s t : Bool) (w : World) :
    Calls Try.prog 71 #[.agg (NC a s), .agg (NC b t)] w fun e w' => e = .returned (.agg (NC (a + b) false)) ∧ Below w.heap.size w w' := by
  have hz := zero83
  go_enter Try.func71, Try.ntmps71
  go_wp2
  go_loopw [6, 7] (fun c i wr => ∃ k : Nat, k ≤ 136 ∧ i = .int .i64 k ∧ c = .bool (carry a b k) ∧
      wr = (((w.alloc (.cells (NC a s) 108)).alloc (.cells (NC b t) 108)).alloc (.cells (NC 0 false) 108)).alloc (.cells (NCf (below (a + b).testBit k) false) 108)) (fun _ i _ => 136 - (intOf i).toNat)
  case atStart => exact ⟨0, by omega, rfl, by rw [carry_zero], by rw [NCf_below_zero]⟩
  case round =>
    obtain ⟨k, hk, rfl, rfl, rfl⟩ := hrel
    by_cases hlt : k < 136
    · have ⟨h1, h2⟩ := add_step a b k
      have g1 := NC_get a s k hlt
      have g2 := NC_get b t k hlt
      generalize a.testBit k = x at *
      generalize b.testBit k = y at *
      generalize carry a b k = z at *
      have H1 := Lib.hid h1; clear h1
      have H2 := Lib.hid h2; clear h2
      have g3 := NCf_get (below (a + b).testBit k) false k hlt
      cases x <;> cases y <;> cases z
      all_goals
        go_wp2
        exact ⟨⟨k + 1, by omega, by go_num, by rw [H2.out]; rfl, by rw [NCf_below_set _ _ _ _ hlt (by rw [H1.out]; rfl)]⟩, by simp [intOf]; omega⟩
    · obtain rfl : k = 136 := by omega
      rw [NCf_below_all]
      go_wp2_with (first | ((with_reducible apply load83); rfl; rfl; rfl; (focus ((repeat' (first | (with_reducible assumption) | ((with_reducible refine heap_last ?_); (focus (first | (simp; done) | omega | (simp; omega)))) | ((with_reducible refine heap_prev ?_ ?_); (focus (first | (simp; done) | omega | (simp; omega)))) | (with_reducible apply sign_heap) | (with_reducible apply row_heap) | (with_reducible apply bit0_heap) | ((with_reducible refine sign_other ?_ ?_); (focus (first | (simp; done) | omega | (simp; omega)))) | ((with_reducible refine row_other ?_ ?_); (focus (first | (simp; done) | omega | (simp; omega)))) | (with_reducible refine drew_heap ?_))); done)); skip) | (first | ((with_reducible apply store83_0); rfl; rfl; rfl; rfl; (focus (simp; done)); skip) | ((with_reducible apply store83_1); rfl; rfl; rfl; rfl; (focus (simp; done)); skip) | ((with_reducible apply store83_2); rfl; rfl; rfl; rfl; (focus (simp; done)); skip) | ((with_reducible apply store83_3); rfl; rfl; rfl; rfl; (focus (simp; done)); skip) | ((with_reducible apply store83_4); rfl; rfl; rfl; rfl; (focus (simp; done)); skip)) | ((with_reducible apply bodyPost_ret); (apply ret83; rfl; rfl; (focus ((repeat' (first | (with_reducible assumption) | ((with_reducible refine heap_last ?_); (focus (first | (simp; done) | omega | (simp; omega)))) | ((with_reducible refine heap_prev ?_ ?_); (focus (first | (simp; done) | omega | (simp; omega)))) | (with_reducible apply sign_heap) | (with_reducible apply row_heap) | (with_reducible apply bit0_heap) | ((with_reducible refine sign_other ?_ ?_); (focus (first | (simp; done) | omega | (simp; omega)))) | ((with_reducible refine row_other ?_ ?_); (focus (first | (simp; done) | omega | (simp; omega)))) | (with_reducible refine drew_heap ?_))); done))); rfl; skip))
      go_grown
end Go.Proofs.Ytdjbnnjcifgnlaa

namespace Go.Proofs.Ytdjbnnjcifgnlaa
open Go.RowKit

set_option maxHeartbeats 4000000 in
set_option maxRecDepth 100000 in
theorem less_c (a b : Nat) (s t : Bool) (hab : b ≤ a) (w : World) :
    Calls Try.prog 93 #[.agg (NC a s), .agg (NC b t)] w fun e w' => e = .returned (.agg (NC (a - b) false)) ∧ Below w.heap.size w w' := by
  have hz := zero83
  go_enter Try.func93, Try.ntmps93
  go_wp2
  go_loopw [6, 7] (fun c i wr => ∃ k : Nat, k ≤ 136 ∧ i = .int .i64 k ∧ c = .int .i64 (b2i (carry b (a - b) k)) ∧
      wr = (((w.alloc (.cells (NC a s) 108)).alloc (.cells (NC b t) 108)).alloc (.cells (NC 0 false) 108)).alloc (.cells (NCf (below (a - b).testBit k) false) 108)) (fun _ i _ => 136 - (intOf i).toNat)
  case atStart => exact ⟨0, by omega, rfl, by rw [carry_zero]; rfl, by rw [NCf_below_zero]⟩
  case round =>
    obtain ⟨k, hk, rfl, rfl, rfl⟩ := hrel
    by_cases hlt : k < 136
    · have ⟨h1, h2⟩ := sub_step a b k hab
      have g1 := NC_get a s k hlt
      have g2 := NC_get b t k hlt
      generalize a.testBit k = x at *
      generalize b.testBit k = y at *
      generalize carry b (a - b) k = z at *
      have H1 := Lib.hid h1; clear h1
      have H2 := Lib.hid h2; clear h2
      have g3 := NCf_get (below (a - b).testBit k) false k hlt
      cases x <;> cases y <;> cases z
      all_goals
        simp only [b2i]
        go_wp2
        exact ⟨⟨k + 1, by omega, by go_num, by rw [H2.out]; rfl, by rw [NCf_below_set _ _ _ _ hlt (by rw [H1.out]; rfl)]⟩, by simp [intOf]; omega⟩
    · obtain rfl : k = 136 := by omega
      rw [NCf_below_all]
      go_wp2_with (first | ((with_reducible apply load83); rfl; rfl; rfl; (focus ((repeat' (first | (with_reducible assumption) | ((with_reducible refine heap_last ?_); (focus (first | (simp; done) | omega | (simp; omega)))) | ((with_reducible refine heap_prev ?_ ?_); (focus (first | (simp; done) | omega | (simp; omega)))) | (with_reducible apply sign_heap) | (with_reducible apply row_heap) | (with_reducible apply bit0_heap) | ((with_reducible refine sign_other ?_ ?_); (focus (first | (simp; done) | omega | (simp; omega)))) | ((with_reducible refine row_other ?_ ?_); (focus (first | (simp; done) | omega | (simp; omega)))) | (with_reducible refine drew_heap ?_))); done)); skip) | (first | ((with_reducible apply store83_0); rfl; rfl; rfl; rfl; (focus (simp; done)); skip) | ((with_reducible apply store83_1); rfl; rfl; rfl; rfl; (focus (simp; done)); skip) | ((with_reducible apply store83_2); rfl; rfl; rfl; rfl; (focus (simp; done)); skip) | ((with_reducible apply store83_3); rfl; rfl; rfl; rfl; (focus (simp; done)); skip) | ((with_reducible apply store83_4); rfl; rfl; rfl; rfl; (focus (simp; done)); skip)) | ((with_reducible apply bodyPost_ret); (apply ret83; rfl; rfl; (focus ((repeat' (first | (with_reducible assumption) | ((with_reducible refine heap_last ?_); (focus (first | (simp; done) | omega | (simp; omega)))) | ((with_reducible refine heap_prev ?_ ?_); (focus (first | (simp; done) | omega | (simp; omega)))) | (with_reducible apply sign_heap) | (with_reducible apply row_heap) | (with_reducible apply bit0_heap) | ((with_reducible refine sign_other ?_ ?_); (focus (first | (simp; done) | omega | (simp; omega)))) | ((with_reducible refine row_other ?_ ?_); (focus (first | (simp; done) | omega | (simp; omega)))) | (with_reducible refine drew_heap ?_))); done))); rfl; skip))
      go_grown
end Go.Proofs.Ytdjbnnjcifgnlaa

namespace Go.Proofs.Ytdjbnnjcifgnlaa
open Go.RowKit

set_option maxHeartbeats 4000000 in
set_option maxRecDepth 100000 in
theorem nought_c (m : Nat) (s : Bool) (b : Bool) (hm : m < 2 ^ 136) (hb : b = decide (m = 0)) (w : World) :
    Calls Try.prog 68 #[.agg (NC m s)] w fun e w' => e = .returned (.bool b) ∧ Below w.heap.size w w' := by
  have hz0 := zero_of_bits m hm
  have Hm := Lib.hid hm; clear hm
  have Hb := Lib.hid hb; clear hb
  have Hz := Lib.hid hz0; clear hz0
  go_enter Try.func68, Try.ntmps68
  go_wp2
  go_loop [3] (fun i => ∃ k : Nat, k ≤ 136 ∧ i = .int .i64 k ∧ (∀ j, j < k → m.testBit j = false)) (fun i => 136 - (intOf i).toNat)
  case atStart => exact ⟨0, by omega, rfl, by omega⟩
  case round =>
    obtain ⟨k, hk, rfl, hf⟩ := hrel
    have Hf := Lib.hid hf; clear hf
    by_cases hlt : k < 136
    · have g1 := NC_get m s k hlt
      obtain ⟨x, hx⟩ : ∃ x, x = m.testBit k := ⟨_, rfl⟩
      rw [← hx] at g1
      have Hx := Lib.hid hx; clear hx
      cases x
      · go_wp2
        refine ⟨⟨k + 1, by omega, by go_num, fun j hj => ?_⟩, by simp [intOf]; omega⟩
        by_cases e : j = k
        · subst e; exact Hx.out.symm
        · exact Hf.out j (by omega)
      · go_wp2
        go_ret
        refine ⟨ret_bool ?_, by go_grown⟩
        rw [Hb.out]
        refine (decide_eq_false ?_).symm
        intro h0
        have := (Hz.out.1 h0) k hlt
        rw [← Hx.out] at this
        cases this
    · obtain rfl : k = 136 := by omega
      go_wp2
      go_ret
      refine ⟨ret_bool ?_, by go_grown⟩
      rw [Hb.out]
      exact (decide_eq_true (Hz.out.2 Hf.out)).symm
end Go.Proofs.Ytdjbnnjcifgnlaa

namespace Go.Proofs.Ytdjbnnjcifgnlaa
open Go.RowKit

theorem abs_lt (x : Int) (h0 : -9223372036854775808 ≤ x) (h1 : x ≤ 9223372036854775807) : x.natAbs < 2 ^ 64 := by omega
set_option maxHeartbeats 4000000 in
set_option maxRecDepth 100000 in
theorem Of_c (x : Int) (h0 : -9223372036854775808 ≤ x) (h1 : x ≤ 9223372036854775807) (w : World) :
    Calls Try.prog 66 #[.int .i64 x] w fun e w' => e = .returned (.agg (NC x.natAbs (decide (x < 0)))) ∧ Below w.heap.size w w' := by
  have hz := zero83
  have ha := abs_lt x h0 h1
  have Ha := Lib.hid ha; clear ha
  have g1 := NC_sign 0 false
  have g2 := NC_setSign 0 false true
  have g3 := NC_setSign 0 false false
  obtain ⟨m, hm⟩ : ∃ m, m = x.natAbs := ⟨_, rfl⟩
  rw [← hm]
  by_cases hneg : x < 0
  · have hd : decide (x < 0) = true := decide_eq_true hneg
    have g4 := NC_sign 0 true
    rw [hd]
    have Hst : Hid (IntKind.u64.wrap (IntKind.u64.wrap (18446744073709551615 - IntKind.u64.wrap x) + 1) = ((m / 2 ^ 0 : Nat) : Int)) := by
      show _ = _
      simp only [IntKind.wrap_u64]; omega
    have Hm := Lib.hid hm; clear hm
    go_enter Try.func66, Try.ntmps66
    go_wp2
    go_loopw [4, 5] (fun u i wr => ∃ k : Nat, k ≤ 64 ∧ i = .int .i64 k ∧ u = .int .u64 ((m / 2 ^ k : Nat) : Int) ∧
      wr = (w.alloc (.cells (NC 0 false) 108)).alloc (.cells (NCf (below m.testBit k) true) 108)) (fun _ i _ => 64 - (intOf i).toNat)
    case atStart => exact ⟨0, by omega, rfl, by rw [Hst.out], by rw [NCf_below_zero]⟩
    case round => 
      obtain ⟨k, hk, rfl, rfl, rfl⟩ := hrel
      by_cases hlt : k < 64
      · have g5 := NCf_get (below m.testBit k) true k (by omega)
        have h1 := bit_eq m k
        have h2 := div_succ m k
        have hb : m / 2 ^ k ≤ 18446744073709551615 := Nat.le_trans (Nat.div_le_self _ _) (by have := Ha.out; have := Hm.out; omega)
        have H1 := Lib.hid h1; clear h1
        have H2 := Lib.hid h2; clear h2
        generalize m / 2 ^ k = q at *
        rcases Nat.mod_two_eq_zero_or_one q with e | e
        · have e1 : ((q : Int) % 2 == 1) = false := by simp; omega
          have E := Lib.hid e; clear e
          go_wp2
          exact ⟨⟨k + 1, by omega, by go_num, by rw [H2.out]; simp, by rw [NCf_below_set _ _ _ _ (by omega) (by rw [H1.out]; simp [E.out])]⟩, by simp [intOf]; omega⟩
        · have e1 : ((q : Int) % 2 == 1) = true := by simp; omega
          have E := Lib.hid e; clear e
          go_wp2
          exact ⟨⟨k + 1, by omega, by go_num, by rw [H2.out]; simp, by rw [NCf_below_set _ _ _ _ (by omega) (by rw [H1.out]; simp [E.out])]⟩, by simp [intOf]; omega⟩
      · obtain rfl : k = 64 := by omega
        rw [of_all _ _ (by have := Ha.out; have := Hm.out; omega)]
        go_wp2_with (first | ((with_reducible apply load83); rfl; rfl; rfl; (focus ((repeat' (first | (with_reducible assumption) | ((with_reducible refine heap_last ?_); (focus (first | (simp; done) | omega | (simp; omega)))) | ((with_reducible refine heap_prev ?_ ?_); (focus (first | (simp; done) | omega | (simp; omega)))) | (with_reducible apply sign_heap) | (with_reducible apply row_heap) | (with_reducible apply bit0_heap) | ((with_reducible refine sign_other ?_ ?_); (focus (first | (simp; done) | omega | (simp; omega)))) | ((with_reducible refine row_other ?_ ?_); (focus (first | (simp; done) | omega | (simp; omega)))) | (with_reducible refine drew_heap ?_))); done)); skip) | (first | ((with_reducible apply store83_0); rfl; rfl; rfl; rfl; (focus (simp; done)); skip) | ((with_reducible apply store83_1); rfl; rfl; rfl; rfl; (focus (simp; done)); skip) | ((with_reducible apply store83_2); rfl; rfl; rfl; rfl; (focus (simp; done)); skip) | ((with_reducible apply store83_3); rfl; rfl; rfl; rfl; (focus (simp; done)); skip) | ((with_reducible apply store83_4); rfl; rfl; rfl; rfl; (focus (simp; done)); skip)) | ((with_reducible apply bodyPost_ret); (apply ret83; rfl; rfl; (focus ((repeat' (first | (with_reducible assumption) | ((with_reducible refine heap_last ?_); (focus (first | (simp; done) | omega | (simp; omega)))) | ((with_reducible refine heap_prev ?_ ?_); (focus (first | (simp; done) | omega | (simp; omega)))) | (with_reducible apply sign_heap) | (with_reducible apply row_heap) | (with_reducible apply bit0_heap) | ((with_reducible refine sign_other ?_ ?_); (focus (first | (simp; done) | omega | (simp; omega)))) | ((with_reducible refine row_other ?_ ?_); (focus (first | (simp; done) | omega | (simp; omega)))) | (with_reducible refine drew_heap ?_))); done))); rfl; skip))
        go_grown
  · have hd : decide (x < 0) = false := decide_eq_false hneg
    rw [hd]
    have Hst : Hid (x = ((m / 2 ^ 0 : Nat) : Int)) := by
      show _ = _
      omega
    have Hm := Lib.hid hm; clear hm
    go_enter Try.func66, Try.ntmps66
    go_wp2
    go_loopw [4, 5] (fun u i wr => ∃ k : Nat, k ≤ 64 ∧ i = .int .i64 k ∧ u = .int .u64 ((m / 2 ^ k : Nat) : Int) ∧
      wr = (w.alloc (.cells (NC 0 false) 108)).alloc (.cells (NCf (below m.testBit k) false) 108)) (fun _ i _ => 64 - (intOf i).toNat)
    case atStart => exact ⟨0, by omega, rfl, by rw [← Hst.out], by rw [NCf_below_zero]⟩
    case round => 
      obtain ⟨k, hk, rfl, rfl, rfl⟩ := hrel
      by_cases hlt : k < 64
      · have g5 := NCf_get (below m.testBit k) false k (by omega)
        have h1 := bit_eq m k
        have h2 := div_succ m k
        have hb : m / 2 ^ k ≤ 18446744073709551615 := Nat.le_trans (Nat.div_le_self _ _) (by have := Ha.out; have := Hm.out; omega)
        have H1 := Lib.hid h1; clear h1
        have H2 := Lib.hid h2; clear h2
        generalize m / 2 ^ k = q at *
        rcases Nat.mod_two_eq_zero_or_one q with e | e
        · have e1 : ((q : Int) % 2 == 1) = false := by simp; omega
          have E := Lib.hid e; clear e
          go_wp2
          exact ⟨⟨k + 1, by omega, by go_num, by rw [H2.out]; simp, by rw [NCf_below_set _ _ _ _ (by omega) (by rw [H1.out]; simp [E.out])]⟩, by simp [intOf]; omega⟩
        · have e1 : ((q : Int) % 2 == 1) = true := by simp; omega
          have E := Lib.hid e; clear e
          go_wp2
          exact ⟨⟨k + 1, by omega, by go_num, by rw [H2.out]; simp, by rw [NCf_below_set _ _ _ _ (by omega) (by rw [H1.out]; simp [E.out])]⟩, by simp [intOf]; omega⟩
      · obtain rfl : k = 64 := by omega
        rw [of_all _ _ (by have := Ha.out; have := Hm.out; omega)]
        go_wp2_with (first | ((with_reducible apply load83); rfl; rfl; rfl; (focus ((repeat' (first | (with_reducible assumption) | ((with_reducible refine heap_last ?_); (focus (first | (simp; done) | omega | (simp; omega)))) | ((with_reducible refine heap_prev ?_ ?_); (focus (first | (simp; done) | omega | (simp; omega)))) | (with_reducible apply sign_heap) | (with_reducible apply row_heap) | (with_reducible apply bit0_heap) | ((with_reducible refine sign_other ?_ ?_); (focus (first | (simp; done) | omega | (simp; omega)))) | ((with_reducible refine row_other ?_ ?_); (focus (first | (simp; done) | omega | (simp; omega)))) | (with_reducible refine drew_heap ?_))); done)); skip) | (first | ((with_reducible apply store83_0); rfl; rfl; rfl; rfl; (focus (simp; done)); skip) | ((with_reducible apply store83_1); rfl; rfl; rfl; rfl; (focus (simp; done)); skip) | ((with_reducible apply store83_2); rfl; rfl; rfl; rfl; (focus (simp; done)); skip) | ((with_reducible apply store83_3); rfl; rfl; rfl; rfl; (focus (simp; done)); skip) | ((with_reducible apply store83_4); rfl; rfl; rfl; rfl; (focus (simp; done)); skip)) | ((with_reducible apply bodyPost_ret); (apply ret83; rfl; rfl; (focus ((repeat' (first | (with_reducible assumption) | ((with_reducible refine heap_last ?_); (focus (first | (simp; done) | omega | (simp; omega)))) | ((with_reducible refine heap_prev ?_ ?_); (focus (first | (simp; done) | omega | (simp; omega)))) | (with_reducible apply sign_heap) | (with_reducible apply row_heap) | (with_reducible apply bit0_heap) | ((with_reducible refine sign_other ?_ ?_); (focus (first | (simp; done) | omega | (simp; omega)))) | ((with_reducible refine row_other ?_ ?_); (focus (first | (simp; done) | omega | (simp; omega)))) | (with_reducible refine drew_heap ?_))); done))); rfl; skip))
        go_grown
end Go.Proofs.Ytdjbnnjcifgnlaa

namespace Go.Proofs.Ytdjbnnjcifgnlaa
open Go.RowKit

set_option maxHeartbeats 4000000 in
set_option maxRecDepth 100000 in
theorem below_c (a b : Nat) (s t : Bool) (r : Bool) (ha : a < 2 ^ 136) (hb : b < 2 ^ 136) (hr : r = decide (a < b)) (w : World) :
    Calls Try.prog 70 #[.agg (NC a s), .agg (NC b t)] w fun e w' => e = .returned (.bool r) ∧ Below w.heap.size w w' := by
  have ht := top_start a b ha hb
  have Ha := Lib.hid ha; clear ha
  have Hb := Lib.hid hb; clear hb
  have Hr := Lib.hid hr; clear hr
  have Ht := Lib.hid ht; clear ht
  go_enter Try.func70, Try.ntmps70
  go_wp2
  go_loopw [5] (fun i wr => ∃ k : Nat, k ≤ 136 ∧ i = .int .i64 ((k : Int) - 1) ∧ Hid (a / 2 ^ k = b / 2 ^ k) ∧ wr.heap[w.heap.size]? = some (.cells (NC a s) 108 (0, 0)) ∧ wr.heap[w.heap.size + 1]? = some (.cells (NC b t) 108 (0, 0)) ∧ Below w.heap.size w wr) (fun i _ => (intOf i + 1).toNat)
  case atStart => exact ⟨136, by omega, rfl, Ht, (by (focus ((repeat' (first | (with_reducible assumption) | ((with_reducible refine heap_last ?_); (focus (first | (simp; done) | omega | (simp; omega)))) | ((with_reducible refine heap_prev ?_ ?_); (focus (first | (simp; done) | omega | (simp; omega)))) | (with_reducible apply sign_heap) | (with_reducible apply row_heap) | (with_reducible apply bit0_heap) | ((with_reducible refine sign_other ?_ ?_); (focus (first | (simp; done) | omega | (simp; omega)))) | ((with_reducible refine row_other ?_ ?_); (focus (first | (simp; done) | omega | (simp; omega)))) | (with_reducible refine drew_heap ?_))); done))), (by (focus ((repeat' (first | (with_reducible assumption) | ((with_reducible refine heap_last ?_); (focus (first | (simp; done) | omega | (simp; omega)))) | ((with_reducible refine heap_prev ?_ ?_); (focus (first | (simp; done) | omega | (simp; omega)))) | (with_reducible apply sign_heap) | (with_reducible apply row_heap) | (with_reducible apply bit0_heap) | ((with_reducible refine sign_other ?_ ?_); (focus (first | (simp; done) | omega | (simp; omega)))) | ((with_reducible refine row_other ?_ ?_); (focus (first | (simp; done) | omega | (simp; omega)))) | (with_reducible refine drew_heap ?_))); done))), by go_grown⟩
  case round =>
    obtain ⟨k, hk, rfl, hf, h0, h1, hbw⟩ := hrel
    by_cases hlt : 0 < k
    · obtain ⟨j, rfl⟩ : ∃ j, k = j + 1 := ⟨k - 1, by omega⟩
      rw [show (((j + 1 : Nat) : Int) - 1) = (j : Int) by omega]
      have hj : j < 136 := by omega
      have ⟨s1, s2⟩ := top_step a b j hf.out
      have c1 : wr.cell? ⟨w.heap.size, j, none⟩ = some (.bool (a.testBit j)) := by rw [cell_of_row wr _ j _ _ _ h0, NC_get a s j hj]
      have c2 : wr.cell? ⟨w.heap.size + 1, j, none⟩ = some (.bool (b.testBit j)) := by rw [cell_of_row wr _ j _ _ _ h1, NC_get b t j hj]
      have H0 := Lib.hid h0; clear h0
      have H1 := Lib.hid h1; clear h1
      generalize a.testBit j = x at *
      generalize b.testBit j = y at *
      have q0 : (0 : Int) ≤ (j : Int) := by omega
      have q1 : (j : Int) < 136 := by omega
      cases x <;> cases y
      · have S1 := Lib.hid (s1 rfl)
        clear s1 s2
        go_wp2
        go_quiet (fail)
        go_wp2
        exact ⟨⟨j, by omega, rfl, S1.out, H0.out, H1.out, below_drewN hbw _⟩, by simp [intOf]⟩
      · have S1 := Lib.hid (decide_eq_true ((s2 (by simp)).2 rfl))
        clear s1 s2
        go_wp2
        go_quiet (fail)
        go_wp2
        go_ret
        exact ⟨ret_bool (by rw [Hr.out]; exact S1.out.symm), below_drewN hbw _⟩
      · have S1 := Lib.hid (decide_eq_false (fun h => Bool.false_ne_true ((s2 (by simp)).1 h)))
        clear s1 s2
        go_wp2
        go_quiet (fail)
        go_wp2
        go_ret
        exact ⟨ret_bool (by rw [Hr.out]; exact S1.out.symm), below_drewN hbw _⟩
      · have S1 := Lib.hid (s1 rfl)
        clear s1 s2
        go_wp2
        go_quiet (fail)
        go_wp2
        exact ⟨⟨j, by omega, rfl, S1.out, H0.out, H1.out, below_drewN hbw _⟩, by simp [intOf]⟩
    · obtain rfl : k = 0 := by omega
      go_wp2
      go_ret
      refine ⟨ret_bool ?_, hbw⟩
      rw [Hr.out]
      refine (decide_eq_false ?_).symm
      have := hf.out
      simp at this
      omega
end Go.Proofs.Ytdjbnnjcifgnlaa

namespace Go.Proofs.Ytdjbnnjcifgnlaa
open Go.RowKit

set_option maxHeartbeats 4000000 in
set_option maxRecDepth 100000 in
theorem twice_c (m : Nat) (s : Bool) (w : World) :
    Calls Try.prog 69 #[.agg (NC m s)] w fun e w' => e = .returned (.agg (NC (2 * m) s)) ∧ Below w.heap.size w w' := by
  have hz := zero83
  go_enter Try.func69, Try.ntmps69
  go_wp2_with (first | ((with_reducible apply load83); rfl; rfl; rfl; (focus ((repeat' (first | (with_reducible assumption) | ((with_reducible refine heap_last ?_); (focus (first | (simp; done) | omega | (simp; omega)))) | ((with_reducible refine heap_prev ?_ ?_); (focus (first | (simp; done) | omega | (simp; omega)))) | (with_reducible apply sign_heap) | (with_reducible apply row_heap) | (with_reducible apply bit0_heap) | ((with_reducible refine sign_other ?_ ?_); (focus (first | (simp; done) | omega | (simp; omega)))) | ((with_reducible refine row_other ?_ ?_); (focus (first | (simp; done) | omega | (simp; omega)))) | (with_reducible refine drew_heap ?_))); done)); skip) | (first | ((with_reducible apply store83_0); rfl; rfl; rfl; rfl; (focus (simp; done)); skip) | ((with_reducible apply store83_1); rfl; rfl; rfl; rfl; (focus (simp; done)); skip) | ((with_reducible apply store83_2); rfl; rfl; rfl; rfl; (focus (simp; done)); skip) | ((with_reducible apply store83_3); rfl; rfl; rfl; rfl; (focus (simp; done)); skip) | ((with_reducible apply store83_4); rfl; rfl; rfl; rfl; (focus (simp; done)); skip)) | ((with_reducible apply bodyPost_ret); (apply ret83; rfl; rfl; (focus ((repeat' (first | (with_reducible assumption) | ((with_reducible refine heap_last ?_); (focus (first | (simp; done) | omega | (simp; omega)))) | ((with_reducible refine heap_prev ?_ ?_); (focus (first | (simp; done) | omega | (simp; omega)))) | (with_reducible apply sign_heap) | (with_reducible apply row_heap) | (with_reducible apply bit0_heap) | ((with_reducible refine sign_other ?_ ?_); (focus (first | (simp; done) | omega | (simp; omega)))) | ((with_reducible refine row_other ?_ ?_); (focus (first | (simp; done) | omega | (simp; omega)))) | (with_reducible refine drew_heap ?_))); done))); rfl; skip))
  go_loopw [4] (fun i wr => ∃ k : Nat, k ≤ 135 ∧ i = .int .i64 k ∧
      wr = ((w.alloc (.cells (NC m s) 108)).alloc (.cells (NC 0 false) 108)).alloc (.cells (NCf (up m.testBit k) s) 108)) (fun i _ => (intOf i).toNat)
  case atStart => exact ⟨135, by omega, rfl, by rw [up_start]⟩
  case round =>
    obtain ⟨k, hk, rfl, rfl⟩ := hrel
    by_cases hlt : 0 < k
    · obtain ⟨j, rfl⟩ : ∃ j, k = j + 1 := ⟨k - 1, by omega⟩
      have g1 := NC_get m s j (by omega)
      have g3 := NCf_get (up m.testBit (j + 1)) s (j + 1) (by omega)
      have q0 : (0 : Int) ≤ (j : Int) := by omega
      have q1 : (j : Int) < 135 := by omega
      go_wp2
      exact ⟨⟨j, by omega, rfl, by rw [up_set _ _ _ (by omega) _ rfl]⟩, by simp [intOf]⟩
    · obtain rfl : k = 0 := by omega
      have g3 := NCf_get (up m.testBit 0) s 0 (by omega)
      have he := up_end m s
      go_wp2_with (first | ((with_reducible apply load83); rfl; rfl; rfl; (focus ((repeat' (first | (with_reducible assumption) | ((with_reducible refine heap_last ?_); (focus (first | (simp; done) | omega | (simp; omega)))) | ((with_reducible refine heap_prev ?_ ?_); (focus (first | (simp; done) | omega | (simp; omega)))) | (with_reducible apply sign_heap) | (with_reducible apply row_heap) | (with_reducible apply bit0_heap) | ((with_reducible refine sign_other ?_ ?_); (focus (first | (simp; done) | omega | (simp; omega)))) | ((with_reducible refine row_other ?_ ?_); (focus (first | (simp; done) | omega | (simp; omega)))) | (with_reducible refine drew_heap ?_))); done)); skip) | (first | ((with_reducible apply store83_0); rfl; rfl; rfl; rfl; (focus (simp; done)); skip) | ((with_reducible apply store83_1); rfl; rfl; rfl; rfl; (focus (simp; done)); skip) | ((with_reducible apply store83_2); rfl; rfl; rfl; rfl; (focus (simp; done)); skip) | ((with_reducible apply store83_3); rfl; rfl; rfl; rfl; (focus (simp; done)); skip) | ((with_reducible apply store83_4); rfl; rfl; rfl; rfl; (focus (simp; done)); skip)) | ((with_reducible apply bodyPost_ret); (apply ret83; rfl; rfl; (focus ((repeat' (first | (with_reducible assumption) | ((with_reducible refine heap_last ?_); (focus (first | (simp; done) | omega | (simp; omega)))) | ((with_reducible refine heap_prev ?_ ?_); (focus (first | (simp; done) | omega | (simp; omega)))) | (with_reducible apply sign_heap) | (with_reducible apply row_heap) | (with_reducible apply bit0_heap) | ((with_reducible refine sign_other ?_ ?_); (focus (first | (simp; done) | omega | (simp; omega)))) | ((with_reducible refine row_other ?_ ?_); (focus (first | (simp; done) | omega | (simp; omega)))) | (with_reducible refine drew_heap ?_))); done))); rfl; skip))
      go_grown
end Go.Proofs.Ytdjbnnjcifgnlaa

namespace Go.Proofs.Ytdjbnnjcifgnlaa
open Go.RowKit

/-- A whole number as a row of bits and a sign. -/
def NZ (x : Int) : Array Value := NC x.natAbs (decide (x < 0))
end Go.Proofs.Ytdjbnnjcifgnlaa

namespace Go.Proofs.Ytdjbnnjcifgnlaa
open Go.RowKit

theorem mod_low (a b k : Nat) : a * (b % 2 ^ (k + 1)) = a * (b % 2 ^ k) + (if b.testBit k then a * 2 ^ k else 0) := by
  rw [low_succ, Nat.mul_add]
  cases b.testBit k <;> simp

set_option maxHeartbeats 4000000 in
set_option maxRecDepth 100000 in
theorem Times_n (a b : Nat) (s t : Bool) (m : Nat) (r : Bool) (ha : a < 2 ^ 64) (hb : b < 2 ^ 64)
    (hm : m = a * b) (hr : r = ((s != t) && !decide (m = 0))) (w : World) :
    Calls Try.prog 65 #[.agg (NC a s), .agg (NC b t)] w fun e w' => e = .returned (.agg (NC m r)) ∧ Below w.heap.size w w' := by
  have hz := zero83
  have g1 := NC_sign a s
  have g2 := NC_sign b t
  have Hm : Hid (m < 2 ^ 136) := by
    show _ < _
    rw [hm]
    exact Nat.lt_of_lt_of_le (Nat.mul_lt_mul'' ha hb) (by rw [← Nat.pow_add]; exact Nat.pow_le_pow_right (by omega) (by omega))
  have Ha := Lib.hid ha; clear ha
  have Hb := Lib.hid hb; clear hb
  have Hmm := Lib.hid hm; clear hm
  have Hr := Lib.hid hr; clear hr
  go_enter Try.func65, Try.ntmps65
  go_wp2_with (first | ((with_reducible apply load83); rfl; rfl; rfl; (focus ((repeat' (first | (with_reducible assumption) | ((with_reducible refine heap_last ?_); (focus (first | (simp; done) | omega | (simp; omega)))) | ((with_reducible refine heap_prev ?_ ?_); (focus (first | (simp; done) | omega | (simp; omega)))) | (with_reducible apply sign_heap) | (with_reducible apply row_heap) | (with_reducible apply bit0_heap) | ((with_reducible refine sign_other ?_ ?_); (focus (first | (simp; done) | omega | (simp; omega)))) | ((with_reducible refine row_other ?_ ?_); (focus (first | (simp; done) | omega | (simp; omega)))) | (with_reducible refine drew_heap ?_))); done)); skip) | (first | ((with_reducible apply store83_0); rfl; rfl; rfl; rfl; (focus (simp; done)); skip) | ((with_reducible apply store83_1); rfl; rfl; rfl; rfl; (focus (simp; done)); skip) | ((with_reducible apply store83_2); rfl; rfl; rfl; rfl; (focus (simp; done)); skip) | ((with_reducible apply store83_3); rfl; rfl; rfl; rfl; (focus (simp; done)); skip) | ((with_reducible apply store83_4); rfl; rfl; rfl; rfl; (focus (simp; done)); skip)))
  go_loopw [7] (fun i wr => ∃ k : Nat, k ≤ 64 ∧ i = .int .i64 k ∧ Hid (wr.heap[w.heap.size]? = some (.cells (NC a s) 108 (0, 0))) ∧ Hid (wr.heap[w.heap.size + 1]? = some (.cells (NC b t) 108 (0, 0))) ∧
      Hid (wr.heap[w.heap.size + 1 + 1]? = some (.cells (NC 0 false) 108 (0, 0))) ∧ Hid (wr.heap[w.heap.size + 1 + 1 + 1]? = some (.cells (NC (a * (b % 2 ^ k)) false) 108 (0, 0))) ∧
      Hid (wr.heap[w.heap.size + 1 + 1 + 1 + 1]? = some (.cells (NC (a * 2 ^ k) s) 108 (0, 0))) ∧ w.heap.size + 5 ≤ wr.heap.size ∧ Below w.heap.size w wr) (fun i _ => 64 - (intOf i).toNat)
  case atStart =>
    refine ⟨0, by omega, rfl, by show _ = _; (focus ((repeat' (first | (with_reducible assumption) | ((with_reducible refine heap_last ?_); (focus (first | (simp; done) | omega | (simp; omega)))) | ((with_reducible refine heap_prev ?_ ?_); (focus (first | (simp; done) | omega | (simp; omega)))) | (with_reducible apply sign_heap) | (with_reducible apply row_heap) | (with_reducible apply bit0_heap) | ((with_reducible refine sign_other ?_ ?_); (focus (first | (simp; done) | omega | (simp; omega)))) | ((with_reducible refine row_other ?_ ?_); (focus (first | (simp; done) | omega | (simp; omega)))) | (with_reducible refine drew_heap ?_))); done)), by show _ = _; (focus ((repeat' (first | (with_reducible assumption) | ((with_reducible refine heap_last ?_); (focus (first | (simp; done) | omega | (simp; omega)))) | ((with_reducible refine heap_prev ?_ ?_); (focus (first | (simp; done) | omega | (simp; omega)))) | (with_reducible apply sign_heap) | (with_reducible apply row_heap) | (with_reducible apply bit0_heap) | ((with_reducible refine sign_other ?_ ?_); (focus (first | (simp; done) | omega | (simp; omega)))) | ((with_reducible refine row_other ?_ ?_); (focus (first | (simp; done) | omega | (simp; omega)))) | (with_reducible refine drew_heap ?_))); done)), by show _ = _; (focus ((repeat' (first | (with_reducible assumption) | ((with_reducible refine heap_last ?_); (focus (first | (simp; done) | omega | (simp; omega)))) | ((with_reducible refine heap_prev ?_ ?_); (focus (first | (simp; done) | omega | (simp; omega)))) | (with_reducible apply sign_heap) | (with_reducible apply row_heap) | (with_reducible apply bit0_heap) | ((with_reducible refine sign_other ?_ ?_); (focus (first | (simp; done) | omega | (simp; omega)))) | ((with_reducible refine row_other ?_ ?_); (focus (first | (simp; done) | omega | (simp; omega)))) | (with_reducible refine drew_heap ?_))); done)), ?_, ?_, by simp, by (focus ((repeat' (first | (with_reducible exact Below.refl _ _) | (with_reducible assumption) | (with_reducible refine Below.alloc ?_ ?_ _) | (with_reducible refine Below.setCell ?_ ?_ _) | (with_reducible refine Below.row ?_ ?_ _) | (with_reducible refine Below.drew ?_) | (with_reducible refine below_drewN ?_ _) | (focus (first | (simp; done) | omega | (simp; omega))))); done))⟩
    · show _ = _
      rw [show a * (b % 2 ^ 0) = 0 by simp [Nat.mod_one]]; (focus ((repeat' (first | (with_reducible assumption) | ((with_reducible refine heap_last ?_); (focus (first | (simp; done) | omega | (simp; omega)))) | ((with_reducible refine heap_prev ?_ ?_); (focus (first | (simp; done) | omega | (simp; omega)))) | (with_reducible apply sign_heap) | (with_reducible apply row_heap) | (with_reducible apply bit0_heap) | ((with_reducible refine sign_other ?_ ?_); (focus (first | (simp; done) | omega | (simp; omega)))) | ((with_reducible refine row_other ?_ ?_); (focus (first | (simp; done) | omega | (simp; omega)))) | (with_reducible refine drew_heap ?_))); done))
    · show _ = _
      rw [show a * 2 ^ 0 = a by simp]; (focus ((repeat' (first | (with_reducible assumption) | ((with_reducible refine heap_last ?_); (focus (first | (simp; done) | omega | (simp; omega)))) | ((with_reducible refine heap_prev ?_ ?_); (focus (first | (simp; done) | omega | (simp; omega)))) | (with_reducible apply sign_heap) | (with_reducible apply row_heap) | (with_reducible apply bit0_heap) | ((with_reducible refine sign_other ?_ ?_); (focus (first | (simp; done) | omega | (simp; omega)))) | ((with_reducible refine row_other ?_ ?_); (focus (first | (simp; done) | omega | (simp; omega)))) | (with_reducible refine drew_heap ?_))); done))
  case round =>
    obtain ⟨k, hk, rfl, h0, h1, h2, h3, h4, z1, hB⟩ := hrel
    by_cases hlt : k < 64
    · have c1 : wr.cell? ⟨w.heap.size + 1, k, none⟩ = some (.bool (b.testBit k)) := by rw [cell_of_row wr _ _ _ _ _ h1.out, NC_get b t k (by omega)]
      have hml := mod_low a b k
      generalize b.testBit k = y at *
      have H5 : Hid (2 * (a * 2 ^ k) = a * 2 ^ (k + 1)) := by show _ = _; rw [Nat.pow_succ]; grind
      cases y
      · have hml' : a * (b % 2 ^ k) = a * (b % 2 ^ (k + 1)) := by rw [hml]; simp
        have H6 := Lib.hid hml'; clear hml hml'
        have q4 := h4.out
        go_wp2_with (first | ((with_reducible apply load83); rfl; rfl; rfl; (focus ((repeat' (first | (with_reducible assumption) | ((with_reducible refine heap_last ?_); (focus (first | (simp; done) | omega | (simp; omega)))) | ((with_reducible refine heap_prev ?_ ?_); (focus (first | (simp; done) | omega | (simp; omega)))) | (with_reducible apply sign_heap) | (with_reducible apply row_heap) | (with_reducible apply bit0_heap) | ((with_reducible refine sign_other ?_ ?_); (focus (first | (simp; done) | omega | (simp; omega)))) | ((with_reducible refine row_other ?_ ?_); (focus (first | (simp; done) | omega | (simp; omega)))) | (with_reducible refine drew_heap ?_))); done)); skip))
        clear q4
        ((with_reducible refine (twice_c _ _ _).mono ?_); rintro e w1 ⟨rfl, hb1⟩)
        rw [H5.out]
        have y0 : Hid (w1.heap[w.heap.size]? = some (.cells (NC a s) 108 (0, 0))) := (hb1.block _ (by omega)).trans h0
        have y1 : Hid (w1.heap[w.heap.size + 1]? = some (.cells (NC b t) 108 (0, 0))) := (hb1.block _ (by omega)).trans h1
        have y2 : Hid (w1.heap[w.heap.size + 1 + 1]? = some (.cells (NC 0 false) 108 (0, 0))) := (hb1.block _ (by omega)).trans h2
        have y3 : Hid (w1.heap[w.heap.size + 1 + 1 + 1]? = some (.cells (NC (a * (b % 2 ^ k)) false) 108 (0, 0))) := (hb1.block _ (by omega)).trans h3
        have y4 : w1.heap[w.heap.size + 1 + 1 + 1 + 1]? = some (.cells (NC (a * 2 ^ k) s) 108 (0, 0)) := (hb1.block _ (by omega)).trans h4
        have yz : w.heap.size + 5 ≤ w1.heap.size := by have := hb1.size; omega
        have yB : Below w.heap.size w w1 := hB.trans (hb1.mono (by omega))
        clear hb1 h0 h1 h2 h3 h4 z1 hB c1
        go_wp2_with (first | ((with_reducible apply store83); rfl; rfl; rfl; rfl; (focus ((repeat' (first | (with_reducible assumption) | ((with_reducible refine heap_last ?_); (focus (first | (simp; done) | omega | (simp; omega)))) | ((with_reducible refine heap_prev ?_ ?_); (focus (first | (simp; done) | omega | (simp; omega)))) | (with_reducible apply sign_heap) | (with_reducible apply row_heap) | (with_reducible apply bit0_heap) | ((with_reducible refine sign_other ?_ ?_); (focus (first | (simp; done) | omega | (simp; omega)))) | ((with_reducible refine row_other ?_ ?_); (focus (first | (simp; done) | omega | (simp; omega)))) | (with_reducible refine drew_heap ?_))); done)); skip))
        refine ⟨⟨k + 1, by omega, by go_num, row_other (by omega) y0.out, row_other (by omega) y1.out, row_other (by omega) y2.out, ?_, row_heap y4, by simp; omega, by (focus ((repeat' (first | (with_reducible exact Below.refl _ _) | (with_reducible assumption) | (with_reducible refine Below.alloc ?_ ?_ _) | (with_reducible refine Below.setCell ?_ ?_ _) | (with_reducible refine Below.row ?_ ?_ _) | (with_reducible refine Below.drew ?_) | (with_reducible refine below_drewN ?_ _) | (focus (first | (simp; done) | omega | (simp; omega))))); done))⟩, by simp [intOf]; omega⟩
        show _ = _
        rw [← H6.out]
        exact row_other (by omega) y3.out
      · have hml' : a * (b % 2 ^ k) + a * 2 ^ k = a * (b % 2 ^ (k + 1)) := by rw [hml]; simp
        have H6 := Lib.hid hml'; clear hml hml'
        have q4 := h4.out
        have q3 := h3.out
        go_wp2_with (first | ((with_reducible apply load83); rfl; rfl; rfl; (focus ((repeat' (first | (with_reducible assumption) | ((with_reducible refine heap_last ?_); (focus (first | (simp; done) | omega | (simp; omega)))) | ((with_reducible refine heap_prev ?_ ?_); (focus (first | (simp; done) | omega | (simp; omega)))) | (with_reducible apply sign_heap) | (with_reducible apply row_heap) | (with_reducible apply bit0_heap) | ((with_reducible refine sign_other ?_ ?_); (focus (first | (simp; done) | omega | (simp; omega)))) | ((with_reducible refine row_other ?_ ?_); (focus (first | (simp; done) | omega | (simp; omega)))) | (with_reducible refine drew_heap ?_))); done)); skip))
        clear q4 q3
        ((with_reducible refine (more_c _ _ _ _ _).mono ?_); rintro e w1 ⟨rfl, hb1⟩)
        rw [H6.out]
        have y0 : Hid (w1.heap[w.heap.size]? = some (.cells (NC a s) 108 (0, 0))) := (hb1.block _ (by omega)).trans h0
        have y1 : Hid (w1.heap[w.heap.size + 1]? = some (.cells (NC b t) 108 (0, 0))) := (hb1.block _ (by omega)).trans h1
        have y2 : Hid (w1.heap[w.heap.size + 1 + 1]? = some (.cells (NC 0 false) 108 (0, 0))) := (hb1.block _ (by omega)).trans h2
        have y3 : w1.heap[w.heap.size + 1 + 1 + 1]? = some (.cells (NC (a * (b % 2 ^ k)) false) 108 (0, 0)) := (hb1.block _ (by omega)).trans h3
        have y4 : w1.heap[w.heap.size + 1 + 1 + 1 + 1]? = some (.cells (NC (a * 2 ^ k) s) 108 (0, 0)) := (hb1.block _ (by omega)).trans h4
        have yz : w.heap.size + 5 ≤ w1.heap.size := by have := hb1.size; omega
        have yB : Below w.heap.size w w1 := hB.trans (hb1.mono (by omega))
        clear hb1 h0 h1 h2 h3 h4 z1 hB c1
        go_wp2_with (first | ((with_reducible apply store83); rfl; rfl; rfl; rfl; (focus ((repeat' (first | (with_reducible assumption) | ((with_reducible refine heap_last ?_); (focus (first | (simp; done) | omega | (simp; omega)))) | ((with_reducible refine heap_prev ?_ ?_); (focus (first | (simp; done) | omega | (simp; omega)))) | (with_reducible apply sign_heap) | (with_reducible apply row_heap) | (with_reducible apply bit0_heap) | ((with_reducible refine sign_other ?_ ?_); (focus (first | (simp; done) | omega | (simp; omega)))) | ((with_reducible refine row_other ?_ ?_); (focus (first | (simp; done) | omega | (simp; omega)))) | (with_reducible refine drew_heap ?_))); done)); skip) | ((with_reducible apply load83); rfl; rfl; rfl; (focus ((repeat' (first | (with_reducible assumption) | ((with_reducible refine heap_last ?_); (focus (first | (simp; done) | omega | (simp; omega)))) | ((with_reducible refine heap_prev ?_ ?_); (focus (first | (simp; done) | omega | (simp; omega)))) | (with_reducible apply sign_heap) | (with_reducible apply row_heap) | (with_reducible apply bit0_heap) | ((with_reducible refine sign_other ?_ ?_); (focus (first | (simp; done) | omega | (simp; omega)))) | ((with_reducible refine row_other ?_ ?_); (focus (first | (simp; done) | omega | (simp; omega)))) | (with_reducible refine drew_heap ?_))); done)); skip))
        ((with_reducible refine (twice_c _ _ _).mono ?_); rintro e w2 ⟨rfl, hb2⟩)
        rw [H5.out]
        have x0 : Hid (w2.heap[w.heap.size]? = some (.cells (NC a s) 108 (0, 0))) := (hb2.block _ (by (focus (first | (simp; done) | omega | (simp; omega))))).trans (row_other (by omega) y0.out)
        have x1 : Hid (w2.heap[w.heap.size + 1]? = some (.cells (NC b t) 108 (0, 0))) := (hb2.block _ (by (focus (first | (simp; done) | omega | (simp; omega))))).trans (row_other (by omega) y1.out)
        have x2 : Hid (w2.heap[w.heap.size + 1 + 1]? = some (.cells (NC 0 false) 108 (0, 0))) := (hb2.block _ (by (focus (first | (simp; done) | omega | (simp; omega))))).trans (row_other (by omega) y2.out)
        have x3 : Hid (w2.heap[w.heap.size + 1 + 1 + 1]? = some (.cells (NC (a * (b % 2 ^ (k + 1))) false) 108 (0, 0))) := (hb2.block _ (by (focus (first | (simp; done) | omega | (simp; omega))))).trans (row_heap y3)
        have x4 : w2.heap[w.heap.size + 1 + 1 + 1 + 1]? = some (.cells (NC (a * 2 ^ k) s) 108 (0, 0)) := (hb2.block _ (by (focus (first | (simp; done) | omega | (simp; omega))))).trans (row_other (by omega) y4)
        have xz : w.heap.size + 5 ≤ w2.heap.size := by have := hb2.size; simp at this; omega
        have xB : Below w.heap.size w w2 := Below.trans (by (focus ((repeat' (first | (with_reducible exact Below.refl _ _) | (with_reducible assumption) | (with_reducible refine Below.alloc ?_ ?_ _) | (with_reducible refine Below.setCell ?_ ?_ _) | (with_reducible refine Below.row ?_ ?_ _) | (with_reducible refine Below.drew ?_) | (with_reducible refine below_drewN ?_ _) | (focus (first | (simp; done) | omega | (simp; omega))))); done))) (hb2.mono (by simp; omega))
        clear hb2 y0 y1 y2 y3 y4 yz yB
        go_wp2_with (first | ((with_reducible apply store83); rfl; rfl; rfl; rfl; (focus ((repeat' (first | (with_reducible assumption) | ((with_reducible refine heap_last ?_); (focus (first | (simp; done) | omega | (simp; omega)))) | ((with_reducible refine heap_prev ?_ ?_); (focus (first | (simp; done) | omega | (simp; omega)))) | (with_reducible apply sign_heap) | (with_reducible apply row_heap) | (with_reducible apply bit0_heap) | ((with_reducible refine sign_other ?_ ?_); (focus (first | (simp; done) | omega | (simp; omega)))) | ((with_reducible refine row_other ?_ ?_); (focus (first | (simp; done) | omega | (simp; omega)))) | (with_reducible refine drew_heap ?_))); done)); skip))
        exact ⟨⟨k + 1, by omega, by go_num, row_other (by omega) x0.out, row_other (by omega) x1.out, row_other (by omega) x2.out, row_other (by omega) x3.out, row_heap x4, by simp; omega, by (focus ((repeat' (first | (with_reducible exact Below.refl _ _) | (with_reducible assumption) | (with_reducible refine Below.alloc ?_ ?_ _) | (with_reducible refine Below.setCell ?_ ?_ _) | (with_reducible refine Below.row ?_ ?_ _) | (with_reducible refine Below.drew ?_) | (with_reducible refine below_drewN ?_ _) | (focus (first | (simp; done) | omega | (simp; omega))))); done))⟩, by simp [intOf]; omega⟩
    · obtain rfl : k = 64 := by omega
      have hm3 : a * (b % 2 ^ 64) = m := by rw [Nat.mod_eq_of_lt Hb.out]; exact Hmm.out.symm
      rw [hm3] at h3
      clear hm3
      have c0 : wr.cell? ⟨w.heap.size, 136, none⟩ = some (.bool s) := by rw [cell_of_row wr _ _ _ _ _ h0.out, NC_sign]
      have c1 : wr.cell? ⟨w.heap.size + 1, 136, none⟩ = some (.bool t) := by rw [cell_of_row wr _ _ _ _ _ h1.out, NC_sign]
      have c3 : wr.cell? ⟨w.heap.size + 1 + 1 + 1, 136, none⟩ = some (.bool false) := by rw [cell_of_row wr _ _ _ _ _ h3.out, NC_sign]
      have f3 : wr.frozen? ⟨w.heap.size + 1 + 1 + 1, 136, none⟩ = false := frozen_of_row wr _ _ _ _ h3.out
      have hr := Hr.out
      by_cases hst : s = t
      · obtain rfl : r = false := by rw [hr, hst]; simp
        have e1 : (s != t) = false := by simp [hst]
        have e2 : (s == t) = true := by simp [hst]
        clear hr
        have Hst := Lib.hid hst; clear hst
        have q3 := h3.out
        have q2 := h2.out
        go_wp2_with (first | ((with_reducible apply load83); rfl; rfl; rfl; (focus ((repeat' (first | (with_reducible assumption) | ((with_reducible refine heap_last ?_); (focus (first | (simp; done) | omega | (simp; omega)))) | ((with_reducible refine heap_prev ?_ ?_); (focus (first | (simp; done) | omega | (simp; omega)))) | (with_reducible apply sign_heap) | (with_reducible apply row_heap) | (with_reducible apply bit0_heap) | ((with_reducible refine sign_other ?_ ?_); (focus (first | (simp; done) | omega | (simp; omega)))) | ((with_reducible refine row_other ?_ ?_); (focus (first | (simp; done) | omega | (simp; omega)))) | (with_reducible refine drew_heap ?_))); done)); skip) | (first | ((with_reducible apply store83_0); rfl; rfl; rfl; rfl; (focus (simp; done)); skip) | ((with_reducible apply store83_1); rfl; rfl; rfl; rfl; (focus (simp; done)); skip) | ((with_reducible apply store83_2); rfl; rfl; rfl; rfl; (focus (simp; done)); skip) | ((with_reducible apply store83_3); rfl; rfl; rfl; rfl; (focus (simp; done)); skip) | ((with_reducible apply store83_4); rfl; rfl; rfl; rfl; (focus (simp; done)); skip)) | ((with_reducible apply store83); rfl; rfl; rfl; rfl; (focus ((repeat' (first | (with_reducible assumption) | ((with_reducible refine heap_last ?_); (focus (first | (simp; done) | omega | (simp; omega)))) | ((with_reducible refine heap_prev ?_ ?_); (focus (first | (simp; done) | omega | (simp; omega)))) | (with_reducible apply sign_heap) | (with_reducible apply row_heap) | (with_reducible apply bit0_heap) | ((with_reducible refine sign_other ?_ ?_); (focus (first | (simp; done) | omega | (simp; omega)))) | ((with_reducible refine row_other ?_ ?_); (focus (first | (simp; done) | omega | (simp; omega)))) | (with_reducible refine drew_heap ?_))); done)); skip) | ((with_reducible apply bodyPost_ret); (apply ret83; rfl; rfl; (focus ((repeat' (first | (with_reducible assumption) | ((with_reducible refine heap_last ?_); (focus (first | (simp; done) | omega | (simp; omega)))) | ((with_reducible refine heap_prev ?_ ?_); (focus (first | (simp; done) | omega | (simp; omega)))) | (with_reducible apply sign_heap) | (with_reducible apply row_heap) | (with_reducible apply bit0_heap) | ((with_reducible refine sign_other ?_ ?_); (focus (first | (simp; done) | omega | (simp; omega)))) | ((with_reducible refine row_other ?_ ?_); (focus (first | (simp; done) | omega | (simp; omega)))) | (with_reducible refine drew_heap ?_))); done))); rfl; skip))
        first | exact ⟨rfl, by (focus ((repeat' (first | (with_reducible exact Below.refl _ _) | (with_reducible assumption) | (with_reducible refine Below.alloc ?_ ?_ _) | (with_reducible refine Below.setCell ?_ ?_ _) | (with_reducible refine Below.row ?_ ?_ _) | (with_reducible refine Below.drew ?_) | (with_reducible refine below_drewN ?_ _) | (focus (first | (simp; done) | omega | (simp; omega))))); done))⟩ | (focus ((repeat' (first | (with_reducible exact Below.refl _ _) | (with_reducible assumption) | (with_reducible refine Below.alloc ?_ ?_ _) | (with_reducible refine Below.setCell ?_ ?_ _) | (with_reducible refine Below.row ?_ ?_ _) | (with_reducible refine Below.drew ?_) | (with_reducible refine below_drewN ?_ _) | (focus (first | (simp; done) | omega | (simp; omega))))); done))
      · have e1 : (s != t) = true := by simp [hst]
        have e2 : (s == t) = false := by simp [hst]
        obtain ⟨bz, hbz⟩ : ∃ bz, bz = decide (m = 0) := ⟨_, rfl⟩
        have Hbz := Lib.hid hbz
        obtain rfl : r = !bz := by rw [hr, e1, ← hbz]; rfl
        clear hr hbz
        have Hst := Lib.hid hst; clear hst
        have q3 := h3.out
        go_wp2_with (first | ((with_reducible apply load83); rfl; rfl; rfl; (focus ((repeat' (first | (with_reducible assumption) | ((with_reducible refine heap_last ?_); (focus (first | (simp; done) | omega | (simp; omega)))) | ((with_reducible refine heap_prev ?_ ?_); (focus (first | (simp; done) | omega | (simp; omega)))) | (with_reducible apply sign_heap) | (with_reducible apply row_heap) | (with_reducible apply bit0_heap) | ((with_reducible refine sign_other ?_ ?_); (focus (first | (simp; done) | omega | (simp; omega)))) | ((with_reducible refine row_other ?_ ?_); (focus (first | (simp; done) | omega | (simp; omega)))) | (with_reducible refine drew_heap ?_))); done)); skip))
        ((with_reducible refine (nought_c m _ bz Hm.out Hbz.out _).mono ?_); rintro e w2 ⟨rfl, hb2⟩)
        have x3 : w2.heap[w.heap.size + 1 + 1 + 1]? = some (.cells (NC m false) 108 (0, 0)) := (hb2.block _ (by (focus (first | (simp; done) | omega | (simp; omega))))).trans q3
        have x2 : w2.heap[w.heap.size + 1 + 1]? = some (.cells (NC 0 false) 108 (0, 0)) := (hb2.block _ (by (focus (first | (simp; done) | omega | (simp; omega))))).trans h2.out
        have xz : w.heap.size + 5 ≤ w2.heap.size := by have := hb2.size; omega
        have xB : Below w.heap.size w w2 := hB.trans (hb2.mono (by omega))
        have yc : w2.cell? ⟨w.heap.size + 1 + 1 + 1, 136, none⟩ = some (.bool false) := by rw [cell_of_row _ _ _ _ _ _ x3, NC_sign]
        have yf : w2.frozen? ⟨w.heap.size + 1 + 1 + 1, 136, none⟩ = false := frozen_of_row _ _ _ _ _ x3
        clear hb2 hB z1 h0 h1 h2 h3 h4 q3 c0 c1 c3 f3
        cases bz
        all_goals
          go_wp2_with (first | ((with_reducible apply load83); rfl; rfl; rfl; (focus ((repeat' (first | (with_reducible assumption) | ((with_reducible refine heap_last ?_); (focus (first | (simp; done) | omega | (simp; omega)))) | ((with_reducible refine heap_prev ?_ ?_); (focus (first | (simp; done) | omega | (simp; omega)))) | (with_reducible apply sign_heap) | (with_reducible apply row_heap) | (with_reducible apply bit0_heap) | ((with_reducible refine sign_other ?_ ?_); (focus (first | (simp; done) | omega | (simp; omega)))) | ((with_reducible refine row_other ?_ ?_); (focus (first | (simp; done) | omega | (simp; omega)))) | (with_reducible refine drew_heap ?_))); done)); skip) | (first | ((with_reducible apply store83_0); rfl; rfl; rfl; rfl; (focus (simp; done)); skip) | ((with_reducible apply store83_1); rfl; rfl; rfl; rfl; (focus (simp; done)); skip) | ((with_reducible apply store83_2); rfl; rfl; rfl; rfl; (focus (simp; done)); skip) | ((with_reducible apply store83_3); rfl; rfl; rfl; rfl; (focus (simp; done)); skip) | ((with_reducible apply store83_4); rfl; rfl; rfl; rfl; (focus (simp; done)); skip)) | ((with_reducible apply store83); rfl; rfl; rfl; rfl; (focus ((repeat' (first | (with_reducible assumption) | ((with_reducible refine heap_last ?_); (focus (first | (simp; done) | omega | (simp; omega)))) | ((with_reducible refine heap_prev ?_ ?_); (focus (first | (simp; done) | omega | (simp; omega)))) | (with_reducible apply sign_heap) | (with_reducible apply row_heap) | (with_reducible apply bit0_heap) | ((with_reducible refine sign_other ?_ ?_); (focus (first | (simp; done) | omega | (simp; omega)))) | ((with_reducible refine row_other ?_ ?_); (focus (first | (simp; done) | omega | (simp; omega)))) | (with_reducible refine drew_heap ?_))); done)); skip) | ((with_reducible apply bodyPost_ret); (apply ret83; rfl; rfl; (focus ((repeat' (first | (with_reducible assumption) | ((with_reducible refine heap_last ?_); (focus (first | (simp; done) | omega | (simp; omega)))) | ((with_reducible refine heap_prev ?_ ?_); (focus (first | (simp; done) | omega | (simp; omega)))) | (with_reducible apply sign_heap) | (with_reducible apply row_heap) | (with_reducible apply bit0_heap) | ((with_reducible refine sign_other ?_ ?_); (focus (first | (simp; done) | omega | (simp; omega)))) | ((with_reducible refine row_other ?_ ?_); (focus (first | (simp; done) | omega | (simp; omega)))) | (with_reducible refine drew_heap ?_))); done))); rfl; skip))
          first | exact ⟨rfl, by (focus ((repeat' (first | (with_reducible exact Below.refl _ _) | (with_reducible assumption) | (with_reducible refine Below.alloc ?_ ?_ _) | (with_reducible refine Below.setCell ?_ ?_ _) | (with_reducible refine Below.row ?_ ?_ _) | (with_reducible refine Below.drew ?_) | (with_reducible refine below_drewN ?_ _) | (focus (first | (simp; done) | omega | (simp; omega))))); done))⟩ | (focus ((repeat' (first | (with_reducible exact Below.refl _ _) | (with_reducible assumption) | (with_reducible refine Below.alloc ?_ ?_ _) | (with_reducible refine Below.setCell ?_ ?_ _) | (with_reducible refine Below.row ?_ ?_ _) | (with_reducible refine Below.drew ?_) | (with_reducible refine below_drewN ?_ _) | (focus (first | (simp; done) | omega | (simp; omega))))); done))
end Go.Proofs.Ytdjbnnjcifgnlaa

namespace Go.Proofs.Ytdjbnnjcifgnlaa
open Go.RowKit

/-- The bits of f from k on. -/
def atop (f : Nat → Bool) (k : Nat) : Nat → Bool := fun j => decide (k ≤ j) && f j
theorem atop_all (m : Nat) (s : Bool) : NCf (atop m.testBit 0) s = NC m s := by
  unfold NC; apply NCf_congr; intro j _; simp [atop]
theorem atop_none (m : Nat) (s : Bool) : NCf (atop m.testBit 136) s = NC 0 s := by
  unfold NC; apply NCf_congr; intro j hj; simp [atop]; omega
theorem atop_set (f : Nat → Bool) (s : Bool) (k : Nat) (hk : k < 136) (hv : f k = true) : (NCf (atop f (k + 1)) s).setIfInBounds k (.bool true) = NCf (atop f k) s := by
  rw [NCf_set _ _ _ _ hk]
  apply NCf_congr
  intro j _
  unfold atop
  by_cases e : j = k
  · subst e; simp [hv]
  · rw [if_neg e]
    by_cases h1 : k ≤ j
    · simp [h1, show k + 1 ≤ j by omega]
    · simp [h1, show ¬ k + 1 ≤ j by omega]
theorem atop_skip (f : Nat → Bool) (s : Bool) (k : Nat) (hv : f k = false) : NCf (atop f (k + 1)) s = NCf (atop f k) s := by
  apply NCf_congr
  intro j _
  unfold atop
  by_cases e : j = k
  · subst e; simp [hv]
  · by_cases h1 : k ≤ j
    · simp [h1, show k + 1 ≤ j by omega]
    · simp [h1, show ¬ k + 1 ≤ j by omega]
/-- One step of the division by hand. -/
theorem div_step (a b j : Nat) (hb : 0 < b) : (a / b).testBit j = decide (b ≤ 2 * (a / 2 ^ (j + 1) % b) + (if a.testBit j then 1 else 0)) ∧
    a / 2 ^ j % b = if b ≤ 2 * (a / 2 ^ (j + 1) % b) + (if a.testBit j then 1 else 0) then 2 * (a / 2 ^ (j + 1) % b) + (if a.testBit j then 1 else 0) - b else 2 * (a / 2 ^ (j + 1) % b) + (if a.testBit j then 1 else 0) := by
  have e1 : a / 2 ^ j = 2 * (a / 2 ^ (j + 1)) + (if a.testBit j then 1 else 0) := by
    rw [div_succ, bit_eq]
    have : a / 2 ^ j % 2 = 0 ∨ a / 2 ^ j % 2 = 1 := by omega
    rcases this with h | h <;> simp [h] <;> omega
  have e2 : a / b / 2 ^ j = a / 2 ^ j / b := by rw [Nat.div_div_eq_div_mul, Nat.div_div_eq_div_mul, Nat.mul_comm]
  rw [bit_eq (a / b), e2, e1]
  obtain ⟨c, hc, hc1⟩ : ∃ c : Nat, c = (if a.testBit j then 1 else 0) ∧ c ≤ 1 := ⟨_, rfl, by split <;> omega⟩
  rw [← hc]
  generalize a / 2 ^ (j + 1) = x
  have e3 : 2 * x + c = b * (2 * (x / b)) + (2 * (x % b) + c) := by
    have := Nat.div_add_mod x b
    grind
  have hl : x % b < b := Nat.mod_lt _ hb
  rw [e3, Nat.mul_add_div hb, Nat.mul_add_mod]
  generalize x % b = y at *
  generalize x / b = z at *
  by_cases h : b ≤ 2 * y + c
  · have h1 : (2 * y + c) / b = 1 := by
      rw [Nat.div_eq_iff hb]; omega
    have h2 : (2 * y + c) % b = 2 * y + c - b := by
      rw [Nat.mod_eq_sub_mod h, Nat.mod_eq_of_lt (by omega)]
    rw [h1, Nat.mul_add_mod, h2, if_pos h]
    exact ⟨by simp [h], rfl⟩
  · have h1 : (2 * y + c) / b = 0 := Nat.div_eq_of_lt (by omega)
    have h2 : (2 * y + c) % b = 2 * y + c := Nat.mod_eq_of_lt (by omega)
    rw [h1, Nat.mul_add_mod, h2, if_neg h]
    exact ⟨by simp [h], rfl⟩

theorem atop_get (f : Nat → Bool) (s : Bool) (k i : Nat) (h : i < 136) : (NCf (atop f k) s)[i]? = some (.bool (atop f k i)) := NCf_get _ _ _ h
theorem NCf_heap {w : World} {g k : Nat} {f : Nat → Bool} {s : Bool} {t : TypeId} (hk : k < 136) (hv : f k = true) (h : w.heap[g]? = some (.cells (NCf (atop f (k + 1)) s) t (0, 0))) :
    (w.setCell ⟨g, k, none⟩ (.bool true)).heap[g]? = some (.cells (NCf (atop f k) s) t (0, 0)) := by
  rw [heap_setCell_same _ _ _ _ _ _ h, atop_set f s k hk hv]

set_option maxHeartbeats 4000000 in
set_option maxRecDepth 100000 in
theorem parts_n (a b : Nat) (s t : Bool) (ha : a < 2 ^ 136) (hb0 : 0 < b) (hb : b < 2 ^ 134) (w : World) :
    Calls Try.prog 67 #[.agg (NC a s), .agg (NC b t)] w fun e w' => e = .returned (.tuple #[.agg (NC (a / b) false), .agg (NC (a % b) false)]) ∧ Below w.heap.size w w' := by
  have hz := zero83
  have Ha := Lib.hid ha; clear ha
  have Hb := Lib.hid hb; clear hb
  have Hb0 := Lib.hid hb0; clear hb0
  go_enter Try.func67, Try.ntmps67
  go_wp2
  go_loopw [8] (fun i wr => ∃ k : Nat, k ≤ 136 ∧ i = .int .i64 ((k : Int) - 1) ∧ Hid (wr.heap[w.heap.size]? = some (.cells (NC a s) 108 (0, 0))) ∧ Hid (wr.heap[w.heap.size + 1]? = some (.cells (NC b t) 108 (0, 0))) ∧ Hid (wr.heap[w.heap.size + 1 + 1]? = some (.cells (NC 0 false) 108 (0, 0))) ∧ Hid (wr.heap[w.heap.size + 1 + 1 + 1]? = some (.cells (NC 0 false) 108 (0, 0))) ∧ Hid (wr.heap[w.heap.size + 1 + 1 + 1 + 1]? = some (.cells (NCf (atop (a / b).testBit k) false) 108 (0, 0))) ∧ Hid (wr.heap[w.heap.size + 1 + 1 + 1 + 1 + 1]? = some (.cells (NC (a / 2 ^ k % b) false) 108 (0, 0))) ∧ w.heap.size + 6 ≤ wr.heap.size ∧ Below w.heap.size w wr) (fun i _ => (intOf i + 1).toNat)
  case atStart =>
    refine ⟨136, by omega, rfl, by show _ = _; (focus ((repeat' (first | (with_reducible assumption) | ((with_reducible refine heap_last ?_); (focus (first | (simp; done) | omega | (simp; omega)))) | ((with_reducible refine heap_prev ?_ ?_); (focus (first | (simp; done) | omega | (simp; omega)))) | (with_reducible apply sign_heap) | (with_reducible apply row_heap) | (with_reducible apply bit0_heap) | ((with_reducible refine sign_other ?_ ?_); (focus (first | (simp; done) | omega | (simp; omega)))) | ((with_reducible refine row_other ?_ ?_); (focus (first | (simp; done) | omega | (simp; omega)))) | (with_reducible refine drew_heap ?_))); done)), by show _ = _; (focus ((repeat' (first | (with_reducible assumption) | ((with_reducible refine heap_last ?_); (focus (first | (simp; done) | omega | (simp; omega)))) | ((with_reducible refine heap_prev ?_ ?_); (focus (first | (simp; done) | omega | (simp; omega)))) | (with_reducible apply sign_heap) | (with_reducible apply row_heap) | (with_reducible apply bit0_heap) | ((with_reducible refine sign_other ?_ ?_); (focus (first | (simp; done) | omega | (simp; omega)))) | ((with_reducible refine row_other ?_ ?_); (focus (first | (simp; done) | omega | (simp; omega)))) | (with_reducible refine drew_heap ?_))); done)), by show _ = _; (focus ((repeat' (first | (with_reducible assumption) | ((with_reducible refine heap_last ?_); (focus (first | (simp; done) | omega | (simp; omega)))) | ((with_reducible refine heap_prev ?_ ?_); (focus (first | (simp; done) | omega | (simp; omega)))) | (with_reducible apply sign_heap) | (with_reducible apply row_heap) | (with_reducible apply bit0_heap) | ((with_reducible refine sign_other ?_ ?_); (focus (first | (simp; done) | omega | (simp; omega)))) | ((with_reducible refine row_other ?_ ?_); (focus (first | (simp; done) | omega | (simp; omega)))) | (with_reducible refine drew_heap ?_))); done)), by show _ = _; (focus ((repeat' (first | (with_reducible assumption) | ((with_reducible refine heap_last ?_); (focus (first | (simp; done) | omega | (simp; omega)))) | ((with_reducible refine heap_prev ?_ ?_); (focus (first | (simp; done) | omega | (simp; omega)))) | (with_reducible apply sign_heap) | (with_reducible apply row_heap) | (with_reducible apply bit0_heap) | ((with_reducible refine sign_other ?_ ?_); (focus (first | (simp; done) | omega | (simp; omega)))) | ((with_reducible refine row_other ?_ ?_); (focus (first | (simp; done) | omega | (simp; omega)))) | (with_reducible refine drew_heap ?_))); done)), ?_, ?_, by simp, by (focus ((repeat' (first | (with_reducible exact Below.refl _ _) | (with_reducible assumption) | (with_reducible refine Below.alloc ?_ ?_ _) | (with_reducible refine Below.setCell ?_ ?_ _) | (with_reducible refine Below.row ?_ ?_ _) | (with_reducible refine Below.drew ?_) | (with_reducible refine below_drewN ?_ _) | (focus (first | (simp; done) | omega | (simp; omega))))); done))⟩
    · show _ = _
      rw [atop_none]; (focus ((repeat' (first | (with_reducible assumption) | ((with_reducible refine heap_last ?_); (focus (first | (simp; done) | omega | (simp; omega)))) | ((with_reducible refine heap_prev ?_ ?_); (focus (first | (simp; done) | omega | (simp; omega)))) | (with_reducible apply sign_heap) | (with_reducible apply row_heap) | (with_reducible apply bit0_heap) | ((with_reducible refine sign_other ?_ ?_); (focus (first | (simp; done) | omega | (simp; omega)))) | ((with_reducible refine row_other ?_ ?_); (focus (first | (simp; done) | omega | (simp; omega)))) | (with_reducible refine drew_heap ?_))); done))
    · show _ = _
      rw [show a / 2 ^ 136 % b = 0 by rw [Nat.div_eq_of_lt Ha.out]; simp]; (focus ((repeat' (first | (with_reducible assumption) | ((with_reducible refine heap_last ?_); (focus (first | (simp; done) | omega | (simp; omega)))) | ((with_reducible refine heap_prev ?_ ?_); (focus (first | (simp; done) | omega | (simp; omega)))) | (with_reducible apply sign_heap) | (with_reducible apply row_heap) | (with_reducible apply bit0_heap) | ((with_reducible refine sign_other ?_ ?_); (focus (first | (simp; done) | omega | (simp; omega)))) | ((with_reducible refine row_other ?_ ?_); (focus (first | (simp; done) | omega | (simp; omega)))) | (with_reducible refine drew_heap ?_))); done))
  case round =>
    obtain ⟨k, hk, rfl, h0, h1, h2, h3, h4, h5, z1, hB⟩ := hrel
    by_cases hlt : 0 < k
    · obtain ⟨j, rfl⟩ : ∃ j, k = j + 1 := ⟨k - 1, by omega⟩
      rw [show (((j + 1 : Nat) : Int) - 1) = (j : Int) by omega]
      have hj : j < 136 := by omega
      have ⟨d1, d2⟩ := div_step a b j Hb0.out
      obtain ⟨x, hx⟩ : ∃ x, x = a.testBit j := ⟨_, rfl⟩
      rw [← hx] at d1 d2
      have hyb : a / 2 ^ (j + 1) % b < b := Nat.mod_lt _ Hb0.out
      have hq1 : (a / b).testBit j = false → NCf (atop (a / b).testBit (j + 1)) false = NCf (atop (a / b).testBit j) false := fun h => atop_skip _ _ _ h
      obtain ⟨y, hy⟩ : ∃ y, y = a / 2 ^ (j + 1) % b := ⟨_, rfl⟩
      rw [← hy] at d1 d2 hyb h5
      obtain ⟨r, hr⟩ : ∃ r, r = 2 * y + (if x then 1 else 0) := ⟨_, rfl⟩
      rw [← hr] at d1 d2
      have hr136 : r < 2 ^ 136 := by rw [hr]; have := Hb.out; split <;> omega
      have hb136 : b < 2 ^ 136 := by have := Hb.out; omega
      have D1 := Lib.hid d1; clear d1
      have D2 := Lib.hid d2; clear d2
      have Hx := Lib.hid hx; clear hx
      have Hy := Lib.hid hy; clear hy
      have Hr := Lib.hid hr; clear hr
      have Hq1 := Lib.hid hq1; clear hq1
      have Hyb := Lib.hid hyb; clear hyb
      have Hr136 := Lib.hid hr136; clear hr136
      have Hb136 := Lib.hid hb136; clear hb136
      have q0 : (0 : Int) ≤ (j : Int) := by omega
      have q1 : (j : Int) < 136 := by omega
      have q5 := h5.out
      go_wp2_with (first | ((with_reducible apply load83); rfl; rfl; rfl; (focus ((repeat' (first | (with_reducible assumption) | ((with_reducible refine heap_last ?_); (focus (first | (simp; done) | omega | (simp; omega)))) | ((with_reducible refine heap_prev ?_ ?_); (focus (first | (simp; done) | omega | (simp; omega)))) | (with_reducible apply sign_heap) | (with_reducible apply row_heap) | (with_reducible apply bit0_heap) | ((with_reducible refine sign_other ?_ ?_); (focus (first | (simp; done) | omega | (simp; omega)))) | ((with_reducible refine row_other ?_ ?_); (focus (first | (simp; done) | omega | (simp; omega)))) | (with_reducible refine drew_heap ?_))); done)); skip))
      clear q5
      ((with_reducible refine (twice_c _ _ _).mono ?_); rintro e w1 ⟨rfl, hb1⟩)
      have y0 : Hid (w1.heap[w.heap.size]? = some (.cells (NC a s) 108 (0, 0))) := (hb1.block _ (by omega)).trans h0
      have y1 : Hid (w1.heap[w.heap.size + 1]? = some (.cells (NC b t) 108 (0, 0))) := (hb1.block _ (by omega)).trans h1
      have y2 : Hid (w1.heap[w.heap.size + 1 + 1]? = some (.cells (NC 0 false) 108 (0, 0))) := (hb1.block _ (by omega)).trans h2
      have y3 : Hid (w1.heap[w.heap.size + 1 + 1 + 1]? = some (.cells (NC 0 false) 108 (0, 0))) := (hb1.block _ (by omega)).trans h3
      have y4 : Hid (w1.heap[w.heap.size + 1 + 1 + 1 + 1]? = some (.cells (NCf (atop (a / b).testBit (j + 1)) false) 108 (0, 0))) := (hb1.block _ (by omega)).trans h4
      have y5 : w1.heap[w.heap.size + 1 + 1 + 1 + 1 + 1]? = some (.cells (NC y false) 108 (0, 0)) := (hb1.block _ (by omega)).trans h5
      have yz : w.heap.size + 6 ≤ w1.heap.size := by have := hb1.size; omega
      have yB : Below w.heap.size w w1 := hB.trans (hb1.mono (by omega))
      clear hb1 h0 h1 h2 h3 h4 h5 z1 hB
      have c0 : (w1.setRow (w.heap.size + 1 + 1 + 1 + 1 + 1) (NC (2 * y) false)).cell? ⟨w.heap.size, j, none⟩ = some (.bool x) := by rw [cell_of_row _ _ _ _ _ _ (row_other (by omega) y0.out), NC_get _ _ _ hj, ← Hx.out]
      have c5 : (w1.setRow (w.heap.size + 1 + 1 + 1 + 1 + 1) (NC (2 * y) false)).cell? ⟨w.heap.size + 1 + 1 + 1 + 1 + 1, 0, none⟩ = some (.bool ((2 * y).testBit 0)) := by rw [cell_of_row _ _ _ _ _ _ (row_heap y5), NC_get _ _ _ (by omega)]
      have f5 : (w1.setRow (w.heap.size + 1 + 1 + 1 + 1 + 1) (NC (2 * y) false)).frozen? ⟨w.heap.size + 1 + 1 + 1 + 1 + 1, 0, none⟩ = false := frozen_of_row _ _ _ _ _ (row_heap y5)
      have Y5 := Lib.hid y5; clear y5
      obtain ⟨wx, hwx⟩ : ∃ wx, wx = (w1.setRow (w.heap.size + 1 + 1 + 1 + 1 + 1) (NC (2 * y) false)).setCell ⟨w.heap.size + 1 + 1 + 1 + 1 + 1, 0, none⟩ (.bool x) := ⟨_, rfl⟩
      have x5 : wx.heap[w.heap.size + 1 + 1 + 1 + 1 + 1]? = some (.cells (NC r false) 108 (0, 0)) := by rw [hwx, Hr.out]; exact bit0_heap (row_heap Y5.out)
      have x1 : wx.heap[w.heap.size + 1]? = some (.cells (NC b t) 108 (0, 0)) := by rw [hwx]; exact sign_other (by (focus (first | (simp; done) | omega | (simp; omega)))) (row_other (by omega) y1.out)
      have x0 : Hid (wx.heap[w.heap.size]? = some (.cells (NC a s) 108 (0, 0))) := by show _ = _; rw [hwx]; exact sign_other (by (focus (first | (simp; done) | omega | (simp; omega)))) (row_other (by omega) y0.out)
      have x2 : Hid (wx.heap[w.heap.size + 1 + 1]? = some (.cells (NC 0 false) 108 (0, 0))) := by show _ = _; rw [hwx]; exact sign_other (by (focus (first | (simp; done) | omega | (simp; omega)))) (row_other (by omega) y2.out)
      have x3 : Hid (wx.heap[w.heap.size + 1 + 1 + 1]? = some (.cells (NC 0 false) 108 (0, 0))) := by show _ = _; rw [hwx]; exact sign_other (by (focus (first | (simp; done) | omega | (simp; omega)))) (row_other (by omega) y3.out)
      have x4 : Hid (wx.heap[w.heap.size + 1 + 1 + 1 + 1]? = some (.cells (NCf (atop (a / b).testBit (j + 1)) false) 108 (0, 0))) := by show _ = _; rw [hwx]; exact sign_other (by (focus (first | (simp; done) | omega | (simp; omega)))) (row_other (by omega) y4.out)
      have xz : w.heap.size + 6 ≤ wx.heap.size := by rw [hwx]; simp; omega
      have xB : Below w.heap.size w wx := by rw [hwx]; (focus ((repeat' (first | (with_reducible exact Below.refl _ _) | (with_reducible assumption) | (with_reducible refine Below.alloc ?_ ?_ _) | (with_reducible refine Below.setCell ?_ ?_ _) | (with_reducible refine Below.row ?_ ?_ _) | (with_reducible refine Below.drew ?_) | (with_reducible refine below_drewN ?_ _) | (focus (first | (simp; done) | omega | (simp; omega))))); done))
      have y5 := Y5.out
      subst hwx
      go_wp2_with (first | ((with_reducible apply store83); rfl; rfl; rfl; rfl; (focus ((repeat' (first | (with_reducible assumption) | ((with_reducible refine heap_last ?_); (focus (first | (simp; done) | omega | (simp; omega)))) | ((with_reducible refine heap_prev ?_ ?_); (focus (first | (simp; done) | omega | (simp; omega)))) | (with_reducible apply sign_heap) | (with_reducible apply row_heap) | (with_reducible apply bit0_heap) | ((with_reducible refine sign_other ?_ ?_); (focus (first | (simp; done) | omega | (simp; omega)))) | ((with_reducible refine row_other ?_ ?_); (focus (first | (simp; done) | omega | (simp; omega)))) | (with_reducible refine drew_heap ?_))); done)); skip) | ((with_reducible apply load83); rfl; rfl; rfl; (focus ((repeat' (first | (with_reducible assumption) | ((with_reducible refine heap_last ?_); (focus (first | (simp; done) | omega | (simp; omega)))) | ((with_reducible refine heap_prev ?_ ?_); (focus (first | (simp; done) | omega | (simp; omega)))) | (with_reducible apply sign_heap) | (with_reducible apply row_heap) | (with_reducible apply bit0_heap) | ((with_reducible refine sign_other ?_ ?_); (focus (first | (simp; done) | omega | (simp; omega)))) | ((with_reducible refine row_other ?_ ?_); (focus (first | (simp; done) | omega | (simp; omega)))) | (with_reducible refine drew_heap ?_))); done)); skip))
      by_cases hbr : b ≤ r
      · have Hd : Hid (false = decide (r < b)) := by show _ = _; rw [decide_eq_false]; omega
        have Hbr := Lib.hid hbr; clear hbr
        ((with_reducible refine (below_c r b _ _ false Hr136.out Hb136.out Hd.out _).mono ?_); rintro e w2 ⟨rfl, hb2⟩)
        have a0 : Hid (w2.heap[w.heap.size]? = some (.cells (NC a s) 108 (0, 0))) := (hb2.block _ (by (focus (first | (simp; done) | omega | (simp; omega))))).trans x0
        have a1 : w2.heap[w.heap.size + 1]? = some (.cells (NC b t) 108 (0, 0)) := (hb2.block _ (by (focus (first | (simp; done) | omega | (simp; omega))))).trans x1
        have a2 : Hid (w2.heap[w.heap.size + 1 + 1]? = some (.cells (NC 0 false) 108 (0, 0))) := (hb2.block _ (by (focus (first | (simp; done) | omega | (simp; omega))))).trans x2
        have a3 : Hid (w2.heap[w.heap.size + 1 + 1 + 1]? = some (.cells (NC 0 false) 108 (0, 0))) := (hb2.block _ (by (focus (first | (simp; done) | omega | (simp; omega))))).trans x3
        have a4 : Hid (w2.heap[w.heap.size + 1 + 1 + 1 + 1]? = some (.cells (NCf (atop (a / b).testBit (j + 1)) false) 108 (0, 0))) := (hb2.block _ (by (focus (first | (simp; done) | omega | (simp; omega))))).trans x4
        have a5 : w2.heap[w.heap.size + 1 + 1 + 1 + 1 + 1]? = some (.cells (NC r false) 108 (0, 0)) := (hb2.block _ (by (focus (first | (simp; done) | omega | (simp; omega))))).trans x5
        have az : w.heap.size + 6 ≤ w2.heap.size := by have := hb2.size; omega
        have aB : Below w.heap.size w w2 := xB.trans (hb2.mono (by omega))
        clear hb2 x0 x1 x2 x3 x4 x5 xz xB y0 y1 y2 y3 y4 y5 yz yB c0 c5 f5 Y5
        go_wp2_with (first | ((with_reducible apply load83); rfl; rfl; rfl; (focus ((repeat' (first | (with_reducible assumption) | ((with_reducible refine heap_last ?_); (focus (first | (simp; done) | omega | (simp; omega)))) | ((with_reducible refine heap_prev ?_ ?_); (focus (first | (simp; done) | omega | (simp; omega)))) | (with_reducible apply sign_heap) | (with_reducible apply row_heap) | (with_reducible apply bit0_heap) | ((with_reducible refine sign_other ?_ ?_); (focus (first | (simp; done) | omega | (simp; omega)))) | ((with_reducible refine row_other ?_ ?_); (focus (first | (simp; done) | omega | (simp; omega)))) | (with_reducible refine drew_heap ?_))); done)); skip))
        ((with_reducible refine (less_c r b _ _ Hbr.out _).mono ?_); rintro e w3 ⟨rfl, hb3⟩)
        have b0 : Hid (w3.heap[w.heap.size]? = some (.cells (NC a s) 108 (0, 0))) := (hb3.block _ (by (focus (first | (simp; done) | omega | (simp; omega))))).trans a0
        have b1 : Hid (w3.heap[w.heap.size + 1]? = some (.cells (NC b t) 108 (0, 0))) := (hb3.block _ (by (focus (first | (simp; done) | omega | (simp; omega))))).trans a1
        have b2 : Hid (w3.heap[w.heap.size + 1 + 1]? = some (.cells (NC 0 false) 108 (0, 0))) := (hb3.block _ (by (focus (first | (simp; done) | omega | (simp; omega))))).trans a2
        have b3 : Hid (w3.heap[w.heap.size + 1 + 1 + 1]? = some (.cells (NC 0 false) 108 (0, 0))) := (hb3.block _ (by (focus (first | (simp; done) | omega | (simp; omega))))).trans a3
        have b4 : Hid (w3.heap[w.heap.size + 1 + 1 + 1 + 1]? = some (.cells (NCf (atop (a / b).testBit (j + 1)) false) 108 (0, 0))) := (hb3.block _ (by (focus (first | (simp; done) | omega | (simp; omega))))).trans a4
        have b5 : w3.heap[w.heap.size + 1 + 1 + 1 + 1 + 1]? = some (.cells (NC r false) 108 (0, 0)) := (hb3.block _ (by (focus (first | (simp; done) | omega | (simp; omega))))).trans a5
        have bz : w.heap.size + 6 ≤ w3.heap.size := by have := hb3.size; omega
        have bB : Below w.heap.size w w3 := aB.trans (hb3.mono (by omega))
        clear hb3 a0 a1 a2 a3 a4 a5 az aB
        have c4 : (w3.setRow (w.heap.size + 1 + 1 + 1 + 1 + 1) (NC (r - b) false)).cell? ⟨w.heap.size + 1 + 1 + 1 + 1, j, none⟩ = some (.bool (atop (a / b).testBit (j + 1) j)) := by rw [cell_of_row _ _ _ _ _ _ (row_other (by omega) b4.out), atop_get _ _ _ _ hj]
        have f4 : (w3.setRow (w.heap.size + 1 + 1 + 1 + 1 + 1) (NC (r - b) false)).frozen? ⟨w.heap.size + 1 + 1 + 1 + 1, j, none⟩ = false := frozen_of_row _ _ _ _ _ (row_other (by omega) b4.out)
        go_wp2_with (first | ((with_reducible apply store83); rfl; rfl; rfl; rfl; (focus ((repeat' (first | (with_reducible assumption) | ((with_reducible refine heap_last ?_); (focus (first | (simp; done) | omega | (simp; omega)))) | ((with_reducible refine heap_prev ?_ ?_); (focus (first | (simp; done) | omega | (simp; omega)))) | (with_reducible apply sign_heap) | (with_reducible apply row_heap) | (with_reducible apply bit0_heap) | ((with_reducible refine sign_other ?_ ?_); (focus (first | (simp; done) | omega | (simp; omega)))) | ((with_reducible refine row_other ?_ ?_); (focus (first | (simp; done) | omega | (simp; omega)))) | (with_reducible refine drew_heap ?_))); done)); skip))
        refine ⟨⟨j, by omega, rfl, ?_, ?_, ?_, ?_, ?_, ?_, ?_, ?_⟩, by simp [intOf]⟩
        · exact sign_other (by (focus (first | (simp; done) | omega | (simp; omega)))) (row_other (by omega) b0.out)
        · exact sign_other (by (focus (first | (simp; done) | omega | (simp; omega)))) (row_other (by omega) b1.out)
        · exact sign_other (by (focus (first | (simp; done) | omega | (simp; omega)))) (row_other (by omega) b2.out)
        · exact sign_other (by (focus (first | (simp; done) | omega | (simp; omega)))) (row_other (by omega) b3.out)
        · exact NCf_heap hj (by rw [D1.out, decide_eq_true Hbr.out]) (row_other (by omega) b4.out)
        · show _ = _
          rw [D2.out, if_pos Hbr.out]
          exact sign_other (by (focus (first | (simp; done) | omega | (simp; omega)))) (row_heap b5)
        · simp; omega
        · (focus ((repeat' (first | (with_reducible exact Below.refl _ _) | (with_reducible assumption) | (with_reducible refine Below.alloc ?_ ?_ _) | (with_reducible refine Below.setCell ?_ ?_ _) | (with_reducible refine Below.row ?_ ?_ _) | (with_reducible refine Below.drew ?_) | (with_reducible refine below_drewN ?_ _) | (focus (first | (simp; done) | omega | (simp; omega))))); done))
      · have Hd : Hid (true = decide (r < b)) := by show _ = _; rw [decide_eq_true]; omega
        have Hbr := Lib.hid hbr; clear hbr
        ((with_reducible refine (below_c r b _ _ true Hr136.out Hb136.out Hd.out _).mono ?_); rintro e w2 ⟨rfl, hb2⟩)
        have a0 : Hid (w2.heap[w.heap.size]? = some (.cells (NC a s) 108 (0, 0))) := (hb2.block _ (by (focus (first | (simp; done) | omega | (simp; omega))))).trans x0
        have a1 : Hid (w2.heap[w.heap.size + 1]? = some (.cells (NC b t) 108 (0, 0))) := (hb2.block _ (by (focus (first | (simp; done) | omega | (simp; omega))))).trans x1
        have a2 : Hid (w2.heap[w.heap.size + 1 + 1]? = some (.cells (NC 0 false) 108 (0, 0))) := (hb2.block _ (by (focus (first | (simp; done) | omega | (simp; omega))))).trans x2
        have a3 : Hid (w2.heap[w.heap.size + 1 + 1 + 1]? = some (.cells (NC 0 false) 108 (0, 0))) := (hb2.block _ (by (focus (first | (simp; done) | omega | (simp; omega))))).trans x3
        have a4 : Hid (w2.heap[w.heap.size + 1 + 1 + 1 + 1]? = some (.cells (NCf (atop (a / b).testBit (j + 1)) false) 108 (0, 0))) := (hb2.block _ (by (focus (first | (simp; done) | omega | (simp; omega))))).trans x4
        have a5 : Hid (w2.heap[w.heap.size + 1 + 1 + 1 + 1 + 1]? = some (.cells (NC r false) 108 (0, 0))) := (hb2.block _ (by (focus (first | (simp; done) | omega | (simp; omega))))).trans x5
        have az : w.heap.size + 6 ≤ w2.heap.size := by have := hb2.size; omega
        have aB : Below w.heap.size w w2 := xB.trans (hb2.mono (by omega))
        clear hb2 x0 x1 x2 x3 x4 x5 xz xB y0 y1 y2 y3 y4 y5 yz yB c0 c5 f5 Y5
        go_wp2
        refine ⟨⟨j, by omega, rfl, a0, a1, a2, a3, ?_, ?_, az, aB⟩, by simp [intOf]⟩
        · show _ = _
          rw [← Hq1.out (by rw [D1.out, decide_eq_false Hbr.out])]
          exact a4
        · show _ = _
          rw [D2.out, if_neg Hbr.out]
          exact a5
    · obtain rfl : k = 0 := by omega
      rw [atop_all] at h4
      rw [show a / 2 ^ 0 % b = a % b by simp] at h5
      have q2 := h2.out
      have q3 := h3.out
      have q4 := h4.out
      have q5 := h5.out
      go_wp2
      refine wp_region_any (by kernel_rfl) ?_
      change wpAny _ _ _ _ _ _ _ (World.drew _)
      have FIN2 : ∀ (a' : Act) (w' : World), a'.tmps.getD 4 undef = .pointer (some ⟨w.heap.size + 1 + 1, 0, none⟩) → a'.tmps.getD 5 undef = .pointer (some ⟨w.heap.size + 1 + 1 + 1, 0, none⟩) → a'.defers = [] →
          w'.heap[w.heap.size + 1 + 1]? = some (.cells (NC (a / b) false) 108 (0, 0)) → w'.heap[w.heap.size + 1 + 1 + 1]? = some (.cells (NC (a % b) false) 108 (0, 0)) → Below w.heap.size w w' →
          bodyPost Try.prog Try.f67 (fun e w' => e = .returned (.tuple #[.agg (NC (a / b) false), .agg (NC (a % b) false)]) ∧ Below w.heap.size w w') Exit.ret a' w' := by
        intro a' w' p4 p5 hd e2 e3 hb
        exact bodyPost_ret (ret83_two rfl _ _ _ _ p4 p5 _ _ _ _ e2 e3) hd ⟨rfl, hb⟩
      (refine wpAny_ready (rs := [0, 1]) (by kernel_rfl) (by simp) (AllReady.cons rfl (fun K hK => ?_) (AllReady.cons rfl (fun K hK => ?_) AllReady.nil)))
      · ((with_reducible apply any_load83); rfl; rfl; rfl; (focus ((repeat' (first | (with_reducible assumption) | ((with_reducible refine heap_last ?_); (focus (first | (simp; done) | omega | (simp; omega)))) | ((with_reducible refine heap_prev ?_ ?_); (focus (first | (simp; done) | omega | (simp; omega)))) | (with_reducible apply sign_heap) | (with_reducible apply row_heap) | (with_reducible apply bit0_heap) | ((with_reducible refine sign_other ?_ ?_); (focus (first | (simp; done) | omega | (simp; omega)))) | ((with_reducible refine row_other ?_ ?_); (focus (first | (simp; done) | omega | (simp; omega)))) | (with_reducible refine drew_heap ?_))); done)); refine hK _ _ ?_; clear hK K)
        (refine wpAny_ready (rs := [1, 2]) (by kernel_rfl) (by simp) (AllReady.cons rfl (fun K hK => ?_) (AllReady.cons rfl (fun K hK => ?_) AllReady.nil)))
        · ((with_reducible apply any_load83); rfl; rfl; rfl; (focus ((repeat' (first | (with_reducible assumption) | ((with_reducible refine heap_last ?_); (focus (first | (simp; done) | omega | (simp; omega)))) | ((with_reducible refine heap_prev ?_ ?_); (focus (first | (simp; done) | omega | (simp; omega)))) | (with_reducible apply sign_heap) | (with_reducible apply row_heap) | (with_reducible apply bit0_heap) | ((with_reducible refine sign_other ?_ ?_); (focus (first | (simp; done) | omega | (simp; omega)))) | ((with_reducible refine row_other ?_ ?_); (focus (first | (simp; done) | omega | (simp; omega)))) | (with_reducible refine drew_heap ?_))); done)); refine hK _ _ ?_; clear hK K)
          (refine wpAny_ready (rs := [2]) (by kernel_rfl) (by simp) (AllReady.cons rfl (fun K hK => ?_) AllReady.nil))
          ((with_reducible apply any_store83); rfl; rfl; rfl; rfl; (focus ((repeat' (first | (with_reducible assumption) | ((with_reducible refine heap_last ?_); (focus (first | (simp; done) | omega | (simp; omega)))) | ((with_reducible refine heap_prev ?_ ?_); (focus (first | (simp; done) | omega | (simp; omega)))) | (with_reducible apply sign_heap) | (with_reducible apply row_heap) | (with_reducible apply bit0_heap) | ((with_reducible refine sign_other ?_ ?_); (focus (first | (simp; done) | omega | (simp; omega)))) | ((with_reducible refine row_other ?_ ?_); (focus (first | (simp; done) | omega | (simp; omega)))) | (with_reducible refine drew_heap ?_))); done)); refine hK _ _ ?_; clear hK K)
          (refine wpAny_ready (rs := [3]) (by kernel_rfl) (by simp) (AllReady.cons rfl (fun K hK => ?_) AllReady.nil))
          ((with_reducible apply any_store83); rfl; rfl; rfl; rfl; (focus ((repeat' (first | (with_reducible assumption) | ((with_reducible refine heap_last ?_); (focus (first | (simp; done) | omega | (simp; omega)))) | ((with_reducible refine heap_prev ?_ ?_); (focus (first | (simp; done) | omega | (simp; omega)))) | (with_reducible apply sign_heap) | (with_reducible apply row_heap) | (with_reducible apply bit0_heap) | ((with_reducible refine sign_other ?_ ?_); (focus (first | (simp; done) | omega | (simp; omega)))) | ((with_reducible refine row_other ?_ ?_); (focus (first | (simp; done) | omega | (simp; omega)))) | (with_reducible refine drew_heap ?_))); done)); refine hK _ _ ?_; clear hK K)
          refine wpAny_done (by kernel_rfl) ?_ _
          go_wp2_with ((with_reducible apply FIN2); rfl; rfl; rfl; (focus ((repeat' (first | (with_reducible assumption) | ((with_reducible refine heap_last ?_); (focus (first | (simp; done) | omega | (simp; omega)))) | ((with_reducible refine heap_prev ?_ ?_); (focus (first | (simp; done) | omega | (simp; omega)))) | (with_reducible apply sign_heap) | (with_reducible apply row_heap) | (with_reducible apply bit0_heap) | ((with_reducible refine sign_other ?_ ?_); (focus (first | (simp; done) | omega | (simp; omega)))) | ((with_reducible refine row_other ?_ ?_); (focus (first | (simp; done) | omega | (simp; omega)))) | (with_reducible refine drew_heap ?_))); done)); (focus ((repeat' (first | (with_reducible assumption) | ((with_reducible refine heap_last ?_); (focus (first | (simp; done) | omega | (simp; omega)))) | ((with_reducible refine heap_prev ?_ ?_); (focus (first | (simp; done) | omega | (simp; omega)))) | (with_reducible apply sign_heap) | (with_reducible apply row_heap) | (with_reducible apply bit0_heap) | ((with_reducible refine sign_other ?_ ?_); (focus (first | (simp; done) | omega | (simp; omega)))) | ((with_reducible refine row_other ?_ ?_); (focus (first | (simp; done) | omega | (simp; omega)))) | (with_reducible refine drew_heap ?_))); done)); (focus ((repeat' (first | (with_reducible exact Below.refl _ _) | (with_reducible assumption) | (with_reducible refine Below.alloc ?_ ?_ _) | (with_reducible refine Below.setCell ?_ ?_ _) | (with_reducible refine Below.row ?_ ?_ _) | (with_reducible refine Below.drew ?_) | (with_reducible refine below_drewN ?_ _) | (focus (first | (simp; done) | omega | (simp; omega))))); done)))
        · ((with_reducible apply any_store83); rfl; rfl; rfl; rfl; (focus ((repeat' (first | (with_reducible assumption) | ((with_reducible refine heap_last ?_); (focus (first | (simp; done) | omega | (simp; omega)))) | ((with_reducible refine heap_prev ?_ ?_); (focus (first | (simp; done) | omega | (simp; omega)))) | (with_reducible apply sign_heap) | (with_reducible apply row_heap) | (with_reducible apply bit0_heap) | ((with_reducible refine sign_other ?_ ?_); (focus (first | (simp; done) | omega | (simp; omega)))) | ((with_reducible refine row_other ?_ ?_); (focus (first | (simp; done) | omega | (simp; omega)))) | (with_reducible refine drew_heap ?_))); done)); refine hK _ _ ?_; clear hK K)
          (refine wpAny_ready (rs := [1]) (by kernel_rfl) (by simp) (AllReady.cons rfl (fun K hK => ?_) AllReady.nil))
          ((with_reducible apply any_load83); rfl; rfl; rfl; (focus ((repeat' (first | (with_reducible assumption) | ((with_reducible refine heap_last ?_); (focus (first | (simp; done) | omega | (simp; omega)))) | ((with_reducible refine heap_prev ?_ ?_); (focus (first | (simp; done) | omega | (simp; omega)))) | (with_reducible apply sign_heap) | (with_reducible apply row_heap) | (with_reducible apply bit0_heap) | ((with_reducible refine sign_other ?_ ?_); (focus (first | (simp; done) | omega | (simp; omega)))) | ((with_reducible refine row_other ?_ ?_); (focus (first | (simp; done) | omega | (simp; omega)))) | (with_reducible refine drew_heap ?_))); done)); refine hK _ _ ?_; clear hK K)
          (refine wpAny_ready (rs := [3]) (by kernel_rfl) (by simp) (AllReady.cons rfl (fun K hK => ?_) AllReady.nil))
          ((with_reducible apply any_store83); rfl; rfl; rfl; rfl; (focus ((repeat' (first | (with_reducible assumption) | ((with_reducible refine heap_last ?_); (focus (first | (simp; done) | omega | (simp; omega)))) | ((with_reducible refine heap_prev ?_ ?_); (focus (first | (simp; done) | omega | (simp; omega)))) | (with_reducible apply sign_heap) | (with_reducible apply row_heap) | (with_reducible apply bit0_heap) | ((with_reducible refine sign_other ?_ ?_); (focus (first | (simp; done) | omega | (simp; omega)))) | ((with_reducible refine row_other ?_ ?_); (focus (first | (simp; done) | omega | (simp; omega)))) | (with_reducible refine drew_heap ?_))); done)); refine hK _ _ ?_; clear hK K)
          refine wpAny_done (by kernel_rfl) ?_ _
          go_wp2_with ((with_reducible apply FIN2); rfl; rfl; rfl; (focus ((repeat' (first | (with_reducible assumption) | ((with_reducible refine heap_last ?_); (focus (first | (simp; done) | omega | (simp; omega)))) | ((with_reducible refine heap_prev ?_ ?_); (focus (first | (simp; done) | omega | (simp; omega)))) | (with_reducible apply sign_heap) | (with_reducible apply row_heap) | (with_reducible apply bit0_heap) | ((with_reducible refine sign_other ?_ ?_); (focus (first | (simp; done) | omega | (simp; omega)))) | ((with_reducible refine row_other ?_ ?_); (focus (first | (simp; done) | omega | (simp; omega)))) | (with_reducible refine drew_heap ?_))); done)); (focus ((repeat' (first | (with_reducible assumption) | ((with_reducible refine heap_last ?_); (focus (first | (simp; done) | omega | (simp; omega)))) | ((with_reducible refine heap_prev ?_ ?_); (focus (first | (simp; done) | omega | (simp; omega)))) | (with_reducible apply sign_heap) | (with_reducible apply row_heap) | (with_reducible apply bit0_heap) | ((with_reducible refine sign_other ?_ ?_); (focus (first | (simp; done) | omega | (simp; omega)))) | ((with_reducible refine row_other ?_ ?_); (focus (first | (simp; done) | omega | (simp; omega)))) | (with_reducible refine drew_heap ?_))); done)); (focus ((repeat' (first | (with_reducible exact Below.refl _ _) | (with_reducible assumption) | (with_reducible refine Below.alloc ?_ ?_ _) | (with_reducible refine Below.setCell ?_ ?_ _) | (with_reducible refine Below.row ?_ ?_ _) | (with_reducible refine Below.drew ?_) | (with_reducible refine below_drewN ?_ _) | (focus (first | (simp; done) | omega | (simp; omega))))); done)))
      · ((with_reducible apply any_load83); rfl; rfl; rfl; (focus ((repeat' (first | (with_reducible assumption) | ((with_reducible refine heap_last ?_); (focus (first | (simp; done) | omega | (simp; omega)))) | ((with_reducible refine heap_prev ?_ ?_); (focus (first | (simp; done) | omega | (simp; omega)))) | (with_reducible apply sign_heap) | (with_reducible apply row_heap) | (with_reducible apply bit0_heap) | ((with_reducible refine sign_other ?_ ?_); (focus (first | (simp; done) | omega | (simp; omega)))) | ((with_reducible refine row_other ?_ ?_); (focus (first | (simp; done) | omega | (simp; omega)))) | (with_reducible refine drew_heap ?_))); done)); refine hK _ _ ?_; clear hK K)
        (refine wpAny_ready (rs := [0]) (by kernel_rfl) (by simp) (AllReady.cons rfl (fun K hK => ?_) AllReady.nil))
        ((with_reducible apply any_load83); rfl; rfl; rfl; (focus ((repeat' (first | (with_reducible assumption) | ((with_reducible refine heap_last ?_); (focus (first | (simp; done) | omega | (simp; omega)))) | ((with_reducible refine heap_prev ?_ ?_); (focus (first | (simp; done) | omega | (simp; omega)))) | (with_reducible apply sign_heap) | (with_reducible apply row_heap) | (with_reducible apply bit0_heap) | ((with_reducible refine sign_other ?_ ?_); (focus (first | (simp; done) | omega | (simp; omega)))) | ((with_reducible refine row_other ?_ ?_); (focus (first | (simp; done) | omega | (simp; omega)))) | (with_reducible refine drew_heap ?_))); done)); refine hK _ _ ?_; clear hK K)
        (refine wpAny_ready (rs := [2]) (by kernel_rfl) (by simp) (AllReady.cons rfl (fun K hK => ?_) AllReady.nil))
        ((with_reducible apply any_store83); rfl; rfl; rfl; rfl; (focus ((repeat' (first | (with_reducible assumption) | ((with_reducible refine heap_last ?_); (focus (first | (simp; done) | omega | (simp; omega)))) | ((with_reducible refine heap_prev ?_ ?_); (focus (first | (simp; done) | omega | (simp; omega)))) | (with_reducible apply sign_heap) | (with_reducible apply row_heap) | (with_reducible apply bit0_heap) | ((with_reducible refine sign_other ?_ ?_); (focus (first | (simp; done) | omega | (simp; omega)))) | ((with_reducible refine row_other ?_ ?_); (focus (first | (simp; done) | omega | (simp; omega)))) | (with_reducible refine drew_heap ?_))); done)); refine hK _ _ ?_; clear hK K)
        (refine wpAny_ready (rs := [3]) (by kernel_rfl) (by simp) (AllReady.cons rfl (fun K hK => ?_) AllReady.nil))
        ((with_reducible apply any_store83); rfl; rfl; rfl; rfl; (focus ((repeat' (first | (with_reducible assumption) | ((with_reducible refine heap_last ?_); (focus (first | (simp; done) | omega | (simp; omega)))) | ((with_reducible refine heap_prev ?_ ?_); (focus (first | (simp; done) | omega | (simp; omega)))) | (with_reducible apply sign_heap) | (with_reducible apply row_heap) | (with_reducible apply bit0_heap) | ((with_reducible refine sign_other ?_ ?_); (focus (first | (simp; done) | omega | (simp; omega)))) | ((with_reducible refine row_other ?_ ?_); (focus (first | (simp; done) | omega | (simp; omega)))) | (with_reducible refine drew_heap ?_))); done)); refine hK _ _ ?_; clear hK K)
        refine wpAny_done (by kernel_rfl) ?_ _
        go_wp2_with ((with_reducible apply FIN2); rfl; rfl; rfl; (focus ((repeat' (first | (with_reducible assumption) | ((with_reducible refine heap_last ?_); (focus (first | (simp; done) | omega | (simp; omega)))) | ((with_reducible refine heap_prev ?_ ?_); (focus (first | (simp; done) | omega | (simp; omega)))) | (with_reducible apply sign_heap) | (with_reducible apply row_heap) | (with_reducible apply bit0_heap) | ((with_reducible refine sign_other ?_ ?_); (focus (first | (simp; done) | omega | (simp; omega)))) | ((with_reducible refine row_other ?_ ?_); (focus (first | (simp; done) | omega | (simp; omega)))) | (with_reducible refine drew_heap ?_))); done)); (focus ((repeat' (first | (with_reducible assumption) | ((with_reducible refine heap_last ?_); (focus (first | (simp; done) | omega | (simp; omega)))) | ((with_reducible refine heap_prev ?_ ?_); (focus (first | (simp; done) | omega | (simp; omega)))) | (with_reducible apply sign_heap) | (with_reducible apply row_heap) | (with_reducible apply bit0_heap) | ((with_reducible refine sign_other ?_ ?_); (focus (first | (simp; done) | omega | (simp; omega)))) | ((with_reducible refine row_other ?_ ?_); (focus (first | (simp; done) | omega | (simp; omega)))) | (with_reducible refine drew_heap ?_))); done)); (focus ((repeat' (first | (with_reducible exact Below.refl _ _) | (with_reducible assumption) | (with_reducible refine Below.alloc ?_ ?_ _) | (with_reducible refine Below.setCell ?_ ?_ _) | (with_reducible refine Below.row ?_ ?_ _) | (with_reducible refine Below.drew ?_) | (with_reducible refine below_drewN ?_ _) | (focus (first | (simp; done) | omega | (simp; omega))))); done)))
end Go.Proofs.Ytdjbnnjcifgnlaa

namespace Go.Proofs.Ytdjbnnjcifgnlaa
open Go.RowKit

theorem high_bit (m : Nat) (hm : m < 2 ^ 136) (h : ∀ j, 64 ≤ j → j < 136 → m.testBit j = false) : m < 2 ^ 64 := by
  apply Nat.lt_pow_two_of_testBit
  intro i hi
  by_cases h2 : i < 136
  · exact h i hi h2
  · exact Nat.testBit_lt_two_pow (Nat.lt_of_lt_of_le hm (Nat.pow_le_pow_right (by omega) (by omega)))
theorem low_bit (m : Nat) (hm : m < 2 ^ 64) (j : Nat) (h : 64 ≤ j) : m.testBit j = false :=
  Nat.testBit_lt_two_pow (Nat.lt_of_lt_of_le hm (Nat.pow_le_pow_right (by omega) h))

set_option maxHeartbeats 4000000 in
set_option maxRecDepth 100000 in
theorem Back_big (m : Nat) (s : Bool) (hm : m < 2 ^ 136) (hb : 2 ^ 64 ≤ m) (w : World) :
    Calls Try.prog 94 #[.agg (NC m s)] w fun e w' => e = .returned (.tuple #[.int .i64 0, .bool false]) ∧ Below w.heap.size w w' := by
  have Hm := Lib.hid hm; clear hm
  have Hb := Lib.hid hb; clear hb
  go_enter Try.func94, Try.ntmps94
  go_wp2
  go_loop [4] (fun i => ∃ k : Nat, 64 ≤ k ∧ k ≤ 136 ∧ i = .int .i64 k ∧ (∀ j, 64 ≤ j → j < k → m.testBit j = false)) (fun i => 136 - (intOf i).toNat)
  case atStart => exact ⟨64, by omega, by omega, rfl, fun j h1 h2 => by omega⟩
  case round =>
    obtain ⟨k, hk0, hk, rfl, hf⟩ := hrel
    have Hf := Lib.hid hf; clear hf
    by_cases hlt : k < 136
    · have g1 := NC_get m s k hlt
      obtain ⟨x, hx⟩ : ∃ x, x = m.testBit k := ⟨_, rfl⟩
      rw [← hx] at g1
      have Hx := Lib.hid hx; clear hx
      cases x
      · go_wp2
        refine ⟨⟨k + 1, by omega, by omega, by go_num, fun j h1 hj => ?_⟩, by simp [intOf]; omega⟩
        by_cases e : j = k
        · subst e; exact Hx.out.symm
        · exact Hf.out j h1 (by omega)
      · go_wp2
        go_ret2
        first | exact ⟨rfl, by (focus ((repeat' (first | (with_reducible exact Below.refl _ _) | (with_reducible assumption) | (with_reducible refine Below.alloc ?_ ?_ _) | (with_reducible refine Below.setCell ?_ ?_ _) | (with_reducible refine Below.row ?_ ?_ _) | (with_reducible refine Below.drew ?_) | (with_reducible refine below_drewN ?_ _) | (focus (first | (simp; done) | omega | (simp; omega))))); done))⟩ | (focus ((repeat' (first | (with_reducible exact Below.refl _ _) | (with_reducible assumption) | (with_reducible refine Below.alloc ?_ ?_ _) | (with_reducible refine Below.setCell ?_ ?_ _) | (with_reducible refine Below.row ?_ ?_ _) | (with_reducible refine Below.drew ?_) | (with_reducible refine below_drewN ?_ _) | (focus (first | (simp; done) | omega | (simp; omega))))); done))
    · exfalso
      obtain rfl : k = 136 := by omega
      have := high_bit m Hm.out Hf.out
      have := Hb.out
      omega

theorem ret_pair {v : Value} {a b : Bool} (h : a = b) : Ending.returned (.tuple #[v, .bool a]) = .returned (.tuple #[v, .bool b]) := by rw [h]
def BackP (x : Int) (ok : Bool) (e : Ending) : Prop := ∃ v, e = .returned (.tuple #[.int .i64 v, .bool ok]) ∧ (ok = true → v = x)
theorem half_step (m j : Nat) (hm : m < 2 ^ 64) : m / 2 ^ j = 2 * (m / 2 ^ (j + 1)) + (if m.testBit j then 1 else 0) ∧ m / 2 ^ j ≤ 18446744073709551615 := by
  constructor
  · rw [div_succ, bit_eq]
    have : m / 2 ^ j % 2 = 0 ∨ m / 2 ^ j % 2 = 1 := by omega
    rcases this with h | h <;> simp [h] <;> omega
  · exact Nat.le_trans (Nat.div_le_self _ _) (by omega)
theorem back_neg (m : Nat) (h1 : 0 < m) (h2 : m ≤ 9223372036854775808) : wrap64 (18446744073709551615 - (m : Int) + 1) = -(m : Int) := by
  unfold wrap64; omega
theorem back_pos (m : Nat) (h2 : m < 9223372036854775808) : wrap64 (m : Int) = (m : Int) := by
  unfold wrap64; omega

set_option maxHeartbeats 4000000 in
set_option maxRecDepth 100000 in
theorem Back_small (m : Nat) (s : Bool) (ok : Bool) (hm : m < 2 ^ 64) (hs : s = true → 0 < m) (hok : ok = if s then decide (m ≤ 9223372036854775808) else decide (m < 9223372036854775808)) (w : World) :
    Calls Try.prog 94 #[.agg (NC m s)] w fun e w' => BackP (if s then -(m : Int) else (m : Int)) ok e ∧ Below w.heap.size w w' := by
  have gs := NC_sign m s
  have Hm := Lib.hid hm; clear hm
  have Hs := Lib.hid hs; clear hs
  have Hok := Lib.hid hok; clear hok
  go_enter Try.func94, Try.ntmps94
  go_wp2
  go_loop [4] (fun i => ∃ k : Nat, 64 ≤ k ∧ k ≤ 136 ∧ i = .int .i64 k) (fun i => 136 - (intOf i).toNat)
  case atStart => exact ⟨64, by omega, by omega, rfl⟩
  case round =>
    obtain ⟨k, hk0, hk, rfl⟩ := hrel
    by_cases hlt : k < 136
    · have g1 := NC_get m s k hlt
      rw [low_bit m Hm.out k hk0] at g1
      go_wp2
      exact ⟨⟨k + 1, by omega, by omega, by go_num⟩, by simp [intOf]; omega⟩
    · obtain rfl : k = 136 := by omega
      go_wp2
      go_loop [5, 6] (fun u i => ∃ k : Nat, k ≤ 64 ∧ i = .int .i64 ((k : Int) - 1) ∧ u = .int .u64 ((m / 2 ^ k : Nat) : Int)) (fun _ i => (intOf i + 1).toNat)
      case atStart => exact ⟨64, by omega, rfl, by rw [Nat.div_eq_of_lt Hm.out]; rfl⟩
      case round =>
        obtain ⟨k, hk, rfl, rfl⟩ := hrel
        by_cases hlt2 : 0 < k
        · obtain ⟨j, rfl⟩ : ∃ j, k = j + 1 := ⟨k - 1, by omega⟩
          rw [show (((j + 1 : Nat) : Int) - 1) = (j : Int) by omega]
          have ⟨h1, h2⟩ := half_step m j Hm.out
          have g1 := NC_get m s j (by omega)
          obtain ⟨q, hq⟩ : ∃ q, q = m / 2 ^ (j + 1) := ⟨_, rfl⟩
          rw [← hq] at h1
          rw [← hq]
          have Hq := Lib.hid hq; clear hq
          have q0 : (0 : Int) ≤ (j : Int) := by omega
          have q1 : (j : Int) < 64 := by omega
          generalize m.testBit j = x at *
          cases x
          · have h3 : (2 * (q : Int)) ≤ 18446744073709551615 := by simp at h1; omega
            have H1 := Lib.hid h1; clear h1 h2
            go_wp2
            exact ⟨⟨j, by omega, rfl, by rw [H1.out]; simp⟩, by simp [intOf]⟩
          · have h3 : (2 * (q : Int)) + 1 ≤ 18446744073709551615 := by simp at h1; omega
            have H1 := Lib.hid h1; clear h1 h2
            go_wp2
            exact ⟨⟨j, by omega, rfl, by rw [H1.out]; simp⟩, by simp [intOf]⟩
        · obtain rfl : k = 0 := by omega
          rw [show m / 2 ^ 0 = m by simp]
          have hm' : (m : Int) ≤ 18446744073709551615 := by have := Hm.out; omega
          have hm0 : (0 : Int) ≤ (m : Int) := by omega
          cases s
          · have hb : decide ((m : Int) < 9223372036854775808) = ok := by rw [Hok.out]; simp; omega
            have HB := Lib.hid hb; clear hb
            go_wp2
            go_ret2
            exact ⟨⟨wrap64 (m : Int), ret_pair HB.out, fun h => back_pos m (by have := HB.out; rw [h] at this; simp at this; omega)⟩, by (focus ((repeat' (first | (with_reducible exact Below.refl _ _) | (with_reducible assumption) | (with_reducible refine Below.alloc ?_ ?_ _) | (with_reducible refine Below.setCell ?_ ?_ _) | (with_reducible refine Below.row ?_ ?_ _) | (with_reducible refine Below.drew ?_) | (with_reducible refine below_drewN ?_ _) | (focus (first | (simp; done) | omega | (simp; omega))))); done))⟩
          · have hpos := Hs.out rfl
            by_cases hle : m ≤ 9223372036854775808
            · have hl2 : (m : Int) ≤ 9223372036854775808 := by omega
              have e0 := back_neg m hpos hle
              have E0 := Lib.hid e0; clear e0
              have hp1 : (1 : Int) ≤ (m : Int) := by omega
              have hk1 : ok = true := by rw [Hok.out]; simp; omega
              have HK1 := Lib.hid hk1; clear hk1
              go_wp2
              go_ret2
              exact ⟨⟨wrap64 (18446744073709551615 - (m : Int) + 1), ret_pair HK1.out.symm, fun _ => E0.out⟩, by (focus ((repeat' (first | (with_reducible exact Below.refl _ _) | (with_reducible assumption) | (with_reducible refine Below.alloc ?_ ?_ _) | (with_reducible refine Below.setCell ?_ ?_ _) | (with_reducible refine Below.row ?_ ?_ _) | (with_reducible refine Below.drew ?_) | (with_reducible refine below_drewN ?_ _) | (focus (first | (simp; done) | omega | (simp; omega))))); done))⟩
            · have hl2 : (9223372036854775808 : Int) < (m : Int) := by omega
              have hk1 : ok = false := by rw [Hok.out]; simp; omega
              have HK1 := Lib.hid hk1; clear hk1
              go_wp2
              go_ret2
              exact ⟨⟨0, ret_pair HK1.out.symm, fun h => by rw [HK1.out] at h; cases h⟩, by (focus ((repeat' (first | (with_reducible exact Below.refl _ _) | (with_reducible assumption) | (with_reducible refine Below.alloc ?_ ?_ _) | (with_reducible refine Below.setCell ?_ ?_ _) | (with_reducible refine Below.row ?_ ?_ _) | (with_reducible refine Below.drew ?_) | (with_reducible refine below_drewN ?_ _) | (focus (first | (simp; done) | omega | (simp; omega))))); done))⟩

set_option maxHeartbeats 4000000 in
set_option maxRecDepth 100000 in
theorem told_c (x : Int) (hx : x.natAbs < 2 ^ 136) (w : World) :
    Calls Try.prog 72 #[.agg (NZ x)] w fun e w' => e = .returned (.tuple #[.int .i64 (tv x), .int .i64 (te x)]) ∧ Below w.heap.size w w' := by
  by_cases hbig : 2 ^ 64 ≤ x.natAbs
  · have e1 := tv_out (x := x) (by unfold InR; omega)
    have e2 := te_out (x := x) (by unfold InR; omega)
    rw [e1, e2]
    clear e1 e2
    have hc := fun w => Back_big x.natAbs (decide (x < 0)) hx hbig w
    have Hc := Lib.hid hc; clear hc hx hbig
    unfold NZ
    go_enter Try.func72, Try.ntmps72
    go_wp2_with (first | ((with_reducible apply load83); rfl; rfl; rfl; (focus ((repeat' (first | (with_reducible assumption) | ((with_reducible refine heap_last ?_); (focus (first | (simp; done) | omega | (simp; omega)))) | ((with_reducible refine heap_prev ?_ ?_); (focus (first | (simp; done) | omega | (simp; omega)))) | (with_reducible apply sign_heap) | (with_reducible apply row_heap) | (with_reducible apply bit0_heap) | ((with_reducible refine sign_other ?_ ?_); (focus (first | (simp; done) | omega | (simp; omega)))) | ((with_reducible refine row_other ?_ ?_); (focus (first | (simp; done) | omega | (simp; omega)))) | (with_reducible refine drew_heap ?_))); done)); skip))
    ((with_reducible refine (Hc.out _).mono ?_); rintro e w1 ⟨rfl, hb1⟩)
    have hB : Below w.heap.size w w1 := Below.trans (by (focus ((repeat' (first | (with_reducible exact Below.refl _ _) | (with_reducible assumption) | (with_reducible refine Below.alloc ?_ ?_ _) | (with_reducible refine Below.setCell ?_ ?_ _) | (with_reducible refine Below.row ?_ ?_ _) | (with_reducible refine Below.drew ?_) | (with_reducible refine below_drewN ?_ _) | (focus (first | (simp; done) | omega | (simp; omega))))); done))) (hb1.mono (by simp))
    clear hb1
    go_wp2
    go_ret2
    first | exact ⟨rfl, hB⟩ | exact hB
  · obtain ⟨ok, hok⟩ : ∃ ok, ok = if decide (x < 0) then decide (x.natAbs ≤ 9223372036854775808) else decide (x.natAbs < 9223372036854775808) := ⟨_, rfl⟩
    have hc := fun w => Back_small x.natAbs (decide (x < 0)) ok (by omega) (by simp; omega) hok w
    have hin : ok = true ↔ InR x := by
      unfold InR; rw [hok]
      by_cases h : x < 0 <;> simp [h] <;> omega
    have hv : (if decide (x < 0) then -(x.natAbs : Int) else (x.natAbs : Int)) = x := by
      by_cases h : x < 0 <;> simp [h] <;> omega
    rw [hv] at hc
    have Hc := Lib.hid hc; clear hc hx hbig hok hv
    unfold NZ
    cases ok
    · have hn : ¬ InR x := fun h => by have := hin.2 h; cases this
      rw [tv_out hn, te_out hn]
      have Hin := Lib.hid hin; clear hin hn
      go_enter Try.func72, Try.ntmps72
      go_wp2_with (first | ((with_reducible apply load83); rfl; rfl; rfl; (focus ((repeat' (first | (with_reducible assumption) | ((with_reducible refine heap_last ?_); (focus (first | (simp; done) | omega | (simp; omega)))) | ((with_reducible refine heap_prev ?_ ?_); (focus (first | (simp; done) | omega | (simp; omega)))) | (with_reducible apply sign_heap) | (with_reducible apply row_heap) | (with_reducible apply bit0_heap) | ((with_reducible refine sign_other ?_ ?_); (focus (first | (simp; done) | omega | (simp; omega)))) | ((with_reducible refine row_other ?_ ?_); (focus (first | (simp; done) | omega | (simp; omega)))) | (with_reducible refine drew_heap ?_))); done)); skip))
      ((with_reducible refine (Hc.out _).mono ?_); rintro e w1 ⟨⟨v, rfl, hv⟩, hb1⟩)
      have hB : Below w.heap.size w w1 := Below.trans (by (focus ((repeat' (first | (with_reducible exact Below.refl _ _) | (with_reducible assumption) | (with_reducible refine Below.alloc ?_ ?_ _) | (with_reducible refine Below.setCell ?_ ?_ _) | (with_reducible refine Below.row ?_ ?_ _) | (with_reducible refine Below.drew ?_) | (with_reducible refine below_drewN ?_ _) | (focus (first | (simp; done) | omega | (simp; omega))))); done))) (hb1.mono (by simp))
      clear hb1 hv
      go_wp2
      go_ret2
      first | exact ⟨rfl, hB⟩ | exact hB
    · have hn : InR x := hin.1 rfl
      rw [tv_in hn, te_in hn]
      have Hin := Lib.hid hin; clear hin hn
      go_enter Try.func72, Try.ntmps72
      go_wp2_with (first | ((with_reducible apply load83); rfl; rfl; rfl; (focus ((repeat' (first | (with_reducible assumption) | ((with_reducible refine heap_last ?_); (focus (first | (simp; done) | omega | (simp; omega)))) | ((with_reducible refine heap_prev ?_ ?_); (focus (first | (simp; done) | omega | (simp; omega)))) | (with_reducible apply sign_heap) | (with_reducible apply row_heap) | (with_reducible apply bit0_heap) | ((with_reducible refine sign_other ?_ ?_); (focus (first | (simp; done) | omega | (simp; omega)))) | ((with_reducible refine row_other ?_ ?_); (focus (first | (simp; done) | omega | (simp; omega)))) | (with_reducible refine drew_heap ?_))); done)); skip))
      ((with_reducible refine (Hc.out _).mono ?_); rintro e w1 ⟨⟨v, rfl, hv⟩, hb1⟩)
      obtain rfl : v = x := hv rfl
      have hB : Below w.heap.size w w1 := Below.trans (by (focus ((repeat' (first | (with_reducible exact Below.refl _ _) | (with_reducible assumption) | (with_reducible refine Below.alloc ?_ ?_ _) | (with_reducible refine Below.setCell ?_ ?_ _) | (with_reducible refine Below.row ?_ ?_ _) | (with_reducible refine Below.drew ?_) | (with_reducible refine below_drewN ?_ _) | (focus (first | (simp; done) | omega | (simp; omega))))); done))) (hb1.mono (by simp))
      clear hb1 hv
      go_wp2
      go_ret2
      first | exact ⟨rfl, hB⟩ | exact hB
end Go.Proofs.Ytdjbnnjcifgnlaa

namespace Go.Proofs.Ytdjbnnjcifgnlaa
open Go.RowKit

theorem Of_z (x : Int) (hx : InR x) (w : World) :
    Calls Try.prog 66 #[.int .i64 x] w fun e w' => e = .returned (.agg (NZ x)) ∧ Below w.heap.size w w' := Of_c x hx.1 hx.2 w
theorem Times_z (x y : Int) (hx : InR x) (hy : InR y) (w : World) :
    Calls Try.prog 65 #[.agg (NZ x), .agg (NZ y)] w fun e w' => e = .returned (.agg (NZ (x * y))) ∧ Below w.heap.size w w' :=
  Times_n x.natAbs y.natAbs (decide (x < 0)) (decide (y < 0)) (x * y).natAbs (decide (x * y < 0)) (by unfold InR at hx; omega) (by unfold InR at hy; omega)
    (Int.natAbs_mul x y)
    (by
      by_cases h0 : x = 0
      · subst h0; simp
      · by_cases h1 : y = 0
        · subst h1; simp
        · have hne : x * y ≠ 0 := Int.mul_ne_zero h0 h1
          rcases Int.lt_or_gt_of_ne h0 with a | a <;> rcases Int.lt_or_gt_of_ne h1 with b | b
          · have := Int.mul_pos_of_neg_of_neg a b; simp [a, b, hne]; omega
          · have := Int.mul_neg_of_neg_of_pos a b; simp [a, hne, show ¬ y < 0 by omega, this]
          · have := Int.mul_neg_of_pos_of_neg a b; simp [b, hne, show ¬ x < 0 by omega, this]
          · have := Int.mul_pos a b; simp [show ¬ x < 0 by omega, show ¬ y < 0 by omega]; omega) w
theorem mul_rng {x y : Int} (hx : InR x) (hy : InR y) : (x * y).natAbs ≤ 2 ^ 126 := by
  rw [Int.natAbs_mul]
  have h1 : x.natAbs ≤ 2 ^ 63 := by unfold InR at hx; omega
  have h2 : y.natAbs ≤ 2 ^ 63 := by unfold InR at hy; omega
  exact Nat.le_trans (Nat.mul_le_mul h1 h2) (by rw [← Nat.pow_add]; exact Nat.le_refl _)

end Go.Proofs.Ytdjbnnjcifgnlaa

namespace Go.Proofs.Ytdjbnnjcifgnlaa
open Go.RowKit

def hiOf (x : Int) : Int := x / 18446744073709551616
def loOf (x : Int) : Int := x % 18446744073709551616
abbrev PV (x : Int) : Value := .agg #[.int .i64 (hiOf x), .int .u64 (loOf x)]
abbrev PC (x : Int) : Obj := .cells #[.int .i64 (hiOf x), .int .u64 (loOf x)] 97
/-- A number that a product has room for. -/
def Rm (x : Int) : Prop := -170141183460469231731687303715884105728 ≤ x ∧ x < 170141183460469231731687303715884105728
theorem hi_bd {x : Int} (h : Rm x) : -9223372036854775808 ≤ hiOf x ∧ hiOf x ≤ 9223372036854775807 := by unfold Rm at h; unfold hiOf; omega
theorem lo_bd (x : Int) : 0 ≤ loOf x ∧ loOf x ≤ 18446744073709551615 := by unfold loOf; omega
theorem hi_lo (x : Int) : x = hiOf x * 18446744073709551616 + loOf x := by unfold hiOf loOf; omega
theorem wide_hi (n : Int) (h0 : -9223372036854775808 ≤ n) (h1 : n ≤ 9223372036854775807) : n / 9223372036854775808 = hiOf n := by unfold hiOf; omega
theorem wide_lo (n : Int) : IntKind.u64.wrap n = loOf n := by unfold loOf; rw [IntKind.wrap_u64]

theorem add64_run (x y c : Int) (hx : 0 ≤ x) (hy : 0 ≤ y) (hc0 : 0 ≤ c) (hc : c ≤ 1) (w : World) :
    (callFunc 91 #[.int .u64 x, .int .u64 y, .int .u64 c]).run Try.prog w = .ok (.value (.tuple #[.int .u64 ((x + y + c) % 18446744073709551616), .int .u64 ((x + y + c) / 18446744073709551616)])) w := by
  rw [run_callFunc_extern Try.func91 (by kernel_rfl) (by kernel_rfl) (by kernel_rfl) (e := add64Entry) (by kernel_rfl), run_add64 x y c hx hy hc0 hc]
  rfl
def sub64Entry : Array Value → Sem Value := fun args => do
  let (x, y, b) ← Extern.MathBitsCarry.three "Sub64" args
  pure (Extern.MathBitsCarry.pair ((x + Extern.MathBitsCarry.m64 - y - b) % Extern.MathBitsCarry.m64) (if x < y + b then 1 else 0))
theorem run_sub64n {P : Program} (x y b : Nat) (hb : b ≤ 1) (w : World) :
    (sub64Entry #[.int .u64 x, .int .u64 y, .int .u64 b]).run P w =
      .ok (.tuple #[.int .u64 (((x + 18446744073709551616 - y - b) % 18446744073709551616 : Nat) : Int), .int .u64 ((if x < y + b then 1 else 0 : Nat) : Int)]) w := by
  have : b = 0 ∨ b = 1 := by omega
  rcases this with rfl | rfl <;> rfl
theorem sub64_run (x y c : Int) (hx : 0 ≤ x) (hx1 : x ≤ 18446744073709551615) (hy : 0 ≤ y) (hy1 : y ≤ 18446744073709551615) (hc0 : 0 ≤ c) (hc : c ≤ 1) (w : World) :
    (callFunc 92 #[.int .u64 x, .int .u64 y, .int .u64 c]).run Try.prog w = .ok (.value (.tuple #[.int .u64 ((x - y - c) % 18446744073709551616), .int .u64 (-((x - y - c) / 18446744073709551616))])) w := by
  obtain ⟨X, rfl⟩ := Int.eq_ofNat_of_zero_le hx
  obtain ⟨Y, rfl⟩ := Int.eq_ofNat_of_zero_le hy
  obtain ⟨C, rfl⟩ := Int.eq_ofNat_of_zero_le hc0
  have e1 : (((X + 18446744073709551616 - Y - C) % 18446744073709551616 : Nat) : Int) = ((X : Int) - Y - C) % 18446744073709551616 := by omega
  have e2 : ((if X < Y + C then 1 else 0 : Nat) : Int) = -(((X : Int) - Y - C) / 18446744073709551616) := by split <;> omega
  rw [run_callFunc_extern Try.func92 (by kernel_rfl) (by kernel_rfl) (by kernel_rfl) (e := sub64Entry) (by kernel_rfl), run_sub64n X Y C (by omega), e1, e2]
  rfl

set_option maxHeartbeats 400000 in
theorem wide_c (n : Int) (h0 : -9223372036854775808 ≤ n) (h1 : n ≤ 9223372036854775807) (w : World) :
    Calls Try.prog 59 #[.int .i64 n] w fun e w' => e = .returned (PV n) ∧ w.alloc (PC n) = w' := by
  have e1 := wide_hi n h0 h1
  have e2 := wide_lo n
  go_enter Try.func59, Try.ntmps59
  go_wp2
  go_returns
  exact ⟨rfl, rfl⟩

theorem plus_math (x y lo c hi : Int) (hz : Rm (x + y)) (hlo : lo = (loOf x + loOf y + 0) % 18446744073709551616) (hc : c = (loOf x + loOf y + 0) / 18446744073709551616)
    (hhi : hi = (IntKind.u64.wrap (hiOf x) + IntKind.u64.wrap (hiOf y) + c) % 18446744073709551616) : wrap64 hi = hiOf (x + y) ∧ lo = loOf (x + y) := by
  have h1 := hi_lo x
  have h2 := hi_lo y
  have h3 := lo_bd x
  have h4 := lo_bd y
  unfold Rm at hz
  simp only [IntKind.wrap_u64] at hhi
  generalize hiOf x = a at *
  generalize hiOf y = b at *
  generalize loOf x = p at *
  generalize loOf y = q at *
  unfold wrap64 hiOf loOf
  subst h1 h2 hlo hc hhi
  constructor <;> omega
theorem minus_math (x y lo c hi : Int) (hz : Rm (x - y)) (hlo : lo = (loOf x - loOf y - 0) % 18446744073709551616) (hc : c = -((loOf x - loOf y - 0) / 18446744073709551616))
    (hhi : hi = (IntKind.u64.wrap (hiOf x) - IntKind.u64.wrap (hiOf y) - c) % 18446744073709551616) : wrap64 hi = hiOf (x - y) ∧ lo = loOf (x - y) := by
  have h1 := hi_lo x
  have h2 := hi_lo y
  have h3 := lo_bd x
  have h4 := lo_bd y
  unfold Rm at hz
  simp only [IntKind.wrap_u64] at hhi
  generalize hiOf x = a at *
  generalize hiOf y = b at *
  generalize loOf x = p at *
  generalize loOf y = q at *
  unfold wrap64 hiOf loOf
  subst h1 h2 hlo hc hhi
  constructor <;> omega

theorem wrap_u64_bd (z : Int) : 0 ≤ IntKind.u64.wrap z ∧ IntKind.u64.wrap z ≤ 18446744073709551615 := by simp only [IntKind.wrap_u64]; omega

set_option maxHeartbeats 400000 in
theorem plus_c (x y : Int) (hx : Rm x) (hy : Rm y) (hz : Rm (x + y)) (w : World) :
    Calls Try.prog 62 #[PV x, PV y] w fun e w' => e = .returned (PV (x + y)) ∧ ((w.alloc (PC x)).alloc (PC y)).alloc (PC (x + y)) = w' := by
  have ⟨x1, x2⟩ := hi_bd hx
  have ⟨x3, x4⟩ := lo_bd x
  have ⟨y1, y2⟩ := hi_bd hy
  have ⟨y3, y4⟩ := lo_bd y
  obtain ⟨lo, hlo⟩ : ∃ lo, lo = (loOf x + loOf y + 0) % 18446744073709551616 := ⟨_, rfl⟩
  obtain ⟨c, hc⟩ : ∃ c, c = (loOf x + loOf y + 0) / 18446744073709551616 := ⟨_, rfl⟩
  obtain ⟨hi, hhi⟩ : ∃ hi, hi = (IntKind.u64.wrap (hiOf x) + IntKind.u64.wrap (hiOf y) + c) % 18446744073709551616 := ⟨_, rfl⟩
  obtain ⟨c2, hc2⟩ : ∃ c2, c2 = (IntKind.u64.wrap (hiOf x) + IntKind.u64.wrap (hiOf y) + c) / 18446744073709551616 := ⟨_, rfl⟩
  have c0 : 0 ≤ c := by omega
  have c1 : c ≤ 1 := by omega
  have r1 := add64_run (loOf x) (loOf y) 0 x3 y3 (by omega) (by omega)
  rw [← hlo, ← hc] at r1
  have r2 := add64_run (IntKind.u64.wrap (hiOf x)) (IntKind.u64.wrap (hiOf y)) c (wrap_u64_bd _).1 (wrap_u64_bd _).1 c0 c1
  rw [← hhi, ← hc2] at r2
  obtain ⟨m1, m2⟩ := plus_math x y lo c hi hz hlo hc hhi
  clear hlo hc hhi hc2
  go_enter Try.func62, Try.ntmps62
  go_wp2
  go_returns
  exact ⟨rfl, rfl⟩

set_option maxHeartbeats 400000 in
theorem minus_c (x y : Int) (hx : Rm x) (hy : Rm y) (hz : Rm (x - y)) (w : World) :
    Calls Try.prog 63 #[PV x, PV y] w fun e w' => e = .returned (PV (x - y)) ∧ ((w.alloc (PC x)).alloc (PC y)).alloc (PC (x - y)) = w' := by
  have ⟨x1, x2⟩ := hi_bd hx
  have ⟨x3, x4⟩ := lo_bd x
  have ⟨y1, y2⟩ := hi_bd hy
  have ⟨y3, y4⟩ := lo_bd y
  obtain ⟨lo, hlo⟩ : ∃ lo, lo = (loOf x - loOf y - 0) % 18446744073709551616 := ⟨_, rfl⟩
  obtain ⟨c, hc⟩ : ∃ c, c = -((loOf x - loOf y - 0) / 18446744073709551616) := ⟨_, rfl⟩
  obtain ⟨hi, hhi⟩ : ∃ hi, hi = (IntKind.u64.wrap (hiOf x) - IntKind.u64.wrap (hiOf y) - c) % 18446744073709551616 := ⟨_, rfl⟩
  obtain ⟨c2, hc2⟩ : ∃ c2, c2 = -((IntKind.u64.wrap (hiOf x) - IntKind.u64.wrap (hiOf y) - c) / 18446744073709551616) := ⟨_, rfl⟩
  have c0 : 0 ≤ c := by omega
  have c1 : c ≤ 1 := by omega
  have r1 := sub64_run (loOf x) (loOf y) 0 x3 x4 y3 y4 (by omega) (by omega)
  rw [← hlo, ← hc] at r1
  have r2 := sub64_run (IntKind.u64.wrap (hiOf x)) (IntKind.u64.wrap (hiOf y)) c (wrap_u64_bd _).1 (wrap_u64_bd _).2 (wrap_u64_bd _).1 (wrap_u64_bd _).2 c0 c1
  rw [← hhi, ← hc2] at r2
  obtain ⟨m1, m2⟩ := minus_math x y lo c hi hz hlo hc hhi
  clear hlo hc hhi hc2
  go_enter Try.func63, Try.ntmps63
  go_wp2
  go_returns
  exact ⟨rfl, rfl⟩
end Go.Proofs.Ytdjbnnjcifgnlaa

namespace Go.Proofs.Ytdjbnnjcifgnlaa
open Go.RowKit

theorem pv_eq {x y : Int} : (hiOf x = hiOf y ∧ loOf x = loOf y) ↔ x = y := by
  constructor
  · rintro ⟨a, b⟩
    rw [hi_lo x, hi_lo y, a, b]
  · rintro rfl; exact ⟨rfl, rfl⟩
set_option maxHeartbeats 1000000 in
theorem narrow_c (x : Int) (hx : Rm x) (w : World) :
    Calls Try.prog 64 #[PV x] w fun e w' => e = .returned (.tuple #[.int .i64 (tv x), .int .i64 (te x)]) ∧ Below w.heap.size w w' := by
  have ⟨x3, x4⟩ := lo_bd x
  have ⟨x5, x6⟩ := hi_bd hx
  by_cases hin : InR x
  · rw [tv_in hin, te_in hin]
    have h0 := hin.1
    have h1 := hin.2
    have e1 : wrap64 (loOf x) = x := by unfold wrap64 loOf; omega
    clear hin hx
    go_enter Try.func64, Try.ntmps64
    go_wp2_with fail
    go_region_with (go_at_call 59; refine (wide_c _ h0 h1 _).mono ?_; rintro e w' ⟨rfl, rfl⟩)
    all_goals
      go_wp2
      go_ret2
      first | exact ⟨rfl, by go_grown⟩ | go_grown
  · rw [tv_out hin, te_out hin]
    obtain ⟨n, hn⟩ : ∃ n, n = wrap64 (loOf x) := ⟨_, rfl⟩
    have h0 : -9223372036854775808 ≤ n := by rw [hn]; unfold wrap64; omega
    have h1 : n ≤ 9223372036854775807 := by rw [hn]; unfold wrap64; omega
    have hl : loOf n = loOf x := by rw [hn]; unfold wrap64 loOf; omega
    have hne : (hiOf x == hiOf n) = false := by
      simp only [beq_eq_false_iff_ne]
      intro h
      have := pv_eq.1 ⟨h, hl.symm⟩
      exact hin (by rw [this]; exact ⟨h0, h1⟩)
    have e1 := hn.symm
    have Hl := Lib.hid hl; clear hl hn hin hx
    go_enter Try.func64, Try.ntmps64
    go_wp2_with fail
    go_region_with (go_at_call 59; refine (wide_c _ h0 h1 _).mono ?_; rintro e w' ⟨rfl, rfl⟩)
    all_goals
      go_wp2
      go_ret2
      first | exact ⟨rfl, by go_grown⟩ | go_grown

theorem rm_in {n : Int} (h : InR n) : Rm n := by unfold InR at h; unfold Rm; omega

set_option maxHeartbeats 1000000 in
theorem size_c (x : Int) (hx : Rm x) (hn : Rm (-x)) (w : World) :
    Calls Try.prog 58 #[PV x] w fun e w' => e = .returned (PV (x.natAbs : Int)) ∧ Below w.heap.size w w' := by
  have ⟨x3, x4⟩ := lo_bd x
  have ⟨x5, x6⟩ := hi_bd hx
  by_cases hneg : x < 0
  · have hh : hiOf x < 0 := by unfold hiOf; omega
    rw [show ((x.natAbs : Nat) : Int) = -x by omega]
    have Hm : Hid (Rm (0 - x)) := by show Rm _; rw [show 0 - x = -x by omega]; exact hn
    have Hx := Lib.hid hx
    have H0 : Hid (Rm 0) := by show Rm 0; unfold Rm; omega
    clear hx hn hneg
    go_enter Try.func58, Try.ntmps58
    go_wp2_with fail
    go_region_with (first | (go_at_call 59; refine (wide_c 0 (by omega) (by omega) _).mono ?_; rintro e w' ⟨rfl, rfl⟩) | (go_at_call 63; refine (minus_c 0 x H0.out Hx.out Hm.out _).mono ?_; rintro e w' ⟨rfl, rfl⟩))
    all_goals
      go_wp2
      go_returns
      first | exact ⟨rfl, by go_grown⟩ | go_grown
  · have hh : ¬ hiOf x < 0 := by unfold hiOf; omega
    rw [show ((x.natAbs : Nat) : Int) = x by omega]
    clear hx hn hneg
    go_enter Try.func58, Try.ntmps58
    go_wp2
    go_returns
    first | exact ⟨rfl, by go_grown⟩ | go_grown
end Go.Proofs.Ytdjbnnjcifgnlaa

namespace Go.Proofs.Ytdjbnnjcifgnlaa
open Go.RowKit

theorem ret_two {k k' : IntKind} {a b c d : Int} (h : a = b) (h' : c = d) : Ending.returned (.tuple #[.int k a, .int k' c]) = .returned (.tuple #[.int k b, .int k' d]) := by rw [h, h']

set_option maxHeartbeats 1000000 in
theorem Mul64_c (x y : Int) (x0 : 0 ≤ x) (x1 : x ≤ 18446744073709551615) (y0 : 0 ≤ y) (y1 : y ≤ 18446744073709551615) (w : World) :
    Calls Try.prog 88 #[.int .u64 x, .int .u64 y] w fun e w' => e = .returned (.tuple #[.int .u64 (x * y / 18446744073709551616), .int .u64 (x * y % 18446744073709551616)]) ∧ w = w' := by
  have e1 := and_low32 x x0 (by omega)
  have e2 := and_low32 y y0 (by omega)
  go_enter Try.func88, Try.ntmps88
  go_wp2
  go_ret2
  refine ⟨ret_two ?_ (IntKind.wrap_u64 _), rfl⟩
  rw [and_low32 _ (wrap_u64_bd _).1 (by have := (wrap_u64_bd (IntKind.u64.wrap (x / 4294967296 * (y % 4294967296)) + IntKind.u64.wrap (x % 4294967296 * (y % 4294967296)) / 4294967296)).2; omega)]
  simp only [IntKind.wrap_u64]
  exact mul64_arith x y x0 (by omega) y0 (by omega)

theorem times_rm {a b : Int} (ha : InR a) (hb : InR b) : Rm (a * b) := by
  have h1 : a.natAbs ≤ 2 ^ 63 := by unfold InR at ha; omega
  have h2 : b.natAbs ≤ 2 ^ 63 := by unfold InR at hb; omega
  have h := Nat.mul_le_mul h1 h2
  rw [← Int.natAbs_mul] at h
  unfold Rm
  omega
theorem times_neg {a b : Int} (ha : InR a) (hb : InR b) : Rm (-(a * b)) := by
  have h1 : a.natAbs ≤ 2 ^ 63 := by unfold InR at ha; omega
  have h2 : b.natAbs ≤ 2 ^ 63 := by unfold InR at hb; omega
  have h := Nat.mul_le_mul h1 h2
  rw [← Int.natAbs_mul] at h
  unfold Rm
  omega
theorem times_math (a b : Int) (ha : InR a) (hb : InR b) (h l : Int) (hh : h = IntKind.u64.wrap a * IntKind.u64.wrap b / 18446744073709551616) (hl : l = IntKind.u64.wrap a * IntKind.u64.wrap b % 18446744073709551616) :
    l = loOf (a * b) ∧
    (0 ≤ a → 0 ≤ b → wrap64 h = hiOf (a * b)) ∧ (a < 0 → 0 ≤ b → wrap64 (wrap64 h - b) = hiOf (a * b)) ∧
    (0 ≤ a → b < 0 → wrap64 (wrap64 h - a) = hiOf (a * b)) ∧ (a < 0 → b < 0 → wrap64 (wrap64 (wrap64 h - b) - a) = hiOf (a * b)) := by
  have hr := times_rm ha hb
  have hb' := hi_bd hr
  have hz := hi_lo (a * b)
  have hlo := lo_bd (a * b)
  have wa : IntKind.u64.wrap a = if a < 0 then a + 18446744073709551616 else a := by rw [IntKind.wrap_u64]; unfold InR at ha; split <;> omega
  have wb : IntKind.u64.wrap b = if b < 0 then b + 18446744073709551616 else b := by rw [IntKind.wrap_u64]; unfold InR at hb; split <;> omega
  rw [wa, wb] at hh hl
  clear wa wb
  have key : (if a < 0 then a + 18446744073709551616 else a) * (if b < 0 then b + 18446744073709551616 else b) = a * b + 18446744073709551616 * ((if a < 0 then b else 0) + (if b < 0 then a else 0) + (if a < 0 then (if b < 0 then 18446744073709551616 else 0) else 0)) := by
    split <;> split <;> grind
  rw [key] at hh hl
  clear key hr
  generalize hiOf (a * b) = H at *
  generalize loOf (a * b) = L at *
  generalize a * b = p at *
  unfold InR at ha hb
  unfold wrap64
  refine ⟨?_, ?_, ?_, ?_, ?_⟩
  · omega
  · intro h1 h2
    rw [if_neg (by omega), if_neg (by omega), if_neg (by omega)] at hh
    omega
  · intro h1 h2
    rw [if_pos h1, if_neg (by omega), if_pos h1, if_neg (by omega)] at hh
    omega
  · intro h1 h2
    rw [if_neg (by omega), if_pos h2, if_neg (by omega)] at hh
    omega
  · intro h1 h2
    rw [if_pos h1, if_pos h2, if_pos h1, if_pos h2] at hh
    omega

set_option maxHeartbeats 1000000 in
theorem times_c (a b : Int) (ha : InR a) (hb : InR b) (w : World) :
    Calls Try.prog 57 #[.int .i64 a, .int .i64 b] w fun e w' => e = .returned (PV (a * b)) ∧ Below w.heap.size w w' := by
  obtain ⟨h, hh⟩ : ∃ h, h = IntKind.u64.wrap a * IntKind.u64.wrap b / 18446744073709551616 := ⟨_, rfl⟩
  obtain ⟨l, hl⟩ : ∃ l, l = IntKind.u64.wrap a * IntKind.u64.wrap b % 18446744073709551616 := ⟨_, rfl⟩
  obtain ⟨m0, m1, m2, m3, m4⟩ := times_math a b ha hb h l hh hl
  have hc := fun w => Mul64_c (IntKind.u64.wrap a) (IntKind.u64.wrap b) (wrap_u64_bd _).1 (wrap_u64_bd _).2 (wrap_u64_bd _).1 (wrap_u64_bd _).2 w
  rw [← hh, ← hl, m0] at hc
  have a0 := ha.1
  have a1 := ha.2
  have b0 := hb.1
  have b1 := hb.2
  clear hh hl m0 ha hb
  have Hc := Lib.hid hc; clear hc
  by_cases sa : a < 0
  · by_cases sb : b < 0
    · have e := m4 sa sb
      clear m1 m2 m3 m4
      go_enter Try.func57, Try.ntmps57
      go_wp2_with (go_at_call 88; (with_reducible refine (Hc.out _).mono ?_); rintro e w' ⟨rfl, rfl⟩)
      go_returns
      first | exact ⟨rfl, by go_grown⟩ | go_grown
    · have e := m2 sa (by omega)
      rw [show IntKind.u64.wrap b = b by rw [IntKind.wrap_u64]; omega] at Hc
      clear m1 m2 m3 m4
      go_enter Try.func57, Try.ntmps57
      go_wp2_with (go_at_call 88; (with_reducible refine (Hc.out _).mono ?_); rintro e w' ⟨rfl, rfl⟩)
      go_returns
      first | exact ⟨rfl, by go_grown⟩ | go_grown
  · by_cases sb : b < 0
    · have e := m3 (by omega) sb
      rw [show IntKind.u64.wrap a = a by rw [IntKind.wrap_u64]; omega] at Hc
      clear m1 m2 m3 m4
      go_enter Try.func57, Try.ntmps57
      go_wp2_with (go_at_call 88; (with_reducible refine (Hc.out _).mono ?_); rintro e w' ⟨rfl, rfl⟩)
      go_returns
      first | exact ⟨rfl, by go_grown⟩ | go_grown
    · have e := m1 (by omega) (by omega)
      rw [show IntKind.u64.wrap a = a by rw [IntKind.wrap_u64]; omega, show IntKind.u64.wrap b = b by rw [IntKind.wrap_u64]; omega] at Hc
      clear m1 m2 m3 m4
      go_enter Try.func57, Try.ntmps57
      go_wp2_with (go_at_call 88; (with_reducible refine (Hc.out _).mono ?_); rintro e w' ⟨rfl, rfl⟩)
      go_returns
      first | exact ⟨rfl, by go_grown⟩ | go_grown
end Go.Proofs.Ytdjbnnjcifgnlaa

namespace Go.Proofs.Ytdjbnnjcifgnlaa
open Go.RowKit

theorem below_math (x y : Int) : (x < y ↔ (hiOf x < hiOf y ∨ hiOf x = hiOf y ∧ loOf x < loOf y)) := by
  have h1 := hi_lo x
  have h2 := hi_lo y
  have h3 := lo_bd x
  have h4 := lo_bd y
  omega

set_option maxHeartbeats 1000000 in
theorem pbelow_c (x y : Int) (b : Bool) (hb : b = decide (x < y)) (w : World) :
    Calls Try.prog 90 #[PV x, PV y] w fun e w' => e = .returned (.bool b) ∧ (w.alloc (PC x)).alloc (PC y) = w' := by
  have hm := below_math x y
  have Hb := Lib.hid hb; clear hb
  by_cases he : hiOf x = hiOf y
  · have e1 : (hiOf x == hiOf y) = true := by simp [he]
    have hd : decide (loOf x < loOf y) = b := by rw [Hb.out]; simp only [decide_eq_decide]; omega
    have Hd := Lib.hid hd; clear hd
    have He := Lib.hid he; clear he
    have Hm := Lib.hid hm; clear hm
    have e2 : (hiOf x != hiOf y) = false := by simp [He.out]
    go_enter Try.func90, Try.ntmps90
    go_wp2
    go_ret
    exact ⟨ret_bool Hd.out, rfl⟩
  · have e1 : (hiOf x == hiOf y) = false := by simp [he]
    have hd : decide (hiOf x < hiOf y) = b := by rw [Hb.out]; simp only [decide_eq_decide]; omega
    have Hd := Lib.hid hd; clear hd
    have He := Lib.hid he; clear he
    have Hm := Lib.hid hm; clear hm
    have e2 : (hiOf x != hiOf y) = true := by simp [He.out]
    go_enter Try.func90, Try.ntmps90
    go_wp2
    go_ret
    exact ⟨ret_bool Hd.out, rfl⟩

end Go.Proofs.Ytdjbnnjcifgnlaa

namespace Go.Proofs.Ytdjbnnjcifgnlaa
open Go.RowKit

/-- Is a quotient that leaves the rest r, of d, rounded away from 0? -/
def awayB (round : Int) (neg odd : Bool) (r d : Nat) : Bool :=
  if r = 0 then false else if round = 2 then !neg else if round = 1 then neg else decide (d < 2 * r) || (decide (2 * r = d) && odd)

set_option maxHeartbeats 2000000 in
theorem outward_zero (round : Int) (neg odd : Bool) (r d : Nat) (h0 : r = 0) (w : World) :
    Calls Try.prog 61 #[.int .i64 round, .bool neg, .bool odd, PV (r : Int), PV (d : Int)] w fun e w' => e = .returned (.bool false) ∧ Below w.heap.size w w' := by
  subst h0
  go_enter Try.func61, Try.ntmps61
  go_wp2_with fail
  go_region_with (go_at_call 59; refine (wide_c 0 (by omega) (by omega) _).mono ?_; rintro e w' ⟨rfl, rfl⟩)
  all_goals
    go_wp2
    go_ret
    first | exact ⟨rfl, by go_grown⟩ | go_grown

set_option maxHeartbeats 2000000 in
theorem outward_dir (round : Int) (neg odd : Bool) (r d : Nat) (hr : r < 2 ^ 64) (hr0 : r ≠ 0) (b : Bool) (h : round = 2 ∧ b = (!neg) ∨ round = 1 ∧ b = neg) (w : World) :
    Calls Try.prog 61 #[.int .i64 round, .bool neg, .bool odd, PV (r : Int), PV (d : Int)] w fun e w' => e = .returned (.bool b) ∧ Below w.heap.size w w' := by
  have e0 : (hiOf (r : Int) == hiOf 0) = true := by unfold hiOf; simp; omega
  have e1 : (loOf (r : Int) == loOf 0) = false := by unfold loOf; simp; omega
  clear hr hr0
  rcases h with ⟨rfl, rfl⟩ | ⟨rfl, rfl⟩
  all_goals
    go_enter Try.func61, Try.ntmps61
    go_wp2_with fail
    go_region_with (go_at_call 59; refine (wide_c 0 (by omega) (by omega) _).mono ?_; rintro e w' ⟨rfl, rfl⟩)
    all_goals
      go_wp2
      go_ret
      first | exact ⟨rfl, by go_grown⟩ | go_grown

set_option maxHeartbeats 4000000 in
theorem outward_even (neg odd : Bool) (r d : Nat) (hr : r < 2 ^ 64) (hd : d < 2 ^ 64) (hr0 : r ≠ 0) (b : Bool) (hb : b = (decide (d < 2 * r) || (decide (2 * r = d) && odd))) (w : World) :
    Calls Try.prog 61 #[.int .i64 3, .bool neg, .bool odd, PV (r : Int), PV (d : Int)] w fun e w' => e = .returned (.bool b) ∧ Below w.heap.size w w' := by
  have e0 : (hiOf (r : Int) == hiOf 0) = true := by unfold hiOf; simp; omega
  have e1 : (loOf (r : Int) == loOf 0) = false := by unfold loOf; simp; omega
  have R1 : Hid (Rm (r : Int)) := by show Rm _; unfold Rm; omega
  have R2 : Hid (Rm ((r : Int) + r)) := by show Rm _; unfold Rm; omega
  have Hd := Lib.hid hd
  clear hr hr0 hd
  have Hb := Lib.hid hb; clear hb
  go_enter Try.func61, Try.ntmps61
  go_wp2_with fail
  go_region_held3 (fun w' => w'.cell? ⟨w.heap.size, 0, none⟩ = some (.int .i64 (hiOf (r : Int))) ∧ w'.cell? ⟨w.heap.size, 1, none⟩ = some (.int .u64 (loOf (r : Int)))) (go_keep) (first | (go_at_call 59; refine (wide_c 0 (by omega) (by omega) _).mono ?_; rintro e w' ⟨rfl, rfl⟩))
  go_wp2_with fail
  go_region_held3 (fun w' => w'.cell? ⟨w.heap.size, 0, none⟩ = some (.int .i64 (hiOf (r : Int))) ∧ w'.cell? ⟨w.heap.size, 1, none⟩ = some (.int .u64 (loOf (r : Int))) ∧ w'.cell? ⟨w.heap.size + 1, 0, none⟩ = some (.int .i64 (hiOf (d : Int))) ∧ w'.cell? ⟨w.heap.size + 1, 1, none⟩ = some (.int .u64 (loOf (d : Int)))) (first | (refine ⟨?_, ?_, ?_, ?_⟩ <;> (focus ((with_reducible apply cell_heap); (focus ((repeat' (first | (with_reducible assumption) | ((with_reducible refine heap_last ?_); (focus (first | (simp; done) | omega | (simp; omega)))) | ((with_reducible refine heap_prev ?_ ?_); (focus (first | (simp; done) | omega | (simp; omega)))) | (with_reducible refine drew_heap ?_) | (with_reducible refine drewN_heap ?_))); done)); rfl))) | go_keep) (first | (go_at_call 62; refine (plus_c _ _ R1.out R1.out R2.out _).mono ?_; rintro e w' ⟨rfl, rfl⟩))
  all_goals
    go_wp2_with fail
    rcases Nat.lt_trichotomy d (2 * r) with h | h | h
    · have H : Hid (true = decide ((d : Int) < (r : Int) + r)) := by show _ = _; simp; omega
      ((with_reducible refine (pbelow_c (d : Int) ((r : Int) + r) true H.out _).mono ?_); rintro e w' ⟨rfl, rfl⟩)
      have hb : b = true := by rw [Hb.out]; simp [h]
      have HB := Lib.hid hb; clear hb h
      go_wp2_with fail
      go_ret
      exact ⟨ret_bool HB.out.symm, by go_grown⟩
    · have H : Hid (false = decide ((d : Int) < (r : Int) + r)) := by show _ = _; simp; omega
      ((with_reducible refine (pbelow_c (d : Int) ((r : Int) + r) false H.out _).mono ?_); rintro e w' ⟨rfl, rfl⟩)
      have hb : b = odd := by rw [Hb.out, h]; simp
      have k1 : (hiOf ((r : Int) + r) == hiOf (d : Int)) = true := by rw [show (r : Int) + r = (d : Int) by omega]; simp
      have k2 : (loOf ((r : Int) + r) == loOf (d : Int)) = true := by rw [show (r : Int) + r = (d : Int) by omega]; simp
      have HB := Lib.hid hb; clear hb h
      go_wp2_with fail
      go_ret
      exact ⟨ret_bool HB.out.symm, by go_grown⟩
    · have H : Hid (false = decide ((d : Int) < (r : Int) + r)) := by show _ = _; simp; omega
      ((with_reducible refine (pbelow_c (d : Int) ((r : Int) + r) false H.out _).mono ?_); rintro e w' ⟨rfl, rfl⟩)
      have hb : b = false := by rw [Hb.out]; simp; omega
      have k1 : (hiOf ((r : Int) + r) == hiOf (d : Int)) = true := by have := Hd.out; unfold hiOf; simp; omega
      have k2 : (loOf ((r : Int) + r) == loOf (d : Int)) = false := by have := Hd.out; unfold loOf; simp; omega
      have HB := Lib.hid hb; clear hb h
      go_wp2_with fail
      go_ret
      exact ⟨ret_bool HB.out.symm, by go_grown⟩

theorem outward_c (round : Int) (neg odd : Bool) (r d : Nat) (hr : r < 2 ^ 64) (hd : d < 2 ^ 64) (h : round = 1 ∨ round = 2 ∨ round = 3) (b : Bool) (hb : b = awayB round neg odd r d) (w : World) :
    Calls Try.prog 61 #[.int .i64 round, .bool neg, .bool odd, PV (r : Int), PV (d : Int)] w fun e w' => e = .returned (.bool b) ∧ Below w.heap.size w w' := by
  subst hb
  unfold awayB
  by_cases h0 : r = 0
  · rw [if_pos h0]
    exact outward_zero round neg odd r d h0 w
  · rw [if_neg h0]
    rcases h with h | h | h
    · rw [if_neg (by omega), if_pos h]
      exact outward_dir round neg odd r d hr h0 neg (Or.inr ⟨h, rfl⟩) w
    · rw [if_pos h]
      exact outward_dir round neg odd r d hr h0 (!neg) (Or.inl ⟨h, rfl⟩) w
    · rw [if_neg (by omega), if_neg (by omega)]
      subst h
      exact outward_even neg odd r d hr hd h0 _ rfl w
end Go.Proofs.Ytdjbnnjcifgnlaa

namespace Go.Proofs.Ytdjbnnjcifgnlaa
open Go.RowKit

/-- Whole numbers by a whole number, rounded. -/
def divR (a b c round : Int) : Int :=
  let n := (a * b).natAbs
  let d := c.natAbs
  let neg := decide (a * b < 0) != decide (c < 0)
  let q := n / d + if awayB round neg (decide (n / d % 2 = 1)) (n % d) d then 1 else 0
  if neg then -(q : Int) else (q : Int)

theorem and_one (q : Nat) (_h : q < 18446744073709551616) : (bits BinOp.and IntKind.u64 (q : Int) 1 == 1) = decide (q % 2 = 1) := by
  rw [and_one_u64 (q : Int) (by omega) (by omega)]
  rw [Bool.eq_iff_iff]; simp; omega

theorem small_hi (q : Nat) (h : q < 2 ^ 64) : hiOf (q : Int) = 0 := by unfold hiOf; omega
theorem small_lo (q : Nat) (h : q < 2 ^ 64) : loOf (q : Int) = (q : Int) := by unfold loOf; omega

theorem drewN_heap {w : World} {g n : Nat} {p : Obj} (h : w.heap[g]? = some p) : (w.drewN n).heap[g]? = some p := h
theorem info75 (x : Int) : (Try.prog.info? 97).map (·.size) = some (#[Value.int .i64 (hiOf x), .int .u64 (loOf x)] : Array Value).size := by
  show _ = some 2
  kernel_rfl
theorem below_setRow' {B g : Nat} {w0 w : World} (hb : Below B w0 w) (hBg : B ≤ g) (cs : Array Value) : Below B w0 (w.setRow g cs) :=
  hb.trans ⟨rfl, rfl, rfl, by simp [World.setRow], fun k hk => setRow_other w g k cs (by omega)⟩
theorem any_store75 {ops : Array Oper} {o : Oper} {a : Act} {w : World} {Q : Exit → Act → World → Prop} {K : Act → World → Prop} {E : Prop} (hgd : Region.wanted o (yielded ops a.tmps) = true) (x y : Operand) (ho : o.op = .store 97 x y) (g : Nat) (m old : Int)
    (hx : a.eval x = .pointer (some ⟨g, 0, none⟩)) (hy : a.eval y = PV m) (hg : w.heap[g]? = some (PC old))
    (h : ∀ V : World, V.heap[g]? = some (PC m) → V.heap.size = w.heap.size → (∀ B w0, Below B w0 w → B ≤ g → Below B w0 V) → K (a.put o.dst undef) V) :
    if Region.wanted o (yielded ops a.tmps) = true then Oper.wp Try.prog o a w K Q else E := by
  rw [if_pos hgd]
  refine wp_store_row 97 x y ho g _ hx hy 97 _ hg (info75 m) rfl (by simp [Value.oneCell']) (h _ (setRow_heap w g _ _ _ _ hg) (size_setRow _ _ _) (fun B w0 hb hB => below_setRow' hb hB _))
end Go.Proofs.Ytdjbnnjcifgnlaa

namespace Go.Proofs.Ytdjbnnjcifgnlaa
open Go.RowKit

set_option maxHeartbeats 4000000 in
set_option maxRecDepth 100000 in
theorem Div_core1 (a b c round p : Int) (n d q r : Nat) (neg odd aw : Bool) (c1 : -9223372036854775808 ≤ c) (c2 : c ≤ 9223372036854775807) (e0 : (c == 0) = false) (hround : round = 1)
    (hprm : Rm p) (hneg : neg = (decide (p < 0) != decide (c < 0))) (hodd : (bits BinOp.and IntKind.u64 (q : Int) 1 == 1) = odd) (hq : q < 2 ^ 64) (hr : r < 2 ^ 64) (hhi : hiOf (n : Int) < loOf (d : Int)) (hhi0 : 0 ≤ hiOf (n : Int)) (hhi1 : hiOf (n : Int) ≤ 9223372036854775807)
    (HT : Hid (∀ w, Calls Try.prog 57 #[.int .i64 a, .int .i64 b] w fun e w' => e = .returned (PV p) ∧ Below w.heap.size w w'))
    (HS : Hid (∀ w, Calls Try.prog 58 #[PV p] w fun e w' => e = .returned (PV (n : Int)) ∧ Below w.heap.size w w'))
    (HSc : Hid (∀ w, Calls Try.prog 58 #[PV c] w fun e w' => e = .returned (PV (d : Int)) ∧ Below w.heap.size w w'))
    (HO : Hid (∀ w, Calls Try.prog 61 #[.int .i64 round, .bool neg, .bool odd, .agg #[.int .i64 0, .int .u64 (r : Int)], PV (d : Int)] w fun e w' => e = .returned (.bool aw) ∧ Below w.heap.size w w'))
    (HD : Hid (∀ w, Calls Try.prog 60 #[.int .u64 (hiOf (n : Int)), .int .u64 (loOf (n : Int)), .int .u64 (loOf (d : Int))] w fun e w' => e = .returned (.tuple #[.int .u64 (q : Int), .int .u64 (r : Int)]) ∧ ∃ nq, w.drewN nq = w'))
    (m : Nat) (hm : m = q + if aw then 1 else 0) (res : Int) (hres : res = if neg then -(m : Int) else (m : Int)) (w : World) :
    Calls Try.prog 43 #[.int .i64 a, .int .i64 b, .int .i64 c, .int .i64 round] w fun e w' => e = .returned (.tuple #[.int .i64 (tv res), .int .i64 (te res)]) ∧ Below w.heap.size w w' := by
  have Hpr := Lib.hid hprm
  have hsgn : hiOf p < 0 ↔ p < 0 := by unfold hiOf; omega
  have Rq : Hid (Rm (q : Int)) := by show Rm _; unfold Rm; omega
  have Rq1 : Hid (Rm ((q : Int) + 1)) := by show Rm _; unfold Rm; omega
  have R1 : Hid (Rm 1) := by show Rm _; unfold Rm; omega
  have R0 : Hid (Rm 0) := by show Rm _; unfold Rm; omega
  have Rm1 : Hid (Rm (m : Int)) := by show Rm _; rw [hm]; unfold Rm; split <;> omega
  have Rm2 : Hid (Rm (0 - (m : Int))) := by show Rm _; rw [hm]; unfold Rm; split <;> omega
  have hq64' : (q : Int) ≤ 18446744073709551615 := by omega
  have hr64' : (r : Int) ≤ 18446744073709551615 := by omega
  have q00 : (0 : Int) ≤ (q : Int) := by omega
  have r00 : (0 : Int) ≤ (r : Int) := by omega
  have Hq0 := Lib.hid (small_hi q hq)
  have Hq1 := Lib.hid (small_lo q hq)
  clear hprm hq hr
  have hng : (decide (p < 0) == decide (c < 0)) = !neg := by rw [hneg]; cases decide (p < 0) <;> cases decide (c < 0) <;> rfl
  clear hneg
  have Hres := Lib.hid hres; clear hres
  have Hm := Lib.hid hm; clear hm
  subst hround
  go_enter Try.func43, Try.ntmps43
  go_wp2_with fail
  ((with_reducible refine (HT.out _).mono ?_); rintro e w1 ⟨rfl, hb1⟩)
  have Hb1 := Lib.hid hb1; clear hb1
  go_wp2_with fail
  ((with_reducible refine (HS.out _).mono ?_); rintro e w2 ⟨rfl, hb2⟩)
  go_wp2_with fail
  ((with_reducible refine (wide_c c c1 c2 _).mono ?_); rintro e w' ⟨rfl, rfl⟩)
  have z2 : w1.heap.size + 1 ≤ w2.heap.size := by have := hb2.size; simp at this; omega
  have B2 : Hid (Below w.heap.size w w2) := by
    show Below _ _ _
    have s1 := Hb1.out.size
    exact Below.trans (Below.alloc Hb1.out s1 _) (hb2.mono (by simp; omega))
  clear hb2
  go_wp2_with fail
  ((with_reducible refine (HSc.out _).mono ?_); rintro e w3 ⟨rfl, hb3⟩)
  have B3 : Hid (Below w.heap.size w w3) := by
    show Below _ _ _
    have s1 := B2.out.size
    exact Below.trans (Below.alloc B2.out s1 _) (hb3.mono (by simp; omega))
  clear hb3 B2 z2 Hb1
  go_wp2_with fail
  ((with_reducible refine (HD.out _).mono ?_); rintro e w' ⟨rfl, nq, rfl⟩)
  go_wp2_with fail
  ((with_reducible refine (HO.out _).mono ?_); rintro e w4 ⟨rfl, hb4⟩)
  have z4 : w3.heap.size + 4 ≤ w4.heap.size := by have := hb4.size; simp at this; omega
  have hB : Below w.heap.size w w4 := by
    have s1 := B3.out.size
    have b3 := B3.out
    exact Below.trans (by (focus ((repeat' (first | (with_reducible exact Below.refl _ _) | (with_reducible assumption) | (with_reducible refine Below.alloc ?_ ?_ _) | (with_reducible refine Below.setCell ?_ ?_ _) | (with_reducible refine Below.row ?_ ?_ _) | (with_reducible refine Below.drew ?_) | (with_reducible refine below_drewN ?_ _) | (focus (first | (simp; done) | omega | (simp; omega))))); done))) (hb4.mono (by simp; omega))
  have y : w4.heap[w3.heap.size + 1 + 1]? = some (PC (q : Int)) := by
    rw [hb4.block (w3.heap.size + 1 + 1) (by simp)]
    show _ = some (Obj.cells #[.int .i64 (hiOf (q : Int)), .int .u64 (loOf (q : Int))] 97)
    rw [Hq0.out, Hq1.out]
    (focus ((repeat' (first | (with_reducible assumption) | ((with_reducible refine heap_last ?_); (focus (first | (simp; done) | omega | (simp; omega)))) | ((with_reducible refine heap_prev ?_ ?_); (focus (first | (simp; done) | omega | (simp; omega)))) | (with_reducible refine drew_heap ?_) | (with_reducible refine drewN_heap ?_))); done))
  have qlt : w3.heap.size + 1 + 1 < w4.heap.size := by omega
  have hz4 : w.heap.size ≤ w4.heap.size := hB.size
  clear hb4 z4 hng hsgn hhi hhi0 hhi1 hodd
  cases aw
  · have hm : m = q := by have := Hm.out; simp at this; omega
    clear Hm
    subst hm
    clear Hq0 Hq1
    have k0 : w4.cell? ⟨w3.heap.size + 1 + 1, 0, none⟩ = some (.int .i64 (hiOf (m : Int))) := cell_heap y rfl
    have k1 : w4.cell? ⟨w3.heap.size + 1 + 1, 1, none⟩ = some (.int .u64 (loOf (m : Int))) := cell_heap y rfl
    have f0 : w4.frozen? ⟨w3.heap.size + 1 + 1, 0, none⟩ = false := frozen_of_row _ _ _ _ _ y
    have f1 : w4.frozen? ⟨w3.heap.size + 1 + 1, 1, none⟩ = false := frozen_of_row _ _ _ _ _ y
    have qle : w.heap.size ≤ w3.heap.size + 1 + 1 := by have := B3.out.size; omega
    have hzV : w.heap.size ≤ w4.heap.size := hB.size
    have HF := Lib.hid y
    clear y
    cases neg
    · have hm0 : (m : Int) = res := by have := Hres.out; simp at this; omega
      have HN : Hid (∀ w, Calls Try.prog 64 #[PV (m : Int)] w fun e w' => e = .returned (.tuple #[.int .i64 (tv res), .int .i64 (te res)]) ∧ Below w.heap.size w w') := by
        intro w; rw [← hm0]; exact narrow_c _ Rm1.out w
      clear hm0
      go_wp2_with fail
      ((with_reducible refine (HN.out _).mono ?_); rintro e w5 ⟨rfl, hb5⟩)
      have hB5 : Below w.heap.size w w5 := Below.trans (by first | exact hB | exact hB.drew) (hb5.mono (by first | exact hzV | (simp; omega)))
      clear hb5
      go_wp2_with fail
      go_ret2
      first | exact ⟨rfl, hB5⟩ | exact hB5
    · have hm0 : 0 - (m : Int) = res := by have := Hres.out; simp at this; omega
      have HN : Hid (∀ w, Calls Try.prog 64 #[PV res] w fun e w' => e = .returned (.tuple #[.int .i64 (tv res), .int .i64 (te res)]) ∧ Below w.heap.size w w') := by
        intro w; exact narrow_c _ (by rw [← hm0]; exact Rm2.out) w
      have HM2 : Hid (∀ w, Calls Try.prog 63 #[PV 0, PV (m : Int)] w fun e w' => e = .returned (PV res) ∧ ((w.alloc (PC 0)).alloc (PC (m : Int))).alloc (PC res) = w') := by
        intro w; rw [← hm0]; exact minus_c _ _ R0.out Rm1.out Rm2.out w
      have j0 : (w4.alloc (PC 0)).drew.cell? ⟨w3.heap.size + 1 + 1, 0, none⟩ = some (.int .i64 (hiOf (m : Int))) := by have := HF.out; (focus ((with_reducible apply cell_heap); (focus ((repeat' (first | (with_reducible assumption) | ((with_reducible refine heap_last ?_); (focus (first | (simp; done) | omega | (simp; omega)))) | ((with_reducible refine heap_prev ?_ ?_); (focus (first | (simp; done) | omega | (simp; omega)))) | (with_reducible refine drew_heap ?_) | (with_reducible refine drewN_heap ?_))); done)); rfl))
      have j1 : (w4.alloc (PC 0)).drew.cell? ⟨w3.heap.size + 1 + 1, 1, none⟩ = some (.int .u64 (loOf (m : Int))) := by have := HF.out; (focus ((with_reducible apply cell_heap); (focus ((repeat' (first | (with_reducible assumption) | ((with_reducible refine heap_last ?_); (focus (first | (simp; done) | omega | (simp; omega)))) | ((with_reducible refine heap_prev ?_ ?_); (focus (first | (simp; done) | omega | (simp; omega)))) | (with_reducible refine drew_heap ?_) | (with_reducible refine drewN_heap ?_))); done)); rfl))
      clear hm0
      go_wp2_with fail
      refine wp_region_any (by kernel_rfl) ?_
      change wpAny _ _ _ _ _ _ _ (World.drew _)
      (refine wpAny_ready (rs := [0, 1]) (by kernel_rfl) (by simp) (AllReady.cons rfl (fun K hK => ?_) (AllReady.cons rfl (fun K hK => ?_) AllReady.nil)))
      · go_simp
        ((with_reducible refine (wide_c 0 (by omega) (by omega) _).mono ?_); rintro e w' ⟨rfl, rfl⟩)
        refine hK _ _ ?_
        clear hK K
        (refine wpAny_ready (rs := [1]) (by kernel_rfl) (by simp) (AllReady.cons rfl (fun K hK => ?_) AllReady.nil))
        go_simp
        refine hK _ _ ?_
        clear hK K
        (refine wpAny_ready (rs := [2]) (by kernel_rfl) (by simp) (AllReady.cons rfl (fun K hK => ?_) AllReady.nil))
        go_simp
        ((with_reducible refine (HM2.out _).mono ?_); rintro e w' ⟨rfl, rfl⟩)
        refine hK _ _ ?_
        clear hK K
        (refine wpAny_ready (rs := [3]) (by kernel_rfl) (by simp) (AllReady.cons rfl (fun K hK => ?_) AllReady.nil))
        have hF := HF.out
        refine any_store75 rfl _ _ rfl (w3.heap.size + 1 + 1) res (m : Int) rfl rfl (by (focus ((repeat' (first | (with_reducible assumption) | ((with_reducible refine heap_last ?_); (focus (first | (simp; done) | omega | (simp; omega)))) | ((with_reducible refine heap_prev ?_ ?_); (focus (first | (simp; done) | omega | (simp; omega)))) | (with_reducible refine drew_heap ?_) | (with_reducible refine drewN_heap ?_))); done))) ?_
        intro U hU sU bU
        refine hK _ _ ?_
        clear hK K
        refine wpAny_done (by kernel_rfl) ?_ _
        have BU : Below w.heap.size w U := bU _ _ (by (focus ((repeat' (first | (with_reducible exact Below.refl _ _) | (with_reducible assumption) | (with_reducible refine Below.alloc ?_ ?_ _) | (with_reducible refine Below.setCell ?_ ?_ _) | (with_reducible refine Below.row ?_ ?_ _) | (with_reducible refine Below.drew ?_) | (with_reducible refine below_drewN ?_ _) | (focus (first | (simp; done) | omega | (simp; omega))))); done))) qle
        have u0 : U.cell? ⟨w3.heap.size + 1 + 1, 0, none⟩ = some (.int .i64 (hiOf res)) := cell_heap hU rfl
        have u1 : U.cell? ⟨w3.heap.size + 1 + 1, 1, none⟩ = some (.int .u64 (loOf res)) := cell_heap hU rfl
        have zU := BU.size
        clear hU sU bU hF j0 j1 k0 k1 f0 f1
        go_wp2_with fail
        ((with_reducible refine (HN.out _).mono ?_); rintro e w5 ⟨rfl, hb5⟩)
        have hB5 : Below w.heap.size w w5 := BU.trans (hb5.mono zU)
        clear hb5
        go_wp2_with fail
        go_ret2
        first | exact ⟨rfl, hB5⟩ | exact hB5
      · go_simp
        refine hK _ _ ?_
        clear hK K
        (refine wpAny_ready (rs := [0]) (by kernel_rfl) (by simp) (AllReady.cons rfl (fun K hK => ?_) AllReady.nil))
        go_simp
        ((with_reducible refine (wide_c 0 (by omega) (by omega) _).mono ?_); rintro e w' ⟨rfl, rfl⟩)
        refine hK _ _ ?_
        clear hK K
        (refine wpAny_ready (rs := [2]) (by kernel_rfl) (by simp) (AllReady.cons rfl (fun K hK => ?_) AllReady.nil))
        go_simp
        ((with_reducible refine (HM2.out _).mono ?_); rintro e w' ⟨rfl, rfl⟩)
        refine hK _ _ ?_
        clear hK K
        (refine wpAny_ready (rs := [3]) (by kernel_rfl) (by simp) (AllReady.cons rfl (fun K hK => ?_) AllReady.nil))
        have hF := HF.out
        refine any_store75 rfl _ _ rfl (w3.heap.size + 1 + 1) res (m : Int) rfl rfl (by (focus ((repeat' (first | (with_reducible assumption) | ((with_reducible refine heap_last ?_); (focus (first | (simp; done) | omega | (simp; omega)))) | ((with_reducible refine heap_prev ?_ ?_); (focus (first | (simp; done) | omega | (simp; omega)))) | (with_reducible refine drew_heap ?_) | (with_reducible refine drewN_heap ?_))); done))) ?_
        intro U hU sU bU
        refine hK _ _ ?_
        clear hK K
        refine wpAny_done (by kernel_rfl) ?_ _
        have BU : Below w.heap.size w U := bU _ _ (by (focus ((repeat' (first | (with_reducible exact Below.refl _ _) | (with_reducible assumption) | (with_reducible refine Below.alloc ?_ ?_ _) | (with_reducible refine Below.setCell ?_ ?_ _) | (with_reducible refine Below.row ?_ ?_ _) | (with_reducible refine Below.drew ?_) | (with_reducible refine below_drewN ?_ _) | (focus (first | (simp; done) | omega | (simp; omega))))); done))) qle
        have u0 : U.cell? ⟨w3.heap.size + 1 + 1, 0, none⟩ = some (.int .i64 (hiOf res)) := cell_heap hU rfl
        have u1 : U.cell? ⟨w3.heap.size + 1 + 1, 1, none⟩ = some (.int .u64 (loOf res)) := cell_heap hU rfl
        have zU := BU.size
        clear hU sU bU hF j0 j1 k0 k1 f0 f1
        go_wp2_with fail
        ((with_reducible refine (HN.out _).mono ?_); rintro e w5 ⟨rfl, hb5⟩)
        have hB5 : Below w.heap.size w w5 := BU.trans (hb5.mono zU)
        clear hb5
        go_wp2_with fail
        go_ret2
        first | exact ⟨rfl, hB5⟩ | exact hB5
  · have hm : (q : Int) + 1 = (m : Int) := by have := Hm.out; simp at this; omega
    have HP1 : Hid (∀ w, Calls Try.prog 62 #[PV (q : Int), PV 1] w fun e w' => e = .returned (PV (m : Int)) ∧ ((w.alloc (PC (q : Int))).alloc (PC 1)).alloc (PC (m : Int)) = w') := by
      intro w; rw [← hm]; exact plus_c _ _ Rq.out R1.out Rq1.out w
    clear hm
    have k0 : w4.cell? ⟨w3.heap.size + 1 + 1, 0, none⟩ = some (.int .i64 (hiOf (q : Int))) := cell_heap y rfl
    have k1 : w4.cell? ⟨w3.heap.size + 1 + 1, 1, none⟩ = some (.int .u64 (loOf (q : Int))) := cell_heap y rfl
    have j0 : (w4.alloc (PC 1)).drew.cell? ⟨w3.heap.size + 1 + 1, 0, none⟩ = some (.int .i64 (hiOf (q : Int))) := by (focus ((with_reducible apply cell_heap); (focus ((repeat' (first | (with_reducible assumption) | ((with_reducible refine heap_last ?_); (focus (first | (simp; done) | omega | (simp; omega)))) | ((with_reducible refine heap_prev ?_ ?_); (focus (first | (simp; done) | omega | (simp; omega)))) | (with_reducible refine drew_heap ?_) | (with_reducible refine drewN_heap ?_))); done)); rfl))
    have j1 : (w4.alloc (PC 1)).drew.cell? ⟨w3.heap.size + 1 + 1, 1, none⟩ = some (.int .u64 (loOf (q : Int))) := by (focus ((with_reducible apply cell_heap); (focus ((repeat' (first | (with_reducible assumption) | ((with_reducible refine heap_last ?_); (focus (first | (simp; done) | omega | (simp; omega)))) | ((with_reducible refine heap_prev ?_ ?_); (focus (first | (simp; done) | omega | (simp; omega)))) | (with_reducible refine drew_heap ?_) | (with_reducible refine drewN_heap ?_))); done)); rfl))
    have HY := Lib.hid y; clear y
    go_wp2_with fail
    refine wp_region_any (by kernel_rfl) ?_
    change wpAny _ _ _ _ _ _ _ (World.drew _)
    (refine wpAny_ready (rs := [0, 1]) (by kernel_rfl) (by simp) (AllReady.cons rfl (fun K hK => ?_) (AllReady.cons rfl (fun K hK => ?_) AllReady.nil)))
    · go_simp
      refine hK _ _ ?_
      clear hK K
      (refine wpAny_ready (rs := [1]) (by kernel_rfl) (by simp) (AllReady.cons rfl (fun K hK => ?_) AllReady.nil))
      go_simp
      ((with_reducible refine (wide_c 1 (by omega) (by omega) _).mono ?_); rintro e w' ⟨rfl, rfl⟩)
      refine hK _ _ ?_
      clear hK K
      (refine wpAny_ready (rs := [2]) (by kernel_rfl) (by simp) (AllReady.cons rfl (fun K hK => ?_) AllReady.nil))
      go_simp
      ((with_reducible refine (HP1.out _).mono ?_); rintro e w' ⟨rfl, rfl⟩)
      refine hK _ _ ?_
      clear hK K
      (refine wpAny_ready (rs := [3]) (by kernel_rfl) (by simp) (AllReady.cons rfl (fun K hK => ?_) AllReady.nil))
      have y := HY.out
      refine any_store75 rfl _ _ rfl (w3.heap.size + 1 + 1) (m : Int) (q : Int) rfl rfl (by (focus ((repeat' (first | (with_reducible assumption) | ((with_reducible refine heap_last ?_); (focus (first | (simp; done) | omega | (simp; omega)))) | ((with_reducible refine heap_prev ?_ ?_); (focus (first | (simp; done) | omega | (simp; omega)))) | (with_reducible refine drew_heap ?_) | (with_reducible refine drewN_heap ?_))); done))) ?_
      intro V hV sV bV
      refine hK _ _ ?_
      clear hK K
      refine wpAny_done (by kernel_rfl) ?_ _
      have BV : Below w.heap.size w V := bV _ _ (by (focus ((repeat' (first | (with_reducible exact Below.refl _ _) | (with_reducible assumption) | (with_reducible refine Below.alloc ?_ ?_ _) | (with_reducible refine Below.setCell ?_ ?_ _) | (with_reducible refine Below.row ?_ ?_ _) | (with_reducible refine Below.drew ?_) | (with_reducible refine below_drewN ?_ _) | (focus (first | (simp; done) | omega | (simp; omega))))); done))) (by have := B3.out.size; omega)
      have qltV : w3.heap.size + 1 + 1 < V.heap.size := by rw [sV]; simp; omega
      clear y k0 k1 j0 j1 sV bV HY
      have HBV := Lib.hid BV
      have k0 : V.cell? ⟨w3.heap.size + 1 + 1, 0, none⟩ = some (.int .i64 (hiOf (m : Int))) := cell_heap hV rfl
      have k1 : V.cell? ⟨w3.heap.size + 1 + 1, 1, none⟩ = some (.int .u64 (loOf (m : Int))) := cell_heap hV rfl
      have f0 : V.frozen? ⟨w3.heap.size + 1 + 1, 0, none⟩ = false := frozen_of_row _ _ _ _ _ hV
      have f1 : V.frozen? ⟨w3.heap.size + 1 + 1, 1, none⟩ = false := frozen_of_row _ _ _ _ _ hV
      have qle : w.heap.size ≤ w3.heap.size + 1 + 1 := by have := B3.out.size; omega
      have hzV : w.heap.size ≤ V.heap.size := BV.size
      have HF := Lib.hid hV
      clear hV
      cases neg
      · have hm0 : (m : Int) = res := by have := Hres.out; simp at this; omega
        have HN : Hid (∀ w, Calls Try.prog 64 #[PV (m : Int)] w fun e w' => e = .returned (.tuple #[.int .i64 (tv res), .int .i64 (te res)]) ∧ Below w.heap.size w w') := by
          intro w; rw [← hm0]; exact narrow_c _ Rm1.out w
        clear hm0
        go_wp2_with fail
        ((with_reducible refine (HN.out _).mono ?_); rintro e w5 ⟨rfl, hb5⟩)
        have hB5 : Below w.heap.size w w5 := Below.trans (by first | exact BV | exact BV.drew) (hb5.mono (by first | exact hzV | (simp; omega)))
        clear hb5
        go_wp2_with fail
        go_ret2
        first | exact ⟨rfl, hB5⟩ | exact hB5
      · have hm0 : 0 - (m : Int) = res := by have := Hres.out; simp at this; omega
        have HN : Hid (∀ w, Calls Try.prog 64 #[PV res] w fun e w' => e = .returned (.tuple #[.int .i64 (tv res), .int .i64 (te res)]) ∧ Below w.heap.size w w') := by
          intro w; exact narrow_c _ (by rw [← hm0]; exact Rm2.out) w
        have HM2 : Hid (∀ w, Calls Try.prog 63 #[PV 0, PV (m : Int)] w fun e w' => e = .returned (PV res) ∧ ((w.alloc (PC 0)).alloc (PC (m : Int))).alloc (PC res) = w') := by
          intro w; rw [← hm0]; exact minus_c _ _ R0.out Rm1.out Rm2.out w
        have j0 : (V.alloc (PC 0)).drew.cell? ⟨w3.heap.size + 1 + 1, 0, none⟩ = some (.int .i64 (hiOf (m : Int))) := by have := HF.out; (focus ((with_reducible apply cell_heap); (focus ((repeat' (first | (with_reducible assumption) | ((with_reducible refine heap_last ?_); (focus (first | (simp; done) | omega | (simp; omega)))) | ((with_reducible refine heap_prev ?_ ?_); (focus (first | (simp; done) | omega | (simp; omega)))) | (with_reducible refine drew_heap ?_) | (with_reducible refine drewN_heap ?_))); done)); rfl))
        have j1 : (V.alloc (PC 0)).drew.cell? ⟨w3.heap.size + 1 + 1, 1, none⟩ = some (.int .u64 (loOf (m : Int))) := by have := HF.out; (focus ((with_reducible apply cell_heap); (focus ((repeat' (first | (with_reducible assumption) | ((with_reducible refine heap_last ?_); (focus (first | (simp; done) | omega | (simp; omega)))) | ((with_reducible refine heap_prev ?_ ?_); (focus (first | (simp; done) | omega | (simp; omega)))) | (with_reducible refine drew_heap ?_) | (with_reducible refine drewN_heap ?_))); done)); rfl))
        clear hm0
        go_wp2_with fail
        refine wp_region_any (by kernel_rfl) ?_
        change wpAny _ _ _ _ _ _ _ (World.drew _)
        (refine wpAny_ready (rs := [0, 1]) (by kernel_rfl) (by simp) (AllReady.cons rfl (fun K hK => ?_) (AllReady.cons rfl (fun K hK => ?_) AllReady.nil)))
        · go_simp
          ((with_reducible refine (wide_c 0 (by omega) (by omega) _).mono ?_); rintro e w' ⟨rfl, rfl⟩)
          refine hK _ _ ?_
          clear hK K
          (refine wpAny_ready (rs := [1]) (by kernel_rfl) (by simp) (AllReady.cons rfl (fun K hK => ?_) AllReady.nil))
          go_simp
          refine hK _ _ ?_
          clear hK K
          (refine wpAny_ready (rs := [2]) (by kernel_rfl) (by simp) (AllReady.cons rfl (fun K hK => ?_) AllReady.nil))
          go_simp
          ((with_reducible refine (HM2.out _).mono ?_); rintro e w' ⟨rfl, rfl⟩)
          refine hK _ _ ?_
          clear hK K
          (refine wpAny_ready (rs := [3]) (by kernel_rfl) (by simp) (AllReady.cons rfl (fun K hK => ?_) AllReady.nil))
          have hF := HF.out
          refine any_store75 rfl _ _ rfl (w3.heap.size + 1 + 1) res (m : Int) rfl rfl (by (focus ((repeat' (first | (with_reducible assumption) | ((with_reducible refine heap_last ?_); (focus (first | (simp; done) | omega | (simp; omega)))) | ((with_reducible refine heap_prev ?_ ?_); (focus (first | (simp; done) | omega | (simp; omega)))) | (with_reducible refine drew_heap ?_) | (with_reducible refine drewN_heap ?_))); done))) ?_
          intro U hU sU bU
          refine hK _ _ ?_
          clear hK K
          refine wpAny_done (by kernel_rfl) ?_ _
          have BU : Below w.heap.size w U := bU _ _ (by (focus ((repeat' (first | (with_reducible exact Below.refl _ _) | (with_reducible assumption) | (with_reducible refine Below.alloc ?_ ?_ _) | (with_reducible refine Below.setCell ?_ ?_ _) | (with_reducible refine Below.row ?_ ?_ _) | (with_reducible refine Below.drew ?_) | (with_reducible refine below_drewN ?_ _) | (focus (first | (simp; done) | omega | (simp; omega))))); done))) qle
          have u0 : U.cell? ⟨w3.heap.size + 1 + 1, 0, none⟩ = some (.int .i64 (hiOf res)) := cell_heap hU rfl
          have u1 : U.cell? ⟨w3.heap.size + 1 + 1, 1, none⟩ = some (.int .u64 (loOf res)) := cell_heap hU rfl
          have zU := BU.size
          clear hU sU bU hF j0 j1 k0 k1 f0 f1
          go_wp2_with fail
          ((with_reducible refine (HN.out _).mono ?_); rintro e w5 ⟨rfl, hb5⟩)
          have hB5 : Below w.heap.size w w5 := BU.trans (hb5.mono zU)
          clear hb5
          go_wp2_with fail
          go_ret2
          first | exact ⟨rfl, hB5⟩ | exact hB5
        · go_simp
          refine hK _ _ ?_
          clear hK K
          (refine wpAny_ready (rs := [0]) (by kernel_rfl) (by simp) (AllReady.cons rfl (fun K hK => ?_) AllReady.nil))
          go_simp
          ((with_reducible refine (wide_c 0 (by omega) (by omega) _).mono ?_); rintro e w' ⟨rfl, rfl⟩)
          refine hK _ _ ?_
          clear hK K
          (refine wpAny_ready (rs := [2]) (by kernel_rfl) (by simp) (AllReady.cons rfl (fun K hK => ?_) AllReady.nil))
          go_simp
          ((with_reducible refine (HM2.out _).mono ?_); rintro e w' ⟨rfl, rfl⟩)
          refine hK _ _ ?_
          clear hK K
          (refine wpAny_ready (rs := [3]) (by kernel_rfl) (by simp) (AllReady.cons rfl (fun K hK => ?_) AllReady.nil))
          have hF := HF.out
          refine any_store75 rfl _ _ rfl (w3.heap.size + 1 + 1) res (m : Int) rfl rfl (by (focus ((repeat' (first | (with_reducible assumption) | ((with_reducible refine heap_last ?_); (focus (first | (simp; done) | omega | (simp; omega)))) | ((with_reducible refine heap_prev ?_ ?_); (focus (first | (simp; done) | omega | (simp; omega)))) | (with_reducible refine drew_heap ?_) | (with_reducible refine drewN_heap ?_))); done))) ?_
          intro U hU sU bU
          refine hK _ _ ?_
          clear hK K
          refine wpAny_done (by kernel_rfl) ?_ _
          have BU : Below w.heap.size w U := bU _ _ (by (focus ((repeat' (first | (with_reducible exact Below.refl _ _) | (with_reducible assumption) | (with_reducible refine Below.alloc ?_ ?_ _) | (with_reducible refine Below.setCell ?_ ?_ _) | (with_reducible refine Below.row ?_ ?_ _) | (with_reducible refine Below.drew ?_) | (with_reducible refine below_drewN ?_ _) | (focus (first | (simp; done) | omega | (simp; omega))))); done))) qle
          have u0 : U.cell? ⟨w3.heap.size + 1 + 1, 0, none⟩ = some (.int .i64 (hiOf res)) := cell_heap hU rfl
          have u1 : U.cell? ⟨w3.heap.size + 1 + 1, 1, none⟩ = some (.int .u64 (loOf res)) := cell_heap hU rfl
          have zU := BU.size
          clear hU sU bU hF j0 j1 k0 k1 f0 f1
          go_wp2_with fail
          ((with_reducible refine (HN.out _).mono ?_); rintro e w5 ⟨rfl, hb5⟩)
          have hB5 : Below w.heap.size w w5 := BU.trans (hb5.mono zU)
          clear hb5
          go_wp2_with fail
          go_ret2
          first | exact ⟨rfl, hB5⟩ | exact hB5
    · go_simp
      ((with_reducible refine (wide_c 1 (by omega) (by omega) _).mono ?_); rintro e w' ⟨rfl, rfl⟩)
      refine hK _ _ ?_
      clear hK K
      (refine wpAny_ready (rs := [0]) (by kernel_rfl) (by simp) (AllReady.cons rfl (fun K hK => ?_) AllReady.nil))
      go_simp
      refine hK _ _ ?_
      clear hK K
      (refine wpAny_ready (rs := [2]) (by kernel_rfl) (by simp) (AllReady.cons rfl (fun K hK => ?_) AllReady.nil))
      go_simp
      ((with_reducible refine (HP1.out _).mono ?_); rintro e w' ⟨rfl, rfl⟩)
      refine hK _ _ ?_
      clear hK K
      (refine wpAny_ready (rs := [3]) (by kernel_rfl) (by simp) (AllReady.cons rfl (fun K hK => ?_) AllReady.nil))
      have y := HY.out
      refine any_store75 rfl _ _ rfl (w3.heap.size + 1 + 1) (m : Int) (q : Int) rfl rfl (by (focus ((repeat' (first | (with_reducible assumption) | ((with_reducible refine heap_last ?_); (focus (first | (simp; done) | omega | (simp; omega)))) | ((with_reducible refine heap_prev ?_ ?_); (focus (first | (simp; done) | omega | (simp; omega)))) | (with_reducible refine drew_heap ?_) | (with_reducible refine drewN_heap ?_))); done))) ?_
      intro V hV sV bV
      refine hK _ _ ?_
      clear hK K
      refine wpAny_done (by kernel_rfl) ?_ _
      have BV : Below w.heap.size w V := bV _ _ (by (focus ((repeat' (first | (with_reducible exact Below.refl _ _) | (with_reducible assumption) | (with_reducible refine Below.alloc ?_ ?_ _) | (with_reducible refine Below.setCell ?_ ?_ _) | (with_reducible refine Below.row ?_ ?_ _) | (with_reducible refine Below.drew ?_) | (with_reducible refine below_drewN ?_ _) | (focus (first | (simp; done) | omega | (simp; omega))))); done))) (by have := B3.out.size; omega)
      have qltV : w3.heap.size + 1 + 1 < V.heap.size := by rw [sV]; simp; omega
      clear y k0 k1 j0 j1 sV bV HY
      have HBV := Lib.hid BV
      have k0 : V.cell? ⟨w3.heap.size + 1 + 1, 0, none⟩ = some (.int .i64 (hiOf (m : Int))) := cell_heap hV rfl
      have k1 : V.cell? ⟨w3.heap.size + 1 + 1, 1, none⟩ = some (.int .u64 (loOf (m : Int))) := cell_heap hV rfl
      have f0 : V.frozen? ⟨w3.heap.size + 1 + 1, 0, none⟩ = false := frozen_of_row _ _ _ _ _ hV
      have f1 : V.frozen? ⟨w3.heap.size + 1 + 1, 1, none⟩ = false := frozen_of_row _ _ _ _ _ hV
      have qle : w.heap.size ≤ w3.heap.size + 1 + 1 := by have := B3.out.size; omega
      have hzV : w.heap.size ≤ V.heap.size := BV.size
      have HF := Lib.hid hV
      clear hV
      cases neg
      · have hm0 : (m : Int) = res := by have := Hres.out; simp at this; omega
        have HN : Hid (∀ w, Calls Try.prog 64 #[PV (m : Int)] w fun e w' => e = .returned (.tuple #[.int .i64 (tv res), .int .i64 (te res)]) ∧ Below w.heap.size w w') := by
          intro w; rw [← hm0]; exact narrow_c _ Rm1.out w
        clear hm0
        go_wp2_with fail
        ((with_reducible refine (HN.out _).mono ?_); rintro e w5 ⟨rfl, hb5⟩)
        have hB5 : Below w.heap.size w w5 := Below.trans (by first | exact BV | exact BV.drew) (hb5.mono (by first | exact hzV | (simp; omega)))
        clear hb5
        go_wp2_with fail
        go_ret2
        first | exact ⟨rfl, hB5⟩ | exact hB5
      · have hm0 : 0 - (m : Int) = res := by have := Hres.out; simp at this; omega
        have HN : Hid (∀ w, Calls Try.prog 64 #[PV res] w fun e w' => e = .returned (.tuple #[.int .i64 (tv res), .int .i64 (te res)]) ∧ Below w.heap.size w w') := by
          intro w; exact narrow_c _ (by rw [← hm0]; exact Rm2.out) w
        have HM2 : Hid (∀ w, Calls Try.prog 63 #[PV 0, PV (m : Int)] w fun e w' => e = .returned (PV res) ∧ ((w.alloc (PC 0)).alloc (PC (m : Int))).alloc (PC res) = w') := by
          intro w; rw [← hm0]; exact minus_c _ _ R0.out Rm1.out Rm2.out w
        have j0 : (V.alloc (PC 0)).drew.cell? ⟨w3.heap.size + 1 + 1, 0, none⟩ = some (.int .i64 (hiOf (m : Int))) := by have := HF.out; (focus ((with_reducible apply cell_heap); (focus ((repeat' (first | (with_reducible assumption) | ((with_reducible refine heap_last ?_); (focus (first | (simp; done) | omega | (simp; omega)))) | ((with_reducible refine heap_prev ?_ ?_); (focus (first | (simp; done) | omega | (simp; omega)))) | (with_reducible refine drew_heap ?_) | (with_reducible refine drewN_heap ?_))); done)); rfl))
        have j1 : (V.alloc (PC 0)).drew.cell? ⟨w3.heap.size + 1 + 1, 1, none⟩ = some (.int .u64 (loOf (m : Int))) := by have := HF.out; (focus ((with_reducible apply cell_heap); (focus ((repeat' (first | (with_reducible assumption) | ((with_reducible refine heap_last ?_); (focus (first | (simp; done) | omega | (simp; omega)))) | ((with_reducible refine heap_prev ?_ ?_); (focus (first | (simp; done) | omega | (simp; omega)))) | (with_reducible refine drew_heap ?_) | (with_reducible refine drewN_heap ?_))); done)); rfl))
        clear hm0
        go_wp2_with fail
        refine wp_region_any (by kernel_rfl) ?_
        change wpAny _ _ _ _ _ _ _ (World.drew _)
        (refine wpAny_ready (rs := [0, 1]) (by kernel_rfl) (by simp) (AllReady.cons rfl (fun K hK => ?_) (AllReady.cons rfl (fun K hK => ?_) AllReady.nil)))
        · go_simp
          ((with_reducible refine (wide_c 0 (by omega) (by omega) _).mono ?_); rintro e w' ⟨rfl, rfl⟩)
          refine hK _ _ ?_
          clear hK K
          (refine wpAny_ready (rs := [1]) (by kernel_rfl) (by simp) (AllReady.cons rfl (fun K hK => ?_) AllReady.nil))
          go_simp
          refine hK _ _ ?_
          clear hK K
          (refine wpAny_ready (rs := [2]) (by kernel_rfl) (by simp) (AllReady.cons rfl (fun K hK => ?_) AllReady.nil))
          go_simp
          ((with_reducible refine (HM2.out _).mono ?_); rintro e w' ⟨rfl, rfl⟩)
          refine hK _ _ ?_
          clear hK K
          (refine wpAny_ready (rs := [3]) (by kernel_rfl) (by simp) (AllReady.cons rfl (fun K hK => ?_) AllReady.nil))
          have hF := HF.out
          refine any_store75 rfl _ _ rfl (w3.heap.size + 1 + 1) res (m : Int) rfl rfl (by (focus ((repeat' (first | (with_reducible assumption) | ((with_reducible refine heap_last ?_); (focus (first | (simp; done) | omega | (simp; omega)))) | ((with_reducible refine heap_prev ?_ ?_); (focus (first | (simp; done) | omega | (simp; omega)))) | (with_reducible refine drew_heap ?_) | (with_reducible refine drewN_heap ?_))); done))) ?_
          intro U hU sU bU
          refine hK _ _ ?_
          clear hK K
          refine wpAny_done (by kernel_rfl) ?_ _
          have BU : Below w.heap.size w U := bU _ _ (by (focus ((repeat' (first | (with_reducible exact Below.refl _ _) | (with_reducible assumption) | (with_reducible refine Below.alloc ?_ ?_ _) | (with_reducible refine Below.setCell ?_ ?_ _) | (with_reducible refine Below.row ?_ ?_ _) | (with_reducible refine Below.drew ?_) | (with_reducible refine below_drewN ?_ _) | (focus (first | (simp; done) | omega | (simp; omega))))); done))) qle
          have u0 : U.cell? ⟨w3.heap.size + 1 + 1, 0, none⟩ = some (.int .i64 (hiOf res)) := cell_heap hU rfl
          have u1 : U.cell? ⟨w3.heap.size + 1 + 1, 1, none⟩ = some (.int .u64 (loOf res)) := cell_heap hU rfl
          have zU := BU.size
          clear hU sU bU hF j0 j1 k0 k1 f0 f1
          go_wp2_with fail
          ((with_reducible refine (HN.out _).mono ?_); rintro e w5 ⟨rfl, hb5⟩)
          have hB5 : Below w.heap.size w w5 := BU.trans (hb5.mono zU)
          clear hb5
          go_wp2_with fail
          go_ret2
          first | exact ⟨rfl, hB5⟩ | exact hB5
        · go_simp
          refine hK _ _ ?_
          clear hK K
          (refine wpAny_ready (rs := [0]) (by kernel_rfl) (by simp) (AllReady.cons rfl (fun K hK => ?_) AllReady.nil))
          go_simp
          ((with_reducible refine (wide_c 0 (by omega) (by omega) _).mono ?_); rintro e w' ⟨rfl, rfl⟩)
          refine hK _ _ ?_
          clear hK K
          (refine wpAny_ready (rs := [2]) (by kernel_rfl) (by simp) (AllReady.cons rfl (fun K hK => ?_) AllReady.nil))
          go_simp
          ((with_reducible refine (HM2.out _).mono ?_); rintro e w' ⟨rfl, rfl⟩)
          refine hK _ _ ?_
          clear hK K
          (refine wpAny_ready (rs := [3]) (by kernel_rfl) (by simp) (AllReady.cons rfl (fun K hK => ?_) AllReady.nil))
          have hF := HF.out
          refine any_store75 rfl _ _ rfl (w3.heap.size + 1 + 1) res (m : Int) rfl rfl (by (focus ((repeat' (first | (with_reducible assumption) | ((with_reducible refine heap_last ?_); (focus (first | (simp; done) | omega | (simp; omega)))) | ((with_reducible refine heap_prev ?_ ?_); (focus (first | (simp; done) | omega | (simp; omega)))) | (with_reducible refine drew_heap ?_) | (with_reducible refine drewN_heap ?_))); done))) ?_
          intro U hU sU bU
          refine hK _ _ ?_
          clear hK K
          refine wpAny_done (by kernel_rfl) ?_ _
          have BU : Below w.heap.size w U := bU _ _ (by (focus ((repeat' (first | (with_reducible exact Below.refl _ _) | (with_reducible assumption) | (with_reducible refine Below.alloc ?_ ?_ _) | (with_reducible refine Below.setCell ?_ ?_ _) | (with_reducible refine Below.row ?_ ?_ _) | (with_reducible refine Below.drew ?_) | (with_reducible refine below_drewN ?_ _) | (focus (first | (simp; done) | omega | (simp; omega))))); done))) qle
          have u0 : U.cell? ⟨w3.heap.size + 1 + 1, 0, none⟩ = some (.int .i64 (hiOf res)) := cell_heap hU rfl
          have u1 : U.cell? ⟨w3.heap.size + 1 + 1, 1, none⟩ = some (.int .u64 (loOf res)) := cell_heap hU rfl
          have zU := BU.size
          clear hU sU bU hF j0 j1 k0 k1 f0 f1
          go_wp2_with fail
          ((with_reducible refine (HN.out _).mono ?_); rintro e w5 ⟨rfl, hb5⟩)
          have hB5 : Below w.heap.size w w5 := BU.trans (hb5.mono zU)
          clear hb5
          go_wp2_with fail
          go_ret2
          first | exact ⟨rfl, hB5⟩ | exact hB5
end Go.Proofs.Ytdjbnnjcifgnlaa

namespace Go.Proofs.Ytdjbnnjcifgnlaa
open Go.RowKit

set_option maxHeartbeats 4000000 in
set_option maxRecDepth 100000 in
theorem Div_core2 (a b c round p : Int) (n d q r : Nat) (neg odd aw : Bool) (c1 : -9223372036854775808 ≤ c) (c2 : c ≤ 9223372036854775807) (e0 : (c == 0) = false) (hround : round = 2)
    (hprm : Rm p) (hneg : neg = (decide (p < 0) != decide (c < 0))) (hodd : (bits BinOp.and IntKind.u64 (q : Int) 1 == 1) = odd) (hq : q < 2 ^ 64) (hr : r < 2 ^ 64) (hhi : hiOf (n : Int) < loOf (d : Int)) (hhi0 : 0 ≤ hiOf (n : Int)) (hhi1 : hiOf (n : Int) ≤ 9223372036854775807)
    (HT : Hid (∀ w, Calls Try.prog 57 #[.int .i64 a, .int .i64 b] w fun e w' => e = .returned (PV p) ∧ Below w.heap.size w w'))
    (HS : Hid (∀ w, Calls Try.prog 58 #[PV p] w fun e w' => e = .returned (PV (n : Int)) ∧ Below w.heap.size w w'))
    (HSc : Hid (∀ w, Calls Try.prog 58 #[PV c] w fun e w' => e = .returned (PV (d : Int)) ∧ Below w.heap.size w w'))
    (HO : Hid (∀ w, Calls Try.prog 61 #[.int .i64 round, .bool neg, .bool odd, .agg #[.int .i64 0, .int .u64 (r : Int)], PV (d : Int)] w fun e w' => e = .returned (.bool aw) ∧ Below w.heap.size w w'))
    (HD : Hid (∀ w, Calls Try.prog 60 #[.int .u64 (hiOf (n : Int)), .int .u64 (loOf (n : Int)), .int .u64 (loOf (d : Int))] w fun e w' => e = .returned (.tuple #[.int .u64 (q : Int), .int .u64 (r : Int)]) ∧ ∃ nq, w.drewN nq = w'))
    (m : Nat) (hm : m = q + if aw then 1 else 0) (res : Int) (hres : res = if neg then -(m : Int) else (m : Int)) (w : World) :
    Calls Try.prog 43 #[.int .i64 a, .int .i64 b, .int .i64 c, .int .i64 round] w fun e w' => e = .returned (.tuple #[.int .i64 (tv res), .int .i64 (te res)]) ∧ Below w.heap.size w w' := by
  have Hpr := Lib.hid hprm
  have hsgn : hiOf p < 0 ↔ p < 0 := by unfold hiOf; omega
  have Rq : Hid (Rm (q : Int)) := by show Rm _; unfold Rm; omega
  have Rq1 : Hid (Rm ((q : Int) + 1)) := by show Rm _; unfold Rm; omega
  have R1 : Hid (Rm 1) := by show Rm _; unfold Rm; omega
  have R0 : Hid (Rm 0) := by show Rm _; unfold Rm; omega
  have Rm1 : Hid (Rm (m : Int)) := by show Rm _; rw [hm]; unfold Rm; split <;> omega
  have Rm2 : Hid (Rm (0 - (m : Int))) := by show Rm _; rw [hm]; unfold Rm; split <;> omega
  have hq64' : (q : Int) ≤ 18446744073709551615 := by omega
  have hr64' : (r : Int) ≤ 18446744073709551615 := by omega
  have q00 : (0 : Int) ≤ (q : Int) := by omega
  have r00 : (0 : Int) ≤ (r : Int) := by omega
  have Hq0 := Lib.hid (small_hi q hq)
  have Hq1 := Lib.hid (small_lo q hq)
  clear hprm hq hr
  have hng : (decide (p < 0) == decide (c < 0)) = !neg := by rw [hneg]; cases decide (p < 0) <;> cases decide (c < 0) <;> rfl
  clear hneg
  have Hres := Lib.hid hres; clear hres
  have Hm := Lib.hid hm; clear hm
  subst hround
  go_enter Try.func43, Try.ntmps43
  go_wp2_with fail
  ((with_reducible refine (HT.out _).mono ?_); rintro e w1 ⟨rfl, hb1⟩)
  have Hb1 := Lib.hid hb1; clear hb1
  go_wp2_with fail
  ((with_reducible refine (HS.out _).mono ?_); rintro e w2 ⟨rfl, hb2⟩)
  go_wp2_with fail
  ((with_reducible refine (wide_c c c1 c2 _).mono ?_); rintro e w' ⟨rfl, rfl⟩)
  have z2 : w1.heap.size + 1 ≤ w2.heap.size := by have := hb2.size; simp at this; omega
  have B2 : Hid (Below w.heap.size w w2) := by
    show Below _ _ _
    have s1 := Hb1.out.size
    exact Below.trans (Below.alloc Hb1.out s1 _) (hb2.mono (by simp; omega))
  clear hb2
  go_wp2_with fail
  ((with_reducible refine (HSc.out _).mono ?_); rintro e w3 ⟨rfl, hb3⟩)
  have B3 : Hid (Below w.heap.size w w3) := by
    show Below _ _ _
    have s1 := B2.out.size
    exact Below.trans (Below.alloc B2.out s1 _) (hb3.mono (by simp; omega))
  clear hb3 B2 z2 Hb1
  go_wp2_with fail
  ((with_reducible refine (HD.out _).mono ?_); rintro e w' ⟨rfl, nq, rfl⟩)
  go_wp2_with fail
  ((with_reducible refine (HO.out _).mono ?_); rintro e w4 ⟨rfl, hb4⟩)
  have z4 : w3.heap.size + 4 ≤ w4.heap.size := by have := hb4.size; simp at this; omega
  have hB : Below w.heap.size w w4 := by
    have s1 := B3.out.size
    have b3 := B3.out
    exact Below.trans (by (focus ((repeat' (first | (with_reducible exact Below.refl _ _) | (with_reducible assumption) | (with_reducible refine Below.alloc ?_ ?_ _) | (with_reducible refine Below.setCell ?_ ?_ _) | (with_reducible refine Below.row ?_ ?_ _) | (with_reducible refine Below.drew ?_) | (with_reducible refine below_drewN ?_ _) | (focus (first | (simp; done) | omega | (simp; omega))))); done))) (hb4.mono (by simp; omega))
  have y : w4.heap[w3.heap.size + 1 + 1]? = some (PC (q : Int)) := by
    rw [hb4.block (w3.heap.size + 1 + 1) (by simp)]
    show _ = some (Obj.cells #[.int .i64 (hiOf (q : Int)), .int .u64 (loOf (q : Int))] 97)
    rw [Hq0.out, Hq1.out]
    (focus ((repeat' (first | (with_reducible assumption) | ((with_reducible refine heap_last ?_); (focus (first | (simp; done) | omega | (simp; omega)))) | ((with_reducible refine heap_prev ?_ ?_); (focus (first | (simp; done) | omega | (simp; omega)))) | (with_reducible refine drew_heap ?_) | (with_reducible refine drewN_heap ?_))); done))
  have qlt : w3.heap.size + 1 + 1 < w4.heap.size := by omega
  have hz4 : w.heap.size ≤ w4.heap.size := hB.size
  clear hb4 z4 hng hsgn hhi hhi0 hhi1 hodd
  cases aw
  · have hm : m = q := by have := Hm.out; simp at this; omega
    clear Hm
    subst hm
    clear Hq0 Hq1
    have k0 : w4.cell? ⟨w3.heap.size + 1 + 1, 0, none⟩ = some (.int .i64 (hiOf (m : Int))) := cell_heap y rfl
    have k1 : w4.cell? ⟨w3.heap.size + 1 + 1, 1, none⟩ = some (.int .u64 (loOf (m : Int))) := cell_heap y rfl
    have f0 : w4.frozen? ⟨w3.heap.size + 1 + 1, 0, none⟩ = false := frozen_of_row _ _ _ _ _ y
    have f1 : w4.frozen? ⟨w3.heap.size + 1 + 1, 1, none⟩ = false := frozen_of_row _ _ _ _ _ y
    have qle : w.heap.size ≤ w3.heap.size + 1 + 1 := by have := B3.out.size; omega
    have hzV : w.heap.size ≤ w4.heap.size := hB.size
    have HF := Lib.hid y
    clear y
    cases neg
    · have hm0 : (m : Int) = res := by have := Hres.out; simp at this; omega
      have HN : Hid (∀ w, Calls Try.prog 64 #[PV (m : Int)] w fun e w' => e = .returned (.tuple #[.int .i64 (tv res), .int .i64 (te res)]) ∧ Below w.heap.size w w') := by
        intro w; rw [← hm0]; exact narrow_c _ Rm1.out w
      clear hm0
      go_wp2_with fail
      ((with_reducible refine (HN.out _).mono ?_); rintro e w5 ⟨rfl, hb5⟩)
      have hB5 : Below w.heap.size w w5 := Below.trans (by first | exact hB | exact hB.drew) (hb5.mono (by first | exact hzV | (simp; omega)))
      clear hb5
      go_wp2_with fail
      go_ret2
      first | exact ⟨rfl, hB5⟩ | exact hB5
    · have hm0 : 0 - (m : Int) = res := by have := Hres.out; simp at this; omega
      have HN : Hid (∀ w, Calls Try.prog 64 #[PV res] w fun e w' => e = .returned (.tuple #[.int .i64 (tv res), .int .i64 (te res)]) ∧ Below w.heap.size w w') := by
        intro w; exact narrow_c _ (by rw [← hm0]; exact Rm2.out) w
      have HM2 : Hid (∀ w, Calls Try.prog 63 #[PV 0, PV (m : Int)] w fun e w' => e = .returned (PV res) ∧ ((w.alloc (PC 0)).alloc (PC (m : Int))).alloc (PC res) = w') := by
        intro w; rw [← hm0]; exact minus_c _ _ R0.out Rm1.out Rm2.out w
      have j0 : (w4.alloc (PC 0)).drew.cell? ⟨w3.heap.size + 1 + 1, 0, none⟩ = some (.int .i64 (hiOf (m : Int))) := by have := HF.out; (focus ((with_reducible apply cell_heap); (focus ((repeat' (first | (with_reducible assumption) | ((with_reducible refine heap_last ?_); (focus (first | (simp; done) | omega | (simp; omega)))) | ((with_reducible refine heap_prev ?_ ?_); (focus (first | (simp; done) | omega | (simp; omega)))) | (with_reducible refine drew_heap ?_) | (with_reducible refine drewN_heap ?_))); done)); rfl))
      have j1 : (w4.alloc (PC 0)).drew.cell? ⟨w3.heap.size + 1 + 1, 1, none⟩ = some (.int .u64 (loOf (m : Int))) := by have := HF.out; (focus ((with_reducible apply cell_heap); (focus ((repeat' (first | (with_reducible assumption) | ((with_reducible refine heap_last ?_); (focus (first | (simp; done) | omega | (simp; omega)))) | ((with_reducible refine heap_prev ?_ ?_); (focus (first | (simp; done) | omega | (simp; omega)))) | (with_reducible refine drew_heap ?_) | (with_reducible refine drewN_heap ?_))); done)); rfl))
      clear hm0
      go_wp2_with fail
      refine wp_region_any (by kernel_rfl) ?_
      change wpAny _ _ _ _ _ _ _ (World.drew _)
      (refine wpAny_ready (rs := [0, 1]) (by kernel_rfl) (by simp) (AllReady.cons rfl (fun K hK => ?_) (AllReady.cons rfl (fun K hK => ?_) AllReady.nil)))
      · go_simp
        ((with_reducible refine (wide_c 0 (by omega) (by omega) _).mono ?_); rintro e w' ⟨rfl, rfl⟩)
        refine hK _ _ ?_
        clear hK K
        (refine wpAny_ready (rs := [1]) (by kernel_rfl) (by simp) (AllReady.cons rfl (fun K hK => ?_) AllReady.nil))
        go_simp
        refine hK _ _ ?_
        clear hK K
        (refine wpAny_ready (rs := [2]) (by kernel_rfl) (by simp) (AllReady.cons rfl (fun K hK => ?_) AllReady.nil))
        go_simp
        ((with_reducible refine (HM2.out _).mono ?_); rintro e w' ⟨rfl, rfl⟩)
        refine hK _ _ ?_
        clear hK K
        (refine wpAny_ready (rs := [3]) (by kernel_rfl) (by simp) (AllReady.cons rfl (fun K hK => ?_) AllReady.nil))
        have hF := HF.out
        refine any_store75 rfl _ _ rfl (w3.heap.size + 1 + 1) res (m : Int) rfl rfl (by (focus ((repeat' (first | (with_reducible assumption) | ((with_reducible refine heap_last ?_); (focus (first | (simp; done) | omega | (simp; omega)))) | ((with_reducible refine heap_prev ?_ ?_); (focus (first | (simp; done) | omega | (simp; omega)))) | (with_reducible refine drew_heap ?_) | (with_reducible refine drewN_heap ?_))); done))) ?_
        intro U hU sU bU
        refine hK _ _ ?_
        clear hK K
        refine wpAny_done (by kernel_rfl) ?_ _
        have BU : Below w.heap.size w U := bU _ _ (by (focus ((repeat' (first | (with_reducible exact Below.refl _ _) | (with_reducible assumption) | (with_reducible refine Below.alloc ?_ ?_ _) | (with_reducible refine Below.setCell ?_ ?_ _) | (with_reducible refine Below.row ?_ ?_ _) | (with_reducible refine Below.drew ?_) | (with_reducible refine below_drewN ?_ _) | (focus (first | (simp; done) | omega | (simp; omega))))); done))) qle
        have u0 : U.cell? ⟨w3.heap.size + 1 + 1, 0, none⟩ = some (.int .i64 (hiOf res)) := cell_heap hU rfl
        have u1 : U.cell? ⟨w3.heap.size + 1 + 1, 1, none⟩ = some (.int .u64 (loOf res)) := cell_heap hU rfl
        have zU := BU.size
        clear hU sU bU hF j0 j1 k0 k1 f0 f1
        go_wp2_with fail
        ((with_reducible refine (HN.out _).mono ?_); rintro e w5 ⟨rfl, hb5⟩)
        have hB5 : Below w.heap.size w w5 := BU.trans (hb5.mono zU)
        clear hb5
        go_wp2_with fail
        go_ret2
        first | exact ⟨rfl, hB5⟩ | exact hB5
      · go_simp
        refine hK _ _ ?_
        clear hK K
        (refine wpAny_ready (rs := [0]) (by kernel_rfl) (by simp) (AllReady.cons rfl (fun K hK => ?_) AllReady.nil))
        go_simp
        ((with_reducible refine (wide_c 0 (by omega) (by omega) _).mono ?_); rintro e w' ⟨rfl, rfl⟩)
        refine hK _ _ ?_
        clear hK K
        (refine wpAny_ready (rs := [2]) (by kernel_rfl) (by simp) (AllReady.cons rfl (fun K hK => ?_) AllReady.nil))
        go_simp
        ((with_reducible refine (HM2.out _).mono ?_); rintro e w' ⟨rfl, rfl⟩)
        refine hK _ _ ?_
        clear hK K
        (refine wpAny_ready (rs := [3]) (by kernel_rfl) (by simp) (AllReady.cons rfl (fun K hK => ?_) AllReady.nil))
        have hF := HF.out
        refine any_store75 rfl _ _ rfl (w3.heap.size + 1 + 1) res (m : Int) rfl rfl (by (focus ((repeat' (first | (with_reducible assumption) | ((with_reducible refine heap_last ?_); (focus (first | (simp; done) | omega | (simp; omega)))) | ((with_reducible refine heap_prev ?_ ?_); (focus (first | (simp; done) | omega | (simp; omega)))) | (with_reducible refine drew_heap ?_) | (with_reducible refine drewN_heap ?_))); done))) ?_
        intro U hU sU bU
        refine hK _ _ ?_
        clear hK K
        refine wpAny_done (by kernel_rfl) ?_ _
        have BU : Below w.heap.size w U := bU _ _ (by (focus ((repeat' (first | (with_reducible exact Below.refl _ _) | (with_reducible assumption) | (with_reducible refine Below.alloc ?_ ?_ _) | (with_reducible refine Below.setCell ?_ ?_ _) | (with_reducible refine Below.row ?_ ?_ _) | (with_reducible refine Below.drew ?_) | (with_reducible refine below_drewN ?_ _) | (focus (first | (simp; done) | omega | (simp; omega))))); done))) qle
        have u0 : U.cell? ⟨w3.heap.size + 1 + 1, 0, none⟩ = some (.int .i64 (hiOf res)) := cell_heap hU rfl
        have u1 : U.cell? ⟨w3.heap.size + 1 + 1, 1, none⟩ = some (.int .u64 (loOf res)) := cell_heap hU rfl
        have zU := BU.size
        clear hU sU bU hF j0 j1 k0 k1 f0 f1
        go_wp2_with fail
        ((with_reducible refine (HN.out _).mono ?_); rintro e w5 ⟨rfl, hb5⟩)
        have hB5 : Below w.heap.size w w5 := BU.trans (hb5.mono zU)
        clear hb5
        go_wp2_with fail
        go_ret2
        first | exact ⟨rfl, hB5⟩ | exact hB5
  · have hm : (q : Int) + 1 = (m : Int) := by have := Hm.out; simp at this; omega
    have HP1 : Hid (∀ w, Calls Try.prog 62 #[PV (q : Int), PV 1] w fun e w' => e = .returned (PV (m : Int)) ∧ ((w.alloc (PC (q : Int))).alloc (PC 1)).alloc (PC (m : Int)) = w') := by
      intro w; rw [← hm]; exact plus_c _ _ Rq.out R1.out Rq1.out w
    clear hm
    have k0 : w4.cell? ⟨w3.heap.size + 1 + 1, 0, none⟩ = some (.int .i64 (hiOf (q : Int))) := cell_heap y rfl
    have k1 : w4.cell? ⟨w3.heap.size + 1 + 1, 1, none⟩ = some (.int .u64 (loOf (q : Int))) := cell_heap y rfl
    have j0 : (w4.alloc (PC 1)).drew.cell? ⟨w3.heap.size + 1 + 1, 0, none⟩ = some (.int .i64 (hiOf (q : Int))) := by (focus ((with_reducible apply cell_heap); (focus ((repeat' (first | (with_reducible assumption) | ((with_reducible refine heap_last ?_); (focus (first | (simp; done) | omega | (simp; omega)))) | ((with_reducible refine heap_prev ?_ ?_); (focus (first | (simp; done) | omega | (simp; omega)))) | (with_reducible refine drew_heap ?_) | (with_reducible refine drewN_heap ?_))); done)); rfl))
    have j1 : (w4.alloc (PC 1)).drew.cell? ⟨w3.heap.size + 1 + 1, 1, none⟩ = some (.int .u64 (loOf (q : Int))) := by (focus ((with_reducible apply cell_heap); (focus ((repeat' (first | (with_reducible assumption) | ((with_reducible refine heap_last ?_); (focus (first | (simp; done) | omega | (simp; omega)))) | ((with_reducible refine heap_prev ?_ ?_); (focus (first | (simp; done) | omega | (simp; omega)))) | (with_reducible refine drew_heap ?_) | (with_reducible refine drewN_heap ?_))); done)); rfl))
    have HY := Lib.hid y; clear y
    go_wp2_with fail
    refine wp_region_any (by kernel_rfl) ?_
    change wpAny _ _ _ _ _ _ _ (World.drew _)
    (refine wpAny_ready (rs := [0, 1]) (by kernel_rfl) (by simp) (AllReady.cons rfl (fun K hK => ?_) (AllReady.cons rfl (fun K hK => ?_) AllReady.nil)))
    · go_simp
      refine hK _ _ ?_
      clear hK K
      (refine wpAny_ready (rs := [1]) (by kernel_rfl) (by simp) (AllReady.cons rfl (fun K hK => ?_) AllReady.nil))
      go_simp
      ((with_reducible refine (wide_c 1 (by omega) (by omega) _).mono ?_); rintro e w' ⟨rfl, rfl⟩)
      refine hK _ _ ?_
      clear hK K
      (refine wpAny_ready (rs := [2]) (by kernel_rfl) (by simp) (AllReady.cons rfl (fun K hK => ?_) AllReady.nil))
      go_simp
      ((with_reducible refine (HP1.out _).mono ?_); rintro e w' ⟨rfl, rfl⟩)
      refine hK _ _ ?_
      clear hK K
      (refine wpAny_ready (rs := [3]) (by kernel_rfl) (by simp) (AllReady.cons rfl (fun K hK => ?_) AllReady.nil))
      have y := HY.out
      refine any_store75 rfl _ _ rfl (w3.heap.size + 1 + 1) (m : Int) (q : Int) rfl rfl (by (focus ((repeat' (first | (with_reducible assumption) | ((with_reducible refine heap_last ?_); (focus (first | (simp; done) | omega | (simp; omega)))) | ((with_reducible refine heap_prev ?_ ?_); (focus (first | (simp; done) | omega | (simp; omega)))) | (with_reducible refine drew_heap ?_) | (with_reducible refine drewN_heap ?_))); done))) ?_
      intro V hV sV bV
      refine hK _ _ ?_
      clear hK K
      refine wpAny_done (by kernel_rfl) ?_ _
      have BV : Below w.heap.size w V := bV _ _ (by (focus ((repeat' (first | (with_reducible exact Below.refl _ _) | (with_reducible assumption) | (with_reducible refine Below.alloc ?_ ?_ _) | (with_reducible refine Below.setCell ?_ ?_ _) | (with_reducible refine Below.row ?_ ?_ _) | (with_reducible refine Below.drew ?_) | (with_reducible refine below_drewN ?_ _) | (focus (first | (simp; done) | omega | (simp; omega))))); done))) (by have := B3.out.size; omega)
      have qltV : w3.heap.size + 1 + 1 < V.heap.size := by rw [sV]; simp; omega
      clear y k0 k1 j0 j1 sV bV HY
      have HBV := Lib.hid BV
      have k0 : V.cell? ⟨w3.heap.size + 1 + 1, 0, none⟩ = some (.int .i64 (hiOf (m : Int))) := cell_heap hV rfl
      have k1 : V.cell? ⟨w3.heap.size + 1 + 1, 1, none⟩ = some (.int .u64 (loOf (m : Int))) := cell_heap hV rfl
      have f0 : V.frozen? ⟨w3.heap.size + 1 + 1, 0, none⟩ = false := frozen_of_row _ _ _ _ _ hV
      have f1 : V.frozen? ⟨w3.heap.size + 1 + 1, 1, none⟩ = false := frozen_of_row _ _ _ _ _ hV
      have qle : w.heap.size ≤ w3.heap.size + 1 + 1 := by have := B3.out.size; omega
      have hzV : w.heap.size ≤ V.heap.size := BV.size
      have HF := Lib.hid hV
      clear hV
      cases neg
      · have hm0 : (m : Int) = res := by have := Hres.out; simp at this; omega
        have HN : Hid (∀ w, Calls Try.prog 64 #[PV (m : Int)] w fun e w' => e = .returned (.tuple #[.int .i64 (tv res), .int .i64 (te res)]) ∧ Below w.heap.size w w') := by
          intro w; rw [← hm0]; exact narrow_c _ Rm1.out w
        clear hm0
        go_wp2_with fail
        ((with_reducible refine (HN.out _).mono ?_); rintro e w5 ⟨rfl, hb5⟩)
        have hB5 : Below w.heap.size w w5 := Below.trans (by first | exact BV | exact BV.drew) (hb5.mono (by first | exact hzV | (simp; omega)))
        clear hb5
        go_wp2_with fail
        go_ret2
        first | exact ⟨rfl, hB5⟩ | exact hB5
      · have hm0 : 0 - (m : Int) = res := by have := Hres.out; simp at this; omega
        have HN : Hid (∀ w, Calls Try.prog 64 #[PV res] w fun e w' => e = .returned (.tuple #[.int .i64 (tv res), .int .i64 (te res)]) ∧ Below w.heap.size w w') := by
          intro w; exact narrow_c _ (by rw [← hm0]; exact Rm2.out) w
        have HM2 : Hid (∀ w, Calls Try.prog 63 #[PV 0, PV (m : Int)] w fun e w' => e = .returned (PV res) ∧ ((w.alloc (PC 0)).alloc (PC (m : Int))).alloc (PC res) = w') := by
          intro w; rw [← hm0]; exact minus_c _ _ R0.out Rm1.out Rm2.out w
        have j0 : (V.alloc (PC 0)).drew.cell? ⟨w3.heap.size + 1 + 1, 0, none⟩ = some (.int .i64 (hiOf (m : Int))) := by have := HF.out; (focus ((with_reducible apply cell_heap); (focus ((repeat' (first | (with_reducible assumption) | ((with_reducible refine heap_last ?_); (focus (first | (simp; done) | omega | (simp; omega)))) | ((with_reducible refine heap_prev ?_ ?_); (focus (first | (simp; done) | omega | (simp; omega)))) | (with_reducible refine drew_heap ?_) | (with_reducible refine drewN_heap ?_))); done)); rfl))
        have j1 : (V.alloc (PC 0)).drew.cell? ⟨w3.heap.size + 1 + 1, 1, none⟩ = some (.int .u64 (loOf (m : Int))) := by have := HF.out; (focus ((with_reducible apply cell_heap); (focus ((repeat' (first | (with_reducible assumption) | ((with_reducible refine heap_last ?_); (focus (first | (simp; done) | omega | (simp; omega)))) | ((with_reducible refine heap_prev ?_ ?_); (focus (first | (simp; done) | omega | (simp; omega)))) | (with_reducible refine drew_heap ?_) | (with_reducible refine drewN_heap ?_))); done)); rfl))
        clear hm0
        go_wp2_with fail
        refine wp_region_any (by kernel_rfl) ?_
        change wpAny _ _ _ _ _ _ _ (World.drew _)
        (refine wpAny_ready (rs := [0, 1]) (by kernel_rfl) (by simp) (AllReady.cons rfl (fun K hK => ?_) (AllReady.cons rfl (fun K hK => ?_) AllReady.nil)))
        · go_simp
          ((with_reducible refine (wide_c 0 (by omega) (by omega) _).mono ?_); rintro e w' ⟨rfl, rfl⟩)
          refine hK _ _ ?_
          clear hK K
          (refine wpAny_ready (rs := [1]) (by kernel_rfl) (by simp) (AllReady.cons rfl (fun K hK => ?_) AllReady.nil))
          go_simp
          refine hK _ _ ?_
          clear hK K
          (refine wpAny_ready (rs := [2]) (by kernel_rfl) (by simp) (AllReady.cons rfl (fun K hK => ?_) AllReady.nil))
          go_simp
          ((with_reducible refine (HM2.out _).mono ?_); rintro e w' ⟨rfl, rfl⟩)
          refine hK _ _ ?_
          clear hK K
          (refine wpAny_ready (rs := [3]) (by kernel_rfl) (by simp) (AllReady.cons rfl (fun K hK => ?_) AllReady.nil))
          have hF := HF.out
          refine any_store75 rfl _ _ rfl (w3.heap.size + 1 + 1) res (m : Int) rfl rfl (by (focus ((repeat' (first | (with_reducible assumption) | ((with_reducible refine heap_last ?_); (focus (first | (simp; done) | omega | (simp; omega)))) | ((with_reducible refine heap_prev ?_ ?_); (focus (first | (simp; done) | omega | (simp; omega)))) | (with_reducible refine drew_heap ?_) | (with_reducible refine drewN_heap ?_))); done))) ?_
          intro U hU sU bU
          refine hK _ _ ?_
          clear hK K
          refine wpAny_done (by kernel_rfl) ?_ _
          have BU : Below w.heap.size w U := bU _ _ (by (focus ((repeat' (first | (with_reducible exact Below.refl _ _) | (with_reducible assumption) | (with_reducible refine Below.alloc ?_ ?_ _) | (with_reducible refine Below.setCell ?_ ?_ _) | (with_reducible refine Below.row ?_ ?_ _) | (with_reducible refine Below.drew ?_) | (with_reducible refine below_drewN ?_ _) | (focus (first | (simp; done) | omega | (simp; omega))))); done))) qle
          have u0 : U.cell? ⟨w3.heap.size + 1 + 1, 0, none⟩ = some (.int .i64 (hiOf res)) := cell_heap hU rfl
          have u1 : U.cell? ⟨w3.heap.size + 1 + 1, 1, none⟩ = some (.int .u64 (loOf res)) := cell_heap hU rfl
          have zU := BU.size
          clear hU sU bU hF j0 j1 k0 k1 f0 f1
          go_wp2_with fail
          ((with_reducible refine (HN.out _).mono ?_); rintro e w5 ⟨rfl, hb5⟩)
          have hB5 : Below w.heap.size w w5 := BU.trans (hb5.mono zU)
          clear hb5
          go_wp2_with fail
          go_ret2
          first | exact ⟨rfl, hB5⟩ | exact hB5
        · go_simp
          refine hK _ _ ?_
          clear hK K
          (refine wpAny_ready (rs := [0]) (by kernel_rfl) (by simp) (AllReady.cons rfl (fun K hK => ?_) AllReady.nil))
          go_simp
          ((with_reducible refine (wide_c 0 (by omega) (by omega) _).mono ?_); rintro e w' ⟨rfl, rfl⟩)
          refine hK _ _ ?_
          clear hK K
          (refine wpAny_ready (rs := [2]) (by kernel_rfl) (by simp) (AllReady.cons rfl (fun K hK => ?_) AllReady.nil))
          go_simp
          ((with_reducible refine (HM2.out _).mono ?_); rintro e w' ⟨rfl, rfl⟩)
          refine hK _ _ ?_
          clear hK K
          (refine wpAny_ready (rs := [3]) (by kernel_rfl) (by simp) (AllReady.cons rfl (fun K hK => ?_) AllReady.nil))
          have hF := HF.out
          refine any_store75 rfl _ _ rfl (w3.heap.size + 1 + 1) res (m : Int) rfl rfl (by (focus ((repeat' (first | (with_reducible assumption) | ((with_reducible refine heap_last ?_); (focus (first | (simp; done) | omega | (simp; omega)))) | ((with_reducible refine heap_prev ?_ ?_); (focus (first | (simp; done) | omega | (simp; omega)))) | (with_reducible refine drew_heap ?_) | (with_reducible refine drewN_heap ?_))); done))) ?_
          intro U hU sU bU
          refine hK _ _ ?_
          clear hK K
          refine wpAny_done (by kernel_rfl) ?_ _
          have BU : Below w.heap.size w U := bU _ _ (by (focus ((repeat' (first | (with_reducible exact Below.refl _ _) | (with_reducible assumption) | (with_reducible refine Below.alloc ?_ ?_ _) | (with_reducible refine Below.setCell ?_ ?_ _) | (with_reducible refine Below.row ?_ ?_ _) | (with_reducible refine Below.drew ?_) | (with_reducible refine below_drewN ?_ _) | (focus (first | (simp; done) | omega | (simp; omega))))); done))) qle
          have u0 : U.cell? ⟨w3.heap.size + 1 + 1, 0, none⟩ = some (.int .i64 (hiOf res)) := cell_heap hU rfl
          have u1 : U.cell? ⟨w3.heap.size + 1 + 1, 1, none⟩ = some (.int .u64 (loOf res)) := cell_heap hU rfl
          have zU := BU.size
          clear hU sU bU hF j0 j1 k0 k1 f0 f1
          go_wp2_with fail
          ((with_reducible refine (HN.out _).mono ?_); rintro e w5 ⟨rfl, hb5⟩)
          have hB5 : Below w.heap.size w w5 := BU.trans (hb5.mono zU)
          clear hb5
          go_wp2_with fail
          go_ret2
          first | exact ⟨rfl, hB5⟩ | exact hB5
    · go_simp
      ((with_reducible refine (wide_c 1 (by omega) (by omega) _).mono ?_); rintro e w' ⟨rfl, rfl⟩)
      refine hK _ _ ?_
      clear hK K
      (refine wpAny_ready (rs := [0]) (by kernel_rfl) (by simp) (AllReady.cons rfl (fun K hK => ?_) AllReady.nil))
      go_simp
      refine hK _ _ ?_
      clear hK K
      (refine wpAny_ready (rs := [2]) (by kernel_rfl) (by simp) (AllReady.cons rfl (fun K hK => ?_) AllReady.nil))
      go_simp
      ((with_reducible refine (HP1.out _).mono ?_); rintro e w' ⟨rfl, rfl⟩)
      refine hK _ _ ?_
      clear hK K
      (refine wpAny_ready (rs := [3]) (by kernel_rfl) (by simp) (AllReady.cons rfl (fun K hK => ?_) AllReady.nil))
      have y := HY.out
      refine any_store75 rfl _ _ rfl (w3.heap.size + 1 + 1) (m : Int) (q : Int) rfl rfl (by (focus ((repeat' (first | (with_reducible assumption) | ((with_reducible refine heap_last ?_); (focus (first | (simp; done) | omega | (simp; omega)))) | ((with_reducible refine heap_prev ?_ ?_); (focus (first | (simp; done) | omega | (simp; omega)))) | (with_reducible refine drew_heap ?_) | (with_reducible refine drewN_heap ?_))); done))) ?_
      intro V hV sV bV
      refine hK _ _ ?_
      clear hK K
      refine wpAny_done (by kernel_rfl) ?_ _
      have BV : Below w.heap.size w V := bV _ _ (by (focus ((repeat' (first | (with_reducible exact Below.refl _ _) | (with_reducible assumption) | (with_reducible refine Below.alloc ?_ ?_ _) | (with_reducible refine Below.setCell ?_ ?_ _) | (with_reducible refine Below.row ?_ ?_ _) | (with_reducible refine Below.drew ?_) | (with_reducible refine below_drewN ?_ _) | (focus (first | (simp; done) | omega | (simp; omega))))); done))) (by have := B3.out.size; omega)
      have qltV : w3.heap.size + 1 + 1 < V.heap.size := by rw [sV]; simp; omega
      clear y k0 k1 j0 j1 sV bV HY
      have HBV := Lib.hid BV
      have k0 : V.cell? ⟨w3.heap.size + 1 + 1, 0, none⟩ = some (.int .i64 (hiOf (m : Int))) := cell_heap hV rfl
      have k1 : V.cell? ⟨w3.heap.size + 1 + 1, 1, none⟩ = some (.int .u64 (loOf (m : Int))) := cell_heap hV rfl
      have f0 : V.frozen? ⟨w3.heap.size + 1 + 1, 0, none⟩ = false := frozen_of_row _ _ _ _ _ hV
      have f1 : V.frozen? ⟨w3.heap.size + 1 + 1, 1, none⟩ = false := frozen_of_row _ _ _ _ _ hV
      have qle : w.heap.size ≤ w3.heap.size + 1 + 1 := by have := B3.out.size; omega
      have hzV : w.heap.size ≤ V.heap.size := BV.size
      have HF := Lib.hid hV
      clear hV
      cases neg
      · have hm0 : (m : Int) = res := by have := Hres.out; simp at this; omega
        have HN : Hid (∀ w, Calls Try.prog 64 #[PV (m : Int)] w fun e w' => e = .returned (.tuple #[.int .i64 (tv res), .int .i64 (te res)]) ∧ Below w.heap.size w w') := by
          intro w; rw [← hm0]; exact narrow_c _ Rm1.out w
        clear hm0
        go_wp2_with fail
        ((with_reducible refine (HN.out _).mono ?_); rintro e w5 ⟨rfl, hb5⟩)
        have hB5 : Below w.heap.size w w5 := Below.trans (by first | exact BV | exact BV.drew) (hb5.mono (by first | exact hzV | (simp; omega)))
        clear hb5
        go_wp2_with fail
        go_ret2
        first | exact ⟨rfl, hB5⟩ | exact hB5
      · have hm0 : 0 - (m : Int) = res := by have := Hres.out; simp at this; omega
        have HN : Hid (∀ w, Calls Try.prog 64 #[PV res] w fun e w' => e = .returned (.tuple #[.int .i64 (tv res), .int .i64 (te res)]) ∧ Below w.heap.size w w') := by
          intro w; exact narrow_c _ (by rw [← hm0]; exact Rm2.out) w
        have HM2 : Hid (∀ w, Calls Try.prog 63 #[PV 0, PV (m : Int)] w fun e w' => e = .returned (PV res) ∧ ((w.alloc (PC 0)).alloc (PC (m : Int))).alloc (PC res) = w') := by
          intro w; rw [← hm0]; exact minus_c _ _ R0.out Rm1.out Rm2.out w
        have j0 : (V.alloc (PC 0)).drew.cell? ⟨w3.heap.size + 1 + 1, 0, none⟩ = some (.int .i64 (hiOf (m : Int))) := by have := HF.out; (focus ((with_reducible apply cell_heap); (focus ((repeat' (first | (with_reducible assumption) | ((with_reducible refine heap_last ?_); (focus (first | (simp; done) | omega | (simp; omega)))) | ((with_reducible refine heap_prev ?_ ?_); (focus (first | (simp; done) | omega | (simp; omega)))) | (with_reducible refine drew_heap ?_) | (with_reducible refine drewN_heap ?_))); done)); rfl))
        have j1 : (V.alloc (PC 0)).drew.cell? ⟨w3.heap.size + 1 + 1, 1, none⟩ = some (.int .u64 (loOf (m : Int))) := by have := HF.out; (focus ((with_reducible apply cell_heap); (focus ((repeat' (first | (with_reducible assumption) | ((with_reducible refine heap_last ?_); (focus (first | (simp; done) | omega | (simp; omega)))) | ((with_reducible refine heap_prev ?_ ?_); (focus (first | (simp; done) | omega | (simp; omega)))) | (with_reducible refine drew_heap ?_) | (with_reducible refine drewN_heap ?_))); done)); rfl))
        clear hm0
        go_wp2_with fail
        refine wp_region_any (by kernel_rfl) ?_
        change wpAny _ _ _ _ _ _ _ (World.drew _)
        (refine wpAny_ready (rs := [0, 1]) (by kernel_rfl) (by simp) (AllReady.cons rfl (fun K hK => ?_) (AllReady.cons rfl (fun K hK => ?_) AllReady.nil)))
        · go_simp
          ((with_reducible refine (wide_c 0 (by omega) (by omega) _).mono ?_); rintro e w' ⟨rfl, rfl⟩)
          refine hK _ _ ?_
          clear hK K
          (refine wpAny_ready (rs := [1]) (by kernel_rfl) (by simp) (AllReady.cons rfl (fun K hK => ?_) AllReady.nil))
          go_simp
          refine hK _ _ ?_
          clear hK K
          (refine wpAny_ready (rs := [2]) (by kernel_rfl) (by simp) (AllReady.cons rfl (fun K hK => ?_) AllReady.nil))
          go_simp
          ((with_reducible refine (HM2.out _).mono ?_); rintro e w' ⟨rfl, rfl⟩)
          refine hK _ _ ?_
          clear hK K
          (refine wpAny_ready (rs := [3]) (by kernel_rfl) (by simp) (AllReady.cons rfl (fun K hK => ?_) AllReady.nil))
          have hF := HF.out
          refine any_store75 rfl _ _ rfl (w3.heap.size + 1 + 1) res (m : Int) rfl rfl (by (focus ((repeat' (first | (with_reducible assumption) | ((with_reducible refine heap_last ?_); (focus (first | (simp; done) | omega | (simp; omega)))) | ((with_reducible refine heap_prev ?_ ?_); (focus (first | (simp; done) | omega | (simp; omega)))) | (with_reducible refine drew_heap ?_) | (with_reducible refine drewN_heap ?_))); done))) ?_
          intro U hU sU bU
          refine hK _ _ ?_
          clear hK K
          refine wpAny_done (by kernel_rfl) ?_ _
          have BU : Below w.heap.size w U := bU _ _ (by (focus ((repeat' (first | (with_reducible exact Below.refl _ _) | (with_reducible assumption) | (with_reducible refine Below.alloc ?_ ?_ _) | (with_reducible refine Below.setCell ?_ ?_ _) | (with_reducible refine Below.row ?_ ?_ _) | (with_reducible refine Below.drew ?_) | (with_reducible refine below_drewN ?_ _) | (focus (first | (simp; done) | omega | (simp; omega))))); done))) qle
          have u0 : U.cell? ⟨w3.heap.size + 1 + 1, 0, none⟩ = some (.int .i64 (hiOf res)) := cell_heap hU rfl
          have u1 : U.cell? ⟨w3.heap.size + 1 + 1, 1, none⟩ = some (.int .u64 (loOf res)) := cell_heap hU rfl
          have zU := BU.size
          clear hU sU bU hF j0 j1 k0 k1 f0 f1
          go_wp2_with fail
          ((with_reducible refine (HN.out _).mono ?_); rintro e w5 ⟨rfl, hb5⟩)
          have hB5 : Below w.heap.size w w5 := BU.trans (hb5.mono zU)
          clear hb5
          go_wp2_with fail
          go_ret2
          first | exact ⟨rfl, hB5⟩ | exact hB5
        · go_simp
          refine hK _ _ ?_
          clear hK K
          (refine wpAny_ready (rs := [0]) (by kernel_rfl) (by simp) (AllReady.cons rfl (fun K hK => ?_) AllReady.nil))
          go_simp
          ((with_reducible refine (wide_c 0 (by omega) (by omega) _).mono ?_); rintro e w' ⟨rfl, rfl⟩)
          refine hK _ _ ?_
          clear hK K
          (refine wpAny_ready (rs := [2]) (by kernel_rfl) (by simp) (AllReady.cons rfl (fun K hK => ?_) AllReady.nil))
          go_simp
          ((with_reducible refine (HM2.out _).mono ?_); rintro e w' ⟨rfl, rfl⟩)
          refine hK _ _ ?_
          clear hK K
          (refine wpAny_ready (rs := [3]) (by kernel_rfl) (by simp) (AllReady.cons rfl (fun K hK => ?_) AllReady.nil))
          have hF := HF.out
          refine any_store75 rfl _ _ rfl (w3.heap.size + 1 + 1) res (m : Int) rfl rfl (by (focus ((repeat' (first | (with_reducible assumption) | ((with_reducible refine heap_last ?_); (focus (first | (simp; done) | omega | (simp; omega)))) | ((with_reducible refine heap_prev ?_ ?_); (focus (first | (simp; done) | omega | (simp; omega)))) | (with_reducible refine drew_heap ?_) | (with_reducible refine drewN_heap ?_))); done))) ?_
          intro U hU sU bU
          refine hK _ _ ?_
          clear hK K
          refine wpAny_done (by kernel_rfl) ?_ _
          have BU : Below w.heap.size w U := bU _ _ (by (focus ((repeat' (first | (with_reducible exact Below.refl _ _) | (with_reducible assumption) | (with_reducible refine Below.alloc ?_ ?_ _) | (with_reducible refine Below.setCell ?_ ?_ _) | (with_reducible refine Below.row ?_ ?_ _) | (with_reducible refine Below.drew ?_) | (with_reducible refine below_drewN ?_ _) | (focus (first | (simp; done) | omega | (simp; omega))))); done))) qle
          have u0 : U.cell? ⟨w3.heap.size + 1 + 1, 0, none⟩ = some (.int .i64 (hiOf res)) := cell_heap hU rfl
          have u1 : U.cell? ⟨w3.heap.size + 1 + 1, 1, none⟩ = some (.int .u64 (loOf res)) := cell_heap hU rfl
          have zU := BU.size
          clear hU sU bU hF j0 j1 k0 k1 f0 f1
          go_wp2_with fail
          ((with_reducible refine (HN.out _).mono ?_); rintro e w5 ⟨rfl, hb5⟩)
          have hB5 : Below w.heap.size w w5 := BU.trans (hb5.mono zU)
          clear hb5
          go_wp2_with fail
          go_ret2
          first | exact ⟨rfl, hB5⟩ | exact hB5
end Go.Proofs.Ytdjbnnjcifgnlaa

namespace Go.Proofs.Ytdjbnnjcifgnlaa
open Go.RowKit

set_option maxHeartbeats 4000000 in
set_option maxRecDepth 100000 in
theorem Div_core3 (a b c round p : Int) (n d q r : Nat) (neg odd aw : Bool) (c1 : -9223372036854775808 ≤ c) (c2 : c ≤ 9223372036854775807) (e0 : (c == 0) = false) (hround : round = 3)
    (hprm : Rm p) (hneg : neg = (decide (p < 0) != decide (c < 0))) (hodd : (bits BinOp.and IntKind.u64 (q : Int) 1 == 1) = odd) (hq : q < 2 ^ 64) (hr : r < 2 ^ 64) (hhi : hiOf (n : Int) < loOf (d : Int)) (hhi0 : 0 ≤ hiOf (n : Int)) (hhi1 : hiOf (n : Int) ≤ 9223372036854775807)
    (HT : Hid (∀ w, Calls Try.prog 57 #[.int .i64 a, .int .i64 b] w fun e w' => e = .returned (PV p) ∧ Below w.heap.size w w'))
    (HS : Hid (∀ w, Calls Try.prog 58 #[PV p] w fun e w' => e = .returned (PV (n : Int)) ∧ Below w.heap.size w w'))
    (HSc : Hid (∀ w, Calls Try.prog 58 #[PV c] w fun e w' => e = .returned (PV (d : Int)) ∧ Below w.heap.size w w'))
    (HO : Hid (∀ w, Calls Try.prog 61 #[.int .i64 round, .bool neg, .bool odd, .agg #[.int .i64 0, .int .u64 (r : Int)], PV (d : Int)] w fun e w' => e = .returned (.bool aw) ∧ Below w.heap.size w w'))
    (HD : Hid (∀ w, Calls Try.prog 60 #[.int .u64 (hiOf (n : Int)), .int .u64 (loOf (n : Int)), .int .u64 (loOf (d : Int))] w fun e w' => e = .returned (.tuple #[.int .u64 (q : Int), .int .u64 (r : Int)]) ∧ ∃ nq, w.drewN nq = w'))
    (m : Nat) (hm : m = q + if aw then 1 else 0) (res : Int) (hres : res = if neg then -(m : Int) else (m : Int)) (w : World) :
    Calls Try.prog 43 #[.int .i64 a, .int .i64 b, .int .i64 c, .int .i64 round] w fun e w' => e = .returned (.tuple #[.int .i64 (tv res), .int .i64 (te res)]) ∧ Below w.heap.size w w' := by
  have Hpr := Lib.hid hprm
  have hsgn : hiOf p < 0 ↔ p < 0 := by unfold hiOf; omega
  have Rq : Hid (Rm (q : Int)) := by show Rm _; unfold Rm; omega
  have Rq1 : Hid (Rm ((q : Int) + 1)) := by show Rm _; unfold Rm; omega
  have R1 : Hid (Rm 1) := by show Rm _; unfold Rm; omega
  have R0 : Hid (Rm 0) := by show Rm _; unfold Rm; omega
  have Rm1 : Hid (Rm (m : Int)) := by show Rm _; rw [hm]; unfold Rm; split <;> omega
  have Rm2 : Hid (Rm (0 - (m : Int))) := by show Rm _; rw [hm]; unfold Rm; split <;> omega
  have hq64' : (q : Int) ≤ 18446744073709551615 := by omega
  have hr64' : (r : Int) ≤ 18446744073709551615 := by omega
  have q00 : (0 : Int) ≤ (q : Int) := by omega
  have r00 : (0 : Int) ≤ (r : Int) := by omega
  have Hq0 := Lib.hid (small_hi q hq)
  have Hq1 := Lib.hid (small_lo q hq)
  clear hprm hq hr
  have hng : (decide (p < 0) == decide (c < 0)) = !neg := by rw [hneg]; cases decide (p < 0) <;> cases decide (c < 0) <;> rfl
  clear hneg
  have Hres := Lib.hid hres; clear hres
  have Hm := Lib.hid hm; clear hm
  subst hround
  go_enter Try.func43, Try.ntmps43
  go_wp2_with fail
  ((with_reducible refine (HT.out _).mono ?_); rintro e w1 ⟨rfl, hb1⟩)
  have Hb1 := Lib.hid hb1; clear hb1
  go_wp2_with fail
  ((with_reducible refine (HS.out _).mono ?_); rintro e w2 ⟨rfl, hb2⟩)
  go_wp2_with fail
  ((with_reducible refine (wide_c c c1 c2 _).mono ?_); rintro e w' ⟨rfl, rfl⟩)
  have z2 : w1.heap.size + 1 ≤ w2.heap.size := by have := hb2.size; simp at this; omega
  have B2 : Hid (Below w.heap.size w w2) := by
    show Below _ _ _
    have s1 := Hb1.out.size
    exact Below.trans (Below.alloc Hb1.out s1 _) (hb2.mono (by simp; omega))
  clear hb2
  go_wp2_with fail
  ((with_reducible refine (HSc.out _).mono ?_); rintro e w3 ⟨rfl, hb3⟩)
  have B3 : Hid (Below w.heap.size w w3) := by
    show Below _ _ _
    have s1 := B2.out.size
    exact Below.trans (Below.alloc B2.out s1 _) (hb3.mono (by simp; omega))
  clear hb3 B2 z2 Hb1
  go_wp2_with fail
  ((with_reducible refine (HD.out _).mono ?_); rintro e w' ⟨rfl, nq, rfl⟩)
  go_wp2_with fail
  ((with_reducible refine (HO.out _).mono ?_); rintro e w4 ⟨rfl, hb4⟩)
  have z4 : w3.heap.size + 4 ≤ w4.heap.size := by have := hb4.size; simp at this; omega
  have hB : Below w.heap.size w w4 := by
    have s1 := B3.out.size
    have b3 := B3.out
    exact Below.trans (by (focus ((repeat' (first | (with_reducible exact Below.refl _ _) | (with_reducible assumption) | (with_reducible refine Below.alloc ?_ ?_ _) | (with_reducible refine Below.setCell ?_ ?_ _) | (with_reducible refine Below.row ?_ ?_ _) | (with_reducible refine Below.drew ?_) | (with_reducible refine below_drewN ?_ _) | (focus (first | (simp; done) | omega | (simp; omega))))); done))) (hb4.mono (by simp; omega))
  have y : w4.heap[w3.heap.size + 1 + 1]? = some (PC (q : Int)) := by
    rw [hb4.block (w3.heap.size + 1 + 1) (by simp)]
    show _ = some (Obj.cells #[.int .i64 (hiOf (q : Int)), .int .u64 (loOf (q : Int))] 97)
    rw [Hq0.out, Hq1.out]
    (focus ((repeat' (first | (with_reducible assumption) | ((with_reducible refine heap_last ?_); (focus (first | (simp; done) | omega | (simp; omega)))) | ((with_reducible refine heap_prev ?_ ?_); (focus (first | (simp; done) | omega | (simp; omega)))) | (with_reducible refine drew_heap ?_) | (with_reducible refine drewN_heap ?_))); done))
  have qlt : w3.heap.size + 1 + 1 < w4.heap.size := by omega
  have hz4 : w.heap.size ≤ w4.heap.size := hB.size
  clear hb4 z4 hng hsgn hhi hhi0 hhi1 hodd
  cases aw
  · have hm : m = q := by have := Hm.out; simp at this; omega
    clear Hm
    subst hm
    clear Hq0 Hq1
    have k0 : w4.cell? ⟨w3.heap.size + 1 + 1, 0, none⟩ = some (.int .i64 (hiOf (m : Int))) := cell_heap y rfl
    have k1 : w4.cell? ⟨w3.heap.size + 1 + 1, 1, none⟩ = some (.int .u64 (loOf (m : Int))) := cell_heap y rfl
    have f0 : w4.frozen? ⟨w3.heap.size + 1 + 1, 0, none⟩ = false := frozen_of_row _ _ _ _ _ y
    have f1 : w4.frozen? ⟨w3.heap.size + 1 + 1, 1, none⟩ = false := frozen_of_row _ _ _ _ _ y
    have qle : w.heap.size ≤ w3.heap.size + 1 + 1 := by have := B3.out.size; omega
    have hzV : w.heap.size ≤ w4.heap.size := hB.size
    have HF := Lib.hid y
    clear y
    cases neg
    · have hm0 : (m : Int) = res := by have := Hres.out; simp at this; omega
      have HN : Hid (∀ w, Calls Try.prog 64 #[PV (m : Int)] w fun e w' => e = .returned (.tuple #[.int .i64 (tv res), .int .i64 (te res)]) ∧ Below w.heap.size w w') := by
        intro w; rw [← hm0]; exact narrow_c _ Rm1.out w
      clear hm0
      go_wp2_with fail
      ((with_reducible refine (HN.out _).mono ?_); rintro e w5 ⟨rfl, hb5⟩)
      have hB5 : Below w.heap.size w w5 := Below.trans (by first | exact hB | exact hB.drew) (hb5.mono (by first | exact hzV | (simp; omega)))
      clear hb5
      go_wp2_with fail
      go_ret2
      first | exact ⟨rfl, hB5⟩ | exact hB5
    · have hm0 : 0 - (m : Int) = res := by have := Hres.out; simp at this; omega
      have HN : Hid (∀ w, Calls Try.prog 64 #[PV res] w fun e w' => e = .returned (.tuple #[.int .i64 (tv res), .int .i64 (te res)]) ∧ Below w.heap.size w w') := by
        intro w; exact narrow_c _ (by rw [← hm0]; exact Rm2.out) w
      have HM2 : Hid (∀ w, Calls Try.prog 63 #[PV 0, PV (m : Int)] w fun e w' => e = .returned (PV res) ∧ ((w.alloc (PC 0)).alloc (PC (m : Int))).alloc (PC res) = w') := by
        intro w; rw [← hm0]; exact minus_c _ _ R0.out Rm1.out Rm2.out w
      have j0 : (w4.alloc (PC 0)).drew.cell? ⟨w3.heap.size + 1 + 1, 0, none⟩ = some (.int .i64 (hiOf (m : Int))) := by have := HF.out; (focus ((with_reducible apply cell_heap); (focus ((repeat' (first | (with_reducible assumption) | ((with_reducible refine heap_last ?_); (focus (first | (simp; done) | omega | (simp; omega)))) | ((with_reducible refine heap_prev ?_ ?_); (focus (first | (simp; done) | omega | (simp; omega)))) | (with_reducible refine drew_heap ?_) | (with_reducible refine drewN_heap ?_))); done)); rfl))
      have j1 : (w4.alloc (PC 0)).drew.cell? ⟨w3.heap.size + 1 + 1, 1, none⟩ = some (.int .u64 (loOf (m : Int))) := by have := HF.out; (focus ((with_reducible apply cell_heap); (focus ((repeat' (first | (with_reducible assumption) | ((with_reducible refine heap_last ?_); (focus (first | (simp; done) | omega | (simp; omega)))) | ((with_reducible refine heap_prev ?_ ?_); (focus (first | (simp; done) | omega | (simp; omega)))) | (with_reducible refine drew_heap ?_) | (with_reducible refine drewN_heap ?_))); done)); rfl))
      clear hm0
      go_wp2_with fail
      refine wp_region_any (by kernel_rfl) ?_
      change wpAny _ _ _ _ _ _ _ (World.drew _)
      (refine wpAny_ready (rs := [0, 1]) (by kernel_rfl) (by simp) (AllReady.cons rfl (fun K hK => ?_) (AllReady.cons rfl (fun K hK => ?_) AllReady.nil)))
      · go_simp
        ((with_reducible refine (wide_c 0 (by omega) (by omega) _).mono ?_); rintro e w' ⟨rfl, rfl⟩)
        refine hK _ _ ?_
        clear hK K
        (refine wpAny_ready (rs := [1]) (by kernel_rfl) (by simp) (AllReady.cons rfl (fun K hK => ?_) AllReady.nil))
        go_simp
        refine hK _ _ ?_
        clear hK K
        (refine wpAny_ready (rs := [2]) (by kernel_rfl) (by simp) (AllReady.cons rfl (fun K hK => ?_) AllReady.nil))
        go_simp
        ((with_reducible refine (HM2.out _).mono ?_); rintro e w' ⟨rfl, rfl⟩)
        refine hK _ _ ?_
        clear hK K
        (refine wpAny_ready (rs := [3]) (by kernel_rfl) (by simp) (AllReady.cons rfl (fun K hK => ?_) AllReady.nil))
        have hF := HF.out
        refine any_store75 rfl _ _ rfl (w3.heap.size + 1 + 1) res (m : Int) rfl rfl (by (focus ((repeat' (first | (with_reducible assumption) | ((with_reducible refine heap_last ?_); (focus (first | (simp; done) | omega | (simp; omega)))) | ((with_reducible refine heap_prev ?_ ?_); (focus (first | (simp; done) | omega | (simp; omega)))) | (with_reducible refine drew_heap ?_) | (with_reducible refine drewN_heap ?_))); done))) ?_
        intro U hU sU bU
        refine hK _ _ ?_
        clear hK K
        refine wpAny_done (by kernel_rfl) ?_ _
        have BU : Below w.heap.size w U := bU _ _ (by (focus ((repeat' (first | (with_reducible exact Below.refl _ _) | (with_reducible assumption) | (with_reducible refine Below.alloc ?_ ?_ _) | (with_reducible refine Below.setCell ?_ ?_ _) | (with_reducible refine Below.row ?_ ?_ _) | (with_reducible refine Below.drew ?_) | (with_reducible refine below_drewN ?_ _) | (focus (first | (simp; done) | omega | (simp; omega))))); done))) qle
        have u0 : U.cell? ⟨w3.heap.size + 1 + 1, 0, none⟩ = some (.int .i64 (hiOf res)) := cell_heap hU rfl
        have u1 : U.cell? ⟨w3.heap.size + 1 + 1, 1, none⟩ = some (.int .u64 (loOf res)) := cell_heap hU rfl
        have zU := BU.size
        clear hU sU bU hF j0 j1 k0 k1 f0 f1
        go_wp2_with fail
        ((with_reducible refine (HN.out _).mono ?_); rintro e w5 ⟨rfl, hb5⟩)
        have hB5 : Below w.heap.size w w5 := BU.trans (hb5.mono zU)
        clear hb5
        go_wp2_with fail
        go_ret2
        first | exact ⟨rfl, hB5⟩ | exact hB5
      · go_simp
        refine hK _ _ ?_
        clear hK K
        (refine wpAny_ready (rs := [0]) (by kernel_rfl) (by simp) (AllReady.cons rfl (fun K hK => ?_) AllReady.nil))
        go_simp
        ((with_reducible refine (wide_c 0 (by omega) (by omega) _).mono ?_); rintro e w' ⟨rfl, rfl⟩)
        refine hK _ _ ?_
        clear hK K
        (refine wpAny_ready (rs := [2]) (by kernel_rfl) (by simp) (AllReady.cons rfl (fun K hK => ?_) AllReady.nil))
        go_simp
        ((with_reducible refine (HM2.out _).mono ?_); rintro e w' ⟨rfl, rfl⟩)
        refine hK _ _ ?_
        clear hK K
        (refine wpAny_ready (rs := [3]) (by kernel_rfl) (by simp) (AllReady.cons rfl (fun K hK => ?_) AllReady.nil))
        have hF := HF.out
        refine any_store75 rfl _ _ rfl (w3.heap.size + 1 + 1) res (m : Int) rfl rfl (by (focus ((repeat' (first | (with_reducible assumption) | ((with_reducible refine heap_last ?_); (focus (first | (simp; done) | omega | (simp; omega)))) | ((with_reducible refine heap_prev ?_ ?_); (focus (first | (simp; done) | omega | (simp; omega)))) | (with_reducible refine drew_heap ?_) | (with_reducible refine drewN_heap ?_))); done))) ?_
        intro U hU sU bU
        refine hK _ _ ?_
        clear hK K
        refine wpAny_done (by kernel_rfl) ?_ _
        have BU : Below w.heap.size w U := bU _ _ (by (focus ((repeat' (first | (with_reducible exact Below.refl _ _) | (with_reducible assumption) | (with_reducible refine Below.alloc ?_ ?_ _) | (with_reducible refine Below.setCell ?_ ?_ _) | (with_reducible refine Below.row ?_ ?_ _) | (with_reducible refine Below.drew ?_) | (with_reducible refine below_drewN ?_ _) | (focus (first | (simp; done) | omega | (simp; omega))))); done))) qle
        have u0 : U.cell? ⟨w3.heap.size + 1 + 1, 0, none⟩ = some (.int .i64 (hiOf res)) := cell_heap hU rfl
        have u1 : U.cell? ⟨w3.heap.size + 1 + 1, 1, none⟩ = some (.int .u64 (loOf res)) := cell_heap hU rfl
        have zU := BU.size
        clear hU sU bU hF j0 j1 k0 k1 f0 f1
        go_wp2_with fail
        ((with_reducible refine (HN.out _).mono ?_); rintro e w5 ⟨rfl, hb5⟩)
        have hB5 : Below w.heap.size w w5 := BU.trans (hb5.mono zU)
        clear hb5
        go_wp2_with fail
        go_ret2
        first | exact ⟨rfl, hB5⟩ | exact hB5
  · have hm : (q : Int) + 1 = (m : Int) := by have := Hm.out; simp at this; omega
    have HP1 : Hid (∀ w, Calls Try.prog 62 #[PV (q : Int), PV 1] w fun e w' => e = .returned (PV (m : Int)) ∧ ((w.alloc (PC (q : Int))).alloc (PC 1)).alloc (PC (m : Int)) = w') := by
      intro w; rw [← hm]; exact plus_c _ _ Rq.out R1.out Rq1.out w
    clear hm
    have k0 : w4.cell? ⟨w3.heap.size + 1 + 1, 0, none⟩ = some (.int .i64 (hiOf (q : Int))) := cell_heap y rfl
    have k1 : w4.cell? ⟨w3.heap.size + 1 + 1, 1, none⟩ = some (.int .u64 (loOf (q : Int))) := cell_heap y rfl
    have j0 : (w4.alloc (PC 1)).drew.cell? ⟨w3.heap.size + 1 + 1, 0, none⟩ = some (.int .i64 (hiOf (q : Int))) := by (focus ((with_reducible apply cell_heap); (focus ((repeat' (first | (with_reducible assumption) | ((with_reducible refine heap_last ?_); (focus (first | (simp; done) | omega | (simp; omega)))) | ((with_reducible refine heap_prev ?_ ?_); (focus (first | (simp; done) | omega | (simp; omega)))) | (with_reducible refine drew_heap ?_) | (with_reducible refine drewN_heap ?_))); done)); rfl))
    have j1 : (w4.alloc (PC 1)).drew.cell? ⟨w3.heap.size + 1 + 1, 1, none⟩ = some (.int .u64 (loOf (q : Int))) := by (focus ((with_reducible apply cell_heap); (focus ((repeat' (first | (with_reducible assumption) | ((with_reducible refine heap_last ?_); (focus (first | (simp; done) | omega | (simp; omega)))) | ((with_reducible refine heap_prev ?_ ?_); (focus (first | (simp; done) | omega | (simp; omega)))) | (with_reducible refine drew_heap ?_) | (with_reducible refine drewN_heap ?_))); done)); rfl))
    have HY := Lib.hid y; clear y
    go_wp2_with fail
    refine wp_region_any (by kernel_rfl) ?_
    change wpAny _ _ _ _ _ _ _ (World.drew _)
    (refine wpAny_ready (rs := [0, 1]) (by kernel_rfl) (by simp) (AllReady.cons rfl (fun K hK => ?_) (AllReady.cons rfl (fun K hK => ?_) AllReady.nil)))
    · go_simp
      refine hK _ _ ?_
      clear hK K
      (refine wpAny_ready (rs := [1]) (by kernel_rfl) (by simp) (AllReady.cons rfl (fun K hK => ?_) AllReady.nil))
      go_simp
      ((with_reducible refine (wide_c 1 (by omega) (by omega) _).mono ?_); rintro e w' ⟨rfl, rfl⟩)
      refine hK _ _ ?_
      clear hK K
      (refine wpAny_ready (rs := [2]) (by kernel_rfl) (by simp) (AllReady.cons rfl (fun K hK => ?_) AllReady.nil))
      go_simp
      ((with_reducible refine (HP1.out _).mono ?_); rintro e w' ⟨rfl, rfl⟩)
      refine hK _ _ ?_
      clear hK K
      (refine wpAny_ready (rs := [3]) (by kernel_rfl) (by simp) (AllReady.cons rfl (fun K hK => ?_) AllReady.nil))
      have y := HY.out
      refine any_store75 rfl _ _ rfl (w3.heap.size + 1 + 1) (m : Int) (q : Int) rfl rfl (by (focus ((repeat' (first | (with_reducible assumption) | ((with_reducible refine heap_last ?_); (focus (first | (simp; done) | omega | (simp; omega)))) | ((with_reducible refine heap_prev ?_ ?_); (focus (first | (simp; done) | omega | (simp; omega)))) | (with_reducible refine drew_heap ?_) | (with_reducible refine drewN_heap ?_))); done))) ?_
      intro V hV sV bV
      refine hK _ _ ?_
      clear hK K
      refine wpAny_done (by kernel_rfl) ?_ _
      have BV : Below w.heap.size w V := bV _ _ (by (focus ((repeat' (first | (with_reducible exact Below.refl _ _) | (with_reducible assumption) | (with_reducible refine Below.alloc ?_ ?_ _) | (with_reducible refine Below.setCell ?_ ?_ _) | (with_reducible refine Below.row ?_ ?_ _) | (with_reducible refine Below.drew ?_) | (with_reducible refine below_drewN ?_ _) | (focus (first | (simp; done) | omega | (simp; omega))))); done))) (by have := B3.out.size; omega)
      have qltV : w3.heap.size + 1 + 1 < V.heap.size := by rw [sV]; simp; omega
      clear y k0 k1 j0 j1 sV bV HY
      have HBV := Lib.hid BV
      have k0 : V.cell? ⟨w3.heap.size + 1 + 1, 0, none⟩ = some (.int .i64 (hiOf (m : Int))) := cell_heap hV rfl
      have k1 : V.cell? ⟨w3.heap.size + 1 + 1, 1, none⟩ = some (.int .u64 (loOf (m : Int))) := cell_heap hV rfl
      have f0 : V.frozen? ⟨w3.heap.size + 1 + 1, 0, none⟩ = false := frozen_of_row _ _ _ _ _ hV
      have f1 : V.frozen? ⟨w3.heap.size + 1 + 1, 1, none⟩ = false := frozen_of_row _ _ _ _ _ hV
      have qle : w.heap.size ≤ w3.heap.size + 1 + 1 := by have := B3.out.size; omega
      have hzV : w.heap.size ≤ V.heap.size := BV.size
      have HF := Lib.hid hV
      clear hV
      cases neg
      · have hm0 : (m : Int) = res := by have := Hres.out; simp at this; omega
        have HN : Hid (∀ w, Calls Try.prog 64 #[PV (m : Int)] w fun e w' => e = .returned (.tuple #[.int .i64 (tv res), .int .i64 (te res)]) ∧ Below w.heap.size w w') := by
          intro w; rw [← hm0]; exact narrow_c _ Rm1.out w
        clear hm0
        go_wp2_with fail
        ((with_reducible refine (HN.out _).mono ?_); rintro e w5 ⟨rfl, hb5⟩)
        have hB5 : Below w.heap.size w w5 := Below.trans (by first | exact BV | exact BV.drew) (hb5.mono (by first | exact hzV | (simp; omega)))
        clear hb5
        go_wp2_with fail
        go_ret2
        first | exact ⟨rfl, hB5⟩ | exact hB5
      · have hm0 : 0 - (m : Int) = res := by have := Hres.out; simp at this; omega
        have HN : Hid (∀ w, Calls Try.prog 64 #[PV res] w fun e w' => e = .returned (.tuple #[.int .i64 (tv res), .int .i64 (te res)]) ∧ Below w.heap.size w w') := by
          intro w; exact narrow_c _ (by rw [← hm0]; exact Rm2.out) w
        have HM2 : Hid (∀ w, Calls Try.prog 63 #[PV 0, PV (m : Int)] w fun e w' => e = .returned (PV res) ∧ ((w.alloc (PC 0)).alloc (PC (m : Int))).alloc (PC res) = w') := by
          intro w; rw [← hm0]; exact minus_c _ _ R0.out Rm1.out Rm2.out w
        have j0 : (V.alloc (PC 0)).drew.cell? ⟨w3.heap.size + 1 + 1, 0, none⟩ = some (.int .i64 (hiOf (m : Int))) := by have := HF.out; (focus ((with_reducible apply cell_heap); (focus ((repeat' (first | (with_reducible assumption) | ((with_reducible refine heap_last ?_); (focus (first | (simp; done) | omega | (simp; omega)))) | ((with_reducible refine heap_prev ?_ ?_); (focus (first | (simp; done) | omega | (simp; omega)))) | (with_reducible refine drew_heap ?_) | (with_reducible refine drewN_heap ?_))); done)); rfl))
        have j1 : (V.alloc (PC 0)).drew.cell? ⟨w3.heap.size + 1 + 1, 1, none⟩ = some (.int .u64 (loOf (m : Int))) := by have := HF.out; (focus ((with_reducible apply cell_heap); (focus ((repeat' (first | (with_reducible assumption) | ((with_reducible refine heap_last ?_); (focus (first | (simp; done) | omega | (simp; omega)))) | ((with_reducible refine heap_prev ?_ ?_); (focus (first | (simp; done) | omega | (simp; omega)))) | (with_reducible refine drew_heap ?_) | (with_reducible refine drewN_heap ?_))); done)); rfl))
        clear hm0
        go_wp2_with fail
        refine wp_region_any (by kernel_rfl) ?_
        change wpAny _ _ _ _ _ _ _ (World.drew _)
        (refine wpAny_ready (rs := [0, 1]) (by kernel_rfl) (by simp) (AllReady.cons rfl (fun K hK => ?_) (AllReady.cons rfl (fun K hK => ?_) AllReady.nil)))
        · go_simp
          ((with_reducible refine (wide_c 0 (by omega) (by omega) _).mono ?_); rintro e w' ⟨rfl, rfl⟩)
          refine hK _ _ ?_
          clear hK K
          (refine wpAny_ready (rs := [1]) (by kernel_rfl) (by simp) (AllReady.cons rfl (fun K hK => ?_) AllReady.nil))
          go_simp
          refine hK _ _ ?_
          clear hK K
          (refine wpAny_ready (rs := [2]) (by kernel_rfl) (by simp) (AllReady.cons rfl (fun K hK => ?_) AllReady.nil))
          go_simp
          ((with_reducible refine (HM2.out _).mono ?_); rintro e w' ⟨rfl, rfl⟩)
          refine hK _ _ ?_
          clear hK K
          (refine wpAny_ready (rs := [3]) (by kernel_rfl) (by simp) (AllReady.cons rfl (fun K hK => ?_) AllReady.nil))
          have hF := HF.out
          refine any_store75 rfl _ _ rfl (w3.heap.size + 1 + 1) res (m : Int) rfl rfl (by (focus ((repeat' (first | (with_reducible assumption) | ((with_reducible refine heap_last ?_); (focus (first | (simp; done) | omega | (simp; omega)))) | ((with_reducible refine heap_prev ?_ ?_); (focus (first | (simp; done) | omega | (simp; omega)))) | (with_reducible refine drew_heap ?_) | (with_reducible refine drewN_heap ?_))); done))) ?_
          intro U hU sU bU
          refine hK _ _ ?_
          clear hK K
          refine wpAny_done (by kernel_rfl) ?_ _
          have BU : Below w.heap.size w U := bU _ _ (by (focus ((repeat' (first | (with_reducible exact Below.refl _ _) | (with_reducible assumption) | (with_reducible refine Below.alloc ?_ ?_ _) | (with_reducible refine Below.setCell ?_ ?_ _) | (with_reducible refine Below.row ?_ ?_ _) | (with_reducible refine Below.drew ?_) | (with_reducible refine below_drewN ?_ _) | (focus (first | (simp; done) | omega | (simp; omega))))); done))) qle
          have u0 : U.cell? ⟨w3.heap.size + 1 + 1, 0, none⟩ = some (.int .i64 (hiOf res)) := cell_heap hU rfl
          have u1 : U.cell? ⟨w3.heap.size + 1 + 1, 1, none⟩ = some (.int .u64 (loOf res)) := cell_heap hU rfl
          have zU := BU.size
          clear hU sU bU hF j0 j1 k0 k1 f0 f1
          go_wp2_with fail
          ((with_reducible refine (HN.out _).mono ?_); rintro e w5 ⟨rfl, hb5⟩)
          have hB5 : Below w.heap.size w w5 := BU.trans (hb5.mono zU)
          clear hb5
          go_wp2_with fail
          go_ret2
          first | exact ⟨rfl, hB5⟩ | exact hB5
        · go_simp
          refine hK _ _ ?_
          clear hK K
          (refine wpAny_ready (rs := [0]) (by kernel_rfl) (by simp) (AllReady.cons rfl (fun K hK => ?_) AllReady.nil))
          go_simp
          ((with_reducible refine (wide_c 0 (by omega) (by omega) _).mono ?_); rintro e w' ⟨rfl, rfl⟩)
          refine hK _ _ ?_
          clear hK K
          (refine wpAny_ready (rs := [2]) (by kernel_rfl) (by simp) (AllReady.cons rfl (fun K hK => ?_) AllReady.nil))
          go_simp
          ((with_reducible refine (HM2.out _).mono ?_); rintro e w' ⟨rfl, rfl⟩)
          refine hK _ _ ?_
          clear hK K
          (refine wpAny_ready (rs := [3]) (by kernel_rfl) (by simp) (AllReady.cons rfl (fun K hK => ?_) AllReady.nil))
          have hF := HF.out
          refine any_store75 rfl _ _ rfl (w3.heap.size + 1 + 1) res (m : Int) rfl rfl (by (focus ((repeat' (first | (with_reducible assumption) | ((with_reducible refine heap_last ?_); (focus (first | (simp; done) | omega | (simp; omega)))) | ((with_reducible refine heap_prev ?_ ?_); (focus (first | (simp; done) | omega | (simp; omega)))) | (with_reducible refine drew_heap ?_) | (with_reducible refine drewN_heap ?_))); done))) ?_
          intro U hU sU bU
          refine hK _ _ ?_
          clear hK K
          refine wpAny_done (by kernel_rfl) ?_ _
          have BU : Below w.heap.size w U := bU _ _ (by (focus ((repeat' (first | (with_reducible exact Below.refl _ _) | (with_reducible assumption) | (with_reducible refine Below.alloc ?_ ?_ _) | (with_reducible refine Below.setCell ?_ ?_ _) | (with_reducible refine Below.row ?_ ?_ _) | (with_reducible refine Below.drew ?_) | (with_reducible refine below_drewN ?_ _) | (focus (first | (simp; done) | omega | (simp; omega))))); done))) qle
          have u0 : U.cell? ⟨w3.heap.size + 1 + 1, 0, none⟩ = some (.int .i64 (hiOf res)) := cell_heap hU rfl
          have u1 : U.cell? ⟨w3.heap.size + 1 + 1, 1, none⟩ = some (.int .u64 (loOf res)) := cell_heap hU rfl
          have zU := BU.size
          clear hU sU bU hF j0 j1 k0 k1 f0 f1
          go_wp2_with fail
          ((with_reducible refine (HN.out _).mono ?_); rintro e w5 ⟨rfl, hb5⟩)
          have hB5 : Below w.heap.size w w5 := BU.trans (hb5.mono zU)
          clear hb5
          go_wp2_with fail
          go_ret2
          first | exact ⟨rfl, hB5⟩ | exact hB5
    · go_simp
      ((with_reducible refine (wide_c 1 (by omega) (by omega) _).mono ?_); rintro e w' ⟨rfl, rfl⟩)
      refine hK _ _ ?_
      clear hK K
      (refine wpAny_ready (rs := [0]) (by kernel_rfl) (by simp) (AllReady.cons rfl (fun K hK => ?_) AllReady.nil))
      go_simp
      refine hK _ _ ?_
      clear hK K
      (refine wpAny_ready (rs := [2]) (by kernel_rfl) (by simp) (AllReady.cons rfl (fun K hK => ?_) AllReady.nil))
      go_simp
      ((with_reducible refine (HP1.out _).mono ?_); rintro e w' ⟨rfl, rfl⟩)
      refine hK _ _ ?_
      clear hK K
      (refine wpAny_ready (rs := [3]) (by kernel_rfl) (by simp) (AllReady.cons rfl (fun K hK => ?_) AllReady.nil))
      have y := HY.out
      refine any_store75 rfl _ _ rfl (w3.heap.size + 1 + 1) (m : Int) (q : Int) rfl rfl (by (focus ((repeat' (first | (with_reducible assumption) | ((with_reducible refine heap_last ?_); (focus (first | (simp; done) | omega | (simp; omega)))) | ((with_reducible refine heap_prev ?_ ?_); (focus (first | (simp; done) | omega | (simp; omega)))) | (with_reducible refine drew_heap ?_) | (with_reducible refine drewN_heap ?_))); done))) ?_
      intro V hV sV bV
      refine hK _ _ ?_
      clear hK K
      refine wpAny_done (by kernel_rfl) ?_ _
      have BV : Below w.heap.size w V := bV _ _ (by (focus ((repeat' (first | (with_reducible exact Below.refl _ _) | (with_reducible assumption) | (with_reducible refine Below.alloc ?_ ?_ _) | (with_reducible refine Below.setCell ?_ ?_ _) | (with_reducible refine Below.row ?_ ?_ _) | (with_reducible refine Below.drew ?_) | (with_reducible refine below_drewN ?_ _) | (focus (first | (simp; done) | omega | (simp; omega))))); done))) (by have := B3.out.size; omega)
      have qltV : w3.heap.size + 1 + 1 < V.heap.size := by rw [sV]; simp; omega
      clear y k0 k1 j0 j1 sV bV HY
      have HBV := Lib.hid BV
      have k0 : V.cell? ⟨w3.heap.size + 1 + 1, 0, none⟩ = some (.int .i64 (hiOf (m : Int))) := cell_heap hV rfl
      have k1 : V.cell? ⟨w3.heap.size + 1 + 1, 1, none⟩ = some (.int .u64 (loOf (m : Int))) := cell_heap hV rfl
      have f0 : V.frozen? ⟨w3.heap.size + 1 + 1, 0, none⟩ = false := frozen_of_row _ _ _ _ _ hV
      have f1 : V.frozen? ⟨w3.heap.size + 1 + 1, 1, none⟩ = false := frozen_of_row _ _ _ _ _ hV
      have qle : w.heap.size ≤ w3.heap.size + 1 + 1 := by have := B3.out.size; omega
      have hzV : w.heap.size ≤ V.heap.size := BV.size
      have HF := Lib.hid hV
      clear hV
      cases neg
      · have hm0 : (m : Int) = res := by have := Hres.out; simp at this; omega
        have HN : Hid (∀ w, Calls Try.prog 64 #[PV (m : Int)] w fun e w' => e = .returned (.tuple #[.int .i64 (tv res), .int .i64 (te res)]) ∧ Below w.heap.size w w') := by
          intro w; rw [← hm0]; exact narrow_c _ Rm1.out w
        clear hm0
        go_wp2_with fail
        ((with_reducible refine (HN.out _).mono ?_); rintro e w5 ⟨rfl, hb5⟩)
        have hB5 : Below w.heap.size w w5 := Below.trans (by first | exact BV | exact BV.drew) (hb5.mono (by first | exact hzV | (simp; omega)))
        clear hb5
        go_wp2_with fail
        go_ret2
        first | exact ⟨rfl, hB5⟩ | exact hB5
      · have hm0 : 0 - (m : Int) = res := by have := Hres.out; simp at this; omega
        have HN : Hid (∀ w, Calls Try.prog 64 #[PV res] w fun e w' => e = .returned (.tuple #[.int .i64 (tv res), .int .i64 (te res)]) ∧ Below w.heap.size w w') := by
          intro w; exact narrow_c _ (by rw [← hm0]; exact Rm2.out) w
        have HM2 : Hid (∀ w, Calls Try.prog 63 #[PV 0, PV (m : Int)] w fun e w' => e = .returned (PV res) ∧ ((w.alloc (PC 0)).alloc (PC (m : Int))).alloc (PC res) = w') := by
          intro w; rw [← hm0]; exact minus_c _ _ R0.out Rm1.out Rm2.out w
        have j0 : (V.alloc (PC 0)).drew.cell? ⟨w3.heap.size + 1 + 1, 0, none⟩ = some (.int .i64 (hiOf (m : Int))) := by have := HF.out; (focus ((with_reducible apply cell_heap); (focus ((repeat' (first | (with_reducible assumption) | ((with_reducible refine heap_last ?_); (focus (first | (simp; done) | omega | (simp; omega)))) | ((with_reducible refine heap_prev ?_ ?_); (focus (first | (simp; done) | omega | (simp; omega)))) | (with_reducible refine drew_heap ?_) | (with_reducible refine drewN_heap ?_))); done)); rfl))
        have j1 : (V.alloc (PC 0)).drew.cell? ⟨w3.heap.size + 1 + 1, 1, none⟩ = some (.int .u64 (loOf (m : Int))) := by have := HF.out; (focus ((with_reducible apply cell_heap); (focus ((repeat' (first | (with_reducible assumption) | ((with_reducible refine heap_last ?_); (focus (first | (simp; done) | omega | (simp; omega)))) | ((with_reducible refine heap_prev ?_ ?_); (focus (first | (simp; done) | omega | (simp; omega)))) | (with_reducible refine drew_heap ?_) | (with_reducible refine drewN_heap ?_))); done)); rfl))
        clear hm0
        go_wp2_with fail
        refine wp_region_any (by kernel_rfl) ?_
        change wpAny _ _ _ _ _ _ _ (World.drew _)
        (refine wpAny_ready (rs := [0, 1]) (by kernel_rfl) (by simp) (AllReady.cons rfl (fun K hK => ?_) (AllReady.cons rfl (fun K hK => ?_) AllReady.nil)))
        · go_simp
          ((with_reducible refine (wide_c 0 (by omega) (by omega) _).mono ?_); rintro e w' ⟨rfl, rfl⟩)
          refine hK _ _ ?_
          clear hK K
          (refine wpAny_ready (rs := [1]) (by kernel_rfl) (by simp) (AllReady.cons rfl (fun K hK => ?_) AllReady.nil))
          go_simp
          refine hK _ _ ?_
          clear hK K
          (refine wpAny_ready (rs := [2]) (by kernel_rfl) (by simp) (AllReady.cons rfl (fun K hK => ?_) AllReady.nil))
          go_simp
          ((with_reducible refine (HM2.out _).mono ?_); rintro e w' ⟨rfl, rfl⟩)
          refine hK _ _ ?_
          clear hK K
          (refine wpAny_ready (rs := [3]) (by kernel_rfl) (by simp) (AllReady.cons rfl (fun K hK => ?_) AllReady.nil))
          have hF := HF.out
          refine any_store75 rfl _ _ rfl (w3.heap.size + 1 + 1) res (m : Int) rfl rfl (by (focus ((repeat' (first | (with_reducible assumption) | ((with_reducible refine heap_last ?_); (focus (first | (simp; done) | omega | (simp; omega)))) | ((with_reducible refine heap_prev ?_ ?_); (focus (first | (simp; done) | omega | (simp; omega)))) | (with_reducible refine drew_heap ?_) | (with_reducible refine drewN_heap ?_))); done))) ?_
          intro U hU sU bU
          refine hK _ _ ?_
          clear hK K
          refine wpAny_done (by kernel_rfl) ?_ _
          have BU : Below w.heap.size w U := bU _ _ (by (focus ((repeat' (first | (with_reducible exact Below.refl _ _) | (with_reducible assumption) | (with_reducible refine Below.alloc ?_ ?_ _) | (with_reducible refine Below.setCell ?_ ?_ _) | (with_reducible refine Below.row ?_ ?_ _) | (with_reducible refine Below.drew ?_) | (with_reducible refine below_drewN ?_ _) | (focus (first | (simp; done) | omega | (simp; omega))))); done))) qle
          have u0 : U.cell? ⟨w3.heap.size + 1 + 1, 0, none⟩ = some (.int .i64 (hiOf res)) := cell_heap hU rfl
          have u1 : U.cell? ⟨w3.heap.size + 1 + 1, 1, none⟩ = some (.int .u64 (loOf res)) := cell_heap hU rfl
          have zU := BU.size
          clear hU sU bU hF j0 j1 k0 k1 f0 f1
          go_wp2_with fail
          ((with_reducible refine (HN.out _).mono ?_); rintro e w5 ⟨rfl, hb5⟩)
          have hB5 : Below w.heap.size w w5 := BU.trans (hb5.mono zU)
          clear hb5
          go_wp2_with fail
          go_ret2
          first | exact ⟨rfl, hB5⟩ | exact hB5
        · go_simp
          refine hK _ _ ?_
          clear hK K
          (refine wpAny_ready (rs := [0]) (by kernel_rfl) (by simp) (AllReady.cons rfl (fun K hK => ?_) AllReady.nil))
          go_simp
          ((with_reducible refine (wide_c 0 (by omega) (by omega) _).mono ?_); rintro e w' ⟨rfl, rfl⟩)
          refine hK _ _ ?_
          clear hK K
          (refine wpAny_ready (rs := [2]) (by kernel_rfl) (by simp) (AllReady.cons rfl (fun K hK => ?_) AllReady.nil))
          go_simp
          ((with_reducible refine (HM2.out _).mono ?_); rintro e w' ⟨rfl, rfl⟩)
          refine hK _ _ ?_
          clear hK K
          (refine wpAny_ready (rs := [3]) (by kernel_rfl) (by simp) (AllReady.cons rfl (fun K hK => ?_) AllReady.nil))
          have hF := HF.out
          refine any_store75 rfl _ _ rfl (w3.heap.size + 1 + 1) res (m : Int) rfl rfl (by (focus ((repeat' (first | (with_reducible assumption) | ((with_reducible refine heap_last ?_); (focus (first | (simp; done) | omega | (simp; omega)))) | ((with_reducible refine heap_prev ?_ ?_); (focus (first | (simp; done) | omega | (simp; omega)))) | (with_reducible refine drew_heap ?_) | (with_reducible refine drewN_heap ?_))); done))) ?_
          intro U hU sU bU
          refine hK _ _ ?_
          clear hK K
          refine wpAny_done (by kernel_rfl) ?_ _
          have BU : Below w.heap.size w U := bU _ _ (by (focus ((repeat' (first | (with_reducible exact Below.refl _ _) | (with_reducible assumption) | (with_reducible refine Below.alloc ?_ ?_ _) | (with_reducible refine Below.setCell ?_ ?_ _) | (with_reducible refine Below.row ?_ ?_ _) | (with_reducible refine Below.drew ?_) | (with_reducible refine below_drewN ?_ _) | (focus (first | (simp; done) | omega | (simp; omega))))); done))) qle
          have u0 : U.cell? ⟨w3.heap.size + 1 + 1, 0, none⟩ = some (.int .i64 (hiOf res)) := cell_heap hU rfl
          have u1 : U.cell? ⟨w3.heap.size + 1 + 1, 1, none⟩ = some (.int .u64 (loOf res)) := cell_heap hU rfl
          have zU := BU.size
          clear hU sU bU hF j0 j1 k0 k1 f0 f1
          go_wp2_with fail
          ((with_reducible refine (HN.out _).mono ?_); rintro e w5 ⟨rfl, hb5⟩)
          have hB5 : Below w.heap.size w w5 := BU.trans (hb5.mono zU)
          clear hb5
          go_wp2_with fail
          go_ret2
          first | exact ⟨rfl, hB5⟩ | exact hB5
end Go.Proofs.Ytdjbnnjcifgnlaa

namespace Go.Proofs.Ytdjbnnjcifgnlaa
open Go.RowKit

theorem Div_c (a b c round : Int) (ha : InR a) (hb : InR b) (hc : InR c) (hc0 : c ≠ 0) (hround : round = 1 ∨ round = 2 ∨ round = 3) (n d : Nat) (hn : n = (a * b).natAbs) (hd : d = c.natAbs) (hlt : n / 18446744073709551616 < d)
    (D64 : ∀ w, Calls Try.prog 60 #[.int .u64 (hiOf (n : Int)), .int .u64 (loOf (n : Int)), .int .u64 (loOf (d : Int))] w fun e w' => e = .returned (.tuple #[.int .u64 ((n / d : Nat) : Int), .int .u64 ((n % d : Nat) : Int)]) ∧ ∃ nq, w.drewN nq = w') (w : World) :
    Calls Try.prog 43 #[.int .i64 a, .int .i64 b, .int .i64 c, .int .i64 round] w fun e w' => e = .returned (.tuple #[.int .i64 (tv (divR a b c round)), .int .i64 (te (divR a b c round))]) ∧ Below w.heap.size w w' := by
  have hdpos : 0 < d := by omega
  have hd64 : d < 2 ^ 64 := by rw [hd]; unfold InR at hc; omega
  have hr64 : n % d < 2 ^ 64 := by have := Nat.mod_lt n hdpos; omega
  have hq64 : n / d < 2 ^ 64 := by
    rw [Nat.div_lt_iff_lt_mul hdpos]
    have h1 := Nat.div_add_mod n 18446744073709551616
    have h2 := Nat.mod_lt n (show 0 < 18446744073709551616 by omega)
    have h3 : n / 18446744073709551616 + 1 ≤ d := hlt
    have h4 := Nat.mul_le_mul_left 18446744073709551616 h3
    omega
  have hprm := times_rm ha hb
  have hprn := times_neg ha hb
  obtain ⟨p, hp⟩ : ∃ p, p = a * b := ⟨_, rfl⟩
  rw [← hp] at hprm hprn hn
  obtain ⟨neg, hneg⟩ : ∃ neg, neg = (decide (p < 0) != decide (c < 0)) := ⟨_, rfl⟩
  obtain ⟨odd, hodd⟩ : ∃ odd, odd = decide (n / d % 2 = 1) := ⟨_, rfl⟩
  obtain ⟨aw, haw⟩ : ∃ aw, aw = awayB round neg odd (n % d) d := ⟨_, rfl⟩
  have hres : divR a b c round = if neg then -((n / d + if aw then 1 else 0 : Nat) : Int) else ((n / d + if aw then 1 else 0 : Nat) : Int) := by
    rw [haw, hneg, hodd, hn, hd, hp]; rfl
  have hodd' := and_one (n / d) (by omega)
  rw [← hodd] at hodd'
  have HO : Hid (∀ w, Calls Try.prog 61 #[.int .i64 round, .bool neg, .bool odd, .agg #[.int .i64 0, .int .u64 ((n % d : Nat) : Int)], PV (d : Int)] w fun e w' => e = .returned (.bool aw) ∧ Below w.heap.size w w') := by
    intro w
    have := outward_c round neg odd (n % d) d hr64 hd64 hround aw haw w
    unfold PV at this ⊢
    rw [small_hi _ hr64, small_lo _ hr64] at this
    exact this
  have hhi : hiOf (n : Int) < loOf (d : Int) := by unfold hiOf loOf; omega
  have hhi0 : 0 ≤ hiOf (n : Int) := by unfold hiOf; omega
  have hhi1 : hiOf (n : Int) ≤ 9223372036854775807 := (hi_bd (x := (n : Int)) (by rw [hn]; unfold Rm at hprm hprn ⊢; omega)).2
  have HT : Hid (∀ w, Calls Try.prog 57 #[.int .i64 a, .int .i64 b] w fun e w' => e = .returned (PV p) ∧ Below w.heap.size w w') := by
    intro w; rw [hp]; exact times_c a b ha hb w
  have HS : Hid (∀ w, Calls Try.prog 58 #[PV p] w fun e w' => e = .returned (PV (n : Int)) ∧ Below w.heap.size w w') := by
    intro w; rw [hn]; exact size_c p hprm hprn w
  have HSc : Hid (∀ w, Calls Try.prog 58 #[PV c] w fun e w' => e = .returned (PV (d : Int)) ∧ Below w.heap.size w w') := by
    intro w; rw [hd]; exact size_c c (rm_in hc) (by unfold InR at hc; unfold Rm; omega) w
  rcases hround with h | h | h
  · exact Div_core1 a b c round p n d (n / d) (n % d) neg odd aw hc.1 hc.2 (by simp [hc0]) h hprm hneg hodd' hq64 hr64 hhi hhi0 hhi1 HT HS HSc HO D64 _ rfl _ hres w
  · exact Div_core2 a b c round p n d (n / d) (n % d) neg odd aw hc.1 hc.2 (by simp [hc0]) h hprm hneg hodd' hq64 hr64 hhi hhi0 hhi1 HT HS HSc HO D64 _ rfl _ hres w
  · exact Div_core3 a b c round p n d (n / d) (n % d) neg odd aw hc.1 hc.2 (by simp [hc0]) h hprm hneg hodd' hq64 hr64 hhi hhi0 hhi1 HT HS HSc HO D64 _ rfl _ hres w

set_option maxHeartbeats 1000000 in
theorem Div64_small (lo y : Nat) (hl : lo < 2 ^ 64) (hy : 0 < y) (hy2 : y < 2 ^ 64) (w : World) :
    Calls Try.prog 60 #[.int .u64 0, .int .u64 (lo : Int), .int .u64 (y : Int)] w fun e w' => e = .returned (.tuple #[.int .u64 ((lo / y : Nat) : Int), .int .u64 ((lo % y : Nat) : Int)]) ∧ ∃ nq, w.drewN nq = w' := by
  have e0 : ((y : Int) == 0) = false := by simp; omega
  have e1 : ¬ (y : Int) ≤ 0 := by omega
  have b0 : (0 : Int) ≤ (lo : Int) := by omega
  have b1 : (lo : Int) ≤ 18446744073709551615 := by omega
  have b2 : (1 : Int) ≤ (y : Int) := by omega
  have b3 : (y : Int) ≤ 18446744073709551615 := by omega
  go_enter Try.func60, Try.ntmps60
  go_wp2
  go_quiet (fail)
  go_wp2
  go_ret2
  refine ⟨ret_two ?_ ?_, _, rfl⟩
  · rw [IntKind.wrap_u64, ← Int.natCast_ediv]
    have := Nat.div_le_self lo y
    generalize lo / y = k at *
    omega
  · rw [← Int.natCast_emod]

end Go.Proofs.Ytdjbnnjcifgnlaa

namespace Go.Proofs.Ytdjbnnjcifgnlaa
open Go.RowKit Go.Sort Go.Lib Go.Shelf

section
variable {ops : Array Oper} {rest : List Oper} {o : Oper} {a : Act} {w : World} {Q : Exit → Act → World → Prop}
end
set_option maxHeartbeats 4000000 in
set_option maxRecDepth 100000 in
theorem crosses_c (s a b : Int) (w : World) : Calls Try.prog 39 #[.int .i64 s, .int .i64 a, .int .i64 b] w fun e w' => e = .returned (.bool (croN s a b)) ∧ w = w' := by
  have HA0 := fun w => asBuyer_c s a b w
  by_cases h1 : s = 1
  · rw [if_pos h1, if_pos h1] at HA0
    have e : croN s a b = decide (b ≤ a) := by unfold croN; simp [h1]
    have e1 : (s == 1) = true := by simp [h1]
    rw [e1, Bool.true_or] at HA0
    have HA := Lib.hid HA0
    rw [e]
    clear HA0 h1 e e1
    go_enter Try.func39, Try.ntmps39
    go_wp2_with ((with_reducible refine (HA.out _).mono ?_); rintro e w' ⟨rfl, rfl⟩)
    go_ret
    exact ⟨rfl, rfl⟩
  rw [if_neg h1, if_neg h1] at HA0
  by_cases h2 : s = 2
  · rw [if_pos h2, if_pos h2] at HA0
    have e : croN s a b = decide (a ≤ b) := by unfold croN; simp [h2]
    have e1 : (s == 2) = true := by simp [h2]
    rw [e1, Bool.or_true] at HA0
    have HA := Lib.hid HA0
    rw [e]
    clear HA0 h1 h2 e e1
    go_enter Try.func39, Try.ntmps39
    go_wp2_with ((with_reducible refine (HA.out _).mono ?_); rintro e w' ⟨rfl, rfl⟩)
    go_ret
    exact ⟨rfl, rfl⟩
  rw [if_neg h2, if_neg h2] at HA0
  have e : croN s a b = false := by unfold croN; simp [h1, h2]
  have e1 : (s == 1) = false := by simp [h1]
  have e2 : (s == 2) = false := by simp [h2]
  rw [e1, e2] at HA0
  have HA := Lib.hid HA0
  rw [e]
  clear HA0 h1 h2 e e1 e2
  go_enter Try.func39, Try.ntmps39
  go_wp2_with ((with_reducible refine (HA.out _).mono ?_); rintro e w' ⟨rfl, rfl⟩)
  go_ret
  exact ⟨rfl, rfl⟩
set_option maxHeartbeats 4000000 in
set_option maxRecDepth 100000 in
theorem rBetter_c (s a b : Int) (w : World) : Calls Try.prog 103 #[.int .i64 s, .int .i64 a, .int .i64 b] w fun e w' => e = .returned (.bool (betN s a b)) ∧ w = w' := by
  by_cases h1 : s = 1
  · have e1 : (s == 1) = true := by simp [h1]
    have e2 : (s == 2) = false := by simp [h1]
    by_cases hd : b < a
    · have e : betN s a b = true := by unfold betN; simp [h1, hd]
      have g := decide_eq_true hd
      rw [e]
      clear h1 e
      go_enter Try.func103, Try.ntmps103
      go_wp2_with fail
      go_ret
      exact ⟨rfl, rfl⟩
    · have e : betN s a b = false := by unfold betN; simp [h1]; omega
      have g := decide_eq_false hd
      rw [e]
      clear h1 e
      go_enter Try.func103, Try.ntmps103
      go_wp2_with fail
      go_ret
      exact ⟨rfl, rfl⟩
  have e1 : (s == 1) = false := by simp [h1]
  by_cases h2 : s = 2
  · have e2 : (s == 2) = true := by simp [h2]
    by_cases hd : a < b
    · have e : betN s a b = true := by unfold betN; simp [h2, hd]
      have g := decide_eq_true hd
      rw [e]
      clear h1 h2 e
      go_enter Try.func103, Try.ntmps103
      go_wp2_with fail
      go_ret
      exact ⟨rfl, rfl⟩
    · have e : betN s a b = false := by unfold betN; simp [h2]; omega
      have g := decide_eq_false hd
      rw [e]
      clear h1 h2 e
      go_enter Try.func103, Try.ntmps103
      go_wp2_with fail
      go_ret
      exact ⟨rfl, rfl⟩
  have e2 : (s == 2) = false := by simp [h2]
  have e : betN s a b = false := by unfold betN; simp [h1, h2]
  rw [e]
  clear h1 h2 e
  go_enter Try.func103, Try.ntmps103
  go_wp2_with fail
  go_ret
  exact ⟨rfl, rfl⟩
set_option maxHeartbeats 4000000 in
set_option maxRecDepth 100000 in
theorem ra_unlike (x y : Od) (w : World) (h : x.side ≠ y.side) : Calls Try.prog 87 #[.agg #[.int .u64 x.id, .int .i64 x.acc, .int .i64 x.side, .int .i64 x.price, .int .i64 x.qty, .int .u64 x.seq], .agg #[.int .u64 y.id, .int .i64 y.acc, .int .i64 y.side, .int .i64 y.price, .int .i64 y.qty, .int .u64 y.seq]] w fun e w' => e = .returned (.bool (false)) ∧ Gw w w' := by
  have e1 : (x.side != y.side) = true := by simp [h]
  clear h
  go_enter Try.func87, Try.ntmps87
  go_wp2_with fail
  go_ret
  exact ⟨rfl, ((Gw.refl w).alloc _).alloc _⟩
set_option maxHeartbeats 4000000 in
set_option maxRecDepth 100000 in
theorem ra_low (x y : Od) (w : World) (h : x.side = y.side) (h2 : x.side < 1) : Calls Try.prog 87 #[.agg #[.int .u64 x.id, .int .i64 x.acc, .int .i64 x.side, .int .i64 x.price, .int .i64 x.qty, .int .u64 x.seq], .agg #[.int .u64 y.id, .int .i64 y.acc, .int .i64 y.side, .int .i64 y.price, .int .i64 y.qty, .int .u64 y.seq]] w fun e w' => e = .returned (.bool (false)) ∧ Gw w w' := by
  have e1 : (x.side != y.side) = false := by simp [h]
  clear h
  go_enter Try.func87, Try.ntmps87
  go_wp2_with fail
  go_ret
  exact ⟨rfl, ((Gw.refl w).alloc _).alloc _⟩
set_option maxHeartbeats 4000000 in
set_option maxRecDepth 100000 in
theorem ra_high (x y : Od) (w : World) (h : x.side = y.side) (h2 : 2 < x.side) : Calls Try.prog 87 #[.agg #[.int .u64 x.id, .int .i64 x.acc, .int .i64 x.side, .int .i64 x.price, .int .i64 x.qty, .int .u64 x.seq], .agg #[.int .u64 y.id, .int .i64 y.acc, .int .i64 y.side, .int .i64 y.price, .int .i64 y.qty, .int .u64 y.seq]] w fun e w' => e = .returned (.bool (false)) ∧ Gw w w' := by
  have e1 : (x.side != y.side) = false := by simp [h]
  have e2 : ¬ x.side < 1 := by omega
  clear h
  go_enter Try.func87, Try.ntmps87
  go_wp2_with fail
  go_ret
  exact ⟨rfl, ((Gw.refl w).alloc _).alloc _⟩
set_option maxHeartbeats 4000000 in
set_option maxRecDepth 100000 in
theorem ra_price (x y : Od) (w : World) (h : x.side = y.side) (h1 : 1 ≤ x.side) (h2 : x.side ≤ 2) (h3 : x.price ≠ y.price) : Calls Try.prog 87 #[.agg #[.int .u64 x.id, .int .i64 x.acc, .int .i64 x.side, .int .i64 x.price, .int .i64 x.qty, .int .u64 x.seq], .agg #[.int .u64 y.id, .int .i64 y.acc, .int .i64 y.side, .int .i64 y.price, .int .i64 y.qty, .int .u64 y.seq]] w fun e w' => e = .returned (.bool (betN x.side x.price y.price)) ∧ Gw w w' := by
  have e1 : (x.side != y.side) = false := by simp [h]
  have e2 : ¬ x.side < 1 := by omega
  have e3 : ¬ 2 < x.side := by omega
  have e4 : (x.price != y.price) = true := by simp [h3]
  have HB := Lib.hid (rBetter_c x.side x.price y.price)
  generalize betN x.side x.price y.price = r at *
  clear h h1 h2 h3
  go_enter Try.func87, Try.ntmps87
  go_wp2_with ((with_reducible refine (HB.out _).mono ?_); rintro e w' ⟨rfl, rfl⟩)
  go_ret
  exact ⟨rfl, ((Gw.refl w).alloc _).alloc _⟩
set_option maxHeartbeats 4000000 in
set_option maxRecDepth 100000 in
theorem ra_seq (x y : Od) (w : World) (h : x.side = y.side) (h1 : 1 ≤ x.side) (h2 : x.side ≤ 2) (h3 : x.price = y.price) (h4 : x.seq ≠ y.seq) : Calls Try.prog 87 #[.agg #[.int .u64 x.id, .int .i64 x.acc, .int .i64 x.side, .int .i64 x.price, .int .i64 x.qty, .int .u64 x.seq], .agg #[.int .u64 y.id, .int .i64 y.acc, .int .i64 y.side, .int .i64 y.price, .int .i64 y.qty, .int .u64 y.seq]] w fun e w' => e = .returned (.bool (decide (x.seq < y.seq))) ∧ Gw w w' := by
  have e1 : (x.side != y.side) = false := by simp [h]
  have e2 : ¬ x.side < 1 := by omega
  have e3 : ¬ 2 < x.side := by omega
  have e4 : (x.price != y.price) = false := by simp [h3]
  have e5 : (x.seq != y.seq) = true := by simp [h4]
  clear h h1 h2 h3 h4
  go_enter Try.func87, Try.ntmps87
  go_wp2_with fail
  go_ret
  exact ⟨rfl, ((Gw.refl w).alloc _).alloc _⟩
set_option maxHeartbeats 4000000 in
set_option maxRecDepth 100000 in
theorem ra_id (x y : Od) (w : World) (h : x.side = y.side) (h1 : 1 ≤ x.side) (h2 : x.side ≤ 2) (h3 : x.price = y.price) (h4 : x.seq = y.seq) : Calls Try.prog 87 #[.agg #[.int .u64 x.id, .int .i64 x.acc, .int .i64 x.side, .int .i64 x.price, .int .i64 x.qty, .int .u64 x.seq], .agg #[.int .u64 y.id, .int .i64 y.acc, .int .i64 y.side, .int .i64 y.price, .int .i64 y.qty, .int .u64 y.seq]] w fun e w' => e = .returned (.bool (decide (x.id < y.id))) ∧ Gw w w' := by
  have e1 : (x.side != y.side) = false := by simp [h]
  have e2 : ¬ x.side < 1 := by omega
  have e3 : ¬ 2 < x.side := by omega
  have e4 : (x.price != y.price) = false := by simp [h3]
  have e5 : (x.seq != y.seq) = false := by simp [h4]
  clear h h1 h2 h3 h4
  go_enter Try.func87, Try.ntmps87
  go_wp2_with fail
  go_ret
  exact ⟨rfl, ((Gw.refl w).alloc _).alloc _⟩
theorem cmp_lt (q i q' i' : Int) : decide ((if cmpN q q' = 0 then cmpN i i' else cmpN q q') < 0) = if q ≠ q' then decide (q < q') else decide (i < i') := by
  by_cases h : q = q'
  · rw [if_pos ((cmpN_0 q q').2 h), if_neg (fun k => k h)]
    by_cases k : i < i'
    · rw [decide_eq_true k]; exact decide_eq_true ((cmpN_lt i i').2 k)
    · rw [decide_eq_false k]; exact decide_eq_false (fun h => k ((cmpN_lt i i').1 h))
  · rw [if_pos h, if_neg (fun k => h ((cmpN_0 q q').1 k))]
    by_cases k : q < q'
    · rw [decide_eq_true k]; exact decide_eq_true ((cmpN_lt q q').2 k)
    · rw [decide_eq_false k]; exact decide_eq_false (fun h => k ((cmpN_lt q q').1 h))
theorem rAhead_c (x y : Od) (w : World) : Calls Try.prog 87 #[.agg #[.int .u64 x.id, .int .i64 x.acc, .int .i64 x.side, .int .i64 x.price, .int .i64 x.qty, .int .u64 x.seq], .agg #[.int .u64 y.id, .int .i64 y.acc, .int .i64 y.side, .int .i64 y.price, .int .i64 y.qty, .int .u64 y.seq]] w fun e w' => e = .returned (.bool (ahdO x y)) ∧ Gw w w' := by
  unfold ahdO ahdN
  by_cases h : x.side = y.side
  rotate_left
  · rw [if_pos (.inl h)]; exact ra_unlike x y w h
  by_cases h1 : x.side < 1
  · rw [if_pos (.inr (by omega))]; exact ra_low x y w h h1
  by_cases h2 : 2 < x.side
  · rw [if_pos (.inr (by omega))]; exact ra_high x y w h h2
  rw [if_neg (by omega)]
  by_cases h3 : x.price = y.price
  rotate_left
  · rw [if_pos h3]; exact ra_price x y w h (by omega) (by omega) h3
  rw [if_neg (by simp [h3]), cmp_lt]
  by_cases h4 : x.seq = y.seq
  rotate_left
  · rw [if_pos h4]; exact ra_seq x y w h (by omega) (by omega) h3 h4
  rw [if_neg (by simp [h4])]
  exact ra_id x y w h (by omega) (by omega) h3 h4
set_option maxHeartbeats 4000000 in
set_option maxRecDepth 100000 in
theorem rg_w0_1 (x : Od) (w : World) (h0 : ¬ (0 ≤ x.acc)) : Calls Try.prog 37 #[.agg #[.int .u64 x.id, .int .i64 x.acc, .int .i64 x.side, .int .i64 x.price, .int .i64 x.qty, .int .u64 x.seq]] w fun e w' => e = .returned (.bool false) ∧ Gw w w' := by
  have g : decide (0 ≤ x.acc) = false := decide_eq_false h0
  go_enter Try.func37, Try.ntmps37
  go_wp2_with fail
  go_ret
  exact ⟨rfl, (Gw.refl w).alloc _⟩
set_option maxHeartbeats 4000000 in
set_option maxRecDepth 100000 in
theorem rg_w1_1 (x : Od) (w : World) (h0 : (0 ≤ x.acc)) (h1 : ¬ (x.acc < 8)) : Calls Try.prog 37 #[.agg #[.int .u64 x.id, .int .i64 x.acc, .int .i64 x.side, .int .i64 x.price, .int .i64 x.qty, .int .u64 x.seq]] w fun e w' => e = .returned (.bool false) ∧ Gw w w' := by
  have g : decide (x.acc < 8) = false := decide_eq_false h1
  go_enter Try.func37, Try.ntmps37
  go_wp2_with fail
  go_ret
  exact ⟨rfl, (Gw.refl w).alloc _⟩
set_option maxHeartbeats 4000000 in
set_option maxRecDepth 100000 in
theorem rg_w2_1 (x : Od) (w : World) (h0 : (0 ≤ x.acc)) (h1 : (x.acc < 8)) (h2 : (x.side == 1) = false) (h2' : (x.side == 2) = false) : Calls Try.prog 37 #[.agg #[.int .u64 x.id, .int .i64 x.acc, .int .i64 x.side, .int .i64 x.price, .int .i64 x.qty, .int .u64 x.seq]] w fun e w' => e = .returned (.bool false) ∧ Gw w w' := by
  go_enter Try.func37, Try.ntmps37
  go_wp2_with fail
  go_ret
  exact ⟨rfl, (Gw.refl w).alloc _⟩
set_option maxHeartbeats 4000000 in
set_option maxRecDepth 100000 in
theorem rg_w3_1 (x : Od) (w : World) (h0 : (0 ≤ x.acc)) (h1 : (x.acc < 8)) (h2 : (x.side == 1) = true) (h3 : ¬ (1 ≤ x.price)) : Calls Try.prog 37 #[.agg #[.int .u64 x.id, .int .i64 x.acc, .int .i64 x.side, .int .i64 x.price, .int .i64 x.qty, .int .u64 x.seq]] w fun e w' => e = .returned (.bool false) ∧ Gw w w' := by
  have g : decide (1 ≤ x.price) = false := decide_eq_false h3
  go_enter Try.func37, Try.ntmps37
  go_wp2_with fail
  go_ret
  exact ⟨rfl, (Gw.refl w).alloc _⟩
set_option maxHeartbeats 4000000 in
set_option maxRecDepth 100000 in
theorem rg_w3_2 (x : Od) (w : World) (h0 : (0 ≤ x.acc)) (h1 : (x.acc < 8)) (h2 : (x.side == 1) = false) (h2' : (x.side == 2) = true) (h3 : ¬ (1 ≤ x.price)) : Calls Try.prog 37 #[.agg #[.int .u64 x.id, .int .i64 x.acc, .int .i64 x.side, .int .i64 x.price, .int .i64 x.qty, .int .u64 x.seq]] w fun e w' => e = .returned (.bool false) ∧ Gw w w' := by
  have g : decide (1 ≤ x.price) = false := decide_eq_false h3
  go_enter Try.func37, Try.ntmps37
  go_wp2_with fail
  go_ret
  exact ⟨rfl, (Gw.refl w).alloc _⟩
set_option maxHeartbeats 4000000 in
set_option maxRecDepth 100000 in
theorem rg_w4_1 (x : Od) (w : World) (h0 : (0 ≤ x.acc)) (h1 : (x.acc < 8)) (h2 : (x.side == 1) = true) (h3 : (1 ≤ x.price)) (h4 : ¬ (x.price ≤ 1099511627776)) : Calls Try.prog 37 #[.agg #[.int .u64 x.id, .int .i64 x.acc, .int .i64 x.side, .int .i64 x.price, .int .i64 x.qty, .int .u64 x.seq]] w fun e w' => e = .returned (.bool false) ∧ Gw w w' := by
  have g : decide (x.price ≤ 1099511627776) = false := decide_eq_false h4
  go_enter Try.func37, Try.ntmps37
  go_wp2_with fail
  go_ret
  exact ⟨rfl, (Gw.refl w).alloc _⟩
set_option maxHeartbeats 4000000 in
set_option maxRecDepth 100000 in
theorem rg_w4_2 (x : Od) (w : World) (h0 : (0 ≤ x.acc)) (h1 : (x.acc < 8)) (h2 : (x.side == 1) = false) (h2' : (x.side == 2) = true) (h3 : (1 ≤ x.price)) (h4 : ¬ (x.price ≤ 1099511627776)) : Calls Try.prog 37 #[.agg #[.int .u64 x.id, .int .i64 x.acc, .int .i64 x.side, .int .i64 x.price, .int .i64 x.qty, .int .u64 x.seq]] w fun e w' => e = .returned (.bool false) ∧ Gw w w' := by
  have g : decide (x.price ≤ 1099511627776) = false := decide_eq_false h4
  go_enter Try.func37, Try.ntmps37
  go_wp2_with fail
  go_ret
  exact ⟨rfl, (Gw.refl w).alloc _⟩
set_option maxHeartbeats 4000000 in
set_option maxRecDepth 100000 in
theorem rg_w5_1 (x : Od) (w : World) (h0 : (0 ≤ x.acc)) (h1 : (x.acc < 8)) (h2 : (x.side == 1) = true) (h3 : (1 ≤ x.price)) (h4 : (x.price ≤ 1099511627776)) (h5 : ¬ (1 ≤ x.qty)) : Calls Try.prog 37 #[.agg #[.int .u64 x.id, .int .i64 x.acc, .int .i64 x.side, .int .i64 x.price, .int .i64 x.qty, .int .u64 x.seq]] w fun e w' => e = .returned (.bool false) ∧ Gw w w' := by
  have g : decide (1 ≤ x.qty) = false := decide_eq_false h5
  go_enter Try.func37, Try.ntmps37
  go_wp2_with fail
  go_ret
  exact ⟨rfl, (Gw.refl w).alloc _⟩
set_option maxHeartbeats 4000000 in
set_option maxRecDepth 100000 in
theorem rg_w5_2 (x : Od) (w : World) (h0 : (0 ≤ x.acc)) (h1 : (x.acc < 8)) (h2 : (x.side == 1) = false) (h2' : (x.side == 2) = true) (h3 : (1 ≤ x.price)) (h4 : (x.price ≤ 1099511627776)) (h5 : ¬ (1 ≤ x.qty)) : Calls Try.prog 37 #[.agg #[.int .u64 x.id, .int .i64 x.acc, .int .i64 x.side, .int .i64 x.price, .int .i64 x.qty, .int .u64 x.seq]] w fun e w' => e = .returned (.bool false) ∧ Gw w w' := by
  have g : decide (1 ≤ x.qty) = false := decide_eq_false h5
  go_enter Try.func37, Try.ntmps37
  go_wp2_with fail
  go_ret
  exact ⟨rfl, (Gw.refl w).alloc _⟩
set_option maxHeartbeats 4000000 in
set_option maxRecDepth 100000 in
theorem rg_w6_1 (x : Od) (w : World) (h0 : (0 ≤ x.acc)) (h1 : (x.acc < 8)) (h2 : (x.side == 1) = true) (h3 : (1 ≤ x.price)) (h4 : (x.price ≤ 1099511627776)) (h5 : (1 ≤ x.qty)) (h6 : ¬ (x.qty ≤ 1099511627776)) : Calls Try.prog 37 #[.agg #[.int .u64 x.id, .int .i64 x.acc, .int .i64 x.side, .int .i64 x.price, .int .i64 x.qty, .int .u64 x.seq]] w fun e w' => e = .returned (.bool false) ∧ Gw w w' := by
  have g : decide (x.qty ≤ 1099511627776) = false := decide_eq_false h6
  go_enter Try.func37, Try.ntmps37
  go_wp2_with fail
  go_ret
  exact ⟨rfl, (Gw.refl w).alloc _⟩
set_option maxHeartbeats 4000000 in
set_option maxRecDepth 100000 in
theorem rg_w6_2 (x : Od) (w : World) (h0 : (0 ≤ x.acc)) (h1 : (x.acc < 8)) (h2 : (x.side == 1) = false) (h2' : (x.side == 2) = true) (h3 : (1 ≤ x.price)) (h4 : (x.price ≤ 1099511627776)) (h5 : (1 ≤ x.qty)) (h6 : ¬ (x.qty ≤ 1099511627776)) : Calls Try.prog 37 #[.agg #[.int .u64 x.id, .int .i64 x.acc, .int .i64 x.side, .int .i64 x.price, .int .i64 x.qty, .int .u64 x.seq]] w fun e w' => e = .returned (.bool false) ∧ Gw w w' := by
  have g : decide (x.qty ≤ 1099511627776) = false := decide_eq_false h6
  go_enter Try.func37, Try.ntmps37
  go_wp2_with fail
  go_ret
  exact ⟨rfl, (Gw.refl w).alloc _⟩
set_option maxHeartbeats 4000000 in
set_option maxRecDepth 100000 in
theorem rg_w7_1 (x : Od) (w : World) (h0 : (0 ≤ x.acc)) (h1 : (x.acc < 8)) (h2 : (x.side == 1) = true) (h3 : (1 ≤ x.price)) (h4 : (x.price ≤ 1099511627776)) (h5 : (1 ≤ x.qty)) (h6 : (x.qty ≤ 1099511627776)) : Calls Try.prog 37 #[.agg #[.int .u64 x.id, .int .i64 x.acc, .int .i64 x.side, .int .i64 x.price, .int .i64 x.qty, .int .u64 x.seq]] w fun e w' => e = .returned (.bool true) ∧ Gw w w' := by
  go_enter Try.func37, Try.ntmps37
  go_wp2_with fail
  go_ret
  exact ⟨rfl, (Gw.refl w).alloc _⟩
set_option maxHeartbeats 4000000 in
set_option maxRecDepth 100000 in
theorem rg_w7_2 (x : Od) (w : World) (h0 : (0 ≤ x.acc)) (h1 : (x.acc < 8)) (h2 : (x.side == 1) = false) (h2' : (x.side == 2) = true) (h3 : (1 ≤ x.price)) (h4 : (x.price ≤ 1099511627776)) (h5 : (1 ≤ x.qty)) (h6 : (x.qty ≤ 1099511627776)) : Calls Try.prog 37 #[.agg #[.int .u64 x.id, .int .i64 x.acc, .int .i64 x.side, .int .i64 x.price, .int .i64 x.qty, .int .u64 x.seq]] w fun e w' => e = .returned (.bool true) ∧ Gw w w' := by
  go_enter Try.func37, Try.ntmps37
  go_wp2_with fail
  go_ret
  exact ⟨rfl, (Gw.refl w).alloc _⟩
theorem rGood_c (x : Od) (w : World) : Calls Try.prog 37 #[.agg #[.int .u64 x.id, .int .i64 x.acc, .int .i64 x.side, .int .i64 x.price, .int .i64 x.qty, .int .u64 x.seq]] w fun e w' => e = .returned (.bool (goodO x)) ∧ Gw w w' := by
  unfold goodO
  by_cases h0 : 0 ≤ x.acc
  rotate_left
  · rw [decide_eq_false h0]; simp only [Bool.false_and]; exact rg_w0_1 x w h0
  rw [decide_eq_true h0, Bool.true_and]
  by_cases h1 : x.acc < 8
  rotate_left
  · rw [decide_eq_false h1]; simp only [Bool.false_and]; exact rg_w1_1 x w h0 h1
  rw [decide_eq_true h1, Bool.true_and]
  have rk := rk_2 x.side
  cases h2 : (x.side == 1) with
  | true =>
    have e : (rkN x.side != 2) = true := by
      rw [beq_iff_eq] at h2; unfold rkN; rw [if_pos h2]; rfl
    rw [e, Bool.true_and]
    by_cases h3 : 1 ≤ x.price
    rotate_left
    · rw [decide_eq_false h3]; simp only [Bool.false_and]; exact rg_w3_1 x w h0 h1 h2 h3
    rw [decide_eq_true h3]
    rw [Bool.true_and]
    by_cases h4 : x.price ≤ 1099511627776
    rotate_left
    · rw [decide_eq_false h4]; simp only [Bool.false_and]; exact rg_w4_1 x w h0 h1 h2 h3 h4
    rw [decide_eq_true h4]
    rw [Bool.true_and]
    by_cases h5 : 1 ≤ x.qty
    rotate_left
    · rw [decide_eq_false h5]; simp only [Bool.false_and]; exact rg_w5_1 x w h0 h1 h2 h3 h4 h5
    rw [decide_eq_true h5]
    rw [Bool.true_and]
    by_cases h6 : x.qty ≤ 1099511627776
    rotate_left
    · rw [decide_eq_false h6]; exact rg_w6_1 x w h0 h1 h2 h3 h4 h5 h6
    rw [decide_eq_true h6]
    exact rg_w7_1 x w h0 h1 h2 h3 h4 h5 h6
  
  | false =>
    cases h2' : (x.side == 2) with
    | true =>
      have e : (rkN x.side != 2) = true := by
        rw [beq_iff_eq] at h2'; rw [beq_eq_false_iff_ne] at h2; unfold rkN; rw [if_neg h2, if_pos h2']; rfl
      rw [e, Bool.true_and]
      by_cases h3 : 1 ≤ x.price
      rotate_left
      · rw [decide_eq_false h3]; simp only [Bool.false_and]; exact rg_w3_2 x w h0 h1 h2 h2' h3
      rw [decide_eq_true h3]
      rw [Bool.true_and]
      by_cases h4 : x.price ≤ 1099511627776
      rotate_left
      · rw [decide_eq_false h4]; simp only [Bool.false_and]; exact rg_w4_2 x w h0 h1 h2 h2' h3 h4
      rw [decide_eq_true h4]
      rw [Bool.true_and]
      by_cases h5 : 1 ≤ x.qty
      rotate_left
      · rw [decide_eq_false h5]; simp only [Bool.false_and]; exact rg_w5_2 x w h0 h1 h2 h2' h3 h4 h5
      rw [decide_eq_true h5]
      rw [Bool.true_and]
      by_cases h6 : x.qty ≤ 1099511627776
      rotate_left
      · rw [decide_eq_false h6]; exact rg_w6_2 x w h0 h1 h2 h2' h3 h4 h5 h6
      rw [decide_eq_true h6]
      exact rg_w7_2 x w h0 h1 h2 h2' h3 h4 h5 h6
    
    | false =>
      have e : (rkN x.side != 2) = false := by
        rw [beq_eq_false_iff_ne] at h2 h2'; unfold rkN; rw [if_neg h2, if_neg h2']; rfl
      rw [e]; simp only [Bool.false_and]
      exact rg_w2_1 x w h0 h1 h2 h2'
end Go.Proofs.Ytdjbnnjcifgnlaa
