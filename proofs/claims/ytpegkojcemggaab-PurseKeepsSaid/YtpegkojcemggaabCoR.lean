/- XRefK, XRefA, XRefB, XRefC, XRefD, XRefE, XRefF, XRefG, XRefH, XRefI, XRefJ, XRefL, in one text. (By mkmerge.py.) -/
import Derived.Test.YtpegkojcemggaabNum
import Derived.WalkSpells
import Derived.WalkLawsBesides
import Derived.Handy
import Derived.BigQuiet
import Derived.Deep.QuietTactic
import Derived.Deep.WholeRow

/- Whole numbers (136 bits and a sign) in and out of memory. -/
namespace Go.Proofs.Ytpegkojcemggaab
open Go.RowKit

theorem zero83 (w : World) : (zeroValue 86).run Try.prog w = .ok (.agg (NC 0 false)) w := by kernel_rfl
theorem info83 : (Try.prog.info? 86).map (·.size) = some 137 := by kernel_rfl
theorem info83' (m : Nat) (s : Bool) : (Try.prog.info? 86).map (·.size) = some (NC m s).size := by rw [info83, NC_size]
theorem setRow_last {w : World} {n : Nat} {c c' : Array Value} {t : TypeId} (h : n = w.heap.size) : (w.alloc (.cells c t)).setRow n c' = w.alloc (.cells c' t) := by
  subst h; exact World.setRow_alloc_new w c c' t
theorem setRow_prev {w : World} {n : Nat} {c' : Array Value} {o : Obj} (h : n < w.heap.size) : (w.alloc o).setRow n c' = (w.setRow n c').alloc o := by
  simp only [World.setRow, World.alloc]
  congr 1
  apply Array.ext_getElem?
  intro i
  simp only [Array.getElem?_modify, Array.getElem?_push, Array.size_modify]
  by_cases h1 : n = i
  · subst h1; simp [show ¬ n = w.heap.size by omega]
  · simp [h1]

theorem sign_heap {w : World} {g m : Nat} {s r : Bool} {t : TypeId} (h : w.heap[g]? = some (.cells (NC m s) t (0, 0))) : (w.setCell ⟨g, 136, none⟩ (.bool r)).heap[g]? = some (.cells (NC m r) t (0, 0)) := by
  rw [heap_setCell_same _ _ _ _ _ _ h, NC_setSign]
theorem bit0_heap {w : World} {g m : Nat} {s v : Bool} {t : TypeId} (h : w.heap[g]? = some (.cells (NC (2 * m) s) t (0, 0))) : (w.setCell ⟨g, 0, none⟩ (.bool v)).heap[g]? = some (.cells (NC (2 * m + if v then 1 else 0) s) t (0, 0)) := by
  rw [heap_setCell_same _ _ _ _ _ _ h, setBit0]
theorem sign_other {w : World} {g : Nat} {a : Addr} {v : Value} {p : Obj} (hne : g ≠ a.block) (h : w.heap[g]? = some p) : (w.setCell a v).heap[g]? = some p := by
  rw [heap_setCell_other _ _ _ _ hne]; exact h
theorem row_heap {w : World} {g : Nat} {c c' : Array Value} {t : TypeId} (h : w.heap[g]? = some (.cells c t (0, 0))) : (w.setRow g c').heap[g]? = some (.cells c' t (0, 0)) := setRow_heap w g c c' t _ h
theorem row_other {w : World} {g k : Nat} {c' : Array Value} {p : Obj} (hne : k ≠ g) (h : w.heap[k]? = some p) : (w.setRow g c').heap[k]? = some p := by rw [setRow_other w g k c' hne]; exact h
theorem Below.row {B g : Nat} {w0 w : World} (hb : Below B w0 w) (hBg : B ≤ g) (cs : Array Value) : Below B w0 (w.setRow g cs) :=
  hb.trans ⟨rfl, rfl, rfl, by simp [World.setRow], fun k hk => setRow_other w g k cs (by omega)⟩
theorem heap_at (w : World) (o : Obj) (n : Nat) : (w.alloc o).heap[n]? = if n = w.heap.size then some o else w.heap[n]? := by
  show (w.heap.push o)[n]? = _
  rw [Array.getElem?_push]
section
variable {ops : Array Oper} {rest : List Oper} {o : Oper} {a : Act} {w : World} {Q : Exit → Act → World → Prop}
theorem load83 (hgd : Region.wanted o (yielded ops a.tmps) = true) (x : Operand) (ho : o.op = .load 86 x) (g : Nat) (hx : a.eval x = .pointer (some ⟨g, 0, none⟩)) (m : Nat) (s : Bool)
    (hg : w.heap[g]? = some (.cells (NC m s) 86 (0, 0))) (h : wpList Try.prog ops Q rest (a.put o.dst (.agg (NC m s))) w) : wpList Try.prog ops Q (o :: rest) a w :=
  BigFrame.wpList_want hgd fun _ hK => wp_load_row _ x ho g hx _ _ (0, 0) _ hg Try.underlying86 rfl (info83' m s) (hK _ _ h)
theorem store83 (hgd : Region.wanted o (yielded ops a.tmps) = true) (x y : Operand) (ho : o.op = .store 86 x y) (g : Nat) (m : Nat) (s : Bool) (hx : a.eval x = .pointer (some ⟨g, 0, none⟩)) (hy : a.eval y = .agg (NC m s)) (m' : Nat) (s' : Bool)
    (hg : w.heap[g]? = some (.cells (NC m' s') 86 (0, 0))) (h : wpList Try.prog ops Q rest (a.put o.dst undef) (w.setRow g (NC m s))) : wpList Try.prog ops Q (o :: rest) a w :=
  BigFrame.wpList_want hgd fun _ hK => wp_store_row _ x y ho g _ hx hy _ _ hg (info83' m s) (by rw [NC_size, NC_size]) (NC_one m s) (hK _ _ h)
theorem store83_0 {w0 : World} (hgd : Region.wanted o (yielded ops a.tmps) = true) (x y : Operand) (ho : o.op = .store 86 x y) (g : Nat) (m : Nat) (s : Bool) (hx : a.eval x = .pointer (some ⟨g, 0, none⟩)) (hy : a.eval y = .agg (NC m s)) (m' : Nat) (s' : Bool)
    (hg : g = w0.heap.size) (h : wpList Try.prog ops Q rest (a.put o.dst undef) (w0.alloc (.cells (NC m s) 86))) : wpList Try.prog ops Q (o :: rest) a (w0.alloc (.cells (NC m' s') 86)) := by
  subst hg
  refine store83 hgd x y ho _ m s hx hy m' s' (heap_last rfl) ?_
  rw [setRow_last rfl]
  exact h
theorem store83_1 {w0 : World} {p1 : Obj} (hgd : Region.wanted o (yielded ops a.tmps) = true) (x y : Operand) (ho : o.op = .store 86 x y) (g : Nat) (m : Nat) (s : Bool) (hx : a.eval x = .pointer (some ⟨g, 0, none⟩)) (hy : a.eval y = .agg (NC m s)) (m' : Nat) (s' : Bool)
    (hg : g = w0.heap.size) (h : wpList Try.prog ops Q rest (a.put o.dst undef) ((w0.alloc (.cells (NC m s) 86)).alloc p1)) : wpList Try.prog ops Q (o :: rest) a ((w0.alloc (.cells (NC m' s') 86)).alloc p1) := by
  subst hg
  refine store83 hgd x y ho _ m s hx hy m' s' (heap_prev (by simp only [World.size_alloc]; omega) (heap_last rfl)) ?_
  rw [setRow_prev (by simp only [World.size_alloc]; omega), setRow_last rfl]
  exact h
theorem store83_2 {w0 : World} {p1 p2 : Obj} (hgd : Region.wanted o (yielded ops a.tmps) = true) (x y : Operand) (ho : o.op = .store 86 x y) (g : Nat) (m : Nat) (s : Bool) (hx : a.eval x = .pointer (some ⟨g, 0, none⟩)) (hy : a.eval y = .agg (NC m s)) (m' : Nat) (s' : Bool)
    (hg : g = w0.heap.size) (h : wpList Try.prog ops Q rest (a.put o.dst undef) (((w0.alloc (.cells (NC m s) 86)).alloc p1).alloc p2)) : wpList Try.prog ops Q (o :: rest) a (((w0.alloc (.cells (NC m' s') 86)).alloc p1).alloc p2) := by
  subst hg
  refine store83 hgd x y ho _ m s hx hy m' s' (heap_prev (by simp only [World.size_alloc]; omega) (heap_prev (by simp only [World.size_alloc]; omega) (heap_last rfl))) ?_
  rw [setRow_prev (by simp only [World.size_alloc]; omega), setRow_prev (by simp only [World.size_alloc]; omega), setRow_last rfl]
  exact h
theorem store83_3 {w0 : World} {p1 p2 p3 : Obj} (hgd : Region.wanted o (yielded ops a.tmps) = true) (x y : Operand) (ho : o.op = .store 86 x y) (g : Nat) (m : Nat) (s : Bool) (hx : a.eval x = .pointer (some ⟨g, 0, none⟩)) (hy : a.eval y = .agg (NC m s)) (m' : Nat) (s' : Bool)
    (hg : g = w0.heap.size) (h : wpList Try.prog ops Q rest (a.put o.dst undef) ((((w0.alloc (.cells (NC m s) 86)).alloc p1).alloc p2).alloc p3)) : wpList Try.prog ops Q (o :: rest) a ((((w0.alloc (.cells (NC m' s') 86)).alloc p1).alloc p2).alloc p3) := by
  subst hg
  refine store83 hgd x y ho _ m s hx hy m' s' (heap_prev (by simp only [World.size_alloc]; omega) (heap_prev (by simp only [World.size_alloc]; omega) (heap_prev (by simp only [World.size_alloc]; omega) (heap_last rfl)))) ?_
  rw [setRow_prev (by simp only [World.size_alloc]; omega), setRow_prev (by simp only [World.size_alloc]; omega), setRow_prev (by simp only [World.size_alloc]; omega), setRow_last rfl]
  exact h
theorem store83_4 {w0 : World} {p1 p2 p3 p4 : Obj} (hgd : Region.wanted o (yielded ops a.tmps) = true) (x y : Operand) (ho : o.op = .store 86 x y) (g : Nat) (m : Nat) (s : Bool) (hx : a.eval x = .pointer (some ⟨g, 0, none⟩)) (hy : a.eval y = .agg (NC m s)) (m' : Nat) (s' : Bool)
    (hg : g = w0.heap.size) (h : wpList Try.prog ops Q rest (a.put o.dst undef) (((((w0.alloc (.cells (NC m s) 86)).alloc p1).alloc p2).alloc p3).alloc p4)) : wpList Try.prog ops Q (o :: rest) a (((((w0.alloc (.cells (NC m' s') 86)).alloc p1).alloc p2).alloc p3).alloc p4) := by
  subst hg
  refine store83 hgd x y ho _ m s hx hy m' s' (heap_prev (by simp only [World.size_alloc]; omega) (heap_prev (by simp only [World.size_alloc]; omega) (heap_prev (by simp only [World.size_alloc]; omega) (heap_prev (by simp only [World.size_alloc]; omega) (heap_last rfl))))) ?_
  rw [setRow_prev (by simp only [World.size_alloc]; omega), setRow_prev (by simp only [World.size_alloc]; omega), setRow_prev (by simp only [World.size_alloc]; omega), setRow_prev (by simp only [World.size_alloc]; omega), setRow_last rfl]
  exact h
theorem any_load83 {K : Act → World → Prop} {E : Prop} (hgd : Region.wanted o (yielded ops a.tmps) = true) (x : Operand) (ho : o.op = .load 86 x) (g : Nat) (hx : a.eval x = .pointer (some ⟨g, 0, none⟩)) (m : Nat) (s : Bool)
    (hg : w.heap[g]? = some (.cells (NC m s) 86 (0, 0))) (h : K (a.put o.dst (.agg (NC m s))) w) : if Region.wanted o (yielded ops a.tmps) = true then Oper.wp Try.prog o a w K Q else E := by
  rw [if_pos hgd]
  exact wp_load_row _ x ho g hx _ _ (0, 0) _ hg Try.underlying86 rfl (info83' m s) h
theorem any_store83 {K : Act → World → Prop} {E : Prop} (hgd : Region.wanted o (yielded ops a.tmps) = true) (x y : Operand) (ho : o.op = .store 86 x y) (g : Nat) (m : Nat) (s : Bool) (hx : a.eval x = .pointer (some ⟨g, 0, none⟩)) (hy : a.eval y = .agg (NC m s)) (m' : Nat) (s' : Bool)
    (hg : w.heap[g]? = some (.cells (NC m' s') 86 (0, 0))) (h : K (a.put o.dst undef) (w.setRow g (NC m s))) : if Region.wanted o (yielded ops a.tmps) = true then Oper.wp Try.prog o a w K Q else E := by
  rw [if_pos hgd]
  exact wp_store_row _ x y ho g _ hx hy _ _ hg (info83' m s) (by rw [NC_size, NC_size]) (NC_one m s) h
theorem ret83_two {fn : Func} {p q : Tmp} (h : fn.results = #[.cell p 86, .cell q 86]) (tmps : Array Value) (w : World) (g g' : Nat) (hp : tmps.getD p undef = .pointer (some ⟨g, 0, none⟩)) (hq : tmps.getD q undef = .pointer (some ⟨g', 0, none⟩)) (m m' : Nat) (s s' : Bool)
    (hg : w.heap[g]? = some (.cells (NC m s) 86 (0, 0))) (hg' : w.heap[g']? = some (.cells (NC m' s') 86 (0, 0))) : (results fn tmps).run Try.prog w = .ok (.tuple #[.agg (NC m s), .agg (NC m' s')]) w := by
  have hp' : tmps[p]?.getD undef = .pointer (some ⟨g, 0, none⟩) := by simpa using hp
  have hq' : tmps[q]?.getD undef = .pointer (some ⟨g', 0, none⟩) := by simpa using hq
  simp [results, h, hp', hq', asAddr, run_loadVar_row w g _ _ _ (0, 0) _ hg Try.underlying86 rfl (info83' m s), run_loadVar_row w g' _ _ _ (0, 0) _ hg' Try.underlying86 rfl (info83' m' s')]
theorem ret83 {fn : Func} {p : Tmp} (h : fn.results = #[.cell p 86]) (tmps : Array Value) (w : World) (g : Nat) (hp : tmps.getD p undef = .pointer (some ⟨g, 0, none⟩)) (m : Nat) (s : Bool)
    (hg : w.heap[g]? = some (.cells (NC m s) 86 (0, 0))) : (results fn tmps).run Try.prog w = .ok (.agg (NC m s)) w :=
  results_cell_row h tmps w g _ _ (0, 0) _ hp hg Try.underlying86 rfl (info83' m s)
end
end Go.Proofs.Ytpegkojcemggaab

/- The sum of two rows of bits. -/
namespace Go.Proofs.Ytpegkojcemggaab
open Go.RowKit

set_option maxHeartbeats 4000000 in
set_option maxRecDepth 100000 in
theorem more_c (a b : Nat) (s t : Bool) (w : World) :
    Calls Try.prog 52 #[.agg (NC a s), .agg (NC b t)] w fun e w' => e = .returned (.agg (NC (a + b) false)) ∧ Below w.heap.size w w' := by
  have hz := zero83
  go_enter Try.func52, Try.ntmps52
  go_wp2
  go_loopw [6, 7] (fun c i wr => ∃ k : Nat, k ≤ 136 ∧ i = .int .i64 k ∧ c = .bool (carry a b k) ∧
      wr = (((w.alloc (.cells (NC a s) 86)).alloc (.cells (NC b t) 86)).alloc (.cells (NC 0 false) 86)).alloc (.cells (NCf (below (a + b).testBit k) false) 86)) (fun _ i _ => 136 - (intOf i).toNat)
  case atStart => exact ⟨0, by omega, rfl, by rw [carry_zero], by rw [NCf_below_zero]⟩
  case round =>
    obtain ⟨k, hk, rfl, rfl, rfl⟩ := hrel
    by_cases hlt : k < 136
    · have ⟨h1, h2⟩ := add_step a b k
      have g1 := NC_get a s k hlt
      have g2 := NC_get b t k hlt
      generalize a.testBit k = x at *
      generalize b.testBit k = y at *
      generalize carry a b k = z at *
      have H1 := Lib.hid h1; clear h1
      have H2 := Lib.hid h2; clear h2
      have g3 := NCf_get (below (a + b).testBit k) false k hlt
      cases x <;> cases y <;> cases z
      all_goals
        go_wp2
        exact ⟨⟨k + 1, by omega, by go_num, by rw [H2.out]; rfl, by rw [NCf_below_set _ _ _ _ hlt (by rw [H1.out]; rfl)]⟩, by simp [intOf]; omega⟩
    · obtain rfl : k = 136 := by omega
      rw [NCf_below_all]
      go_wp2_with (first | ((with_reducible apply load83); rfl; rfl; rfl; (focus ((repeat' (first | (with_reducible assumption) | ((with_reducible refine heap_last ?_); (focus (first | (simp; done) | omega | (simp; omega)))) | ((with_reducible refine heap_prev ?_ ?_); (focus (first | (simp; done) | omega | (simp; omega)))) | (with_reducible apply sign_heap) | (with_reducible apply row_heap) | (with_reducible apply bit0_heap) | ((with_reducible refine sign_other ?_ ?_); (focus (first | (simp; done) | omega | (simp; omega)))) | ((with_reducible refine row_other ?_ ?_); (focus (first | (simp; done) | omega | (simp; omega)))) | (with_reducible refine drew_heap ?_))); done)); skip) | (first | ((with_reducible apply store83_0); rfl; rfl; rfl; rfl; (focus (simp; done)); skip) | ((with_reducible apply store83_1); rfl; rfl; rfl; rfl; (focus (simp; done)); skip) | ((with_reducible apply store83_2); rfl; rfl; rfl; rfl; (focus (simp; done)); skip) | ((with_reducible apply store83_3); rfl; rfl; rfl; rfl; (focus (simp; done)); skip) | ((with_reducible apply store83_4); rfl; rfl; rfl; rfl; (focus (simp; done)); skip)) | ((with_reducible apply bodyPost_ret); (apply ret83; rfl; rfl; (focus ((repeat' (first | (with_reducible assumption) | ((with_reducible refine heap_last ?_); (focus (first | (simp; done) | omega | (simp; omega)))) | ((with_reducible refine heap_prev ?_ ?_); (focus (first | (simp; done) | omega | (simp; omega)))) | (with_reducible apply sign_heap) | (with_reducible apply row_heap) | (with_reducible apply bit0_heap) | ((with_reducible refine sign_other ?_ ?_); (focus (first | (simp; done) | omega | (simp; omega)))) | ((with_reducible refine row_other ?_ ?_); (focus (first | (simp; done) | omega | (simp; omega)))) | (with_reducible refine drew_heap ?_))); done))); rfl; skip))
      go_grown
end Go.Proofs.Ytpegkojcemggaab

/- The difference of two rows of bits. -/
namespace Go.Proofs.Ytpegkojcemggaab
open Go.RowKit

set_option maxHeartbeats 4000000 in
set_option maxRecDepth 100000 in
theorem less_c (a b : Nat) (s t : Bool) (hab : b ≤ a) (w : World) :
    Calls Try.prog 54 #[.agg (NC a s), .agg (NC b t)] w fun e w' => e = .returned (.agg (NC (a - b) false)) ∧ Below w.heap.size w w' := by
  have hz := zero83
  go_enter Try.func54, Try.ntmps54
  go_wp2
  go_loopw [6, 7] (fun c i wr => ∃ k : Nat, k ≤ 136 ∧ i = .int .i64 k ∧ c = .int .i64 (b2i (carry b (a - b) k)) ∧
      wr = (((w.alloc (.cells (NC a s) 86)).alloc (.cells (NC b t) 86)).alloc (.cells (NC 0 false) 86)).alloc (.cells (NCf (below (a - b).testBit k) false) 86)) (fun _ i _ => 136 - (intOf i).toNat)
  case atStart => exact ⟨0, by omega, rfl, by rw [carry_zero]; rfl, by rw [NCf_below_zero]⟩
  case round =>
    obtain ⟨k, hk, rfl, rfl, rfl⟩ := hrel
    by_cases hlt : k < 136
    · have ⟨h1, h2⟩ := sub_step a b k hab
      have g1 := NC_get a s k hlt
      have g2 := NC_get b t k hlt
      generalize a.testBit k = x at *
      generalize b.testBit k = y at *
      generalize carry b (a - b) k = z at *
      have H1 := Lib.hid h1; clear h1
      have H2 := Lib.hid h2; clear h2
      have g3 := NCf_get (below (a - b).testBit k) false k hlt
      cases x <;> cases y <;> cases z
      all_goals
        simp only [b2i]
        go_wp2
        exact ⟨⟨k + 1, by omega, by go_num, by rw [H2.out]; rfl, by rw [NCf_below_set _ _ _ _ hlt (by rw [H1.out]; rfl)]⟩, by simp [intOf]; omega⟩
    · obtain rfl : k = 136 := by omega
      rw [NCf_below_all]
      go_wp2_with (first | ((with_reducible apply load83); rfl; rfl; rfl; (focus ((repeat' (first | (with_reducible assumption) | ((with_reducible refine heap_last ?_); (focus (first | (simp; done) | omega | (simp; omega)))) | ((with_reducible refine heap_prev ?_ ?_); (focus (first | (simp; done) | omega | (simp; omega)))) | (with_reducible apply sign_heap) | (with_reducible apply row_heap) | (with_reducible apply bit0_heap) | ((with_reducible refine sign_other ?_ ?_); (focus (first | (simp; done) | omega | (simp; omega)))) | ((with_reducible refine row_other ?_ ?_); (focus (first | (simp; done) | omega | (simp; omega)))) | (with_reducible refine drew_heap ?_))); done)); skip) | (first | ((with_reducible apply store83_0); rfl; rfl; rfl; rfl; (focus (simp; done)); skip) | ((with_reducible apply store83_1); rfl; rfl; rfl; rfl; (focus (simp; done)); skip) | ((with_reducible apply store83_2); rfl; rfl; rfl; rfl; (focus (simp; done)); skip) | ((with_reducible apply store83_3); rfl; rfl; rfl; rfl; (focus (simp; done)); skip) | ((with_reducible apply store83_4); rfl; rfl; rfl; rfl; (focus (simp; done)); skip)) | ((with_reducible apply bodyPost_ret); (apply ret83; rfl; rfl; (focus ((repeat' (first | (with_reducible assumption) | ((with_reducible refine heap_last ?_); (focus (first | (simp; done) | omega | (simp; omega)))) | ((with_reducible refine heap_prev ?_ ?_); (focus (first | (simp; done) | omega | (simp; omega)))) | (with_reducible apply sign_heap) | (with_reducible apply row_heap) | (with_reducible apply bit0_heap) | ((with_reducible refine sign_other ?_ ?_); (focus (first | (simp; done) | omega | (simp; omega)))) | ((with_reducible refine row_other ?_ ?_); (focus (first | (simp; done) | omega | (simp; omega)))) | (with_reducible refine drew_heap ?_))); done))); rfl; skip))
      go_grown
end Go.Proofs.Ytpegkojcemggaab

/- Whether a row of bits is 0; which of two is less; one place up. -/
namespace Go.Proofs.Ytpegkojcemggaab
open Go.RowKit

set_option maxHeartbeats 4000000 in
set_option maxRecDepth 100000 in
theorem nought_c (m : Nat) (s : Bool) (b : Bool) (hm : m < 2 ^ 136) (hb : b = decide (m = 0)) (w : World) :
    Calls Try.prog 55 #[.agg (NC m s)] w fun e w' => e = .returned (.bool b) ∧ Below w.heap.size w w' := by
  have hz0 := zero_of_bits m hm
  have Hm := Lib.hid hm; clear hm
  have Hb := Lib.hid hb; clear hb
  have Hz := Lib.hid hz0; clear hz0
  go_enter Try.func55, Try.ntmps55
  go_wp2
  go_loop [3] (fun i => ∃ k : Nat, k ≤ 136 ∧ i = .int .i64 k ∧ (∀ j, j < k → m.testBit j = false)) (fun i => 136 - (intOf i).toNat)
  case atStart => exact ⟨0, by omega, rfl, by omega⟩
  case round =>
    obtain ⟨k, hk, rfl, hf⟩ := hrel
    have Hf := Lib.hid hf; clear hf
    by_cases hlt : k < 136
    · have g1 := NC_get m s k hlt
      obtain ⟨x, hx⟩ : ∃ x, x = m.testBit k := ⟨_, rfl⟩
      rw [← hx] at g1
      have Hx := Lib.hid hx; clear hx
      cases x
      · go_wp2
        refine ⟨⟨k + 1, by omega, by go_num, fun j hj => ?_⟩, by simp [intOf]; omega⟩
        by_cases e : j = k
        · subst e; exact Hx.out.symm
        · exact Hf.out j (by omega)
      · go_wp2
        go_ret
        refine ⟨ret_bool ?_, by go_grown⟩
        rw [Hb.out]
        refine (decide_eq_false ?_).symm
        intro h0
        have := (Hz.out.1 h0) k hlt
        rw [← Hx.out] at this
        cases this
    · obtain rfl : k = 136 := by omega
      go_wp2
      go_ret
      refine ⟨ret_bool ?_, by go_grown⟩
      rw [Hb.out]
      exact (decide_eq_true (Hz.out.2 Hf.out)).symm
end Go.Proofs.Ytpegkojcemggaab

/- A number of 64 bits as a row of bits. -/
namespace Go.Proofs.Ytpegkojcemggaab
open Go.RowKit

theorem abs_lt (x : Int) (h0 : -9223372036854775808 ≤ x) (h1 : x ≤ 9223372036854775807) : x.natAbs < 2 ^ 64 := by omega
set_option maxHeartbeats 4000000 in
set_option maxRecDepth 100000 in
theorem Of_c (x : Int) (h0 : -9223372036854775808 ≤ x) (h1 : x ≤ 9223372036854775807) (w : World) :
    Calls Try.prog 47 #[.int .i64 x] w fun e w' => e = .returned (.agg (NC x.natAbs (decide (x < 0)))) ∧ Below w.heap.size w w' := by
  have hz := zero83
  have ha := abs_lt x h0 h1
  have Ha := Lib.hid ha; clear ha
  have g1 := NC_sign 0 false
  have g2 := NC_setSign 0 false true
  have g3 := NC_setSign 0 false false
  obtain ⟨m, hm⟩ : ∃ m, m = x.natAbs := ⟨_, rfl⟩
  rw [← hm]
  by_cases hneg : x < 0
  · have hd : decide (x < 0) = true := decide_eq_true hneg
    have g4 := NC_sign 0 true
    rw [hd]
    have Hst : Hid (IntKind.u64.wrap (IntKind.u64.wrap (18446744073709551615 - IntKind.u64.wrap x) + 1) = ((m / 2 ^ 0 : Nat) : Int)) := by
      show _ = _
      simp only [IntKind.wrap_u64]; omega
    have Hm := Lib.hid hm; clear hm
    go_enter Try.func47, Try.ntmps47
    go_wp2
    go_loopw [4, 5] (fun u i wr => ∃ k : Nat, k ≤ 64 ∧ i = .int .i64 k ∧ u = .int .u64 ((m / 2 ^ k : Nat) : Int) ∧
      wr = (w.alloc (.cells (NC 0 false) 86)).alloc (.cells (NCf (below m.testBit k) true) 86)) (fun _ i _ => 64 - (intOf i).toNat)
    case atStart => exact ⟨0, by omega, rfl, by rw [Hst.out], by rw [NCf_below_zero]⟩
    case round => 
      obtain ⟨k, hk, rfl, rfl, rfl⟩ := hrel
      by_cases hlt : k < 64
      · have g5 := NCf_get (below m.testBit k) true k (by omega)
        have h1 := bit_eq m k
        have h2 := div_succ m k
        have hb : m / 2 ^ k ≤ 18446744073709551615 := Nat.le_trans (Nat.div_le_self _ _) (by have := Ha.out; have := Hm.out; omega)
        have H1 := Lib.hid h1; clear h1
        have H2 := Lib.hid h2; clear h2
        generalize m / 2 ^ k = q at *
        rcases Nat.mod_two_eq_zero_or_one q with e | e
        · have e1 : ((q : Int) % 2 == 1) = false := by simp; omega
          have E := Lib.hid e; clear e
          go_wp2
          exact ⟨⟨k + 1, by omega, by go_num, by rw [H2.out]; simp, by rw [NCf_below_set _ _ _ _ (by omega) (by rw [H1.out]; simp [E.out])]⟩, by simp [intOf]; omega⟩
        · have e1 : ((q : Int) % 2 == 1) = true := by simp; omega
          have E := Lib.hid e; clear e
          go_wp2
          exact ⟨⟨k + 1, by omega, by go_num, by rw [H2.out]; simp, by rw [NCf_below_set _ _ _ _ (by omega) (by rw [H1.out]; simp [E.out])]⟩, by simp [intOf]; omega⟩
      · obtain rfl : k = 64 := by omega
        rw [of_all _ _ (by have := Ha.out; have := Hm.out; omega)]
        go_wp2_with (first | ((with_reducible apply load83); rfl; rfl; rfl; (focus ((repeat' (first | (with_reducible assumption) | ((with_reducible refine heap_last ?_); (focus (first | (simp; done) | omega | (simp; omega)))) | ((with_reducible refine heap_prev ?_ ?_); (focus (first | (simp; done) | omega | (simp; omega)))) | (with_reducible apply sign_heap) | (with_reducible apply row_heap) | (with_reducible apply bit0_heap) | ((with_reducible refine sign_other ?_ ?_); (focus (first | (simp; done) | omega | (simp; omega)))) | ((with_reducible refine row_other ?_ ?_); (focus (first | (simp; done) | omega | (simp; omega)))) | (with_reducible refine drew_heap ?_))); done)); skip) | (first | ((with_reducible apply store83_0); rfl; rfl; rfl; rfl; (focus (simp; done)); skip) | ((with_reducible apply store83_1); rfl; rfl; rfl; rfl; (focus (simp; done)); skip) | ((with_reducible apply store83_2); rfl; rfl; rfl; rfl; (focus (simp; done)); skip) | ((with_reducible apply store83_3); rfl; rfl; rfl; rfl; (focus (simp; done)); skip) | ((with_reducible apply store83_4); rfl; rfl; rfl; rfl; (focus (simp; done)); skip)) | ((with_reducible apply bodyPost_ret); (apply ret83; rfl; rfl; (focus ((repeat' (first | (with_reducible assumption) | ((with_reducible refine heap_last ?_); (focus (first | (simp; done) | omega | (simp; omega)))) | ((with_reducible refine heap_prev ?_ ?_); (focus (first | (simp; done) | omega | (simp; omega)))) | (with_reducible apply sign_heap) | (with_reducible apply row_heap) | (with_reducible apply bit0_heap) | ((with_reducible refine sign_other ?_ ?_); (focus (first | (simp; done) | omega | (simp; omega)))) | ((with_reducible refine row_other ?_ ?_); (focus (first | (simp; done) | omega | (simp; omega)))) | (with_reducible refine drew_heap ?_))); done))); rfl; skip))
        go_grown
  · have hd : decide (x < 0) = false := decide_eq_false hneg
    rw [hd]
    have Hst : Hid (x = ((m / 2 ^ 0 : Nat) : Int)) := by
      show _ = _
      omega
    have Hm := Lib.hid hm; clear hm
    go_enter Try.func47, Try.ntmps47
    go_wp2
    go_loopw [4, 5] (fun u i wr => ∃ k : Nat, k ≤ 64 ∧ i = .int .i64 k ∧ u = .int .u64 ((m / 2 ^ k : Nat) : Int) ∧
      wr = (w.alloc (.cells (NC 0 false) 86)).alloc (.cells (NCf (below m.testBit k) false) 86)) (fun _ i _ => 64 - (intOf i).toNat)
    case atStart => exact ⟨0, by omega, rfl, by rw [← Hst.out], by rw [NCf_below_zero]⟩
    case round => 
      obtain ⟨k, hk, rfl, rfl, rfl⟩ := hrel
      by_cases hlt : k < 64
      · have g5 := NCf_get (below m.testBit k) false k (by omega)
        have h1 := bit_eq m k
        have h2 := div_succ m k
        have hb : m / 2 ^ k ≤ 18446744073709551615 := Nat.le_trans (Nat.div_le_self _ _) (by have := Ha.out; have := Hm.out; omega)
        have H1 := Lib.hid h1; clear h1
        have H2 := Lib.hid h2; clear h2
        generalize m / 2 ^ k = q at *
        rcases Nat.mod_two_eq_zero_or_one q with e | e
        · have e1 : ((q : Int) % 2 == 1) = false := by simp; omega
          have E := Lib.hid e; clear e
          go_wp2
          exact ⟨⟨k + 1, by omega, by go_num, by rw [H2.out]; simp, by rw [NCf_below_set _ _ _ _ (by omega) (by rw [H1.out]; simp [E.out])]⟩, by simp [intOf]; omega⟩
        · have e1 : ((q : Int) % 2 == 1) = true := by simp; omega
          have E := Lib.hid e; clear e
          go_wp2
          exact ⟨⟨k + 1, by omega, by go_num, by rw [H2.out]; simp, by rw [NCf_below_set _ _ _ _ (by omega) (by rw [H1.out]; simp [E.out])]⟩, by simp [intOf]; omega⟩
      · obtain rfl : k = 64 := by omega
        rw [of_all _ _ (by have := Ha.out; have := Hm.out; omega)]
        go_wp2_with (first | ((with_reducible apply load83); rfl; rfl; rfl; (focus ((repeat' (first | (with_reducible assumption) | ((with_reducible refine heap_last ?_); (focus (first | (simp; done) | omega | (simp; omega)))) | ((with_reducible refine heap_prev ?_ ?_); (focus (first | (simp; done) | omega | (simp; omega)))) | (with_reducible apply sign_heap) | (with_reducible apply row_heap) | (with_reducible apply bit0_heap) | ((with_reducible refine sign_other ?_ ?_); (focus (first | (simp; done) | omega | (simp; omega)))) | ((with_reducible refine row_other ?_ ?_); (focus (first | (simp; done) | omega | (simp; omega)))) | (with_reducible refine drew_heap ?_))); done)); skip) | (first | ((with_reducible apply store83_0); rfl; rfl; rfl; rfl; (focus (simp; done)); skip) | ((with_reducible apply store83_1); rfl; rfl; rfl; rfl; (focus (simp; done)); skip) | ((with_reducible apply store83_2); rfl; rfl; rfl; rfl; (focus (simp; done)); skip) | ((with_reducible apply store83_3); rfl; rfl; rfl; rfl; (focus (simp; done)); skip) | ((with_reducible apply store83_4); rfl; rfl; rfl; rfl; (focus (simp; done)); skip)) | ((with_reducible apply bodyPost_ret); (apply ret83; rfl; rfl; (focus ((repeat' (first | (with_reducible assumption) | ((with_reducible refine heap_last ?_); (focus (first | (simp; done) | omega | (simp; omega)))) | ((with_reducible refine heap_prev ?_ ?_); (focus (first | (simp; done) | omega | (simp; omega)))) | (with_reducible apply sign_heap) | (with_reducible apply row_heap) | (with_reducible apply bit0_heap) | ((with_reducible refine sign_other ?_ ?_); (focus (first | (simp; done) | omega | (simp; omega)))) | ((with_reducible refine row_other ?_ ?_); (focus (first | (simp; done) | omega | (simp; omega)))) | (with_reducible refine drew_heap ?_))); done))); rfl; skip))
        go_grown
end Go.Proofs.Ytpegkojcemggaab

/- Whether a row of bits is 0; which of two is less; one place up. -/
namespace Go.Proofs.Ytpegkojcemggaab
open Go.RowKit

set_option maxHeartbeats 4000000 in
set_option maxRecDepth 100000 in
theorem below_c (a b : Nat) (s t : Bool) (r : Bool) (ha : a < 2 ^ 136) (hb : b < 2 ^ 136) (hr : r = decide (a < b)) (w : World) :
    Calls Try.prog 53 #[.agg (NC a s), .agg (NC b t)] w fun e w' => e = .returned (.bool r) ∧ Below w.heap.size w w' := by
  have ht := top_start a b ha hb
  have Ha := Lib.hid ha; clear ha
  have Hb := Lib.hid hb; clear hb
  have Hr := Lib.hid hr; clear hr
  have Ht := Lib.hid ht; clear ht
  go_enter Try.func53, Try.ntmps53
  go_wp2
  go_loopw [5] (fun i wr => ∃ k : Nat, k ≤ 136 ∧ i = .int .i64 ((k : Int) - 1) ∧ Hid (a / 2 ^ k = b / 2 ^ k) ∧ wr.heap[w.heap.size]? = some (.cells (NC a s) 86 (0, 0)) ∧ wr.heap[w.heap.size + 1]? = some (.cells (NC b t) 86 (0, 0)) ∧ Below w.heap.size w wr) (fun i _ => (intOf i + 1).toNat)
  case atStart => exact ⟨136, by omega, rfl, Ht, (by (focus ((repeat' (first | (with_reducible assumption) | ((with_reducible refine heap_last ?_); (focus (first | (simp; done) | omega | (simp; omega)))) | ((with_reducible refine heap_prev ?_ ?_); (focus (first | (simp; done) | omega | (simp; omega)))) | (with_reducible apply sign_heap) | (with_reducible apply row_heap) | (with_reducible apply bit0_heap) | ((with_reducible refine sign_other ?_ ?_); (focus (first | (simp; done) | omega | (simp; omega)))) | ((with_reducible refine row_other ?_ ?_); (focus (first | (simp; done) | omega | (simp; omega)))) | (with_reducible refine drew_heap ?_))); done))), (by (focus ((repeat' (first | (with_reducible assumption) | ((with_reducible refine heap_last ?_); (focus (first | (simp; done) | omega | (simp; omega)))) | ((with_reducible refine heap_prev ?_ ?_); (focus (first | (simp; done) | omega | (simp; omega)))) | (with_reducible apply sign_heap) | (with_reducible apply row_heap) | (with_reducible apply bit0_heap) | ((with_reducible refine sign_other ?_ ?_); (focus (first | (simp; done) | omega | (simp; omega)))) | ((with_reducible refine row_other ?_ ?_); (focus (first | (simp; done) | omega | (simp; omega)))) | (with_reducible refine drew_heap ?_))); done))), by go_grown⟩
  case round =>
    obtain ⟨k, hk, rfl, hf, h0, h1, hbw⟩ := hrel
    by_cases hlt : 0 < k
    · obtain ⟨j, rfl⟩ : ∃ j, k = j + 1 := ⟨k - 1, by omega⟩
      rw [show (((j + 1 : Nat) : Int) - 1) = (j : Int) by omega]
      have hj : j < 136 := by omega
      have ⟨s1, s2⟩ := top_step a b j hf.out
      have c1 : wr.cell? ⟨w.heap.size, j, none⟩ = some (.bool (a.testBit j)) := by rw [cell_of_row wr _ j _ _ _ h0, NC_get a s j hj]
      have c2 : wr.cell? ⟨w.heap.size + 1, j, none⟩ = some (.bool (b.testBit j)) := by rw [cell_of_row wr _ j _ _ _ h1, NC_get b t j hj]
      have H0 := Lib.hid h0; clear h0
      have H1 := Lib.hid h1; clear h1
      generalize a.testBit j = x at *
      generalize b.testBit j = y at *
      have q0 : (0 : Int) ≤ (j : Int) := by omega
      have q1 : (j : Int) < 136 := by omega
      cases x <;> cases y
      · have S1 := Lib.hid (s1 rfl)
        clear s1 s2
        go_wp2
        go_quiet (fail)
        go_wp2
        exact ⟨⟨j, by omega, rfl, S1.out, H0.out, H1.out, below_drewN hbw _⟩, by simp [intOf]⟩
      · have S1 := Lib.hid (decide_eq_true ((s2 (by simp)).2 rfl))
        clear s1 s2
        go_wp2
        go_quiet (fail)
        go_wp2
        go_ret
        exact ⟨ret_bool (by rw [Hr.out]; exact S1.out.symm), below_drewN hbw _⟩
      · have S1 := Lib.hid (decide_eq_false (fun h => Bool.false_ne_true ((s2 (by simp)).1 h)))
        clear s1 s2
        go_wp2
        go_quiet (fail)
        go_wp2
        go_ret
        exact ⟨ret_bool (by rw [Hr.out]; exact S1.out.symm), below_drewN hbw _⟩
      · have S1 := Lib.hid (s1 rfl)
        clear s1 s2
        go_wp2
        go_quiet (fail)
        go_wp2
        exact ⟨⟨j, by omega, rfl, S1.out, H0.out, H1.out, below_drewN hbw _⟩, by simp [intOf]⟩
    · obtain rfl : k = 0 := by omega
      go_wp2
      go_ret
      refine ⟨ret_bool ?_, hbw⟩
      rw [Hr.out]
      refine (decide_eq_false ?_).symm
      have := hf.out
      simp at this
      omega
end Go.Proofs.Ytpegkojcemggaab

/- Whether a row of bits is 0; which of two is less; one place up. -/
namespace Go.Proofs.Ytpegkojcemggaab
open Go.RowKit

end Go.Proofs.Ytpegkojcemggaab

/- The other sign; both together. -/
namespace Go.Proofs.Ytpegkojcemggaab
open Go.RowKit

/-- A whole number as a row of bits and a sign. -/
def NZ (x : Int) : Array Value := NC x.natAbs (decide (x < 0))
set_option maxHeartbeats 4000000 in
set_option maxRecDepth 100000 in
theorem Plus_n (a b : Nat) (s t : Bool) (m : Nat) (r : Bool) (ha : a < 2 ^ 135) (hb : b < 2 ^ 135)
    (hm : m = if s = t then a + b else if a < b then b - a else a - b) (hr : r = ((if s = t then s else if a < b then t else s) && !decide (m = 0))) (w : World) :
    Calls Try.prog 46 #[.agg (NC a s), .agg (NC b t)] w fun e w' => e = .returned (.agg (NC m r)) ∧ Below w.heap.size w w' := by
  have hz := zero83
  have g1 := NC_sign a s
  have g2 := NC_sign b t
  have Ha := Lib.hid ha; clear ha
  have Hb := Lib.hid hb; clear hb
  by_cases hst : s = t
  · subst hst
    have Hm : Hid (m < 2 ^ 136) := by show _ < _; rw [hm, if_pos rfl]; have := Ha.out; have := Hb.out; omega
    rw [if_pos rfl] at hm hr
    have Hmm := Lib.hid hm.symm; clear hm
    have e1 : (s == s) = true := by simp
    go_enter Try.func46, Try.ntmps46
    go_wp2_with (first | ((with_reducible apply load83); rfl; rfl; rfl; (focus ((repeat' (first | (with_reducible assumption) | ((with_reducible refine heap_last ?_); (focus (first | (simp; done) | omega | (simp; omega)))) | ((with_reducible refine heap_prev ?_ ?_); (focus (first | (simp; done) | omega | (simp; omega)))) | (with_reducible apply sign_heap) | (with_reducible apply row_heap) | (with_reducible apply bit0_heap) | ((with_reducible refine sign_other ?_ ?_); (focus (first | (simp; done) | omega | (simp; omega)))) | ((with_reducible refine row_other ?_ ?_); (focus (first | (simp; done) | omega | (simp; omega)))) | (with_reducible refine drew_heap ?_))); done)); skip) | (first | ((with_reducible apply store83_0); rfl; rfl; rfl; rfl; (focus (simp; done)); skip) | ((with_reducible apply store83_1); rfl; rfl; rfl; rfl; (focus (simp; done)); skip) | ((with_reducible apply store83_2); rfl; rfl; rfl; rfl; (focus (simp; done)); skip) | ((with_reducible apply store83_3); rfl; rfl; rfl; rfl; (focus (simp; done)); skip) | ((with_reducible apply store83_4); rfl; rfl; rfl; rfl; (focus (simp; done)); skip)))
    ((with_reducible refine (more_c a b _ _ _).mono ?_); rintro e w1 ⟨rfl, hb1⟩)
    rw [Hmm.out]
    have z1 : w.heap.size + 4 ≤ w1.heap.size := by have := hb1.size; simp at this; omega
    have h0 : w1.heap[w.heap.size]? = some (.cells (NC a s) 86 (0, 0)) := (by rw [hb1.block _ (by (focus (first | (simp; done) | omega | (simp; omega))))]; (focus ((repeat' (first | (with_reducible assumption) | ((with_reducible refine heap_last ?_); (focus (first | (simp; done) | omega | (simp; omega)))) | ((with_reducible refine heap_prev ?_ ?_); (focus (first | (simp; done) | omega | (simp; omega)))) | (with_reducible apply sign_heap) | (with_reducible apply row_heap) | (with_reducible apply bit0_heap) | ((with_reducible refine sign_other ?_ ?_); (focus (first | (simp; done) | omega | (simp; omega)))) | ((with_reducible refine row_other ?_ ?_); (focus (first | (simp; done) | omega | (simp; omega)))) | (with_reducible refine drew_heap ?_))); done)))
    have h1 : w1.heap[w.heap.size + 1]? = some (.cells (NC b s) 86 (0, 0)) := (by rw [hb1.block _ (by (focus (first | (simp; done) | omega | (simp; omega))))]; (focus ((repeat' (first | (with_reducible assumption) | ((with_reducible refine heap_last ?_); (focus (first | (simp; done) | omega | (simp; omega)))) | ((with_reducible refine heap_prev ?_ ?_); (focus (first | (simp; done) | omega | (simp; omega)))) | (with_reducible apply sign_heap) | (with_reducible apply row_heap) | (with_reducible apply bit0_heap) | ((with_reducible refine sign_other ?_ ?_); (focus (first | (simp; done) | omega | (simp; omega)))) | ((with_reducible refine row_other ?_ ?_); (focus (first | (simp; done) | omega | (simp; omega)))) | (with_reducible refine drew_heap ?_))); done)))
    have h2 : w1.heap[w.heap.size + 1 + 1]? = some (.cells (NC 0 false) 86 (0, 0)) := (by rw [hb1.block _ (by (focus (first | (simp; done) | omega | (simp; omega))))]; (focus ((repeat' (first | (with_reducible assumption) | ((with_reducible refine heap_last ?_); (focus (first | (simp; done) | omega | (simp; omega)))) | ((with_reducible refine heap_prev ?_ ?_); (focus (first | (simp; done) | omega | (simp; omega)))) | (with_reducible apply sign_heap) | (with_reducible apply row_heap) | (with_reducible apply bit0_heap) | ((with_reducible refine sign_other ?_ ?_); (focus (first | (simp; done) | omega | (simp; omega)))) | ((with_reducible refine row_other ?_ ?_); (focus (first | (simp; done) | omega | (simp; omega)))) | (with_reducible refine drew_heap ?_))); done)))
    have h3 : w1.heap[w.heap.size + 1 + 1 + 1]? = some (.cells (NC 0 false) 86 (0, 0)) := (by rw [hb1.block _ (by (focus (first | (simp; done) | omega | (simp; omega))))]; (focus ((repeat' (first | (with_reducible assumption) | ((with_reducible refine heap_last ?_); (focus (first | (simp; done) | omega | (simp; omega)))) | ((with_reducible refine heap_prev ?_ ?_); (focus (first | (simp; done) | omega | (simp; omega)))) | (with_reducible apply sign_heap) | (with_reducible apply row_heap) | (with_reducible apply bit0_heap) | ((with_reducible refine sign_other ?_ ?_); (focus (first | (simp; done) | omega | (simp; omega)))) | ((with_reducible refine row_other ?_ ?_); (focus (first | (simp; done) | omega | (simp; omega)))) | (with_reducible refine drew_heap ?_))); done)))
    have hB : Below w.heap.size w w1 := Below.trans (by (focus ((repeat' (first | (with_reducible exact Below.refl _ _) | (with_reducible assumption) | (with_reducible refine Below.alloc ?_ ?_ _) | (with_reducible refine Below.setCell ?_ ?_ _) | (with_reducible refine Below.row ?_ ?_ _) | (with_reducible refine Below.drew ?_) | (with_reducible refine below_drewN ?_ _) | (focus (first | (simp; done) | omega | (simp; omega))))); done))) (hb1.mono (by simp; omega))
    clear hb1
    have cX : (w1.setRow (w.heap.size + 1 + 1 + 1) (NC m false)).cell? ⟨w.heap.size, 136, none⟩ = some (.bool s) := by rw [cell_of_row _ _ _ _ _ _ (row_other (by omega) h0), NC_sign]
    have cN : (w1.setRow (w.heap.size + 1 + 1 + 1) (NC m false)).cell? ⟨w.heap.size + 1 + 1 + 1, 136, none⟩ = some (.bool false) := by rw [cell_of_row _ _ _ _ _ _ (row_heap h3), NC_sign]
    have fN : (w1.setRow (w.heap.size + 1 + 1 + 1) (NC m false)).frozen? ⟨w.heap.size + 1 + 1 + 1, 136, none⟩ = false := frozen_of_row _ _ _ _ _ (row_heap h3)
    have k3 : ((w1.setRow (w.heap.size + 1 + 1 + 1) (NC m false)).setCell ⟨w.heap.size + 1 + 1 + 1, 136, none⟩ (.bool s)).heap[w.heap.size + 1 + 1 + 1]? = some (.cells (NC m s) 86 (0, 0)) := sign_heap (row_heap h3)
    have cN2 : ((w1.setRow (w.heap.size + 1 + 1 + 1) (NC m false)).setCell ⟨w.heap.size + 1 + 1 + 1, 136, none⟩ (.bool s)).cell? ⟨w.heap.size + 1 + 1 + 1, 136, none⟩ = some (.bool s) := by rw [cell_of_row _ _ _ _ _ _ k3, NC_sign]
    have fN2 : ((w1.setRow (w.heap.size + 1 + 1 + 1) (NC m false)).setCell ⟨w.heap.size + 1 + 1 + 1, 136, none⟩ (.bool s)).frozen? ⟨w.heap.size + 1 + 1 + 1, 136, none⟩ = false := frozen_of_row _ _ _ _ _ k3
    obtain ⟨bz, hbz⟩ : ∃ bz, bz = decide (m = 0) := ⟨_, rfl⟩
    have Hbz := Lib.hid hbz
    rw [← hbz] at hr
    clear hbz
    have K3 := Lib.hid k3; clear k3
    have hBw : Below w.heap.size w ((w1.setRow (w.heap.size + 1 + 1 + 1) (NC m false)).setCell ⟨w.heap.size + 1 + 1 + 1, 136, none⟩ (.bool s)) := by (focus ((repeat' (first | (with_reducible exact Below.refl _ _) | (with_reducible assumption) | (with_reducible refine Below.alloc ?_ ?_ _) | (with_reducible refine Below.setCell ?_ ?_ _) | (with_reducible refine Below.row ?_ ?_ _) | (with_reducible refine Below.drew ?_) | (with_reducible refine below_drewN ?_ _) | (focus (first | (simp; done) | omega | (simp; omega))))); done))
    have k2 : ((w1.setRow (w.heap.size + 1 + 1 + 1) (NC m false)).setCell ⟨w.heap.size + 1 + 1 + 1, 136, none⟩ (.bool s)).heap[w.heap.size + 1 + 1]? = some (.cells (NC 0 false) 86 (0, 0)) := by (focus ((repeat' (first | (with_reducible assumption) | ((with_reducible refine heap_last ?_); (focus (first | (simp; done) | omega | (simp; omega)))) | ((with_reducible refine heap_prev ?_ ?_); (focus (first | (simp; done) | omega | (simp; omega)))) | (with_reducible apply sign_heap) | (with_reducible apply row_heap) | (with_reducible apply bit0_heap) | ((with_reducible refine sign_other ?_ ?_); (focus (first | (simp; done) | omega | (simp; omega)))) | ((with_reducible refine row_other ?_ ?_); (focus (first | (simp; done) | omega | (simp; omega)))) | (with_reducible refine drew_heap ?_))); done))
    have kz : w.heap.size + 4 ≤ ((w1.setRow (w.heap.size + 1 + 1 + 1) (NC m false)).setCell ⟨w.heap.size + 1 + 1 + 1, 136, none⟩ (.bool s)).heap.size := by simp; omega
    have K2 := Lib.hid k2; clear k2
    cases s
    · obtain rfl : r = false := by rw [hr]; rfl
      clear hr
      have k3 := K3.out
      go_wp2_with (first | ((with_reducible apply load83); rfl; rfl; rfl; (focus ((repeat' (first | (with_reducible assumption) | ((with_reducible refine heap_last ?_); (focus (first | (simp; done) | omega | (simp; omega)))) | ((with_reducible refine heap_prev ?_ ?_); (focus (first | (simp; done) | omega | (simp; omega)))) | (with_reducible apply sign_heap) | (with_reducible apply row_heap) | (with_reducible apply bit0_heap) | ((with_reducible refine sign_other ?_ ?_); (focus (first | (simp; done) | omega | (simp; omega)))) | ((with_reducible refine row_other ?_ ?_); (focus (first | (simp; done) | omega | (simp; omega)))) | (with_reducible refine drew_heap ?_))); done)); skip) | (first | ((with_reducible apply store83_0); rfl; rfl; rfl; rfl; (focus (simp; done)); skip) | ((with_reducible apply store83_1); rfl; rfl; rfl; rfl; (focus (simp; done)); skip) | ((with_reducible apply store83_2); rfl; rfl; rfl; rfl; (focus (simp; done)); skip) | ((with_reducible apply store83_3); rfl; rfl; rfl; rfl; (focus (simp; done)); skip) | ((with_reducible apply store83_4); rfl; rfl; rfl; rfl; (focus (simp; done)); skip)) | ((with_reducible apply store83); rfl; rfl; rfl; rfl; (focus ((repeat' (first | (with_reducible assumption) | ((with_reducible refine heap_last ?_); (focus (first | (simp; done) | omega | (simp; omega)))) | ((with_reducible refine heap_prev ?_ ?_); (focus (first | (simp; done) | omega | (simp; omega)))) | (with_reducible apply sign_heap) | (with_reducible apply row_heap) | (with_reducible apply bit0_heap) | ((with_reducible refine sign_other ?_ ?_); (focus (first | (simp; done) | omega | (simp; omega)))) | ((with_reducible refine row_other ?_ ?_); (focus (first | (simp; done) | omega | (simp; omega)))) | (with_reducible refine drew_heap ?_))); done)); skip) | ((with_reducible apply bodyPost_ret); (apply ret83; rfl; rfl; (focus ((repeat' (first | (with_reducible assumption) | ((with_reducible refine heap_last ?_); (focus (first | (simp; done) | omega | (simp; omega)))) | ((with_reducible refine heap_prev ?_ ?_); (focus (first | (simp; done) | omega | (simp; omega)))) | (with_reducible apply sign_heap) | (with_reducible apply row_heap) | (with_reducible apply bit0_heap) | ((with_reducible refine sign_other ?_ ?_); (focus (first | (simp; done) | omega | (simp; omega)))) | ((with_reducible refine row_other ?_ ?_); (focus (first | (simp; done) | omega | (simp; omega)))) | (with_reducible refine drew_heap ?_))); done))); rfl; skip))
      first | exact ⟨rfl, by (focus ((repeat' (first | (with_reducible exact Below.refl _ _) | (with_reducible assumption) | (with_reducible refine Below.alloc ?_ ?_ _) | (with_reducible refine Below.setCell ?_ ?_ _) | (with_reducible refine Below.row ?_ ?_ _) | (with_reducible refine Below.drew ?_) | (with_reducible refine below_drewN ?_ _) | (focus (first | (simp; done) | omega | (simp; omega))))); done))⟩ | (focus ((repeat' (first | (with_reducible exact Below.refl _ _) | (with_reducible assumption) | (with_reducible refine Below.alloc ?_ ?_ _) | (with_reducible refine Below.setCell ?_ ?_ _) | (with_reducible refine Below.row ?_ ?_ _) | (with_reducible refine Below.drew ?_) | (with_reducible refine below_drewN ?_ _) | (focus (first | (simp; done) | omega | (simp; omega))))); done))
    · obtain rfl : r = !bz := by rw [hr]; rfl
      clear hr
      have k3 := K3.out
      go_wp2_with (first | ((with_reducible apply load83); rfl; rfl; rfl; (focus ((repeat' (first | (with_reducible assumption) | ((with_reducible refine heap_last ?_); (focus (first | (simp; done) | omega | (simp; omega)))) | ((with_reducible refine heap_prev ?_ ?_); (focus (first | (simp; done) | omega | (simp; omega)))) | (with_reducible apply sign_heap) | (with_reducible apply row_heap) | (with_reducible apply bit0_heap) | ((with_reducible refine sign_other ?_ ?_); (focus (first | (simp; done) | omega | (simp; omega)))) | ((with_reducible refine row_other ?_ ?_); (focus (first | (simp; done) | omega | (simp; omega)))) | (with_reducible refine drew_heap ?_))); done)); skip) | ((with_reducible apply store83); rfl; rfl; rfl; rfl; (focus ((repeat' (first | (with_reducible assumption) | ((with_reducible refine heap_last ?_); (focus (first | (simp; done) | omega | (simp; omega)))) | ((with_reducible refine heap_prev ?_ ?_); (focus (first | (simp; done) | omega | (simp; omega)))) | (with_reducible apply sign_heap) | (with_reducible apply row_heap) | (with_reducible apply bit0_heap) | ((with_reducible refine sign_other ?_ ?_); (focus (first | (simp; done) | omega | (simp; omega)))) | ((with_reducible refine row_other ?_ ?_); (focus (first | (simp; done) | omega | (simp; omega)))) | (with_reducible refine drew_heap ?_))); done)); skip))
      ((with_reducible refine (nought_c m _ bz Hm.out Hbz.out _).mono ?_); rintro e w2 ⟨rfl, hb2⟩)
      have y3 : w2.heap[w.heap.size + 1 + 1 + 1]? = some (.cells (NC m true) 86 (0, 0)) := by rw [hb2.block _ (by (focus (first | (simp; done) | omega | (simp; omega))))]; exact K3.out
      have y2 : w2.heap[w.heap.size + 1 + 1]? = some (.cells (NC 0 false) 86 (0, 0)) := by rw [hb2.block _ (by (focus (first | (simp; done) | omega | (simp; omega))))]; exact K2.out
      have yc : w2.cell? ⟨w.heap.size + 1 + 1 + 1, 136, none⟩ = some (.bool true) := by rw [cell_of_row _ _ _ _ _ _ y3, NC_sign]
      have yf : w2.frozen? ⟨w.heap.size + 1 + 1 + 1, 136, none⟩ = false := frozen_of_row _ _ _ _ _ y3
      have yB : Below w.heap.size w w2 := hBw.trans (hb2.mono (by omega))
      have yz : w.heap.size + 4 ≤ w2.heap.size := by have := hb2.size; omega
      clear hb2 hBw h0 h1 h2 h3 k3 kz cX cN fN cN2 fN2 hB z1
      cases bz
      all_goals
        go_wp2_with (first | ((with_reducible apply load83); rfl; rfl; rfl; (focus ((repeat' (first | (with_reducible assumption) | ((with_reducible refine heap_last ?_); (focus (first | (simp; done) | omega | (simp; omega)))) | ((with_reducible refine heap_prev ?_ ?_); (focus (first | (simp; done) | omega | (simp; omega)))) | (with_reducible apply sign_heap) | (with_reducible apply row_heap) | (with_reducible apply bit0_heap) | ((with_reducible refine sign_other ?_ ?_); (focus (first | (simp; done) | omega | (simp; omega)))) | ((with_reducible refine row_other ?_ ?_); (focus (first | (simp; done) | omega | (simp; omega)))) | (with_reducible refine drew_heap ?_))); done)); skip) | (first | ((with_reducible apply store83_0); rfl; rfl; rfl; rfl; (focus (simp; done)); skip) | ((with_reducible apply store83_1); rfl; rfl; rfl; rfl; (focus (simp; done)); skip) | ((with_reducible apply store83_2); rfl; rfl; rfl; rfl; (focus (simp; done)); skip) | ((with_reducible apply store83_3); rfl; rfl; rfl; rfl; (focus (simp; done)); skip) | ((with_reducible apply store83_4); rfl; rfl; rfl; rfl; (focus (simp; done)); skip)) | ((with_reducible apply store83); rfl; rfl; rfl; rfl; (focus ((repeat' (first | (with_reducible assumption) | ((with_reducible refine heap_last ?_); (focus (first | (simp; done) | omega | (simp; omega)))) | ((with_reducible refine heap_prev ?_ ?_); (focus (first | (simp; done) | omega | (simp; omega)))) | (with_reducible apply sign_heap) | (with_reducible apply row_heap) | (with_reducible apply bit0_heap) | ((with_reducible refine sign_other ?_ ?_); (focus (first | (simp; done) | omega | (simp; omega)))) | ((with_reducible refine row_other ?_ ?_); (focus (first | (simp; done) | omega | (simp; omega)))) | (with_reducible refine drew_heap ?_))); done)); skip) | ((with_reducible apply bodyPost_ret); (apply ret83; rfl; rfl; (focus ((repeat' (first | (with_reducible assumption) | ((with_reducible refine heap_last ?_); (focus (first | (simp; done) | omega | (simp; omega)))) | ((with_reducible refine heap_prev ?_ ?_); (focus (first | (simp; done) | omega | (simp; omega)))) | (with_reducible apply sign_heap) | (with_reducible apply row_heap) | (with_reducible apply bit0_heap) | ((with_reducible refine sign_other ?_ ?_); (focus (first | (simp; done) | omega | (simp; omega)))) | ((with_reducible refine row_other ?_ ?_); (focus (first | (simp; done) | omega | (simp; omega)))) | (with_reducible refine drew_heap ?_))); done))); rfl; skip))
        first | exact ⟨rfl, by (focus ((repeat' (first | (with_reducible exact Below.refl _ _) | (with_reducible assumption) | (with_reducible refine Below.alloc ?_ ?_ _) | (with_reducible refine Below.setCell ?_ ?_ _) | (with_reducible refine Below.row ?_ ?_ _) | (with_reducible refine Below.drew ?_) | (with_reducible refine below_drewN ?_ _) | (focus (first | (simp; done) | omega | (simp; omega))))); done))⟩ | (focus ((repeat' (first | (with_reducible exact Below.refl _ _) | (with_reducible assumption) | (with_reducible refine Below.alloc ?_ ?_ _) | (with_reducible refine Below.setCell ?_ ?_ _) | (with_reducible refine Below.row ?_ ?_ _) | (with_reducible refine Below.drew ?_) | (with_reducible refine below_drewN ?_ _) | (focus (first | (simp; done) | omega | (simp; omega))))); done))
  · have e1 : (s == t) = false := by simp [hst]
    rw [if_neg hst] at hm hr
    have ha' : a < 2 ^ 136 := by have := Ha.out; omega
    have hb' : b < 2 ^ 136 := by have := Hb.out; omega
    have Ha' := Lib.hid ha'; clear ha'
    have Hb' := Lib.hid hb'; clear hb'
    have Hst := Lib.hid hst; clear hst
    by_cases hab : a < b
    · have Hm : Hid (m < 2 ^ 136) := by show _ < _; rw [hm, if_pos hab]; have := Hb.out; omega
      have Hlt : Hid (true = decide (a < b)) := (decide_eq_true hab).symm
      have Hle := Lib.hid (Nat.le_of_lt hab)
      rw [if_pos hab] at hm hr
      have Hmm := Lib.hid hm.symm; clear hm hab
      go_enter Try.func46, Try.ntmps46
      go_wp2_with (first | ((with_reducible apply load83); rfl; rfl; rfl; (focus ((repeat' (first | (with_reducible assumption) | ((with_reducible refine heap_last ?_); (focus (first | (simp; done) | omega | (simp; omega)))) | ((with_reducible refine heap_prev ?_ ?_); (focus (first | (simp; done) | omega | (simp; omega)))) | (with_reducible apply sign_heap) | (with_reducible apply row_heap) | (with_reducible apply bit0_heap) | ((with_reducible refine sign_other ?_ ?_); (focus (first | (simp; done) | omega | (simp; omega)))) | ((with_reducible refine row_other ?_ ?_); (focus (first | (simp; done) | omega | (simp; omega)))) | (with_reducible refine drew_heap ?_))); done)); skip) | (first | ((with_reducible apply store83_0); rfl; rfl; rfl; rfl; (focus (simp; done)); skip) | ((with_reducible apply store83_1); rfl; rfl; rfl; rfl; (focus (simp; done)); skip) | ((with_reducible apply store83_2); rfl; rfl; rfl; rfl; (focus (simp; done)); skip) | ((with_reducible apply store83_3); rfl; rfl; rfl; rfl; (focus (simp; done)); skip) | ((with_reducible apply store83_4); rfl; rfl; rfl; rfl; (focus (simp; done)); skip)))
      ((with_reducible refine (below_c a b _ _ true Ha'.out Hb'.out Hlt.out _).mono ?_); rintro e wq ⟨rfl, hb1⟩)
      have z1 : w.heap.size + 4 ≤ wq.heap.size := by have := hb1.size; simp at this; omega
      have h0 : wq.heap[w.heap.size]? = some (.cells (NC a s) 86 (0, 0)) := (by rw [hb1.block _ (by (focus (first | (simp; done) | omega | (simp; omega))))]; (focus ((repeat' (first | (with_reducible assumption) | ((with_reducible refine heap_last ?_); (focus (first | (simp; done) | omega | (simp; omega)))) | ((with_reducible refine heap_prev ?_ ?_); (focus (first | (simp; done) | omega | (simp; omega)))) | (with_reducible apply sign_heap) | (with_reducible apply row_heap) | (with_reducible apply bit0_heap) | ((with_reducible refine sign_other ?_ ?_); (focus (first | (simp; done) | omega | (simp; omega)))) | ((with_reducible refine row_other ?_ ?_); (focus (first | (simp; done) | omega | (simp; omega)))) | (with_reducible refine drew_heap ?_))); done)))
      have h1 : wq.heap[w.heap.size + 1]? = some (.cells (NC b t) 86 (0, 0)) := (by rw [hb1.block _ (by (focus (first | (simp; done) | omega | (simp; omega))))]; (focus ((repeat' (first | (with_reducible assumption) | ((with_reducible refine heap_last ?_); (focus (first | (simp; done) | omega | (simp; omega)))) | ((with_reducible refine heap_prev ?_ ?_); (focus (first | (simp; done) | omega | (simp; omega)))) | (with_reducible apply sign_heap) | (with_reducible apply row_heap) | (with_reducible apply bit0_heap) | ((with_reducible refine sign_other ?_ ?_); (focus (first | (simp; done) | omega | (simp; omega)))) | ((with_reducible refine row_other ?_ ?_); (focus (first | (simp; done) | omega | (simp; omega)))) | (with_reducible refine drew_heap ?_))); done)))
      have h2 : wq.heap[w.heap.size + 1 + 1]? = some (.cells (NC 0 false) 86 (0, 0)) := (by rw [hb1.block _ (by (focus (first | (simp; done) | omega | (simp; omega))))]; (focus ((repeat' (first | (with_reducible assumption) | ((with_reducible refine heap_last ?_); (focus (first | (simp; done) | omega | (simp; omega)))) | ((with_reducible refine heap_prev ?_ ?_); (focus (first | (simp; done) | omega | (simp; omega)))) | (with_reducible apply sign_heap) | (with_reducible apply row_heap) | (with_reducible apply bit0_heap) | ((with_reducible refine sign_other ?_ ?_); (focus (first | (simp; done) | omega | (simp; omega)))) | ((with_reducible refine row_other ?_ ?_); (focus (first | (simp; done) | omega | (simp; omega)))) | (with_reducible refine drew_heap ?_))); done)))
      have h3 : wq.heap[w.heap.size + 1 + 1 + 1]? = some (.cells (NC 0 false) 86 (0, 0)) := (by rw [hb1.block _ (by (focus (first | (simp; done) | omega | (simp; omega))))]; (focus ((repeat' (first | (with_reducible assumption) | ((with_reducible refine heap_last ?_); (focus (first | (simp; done) | omega | (simp; omega)))) | ((with_reducible refine heap_prev ?_ ?_); (focus (first | (simp; done) | omega | (simp; omega)))) | (with_reducible apply sign_heap) | (with_reducible apply row_heap) | (with_reducible apply bit0_heap) | ((with_reducible refine sign_other ?_ ?_); (focus (first | (simp; done) | omega | (simp; omega)))) | ((with_reducible refine row_other ?_ ?_); (focus (first | (simp; done) | omega | (simp; omega)))) | (with_reducible refine drew_heap ?_))); done)))
      have hB : Below w.heap.size w wq := Below.trans (by (focus ((repeat' (first | (with_reducible exact Below.refl _ _) | (with_reducible assumption) | (with_reducible refine Below.alloc ?_ ?_ _) | (with_reducible refine Below.setCell ?_ ?_ _) | (with_reducible refine Below.row ?_ ?_ _) | (with_reducible refine Below.drew ?_) | (with_reducible refine below_drewN ?_ _) | (focus (first | (simp; done) | omega | (simp; omega))))); done))) (hb1.mono (by simp; omega))
      clear hb1
      go_wp2_with (first | ((with_reducible apply load83); rfl; rfl; rfl; (focus ((repeat' (first | (with_reducible assumption) | ((with_reducible refine heap_last ?_); (focus (first | (simp; done) | omega | (simp; omega)))) | ((with_reducible refine heap_prev ?_ ?_); (focus (first | (simp; done) | omega | (simp; omega)))) | (with_reducible apply sign_heap) | (with_reducible apply row_heap) | (with_reducible apply bit0_heap) | ((with_reducible refine sign_other ?_ ?_); (focus (first | (simp; done) | omega | (simp; omega)))) | ((with_reducible refine row_other ?_ ?_); (focus (first | (simp; done) | omega | (simp; omega)))) | (with_reducible refine drew_heap ?_))); done)); skip))
      ((with_reducible refine (less_c b a _ _ Hle.out _).mono ?_); rintro e w1 ⟨rfl, hb1⟩)
      rw [Hmm.out]
      replace h0 : w1.heap[w.heap.size]? = some (.cells (NC a s) 86 (0, 0)) := (hb1.block _ (by omega)).trans h0
      replace h1 : w1.heap[w.heap.size + 1]? = some (.cells (NC b t) 86 (0, 0)) := (hb1.block _ (by omega)).trans h1
      replace h2 : w1.heap[w.heap.size + 1 + 1]? = some (.cells (NC 0 false) 86 (0, 0)) := (hb1.block _ (by omega)).trans h2
      replace h3 : w1.heap[w.heap.size + 1 + 1 + 1]? = some (.cells (NC 0 false) 86 (0, 0)) := (hb1.block _ (by omega)).trans h3
      replace hB : Below w.heap.size w w1 := hB.trans (hb1.mono (by omega))
      replace z1 : w.heap.size + 4 ≤ w1.heap.size := by have := hb1.size; omega
      clear hb1
      have cX : (w1.setRow (w.heap.size + 1 + 1 + 1) (NC m false)).cell? ⟨w.heap.size + 1, 136, none⟩ = some (.bool t) := by rw [cell_of_row _ _ _ _ _ _ (row_other (by omega) h1), NC_sign]
      have cN : (w1.setRow (w.heap.size + 1 + 1 + 1) (NC m false)).cell? ⟨w.heap.size + 1 + 1 + 1, 136, none⟩ = some (.bool false) := by rw [cell_of_row _ _ _ _ _ _ (row_heap h3), NC_sign]
      have fN : (w1.setRow (w.heap.size + 1 + 1 + 1) (NC m false)).frozen? ⟨w.heap.size + 1 + 1 + 1, 136, none⟩ = false := frozen_of_row _ _ _ _ _ (row_heap h3)
      have k3 : ((w1.setRow (w.heap.size + 1 + 1 + 1) (NC m false)).setCell ⟨w.heap.size + 1 + 1 + 1, 136, none⟩ (.bool t)).heap[w.heap.size + 1 + 1 + 1]? = some (.cells (NC m t) 86 (0, 0)) := sign_heap (row_heap h3)
      have cN2 : ((w1.setRow (w.heap.size + 1 + 1 + 1) (NC m false)).setCell ⟨w.heap.size + 1 + 1 + 1, 136, none⟩ (.bool t)).cell? ⟨w.heap.size + 1 + 1 + 1, 136, none⟩ = some (.bool t) := by rw [cell_of_row _ _ _ _ _ _ k3, NC_sign]
      have fN2 : ((w1.setRow (w.heap.size + 1 + 1 + 1) (NC m false)).setCell ⟨w.heap.size + 1 + 1 + 1, 136, none⟩ (.bool t)).frozen? ⟨w.heap.size + 1 + 1 + 1, 136, none⟩ = false := frozen_of_row _ _ _ _ _ k3
      obtain ⟨bz, hbz⟩ : ∃ bz, bz = decide (m = 0) := ⟨_, rfl⟩
      have Hbz := Lib.hid hbz
      rw [← hbz] at hr
      clear hbz
      have K3 := Lib.hid k3; clear k3
      have hBw : Below w.heap.size w ((w1.setRow (w.heap.size + 1 + 1 + 1) (NC m false)).setCell ⟨w.heap.size + 1 + 1 + 1, 136, none⟩ (.bool t)) := by (focus ((repeat' (first | (with_reducible exact Below.refl _ _) | (with_reducible assumption) | (with_reducible refine Below.alloc ?_ ?_ _) | (with_reducible refine Below.setCell ?_ ?_ _) | (with_reducible refine Below.row ?_ ?_ _) | (with_reducible refine Below.drew ?_) | (with_reducible refine below_drewN ?_ _) | (focus (first | (simp; done) | omega | (simp; omega))))); done))
      have k2 : ((w1.setRow (w.heap.size + 1 + 1 + 1) (NC m false)).setCell ⟨w.heap.size + 1 + 1 + 1, 136, none⟩ (.bool t)).heap[w.heap.size + 1 + 1]? = some (.cells (NC 0 false) 86 (0, 0)) := by (focus ((repeat' (first | (with_reducible assumption) | ((with_reducible refine heap_last ?_); (focus (first | (simp; done) | omega | (simp; omega)))) | ((with_reducible refine heap_prev ?_ ?_); (focus (first | (simp; done) | omega | (simp; omega)))) | (with_reducible apply sign_heap) | (with_reducible apply row_heap) | (with_reducible apply bit0_heap) | ((with_reducible refine sign_other ?_ ?_); (focus (first | (simp; done) | omega | (simp; omega)))) | ((with_reducible refine row_other ?_ ?_); (focus (first | (simp; done) | omega | (simp; omega)))) | (with_reducible refine drew_heap ?_))); done))
      have kz : w.heap.size + 4 ≤ ((w1.setRow (w.heap.size + 1 + 1 + 1) (NC m false)).setCell ⟨w.heap.size + 1 + 1 + 1, 136, none⟩ (.bool t)).heap.size := by simp; omega
      have K2 := Lib.hid k2; clear k2
      cases t
      · obtain rfl : r = false := by rw [hr]; rfl
        clear hr
        have k3 := K3.out
        go_wp2_with (first | ((with_reducible apply load83); rfl; rfl; rfl; (focus ((repeat' (first | (with_reducible assumption) | ((with_reducible refine heap_last ?_); (focus (first | (simp; done) | omega | (simp; omega)))) | ((with_reducible refine heap_prev ?_ ?_); (focus (first | (simp; done) | omega | (simp; omega)))) | (with_reducible apply sign_heap) | (with_reducible apply row_heap) | (with_reducible apply bit0_heap) | ((with_reducible refine sign_other ?_ ?_); (focus (first | (simp; done) | omega | (simp; omega)))) | ((with_reducible refine row_other ?_ ?_); (focus (first | (simp; done) | omega | (simp; omega)))) | (with_reducible refine drew_heap ?_))); done)); skip) | (first | ((with_reducible apply store83_0); rfl; rfl; rfl; rfl; (focus (simp; done)); skip) | ((with_reducible apply store83_1); rfl; rfl; rfl; rfl; (focus (simp; done)); skip) | ((with_reducible apply store83_2); rfl; rfl; rfl; rfl; (focus (simp; done)); skip) | ((with_reducible apply store83_3); rfl; rfl; rfl; rfl; (focus (simp; done)); skip) | ((with_reducible apply store83_4); rfl; rfl; rfl; rfl; (focus (simp; done)); skip)) | ((with_reducible apply store83); rfl; rfl; rfl; rfl; (focus ((repeat' (first | (with_reducible assumption) | ((with_reducible refine heap_last ?_); (focus (first | (simp; done) | omega | (simp; omega)))) | ((with_reducible refine heap_prev ?_ ?_); (focus (first | (simp; done) | omega | (simp; omega)))) | (with_reducible apply sign_heap) | (with_reducible apply row_heap) | (with_reducible apply bit0_heap) | ((with_reducible refine sign_other ?_ ?_); (focus (first | (simp; done) | omega | (simp; omega)))) | ((with_reducible refine row_other ?_ ?_); (focus (first | (simp; done) | omega | (simp; omega)))) | (with_reducible refine drew_heap ?_))); done)); skip) | ((with_reducible apply bodyPost_ret); (apply ret83; rfl; rfl; (focus ((repeat' (first | (with_reducible assumption) | ((with_reducible refine heap_last ?_); (focus (first | (simp; done) | omega | (simp; omega)))) | ((with_reducible refine heap_prev ?_ ?_); (focus (first | (simp; done) | omega | (simp; omega)))) | (with_reducible apply sign_heap) | (with_reducible apply row_heap) | (with_reducible apply bit0_heap) | ((with_reducible refine sign_other ?_ ?_); (focus (first | (simp; done) | omega | (simp; omega)))) | ((with_reducible refine row_other ?_ ?_); (focus (first | (simp; done) | omega | (simp; omega)))) | (with_reducible refine drew_heap ?_))); done))); rfl; skip))
        first | exact ⟨rfl, by (focus ((repeat' (first | (with_reducible exact Below.refl _ _) | (with_reducible assumption) | (with_reducible refine Below.alloc ?_ ?_ _) | (with_reducible refine Below.setCell ?_ ?_ _) | (with_reducible refine Below.row ?_ ?_ _) | (with_reducible refine Below.drew ?_) | (with_reducible refine below_drewN ?_ _) | (focus (first | (simp; done) | omega | (simp; omega))))); done))⟩ | (focus ((repeat' (first | (with_reducible exact Below.refl _ _) | (with_reducible assumption) | (with_reducible refine Below.alloc ?_ ?_ _) | (with_reducible refine Below.setCell ?_ ?_ _) | (with_reducible refine Below.row ?_ ?_ _) | (with_reducible refine Below.drew ?_) | (with_reducible refine below_drewN ?_ _) | (focus (first | (simp; done) | omega | (simp; omega))))); done))
      · obtain rfl : r = !bz := by rw [hr]; rfl
        clear hr
        have k3 := K3.out
        go_wp2_with (first | ((with_reducible apply load83); rfl; rfl; rfl; (focus ((repeat' (first | (with_reducible assumption) | ((with_reducible refine heap_last ?_); (focus (first | (simp; done) | omega | (simp; omega)))) | ((with_reducible refine heap_prev ?_ ?_); (focus (first | (simp; done) | omega | (simp; omega)))) | (with_reducible apply sign_heap) | (with_reducible apply row_heap) | (with_reducible apply bit0_heap) | ((with_reducible refine sign_other ?_ ?_); (focus (first | (simp; done) | omega | (simp; omega)))) | ((with_reducible refine row_other ?_ ?_); (focus (first | (simp; done) | omega | (simp; omega)))) | (with_reducible refine drew_heap ?_))); done)); skip) | ((with_reducible apply store83); rfl; rfl; rfl; rfl; (focus ((repeat' (first | (with_reducible assumption) | ((with_reducible refine heap_last ?_); (focus (first | (simp; done) | omega | (simp; omega)))) | ((with_reducible refine heap_prev ?_ ?_); (focus (first | (simp; done) | omega | (simp; omega)))) | (with_reducible apply sign_heap) | (with_reducible apply row_heap) | (with_reducible apply bit0_heap) | ((with_reducible refine sign_other ?_ ?_); (focus (first | (simp; done) | omega | (simp; omega)))) | ((with_reducible refine row_other ?_ ?_); (focus (first | (simp; done) | omega | (simp; omega)))) | (with_reducible refine drew_heap ?_))); done)); skip))
        ((with_reducible refine (nought_c m _ bz Hm.out Hbz.out _).mono ?_); rintro e w2 ⟨rfl, hb2⟩)
        have y3 : w2.heap[w.heap.size + 1 + 1 + 1]? = some (.cells (NC m true) 86 (0, 0)) := by rw [hb2.block _ (by (focus (first | (simp; done) | omega | (simp; omega))))]; exact K3.out
        have y2 : w2.heap[w.heap.size + 1 + 1]? = some (.cells (NC 0 false) 86 (0, 0)) := by rw [hb2.block _ (by (focus (first | (simp; done) | omega | (simp; omega))))]; exact K2.out
        have yc : w2.cell? ⟨w.heap.size + 1 + 1 + 1, 136, none⟩ = some (.bool true) := by rw [cell_of_row _ _ _ _ _ _ y3, NC_sign]
        have yf : w2.frozen? ⟨w.heap.size + 1 + 1 + 1, 136, none⟩ = false := frozen_of_row _ _ _ _ _ y3
        have yB : Below w.heap.size w w2 := hBw.trans (hb2.mono (by omega))
        have yz : w.heap.size + 4 ≤ w2.heap.size := by have := hb2.size; omega
        clear hb2 hBw h0 h1 h2 h3 k3 kz cX cN fN cN2 fN2 hB z1
        cases bz
        all_goals
          go_wp2_with (first | ((with_reducible apply load83); rfl; rfl; rfl; (focus ((repeat' (first | (with_reducible assumption) | ((with_reducible refine heap_last ?_); (focus (first | (simp; done) | omega | (simp; omega)))) | ((with_reducible refine heap_prev ?_ ?_); (focus (first | (simp; done) | omega | (simp; omega)))) | (with_reducible apply sign_heap) | (with_reducible apply row_heap) | (with_reducible apply bit0_heap) | ((with_reducible refine sign_other ?_ ?_); (focus (first | (simp; done) | omega | (simp; omega)))) | ((with_reducible refine row_other ?_ ?_); (focus (first | (simp; done) | omega | (simp; omega)))) | (with_reducible refine drew_heap ?_))); done)); skip) | (first | ((with_reducible apply store83_0); rfl; rfl; rfl; rfl; (focus (simp; done)); skip) | ((with_reducible apply store83_1); rfl; rfl; rfl; rfl; (focus (simp; done)); skip) | ((with_reducible apply store83_2); rfl; rfl; rfl; rfl; (focus (simp; done)); skip) | ((with_reducible apply store83_3); rfl; rfl; rfl; rfl; (focus (simp; done)); skip) | ((with_reducible apply store83_4); rfl; rfl; rfl; rfl; (focus (simp; done)); skip)) | ((with_reducible apply store83); rfl; rfl; rfl; rfl; (focus ((repeat' (first | (with_reducible assumption) | ((with_reducible refine heap_last ?_); (focus (first | (simp; done) | omega | (simp; omega)))) | ((with_reducible refine heap_prev ?_ ?_); (focus (first | (simp; done) | omega | (simp; omega)))) | (with_reducible apply sign_heap) | (with_reducible apply row_heap) | (with_reducible apply bit0_heap) | ((with_reducible refine sign_other ?_ ?_); (focus (first | (simp; done) | omega | (simp; omega)))) | ((with_reducible refine row_other ?_ ?_); (focus (first | (simp; done) | omega | (simp; omega)))) | (with_reducible refine drew_heap ?_))); done)); skip) | ((with_reducible apply bodyPost_ret); (apply ret83; rfl; rfl; (focus ((repeat' (first | (with_reducible assumption) | ((with_reducible refine heap_last ?_); (focus (first | (simp; done) | omega | (simp; omega)))) | ((with_reducible refine heap_prev ?_ ?_); (focus (first | (simp; done) | omega | (simp; omega)))) | (with_reducible apply sign_heap) | (with_reducible apply row_heap) | (with_reducible apply bit0_heap) | ((with_reducible refine sign_other ?_ ?_); (focus (first | (simp; done) | omega | (simp; omega)))) | ((with_reducible refine row_other ?_ ?_); (focus (first | (simp; done) | omega | (simp; omega)))) | (with_reducible refine drew_heap ?_))); done))); rfl; skip))
          first | exact ⟨rfl, by (focus ((repeat' (first | (with_reducible exact Below.refl _ _) | (with_reducible assumption) | (with_reducible refine Below.alloc ?_ ?_ _) | (with_reducible refine Below.setCell ?_ ?_ _) | (with_reducible refine Below.row ?_ ?_ _) | (with_reducible refine Below.drew ?_) | (with_reducible refine below_drewN ?_ _) | (focus (first | (simp; done) | omega | (simp; omega))))); done))⟩ | (focus ((repeat' (first | (with_reducible exact Below.refl _ _) | (with_reducible assumption) | (with_reducible refine Below.alloc ?_ ?_ _) | (with_reducible refine Below.setCell ?_ ?_ _) | (with_reducible refine Below.row ?_ ?_ _) | (with_reducible refine Below.drew ?_) | (with_reducible refine below_drewN ?_ _) | (focus (first | (simp; done) | omega | (simp; omega))))); done))
    · have Hm : Hid (m < 2 ^ 136) := by show _ < _; rw [hm, if_neg hab]; have := Ha.out; omega
      have Hlt : Hid (false = decide (a < b)) := (decide_eq_false hab).symm
      have Hle : Hid (b ≤ a) := by show _ ≤ _; omega
      rw [if_neg hab] at hm hr
      have Hmm := Lib.hid hm.symm; clear hm hab
      go_enter Try.func46, Try.ntmps46
      go_wp2_with (first | ((with_reducible apply load83); rfl; rfl; rfl; (focus ((repeat' (first | (with_reducible assumption) | ((with_reducible refine heap_last ?_); (focus (first | (simp; done) | omega | (simp; omega)))) | ((with_reducible refine heap_prev ?_ ?_); (focus (first | (simp; done) | omega | (simp; omega)))) | (with_reducible apply sign_heap) | (with_reducible apply row_heap) | (with_reducible apply bit0_heap) | ((with_reducible refine sign_other ?_ ?_); (focus (first | (simp; done) | omega | (simp; omega)))) | ((with_reducible refine row_other ?_ ?_); (focus (first | (simp; done) | omega | (simp; omega)))) | (with_reducible refine drew_heap ?_))); done)); skip) | (first | ((with_reducible apply store83_0); rfl; rfl; rfl; rfl; (focus (simp; done)); skip) | ((with_reducible apply store83_1); rfl; rfl; rfl; rfl; (focus (simp; done)); skip) | ((with_reducible apply store83_2); rfl; rfl; rfl; rfl; (focus (simp; done)); skip) | ((with_reducible apply store83_3); rfl; rfl; rfl; rfl; (focus (simp; done)); skip) | ((with_reducible apply store83_4); rfl; rfl; rfl; rfl; (focus (simp; done)); skip)))
      ((with_reducible refine (below_c a b _ _ false Ha'.out Hb'.out Hlt.out _).mono ?_); rintro e wq ⟨rfl, hb1⟩)
      have z1 : w.heap.size + 4 ≤ wq.heap.size := by have := hb1.size; simp at this; omega
      have h0 : wq.heap[w.heap.size]? = some (.cells (NC a s) 86 (0, 0)) := (by rw [hb1.block _ (by (focus (first | (simp; done) | omega | (simp; omega))))]; (focus ((repeat' (first | (with_reducible assumption) | ((with_reducible refine heap_last ?_); (focus (first | (simp; done) | omega | (simp; omega)))) | ((with_reducible refine heap_prev ?_ ?_); (focus (first | (simp; done) | omega | (simp; omega)))) | (with_reducible apply sign_heap) | (with_reducible apply row_heap) | (with_reducible apply bit0_heap) | ((with_reducible refine sign_other ?_ ?_); (focus (first | (simp; done) | omega | (simp; omega)))) | ((with_reducible refine row_other ?_ ?_); (focus (first | (simp; done) | omega | (simp; omega)))) | (with_reducible refine drew_heap ?_))); done)))
      have h1 : wq.heap[w.heap.size + 1]? = some (.cells (NC b t) 86 (0, 0)) := (by rw [hb1.block _ (by (focus (first | (simp; done) | omega | (simp; omega))))]; (focus ((repeat' (first | (with_reducible assumption) | ((with_reducible refine heap_last ?_); (focus (first | (simp; done) | omega | (simp; omega)))) | ((with_reducible refine heap_prev ?_ ?_); (focus (first | (simp; done) | omega | (simp; omega)))) | (with_reducible apply sign_heap) | (with_reducible apply row_heap) | (with_reducible apply bit0_heap) | ((with_reducible refine sign_other ?_ ?_); (focus (first | (simp; done) | omega | (simp; omega)))) | ((with_reducible refine row_other ?_ ?_); (focus (first | (simp; done) | omega | (simp; omega)))) | (with_reducible refine drew_heap ?_))); done)))
      have h2 : wq.heap[w.heap.size + 1 + 1]? = some (.cells (NC 0 false) 86 (0, 0)) := (by rw [hb1.block _ (by (focus (first | (simp; done) | omega | (simp; omega))))]; (focus ((repeat' (first | (with_reducible assumption) | ((with_reducible refine heap_last ?_); (focus (first | (simp; done) | omega | (simp; omega)))) | ((with_reducible refine heap_prev ?_ ?_); (focus (first | (simp; done) | omega | (simp; omega)))) | (with_reducible apply sign_heap) | (with_reducible apply row_heap) | (with_reducible apply bit0_heap) | ((with_reducible refine sign_other ?_ ?_); (focus (first | (simp; done) | omega | (simp; omega)))) | ((with_reducible refine row_other ?_ ?_); (focus (first | (simp; done) | omega | (simp; omega)))) | (with_reducible refine drew_heap ?_))); done)))
      have h3 : wq.heap[w.heap.size + 1 + 1 + 1]? = some (.cells (NC 0 false) 86 (0, 0)) := (by rw [hb1.block _ (by (focus (first | (simp; done) | omega | (simp; omega))))]; (focus ((repeat' (first | (with_reducible assumption) | ((with_reducible refine heap_last ?_); (focus (first | (simp; done) | omega | (simp; omega)))) | ((with_reducible refine heap_prev ?_ ?_); (focus (first | (simp; done) | omega | (simp; omega)))) | (with_reducible apply sign_heap) | (with_reducible apply row_heap) | (with_reducible apply bit0_heap) | ((with_reducible refine sign_other ?_ ?_); (focus (first | (simp; done) | omega | (simp; omega)))) | ((with_reducible refine row_other ?_ ?_); (focus (first | (simp; done) | omega | (simp; omega)))) | (with_reducible refine drew_heap ?_))); done)))
      have hB : Below w.heap.size w wq := Below.trans (by (focus ((repeat' (first | (with_reducible exact Below.refl _ _) | (with_reducible assumption) | (with_reducible refine Below.alloc ?_ ?_ _) | (with_reducible refine Below.setCell ?_ ?_ _) | (with_reducible refine Below.row ?_ ?_ _) | (with_reducible refine Below.drew ?_) | (with_reducible refine below_drewN ?_ _) | (focus (first | (simp; done) | omega | (simp; omega))))); done))) (hb1.mono (by simp; omega))
      clear hb1
      go_wp2_with (first | ((with_reducible apply load83); rfl; rfl; rfl; (focus ((repeat' (first | (with_reducible assumption) | ((with_reducible refine heap_last ?_); (focus (first | (simp; done) | omega | (simp; omega)))) | ((with_reducible refine heap_prev ?_ ?_); (focus (first | (simp; done) | omega | (simp; omega)))) | (with_reducible apply sign_heap) | (with_reducible apply row_heap) | (with_reducible apply bit0_heap) | ((with_reducible refine sign_other ?_ ?_); (focus (first | (simp; done) | omega | (simp; omega)))) | ((with_reducible refine row_other ?_ ?_); (focus (first | (simp; done) | omega | (simp; omega)))) | (with_reducible refine drew_heap ?_))); done)); skip))
      ((with_reducible refine (less_c a b _ _ Hle.out _).mono ?_); rintro e w1 ⟨rfl, hb1⟩)
      rw [Hmm.out]
      replace h0 : w1.heap[w.heap.size]? = some (.cells (NC a s) 86 (0, 0)) := (hb1.block _ (by omega)).trans h0
      replace h1 : w1.heap[w.heap.size + 1]? = some (.cells (NC b t) 86 (0, 0)) := (hb1.block _ (by omega)).trans h1
      replace h2 : w1.heap[w.heap.size + 1 + 1]? = some (.cells (NC 0 false) 86 (0, 0)) := (hb1.block _ (by omega)).trans h2
      replace h3 : w1.heap[w.heap.size + 1 + 1 + 1]? = some (.cells (NC 0 false) 86 (0, 0)) := (hb1.block _ (by omega)).trans h3
      replace hB : Below w.heap.size w w1 := hB.trans (hb1.mono (by omega))
      replace z1 : w.heap.size + 4 ≤ w1.heap.size := by have := hb1.size; omega
      clear hb1
      have cX : (w1.setRow (w.heap.size + 1 + 1 + 1) (NC m false)).cell? ⟨w.heap.size, 136, none⟩ = some (.bool s) := by rw [cell_of_row _ _ _ _ _ _ (row_other (by omega) h0), NC_sign]
      have cN : (w1.setRow (w.heap.size + 1 + 1 + 1) (NC m false)).cell? ⟨w.heap.size + 1 + 1 + 1, 136, none⟩ = some (.bool false) := by rw [cell_of_row _ _ _ _ _ _ (row_heap h3), NC_sign]
      have fN : (w1.setRow (w.heap.size + 1 + 1 + 1) (NC m false)).frozen? ⟨w.heap.size + 1 + 1 + 1, 136, none⟩ = false := frozen_of_row _ _ _ _ _ (row_heap h3)
      have k3 : ((w1.setRow (w.heap.size + 1 + 1 + 1) (NC m false)).setCell ⟨w.heap.size + 1 + 1 + 1, 136, none⟩ (.bool s)).heap[w.heap.size + 1 + 1 + 1]? = some (.cells (NC m s) 86 (0, 0)) := sign_heap (row_heap h3)
      have cN2 : ((w1.setRow (w.heap.size + 1 + 1 + 1) (NC m false)).setCell ⟨w.heap.size + 1 + 1 + 1, 136, none⟩ (.bool s)).cell? ⟨w.heap.size + 1 + 1 + 1, 136, none⟩ = some (.bool s) := by rw [cell_of_row _ _ _ _ _ _ k3, NC_sign]
      have fN2 : ((w1.setRow (w.heap.size + 1 + 1 + 1) (NC m false)).setCell ⟨w.heap.size + 1 + 1 + 1, 136, none⟩ (.bool s)).frozen? ⟨w.heap.size + 1 + 1 + 1, 136, none⟩ = false := frozen_of_row _ _ _ _ _ k3
      obtain ⟨bz, hbz⟩ : ∃ bz, bz = decide (m = 0) := ⟨_, rfl⟩
      have Hbz := Lib.hid hbz
      rw [← hbz] at hr
      clear hbz
      have K3 := Lib.hid k3; clear k3
      have hBw : Below w.heap.size w ((w1.setRow (w.heap.size + 1 + 1 + 1) (NC m false)).setCell ⟨w.heap.size + 1 + 1 + 1, 136, none⟩ (.bool s)) := by (focus ((repeat' (first | (with_reducible exact Below.refl _ _) | (with_reducible assumption) | (with_reducible refine Below.alloc ?_ ?_ _) | (with_reducible refine Below.setCell ?_ ?_ _) | (with_reducible refine Below.row ?_ ?_ _) | (with_reducible refine Below.drew ?_) | (with_reducible refine below_drewN ?_ _) | (focus (first | (simp; done) | omega | (simp; omega))))); done))
      have k2 : ((w1.setRow (w.heap.size + 1 + 1 + 1) (NC m false)).setCell ⟨w.heap.size + 1 + 1 + 1, 136, none⟩ (.bool s)).heap[w.heap.size + 1 + 1]? = some (.cells (NC 0 false) 86 (0, 0)) := by (focus ((repeat' (first | (with_reducible assumption) | ((with_reducible refine heap_last ?_); (focus (first | (simp; done) | omega | (simp; omega)))) | ((with_reducible refine heap_prev ?_ ?_); (focus (first | (simp; done) | omega | (simp; omega)))) | (with_reducible apply sign_heap) | (with_reducible apply row_heap) | (with_reducible apply bit0_heap) | ((with_reducible refine sign_other ?_ ?_); (focus (first | (simp; done) | omega | (simp; omega)))) | ((with_reducible refine row_other ?_ ?_); (focus (first | (simp; done) | omega | (simp; omega)))) | (with_reducible refine drew_heap ?_))); done))
      have kz : w.heap.size + 4 ≤ ((w1.setRow (w.heap.size + 1 + 1 + 1) (NC m false)).setCell ⟨w.heap.size + 1 + 1 + 1, 136, none⟩ (.bool s)).heap.size := by simp; omega
      have K2 := Lib.hid k2; clear k2
      cases s
      · obtain rfl : r = false := by rw [hr]; rfl
        clear hr
        have k3 := K3.out
        go_wp2_with (first | ((with_reducible apply load83); rfl; rfl; rfl; (focus ((repeat' (first | (with_reducible assumption) | ((with_reducible refine heap_last ?_); (focus (first | (simp; done) | omega | (simp; omega)))) | ((with_reducible refine heap_prev ?_ ?_); (focus (first | (simp; done) | omega | (simp; omega)))) | (with_reducible apply sign_heap) | (with_reducible apply row_heap) | (with_reducible apply bit0_heap) | ((with_reducible refine sign_other ?_ ?_); (focus (first | (simp; done) | omega | (simp; omega)))) | ((with_reducible refine row_other ?_ ?_); (focus (first | (simp; done) | omega | (simp; omega)))) | (with_reducible refine drew_heap ?_))); done)); skip) | (first | ((with_reducible apply store83_0); rfl; rfl; rfl; rfl; (focus (simp; done)); skip) | ((with_reducible apply store83_1); rfl; rfl; rfl; rfl; (focus (simp; done)); skip) | ((with_reducible apply store83_2); rfl; rfl; rfl; rfl; (focus (simp; done)); skip) | ((with_reducible apply store83_3); rfl; rfl; rfl; rfl; (focus (simp; done)); skip) | ((with_reducible apply store83_4); rfl; rfl; rfl; rfl; (focus (simp; done)); skip)) | ((with_reducible apply store83); rfl; rfl; rfl; rfl; (focus ((repeat' (first | (with_reducible assumption) | ((with_reducible refine heap_last ?_); (focus (first | (simp; done) | omega | (simp; omega)))) | ((with_reducible refine heap_prev ?_ ?_); (focus (first | (simp; done) | omega | (simp; omega)))) | (with_reducible apply sign_heap) | (with_reducible apply row_heap) | (with_reducible apply bit0_heap) | ((with_reducible refine sign_other ?_ ?_); (focus (first | (simp; done) | omega | (simp; omega)))) | ((with_reducible refine row_other ?_ ?_); (focus (first | (simp; done) | omega | (simp; omega)))) | (with_reducible refine drew_heap ?_))); done)); skip) | ((with_reducible apply bodyPost_ret); (apply ret83; rfl; rfl; (focus ((repeat' (first | (with_reducible assumption) | ((with_reducible refine heap_last ?_); (focus (first | (simp; done) | omega | (simp; omega)))) | ((with_reducible refine heap_prev ?_ ?_); (focus (first | (simp; done) | omega | (simp; omega)))) | (with_reducible apply sign_heap) | (with_reducible apply row_heap) | (with_reducible apply bit0_heap) | ((with_reducible refine sign_other ?_ ?_); (focus (first | (simp; done) | omega | (simp; omega)))) | ((with_reducible refine row_other ?_ ?_); (focus (first | (simp; done) | omega | (simp; omega)))) | (with_reducible refine drew_heap ?_))); done))); rfl; skip))
        first | exact ⟨rfl, by (focus ((repeat' (first | (with_reducible exact Below.refl _ _) | (with_reducible assumption) | (with_reducible refine Below.alloc ?_ ?_ _) | (with_reducible refine Below.setCell ?_ ?_ _) | (with_reducible refine Below.row ?_ ?_ _) | (with_reducible refine Below.drew ?_) | (with_reducible refine below_drewN ?_ _) | (focus (first | (simp; done) | omega | (simp; omega))))); done))⟩ | (focus ((repeat' (first | (with_reducible exact Below.refl _ _) | (with_reducible assumption) | (with_reducible refine Below.alloc ?_ ?_ _) | (with_reducible refine Below.setCell ?_ ?_ _) | (with_reducible refine Below.row ?_ ?_ _) | (with_reducible refine Below.drew ?_) | (with_reducible refine below_drewN ?_ _) | (focus (first | (simp; done) | omega | (simp; omega))))); done))
      · obtain rfl : r = !bz := by rw [hr]; rfl
        clear hr
        have k3 := K3.out
        go_wp2_with (first | ((with_reducible apply load83); rfl; rfl; rfl; (focus ((repeat' (first | (with_reducible assumption) | ((with_reducible refine heap_last ?_); (focus (first | (simp; done) | omega | (simp; omega)))) | ((with_reducible refine heap_prev ?_ ?_); (focus (first | (simp; done) | omega | (simp; omega)))) | (with_reducible apply sign_heap) | (with_reducible apply row_heap) | (with_reducible apply bit0_heap) | ((with_reducible refine sign_other ?_ ?_); (focus (first | (simp; done) | omega | (simp; omega)))) | ((with_reducible refine row_other ?_ ?_); (focus (first | (simp; done) | omega | (simp; omega)))) | (with_reducible refine drew_heap ?_))); done)); skip) | ((with_reducible apply store83); rfl; rfl; rfl; rfl; (focus ((repeat' (first | (with_reducible assumption) | ((with_reducible refine heap_last ?_); (focus (first | (simp; done) | omega | (simp; omega)))) | ((with_reducible refine heap_prev ?_ ?_); (focus (first | (simp; done) | omega | (simp; omega)))) | (with_reducible apply sign_heap) | (with_reducible apply row_heap) | (with_reducible apply bit0_heap) | ((with_reducible refine sign_other ?_ ?_); (focus (first | (simp; done) | omega | (simp; omega)))) | ((with_reducible refine row_other ?_ ?_); (focus (first | (simp; done) | omega | (simp; omega)))) | (with_reducible refine drew_heap ?_))); done)); skip))
        ((with_reducible refine (nought_c m _ bz Hm.out Hbz.out _).mono ?_); rintro e w2 ⟨rfl, hb2⟩)
        have y3 : w2.heap[w.heap.size + 1 + 1 + 1]? = some (.cells (NC m true) 86 (0, 0)) := by rw [hb2.block _ (by (focus (first | (simp; done) | omega | (simp; omega))))]; exact K3.out
        have y2 : w2.heap[w.heap.size + 1 + 1]? = some (.cells (NC 0 false) 86 (0, 0)) := by rw [hb2.block _ (by (focus (first | (simp; done) | omega | (simp; omega))))]; exact K2.out
        have yc : w2.cell? ⟨w.heap.size + 1 + 1 + 1, 136, none⟩ = some (.bool true) := by rw [cell_of_row _ _ _ _ _ _ y3, NC_sign]
        have yf : w2.frozen? ⟨w.heap.size + 1 + 1 + 1, 136, none⟩ = false := frozen_of_row _ _ _ _ _ y3
        have yB : Below w.heap.size w w2 := hBw.trans (hb2.mono (by omega))
        have yz : w.heap.size + 4 ≤ w2.heap.size := by have := hb2.size; omega
        clear hb2 hBw h0 h1 h2 h3 k3 kz cX cN fN cN2 fN2 hB z1
        cases bz
        all_goals
          go_wp2_with (first | ((with_reducible apply load83); rfl; rfl; rfl; (focus ((repeat' (first | (with_reducible assumption) | ((with_reducible refine heap_last ?_); (focus (first | (simp; done) | omega | (simp; omega)))) | ((with_reducible refine heap_prev ?_ ?_); (focus (first | (simp; done) | omega | (simp; omega)))) | (with_reducible apply sign_heap) | (with_reducible apply row_heap) | (with_reducible apply bit0_heap) | ((with_reducible refine sign_other ?_ ?_); (focus (first | (simp; done) | omega | (simp; omega)))) | ((with_reducible refine row_other ?_ ?_); (focus (first | (simp; done) | omega | (simp; omega)))) | (with_reducible refine drew_heap ?_))); done)); skip) | (first | ((with_reducible apply store83_0); rfl; rfl; rfl; rfl; (focus (simp; done)); skip) | ((with_reducible apply store83_1); rfl; rfl; rfl; rfl; (focus (simp; done)); skip) | ((with_reducible apply store83_2); rfl; rfl; rfl; rfl; (focus (simp; done)); skip) | ((with_reducible apply store83_3); rfl; rfl; rfl; rfl; (focus (simp; done)); skip) | ((with_reducible apply store83_4); rfl; rfl; rfl; rfl; (focus (simp; done)); skip)) | ((with_reducible apply store83); rfl; rfl; rfl; rfl; (focus ((repeat' (first | (with_reducible assumption) | ((with_reducible refine heap_last ?_); (focus (first | (simp; done) | omega | (simp; omega)))) | ((with_reducible refine heap_prev ?_ ?_); (focus (first | (simp; done) | omega | (simp; omega)))) | (with_reducible apply sign_heap) | (with_reducible apply row_heap) | (with_reducible apply bit0_heap) | ((with_reducible refine sign_other ?_ ?_); (focus (first | (simp; done) | omega | (simp; omega)))) | ((with_reducible refine row_other ?_ ?_); (focus (first | (simp; done) | omega | (simp; omega)))) | (with_reducible refine drew_heap ?_))); done)); skip) | ((with_reducible apply bodyPost_ret); (apply ret83; rfl; rfl; (focus ((repeat' (first | (with_reducible assumption) | ((with_reducible refine heap_last ?_); (focus (first | (simp; done) | omega | (simp; omega)))) | ((with_reducible refine heap_prev ?_ ?_); (focus (first | (simp; done) | omega | (simp; omega)))) | (with_reducible apply sign_heap) | (with_reducible apply row_heap) | (with_reducible apply bit0_heap) | ((with_reducible refine sign_other ?_ ?_); (focus (first | (simp; done) | omega | (simp; omega)))) | ((with_reducible refine row_other ?_ ?_); (focus (first | (simp; done) | omega | (simp; omega)))) | (with_reducible refine drew_heap ?_))); done))); rfl; skip))
          first | exact ⟨rfl, by (focus ((repeat' (first | (with_reducible exact Below.refl _ _) | (with_reducible assumption) | (with_reducible refine Below.alloc ?_ ?_ _) | (with_reducible refine Below.setCell ?_ ?_ _) | (with_reducible refine Below.row ?_ ?_ _) | (with_reducible refine Below.drew ?_) | (with_reducible refine below_drewN ?_ _) | (focus (first | (simp; done) | omega | (simp; omega))))); done))⟩ | (focus ((repeat' (first | (with_reducible exact Below.refl _ _) | (with_reducible assumption) | (with_reducible refine Below.alloc ?_ ?_ _) | (with_reducible refine Below.setCell ?_ ?_ _) | (with_reducible refine Below.row ?_ ?_ _) | (with_reducible refine Below.drew ?_) | (with_reducible refine below_drewN ?_ _) | (focus (first | (simp; done) | omega | (simp; omega))))); done))
end Go.Proofs.Ytpegkojcemggaab

/- The product. -/
namespace Go.Proofs.Ytpegkojcemggaab
open Go.RowKit

theorem mod_low (a b k : Nat) : a * (b % 2 ^ (k + 1)) = a * (b % 2 ^ k) + (if b.testBit k then a * 2 ^ k else 0) := by
  rw [low_succ, Nat.mul_add]
  cases b.testBit k <;> simp

end Go.Proofs.Ytpegkojcemggaab

/- The quotient and the rest. -/
namespace Go.Proofs.Ytpegkojcemggaab
open Go.RowKit

/-- The bits of f from k on. -/
def atop (f : Nat → Bool) (k : Nat) : Nat → Bool := fun j => decide (k ≤ j) && f j
theorem atop_all (m : Nat) (s : Bool) : NCf (atop m.testBit 0) s = NC m s := by
  unfold NC; apply NCf_congr; intro j _; simp [atop]
theorem atop_none (m : Nat) (s : Bool) : NCf (atop m.testBit 136) s = NC 0 s := by
  unfold NC; apply NCf_congr; intro j hj; simp [atop]; omega
theorem atop_set (f : Nat → Bool) (s : Bool) (k : Nat) (hk : k < 136) (hv : f k = true) : (NCf (atop f (k + 1)) s).setIfInBounds k (.bool true) = NCf (atop f k) s := by
  rw [NCf_set _ _ _ _ hk]
  apply NCf_congr
  intro j _
  unfold atop
  by_cases e : j = k
  · subst e; simp [hv]
  · rw [if_neg e]
    by_cases h1 : k ≤ j
    · simp [h1, show k + 1 ≤ j by omega]
    · simp [h1, show ¬ k + 1 ≤ j by omega]
theorem atop_skip (f : Nat → Bool) (s : Bool) (k : Nat) (hv : f k = false) : NCf (atop f (k + 1)) s = NCf (atop f k) s := by
  apply NCf_congr
  intro j _
  unfold atop
  by_cases e : j = k
  · subst e; simp [hv]
  · by_cases h1 : k ≤ j
    · simp [h1, show k + 1 ≤ j by omega]
    · simp [h1, show ¬ k + 1 ≤ j by omega]
/-- One step of the division by hand. -/
theorem div_step (a b j : Nat) (hb : 0 < b) : (a / b).testBit j = decide (b ≤ 2 * (a / 2 ^ (j + 1) % b) + (if a.testBit j then 1 else 0)) ∧
    a / 2 ^ j % b = if b ≤ 2 * (a / 2 ^ (j + 1) % b) + (if a.testBit j then 1 else 0) then 2 * (a / 2 ^ (j + 1) % b) + (if a.testBit j then 1 else 0) - b else 2 * (a / 2 ^ (j + 1) % b) + (if a.testBit j then 1 else 0) := by
  have e1 : a / 2 ^ j = 2 * (a / 2 ^ (j + 1)) + (if a.testBit j then 1 else 0) := by
    rw [div_succ, bit_eq]
    have : a / 2 ^ j % 2 = 0 ∨ a / 2 ^ j % 2 = 1 := by omega
    rcases this with h | h <;> simp [h] <;> omega
  have e2 : a / b / 2 ^ j = a / 2 ^ j / b := by rw [Nat.div_div_eq_div_mul, Nat.div_div_eq_div_mul, Nat.mul_comm]
  rw [bit_eq (a / b), e2, e1]
  obtain ⟨c, hc, hc1⟩ : ∃ c : Nat, c = (if a.testBit j then 1 else 0) ∧ c ≤ 1 := ⟨_, rfl, by split <;> omega⟩
  rw [← hc]
  generalize a / 2 ^ (j + 1) = x
  have e3 : 2 * x + c = b * (2 * (x / b)) + (2 * (x % b) + c) := by
    have := Nat.div_add_mod x b
    grind
  have hl : x % b < b := Nat.mod_lt _ hb
  rw [e3, Nat.mul_add_div hb, Nat.mul_add_mod]
  generalize x % b = y at *
  generalize x / b = z at *
  by_cases h : b ≤ 2 * y + c
  · have h1 : (2 * y + c) / b = 1 := by
      rw [Nat.div_eq_iff hb]; omega
    have h2 : (2 * y + c) % b = 2 * y + c - b := by
      rw [Nat.mod_eq_sub_mod h, Nat.mod_eq_of_lt (by omega)]
    rw [h1, Nat.mul_add_mod, h2, if_pos h]
    exact ⟨by simp [h], rfl⟩
  · have h1 : (2 * y + c) / b = 0 := Nat.div_eq_of_lt (by omega)
    have h2 : (2 * y + c) % b = 2 * y + c := Nat.mod_eq_of_lt (by omega)
    rw [h1, Nat.mul_add_mod, h2, if_neg h]
    exact ⟨by simp [h], rfl⟩

theorem atop_get (f : Nat → Bool) (s : Bool) (k i : Nat) (h : i < 136) : (NCf (atop f k) s)[i]? = some (.bool (atop f k i)) := NCf_get _ _ _ h
theorem NCf_heap {w : World} {g k : Nat} {f : Nat → Bool} {s : Bool} {t : TypeId} (hk : k < 136) (hv : f k = true) (h : w.heap[g]? = some (.cells (NCf (atop f (k + 1)) s) t (0, 0))) :
    (w.setCell ⟨g, k, none⟩ (.bool true)).heap[g]? = some (.cells (NCf (atop f k) s) t (0, 0)) := by
  rw [heap_setCell_same _ _ _ _ _ _ h, atop_set f s k hk hv]

end Go.Proofs.Ytpegkojcemggaab

/- A row of bits as a number of 64 bits, or refused. -/
namespace Go.Proofs.Ytpegkojcemggaab
open Go.RowKit

theorem high_bit (m : Nat) (hm : m < 2 ^ 136) (h : ∀ j, 64 ≤ j → j < 136 → m.testBit j = false) : m < 2 ^ 64 := by
  apply Nat.lt_pow_two_of_testBit
  intro i hi
  by_cases h2 : i < 136
  · exact h i hi h2
  · exact Nat.testBit_lt_two_pow (Nat.lt_of_lt_of_le hm (Nat.pow_le_pow_right (by omega) (by omega)))
theorem low_bit (m : Nat) (hm : m < 2 ^ 64) (j : Nat) (h : 64 ≤ j) : m.testBit j = false :=
  Nat.testBit_lt_two_pow (Nat.lt_of_lt_of_le hm (Nat.pow_le_pow_right (by omega) h))

set_option maxHeartbeats 4000000 in
set_option maxRecDepth 100000 in
theorem Back_big (m : Nat) (s : Bool) (hm : m < 2 ^ 136) (hb : 2 ^ 64 ≤ m) (w : World) :
    Calls Try.prog 56 #[.agg (NC m s)] w fun e w' => e = .returned (.tuple #[.int .i64 0, .bool false]) ∧ Below w.heap.size w w' := by
  have Hm := Lib.hid hm; clear hm
  have Hb := Lib.hid hb; clear hb
  go_enter Try.func56, Try.ntmps56
  go_wp2
  go_loop [4] (fun i => ∃ k : Nat, 64 ≤ k ∧ k ≤ 136 ∧ i = .int .i64 k ∧ (∀ j, 64 ≤ j → j < k → m.testBit j = false)) (fun i => 136 - (intOf i).toNat)
  case atStart => exact ⟨64, by omega, by omega, rfl, fun j h1 h2 => by omega⟩
  case round =>
    obtain ⟨k, hk0, hk, rfl, hf⟩ := hrel
    have Hf := Lib.hid hf; clear hf
    by_cases hlt : k < 136
    · have g1 := NC_get m s k hlt
      obtain ⟨x, hx⟩ : ∃ x, x = m.testBit k := ⟨_, rfl⟩
      rw [← hx] at g1
      have Hx := Lib.hid hx; clear hx
      cases x
      · go_wp2
        refine ⟨⟨k + 1, by omega, by omega, by go_num, fun j h1 hj => ?_⟩, by simp [intOf]; omega⟩
        by_cases e : j = k
        · subst e; exact Hx.out.symm
        · exact Hf.out j h1 (by omega)
      · go_wp2
        go_ret2
        first | exact ⟨rfl, by (focus ((repeat' (first | (with_reducible exact Below.refl _ _) | (with_reducible assumption) | (with_reducible refine Below.alloc ?_ ?_ _) | (with_reducible refine Below.setCell ?_ ?_ _) | (with_reducible refine Below.row ?_ ?_ _) | (with_reducible refine Below.drew ?_) | (with_reducible refine below_drewN ?_ _) | (focus (first | (simp; done) | omega | (simp; omega))))); done))⟩ | (focus ((repeat' (first | (with_reducible exact Below.refl _ _) | (with_reducible assumption) | (with_reducible refine Below.alloc ?_ ?_ _) | (with_reducible refine Below.setCell ?_ ?_ _) | (with_reducible refine Below.row ?_ ?_ _) | (with_reducible refine Below.drew ?_) | (with_reducible refine below_drewN ?_ _) | (focus (first | (simp; done) | omega | (simp; omega))))); done))
    · exfalso
      obtain rfl : k = 136 := by omega
      have := high_bit m Hm.out Hf.out
      have := Hb.out
      omega

theorem ret_pair {v : Value} {a b : Bool} (h : a = b) : Ending.returned (.tuple #[v, .bool a]) = .returned (.tuple #[v, .bool b]) := by rw [h]
def BackP (x : Int) (ok : Bool) (e : Ending) : Prop := ∃ v, e = .returned (.tuple #[.int .i64 v, .bool ok]) ∧ (ok = true → v = x)
theorem half_step (m j : Nat) (hm : m < 2 ^ 64) : m / 2 ^ j = 2 * (m / 2 ^ (j + 1)) + (if m.testBit j then 1 else 0) ∧ m / 2 ^ j ≤ 18446744073709551615 := by
  constructor
  · rw [div_succ, bit_eq]
    have : m / 2 ^ j % 2 = 0 ∨ m / 2 ^ j % 2 = 1 := by omega
    rcases this with h | h <;> simp [h] <;> omega
  · exact Nat.le_trans (Nat.div_le_self _ _) (by omega)
theorem back_neg (m : Nat) (h1 : 0 < m) (h2 : m ≤ 9223372036854775808) : wrap64 (18446744073709551615 - (m : Int) + 1) = -(m : Int) := by
  unfold wrap64; omega
theorem back_pos (m : Nat) (h2 : m < 9223372036854775808) : wrap64 (m : Int) = (m : Int) := by
  unfold wrap64; omega

set_option maxHeartbeats 4000000 in
set_option maxRecDepth 100000 in
theorem Back_small (m : Nat) (s : Bool) (ok : Bool) (hm : m < 2 ^ 64) (hs : s = true → 0 < m) (hok : ok = if s then decide (m ≤ 9223372036854775808) else decide (m < 9223372036854775808)) (w : World) :
    Calls Try.prog 56 #[.agg (NC m s)] w fun e w' => BackP (if s then -(m : Int) else (m : Int)) ok e ∧ Below w.heap.size w w' := by
  have gs := NC_sign m s
  have Hm := Lib.hid hm; clear hm
  have Hs := Lib.hid hs; clear hs
  have Hok := Lib.hid hok; clear hok
  go_enter Try.func56, Try.ntmps56
  go_wp2
  go_loop [4] (fun i => ∃ k : Nat, 64 ≤ k ∧ k ≤ 136 ∧ i = .int .i64 k) (fun i => 136 - (intOf i).toNat)
  case atStart => exact ⟨64, by omega, by omega, rfl⟩
  case round =>
    obtain ⟨k, hk0, hk, rfl⟩ := hrel
    by_cases hlt : k < 136
    · have g1 := NC_get m s k hlt
      rw [low_bit m Hm.out k hk0] at g1
      go_wp2
      exact ⟨⟨k + 1, by omega, by omega, by go_num⟩, by simp [intOf]; omega⟩
    · obtain rfl : k = 136 := by omega
      go_wp2
      go_loop [5, 6] (fun u i => ∃ k : Nat, k ≤ 64 ∧ i = .int .i64 ((k : Int) - 1) ∧ u = .int .u64 ((m / 2 ^ k : Nat) : Int)) (fun _ i => (intOf i + 1).toNat)
      case atStart => exact ⟨64, by omega, rfl, by rw [Nat.div_eq_of_lt Hm.out]; rfl⟩
      case round =>
        obtain ⟨k, hk, rfl, rfl⟩ := hrel
        by_cases hlt2 : 0 < k
        · obtain ⟨j, rfl⟩ : ∃ j, k = j + 1 := ⟨k - 1, by omega⟩
          rw [show (((j + 1 : Nat) : Int) - 1) = (j : Int) by omega]
          have ⟨h1, h2⟩ := half_step m j Hm.out
          have g1 := NC_get m s j (by omega)
          obtain ⟨q, hq⟩ : ∃ q, q = m / 2 ^ (j + 1) := ⟨_, rfl⟩
          rw [← hq] at h1
          rw [← hq]
          have Hq := Lib.hid hq; clear hq
          have q0 : (0 : Int) ≤ (j : Int) := by omega
          have q1 : (j : Int) < 64 := by omega
          generalize m.testBit j = x at *
          cases x
          · have h3 : (2 * (q : Int)) ≤ 18446744073709551615 := by simp at h1; omega
            have H1 := Lib.hid h1; clear h1 h2
            go_wp2
            exact ⟨⟨j, by omega, rfl, by rw [H1.out]; simp⟩, by simp [intOf]⟩
          · have h3 : (2 * (q : Int)) + 1 ≤ 18446744073709551615 := by simp at h1; omega
            have H1 := Lib.hid h1; clear h1 h2
            go_wp2
            exact ⟨⟨j, by omega, rfl, by rw [H1.out]; simp⟩, by simp [intOf]⟩
        · obtain rfl : k = 0 := by omega
          rw [show m / 2 ^ 0 = m by simp]
          have hm' : (m : Int) ≤ 18446744073709551615 := by have := Hm.out; omega
          have hm0 : (0 : Int) ≤ (m : Int) := by omega
          cases s
          · have hb : decide ((m : Int) < 9223372036854775808) = ok := by rw [Hok.out]; simp; omega
            have HB := Lib.hid hb; clear hb
            go_wp2
            go_ret2
            exact ⟨⟨wrap64 (m : Int), ret_pair HB.out, fun h => back_pos m (by have := HB.out; rw [h] at this; simp at this; omega)⟩, by (focus ((repeat' (first | (with_reducible exact Below.refl _ _) | (with_reducible assumption) | (with_reducible refine Below.alloc ?_ ?_ _) | (with_reducible refine Below.setCell ?_ ?_ _) | (with_reducible refine Below.row ?_ ?_ _) | (with_reducible refine Below.drew ?_) | (with_reducible refine below_drewN ?_ _) | (focus (first | (simp; done) | omega | (simp; omega))))); done))⟩
          · have hpos := Hs.out rfl
            by_cases hle : m ≤ 9223372036854775808
            · have hl2 : (m : Int) ≤ 9223372036854775808 := by omega
              have e0 := back_neg m hpos hle
              have E0 := Lib.hid e0; clear e0
              have hp1 : (1 : Int) ≤ (m : Int) := by omega
              have hk1 : ok = true := by rw [Hok.out]; simp; omega
              have HK1 := Lib.hid hk1; clear hk1
              go_wp2
              go_ret2
              exact ⟨⟨wrap64 (18446744073709551615 - (m : Int) + 1), ret_pair HK1.out.symm, fun _ => E0.out⟩, by (focus ((repeat' (first | (with_reducible exact Below.refl _ _) | (with_reducible assumption) | (with_reducible refine Below.alloc ?_ ?_ _) | (with_reducible refine Below.setCell ?_ ?_ _) | (with_reducible refine Below.row ?_ ?_ _) | (with_reducible refine Below.drew ?_) | (with_reducible refine below_drewN ?_ _) | (focus (first | (simp; done) | omega | (simp; omega))))); done))⟩
            · have hl2 : (9223372036854775808 : Int) < (m : Int) := by omega
              have hk1 : ok = false := by rw [Hok.out]; simp; omega
              have HK1 := Lib.hid hk1; clear hk1
              go_wp2
              go_ret2
              exact ⟨⟨0, ret_pair HK1.out.symm, fun h => by rw [HK1.out] at h; cases h⟩, by (focus ((repeat' (first | (with_reducible exact Below.refl _ _) | (with_reducible assumption) | (with_reducible refine Below.alloc ?_ ?_ _) | (with_reducible refine Below.setCell ?_ ?_ _) | (with_reducible refine Below.row ?_ ?_ _) | (with_reducible refine Below.drew ?_) | (with_reducible refine below_drewN ?_ _) | (focus (first | (simp; done) | omega | (simp; omega))))); done))⟩

set_option maxHeartbeats 4000000 in
set_option maxRecDepth 100000 in
theorem told_c (x : Int) (hx : x.natAbs < 2 ^ 136) (w : World) :
    Calls Try.prog 48 #[.agg (NZ x)] w fun e w' => e = .returned (.tuple #[.int .i64 (tv x), .int .i64 (te x)]) ∧ Below w.heap.size w w' := by
  by_cases hbig : 2 ^ 64 ≤ x.natAbs
  · have e1 := tv_out (x := x) (by unfold InR; omega)
    have e2 := te_out (x := x) (by unfold InR; omega)
    rw [e1, e2]
    clear e1 e2
    have hc := fun w => Back_big x.natAbs (decide (x < 0)) hx hbig w
    have Hc := Lib.hid hc; clear hc hx hbig
    unfold NZ
    go_enter Try.func48, Try.ntmps48
    go_wp2_with (first | ((with_reducible apply load83); rfl; rfl; rfl; (focus ((repeat' (first | (with_reducible assumption) | ((with_reducible refine heap_last ?_); (focus (first | (simp; done) | omega | (simp; omega)))) | ((with_reducible refine heap_prev ?_ ?_); (focus (first | (simp; done) | omega | (simp; omega)))) | (with_reducible apply sign_heap) | (with_reducible apply row_heap) | (with_reducible apply bit0_heap) | ((with_reducible refine sign_other ?_ ?_); (focus (first | (simp; done) | omega | (simp; omega)))) | ((with_reducible refine row_other ?_ ?_); (focus (first | (simp; done) | omega | (simp; omega)))) | (with_reducible refine drew_heap ?_))); done)); skip))
    ((with_reducible refine (Hc.out _).mono ?_); rintro e w1 ⟨rfl, hb1⟩)
    have hB : Below w.heap.size w w1 := Below.trans (by (focus ((repeat' (first | (with_reducible exact Below.refl _ _) | (with_reducible assumption) | (with_reducible refine Below.alloc ?_ ?_ _) | (with_reducible refine Below.setCell ?_ ?_ _) | (with_reducible refine Below.row ?_ ?_ _) | (with_reducible refine Below.drew ?_) | (with_reducible refine below_drewN ?_ _) | (focus (first | (simp; done) | omega | (simp; omega))))); done))) (hb1.mono (by simp))
    clear hb1
    go_wp2
    go_ret2
    first | exact ⟨rfl, hB⟩ | exact hB
  · obtain ⟨ok, hok⟩ : ∃ ok, ok = if decide (x < 0) then decide (x.natAbs ≤ 9223372036854775808) else decide (x.natAbs < 9223372036854775808) := ⟨_, rfl⟩
    have hc := fun w => Back_small x.natAbs (decide (x < 0)) ok (by omega) (by simp; omega) hok w
    have hin : ok = true ↔ InR x := by
      unfold InR; rw [hok]
      by_cases h : x < 0 <;> simp [h] <;> omega
    have hv : (if decide (x < 0) then -(x.natAbs : Int) else (x.natAbs : Int)) = x := by
      by_cases h : x < 0 <;> simp [h] <;> omega
    rw [hv] at hc
    have Hc := Lib.hid hc; clear hc hx hbig hok hv
    unfold NZ
    cases ok
    · have hn : ¬ InR x := fun h => by have := hin.2 h; cases this
      rw [tv_out hn, te_out hn]
      have Hin := Lib.hid hin; clear hin hn
      go_enter Try.func48, Try.ntmps48
      go_wp2_with (first | ((with_reducible apply load83); rfl; rfl; rfl; (focus ((repeat' (first | (with_reducible assumption) | ((with_reducible refine heap_last ?_); (focus (first | (simp; done) | omega | (simp; omega)))) | ((with_reducible refine heap_prev ?_ ?_); (focus (first | (simp; done) | omega | (simp; omega)))) | (with_reducible apply sign_heap) | (with_reducible apply row_heap) | (with_reducible apply bit0_heap) | ((with_reducible refine sign_other ?_ ?_); (focus (first | (simp; done) | omega | (simp; omega)))) | ((with_reducible refine row_other ?_ ?_); (focus (first | (simp; done) | omega | (simp; omega)))) | (with_reducible refine drew_heap ?_))); done)); skip))
      ((with_reducible refine (Hc.out _).mono ?_); rintro e w1 ⟨⟨v, rfl, hv⟩, hb1⟩)
      have hB : Below w.heap.size w w1 := Below.trans (by (focus ((repeat' (first | (with_reducible exact Below.refl _ _) | (with_reducible assumption) | (with_reducible refine Below.alloc ?_ ?_ _) | (with_reducible refine Below.setCell ?_ ?_ _) | (with_reducible refine Below.row ?_ ?_ _) | (with_reducible refine Below.drew ?_) | (with_reducible refine below_drewN ?_ _) | (focus (first | (simp; done) | omega | (simp; omega))))); done))) (hb1.mono (by simp))
      clear hb1 hv
      go_wp2
      go_ret2
      first | exact ⟨rfl, hB⟩ | exact hB
    · have hn : InR x := hin.1 rfl
      rw [tv_in hn, te_in hn]
      have Hin := Lib.hid hin; clear hin hn
      go_enter Try.func48, Try.ntmps48
      go_wp2_with (first | ((with_reducible apply load83); rfl; rfl; rfl; (focus ((repeat' (first | (with_reducible assumption) | ((with_reducible refine heap_last ?_); (focus (first | (simp; done) | omega | (simp; omega)))) | ((with_reducible refine heap_prev ?_ ?_); (focus (first | (simp; done) | omega | (simp; omega)))) | (with_reducible apply sign_heap) | (with_reducible apply row_heap) | (with_reducible apply bit0_heap) | ((with_reducible refine sign_other ?_ ?_); (focus (first | (simp; done) | omega | (simp; omega)))) | ((with_reducible refine row_other ?_ ?_); (focus (first | (simp; done) | omega | (simp; omega)))) | (with_reducible refine drew_heap ?_))); done)); skip))
      ((with_reducible refine (Hc.out _).mono ?_); rintro e w1 ⟨⟨v, rfl, hv⟩, hb1⟩)
      obtain rfl : v = x := hv rfl
      have hB : Below w.heap.size w w1 := Below.trans (by (focus ((repeat' (first | (with_reducible exact Below.refl _ _) | (with_reducible assumption) | (with_reducible refine Below.alloc ?_ ?_ _) | (with_reducible refine Below.setCell ?_ ?_ _) | (with_reducible refine Below.row ?_ ?_ _) | (with_reducible refine Below.drew ?_) | (with_reducible refine below_drewN ?_ _) | (focus (first | (simp; done) | omega | (simp; omega))))); done))) (hb1.mono (by simp))
      clear hb1 hv
      go_wp2
      go_ret2
      first | exact ⟨rfl, hB⟩ | exact hB
end Go.Proofs.Ytpegkojcemggaab

/- The reference's sum, difference, product; which of two products is less; a sum that goes no further. -/
namespace Go.Proofs.Ytpegkojcemggaab
open Go.RowKit

theorem Of_z (x : Int) (hx : InR x) (w : World) :
    Calls Try.prog 47 #[.int .i64 x] w fun e w' => e = .returned (.agg (NZ x)) ∧ Below w.heap.size w w' := Of_c x hx.1 hx.2 w
theorem Plus_z (x y : Int) (hx : x.natAbs < 2 ^ 135) (hy : y.natAbs < 2 ^ 135) (w : World) :
    Calls Try.prog 46 #[.agg (NZ x), .agg (NZ y)] w fun e w' => e = .returned (.agg (NZ (x + y))) ∧ Below w.heap.size w w' :=
  Plus_n x.natAbs y.natAbs (decide (x < 0)) (decide (y < 0)) (x + y).natAbs (decide (x + y < 0)) hx hy
    (by by_cases h1 : x < 0 <;> by_cases h2 : y < 0 <;> simp [h1, h2] <;> first | omega | (split <;> omega))
    (by
      by_cases h1 : x < 0 <;> by_cases h2 : y < 0 <;> simp [h1, h2]
      · by_cases h3 : x + y = 0 <;> simp [h3] <;> omega
      · by_cases h3 : x.natAbs < y.natAbs <;> by_cases h4 : x + y = 0 <;> simp [h3, h4] <;> omega
      · by_cases h3 : x.natAbs < y.natAbs <;> by_cases h4 : x + y = 0 <;> simp [h3, h4] <;> omega
      · omega) w
theorem mul_rng {x y : Int} (hx : InR x) (hy : InR y) : (x * y).natAbs ≤ 2 ^ 126 := by
  rw [Int.natAbs_mul]
  have h1 : x.natAbs ≤ 2 ^ 63 := by unfold InR at hx; omega
  have h2 : y.natAbs ≤ 2 ^ 63 := by unfold InR at hy; omega
  exact Nat.le_trans (Nat.mul_le_mul h1 h2) (by rw [← Nat.pow_add]; exact Nat.le_refl _)

end Go.Proofs.Ytpegkojcemggaab
