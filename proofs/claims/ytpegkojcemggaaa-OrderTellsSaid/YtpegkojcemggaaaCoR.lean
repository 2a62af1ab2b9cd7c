/- XRefK, XRefA, XRefB, XRefC, XRefD, XRefE, XRefF, XRefG, XRefH, XRefI, XRefJ, XRefL, in one text. (By mkmerge.py.) -/
import Derived.Test.YtpegkojcemggaaaNum
import Derived.WalkSpells
import Derived.WalkLawsBesides
import Derived.Handy
import Derived.BigQuiet
import Derived.Deep.QuietTactic
import Derived.Deep.WholeRow

/- Whole numbers (136 bits and a sign) in and out of memory. -/
namespace Go.Proofs.Ytpegkojcemggaaa
open Go.RowKit

theorem zero83 (w : World) : (zeroValue 122).run Try.prog w = .ok (.agg (NC 0 false)) w := by kernel_rfl
theorem info83 : (Try.prog.info? 122).map (·.size) = some 137 := by kernel_rfl
theorem info83' (m : Nat) (s : Bool) : (Try.prog.info? 122).map (·.size) = some (NC m s).size := by rw [info83, NC_size]
theorem setRow_last {w : World} {n : Nat} {c c' : Array Value} {t : TypeId} (h : n = w.heap.size) : (w.alloc (.cells c t)).setRow n c' = w.alloc (.cells c' t) := by
  subst h; exact World.setRow_alloc_new w c c' t
theorem setRow_prev {w : World} {n : Nat} {c' : Array Value} {o : Obj} (h : n < w.heap.size) : (w.alloc o).setRow n c' = (w.setRow n c').alloc o := by
  simp only [World.setRow, World.alloc]
  congr 1
  apply Array.ext_getElem?
  intro i
  simp only [Array.getElem?_modify, Array.getElem?_push, Array.size_modify]
  by_cases h1 : n = i
  · subst h1; simp [show ¬ n = w.heap.size by omega]
  · simp [h1]

theorem sign_heap {w : World} {g m : Nat} {s r : Bool} {t : TypeId} (h : w.heap[g]? = some (.cells (NC m s) t (0, 0))) : (w.setCell ⟨g, 136, none⟩ (.bool r)).heap[g]? = some (.cells (NC m r) t (0, 0)) := by
  rw [heap_setCell_same _ _ _ _ _ _ h, NC_setSign]
theorem bit0_heap {w : World} {g m : Nat} {s v : Bool} {t : TypeId} (h : w.heap[g]? = some (.cells (NC (2 * m) s) t (0, 0))) : (w.setCell ⟨g, 0, none⟩ (.bool v)).heap[g]? = some (.cells (NC (2 * m + if v then 1 else 0) s) t (0, 0)) := by
  rw [heap_setCell_same _ _ _ _ _ _ h, setBit0]
theorem sign_other {w : World} {g : Nat} {a : Addr} {v : Value} {p : Obj} (hne : g ≠ a.block) (h : w.heap[g]? = some p) : (w.setCell a v).heap[g]? = some p := by
  rw [heap_setCell_other _ _ _ _ hne]; exact h
theorem row_heap {w : World} {g : Nat} {c c' : Array Value} {t : TypeId} (h : w.heap[g]? = some (.cells c t (0, 0))) : (w.setRow g c').heap[g]? = some (.cells c' t (0, 0)) := setRow_heap w g c c' t _ h
theorem row_other {w : World} {g k : Nat} {c' : Array Value} {p : Obj} (hne : k ≠ g) (h : w.heap[k]? = some p) : (w.setRow g c').heap[k]? = some p := by rw [setRow_other w g k c' hne]; exact h
theorem Below.row {B g : Nat} {w0 w : World} (hb : Below B w0 w) (hBg : B ≤ g) (cs : Array Value) : Below B w0 (w.setRow g cs) :=
  hb.trans ⟨rfl, rfl, rfl, by simp [World.setRow], fun k hk => setRow_other w g k cs (by omega)⟩
theorem heap_at (w : World) (o : Obj) (n : Nat) : (w.alloc o).heap[n]? = if n = w.heap.size then some o else w.heap[n]? := by
  show (w.heap.push o)[n]? = _
  rw [Array.getElem?_push]
section
variable {ops : Array Oper} {rest : List Oper} {o : Oper} {a : Act} {w : World} {Q : Exit → Act → World → Prop}
theorem load83 (hgd : Region.wanted o (yielded ops a.tmps) = true) (x : Operand) (ho : o.op = .load 122 x) (g : Nat) (hx : a.eval x = .pointer (some ⟨g, 0, none⟩)) (m : Nat) (s : Bool)
    (hg : w.heap[g]? = some (.cells (NC m s) 122 (0, 0))) (h : wpList Try.prog ops Q rest (a.put o.dst (.agg (NC m s))) w) : wpList Try.prog ops Q (o :: rest) a w :=
  BigFrame.wpList_want hgd fun _ hK => wp_load_row _ x ho g hx _ _ (0, 0) _ hg Try.underlying122 rfl (info83' m s) (hK _ _ h)
theorem store83 (hgd : Region.wanted o (yielded ops a.tmps) = true) (x y : Operand) (ho : o.op = .store 122 x y) (g : Nat) (m : Nat) (s : Bool) (hx : a.eval x = .pointer (some ⟨g, 0, none⟩)) (hy : a.eval y = .agg (NC m s)) (m' : Nat) (s' : Bool)
    (hg : w.heap[g]? = some (.cells (NC m' s') 122 (0, 0))) (h : wpList Try.prog ops Q rest (a.put o.dst undef) (w.setRow g (NC m s))) : wpList Try.prog ops Q (o :: rest) a w :=
  BigFrame.wpList_want hgd fun _ hK => wp_store_row _ x y ho g _ hx hy _ _ hg (info83' m s) (by rw [NC_size, NC_size]) (NC_one m s) (hK _ _ h)
theorem store83_0 {w0 : World} (hgd : Region.wanted o (yielded ops a.tmps) = true) (x y : Operand) (ho : o.op = .store 122 x y) (g : Nat) (m : Nat) (s : Bool) (hx : a.eval x = .pointer (some ⟨g, 0, none⟩)) (hy : a.eval y = .agg (NC m s)) (m' : Nat) (s' : Bool)
    (hg : g = w0.heap.size) (h : wpList Try.prog ops Q rest (a.put o.dst undef) (w0.alloc (.cells (NC m s) 122))) : wpList Try.prog ops Q (o :: rest) a (w0.alloc (.cells (NC m' s') 122)) := by
  subst hg
  refine store83 hgd x y ho _ m s hx hy m' s' (heap_last rfl) ?_
  rw [setRow_last rfl]
  exact h
theorem store83_1 {w0 : World} {p1 : Obj} (hgd : Region.wanted o (yielded ops a.tmps) = true) (x y : Operand) (ho : o.op = .store 122 x y) (g : Nat) (m : Nat) (s : Bool) (hx : a.eval x = .pointer (some ⟨g, 0, none⟩)) (hy : a.eval y = .agg (NC m s)) (m' : Nat) (s' : Bool)
    (hg : g = w0.heap.size) (h : wpList Try.prog ops Q rest (a.put o.dst undef) ((w0.alloc (.cells (NC m s) 122)).alloc p1)) : wpList Try.prog ops Q (o :: rest) a ((w0.alloc (.cells (NC m' s') 122)).alloc p1) := by
  subst hg
  refine store83 hgd x y ho _ m s hx hy m' s' (heap_prev (by simp only [World.size_alloc]; omega) (heap_last rfl)) ?_
  rw [setRow_prev (by simp only [World.size_alloc]; omega), setRow_last rfl]
  exact h
theorem store83_2 {w0 : World} {p1 p2 : Obj} (hgd : Region.wanted o (yielded ops a.tmps) = true) (x y : Operand) (ho : o.op = .store 122 x y) (g : Nat) (m : Nat) (s : Bool) (hx : a.eval x = .pointer (some ⟨g, 0, none⟩)) (hy : a.eval y = .agg (NC m s)) (m' : Nat) (s' : Bool)
    (hg : g = w0.heap.size) (h : wpList Try.prog ops Q rest (a.put o.dst undef) (((w0.alloc (.cells (NC m s) 122)).alloc p1).alloc p2)) : wpList Try.prog ops Q (o :: rest) a (((w0.alloc (.cells (NC m' s') 122)).alloc p1).alloc p2) := by
  subst hg
  refine store83 hgd x y ho _ m s hx hy m' s' (heap_prev (by simp only [World.size_alloc]; omega) (heap_prev (by simp only [World.size_alloc]; omega) (heap_last rfl))) ?_
  rw [setRow_prev (by simp only [World.size_alloc]; omega), setRow_prev (by simp only [World.size_alloc]; omega), setRow_last rfl]
  exact h
theorem store83_3 {w0 : World} {p1 p2 p3 : Obj} (hgd : Region.wanted o (yielded ops a.tmps) = true) (x y : Operand) (ho : o.op = .store 122 x y) (g : Nat) (m : Nat) (s : Bool) (hx : a.eval x = .pointer (some ⟨g, 0, none⟩)) (hy : a.eval y = .agg (NC m s)) (m' : Nat) (s' : Bool)
    (hg : g = w0.heap.size) (h : wpList Try.prog ops Q rest (a.put o.dst undef) ((((w0.alloc (.cells (NC m s) 122)).alloc p1).alloc p2).alloc p3)) : wpList Try.prog ops Q (o :: rest) a ((((w0.alloc (.cells (NC m' s') 122)).alloc p1).alloc p2).alloc p3) := by
  subst hg
  refine store83 hgd x y ho _ m s hx hy m' s' (heap_prev (by simp only [World.size_alloc]; omega) (heap_prev (by simp only [World.size_alloc]; omega) (heap_prev (by simp only [World.size_alloc]; omega) (heap_last rfl)))) ?_
  rw [setRow_prev (by simp only [World.size_alloc]; omega), setRow_prev (by simp only [World.size_alloc]; omega), setRow_prev (by simp only [World.size_alloc]; omega), setRow_last rfl]
  exact h
theorem store83_4 {w0 : World} {p1 p2 p3 p4 : Obj} (hgd : Region.wanted o (yielded ops a.tmps) = true) (x y : Operand) (ho : o.op = .store 122 x y) (g : Nat) (m : Nat) (s : Bool) (hx : a.eval x = .pointer (some ⟨g, 0, none⟩)) (hy : a.eval y = .agg (NC m s)) (m' : Nat) (s' : Bool)
    (hg : g = w0.heap.size) (h : wpList Try.prog ops Q rest (a.put o.dst undef) (((((w0.alloc (.cells (NC m s) 122)).alloc p1).alloc p2).alloc p3).alloc p4)) : wpList Try.prog ops Q (o :: rest) a (((((w0.alloc (.cells (NC m' s') 122)).alloc p1).alloc p2).alloc p3).alloc p4) := by
  subst hg
  refine store83 hgd x y ho _ m s hx hy m' s' (heap_prev (by simp only [World.size_alloc]; omega) (heap_prev (by simp only [World.size_alloc]; omega) (heap_prev (by simp only [World.size_alloc]; omega) (heap_prev (by simp only [World.size_alloc]; omega) (heap_last rfl))))) ?_
  rw [setRow_prev (by simp only [World.size_alloc]; omega), setRow_prev (by simp only [World.size_alloc]; omega), setRow_prev (by simp only [World.size_alloc]; omega), setRow_prev (by simp only [World.size_alloc]; omega), setRow_last rfl]
  exact h
theorem any_load83 {K : Act → World → Prop} {E : Prop} (hgd : Region.wanted o (yielded ops a.tmps) = true) (x : Operand) (ho : o.op = .load 122 x) (g : Nat) (hx : a.eval x = .pointer (some ⟨g, 0, none⟩)) (m : Nat) (s : Bool)
    (hg : w.heap[g]? = some (.cells (NC m s) 122 (0, 0))) (h : K (a.put o.dst (.agg (NC m s))) w) : if Region.wanted o (yielded ops a.tmps) = true then Oper.wp Try.prog o a w K Q else E := by
  rw [if_pos hgd]
  exact wp_load_row _ x ho g hx _ _ (0, 0) _ hg Try.underlying122 rfl (info83' m s) h
theorem any_store83 {K : Act → World → Prop} {E : Prop} (hgd : Region.wanted o (yielded ops a.tmps) = true) (x y : Operand) (ho : o.op = .store 122 x y) (g : Nat) (m : Nat) (s : Bool) (hx : a.eval x = .pointer (some ⟨g, 0, none⟩)) (hy : a.eval y = .agg (NC m s)) (m' : Nat) (s' : Bool)
    (hg : w.heap[g]? = some (.cells (NC m' s') 122 (0, 0))) (h : K (a.put o.dst undef) (w.setRow g (NC m s))) : if Region.wanted o (yielded ops a.tmps) = true then Oper.wp Try.prog o a w K Q else E := by
  rw [if_pos hgd]
  exact wp_store_row _ x y ho g _ hx hy _ _ hg (info83' m s) (by rw [NC_size, NC_size]) (NC_one m s) h
theorem ret83_two {fn : Func} {p q : Tmp} (h : fn.results = #[.cell p 122, .cell q 122]) (tmps : Array Value) (w : World) (g g' : Nat) (hp : tmps.getD p undef = .pointer (some ⟨g, 0, none⟩)) (hq : tmps.getD q undef = .pointer (some ⟨g', 0, none⟩)) (m m' : Nat) (s s' : Bool)
    (hg : w.heap[g]? = some (.cells (NC m s) 122 (0, 0))) (hg' : w.heap[g']? = some (.cells (NC m' s') 122 (0, 0))) : (results fn tmps).run Try.prog w = .ok (.tuple #[.agg (NC m s), .agg (NC m' s')]) w := by
  have hp' : tmps[p]?.getD undef = .pointer (some ⟨g, 0, none⟩) := by simpa using hp
  have hq' : tmps[q]?.getD undef = .pointer (some ⟨g', 0, none⟩) := by simpa using hq
  simp [results, h, hp', hq', asAddr, run_loadVar_row w g _ _ _ (0, 0) _ hg Try.underlying122 rfl (info83' m s), run_loadVar_row w g' _ _ _ (0, 0) _ hg' Try.underlying122 rfl (info83' m' s')]
theorem ret83 {fn : Func} {p : Tmp} (h : fn.results = #[.cell p 122]) (tmps : Array Value) (w : World) (g : Nat) (hp : tmps.getD p undef = .pointer (some ⟨g, 0, none⟩)) (m : Nat) (s : Bool)
    (hg : w.heap[g]? = some (.cells (NC m s) 122 (0, 0))) : (results fn tmps).run Try.prog w = .ok (.agg (NC m s)) w :=
  results_cell_row h tmps w g _ _ (0, 0) _ hp hg Try.underlying122 rfl (info83' m s)
end
end Go.Proofs.Ytpegkojcemggaaa

/- The sum of two rows of bits. -/
namespace Go.Proofs.Ytpegkojcemggaaa
open Go.RowKit

set_option maxHeartbeats 4000000 in
set_option maxRecDepth 100000 in
theorem more_c (a b : Nat) (s t : Bool) (w : World) :
    Calls Try.prog 98 #[.agg (NC a s), .agg (NC b t)] w fun e w' => e = .returned (.agg (NC (a + b) false)) ∧ Below w.heap.size w w' := by
  have hz := zero83
  go_enter Try.func98, Try.ntmps98
  go_wp2
  go_loopw [6, 7] (fun c i wr => ∃ k : Nat, k ≤ 136 ∧ i = .int .i64 k ∧ c = .bool (carry a b k) ∧
      wr = (((w.alloc (.cells (NC a s) 122)).alloc (.cells (NC b t) 122)).alloc (.cells (NC 0 false) 122)).alloc (.cells (NCf (below (a + b).testBit k) false) 122)) (fun _ i _ => 136 - (intOf i).toNat)
  case atStart => exact ⟨0, by omega, rfl, by rw [carry_zero], by rw [NCf_below_zero]⟩
  case round =>
    obtain ⟨k, hk, rfl, rfl, rfl⟩ := hrel
    by_cases hlt : k < 136
    · have ⟨h1, h2⟩ := add_step a b k
      have g1 := NC_get a s k hlt
      have g2 := NC_get b t k hlt
      generalize a.testBit k = x at *
      generalize b.testBit k = y at *
      generalize carry a b k = z at *
      have H1 := Lib.hid h1; clear h1
      have H2 := Lib.hid h2; clear h2
      have g3 := NCf_get (below (a + b).testBit k) false k hlt
      cases x <;> cases y <;> cases z
      all_goals
        go_wp2
        exact ⟨⟨k + 1, by omega, by go_num, by rw [H2.out]; rfl, by rw [NCf_below_set _ _ _ _ hlt (by rw [H1.out]; rfl)]⟩, by simp [intOf]; omega⟩
    · obtain rfl : k = 136 := by omega
      rw [NCf_below_all]
      go_wp2_with (first | ((with_reducible apply load83); rfl; rfl; rfl; (focus ((repeat' (first | (with_reducible assumption) | ((with_reducible refine heap_last ?_); (focus (first | (simp; done) | omega | (simp; omega)))) | ((with_reducible refine heap_prev ?_ ?_); (focus (first | (simp; done) | omega | (simp; omega)))) | (with_reducible apply sign_heap) | (with_reducible apply row_heap) | (with_reducible apply bit0_heap) | ((with_reducible refine sign_other ?_ ?_); (focus (first | (simp; done) | omega | (simp; omega)))) | ((with_reducible refine row_other ?_ ?_); (focus (first | (simp; done) | omega | (simp; omega)))) | (with_reducible refine drew_heap ?_))); done)); skip) | (first | ((with_reducible apply store83_0); rfl; rfl; rfl; rfl; (focus (simp; done)); skip) | ((with_reducible apply store83_1); rfl; rfl; rfl; rfl; (focus (simp; done)); skip) | ((with_reducible apply store83_2); rfl; rfl; rfl; rfl; (focus (simp; done)); skip) | ((with_reducible apply store83_3); rfl; rfl; rfl; rfl; (focus (simp; done)); skip) | ((with_reducible apply store83_4); rfl; rfl; rfl; rfl; (focus (simp; done)); skip)) | ((with_reducible apply bodyPost_ret); (apply ret83; rfl; rfl; (focus ((repeat' (first | (with_reducible assumption) | ((with_reducible refine heap_last ?_); (focus (first | (simp; done) | omega | (simp; omega)))) | ((with_reducible refine heap_prev ?_ ?_); (focus (first | (simp; done) | omega | (simp; omega)))) | (with_reducible apply sign_heap) | (with_reducible apply row_heap) | (with_reducible apply bit0_heap) | ((with_reducible refine sign_other ?_ ?_); (focus (first | (simp; done) | omega | (simp; omega)))) | ((with_reducible refine row_other ?_ ?_); (focus (first | (simp; done) | omega | (simp; omega)))) | (with_reducible refine drew_heap ?_))); done))); rfl; skip))
      go_grown
end Go.Proofs.Ytpegkojcemggaaa

/- The difference of two rows of bits. -/
namespace Go.Proofs.Ytpegkojcemggaaa
open Go.RowKit

end Go.Proofs.Ytpegkojcemggaaa

/- Whether a row of bits is 0; which of two is less; one place up. -/
namespace Go.Proofs.Ytpegkojcemggaaa
open Go.RowKit

set_option maxHeartbeats 4000000 in
set_option maxRecDepth 100000 in
theorem nought_c (m : Nat) (s : Bool) (b : Bool) (hm : m < 2 ^ 136) (hb : b = decide (m = 0)) (w : World) :
    Calls Try.prog 100 #[.agg (NC m s)] w fun e w' => e = .returned (.bool b) ∧ Below w.heap.size w w' := by
  have hz0 := zero_of_bits m hm
  have Hm := Lib.hid hm; clear hm
  have Hb := Lib.hid hb; clear hb
  have Hz := Lib.hid hz0; clear hz0
  go_enter Try.func100, Try.ntmps100
  go_wp2
  go_loop [3] (fun i => ∃ k : Nat, k ≤ 136 ∧ i = .int .i64 k ∧ (∀ j, j < k → m.testBit j = false)) (fun i => 136 - (intOf i).toNat)
  case atStart => exact ⟨0, by omega, rfl, by omega⟩
  case round =>
    obtain ⟨k, hk, rfl, hf⟩ := hrel
    have Hf := Lib.hid hf; clear hf
    by_cases hlt : k < 136
    · have g1 := NC_get m s k hlt
      obtain ⟨x, hx⟩ : ∃ x, x = m.testBit k := ⟨_, rfl⟩
      rw [← hx] at g1
      have Hx := Lib.hid hx; clear hx
      cases x
      · go_wp2
        refine ⟨⟨k + 1, by omega, by go_num, fun j hj => ?_⟩, by simp [intOf]; omega⟩
        by_cases e : j = k
        · subst e; exact Hx.out.symm
        · exact Hf.out j (by omega)
      · go_wp2
        go_ret
        refine ⟨ret_bool ?_, by go_grown⟩
        rw [Hb.out]
        refine (decide_eq_false ?_).symm
        intro h0
        have := (Hz.out.1 h0) k hlt
        rw [← Hx.out] at this
        cases this
    · obtain rfl : k = 136 := by omega
      go_wp2
      go_ret
      refine ⟨ret_bool ?_, by go_grown⟩
      rw [Hb.out]
      exact (decide_eq_true (Hz.out.2 Hf.out)).symm
end Go.Proofs.Ytpegkojcemggaaa

/- A number of 64 bits as a row of bits. -/
namespace Go.Proofs.Ytpegkojcemggaaa
open Go.RowKit

theorem abs_lt (x : Int) (h0 : -9223372036854775808 ≤ x) (h1 : x ≤ 9223372036854775807) : x.natAbs < 2 ^ 64 := by omega
set_option maxHeartbeats 4000000 in
set_option maxRecDepth 100000 in
theorem Of_c (x : Int) (h0 : -9223372036854775808 ≤ x) (h1 : x ≤ 9223372036854775807) (w : World) :
    Calls Try.prog 76 #[.int .i64 x] w fun e w' => e = .returned (.agg (NC x.natAbs (decide (x < 0)))) ∧ Below w.heap.size w w' := by
  have hz := zero83
  have ha := abs_lt x h0 h1
  have Ha := Lib.hid ha; clear ha
  have g1 := NC_sign 0 false
  have g2 := NC_setSign 0 false true
  have g3 := NC_setSign 0 false false
  obtain ⟨m, hm⟩ : ∃ m, m = x.natAbs := ⟨_, rfl⟩
  rw [← hm]
  by_cases hneg : x < 0
  · have hd : decide (x < 0) = true := decide_eq_true hneg
    have g4 := NC_sign 0 true
    rw [hd]
    have Hst : Hid (IntKind.u64.wrap (IntKind.u64.wrap (18446744073709551615 - IntKind.u64.wrap x) + 1) = ((m / 2 ^ 0 : Nat) : Int)) := by
      show _ = _
      simp only [IntKind.wrap_u64]; omega
    have Hm := Lib.hid hm; clear hm
    go_enter Try.func76, Try.ntmps76
    go_wp2
    go_loopw [4, 5] (fun u i wr => ∃ k : Nat, k ≤ 64 ∧ i = .int .i64 k ∧ u = .int .u64 ((m / 2 ^ k : Nat) : Int) ∧
      wr = (w.alloc (.cells (NC 0 false) 122)).alloc (.cells (NCf (below m.testBit k) true) 122)) (fun _ i _ => 64 - (intOf i).toNat)
    case atStart => exact ⟨0, by omega, rfl, by rw [Hst.out], by rw [NCf_below_zero]⟩
    case round => 
      obtain ⟨k, hk, rfl, rfl, rfl⟩ := hrel
      by_cases hlt : k < 64
      · have g5 := NCf_get (below m.testBit k) true k (by omega)
        have h1 := bit_eq m k
        have h2 := div_succ m k
        have hb : m / 2 ^ k ≤ 18446744073709551615 := Nat.le_trans (Nat.div_le_self _ _) (by have := Ha.out; have := Hm.out; omega)
        have H1 := Lib.hid h1; clear h1
        have H2 := Lib.hid h2; clear h2
        generalize m / 2 ^ k = q at *
        rcases Nat.mod_two_eq_zero_or_one q with e | e
        · have e1 : ((q : Int) % 2 == 1) = false := by simp; omega
          have E := Lib.hid e; clear e
          go_wp2
          exact ⟨⟨k + 1, by omega, by go_num, by rw [H2.out]; simp, by rw [NCf_below_set _ _ _ _ (by omega) (by rw [H1.out]; simp [E.out])]⟩, by simp [intOf]; omega⟩
        · have e1 : ((q : Int) % 2 == 1) = true := by simp; omega
          have E := Lib.hid e; clear e
          go_wp2
          exact ⟨⟨k + 1, by omega, by go_num, by rw [H2.out]; simp, by rw [NCf_below_set _ _ _ _ (by omega) (by rw [H1.out]; simp [E.out])]⟩, by simp [intOf]; omega⟩
      · obtain rfl : k = 64 := by omega
        rw [of_all _ _ (by have := Ha.out; have := Hm.out; omega)]
        go_wp2_with (first | ((with_reducible apply load83); rfl; rfl; rfl; (focus ((repeat' (first | (with_reducible assumption) | ((with_reducible refine heap_last ?_); (focus (first | (simp; done) | omega | (simp; omega)))) | ((with_reducible refine heap_prev ?_ ?_); (focus (first | (simp; done) | omega | (simp; omega)))) | (with_reducible apply sign_heap) | (with_reducible apply row_heap) | (with_reducible apply bit0_heap) | ((with_reducible refine sign_other ?_ ?_); (focus (first | (simp; done) | omega | (simp; omega)))) | ((with_reducible refine row_other ?_ ?_); (focus (first | (simp; done) | omega | (simp; omega)))) | (with_reducible refine drew_heap ?_))); done)); skip) | (first | ((with_reducible apply store83_0); rfl; rfl; rfl; rfl; (focus (simp; done)); skip) | ((with_reducible apply store83_1); rfl; rfl; rfl; rfl; (focus (simp; done)); skip) | ((with_reducible apply store83_2); rfl; rfl; rfl; rfl; (focus (simp; done)); skip) | ((with_reducible apply store83_3); rfl; rfl; rfl; rfl; (focus (simp; done)); skip) | ((with_reducible apply store83_4); rfl; rfl; rfl; rfl; (focus (simp; done)); skip)) | ((with_reducible apply bodyPost_ret); (apply ret83; rfl; rfl; (focus ((repeat' (first | (with_reducible assumption) | ((with_reducible refine heap_last ?_); (focus (first | (simp; done) | omega | (simp; omega)))) | ((with_reducible refine heap_prev ?_ ?_); (focus (first | (simp; done) | omega | (simp; omega)))) | (with_reducible apply sign_heap) | (with_reducible apply row_heap) | (with_reducible apply bit0_heap) | ((with_reducible refine sign_other ?_ ?_); (focus (first | (simp; done) | omega | (simp; omega)))) | ((with_reducible refine row_other ?_ ?_); (focus (first | (simp; done) | omega | (simp; omega)))) | (with_reducible refine drew_heap ?_))); done))); rfl; skip))
        go_grown
  · have hd : decide (x < 0) = false := decide_eq_false hneg
    rw [hd]
    have Hst : Hid (x = ((m / 2 ^ 0 : Nat) : Int)) := by
      show _ = _
      omega
    have Hm := Lib.hid hm; clear hm
    go_enter Try.func76, Try.ntmps76
    go_wp2
    go_loopw [4, 5] (fun u i wr => ∃ k : Nat, k ≤ 64 ∧ i = .int .i64 k ∧ u = .int .u64 ((m / 2 ^ k : Nat) : Int) ∧
      wr = (w.alloc (.cells (NC 0 false) 122)).alloc (.cells (NCf (below m.testBit k) false) 122)) (fun _ i _ => 64 - (intOf i).toNat)
    case atStart => exact ⟨0, by omega, rfl, by rw [← Hst.out], by rw [NCf_below_zero]⟩
    case round => 
      obtain ⟨k, hk, rfl, rfl, rfl⟩ := hrel
      by_cases hlt : k < 64
      · have g5 := NCf_get (below m.testBit k) false k (by omega)
        have h1 := bit_eq m k
        have h2 := div_succ m k
        have hb : m / 2 ^ k ≤ 18446744073709551615 := Nat.le_trans (Nat.div_le_self _ _) (by have := Ha.out; have := Hm.out; omega)
        have H1 := Lib.hid h1; clear h1
        have H2 := Lib.hid h2; clear h2
        generalize m / 2 ^ k = q at *
        rcases Nat.mod_two_eq_zero_or_one q with e | e
        · have e1 : ((q : Int) % 2 == 1) = false := by simp; omega
          have E := Lib.hid e; clear e
          go_wp2
          exact ⟨⟨k + 1, by omega, by go_num, by rw [H2.out]; simp, by rw [NCf_below_set _ _ _ _ (by omega) (by rw [H1.out]; simp [E.out])]⟩, by simp [intOf]; omega⟩
        · have e1 : ((q : Int) % 2 == 1) = true := by simp; omega
          have E := Lib.hid e; clear e
          go_wp2
          exact ⟨⟨k + 1, by omega, by go_num, by rw [H2.out]; simp, by rw [NCf_below_set _ _ _ _ (by omega) (by rw [H1.out]; simp [E.out])]⟩, by simp [intOf]; omega⟩
      · obtain rfl : k = 64 := by omega
        rw [of_all _ _ (by have := Ha.out; have := Hm.out; omega)]
        go_wp2_with (first | ((with_reducible apply load83); rfl; rfl; rfl; (focus ((repeat' (first | (with_reducible assumption) | ((with_reducible refine heap_last ?_); (focus (first | (simp; done) | omega | (simp; omega)))) | ((with_reducible refine heap_prev ?_ ?_); (focus (first | (simp; done) | omega | (simp; omega)))) | (with_reducible apply sign_heap) | (with_reducible apply row_heap) | (with_reducible apply bit0_heap) | ((with_reducible refine sign_other ?_ ?_); (focus (first | (simp; done) | omega | (simp; omega)))) | ((with_reducible refine row_other ?_ ?_); (focus (first | (simp; done) | omega | (simp; omega)))) | (with_reducible refine drew_heap ?_))); done)); skip) | (first | ((with_reducible apply store83_0); rfl; rfl; rfl; rfl; (focus (simp; done)); skip) | ((with_reducible apply store83_1); rfl; rfl; rfl; rfl; (focus (simp; done)); skip) | ((with_reducible apply store83_2); rfl; rfl; rfl; rfl; (focus (simp; done)); skip) | ((with_reducible apply store83_3); rfl; rfl; rfl; rfl; (focus (simp; done)); skip) | ((with_reducible apply store83_4); rfl; rfl; rfl; rfl; (focus (simp; done)); skip)) | ((with_reducible apply bodyPost_ret); (apply ret83; rfl; rfl; (focus ((repeat' (first | (with_reducible assumption) | ((with_reducible refine heap_last ?_); (focus (first | (simp; done) | omega | (simp; omega)))) | ((with_reducible refine heap_prev ?_ ?_); (focus (first | (simp; done) | omega | (simp; omega)))) | (with_reducible apply sign_heap) | (with_reducible apply row_heap) | (with_reducible apply bit0_heap) | ((with_reducible refine sign_other ?_ ?_); (focus (first | (simp; done) | omega | (simp; omega)))) | ((with_reducible refine row_other ?_ ?_); (focus (first | (simp; done) | omega | (simp; omega)))) | (with_reducible refine drew_heap ?_))); done))); rfl; skip))
        go_grown
end Go.Proofs.Ytpegkojcemggaaa

/- Whether a row of bits is 0; which of two is less; one place up. -/
namespace Go.Proofs.Ytpegkojcemggaaa
open Go.RowKit

end Go.Proofs.Ytpegkojcemggaaa

/- Whether a row of bits is 0; which of two is less; one place up. -/
namespace Go.Proofs.Ytpegkojcemggaaa
open Go.RowKit

set_option maxHeartbeats 4000000 in
set_option maxRecDepth 100000 in
theorem twice_c (m : Nat) (s : Bool) (w : World) :
    Calls Try.prog 99 #[.agg (NC m s)] w fun e w' => e = .returned (.agg (NC (2 * m) s)) ∧ Below w.heap.size w w' := by
  have hz := zero83
  go_enter Try.func99, Try.ntmps99
  go_wp2_with (first | ((with_reducible apply load83); rfl; rfl; rfl; (focus ((repeat' (first | (with_reducible assumption) | ((with_reducible refine heap_last ?_); (focus (first | (simp; done) | omega | (simp; omega)))) | ((with_reducible refine heap_prev ?_ ?_); (focus (first | (simp; done) | omega | (simp; omega)))) | (with_reducible apply sign_heap) | (with_reducible apply row_heap) | (with_reducible apply bit0_heap) | ((with_reducible refine sign_other ?_ ?_); (focus (first | (simp; done) | omega | (simp; omega)))) | ((with_reducible refine row_other ?_ ?_); (focus (first | (simp; done) | omega | (simp; omega)))) | (with_reducible refine drew_heap ?_))); done)); skip) | (first | ((with_reducible apply store83_0); rfl; rfl; rfl; rfl; (focus (simp; done)); skip) | ((with_reducible apply store83_1); rfl; rfl; rfl; rfl; (focus (simp; done)); skip) | ((with_reducible apply store83_2); rfl; rfl; rfl; rfl; (focus (simp; done)); skip) | ((with_reducible apply store83_3); rfl; rfl; rfl; rfl; (focus (simp; done)); skip) | ((with_reducible apply store83_4); rfl; rfl; rfl; rfl; (focus (simp; done)); skip)) | ((with_reducible apply bodyPost_ret); (apply ret83; rfl; rfl; (focus ((repeat' (first | (with_reducible assumption) | ((with_reducible refine heap_last ?_); (focus (first | (simp; done) | omega | (simp; omega)))) | ((with_reducible refine heap_prev ?_ ?_); (focus (first | (simp; done) | omega | (simp; omega)))) | (with_reducible apply sign_heap) | (with_reducible apply row_heap) | (with_reducible apply bit0_heap) | ((with_reducible refine sign_other ?_ ?_); (focus (first | (simp; done) | omega | (simp; omega)))) | ((with_reducible refine row_other ?_ ?_); (focus (first | (simp; done) | omega | (simp; omega)))) | (with_reducible refine drew_heap ?_))); done))); rfl; skip))
  go_loopw [4] (fun i wr => ∃ k : Nat, k ≤ 135 ∧ i = .int .i64 k ∧
      wr = ((w.alloc (.cells (NC m s) 122)).alloc (.cells (NC 0 false) 122)).alloc (.cells (NCf (up m.testBit k) s) 122)) (fun i _ => (intOf i).toNat)
  case atStart => exact ⟨135, by omega, rfl, by rw [up_start]⟩
  case round =>
    obtain ⟨k, hk, rfl, rfl⟩ := hrel
    by_cases hlt : 0 < k
    · obtain ⟨j, rfl⟩ : ∃ j, k = j + 1 := ⟨k - 1, by omega⟩
      have g1 := NC_get m s j (by omega)
      have g3 := NCf_get (up m.testBit (j + 1)) s (j + 1) (by omega)
      have q0 : (0 : Int) ≤ (j : Int) := by omega
      have q1 : (j : Int) < 135 := by omega
      go_wp2
      exact ⟨⟨j, by omega, rfl, by rw [up_set _ _ _ (by omega) _ rfl]⟩, by simp [intOf]⟩
    · obtain rfl : k = 0 := by omega
      have g3 := NCf_get (up m.testBit 0) s 0 (by omega)
      have he := up_end m s
      go_wp2_with (first | ((with_reducible apply load83); rfl; rfl; rfl; (focus ((repeat' (first | (with_reducible assumption) | ((with_reducible refine heap_last ?_); (focus (first | (simp; done) | omega | (simp; omega)))) | ((with_reducible refine heap_prev ?_ ?_); (focus (first | (simp; done) | omega | (simp; omega)))) | (with_reducible apply sign_heap) | (with_reducible apply row_heap) | (with_reducible apply bit0_heap) | ((with_reducible refine sign_other ?_ ?_); (focus (first | (simp; done) | omega | (simp; omega)))) | ((with_reducible refine row_other ?_ ?_); (focus (first | (simp; done) | omega | (simp; omega)))) | (with_reducible refine drew_heap ?_))); done)); skip) | (first | ((with_reducible apply store83_0); rfl; rfl; rfl; rfl; (focus (simp; done)); skip) | ((with_reducible apply store83_1); rfl; rfl; rfl; rfl; (focus (simp; done)); skip) | ((with_reducible apply store83_2); rfl; rfl; rfl; rfl; (focus (simp; done)); skip) | ((with_reducible apply store83_3); rfl; rfl; rfl; rfl; (focus (simp; done)); skip) | ((with_reducible apply store83_4); rfl; rfl; rfl; rfl; (focus (simp; done)); skip)) | ((with_reducible apply bodyPost_ret); (apply ret83; rfl; rfl; (focus ((repeat' (first | (with_reducible assumption) | ((with_reducible refine heap_last ?_); (focus (first | (simp; done) | omega | (simp; omega)))) | ((with_reducible refine heap_prev ?_ ?_); (focus (first | (simp; done) | omega | (simp; omega)))) | (with_reducible apply sign_heap) | (with_reducible apply row_heap) | (with_reducible apply bit0_heap) | ((with_reducible refine sign_other ?_ ?_); (focus (first | (simp; done) | omega | (simp; omega)))) | ((with_reducible refine row_other ?_ ?_); (focus (first | (simp; done) | omega | (simp; omega)))) | (with_reducible refine drew_heap ?_))); done))); rfl; skip))
      go_grown
end Go.Proofs.Ytpegkojcemggaaa

/- The other sign; both together. -/
namespace Go.Proofs.Ytpegkojcemggaaa
open Go.RowKit

/-- A whole number as a row of bits and a sign. -/
def NZ (x : Int) : Array Value := NC x.natAbs (decide (x < 0))
end Go.Proofs.Ytpegkojcemggaaa

/- The product. -/
namespace Go.Proofs.Ytpegkojcemggaaa
open Go.RowKit

theorem mod_low (a b k : Nat) : a * (b % 2 ^ (k + 1)) = a * (b % 2 ^ k) + (if b.testBit k then a * 2 ^ k else 0) := by
  rw [low_succ, Nat.mul_add]
  cases b.testBit k <;> simp

set_option maxHeartbeats 4000000 in
set_option maxRecDepth 100000 in
theorem Times_n (a b : Nat) (s t : Bool) (m : Nat) (r : Bool) (ha : a < 2 ^ 64) (hb : b < 2 ^ 64)
    (hm : m = a * b) (hr : r = ((s != t) && !decide (m = 0))) (w : World) :
    Calls Try.prog 75 #[.agg (NC a s), .agg (NC b t)] w fun e w' => e = .returned (.agg (NC m r)) ∧ Below w.heap.size w w' := by
  have hz := zero83
  have g1 := NC_sign a s
  have g2 := NC_sign b t
  have Hm : Hid (m < 2 ^ 136) := by
    show _ < _
    rw [hm]
    exact Nat.lt_of_lt_of_le (Nat.mul_lt_mul'' ha hb) (by rw [← Nat.pow_add]; exact Nat.pow_le_pow_right (by omega) (by omega))
  have Ha := Lib.hid ha; clear ha
  have Hb := Lib.hid hb; clear hb
  have Hmm := Lib.hid hm; clear hm
  have Hr := Lib.hid hr; clear hr
  go_enter Try.func75, Try.ntmps75
  go_wp2_with (first | ((with_reducible apply load83); rfl; rfl; rfl; (focus ((repeat' (first | (with_reducible assumption) | ((with_reducible refine heap_last ?_); (focus (first | (simp; done) | omega | (simp; omega)))) | ((with_reducible refine heap_prev ?_ ?_); (focus (first | (simp; done) | omega | (simp; omega)))) | (with_reducible apply sign_heap) | (with_reducible apply row_heap) | (with_reducible apply bit0_heap) | ((with_reducible refine sign_other ?_ ?_); (focus (first | (simp; done) | omega | (simp; omega)))) | ((with_reducible refine row_other ?_ ?_); (focus (first | (simp; done) | omega | (simp; omega)))) | (with_reducible refine drew_heap ?_))); done)); skip) | (first | ((with_reducible apply store83_0); rfl; rfl; rfl; rfl; (focus (simp; done)); skip) | ((with_reducible apply store83_1); rfl; rfl; rfl; rfl; (focus (simp; done)); skip) | ((with_reducible apply store83_2); rfl; rfl; rfl; rfl; (focus (simp; done)); skip) | ((with_reducible apply store83_3); rfl; rfl; rfl; rfl; (focus (simp; done)); skip) | ((with_reducible apply store83_4); rfl; rfl; rfl; rfl; (focus (simp; done)); skip)))
  go_loopw [7] (fun i wr => ∃ k : Nat, k ≤ 64 ∧ i = .int .i64 k ∧ Hid (wr.heap[w.heap.size]? = some (.cells (NC a s) 122 (0, 0))) ∧ Hid (wr.heap[w.heap.size + 1]? = some (.cells (NC b t) 122 (0, 0))) ∧
      Hid (wr.heap[w.heap.size + 1 + 1]? = some (.cells (NC 0 false) 122 (0, 0))) ∧ Hid (wr.heap[w.heap.size + 1 + 1 + 1]? = some (.cells (NC (a * (b % 2 ^ k)) false) 122 (0, 0))) ∧
      Hid (wr.heap[w.heap.size + 1 + 1 + 1 + 1]? = some (.cells (NC (a * 2 ^ k) s) 122 (0, 0))) ∧ w.heap.size + 5 ≤ wr.heap.size ∧ Below w.heap.size w wr) (fun i _ => 64 - (intOf i).toNat)
  case atStart =>
    refine ⟨0, by omega, rfl, by show _ = _; (focus ((repeat' (first | (with_reducible assumption) | ((with_reducible refine heap_last ?_); (focus (first | (simp; done) | omega | (simp; omega)))) | ((with_reducible refine heap_prev ?_ ?_); (focus (first | (simp; done) | omega | (simp; omega)))) | (with_reducible apply sign_heap) | (with_reducible apply row_heap) | (with_reducible apply bit0_heap) | ((with_reducible refine sign_other ?_ ?_); (focus (first | (simp; done) | omega | (simp; omega)))) | ((with_reducible refine row_other ?_ ?_); (focus (first | (simp; done) | omega | (simp; omega)))) | (with_reducible refine drew_heap ?_))); done)), by show _ = _; (focus ((repeat' (first | (with_reducible assumption) | ((with_reducible refine heap_last ?_); (focus (first | (simp; done) | omega | (simp; omega)))) | ((with_reducible refine heap_prev ?_ ?_); (focus (first | (simp; done) | omega | (simp; omega)))) | (with_reducible apply sign_heap) | (with_reducible apply row_heap) | (with_reducible apply bit0_heap) | ((with_reducible refine sign_other ?_ ?_); (focus (first | (simp; done) | omega | (simp; omega)))) | ((with_reducible refine row_other ?_ ?_); (focus (first | (simp; done) | omega | (simp; omega)))) | (with_reducible refine drew_heap ?_))); done)), by show _ = _; (focus ((repeat' (first | (with_reducible assumption) | ((with_reducible refine heap_last ?_); (focus (first | (simp; done) | omega | (simp; omega)))) | ((with_reducible refine heap_prev ?_ ?_); (focus (first | (simp; done) | omega | (simp; omega)))) | (with_reducible apply sign_heap) | (with_reducible apply row_heap) | (with_reducible apply bit0_heap) | ((with_reducible refine sign_other ?_ ?_); (focus (first | (simp; done) | omega | (simp; omega)))) | ((with_reducible refine row_other ?_ ?_); (focus (first | (simp; done) | omega | (simp; omega)))) | (with_reducible refine drew_heap ?_))); done)), ?_, ?_, by simp, by (focus ((repeat' (first | (with_reducible exact Below.refl _ _) | (with_reducible assumption) | (with_reducible refine Below.alloc ?_ ?_ _) | (with_reducible refine Below.setCell ?_ ?_ _) | (with_reducible refine Below.row ?_ ?_ _) | (with_reducible refine Below.drew ?_) | (with_reducible refine below_drewN ?_ _) | (focus (first | (simp; done) | omega | (simp; omega))))); done))⟩
    · show _ = _
      rw [show a * (b % 2 ^ 0) = 0 by simp [Nat.mod_one]]; (focus ((repeat' (first | (with_reducible assumption) | ((with_reducible refine heap_last ?_); (focus (first | (simp; done) | omega | (simp; omega)))) | ((with_reducible refine heap_prev ?_ ?_); (focus (first | (simp; done) | omega | (simp; omega)))) | (with_reducible apply sign_heap) | (with_reducible apply row_heap) | (with_reducible apply bit0_heap) | ((with_reducible refine sign_other ?_ ?_); (focus (first | (simp; done) | omega | (simp; omega)))) | ((with_reducible refine row_other ?_ ?_); (focus (first | (simp; done) | omega | (simp; omega)))) | (with_reducible refine drew_heap ?_))); done))
    · show _ = _
      rw [show a * 2 ^ 0 = a by simp]; (focus ((repeat' (first | (with_reducible assumption) | ((with_reducible refine heap_last ?_); (focus (first | (simp; done) | omega | (simp; omega)))) | ((with_reducible refine heap_prev ?_ ?_); (focus (first | (simp; done) | omega | (simp; omega)))) | (with_reducible apply sign_heap) | (with_reducible apply row_heap) | (with_reducible apply bit0_heap) | ((with_reducible refine sign_other ?_ ?_); (focus (first | (simp; done) | omega | (simp; omega)))) | ((with_reducible refine row_other ?_ ?_); (focus (first | (simp; done) | omega | (simp; omega)))) | (with_reducible refine drew_heap ?_))); done))
  case round =>
    obtain ⟨k, hk, rfl, h0, h1, h2, h3, h4, z1, hB⟩ := hrel
    by_cases hlt : k < 64
    · have c1 : wr.cell? ⟨w.heap.size + 1, k, none⟩ = some (.bool (b.testBit k)) := by rw [cell_of_row wr _ _ _ _ _ h1.out, NC_get b t k (by omega)]
      have hml := mod_low a b k
      generalize b.testBit k = y at *
      have H5 : Hid (2 * (a * 2 ^ k) = a * 2 ^ (k + 1)) := by show _ = _; rw [Nat.pow_succ]; grind
      cases y
      · have hml' : a * (b % 2 ^ k) = a * (b % 2 ^ (k + 1)) := by rw [hml]; simp
        have H6 := Lib.hid hml'; clear hml hml'
        have q4 := h4.out
        go_wp2_with (first | ((with_reducible apply load83); rfl; rfl; rfl; (focus ((repeat' (first | (with_reducible assumption) | ((with_reducible refine heap_last ?_); (focus (first | (simp; done) | omega | (simp; omega)))) | ((with_reducible refine heap_prev ?_ ?_); (focus (first | (simp; done) | omega | (simp; omega)))) | (with_reducible apply sign_heap) | (with_reducible apply row_heap) | (with_reducible apply bit0_heap) | ((with_reducible refine sign_other ?_ ?_); (focus (first | (simp; done) | omega | (simp; omega)))) | ((with_reducible refine row_other ?_ ?_); (focus (first | (simp; done) | omega | (simp; omega)))) | (with_reducible refine drew_heap ?_))); done)); skip))
        clear q4
        ((with_reducible refine (twice_c _ _ _).mono ?_); rintro e w1 ⟨rfl, hb1⟩)
        rw [H5.out]
        have y0 : Hid (w1.heap[w.heap.size]? = some (.cells (NC a s) 122 (0, 0))) := (hb1.block _ (by omega)).trans h0
        have y1 : Hid (w1.heap[w.heap.size + 1]? = some (.cells (NC b t) 122 (0, 0))) := (hb1.block _ (by omega)).trans h1
        have y2 : Hid (w1.heap[w.heap.size + 1 + 1]? = some (.cells (NC 0 false) 122 (0, 0))) := (hb1.block _ (by omega)).trans h2
        have y3 : Hid (w1.heap[w.heap.size + 1 + 1 + 1]? = some (.cells (NC (a * (b % 2 ^ k)) false) 122 (0, 0))) := (hb1.block _ (by omega)).trans h3
        have y4 : w1.heap[w.heap.size + 1 + 1 + 1 + 1]? = some (.cells (NC (a * 2 ^ k) s) 122 (0, 0)) := (hb1.block _ (by omega)).trans h4
        have yz : w.heap.size + 5 ≤ w1.heap.size := by have := hb1.size; omega
        have yB : Below w.heap.size w w1 := hB.trans (hb1.mono (by omega))
        clear hb1 h0 h1 h2 h3 h4 z1 hB c1
        go_wp2_with (first | ((with_reducible apply store83); rfl; rfl; rfl; rfl; (focus ((repeat' (first | (with_reducible assumption) | ((with_reducible refine heap_last ?_); (focus (first | (simp; done) | omega | (simp; omega)))) | ((with_reducible refine heap_prev ?_ ?_); (focus (first | (simp; done) | omega | (simp; omega)))) | (with_reducible apply sign_heap) | (with_reducible apply row_heap) | (with_reducible apply bit0_heap) | ((with_reducible refine sign_other ?_ ?_); (focus (first | (simp; done) | omega | (simp; omega)))) | ((with_reducible refine row_other ?_ ?_); (focus (first | (simp; done) | omega | (simp; omega)))) | (with_reducible refine drew_heap ?_))); done)); skip))
        refine ⟨⟨k + 1, by omega, by go_num, row_other (by omega) y0.out, row_other (by omega) y1.out, row_other (by omega) y2.out, ?_, row_heap y4, by simp; omega, by (focus ((repeat' (first | (with_reducible exact Below.refl _ _) | (with_reducible assumption) | (with_reducible refine Below.alloc ?_ ?_ _) | (with_reducible refine Below.setCell ?_ ?_ _) | (with_reducible refine Below.row ?_ ?_ _) | (with_reducible refine Below.drew ?_) | (with_reducible refine below_drewN ?_ _) | (focus (first | (simp; done) | omega | (simp; omega))))); done))⟩, by simp [intOf]; omega⟩
        show _ = _
        rw [← H6.out]
        exact row_other (by omega) y3.out
      · have hml' : a * (b % 2 ^ k) + a * 2 ^ k = a * (b % 2 ^ (k + 1)) := by rw [hml]; simp
        have H6 := Lib.hid hml'; clear hml hml'
        have q4 := h4.out
        have q3 := h3.out
        go_wp2_with (first | ((with_reducible apply load83); rfl; rfl; rfl; (focus ((repeat' (first | (with_reducible assumption) | ((with_reducible refine heap_last ?_); (focus (first | (simp; done) | omega | (simp; omega)))) | ((with_reducible refine heap_prev ?_ ?_); (focus (first | (simp; done) | omega | (simp; omega)))) | (with_reducible apply sign_heap) | (with_reducible apply row_heap) | (with_reducible apply bit0_heap) | ((with_reducible refine sign_other ?_ ?_); (focus (first | (simp; done) | omega | (simp; omega)))) | ((with_reducible refine row_other ?_ ?_); (focus (first | (simp; done) | omega | (simp; omega)))) | (with_reducible refine drew_heap ?_))); done)); skip))
        clear q4 q3
        ((with_reducible refine (more_c _ _ _ _ _).mono ?_); rintro e w1 ⟨rfl, hb1⟩)
        rw [H6.out]
        have y0 : Hid (w1.heap[w.heap.size]? = some (.cells (NC a s) 122 (0, 0))) := (hb1.block _ (by omega)).trans h0
        have y1 : Hid (w1.heap[w.heap.size + 1]? = some (.cells (NC b t) 122 (0, 0))) := (hb1.block _ (by omega)).trans h1
        have y2 : Hid (w1.heap[w.heap.size + 1 + 1]? = some (.cells (NC 0 false) 122 (0, 0))) := (hb1.block _ (by omega)).trans h2
        have y3 : w1.heap[w.heap.size + 1 + 1 + 1]? = some (.cells (NC (a * (b % 2 ^ k)) false) 122 (0, 0)) := (hb1.block _ (by omega)).trans h3
        have y4 : w1.heap[w.heap.size + 1 + 1 + 1 + 1]? = some (.cells (NC (a * 2 ^ k) s) 122 (0, 0)) := (hb1.block _ (by omega)).trans h4
        have yz : w.heap.size + 5 ≤ w1.heap.size := by have := hb1.size; omega
        have yB : Below w.heap.size w w1 := hB.trans (hb1.mono (by omega))
        clear hb1 h0 h1 h2 h3 h4 z1 hB c1
        go_wp2_with (first | ((with_reducible apply store83); rfl; rfl; rfl; rfl; (focus ((repeat' (first | (with_reducible assumption) | ((with_reducible refine heap_last ?_); (focus (first | (simp; done) | omega | (simp; omega)))) | ((with_reducible refine heap_prev ?_ ?_); (focus (first | (simp; done) | omega | (simp; omega)))) | (with_reducible apply sign_heap) | (with_reducible apply row_heap) | (with_reducible apply bit0_heap) | ((with_reducible refine sign_other ?_ ?_); (focus (first | (simp; done) | omega | (simp; omega)))) | ((with_reducible refine row_other ?_ ?_); (focus (first | (simp; done) | omega | (simp; omega)))) | (with_reducible refine drew_heap ?_))); done)); skip) | ((with_reducible apply load83); rfl; rfl; rfl; (focus ((repeat' (first | (with_reducible assumption) | ((with_reducible refine heap_last ?_); (focus (first | (simp; done) | omega | (simp; omega)))) | ((with_reducible refine heap_prev ?_ ?_); (focus (first | (simp; done) | omega | (simp; omega)))) | (with_reducible apply sign_heap) | (with_reducible apply row_heap) | (with_reducible apply bit0_heap) | ((with_reducible refine sign_other ?_ ?_); (focus (first | (simp; done) | omega | (simp; omega)))) | ((with_reducible refine row_other ?_ ?_); (focus (first | (simp; done) | omega | (simp; omega)))) | (with_reducible refine drew_heap ?_))); done)); skip))
        ((with_reducible refine (twice_c _ _ _).mono ?_); rintro e w2 ⟨rfl, hb2⟩)
        rw [H5.out]
        have x0 : Hid (w2.heap[w.heap.size]? = some (.cells (NC a s) 122 (0, 0))) := (hb2.block _ (by (focus (first | (simp; done) | omega | (simp; omega))))).trans (row_other (by omega) y0.out)
        have x1 : Hid (w2.heap[w.heap.size + 1]? = some (.cells (NC b t) 122 (0, 0))) := (hb2.block _ (by (focus (first | (simp; done) | omega | (simp; omega))))).trans (row_other (by omega) y1.out)
        have x2 : Hid (w2.heap[w.heap.size + 1 + 1]? = some (.cells (NC 0 false) 122 (0, 0))) := (hb2.block _ (by (focus (first | (simp; done) | omega | (simp; omega))))).trans (row_other (by omega) y2.out)
        have x3 : Hid (w2.heap[w.heap.size + 1 + 1 + 1]? = some (.cells (NC (a * (b % 2 ^ (k + 1))) false) 122 (0, 0))) := (hb2.block _ (by (focus (first | (simp; done) | omega | (simp; omega))))).trans (row_heap y3)
        have x4 : w2.heap[w.heap.size + 1 + 1 + 1 + 1]? = some (.cells (NC (a * 2 ^ k) s) 122 (0, 0)) := (hb2.block _ (by (focus (first | (simp; done) | omega | (simp; omega))))).trans (row_other (by omega) y4)
        have xz : w.heap.size + 5 ≤ w2.heap.size := by have := hb2.size; simp at this; omega
        have xB : Below w.heap.size w w2 := Below.trans (by (focus ((repeat' (first | (with_reducible exact Below.refl _ _) | (with_reducible assumption) | (with_reducible refine Below.alloc ?_ ?_ _) | (with_reducible refine Below.setCell ?_ ?_ _) | (with_reducible refine Below.row ?_ ?_ _) | (with_reducible refine Below.drew ?_) | (with_reducible refine below_drewN ?_ _) | (focus (first | (simp; done) | omega | (simp; omega))))); done))) (hb2.mono (by simp; omega))
        clear hb2 y0 y1 y2 y3 y4 yz yB
        go_wp2_with (first | ((with_reducible apply store83); rfl; rfl; rfl; rfl; (focus ((repeat' (first | (with_reducible assumption) | ((with_reducible refine heap_last ?_); (focus (first | (simp; done) | omega | (simp; omega)))) | ((with_reducible refine heap_prev ?_ ?_); (focus (first | (simp; done) | omega | (simp; omega)))) | (with_reducible apply sign_heap) | (with_reducible apply row_heap) | (with_reducible apply bit0_heap) | ((with_reducible refine sign_other ?_ ?_); (focus (first | (simp; done) | omega | (simp; omega)))) | ((with_reducible refine row_other ?_ ?_); (focus (first | (simp; done) | omega | (simp; omega)))) | (with_reducible refine drew_heap ?_))); done)); skip))
        exact ⟨⟨k + 1, by omega, by go_num, row_other (by omega) x0.out, row_other (by omega) x1.out, row_other (by omega) x2.out, row_other (by omega) x3.out, row_heap x4, by simp; omega, by (focus ((repeat' (first | (with_reducible exact Below.refl _ _) | (with_reducible assumption) | (with_reducible refine Below.alloc ?_ ?_ _) | (with_reducible refine Below.setCell ?_ ?_ _) | (with_reducible refine Below.row ?_ ?_ _) | (with_reducible refine Below.drew ?_) | (with_reducible refine below_drewN ?_ _) | (focus (first | (simp; done) | omega | (simp; omega))))); done))⟩, by simp [intOf]; omega⟩
    · obtain rfl : k = 64 := by omega
      have hm3 : a * (b % 2 ^ 64) = m := by rw [Nat.mod_eq_of_lt Hb.out]; exact Hmm.out.symm
      rw [hm3] at h3
      clear hm3
      have c0 : wr.cell? ⟨w.heap.size, 136, none⟩ = some (.bool s) := by rw [cell_of_row wr _ _ _ _ _ h0.out, NC_sign]
      have c1 : wr.cell? ⟨w.heap.size + 1, 136, none⟩ = some (.bool t) := by rw [cell_of_row wr _ _ _ _ _ h1.out, NC_sign]
      have c3 : wr.cell? ⟨w.heap.size + 1 + 1 + 1, 136, none⟩ = some (.bool false) := by rw [cell_of_row wr _ _ _ _ _ h3.out, NC_sign]
      have f3 : wr.frozen? ⟨w.heap.size + 1 + 1 + 1, 136, none⟩ = false := frozen_of_row wr _ _ _ _ h3.out
      have hr := Hr.out
      by_cases hst : s = t
      · obtain rfl : r = false := by rw [hr, hst]; simp
        have e1 : (s != t) = false := by simp [hst]
        have e2 : (s == t) = true := by simp [hst]
        clear hr
        have Hst := Lib.hid hst; clear hst
        have q3 := h3.out
        have q2 := h2.out
        go_wp2_with (first | ((with_reducible apply load83); rfl; rfl; rfl; (focus ((repeat' (first | (with_reducible assumption) | ((with_reducible refine heap_last ?_); (focus (first | (simp; done) | omega | (simp; omega)))) | ((with_reducible refine heap_prev ?_ ?_); (focus (first | (simp; done) | omega | (simp; omega)))) | (with_reducible apply sign_heap) | (with_reducible apply row_heap) | (with_reducible apply bit0_heap) | ((with_reducible refine sign_other ?_ ?_); (focus (first | (simp; done) | omega | (simp; omega)))) | ((with_reducible refine row_other ?_ ?_); (focus (first | (simp; done) | omega | (simp; omega)))) | (with_reducible refine drew_heap ?_))); done)); skip) | (first | ((with_reducible apply store83_0); rfl; rfl; rfl; rfl; (focus (simp; done)); skip) | ((with_reducible apply store83_1); rfl; rfl; rfl; rfl; (focus (simp; done)); skip) | ((with_reducible apply store83_2); rfl; rfl; rfl; rfl; (focus (simp; done)); skip) | ((with_reducible apply store83_3); rfl; rfl; rfl; rfl; (focus (simp; done)); skip) | ((with_reducible apply store83_4); rfl; rfl; rfl; rfl; (focus (simp; done)); skip)) | ((with_reducible apply store83); rfl; rfl; rfl; rfl; (focus ((repeat' (first | (with_reducible assumption) | ((with_reducible refine heap_last ?_); (focus (first | (simp; done) | omega | (simp; omega)))) | ((with_reducible refine heap_prev ?_ ?_); (focus (first | (simp; done) | omega | (simp; omega)))) | (with_reducible apply sign_heap) | (with_reducible apply row_heap) | (with_reducible apply bit0_heap) | ((with_reducible refine sign_other ?_ ?_); (focus (first | (simp; done) | omega | (simp; omega)))) | ((with_reducible refine row_other ?_ ?_); (focus (first | (simp; done) | omega | (simp; omega)))) | (with_reducible refine drew_heap ?_))); done)); skip) | ((with_reducible apply bodyPost_ret); (apply ret83; rfl; rfl; (focus ((repeat' (first | (with_reducible assumption) | ((with_reducible refine heap_last ?_); (focus (first | (simp; done) | omega | (simp; omega)))) | ((with_reducible refine heap_prev ?_ ?_); (focus (first | (simp; done) | omega | (simp; omega)))) | (with_reducible apply sign_heap) | (with_reducible apply row_heap) | (with_reducible apply bit0_heap) | ((with_reducible refine sign_other ?_ ?_); (focus (first | (simp; done) | omega | (simp; omega)))) | ((with_reducible refine row_other ?_ ?_); (focus (first | (simp; done) | omega | (simp; omega)))) | (with_reducible refine drew_heap ?_))); done))); rfl; skip))
        first | exact ⟨rfl, by (focus ((repeat' (first | (with_reducible exact Below.refl _ _) | (with_reducible assumption) | (with_reducible refine Below.alloc ?_ ?_ _) | (with_reducible refine Below.setCell ?_ ?_ _) | (with_reducible refine Below.row ?_ ?_ _) | (with_reducible refine Below.drew ?_) | (with_reducible refine below_drewN ?_ _) | (focus (first | (simp; done) | omega | (simp; omega))))); done))⟩ | (focus ((repeat' (first | (with_reducible exact Below.refl _ _) | (with_reducible assumption) | (with_reducible refine Below.alloc ?_ ?_ _) | (with_reducible refine Below.setCell ?_ ?_ _) | (with_reducible refine Below.row ?_ ?_ _) | (with_reducible refine Below.drew ?_) | (with_reducible refine below_drewN ?_ _) | (focus (first | (simp; done) | omega | (simp; omega))))); done))
      · have e1 : (s != t) = true := by simp [hst]
        have e2 : (s == t) = false := by simp [hst]
        obtain ⟨bz, hbz⟩ : ∃ bz, bz = decide (m = 0) := ⟨_, rfl⟩
        have Hbz := Lib.hid hbz
        obtain rfl : r = !bz := by rw [hr, e1, ← hbz]; rfl
        clear hr hbz
        have Hst := Lib.hid hst; clear hst
        have q3 := h3.out
        go_wp2_with (first | ((with_reducible apply load83); rfl; rfl; rfl; (focus ((repeat' (first | (with_reducible assumption) | ((with_reducible refine heap_last ?_); (focus (first | (simp; done) | omega | (simp; omega)))) | ((with_reducible refine heap_prev ?_ ?_); (focus (first | (simp; done) | omega | (simp; omega)))) | (with_reducible apply sign_heap) | (with_reducible apply row_heap) | (with_reducible apply bit0_heap) | ((with_reducible refine sign_other ?_ ?_); (focus (first | (simp; done) | omega | (simp; omega)))) | ((with_reducible refine row_other ?_ ?_); (focus (first | (simp; done) | omega | (simp; omega)))) | (with_reducible refine drew_heap ?_))); done)); skip))
        ((with_reducible refine (nought_c m _ bz Hm.out Hbz.out _).mono ?_); rintro e w2 ⟨rfl, hb2⟩)
        have x3 : w2.heap[w.heap.size + 1 + 1 + 1]? = some (.cells (NC m false) 122 (0, 0)) := (hb2.block _ (by (focus (first | (simp; done) | omega | (simp; omega))))).trans q3
        have x2 : w2.heap[w.heap.size + 1 + 1]? = some (.cells (NC 0 false) 122 (0, 0)) := (hb2.block _ (by (focus (first | (simp; done) | omega | (simp; omega))))).trans h2.out
        have xz : w.heap.size + 5 ≤ w2.heap.size := by have := hb2.size; omega
        have xB : Below w.heap.size w w2 := hB.trans (hb2.mono (by omega))
        have yc : w2.cell? ⟨w.heap.size + 1 + 1 + 1, 136, none⟩ = some (.bool false) := by rw [cell_of_row _ _ _ _ _ _ x3, NC_sign]
        have yf : w2.frozen? ⟨w.heap.size + 1 + 1 + 1, 136, none⟩ = false := frozen_of_row _ _ _ _ _ x3
        clear hb2 hB z1 h0 h1 h2 h3 h4 q3 c0 c1 c3 f3
        cases bz
        all_goals
          go_wp2_with (first | ((with_reducible apply load83); rfl; rfl; rfl; (focus ((repeat' (first | (with_reducible assumption) | ((with_reducible refine heap_last ?_); (focus (first | (simp; done) | omega | (simp; omega)))) | ((with_reducible refine heap_prev ?_ ?_); (focus (first | (simp; done) | omega | (simp; omega)))) | (with_reducible apply sign_heap) | (with_reducible apply row_heap) | (with_reducible apply bit0_heap) | ((with_reducible refine sign_other ?_ ?_); (focus (first | (simp; done) | omega | (simp; omega)))) | ((with_reducible refine row_other ?_ ?_); (focus (first | (simp; done) | omega | (simp; omega)))) | (with_reducible refine drew_heap ?_))); done)); skip) | (first | ((with_reducible apply store83_0); rfl; rfl; rfl; rfl; (focus (simp; done)); skip) | ((with_reducible apply store83_1); rfl; rfl; rfl; rfl; (focus (simp; done)); skip) | ((with_reducible apply store83_2); rfl; rfl; rfl; rfl; (focus (simp; done)); skip) | ((with_reducible apply store83_3); rfl; rfl; rfl; rfl; (focus (simp; done)); skip) | ((with_reducible apply store83_4); rfl; rfl; rfl; rfl; (focus (simp; done)); skip)) | ((with_reducible apply store83); rfl; rfl; rfl; rfl; (focus ((repeat' (first | (with_reducible assumption) | ((with_reducible refine heap_last ?_); (focus (first | (simp; done) | omega | (simp; omega)))) | ((with_reducible refine heap_prev ?_ ?_); (focus (first | (simp; done) | omega | (simp; omega)))) | (with_reducible apply sign_heap) | (with_reducible apply row_heap) | (with_reducible apply bit0_heap) | ((with_reducible refine sign_other ?_ ?_); (focus (first | (simp; done) | omega | (simp; omega)))) | ((with_reducible refine row_other ?_ ?_); (focus (first | (simp; done) | omega | (simp; omega)))) | (with_reducible refine drew_heap ?_))); done)); skip) | ((with_reducible apply bodyPost_ret); (apply ret83; rfl; rfl; (focus ((repeat' (first | (with_reducible assumption) | ((with_reducible refine heap_last ?_); (focus (first | (simp; done) | omega | (simp; omega)))) | ((with_reducible refine heap_prev ?_ ?_); (focus (first | (simp; done) | omega | (simp; omega)))) | (with_reducible apply sign_heap) | (with_reducible apply row_heap) | (with_reducible apply bit0_heap) | ((with_reducible refine sign_other ?_ ?_); (focus (first | (simp; done) | omega | (simp; omega)))) | ((with_reducible refine row_other ?_ ?_); (focus (first | (simp; done) | omega | (simp; omega)))) | (with_reducible refine drew_heap ?_))); done))); rfl; skip))
          first | exact ⟨rfl, by (focus ((repeat' (first | (with_reducible exact Below.refl _ _) | (with_reducible assumption) | (with_reducible refine Below.alloc ?_ ?_ _) | (with_reducible refine Below.setCell ?_ ?_ _) | (with_reducible refine Below.row ?_ ?_ _) | (with_reducible refine Below.drew ?_) | (with_reducible refine below_drewN ?_ _) | (focus (first | (simp; done) | omega | (simp; omega))))); done))⟩ | (focus ((repeat' (first | (with_reducible exact Below.refl _ _) | (with_reducible assumption) | (with_reducible refine Below.alloc ?_ ?_ _) | (with_reducible refine Below.setCell ?_ ?_ _) | (with_reducible refine Below.row ?_ ?_ _) | (with_reducible refine Below.drew ?_) | (with_reducible refine below_drewN ?_ _) | (focus (first | (simp; done) | omega | (simp; omega))))); done))
end Go.Proofs.Ytpegkojcemggaaa

/- The quotient and the rest. -/
namespace Go.Proofs.Ytpegkojcemggaaa
open Go.RowKit

/-- The bits of f from k on. -/
def atop (f : Nat → Bool) (k : Nat) : Nat → Bool := fun j => decide (k ≤ j) && f j
theorem atop_all (m : Nat) (s : Bool) : NCf (atop m.testBit 0) s = NC m s := by
  unfold NC; apply NCf_congr; intro j _; simp [atop]
theorem atop_none (m : Nat) (s : Bool) : NCf (atop m.testBit 136) s = NC 0 s := by
  unfold NC; apply NCf_congr; intro j hj; simp [atop]; omega
theorem atop_set (f : Nat → Bool) (s : Bool) (k : Nat) (hk : k < 136) (hv : f k = true) : (NCf (atop f (k + 1)) s).setIfInBounds k (.bool true) = NCf (atop f k) s := by
  rw [NCf_set _ _ _ _ hk]
  apply NCf_congr
  intro j _
  unfold atop
  by_cases e : j = k
  · subst e; simp [hv]
  · rw [if_neg e]
    by_cases h1 : k ≤ j
    · simp [h1, show k + 1 ≤ j by omega]
    · simp [h1, show ¬ k + 1 ≤ j by omega]
theorem atop_skip (f : Nat → Bool) (s : Bool) (k : Nat) (hv : f k = false) : NCf (atop f (k + 1)) s = NCf (atop f k) s := by
  apply NCf_congr
  intro j _
  unfold atop
  by_cases e : j = k
  · subst e; simp [hv]
  · by_cases h1 : k ≤ j
    · simp [h1, show k + 1 ≤ j by omega]
    · simp [h1, show ¬ k + 1 ≤ j by omega]
/-- One step of the division by hand. -/
theorem div_step (a b j : Nat) (hb : 0 < b) : (a / b).testBit j = decide (b ≤ 2 * (a / 2 ^ (j + 1) % b) + (if a.testBit j then 1 else 0)) ∧
    a / 2 ^ j % b = if b ≤ 2 * (a / 2 ^ (j + 1) % b) + (if a.testBit j then 1 else 0) then 2 * (a / 2 ^ (j + 1) % b) + (if a.testBit j then 1 else 0) - b else 2 * (a / 2 ^ (j + 1) % b) + (if a.testBit j then 1 else 0) := by
  have e1 : a / 2 ^ j = 2 * (a / 2 ^ (j + 1)) + (if a.testBit j then 1 else 0) := by
    rw [div_succ, bit_eq]
    have : a / 2 ^ j % 2 = 0 ∨ a / 2 ^ j % 2 = 1 := by omega
    rcases this with h | h <;> simp [h] <;> omega
  have e2 : a / b / 2 ^ j = a / 2 ^ j / b := by rw [Nat.div_div_eq_div_mul, Nat.div_div_eq_div_mul, Nat.mul_comm]
  rw [bit_eq (a / b), e2, e1]
  obtain ⟨c, hc, hc1⟩ : ∃ c : Nat, c = (if a.testBit j then 1 else 0) ∧ c ≤ 1 := ⟨_, rfl, by split <;> omega⟩
  rw [← hc]
  generalize a / 2 ^ (j + 1) = x
  have e3 : 2 * x + c = b * (2 * (x / b)) + (2 * (x % b) + c) := by
    have := Nat.div_add_mod x b
    grind
  have hl : x % b < b := Nat.mod_lt _ hb
  rw [e3, Nat.mul_add_div hb, Nat.mul_add_mod]
  generalize x % b = y at *
  generalize x / b = z at *
  by_cases h : b ≤ 2 * y + c
  · have h1 : (2 * y + c) / b = 1 := by
      rw [Nat.div_eq_iff hb]; omega
    have h2 : (2 * y + c) % b = 2 * y + c - b := by
      rw [Nat.mod_eq_sub_mod h, Nat.mod_eq_of_lt (by omega)]
    rw [h1, Nat.mul_add_mod, h2, if_pos h]
    exact ⟨by simp [h], rfl⟩
  · have h1 : (2 * y + c) / b = 0 := Nat.div_eq_of_lt (by omega)
    have h2 : (2 * y + c) % b = 2 * y + c := Nat.mod_eq_of_lt (by omega)
    rw [h1, Nat.mul_add_mod, h2, if_neg h]
    exact ⟨by simp [h], rfl⟩

theorem atop_get (f : Nat → Bool) (s : Bool) (k i : Nat) (h : i < 136) : (NCf (atop f k) s)[i]? = some (.bool (atop f k i)) := NCf_get _ _ _ h
theorem NCf_heap {w : World} {g k : Nat} {f : Nat → Bool} {s : Bool} {t : TypeId} (hk : k < 136) (hv : f k = true) (h : w.heap[g]? = some (.cells (NCf (atop f (k + 1)) s) t (0, 0))) :
    (w.setCell ⟨g, k, none⟩ (.bool true)).heap[g]? = some (.cells (NCf (atop f k) s) t (0, 0)) := by
  rw [heap_setCell_same _ _ _ _ _ _ h, atop_set f s k hk hv]

end Go.Proofs.Ytpegkojcemggaaa

/- A row of bits as a number of 64 bits, or refused. -/
namespace Go.Proofs.Ytpegkojcemggaaa
open Go.RowKit

theorem high_bit (m : Nat) (hm : m < 2 ^ 136) (h : ∀ j, 64 ≤ j → j < 136 → m.testBit j = false) : m < 2 ^ 64 := by
  apply Nat.lt_pow_two_of_testBit
  intro i hi
  by_cases h2 : i < 136
  · exact h i hi h2
  · exact Nat.testBit_lt_two_pow (Nat.lt_of_lt_of_le hm (Nat.pow_le_pow_right (by omega) (by omega)))
theorem low_bit (m : Nat) (hm : m < 2 ^ 64) (j : Nat) (h : 64 ≤ j) : m.testBit j = false :=
  Nat.testBit_lt_two_pow (Nat.lt_of_lt_of_le hm (Nat.pow_le_pow_right (by omega) h))

set_option maxHeartbeats 4000000 in
set_option maxRecDepth 100000 in
theorem Back_big (m : Nat) (s : Bool) (hm : m < 2 ^ 136) (hb : 2 ^ 64 ≤ m) (w : World) :
    Calls Try.prog 97 #[.agg (NC m s)] w fun e w' => e = .returned (.tuple #[.int .i64 0, .bool false]) ∧ Below w.heap.size w w' := by
  have Hm := Lib.hid hm; clear hm
  have Hb := Lib.hid hb; clear hb
  go_enter Try.func97, Try.ntmps97
  go_wp2
  go_loop [4] (fun i => ∃ k : Nat, 64 ≤ k ∧ k ≤ 136 ∧ i = .int .i64 k ∧ (∀ j, 64 ≤ j → j < k → m.testBit j = false)) (fun i => 136 - (intOf i).toNat)
  case atStart => exact ⟨64, by omega, by omega, rfl, fun j h1 h2 => by omega⟩
  case round =>
    obtain ⟨k, hk0, hk, rfl, hf⟩ := hrel
    have Hf := Lib.hid hf; clear hf
    by_cases hlt : k < 136
    · have g1 := NC_get m s k hlt
      obtain ⟨x, hx⟩ : ∃ x, x = m.testBit k := ⟨_, rfl⟩
      rw [← hx] at g1
      have Hx := Lib.hid hx; clear hx
      cases x
      · go_wp2
        refine ⟨⟨k + 1, by omega, by omega, by go_num, fun j h1 hj => ?_⟩, by simp [intOf]; omega⟩
        by_cases e : j = k
        · subst e; exact Hx.out.symm
        · exact Hf.out j h1 (by omega)
      · go_wp2
        go_ret2
        first | exact ⟨rfl, by (focus ((repeat' (first | (with_reducible exact Below.refl _ _) | (with_reducible assumption) | (with_reducible refine Below.alloc ?_ ?_ _) | (with_reducible refine Below.setCell ?_ ?_ _) | (with_reducible refine Below.row ?_ ?_ _) | (with_reducible refine Below.drew ?_) | (with_reducible refine below_drewN ?_ _) | (focus (first | (simp; done) | omega | (simp; omega))))); done))⟩ | (focus ((repeat' (first | (with_reducible exact Below.refl _ _) | (with_reducible assumption) | (with_reducible refine Below.alloc ?_ ?_ _) | (with_reducible refine Below.setCell ?_ ?_ _) | (with_reducible refine Below.row ?_ ?_ _) | (with_reducible refine Below.drew ?_) | (with_reducible refine below_drewN ?_ _) | (focus (first | (simp; done) | omega | (simp; omega))))); done))
    · exfalso
      obtain rfl : k = 136 := by omega
      have := high_bit m Hm.out Hf.out
      have := Hb.out
      omega

theorem ret_pair {v : Value} {a b : Bool} (h : a = b) : Ending.returned (.tuple #[v, .bool a]) = .returned (.tuple #[v, .bool b]) := by rw [h]
def BackP (x : Int) (ok : Bool) (e : Ending) : Prop := ∃ v, e = .returned (.tuple #[.int .i64 v, .bool ok]) ∧ (ok = true → v = x)
theorem half_step (m j : Nat) (hm : m < 2 ^ 64) : m / 2 ^ j = 2 * (m / 2 ^ (j + 1)) + (if m.testBit j then 1 else 0) ∧ m / 2 ^ j ≤ 18446744073709551615 := by
  constructor
  · rw [div_succ, bit_eq]
    have : m / 2 ^ j % 2 = 0 ∨ m / 2 ^ j % 2 = 1 := by omega
    rcases this with h | h <;> simp [h] <;> omega
  · exact Nat.le_trans (Nat.div_le_self _ _) (by omega)
theorem back_neg (m : Nat) (h1 : 0 < m) (h2 : m ≤ 9223372036854775808) : wrap64 (18446744073709551615 - (m : Int) + 1) = -(m : Int) := by
  unfold wrap64; omega
theorem back_pos (m : Nat) (h2 : m < 9223372036854775808) : wrap64 (m : Int) = (m : Int) := by
  unfold wrap64; omega

set_option maxHeartbeats 4000000 in
set_option maxRecDepth 100000 in
theorem Back_small (m : Nat) (s : Bool) (ok : Bool) (hm : m < 2 ^ 64) (hs : s = true → 0 < m) (hok : ok = if s then decide (m ≤ 9223372036854775808) else decide (m < 9223372036854775808)) (w : World) :
    Calls Try.prog 97 #[.agg (NC m s)] w fun e w' => BackP (if s then -(m : Int) else (m : Int)) ok e ∧ Below w.heap.size w w' := by
  have gs := NC_sign m s
  have Hm := Lib.hid hm; clear hm
  have Hs := Lib.hid hs; clear hs
  have Hok := Lib.hid hok; clear hok
  go_enter Try.func97, Try.ntmps97
  go_wp2
  go_loop [4] (fun i => ∃ k : Nat, 64 ≤ k ∧ k ≤ 136 ∧ i = .int .i64 k) (fun i => 136 - (intOf i).toNat)
  case atStart => exact ⟨64, by omega, by omega, rfl⟩
  case round =>
    obtain ⟨k, hk0, hk, rfl⟩ := hrel
    by_cases hlt : k < 136
    · have g1 := NC_get m s k hlt
      rw [low_bit m Hm.out k hk0] at g1
      go_wp2
      exact ⟨⟨k + 1, by omega, by omega, by go_num⟩, by simp [intOf]; omega⟩
    · obtain rfl : k = 136 := by omega
      go_wp2
      go_loop [5, 6] (fun u i => ∃ k : Nat, k ≤ 64 ∧ i = .int .i64 ((k : Int) - 1) ∧ u = .int .u64 ((m / 2 ^ k : Nat) : Int)) (fun _ i => (intOf i + 1).toNat)
      case atStart => exact ⟨64, by omega, rfl, by rw [Nat.div_eq_of_lt Hm.out]; rfl⟩
      case round =>
        obtain ⟨k, hk, rfl, rfl⟩ := hrel
        by_cases hlt2 : 0 < k
        · obtain ⟨j, rfl⟩ : ∃ j, k = j + 1 := ⟨k - 1, by omega⟩
          rw [show (((j + 1 : Nat) : Int) - 1) = (j : Int) by omega]
          have ⟨h1, h2⟩ := half_step m j Hm.out
          have g1 := NC_get m s j (by omega)
          obtain ⟨q, hq⟩ : ∃ q, q = m / 2 ^ (j + 1) := ⟨_, rfl⟩
          rw [← hq] at h1
          rw [← hq]
          have Hq := Lib.hid hq; clear hq
          have q0 : (0 : Int) ≤ (j : Int) := by omega
          have q1 : (j : Int) < 64 := by omega
          generalize m.testBit j = x at *
          cases x
          · have h3 : (2 * (q : Int)) ≤ 18446744073709551615 := by simp at h1; omega
            have H1 := Lib.hid h1; clear h1 h2
            go_wp2
            exact ⟨⟨j, by omega, rfl, by rw [H1.out]; simp⟩, by simp [intOf]⟩
          · have h3 : (2 * (q : Int)) + 1 ≤ 18446744073709551615 := by simp at h1; omega
            have H1 := Lib.hid h1; clear h1 h2
            go_wp2
            exact ⟨⟨j, by omega, rfl, by rw [H1.out]; simp⟩, by simp [intOf]⟩
        · obtain rfl : k = 0 := by omega
          rw [show m / 2 ^ 0 = m by simp]
          have hm' : (m : Int) ≤ 18446744073709551615 := by have := Hm.out; omega
          have hm0 : (0 : Int) ≤ (m : Int) := by omega
          cases s
          · have hb : decide ((m : Int) < 9223372036854775808) = ok := by rw [Hok.out]; simp; omega
            have HB := Lib.hid hb; clear hb
            go_wp2
            go_ret2
            exact ⟨⟨wrap64 (m : Int), ret_pair HB.out, fun h => back_pos m (by have := HB.out; rw [h] at this; simp at this; omega)⟩, by (focus ((repeat' (first | (with_reducible exact Below.refl _ _) | (with_reducible assumption) | (with_reducible refine Below.alloc ?_ ?_ _) | (with_reducible refine Below.setCell ?_ ?_ _) | (with_reducible refine Below.row ?_ ?_ _) | (with_reducible refine Below.drew ?_) | (with_reducible refine below_drewN ?_ _) | (focus (first | (simp; done) | omega | (simp; omega))))); done))⟩
          · have hpos := Hs.out rfl
            by_cases hle : m ≤ 9223372036854775808
            · have hl2 : (m : Int) ≤ 9223372036854775808 := by omega
              have e0 := back_neg m hpos hle
              have E0 := Lib.hid e0; clear e0
              have hp1 : (1 : Int) ≤ (m : Int) := by omega
              have hk1 : ok = true := by rw [Hok.out]; simp; omega
              have HK1 := Lib.hid hk1; clear hk1
              go_wp2
              go_ret2
              exact ⟨⟨wrap64 (18446744073709551615 - (m : Int) + 1), ret_pair HK1.out.symm, fun _ => E0.out⟩, by (focus ((repeat' (first | (with_reducible exact Below.refl _ _) | (with_reducible assumption) | (with_reducible refine Below.alloc ?_ ?_ _) | (with_reducible refine Below.setCell ?_ ?_ _) | (with_reducible refine Below.row ?_ ?_ _) | (with_reducible refine Below.drew ?_) | (with_reducible refine below_drewN ?_ _) | (focus (first | (simp; done) | omega | (simp; omega))))); done))⟩
            · have hl2 : (9223372036854775808 : Int) < (m : Int) := by omega
              have hk1 : ok = false := by rw [Hok.out]; simp; omega
              have HK1 := Lib.hid hk1; clear hk1
              go_wp2
              go_ret2
              exact ⟨⟨0, ret_pair HK1.out.symm, fun h => by rw [HK1.out] at h; cases h⟩, by (focus ((repeat' (first | (with_reducible exact Below.refl _ _) | (with_reducible assumption) | (with_reducible refine Below.alloc ?_ ?_ _) | (with_reducible refine Below.setCell ?_ ?_ _) | (with_reducible refine Below.row ?_ ?_ _) | (with_reducible refine Below.drew ?_) | (with_reducible refine below_drewN ?_ _) | (focus (first | (simp; done) | omega | (simp; omega))))); done))⟩

set_option maxHeartbeats 4000000 in
set_option maxRecDepth 100000 in
theorem told_c (x : Int) (hx : x.natAbs < 2 ^ 136) (w : World) :
    Calls Try.prog 74 #[.agg (NZ x)] w fun e w' => e = .returned (.tuple #[.int .i64 (tv x), .int .i64 (te x)]) ∧ Below w.heap.size w w' := by
  by_cases hbig : 2 ^ 64 ≤ x.natAbs
  · have e1 := tv_out (x := x) (by unfold InR; omega)
    have e2 := te_out (x := x) (by unfold InR; omega)
    rw [e1, e2]
    clear e1 e2
    have hc := fun w => Back_big x.natAbs (decide (x < 0)) hx hbig w
    have Hc := Lib.hid hc; clear hc hx hbig
    unfold NZ
    go_enter Try.func74, Try.ntmps74
    go_wp2_with (first | ((with_reducible apply load83); rfl; rfl; rfl; (focus ((repeat' (first | (with_reducible assumption) | ((with_reducible refine heap_last ?_); (focus (first | (simp; done) | omega | (simp; omega)))) | ((with_reducible refine heap_prev ?_ ?_); (focus (first | (simp; done) | omega | (simp; omega)))) | (with_reducible apply sign_heap) | (with_reducible apply row_heap) | (with_reducible apply bit0_heap) | ((with_reducible refine sign_other ?_ ?_); (focus (first | (simp; done) | omega | (simp; omega)))) | ((with_reducible refine row_other ?_ ?_); (focus (first | (simp; done) | omega | (simp; omega)))) | (with_reducible refine drew_heap ?_))); done)); skip))
    ((with_reducible refine (Hc.out _).mono ?_); rintro e w1 ⟨rfl, hb1⟩)
    have hB : Below w.heap.size w w1 := Below.trans (by (focus ((repeat' (first | (with_reducible exact Below.refl _ _) | (with_reducible assumption) | (with_reducible refine Below.alloc ?_ ?_ _) | (with_reducible refine Below.setCell ?_ ?_ _) | (with_reducible refine Below.row ?_ ?_ _) | (with_reducible refine Below.drew ?_) | (with_reducible refine below_drewN ?_ _) | (focus (first | (simp; done) | omega | (simp; omega))))); done))) (hb1.mono (by simp))
    clear hb1
    go_wp2
    go_ret2
    first | exact ⟨rfl, hB⟩ | exact hB
  · obtain ⟨ok, hok⟩ : ∃ ok, ok = if decide (x < 0) then decide (x.natAbs ≤ 9223372036854775808) else decide (x.natAbs < 9223372036854775808) := ⟨_, rfl⟩
    have hc := fun w => Back_small x.natAbs (decide (x < 0)) ok (by omega) (by simp; omega) hok w
    have hin : ok = true ↔ InR x := by
      unfold InR; rw [hok]
      by_cases h : x < 0 <;> simp [h] <;> omega
    have hv : (if decide (x < 0) then -(x.natAbs : Int) else (x.natAbs : Int)) = x := by
      by_cases h : x < 0 <;> simp [h] <;> omega
    rw [hv] at hc
    have Hc := Lib.hid hc; clear hc hx hbig hok hv
    unfold NZ
    cases ok
    · have hn : ¬ InR x := fun h => by have := hin.2 h; cases this
      rw [tv_out hn, te_out hn]
      have Hin := Lib.hid hin; clear hin hn
      go_enter Try.func74, Try.ntmps74
      go_wp2_with (first | ((with_reducible apply load83); rfl; rfl; rfl; (focus ((repeat' (first | (with_reducible assumption) | ((with_reducible refine heap_last ?_); (focus (first | (simp; done) | omega | (simp; omega)))) | ((with_reducible refine heap_prev ?_ ?_); (focus (first | (simp; done) | omega | (simp; omega)))) | (with_reducible apply sign_heap) | (with_reducible apply row_heap) | (with_reducible apply bit0_heap) | ((with_reducible refine sign_other ?_ ?_); (focus (first | (simp; done) | omega | (simp; omega)))) | ((with_reducible refine row_other ?_ ?_); (focus (first | (simp; done) | omega | (simp; omega)))) | (with_reducible refine drew_heap ?_))); done)); skip))
      ((with_reducible refine (Hc.out _).mono ?_); rintro e w1 ⟨⟨v, rfl, hv⟩, hb1⟩)
      have hB : Below w.heap.size w w1 := Below.trans (by (focus ((repeat' (first | (with_reducible exact Below.refl _ _) | (with_reducible assumption) | (with_reducible refine Below.alloc ?_ ?_ _) | (with_reducible refine Below.setCell ?_ ?_ _) | (with_reducible refine Below.row ?_ ?_ _) | (with_reducible refine Below.drew ?_) | (with_reducible refine below_drewN ?_ _) | (focus (first | (simp; done) | omega | (simp; omega))))); done))) (hb1.mono (by simp))
      clear hb1 hv
      go_wp2
      go_ret2
      first | exact ⟨rfl, hB⟩ | exact hB
    · have hn : InR x := hin.1 rfl
      rw [tv_in hn, te_in hn]
      have Hin := Lib.hid hin; clear hin hn
      go_enter Try.func74, Try.ntmps74
      go_wp2_with (first | ((with_reducible apply load83); rfl; rfl; rfl; (focus ((repeat' (first | (with_reducible assumption) | ((with_reducible refine heap_last ?_); (focus (first | (simp; done) | omega | (simp; omega)))) | ((with_reducible refine heap_prev ?_ ?_); (focus (first | (simp; done) | omega | (simp; omega)))) | (with_reducible apply sign_heap) | (with_reducible apply row_heap) | (with_reducible apply bit0_heap) | ((with_reducible refine sign_other ?_ ?_); (focus (first | (simp; done) | omega | (simp; omega)))) | ((with_reducible refine row_other ?_ ?_); (focus (first | (simp; done) | omega | (simp; omega)))) | (with_reducible refine drew_heap ?_))); done)); skip))
      ((with_reducible refine (Hc.out _).mono ?_); rintro e w1 ⟨⟨v, rfl, hv⟩, hb1⟩)
      obtain rfl : v = x := hv rfl
      have hB : Below w.heap.size w w1 := Below.trans (by (focus ((repeat' (first | (with_reducible exact Below.refl _ _) | (with_reducible assumption) | (with_reducible refine Below.alloc ?_ ?_ _) | (with_reducible refine Below.setCell ?_ ?_ _) | (with_reducible refine Below.row ?_ ?_ _) | (with_reducible refine Below.drew ?_) | (with_reducible refine below_drewN ?_ _) | (focus (first | (simp; done) | omega | (simp; omega))))); done))) (hb1.mono (by simp))
      clear hb1 hv
      go_wp2
      go_ret2
      first | exact ⟨rfl, hB⟩ | exact hB
end Go.Proofs.Ytpegkojcemggaaa

/- The reference's sum, difference, product; which of two products is less; a sum that goes no further. -/
namespace Go.Proofs.Ytpegkojcemggaaa
open Go.RowKit

theorem Of_z (x : Int) (hx : InR x) (w : World) :
    Calls Try.prog 76 #[.int .i64 x] w fun e w' => e = .returned (.agg (NZ x)) ∧ Below w.heap.size w w' := Of_c x hx.1 hx.2 w
theorem Times_z (x y : Int) (hx : InR x) (hy : InR y) (w : World) :
    Calls Try.prog 75 #[.agg (NZ x), .agg (NZ y)] w fun e w' => e = .returned (.agg (NZ (x * y))) ∧ Below w.heap.size w w' :=
  Times_n x.natAbs y.natAbs (decide (x < 0)) (decide (y < 0)) (x * y).natAbs (decide (x * y < 0)) (by unfold InR at hx; omega) (by unfold InR at hy; omega)
    (Int.natAbs_mul x y)
    (by
      by_cases h0 : x = 0
      · subst h0; simp
      · by_cases h1 : y = 0
        · subst h1; simp
        · have hne : x * y ≠ 0 := Int.mul_ne_zero h0 h1
          rcases Int.lt_or_gt_of_ne h0 with a | a <;> rcases Int.lt_or_gt_of_ne h1 with b | b
          · have := Int.mul_pos_of_neg_of_neg a b; simp [a, b, hne]; omega
          · have := Int.mul_neg_of_neg_of_pos a b; simp [a, hne, show ¬ y < 0 by omega, this]
          · have := Int.mul_neg_of_pos_of_neg a b; simp [b, hne, show ¬ x < 0 by omega, this]
          · have := Int.mul_pos a b; simp [show ¬ x < 0 by omega, show ¬ y < 0 by omega]; omega) w
theorem mul_rng {x y : Int} (hx : InR x) (hy : InR y) : (x * y).natAbs ≤ 2 ^ 126 := by
  rw [Int.natAbs_mul]
  have h1 : x.natAbs ≤ 2 ^ 63 := by unfold InR at hx; omega
  have h2 : y.natAbs ≤ 2 ^ 63 := by unfold InR at hy; omega
  exact Nat.le_trans (Nat.mul_le_mul h1 h2) (by rw [← Nat.pow_add]; exact Nat.le_refl _)

set_option maxHeartbeats 4000000 in
set_option maxRecDepth 100000 in
theorem refMul_c (x y : Int) (hx : InR x) (hy : InR y) (w : World) :
    Calls Try.prog 39 #[.int .i64 x, .int .i64 y] w fun e w' => e = .returned (.tuple #[.int .i64 (tv (x * y)), .int .i64 (te (x * y))]) ∧ Below w.heap.size w w' := by
  have Hx := Lib.hid hx
  have Hy := Lib.hid hy
  have H3 : Hid ((x * y).natAbs < 2 ^ 136) := by show _ < _; have := mul_rng hx hy; omega
  clear hx hy
  go_enter Try.func39, Try.ntmps39
  go_wp2_with fail
  ((with_reducible refine (Of_z x Hx.out _).mono ?_); rintro e w1 ⟨rfl, hb1⟩)
  go_wp2_with fail
  ((with_reducible refine (Of_z y Hy.out _).mono ?_); rintro e w2 ⟨rfl, hb2⟩)
  go_wp2_with fail
  ((with_reducible refine (Times_z x y Hx.out Hy.out _).mono ?_); rintro e w3 ⟨rfl, hb3⟩)
  go_wp2_with fail
  ((with_reducible refine (told_c (x * y) H3.out _).mono ?_); rintro e w4 ⟨rfl, hb4⟩)
  have hB : Below w.heap.size w w4 := ((hb1.trans (hb2.mono hb1.size)).trans (hb3.mono (Nat.le_trans hb1.size hb2.size))).trans (hb4.mono (Nat.le_trans hb1.size (Nat.le_trans hb2.size hb3.size)))
  clear hb1 hb2 hb3 hb4
  go_wp2_with fail
  go_ret2
  first | exact ⟨rfl, hB⟩ | exact hB
end Go.Proofs.Ytpegkojcemggaaa
