/- purse: a till's cells in memory: loads, stores and results of many cells at once. -/
import Derived.Test.YtpegkojcemggaabPuP
import Derived.Test.YtpegkojcemggaabCoS
import Derived.Deep.MidRow
import Derived.Deep.RegionHeld3
import Derived.Deep.RegionLaw
import Derived.Deep.RegionWith
namespace Go.Proofs.Ytpegkojcemggaab
open Go.RowKit

def TL (z : Ti) : List Value := (List.range 49).map fun i => .int .i64 (z i)
def TC (z : Ti) : Array Value := (TL z).toArray
def PL (z : Ti) : List Value := (List.range 48).map fun i => .int .i64 (z i)
def UL (z : Ti) (a : Nat) : List Value := [.int .i64 (z (6 * a)), .int .i64 (z (6 * a + 1)), .int .i64 (z (6 * a + 2)), .int .i64 (z (6 * a + 3)), .int .i64 (z (6 * a + 4)), .int .i64 (z (6 * a + 5))]
/-- A purse's cells. -/
abbrev UC (z : Ti) (a : Nat) : Array Value := #[.int .i64 (z (6 * a)), .int .i64 (z (6 * a + 1)), .int .i64 (z (6 * a + 2)), .int .i64 (z (6 * a + 3)), .int .i64 (z (6 * a + 4)), .int .i64 (z (6 * a + 5))]
def zT : Ti := fun _ => 0
theorem TL_len (z : Ti) : (TL z).length = 49 := by simp [TL]
theorem TC_size (z : Ti) : (TC z).size = 49 := by simp [TC, TL]
theorem TC_get (z : Ti) {k : Nat} (h : k < 49) : (TC z)[k]? = some (.int .i64 (z k)) := by simp [TC, TL, h]
theorem TC_none (z : Ti) {k : Nat} (h : ¬ k < 49) : (TC z)[k]? = none := by simp [TC, TL]; omega
theorem TC_ext {c : Array Value} {z : Ti} (hs : c.size = 49) (h : ∀ k, k < 49 → c[k]? = some (.int .i64 (z k))) : c = TC z := by
  apply Array.ext_getElem?
  intro i
  by_cases hi : i < 49
  · rw [h i hi, TC_get z hi]
  · rw [TC_none z hi, Array.getElem?_eq_none (by omega)]
theorem TC_set (z : Ti) (k : Nat) (v : Int) (hk : k < 49) : (TC z).setIfInBounds k (.int .i64 v) = TC (put z k v) := by
  refine TC_ext (by simp [TC_size]) fun j hj => ?_
  rw [Array.getElem?_setIfInBounds]
  by_cases e : k = j
  · subst e; rw [if_pos rfl, if_pos (by rw [TC_size]; exact hk), put_same]
  · rw [if_neg e, TC_get z hj, put_other _ _ _ _ (fun h => e h.symm)]
theorem TC_one (z : Ti) : (TC z).all (·.oneCell') = true := by
  rw [Array.all_eq_true_iff_forall_mem]
  intro v hv
  simp only [TC, TL, List.mem_toArray, List.mem_map] at hv
  obtain ⟨i, _, rfl⟩ := hv
  rfl
theorem till_cell {w : World} {g k : Nat} {z : Ti} {t : TypeId} (h : w.heap[g]? = some (.cells (TC z) t (0, 0))) (hk : k < 49) : w.cell? ⟨g, k, none⟩ = some (.int .i64 (z k)) := by
  rw [cell_of_row _ _ _ _ _ _ h, TC_get z hk]
theorem till_set {w : World} {g k : Nat} {z : Ti} {v : Int} {t : TypeId} (h : w.heap[g]? = some (.cells (TC z) t (0, 0))) (hk : k < 49) : (w.setCell ⟨g, k, none⟩ (.int .i64 v)).heap[g]? = some (.cells (TC (put z k v)) t (0, 0)) := by
  rw [heap_setCell_same _ _ _ _ _ _ h, TC_set z k v hk]
theorem till_range {w : World} {g : Nat} {z : Ti} {t : TypeId} (h : w.heap[g]? = some (.cells (TC z) t (0, 0))) : w.rangeAt g 0 (PL z) := by
  intro j v hv
  have hj : j < 48 := by
    rcases Nat.lt_or_ge j 48 with h' | h'
    · exact h'
    · rw [List.getElem?_eq_none (by simp [PL]; omega)] at hv; cases hv
  simp only [PL, List.getElem?_map, List.getElem?_range hj, Option.map_some] at hv
  injection hv with hv
  rw [← hv, Nat.zero_add]
  exact till_cell h (by omega)
theorem till_purse {w : World} {g a o : Nat} {z : Ti} {t : TypeId} (h : w.heap[g]? = some (.cells (TC z) t (0, 0))) (ha : a < 8) (ho : o = 6 * a) : w.rangeAt g o (UL z a) := by
  subst ho
  intro j v hv
  match j, hv with
  | 0, hv | 1, hv | 2, hv | 3, hv | 4, hv | 5, hv => (injection hv with hv; rw [← hv]; exact till_cell h (by omega))

section
variable {ops : Array Oper} {rest : List Oper} {o : Oper} {a : Act} {w : World} {Q : Exit → Act → World → Prop}
theorem zeroP (w : World) : (zeroValue 26).run Try.prog w = .ok (.agg (TC zT)) w := by kernel_rfl
theorem zeroR (w : World) : (zeroValue 30).run Try.prog w = .ok (.agg (TC zT)) w := by kernel_rfl
theorem infoP (z : Ti) : (Try.prog.info? 26).map (·.size) = some (TC z).size := by rw [TC_size]; kernel_rfl
theorem infoR (z : Ti) : (Try.prog.info? 30).map (·.size) = some (TC z).size := by rw [TC_size]; kernel_rfl
theorem infoPs (z : Ti) : (Try.prog.info? 24).map (·.size) = some (PL z).length := by rw [show (PL z).length = 48 by simp [PL]]; kernel_rfl
theorem infoPu (z : Ti) (a : Nat) : (Try.prog.info? 23).map (·.size) = some (UL z a).length := by rw [show (UL z a).length = 6 from rfl]; kernel_rfl
theorem infoRu (z : Ti) (a : Nat) : (Try.prog.info? 27).map (·.size) = some (UL z a).length := by rw [show (UL z a).length = 6 from rfl]; kernel_rfl
theorem loadP (hgd : Region.wanted o (yielded ops a.tmps) = true) (x : Operand) (ho : o.op = .load 26 x) (g : Nat) (hx : a.eval x = .pointer (some ⟨g, 0, none⟩)) (z : Ti) (t : TypeId)
    (hg : w.heap[g]? = some (.cells (TC z) t (0, 0))) (h : wpList Try.prog ops Q rest (a.put o.dst (.agg (TC z))) w) : wpList Try.prog ops Q (o :: rest) a w :=
  BigFrame.wpList_want hgd fun _ hK => wp_load_row _ x ho g hx _ _ (0, 0) _ hg Try.underlying26 rfl (infoP z) (hK _ _ h)
theorem loadR (hgd : Region.wanted o (yielded ops a.tmps) = true) (x : Operand) (ho : o.op = .load 30 x) (g : Nat) (hx : a.eval x = .pointer (some ⟨g, 0, none⟩)) (z : Ti) (t : TypeId)
    (hg : w.heap[g]? = some (.cells (TC z) t (0, 0))) (h : wpList Try.prog ops Q rest (a.put o.dst (.agg (TC z))) w) : wpList Try.prog ops Q (o :: rest) a w :=
  BigFrame.wpList_want hgd fun _ hK => wp_load_row _ x ho g hx _ _ (0, 0) _ hg Try.underlying30 rfl (infoR z) (hK _ _ h)
theorem loadPs (hgd : Region.wanted o (yielded ops a.tmps) = true) (x : Operand) (ho : o.op = .load 24 x) (g : Nat) (hx : a.eval x = .pointer (some ⟨g, 0, none⟩)) (z : Ti) (t : TypeId)
    (hg : w.heap[g]? = some (.cells (TC z) t (0, 0))) (h : wpList Try.prog ops Q rest (a.put o.dst (.agg (PL z).toArray)) w) : wpList Try.prog ops Q (o :: rest) a w :=
  BigFrame.wpList_want hgd fun _ hK => wp_load_mid _ x ho g 0 hx (PL z) _ (till_range hg) Try.underlying24 rfl (infoPs z) (hK _ _ h)
theorem loadPu (hgd : Region.wanted o (yielded ops a.tmps) = true) (x : Operand) (ho : o.op = .load 23 x) (g f : Nat) (hx : a.eval x = .pointer (some ⟨g, f, none⟩)) (z : Ti) (t : TypeId)
    (hg : w.heap[g]? = some (.cells (TC z) t (0, 0))) (k : Nat) (hk : k < 8) (hf : f = 6 * k) (h : wpList Try.prog ops Q rest (a.put o.dst (.agg (UC z k))) w) : wpList Try.prog ops Q (o :: rest) a w :=
  BigFrame.wpList_want hgd fun _ hK => wp_load_mid _ x ho g f hx (UL z k) _ (till_purse hg hk hf) Try.underlying23 rfl (infoPu z k) (hK _ _ h)
theorem storeP (hgd : Region.wanted o (yielded ops a.tmps) = true) (x y : Operand) (ho : o.op = .store 26 x y) (g : Nat) (z : Ti) (hx : a.eval x = .pointer (some ⟨g, 0, none⟩)) (hy : a.eval y = .agg (TC z)) (z' : Ti) (t : TypeId)
    (hg : w.heap[g]? = some (.cells (TC z') t (0, 0))) (h : wpList Try.prog ops Q rest (a.put o.dst undef) (w.setRow g (TC z))) : wpList Try.prog ops Q (o :: rest) a w :=
  BigFrame.wpList_want hgd fun _ hK => wp_store_row _ x y ho g _ hx hy _ _ hg (infoP z) (by rw [TC_size, TC_size]) (TC_one z) (hK _ _ h)
theorem storeR (hgd : Region.wanted o (yielded ops a.tmps) = true) (x y : Operand) (ho : o.op = .store 30 x y) (g : Nat) (z : Ti) (hx : a.eval x = .pointer (some ⟨g, 0, none⟩)) (hy : a.eval y = .agg (TC z)) (z' : Ti) (t : TypeId)
    (hg : w.heap[g]? = some (.cells (TC z') t (0, 0))) (h : wpList Try.prog ops Q rest (a.put o.dst undef) (w.setRow g (TC z))) : wpList Try.prog ops Q (o :: rest) a w :=
  BigFrame.wpList_want hgd fun _ hK => wp_store_row _ x y ho g _ hx hy _ _ hg (infoR z) (by rw [TC_size, TC_size]) (TC_one z) (hK _ _ h)
theorem retP {fn : Func} {p : Tmp} (h : fn.results = #[.cell p 26]) (tmps : Array Value) (w : World) (g : Nat) (hp : tmps.getD p undef = .pointer (some ⟨g, 0, none⟩)) (z : Ti) (t : TypeId)
    (hg : w.heap[g]? = some (.cells (TC z) t (0, 0))) : (results fn tmps).run Try.prog w = .ok (.agg (TC z)) w :=
  results_cell_row h tmps w g _ _ (0, 0) _ hp hg Try.underlying26 rfl (infoP z)
theorem retR {fn : Func} {p : Tmp} (h : fn.results = #[.cell p 30]) (tmps : Array Value) (w : World) (g : Nat) (hp : tmps.getD p undef = .pointer (some ⟨g, 0, none⟩)) (z : Ti) (t : TypeId)
    (hg : w.heap[g]? = some (.cells (TC z) t (0, 0))) : (results fn tmps).run Try.prog w = .ok (.agg (TC z)) w :=
  results_cell_row h tmps w g _ _ (0, 0) _ hp hg Try.underlying30 rfl (infoR z)
theorem retP2 {fn : Func} {p q : Tmp} (h : fn.results = #[.cell p 26, .tmp q]) (tmps : Array Value) (w : World) (g : Nat) (hp : tmps.getD p undef = .pointer (some ⟨g, 0, none⟩)) (z : Ti) (t : TypeId)
    (hg : w.heap[g]? = some (.cells (TC z) t (0, 0))) (v : Value) (hq : tmps.getD q undef = v) : (results fn tmps).run Try.prog w = .ok (.tuple #[.agg (TC z), v]) w := by
  have hp' : tmps[p]?.getD undef = .pointer (some ⟨g, 0, none⟩) := by simpa using hp
  have hq' : tmps[q]?.getD undef = v := by simpa using hq
  simp [results, h, hp', hq', asAddr, run_loadVar_row w g _ _ _ (0, 0) _ hg Try.underlying26 rfl (infoP z)]
theorem retR2 {fn : Func} {p q : Tmp} (h : fn.results = #[.cell p 30, .tmp q]) (tmps : Array Value) (w : World) (g : Nat) (hp : tmps.getD p undef = .pointer (some ⟨g, 0, none⟩)) (z : Ti) (t : TypeId)
    (hg : w.heap[g]? = some (.cells (TC z) t (0, 0))) (v : Value) (hq : tmps.getD q undef = v) : (results fn tmps).run Try.prog w = .ok (.tuple #[.agg (TC z), v]) w := by
  have hp' : tmps[p]?.getD undef = .pointer (some ⟨g, 0, none⟩) := by simpa using hp
  have hq' : tmps[q]?.getD undef = v := by simpa using hq
  simp [results, h, hp', hq', asAddr, run_loadVar_row w g _ _ _ (0, 0) _ hg Try.underlying30 rfl (infoR z)]
theorem retP3 {fn : Func} {p q r : Tmp} (h : fn.results = #[.cell p 26, .tmp q, .tmp r]) (tmps : Array Value) (w : World) (g : Nat) (hp : tmps.getD p undef = .pointer (some ⟨g, 0, none⟩)) (z : Ti) (t : TypeId)
    (hg : w.heap[g]? = some (.cells (TC z) t (0, 0))) (v : Value) (hq : tmps.getD q undef = v) (u : Value) (hr : tmps.getD r undef = u) : (results fn tmps).run Try.prog w = .ok (.tuple #[.agg (TC z), v, u]) w := by
  have hp' : tmps[p]?.getD undef = .pointer (some ⟨g, 0, none⟩) := by simpa using hp
  have hq' : tmps[q]?.getD undef = v := by simpa using hq
  have hr' : tmps[r]?.getD undef = u := by simpa using hr
  simp [results, h, hp', hq', hr', asAddr, run_loadVar_row w g _ _ _ (0, 0) _ hg Try.underlying26 rfl (infoP z)]
theorem retR3 {fn : Func} {p q r : Tmp} (h : fn.results = #[.cell p 30, .tmp q, .tmp r]) (tmps : Array Value) (w : World) (g : Nat) (hp : tmps.getD p undef = .pointer (some ⟨g, 0, none⟩)) (z : Ti) (t : TypeId)
    (hg : w.heap[g]? = some (.cells (TC z) t (0, 0))) (v : Value) (hq : tmps.getD q undef = v) (u : Value) (hr : tmps.getD r undef = u) : (results fn tmps).run Try.prog w = .ok (.tuple #[.agg (TC z), v, u]) w := by
  have hp' : tmps[p]?.getD undef = .pointer (some ⟨g, 0, none⟩) := by simpa using hp
  have hq' : tmps[q]?.getD undef = v := by simpa using hq
  have hr' : tmps[r]?.getD undef = u := by simpa using hr
  simp [results, h, hp', hq', hr', asAddr, run_loadVar_row w g _ _ _ (0, 0) _ hg Try.underlying30 rfl (infoR z)]
end
end Go.Proofs.Ytpegkojcemggaab
