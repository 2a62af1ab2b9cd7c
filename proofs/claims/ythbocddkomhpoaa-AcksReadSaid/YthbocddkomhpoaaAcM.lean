/- acks: a table's cells in memory: loads, stores and results of all of them. -/
import Derived.Test.YthbocddkomhpoaaAcP
import Derived.Laws.BitsAllLaws
import Derived.Deep.MidRow
import Derived.Deep.RegionHeld3
import Derived.Deep.RegionLaw
import Derived.Deep.RegionWith
import Derived.Deep.DeepCutAuto
import Derived.Deep.CutBlock
import Derived.BigQuiet
namespace Go.Proofs.Ythbocddkomhpoaa
open Go.RowKit

theorem heap_last {w : World} {o : Obj} {n : Nat} (h : n = w.heap.size) : (w.alloc o).heap[n]? = some o := by subst h; exact heap_alloc_new w o
theorem heap_prev {w : World} {o p : Obj} {n : Nat} (h : n < w.heap.size) (hp : w.heap[n]? = some p) : (w.alloc o).heap[n]? = some p := (heap_alloc_old (w := w) (o := o) h).trans hp
theorem drew_heap {w : World} {g : Nat} {p : Obj} (h : w.heap[g]? = some p) : w.drew.heap[g]? = some p := h
theorem drewN_heap {w : World} {g n : Nat} {p : Obj} (h : w.heap[g]? = some p) : (w.drewN n).heap[g]? = some p := h
theorem below_drewN {B : Nat} {a w : World} (h : Below B a w) (n : Nat) : Below B a (w.drewN n) := ⟨h.os, h.tape, h.output, h.size, h.block⟩
theorem sign_other {w : World} {g : Nat} {a : Addr} {v : Value} {p : Obj} (hne : g ≠ a.block) (h : w.heap[g]? = some p) : (w.setCell a v).heap[g]? = some p := by
  rw [heap_setCell_other _ _ _ _ hne]; exact h
theorem row_heap {w : World} {g : Nat} {c c' : Array Value} {t : TypeId} (h : w.heap[g]? = some (.cells c t (0, 0))) : (w.setRow g c').heap[g]? = some (.cells c' t (0, 0)) := setRow_heap w g c c' t _ h
theorem row_other {w : World} {g k : Nat} {c' : Array Value} {p : Obj} (hne : k ≠ g) (h : w.heap[k]? = some p) : (w.setRow g c').heap[k]? = some p := by rw [setRow_other w g k c' hne]; exact h
theorem Below.row {B g : Nat} {w0 w : World} (hb : Below B w0 w) (hBg : B ≤ g) (cs : Array Value) : Below B w0 (w.setRow g cs) :=
  hb.trans ⟨rfl, rfl, rfl, by simp [World.setRow], fun k hk => setRow_other w g k cs (by omega)⟩
def ceA (z : Ta) (k : Nat) : Value := if k = 0 then .int .i64 (z 0 : Int) else .int .u64 (z k : Int)
def AL (z : Ta) : List Value := (List.range 8).map (ceA z)
def AC (z : Ta) : Array Value := (AL z).toArray
theorem AL_len (z : Ta) : (AL z).length = 8 := by simp [AL]
theorem AC_size (z : Ta) : (AC z).size = 8 := by simp [AC, AL]
theorem AC_get (z : Ta) {k : Nat} (h : k < 8) : (AC z)[k]? = some (ceA z k) := by simp [AC, AL, h]
theorem AC_none (z : Ta) {k : Nat} (h : ¬ k < 8) : (AC z)[k]? = none := by simp [AC, AL]; omega
theorem AC_ext {c : Array Value} {z : Ta} (hs : c.size = 8) (h : ∀ k, k < 8 → c[k]? = some (ceA z k)) : c = AC z := by
  apply Array.ext_getElem?
  intro i
  by_cases hi : i < 8
  · rw [h i hi, AC_get z hi]
  · rw [AC_none z hi, Array.getElem?_eq_none (by omega)]
theorem AC_set (z : Ta) (k v : Nat) (hk : k < 7) : (AC z).setIfInBounds (k + 1) (.int .u64 (v : Int)) = AC (updA z (k + 1) v) := by
  refine AC_ext (by simp [AC_size]) fun j hj => ?_
  rw [Array.getElem?_setIfInBounds]
  by_cases e : k + 1 = j
  · subst e; rw [if_pos rfl, if_pos (by rw [AC_size]; omega)]
    unfold ceA; rw [if_neg (by omega), updA_same]
  · rw [if_neg e, AC_get z hj]
    unfold ceA
    by_cases h0 : j = 0
    · rw [if_pos h0, if_pos h0, updA_other _ _ _ _ (by omega)]
    · rw [if_neg h0, if_neg h0, updA_other _ _ _ _ (by omega)]
theorem AC_one (z : Ta) : (AC z).all (·.oneCell') = true := by
  rw [Array.all_eq_true_iff_forall_mem]
  intro v hv
  simp only [AC, AL, List.mem_toArray, List.mem_map] at hv
  obtain ⟨i, _, rfl⟩ := hv
  unfold ceA; split <;> rfl
theorem AC_new (n : Nat) : AC (newA n) = #[.int .i64 (n : Int), .int .u64 0, .int .u64 0, .int .u64 0, .int .u64 0, .int .u64 0, .int .u64 0, .int .u64 0] := by
  symm
  refine AC_ext rfl fun k hk => ?_
  match k, hk with
  | 0, _ | 1, _ | 2, _ | 3, _ | 4, _ | 5, _ | 6, _ | 7, _ => rfl
theorem AC_zero : AC zA = #[.int .i64 0, .int .u64 0, .int .u64 0, .int .u64 0, .int .u64 0, .int .u64 0, .int .u64 0, .int .u64 0] := by
  symm
  refine AC_ext rfl fun k hk => ?_
  match k, hk with
  | 0, _ | 1, _ | 2, _ | 3, _ | 4, _ | 5, _ | 6, _ | 7, _ => rfl
theorem tab_n {w : World} {g : Nat} {z : Ta} {t : TypeId} (h : w.heap[g]? = some (.cells (AC z) t (0, 0))) : w.cell? ⟨g, 0, none⟩ = some (.int .i64 (z 0 : Int)) := by
  rw [cell_of_row _ _ _ _ _ _ h, AC_get z (by omega)]; rfl
theorem tab_cell {w : World} {g k : Nat} {z : Ta} {t : TypeId} (h : w.heap[g]? = some (.cells (AC z) t (0, 0))) (hk : k < 7) : w.cell? ⟨g, k + 1, none⟩ = some (.int .u64 (z (k + 1) : Int)) := by
  rw [cell_of_row _ _ _ _ _ _ h, AC_get z (by omega)]; unfold ceA; rw [if_neg (by omega)]
theorem tab_cell' {w : World} {g k : Nat} {z : Ta} {t : TypeId} (h : w.heap[g]? = some (.cells (AC z) t (0, 0))) (hk : k < 7) : w.cell? ⟨g, 1 + k, none⟩ = some (.int .u64 (z (k + 1) : Int)) := by
  rw [Nat.add_comm]; exact tab_cell h hk
theorem tab_set {w : World} {g k v : Nat} {z : Ta} {t : TypeId} (h : w.heap[g]? = some (.cells (AC z) t (0, 0))) (hk : k < 7) : (w.setCell ⟨g, k + 1, none⟩ (.int .u64 (v : Int))).heap[g]? = some (.cells (AC (updA z (k + 1) v)) t (0, 0)) := by
  rw [heap_setCell_same _ _ _ _ _ _ h, AC_set z k v hk]
theorem tab_set' {w : World} {g k v : Nat} {z : Ta} {t : TypeId} (h : w.heap[g]? = some (.cells (AC z) t (0, 0))) (hk : k < 7) : (w.setCell ⟨g, 1 + k, none⟩ (.int .u64 (v : Int))).heap[g]? = some (.cells (AC (updA z (k + 1) v)) t (0, 0)) := by
  rw [Nat.add_comm 1 k]; exact tab_set h hk
theorem tab_frozen {w : World} {g k : Nat} {z : Ta} {t : TypeId} (h : w.heap[g]? = some (.cells (AC z) t (0, 0))) : w.frozen? ⟨g, k, none⟩ = false := by
  simp [World.frozen?, h]
theorem tab_range {w : World} {g : Nat} {z : Ta} {t : TypeId} (h : w.heap[g]? = some (.cells (AC z) t (0, 0))) : w.rangeAt g 0 (AL z) := by
  intro j v hv
  have hj : j < 8 := by
    rcases Nat.lt_or_ge j 8 with h' | h'
    · exact h'
    · rw [List.getElem?_eq_none (by rw [AL_len]; exact h')] at hv; cases hv
  rw [Nat.zero_add, cell_of_row _ _ _ _ _ _ h]
  simpa [AC] using hv

section
variable {ops : Array Oper} {rest : List Oper} {o : Oper} {a : Act} {w : World} {Q : Exit → Act → World → Prop}
theorem zeroA (w : World) : (zeroValue 27).run Try.prog w = .ok (.agg (AC zA)) w := by rw [AC_zero]; kernel_rfl
theorem infoA (z : Ta) : (Try.prog.info? 27).map (·.size) = some (AC z).size := by rw [AC_size]; kernel_rfl
theorem loadA (hgd : Region.wanted o (yielded ops a.tmps) = true) (x : Operand) (ho : o.op = .load 27 x) (g : Nat) (hx : a.eval x = .pointer (some ⟨g, 0, none⟩)) (z : Ta) (t : TypeId)
    (hg : w.heap[g]? = some (.cells (AC z) t (0, 0))) (h : wpList Try.prog ops Q rest (a.put o.dst (.agg (AC z))) w) : wpList Try.prog ops Q (o :: rest) a w :=
  BigFrame.wpList_want hgd fun _ hK => wp_load_row _ x ho g hx _ _ (0, 0) _ hg Try.underlying27 rfl (infoA z) (hK _ _ h)
theorem storeA (hgd : Region.wanted o (yielded ops a.tmps) = true) (x y : Operand) (ho : o.op = .store 27 x y) (g : Nat) (z : Ta) (hx : a.eval x = .pointer (some ⟨g, 0, none⟩)) (hy : a.eval y = .agg (AC z)) (z' : Ta) (t : TypeId)
    (hg : w.heap[g]? = some (.cells (AC z') t (0, 0))) (h : wpList Try.prog ops Q rest (a.put o.dst undef) (w.setRow g (AC z))) : wpList Try.prog ops Q (o :: rest) a w :=
  BigFrame.wpList_want hgd fun _ hK => wp_store_row _ x y ho g _ hx hy _ _ hg (infoA z) (by rw [AC_size, AC_size]) (AC_one z) (hK _ _ h)
theorem retA {fn : Func} {p : Tmp} (h : fn.results = #[.cell p 27]) (tmps : Array Value) (w : World) (g : Nat) (hp : tmps.getD p undef = .pointer (some ⟨g, 0, none⟩)) (z : Ta) (t : TypeId)
    (hg : w.heap[g]? = some (.cells (AC z) t (0, 0))) : (results fn tmps).run Try.prog w = .ok (.agg (AC z)) w :=
  results_cell_row h tmps w g _ _ (0, 0) _ hp hg Try.underlying27 rfl (infoA z)
theorem retA2 {fn : Func} {p q : Tmp} (h : fn.results = #[.cell p 27, .tmp q]) (tmps : Array Value) (w : World) (g : Nat) (hp : tmps.getD p undef = .pointer (some ⟨g, 0, none⟩)) (z : Ta) (t : TypeId)
    (hg : w.heap[g]? = some (.cells (AC z) t (0, 0))) (v : Value) (hq : tmps.getD q undef = v) : (results fn tmps).run Try.prog w = .ok (.tuple #[.agg (AC z), v]) w := by
  have hp' : tmps[p]?.getD undef = .pointer (some ⟨g, 0, none⟩) := by simpa using hp
  have hq' : tmps[q]?.getD undef = v := by simpa using hq
  simp [results, h, hp', hq', asAddr, run_loadVar_row w g _ _ _ (0, 0) _ hg Try.underlying27 rfl (infoA z)]
theorem yieldA {S : World → Prop} (hw : Region.wanted o (yielded ops a.tmps) = true) (x : Operand) (ho : o.op = .load 27 x)
    (g : Nat) (hx : a.eval x = .pointer (some ⟨g, 0, none⟩)) (z : Ta) (t : TypeId) (hS : ∀ w, S w → w.heap[g]? = some (.cells (AC z) t (0, 0))) : YieldsIf Try.prog ops S o (.agg (AC z)) a :=
  yieldsIf_load_mid hw _ x ho g 0 hx (AL z) _ (fun w hSw => tab_range (hS w hSw)) Try.underlying27 rfl (by rw [AL_len]; kernel_rfl)
end
theorem pow_wrap {m : Nat} (h : m < 32) : IntKind.u64.wrap ((2 : Int) ^ m) = (2 : Int) ^ m := by
  have h1 : 2 ^ m < 4294967296 := by
    rw [show 4294967296 = 2 ^ 32 by decide]
    exact Nat.pow_lt_pow_right (by omega) h
  have hp : (2 : Int) ^ m = ((2 ^ m : Nat) : Int) := by simp
  rw [hp]
  generalize 2 ^ m = x at *
  exact IntWalk.u64_in _ (by omega)
set_option maxHeartbeats 4000000 in
set_option maxRecDepth 100000 in
theorem aBit_c (v : Int) (w : World) :
    Calls Try.prog 15 #[.int .i64 v] w fun e w' => e = .returned (.int .u64 (bitN v : Int)) ∧ w' = w := by
  by_cases h1 : v < 1
  · rw [bitN_no (by omega)]
    go_enter Try.func15, Try.ntmps15
    go_wp2_with fail
    go_ret
    exact ⟨rfl, rfl⟩
  by_cases h2 : v > 32
  · rw [bitN_no (by omega)]
    go_enter Try.func15, Try.ntmps15
    go_wp2_with fail
    go_ret
    exact ⟨rfl, rfl⟩
  obtain ⟨m, hm, rfl⟩ : ∃ m : Nat, m < 32 ∧ v = (m : Int) + 1 := ⟨(v - 1).toNat, by omega, by omega⟩
  rw [bitN_at hm]
  have hw := pow_wrap hm
  go_enter Try.func15, Try.ntmps15
  go_wp2_with fail
  go_ret
  exact ⟨by simp, rfl⟩
set_option maxHeartbeats 4000000 in
set_option maxRecDepth 100000 in
theorem there_c (z : Ta) (r : Int) (w : World) :
    Calls Try.prog 27 #[.agg (AC z), .int .i64 r] w fun e w' => e = .returned (.bool (thereA z r)) ∧ Below w.heap.size w w' := by
  have c0 := tab_n (heap_alloc_new w (.cells (AC z) 27 (0, 0)))
  by_cases h1 : 0 ≤ r
  · by_cases h2 : r < (z 0 : Int)
    · rw [show thereA z r = true by unfold thereA; rw [decide_eq_true_iff]; exact ⟨h1, h2⟩]
      go_enter Try.func27, Try.ntmps27
      go_wp2_with fail
      go_ret
      exact ⟨rfl, by (focus ((repeat' (first | (with_reducible exact Below.refl _ _) | (with_reducible assumption) | (with_reducible refine Below.alloc ?_ ?_ _) | (with_reducible refine Below.setCell ?_ ?_ _) | (with_reducible refine Below.row ?_ ?_ _) | (with_reducible refine Below.drew ?_) | (with_reducible refine below_drewN ?_ _) | (focus (first | (simp; done) | omega | (simp; omega))))); done))⟩
    · rw [show thereA z r = false by unfold thereA; rw [decide_eq_false_iff_not]; exact fun h => h2 h.2]
      go_enter Try.func27, Try.ntmps27
      go_wp2_with fail
      go_ret
      exact ⟨rfl, by (focus ((repeat' (first | (with_reducible exact Below.refl _ _) | (with_reducible assumption) | (with_reducible refine Below.alloc ?_ ?_ _) | (with_reducible refine Below.setCell ?_ ?_ _) | (with_reducible refine Below.row ?_ ?_ _) | (with_reducible refine Below.drew ?_) | (with_reducible refine below_drewN ?_ _) | (focus (first | (simp; done) | omega | (simp; omega))))); done))⟩
  · rw [show thereA z r = false by unfold thereA; rw [decide_eq_false_iff_not]; exact fun h => h1 h.1]
    go_enter Try.func27, Try.ntmps27
    go_wp2_with fail
    go_ret
    exact ⟨rfl, by (focus ((repeat' (first | (with_reducible exact Below.refl _ _) | (with_reducible assumption) | (with_reducible refine Below.alloc ?_ ?_ _) | (with_reducible refine Below.setCell ?_ ?_ _) | (with_reducible refine Below.row ?_ ?_ _) | (with_reducible refine Below.drew ?_) | (with_reducible refine below_drewN ?_ _) | (focus (first | (simp; done) | omega | (simp; omega))))); done))⟩
set_option maxHeartbeats 4000000 in
set_option maxRecDepth 100000 in
theorem of_c (z : Ta) (hz : Tb z) (r : Int) (w : World) :
    Calls Try.prog 30 #[.agg (AC z), .int .i64 r] w fun e w' => e = .returned (.int .u64 (ofA z r : Int)) ∧ Below w.heap.size w w' := by
  have HT := Lib.hid (there_c z r)
  by_cases h : 0 ≤ r ∧ r < (z 0 : Int)
  · rw [show ofA z r = z (r.toNat + 1) by unfold ofA; rw [if_pos h]]
    rw [show thereA z r = true by unfold thereA; rw [decide_eq_true_iff]; exact h] at HT
    have h7 := hz.n
    obtain ⟨k, hk, rfl⟩ : ∃ k : Nat, k < 7 ∧ r = (k : Int) := ⟨r.toNat, by omega, by omega⟩
    have hk7 : (k : Int) < 7 := by omega
    clear h h7 hz
    go_enter Try.func30, Try.ntmps30
    go_wp2_with (first | ((with_reducible apply loadA); rfl; rfl; rfl; (focus ((repeat' (first | (with_reducible assumption) | ((with_reducible refine heap_last ?_); (focus (first | (simp; done) | omega | (simp; omega)))) | ((with_reducible refine heap_prev ?_ ?_); (focus (first | (simp; done) | omega | (simp; omega)))) | (with_reducible apply row_heap) | ((with_reducible apply tab_set); (focus (first | (simp; done) | omega | (simp; omega)))) | ((with_reducible refine sign_other ?_ ?_); (focus (first | (simp; done) | omega | (simp; omega)))) | ((with_reducible refine row_other ?_ ?_); (focus (first | (simp; done) | omega | (simp; omega)))) | (with_reducible refine drew_heap ?_) | (with_reducible refine drewN_heap ?_))); done)); skip) | ((with_reducible refine (HT.out _).mono ?_); rintro e w1 ⟨rfl, b1⟩; have p1 : w1.heap[w.heap.size]? = some (.cells (AC z) 27 (0, 0)) := (by rw [b1.block _ (by (focus (first | (simp; done) | omega | (simp; omega))))]; (focus ((repeat' (first | (with_reducible assumption) | ((with_reducible refine heap_last ?_); (focus (first | (simp; done) | omega | (simp; omega)))) | ((with_reducible refine heap_prev ?_ ?_); (focus (first | (simp; done) | omega | (simp; omega)))) | (with_reducible apply row_heap) | ((with_reducible apply tab_set); (focus (first | (simp; done) | omega | (simp; omega)))) | ((with_reducible refine sign_other ?_ ?_); (focus (first | (simp; done) | omega | (simp; omega)))) | ((with_reducible refine row_other ?_ ?_); (focus (first | (simp; done) | omega | (simp; omega)))) | (with_reducible refine drew_heap ?_) | (with_reducible refine drewN_heap ?_))); done))); have c1 := tab_cell p1 hk; have c2 := tab_cell' p1 hk))
    go_ret
    exact ⟨by simp, Below.trans (by (focus ((repeat' (first | (with_reducible exact Below.refl _ _) | (with_reducible assumption) | (with_reducible refine Below.alloc ?_ ?_ _) | (with_reducible refine Below.setCell ?_ ?_ _) | (with_reducible refine Below.row ?_ ?_ _) | (with_reducible refine Below.drew ?_) | (with_reducible refine below_drewN ?_ _) | (focus (first | (simp; done) | omega | (simp; omega))))); done))) (b1.mono (by (focus (first | (simp; done) | omega | (simp; omega)))))⟩
  · rw [show ofA z r = 0 by unfold ofA; rw [if_neg h]]
    rw [show thereA z r = false by unfold thereA; rw [decide_eq_false_iff_not]; exact h] at HT
    clear h
    go_enter Try.func30, Try.ntmps30
    go_wp2_with (first | ((with_reducible apply loadA); rfl; rfl; rfl; (focus ((repeat' (first | (with_reducible assumption) | ((with_reducible refine heap_last ?_); (focus (first | (simp; done) | omega | (simp; omega)))) | ((with_reducible refine heap_prev ?_ ?_); (focus (first | (simp; done) | omega | (simp; omega)))) | (with_reducible apply row_heap) | ((with_reducible apply tab_set); (focus (first | (simp; done) | omega | (simp; omega)))) | ((with_reducible refine sign_other ?_ ?_); (focus (first | (simp; done) | omega | (simp; omega)))) | ((with_reducible refine row_other ?_ ?_); (focus (first | (simp; done) | omega | (simp; omega)))) | (with_reducible refine drew_heap ?_) | (with_reducible refine drewN_heap ?_))); done)); skip) | ((with_reducible refine (HT.out _).mono ?_); rintro e w1 ⟨rfl, b1⟩))
    go_ret
    exact ⟨rfl, Below.trans (by (focus ((repeat' (first | (with_reducible exact Below.refl _ _) | (with_reducible assumption) | (with_reducible refine Below.alloc ?_ ?_ _) | (with_reducible refine Below.setCell ?_ ?_ _) | (with_reducible refine Below.row ?_ ?_ _) | (with_reducible refine Below.drew ?_) | (with_reducible refine below_drewN ?_ _) | (focus (first | (simp; done) | omega | (simp; omega))))); done))) (b1.mono (by (focus (first | (simp; done) | omega | (simp; omega)))))⟩
set_option maxHeartbeats 4000000 in
set_option maxRecDepth 100000 in
theorem has_c (z : Ta) (hz : Tb z) (r v : Int) (w : World) :
    Calls Try.prog 28 #[.agg (AC z), .int .i64 r, .int .i64 v] w fun e w' => e = .returned (.bool (hasA z r v)) ∧ Below w.heap.size w w' := by
  have HO := Lib.hid (of_c z hz r)
  have HB := Lib.hid (aBit_c v)
  have hx := hz.of_lt r
  have hb := bitN_lt v
  unfold hasA
  generalize ofA z r = x at *
  generalize bitN v = y at *
  have ha := u64_and_nat x y (by omega) (by omega)
  have hd : (((x &&& y : Nat) : Int) == 0) = decide (x &&& y = 0) := by
    rw [Bool.eq_iff_iff, beq_iff_eq, decide_eq_true_iff]; omega
  clear hx hb hz
  generalize x &&& y = u at *
  go_enter Try.func28, Try.ntmps28
  go_wp2_with (first | ((with_reducible apply loadA); rfl; rfl; rfl; (focus ((repeat' (first | (with_reducible assumption) | ((with_reducible refine heap_last ?_); (focus (first | (simp; done) | omega | (simp; omega)))) | ((with_reducible refine heap_prev ?_ ?_); (focus (first | (simp; done) | omega | (simp; omega)))) | (with_reducible apply row_heap) | ((with_reducible apply tab_set); (focus (first | (simp; done) | omega | (simp; omega)))) | ((with_reducible refine sign_other ?_ ?_); (focus (first | (simp; done) | omega | (simp; omega)))) | ((with_reducible refine row_other ?_ ?_); (focus (first | (simp; done) | omega | (simp; omega)))) | (with_reducible refine drew_heap ?_) | (with_reducible refine drewN_heap ?_))); done)); skip) | ((with_reducible refine (HO.out _).mono ?_); rintro e w1 ⟨rfl, b1⟩) | ((with_reducible refine (HB.out _).mono ?_); rintro e w2 ⟨rfl, rfl⟩))
  go_ret
  refine ⟨?_, Below.trans (by (focus ((repeat' (first | (with_reducible exact Below.refl _ _) | (with_reducible assumption) | (with_reducible refine Below.alloc ?_ ?_ _) | (with_reducible refine Below.setCell ?_ ?_ _) | (with_reducible refine Below.row ?_ ?_ _) | (with_reducible refine Below.drew ?_) | (with_reducible refine below_drewN ?_ _) | (focus (first | (simp; done) | omega | (simp; omega))))); done))) (b1.mono (by (focus (first | (simp; done) | omega | (simp; omega)))))⟩
  rw [show ((u : Int) != 0) = decide (u ≠ 0) by rw [bne, hd, decide_not]]
  rfl
set_option maxHeartbeats 4000000 in
set_option maxRecDepth 100000 in
theorem new_c (n : Int) (w : World) :
    Calls Try.prog 7 #[.int .i64 n] w fun e w' => e = .returned (.tuple #[.agg (AC (if 1 ≤ n ∧ n ≤ 7 then newA n.toNat else zA)), .int .i64 (if 1 ≤ n ∧ n ≤ 7 then 0 else 2)]) ∧ Below w.heap.size w w' := by
  by_cases h : 1 ≤ n ∧ n ≤ 7
  · rw [if_pos h, if_pos h]
    obtain ⟨k, rfl⟩ : ∃ k : Nat, n = (k : Int) := ⟨n.toNat, by omega⟩
    have e : ((k : Int).toNat) = k := by omega
    rw [e]
    go_enter Try.func7, Try.ntmps7
    go_wp2_with fail
    refine bodyPost_ret (retA2 rfl _ _ w.heap.size rfl (newA k) 27 (by rw [AC_new]; exact heap_alloc_new w _) _ rfl) rfl ?_
    exact ⟨rfl, by (focus ((repeat' (first | (with_reducible exact Below.refl _ _) | (with_reducible assumption) | (with_reducible refine Below.alloc ?_ ?_ _) | (with_reducible refine Below.setCell ?_ ?_ _) | (with_reducible refine Below.row ?_ ?_ _) | (with_reducible refine Below.drew ?_) | (with_reducible refine below_drewN ?_ _) | (focus (first | (simp; done) | omega | (simp; omega))))); done))⟩
  · rw [if_neg h, if_neg h]
    by_cases h1 : n < 1
    · go_enter Try.func7, Try.ntmps7
      go_wp2_with fail
      refine bodyPost_ret (retA2 rfl _ _ w.heap.size rfl zA 27 (by rw [AC_zero]; exact heap_alloc_new w _) _ rfl) rfl ?_
      exact ⟨rfl, by (focus ((repeat' (first | (with_reducible exact Below.refl _ _) | (with_reducible assumption) | (with_reducible refine Below.alloc ?_ ?_ _) | (with_reducible refine Below.setCell ?_ ?_ _) | (with_reducible refine Below.row ?_ ?_ _) | (with_reducible refine Below.drew ?_) | (with_reducible refine below_drewN ?_ _) | (focus (first | (simp; done) | omega | (simp; omega))))); done))⟩
    · have h2 : n > 7 := by omega
      go_enter Try.func7, Try.ntmps7
      go_wp2_with fail
      refine bodyPost_ret (retA2 rfl _ _ w.heap.size rfl zA 27 (by rw [AC_zero]; exact heap_alloc_new w _) _ rfl) rfl ?_
      exact ⟨rfl, by (focus ((repeat' (first | (with_reducible exact Below.refl _ _) | (with_reducible assumption) | (with_reducible refine Below.alloc ?_ ?_ _) | (with_reducible refine Below.setCell ?_ ?_ _) | (with_reducible refine Below.row ?_ ?_ _) | (with_reducible refine Below.drew ?_) | (with_reducible refine below_drewN ?_ _) | (focus (first | (simp; done) | omega | (simp; omega))))); done))⟩
set_option maxHeartbeats 4000000 in
set_option maxRecDepth 100000 in
theorem repl_c (z : Ta) (w : World) :
    Calls Try.prog 8 #[.agg (AC z)] w fun e w' => e = .returned (.int .i64 (z 0 : Int)) ∧ Below w.heap.size w w' := by
  have c0 := tab_n (heap_alloc_new w (.cells (AC z) 27 (0, 0)))
  go_enter Try.func8, Try.ntmps8
  go_wp2_with fail
  go_ret
  exact ⟨rfl, by (focus ((repeat' (first | (with_reducible exact Below.refl _ _) | (with_reducible assumption) | (with_reducible refine Below.alloc ?_ ?_ _) | (with_reducible refine Below.setCell ?_ ?_ _) | (with_reducible refine Below.row ?_ ?_ _) | (with_reducible refine Below.drew ?_) | (with_reducible refine below_drewN ?_ _) | (focus (first | (simp; done) | omega | (simp; omega))))); done))⟩
set_option maxHeartbeats 4000000 in
set_option maxRecDepth 100000 in
theorem add_c (z : Ta) (hz : Tb z) (r v : Int) (w : World) :
    Calls Try.prog 12 #[.agg (AC z), .int .i64 r, .int .i64 v] w fun e w' => e = .returned (.tuple #[.agg (AC (if (0 ≤ r ∧ r < (z 0 : Int)) ∧ 1 ≤ v ∧ v ≤ 32 then addA z r v else z)), .int .i64 (if (0 ≤ r ∧ r < (z 0 : Int)) ∧ 1 ≤ v ∧ v ≤ 32 then 0 else 2)]) ∧ Below w.heap.size w w' := by
  have hzr := zeroA
  have HT := Lib.hid (there_c z r)
  have HB := Lib.hid (aBit_c v)
  by_cases h : 0 ≤ r ∧ r < (z 0 : Int)
  rotate_left
  · rw [if_neg (fun e => h e.1), if_neg (fun e => h e.1)]
    rw [show thereA z r = false by unfold thereA; rw [decide_eq_false_iff_not]; exact h] at HT
    clear h hz
    go_enter Try.func12, Try.ntmps12
    go_wp2_with (first | ((with_reducible apply loadA); rfl; rfl; rfl; (focus ((repeat' (first | (with_reducible assumption) | ((with_reducible refine heap_last ?_); (focus (first | (simp; done) | omega | (simp; omega)))) | ((with_reducible refine heap_prev ?_ ?_); (focus (first | (simp; done) | omega | (simp; omega)))) | (with_reducible apply row_heap) | ((with_reducible apply tab_set); (focus (first | (simp; done) | omega | (simp; omega)))) | ((with_reducible refine sign_other ?_ ?_); (focus (first | (simp; done) | omega | (simp; omega)))) | ((with_reducible refine row_other ?_ ?_); (focus (first | (simp; done) | omega | (simp; omega)))) | (with_reducible refine drew_heap ?_) | (with_reducible refine drewN_heap ?_))); done)); skip) | ((with_reducible apply storeA); rfl; rfl; rfl; rfl; (focus ((repeat' (first | (with_reducible assumption) | ((with_reducible refine heap_last ?_); (focus (first | (simp; done) | omega | (simp; omega)))) | ((with_reducible refine heap_prev ?_ ?_); (focus (first | (simp; done) | omega | (simp; omega)))) | (with_reducible apply row_heap) | ((with_reducible apply tab_set); (focus (first | (simp; done) | omega | (simp; omega)))) | ((with_reducible refine sign_other ?_ ?_); (focus (first | (simp; done) | omega | (simp; omega)))) | ((with_reducible refine row_other ?_ ?_); (focus (first | (simp; done) | omega | (simp; omega)))) | (with_reducible refine drew_heap ?_) | (with_reducible refine drewN_heap ?_))); done)); skip) | ((with_reducible refine (HT.out _).mono ?_); rintro e w1 ⟨rfl, b1⟩; have p1 : w1.heap[w.heap.size]? = some (.cells (AC z) 27 (0, 0)) := (by rw [b1.block _ (by (focus (first | (simp; done) | omega | (simp; omega))))]; (focus ((repeat' (first | (with_reducible assumption) | ((with_reducible refine heap_last ?_); (focus (first | (simp; done) | omega | (simp; omega)))) | ((with_reducible refine heap_prev ?_ ?_); (focus (first | (simp; done) | omega | (simp; omega)))) | (with_reducible apply row_heap) | ((with_reducible apply tab_set); (focus (first | (simp; done) | omega | (simp; omega)))) | ((with_reducible refine sign_other ?_ ?_); (focus (first | (simp; done) | omega | (simp; omega)))) | ((with_reducible refine row_other ?_ ?_); (focus (first | (simp; done) | omega | (simp; omega)))) | (with_reducible refine drew_heap ?_) | (with_reducible refine drewN_heap ?_))); done))); have p2 : w1.heap[w.heap.size + 1]? = some (.cells (AC zA) 27 (0, 0)) := (by rw [b1.block _ (by (focus (first | (simp; done) | omega | (simp; omega))))]; (focus ((repeat' (first | (with_reducible assumption) | ((with_reducible refine heap_last ?_); (focus (first | (simp; done) | omega | (simp; omega)))) | ((with_reducible refine heap_prev ?_ ?_); (focus (first | (simp; done) | omega | (simp; omega)))) | (with_reducible apply row_heap) | ((with_reducible apply tab_set); (focus (first | (simp; done) | omega | (simp; omega)))) | ((with_reducible refine sign_other ?_ ?_); (focus (first | (simp; done) | omega | (simp; omega)))) | ((with_reducible refine row_other ?_ ?_); (focus (first | (simp; done) | omega | (simp; omega)))) | (with_reducible refine drew_heap ?_) | (with_reducible refine drewN_heap ?_))); done)))))
    refine bodyPost_ret (retA2 rfl _ _ (w.heap.size + 1) rfl z 27 (by (focus ((repeat' (first | (with_reducible assumption) | ((with_reducible refine heap_last ?_); (focus (first | (simp; done) | omega | (simp; omega)))) | ((with_reducible refine heap_prev ?_ ?_); (focus (first | (simp; done) | omega | (simp; omega)))) | (with_reducible apply row_heap) | ((with_reducible apply tab_set); (focus (first | (simp; done) | omega | (simp; omega)))) | ((with_reducible refine sign_other ?_ ?_); (focus (first | (simp; done) | omega | (simp; omega)))) | ((with_reducible refine row_other ?_ ?_); (focus (first | (simp; done) | omega | (simp; omega)))) | (with_reducible refine drew_heap ?_) | (with_reducible refine drewN_heap ?_))); done))) _ rfl) rfl ?_
    have B1 : Below w.heap.size w w1 := Below.trans (by (focus ((repeat' (first | (with_reducible exact Below.refl _ _) | (with_reducible assumption) | (with_reducible refine Below.alloc ?_ ?_ _) | (with_reducible refine Below.setCell ?_ ?_ _) | (with_reducible refine Below.row ?_ ?_ _) | (with_reducible refine Below.drew ?_) | (with_reducible refine below_drewN ?_ _) | (focus (first | (simp; done) | omega | (simp; omega))))); done))) (b1.mono (by (focus (first | (simp; done) | omega | (simp; omega)))))
    exact ⟨rfl, by (focus ((repeat' (first | (with_reducible exact Below.refl _ _) | (with_reducible assumption) | (with_reducible refine Below.alloc ?_ ?_ _) | (with_reducible refine Below.setCell ?_ ?_ _) | (with_reducible refine Below.row ?_ ?_ _) | (with_reducible refine Below.drew ?_) | (with_reducible refine below_drewN ?_ _) | (focus (first | (simp; done) | omega | (simp; omega))))); done))⟩
  rw [show thereA z r = true by unfold thereA; rw [decide_eq_true_iff]; exact h] at HT
  by_cases hv : 1 ≤ v ∧ v ≤ 32
  rotate_left
  · rw [if_neg (fun e => hv e.2), if_neg (fun e => hv e.2)]
    rw [bitN_no hv] at HB
    clear h hz hv
    go_enter Try.func12, Try.ntmps12
    go_wp2_with (first | ((with_reducible apply loadA); rfl; rfl; rfl; (focus ((repeat' (first | (with_reducible assumption) | ((with_reducible refine heap_last ?_); (focus (first | (simp; done) | omega | (simp; omega)))) | ((with_reducible refine heap_prev ?_ ?_); (focus (first | (simp; done) | omega | (simp; omega)))) | (with_reducible apply row_heap) | ((with_reducible apply tab_set); (focus (first | (simp; done) | omega | (simp; omega)))) | ((with_reducible refine sign_other ?_ ?_); (focus (first | (simp; done) | omega | (simp; omega)))) | ((with_reducible refine row_other ?_ ?_); (focus (first | (simp; done) | omega | (simp; omega)))) | (with_reducible refine drew_heap ?_) | (with_reducible refine drewN_heap ?_))); done)); skip) | ((with_reducible apply storeA); rfl; rfl; rfl; rfl; (focus ((repeat' (first | (with_reducible assumption) | ((with_reducible refine heap_last ?_); (focus (first | (simp; done) | omega | (simp; omega)))) | ((with_reducible refine heap_prev ?_ ?_); (focus (first | (simp; done) | omega | (simp; omega)))) | (with_reducible apply row_heap) | ((with_reducible apply tab_set); (focus (first | (simp; done) | omega | (simp; omega)))) | ((with_reducible refine sign_other ?_ ?_); (focus (first | (simp; done) | omega | (simp; omega)))) | ((with_reducible refine row_other ?_ ?_); (focus (first | (simp; done) | omega | (simp; omega)))) | (with_reducible refine drew_heap ?_) | (with_reducible refine drewN_heap ?_))); done)); skip) | ((with_reducible refine (HT.out _).mono ?_); rintro e w1 ⟨rfl, b1⟩; have p1 : w1.heap[w.heap.size]? = some (.cells (AC z) 27 (0, 0)) := (by rw [b1.block _ (by (focus (first | (simp; done) | omega | (simp; omega))))]; (focus ((repeat' (first | (with_reducible assumption) | ((with_reducible refine heap_last ?_); (focus (first | (simp; done) | omega | (simp; omega)))) | ((with_reducible refine heap_prev ?_ ?_); (focus (first | (simp; done) | omega | (simp; omega)))) | (with_reducible apply row_heap) | ((with_reducible apply tab_set); (focus (first | (simp; done) | omega | (simp; omega)))) | ((with_reducible refine sign_other ?_ ?_); (focus (first | (simp; done) | omega | (simp; omega)))) | ((with_reducible refine row_other ?_ ?_); (focus (first | (simp; done) | omega | (simp; omega)))) | (with_reducible refine drew_heap ?_) | (with_reducible refine drewN_heap ?_))); done))); have p2 : w1.heap[w.heap.size + 1]? = some (.cells (AC zA) 27 (0, 0)) := (by rw [b1.block _ (by (focus (first | (simp; done) | omega | (simp; omega))))]; (focus ((repeat' (first | (with_reducible assumption) | ((with_reducible refine heap_last ?_); (focus (first | (simp; done) | omega | (simp; omega)))) | ((with_reducible refine heap_prev ?_ ?_); (focus (first | (simp; done) | omega | (simp; omega)))) | (with_reducible apply row_heap) | ((with_reducible apply tab_set); (focus (first | (simp; done) | omega | (simp; omega)))) | ((with_reducible refine sign_other ?_ ?_); (focus (first | (simp; done) | omega | (simp; omega)))) | ((with_reducible refine row_other ?_ ?_); (focus (first | (simp; done) | omega | (simp; omega)))) | (with_reducible refine drew_heap ?_) | (with_reducible refine drewN_heap ?_))); done)))) | ((with_reducible refine (HB.out _).mono ?_); rintro e w2 ⟨rfl, rfl⟩))
    refine bodyPost_ret (retA2 rfl _ _ (w.heap.size + 1) rfl z 27 (by (focus ((repeat' (first | (with_reducible assumption) | ((with_reducible refine heap_last ?_); (focus (first | (simp; done) | omega | (simp; omega)))) | ((with_reducible refine heap_prev ?_ ?_); (focus (first | (simp; done) | omega | (simp; omega)))) | (with_reducible apply row_heap) | ((with_reducible apply tab_set); (focus (first | (simp; done) | omega | (simp; omega)))) | ((with_reducible refine sign_other ?_ ?_); (focus (first | (simp; done) | omega | (simp; omega)))) | ((with_reducible refine row_other ?_ ?_); (focus (first | (simp; done) | omega | (simp; omega)))) | (with_reducible refine drew_heap ?_) | (with_reducible refine drewN_heap ?_))); done))) _ rfl) rfl ?_
    have B1 : Below w.heap.size w w2 := Below.trans (by (focus ((repeat' (first | (with_reducible exact Below.refl _ _) | (with_reducible assumption) | (with_reducible refine Below.alloc ?_ ?_ _) | (with_reducible refine Below.setCell ?_ ?_ _) | (with_reducible refine Below.row ?_ ?_ _) | (with_reducible refine Below.drew ?_) | (with_reducible refine below_drewN ?_ _) | (focus (first | (simp; done) | omega | (simp; omega))))); done))) (b1.mono (by (focus (first | (simp; done) | omega | (simp; omega)))))
    exact ⟨rfl, by (focus ((repeat' (first | (with_reducible exact Below.refl _ _) | (with_reducible assumption) | (with_reducible refine Below.alloc ?_ ?_ _) | (with_reducible refine Below.setCell ?_ ?_ _) | (with_reducible refine Below.row ?_ ?_ _) | (with_reducible refine Below.drew ?_) | (with_reducible refine below_drewN ?_ _) | (focus (first | (simp; done) | omega | (simp; omega))))); done))⟩
  · rw [if_pos ⟨h, hv⟩, if_pos ⟨h, hv⟩]
    have h7 := hz.n
    have hx : z (r.toNat + 1) < 4294967296 := hz.lt _ (by omega)
    have hy := bitN_lt v
    have hy0 := bitN_pos.2 hv
    unfold addA
    obtain ⟨k, hk, rfl⟩ : ∃ k : Nat, k < 7 ∧ r = (k : Int) := ⟨r.toNat, by omega, by omega⟩
    have hk7 : (k : Int) < 7 := by omega
    have hk0 : (0 : Int) ≤ (k : Int) := by omega
    rw [show ((k : Int).toNat) = k by omega] at *
    generalize bitN v = y at *
    have ho := u64_or_nat (z (k + 1)) y (by omega) (by omega)
    have hne : ((y : Int) == 0) = false := by rw [beq_eq_false_iff_ne]; omega
    generalize hq : z (k + 1) ||| y = q at *
    clear h h7 hz hx hy hy0 hv
    go_enter Try.func12, Try.ntmps12
    go_wp2_with (first | ((with_reducible apply loadA); rfl; rfl; rfl; (focus ((repeat' (first | (with_reducible assumption) | ((with_reducible refine heap_last ?_); (focus (first | (simp; done) | omega | (simp; omega)))) | ((with_reducible refine heap_prev ?_ ?_); (focus (first | (simp; done) | omega | (simp; omega)))) | (with_reducible apply row_heap) | ((with_reducible apply tab_set); (focus (first | (simp; done) | omega | (simp; omega)))) | ((with_reducible refine sign_other ?_ ?_); (focus (first | (simp; done) | omega | (simp; omega)))) | ((with_reducible refine row_other ?_ ?_); (focus (first | (simp; done) | omega | (simp; omega)))) | (with_reducible refine drew_heap ?_) | (with_reducible refine drewN_heap ?_))); done)); skip) | ((with_reducible apply storeA); rfl; rfl; rfl; rfl; (focus ((repeat' (first | (with_reducible assumption) | ((with_reducible refine heap_last ?_); (focus (first | (simp; done) | omega | (simp; omega)))) | ((with_reducible refine heap_prev ?_ ?_); (focus (first | (simp; done) | omega | (simp; omega)))) | (with_reducible apply row_heap) | ((with_reducible apply tab_set); (focus (first | (simp; done) | omega | (simp; omega)))) | ((with_reducible refine sign_other ?_ ?_); (focus (first | (simp; done) | omega | (simp; omega)))) | ((with_reducible refine row_other ?_ ?_); (focus (first | (simp; done) | omega | (simp; omega)))) | (with_reducible refine drew_heap ?_) | (with_reducible refine drewN_heap ?_))); done)); skip) | ((with_reducible refine (HT.out _).mono ?_); rintro e w1 ⟨rfl, b1⟩; have p1 : w1.heap[w.heap.size]? = some (.cells (AC z) 27 (0, 0)) := (by rw [b1.block _ (by (focus (first | (simp; done) | omega | (simp; omega))))]; (focus ((repeat' (first | (with_reducible assumption) | ((with_reducible refine heap_last ?_); (focus (first | (simp; done) | omega | (simp; omega)))) | ((with_reducible refine heap_prev ?_ ?_); (focus (first | (simp; done) | omega | (simp; omega)))) | (with_reducible apply row_heap) | ((with_reducible apply tab_set); (focus (first | (simp; done) | omega | (simp; omega)))) | ((with_reducible refine sign_other ?_ ?_); (focus (first | (simp; done) | omega | (simp; omega)))) | ((with_reducible refine row_other ?_ ?_); (focus (first | (simp; done) | omega | (simp; omega)))) | (with_reducible refine drew_heap ?_) | (with_reducible refine drewN_heap ?_))); done))); have p2 : w1.heap[w.heap.size + 1]? = some (.cells (AC zA) 27 (0, 0)) := (by rw [b1.block _ (by (focus (first | (simp; done) | omega | (simp; omega))))]; (focus ((repeat' (first | (with_reducible assumption) | ((with_reducible refine heap_last ?_); (focus (first | (simp; done) | omega | (simp; omega)))) | ((with_reducible refine heap_prev ?_ ?_); (focus (first | (simp; done) | omega | (simp; omega)))) | (with_reducible apply row_heap) | ((with_reducible apply tab_set); (focus (first | (simp; done) | omega | (simp; omega)))) | ((with_reducible refine sign_other ?_ ?_); (focus (first | (simp; done) | omega | (simp; omega)))) | ((with_reducible refine row_other ?_ ?_); (focus (first | (simp; done) | omega | (simp; omega)))) | (with_reducible refine drew_heap ?_) | (with_reducible refine drewN_heap ?_))); done)))) | ((with_reducible refine (HB.out _).mono ?_); rintro e w2 ⟨rfl, rfl⟩))
    have c1 := tab_cell p1 hk
    have c2 := tab_cell' p1 hk
    have c3 : w2.frozen? ⟨w.heap.size, 1 + k, none⟩ = false := tab_frozen p1
    have B1 : Below w.heap.size w w2 := Below.trans (by (focus ((repeat' (first | (with_reducible exact Below.refl _ _) | (with_reducible assumption) | (with_reducible refine Below.alloc ?_ ?_ _) | (with_reducible refine Below.setCell ?_ ?_ _) | (with_reducible refine Below.row ?_ ?_ _) | (with_reducible refine Below.drew ?_) | (with_reducible refine below_drewN ?_ _) | (focus (first | (simp; done) | omega | (simp; omega))))); done))) (b1.mono (by (focus (first | (simp; done) | omega | (simp; omega)))))
    refine wp_region_held_drew (S := fun _ => True) (by kernel_rfl) trivial (fun hHeld => ?_)
    refine wpAnyH_take (i := 0) (oi := ⟨some 18, _, _, _, _, _⟩) (v := ?_) rfl (by kernel_rfl) (by kernel_rfl) (by kernel_rfl) (fun _ _ _ h => h) (Or.inl ⟨by kernel_rfl, ?_⟩) (by assumption) ?_
    rotate_left
    · (intro w hSw; (try dsimp only at hSw); go_simp; try with_reducible rfl)
    (repeat (first | simp only [Act.put] | simp only [List.setIfInBounds_toArray] | simp only [List.set_cons_succ] | simp only [List.set_cons_zero]))
    refine wpAnyH_take (i := 1) (oi := ⟨some 19, _, _, _, _, _⟩) (v := ?_) rfl (by kernel_rfl) (by kernel_rfl) (by kernel_rfl) (fun _ _ _ h => h) (Or.inl ⟨by kernel_rfl, ?_⟩) (by assumption) ?_
    rotate_left
    · (intro w hSw; (try dsimp only at hSw); go_simp; try with_reducible rfl)
    (repeat (first | simp only [Act.put] | simp only [List.setIfInBounds_toArray] | simp only [List.set_cons_succ] | simp only [List.set_cons_zero]))
    refine wpAnyH_take (i := 2) (oi := ⟨some 20, _, _, _, _, _⟩) (v := ?_) rfl (by kernel_rfl) (by kernel_rfl) (by kernel_rfl) (fun _ _ _ h => h) (Or.inl ⟨by kernel_rfl, ?_⟩) (by assumption) ?_
    rotate_left
    · (intro w hSw; (try dsimp only at hSw); go_simp; try with_reducible rfl)
    (repeat (first | simp only [Act.put] | simp only [List.setIfInBounds_toArray] | simp only [List.set_cons_succ] | simp only [List.set_cons_zero]))
    refine wpAnyH_take (i := 4) (oi := ⟨some 22, _, _, _, _, _⟩) (v := ?_) rfl (by kernel_rfl) (by kernel_rfl) (by kernel_rfl) (fun _ _ _ h => h) (Or.inl ⟨by kernel_rfl, ?_⟩) (by assumption) ?_
    rotate_left
    · (intro w hSw; (try dsimp only at hSw); go_simp; try with_reducible rfl)
    (repeat (first | simp only [Act.put] | simp only [List.setIfInBounds_toArray] | simp only [List.set_cons_succ] | simp only [List.set_cons_zero]))
    refine wpAnyH_take (i := 7) (oi := ⟨some 25, _, _, _, _, _⟩) (v := ?_) rfl (by kernel_rfl) (by kernel_rfl) (by kernel_rfl) (fun _ _ _ h => h) (Or.inl ⟨by kernel_rfl, ?_⟩) (by assumption) ?_
    rotate_left
    · (intro w hSw; (try dsimp only at hSw); go_simp; try with_reducible rfl)
    (repeat (first | simp only [Act.put] | simp only [List.setIfInBounds_toArray] | simp only [List.set_cons_succ] | simp only [List.set_cons_zero]))
    refine wpAnyH_ready (rs := [3, 5]) (by kernel_rfl) (by simp) ?_
    refine AllReadyH.cons (o := ⟨some 21, _, _, _, _, _⟩) rfl (fun K hK => ?_) (AllReadyH.cons (o := ⟨some 23, _, _, _, _, _⟩) rfl (fun K hK => ?_) AllReadyH.nil)
    · skip
      go_simp
      refine hK.out _ _ trivial (fun hHeld => ?_)
      clear hK K
      (repeat (first | simp only [Act.put] | simp only [List.setIfInBounds_toArray] | simp only [List.set_cons_succ] | simp only [List.set_cons_zero]))
      refine wpAnyH_ready (rs := [5]) (by kernel_rfl) (by simp) ?_
      refine AllReadyH.cons (o := ⟨some 23, _, _, _, _, _⟩) rfl (fun K hK => ?_) AllReadyH.nil
      go_simp
      ((with_reducible refine (HB.out _).mono ?_); rintro e w3 ⟨rfl, rfl⟩)
      (try go_wp2_with fail)
      refine hK.out _ _ trivial (fun hHeld => ?_)
      clear hK K
      (repeat (first | simp only [Act.put] | simp only [List.setIfInBounds_toArray] | simp only [List.set_cons_succ] | simp only [List.set_cons_zero]))
      refine wpAnyH_take (i := 6) (oi := ⟨some 24, _, _, _, _, _⟩) (v := ?_) rfl (by kernel_rfl) (by kernel_rfl) (by kernel_rfl) (fun _ _ _ h => h) (Or.inl ⟨by kernel_rfl, ?_⟩) (by assumption) ?_
      rotate_left
      · (intro w hSw; (try dsimp only at hSw); go_simp; try with_reducible rfl)
      (repeat (first | simp only [Act.put] | simp only [List.setIfInBounds_toArray] | simp only [List.set_cons_succ] | simp only [List.set_cons_zero]))
      refine wpAnyH_take (i := 8) (oi := ⟨some 26, _, _, _, _, _⟩) (v := ?_) rfl (by kernel_rfl) (by kernel_rfl) (by kernel_rfl) (fun _ _ _ h => h) (Or.inl ⟨by kernel_rfl, ?_⟩) (by assumption) ?_
      rotate_left
      · (intro w hSw; (try dsimp only at hSw); go_simp; try with_reducible rfl)
      (repeat (first | simp only [Act.put] | simp only [List.setIfInBounds_toArray] | simp only [List.set_cons_succ] | simp only [List.set_cons_zero]))
      refine wpAnyH_ready (rs := [9]) (by kernel_rfl) (by simp) ?_
      refine AllReadyH.cons (o := ⟨none, _, _, _, _, _⟩) rfl (fun K hK => ?_) AllReadyH.nil
      go_simp
      refine hK.out _ _ trivial (fun hHeld => ?_)
      clear hK K
      (repeat (first | simp only [Act.put] | simp only [List.setIfInBounds_toArray] | simp only [List.set_cons_succ] | simp only [List.set_cons_zero]))
      refine wpAnyH_done (by kernel_rfl) ?_ _
      have p3 := tab_set' (v := q) p1 hk
      have p4 : (w2.setCell ⟨w.heap.size, 1 + k, none⟩ (.int .u64 (q : Int))).heap[w.heap.size + 1]? = some (.cells (AC zA) 27 (0, 0)) := sign_other (by simp) p2
      go_wp2_with (first | ((with_reducible apply loadA); rfl; rfl; rfl; (focus ((repeat' (first | (with_reducible assumption) | ((with_reducible refine heap_last ?_); (focus (first | (simp; done) | omega | (simp; omega)))) | ((with_reducible refine heap_prev ?_ ?_); (focus (first | (simp; done) | omega | (simp; omega)))) | (with_reducible apply row_heap) | ((with_reducible apply tab_set); (focus (first | (simp; done) | omega | (simp; omega)))) | ((with_reducible refine sign_other ?_ ?_); (focus (first | (simp; done) | omega | (simp; omega)))) | ((with_reducible refine row_other ?_ ?_); (focus (first | (simp; done) | omega | (simp; omega)))) | (with_reducible refine drew_heap ?_) | (with_reducible refine drewN_heap ?_))); done)); skip) | ((with_reducible apply storeA); rfl; rfl; rfl; rfl; (focus ((repeat' (first | (with_reducible assumption) | ((with_reducible refine heap_last ?_); (focus (first | (simp; done) | omega | (simp; omega)))) | ((with_reducible refine heap_prev ?_ ?_); (focus (first | (simp; done) | omega | (simp; omega)))) | (with_reducible apply row_heap) | ((with_reducible apply tab_set); (focus (first | (simp; done) | omega | (simp; omega)))) | ((with_reducible refine sign_other ?_ ?_); (focus (first | (simp; done) | omega | (simp; omega)))) | ((with_reducible refine row_other ?_ ?_); (focus (first | (simp; done) | omega | (simp; omega)))) | (with_reducible refine drew_heap ?_) | (with_reducible refine drewN_heap ?_))); done)); skip))
      refine bodyPost_ret (retA2 rfl _ _ (w.heap.size + 1) rfl (updA z (k + 1) q) 27 (by (focus ((repeat' (first | (with_reducible assumption) | ((with_reducible refine heap_last ?_); (focus (first | (simp; done) | omega | (simp; omega)))) | ((with_reducible refine heap_prev ?_ ?_); (focus (first | (simp; done) | omega | (simp; omega)))) | (with_reducible apply row_heap) | ((with_reducible apply tab_set); (focus (first | (simp; done) | omega | (simp; omega)))) | ((with_reducible refine sign_other ?_ ?_); (focus (first | (simp; done) | omega | (simp; omega)))) | ((with_reducible refine row_other ?_ ?_); (focus (first | (simp; done) | omega | (simp; omega)))) | (with_reducible refine drew_heap ?_) | (with_reducible refine drewN_heap ?_))); done))) _ rfl) rfl ?_
      exact ⟨rfl, by (focus ((repeat' (first | (with_reducible exact Below.refl _ _) | (with_reducible assumption) | (with_reducible refine Below.alloc ?_ ?_ _) | (with_reducible refine Below.setCell ?_ ?_ _) | (with_reducible refine Below.row ?_ ?_ _) | (with_reducible refine Below.drew ?_) | (with_reducible refine below_drewN ?_ _) | (focus (first | (simp; done) | omega | (simp; omega))))); done))⟩
    · skip
      go_simp
      ((with_reducible refine (HB.out _).mono ?_); rintro e w3 ⟨rfl, rfl⟩)
      (try go_wp2_with fail)
      refine hK.out _ _ trivial (fun hHeld => ?_)
      clear hK K
      (repeat (first | simp only [Act.put] | simp only [List.setIfInBounds_toArray] | simp only [List.set_cons_succ] | simp only [List.set_cons_zero]))
      refine wpAnyH_ready (rs := [3]) (by kernel_rfl) (by simp) ?_
      refine AllReadyH.cons (o := ⟨some 21, _, _, _, _, _⟩) rfl (fun K hK => ?_) AllReadyH.nil
      go_simp
      refine hK.out _ _ trivial (fun hHeld => ?_)
      clear hK K
      (repeat (first | simp only [Act.put] | simp only [List.setIfInBounds_toArray] | simp only [List.set_cons_succ] | simp only [List.set_cons_zero]))
      refine wpAnyH_take (i := 6) (oi := ⟨some 24, _, _, _, _, _⟩) (v := ?_) rfl (by kernel_rfl) (by kernel_rfl) (by kernel_rfl) (fun _ _ _ h => h) (Or.inl ⟨by kernel_rfl, ?_⟩) (by assumption) ?_
      rotate_left
      · (intro w hSw; (try dsimp only at hSw); go_simp; try with_reducible rfl)
      (repeat (first | simp only [Act.put] | simp only [List.setIfInBounds_toArray] | simp only [List.set_cons_succ] | simp only [List.set_cons_zero]))
      refine wpAnyH_take (i := 8) (oi := ⟨some 26, _, _, _, _, _⟩) (v := ?_) rfl (by kernel_rfl) (by kernel_rfl) (by kernel_rfl) (fun _ _ _ h => h) (Or.inl ⟨by kernel_rfl, ?_⟩) (by assumption) ?_
      rotate_left
      · (intro w hSw; (try dsimp only at hSw); go_simp; try with_reducible rfl)
      (repeat (first | simp only [Act.put] | simp only [List.setIfInBounds_toArray] | simp only [List.set_cons_succ] | simp only [List.set_cons_zero]))
      refine wpAnyH_ready (rs := [9]) (by kernel_rfl) (by simp) ?_
      refine AllReadyH.cons (o := ⟨none, _, _, _, _, _⟩) rfl (fun K hK => ?_) AllReadyH.nil
      go_simp
      refine hK.out _ _ trivial (fun hHeld => ?_)
      clear hK K
      (repeat (first | simp only [Act.put] | simp only [List.setIfInBounds_toArray] | simp only [List.set_cons_succ] | simp only [List.set_cons_zero]))
      refine wpAnyH_done (by kernel_rfl) ?_ _
      have p3 := tab_set' (v := q) p1 hk
      have p4 : (w2.setCell ⟨w.heap.size, 1 + k, none⟩ (.int .u64 (q : Int))).heap[w.heap.size + 1]? = some (.cells (AC zA) 27 (0, 0)) := sign_other (by simp) p2
      go_wp2_with (first | ((with_reducible apply loadA); rfl; rfl; rfl; (focus ((repeat' (first | (with_reducible assumption) | ((with_reducible refine heap_last ?_); (focus (first | (simp; done) | omega | (simp; omega)))) | ((with_reducible refine heap_prev ?_ ?_); (focus (first | (simp; done) | omega | (simp; omega)))) | (with_reducible apply row_heap) | ((with_reducible apply tab_set); (focus (first | (simp; done) | omega | (simp; omega)))) | ((with_reducible refine sign_other ?_ ?_); (focus (first | (simp; done) | omega | (simp; omega)))) | ((with_reducible refine row_other ?_ ?_); (focus (first | (simp; done) | omega | (simp; omega)))) | (with_reducible refine drew_heap ?_) | (with_reducible refine drewN_heap ?_))); done)); skip) | ((with_reducible apply storeA); rfl; rfl; rfl; rfl; (focus ((repeat' (first | (with_reducible assumption) | ((with_reducible refine heap_last ?_); (focus (first | (simp; done) | omega | (simp; omega)))) | ((with_reducible refine heap_prev ?_ ?_); (focus (first | (simp; done) | omega | (simp; omega)))) | (with_reducible apply row_heap) | ((with_reducible apply tab_set); (focus (first | (simp; done) | omega | (simp; omega)))) | ((with_reducible refine sign_other ?_ ?_); (focus (first | (simp; done) | omega | (simp; omega)))) | ((with_reducible refine row_other ?_ ?_); (focus (first | (simp; done) | omega | (simp; omega)))) | (with_reducible refine drew_heap ?_) | (with_reducible refine drewN_heap ?_))); done)); skip))
      refine bodyPost_ret (retA2 rfl _ _ (w.heap.size + 1) rfl (updA z (k + 1) q) 27 (by (focus ((repeat' (first | (with_reducible assumption) | ((with_reducible refine heap_last ?_); (focus (first | (simp; done) | omega | (simp; omega)))) | ((with_reducible refine heap_prev ?_ ?_); (focus (first | (simp; done) | omega | (simp; omega)))) | (with_reducible apply row_heap) | ((with_reducible apply tab_set); (focus (first | (simp; done) | omega | (simp; omega)))) | ((with_reducible refine sign_other ?_ ?_); (focus (first | (simp; done) | omega | (simp; omega)))) | ((with_reducible refine row_other ?_ ?_); (focus (first | (simp; done) | omega | (simp; omega)))) | (with_reducible refine drew_heap ?_) | (with_reducible refine drewN_heap ?_))); done))) _ rfl) rfl ?_
      exact ⟨rfl, by (focus ((repeat' (first | (with_reducible exact Below.refl _ _) | (with_reducible assumption) | (with_reducible refine Below.alloc ?_ ?_ _) | (with_reducible refine Below.setCell ?_ ?_ _) | (with_reducible refine Below.row ?_ ?_ _) | (with_reducible refine Below.drew ?_) | (with_reducible refine below_drewN ?_ _) | (focus (first | (simp; done) | omega | (simp; omega))))); done))⟩
end Go.Proofs.Ythbocddkomhpoaa
