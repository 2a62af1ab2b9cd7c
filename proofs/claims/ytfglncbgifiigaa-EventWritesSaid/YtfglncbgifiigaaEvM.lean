/- Events: their cells, rows of them, one held against another. (By mkev.py.) -/
import Derived.Test.YtfglncbgifiigaaEvO
import Derived.Laws.StructEq
import Derived.Sort.Grow
import Derived.Deep.LoopGhost
import Derived.Maps.AppendAt
import Derived.Deep.RegionHeld3
import Derived.Deep.RegionLaw
import Derived.Lib.Hide
namespace Go.Proofs.Ytfglncbgifiigaa
open Go.RowKit Go.Sort Go.Lib
set_option linter.unusedSimpArgs false
set_option linter.unusedVariables false

theorem hd_last {w : World} {o : Obj} {n : Nat} (h : n = w.heap.size) : (w.alloc o).heap[n]? = some o := by subst h; exact heap_alloc_new w o
theorem hd_prev {w : World} {o p : Obj} {n : Nat} (h : n < w.heap.size) (hp : w.heap[n]? = some p) : (w.alloc o).heap[n]? = some p := (heap_alloc_old (w := w) (o := o) h).trans hp
theorem hd_drew {w : World} {g : Nat} {p : Obj} (h : w.heap[g]? = some p) : w.drew.heap[g]? = some p := h
theorem below_drewN {B : Nat} {a w : World} (h : Below B a w) (n : Nat) : Below B a (w.drewN n) := ⟨h.os, h.tape, h.output, h.size, h.block⟩
abbrev EC (x : Ev) : Array Value := #[.int .i64 x.kd, .int .i64 x.acc, .int .u64 x.id, .int .u64 x.oth, .int .i64 x.side, .int .i64 x.pr, .int .i64 x.qty, .int .i64 x.fee, .int .i64 x.fee2, .int .i64 x.code, .int .i64 x.ver, .int .u64 x.idx]
def encE (x : Ev) : List Value := [.int .i64 x.kd, .int .i64 x.acc, .int .u64 x.id, .int .u64 x.oth, .int .i64 x.side, .int .i64 x.pr, .int .i64 x.qty, .int .i64 x.fee, .int .i64 x.fee2, .int .i64 x.code, .int .i64 x.ver, .int .u64 x.idx]
theorem enc_oneE (x : Ev) : ∀ u ∈ encE x, u.oneCell' = true := by
  intro v hv
  simp only [encE, List.mem_cons, List.not_mem_nil, or_false] at hv
  rcases hv with rfl | rfl | rfl | rfl | rfl | rfl | rfl | rfl | rfl | rfl | rfl | rfl <;> rfl
def vl (L : List Ev) : List Value := L.flatMap encE
theorem vl_len (L : List Ev) : (vl L).length = L.length * 12 := by
  induction L with
  | nil => rfl
  | cons x l ih => rw [vl, List.flatMap_cons, List.length_append, ← vl, ih, List.length_cons]; show 12 + _ = _; omega
theorem vl_get : ∀ (L : List Ev) (i c : Nat), i < L.length → c < 12 → (vl L)[i * 12 + c]? = (encE L[i]!)[c]?
  | [], i, c, hi, _ => by simp at hi
  | x :: l, 0, c, _, hc => by
    rw [vl, List.flatMap_cons, List.getElem?_append_left (by show _ < 12; omega), Nat.zero_mul, Nat.zero_add]; rfl
  | x :: l, i + 1, c, hi, hc => by
    rw [vl, List.flatMap_cons, List.getElem?_append_right (by show 12 ≤ _; omega), ← vl]
    have : (i + 1) * 12 + c - (encE x).length = i * 12 + c := by show _ - 12 = _; omega
    rw [this, vl_get l i c (by simpa using hi) hc]
    rfl
/-- The capacity; of nil: none. -/
def CapOk (A : Option Addr) (n c : Nat) : Prop := n ≤ c ∧ (A = none → c = 0)
/-- A row of the call's own reads as events. -/
theorem own_evs {w : World} {base n : Nat} {T : TypeId} {v : Value} {L : List Ev} (h : w.ownsRow base T 12 v n (vl L)) (hn : n ≤ 1000) (hok : ∀ x ∈ L, Ev.ok w x) : ∃ A c, v = .slice A n c ∧ CapOk A n c ∧ Evs w A n L := by
  obtain ⟨h1, h2⟩ := h
  rw [vl_len] at h1
  have hl : L.length = n := by omega
  rcases h2 with ⟨hv, h0⟩ | ⟨k, cap, cur, hv, _, hk, hc, hm, hs, ht⟩
  · subst h0; exact ⟨none, 0, hv, ⟨Nat.le_refl _, fun _ => rfl⟩, hl, by omega, hok, .inl rfl⟩
  · refine ⟨_, _, hv, ⟨hc, fun h => by cases h⟩, hl, by omega, hok, .inr ⟨k, 0, rfl, blk_lt hk, fun i hi => ?_⟩⟩
    have hcell : ∀ j v, (vl L)[j]? = some v → w.cell? ⟨k, 0 + j, none⟩ = some v := by
      intro j v hj
      rw [← ht, List.getElem?_take] at hj
      split at hj
      · rw [Array.getElem?_toList] at hj
        rw [Nat.zero_add, cell_of_row _ _ _ _ _ _ hk, hj]
      · cases hj
    have g : ∀ c v, c < 12 → (encE L[i]!)[c]? = some v → w.cell? ⟨k, 0 + i * 12 + c, none⟩ = some v := fun c v hc hv => by
      rw [Nat.add_assoc]
      exact hcell (i * 12 + c) v ((vl_get L i c (by omega) hc).trans hv)
    exact ⟨g 0 _ (by omega) rfl, g 1 _ (by omega) rfl, g 2 _ (by omega) rfl, g 3 _ (by omega) rfl, g 4 _ (by omega) rfl, g 5 _ (by omega) rfl, g 6 _ (by omega) rfl, g 7 _ (by omega) rfl, g 8 _ (by omega) rfl, g 9 _ (by omega) rfl, g 10 _ (by omega) rfl, g 11 _ (by omega) rfl⟩
theorem vl_snoc {L : List Ev} {k : Nat} (h : k < L.length) : vl (L.take (k + 1)) = vl (L.take k) ++ encE L[k]! := by
  unfold vl
  rw [List.take_succ_eq_append_getElem h, List.flatMap_append, getElem!_pos L k h]
  simp
theorem vl_app (L : List Ev) (x : Ev) : vl (L ++ [x]) = vl L ++ encE x := by
  unfold vl
  rw [List.flatMap_append]
  simp
theorem news_E (w : World) (x : Ev) : ∀ (j : Nat) (u : Value), (encE x)[j]? = some u → (w.alloc (Obj.cells (EC x) 51)).cell? ((⟨w.heap.size, 0, none⟩ : Addr).add j) = some u := by
  intro j u hu
  rw [addr_add, cell_of_row _ _ _ _ _ _ (heap_alloc_new w _)]
  match j, hu with
  | 0, hu => simpa [encE] using hu
  | 1, hu => simpa [encE] using hu
  | 2, hu => simpa [encE] using hu
  | 3, hu => simpa [encE] using hu
  | 4, hu => simpa [encE] using hu
  | 5, hu => simpa [encE] using hu
  | 6, hu => simpa [encE] using hu
  | 7, hu => simpa [encE] using hu
  | 8, hu => simpa [encE] using hu
  | 9, hu => simpa [encE] using hu
  | 10, hu => simpa [encE] using hu
  | 11, hu => simpa [encE] using hu
theorem ec_one (z : Ev) : (EC z).all (·.oneCell') = true := by simp [EC, Value.oneCell']
theorem info_ev : (Try.prog.info? 51).map (fun i => (i.zero, i.size, i.bytes)) = some (some (.agg (EC ⟨0, 0, 0, 0, 0, 0, 0, 0, 0, 0, 0, 0⟩)), 12, 96) := by kernel_rfl
theorem infoE : (Try.prog.info? 51).map (·.size) = some 12 := by kernel_rfl
theorem retE {fn : Func} {p : Tmp} (h : fn.results = #[.cell p 51]) (tmps : Array Value) (w : World) (g : Nat) (hp : tmps.getD p undef = .pointer (some ⟨g, 0, none⟩)) (z : Ev) (t : TypeId)
    (hg : w.heap[g]? = some (.cells (EC z) t (0, 0))) : (results fn tmps).run Try.prog w = .ok (.agg (EC z)) w :=
  results_cell_row h tmps w g _ _ (0, 0) _ hp hg Try.underlying51 rfl infoE
section
variable {ops : Array Oper} {rest : List Oper} {o : Oper} {a : Act} {w : World} {Q : Exit → Act → World → Prop}
theorem loadE (hgd : Region.wanted o (yielded ops a.tmps) = true) (x : Operand) (ho : o.op = .load 51 x) (g : Nat) (hx : a.eval x = .pointer (some ⟨g, 0, none⟩)) (z : Ev) (t : TypeId)
    (hg : w.heap[g]? = some (.cells (EC z) t (0, 0))) (h : wpList Try.prog ops Q rest (a.put o.dst (.agg (EC z))) w) : wpList Try.prog ops Q (o :: rest) a w :=
  BigFrame.wpList_want hgd fun _ hK => wp_load_row _ x ho g hx _ _ (0, 0) _ hg Try.underlying51 rfl infoE (hK _ _ h)
end

/-! Two events held against each other. -/
theorem eqf {P : Program} (w : World) (d : Nat) (xs ys : Array Value) (fs : List Field) (hn : ∀ f ∈ fs, f.name ≠ "_") (E : Field → Bool)
    (h : ∀ f ∈ fs, ∃ a b, (part f.type xs f.offset).run P w = .ok a w ∧ (part f.type ys f.offset).run P w = .ok b w ∧ (Op.equalIn d f.type a b).run P w = .ok (E f) w) :
    (Op.eqFields d xs ys fs).run P w = .ok (fs.all E) w := by
  induction fs with
  | nil => simp [Op.eqFields]
  | cons f fs ih =>
    obtain ⟨a, b, h1, h2, h3⟩ := h f List.mem_cons_self
    have ih' := ih (fun g hg => hn g (List.mem_cons_of_mem _ hg)) (fun g hg => h g (List.mem_cons_of_mem _ hg))
    simp only [Op.eqFields]
    rw [if_pos (hn f List.mem_cons_self)]
    simp only [Sem.run_bind, h1, h2, h3, Result.andThen_ok, Sem.run_ite, List.all_cons]
    cases hE : E f
    · simp
    · simpa using ih'
def fldE (x : Ev) : Nat → Int
  | 0 => x.kd | 1 => x.acc | 2 => x.id | 3 => x.oth | 4 => x.side | 5 => x.pr | 6 => x.qty | 7 => x.fee | 8 => x.fee2 | 9 => x.code | 10 => x.ver | _ => x.idx
def eqE (x y : Ev) : Bool := [0, 1, 2, 3, 4, 5, 6, 7, 8, 9, 10, 11].all fun i => fldE x i == fldE y i
theorem eqE_iff (x y : Ev) : eqE x y = true ↔ x = y := by
  unfold eqE
  simp only [List.all_cons, List.all_nil, Bool.and_true, Bool.and_eq_true, beq_iff_eq, fldE]
  constructor
  · rintro ⟨h0, h1, h2, h3, h4, h5, h6, h7, h8, h9, h10, h11⟩
    cases x; cases y; simp only at *; subst h0 h1 h2 h3 h4 h5 h6 h7 h8 h9 h10 h11; rfl
  · rintro rfl; simp
theorem ptE0 (x : Ev) (w : World) : (part 3 (EC x) 0).run Try.prog w = .ok (.int .i64 (fldE x 0)) w := by kernel_rfl
theorem ptE1 (x : Ev) (w : World) : (part 3 (EC x) 1).run Try.prog w = .ok (.int .i64 (fldE x 1)) w := by kernel_rfl
theorem ptE2 (x : Ev) (w : World) : (part 49 (EC x) 2).run Try.prog w = .ok (.int .u64 (fldE x 2)) w := by kernel_rfl
theorem ptE3 (x : Ev) (w : World) : (part 49 (EC x) 3).run Try.prog w = .ok (.int .u64 (fldE x 3)) w := by kernel_rfl
theorem ptE4 (x : Ev) (w : World) : (part 3 (EC x) 4).run Try.prog w = .ok (.int .i64 (fldE x 4)) w := by kernel_rfl
theorem ptE5 (x : Ev) (w : World) : (part 2 (EC x) 5).run Try.prog w = .ok (.int .i64 (fldE x 5)) w := by kernel_rfl
theorem ptE6 (x : Ev) (w : World) : (part 2 (EC x) 6).run Try.prog w = .ok (.int .i64 (fldE x 6)) w := by kernel_rfl
theorem ptE7 (x : Ev) (w : World) : (part 2 (EC x) 7).run Try.prog w = .ok (.int .i64 (fldE x 7)) w := by kernel_rfl
theorem ptE8 (x : Ev) (w : World) : (part 2 (EC x) 8).run Try.prog w = .ok (.int .i64 (fldE x 8)) w := by kernel_rfl
theorem ptE9 (x : Ev) (w : World) : (part 25 (EC x) 9).run Try.prog w = .ok (.int .i64 (fldE x 9)) w := by kernel_rfl
theorem ptE10 (x : Ev) (w : World) : (part 3 (EC x) 10).run Try.prog w = .ok (.int .i64 (fldE x 10)) w := by kernel_rfl
theorem ptE11 (x : Ev) (w : World) : (part 49 (EC x) 11).run Try.prog w = .ok (.int .u64 (fldE x 11)) w := by kernel_rfl
theorem eq_evP (x y : Ev) (w : World) : (Op.equalIn 10000 51 (.agg (EC x)) (.agg (EC y))).run Try.prog w = .ok (eqE x y) w := by
  rw [run_equalIn_agg w 9999 51 _ _ (by unfold Program.fieldsOf; rw [Try.underlying51]) (by kernel_rfl)]
  have hu : ∀ (a b : Int) (w : World), (Op.equalIn 9999 49 (.int .u64 a) (.int .u64 b)).run Try.prog w = .ok (a == b) w := fun a b w => run_equalIn_int w 9998 _ _ _ a b Try.underlying49
  have hl : ∀ (a b : Int) (w : World), (Op.equalIn 9999 2 (.int .i64 a) (.int .i64 b)).run Try.prog w = .ok (a == b) w := fun a b w => run_equalIn_int w 9998 _ _ _ a b Try.underlying2
  have hi : ∀ (a b : Int) (w : World), (Op.equalIn 9999 3 (.int .i64 a) (.int .i64 b)).run Try.prog w = .ok (a == b) w := fun a b w => run_equalIn_int w 9998 _ _ _ a b Try.underlying3
  have he : ∀ (a b : Int) (w : World), (Op.equalIn 9999 25 (.int .i64 a) (.int .i64 b)).run Try.prog w = .ok (a == b) w := fun a b w => run_equalIn_int w 9998 _ _ _ a b Try.underlying25
  unfold Program.fieldsOf
  rw [Try.underlying51]
  refine (eqf w 9999 _ _ _ ?_ (fun f => fldE x f.offset == fldE y f.offset) ?_).trans rfl
  · intro f hf
    simp only [List.mem_cons, List.not_mem_nil, or_false] at hf
    rcases hf with rfl | rfl | rfl | rfl | rfl | rfl | rfl | rfl | rfl | rfl | rfl | rfl <;> decide
  · intro f hf
    simp only [List.mem_cons, List.not_mem_nil, or_false] at hf
    rcases hf with rfl | rfl | rfl | rfl | rfl | rfl | rfl | rfl | rfl | rfl | rfl | rfl
    · exact ⟨_, _, ptE0 x w, ptE0 y w, hi _ _ _⟩
    · exact ⟨_, _, ptE1 x w, ptE1 y w, hi _ _ _⟩
    · exact ⟨_, _, ptE2 x w, ptE2 y w, hu _ _ _⟩
    · exact ⟨_, _, ptE3 x w, ptE3 y w, hu _ _ _⟩
    · exact ⟨_, _, ptE4 x w, ptE4 y w, hi _ _ _⟩
    · exact ⟨_, _, ptE5 x w, ptE5 y w, hl _ _ _⟩
    · exact ⟨_, _, ptE6 x w, ptE6 y w, hl _ _ _⟩
    · exact ⟨_, _, ptE7 x w, ptE7 y w, hl _ _ _⟩
    · exact ⟨_, _, ptE8 x w, ptE8 y w, hl _ _ _⟩
    · exact ⟨_, _, ptE9 x w, ptE9 y w, he _ _ _⟩
    · exact ⟨_, _, ptE10 x w, ptE10 y w, hi _ _ _⟩
    · exact ⟨_, _, ptE11 x w, ptE11 y w, hu _ _ _⟩
theorem neqE (x y : Ev) (w : World) : (binOp .neq 51 (.agg (EC x)) (.agg (EC y))).run Try.prog w = .ok (.bool (!eqE x y)) w := by
  rw [run_neq_struct, eq_evP]; rfl
theorem eqlE (x y : Ev) (w : World) : (binOp .eql 51 (.agg (EC x)) (.agg (EC y))).run Try.prog w = .ok (.bool (eqE x y)) w := by
  rw [run_eql_struct, eq_evP]; rfl
/-- Two lists of them. -/
def eqEs : List Ev → List Ev → Bool
  | [], [] => true
  | x :: l, y :: m => eqE x y && eqEs l m
  | _, _ => false
theorem eqEs_iff : ∀ (l m : List Ev), eqEs l m = true ↔ l = m
  | [], [] => by simp [eqEs]
  | x :: l, y :: m => by simp [eqEs, eqE_iff, eqEs_iff l m]
  | [], y :: m => by simp [eqEs]
  | x :: l, [] => by simp [eqEs]
theorem eqEs_no {l m : List Ev} {i : Nat} (_hi : i < l.length) (_hl : l.length = m.length) (h : eqE l[i]! m[i]! = false) : eqEs l m = false := by
  cases e : eqEs l m with
  | false => rfl
  | true =>
    rw [eqEs_iff] at e
    subst e
    have := (eqE_iff l[i]! l[i]!).2 rfl
    rw [h] at this; cases this
theorem eqEs_yes {l m : List Ev} (hl : l.length = m.length) (h : ∀ i, i < l.length → l[i]! = m[i]!) : eqEs l m = true := by
  rw [eqEs_iff]
  apply List.ext_getElem hl
  intro i h1 h2
  have := h i h1
  rwa [getElem!_pos l i h1, getElem!_pos m i h2] at this
theorem eqEs_len {l m : List Ev} (h : l.length ≠ m.length) : eqEs l m = false := by
  cases e : eqEs l m with
  | false => rfl
  | true => exact absurd (congrArg List.length ((eqEs_iff l m).1 e)) h
theorem Evs.fr {S : Nat → Prop} {w w' : World} {A : Option Addr} {n : Nat} {L : List Ev} (h : Evs w A n L) (hf : Fr S w w') (hn : ∀ a, A = some a → ¬ S a.block) : Evs w' A n L := by
  obtain ⟨h1, hle, h2, h3⟩ := h
  refine ⟨h1, hle, h2, ?_⟩
  rcases h3 with h0 | ⟨b, off, rfl, hlt, hc⟩
  · exact .inl h0
  · refine .inr ⟨b, off, rfl, Nat.lt_of_lt_of_le hlt hf.size, fun i hi => ?_⟩
    have hb := hf.block b hlt (hn _ rfl)
    have e : ∀ o, w'.cell? ⟨b, o, none⟩ = w.cell? ⟨b, o, none⟩ := fun o => World.cell?_of_block (w := w) hb
    have := hc i hi
    unfold Ev.at at this ⊢
    simpa only [e] using this
end Go.Proofs.Ytfglncbgifiigaa
