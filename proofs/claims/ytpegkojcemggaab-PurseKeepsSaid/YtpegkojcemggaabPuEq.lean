/- purse: two tills held against each other. -/
import Derived.Test.YtpegkojcemggaabPuC
import Derived.Laws.StructEq
namespace Go.Proofs.Ytpegkojcemggaab
open Go.RowKit

/-- Two arrays are the same where all their elements are. -/
theorem eq_array {P : Program} (w : World) (d : Nat) (t e : TypeId) (n m : Nat) (xs ys : Array Value) (ht : P.underlying t = some (.array n e)) (hm : ∀ w, (sizeOf e).run P w = .ok m w) (E : Nat → Bool)
    (h : ∀ i, i < n → ∃ a b, (part e xs (i * m)).run P w = .ok a w ∧ (part e ys (i * m)).run P w = .ok b w ∧ (Op.equalIn d e a b).run P w = .ok (E i) w) :
    (Op.equalIn (d + 1) t (.agg xs) (.agg ys)).run P w = .ok ((List.range n).all E) w := by
  simp only [Op.equalIn, Sem.run_bind, run_underlying ht, Result.andThen_ok, hm]
  rw [Std.Legacy.Range.forIn_eq_forIn_range']
  have e0 : List.range' [:n].start [:n].size [:n].step = List.range n := by
    simp [Std.Legacy.Range.size, List.range_eq_range']
  rw [e0]
  have hl : ∀ i ∈ List.range n, i < n := fun i hi => List.mem_range.1 hi
  generalize List.range n = l at *
  clear e0
  induction l with
  | nil => simp
  | cons i l ih =>
    obtain ⟨a, b, h1, h2, h3⟩ := h i (hl i List.mem_cons_self)
    have ih' := ih (fun j hj => hl j (List.mem_cons_of_mem _ hj))
    simp only [List.forIn_cons, Sem.run_bind, h1, h2, h3, Result.andThen_ok, List.all_cons, Sem.run_ite]
    cases hE : E i
    · simp
    · simpa using ih'
/-- Two structs are the same where all their fields are (no field is named '_'). -/
theorem eq_fields {P : Program} (w : World) (d : Nat) (xs ys : Array Value) (fs : List Field) (hn : ∀ f ∈ fs, f.name ≠ "_") (E : Field → Bool)
    (h : ∀ f ∈ fs, ∃ a b, (part f.type xs f.offset).run P w = .ok a w ∧ (part f.type ys f.offset).run P w = .ok b w ∧ (Op.equalIn d f.type a b).run P w = .ok (E f) w) :
    (Op.eqFields d xs ys fs).run P w = .ok (fs.all E) w := by
  induction fs with
  | nil => simp [Op.eqFields]
  | cons f fs ih =>
    obtain ⟨a, b, h1, h2, h3⟩ := h f List.mem_cons_self
    have ih' := ih (fun g hg => hn g (List.mem_cons_of_mem _ hg)) (fun g hg => h g (List.mem_cons_of_mem _ hg))
    simp only [Op.eqFields]
    rw [if_pos (hn f List.mem_cons_self)]
    simp only [Sem.run_bind, h1, h2, h3, Result.andThen_ok, Sem.run_ite, List.all_cons]
    cases hE : E f
    · simp
    · simpa using ih'
def purE (z y : Ti) (k : Nat) : Bool := [0, 1, 2, 3, 4, 5].all fun j => z (6 * k + j) == y (6 * k + j)
def tillE (z y : Ti) : Bool := (List.range 8).all (purE z y) && (z 48 == y 48)
theorem tillE_same (z : Ti) : tillE z z = true := by
  unfold tillE purE
  simp
theorem tillE_iff {z y : Ti} : tillE z y = true ↔ ∀ i, i < 49 → z i = y i := by
  unfold tillE purE
  simp only [Bool.and_eq_true, List.all_eq_true, List.mem_range, beq_iff_eq]
  constructor
  · intro h i hi
    by_cases e : i = 48
    · rw [e]; exact h.2
    · have := h.1 (i / 6) (by omega) (i % 6) (by simp; omega)
      rwa [Nat.div_add_mod] at this
  · intro h
    refine ⟨fun a ha j hj => h _ ?_, h 48 (by omega)⟩
    simp at hj
    omega

theorem pt0 (v : Ti) (k : Nat) (w : World) : (part 2 (UC v k) 0).run Try.prog w = .ok (.int .i64 (v (6 * k))) w := by kernel_rfl
theorem pt1 (v : Ti) (k : Nat) (w : World) : (part 2 (UC v k) 1).run Try.prog w = .ok (.int .i64 (v (6 * k + 1))) w := by kernel_rfl
theorem pt2 (v : Ti) (k : Nat) (w : World) : (part 2 (UC v k) 2).run Try.prog w = .ok (.int .i64 (v (6 * k + 2))) w := by kernel_rfl
theorem pt3 (v : Ti) (k : Nat) (w : World) : (part 2 (UC v k) 3).run Try.prog w = .ok (.int .i64 (v (6 * k + 3))) w := by kernel_rfl
theorem pt4 (v : Ti) (k : Nat) (w : World) : (part 2 (UC v k) 4).run Try.prog w = .ok (.int .i64 (v (6 * k + 4))) w := by kernel_rfl
theorem pt5 (v : Ti) (k : Nat) (w : World) : (part 2 (UC v k) 5).run Try.prog w = .ok (.int .i64 (v (6 * k + 5))) w := by kernel_rfl
theorem eq_purP (d : Nat) (z y : Ti) (k : Nat) (w : World) : (Op.equalIn (d + 2) 23 (.agg (UC z k)) (.agg (UC y k))).run Try.prog w = .ok (purE z y k) w := by
  rw [run_equalIn_agg w (d + 1) 23 _ _ (by unfold Program.fieldsOf; rw [Try.underlying23]) (by kernel_rfl)]
  have hi : ∀ (a b : Int) (w : World), (Op.equalIn (d + 1) 2 (.int .i64 a) (.int .i64 b)).run Try.prog w = .ok (a == b) w := fun a b w => run_equalIn_int w d _ _ _ a b Try.underlying2
  unfold Program.fieldsOf
  rw [Try.underlying23]
  refine (eq_fields w (d + 1) _ _ _ ?_ (fun f => z (6 * k + f.offset) == y (6 * k + f.offset)) ?_).trans rfl
  · intro f hf
    simp only [List.mem_cons, List.not_mem_nil, or_false] at hf
    rcases hf with rfl | rfl | rfl | rfl | rfl | rfl <;> decide
  · intro f hf
    simp only [List.mem_cons, List.not_mem_nil, or_false] at hf
    rcases hf with rfl | rfl | rfl | rfl | rfl | rfl
    · exact ⟨_, _, pt0 z k w, pt0 y k w, hi _ _ _⟩
    · exact ⟨_, _, pt1 z k w, pt1 y k w, hi _ _ _⟩
    · exact ⟨_, _, pt2 z k w, pt2 y k w, hi _ _ _⟩
    · exact ⟨_, _, pt3 z k w, pt3 y k w, hi _ _ _⟩
    · exact ⟨_, _, pt4 z k w, pt4 y k w, hi _ _ _⟩
    · exact ⟨_, _, pt5 z k w, pt5 y k w, hi _ _ _⟩
theorem eq_tillP (z y : Ti) (w : World) : (Op.equalIn 10000 26 (.agg (TC z)) (.agg (TC y))).run Try.prog w = .ok (tillE z y) w := by
  rw [run_equalIn_agg w 9999 26 _ _ (by unfold Program.fieldsOf; rw [Try.underlying26]) (by kernel_rfl)]
  have hp : ∀ (v : Ti) (w : World), (part 24 (TC v) 0).run Try.prog w = .ok (.agg (PL v).toArray) w := fun v w => by kernel_rfl
  have hh : ∀ (v : Ti) (w : World), (part 2 (TC v) 48).run Try.prog w = .ok (.int .i64 (v 48)) w := fun v w => by kernel_rfl
  have he : ∀ (v : Ti) (w : World) (j : Nat), j < 8 → (part 23 (PL v).toArray (j * 6)).run Try.prog w = .ok (.agg (UC v j)) w := fun v w j hj => by
    rcases acc8 hj with rfl | rfl | rfl | rfl | rfl | rfl | rfl | rfl <;> kernel_rfl
  have ha : ∀ w : World, (Op.equalIn 9999 24 (.agg (PL z).toArray) (.agg (PL y).toArray)).run Try.prog w = .ok ((List.range 8).all (purE z y)) w := fun w =>
    eq_array w 9998 _ _ 8 6 _ _ Try.underlying24 (fun _ => by kernel_rfl) (purE z y) fun i hi => ⟨_, _, he z w i hi, he y w i hi, eq_purP 9996 z y i w⟩
  have hi : ∀ (a b : Int) (w : World), (Op.equalIn 9999 2 (.int .i64 a) (.int .i64 b)).run Try.prog w = .ok (a == b) w := fun a b w => run_equalIn_int w 9998 _ _ _ a b Try.underlying2
  unfold Program.fieldsOf
  rw [Try.underlying26]
  refine (eq_fields w 9999 _ _ _ ?_ (fun f => if f.offset = 0 then (List.range 8).all (purE z y) else z 48 == y 48) ?_).trans ?_
  · intro f hf
    simp only [List.mem_cons, List.not_mem_nil, or_false] at hf
    rcases hf with rfl | rfl <;> decide
  · intro f hf
    simp only [List.mem_cons, List.not_mem_nil, or_false] at hf
    rcases hf with rfl | rfl
    · exact ⟨_, _, hp z w, hp y w, ha w⟩
    · exact ⟨_, _, hh z w, hh y w, hi _ _ _⟩
  · unfold tillE
    simp
theorem eqlP (z : Ti) (w : World) : (binOp .eql 26 (.agg (TC z)) (.agg (TC z))).run Try.prog w = .ok (.bool true) w := by
  rw [run_eql_struct, eq_tillP, tillE_same]; rfl
theorem neqP (z y : Ti) (w : World) : (binOp .neq 26 (.agg (TC z)) (.agg (TC y))).run Try.prog w = .ok (.bool (!tillE z y)) w := by
  rw [run_neq_struct, eq_tillP]; rfl

theorem eq_purR (d : Nat) (z y : Ti) (k : Nat) (w : World) : (Op.equalIn (d + 2) 27 (.agg (UC z k)) (.agg (UC y k))).run Try.prog w = .ok (purE z y k) w := by
  rw [run_equalIn_agg w (d + 1) 27 _ _ (by unfold Program.fieldsOf; rw [Try.underlying27]) (by kernel_rfl)]
  have hi : ∀ (a b : Int) (w : World), (Op.equalIn (d + 1) 2 (.int .i64 a) (.int .i64 b)).run Try.prog w = .ok (a == b) w := fun a b w => run_equalIn_int w d _ _ _ a b Try.underlying2
  unfold Program.fieldsOf
  rw [Try.underlying27]
  refine (eq_fields w (d + 1) _ _ _ ?_ (fun f => z (6 * k + f.offset) == y (6 * k + f.offset)) ?_).trans rfl
  · intro f hf
    simp only [List.mem_cons, List.not_mem_nil, or_false] at hf
    rcases hf with rfl | rfl | rfl | rfl | rfl | rfl <;> decide
  · intro f hf
    simp only [List.mem_cons, List.not_mem_nil, or_false] at hf
    rcases hf with rfl | rfl | rfl | rfl | rfl | rfl
    · exact ⟨_, _, pt0 z k w, pt0 y k w, hi _ _ _⟩
    · exact ⟨_, _, pt1 z k w, pt1 y k w, hi _ _ _⟩
    · exact ⟨_, _, pt2 z k w, pt2 y k w, hi _ _ _⟩
    · exact ⟨_, _, pt3 z k w, pt3 y k w, hi _ _ _⟩
    · exact ⟨_, _, pt4 z k w, pt4 y k w, hi _ _ _⟩
    · exact ⟨_, _, pt5 z k w, pt5 y k w, hi _ _ _⟩
theorem eq_tillR (z y : Ti) (w : World) : (Op.equalIn 10000 30 (.agg (TC z)) (.agg (TC y))).run Try.prog w = .ok (tillE z y) w := by
  rw [run_equalIn_agg w 9999 30 _ _ (by unfold Program.fieldsOf; rw [Try.underlying30]) (by kernel_rfl)]
  have hp : ∀ (v : Ti) (w : World), (part 28 (TC v) 0).run Try.prog w = .ok (.agg (PL v).toArray) w := fun v w => by kernel_rfl
  have hh : ∀ (v : Ti) (w : World), (part 2 (TC v) 48).run Try.prog w = .ok (.int .i64 (v 48)) w := fun v w => by kernel_rfl
  have he : ∀ (v : Ti) (w : World) (j : Nat), j < 8 → (part 27 (PL v).toArray (j * 6)).run Try.prog w = .ok (.agg (UC v j)) w := fun v w j hj => by
    rcases acc8 hj with rfl | rfl | rfl | rfl | rfl | rfl | rfl | rfl <;> kernel_rfl
  have ha : ∀ w : World, (Op.equalIn 9999 28 (.agg (PL z).toArray) (.agg (PL y).toArray)).run Try.prog w = .ok ((List.range 8).all (purE z y)) w := fun w =>
    eq_array w 9998 _ _ 8 6 _ _ Try.underlying28 (fun _ => by kernel_rfl) (purE z y) fun i hi => ⟨_, _, he z w i hi, he y w i hi, eq_purR 9996 z y i w⟩
  have hi : ∀ (a b : Int) (w : World), (Op.equalIn 9999 2 (.int .i64 a) (.int .i64 b)).run Try.prog w = .ok (a == b) w := fun a b w => run_equalIn_int w 9998 _ _ _ a b Try.underlying2
  unfold Program.fieldsOf
  rw [Try.underlying30]
  refine (eq_fields w 9999 _ _ _ ?_ (fun f => if f.offset = 0 then (List.range 8).all (purE z y) else z 48 == y 48) ?_).trans ?_
  · intro f hf
    simp only [List.mem_cons, List.not_mem_nil, or_false] at hf
    rcases hf with rfl | rfl <;> decide
  · intro f hf
    simp only [List.mem_cons, List.not_mem_nil, or_false] at hf
    rcases hf with rfl | rfl
    · exact ⟨_, _, hp z w, hp y w, ha w⟩
    · exact ⟨_, _, hh z w, hh y w, hi _ _ _⟩
  · unfold tillE
    simp
theorem eqlR (z : Ti) (w : World) : (binOp .eql 30 (.agg (TC z)) (.agg (TC z))).run Try.prog w = .ok (.bool true) w := by
  rw [run_eql_struct, eq_tillR, tillE_same]; rfl
theorem neqR (z y : Ti) (w : World) : (binOp .neq 30 (.agg (TC z)) (.agg (TC y))).run Try.prog w = .ok (.bool (!tillE z y)) w := by
  rw [run_neq_struct, eq_tillR]; rfl
theorem any_storeR {ops : Array Oper} {o : Oper} {a : Act} {w : World} {Q : Exit → Act → World → Prop} {K : Act → World → Prop} {E : Prop} (hgd : Region.wanted o (yielded ops a.tmps) = true) (x y : Operand) (ho : o.op = .store 30 x y) (g : Nat) (z : Ti) (hx : a.eval x = .pointer (some ⟨g, 0, none⟩)) (hy : a.eval y = .agg (TC z)) (z' : Ti) (t : TypeId)
    (hg : w.heap[g]? = some (.cells (TC z') t (0, 0))) (h : K (a.put o.dst undef) (w.setRow g (TC z))) : if Region.wanted o (yielded ops a.tmps) = true then Oper.wp Try.prog o a w K Q else E := by
  rw [if_pos hgd]
  exact wp_store_row _ x y ho g _ hx hy _ _ hg (infoR z) (by rw [TC_size, TC_size]) (TC_one z) h

end Go.Proofs.Ytpegkojcemggaab
