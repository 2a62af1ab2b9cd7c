/- order: Good; two orders held against each other; slices.Equal. (By mkore.py.) -/
import Derived.Test.YtpibkjldmmecpaaOrD
import Derived.Laws.StructEq
namespace Go.Proofs.Ytpibkjldmmecpaa
open Go.RowKit

/-- Good orders. -/
def goodO (x : Od) : Bool := decide (0 ≤ x.acc) && (decide (x.acc < 8) && ((rkN x.side != 2) && (decide (1 ≤ x.price) && (decide (x.price ≤ 1099511627776) && (decide (1 ≤ x.qty) && decide (x.qty ≤ 1099511627776))))))
/-! Two orders held against each other. -/
theorem eqf {P : Program} (w : World) (d : Nat) (xs ys : Array Value) (fs : List Field) (hn : ∀ f ∈ fs, f.name ≠ "_") (E : Field → Bool)
    (h : ∀ f ∈ fs, ∃ a b, (part f.type xs f.offset).run P w = .ok a w ∧ (part f.type ys f.offset).run P w = .ok b w ∧ (Op.equalIn d f.type a b).run P w = .ok (E f) w) :
    (Op.eqFields d xs ys fs).run P w = .ok (fs.all E) w := by
  induction fs with
  | nil => simp [Op.eqFields]
  | cons f fs ih =>
    obtain ⟨a, b, h1, h2, h3⟩ := h f List.mem_cons_self
    have ih' := ih (fun g hg => hn g (List.mem_cons_of_mem _ hg)) (fun g hg => h g (List.mem_cons_of_mem _ hg))
    simp only [Op.eqFields]
    rw [if_pos (hn f List.mem_cons_self)]
    simp only [Sem.run_bind, h1, h2, h3, Result.andThen_ok, Sem.run_ite, List.all_cons]
    cases hE : E f
    · simp
    · simpa using ih'
def fld (x : Od) : Nat → Int
  | 0 => x.id | 1 => x.acc | 2 => x.side | 3 => x.price | 4 => x.qty | _ => x.seq
def eqO (x y : Od) : Bool := [0, 1, 2, 3, 4, 5].all fun i => fld x i == fld y i
theorem eqO_iff (x y : Od) : eqO x y = true ↔ x = y := by
  unfold eqO
  simp only [List.all_cons, List.all_nil, Bool.and_true, Bool.and_eq_true, beq_iff_eq, fld]
  constructor
  · rintro ⟨h0, h1, h2, h3, h4, h5⟩
    cases x; cases y; simp only at *; subst h0 h1 h2 h3 h4 h5; rfl
  · rintro rfl; simp
abbrev OC (x : Od) : Array Value := #[.int .u64 x.id, .int .i64 x.acc, .int .i64 x.side, .int .i64 x.price, .int .i64 x.qty, .int .u64 x.seq]
theorem ptP0 (x : Od) (w : World) : (part 27 (OC x) 0).run Try.prog w = .ok (.int .u64 (fld x 0)) w := by kernel_rfl
theorem ptP1 (x : Od) (w : World) : (part 3 (OC x) 1).run Try.prog w = .ok (.int .i64 (fld x 1)) w := by kernel_rfl
theorem ptP2 (x : Od) (w : World) : (part 3 (OC x) 2).run Try.prog w = .ok (.int .i64 (fld x 2)) w := by kernel_rfl
theorem ptP3 (x : Od) (w : World) : (part 2 (OC x) 3).run Try.prog w = .ok (.int .i64 (fld x 3)) w := by kernel_rfl
theorem ptP4 (x : Od) (w : World) : (part 2 (OC x) 4).run Try.prog w = .ok (.int .i64 (fld x 4)) w := by kernel_rfl
theorem ptP5 (x : Od) (w : World) : (part 27 (OC x) 5).run Try.prog w = .ok (.int .u64 (fld x 5)) w := by kernel_rfl
theorem eq_ordP (x y : Od) (w : World) : (Op.equalIn 10000 29 (.agg (OC x)) (.agg (OC y))).run Try.prog w = .ok (eqO x y) w := by
  rw [run_equalIn_agg w 9999 29 _ _ (by unfold Program.fieldsOf; rw [Try.underlying29]) (by kernel_rfl)]
  have h1 : ∀ (a b : Int) (w : World), (Op.equalIn 9999 27 (.int .u64 a) (.int .u64 b)).run Try.prog w = .ok (a == b) w := fun a b w => run_equalIn_int w 9998 _ _ _ a b Try.underlying27
  have h2 : ∀ (a b : Int) (w : World), (Op.equalIn 9999 2 (.int .i64 a) (.int .i64 b)).run Try.prog w = .ok (a == b) w := fun a b w => run_equalIn_int w 9998 _ _ _ a b Try.underlying2
  have h3 : ∀ (a b : Int) (w : World), (Op.equalIn 9999 3 (.int .i64 a) (.int .i64 b)).run Try.prog w = .ok (a == b) w := fun a b w => run_equalIn_int w 9998 _ _ _ a b Try.underlying3
  unfold Program.fieldsOf
  rw [Try.underlying29]
  refine (eqf w 9999 _ _ _ ?_ (fun f => fld x f.offset == fld y f.offset) ?_).trans rfl
  · intro f hf
    simp only [List.mem_cons, List.not_mem_nil, or_false] at hf
    rcases hf with rfl | rfl | rfl | rfl | rfl | rfl <;> decide
  · intro f hf
    simp only [List.mem_cons, List.not_mem_nil, or_false] at hf
    rcases hf with rfl | rfl | rfl | rfl | rfl | rfl
    · exact ⟨_, _, ptP0 x w, ptP0 y w, h1 _ _ _⟩
    · exact ⟨_, _, ptP1 x w, ptP1 y w, h3 _ _ _⟩
    · exact ⟨_, _, ptP2 x w, ptP2 y w, h3 _ _ _⟩
    · exact ⟨_, _, ptP3 x w, ptP3 y w, h2 _ _ _⟩
    · exact ⟨_, _, ptP4 x w, ptP4 y w, h2 _ _ _⟩
    · exact ⟨_, _, ptP5 x w, ptP5 y w, h1 _ _ _⟩
theorem neqP (x y : Od) (w : World) : (binOp .neq 29 (.agg (OC x)) (.agg (OC y))).run Try.prog w = .ok (.bool (!eqO x y)) w := by
  rw [run_neq_struct, eq_ordP]; rfl
theorem ptR0 (x : Od) (w : World) : (part 27 (OC x) 0).run Try.prog w = .ok (.int .u64 (fld x 0)) w := by kernel_rfl
theorem ptR1 (x : Od) (w : World) : (part 3 (OC x) 1).run Try.prog w = .ok (.int .i64 (fld x 1)) w := by kernel_rfl
theorem ptR2 (x : Od) (w : World) : (part 3 (OC x) 2).run Try.prog w = .ok (.int .i64 (fld x 2)) w := by kernel_rfl
theorem ptR3 (x : Od) (w : World) : (part 2 (OC x) 3).run Try.prog w = .ok (.int .i64 (fld x 3)) w := by kernel_rfl
theorem ptR4 (x : Od) (w : World) : (part 2 (OC x) 4).run Try.prog w = .ok (.int .i64 (fld x 4)) w := by kernel_rfl
theorem ptR5 (x : Od) (w : World) : (part 27 (OC x) 5).run Try.prog w = .ok (.int .u64 (fld x 5)) w := by kernel_rfl
theorem eq_ordR (x y : Od) (w : World) : (Op.equalIn 10000 42 (.agg (OC x)) (.agg (OC y))).run Try.prog w = .ok (eqO x y) w := by
  rw [run_equalIn_agg w 9999 42 _ _ (by unfold Program.fieldsOf; rw [Try.underlying42]) (by kernel_rfl)]
  have h1 : ∀ (a b : Int) (w : World), (Op.equalIn 9999 27 (.int .u64 a) (.int .u64 b)).run Try.prog w = .ok (a == b) w := fun a b w => run_equalIn_int w 9998 _ _ _ a b Try.underlying27
  have h2 : ∀ (a b : Int) (w : World), (Op.equalIn 9999 2 (.int .i64 a) (.int .i64 b)).run Try.prog w = .ok (a == b) w := fun a b w => run_equalIn_int w 9998 _ _ _ a b Try.underlying2
  have h3 : ∀ (a b : Int) (w : World), (Op.equalIn 9999 3 (.int .i64 a) (.int .i64 b)).run Try.prog w = .ok (a == b) w := fun a b w => run_equalIn_int w 9998 _ _ _ a b Try.underlying3
  unfold Program.fieldsOf
  rw [Try.underlying42]
  refine (eqf w 9999 _ _ _ ?_ (fun f => fld x f.offset == fld y f.offset) ?_).trans rfl
  · intro f hf
    simp only [List.mem_cons, List.not_mem_nil, or_false] at hf
    rcases hf with rfl | rfl | rfl | rfl | rfl | rfl <;> decide
  · intro f hf
    simp only [List.mem_cons, List.not_mem_nil, or_false] at hf
    rcases hf with rfl | rfl | rfl | rfl | rfl | rfl
    · exact ⟨_, _, ptR0 x w, ptR0 y w, h1 _ _ _⟩
    · exact ⟨_, _, ptR1 x w, ptR1 y w, h3 _ _ _⟩
    · exact ⟨_, _, ptR2 x w, ptR2 y w, h3 _ _ _⟩
    · exact ⟨_, _, ptR3 x w, ptR3 y w, h2 _ _ _⟩
    · exact ⟨_, _, ptR4 x w, ptR4 y w, h2 _ _ _⟩
    · exact ⟨_, _, ptR5 x w, ptR5 y w, h1 _ _ _⟩
theorem neqR (x y : Od) (w : World) : (binOp .neq 42 (.agg (OC x)) (.agg (OC y))).run Try.prog w = .ok (.bool (!eqO x y)) w := by
  rw [run_neq_struct, eq_ordR]; rfl
end Go.Proofs.Ytpibkjldmmecpaa
