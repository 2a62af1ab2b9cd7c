/- acks: a table held against itself. -/
import Derived.Test.YthbocddkomhpoaaAdB
import Derived.Laws.StructEq
namespace Go.Proofs.Ythbocddkomhpoaa
open Go.RowKit Go.Lib
set_option linter.unusedVariables false

/-- Two structs are the same where all their fields are (no field is named '_'). -/
theorem eq_fields {P : Program} (w : World) (d : Nat) (xs ys : Array Value) (fs : List Field) (hn : ∀ f ∈ fs, f.name ≠ "_") (E : Field → Bool)
    (h : ∀ f ∈ fs, ∃ a b, (part f.type xs f.offset).run P w = .ok a w ∧ (part f.type ys f.offset).run P w = .ok b w ∧ (Op.equalIn d f.type a b).run P w = .ok (E f) w) :
    (Op.eqFields d xs ys fs).run P w = .ok (fs.all E) w := by
  induction fs with
  | nil => simp [Op.eqFields]
  | cons f fs ih =>
    obtain ⟨a, b, h1, h2, h3⟩ := h f List.mem_cons_self
    have ih' := ih (fun g hg => hn g (List.mem_cons_of_mem _ hg)) (fun g hg => h g (List.mem_cons_of_mem _ hg))
    simp only [Op.eqFields]
    rw [if_pos (hn f List.mem_cons_self)]
    simp only [Sem.run_bind, h1, h2, h3, Result.andThen_ok, Sem.run_ite, List.all_cons]
    cases hE : E f
    · simp
    · simpa using ih'
abbrev SL (z : Ta) : Array Value := #[.int .u64 (z 1 : Int), .int .u64 (z 2 : Int), .int .u64 (z 3 : Int), .int .u64 (z 4 : Int), .int .u64 (z 5 : Int), .int .u64 (z 6 : Int), .int .u64 (z 7 : Int)]
theorem ps0 (z : Ta) (w : World) : (part 24 (SL z) (0 * 1)).run Try.prog w = .ok (.int .u64 (z 1 : Int)) w := by kernel_rfl
theorem ps1 (z : Ta) (w : World) : (part 24 (SL z) (1 * 1)).run Try.prog w = .ok (.int .u64 (z 2 : Int)) w := by kernel_rfl
theorem ps2 (z : Ta) (w : World) : (part 24 (SL z) (2 * 1)).run Try.prog w = .ok (.int .u64 (z 3 : Int)) w := by kernel_rfl
theorem ps3 (z : Ta) (w : World) : (part 24 (SL z) (3 * 1)).run Try.prog w = .ok (.int .u64 (z 4 : Int)) w := by kernel_rfl
theorem ps4 (z : Ta) (w : World) : (part 24 (SL z) (4 * 1)).run Try.prog w = .ok (.int .u64 (z 5 : Int)) w := by kernel_rfl
theorem ps5 (z : Ta) (w : World) : (part 24 (SL z) (5 * 1)).run Try.prog w = .ok (.int .u64 (z 6 : Int)) w := by kernel_rfl
theorem ps6 (z : Ta) (w : World) : (part 24 (SL z) (6 * 1)).run Try.prog w = .ok (.int .u64 (z 7 : Int)) w := by kernel_rfl
theorem pn0 (z : Ta) (w : World) : (part 3 (AC z) 0).run Try.prog w = .ok (.int .i64 (z 0 : Int)) w := by kernel_rfl
theorem pn1 (z : Ta) (w : World) : (part 25 (AC z) 1).run Try.prog w = .ok (.agg (SL z)) w := by kernel_rfl
theorem eq_sets (z : Ta) (w : World) : (Op.equalIn 9999 25 (.agg (SL z)) (.agg (SL z))).run Try.prog w = .ok true w := by
  have hs : ∀ w : World, (sizeOf 24).run Try.prog w = .ok 1 w := by intro w; kernel_rfl
  refine (eq_array w 9998 25 24 7 1 _ _ Try.underlying25 hs (fun _ => true) fun i hi => ?_).trans ?_
  · have hi' : ∀ (a : Int), (Op.equalIn 9998 24 (.int .u64 a) (.int .u64 a)).run Try.prog w = .ok true w := fun a => by
      rw [run_equalIn_int w 9997 _ _ _ a a Try.underlying24]; simp
    have h7 : i = 0 ∨ i = 1 ∨ i = 2 ∨ i = 3 ∨ i = 4 ∨ i = 5 ∨ i = 6 := by omega
    rcases h7 with rfl | rfl | rfl | rfl | rfl | rfl | rfl
    · exact ⟨_, _, ps0 z w, ps0 z w, hi' _⟩
    · exact ⟨_, _, ps1 z w, ps1 z w, hi' _⟩
    · exact ⟨_, _, ps2 z w, ps2 z w, hi' _⟩
    · exact ⟨_, _, ps3 z w, ps3 z w, hi' _⟩
    · exact ⟨_, _, ps4 z w, ps4 z w, hi' _⟩
    · exact ⟨_, _, ps5 z w, ps5 z w, hi' _⟩
    · exact ⟨_, _, ps6 z w, ps6 z w, hi' _⟩
  · simp
theorem eq_tab (z : Ta) (w : World) : (Op.equalIn 10000 27 (.agg (AC z)) (.agg (AC z))).run Try.prog w = .ok true w := by
  rw [run_equalIn_agg w 9999 27 _ _ (by unfold Program.fieldsOf; rw [Try.underlying27]) (by kernel_rfl)]
  have hi : (Op.equalIn 9999 3 (.int .i64 (z 0 : Int)) (.int .i64 (z 0 : Int))).run Try.prog w = .ok true w := by
    rw [run_equalIn_int w 9998 _ _ _ _ _ Try.underlying3]; simp
  unfold Program.fieldsOf
  rw [Try.underlying27]
  refine (eq_fields w 9999 _ _ _ ?_ (fun _ => true) ?_).trans ?_
  · intro f hf
    simp only [List.mem_cons, List.not_mem_nil, or_false] at hf
    rcases hf with rfl | rfl <;> decide
  · intro f hf
    simp only [List.mem_cons, List.not_mem_nil, or_false] at hf
    rcases hf with rfl | rfl
    · exact ⟨_, _, pn0 z w, pn0 z w, hi⟩
    · exact ⟨_, _, pn1 z w, pn1 z w, eq_sets z w⟩
  · simp
end Go.Proofs.Ythbocddkomhpoaa
