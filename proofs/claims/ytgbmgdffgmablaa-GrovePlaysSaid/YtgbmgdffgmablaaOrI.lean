/- order: the chapter's example. (By mkori.py.) -/
import Derived.Test.YtgbmgdffgmablaaOrH
namespace Go.Proofs.Ytgbmgdffgmablaa
open Go.RowKit Go.Sort Go.Lib Go.Shelf

def x1 : Od := ⟨1, 0, 1, 10, 1, 2⟩
def x2 : Od := ⟨2, 0, 1, 11, 1, 3⟩
def x3 : Od := ⟨3, 0, 1, 10, 1, 1⟩
theorem ex_sort : sortO [x1, x2, x3] = [x2, x3, x1] := by
  refine (sortO_eq (D := [(x2, 1), (x3, 2), (x1, 0)]) ?_ ?_)
  · exact List.perm_append_comm (l₁ := [(x2, 1), (x3, 2)]) (l₂ := [(x1, 0)])
  · decide +kernel
theorem ex_stays : sortO [x2, x3, x1] = [x2, x3, x1] := by
  refine (sortO_eq (D := [(x2, 0), (x3, 1), (x1, 2)]) (List.Perm.refl _) ?_)
  decide +kernel
theorem ex_book : bookO [x2, x3, x1] = true := by
  unfold bookO
  rw [ex_stays]
  decide +kernel
theorem ex_ok (w : World) : ∀ x ∈ [x1, x2, x3], Od.ok w x := by
  intro x hx
  simp only [List.mem_cons, List.not_mem_nil, or_false] at hx
  rcases hx with rfl | rfl | rfl <;> (unfold Od.ok; decide)
theorem ex_row {w : World} {b : Nat} {t : TypeId} (h : w.heap[b]? = some (.cells #[.int .u64 1, .int .i64 0, .int .i64 1, .int .i64 10, .int .i64 1, .int .u64 2, .int .u64 2, .int .i64 0, .int .i64 1, .int .i64 11, .int .i64 1, .int .u64 3, .int .u64 3, .int .i64 0, .int .i64 1, .int .i64 10, .int .i64 1, .int .u64 1] t (0, 0))) : Ods w (some ⟨b, 0, none⟩) 3 [x1, x2, x3] := by
  refine ⟨rfl, by omega, ex_ok w, .inr ⟨b, 0, rfl, blk_lt h, fun i hi => ?_⟩⟩
  have e : i = 0 ∨ i = 1 ∨ i = 2 := by omega
  rcases e with rfl | rfl | rfl
  · refine at_of fun c u hu => ?_
    have hc : c < 6 := (List.getElem?_eq_some_iff.1 hu).1
    rw [cell_of_row _ _ _ _ _ _ h, ← hu]
    have e : c = 0 ∨ c = 1 ∨ c = 2 ∨ c = 3 ∨ c = 4 ∨ c = 5 := by omega
    rcases e with rfl | rfl | rfl | rfl | rfl | rfl <;> rfl
  · refine at_of fun c u hu => ?_
    have hc : c < 6 := (List.getElem?_eq_some_iff.1 hu).1
    rw [cell_of_row _ _ _ _ _ _ h, ← hu]
    have e : c = 0 ∨ c = 1 ∨ c = 2 ∨ c = 3 ∨ c = 4 ∨ c = 5 := by omega
    rcases e with rfl | rfl | rfl | rfl | rfl | rfl <;> rfl
  · refine at_of fun c u hu => ?_
    have hc : c < 6 := (List.getElem?_eq_some_iff.1 hu).1
    rw [cell_of_row _ _ _ _ _ _ h, ← hu]
    have e : c = 0 ∨ c = 1 ∨ c = 2 ∨ c = 3 ∨ c = 4 ∨ c = 5 := by omega
    rcases e with rfl | rfl | rfl | rfl | rfl | rfl <;> rfl
end Go.Proofs.Ytgbmgdffgmablaa
