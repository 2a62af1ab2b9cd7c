/- order: the chapter's example. (By mkori.py.) -/
import Derived.Test.YtemmbgbmkihbaaaOrH
namespace Go.Proofs.Ytemmbgbmkihbaaa
open Go.RowKit Go.Sort Go.Lib Go.Shelf

def x1 : Od := ⟨1, 0, 1, 10, 1, 2⟩
def x2 : Od := ⟨2, 0, 1, 11, 1, 3⟩
def x3 : Od := ⟨3, 0, 1, 10, 1, 1⟩
theorem ex_sort : sortO [x1, x2, x3] = [x2, x3, x1] := by
  refine (sortO_eq (D := [(x2, 1), (x3, 2), (x1, 0)]) ?_ ?_)
  · exact List.perm_append_comm (l₁ := [(x2, 1), (x3, 2)]) (l₂ := [(x1, 0)])
  · decide +kernel
theorem ex_stays : sortO [x2, x3, x1] = [x2, x3, x1] := by
  refine (sortO_eq (D := [(x2, 0), (x3, 1), (x1, 2)]) (List.Perm.refl _) ?_)
  decide +kernel
theorem ex_book : bookO [x2, x3, x1] = true := by
  unfold bookO
  rw [ex_stays]
  decide +kernel
theorem ex_ok (w : World) : ∀ x ∈ [x1, x2, x3], Od.ok w x := by
  intro x hx
  simp only [List.mem_cons, List.not_mem_nil, or_false] at hx
  rcases hx with rfl | rfl | rfl <;> (unfold Od.ok; decide)
theorem ex_row {w : World} {b : Nat} {t : TypeId} (h : w.heap[b]? = some (.cells #[.int .u64 1, .int .i64 0, .int .i64 1, .int .i64 10, .int .i64 1, .int .u64 2, .int .u64 2, .int .i64 0, .int .i64 1, .int .i64 11, .int .i64 1, .int .u64 3, .int .u64 3, .int .i64 0, .int .i64 1, .int .i64 10, .int .i64 1, .int .u64 1] t (0, 0))) : Ods w (some ⟨b, 0, none⟩) 3 [x1, x2, x3] := by
  refine ⟨rfl, by omega, ex_ok w, .inr ⟨b, 0, rfl, blk_lt h, fun i hi => ?_⟩⟩
  have e : i = 0 ∨ i = 1 ∨ i = 2 := by omega
  rcases e with rfl | rfl | rfl
  · refine at_of fun c u hu => ?_
    have hc : c < 6 := (List.getElem?_eq_some_iff.1 hu).1
    rw [cell_of_row _ _ _ _ _ _ h, ← hu]
    have e : c = 0 ∨ c = 1 ∨ c = 2 ∨ c = 3 ∨ c = 4 ∨ c = 5 := by omega
    rcases e with rfl | rfl | rfl | rfl | rfl | rfl <;> rfl
  · refine at_of fun c u hu => ?_
    have hc : c < 6 := (List.getElem?_eq_some_iff.1 hu).1
    rw [cell_of_row _ _ _ _ _ _ h, ← hu]
    have e : c = 0 ∨ c = 1 ∨ c = 2 ∨ c = 3 ∨ c = 4 ∨ c = 5 := by omega
    rcases e with rfl | rfl | rfl | rfl | rfl | rfl <;> rfl
  · refine at_of fun c u hu => ?_
    have hc : c < 6 := (List.getElem?_eq_some_iff.1 hu).1
    rw [cell_of_row _ _ _ _ _ _ h, ← hu]
    have e : c = 0 ∨ c = 1 ∨ c = 2 ∨ c = 3 ∨ c = 4 ∨ c = 5 := by omega
    rcases e with rfl | rfl | rfl | rfl | rfl | rfl <;> rfl
set_option maxHeartbeats 4000000 in
set_option maxRecDepth 100000 in
theorem lives12_c (w : World) : Calls Try.prog 28 #[] w fun e w' => e = .returned (.bool true) ∧ Below w.heap.size w w' := by
  have mixed : Try.prog.follows .mixedOrders = true := by kernel_rfl
  have HS : Aside (∀ (A : Option Addr) (c : Nat) (W : World), Ods W A 3 [x1, x2, x3] → Calls Try.prog 31 #[.slice A 3 c] W (SortedIs W [x1, x2, x3] 3)) := fun A c W h => sorted_c A 3 c _ W h (by omega)
  have HB : Aside (∀ (A : Option Addr) (c : Nat) (W : World), Ods W A 3 [x2, x3, x1] → Calls Try.prog 32 #[.slice A 3 c] W (BookIs W true)) := fun A c W h => by
    have := book_c A 3 c _ W h (by omega) (sort12_c 3 (by omega))
    rw [ex_book] at this
    exact this
  go_enter Try.func28, Try.ntmps28
  go_wp2_with fail
  refine (HS.out _ _ _ (ex_row (heap_alloc_new w _))).mono ?_
  rintro e w1 ⟨A, c, rfl, _, O1, b1⟩
  rw [ex_sort] at O1
  have B1 : Hid (Below w.heap.size w w1) := Lib.hid (((Below.refl _ _).alloc (Nat.le_refl _) _).trans (b1.mono (by simp)))
  have HO : Aside (Ods w1 A 3 [x2, x3, x1]) := O1
  obtain ⟨_, _, _, h⟩ := O1
  rcases h with h | ⟨b, off, rfl, _, hc⟩
  · omega
  have h0 := (hc 0 (by omega)).1
  have h1 := (hc 1 (by omega)).1
  have h2 := (hc 2 (by omega)).1
  have h0' : w1.cell? ⟨b, off, none⟩ = some (.int .u64 2) := h0
  have h1' : w1.cell? ⟨b, off + 6, none⟩ = some (.int .u64 3) := h1
  have h2' : w1.cell? ⟨b, off + 12, none⟩ = some (.int .u64 1) := h2
  clear h0 h1 h2 hc b1
  go_wp2_with fail
  refine (HB.out _ _ _ HO.out).mono ?_
  rintro e w2 ⟨rfl, b2⟩
  have B2 : Hid (Below w.heap.size w w2) := Lib.hid (B1.out.trans (b2.mono B1.out.size))
  clear b2 B1 HO h0' h1' h2'
  go_wp2_with fail
  go_ret
  exact ⟨rfl, B2.out⟩
end Go.Proofs.Ytemmbgbmkihbaaa
