/- fees: the chapter's example. -/
import Derived.Test.YtghpafbgjbhohaaFeU
namespace Go.Proofs.Ytghpafbgjbhohaa
open Go.RowKit

def exf : List Ti := [⟨0, 10, 30⟩, ⟨1000, 5, 20⟩]
theorem exf_good : GoodT exf := by decide
theorem exf_of1 : ofN exf 999 100000 1 1 = 3 ∧ ofE exf 999 100000 1 1 = 0 := by decide
theorem exf_of2 : ofN exf 1000 100000 1 1 = 2 ∧ ofE exf 1000 100000 1 1 = 0 := by decide
theorem exf_top : topT exf = 30 := by decide

set_option maxHeartbeats 4000000 in
set_option maxRecDepth 100000 in
theorem lives8_c (w : World) : Calls Try.prog 25 #[] w (Got w (.bool true)) := by
  obtain ⟨W, hW⟩ : ∃ W, W = w.alloc (.cells #[.int .i64 0, .int .i64 10, .int .i64 30, .int .i64 1000, .int .i64 5, .int .i64 20] 41) := ⟨_, rfl⟩
  have hB : Hid (Below w.heap.size w W) := by show Below _ _ _; rw [hW]; exact (Below.refl _ w).alloc (Nat.le_refl _) _
  have hT : Tis W (some ⟨w.heap.size, 0, none⟩) 2 exf := by
    have hn : W.heap[w.heap.size]? = some (.cells #[.int .i64 0, .int .i64 10, .int .i64 30, .int .i64 1000, .int .i64 5, .int .i64 20] 41 (0, 0)) := by rw [hW]; exact heap_alloc_new w _
    refine ⟨rfl, by omega, fun x hx => ?_, .inr ⟨w.heap.size, 0, rfl, blk_lt hn, fun i hi => ?_⟩⟩
    · simp only [exf, List.mem_cons, List.not_mem_nil, or_false] at hx
      rcases hx with rfl | rfl <;> (unfold Ti.ok; simp)
    · match i, hi with
      | 0, _ => refine ⟨?_, ?_, ?_⟩ <;> (rw [cell_of_row _ _ _ _ _ _ hn]; rfl)
      | 1, _ => refine ⟨?_, ?_, ?_⟩ <;> (rw [cell_of_row _ _ _ _ _ _ hn]; rfl)
  have D := fun (W' : World) (h : Below W.heap.size W W') => of_c 999 100000 1 1 (some ⟨w.heap.size, 0, none⟩) 2 2 exf W' (hT.below h)
  rw [exf_of1.1, exf_of1.2] at D
  have U := fun (W' : World) (h : Below W.heap.size W W') => of_c 1000 100000 1 1 (some ⟨w.heap.size, 0, none⟩) 2 2 exf W' (hT.below h)
  rw [exf_of2.1, exf_of2.2] at U
  have V := fun (W' : World) (h : Below W.heap.size W W') => top_c (some ⟨w.heap.size, 0, none⟩) 2 2 exf W' (hT.below h)
  rw [exf_top] at V
  have D0 := Lib.hid (D W (Below.refl _ _))
  have HU := Lib.hid U
  have HV := Lib.hid V
  have hs := Lib.hid hB.out.size
  rw [hW] at D0
  clear D U V hT
  go_enter Try.func25, Try.ntmps25
  go_wp2_with fail
  ((with_reducible refine D0.out.mono ?_); rintro e w1 ⟨rfl, b1⟩)
  rw [← hW] at b1
  have B1 := Lib.hid b1
  have N1 := Lib.hid (HU.out w1 b1)
  clear b1 D0 HU
  have HW := Lib.hid hW
  clear hW
  go_wp2_with fail
  ((with_reducible refine N1.out.mono ?_); rintro e w2 ⟨rfl, b2⟩)
  have B2 : Hid (Below W.heap.size W w2) := B1.out.trans (b2.mono B1.out.size)
  have N2 := Lib.hid (HV.out w2 B2.out)
  clear b2 N1 HV B1
  go_wp2_with fail
  ((with_reducible refine N2.out.mono ?_); rintro e w3 ⟨rfl, b3⟩)
  have B3 : Hid (Below w.heap.size w w3) := hB.out.trans ((B2.out.trans (b3.mono B2.out.size)).mono hs.out)
  clear b3 N2 B2
  go_wp2_with fail
  go_ret
  exact ⟨rfl, B3.out⟩
end Go.Proofs.Ytghpafbgjbhohaa
