/- limits: the chapter's example. -/
import Derived.Test.YtghpafbgjbhohaaLiB
namespace Go.Proofs.Ytghpafbgjbhohaa
open Go.RowKit

set_option maxHeartbeats 4000000 in
set_option maxRecDepth 100000 in
theorem lives7_c (w : World) : Calls Try.prog 15 #[] w (Got w (.bool true)) := by
  have H1 := Lib.hid (edges_c 1000 50000 (by unfold InR; omega) (by unfold InR; omega))
  rw [show lowN 1000 50000 = 950 from by decide, show highN 1000 50000 = 1050 from by decide] at H1
  have H2 := Lib.hid (band_c 1000 949 50000 (by unfold InR; omega) (by unfold InR; omega))
  rw [show bandN 1000 949 50000 = 42 from by decide] at H2
  have H3 := Lib.hid (lot_c 10 30)
  rw [show lotN 10 30 = 0 from by decide] at H3
  have H4 := Lib.hid (trim_c 10 39 (by unfold InR; omega) (by unfold InR; omega))
  rw [show trimN 10 39 = 30 from by decide] at H4
  go_enter Try.func15, Try.ntmps15
  go_wp2_with fail
  ((with_reducible refine (H1.out _).mono ?_); rintro e w1 ⟨rfl, b1⟩)
  have B1 := Lib.hid b1
  clear b1
  go_wp2_with fail
  ((with_reducible refine (H2.out _).mono ?_); rintro e w2 ⟨rfl, b2⟩)
  have B2 : Hid (Below w.heap.size w w2) := B1.out.trans (b2.mono B1.out.size)
  clear b2 B1
  go_wp2_with fail
  ((with_reducible refine (H3.out _).mono ?_); rintro e w3 ⟨rfl, rfl⟩)
  go_wp2_with fail
  ((with_reducible refine (H4.out _).mono ?_); rintro e w3 ⟨rfl, rfl⟩)
  go_wp2_with fail
  go_ret
  exact ⟨rfl, B2.out⟩
end Go.Proofs.Ytghpafbgjbhohaa
