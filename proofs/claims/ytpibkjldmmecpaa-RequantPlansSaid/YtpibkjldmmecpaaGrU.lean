/- grid: counts, the code's and the reference's. -/
import Derived.Test.YtpibkjldmmecpaaGrT
namespace Go.Proofs.Ytpibkjldmmecpaa
open Go.RowKit

theorem may9 (t : List Tk) (p : Int) : May (t.take 9) p ↔ May t p := by
  rcases take9 t with h | ⟨h1, h2⟩
  · rw [h]
  · exact ⟨fun h => absurd h.1 h2, fun h => absurd h.1 h1⟩
theorem count9 (t : List Tk) (lo hi : Int) : countN (t.take 9) lo hi = countN t lo hi := by
  rcases take9 t with h | ⟨h1, h2⟩
  · rw [h]
  · unfold countN
    rw [if_neg (fun h => h2 h.1.1), if_neg (fun h => h1 h.1.1)]

end Go.Proofs.Ytpibkjldmmecpaa
