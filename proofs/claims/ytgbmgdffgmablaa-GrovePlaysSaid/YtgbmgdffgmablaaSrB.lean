/- slices.symMergeCmpFunc. (By mksym.py.) -/
import Derived.Test.YtgbmgdffgmablaaSrA
namespace Go.Proofs.Ytgbmgdffgmablaa
open Go.RowKit Go.Sort Go.Lib Go.Shelf

theorem runs_w {α : Type} {r : α → α → Bool} {x y : α} {c : Int} (h : decide (c < 0) = r x y) (hc : c < 0) : r x y = true := by rw [← h]; exact decide_eq_true hc
theorem runs_n {α : Type} {r : α → α → Bool} {x y : α} {c : Int} (h : decide (c < 0) = r x y) (hc : ¬ c < 0) : r x y = false := by rw [← h]; exact decide_eq_false hc
variable (k : Nat) (aE : ∀ w, (isAgg 24).run Try.prog w = .ok true w) (zE : ∀ w, (Go.sizeOf 24).run Try.prog w = .ok k w) (enc : Dd → List Value) (lt : Od → Od → Bool) (cf : Dd → Dd → Int) (hcf : ∀ x y, decide (cf x y < 0) = lt x.1 y.1) (hO : SWO lt)
  (g : Nat) (cb : Array Value) (blk off cap : Nat) (d0 : Array Dd) (w0 : World) (eg : ∀ args w, (callFunc g args).run Try.prog w = .ok (.enter g args) w) (R : RowK enc k w0 blk off d0) (hC : CmpLays Try.prog g cb enc k cf blk off d0.size w0)
end Go.Proofs.Ytgbmgdffgmablaa
