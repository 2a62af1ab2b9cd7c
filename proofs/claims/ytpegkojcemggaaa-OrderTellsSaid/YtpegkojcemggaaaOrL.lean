/- order: two orders in boxes, for OrderTells. -/
import Derived.Test.YtpegkojcemggaaaOrK
namespace Go.Proofs.Ytpegkojcemggaaa
open Go.RowKit Go.Sort Go.Lib Go.Shelf

/-- Two boxes hold x and y; what was there is as it was. -/
def ST (w : World) (x y : Od) (w' : World) : Prop := Below w.heap.size w w' ∧ w'.heap[w.heap.size]? = some (.cells (OC x) 24 (0, 0)) ∧ w'.heap[w.heap.size + 1]? = some (.cells (OC y) 24 (0, 0))
theorem ST.drew {w w' : World} {x y : Od} (h : ST w x y w') : ST w x y w'.drew := ⟨h.1.drew, h.2.1, h.2.2⟩
theorem ST.below {w a b : World} {x y : Od} (k : Below a.heap.size a b) (h : ST w x y a) : ST w x y b :=
  ⟨h.1.trans (k.mono h.1.size), (k.block _ (blk_lt h.2.1)).trans h.2.1, (k.block _ (blk_lt h.2.2)).trans h.2.2⟩
theorem ST.gw {w a b : World} {x y : Od} (k : Gw a b) (h : ST w x y a) : ST w x y b := h.below k.b
theorem st_start (w : World) (x y : Od) : ST w x y ((w.alloc (Obj.cells (OC x) 24)).alloc (Obj.cells (OC y) 24)) :=
  ⟨((Below.refl _ _).alloc (Nat.le_refl _) _).alloc (by simp) _, hd_prev (by simp) (hd_last rfl), hd_last (by simp)⟩
theorem good_l (x : Od) (w : World) : Calls Try.prog 11 #[.agg (OC x)] w fun e w' => e = .returned (.bool (goodO x)) ∧ Gw w w' := good_c x w
end Go.Proofs.Ytpegkojcemggaaa
