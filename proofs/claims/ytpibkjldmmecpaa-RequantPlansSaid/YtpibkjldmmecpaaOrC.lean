/- order: what the sort compares by (order.Sorted's function). -/
import Derived.Test.YtpibkjldmmecpaaOrB
import Derived.Test.YtpibkjldmmecpaaSrM
import Derived.Deep.RegionLaw
namespace Go.Proofs.Ytpibkjldmmecpaa
open Go.RowKit

/-- Is the first order ahead of the second one? -/
def ahdO (x y : Od) : Bool := ahdN x.id x.side x.price x.seq y.id y.side y.price y.seq
def cmpO (x y : Od) : Int := if rkN x.side ≠ rkN y.side then rkN x.side - rkN y.side else if ahdO x y = true then -1 else if ahdO y x = true then 1 else 0
theorem rk_r (s : Int) : 0 ≤ rkN s ∧ rkN s ≤ 2 := by unfold rkN; (repeat' split) <;> omega
section
variable {ops : Array Oper} {rest : List Oper} {o : Oper} {a : Act} {w : World} {Q : Exit → Act → World → Prop}
theorem loadO (hgd : Region.wanted o (yielded ops a.tmps) = true) (x : Operand) (ho : o.op = .load 29 x) (g : Nat) (hx : a.eval x = .pointer (some ⟨g, 0, none⟩)) (z : Od) (t : TypeId)
    (hg : w.heap[g]? = some (.cells (encO z).toArray t (0, 0))) (h : wpList Try.prog ops Q rest (a.put o.dst z.val) w) : wpList Try.prog ops Q (o :: rest) a w :=
  BigFrame.wpList_want hgd fun _ hK => wp_load_row _ x ho g hx _ _ (0, 0) _ hg Try.underlying29 rfl infoO (hK _ _ h)
end
theorem two_box (w : World) (o1 o2 : Obj) (n : Nat) : (((w.alloc o1).alloc o2).drewN n).heap[w.heap.size]? = some o1 ∧ (((w.alloc o1).alloc o2).drewN n).heap[w.heap.size + 1]? = some o2 ∧ Gw w (((w.alloc o1).alloc o2).drewN n) ∧ (((w.alloc o1).alloc o2).drewN n).heap.size = w.heap.size + 2 := by
  refine ⟨?_, ?_, ⟨?_, ?_⟩, ?_⟩
  · show ((w.alloc o1).alloc o2).heap[w.heap.size]? = some o1
    exact hd_prev (by simp) (hd_last rfl)
  · show ((w.alloc o1).alloc o2).heap[w.heap.size + 1]? = some o2
    exact hd_last (by simp)
  · exact below_drewN (((Below.refl _ _).alloc (Nat.le_refl _) _).alloc (by simp) _) n
  · exact Nat.le_add_right _ _
  · show ((w.alloc o1).alloc o2).heap.size = _
    simp
end Go.Proofs.Ytpibkjldmmecpaa
