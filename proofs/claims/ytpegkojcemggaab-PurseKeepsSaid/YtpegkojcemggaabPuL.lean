/- purse: loads and stores of tills within regions that draw. -/
import Derived.Test.YtpegkojcemggaabPuM
namespace Go.Proofs.Ytpegkojcemggaab
open Go.RowKit

section
variable {ops : Array Oper} {rest : List Oper} {o : Oper} {a : Act} {w : World} {Q : Exit → Act → World → Prop}
theorem any_loadP {K : Act → World → Prop} {E : Prop} (hgd : Region.wanted o (yielded ops a.tmps) = true) (x : Operand) (ho : o.op = .load 26 x) (g : Nat) (hx : a.eval x = .pointer (some ⟨g, 0, none⟩)) (z : Ti) (t : TypeId)
    (hg : w.heap[g]? = some (.cells (TC z) t (0, 0))) (h : K (a.put o.dst (.agg (TC z))) w) : if Region.wanted o (yielded ops a.tmps) = true then Oper.wp Try.prog o a w K Q else E := by
  rw [if_pos hgd]
  exact wp_load_row _ x ho g hx _ _ (0, 0) _ hg Try.underlying26 rfl (infoP z) h
theorem any_storeP {K : Act → World → Prop} {E : Prop} (hgd : Region.wanted o (yielded ops a.tmps) = true) (x y : Operand) (ho : o.op = .store 26 x y) (g : Nat) (z : Ti) (hx : a.eval x = .pointer (some ⟨g, 0, none⟩)) (hy : a.eval y = .agg (TC z)) (z' : Ti) (t : TypeId)
    (hg : w.heap[g]? = some (.cells (TC z') t (0, 0))) (h : K (a.put o.dst undef) (w.setRow g (TC z))) : if Region.wanted o (yielded ops a.tmps) = true then Oper.wp Try.prog o a w K Q else E := by
  rw [if_pos hgd]
  exact wp_store_row _ x y ho g _ hx hy _ _ hg (infoP z) (by rw [TC_size, TC_size]) (TC_one z) h
theorem any_loadR {K : Act → World → Prop} {E : Prop} (hgd : Region.wanted o (yielded ops a.tmps) = true) (x : Operand) (ho : o.op = .load 30 x) (g : Nat) (hx : a.eval x = .pointer (some ⟨g, 0, none⟩)) (z : Ti) (t : TypeId)
    (hg : w.heap[g]? = some (.cells (TC z) t (0, 0))) (h : K (a.put o.dst (.agg (TC z))) w) : if Region.wanted o (yielded ops a.tmps) = true then Oper.wp Try.prog o a w K Q else E := by
  rw [if_pos hgd]
  exact wp_load_row _ x ho g hx _ _ (0, 0) _ hg Try.underlying30 rfl (infoR z) h
end
end Go.Proofs.Ytpegkojcemggaab
