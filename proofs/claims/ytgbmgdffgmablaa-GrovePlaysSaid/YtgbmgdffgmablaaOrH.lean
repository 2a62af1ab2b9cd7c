import Derived.Test.YtgbmgdffgmablaaOrG
namespace Go.Proofs.Ytgbmgdffgmablaa
open Go.RowKit Go.Sort Go.Lib Go.Shelf

section
variable {ops : Array Oper} {rest : List Oper} {o : Oper} {a : Act} {w : World} {Q : Exit → Act → World → Prop}
/-- A load of an order out of a row. -/
theorem loadAt (hgd : o.guard = none) (x : Operand) (ho : o.op = .load 24 x) (b f : Nat) (hx : a.eval x = .pointer (some ⟨b, f, none⟩)) (z : Od) (hz : z.at w b f) (h : wpList Try.prog ops Q rest (a.put o.dst z.val) w) : wpList Try.prog ops Q (o :: rest) a w :=
  wpList_load_mid hgd _ x ho b f hx (encO z) _ (fun _ _ hv => at_cell hz hv) Try.underlying24 rfl infoO h
end
end Go.Proofs.Ytgbmgdffgmablaa
