/-
  No cell of these rows narrows 'for every input' (looked for: loops, veiled, ifaces, maps, wideKeys, modest, calm, conditions, laid).
  DERIVED. THE GIVEN ROWS OF THIS SEAT. 4 by the template 'for every input the law returns true; each argument reads behind the call as it read before'; 0 by the template 'total and deterministic' (their statements: YtgbmgdffgmablaaTotals.lean).
  GIVEN WITH THE SEED: the statements are not yours to turn. If you find one false, say at which input.
  Laid BY PROGRAM, IN A SANDBOX (cutbox-rows.mjs): the forced cells as the released guide's own fill.sh prints them over the translation 3439b693a4985e48… (all of the seat's roots in one cut). By AI agents, Wed Nov 11 2026. No macro, syntax, notation, axiom, sorry.
-/
import Derived.Test.YtgbmgdffgmablaaChecked
import GoSem.Claim
import GoSem.ClaimJoined
import GoSem.ClaimMapViews
import Derived.JoinedTies
import Derived.KernelRfl
namespace Go.Proofs.Ytgbmgdffgmablaa
/- THE CELL 'sum', in the pinned program and in every row, IS THE sha256 OF THE DUMP (.gsa) THAT YtgbmgdffgmablaaProg.lean LOADS. Nothing in Lean hashes anything: it is a label: what it is worth is what the hold of that sum in a sandbox is worth. -/
noncomputable def Try.pinned : Pinned := { name := "ytgbmgdffgmablaa", sum := "3439b693a4985e48dda1e2e8d210bea191f3ab6fcd9810b6c349b27c0e43fbdb", checked := Try.checked }
namespace Rows
def none {H : Type} : Left H := { results := [], args := [] }

/-- 'jobberlaw14.GroveNobody': WHATEVER THE INPUT: true; the input reads as it did. -/
def groveNobodySpec : ChangeSpec := { name := "groveNobody", fn := fun _ => fun
  | [d1, d2, d3] => { results := [.lit (.bool true)], args := [d1, d2, d3] }
  | _ => none }
def groveNobodyRow : OpenClaim := { program := "ytgbmgdffgmablaa", sum := "3439b693a4985e48dda1e2e8d210bea191f3ab6fcd9810b6c349b27c0e43fbdb", func := "jobber/jobberlaw14.GroveNobody", spec := "groveNobody", inPlace := ["slices.overlaps[uint64]"], unfollowed := true, recurses := true, apart := false }
def GroveNobodySaid : Prop := groveNobodyRow.holds Try.pinned (OpenSpec.ofChange groveNobodySpec)

/-- ITS FALSE NEIGHBOUR: 'it returns false'. Refute it at one input. -/
def groveNobodyWrong : ChangeSpec := { name := "groveNobody", fn := fun _ => fun
  | [d1, d2, d3] => { results := [.lit (.bool false)], args := [d1, d2, d3] }
  | _ => none }
def GroveNobodyWrongFalsely : Prop := groveNobodyRow.holds Try.pinned (OpenSpec.ofChange groveNobodyWrong)

/-- 'jobberlaw14.GroveOrder': WHATEVER THE INPUT: true; the input reads as it did. -/
def groveOrderSpec : ChangeSpec := { name := "groveOrder", fn := fun _ => fun
  | [d1, d2] => { results := [.lit (.bool true)], args := [d1, d2] }
  | _ => none }
def groveOrderRow : OpenClaim := { program := "ytgbmgdffgmablaa", sum := "3439b693a4985e48dda1e2e8d210bea191f3ab6fcd9810b6c349b27c0e43fbdb", func := "jobber/jobberlaw14.GroveOrder", spec := "groveOrder", inPlace := ["slices.overlaps[uint64]"], unfollowed := true, recurses := true, apart := false }
def GroveOrderSaid : Prop := groveOrderRow.holds Try.pinned (OpenSpec.ofChange groveOrderSpec)

/-- ITS FALSE NEIGHBOUR: 'it returns false'. Refute it at one input. -/
def groveOrderWrong : ChangeSpec := { name := "groveOrder", fn := fun _ => fun
  | [d1, d2] => { results := [.lit (.bool false)], args := [d1, d2] }
  | _ => none }
def GroveOrderWrongFalsely : Prop := groveOrderRow.holds Try.pinned (OpenSpec.ofChange groveOrderWrong)

/-- 'jobberlaw14.GroveSides': WHATEVER THE INPUT: true; the input reads as it did. -/
def groveSidesSpec : ChangeSpec := { name := "groveSides", fn := fun _ => fun
  | [d1, d2, d3] => { results := [.lit (.bool true)], args := [d1, d2, d3] }
  | _ => none }
def groveSidesRow : OpenClaim := { program := "ytgbmgdffgmablaa", sum := "3439b693a4985e48dda1e2e8d210bea191f3ab6fcd9810b6c349b27c0e43fbdb", func := "jobber/jobberlaw14.GroveSides", spec := "groveSides", inPlace := ["slices.overlaps[uint64]"], unfollowed := true, recurses := true, apart := false }
def GroveSidesSaid : Prop := groveSidesRow.holds Try.pinned (OpenSpec.ofChange groveSidesSpec)

/-- ITS FALSE NEIGHBOUR: 'it returns false'. Refute it at one input. -/
def groveSidesWrong : ChangeSpec := { name := "groveSides", fn := fun _ => fun
  | [d1, d2, d3] => { results := [.lit (.bool false)], args := [d1, d2, d3] }
  | _ => none }
def GroveSidesWrongFalsely : Prop := groveSidesRow.holds Try.pinned (OpenSpec.ofChange groveSidesWrong)

/-- 'jobberlaw14.GrovePlays': WHATEVER THE INPUT: true; the input reads as it did. -/
def grovePlaysSpec : ChangeSpec := { name := "grovePlays", fn := fun _ => fun
  | [d1, d2, d3] => { results := [.lit (.bool true)], args := [d1, d2, d3] }
  | _ => none }
def grovePlaysRow : OpenClaim := { program := "ytgbmgdffgmablaa", sum := "3439b693a4985e48dda1e2e8d210bea191f3ab6fcd9810b6c349b27c0e43fbdb", func := "jobber/jobberlaw14.GrovePlays", spec := "grovePlays", inPlace := ["slices.overlaps[uint64]"], unfollowed := true, recurses := true, apart := false }
def GrovePlaysSaid : Prop := grovePlaysRow.holds Try.pinned (OpenSpec.ofChange grovePlaysSpec)

/-- ITS FALSE NEIGHBOUR: 'it returns false'. Refute it at one input. -/
def grovePlaysWrong : ChangeSpec := { name := "grovePlays", fn := fun _ => fun
  | [d1, d2, d3] => { results := [.lit (.bool false)], args := [d1, d2, d3] }
  | _ => none }
def GrovePlaysWrongFalsely : Prop := grovePlaysRow.holds Try.pinned (OpenSpec.ofChange grovePlaysWrong)

/- THE SECOND FORM. 'bulk': how many values and letters a reading holds, each counted each time it is reached (what is shared counts as often as it is met; a slice's spare places count too). A statement '..UptoSaid' is the law's where the arguments, and the package variables that the reading takes, are together of bulk at most 1048576: NARROWER than '..Said'. Prove '..Said' where nothing that the law and all that it calls make is longer than what came in: it says more and counts as full. Else prove '..UptoSaid'. A law counts once. -/
mutual
def uptoBulk {H : Type} : DataW H → Nat
  | .lit (.string bytes) => bytes.length + 1
  | .lit _ => 1
  | .nil => 1
  | .ptr d => uptoBulk d + 1
  | .slice elems spare => uptoBulkAll elems + uptoBulkAll spare + 1
  | .agg parts => uptoBulkAll parts + 1
  | .iface _ d => uptoBulk d + 1
  | .map entries => uptoBulkEntries entries + 1
  | .held _ => 1
def uptoBulkAll {H : Type} : List (DataW H) → Nat
  | [] => 0
  | d :: r => uptoBulk d + uptoBulkAll r
def uptoBulkEntries {H : Type} : List (Lit × DataW H) → Nat
  | [] => 0
  | x :: r => uptoBulkEntry x + uptoBulkEntries r
def uptoBulkEntry {H : Type} : Lit × DataW H → Nat
  | (.string bytes, d) => bytes.length + uptoBulk d + 1
  | (_, d) => uptoBulk d + 1
 end
def uptoSmall : (H : Type) → List (DataW H) → Bool := fun _ ds => decide (uptoBulkAll ds ≤ 1048576)
def OpenSpec.upto (s : _root_.Go.ChangeSpec) : _root_.Go.OpenSpec := { _root_.Go.OpenSpec.ofChange s with cond := some uptoSmall }

/-- 'jobberlaw14.GroveNobody', WHERE WHAT IT READS IS OF BULK AT MOST 1048576: true; the input reads as it did. -/
def groveNobodyUptoRow : OpenClaim := { program := "ytgbmgdffgmablaa", sum := "3439b693a4985e48dda1e2e8d210bea191f3ab6fcd9810b6c349b27c0e43fbdb", func := "jobber/jobberlaw14.GroveNobody", spec := "groveNobody", inPlace := ["slices.overlaps[uint64]"], unfollowed := true, recurses := true, apart := false, narrowed := true }
def GroveNobodyUptoSaid : Prop := groveNobodyUptoRow.holds Try.pinned (OpenSpec.upto groveNobodySpec)

/-- 'jobberlaw14.GroveOrder', WHERE WHAT IT READS IS OF BULK AT MOST 1048576: true; the input reads as it did. -/
def groveOrderUptoRow : OpenClaim := { program := "ytgbmgdffgmablaa", sum := "3439b693a4985e48dda1e2e8d210bea191f3ab6fcd9810b6c349b27c0e43fbdb", func := "jobber/jobberlaw14.GroveOrder", spec := "groveOrder", inPlace := ["slices.overlaps[uint64]"], unfollowed := true, recurses := true, apart := false, narrowed := true }
def GroveOrderUptoSaid : Prop := groveOrderUptoRow.holds Try.pinned (OpenSpec.upto groveOrderSpec)

/-- 'jobberlaw14.GroveSides', WHERE WHAT IT READS IS OF BULK AT MOST 1048576: true; the input reads as it did. -/
def groveSidesUptoRow : OpenClaim := { program := "ytgbmgdffgmablaa", sum := "3439b693a4985e48dda1e2e8d210bea191f3ab6fcd9810b6c349b27c0e43fbdb", func := "jobber/jobberlaw14.GroveSides", spec := "groveSides", inPlace := ["slices.overlaps[uint64]"], unfollowed := true, recurses := true, apart := false, narrowed := true }
def GroveSidesUptoSaid : Prop := groveSidesUptoRow.holds Try.pinned (OpenSpec.upto groveSidesSpec)

/-- 'jobberlaw14.GrovePlays', WHERE WHAT IT READS IS OF BULK AT MOST 1048576: true; the input reads as it did. -/
def grovePlaysUptoRow : OpenClaim := { program := "ytgbmgdffgmablaa", sum := "3439b693a4985e48dda1e2e8d210bea191f3ab6fcd9810b6c349b27c0e43fbdb", func := "jobber/jobberlaw14.GrovePlays", spec := "grovePlays", inPlace := ["slices.overlaps[uint64]"], unfollowed := true, recurses := true, apart := false, narrowed := true }
def GrovePlaysUptoSaid : Prop := grovePlaysUptoRow.holds Try.pinned (OpenSpec.upto grovePlaysSpec)

end Rows
end Go.Proofs.Ytgbmgdffgmablaa
