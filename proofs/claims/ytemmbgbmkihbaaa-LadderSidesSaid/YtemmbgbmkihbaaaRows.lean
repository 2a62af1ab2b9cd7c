/-
  No cell of these rows narrows 'for every input' (looked for: loops, veiled, ifaces, maps, wideKeys, modest, calm, conditions, laid).
  DERIVED. THE GIVEN ROWS OF THIS SEAT. 7 by the template 'for every input the law returns true; each argument reads behind the call as it read before'; 0 by the template 'total and deterministic' (their statements: YtemmbgbmkihbaaaTotals.lean).
  GIVEN WITH THE SEED: the statements are not yours to turn. If you find one false, say at which input.
  Laid BY PROGRAM, IN A SANDBOX (cutbox-rows.mjs): the forced cells as the released guide's own fill.sh prints them over the translation 590255dd5c806103… (all of the seat's roots in one cut). By AI agents, Wed Nov 11 2026. No macro, syntax, notation, axiom, sorry.
-/
import Derived.Test.YtemmbgbmkihbaaaChecked
import GoSem.Claim
import GoSem.ClaimJoined
import GoSem.ClaimMapViews
import Derived.JoinedTies
import Derived.KernelRfl
namespace Go.Proofs.Ytemmbgbmkihbaaa
/- THE CELL 'sum', in the pinned program and in every row, IS THE sha256 OF THE DUMP (.gsa) THAT YtemmbgbmkihbaaaProg.lean LOADS. Nothing in Lean hashes anything: it is a label: what it is worth is what the hold of that sum in a sandbox is worth. -/
noncomputable def Try.pinned : Pinned := { name := "ytemmbgbmkihbaaa", sum := "590255dd5c806103e584ea68b3d888e3d610011966f36ee14314661a98dd06d0", checked := Try.checked }
namespace Rows
def none {H : Type} : Left H := { results := [], args := [] }

/-- 'jobberlaw13.LadderPlays': WHATEVER THE INPUT: true; the input reads as it did. -/
def ladderPlaysSpec : ChangeSpec := { name := "ladderPlays", fn := fun _ => fun
  | [d1, d2, d3] => { results := [.lit (.bool true)], args := [d1, d2, d3] }
  | _ => none }
def ladderPlaysRow : OpenClaim := { program := "ytemmbgbmkihbaaa", sum := "590255dd5c806103e584ea68b3d888e3d610011966f36ee14314661a98dd06d0", func := "jobber/jobberlaw13.LadderPlays", spec := "ladderPlays", inPlace := ["slices.overlaps[jobber/ladder.row]", "slices.overlaps[jobber/api.Order]"], unfollowed := true, recurses := true, apart := false }
def LadderPlaysSaid : Prop := ladderPlaysRow.holds Try.pinned (OpenSpec.ofChange ladderPlaysSpec)

/-- ITS FALSE NEIGHBOUR: 'it returns false'. Refute it at one input. -/
def ladderPlaysWrong : ChangeSpec := { name := "ladderPlays", fn := fun _ => fun
  | [d1, d2, d3] => { results := [.lit (.bool false)], args := [d1, d2, d3] }
  | _ => none }
def LadderPlaysWrongFalsely : Prop := ladderPlaysRow.holds Try.pinned (OpenSpec.ofChange ladderPlaysWrong)

/-- 'jobberlaw13.LadderOrder': WHATEVER THE INPUT: true; the input reads as it did. -/
def ladderOrderSpec : ChangeSpec := { name := "ladderOrder", fn := fun _ => fun
  | [d1, d2] => { results := [.lit (.bool true)], args := [d1, d2] }
  | _ => none }
def ladderOrderRow : OpenClaim := { program := "ytemmbgbmkihbaaa", sum := "590255dd5c806103e584ea68b3d888e3d610011966f36ee14314661a98dd06d0", func := "jobber/jobberlaw13.LadderOrder", spec := "ladderOrder", inPlace := ["slices.overlaps[jobber/ladder.row]", "slices.overlaps[jobber/api.Order]"], unfollowed := true, recurses := true, apart := false }
def LadderOrderSaid : Prop := ladderOrderRow.holds Try.pinned (OpenSpec.ofChange ladderOrderSpec)

/-- ITS FALSE NEIGHBOUR: 'it returns false'. Refute it at one input. -/
def ladderOrderWrong : ChangeSpec := { name := "ladderOrder", fn := fun _ => fun
  | [d1, d2] => { results := [.lit (.bool false)], args := [d1, d2] }
  | _ => none }
def LadderOrderWrongFalsely : Prop := ladderOrderRow.holds Try.pinned (OpenSpec.ofChange ladderOrderWrong)

/-- 'jobberlaw13.LadderSides': WHATEVER THE INPUT: true; the input reads as it did. -/
def ladderSidesSpec : ChangeSpec := { name := "ladderSides", fn := fun _ => fun
  | [d1, d2, d3] => { results := [.lit (.bool true)], args := [d1, d2, d3] }
  | _ => none }
def ladderSidesRow : OpenClaim := { program := "ytemmbgbmkihbaaa", sum := "590255dd5c806103e584ea68b3d888e3d610011966f36ee14314661a98dd06d0", func := "jobber/jobberlaw13.LadderSides", spec := "ladderSides", inPlace := ["slices.overlaps[jobber/ladder.row]", "slices.overlaps[jobber/api.Order]"], unfollowed := true, recurses := true, apart := false }
def LadderSidesSaid : Prop := ladderSidesRow.holds Try.pinned (OpenSpec.ofChange ladderSidesSpec)

/-- ITS FALSE NEIGHBOUR: 'it returns false'. Refute it at one input. -/
def ladderSidesWrong : ChangeSpec := { name := "ladderSides", fn := fun _ => fun
  | [d1, d2, d3] => { results := [.lit (.bool false)], args := [d1, d2, d3] }
  | _ => none }
def LadderSidesWrongFalsely : Prop := ladderSidesRow.holds Try.pinned (OpenSpec.ofChange ladderSidesWrong)

/-- 'jobberlaw13.LadderNobody': WHATEVER THE INPUT: true; the input reads as it did. -/
def ladderNobodySpec : ChangeSpec := { name := "ladderNobody", fn := fun _ => fun
  | [d1, d2, d3] => { results := [.lit (.bool true)], args := [d1, d2, d3] }
  | _ => none }
def ladderNobodyRow : OpenClaim := { program := "ytemmbgbmkihbaaa", sum := "590255dd5c806103e584ea68b3d888e3d610011966f36ee14314661a98dd06d0", func := "jobber/jobberlaw13.LadderNobody", spec := "ladderNobody", inPlace := ["slices.overlaps[jobber/ladder.row]", "slices.overlaps[jobber/api.Order]"], unfollowed := true, recurses := true, apart := false }
def LadderNobodySaid : Prop := ladderNobodyRow.holds Try.pinned (OpenSpec.ofChange ladderNobodySpec)

/-- ITS FALSE NEIGHBOUR: 'it returns false'. Refute it at one input. -/
def ladderNobodyWrong : ChangeSpec := { name := "ladderNobody", fn := fun _ => fun
  | [d1, d2, d3] => { results := [.lit (.bool false)], args := [d1, d2, d3] }
  | _ => none }
def LadderNobodyWrongFalsely : Prop := ladderNobodyRow.holds Try.pinned (OpenSpec.ofChange ladderNobodyWrong)

/-- 'jobberlaw12.OrderSorts': WHATEVER THE INPUT: true; the input reads as it did. -/
def orderSortsSpec : ChangeSpec := { name := "orderSorts", fn := fun _ => fun
  | [d] => { results := [.lit (.bool true)], args := [d] }
  | _ => none }
def orderSortsRow : OpenClaim := { program := "ytemmbgbmkihbaaa", sum := "590255dd5c806103e584ea68b3d888e3d610011966f36ee14314661a98dd06d0", func := "jobber/jobberlaw12.OrderSorts", spec := "orderSorts", unfollowed := true, recurses := true, apart := false }
def OrderSortsSaid : Prop := orderSortsRow.holds Try.pinned (OpenSpec.ofChange orderSortsSpec)

/-- ITS FALSE NEIGHBOUR: 'it returns false'. Refute it at one input. -/
def orderSortsWrong : ChangeSpec := { name := "orderSorts", fn := fun _ => fun
  | [d] => { results := [.lit (.bool false)], args := [d] }
  | _ => none }
def OrderSortsWrongFalsely : Prop := orderSortsRow.holds Try.pinned (OpenSpec.ofChange orderSortsWrong)

/-- 'jobberlaw12.OrderBytes': WHATEVER THE INPUT: true; the input reads as it did. -/
def orderBytesSpec : ChangeSpec := { name := "orderBytes", fn := fun _ => fun
  | [d1, d2] => { results := [.lit (.bool true)], args := [d1, d2] }
  | _ => none }
def orderBytesRow : OpenClaim := { program := "ytemmbgbmkihbaaa", sum := "590255dd5c806103e584ea68b3d888e3d610011966f36ee14314661a98dd06d0", func := "jobber/jobberlaw12.OrderBytes", spec := "orderBytes", unfollowed := true, recurses := true, apart := false }
def OrderBytesSaid : Prop := orderBytesRow.holds Try.pinned (OpenSpec.ofChange orderBytesSpec)

/-- ITS FALSE NEIGHBOUR: 'it returns false'. Refute it at one input. -/
def orderBytesWrong : ChangeSpec := { name := "orderBytes", fn := fun _ => fun
  | [d1, d2] => { results := [.lit (.bool false)], args := [d1, d2] }
  | _ => none }
def OrderBytesWrongFalsely : Prop := orderBytesRow.holds Try.pinned (OpenSpec.ofChange orderBytesWrong)

/-- 'jobberlaw12.OrderReads': WHATEVER THE INPUT: true; the input reads as it did. -/
def orderReadsSpec : ChangeSpec := { name := "orderReads", fn := fun _ => fun
  | [d] => { results := [.lit (.bool true)], args := [d] }
  | _ => none }
def orderReadsRow : OpenClaim := { program := "ytemmbgbmkihbaaa", sum := "590255dd5c806103e584ea68b3d888e3d610011966f36ee14314661a98dd06d0", func := "jobber/jobberlaw12.OrderReads", spec := "orderReads", unfollowed := true, recurses := true, apart := false }
def OrderReadsSaid : Prop := orderReadsRow.holds Try.pinned (OpenSpec.ofChange orderReadsSpec)

/-- ITS FALSE NEIGHBOUR: 'it returns false'. Refute it at one input. -/
def orderReadsWrong : ChangeSpec := { name := "orderReads", fn := fun _ => fun
  | [d] => { results := [.lit (.bool false)], args := [d] }
  | _ => none }
def OrderReadsWrongFalsely : Prop := orderReadsRow.holds Try.pinned (OpenSpec.ofChange orderReadsWrong)

/- THE SECOND FORM. 'bulk': how many values and letters a reading holds, each counted each time it is reached (what is shared counts as often as it is met; a slice's spare places count too). A statement '..UptoSaid' is the law's where the arguments, and the package variables that the reading takes, are together of bulk at most 1048576: NARROWER than '..Said'. Prove '..Said' where nothing that the law and all that it calls make is longer than what came in: it says more and counts as full. Else prove '..UptoSaid'. A law counts once. -/
mutual
def uptoBulk {H : Type} : DataW H → Nat
  | .lit (.string bytes) => bytes.length + 1
  | .lit _ => 1
  | .nil => 1
  | .ptr d => uptoBulk d + 1
  | .slice elems spare => uptoBulkAll elems + uptoBulkAll spare + 1
  | .agg parts => uptoBulkAll parts + 1
  | .iface _ d => uptoBulk d + 1
  | .map entries => uptoBulkEntries entries + 1
  | .held _ => 1
def uptoBulkAll {H : Type} : List (DataW H) → Nat
  | [] => 0
  | d :: r => uptoBulk d + uptoBulkAll r
def uptoBulkEntries {H : Type} : List (Lit × DataW H) → Nat
  | [] => 0
  | x :: r => uptoBulkEntry x + uptoBulkEntries r
def uptoBulkEntry {H : Type} : Lit × DataW H → Nat
  | (.string bytes, d) => bytes.length + uptoBulk d + 1
  | (_, d) => uptoBulk d + 1
 end
def uptoSmall : (H : Type) → List (DataW H) → Bool := fun _ ds => decide (uptoBulkAll ds ≤ 1048576)
def OpenSpec.upto (s : _root_.Go.ChangeSpec) : _root_.Go.OpenSpec := { _root_.Go.OpenSpec.ofChange s with cond := some uptoSmall }

/-- 'jobberlaw13.LadderPlays', WHERE WHAT IT READS IS OF BULK AT MOST 1048576: true; the input reads as it did. -/
def ladderPlaysUptoRow : OpenClaim := { program := "ytemmbgbmkihbaaa", sum := "590255dd5c806103e584ea68b3d888e3d610011966f36ee14314661a98dd06d0", func := "jobber/jobberlaw13.LadderPlays", spec := "ladderPlays", inPlace := ["slices.overlaps[jobber/ladder.row]", "slices.overlaps[jobber/api.Order]"], unfollowed := true, recurses := true, apart := false, narrowed := true }
def LadderPlaysUptoSaid : Prop := ladderPlaysUptoRow.holds Try.pinned (OpenSpec.upto ladderPlaysSpec)

/-- 'jobberlaw13.LadderOrder', WHERE WHAT IT READS IS OF BULK AT MOST 1048576: true; the input reads as it did. -/
def ladderOrderUptoRow : OpenClaim := { program := "ytemmbgbmkihbaaa", sum := "590255dd5c806103e584ea68b3d888e3d610011966f36ee14314661a98dd06d0", func := "jobber/jobberlaw13.LadderOrder", spec := "ladderOrder", inPlace := ["slices.overlaps[jobber/ladder.row]", "slices.overlaps[jobber/api.Order]"], unfollowed := true, recurses := true, apart := false, narrowed := true }
def LadderOrderUptoSaid : Prop := ladderOrderUptoRow.holds Try.pinned (OpenSpec.upto ladderOrderSpec)

/-- 'jobberlaw13.LadderSides', WHERE WHAT IT READS IS OF BULK AT MOST 1048576: true; the input reads as it did. -/
def ladderSidesUptoRow : OpenClaim := { program := "ytemmbgbmkihbaaa", sum := "590255dd5c806103e584ea68b3d888e3d610011966f36ee14314661a98dd06d0", func := "jobber/jobberlaw13.LadderSides", spec := "ladderSides", inPlace := ["slices.overlaps[jobber/ladder.row]", "slices.overlaps[jobber/api.Order]"], unfollowed := true, recurses := true, apart := false, narrowed := true }
def LadderSidesUptoSaid : Prop := ladderSidesUptoRow.holds Try.pinned (OpenSpec.upto ladderSidesSpec)

/-- 'jobberlaw13.LadderNobody', WHERE WHAT IT READS IS OF BULK AT MOST 1048576: true; the input reads as it did. -/
def ladderNobodyUptoRow : OpenClaim := { program := "ytemmbgbmkihbaaa", sum := "590255dd5c806103e584ea68b3d888e3d610011966f36ee14314661a98dd06d0", func := "jobber/jobberlaw13.LadderNobody", spec := "ladderNobody", inPlace := ["slices.overlaps[jobber/ladder.row]", "slices.overlaps[jobber/api.Order]"], unfollowed := true, recurses := true, apart := false, narrowed := true }
def LadderNobodyUptoSaid : Prop := ladderNobodyUptoRow.holds Try.pinned (OpenSpec.upto ladderNobodySpec)

/-- 'jobberlaw12.OrderSorts', WHERE WHAT IT READS IS OF BULK AT MOST 1048576: true; the input reads as it did. -/
def orderSortsUptoRow : OpenClaim := { program := "ytemmbgbmkihbaaa", sum := "590255dd5c806103e584ea68b3d888e3d610011966f36ee14314661a98dd06d0", func := "jobber/jobberlaw12.OrderSorts", spec := "orderSorts", unfollowed := true, recurses := true, apart := false, narrowed := true }
def OrderSortsUptoSaid : Prop := orderSortsUptoRow.holds Try.pinned (OpenSpec.upto orderSortsSpec)

/-- 'jobberlaw12.OrderBytes', WHERE WHAT IT READS IS OF BULK AT MOST 1048576: true; the input reads as it did. -/
def orderBytesUptoRow : OpenClaim := { program := "ytemmbgbmkihbaaa", sum := "590255dd5c806103e584ea68b3d888e3d610011966f36ee14314661a98dd06d0", func := "jobber/jobberlaw12.OrderBytes", spec := "orderBytes", unfollowed := true, recurses := true, apart := false, narrowed := true }
def OrderBytesUptoSaid : Prop := orderBytesUptoRow.holds Try.pinned (OpenSpec.upto orderBytesSpec)

/-- 'jobberlaw12.OrderReads', WHERE WHAT IT READS IS OF BULK AT MOST 1048576: true; the input reads as it did. -/
def orderReadsUptoRow : OpenClaim := { program := "ytemmbgbmkihbaaa", sum := "590255dd5c806103e584ea68b3d888e3d610011966f36ee14314661a98dd06d0", func := "jobber/jobberlaw12.OrderReads", spec := "orderReads", unfollowed := true, recurses := true, apart := false, narrowed := true }
def OrderReadsUptoSaid : Prop := orderReadsUptoRow.holds Try.pinned (OpenSpec.upto orderReadsSpec)

end Rows
end Go.Proofs.Ytemmbgbmkihbaaa
