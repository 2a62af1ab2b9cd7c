/-
  No cell of these rows narrows 'for every input' (looked for: loops, veiled, ifaces, maps, wideKeys, modest, calm, conditions, laid).
  DERIVED. THE GIVEN ROWS OF THIS SEAT. 5 by the template 'for every input the law returns true; each argument reads behind the call as it read before'; 0 by the template 'total and deterministic' (their statements: YtghpafbgjbhohabTotals.lean).
  GIVEN WITH THE SEED: the statements are not yours to turn. If you find one false, say at which input.
  Laid BY PROGRAM, IN A SANDBOX (cutbox-rows.mjs): the forced cells as the released guide's own fill.sh prints them over the translation b32a4f016989ec4e… (all of the seat's roots in one cut). By AI agents, Wed Nov 11 2026. No macro, syntax, notation, axiom, sorry.
-/
import Derived.Test.YtghpafbgjbhohabChecked
import GoSem.Claim
import GoSem.ClaimJoined
import GoSem.ClaimMapViews
import Derived.JoinedTies
import Derived.KernelRfl
namespace Go.Proofs.Ytghpafbgjbhohab
/- THE CELL 'sum', in the pinned program and in every row, IS THE sha256 OF THE DUMP (.gsa) THAT YtghpafbgjbhohabProg.lean LOADS. Nothing in Lean hashes anything: it is a label: what it is worth is what the hold of that sum in a sandbox is worth. -/
noncomputable def Try.pinned : Pinned := { name := "ytghpafbgjbhohab", sum := "b32a4f016989ec4e19e3c76ed43a2db880647ea6da16bd9860c4a29c7b4f65b4", checked := Try.checked }
namespace Rows
def none {H : Type} : Left H := { results := [], args := [] }

/-- 'jobberlaw03.ParcelWraps': WHATEVER THE INPUT: true; the input reads as it did. -/
def parcelWrapsSpec : ChangeSpec := { name := "parcelWraps", fn := fun _ => fun
  | [d1, d2] => { results := [.lit (.bool true)], args := [d1, d2] }
  | _ => none }
def parcelWrapsRow : OpenClaim := { program := "ytghpafbgjbhohab", sum := "b32a4f016989ec4e19e3c76ed43a2db880647ea6da16bd9860c4a29c7b4f65b4", func := "jobber/jobberlaw03.ParcelWraps", spec := "parcelWraps", unfollowed := true, recurses := true, apart := false }
def ParcelWrapsSaid : Prop := parcelWrapsRow.holds Try.pinned (OpenSpec.ofChange parcelWrapsSpec)

/-- ITS FALSE NEIGHBOUR: 'it returns false'. Refute it at one input. -/
def parcelWrapsWrong : ChangeSpec := { name := "parcelWraps", fn := fun _ => fun
  | [d1, d2] => { results := [.lit (.bool false)], args := [d1, d2] }
  | _ => none }
def ParcelWrapsWrongFalsely : Prop := parcelWrapsRow.holds Try.pinned (OpenSpec.ofChange parcelWrapsWrong)

/-- 'jobberlaw03.ParcelTakes': WHATEVER THE INPUT: true; the input reads as it did. -/
def parcelTakesSpec : ChangeSpec := { name := "parcelTakes", fn := fun _ => fun
  | [d] => { results := [.lit (.bool true)], args := [d] }
  | _ => none }
def parcelTakesRow : OpenClaim := { program := "ytghpafbgjbhohab", sum := "b32a4f016989ec4e19e3c76ed43a2db880647ea6da16bd9860c4a29c7b4f65b4", func := "jobber/jobberlaw03.ParcelTakes", spec := "parcelTakes", unfollowed := true, recurses := true, apart := false }
def ParcelTakesSaid : Prop := parcelTakesRow.holds Try.pinned (OpenSpec.ofChange parcelTakesSpec)

/-- ITS FALSE NEIGHBOUR: 'it returns false'. Refute it at one input. -/
def parcelTakesWrong : ChangeSpec := { name := "parcelTakes", fn := fun _ => fun
  | [d] => { results := [.lit (.bool false)], args := [d] }
  | _ => none }
def ParcelTakesWrongFalsely : Prop := parcelTakesRow.holds Try.pinned (OpenSpec.ofChange parcelTakesWrong)

/-- 'jobberlaw03.ParcelRows': WHATEVER THE INPUT: true; the input reads as it did. -/
def parcelRowsSpec : ChangeSpec := { name := "parcelRows", fn := fun _ => fun
  | [d] => { results := [.lit (.bool true)], args := [d] }
  | _ => none }
def parcelRowsRow : OpenClaim := { program := "ytghpafbgjbhohab", sum := "b32a4f016989ec4e19e3c76ed43a2db880647ea6da16bd9860c4a29c7b4f65b4", func := "jobber/jobberlaw03.ParcelRows", spec := "parcelRows", unfollowed := true, recurses := true, apart := false }
def ParcelRowsSaid : Prop := parcelRowsRow.holds Try.pinned (OpenSpec.ofChange parcelRowsSpec)

/-- ITS FALSE NEIGHBOUR: 'it returns false'. Refute it at one input. -/
def parcelRowsWrong : ChangeSpec := { name := "parcelRows", fn := fun _ => fun
  | [d] => { results := [.lit (.bool false)], args := [d] }
  | _ => none }
def ParcelRowsWrongFalsely : Prop := parcelRowsRow.holds Try.pinned (OpenSpec.ofChange parcelRowsWrong)

/-- 'jobberlaw03.ParcelTorn': WHATEVER THE INPUT: true; the input reads as it did. -/
def parcelTornSpec : ChangeSpec := { name := "parcelTorn", fn := fun _ => fun
  | [d1, d2] => { results := [.lit (.bool true)], args := [d1, d2] }
  | _ => none }
def parcelTornRow : OpenClaim := { program := "ytghpafbgjbhohab", sum := "b32a4f016989ec4e19e3c76ed43a2db880647ea6da16bd9860c4a29c7b4f65b4", func := "jobber/jobberlaw03.ParcelTorn", spec := "parcelTorn", unfollowed := true, recurses := true, apart := false }
def ParcelTornSaid : Prop := parcelTornRow.holds Try.pinned (OpenSpec.ofChange parcelTornSpec)

/-- ITS FALSE NEIGHBOUR: 'it returns false'. Refute it at one input. -/
def parcelTornWrong : ChangeSpec := { name := "parcelTorn", fn := fun _ => fun
  | [d1, d2] => { results := [.lit (.bool false)], args := [d1, d2] }
  | _ => none }
def ParcelTornWrongFalsely : Prop := parcelTornRow.holds Try.pinned (OpenSpec.ofChange parcelTornWrong)

/-- 'jobberlaw03.ParcelBursts': WHATEVER THE INPUT: true; the input reads as it did. -/
def parcelBurstsSpec : ChangeSpec := { name := "parcelBursts", fn := fun _ => fun
  | [d1, d2, d3] => { results := [.lit (.bool true)], args := [d1, d2, d3] }
  | _ => none }
def parcelBurstsRow : OpenClaim := { program := "ytghpafbgjbhohab", sum := "b32a4f016989ec4e19e3c76ed43a2db880647ea6da16bd9860c4a29c7b4f65b4", func := "jobber/jobberlaw03.ParcelBursts", spec := "parcelBursts", unfollowed := true, recurses := true, apart := false }
def ParcelBurstsSaid : Prop := parcelBurstsRow.holds Try.pinned (OpenSpec.ofChange parcelBurstsSpec)

/-- ITS FALSE NEIGHBOUR: 'it returns false'. Refute it at one input. -/
def parcelBurstsWrong : ChangeSpec := { name := "parcelBursts", fn := fun _ => fun
  | [d1, d2, d3] => { results := [.lit (.bool false)], args := [d1, d2, d3] }
  | _ => none }
def ParcelBurstsWrongFalsely : Prop := parcelBurstsRow.holds Try.pinned (OpenSpec.ofChange parcelBurstsWrong)

/- THE SECOND FORM. 'bulk': how many values and letters a reading holds, each counted each time it is reached (what is shared counts as often as it is met; a slice's spare places count too). A statement '..UptoSaid' is the law's where the arguments, and the package variables that the reading takes, are together of bulk at most 1048576: NARROWER than '..Said'. Prove '..Said' where nothing that the law and all that it calls make is longer than what came in: it says more and counts as full. Else prove '..UptoSaid'. A law counts once. -/
mutual
def uptoBulk {H : Type} : DataW H → Nat
  | .lit (.string bytes) => bytes.length + 1
  | .lit _ => 1
  | .nil => 1
  | .ptr d => uptoBulk d + 1
  | .slice elems spare => uptoBulkAll elems + uptoBulkAll spare + 1
  | .agg parts => uptoBulkAll parts + 1
  | .iface _ d => uptoBulk d + 1
  | .map entries => uptoBulkEntries entries + 1
  | .held _ => 1
def uptoBulkAll {H : Type} : List (DataW H) → Nat
  | [] => 0
  | d :: r => uptoBulk d + uptoBulkAll r
def uptoBulkEntries {H : Type} : List (Lit × DataW H) → Nat
  | [] => 0
  | x :: r => uptoBulkEntry x + uptoBulkEntries r
def uptoBulkEntry {H : Type} : Lit × DataW H → Nat
  | (.string bytes, d) => bytes.length + uptoBulk d + 1
  | (_, d) => uptoBulk d + 1
 end
def uptoSmall : (H : Type) → List (DataW H) → Bool := fun _ ds => decide (uptoBulkAll ds ≤ 1048576)
def OpenSpec.upto (s : _root_.Go.ChangeSpec) : _root_.Go.OpenSpec := { _root_.Go.OpenSpec.ofChange s with cond := some uptoSmall }

/-- 'jobberlaw03.ParcelWraps', WHERE WHAT IT READS IS OF BULK AT MOST 1048576: true; the input reads as it did. -/
def parcelWrapsUptoRow : OpenClaim := { program := "ytghpafbgjbhohab", sum := "b32a4f016989ec4e19e3c76ed43a2db880647ea6da16bd9860c4a29c7b4f65b4", func := "jobber/jobberlaw03.ParcelWraps", spec := "parcelWraps", unfollowed := true, recurses := true, apart := false, narrowed := true }
def ParcelWrapsUptoSaid : Prop := parcelWrapsUptoRow.holds Try.pinned (OpenSpec.upto parcelWrapsSpec)

/-- 'jobberlaw03.ParcelTakes', WHERE WHAT IT READS IS OF BULK AT MOST 1048576: true; the input reads as it did. -/
def parcelTakesUptoRow : OpenClaim := { program := "ytghpafbgjbhohab", sum := "b32a4f016989ec4e19e3c76ed43a2db880647ea6da16bd9860c4a29c7b4f65b4", func := "jobber/jobberlaw03.ParcelTakes", spec := "parcelTakes", unfollowed := true, recurses := true, apart := false, narrowed := true }
def ParcelTakesUptoSaid : Prop := parcelTakesUptoRow.holds Try.pinned (OpenSpec.upto parcelTakesSpec)

/-- 'jobberlaw03.ParcelRows', WHERE WHAT IT READS IS OF BULK AT MOST 1048576: true; the input reads as it did. -/
def parcelRowsUptoRow : OpenClaim := { program := "ytghpafbgjbhohab", sum := "b32a4f016989ec4e19e3c76ed43a2db880647ea6da16bd9860c4a29c7b4f65b4", func := "jobber/jobberlaw03.ParcelRows", spec := "parcelRows", unfollowed := true, recurses := true, apart := false, narrowed := true }
def ParcelRowsUptoSaid : Prop := parcelRowsUptoRow.holds Try.pinned (OpenSpec.upto parcelRowsSpec)

/-- 'jobberlaw03.ParcelTorn', WHERE WHAT IT READS IS OF BULK AT MOST 1048576: true; the input reads as it did. -/
def parcelTornUptoRow : OpenClaim := { program := "ytghpafbgjbhohab", sum := "b32a4f016989ec4e19e3c76ed43a2db880647ea6da16bd9860c4a29c7b4f65b4", func := "jobber/jobberlaw03.ParcelTorn", spec := "parcelTorn", unfollowed := true, recurses := true, apart := false, narrowed := true }
def ParcelTornUptoSaid : Prop := parcelTornUptoRow.holds Try.pinned (OpenSpec.upto parcelTornSpec)

/-- 'jobberlaw03.ParcelBursts', WHERE WHAT IT READS IS OF BULK AT MOST 1048576: true; the input reads as it did. -/
def parcelBurstsUptoRow : OpenClaim := { program := "ytghpafbgjbhohab", sum := "b32a4f016989ec4e19e3c76ed43a2db880647ea6da16bd9860c4a29c7b4f65b4", func := "jobber/jobberlaw03.ParcelBursts", spec := "parcelBursts", unfollowed := true, recurses := true, apart := false, narrowed := true }
def ParcelBurstsUptoSaid : Prop := parcelBurstsUptoRow.holds Try.pinned (OpenSpec.upto parcelBurstsSpec)

end Rows
end Go.Proofs.Ytghpafbgjbhohab
