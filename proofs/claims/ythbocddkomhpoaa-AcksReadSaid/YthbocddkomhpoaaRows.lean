/-
  No cell of these rows narrows 'for every input' (looked for: loops, veiled, ifaces, maps, wideKeys, modest, calm, conditions, laid).
  DERIVED. THE GIVEN ROWS OF THIS SEAT. 3 by the template 'for every input the law returns true; each argument reads behind the call as it read before'; 0 by the template 'total and deterministic' (their statements: YthbocddkomhpoaaTotals.lean).
  GIVEN WITH THE SEED: the statements are not yours to turn. If you find one false, say at which input.
  Laid BY PROGRAM, IN A SANDBOX (cutbox-rows.mjs): the forced cells as the released guide's own fill.sh prints them over the translation bf992c06718dc252… (all of the seat's roots in one cut). By AI agents, Wed Nov 11 2026. No macro, syntax, notation, axiom, sorry.
-/
import Derived.Test.YthbocddkomhpoaaChecked
import GoSem.Claim
import GoSem.ClaimJoined
import GoSem.ClaimMapViews
import Derived.JoinedTies
import Derived.KernelRfl
namespace Go.Proofs.Ythbocddkomhpoaa
/- THE CELL 'sum', in the pinned program and in every row, IS THE sha256 OF THE DUMP (.gsa) THAT YthbocddkomhpoaaProg.lean LOADS. Nothing in Lean hashes anything: it is a label: what it is worth is what the hold of that sum in a sandbox is worth. -/
noncomputable def Try.pinned : Pinned := { name := "ythbocddkomhpoaa", sum := "bf992c06718dc2520c6ebda2753dde7dbbb7f2da870ba0e5f028cbd58cc7f4c7", checked := Try.checked }
namespace Rows
def none {H : Type} : Left H := { results := [], args := [] }

/-- 'jobberlaw25.AcksPlay': WHATEVER THE INPUT: true; the input reads as it did. -/
def acksPlaySpec : ChangeSpec := { name := "acksPlay", fn := fun _ => fun
  | [d1, d2, d3, d4] => { results := [.lit (.bool true)], args := [d1, d2, d3, d4] }
  | _ => none }
def acksPlayRow : OpenClaim := { program := "ythbocddkomhpoaa", sum := "bf992c06718dc2520c6ebda2753dde7dbbb7f2da870ba0e5f028cbd58cc7f4c7", func := "jobber/jobberlaw25.AcksPlay", spec := "acksPlay", apart := false }
def AcksPlaySaid : Prop := acksPlayRow.holds Try.pinned (OpenSpec.ofChange acksPlaySpec)

/-- ITS FALSE NEIGHBOUR: 'it returns false'. Refute it at one input. -/
def acksPlayWrong : ChangeSpec := { name := "acksPlay", fn := fun _ => fun
  | [d1, d2, d3, d4] => { results := [.lit (.bool false)], args := [d1, d2, d3, d4] }
  | _ => none }
def AcksPlayWrongFalsely : Prop := acksPlayRow.holds Try.pinned (OpenSpec.ofChange acksPlayWrong)

/-- 'jobberlaw25.AcksWrite': WHATEVER THE INPUT: true; the input reads as it did. -/
def acksWriteSpec : ChangeSpec := { name := "acksWrite", fn := fun _ => fun
  | [d1, d2] => { results := [.lit (.bool true)], args := [d1, d2] }
  | _ => none }
def acksWriteRow : OpenClaim := { program := "ythbocddkomhpoaa", sum := "bf992c06718dc2520c6ebda2753dde7dbbb7f2da870ba0e5f028cbd58cc7f4c7", func := "jobber/jobberlaw25.AcksWrite", spec := "acksWrite", unfollowed := true, recurses := true, apart := false }
def AcksWriteSaid : Prop := acksWriteRow.holds Try.pinned (OpenSpec.ofChange acksWriteSpec)

/-- ITS FALSE NEIGHBOUR: 'it returns false'. Refute it at one input. -/
def acksWriteWrong : ChangeSpec := { name := "acksWrite", fn := fun _ => fun
  | [d1, d2] => { results := [.lit (.bool false)], args := [d1, d2] }
  | _ => none }
def AcksWriteWrongFalsely : Prop := acksWriteRow.holds Try.pinned (OpenSpec.ofChange acksWriteWrong)

/-- 'jobberlaw25.AcksRead': WHATEVER THE INPUT: true; the input reads as it did. -/
def acksReadSpec : ChangeSpec := { name := "acksRead", fn := fun _ => fun
  | [d] => { results := [.lit (.bool true)], args := [d] }
  | _ => none }
def acksReadRow : OpenClaim := { program := "ythbocddkomhpoaa", sum := "bf992c06718dc2520c6ebda2753dde7dbbb7f2da870ba0e5f028cbd58cc7f4c7", func := "jobber/jobberlaw25.AcksRead", spec := "acksRead", unfollowed := true, recurses := true, apart := false }
def AcksReadSaid : Prop := acksReadRow.holds Try.pinned (OpenSpec.ofChange acksReadSpec)

/-- ITS FALSE NEIGHBOUR: 'it returns false'. Refute it at one input. -/
def acksReadWrong : ChangeSpec := { name := "acksRead", fn := fun _ => fun
  | [d] => { results := [.lit (.bool false)], args := [d] }
  | _ => none }
def AcksReadWrongFalsely : Prop := acksReadRow.holds Try.pinned (OpenSpec.ofChange acksReadWrong)

/- THE SECOND FORM. 'bulk': how many values and letters a reading holds, each counted each time it is reached (what is shared counts as often as it is met; a slice's spare places count too). A statement '..UptoSaid' is the law's where the arguments, and the package variables that the reading takes, are together of bulk at most 1048576: NARROWER than '..Said'. Prove '..Said' where nothing that the law and all that it calls make is longer than what came in: it says more and counts as full. Else prove '..UptoSaid'. A law counts once. -/
mutual
def uptoBulk {H : Type} : DataW H → Nat
  | .lit (.string bytes) => bytes.length + 1
  | .lit _ => 1
  | .nil => 1
  | .ptr d => uptoBulk d + 1
  | .slice elems spare => uptoBulkAll elems + uptoBulkAll spare + 1
  | .agg parts => uptoBulkAll parts + 1
  | .iface _ d => uptoBulk d + 1
  | .map entries => uptoBulkEntries entries + 1
  | .held _ => 1
def uptoBulkAll {H : Type} : List (DataW H) → Nat
  | [] => 0
  | d :: r => uptoBulk d + uptoBulkAll r
def uptoBulkEntries {H : Type} : List (Lit × DataW H) → Nat
  | [] => 0
  | x :: r => uptoBulkEntry x + uptoBulkEntries r
def uptoBulkEntry {H : Type} : Lit × DataW H → Nat
  | (.string bytes, d) => bytes.length + uptoBulk d + 1
  | (_, d) => uptoBulk d + 1
 end
def uptoSmall : (H : Type) → List (DataW H) → Bool := fun _ ds => decide (uptoBulkAll ds ≤ 1048576)
def OpenSpec.upto (s : _root_.Go.ChangeSpec) : _root_.Go.OpenSpec := { _root_.Go.OpenSpec.ofChange s with cond := some uptoSmall }

/-- 'jobberlaw25.AcksPlay', WHERE WHAT IT READS IS OF BULK AT MOST 1048576: true; the input reads as it did. -/
def acksPlayUptoRow : OpenClaim := { program := "ythbocddkomhpoaa", sum := "bf992c06718dc2520c6ebda2753dde7dbbb7f2da870ba0e5f028cbd58cc7f4c7", func := "jobber/jobberlaw25.AcksPlay", spec := "acksPlay", apart := false, narrowed := true }
def AcksPlayUptoSaid : Prop := acksPlayUptoRow.holds Try.pinned (OpenSpec.upto acksPlaySpec)

/-- 'jobberlaw25.AcksWrite', WHERE WHAT IT READS IS OF BULK AT MOST 1048576: true; the input reads as it did. -/
def acksWriteUptoRow : OpenClaim := { program := "ythbocddkomhpoaa", sum := "bf992c06718dc2520c6ebda2753dde7dbbb7f2da870ba0e5f028cbd58cc7f4c7", func := "jobber/jobberlaw25.AcksWrite", spec := "acksWrite", unfollowed := true, recurses := true, apart := false, narrowed := true }
def AcksWriteUptoSaid : Prop := acksWriteUptoRow.holds Try.pinned (OpenSpec.upto acksWriteSpec)

/-- 'jobberlaw25.AcksRead', WHERE WHAT IT READS IS OF BULK AT MOST 1048576: true; the input reads as it did. -/
def acksReadUptoRow : OpenClaim := { program := "ythbocddkomhpoaa", sum := "bf992c06718dc2520c6ebda2753dde7dbbb7f2da870ba0e5f028cbd58cc7f4c7", func := "jobber/jobberlaw25.AcksRead", spec := "acksRead", unfollowed := true, recurses := true, apart := false, narrowed := true }
def AcksReadUptoSaid : Prop := acksReadUptoRow.holds Try.pinned (OpenSpec.upto acksReadSpec)

end Rows
end Go.Proofs.Ythbocddkomhpoaa
