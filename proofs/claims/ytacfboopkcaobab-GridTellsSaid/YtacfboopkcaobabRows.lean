/-
  No cell of these rows narrows 'for every input' (looked for: loops, veiled, ifaces, maps, wideKeys, modest, calm, conditions, laid).
  DERIVED. THE GIVEN ROWS OF THIS SEAT. 5 by the template 'for every input the law returns true; each argument reads behind the call as it read before'; 0 by the template 'total and deterministic' (their statements: YtacfboopkcaobabTotals.lean).
  GIVEN WITH THE SEED: the statements are not yours to turn. If you find one false, say at which input.
  Laid BY PROGRAM, IN A SANDBOX (cutbox-rows.mjs): the forced cells as the released guide's own fill.sh prints them over the translation 772abb4accf757f6… (all of the seat's roots in one cut). By AI agents, Wed Nov 11 2026. No macro, syntax, notation, axiom, sorry.
-/
import Derived.Test.YtacfboopkcaobabChecked
import GoSem.Claim
import GoSem.ClaimJoined
import GoSem.ClaimMapViews
import Derived.JoinedTies
import Derived.KernelRfl
namespace Go.Proofs.Ytacfboopkcaobab
/- THE CELL 'sum', in the pinned program and in every row, IS THE sha256 OF THE DUMP (.gsa) THAT YtacfboopkcaobabProg.lean LOADS. Nothing in Lean hashes anything: it is a label: what it is worth is what the hold of that sum in a sandbox is worth. -/
noncomputable def Try.pinned : Pinned := { name := "ytacfboopkcaobab", sum := "772abb4accf757f6e3d6a7249cf8b31876373669f7bd497374f219bb607ee98e", checked := Try.checked }
namespace Rows
def none {H : Type} : Left H := { results := [], args := [] }

/-- 'jobberlaw05.ChanceBounds': WHATEVER THE INPUT: true; the input reads as it did. -/
def chanceBoundsSpec : ChangeSpec := { name := "chanceBounds", fn := fun _ => fun
  | [d1, d2] => { results := [.lit (.bool true)], args := [d1, d2] }
  | _ => none }
def chanceBoundsRow : OpenClaim := { program := "ytacfboopkcaobab", sum := "772abb4accf757f6e3d6a7249cf8b31876373669f7bd497374f219bb607ee98e", func := "jobber/jobberlaw05.ChanceBounds", spec := "chanceBounds", unfollowed := true, recurses := true, apart := false }
def ChanceBoundsSaid : Prop := chanceBoundsRow.holds Try.pinned (OpenSpec.ofChange chanceBoundsSpec)

/-- ITS FALSE NEIGHBOUR: 'it returns false'. Refute it at one input. -/
def chanceBoundsWrong : ChangeSpec := { name := "chanceBounds", fn := fun _ => fun
  | [d1, d2] => { results := [.lit (.bool false)], args := [d1, d2] }
  | _ => none }
def ChanceBoundsWrongFalsely : Prop := chanceBoundsRow.holds Try.pinned (OpenSpec.ofChange chanceBoundsWrong)

/-- 'jobberlaw05.ChanceSame': WHATEVER THE INPUT: true; the input reads as it did. -/
def chanceSameSpec : ChangeSpec := { name := "chanceSame", fn := fun _ => fun
  | [d1, d2] => { results := [.lit (.bool true)], args := [d1, d2] }
  | _ => none }
def chanceSameRow : OpenClaim := { program := "ytacfboopkcaobab", sum := "772abb4accf757f6e3d6a7249cf8b31876373669f7bd497374f219bb607ee98e", func := "jobber/jobberlaw05.ChanceSame", spec := "chanceSame", unfollowed := true, recurses := true, apart := false }
def ChanceSameSaid : Prop := chanceSameRow.holds Try.pinned (OpenSpec.ofChange chanceSameSpec)

/-- ITS FALSE NEIGHBOUR: 'it returns false'. Refute it at one input. -/
def chanceSameWrong : ChangeSpec := { name := "chanceSame", fn := fun _ => fun
  | [d1, d2] => { results := [.lit (.bool false)], args := [d1, d2] }
  | _ => none }
def ChanceSameWrongFalsely : Prop := chanceSameRow.holds Try.pinned (OpenSpec.ofChange chanceSameWrong)

/-- 'jobberlaw06.GridTells': WHATEVER THE INPUT: true; the input reads as it did. -/
def gridTellsSpec : ChangeSpec := { name := "gridTells", fn := fun _ => fun
  | [d1, d2] => { results := [.lit (.bool true)], args := [d1, d2] }
  | _ => none }
def gridTellsRow : OpenClaim := { program := "ytacfboopkcaobab", sum := "772abb4accf757f6e3d6a7249cf8b31876373669f7bd497374f219bb607ee98e", func := "jobber/jobberlaw06.GridTells", spec := "gridTells", unfollowed := true, recurses := true, apart := false }
def GridTellsSaid : Prop := gridTellsRow.holds Try.pinned (OpenSpec.ofChange gridTellsSpec)

/-- ITS FALSE NEIGHBOUR: 'it returns false'. Refute it at one input. -/
def gridTellsWrong : ChangeSpec := { name := "gridTells", fn := fun _ => fun
  | [d1, d2] => { results := [.lit (.bool false)], args := [d1, d2] }
  | _ => none }
def GridTellsWrongFalsely : Prop := gridTellsRow.holds Try.pinned (OpenSpec.ofChange gridTellsWrong)

/-- 'jobberlaw06.GridCounts': WHATEVER THE INPUT: true; the input reads as it did. -/
def gridCountsSpec : ChangeSpec := { name := "gridCounts", fn := fun _ => fun
  | [d1, d2, d3, d4] => { results := [.lit (.bool true)], args := [d1, d2, d3, d4] }
  | _ => none }
def gridCountsRow : OpenClaim := { program := "ytacfboopkcaobab", sum := "772abb4accf757f6e3d6a7249cf8b31876373669f7bd497374f219bb607ee98e", func := "jobber/jobberlaw06.GridCounts", spec := "gridCounts", unfollowed := true, recurses := true, apart := false }
def GridCountsSaid : Prop := gridCountsRow.holds Try.pinned (OpenSpec.ofChange gridCountsSpec)

/-- ITS FALSE NEIGHBOUR: 'it returns false'. Refute it at one input. -/
def gridCountsWrong : ChangeSpec := { name := "gridCounts", fn := fun _ => fun
  | [d1, d2, d3, d4] => { results := [.lit (.bool false)], args := [d1, d2, d3, d4] }
  | _ => none }
def GridCountsWrongFalsely : Prop := gridCountsRow.holds Try.pinned (OpenSpec.ofChange gridCountsWrong)

/-- 'jobberlaw06.GridNear': WHATEVER THE INPUT: true; the input reads as it did. -/
def gridNearSpec : ChangeSpec := { name := "gridNear", fn := fun _ => fun
  | [d1, d2] => { results := [.lit (.bool true)], args := [d1, d2] }
  | _ => none }
def gridNearRow : OpenClaim := { program := "ytacfboopkcaobab", sum := "772abb4accf757f6e3d6a7249cf8b31876373669f7bd497374f219bb607ee98e", func := "jobber/jobberlaw06.GridNear", spec := "gridNear", unfollowed := true, recurses := true, apart := false }
def GridNearSaid : Prop := gridNearRow.holds Try.pinned (OpenSpec.ofChange gridNearSpec)

/-- ITS FALSE NEIGHBOUR: 'it returns false'. Refute it at one input. -/
def gridNearWrong : ChangeSpec := { name := "gridNear", fn := fun _ => fun
  | [d1, d2] => { results := [.lit (.bool false)], args := [d1, d2] }
  | _ => none }
def GridNearWrongFalsely : Prop := gridNearRow.holds Try.pinned (OpenSpec.ofChange gridNearWrong)

/- THE SECOND FORM. 'bulk': how many values and letters a reading holds, each counted each time it is reached (what is shared counts as often as it is met; a slice's spare places count too). A statement '..UptoSaid' is the law's where the arguments, and the package variables that the reading takes, are together of bulk at most 1048576: NARROWER than '..Said'. Prove '..Said' where nothing that the law and all that it calls make is longer than what came in: it says more and counts as full. Else prove '..UptoSaid'. A law counts once. -/
mutual
def uptoBulk {H : Type} : DataW H → Nat
  | .lit (.string bytes) => bytes.length + 1
  | .lit _ => 1
  | .nil => 1
  | .ptr d => uptoBulk d + 1
  | .slice elems spare => uptoBulkAll elems + uptoBulkAll spare + 1
  | .agg parts => uptoBulkAll parts + 1
  | .iface _ d => uptoBulk d + 1
  | .map entries => uptoBulkEntries entries + 1
  | .held _ => 1
def uptoBulkAll {H : Type} : List (DataW H) → Nat
  | [] => 0
  | d :: r => uptoBulk d + uptoBulkAll r
def uptoBulkEntries {H : Type} : List (Lit × DataW H) → Nat
  | [] => 0
  | x :: r => uptoBulkEntry x + uptoBulkEntries r
def uptoBulkEntry {H : Type} : Lit × DataW H → Nat
  | (.string bytes, d) => bytes.length + uptoBulk d + 1
  | (_, d) => uptoBulk d + 1
 end
def uptoSmall : (H : Type) → List (DataW H) → Bool := fun _ ds => decide (uptoBulkAll ds ≤ 1048576)
def OpenSpec.upto (s : _root_.Go.ChangeSpec) : _root_.Go.OpenSpec := { _root_.Go.OpenSpec.ofChange s with cond := some uptoSmall }

/-- 'jobberlaw05.ChanceBounds', WHERE WHAT IT READS IS OF BULK AT MOST 1048576: true; the input reads as it did. -/
def chanceBoundsUptoRow : OpenClaim := { program := "ytacfboopkcaobab", sum := "772abb4accf757f6e3d6a7249cf8b31876373669f7bd497374f219bb607ee98e", func := "jobber/jobberlaw05.ChanceBounds", spec := "chanceBounds", unfollowed := true, recurses := true, apart := false, narrowed := true }
def ChanceBoundsUptoSaid : Prop := chanceBoundsUptoRow.holds Try.pinned (OpenSpec.upto chanceBoundsSpec)

/-- 'jobberlaw05.ChanceSame', WHERE WHAT IT READS IS OF BULK AT MOST 1048576: true; the input reads as it did. -/
def chanceSameUptoRow : OpenClaim := { program := "ytacfboopkcaobab", sum := "772abb4accf757f6e3d6a7249cf8b31876373669f7bd497374f219bb607ee98e", func := "jobber/jobberlaw05.ChanceSame", spec := "chanceSame", unfollowed := true, recurses := true, apart := false, narrowed := true }
def ChanceSameUptoSaid : Prop := chanceSameUptoRow.holds Try.pinned (OpenSpec.upto chanceSameSpec)

/-- 'jobberlaw06.GridTells', WHERE WHAT IT READS IS OF BULK AT MOST 1048576: true; the input reads as it did. -/
def gridTellsUptoRow : OpenClaim := { program := "ytacfboopkcaobab", sum := "772abb4accf757f6e3d6a7249cf8b31876373669f7bd497374f219bb607ee98e", func := "jobber/jobberlaw06.GridTells", spec := "gridTells", unfollowed := true, recurses := true, apart := false, narrowed := true }
def GridTellsUptoSaid : Prop := gridTellsUptoRow.holds Try.pinned (OpenSpec.upto gridTellsSpec)

/-- 'jobberlaw06.GridCounts', WHERE WHAT IT READS IS OF BULK AT MOST 1048576: true; the input reads as it did. -/
def gridCountsUptoRow : OpenClaim := { program := "ytacfboopkcaobab", sum := "772abb4accf757f6e3d6a7249cf8b31876373669f7bd497374f219bb607ee98e", func := "jobber/jobberlaw06.GridCounts", spec := "gridCounts", unfollowed := true, recurses := true, apart := false, narrowed := true }
def GridCountsUptoSaid : Prop := gridCountsUptoRow.holds Try.pinned (OpenSpec.upto gridCountsSpec)

/-- 'jobberlaw06.GridNear', WHERE WHAT IT READS IS OF BULK AT MOST 1048576: true; the input reads as it did. -/
def gridNearUptoRow : OpenClaim := { program := "ytacfboopkcaobab", sum := "772abb4accf757f6e3d6a7249cf8b31876373669f7bd497374f219bb607ee98e", func := "jobber/jobberlaw06.GridNear", spec := "gridNear", unfollowed := true, recurses := true, apart := false, narrowed := true }
def GridNearUptoSaid : Prop := gridNearUptoRow.holds Try.pinned (OpenSpec.upto gridNearSpec)

end Rows
end Go.Proofs.Ytacfboopkcaobab
