/-
  No cell of these rows narrows 'for every input' (looked for: loops, veiled, ifaces, maps, wideKeys, modest, calm, conditions, laid).
  DERIVED. THE GIVEN ROWS OF THIS SEAT. 6 by the template 'for every input the law returns true; each argument reads behind the call as it read before'; 0 by the template 'total and deterministic' (their statements: YtikapeaodobkjaaGreatTotals.lean).
  GIVEN WITH THE SEED: the statements are not yours to turn. If you find one false, say at which input.
  Laid BY PROGRAM, IN A SANDBOX (cutbox-rows.mjs): the forced cells as the released guide's own fill.sh prints them over the translation 2e2ccd757631c216… (all of the seat's roots in one cut). By AI agents, Wed Nov 11 2026. No macro, syntax, notation, axiom, sorry.
-/
import Derived.Test.YtikapeaodobkjaaGreatChecked
import GoSem.Claim
import GoSem.ClaimJoined
import GoSem.ClaimMapViews
import Derived.JoinedTies
import Derived.KernelRfl
namespace Go.Proofs.YtikapeaodobkjaaGreat
/- THE CELL 'sum', in the pinned program and in every row, IS THE sha256 OF THE DUMP (.gsa) THAT YtikapeaodobkjaaGreatProg.lean LOADS. Nothing in Lean hashes anything: it is a label: what it is worth is what the hold of that sum in a sandbox is worth. -/
noncomputable def Tryz.pinned : Pinned := { name := "ytikapeaodobkjaagreat", sum := "2e2ccd757631c2163bfe1b3e379269cb7c13357a0211a1d67103daf161744252", checked := Tryz.checked }
namespace Rows
def none {H : Type} : Left H := { results := [], args := [] }

/-- 'jobberlaw15.LayoutBuilds': WHATEVER THE INPUT: true; the input reads as it did. -/
def layoutBuildsSpec : ChangeSpec := { name := "layoutBuilds", fn := fun _ => fun
  | [d1, d2] => { results := [.lit (.bool true)], args := [d1, d2] }
  | _ => none }
def layoutBuildsRow : OpenClaim := { program := "ytikapeaodobkjaagreat", sum := "2e2ccd757631c2163bfe1b3e379269cb7c13357a0211a1d67103daf161744252", func := "jobber/jobberlaw15.LayoutBuilds", spec := "layoutBuilds", unfollowed := true, recurses := true, apart := false }
def LayoutBuildsSaid : Prop := layoutBuildsRow.holds Tryz.pinned (OpenSpec.ofChange layoutBuildsSpec)

/-- ITS FALSE NEIGHBOUR: 'it returns false'. Refute it at one input. -/
def layoutBuildsWrong : ChangeSpec := { name := "layoutBuilds", fn := fun _ => fun
  | [d1, d2] => { results := [.lit (.bool false)], args := [d1, d2] }
  | _ => none }
def LayoutBuildsWrongFalsely : Prop := layoutBuildsRow.holds Tryz.pinned (OpenSpec.ofChange layoutBuildsWrong)

/-- 'jobberlaw15.LayoutBack': WHATEVER THE INPUT: true; the input reads as it did. -/
def layoutBackSpec : ChangeSpec := { name := "layoutBack", fn := fun _ => fun
  | [d1, d2, d3] => { results := [.lit (.bool true)], args := [d1, d2, d3] }
  | _ => none }
def layoutBackRow : OpenClaim := { program := "ytikapeaodobkjaagreat", sum := "2e2ccd757631c2163bfe1b3e379269cb7c13357a0211a1d67103daf161744252", func := "jobber/jobberlaw15.LayoutBack", spec := "layoutBack", unfollowed := true, recurses := true, apart := false }
def LayoutBackSaid : Prop := layoutBackRow.holds Tryz.pinned (OpenSpec.ofChange layoutBackSpec)

/-- ITS FALSE NEIGHBOUR: 'it returns false'. Refute it at one input. -/
def layoutBackWrong : ChangeSpec := { name := "layoutBack", fn := fun _ => fun
  | [d1, d2, d3] => { results := [.lit (.bool false)], args := [d1, d2, d3] }
  | _ => none }
def LayoutBackWrongFalsely : Prop := layoutBackRow.holds Tryz.pinned (OpenSpec.ofChange layoutBackWrong)

/-- 'jobberlaw15.LayoutPlays': WHATEVER THE INPUT: true; the input reads as it did. -/
def layoutPlaysSpec : ChangeSpec := { name := "layoutPlays", fn := fun _ => fun
  | [d1, d2, d3] => { results := [.lit (.bool true)], args := [d1, d2, d3] }
  | _ => none }
def layoutPlaysRow : OpenClaim := { program := "ytikapeaodobkjaagreat", sum := "2e2ccd757631c2163bfe1b3e379269cb7c13357a0211a1d67103daf161744252", func := "jobber/jobberlaw15.LayoutPlays", spec := "layoutPlays", unfollowed := true, recurses := true, apart := false }
def LayoutPlaysSaid : Prop := layoutPlaysRow.holds Tryz.pinned (OpenSpec.ofChange layoutPlaysSpec)

/-- ITS FALSE NEIGHBOUR: 'it returns false'. Refute it at one input. -/
def layoutPlaysWrong : ChangeSpec := { name := "layoutPlays", fn := fun _ => fun
  | [d1, d2, d3] => { results := [.lit (.bool false)], args := [d1, d2, d3] }
  | _ => none }
def LayoutPlaysWrongFalsely : Prop := layoutPlaysRow.holds Tryz.pinned (OpenSpec.ofChange layoutPlaysWrong)

/-- 'jobberlaw18.CrossMatches': WHATEVER THE INPUT: true; the input reads as it did. -/
def crossMatchesSpec : ChangeSpec := { name := "crossMatches", fn := fun _ => fun
  | [d1, d2, d3, d4] => { results := [.lit (.bool true)], args := [d1, d2, d3, d4] }
  | _ => none }
def crossMatchesRow : OpenClaim := { program := "ytikapeaodobkjaagreat", sum := "2e2ccd757631c2163bfe1b3e379269cb7c13357a0211a1d67103daf161744252", func := "jobber/jobberlaw18.CrossMatches", spec := "crossMatches", inPlace := ["math/bits.Sub64", "math/bits.Add64"], unfollowed := true, recurses := true, named := ["math/bits.divideError", "math/bits.overflowError"], apart := false }
def CrossMatchesSaid : Prop := crossMatchesRow.holds Tryz.pinned (OpenSpec.ofChange crossMatchesSpec)

/-- ITS FALSE NEIGHBOUR: 'it returns false'. Refute it at one input. -/
def crossMatchesWrong : ChangeSpec := { name := "crossMatches", fn := fun _ => fun
  | [d1, d2, d3, d4] => { results := [.lit (.bool false)], args := [d1, d2, d3, d4] }
  | _ => none }
def CrossMatchesWrongFalsely : Prop := crossMatchesRow.holds Tryz.pinned (OpenSpec.ofChange crossMatchesWrong)

/-- 'jobberlaw18.CrossReaches': WHATEVER THE INPUT: true; the input reads as it did. -/
def crossReachesSpec : ChangeSpec := { name := "crossReaches", fn := fun _ => fun
  | [d1, d2, d3, d4] => { results := [.lit (.bool true)], args := [d1, d2, d3, d4] }
  | _ => none }
def crossReachesRow : OpenClaim := { program := "ytikapeaodobkjaagreat", sum := "2e2ccd757631c2163bfe1b3e379269cb7c13357a0211a1d67103daf161744252", func := "jobber/jobberlaw18.CrossReaches", spec := "crossReaches", inPlace := ["math/bits.Sub64", "math/bits.Add64"], unfollowed := true, recurses := true, named := ["math/bits.divideError", "math/bits.overflowError"], apart := false }
def CrossReachesSaid : Prop := crossReachesRow.holds Tryz.pinned (OpenSpec.ofChange crossReachesSpec)

/-- ITS FALSE NEIGHBOUR: 'it returns false'. Refute it at one input. -/
def crossReachesWrong : ChangeSpec := { name := "crossReaches", fn := fun _ => fun
  | [d1, d2, d3, d4] => { results := [.lit (.bool false)], args := [d1, d2, d3, d4] }
  | _ => none }
def CrossReachesWrongFalsely : Prop := crossReachesRow.holds Tryz.pinned (OpenSpec.ofChange crossReachesWrong)

/-- 'jobberlaw18.CrossKeeps': WHATEVER THE INPUT: true; the input reads as it did. -/
def crossKeepsSpec : ChangeSpec := { name := "crossKeeps", fn := fun _ => fun
  | [d1, d2, d3, d4] => { results := [.lit (.bool true)], args := [d1, d2, d3, d4] }
  | _ => none }
def crossKeepsRow : OpenClaim := { program := "ytikapeaodobkjaagreat", sum := "2e2ccd757631c2163bfe1b3e379269cb7c13357a0211a1d67103daf161744252", func := "jobber/jobberlaw18.CrossKeeps", spec := "crossKeeps", inPlace := ["math/bits.Sub64", "math/bits.Add64"], unfollowed := true, recurses := true, named := ["math/bits.divideError", "math/bits.overflowError"], apart := false }
def CrossKeepsSaid : Prop := crossKeepsRow.holds Tryz.pinned (OpenSpec.ofChange crossKeepsSpec)

/-- ITS FALSE NEIGHBOUR: 'it returns false'. Refute it at one input. -/
def crossKeepsWrong : ChangeSpec := { name := "crossKeeps", fn := fun _ => fun
  | [d1, d2, d3, d4] => { results := [.lit (.bool false)], args := [d1, d2, d3, d4] }
  | _ => none }
def CrossKeepsWrongFalsely : Prop := crossKeepsRow.holds Tryz.pinned (OpenSpec.ofChange crossKeepsWrong)

/- THE SECOND FORM. 'bulk': how many values and letters a reading holds, each counted each time it is reached (what is shared counts as often as it is met; a slice's spare places count too). A statement '..UptoSaid' is the law's where the arguments, and the package variables that the reading takes, are together of bulk at most 1048576: NARROWER than '..Said'. Prove '..Said' where nothing that the law and all that it calls make is longer than what came in: it says more and counts as full. Else prove '..UptoSaid'. A law counts once. -/
mutual
def uptoBulk {H : Type} : DataW H → Nat
  | .lit (.string bytes) => bytes.length + 1
  | .lit _ => 1
  | .nil => 1
  | .ptr d => uptoBulk d + 1
  | .slice elems spare => uptoBulkAll elems + uptoBulkAll spare + 1
  | .agg parts => uptoBulkAll parts + 1
  | .iface _ d => uptoBulk d + 1
  | .map entries => uptoBulkEntries entries + 1
  | .held _ => 1
def uptoBulkAll {H : Type} : List (DataW H) → Nat
  | [] => 0
  | d :: r => uptoBulk d + uptoBulkAll r
def uptoBulkEntries {H : Type} : List (Lit × DataW H) → Nat
  | [] => 0
  | x :: r => uptoBulkEntry x + uptoBulkEntries r
def uptoBulkEntry {H : Type} : Lit × DataW H → Nat
  | (.string bytes, d) => bytes.length + uptoBulk d + 1
  | (_, d) => uptoBulk d + 1
 end
def uptoSmall : (H : Type) → List (DataW H) → Bool := fun _ ds => decide (uptoBulkAll ds ≤ 1048576)
def OpenSpec.upto (s : _root_.Go.ChangeSpec) : _root_.Go.OpenSpec := { _root_.Go.OpenSpec.ofChange s with cond := some uptoSmall }

/-- 'jobberlaw15.LayoutBuilds', WHERE WHAT IT READS IS OF BULK AT MOST 1048576: true; the input reads as it did. -/
def layoutBuildsUptoRow : OpenClaim := { program := "ytikapeaodobkjaagreat", sum := "2e2ccd757631c2163bfe1b3e379269cb7c13357a0211a1d67103daf161744252", func := "jobber/jobberlaw15.LayoutBuilds", spec := "layoutBuilds", unfollowed := true, recurses := true, apart := false, narrowed := true }
def LayoutBuildsUptoSaid : Prop := layoutBuildsUptoRow.holds Tryz.pinned (OpenSpec.upto layoutBuildsSpec)

/-- 'jobberlaw15.LayoutBack', WHERE WHAT IT READS IS OF BULK AT MOST 1048576: true; the input reads as it did. -/
def layoutBackUptoRow : OpenClaim := { program := "ytikapeaodobkjaagreat", sum := "2e2ccd757631c2163bfe1b3e379269cb7c13357a0211a1d67103daf161744252", func := "jobber/jobberlaw15.LayoutBack", spec := "layoutBack", unfollowed := true, recurses := true, apart := false, narrowed := true }
def LayoutBackUptoSaid : Prop := layoutBackUptoRow.holds Tryz.pinned (OpenSpec.upto layoutBackSpec)

/-- 'jobberlaw15.LayoutPlays', WHERE WHAT IT READS IS OF BULK AT MOST 1048576: true; the input reads as it did. -/
def layoutPlaysUptoRow : OpenClaim := { program := "ytikapeaodobkjaagreat", sum := "2e2ccd757631c2163bfe1b3e379269cb7c13357a0211a1d67103daf161744252", func := "jobber/jobberlaw15.LayoutPlays", spec := "layoutPlays", unfollowed := true, recurses := true, apart := false, narrowed := true }
def LayoutPlaysUptoSaid : Prop := layoutPlaysUptoRow.holds Tryz.pinned (OpenSpec.upto layoutPlaysSpec)

/-- 'jobberlaw18.CrossMatches', WHERE WHAT IT READS IS OF BULK AT MOST 1048576: true; the input reads as it did. -/
def crossMatchesUptoRow : OpenClaim := { program := "ytikapeaodobkjaagreat", sum := "2e2ccd757631c2163bfe1b3e379269cb7c13357a0211a1d67103daf161744252", func := "jobber/jobberlaw18.CrossMatches", spec := "crossMatches", inPlace := ["math/bits.Sub64", "math/bits.Add64"], unfollowed := true, recurses := true, named := ["math/bits.divideError", "math/bits.overflowError"], apart := false, narrowed := true }
def CrossMatchesUptoSaid : Prop := crossMatchesUptoRow.holds Tryz.pinned (OpenSpec.upto crossMatchesSpec)

/-- 'jobberlaw18.CrossReaches', WHERE WHAT IT READS IS OF BULK AT MOST 1048576: true; the input reads as it did. -/
def crossReachesUptoRow : OpenClaim := { program := "ytikapeaodobkjaagreat", sum := "2e2ccd757631c2163bfe1b3e379269cb7c13357a0211a1d67103daf161744252", func := "jobber/jobberlaw18.CrossReaches", spec := "crossReaches", inPlace := ["math/bits.Sub64", "math/bits.Add64"], unfollowed := true, recurses := true, named := ["math/bits.divideError", "math/bits.overflowError"], apart := false, narrowed := true }
def CrossReachesUptoSaid : Prop := crossReachesUptoRow.holds Tryz.pinned (OpenSpec.upto crossReachesSpec)

/-- 'jobberlaw18.CrossKeeps', WHERE WHAT IT READS IS OF BULK AT MOST 1048576: true; the input reads as it did. -/
def crossKeepsUptoRow : OpenClaim := { program := "ytikapeaodobkjaagreat", sum := "2e2ccd757631c2163bfe1b3e379269cb7c13357a0211a1d67103daf161744252", func := "jobber/jobberlaw18.CrossKeeps", spec := "crossKeeps", inPlace := ["math/bits.Sub64", "math/bits.Add64"], unfollowed := true, recurses := true, named := ["math/bits.divideError", "math/bits.overflowError"], apart := false, narrowed := true }
def CrossKeepsUptoSaid : Prop := crossKeepsUptoRow.holds Tryz.pinned (OpenSpec.upto crossKeepsSpec)

end Rows
end Go.Proofs.YtikapeaodobkjaaGreat
