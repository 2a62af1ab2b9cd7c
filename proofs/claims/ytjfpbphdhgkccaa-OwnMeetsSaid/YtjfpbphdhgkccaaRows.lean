/-
  No cell of these rows narrows 'for every input' (looked for: loops, veiled, ifaces, maps, wideKeys, modest, calm, conditions, laid).
  DERIVED. THE GIVEN ROWS OF THIS SEAT. 2 by the template 'for every input the law returns true; each argument reads behind the call as it read before'; 0 by the template 'total and deterministic' (their statements: YtjfpbphdhgkccaaTotals.lean).
  GIVEN WITH THE SEED: the statements are not yours to turn. If you find one false, say at which input.
  Laid BY PROGRAM, IN A SANDBOX (cutbox-rows.mjs): the forced cells as the released guide's own fill.sh prints them over the translation 8932b2383610842c… (all of the seat's roots in one cut). By AI agents, Wed Nov 11 2026. No macro, syntax, notation, axiom, sorry.
-/
import Derived.Test.YtjfpbphdhgkccaaChecked
import GoSem.Claim
import GoSem.ClaimJoined
import GoSem.ClaimMapViews
import Derived.JoinedTies
import Derived.KernelRfl
namespace Go.Proofs.Ytjfpbphdhgkccaa
/- THE CELL 'sum', in the pinned program and in every row, IS THE sha256 OF THE DUMP (.gsa) THAT YtjfpbphdhgkccaaProg.lean LOADS. Nothing in Lean hashes anything: it is a label: what it is worth is what the hold of that sum in a sandbox is worth. -/
noncomputable def Try.pinned : Pinned := { name := "ytjfpbphdhgkccaa", sum := "8932b2383610842c387b768998edac936d78da40aff49fcd886e86eead8fc4ff", checked := Try.checked }
namespace Rows
def none {H : Type} : Left H := { results := [], args := [] }

/-- 'jobberlaw17.OwnMeets': WHATEVER THE INPUT: true; the input reads as it did. -/
def ownMeetsSpec : ChangeSpec := { name := "ownMeets", fn := fun _ => fun
  | [d1, d2, d3] => { results := [.lit (.bool true)], args := [d1, d2, d3] }
  | _ => none }
def ownMeetsRow : OpenClaim := { program := "ytjfpbphdhgkccaa", sum := "8932b2383610842c387b768998edac936d78da40aff49fcd886e86eead8fc4ff", func := "jobber/jobberlaw17.OwnMeets", spec := "ownMeets", unfollowed := true, recurses := true, apart := false }
def OwnMeetsSaid : Prop := ownMeetsRow.holds Try.pinned (OpenSpec.ofChange ownMeetsSpec)

/-- ITS FALSE NEIGHBOUR: 'it returns false'. Refute it at one input. -/
def ownMeetsWrong : ChangeSpec := { name := "ownMeets", fn := fun _ => fun
  | [d1, d2, d3] => { results := [.lit (.bool false)], args := [d1, d2, d3] }
  | _ => none }
def OwnMeetsWrongFalsely : Prop := ownMeetsRow.holds Try.pinned (OpenSpec.ofChange ownMeetsWrong)

/-- 'jobberlaw17.OwnReaches': WHATEVER THE INPUT: true; the input reads as it did. -/
def ownReachesSpec : ChangeSpec := { name := "ownReaches", fn := fun _ => fun
  | [d1, d2, d3, d4] => { results := [.lit (.bool true)], args := [d1, d2, d3, d4] }
  | _ => none }
def ownReachesRow : OpenClaim := { program := "ytjfpbphdhgkccaa", sum := "8932b2383610842c387b768998edac936d78da40aff49fcd886e86eead8fc4ff", func := "jobber/jobberlaw17.OwnReaches", spec := "ownReaches", unfollowed := true, recurses := true, apart := false }
def OwnReachesSaid : Prop := ownReachesRow.holds Try.pinned (OpenSpec.ofChange ownReachesSpec)

/-- ITS FALSE NEIGHBOUR: 'it returns false'. Refute it at one input. -/
def ownReachesWrong : ChangeSpec := { name := "ownReaches", fn := fun _ => fun
  | [d1, d2, d3, d4] => { results := [.lit (.bool false)], args := [d1, d2, d3, d4] }
  | _ => none }
def OwnReachesWrongFalsely : Prop := ownReachesRow.holds Try.pinned (OpenSpec.ofChange ownReachesWrong)

/- THE SECOND FORM. 'bulk': how many values and letters a reading holds, each counted each time it is reached (what is shared counts as often as it is met; a slice's spare places count too). A statement '..UptoSaid' is the law's where the arguments, and the package variables that the reading takes, are together of bulk at most 1048576: NARROWER than '..Said'. Prove '..Said' where nothing that the law and all that it calls make is longer than what came in: it says more and counts as full. Else prove '..UptoSaid'. A law counts once. -/
mutual
def uptoBulk {H : Type} : DataW H → Nat
  | .lit (.string bytes) => bytes.length + 1
  | .lit _ => 1
  | .nil => 1
  | .ptr d => uptoBulk d + 1
  | .slice elems spare => uptoBulkAll elems + uptoBulkAll spare + 1
  | .agg parts => uptoBulkAll parts + 1
  | .iface _ d => uptoBulk d + 1
  | .map entries => uptoBulkEntries entries + 1
  | .held _ => 1
def uptoBulkAll {H : Type} : List (DataW H) → Nat
  | [] => 0
  | d :: r => uptoBulk d + uptoBulkAll r
def uptoBulkEntries {H : Type} : List (Lit × DataW H) → Nat
  | [] => 0
  | x :: r => uptoBulkEntry x + uptoBulkEntries r
def uptoBulkEntry {H : Type} : Lit × DataW H → Nat
  | (.string bytes, d) => bytes.length + uptoBulk d + 1
  | (_, d) => uptoBulk d + 1
 end
def uptoSmall : (H : Type) → List (DataW H) → Bool := fun _ ds => decide (uptoBulkAll ds ≤ 1048576)
def OpenSpec.upto (s : _root_.Go.ChangeSpec) : _root_.Go.OpenSpec := { _root_.Go.OpenSpec.ofChange s with cond := some uptoSmall }

/-- 'jobberlaw17.OwnMeets', WHERE WHAT IT READS IS OF BULK AT MOST 1048576: true; the input reads as it did. -/
def ownMeetsUptoRow : OpenClaim := { program := "ytjfpbphdhgkccaa", sum := "8932b2383610842c387b768998edac936d78da40aff49fcd886e86eead8fc4ff", func := "jobber/jobberlaw17.OwnMeets", spec := "ownMeets", unfollowed := true, recurses := true, apart := false, narrowed := true }
def OwnMeetsUptoSaid : Prop := ownMeetsUptoRow.holds Try.pinned (OpenSpec.upto ownMeetsSpec)

/-- 'jobberlaw17.OwnReaches', WHERE WHAT IT READS IS OF BULK AT MOST 1048576: true; the input reads as it did. -/
def ownReachesUptoRow : OpenClaim := { program := "ytjfpbphdhgkccaa", sum := "8932b2383610842c387b768998edac936d78da40aff49fcd886e86eead8fc4ff", func := "jobber/jobberlaw17.OwnReaches", spec := "ownReaches", unfollowed := true, recurses := true, apart := false, narrowed := true }
def OwnReachesUptoSaid : Prop := ownReachesUptoRow.holds Try.pinned (OpenSpec.upto ownReachesSpec)

end Rows
end Go.Proofs.Ytjfpbphdhgkccaa
