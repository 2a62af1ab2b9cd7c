/-
  No cell of these rows narrows 'for every input' (looked for: loops, veiled, ifaces, maps, wideKeys, modest, calm, conditions, laid).
  DERIVED. THE GIVEN ROWS OF THIS SEAT. 5 by the template 'for every input the law returns true; each argument reads behind the call as it read before'; 0 by the template 'total and deterministic' (their statements: YtoechhbdpkjppabTotals.lean).
  GIVEN WITH THE SEED: the statements are not yours to turn. If you find one false, say at which input.
  Laid BY PROGRAM, IN A SANDBOX (cutbox-rows.mjs): the forced cells as the released guide's own fill.sh prints them over the translation 48502bc36f97f0d2… (all of the seat's roots in one cut). By AI agents, Wed Nov 11 2026. No macro, syntax, notation, axiom, sorry.
-/
import Derived.Test.YtoechhbdpkjppabChecked
import GoSem.Claim
import GoSem.ClaimJoined
import GoSem.ClaimMapViews
import Derived.JoinedTies
import Derived.KernelRfl
namespace Go.Proofs.Ytoechhbdpkjppab
/- THE CELL 'sum', in the pinned program and in every row, IS THE sha256 OF THE DUMP (.gsa) THAT YtoechhbdpkjppabProg.lean LOADS. Nothing in Lean hashes anything: it is a label: what it is worth is what the hold of that sum in a sandbox is worth. -/
noncomputable def Try.pinned : Pinned := { name := "ytoechhbdpkjppab", sum := "48502bc36f97f0d2af6efec9d32b671591ce91fc45bd5d33cce96247a1d13ef1", checked := Try.checked }
namespace Rows
def none {H : Type} : Left H := { results := [], args := [] }

/-- 'jobberlaw01.CoinAdds': WHATEVER THE INPUT: true; the input reads as it did. -/
def coinAddsSpec : ChangeSpec := { name := "coinAdds", fn := fun _ => fun
  | [d1, d2] => { results := [.lit (.bool true)], args := [d1, d2] }
  | _ => none }
def coinAddsRow : OpenClaim := { program := "ytoechhbdpkjppab", sum := "48502bc36f97f0d2af6efec9d32b671591ce91fc45bd5d33cce96247a1d13ef1", func := "jobber/jobberlaw01.CoinAdds", spec := "coinAdds", inPlace := ["math/bits.Add64", "math/bits.Sub64"], unfollowed := true, recurses := true, named := ["math/bits.divideError", "math/bits.overflowError"], apart := false }
def CoinAddsSaid : Prop := coinAddsRow.holds Try.pinned (OpenSpec.ofChange coinAddsSpec)

/-- ITS FALSE NEIGHBOUR: 'it returns false'. Refute it at one input. -/
def coinAddsWrong : ChangeSpec := { name := "coinAdds", fn := fun _ => fun
  | [d1, d2] => { results := [.lit (.bool false)], args := [d1, d2] }
  | _ => none }
def CoinAddsWrongFalsely : Prop := coinAddsRow.holds Try.pinned (OpenSpec.ofChange coinAddsWrong)

/-- 'jobberlaw01.CoinDivides': WHATEVER THE INPUT: true; the input reads as it did. -/
def coinDividesSpec : ChangeSpec := { name := "coinDivides", fn := fun _ => fun
  | [d1, d2, d3, d4] => { results := [.lit (.bool true)], args := [d1, d2, d3, d4] }
  | _ => none }
def coinDividesRow : OpenClaim := { program := "ytoechhbdpkjppab", sum := "48502bc36f97f0d2af6efec9d32b671591ce91fc45bd5d33cce96247a1d13ef1", func := "jobber/jobberlaw01.CoinDivides", spec := "coinDivides", inPlace := ["math/bits.Sub64", "math/bits.Add64"], unfollowed := true, recurses := true, named := ["math/bits.divideError", "math/bits.overflowError"], apart := false }
def CoinDividesSaid : Prop := coinDividesRow.holds Try.pinned (OpenSpec.ofChange coinDividesSpec)

/-- ITS FALSE NEIGHBOUR: 'it returns false'. Refute it at one input. -/
def coinDividesWrong : ChangeSpec := { name := "coinDivides", fn := fun _ => fun
  | [d1, d2, d3, d4] => { results := [.lit (.bool false)], args := [d1, d2, d3, d4] }
  | _ => none }
def CoinDividesWrongFalsely : Prop := coinDividesRow.holds Try.pinned (OpenSpec.ofChange coinDividesWrong)

/-- 'jobberlaw01.CoinSums': WHATEVER THE INPUT: true; the input reads as it did. -/
def coinSumsSpec : ChangeSpec := { name := "coinSums", fn := fun _ => fun
  | [d1, d2, d3, d4, d5] => { results := [.lit (.bool true)], args := [d1, d2, d3, d4, d5] }
  | _ => none }
def coinSumsRow : OpenClaim := { program := "ytoechhbdpkjppab", sum := "48502bc36f97f0d2af6efec9d32b671591ce91fc45bd5d33cce96247a1d13ef1", func := "jobber/jobberlaw01.CoinSums", spec := "coinSums", inPlace := ["math/bits.Add64", "math/bits.Sub64"], unfollowed := true, recurses := true, named := ["math/bits.divideError", "math/bits.overflowError"], apart := false }
def CoinSumsSaid : Prop := coinSumsRow.holds Try.pinned (OpenSpec.ofChange coinSumsSpec)

/-- ITS FALSE NEIGHBOUR: 'it returns false'. Refute it at one input. -/
def coinSumsWrong : ChangeSpec := { name := "coinSums", fn := fun _ => fun
  | [d1, d2, d3, d4, d5] => { results := [.lit (.bool false)], args := [d1, d2, d3, d4, d5] }
  | _ => none }
def CoinSumsWrongFalsely : Prop := coinSumsRow.holds Try.pinned (OpenSpec.ofChange coinSumsWrong)

/-- 'jobberlaw01.CoinOrder': WHATEVER THE INPUT: true; the input reads as it did. -/
def coinOrderSpec : ChangeSpec := { name := "coinOrder", fn := fun _ => fun
  | [d1, d2, d3] => { results := [.lit (.bool true)], args := [d1, d2, d3] }
  | _ => none }
def coinOrderRow : OpenClaim := { program := "ytoechhbdpkjppab", sum := "48502bc36f97f0d2af6efec9d32b671591ce91fc45bd5d33cce96247a1d13ef1", func := "jobber/jobberlaw01.CoinOrder", spec := "coinOrder", inPlace := ["math/bits.Add64", "math/bits.Sub64"], unfollowed := true, recurses := true, named := ["math/bits.divideError", "math/bits.overflowError"], apart := false }
def CoinOrderSaid : Prop := coinOrderRow.holds Try.pinned (OpenSpec.ofChange coinOrderSpec)

/-- ITS FALSE NEIGHBOUR: 'it returns false'. Refute it at one input. -/
def coinOrderWrong : ChangeSpec := { name := "coinOrder", fn := fun _ => fun
  | [d1, d2, d3] => { results := [.lit (.bool false)], args := [d1, d2, d3] }
  | _ => none }
def CoinOrderWrongFalsely : Prop := coinOrderRow.holds Try.pinned (OpenSpec.ofChange coinOrderWrong)

/-- 'jobberlaw01.CoinNear': WHATEVER THE INPUT: true; the input reads as it did. -/
def coinNearSpec : ChangeSpec := { name := "coinNear", fn := fun _ => fun
  | [d1, d2, d3] => { results := [.lit (.bool true)], args := [d1, d2, d3] }
  | _ => none }
def coinNearRow : OpenClaim := { program := "ytoechhbdpkjppab", sum := "48502bc36f97f0d2af6efec9d32b671591ce91fc45bd5d33cce96247a1d13ef1", func := "jobber/jobberlaw01.CoinNear", spec := "coinNear", inPlace := ["math/bits.Sub64", "math/bits.Add64"], unfollowed := true, recurses := true, named := ["math/bits.divideError", "math/bits.overflowError"], apart := false }
def CoinNearSaid : Prop := coinNearRow.holds Try.pinned (OpenSpec.ofChange coinNearSpec)

/-- ITS FALSE NEIGHBOUR: 'it returns false'. Refute it at one input. -/
def coinNearWrong : ChangeSpec := { name := "coinNear", fn := fun _ => fun
  | [d1, d2, d3] => { results := [.lit (.bool false)], args := [d1, d2, d3] }
  | _ => none }
def CoinNearWrongFalsely : Prop := coinNearRow.holds Try.pinned (OpenSpec.ofChange coinNearWrong)

/- THE SECOND FORM. 'bulk': how many values and letters a reading holds, each counted each time it is reached (what is shared counts as often as it is met; a slice's spare places count too). A statement '..UptoSaid' is the law's where the arguments, and the package variables that the reading takes, are together of bulk at most 1048576: NARROWER than '..Said'. Prove '..Said' where nothing that the law and all that it calls make is longer than what came in: it says more and counts as full. Else prove '..UptoSaid'. A law counts once. -/
mutual
def uptoBulk {H : Type} : DataW H → Nat
  | .lit (.string bytes) => bytes.length + 1
  | .lit _ => 1
  | .nil => 1
  | .ptr d => uptoBulk d + 1
  | .slice elems spare => uptoBulkAll elems + uptoBulkAll spare + 1
  | .agg parts => uptoBulkAll parts + 1
  | .iface _ d => uptoBulk d + 1
  | .map entries => uptoBulkEntries entries + 1
  | .held _ => 1
def uptoBulkAll {H : Type} : List (DataW H) → Nat
  | [] => 0
  | d :: r => uptoBulk d + uptoBulkAll r
def uptoBulkEntries {H : Type} : List (Lit × DataW H) → Nat
  | [] => 0
  | x :: r => uptoBulkEntry x + uptoBulkEntries r
def uptoBulkEntry {H : Type} : Lit × DataW H → Nat
  | (.string bytes, d) => bytes.length + uptoBulk d + 1
  | (_, d) => uptoBulk d + 1
 end
def uptoSmall : (H : Type) → List (DataW H) → Bool := fun _ ds => decide (uptoBulkAll ds ≤ 1048576)
def OpenSpec.upto (s : _root_.Go.ChangeSpec) : _root_.Go.OpenSpec := { _root_.Go.OpenSpec.ofChange s with cond := some uptoSmall }

/-- 'jobberlaw01.CoinAdds', WHERE WHAT IT READS IS OF BULK AT MOST 1048576: true; the input reads as it did. -/
def coinAddsUptoRow : OpenClaim := { program := "ytoechhbdpkjppab", sum := "48502bc36f97f0d2af6efec9d32b671591ce91fc45bd5d33cce96247a1d13ef1", func := "jobber/jobberlaw01.CoinAdds", spec := "coinAdds", inPlace := ["math/bits.Add64", "math/bits.Sub64"], unfollowed := true, recurses := true, named := ["math/bits.divideError", "math/bits.overflowError"], apart := false, narrowed := true }
def CoinAddsUptoSaid : Prop := coinAddsUptoRow.holds Try.pinned (OpenSpec.upto coinAddsSpec)

/-- 'jobberlaw01.CoinDivides', WHERE WHAT IT READS IS OF BULK AT MOST 1048576: true; the input reads as it did. -/
def coinDividesUptoRow : OpenClaim := { program := "ytoechhbdpkjppab", sum := "48502bc36f97f0d2af6efec9d32b671591ce91fc45bd5d33cce96247a1d13ef1", func := "jobber/jobberlaw01.CoinDivides", spec := "coinDivides", inPlace := ["math/bits.Sub64", "math/bits.Add64"], unfollowed := true, recurses := true, named := ["math/bits.divideError", "math/bits.overflowError"], apart := false, narrowed := true }
def CoinDividesUptoSaid : Prop := coinDividesUptoRow.holds Try.pinned (OpenSpec.upto coinDividesSpec)

/-- 'jobberlaw01.CoinSums', WHERE WHAT IT READS IS OF BULK AT MOST 1048576: true; the input reads as it did. -/
def coinSumsUptoRow : OpenClaim := { program := "ytoechhbdpkjppab", sum := "48502bc36f97f0d2af6efec9d32b671591ce91fc45bd5d33cce96247a1d13ef1", func := "jobber/jobberlaw01.CoinSums", spec := "coinSums", inPlace := ["math/bits.Add64", "math/bits.Sub64"], unfollowed := true, recurses := true, named := ["math/bits.divideError", "math/bits.overflowError"], apart := false, narrowed := true }
def CoinSumsUptoSaid : Prop := coinSumsUptoRow.holds Try.pinned (OpenSpec.upto coinSumsSpec)

/-- 'jobberlaw01.CoinOrder', WHERE WHAT IT READS IS OF BULK AT MOST 1048576: true; the input reads as it did. -/
def coinOrderUptoRow : OpenClaim := { program := "ytoechhbdpkjppab", sum := "48502bc36f97f0d2af6efec9d32b671591ce91fc45bd5d33cce96247a1d13ef1", func := "jobber/jobberlaw01.CoinOrder", spec := "coinOrder", inPlace := ["math/bits.Add64", "math/bits.Sub64"], unfollowed := true, recurses := true, named := ["math/bits.divideError", "math/bits.overflowError"], apart := false, narrowed := true }
def CoinOrderUptoSaid : Prop := coinOrderUptoRow.holds Try.pinned (OpenSpec.upto coinOrderSpec)

/-- 'jobberlaw01.CoinNear', WHERE WHAT IT READS IS OF BULK AT MOST 1048576: true; the input reads as it did. -/
def coinNearUptoRow : OpenClaim := { program := "ytoechhbdpkjppab", sum := "48502bc36f97f0d2af6efec9d32b671591ce91fc45bd5d33cce96247a1d13ef1", func := "jobber/jobberlaw01.CoinNear", spec := "coinNear", inPlace := ["math/bits.Sub64", "math/bits.Add64"], unfollowed := true, recurses := true, named := ["math/bits.divideError", "math/bits.overflowError"], apart := false, narrowed := true }
def CoinNearUptoSaid : Prop := coinNearUptoRow.holds Try.pinned (OpenSpec.upto coinNearSpec)

end Rows
end Go.Proofs.Ytoechhbdpkjppab
