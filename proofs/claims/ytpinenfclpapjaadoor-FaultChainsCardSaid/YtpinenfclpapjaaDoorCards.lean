/-
  DERIVED. GIVEN WITH THE SEED: THE CARDS: each row of YtpinenfclpapjaaDoorRows.lean that lists a variable, with what it lists TIED to the program's text (the seventh form; the later family's looks); each row that meets fmt, with fmt's text TOLD by the authors' own Lean function (tested against real Go, not proved from fmt's source: count such statements apart). THE CARD IS WHAT COUNTS. Prove the row's statement (the work); the ties are given (YtpinenfclpapjaaDoorTie.lean); close each card by the builder's one call (the guide's Derived/Test/ToyasCard.lean, 'card_holds'). Laid BY PROGRAM, IN A SANDBOX (cutbox-door.mjs). By AI agents, Wed Nov 11 2026. No macro, syntax, notation, axiom, sorry.
-/
import Derived.Test.YtpinenfclpapjaaDoorRows
import GoSem.ClaimSeven
namespace Go.Proofs.YtpinenfclpapjaaDoor
namespace Rows

/-- THE TIED CARD OF 'jobberlaw04.FaultChains'. -/
def faultChainsCard : Claim7 := { stood := { row := faultChainsRow, standIns := [], harness := (true, "e02e50db6800255181a8857acf43a537939f47dd766bf9bf66437044d9735d7e"), looks := true }, kinds := [], alts := [], laidByText := true, laidKinds := [.data, .data, .data, .handle], laidTests := true, laidLooks := .later }
def FaultChainsCardSaid : Prop := Claim7.holds Tryd.pinned (.plain (OpenSpec.ofChange faultChainsSpec)) faultChainsCard

/-- THE TIED CARD OF 'jobberlaw04.FaultFinds'. -/
def faultFindsCard : Claim7 := { stood := { row := faultFindsRow, standIns := [], harness := (true, "e02e50db6800255181a8857acf43a537939f47dd766bf9bf66437044d9735d7e"), looks := true }, kinds := [], alts := [], laidByText := true, laidKinds := [.data, .data, .data, .handle], laidTests := true, laidLooks := .later }
def FaultFindsCardSaid : Prop := Claim7.holds Tryd.pinned (.plain (OpenSpec.ofChange faultFindsSpec)) faultFindsCard

/-- THE TIED CARD OF 'jobberlaw04.FaultNobody'. -/
def faultNobodyCard : Claim7 := { stood := { row := faultNobodyRow, standIns := [], harness := (true, "e02e50db6800255181a8857acf43a537939f47dd766bf9bf66437044d9735d7e"), looks := true }, kinds := [], alts := [], laidByText := true, laidKinds := [.data, .data, .data, .handle], laidTests := true, laidLooks := .later }
def FaultNobodyCardSaid : Prop := Claim7.holds Tryd.pinned (.plain (OpenSpec.ofChange faultNobodySpec)) faultNobodyCard

/-- THE SECOND FORM's CARD OF 'jobberlaw04.FaultChains'. -/
def faultChainsUptoCard : Claim7 := { stood := { row := faultChainsUptoRow, standIns := [], harness := (true, "e02e50db6800255181a8857acf43a537939f47dd766bf9bf66437044d9735d7e"), looks := true }, kinds := [], alts := [], laidByText := true, laidKinds := [.data, .data, .data, .handle], laidTests := true, laidLooks := .later }
def FaultChainsUptoCardSaid : Prop := Claim7.holds Tryd.pinned (.plain (OpenSpec.upto faultChainsSpec)) faultChainsUptoCard

/-- THE SECOND FORM's CARD OF 'jobberlaw04.FaultFinds'. -/
def faultFindsUptoCard : Claim7 := { stood := { row := faultFindsUptoRow, standIns := [], harness := (true, "e02e50db6800255181a8857acf43a537939f47dd766bf9bf66437044d9735d7e"), looks := true }, kinds := [], alts := [], laidByText := true, laidKinds := [.data, .data, .data, .handle], laidTests := true, laidLooks := .later }
def FaultFindsUptoCardSaid : Prop := Claim7.holds Tryd.pinned (.plain (OpenSpec.upto faultFindsSpec)) faultFindsUptoCard

/-- THE SECOND FORM's CARD OF 'jobberlaw04.FaultNobody'. -/
def faultNobodyUptoCard : Claim7 := { stood := { row := faultNobodyUptoRow, standIns := [], harness := (true, "e02e50db6800255181a8857acf43a537939f47dd766bf9bf66437044d9735d7e"), looks := true }, kinds := [], alts := [], laidByText := true, laidKinds := [.data, .data, .data, .handle], laidTests := true, laidLooks := .later }
def FaultNobodyUptoCardSaid : Prop := Claim7.holds Tryd.pinned (.plain (OpenSpec.upto faultNobodySpec)) faultNobodyUptoCard
end Rows
end Go.Proofs.YtpinenfclpapjaaDoor
