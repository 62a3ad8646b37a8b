/-
  DERIVED. GIVEN WITH THE SEED: THE CARDS: each row of YtgpkdjhllekihaaGreatDoorRows.lean that lists a variable, with what it lists TIED to the program's text (the seventh form; the later family's looks); each row that meets fmt, with fmt's text TOLD by the authors' own Lean function (tested against real Go, not proved from fmt's source: count such statements apart). THE CARD IS WHAT COUNTS. Prove the row's statement (the work); the ties are given (YtgpkdjhllekihaaGreatDoorTie.lean); close each card by the builder's one call (the guide's Derived/Test/ToyasCard.lean, 'card_holds'). Laid BY PROGRAM, IN A SANDBOX (cutbox-door.mjs). By AI agents, Wed Nov 11 2026. No macro, syntax, notation, axiom, sorry.
-/
import Derived.Test.YtgpkdjhllekihaaGreatDoorRows
import GoSem.ClaimSeven
namespace Go.Proofs.YtgpkdjhllekihaaGreatDoor
namespace Rows

/-- THE TIED CARD OF 'parterrelaw4.ParseAsks'. -/
def parseAsksCard : Claim7 := { stood := { row := parseAsksRow, standIns := [], harness := (true, "f552ff082b0eab8bc143e979b4f634795e8ad2ba17f1e49d03415be2e714d0a8"), looks := true }, kinds := [], alts := [], laidByText := true, laidKinds := [.data, .data, .data, .handle, .sentinel, .sentinel], laidTests := true, laidLooks := .later }
def ParseAsksCardSaid : Prop := Claim7.holds Tryz.pinned (.plain (OpenSpec.ofChange parseAsksSpec)) parseAsksCard

/-- THE SECOND FORM's CARD OF 'parterrelaw4.ParseAsks'. -/
def parseAsksUptoCard : Claim7 := { stood := { row := parseAsksUptoRow, standIns := [], harness := (true, "f552ff082b0eab8bc143e979b4f634795e8ad2ba17f1e49d03415be2e714d0a8"), looks := true }, kinds := [], alts := [], laidByText := true, laidKinds := [.data, .data, .data, .handle, .sentinel, .sentinel], laidTests := true, laidLooks := .later }
def ParseAsksUptoCardSaid : Prop := Claim7.holds Tryz.pinned (.plain (OpenSpec.upto parseAsksSpec)) parseAsksUptoCard
end Rows
end Go.Proofs.YtgpkdjhllekihaaGreatDoor
