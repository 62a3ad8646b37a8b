/-
  DERIVED. GIVEN WITH THE SEED: THE CARDS: each row of YtpkjhlcolgoknaaDoorRows.lean that lists a variable, with what it lists TIED to the program's text (the seventh form; the later family's looks); each row that meets fmt, with fmt's text TOLD by the authors' own Lean function (tested against real Go, not proved from fmt's source: count such statements apart). THE CARD IS WHAT COUNTS. Prove the row's statement (the work); the ties are given (YtpkjhlcolgoknaaDoorTie.lean); close each card by the builder's one call (the guide's Derived/Test/ToyasCard.lean, 'card_holds'). Laid BY PROGRAM, IN A SANDBOX (cutbox-door.mjs). By AI agents, Wed Nov 11 2026. No macro, syntax, notation, axiom, sorry.
-/
import Derived.Test.YtpkjhlcolgoknaaDoorRows
import GoSem.ClaimSeven
namespace Go.Proofs.YtpkjhlcolgoknaaDoor
namespace Rows

/-- THE TIED CARD OF 'parterrelaw5.PrintAsks'. -/
def printAsksCard : Claim7 := { stood := { row := printAsksRow, standIns := [], harness := (true, "07bd7091a02b74b3b5b25268d8ed20d77c784545303b2b1ae1de0fabf0f5c44a"), looks := false }, kinds := [], alts := [], laidByText := true, laidKinds := [.data, .data, .data], laidTests := true, laidLooks := .later }
def PrintAsksCardSaid : Prop := Claim7.holds Tryd.pinned (.plain (OpenSpec.ofChange printAsksSpec)) printAsksCard

/-- THE TIED CARD OF 'parterrelaw5.PrintMaps'. -/
def printMapsCard : Claim7 := { stood := { row := printMapsRow, standIns := [], harness := (true, "07bd7091a02b74b3b5b25268d8ed20d77c784545303b2b1ae1de0fabf0f5c44a"), looks := false }, kinds := [], alts := [], laidByText := true, laidKinds := [.data, .data, .data], laidTests := true, laidLooks := .later }
def PrintMapsCardSaid : Prop := Claim7.holds Tryd.pinned (.plain (OpenSpec.ofChange printMapsSpec)) printMapsCard

/-- THE TIED CARD OF 'parterrelaw5.PrintSeats'. -/
def printSeatsCard : Claim7 := { stood := { row := printSeatsRow, standIns := [], harness := (true, "07bd7091a02b74b3b5b25268d8ed20d77c784545303b2b1ae1de0fabf0f5c44a"), looks := false }, kinds := [], alts := [], laidByText := true, laidKinds := [.data, .data, .data], laidTests := true, laidLooks := .later }
def PrintSeatsCardSaid : Prop := Claim7.holds Tryd.pinned (.plain (OpenSpec.ofChange printSeatsSpec)) printSeatsCard

/-- THE SECOND FORM's CARD OF 'parterrelaw5.PrintAsks'. -/
def printAsksUptoCard : Claim7 := { stood := { row := printAsksUptoRow, standIns := [], harness := (true, "07bd7091a02b74b3b5b25268d8ed20d77c784545303b2b1ae1de0fabf0f5c44a"), looks := false }, kinds := [], alts := [], laidByText := true, laidKinds := [.data, .data, .data], laidTests := true, laidLooks := .later }
def PrintAsksUptoCardSaid : Prop := Claim7.holds Tryd.pinned (.plain (OpenSpec.upto printAsksSpec)) printAsksUptoCard

/-- THE SECOND FORM's CARD OF 'parterrelaw5.PrintMaps'. -/
def printMapsUptoCard : Claim7 := { stood := { row := printMapsUptoRow, standIns := [], harness := (true, "07bd7091a02b74b3b5b25268d8ed20d77c784545303b2b1ae1de0fabf0f5c44a"), looks := false }, kinds := [], alts := [], laidByText := true, laidKinds := [.data, .data, .data], laidTests := true, laidLooks := .later }
def PrintMapsUptoCardSaid : Prop := Claim7.holds Tryd.pinned (.plain (OpenSpec.upto printMapsSpec)) printMapsUptoCard

/-- THE SECOND FORM's CARD OF 'parterrelaw5.PrintSeats'. -/
def printSeatsUptoCard : Claim7 := { stood := { row := printSeatsUptoRow, standIns := [], harness := (true, "07bd7091a02b74b3b5b25268d8ed20d77c784545303b2b1ae1de0fabf0f5c44a"), looks := false }, kinds := [], alts := [], laidByText := true, laidKinds := [.data, .data, .data], laidTests := true, laidLooks := .later }
def PrintSeatsUptoCardSaid : Prop := Claim7.holds Tryd.pinned (.plain (OpenSpec.upto printSeatsSpec)) printSeatsUptoCard
end Rows
end Go.Proofs.YtpkjhlcolgoknaaDoor
