/-
  DERIVED. GIVEN WITH THE SEED: THE CARDS: each row of YtolignkahfekbaaGreatDoorRows.lean that lists a variable, with what it lists TIED to the program's text (the seventh form; the later family's looks); each row that meets fmt, with fmt's text TOLD by the authors' own Lean function (tested against real Go, not proved from fmt's source: count such statements apart). THE CARD IS WHAT COUNTS. Prove the row's statement (the work); the ties are given (YtolignkahfekbaaGreatDoorTie.lean); close each card by the builder's one call (the guide's Derived/Test/ToyasCard.lean, 'card_holds'). Laid BY PROGRAM, IN A SANDBOX (cutbox-door.mjs). By AI agents, Wed Nov 11 2026. No macro, syntax, notation, axiom, sorry.
-/
import Derived.Test.YtolignkahfekbaaGreatDoorRows
import GoSem.ClaimSeven
namespace Go.Proofs.YtolignkahfekbaaGreatDoor
namespace Rows

/-- THE TIED CARD OF 'hostlerlaw26.ConsoleErrors'. -/
def consoleErrorsCard : Claim7 := { stood := { row := consoleErrorsRow, standIns := [], harness := (true, "4921664a2bfcc2c756390ed6559e33bf78d0fcb541f4b914afa5739ee6c812a6"), looks := false }, kinds := [], alts := [], laidByText := true, laidKinds := [.data, .data, .data], laidTests := true, laidLooks := .later }
def ConsoleErrorsCardSaid : Prop := Claim7.holds Tryz.pinned (.plain (OpenSpec.ofChange consoleErrorsSpec)) consoleErrorsCard

/-- THE SECOND FORM's CARD OF 'hostlerlaw26.ConsoleErrors'. -/
def consoleErrorsUptoCard : Claim7 := { stood := { row := consoleErrorsUptoRow, standIns := [], harness := (true, "4921664a2bfcc2c756390ed6559e33bf78d0fcb541f4b914afa5739ee6c812a6"), looks := false }, kinds := [], alts := [], laidByText := true, laidKinds := [.data, .data, .data], laidTests := true, laidLooks := .later }
def ConsoleErrorsUptoCardSaid : Prop := Claim7.holds Tryz.pinned (.plain (OpenSpec.upto consoleErrorsSpec)) consoleErrorsUptoCard
end Rows
end Go.Proofs.YtolignkahfekbaaGreatDoor
