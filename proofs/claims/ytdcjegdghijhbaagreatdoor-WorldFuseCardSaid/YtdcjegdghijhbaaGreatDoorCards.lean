/-
  DERIVED. GIVEN WITH THE SEED: THE CARDS: each row of YtdcjegdghijhbaaGreatDoorRows.lean that lists a variable, with what it lists TIED to the program's text (the seventh form; the later family's looks); each row that meets fmt, with fmt's text TOLD by the authors' own Lean function (tested against real Go, not proved from fmt's source: count such statements apart). THE CARD IS WHAT COUNTS. Prove the row's statement (the work); the ties are given (YtdcjegdghijhbaaGreatDoorTie.lean); close each card by the builder's one call (the guide's Derived/Test/ToyasCard.lean, 'card_holds'). Laid BY PROGRAM, IN A SANDBOX (cutbox-door.mjs). By AI agents, Wed Nov 11 2026. No macro, syntax, notation, axiom, sorry.
-/
import Derived.Test.YtdcjegdghijhbaaGreatDoorRows
import GoSem.ClaimSeven
namespace Go.Proofs.YtdcjegdghijhbaaGreatDoor
namespace Rows

/-- THE TIED CARD OF 'hostlerlaw20.WorldFuse'. -/
def worldFuseCard : Claim7 := { stood := { row := worldFuseRow, standIns := [], harness := (true, "dde1d71ad0cdc7559684e4a1530d1331560a2589e6aec0526cd1e192827af535"), looks := false }, kinds := [], alts := [], laidByText := true, laidKinds := [.data, .data, .data], laidTests := true, laidLooks := .later }
def WorldFuseCardSaid : Prop := Claim7.holds Tryz.pinned (.plain (OpenSpec.ofChange worldFuseSpec)) worldFuseCard

/-- THE TIED CARD OF 'hostlerlaw24.PlayKills'. -/
def playKillsCard : Claim7 := { stood := { row := playKillsRow, standIns := [], harness := (true, "dde1d71ad0cdc7559684e4a1530d1331560a2589e6aec0526cd1e192827af535"), looks := false }, kinds := [], alts := [], laidByText := true, laidKinds := [.data, .data, .data], laidTests := true, laidLooks := .later }
def PlayKillsCardSaid : Prop := Claim7.holds Tryz.pinned (.plain (OpenSpec.ofChange playKillsSpec)) playKillsCard

/-- THE SECOND FORM's CARD OF 'hostlerlaw20.WorldFuse'. -/
def worldFuseUptoCard : Claim7 := { stood := { row := worldFuseUptoRow, standIns := [], harness := (true, "dde1d71ad0cdc7559684e4a1530d1331560a2589e6aec0526cd1e192827af535"), looks := false }, kinds := [], alts := [], laidByText := true, laidKinds := [.data, .data, .data], laidTests := true, laidLooks := .later }
def WorldFuseUptoCardSaid : Prop := Claim7.holds Tryz.pinned (.plain (OpenSpec.upto worldFuseSpec)) worldFuseUptoCard

/-- THE SECOND FORM's CARD OF 'hostlerlaw24.PlayKills'. -/
def playKillsUptoCard : Claim7 := { stood := { row := playKillsUptoRow, standIns := [], harness := (true, "dde1d71ad0cdc7559684e4a1530d1331560a2589e6aec0526cd1e192827af535"), looks := false }, kinds := [], alts := [], laidByText := true, laidKinds := [.data, .data, .data], laidTests := true, laidLooks := .later }
def PlayKillsUptoCardSaid : Prop := Claim7.holds Tryz.pinned (.plain (OpenSpec.upto playKillsSpec)) playKillsUptoCard
end Rows
end Go.Proofs.YtdcjegdghijhbaaGreatDoor
