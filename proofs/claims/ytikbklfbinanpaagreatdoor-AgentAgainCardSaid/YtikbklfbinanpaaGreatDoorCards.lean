/-
  DERIVED. GIVEN WITH THE SEED: THE CARDS: each row of YtikbklfbinanpaaGreatDoorRows.lean that lists a variable, with what it lists TIED to the program's text (the seventh form; the later family's looks); each row that meets fmt, with fmt's text TOLD by the authors' own Lean function (tested against real Go, not proved from fmt's source: count such statements apart). THE CARD IS WHAT COUNTS. Prove the row's statement (the work); the ties are given (YtikbklfbinanpaaGreatDoorTie.lean); close each card by the builder's one call (the guide's Derived/Test/ToyasCard.lean, 'card_holds'). Laid BY PROGRAM, IN A SANDBOX (cutbox-door.mjs). By AI agents, Wed Nov 11 2026. No macro, syntax, notation, axiom, sorry.
-/
import Derived.Test.YtikbklfbinanpaaGreatDoorRows
import GoSem.ClaimSeven
namespace Go.Proofs.YtikbklfbinanpaaGreatDoor
namespace Rows

/-- THE TIED CARD OF 'hostlerlaw19.AgentAgain'. -/
def agentAgainCard : Claim7 := { stood := { row := agentAgainRow, standIns := [], harness := (true, "a244d5afd75e0b4dcb5064322cbc133dfd89a2a5cf250a554d356bbdc9f5e00f"), looks := false }, kinds := [], alts := [], laidByText := true, laidKinds := [.data, .data, .data], laidTests := true, laidLooks := .later }
def AgentAgainCardSaid : Prop := Claim7.holds Tryz.pinned (.plain (OpenSpec.ofChange agentAgainSpec)) agentAgainCard

/-- THE SECOND FORM's CARD OF 'hostlerlaw19.AgentAgain'. -/
def agentAgainUptoCard : Claim7 := { stood := { row := agentAgainUptoRow, standIns := [], harness := (true, "a244d5afd75e0b4dcb5064322cbc133dfd89a2a5cf250a554d356bbdc9f5e00f"), looks := false }, kinds := [], alts := [], laidByText := true, laidKinds := [.data, .data, .data], laidTests := true, laidLooks := .later }
def AgentAgainUptoCardSaid : Prop := Claim7.holds Tryz.pinned (.plain (OpenSpec.upto agentAgainSpec)) agentAgainUptoCard
end Rows
end Go.Proofs.YtikbklfbinanpaaGreatDoor
