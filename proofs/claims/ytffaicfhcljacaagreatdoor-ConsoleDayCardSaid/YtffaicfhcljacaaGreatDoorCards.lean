/-
  DERIVED. GIVEN WITH THE SEED: THE CARDS: each row of YtffaicfhcljacaaGreatDoorRows.lean that lists a variable, with what it lists TIED to the program's text (the seventh form; the later family's looks); each row that meets fmt, with fmt's text TOLD by the authors' own Lean function (tested against real Go, not proved from fmt's source: count such statements apart). THE CARD IS WHAT COUNTS. Prove the row's statement (the work); the ties are given (YtffaicfhcljacaaGreatDoorTie.lean); close each card by the builder's one call (the guide's Derived/Test/ToyasCard.lean, 'card_holds'). Laid BY PROGRAM, IN A SANDBOX (cutbox-door.mjs). By AI agents, Wed Nov 11 2026. No macro, syntax, notation, axiom, sorry.
-/
import Derived.Test.YtffaicfhcljacaaGreatDoorRows
import GoSem.ClaimSeven
namespace Go.Proofs.YtffaicfhcljacaaGreatDoor
namespace Rows

/-- THE TIED CARD OF 'hostlerlaw14.KeepEpochs'. -/
def keepEpochsCard : Claim7 := { stood := { row := keepEpochsRow, standIns := [], harness := (true, "854729732ee577b2d88aa3ee9ee976f48539190e7757d5fd85c0f3f9d67e1ef4"), looks := false }, kinds := [], alts := [], laidByText := true, laidKinds := [.data, .data, .data], laidTests := true, laidLooks := .later }
def KeepEpochsCardSaid : Prop := Claim7.holds Tryz.pinned (.plain (OpenSpec.ofChange keepEpochsSpec)) keepEpochsCard

/-- THE TIED CARD OF 'hostlerlaw19.AgentFull'. -/
def agentFullCard : Claim7 := { stood := { row := agentFullRow, standIns := [], harness := (true, "854729732ee577b2d88aa3ee9ee976f48539190e7757d5fd85c0f3f9d67e1ef4"), looks := false }, kinds := [], alts := [], laidByText := true, laidKinds := [.data, .data, .data], laidTests := true, laidLooks := .later }
def AgentFullCardSaid : Prop := Claim7.holds Tryz.pinned (.plain (OpenSpec.ofChange agentFullSpec)) agentFullCard

/-- THE TIED CARD OF 'hostlerlaw20.WorldFuse'. -/
def worldFuseCard : Claim7 := { stood := { row := worldFuseRow, standIns := [], harness := (true, "854729732ee577b2d88aa3ee9ee976f48539190e7757d5fd85c0f3f9d67e1ef4"), looks := false }, kinds := [], alts := [], laidByText := true, laidKinds := [.data, .data, .data], laidTests := true, laidLooks := .later }
def WorldFuseCardSaid : Prop := Claim7.holds Tryz.pinned (.plain (OpenSpec.ofChange worldFuseSpec)) worldFuseCard

/-- THE TIED CARD OF 'hostlerlaw24.PlayTasks'. -/
def playTasksCard : Claim7 := { stood := { row := playTasksRow, standIns := [], harness := (true, "854729732ee577b2d88aa3ee9ee976f48539190e7757d5fd85c0f3f9d67e1ef4"), looks := false }, kinds := [], alts := [], laidByText := true, laidKinds := [.data, .data, .data], laidTests := true, laidLooks := .later }
def PlayTasksCardSaid : Prop := Claim7.holds Tryz.pinned (.plain (OpenSpec.ofChange playTasksSpec)) playTasksCard

/-- THE TIED CARD OF 'hostlerlaw24.PlayKills'. -/
def playKillsCard : Claim7 := { stood := { row := playKillsRow, standIns := [], harness := (true, "854729732ee577b2d88aa3ee9ee976f48539190e7757d5fd85c0f3f9d67e1ef4"), looks := false }, kinds := [], alts := [], laidByText := true, laidKinds := [.data, .data, .data], laidTests := true, laidLooks := .later }
def PlayKillsCardSaid : Prop := Claim7.holds Tryz.pinned (.plain (OpenSpec.ofChange playKillsSpec)) playKillsCard

/-- THE TIED CARD OF 'hostlerlaw26.ConsoleDay'. -/
def consoleDayCard : Claim7 := { stood := { row := consoleDayRow, standIns := [], harness := (true, "854729732ee577b2d88aa3ee9ee976f48539190e7757d5fd85c0f3f9d67e1ef4"), looks := false }, kinds := [], alts := [], laidByText := true, laidKinds := [.data, .data, .data], laidTests := true, laidLooks := .later }
def ConsoleDayCardSaid : Prop := Claim7.holds Tryz.pinned (.plain (OpenSpec.ofChange consoleDaySpec)) consoleDayCard

/-- THE TIED CARD OF 'hostlerlaw26.ConsoleGroup'. -/
def consoleGroupCard : Claim7 := { stood := { row := consoleGroupRow, standIns := [], harness := (true, "854729732ee577b2d88aa3ee9ee976f48539190e7757d5fd85c0f3f9d67e1ef4"), looks := false }, kinds := [], alts := [], laidByText := true, laidKinds := [.data, .data, .data], laidTests := true, laidLooks := .later }
def ConsoleGroupCardSaid : Prop := Claim7.holds Tryz.pinned (.plain (OpenSpec.ofChange consoleGroupSpec)) consoleGroupCard

/-- THE SECOND FORM's CARD OF 'hostlerlaw14.KeepEpochs'. -/
def keepEpochsUptoCard : Claim7 := { stood := { row := keepEpochsUptoRow, standIns := [], harness := (true, "854729732ee577b2d88aa3ee9ee976f48539190e7757d5fd85c0f3f9d67e1ef4"), looks := false }, kinds := [], alts := [], laidByText := true, laidKinds := [.data, .data, .data], laidTests := true, laidLooks := .later }
def KeepEpochsUptoCardSaid : Prop := Claim7.holds Tryz.pinned (.plain (OpenSpec.upto keepEpochsSpec)) keepEpochsUptoCard

/-- THE SECOND FORM's CARD OF 'hostlerlaw19.AgentFull'. -/
def agentFullUptoCard : Claim7 := { stood := { row := agentFullUptoRow, standIns := [], harness := (true, "854729732ee577b2d88aa3ee9ee976f48539190e7757d5fd85c0f3f9d67e1ef4"), looks := false }, kinds := [], alts := [], laidByText := true, laidKinds := [.data, .data, .data], laidTests := true, laidLooks := .later }
def AgentFullUptoCardSaid : Prop := Claim7.holds Tryz.pinned (.plain (OpenSpec.upto agentFullSpec)) agentFullUptoCard

/-- THE SECOND FORM's CARD OF 'hostlerlaw20.WorldFuse'. -/
def worldFuseUptoCard : Claim7 := { stood := { row := worldFuseUptoRow, standIns := [], harness := (true, "854729732ee577b2d88aa3ee9ee976f48539190e7757d5fd85c0f3f9d67e1ef4"), looks := false }, kinds := [], alts := [], laidByText := true, laidKinds := [.data, .data, .data], laidTests := true, laidLooks := .later }
def WorldFuseUptoCardSaid : Prop := Claim7.holds Tryz.pinned (.plain (OpenSpec.upto worldFuseSpec)) worldFuseUptoCard

/-- THE SECOND FORM's CARD OF 'hostlerlaw24.PlayTasks'. -/
def playTasksUptoCard : Claim7 := { stood := { row := playTasksUptoRow, standIns := [], harness := (true, "854729732ee577b2d88aa3ee9ee976f48539190e7757d5fd85c0f3f9d67e1ef4"), looks := false }, kinds := [], alts := [], laidByText := true, laidKinds := [.data, .data, .data], laidTests := true, laidLooks := .later }
def PlayTasksUptoCardSaid : Prop := Claim7.holds Tryz.pinned (.plain (OpenSpec.upto playTasksSpec)) playTasksUptoCard

/-- THE SECOND FORM's CARD OF 'hostlerlaw24.PlayKills'. -/
def playKillsUptoCard : Claim7 := { stood := { row := playKillsUptoRow, standIns := [], harness := (true, "854729732ee577b2d88aa3ee9ee976f48539190e7757d5fd85c0f3f9d67e1ef4"), looks := false }, kinds := [], alts := [], laidByText := true, laidKinds := [.data, .data, .data], laidTests := true, laidLooks := .later }
def PlayKillsUptoCardSaid : Prop := Claim7.holds Tryz.pinned (.plain (OpenSpec.upto playKillsSpec)) playKillsUptoCard

/-- THE SECOND FORM's CARD OF 'hostlerlaw26.ConsoleDay'. -/
def consoleDayUptoCard : Claim7 := { stood := { row := consoleDayUptoRow, standIns := [], harness := (true, "854729732ee577b2d88aa3ee9ee976f48539190e7757d5fd85c0f3f9d67e1ef4"), looks := false }, kinds := [], alts := [], laidByText := true, laidKinds := [.data, .data, .data], laidTests := true, laidLooks := .later }
def ConsoleDayUptoCardSaid : Prop := Claim7.holds Tryz.pinned (.plain (OpenSpec.upto consoleDaySpec)) consoleDayUptoCard

/-- THE SECOND FORM's CARD OF 'hostlerlaw26.ConsoleGroup'. -/
def consoleGroupUptoCard : Claim7 := { stood := { row := consoleGroupUptoRow, standIns := [], harness := (true, "854729732ee577b2d88aa3ee9ee976f48539190e7757d5fd85c0f3f9d67e1ef4"), looks := false }, kinds := [], alts := [], laidByText := true, laidKinds := [.data, .data, .data], laidTests := true, laidLooks := .later }
def ConsoleGroupUptoCardSaid : Prop := Claim7.holds Tryz.pinned (.plain (OpenSpec.upto consoleGroupSpec)) consoleGroupUptoCard
end Rows
end Go.Proofs.YtffaicfhcljacaaGreatDoor
