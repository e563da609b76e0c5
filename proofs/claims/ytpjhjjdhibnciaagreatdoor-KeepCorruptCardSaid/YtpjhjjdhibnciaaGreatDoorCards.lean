/-
  DERIVED. GIVEN WITH THE SEED: THE CARDS: each row of YtpjhjjdhibnciaaGreatDoorRows.lean that lists a variable, with what it lists TIED to the program's text (the seventh form; the later family's looks); each row that meets fmt, with fmt's text TOLD by the authors' own Lean function (tested against real Go, not proved from fmt's source: count such statements apart). THE CARD IS WHAT COUNTS. Prove the row's statement (the work); the ties are given (YtpjhjjdhibnciaaGreatDoorTie.lean); close each card by the builder's one call (the guide's Derived/Test/ToyasCard.lean, 'card_holds'). Laid BY PROGRAM, IN A SANDBOX (cutbox-door.mjs). By AI agents, Wed Nov 11 2026. No macro, syntax, notation, axiom, sorry.
-/
import Derived.Test.YtpjhjjdhibnciaaGreatDoorRows
import GoSem.ClaimSeven
namespace Go.Proofs.YtpjhjjdhibnciaaGreatDoor
namespace Rows

/-- THE TIED CARD OF 'hostlerlaw14.KeepBytes'. -/
def keepBytesCard : Claim7 := { stood := { row := keepBytesRow, standIns := [], harness := (true, "294bb3f25574950b3cc32690a856f3111a57bf61571ef04ab382266e0875163b"), looks := false }, kinds := [], alts := [], laidByText := true, laidKinds := [.data, .data, .data], laidTests := true, laidLooks := .later }
def KeepBytesCardSaid : Prop := Claim7.holds Tryz.pinned (.plain (OpenSpec.ofChange keepBytesSpec)) keepBytesCard

/-- THE TIED CARD OF 'hostlerlaw14.KeepErrors'. -/
def keepErrorsCard : Claim7 := { stood := { row := keepErrorsRow, standIns := [], harness := (true, "294bb3f25574950b3cc32690a856f3111a57bf61571ef04ab382266e0875163b"), looks := false }, kinds := [], alts := [], laidByText := true, laidKinds := [.data, .data, .data], laidTests := true, laidLooks := .later }
def KeepErrorsCardSaid : Prop := Claim7.holds Tryz.pinned (.plain (OpenSpec.ofChange keepErrorsSpec)) keepErrorsCard

/-- THE TIED CARD OF 'hostlerlaw14.KeepOwn'. -/
def keepOwnCard : Claim7 := { stood := { row := keepOwnRow, standIns := [], harness := (true, "294bb3f25574950b3cc32690a856f3111a57bf61571ef04ab382266e0875163b"), looks := false }, kinds := [], alts := [], laidByText := true, laidKinds := [.data, .data, .data], laidTests := true, laidLooks := .later }
def KeepOwnCardSaid : Prop := Claim7.holds Tryz.pinned (.plain (OpenSpec.ofChange keepOwnSpec)) keepOwnCard

/-- THE TIED CARD OF 'hostlerlaw14.KeepCorrupt'. -/
def keepCorruptCard : Claim7 := { stood := { row := keepCorruptRow, standIns := [], harness := (true, "294bb3f25574950b3cc32690a856f3111a57bf61571ef04ab382266e0875163b"), looks := false }, kinds := [], alts := [], laidByText := true, laidKinds := [.data, .data, .data], laidTests := true, laidLooks := .later }
def KeepCorruptCardSaid : Prop := Claim7.holds Tryz.pinned (.plain (OpenSpec.ofChange keepCorruptSpec)) keepCorruptCard

/-- THE TIED CARD OF 'hostlerlaw14.KeepEpochs'. -/
def keepEpochsCard : Claim7 := { stood := { row := keepEpochsRow, standIns := [], harness := (true, "294bb3f25574950b3cc32690a856f3111a57bf61571ef04ab382266e0875163b"), looks := false }, kinds := [], alts := [], laidByText := true, laidKinds := [.data, .data, .data], laidTests := true, laidLooks := .later }
def KeepEpochsCardSaid : Prop := Claim7.holds Tryz.pinned (.plain (OpenSpec.ofChange keepEpochsSpec)) keepEpochsCard

/-- THE TIED CARD OF 'hostlertop.TopFuses'. -/
def topFusesCard : Claim7 := { stood := { row := topFusesRow, standIns := [], harness := (true, "294bb3f25574950b3cc32690a856f3111a57bf61571ef04ab382266e0875163b"), looks := false }, kinds := [], alts := [], laidByText := true, laidKinds := [.data, .data, .data], laidTests := true, laidLooks := .later }
def TopFusesCardSaid : Prop := Claim7.holds Tryz.pinned (.plain (OpenSpec.ofChange topFusesSpec)) topFusesCard

/-- THE TIED CARD OF 'hostlertop.TopReports'. -/
def topReportsCard : Claim7 := { stood := { row := topReportsRow, standIns := [], harness := (true, "294bb3f25574950b3cc32690a856f3111a57bf61571ef04ab382266e0875163b"), looks := false }, kinds := [], alts := [], laidByText := true, laidKinds := [.data, .data, .data], laidTests := true, laidLooks := .later }
def TopReportsCardSaid : Prop := Claim7.holds Tryz.pinned (.plain (OpenSpec.ofChange topReportsSpec)) topReportsCard

/-- THE TIED CARD OF 'hostlertop.TopGone'. -/
def topGoneCard : Claim7 := { stood := { row := topGoneRow, standIns := [], harness := (true, "294bb3f25574950b3cc32690a856f3111a57bf61571ef04ab382266e0875163b"), looks := false }, kinds := [], alts := [], laidByText := true, laidKinds := [.data, .data, .data], laidTests := true, laidLooks := .later }
def TopGoneCardSaid : Prop := Claim7.holds Tryz.pinned (.plain (OpenSpec.ofChange topGoneSpec)) topGoneCard

/-- THE TIED CARD OF 'hostlerlaw19.AgentFull'. -/
def agentFullCard : Claim7 := { stood := { row := agentFullRow, standIns := [], harness := (true, "294bb3f25574950b3cc32690a856f3111a57bf61571ef04ab382266e0875163b"), looks := false }, kinds := [], alts := [], laidByText := true, laidKinds := [.data, .data, .data], laidTests := true, laidLooks := .later }
def AgentFullCardSaid : Prop := Claim7.holds Tryz.pinned (.plain (OpenSpec.ofChange agentFullSpec)) agentFullCard

/-- THE TIED CARD OF 'hostlerlaw19.AgentRuns'. -/
def agentRunsCard : Claim7 := { stood := { row := agentRunsRow, standIns := [], harness := (true, "294bb3f25574950b3cc32690a856f3111a57bf61571ef04ab382266e0875163b"), looks := false }, kinds := [], alts := [], laidByText := true, laidKinds := [.data, .data, .data], laidTests := true, laidLooks := .later }
def AgentRunsCardSaid : Prop := Claim7.holds Tryz.pinned (.plain (OpenSpec.ofChange agentRunsSpec)) agentRunsCard

/-- THE TIED CARD OF 'hostlerlaw20.WorldFuse'. -/
def worldFuseCard : Claim7 := { stood := { row := worldFuseRow, standIns := [], harness := (true, "294bb3f25574950b3cc32690a856f3111a57bf61571ef04ab382266e0875163b"), looks := false }, kinds := [], alts := [], laidByText := true, laidKinds := [.data, .data, .data], laidTests := true, laidLooks := .later }
def WorldFuseCardSaid : Prop := Claim7.holds Tryz.pinned (.plain (OpenSpec.ofChange worldFuseSpec)) worldFuseCard

/-- THE SECOND FORM's CARD OF 'hostlerlaw14.KeepBytes'. -/
def keepBytesUptoCard : Claim7 := { stood := { row := keepBytesUptoRow, standIns := [], harness := (true, "294bb3f25574950b3cc32690a856f3111a57bf61571ef04ab382266e0875163b"), looks := false }, kinds := [], alts := [], laidByText := true, laidKinds := [.data, .data, .data], laidTests := true, laidLooks := .later }
def KeepBytesUptoCardSaid : Prop := Claim7.holds Tryz.pinned (.plain (OpenSpec.upto keepBytesSpec)) keepBytesUptoCard

/-- THE SECOND FORM's CARD OF 'hostlerlaw14.KeepErrors'. -/
def keepErrorsUptoCard : Claim7 := { stood := { row := keepErrorsUptoRow, standIns := [], harness := (true, "294bb3f25574950b3cc32690a856f3111a57bf61571ef04ab382266e0875163b"), looks := false }, kinds := [], alts := [], laidByText := true, laidKinds := [.data, .data, .data], laidTests := true, laidLooks := .later }
def KeepErrorsUptoCardSaid : Prop := Claim7.holds Tryz.pinned (.plain (OpenSpec.upto keepErrorsSpec)) keepErrorsUptoCard

/-- THE SECOND FORM's CARD OF 'hostlerlaw14.KeepOwn'. -/
def keepOwnUptoCard : Claim7 := { stood := { row := keepOwnUptoRow, standIns := [], harness := (true, "294bb3f25574950b3cc32690a856f3111a57bf61571ef04ab382266e0875163b"), looks := false }, kinds := [], alts := [], laidByText := true, laidKinds := [.data, .data, .data], laidTests := true, laidLooks := .later }
def KeepOwnUptoCardSaid : Prop := Claim7.holds Tryz.pinned (.plain (OpenSpec.upto keepOwnSpec)) keepOwnUptoCard

/-- THE SECOND FORM's CARD OF 'hostlerlaw14.KeepCorrupt'. -/
def keepCorruptUptoCard : Claim7 := { stood := { row := keepCorruptUptoRow, standIns := [], harness := (true, "294bb3f25574950b3cc32690a856f3111a57bf61571ef04ab382266e0875163b"), looks := false }, kinds := [], alts := [], laidByText := true, laidKinds := [.data, .data, .data], laidTests := true, laidLooks := .later }
def KeepCorruptUptoCardSaid : Prop := Claim7.holds Tryz.pinned (.plain (OpenSpec.upto keepCorruptSpec)) keepCorruptUptoCard

/-- THE SECOND FORM's CARD OF 'hostlerlaw14.KeepEpochs'. -/
def keepEpochsUptoCard : Claim7 := { stood := { row := keepEpochsUptoRow, standIns := [], harness := (true, "294bb3f25574950b3cc32690a856f3111a57bf61571ef04ab382266e0875163b"), looks := false }, kinds := [], alts := [], laidByText := true, laidKinds := [.data, .data, .data], laidTests := true, laidLooks := .later }
def KeepEpochsUptoCardSaid : Prop := Claim7.holds Tryz.pinned (.plain (OpenSpec.upto keepEpochsSpec)) keepEpochsUptoCard

/-- THE SECOND FORM's CARD OF 'hostlertop.TopFuses'. -/
def topFusesUptoCard : Claim7 := { stood := { row := topFusesUptoRow, standIns := [], harness := (true, "294bb3f25574950b3cc32690a856f3111a57bf61571ef04ab382266e0875163b"), looks := false }, kinds := [], alts := [], laidByText := true, laidKinds := [.data, .data, .data], laidTests := true, laidLooks := .later }
def TopFusesUptoCardSaid : Prop := Claim7.holds Tryz.pinned (.plain (OpenSpec.upto topFusesSpec)) topFusesUptoCard

/-- THE SECOND FORM's CARD OF 'hostlertop.TopReports'. -/
def topReportsUptoCard : Claim7 := { stood := { row := topReportsUptoRow, standIns := [], harness := (true, "294bb3f25574950b3cc32690a856f3111a57bf61571ef04ab382266e0875163b"), looks := false }, kinds := [], alts := [], laidByText := true, laidKinds := [.data, .data, .data], laidTests := true, laidLooks := .later }
def TopReportsUptoCardSaid : Prop := Claim7.holds Tryz.pinned (.plain (OpenSpec.upto topReportsSpec)) topReportsUptoCard

/-- THE SECOND FORM's CARD OF 'hostlertop.TopGone'. -/
def topGoneUptoCard : Claim7 := { stood := { row := topGoneUptoRow, standIns := [], harness := (true, "294bb3f25574950b3cc32690a856f3111a57bf61571ef04ab382266e0875163b"), looks := false }, kinds := [], alts := [], laidByText := true, laidKinds := [.data, .data, .data], laidTests := true, laidLooks := .later }
def TopGoneUptoCardSaid : Prop := Claim7.holds Tryz.pinned (.plain (OpenSpec.upto topGoneSpec)) topGoneUptoCard

/-- THE SECOND FORM's CARD OF 'hostlerlaw19.AgentFull'. -/
def agentFullUptoCard : Claim7 := { stood := { row := agentFullUptoRow, standIns := [], harness := (true, "294bb3f25574950b3cc32690a856f3111a57bf61571ef04ab382266e0875163b"), looks := false }, kinds := [], alts := [], laidByText := true, laidKinds := [.data, .data, .data], laidTests := true, laidLooks := .later }
def AgentFullUptoCardSaid : Prop := Claim7.holds Tryz.pinned (.plain (OpenSpec.upto agentFullSpec)) agentFullUptoCard

/-- THE SECOND FORM's CARD OF 'hostlerlaw19.AgentRuns'. -/
def agentRunsUptoCard : Claim7 := { stood := { row := agentRunsUptoRow, standIns := [], harness := (true, "294bb3f25574950b3cc32690a856f3111a57bf61571ef04ab382266e0875163b"), looks := false }, kinds := [], alts := [], laidByText := true, laidKinds := [.data, .data, .data], laidTests := true, laidLooks := .later }
def AgentRunsUptoCardSaid : Prop := Claim7.holds Tryz.pinned (.plain (OpenSpec.upto agentRunsSpec)) agentRunsUptoCard

/-- THE SECOND FORM's CARD OF 'hostlerlaw20.WorldFuse'. -/
def worldFuseUptoCard : Claim7 := { stood := { row := worldFuseUptoRow, standIns := [], harness := (true, "294bb3f25574950b3cc32690a856f3111a57bf61571ef04ab382266e0875163b"), looks := false }, kinds := [], alts := [], laidByText := true, laidKinds := [.data, .data, .data], laidTests := true, laidLooks := .later }
def WorldFuseUptoCardSaid : Prop := Claim7.holds Tryz.pinned (.plain (OpenSpec.upto worldFuseSpec)) worldFuseUptoCard
end Rows
end Go.Proofs.YtpjhjjdhibnciaaGreatDoor
