/-
  NARROWER THAN 'FOR EVERY INPUT', by the rows' own cells (each row's printed sentence says how): AgentWaits: laid · AgentRefuses: laid · AgentGroups: laid · AgentKills: laid · AgentShuts: laid · AgentLate: laid · AgentAsks: laid · AgentErrors: laid · AgentOwn: laid · AgentTicks: laid · AgentBoxes: laid · AgentWindow: laid.
  DERIVED. THE GIVEN ROWS OF THIS SEAT. 12 by the template 'for every input the law returns true; each argument reads behind the call as it read before'; 0 by the template 'total and deterministic' (their statements: YtdmkogfpaffnhaaGreatDoorTotals.lean).
  GIVEN WITH THE SEED: the statements are not yours to turn. If you find one false, say at which input.
  Laid BY PROGRAM, IN A SANDBOX (cutbox-rows.mjs): the forced cells as the released guide's own fill.sh prints them over the translation c88953b052bb1ea5… (all of the seat's roots in one cut). By AI agents, Wed Nov 11 2026. No macro, syntax, notation, axiom, sorry.
-/
import Derived.Test.YtdmkogfpaffnhaaGreatDoorChecked
import GoSem.Claim
import GoSem.ClaimJoined
import GoSem.ClaimMapViews
import Derived.JoinedTies
import Derived.KernelRfl
namespace Go.Proofs.YtdmkogfpaffnhaaGreatDoor
/- THE CELL 'sum', in the pinned program and in every row, IS THE sha256 OF THE DUMP (.gsa) THAT YtdmkogfpaffnhaaGreatDoorProg.lean LOADS. Nothing in Lean hashes anything: it is a label: what it is worth is what the hold of that sum in a sandbox is worth. -/
noncomputable def Tryz.pinned : Pinned := { name := "ytdmkogfpaffnhaagreatdoor", sum := "c88953b052bb1ea56e0e8bdd0bf5a92345923e1f27475a9ba28f661d8291aad1", checked := Tryz.checked }
namespace Rows
def none {H : Type} : Left H := { results := [], args := [] }

/- WHAT THE LISTED PACKAGE-LEVEL VARIABLES READ AS WHEN THE CALL BEGINS. Each datum BY PROGRAM (the guide's laid-datum.mjs) off the statement by which the dump's own 'gosem.cut.vars' lays the variable. In a bare row this is a premise. The card (YtdmkogfpaffnhaaGreatDoorCards.lean) ties it to the program's text. -/
def laid_math_bits_deBruijn32tab {H : Type} : DataW H := .agg [.lit (.int .u8 0), .lit (.int .u8 1), .lit (.int .u8 28), .lit (.int .u8 2), .lit (.int .u8 29), .lit (.int .u8 14), .lit (.int .u8 24), .lit (.int .u8 3), .lit (.int .u8 30), .lit (.int .u8 22), .lit (.int .u8 20), .lit (.int .u8 15), .lit (.int .u8 25), .lit (.int .u8 17), .lit (.int .u8 4), .lit (.int .u8 8), .lit (.int .u8 31), .lit (.int .u8 27), .lit (.int .u8 13), .lit (.int .u8 23), .lit (.int .u8 21), .lit (.int .u8 19), .lit (.int .u8 16), .lit (.int .u8 7), .lit (.int .u8 26), .lit (.int .u8 12), .lit (.int .u8 18), .lit (.int .u8 6), .lit (.int .u8 11), .lit (.int .u8 5), .lit (.int .u8 10), .lit (.int .u8 9)]
def laid_math_bits_deBruijn64tab {H : Type} : DataW H := .agg [.lit (.int .u8 0), .lit (.int .u8 1), .lit (.int .u8 56), .lit (.int .u8 2), .lit (.int .u8 57), .lit (.int .u8 49), .lit (.int .u8 28), .lit (.int .u8 3), .lit (.int .u8 61), .lit (.int .u8 58), .lit (.int .u8 42), .lit (.int .u8 50), .lit (.int .u8 38), .lit (.int .u8 29), .lit (.int .u8 17), .lit (.int .u8 4), .lit (.int .u8 62), .lit (.int .u8 47), .lit (.int .u8 59), .lit (.int .u8 36), .lit (.int .u8 45), .lit (.int .u8 43), .lit (.int .u8 51), .lit (.int .u8 22), .lit (.int .u8 53), .lit (.int .u8 39), .lit (.int .u8 33), .lit (.int .u8 30), .lit (.int .u8 24), .lit (.int .u8 18), .lit (.int .u8 12), .lit (.int .u8 5), .lit (.int .u8 63), .lit (.int .u8 55), .lit (.int .u8 48), .lit (.int .u8 27), .lit (.int .u8 60), .lit (.int .u8 41), .lit (.int .u8 37), .lit (.int .u8 16), .lit (.int .u8 46), .lit (.int .u8 35), .lit (.int .u8 44), .lit (.int .u8 21), .lit (.int .u8 52), .lit (.int .u8 32), .lit (.int .u8 23), .lit (.int .u8 11), .lit (.int .u8 54), .lit (.int .u8 26), .lit (.int .u8 40), .lit (.int .u8 15), .lit (.int .u8 34), .lit (.int .u8 20), .lit (.int .u8 31), .lit (.int .u8 10), .lit (.int .u8 25), .lit (.int .u8 14), .lit (.int .u8 19), .lit (.int .u8 9), .lit (.int .u8 13), .lit (.int .u8 8), .lit (.int .u8 7), .lit (.int .u8 6)]
def laid_internal_strconv_uint64pow10 {H : Type} : DataW H := .agg [.lit (.int .u64 1), .lit (.int .u64 10), .lit (.int .u64 100), .lit (.int .u64 1000), .lit (.int .u64 10000), .lit (.int .u64 100000), .lit (.int .u64 1000000), .lit (.int .u64 10000000), .lit (.int .u64 100000000), .lit (.int .u64 1000000000), .lit (.int .u64 10000000000), .lit (.int .u64 100000000000), .lit (.int .u64 1000000000000), .lit (.int .u64 10000000000000), .lit (.int .u64 100000000000000), .lit (.int .u64 1000000000000000), .lit (.int .u64 10000000000000000), .lit (.int .u64 100000000000000000), .lit (.int .u64 1000000000000000000), .lit (.int .u64 10000000000000000000)]

/-- 'hostlerlaw19.AgentWaits': WHATEVER THE INPUT: true; the input reads as it did. -/
def agentWaitsSpec : ChangeSpec := { name := "agentWaits", fn := fun _ => fun
  | [d] => { results := [.lit (.bool true)], args := [d] }
  | _ => none }
def agentWaitsRow : OpenClaim := { program := "ytdmkogfpaffnhaagreatdoor", sum := "c88953b052bb1ea56e0e8bdd0bf5a92345923e1f27475a9ba28f661d8291aad1", func := "hostler/hostlerlaw19.AgentWaits", spec := "agentWaits", inPlace := ["math.archTrunc", "math.Float64bits", "math.Float64frombits", "slices.overlaps[hostler/bin.Box]"], unfollowed := true, recurses := true, named := ["internal/strconv.uint64pow10", "math/bits.deBruijn32tab", "math/bits.deBruijn64tab"], plainKeys := false, apart := false, laid := [("math/bits.deBruijn32tab", laid_math_bits_deBruijn32tab), ("math/bits.deBruijn64tab", laid_math_bits_deBruijn64tab), ("internal/strconv.uint64pow10", laid_internal_strconv_uint64pow10)] }
def AgentWaitsSaid : Prop := agentWaitsRow.holds Tryz.pinned (OpenSpec.ofChange agentWaitsSpec)

/-- ITS FALSE NEIGHBOUR: 'it returns false'. Refute it at one input. -/
def agentWaitsWrong : ChangeSpec := { name := "agentWaits", fn := fun _ => fun
  | [d] => { results := [.lit (.bool false)], args := [d] }
  | _ => none }
def AgentWaitsWrongFalsely : Prop := agentWaitsRow.holds Tryz.pinned (OpenSpec.ofChange agentWaitsWrong)

/-- 'hostlerlaw19.AgentRefuses': WHATEVER THE INPUT: true; the input reads as it did. -/
def agentRefusesSpec : ChangeSpec := { name := "agentRefuses", fn := fun _ => fun
  | [d] => { results := [.lit (.bool true)], args := [d] }
  | _ => none }
def agentRefusesRow : OpenClaim := { program := "ytdmkogfpaffnhaagreatdoor", sum := "c88953b052bb1ea56e0e8bdd0bf5a92345923e1f27475a9ba28f661d8291aad1", func := "hostler/hostlerlaw19.AgentRefuses", spec := "agentRefuses", inPlace := ["math.archTrunc", "math.Float64bits", "math.Float64frombits", "slices.overlaps[hostler/bin.Box]"], unfollowed := true, recurses := true, named := ["internal/strconv.uint64pow10", "math/bits.deBruijn32tab", "math/bits.deBruijn64tab"], plainKeys := false, apart := false, laid := [("math/bits.deBruijn32tab", laid_math_bits_deBruijn32tab), ("math/bits.deBruijn64tab", laid_math_bits_deBruijn64tab), ("internal/strconv.uint64pow10", laid_internal_strconv_uint64pow10)] }
def AgentRefusesSaid : Prop := agentRefusesRow.holds Tryz.pinned (OpenSpec.ofChange agentRefusesSpec)

/-- ITS FALSE NEIGHBOUR: 'it returns false'. Refute it at one input. -/
def agentRefusesWrong : ChangeSpec := { name := "agentRefuses", fn := fun _ => fun
  | [d] => { results := [.lit (.bool false)], args := [d] }
  | _ => none }
def AgentRefusesWrongFalsely : Prop := agentRefusesRow.holds Tryz.pinned (OpenSpec.ofChange agentRefusesWrong)

/-- 'hostlerlaw19.AgentGroups': WHATEVER THE INPUT: true; the input reads as it did. -/
def agentGroupsSpec : ChangeSpec := { name := "agentGroups", fn := fun _ => fun
  | [d] => { results := [.lit (.bool true)], args := [d] }
  | _ => none }
def agentGroupsRow : OpenClaim := { program := "ytdmkogfpaffnhaagreatdoor", sum := "c88953b052bb1ea56e0e8bdd0bf5a92345923e1f27475a9ba28f661d8291aad1", func := "hostler/hostlerlaw19.AgentGroups", spec := "agentGroups", inPlace := ["math.archTrunc", "math.Float64bits", "math.Float64frombits", "slices.overlaps[hostler/bin.Box]"], unfollowed := true, recurses := true, named := ["internal/strconv.uint64pow10", "math/bits.deBruijn32tab", "math/bits.deBruijn64tab"], plainKeys := false, apart := false, laid := [("math/bits.deBruijn32tab", laid_math_bits_deBruijn32tab), ("math/bits.deBruijn64tab", laid_math_bits_deBruijn64tab), ("internal/strconv.uint64pow10", laid_internal_strconv_uint64pow10)] }
def AgentGroupsSaid : Prop := agentGroupsRow.holds Tryz.pinned (OpenSpec.ofChange agentGroupsSpec)

/-- ITS FALSE NEIGHBOUR: 'it returns false'. Refute it at one input. -/
def agentGroupsWrong : ChangeSpec := { name := "agentGroups", fn := fun _ => fun
  | [d] => { results := [.lit (.bool false)], args := [d] }
  | _ => none }
def AgentGroupsWrongFalsely : Prop := agentGroupsRow.holds Tryz.pinned (OpenSpec.ofChange agentGroupsWrong)

/-- 'hostlerlaw19.AgentKills': WHATEVER THE INPUT: true; the input reads as it did. -/
def agentKillsSpec : ChangeSpec := { name := "agentKills", fn := fun _ => fun
  | [d] => { results := [.lit (.bool true)], args := [d] }
  | _ => none }
def agentKillsRow : OpenClaim := { program := "ytdmkogfpaffnhaagreatdoor", sum := "c88953b052bb1ea56e0e8bdd0bf5a92345923e1f27475a9ba28f661d8291aad1", func := "hostler/hostlerlaw19.AgentKills", spec := "agentKills", inPlace := ["math.archTrunc", "math.Float64bits", "math.Float64frombits", "slices.overlaps[hostler/bin.Box]"], unfollowed := true, recurses := true, named := ["internal/strconv.uint64pow10", "math/bits.deBruijn32tab", "math/bits.deBruijn64tab"], plainKeys := false, apart := false, laid := [("math/bits.deBruijn32tab", laid_math_bits_deBruijn32tab), ("math/bits.deBruijn64tab", laid_math_bits_deBruijn64tab), ("internal/strconv.uint64pow10", laid_internal_strconv_uint64pow10)] }
def AgentKillsSaid : Prop := agentKillsRow.holds Tryz.pinned (OpenSpec.ofChange agentKillsSpec)

/-- ITS FALSE NEIGHBOUR: 'it returns false'. Refute it at one input. -/
def agentKillsWrong : ChangeSpec := { name := "agentKills", fn := fun _ => fun
  | [d] => { results := [.lit (.bool false)], args := [d] }
  | _ => none }
def AgentKillsWrongFalsely : Prop := agentKillsRow.holds Tryz.pinned (OpenSpec.ofChange agentKillsWrong)

/-- 'hostlerlaw19.AgentShuts': WHATEVER THE INPUT: true; the input reads as it did. -/
def agentShutsSpec : ChangeSpec := { name := "agentShuts", fn := fun _ => fun
  | [d] => { results := [.lit (.bool true)], args := [d] }
  | _ => none }
def agentShutsRow : OpenClaim := { program := "ytdmkogfpaffnhaagreatdoor", sum := "c88953b052bb1ea56e0e8bdd0bf5a92345923e1f27475a9ba28f661d8291aad1", func := "hostler/hostlerlaw19.AgentShuts", spec := "agentShuts", inPlace := ["math.archTrunc", "math.Float64bits", "math.Float64frombits", "slices.overlaps[hostler/bin.Box]"], unfollowed := true, recurses := true, named := ["internal/strconv.uint64pow10", "math/bits.deBruijn32tab", "math/bits.deBruijn64tab"], plainKeys := false, apart := false, laid := [("math/bits.deBruijn32tab", laid_math_bits_deBruijn32tab), ("math/bits.deBruijn64tab", laid_math_bits_deBruijn64tab), ("internal/strconv.uint64pow10", laid_internal_strconv_uint64pow10)] }
def AgentShutsSaid : Prop := agentShutsRow.holds Tryz.pinned (OpenSpec.ofChange agentShutsSpec)

/-- ITS FALSE NEIGHBOUR: 'it returns false'. Refute it at one input. -/
def agentShutsWrong : ChangeSpec := { name := "agentShuts", fn := fun _ => fun
  | [d] => { results := [.lit (.bool false)], args := [d] }
  | _ => none }
def AgentShutsWrongFalsely : Prop := agentShutsRow.holds Tryz.pinned (OpenSpec.ofChange agentShutsWrong)

/-- 'hostlerlaw19.AgentLate': WHATEVER THE INPUT: true; the input reads as it did. -/
def agentLateSpec : ChangeSpec := { name := "agentLate", fn := fun _ => fun
  | [d] => { results := [.lit (.bool true)], args := [d] }
  | _ => none }
def agentLateRow : OpenClaim := { program := "ytdmkogfpaffnhaagreatdoor", sum := "c88953b052bb1ea56e0e8bdd0bf5a92345923e1f27475a9ba28f661d8291aad1", func := "hostler/hostlerlaw19.AgentLate", spec := "agentLate", inPlace := ["math.archTrunc", "math.Float64bits", "math.Float64frombits", "slices.overlaps[hostler/bin.Box]"], unfollowed := true, recurses := true, named := ["internal/strconv.uint64pow10", "math/bits.deBruijn32tab", "math/bits.deBruijn64tab"], plainKeys := false, apart := false, laid := [("math/bits.deBruijn32tab", laid_math_bits_deBruijn32tab), ("math/bits.deBruijn64tab", laid_math_bits_deBruijn64tab), ("internal/strconv.uint64pow10", laid_internal_strconv_uint64pow10)] }
def AgentLateSaid : Prop := agentLateRow.holds Tryz.pinned (OpenSpec.ofChange agentLateSpec)

/-- ITS FALSE NEIGHBOUR: 'it returns false'. Refute it at one input. -/
def agentLateWrong : ChangeSpec := { name := "agentLate", fn := fun _ => fun
  | [d] => { results := [.lit (.bool false)], args := [d] }
  | _ => none }
def AgentLateWrongFalsely : Prop := agentLateRow.holds Tryz.pinned (OpenSpec.ofChange agentLateWrong)

/-- 'hostlerlaw19.AgentAsks': WHATEVER THE INPUT: true; the input reads as it did. -/
def agentAsksSpec : ChangeSpec := { name := "agentAsks", fn := fun _ => fun
  | [d] => { results := [.lit (.bool true)], args := [d] }
  | _ => none }
def agentAsksRow : OpenClaim := { program := "ytdmkogfpaffnhaagreatdoor", sum := "c88953b052bb1ea56e0e8bdd0bf5a92345923e1f27475a9ba28f661d8291aad1", func := "hostler/hostlerlaw19.AgentAsks", spec := "agentAsks", inPlace := ["math.archTrunc", "math.Float64bits", "math.Float64frombits", "slices.overlaps[hostler/bin.Box]"], unfollowed := true, recurses := true, named := ["internal/strconv.uint64pow10", "math/bits.deBruijn32tab", "math/bits.deBruijn64tab"], plainKeys := false, apart := false, laid := [("math/bits.deBruijn32tab", laid_math_bits_deBruijn32tab), ("math/bits.deBruijn64tab", laid_math_bits_deBruijn64tab), ("internal/strconv.uint64pow10", laid_internal_strconv_uint64pow10)] }
def AgentAsksSaid : Prop := agentAsksRow.holds Tryz.pinned (OpenSpec.ofChange agentAsksSpec)

/-- ITS FALSE NEIGHBOUR: 'it returns false'. Refute it at one input. -/
def agentAsksWrong : ChangeSpec := { name := "agentAsks", fn := fun _ => fun
  | [d] => { results := [.lit (.bool false)], args := [d] }
  | _ => none }
def AgentAsksWrongFalsely : Prop := agentAsksRow.holds Tryz.pinned (OpenSpec.ofChange agentAsksWrong)

/-- 'hostlerlaw19.AgentErrors': WHATEVER THE INPUT: true; the input reads as it did. -/
def agentErrorsSpec : ChangeSpec := { name := "agentErrors", fn := fun _ => fun
  | [d] => { results := [.lit (.bool true)], args := [d] }
  | _ => none }
def agentErrorsRow : OpenClaim := { program := "ytdmkogfpaffnhaagreatdoor", sum := "c88953b052bb1ea56e0e8bdd0bf5a92345923e1f27475a9ba28f661d8291aad1", func := "hostler/hostlerlaw19.AgentErrors", spec := "agentErrors", inPlace := ["math.archTrunc", "math.Float64bits", "math.Float64frombits", "slices.overlaps[hostler/bin.Box]"], unfollowed := true, recurses := true, named := ["internal/strconv.uint64pow10", "math/bits.deBruijn32tab", "math/bits.deBruijn64tab"], plainKeys := false, apart := false, laid := [("math/bits.deBruijn32tab", laid_math_bits_deBruijn32tab), ("math/bits.deBruijn64tab", laid_math_bits_deBruijn64tab), ("internal/strconv.uint64pow10", laid_internal_strconv_uint64pow10)] }
def AgentErrorsSaid : Prop := agentErrorsRow.holds Tryz.pinned (OpenSpec.ofChange agentErrorsSpec)

/-- ITS FALSE NEIGHBOUR: 'it returns false'. Refute it at one input. -/
def agentErrorsWrong : ChangeSpec := { name := "agentErrors", fn := fun _ => fun
  | [d] => { results := [.lit (.bool false)], args := [d] }
  | _ => none }
def AgentErrorsWrongFalsely : Prop := agentErrorsRow.holds Tryz.pinned (OpenSpec.ofChange agentErrorsWrong)

/-- 'hostlerlaw19.AgentOwn': WHATEVER THE INPUT: true; the input reads as it did. -/
def agentOwnSpec : ChangeSpec := { name := "agentOwn", fn := fun _ => fun
  | [d] => { results := [.lit (.bool true)], args := [d] }
  | _ => none }
def agentOwnRow : OpenClaim := { program := "ytdmkogfpaffnhaagreatdoor", sum := "c88953b052bb1ea56e0e8bdd0bf5a92345923e1f27475a9ba28f661d8291aad1", func := "hostler/hostlerlaw19.AgentOwn", spec := "agentOwn", inPlace := ["math.archTrunc", "math.Float64bits", "math.Float64frombits", "slices.overlaps[hostler/bin.Box]"], unfollowed := true, recurses := true, named := ["internal/strconv.uint64pow10", "math/bits.deBruijn32tab", "math/bits.deBruijn64tab"], plainKeys := false, apart := false, laid := [("math/bits.deBruijn32tab", laid_math_bits_deBruijn32tab), ("math/bits.deBruijn64tab", laid_math_bits_deBruijn64tab), ("internal/strconv.uint64pow10", laid_internal_strconv_uint64pow10)] }
def AgentOwnSaid : Prop := agentOwnRow.holds Tryz.pinned (OpenSpec.ofChange agentOwnSpec)

/-- ITS FALSE NEIGHBOUR: 'it returns false'. Refute it at one input. -/
def agentOwnWrong : ChangeSpec := { name := "agentOwn", fn := fun _ => fun
  | [d] => { results := [.lit (.bool false)], args := [d] }
  | _ => none }
def AgentOwnWrongFalsely : Prop := agentOwnRow.holds Tryz.pinned (OpenSpec.ofChange agentOwnWrong)

/-- 'hostlerlaw19.AgentTicks': WHATEVER THE INPUT: true; the input reads as it did. -/
def agentTicksSpec : ChangeSpec := { name := "agentTicks", fn := fun _ => fun
  | [d] => { results := [.lit (.bool true)], args := [d] }
  | _ => none }
def agentTicksRow : OpenClaim := { program := "ytdmkogfpaffnhaagreatdoor", sum := "c88953b052bb1ea56e0e8bdd0bf5a92345923e1f27475a9ba28f661d8291aad1", func := "hostler/hostlerlaw19.AgentTicks", spec := "agentTicks", inPlace := ["math.archTrunc", "math.Float64bits", "math.Float64frombits", "slices.overlaps[hostler/bin.Box]"], unfollowed := true, recurses := true, named := ["internal/strconv.uint64pow10", "math/bits.deBruijn32tab", "math/bits.deBruijn64tab"], plainKeys := false, apart := false, laid := [("math/bits.deBruijn32tab", laid_math_bits_deBruijn32tab), ("math/bits.deBruijn64tab", laid_math_bits_deBruijn64tab), ("internal/strconv.uint64pow10", laid_internal_strconv_uint64pow10)] }
def AgentTicksSaid : Prop := agentTicksRow.holds Tryz.pinned (OpenSpec.ofChange agentTicksSpec)

/-- ITS FALSE NEIGHBOUR: 'it returns false'. Refute it at one input. -/
def agentTicksWrong : ChangeSpec := { name := "agentTicks", fn := fun _ => fun
  | [d] => { results := [.lit (.bool false)], args := [d] }
  | _ => none }
def AgentTicksWrongFalsely : Prop := agentTicksRow.holds Tryz.pinned (OpenSpec.ofChange agentTicksWrong)

/-- 'hostlerlaw19.AgentBoxes': WHATEVER THE INPUT: true; the input reads as it did. -/
def agentBoxesSpec : ChangeSpec := { name := "agentBoxes", fn := fun _ => fun
  | [d1, d2] => { results := [.lit (.bool true)], args := [d1, d2] }
  | _ => none }
def agentBoxesRow : OpenClaim := { program := "ytdmkogfpaffnhaagreatdoor", sum := "c88953b052bb1ea56e0e8bdd0bf5a92345923e1f27475a9ba28f661d8291aad1", func := "hostler/hostlerlaw19.AgentBoxes", spec := "agentBoxes", inPlace := ["math.archTrunc", "math.Float64bits", "math.Float64frombits", "slices.overlaps[hostler/bin.Box]"], unfollowed := true, recurses := true, named := ["internal/strconv.uint64pow10", "math/bits.deBruijn32tab", "math/bits.deBruijn64tab"], plainKeys := false, apart := false, laid := [("math/bits.deBruijn32tab", laid_math_bits_deBruijn32tab), ("math/bits.deBruijn64tab", laid_math_bits_deBruijn64tab), ("internal/strconv.uint64pow10", laid_internal_strconv_uint64pow10)] }
def AgentBoxesSaid : Prop := agentBoxesRow.holds Tryz.pinned (OpenSpec.ofChange agentBoxesSpec)

/-- ITS FALSE NEIGHBOUR: 'it returns false'. Refute it at one input. -/
def agentBoxesWrong : ChangeSpec := { name := "agentBoxes", fn := fun _ => fun
  | [d1, d2] => { results := [.lit (.bool false)], args := [d1, d2] }
  | _ => none }
def AgentBoxesWrongFalsely : Prop := agentBoxesRow.holds Tryz.pinned (OpenSpec.ofChange agentBoxesWrong)

/-- 'hostlerlaw19.AgentWindow': WHATEVER THE INPUT: true; the input reads as it did. -/
def agentWindowSpec : ChangeSpec := { name := "agentWindow", fn := fun _ => fun
  | [d1, d2, d3] => { results := [.lit (.bool true)], args := [d1, d2, d3] }
  | _ => none }
def agentWindowRow : OpenClaim := { program := "ytdmkogfpaffnhaagreatdoor", sum := "c88953b052bb1ea56e0e8bdd0bf5a92345923e1f27475a9ba28f661d8291aad1", func := "hostler/hostlerlaw19.AgentWindow", spec := "agentWindow", inPlace := ["math.archTrunc", "math.Float64bits", "math.Float64frombits", "slices.overlaps[hostler/bin.Box]"], unfollowed := true, recurses := true, named := ["internal/strconv.uint64pow10", "math/bits.deBruijn32tab", "math/bits.deBruijn64tab"], plainKeys := false, apart := false, laid := [("math/bits.deBruijn32tab", laid_math_bits_deBruijn32tab), ("math/bits.deBruijn64tab", laid_math_bits_deBruijn64tab), ("internal/strconv.uint64pow10", laid_internal_strconv_uint64pow10)] }
def AgentWindowSaid : Prop := agentWindowRow.holds Tryz.pinned (OpenSpec.ofChange agentWindowSpec)

/-- ITS FALSE NEIGHBOUR: 'it returns false'. Refute it at one input. -/
def agentWindowWrong : ChangeSpec := { name := "agentWindow", fn := fun _ => fun
  | [d1, d2, d3] => { results := [.lit (.bool false)], args := [d1, d2, d3] }
  | _ => none }
def AgentWindowWrongFalsely : Prop := agentWindowRow.holds Tryz.pinned (OpenSpec.ofChange agentWindowWrong)

/- THE SECOND FORM. 'bulk': how many values and letters a reading holds, each counted each time it is reached (what is shared counts as often as it is met; a slice's spare places count too). A statement '..UptoSaid' is the law's where the arguments, and the package variables that the reading takes, are together of bulk at most 1048576: NARROWER than '..Said'. Prove '..Said' where nothing that the law and all that it calls make is longer than what came in: it says more and counts as full. Else prove '..UptoSaid'. A law counts once. -/
mutual
def uptoBulk {H : Type} : DataW H → Nat
  | .lit (.string bytes) => bytes.length + 1
  | .lit _ => 1
  | .nil => 1
  | .ptr d => uptoBulk d + 1
  | .slice elems spare => uptoBulkAll elems + uptoBulkAll spare + 1
  | .agg parts => uptoBulkAll parts + 1
  | .iface _ d => uptoBulk d + 1
  | .map entries => uptoBulkEntries entries + 1
  | .held _ => 1
def uptoBulkAll {H : Type} : List (DataW H) → Nat
  | [] => 0
  | d :: r => uptoBulk d + uptoBulkAll r
def uptoBulkEntries {H : Type} : List (Lit × DataW H) → Nat
  | [] => 0
  | x :: r => uptoBulkEntry x + uptoBulkEntries r
def uptoBulkEntry {H : Type} : Lit × DataW H → Nat
  | (.string bytes, d) => bytes.length + uptoBulk d + 1
  | (_, d) => uptoBulk d + 1
 end
def uptoSmall : (H : Type) → List (DataW H) → Bool := fun _ ds => decide (uptoBulkAll ds ≤ 1048576)
def OpenSpec.upto (s : _root_.Go.ChangeSpec) : _root_.Go.OpenSpec := { _root_.Go.OpenSpec.ofChange s with cond := some uptoSmall }

/-- 'hostlerlaw19.AgentWaits', WHERE WHAT IT READS IS OF BULK AT MOST 1048576: true; the input reads as it did. -/
def agentWaitsUptoRow : OpenClaim := { program := "ytdmkogfpaffnhaagreatdoor", sum := "c88953b052bb1ea56e0e8bdd0bf5a92345923e1f27475a9ba28f661d8291aad1", func := "hostler/hostlerlaw19.AgentWaits", spec := "agentWaits", inPlace := ["math.archTrunc", "math.Float64bits", "math.Float64frombits", "slices.overlaps[hostler/bin.Box]"], unfollowed := true, recurses := true, named := ["internal/strconv.uint64pow10", "math/bits.deBruijn32tab", "math/bits.deBruijn64tab"], plainKeys := false, apart := false, laid := [("math/bits.deBruijn32tab", laid_math_bits_deBruijn32tab), ("math/bits.deBruijn64tab", laid_math_bits_deBruijn64tab), ("internal/strconv.uint64pow10", laid_internal_strconv_uint64pow10)], narrowed := true }
def AgentWaitsUptoSaid : Prop := agentWaitsUptoRow.holds Tryz.pinned (OpenSpec.upto agentWaitsSpec)

/-- 'hostlerlaw19.AgentRefuses', WHERE WHAT IT READS IS OF BULK AT MOST 1048576: true; the input reads as it did. -/
def agentRefusesUptoRow : OpenClaim := { program := "ytdmkogfpaffnhaagreatdoor", sum := "c88953b052bb1ea56e0e8bdd0bf5a92345923e1f27475a9ba28f661d8291aad1", func := "hostler/hostlerlaw19.AgentRefuses", spec := "agentRefuses", inPlace := ["math.archTrunc", "math.Float64bits", "math.Float64frombits", "slices.overlaps[hostler/bin.Box]"], unfollowed := true, recurses := true, named := ["internal/strconv.uint64pow10", "math/bits.deBruijn32tab", "math/bits.deBruijn64tab"], plainKeys := false, apart := false, laid := [("math/bits.deBruijn32tab", laid_math_bits_deBruijn32tab), ("math/bits.deBruijn64tab", laid_math_bits_deBruijn64tab), ("internal/strconv.uint64pow10", laid_internal_strconv_uint64pow10)], narrowed := true }
def AgentRefusesUptoSaid : Prop := agentRefusesUptoRow.holds Tryz.pinned (OpenSpec.upto agentRefusesSpec)

/-- 'hostlerlaw19.AgentGroups', WHERE WHAT IT READS IS OF BULK AT MOST 1048576: true; the input reads as it did. -/
def agentGroupsUptoRow : OpenClaim := { program := "ytdmkogfpaffnhaagreatdoor", sum := "c88953b052bb1ea56e0e8bdd0bf5a92345923e1f27475a9ba28f661d8291aad1", func := "hostler/hostlerlaw19.AgentGroups", spec := "agentGroups", inPlace := ["math.archTrunc", "math.Float64bits", "math.Float64frombits", "slices.overlaps[hostler/bin.Box]"], unfollowed := true, recurses := true, named := ["internal/strconv.uint64pow10", "math/bits.deBruijn32tab", "math/bits.deBruijn64tab"], plainKeys := false, apart := false, laid := [("math/bits.deBruijn32tab", laid_math_bits_deBruijn32tab), ("math/bits.deBruijn64tab", laid_math_bits_deBruijn64tab), ("internal/strconv.uint64pow10", laid_internal_strconv_uint64pow10)], narrowed := true }
def AgentGroupsUptoSaid : Prop := agentGroupsUptoRow.holds Tryz.pinned (OpenSpec.upto agentGroupsSpec)

/-- 'hostlerlaw19.AgentKills', WHERE WHAT IT READS IS OF BULK AT MOST 1048576: true; the input reads as it did. -/
def agentKillsUptoRow : OpenClaim := { program := "ytdmkogfpaffnhaagreatdoor", sum := "c88953b052bb1ea56e0e8bdd0bf5a92345923e1f27475a9ba28f661d8291aad1", func := "hostler/hostlerlaw19.AgentKills", spec := "agentKills", inPlace := ["math.archTrunc", "math.Float64bits", "math.Float64frombits", "slices.overlaps[hostler/bin.Box]"], unfollowed := true, recurses := true, named := ["internal/strconv.uint64pow10", "math/bits.deBruijn32tab", "math/bits.deBruijn64tab"], plainKeys := false, apart := false, laid := [("math/bits.deBruijn32tab", laid_math_bits_deBruijn32tab), ("math/bits.deBruijn64tab", laid_math_bits_deBruijn64tab), ("internal/strconv.uint64pow10", laid_internal_strconv_uint64pow10)], narrowed := true }
def AgentKillsUptoSaid : Prop := agentKillsUptoRow.holds Tryz.pinned (OpenSpec.upto agentKillsSpec)

/-- 'hostlerlaw19.AgentShuts', WHERE WHAT IT READS IS OF BULK AT MOST 1048576: true; the input reads as it did. -/
def agentShutsUptoRow : OpenClaim := { program := "ytdmkogfpaffnhaagreatdoor", sum := "c88953b052bb1ea56e0e8bdd0bf5a92345923e1f27475a9ba28f661d8291aad1", func := "hostler/hostlerlaw19.AgentShuts", spec := "agentShuts", inPlace := ["math.archTrunc", "math.Float64bits", "math.Float64frombits", "slices.overlaps[hostler/bin.Box]"], unfollowed := true, recurses := true, named := ["internal/strconv.uint64pow10", "math/bits.deBruijn32tab", "math/bits.deBruijn64tab"], plainKeys := false, apart := false, laid := [("math/bits.deBruijn32tab", laid_math_bits_deBruijn32tab), ("math/bits.deBruijn64tab", laid_math_bits_deBruijn64tab), ("internal/strconv.uint64pow10", laid_internal_strconv_uint64pow10)], narrowed := true }
def AgentShutsUptoSaid : Prop := agentShutsUptoRow.holds Tryz.pinned (OpenSpec.upto agentShutsSpec)

/-- 'hostlerlaw19.AgentLate', WHERE WHAT IT READS IS OF BULK AT MOST 1048576: true; the input reads as it did. -/
def agentLateUptoRow : OpenClaim := { program := "ytdmkogfpaffnhaagreatdoor", sum := "c88953b052bb1ea56e0e8bdd0bf5a92345923e1f27475a9ba28f661d8291aad1", func := "hostler/hostlerlaw19.AgentLate", spec := "agentLate", inPlace := ["math.archTrunc", "math.Float64bits", "math.Float64frombits", "slices.overlaps[hostler/bin.Box]"], unfollowed := true, recurses := true, named := ["internal/strconv.uint64pow10", "math/bits.deBruijn32tab", "math/bits.deBruijn64tab"], plainKeys := false, apart := false, laid := [("math/bits.deBruijn32tab", laid_math_bits_deBruijn32tab), ("math/bits.deBruijn64tab", laid_math_bits_deBruijn64tab), ("internal/strconv.uint64pow10", laid_internal_strconv_uint64pow10)], narrowed := true }
def AgentLateUptoSaid : Prop := agentLateUptoRow.holds Tryz.pinned (OpenSpec.upto agentLateSpec)

/-- 'hostlerlaw19.AgentAsks', WHERE WHAT IT READS IS OF BULK AT MOST 1048576: true; the input reads as it did. -/
def agentAsksUptoRow : OpenClaim := { program := "ytdmkogfpaffnhaagreatdoor", sum := "c88953b052bb1ea56e0e8bdd0bf5a92345923e1f27475a9ba28f661d8291aad1", func := "hostler/hostlerlaw19.AgentAsks", spec := "agentAsks", inPlace := ["math.archTrunc", "math.Float64bits", "math.Float64frombits", "slices.overlaps[hostler/bin.Box]"], unfollowed := true, recurses := true, named := ["internal/strconv.uint64pow10", "math/bits.deBruijn32tab", "math/bits.deBruijn64tab"], plainKeys := false, apart := false, laid := [("math/bits.deBruijn32tab", laid_math_bits_deBruijn32tab), ("math/bits.deBruijn64tab", laid_math_bits_deBruijn64tab), ("internal/strconv.uint64pow10", laid_internal_strconv_uint64pow10)], narrowed := true }
def AgentAsksUptoSaid : Prop := agentAsksUptoRow.holds Tryz.pinned (OpenSpec.upto agentAsksSpec)

/-- 'hostlerlaw19.AgentErrors', WHERE WHAT IT READS IS OF BULK AT MOST 1048576: true; the input reads as it did. -/
def agentErrorsUptoRow : OpenClaim := { program := "ytdmkogfpaffnhaagreatdoor", sum := "c88953b052bb1ea56e0e8bdd0bf5a92345923e1f27475a9ba28f661d8291aad1", func := "hostler/hostlerlaw19.AgentErrors", spec := "agentErrors", inPlace := ["math.archTrunc", "math.Float64bits", "math.Float64frombits", "slices.overlaps[hostler/bin.Box]"], unfollowed := true, recurses := true, named := ["internal/strconv.uint64pow10", "math/bits.deBruijn32tab", "math/bits.deBruijn64tab"], plainKeys := false, apart := false, laid := [("math/bits.deBruijn32tab", laid_math_bits_deBruijn32tab), ("math/bits.deBruijn64tab", laid_math_bits_deBruijn64tab), ("internal/strconv.uint64pow10", laid_internal_strconv_uint64pow10)], narrowed := true }
def AgentErrorsUptoSaid : Prop := agentErrorsUptoRow.holds Tryz.pinned (OpenSpec.upto agentErrorsSpec)

/-- 'hostlerlaw19.AgentOwn', WHERE WHAT IT READS IS OF BULK AT MOST 1048576: true; the input reads as it did. -/
def agentOwnUptoRow : OpenClaim := { program := "ytdmkogfpaffnhaagreatdoor", sum := "c88953b052bb1ea56e0e8bdd0bf5a92345923e1f27475a9ba28f661d8291aad1", func := "hostler/hostlerlaw19.AgentOwn", spec := "agentOwn", inPlace := ["math.archTrunc", "math.Float64bits", "math.Float64frombits", "slices.overlaps[hostler/bin.Box]"], unfollowed := true, recurses := true, named := ["internal/strconv.uint64pow10", "math/bits.deBruijn32tab", "math/bits.deBruijn64tab"], plainKeys := false, apart := false, laid := [("math/bits.deBruijn32tab", laid_math_bits_deBruijn32tab), ("math/bits.deBruijn64tab", laid_math_bits_deBruijn64tab), ("internal/strconv.uint64pow10", laid_internal_strconv_uint64pow10)], narrowed := true }
def AgentOwnUptoSaid : Prop := agentOwnUptoRow.holds Tryz.pinned (OpenSpec.upto agentOwnSpec)

/-- 'hostlerlaw19.AgentTicks', WHERE WHAT IT READS IS OF BULK AT MOST 1048576: true; the input reads as it did. -/
def agentTicksUptoRow : OpenClaim := { program := "ytdmkogfpaffnhaagreatdoor", sum := "c88953b052bb1ea56e0e8bdd0bf5a92345923e1f27475a9ba28f661d8291aad1", func := "hostler/hostlerlaw19.AgentTicks", spec := "agentTicks", inPlace := ["math.archTrunc", "math.Float64bits", "math.Float64frombits", "slices.overlaps[hostler/bin.Box]"], unfollowed := true, recurses := true, named := ["internal/strconv.uint64pow10", "math/bits.deBruijn32tab", "math/bits.deBruijn64tab"], plainKeys := false, apart := false, laid := [("math/bits.deBruijn32tab", laid_math_bits_deBruijn32tab), ("math/bits.deBruijn64tab", laid_math_bits_deBruijn64tab), ("internal/strconv.uint64pow10", laid_internal_strconv_uint64pow10)], narrowed := true }
def AgentTicksUptoSaid : Prop := agentTicksUptoRow.holds Tryz.pinned (OpenSpec.upto agentTicksSpec)

/-- 'hostlerlaw19.AgentBoxes', WHERE WHAT IT READS IS OF BULK AT MOST 1048576: true; the input reads as it did. -/
def agentBoxesUptoRow : OpenClaim := { program := "ytdmkogfpaffnhaagreatdoor", sum := "c88953b052bb1ea56e0e8bdd0bf5a92345923e1f27475a9ba28f661d8291aad1", func := "hostler/hostlerlaw19.AgentBoxes", spec := "agentBoxes", inPlace := ["math.archTrunc", "math.Float64bits", "math.Float64frombits", "slices.overlaps[hostler/bin.Box]"], unfollowed := true, recurses := true, named := ["internal/strconv.uint64pow10", "math/bits.deBruijn32tab", "math/bits.deBruijn64tab"], plainKeys := false, apart := false, laid := [("math/bits.deBruijn32tab", laid_math_bits_deBruijn32tab), ("math/bits.deBruijn64tab", laid_math_bits_deBruijn64tab), ("internal/strconv.uint64pow10", laid_internal_strconv_uint64pow10)], narrowed := true }
def AgentBoxesUptoSaid : Prop := agentBoxesUptoRow.holds Tryz.pinned (OpenSpec.upto agentBoxesSpec)

/-- 'hostlerlaw19.AgentWindow', WHERE WHAT IT READS IS OF BULK AT MOST 1048576: true; the input reads as it did. -/
def agentWindowUptoRow : OpenClaim := { program := "ytdmkogfpaffnhaagreatdoor", sum := "c88953b052bb1ea56e0e8bdd0bf5a92345923e1f27475a9ba28f661d8291aad1", func := "hostler/hostlerlaw19.AgentWindow", spec := "agentWindow", inPlace := ["math.archTrunc", "math.Float64bits", "math.Float64frombits", "slices.overlaps[hostler/bin.Box]"], unfollowed := true, recurses := true, named := ["internal/strconv.uint64pow10", "math/bits.deBruijn32tab", "math/bits.deBruijn64tab"], plainKeys := false, apart := false, laid := [("math/bits.deBruijn32tab", laid_math_bits_deBruijn32tab), ("math/bits.deBruijn64tab", laid_math_bits_deBruijn64tab), ("internal/strconv.uint64pow10", laid_internal_strconv_uint64pow10)], narrowed := true }
def AgentWindowUptoSaid : Prop := agentWindowUptoRow.holds Tryz.pinned (OpenSpec.upto agentWindowSpec)

end Rows
end Go.Proofs.YtdmkogfpaffnhaaGreatDoor
