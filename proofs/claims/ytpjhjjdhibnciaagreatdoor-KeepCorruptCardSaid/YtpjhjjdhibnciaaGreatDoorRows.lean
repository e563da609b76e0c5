/-
  NARROWER THAN 'FOR EVERY INPUT', by the rows' own cells (each row's printed sentence says how): KeepBytes: laid · KeepErrors: laid · KeepOwn: laid · KeepCorrupt: laid · KeepEpochs: laid · TopFuses: laid · TopReports: laid · TopGone: laid · AgentFull: laid · AgentRuns: laid · WorldFuse: laid.
  DERIVED. THE GIVEN ROWS OF THIS SEAT. 11 by the template 'for every input the law returns true; each argument reads behind the call as it read before'; 0 by the template 'total and deterministic' (their statements: YtpjhjjdhibnciaaGreatDoorTotals.lean).
  GIVEN WITH THE SEED: the statements are not yours to turn. If you find one false, say at which input.
  Laid BY PROGRAM, IN A SANDBOX (cutbox-rows.mjs): the forced cells as the released guide's own fill.sh prints them over the translation 646bd61e4ff65390… (all of the seat's roots in one cut). By AI agents, Wed Nov 11 2026. No macro, syntax, notation, axiom, sorry.
-/
import Derived.Test.YtpjhjjdhibnciaaGreatDoorChecked
import GoSem.Claim
import GoSem.ClaimJoined
import GoSem.ClaimMapViews
import Derived.JoinedTies
import Derived.KernelRfl
namespace Go.Proofs.YtpjhjjdhibnciaaGreatDoor
/- THE CELL 'sum', in the pinned program and in every row, IS THE sha256 OF THE DUMP (.gsa) THAT YtpjhjjdhibnciaaGreatDoorProg.lean LOADS. Nothing in Lean hashes anything: it is a label: what it is worth is what the hold of that sum in a sandbox is worth. -/
noncomputable def Tryz.pinned : Pinned := { name := "ytpjhjjdhibnciaagreatdoor", sum := "646bd61e4ff65390fad3b80fe30018e69dbcc559939e5f1b821cc1fda79991bd", checked := Tryz.checked }
namespace Rows
def none {H : Type} : Left H := { results := [], args := [] }

/- WHAT THE LISTED PACKAGE-LEVEL VARIABLES READ AS WHEN THE CALL BEGINS. Each datum BY PROGRAM (the guide's laid-datum.mjs) off the statement by which the dump's own 'gosem.cut.vars' lays the variable. In a bare row this is a premise. The card (YtpjhjjdhibnciaaGreatDoorCards.lean) ties it to the program's text. -/
def laid_math_bits_deBruijn32tab {H : Type} : DataW H := .agg [.lit (.int .u8 0), .lit (.int .u8 1), .lit (.int .u8 28), .lit (.int .u8 2), .lit (.int .u8 29), .lit (.int .u8 14), .lit (.int .u8 24), .lit (.int .u8 3), .lit (.int .u8 30), .lit (.int .u8 22), .lit (.int .u8 20), .lit (.int .u8 15), .lit (.int .u8 25), .lit (.int .u8 17), .lit (.int .u8 4), .lit (.int .u8 8), .lit (.int .u8 31), .lit (.int .u8 27), .lit (.int .u8 13), .lit (.int .u8 23), .lit (.int .u8 21), .lit (.int .u8 19), .lit (.int .u8 16), .lit (.int .u8 7), .lit (.int .u8 26), .lit (.int .u8 12), .lit (.int .u8 18), .lit (.int .u8 6), .lit (.int .u8 11), .lit (.int .u8 5), .lit (.int .u8 10), .lit (.int .u8 9)]
def laid_math_bits_deBruijn64tab {H : Type} : DataW H := .agg [.lit (.int .u8 0), .lit (.int .u8 1), .lit (.int .u8 56), .lit (.int .u8 2), .lit (.int .u8 57), .lit (.int .u8 49), .lit (.int .u8 28), .lit (.int .u8 3), .lit (.int .u8 61), .lit (.int .u8 58), .lit (.int .u8 42), .lit (.int .u8 50), .lit (.int .u8 38), .lit (.int .u8 29), .lit (.int .u8 17), .lit (.int .u8 4), .lit (.int .u8 62), .lit (.int .u8 47), .lit (.int .u8 59), .lit (.int .u8 36), .lit (.int .u8 45), .lit (.int .u8 43), .lit (.int .u8 51), .lit (.int .u8 22), .lit (.int .u8 53), .lit (.int .u8 39), .lit (.int .u8 33), .lit (.int .u8 30), .lit (.int .u8 24), .lit (.int .u8 18), .lit (.int .u8 12), .lit (.int .u8 5), .lit (.int .u8 63), .lit (.int .u8 55), .lit (.int .u8 48), .lit (.int .u8 27), .lit (.int .u8 60), .lit (.int .u8 41), .lit (.int .u8 37), .lit (.int .u8 16), .lit (.int .u8 46), .lit (.int .u8 35), .lit (.int .u8 44), .lit (.int .u8 21), .lit (.int .u8 52), .lit (.int .u8 32), .lit (.int .u8 23), .lit (.int .u8 11), .lit (.int .u8 54), .lit (.int .u8 26), .lit (.int .u8 40), .lit (.int .u8 15), .lit (.int .u8 34), .lit (.int .u8 20), .lit (.int .u8 31), .lit (.int .u8 10), .lit (.int .u8 25), .lit (.int .u8 14), .lit (.int .u8 19), .lit (.int .u8 9), .lit (.int .u8 13), .lit (.int .u8 8), .lit (.int .u8 7), .lit (.int .u8 6)]
def laid_internal_strconv_uint64pow10 {H : Type} : DataW H := .agg [.lit (.int .u64 1), .lit (.int .u64 10), .lit (.int .u64 100), .lit (.int .u64 1000), .lit (.int .u64 10000), .lit (.int .u64 100000), .lit (.int .u64 1000000), .lit (.int .u64 10000000), .lit (.int .u64 100000000), .lit (.int .u64 1000000000), .lit (.int .u64 10000000000), .lit (.int .u64 100000000000), .lit (.int .u64 1000000000000), .lit (.int .u64 10000000000000), .lit (.int .u64 100000000000000), .lit (.int .u64 1000000000000000), .lit (.int .u64 10000000000000000), .lit (.int .u64 100000000000000000), .lit (.int .u64 1000000000000000000), .lit (.int .u64 10000000000000000000)]

/-- 'hostlerlaw14.KeepBytes': WHATEVER THE INPUT: true; the input reads as it did. -/
def keepBytesSpec : ChangeSpec := { name := "keepBytes", fn := fun _ => fun
  | [d] => { results := [.lit (.bool true)], args := [d] }
  | _ => none }
def keepBytesRow : OpenClaim := { program := "ytpjhjjdhibnciaagreatdoor", sum := "646bd61e4ff65390fad3b80fe30018e69dbcc559939e5f1b821cc1fda79991bd", func := "hostler/hostlerlaw14.KeepBytes", spec := "keepBytes", inPlace := ["math.archTrunc", "math.Float64bits", "math.Float64frombits"], recurses := true, named := ["internal/strconv.uint64pow10", "math/bits.deBruijn32tab", "math/bits.deBruijn64tab"], plainKeys := false, apart := false, laid := [("math/bits.deBruijn32tab", laid_math_bits_deBruijn32tab), ("math/bits.deBruijn64tab", laid_math_bits_deBruijn64tab), ("internal/strconv.uint64pow10", laid_internal_strconv_uint64pow10)] }
def KeepBytesSaid : Prop := keepBytesRow.holds Tryz.pinned (OpenSpec.ofChange keepBytesSpec)

/-- ITS FALSE NEIGHBOUR: 'it returns false'. Refute it at one input. -/
def keepBytesWrong : ChangeSpec := { name := "keepBytes", fn := fun _ => fun
  | [d] => { results := [.lit (.bool false)], args := [d] }
  | _ => none }
def KeepBytesWrongFalsely : Prop := keepBytesRow.holds Tryz.pinned (OpenSpec.ofChange keepBytesWrong)

/-- 'hostlerlaw14.KeepErrors': WHATEVER THE INPUT: true; the input reads as it did. -/
def keepErrorsSpec : ChangeSpec := { name := "keepErrors", fn := fun _ => fun
  | [d] => { results := [.lit (.bool true)], args := [d] }
  | _ => none }
def keepErrorsRow : OpenClaim := { program := "ytpjhjjdhibnciaagreatdoor", sum := "646bd61e4ff65390fad3b80fe30018e69dbcc559939e5f1b821cc1fda79991bd", func := "hostler/hostlerlaw14.KeepErrors", spec := "keepErrors", inPlace := ["math.archTrunc", "math.Float64bits", "math.Float64frombits"], recurses := true, named := ["internal/strconv.uint64pow10", "math/bits.deBruijn32tab", "math/bits.deBruijn64tab"], plainKeys := false, apart := false, laid := [("math/bits.deBruijn32tab", laid_math_bits_deBruijn32tab), ("math/bits.deBruijn64tab", laid_math_bits_deBruijn64tab), ("internal/strconv.uint64pow10", laid_internal_strconv_uint64pow10)] }
def KeepErrorsSaid : Prop := keepErrorsRow.holds Tryz.pinned (OpenSpec.ofChange keepErrorsSpec)

/-- ITS FALSE NEIGHBOUR: 'it returns false'. Refute it at one input. -/
def keepErrorsWrong : ChangeSpec := { name := "keepErrors", fn := fun _ => fun
  | [d] => { results := [.lit (.bool false)], args := [d] }
  | _ => none }
def KeepErrorsWrongFalsely : Prop := keepErrorsRow.holds Tryz.pinned (OpenSpec.ofChange keepErrorsWrong)

/-- 'hostlerlaw14.KeepOwn': WHATEVER THE INPUT: true; the input reads as it did. -/
def keepOwnSpec : ChangeSpec := { name := "keepOwn", fn := fun _ => fun
  | [d] => { results := [.lit (.bool true)], args := [d] }
  | _ => none }
def keepOwnRow : OpenClaim := { program := "ytpjhjjdhibnciaagreatdoor", sum := "646bd61e4ff65390fad3b80fe30018e69dbcc559939e5f1b821cc1fda79991bd", func := "hostler/hostlerlaw14.KeepOwn", spec := "keepOwn", inPlace := ["math.archTrunc", "math.Float64bits", "math.Float64frombits"], recurses := true, named := ["internal/strconv.uint64pow10", "math/bits.deBruijn32tab", "math/bits.deBruijn64tab"], plainKeys := false, apart := false, laid := [("math/bits.deBruijn32tab", laid_math_bits_deBruijn32tab), ("math/bits.deBruijn64tab", laid_math_bits_deBruijn64tab), ("internal/strconv.uint64pow10", laid_internal_strconv_uint64pow10)] }
def KeepOwnSaid : Prop := keepOwnRow.holds Tryz.pinned (OpenSpec.ofChange keepOwnSpec)

/-- ITS FALSE NEIGHBOUR: 'it returns false'. Refute it at one input. -/
def keepOwnWrong : ChangeSpec := { name := "keepOwn", fn := fun _ => fun
  | [d] => { results := [.lit (.bool false)], args := [d] }
  | _ => none }
def KeepOwnWrongFalsely : Prop := keepOwnRow.holds Tryz.pinned (OpenSpec.ofChange keepOwnWrong)

/-- 'hostlerlaw14.KeepCorrupt': WHATEVER THE INPUT: true; the input reads as it did. -/
def keepCorruptSpec : ChangeSpec := { name := "keepCorrupt", fn := fun _ => fun
  | [d1, d2] => { results := [.lit (.bool true)], args := [d1, d2] }
  | _ => none }
def keepCorruptRow : OpenClaim := { program := "ytpjhjjdhibnciaagreatdoor", sum := "646bd61e4ff65390fad3b80fe30018e69dbcc559939e5f1b821cc1fda79991bd", func := "hostler/hostlerlaw14.KeepCorrupt", spec := "keepCorrupt", inPlace := ["math.archTrunc", "math.Float64bits", "math.Float64frombits"], recurses := true, named := ["internal/strconv.uint64pow10", "math/bits.deBruijn32tab", "math/bits.deBruijn64tab"], plainKeys := false, apart := false, laid := [("math/bits.deBruijn32tab", laid_math_bits_deBruijn32tab), ("math/bits.deBruijn64tab", laid_math_bits_deBruijn64tab), ("internal/strconv.uint64pow10", laid_internal_strconv_uint64pow10)] }
def KeepCorruptSaid : Prop := keepCorruptRow.holds Tryz.pinned (OpenSpec.ofChange keepCorruptSpec)

/-- ITS FALSE NEIGHBOUR: 'it returns false'. Refute it at one input. -/
def keepCorruptWrong : ChangeSpec := { name := "keepCorrupt", fn := fun _ => fun
  | [d1, d2] => { results := [.lit (.bool false)], args := [d1, d2] }
  | _ => none }
def KeepCorruptWrongFalsely : Prop := keepCorruptRow.holds Tryz.pinned (OpenSpec.ofChange keepCorruptWrong)

/-- 'hostlerlaw14.KeepEpochs': WHATEVER THE INPUT: true; the input reads as it did. -/
def keepEpochsSpec : ChangeSpec := { name := "keepEpochs", fn := fun _ => fun
  | [d1, d2] => { results := [.lit (.bool true)], args := [d1, d2] }
  | _ => none }
def keepEpochsRow : OpenClaim := { program := "ytpjhjjdhibnciaagreatdoor", sum := "646bd61e4ff65390fad3b80fe30018e69dbcc559939e5f1b821cc1fda79991bd", func := "hostler/hostlerlaw14.KeepEpochs", spec := "keepEpochs", inPlace := ["math.archTrunc", "math.Float64bits", "math.Float64frombits"], recurses := true, named := ["internal/strconv.uint64pow10", "math/bits.deBruijn32tab", "math/bits.deBruijn64tab"], plainKeys := false, apart := false, laid := [("math/bits.deBruijn32tab", laid_math_bits_deBruijn32tab), ("math/bits.deBruijn64tab", laid_math_bits_deBruijn64tab), ("internal/strconv.uint64pow10", laid_internal_strconv_uint64pow10)] }
def KeepEpochsSaid : Prop := keepEpochsRow.holds Tryz.pinned (OpenSpec.ofChange keepEpochsSpec)

/-- ITS FALSE NEIGHBOUR: 'it returns false'. Refute it at one input. -/
def keepEpochsWrong : ChangeSpec := { name := "keepEpochs", fn := fun _ => fun
  | [d1, d2] => { results := [.lit (.bool false)], args := [d1, d2] }
  | _ => none }
def KeepEpochsWrongFalsely : Prop := keepEpochsRow.holds Tryz.pinned (OpenSpec.ofChange keepEpochsWrong)

/-- 'hostlertop.TopFuses': WHATEVER THE INPUT: true; the input reads as it did. -/
def topFusesSpec : ChangeSpec := { name := "topFuses", fn := fun _ => fun
  | [d1, d2, d3] => { results := [.lit (.bool true)], args := [d1, d2, d3] }
  | _ => none }
def topFusesRow : OpenClaim := { program := "ytpjhjjdhibnciaagreatdoor", sum := "646bd61e4ff65390fad3b80fe30018e69dbcc559939e5f1b821cc1fda79991bd", func := "hostler/hostlertop.TopFuses", spec := "topFuses", inPlace := ["math.archTrunc", "math.Float64bits", "math.Float64frombits", "slices.overlaps[hostler/bin.Box]"], unfollowed := true, recurses := true, named := ["internal/strconv.uint64pow10", "math/bits.deBruijn32tab", "math/bits.deBruijn64tab"], plainKeys := false, apart := false, laid := [("math/bits.deBruijn32tab", laid_math_bits_deBruijn32tab), ("math/bits.deBruijn64tab", laid_math_bits_deBruijn64tab), ("internal/strconv.uint64pow10", laid_internal_strconv_uint64pow10)] }
def TopFusesSaid : Prop := topFusesRow.holds Tryz.pinned (OpenSpec.ofChange topFusesSpec)

/-- ITS FALSE NEIGHBOUR: 'it returns false'. Refute it at one input. -/
def topFusesWrong : ChangeSpec := { name := "topFuses", fn := fun _ => fun
  | [d1, d2, d3] => { results := [.lit (.bool false)], args := [d1, d2, d3] }
  | _ => none }
def TopFusesWrongFalsely : Prop := topFusesRow.holds Tryz.pinned (OpenSpec.ofChange topFusesWrong)

/-- 'hostlertop.TopReports': WHATEVER THE INPUT: true; the input reads as it did. -/
def topReportsSpec : ChangeSpec := { name := "topReports", fn := fun _ => fun
  | [d1, d2] => { results := [.lit (.bool true)], args := [d1, d2] }
  | _ => none }
def topReportsRow : OpenClaim := { program := "ytpjhjjdhibnciaagreatdoor", sum := "646bd61e4ff65390fad3b80fe30018e69dbcc559939e5f1b821cc1fda79991bd", func := "hostler/hostlertop.TopReports", spec := "topReports", inPlace := ["math.archTrunc", "math.Float64bits", "math.Float64frombits", "slices.overlaps[hostler/bin.Box]"], unfollowed := true, recurses := true, named := ["internal/strconv.uint64pow10", "math/bits.deBruijn32tab", "math/bits.deBruijn64tab"], plainKeys := false, apart := false, laid := [("math/bits.deBruijn32tab", laid_math_bits_deBruijn32tab), ("math/bits.deBruijn64tab", laid_math_bits_deBruijn64tab), ("internal/strconv.uint64pow10", laid_internal_strconv_uint64pow10)] }
def TopReportsSaid : Prop := topReportsRow.holds Tryz.pinned (OpenSpec.ofChange topReportsSpec)

/-- ITS FALSE NEIGHBOUR: 'it returns false'. Refute it at one input. -/
def topReportsWrong : ChangeSpec := { name := "topReports", fn := fun _ => fun
  | [d1, d2] => { results := [.lit (.bool false)], args := [d1, d2] }
  | _ => none }
def TopReportsWrongFalsely : Prop := topReportsRow.holds Tryz.pinned (OpenSpec.ofChange topReportsWrong)

/-- 'hostlertop.TopGone': WHATEVER THE INPUT: true; the input reads as it did. -/
def topGoneSpec : ChangeSpec := { name := "topGone", fn := fun _ => fun
  | [d1, d2, d3, d4] => { results := [.lit (.bool true)], args := [d1, d2, d3, d4] }
  | _ => none }
def topGoneRow : OpenClaim := { program := "ytpjhjjdhibnciaagreatdoor", sum := "646bd61e4ff65390fad3b80fe30018e69dbcc559939e5f1b821cc1fda79991bd", func := "hostler/hostlertop.TopGone", spec := "topGone", inPlace := ["math.archTrunc", "math.Float64bits", "math.Float64frombits", "slices.overlaps[hostler/bin.Box]"], unfollowed := true, recurses := true, named := ["internal/strconv.uint64pow10", "math/bits.deBruijn32tab", "math/bits.deBruijn64tab"], plainKeys := false, apart := false, laid := [("math/bits.deBruijn32tab", laid_math_bits_deBruijn32tab), ("math/bits.deBruijn64tab", laid_math_bits_deBruijn64tab), ("internal/strconv.uint64pow10", laid_internal_strconv_uint64pow10)] }
def TopGoneSaid : Prop := topGoneRow.holds Tryz.pinned (OpenSpec.ofChange topGoneSpec)

/-- ITS FALSE NEIGHBOUR: 'it returns false'. Refute it at one input. -/
def topGoneWrong : ChangeSpec := { name := "topGone", fn := fun _ => fun
  | [d1, d2, d3, d4] => { results := [.lit (.bool false)], args := [d1, d2, d3, d4] }
  | _ => none }
def TopGoneWrongFalsely : Prop := topGoneRow.holds Tryz.pinned (OpenSpec.ofChange topGoneWrong)

/-- 'hostlerlaw19.AgentFull': WHATEVER THE INPUT: true; the input reads as it did. -/
def agentFullSpec : ChangeSpec := { name := "agentFull", fn := fun _ => fun
  | [d] => { results := [.lit (.bool true)], args := [d] }
  | _ => none }
def agentFullRow : OpenClaim := { program := "ytpjhjjdhibnciaagreatdoor", sum := "646bd61e4ff65390fad3b80fe30018e69dbcc559939e5f1b821cc1fda79991bd", func := "hostler/hostlerlaw19.AgentFull", spec := "agentFull", inPlace := ["math.archTrunc", "math.Float64bits", "math.Float64frombits", "slices.overlaps[hostler/bin.Box]"], unfollowed := true, recurses := true, named := ["internal/strconv.uint64pow10", "math/bits.deBruijn32tab", "math/bits.deBruijn64tab"], plainKeys := false, apart := false, laid := [("math/bits.deBruijn32tab", laid_math_bits_deBruijn32tab), ("math/bits.deBruijn64tab", laid_math_bits_deBruijn64tab), ("internal/strconv.uint64pow10", laid_internal_strconv_uint64pow10)] }
def AgentFullSaid : Prop := agentFullRow.holds Tryz.pinned (OpenSpec.ofChange agentFullSpec)

/-- ITS FALSE NEIGHBOUR: 'it returns false'. Refute it at one input. -/
def agentFullWrong : ChangeSpec := { name := "agentFull", fn := fun _ => fun
  | [d] => { results := [.lit (.bool false)], args := [d] }
  | _ => none }
def AgentFullWrongFalsely : Prop := agentFullRow.holds Tryz.pinned (OpenSpec.ofChange agentFullWrong)

/-- 'hostlerlaw19.AgentRuns': WHATEVER THE INPUT: true; the input reads as it did. -/
def agentRunsSpec : ChangeSpec := { name := "agentRuns", fn := fun _ => fun
  | [d1, d2] => { results := [.lit (.bool true)], args := [d1, d2] }
  | _ => none }
def agentRunsRow : OpenClaim := { program := "ytpjhjjdhibnciaagreatdoor", sum := "646bd61e4ff65390fad3b80fe30018e69dbcc559939e5f1b821cc1fda79991bd", func := "hostler/hostlerlaw19.AgentRuns", spec := "agentRuns", inPlace := ["math.archTrunc", "math.Float64bits", "math.Float64frombits", "slices.overlaps[hostler/bin.Box]"], unfollowed := true, recurses := true, named := ["internal/strconv.uint64pow10", "math/bits.deBruijn32tab", "math/bits.deBruijn64tab"], plainKeys := false, apart := false, laid := [("math/bits.deBruijn32tab", laid_math_bits_deBruijn32tab), ("math/bits.deBruijn64tab", laid_math_bits_deBruijn64tab), ("internal/strconv.uint64pow10", laid_internal_strconv_uint64pow10)] }
def AgentRunsSaid : Prop := agentRunsRow.holds Tryz.pinned (OpenSpec.ofChange agentRunsSpec)

/-- ITS FALSE NEIGHBOUR: 'it returns false'. Refute it at one input. -/
def agentRunsWrong : ChangeSpec := { name := "agentRuns", fn := fun _ => fun
  | [d1, d2] => { results := [.lit (.bool false)], args := [d1, d2] }
  | _ => none }
def AgentRunsWrongFalsely : Prop := agentRunsRow.holds Tryz.pinned (OpenSpec.ofChange agentRunsWrong)

/-- 'hostlerlaw20.WorldFuse': WHATEVER THE INPUT: true; the input reads as it did. -/
def worldFuseSpec : ChangeSpec := { name := "worldFuse", fn := fun _ => fun
  | [d1, d2] => { results := [.lit (.bool true)], args := [d1, d2] }
  | _ => none }
def worldFuseRow : OpenClaim := { program := "ytpjhjjdhibnciaagreatdoor", sum := "646bd61e4ff65390fad3b80fe30018e69dbcc559939e5f1b821cc1fda79991bd", func := "hostler/hostlerlaw20.WorldFuse", spec := "worldFuse", inPlace := ["math.archTrunc", "math.Float64bits", "math.Float64frombits", "slices.overlaps[hostler/bin.Box]"], unfollowed := true, recurses := true, named := ["internal/strconv.uint64pow10", "math/bits.deBruijn32tab", "math/bits.deBruijn64tab"], plainKeys := false, apart := false, laid := [("math/bits.deBruijn32tab", laid_math_bits_deBruijn32tab), ("math/bits.deBruijn64tab", laid_math_bits_deBruijn64tab), ("internal/strconv.uint64pow10", laid_internal_strconv_uint64pow10)] }
def WorldFuseSaid : Prop := worldFuseRow.holds Tryz.pinned (OpenSpec.ofChange worldFuseSpec)

/-- ITS FALSE NEIGHBOUR: 'it returns false'. Refute it at one input. -/
def worldFuseWrong : ChangeSpec := { name := "worldFuse", fn := fun _ => fun
  | [d1, d2] => { results := [.lit (.bool false)], args := [d1, d2] }
  | _ => none }
def WorldFuseWrongFalsely : Prop := worldFuseRow.holds Tryz.pinned (OpenSpec.ofChange worldFuseWrong)

/- THE SECOND FORM. 'bulk': how many values and letters a reading holds, each counted each time it is reached (what is shared counts as often as it is met; a slice's spare places count too). A statement '..UptoSaid' is the law's where the arguments, and the package variables that the reading takes, are together of bulk at most 1048576: NARROWER than '..Said'. Prove '..Said' where nothing that the law and all that it calls make is longer than what came in: it says more and counts as full. Else prove '..UptoSaid'. A law counts once. -/
mutual
def uptoBulk {H : Type} : DataW H → Nat
  | .lit (.string bytes) => bytes.length + 1
  | .lit _ => 1
  | .nil => 1
  | .ptr d => uptoBulk d + 1
  | .slice elems spare => uptoBulkAll elems + uptoBulkAll spare + 1
  | .agg parts => uptoBulkAll parts + 1
  | .iface _ d => uptoBulk d + 1
  | .map entries => uptoBulkEntries entries + 1
  | .held _ => 1
def uptoBulkAll {H : Type} : List (DataW H) → Nat
  | [] => 0
  | d :: r => uptoBulk d + uptoBulkAll r
def uptoBulkEntries {H : Type} : List (Lit × DataW H) → Nat
  | [] => 0
  | x :: r => uptoBulkEntry x + uptoBulkEntries r
def uptoBulkEntry {H : Type} : Lit × DataW H → Nat
  | (.string bytes, d) => bytes.length + uptoBulk d + 1
  | (_, d) => uptoBulk d + 1
 end
def uptoSmall : (H : Type) → List (DataW H) → Bool := fun _ ds => decide (uptoBulkAll ds ≤ 1048576)
def OpenSpec.upto (s : _root_.Go.ChangeSpec) : _root_.Go.OpenSpec := { _root_.Go.OpenSpec.ofChange s with cond := some uptoSmall }

/-- 'hostlerlaw14.KeepBytes', WHERE WHAT IT READS IS OF BULK AT MOST 1048576: true; the input reads as it did. -/
def keepBytesUptoRow : OpenClaim := { program := "ytpjhjjdhibnciaagreatdoor", sum := "646bd61e4ff65390fad3b80fe30018e69dbcc559939e5f1b821cc1fda79991bd", func := "hostler/hostlerlaw14.KeepBytes", spec := "keepBytes", inPlace := ["math.archTrunc", "math.Float64bits", "math.Float64frombits"], recurses := true, named := ["internal/strconv.uint64pow10", "math/bits.deBruijn32tab", "math/bits.deBruijn64tab"], plainKeys := false, apart := false, laid := [("math/bits.deBruijn32tab", laid_math_bits_deBruijn32tab), ("math/bits.deBruijn64tab", laid_math_bits_deBruijn64tab), ("internal/strconv.uint64pow10", laid_internal_strconv_uint64pow10)], narrowed := true }
def KeepBytesUptoSaid : Prop := keepBytesUptoRow.holds Tryz.pinned (OpenSpec.upto keepBytesSpec)

/-- 'hostlerlaw14.KeepErrors', WHERE WHAT IT READS IS OF BULK AT MOST 1048576: true; the input reads as it did. -/
def keepErrorsUptoRow : OpenClaim := { program := "ytpjhjjdhibnciaagreatdoor", sum := "646bd61e4ff65390fad3b80fe30018e69dbcc559939e5f1b821cc1fda79991bd", func := "hostler/hostlerlaw14.KeepErrors", spec := "keepErrors", inPlace := ["math.archTrunc", "math.Float64bits", "math.Float64frombits"], recurses := true, named := ["internal/strconv.uint64pow10", "math/bits.deBruijn32tab", "math/bits.deBruijn64tab"], plainKeys := false, apart := false, laid := [("math/bits.deBruijn32tab", laid_math_bits_deBruijn32tab), ("math/bits.deBruijn64tab", laid_math_bits_deBruijn64tab), ("internal/strconv.uint64pow10", laid_internal_strconv_uint64pow10)], narrowed := true }
def KeepErrorsUptoSaid : Prop := keepErrorsUptoRow.holds Tryz.pinned (OpenSpec.upto keepErrorsSpec)

/-- 'hostlerlaw14.KeepOwn', WHERE WHAT IT READS IS OF BULK AT MOST 1048576: true; the input reads as it did. -/
def keepOwnUptoRow : OpenClaim := { program := "ytpjhjjdhibnciaagreatdoor", sum := "646bd61e4ff65390fad3b80fe30018e69dbcc559939e5f1b821cc1fda79991bd", func := "hostler/hostlerlaw14.KeepOwn", spec := "keepOwn", inPlace := ["math.archTrunc", "math.Float64bits", "math.Float64frombits"], recurses := true, named := ["internal/strconv.uint64pow10", "math/bits.deBruijn32tab", "math/bits.deBruijn64tab"], plainKeys := false, apart := false, laid := [("math/bits.deBruijn32tab", laid_math_bits_deBruijn32tab), ("math/bits.deBruijn64tab", laid_math_bits_deBruijn64tab), ("internal/strconv.uint64pow10", laid_internal_strconv_uint64pow10)], narrowed := true }
def KeepOwnUptoSaid : Prop := keepOwnUptoRow.holds Tryz.pinned (OpenSpec.upto keepOwnSpec)

/-- 'hostlerlaw14.KeepCorrupt', WHERE WHAT IT READS IS OF BULK AT MOST 1048576: true; the input reads as it did. -/
def keepCorruptUptoRow : OpenClaim := { program := "ytpjhjjdhibnciaagreatdoor", sum := "646bd61e4ff65390fad3b80fe30018e69dbcc559939e5f1b821cc1fda79991bd", func := "hostler/hostlerlaw14.KeepCorrupt", spec := "keepCorrupt", inPlace := ["math.archTrunc", "math.Float64bits", "math.Float64frombits"], recurses := true, named := ["internal/strconv.uint64pow10", "math/bits.deBruijn32tab", "math/bits.deBruijn64tab"], plainKeys := false, apart := false, laid := [("math/bits.deBruijn32tab", laid_math_bits_deBruijn32tab), ("math/bits.deBruijn64tab", laid_math_bits_deBruijn64tab), ("internal/strconv.uint64pow10", laid_internal_strconv_uint64pow10)], narrowed := true }
def KeepCorruptUptoSaid : Prop := keepCorruptUptoRow.holds Tryz.pinned (OpenSpec.upto keepCorruptSpec)

/-- 'hostlerlaw14.KeepEpochs', WHERE WHAT IT READS IS OF BULK AT MOST 1048576: true; the input reads as it did. -/
def keepEpochsUptoRow : OpenClaim := { program := "ytpjhjjdhibnciaagreatdoor", sum := "646bd61e4ff65390fad3b80fe30018e69dbcc559939e5f1b821cc1fda79991bd", func := "hostler/hostlerlaw14.KeepEpochs", spec := "keepEpochs", inPlace := ["math.archTrunc", "math.Float64bits", "math.Float64frombits"], recurses := true, named := ["internal/strconv.uint64pow10", "math/bits.deBruijn32tab", "math/bits.deBruijn64tab"], plainKeys := false, apart := false, laid := [("math/bits.deBruijn32tab", laid_math_bits_deBruijn32tab), ("math/bits.deBruijn64tab", laid_math_bits_deBruijn64tab), ("internal/strconv.uint64pow10", laid_internal_strconv_uint64pow10)], narrowed := true }
def KeepEpochsUptoSaid : Prop := keepEpochsUptoRow.holds Tryz.pinned (OpenSpec.upto keepEpochsSpec)

/-- 'hostlertop.TopFuses', WHERE WHAT IT READS IS OF BULK AT MOST 1048576: true; the input reads as it did. -/
def topFusesUptoRow : OpenClaim := { program := "ytpjhjjdhibnciaagreatdoor", sum := "646bd61e4ff65390fad3b80fe30018e69dbcc559939e5f1b821cc1fda79991bd", func := "hostler/hostlertop.TopFuses", spec := "topFuses", inPlace := ["math.archTrunc", "math.Float64bits", "math.Float64frombits", "slices.overlaps[hostler/bin.Box]"], unfollowed := true, recurses := true, named := ["internal/strconv.uint64pow10", "math/bits.deBruijn32tab", "math/bits.deBruijn64tab"], plainKeys := false, apart := false, laid := [("math/bits.deBruijn32tab", laid_math_bits_deBruijn32tab), ("math/bits.deBruijn64tab", laid_math_bits_deBruijn64tab), ("internal/strconv.uint64pow10", laid_internal_strconv_uint64pow10)], narrowed := true }
def TopFusesUptoSaid : Prop := topFusesUptoRow.holds Tryz.pinned (OpenSpec.upto topFusesSpec)

/-- 'hostlertop.TopReports', WHERE WHAT IT READS IS OF BULK AT MOST 1048576: true; the input reads as it did. -/
def topReportsUptoRow : OpenClaim := { program := "ytpjhjjdhibnciaagreatdoor", sum := "646bd61e4ff65390fad3b80fe30018e69dbcc559939e5f1b821cc1fda79991bd", func := "hostler/hostlertop.TopReports", spec := "topReports", inPlace := ["math.archTrunc", "math.Float64bits", "math.Float64frombits", "slices.overlaps[hostler/bin.Box]"], unfollowed := true, recurses := true, named := ["internal/strconv.uint64pow10", "math/bits.deBruijn32tab", "math/bits.deBruijn64tab"], plainKeys := false, apart := false, laid := [("math/bits.deBruijn32tab", laid_math_bits_deBruijn32tab), ("math/bits.deBruijn64tab", laid_math_bits_deBruijn64tab), ("internal/strconv.uint64pow10", laid_internal_strconv_uint64pow10)], narrowed := true }
def TopReportsUptoSaid : Prop := topReportsUptoRow.holds Tryz.pinned (OpenSpec.upto topReportsSpec)

/-- 'hostlertop.TopGone', WHERE WHAT IT READS IS OF BULK AT MOST 1048576: true; the input reads as it did. -/
def topGoneUptoRow : OpenClaim := { program := "ytpjhjjdhibnciaagreatdoor", sum := "646bd61e4ff65390fad3b80fe30018e69dbcc559939e5f1b821cc1fda79991bd", func := "hostler/hostlertop.TopGone", spec := "topGone", inPlace := ["math.archTrunc", "math.Float64bits", "math.Float64frombits", "slices.overlaps[hostler/bin.Box]"], unfollowed := true, recurses := true, named := ["internal/strconv.uint64pow10", "math/bits.deBruijn32tab", "math/bits.deBruijn64tab"], plainKeys := false, apart := false, laid := [("math/bits.deBruijn32tab", laid_math_bits_deBruijn32tab), ("math/bits.deBruijn64tab", laid_math_bits_deBruijn64tab), ("internal/strconv.uint64pow10", laid_internal_strconv_uint64pow10)], narrowed := true }
def TopGoneUptoSaid : Prop := topGoneUptoRow.holds Tryz.pinned (OpenSpec.upto topGoneSpec)

/-- 'hostlerlaw19.AgentFull', WHERE WHAT IT READS IS OF BULK AT MOST 1048576: true; the input reads as it did. -/
def agentFullUptoRow : OpenClaim := { program := "ytpjhjjdhibnciaagreatdoor", sum := "646bd61e4ff65390fad3b80fe30018e69dbcc559939e5f1b821cc1fda79991bd", func := "hostler/hostlerlaw19.AgentFull", spec := "agentFull", inPlace := ["math.archTrunc", "math.Float64bits", "math.Float64frombits", "slices.overlaps[hostler/bin.Box]"], unfollowed := true, recurses := true, named := ["internal/strconv.uint64pow10", "math/bits.deBruijn32tab", "math/bits.deBruijn64tab"], plainKeys := false, apart := false, laid := [("math/bits.deBruijn32tab", laid_math_bits_deBruijn32tab), ("math/bits.deBruijn64tab", laid_math_bits_deBruijn64tab), ("internal/strconv.uint64pow10", laid_internal_strconv_uint64pow10)], narrowed := true }
def AgentFullUptoSaid : Prop := agentFullUptoRow.holds Tryz.pinned (OpenSpec.upto agentFullSpec)

/-- 'hostlerlaw19.AgentRuns', WHERE WHAT IT READS IS OF BULK AT MOST 1048576: true; the input reads as it did. -/
def agentRunsUptoRow : OpenClaim := { program := "ytpjhjjdhibnciaagreatdoor", sum := "646bd61e4ff65390fad3b80fe30018e69dbcc559939e5f1b821cc1fda79991bd", func := "hostler/hostlerlaw19.AgentRuns", spec := "agentRuns", inPlace := ["math.archTrunc", "math.Float64bits", "math.Float64frombits", "slices.overlaps[hostler/bin.Box]"], unfollowed := true, recurses := true, named := ["internal/strconv.uint64pow10", "math/bits.deBruijn32tab", "math/bits.deBruijn64tab"], plainKeys := false, apart := false, laid := [("math/bits.deBruijn32tab", laid_math_bits_deBruijn32tab), ("math/bits.deBruijn64tab", laid_math_bits_deBruijn64tab), ("internal/strconv.uint64pow10", laid_internal_strconv_uint64pow10)], narrowed := true }
def AgentRunsUptoSaid : Prop := agentRunsUptoRow.holds Tryz.pinned (OpenSpec.upto agentRunsSpec)

/-- 'hostlerlaw20.WorldFuse', WHERE WHAT IT READS IS OF BULK AT MOST 1048576: true; the input reads as it did. -/
def worldFuseUptoRow : OpenClaim := { program := "ytpjhjjdhibnciaagreatdoor", sum := "646bd61e4ff65390fad3b80fe30018e69dbcc559939e5f1b821cc1fda79991bd", func := "hostler/hostlerlaw20.WorldFuse", spec := "worldFuse", inPlace := ["math.archTrunc", "math.Float64bits", "math.Float64frombits", "slices.overlaps[hostler/bin.Box]"], unfollowed := true, recurses := true, named := ["internal/strconv.uint64pow10", "math/bits.deBruijn32tab", "math/bits.deBruijn64tab"], plainKeys := false, apart := false, laid := [("math/bits.deBruijn32tab", laid_math_bits_deBruijn32tab), ("math/bits.deBruijn64tab", laid_math_bits_deBruijn64tab), ("internal/strconv.uint64pow10", laid_internal_strconv_uint64pow10)], narrowed := true }
def WorldFuseUptoSaid : Prop := worldFuseUptoRow.holds Tryz.pinned (OpenSpec.upto worldFuseSpec)

end Rows
end Go.Proofs.YtpjhjjdhibnciaaGreatDoor
