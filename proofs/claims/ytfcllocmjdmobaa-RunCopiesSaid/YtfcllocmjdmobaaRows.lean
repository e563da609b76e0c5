/-
  No cell of these rows narrows 'for every input' (looked for: loops, veiled, ifaces, maps, wideKeys, modest, calm, conditions, laid).
  DERIVED. THE GIVEN ROWS OF THIS SEAT. 12 by the template 'for every input the law returns true; each argument reads behind the call as it read before'; 0 by the template 'total and deterministic' (their statements: YtfcllocmjdmobaaTotals.lean).
  GIVEN WITH THE SEED: the statements are not yours to turn. If you find one false, say at which input.
  Laid BY PROGRAM, IN A SANDBOX (cutbox-rows.mjs): the forced cells as the released guide's own fill.sh prints them over the translation 4595e1aec8ceb415… (all of the seat's roots in one cut). By AI agents, Wed Nov 11 2026. No macro, syntax, notation, axiom, sorry.
-/
import Derived.Test.YtfcllocmjdmobaaChecked
import GoSem.Claim
import GoSem.ClaimJoined
import GoSem.ClaimMapViews
import Derived.JoinedTies
import Derived.KernelRfl
namespace Go.Proofs.Ytfcllocmjdmobaa
/- THE CELL 'sum', in the pinned program and in every row, IS THE sha256 OF THE DUMP (.gsa) THAT YtfcllocmjdmobaaProg.lean LOADS. Nothing in Lean hashes anything: it is a label: what it is worth is what the hold of that sum in a sandbox is worth. -/
noncomputable def Try.pinned : Pinned := { name := "ytfcllocmjdmobaa", sum := "4595e1aec8ceb415e75433d524f7a7c67c17269ec5f9bd2b8a8143542d97573b", checked := Try.checked }
namespace Rows
def none {H : Type} : Left H := { results := [], args := [] }

/-- 'hostlerlaw12.RunCopies': WHATEVER THE INPUT: true; the input reads as it did. -/
def runCopiesSpec : ChangeSpec := { name := "runCopies", fn := fun _ => fun
  | [d1, d2] => { results := [.lit (.bool true)], args := [d1, d2] }
  | _ => none }
def runCopiesRow : OpenClaim := { program := "ytfcllocmjdmobaa", sum := "4595e1aec8ceb415e75433d524f7a7c67c17269ec5f9bd2b8a8143542d97573b", func := "hostler/hostlerlaw12.RunCopies", spec := "runCopies", plainKeys := false, apart := false }
def RunCopiesSaid : Prop := runCopiesRow.holds Try.pinned (OpenSpec.ofChange runCopiesSpec)

/-- ITS FALSE NEIGHBOUR: 'it returns false'. Refute it at one input. -/
def runCopiesWrong : ChangeSpec := { name := "runCopies", fn := fun _ => fun
  | [d1, d2] => { results := [.lit (.bool false)], args := [d1, d2] }
  | _ => none }
def RunCopiesWrongFalsely : Prop := runCopiesRow.holds Try.pinned (OpenSpec.ofChange runCopiesWrong)

/-- 'hostlerlaw12.RunPlays': WHATEVER THE INPUT: true; the input reads as it did. -/
def runPlaysSpec : ChangeSpec := { name := "runPlays", fn := fun _ => fun
  | [d1, d2, d3, d4] => { results := [.lit (.bool true)], args := [d1, d2, d3, d4] }
  | _ => none }
def runPlaysRow : OpenClaim := { program := "ytfcllocmjdmobaa", sum := "4595e1aec8ceb415e75433d524f7a7c67c17269ec5f9bd2b8a8143542d97573b", func := "hostler/hostlerlaw12.RunPlays", spec := "runPlays", plainKeys := false, apart := false }
def RunPlaysSaid : Prop := runPlaysRow.holds Try.pinned (OpenSpec.ofChange runPlaysSpec)

/-- ITS FALSE NEIGHBOUR: 'it returns false'. Refute it at one input. -/
def runPlaysWrong : ChangeSpec := { name := "runPlays", fn := fun _ => fun
  | [d1, d2, d3, d4] => { results := [.lit (.bool false)], args := [d1, d2, d3, d4] }
  | _ => none }
def RunPlaysWrongFalsely : Prop := runPlaysRow.holds Try.pinned (OpenSpec.ofChange runPlaysWrong)

/-- 'hostlerlaw12.RunWays': WHATEVER THE INPUT: true; the input reads as it did. -/
def runWaysSpec : ChangeSpec := { name := "runWays", fn := fun _ => fun
  | [d1, d2, d3] => { results := [.lit (.bool true)], args := [d1, d2, d3] }
  | _ => none }
def runWaysRow : OpenClaim := { program := "ytfcllocmjdmobaa", sum := "4595e1aec8ceb415e75433d524f7a7c67c17269ec5f9bd2b8a8143542d97573b", func := "hostler/hostlerlaw12.RunWays", spec := "runWays", plainKeys := false, apart := false }
def RunWaysSaid : Prop := runWaysRow.holds Try.pinned (OpenSpec.ofChange runWaysSpec)

/-- ITS FALSE NEIGHBOUR: 'it returns false'. Refute it at one input. -/
def runWaysWrong : ChangeSpec := { name := "runWays", fn := fun _ => fun
  | [d1, d2, d3] => { results := [.lit (.bool false)], args := [d1, d2, d3] }
  | _ => none }
def RunWaysWrongFalsely : Prop := runWaysRow.holds Try.pinned (OpenSpec.ofChange runWaysWrong)

/-- 'hostlerlaw16.CrewLate': WHATEVER THE INPUT: true; the input reads as it did. -/
def crewLateSpec : ChangeSpec := { name := "crewLate", fn := fun _ => fun
  | [d1, d2, d3] => { results := [.lit (.bool true)], args := [d1, d2, d3] }
  | _ => none }
def crewLateRow : OpenClaim := { program := "ytfcllocmjdmobaa", sum := "4595e1aec8ceb415e75433d524f7a7c67c17269ec5f9bd2b8a8143542d97573b", func := "hostler/hostlerlaw16.CrewLate", spec := "crewLate", plainKeys := false, apart := false }
def CrewLateSaid : Prop := crewLateRow.holds Try.pinned (OpenSpec.ofChange crewLateSpec)

/-- ITS FALSE NEIGHBOUR: 'it returns false'. Refute it at one input. -/
def crewLateWrong : ChangeSpec := { name := "crewLate", fn := fun _ => fun
  | [d1, d2, d3] => { results := [.lit (.bool false)], args := [d1, d2, d3] }
  | _ => none }
def CrewLateWrongFalsely : Prop := crewLateRow.holds Try.pinned (OpenSpec.ofChange crewLateWrong)

/-- 'hostlerlaw16.CrewPlays': WHATEVER THE INPUT: true; the input reads as it did. -/
def crewPlaysSpec : ChangeSpec := { name := "crewPlays", fn := fun _ => fun
  | [d1, d2] => { results := [.lit (.bool true)], args := [d1, d2] }
  | _ => none }
def crewPlaysRow : OpenClaim := { program := "ytfcllocmjdmobaa", sum := "4595e1aec8ceb415e75433d524f7a7c67c17269ec5f9bd2b8a8143542d97573b", func := "hostler/hostlerlaw16.CrewPlays", spec := "crewPlays", plainKeys := false, apart := false }
def CrewPlaysSaid : Prop := crewPlaysRow.holds Try.pinned (OpenSpec.ofChange crewPlaysSpec)

/-- ITS FALSE NEIGHBOUR: 'it returns false'. Refute it at one input. -/
def crewPlaysWrong : ChangeSpec := { name := "crewPlays", fn := fun _ => fun
  | [d1, d2] => { results := [.lit (.bool false)], args := [d1, d2] }
  | _ => none }
def CrewPlaysWrongFalsely : Prop := crewPlaysRow.holds Try.pinned (OpenSpec.ofChange crewPlaysWrong)

/-- 'hostlerlaw22.MasterAcks': WHATEVER THE INPUT: true; the input reads as it did. -/
def masterAcksSpec : ChangeSpec := { name := "masterAcks", fn := fun _ => fun
  | [d1, d2, d3] => { results := [.lit (.bool true)], args := [d1, d2, d3] }
  | _ => none }
def masterAcksRow : OpenClaim := { program := "ytfcllocmjdmobaa", sum := "4595e1aec8ceb415e75433d524f7a7c67c17269ec5f9bd2b8a8143542d97573b", func := "hostler/hostlerlaw22.MasterAcks", spec := "masterAcks", plainKeys := false, apart := false }
def MasterAcksSaid : Prop := masterAcksRow.holds Try.pinned (OpenSpec.ofChange masterAcksSpec)

/-- ITS FALSE NEIGHBOUR: 'it returns false'. Refute it at one input. -/
def masterAcksWrong : ChangeSpec := { name := "masterAcks", fn := fun _ => fun
  | [d1, d2, d3] => { results := [.lit (.bool false)], args := [d1, d2, d3] }
  | _ => none }
def MasterAcksWrongFalsely : Prop := masterAcksRow.holds Try.pinned (OpenSpec.ofChange masterAcksWrong)

/-- 'hostlerlaw22.MasterHears': WHATEVER THE INPUT: true; the input reads as it did. -/
def masterHearsSpec : ChangeSpec := { name := "masterHears", fn := fun _ => fun
  | [d1, d2, d3, d4] => { results := [.lit (.bool true)], args := [d1, d2, d3, d4] }
  | _ => none }
def masterHearsRow : OpenClaim := { program := "ytfcllocmjdmobaa", sum := "4595e1aec8ceb415e75433d524f7a7c67c17269ec5f9bd2b8a8143542d97573b", func := "hostler/hostlerlaw22.MasterHears", spec := "masterHears", plainKeys := false, apart := false }
def MasterHearsSaid : Prop := masterHearsRow.holds Try.pinned (OpenSpec.ofChange masterHearsSpec)

/-- ITS FALSE NEIGHBOUR: 'it returns false'. Refute it at one input. -/
def masterHearsWrong : ChangeSpec := { name := "masterHears", fn := fun _ => fun
  | [d1, d2, d3, d4] => { results := [.lit (.bool false)], args := [d1, d2, d3, d4] }
  | _ => none }
def MasterHearsWrongFalsely : Prop := masterHearsRow.holds Try.pinned (OpenSpec.ofChange masterHearsWrong)

/-- 'hostlerlaw22.MasterApart': WHATEVER THE INPUT: true; the input reads as it did. -/
def masterApartSpec : ChangeSpec := { name := "masterApart", fn := fun _ => fun
  | [d1, d2] => { results := [.lit (.bool true)], args := [d1, d2] }
  | _ => none }
def masterApartRow : OpenClaim := { program := "ytfcllocmjdmobaa", sum := "4595e1aec8ceb415e75433d524f7a7c67c17269ec5f9bd2b8a8143542d97573b", func := "hostler/hostlerlaw22.MasterApart", spec := "masterApart", plainKeys := false, apart := false }
def MasterApartSaid : Prop := masterApartRow.holds Try.pinned (OpenSpec.ofChange masterApartSpec)

/-- ITS FALSE NEIGHBOUR: 'it returns false'. Refute it at one input. -/
def masterApartWrong : ChangeSpec := { name := "masterApart", fn := fun _ => fun
  | [d1, d2] => { results := [.lit (.bool false)], args := [d1, d2] }
  | _ => none }
def MasterApartWrongFalsely : Prop := masterApartRow.holds Try.pinned (OpenSpec.ofChange masterApartWrong)

/-- 'hostlerlaw23.HandsWork': WHATEVER THE INPUT: true; the input reads as it did. -/
def handsWorkSpec : ChangeSpec := { name := "handsWork", fn := fun _ => fun
  | [d1, d2, d3] => { results := [.lit (.bool true)], args := [d1, d2, d3] }
  | _ => none }
def handsWorkRow : OpenClaim := { program := "ytfcllocmjdmobaa", sum := "4595e1aec8ceb415e75433d524f7a7c67c17269ec5f9bd2b8a8143542d97573b", func := "hostler/hostlerlaw23.HandsWork", spec := "handsWork", unfollowed := true, recurses := true, plainKeys := false, apart := false }
def HandsWorkSaid : Prop := handsWorkRow.holds Try.pinned (OpenSpec.ofChange handsWorkSpec)

/-- ITS FALSE NEIGHBOUR: 'it returns false'. Refute it at one input. -/
def handsWorkWrong : ChangeSpec := { name := "handsWork", fn := fun _ => fun
  | [d1, d2, d3] => { results := [.lit (.bool false)], args := [d1, d2, d3] }
  | _ => none }
def HandsWorkWrongFalsely : Prop := handsWorkRow.holds Try.pinned (OpenSpec.ofChange handsWorkWrong)

/-- 'hostlerlaw23.HandsApart': WHATEVER THE INPUT: true; the input reads as it did. -/
def handsApartSpec : ChangeSpec := { name := "handsApart", fn := fun _ => fun
  | [d] => { results := [.lit (.bool true)], args := [d] }
  | _ => none }
def handsApartRow : OpenClaim := { program := "ytfcllocmjdmobaa", sum := "4595e1aec8ceb415e75433d524f7a7c67c17269ec5f9bd2b8a8143542d97573b", func := "hostler/hostlerlaw23.HandsApart", spec := "handsApart", unfollowed := true, recurses := true, plainKeys := false, apart := false }
def HandsApartSaid : Prop := handsApartRow.holds Try.pinned (OpenSpec.ofChange handsApartSpec)

/-- ITS FALSE NEIGHBOUR: 'it returns false'. Refute it at one input. -/
def handsApartWrong : ChangeSpec := { name := "handsApart", fn := fun _ => fun
  | [d] => { results := [.lit (.bool false)], args := [d] }
  | _ => none }
def HandsApartWrongFalsely : Prop := handsApartRow.holds Try.pinned (OpenSpec.ofChange handsApartWrong)

/-- 'hostlerlaw23.HandsPlay': WHATEVER THE INPUT: true; the input reads as it did. -/
def handsPlaySpec : ChangeSpec := { name := "handsPlay", fn := fun _ => fun
  | [d1, d2, d3] => { results := [.lit (.bool true)], args := [d1, d2, d3] }
  | _ => none }
def handsPlayRow : OpenClaim := { program := "ytfcllocmjdmobaa", sum := "4595e1aec8ceb415e75433d524f7a7c67c17269ec5f9bd2b8a8143542d97573b", func := "hostler/hostlerlaw23.HandsPlay", spec := "handsPlay", unfollowed := true, recurses := true, plainKeys := false, apart := false }
def HandsPlaySaid : Prop := handsPlayRow.holds Try.pinned (OpenSpec.ofChange handsPlaySpec)

/-- ITS FALSE NEIGHBOUR: 'it returns false'. Refute it at one input. -/
def handsPlayWrong : ChangeSpec := { name := "handsPlay", fn := fun _ => fun
  | [d1, d2, d3] => { results := [.lit (.bool false)], args := [d1, d2, d3] }
  | _ => none }
def HandsPlayWrongFalsely : Prop := handsPlayRow.holds Try.pinned (OpenSpec.ofChange handsPlayWrong)

/-- 'hostlerlaw23.HandsHello': WHATEVER THE INPUT: true; the input reads as it did. -/
def handsHelloSpec : ChangeSpec := { name := "handsHello", fn := fun _ => fun
  | [d1, d2] => { results := [.lit (.bool true)], args := [d1, d2] }
  | _ => none }
def handsHelloRow : OpenClaim := { program := "ytfcllocmjdmobaa", sum := "4595e1aec8ceb415e75433d524f7a7c67c17269ec5f9bd2b8a8143542d97573b", func := "hostler/hostlerlaw23.HandsHello", spec := "handsHello", unfollowed := true, recurses := true, plainKeys := false, apart := false }
def HandsHelloSaid : Prop := handsHelloRow.holds Try.pinned (OpenSpec.ofChange handsHelloSpec)

/-- ITS FALSE NEIGHBOUR: 'it returns false'. Refute it at one input. -/
def handsHelloWrong : ChangeSpec := { name := "handsHello", fn := fun _ => fun
  | [d1, d2] => { results := [.lit (.bool false)], args := [d1, d2] }
  | _ => none }
def HandsHelloWrongFalsely : Prop := handsHelloRow.holds Try.pinned (OpenSpec.ofChange handsHelloWrong)

/- THE SECOND FORM. 'bulk': how many values and letters a reading holds, each counted each time it is reached (what is shared counts as often as it is met; a slice's spare places count too). A statement '..UptoSaid' is the law's where the arguments, and the package variables that the reading takes, are together of bulk at most 1048576: NARROWER than '..Said'. Prove '..Said' where nothing that the law and all that it calls make is longer than what came in: it says more and counts as full. Else prove '..UptoSaid'. A law counts once. -/
mutual
def uptoBulk {H : Type} : DataW H → Nat
  | .lit (.string bytes) => bytes.length + 1
  | .lit _ => 1
  | .nil => 1
  | .ptr d => uptoBulk d + 1
  | .slice elems spare => uptoBulkAll elems + uptoBulkAll spare + 1
  | .agg parts => uptoBulkAll parts + 1
  | .iface _ d => uptoBulk d + 1
  | .map entries => uptoBulkEntries entries + 1
  | .held _ => 1
def uptoBulkAll {H : Type} : List (DataW H) → Nat
  | [] => 0
  | d :: r => uptoBulk d + uptoBulkAll r
def uptoBulkEntries {H : Type} : List (Lit × DataW H) → Nat
  | [] => 0
  | x :: r => uptoBulkEntry x + uptoBulkEntries r
def uptoBulkEntry {H : Type} : Lit × DataW H → Nat
  | (.string bytes, d) => bytes.length + uptoBulk d + 1
  | (_, d) => uptoBulk d + 1
 end
def uptoSmall : (H : Type) → List (DataW H) → Bool := fun _ ds => decide (uptoBulkAll ds ≤ 1048576)
def OpenSpec.upto (s : _root_.Go.ChangeSpec) : _root_.Go.OpenSpec := { _root_.Go.OpenSpec.ofChange s with cond := some uptoSmall }

/-- 'hostlerlaw12.RunCopies', WHERE WHAT IT READS IS OF BULK AT MOST 1048576: true; the input reads as it did. -/
def runCopiesUptoRow : OpenClaim := { program := "ytfcllocmjdmobaa", sum := "4595e1aec8ceb415e75433d524f7a7c67c17269ec5f9bd2b8a8143542d97573b", func := "hostler/hostlerlaw12.RunCopies", spec := "runCopies", plainKeys := false, apart := false, narrowed := true }
def RunCopiesUptoSaid : Prop := runCopiesUptoRow.holds Try.pinned (OpenSpec.upto runCopiesSpec)

/-- 'hostlerlaw12.RunPlays', WHERE WHAT IT READS IS OF BULK AT MOST 1048576: true; the input reads as it did. -/
def runPlaysUptoRow : OpenClaim := { program := "ytfcllocmjdmobaa", sum := "4595e1aec8ceb415e75433d524f7a7c67c17269ec5f9bd2b8a8143542d97573b", func := "hostler/hostlerlaw12.RunPlays", spec := "runPlays", plainKeys := false, apart := false, narrowed := true }
def RunPlaysUptoSaid : Prop := runPlaysUptoRow.holds Try.pinned (OpenSpec.upto runPlaysSpec)

/-- 'hostlerlaw12.RunWays', WHERE WHAT IT READS IS OF BULK AT MOST 1048576: true; the input reads as it did. -/
def runWaysUptoRow : OpenClaim := { program := "ytfcllocmjdmobaa", sum := "4595e1aec8ceb415e75433d524f7a7c67c17269ec5f9bd2b8a8143542d97573b", func := "hostler/hostlerlaw12.RunWays", spec := "runWays", plainKeys := false, apart := false, narrowed := true }
def RunWaysUptoSaid : Prop := runWaysUptoRow.holds Try.pinned (OpenSpec.upto runWaysSpec)

/-- 'hostlerlaw16.CrewLate', WHERE WHAT IT READS IS OF BULK AT MOST 1048576: true; the input reads as it did. -/
def crewLateUptoRow : OpenClaim := { program := "ytfcllocmjdmobaa", sum := "4595e1aec8ceb415e75433d524f7a7c67c17269ec5f9bd2b8a8143542d97573b", func := "hostler/hostlerlaw16.CrewLate", spec := "crewLate", plainKeys := false, apart := false, narrowed := true }
def CrewLateUptoSaid : Prop := crewLateUptoRow.holds Try.pinned (OpenSpec.upto crewLateSpec)

/-- 'hostlerlaw16.CrewPlays', WHERE WHAT IT READS IS OF BULK AT MOST 1048576: true; the input reads as it did. -/
def crewPlaysUptoRow : OpenClaim := { program := "ytfcllocmjdmobaa", sum := "4595e1aec8ceb415e75433d524f7a7c67c17269ec5f9bd2b8a8143542d97573b", func := "hostler/hostlerlaw16.CrewPlays", spec := "crewPlays", plainKeys := false, apart := false, narrowed := true }
def CrewPlaysUptoSaid : Prop := crewPlaysUptoRow.holds Try.pinned (OpenSpec.upto crewPlaysSpec)

/-- 'hostlerlaw22.MasterAcks', WHERE WHAT IT READS IS OF BULK AT MOST 1048576: true; the input reads as it did. -/
def masterAcksUptoRow : OpenClaim := { program := "ytfcllocmjdmobaa", sum := "4595e1aec8ceb415e75433d524f7a7c67c17269ec5f9bd2b8a8143542d97573b", func := "hostler/hostlerlaw22.MasterAcks", spec := "masterAcks", plainKeys := false, apart := false, narrowed := true }
def MasterAcksUptoSaid : Prop := masterAcksUptoRow.holds Try.pinned (OpenSpec.upto masterAcksSpec)

/-- 'hostlerlaw22.MasterHears', WHERE WHAT IT READS IS OF BULK AT MOST 1048576: true; the input reads as it did. -/
def masterHearsUptoRow : OpenClaim := { program := "ytfcllocmjdmobaa", sum := "4595e1aec8ceb415e75433d524f7a7c67c17269ec5f9bd2b8a8143542d97573b", func := "hostler/hostlerlaw22.MasterHears", spec := "masterHears", plainKeys := false, apart := false, narrowed := true }
def MasterHearsUptoSaid : Prop := masterHearsUptoRow.holds Try.pinned (OpenSpec.upto masterHearsSpec)

/-- 'hostlerlaw22.MasterApart', WHERE WHAT IT READS IS OF BULK AT MOST 1048576: true; the input reads as it did. -/
def masterApartUptoRow : OpenClaim := { program := "ytfcllocmjdmobaa", sum := "4595e1aec8ceb415e75433d524f7a7c67c17269ec5f9bd2b8a8143542d97573b", func := "hostler/hostlerlaw22.MasterApart", spec := "masterApart", plainKeys := false, apart := false, narrowed := true }
def MasterApartUptoSaid : Prop := masterApartUptoRow.holds Try.pinned (OpenSpec.upto masterApartSpec)

/-- 'hostlerlaw23.HandsWork', WHERE WHAT IT READS IS OF BULK AT MOST 1048576: true; the input reads as it did. -/
def handsWorkUptoRow : OpenClaim := { program := "ytfcllocmjdmobaa", sum := "4595e1aec8ceb415e75433d524f7a7c67c17269ec5f9bd2b8a8143542d97573b", func := "hostler/hostlerlaw23.HandsWork", spec := "handsWork", unfollowed := true, recurses := true, plainKeys := false, apart := false, narrowed := true }
def HandsWorkUptoSaid : Prop := handsWorkUptoRow.holds Try.pinned (OpenSpec.upto handsWorkSpec)

/-- 'hostlerlaw23.HandsApart', WHERE WHAT IT READS IS OF BULK AT MOST 1048576: true; the input reads as it did. -/
def handsApartUptoRow : OpenClaim := { program := "ytfcllocmjdmobaa", sum := "4595e1aec8ceb415e75433d524f7a7c67c17269ec5f9bd2b8a8143542d97573b", func := "hostler/hostlerlaw23.HandsApart", spec := "handsApart", unfollowed := true, recurses := true, plainKeys := false, apart := false, narrowed := true }
def HandsApartUptoSaid : Prop := handsApartUptoRow.holds Try.pinned (OpenSpec.upto handsApartSpec)

/-- 'hostlerlaw23.HandsPlay', WHERE WHAT IT READS IS OF BULK AT MOST 1048576: true; the input reads as it did. -/
def handsPlayUptoRow : OpenClaim := { program := "ytfcllocmjdmobaa", sum := "4595e1aec8ceb415e75433d524f7a7c67c17269ec5f9bd2b8a8143542d97573b", func := "hostler/hostlerlaw23.HandsPlay", spec := "handsPlay", unfollowed := true, recurses := true, plainKeys := false, apart := false, narrowed := true }
def HandsPlayUptoSaid : Prop := handsPlayUptoRow.holds Try.pinned (OpenSpec.upto handsPlaySpec)

/-- 'hostlerlaw23.HandsHello', WHERE WHAT IT READS IS OF BULK AT MOST 1048576: true; the input reads as it did. -/
def handsHelloUptoRow : OpenClaim := { program := "ytfcllocmjdmobaa", sum := "4595e1aec8ceb415e75433d524f7a7c67c17269ec5f9bd2b8a8143542d97573b", func := "hostler/hostlerlaw23.HandsHello", spec := "handsHello", unfollowed := true, recurses := true, plainKeys := false, apart := false, narrowed := true }
def HandsHelloUptoSaid : Prop := handsHelloUptoRow.holds Try.pinned (OpenSpec.upto handsHelloSpec)

end Rows
end Go.Proofs.Ytfcllocmjdmobaa
