/-
  No cell of these rows narrows 'for every input' (looked for: loops, veiled, ifaces, maps, wideKeys, modest, calm, conditions, laid).
  DERIVED. THE GIVEN ROWS OF THIS SEAT. 9 by the template 'for every input the law returns true; each argument reads behind the call as it read before'; 0 by the template 'total and deterministic' (their statements: YtfibgjognhimmaaTotals.lean).
  GIVEN WITH THE SEED: the statements are not yours to turn. If you find one false, say at which input.
  Laid BY PROGRAM, IN A SANDBOX (cutbox-rows.mjs): the forced cells as the released guide's own fill.sh prints them over the translation 3f926a04e54f0967… (all of the seat's roots in one cut). By AI agents, Wed Nov 11 2026. No macro, syntax, notation, axiom, sorry.
-/
import Derived.Test.YtfibgjognhimmaaChecked
import GoSem.Claim
import GoSem.ClaimJoined
import GoSem.ClaimMapViews
import Derived.JoinedTies
import Derived.KernelRfl
namespace Go.Proofs.Ytfibgjognhimmaa
/- THE CELL 'sum', in the pinned program and in every row, IS THE sha256 OF THE DUMP (.gsa) THAT YtfibgjognhimmaaProg.lean LOADS. Nothing in Lean hashes anything: it is a label: what it is worth is what the hold of that sum in a sandbox is worth. -/
noncomputable def Try.pinned : Pinned := { name := "ytfibgjognhimmaa", sum := "3f926a04e54f096788fa2969d979258076aef03aaf0897ce1bb4d2c9656b3925", checked := Try.checked }
namespace Rows
def none {H : Type} : Left H := { results := [], args := [] }

/-- 'hostlerlaw05.DiskNames': WHATEVER THE INPUT: true; the input reads as it did. -/
def diskNamesSpec : ChangeSpec := { name := "diskNames", fn := fun _ => fun
  | [d1, d2] => { results := [.lit (.bool true)], args := [d1, d2] }
  | _ => none }
def diskNamesRow : OpenClaim := { program := "ytfibgjognhimmaa", sum := "3f926a04e54f096788fa2969d979258076aef03aaf0897ce1bb4d2c9656b3925", func := "hostler/hostlerlaw05.DiskNames", spec := "diskNames", recurses := true, plainKeys := false, apart := false }
def DiskNamesSaid : Prop := diskNamesRow.holds Try.pinned (OpenSpec.ofChange diskNamesSpec)

/-- ITS FALSE NEIGHBOUR: 'it returns false'. Refute it at one input. -/
def diskNamesWrong : ChangeSpec := { name := "diskNames", fn := fun _ => fun
  | [d1, d2] => { results := [.lit (.bool false)], args := [d1, d2] }
  | _ => none }
def DiskNamesWrongFalsely : Prop := diskNamesRow.holds Try.pinned (OpenSpec.ofChange diskNamesWrong)

/-- 'hostlerlaw05.DiskFuse': WHATEVER THE INPUT: true; the input reads as it did. -/
def diskFuseSpec : ChangeSpec := { name := "diskFuse", fn := fun _ => fun
  | [d1, d2] => { results := [.lit (.bool true)], args := [d1, d2] }
  | _ => none }
def diskFuseRow : OpenClaim := { program := "ytfibgjognhimmaa", sum := "3f926a04e54f096788fa2969d979258076aef03aaf0897ce1bb4d2c9656b3925", func := "hostler/hostlerlaw05.DiskFuse", spec := "diskFuse", recurses := true, plainKeys := false, apart := false }
def DiskFuseSaid : Prop := diskFuseRow.holds Try.pinned (OpenSpec.ofChange diskFuseSpec)

/-- ITS FALSE NEIGHBOUR: 'it returns false'. Refute it at one input. -/
def diskFuseWrong : ChangeSpec := { name := "diskFuse", fn := fun _ => fun
  | [d1, d2] => { results := [.lit (.bool false)], args := [d1, d2] }
  | _ => none }
def DiskFuseWrongFalsely : Prop := diskFuseRow.holds Try.pinned (OpenSpec.ofChange diskFuseWrong)

/-- 'hostlerlaw07.AtomicCleans': WHATEVER THE INPUT: true; the input reads as it did. -/
def atomicCleansSpec : ChangeSpec := { name := "atomicCleans", fn := fun _ => fun
  | [d1, d2, d3] => { results := [.lit (.bool true)], args := [d1, d2, d3] }
  | _ => none }
def atomicCleansRow : OpenClaim := { program := "ytfibgjognhimmaa", sum := "3f926a04e54f096788fa2969d979258076aef03aaf0897ce1bb4d2c9656b3925", func := "hostler/hostlerlaw07.AtomicCleans", spec := "atomicCleans", recurses := true, plainKeys := false, apart := false }
def AtomicCleansSaid : Prop := atomicCleansRow.holds Try.pinned (OpenSpec.ofChange atomicCleansSpec)

/-- ITS FALSE NEIGHBOUR: 'it returns false'. Refute it at one input. -/
def atomicCleansWrong : ChangeSpec := { name := "atomicCleans", fn := fun _ => fun
  | [d1, d2, d3] => { results := [.lit (.bool false)], args := [d1, d2, d3] }
  | _ => none }
def AtomicCleansWrongFalsely : Prop := atomicCleansRow.holds Try.pinned (OpenSpec.ofChange atomicCleansWrong)

/-- 'hostlerlaw07.AtomicFull': WHATEVER THE INPUT: true; the input reads as it did. -/
def atomicFullSpec : ChangeSpec := { name := "atomicFull", fn := fun _ => fun
  | [d1, d2, d3] => { results := [.lit (.bool true)], args := [d1, d2, d3] }
  | _ => none }
def atomicFullRow : OpenClaim := { program := "ytfibgjognhimmaa", sum := "3f926a04e54f096788fa2969d979258076aef03aaf0897ce1bb4d2c9656b3925", func := "hostler/hostlerlaw07.AtomicFull", spec := "atomicFull", recurses := true, plainKeys := false, apart := false }
def AtomicFullSaid : Prop := atomicFullRow.holds Try.pinned (OpenSpec.ofChange atomicFullSpec)

/-- ITS FALSE NEIGHBOUR: 'it returns false'. Refute it at one input. -/
def atomicFullWrong : ChangeSpec := { name := "atomicFull", fn := fun _ => fun
  | [d1, d2, d3] => { results := [.lit (.bool false)], args := [d1, d2, d3] }
  | _ => none }
def AtomicFullWrongFalsely : Prop := atomicFullRow.holds Try.pinned (OpenSpec.ofChange atomicFullWrong)

/-- 'hostlerlaw12.RunPlays': WHATEVER THE INPUT: true; the input reads as it did. -/
def runPlaysSpec : ChangeSpec := { name := "runPlays", fn := fun _ => fun
  | [d1, d2, d3, d4] => { results := [.lit (.bool true)], args := [d1, d2, d3, d4] }
  | _ => none }
def runPlaysRow : OpenClaim := { program := "ytfibgjognhimmaa", sum := "3f926a04e54f096788fa2969d979258076aef03aaf0897ce1bb4d2c9656b3925", func := "hostler/hostlerlaw12.RunPlays", spec := "runPlays", plainKeys := false, apart := false }
def RunPlaysSaid : Prop := runPlaysRow.holds Try.pinned (OpenSpec.ofChange runPlaysSpec)

/-- ITS FALSE NEIGHBOUR: 'it returns false'. Refute it at one input. -/
def runPlaysWrong : ChangeSpec := { name := "runPlays", fn := fun _ => fun
  | [d1, d2, d3, d4] => { results := [.lit (.bool false)], args := [d1, d2, d3, d4] }
  | _ => none }
def RunPlaysWrongFalsely : Prop := runPlaysRow.holds Try.pinned (OpenSpec.ofChange runPlaysWrong)

/-- 'hostlerlaw15.BinDelays': WHATEVER THE INPUT: true; the input reads as it did. -/
def binDelaysSpec : ChangeSpec := { name := "binDelays", fn := fun _ => fun
  | [d1, d2, d3, d4] => { results := [.lit (.bool true)], args := [d1, d2, d3, d4] }
  | _ => none }
def binDelaysRow : OpenClaim := { program := "ytfibgjognhimmaa", sum := "3f926a04e54f096788fa2969d979258076aef03aaf0897ce1bb4d2c9656b3925", func := "hostler/hostlerlaw15.BinDelays", spec := "binDelays", plainKeys := false, apart := false }
def BinDelaysSaid : Prop := binDelaysRow.holds Try.pinned (OpenSpec.ofChange binDelaysSpec)

/-- ITS FALSE NEIGHBOUR: 'it returns false'. Refute it at one input. -/
def binDelaysWrong : ChangeSpec := { name := "binDelays", fn := fun _ => fun
  | [d1, d2, d3, d4] => { results := [.lit (.bool false)], args := [d1, d2, d3, d4] }
  | _ => none }
def BinDelaysWrongFalsely : Prop := binDelaysRow.holds Try.pinned (OpenSpec.ofChange binDelaysWrong)

/-- 'hostlerlaw22.MasterAcks': WHATEVER THE INPUT: true; the input reads as it did. -/
def masterAcksSpec : ChangeSpec := { name := "masterAcks", fn := fun _ => fun
  | [d1, d2, d3] => { results := [.lit (.bool true)], args := [d1, d2, d3] }
  | _ => none }
def masterAcksRow : OpenClaim := { program := "ytfibgjognhimmaa", sum := "3f926a04e54f096788fa2969d979258076aef03aaf0897ce1bb4d2c9656b3925", func := "hostler/hostlerlaw22.MasterAcks", spec := "masterAcks", plainKeys := false, apart := false }
def MasterAcksSaid : Prop := masterAcksRow.holds Try.pinned (OpenSpec.ofChange masterAcksSpec)

/-- ITS FALSE NEIGHBOUR: 'it returns false'. Refute it at one input. -/
def masterAcksWrong : ChangeSpec := { name := "masterAcks", fn := fun _ => fun
  | [d1, d2, d3] => { results := [.lit (.bool false)], args := [d1, d2, d3] }
  | _ => none }
def MasterAcksWrongFalsely : Prop := masterAcksRow.holds Try.pinned (OpenSpec.ofChange masterAcksWrong)

/-- 'hostlerlaw22.MasterApart': WHATEVER THE INPUT: true; the input reads as it did. -/
def masterApartSpec : ChangeSpec := { name := "masterApart", fn := fun _ => fun
  | [d1, d2] => { results := [.lit (.bool true)], args := [d1, d2] }
  | _ => none }
def masterApartRow : OpenClaim := { program := "ytfibgjognhimmaa", sum := "3f926a04e54f096788fa2969d979258076aef03aaf0897ce1bb4d2c9656b3925", func := "hostler/hostlerlaw22.MasterApart", spec := "masterApart", plainKeys := false, apart := false }
def MasterApartSaid : Prop := masterApartRow.holds Try.pinned (OpenSpec.ofChange masterApartSpec)

/-- ITS FALSE NEIGHBOUR: 'it returns false'. Refute it at one input. -/
def masterApartWrong : ChangeSpec := { name := "masterApart", fn := fun _ => fun
  | [d1, d2] => { results := [.lit (.bool false)], args := [d1, d2] }
  | _ => none }
def MasterApartWrongFalsely : Prop := masterApartRow.holds Try.pinned (OpenSpec.ofChange masterApartWrong)

/-- 'hostlerlaw23.HandsHello': WHATEVER THE INPUT: true; the input reads as it did. -/
def handsHelloSpec : ChangeSpec := { name := "handsHello", fn := fun _ => fun
  | [d1, d2] => { results := [.lit (.bool true)], args := [d1, d2] }
  | _ => none }
def handsHelloRow : OpenClaim := { program := "ytfibgjognhimmaa", sum := "3f926a04e54f096788fa2969d979258076aef03aaf0897ce1bb4d2c9656b3925", func := "hostler/hostlerlaw23.HandsHello", spec := "handsHello", unfollowed := true, recurses := true, plainKeys := false, apart := false }
def HandsHelloSaid : Prop := handsHelloRow.holds Try.pinned (OpenSpec.ofChange handsHelloSpec)

/-- ITS FALSE NEIGHBOUR: 'it returns false'. Refute it at one input. -/
def handsHelloWrong : ChangeSpec := { name := "handsHello", fn := fun _ => fun
  | [d1, d2] => { results := [.lit (.bool false)], args := [d1, d2] }
  | _ => none }
def HandsHelloWrongFalsely : Prop := handsHelloRow.holds Try.pinned (OpenSpec.ofChange handsHelloWrong)

/- THE SECOND FORM. 'bulk': how many values and letters a reading holds, each counted each time it is reached (what is shared counts as often as it is met; a slice's spare places count too). A statement '..UptoSaid' is the law's where the arguments, and the package variables that the reading takes, are together of bulk at most 1048576: NARROWER than '..Said'. Prove '..Said' where nothing that the law and all that it calls make is longer than what came in: it says more and counts as full. Else prove '..UptoSaid'. A law counts once. -/
mutual
def uptoBulk {H : Type} : DataW H → Nat
  | .lit (.string bytes) => bytes.length + 1
  | .lit _ => 1
  | .nil => 1
  | .ptr d => uptoBulk d + 1
  | .slice elems spare => uptoBulkAll elems + uptoBulkAll spare + 1
  | .agg parts => uptoBulkAll parts + 1
  | .iface _ d => uptoBulk d + 1
  | .map entries => uptoBulkEntries entries + 1
  | .held _ => 1
def uptoBulkAll {H : Type} : List (DataW H) → Nat
  | [] => 0
  | d :: r => uptoBulk d + uptoBulkAll r
def uptoBulkEntries {H : Type} : List (Lit × DataW H) → Nat
  | [] => 0
  | x :: r => uptoBulkEntry x + uptoBulkEntries r
def uptoBulkEntry {H : Type} : Lit × DataW H → Nat
  | (.string bytes, d) => bytes.length + uptoBulk d + 1
  | (_, d) => uptoBulk d + 1
 end
def uptoSmall : (H : Type) → List (DataW H) → Bool := fun _ ds => decide (uptoBulkAll ds ≤ 1048576)
def OpenSpec.upto (s : _root_.Go.ChangeSpec) : _root_.Go.OpenSpec := { _root_.Go.OpenSpec.ofChange s with cond := some uptoSmall }

/-- 'hostlerlaw05.DiskNames', WHERE WHAT IT READS IS OF BULK AT MOST 1048576: true; the input reads as it did. -/
def diskNamesUptoRow : OpenClaim := { program := "ytfibgjognhimmaa", sum := "3f926a04e54f096788fa2969d979258076aef03aaf0897ce1bb4d2c9656b3925", func := "hostler/hostlerlaw05.DiskNames", spec := "diskNames", recurses := true, plainKeys := false, apart := false, narrowed := true }
def DiskNamesUptoSaid : Prop := diskNamesUptoRow.holds Try.pinned (OpenSpec.upto diskNamesSpec)

/-- 'hostlerlaw05.DiskFuse', WHERE WHAT IT READS IS OF BULK AT MOST 1048576: true; the input reads as it did. -/
def diskFuseUptoRow : OpenClaim := { program := "ytfibgjognhimmaa", sum := "3f926a04e54f096788fa2969d979258076aef03aaf0897ce1bb4d2c9656b3925", func := "hostler/hostlerlaw05.DiskFuse", spec := "diskFuse", recurses := true, plainKeys := false, apart := false, narrowed := true }
def DiskFuseUptoSaid : Prop := diskFuseUptoRow.holds Try.pinned (OpenSpec.upto diskFuseSpec)

/-- 'hostlerlaw07.AtomicCleans', WHERE WHAT IT READS IS OF BULK AT MOST 1048576: true; the input reads as it did. -/
def atomicCleansUptoRow : OpenClaim := { program := "ytfibgjognhimmaa", sum := "3f926a04e54f096788fa2969d979258076aef03aaf0897ce1bb4d2c9656b3925", func := "hostler/hostlerlaw07.AtomicCleans", spec := "atomicCleans", recurses := true, plainKeys := false, apart := false, narrowed := true }
def AtomicCleansUptoSaid : Prop := atomicCleansUptoRow.holds Try.pinned (OpenSpec.upto atomicCleansSpec)

/-- 'hostlerlaw07.AtomicFull', WHERE WHAT IT READS IS OF BULK AT MOST 1048576: true; the input reads as it did. -/
def atomicFullUptoRow : OpenClaim := { program := "ytfibgjognhimmaa", sum := "3f926a04e54f096788fa2969d979258076aef03aaf0897ce1bb4d2c9656b3925", func := "hostler/hostlerlaw07.AtomicFull", spec := "atomicFull", recurses := true, plainKeys := false, apart := false, narrowed := true }
def AtomicFullUptoSaid : Prop := atomicFullUptoRow.holds Try.pinned (OpenSpec.upto atomicFullSpec)

/-- 'hostlerlaw12.RunPlays', WHERE WHAT IT READS IS OF BULK AT MOST 1048576: true; the input reads as it did. -/
def runPlaysUptoRow : OpenClaim := { program := "ytfibgjognhimmaa", sum := "3f926a04e54f096788fa2969d979258076aef03aaf0897ce1bb4d2c9656b3925", func := "hostler/hostlerlaw12.RunPlays", spec := "runPlays", plainKeys := false, apart := false, narrowed := true }
def RunPlaysUptoSaid : Prop := runPlaysUptoRow.holds Try.pinned (OpenSpec.upto runPlaysSpec)

/-- 'hostlerlaw15.BinDelays', WHERE WHAT IT READS IS OF BULK AT MOST 1048576: true; the input reads as it did. -/
def binDelaysUptoRow : OpenClaim := { program := "ytfibgjognhimmaa", sum := "3f926a04e54f096788fa2969d979258076aef03aaf0897ce1bb4d2c9656b3925", func := "hostler/hostlerlaw15.BinDelays", spec := "binDelays", plainKeys := false, apart := false, narrowed := true }
def BinDelaysUptoSaid : Prop := binDelaysUptoRow.holds Try.pinned (OpenSpec.upto binDelaysSpec)

/-- 'hostlerlaw22.MasterAcks', WHERE WHAT IT READS IS OF BULK AT MOST 1048576: true; the input reads as it did. -/
def masterAcksUptoRow : OpenClaim := { program := "ytfibgjognhimmaa", sum := "3f926a04e54f096788fa2969d979258076aef03aaf0897ce1bb4d2c9656b3925", func := "hostler/hostlerlaw22.MasterAcks", spec := "masterAcks", plainKeys := false, apart := false, narrowed := true }
def MasterAcksUptoSaid : Prop := masterAcksUptoRow.holds Try.pinned (OpenSpec.upto masterAcksSpec)

/-- 'hostlerlaw22.MasterApart', WHERE WHAT IT READS IS OF BULK AT MOST 1048576: true; the input reads as it did. -/
def masterApartUptoRow : OpenClaim := { program := "ytfibgjognhimmaa", sum := "3f926a04e54f096788fa2969d979258076aef03aaf0897ce1bb4d2c9656b3925", func := "hostler/hostlerlaw22.MasterApart", spec := "masterApart", plainKeys := false, apart := false, narrowed := true }
def MasterApartUptoSaid : Prop := masterApartUptoRow.holds Try.pinned (OpenSpec.upto masterApartSpec)

/-- 'hostlerlaw23.HandsHello', WHERE WHAT IT READS IS OF BULK AT MOST 1048576: true; the input reads as it did. -/
def handsHelloUptoRow : OpenClaim := { program := "ytfibgjognhimmaa", sum := "3f926a04e54f096788fa2969d979258076aef03aaf0897ce1bb4d2c9656b3925", func := "hostler/hostlerlaw23.HandsHello", spec := "handsHello", unfollowed := true, recurses := true, plainKeys := false, apart := false, narrowed := true }
def HandsHelloUptoSaid : Prop := handsHelloUptoRow.holds Try.pinned (OpenSpec.upto handsHelloSpec)

end Rows
end Go.Proofs.Ytfibgjognhimmaa
