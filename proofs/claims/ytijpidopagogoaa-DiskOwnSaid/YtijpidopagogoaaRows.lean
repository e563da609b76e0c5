/-
  No cell of these rows narrows 'for every input' (looked for: loops, veiled, ifaces, maps, wideKeys, modest, calm, conditions, laid).
  DERIVED. THE GIVEN ROWS OF THIS SEAT. 11 by the template 'for every input the law returns true; each argument reads behind the call as it read before'; 0 by the template 'total and deterministic' (their statements: YtijpidopagogoaaTotals.lean).
  GIVEN WITH THE SEED: the statements are not yours to turn. If you find one false, say at which input.
  Laid BY PROGRAM, IN A SANDBOX (cutbox-rows.mjs): the forced cells as the released guide's own fill.sh prints them over the translation 63935cba60576116… (all of the seat's roots in one cut). By AI agents, Wed Nov 11 2026. No macro, syntax, notation, axiom, sorry.
-/
import Derived.Test.YtijpidopagogoaaChecked
import GoSem.Claim
import GoSem.ClaimJoined
import GoSem.ClaimMapViews
import Derived.JoinedTies
import Derived.KernelRfl
namespace Go.Proofs.Ytijpidopagogoaa
/- THE CELL 'sum', in the pinned program and in every row, IS THE sha256 OF THE DUMP (.gsa) THAT YtijpidopagogoaaProg.lean LOADS. Nothing in Lean hashes anything: it is a label: what it is worth is what the hold of that sum in a sandbox is worth. -/
noncomputable def Try.pinned : Pinned := { name := "ytijpidopagogoaa", sum := "63935cba60576116b544224d9b7be073eeb13acc98ff3ba775d8fe0115f45573", checked := Try.checked }
namespace Rows
def none {H : Type} : Left H := { results := [], args := [] }

/-- 'hostlerlaw03.CodeReads': WHATEVER THE INPUT: true; the input reads as it did. -/
def codeReadsSpec : ChangeSpec := { name := "codeReads", fn := fun _ => fun
  | [d1, d2, d3, d4, d5] => { results := [.lit (.bool true)], args := [d1, d2, d3, d4, d5] }
  | _ => none }
def codeReadsRow : OpenClaim := { program := "ytijpidopagogoaa", sum := "63935cba60576116b544224d9b7be073eeb13acc98ff3ba775d8fe0115f45573", func := "hostler/hostlerlaw03.CodeReads", spec := "codeReads", plainKeys := false, apart := false }
def CodeReadsSaid : Prop := codeReadsRow.holds Try.pinned (OpenSpec.ofChange codeReadsSpec)

/-- ITS FALSE NEIGHBOUR: 'it returns false'. Refute it at one input. -/
def codeReadsWrong : ChangeSpec := { name := "codeReads", fn := fun _ => fun
  | [d1, d2, d3, d4, d5] => { results := [.lit (.bool false)], args := [d1, d2, d3, d4, d5] }
  | _ => none }
def CodeReadsWrongFalsely : Prop := codeReadsRow.holds Try.pinned (OpenSpec.ofChange codeReadsWrong)

/-- 'hostlerlaw03.CodeBack': WHATEVER THE INPUT: true; the input reads as it did. -/
def codeBackSpec : ChangeSpec := { name := "codeBack", fn := fun _ => fun
  | [d1, d2, d3] => { results := [.lit (.bool true)], args := [d1, d2, d3] }
  | _ => none }
def codeBackRow : OpenClaim := { program := "ytijpidopagogoaa", sum := "63935cba60576116b544224d9b7be073eeb13acc98ff3ba775d8fe0115f45573", func := "hostler/hostlerlaw03.CodeBack", spec := "codeBack", plainKeys := false, apart := false }
def CodeBackSaid : Prop := codeBackRow.holds Try.pinned (OpenSpec.ofChange codeBackSpec)

/-- ITS FALSE NEIGHBOUR: 'it returns false'. Refute it at one input. -/
def codeBackWrong : ChangeSpec := { name := "codeBack", fn := fun _ => fun
  | [d1, d2, d3] => { results := [.lit (.bool false)], args := [d1, d2, d3] }
  | _ => none }
def CodeBackWrongFalsely : Prop := codeBackRow.holds Try.pinned (OpenSpec.ofChange codeBackWrong)

/-- 'hostlerlaw03.CodeSizes': WHATEVER THE INPUT: true; the input reads as it did. -/
def codeSizesSpec : ChangeSpec := { name := "codeSizes", fn := fun _ => fun
  | [d1, d2] => { results := [.lit (.bool true)], args := [d1, d2] }
  | _ => none }
def codeSizesRow : OpenClaim := { program := "ytijpidopagogoaa", sum := "63935cba60576116b544224d9b7be073eeb13acc98ff3ba775d8fe0115f45573", func := "hostler/hostlerlaw03.CodeSizes", spec := "codeSizes", plainKeys := false, apart := false }
def CodeSizesSaid : Prop := codeSizesRow.holds Try.pinned (OpenSpec.ofChange codeSizesSpec)

/-- ITS FALSE NEIGHBOUR: 'it returns false'. Refute it at one input. -/
def codeSizesWrong : ChangeSpec := { name := "codeSizes", fn := fun _ => fun
  | [d1, d2] => { results := [.lit (.bool false)], args := [d1, d2] }
  | _ => none }
def CodeSizesWrongFalsely : Prop := codeSizesRow.holds Try.pinned (OpenSpec.ofChange codeSizesWrong)

/-- 'hostlerlaw05.DiskOwn': WHATEVER THE INPUT: true; the input reads as it did. -/
def diskOwnSpec : ChangeSpec := { name := "diskOwn", fn := fun _ => fun
  | [d] => { results := [.lit (.bool true)], args := [d] }
  | _ => none }
def diskOwnRow : OpenClaim := { program := "ytijpidopagogoaa", sum := "63935cba60576116b544224d9b7be073eeb13acc98ff3ba775d8fe0115f45573", func := "hostler/hostlerlaw05.DiskOwn", spec := "diskOwn", recurses := true, plainKeys := false, apart := false }
def DiskOwnSaid : Prop := diskOwnRow.holds Try.pinned (OpenSpec.ofChange diskOwnSpec)

/-- ITS FALSE NEIGHBOUR: 'it returns false'. Refute it at one input. -/
def diskOwnWrong : ChangeSpec := { name := "diskOwn", fn := fun _ => fun
  | [d] => { results := [.lit (.bool false)], args := [d] }
  | _ => none }
def DiskOwnWrongFalsely : Prop := diskOwnRow.holds Try.pinned (OpenSpec.ofChange diskOwnWrong)

/-- 'hostlerlaw11.StreamOrder': WHATEVER THE INPUT: true; the input reads as it did. -/
def streamOrderSpec : ChangeSpec := { name := "streamOrder", fn := fun _ => fun
  | [d] => { results := [.lit (.bool true)], args := [d] }
  | _ => none }
def streamOrderRow : OpenClaim := { program := "ytijpidopagogoaa", sum := "63935cba60576116b544224d9b7be073eeb13acc98ff3ba775d8fe0115f45573", func := "hostler/hostlerlaw11.StreamOrder", spec := "streamOrder", plainKeys := false, apart := false }
def StreamOrderSaid : Prop := streamOrderRow.holds Try.pinned (OpenSpec.ofChange streamOrderSpec)

/-- ITS FALSE NEIGHBOUR: 'it returns false'. Refute it at one input. -/
def streamOrderWrong : ChangeSpec := { name := "streamOrder", fn := fun _ => fun
  | [d] => { results := [.lit (.bool false)], args := [d] }
  | _ => none }
def StreamOrderWrongFalsely : Prop := streamOrderRow.holds Try.pinned (OpenSpec.ofChange streamOrderWrong)

/-- 'hostlerlaw11.StreamPlays': WHATEVER THE INPUT: true; the input reads as it did. -/
def streamPlaysSpec : ChangeSpec := { name := "streamPlays", fn := fun _ => fun
  | [d1, d2, d3] => { results := [.lit (.bool true)], args := [d1, d2, d3] }
  | _ => none }
def streamPlaysRow : OpenClaim := { program := "ytijpidopagogoaa", sum := "63935cba60576116b544224d9b7be073eeb13acc98ff3ba775d8fe0115f45573", func := "hostler/hostlerlaw11.StreamPlays", spec := "streamPlays", plainKeys := false, apart := false }
def StreamPlaysSaid : Prop := streamPlaysRow.holds Try.pinned (OpenSpec.ofChange streamPlaysSpec)

/-- ITS FALSE NEIGHBOUR: 'it returns false'. Refute it at one input. -/
def streamPlaysWrong : ChangeSpec := { name := "streamPlays", fn := fun _ => fun
  | [d1, d2, d3] => { results := [.lit (.bool false)], args := [d1, d2, d3] }
  | _ => none }
def StreamPlaysWrongFalsely : Prop := streamPlaysRow.holds Try.pinned (OpenSpec.ofChange streamPlaysWrong)

/-- 'hostlerlaw15.BinOrder': WHATEVER THE INPUT: true; the input reads as it did. -/
def binOrderSpec : ChangeSpec := { name := "binOrder", fn := fun _ => fun
  | [d1, d2, d3] => { results := [.lit (.bool true)], args := [d1, d2, d3] }
  | _ => none }
def binOrderRow : OpenClaim := { program := "ytijpidopagogoaa", sum := "63935cba60576116b544224d9b7be073eeb13acc98ff3ba775d8fe0115f45573", func := "hostler/hostlerlaw15.BinOrder", spec := "binOrder", inPlace := ["slices.overlaps[hostler/bin.Box]"], plainKeys := false, apart := false }
def BinOrderSaid : Prop := binOrderRow.holds Try.pinned (OpenSpec.ofChange binOrderSpec)

/-- ITS FALSE NEIGHBOUR: 'it returns false'. Refute it at one input. -/
def binOrderWrong : ChangeSpec := { name := "binOrder", fn := fun _ => fun
  | [d1, d2, d3] => { results := [.lit (.bool false)], args := [d1, d2, d3] }
  | _ => none }
def BinOrderWrongFalsely : Prop := binOrderRow.holds Try.pinned (OpenSpec.ofChange binOrderWrong)

/-- 'hostlerlaw15.BinCopies': WHATEVER THE INPUT: true; the input reads as it did. -/
def binCopiesSpec : ChangeSpec := { name := "binCopies", fn := fun _ => fun
  | [d1, d2] => { results := [.lit (.bool true)], args := [d1, d2] }
  | _ => none }
def binCopiesRow : OpenClaim := { program := "ytijpidopagogoaa", sum := "63935cba60576116b544224d9b7be073eeb13acc98ff3ba775d8fe0115f45573", func := "hostler/hostlerlaw15.BinCopies", spec := "binCopies", inPlace := ["slices.overlaps[hostler/bin.Box]"], plainKeys := false, apart := false }
def BinCopiesSaid : Prop := binCopiesRow.holds Try.pinned (OpenSpec.ofChange binCopiesSpec)

/-- ITS FALSE NEIGHBOUR: 'it returns false'. Refute it at one input. -/
def binCopiesWrong : ChangeSpec := { name := "binCopies", fn := fun _ => fun
  | [d1, d2] => { results := [.lit (.bool false)], args := [d1, d2] }
  | _ => none }
def BinCopiesWrongFalsely : Prop := binCopiesRow.holds Try.pinned (OpenSpec.ofChange binCopiesWrong)

/-- 'hostlerlaw16.CrewLate': WHATEVER THE INPUT: true; the input reads as it did. -/
def crewLateSpec : ChangeSpec := { name := "crewLate", fn := fun _ => fun
  | [d1, d2, d3] => { results := [.lit (.bool true)], args := [d1, d2, d3] }
  | _ => none }
def crewLateRow : OpenClaim := { program := "ytijpidopagogoaa", sum := "63935cba60576116b544224d9b7be073eeb13acc98ff3ba775d8fe0115f45573", func := "hostler/hostlerlaw16.CrewLate", spec := "crewLate", plainKeys := false, apart := false }
def CrewLateSaid : Prop := crewLateRow.holds Try.pinned (OpenSpec.ofChange crewLateSpec)

/-- ITS FALSE NEIGHBOUR: 'it returns false'. Refute it at one input. -/
def crewLateWrong : ChangeSpec := { name := "crewLate", fn := fun _ => fun
  | [d1, d2, d3] => { results := [.lit (.bool false)], args := [d1, d2, d3] }
  | _ => none }
def CrewLateWrongFalsely : Prop := crewLateRow.holds Try.pinned (OpenSpec.ofChange crewLateWrong)

/-- 'hostlerlaw22.MasterAcks': WHATEVER THE INPUT: true; the input reads as it did. -/
def masterAcksSpec : ChangeSpec := { name := "masterAcks", fn := fun _ => fun
  | [d1, d2, d3] => { results := [.lit (.bool true)], args := [d1, d2, d3] }
  | _ => none }
def masterAcksRow : OpenClaim := { program := "ytijpidopagogoaa", sum := "63935cba60576116b544224d9b7be073eeb13acc98ff3ba775d8fe0115f45573", func := "hostler/hostlerlaw22.MasterAcks", spec := "masterAcks", plainKeys := false, apart := false }
def MasterAcksSaid : Prop := masterAcksRow.holds Try.pinned (OpenSpec.ofChange masterAcksSpec)

/-- ITS FALSE NEIGHBOUR: 'it returns false'. Refute it at one input. -/
def masterAcksWrong : ChangeSpec := { name := "masterAcks", fn := fun _ => fun
  | [d1, d2, d3] => { results := [.lit (.bool false)], args := [d1, d2, d3] }
  | _ => none }
def MasterAcksWrongFalsely : Prop := masterAcksRow.holds Try.pinned (OpenSpec.ofChange masterAcksWrong)

/-- 'hostlerlaw23.HandsHello': WHATEVER THE INPUT: true; the input reads as it did. -/
def handsHelloSpec : ChangeSpec := { name := "handsHello", fn := fun _ => fun
  | [d1, d2] => { results := [.lit (.bool true)], args := [d1, d2] }
  | _ => none }
def handsHelloRow : OpenClaim := { program := "ytijpidopagogoaa", sum := "63935cba60576116b544224d9b7be073eeb13acc98ff3ba775d8fe0115f45573", func := "hostler/hostlerlaw23.HandsHello", spec := "handsHello", unfollowed := true, recurses := true, plainKeys := false, apart := false }
def HandsHelloSaid : Prop := handsHelloRow.holds Try.pinned (OpenSpec.ofChange handsHelloSpec)

/-- ITS FALSE NEIGHBOUR: 'it returns false'. Refute it at one input. -/
def handsHelloWrong : ChangeSpec := { name := "handsHello", fn := fun _ => fun
  | [d1, d2] => { results := [.lit (.bool false)], args := [d1, d2] }
  | _ => none }
def HandsHelloWrongFalsely : Prop := handsHelloRow.holds Try.pinned (OpenSpec.ofChange handsHelloWrong)

/- THE SECOND FORM. 'bulk': how many values and letters a reading holds, each counted each time it is reached (what is shared counts as often as it is met; a slice's spare places count too). A statement '..UptoSaid' is the law's where the arguments, and the package variables that the reading takes, are together of bulk at most 1048576: NARROWER than '..Said'. Prove '..Said' where nothing that the law and all that it calls make is longer than what came in: it says more and counts as full. Else prove '..UptoSaid'. A law counts once. -/
mutual
def uptoBulk {H : Type} : DataW H → Nat
  | .lit (.string bytes) => bytes.length + 1
  | .lit _ => 1
  | .nil => 1
  | .ptr d => uptoBulk d + 1
  | .slice elems spare => uptoBulkAll elems + uptoBulkAll spare + 1
  | .agg parts => uptoBulkAll parts + 1
  | .iface _ d => uptoBulk d + 1
  | .map entries => uptoBulkEntries entries + 1
  | .held _ => 1
def uptoBulkAll {H : Type} : List (DataW H) → Nat
  | [] => 0
  | d :: r => uptoBulk d + uptoBulkAll r
def uptoBulkEntries {H : Type} : List (Lit × DataW H) → Nat
  | [] => 0
  | x :: r => uptoBulkEntry x + uptoBulkEntries r
def uptoBulkEntry {H : Type} : Lit × DataW H → Nat
  | (.string bytes, d) => bytes.length + uptoBulk d + 1
  | (_, d) => uptoBulk d + 1
 end
def uptoSmall : (H : Type) → List (DataW H) → Bool := fun _ ds => decide (uptoBulkAll ds ≤ 1048576)
def OpenSpec.upto (s : _root_.Go.ChangeSpec) : _root_.Go.OpenSpec := { _root_.Go.OpenSpec.ofChange s with cond := some uptoSmall }

/-- 'hostlerlaw03.CodeReads', WHERE WHAT IT READS IS OF BULK AT MOST 1048576: true; the input reads as it did. -/
def codeReadsUptoRow : OpenClaim := { program := "ytijpidopagogoaa", sum := "63935cba60576116b544224d9b7be073eeb13acc98ff3ba775d8fe0115f45573", func := "hostler/hostlerlaw03.CodeReads", spec := "codeReads", plainKeys := false, apart := false, narrowed := true }
def CodeReadsUptoSaid : Prop := codeReadsUptoRow.holds Try.pinned (OpenSpec.upto codeReadsSpec)

/-- 'hostlerlaw03.CodeBack', WHERE WHAT IT READS IS OF BULK AT MOST 1048576: true; the input reads as it did. -/
def codeBackUptoRow : OpenClaim := { program := "ytijpidopagogoaa", sum := "63935cba60576116b544224d9b7be073eeb13acc98ff3ba775d8fe0115f45573", func := "hostler/hostlerlaw03.CodeBack", spec := "codeBack", plainKeys := false, apart := false, narrowed := true }
def CodeBackUptoSaid : Prop := codeBackUptoRow.holds Try.pinned (OpenSpec.upto codeBackSpec)

/-- 'hostlerlaw03.CodeSizes', WHERE WHAT IT READS IS OF BULK AT MOST 1048576: true; the input reads as it did. -/
def codeSizesUptoRow : OpenClaim := { program := "ytijpidopagogoaa", sum := "63935cba60576116b544224d9b7be073eeb13acc98ff3ba775d8fe0115f45573", func := "hostler/hostlerlaw03.CodeSizes", spec := "codeSizes", plainKeys := false, apart := false, narrowed := true }
def CodeSizesUptoSaid : Prop := codeSizesUptoRow.holds Try.pinned (OpenSpec.upto codeSizesSpec)

/-- 'hostlerlaw05.DiskOwn', WHERE WHAT IT READS IS OF BULK AT MOST 1048576: true; the input reads as it did. -/
def diskOwnUptoRow : OpenClaim := { program := "ytijpidopagogoaa", sum := "63935cba60576116b544224d9b7be073eeb13acc98ff3ba775d8fe0115f45573", func := "hostler/hostlerlaw05.DiskOwn", spec := "diskOwn", recurses := true, plainKeys := false, apart := false, narrowed := true }
def DiskOwnUptoSaid : Prop := diskOwnUptoRow.holds Try.pinned (OpenSpec.upto diskOwnSpec)

/-- 'hostlerlaw11.StreamOrder', WHERE WHAT IT READS IS OF BULK AT MOST 1048576: true; the input reads as it did. -/
def streamOrderUptoRow : OpenClaim := { program := "ytijpidopagogoaa", sum := "63935cba60576116b544224d9b7be073eeb13acc98ff3ba775d8fe0115f45573", func := "hostler/hostlerlaw11.StreamOrder", spec := "streamOrder", plainKeys := false, apart := false, narrowed := true }
def StreamOrderUptoSaid : Prop := streamOrderUptoRow.holds Try.pinned (OpenSpec.upto streamOrderSpec)

/-- 'hostlerlaw11.StreamPlays', WHERE WHAT IT READS IS OF BULK AT MOST 1048576: true; the input reads as it did. -/
def streamPlaysUptoRow : OpenClaim := { program := "ytijpidopagogoaa", sum := "63935cba60576116b544224d9b7be073eeb13acc98ff3ba775d8fe0115f45573", func := "hostler/hostlerlaw11.StreamPlays", spec := "streamPlays", plainKeys := false, apart := false, narrowed := true }
def StreamPlaysUptoSaid : Prop := streamPlaysUptoRow.holds Try.pinned (OpenSpec.upto streamPlaysSpec)

/-- 'hostlerlaw15.BinOrder', WHERE WHAT IT READS IS OF BULK AT MOST 1048576: true; the input reads as it did. -/
def binOrderUptoRow : OpenClaim := { program := "ytijpidopagogoaa", sum := "63935cba60576116b544224d9b7be073eeb13acc98ff3ba775d8fe0115f45573", func := "hostler/hostlerlaw15.BinOrder", spec := "binOrder", inPlace := ["slices.overlaps[hostler/bin.Box]"], plainKeys := false, apart := false, narrowed := true }
def BinOrderUptoSaid : Prop := binOrderUptoRow.holds Try.pinned (OpenSpec.upto binOrderSpec)

/-- 'hostlerlaw15.BinCopies', WHERE WHAT IT READS IS OF BULK AT MOST 1048576: true; the input reads as it did. -/
def binCopiesUptoRow : OpenClaim := { program := "ytijpidopagogoaa", sum := "63935cba60576116b544224d9b7be073eeb13acc98ff3ba775d8fe0115f45573", func := "hostler/hostlerlaw15.BinCopies", spec := "binCopies", inPlace := ["slices.overlaps[hostler/bin.Box]"], plainKeys := false, apart := false, narrowed := true }
def BinCopiesUptoSaid : Prop := binCopiesUptoRow.holds Try.pinned (OpenSpec.upto binCopiesSpec)

/-- 'hostlerlaw16.CrewLate', WHERE WHAT IT READS IS OF BULK AT MOST 1048576: true; the input reads as it did. -/
def crewLateUptoRow : OpenClaim := { program := "ytijpidopagogoaa", sum := "63935cba60576116b544224d9b7be073eeb13acc98ff3ba775d8fe0115f45573", func := "hostler/hostlerlaw16.CrewLate", spec := "crewLate", plainKeys := false, apart := false, narrowed := true }
def CrewLateUptoSaid : Prop := crewLateUptoRow.holds Try.pinned (OpenSpec.upto crewLateSpec)

/-- 'hostlerlaw22.MasterAcks', WHERE WHAT IT READS IS OF BULK AT MOST 1048576: true; the input reads as it did. -/
def masterAcksUptoRow : OpenClaim := { program := "ytijpidopagogoaa", sum := "63935cba60576116b544224d9b7be073eeb13acc98ff3ba775d8fe0115f45573", func := "hostler/hostlerlaw22.MasterAcks", spec := "masterAcks", plainKeys := false, apart := false, narrowed := true }
def MasterAcksUptoSaid : Prop := masterAcksUptoRow.holds Try.pinned (OpenSpec.upto masterAcksSpec)

/-- 'hostlerlaw23.HandsHello', WHERE WHAT IT READS IS OF BULK AT MOST 1048576: true; the input reads as it did. -/
def handsHelloUptoRow : OpenClaim := { program := "ytijpidopagogoaa", sum := "63935cba60576116b544224d9b7be073eeb13acc98ff3ba775d8fe0115f45573", func := "hostler/hostlerlaw23.HandsHello", spec := "handsHello", unfollowed := true, recurses := true, plainKeys := false, apart := false, narrowed := true }
def HandsHelloUptoSaid : Prop := handsHelloUptoRow.holds Try.pinned (OpenSpec.upto handsHelloSpec)

end Rows
end Go.Proofs.Ytijpidopagogoaa
