/-
  No cell of these rows narrows 'for every input' (looked for: loops, veiled, ifaces, maps, wideKeys, modest, calm, conditions, laid).
  DERIVED. THE GIVEN ROWS OF THIS SEAT. 8 by the template 'for every input the law returns true; each argument reads behind the call as it read before'; 0 by the template 'total and deterministic' (their statements: YtacmmkpcnpnjoaaTotals.lean).
  GIVEN WITH THE SEED: the statements are not yours to turn. If you find one false, say at which input.
  Laid BY PROGRAM, IN A SANDBOX (cutbox-rows.mjs): the forced cells as the released guide's own fill.sh prints them over the translation 75e6483cc8e28267… (all of the seat's roots in one cut). By AI agents, Wed Nov 11 2026. No macro, syntax, notation, axiom, sorry.
-/
import Derived.Test.YtacmmkpcnpnjoaaChecked
import GoSem.Claim
import GoSem.ClaimJoined
import GoSem.ClaimMapViews
import Derived.JoinedTies
import Derived.KernelRfl
namespace Go.Proofs.Ytacmmkpcnpnjoaa
/- THE CELL 'sum', in the pinned program and in every row, IS THE sha256 OF THE DUMP (.gsa) THAT YtacmmkpcnpnjoaaProg.lean LOADS. Nothing in Lean hashes anything: it is a label: what it is worth is what the hold of that sum in a sandbox is worth. -/
noncomputable def Try.pinned : Pinned := { name := "ytacmmkpcnpnjoaa", sum := "75e6483cc8e28267eed33b556a1d1a4ec0d59c1ca581d4042aecf9a336a8a211", checked := Try.checked }
namespace Rows
def none {H : Type} : Left H := { results := [], args := [] }

/-- 'hostlerlaw22.MasterAcks': WHATEVER THE INPUT: true; the input reads as it did. -/
def masterAcksSpec : ChangeSpec := { name := "masterAcks", fn := fun _ => fun
  | [d1, d2, d3] => { results := [.lit (.bool true)], args := [d1, d2, d3] }
  | _ => none }
def masterAcksRow : OpenClaim := { program := "ytacmmkpcnpnjoaa", sum := "75e6483cc8e28267eed33b556a1d1a4ec0d59c1ca581d4042aecf9a336a8a211", func := "hostler/hostlerlaw22.MasterAcks", spec := "masterAcks", plainKeys := false, apart := false }
def MasterAcksSaid : Prop := masterAcksRow.holds Try.pinned (OpenSpec.ofChange masterAcksSpec)

/-- ITS FALSE NEIGHBOUR: 'it returns false'. Refute it at one input. -/
def masterAcksWrong : ChangeSpec := { name := "masterAcks", fn := fun _ => fun
  | [d1, d2, d3] => { results := [.lit (.bool false)], args := [d1, d2, d3] }
  | _ => none }
def MasterAcksWrongFalsely : Prop := masterAcksRow.holds Try.pinned (OpenSpec.ofChange masterAcksWrong)

/-- 'hostlerlaw22.MasterApart': WHATEVER THE INPUT: true; the input reads as it did. -/
def masterApartSpec : ChangeSpec := { name := "masterApart", fn := fun _ => fun
  | [d1, d2] => { results := [.lit (.bool true)], args := [d1, d2] }
  | _ => none }
def masterApartRow : OpenClaim := { program := "ytacmmkpcnpnjoaa", sum := "75e6483cc8e28267eed33b556a1d1a4ec0d59c1ca581d4042aecf9a336a8a211", func := "hostler/hostlerlaw22.MasterApart", spec := "masterApart", plainKeys := false, apart := false }
def MasterApartSaid : Prop := masterApartRow.holds Try.pinned (OpenSpec.ofChange masterApartSpec)

/-- ITS FALSE NEIGHBOUR: 'it returns false'. Refute it at one input. -/
def masterApartWrong : ChangeSpec := { name := "masterApart", fn := fun _ => fun
  | [d1, d2] => { results := [.lit (.bool false)], args := [d1, d2] }
  | _ => none }
def MasterApartWrongFalsely : Prop := masterApartRow.holds Try.pinned (OpenSpec.ofChange masterApartWrong)

/-- 'hostlerlaw23.HandsHello': WHATEVER THE INPUT: true; the input reads as it did. -/
def handsHelloSpec : ChangeSpec := { name := "handsHello", fn := fun _ => fun
  | [d1, d2] => { results := [.lit (.bool true)], args := [d1, d2] }
  | _ => none }
def handsHelloRow : OpenClaim := { program := "ytacmmkpcnpnjoaa", sum := "75e6483cc8e28267eed33b556a1d1a4ec0d59c1ca581d4042aecf9a336a8a211", func := "hostler/hostlerlaw23.HandsHello", spec := "handsHello", unfollowed := true, recurses := true, plainKeys := false, apart := false }
def HandsHelloSaid : Prop := handsHelloRow.holds Try.pinned (OpenSpec.ofChange handsHelloSpec)

/-- ITS FALSE NEIGHBOUR: 'it returns false'. Refute it at one input. -/
def handsHelloWrong : ChangeSpec := { name := "handsHello", fn := fun _ => fun
  | [d1, d2] => { results := [.lit (.bool false)], args := [d1, d2] }
  | _ => none }
def HandsHelloWrongFalsely : Prop := handsHelloRow.holds Try.pinned (OpenSpec.ofChange handsHelloWrong)

/-- 'hostlerlaw16.CrewLate': WHATEVER THE INPUT: true; the input reads as it did. -/
def crewLateSpec : ChangeSpec := { name := "crewLate", fn := fun _ => fun
  | [d1, d2, d3] => { results := [.lit (.bool true)], args := [d1, d2, d3] }
  | _ => none }
def crewLateRow : OpenClaim := { program := "ytacmmkpcnpnjoaa", sum := "75e6483cc8e28267eed33b556a1d1a4ec0d59c1ca581d4042aecf9a336a8a211", func := "hostler/hostlerlaw16.CrewLate", spec := "crewLate", plainKeys := false, apart := false }
def CrewLateSaid : Prop := crewLateRow.holds Try.pinned (OpenSpec.ofChange crewLateSpec)

/-- ITS FALSE NEIGHBOUR: 'it returns false'. Refute it at one input. -/
def crewLateWrong : ChangeSpec := { name := "crewLate", fn := fun _ => fun
  | [d1, d2, d3] => { results := [.lit (.bool false)], args := [d1, d2, d3] }
  | _ => none }
def CrewLateWrongFalsely : Prop := crewLateRow.holds Try.pinned (OpenSpec.ofChange crewLateWrong)

/-- 'hostlerlaw16.CrewPlays': WHATEVER THE INPUT: true; the input reads as it did. -/
def crewPlaysSpec : ChangeSpec := { name := "crewPlays", fn := fun _ => fun
  | [d1, d2] => { results := [.lit (.bool true)], args := [d1, d2] }
  | _ => none }
def crewPlaysRow : OpenClaim := { program := "ytacmmkpcnpnjoaa", sum := "75e6483cc8e28267eed33b556a1d1a4ec0d59c1ca581d4042aecf9a336a8a211", func := "hostler/hostlerlaw16.CrewPlays", spec := "crewPlays", plainKeys := false, apart := false }
def CrewPlaysSaid : Prop := crewPlaysRow.holds Try.pinned (OpenSpec.ofChange crewPlaysSpec)

/-- ITS FALSE NEIGHBOUR: 'it returns false'. Refute it at one input. -/
def crewPlaysWrong : ChangeSpec := { name := "crewPlays", fn := fun _ => fun
  | [d1, d2] => { results := [.lit (.bool false)], args := [d1, d2] }
  | _ => none }
def CrewPlaysWrongFalsely : Prop := crewPlaysRow.holds Try.pinned (OpenSpec.ofChange crewPlaysWrong)

/-- 'hostlerlaw15.BinOrder': WHATEVER THE INPUT: true; the input reads as it did. -/
def binOrderSpec : ChangeSpec := { name := "binOrder", fn := fun _ => fun
  | [d1, d2, d3] => { results := [.lit (.bool true)], args := [d1, d2, d3] }
  | _ => none }
def binOrderRow : OpenClaim := { program := "ytacmmkpcnpnjoaa", sum := "75e6483cc8e28267eed33b556a1d1a4ec0d59c1ca581d4042aecf9a336a8a211", func := "hostler/hostlerlaw15.BinOrder", spec := "binOrder", inPlace := ["slices.overlaps[hostler/bin.Box]"], plainKeys := false, apart := false }
def BinOrderSaid : Prop := binOrderRow.holds Try.pinned (OpenSpec.ofChange binOrderSpec)

/-- ITS FALSE NEIGHBOUR: 'it returns false'. Refute it at one input. -/
def binOrderWrong : ChangeSpec := { name := "binOrder", fn := fun _ => fun
  | [d1, d2, d3] => { results := [.lit (.bool false)], args := [d1, d2, d3] }
  | _ => none }
def BinOrderWrongFalsely : Prop := binOrderRow.holds Try.pinned (OpenSpec.ofChange binOrderWrong)

/-- 'hostlerlaw15.BinPlays': WHATEVER THE INPUT: true; the input reads as it did. -/
def binPlaysSpec : ChangeSpec := { name := "binPlays", fn := fun _ => fun
  | [d1, d2, d3] => { results := [.lit (.bool true)], args := [d1, d2, d3] }
  | _ => none }
def binPlaysRow : OpenClaim := { program := "ytacmmkpcnpnjoaa", sum := "75e6483cc8e28267eed33b556a1d1a4ec0d59c1ca581d4042aecf9a336a8a211", func := "hostler/hostlerlaw15.BinPlays", spec := "binPlays", inPlace := ["slices.overlaps[hostler/bin.Box]"], plainKeys := false, apart := false }
def BinPlaysSaid : Prop := binPlaysRow.holds Try.pinned (OpenSpec.ofChange binPlaysSpec)

/-- ITS FALSE NEIGHBOUR: 'it returns false'. Refute it at one input. -/
def binPlaysWrong : ChangeSpec := { name := "binPlays", fn := fun _ => fun
  | [d1, d2, d3] => { results := [.lit (.bool false)], args := [d1, d2, d3] }
  | _ => none }
def BinPlaysWrongFalsely : Prop := binPlaysRow.holds Try.pinned (OpenSpec.ofChange binPlaysWrong)

/-- 'hostlerlaw15.BinCopies': WHATEVER THE INPUT: true; the input reads as it did. -/
def binCopiesSpec : ChangeSpec := { name := "binCopies", fn := fun _ => fun
  | [d1, d2] => { results := [.lit (.bool true)], args := [d1, d2] }
  | _ => none }
def binCopiesRow : OpenClaim := { program := "ytacmmkpcnpnjoaa", sum := "75e6483cc8e28267eed33b556a1d1a4ec0d59c1ca581d4042aecf9a336a8a211", func := "hostler/hostlerlaw15.BinCopies", spec := "binCopies", inPlace := ["slices.overlaps[hostler/bin.Box]"], plainKeys := false, apart := false }
def BinCopiesSaid : Prop := binCopiesRow.holds Try.pinned (OpenSpec.ofChange binCopiesSpec)

/-- ITS FALSE NEIGHBOUR: 'it returns false'. Refute it at one input. -/
def binCopiesWrong : ChangeSpec := { name := "binCopies", fn := fun _ => fun
  | [d1, d2] => { results := [.lit (.bool false)], args := [d1, d2] }
  | _ => none }
def BinCopiesWrongFalsely : Prop := binCopiesRow.holds Try.pinned (OpenSpec.ofChange binCopiesWrong)

/- THE SECOND FORM. 'bulk': how many values and letters a reading holds, each counted each time it is reached (what is shared counts as often as it is met; a slice's spare places count too). A statement '..UptoSaid' is the law's where the arguments, and the package variables that the reading takes, are together of bulk at most 1048576: NARROWER than '..Said'. Prove '..Said' where nothing that the law and all that it calls make is longer than what came in: it says more and counts as full. Else prove '..UptoSaid'. A law counts once. -/
mutual
def uptoBulk {H : Type} : DataW H → Nat
  | .lit (.string bytes) => bytes.length + 1
  | .lit _ => 1
  | .nil => 1
  | .ptr d => uptoBulk d + 1
  | .slice elems spare => uptoBulkAll elems + uptoBulkAll spare + 1
  | .agg parts => uptoBulkAll parts + 1
  | .iface _ d => uptoBulk d + 1
  | .map entries => uptoBulkEntries entries + 1
  | .held _ => 1
def uptoBulkAll {H : Type} : List (DataW H) → Nat
  | [] => 0
  | d :: r => uptoBulk d + uptoBulkAll r
def uptoBulkEntries {H : Type} : List (Lit × DataW H) → Nat
  | [] => 0
  | x :: r => uptoBulkEntry x + uptoBulkEntries r
def uptoBulkEntry {H : Type} : Lit × DataW H → Nat
  | (.string bytes, d) => bytes.length + uptoBulk d + 1
  | (_, d) => uptoBulk d + 1
 end
def uptoSmall : (H : Type) → List (DataW H) → Bool := fun _ ds => decide (uptoBulkAll ds ≤ 1048576)
def OpenSpec.upto (s : _root_.Go.ChangeSpec) : _root_.Go.OpenSpec := { _root_.Go.OpenSpec.ofChange s with cond := some uptoSmall }

/-- 'hostlerlaw22.MasterAcks', WHERE WHAT IT READS IS OF BULK AT MOST 1048576: true; the input reads as it did. -/
def masterAcksUptoRow : OpenClaim := { program := "ytacmmkpcnpnjoaa", sum := "75e6483cc8e28267eed33b556a1d1a4ec0d59c1ca581d4042aecf9a336a8a211", func := "hostler/hostlerlaw22.MasterAcks", spec := "masterAcks", plainKeys := false, apart := false, narrowed := true }
def MasterAcksUptoSaid : Prop := masterAcksUptoRow.holds Try.pinned (OpenSpec.upto masterAcksSpec)

/-- 'hostlerlaw22.MasterApart', WHERE WHAT IT READS IS OF BULK AT MOST 1048576: true; the input reads as it did. -/
def masterApartUptoRow : OpenClaim := { program := "ytacmmkpcnpnjoaa", sum := "75e6483cc8e28267eed33b556a1d1a4ec0d59c1ca581d4042aecf9a336a8a211", func := "hostler/hostlerlaw22.MasterApart", spec := "masterApart", plainKeys := false, apart := false, narrowed := true }
def MasterApartUptoSaid : Prop := masterApartUptoRow.holds Try.pinned (OpenSpec.upto masterApartSpec)

/-- 'hostlerlaw23.HandsHello', WHERE WHAT IT READS IS OF BULK AT MOST 1048576: true; the input reads as it did. -/
def handsHelloUptoRow : OpenClaim := { program := "ytacmmkpcnpnjoaa", sum := "75e6483cc8e28267eed33b556a1d1a4ec0d59c1ca581d4042aecf9a336a8a211", func := "hostler/hostlerlaw23.HandsHello", spec := "handsHello", unfollowed := true, recurses := true, plainKeys := false, apart := false, narrowed := true }
def HandsHelloUptoSaid : Prop := handsHelloUptoRow.holds Try.pinned (OpenSpec.upto handsHelloSpec)

/-- 'hostlerlaw16.CrewLate', WHERE WHAT IT READS IS OF BULK AT MOST 1048576: true; the input reads as it did. -/
def crewLateUptoRow : OpenClaim := { program := "ytacmmkpcnpnjoaa", sum := "75e6483cc8e28267eed33b556a1d1a4ec0d59c1ca581d4042aecf9a336a8a211", func := "hostler/hostlerlaw16.CrewLate", spec := "crewLate", plainKeys := false, apart := false, narrowed := true }
def CrewLateUptoSaid : Prop := crewLateUptoRow.holds Try.pinned (OpenSpec.upto crewLateSpec)

/-- 'hostlerlaw16.CrewPlays', WHERE WHAT IT READS IS OF BULK AT MOST 1048576: true; the input reads as it did. -/
def crewPlaysUptoRow : OpenClaim := { program := "ytacmmkpcnpnjoaa", sum := "75e6483cc8e28267eed33b556a1d1a4ec0d59c1ca581d4042aecf9a336a8a211", func := "hostler/hostlerlaw16.CrewPlays", spec := "crewPlays", plainKeys := false, apart := false, narrowed := true }
def CrewPlaysUptoSaid : Prop := crewPlaysUptoRow.holds Try.pinned (OpenSpec.upto crewPlaysSpec)

/-- 'hostlerlaw15.BinOrder', WHERE WHAT IT READS IS OF BULK AT MOST 1048576: true; the input reads as it did. -/
def binOrderUptoRow : OpenClaim := { program := "ytacmmkpcnpnjoaa", sum := "75e6483cc8e28267eed33b556a1d1a4ec0d59c1ca581d4042aecf9a336a8a211", func := "hostler/hostlerlaw15.BinOrder", spec := "binOrder", inPlace := ["slices.overlaps[hostler/bin.Box]"], plainKeys := false, apart := false, narrowed := true }
def BinOrderUptoSaid : Prop := binOrderUptoRow.holds Try.pinned (OpenSpec.upto binOrderSpec)

/-- 'hostlerlaw15.BinPlays', WHERE WHAT IT READS IS OF BULK AT MOST 1048576: true; the input reads as it did. -/
def binPlaysUptoRow : OpenClaim := { program := "ytacmmkpcnpnjoaa", sum := "75e6483cc8e28267eed33b556a1d1a4ec0d59c1ca581d4042aecf9a336a8a211", func := "hostler/hostlerlaw15.BinPlays", spec := "binPlays", inPlace := ["slices.overlaps[hostler/bin.Box]"], plainKeys := false, apart := false, narrowed := true }
def BinPlaysUptoSaid : Prop := binPlaysUptoRow.holds Try.pinned (OpenSpec.upto binPlaysSpec)

/-- 'hostlerlaw15.BinCopies', WHERE WHAT IT READS IS OF BULK AT MOST 1048576: true; the input reads as it did. -/
def binCopiesUptoRow : OpenClaim := { program := "ytacmmkpcnpnjoaa", sum := "75e6483cc8e28267eed33b556a1d1a4ec0d59c1ca581d4042aecf9a336a8a211", func := "hostler/hostlerlaw15.BinCopies", spec := "binCopies", inPlace := ["slices.overlaps[hostler/bin.Box]"], plainKeys := false, apart := false, narrowed := true }
def BinCopiesUptoSaid : Prop := binCopiesUptoRow.holds Try.pinned (OpenSpec.upto binCopiesSpec)

end Rows
end Go.Proofs.Ytacmmkpcnpnjoaa
