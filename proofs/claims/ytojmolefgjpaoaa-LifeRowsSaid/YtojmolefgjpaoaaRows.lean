/-
  No cell of these rows narrows 'for every input' (looked for: loops, veiled, ifaces, maps, wideKeys, modest, calm, conditions, laid).
  DERIVED. THE GIVEN ROWS OF THIS SEAT. 11 by the template 'for every input the law returns true; each argument reads behind the call as it read before'; 0 by the template 'total and deterministic' (their statements: YtojmolefgjpaoaaTotals.lean).
  GIVEN WITH THE SEED: the statements are not yours to turn. If you find one false, say at which input.
  Laid BY PROGRAM, IN A SANDBOX (cutbox-rows.mjs): the forced cells as the released guide's own fill.sh prints them over the translation 4c4c456b7efbb4c8… (all of the seat's roots in one cut). By AI agents, Wed Nov 11 2026. No macro, syntax, notation, axiom, sorry.
-/
import Derived.Test.YtojmolefgjpaoaaChecked
import GoSem.Claim
import GoSem.ClaimJoined
import GoSem.ClaimMapViews
import Derived.JoinedTies
import Derived.KernelRfl
namespace Go.Proofs.Ytojmolefgjpaoaa
/- THE CELL 'sum', in the pinned program and in every row, IS THE sha256 OF THE DUMP (.gsa) THAT YtojmolefgjpaoaaProg.lean LOADS. Nothing in Lean hashes anything: it is a label: what it is worth is what the hold of that sum in a sandbox is worth. -/
noncomputable def Try.pinned : Pinned := { name := "ytojmolefgjpaoaa", sum := "4c4c456b7efbb4c85288d91bbcde2c9b17c3e7b313ba41f9c4568597241f57b8", checked := Try.checked }
namespace Rows
def none {H : Type} : Left H := { results := [], args := [] }

/-- 'hostlerlaw04.MessageForms': WHATEVER THE INPUT: true; the input reads as it did. -/
def messageFormsSpec : ChangeSpec := { name := "messageForms", fn := fun _ => fun
  | [d1, d2, d3, d4, d5] => { results := [.lit (.bool true)], args := [d1, d2, d3, d4, d5] }
  | _ => none }
def messageFormsRow : OpenClaim := { program := "ytojmolefgjpaoaa", sum := "4c4c456b7efbb4c85288d91bbcde2c9b17c3e7b313ba41f9c4568597241f57b8", func := "hostler/hostlerlaw04.MessageForms", spec := "messageForms", inPlace := ["math.archTrunc", "math.Float64bits", "math.Float64frombits"], apart := false }
def MessageFormsSaid : Prop := messageFormsRow.holds Try.pinned (OpenSpec.ofChange messageFormsSpec)

/-- ITS FALSE NEIGHBOUR: 'it returns false'. Refute it at one input. -/
def messageFormsWrong : ChangeSpec := { name := "messageForms", fn := fun _ => fun
  | [d1, d2, d3, d4, d5] => { results := [.lit (.bool false)], args := [d1, d2, d3, d4, d5] }
  | _ => none }
def MessageFormsWrongFalsely : Prop := messageFormsRow.holds Try.pinned (OpenSpec.ofChange messageFormsWrong)

/-- 'hostlerlaw04.MessageErrors': WHATEVER THE INPUT: true; the input reads as it did. -/
def messageErrorsSpec : ChangeSpec := { name := "messageErrors", fn := fun _ => fun
  | [d] => { results := [.lit (.bool true)], args := [d] }
  | _ => none }
def messageErrorsRow : OpenClaim := { program := "ytojmolefgjpaoaa", sum := "4c4c456b7efbb4c85288d91bbcde2c9b17c3e7b313ba41f9c4568597241f57b8", func := "hostler/hostlerlaw04.MessageErrors", spec := "messageErrors", inPlace := ["math.archTrunc", "math.Float64bits", "math.Float64frombits"], apart := false }
def MessageErrorsSaid : Prop := messageErrorsRow.holds Try.pinned (OpenSpec.ofChange messageErrorsSpec)

/-- ITS FALSE NEIGHBOUR: 'it returns false'. Refute it at one input. -/
def messageErrorsWrong : ChangeSpec := { name := "messageErrors", fn := fun _ => fun
  | [d] => { results := [.lit (.bool false)], args := [d] }
  | _ => none }
def MessageErrorsWrongFalsely : Prop := messageErrorsRow.holds Try.pinned (OpenSpec.ofChange messageErrorsWrong)

/-- 'hostlerlaw05.DiskRoom': WHATEVER THE INPUT: true; the input reads as it did. -/
def diskRoomSpec : ChangeSpec := { name := "diskRoom", fn := fun _ => fun
  | [d1, d2, d3] => { results := [.lit (.bool true)], args := [d1, d2, d3] }
  | _ => none }
def diskRoomRow : OpenClaim := { program := "ytojmolefgjpaoaa", sum := "4c4c456b7efbb4c85288d91bbcde2c9b17c3e7b313ba41f9c4568597241f57b8", func := "hostler/hostlerlaw05.DiskRoom", spec := "diskRoom", recurses := true, apart := false }
def DiskRoomSaid : Prop := diskRoomRow.holds Try.pinned (OpenSpec.ofChange diskRoomSpec)

/-- ITS FALSE NEIGHBOUR: 'it returns false'. Refute it at one input. -/
def diskRoomWrong : ChangeSpec := { name := "diskRoom", fn := fun _ => fun
  | [d1, d2, d3] => { results := [.lit (.bool false)], args := [d1, d2, d3] }
  | _ => none }
def DiskRoomWrongFalsely : Prop := diskRoomRow.holds Try.pinned (OpenSpec.ofChange diskRoomWrong)

/-- 'hostlerlaw05.DiskNames': WHATEVER THE INPUT: true; the input reads as it did. -/
def diskNamesSpec : ChangeSpec := { name := "diskNames", fn := fun _ => fun
  | [d1, d2] => { results := [.lit (.bool true)], args := [d1, d2] }
  | _ => none }
def diskNamesRow : OpenClaim := { program := "ytojmolefgjpaoaa", sum := "4c4c456b7efbb4c85288d91bbcde2c9b17c3e7b313ba41f9c4568597241f57b8", func := "hostler/hostlerlaw05.DiskNames", spec := "diskNames", recurses := true, apart := false }
def DiskNamesSaid : Prop := diskNamesRow.holds Try.pinned (OpenSpec.ofChange diskNamesSpec)

/-- ITS FALSE NEIGHBOUR: 'it returns false'. Refute it at one input. -/
def diskNamesWrong : ChangeSpec := { name := "diskNames", fn := fun _ => fun
  | [d1, d2] => { results := [.lit (.bool false)], args := [d1, d2] }
  | _ => none }
def DiskNamesWrongFalsely : Prop := diskNamesRow.holds Try.pinned (OpenSpec.ofChange diskNamesWrong)

/-- 'hostlerlaw05.DiskOwn': WHATEVER THE INPUT: true; the input reads as it did. -/
def diskOwnSpec : ChangeSpec := { name := "diskOwn", fn := fun _ => fun
  | [d] => { results := [.lit (.bool true)], args := [d] }
  | _ => none }
def diskOwnRow : OpenClaim := { program := "ytojmolefgjpaoaa", sum := "4c4c456b7efbb4c85288d91bbcde2c9b17c3e7b313ba41f9c4568597241f57b8", func := "hostler/hostlerlaw05.DiskOwn", spec := "diskOwn", recurses := true, apart := false }
def DiskOwnSaid : Prop := diskOwnRow.holds Try.pinned (OpenSpec.ofChange diskOwnSpec)

/-- ITS FALSE NEIGHBOUR: 'it returns false'. Refute it at one input. -/
def diskOwnWrong : ChangeSpec := { name := "diskOwn", fn := fun _ => fun
  | [d] => { results := [.lit (.bool false)], args := [d] }
  | _ => none }
def DiskOwnWrongFalsely : Prop := diskOwnRow.holds Try.pinned (OpenSpec.ofChange diskOwnWrong)

/-- 'hostlerlaw09.LifeRows': WHATEVER THE INPUT: true; the input reads as it did. -/
def lifeRowsSpec : ChangeSpec := { name := "lifeRows", fn := fun _ => fun
  | [d1, d2, d3] => { results := [.lit (.bool true)], args := [d1, d2, d3] }
  | _ => none }
def lifeRowsRow : OpenClaim := { program := "ytojmolefgjpaoaa", sum := "4c4c456b7efbb4c85288d91bbcde2c9b17c3e7b313ba41f9c4568597241f57b8", func := "hostler/hostlerlaw09.LifeRows", spec := "lifeRows", apart := false }
def LifeRowsSaid : Prop := lifeRowsRow.holds Try.pinned (OpenSpec.ofChange lifeRowsSpec)

/-- ITS FALSE NEIGHBOUR: 'it returns false'. Refute it at one input. -/
def lifeRowsWrong : ChangeSpec := { name := "lifeRows", fn := fun _ => fun
  | [d1, d2, d3] => { results := [.lit (.bool false)], args := [d1, d2, d3] }
  | _ => none }
def LifeRowsWrongFalsely : Prop := lifeRowsRow.holds Try.pinned (OpenSpec.ofChange lifeRowsWrong)

/-- 'hostlerlaw11.StreamWhole': WHATEVER THE INPUT: true; the input reads as it did. -/
def streamWholeSpec : ChangeSpec := { name := "streamWhole", fn := fun _ => fun
  | [d1, d2, d3, d4] => { results := [.lit (.bool true)], args := [d1, d2, d3, d4] }
  | _ => none }
def streamWholeRow : OpenClaim := { program := "ytojmolefgjpaoaa", sum := "4c4c456b7efbb4c85288d91bbcde2c9b17c3e7b313ba41f9c4568597241f57b8", func := "hostler/hostlerlaw11.StreamWhole", spec := "streamWhole", apart := false }
def StreamWholeSaid : Prop := streamWholeRow.holds Try.pinned (OpenSpec.ofChange streamWholeSpec)

/-- ITS FALSE NEIGHBOUR: 'it returns false'. Refute it at one input. -/
def streamWholeWrong : ChangeSpec := { name := "streamWhole", fn := fun _ => fun
  | [d1, d2, d3, d4] => { results := [.lit (.bool false)], args := [d1, d2, d3, d4] }
  | _ => none }
def StreamWholeWrongFalsely : Prop := streamWholeRow.holds Try.pinned (OpenSpec.ofChange streamWholeWrong)

/-- 'hostlerlaw11.StreamOwn': WHATEVER THE INPUT: true; the input reads as it did. -/
def streamOwnSpec : ChangeSpec := { name := "streamOwn", fn := fun _ => fun
  | [d] => { results := [.lit (.bool true)], args := [d] }
  | _ => none }
def streamOwnRow : OpenClaim := { program := "ytojmolefgjpaoaa", sum := "4c4c456b7efbb4c85288d91bbcde2c9b17c3e7b313ba41f9c4568597241f57b8", func := "hostler/hostlerlaw11.StreamOwn", spec := "streamOwn", apart := false }
def StreamOwnSaid : Prop := streamOwnRow.holds Try.pinned (OpenSpec.ofChange streamOwnSpec)

/-- ITS FALSE NEIGHBOUR: 'it returns false'. Refute it at one input. -/
def streamOwnWrong : ChangeSpec := { name := "streamOwn", fn := fun _ => fun
  | [d] => { results := [.lit (.bool false)], args := [d] }
  | _ => none }
def StreamOwnWrongFalsely : Prop := streamOwnRow.holds Try.pinned (OpenSpec.ofChange streamOwnWrong)

/-- 'hostlerlaw13.AdmitForms': WHATEVER THE INPUT: true; the input reads as it did. -/
def admitFormsSpec : ChangeSpec := { name := "admitForms", fn := fun _ => fun
  | [d1, d2, d3] => { results := [.lit (.bool true)], args := [d1, d2, d3] }
  | _ => none }
def admitFormsRow : OpenClaim := { program := "ytojmolefgjpaoaa", sum := "4c4c456b7efbb4c85288d91bbcde2c9b17c3e7b313ba41f9c4568597241f57b8", func := "hostler/hostlerlaw13.AdmitForms", spec := "admitForms", inPlace := ["math.archTrunc", "math.Float64bits", "math.Float64frombits"], apart := false }
def AdmitFormsSaid : Prop := admitFormsRow.holds Try.pinned (OpenSpec.ofChange admitFormsSpec)

/-- ITS FALSE NEIGHBOUR: 'it returns false'. Refute it at one input. -/
def admitFormsWrong : ChangeSpec := { name := "admitForms", fn := fun _ => fun
  | [d1, d2, d3] => { results := [.lit (.bool false)], args := [d1, d2, d3] }
  | _ => none }
def AdmitFormsWrongFalsely : Prop := admitFormsRow.holds Try.pinned (OpenSpec.ofChange admitFormsWrong)

/-- 'hostlerlaw13.AdmitNew': WHATEVER THE INPUT: true; the input reads as it did. -/
def admitNewSpec : ChangeSpec := { name := "admitNew", fn := fun _ => fun
  | [d1, d2, d3] => { results := [.lit (.bool true)], args := [d1, d2, d3] }
  | _ => none }
def admitNewRow : OpenClaim := { program := "ytojmolefgjpaoaa", sum := "4c4c456b7efbb4c85288d91bbcde2c9b17c3e7b313ba41f9c4568597241f57b8", func := "hostler/hostlerlaw13.AdmitNew", spec := "admitNew", inPlace := ["math.archTrunc", "math.Float64bits", "math.Float64frombits"], apart := false }
def AdmitNewSaid : Prop := admitNewRow.holds Try.pinned (OpenSpec.ofChange admitNewSpec)

/-- ITS FALSE NEIGHBOUR: 'it returns false'. Refute it at one input. -/
def admitNewWrong : ChangeSpec := { name := "admitNew", fn := fun _ => fun
  | [d1, d2, d3] => { results := [.lit (.bool false)], args := [d1, d2, d3] }
  | _ => none }
def AdmitNewWrongFalsely : Prop := admitNewRow.holds Try.pinned (OpenSpec.ofChange admitNewWrong)

/-- 'hostlerlaw15.BinCopies': WHATEVER THE INPUT: true; the input reads as it did. -/
def binCopiesSpec : ChangeSpec := { name := "binCopies", fn := fun _ => fun
  | [d1, d2] => { results := [.lit (.bool true)], args := [d1, d2] }
  | _ => none }
def binCopiesRow : OpenClaim := { program := "ytojmolefgjpaoaa", sum := "4c4c456b7efbb4c85288d91bbcde2c9b17c3e7b313ba41f9c4568597241f57b8", func := "hostler/hostlerlaw15.BinCopies", spec := "binCopies", inPlace := ["slices.overlaps[hostler/bin.Box]"], apart := false }
def BinCopiesSaid : Prop := binCopiesRow.holds Try.pinned (OpenSpec.ofChange binCopiesSpec)

/-- ITS FALSE NEIGHBOUR: 'it returns false'. Refute it at one input. -/
def binCopiesWrong : ChangeSpec := { name := "binCopies", fn := fun _ => fun
  | [d1, d2] => { results := [.lit (.bool false)], args := [d1, d2] }
  | _ => none }
def BinCopiesWrongFalsely : Prop := binCopiesRow.holds Try.pinned (OpenSpec.ofChange binCopiesWrong)

/- THE SECOND FORM. 'bulk': how many values and letters a reading holds, each counted each time it is reached (what is shared counts as often as it is met; a slice's spare places count too). A statement '..UptoSaid' is the law's where the arguments, and the package variables that the reading takes, are together of bulk at most 1048576: NARROWER than '..Said'. Prove '..Said' where nothing that the law and all that it calls make is longer than what came in: it says more and counts as full. Else prove '..UptoSaid'. A law counts once. -/
mutual
def uptoBulk {H : Type} : DataW H → Nat
  | .lit (.string bytes) => bytes.length + 1
  | .lit _ => 1
  | .nil => 1
  | .ptr d => uptoBulk d + 1
  | .slice elems spare => uptoBulkAll elems + uptoBulkAll spare + 1
  | .agg parts => uptoBulkAll parts + 1
  | .iface _ d => uptoBulk d + 1
  | .map entries => uptoBulkEntries entries + 1
  | .held _ => 1
def uptoBulkAll {H : Type} : List (DataW H) → Nat
  | [] => 0
  | d :: r => uptoBulk d + uptoBulkAll r
def uptoBulkEntries {H : Type} : List (Lit × DataW H) → Nat
  | [] => 0
  | x :: r => uptoBulkEntry x + uptoBulkEntries r
def uptoBulkEntry {H : Type} : Lit × DataW H → Nat
  | (.string bytes, d) => bytes.length + uptoBulk d + 1
  | (_, d) => uptoBulk d + 1
 end
def uptoSmall : (H : Type) → List (DataW H) → Bool := fun _ ds => decide (uptoBulkAll ds ≤ 1048576)
def OpenSpec.upto (s : _root_.Go.ChangeSpec) : _root_.Go.OpenSpec := { _root_.Go.OpenSpec.ofChange s with cond := some uptoSmall }

/-- 'hostlerlaw04.MessageForms', WHERE WHAT IT READS IS OF BULK AT MOST 1048576: true; the input reads as it did. -/
def messageFormsUptoRow : OpenClaim := { program := "ytojmolefgjpaoaa", sum := "4c4c456b7efbb4c85288d91bbcde2c9b17c3e7b313ba41f9c4568597241f57b8", func := "hostler/hostlerlaw04.MessageForms", spec := "messageForms", inPlace := ["math.archTrunc", "math.Float64bits", "math.Float64frombits"], apart := false, narrowed := true }
def MessageFormsUptoSaid : Prop := messageFormsUptoRow.holds Try.pinned (OpenSpec.upto messageFormsSpec)

/-- 'hostlerlaw04.MessageErrors', WHERE WHAT IT READS IS OF BULK AT MOST 1048576: true; the input reads as it did. -/
def messageErrorsUptoRow : OpenClaim := { program := "ytojmolefgjpaoaa", sum := "4c4c456b7efbb4c85288d91bbcde2c9b17c3e7b313ba41f9c4568597241f57b8", func := "hostler/hostlerlaw04.MessageErrors", spec := "messageErrors", inPlace := ["math.archTrunc", "math.Float64bits", "math.Float64frombits"], apart := false, narrowed := true }
def MessageErrorsUptoSaid : Prop := messageErrorsUptoRow.holds Try.pinned (OpenSpec.upto messageErrorsSpec)

/-- 'hostlerlaw05.DiskRoom', WHERE WHAT IT READS IS OF BULK AT MOST 1048576: true; the input reads as it did. -/
def diskRoomUptoRow : OpenClaim := { program := "ytojmolefgjpaoaa", sum := "4c4c456b7efbb4c85288d91bbcde2c9b17c3e7b313ba41f9c4568597241f57b8", func := "hostler/hostlerlaw05.DiskRoom", spec := "diskRoom", recurses := true, apart := false, narrowed := true }
def DiskRoomUptoSaid : Prop := diskRoomUptoRow.holds Try.pinned (OpenSpec.upto diskRoomSpec)

/-- 'hostlerlaw05.DiskNames', WHERE WHAT IT READS IS OF BULK AT MOST 1048576: true; the input reads as it did. -/
def diskNamesUptoRow : OpenClaim := { program := "ytojmolefgjpaoaa", sum := "4c4c456b7efbb4c85288d91bbcde2c9b17c3e7b313ba41f9c4568597241f57b8", func := "hostler/hostlerlaw05.DiskNames", spec := "diskNames", recurses := true, apart := false, narrowed := true }
def DiskNamesUptoSaid : Prop := diskNamesUptoRow.holds Try.pinned (OpenSpec.upto diskNamesSpec)

/-- 'hostlerlaw05.DiskOwn', WHERE WHAT IT READS IS OF BULK AT MOST 1048576: true; the input reads as it did. -/
def diskOwnUptoRow : OpenClaim := { program := "ytojmolefgjpaoaa", sum := "4c4c456b7efbb4c85288d91bbcde2c9b17c3e7b313ba41f9c4568597241f57b8", func := "hostler/hostlerlaw05.DiskOwn", spec := "diskOwn", recurses := true, apart := false, narrowed := true }
def DiskOwnUptoSaid : Prop := diskOwnUptoRow.holds Try.pinned (OpenSpec.upto diskOwnSpec)

/-- 'hostlerlaw09.LifeRows', WHERE WHAT IT READS IS OF BULK AT MOST 1048576: true; the input reads as it did. -/
def lifeRowsUptoRow : OpenClaim := { program := "ytojmolefgjpaoaa", sum := "4c4c456b7efbb4c85288d91bbcde2c9b17c3e7b313ba41f9c4568597241f57b8", func := "hostler/hostlerlaw09.LifeRows", spec := "lifeRows", apart := false, narrowed := true }
def LifeRowsUptoSaid : Prop := lifeRowsUptoRow.holds Try.pinned (OpenSpec.upto lifeRowsSpec)

/-- 'hostlerlaw11.StreamWhole', WHERE WHAT IT READS IS OF BULK AT MOST 1048576: true; the input reads as it did. -/
def streamWholeUptoRow : OpenClaim := { program := "ytojmolefgjpaoaa", sum := "4c4c456b7efbb4c85288d91bbcde2c9b17c3e7b313ba41f9c4568597241f57b8", func := "hostler/hostlerlaw11.StreamWhole", spec := "streamWhole", apart := false, narrowed := true }
def StreamWholeUptoSaid : Prop := streamWholeUptoRow.holds Try.pinned (OpenSpec.upto streamWholeSpec)

/-- 'hostlerlaw11.StreamOwn', WHERE WHAT IT READS IS OF BULK AT MOST 1048576: true; the input reads as it did. -/
def streamOwnUptoRow : OpenClaim := { program := "ytojmolefgjpaoaa", sum := "4c4c456b7efbb4c85288d91bbcde2c9b17c3e7b313ba41f9c4568597241f57b8", func := "hostler/hostlerlaw11.StreamOwn", spec := "streamOwn", apart := false, narrowed := true }
def StreamOwnUptoSaid : Prop := streamOwnUptoRow.holds Try.pinned (OpenSpec.upto streamOwnSpec)

/-- 'hostlerlaw13.AdmitForms', WHERE WHAT IT READS IS OF BULK AT MOST 1048576: true; the input reads as it did. -/
def admitFormsUptoRow : OpenClaim := { program := "ytojmolefgjpaoaa", sum := "4c4c456b7efbb4c85288d91bbcde2c9b17c3e7b313ba41f9c4568597241f57b8", func := "hostler/hostlerlaw13.AdmitForms", spec := "admitForms", inPlace := ["math.archTrunc", "math.Float64bits", "math.Float64frombits"], apart := false, narrowed := true }
def AdmitFormsUptoSaid : Prop := admitFormsUptoRow.holds Try.pinned (OpenSpec.upto admitFormsSpec)

/-- 'hostlerlaw13.AdmitNew', WHERE WHAT IT READS IS OF BULK AT MOST 1048576: true; the input reads as it did. -/
def admitNewUptoRow : OpenClaim := { program := "ytojmolefgjpaoaa", sum := "4c4c456b7efbb4c85288d91bbcde2c9b17c3e7b313ba41f9c4568597241f57b8", func := "hostler/hostlerlaw13.AdmitNew", spec := "admitNew", inPlace := ["math.archTrunc", "math.Float64bits", "math.Float64frombits"], apart := false, narrowed := true }
def AdmitNewUptoSaid : Prop := admitNewUptoRow.holds Try.pinned (OpenSpec.upto admitNewSpec)

/-- 'hostlerlaw15.BinCopies', WHERE WHAT IT READS IS OF BULK AT MOST 1048576: true; the input reads as it did. -/
def binCopiesUptoRow : OpenClaim := { program := "ytojmolefgjpaoaa", sum := "4c4c456b7efbb4c85288d91bbcde2c9b17c3e7b313ba41f9c4568597241f57b8", func := "hostler/hostlerlaw15.BinCopies", spec := "binCopies", inPlace := ["slices.overlaps[hostler/bin.Box]"], apart := false, narrowed := true }
def BinCopiesUptoSaid : Prop := binCopiesUptoRow.holds Try.pinned (OpenSpec.upto binCopiesSpec)

end Rows
end Go.Proofs.Ytojmolefgjpaoaa
