/-
  No cell of these rows narrows 'for every input' (looked for: loops, veiled, ifaces, maps, wideKeys, modest, calm, conditions, laid).
  DERIVED. THE GIVEN ROWS OF THIS SEAT. 9 by the template 'for every input the law returns true; each argument reads behind the call as it read before'; 0 by the template 'total and deterministic' (their statements: YtdbnjmpeejoimaaTotals.lean).
  GIVEN WITH THE SEED: the statements are not yours to turn. If you find one false, say at which input.
  Laid BY PROGRAM, IN A SANDBOX (cutbox-rows.mjs): the forced cells as the released guide's own fill.sh prints them over the translation e73a82f6afdc514c… (all of the seat's roots in one cut). By AI agents, Wed Nov 11 2026. No macro, syntax, notation, axiom, sorry.
-/
import Derived.Test.YtdbnjmpeejoimaaChecked
import GoSem.Claim
import GoSem.ClaimJoined
import GoSem.ClaimMapViews
import Derived.JoinedTies
import Derived.KernelRfl
namespace Go.Proofs.Ytdbnjmpeejoimaa
/- THE CELL 'sum', in the pinned program and in every row, IS THE sha256 OF THE DUMP (.gsa) THAT YtdbnjmpeejoimaaProg.lean LOADS. Nothing in Lean hashes anything: it is a label: what it is worth is what the hold of that sum in a sandbox is worth. -/
noncomputable def Try.pinned : Pinned := { name := "ytdbnjmpeejoimaa", sum := "e73a82f6afdc514cb8f2245fc1fad5622c9416d2df589b79f82a6a64f8718e3c", checked := Try.checked }
namespace Rows
def none {H : Type} : Left H := { results := [], args := [] }

/-- 'hostlerlaw23.HandsWork': WHATEVER THE INPUT: true; the input reads as it did. -/
def handsWorkSpec : ChangeSpec := { name := "handsWork", fn := fun _ => fun
  | [d1, d2, d3] => { results := [.lit (.bool true)], args := [d1, d2, d3] }
  | _ => none }
def handsWorkRow : OpenClaim := { program := "ytdbnjmpeejoimaa", sum := "e73a82f6afdc514cb8f2245fc1fad5622c9416d2df589b79f82a6a64f8718e3c", func := "hostler/hostlerlaw23.HandsWork", spec := "handsWork", unfollowed := true, recurses := true, plainKeys := false, apart := false }
def HandsWorkSaid : Prop := handsWorkRow.holds Try.pinned (OpenSpec.ofChange handsWorkSpec)

/-- ITS FALSE NEIGHBOUR: 'it returns false'. Refute it at one input. -/
def handsWorkWrong : ChangeSpec := { name := "handsWork", fn := fun _ => fun
  | [d1, d2, d3] => { results := [.lit (.bool false)], args := [d1, d2, d3] }
  | _ => none }
def HandsWorkWrongFalsely : Prop := handsWorkRow.holds Try.pinned (OpenSpec.ofChange handsWorkWrong)

/-- 'hostlerlaw23.HandsApart': WHATEVER THE INPUT: true; the input reads as it did. -/
def handsApartSpec : ChangeSpec := { name := "handsApart", fn := fun _ => fun
  | [d] => { results := [.lit (.bool true)], args := [d] }
  | _ => none }
def handsApartRow : OpenClaim := { program := "ytdbnjmpeejoimaa", sum := "e73a82f6afdc514cb8f2245fc1fad5622c9416d2df589b79f82a6a64f8718e3c", func := "hostler/hostlerlaw23.HandsApart", spec := "handsApart", unfollowed := true, recurses := true, plainKeys := false, apart := false }
def HandsApartSaid : Prop := handsApartRow.holds Try.pinned (OpenSpec.ofChange handsApartSpec)

/-- ITS FALSE NEIGHBOUR: 'it returns false'. Refute it at one input. -/
def handsApartWrong : ChangeSpec := { name := "handsApart", fn := fun _ => fun
  | [d] => { results := [.lit (.bool false)], args := [d] }
  | _ => none }
def HandsApartWrongFalsely : Prop := handsApartRow.holds Try.pinned (OpenSpec.ofChange handsApartWrong)

/-- 'hostlerlaw25.WatchForms': WHATEVER THE INPUT: true; the input reads as it did. -/
def watchFormsSpec : ChangeSpec := { name := "watchForms", fn := fun _ => fun
  | [d] => { results := [.lit (.bool true)], args := [d] }
  | _ => none }
def watchFormsRow : OpenClaim := { program := "ytdbnjmpeejoimaa", sum := "e73a82f6afdc514cb8f2245fc1fad5622c9416d2df589b79f82a6a64f8718e3c", func := "hostler/hostlerlaw25.WatchForms", spec := "watchForms", plainKeys := false, apart := false }
def WatchFormsSaid : Prop := watchFormsRow.holds Try.pinned (OpenSpec.ofChange watchFormsSpec)

/-- ITS FALSE NEIGHBOUR: 'it returns false'. Refute it at one input. -/
def watchFormsWrong : ChangeSpec := { name := "watchForms", fn := fun _ => fun
  | [d] => { results := [.lit (.bool false)], args := [d] }
  | _ => none }
def WatchFormsWrongFalsely : Prop := watchFormsRow.holds Try.pinned (OpenSpec.ofChange watchFormsWrong)

/-- 'hostlerlaw25.WatchLaunches': WHATEVER THE INPUT: true; the input reads as it did. -/
def watchLaunchesSpec : ChangeSpec := { name := "watchLaunches", fn := fun _ => fun
  | [d] => { results := [.lit (.bool true)], args := [d] }
  | _ => none }
def watchLaunchesRow : OpenClaim := { program := "ytdbnjmpeejoimaa", sum := "e73a82f6afdc514cb8f2245fc1fad5622c9416d2df589b79f82a6a64f8718e3c", func := "hostler/hostlerlaw25.WatchLaunches", spec := "watchLaunches", unfollowed := true, recurses := true, plainKeys := false, apart := false }
def WatchLaunchesSaid : Prop := watchLaunchesRow.holds Try.pinned (OpenSpec.ofChange watchLaunchesSpec)

/-- ITS FALSE NEIGHBOUR: 'it returns false'. Refute it at one input. -/
def watchLaunchesWrong : ChangeSpec := { name := "watchLaunches", fn := fun _ => fun
  | [d] => { results := [.lit (.bool false)], args := [d] }
  | _ => none }
def WatchLaunchesWrongFalsely : Prop := watchLaunchesRow.holds Try.pinned (OpenSpec.ofChange watchLaunchesWrong)

/-- 'hostlerlaw11.StreamOwn': WHATEVER THE INPUT: true; the input reads as it did. -/
def streamOwnSpec : ChangeSpec := { name := "streamOwn", fn := fun _ => fun
  | [d] => { results := [.lit (.bool true)], args := [d] }
  | _ => none }
def streamOwnRow : OpenClaim := { program := "ytdbnjmpeejoimaa", sum := "e73a82f6afdc514cb8f2245fc1fad5622c9416d2df589b79f82a6a64f8718e3c", func := "hostler/hostlerlaw11.StreamOwn", spec := "streamOwn", plainKeys := false, apart := false }
def StreamOwnSaid : Prop := streamOwnRow.holds Try.pinned (OpenSpec.ofChange streamOwnSpec)

/-- ITS FALSE NEIGHBOUR: 'it returns false'. Refute it at one input. -/
def streamOwnWrong : ChangeSpec := { name := "streamOwn", fn := fun _ => fun
  | [d] => { results := [.lit (.bool false)], args := [d] }
  | _ => none }
def StreamOwnWrongFalsely : Prop := streamOwnRow.holds Try.pinned (OpenSpec.ofChange streamOwnWrong)

/-- 'hostlerlaw04.MessageErrors': WHATEVER THE INPUT: true; the input reads as it did. -/
def messageErrorsSpec : ChangeSpec := { name := "messageErrors", fn := fun _ => fun
  | [d] => { results := [.lit (.bool true)], args := [d] }
  | _ => none }
def messageErrorsRow : OpenClaim := { program := "ytdbnjmpeejoimaa", sum := "e73a82f6afdc514cb8f2245fc1fad5622c9416d2df589b79f82a6a64f8718e3c", func := "hostler/hostlerlaw04.MessageErrors", spec := "messageErrors", inPlace := ["math.archTrunc", "math.Float64bits", "math.Float64frombits"], plainKeys := false, apart := false }
def MessageErrorsSaid : Prop := messageErrorsRow.holds Try.pinned (OpenSpec.ofChange messageErrorsSpec)

/-- ITS FALSE NEIGHBOUR: 'it returns false'. Refute it at one input. -/
def messageErrorsWrong : ChangeSpec := { name := "messageErrors", fn := fun _ => fun
  | [d] => { results := [.lit (.bool false)], args := [d] }
  | _ => none }
def MessageErrorsWrongFalsely : Prop := messageErrorsRow.holds Try.pinned (OpenSpec.ofChange messageErrorsWrong)

/-- 'hostlerlaw13.AdmitNew': WHATEVER THE INPUT: true; the input reads as it did. -/
def admitNewSpec : ChangeSpec := { name := "admitNew", fn := fun _ => fun
  | [d1, d2, d3] => { results := [.lit (.bool true)], args := [d1, d2, d3] }
  | _ => none }
def admitNewRow : OpenClaim := { program := "ytdbnjmpeejoimaa", sum := "e73a82f6afdc514cb8f2245fc1fad5622c9416d2df589b79f82a6a64f8718e3c", func := "hostler/hostlerlaw13.AdmitNew", spec := "admitNew", inPlace := ["math.archTrunc", "math.Float64bits", "math.Float64frombits"], plainKeys := false, apart := false }
def AdmitNewSaid : Prop := admitNewRow.holds Try.pinned (OpenSpec.ofChange admitNewSpec)

/-- ITS FALSE NEIGHBOUR: 'it returns false'. Refute it at one input. -/
def admitNewWrong : ChangeSpec := { name := "admitNew", fn := fun _ => fun
  | [d1, d2, d3] => { results := [.lit (.bool false)], args := [d1, d2, d3] }
  | _ => none }
def AdmitNewWrongFalsely : Prop := admitNewRow.holds Try.pinned (OpenSpec.ofChange admitNewWrong)

/-- 'hostlerlaw15.BinCopies': WHATEVER THE INPUT: true; the input reads as it did. -/
def binCopiesSpec : ChangeSpec := { name := "binCopies", fn := fun _ => fun
  | [d1, d2] => { results := [.lit (.bool true)], args := [d1, d2] }
  | _ => none }
def binCopiesRow : OpenClaim := { program := "ytdbnjmpeejoimaa", sum := "e73a82f6afdc514cb8f2245fc1fad5622c9416d2df589b79f82a6a64f8718e3c", func := "hostler/hostlerlaw15.BinCopies", spec := "binCopies", inPlace := ["slices.overlaps[hostler/bin.Box]"], plainKeys := false, apart := false }
def BinCopiesSaid : Prop := binCopiesRow.holds Try.pinned (OpenSpec.ofChange binCopiesSpec)

/-- ITS FALSE NEIGHBOUR: 'it returns false'. Refute it at one input. -/
def binCopiesWrong : ChangeSpec := { name := "binCopies", fn := fun _ => fun
  | [d1, d2] => { results := [.lit (.bool false)], args := [d1, d2] }
  | _ => none }
def BinCopiesWrongFalsely : Prop := binCopiesRow.holds Try.pinned (OpenSpec.ofChange binCopiesWrong)

/-- 'hostlerlaw11.StreamWhole': WHATEVER THE INPUT: true; the input reads as it did. -/
def streamWholeSpec : ChangeSpec := { name := "streamWhole", fn := fun _ => fun
  | [d1, d2, d3, d4] => { results := [.lit (.bool true)], args := [d1, d2, d3, d4] }
  | _ => none }
def streamWholeRow : OpenClaim := { program := "ytdbnjmpeejoimaa", sum := "e73a82f6afdc514cb8f2245fc1fad5622c9416d2df589b79f82a6a64f8718e3c", func := "hostler/hostlerlaw11.StreamWhole", spec := "streamWhole", plainKeys := false, apart := false }
def StreamWholeSaid : Prop := streamWholeRow.holds Try.pinned (OpenSpec.ofChange streamWholeSpec)

/-- ITS FALSE NEIGHBOUR: 'it returns false'. Refute it at one input. -/
def streamWholeWrong : ChangeSpec := { name := "streamWhole", fn := fun _ => fun
  | [d1, d2, d3, d4] => { results := [.lit (.bool false)], args := [d1, d2, d3, d4] }
  | _ => none }
def StreamWholeWrongFalsely : Prop := streamWholeRow.holds Try.pinned (OpenSpec.ofChange streamWholeWrong)

/- THE SECOND FORM. 'bulk': how many values and letters a reading holds, each counted each time it is reached (what is shared counts as often as it is met; a slice's spare places count too). A statement '..UptoSaid' is the law's where the arguments, and the package variables that the reading takes, are together of bulk at most 1048576: NARROWER than '..Said'. Prove '..Said' where nothing that the law and all that it calls make is longer than what came in: it says more and counts as full. Else prove '..UptoSaid'. A law counts once. -/
mutual
def uptoBulk {H : Type} : DataW H → Nat
  | .lit (.string bytes) => bytes.length + 1
  | .lit _ => 1
  | .nil => 1
  | .ptr d => uptoBulk d + 1
  | .slice elems spare => uptoBulkAll elems + uptoBulkAll spare + 1
  | .agg parts => uptoBulkAll parts + 1
  | .iface _ d => uptoBulk d + 1
  | .map entries => uptoBulkEntries entries + 1
  | .held _ => 1
def uptoBulkAll {H : Type} : List (DataW H) → Nat
  | [] => 0
  | d :: r => uptoBulk d + uptoBulkAll r
def uptoBulkEntries {H : Type} : List (Lit × DataW H) → Nat
  | [] => 0
  | x :: r => uptoBulkEntry x + uptoBulkEntries r
def uptoBulkEntry {H : Type} : Lit × DataW H → Nat
  | (.string bytes, d) => bytes.length + uptoBulk d + 1
  | (_, d) => uptoBulk d + 1
 end
def uptoSmall : (H : Type) → List (DataW H) → Bool := fun _ ds => decide (uptoBulkAll ds ≤ 1048576)
def OpenSpec.upto (s : _root_.Go.ChangeSpec) : _root_.Go.OpenSpec := { _root_.Go.OpenSpec.ofChange s with cond := some uptoSmall }

/-- 'hostlerlaw23.HandsWork', WHERE WHAT IT READS IS OF BULK AT MOST 1048576: true; the input reads as it did. -/
def handsWorkUptoRow : OpenClaim := { program := "ytdbnjmpeejoimaa", sum := "e73a82f6afdc514cb8f2245fc1fad5622c9416d2df589b79f82a6a64f8718e3c", func := "hostler/hostlerlaw23.HandsWork", spec := "handsWork", unfollowed := true, recurses := true, plainKeys := false, apart := false, narrowed := true }
def HandsWorkUptoSaid : Prop := handsWorkUptoRow.holds Try.pinned (OpenSpec.upto handsWorkSpec)

/-- 'hostlerlaw23.HandsApart', WHERE WHAT IT READS IS OF BULK AT MOST 1048576: true; the input reads as it did. -/
def handsApartUptoRow : OpenClaim := { program := "ytdbnjmpeejoimaa", sum := "e73a82f6afdc514cb8f2245fc1fad5622c9416d2df589b79f82a6a64f8718e3c", func := "hostler/hostlerlaw23.HandsApart", spec := "handsApart", unfollowed := true, recurses := true, plainKeys := false, apart := false, narrowed := true }
def HandsApartUptoSaid : Prop := handsApartUptoRow.holds Try.pinned (OpenSpec.upto handsApartSpec)

/-- 'hostlerlaw25.WatchForms', WHERE WHAT IT READS IS OF BULK AT MOST 1048576: true; the input reads as it did. -/
def watchFormsUptoRow : OpenClaim := { program := "ytdbnjmpeejoimaa", sum := "e73a82f6afdc514cb8f2245fc1fad5622c9416d2df589b79f82a6a64f8718e3c", func := "hostler/hostlerlaw25.WatchForms", spec := "watchForms", plainKeys := false, apart := false, narrowed := true }
def WatchFormsUptoSaid : Prop := watchFormsUptoRow.holds Try.pinned (OpenSpec.upto watchFormsSpec)

/-- 'hostlerlaw25.WatchLaunches', WHERE WHAT IT READS IS OF BULK AT MOST 1048576: true; the input reads as it did. -/
def watchLaunchesUptoRow : OpenClaim := { program := "ytdbnjmpeejoimaa", sum := "e73a82f6afdc514cb8f2245fc1fad5622c9416d2df589b79f82a6a64f8718e3c", func := "hostler/hostlerlaw25.WatchLaunches", spec := "watchLaunches", unfollowed := true, recurses := true, plainKeys := false, apart := false, narrowed := true }
def WatchLaunchesUptoSaid : Prop := watchLaunchesUptoRow.holds Try.pinned (OpenSpec.upto watchLaunchesSpec)

/-- 'hostlerlaw11.StreamOwn', WHERE WHAT IT READS IS OF BULK AT MOST 1048576: true; the input reads as it did. -/
def streamOwnUptoRow : OpenClaim := { program := "ytdbnjmpeejoimaa", sum := "e73a82f6afdc514cb8f2245fc1fad5622c9416d2df589b79f82a6a64f8718e3c", func := "hostler/hostlerlaw11.StreamOwn", spec := "streamOwn", plainKeys := false, apart := false, narrowed := true }
def StreamOwnUptoSaid : Prop := streamOwnUptoRow.holds Try.pinned (OpenSpec.upto streamOwnSpec)

/-- 'hostlerlaw04.MessageErrors', WHERE WHAT IT READS IS OF BULK AT MOST 1048576: true; the input reads as it did. -/
def messageErrorsUptoRow : OpenClaim := { program := "ytdbnjmpeejoimaa", sum := "e73a82f6afdc514cb8f2245fc1fad5622c9416d2df589b79f82a6a64f8718e3c", func := "hostler/hostlerlaw04.MessageErrors", spec := "messageErrors", inPlace := ["math.archTrunc", "math.Float64bits", "math.Float64frombits"], plainKeys := false, apart := false, narrowed := true }
def MessageErrorsUptoSaid : Prop := messageErrorsUptoRow.holds Try.pinned (OpenSpec.upto messageErrorsSpec)

/-- 'hostlerlaw13.AdmitNew', WHERE WHAT IT READS IS OF BULK AT MOST 1048576: true; the input reads as it did. -/
def admitNewUptoRow : OpenClaim := { program := "ytdbnjmpeejoimaa", sum := "e73a82f6afdc514cb8f2245fc1fad5622c9416d2df589b79f82a6a64f8718e3c", func := "hostler/hostlerlaw13.AdmitNew", spec := "admitNew", inPlace := ["math.archTrunc", "math.Float64bits", "math.Float64frombits"], plainKeys := false, apart := false, narrowed := true }
def AdmitNewUptoSaid : Prop := admitNewUptoRow.holds Try.pinned (OpenSpec.upto admitNewSpec)

/-- 'hostlerlaw15.BinCopies', WHERE WHAT IT READS IS OF BULK AT MOST 1048576: true; the input reads as it did. -/
def binCopiesUptoRow : OpenClaim := { program := "ytdbnjmpeejoimaa", sum := "e73a82f6afdc514cb8f2245fc1fad5622c9416d2df589b79f82a6a64f8718e3c", func := "hostler/hostlerlaw15.BinCopies", spec := "binCopies", inPlace := ["slices.overlaps[hostler/bin.Box]"], plainKeys := false, apart := false, narrowed := true }
def BinCopiesUptoSaid : Prop := binCopiesUptoRow.holds Try.pinned (OpenSpec.upto binCopiesSpec)

/-- 'hostlerlaw11.StreamWhole', WHERE WHAT IT READS IS OF BULK AT MOST 1048576: true; the input reads as it did. -/
def streamWholeUptoRow : OpenClaim := { program := "ytdbnjmpeejoimaa", sum := "e73a82f6afdc514cb8f2245fc1fad5622c9416d2df589b79f82a6a64f8718e3c", func := "hostler/hostlerlaw11.StreamWhole", spec := "streamWhole", plainKeys := false, apart := false, narrowed := true }
def StreamWholeUptoSaid : Prop := streamWholeUptoRow.holds Try.pinned (OpenSpec.upto streamWholeSpec)

end Rows
end Go.Proofs.Ytdbnjmpeejoimaa
