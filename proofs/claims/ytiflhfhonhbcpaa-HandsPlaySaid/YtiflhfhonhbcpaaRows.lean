/-
  No cell of these rows narrows 'for every input' (looked for: loops, veiled, ifaces, maps, wideKeys, modest, calm, conditions, laid).
  DERIVED. THE GIVEN ROWS OF THIS SEAT. 6 by the template 'for every input the law returns true; each argument reads behind the call as it read before'; 0 by the template 'total and deterministic' (their statements: YtiflhfhonhbcpaaTotals.lean).
  GIVEN WITH THE SEED: the statements are not yours to turn. If you find one false, say at which input.
  Laid BY PROGRAM, IN A SANDBOX (cutbox-rows.mjs): the forced cells as the released guide's own fill.sh prints them over the translation 33e30c409b79377c… (all of the seat's roots in one cut). By AI agents, Wed Nov 11 2026. No macro, syntax, notation, axiom, sorry.
-/
import Derived.Test.YtiflhfhonhbcpaaChecked
import GoSem.Claim
import GoSem.ClaimJoined
import GoSem.ClaimMapViews
import Derived.JoinedTies
import Derived.KernelRfl
namespace Go.Proofs.Ytiflhfhonhbcpaa
/- THE CELL 'sum', in the pinned program and in every row, IS THE sha256 OF THE DUMP (.gsa) THAT YtiflhfhonhbcpaaProg.lean LOADS. Nothing in Lean hashes anything: it is a label: what it is worth is what the hold of that sum in a sandbox is worth. -/
noncomputable def Try.pinned : Pinned := { name := "ytiflhfhonhbcpaa", sum := "33e30c409b79377c58a61810416abaefc4db8ac1e725cb0614da7c90d74114a0", checked := Try.checked }
namespace Rows
def none {H : Type} : Left H := { results := [], args := [] }

/-- 'hostlerlaw23.HandsHello': WHATEVER THE INPUT: true; the input reads as it did. -/
def handsHelloSpec : ChangeSpec := { name := "handsHello", fn := fun _ => fun
  | [d1, d2] => { results := [.lit (.bool true)], args := [d1, d2] }
  | _ => none }
def handsHelloRow : OpenClaim := { program := "ytiflhfhonhbcpaa", sum := "33e30c409b79377c58a61810416abaefc4db8ac1e725cb0614da7c90d74114a0", func := "hostler/hostlerlaw23.HandsHello", spec := "handsHello", unfollowed := true, recurses := true, plainKeys := false, apart := false }
def HandsHelloSaid : Prop := handsHelloRow.holds Try.pinned (OpenSpec.ofChange handsHelloSpec)

/-- ITS FALSE NEIGHBOUR: 'it returns false'. Refute it at one input. -/
def handsHelloWrong : ChangeSpec := { name := "handsHello", fn := fun _ => fun
  | [d1, d2] => { results := [.lit (.bool false)], args := [d1, d2] }
  | _ => none }
def HandsHelloWrongFalsely : Prop := handsHelloRow.holds Try.pinned (OpenSpec.ofChange handsHelloWrong)

/-- 'hostlerlaw22.MasterHears': WHATEVER THE INPUT: true; the input reads as it did. -/
def masterHearsSpec : ChangeSpec := { name := "masterHears", fn := fun _ => fun
  | [d1, d2, d3, d4] => { results := [.lit (.bool true)], args := [d1, d2, d3, d4] }
  | _ => none }
def masterHearsRow : OpenClaim := { program := "ytiflhfhonhbcpaa", sum := "33e30c409b79377c58a61810416abaefc4db8ac1e725cb0614da7c90d74114a0", func := "hostler/hostlerlaw22.MasterHears", spec := "masterHears", plainKeys := false, apart := false }
def MasterHearsSaid : Prop := masterHearsRow.holds Try.pinned (OpenSpec.ofChange masterHearsSpec)

/-- ITS FALSE NEIGHBOUR: 'it returns false'. Refute it at one input. -/
def masterHearsWrong : ChangeSpec := { name := "masterHears", fn := fun _ => fun
  | [d1, d2, d3, d4] => { results := [.lit (.bool false)], args := [d1, d2, d3, d4] }
  | _ => none }
def MasterHearsWrongFalsely : Prop := masterHearsRow.holds Try.pinned (OpenSpec.ofChange masterHearsWrong)

/-- 'hostlerlaw23.HandsPlay': WHATEVER THE INPUT: true; the input reads as it did. -/
def handsPlaySpec : ChangeSpec := { name := "handsPlay", fn := fun _ => fun
  | [d1, d2, d3] => { results := [.lit (.bool true)], args := [d1, d2, d3] }
  | _ => none }
def handsPlayRow : OpenClaim := { program := "ytiflhfhonhbcpaa", sum := "33e30c409b79377c58a61810416abaefc4db8ac1e725cb0614da7c90d74114a0", func := "hostler/hostlerlaw23.HandsPlay", spec := "handsPlay", unfollowed := true, recurses := true, plainKeys := false, apart := false }
def HandsPlaySaid : Prop := handsPlayRow.holds Try.pinned (OpenSpec.ofChange handsPlaySpec)

/-- ITS FALSE NEIGHBOUR: 'it returns false'. Refute it at one input. -/
def handsPlayWrong : ChangeSpec := { name := "handsPlay", fn := fun _ => fun
  | [d1, d2, d3] => { results := [.lit (.bool false)], args := [d1, d2, d3] }
  | _ => none }
def HandsPlayWrongFalsely : Prop := handsPlayRow.holds Try.pinned (OpenSpec.ofChange handsPlayWrong)

/-- 'hostlerlaw15.BinOrder': WHATEVER THE INPUT: true; the input reads as it did. -/
def binOrderSpec : ChangeSpec := { name := "binOrder", fn := fun _ => fun
  | [d1, d2, d3] => { results := [.lit (.bool true)], args := [d1, d2, d3] }
  | _ => none }
def binOrderRow : OpenClaim := { program := "ytiflhfhonhbcpaa", sum := "33e30c409b79377c58a61810416abaefc4db8ac1e725cb0614da7c90d74114a0", func := "hostler/hostlerlaw15.BinOrder", spec := "binOrder", inPlace := ["slices.overlaps[hostler/bin.Box]"], plainKeys := false, apart := false }
def BinOrderSaid : Prop := binOrderRow.holds Try.pinned (OpenSpec.ofChange binOrderSpec)

/-- ITS FALSE NEIGHBOUR: 'it returns false'. Refute it at one input. -/
def binOrderWrong : ChangeSpec := { name := "binOrder", fn := fun _ => fun
  | [d1, d2, d3] => { results := [.lit (.bool false)], args := [d1, d2, d3] }
  | _ => none }
def BinOrderWrongFalsely : Prop := binOrderRow.holds Try.pinned (OpenSpec.ofChange binOrderWrong)

/-- 'hostlerlaw15.BinPlays': WHATEVER THE INPUT: true; the input reads as it did. -/
def binPlaysSpec : ChangeSpec := { name := "binPlays", fn := fun _ => fun
  | [d1, d2, d3] => { results := [.lit (.bool true)], args := [d1, d2, d3] }
  | _ => none }
def binPlaysRow : OpenClaim := { program := "ytiflhfhonhbcpaa", sum := "33e30c409b79377c58a61810416abaefc4db8ac1e725cb0614da7c90d74114a0", func := "hostler/hostlerlaw15.BinPlays", spec := "binPlays", inPlace := ["slices.overlaps[hostler/bin.Box]"], plainKeys := false, apart := false }
def BinPlaysSaid : Prop := binPlaysRow.holds Try.pinned (OpenSpec.ofChange binPlaysSpec)

/-- ITS FALSE NEIGHBOUR: 'it returns false'. Refute it at one input. -/
def binPlaysWrong : ChangeSpec := { name := "binPlays", fn := fun _ => fun
  | [d1, d2, d3] => { results := [.lit (.bool false)], args := [d1, d2, d3] }
  | _ => none }
def BinPlaysWrongFalsely : Prop := binPlaysRow.holds Try.pinned (OpenSpec.ofChange binPlaysWrong)

/-- 'hostlerlaw15.BinCopies': WHATEVER THE INPUT: true; the input reads as it did. -/
def binCopiesSpec : ChangeSpec := { name := "binCopies", fn := fun _ => fun
  | [d1, d2] => { results := [.lit (.bool true)], args := [d1, d2] }
  | _ => none }
def binCopiesRow : OpenClaim := { program := "ytiflhfhonhbcpaa", sum := "33e30c409b79377c58a61810416abaefc4db8ac1e725cb0614da7c90d74114a0", func := "hostler/hostlerlaw15.BinCopies", spec := "binCopies", inPlace := ["slices.overlaps[hostler/bin.Box]"], plainKeys := false, apart := false }
def BinCopiesSaid : Prop := binCopiesRow.holds Try.pinned (OpenSpec.ofChange binCopiesSpec)

/-- ITS FALSE NEIGHBOUR: 'it returns false'. Refute it at one input. -/
def binCopiesWrong : ChangeSpec := { name := "binCopies", fn := fun _ => fun
  | [d1, d2] => { results := [.lit (.bool false)], args := [d1, d2] }
  | _ => none }
def BinCopiesWrongFalsely : Prop := binCopiesRow.holds Try.pinned (OpenSpec.ofChange binCopiesWrong)

/- THE SECOND FORM. 'bulk': how many values and letters a reading holds, each counted each time it is reached (what is shared counts as often as it is met; a slice's spare places count too). A statement '..UptoSaid' is the law's where the arguments, and the package variables that the reading takes, are together of bulk at most 1048576: NARROWER than '..Said'. Prove '..Said' where nothing that the law and all that it calls make is longer than what came in: it says more and counts as full. Else prove '..UptoSaid'. A law counts once. -/
mutual
def uptoBulk {H : Type} : DataW H → Nat
  | .lit (.string bytes) => bytes.length + 1
  | .lit _ => 1
  | .nil => 1
  | .ptr d => uptoBulk d + 1
  | .slice elems spare => uptoBulkAll elems + uptoBulkAll spare + 1
  | .agg parts => uptoBulkAll parts + 1
  | .iface _ d => uptoBulk d + 1
  | .map entries => uptoBulkEntries entries + 1
  | .held _ => 1
def uptoBulkAll {H : Type} : List (DataW H) → Nat
  | [] => 0
  | d :: r => uptoBulk d + uptoBulkAll r
def uptoBulkEntries {H : Type} : List (Lit × DataW H) → Nat
  | [] => 0
  | x :: r => uptoBulkEntry x + uptoBulkEntries r
def uptoBulkEntry {H : Type} : Lit × DataW H → Nat
  | (.string bytes, d) => bytes.length + uptoBulk d + 1
  | (_, d) => uptoBulk d + 1
 end
def uptoSmall : (H : Type) → List (DataW H) → Bool := fun _ ds => decide (uptoBulkAll ds ≤ 1048576)
def OpenSpec.upto (s : _root_.Go.ChangeSpec) : _root_.Go.OpenSpec := { _root_.Go.OpenSpec.ofChange s with cond := some uptoSmall }

/-- 'hostlerlaw23.HandsHello', WHERE WHAT IT READS IS OF BULK AT MOST 1048576: true; the input reads as it did. -/
def handsHelloUptoRow : OpenClaim := { program := "ytiflhfhonhbcpaa", sum := "33e30c409b79377c58a61810416abaefc4db8ac1e725cb0614da7c90d74114a0", func := "hostler/hostlerlaw23.HandsHello", spec := "handsHello", unfollowed := true, recurses := true, plainKeys := false, apart := false, narrowed := true }
def HandsHelloUptoSaid : Prop := handsHelloUptoRow.holds Try.pinned (OpenSpec.upto handsHelloSpec)

/-- 'hostlerlaw22.MasterHears', WHERE WHAT IT READS IS OF BULK AT MOST 1048576: true; the input reads as it did. -/
def masterHearsUptoRow : OpenClaim := { program := "ytiflhfhonhbcpaa", sum := "33e30c409b79377c58a61810416abaefc4db8ac1e725cb0614da7c90d74114a0", func := "hostler/hostlerlaw22.MasterHears", spec := "masterHears", plainKeys := false, apart := false, narrowed := true }
def MasterHearsUptoSaid : Prop := masterHearsUptoRow.holds Try.pinned (OpenSpec.upto masterHearsSpec)

/-- 'hostlerlaw23.HandsPlay', WHERE WHAT IT READS IS OF BULK AT MOST 1048576: true; the input reads as it did. -/
def handsPlayUptoRow : OpenClaim := { program := "ytiflhfhonhbcpaa", sum := "33e30c409b79377c58a61810416abaefc4db8ac1e725cb0614da7c90d74114a0", func := "hostler/hostlerlaw23.HandsPlay", spec := "handsPlay", unfollowed := true, recurses := true, plainKeys := false, apart := false, narrowed := true }
def HandsPlayUptoSaid : Prop := handsPlayUptoRow.holds Try.pinned (OpenSpec.upto handsPlaySpec)

/-- 'hostlerlaw15.BinOrder', WHERE WHAT IT READS IS OF BULK AT MOST 1048576: true; the input reads as it did. -/
def binOrderUptoRow : OpenClaim := { program := "ytiflhfhonhbcpaa", sum := "33e30c409b79377c58a61810416abaefc4db8ac1e725cb0614da7c90d74114a0", func := "hostler/hostlerlaw15.BinOrder", spec := "binOrder", inPlace := ["slices.overlaps[hostler/bin.Box]"], plainKeys := false, apart := false, narrowed := true }
def BinOrderUptoSaid : Prop := binOrderUptoRow.holds Try.pinned (OpenSpec.upto binOrderSpec)

/-- 'hostlerlaw15.BinPlays', WHERE WHAT IT READS IS OF BULK AT MOST 1048576: true; the input reads as it did. -/
def binPlaysUptoRow : OpenClaim := { program := "ytiflhfhonhbcpaa", sum := "33e30c409b79377c58a61810416abaefc4db8ac1e725cb0614da7c90d74114a0", func := "hostler/hostlerlaw15.BinPlays", spec := "binPlays", inPlace := ["slices.overlaps[hostler/bin.Box]"], plainKeys := false, apart := false, narrowed := true }
def BinPlaysUptoSaid : Prop := binPlaysUptoRow.holds Try.pinned (OpenSpec.upto binPlaysSpec)

/-- 'hostlerlaw15.BinCopies', WHERE WHAT IT READS IS OF BULK AT MOST 1048576: true; the input reads as it did. -/
def binCopiesUptoRow : OpenClaim := { program := "ytiflhfhonhbcpaa", sum := "33e30c409b79377c58a61810416abaefc4db8ac1e725cb0614da7c90d74114a0", func := "hostler/hostlerlaw15.BinCopies", spec := "binCopies", inPlace := ["slices.overlaps[hostler/bin.Box]"], plainKeys := false, apart := false, narrowed := true }
def BinCopiesUptoSaid : Prop := binCopiesUptoRow.holds Try.pinned (OpenSpec.upto binCopiesSpec)

end Rows
end Go.Proofs.Ytiflhfhonhbcpaa
