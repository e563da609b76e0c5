/-
  No cell of these rows narrows 'for every input' (looked for: loops, veiled, ifaces, maps, wideKeys, modest, calm, conditions, laid).
  DERIVED. THE GIVEN ROWS OF THIS SEAT. 3 by the template 'for every input the law returns true; each argument reads behind the call as it read before'; 0 by the template 'total and deterministic' (their statements: YtiijhlgeffnpmaaTotals.lean).
  GIVEN WITH THE SEED: the statements are not yours to turn. If you find one false, say at which input.
  Laid BY PROGRAM, IN A SANDBOX (cutbox-rows.mjs): the forced cells as the released guide's own fill.sh prints them over the translation d68878467248f94b… (all of the seat's roots in one cut). By AI agents, Wed Nov 11 2026. No macro, syntax, notation, axiom, sorry.
-/
import Derived.Test.YtiijhlgeffnpmaaChecked
import GoSem.Claim
import GoSem.ClaimJoined
import GoSem.ClaimMapViews
import Derived.JoinedTies
import Derived.KernelRfl
namespace Go.Proofs.Ytiijhlgeffnpmaa
/- THE CELL 'sum', in the pinned program and in every row, IS THE sha256 OF THE DUMP (.gsa) THAT YtiijhlgeffnpmaaProg.lean LOADS. Nothing in Lean hashes anything: it is a label: what it is worth is what the hold of that sum in a sandbox is worth. -/
noncomputable def Try.pinned : Pinned := { name := "ytiijhlgeffnpmaa", sum := "d68878467248f94b8e6eaaa7bc6bf200f6b84c69a800fd9c262bb3114ea1447e", checked := Try.checked }
namespace Rows
def none {H : Type} : Left H := { results := [], args := [] }

/-- 'hostlerlaw02.NeedEdges': WHATEVER THE INPUT: true; the input reads as it did. -/
def needEdgesSpec : ChangeSpec := { name := "needEdges", fn := fun _ => fun
  | [d1, d2] => { results := [.lit (.bool true)], args := [d1, d2] }
  | _ => none }
def needEdgesRow : OpenClaim := { program := "ytiijhlgeffnpmaa", sum := "d68878467248f94b8e6eaaa7bc6bf200f6b84c69a800fd9c262bb3114ea1447e", func := "hostler/hostlerlaw02.NeedEdges", spec := "needEdges", inPlace := ["math.archTrunc", "math.Float64bits", "math.Float64frombits"], apart := false }
def NeedEdgesSaid : Prop := needEdgesRow.holds Try.pinned (OpenSpec.ofChange needEdgesSpec)

/-- ITS FALSE NEIGHBOUR: 'it returns false'. Refute it at one input. -/
def needEdgesWrong : ChangeSpec := { name := "needEdges", fn := fun _ => fun
  | [d1, d2] => { results := [.lit (.bool false)], args := [d1, d2] }
  | _ => none }
def NeedEdgesWrongFalsely : Prop := needEdgesRow.holds Try.pinned (OpenSpec.ofChange needEdgesWrong)

/-- 'hostlerlaw02.NeedTells': WHATEVER THE INPUT: true; the input reads as it did. -/
def needTellsSpec : ChangeSpec := { name := "needTells", fn := fun _ => fun
  | [d1, d2, d3, d4, d5, d6, d7, d8] => { results := [.lit (.bool true)], args := [d1, d2, d3, d4, d5, d6, d7, d8] }
  | _ => none }
def needTellsRow : OpenClaim := { program := "ytiijhlgeffnpmaa", sum := "d68878467248f94b8e6eaaa7bc6bf200f6b84c69a800fd9c262bb3114ea1447e", func := "hostler/hostlerlaw02.NeedTells", spec := "needTells", inPlace := ["math.archTrunc", "math.Float64bits", "math.Float64frombits"], apart := false }
def NeedTellsSaid : Prop := needTellsRow.holds Try.pinned (OpenSpec.ofChange needTellsSpec)

/-- ITS FALSE NEIGHBOUR: 'it returns false'. Refute it at one input. -/
def needTellsWrong : ChangeSpec := { name := "needTells", fn := fun _ => fun
  | [d1, d2, d3, d4, d5, d6, d7, d8] => { results := [.lit (.bool false)], args := [d1, d2, d3, d4, d5, d6, d7, d8] }
  | _ => none }
def NeedTellsWrongFalsely : Prop := needTellsRow.holds Try.pinned (OpenSpec.ofChange needTellsWrong)

/-- 'hostlerlaw02.NeedSums': WHATEVER THE INPUT: true; the input reads as it did. -/
def needSumsSpec : ChangeSpec := { name := "needSums", fn := fun _ => fun
  | [d1, d2, d3, d4] => { results := [.lit (.bool true)], args := [d1, d2, d3, d4] }
  | _ => none }
def needSumsRow : OpenClaim := { program := "ytiijhlgeffnpmaa", sum := "d68878467248f94b8e6eaaa7bc6bf200f6b84c69a800fd9c262bb3114ea1447e", func := "hostler/hostlerlaw02.NeedSums", spec := "needSums", inPlace := ["math.archTrunc", "math.Float64bits", "math.Float64frombits"], apart := false }
def NeedSumsSaid : Prop := needSumsRow.holds Try.pinned (OpenSpec.ofChange needSumsSpec)

/-- ITS FALSE NEIGHBOUR: 'it returns false'. Refute it at one input. -/
def needSumsWrong : ChangeSpec := { name := "needSums", fn := fun _ => fun
  | [d1, d2, d3, d4] => { results := [.lit (.bool false)], args := [d1, d2, d3, d4] }
  | _ => none }
def NeedSumsWrongFalsely : Prop := needSumsRow.holds Try.pinned (OpenSpec.ofChange needSumsWrong)

/- THE SECOND FORM. 'bulk': how many values and letters a reading holds, each counted each time it is reached (what is shared counts as often as it is met; a slice's spare places count too). A statement '..UptoSaid' is the law's where the arguments, and the package variables that the reading takes, are together of bulk at most 1048576: NARROWER than '..Said'. Prove '..Said' where nothing that the law and all that it calls make is longer than what came in: it says more and counts as full. Else prove '..UptoSaid'. A law counts once. -/
mutual
def uptoBulk {H : Type} : DataW H → Nat
  | .lit (.string bytes) => bytes.length + 1
  | .lit _ => 1
  | .nil => 1
  | .ptr d => uptoBulk d + 1
  | .slice elems spare => uptoBulkAll elems + uptoBulkAll spare + 1
  | .agg parts => uptoBulkAll parts + 1
  | .iface _ d => uptoBulk d + 1
  | .map entries => uptoBulkEntries entries + 1
  | .held _ => 1
def uptoBulkAll {H : Type} : List (DataW H) → Nat
  | [] => 0
  | d :: r => uptoBulk d + uptoBulkAll r
def uptoBulkEntries {H : Type} : List (Lit × DataW H) → Nat
  | [] => 0
  | x :: r => uptoBulkEntry x + uptoBulkEntries r
def uptoBulkEntry {H : Type} : Lit × DataW H → Nat
  | (.string bytes, d) => bytes.length + uptoBulk d + 1
  | (_, d) => uptoBulk d + 1
 end
def uptoSmall : (H : Type) → List (DataW H) → Bool := fun _ ds => decide (uptoBulkAll ds ≤ 1048576)
def OpenSpec.upto (s : _root_.Go.ChangeSpec) : _root_.Go.OpenSpec := { _root_.Go.OpenSpec.ofChange s with cond := some uptoSmall }

/-- 'hostlerlaw02.NeedEdges', WHERE WHAT IT READS IS OF BULK AT MOST 1048576: true; the input reads as it did. -/
def needEdgesUptoRow : OpenClaim := { program := "ytiijhlgeffnpmaa", sum := "d68878467248f94b8e6eaaa7bc6bf200f6b84c69a800fd9c262bb3114ea1447e", func := "hostler/hostlerlaw02.NeedEdges", spec := "needEdges", inPlace := ["math.archTrunc", "math.Float64bits", "math.Float64frombits"], apart := false, narrowed := true }
def NeedEdgesUptoSaid : Prop := needEdgesUptoRow.holds Try.pinned (OpenSpec.upto needEdgesSpec)

/-- 'hostlerlaw02.NeedTells', WHERE WHAT IT READS IS OF BULK AT MOST 1048576: true; the input reads as it did. -/
def needTellsUptoRow : OpenClaim := { program := "ytiijhlgeffnpmaa", sum := "d68878467248f94b8e6eaaa7bc6bf200f6b84c69a800fd9c262bb3114ea1447e", func := "hostler/hostlerlaw02.NeedTells", spec := "needTells", inPlace := ["math.archTrunc", "math.Float64bits", "math.Float64frombits"], apart := false, narrowed := true }
def NeedTellsUptoSaid : Prop := needTellsUptoRow.holds Try.pinned (OpenSpec.upto needTellsSpec)

/-- 'hostlerlaw02.NeedSums', WHERE WHAT IT READS IS OF BULK AT MOST 1048576: true; the input reads as it did. -/
def needSumsUptoRow : OpenClaim := { program := "ytiijhlgeffnpmaa", sum := "d68878467248f94b8e6eaaa7bc6bf200f6b84c69a800fd9c262bb3114ea1447e", func := "hostler/hostlerlaw02.NeedSums", spec := "needSums", inPlace := ["math.archTrunc", "math.Float64bits", "math.Float64frombits"], apart := false, narrowed := true }
def NeedSumsUptoSaid : Prop := needSumsUptoRow.holds Try.pinned (OpenSpec.upto needSumsSpec)

end Rows
end Go.Proofs.Ytiijhlgeffnpmaa
