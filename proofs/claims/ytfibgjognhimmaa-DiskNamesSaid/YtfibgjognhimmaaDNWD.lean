/- What the plain terms find of DiskNames, by the lengths of its bytes and the rests of its numbers. -/
import Derived.Test.YtfibgjognhimmaaAllSum
import Derived.Test.YtfibgjognhimmaaPl
import Derived.Test.YtfibgjognhimmaaArgs
namespace Go.Proofs.Ytfibgjognhimmaa.diskNames
set_option linter.unusedVariables false
def tabOf (l : List (Nat × Nat × Nat × Nat × Nat)) : List (Nat × Int × Value) := l.map fun q => (q.1, (q.2.1 : Int), caseV q.2.2.1 (q.2.2.2.1, q.2.2.2.2))
def cfg (l : List (Nat × Nat × Nat × Nat × Nat)) : Cfg := ⟨fun _ => true, overW (tabOf l), summAll⟩
noncomputable def at_ (l : List (Nat × Nat × Nat × Nat × Nat)) (v0 : Value) (h : AHeap) : Bool := yes (gcall (mkTab tabAll) (deep Try.prog (cfg l) 3000) 60 3 [v0, .chan (some 1)] h)
noncomputable def run (m0 : Nat) (v0 : Value) (h : AHeap) : Bool := at_ [] v0 h
end Go.Proofs.Ytfibgjognhimmaa.diskNames
