/- What the plain terms find of DiskFuse, by the lengths of its bytes and the rests of its numbers. -/
import Derived.Test.YtfibgjognhimmaaAllSum
import Derived.Test.YtfibgjognhimmaaPl
import Derived.Test.YtfibgjognhimmaaArgs
namespace Go.Proofs.Ytfibgjognhimmaa.diskFuse
set_option linter.unusedVariables false
def tabOf (l : List (Nat × Nat × Nat × Nat × Nat)) : List (Nat × Int × Value) := l.map fun q => (q.1, (q.2.1 : Int), caseV q.2.2.1 (q.2.2.2.1, q.2.2.2.2))
def cfg (l : List (Nat × Nat × Nat × Nat × Nat)) : Cfg := ⟨fun _ => true, overW (tabOf l), summAll⟩
noncomputable def at_ (l : List (Nat × Nat × Nat × Nat × Nat)) (v1 : Value) (h : AHeap) : Bool := yes (gcall (mkTab tabAll) (deep Try.prog (cfg l) 3000) 60 4 [.chan (some 0), v1] h)
def cov0 (m0 : Nat) : List (Nat × Nat) := ones 12
noncomputable def run (m0 : Nat) (v1 : Value) (h : AHeap) : Bool := (cov0 m0).all fun c0 => at_ [(0, 12, 100, c0.1, c0.2)] v1 h
end Go.Proofs.Ytfibgjognhimmaa.diskFuse
