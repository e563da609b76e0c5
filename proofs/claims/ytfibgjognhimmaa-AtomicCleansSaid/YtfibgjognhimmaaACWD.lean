/- What the plain terms find of AtomicCleans, by the lengths of its bytes and the rests of its numbers. -/
import Derived.Test.YtfibgjognhimmaaAllSum
import Derived.Test.YtfibgjognhimmaaPl
import Derived.Test.YtfibgjognhimmaaArgs
namespace Go.Proofs.Ytfibgjognhimmaa.atomicCleans
set_option linter.unusedVariables false
def tabOf (l : List (Nat × Nat × Nat × Nat × Nat)) : List (Nat × Int × Value) := l.map fun q => (q.1, (q.2.1 : Int), caseV q.2.2.1 (q.2.2.2.1, q.2.2.2.2))
def cfg (l : List (Nat × Nat × Nat × Nat × Nat)) : Cfg := ⟨fun _ => true, overW (tabOf l), summAll⟩
noncomputable def at_ (l : List (Nat × Nat × Nat × Nat × Nat)) (v0 : Value) (h : AHeap) : Bool := yes (gcall (mkTab tabAll) (deep Try.prog (cfg l) 3000) 60 5 [v0, .chan (some 1), .chan (some 2)] h)
def cov0 (m0 : Nat) : List (Nat × Nat) := ones 4
def cov1 (m0 : Nat) (c0 : Nat × Nat) : List (Nat × Nat) := if c0.1 = 0 then ((List.range (m0 + 1)).map fun r => (r, r)) ++ [(m0 + 1, 29)] else [(0, 29)]
noncomputable def run (m0 : Nat) (v0 : Value) (h : AHeap) : Bool := (cov0 m0).all fun c0 => (cov1 m0 c0).all fun c1 => at_ [(1, 4, 100, c0.1, c0.2), (2, 30, 101, c1.1, c1.2)] v0 h
end Go.Proofs.Ytfibgjognhimmaa.atomicCleans
