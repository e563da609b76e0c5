/- What the plain terms find of AtomicFull, by the lengths of its bytes and the rests of its numbers. -/
import Derived.Test.YtfibgjognhimmaaAllSum
import Derived.Test.YtfibgjognhimmaaPl
import Derived.Test.YtfibgjognhimmaaArgs
namespace Go.Proofs.Ytfibgjognhimmaa.atomicFull
set_option linter.unusedVariables false
def tabOf (l : List (Nat × Nat × Nat × Nat × Nat)) : List (Nat × Int × Value) := l.map fun q => (q.1, (q.2.1 : Int), caseV q.2.2.1 (q.2.2.2.1, q.2.2.2.2))
def cfg (l : List (Nat × Nat × Nat × Nat × Nat)) : Cfg := ⟨fun _ => true, overW (tabOf l), summAll⟩
noncomputable def at_ (l : List (Nat × Nat × Nat × Nat × Nat)) (v1 : Value) (v2 : Value) (h : AHeap) : Bool := yes (gcall (mkTab tabAll) (deep Try.prog (cfg l) 3000) 60 6 [.chan (some 0), v1, v2] h)
def cov0 (m0 : Nat) (m1 : Nat) : List (Nat × Nat) := (if m0 = 0 then [] else [(0, m0 - 1)]) ++ ((if m1 = 0 then [] else [(m0, m0 + m1 - 1)]) ++ (if m0 + m1 < 60 then [(m0 + m1, 59)] else []))
noncomputable def run (m0 : Nat) (m1 : Nat) (v1 : Value) (v2 : Value) (h : AHeap) : Bool := (cov0 m0 m1).all fun c0 => at_ [(0, 60, 100, c0.1, c0.2)] v1 v2 h
end Go.Proofs.Ytfibgjognhimmaa.atomicFull
