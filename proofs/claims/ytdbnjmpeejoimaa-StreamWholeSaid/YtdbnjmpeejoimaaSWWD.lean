/- What the plain terms find of StreamWhole, leaf by leaf of its cases. -/
import Derived.Test.YtdbnjmpeejoimaaAllSum
import Derived.Test.YtdbnjmpeejoimaaJit
import Derived.Test.YtdbnjmpeejoimaaPl
namespace Go.Proofs.Ytdbnjmpeejoimaa.streamWhole
def tabOf (l : List (Nat × Nat × Nat × Nat × Nat)) : List (Nat × Int × Value) := l.filterMap fun q => if q.2.1 < 5000000 then some (q.1, (q.2.1 : Int), caseV q.2.2.1 (q.2.2.2.1, q.2.2.2.2)) else none
def tabJ (l : List (Nat × Nat × Nat × Nat × Nat)) : List (Nat × Int × Value) := l.filterMap fun q => if q.2.1 < 5000000 then none else some (q.1, (q.2.1 : Int) - 5000000, caseV q.2.2.1 (q.2.2.2.1, q.2.2.2.2))
def cfg (l : List (Nat × Nat × Nat × Nat × Nat)) : Cfg := ⟨fun _ => true, overJ (tabOf l) (tabJ l), summAll⟩
noncomputable def at_ (a3 : Bool) (l : List (Nat × Nat × Nat × Nat × Nat)) : Bool := yes (gcall (mkTab tabAll) (deep Try.prog (cfg l) 3000) 60 11 [.chan (some 0), .chan (some 1), .chan (some 2), .bool a3] h0)
end Go.Proofs.Ytdbnjmpeejoimaa.streamWhole
