/- What the plain terms find of WorldFuse, leaf by leaf of its cases. -/
import Derived.Test.YtdcjegdghijhbaaGreatDoorSumD
import Derived.Test.YtdcjegdghijhbaaGreatDoorPlW
namespace Go.Proofs.YtdcjegdghijhbaaGreatDoor.worldFuse
def tabOf (l : List (Nat × Nat × Nat × Nat × Nat)) : List (Nat × Int × Value) := l.map fun q => (q.1, (q.2.1 : Int), caseV q.2.2.1 (q.2.2.2.1, q.2.2.2.2))
def cfg (l : List (Nat × Nat × Nat × Nat × Nat)) : Cfg := ⟨fun _ => true, overW (tabOf l), summD⟩
noncomputable def at_ (l : List (Nat × Nat × Nat × Nat × Nat)) : Bool := yes (gcall (mkTab tabAll) (deep Tryz.prog (cfg l) 3000) 60 3 [.chan (some 0), .chan (some 1)] h0)
end Go.Proofs.YtdcjegdghijhbaaGreatDoor.worldFuse
