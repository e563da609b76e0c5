/- What the plain terms find of TopGone, leaf by leaf of its cases. -/
import Derived.Test.YtpjhjjdhibnciaaGreatDoorAllSum
import Derived.Test.YtpjhjjdhibnciaaGreatDoorPlT
namespace Go.Proofs.YtpjhjjdhibnciaaGreatDoor.topGone
def tabOf (l : List (Nat × Nat × Nat × Nat × Nat)) : List (Nat × Int × Value) := l.map fun q => (q.1, (q.2.1 : Int), caseV q.2.2.1 (q.2.2.2.1, q.2.2.2.2))
def cfg (l : List (Nat × Nat × Nat × Nat × Nat)) : Cfg := ⟨fun _ => true, overW (tabOf l), summAll⟩
noncomputable def at_ (a3 : Bool) (l : List (Nat × Nat × Nat × Nat × Nat)) : Bool := yes (gcall (mkTab tabAll) (deep Tryz.prog (cfg l) 3000) 60 10 [.chan (some 0), .chan (some 1), .chan (some 2), .bool a3] h0)
end Go.Proofs.YtpjhjjdhibnciaaGreatDoor.topGone
