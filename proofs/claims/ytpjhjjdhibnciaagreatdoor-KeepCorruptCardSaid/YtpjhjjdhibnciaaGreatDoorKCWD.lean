/- What the executor finds of KeepCorrupt, case by case. -/
import Derived.Test.YtpjhjjdhibnciaaGreatDoorAllSum
import Derived.Test.YtpjhjjdhibnciaaGreatDoorPlK
namespace Go.Proofs.YtpjhjjdhibnciaaGreatDoor.keepCorrupt
def cfg (c0 : Nat × Nat) : Cfg := ⟨fun _ => true, overW [(0, 7, caseV 100 c0)], summAll⟩
noncomputable def chk (P : Program) (c0 : Nat × Nat) : Bool := yes (gcall (mkTab tabAll) (deep P (cfg c0) 3000) 60 6 [.chan (some 0), .chan (some 1)] h0)
def cov0 : List (Nat × Nat) := ([(0, 0), (1, 1), (2, 2), (3, 3), (4, 4), (5, 5), (6, 6)] : List (Nat × Nat))
end Go.Proofs.YtpjhjjdhibnciaaGreatDoor.keepCorrupt
