/- What the executor finds of KeepBytes, case by case. -/
import Derived.Test.YtpjhjjdhibnciaaGreatDoorAllSum
import Derived.Test.YtpjhjjdhibnciaaGreatDoorPlK
namespace Go.Proofs.YtpjhjjdhibnciaaGreatDoor.keepBytes
def cfg (c0 : Nat × Nat) : Cfg := ⟨fun _ => true, overW [(0, 5, caseV 100 c0)], summAll⟩
noncomputable def chk (P : Program) (c0 : Nat × Nat) : Bool := yes (gcall (mkTab tabAll) (deep P (cfg c0) 3000) 60 3 [.chan (some 0)] h0)
def cov0 : List (Nat × Nat) := ([(0, 0), (1, 1), (2, 2), (3, 3), (4, 4)] : List (Nat × Nat))
end Go.Proofs.YtpjhjjdhibnciaaGreatDoor.keepBytes
