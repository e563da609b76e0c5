/- What the executor finds of KeepOwn, case by case. -/
import Derived.Test.YtpjhjjdhibnciaaGreatDoorAllSum
import Derived.Test.YtpjhjjdhibnciaaGreatDoorPlK
namespace Go.Proofs.YtpjhjjdhibnciaaGreatDoor.keepOwn
def cfg (c0 : Nat × Nat) : Cfg := ⟨fun _ => true, overW [(0, 9, caseV 100 c0)], summAll⟩
noncomputable def chk (P : Program) (c0 : Nat × Nat) : Bool := yes (gcall (mkTab tabAll) (deep P (cfg c0) 3000) 60 5 [.chan (some 0)] h0)
def cov0 : List (Nat × Nat) := ([(0, 0), (1, 1), (2, 2), (3, 3), (4, 4), (5, 5), (6, 6), (7, 7), (8, 8)] : List (Nat × Nat))
end Go.Proofs.YtpjhjjdhibnciaaGreatDoor.keepOwn
