/- What the executor finds of KeepErrors: a part of the cases. -/
import Derived.Test.YtpjhjjdhibnciaaGreatDoorKEWD
namespace Go.Proofs.YtpjhjjdhibnciaaGreatDoor.keepErrors
set_option maxRecDepth 1000000
theorem all9_0 : (([(90, 90), (91, 91), (92, 92), (93, 93), (94, 94), (95, 95), (96, 96), (97, 97), (98, 98), (99, 99)] : List (Nat × Nat)).all fun c0 => chk Tryz.prog c0) = true := by kernel_rfl
end Go.Proofs.YtpjhjjdhibnciaaGreatDoor.keepErrors
