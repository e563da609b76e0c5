/- What the executor finds of MessageErrors: a part of the cases. -/
import Derived.Test.YtdbnjmpeejoimaaMEWD
namespace Go.Proofs.Ytdbnjmpeejoimaa.messageErrors
set_option maxRecDepth 1000000
theorem all0_0 : (cov0.all fun c0 => chk Try.prog c0) = true := by kernel_rfl
end Go.Proofs.Ytdbnjmpeejoimaa.messageErrors
