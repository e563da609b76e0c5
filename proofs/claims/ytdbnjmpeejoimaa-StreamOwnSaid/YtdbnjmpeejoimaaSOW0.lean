/- What the executor finds of StreamOwn: a part of the cases. -/
import Derived.Test.YtdbnjmpeejoimaaSOWD
namespace Go.Proofs.Ytdbnjmpeejoimaa.streamOwn
set_option maxRecDepth 1000000
theorem all0_0 : (cov0.all fun c0 => chk Try.prog c0) = true := by kernel_rfl
end Go.Proofs.Ytdbnjmpeejoimaa.streamOwn
