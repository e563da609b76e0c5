/- What the executor finds of PathForms: a part of the cases. -/
import Derived.Test.YtdbnjmpeejoimaaDoorPFWD
namespace Go.Proofs.YtdbnjmpeejoimaaDoor.pathForms
set_option maxRecDepth 1000000
theorem all0_0 : (cov0.all fun c0 => chk Tryd.prog c0) = true := by kernel_rfl
end Go.Proofs.YtdbnjmpeejoimaaDoor.pathForms
