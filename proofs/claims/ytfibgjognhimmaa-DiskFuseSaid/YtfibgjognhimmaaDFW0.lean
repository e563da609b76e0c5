/- What the plain terms find of DiskFuse: a part of the cases. -/
import Derived.Test.YtfibgjognhimmaaDFWD
namespace Go.Proofs.Ytfibgjognhimmaa.diskFuse
set_option maxRecDepth 1000000
theorem all0 : (run 0 (.slice none 0 0) (heapOf [])) = true := by kernel_rfl
theorem all1 (tl0 : List Value) (el0 : Nat) : (run 0 (.slice (some ⟨0, 0, none⟩) 0 (0 + 0)) (heapOf [⟨byteToks 0 0 0 ++ tl0, el0, 2, 1⟩])) = true := by kernel_rfl
end Go.Proofs.Ytfibgjognhimmaa.diskFuse
