/- What the plain terms find of HandsWork: a part of the leaves. -/
import Derived.Test.YtdbnjmpeejoimaaHWWD
namespace Go.Proofs.Ytdbnjmpeejoimaa.handsWork
set_option maxRecDepth 1000000
theorem all0 : (([(0, 0)] : List (Nat × Nat)).all fun c => at_ [(0, 6, 100, 0, 0), (1, 2, 101, 0, 0), (2, 1, 102, c.1, c.2)]) = true := by kernel_rfl
theorem all1 : (([(0, 0), (1, 1), (2, 2)] : List (Nat × Nat)).all fun c => at_ [(0, 6, 100, 0, 0), (1, 2, 101, 1, 1), (2, 3, 103, c.1, c.2)]) = true := by kernel_rfl
theorem all2 : (([(0, 0), (1, 1), (2, 2)] : List (Nat × Nat)).all fun c => at_ [(0, 6, 100, 1, 1), (1, 3, 104, 0, 0), (2, 3, 103, c.1, c.2)]) = true := by kernel_rfl
theorem all3 : (([(0, 0), (1, 1), (2, 2)] : List (Nat × Nat)).all fun c => at_ [(0, 6, 100, 1, 1), (1, 3, 104, 1, 1), (2, 3, 103, c.1, c.2)]) = true := by kernel_rfl
end Go.Proofs.Ytdbnjmpeejoimaa.handsWork
