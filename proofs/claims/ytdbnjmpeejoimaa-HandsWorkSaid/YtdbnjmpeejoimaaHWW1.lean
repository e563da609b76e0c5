/- What the plain terms find of HandsWork: a part of the leaves. -/
import Derived.Test.YtdbnjmpeejoimaaHWWD
namespace Go.Proofs.Ytdbnjmpeejoimaa.handsWork
set_option maxRecDepth 1000000
theorem all4 : (([(0, 0), (1, 1), (2, 2), (3, 3), (4, 4)] : List (Nat × Nat)).all fun c => at_ [(0, 6, 100, 1, 1), (1, 3, 104, 2, 2), (2, 5, 105, c.1, c.2)]) = true := by kernel_rfl
theorem all5 : (([(0, 0), (1, 1), (2, 2), (3, 3), (4, 4)] : List (Nat × Nat)).all fun c => at_ [(0, 6, 100, 2, 2), (1, 4, 106, 0, 0), (2, 5, 105, c.1, c.2)]) = true := by kernel_rfl
theorem all6 : (([(0, 0), (1, 1), (2, 2), (3, 3), (4, 4)] : List (Nat × Nat)).all fun c => at_ [(0, 6, 100, 2, 2), (1, 4, 106, 1, 1), (2, 5, 105, c.1, c.2)]) = true := by kernel_rfl
theorem all7 : (([(0, 0), (1, 1), (2, 2), (3, 3), (4, 4)] : List (Nat × Nat)).all fun c => at_ [(0, 6, 100, 2, 2), (1, 4, 106, 2, 2), (2, 5, 105, c.1, c.2)]) = true := by kernel_rfl
end Go.Proofs.Ytdbnjmpeejoimaa.handsWork
