/- What the plain terms find of HandsWork: a part of the leaves. -/
import Derived.Test.YtdbnjmpeejoimaaHWWD
namespace Go.Proofs.Ytdbnjmpeejoimaa.handsWork
set_option maxRecDepth 1000000
theorem all8 : (([(0, 0), (1, 1), (2, 2), (3, 3), (4, 4), (5, 5), (6, 6)] : List (Nat × Nat)).all fun c => at_ [(0, 6, 100, 2, 2), (1, 4, 106, 3, 3), (2, 7, 107, c.1, c.2)]) = true := by kernel_rfl
theorem all9 : (([(0, 0), (1, 1), (2, 2), (3, 3), (4, 4), (5, 5), (6, 6)] : List (Nat × Nat)).all fun c => at_ [(0, 6, 100, 3, 3), (1, 5, 108, 0, 0), (2, 7, 107, c.1, c.2)]) = true := by kernel_rfl
theorem all10 : (([(0, 0), (1, 1), (2, 2), (3, 3), (4, 4), (5, 5), (6, 6)] : List (Nat × Nat)).all fun c => at_ [(0, 6, 100, 3, 3), (1, 5, 108, 1, 1), (2, 7, 107, c.1, c.2)]) = true := by kernel_rfl
theorem all11 : (([(0, 0), (1, 1), (2, 2), (3, 3), (4, 4), (5, 5), (6, 6)] : List (Nat × Nat)).all fun c => at_ [(0, 6, 100, 3, 3), (1, 5, 108, 2, 2), (2, 7, 107, c.1, c.2)]) = true := by kernel_rfl
end Go.Proofs.Ytdbnjmpeejoimaa.handsWork
