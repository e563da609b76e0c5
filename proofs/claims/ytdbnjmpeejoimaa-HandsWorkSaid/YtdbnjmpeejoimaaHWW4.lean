/- What the plain terms find of HandsWork: a part of the leaves. -/
import Derived.Test.YtdbnjmpeejoimaaHWWD
namespace Go.Proofs.Ytdbnjmpeejoimaa.handsWork
set_option maxRecDepth 1000000
theorem all16 : (([(0, 0), (1, 1), (2, 2), (3, 3), (4, 4), (5, 5), (6, 6), (7, 7), (8, 8)] : List (Nat × Nat)).all fun c => at_ [(0, 6, 100, 4, 4), (1, 6, 110, 2, 2), (2, 9, 109, c.1, c.2)]) = true := by kernel_rfl
theorem all17 : (([(0, 0), (1, 1), (2, 2), (3, 3), (4, 4), (5, 5), (6, 6), (7, 7), (8, 8)] : List (Nat × Nat)).all fun c => at_ [(0, 6, 100, 4, 4), (1, 6, 110, 3, 3), (2, 9, 109, c.1, c.2)]) = true := by kernel_rfl
theorem all18 : (([(0, 0), (1, 1), (2, 2), (3, 3), (4, 4), (5, 5), (6, 6), (7, 7), (8, 8)] : List (Nat × Nat)).all fun c => at_ [(0, 6, 100, 4, 4), (1, 6, 110, 4, 4), (2, 9, 109, c.1, c.2)]) = true := by kernel_rfl
theorem all19 : (([(0, 0), (1, 1), (2, 2), (3, 3), (4, 4), (5, 5), (6, 6), (7, 7), (8, 8), (9, 9), (10, 10)] : List (Nat × Nat)).all fun c => at_ [(0, 6, 100, 4, 4), (1, 6, 110, 5, 5), (2, 11, 111, c.1, c.2)]) = true := by kernel_rfl
end Go.Proofs.Ytdbnjmpeejoimaa.handsWork
