/- What the plain terms find of HandsWork: a part of the leaves. -/
import Derived.Test.YtdbnjmpeejoimaaHWWD
namespace Go.Proofs.Ytdbnjmpeejoimaa.handsWork
set_option maxRecDepth 1000000
theorem all20 : (([(0, 0), (1, 1), (2, 2), (3, 3), (4, 4), (5, 5), (6, 6), (7, 7), (8, 8), (9, 9), (10, 10)] : List (Nat × Nat)).all fun c => at_ [(0, 6, 100, 5, 5), (1, 7, 112, 0, 0), (2, 11, 111, c.1, c.2)]) = true := by kernel_rfl
theorem all21 : (([(0, 0), (1, 1), (2, 2), (3, 3), (4, 4), (5, 5), (6, 6), (7, 7), (8, 8), (9, 9), (10, 10)] : List (Nat × Nat)).all fun c => at_ [(0, 6, 100, 5, 5), (1, 7, 112, 1, 1), (2, 11, 111, c.1, c.2)]) = true := by kernel_rfl
theorem all22 : (([(0, 0), (1, 1), (2, 2), (3, 3), (4, 4), (5, 5), (6, 6), (7, 7), (8, 8), (9, 9), (10, 10)] : List (Nat × Nat)).all fun c => at_ [(0, 6, 100, 5, 5), (1, 7, 112, 2, 2), (2, 11, 111, c.1, c.2)]) = true := by kernel_rfl
theorem all23 : (([(0, 0), (1, 1), (2, 2), (3, 3), (4, 4), (5, 5), (6, 6), (7, 7), (8, 8), (9, 9), (10, 10)] : List (Nat × Nat)).all fun c => at_ [(0, 6, 100, 5, 5), (1, 7, 112, 3, 3), (2, 11, 111, c.1, c.2)]) = true := by kernel_rfl
end Go.Proofs.Ytdbnjmpeejoimaa.handsWork
