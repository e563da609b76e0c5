/- What the plain terms find of ScriptForms: a part of the leaves. -/
import Derived.Test.YtpfloofjnpgbeaaSFWD
namespace Go.Proofs.Ytpfloofjnpgbeaa.scriptForms
set_option maxRecDepth 1000000
theorem all0 : (([(0, 0), (1, 1), (2, 2)] : List (Nat × Nat)).all fun c => at_ [(0, 9, 100, 0, 0), (1, 10, 101, 0, 0), (2, 9, 102, c.1, c.2)]) = true := by kernel_rfl
theorem all1 : (([(3, 3), (4, 4), (5, 5)] : List (Nat × Nat)).all fun c => at_ [(0, 9, 100, 0, 0), (1, 10, 101, 0, 0), (2, 9, 102, c.1, c.2)]) = true := by kernel_rfl
theorem all2 : (([(6, 6), (7, 7), (8, 8)] : List (Nat × Nat)).all fun c => at_ [(0, 9, 100, 0, 0), (1, 10, 101, 0, 0), (2, 9, 102, c.1, c.2)]) = true := by kernel_rfl
theorem all3 : (([(0, 0), (1, 1), (2, 2)] : List (Nat × Nat)).all fun c => at_ [(0, 9, 100, 0, 0), (1, 10, 101, 1, 1), (2, 9, 102, c.1, c.2)]) = true := by kernel_rfl
theorem all4 : (([(3, 3), (4, 4), (5, 5)] : List (Nat × Nat)).all fun c => at_ [(0, 9, 100, 0, 0), (1, 10, 101, 1, 1), (2, 9, 102, c.1, c.2)]) = true := by kernel_rfl
theorem all5 : (([(6, 6), (7, 7), (8, 8)] : List (Nat × Nat)).all fun c => at_ [(0, 9, 100, 0, 0), (1, 10, 101, 1, 1), (2, 9, 102, c.1, c.2)]) = true := by kernel_rfl
theorem all6 : (([(0, 0), (1, 1), (2, 2)] : List (Nat × Nat)).all fun c => at_ [(0, 9, 100, 0, 0), (1, 10, 101, 2, 2), (2, 9, 102, c.1, c.2)]) = true := by kernel_rfl
theorem all7 : (([(3, 3), (4, 4), (5, 5)] : List (Nat × Nat)).all fun c => at_ [(0, 9, 100, 0, 0), (1, 10, 101, 2, 2), (2, 9, 102, c.1, c.2)]) = true := by kernel_rfl
theorem all8 : (([(6, 6), (7, 7), (8, 8)] : List (Nat × Nat)).all fun c => at_ [(0, 9, 100, 0, 0), (1, 10, 101, 2, 2), (2, 9, 102, c.1, c.2)]) = true := by kernel_rfl
theorem all9 : (([(0, 0), (1, 1), (2, 2)] : List (Nat × Nat)).all fun c => at_ [(0, 9, 100, 0, 0), (1, 10, 101, 3, 3), (2, 9, 102, c.1, c.2)]) = true := by kernel_rfl
theorem all10 : (([(3, 3), (4, 4), (5, 5)] : List (Nat × Nat)).all fun c => at_ [(0, 9, 100, 0, 0), (1, 10, 101, 3, 3), (2, 9, 102, c.1, c.2)]) = true := by kernel_rfl
theorem all11 : (([(6, 6), (7, 7), (8, 8)] : List (Nat × Nat)).all fun c => at_ [(0, 9, 100, 0, 0), (1, 10, 101, 3, 3), (2, 9, 102, c.1, c.2)]) = true := by kernel_rfl
theorem all12 : (([(0, 0), (1, 1), (2, 2)] : List (Nat × Nat)).all fun c => at_ [(0, 9, 100, 0, 0), (1, 10, 101, 4, 4), (2, 9, 102, c.1, c.2)]) = true := by kernel_rfl
theorem all13 : (([(3, 3), (4, 4), (5, 5)] : List (Nat × Nat)).all fun c => at_ [(0, 9, 100, 0, 0), (1, 10, 101, 4, 4), (2, 9, 102, c.1, c.2)]) = true := by kernel_rfl
theorem all14 : (([(6, 6), (7, 7), (8, 8)] : List (Nat × Nat)).all fun c => at_ [(0, 9, 100, 0, 0), (1, 10, 101, 4, 4), (2, 9, 102, c.1, c.2)]) = true := by kernel_rfl
theorem all15 : (([(0, 0), (1, 1), (2, 2)] : List (Nat × Nat)).all fun c => at_ [(0, 9, 100, 0, 0), (1, 10, 101, 5, 5), (2, 9, 102, c.1, c.2)]) = true := by kernel_rfl
theorem all16 : (([(3, 3), (4, 4), (5, 5)] : List (Nat × Nat)).all fun c => at_ [(0, 9, 100, 0, 0), (1, 10, 101, 5, 5), (2, 9, 102, c.1, c.2)]) = true := by kernel_rfl
theorem all17 : (([(6, 6), (7, 7), (8, 8)] : List (Nat × Nat)).all fun c => at_ [(0, 9, 100, 0, 0), (1, 10, 101, 5, 5), (2, 9, 102, c.1, c.2)]) = true := by kernel_rfl
theorem all18 : (([(0, 0), (1, 1), (2, 2)] : List (Nat × Nat)).all fun c => at_ [(0, 9, 100, 0, 0), (1, 10, 101, 6, 6), (2, 9, 102, c.1, c.2)]) = true := by kernel_rfl
theorem all19 : (([(3, 3), (4, 4), (5, 5)] : List (Nat × Nat)).all fun c => at_ [(0, 9, 100, 0, 0), (1, 10, 101, 6, 6), (2, 9, 102, c.1, c.2)]) = true := by kernel_rfl
theorem all20 : (([(6, 6), (7, 7), (8, 8)] : List (Nat × Nat)).all fun c => at_ [(0, 9, 100, 0, 0), (1, 10, 101, 6, 6), (2, 9, 102, c.1, c.2)]) = true := by kernel_rfl
theorem all21 : (([(0, 0), (1, 1), (2, 2)] : List (Nat × Nat)).all fun c => at_ [(0, 9, 100, 0, 0), (1, 10, 101, 7, 7), (2, 9, 102, c.1, c.2)]) = true := by kernel_rfl
theorem all22 : (([(3, 3), (4, 4), (5, 5)] : List (Nat × Nat)).all fun c => at_ [(0, 9, 100, 0, 0), (1, 10, 101, 7, 7), (2, 9, 102, c.1, c.2)]) = true := by kernel_rfl
theorem all23 : (([(6, 6), (7, 7), (8, 8)] : List (Nat × Nat)).all fun c => at_ [(0, 9, 100, 0, 0), (1, 10, 101, 7, 7), (2, 9, 102, c.1, c.2)]) = true := by kernel_rfl
theorem all24 : (([(0, 0), (1, 1), (2, 2)] : List (Nat × Nat)).all fun c => at_ [(0, 9, 100, 0, 0), (1, 10, 101, 8, 8), (2, 9, 102, c.1, c.2)]) = true := by kernel_rfl
theorem all25 : (([(3, 3), (4, 4), (5, 5)] : List (Nat × Nat)).all fun c => at_ [(0, 9, 100, 0, 0), (1, 10, 101, 8, 8), (2, 9, 102, c.1, c.2)]) = true := by kernel_rfl
theorem all26 : (([(6, 6), (7, 7), (8, 8)] : List (Nat × Nat)).all fun c => at_ [(0, 9, 100, 0, 0), (1, 10, 101, 8, 8), (2, 9, 102, c.1, c.2)]) = true := by kernel_rfl
theorem all27 : (([(0, 0), (1, 1), (2, 2)] : List (Nat × Nat)).all fun c => at_ [(0, 9, 100, 0, 0), (1, 10, 101, 9, 9), (2, 9, 102, c.1, c.2)]) = true := by kernel_rfl
theorem all28 : (([(3, 3), (4, 4), (5, 5)] : List (Nat × Nat)).all fun c => at_ [(0, 9, 100, 0, 0), (1, 10, 101, 9, 9), (2, 9, 102, c.1, c.2)]) = true := by kernel_rfl
theorem all29 : (([(6, 6), (7, 7), (8, 8)] : List (Nat × Nat)).all fun c => at_ [(0, 9, 100, 0, 0), (1, 10, 101, 9, 9), (2, 9, 102, c.1, c.2)]) = true := by kernel_rfl
theorem all30 : (([(0, 0), (1, 1), (2, 2)] : List (Nat × Nat)).all fun c => at_ [(0, 9, 100, 1, 1), (1, 10, 101, 0, 0), (2, 9, 102, c.1, c.2)]) = true := by kernel_rfl
theorem all31 : (([(3, 3), (4, 4), (5, 5)] : List (Nat × Nat)).all fun c => at_ [(0, 9, 100, 1, 1), (1, 10, 101, 0, 0), (2, 9, 102, c.1, c.2)]) = true := by kernel_rfl
theorem all32 : (([(6, 6), (7, 7), (8, 8)] : List (Nat × Nat)).all fun c => at_ [(0, 9, 100, 1, 1), (1, 10, 101, 0, 0), (2, 9, 102, c.1, c.2)]) = true := by kernel_rfl
theorem all33 : (([(0, 0), (1, 1), (2, 2)] : List (Nat × Nat)).all fun c => at_ [(0, 9, 100, 1, 1), (1, 10, 101, 1, 1), (2, 9, 102, c.1, c.2)]) = true := by kernel_rfl
end Go.Proofs.Ytpfloofjnpgbeaa.scriptForms
