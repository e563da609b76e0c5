/- What the plain terms find of ScriptForms: a part of the leaves. -/
import Derived.Test.YtpfloofjnpgbeaaSFWD
namespace Go.Proofs.Ytpfloofjnpgbeaa.scriptForms
set_option maxRecDepth 1000000
theorem all34 : (([(3, 3), (4, 4), (5, 5)] : List (Nat × Nat)).all fun c => at_ [(0, 9, 100, 1, 1), (1, 10, 101, 1, 1), (2, 9, 102, c.1, c.2)]) = true := by kernel_rfl
theorem all35 : (([(6, 6), (7, 7), (8, 8)] : List (Nat × Nat)).all fun c => at_ [(0, 9, 100, 1, 1), (1, 10, 101, 1, 1), (2, 9, 102, c.1, c.2)]) = true := by kernel_rfl
theorem all36 : (([(0, 0), (1, 1), (2, 2)] : List (Nat × Nat)).all fun c => at_ [(0, 9, 100, 1, 1), (1, 10, 101, 2, 2), (2, 9, 102, c.1, c.2)]) = true := by kernel_rfl
theorem all37 : (([(3, 3), (4, 4), (5, 5)] : List (Nat × Nat)).all fun c => at_ [(0, 9, 100, 1, 1), (1, 10, 101, 2, 2), (2, 9, 102, c.1, c.2)]) = true := by kernel_rfl
theorem all38 : (([(6, 6), (7, 7), (8, 8)] : List (Nat × Nat)).all fun c => at_ [(0, 9, 100, 1, 1), (1, 10, 101, 2, 2), (2, 9, 102, c.1, c.2)]) = true := by kernel_rfl
theorem all39 : (([(0, 0), (1, 1), (2, 2)] : List (Nat × Nat)).all fun c => at_ [(0, 9, 100, 1, 1), (1, 10, 101, 3, 3), (2, 9, 102, c.1, c.2)]) = true := by kernel_rfl
theorem all40 : (([(3, 3), (4, 4), (5, 5)] : List (Nat × Nat)).all fun c => at_ [(0, 9, 100, 1, 1), (1, 10, 101, 3, 3), (2, 9, 102, c.1, c.2)]) = true := by kernel_rfl
theorem all41 : (([(6, 6), (7, 7), (8, 8)] : List (Nat × Nat)).all fun c => at_ [(0, 9, 100, 1, 1), (1, 10, 101, 3, 3), (2, 9, 102, c.1, c.2)]) = true := by kernel_rfl
theorem all42 : (([(0, 0), (1, 1), (2, 2)] : List (Nat × Nat)).all fun c => at_ [(0, 9, 100, 1, 1), (1, 10, 101, 4, 4), (2, 9, 102, c.1, c.2)]) = true := by kernel_rfl
theorem all43 : (([(3, 3), (4, 4), (5, 5)] : List (Nat × Nat)).all fun c => at_ [(0, 9, 100, 1, 1), (1, 10, 101, 4, 4), (2, 9, 102, c.1, c.2)]) = true := by kernel_rfl
theorem all44 : (([(6, 6), (7, 7), (8, 8)] : List (Nat × Nat)).all fun c => at_ [(0, 9, 100, 1, 1), (1, 10, 101, 4, 4), (2, 9, 102, c.1, c.2)]) = true := by kernel_rfl
theorem all45 : (([(0, 0), (1, 1), (2, 2)] : List (Nat × Nat)).all fun c => at_ [(0, 9, 100, 1, 1), (1, 10, 101, 5, 5), (2, 9, 102, c.1, c.2)]) = true := by kernel_rfl
theorem all46 : (([(3, 3), (4, 4), (5, 5)] : List (Nat × Nat)).all fun c => at_ [(0, 9, 100, 1, 1), (1, 10, 101, 5, 5), (2, 9, 102, c.1, c.2)]) = true := by kernel_rfl
theorem all47 : (([(6, 6), (7, 7), (8, 8)] : List (Nat × Nat)).all fun c => at_ [(0, 9, 100, 1, 1), (1, 10, 101, 5, 5), (2, 9, 102, c.1, c.2)]) = true := by kernel_rfl
theorem all48 : (([(0, 0), (1, 1), (2, 2)] : List (Nat × Nat)).all fun c => at_ [(0, 9, 100, 1, 1), (1, 10, 101, 6, 6), (2, 9, 102, c.1, c.2)]) = true := by kernel_rfl
theorem all49 : (([(3, 3), (4, 4), (5, 5)] : List (Nat × Nat)).all fun c => at_ [(0, 9, 100, 1, 1), (1, 10, 101, 6, 6), (2, 9, 102, c.1, c.2)]) = true := by kernel_rfl
theorem all50 : (([(6, 6), (7, 7), (8, 8)] : List (Nat × Nat)).all fun c => at_ [(0, 9, 100, 1, 1), (1, 10, 101, 6, 6), (2, 9, 102, c.1, c.2)]) = true := by kernel_rfl
theorem all51 : (([(0, 0), (1, 1), (2, 2)] : List (Nat × Nat)).all fun c => at_ [(0, 9, 100, 1, 1), (1, 10, 101, 7, 7), (2, 9, 102, c.1, c.2)]) = true := by kernel_rfl
theorem all52 : (([(3, 3), (4, 4), (5, 5)] : List (Nat × Nat)).all fun c => at_ [(0, 9, 100, 1, 1), (1, 10, 101, 7, 7), (2, 9, 102, c.1, c.2)]) = true := by kernel_rfl
theorem all53 : (([(6, 6), (7, 7), (8, 8)] : List (Nat × Nat)).all fun c => at_ [(0, 9, 100, 1, 1), (1, 10, 101, 7, 7), (2, 9, 102, c.1, c.2)]) = true := by kernel_rfl
theorem all54 : (([(0, 0), (1, 1), (2, 2)] : List (Nat × Nat)).all fun c => at_ [(0, 9, 100, 1, 1), (1, 10, 101, 8, 8), (2, 9, 102, c.1, c.2)]) = true := by kernel_rfl
theorem all55 : (([(3, 3), (4, 4), (5, 5)] : List (Nat × Nat)).all fun c => at_ [(0, 9, 100, 1, 1), (1, 10, 101, 8, 8), (2, 9, 102, c.1, c.2)]) = true := by kernel_rfl
theorem all56 : (([(6, 6), (7, 7), (8, 8)] : List (Nat × Nat)).all fun c => at_ [(0, 9, 100, 1, 1), (1, 10, 101, 8, 8), (2, 9, 102, c.1, c.2)]) = true := by kernel_rfl
theorem all57 : (([(0, 0), (1, 1), (2, 2)] : List (Nat × Nat)).all fun c => at_ [(0, 9, 100, 1, 1), (1, 10, 101, 9, 9), (2, 9, 102, c.1, c.2)]) = true := by kernel_rfl
theorem all58 : (([(3, 3), (4, 4), (5, 5)] : List (Nat × Nat)).all fun c => at_ [(0, 9, 100, 1, 1), (1, 10, 101, 9, 9), (2, 9, 102, c.1, c.2)]) = true := by kernel_rfl
theorem all59 : (([(6, 6), (7, 7), (8, 8)] : List (Nat × Nat)).all fun c => at_ [(0, 9, 100, 1, 1), (1, 10, 101, 9, 9), (2, 9, 102, c.1, c.2)]) = true := by kernel_rfl
theorem all60 : (([(0, 0), (1, 1), (2, 2)] : List (Nat × Nat)).all fun c => at_ [(0, 9, 100, 2, 2), (1, 10, 101, 0, 0), (2, 9, 102, c.1, c.2)]) = true := by kernel_rfl
theorem all61 : (([(3, 3), (4, 4), (5, 5)] : List (Nat × Nat)).all fun c => at_ [(0, 9, 100, 2, 2), (1, 10, 101, 0, 0), (2, 9, 102, c.1, c.2)]) = true := by kernel_rfl
theorem all62 : (([(6, 6), (7, 7), (8, 8)] : List (Nat × Nat)).all fun c => at_ [(0, 9, 100, 2, 2), (1, 10, 101, 0, 0), (2, 9, 102, c.1, c.2)]) = true := by kernel_rfl
theorem all63 : (([(0, 0), (1, 1), (2, 2)] : List (Nat × Nat)).all fun c => at_ [(0, 9, 100, 2, 2), (1, 10, 101, 1, 1), (2, 9, 102, c.1, c.2)]) = true := by kernel_rfl
theorem all64 : (([(3, 3), (4, 4), (5, 5)] : List (Nat × Nat)).all fun c => at_ [(0, 9, 100, 2, 2), (1, 10, 101, 1, 1), (2, 9, 102, c.1, c.2)]) = true := by kernel_rfl
theorem all65 : (([(6, 6), (7, 7), (8, 8)] : List (Nat × Nat)).all fun c => at_ [(0, 9, 100, 2, 2), (1, 10, 101, 1, 1), (2, 9, 102, c.1, c.2)]) = true := by kernel_rfl
theorem all66 : (([(0, 0), (1, 1), (2, 2)] : List (Nat × Nat)).all fun c => at_ [(0, 9, 100, 2, 2), (1, 10, 101, 2, 2), (2, 9, 102, c.1, c.2)]) = true := by kernel_rfl
theorem all67 : (([(3, 3), (4, 4), (5, 5)] : List (Nat × Nat)).all fun c => at_ [(0, 9, 100, 2, 2), (1, 10, 101, 2, 2), (2, 9, 102, c.1, c.2)]) = true := by kernel_rfl
end Go.Proofs.Ytpfloofjnpgbeaa.scriptForms
