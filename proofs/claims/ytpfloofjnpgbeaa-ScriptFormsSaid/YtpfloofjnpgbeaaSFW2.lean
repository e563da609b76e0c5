/- What the plain terms find of ScriptForms: a part of the leaves. -/
import Derived.Test.YtpfloofjnpgbeaaSFWD
namespace Go.Proofs.Ytpfloofjnpgbeaa.scriptForms
set_option maxRecDepth 1000000
theorem all68 : (([(6, 6), (7, 7), (8, 8)] : List (Nat × Nat)).all fun c => at_ [(0, 9, 100, 2, 2), (1, 10, 101, 2, 2), (2, 9, 102, c.1, c.2)]) = true := by kernel_rfl
theorem all69 : (([(0, 0), (1, 1), (2, 2)] : List (Nat × Nat)).all fun c => at_ [(0, 9, 100, 2, 2), (1, 10, 101, 3, 3), (2, 9, 102, c.1, c.2)]) = true := by kernel_rfl
theorem all70 : (([(3, 3), (4, 4), (5, 5)] : List (Nat × Nat)).all fun c => at_ [(0, 9, 100, 2, 2), (1, 10, 101, 3, 3), (2, 9, 102, c.1, c.2)]) = true := by kernel_rfl
theorem all71 : (([(6, 6), (7, 7), (8, 8)] : List (Nat × Nat)).all fun c => at_ [(0, 9, 100, 2, 2), (1, 10, 101, 3, 3), (2, 9, 102, c.1, c.2)]) = true := by kernel_rfl
theorem all72 : (([(0, 0), (1, 1), (2, 2)] : List (Nat × Nat)).all fun c => at_ [(0, 9, 100, 2, 2), (1, 10, 101, 4, 4), (2, 9, 102, c.1, c.2)]) = true := by kernel_rfl
theorem all73 : (([(3, 3), (4, 4), (5, 5)] : List (Nat × Nat)).all fun c => at_ [(0, 9, 100, 2, 2), (1, 10, 101, 4, 4), (2, 9, 102, c.1, c.2)]) = true := by kernel_rfl
theorem all74 : (([(6, 6), (7, 7), (8, 8)] : List (Nat × Nat)).all fun c => at_ [(0, 9, 100, 2, 2), (1, 10, 101, 4, 4), (2, 9, 102, c.1, c.2)]) = true := by kernel_rfl
theorem all75 : (([(0, 0), (1, 1), (2, 2)] : List (Nat × Nat)).all fun c => at_ [(0, 9, 100, 2, 2), (1, 10, 101, 5, 5), (2, 9, 102, c.1, c.2)]) = true := by kernel_rfl
theorem all76 : (([(3, 3), (4, 4), (5, 5)] : List (Nat × Nat)).all fun c => at_ [(0, 9, 100, 2, 2), (1, 10, 101, 5, 5), (2, 9, 102, c.1, c.2)]) = true := by kernel_rfl
theorem all77 : (([(6, 6), (7, 7), (8, 8)] : List (Nat × Nat)).all fun c => at_ [(0, 9, 100, 2, 2), (1, 10, 101, 5, 5), (2, 9, 102, c.1, c.2)]) = true := by kernel_rfl
theorem all78 : (([(0, 0), (1, 1), (2, 2)] : List (Nat × Nat)).all fun c => at_ [(0, 9, 100, 2, 2), (1, 10, 101, 6, 6), (2, 9, 102, c.1, c.2)]) = true := by kernel_rfl
theorem all79 : (([(3, 3), (4, 4), (5, 5)] : List (Nat × Nat)).all fun c => at_ [(0, 9, 100, 2, 2), (1, 10, 101, 6, 6), (2, 9, 102, c.1, c.2)]) = true := by kernel_rfl
theorem all80 : (([(6, 6), (7, 7), (8, 8)] : List (Nat × Nat)).all fun c => at_ [(0, 9, 100, 2, 2), (1, 10, 101, 6, 6), (2, 9, 102, c.1, c.2)]) = true := by kernel_rfl
theorem all81 : (([(0, 0), (1, 1), (2, 2)] : List (Nat × Nat)).all fun c => at_ [(0, 9, 100, 2, 2), (1, 10, 101, 7, 7), (2, 9, 102, c.1, c.2)]) = true := by kernel_rfl
theorem all82 : (([(3, 3), (4, 4), (5, 5)] : List (Nat × Nat)).all fun c => at_ [(0, 9, 100, 2, 2), (1, 10, 101, 7, 7), (2, 9, 102, c.1, c.2)]) = true := by kernel_rfl
theorem all83 : (([(6, 6), (7, 7), (8, 8)] : List (Nat × Nat)).all fun c => at_ [(0, 9, 100, 2, 2), (1, 10, 101, 7, 7), (2, 9, 102, c.1, c.2)]) = true := by kernel_rfl
theorem all84 : (([(0, 0), (1, 1), (2, 2)] : List (Nat × Nat)).all fun c => at_ [(0, 9, 100, 2, 2), (1, 10, 101, 8, 8), (2, 9, 102, c.1, c.2)]) = true := by kernel_rfl
theorem all85 : (([(3, 3), (4, 4), (5, 5)] : List (Nat × Nat)).all fun c => at_ [(0, 9, 100, 2, 2), (1, 10, 101, 8, 8), (2, 9, 102, c.1, c.2)]) = true := by kernel_rfl
theorem all86 : (([(6, 6), (7, 7), (8, 8)] : List (Nat × Nat)).all fun c => at_ [(0, 9, 100, 2, 2), (1, 10, 101, 8, 8), (2, 9, 102, c.1, c.2)]) = true := by kernel_rfl
theorem all87 : (([(0, 0), (1, 1), (2, 2)] : List (Nat × Nat)).all fun c => at_ [(0, 9, 100, 2, 2), (1, 10, 101, 9, 9), (2, 9, 102, c.1, c.2)]) = true := by kernel_rfl
theorem all88 : (([(3, 3), (4, 4), (5, 5)] : List (Nat × Nat)).all fun c => at_ [(0, 9, 100, 2, 2), (1, 10, 101, 9, 9), (2, 9, 102, c.1, c.2)]) = true := by kernel_rfl
theorem all89 : (([(6, 6), (7, 7), (8, 8)] : List (Nat × Nat)).all fun c => at_ [(0, 9, 100, 2, 2), (1, 10, 101, 9, 9), (2, 9, 102, c.1, c.2)]) = true := by kernel_rfl
theorem all90 : (([(0, 0), (1, 1), (2, 2)] : List (Nat × Nat)).all fun c => at_ [(0, 9, 100, 3, 3), (1, 10, 101, 0, 0), (2, 9, 102, c.1, c.2)]) = true := by kernel_rfl
theorem all91 : (([(3, 3), (4, 4), (5, 5)] : List (Nat × Nat)).all fun c => at_ [(0, 9, 100, 3, 3), (1, 10, 101, 0, 0), (2, 9, 102, c.1, c.2)]) = true := by kernel_rfl
theorem all92 : (([(6, 6), (7, 7), (8, 8)] : List (Nat × Nat)).all fun c => at_ [(0, 9, 100, 3, 3), (1, 10, 101, 0, 0), (2, 9, 102, c.1, c.2)]) = true := by kernel_rfl
theorem all93 : (([(0, 0), (1, 1), (2, 2)] : List (Nat × Nat)).all fun c => at_ [(0, 9, 100, 3, 3), (1, 10, 101, 1, 1), (2, 9, 102, c.1, c.2)]) = true := by kernel_rfl
theorem all94 : (([(3, 3), (4, 4), (5, 5)] : List (Nat × Nat)).all fun c => at_ [(0, 9, 100, 3, 3), (1, 10, 101, 1, 1), (2, 9, 102, c.1, c.2)]) = true := by kernel_rfl
theorem all95 : (([(6, 6), (7, 7), (8, 8)] : List (Nat × Nat)).all fun c => at_ [(0, 9, 100, 3, 3), (1, 10, 101, 1, 1), (2, 9, 102, c.1, c.2)]) = true := by kernel_rfl
theorem all96 : (([(0, 0), (1, 1), (2, 2)] : List (Nat × Nat)).all fun c => at_ [(0, 9, 100, 3, 3), (1, 10, 101, 2, 2), (2, 9, 102, c.1, c.2)]) = true := by kernel_rfl
theorem all97 : (([(3, 3), (4, 4), (5, 5)] : List (Nat × Nat)).all fun c => at_ [(0, 9, 100, 3, 3), (1, 10, 101, 2, 2), (2, 9, 102, c.1, c.2)]) = true := by kernel_rfl
theorem all98 : (([(6, 6), (7, 7), (8, 8)] : List (Nat × Nat)).all fun c => at_ [(0, 9, 100, 3, 3), (1, 10, 101, 2, 2), (2, 9, 102, c.1, c.2)]) = true := by kernel_rfl
theorem all99 : (([(0, 0), (1, 1), (2, 2)] : List (Nat × Nat)).all fun c => at_ [(0, 9, 100, 3, 3), (1, 10, 101, 3, 3), (2, 9, 102, c.1, c.2)]) = true := by kernel_rfl
theorem all100 : (([(3, 3), (4, 4), (5, 5)] : List (Nat × Nat)).all fun c => at_ [(0, 9, 100, 3, 3), (1, 10, 101, 3, 3), (2, 9, 102, c.1, c.2)]) = true := by kernel_rfl
theorem all101 : (([(6, 6), (7, 7), (8, 8)] : List (Nat × Nat)).all fun c => at_ [(0, 9, 100, 3, 3), (1, 10, 101, 3, 3), (2, 9, 102, c.1, c.2)]) = true := by kernel_rfl
end Go.Proofs.Ytpfloofjnpgbeaa.scriptForms
