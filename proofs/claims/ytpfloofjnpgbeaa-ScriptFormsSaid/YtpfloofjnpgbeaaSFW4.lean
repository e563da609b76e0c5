/- What the plain terms find of ScriptForms: a part of the leaves. -/
import Derived.Test.YtpfloofjnpgbeaaSFWD
namespace Go.Proofs.Ytpfloofjnpgbeaa.scriptForms
set_option maxRecDepth 1000000
theorem all136 : (([(3, 3), (4, 4), (5, 5)] : List (Nat × Nat)).all fun c => at_ [(0, 9, 100, 4, 4), (1, 10, 101, 5, 5), (2, 9, 102, c.1, c.2)]) = true := by kernel_rfl
theorem all137 : (([(6, 6), (7, 7), (8, 8)] : List (Nat × Nat)).all fun c => at_ [(0, 9, 100, 4, 4), (1, 10, 101, 5, 5), (2, 9, 102, c.1, c.2)]) = true := by kernel_rfl
theorem all138 : (([(0, 0), (1, 1), (2, 2)] : List (Nat × Nat)).all fun c => at_ [(0, 9, 100, 4, 4), (1, 10, 101, 6, 6), (2, 9, 102, c.1, c.2)]) = true := by kernel_rfl
theorem all139 : (([(3, 3), (4, 4), (5, 5)] : List (Nat × Nat)).all fun c => at_ [(0, 9, 100, 4, 4), (1, 10, 101, 6, 6), (2, 9, 102, c.1, c.2)]) = true := by kernel_rfl
theorem all140 : (([(6, 6), (7, 7), (8, 8)] : List (Nat × Nat)).all fun c => at_ [(0, 9, 100, 4, 4), (1, 10, 101, 6, 6), (2, 9, 102, c.1, c.2)]) = true := by kernel_rfl
theorem all141 : (([(0, 0), (1, 1), (2, 2)] : List (Nat × Nat)).all fun c => at_ [(0, 9, 100, 4, 4), (1, 10, 101, 7, 7), (2, 9, 102, c.1, c.2)]) = true := by kernel_rfl
theorem all142 : (([(3, 3), (4, 4), (5, 5)] : List (Nat × Nat)).all fun c => at_ [(0, 9, 100, 4, 4), (1, 10, 101, 7, 7), (2, 9, 102, c.1, c.2)]) = true := by kernel_rfl
theorem all143 : (([(6, 6), (7, 7), (8, 8)] : List (Nat × Nat)).all fun c => at_ [(0, 9, 100, 4, 4), (1, 10, 101, 7, 7), (2, 9, 102, c.1, c.2)]) = true := by kernel_rfl
theorem all144 : (([(0, 0), (1, 1), (2, 2)] : List (Nat × Nat)).all fun c => at_ [(0, 9, 100, 4, 4), (1, 10, 101, 8, 8), (2, 9, 102, c.1, c.2)]) = true := by kernel_rfl
theorem all145 : (([(3, 3), (4, 4), (5, 5)] : List (Nat × Nat)).all fun c => at_ [(0, 9, 100, 4, 4), (1, 10, 101, 8, 8), (2, 9, 102, c.1, c.2)]) = true := by kernel_rfl
theorem all146 : (([(6, 6), (7, 7), (8, 8)] : List (Nat × Nat)).all fun c => at_ [(0, 9, 100, 4, 4), (1, 10, 101, 8, 8), (2, 9, 102, c.1, c.2)]) = true := by kernel_rfl
theorem all147 : (([(0, 0), (1, 1), (2, 2)] : List (Nat × Nat)).all fun c => at_ [(0, 9, 100, 4, 4), (1, 10, 101, 9, 9), (2, 9, 102, c.1, c.2)]) = true := by kernel_rfl
theorem all148 : (([(3, 3), (4, 4), (5, 5)] : List (Nat × Nat)).all fun c => at_ [(0, 9, 100, 4, 4), (1, 10, 101, 9, 9), (2, 9, 102, c.1, c.2)]) = true := by kernel_rfl
theorem all149 : (([(6, 6), (7, 7), (8, 8)] : List (Nat × Nat)).all fun c => at_ [(0, 9, 100, 4, 4), (1, 10, 101, 9, 9), (2, 9, 102, c.1, c.2)]) = true := by kernel_rfl
theorem all150 : (([(0, 0), (1, 1), (2, 2)] : List (Nat × Nat)).all fun c => at_ [(0, 9, 100, 5, 5), (1, 10, 101, 0, 0), (2, 9, 102, c.1, c.2)]) = true := by kernel_rfl
theorem all151 : (([(3, 3), (4, 4), (5, 5)] : List (Nat × Nat)).all fun c => at_ [(0, 9, 100, 5, 5), (1, 10, 101, 0, 0), (2, 9, 102, c.1, c.2)]) = true := by kernel_rfl
theorem all152 : (([(6, 6), (7, 7), (8, 8)] : List (Nat × Nat)).all fun c => at_ [(0, 9, 100, 5, 5), (1, 10, 101, 0, 0), (2, 9, 102, c.1, c.2)]) = true := by kernel_rfl
theorem all153 : (([(0, 0), (1, 1), (2, 2)] : List (Nat × Nat)).all fun c => at_ [(0, 9, 100, 5, 5), (1, 10, 101, 1, 1), (2, 9, 102, c.1, c.2)]) = true := by kernel_rfl
theorem all154 : (([(3, 3), (4, 4), (5, 5)] : List (Nat × Nat)).all fun c => at_ [(0, 9, 100, 5, 5), (1, 10, 101, 1, 1), (2, 9, 102, c.1, c.2)]) = true := by kernel_rfl
theorem all155 : (([(6, 6), (7, 7), (8, 8)] : List (Nat × Nat)).all fun c => at_ [(0, 9, 100, 5, 5), (1, 10, 101, 1, 1), (2, 9, 102, c.1, c.2)]) = true := by kernel_rfl
theorem all156 : (([(0, 0), (1, 1), (2, 2)] : List (Nat × Nat)).all fun c => at_ [(0, 9, 100, 5, 5), (1, 10, 101, 2, 2), (2, 9, 102, c.1, c.2)]) = true := by kernel_rfl
theorem all157 : (([(3, 3), (4, 4), (5, 5)] : List (Nat × Nat)).all fun c => at_ [(0, 9, 100, 5, 5), (1, 10, 101, 2, 2), (2, 9, 102, c.1, c.2)]) = true := by kernel_rfl
theorem all158 : (([(6, 6), (7, 7), (8, 8)] : List (Nat × Nat)).all fun c => at_ [(0, 9, 100, 5, 5), (1, 10, 101, 2, 2), (2, 9, 102, c.1, c.2)]) = true := by kernel_rfl
theorem all159 : (([(0, 0), (1, 1), (2, 2)] : List (Nat × Nat)).all fun c => at_ [(0, 9, 100, 5, 5), (1, 10, 101, 3, 3), (2, 9, 102, c.1, c.2)]) = true := by kernel_rfl
theorem all160 : (([(3, 3), (4, 4), (5, 5)] : List (Nat × Nat)).all fun c => at_ [(0, 9, 100, 5, 5), (1, 10, 101, 3, 3), (2, 9, 102, c.1, c.2)]) = true := by kernel_rfl
theorem all161 : (([(6, 6), (7, 7), (8, 8)] : List (Nat × Nat)).all fun c => at_ [(0, 9, 100, 5, 5), (1, 10, 101, 3, 3), (2, 9, 102, c.1, c.2)]) = true := by kernel_rfl
theorem all162 : (([(0, 0), (1, 1), (2, 2)] : List (Nat × Nat)).all fun c => at_ [(0, 9, 100, 5, 5), (1, 10, 101, 4, 4), (2, 9, 102, c.1, c.2)]) = true := by kernel_rfl
theorem all163 : (([(3, 3), (4, 4), (5, 5)] : List (Nat × Nat)).all fun c => at_ [(0, 9, 100, 5, 5), (1, 10, 101, 4, 4), (2, 9, 102, c.1, c.2)]) = true := by kernel_rfl
theorem all164 : (([(6, 6), (7, 7), (8, 8)] : List (Nat × Nat)).all fun c => at_ [(0, 9, 100, 5, 5), (1, 10, 101, 4, 4), (2, 9, 102, c.1, c.2)]) = true := by kernel_rfl
theorem all165 : (([(0, 0), (1, 1), (2, 2)] : List (Nat × Nat)).all fun c => at_ [(0, 9, 100, 5, 5), (1, 10, 101, 5, 5), (2, 9, 102, c.1, c.2)]) = true := by kernel_rfl
theorem all166 : (([(3, 3), (4, 4), (5, 5)] : List (Nat × Nat)).all fun c => at_ [(0, 9, 100, 5, 5), (1, 10, 101, 5, 5), (2, 9, 102, c.1, c.2)]) = true := by kernel_rfl
theorem all167 : (([(6, 6), (7, 7), (8, 8)] : List (Nat × Nat)).all fun c => at_ [(0, 9, 100, 5, 5), (1, 10, 101, 5, 5), (2, 9, 102, c.1, c.2)]) = true := by kernel_rfl
theorem all168 : (([(0, 0), (1, 1), (2, 2)] : List (Nat × Nat)).all fun c => at_ [(0, 9, 100, 5, 5), (1, 10, 101, 6, 6), (2, 9, 102, c.1, c.2)]) = true := by kernel_rfl
theorem all169 : (([(3, 3), (4, 4), (5, 5)] : List (Nat × Nat)).all fun c => at_ [(0, 9, 100, 5, 5), (1, 10, 101, 6, 6), (2, 9, 102, c.1, c.2)]) = true := by kernel_rfl
end Go.Proofs.Ytpfloofjnpgbeaa.scriptForms
