/- What the plain terms find of ScriptForms: a part of the leaves. -/
import Derived.Test.YtpfloofjnpgbeaaSFWD
namespace Go.Proofs.Ytpfloofjnpgbeaa.scriptForms
set_option maxRecDepth 1000000
theorem all238 : (([(3, 3), (4, 4), (5, 5)] : List (Nat × Nat)).all fun c => at_ [(0, 9, 100, 7, 7), (1, 10, 101, 9, 9), (2, 9, 102, c.1, c.2)]) = true := by kernel_rfl
theorem all239 : (([(6, 6), (7, 7), (8, 8)] : List (Nat × Nat)).all fun c => at_ [(0, 9, 100, 7, 7), (1, 10, 101, 9, 9), (2, 9, 102, c.1, c.2)]) = true := by kernel_rfl
theorem all240 : (([(0, 0), (1, 1), (2, 2)] : List (Nat × Nat)).all fun c => at_ [(0, 9, 100, 8, 8), (1, 10, 101, 0, 0), (2, 9, 102, c.1, c.2)]) = true := by kernel_rfl
theorem all241 : (([(3, 3), (4, 4), (5, 5)] : List (Nat × Nat)).all fun c => at_ [(0, 9, 100, 8, 8), (1, 10, 101, 0, 0), (2, 9, 102, c.1, c.2)]) = true := by kernel_rfl
theorem all242 : (([(6, 6), (7, 7), (8, 8)] : List (Nat × Nat)).all fun c => at_ [(0, 9, 100, 8, 8), (1, 10, 101, 0, 0), (2, 9, 102, c.1, c.2)]) = true := by kernel_rfl
theorem all243 : (([(0, 0), (1, 1), (2, 2)] : List (Nat × Nat)).all fun c => at_ [(0, 9, 100, 8, 8), (1, 10, 101, 1, 1), (2, 9, 102, c.1, c.2)]) = true := by kernel_rfl
theorem all244 : (([(3, 3), (4, 4), (5, 5)] : List (Nat × Nat)).all fun c => at_ [(0, 9, 100, 8, 8), (1, 10, 101, 1, 1), (2, 9, 102, c.1, c.2)]) = true := by kernel_rfl
theorem all245 : (([(6, 6), (7, 7), (8, 8)] : List (Nat × Nat)).all fun c => at_ [(0, 9, 100, 8, 8), (1, 10, 101, 1, 1), (2, 9, 102, c.1, c.2)]) = true := by kernel_rfl
theorem all246 : (([(0, 0), (1, 1), (2, 2)] : List (Nat × Nat)).all fun c => at_ [(0, 9, 100, 8, 8), (1, 10, 101, 2, 2), (2, 9, 102, c.1, c.2)]) = true := by kernel_rfl
theorem all247 : (([(3, 3), (4, 4), (5, 5)] : List (Nat × Nat)).all fun c => at_ [(0, 9, 100, 8, 8), (1, 10, 101, 2, 2), (2, 9, 102, c.1, c.2)]) = true := by kernel_rfl
theorem all248 : (([(6, 6), (7, 7), (8, 8)] : List (Nat × Nat)).all fun c => at_ [(0, 9, 100, 8, 8), (1, 10, 101, 2, 2), (2, 9, 102, c.1, c.2)]) = true := by kernel_rfl
theorem all249 : (([(0, 0), (1, 1), (2, 2)] : List (Nat × Nat)).all fun c => at_ [(0, 9, 100, 8, 8), (1, 10, 101, 3, 3), (2, 9, 102, c.1, c.2)]) = true := by kernel_rfl
theorem all250 : (([(3, 3), (4, 4), (5, 5)] : List (Nat × Nat)).all fun c => at_ [(0, 9, 100, 8, 8), (1, 10, 101, 3, 3), (2, 9, 102, c.1, c.2)]) = true := by kernel_rfl
theorem all251 : (([(6, 6), (7, 7), (8, 8)] : List (Nat × Nat)).all fun c => at_ [(0, 9, 100, 8, 8), (1, 10, 101, 3, 3), (2, 9, 102, c.1, c.2)]) = true := by kernel_rfl
theorem all252 : (([(0, 0), (1, 1), (2, 2)] : List (Nat × Nat)).all fun c => at_ [(0, 9, 100, 8, 8), (1, 10, 101, 4, 4), (2, 9, 102, c.1, c.2)]) = true := by kernel_rfl
theorem all253 : (([(3, 3), (4, 4), (5, 5)] : List (Nat × Nat)).all fun c => at_ [(0, 9, 100, 8, 8), (1, 10, 101, 4, 4), (2, 9, 102, c.1, c.2)]) = true := by kernel_rfl
theorem all254 : (([(6, 6), (7, 7), (8, 8)] : List (Nat × Nat)).all fun c => at_ [(0, 9, 100, 8, 8), (1, 10, 101, 4, 4), (2, 9, 102, c.1, c.2)]) = true := by kernel_rfl
theorem all255 : (([(0, 0), (1, 1), (2, 2)] : List (Nat × Nat)).all fun c => at_ [(0, 9, 100, 8, 8), (1, 10, 101, 5, 5), (2, 9, 102, c.1, c.2)]) = true := by kernel_rfl
theorem all256 : (([(3, 3), (4, 4), (5, 5)] : List (Nat × Nat)).all fun c => at_ [(0, 9, 100, 8, 8), (1, 10, 101, 5, 5), (2, 9, 102, c.1, c.2)]) = true := by kernel_rfl
theorem all257 : (([(6, 6), (7, 7), (8, 8)] : List (Nat × Nat)).all fun c => at_ [(0, 9, 100, 8, 8), (1, 10, 101, 5, 5), (2, 9, 102, c.1, c.2)]) = true := by kernel_rfl
theorem all258 : (([(0, 0), (1, 1), (2, 2)] : List (Nat × Nat)).all fun c => at_ [(0, 9, 100, 8, 8), (1, 10, 101, 6, 6), (2, 9, 102, c.1, c.2)]) = true := by kernel_rfl
theorem all259 : (([(3, 3), (4, 4), (5, 5)] : List (Nat × Nat)).all fun c => at_ [(0, 9, 100, 8, 8), (1, 10, 101, 6, 6), (2, 9, 102, c.1, c.2)]) = true := by kernel_rfl
theorem all260 : (([(6, 6), (7, 7), (8, 8)] : List (Nat × Nat)).all fun c => at_ [(0, 9, 100, 8, 8), (1, 10, 101, 6, 6), (2, 9, 102, c.1, c.2)]) = true := by kernel_rfl
theorem all261 : (([(0, 0), (1, 1), (2, 2)] : List (Nat × Nat)).all fun c => at_ [(0, 9, 100, 8, 8), (1, 10, 101, 7, 7), (2, 9, 102, c.1, c.2)]) = true := by kernel_rfl
theorem all262 : (([(3, 3), (4, 4), (5, 5)] : List (Nat × Nat)).all fun c => at_ [(0, 9, 100, 8, 8), (1, 10, 101, 7, 7), (2, 9, 102, c.1, c.2)]) = true := by kernel_rfl
theorem all263 : (([(6, 6), (7, 7), (8, 8)] : List (Nat × Nat)).all fun c => at_ [(0, 9, 100, 8, 8), (1, 10, 101, 7, 7), (2, 9, 102, c.1, c.2)]) = true := by kernel_rfl
theorem all264 : (([(0, 0), (1, 1), (2, 2)] : List (Nat × Nat)).all fun c => at_ [(0, 9, 100, 8, 8), (1, 10, 101, 8, 8), (2, 9, 102, c.1, c.2)]) = true := by kernel_rfl
theorem all265 : (([(3, 3), (4, 4), (5, 5)] : List (Nat × Nat)).all fun c => at_ [(0, 9, 100, 8, 8), (1, 10, 101, 8, 8), (2, 9, 102, c.1, c.2)]) = true := by kernel_rfl
theorem all266 : (([(6, 6), (7, 7), (8, 8)] : List (Nat × Nat)).all fun c => at_ [(0, 9, 100, 8, 8), (1, 10, 101, 8, 8), (2, 9, 102, c.1, c.2)]) = true := by kernel_rfl
theorem all267 : (([(0, 0), (1, 1), (2, 2)] : List (Nat × Nat)).all fun c => at_ [(0, 9, 100, 8, 8), (1, 10, 101, 9, 9), (2, 9, 102, c.1, c.2)]) = true := by kernel_rfl
theorem all268 : (([(3, 3), (4, 4), (5, 5)] : List (Nat × Nat)).all fun c => at_ [(0, 9, 100, 8, 8), (1, 10, 101, 9, 9), (2, 9, 102, c.1, c.2)]) = true := by kernel_rfl
theorem all269 : (([(6, 6), (7, 7), (8, 8)] : List (Nat × Nat)).all fun c => at_ [(0, 9, 100, 8, 8), (1, 10, 101, 9, 9), (2, 9, 102, c.1, c.2)]) = true := by kernel_rfl
end Go.Proofs.Ytpfloofjnpgbeaa.scriptForms
