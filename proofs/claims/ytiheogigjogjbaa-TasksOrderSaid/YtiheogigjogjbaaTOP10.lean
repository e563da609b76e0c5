/- What the plain terms find of TasksOrder: a part of the cases. -/
import Derived.Test.YtiheogigjogjbaaTOWE
namespace Go.Proofs.Ytiheogigjogjbaa.tasksOrder
set_option maxRecDepth 1000000
set_option linter.unusedVariables false
theorem p10 (tl0 : List Value) (el0 K0 : Nat) : runp (0, 0) (1, 3) (0, 3) (0, 3) 1 (.slice (some ⟨0, 0, none⟩) 1 (K0 + 1)) (heapOf [⟨intToks 0 1 0 ++ tl0, el0, 2, 1⟩]) = true := by kernel_rfl
theorem p22 (tl0 : List Value) (el0 K0 : Nat) : runp (1, 1) (0, 0) (1, 1) (0, 3) 2 (.slice (some ⟨0, 0, none⟩) 2 (K0 + 2)) (heapOf [⟨intToks 0 2 0 ++ tl0, el0, 2, 1⟩]) = true := by kernel_rfl
theorem p34 (tl0 : List Value) (el0 K0 : Nat) : runp (2, 2) (1, 3) (3, 3) (0, 3) 2 (.slice (some ⟨0, 0, none⟩) 2 (K0 + 2)) (heapOf [⟨intToks 0 2 0 ++ tl0, el0, 2, 1⟩]) = true := by kernel_rfl
theorem p46 (tl0 : List Value) (el0 K0 : Nat) : runp (0, 0) (1, 3) (2, 3) (1, 3) 3 (.slice (some ⟨0, 0, none⟩) 3 (K0 + 3)) (heapOf [⟨intToks 0 3 0 ++ tl0, el0, 2, 1⟩]) = true := by kernel_rfl
theorem p58 (tl0 : List Value) (el0 K0 : Nat) : runp (1, 1) (1, 3) (1, 1) (1, 3) 3 (.slice (some ⟨0, 0, none⟩) 3 (K0 + 3)) (heapOf [⟨intToks 0 3 0 ++ tl0, el0, 2, 1⟩]) = true := by kernel_rfl
theorem p70 (tl0 : List Value) (el0 K0 : Nat) : runp (2, 2) (1, 3) (0, 0) (1, 3) 3 (.slice (some ⟨0, 0, none⟩) 3 (K0 + 3)) (heapOf [⟨intToks 0 3 0 ++ tl0, el0, 2, 1⟩]) = true := by kernel_rfl
theorem p82 (tl0 : List Value) (el0 K0 : Nat) : runp (0, 0) (1, 3) (0, 0) (1, 3) 4 (.slice (some ⟨0, 0, none⟩) 4 (K0 + 4)) (heapOf [⟨intToks 0 4 0 ++ tl0, el0, 2, 1⟩]) = true := by kernel_rfl
theorem p94 (tl0 : List Value) (el0 K0 : Nat) : runp (1, 1) (0, 0) (3, 3) (1, 3) 4 (.slice (some ⟨0, 0, none⟩) 4 (K0 + 4)) (heapOf [⟨intToks 0 4 0 ++ tl0, el0, 2, 1⟩]) = true := by kernel_rfl
theorem p106 (tl0 : List Value) (el0 K0 : Nat) : runp (2, 2) (0, 0) (1, 2) (1, 3) 4 (.slice (some ⟨0, 0, none⟩) 4 (K0 + 4)) (heapOf [⟨intToks 0 4 0 ++ tl0, el0, 2, 1⟩]) = true := by kernel_rfl
theorem p118 (tl0 : List Value) (el0 K0 : Nat) : runp (0, 0) (0, 0) (1, 1) (1, 3) 5 (.slice (some ⟨0, 0, none⟩) 5 (K0 + 5)) (heapOf [⟨intToks 0 5 0 ++ tl0, el0, 2, 1⟩]) = true := by kernel_rfl
theorem p130 (tl0 : List Value) (el0 K0 : Nat) : runp (1, 1) (0, 0) (1, 1) (1, 3) 5 (.slice (some ⟨0, 0, none⟩) 5 (K0 + 5)) (heapOf [⟨intToks 0 5 0 ++ tl0, el0, 2, 1⟩]) = true := by kernel_rfl
theorem p142 (tl0 : List Value) (el0 K0 : Nat) : runp (1, 1) (1, 3) (3, 3) (1, 3) 5 (.slice (some ⟨0, 0, none⟩) 5 (K0 + 5)) (heapOf [⟨intToks 0 5 0 ++ tl0, el0, 2, 1⟩]) = true := by kernel_rfl
theorem p154 (tl0 : List Value) (el0 K0 : Nat) : runp (2, 2) (1, 3) (3, 3) (1, 3) 5 (.slice (some ⟨0, 0, none⟩) 5 (K0 + 5)) (heapOf [⟨intToks 0 5 0 ++ tl0, el0, 2, 1⟩]) = true := by kernel_rfl
theorem p166 (tl0 : List Value) (el0 K0 : Nat) : runp (0, 0) (1, 3) (2, 3) (1, 3) 6 (.slice (some ⟨0, 0, none⟩) 6 (K0 + 6)) (heapOf [⟨intToks 0 6 0 ++ tl0, el0, 2, 1⟩]) = true := by kernel_rfl
theorem p178 (tl0 : List Value) (el0 K0 : Nat) : runp (1, 1) (1, 3) (1, 1) (1, 3) 6 (.slice (some ⟨0, 0, none⟩) 6 (K0 + 6)) (heapOf [⟨intToks 0 6 0 ++ tl0, el0, 2, 1⟩]) = true := by kernel_rfl
theorem p190 (tl0 : List Value) (el0 K0 : Nat) : runp (2, 2) (1, 3) (0, 0) (1, 3) 6 (.slice (some ⟨0, 0, none⟩) 6 (K0 + 6)) (heapOf [⟨intToks 0 6 0 ++ tl0, el0, 2, 1⟩]) = true := by kernel_rfl
theorem p202 (tl0 : List Value) (el0 K0 M0 : Nat) : runp (0, 0) (1, 3) (0, 0) (1, 3) 6 (.slice (some ⟨0, 0, none⟩) (M0 + 7) (K0 + (M0 + 7))) (heapOf [⟨intToks 0 6 0 ++ tl0, el0, 2, 1⟩]) = true := by kernel_rfl
theorem p214 (tl0 : List Value) (el0 K0 M0 : Nat) : runp (1, 1) (0, 0) (3, 3) (1, 3) 6 (.slice (some ⟨0, 0, none⟩) (M0 + 7) (K0 + (M0 + 7))) (heapOf [⟨intToks 0 6 0 ++ tl0, el0, 2, 1⟩]) = true := by kernel_rfl
theorem p226 (tl0 : List Value) (el0 K0 M0 : Nat) : runp (2, 2) (0, 0) (1, 2) (1, 3) 6 (.slice (some ⟨0, 0, none⟩) (M0 + 7) (K0 + (M0 + 7))) (heapOf [⟨intToks 0 6 0 ++ tl0, el0, 2, 1⟩]) = true := by kernel_rfl
end Go.Proofs.Ytiheogigjogjbaa.tasksOrder
