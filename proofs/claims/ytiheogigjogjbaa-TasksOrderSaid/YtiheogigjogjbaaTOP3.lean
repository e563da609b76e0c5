/- What the plain terms find of TasksOrder: a part of the cases. -/
import Derived.Test.YtiheogigjogjbaaTOWE
namespace Go.Proofs.Ytiheogigjogjbaa.tasksOrder
set_option maxRecDepth 1000000
set_option linter.unusedVariables false
theorem p3 (tl0 : List Value) (el0 : Nat) : runp (0, 0) (0, 3) (0, 3) (0, 3) 0 (.slice (some ⟨0, 0, none⟩) 0 (0 + 0)) (heapOf [⟨intToks 0 0 0 ++ tl0, el0, 2, 1⟩]) = true := by kernel_rfl
theorem p15 (tl0 : List Value) (el0 K0 : Nat) : runp (0, 0) (0, 0) (0, 0) (0, 3) 2 (.slice (some ⟨0, 0, none⟩) 2 (K0 + 2)) (heapOf [⟨intToks 0 2 0 ++ tl0, el0, 2, 1⟩]) = true := by kernel_rfl
theorem p27 (tl0 : List Value) (el0 K0 : Nat) : runp (1, 1) (1, 3) (2, 2) (0, 3) 2 (.slice (some ⟨0, 0, none⟩) 2 (K0 + 2)) (heapOf [⟨intToks 0 2 0 ++ tl0, el0, 2, 1⟩]) = true := by kernel_rfl
theorem p39 (tl0 : List Value) (el0 K0 : Nat) : runp (0, 0) (0, 0) (2, 3) (0, 0) 3 (.slice (some ⟨0, 0, none⟩) 3 (K0 + 3)) (heapOf [⟨intToks 0 3 0 ++ tl0, el0, 2, 1⟩]) = true := by kernel_rfl
theorem p51 (tl0 : List Value) (el0 K0 : Nat) : runp (1, 1) (0, 0) (2, 2) (0, 0) 3 (.slice (some ⟨0, 0, none⟩) 3 (K0 + 3)) (heapOf [⟨intToks 0 3 0 ++ tl0, el0, 2, 1⟩]) = true := by kernel_rfl
theorem p63 (tl0 : List Value) (el0 K0 : Nat) : runp (2, 2) (0, 0) (0, 0) (0, 0) 3 (.slice (some ⟨0, 0, none⟩) 3 (K0 + 3)) (heapOf [⟨intToks 0 3 0 ++ tl0, el0, 2, 1⟩]) = true := by kernel_rfl
theorem p75 (tl0 : List Value) (el0 K0 : Nat) : runp (0, 0) (0, 0) (0, 0) (0, 0) 4 (.slice (some ⟨0, 0, none⟩) 4 (K0 + 4)) (heapOf [⟨intToks 0 4 0 ++ tl0, el0, 2, 1⟩]) = true := by kernel_rfl
theorem p87 (tl0 : List Value) (el0 K0 : Nat) : runp (1, 1) (0, 0) (0, 0) (0, 0) 4 (.slice (some ⟨0, 0, none⟩) 4 (K0 + 4)) (heapOf [⟨intToks 0 4 0 ++ tl0, el0, 2, 1⟩]) = true := by kernel_rfl
theorem p99 (tl0 : List Value) (el0 K0 : Nat) : runp (1, 1) (1, 3) (2, 2) (0, 0) 4 (.slice (some ⟨0, 0, none⟩) 4 (K0 + 4)) (heapOf [⟨intToks 0 4 0 ++ tl0, el0, 2, 1⟩]) = true := by kernel_rfl
theorem p111 (tl0 : List Value) (el0 K0 : Nat) : runp (2, 2) (1, 3) (1, 2) (0, 0) 4 (.slice (some ⟨0, 0, none⟩) 4 (K0 + 4)) (heapOf [⟨intToks 0 4 0 ++ tl0, el0, 2, 1⟩]) = true := by kernel_rfl
theorem p123 (tl0 : List Value) (el0 K0 : Nat) : runp (0, 0) (1, 3) (1, 1) (0, 0) 5 (.slice (some ⟨0, 0, none⟩) 5 (K0 + 5)) (heapOf [⟨intToks 0 5 0 ++ tl0, el0, 2, 1⟩]) = true := by kernel_rfl
theorem p135 (tl0 : List Value) (el0 K0 : Nat) : runp (1, 1) (1, 3) (0, 0) (0, 0) 5 (.slice (some ⟨0, 0, none⟩) 5 (K0 + 5)) (heapOf [⟨intToks 0 5 0 ++ tl0, el0, 2, 1⟩]) = true := by kernel_rfl
theorem p147 (tl0 : List Value) (el0 K0 : Nat) : runp (2, 2) (0, 0) (3, 3) (0, 0) 5 (.slice (some ⟨0, 0, none⟩) 5 (K0 + 5)) (heapOf [⟨intToks 0 5 0 ++ tl0, el0, 2, 1⟩]) = true := by kernel_rfl
theorem p159 (tl0 : List Value) (el0 K0 : Nat) : runp (0, 0) (0, 0) (2, 3) (0, 0) 6 (.slice (some ⟨0, 0, none⟩) 6 (K0 + 6)) (heapOf [⟨intToks 0 6 0 ++ tl0, el0, 2, 1⟩]) = true := by kernel_rfl
theorem p171 (tl0 : List Value) (el0 K0 : Nat) : runp (1, 1) (0, 0) (2, 2) (0, 0) 6 (.slice (some ⟨0, 0, none⟩) 6 (K0 + 6)) (heapOf [⟨intToks 0 6 0 ++ tl0, el0, 2, 1⟩]) = true := by kernel_rfl
theorem p183 (tl0 : List Value) (el0 K0 : Nat) : runp (2, 2) (0, 0) (0, 0) (0, 0) 6 (.slice (some ⟨0, 0, none⟩) 6 (K0 + 6)) (heapOf [⟨intToks 0 6 0 ++ tl0, el0, 2, 1⟩]) = true := by kernel_rfl
theorem p195 (tl0 : List Value) (el0 K0 M0 : Nat) : runp (0, 0) (0, 0) (0, 0) (0, 0) 6 (.slice (some ⟨0, 0, none⟩) (M0 + 7) (K0 + (M0 + 7))) (heapOf [⟨intToks 0 6 0 ++ tl0, el0, 2, 1⟩]) = true := by kernel_rfl
theorem p207 (tl0 : List Value) (el0 K0 M0 : Nat) : runp (1, 1) (0, 0) (0, 0) (0, 0) 6 (.slice (some ⟨0, 0, none⟩) (M0 + 7) (K0 + (M0 + 7))) (heapOf [⟨intToks 0 6 0 ++ tl0, el0, 2, 1⟩]) = true := by kernel_rfl
theorem p219 (tl0 : List Value) (el0 K0 M0 : Nat) : runp (1, 1) (1, 3) (2, 2) (0, 0) 6 (.slice (some ⟨0, 0, none⟩) (M0 + 7) (K0 + (M0 + 7))) (heapOf [⟨intToks 0 6 0 ++ tl0, el0, 2, 1⟩]) = true := by kernel_rfl
theorem p231 (tl0 : List Value) (el0 K0 M0 : Nat) : runp (2, 2) (1, 3) (1, 2) (0, 0) 6 (.slice (some ⟨0, 0, none⟩) (M0 + 7) (K0 + (M0 + 7))) (heapOf [⟨intToks 0 6 0 ++ tl0, el0, 2, 1⟩]) = true := by kernel_rfl
end Go.Proofs.Ytiheogigjogjbaa.tasksOrder
