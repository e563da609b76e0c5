/- What the plain terms find of TasksOrder: a part of the cases. -/
import Derived.Test.YtiheogigjogjbaaTOWE
namespace Go.Proofs.Ytiheogigjogjbaa.tasksOrder
set_option maxRecDepth 1000000
set_option linter.unusedVariables false
theorem p5 (tl0 : List Value) (el0 : Nat) : runp (2, 2) (0, 3) (0, 3) (0, 3) 0 (.slice (some ⟨0, 0, none⟩) 0 (0 + 0)) (heapOf [⟨intToks 0 0 0 ++ tl0, el0, 2, 1⟩]) = true := by kernel_rfl
theorem p17 (tl0 : List Value) (el0 K0 : Nat) : runp (0, 0) (0, 0) (2, 3) (0, 3) 2 (.slice (some ⟨0, 0, none⟩) 2 (K0 + 2)) (heapOf [⟨intToks 0 2 0 ++ tl0, el0, 2, 1⟩]) = true := by kernel_rfl
theorem p29 (tl0 : List Value) (el0 K0 : Nat) : runp (2, 2) (0, 0) (0, 0) (0, 3) 2 (.slice (some ⟨0, 0, none⟩) 2 (K0 + 2)) (heapOf [⟨intToks 0 2 0 ++ tl0, el0, 2, 1⟩]) = true := by kernel_rfl
theorem p41 (tl0 : List Value) (el0 K0 : Nat) : runp (0, 0) (1, 3) (0, 0) (0, 0) 3 (.slice (some ⟨0, 0, none⟩) 3 (K0 + 3)) (heapOf [⟨intToks 0 3 0 ++ tl0, el0, 2, 1⟩]) = true := by kernel_rfl
theorem p53 (tl0 : List Value) (el0 K0 : Nat) : runp (1, 1) (0, 0) (3, 3) (0, 0) 3 (.slice (some ⟨0, 0, none⟩) 3 (K0 + 3)) (heapOf [⟨intToks 0 3 0 ++ tl0, el0, 2, 1⟩]) = true := by kernel_rfl
theorem p65 (tl0 : List Value) (el0 K0 : Nat) : runp (2, 2) (0, 0) (1, 2) (0, 0) 3 (.slice (some ⟨0, 0, none⟩) 3 (K0 + 3)) (heapOf [⟨intToks 0 3 0 ++ tl0, el0, 2, 1⟩]) = true := by kernel_rfl
theorem p77 (tl0 : List Value) (el0 K0 : Nat) : runp (0, 0) (0, 0) (1, 1) (0, 0) 4 (.slice (some ⟨0, 0, none⟩) 4 (K0 + 4)) (heapOf [⟨intToks 0 4 0 ++ tl0, el0, 2, 1⟩]) = true := by kernel_rfl
theorem p89 (tl0 : List Value) (el0 K0 : Nat) : runp (1, 1) (0, 0) (1, 1) (0, 0) 4 (.slice (some ⟨0, 0, none⟩) 4 (K0 + 4)) (heapOf [⟨intToks 0 4 0 ++ tl0, el0, 2, 1⟩]) = true := by kernel_rfl
theorem p101 (tl0 : List Value) (el0 K0 : Nat) : runp (1, 1) (1, 3) (3, 3) (0, 0) 4 (.slice (some ⟨0, 0, none⟩) 4 (K0 + 4)) (heapOf [⟨intToks 0 4 0 ++ tl0, el0, 2, 1⟩]) = true := by kernel_rfl
theorem p113 (tl0 : List Value) (el0 K0 : Nat) : runp (2, 2) (1, 3) (3, 3) (0, 0) 4 (.slice (some ⟨0, 0, none⟩) 4 (K0 + 4)) (heapOf [⟨intToks 0 4 0 ++ tl0, el0, 2, 1⟩]) = true := by kernel_rfl
theorem p125 (tl0 : List Value) (el0 K0 : Nat) : runp (0, 0) (1, 3) (2, 3) (0, 0) 5 (.slice (some ⟨0, 0, none⟩) 5 (K0 + 5)) (heapOf [⟨intToks 0 5 0 ++ tl0, el0, 2, 1⟩]) = true := by kernel_rfl
theorem p137 (tl0 : List Value) (el0 K0 : Nat) : runp (1, 1) (1, 3) (1, 1) (0, 0) 5 (.slice (some ⟨0, 0, none⟩) 5 (K0 + 5)) (heapOf [⟨intToks 0 5 0 ++ tl0, el0, 2, 1⟩]) = true := by kernel_rfl
theorem p149 (tl0 : List Value) (el0 K0 : Nat) : runp (2, 2) (1, 3) (0, 0) (0, 0) 5 (.slice (some ⟨0, 0, none⟩) 5 (K0 + 5)) (heapOf [⟨intToks 0 5 0 ++ tl0, el0, 2, 1⟩]) = true := by kernel_rfl
theorem p161 (tl0 : List Value) (el0 K0 : Nat) : runp (0, 0) (1, 3) (0, 0) (0, 0) 6 (.slice (some ⟨0, 0, none⟩) 6 (K0 + 6)) (heapOf [⟨intToks 0 6 0 ++ tl0, el0, 2, 1⟩]) = true := by kernel_rfl
theorem p173 (tl0 : List Value) (el0 K0 : Nat) : runp (1, 1) (0, 0) (3, 3) (0, 0) 6 (.slice (some ⟨0, 0, none⟩) 6 (K0 + 6)) (heapOf [⟨intToks 0 6 0 ++ tl0, el0, 2, 1⟩]) = true := by kernel_rfl
theorem p185 (tl0 : List Value) (el0 K0 : Nat) : runp (2, 2) (0, 0) (1, 2) (0, 0) 6 (.slice (some ⟨0, 0, none⟩) 6 (K0 + 6)) (heapOf [⟨intToks 0 6 0 ++ tl0, el0, 2, 1⟩]) = true := by kernel_rfl
theorem p197 (tl0 : List Value) (el0 K0 M0 : Nat) : runp (0, 0) (0, 0) (1, 1) (0, 0) 6 (.slice (some ⟨0, 0, none⟩) (M0 + 7) (K0 + (M0 + 7))) (heapOf [⟨intToks 0 6 0 ++ tl0, el0, 2, 1⟩]) = true := by kernel_rfl
theorem p209 (tl0 : List Value) (el0 K0 M0 : Nat) : runp (1, 1) (0, 0) (1, 1) (0, 0) 6 (.slice (some ⟨0, 0, none⟩) (M0 + 7) (K0 + (M0 + 7))) (heapOf [⟨intToks 0 6 0 ++ tl0, el0, 2, 1⟩]) = true := by kernel_rfl
theorem p221 (tl0 : List Value) (el0 K0 M0 : Nat) : runp (1, 1) (1, 3) (3, 3) (0, 0) 6 (.slice (some ⟨0, 0, none⟩) (M0 + 7) (K0 + (M0 + 7))) (heapOf [⟨intToks 0 6 0 ++ tl0, el0, 2, 1⟩]) = true := by kernel_rfl
theorem p233 (tl0 : List Value) (el0 K0 M0 : Nat) : runp (2, 2) (1, 3) (3, 3) (0, 0) 6 (.slice (some ⟨0, 0, none⟩) (M0 + 7) (K0 + (M0 + 7))) (heapOf [⟨intToks 0 6 0 ++ tl0, el0, 2, 1⟩]) = true := by kernel_rfl
end Go.Proofs.Ytiheogigjogjbaa.tasksOrder
