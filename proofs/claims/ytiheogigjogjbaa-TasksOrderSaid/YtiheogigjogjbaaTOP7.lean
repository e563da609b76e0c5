/- What the plain terms find of TasksOrder: a part of the cases. -/
import Derived.Test.YtiheogigjogjbaaTOWE
namespace Go.Proofs.Ytiheogigjogjbaa.tasksOrder
set_option maxRecDepth 1000000
set_option linter.unusedVariables false
theorem p7 (tl0 : List Value) (el0 K0 : Nat) : runp (1, 1) (0, 3) (0, 3) (0, 3) 0 (.slice (some ⟨0, 0, none⟩) 0 ((K0 + 1) + 0)) (heapOf [⟨intToks 0 0 0 ++ tl0, el0, 2, 1⟩]) = true := by kernel_rfl
theorem p19 (tl0 : List Value) (el0 K0 : Nat) : runp (0, 0) (1, 3) (1, 1) (0, 3) 2 (.slice (some ⟨0, 0, none⟩) 2 (K0 + 2)) (heapOf [⟨intToks 0 2 0 ++ tl0, el0, 2, 1⟩]) = true := by kernel_rfl
theorem p31 (tl0 : List Value) (el0 K0 : Nat) : runp (2, 2) (0, 0) (3, 3) (0, 3) 2 (.slice (some ⟨0, 0, none⟩) 2 (K0 + 2)) (heapOf [⟨intToks 0 2 0 ++ tl0, el0, 2, 1⟩]) = true := by kernel_rfl
theorem p43 (tl0 : List Value) (el0 K0 : Nat) : runp (0, 0) (1, 3) (1, 1) (0, 0) 3 (.slice (some ⟨0, 0, none⟩) 3 (K0 + 3)) (heapOf [⟨intToks 0 3 0 ++ tl0, el0, 2, 1⟩]) = true := by kernel_rfl
theorem p55 (tl0 : List Value) (el0 K0 : Nat) : runp (1, 1) (1, 3) (0, 0) (0, 0) 3 (.slice (some ⟨0, 0, none⟩) 3 (K0 + 3)) (heapOf [⟨intToks 0 3 0 ++ tl0, el0, 2, 1⟩]) = true := by kernel_rfl
theorem p67 (tl0 : List Value) (el0 K0 : Nat) : runp (2, 2) (0, 0) (3, 3) (0, 0) 3 (.slice (some ⟨0, 0, none⟩) 3 (K0 + 3)) (heapOf [⟨intToks 0 3 0 ++ tl0, el0, 2, 1⟩]) = true := by kernel_rfl
theorem p79 (tl0 : List Value) (el0 K0 : Nat) : runp (0, 0) (0, 0) (2, 3) (0, 0) 4 (.slice (some ⟨0, 0, none⟩) 4 (K0 + 4)) (heapOf [⟨intToks 0 4 0 ++ tl0, el0, 2, 1⟩]) = true := by kernel_rfl
theorem p91 (tl0 : List Value) (el0 K0 : Nat) : runp (1, 1) (0, 0) (2, 2) (0, 0) 4 (.slice (some ⟨0, 0, none⟩) 4 (K0 + 4)) (heapOf [⟨intToks 0 4 0 ++ tl0, el0, 2, 1⟩]) = true := by kernel_rfl
theorem p103 (tl0 : List Value) (el0 K0 : Nat) : runp (2, 2) (0, 0) (0, 0) (0, 0) 4 (.slice (some ⟨0, 0, none⟩) 4 (K0 + 4)) (heapOf [⟨intToks 0 4 0 ++ tl0, el0, 2, 1⟩]) = true := by kernel_rfl
theorem p115 (tl0 : List Value) (el0 K0 : Nat) : runp (0, 0) (0, 0) (0, 0) (0, 0) 5 (.slice (some ⟨0, 0, none⟩) 5 (K0 + 5)) (heapOf [⟨intToks 0 5 0 ++ tl0, el0, 2, 1⟩]) = true := by kernel_rfl
theorem p127 (tl0 : List Value) (el0 K0 : Nat) : runp (1, 1) (0, 0) (0, 0) (0, 0) 5 (.slice (some ⟨0, 0, none⟩) 5 (K0 + 5)) (heapOf [⟨intToks 0 5 0 ++ tl0, el0, 2, 1⟩]) = true := by kernel_rfl
theorem p139 (tl0 : List Value) (el0 K0 : Nat) : runp (1, 1) (1, 3) (2, 2) (0, 0) 5 (.slice (some ⟨0, 0, none⟩) 5 (K0 + 5)) (heapOf [⟨intToks 0 5 0 ++ tl0, el0, 2, 1⟩]) = true := by kernel_rfl
theorem p151 (tl0 : List Value) (el0 K0 : Nat) : runp (2, 2) (1, 3) (1, 2) (0, 0) 5 (.slice (some ⟨0, 0, none⟩) 5 (K0 + 5)) (heapOf [⟨intToks 0 5 0 ++ tl0, el0, 2, 1⟩]) = true := by kernel_rfl
theorem p163 (tl0 : List Value) (el0 K0 : Nat) : runp (0, 0) (1, 3) (1, 1) (0, 0) 6 (.slice (some ⟨0, 0, none⟩) 6 (K0 + 6)) (heapOf [⟨intToks 0 6 0 ++ tl0, el0, 2, 1⟩]) = true := by kernel_rfl
theorem p175 (tl0 : List Value) (el0 K0 : Nat) : runp (1, 1) (1, 3) (0, 0) (0, 0) 6 (.slice (some ⟨0, 0, none⟩) 6 (K0 + 6)) (heapOf [⟨intToks 0 6 0 ++ tl0, el0, 2, 1⟩]) = true := by kernel_rfl
theorem p187 (tl0 : List Value) (el0 K0 : Nat) : runp (2, 2) (0, 0) (3, 3) (0, 0) 6 (.slice (some ⟨0, 0, none⟩) 6 (K0 + 6)) (heapOf [⟨intToks 0 6 0 ++ tl0, el0, 2, 1⟩]) = true := by kernel_rfl
theorem p199 (tl0 : List Value) (el0 K0 M0 : Nat) : runp (0, 0) (0, 0) (2, 3) (0, 0) 6 (.slice (some ⟨0, 0, none⟩) (M0 + 7) (K0 + (M0 + 7))) (heapOf [⟨intToks 0 6 0 ++ tl0, el0, 2, 1⟩]) = true := by kernel_rfl
theorem p211 (tl0 : List Value) (el0 K0 M0 : Nat) : runp (1, 1) (0, 0) (2, 2) (0, 0) 6 (.slice (some ⟨0, 0, none⟩) (M0 + 7) (K0 + (M0 + 7))) (heapOf [⟨intToks 0 6 0 ++ tl0, el0, 2, 1⟩]) = true := by kernel_rfl
theorem p223 (tl0 : List Value) (el0 K0 M0 : Nat) : runp (2, 2) (0, 0) (0, 0) (0, 0) 6 (.slice (some ⟨0, 0, none⟩) (M0 + 7) (K0 + (M0 + 7))) (heapOf [⟨intToks 0 6 0 ++ tl0, el0, 2, 1⟩]) = true := by kernel_rfl
end Go.Proofs.Ytiheogigjogjbaa.tasksOrder
