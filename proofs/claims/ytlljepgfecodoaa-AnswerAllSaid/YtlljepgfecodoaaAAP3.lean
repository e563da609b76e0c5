/- What the plain terms find of AnswerAll: a part of the cases. -/
import Derived.Test.YtlljepgfecodoaaAAWE
namespace Go.Proofs.Ytlljepgfecodoaa.answerAll
set_option maxRecDepth 1000000
set_option linter.unusedVariables false
theorem p3 : runp1 (3, 3) 0 (.slice none 0 0) (heapOf []) = true := by kernel_rfl
theorem p15 (tl0 : List Value) (el0 K0 : Nat) : runp1 (3, 3) 0 (.slice (some ⟨0, 0, none⟩) 0 ((K0 + 1) + 0)) (heapOf [⟨intToks 0 0 0 ++ tl0, el0, 2, 1⟩]) = true := by kernel_rfl
theorem p27 (tl0 : List Value) (el0 K0 : Nat) : runp1 (3, 3) 2 (.slice (some ⟨0, 0, none⟩) 2 (K0 + 2)) (heapOf [⟨intToks 0 2 0 ++ tl0, el0, 2, 1⟩]) = true := by kernel_rfl
theorem p39 (tl0 : List Value) (el0 K0 : Nat) : runp2 (1, 1) (1, 1) 3 (.slice (some ⟨0, 0, none⟩) 3 (K0 + 3)) (heapOf [⟨intToks 0 3 0 ++ tl0, el0, 2, 1⟩]) = true := by kernel_rfl
theorem p51 (tl0 : List Value) (el0 K0 : Nat) : runp2 (2, 2) (5, 5) 3 (.slice (some ⟨0, 0, none⟩) 3 (K0 + 3)) (heapOf [⟨intToks 0 3 0 ++ tl0, el0, 2, 1⟩]) = true := by kernel_rfl
theorem p63 (tl0 : List Value) (el0 K0 : Nat) : runp2 (4, 4) (1, 1) 3 (.slice (some ⟨0, 0, none⟩) 3 (K0 + 3)) (heapOf [⟨intToks 0 3 0 ++ tl0, el0, 2, 1⟩]) = true := by kernel_rfl
theorem p75 (tl0 : List Value) (el0 K0 : Nat) : runp2 (5, 5) (5, 5) 3 (.slice (some ⟨0, 0, none⟩) 3 (K0 + 3)) (heapOf [⟨intToks 0 3 0 ++ tl0, el0, 2, 1⟩]) = true := by kernel_rfl
theorem p87 (tl0 : List Value) (el0 K0 : Nat) : runp3 (0, 0) (1, 1) (1, 1) 4 (.slice (some ⟨0, 0, none⟩) 4 (K0 + 4)) (heapOf [⟨intToks 0 4 0 ++ tl0, el0, 2, 1⟩]) = true := by kernel_rfl
theorem p99 (tl0 : List Value) (el0 K0 : Nat) : runp3 (0, 0) (2, 2) (5, 5) 4 (.slice (some ⟨0, 0, none⟩) 4 (K0 + 4)) (heapOf [⟨intToks 0 4 0 ++ tl0, el0, 2, 1⟩]) = true := by kernel_rfl
theorem p111 (tl0 : List Value) (el0 K0 : Nat) : runp3 (0, 0) (4, 4) (1, 1) 4 (.slice (some ⟨0, 0, none⟩) 4 (K0 + 4)) (heapOf [⟨intToks 0 4 0 ++ tl0, el0, 2, 1⟩]) = true := by kernel_rfl
theorem p123 (tl0 : List Value) (el0 K0 : Nat) : runp3 (0, 0) (5, 5) (5, 5) 4 (.slice (some ⟨0, 0, none⟩) 4 (K0 + 4)) (heapOf [⟨intToks 0 4 0 ++ tl0, el0, 2, 1⟩]) = true := by kernel_rfl
theorem p135 (tl0 : List Value) (el0 K0 : Nat) : runp3 (0, 0) (7, 7) (1, 1) 4 (.slice (some ⟨0, 0, none⟩) 4 (K0 + 4)) (heapOf [⟨intToks 0 4 0 ++ tl0, el0, 2, 1⟩]) = true := by kernel_rfl
theorem p147 (tl0 : List Value) (el0 K0 : Nat) : runp3 (1, 1) (0, 0) (5, 5) 4 (.slice (some ⟨0, 0, none⟩) 4 (K0 + 4)) (heapOf [⟨intToks 0 4 0 ++ tl0, el0, 2, 1⟩]) = true := by kernel_rfl
theorem p159 (tl0 : List Value) (el0 K0 : Nat) : runp3 (1, 1) (2, 2) (1, 1) 4 (.slice (some ⟨0, 0, none⟩) 4 (K0 + 4)) (heapOf [⟨intToks 0 4 0 ++ tl0, el0, 2, 1⟩]) = true := by kernel_rfl
theorem p171 (tl0 : List Value) (el0 K0 : Nat) : runp3 (1, 1) (3, 3) (5, 5) 4 (.slice (some ⟨0, 0, none⟩) 4 (K0 + 4)) (heapOf [⟨intToks 0 4 0 ++ tl0, el0, 2, 1⟩]) = true := by kernel_rfl
theorem p183 (tl0 : List Value) (el0 K0 : Nat) : runp3 (1, 1) (5, 5) (1, 1) 4 (.slice (some ⟨0, 0, none⟩) 4 (K0 + 4)) (heapOf [⟨intToks 0 4 0 ++ tl0, el0, 2, 1⟩]) = true := by kernel_rfl
theorem p195 (tl0 : List Value) (el0 K0 : Nat) : runp3 (1, 1) (6, 6) (5, 5) 4 (.slice (some ⟨0, 0, none⟩) 4 (K0 + 4)) (heapOf [⟨intToks 0 4 0 ++ tl0, el0, 2, 1⟩]) = true := by kernel_rfl
theorem p207 (tl0 : List Value) (el0 K0 : Nat) : runp3 (2, 2) (0, 0) (1, 1) 4 (.slice (some ⟨0, 0, none⟩) 4 (K0 + 4)) (heapOf [⟨intToks 0 4 0 ++ tl0, el0, 2, 1⟩]) = true := by kernel_rfl
theorem p219 (tl0 : List Value) (el0 K0 : Nat) : runp3 (2, 2) (1, 1) (5, 5) 4 (.slice (some ⟨0, 0, none⟩) 4 (K0 + 4)) (heapOf [⟨intToks 0 4 0 ++ tl0, el0, 2, 1⟩]) = true := by kernel_rfl
theorem p231 (tl0 : List Value) (el0 K0 : Nat) : runp3 (2, 2) (3, 3) (1, 1) 4 (.slice (some ⟨0, 0, none⟩) 4 (K0 + 4)) (heapOf [⟨intToks 0 4 0 ++ tl0, el0, 2, 1⟩]) = true := by kernel_rfl
theorem p243 (tl0 : List Value) (el0 K0 : Nat) : runp3 (2, 2) (4, 4) (5, 5) 4 (.slice (some ⟨0, 0, none⟩) 4 (K0 + 4)) (heapOf [⟨intToks 0 4 0 ++ tl0, el0, 2, 1⟩]) = true := by kernel_rfl
theorem p255 (tl0 : List Value) (el0 K0 : Nat) : runp3 (2, 2) (6, 6) (1, 1) 4 (.slice (some ⟨0, 0, none⟩) 4 (K0 + 4)) (heapOf [⟨intToks 0 4 0 ++ tl0, el0, 2, 1⟩]) = true := by kernel_rfl
theorem p267 (tl0 : List Value) (el0 K0 : Nat) : runp3 (2, 2) (7, 7) (5, 5) 4 (.slice (some ⟨0, 0, none⟩) 4 (K0 + 4)) (heapOf [⟨intToks 0 4 0 ++ tl0, el0, 2, 1⟩]) = true := by kernel_rfl
theorem p279 (tl0 : List Value) (el0 K0 : Nat) : runp3 (3, 3) (1, 1) (1, 1) 4 (.slice (some ⟨0, 0, none⟩) 4 (K0 + 4)) (heapOf [⟨intToks 0 4 0 ++ tl0, el0, 2, 1⟩]) = true := by kernel_rfl
theorem p291 (tl0 : List Value) (el0 K0 : Nat) : runp3 (3, 3) (2, 2) (5, 5) 4 (.slice (some ⟨0, 0, none⟩) 4 (K0 + 4)) (heapOf [⟨intToks 0 4 0 ++ tl0, el0, 2, 1⟩]) = true := by kernel_rfl
theorem p303 (tl0 : List Value) (el0 K0 : Nat) : runp3 (3, 3) (4, 4) (1, 1) 4 (.slice (some ⟨0, 0, none⟩) 4 (K0 + 4)) (heapOf [⟨intToks 0 4 0 ++ tl0, el0, 2, 1⟩]) = true := by kernel_rfl
theorem p315 (tl0 : List Value) (el0 K0 : Nat) : runp3 (3, 3) (5, 5) (5, 5) 4 (.slice (some ⟨0, 0, none⟩) 4 (K0 + 4)) (heapOf [⟨intToks 0 4 0 ++ tl0, el0, 2, 1⟩]) = true := by kernel_rfl
theorem p327 (tl0 : List Value) (el0 K0 : Nat) : runp3 (3, 3) (7, 7) (1, 1) 4 (.slice (some ⟨0, 0, none⟩) 4 (K0 + 4)) (heapOf [⟨intToks 0 4 0 ++ tl0, el0, 2, 1⟩]) = true := by kernel_rfl
theorem p339 (tl0 : List Value) (el0 K0 : Nat) : runp3 (4, 4) (0, 0) (5, 5) 4 (.slice (some ⟨0, 0, none⟩) 4 (K0 + 4)) (heapOf [⟨intToks 0 4 0 ++ tl0, el0, 2, 1⟩]) = true := by kernel_rfl
theorem p351 (tl0 : List Value) (el0 K0 : Nat) : runp3 (4, 4) (2, 2) (1, 1) 4 (.slice (some ⟨0, 0, none⟩) 4 (K0 + 4)) (heapOf [⟨intToks 0 4 0 ++ tl0, el0, 2, 1⟩]) = true := by kernel_rfl
theorem p363 (tl0 : List Value) (el0 K0 : Nat) : runp3 (4, 4) (3, 3) (5, 5) 4 (.slice (some ⟨0, 0, none⟩) 4 (K0 + 4)) (heapOf [⟨intToks 0 4 0 ++ tl0, el0, 2, 1⟩]) = true := by kernel_rfl
theorem p375 (tl0 : List Value) (el0 K0 : Nat) : runp3 (4, 4) (5, 5) (1, 1) 4 (.slice (some ⟨0, 0, none⟩) 4 (K0 + 4)) (heapOf [⟨intToks 0 4 0 ++ tl0, el0, 2, 1⟩]) = true := by kernel_rfl
theorem p387 (tl0 : List Value) (el0 K0 : Nat) : runp3 (4, 4) (6, 6) (5, 5) 4 (.slice (some ⟨0, 0, none⟩) 4 (K0 + 4)) (heapOf [⟨intToks 0 4 0 ++ tl0, el0, 2, 1⟩]) = true := by kernel_rfl
theorem p399 (tl0 : List Value) (el0 K0 : Nat) : runp3 (5, 5) (0, 0) (1, 1) 4 (.slice (some ⟨0, 0, none⟩) 4 (K0 + 4)) (heapOf [⟨intToks 0 4 0 ++ tl0, el0, 2, 1⟩]) = true := by kernel_rfl
theorem p411 (tl0 : List Value) (el0 K0 : Nat) : runp3 (5, 5) (1, 1) (5, 5) 4 (.slice (some ⟨0, 0, none⟩) 4 (K0 + 4)) (heapOf [⟨intToks 0 4 0 ++ tl0, el0, 2, 1⟩]) = true := by kernel_rfl
theorem p423 (tl0 : List Value) (el0 K0 : Nat) : runp3 (5, 5) (3, 3) (1, 1) 4 (.slice (some ⟨0, 0, none⟩) 4 (K0 + 4)) (heapOf [⟨intToks 0 4 0 ++ tl0, el0, 2, 1⟩]) = true := by kernel_rfl
theorem p435 (tl0 : List Value) (el0 K0 : Nat) : runp3 (5, 5) (4, 4) (5, 5) 4 (.slice (some ⟨0, 0, none⟩) 4 (K0 + 4)) (heapOf [⟨intToks 0 4 0 ++ tl0, el0, 2, 1⟩]) = true := by kernel_rfl
theorem p447 (tl0 : List Value) (el0 K0 : Nat) : runp3 (5, 5) (6, 6) (1, 1) 4 (.slice (some ⟨0, 0, none⟩) 4 (K0 + 4)) (heapOf [⟨intToks 0 4 0 ++ tl0, el0, 2, 1⟩]) = true := by kernel_rfl
theorem p459 (tl0 : List Value) (el0 K0 : Nat) : runp3 (5, 5) (7, 7) (5, 5) 4 (.slice (some ⟨0, 0, none⟩) 4 (K0 + 4)) (heapOf [⟨intToks 0 4 0 ++ tl0, el0, 2, 1⟩]) = true := by kernel_rfl
theorem p471 (tl0 : List Value) (el0 K0 M0 : Nat) : runp3 (0, 0) (1, 1) (1, 1) 4 (.slice (some ⟨0, 0, none⟩) (M0 + 5) (K0 + (M0 + 5))) (heapOf [⟨intToks 0 4 0 ++ tl0, el0, 2, 1⟩]) = true := by kernel_rfl
theorem p483 (tl0 : List Value) (el0 K0 M0 : Nat) : runp3 (0, 0) (2, 2) (5, 5) 4 (.slice (some ⟨0, 0, none⟩) (M0 + 5) (K0 + (M0 + 5))) (heapOf [⟨intToks 0 4 0 ++ tl0, el0, 2, 1⟩]) = true := by kernel_rfl
theorem p495 (tl0 : List Value) (el0 K0 M0 : Nat) : runp3 (0, 0) (4, 4) (1, 1) 4 (.slice (some ⟨0, 0, none⟩) (M0 + 5) (K0 + (M0 + 5))) (heapOf [⟨intToks 0 4 0 ++ tl0, el0, 2, 1⟩]) = true := by kernel_rfl
theorem p507 (tl0 : List Value) (el0 K0 M0 : Nat) : runp3 (0, 0) (5, 5) (5, 5) 4 (.slice (some ⟨0, 0, none⟩) (M0 + 5) (K0 + (M0 + 5))) (heapOf [⟨intToks 0 4 0 ++ tl0, el0, 2, 1⟩]) = true := by kernel_rfl
theorem p519 (tl0 : List Value) (el0 K0 M0 : Nat) : runp3 (0, 0) (7, 7) (1, 1) 4 (.slice (some ⟨0, 0, none⟩) (M0 + 5) (K0 + (M0 + 5))) (heapOf [⟨intToks 0 4 0 ++ tl0, el0, 2, 1⟩]) = true := by kernel_rfl
theorem p531 (tl0 : List Value) (el0 K0 M0 : Nat) : runp3 (1, 1) (0, 0) (5, 5) 4 (.slice (some ⟨0, 0, none⟩) (M0 + 5) (K0 + (M0 + 5))) (heapOf [⟨intToks 0 4 0 ++ tl0, el0, 2, 1⟩]) = true := by kernel_rfl
theorem p543 (tl0 : List Value) (el0 K0 M0 : Nat) : runp3 (1, 1) (2, 2) (1, 1) 4 (.slice (some ⟨0, 0, none⟩) (M0 + 5) (K0 + (M0 + 5))) (heapOf [⟨intToks 0 4 0 ++ tl0, el0, 2, 1⟩]) = true := by kernel_rfl
theorem p555 (tl0 : List Value) (el0 K0 M0 : Nat) : runp3 (1, 1) (3, 3) (5, 5) 4 (.slice (some ⟨0, 0, none⟩) (M0 + 5) (K0 + (M0 + 5))) (heapOf [⟨intToks 0 4 0 ++ tl0, el0, 2, 1⟩]) = true := by kernel_rfl
theorem p567 (tl0 : List Value) (el0 K0 M0 : Nat) : runp3 (1, 1) (5, 5) (1, 1) 4 (.slice (some ⟨0, 0, none⟩) (M0 + 5) (K0 + (M0 + 5))) (heapOf [⟨intToks 0 4 0 ++ tl0, el0, 2, 1⟩]) = true := by kernel_rfl
theorem p579 (tl0 : List Value) (el0 K0 M0 : Nat) : runp3 (1, 1) (6, 6) (5, 5) 4 (.slice (some ⟨0, 0, none⟩) (M0 + 5) (K0 + (M0 + 5))) (heapOf [⟨intToks 0 4 0 ++ tl0, el0, 2, 1⟩]) = true := by kernel_rfl
theorem p591 (tl0 : List Value) (el0 K0 M0 : Nat) : runp3 (2, 2) (0, 0) (1, 1) 4 (.slice (some ⟨0, 0, none⟩) (M0 + 5) (K0 + (M0 + 5))) (heapOf [⟨intToks 0 4 0 ++ tl0, el0, 2, 1⟩]) = true := by kernel_rfl
theorem p603 (tl0 : List Value) (el0 K0 M0 : Nat) : runp3 (2, 2) (1, 1) (5, 5) 4 (.slice (some ⟨0, 0, none⟩) (M0 + 5) (K0 + (M0 + 5))) (heapOf [⟨intToks 0 4 0 ++ tl0, el0, 2, 1⟩]) = true := by kernel_rfl
theorem p615 (tl0 : List Value) (el0 K0 M0 : Nat) : runp3 (2, 2) (3, 3) (1, 1) 4 (.slice (some ⟨0, 0, none⟩) (M0 + 5) (K0 + (M0 + 5))) (heapOf [⟨intToks 0 4 0 ++ tl0, el0, 2, 1⟩]) = true := by kernel_rfl
theorem p627 (tl0 : List Value) (el0 K0 M0 : Nat) : runp3 (2, 2) (4, 4) (5, 5) 4 (.slice (some ⟨0, 0, none⟩) (M0 + 5) (K0 + (M0 + 5))) (heapOf [⟨intToks 0 4 0 ++ tl0, el0, 2, 1⟩]) = true := by kernel_rfl
theorem p639 (tl0 : List Value) (el0 K0 M0 : Nat) : runp3 (2, 2) (6, 6) (1, 1) 4 (.slice (some ⟨0, 0, none⟩) (M0 + 5) (K0 + (M0 + 5))) (heapOf [⟨intToks 0 4 0 ++ tl0, el0, 2, 1⟩]) = true := by kernel_rfl
theorem p651 (tl0 : List Value) (el0 K0 M0 : Nat) : runp3 (2, 2) (7, 7) (5, 5) 4 (.slice (some ⟨0, 0, none⟩) (M0 + 5) (K0 + (M0 + 5))) (heapOf [⟨intToks 0 4 0 ++ tl0, el0, 2, 1⟩]) = true := by kernel_rfl
theorem p663 (tl0 : List Value) (el0 K0 M0 : Nat) : runp3 (3, 3) (1, 1) (1, 1) 4 (.slice (some ⟨0, 0, none⟩) (M0 + 5) (K0 + (M0 + 5))) (heapOf [⟨intToks 0 4 0 ++ tl0, el0, 2, 1⟩]) = true := by kernel_rfl
theorem p675 (tl0 : List Value) (el0 K0 M0 : Nat) : runp3 (3, 3) (2, 2) (5, 5) 4 (.slice (some ⟨0, 0, none⟩) (M0 + 5) (K0 + (M0 + 5))) (heapOf [⟨intToks 0 4 0 ++ tl0, el0, 2, 1⟩]) = true := by kernel_rfl
theorem p687 (tl0 : List Value) (el0 K0 M0 : Nat) : runp3 (3, 3) (4, 4) (1, 1) 4 (.slice (some ⟨0, 0, none⟩) (M0 + 5) (K0 + (M0 + 5))) (heapOf [⟨intToks 0 4 0 ++ tl0, el0, 2, 1⟩]) = true := by kernel_rfl
theorem p699 (tl0 : List Value) (el0 K0 M0 : Nat) : runp3 (3, 3) (5, 5) (5, 5) 4 (.slice (some ⟨0, 0, none⟩) (M0 + 5) (K0 + (M0 + 5))) (heapOf [⟨intToks 0 4 0 ++ tl0, el0, 2, 1⟩]) = true := by kernel_rfl
theorem p711 (tl0 : List Value) (el0 K0 M0 : Nat) : runp3 (3, 3) (7, 7) (1, 1) 4 (.slice (some ⟨0, 0, none⟩) (M0 + 5) (K0 + (M0 + 5))) (heapOf [⟨intToks 0 4 0 ++ tl0, el0, 2, 1⟩]) = true := by kernel_rfl
theorem p723 (tl0 : List Value) (el0 K0 M0 : Nat) : runp3 (4, 4) (0, 0) (5, 5) 4 (.slice (some ⟨0, 0, none⟩) (M0 + 5) (K0 + (M0 + 5))) (heapOf [⟨intToks 0 4 0 ++ tl0, el0, 2, 1⟩]) = true := by kernel_rfl
theorem p735 (tl0 : List Value) (el0 K0 M0 : Nat) : runp3 (4, 4) (2, 2) (1, 1) 4 (.slice (some ⟨0, 0, none⟩) (M0 + 5) (K0 + (M0 + 5))) (heapOf [⟨intToks 0 4 0 ++ tl0, el0, 2, 1⟩]) = true := by kernel_rfl
theorem p747 (tl0 : List Value) (el0 K0 M0 : Nat) : runp3 (4, 4) (3, 3) (5, 5) 4 (.slice (some ⟨0, 0, none⟩) (M0 + 5) (K0 + (M0 + 5))) (heapOf [⟨intToks 0 4 0 ++ tl0, el0, 2, 1⟩]) = true := by kernel_rfl
theorem p759 (tl0 : List Value) (el0 K0 M0 : Nat) : runp3 (4, 4) (5, 5) (1, 1) 4 (.slice (some ⟨0, 0, none⟩) (M0 + 5) (K0 + (M0 + 5))) (heapOf [⟨intToks 0 4 0 ++ tl0, el0, 2, 1⟩]) = true := by kernel_rfl
theorem p771 (tl0 : List Value) (el0 K0 M0 : Nat) : runp3 (4, 4) (6, 6) (5, 5) 4 (.slice (some ⟨0, 0, none⟩) (M0 + 5) (K0 + (M0 + 5))) (heapOf [⟨intToks 0 4 0 ++ tl0, el0, 2, 1⟩]) = true := by kernel_rfl
theorem p783 (tl0 : List Value) (el0 K0 M0 : Nat) : runp3 (5, 5) (0, 0) (1, 1) 4 (.slice (some ⟨0, 0, none⟩) (M0 + 5) (K0 + (M0 + 5))) (heapOf [⟨intToks 0 4 0 ++ tl0, el0, 2, 1⟩]) = true := by kernel_rfl
theorem p795 (tl0 : List Value) (el0 K0 M0 : Nat) : runp3 (5, 5) (1, 1) (5, 5) 4 (.slice (some ⟨0, 0, none⟩) (M0 + 5) (K0 + (M0 + 5))) (heapOf [⟨intToks 0 4 0 ++ tl0, el0, 2, 1⟩]) = true := by kernel_rfl
theorem p807 (tl0 : List Value) (el0 K0 M0 : Nat) : runp3 (5, 5) (3, 3) (1, 1) 4 (.slice (some ⟨0, 0, none⟩) (M0 + 5) (K0 + (M0 + 5))) (heapOf [⟨intToks 0 4 0 ++ tl0, el0, 2, 1⟩]) = true := by kernel_rfl
theorem p819 (tl0 : List Value) (el0 K0 M0 : Nat) : runp3 (5, 5) (4, 4) (5, 5) 4 (.slice (some ⟨0, 0, none⟩) (M0 + 5) (K0 + (M0 + 5))) (heapOf [⟨intToks 0 4 0 ++ tl0, el0, 2, 1⟩]) = true := by kernel_rfl
theorem p831 (tl0 : List Value) (el0 K0 M0 : Nat) : runp3 (5, 5) (6, 6) (1, 1) 4 (.slice (some ⟨0, 0, none⟩) (M0 + 5) (K0 + (M0 + 5))) (heapOf [⟨intToks 0 4 0 ++ tl0, el0, 2, 1⟩]) = true := by kernel_rfl
theorem p843 (tl0 : List Value) (el0 K0 M0 : Nat) : runp3 (5, 5) (7, 7) (5, 5) 4 (.slice (some ⟨0, 0, none⟩) (M0 + 5) (K0 + (M0 + 5))) (heapOf [⟨intToks 0 4 0 ++ tl0, el0, 2, 1⟩]) = true := by kernel_rfl
end Go.Proofs.Ytlljepgfecodoaa.answerAll
