/- What the plain terms find of AnswerAll: a part of the cases. -/
import Derived.Test.YtlljepgfecodoaaAAWE
namespace Go.Proofs.Ytlljepgfecodoaa.answerAll
set_option maxRecDepth 1000000
set_option linter.unusedVariables false
theorem p9 (tl0 : List Value) (el0 : Nat) : runp1 (3, 3) 0 (.slice (some ⟨0, 0, none⟩) 0 (0 + 0)) (heapOf [⟨intToks 0 0 0 ++ tl0, el0, 2, 1⟩]) = true := by kernel_rfl
theorem p21 (tl0 : List Value) (el0 K0 : Nat) : runp1 (3, 3) 1 (.slice (some ⟨0, 0, none⟩) 1 (K0 + 1)) (heapOf [⟨intToks 0 1 0 ++ tl0, el0, 2, 1⟩]) = true := by kernel_rfl
theorem p33 (tl0 : List Value) (el0 K0 : Nat) : runp2 (0, 0) (3, 3) 3 (.slice (some ⟨0, 0, none⟩) 3 (K0 + 3)) (heapOf [⟨intToks 0 3 0 ++ tl0, el0, 2, 1⟩]) = true := by kernel_rfl
theorem p45 (tl0 : List Value) (el0 K0 : Nat) : runp2 (1, 1) (7, 7) 3 (.slice (some ⟨0, 0, none⟩) 3 (K0 + 3)) (heapOf [⟨intToks 0 3 0 ++ tl0, el0, 2, 1⟩]) = true := by kernel_rfl
theorem p57 (tl0 : List Value) (el0 K0 : Nat) : runp2 (3, 3) (3, 3) 3 (.slice (some ⟨0, 0, none⟩) 3 (K0 + 3)) (heapOf [⟨intToks 0 3 0 ++ tl0, el0, 2, 1⟩]) = true := by kernel_rfl
theorem p69 (tl0 : List Value) (el0 K0 : Nat) : runp2 (4, 4) (7, 7) 3 (.slice (some ⟨0, 0, none⟩) 3 (K0 + 3)) (heapOf [⟨intToks 0 3 0 ++ tl0, el0, 2, 1⟩]) = true := by kernel_rfl
theorem p81 (tl0 : List Value) (el0 K0 : Nat) : runp3 (0, 0) (0, 0) (3, 3) 4 (.slice (some ⟨0, 0, none⟩) 4 (K0 + 4)) (heapOf [⟨intToks 0 4 0 ++ tl0, el0, 2, 1⟩]) = true := by kernel_rfl
theorem p93 (tl0 : List Value) (el0 K0 : Nat) : runp3 (0, 0) (1, 1) (7, 7) 4 (.slice (some ⟨0, 0, none⟩) 4 (K0 + 4)) (heapOf [⟨intToks 0 4 0 ++ tl0, el0, 2, 1⟩]) = true := by kernel_rfl
theorem p105 (tl0 : List Value) (el0 K0 : Nat) : runp3 (0, 0) (3, 3) (3, 3) 4 (.slice (some ⟨0, 0, none⟩) 4 (K0 + 4)) (heapOf [⟨intToks 0 4 0 ++ tl0, el0, 2, 1⟩]) = true := by kernel_rfl
theorem p117 (tl0 : List Value) (el0 K0 : Nat) : runp3 (0, 0) (4, 4) (7, 7) 4 (.slice (some ⟨0, 0, none⟩) 4 (K0 + 4)) (heapOf [⟨intToks 0 4 0 ++ tl0, el0, 2, 1⟩]) = true := by kernel_rfl
theorem p129 (tl0 : List Value) (el0 K0 : Nat) : runp3 (0, 0) (6, 6) (3, 3) 4 (.slice (some ⟨0, 0, none⟩) 4 (K0 + 4)) (heapOf [⟨intToks 0 4 0 ++ tl0, el0, 2, 1⟩]) = true := by kernel_rfl
theorem p141 (tl0 : List Value) (el0 K0 : Nat) : runp3 (0, 0) (7, 7) (7, 7) 4 (.slice (some ⟨0, 0, none⟩) 4 (K0 + 4)) (heapOf [⟨intToks 0 4 0 ++ tl0, el0, 2, 1⟩]) = true := by kernel_rfl
theorem p153 (tl0 : List Value) (el0 K0 : Nat) : runp3 (1, 1) (1, 1) (3, 3) 4 (.slice (some ⟨0, 0, none⟩) 4 (K0 + 4)) (heapOf [⟨intToks 0 4 0 ++ tl0, el0, 2, 1⟩]) = true := by kernel_rfl
theorem p165 (tl0 : List Value) (el0 K0 : Nat) : runp3 (1, 1) (2, 2) (7, 7) 4 (.slice (some ⟨0, 0, none⟩) 4 (K0 + 4)) (heapOf [⟨intToks 0 4 0 ++ tl0, el0, 2, 1⟩]) = true := by kernel_rfl
theorem p177 (tl0 : List Value) (el0 K0 : Nat) : runp3 (1, 1) (4, 4) (3, 3) 4 (.slice (some ⟨0, 0, none⟩) 4 (K0 + 4)) (heapOf [⟨intToks 0 4 0 ++ tl0, el0, 2, 1⟩]) = true := by kernel_rfl
theorem p189 (tl0 : List Value) (el0 K0 : Nat) : runp3 (1, 1) (5, 5) (7, 7) 4 (.slice (some ⟨0, 0, none⟩) 4 (K0 + 4)) (heapOf [⟨intToks 0 4 0 ++ tl0, el0, 2, 1⟩]) = true := by kernel_rfl
theorem p201 (tl0 : List Value) (el0 K0 : Nat) : runp3 (1, 1) (7, 7) (3, 3) 4 (.slice (some ⟨0, 0, none⟩) 4 (K0 + 4)) (heapOf [⟨intToks 0 4 0 ++ tl0, el0, 2, 1⟩]) = true := by kernel_rfl
theorem p213 (tl0 : List Value) (el0 K0 : Nat) : runp3 (2, 2) (0, 0) (7, 7) 4 (.slice (some ⟨0, 0, none⟩) 4 (K0 + 4)) (heapOf [⟨intToks 0 4 0 ++ tl0, el0, 2, 1⟩]) = true := by kernel_rfl
theorem p225 (tl0 : List Value) (el0 K0 : Nat) : runp3 (2, 2) (2, 2) (3, 3) 4 (.slice (some ⟨0, 0, none⟩) 4 (K0 + 4)) (heapOf [⟨intToks 0 4 0 ++ tl0, el0, 2, 1⟩]) = true := by kernel_rfl
theorem p237 (tl0 : List Value) (el0 K0 : Nat) : runp3 (2, 2) (3, 3) (7, 7) 4 (.slice (some ⟨0, 0, none⟩) 4 (K0 + 4)) (heapOf [⟨intToks 0 4 0 ++ tl0, el0, 2, 1⟩]) = true := by kernel_rfl
theorem p249 (tl0 : List Value) (el0 K0 : Nat) : runp3 (2, 2) (5, 5) (3, 3) 4 (.slice (some ⟨0, 0, none⟩) 4 (K0 + 4)) (heapOf [⟨intToks 0 4 0 ++ tl0, el0, 2, 1⟩]) = true := by kernel_rfl
theorem p261 (tl0 : List Value) (el0 K0 : Nat) : runp3 (2, 2) (6, 6) (7, 7) 4 (.slice (some ⟨0, 0, none⟩) 4 (K0 + 4)) (heapOf [⟨intToks 0 4 0 ++ tl0, el0, 2, 1⟩]) = true := by kernel_rfl
theorem p273 (tl0 : List Value) (el0 K0 : Nat) : runp3 (3, 3) (0, 0) (3, 3) 4 (.slice (some ⟨0, 0, none⟩) 4 (K0 + 4)) (heapOf [⟨intToks 0 4 0 ++ tl0, el0, 2, 1⟩]) = true := by kernel_rfl
theorem p285 (tl0 : List Value) (el0 K0 : Nat) : runp3 (3, 3) (1, 1) (7, 7) 4 (.slice (some ⟨0, 0, none⟩) 4 (K0 + 4)) (heapOf [⟨intToks 0 4 0 ++ tl0, el0, 2, 1⟩]) = true := by kernel_rfl
theorem p297 (tl0 : List Value) (el0 K0 : Nat) : runp3 (3, 3) (3, 3) (3, 3) 4 (.slice (some ⟨0, 0, none⟩) 4 (K0 + 4)) (heapOf [⟨intToks 0 4 0 ++ tl0, el0, 2, 1⟩]) = true := by kernel_rfl
theorem p309 (tl0 : List Value) (el0 K0 : Nat) : runp3 (3, 3) (4, 4) (7, 7) 4 (.slice (some ⟨0, 0, none⟩) 4 (K0 + 4)) (heapOf [⟨intToks 0 4 0 ++ tl0, el0, 2, 1⟩]) = true := by kernel_rfl
theorem p321 (tl0 : List Value) (el0 K0 : Nat) : runp3 (3, 3) (6, 6) (3, 3) 4 (.slice (some ⟨0, 0, none⟩) 4 (K0 + 4)) (heapOf [⟨intToks 0 4 0 ++ tl0, el0, 2, 1⟩]) = true := by kernel_rfl
theorem p333 (tl0 : List Value) (el0 K0 : Nat) : runp3 (3, 3) (7, 7) (7, 7) 4 (.slice (some ⟨0, 0, none⟩) 4 (K0 + 4)) (heapOf [⟨intToks 0 4 0 ++ tl0, el0, 2, 1⟩]) = true := by kernel_rfl
theorem p345 (tl0 : List Value) (el0 K0 : Nat) : runp3 (4, 4) (1, 1) (3, 3) 4 (.slice (some ⟨0, 0, none⟩) 4 (K0 + 4)) (heapOf [⟨intToks 0 4 0 ++ tl0, el0, 2, 1⟩]) = true := by kernel_rfl
theorem p357 (tl0 : List Value) (el0 K0 : Nat) : runp3 (4, 4) (2, 2) (7, 7) 4 (.slice (some ⟨0, 0, none⟩) 4 (K0 + 4)) (heapOf [⟨intToks 0 4 0 ++ tl0, el0, 2, 1⟩]) = true := by kernel_rfl
theorem p369 (tl0 : List Value) (el0 K0 : Nat) : runp3 (4, 4) (4, 4) (3, 3) 4 (.slice (some ⟨0, 0, none⟩) 4 (K0 + 4)) (heapOf [⟨intToks 0 4 0 ++ tl0, el0, 2, 1⟩]) = true := by kernel_rfl
theorem p381 (tl0 : List Value) (el0 K0 : Nat) : runp3 (4, 4) (5, 5) (7, 7) 4 (.slice (some ⟨0, 0, none⟩) 4 (K0 + 4)) (heapOf [⟨intToks 0 4 0 ++ tl0, el0, 2, 1⟩]) = true := by kernel_rfl
theorem p393 (tl0 : List Value) (el0 K0 : Nat) : runp3 (4, 4) (7, 7) (3, 3) 4 (.slice (some ⟨0, 0, none⟩) 4 (K0 + 4)) (heapOf [⟨intToks 0 4 0 ++ tl0, el0, 2, 1⟩]) = true := by kernel_rfl
theorem p405 (tl0 : List Value) (el0 K0 : Nat) : runp3 (5, 5) (0, 0) (7, 7) 4 (.slice (some ⟨0, 0, none⟩) 4 (K0 + 4)) (heapOf [⟨intToks 0 4 0 ++ tl0, el0, 2, 1⟩]) = true := by kernel_rfl
theorem p417 (tl0 : List Value) (el0 K0 : Nat) : runp3 (5, 5) (2, 2) (3, 3) 4 (.slice (some ⟨0, 0, none⟩) 4 (K0 + 4)) (heapOf [⟨intToks 0 4 0 ++ tl0, el0, 2, 1⟩]) = true := by kernel_rfl
theorem p429 (tl0 : List Value) (el0 K0 : Nat) : runp3 (5, 5) (3, 3) (7, 7) 4 (.slice (some ⟨0, 0, none⟩) 4 (K0 + 4)) (heapOf [⟨intToks 0 4 0 ++ tl0, el0, 2, 1⟩]) = true := by kernel_rfl
theorem p441 (tl0 : List Value) (el0 K0 : Nat) : runp3 (5, 5) (5, 5) (3, 3) 4 (.slice (some ⟨0, 0, none⟩) 4 (K0 + 4)) (heapOf [⟨intToks 0 4 0 ++ tl0, el0, 2, 1⟩]) = true := by kernel_rfl
theorem p453 (tl0 : List Value) (el0 K0 : Nat) : runp3 (5, 5) (6, 6) (7, 7) 4 (.slice (some ⟨0, 0, none⟩) 4 (K0 + 4)) (heapOf [⟨intToks 0 4 0 ++ tl0, el0, 2, 1⟩]) = true := by kernel_rfl
theorem p465 (tl0 : List Value) (el0 K0 M0 : Nat) : runp3 (0, 0) (0, 0) (3, 3) 4 (.slice (some ⟨0, 0, none⟩) (M0 + 5) (K0 + (M0 + 5))) (heapOf [⟨intToks 0 4 0 ++ tl0, el0, 2, 1⟩]) = true := by kernel_rfl
theorem p477 (tl0 : List Value) (el0 K0 M0 : Nat) : runp3 (0, 0) (1, 1) (7, 7) 4 (.slice (some ⟨0, 0, none⟩) (M0 + 5) (K0 + (M0 + 5))) (heapOf [⟨intToks 0 4 0 ++ tl0, el0, 2, 1⟩]) = true := by kernel_rfl
theorem p489 (tl0 : List Value) (el0 K0 M0 : Nat) : runp3 (0, 0) (3, 3) (3, 3) 4 (.slice (some ⟨0, 0, none⟩) (M0 + 5) (K0 + (M0 + 5))) (heapOf [⟨intToks 0 4 0 ++ tl0, el0, 2, 1⟩]) = true := by kernel_rfl
theorem p501 (tl0 : List Value) (el0 K0 M0 : Nat) : runp3 (0, 0) (4, 4) (7, 7) 4 (.slice (some ⟨0, 0, none⟩) (M0 + 5) (K0 + (M0 + 5))) (heapOf [⟨intToks 0 4 0 ++ tl0, el0, 2, 1⟩]) = true := by kernel_rfl
theorem p513 (tl0 : List Value) (el0 K0 M0 : Nat) : runp3 (0, 0) (6, 6) (3, 3) 4 (.slice (some ⟨0, 0, none⟩) (M0 + 5) (K0 + (M0 + 5))) (heapOf [⟨intToks 0 4 0 ++ tl0, el0, 2, 1⟩]) = true := by kernel_rfl
theorem p525 (tl0 : List Value) (el0 K0 M0 : Nat) : runp3 (0, 0) (7, 7) (7, 7) 4 (.slice (some ⟨0, 0, none⟩) (M0 + 5) (K0 + (M0 + 5))) (heapOf [⟨intToks 0 4 0 ++ tl0, el0, 2, 1⟩]) = true := by kernel_rfl
theorem p537 (tl0 : List Value) (el0 K0 M0 : Nat) : runp3 (1, 1) (1, 1) (3, 3) 4 (.slice (some ⟨0, 0, none⟩) (M0 + 5) (K0 + (M0 + 5))) (heapOf [⟨intToks 0 4 0 ++ tl0, el0, 2, 1⟩]) = true := by kernel_rfl
theorem p549 (tl0 : List Value) (el0 K0 M0 : Nat) : runp3 (1, 1) (2, 2) (7, 7) 4 (.slice (some ⟨0, 0, none⟩) (M0 + 5) (K0 + (M0 + 5))) (heapOf [⟨intToks 0 4 0 ++ tl0, el0, 2, 1⟩]) = true := by kernel_rfl
theorem p561 (tl0 : List Value) (el0 K0 M0 : Nat) : runp3 (1, 1) (4, 4) (3, 3) 4 (.slice (some ⟨0, 0, none⟩) (M0 + 5) (K0 + (M0 + 5))) (heapOf [⟨intToks 0 4 0 ++ tl0, el0, 2, 1⟩]) = true := by kernel_rfl
theorem p573 (tl0 : List Value) (el0 K0 M0 : Nat) : runp3 (1, 1) (5, 5) (7, 7) 4 (.slice (some ⟨0, 0, none⟩) (M0 + 5) (K0 + (M0 + 5))) (heapOf [⟨intToks 0 4 0 ++ tl0, el0, 2, 1⟩]) = true := by kernel_rfl
theorem p585 (tl0 : List Value) (el0 K0 M0 : Nat) : runp3 (1, 1) (7, 7) (3, 3) 4 (.slice (some ⟨0, 0, none⟩) (M0 + 5) (K0 + (M0 + 5))) (heapOf [⟨intToks 0 4 0 ++ tl0, el0, 2, 1⟩]) = true := by kernel_rfl
theorem p597 (tl0 : List Value) (el0 K0 M0 : Nat) : runp3 (2, 2) (0, 0) (7, 7) 4 (.slice (some ⟨0, 0, none⟩) (M0 + 5) (K0 + (M0 + 5))) (heapOf [⟨intToks 0 4 0 ++ tl0, el0, 2, 1⟩]) = true := by kernel_rfl
theorem p609 (tl0 : List Value) (el0 K0 M0 : Nat) : runp3 (2, 2) (2, 2) (3, 3) 4 (.slice (some ⟨0, 0, none⟩) (M0 + 5) (K0 + (M0 + 5))) (heapOf [⟨intToks 0 4 0 ++ tl0, el0, 2, 1⟩]) = true := by kernel_rfl
theorem p621 (tl0 : List Value) (el0 K0 M0 : Nat) : runp3 (2, 2) (3, 3) (7, 7) 4 (.slice (some ⟨0, 0, none⟩) (M0 + 5) (K0 + (M0 + 5))) (heapOf [⟨intToks 0 4 0 ++ tl0, el0, 2, 1⟩]) = true := by kernel_rfl
theorem p633 (tl0 : List Value) (el0 K0 M0 : Nat) : runp3 (2, 2) (5, 5) (3, 3) 4 (.slice (some ⟨0, 0, none⟩) (M0 + 5) (K0 + (M0 + 5))) (heapOf [⟨intToks 0 4 0 ++ tl0, el0, 2, 1⟩]) = true := by kernel_rfl
theorem p645 (tl0 : List Value) (el0 K0 M0 : Nat) : runp3 (2, 2) (6, 6) (7, 7) 4 (.slice (some ⟨0, 0, none⟩) (M0 + 5) (K0 + (M0 + 5))) (heapOf [⟨intToks 0 4 0 ++ tl0, el0, 2, 1⟩]) = true := by kernel_rfl
theorem p657 (tl0 : List Value) (el0 K0 M0 : Nat) : runp3 (3, 3) (0, 0) (3, 3) 4 (.slice (some ⟨0, 0, none⟩) (M0 + 5) (K0 + (M0 + 5))) (heapOf [⟨intToks 0 4 0 ++ tl0, el0, 2, 1⟩]) = true := by kernel_rfl
theorem p669 (tl0 : List Value) (el0 K0 M0 : Nat) : runp3 (3, 3) (1, 1) (7, 7) 4 (.slice (some ⟨0, 0, none⟩) (M0 + 5) (K0 + (M0 + 5))) (heapOf [⟨intToks 0 4 0 ++ tl0, el0, 2, 1⟩]) = true := by kernel_rfl
theorem p681 (tl0 : List Value) (el0 K0 M0 : Nat) : runp3 (3, 3) (3, 3) (3, 3) 4 (.slice (some ⟨0, 0, none⟩) (M0 + 5) (K0 + (M0 + 5))) (heapOf [⟨intToks 0 4 0 ++ tl0, el0, 2, 1⟩]) = true := by kernel_rfl
theorem p693 (tl0 : List Value) (el0 K0 M0 : Nat) : runp3 (3, 3) (4, 4) (7, 7) 4 (.slice (some ⟨0, 0, none⟩) (M0 + 5) (K0 + (M0 + 5))) (heapOf [⟨intToks 0 4 0 ++ tl0, el0, 2, 1⟩]) = true := by kernel_rfl
theorem p705 (tl0 : List Value) (el0 K0 M0 : Nat) : runp3 (3, 3) (6, 6) (3, 3) 4 (.slice (some ⟨0, 0, none⟩) (M0 + 5) (K0 + (M0 + 5))) (heapOf [⟨intToks 0 4 0 ++ tl0, el0, 2, 1⟩]) = true := by kernel_rfl
theorem p717 (tl0 : List Value) (el0 K0 M0 : Nat) : runp3 (3, 3) (7, 7) (7, 7) 4 (.slice (some ⟨0, 0, none⟩) (M0 + 5) (K0 + (M0 + 5))) (heapOf [⟨intToks 0 4 0 ++ tl0, el0, 2, 1⟩]) = true := by kernel_rfl
theorem p729 (tl0 : List Value) (el0 K0 M0 : Nat) : runp3 (4, 4) (1, 1) (3, 3) 4 (.slice (some ⟨0, 0, none⟩) (M0 + 5) (K0 + (M0 + 5))) (heapOf [⟨intToks 0 4 0 ++ tl0, el0, 2, 1⟩]) = true := by kernel_rfl
theorem p741 (tl0 : List Value) (el0 K0 M0 : Nat) : runp3 (4, 4) (2, 2) (7, 7) 4 (.slice (some ⟨0, 0, none⟩) (M0 + 5) (K0 + (M0 + 5))) (heapOf [⟨intToks 0 4 0 ++ tl0, el0, 2, 1⟩]) = true := by kernel_rfl
theorem p753 (tl0 : List Value) (el0 K0 M0 : Nat) : runp3 (4, 4) (4, 4) (3, 3) 4 (.slice (some ⟨0, 0, none⟩) (M0 + 5) (K0 + (M0 + 5))) (heapOf [⟨intToks 0 4 0 ++ tl0, el0, 2, 1⟩]) = true := by kernel_rfl
theorem p765 (tl0 : List Value) (el0 K0 M0 : Nat) : runp3 (4, 4) (5, 5) (7, 7) 4 (.slice (some ⟨0, 0, none⟩) (M0 + 5) (K0 + (M0 + 5))) (heapOf [⟨intToks 0 4 0 ++ tl0, el0, 2, 1⟩]) = true := by kernel_rfl
theorem p777 (tl0 : List Value) (el0 K0 M0 : Nat) : runp3 (4, 4) (7, 7) (3, 3) 4 (.slice (some ⟨0, 0, none⟩) (M0 + 5) (K0 + (M0 + 5))) (heapOf [⟨intToks 0 4 0 ++ tl0, el0, 2, 1⟩]) = true := by kernel_rfl
theorem p789 (tl0 : List Value) (el0 K0 M0 : Nat) : runp3 (5, 5) (0, 0) (7, 7) 4 (.slice (some ⟨0, 0, none⟩) (M0 + 5) (K0 + (M0 + 5))) (heapOf [⟨intToks 0 4 0 ++ tl0, el0, 2, 1⟩]) = true := by kernel_rfl
theorem p801 (tl0 : List Value) (el0 K0 M0 : Nat) : runp3 (5, 5) (2, 2) (3, 3) 4 (.slice (some ⟨0, 0, none⟩) (M0 + 5) (K0 + (M0 + 5))) (heapOf [⟨intToks 0 4 0 ++ tl0, el0, 2, 1⟩]) = true := by kernel_rfl
theorem p813 (tl0 : List Value) (el0 K0 M0 : Nat) : runp3 (5, 5) (3, 3) (7, 7) 4 (.slice (some ⟨0, 0, none⟩) (M0 + 5) (K0 + (M0 + 5))) (heapOf [⟨intToks 0 4 0 ++ tl0, el0, 2, 1⟩]) = true := by kernel_rfl
theorem p825 (tl0 : List Value) (el0 K0 M0 : Nat) : runp3 (5, 5) (5, 5) (3, 3) 4 (.slice (some ⟨0, 0, none⟩) (M0 + 5) (K0 + (M0 + 5))) (heapOf [⟨intToks 0 4 0 ++ tl0, el0, 2, 1⟩]) = true := by kernel_rfl
theorem p837 (tl0 : List Value) (el0 K0 M0 : Nat) : runp3 (5, 5) (6, 6) (7, 7) 4 (.slice (some ⟨0, 0, none⟩) (M0 + 5) (K0 + (M0 + 5))) (heapOf [⟨intToks 0 4 0 ++ tl0, el0, 2, 1⟩]) = true := by kernel_rfl
end Go.Proofs.Ytlljepgfecodoaa.answerAll
