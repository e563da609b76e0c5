/- What the plain terms find of AnswerAll: a part of the cases. -/
import Derived.Test.YtlljepgfecodoaaAAWE
namespace Go.Proofs.Ytlljepgfecodoaa.answerAll
set_option maxRecDepth 1000000
set_option linter.unusedVariables false
theorem p8 (tl0 : List Value) (el0 : Nat) : runp1 (2, 2) 0 (.slice (some ⟨0, 0, none⟩) 0 (0 + 0)) (heapOf [⟨intToks 0 0 0 ++ tl0, el0, 2, 1⟩]) = true := by kernel_rfl
theorem p20 (tl0 : List Value) (el0 K0 : Nat) : runp1 (2, 2) 1 (.slice (some ⟨0, 0, none⟩) 1 (K0 + 1)) (heapOf [⟨intToks 0 1 0 ++ tl0, el0, 2, 1⟩]) = true := by kernel_rfl
theorem p32 (tl0 : List Value) (el0 K0 : Nat) : runp2 (0, 0) (2, 2) 3 (.slice (some ⟨0, 0, none⟩) 3 (K0 + 3)) (heapOf [⟨intToks 0 3 0 ++ tl0, el0, 2, 1⟩]) = true := by kernel_rfl
theorem p44 (tl0 : List Value) (el0 K0 : Nat) : runp2 (1, 1) (6, 6) 3 (.slice (some ⟨0, 0, none⟩) 3 (K0 + 3)) (heapOf [⟨intToks 0 3 0 ++ tl0, el0, 2, 1⟩]) = true := by kernel_rfl
theorem p56 (tl0 : List Value) (el0 K0 : Nat) : runp2 (3, 3) (2, 2) 3 (.slice (some ⟨0, 0, none⟩) 3 (K0 + 3)) (heapOf [⟨intToks 0 3 0 ++ tl0, el0, 2, 1⟩]) = true := by kernel_rfl
theorem p68 (tl0 : List Value) (el0 K0 : Nat) : runp2 (4, 4) (6, 6) 3 (.slice (some ⟨0, 0, none⟩) 3 (K0 + 3)) (heapOf [⟨intToks 0 3 0 ++ tl0, el0, 2, 1⟩]) = true := by kernel_rfl
theorem p80 (tl0 : List Value) (el0 K0 : Nat) : runp3 (0, 0) (0, 0) (2, 2) 4 (.slice (some ⟨0, 0, none⟩) 4 (K0 + 4)) (heapOf [⟨intToks 0 4 0 ++ tl0, el0, 2, 1⟩]) = true := by kernel_rfl
theorem p92 (tl0 : List Value) (el0 K0 : Nat) : runp3 (0, 0) (1, 1) (6, 6) 4 (.slice (some ⟨0, 0, none⟩) 4 (K0 + 4)) (heapOf [⟨intToks 0 4 0 ++ tl0, el0, 2, 1⟩]) = true := by kernel_rfl
theorem p104 (tl0 : List Value) (el0 K0 : Nat) : runp3 (0, 0) (3, 3) (2, 2) 4 (.slice (some ⟨0, 0, none⟩) 4 (K0 + 4)) (heapOf [⟨intToks 0 4 0 ++ tl0, el0, 2, 1⟩]) = true := by kernel_rfl
theorem p116 (tl0 : List Value) (el0 K0 : Nat) : runp3 (0, 0) (4, 4) (6, 6) 4 (.slice (some ⟨0, 0, none⟩) 4 (K0 + 4)) (heapOf [⟨intToks 0 4 0 ++ tl0, el0, 2, 1⟩]) = true := by kernel_rfl
theorem p128 (tl0 : List Value) (el0 K0 : Nat) : runp3 (0, 0) (6, 6) (2, 2) 4 (.slice (some ⟨0, 0, none⟩) 4 (K0 + 4)) (heapOf [⟨intToks 0 4 0 ++ tl0, el0, 2, 1⟩]) = true := by kernel_rfl
theorem p140 (tl0 : List Value) (el0 K0 : Nat) : runp3 (0, 0) (7, 7) (6, 6) 4 (.slice (some ⟨0, 0, none⟩) 4 (K0 + 4)) (heapOf [⟨intToks 0 4 0 ++ tl0, el0, 2, 1⟩]) = true := by kernel_rfl
theorem p152 (tl0 : List Value) (el0 K0 : Nat) : runp3 (1, 1) (1, 1) (2, 2) 4 (.slice (some ⟨0, 0, none⟩) 4 (K0 + 4)) (heapOf [⟨intToks 0 4 0 ++ tl0, el0, 2, 1⟩]) = true := by kernel_rfl
theorem p164 (tl0 : List Value) (el0 K0 : Nat) : runp3 (1, 1) (2, 2) (6, 6) 4 (.slice (some ⟨0, 0, none⟩) 4 (K0 + 4)) (heapOf [⟨intToks 0 4 0 ++ tl0, el0, 2, 1⟩]) = true := by kernel_rfl
theorem p176 (tl0 : List Value) (el0 K0 : Nat) : runp3 (1, 1) (4, 4) (2, 2) 4 (.slice (some ⟨0, 0, none⟩) 4 (K0 + 4)) (heapOf [⟨intToks 0 4 0 ++ tl0, el0, 2, 1⟩]) = true := by kernel_rfl
theorem p188 (tl0 : List Value) (el0 K0 : Nat) : runp3 (1, 1) (5, 5) (6, 6) 4 (.slice (some ⟨0, 0, none⟩) 4 (K0 + 4)) (heapOf [⟨intToks 0 4 0 ++ tl0, el0, 2, 1⟩]) = true := by kernel_rfl
theorem p200 (tl0 : List Value) (el0 K0 : Nat) : runp3 (1, 1) (7, 7) (2, 2) 4 (.slice (some ⟨0, 0, none⟩) 4 (K0 + 4)) (heapOf [⟨intToks 0 4 0 ++ tl0, el0, 2, 1⟩]) = true := by kernel_rfl
theorem p212 (tl0 : List Value) (el0 K0 : Nat) : runp3 (2, 2) (0, 0) (6, 6) 4 (.slice (some ⟨0, 0, none⟩) 4 (K0 + 4)) (heapOf [⟨intToks 0 4 0 ++ tl0, el0, 2, 1⟩]) = true := by kernel_rfl
theorem p224 (tl0 : List Value) (el0 K0 : Nat) : runp3 (2, 2) (2, 2) (2, 2) 4 (.slice (some ⟨0, 0, none⟩) 4 (K0 + 4)) (heapOf [⟨intToks 0 4 0 ++ tl0, el0, 2, 1⟩]) = true := by kernel_rfl
theorem p236 (tl0 : List Value) (el0 K0 : Nat) : runp3 (2, 2) (3, 3) (6, 6) 4 (.slice (some ⟨0, 0, none⟩) 4 (K0 + 4)) (heapOf [⟨intToks 0 4 0 ++ tl0, el0, 2, 1⟩]) = true := by kernel_rfl
theorem p248 (tl0 : List Value) (el0 K0 : Nat) : runp3 (2, 2) (5, 5) (2, 2) 4 (.slice (some ⟨0, 0, none⟩) 4 (K0 + 4)) (heapOf [⟨intToks 0 4 0 ++ tl0, el0, 2, 1⟩]) = true := by kernel_rfl
theorem p260 (tl0 : List Value) (el0 K0 : Nat) : runp3 (2, 2) (6, 6) (6, 6) 4 (.slice (some ⟨0, 0, none⟩) 4 (K0 + 4)) (heapOf [⟨intToks 0 4 0 ++ tl0, el0, 2, 1⟩]) = true := by kernel_rfl
theorem p272 (tl0 : List Value) (el0 K0 : Nat) : runp3 (3, 3) (0, 0) (2, 2) 4 (.slice (some ⟨0, 0, none⟩) 4 (K0 + 4)) (heapOf [⟨intToks 0 4 0 ++ tl0, el0, 2, 1⟩]) = true := by kernel_rfl
theorem p284 (tl0 : List Value) (el0 K0 : Nat) : runp3 (3, 3) (1, 1) (6, 6) 4 (.slice (some ⟨0, 0, none⟩) 4 (K0 + 4)) (heapOf [⟨intToks 0 4 0 ++ tl0, el0, 2, 1⟩]) = true := by kernel_rfl
theorem p296 (tl0 : List Value) (el0 K0 : Nat) : runp3 (3, 3) (3, 3) (2, 2) 4 (.slice (some ⟨0, 0, none⟩) 4 (K0 + 4)) (heapOf [⟨intToks 0 4 0 ++ tl0, el0, 2, 1⟩]) = true := by kernel_rfl
theorem p308 (tl0 : List Value) (el0 K0 : Nat) : runp3 (3, 3) (4, 4) (6, 6) 4 (.slice (some ⟨0, 0, none⟩) 4 (K0 + 4)) (heapOf [⟨intToks 0 4 0 ++ tl0, el0, 2, 1⟩]) = true := by kernel_rfl
theorem p320 (tl0 : List Value) (el0 K0 : Nat) : runp3 (3, 3) (6, 6) (2, 2) 4 (.slice (some ⟨0, 0, none⟩) 4 (K0 + 4)) (heapOf [⟨intToks 0 4 0 ++ tl0, el0, 2, 1⟩]) = true := by kernel_rfl
theorem p332 (tl0 : List Value) (el0 K0 : Nat) : runp3 (3, 3) (7, 7) (6, 6) 4 (.slice (some ⟨0, 0, none⟩) 4 (K0 + 4)) (heapOf [⟨intToks 0 4 0 ++ tl0, el0, 2, 1⟩]) = true := by kernel_rfl
theorem p344 (tl0 : List Value) (el0 K0 : Nat) : runp3 (4, 4) (1, 1) (2, 2) 4 (.slice (some ⟨0, 0, none⟩) 4 (K0 + 4)) (heapOf [⟨intToks 0 4 0 ++ tl0, el0, 2, 1⟩]) = true := by kernel_rfl
theorem p356 (tl0 : List Value) (el0 K0 : Nat) : runp3 (4, 4) (2, 2) (6, 6) 4 (.slice (some ⟨0, 0, none⟩) 4 (K0 + 4)) (heapOf [⟨intToks 0 4 0 ++ tl0, el0, 2, 1⟩]) = true := by kernel_rfl
theorem p368 (tl0 : List Value) (el0 K0 : Nat) : runp3 (4, 4) (4, 4) (2, 2) 4 (.slice (some ⟨0, 0, none⟩) 4 (K0 + 4)) (heapOf [⟨intToks 0 4 0 ++ tl0, el0, 2, 1⟩]) = true := by kernel_rfl
theorem p380 (tl0 : List Value) (el0 K0 : Nat) : runp3 (4, 4) (5, 5) (6, 6) 4 (.slice (some ⟨0, 0, none⟩) 4 (K0 + 4)) (heapOf [⟨intToks 0 4 0 ++ tl0, el0, 2, 1⟩]) = true := by kernel_rfl
theorem p392 (tl0 : List Value) (el0 K0 : Nat) : runp3 (4, 4) (7, 7) (2, 2) 4 (.slice (some ⟨0, 0, none⟩) 4 (K0 + 4)) (heapOf [⟨intToks 0 4 0 ++ tl0, el0, 2, 1⟩]) = true := by kernel_rfl
theorem p404 (tl0 : List Value) (el0 K0 : Nat) : runp3 (5, 5) (0, 0) (6, 6) 4 (.slice (some ⟨0, 0, none⟩) 4 (K0 + 4)) (heapOf [⟨intToks 0 4 0 ++ tl0, el0, 2, 1⟩]) = true := by kernel_rfl
theorem p416 (tl0 : List Value) (el0 K0 : Nat) : runp3 (5, 5) (2, 2) (2, 2) 4 (.slice (some ⟨0, 0, none⟩) 4 (K0 + 4)) (heapOf [⟨intToks 0 4 0 ++ tl0, el0, 2, 1⟩]) = true := by kernel_rfl
theorem p428 (tl0 : List Value) (el0 K0 : Nat) : runp3 (5, 5) (3, 3) (6, 6) 4 (.slice (some ⟨0, 0, none⟩) 4 (K0 + 4)) (heapOf [⟨intToks 0 4 0 ++ tl0, el0, 2, 1⟩]) = true := by kernel_rfl
theorem p440 (tl0 : List Value) (el0 K0 : Nat) : runp3 (5, 5) (5, 5) (2, 2) 4 (.slice (some ⟨0, 0, none⟩) 4 (K0 + 4)) (heapOf [⟨intToks 0 4 0 ++ tl0, el0, 2, 1⟩]) = true := by kernel_rfl
theorem p452 (tl0 : List Value) (el0 K0 : Nat) : runp3 (5, 5) (6, 6) (6, 6) 4 (.slice (some ⟨0, 0, none⟩) 4 (K0 + 4)) (heapOf [⟨intToks 0 4 0 ++ tl0, el0, 2, 1⟩]) = true := by kernel_rfl
theorem p464 (tl0 : List Value) (el0 K0 M0 : Nat) : runp3 (0, 0) (0, 0) (2, 2) 4 (.slice (some ⟨0, 0, none⟩) (M0 + 5) (K0 + (M0 + 5))) (heapOf [⟨intToks 0 4 0 ++ tl0, el0, 2, 1⟩]) = true := by kernel_rfl
theorem p476 (tl0 : List Value) (el0 K0 M0 : Nat) : runp3 (0, 0) (1, 1) (6, 6) 4 (.slice (some ⟨0, 0, none⟩) (M0 + 5) (K0 + (M0 + 5))) (heapOf [⟨intToks 0 4 0 ++ tl0, el0, 2, 1⟩]) = true := by kernel_rfl
theorem p488 (tl0 : List Value) (el0 K0 M0 : Nat) : runp3 (0, 0) (3, 3) (2, 2) 4 (.slice (some ⟨0, 0, none⟩) (M0 + 5) (K0 + (M0 + 5))) (heapOf [⟨intToks 0 4 0 ++ tl0, el0, 2, 1⟩]) = true := by kernel_rfl
theorem p500 (tl0 : List Value) (el0 K0 M0 : Nat) : runp3 (0, 0) (4, 4) (6, 6) 4 (.slice (some ⟨0, 0, none⟩) (M0 + 5) (K0 + (M0 + 5))) (heapOf [⟨intToks 0 4 0 ++ tl0, el0, 2, 1⟩]) = true := by kernel_rfl
theorem p512 (tl0 : List Value) (el0 K0 M0 : Nat) : runp3 (0, 0) (6, 6) (2, 2) 4 (.slice (some ⟨0, 0, none⟩) (M0 + 5) (K0 + (M0 + 5))) (heapOf [⟨intToks 0 4 0 ++ tl0, el0, 2, 1⟩]) = true := by kernel_rfl
theorem p524 (tl0 : List Value) (el0 K0 M0 : Nat) : runp3 (0, 0) (7, 7) (6, 6) 4 (.slice (some ⟨0, 0, none⟩) (M0 + 5) (K0 + (M0 + 5))) (heapOf [⟨intToks 0 4 0 ++ tl0, el0, 2, 1⟩]) = true := by kernel_rfl
theorem p536 (tl0 : List Value) (el0 K0 M0 : Nat) : runp3 (1, 1) (1, 1) (2, 2) 4 (.slice (some ⟨0, 0, none⟩) (M0 + 5) (K0 + (M0 + 5))) (heapOf [⟨intToks 0 4 0 ++ tl0, el0, 2, 1⟩]) = true := by kernel_rfl
theorem p548 (tl0 : List Value) (el0 K0 M0 : Nat) : runp3 (1, 1) (2, 2) (6, 6) 4 (.slice (some ⟨0, 0, none⟩) (M0 + 5) (K0 + (M0 + 5))) (heapOf [⟨intToks 0 4 0 ++ tl0, el0, 2, 1⟩]) = true := by kernel_rfl
theorem p560 (tl0 : List Value) (el0 K0 M0 : Nat) : runp3 (1, 1) (4, 4) (2, 2) 4 (.slice (some ⟨0, 0, none⟩) (M0 + 5) (K0 + (M0 + 5))) (heapOf [⟨intToks 0 4 0 ++ tl0, el0, 2, 1⟩]) = true := by kernel_rfl
theorem p572 (tl0 : List Value) (el0 K0 M0 : Nat) : runp3 (1, 1) (5, 5) (6, 6) 4 (.slice (some ⟨0, 0, none⟩) (M0 + 5) (K0 + (M0 + 5))) (heapOf [⟨intToks 0 4 0 ++ tl0, el0, 2, 1⟩]) = true := by kernel_rfl
theorem p584 (tl0 : List Value) (el0 K0 M0 : Nat) : runp3 (1, 1) (7, 7) (2, 2) 4 (.slice (some ⟨0, 0, none⟩) (M0 + 5) (K0 + (M0 + 5))) (heapOf [⟨intToks 0 4 0 ++ tl0, el0, 2, 1⟩]) = true := by kernel_rfl
theorem p596 (tl0 : List Value) (el0 K0 M0 : Nat) : runp3 (2, 2) (0, 0) (6, 6) 4 (.slice (some ⟨0, 0, none⟩) (M0 + 5) (K0 + (M0 + 5))) (heapOf [⟨intToks 0 4 0 ++ tl0, el0, 2, 1⟩]) = true := by kernel_rfl
theorem p608 (tl0 : List Value) (el0 K0 M0 : Nat) : runp3 (2, 2) (2, 2) (2, 2) 4 (.slice (some ⟨0, 0, none⟩) (M0 + 5) (K0 + (M0 + 5))) (heapOf [⟨intToks 0 4 0 ++ tl0, el0, 2, 1⟩]) = true := by kernel_rfl
theorem p620 (tl0 : List Value) (el0 K0 M0 : Nat) : runp3 (2, 2) (3, 3) (6, 6) 4 (.slice (some ⟨0, 0, none⟩) (M0 + 5) (K0 + (M0 + 5))) (heapOf [⟨intToks 0 4 0 ++ tl0, el0, 2, 1⟩]) = true := by kernel_rfl
theorem p632 (tl0 : List Value) (el0 K0 M0 : Nat) : runp3 (2, 2) (5, 5) (2, 2) 4 (.slice (some ⟨0, 0, none⟩) (M0 + 5) (K0 + (M0 + 5))) (heapOf [⟨intToks 0 4 0 ++ tl0, el0, 2, 1⟩]) = true := by kernel_rfl
theorem p644 (tl0 : List Value) (el0 K0 M0 : Nat) : runp3 (2, 2) (6, 6) (6, 6) 4 (.slice (some ⟨0, 0, none⟩) (M0 + 5) (K0 + (M0 + 5))) (heapOf [⟨intToks 0 4 0 ++ tl0, el0, 2, 1⟩]) = true := by kernel_rfl
theorem p656 (tl0 : List Value) (el0 K0 M0 : Nat) : runp3 (3, 3) (0, 0) (2, 2) 4 (.slice (some ⟨0, 0, none⟩) (M0 + 5) (K0 + (M0 + 5))) (heapOf [⟨intToks 0 4 0 ++ tl0, el0, 2, 1⟩]) = true := by kernel_rfl
theorem p668 (tl0 : List Value) (el0 K0 M0 : Nat) : runp3 (3, 3) (1, 1) (6, 6) 4 (.slice (some ⟨0, 0, none⟩) (M0 + 5) (K0 + (M0 + 5))) (heapOf [⟨intToks 0 4 0 ++ tl0, el0, 2, 1⟩]) = true := by kernel_rfl
theorem p680 (tl0 : List Value) (el0 K0 M0 : Nat) : runp3 (3, 3) (3, 3) (2, 2) 4 (.slice (some ⟨0, 0, none⟩) (M0 + 5) (K0 + (M0 + 5))) (heapOf [⟨intToks 0 4 0 ++ tl0, el0, 2, 1⟩]) = true := by kernel_rfl
theorem p692 (tl0 : List Value) (el0 K0 M0 : Nat) : runp3 (3, 3) (4, 4) (6, 6) 4 (.slice (some ⟨0, 0, none⟩) (M0 + 5) (K0 + (M0 + 5))) (heapOf [⟨intToks 0 4 0 ++ tl0, el0, 2, 1⟩]) = true := by kernel_rfl
theorem p704 (tl0 : List Value) (el0 K0 M0 : Nat) : runp3 (3, 3) (6, 6) (2, 2) 4 (.slice (some ⟨0, 0, none⟩) (M0 + 5) (K0 + (M0 + 5))) (heapOf [⟨intToks 0 4 0 ++ tl0, el0, 2, 1⟩]) = true := by kernel_rfl
theorem p716 (tl0 : List Value) (el0 K0 M0 : Nat) : runp3 (3, 3) (7, 7) (6, 6) 4 (.slice (some ⟨0, 0, none⟩) (M0 + 5) (K0 + (M0 + 5))) (heapOf [⟨intToks 0 4 0 ++ tl0, el0, 2, 1⟩]) = true := by kernel_rfl
theorem p728 (tl0 : List Value) (el0 K0 M0 : Nat) : runp3 (4, 4) (1, 1) (2, 2) 4 (.slice (some ⟨0, 0, none⟩) (M0 + 5) (K0 + (M0 + 5))) (heapOf [⟨intToks 0 4 0 ++ tl0, el0, 2, 1⟩]) = true := by kernel_rfl
theorem p740 (tl0 : List Value) (el0 K0 M0 : Nat) : runp3 (4, 4) (2, 2) (6, 6) 4 (.slice (some ⟨0, 0, none⟩) (M0 + 5) (K0 + (M0 + 5))) (heapOf [⟨intToks 0 4 0 ++ tl0, el0, 2, 1⟩]) = true := by kernel_rfl
theorem p752 (tl0 : List Value) (el0 K0 M0 : Nat) : runp3 (4, 4) (4, 4) (2, 2) 4 (.slice (some ⟨0, 0, none⟩) (M0 + 5) (K0 + (M0 + 5))) (heapOf [⟨intToks 0 4 0 ++ tl0, el0, 2, 1⟩]) = true := by kernel_rfl
theorem p764 (tl0 : List Value) (el0 K0 M0 : Nat) : runp3 (4, 4) (5, 5) (6, 6) 4 (.slice (some ⟨0, 0, none⟩) (M0 + 5) (K0 + (M0 + 5))) (heapOf [⟨intToks 0 4 0 ++ tl0, el0, 2, 1⟩]) = true := by kernel_rfl
theorem p776 (tl0 : List Value) (el0 K0 M0 : Nat) : runp3 (4, 4) (7, 7) (2, 2) 4 (.slice (some ⟨0, 0, none⟩) (M0 + 5) (K0 + (M0 + 5))) (heapOf [⟨intToks 0 4 0 ++ tl0, el0, 2, 1⟩]) = true := by kernel_rfl
theorem p788 (tl0 : List Value) (el0 K0 M0 : Nat) : runp3 (5, 5) (0, 0) (6, 6) 4 (.slice (some ⟨0, 0, none⟩) (M0 + 5) (K0 + (M0 + 5))) (heapOf [⟨intToks 0 4 0 ++ tl0, el0, 2, 1⟩]) = true := by kernel_rfl
theorem p800 (tl0 : List Value) (el0 K0 M0 : Nat) : runp3 (5, 5) (2, 2) (2, 2) 4 (.slice (some ⟨0, 0, none⟩) (M0 + 5) (K0 + (M0 + 5))) (heapOf [⟨intToks 0 4 0 ++ tl0, el0, 2, 1⟩]) = true := by kernel_rfl
theorem p812 (tl0 : List Value) (el0 K0 M0 : Nat) : runp3 (5, 5) (3, 3) (6, 6) 4 (.slice (some ⟨0, 0, none⟩) (M0 + 5) (K0 + (M0 + 5))) (heapOf [⟨intToks 0 4 0 ++ tl0, el0, 2, 1⟩]) = true := by kernel_rfl
theorem p824 (tl0 : List Value) (el0 K0 M0 : Nat) : runp3 (5, 5) (5, 5) (2, 2) 4 (.slice (some ⟨0, 0, none⟩) (M0 + 5) (K0 + (M0 + 5))) (heapOf [⟨intToks 0 4 0 ++ tl0, el0, 2, 1⟩]) = true := by kernel_rfl
theorem p836 (tl0 : List Value) (el0 K0 M0 : Nat) : runp3 (5, 5) (6, 6) (6, 6) 4 (.slice (some ⟨0, 0, none⟩) (M0 + 5) (K0 + (M0 + 5))) (heapOf [⟨intToks 0 4 0 ++ tl0, el0, 2, 1⟩]) = true := by kernel_rfl
end Go.Proofs.Ytlljepgfecodoaa.answerAll
