/- What the plain terms find of AnswerAll: a part of the cases. -/
import Derived.Test.YtlljepgfecodoaaAAWE
namespace Go.Proofs.Ytlljepgfecodoaa.answerAll
set_option maxRecDepth 1000000
set_option linter.unusedVariables false
theorem p10 (tl0 : List Value) (el0 : Nat) : runp1 (4, 4) 0 (.slice (some ⟨0, 0, none⟩) 0 (0 + 0)) (heapOf [⟨intToks 0 0 0 ++ tl0, el0, 2, 1⟩]) = true := by kernel_rfl
theorem p22 (tl0 : List Value) (el0 K0 : Nat) : runp1 (4, 4) 1 (.slice (some ⟨0, 0, none⟩) 1 (K0 + 1)) (heapOf [⟨intToks 0 1 0 ++ tl0, el0, 2, 1⟩]) = true := by kernel_rfl
theorem p34 (tl0 : List Value) (el0 K0 : Nat) : runp2 (0, 0) (4, 4) 3 (.slice (some ⟨0, 0, none⟩) 3 (K0 + 3)) (heapOf [⟨intToks 0 3 0 ++ tl0, el0, 2, 1⟩]) = true := by kernel_rfl
theorem p46 (tl0 : List Value) (el0 K0 : Nat) : runp2 (2, 2) (0, 0) 3 (.slice (some ⟨0, 0, none⟩) 3 (K0 + 3)) (heapOf [⟨intToks 0 3 0 ++ tl0, el0, 2, 1⟩]) = true := by kernel_rfl
theorem p58 (tl0 : List Value) (el0 K0 : Nat) : runp2 (3, 3) (4, 4) 3 (.slice (some ⟨0, 0, none⟩) 3 (K0 + 3)) (heapOf [⟨intToks 0 3 0 ++ tl0, el0, 2, 1⟩]) = true := by kernel_rfl
theorem p70 (tl0 : List Value) (el0 K0 : Nat) : runp2 (5, 5) (0, 0) 3 (.slice (some ⟨0, 0, none⟩) 3 (K0 + 3)) (heapOf [⟨intToks 0 3 0 ++ tl0, el0, 2, 1⟩]) = true := by kernel_rfl
theorem p82 (tl0 : List Value) (el0 K0 : Nat) : runp3 (0, 0) (0, 0) (4, 4) 4 (.slice (some ⟨0, 0, none⟩) 4 (K0 + 4)) (heapOf [⟨intToks 0 4 0 ++ tl0, el0, 2, 1⟩]) = true := by kernel_rfl
theorem p94 (tl0 : List Value) (el0 K0 : Nat) : runp3 (0, 0) (2, 2) (0, 0) 4 (.slice (some ⟨0, 0, none⟩) 4 (K0 + 4)) (heapOf [⟨intToks 0 4 0 ++ tl0, el0, 2, 1⟩]) = true := by kernel_rfl
theorem p106 (tl0 : List Value) (el0 K0 : Nat) : runp3 (0, 0) (3, 3) (4, 4) 4 (.slice (some ⟨0, 0, none⟩) 4 (K0 + 4)) (heapOf [⟨intToks 0 4 0 ++ tl0, el0, 2, 1⟩]) = true := by kernel_rfl
theorem p118 (tl0 : List Value) (el0 K0 : Nat) : runp3 (0, 0) (5, 5) (0, 0) 4 (.slice (some ⟨0, 0, none⟩) 4 (K0 + 4)) (heapOf [⟨intToks 0 4 0 ++ tl0, el0, 2, 1⟩]) = true := by kernel_rfl
theorem p130 (tl0 : List Value) (el0 K0 : Nat) : runp3 (0, 0) (6, 6) (4, 4) 4 (.slice (some ⟨0, 0, none⟩) 4 (K0 + 4)) (heapOf [⟨intToks 0 4 0 ++ tl0, el0, 2, 1⟩]) = true := by kernel_rfl
theorem p142 (tl0 : List Value) (el0 K0 : Nat) : runp3 (1, 1) (0, 0) (0, 0) 4 (.slice (some ⟨0, 0, none⟩) 4 (K0 + 4)) (heapOf [⟨intToks 0 4 0 ++ tl0, el0, 2, 1⟩]) = true := by kernel_rfl
theorem p154 (tl0 : List Value) (el0 K0 : Nat) : runp3 (1, 1) (1, 1) (4, 4) 4 (.slice (some ⟨0, 0, none⟩) 4 (K0 + 4)) (heapOf [⟨intToks 0 4 0 ++ tl0, el0, 2, 1⟩]) = true := by kernel_rfl
theorem p166 (tl0 : List Value) (el0 K0 : Nat) : runp3 (1, 1) (3, 3) (0, 0) 4 (.slice (some ⟨0, 0, none⟩) 4 (K0 + 4)) (heapOf [⟨intToks 0 4 0 ++ tl0, el0, 2, 1⟩]) = true := by kernel_rfl
theorem p178 (tl0 : List Value) (el0 K0 : Nat) : runp3 (1, 1) (4, 4) (4, 4) 4 (.slice (some ⟨0, 0, none⟩) 4 (K0 + 4)) (heapOf [⟨intToks 0 4 0 ++ tl0, el0, 2, 1⟩]) = true := by kernel_rfl
theorem p190 (tl0 : List Value) (el0 K0 : Nat) : runp3 (1, 1) (6, 6) (0, 0) 4 (.slice (some ⟨0, 0, none⟩) 4 (K0 + 4)) (heapOf [⟨intToks 0 4 0 ++ tl0, el0, 2, 1⟩]) = true := by kernel_rfl
theorem p202 (tl0 : List Value) (el0 K0 : Nat) : runp3 (1, 1) (7, 7) (4, 4) 4 (.slice (some ⟨0, 0, none⟩) 4 (K0 + 4)) (heapOf [⟨intToks 0 4 0 ++ tl0, el0, 2, 1⟩]) = true := by kernel_rfl
theorem p214 (tl0 : List Value) (el0 K0 : Nat) : runp3 (2, 2) (1, 1) (0, 0) 4 (.slice (some ⟨0, 0, none⟩) 4 (K0 + 4)) (heapOf [⟨intToks 0 4 0 ++ tl0, el0, 2, 1⟩]) = true := by kernel_rfl
theorem p226 (tl0 : List Value) (el0 K0 : Nat) : runp3 (2, 2) (2, 2) (4, 4) 4 (.slice (some ⟨0, 0, none⟩) 4 (K0 + 4)) (heapOf [⟨intToks 0 4 0 ++ tl0, el0, 2, 1⟩]) = true := by kernel_rfl
theorem p238 (tl0 : List Value) (el0 K0 : Nat) : runp3 (2, 2) (4, 4) (0, 0) 4 (.slice (some ⟨0, 0, none⟩) 4 (K0 + 4)) (heapOf [⟨intToks 0 4 0 ++ tl0, el0, 2, 1⟩]) = true := by kernel_rfl
theorem p250 (tl0 : List Value) (el0 K0 : Nat) : runp3 (2, 2) (5, 5) (4, 4) 4 (.slice (some ⟨0, 0, none⟩) 4 (K0 + 4)) (heapOf [⟨intToks 0 4 0 ++ tl0, el0, 2, 1⟩]) = true := by kernel_rfl
theorem p262 (tl0 : List Value) (el0 K0 : Nat) : runp3 (2, 2) (7, 7) (0, 0) 4 (.slice (some ⟨0, 0, none⟩) 4 (K0 + 4)) (heapOf [⟨intToks 0 4 0 ++ tl0, el0, 2, 1⟩]) = true := by kernel_rfl
theorem p274 (tl0 : List Value) (el0 K0 : Nat) : runp3 (3, 3) (0, 0) (4, 4) 4 (.slice (some ⟨0, 0, none⟩) 4 (K0 + 4)) (heapOf [⟨intToks 0 4 0 ++ tl0, el0, 2, 1⟩]) = true := by kernel_rfl
theorem p286 (tl0 : List Value) (el0 K0 : Nat) : runp3 (3, 3) (2, 2) (0, 0) 4 (.slice (some ⟨0, 0, none⟩) 4 (K0 + 4)) (heapOf [⟨intToks 0 4 0 ++ tl0, el0, 2, 1⟩]) = true := by kernel_rfl
theorem p298 (tl0 : List Value) (el0 K0 : Nat) : runp3 (3, 3) (3, 3) (4, 4) 4 (.slice (some ⟨0, 0, none⟩) 4 (K0 + 4)) (heapOf [⟨intToks 0 4 0 ++ tl0, el0, 2, 1⟩]) = true := by kernel_rfl
theorem p310 (tl0 : List Value) (el0 K0 : Nat) : runp3 (3, 3) (5, 5) (0, 0) 4 (.slice (some ⟨0, 0, none⟩) 4 (K0 + 4)) (heapOf [⟨intToks 0 4 0 ++ tl0, el0, 2, 1⟩]) = true := by kernel_rfl
theorem p322 (tl0 : List Value) (el0 K0 : Nat) : runp3 (3, 3) (6, 6) (4, 4) 4 (.slice (some ⟨0, 0, none⟩) 4 (K0 + 4)) (heapOf [⟨intToks 0 4 0 ++ tl0, el0, 2, 1⟩]) = true := by kernel_rfl
theorem p334 (tl0 : List Value) (el0 K0 : Nat) : runp3 (4, 4) (0, 0) (0, 0) 4 (.slice (some ⟨0, 0, none⟩) 4 (K0 + 4)) (heapOf [⟨intToks 0 4 0 ++ tl0, el0, 2, 1⟩]) = true := by kernel_rfl
theorem p346 (tl0 : List Value) (el0 K0 : Nat) : runp3 (4, 4) (1, 1) (4, 4) 4 (.slice (some ⟨0, 0, none⟩) 4 (K0 + 4)) (heapOf [⟨intToks 0 4 0 ++ tl0, el0, 2, 1⟩]) = true := by kernel_rfl
theorem p358 (tl0 : List Value) (el0 K0 : Nat) : runp3 (4, 4) (3, 3) (0, 0) 4 (.slice (some ⟨0, 0, none⟩) 4 (K0 + 4)) (heapOf [⟨intToks 0 4 0 ++ tl0, el0, 2, 1⟩]) = true := by kernel_rfl
theorem p370 (tl0 : List Value) (el0 K0 : Nat) : runp3 (4, 4) (4, 4) (4, 4) 4 (.slice (some ⟨0, 0, none⟩) 4 (K0 + 4)) (heapOf [⟨intToks 0 4 0 ++ tl0, el0, 2, 1⟩]) = true := by kernel_rfl
theorem p382 (tl0 : List Value) (el0 K0 : Nat) : runp3 (4, 4) (6, 6) (0, 0) 4 (.slice (some ⟨0, 0, none⟩) 4 (K0 + 4)) (heapOf [⟨intToks 0 4 0 ++ tl0, el0, 2, 1⟩]) = true := by kernel_rfl
theorem p394 (tl0 : List Value) (el0 K0 : Nat) : runp3 (4, 4) (7, 7) (4, 4) 4 (.slice (some ⟨0, 0, none⟩) 4 (K0 + 4)) (heapOf [⟨intToks 0 4 0 ++ tl0, el0, 2, 1⟩]) = true := by kernel_rfl
theorem p406 (tl0 : List Value) (el0 K0 : Nat) : runp3 (5, 5) (1, 1) (0, 0) 4 (.slice (some ⟨0, 0, none⟩) 4 (K0 + 4)) (heapOf [⟨intToks 0 4 0 ++ tl0, el0, 2, 1⟩]) = true := by kernel_rfl
theorem p418 (tl0 : List Value) (el0 K0 : Nat) : runp3 (5, 5) (2, 2) (4, 4) 4 (.slice (some ⟨0, 0, none⟩) 4 (K0 + 4)) (heapOf [⟨intToks 0 4 0 ++ tl0, el0, 2, 1⟩]) = true := by kernel_rfl
theorem p430 (tl0 : List Value) (el0 K0 : Nat) : runp3 (5, 5) (4, 4) (0, 0) 4 (.slice (some ⟨0, 0, none⟩) 4 (K0 + 4)) (heapOf [⟨intToks 0 4 0 ++ tl0, el0, 2, 1⟩]) = true := by kernel_rfl
theorem p442 (tl0 : List Value) (el0 K0 : Nat) : runp3 (5, 5) (5, 5) (4, 4) 4 (.slice (some ⟨0, 0, none⟩) 4 (K0 + 4)) (heapOf [⟨intToks 0 4 0 ++ tl0, el0, 2, 1⟩]) = true := by kernel_rfl
theorem p454 (tl0 : List Value) (el0 K0 : Nat) : runp3 (5, 5) (7, 7) (0, 0) 4 (.slice (some ⟨0, 0, none⟩) 4 (K0 + 4)) (heapOf [⟨intToks 0 4 0 ++ tl0, el0, 2, 1⟩]) = true := by kernel_rfl
theorem p466 (tl0 : List Value) (el0 K0 M0 : Nat) : runp3 (0, 0) (0, 0) (4, 4) 4 (.slice (some ⟨0, 0, none⟩) (M0 + 5) (K0 + (M0 + 5))) (heapOf [⟨intToks 0 4 0 ++ tl0, el0, 2, 1⟩]) = true := by kernel_rfl
theorem p478 (tl0 : List Value) (el0 K0 M0 : Nat) : runp3 (0, 0) (2, 2) (0, 0) 4 (.slice (some ⟨0, 0, none⟩) (M0 + 5) (K0 + (M0 + 5))) (heapOf [⟨intToks 0 4 0 ++ tl0, el0, 2, 1⟩]) = true := by kernel_rfl
theorem p490 (tl0 : List Value) (el0 K0 M0 : Nat) : runp3 (0, 0) (3, 3) (4, 4) 4 (.slice (some ⟨0, 0, none⟩) (M0 + 5) (K0 + (M0 + 5))) (heapOf [⟨intToks 0 4 0 ++ tl0, el0, 2, 1⟩]) = true := by kernel_rfl
theorem p502 (tl0 : List Value) (el0 K0 M0 : Nat) : runp3 (0, 0) (5, 5) (0, 0) 4 (.slice (some ⟨0, 0, none⟩) (M0 + 5) (K0 + (M0 + 5))) (heapOf [⟨intToks 0 4 0 ++ tl0, el0, 2, 1⟩]) = true := by kernel_rfl
theorem p514 (tl0 : List Value) (el0 K0 M0 : Nat) : runp3 (0, 0) (6, 6) (4, 4) 4 (.slice (some ⟨0, 0, none⟩) (M0 + 5) (K0 + (M0 + 5))) (heapOf [⟨intToks 0 4 0 ++ tl0, el0, 2, 1⟩]) = true := by kernel_rfl
theorem p526 (tl0 : List Value) (el0 K0 M0 : Nat) : runp3 (1, 1) (0, 0) (0, 0) 4 (.slice (some ⟨0, 0, none⟩) (M0 + 5) (K0 + (M0 + 5))) (heapOf [⟨intToks 0 4 0 ++ tl0, el0, 2, 1⟩]) = true := by kernel_rfl
theorem p538 (tl0 : List Value) (el0 K0 M0 : Nat) : runp3 (1, 1) (1, 1) (4, 4) 4 (.slice (some ⟨0, 0, none⟩) (M0 + 5) (K0 + (M0 + 5))) (heapOf [⟨intToks 0 4 0 ++ tl0, el0, 2, 1⟩]) = true := by kernel_rfl
theorem p550 (tl0 : List Value) (el0 K0 M0 : Nat) : runp3 (1, 1) (3, 3) (0, 0) 4 (.slice (some ⟨0, 0, none⟩) (M0 + 5) (K0 + (M0 + 5))) (heapOf [⟨intToks 0 4 0 ++ tl0, el0, 2, 1⟩]) = true := by kernel_rfl
theorem p562 (tl0 : List Value) (el0 K0 M0 : Nat) : runp3 (1, 1) (4, 4) (4, 4) 4 (.slice (some ⟨0, 0, none⟩) (M0 + 5) (K0 + (M0 + 5))) (heapOf [⟨intToks 0 4 0 ++ tl0, el0, 2, 1⟩]) = true := by kernel_rfl
theorem p574 (tl0 : List Value) (el0 K0 M0 : Nat) : runp3 (1, 1) (6, 6) (0, 0) 4 (.slice (some ⟨0, 0, none⟩) (M0 + 5) (K0 + (M0 + 5))) (heapOf [⟨intToks 0 4 0 ++ tl0, el0, 2, 1⟩]) = true := by kernel_rfl
theorem p586 (tl0 : List Value) (el0 K0 M0 : Nat) : runp3 (1, 1) (7, 7) (4, 4) 4 (.slice (some ⟨0, 0, none⟩) (M0 + 5) (K0 + (M0 + 5))) (heapOf [⟨intToks 0 4 0 ++ tl0, el0, 2, 1⟩]) = true := by kernel_rfl
theorem p598 (tl0 : List Value) (el0 K0 M0 : Nat) : runp3 (2, 2) (1, 1) (0, 0) 4 (.slice (some ⟨0, 0, none⟩) (M0 + 5) (K0 + (M0 + 5))) (heapOf [⟨intToks 0 4 0 ++ tl0, el0, 2, 1⟩]) = true := by kernel_rfl
theorem p610 (tl0 : List Value) (el0 K0 M0 : Nat) : runp3 (2, 2) (2, 2) (4, 4) 4 (.slice (some ⟨0, 0, none⟩) (M0 + 5) (K0 + (M0 + 5))) (heapOf [⟨intToks 0 4 0 ++ tl0, el0, 2, 1⟩]) = true := by kernel_rfl
theorem p622 (tl0 : List Value) (el0 K0 M0 : Nat) : runp3 (2, 2) (4, 4) (0, 0) 4 (.slice (some ⟨0, 0, none⟩) (M0 + 5) (K0 + (M0 + 5))) (heapOf [⟨intToks 0 4 0 ++ tl0, el0, 2, 1⟩]) = true := by kernel_rfl
theorem p634 (tl0 : List Value) (el0 K0 M0 : Nat) : runp3 (2, 2) (5, 5) (4, 4) 4 (.slice (some ⟨0, 0, none⟩) (M0 + 5) (K0 + (M0 + 5))) (heapOf [⟨intToks 0 4 0 ++ tl0, el0, 2, 1⟩]) = true := by kernel_rfl
theorem p646 (tl0 : List Value) (el0 K0 M0 : Nat) : runp3 (2, 2) (7, 7) (0, 0) 4 (.slice (some ⟨0, 0, none⟩) (M0 + 5) (K0 + (M0 + 5))) (heapOf [⟨intToks 0 4 0 ++ tl0, el0, 2, 1⟩]) = true := by kernel_rfl
theorem p658 (tl0 : List Value) (el0 K0 M0 : Nat) : runp3 (3, 3) (0, 0) (4, 4) 4 (.slice (some ⟨0, 0, none⟩) (M0 + 5) (K0 + (M0 + 5))) (heapOf [⟨intToks 0 4 0 ++ tl0, el0, 2, 1⟩]) = true := by kernel_rfl
theorem p670 (tl0 : List Value) (el0 K0 M0 : Nat) : runp3 (3, 3) (2, 2) (0, 0) 4 (.slice (some ⟨0, 0, none⟩) (M0 + 5) (K0 + (M0 + 5))) (heapOf [⟨intToks 0 4 0 ++ tl0, el0, 2, 1⟩]) = true := by kernel_rfl
theorem p682 (tl0 : List Value) (el0 K0 M0 : Nat) : runp3 (3, 3) (3, 3) (4, 4) 4 (.slice (some ⟨0, 0, none⟩) (M0 + 5) (K0 + (M0 + 5))) (heapOf [⟨intToks 0 4 0 ++ tl0, el0, 2, 1⟩]) = true := by kernel_rfl
theorem p694 (tl0 : List Value) (el0 K0 M0 : Nat) : runp3 (3, 3) (5, 5) (0, 0) 4 (.slice (some ⟨0, 0, none⟩) (M0 + 5) (K0 + (M0 + 5))) (heapOf [⟨intToks 0 4 0 ++ tl0, el0, 2, 1⟩]) = true := by kernel_rfl
theorem p706 (tl0 : List Value) (el0 K0 M0 : Nat) : runp3 (3, 3) (6, 6) (4, 4) 4 (.slice (some ⟨0, 0, none⟩) (M0 + 5) (K0 + (M0 + 5))) (heapOf [⟨intToks 0 4 0 ++ tl0, el0, 2, 1⟩]) = true := by kernel_rfl
theorem p718 (tl0 : List Value) (el0 K0 M0 : Nat) : runp3 (4, 4) (0, 0) (0, 0) 4 (.slice (some ⟨0, 0, none⟩) (M0 + 5) (K0 + (M0 + 5))) (heapOf [⟨intToks 0 4 0 ++ tl0, el0, 2, 1⟩]) = true := by kernel_rfl
theorem p730 (tl0 : List Value) (el0 K0 M0 : Nat) : runp3 (4, 4) (1, 1) (4, 4) 4 (.slice (some ⟨0, 0, none⟩) (M0 + 5) (K0 + (M0 + 5))) (heapOf [⟨intToks 0 4 0 ++ tl0, el0, 2, 1⟩]) = true := by kernel_rfl
theorem p742 (tl0 : List Value) (el0 K0 M0 : Nat) : runp3 (4, 4) (3, 3) (0, 0) 4 (.slice (some ⟨0, 0, none⟩) (M0 + 5) (K0 + (M0 + 5))) (heapOf [⟨intToks 0 4 0 ++ tl0, el0, 2, 1⟩]) = true := by kernel_rfl
theorem p754 (tl0 : List Value) (el0 K0 M0 : Nat) : runp3 (4, 4) (4, 4) (4, 4) 4 (.slice (some ⟨0, 0, none⟩) (M0 + 5) (K0 + (M0 + 5))) (heapOf [⟨intToks 0 4 0 ++ tl0, el0, 2, 1⟩]) = true := by kernel_rfl
theorem p766 (tl0 : List Value) (el0 K0 M0 : Nat) : runp3 (4, 4) (6, 6) (0, 0) 4 (.slice (some ⟨0, 0, none⟩) (M0 + 5) (K0 + (M0 + 5))) (heapOf [⟨intToks 0 4 0 ++ tl0, el0, 2, 1⟩]) = true := by kernel_rfl
theorem p778 (tl0 : List Value) (el0 K0 M0 : Nat) : runp3 (4, 4) (7, 7) (4, 4) 4 (.slice (some ⟨0, 0, none⟩) (M0 + 5) (K0 + (M0 + 5))) (heapOf [⟨intToks 0 4 0 ++ tl0, el0, 2, 1⟩]) = true := by kernel_rfl
theorem p790 (tl0 : List Value) (el0 K0 M0 : Nat) : runp3 (5, 5) (1, 1) (0, 0) 4 (.slice (some ⟨0, 0, none⟩) (M0 + 5) (K0 + (M0 + 5))) (heapOf [⟨intToks 0 4 0 ++ tl0, el0, 2, 1⟩]) = true := by kernel_rfl
theorem p802 (tl0 : List Value) (el0 K0 M0 : Nat) : runp3 (5, 5) (2, 2) (4, 4) 4 (.slice (some ⟨0, 0, none⟩) (M0 + 5) (K0 + (M0 + 5))) (heapOf [⟨intToks 0 4 0 ++ tl0, el0, 2, 1⟩]) = true := by kernel_rfl
theorem p814 (tl0 : List Value) (el0 K0 M0 : Nat) : runp3 (5, 5) (4, 4) (0, 0) 4 (.slice (some ⟨0, 0, none⟩) (M0 + 5) (K0 + (M0 + 5))) (heapOf [⟨intToks 0 4 0 ++ tl0, el0, 2, 1⟩]) = true := by kernel_rfl
theorem p826 (tl0 : List Value) (el0 K0 M0 : Nat) : runp3 (5, 5) (5, 5) (4, 4) 4 (.slice (some ⟨0, 0, none⟩) (M0 + 5) (K0 + (M0 + 5))) (heapOf [⟨intToks 0 4 0 ++ tl0, el0, 2, 1⟩]) = true := by kernel_rfl
theorem p838 (tl0 : List Value) (el0 K0 M0 : Nat) : runp3 (5, 5) (7, 7) (0, 0) 4 (.slice (some ⟨0, 0, none⟩) (M0 + 5) (K0 + (M0 + 5))) (heapOf [⟨intToks 0 4 0 ++ tl0, el0, 2, 1⟩]) = true := by kernel_rfl
end Go.Proofs.Ytlljepgfecodoaa.answerAll
