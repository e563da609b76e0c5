/- What the plain terms find of AnswerAll: a part of the cases. -/
import Derived.Test.YtlljepgfecodoaaAAWE
namespace Go.Proofs.Ytlljepgfecodoaa.answerAll
set_option maxRecDepth 1000000
set_option linter.unusedVariables false
theorem p6 (tl0 : List Value) (el0 : Nat) : runp1 (0, 0) 0 (.slice (some ⟨0, 0, none⟩) 0 (0 + 0)) (heapOf [⟨intToks 0 0 0 ++ tl0, el0, 2, 1⟩]) = true := by kernel_rfl
theorem p18 (tl0 : List Value) (el0 K0 : Nat) : runp1 (0, 0) 1 (.slice (some ⟨0, 0, none⟩) 1 (K0 + 1)) (heapOf [⟨intToks 0 1 0 ++ tl0, el0, 2, 1⟩]) = true := by kernel_rfl
theorem p30 (tl0 : List Value) (el0 K0 : Nat) : runp2 (0, 0) (0, 0) 3 (.slice (some ⟨0, 0, none⟩) 3 (K0 + 3)) (heapOf [⟨intToks 0 3 0 ++ tl0, el0, 2, 1⟩]) = true := by kernel_rfl
theorem p42 (tl0 : List Value) (el0 K0 : Nat) : runp2 (1, 1) (4, 4) 3 (.slice (some ⟨0, 0, none⟩) 3 (K0 + 3)) (heapOf [⟨intToks 0 3 0 ++ tl0, el0, 2, 1⟩]) = true := by kernel_rfl
theorem p54 (tl0 : List Value) (el0 K0 : Nat) : runp2 (3, 3) (0, 0) 3 (.slice (some ⟨0, 0, none⟩) 3 (K0 + 3)) (heapOf [⟨intToks 0 3 0 ++ tl0, el0, 2, 1⟩]) = true := by kernel_rfl
theorem p66 (tl0 : List Value) (el0 K0 : Nat) : runp2 (4, 4) (4, 4) 3 (.slice (some ⟨0, 0, none⟩) 3 (K0 + 3)) (heapOf [⟨intToks 0 3 0 ++ tl0, el0, 2, 1⟩]) = true := by kernel_rfl
theorem p78 (tl0 : List Value) (el0 K0 : Nat) : runp3 (0, 0) (0, 0) (0, 0) 4 (.slice (some ⟨0, 0, none⟩) 4 (K0 + 4)) (heapOf [⟨intToks 0 4 0 ++ tl0, el0, 2, 1⟩]) = true := by kernel_rfl
theorem p90 (tl0 : List Value) (el0 K0 : Nat) : runp3 (0, 0) (1, 1) (4, 4) 4 (.slice (some ⟨0, 0, none⟩) 4 (K0 + 4)) (heapOf [⟨intToks 0 4 0 ++ tl0, el0, 2, 1⟩]) = true := by kernel_rfl
theorem p102 (tl0 : List Value) (el0 K0 : Nat) : runp3 (0, 0) (3, 3) (0, 0) 4 (.slice (some ⟨0, 0, none⟩) 4 (K0 + 4)) (heapOf [⟨intToks 0 4 0 ++ tl0, el0, 2, 1⟩]) = true := by kernel_rfl
theorem p114 (tl0 : List Value) (el0 K0 : Nat) : runp3 (0, 0) (4, 4) (4, 4) 4 (.slice (some ⟨0, 0, none⟩) 4 (K0 + 4)) (heapOf [⟨intToks 0 4 0 ++ tl0, el0, 2, 1⟩]) = true := by kernel_rfl
theorem p126 (tl0 : List Value) (el0 K0 : Nat) : runp3 (0, 0) (6, 6) (0, 0) 4 (.slice (some ⟨0, 0, none⟩) 4 (K0 + 4)) (heapOf [⟨intToks 0 4 0 ++ tl0, el0, 2, 1⟩]) = true := by kernel_rfl
theorem p138 (tl0 : List Value) (el0 K0 : Nat) : runp3 (0, 0) (7, 7) (4, 4) 4 (.slice (some ⟨0, 0, none⟩) 4 (K0 + 4)) (heapOf [⟨intToks 0 4 0 ++ tl0, el0, 2, 1⟩]) = true := by kernel_rfl
theorem p150 (tl0 : List Value) (el0 K0 : Nat) : runp3 (1, 1) (1, 1) (0, 0) 4 (.slice (some ⟨0, 0, none⟩) 4 (K0 + 4)) (heapOf [⟨intToks 0 4 0 ++ tl0, el0, 2, 1⟩]) = true := by kernel_rfl
theorem p162 (tl0 : List Value) (el0 K0 : Nat) : runp3 (1, 1) (2, 2) (4, 4) 4 (.slice (some ⟨0, 0, none⟩) 4 (K0 + 4)) (heapOf [⟨intToks 0 4 0 ++ tl0, el0, 2, 1⟩]) = true := by kernel_rfl
theorem p174 (tl0 : List Value) (el0 K0 : Nat) : runp3 (1, 1) (4, 4) (0, 0) 4 (.slice (some ⟨0, 0, none⟩) 4 (K0 + 4)) (heapOf [⟨intToks 0 4 0 ++ tl0, el0, 2, 1⟩]) = true := by kernel_rfl
theorem p186 (tl0 : List Value) (el0 K0 : Nat) : runp3 (1, 1) (5, 5) (4, 4) 4 (.slice (some ⟨0, 0, none⟩) 4 (K0 + 4)) (heapOf [⟨intToks 0 4 0 ++ tl0, el0, 2, 1⟩]) = true := by kernel_rfl
theorem p198 (tl0 : List Value) (el0 K0 : Nat) : runp3 (1, 1) (7, 7) (0, 0) 4 (.slice (some ⟨0, 0, none⟩) 4 (K0 + 4)) (heapOf [⟨intToks 0 4 0 ++ tl0, el0, 2, 1⟩]) = true := by kernel_rfl
theorem p210 (tl0 : List Value) (el0 K0 : Nat) : runp3 (2, 2) (0, 0) (4, 4) 4 (.slice (some ⟨0, 0, none⟩) 4 (K0 + 4)) (heapOf [⟨intToks 0 4 0 ++ tl0, el0, 2, 1⟩]) = true := by kernel_rfl
theorem p222 (tl0 : List Value) (el0 K0 : Nat) : runp3 (2, 2) (2, 2) (0, 0) 4 (.slice (some ⟨0, 0, none⟩) 4 (K0 + 4)) (heapOf [⟨intToks 0 4 0 ++ tl0, el0, 2, 1⟩]) = true := by kernel_rfl
theorem p234 (tl0 : List Value) (el0 K0 : Nat) : runp3 (2, 2) (3, 3) (4, 4) 4 (.slice (some ⟨0, 0, none⟩) 4 (K0 + 4)) (heapOf [⟨intToks 0 4 0 ++ tl0, el0, 2, 1⟩]) = true := by kernel_rfl
theorem p246 (tl0 : List Value) (el0 K0 : Nat) : runp3 (2, 2) (5, 5) (0, 0) 4 (.slice (some ⟨0, 0, none⟩) 4 (K0 + 4)) (heapOf [⟨intToks 0 4 0 ++ tl0, el0, 2, 1⟩]) = true := by kernel_rfl
theorem p258 (tl0 : List Value) (el0 K0 : Nat) : runp3 (2, 2) (6, 6) (4, 4) 4 (.slice (some ⟨0, 0, none⟩) 4 (K0 + 4)) (heapOf [⟨intToks 0 4 0 ++ tl0, el0, 2, 1⟩]) = true := by kernel_rfl
theorem p270 (tl0 : List Value) (el0 K0 : Nat) : runp3 (3, 3) (0, 0) (0, 0) 4 (.slice (some ⟨0, 0, none⟩) 4 (K0 + 4)) (heapOf [⟨intToks 0 4 0 ++ tl0, el0, 2, 1⟩]) = true := by kernel_rfl
theorem p282 (tl0 : List Value) (el0 K0 : Nat) : runp3 (3, 3) (1, 1) (4, 4) 4 (.slice (some ⟨0, 0, none⟩) 4 (K0 + 4)) (heapOf [⟨intToks 0 4 0 ++ tl0, el0, 2, 1⟩]) = true := by kernel_rfl
theorem p294 (tl0 : List Value) (el0 K0 : Nat) : runp3 (3, 3) (3, 3) (0, 0) 4 (.slice (some ⟨0, 0, none⟩) 4 (K0 + 4)) (heapOf [⟨intToks 0 4 0 ++ tl0, el0, 2, 1⟩]) = true := by kernel_rfl
theorem p306 (tl0 : List Value) (el0 K0 : Nat) : runp3 (3, 3) (4, 4) (4, 4) 4 (.slice (some ⟨0, 0, none⟩) 4 (K0 + 4)) (heapOf [⟨intToks 0 4 0 ++ tl0, el0, 2, 1⟩]) = true := by kernel_rfl
theorem p318 (tl0 : List Value) (el0 K0 : Nat) : runp3 (3, 3) (6, 6) (0, 0) 4 (.slice (some ⟨0, 0, none⟩) 4 (K0 + 4)) (heapOf [⟨intToks 0 4 0 ++ tl0, el0, 2, 1⟩]) = true := by kernel_rfl
theorem p330 (tl0 : List Value) (el0 K0 : Nat) : runp3 (3, 3) (7, 7) (4, 4) 4 (.slice (some ⟨0, 0, none⟩) 4 (K0 + 4)) (heapOf [⟨intToks 0 4 0 ++ tl0, el0, 2, 1⟩]) = true := by kernel_rfl
theorem p342 (tl0 : List Value) (el0 K0 : Nat) : runp3 (4, 4) (1, 1) (0, 0) 4 (.slice (some ⟨0, 0, none⟩) 4 (K0 + 4)) (heapOf [⟨intToks 0 4 0 ++ tl0, el0, 2, 1⟩]) = true := by kernel_rfl
theorem p354 (tl0 : List Value) (el0 K0 : Nat) : runp3 (4, 4) (2, 2) (4, 4) 4 (.slice (some ⟨0, 0, none⟩) 4 (K0 + 4)) (heapOf [⟨intToks 0 4 0 ++ tl0, el0, 2, 1⟩]) = true := by kernel_rfl
theorem p366 (tl0 : List Value) (el0 K0 : Nat) : runp3 (4, 4) (4, 4) (0, 0) 4 (.slice (some ⟨0, 0, none⟩) 4 (K0 + 4)) (heapOf [⟨intToks 0 4 0 ++ tl0, el0, 2, 1⟩]) = true := by kernel_rfl
theorem p378 (tl0 : List Value) (el0 K0 : Nat) : runp3 (4, 4) (5, 5) (4, 4) 4 (.slice (some ⟨0, 0, none⟩) 4 (K0 + 4)) (heapOf [⟨intToks 0 4 0 ++ tl0, el0, 2, 1⟩]) = true := by kernel_rfl
theorem p390 (tl0 : List Value) (el0 K0 : Nat) : runp3 (4, 4) (7, 7) (0, 0) 4 (.slice (some ⟨0, 0, none⟩) 4 (K0 + 4)) (heapOf [⟨intToks 0 4 0 ++ tl0, el0, 2, 1⟩]) = true := by kernel_rfl
theorem p402 (tl0 : List Value) (el0 K0 : Nat) : runp3 (5, 5) (0, 0) (4, 4) 4 (.slice (some ⟨0, 0, none⟩) 4 (K0 + 4)) (heapOf [⟨intToks 0 4 0 ++ tl0, el0, 2, 1⟩]) = true := by kernel_rfl
theorem p414 (tl0 : List Value) (el0 K0 : Nat) : runp3 (5, 5) (2, 2) (0, 0) 4 (.slice (some ⟨0, 0, none⟩) 4 (K0 + 4)) (heapOf [⟨intToks 0 4 0 ++ tl0, el0, 2, 1⟩]) = true := by kernel_rfl
theorem p426 (tl0 : List Value) (el0 K0 : Nat) : runp3 (5, 5) (3, 3) (4, 4) 4 (.slice (some ⟨0, 0, none⟩) 4 (K0 + 4)) (heapOf [⟨intToks 0 4 0 ++ tl0, el0, 2, 1⟩]) = true := by kernel_rfl
theorem p438 (tl0 : List Value) (el0 K0 : Nat) : runp3 (5, 5) (5, 5) (0, 0) 4 (.slice (some ⟨0, 0, none⟩) 4 (K0 + 4)) (heapOf [⟨intToks 0 4 0 ++ tl0, el0, 2, 1⟩]) = true := by kernel_rfl
theorem p450 (tl0 : List Value) (el0 K0 : Nat) : runp3 (5, 5) (6, 6) (4, 4) 4 (.slice (some ⟨0, 0, none⟩) 4 (K0 + 4)) (heapOf [⟨intToks 0 4 0 ++ tl0, el0, 2, 1⟩]) = true := by kernel_rfl
theorem p462 (tl0 : List Value) (el0 K0 M0 : Nat) : runp3 (0, 0) (0, 0) (0, 0) 4 (.slice (some ⟨0, 0, none⟩) (M0 + 5) (K0 + (M0 + 5))) (heapOf [⟨intToks 0 4 0 ++ tl0, el0, 2, 1⟩]) = true := by kernel_rfl
theorem p474 (tl0 : List Value) (el0 K0 M0 : Nat) : runp3 (0, 0) (1, 1) (4, 4) 4 (.slice (some ⟨0, 0, none⟩) (M0 + 5) (K0 + (M0 + 5))) (heapOf [⟨intToks 0 4 0 ++ tl0, el0, 2, 1⟩]) = true := by kernel_rfl
theorem p486 (tl0 : List Value) (el0 K0 M0 : Nat) : runp3 (0, 0) (3, 3) (0, 0) 4 (.slice (some ⟨0, 0, none⟩) (M0 + 5) (K0 + (M0 + 5))) (heapOf [⟨intToks 0 4 0 ++ tl0, el0, 2, 1⟩]) = true := by kernel_rfl
theorem p498 (tl0 : List Value) (el0 K0 M0 : Nat) : runp3 (0, 0) (4, 4) (4, 4) 4 (.slice (some ⟨0, 0, none⟩) (M0 + 5) (K0 + (M0 + 5))) (heapOf [⟨intToks 0 4 0 ++ tl0, el0, 2, 1⟩]) = true := by kernel_rfl
theorem p510 (tl0 : List Value) (el0 K0 M0 : Nat) : runp3 (0, 0) (6, 6) (0, 0) 4 (.slice (some ⟨0, 0, none⟩) (M0 + 5) (K0 + (M0 + 5))) (heapOf [⟨intToks 0 4 0 ++ tl0, el0, 2, 1⟩]) = true := by kernel_rfl
theorem p522 (tl0 : List Value) (el0 K0 M0 : Nat) : runp3 (0, 0) (7, 7) (4, 4) 4 (.slice (some ⟨0, 0, none⟩) (M0 + 5) (K0 + (M0 + 5))) (heapOf [⟨intToks 0 4 0 ++ tl0, el0, 2, 1⟩]) = true := by kernel_rfl
theorem p534 (tl0 : List Value) (el0 K0 M0 : Nat) : runp3 (1, 1) (1, 1) (0, 0) 4 (.slice (some ⟨0, 0, none⟩) (M0 + 5) (K0 + (M0 + 5))) (heapOf [⟨intToks 0 4 0 ++ tl0, el0, 2, 1⟩]) = true := by kernel_rfl
theorem p546 (tl0 : List Value) (el0 K0 M0 : Nat) : runp3 (1, 1) (2, 2) (4, 4) 4 (.slice (some ⟨0, 0, none⟩) (M0 + 5) (K0 + (M0 + 5))) (heapOf [⟨intToks 0 4 0 ++ tl0, el0, 2, 1⟩]) = true := by kernel_rfl
theorem p558 (tl0 : List Value) (el0 K0 M0 : Nat) : runp3 (1, 1) (4, 4) (0, 0) 4 (.slice (some ⟨0, 0, none⟩) (M0 + 5) (K0 + (M0 + 5))) (heapOf [⟨intToks 0 4 0 ++ tl0, el0, 2, 1⟩]) = true := by kernel_rfl
theorem p570 (tl0 : List Value) (el0 K0 M0 : Nat) : runp3 (1, 1) (5, 5) (4, 4) 4 (.slice (some ⟨0, 0, none⟩) (M0 + 5) (K0 + (M0 + 5))) (heapOf [⟨intToks 0 4 0 ++ tl0, el0, 2, 1⟩]) = true := by kernel_rfl
theorem p582 (tl0 : List Value) (el0 K0 M0 : Nat) : runp3 (1, 1) (7, 7) (0, 0) 4 (.slice (some ⟨0, 0, none⟩) (M0 + 5) (K0 + (M0 + 5))) (heapOf [⟨intToks 0 4 0 ++ tl0, el0, 2, 1⟩]) = true := by kernel_rfl
theorem p594 (tl0 : List Value) (el0 K0 M0 : Nat) : runp3 (2, 2) (0, 0) (4, 4) 4 (.slice (some ⟨0, 0, none⟩) (M0 + 5) (K0 + (M0 + 5))) (heapOf [⟨intToks 0 4 0 ++ tl0, el0, 2, 1⟩]) = true := by kernel_rfl
theorem p606 (tl0 : List Value) (el0 K0 M0 : Nat) : runp3 (2, 2) (2, 2) (0, 0) 4 (.slice (some ⟨0, 0, none⟩) (M0 + 5) (K0 + (M0 + 5))) (heapOf [⟨intToks 0 4 0 ++ tl0, el0, 2, 1⟩]) = true := by kernel_rfl
theorem p618 (tl0 : List Value) (el0 K0 M0 : Nat) : runp3 (2, 2) (3, 3) (4, 4) 4 (.slice (some ⟨0, 0, none⟩) (M0 + 5) (K0 + (M0 + 5))) (heapOf [⟨intToks 0 4 0 ++ tl0, el0, 2, 1⟩]) = true := by kernel_rfl
theorem p630 (tl0 : List Value) (el0 K0 M0 : Nat) : runp3 (2, 2) (5, 5) (0, 0) 4 (.slice (some ⟨0, 0, none⟩) (M0 + 5) (K0 + (M0 + 5))) (heapOf [⟨intToks 0 4 0 ++ tl0, el0, 2, 1⟩]) = true := by kernel_rfl
theorem p642 (tl0 : List Value) (el0 K0 M0 : Nat) : runp3 (2, 2) (6, 6) (4, 4) 4 (.slice (some ⟨0, 0, none⟩) (M0 + 5) (K0 + (M0 + 5))) (heapOf [⟨intToks 0 4 0 ++ tl0, el0, 2, 1⟩]) = true := by kernel_rfl
theorem p654 (tl0 : List Value) (el0 K0 M0 : Nat) : runp3 (3, 3) (0, 0) (0, 0) 4 (.slice (some ⟨0, 0, none⟩) (M0 + 5) (K0 + (M0 + 5))) (heapOf [⟨intToks 0 4 0 ++ tl0, el0, 2, 1⟩]) = true := by kernel_rfl
theorem p666 (tl0 : List Value) (el0 K0 M0 : Nat) : runp3 (3, 3) (1, 1) (4, 4) 4 (.slice (some ⟨0, 0, none⟩) (M0 + 5) (K0 + (M0 + 5))) (heapOf [⟨intToks 0 4 0 ++ tl0, el0, 2, 1⟩]) = true := by kernel_rfl
theorem p678 (tl0 : List Value) (el0 K0 M0 : Nat) : runp3 (3, 3) (3, 3) (0, 0) 4 (.slice (some ⟨0, 0, none⟩) (M0 + 5) (K0 + (M0 + 5))) (heapOf [⟨intToks 0 4 0 ++ tl0, el0, 2, 1⟩]) = true := by kernel_rfl
theorem p690 (tl0 : List Value) (el0 K0 M0 : Nat) : runp3 (3, 3) (4, 4) (4, 4) 4 (.slice (some ⟨0, 0, none⟩) (M0 + 5) (K0 + (M0 + 5))) (heapOf [⟨intToks 0 4 0 ++ tl0, el0, 2, 1⟩]) = true := by kernel_rfl
theorem p702 (tl0 : List Value) (el0 K0 M0 : Nat) : runp3 (3, 3) (6, 6) (0, 0) 4 (.slice (some ⟨0, 0, none⟩) (M0 + 5) (K0 + (M0 + 5))) (heapOf [⟨intToks 0 4 0 ++ tl0, el0, 2, 1⟩]) = true := by kernel_rfl
theorem p714 (tl0 : List Value) (el0 K0 M0 : Nat) : runp3 (3, 3) (7, 7) (4, 4) 4 (.slice (some ⟨0, 0, none⟩) (M0 + 5) (K0 + (M0 + 5))) (heapOf [⟨intToks 0 4 0 ++ tl0, el0, 2, 1⟩]) = true := by kernel_rfl
theorem p726 (tl0 : List Value) (el0 K0 M0 : Nat) : runp3 (4, 4) (1, 1) (0, 0) 4 (.slice (some ⟨0, 0, none⟩) (M0 + 5) (K0 + (M0 + 5))) (heapOf [⟨intToks 0 4 0 ++ tl0, el0, 2, 1⟩]) = true := by kernel_rfl
theorem p738 (tl0 : List Value) (el0 K0 M0 : Nat) : runp3 (4, 4) (2, 2) (4, 4) 4 (.slice (some ⟨0, 0, none⟩) (M0 + 5) (K0 + (M0 + 5))) (heapOf [⟨intToks 0 4 0 ++ tl0, el0, 2, 1⟩]) = true := by kernel_rfl
theorem p750 (tl0 : List Value) (el0 K0 M0 : Nat) : runp3 (4, 4) (4, 4) (0, 0) 4 (.slice (some ⟨0, 0, none⟩) (M0 + 5) (K0 + (M0 + 5))) (heapOf [⟨intToks 0 4 0 ++ tl0, el0, 2, 1⟩]) = true := by kernel_rfl
theorem p762 (tl0 : List Value) (el0 K0 M0 : Nat) : runp3 (4, 4) (5, 5) (4, 4) 4 (.slice (some ⟨0, 0, none⟩) (M0 + 5) (K0 + (M0 + 5))) (heapOf [⟨intToks 0 4 0 ++ tl0, el0, 2, 1⟩]) = true := by kernel_rfl
theorem p774 (tl0 : List Value) (el0 K0 M0 : Nat) : runp3 (4, 4) (7, 7) (0, 0) 4 (.slice (some ⟨0, 0, none⟩) (M0 + 5) (K0 + (M0 + 5))) (heapOf [⟨intToks 0 4 0 ++ tl0, el0, 2, 1⟩]) = true := by kernel_rfl
theorem p786 (tl0 : List Value) (el0 K0 M0 : Nat) : runp3 (5, 5) (0, 0) (4, 4) 4 (.slice (some ⟨0, 0, none⟩) (M0 + 5) (K0 + (M0 + 5))) (heapOf [⟨intToks 0 4 0 ++ tl0, el0, 2, 1⟩]) = true := by kernel_rfl
theorem p798 (tl0 : List Value) (el0 K0 M0 : Nat) : runp3 (5, 5) (2, 2) (0, 0) 4 (.slice (some ⟨0, 0, none⟩) (M0 + 5) (K0 + (M0 + 5))) (heapOf [⟨intToks 0 4 0 ++ tl0, el0, 2, 1⟩]) = true := by kernel_rfl
theorem p810 (tl0 : List Value) (el0 K0 M0 : Nat) : runp3 (5, 5) (3, 3) (4, 4) 4 (.slice (some ⟨0, 0, none⟩) (M0 + 5) (K0 + (M0 + 5))) (heapOf [⟨intToks 0 4 0 ++ tl0, el0, 2, 1⟩]) = true := by kernel_rfl
theorem p822 (tl0 : List Value) (el0 K0 M0 : Nat) : runp3 (5, 5) (5, 5) (0, 0) 4 (.slice (some ⟨0, 0, none⟩) (M0 + 5) (K0 + (M0 + 5))) (heapOf [⟨intToks 0 4 0 ++ tl0, el0, 2, 1⟩]) = true := by kernel_rfl
theorem p834 (tl0 : List Value) (el0 K0 M0 : Nat) : runp3 (5, 5) (6, 6) (4, 4) 4 (.slice (some ⟨0, 0, none⟩) (M0 + 5) (K0 + (M0 + 5))) (heapOf [⟨intToks 0 4 0 ++ tl0, el0, 2, 1⟩]) = true := by kernel_rfl
end Go.Proofs.Ytlljepgfecodoaa.answerAll
