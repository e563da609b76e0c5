/- What the plain terms find of AnswerAll: a part of the cases. -/
import Derived.Test.YtlljepgfecodoaaAAWE
namespace Go.Proofs.Ytlljepgfecodoaa.answerAll
set_option maxRecDepth 1000000
set_option linter.unusedVariables false
theorem p2 : runp1 (2, 2) 0 (.slice none 0 0) (heapOf []) = true := by kernel_rfl
theorem p14 (tl0 : List Value) (el0 K0 : Nat) : runp1 (2, 2) 0 (.slice (some ⟨0, 0, none⟩) 0 ((K0 + 1) + 0)) (heapOf [⟨intToks 0 0 0 ++ tl0, el0, 2, 1⟩]) = true := by kernel_rfl
theorem p26 (tl0 : List Value) (el0 K0 : Nat) : runp1 (2, 2) 2 (.slice (some ⟨0, 0, none⟩) 2 (K0 + 2)) (heapOf [⟨intToks 0 2 0 ++ tl0, el0, 2, 1⟩]) = true := by kernel_rfl
theorem p38 (tl0 : List Value) (el0 K0 : Nat) : runp2 (1, 1) (0, 0) 3 (.slice (some ⟨0, 0, none⟩) 3 (K0 + 3)) (heapOf [⟨intToks 0 3 0 ++ tl0, el0, 2, 1⟩]) = true := by kernel_rfl
theorem p50 (tl0 : List Value) (el0 K0 : Nat) : runp2 (2, 2) (4, 4) 3 (.slice (some ⟨0, 0, none⟩) 3 (K0 + 3)) (heapOf [⟨intToks 0 3 0 ++ tl0, el0, 2, 1⟩]) = true := by kernel_rfl
theorem p62 (tl0 : List Value) (el0 K0 : Nat) : runp2 (4, 4) (0, 0) 3 (.slice (some ⟨0, 0, none⟩) 3 (K0 + 3)) (heapOf [⟨intToks 0 3 0 ++ tl0, el0, 2, 1⟩]) = true := by kernel_rfl
theorem p74 (tl0 : List Value) (el0 K0 : Nat) : runp2 (5, 5) (4, 4) 3 (.slice (some ⟨0, 0, none⟩) 3 (K0 + 3)) (heapOf [⟨intToks 0 3 0 ++ tl0, el0, 2, 1⟩]) = true := by kernel_rfl
theorem p86 (tl0 : List Value) (el0 K0 : Nat) : runp3 (0, 0) (1, 1) (0, 0) 4 (.slice (some ⟨0, 0, none⟩) 4 (K0 + 4)) (heapOf [⟨intToks 0 4 0 ++ tl0, el0, 2, 1⟩]) = true := by kernel_rfl
theorem p98 (tl0 : List Value) (el0 K0 : Nat) : runp3 (0, 0) (2, 2) (4, 4) 4 (.slice (some ⟨0, 0, none⟩) 4 (K0 + 4)) (heapOf [⟨intToks 0 4 0 ++ tl0, el0, 2, 1⟩]) = true := by kernel_rfl
theorem p110 (tl0 : List Value) (el0 K0 : Nat) : runp3 (0, 0) (4, 4) (0, 0) 4 (.slice (some ⟨0, 0, none⟩) 4 (K0 + 4)) (heapOf [⟨intToks 0 4 0 ++ tl0, el0, 2, 1⟩]) = true := by kernel_rfl
theorem p122 (tl0 : List Value) (el0 K0 : Nat) : runp3 (0, 0) (5, 5) (4, 4) 4 (.slice (some ⟨0, 0, none⟩) 4 (K0 + 4)) (heapOf [⟨intToks 0 4 0 ++ tl0, el0, 2, 1⟩]) = true := by kernel_rfl
theorem p134 (tl0 : List Value) (el0 K0 : Nat) : runp3 (0, 0) (7, 7) (0, 0) 4 (.slice (some ⟨0, 0, none⟩) 4 (K0 + 4)) (heapOf [⟨intToks 0 4 0 ++ tl0, el0, 2, 1⟩]) = true := by kernel_rfl
theorem p146 (tl0 : List Value) (el0 K0 : Nat) : runp3 (1, 1) (0, 0) (4, 4) 4 (.slice (some ⟨0, 0, none⟩) 4 (K0 + 4)) (heapOf [⟨intToks 0 4 0 ++ tl0, el0, 2, 1⟩]) = true := by kernel_rfl
theorem p158 (tl0 : List Value) (el0 K0 : Nat) : runp3 (1, 1) (2, 2) (0, 0) 4 (.slice (some ⟨0, 0, none⟩) 4 (K0 + 4)) (heapOf [⟨intToks 0 4 0 ++ tl0, el0, 2, 1⟩]) = true := by kernel_rfl
theorem p170 (tl0 : List Value) (el0 K0 : Nat) : runp3 (1, 1) (3, 3) (4, 4) 4 (.slice (some ⟨0, 0, none⟩) 4 (K0 + 4)) (heapOf [⟨intToks 0 4 0 ++ tl0, el0, 2, 1⟩]) = true := by kernel_rfl
theorem p182 (tl0 : List Value) (el0 K0 : Nat) : runp3 (1, 1) (5, 5) (0, 0) 4 (.slice (some ⟨0, 0, none⟩) 4 (K0 + 4)) (heapOf [⟨intToks 0 4 0 ++ tl0, el0, 2, 1⟩]) = true := by kernel_rfl
theorem p194 (tl0 : List Value) (el0 K0 : Nat) : runp3 (1, 1) (6, 6) (4, 4) 4 (.slice (some ⟨0, 0, none⟩) 4 (K0 + 4)) (heapOf [⟨intToks 0 4 0 ++ tl0, el0, 2, 1⟩]) = true := by kernel_rfl
theorem p206 (tl0 : List Value) (el0 K0 : Nat) : runp3 (2, 2) (0, 0) (0, 0) 4 (.slice (some ⟨0, 0, none⟩) 4 (K0 + 4)) (heapOf [⟨intToks 0 4 0 ++ tl0, el0, 2, 1⟩]) = true := by kernel_rfl
theorem p218 (tl0 : List Value) (el0 K0 : Nat) : runp3 (2, 2) (1, 1) (4, 4) 4 (.slice (some ⟨0, 0, none⟩) 4 (K0 + 4)) (heapOf [⟨intToks 0 4 0 ++ tl0, el0, 2, 1⟩]) = true := by kernel_rfl
theorem p230 (tl0 : List Value) (el0 K0 : Nat) : runp3 (2, 2) (3, 3) (0, 0) 4 (.slice (some ⟨0, 0, none⟩) 4 (K0 + 4)) (heapOf [⟨intToks 0 4 0 ++ tl0, el0, 2, 1⟩]) = true := by kernel_rfl
theorem p242 (tl0 : List Value) (el0 K0 : Nat) : runp3 (2, 2) (4, 4) (4, 4) 4 (.slice (some ⟨0, 0, none⟩) 4 (K0 + 4)) (heapOf [⟨intToks 0 4 0 ++ tl0, el0, 2, 1⟩]) = true := by kernel_rfl
theorem p254 (tl0 : List Value) (el0 K0 : Nat) : runp3 (2, 2) (6, 6) (0, 0) 4 (.slice (some ⟨0, 0, none⟩) 4 (K0 + 4)) (heapOf [⟨intToks 0 4 0 ++ tl0, el0, 2, 1⟩]) = true := by kernel_rfl
theorem p266 (tl0 : List Value) (el0 K0 : Nat) : runp3 (2, 2) (7, 7) (4, 4) 4 (.slice (some ⟨0, 0, none⟩) 4 (K0 + 4)) (heapOf [⟨intToks 0 4 0 ++ tl0, el0, 2, 1⟩]) = true := by kernel_rfl
theorem p278 (tl0 : List Value) (el0 K0 : Nat) : runp3 (3, 3) (1, 1) (0, 0) 4 (.slice (some ⟨0, 0, none⟩) 4 (K0 + 4)) (heapOf [⟨intToks 0 4 0 ++ tl0, el0, 2, 1⟩]) = true := by kernel_rfl
theorem p290 (tl0 : List Value) (el0 K0 : Nat) : runp3 (3, 3) (2, 2) (4, 4) 4 (.slice (some ⟨0, 0, none⟩) 4 (K0 + 4)) (heapOf [⟨intToks 0 4 0 ++ tl0, el0, 2, 1⟩]) = true := by kernel_rfl
theorem p302 (tl0 : List Value) (el0 K0 : Nat) : runp3 (3, 3) (4, 4) (0, 0) 4 (.slice (some ⟨0, 0, none⟩) 4 (K0 + 4)) (heapOf [⟨intToks 0 4 0 ++ tl0, el0, 2, 1⟩]) = true := by kernel_rfl
theorem p314 (tl0 : List Value) (el0 K0 : Nat) : runp3 (3, 3) (5, 5) (4, 4) 4 (.slice (some ⟨0, 0, none⟩) 4 (K0 + 4)) (heapOf [⟨intToks 0 4 0 ++ tl0, el0, 2, 1⟩]) = true := by kernel_rfl
theorem p326 (tl0 : List Value) (el0 K0 : Nat) : runp3 (3, 3) (7, 7) (0, 0) 4 (.slice (some ⟨0, 0, none⟩) 4 (K0 + 4)) (heapOf [⟨intToks 0 4 0 ++ tl0, el0, 2, 1⟩]) = true := by kernel_rfl
theorem p338 (tl0 : List Value) (el0 K0 : Nat) : runp3 (4, 4) (0, 0) (4, 4) 4 (.slice (some ⟨0, 0, none⟩) 4 (K0 + 4)) (heapOf [⟨intToks 0 4 0 ++ tl0, el0, 2, 1⟩]) = true := by kernel_rfl
theorem p350 (tl0 : List Value) (el0 K0 : Nat) : runp3 (4, 4) (2, 2) (0, 0) 4 (.slice (some ⟨0, 0, none⟩) 4 (K0 + 4)) (heapOf [⟨intToks 0 4 0 ++ tl0, el0, 2, 1⟩]) = true := by kernel_rfl
theorem p362 (tl0 : List Value) (el0 K0 : Nat) : runp3 (4, 4) (3, 3) (4, 4) 4 (.slice (some ⟨0, 0, none⟩) 4 (K0 + 4)) (heapOf [⟨intToks 0 4 0 ++ tl0, el0, 2, 1⟩]) = true := by kernel_rfl
theorem p374 (tl0 : List Value) (el0 K0 : Nat) : runp3 (4, 4) (5, 5) (0, 0) 4 (.slice (some ⟨0, 0, none⟩) 4 (K0 + 4)) (heapOf [⟨intToks 0 4 0 ++ tl0, el0, 2, 1⟩]) = true := by kernel_rfl
theorem p386 (tl0 : List Value) (el0 K0 : Nat) : runp3 (4, 4) (6, 6) (4, 4) 4 (.slice (some ⟨0, 0, none⟩) 4 (K0 + 4)) (heapOf [⟨intToks 0 4 0 ++ tl0, el0, 2, 1⟩]) = true := by kernel_rfl
theorem p398 (tl0 : List Value) (el0 K0 : Nat) : runp3 (5, 5) (0, 0) (0, 0) 4 (.slice (some ⟨0, 0, none⟩) 4 (K0 + 4)) (heapOf [⟨intToks 0 4 0 ++ tl0, el0, 2, 1⟩]) = true := by kernel_rfl
theorem p410 (tl0 : List Value) (el0 K0 : Nat) : runp3 (5, 5) (1, 1) (4, 4) 4 (.slice (some ⟨0, 0, none⟩) 4 (K0 + 4)) (heapOf [⟨intToks 0 4 0 ++ tl0, el0, 2, 1⟩]) = true := by kernel_rfl
theorem p422 (tl0 : List Value) (el0 K0 : Nat) : runp3 (5, 5) (3, 3) (0, 0) 4 (.slice (some ⟨0, 0, none⟩) 4 (K0 + 4)) (heapOf [⟨intToks 0 4 0 ++ tl0, el0, 2, 1⟩]) = true := by kernel_rfl
theorem p434 (tl0 : List Value) (el0 K0 : Nat) : runp3 (5, 5) (4, 4) (4, 4) 4 (.slice (some ⟨0, 0, none⟩) 4 (K0 + 4)) (heapOf [⟨intToks 0 4 0 ++ tl0, el0, 2, 1⟩]) = true := by kernel_rfl
theorem p446 (tl0 : List Value) (el0 K0 : Nat) : runp3 (5, 5) (6, 6) (0, 0) 4 (.slice (some ⟨0, 0, none⟩) 4 (K0 + 4)) (heapOf [⟨intToks 0 4 0 ++ tl0, el0, 2, 1⟩]) = true := by kernel_rfl
theorem p458 (tl0 : List Value) (el0 K0 : Nat) : runp3 (5, 5) (7, 7) (4, 4) 4 (.slice (some ⟨0, 0, none⟩) 4 (K0 + 4)) (heapOf [⟨intToks 0 4 0 ++ tl0, el0, 2, 1⟩]) = true := by kernel_rfl
theorem p470 (tl0 : List Value) (el0 K0 M0 : Nat) : runp3 (0, 0) (1, 1) (0, 0) 4 (.slice (some ⟨0, 0, none⟩) (M0 + 5) (K0 + (M0 + 5))) (heapOf [⟨intToks 0 4 0 ++ tl0, el0, 2, 1⟩]) = true := by kernel_rfl
theorem p482 (tl0 : List Value) (el0 K0 M0 : Nat) : runp3 (0, 0) (2, 2) (4, 4) 4 (.slice (some ⟨0, 0, none⟩) (M0 + 5) (K0 + (M0 + 5))) (heapOf [⟨intToks 0 4 0 ++ tl0, el0, 2, 1⟩]) = true := by kernel_rfl
theorem p494 (tl0 : List Value) (el0 K0 M0 : Nat) : runp3 (0, 0) (4, 4) (0, 0) 4 (.slice (some ⟨0, 0, none⟩) (M0 + 5) (K0 + (M0 + 5))) (heapOf [⟨intToks 0 4 0 ++ tl0, el0, 2, 1⟩]) = true := by kernel_rfl
theorem p506 (tl0 : List Value) (el0 K0 M0 : Nat) : runp3 (0, 0) (5, 5) (4, 4) 4 (.slice (some ⟨0, 0, none⟩) (M0 + 5) (K0 + (M0 + 5))) (heapOf [⟨intToks 0 4 0 ++ tl0, el0, 2, 1⟩]) = true := by kernel_rfl
theorem p518 (tl0 : List Value) (el0 K0 M0 : Nat) : runp3 (0, 0) (7, 7) (0, 0) 4 (.slice (some ⟨0, 0, none⟩) (M0 + 5) (K0 + (M0 + 5))) (heapOf [⟨intToks 0 4 0 ++ tl0, el0, 2, 1⟩]) = true := by kernel_rfl
theorem p530 (tl0 : List Value) (el0 K0 M0 : Nat) : runp3 (1, 1) (0, 0) (4, 4) 4 (.slice (some ⟨0, 0, none⟩) (M0 + 5) (K0 + (M0 + 5))) (heapOf [⟨intToks 0 4 0 ++ tl0, el0, 2, 1⟩]) = true := by kernel_rfl
theorem p542 (tl0 : List Value) (el0 K0 M0 : Nat) : runp3 (1, 1) (2, 2) (0, 0) 4 (.slice (some ⟨0, 0, none⟩) (M0 + 5) (K0 + (M0 + 5))) (heapOf [⟨intToks 0 4 0 ++ tl0, el0, 2, 1⟩]) = true := by kernel_rfl
theorem p554 (tl0 : List Value) (el0 K0 M0 : Nat) : runp3 (1, 1) (3, 3) (4, 4) 4 (.slice (some ⟨0, 0, none⟩) (M0 + 5) (K0 + (M0 + 5))) (heapOf [⟨intToks 0 4 0 ++ tl0, el0, 2, 1⟩]) = true := by kernel_rfl
theorem p566 (tl0 : List Value) (el0 K0 M0 : Nat) : runp3 (1, 1) (5, 5) (0, 0) 4 (.slice (some ⟨0, 0, none⟩) (M0 + 5) (K0 + (M0 + 5))) (heapOf [⟨intToks 0 4 0 ++ tl0, el0, 2, 1⟩]) = true := by kernel_rfl
theorem p578 (tl0 : List Value) (el0 K0 M0 : Nat) : runp3 (1, 1) (6, 6) (4, 4) 4 (.slice (some ⟨0, 0, none⟩) (M0 + 5) (K0 + (M0 + 5))) (heapOf [⟨intToks 0 4 0 ++ tl0, el0, 2, 1⟩]) = true := by kernel_rfl
theorem p590 (tl0 : List Value) (el0 K0 M0 : Nat) : runp3 (2, 2) (0, 0) (0, 0) 4 (.slice (some ⟨0, 0, none⟩) (M0 + 5) (K0 + (M0 + 5))) (heapOf [⟨intToks 0 4 0 ++ tl0, el0, 2, 1⟩]) = true := by kernel_rfl
theorem p602 (tl0 : List Value) (el0 K0 M0 : Nat) : runp3 (2, 2) (1, 1) (4, 4) 4 (.slice (some ⟨0, 0, none⟩) (M0 + 5) (K0 + (M0 + 5))) (heapOf [⟨intToks 0 4 0 ++ tl0, el0, 2, 1⟩]) = true := by kernel_rfl
theorem p614 (tl0 : List Value) (el0 K0 M0 : Nat) : runp3 (2, 2) (3, 3) (0, 0) 4 (.slice (some ⟨0, 0, none⟩) (M0 + 5) (K0 + (M0 + 5))) (heapOf [⟨intToks 0 4 0 ++ tl0, el0, 2, 1⟩]) = true := by kernel_rfl
theorem p626 (tl0 : List Value) (el0 K0 M0 : Nat) : runp3 (2, 2) (4, 4) (4, 4) 4 (.slice (some ⟨0, 0, none⟩) (M0 + 5) (K0 + (M0 + 5))) (heapOf [⟨intToks 0 4 0 ++ tl0, el0, 2, 1⟩]) = true := by kernel_rfl
theorem p638 (tl0 : List Value) (el0 K0 M0 : Nat) : runp3 (2, 2) (6, 6) (0, 0) 4 (.slice (some ⟨0, 0, none⟩) (M0 + 5) (K0 + (M0 + 5))) (heapOf [⟨intToks 0 4 0 ++ tl0, el0, 2, 1⟩]) = true := by kernel_rfl
theorem p650 (tl0 : List Value) (el0 K0 M0 : Nat) : runp3 (2, 2) (7, 7) (4, 4) 4 (.slice (some ⟨0, 0, none⟩) (M0 + 5) (K0 + (M0 + 5))) (heapOf [⟨intToks 0 4 0 ++ tl0, el0, 2, 1⟩]) = true := by kernel_rfl
theorem p662 (tl0 : List Value) (el0 K0 M0 : Nat) : runp3 (3, 3) (1, 1) (0, 0) 4 (.slice (some ⟨0, 0, none⟩) (M0 + 5) (K0 + (M0 + 5))) (heapOf [⟨intToks 0 4 0 ++ tl0, el0, 2, 1⟩]) = true := by kernel_rfl
theorem p674 (tl0 : List Value) (el0 K0 M0 : Nat) : runp3 (3, 3) (2, 2) (4, 4) 4 (.slice (some ⟨0, 0, none⟩) (M0 + 5) (K0 + (M0 + 5))) (heapOf [⟨intToks 0 4 0 ++ tl0, el0, 2, 1⟩]) = true := by kernel_rfl
theorem p686 (tl0 : List Value) (el0 K0 M0 : Nat) : runp3 (3, 3) (4, 4) (0, 0) 4 (.slice (some ⟨0, 0, none⟩) (M0 + 5) (K0 + (M0 + 5))) (heapOf [⟨intToks 0 4 0 ++ tl0, el0, 2, 1⟩]) = true := by kernel_rfl
theorem p698 (tl0 : List Value) (el0 K0 M0 : Nat) : runp3 (3, 3) (5, 5) (4, 4) 4 (.slice (some ⟨0, 0, none⟩) (M0 + 5) (K0 + (M0 + 5))) (heapOf [⟨intToks 0 4 0 ++ tl0, el0, 2, 1⟩]) = true := by kernel_rfl
theorem p710 (tl0 : List Value) (el0 K0 M0 : Nat) : runp3 (3, 3) (7, 7) (0, 0) 4 (.slice (some ⟨0, 0, none⟩) (M0 + 5) (K0 + (M0 + 5))) (heapOf [⟨intToks 0 4 0 ++ tl0, el0, 2, 1⟩]) = true := by kernel_rfl
theorem p722 (tl0 : List Value) (el0 K0 M0 : Nat) : runp3 (4, 4) (0, 0) (4, 4) 4 (.slice (some ⟨0, 0, none⟩) (M0 + 5) (K0 + (M0 + 5))) (heapOf [⟨intToks 0 4 0 ++ tl0, el0, 2, 1⟩]) = true := by kernel_rfl
theorem p734 (tl0 : List Value) (el0 K0 M0 : Nat) : runp3 (4, 4) (2, 2) (0, 0) 4 (.slice (some ⟨0, 0, none⟩) (M0 + 5) (K0 + (M0 + 5))) (heapOf [⟨intToks 0 4 0 ++ tl0, el0, 2, 1⟩]) = true := by kernel_rfl
theorem p746 (tl0 : List Value) (el0 K0 M0 : Nat) : runp3 (4, 4) (3, 3) (4, 4) 4 (.slice (some ⟨0, 0, none⟩) (M0 + 5) (K0 + (M0 + 5))) (heapOf [⟨intToks 0 4 0 ++ tl0, el0, 2, 1⟩]) = true := by kernel_rfl
theorem p758 (tl0 : List Value) (el0 K0 M0 : Nat) : runp3 (4, 4) (5, 5) (0, 0) 4 (.slice (some ⟨0, 0, none⟩) (M0 + 5) (K0 + (M0 + 5))) (heapOf [⟨intToks 0 4 0 ++ tl0, el0, 2, 1⟩]) = true := by kernel_rfl
theorem p770 (tl0 : List Value) (el0 K0 M0 : Nat) : runp3 (4, 4) (6, 6) (4, 4) 4 (.slice (some ⟨0, 0, none⟩) (M0 + 5) (K0 + (M0 + 5))) (heapOf [⟨intToks 0 4 0 ++ tl0, el0, 2, 1⟩]) = true := by kernel_rfl
theorem p782 (tl0 : List Value) (el0 K0 M0 : Nat) : runp3 (5, 5) (0, 0) (0, 0) 4 (.slice (some ⟨0, 0, none⟩) (M0 + 5) (K0 + (M0 + 5))) (heapOf [⟨intToks 0 4 0 ++ tl0, el0, 2, 1⟩]) = true := by kernel_rfl
theorem p794 (tl0 : List Value) (el0 K0 M0 : Nat) : runp3 (5, 5) (1, 1) (4, 4) 4 (.slice (some ⟨0, 0, none⟩) (M0 + 5) (K0 + (M0 + 5))) (heapOf [⟨intToks 0 4 0 ++ tl0, el0, 2, 1⟩]) = true := by kernel_rfl
theorem p806 (tl0 : List Value) (el0 K0 M0 : Nat) : runp3 (5, 5) (3, 3) (0, 0) 4 (.slice (some ⟨0, 0, none⟩) (M0 + 5) (K0 + (M0 + 5))) (heapOf [⟨intToks 0 4 0 ++ tl0, el0, 2, 1⟩]) = true := by kernel_rfl
theorem p818 (tl0 : List Value) (el0 K0 M0 : Nat) : runp3 (5, 5) (4, 4) (4, 4) 4 (.slice (some ⟨0, 0, none⟩) (M0 + 5) (K0 + (M0 + 5))) (heapOf [⟨intToks 0 4 0 ++ tl0, el0, 2, 1⟩]) = true := by kernel_rfl
theorem p830 (tl0 : List Value) (el0 K0 M0 : Nat) : runp3 (5, 5) (6, 6) (0, 0) 4 (.slice (some ⟨0, 0, none⟩) (M0 + 5) (K0 + (M0 + 5))) (heapOf [⟨intToks 0 4 0 ++ tl0, el0, 2, 1⟩]) = true := by kernel_rfl
theorem p842 (tl0 : List Value) (el0 K0 M0 : Nat) : runp3 (5, 5) (7, 7) (4, 4) 4 (.slice (some ⟨0, 0, none⟩) (M0 + 5) (K0 + (M0 + 5))) (heapOf [⟨intToks 0 4 0 ++ tl0, el0, 2, 1⟩]) = true := by kernel_rfl
end Go.Proofs.Ytlljepgfecodoaa.answerAll
