/- What the plain terms find of AnswerAll: a part of the cases. -/
import Derived.Test.YtlljepgfecodoaaAAWE
namespace Go.Proofs.Ytlljepgfecodoaa.answerAll
set_option maxRecDepth 1000000
set_option linter.unusedVariables false
theorem p5 : runp1 (5, 5) 0 (.slice none 0 0) (heapOf []) = true := by kernel_rfl
theorem p17 (tl0 : List Value) (el0 K0 : Nat) : runp1 (5, 5) 0 (.slice (some ⟨0, 0, none⟩) 0 ((K0 + 1) + 0)) (heapOf [⟨intToks 0 0 0 ++ tl0, el0, 2, 1⟩]) = true := by kernel_rfl
theorem p29 (tl0 : List Value) (el0 K0 : Nat) : runp1 (5, 5) 2 (.slice (some ⟨0, 0, none⟩) 2 (K0 + 2)) (heapOf [⟨intToks 0 2 0 ++ tl0, el0, 2, 1⟩]) = true := by kernel_rfl
theorem p41 (tl0 : List Value) (el0 K0 : Nat) : runp2 (1, 1) (3, 3) 3 (.slice (some ⟨0, 0, none⟩) 3 (K0 + 3)) (heapOf [⟨intToks 0 3 0 ++ tl0, el0, 2, 1⟩]) = true := by kernel_rfl
theorem p53 (tl0 : List Value) (el0 K0 : Nat) : runp2 (2, 2) (7, 7) 3 (.slice (some ⟨0, 0, none⟩) 3 (K0 + 3)) (heapOf [⟨intToks 0 3 0 ++ tl0, el0, 2, 1⟩]) = true := by kernel_rfl
theorem p65 (tl0 : List Value) (el0 K0 : Nat) : runp2 (4, 4) (3, 3) 3 (.slice (some ⟨0, 0, none⟩) 3 (K0 + 3)) (heapOf [⟨intToks 0 3 0 ++ tl0, el0, 2, 1⟩]) = true := by kernel_rfl
theorem p77 (tl0 : List Value) (el0 K0 : Nat) : runp2 (5, 5) (7, 7) 3 (.slice (some ⟨0, 0, none⟩) 3 (K0 + 3)) (heapOf [⟨intToks 0 3 0 ++ tl0, el0, 2, 1⟩]) = true := by kernel_rfl
theorem p89 (tl0 : List Value) (el0 K0 : Nat) : runp3 (0, 0) (1, 1) (3, 3) 4 (.slice (some ⟨0, 0, none⟩) 4 (K0 + 4)) (heapOf [⟨intToks 0 4 0 ++ tl0, el0, 2, 1⟩]) = true := by kernel_rfl
theorem p101 (tl0 : List Value) (el0 K0 : Nat) : runp3 (0, 0) (2, 2) (7, 7) 4 (.slice (some ⟨0, 0, none⟩) 4 (K0 + 4)) (heapOf [⟨intToks 0 4 0 ++ tl0, el0, 2, 1⟩]) = true := by kernel_rfl
theorem p113 (tl0 : List Value) (el0 K0 : Nat) : runp3 (0, 0) (4, 4) (3, 3) 4 (.slice (some ⟨0, 0, none⟩) 4 (K0 + 4)) (heapOf [⟨intToks 0 4 0 ++ tl0, el0, 2, 1⟩]) = true := by kernel_rfl
theorem p125 (tl0 : List Value) (el0 K0 : Nat) : runp3 (0, 0) (5, 5) (7, 7) 4 (.slice (some ⟨0, 0, none⟩) 4 (K0 + 4)) (heapOf [⟨intToks 0 4 0 ++ tl0, el0, 2, 1⟩]) = true := by kernel_rfl
theorem p137 (tl0 : List Value) (el0 K0 : Nat) : runp3 (0, 0) (7, 7) (3, 3) 4 (.slice (some ⟨0, 0, none⟩) 4 (K0 + 4)) (heapOf [⟨intToks 0 4 0 ++ tl0, el0, 2, 1⟩]) = true := by kernel_rfl
theorem p149 (tl0 : List Value) (el0 K0 : Nat) : runp3 (1, 1) (0, 0) (7, 7) 4 (.slice (some ⟨0, 0, none⟩) 4 (K0 + 4)) (heapOf [⟨intToks 0 4 0 ++ tl0, el0, 2, 1⟩]) = true := by kernel_rfl
theorem p161 (tl0 : List Value) (el0 K0 : Nat) : runp3 (1, 1) (2, 2) (3, 3) 4 (.slice (some ⟨0, 0, none⟩) 4 (K0 + 4)) (heapOf [⟨intToks 0 4 0 ++ tl0, el0, 2, 1⟩]) = true := by kernel_rfl
theorem p173 (tl0 : List Value) (el0 K0 : Nat) : runp3 (1, 1) (3, 3) (7, 7) 4 (.slice (some ⟨0, 0, none⟩) 4 (K0 + 4)) (heapOf [⟨intToks 0 4 0 ++ tl0, el0, 2, 1⟩]) = true := by kernel_rfl
theorem p185 (tl0 : List Value) (el0 K0 : Nat) : runp3 (1, 1) (5, 5) (3, 3) 4 (.slice (some ⟨0, 0, none⟩) 4 (K0 + 4)) (heapOf [⟨intToks 0 4 0 ++ tl0, el0, 2, 1⟩]) = true := by kernel_rfl
theorem p197 (tl0 : List Value) (el0 K0 : Nat) : runp3 (1, 1) (6, 6) (7, 7) 4 (.slice (some ⟨0, 0, none⟩) 4 (K0 + 4)) (heapOf [⟨intToks 0 4 0 ++ tl0, el0, 2, 1⟩]) = true := by kernel_rfl
theorem p209 (tl0 : List Value) (el0 K0 : Nat) : runp3 (2, 2) (0, 0) (3, 3) 4 (.slice (some ⟨0, 0, none⟩) 4 (K0 + 4)) (heapOf [⟨intToks 0 4 0 ++ tl0, el0, 2, 1⟩]) = true := by kernel_rfl
theorem p221 (tl0 : List Value) (el0 K0 : Nat) : runp3 (2, 2) (1, 1) (7, 7) 4 (.slice (some ⟨0, 0, none⟩) 4 (K0 + 4)) (heapOf [⟨intToks 0 4 0 ++ tl0, el0, 2, 1⟩]) = true := by kernel_rfl
theorem p233 (tl0 : List Value) (el0 K0 : Nat) : runp3 (2, 2) (3, 3) (3, 3) 4 (.slice (some ⟨0, 0, none⟩) 4 (K0 + 4)) (heapOf [⟨intToks 0 4 0 ++ tl0, el0, 2, 1⟩]) = true := by kernel_rfl
theorem p245 (tl0 : List Value) (el0 K0 : Nat) : runp3 (2, 2) (4, 4) (7, 7) 4 (.slice (some ⟨0, 0, none⟩) 4 (K0 + 4)) (heapOf [⟨intToks 0 4 0 ++ tl0, el0, 2, 1⟩]) = true := by kernel_rfl
theorem p257 (tl0 : List Value) (el0 K0 : Nat) : runp3 (2, 2) (6, 6) (3, 3) 4 (.slice (some ⟨0, 0, none⟩) 4 (K0 + 4)) (heapOf [⟨intToks 0 4 0 ++ tl0, el0, 2, 1⟩]) = true := by kernel_rfl
theorem p269 (tl0 : List Value) (el0 K0 : Nat) : runp3 (2, 2) (7, 7) (7, 7) 4 (.slice (some ⟨0, 0, none⟩) 4 (K0 + 4)) (heapOf [⟨intToks 0 4 0 ++ tl0, el0, 2, 1⟩]) = true := by kernel_rfl
theorem p281 (tl0 : List Value) (el0 K0 : Nat) : runp3 (3, 3) (1, 1) (3, 3) 4 (.slice (some ⟨0, 0, none⟩) 4 (K0 + 4)) (heapOf [⟨intToks 0 4 0 ++ tl0, el0, 2, 1⟩]) = true := by kernel_rfl
theorem p293 (tl0 : List Value) (el0 K0 : Nat) : runp3 (3, 3) (2, 2) (7, 7) 4 (.slice (some ⟨0, 0, none⟩) 4 (K0 + 4)) (heapOf [⟨intToks 0 4 0 ++ tl0, el0, 2, 1⟩]) = true := by kernel_rfl
theorem p305 (tl0 : List Value) (el0 K0 : Nat) : runp3 (3, 3) (4, 4) (3, 3) 4 (.slice (some ⟨0, 0, none⟩) 4 (K0 + 4)) (heapOf [⟨intToks 0 4 0 ++ tl0, el0, 2, 1⟩]) = true := by kernel_rfl
theorem p317 (tl0 : List Value) (el0 K0 : Nat) : runp3 (3, 3) (5, 5) (7, 7) 4 (.slice (some ⟨0, 0, none⟩) 4 (K0 + 4)) (heapOf [⟨intToks 0 4 0 ++ tl0, el0, 2, 1⟩]) = true := by kernel_rfl
theorem p329 (tl0 : List Value) (el0 K0 : Nat) : runp3 (3, 3) (7, 7) (3, 3) 4 (.slice (some ⟨0, 0, none⟩) 4 (K0 + 4)) (heapOf [⟨intToks 0 4 0 ++ tl0, el0, 2, 1⟩]) = true := by kernel_rfl
theorem p341 (tl0 : List Value) (el0 K0 : Nat) : runp3 (4, 4) (0, 0) (7, 7) 4 (.slice (some ⟨0, 0, none⟩) 4 (K0 + 4)) (heapOf [⟨intToks 0 4 0 ++ tl0, el0, 2, 1⟩]) = true := by kernel_rfl
theorem p353 (tl0 : List Value) (el0 K0 : Nat) : runp3 (4, 4) (2, 2) (3, 3) 4 (.slice (some ⟨0, 0, none⟩) 4 (K0 + 4)) (heapOf [⟨intToks 0 4 0 ++ tl0, el0, 2, 1⟩]) = true := by kernel_rfl
theorem p365 (tl0 : List Value) (el0 K0 : Nat) : runp3 (4, 4) (3, 3) (7, 7) 4 (.slice (some ⟨0, 0, none⟩) 4 (K0 + 4)) (heapOf [⟨intToks 0 4 0 ++ tl0, el0, 2, 1⟩]) = true := by kernel_rfl
theorem p377 (tl0 : List Value) (el0 K0 : Nat) : runp3 (4, 4) (5, 5) (3, 3) 4 (.slice (some ⟨0, 0, none⟩) 4 (K0 + 4)) (heapOf [⟨intToks 0 4 0 ++ tl0, el0, 2, 1⟩]) = true := by kernel_rfl
theorem p389 (tl0 : List Value) (el0 K0 : Nat) : runp3 (4, 4) (6, 6) (7, 7) 4 (.slice (some ⟨0, 0, none⟩) 4 (K0 + 4)) (heapOf [⟨intToks 0 4 0 ++ tl0, el0, 2, 1⟩]) = true := by kernel_rfl
theorem p401 (tl0 : List Value) (el0 K0 : Nat) : runp3 (5, 5) (0, 0) (3, 3) 4 (.slice (some ⟨0, 0, none⟩) 4 (K0 + 4)) (heapOf [⟨intToks 0 4 0 ++ tl0, el0, 2, 1⟩]) = true := by kernel_rfl
theorem p413 (tl0 : List Value) (el0 K0 : Nat) : runp3 (5, 5) (1, 1) (7, 7) 4 (.slice (some ⟨0, 0, none⟩) 4 (K0 + 4)) (heapOf [⟨intToks 0 4 0 ++ tl0, el0, 2, 1⟩]) = true := by kernel_rfl
theorem p425 (tl0 : List Value) (el0 K0 : Nat) : runp3 (5, 5) (3, 3) (3, 3) 4 (.slice (some ⟨0, 0, none⟩) 4 (K0 + 4)) (heapOf [⟨intToks 0 4 0 ++ tl0, el0, 2, 1⟩]) = true := by kernel_rfl
theorem p437 (tl0 : List Value) (el0 K0 : Nat) : runp3 (5, 5) (4, 4) (7, 7) 4 (.slice (some ⟨0, 0, none⟩) 4 (K0 + 4)) (heapOf [⟨intToks 0 4 0 ++ tl0, el0, 2, 1⟩]) = true := by kernel_rfl
theorem p449 (tl0 : List Value) (el0 K0 : Nat) : runp3 (5, 5) (6, 6) (3, 3) 4 (.slice (some ⟨0, 0, none⟩) 4 (K0 + 4)) (heapOf [⟨intToks 0 4 0 ++ tl0, el0, 2, 1⟩]) = true := by kernel_rfl
theorem p461 (tl0 : List Value) (el0 K0 : Nat) : runp3 (5, 5) (7, 7) (7, 7) 4 (.slice (some ⟨0, 0, none⟩) 4 (K0 + 4)) (heapOf [⟨intToks 0 4 0 ++ tl0, el0, 2, 1⟩]) = true := by kernel_rfl
theorem p473 (tl0 : List Value) (el0 K0 M0 : Nat) : runp3 (0, 0) (1, 1) (3, 3) 4 (.slice (some ⟨0, 0, none⟩) (M0 + 5) (K0 + (M0 + 5))) (heapOf [⟨intToks 0 4 0 ++ tl0, el0, 2, 1⟩]) = true := by kernel_rfl
theorem p485 (tl0 : List Value) (el0 K0 M0 : Nat) : runp3 (0, 0) (2, 2) (7, 7) 4 (.slice (some ⟨0, 0, none⟩) (M0 + 5) (K0 + (M0 + 5))) (heapOf [⟨intToks 0 4 0 ++ tl0, el0, 2, 1⟩]) = true := by kernel_rfl
theorem p497 (tl0 : List Value) (el0 K0 M0 : Nat) : runp3 (0, 0) (4, 4) (3, 3) 4 (.slice (some ⟨0, 0, none⟩) (M0 + 5) (K0 + (M0 + 5))) (heapOf [⟨intToks 0 4 0 ++ tl0, el0, 2, 1⟩]) = true := by kernel_rfl
theorem p509 (tl0 : List Value) (el0 K0 M0 : Nat) : runp3 (0, 0) (5, 5) (7, 7) 4 (.slice (some ⟨0, 0, none⟩) (M0 + 5) (K0 + (M0 + 5))) (heapOf [⟨intToks 0 4 0 ++ tl0, el0, 2, 1⟩]) = true := by kernel_rfl
theorem p521 (tl0 : List Value) (el0 K0 M0 : Nat) : runp3 (0, 0) (7, 7) (3, 3) 4 (.slice (some ⟨0, 0, none⟩) (M0 + 5) (K0 + (M0 + 5))) (heapOf [⟨intToks 0 4 0 ++ tl0, el0, 2, 1⟩]) = true := by kernel_rfl
theorem p533 (tl0 : List Value) (el0 K0 M0 : Nat) : runp3 (1, 1) (0, 0) (7, 7) 4 (.slice (some ⟨0, 0, none⟩) (M0 + 5) (K0 + (M0 + 5))) (heapOf [⟨intToks 0 4 0 ++ tl0, el0, 2, 1⟩]) = true := by kernel_rfl
theorem p545 (tl0 : List Value) (el0 K0 M0 : Nat) : runp3 (1, 1) (2, 2) (3, 3) 4 (.slice (some ⟨0, 0, none⟩) (M0 + 5) (K0 + (M0 + 5))) (heapOf [⟨intToks 0 4 0 ++ tl0, el0, 2, 1⟩]) = true := by kernel_rfl
theorem p557 (tl0 : List Value) (el0 K0 M0 : Nat) : runp3 (1, 1) (3, 3) (7, 7) 4 (.slice (some ⟨0, 0, none⟩) (M0 + 5) (K0 + (M0 + 5))) (heapOf [⟨intToks 0 4 0 ++ tl0, el0, 2, 1⟩]) = true := by kernel_rfl
theorem p569 (tl0 : List Value) (el0 K0 M0 : Nat) : runp3 (1, 1) (5, 5) (3, 3) 4 (.slice (some ⟨0, 0, none⟩) (M0 + 5) (K0 + (M0 + 5))) (heapOf [⟨intToks 0 4 0 ++ tl0, el0, 2, 1⟩]) = true := by kernel_rfl
theorem p581 (tl0 : List Value) (el0 K0 M0 : Nat) : runp3 (1, 1) (6, 6) (7, 7) 4 (.slice (some ⟨0, 0, none⟩) (M0 + 5) (K0 + (M0 + 5))) (heapOf [⟨intToks 0 4 0 ++ tl0, el0, 2, 1⟩]) = true := by kernel_rfl
theorem p593 (tl0 : List Value) (el0 K0 M0 : Nat) : runp3 (2, 2) (0, 0) (3, 3) 4 (.slice (some ⟨0, 0, none⟩) (M0 + 5) (K0 + (M0 + 5))) (heapOf [⟨intToks 0 4 0 ++ tl0, el0, 2, 1⟩]) = true := by kernel_rfl
theorem p605 (tl0 : List Value) (el0 K0 M0 : Nat) : runp3 (2, 2) (1, 1) (7, 7) 4 (.slice (some ⟨0, 0, none⟩) (M0 + 5) (K0 + (M0 + 5))) (heapOf [⟨intToks 0 4 0 ++ tl0, el0, 2, 1⟩]) = true := by kernel_rfl
theorem p617 (tl0 : List Value) (el0 K0 M0 : Nat) : runp3 (2, 2) (3, 3) (3, 3) 4 (.slice (some ⟨0, 0, none⟩) (M0 + 5) (K0 + (M0 + 5))) (heapOf [⟨intToks 0 4 0 ++ tl0, el0, 2, 1⟩]) = true := by kernel_rfl
theorem p629 (tl0 : List Value) (el0 K0 M0 : Nat) : runp3 (2, 2) (4, 4) (7, 7) 4 (.slice (some ⟨0, 0, none⟩) (M0 + 5) (K0 + (M0 + 5))) (heapOf [⟨intToks 0 4 0 ++ tl0, el0, 2, 1⟩]) = true := by kernel_rfl
theorem p641 (tl0 : List Value) (el0 K0 M0 : Nat) : runp3 (2, 2) (6, 6) (3, 3) 4 (.slice (some ⟨0, 0, none⟩) (M0 + 5) (K0 + (M0 + 5))) (heapOf [⟨intToks 0 4 0 ++ tl0, el0, 2, 1⟩]) = true := by kernel_rfl
theorem p653 (tl0 : List Value) (el0 K0 M0 : Nat) : runp3 (2, 2) (7, 7) (7, 7) 4 (.slice (some ⟨0, 0, none⟩) (M0 + 5) (K0 + (M0 + 5))) (heapOf [⟨intToks 0 4 0 ++ tl0, el0, 2, 1⟩]) = true := by kernel_rfl
theorem p665 (tl0 : List Value) (el0 K0 M0 : Nat) : runp3 (3, 3) (1, 1) (3, 3) 4 (.slice (some ⟨0, 0, none⟩) (M0 + 5) (K0 + (M0 + 5))) (heapOf [⟨intToks 0 4 0 ++ tl0, el0, 2, 1⟩]) = true := by kernel_rfl
theorem p677 (tl0 : List Value) (el0 K0 M0 : Nat) : runp3 (3, 3) (2, 2) (7, 7) 4 (.slice (some ⟨0, 0, none⟩) (M0 + 5) (K0 + (M0 + 5))) (heapOf [⟨intToks 0 4 0 ++ tl0, el0, 2, 1⟩]) = true := by kernel_rfl
theorem p689 (tl0 : List Value) (el0 K0 M0 : Nat) : runp3 (3, 3) (4, 4) (3, 3) 4 (.slice (some ⟨0, 0, none⟩) (M0 + 5) (K0 + (M0 + 5))) (heapOf [⟨intToks 0 4 0 ++ tl0, el0, 2, 1⟩]) = true := by kernel_rfl
theorem p701 (tl0 : List Value) (el0 K0 M0 : Nat) : runp3 (3, 3) (5, 5) (7, 7) 4 (.slice (some ⟨0, 0, none⟩) (M0 + 5) (K0 + (M0 + 5))) (heapOf [⟨intToks 0 4 0 ++ tl0, el0, 2, 1⟩]) = true := by kernel_rfl
theorem p713 (tl0 : List Value) (el0 K0 M0 : Nat) : runp3 (3, 3) (7, 7) (3, 3) 4 (.slice (some ⟨0, 0, none⟩) (M0 + 5) (K0 + (M0 + 5))) (heapOf [⟨intToks 0 4 0 ++ tl0, el0, 2, 1⟩]) = true := by kernel_rfl
theorem p725 (tl0 : List Value) (el0 K0 M0 : Nat) : runp3 (4, 4) (0, 0) (7, 7) 4 (.slice (some ⟨0, 0, none⟩) (M0 + 5) (K0 + (M0 + 5))) (heapOf [⟨intToks 0 4 0 ++ tl0, el0, 2, 1⟩]) = true := by kernel_rfl
theorem p737 (tl0 : List Value) (el0 K0 M0 : Nat) : runp3 (4, 4) (2, 2) (3, 3) 4 (.slice (some ⟨0, 0, none⟩) (M0 + 5) (K0 + (M0 + 5))) (heapOf [⟨intToks 0 4 0 ++ tl0, el0, 2, 1⟩]) = true := by kernel_rfl
theorem p749 (tl0 : List Value) (el0 K0 M0 : Nat) : runp3 (4, 4) (3, 3) (7, 7) 4 (.slice (some ⟨0, 0, none⟩) (M0 + 5) (K0 + (M0 + 5))) (heapOf [⟨intToks 0 4 0 ++ tl0, el0, 2, 1⟩]) = true := by kernel_rfl
theorem p761 (tl0 : List Value) (el0 K0 M0 : Nat) : runp3 (4, 4) (5, 5) (3, 3) 4 (.slice (some ⟨0, 0, none⟩) (M0 + 5) (K0 + (M0 + 5))) (heapOf [⟨intToks 0 4 0 ++ tl0, el0, 2, 1⟩]) = true := by kernel_rfl
theorem p773 (tl0 : List Value) (el0 K0 M0 : Nat) : runp3 (4, 4) (6, 6) (7, 7) 4 (.slice (some ⟨0, 0, none⟩) (M0 + 5) (K0 + (M0 + 5))) (heapOf [⟨intToks 0 4 0 ++ tl0, el0, 2, 1⟩]) = true := by kernel_rfl
theorem p785 (tl0 : List Value) (el0 K0 M0 : Nat) : runp3 (5, 5) (0, 0) (3, 3) 4 (.slice (some ⟨0, 0, none⟩) (M0 + 5) (K0 + (M0 + 5))) (heapOf [⟨intToks 0 4 0 ++ tl0, el0, 2, 1⟩]) = true := by kernel_rfl
theorem p797 (tl0 : List Value) (el0 K0 M0 : Nat) : runp3 (5, 5) (1, 1) (7, 7) 4 (.slice (some ⟨0, 0, none⟩) (M0 + 5) (K0 + (M0 + 5))) (heapOf [⟨intToks 0 4 0 ++ tl0, el0, 2, 1⟩]) = true := by kernel_rfl
theorem p809 (tl0 : List Value) (el0 K0 M0 : Nat) : runp3 (5, 5) (3, 3) (3, 3) 4 (.slice (some ⟨0, 0, none⟩) (M0 + 5) (K0 + (M0 + 5))) (heapOf [⟨intToks 0 4 0 ++ tl0, el0, 2, 1⟩]) = true := by kernel_rfl
theorem p821 (tl0 : List Value) (el0 K0 M0 : Nat) : runp3 (5, 5) (4, 4) (7, 7) 4 (.slice (some ⟨0, 0, none⟩) (M0 + 5) (K0 + (M0 + 5))) (heapOf [⟨intToks 0 4 0 ++ tl0, el0, 2, 1⟩]) = true := by kernel_rfl
theorem p833 (tl0 : List Value) (el0 K0 M0 : Nat) : runp3 (5, 5) (6, 6) (3, 3) 4 (.slice (some ⟨0, 0, none⟩) (M0 + 5) (K0 + (M0 + 5))) (heapOf [⟨intToks 0 4 0 ++ tl0, el0, 2, 1⟩]) = true := by kernel_rfl
theorem p845 (tl0 : List Value) (el0 K0 M0 : Nat) : runp3 (5, 5) (7, 7) (7, 7) 4 (.slice (some ⟨0, 0, none⟩) (M0 + 5) (K0 + (M0 + 5))) (heapOf [⟨intToks 0 4 0 ++ tl0, el0, 2, 1⟩]) = true := by kernel_rfl
end Go.Proofs.Ytlljepgfecodoaa.answerAll
