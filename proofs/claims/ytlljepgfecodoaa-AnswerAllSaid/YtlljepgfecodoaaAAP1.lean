/- What the plain terms find of AnswerAll: a part of the cases. -/
import Derived.Test.YtlljepgfecodoaaAAWE
namespace Go.Proofs.Ytlljepgfecodoaa.answerAll
set_option maxRecDepth 1000000
set_option linter.unusedVariables false
theorem p1 : runp1 (1, 1) 0 (.slice none 0 0) (heapOf []) = true := by kernel_rfl
theorem p13 (tl0 : List Value) (el0 K0 : Nat) : runp1 (1, 1) 0 (.slice (some ⟨0, 0, none⟩) 0 ((K0 + 1) + 0)) (heapOf [⟨intToks 0 0 0 ++ tl0, el0, 2, 1⟩]) = true := by kernel_rfl
theorem p25 (tl0 : List Value) (el0 K0 : Nat) : runp1 (1, 1) 2 (.slice (some ⟨0, 0, none⟩) 2 (K0 + 2)) (heapOf [⟨intToks 0 2 0 ++ tl0, el0, 2, 1⟩]) = true := by kernel_rfl
theorem p37 (tl0 : List Value) (el0 K0 : Nat) : runp2 (0, 0) (7, 7) 3 (.slice (some ⟨0, 0, none⟩) 3 (K0 + 3)) (heapOf [⟨intToks 0 3 0 ++ tl0, el0, 2, 1⟩]) = true := by kernel_rfl
theorem p49 (tl0 : List Value) (el0 K0 : Nat) : runp2 (2, 2) (3, 3) 3 (.slice (some ⟨0, 0, none⟩) 3 (K0 + 3)) (heapOf [⟨intToks 0 3 0 ++ tl0, el0, 2, 1⟩]) = true := by kernel_rfl
theorem p61 (tl0 : List Value) (el0 K0 : Nat) : runp2 (3, 3) (7, 7) 3 (.slice (some ⟨0, 0, none⟩) 3 (K0 + 3)) (heapOf [⟨intToks 0 3 0 ++ tl0, el0, 2, 1⟩]) = true := by kernel_rfl
theorem p73 (tl0 : List Value) (el0 K0 : Nat) : runp2 (5, 5) (3, 3) 3 (.slice (some ⟨0, 0, none⟩) 3 (K0 + 3)) (heapOf [⟨intToks 0 3 0 ++ tl0, el0, 2, 1⟩]) = true := by kernel_rfl
theorem p85 (tl0 : List Value) (el0 K0 : Nat) : runp3 (0, 0) (0, 0) (7, 7) 4 (.slice (some ⟨0, 0, none⟩) 4 (K0 + 4)) (heapOf [⟨intToks 0 4 0 ++ tl0, el0, 2, 1⟩]) = true := by kernel_rfl
theorem p97 (tl0 : List Value) (el0 K0 : Nat) : runp3 (0, 0) (2, 2) (3, 3) 4 (.slice (some ⟨0, 0, none⟩) 4 (K0 + 4)) (heapOf [⟨intToks 0 4 0 ++ tl0, el0, 2, 1⟩]) = true := by kernel_rfl
theorem p109 (tl0 : List Value) (el0 K0 : Nat) : runp3 (0, 0) (3, 3) (7, 7) 4 (.slice (some ⟨0, 0, none⟩) 4 (K0 + 4)) (heapOf [⟨intToks 0 4 0 ++ tl0, el0, 2, 1⟩]) = true := by kernel_rfl
theorem p121 (tl0 : List Value) (el0 K0 : Nat) : runp3 (0, 0) (5, 5) (3, 3) 4 (.slice (some ⟨0, 0, none⟩) 4 (K0 + 4)) (heapOf [⟨intToks 0 4 0 ++ tl0, el0, 2, 1⟩]) = true := by kernel_rfl
theorem p133 (tl0 : List Value) (el0 K0 : Nat) : runp3 (0, 0) (6, 6) (7, 7) 4 (.slice (some ⟨0, 0, none⟩) 4 (K0 + 4)) (heapOf [⟨intToks 0 4 0 ++ tl0, el0, 2, 1⟩]) = true := by kernel_rfl
theorem p145 (tl0 : List Value) (el0 K0 : Nat) : runp3 (1, 1) (0, 0) (3, 3) 4 (.slice (some ⟨0, 0, none⟩) 4 (K0 + 4)) (heapOf [⟨intToks 0 4 0 ++ tl0, el0, 2, 1⟩]) = true := by kernel_rfl
theorem p157 (tl0 : List Value) (el0 K0 : Nat) : runp3 (1, 1) (1, 1) (7, 7) 4 (.slice (some ⟨0, 0, none⟩) 4 (K0 + 4)) (heapOf [⟨intToks 0 4 0 ++ tl0, el0, 2, 1⟩]) = true := by kernel_rfl
theorem p169 (tl0 : List Value) (el0 K0 : Nat) : runp3 (1, 1) (3, 3) (3, 3) 4 (.slice (some ⟨0, 0, none⟩) 4 (K0 + 4)) (heapOf [⟨intToks 0 4 0 ++ tl0, el0, 2, 1⟩]) = true := by kernel_rfl
theorem p181 (tl0 : List Value) (el0 K0 : Nat) : runp3 (1, 1) (4, 4) (7, 7) 4 (.slice (some ⟨0, 0, none⟩) 4 (K0 + 4)) (heapOf [⟨intToks 0 4 0 ++ tl0, el0, 2, 1⟩]) = true := by kernel_rfl
theorem p193 (tl0 : List Value) (el0 K0 : Nat) : runp3 (1, 1) (6, 6) (3, 3) 4 (.slice (some ⟨0, 0, none⟩) 4 (K0 + 4)) (heapOf [⟨intToks 0 4 0 ++ tl0, el0, 2, 1⟩]) = true := by kernel_rfl
theorem p205 (tl0 : List Value) (el0 K0 : Nat) : runp3 (1, 1) (7, 7) (7, 7) 4 (.slice (some ⟨0, 0, none⟩) 4 (K0 + 4)) (heapOf [⟨intToks 0 4 0 ++ tl0, el0, 2, 1⟩]) = true := by kernel_rfl
theorem p217 (tl0 : List Value) (el0 K0 : Nat) : runp3 (2, 2) (1, 1) (3, 3) 4 (.slice (some ⟨0, 0, none⟩) 4 (K0 + 4)) (heapOf [⟨intToks 0 4 0 ++ tl0, el0, 2, 1⟩]) = true := by kernel_rfl
theorem p229 (tl0 : List Value) (el0 K0 : Nat) : runp3 (2, 2) (2, 2) (7, 7) 4 (.slice (some ⟨0, 0, none⟩) 4 (K0 + 4)) (heapOf [⟨intToks 0 4 0 ++ tl0, el0, 2, 1⟩]) = true := by kernel_rfl
theorem p241 (tl0 : List Value) (el0 K0 : Nat) : runp3 (2, 2) (4, 4) (3, 3) 4 (.slice (some ⟨0, 0, none⟩) 4 (K0 + 4)) (heapOf [⟨intToks 0 4 0 ++ tl0, el0, 2, 1⟩]) = true := by kernel_rfl
theorem p253 (tl0 : List Value) (el0 K0 : Nat) : runp3 (2, 2) (5, 5) (7, 7) 4 (.slice (some ⟨0, 0, none⟩) 4 (K0 + 4)) (heapOf [⟨intToks 0 4 0 ++ tl0, el0, 2, 1⟩]) = true := by kernel_rfl
theorem p265 (tl0 : List Value) (el0 K0 : Nat) : runp3 (2, 2) (7, 7) (3, 3) 4 (.slice (some ⟨0, 0, none⟩) 4 (K0 + 4)) (heapOf [⟨intToks 0 4 0 ++ tl0, el0, 2, 1⟩]) = true := by kernel_rfl
theorem p277 (tl0 : List Value) (el0 K0 : Nat) : runp3 (3, 3) (0, 0) (7, 7) 4 (.slice (some ⟨0, 0, none⟩) 4 (K0 + 4)) (heapOf [⟨intToks 0 4 0 ++ tl0, el0, 2, 1⟩]) = true := by kernel_rfl
theorem p289 (tl0 : List Value) (el0 K0 : Nat) : runp3 (3, 3) (2, 2) (3, 3) 4 (.slice (some ⟨0, 0, none⟩) 4 (K0 + 4)) (heapOf [⟨intToks 0 4 0 ++ tl0, el0, 2, 1⟩]) = true := by kernel_rfl
theorem p301 (tl0 : List Value) (el0 K0 : Nat) : runp3 (3, 3) (3, 3) (7, 7) 4 (.slice (some ⟨0, 0, none⟩) 4 (K0 + 4)) (heapOf [⟨intToks 0 4 0 ++ tl0, el0, 2, 1⟩]) = true := by kernel_rfl
theorem p313 (tl0 : List Value) (el0 K0 : Nat) : runp3 (3, 3) (5, 5) (3, 3) 4 (.slice (some ⟨0, 0, none⟩) 4 (K0 + 4)) (heapOf [⟨intToks 0 4 0 ++ tl0, el0, 2, 1⟩]) = true := by kernel_rfl
theorem p325 (tl0 : List Value) (el0 K0 : Nat) : runp3 (3, 3) (6, 6) (7, 7) 4 (.slice (some ⟨0, 0, none⟩) 4 (K0 + 4)) (heapOf [⟨intToks 0 4 0 ++ tl0, el0, 2, 1⟩]) = true := by kernel_rfl
theorem p337 (tl0 : List Value) (el0 K0 : Nat) : runp3 (4, 4) (0, 0) (3, 3) 4 (.slice (some ⟨0, 0, none⟩) 4 (K0 + 4)) (heapOf [⟨intToks 0 4 0 ++ tl0, el0, 2, 1⟩]) = true := by kernel_rfl
theorem p349 (tl0 : List Value) (el0 K0 : Nat) : runp3 (4, 4) (1, 1) (7, 7) 4 (.slice (some ⟨0, 0, none⟩) 4 (K0 + 4)) (heapOf [⟨intToks 0 4 0 ++ tl0, el0, 2, 1⟩]) = true := by kernel_rfl
theorem p361 (tl0 : List Value) (el0 K0 : Nat) : runp3 (4, 4) (3, 3) (3, 3) 4 (.slice (some ⟨0, 0, none⟩) 4 (K0 + 4)) (heapOf [⟨intToks 0 4 0 ++ tl0, el0, 2, 1⟩]) = true := by kernel_rfl
theorem p373 (tl0 : List Value) (el0 K0 : Nat) : runp3 (4, 4) (4, 4) (7, 7) 4 (.slice (some ⟨0, 0, none⟩) 4 (K0 + 4)) (heapOf [⟨intToks 0 4 0 ++ tl0, el0, 2, 1⟩]) = true := by kernel_rfl
theorem p385 (tl0 : List Value) (el0 K0 : Nat) : runp3 (4, 4) (6, 6) (3, 3) 4 (.slice (some ⟨0, 0, none⟩) 4 (K0 + 4)) (heapOf [⟨intToks 0 4 0 ++ tl0, el0, 2, 1⟩]) = true := by kernel_rfl
theorem p397 (tl0 : List Value) (el0 K0 : Nat) : runp3 (4, 4) (7, 7) (7, 7) 4 (.slice (some ⟨0, 0, none⟩) 4 (K0 + 4)) (heapOf [⟨intToks 0 4 0 ++ tl0, el0, 2, 1⟩]) = true := by kernel_rfl
theorem p409 (tl0 : List Value) (el0 K0 : Nat) : runp3 (5, 5) (1, 1) (3, 3) 4 (.slice (some ⟨0, 0, none⟩) 4 (K0 + 4)) (heapOf [⟨intToks 0 4 0 ++ tl0, el0, 2, 1⟩]) = true := by kernel_rfl
theorem p421 (tl0 : List Value) (el0 K0 : Nat) : runp3 (5, 5) (2, 2) (7, 7) 4 (.slice (some ⟨0, 0, none⟩) 4 (K0 + 4)) (heapOf [⟨intToks 0 4 0 ++ tl0, el0, 2, 1⟩]) = true := by kernel_rfl
theorem p433 (tl0 : List Value) (el0 K0 : Nat) : runp3 (5, 5) (4, 4) (3, 3) 4 (.slice (some ⟨0, 0, none⟩) 4 (K0 + 4)) (heapOf [⟨intToks 0 4 0 ++ tl0, el0, 2, 1⟩]) = true := by kernel_rfl
theorem p445 (tl0 : List Value) (el0 K0 : Nat) : runp3 (5, 5) (5, 5) (7, 7) 4 (.slice (some ⟨0, 0, none⟩) 4 (K0 + 4)) (heapOf [⟨intToks 0 4 0 ++ tl0, el0, 2, 1⟩]) = true := by kernel_rfl
theorem p457 (tl0 : List Value) (el0 K0 : Nat) : runp3 (5, 5) (7, 7) (3, 3) 4 (.slice (some ⟨0, 0, none⟩) 4 (K0 + 4)) (heapOf [⟨intToks 0 4 0 ++ tl0, el0, 2, 1⟩]) = true := by kernel_rfl
theorem p469 (tl0 : List Value) (el0 K0 M0 : Nat) : runp3 (0, 0) (0, 0) (7, 7) 4 (.slice (some ⟨0, 0, none⟩) (M0 + 5) (K0 + (M0 + 5))) (heapOf [⟨intToks 0 4 0 ++ tl0, el0, 2, 1⟩]) = true := by kernel_rfl
theorem p481 (tl0 : List Value) (el0 K0 M0 : Nat) : runp3 (0, 0) (2, 2) (3, 3) 4 (.slice (some ⟨0, 0, none⟩) (M0 + 5) (K0 + (M0 + 5))) (heapOf [⟨intToks 0 4 0 ++ tl0, el0, 2, 1⟩]) = true := by kernel_rfl
theorem p493 (tl0 : List Value) (el0 K0 M0 : Nat) : runp3 (0, 0) (3, 3) (7, 7) 4 (.slice (some ⟨0, 0, none⟩) (M0 + 5) (K0 + (M0 + 5))) (heapOf [⟨intToks 0 4 0 ++ tl0, el0, 2, 1⟩]) = true := by kernel_rfl
theorem p505 (tl0 : List Value) (el0 K0 M0 : Nat) : runp3 (0, 0) (5, 5) (3, 3) 4 (.slice (some ⟨0, 0, none⟩) (M0 + 5) (K0 + (M0 + 5))) (heapOf [⟨intToks 0 4 0 ++ tl0, el0, 2, 1⟩]) = true := by kernel_rfl
theorem p517 (tl0 : List Value) (el0 K0 M0 : Nat) : runp3 (0, 0) (6, 6) (7, 7) 4 (.slice (some ⟨0, 0, none⟩) (M0 + 5) (K0 + (M0 + 5))) (heapOf [⟨intToks 0 4 0 ++ tl0, el0, 2, 1⟩]) = true := by kernel_rfl
theorem p529 (tl0 : List Value) (el0 K0 M0 : Nat) : runp3 (1, 1) (0, 0) (3, 3) 4 (.slice (some ⟨0, 0, none⟩) (M0 + 5) (K0 + (M0 + 5))) (heapOf [⟨intToks 0 4 0 ++ tl0, el0, 2, 1⟩]) = true := by kernel_rfl
theorem p541 (tl0 : List Value) (el0 K0 M0 : Nat) : runp3 (1, 1) (1, 1) (7, 7) 4 (.slice (some ⟨0, 0, none⟩) (M0 + 5) (K0 + (M0 + 5))) (heapOf [⟨intToks 0 4 0 ++ tl0, el0, 2, 1⟩]) = true := by kernel_rfl
theorem p553 (tl0 : List Value) (el0 K0 M0 : Nat) : runp3 (1, 1) (3, 3) (3, 3) 4 (.slice (some ⟨0, 0, none⟩) (M0 + 5) (K0 + (M0 + 5))) (heapOf [⟨intToks 0 4 0 ++ tl0, el0, 2, 1⟩]) = true := by kernel_rfl
theorem p565 (tl0 : List Value) (el0 K0 M0 : Nat) : runp3 (1, 1) (4, 4) (7, 7) 4 (.slice (some ⟨0, 0, none⟩) (M0 + 5) (K0 + (M0 + 5))) (heapOf [⟨intToks 0 4 0 ++ tl0, el0, 2, 1⟩]) = true := by kernel_rfl
theorem p577 (tl0 : List Value) (el0 K0 M0 : Nat) : runp3 (1, 1) (6, 6) (3, 3) 4 (.slice (some ⟨0, 0, none⟩) (M0 + 5) (K0 + (M0 + 5))) (heapOf [⟨intToks 0 4 0 ++ tl0, el0, 2, 1⟩]) = true := by kernel_rfl
theorem p589 (tl0 : List Value) (el0 K0 M0 : Nat) : runp3 (1, 1) (7, 7) (7, 7) 4 (.slice (some ⟨0, 0, none⟩) (M0 + 5) (K0 + (M0 + 5))) (heapOf [⟨intToks 0 4 0 ++ tl0, el0, 2, 1⟩]) = true := by kernel_rfl
theorem p601 (tl0 : List Value) (el0 K0 M0 : Nat) : runp3 (2, 2) (1, 1) (3, 3) 4 (.slice (some ⟨0, 0, none⟩) (M0 + 5) (K0 + (M0 + 5))) (heapOf [⟨intToks 0 4 0 ++ tl0, el0, 2, 1⟩]) = true := by kernel_rfl
theorem p613 (tl0 : List Value) (el0 K0 M0 : Nat) : runp3 (2, 2) (2, 2) (7, 7) 4 (.slice (some ⟨0, 0, none⟩) (M0 + 5) (K0 + (M0 + 5))) (heapOf [⟨intToks 0 4 0 ++ tl0, el0, 2, 1⟩]) = true := by kernel_rfl
theorem p625 (tl0 : List Value) (el0 K0 M0 : Nat) : runp3 (2, 2) (4, 4) (3, 3) 4 (.slice (some ⟨0, 0, none⟩) (M0 + 5) (K0 + (M0 + 5))) (heapOf [⟨intToks 0 4 0 ++ tl0, el0, 2, 1⟩]) = true := by kernel_rfl
theorem p637 (tl0 : List Value) (el0 K0 M0 : Nat) : runp3 (2, 2) (5, 5) (7, 7) 4 (.slice (some ⟨0, 0, none⟩) (M0 + 5) (K0 + (M0 + 5))) (heapOf [⟨intToks 0 4 0 ++ tl0, el0, 2, 1⟩]) = true := by kernel_rfl
theorem p649 (tl0 : List Value) (el0 K0 M0 : Nat) : runp3 (2, 2) (7, 7) (3, 3) 4 (.slice (some ⟨0, 0, none⟩) (M0 + 5) (K0 + (M0 + 5))) (heapOf [⟨intToks 0 4 0 ++ tl0, el0, 2, 1⟩]) = true := by kernel_rfl
theorem p661 (tl0 : List Value) (el0 K0 M0 : Nat) : runp3 (3, 3) (0, 0) (7, 7) 4 (.slice (some ⟨0, 0, none⟩) (M0 + 5) (K0 + (M0 + 5))) (heapOf [⟨intToks 0 4 0 ++ tl0, el0, 2, 1⟩]) = true := by kernel_rfl
theorem p673 (tl0 : List Value) (el0 K0 M0 : Nat) : runp3 (3, 3) (2, 2) (3, 3) 4 (.slice (some ⟨0, 0, none⟩) (M0 + 5) (K0 + (M0 + 5))) (heapOf [⟨intToks 0 4 0 ++ tl0, el0, 2, 1⟩]) = true := by kernel_rfl
theorem p685 (tl0 : List Value) (el0 K0 M0 : Nat) : runp3 (3, 3) (3, 3) (7, 7) 4 (.slice (some ⟨0, 0, none⟩) (M0 + 5) (K0 + (M0 + 5))) (heapOf [⟨intToks 0 4 0 ++ tl0, el0, 2, 1⟩]) = true := by kernel_rfl
theorem p697 (tl0 : List Value) (el0 K0 M0 : Nat) : runp3 (3, 3) (5, 5) (3, 3) 4 (.slice (some ⟨0, 0, none⟩) (M0 + 5) (K0 + (M0 + 5))) (heapOf [⟨intToks 0 4 0 ++ tl0, el0, 2, 1⟩]) = true := by kernel_rfl
theorem p709 (tl0 : List Value) (el0 K0 M0 : Nat) : runp3 (3, 3) (6, 6) (7, 7) 4 (.slice (some ⟨0, 0, none⟩) (M0 + 5) (K0 + (M0 + 5))) (heapOf [⟨intToks 0 4 0 ++ tl0, el0, 2, 1⟩]) = true := by kernel_rfl
theorem p721 (tl0 : List Value) (el0 K0 M0 : Nat) : runp3 (4, 4) (0, 0) (3, 3) 4 (.slice (some ⟨0, 0, none⟩) (M0 + 5) (K0 + (M0 + 5))) (heapOf [⟨intToks 0 4 0 ++ tl0, el0, 2, 1⟩]) = true := by kernel_rfl
theorem p733 (tl0 : List Value) (el0 K0 M0 : Nat) : runp3 (4, 4) (1, 1) (7, 7) 4 (.slice (some ⟨0, 0, none⟩) (M0 + 5) (K0 + (M0 + 5))) (heapOf [⟨intToks 0 4 0 ++ tl0, el0, 2, 1⟩]) = true := by kernel_rfl
theorem p745 (tl0 : List Value) (el0 K0 M0 : Nat) : runp3 (4, 4) (3, 3) (3, 3) 4 (.slice (some ⟨0, 0, none⟩) (M0 + 5) (K0 + (M0 + 5))) (heapOf [⟨intToks 0 4 0 ++ tl0, el0, 2, 1⟩]) = true := by kernel_rfl
theorem p757 (tl0 : List Value) (el0 K0 M0 : Nat) : runp3 (4, 4) (4, 4) (7, 7) 4 (.slice (some ⟨0, 0, none⟩) (M0 + 5) (K0 + (M0 + 5))) (heapOf [⟨intToks 0 4 0 ++ tl0, el0, 2, 1⟩]) = true := by kernel_rfl
theorem p769 (tl0 : List Value) (el0 K0 M0 : Nat) : runp3 (4, 4) (6, 6) (3, 3) 4 (.slice (some ⟨0, 0, none⟩) (M0 + 5) (K0 + (M0 + 5))) (heapOf [⟨intToks 0 4 0 ++ tl0, el0, 2, 1⟩]) = true := by kernel_rfl
theorem p781 (tl0 : List Value) (el0 K0 M0 : Nat) : runp3 (4, 4) (7, 7) (7, 7) 4 (.slice (some ⟨0, 0, none⟩) (M0 + 5) (K0 + (M0 + 5))) (heapOf [⟨intToks 0 4 0 ++ tl0, el0, 2, 1⟩]) = true := by kernel_rfl
theorem p793 (tl0 : List Value) (el0 K0 M0 : Nat) : runp3 (5, 5) (1, 1) (3, 3) 4 (.slice (some ⟨0, 0, none⟩) (M0 + 5) (K0 + (M0 + 5))) (heapOf [⟨intToks 0 4 0 ++ tl0, el0, 2, 1⟩]) = true := by kernel_rfl
theorem p805 (tl0 : List Value) (el0 K0 M0 : Nat) : runp3 (5, 5) (2, 2) (7, 7) 4 (.slice (some ⟨0, 0, none⟩) (M0 + 5) (K0 + (M0 + 5))) (heapOf [⟨intToks 0 4 0 ++ tl0, el0, 2, 1⟩]) = true := by kernel_rfl
theorem p817 (tl0 : List Value) (el0 K0 M0 : Nat) : runp3 (5, 5) (4, 4) (3, 3) 4 (.slice (some ⟨0, 0, none⟩) (M0 + 5) (K0 + (M0 + 5))) (heapOf [⟨intToks 0 4 0 ++ tl0, el0, 2, 1⟩]) = true := by kernel_rfl
theorem p829 (tl0 : List Value) (el0 K0 M0 : Nat) : runp3 (5, 5) (5, 5) (7, 7) 4 (.slice (some ⟨0, 0, none⟩) (M0 + 5) (K0 + (M0 + 5))) (heapOf [⟨intToks 0 4 0 ++ tl0, el0, 2, 1⟩]) = true := by kernel_rfl
theorem p841 (tl0 : List Value) (el0 K0 M0 : Nat) : runp3 (5, 5) (7, 7) (3, 3) 4 (.slice (some ⟨0, 0, none⟩) (M0 + 5) (K0 + (M0 + 5))) (heapOf [⟨intToks 0 4 0 ++ tl0, el0, 2, 1⟩]) = true := by kernel_rfl
end Go.Proofs.Ytlljepgfecodoaa.answerAll
