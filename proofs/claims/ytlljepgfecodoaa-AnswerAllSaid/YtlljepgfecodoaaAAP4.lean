/- What the plain terms find of AnswerAll: a part of the cases. -/
import Derived.Test.YtlljepgfecodoaaAAWE
namespace Go.Proofs.Ytlljepgfecodoaa.answerAll
set_option maxRecDepth 1000000
set_option linter.unusedVariables false
theorem p4 : runp1 (4, 4) 0 (.slice none 0 0) (heapOf []) = true := by kernel_rfl
theorem p16 (tl0 : List Value) (el0 K0 : Nat) : runp1 (4, 4) 0 (.slice (some ⟨0, 0, none⟩) 0 ((K0 + 1) + 0)) (heapOf [⟨intToks 0 0 0 ++ tl0, el0, 2, 1⟩]) = true := by kernel_rfl
theorem p28 (tl0 : List Value) (el0 K0 : Nat) : runp1 (4, 4) 2 (.slice (some ⟨0, 0, none⟩) 2 (K0 + 2)) (heapOf [⟨intToks 0 2 0 ++ tl0, el0, 2, 1⟩]) = true := by kernel_rfl
theorem p40 (tl0 : List Value) (el0 K0 : Nat) : runp2 (1, 1) (2, 2) 3 (.slice (some ⟨0, 0, none⟩) 3 (K0 + 3)) (heapOf [⟨intToks 0 3 0 ++ tl0, el0, 2, 1⟩]) = true := by kernel_rfl
theorem p52 (tl0 : List Value) (el0 K0 : Nat) : runp2 (2, 2) (6, 6) 3 (.slice (some ⟨0, 0, none⟩) 3 (K0 + 3)) (heapOf [⟨intToks 0 3 0 ++ tl0, el0, 2, 1⟩]) = true := by kernel_rfl
theorem p64 (tl0 : List Value) (el0 K0 : Nat) : runp2 (4, 4) (2, 2) 3 (.slice (some ⟨0, 0, none⟩) 3 (K0 + 3)) (heapOf [⟨intToks 0 3 0 ++ tl0, el0, 2, 1⟩]) = true := by kernel_rfl
theorem p76 (tl0 : List Value) (el0 K0 : Nat) : runp2 (5, 5) (6, 6) 3 (.slice (some ⟨0, 0, none⟩) 3 (K0 + 3)) (heapOf [⟨intToks 0 3 0 ++ tl0, el0, 2, 1⟩]) = true := by kernel_rfl
theorem p88 (tl0 : List Value) (el0 K0 : Nat) : runp3 (0, 0) (1, 1) (2, 2) 4 (.slice (some ⟨0, 0, none⟩) 4 (K0 + 4)) (heapOf [⟨intToks 0 4 0 ++ tl0, el0, 2, 1⟩]) = true := by kernel_rfl
theorem p100 (tl0 : List Value) (el0 K0 : Nat) : runp3 (0, 0) (2, 2) (6, 6) 4 (.slice (some ⟨0, 0, none⟩) 4 (K0 + 4)) (heapOf [⟨intToks 0 4 0 ++ tl0, el0, 2, 1⟩]) = true := by kernel_rfl
theorem p112 (tl0 : List Value) (el0 K0 : Nat) : runp3 (0, 0) (4, 4) (2, 2) 4 (.slice (some ⟨0, 0, none⟩) 4 (K0 + 4)) (heapOf [⟨intToks 0 4 0 ++ tl0, el0, 2, 1⟩]) = true := by kernel_rfl
theorem p124 (tl0 : List Value) (el0 K0 : Nat) : runp3 (0, 0) (5, 5) (6, 6) 4 (.slice (some ⟨0, 0, none⟩) 4 (K0 + 4)) (heapOf [⟨intToks 0 4 0 ++ tl0, el0, 2, 1⟩]) = true := by kernel_rfl
theorem p136 (tl0 : List Value) (el0 K0 : Nat) : runp3 (0, 0) (7, 7) (2, 2) 4 (.slice (some ⟨0, 0, none⟩) 4 (K0 + 4)) (heapOf [⟨intToks 0 4 0 ++ tl0, el0, 2, 1⟩]) = true := by kernel_rfl
theorem p148 (tl0 : List Value) (el0 K0 : Nat) : runp3 (1, 1) (0, 0) (6, 6) 4 (.slice (some ⟨0, 0, none⟩) 4 (K0 + 4)) (heapOf [⟨intToks 0 4 0 ++ tl0, el0, 2, 1⟩]) = true := by kernel_rfl
theorem p160 (tl0 : List Value) (el0 K0 : Nat) : runp3 (1, 1) (2, 2) (2, 2) 4 (.slice (some ⟨0, 0, none⟩) 4 (K0 + 4)) (heapOf [⟨intToks 0 4 0 ++ tl0, el0, 2, 1⟩]) = true := by kernel_rfl
theorem p172 (tl0 : List Value) (el0 K0 : Nat) : runp3 (1, 1) (3, 3) (6, 6) 4 (.slice (some ⟨0, 0, none⟩) 4 (K0 + 4)) (heapOf [⟨intToks 0 4 0 ++ tl0, el0, 2, 1⟩]) = true := by kernel_rfl
theorem p184 (tl0 : List Value) (el0 K0 : Nat) : runp3 (1, 1) (5, 5) (2, 2) 4 (.slice (some ⟨0, 0, none⟩) 4 (K0 + 4)) (heapOf [⟨intToks 0 4 0 ++ tl0, el0, 2, 1⟩]) = true := by kernel_rfl
theorem p196 (tl0 : List Value) (el0 K0 : Nat) : runp3 (1, 1) (6, 6) (6, 6) 4 (.slice (some ⟨0, 0, none⟩) 4 (K0 + 4)) (heapOf [⟨intToks 0 4 0 ++ tl0, el0, 2, 1⟩]) = true := by kernel_rfl
theorem p208 (tl0 : List Value) (el0 K0 : Nat) : runp3 (2, 2) (0, 0) (2, 2) 4 (.slice (some ⟨0, 0, none⟩) 4 (K0 + 4)) (heapOf [⟨intToks 0 4 0 ++ tl0, el0, 2, 1⟩]) = true := by kernel_rfl
theorem p220 (tl0 : List Value) (el0 K0 : Nat) : runp3 (2, 2) (1, 1) (6, 6) 4 (.slice (some ⟨0, 0, none⟩) 4 (K0 + 4)) (heapOf [⟨intToks 0 4 0 ++ tl0, el0, 2, 1⟩]) = true := by kernel_rfl
theorem p232 (tl0 : List Value) (el0 K0 : Nat) : runp3 (2, 2) (3, 3) (2, 2) 4 (.slice (some ⟨0, 0, none⟩) 4 (K0 + 4)) (heapOf [⟨intToks 0 4 0 ++ tl0, el0, 2, 1⟩]) = true := by kernel_rfl
theorem p244 (tl0 : List Value) (el0 K0 : Nat) : runp3 (2, 2) (4, 4) (6, 6) 4 (.slice (some ⟨0, 0, none⟩) 4 (K0 + 4)) (heapOf [⟨intToks 0 4 0 ++ tl0, el0, 2, 1⟩]) = true := by kernel_rfl
theorem p256 (tl0 : List Value) (el0 K0 : Nat) : runp3 (2, 2) (6, 6) (2, 2) 4 (.slice (some ⟨0, 0, none⟩) 4 (K0 + 4)) (heapOf [⟨intToks 0 4 0 ++ tl0, el0, 2, 1⟩]) = true := by kernel_rfl
theorem p268 (tl0 : List Value) (el0 K0 : Nat) : runp3 (2, 2) (7, 7) (6, 6) 4 (.slice (some ⟨0, 0, none⟩) 4 (K0 + 4)) (heapOf [⟨intToks 0 4 0 ++ tl0, el0, 2, 1⟩]) = true := by kernel_rfl
theorem p280 (tl0 : List Value) (el0 K0 : Nat) : runp3 (3, 3) (1, 1) (2, 2) 4 (.slice (some ⟨0, 0, none⟩) 4 (K0 + 4)) (heapOf [⟨intToks 0 4 0 ++ tl0, el0, 2, 1⟩]) = true := by kernel_rfl
theorem p292 (tl0 : List Value) (el0 K0 : Nat) : runp3 (3, 3) (2, 2) (6, 6) 4 (.slice (some ⟨0, 0, none⟩) 4 (K0 + 4)) (heapOf [⟨intToks 0 4 0 ++ tl0, el0, 2, 1⟩]) = true := by kernel_rfl
theorem p304 (tl0 : List Value) (el0 K0 : Nat) : runp3 (3, 3) (4, 4) (2, 2) 4 (.slice (some ⟨0, 0, none⟩) 4 (K0 + 4)) (heapOf [⟨intToks 0 4 0 ++ tl0, el0, 2, 1⟩]) = true := by kernel_rfl
theorem p316 (tl0 : List Value) (el0 K0 : Nat) : runp3 (3, 3) (5, 5) (6, 6) 4 (.slice (some ⟨0, 0, none⟩) 4 (K0 + 4)) (heapOf [⟨intToks 0 4 0 ++ tl0, el0, 2, 1⟩]) = true := by kernel_rfl
theorem p328 (tl0 : List Value) (el0 K0 : Nat) : runp3 (3, 3) (7, 7) (2, 2) 4 (.slice (some ⟨0, 0, none⟩) 4 (K0 + 4)) (heapOf [⟨intToks 0 4 0 ++ tl0, el0, 2, 1⟩]) = true := by kernel_rfl
theorem p340 (tl0 : List Value) (el0 K0 : Nat) : runp3 (4, 4) (0, 0) (6, 6) 4 (.slice (some ⟨0, 0, none⟩) 4 (K0 + 4)) (heapOf [⟨intToks 0 4 0 ++ tl0, el0, 2, 1⟩]) = true := by kernel_rfl
theorem p352 (tl0 : List Value) (el0 K0 : Nat) : runp3 (4, 4) (2, 2) (2, 2) 4 (.slice (some ⟨0, 0, none⟩) 4 (K0 + 4)) (heapOf [⟨intToks 0 4 0 ++ tl0, el0, 2, 1⟩]) = true := by kernel_rfl
theorem p364 (tl0 : List Value) (el0 K0 : Nat) : runp3 (4, 4) (3, 3) (6, 6) 4 (.slice (some ⟨0, 0, none⟩) 4 (K0 + 4)) (heapOf [⟨intToks 0 4 0 ++ tl0, el0, 2, 1⟩]) = true := by kernel_rfl
theorem p376 (tl0 : List Value) (el0 K0 : Nat) : runp3 (4, 4) (5, 5) (2, 2) 4 (.slice (some ⟨0, 0, none⟩) 4 (K0 + 4)) (heapOf [⟨intToks 0 4 0 ++ tl0, el0, 2, 1⟩]) = true := by kernel_rfl
theorem p388 (tl0 : List Value) (el0 K0 : Nat) : runp3 (4, 4) (6, 6) (6, 6) 4 (.slice (some ⟨0, 0, none⟩) 4 (K0 + 4)) (heapOf [⟨intToks 0 4 0 ++ tl0, el0, 2, 1⟩]) = true := by kernel_rfl
theorem p400 (tl0 : List Value) (el0 K0 : Nat) : runp3 (5, 5) (0, 0) (2, 2) 4 (.slice (some ⟨0, 0, none⟩) 4 (K0 + 4)) (heapOf [⟨intToks 0 4 0 ++ tl0, el0, 2, 1⟩]) = true := by kernel_rfl
theorem p412 (tl0 : List Value) (el0 K0 : Nat) : runp3 (5, 5) (1, 1) (6, 6) 4 (.slice (some ⟨0, 0, none⟩) 4 (K0 + 4)) (heapOf [⟨intToks 0 4 0 ++ tl0, el0, 2, 1⟩]) = true := by kernel_rfl
theorem p424 (tl0 : List Value) (el0 K0 : Nat) : runp3 (5, 5) (3, 3) (2, 2) 4 (.slice (some ⟨0, 0, none⟩) 4 (K0 + 4)) (heapOf [⟨intToks 0 4 0 ++ tl0, el0, 2, 1⟩]) = true := by kernel_rfl
theorem p436 (tl0 : List Value) (el0 K0 : Nat) : runp3 (5, 5) (4, 4) (6, 6) 4 (.slice (some ⟨0, 0, none⟩) 4 (K0 + 4)) (heapOf [⟨intToks 0 4 0 ++ tl0, el0, 2, 1⟩]) = true := by kernel_rfl
theorem p448 (tl0 : List Value) (el0 K0 : Nat) : runp3 (5, 5) (6, 6) (2, 2) 4 (.slice (some ⟨0, 0, none⟩) 4 (K0 + 4)) (heapOf [⟨intToks 0 4 0 ++ tl0, el0, 2, 1⟩]) = true := by kernel_rfl
theorem p460 (tl0 : List Value) (el0 K0 : Nat) : runp3 (5, 5) (7, 7) (6, 6) 4 (.slice (some ⟨0, 0, none⟩) 4 (K0 + 4)) (heapOf [⟨intToks 0 4 0 ++ tl0, el0, 2, 1⟩]) = true := by kernel_rfl
theorem p472 (tl0 : List Value) (el0 K0 M0 : Nat) : runp3 (0, 0) (1, 1) (2, 2) 4 (.slice (some ⟨0, 0, none⟩) (M0 + 5) (K0 + (M0 + 5))) (heapOf [⟨intToks 0 4 0 ++ tl0, el0, 2, 1⟩]) = true := by kernel_rfl
theorem p484 (tl0 : List Value) (el0 K0 M0 : Nat) : runp3 (0, 0) (2, 2) (6, 6) 4 (.slice (some ⟨0, 0, none⟩) (M0 + 5) (K0 + (M0 + 5))) (heapOf [⟨intToks 0 4 0 ++ tl0, el0, 2, 1⟩]) = true := by kernel_rfl
theorem p496 (tl0 : List Value) (el0 K0 M0 : Nat) : runp3 (0, 0) (4, 4) (2, 2) 4 (.slice (some ⟨0, 0, none⟩) (M0 + 5) (K0 + (M0 + 5))) (heapOf [⟨intToks 0 4 0 ++ tl0, el0, 2, 1⟩]) = true := by kernel_rfl
theorem p508 (tl0 : List Value) (el0 K0 M0 : Nat) : runp3 (0, 0) (5, 5) (6, 6) 4 (.slice (some ⟨0, 0, none⟩) (M0 + 5) (K0 + (M0 + 5))) (heapOf [⟨intToks 0 4 0 ++ tl0, el0, 2, 1⟩]) = true := by kernel_rfl
theorem p520 (tl0 : List Value) (el0 K0 M0 : Nat) : runp3 (0, 0) (7, 7) (2, 2) 4 (.slice (some ⟨0, 0, none⟩) (M0 + 5) (K0 + (M0 + 5))) (heapOf [⟨intToks 0 4 0 ++ tl0, el0, 2, 1⟩]) = true := by kernel_rfl
theorem p532 (tl0 : List Value) (el0 K0 M0 : Nat) : runp3 (1, 1) (0, 0) (6, 6) 4 (.slice (some ⟨0, 0, none⟩) (M0 + 5) (K0 + (M0 + 5))) (heapOf [⟨intToks 0 4 0 ++ tl0, el0, 2, 1⟩]) = true := by kernel_rfl
theorem p544 (tl0 : List Value) (el0 K0 M0 : Nat) : runp3 (1, 1) (2, 2) (2, 2) 4 (.slice (some ⟨0, 0, none⟩) (M0 + 5) (K0 + (M0 + 5))) (heapOf [⟨intToks 0 4 0 ++ tl0, el0, 2, 1⟩]) = true := by kernel_rfl
theorem p556 (tl0 : List Value) (el0 K0 M0 : Nat) : runp3 (1, 1) (3, 3) (6, 6) 4 (.slice (some ⟨0, 0, none⟩) (M0 + 5) (K0 + (M0 + 5))) (heapOf [⟨intToks 0 4 0 ++ tl0, el0, 2, 1⟩]) = true := by kernel_rfl
theorem p568 (tl0 : List Value) (el0 K0 M0 : Nat) : runp3 (1, 1) (5, 5) (2, 2) 4 (.slice (some ⟨0, 0, none⟩) (M0 + 5) (K0 + (M0 + 5))) (heapOf [⟨intToks 0 4 0 ++ tl0, el0, 2, 1⟩]) = true := by kernel_rfl
theorem p580 (tl0 : List Value) (el0 K0 M0 : Nat) : runp3 (1, 1) (6, 6) (6, 6) 4 (.slice (some ⟨0, 0, none⟩) (M0 + 5) (K0 + (M0 + 5))) (heapOf [⟨intToks 0 4 0 ++ tl0, el0, 2, 1⟩]) = true := by kernel_rfl
theorem p592 (tl0 : List Value) (el0 K0 M0 : Nat) : runp3 (2, 2) (0, 0) (2, 2) 4 (.slice (some ⟨0, 0, none⟩) (M0 + 5) (K0 + (M0 + 5))) (heapOf [⟨intToks 0 4 0 ++ tl0, el0, 2, 1⟩]) = true := by kernel_rfl
theorem p604 (tl0 : List Value) (el0 K0 M0 : Nat) : runp3 (2, 2) (1, 1) (6, 6) 4 (.slice (some ⟨0, 0, none⟩) (M0 + 5) (K0 + (M0 + 5))) (heapOf [⟨intToks 0 4 0 ++ tl0, el0, 2, 1⟩]) = true := by kernel_rfl
theorem p616 (tl0 : List Value) (el0 K0 M0 : Nat) : runp3 (2, 2) (3, 3) (2, 2) 4 (.slice (some ⟨0, 0, none⟩) (M0 + 5) (K0 + (M0 + 5))) (heapOf [⟨intToks 0 4 0 ++ tl0, el0, 2, 1⟩]) = true := by kernel_rfl
theorem p628 (tl0 : List Value) (el0 K0 M0 : Nat) : runp3 (2, 2) (4, 4) (6, 6) 4 (.slice (some ⟨0, 0, none⟩) (M0 + 5) (K0 + (M0 + 5))) (heapOf [⟨intToks 0 4 0 ++ tl0, el0, 2, 1⟩]) = true := by kernel_rfl
theorem p640 (tl0 : List Value) (el0 K0 M0 : Nat) : runp3 (2, 2) (6, 6) (2, 2) 4 (.slice (some ⟨0, 0, none⟩) (M0 + 5) (K0 + (M0 + 5))) (heapOf [⟨intToks 0 4 0 ++ tl0, el0, 2, 1⟩]) = true := by kernel_rfl
theorem p652 (tl0 : List Value) (el0 K0 M0 : Nat) : runp3 (2, 2) (7, 7) (6, 6) 4 (.slice (some ⟨0, 0, none⟩) (M0 + 5) (K0 + (M0 + 5))) (heapOf [⟨intToks 0 4 0 ++ tl0, el0, 2, 1⟩]) = true := by kernel_rfl
theorem p664 (tl0 : List Value) (el0 K0 M0 : Nat) : runp3 (3, 3) (1, 1) (2, 2) 4 (.slice (some ⟨0, 0, none⟩) (M0 + 5) (K0 + (M0 + 5))) (heapOf [⟨intToks 0 4 0 ++ tl0, el0, 2, 1⟩]) = true := by kernel_rfl
theorem p676 (tl0 : List Value) (el0 K0 M0 : Nat) : runp3 (3, 3) (2, 2) (6, 6) 4 (.slice (some ⟨0, 0, none⟩) (M0 + 5) (K0 + (M0 + 5))) (heapOf [⟨intToks 0 4 0 ++ tl0, el0, 2, 1⟩]) = true := by kernel_rfl
theorem p688 (tl0 : List Value) (el0 K0 M0 : Nat) : runp3 (3, 3) (4, 4) (2, 2) 4 (.slice (some ⟨0, 0, none⟩) (M0 + 5) (K0 + (M0 + 5))) (heapOf [⟨intToks 0 4 0 ++ tl0, el0, 2, 1⟩]) = true := by kernel_rfl
theorem p700 (tl0 : List Value) (el0 K0 M0 : Nat) : runp3 (3, 3) (5, 5) (6, 6) 4 (.slice (some ⟨0, 0, none⟩) (M0 + 5) (K0 + (M0 + 5))) (heapOf [⟨intToks 0 4 0 ++ tl0, el0, 2, 1⟩]) = true := by kernel_rfl
theorem p712 (tl0 : List Value) (el0 K0 M0 : Nat) : runp3 (3, 3) (7, 7) (2, 2) 4 (.slice (some ⟨0, 0, none⟩) (M0 + 5) (K0 + (M0 + 5))) (heapOf [⟨intToks 0 4 0 ++ tl0, el0, 2, 1⟩]) = true := by kernel_rfl
theorem p724 (tl0 : List Value) (el0 K0 M0 : Nat) : runp3 (4, 4) (0, 0) (6, 6) 4 (.slice (some ⟨0, 0, none⟩) (M0 + 5) (K0 + (M0 + 5))) (heapOf [⟨intToks 0 4 0 ++ tl0, el0, 2, 1⟩]) = true := by kernel_rfl
theorem p736 (tl0 : List Value) (el0 K0 M0 : Nat) : runp3 (4, 4) (2, 2) (2, 2) 4 (.slice (some ⟨0, 0, none⟩) (M0 + 5) (K0 + (M0 + 5))) (heapOf [⟨intToks 0 4 0 ++ tl0, el0, 2, 1⟩]) = true := by kernel_rfl
theorem p748 (tl0 : List Value) (el0 K0 M0 : Nat) : runp3 (4, 4) (3, 3) (6, 6) 4 (.slice (some ⟨0, 0, none⟩) (M0 + 5) (K0 + (M0 + 5))) (heapOf [⟨intToks 0 4 0 ++ tl0, el0, 2, 1⟩]) = true := by kernel_rfl
theorem p760 (tl0 : List Value) (el0 K0 M0 : Nat) : runp3 (4, 4) (5, 5) (2, 2) 4 (.slice (some ⟨0, 0, none⟩) (M0 + 5) (K0 + (M0 + 5))) (heapOf [⟨intToks 0 4 0 ++ tl0, el0, 2, 1⟩]) = true := by kernel_rfl
theorem p772 (tl0 : List Value) (el0 K0 M0 : Nat) : runp3 (4, 4) (6, 6) (6, 6) 4 (.slice (some ⟨0, 0, none⟩) (M0 + 5) (K0 + (M0 + 5))) (heapOf [⟨intToks 0 4 0 ++ tl0, el0, 2, 1⟩]) = true := by kernel_rfl
theorem p784 (tl0 : List Value) (el0 K0 M0 : Nat) : runp3 (5, 5) (0, 0) (2, 2) 4 (.slice (some ⟨0, 0, none⟩) (M0 + 5) (K0 + (M0 + 5))) (heapOf [⟨intToks 0 4 0 ++ tl0, el0, 2, 1⟩]) = true := by kernel_rfl
theorem p796 (tl0 : List Value) (el0 K0 M0 : Nat) : runp3 (5, 5) (1, 1) (6, 6) 4 (.slice (some ⟨0, 0, none⟩) (M0 + 5) (K0 + (M0 + 5))) (heapOf [⟨intToks 0 4 0 ++ tl0, el0, 2, 1⟩]) = true := by kernel_rfl
theorem p808 (tl0 : List Value) (el0 K0 M0 : Nat) : runp3 (5, 5) (3, 3) (2, 2) 4 (.slice (some ⟨0, 0, none⟩) (M0 + 5) (K0 + (M0 + 5))) (heapOf [⟨intToks 0 4 0 ++ tl0, el0, 2, 1⟩]) = true := by kernel_rfl
theorem p820 (tl0 : List Value) (el0 K0 M0 : Nat) : runp3 (5, 5) (4, 4) (6, 6) 4 (.slice (some ⟨0, 0, none⟩) (M0 + 5) (K0 + (M0 + 5))) (heapOf [⟨intToks 0 4 0 ++ tl0, el0, 2, 1⟩]) = true := by kernel_rfl
theorem p832 (tl0 : List Value) (el0 K0 M0 : Nat) : runp3 (5, 5) (6, 6) (2, 2) 4 (.slice (some ⟨0, 0, none⟩) (M0 + 5) (K0 + (M0 + 5))) (heapOf [⟨intToks 0 4 0 ++ tl0, el0, 2, 1⟩]) = true := by kernel_rfl
theorem p844 (tl0 : List Value) (el0 K0 M0 : Nat) : runp3 (5, 5) (7, 7) (6, 6) 4 (.slice (some ⟨0, 0, none⟩) (M0 + 5) (K0 + (M0 + 5))) (heapOf [⟨intToks 0 4 0 ++ tl0, el0, 2, 1⟩]) = true := by kernel_rfl
end Go.Proofs.Ytlljepgfecodoaa.answerAll
