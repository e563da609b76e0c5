/- What the plain terms find of AnswerAll: a part of the cases. -/
import Derived.Test.YtlljepgfecodoaaAAWE
namespace Go.Proofs.Ytlljepgfecodoaa.answerAll
set_option maxRecDepth 1000000
set_option linter.unusedVariables false
theorem p0 : runp1 (0, 0) 0 (.slice none 0 0) (heapOf []) = true := by kernel_rfl
theorem p12 (tl0 : List Value) (el0 K0 : Nat) : runp1 (0, 0) 0 (.slice (some ⟨0, 0, none⟩) 0 ((K0 + 1) + 0)) (heapOf [⟨intToks 0 0 0 ++ tl0, el0, 2, 1⟩]) = true := by kernel_rfl
theorem p24 (tl0 : List Value) (el0 K0 : Nat) : runp1 (0, 0) 2 (.slice (some ⟨0, 0, none⟩) 2 (K0 + 2)) (heapOf [⟨intToks 0 2 0 ++ tl0, el0, 2, 1⟩]) = true := by kernel_rfl
theorem p36 (tl0 : List Value) (el0 K0 : Nat) : runp2 (0, 0) (6, 6) 3 (.slice (some ⟨0, 0, none⟩) 3 (K0 + 3)) (heapOf [⟨intToks 0 3 0 ++ tl0, el0, 2, 1⟩]) = true := by kernel_rfl
theorem p48 (tl0 : List Value) (el0 K0 : Nat) : runp2 (2, 2) (2, 2) 3 (.slice (some ⟨0, 0, none⟩) 3 (K0 + 3)) (heapOf [⟨intToks 0 3 0 ++ tl0, el0, 2, 1⟩]) = true := by kernel_rfl
theorem p60 (tl0 : List Value) (el0 K0 : Nat) : runp2 (3, 3) (6, 6) 3 (.slice (some ⟨0, 0, none⟩) 3 (K0 + 3)) (heapOf [⟨intToks 0 3 0 ++ tl0, el0, 2, 1⟩]) = true := by kernel_rfl
theorem p72 (tl0 : List Value) (el0 K0 : Nat) : runp2 (5, 5) (2, 2) 3 (.slice (some ⟨0, 0, none⟩) 3 (K0 + 3)) (heapOf [⟨intToks 0 3 0 ++ tl0, el0, 2, 1⟩]) = true := by kernel_rfl
theorem p84 (tl0 : List Value) (el0 K0 : Nat) : runp3 (0, 0) (0, 0) (6, 6) 4 (.slice (some ⟨0, 0, none⟩) 4 (K0 + 4)) (heapOf [⟨intToks 0 4 0 ++ tl0, el0, 2, 1⟩]) = true := by kernel_rfl
theorem p96 (tl0 : List Value) (el0 K0 : Nat) : runp3 (0, 0) (2, 2) (2, 2) 4 (.slice (some ⟨0, 0, none⟩) 4 (K0 + 4)) (heapOf [⟨intToks 0 4 0 ++ tl0, el0, 2, 1⟩]) = true := by kernel_rfl
theorem p108 (tl0 : List Value) (el0 K0 : Nat) : runp3 (0, 0) (3, 3) (6, 6) 4 (.slice (some ⟨0, 0, none⟩) 4 (K0 + 4)) (heapOf [⟨intToks 0 4 0 ++ tl0, el0, 2, 1⟩]) = true := by kernel_rfl
theorem p120 (tl0 : List Value) (el0 K0 : Nat) : runp3 (0, 0) (5, 5) (2, 2) 4 (.slice (some ⟨0, 0, none⟩) 4 (K0 + 4)) (heapOf [⟨intToks 0 4 0 ++ tl0, el0, 2, 1⟩]) = true := by kernel_rfl
theorem p132 (tl0 : List Value) (el0 K0 : Nat) : runp3 (0, 0) (6, 6) (6, 6) 4 (.slice (some ⟨0, 0, none⟩) 4 (K0 + 4)) (heapOf [⟨intToks 0 4 0 ++ tl0, el0, 2, 1⟩]) = true := by kernel_rfl
theorem p144 (tl0 : List Value) (el0 K0 : Nat) : runp3 (1, 1) (0, 0) (2, 2) 4 (.slice (some ⟨0, 0, none⟩) 4 (K0 + 4)) (heapOf [⟨intToks 0 4 0 ++ tl0, el0, 2, 1⟩]) = true := by kernel_rfl
theorem p156 (tl0 : List Value) (el0 K0 : Nat) : runp3 (1, 1) (1, 1) (6, 6) 4 (.slice (some ⟨0, 0, none⟩) 4 (K0 + 4)) (heapOf [⟨intToks 0 4 0 ++ tl0, el0, 2, 1⟩]) = true := by kernel_rfl
theorem p168 (tl0 : List Value) (el0 K0 : Nat) : runp3 (1, 1) (3, 3) (2, 2) 4 (.slice (some ⟨0, 0, none⟩) 4 (K0 + 4)) (heapOf [⟨intToks 0 4 0 ++ tl0, el0, 2, 1⟩]) = true := by kernel_rfl
theorem p180 (tl0 : List Value) (el0 K0 : Nat) : runp3 (1, 1) (4, 4) (6, 6) 4 (.slice (some ⟨0, 0, none⟩) 4 (K0 + 4)) (heapOf [⟨intToks 0 4 0 ++ tl0, el0, 2, 1⟩]) = true := by kernel_rfl
theorem p192 (tl0 : List Value) (el0 K0 : Nat) : runp3 (1, 1) (6, 6) (2, 2) 4 (.slice (some ⟨0, 0, none⟩) 4 (K0 + 4)) (heapOf [⟨intToks 0 4 0 ++ tl0, el0, 2, 1⟩]) = true := by kernel_rfl
theorem p204 (tl0 : List Value) (el0 K0 : Nat) : runp3 (1, 1) (7, 7) (6, 6) 4 (.slice (some ⟨0, 0, none⟩) 4 (K0 + 4)) (heapOf [⟨intToks 0 4 0 ++ tl0, el0, 2, 1⟩]) = true := by kernel_rfl
theorem p216 (tl0 : List Value) (el0 K0 : Nat) : runp3 (2, 2) (1, 1) (2, 2) 4 (.slice (some ⟨0, 0, none⟩) 4 (K0 + 4)) (heapOf [⟨intToks 0 4 0 ++ tl0, el0, 2, 1⟩]) = true := by kernel_rfl
theorem p228 (tl0 : List Value) (el0 K0 : Nat) : runp3 (2, 2) (2, 2) (6, 6) 4 (.slice (some ⟨0, 0, none⟩) 4 (K0 + 4)) (heapOf [⟨intToks 0 4 0 ++ tl0, el0, 2, 1⟩]) = true := by kernel_rfl
theorem p240 (tl0 : List Value) (el0 K0 : Nat) : runp3 (2, 2) (4, 4) (2, 2) 4 (.slice (some ⟨0, 0, none⟩) 4 (K0 + 4)) (heapOf [⟨intToks 0 4 0 ++ tl0, el0, 2, 1⟩]) = true := by kernel_rfl
theorem p252 (tl0 : List Value) (el0 K0 : Nat) : runp3 (2, 2) (5, 5) (6, 6) 4 (.slice (some ⟨0, 0, none⟩) 4 (K0 + 4)) (heapOf [⟨intToks 0 4 0 ++ tl0, el0, 2, 1⟩]) = true := by kernel_rfl
theorem p264 (tl0 : List Value) (el0 K0 : Nat) : runp3 (2, 2) (7, 7) (2, 2) 4 (.slice (some ⟨0, 0, none⟩) 4 (K0 + 4)) (heapOf [⟨intToks 0 4 0 ++ tl0, el0, 2, 1⟩]) = true := by kernel_rfl
theorem p276 (tl0 : List Value) (el0 K0 : Nat) : runp3 (3, 3) (0, 0) (6, 6) 4 (.slice (some ⟨0, 0, none⟩) 4 (K0 + 4)) (heapOf [⟨intToks 0 4 0 ++ tl0, el0, 2, 1⟩]) = true := by kernel_rfl
theorem p288 (tl0 : List Value) (el0 K0 : Nat) : runp3 (3, 3) (2, 2) (2, 2) 4 (.slice (some ⟨0, 0, none⟩) 4 (K0 + 4)) (heapOf [⟨intToks 0 4 0 ++ tl0, el0, 2, 1⟩]) = true := by kernel_rfl
theorem p300 (tl0 : List Value) (el0 K0 : Nat) : runp3 (3, 3) (3, 3) (6, 6) 4 (.slice (some ⟨0, 0, none⟩) 4 (K0 + 4)) (heapOf [⟨intToks 0 4 0 ++ tl0, el0, 2, 1⟩]) = true := by kernel_rfl
theorem p312 (tl0 : List Value) (el0 K0 : Nat) : runp3 (3, 3) (5, 5) (2, 2) 4 (.slice (some ⟨0, 0, none⟩) 4 (K0 + 4)) (heapOf [⟨intToks 0 4 0 ++ tl0, el0, 2, 1⟩]) = true := by kernel_rfl
theorem p324 (tl0 : List Value) (el0 K0 : Nat) : runp3 (3, 3) (6, 6) (6, 6) 4 (.slice (some ⟨0, 0, none⟩) 4 (K0 + 4)) (heapOf [⟨intToks 0 4 0 ++ tl0, el0, 2, 1⟩]) = true := by kernel_rfl
theorem p336 (tl0 : List Value) (el0 K0 : Nat) : runp3 (4, 4) (0, 0) (2, 2) 4 (.slice (some ⟨0, 0, none⟩) 4 (K0 + 4)) (heapOf [⟨intToks 0 4 0 ++ tl0, el0, 2, 1⟩]) = true := by kernel_rfl
theorem p348 (tl0 : List Value) (el0 K0 : Nat) : runp3 (4, 4) (1, 1) (6, 6) 4 (.slice (some ⟨0, 0, none⟩) 4 (K0 + 4)) (heapOf [⟨intToks 0 4 0 ++ tl0, el0, 2, 1⟩]) = true := by kernel_rfl
theorem p360 (tl0 : List Value) (el0 K0 : Nat) : runp3 (4, 4) (3, 3) (2, 2) 4 (.slice (some ⟨0, 0, none⟩) 4 (K0 + 4)) (heapOf [⟨intToks 0 4 0 ++ tl0, el0, 2, 1⟩]) = true := by kernel_rfl
theorem p372 (tl0 : List Value) (el0 K0 : Nat) : runp3 (4, 4) (4, 4) (6, 6) 4 (.slice (some ⟨0, 0, none⟩) 4 (K0 + 4)) (heapOf [⟨intToks 0 4 0 ++ tl0, el0, 2, 1⟩]) = true := by kernel_rfl
theorem p384 (tl0 : List Value) (el0 K0 : Nat) : runp3 (4, 4) (6, 6) (2, 2) 4 (.slice (some ⟨0, 0, none⟩) 4 (K0 + 4)) (heapOf [⟨intToks 0 4 0 ++ tl0, el0, 2, 1⟩]) = true := by kernel_rfl
theorem p396 (tl0 : List Value) (el0 K0 : Nat) : runp3 (4, 4) (7, 7) (6, 6) 4 (.slice (some ⟨0, 0, none⟩) 4 (K0 + 4)) (heapOf [⟨intToks 0 4 0 ++ tl0, el0, 2, 1⟩]) = true := by kernel_rfl
theorem p408 (tl0 : List Value) (el0 K0 : Nat) : runp3 (5, 5) (1, 1) (2, 2) 4 (.slice (some ⟨0, 0, none⟩) 4 (K0 + 4)) (heapOf [⟨intToks 0 4 0 ++ tl0, el0, 2, 1⟩]) = true := by kernel_rfl
theorem p420 (tl0 : List Value) (el0 K0 : Nat) : runp3 (5, 5) (2, 2) (6, 6) 4 (.slice (some ⟨0, 0, none⟩) 4 (K0 + 4)) (heapOf [⟨intToks 0 4 0 ++ tl0, el0, 2, 1⟩]) = true := by kernel_rfl
theorem p432 (tl0 : List Value) (el0 K0 : Nat) : runp3 (5, 5) (4, 4) (2, 2) 4 (.slice (some ⟨0, 0, none⟩) 4 (K0 + 4)) (heapOf [⟨intToks 0 4 0 ++ tl0, el0, 2, 1⟩]) = true := by kernel_rfl
theorem p444 (tl0 : List Value) (el0 K0 : Nat) : runp3 (5, 5) (5, 5) (6, 6) 4 (.slice (some ⟨0, 0, none⟩) 4 (K0 + 4)) (heapOf [⟨intToks 0 4 0 ++ tl0, el0, 2, 1⟩]) = true := by kernel_rfl
theorem p456 (tl0 : List Value) (el0 K0 : Nat) : runp3 (5, 5) (7, 7) (2, 2) 4 (.slice (some ⟨0, 0, none⟩) 4 (K0 + 4)) (heapOf [⟨intToks 0 4 0 ++ tl0, el0, 2, 1⟩]) = true := by kernel_rfl
theorem p468 (tl0 : List Value) (el0 K0 M0 : Nat) : runp3 (0, 0) (0, 0) (6, 6) 4 (.slice (some ⟨0, 0, none⟩) (M0 + 5) (K0 + (M0 + 5))) (heapOf [⟨intToks 0 4 0 ++ tl0, el0, 2, 1⟩]) = true := by kernel_rfl
theorem p480 (tl0 : List Value) (el0 K0 M0 : Nat) : runp3 (0, 0) (2, 2) (2, 2) 4 (.slice (some ⟨0, 0, none⟩) (M0 + 5) (K0 + (M0 + 5))) (heapOf [⟨intToks 0 4 0 ++ tl0, el0, 2, 1⟩]) = true := by kernel_rfl
theorem p492 (tl0 : List Value) (el0 K0 M0 : Nat) : runp3 (0, 0) (3, 3) (6, 6) 4 (.slice (some ⟨0, 0, none⟩) (M0 + 5) (K0 + (M0 + 5))) (heapOf [⟨intToks 0 4 0 ++ tl0, el0, 2, 1⟩]) = true := by kernel_rfl
theorem p504 (tl0 : List Value) (el0 K0 M0 : Nat) : runp3 (0, 0) (5, 5) (2, 2) 4 (.slice (some ⟨0, 0, none⟩) (M0 + 5) (K0 + (M0 + 5))) (heapOf [⟨intToks 0 4 0 ++ tl0, el0, 2, 1⟩]) = true := by kernel_rfl
theorem p516 (tl0 : List Value) (el0 K0 M0 : Nat) : runp3 (0, 0) (6, 6) (6, 6) 4 (.slice (some ⟨0, 0, none⟩) (M0 + 5) (K0 + (M0 + 5))) (heapOf [⟨intToks 0 4 0 ++ tl0, el0, 2, 1⟩]) = true := by kernel_rfl
theorem p528 (tl0 : List Value) (el0 K0 M0 : Nat) : runp3 (1, 1) (0, 0) (2, 2) 4 (.slice (some ⟨0, 0, none⟩) (M0 + 5) (K0 + (M0 + 5))) (heapOf [⟨intToks 0 4 0 ++ tl0, el0, 2, 1⟩]) = true := by kernel_rfl
theorem p540 (tl0 : List Value) (el0 K0 M0 : Nat) : runp3 (1, 1) (1, 1) (6, 6) 4 (.slice (some ⟨0, 0, none⟩) (M0 + 5) (K0 + (M0 + 5))) (heapOf [⟨intToks 0 4 0 ++ tl0, el0, 2, 1⟩]) = true := by kernel_rfl
theorem p552 (tl0 : List Value) (el0 K0 M0 : Nat) : runp3 (1, 1) (3, 3) (2, 2) 4 (.slice (some ⟨0, 0, none⟩) (M0 + 5) (K0 + (M0 + 5))) (heapOf [⟨intToks 0 4 0 ++ tl0, el0, 2, 1⟩]) = true := by kernel_rfl
theorem p564 (tl0 : List Value) (el0 K0 M0 : Nat) : runp3 (1, 1) (4, 4) (6, 6) 4 (.slice (some ⟨0, 0, none⟩) (M0 + 5) (K0 + (M0 + 5))) (heapOf [⟨intToks 0 4 0 ++ tl0, el0, 2, 1⟩]) = true := by kernel_rfl
theorem p576 (tl0 : List Value) (el0 K0 M0 : Nat) : runp3 (1, 1) (6, 6) (2, 2) 4 (.slice (some ⟨0, 0, none⟩) (M0 + 5) (K0 + (M0 + 5))) (heapOf [⟨intToks 0 4 0 ++ tl0, el0, 2, 1⟩]) = true := by kernel_rfl
theorem p588 (tl0 : List Value) (el0 K0 M0 : Nat) : runp3 (1, 1) (7, 7) (6, 6) 4 (.slice (some ⟨0, 0, none⟩) (M0 + 5) (K0 + (M0 + 5))) (heapOf [⟨intToks 0 4 0 ++ tl0, el0, 2, 1⟩]) = true := by kernel_rfl
theorem p600 (tl0 : List Value) (el0 K0 M0 : Nat) : runp3 (2, 2) (1, 1) (2, 2) 4 (.slice (some ⟨0, 0, none⟩) (M0 + 5) (K0 + (M0 + 5))) (heapOf [⟨intToks 0 4 0 ++ tl0, el0, 2, 1⟩]) = true := by kernel_rfl
theorem p612 (tl0 : List Value) (el0 K0 M0 : Nat) : runp3 (2, 2) (2, 2) (6, 6) 4 (.slice (some ⟨0, 0, none⟩) (M0 + 5) (K0 + (M0 + 5))) (heapOf [⟨intToks 0 4 0 ++ tl0, el0, 2, 1⟩]) = true := by kernel_rfl
theorem p624 (tl0 : List Value) (el0 K0 M0 : Nat) : runp3 (2, 2) (4, 4) (2, 2) 4 (.slice (some ⟨0, 0, none⟩) (M0 + 5) (K0 + (M0 + 5))) (heapOf [⟨intToks 0 4 0 ++ tl0, el0, 2, 1⟩]) = true := by kernel_rfl
theorem p636 (tl0 : List Value) (el0 K0 M0 : Nat) : runp3 (2, 2) (5, 5) (6, 6) 4 (.slice (some ⟨0, 0, none⟩) (M0 + 5) (K0 + (M0 + 5))) (heapOf [⟨intToks 0 4 0 ++ tl0, el0, 2, 1⟩]) = true := by kernel_rfl
theorem p648 (tl0 : List Value) (el0 K0 M0 : Nat) : runp3 (2, 2) (7, 7) (2, 2) 4 (.slice (some ⟨0, 0, none⟩) (M0 + 5) (K0 + (M0 + 5))) (heapOf [⟨intToks 0 4 0 ++ tl0, el0, 2, 1⟩]) = true := by kernel_rfl
theorem p660 (tl0 : List Value) (el0 K0 M0 : Nat) : runp3 (3, 3) (0, 0) (6, 6) 4 (.slice (some ⟨0, 0, none⟩) (M0 + 5) (K0 + (M0 + 5))) (heapOf [⟨intToks 0 4 0 ++ tl0, el0, 2, 1⟩]) = true := by kernel_rfl
theorem p672 (tl0 : List Value) (el0 K0 M0 : Nat) : runp3 (3, 3) (2, 2) (2, 2) 4 (.slice (some ⟨0, 0, none⟩) (M0 + 5) (K0 + (M0 + 5))) (heapOf [⟨intToks 0 4 0 ++ tl0, el0, 2, 1⟩]) = true := by kernel_rfl
theorem p684 (tl0 : List Value) (el0 K0 M0 : Nat) : runp3 (3, 3) (3, 3) (6, 6) 4 (.slice (some ⟨0, 0, none⟩) (M0 + 5) (K0 + (M0 + 5))) (heapOf [⟨intToks 0 4 0 ++ tl0, el0, 2, 1⟩]) = true := by kernel_rfl
theorem p696 (tl0 : List Value) (el0 K0 M0 : Nat) : runp3 (3, 3) (5, 5) (2, 2) 4 (.slice (some ⟨0, 0, none⟩) (M0 + 5) (K0 + (M0 + 5))) (heapOf [⟨intToks 0 4 0 ++ tl0, el0, 2, 1⟩]) = true := by kernel_rfl
theorem p708 (tl0 : List Value) (el0 K0 M0 : Nat) : runp3 (3, 3) (6, 6) (6, 6) 4 (.slice (some ⟨0, 0, none⟩) (M0 + 5) (K0 + (M0 + 5))) (heapOf [⟨intToks 0 4 0 ++ tl0, el0, 2, 1⟩]) = true := by kernel_rfl
theorem p720 (tl0 : List Value) (el0 K0 M0 : Nat) : runp3 (4, 4) (0, 0) (2, 2) 4 (.slice (some ⟨0, 0, none⟩) (M0 + 5) (K0 + (M0 + 5))) (heapOf [⟨intToks 0 4 0 ++ tl0, el0, 2, 1⟩]) = true := by kernel_rfl
theorem p732 (tl0 : List Value) (el0 K0 M0 : Nat) : runp3 (4, 4) (1, 1) (6, 6) 4 (.slice (some ⟨0, 0, none⟩) (M0 + 5) (K0 + (M0 + 5))) (heapOf [⟨intToks 0 4 0 ++ tl0, el0, 2, 1⟩]) = true := by kernel_rfl
theorem p744 (tl0 : List Value) (el0 K0 M0 : Nat) : runp3 (4, 4) (3, 3) (2, 2) 4 (.slice (some ⟨0, 0, none⟩) (M0 + 5) (K0 + (M0 + 5))) (heapOf [⟨intToks 0 4 0 ++ tl0, el0, 2, 1⟩]) = true := by kernel_rfl
theorem p756 (tl0 : List Value) (el0 K0 M0 : Nat) : runp3 (4, 4) (4, 4) (6, 6) 4 (.slice (some ⟨0, 0, none⟩) (M0 + 5) (K0 + (M0 + 5))) (heapOf [⟨intToks 0 4 0 ++ tl0, el0, 2, 1⟩]) = true := by kernel_rfl
theorem p768 (tl0 : List Value) (el0 K0 M0 : Nat) : runp3 (4, 4) (6, 6) (2, 2) 4 (.slice (some ⟨0, 0, none⟩) (M0 + 5) (K0 + (M0 + 5))) (heapOf [⟨intToks 0 4 0 ++ tl0, el0, 2, 1⟩]) = true := by kernel_rfl
theorem p780 (tl0 : List Value) (el0 K0 M0 : Nat) : runp3 (4, 4) (7, 7) (6, 6) 4 (.slice (some ⟨0, 0, none⟩) (M0 + 5) (K0 + (M0 + 5))) (heapOf [⟨intToks 0 4 0 ++ tl0, el0, 2, 1⟩]) = true := by kernel_rfl
theorem p792 (tl0 : List Value) (el0 K0 M0 : Nat) : runp3 (5, 5) (1, 1) (2, 2) 4 (.slice (some ⟨0, 0, none⟩) (M0 + 5) (K0 + (M0 + 5))) (heapOf [⟨intToks 0 4 0 ++ tl0, el0, 2, 1⟩]) = true := by kernel_rfl
theorem p804 (tl0 : List Value) (el0 K0 M0 : Nat) : runp3 (5, 5) (2, 2) (6, 6) 4 (.slice (some ⟨0, 0, none⟩) (M0 + 5) (K0 + (M0 + 5))) (heapOf [⟨intToks 0 4 0 ++ tl0, el0, 2, 1⟩]) = true := by kernel_rfl
theorem p816 (tl0 : List Value) (el0 K0 M0 : Nat) : runp3 (5, 5) (4, 4) (2, 2) 4 (.slice (some ⟨0, 0, none⟩) (M0 + 5) (K0 + (M0 + 5))) (heapOf [⟨intToks 0 4 0 ++ tl0, el0, 2, 1⟩]) = true := by kernel_rfl
theorem p828 (tl0 : List Value) (el0 K0 M0 : Nat) : runp3 (5, 5) (5, 5) (6, 6) 4 (.slice (some ⟨0, 0, none⟩) (M0 + 5) (K0 + (M0 + 5))) (heapOf [⟨intToks 0 4 0 ++ tl0, el0, 2, 1⟩]) = true := by kernel_rfl
theorem p840 (tl0 : List Value) (el0 K0 M0 : Nat) : runp3 (5, 5) (7, 7) (2, 2) 4 (.slice (some ⟨0, 0, none⟩) (M0 + 5) (K0 + (M0 + 5))) (heapOf [⟨intToks 0 4 0 ++ tl0, el0, 2, 1⟩]) = true := by kernel_rfl
end Go.Proofs.Ytlljepgfecodoaa.answerAll
