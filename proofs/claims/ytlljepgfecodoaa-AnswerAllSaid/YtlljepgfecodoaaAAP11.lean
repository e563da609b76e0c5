/- What the plain terms find of AnswerAll: a part of the cases. -/
import Derived.Test.YtlljepgfecodoaaAAWE
namespace Go.Proofs.Ytlljepgfecodoaa.answerAll
set_option maxRecDepth 1000000
set_option linter.unusedVariables false
theorem p11 (tl0 : List Value) (el0 : Nat) : runp1 (5, 5) 0 (.slice (some ⟨0, 0, none⟩) 0 (0 + 0)) (heapOf [⟨intToks 0 0 0 ++ tl0, el0, 2, 1⟩]) = true := by kernel_rfl
theorem p23 (tl0 : List Value) (el0 K0 : Nat) : runp1 (5, 5) 1 (.slice (some ⟨0, 0, none⟩) 1 (K0 + 1)) (heapOf [⟨intToks 0 1 0 ++ tl0, el0, 2, 1⟩]) = true := by kernel_rfl
theorem p35 (tl0 : List Value) (el0 K0 : Nat) : runp2 (0, 0) (5, 5) 3 (.slice (some ⟨0, 0, none⟩) 3 (K0 + 3)) (heapOf [⟨intToks 0 3 0 ++ tl0, el0, 2, 1⟩]) = true := by kernel_rfl
theorem p47 (tl0 : List Value) (el0 K0 : Nat) : runp2 (2, 2) (1, 1) 3 (.slice (some ⟨0, 0, none⟩) 3 (K0 + 3)) (heapOf [⟨intToks 0 3 0 ++ tl0, el0, 2, 1⟩]) = true := by kernel_rfl
theorem p59 (tl0 : List Value) (el0 K0 : Nat) : runp2 (3, 3) (5, 5) 3 (.slice (some ⟨0, 0, none⟩) 3 (K0 + 3)) (heapOf [⟨intToks 0 3 0 ++ tl0, el0, 2, 1⟩]) = true := by kernel_rfl
theorem p71 (tl0 : List Value) (el0 K0 : Nat) : runp2 (5, 5) (1, 1) 3 (.slice (some ⟨0, 0, none⟩) 3 (K0 + 3)) (heapOf [⟨intToks 0 3 0 ++ tl0, el0, 2, 1⟩]) = true := by kernel_rfl
theorem p83 (tl0 : List Value) (el0 K0 : Nat) : runp3 (0, 0) (0, 0) (5, 5) 4 (.slice (some ⟨0, 0, none⟩) 4 (K0 + 4)) (heapOf [⟨intToks 0 4 0 ++ tl0, el0, 2, 1⟩]) = true := by kernel_rfl
theorem p95 (tl0 : List Value) (el0 K0 : Nat) : runp3 (0, 0) (2, 2) (1, 1) 4 (.slice (some ⟨0, 0, none⟩) 4 (K0 + 4)) (heapOf [⟨intToks 0 4 0 ++ tl0, el0, 2, 1⟩]) = true := by kernel_rfl
theorem p107 (tl0 : List Value) (el0 K0 : Nat) : runp3 (0, 0) (3, 3) (5, 5) 4 (.slice (some ⟨0, 0, none⟩) 4 (K0 + 4)) (heapOf [⟨intToks 0 4 0 ++ tl0, el0, 2, 1⟩]) = true := by kernel_rfl
theorem p119 (tl0 : List Value) (el0 K0 : Nat) : runp3 (0, 0) (5, 5) (1, 1) 4 (.slice (some ⟨0, 0, none⟩) 4 (K0 + 4)) (heapOf [⟨intToks 0 4 0 ++ tl0, el0, 2, 1⟩]) = true := by kernel_rfl
theorem p131 (tl0 : List Value) (el0 K0 : Nat) : runp3 (0, 0) (6, 6) (5, 5) 4 (.slice (some ⟨0, 0, none⟩) 4 (K0 + 4)) (heapOf [⟨intToks 0 4 0 ++ tl0, el0, 2, 1⟩]) = true := by kernel_rfl
theorem p143 (tl0 : List Value) (el0 K0 : Nat) : runp3 (1, 1) (0, 0) (1, 1) 4 (.slice (some ⟨0, 0, none⟩) 4 (K0 + 4)) (heapOf [⟨intToks 0 4 0 ++ tl0, el0, 2, 1⟩]) = true := by kernel_rfl
theorem p155 (tl0 : List Value) (el0 K0 : Nat) : runp3 (1, 1) (1, 1) (5, 5) 4 (.slice (some ⟨0, 0, none⟩) 4 (K0 + 4)) (heapOf [⟨intToks 0 4 0 ++ tl0, el0, 2, 1⟩]) = true := by kernel_rfl
theorem p167 (tl0 : List Value) (el0 K0 : Nat) : runp3 (1, 1) (3, 3) (1, 1) 4 (.slice (some ⟨0, 0, none⟩) 4 (K0 + 4)) (heapOf [⟨intToks 0 4 0 ++ tl0, el0, 2, 1⟩]) = true := by kernel_rfl
theorem p179 (tl0 : List Value) (el0 K0 : Nat) : runp3 (1, 1) (4, 4) (5, 5) 4 (.slice (some ⟨0, 0, none⟩) 4 (K0 + 4)) (heapOf [⟨intToks 0 4 0 ++ tl0, el0, 2, 1⟩]) = true := by kernel_rfl
theorem p191 (tl0 : List Value) (el0 K0 : Nat) : runp3 (1, 1) (6, 6) (1, 1) 4 (.slice (some ⟨0, 0, none⟩) 4 (K0 + 4)) (heapOf [⟨intToks 0 4 0 ++ tl0, el0, 2, 1⟩]) = true := by kernel_rfl
theorem p203 (tl0 : List Value) (el0 K0 : Nat) : runp3 (1, 1) (7, 7) (5, 5) 4 (.slice (some ⟨0, 0, none⟩) 4 (K0 + 4)) (heapOf [⟨intToks 0 4 0 ++ tl0, el0, 2, 1⟩]) = true := by kernel_rfl
theorem p215 (tl0 : List Value) (el0 K0 : Nat) : runp3 (2, 2) (1, 1) (1, 1) 4 (.slice (some ⟨0, 0, none⟩) 4 (K0 + 4)) (heapOf [⟨intToks 0 4 0 ++ tl0, el0, 2, 1⟩]) = true := by kernel_rfl
theorem p227 (tl0 : List Value) (el0 K0 : Nat) : runp3 (2, 2) (2, 2) (5, 5) 4 (.slice (some ⟨0, 0, none⟩) 4 (K0 + 4)) (heapOf [⟨intToks 0 4 0 ++ tl0, el0, 2, 1⟩]) = true := by kernel_rfl
theorem p239 (tl0 : List Value) (el0 K0 : Nat) : runp3 (2, 2) (4, 4) (1, 1) 4 (.slice (some ⟨0, 0, none⟩) 4 (K0 + 4)) (heapOf [⟨intToks 0 4 0 ++ tl0, el0, 2, 1⟩]) = true := by kernel_rfl
theorem p251 (tl0 : List Value) (el0 K0 : Nat) : runp3 (2, 2) (5, 5) (5, 5) 4 (.slice (some ⟨0, 0, none⟩) 4 (K0 + 4)) (heapOf [⟨intToks 0 4 0 ++ tl0, el0, 2, 1⟩]) = true := by kernel_rfl
theorem p263 (tl0 : List Value) (el0 K0 : Nat) : runp3 (2, 2) (7, 7) (1, 1) 4 (.slice (some ⟨0, 0, none⟩) 4 (K0 + 4)) (heapOf [⟨intToks 0 4 0 ++ tl0, el0, 2, 1⟩]) = true := by kernel_rfl
theorem p275 (tl0 : List Value) (el0 K0 : Nat) : runp3 (3, 3) (0, 0) (5, 5) 4 (.slice (some ⟨0, 0, none⟩) 4 (K0 + 4)) (heapOf [⟨intToks 0 4 0 ++ tl0, el0, 2, 1⟩]) = true := by kernel_rfl
theorem p287 (tl0 : List Value) (el0 K0 : Nat) : runp3 (3, 3) (2, 2) (1, 1) 4 (.slice (some ⟨0, 0, none⟩) 4 (K0 + 4)) (heapOf [⟨intToks 0 4 0 ++ tl0, el0, 2, 1⟩]) = true := by kernel_rfl
theorem p299 (tl0 : List Value) (el0 K0 : Nat) : runp3 (3, 3) (3, 3) (5, 5) 4 (.slice (some ⟨0, 0, none⟩) 4 (K0 + 4)) (heapOf [⟨intToks 0 4 0 ++ tl0, el0, 2, 1⟩]) = true := by kernel_rfl
theorem p311 (tl0 : List Value) (el0 K0 : Nat) : runp3 (3, 3) (5, 5) (1, 1) 4 (.slice (some ⟨0, 0, none⟩) 4 (K0 + 4)) (heapOf [⟨intToks 0 4 0 ++ tl0, el0, 2, 1⟩]) = true := by kernel_rfl
theorem p323 (tl0 : List Value) (el0 K0 : Nat) : runp3 (3, 3) (6, 6) (5, 5) 4 (.slice (some ⟨0, 0, none⟩) 4 (K0 + 4)) (heapOf [⟨intToks 0 4 0 ++ tl0, el0, 2, 1⟩]) = true := by kernel_rfl
theorem p335 (tl0 : List Value) (el0 K0 : Nat) : runp3 (4, 4) (0, 0) (1, 1) 4 (.slice (some ⟨0, 0, none⟩) 4 (K0 + 4)) (heapOf [⟨intToks 0 4 0 ++ tl0, el0, 2, 1⟩]) = true := by kernel_rfl
theorem p347 (tl0 : List Value) (el0 K0 : Nat) : runp3 (4, 4) (1, 1) (5, 5) 4 (.slice (some ⟨0, 0, none⟩) 4 (K0 + 4)) (heapOf [⟨intToks 0 4 0 ++ tl0, el0, 2, 1⟩]) = true := by kernel_rfl
theorem p359 (tl0 : List Value) (el0 K0 : Nat) : runp3 (4, 4) (3, 3) (1, 1) 4 (.slice (some ⟨0, 0, none⟩) 4 (K0 + 4)) (heapOf [⟨intToks 0 4 0 ++ tl0, el0, 2, 1⟩]) = true := by kernel_rfl
theorem p371 (tl0 : List Value) (el0 K0 : Nat) : runp3 (4, 4) (4, 4) (5, 5) 4 (.slice (some ⟨0, 0, none⟩) 4 (K0 + 4)) (heapOf [⟨intToks 0 4 0 ++ tl0, el0, 2, 1⟩]) = true := by kernel_rfl
theorem p383 (tl0 : List Value) (el0 K0 : Nat) : runp3 (4, 4) (6, 6) (1, 1) 4 (.slice (some ⟨0, 0, none⟩) 4 (K0 + 4)) (heapOf [⟨intToks 0 4 0 ++ tl0, el0, 2, 1⟩]) = true := by kernel_rfl
theorem p395 (tl0 : List Value) (el0 K0 : Nat) : runp3 (4, 4) (7, 7) (5, 5) 4 (.slice (some ⟨0, 0, none⟩) 4 (K0 + 4)) (heapOf [⟨intToks 0 4 0 ++ tl0, el0, 2, 1⟩]) = true := by kernel_rfl
theorem p407 (tl0 : List Value) (el0 K0 : Nat) : runp3 (5, 5) (1, 1) (1, 1) 4 (.slice (some ⟨0, 0, none⟩) 4 (K0 + 4)) (heapOf [⟨intToks 0 4 0 ++ tl0, el0, 2, 1⟩]) = true := by kernel_rfl
theorem p419 (tl0 : List Value) (el0 K0 : Nat) : runp3 (5, 5) (2, 2) (5, 5) 4 (.slice (some ⟨0, 0, none⟩) 4 (K0 + 4)) (heapOf [⟨intToks 0 4 0 ++ tl0, el0, 2, 1⟩]) = true := by kernel_rfl
theorem p431 (tl0 : List Value) (el0 K0 : Nat) : runp3 (5, 5) (4, 4) (1, 1) 4 (.slice (some ⟨0, 0, none⟩) 4 (K0 + 4)) (heapOf [⟨intToks 0 4 0 ++ tl0, el0, 2, 1⟩]) = true := by kernel_rfl
theorem p443 (tl0 : List Value) (el0 K0 : Nat) : runp3 (5, 5) (5, 5) (5, 5) 4 (.slice (some ⟨0, 0, none⟩) 4 (K0 + 4)) (heapOf [⟨intToks 0 4 0 ++ tl0, el0, 2, 1⟩]) = true := by kernel_rfl
theorem p455 (tl0 : List Value) (el0 K0 : Nat) : runp3 (5, 5) (7, 7) (1, 1) 4 (.slice (some ⟨0, 0, none⟩) 4 (K0 + 4)) (heapOf [⟨intToks 0 4 0 ++ tl0, el0, 2, 1⟩]) = true := by kernel_rfl
theorem p467 (tl0 : List Value) (el0 K0 M0 : Nat) : runp3 (0, 0) (0, 0) (5, 5) 4 (.slice (some ⟨0, 0, none⟩) (M0 + 5) (K0 + (M0 + 5))) (heapOf [⟨intToks 0 4 0 ++ tl0, el0, 2, 1⟩]) = true := by kernel_rfl
theorem p479 (tl0 : List Value) (el0 K0 M0 : Nat) : runp3 (0, 0) (2, 2) (1, 1) 4 (.slice (some ⟨0, 0, none⟩) (M0 + 5) (K0 + (M0 + 5))) (heapOf [⟨intToks 0 4 0 ++ tl0, el0, 2, 1⟩]) = true := by kernel_rfl
theorem p491 (tl0 : List Value) (el0 K0 M0 : Nat) : runp3 (0, 0) (3, 3) (5, 5) 4 (.slice (some ⟨0, 0, none⟩) (M0 + 5) (K0 + (M0 + 5))) (heapOf [⟨intToks 0 4 0 ++ tl0, el0, 2, 1⟩]) = true := by kernel_rfl
theorem p503 (tl0 : List Value) (el0 K0 M0 : Nat) : runp3 (0, 0) (5, 5) (1, 1) 4 (.slice (some ⟨0, 0, none⟩) (M0 + 5) (K0 + (M0 + 5))) (heapOf [⟨intToks 0 4 0 ++ tl0, el0, 2, 1⟩]) = true := by kernel_rfl
theorem p515 (tl0 : List Value) (el0 K0 M0 : Nat) : runp3 (0, 0) (6, 6) (5, 5) 4 (.slice (some ⟨0, 0, none⟩) (M0 + 5) (K0 + (M0 + 5))) (heapOf [⟨intToks 0 4 0 ++ tl0, el0, 2, 1⟩]) = true := by kernel_rfl
theorem p527 (tl0 : List Value) (el0 K0 M0 : Nat) : runp3 (1, 1) (0, 0) (1, 1) 4 (.slice (some ⟨0, 0, none⟩) (M0 + 5) (K0 + (M0 + 5))) (heapOf [⟨intToks 0 4 0 ++ tl0, el0, 2, 1⟩]) = true := by kernel_rfl
theorem p539 (tl0 : List Value) (el0 K0 M0 : Nat) : runp3 (1, 1) (1, 1) (5, 5) 4 (.slice (some ⟨0, 0, none⟩) (M0 + 5) (K0 + (M0 + 5))) (heapOf [⟨intToks 0 4 0 ++ tl0, el0, 2, 1⟩]) = true := by kernel_rfl
theorem p551 (tl0 : List Value) (el0 K0 M0 : Nat) : runp3 (1, 1) (3, 3) (1, 1) 4 (.slice (some ⟨0, 0, none⟩) (M0 + 5) (K0 + (M0 + 5))) (heapOf [⟨intToks 0 4 0 ++ tl0, el0, 2, 1⟩]) = true := by kernel_rfl
theorem p563 (tl0 : List Value) (el0 K0 M0 : Nat) : runp3 (1, 1) (4, 4) (5, 5) 4 (.slice (some ⟨0, 0, none⟩) (M0 + 5) (K0 + (M0 + 5))) (heapOf [⟨intToks 0 4 0 ++ tl0, el0, 2, 1⟩]) = true := by kernel_rfl
theorem p575 (tl0 : List Value) (el0 K0 M0 : Nat) : runp3 (1, 1) (6, 6) (1, 1) 4 (.slice (some ⟨0, 0, none⟩) (M0 + 5) (K0 + (M0 + 5))) (heapOf [⟨intToks 0 4 0 ++ tl0, el0, 2, 1⟩]) = true := by kernel_rfl
theorem p587 (tl0 : List Value) (el0 K0 M0 : Nat) : runp3 (1, 1) (7, 7) (5, 5) 4 (.slice (some ⟨0, 0, none⟩) (M0 + 5) (K0 + (M0 + 5))) (heapOf [⟨intToks 0 4 0 ++ tl0, el0, 2, 1⟩]) = true := by kernel_rfl
theorem p599 (tl0 : List Value) (el0 K0 M0 : Nat) : runp3 (2, 2) (1, 1) (1, 1) 4 (.slice (some ⟨0, 0, none⟩) (M0 + 5) (K0 + (M0 + 5))) (heapOf [⟨intToks 0 4 0 ++ tl0, el0, 2, 1⟩]) = true := by kernel_rfl
theorem p611 (tl0 : List Value) (el0 K0 M0 : Nat) : runp3 (2, 2) (2, 2) (5, 5) 4 (.slice (some ⟨0, 0, none⟩) (M0 + 5) (K0 + (M0 + 5))) (heapOf [⟨intToks 0 4 0 ++ tl0, el0, 2, 1⟩]) = true := by kernel_rfl
theorem p623 (tl0 : List Value) (el0 K0 M0 : Nat) : runp3 (2, 2) (4, 4) (1, 1) 4 (.slice (some ⟨0, 0, none⟩) (M0 + 5) (K0 + (M0 + 5))) (heapOf [⟨intToks 0 4 0 ++ tl0, el0, 2, 1⟩]) = true := by kernel_rfl
theorem p635 (tl0 : List Value) (el0 K0 M0 : Nat) : runp3 (2, 2) (5, 5) (5, 5) 4 (.slice (some ⟨0, 0, none⟩) (M0 + 5) (K0 + (M0 + 5))) (heapOf [⟨intToks 0 4 0 ++ tl0, el0, 2, 1⟩]) = true := by kernel_rfl
theorem p647 (tl0 : List Value) (el0 K0 M0 : Nat) : runp3 (2, 2) (7, 7) (1, 1) 4 (.slice (some ⟨0, 0, none⟩) (M0 + 5) (K0 + (M0 + 5))) (heapOf [⟨intToks 0 4 0 ++ tl0, el0, 2, 1⟩]) = true := by kernel_rfl
theorem p659 (tl0 : List Value) (el0 K0 M0 : Nat) : runp3 (3, 3) (0, 0) (5, 5) 4 (.slice (some ⟨0, 0, none⟩) (M0 + 5) (K0 + (M0 + 5))) (heapOf [⟨intToks 0 4 0 ++ tl0, el0, 2, 1⟩]) = true := by kernel_rfl
theorem p671 (tl0 : List Value) (el0 K0 M0 : Nat) : runp3 (3, 3) (2, 2) (1, 1) 4 (.slice (some ⟨0, 0, none⟩) (M0 + 5) (K0 + (M0 + 5))) (heapOf [⟨intToks 0 4 0 ++ tl0, el0, 2, 1⟩]) = true := by kernel_rfl
theorem p683 (tl0 : List Value) (el0 K0 M0 : Nat) : runp3 (3, 3) (3, 3) (5, 5) 4 (.slice (some ⟨0, 0, none⟩) (M0 + 5) (K0 + (M0 + 5))) (heapOf [⟨intToks 0 4 0 ++ tl0, el0, 2, 1⟩]) = true := by kernel_rfl
theorem p695 (tl0 : List Value) (el0 K0 M0 : Nat) : runp3 (3, 3) (5, 5) (1, 1) 4 (.slice (some ⟨0, 0, none⟩) (M0 + 5) (K0 + (M0 + 5))) (heapOf [⟨intToks 0 4 0 ++ tl0, el0, 2, 1⟩]) = true := by kernel_rfl
theorem p707 (tl0 : List Value) (el0 K0 M0 : Nat) : runp3 (3, 3) (6, 6) (5, 5) 4 (.slice (some ⟨0, 0, none⟩) (M0 + 5) (K0 + (M0 + 5))) (heapOf [⟨intToks 0 4 0 ++ tl0, el0, 2, 1⟩]) = true := by kernel_rfl
theorem p719 (tl0 : List Value) (el0 K0 M0 : Nat) : runp3 (4, 4) (0, 0) (1, 1) 4 (.slice (some ⟨0, 0, none⟩) (M0 + 5) (K0 + (M0 + 5))) (heapOf [⟨intToks 0 4 0 ++ tl0, el0, 2, 1⟩]) = true := by kernel_rfl
theorem p731 (tl0 : List Value) (el0 K0 M0 : Nat) : runp3 (4, 4) (1, 1) (5, 5) 4 (.slice (some ⟨0, 0, none⟩) (M0 + 5) (K0 + (M0 + 5))) (heapOf [⟨intToks 0 4 0 ++ tl0, el0, 2, 1⟩]) = true := by kernel_rfl
theorem p743 (tl0 : List Value) (el0 K0 M0 : Nat) : runp3 (4, 4) (3, 3) (1, 1) 4 (.slice (some ⟨0, 0, none⟩) (M0 + 5) (K0 + (M0 + 5))) (heapOf [⟨intToks 0 4 0 ++ tl0, el0, 2, 1⟩]) = true := by kernel_rfl
theorem p755 (tl0 : List Value) (el0 K0 M0 : Nat) : runp3 (4, 4) (4, 4) (5, 5) 4 (.slice (some ⟨0, 0, none⟩) (M0 + 5) (K0 + (M0 + 5))) (heapOf [⟨intToks 0 4 0 ++ tl0, el0, 2, 1⟩]) = true := by kernel_rfl
theorem p767 (tl0 : List Value) (el0 K0 M0 : Nat) : runp3 (4, 4) (6, 6) (1, 1) 4 (.slice (some ⟨0, 0, none⟩) (M0 + 5) (K0 + (M0 + 5))) (heapOf [⟨intToks 0 4 0 ++ tl0, el0, 2, 1⟩]) = true := by kernel_rfl
theorem p779 (tl0 : List Value) (el0 K0 M0 : Nat) : runp3 (4, 4) (7, 7) (5, 5) 4 (.slice (some ⟨0, 0, none⟩) (M0 + 5) (K0 + (M0 + 5))) (heapOf [⟨intToks 0 4 0 ++ tl0, el0, 2, 1⟩]) = true := by kernel_rfl
theorem p791 (tl0 : List Value) (el0 K0 M0 : Nat) : runp3 (5, 5) (1, 1) (1, 1) 4 (.slice (some ⟨0, 0, none⟩) (M0 + 5) (K0 + (M0 + 5))) (heapOf [⟨intToks 0 4 0 ++ tl0, el0, 2, 1⟩]) = true := by kernel_rfl
theorem p803 (tl0 : List Value) (el0 K0 M0 : Nat) : runp3 (5, 5) (2, 2) (5, 5) 4 (.slice (some ⟨0, 0, none⟩) (M0 + 5) (K0 + (M0 + 5))) (heapOf [⟨intToks 0 4 0 ++ tl0, el0, 2, 1⟩]) = true := by kernel_rfl
theorem p815 (tl0 : List Value) (el0 K0 M0 : Nat) : runp3 (5, 5) (4, 4) (1, 1) 4 (.slice (some ⟨0, 0, none⟩) (M0 + 5) (K0 + (M0 + 5))) (heapOf [⟨intToks 0 4 0 ++ tl0, el0, 2, 1⟩]) = true := by kernel_rfl
theorem p827 (tl0 : List Value) (el0 K0 M0 : Nat) : runp3 (5, 5) (5, 5) (5, 5) 4 (.slice (some ⟨0, 0, none⟩) (M0 + 5) (K0 + (M0 + 5))) (heapOf [⟨intToks 0 4 0 ++ tl0, el0, 2, 1⟩]) = true := by kernel_rfl
theorem p839 (tl0 : List Value) (el0 K0 M0 : Nat) : runp3 (5, 5) (7, 7) (1, 1) 4 (.slice (some ⟨0, 0, none⟩) (M0 + 5) (K0 + (M0 + 5))) (heapOf [⟨intToks 0 4 0 ++ tl0, el0, 2, 1⟩]) = true := by kernel_rfl
end Go.Proofs.Ytlljepgfecodoaa.answerAll
