/- What the plain terms find of AnswerAll: a part of the cases. -/
import Derived.Test.YtlljepgfecodoaaAAWE
namespace Go.Proofs.Ytlljepgfecodoaa.answerAll
set_option maxRecDepth 1000000
set_option linter.unusedVariables false
theorem p7 (tl0 : List Value) (el0 : Nat) : runp1 (1, 1) 0 (.slice (some ⟨0, 0, none⟩) 0 (0 + 0)) (heapOf [⟨intToks 0 0 0 ++ tl0, el0, 2, 1⟩]) = true := by kernel_rfl
theorem p19 (tl0 : List Value) (el0 K0 : Nat) : runp1 (1, 1) 1 (.slice (some ⟨0, 0, none⟩) 1 (K0 + 1)) (heapOf [⟨intToks 0 1 0 ++ tl0, el0, 2, 1⟩]) = true := by kernel_rfl
theorem p31 (tl0 : List Value) (el0 K0 : Nat) : runp2 (0, 0) (1, 1) 3 (.slice (some ⟨0, 0, none⟩) 3 (K0 + 3)) (heapOf [⟨intToks 0 3 0 ++ tl0, el0, 2, 1⟩]) = true := by kernel_rfl
theorem p43 (tl0 : List Value) (el0 K0 : Nat) : runp2 (1, 1) (5, 5) 3 (.slice (some ⟨0, 0, none⟩) 3 (K0 + 3)) (heapOf [⟨intToks 0 3 0 ++ tl0, el0, 2, 1⟩]) = true := by kernel_rfl
theorem p55 (tl0 : List Value) (el0 K0 : Nat) : runp2 (3, 3) (1, 1) 3 (.slice (some ⟨0, 0, none⟩) 3 (K0 + 3)) (heapOf [⟨intToks 0 3 0 ++ tl0, el0, 2, 1⟩]) = true := by kernel_rfl
theorem p67 (tl0 : List Value) (el0 K0 : Nat) : runp2 (4, 4) (5, 5) 3 (.slice (some ⟨0, 0, none⟩) 3 (K0 + 3)) (heapOf [⟨intToks 0 3 0 ++ tl0, el0, 2, 1⟩]) = true := by kernel_rfl
theorem p79 (tl0 : List Value) (el0 K0 : Nat) : runp3 (0, 0) (0, 0) (1, 1) 4 (.slice (some ⟨0, 0, none⟩) 4 (K0 + 4)) (heapOf [⟨intToks 0 4 0 ++ tl0, el0, 2, 1⟩]) = true := by kernel_rfl
theorem p91 (tl0 : List Value) (el0 K0 : Nat) : runp3 (0, 0) (1, 1) (5, 5) 4 (.slice (some ⟨0, 0, none⟩) 4 (K0 + 4)) (heapOf [⟨intToks 0 4 0 ++ tl0, el0, 2, 1⟩]) = true := by kernel_rfl
theorem p103 (tl0 : List Value) (el0 K0 : Nat) : runp3 (0, 0) (3, 3) (1, 1) 4 (.slice (some ⟨0, 0, none⟩) 4 (K0 + 4)) (heapOf [⟨intToks 0 4 0 ++ tl0, el0, 2, 1⟩]) = true := by kernel_rfl
theorem p115 (tl0 : List Value) (el0 K0 : Nat) : runp3 (0, 0) (4, 4) (5, 5) 4 (.slice (some ⟨0, 0, none⟩) 4 (K0 + 4)) (heapOf [⟨intToks 0 4 0 ++ tl0, el0, 2, 1⟩]) = true := by kernel_rfl
theorem p127 (tl0 : List Value) (el0 K0 : Nat) : runp3 (0, 0) (6, 6) (1, 1) 4 (.slice (some ⟨0, 0, none⟩) 4 (K0 + 4)) (heapOf [⟨intToks 0 4 0 ++ tl0, el0, 2, 1⟩]) = true := by kernel_rfl
theorem p139 (tl0 : List Value) (el0 K0 : Nat) : runp3 (0, 0) (7, 7) (5, 5) 4 (.slice (some ⟨0, 0, none⟩) 4 (K0 + 4)) (heapOf [⟨intToks 0 4 0 ++ tl0, el0, 2, 1⟩]) = true := by kernel_rfl
theorem p151 (tl0 : List Value) (el0 K0 : Nat) : runp3 (1, 1) (1, 1) (1, 1) 4 (.slice (some ⟨0, 0, none⟩) 4 (K0 + 4)) (heapOf [⟨intToks 0 4 0 ++ tl0, el0, 2, 1⟩]) = true := by kernel_rfl
theorem p163 (tl0 : List Value) (el0 K0 : Nat) : runp3 (1, 1) (2, 2) (5, 5) 4 (.slice (some ⟨0, 0, none⟩) 4 (K0 + 4)) (heapOf [⟨intToks 0 4 0 ++ tl0, el0, 2, 1⟩]) = true := by kernel_rfl
theorem p175 (tl0 : List Value) (el0 K0 : Nat) : runp3 (1, 1) (4, 4) (1, 1) 4 (.slice (some ⟨0, 0, none⟩) 4 (K0 + 4)) (heapOf [⟨intToks 0 4 0 ++ tl0, el0, 2, 1⟩]) = true := by kernel_rfl
theorem p187 (tl0 : List Value) (el0 K0 : Nat) : runp3 (1, 1) (5, 5) (5, 5) 4 (.slice (some ⟨0, 0, none⟩) 4 (K0 + 4)) (heapOf [⟨intToks 0 4 0 ++ tl0, el0, 2, 1⟩]) = true := by kernel_rfl
theorem p199 (tl0 : List Value) (el0 K0 : Nat) : runp3 (1, 1) (7, 7) (1, 1) 4 (.slice (some ⟨0, 0, none⟩) 4 (K0 + 4)) (heapOf [⟨intToks 0 4 0 ++ tl0, el0, 2, 1⟩]) = true := by kernel_rfl
theorem p211 (tl0 : List Value) (el0 K0 : Nat) : runp3 (2, 2) (0, 0) (5, 5) 4 (.slice (some ⟨0, 0, none⟩) 4 (K0 + 4)) (heapOf [⟨intToks 0 4 0 ++ tl0, el0, 2, 1⟩]) = true := by kernel_rfl
theorem p223 (tl0 : List Value) (el0 K0 : Nat) : runp3 (2, 2) (2, 2) (1, 1) 4 (.slice (some ⟨0, 0, none⟩) 4 (K0 + 4)) (heapOf [⟨intToks 0 4 0 ++ tl0, el0, 2, 1⟩]) = true := by kernel_rfl
theorem p235 (tl0 : List Value) (el0 K0 : Nat) : runp3 (2, 2) (3, 3) (5, 5) 4 (.slice (some ⟨0, 0, none⟩) 4 (K0 + 4)) (heapOf [⟨intToks 0 4 0 ++ tl0, el0, 2, 1⟩]) = true := by kernel_rfl
theorem p247 (tl0 : List Value) (el0 K0 : Nat) : runp3 (2, 2) (5, 5) (1, 1) 4 (.slice (some ⟨0, 0, none⟩) 4 (K0 + 4)) (heapOf [⟨intToks 0 4 0 ++ tl0, el0, 2, 1⟩]) = true := by kernel_rfl
theorem p259 (tl0 : List Value) (el0 K0 : Nat) : runp3 (2, 2) (6, 6) (5, 5) 4 (.slice (some ⟨0, 0, none⟩) 4 (K0 + 4)) (heapOf [⟨intToks 0 4 0 ++ tl0, el0, 2, 1⟩]) = true := by kernel_rfl
theorem p271 (tl0 : List Value) (el0 K0 : Nat) : runp3 (3, 3) (0, 0) (1, 1) 4 (.slice (some ⟨0, 0, none⟩) 4 (K0 + 4)) (heapOf [⟨intToks 0 4 0 ++ tl0, el0, 2, 1⟩]) = true := by kernel_rfl
theorem p283 (tl0 : List Value) (el0 K0 : Nat) : runp3 (3, 3) (1, 1) (5, 5) 4 (.slice (some ⟨0, 0, none⟩) 4 (K0 + 4)) (heapOf [⟨intToks 0 4 0 ++ tl0, el0, 2, 1⟩]) = true := by kernel_rfl
theorem p295 (tl0 : List Value) (el0 K0 : Nat) : runp3 (3, 3) (3, 3) (1, 1) 4 (.slice (some ⟨0, 0, none⟩) 4 (K0 + 4)) (heapOf [⟨intToks 0 4 0 ++ tl0, el0, 2, 1⟩]) = true := by kernel_rfl
theorem p307 (tl0 : List Value) (el0 K0 : Nat) : runp3 (3, 3) (4, 4) (5, 5) 4 (.slice (some ⟨0, 0, none⟩) 4 (K0 + 4)) (heapOf [⟨intToks 0 4 0 ++ tl0, el0, 2, 1⟩]) = true := by kernel_rfl
theorem p319 (tl0 : List Value) (el0 K0 : Nat) : runp3 (3, 3) (6, 6) (1, 1) 4 (.slice (some ⟨0, 0, none⟩) 4 (K0 + 4)) (heapOf [⟨intToks 0 4 0 ++ tl0, el0, 2, 1⟩]) = true := by kernel_rfl
theorem p331 (tl0 : List Value) (el0 K0 : Nat) : runp3 (3, 3) (7, 7) (5, 5) 4 (.slice (some ⟨0, 0, none⟩) 4 (K0 + 4)) (heapOf [⟨intToks 0 4 0 ++ tl0, el0, 2, 1⟩]) = true := by kernel_rfl
theorem p343 (tl0 : List Value) (el0 K0 : Nat) : runp3 (4, 4) (1, 1) (1, 1) 4 (.slice (some ⟨0, 0, none⟩) 4 (K0 + 4)) (heapOf [⟨intToks 0 4 0 ++ tl0, el0, 2, 1⟩]) = true := by kernel_rfl
theorem p355 (tl0 : List Value) (el0 K0 : Nat) : runp3 (4, 4) (2, 2) (5, 5) 4 (.slice (some ⟨0, 0, none⟩) 4 (K0 + 4)) (heapOf [⟨intToks 0 4 0 ++ tl0, el0, 2, 1⟩]) = true := by kernel_rfl
theorem p367 (tl0 : List Value) (el0 K0 : Nat) : runp3 (4, 4) (4, 4) (1, 1) 4 (.slice (some ⟨0, 0, none⟩) 4 (K0 + 4)) (heapOf [⟨intToks 0 4 0 ++ tl0, el0, 2, 1⟩]) = true := by kernel_rfl
theorem p379 (tl0 : List Value) (el0 K0 : Nat) : runp3 (4, 4) (5, 5) (5, 5) 4 (.slice (some ⟨0, 0, none⟩) 4 (K0 + 4)) (heapOf [⟨intToks 0 4 0 ++ tl0, el0, 2, 1⟩]) = true := by kernel_rfl
theorem p391 (tl0 : List Value) (el0 K0 : Nat) : runp3 (4, 4) (7, 7) (1, 1) 4 (.slice (some ⟨0, 0, none⟩) 4 (K0 + 4)) (heapOf [⟨intToks 0 4 0 ++ tl0, el0, 2, 1⟩]) = true := by kernel_rfl
theorem p403 (tl0 : List Value) (el0 K0 : Nat) : runp3 (5, 5) (0, 0) (5, 5) 4 (.slice (some ⟨0, 0, none⟩) 4 (K0 + 4)) (heapOf [⟨intToks 0 4 0 ++ tl0, el0, 2, 1⟩]) = true := by kernel_rfl
theorem p415 (tl0 : List Value) (el0 K0 : Nat) : runp3 (5, 5) (2, 2) (1, 1) 4 (.slice (some ⟨0, 0, none⟩) 4 (K0 + 4)) (heapOf [⟨intToks 0 4 0 ++ tl0, el0, 2, 1⟩]) = true := by kernel_rfl
theorem p427 (tl0 : List Value) (el0 K0 : Nat) : runp3 (5, 5) (3, 3) (5, 5) 4 (.slice (some ⟨0, 0, none⟩) 4 (K0 + 4)) (heapOf [⟨intToks 0 4 0 ++ tl0, el0, 2, 1⟩]) = true := by kernel_rfl
theorem p439 (tl0 : List Value) (el0 K0 : Nat) : runp3 (5, 5) (5, 5) (1, 1) 4 (.slice (some ⟨0, 0, none⟩) 4 (K0 + 4)) (heapOf [⟨intToks 0 4 0 ++ tl0, el0, 2, 1⟩]) = true := by kernel_rfl
theorem p451 (tl0 : List Value) (el0 K0 : Nat) : runp3 (5, 5) (6, 6) (5, 5) 4 (.slice (some ⟨0, 0, none⟩) 4 (K0 + 4)) (heapOf [⟨intToks 0 4 0 ++ tl0, el0, 2, 1⟩]) = true := by kernel_rfl
theorem p463 (tl0 : List Value) (el0 K0 M0 : Nat) : runp3 (0, 0) (0, 0) (1, 1) 4 (.slice (some ⟨0, 0, none⟩) (M0 + 5) (K0 + (M0 + 5))) (heapOf [⟨intToks 0 4 0 ++ tl0, el0, 2, 1⟩]) = true := by kernel_rfl
theorem p475 (tl0 : List Value) (el0 K0 M0 : Nat) : runp3 (0, 0) (1, 1) (5, 5) 4 (.slice (some ⟨0, 0, none⟩) (M0 + 5) (K0 + (M0 + 5))) (heapOf [⟨intToks 0 4 0 ++ tl0, el0, 2, 1⟩]) = true := by kernel_rfl
theorem p487 (tl0 : List Value) (el0 K0 M0 : Nat) : runp3 (0, 0) (3, 3) (1, 1) 4 (.slice (some ⟨0, 0, none⟩) (M0 + 5) (K0 + (M0 + 5))) (heapOf [⟨intToks 0 4 0 ++ tl0, el0, 2, 1⟩]) = true := by kernel_rfl
theorem p499 (tl0 : List Value) (el0 K0 M0 : Nat) : runp3 (0, 0) (4, 4) (5, 5) 4 (.slice (some ⟨0, 0, none⟩) (M0 + 5) (K0 + (M0 + 5))) (heapOf [⟨intToks 0 4 0 ++ tl0, el0, 2, 1⟩]) = true := by kernel_rfl
theorem p511 (tl0 : List Value) (el0 K0 M0 : Nat) : runp3 (0, 0) (6, 6) (1, 1) 4 (.slice (some ⟨0, 0, none⟩) (M0 + 5) (K0 + (M0 + 5))) (heapOf [⟨intToks 0 4 0 ++ tl0, el0, 2, 1⟩]) = true := by kernel_rfl
theorem p523 (tl0 : List Value) (el0 K0 M0 : Nat) : runp3 (0, 0) (7, 7) (5, 5) 4 (.slice (some ⟨0, 0, none⟩) (M0 + 5) (K0 + (M0 + 5))) (heapOf [⟨intToks 0 4 0 ++ tl0, el0, 2, 1⟩]) = true := by kernel_rfl
theorem p535 (tl0 : List Value) (el0 K0 M0 : Nat) : runp3 (1, 1) (1, 1) (1, 1) 4 (.slice (some ⟨0, 0, none⟩) (M0 + 5) (K0 + (M0 + 5))) (heapOf [⟨intToks 0 4 0 ++ tl0, el0, 2, 1⟩]) = true := by kernel_rfl
theorem p547 (tl0 : List Value) (el0 K0 M0 : Nat) : runp3 (1, 1) (2, 2) (5, 5) 4 (.slice (some ⟨0, 0, none⟩) (M0 + 5) (K0 + (M0 + 5))) (heapOf [⟨intToks 0 4 0 ++ tl0, el0, 2, 1⟩]) = true := by kernel_rfl
theorem p559 (tl0 : List Value) (el0 K0 M0 : Nat) : runp3 (1, 1) (4, 4) (1, 1) 4 (.slice (some ⟨0, 0, none⟩) (M0 + 5) (K0 + (M0 + 5))) (heapOf [⟨intToks 0 4 0 ++ tl0, el0, 2, 1⟩]) = true := by kernel_rfl
theorem p571 (tl0 : List Value) (el0 K0 M0 : Nat) : runp3 (1, 1) (5, 5) (5, 5) 4 (.slice (some ⟨0, 0, none⟩) (M0 + 5) (K0 + (M0 + 5))) (heapOf [⟨intToks 0 4 0 ++ tl0, el0, 2, 1⟩]) = true := by kernel_rfl
theorem p583 (tl0 : List Value) (el0 K0 M0 : Nat) : runp3 (1, 1) (7, 7) (1, 1) 4 (.slice (some ⟨0, 0, none⟩) (M0 + 5) (K0 + (M0 + 5))) (heapOf [⟨intToks 0 4 0 ++ tl0, el0, 2, 1⟩]) = true := by kernel_rfl
theorem p595 (tl0 : List Value) (el0 K0 M0 : Nat) : runp3 (2, 2) (0, 0) (5, 5) 4 (.slice (some ⟨0, 0, none⟩) (M0 + 5) (K0 + (M0 + 5))) (heapOf [⟨intToks 0 4 0 ++ tl0, el0, 2, 1⟩]) = true := by kernel_rfl
theorem p607 (tl0 : List Value) (el0 K0 M0 : Nat) : runp3 (2, 2) (2, 2) (1, 1) 4 (.slice (some ⟨0, 0, none⟩) (M0 + 5) (K0 + (M0 + 5))) (heapOf [⟨intToks 0 4 0 ++ tl0, el0, 2, 1⟩]) = true := by kernel_rfl
theorem p619 (tl0 : List Value) (el0 K0 M0 : Nat) : runp3 (2, 2) (3, 3) (5, 5) 4 (.slice (some ⟨0, 0, none⟩) (M0 + 5) (K0 + (M0 + 5))) (heapOf [⟨intToks 0 4 0 ++ tl0, el0, 2, 1⟩]) = true := by kernel_rfl
theorem p631 (tl0 : List Value) (el0 K0 M0 : Nat) : runp3 (2, 2) (5, 5) (1, 1) 4 (.slice (some ⟨0, 0, none⟩) (M0 + 5) (K0 + (M0 + 5))) (heapOf [⟨intToks 0 4 0 ++ tl0, el0, 2, 1⟩]) = true := by kernel_rfl
theorem p643 (tl0 : List Value) (el0 K0 M0 : Nat) : runp3 (2, 2) (6, 6) (5, 5) 4 (.slice (some ⟨0, 0, none⟩) (M0 + 5) (K0 + (M0 + 5))) (heapOf [⟨intToks 0 4 0 ++ tl0, el0, 2, 1⟩]) = true := by kernel_rfl
theorem p655 (tl0 : List Value) (el0 K0 M0 : Nat) : runp3 (3, 3) (0, 0) (1, 1) 4 (.slice (some ⟨0, 0, none⟩) (M0 + 5) (K0 + (M0 + 5))) (heapOf [⟨intToks 0 4 0 ++ tl0, el0, 2, 1⟩]) = true := by kernel_rfl
theorem p667 (tl0 : List Value) (el0 K0 M0 : Nat) : runp3 (3, 3) (1, 1) (5, 5) 4 (.slice (some ⟨0, 0, none⟩) (M0 + 5) (K0 + (M0 + 5))) (heapOf [⟨intToks 0 4 0 ++ tl0, el0, 2, 1⟩]) = true := by kernel_rfl
theorem p679 (tl0 : List Value) (el0 K0 M0 : Nat) : runp3 (3, 3) (3, 3) (1, 1) 4 (.slice (some ⟨0, 0, none⟩) (M0 + 5) (K0 + (M0 + 5))) (heapOf [⟨intToks 0 4 0 ++ tl0, el0, 2, 1⟩]) = true := by kernel_rfl
theorem p691 (tl0 : List Value) (el0 K0 M0 : Nat) : runp3 (3, 3) (4, 4) (5, 5) 4 (.slice (some ⟨0, 0, none⟩) (M0 + 5) (K0 + (M0 + 5))) (heapOf [⟨intToks 0 4 0 ++ tl0, el0, 2, 1⟩]) = true := by kernel_rfl
theorem p703 (tl0 : List Value) (el0 K0 M0 : Nat) : runp3 (3, 3) (6, 6) (1, 1) 4 (.slice (some ⟨0, 0, none⟩) (M0 + 5) (K0 + (M0 + 5))) (heapOf [⟨intToks 0 4 0 ++ tl0, el0, 2, 1⟩]) = true := by kernel_rfl
theorem p715 (tl0 : List Value) (el0 K0 M0 : Nat) : runp3 (3, 3) (7, 7) (5, 5) 4 (.slice (some ⟨0, 0, none⟩) (M0 + 5) (K0 + (M0 + 5))) (heapOf [⟨intToks 0 4 0 ++ tl0, el0, 2, 1⟩]) = true := by kernel_rfl
theorem p727 (tl0 : List Value) (el0 K0 M0 : Nat) : runp3 (4, 4) (1, 1) (1, 1) 4 (.slice (some ⟨0, 0, none⟩) (M0 + 5) (K0 + (M0 + 5))) (heapOf [⟨intToks 0 4 0 ++ tl0, el0, 2, 1⟩]) = true := by kernel_rfl
theorem p739 (tl0 : List Value) (el0 K0 M0 : Nat) : runp3 (4, 4) (2, 2) (5, 5) 4 (.slice (some ⟨0, 0, none⟩) (M0 + 5) (K0 + (M0 + 5))) (heapOf [⟨intToks 0 4 0 ++ tl0, el0, 2, 1⟩]) = true := by kernel_rfl
theorem p751 (tl0 : List Value) (el0 K0 M0 : Nat) : runp3 (4, 4) (4, 4) (1, 1) 4 (.slice (some ⟨0, 0, none⟩) (M0 + 5) (K0 + (M0 + 5))) (heapOf [⟨intToks 0 4 0 ++ tl0, el0, 2, 1⟩]) = true := by kernel_rfl
theorem p763 (tl0 : List Value) (el0 K0 M0 : Nat) : runp3 (4, 4) (5, 5) (5, 5) 4 (.slice (some ⟨0, 0, none⟩) (M0 + 5) (K0 + (M0 + 5))) (heapOf [⟨intToks 0 4 0 ++ tl0, el0, 2, 1⟩]) = true := by kernel_rfl
theorem p775 (tl0 : List Value) (el0 K0 M0 : Nat) : runp3 (4, 4) (7, 7) (1, 1) 4 (.slice (some ⟨0, 0, none⟩) (M0 + 5) (K0 + (M0 + 5))) (heapOf [⟨intToks 0 4 0 ++ tl0, el0, 2, 1⟩]) = true := by kernel_rfl
theorem p787 (tl0 : List Value) (el0 K0 M0 : Nat) : runp3 (5, 5) (0, 0) (5, 5) 4 (.slice (some ⟨0, 0, none⟩) (M0 + 5) (K0 + (M0 + 5))) (heapOf [⟨intToks 0 4 0 ++ tl0, el0, 2, 1⟩]) = true := by kernel_rfl
theorem p799 (tl0 : List Value) (el0 K0 M0 : Nat) : runp3 (5, 5) (2, 2) (1, 1) 4 (.slice (some ⟨0, 0, none⟩) (M0 + 5) (K0 + (M0 + 5))) (heapOf [⟨intToks 0 4 0 ++ tl0, el0, 2, 1⟩]) = true := by kernel_rfl
theorem p811 (tl0 : List Value) (el0 K0 M0 : Nat) : runp3 (5, 5) (3, 3) (5, 5) 4 (.slice (some ⟨0, 0, none⟩) (M0 + 5) (K0 + (M0 + 5))) (heapOf [⟨intToks 0 4 0 ++ tl0, el0, 2, 1⟩]) = true := by kernel_rfl
theorem p823 (tl0 : List Value) (el0 K0 M0 : Nat) : runp3 (5, 5) (5, 5) (1, 1) 4 (.slice (some ⟨0, 0, none⟩) (M0 + 5) (K0 + (M0 + 5))) (heapOf [⟨intToks 0 4 0 ++ tl0, el0, 2, 1⟩]) = true := by kernel_rfl
theorem p835 (tl0 : List Value) (el0 K0 M0 : Nat) : runp3 (5, 5) (6, 6) (5, 5) 4 (.slice (some ⟨0, 0, none⟩) (M0 + 5) (K0 + (M0 + 5))) (heapOf [⟨intToks 0 4 0 ++ tl0, el0, 2, 1⟩]) = true := by kernel_rfl
end Go.Proofs.Ytlljepgfecodoaa.answerAll
