/- What the plain terms find of AtomicCleans: a part of the cases. -/
import Derived.Test.YtfibgjognhimmaaACWD
namespace Go.Proofs.Ytfibgjognhimmaa.atomicCleans
set_option maxRecDepth 1000000
theorem all0 : (run 0 (.slice none 0 0) (heapOf [])) = true := by kernel_rfl
theorem all1 (tl0 : List Value) (el0 : Nat) : (run 0 (.slice (some ⟨0, 0, none⟩) 0 (0 + 0)) (heapOf [⟨byteToks 0 0 0 ++ tl0, el0, 2, 1⟩])) = true := by kernel_rfl
theorem all2 (tl0 : List Value) (el0 K0 : Nat) : (run 0 (.slice (some ⟨0, 0, none⟩) 0 ((K0 + 1) + 0)) (heapOf [⟨byteToks 0 0 0 ++ tl0, el0, 2, 1⟩])) = true := by kernel_rfl
theorem all3 (tl0 : List Value) (el0 K0 : Nat) : ((List.range' 1 1).all fun N0 => run N0 (.slice (some ⟨0, 0, none⟩) N0 (K0 + N0)) (heapOf [⟨byteToks 0 N0 0 ++ tl0, el0, 2, 1⟩])) = true := by kernel_rfl
end Go.Proofs.Ytfibgjognhimmaa.atomicCleans
