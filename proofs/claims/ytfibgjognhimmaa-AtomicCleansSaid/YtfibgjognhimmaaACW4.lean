/- What the plain terms find of AtomicCleans: a part of the cases. -/
import Derived.Test.YtfibgjognhimmaaACWD
namespace Go.Proofs.Ytfibgjognhimmaa.atomicCleans
set_option maxRecDepth 1000000
theorem all16 (tl0 : List Value) (el0 K0 : Nat) : ((List.range' 14 1).all fun N0 => run N0 (.slice (some ⟨0, 0, none⟩) N0 (K0 + N0)) (heapOf [⟨byteToks 0 N0 0 ++ tl0, el0, 2, 1⟩])) = true := by kernel_rfl
theorem all17 (tl0 : List Value) (el0 K0 : Nat) : ((List.range' 15 1).all fun N0 => run N0 (.slice (some ⟨0, 0, none⟩) N0 (K0 + N0)) (heapOf [⟨byteToks 0 N0 0 ++ tl0, el0, 2, 1⟩])) = true := by kernel_rfl
theorem all18 (tl0 : List Value) (el0 K0 : Nat) : ((List.range' 16 1).all fun N0 => run N0 (.slice (some ⟨0, 0, none⟩) N0 (K0 + N0)) (heapOf [⟨byteToks 0 N0 0 ++ tl0, el0, 2, 1⟩])) = true := by kernel_rfl
theorem all19 (tl0 : List Value) (el0 K0 : Nat) : ((List.range' 17 1).all fun N0 => run N0 (.slice (some ⟨0, 0, none⟩) N0 (K0 + N0)) (heapOf [⟨byteToks 0 N0 0 ++ tl0, el0, 2, 1⟩])) = true := by kernel_rfl
end Go.Proofs.Ytfibgjognhimmaa.atomicCleans
