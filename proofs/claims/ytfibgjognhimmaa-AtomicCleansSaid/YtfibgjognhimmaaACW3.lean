/- What the plain terms find of AtomicCleans: a part of the cases. -/
import Derived.Test.YtfibgjognhimmaaACWD
namespace Go.Proofs.Ytfibgjognhimmaa.atomicCleans
set_option maxRecDepth 1000000
theorem all12 (tl0 : List Value) (el0 K0 : Nat) : ((List.range' 10 1).all fun N0 => run N0 (.slice (some ⟨0, 0, none⟩) N0 (K0 + N0)) (heapOf [⟨byteToks 0 N0 0 ++ tl0, el0, 2, 1⟩])) = true := by kernel_rfl
theorem all13 (tl0 : List Value) (el0 K0 : Nat) : ((List.range' 11 1).all fun N0 => run N0 (.slice (some ⟨0, 0, none⟩) N0 (K0 + N0)) (heapOf [⟨byteToks 0 N0 0 ++ tl0, el0, 2, 1⟩])) = true := by kernel_rfl
theorem all14 (tl0 : List Value) (el0 K0 : Nat) : ((List.range' 12 1).all fun N0 => run N0 (.slice (some ⟨0, 0, none⟩) N0 (K0 + N0)) (heapOf [⟨byteToks 0 N0 0 ++ tl0, el0, 2, 1⟩])) = true := by kernel_rfl
theorem all15 (tl0 : List Value) (el0 K0 : Nat) : ((List.range' 13 1).all fun N0 => run N0 (.slice (some ⟨0, 0, none⟩) N0 (K0 + N0)) (heapOf [⟨byteToks 0 N0 0 ++ tl0, el0, 2, 1⟩])) = true := by kernel_rfl
end Go.Proofs.Ytfibgjognhimmaa.atomicCleans
