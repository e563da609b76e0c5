/- What the plain terms find of AtomicCleans: a part of the cases. -/
import Derived.Test.YtfibgjognhimmaaACWD
namespace Go.Proofs.Ytfibgjognhimmaa.atomicCleans
set_option maxRecDepth 1000000
theorem all20 (tl0 : List Value) (el0 K0 : Nat) : ((List.range' 18 1).all fun N0 => run N0 (.slice (some ⟨0, 0, none⟩) N0 (K0 + N0)) (heapOf [⟨byteToks 0 N0 0 ++ tl0, el0, 2, 1⟩])) = true := by kernel_rfl
theorem all21 (tl0 : List Value) (el0 K0 : Nat) : ((List.range' 19 1).all fun N0 => run N0 (.slice (some ⟨0, 0, none⟩) N0 (K0 + N0)) (heapOf [⟨byteToks 0 N0 0 ++ tl0, el0, 2, 1⟩])) = true := by kernel_rfl
theorem all22 (tl0 : List Value) (el0 K0 : Nat) : ((List.range' 20 1).all fun N0 => run N0 (.slice (some ⟨0, 0, none⟩) N0 (K0 + N0)) (heapOf [⟨byteToks 0 N0 0 ++ tl0, el0, 2, 1⟩])) = true := by kernel_rfl
theorem all23 (tl0 : List Value) (el0 K0 M0 : Nat) : (run 20 (.slice (some ⟨0, 0, none⟩) (M0 + 21) (K0 + (M0 + 21))) (heapOf [⟨byteToks 0 20 0 ++ tl0, el0, 2, 1⟩])) = true := by kernel_rfl
end Go.Proofs.Ytfibgjognhimmaa.atomicCleans
