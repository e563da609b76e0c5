/- What the plain terms find of AtomicFull: a part of the cases. -/
import Derived.Test.YtfibgjognhimmaaALWD
namespace Go.Proofs.Ytfibgjognhimmaa.atomicFull
set_option maxRecDepth 1000000
theorem all126 (tl0 : List Value) (el0 K0 M0 : Nat) (tl1 : List Value) (el1 K1 : Nat) : ((List.range' 1 10).all fun N1 => run 30 N1 (.slice (some ⟨0, 0, none⟩) (M0 + 31) (K0 + (M0 + 31))) (.slice (some ⟨1, 0, none⟩) N1 (K1 + N1)) (heapOf [⟨byteToks 0 30 0 ++ tl0, el0, 2, 1⟩, ⟨byteToks 1 N1 0 ++ tl1, el1, 2, 1⟩])) = true := by kernel_rfl
theorem all127 (tl0 : List Value) (el0 K0 M0 : Nat) (tl1 : List Value) (el1 K1 : Nat) : ((List.range' 11 10).all fun N1 => run 30 N1 (.slice (some ⟨0, 0, none⟩) (M0 + 31) (K0 + (M0 + 31))) (.slice (some ⟨1, 0, none⟩) N1 (K1 + N1)) (heapOf [⟨byteToks 0 30 0 ++ tl0, el0, 2, 1⟩, ⟨byteToks 1 N1 0 ++ tl1, el1, 2, 1⟩])) = true := by kernel_rfl
theorem all128 (tl0 : List Value) (el0 K0 M0 : Nat) (tl1 : List Value) (el1 K1 : Nat) : ((List.range' 21 10).all fun N1 => run 30 N1 (.slice (some ⟨0, 0, none⟩) (M0 + 31) (K0 + (M0 + 31))) (.slice (some ⟨1, 0, none⟩) N1 (K1 + N1)) (heapOf [⟨byteToks 0 30 0 ++ tl0, el0, 2, 1⟩, ⟨byteToks 1 N1 0 ++ tl1, el1, 2, 1⟩])) = true := by kernel_rfl
theorem all129 (tl0 : List Value) (el0 K0 M0 : Nat) (tl1 : List Value) (el1 K1 M1 : Nat) : (run 30 30 (.slice (some ⟨0, 0, none⟩) (M0 + 31) (K0 + (M0 + 31))) (.slice (some ⟨1, 0, none⟩) (M1 + 31) (K1 + (M1 + 31))) (heapOf [⟨byteToks 0 30 0 ++ tl0, el0, 2, 1⟩, ⟨byteToks 1 30 0 ++ tl1, el1, 2, 1⟩])) = true := by kernel_rfl
end Go.Proofs.Ytfibgjognhimmaa.atomicFull
