/- What the plain terms find of AtomicFull: a part of the cases. -/
import Derived.Test.YtfibgjognhimmaaALWD
namespace Go.Proofs.Ytfibgjognhimmaa.atomicFull
set_option maxRecDepth 1000000
theorem all0 : (run 0 0 (.slice none 0 0) (.slice none 0 0) (heapOf [])) = true := by kernel_rfl
theorem all1 (tl1 : List Value) (el1 : Nat) : (run 0 0 (.slice none 0 0) (.slice (some ⟨0, 0, none⟩) 0 (0 + 0)) (heapOf [⟨byteToks 1 0 0 ++ tl1, el1, 2, 1⟩])) = true := by kernel_rfl
theorem all2 (tl1 : List Value) (el1 K1 : Nat) : (run 0 0 (.slice none 0 0) (.slice (some ⟨0, 0, none⟩) 0 ((K1 + 1) + 0)) (heapOf [⟨byteToks 1 0 0 ++ tl1, el1, 2, 1⟩])) = true := by kernel_rfl
theorem all3 (tl1 : List Value) (el1 K1 : Nat) : ((List.range' 1 10).all fun N1 => run 0 N1 (.slice none 0 0) (.slice (some ⟨0, 0, none⟩) N1 (K1 + N1)) (heapOf [⟨byteToks 1 N1 0 ++ tl1, el1, 2, 1⟩])) = true := by kernel_rfl
theorem all4 (tl1 : List Value) (el1 K1 : Nat) : ((List.range' 11 10).all fun N1 => run 0 N1 (.slice none 0 0) (.slice (some ⟨0, 0, none⟩) N1 (K1 + N1)) (heapOf [⟨byteToks 1 N1 0 ++ tl1, el1, 2, 1⟩])) = true := by kernel_rfl
theorem all5 (tl1 : List Value) (el1 K1 : Nat) : ((List.range' 21 10).all fun N1 => run 0 N1 (.slice none 0 0) (.slice (some ⟨0, 0, none⟩) N1 (K1 + N1)) (heapOf [⟨byteToks 1 N1 0 ++ tl1, el1, 2, 1⟩])) = true := by kernel_rfl
theorem all6 (tl1 : List Value) (el1 K1 M1 : Nat) : (run 0 30 (.slice none 0 0) (.slice (some ⟨0, 0, none⟩) (M1 + 31) (K1 + (M1 + 31))) (heapOf [⟨byteToks 1 30 0 ++ tl1, el1, 2, 1⟩])) = true := by kernel_rfl
theorem all7 (tl0 : List Value) (el0 : Nat) : (run 0 0 (.slice (some ⟨0, 0, none⟩) 0 (0 + 0)) (.slice none 0 0) (heapOf [⟨byteToks 0 0 0 ++ tl0, el0, 2, 1⟩])) = true := by kernel_rfl
theorem all8 (tl0 : List Value) (el0 : Nat) (tl1 : List Value) (el1 : Nat) : (run 0 0 (.slice (some ⟨0, 0, none⟩) 0 (0 + 0)) (.slice (some ⟨1, 0, none⟩) 0 (0 + 0)) (heapOf [⟨byteToks 0 0 0 ++ tl0, el0, 2, 1⟩, ⟨byteToks 1 0 0 ++ tl1, el1, 2, 1⟩])) = true := by kernel_rfl
theorem all9 (tl0 : List Value) (el0 : Nat) (tl1 : List Value) (el1 K1 : Nat) : (run 0 0 (.slice (some ⟨0, 0, none⟩) 0 (0 + 0)) (.slice (some ⟨1, 0, none⟩) 0 ((K1 + 1) + 0)) (heapOf [⟨byteToks 0 0 0 ++ tl0, el0, 2, 1⟩, ⟨byteToks 1 0 0 ++ tl1, el1, 2, 1⟩])) = true := by kernel_rfl
theorem all10 (tl0 : List Value) (el0 : Nat) (tl1 : List Value) (el1 K1 : Nat) : ((List.range' 1 10).all fun N1 => run 0 N1 (.slice (some ⟨0, 0, none⟩) 0 (0 + 0)) (.slice (some ⟨1, 0, none⟩) N1 (K1 + N1)) (heapOf [⟨byteToks 0 0 0 ++ tl0, el0, 2, 1⟩, ⟨byteToks 1 N1 0 ++ tl1, el1, 2, 1⟩])) = true := by kernel_rfl
theorem all11 (tl0 : List Value) (el0 : Nat) (tl1 : List Value) (el1 K1 : Nat) : ((List.range' 11 10).all fun N1 => run 0 N1 (.slice (some ⟨0, 0, none⟩) 0 (0 + 0)) (.slice (some ⟨1, 0, none⟩) N1 (K1 + N1)) (heapOf [⟨byteToks 0 0 0 ++ tl0, el0, 2, 1⟩, ⟨byteToks 1 N1 0 ++ tl1, el1, 2, 1⟩])) = true := by kernel_rfl
theorem all12 (tl0 : List Value) (el0 : Nat) (tl1 : List Value) (el1 K1 : Nat) : ((List.range' 21 10).all fun N1 => run 0 N1 (.slice (some ⟨0, 0, none⟩) 0 (0 + 0)) (.slice (some ⟨1, 0, none⟩) N1 (K1 + N1)) (heapOf [⟨byteToks 0 0 0 ++ tl0, el0, 2, 1⟩, ⟨byteToks 1 N1 0 ++ tl1, el1, 2, 1⟩])) = true := by kernel_rfl
theorem all13 (tl0 : List Value) (el0 : Nat) (tl1 : List Value) (el1 K1 M1 : Nat) : (run 0 30 (.slice (some ⟨0, 0, none⟩) 0 (0 + 0)) (.slice (some ⟨1, 0, none⟩) (M1 + 31) (K1 + (M1 + 31))) (heapOf [⟨byteToks 0 0 0 ++ tl0, el0, 2, 1⟩, ⟨byteToks 1 30 0 ++ tl1, el1, 2, 1⟩])) = true := by kernel_rfl
end Go.Proofs.Ytfibgjognhimmaa.atomicFull
