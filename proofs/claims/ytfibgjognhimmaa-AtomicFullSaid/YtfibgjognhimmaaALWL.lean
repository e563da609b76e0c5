/- The walk of AtomicFull: the plain terms find it true, case by case. -/
import Derived.Test.YtfibgjognhimmaaALW0
import Derived.Test.YtfibgjognhimmaaALW1
import Derived.Test.YtfibgjognhimmaaALW2
import Derived.Test.YtfibgjognhimmaaALW3
import Derived.Test.YtfibgjognhimmaaALW4
import Derived.Test.YtfibgjognhimmaaALW5
import Derived.Test.YtfibgjognhimmaaALW6
import Derived.Test.YtfibgjognhimmaaALW7
import Derived.Test.YtfibgjognhimmaaALW8
import Derived.Test.YtfibgjognhimmaaALW9
namespace Go.Proofs.Ytfibgjognhimmaa.atomicFull
open Go.ChangeShapes Go.WideShapes Go.ChangeAt Go.RowKit
set_option maxRecDepth 1000000
set_option linter.unusedVariables false
theorem ll_1 (tl0 : List Value) (el0 K0 : Nat) (tl1 : List Value) (el1 K1 : Nat) (N1 : Nat) (h1 : 1 ≤ N1 ∧ N1 < 31) : run 1 N1 (.slice (some ⟨0, 0, none⟩) 1 (K0 + 1)) (.slice (some ⟨1, 0, none⟩) N1 (K1 + N1)) (heapOf [⟨byteToks 0 1 0 ++ tl0, el0, 2, 1⟩, ⟨byteToks 1 N1 0 ++ tl1, el1, 2, 1⟩]) = true := by
  by_cases hr30 : N1 < 11
  · have h := all30 tl0 el0 K0 tl1 el1 K1
    simp only [List.all_eq_true, List.mem_range'_1] at h
    exact h 1 (by omega) N1 (by omega)
  by_cases hr31 : N1 < 21
  · have h := all31 tl0 el0 K0 tl1 el1 K1
    simp only [List.all_eq_true, List.mem_range'_1] at h
    exact h 1 (by omega) N1 (by omega)
  have h := all32 tl0 el0 K0 tl1 el1 K1
  simp only [List.all_eq_true, List.mem_range'_1] at h
  exact h 1 (by omega) N1 (by omega)
theorem ll_2 (tl0 : List Value) (el0 K0 : Nat) (tl1 : List Value) (el1 K1 : Nat) (N1 : Nat) (h1 : 1 ≤ N1 ∧ N1 < 31) : run 2 N1 (.slice (some ⟨0, 0, none⟩) 2 (K0 + 2)) (.slice (some ⟨1, 0, none⟩) N1 (K1 + N1)) (heapOf [⟨byteToks 0 2 0 ++ tl0, el0, 2, 1⟩, ⟨byteToks 1 N1 0 ++ tl1, el1, 2, 1⟩]) = true := by
  by_cases hr33 : N1 < 11
  · have h := all33 tl0 el0 K0 tl1 el1 K1
    simp only [List.all_eq_true, List.mem_range'_1] at h
    exact h 2 (by omega) N1 (by omega)
  by_cases hr34 : N1 < 21
  · have h := all34 tl0 el0 K0 tl1 el1 K1
    simp only [List.all_eq_true, List.mem_range'_1] at h
    exact h 2 (by omega) N1 (by omega)
  have h := all35 tl0 el0 K0 tl1 el1 K1
  simp only [List.all_eq_true, List.mem_range'_1] at h
  exact h 2 (by omega) N1 (by omega)
theorem ll_3 (tl0 : List Value) (el0 K0 : Nat) (tl1 : List Value) (el1 K1 : Nat) (N1 : Nat) (h1 : 1 ≤ N1 ∧ N1 < 31) : run 3 N1 (.slice (some ⟨0, 0, none⟩) 3 (K0 + 3)) (.slice (some ⟨1, 0, none⟩) N1 (K1 + N1)) (heapOf [⟨byteToks 0 3 0 ++ tl0, el0, 2, 1⟩, ⟨byteToks 1 N1 0 ++ tl1, el1, 2, 1⟩]) = true := by
  by_cases hr36 : N1 < 11
  · have h := all36 tl0 el0 K0 tl1 el1 K1
    simp only [List.all_eq_true, List.mem_range'_1] at h
    exact h 3 (by omega) N1 (by omega)
  by_cases hr37 : N1 < 21
  · have h := all37 tl0 el0 K0 tl1 el1 K1
    simp only [List.all_eq_true, List.mem_range'_1] at h
    exact h 3 (by omega) N1 (by omega)
  have h := all38 tl0 el0 K0 tl1 el1 K1
  simp only [List.all_eq_true, List.mem_range'_1] at h
  exact h 3 (by omega) N1 (by omega)
theorem ll_4 (tl0 : List Value) (el0 K0 : Nat) (tl1 : List Value) (el1 K1 : Nat) (N1 : Nat) (h1 : 1 ≤ N1 ∧ N1 < 31) : run 4 N1 (.slice (some ⟨0, 0, none⟩) 4 (K0 + 4)) (.slice (some ⟨1, 0, none⟩) N1 (K1 + N1)) (heapOf [⟨byteToks 0 4 0 ++ tl0, el0, 2, 1⟩, ⟨byteToks 1 N1 0 ++ tl1, el1, 2, 1⟩]) = true := by
  by_cases hr39 : N1 < 11
  · have h := all39 tl0 el0 K0 tl1 el1 K1
    simp only [List.all_eq_true, List.mem_range'_1] at h
    exact h 4 (by omega) N1 (by omega)
  by_cases hr40 : N1 < 21
  · have h := all40 tl0 el0 K0 tl1 el1 K1
    simp only [List.all_eq_true, List.mem_range'_1] at h
    exact h 4 (by omega) N1 (by omega)
  have h := all41 tl0 el0 K0 tl1 el1 K1
  simp only [List.all_eq_true, List.mem_range'_1] at h
  exact h 4 (by omega) N1 (by omega)
theorem ll_5 (tl0 : List Value) (el0 K0 : Nat) (tl1 : List Value) (el1 K1 : Nat) (N1 : Nat) (h1 : 1 ≤ N1 ∧ N1 < 31) : run 5 N1 (.slice (some ⟨0, 0, none⟩) 5 (K0 + 5)) (.slice (some ⟨1, 0, none⟩) N1 (K1 + N1)) (heapOf [⟨byteToks 0 5 0 ++ tl0, el0, 2, 1⟩, ⟨byteToks 1 N1 0 ++ tl1, el1, 2, 1⟩]) = true := by
  by_cases hr42 : N1 < 11
  · have h := all42 tl0 el0 K0 tl1 el1 K1
    simp only [List.all_eq_true, List.mem_range'_1] at h
    exact h 5 (by omega) N1 (by omega)
  by_cases hr43 : N1 < 21
  · have h := all43 tl0 el0 K0 tl1 el1 K1
    simp only [List.all_eq_true, List.mem_range'_1] at h
    exact h 5 (by omega) N1 (by omega)
  have h := all44 tl0 el0 K0 tl1 el1 K1
  simp only [List.all_eq_true, List.mem_range'_1] at h
  exact h 5 (by omega) N1 (by omega)
theorem ll_6 (tl0 : List Value) (el0 K0 : Nat) (tl1 : List Value) (el1 K1 : Nat) (N1 : Nat) (h1 : 1 ≤ N1 ∧ N1 < 31) : run 6 N1 (.slice (some ⟨0, 0, none⟩) 6 (K0 + 6)) (.slice (some ⟨1, 0, none⟩) N1 (K1 + N1)) (heapOf [⟨byteToks 0 6 0 ++ tl0, el0, 2, 1⟩, ⟨byteToks 1 N1 0 ++ tl1, el1, 2, 1⟩]) = true := by
  by_cases hr45 : N1 < 11
  · have h := all45 tl0 el0 K0 tl1 el1 K1
    simp only [List.all_eq_true, List.mem_range'_1] at h
    exact h 6 (by omega) N1 (by omega)
  by_cases hr46 : N1 < 21
  · have h := all46 tl0 el0 K0 tl1 el1 K1
    simp only [List.all_eq_true, List.mem_range'_1] at h
    exact h 6 (by omega) N1 (by omega)
  have h := all47 tl0 el0 K0 tl1 el1 K1
  simp only [List.all_eq_true, List.mem_range'_1] at h
  exact h 6 (by omega) N1 (by omega)
theorem ll_7 (tl0 : List Value) (el0 K0 : Nat) (tl1 : List Value) (el1 K1 : Nat) (N1 : Nat) (h1 : 1 ≤ N1 ∧ N1 < 31) : run 7 N1 (.slice (some ⟨0, 0, none⟩) 7 (K0 + 7)) (.slice (some ⟨1, 0, none⟩) N1 (K1 + N1)) (heapOf [⟨byteToks 0 7 0 ++ tl0, el0, 2, 1⟩, ⟨byteToks 1 N1 0 ++ tl1, el1, 2, 1⟩]) = true := by
  by_cases hr48 : N1 < 11
  · have h := all48 tl0 el0 K0 tl1 el1 K1
    simp only [List.all_eq_true, List.mem_range'_1] at h
    exact h 7 (by omega) N1 (by omega)
  by_cases hr49 : N1 < 21
  · have h := all49 tl0 el0 K0 tl1 el1 K1
    simp only [List.all_eq_true, List.mem_range'_1] at h
    exact h 7 (by omega) N1 (by omega)
  have h := all50 tl0 el0 K0 tl1 el1 K1
  simp only [List.all_eq_true, List.mem_range'_1] at h
  exact h 7 (by omega) N1 (by omega)
theorem ll_8 (tl0 : List Value) (el0 K0 : Nat) (tl1 : List Value) (el1 K1 : Nat) (N1 : Nat) (h1 : 1 ≤ N1 ∧ N1 < 31) : run 8 N1 (.slice (some ⟨0, 0, none⟩) 8 (K0 + 8)) (.slice (some ⟨1, 0, none⟩) N1 (K1 + N1)) (heapOf [⟨byteToks 0 8 0 ++ tl0, el0, 2, 1⟩, ⟨byteToks 1 N1 0 ++ tl1, el1, 2, 1⟩]) = true := by
  by_cases hr51 : N1 < 11
  · have h := all51 tl0 el0 K0 tl1 el1 K1
    simp only [List.all_eq_true, List.mem_range'_1] at h
    exact h 8 (by omega) N1 (by omega)
  by_cases hr52 : N1 < 21
  · have h := all52 tl0 el0 K0 tl1 el1 K1
    simp only [List.all_eq_true, List.mem_range'_1] at h
    exact h 8 (by omega) N1 (by omega)
  have h := all53 tl0 el0 K0 tl1 el1 K1
  simp only [List.all_eq_true, List.mem_range'_1] at h
  exact h 8 (by omega) N1 (by omega)
theorem ll_9 (tl0 : List Value) (el0 K0 : Nat) (tl1 : List Value) (el1 K1 : Nat) (N1 : Nat) (h1 : 1 ≤ N1 ∧ N1 < 31) : run 9 N1 (.slice (some ⟨0, 0, none⟩) 9 (K0 + 9)) (.slice (some ⟨1, 0, none⟩) N1 (K1 + N1)) (heapOf [⟨byteToks 0 9 0 ++ tl0, el0, 2, 1⟩, ⟨byteToks 1 N1 0 ++ tl1, el1, 2, 1⟩]) = true := by
  by_cases hr54 : N1 < 11
  · have h := all54 tl0 el0 K0 tl1 el1 K1
    simp only [List.all_eq_true, List.mem_range'_1] at h
    exact h 9 (by omega) N1 (by omega)
  by_cases hr55 : N1 < 21
  · have h := all55 tl0 el0 K0 tl1 el1 K1
    simp only [List.all_eq_true, List.mem_range'_1] at h
    exact h 9 (by omega) N1 (by omega)
  have h := all56 tl0 el0 K0 tl1 el1 K1
  simp only [List.all_eq_true, List.mem_range'_1] at h
  exact h 9 (by omega) N1 (by omega)
theorem ll_10 (tl0 : List Value) (el0 K0 : Nat) (tl1 : List Value) (el1 K1 : Nat) (N1 : Nat) (h1 : 1 ≤ N1 ∧ N1 < 31) : run 10 N1 (.slice (some ⟨0, 0, none⟩) 10 (K0 + 10)) (.slice (some ⟨1, 0, none⟩) N1 (K1 + N1)) (heapOf [⟨byteToks 0 10 0 ++ tl0, el0, 2, 1⟩, ⟨byteToks 1 N1 0 ++ tl1, el1, 2, 1⟩]) = true := by
  by_cases hr57 : N1 < 11
  · have h := all57 tl0 el0 K0 tl1 el1 K1
    simp only [List.all_eq_true, List.mem_range'_1] at h
    exact h 10 (by omega) N1 (by omega)
  by_cases hr58 : N1 < 21
  · have h := all58 tl0 el0 K0 tl1 el1 K1
    simp only [List.all_eq_true, List.mem_range'_1] at h
    exact h 10 (by omega) N1 (by omega)
  have h := all59 tl0 el0 K0 tl1 el1 K1
  simp only [List.all_eq_true, List.mem_range'_1] at h
  exact h 10 (by omega) N1 (by omega)
theorem ll_11 (tl0 : List Value) (el0 K0 : Nat) (tl1 : List Value) (el1 K1 : Nat) (N1 : Nat) (h1 : 1 ≤ N1 ∧ N1 < 31) : run 11 N1 (.slice (some ⟨0, 0, none⟩) 11 (K0 + 11)) (.slice (some ⟨1, 0, none⟩) N1 (K1 + N1)) (heapOf [⟨byteToks 0 11 0 ++ tl0, el0, 2, 1⟩, ⟨byteToks 1 N1 0 ++ tl1, el1, 2, 1⟩]) = true := by
  by_cases hr60 : N1 < 11
  · have h := all60 tl0 el0 K0 tl1 el1 K1
    simp only [List.all_eq_true, List.mem_range'_1] at h
    exact h 11 (by omega) N1 (by omega)
  by_cases hr61 : N1 < 21
  · have h := all61 tl0 el0 K0 tl1 el1 K1
    simp only [List.all_eq_true, List.mem_range'_1] at h
    exact h 11 (by omega) N1 (by omega)
  have h := all62 tl0 el0 K0 tl1 el1 K1
  simp only [List.all_eq_true, List.mem_range'_1] at h
  exact h 11 (by omega) N1 (by omega)
theorem ll_12 (tl0 : List Value) (el0 K0 : Nat) (tl1 : List Value) (el1 K1 : Nat) (N1 : Nat) (h1 : 1 ≤ N1 ∧ N1 < 31) : run 12 N1 (.slice (some ⟨0, 0, none⟩) 12 (K0 + 12)) (.slice (some ⟨1, 0, none⟩) N1 (K1 + N1)) (heapOf [⟨byteToks 0 12 0 ++ tl0, el0, 2, 1⟩, ⟨byteToks 1 N1 0 ++ tl1, el1, 2, 1⟩]) = true := by
  by_cases hr63 : N1 < 11
  · have h := all63 tl0 el0 K0 tl1 el1 K1
    simp only [List.all_eq_true, List.mem_range'_1] at h
    exact h 12 (by omega) N1 (by omega)
  by_cases hr64 : N1 < 21
  · have h := all64 tl0 el0 K0 tl1 el1 K1
    simp only [List.all_eq_true, List.mem_range'_1] at h
    exact h 12 (by omega) N1 (by omega)
  have h := all65 tl0 el0 K0 tl1 el1 K1
  simp only [List.all_eq_true, List.mem_range'_1] at h
  exact h 12 (by omega) N1 (by omega)
theorem ll_13 (tl0 : List Value) (el0 K0 : Nat) (tl1 : List Value) (el1 K1 : Nat) (N1 : Nat) (h1 : 1 ≤ N1 ∧ N1 < 31) : run 13 N1 (.slice (some ⟨0, 0, none⟩) 13 (K0 + 13)) (.slice (some ⟨1, 0, none⟩) N1 (K1 + N1)) (heapOf [⟨byteToks 0 13 0 ++ tl0, el0, 2, 1⟩, ⟨byteToks 1 N1 0 ++ tl1, el1, 2, 1⟩]) = true := by
  by_cases hr66 : N1 < 11
  · have h := all66 tl0 el0 K0 tl1 el1 K1
    simp only [List.all_eq_true, List.mem_range'_1] at h
    exact h 13 (by omega) N1 (by omega)
  by_cases hr67 : N1 < 21
  · have h := all67 tl0 el0 K0 tl1 el1 K1
    simp only [List.all_eq_true, List.mem_range'_1] at h
    exact h 13 (by omega) N1 (by omega)
  have h := all68 tl0 el0 K0 tl1 el1 K1
  simp only [List.all_eq_true, List.mem_range'_1] at h
  exact h 13 (by omega) N1 (by omega)
theorem ll_14 (tl0 : List Value) (el0 K0 : Nat) (tl1 : List Value) (el1 K1 : Nat) (N1 : Nat) (h1 : 1 ≤ N1 ∧ N1 < 31) : run 14 N1 (.slice (some ⟨0, 0, none⟩) 14 (K0 + 14)) (.slice (some ⟨1, 0, none⟩) N1 (K1 + N1)) (heapOf [⟨byteToks 0 14 0 ++ tl0, el0, 2, 1⟩, ⟨byteToks 1 N1 0 ++ tl1, el1, 2, 1⟩]) = true := by
  by_cases hr69 : N1 < 11
  · have h := all69 tl0 el0 K0 tl1 el1 K1
    simp only [List.all_eq_true, List.mem_range'_1] at h
    exact h 14 (by omega) N1 (by omega)
  by_cases hr70 : N1 < 21
  · have h := all70 tl0 el0 K0 tl1 el1 K1
    simp only [List.all_eq_true, List.mem_range'_1] at h
    exact h 14 (by omega) N1 (by omega)
  have h := all71 tl0 el0 K0 tl1 el1 K1
  simp only [List.all_eq_true, List.mem_range'_1] at h
  exact h 14 (by omega) N1 (by omega)
theorem ll_15 (tl0 : List Value) (el0 K0 : Nat) (tl1 : List Value) (el1 K1 : Nat) (N1 : Nat) (h1 : 1 ≤ N1 ∧ N1 < 31) : run 15 N1 (.slice (some ⟨0, 0, none⟩) 15 (K0 + 15)) (.slice (some ⟨1, 0, none⟩) N1 (K1 + N1)) (heapOf [⟨byteToks 0 15 0 ++ tl0, el0, 2, 1⟩, ⟨byteToks 1 N1 0 ++ tl1, el1, 2, 1⟩]) = true := by
  by_cases hr72 : N1 < 11
  · have h := all72 tl0 el0 K0 tl1 el1 K1
    simp only [List.all_eq_true, List.mem_range'_1] at h
    exact h 15 (by omega) N1 (by omega)
  by_cases hr73 : N1 < 21
  · have h := all73 tl0 el0 K0 tl1 el1 K1
    simp only [List.all_eq_true, List.mem_range'_1] at h
    exact h 15 (by omega) N1 (by omega)
  have h := all74 tl0 el0 K0 tl1 el1 K1
  simp only [List.all_eq_true, List.mem_range'_1] at h
  exact h 15 (by omega) N1 (by omega)
theorem ll_16 (tl0 : List Value) (el0 K0 : Nat) (tl1 : List Value) (el1 K1 : Nat) (N1 : Nat) (h1 : 1 ≤ N1 ∧ N1 < 31) : run 16 N1 (.slice (some ⟨0, 0, none⟩) 16 (K0 + 16)) (.slice (some ⟨1, 0, none⟩) N1 (K1 + N1)) (heapOf [⟨byteToks 0 16 0 ++ tl0, el0, 2, 1⟩, ⟨byteToks 1 N1 0 ++ tl1, el1, 2, 1⟩]) = true := by
  by_cases hr75 : N1 < 11
  · have h := all75 tl0 el0 K0 tl1 el1 K1
    simp only [List.all_eq_true, List.mem_range'_1] at h
    exact h 16 (by omega) N1 (by omega)
  by_cases hr76 : N1 < 21
  · have h := all76 tl0 el0 K0 tl1 el1 K1
    simp only [List.all_eq_true, List.mem_range'_1] at h
    exact h 16 (by omega) N1 (by omega)
  have h := all77 tl0 el0 K0 tl1 el1 K1
  simp only [List.all_eq_true, List.mem_range'_1] at h
  exact h 16 (by omega) N1 (by omega)
theorem ll_17 (tl0 : List Value) (el0 K0 : Nat) (tl1 : List Value) (el1 K1 : Nat) (N1 : Nat) (h1 : 1 ≤ N1 ∧ N1 < 31) : run 17 N1 (.slice (some ⟨0, 0, none⟩) 17 (K0 + 17)) (.slice (some ⟨1, 0, none⟩) N1 (K1 + N1)) (heapOf [⟨byteToks 0 17 0 ++ tl0, el0, 2, 1⟩, ⟨byteToks 1 N1 0 ++ tl1, el1, 2, 1⟩]) = true := by
  by_cases hr78 : N1 < 11
  · have h := all78 tl0 el0 K0 tl1 el1 K1
    simp only [List.all_eq_true, List.mem_range'_1] at h
    exact h 17 (by omega) N1 (by omega)
  by_cases hr79 : N1 < 21
  · have h := all79 tl0 el0 K0 tl1 el1 K1
    simp only [List.all_eq_true, List.mem_range'_1] at h
    exact h 17 (by omega) N1 (by omega)
  have h := all80 tl0 el0 K0 tl1 el1 K1
  simp only [List.all_eq_true, List.mem_range'_1] at h
  exact h 17 (by omega) N1 (by omega)
theorem ll_18 (tl0 : List Value) (el0 K0 : Nat) (tl1 : List Value) (el1 K1 : Nat) (N1 : Nat) (h1 : 1 ≤ N1 ∧ N1 < 31) : run 18 N1 (.slice (some ⟨0, 0, none⟩) 18 (K0 + 18)) (.slice (some ⟨1, 0, none⟩) N1 (K1 + N1)) (heapOf [⟨byteToks 0 18 0 ++ tl0, el0, 2, 1⟩, ⟨byteToks 1 N1 0 ++ tl1, el1, 2, 1⟩]) = true := by
  by_cases hr81 : N1 < 11
  · have h := all81 tl0 el0 K0 tl1 el1 K1
    simp only [List.all_eq_true, List.mem_range'_1] at h
    exact h 18 (by omega) N1 (by omega)
  by_cases hr82 : N1 < 21
  · have h := all82 tl0 el0 K0 tl1 el1 K1
    simp only [List.all_eq_true, List.mem_range'_1] at h
    exact h 18 (by omega) N1 (by omega)
  have h := all83 tl0 el0 K0 tl1 el1 K1
  simp only [List.all_eq_true, List.mem_range'_1] at h
  exact h 18 (by omega) N1 (by omega)
theorem ll_19 (tl0 : List Value) (el0 K0 : Nat) (tl1 : List Value) (el1 K1 : Nat) (N1 : Nat) (h1 : 1 ≤ N1 ∧ N1 < 31) : run 19 N1 (.slice (some ⟨0, 0, none⟩) 19 (K0 + 19)) (.slice (some ⟨1, 0, none⟩) N1 (K1 + N1)) (heapOf [⟨byteToks 0 19 0 ++ tl0, el0, 2, 1⟩, ⟨byteToks 1 N1 0 ++ tl1, el1, 2, 1⟩]) = true := by
  by_cases hr84 : N1 < 11
  · have h := all84 tl0 el0 K0 tl1 el1 K1
    simp only [List.all_eq_true, List.mem_range'_1] at h
    exact h 19 (by omega) N1 (by omega)
  by_cases hr85 : N1 < 21
  · have h := all85 tl0 el0 K0 tl1 el1 K1
    simp only [List.all_eq_true, List.mem_range'_1] at h
    exact h 19 (by omega) N1 (by omega)
  have h := all86 tl0 el0 K0 tl1 el1 K1
  simp only [List.all_eq_true, List.mem_range'_1] at h
  exact h 19 (by omega) N1 (by omega)
theorem ll_20 (tl0 : List Value) (el0 K0 : Nat) (tl1 : List Value) (el1 K1 : Nat) (N1 : Nat) (h1 : 1 ≤ N1 ∧ N1 < 31) : run 20 N1 (.slice (some ⟨0, 0, none⟩) 20 (K0 + 20)) (.slice (some ⟨1, 0, none⟩) N1 (K1 + N1)) (heapOf [⟨byteToks 0 20 0 ++ tl0, el0, 2, 1⟩, ⟨byteToks 1 N1 0 ++ tl1, el1, 2, 1⟩]) = true := by
  by_cases hr87 : N1 < 11
  · have h := all87 tl0 el0 K0 tl1 el1 K1
    simp only [List.all_eq_true, List.mem_range'_1] at h
    exact h 20 (by omega) N1 (by omega)
  by_cases hr88 : N1 < 21
  · have h := all88 tl0 el0 K0 tl1 el1 K1
    simp only [List.all_eq_true, List.mem_range'_1] at h
    exact h 20 (by omega) N1 (by omega)
  have h := all89 tl0 el0 K0 tl1 el1 K1
  simp only [List.all_eq_true, List.mem_range'_1] at h
  exact h 20 (by omega) N1 (by omega)
theorem ll_21 (tl0 : List Value) (el0 K0 : Nat) (tl1 : List Value) (el1 K1 : Nat) (N1 : Nat) (h1 : 1 ≤ N1 ∧ N1 < 31) : run 21 N1 (.slice (some ⟨0, 0, none⟩) 21 (K0 + 21)) (.slice (some ⟨1, 0, none⟩) N1 (K1 + N1)) (heapOf [⟨byteToks 0 21 0 ++ tl0, el0, 2, 1⟩, ⟨byteToks 1 N1 0 ++ tl1, el1, 2, 1⟩]) = true := by
  by_cases hr90 : N1 < 11
  · have h := all90 tl0 el0 K0 tl1 el1 K1
    simp only [List.all_eq_true, List.mem_range'_1] at h
    exact h 21 (by omega) N1 (by omega)
  by_cases hr91 : N1 < 21
  · have h := all91 tl0 el0 K0 tl1 el1 K1
    simp only [List.all_eq_true, List.mem_range'_1] at h
    exact h 21 (by omega) N1 (by omega)
  have h := all92 tl0 el0 K0 tl1 el1 K1
  simp only [List.all_eq_true, List.mem_range'_1] at h
  exact h 21 (by omega) N1 (by omega)
theorem ll_22 (tl0 : List Value) (el0 K0 : Nat) (tl1 : List Value) (el1 K1 : Nat) (N1 : Nat) (h1 : 1 ≤ N1 ∧ N1 < 31) : run 22 N1 (.slice (some ⟨0, 0, none⟩) 22 (K0 + 22)) (.slice (some ⟨1, 0, none⟩) N1 (K1 + N1)) (heapOf [⟨byteToks 0 22 0 ++ tl0, el0, 2, 1⟩, ⟨byteToks 1 N1 0 ++ tl1, el1, 2, 1⟩]) = true := by
  by_cases hr93 : N1 < 11
  · have h := all93 tl0 el0 K0 tl1 el1 K1
    simp only [List.all_eq_true, List.mem_range'_1] at h
    exact h 22 (by omega) N1 (by omega)
  by_cases hr94 : N1 < 21
  · have h := all94 tl0 el0 K0 tl1 el1 K1
    simp only [List.all_eq_true, List.mem_range'_1] at h
    exact h 22 (by omega) N1 (by omega)
  have h := all95 tl0 el0 K0 tl1 el1 K1
  simp only [List.all_eq_true, List.mem_range'_1] at h
  exact h 22 (by omega) N1 (by omega)
theorem ll_23 (tl0 : List Value) (el0 K0 : Nat) (tl1 : List Value) (el1 K1 : Nat) (N1 : Nat) (h1 : 1 ≤ N1 ∧ N1 < 31) : run 23 N1 (.slice (some ⟨0, 0, none⟩) 23 (K0 + 23)) (.slice (some ⟨1, 0, none⟩) N1 (K1 + N1)) (heapOf [⟨byteToks 0 23 0 ++ tl0, el0, 2, 1⟩, ⟨byteToks 1 N1 0 ++ tl1, el1, 2, 1⟩]) = true := by
  by_cases hr96 : N1 < 11
  · have h := all96 tl0 el0 K0 tl1 el1 K1
    simp only [List.all_eq_true, List.mem_range'_1] at h
    exact h 23 (by omega) N1 (by omega)
  by_cases hr97 : N1 < 21
  · have h := all97 tl0 el0 K0 tl1 el1 K1
    simp only [List.all_eq_true, List.mem_range'_1] at h
    exact h 23 (by omega) N1 (by omega)
  have h := all98 tl0 el0 K0 tl1 el1 K1
  simp only [List.all_eq_true, List.mem_range'_1] at h
  exact h 23 (by omega) N1 (by omega)
theorem ll_24 (tl0 : List Value) (el0 K0 : Nat) (tl1 : List Value) (el1 K1 : Nat) (N1 : Nat) (h1 : 1 ≤ N1 ∧ N1 < 31) : run 24 N1 (.slice (some ⟨0, 0, none⟩) 24 (K0 + 24)) (.slice (some ⟨1, 0, none⟩) N1 (K1 + N1)) (heapOf [⟨byteToks 0 24 0 ++ tl0, el0, 2, 1⟩, ⟨byteToks 1 N1 0 ++ tl1, el1, 2, 1⟩]) = true := by
  by_cases hr99 : N1 < 11
  · have h := all99 tl0 el0 K0 tl1 el1 K1
    simp only [List.all_eq_true, List.mem_range'_1] at h
    exact h 24 (by omega) N1 (by omega)
  by_cases hr100 : N1 < 21
  · have h := all100 tl0 el0 K0 tl1 el1 K1
    simp only [List.all_eq_true, List.mem_range'_1] at h
    exact h 24 (by omega) N1 (by omega)
  have h := all101 tl0 el0 K0 tl1 el1 K1
  simp only [List.all_eq_true, List.mem_range'_1] at h
  exact h 24 (by omega) N1 (by omega)
theorem ll_25 (tl0 : List Value) (el0 K0 : Nat) (tl1 : List Value) (el1 K1 : Nat) (N1 : Nat) (h1 : 1 ≤ N1 ∧ N1 < 31) : run 25 N1 (.slice (some ⟨0, 0, none⟩) 25 (K0 + 25)) (.slice (some ⟨1, 0, none⟩) N1 (K1 + N1)) (heapOf [⟨byteToks 0 25 0 ++ tl0, el0, 2, 1⟩, ⟨byteToks 1 N1 0 ++ tl1, el1, 2, 1⟩]) = true := by
  by_cases hr102 : N1 < 11
  · have h := all102 tl0 el0 K0 tl1 el1 K1
    simp only [List.all_eq_true, List.mem_range'_1] at h
    exact h 25 (by omega) N1 (by omega)
  by_cases hr103 : N1 < 21
  · have h := all103 tl0 el0 K0 tl1 el1 K1
    simp only [List.all_eq_true, List.mem_range'_1] at h
    exact h 25 (by omega) N1 (by omega)
  have h := all104 tl0 el0 K0 tl1 el1 K1
  simp only [List.all_eq_true, List.mem_range'_1] at h
  exact h 25 (by omega) N1 (by omega)
theorem ll_26 (tl0 : List Value) (el0 K0 : Nat) (tl1 : List Value) (el1 K1 : Nat) (N1 : Nat) (h1 : 1 ≤ N1 ∧ N1 < 31) : run 26 N1 (.slice (some ⟨0, 0, none⟩) 26 (K0 + 26)) (.slice (some ⟨1, 0, none⟩) N1 (K1 + N1)) (heapOf [⟨byteToks 0 26 0 ++ tl0, el0, 2, 1⟩, ⟨byteToks 1 N1 0 ++ tl1, el1, 2, 1⟩]) = true := by
  by_cases hr105 : N1 < 11
  · have h := all105 tl0 el0 K0 tl1 el1 K1
    simp only [List.all_eq_true, List.mem_range'_1] at h
    exact h 26 (by omega) N1 (by omega)
  by_cases hr106 : N1 < 21
  · have h := all106 tl0 el0 K0 tl1 el1 K1
    simp only [List.all_eq_true, List.mem_range'_1] at h
    exact h 26 (by omega) N1 (by omega)
  have h := all107 tl0 el0 K0 tl1 el1 K1
  simp only [List.all_eq_true, List.mem_range'_1] at h
  exact h 26 (by omega) N1 (by omega)
theorem ll_27 (tl0 : List Value) (el0 K0 : Nat) (tl1 : List Value) (el1 K1 : Nat) (N1 : Nat) (h1 : 1 ≤ N1 ∧ N1 < 31) : run 27 N1 (.slice (some ⟨0, 0, none⟩) 27 (K0 + 27)) (.slice (some ⟨1, 0, none⟩) N1 (K1 + N1)) (heapOf [⟨byteToks 0 27 0 ++ tl0, el0, 2, 1⟩, ⟨byteToks 1 N1 0 ++ tl1, el1, 2, 1⟩]) = true := by
  by_cases hr108 : N1 < 11
  · have h := all108 tl0 el0 K0 tl1 el1 K1
    simp only [List.all_eq_true, List.mem_range'_1] at h
    exact h 27 (by omega) N1 (by omega)
  by_cases hr109 : N1 < 21
  · have h := all109 tl0 el0 K0 tl1 el1 K1
    simp only [List.all_eq_true, List.mem_range'_1] at h
    exact h 27 (by omega) N1 (by omega)
  have h := all110 tl0 el0 K0 tl1 el1 K1
  simp only [List.all_eq_true, List.mem_range'_1] at h
  exact h 27 (by omega) N1 (by omega)
theorem ll_28 (tl0 : List Value) (el0 K0 : Nat) (tl1 : List Value) (el1 K1 : Nat) (N1 : Nat) (h1 : 1 ≤ N1 ∧ N1 < 31) : run 28 N1 (.slice (some ⟨0, 0, none⟩) 28 (K0 + 28)) (.slice (some ⟨1, 0, none⟩) N1 (K1 + N1)) (heapOf [⟨byteToks 0 28 0 ++ tl0, el0, 2, 1⟩, ⟨byteToks 1 N1 0 ++ tl1, el1, 2, 1⟩]) = true := by
  by_cases hr111 : N1 < 11
  · have h := all111 tl0 el0 K0 tl1 el1 K1
    simp only [List.all_eq_true, List.mem_range'_1] at h
    exact h 28 (by omega) N1 (by omega)
  by_cases hr112 : N1 < 21
  · have h := all112 tl0 el0 K0 tl1 el1 K1
    simp only [List.all_eq_true, List.mem_range'_1] at h
    exact h 28 (by omega) N1 (by omega)
  have h := all113 tl0 el0 K0 tl1 el1 K1
  simp only [List.all_eq_true, List.mem_range'_1] at h
  exact h 28 (by omega) N1 (by omega)
theorem ll_29 (tl0 : List Value) (el0 K0 : Nat) (tl1 : List Value) (el1 K1 : Nat) (N1 : Nat) (h1 : 1 ≤ N1 ∧ N1 < 31) : run 29 N1 (.slice (some ⟨0, 0, none⟩) 29 (K0 + 29)) (.slice (some ⟨1, 0, none⟩) N1 (K1 + N1)) (heapOf [⟨byteToks 0 29 0 ++ tl0, el0, 2, 1⟩, ⟨byteToks 1 N1 0 ++ tl1, el1, 2, 1⟩]) = true := by
  by_cases hr114 : N1 < 11
  · have h := all114 tl0 el0 K0 tl1 el1 K1
    simp only [List.all_eq_true, List.mem_range'_1] at h
    exact h 29 (by omega) N1 (by omega)
  by_cases hr115 : N1 < 21
  · have h := all115 tl0 el0 K0 tl1 el1 K1
    simp only [List.all_eq_true, List.mem_range'_1] at h
    exact h 29 (by omega) N1 (by omega)
  have h := all116 tl0 el0 K0 tl1 el1 K1
  simp only [List.all_eq_true, List.mem_range'_1] at h
  exact h 29 (by omega) N1 (by omega)
theorem ll_30 (tl0 : List Value) (el0 K0 : Nat) (tl1 : List Value) (el1 K1 : Nat) (N1 : Nat) (h1 : 1 ≤ N1 ∧ N1 < 31) : run 30 N1 (.slice (some ⟨0, 0, none⟩) 30 (K0 + 30)) (.slice (some ⟨1, 0, none⟩) N1 (K1 + N1)) (heapOf [⟨byteToks 0 30 0 ++ tl0, el0, 2, 1⟩, ⟨byteToks 1 N1 0 ++ tl1, el1, 2, 1⟩]) = true := by
  by_cases hr117 : N1 < 11
  · have h := all117 tl0 el0 K0 tl1 el1 K1
    simp only [List.all_eq_true, List.mem_range'_1] at h
    exact h 30 (by omega) N1 (by omega)
  by_cases hr118 : N1 < 21
  · have h := all118 tl0 el0 K0 tl1 el1 K1
    simp only [List.all_eq_true, List.mem_range'_1] at h
    exact h 30 (by omega) N1 (by omega)
  have h := all119 tl0 el0 K0 tl1 el1 K1
  simp only [List.all_eq_true, List.mem_range'_1] at h
  exact h 30 (by omega) N1 (by omega)
theorem ll (tl0 : List Value) (el0 K0 : Nat) (tl1 : List Value) (el1 K1 : Nat) (N0 N1 : Nat) (h0 : 1 ≤ N0 ∧ N0 < 31) (h1 : 1 ≤ N1 ∧ N1 < 31) : run N0 N1 (.slice (some ⟨0, 0, none⟩) N0 (K0 + N0)) (.slice (some ⟨1, 0, none⟩) N1 (K1 + N1)) (heapOf [⟨byteToks 0 N0 0 ++ tl0, el0, 2, 1⟩, ⟨byteToks 1 N1 0 ++ tl1, el1, 2, 1⟩]) = true := by
  by_cases c1 : N0 < 2
  · obtain rfl : N0 = 1 := by omega
    exact ll_1 tl0 el0 K0 tl1 el1 K1 N1 h1
  by_cases c2 : N0 < 3
  · obtain rfl : N0 = 2 := by omega
    exact ll_2 tl0 el0 K0 tl1 el1 K1 N1 h1
  by_cases c3 : N0 < 4
  · obtain rfl : N0 = 3 := by omega
    exact ll_3 tl0 el0 K0 tl1 el1 K1 N1 h1
  by_cases c4 : N0 < 5
  · obtain rfl : N0 = 4 := by omega
    exact ll_4 tl0 el0 K0 tl1 el1 K1 N1 h1
  by_cases c5 : N0 < 6
  · obtain rfl : N0 = 5 := by omega
    exact ll_5 tl0 el0 K0 tl1 el1 K1 N1 h1
  by_cases c6 : N0 < 7
  · obtain rfl : N0 = 6 := by omega
    exact ll_6 tl0 el0 K0 tl1 el1 K1 N1 h1
  by_cases c7 : N0 < 8
  · obtain rfl : N0 = 7 := by omega
    exact ll_7 tl0 el0 K0 tl1 el1 K1 N1 h1
  by_cases c8 : N0 < 9
  · obtain rfl : N0 = 8 := by omega
    exact ll_8 tl0 el0 K0 tl1 el1 K1 N1 h1
  by_cases c9 : N0 < 10
  · obtain rfl : N0 = 9 := by omega
    exact ll_9 tl0 el0 K0 tl1 el1 K1 N1 h1
  by_cases c10 : N0 < 11
  · obtain rfl : N0 = 10 := by omega
    exact ll_10 tl0 el0 K0 tl1 el1 K1 N1 h1
  by_cases c11 : N0 < 12
  · obtain rfl : N0 = 11 := by omega
    exact ll_11 tl0 el0 K0 tl1 el1 K1 N1 h1
  by_cases c12 : N0 < 13
  · obtain rfl : N0 = 12 := by omega
    exact ll_12 tl0 el0 K0 tl1 el1 K1 N1 h1
  by_cases c13 : N0 < 14
  · obtain rfl : N0 = 13 := by omega
    exact ll_13 tl0 el0 K0 tl1 el1 K1 N1 h1
  by_cases c14 : N0 < 15
  · obtain rfl : N0 = 14 := by omega
    exact ll_14 tl0 el0 K0 tl1 el1 K1 N1 h1
  by_cases c15 : N0 < 16
  · obtain rfl : N0 = 15 := by omega
    exact ll_15 tl0 el0 K0 tl1 el1 K1 N1 h1
  by_cases c16 : N0 < 17
  · obtain rfl : N0 = 16 := by omega
    exact ll_16 tl0 el0 K0 tl1 el1 K1 N1 h1
  by_cases c17 : N0 < 18
  · obtain rfl : N0 = 17 := by omega
    exact ll_17 tl0 el0 K0 tl1 el1 K1 N1 h1
  by_cases c18 : N0 < 19
  · obtain rfl : N0 = 18 := by omega
    exact ll_18 tl0 el0 K0 tl1 el1 K1 N1 h1
  by_cases c19 : N0 < 20
  · obtain rfl : N0 = 19 := by omega
    exact ll_19 tl0 el0 K0 tl1 el1 K1 N1 h1
  by_cases c20 : N0 < 21
  · obtain rfl : N0 = 20 := by omega
    exact ll_20 tl0 el0 K0 tl1 el1 K1 N1 h1
  by_cases c21 : N0 < 22
  · obtain rfl : N0 = 21 := by omega
    exact ll_21 tl0 el0 K0 tl1 el1 K1 N1 h1
  by_cases c22 : N0 < 23
  · obtain rfl : N0 = 22 := by omega
    exact ll_22 tl0 el0 K0 tl1 el1 K1 N1 h1
  by_cases c23 : N0 < 24
  · obtain rfl : N0 = 23 := by omega
    exact ll_23 tl0 el0 K0 tl1 el1 K1 N1 h1
  by_cases c24 : N0 < 25
  · obtain rfl : N0 = 24 := by omega
    exact ll_24 tl0 el0 K0 tl1 el1 K1 N1 h1
  by_cases c25 : N0 < 26
  · obtain rfl : N0 = 25 := by omega
    exact ll_25 tl0 el0 K0 tl1 el1 K1 N1 h1
  by_cases c26 : N0 < 27
  · obtain rfl : N0 = 26 := by omega
    exact ll_26 tl0 el0 K0 tl1 el1 K1 N1 h1
  by_cases c27 : N0 < 28
  · obtain rfl : N0 = 27 := by omega
    exact ll_27 tl0 el0 K0 tl1 el1 K1 N1 h1
  by_cases c28 : N0 < 29
  · obtain rfl : N0 = 28 := by omega
    exact ll_28 tl0 el0 K0 tl1 el1 K1 N1 h1
  by_cases c29 : N0 < 30
  · obtain rfl : N0 = 29 := by omega
    exact ll_29 tl0 el0 K0 tl1 el1 K1 N1 h1
  obtain rfl : N0 = 30 := by omega
  exact ll_30 tl0 el0 K0 tl1 el1 K1 N1 h1
end Go.Proofs.Ytfibgjognhimmaa.atomicFull
