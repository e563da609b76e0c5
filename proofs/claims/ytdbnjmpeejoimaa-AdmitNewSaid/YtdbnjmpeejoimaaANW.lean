/- The walk of AdmitNew: the executor finds it true, case by case. -/
import Derived.Test.YtdbnjmpeejoimaaANW0
import Derived.Test.YtdbnjmpeejoimaaANW1
import Derived.Test.YtdbnjmpeejoimaaANW2
import Derived.Test.YtdbnjmpeejoimaaANW3
import Derived.Test.YtdbnjmpeejoimaaANW4
import Derived.Test.YtdbnjmpeejoimaaANW5
import Derived.Test.YtdbnjmpeejoimaaANW6
import Derived.Test.YtdbnjmpeejoimaaANW7
namespace Go.Proofs.Ytdbnjmpeejoimaa.admitNew
open Go.ChangeShapes Go.WideShapes Go.ChangeAt Go.RowKit
theorem walk (a0 : Int) (a1 : Int) (a2 : Int) (w : World) (b0 : -9223372036854775808 ≤ a0 ∧ a0 ≤ 9223372036854775807) (b1 : -9223372036854775808 ≤ a1 ∧ a1 ≤ 9223372036854775807) (b2 : -9223372036854775808 ≤ a2 ∧ a2 ≤ 9223372036854775807) :
    Calls Try.prog 9 #[.int .i64 a0, .int .i64 a1, .int .i64 a2] w fun e w' => e = .returned (.bool true) ∧ Below w.heap.size w w' := by
  letI : Toks := ⟨fun k => if k = 0 then a0 else if k = 1 then a1 else if k = 2 then a2 else if k = 100 then a0 % 8 else if k = 101 then a1 % 8 else if k = 102 then a2 % 26 else 0⟩
  obtain ⟨c0, h0, e0⟩ := cover_get (t := 100) (n := 8) (l := cov0) (by kernel_rfl) (a := a0) (by decide) rfl
  obtain ⟨c1, h1, e1⟩ := cover_get (t := 101) (n := 8) (l := cov1) (by kernel_rfl) (a := a1) (by decide) rfl
  obtain ⟨c2, h2, e2⟩ := cover_get (t := 102) (n := 26) (l := cov2) (by kernel_rfl) (a := a2) (by decide) rfl
  have hc : chk Try.prog c0 c1 c2 = true := by
    have hs0 : cov0 = ([(0, 0)] : List (Nat × Nat)) ++ (([(1, 1)] : List (Nat × Nat)) ++ (([(2, 2)] : List (Nat × Nat)) ++ (([(3, 3)] : List (Nat × Nat)) ++ (([(4, 4)] : List (Nat × Nat)) ++ (([(5, 5)] : List (Nat × Nat)) ++ (([(6, 6)] : List (Nat × Nat)) ++ (([(7, 7)] : List (Nat × Nat))))))))) := by kernel_rfl
    rw [hs0] at h0
    have hs1 : cov1 = ([(0, 0), (1, 1)] : List (Nat × Nat)) ++ (([(2, 2), (3, 3)] : List (Nat × Nat)) ++ (([(4, 4), (5, 5)] : List (Nat × Nat)) ++ (([(6, 6), (7, 7)] : List (Nat × Nat))))) := by kernel_rfl
    rw [hs1] at h1
    rcases List.mem_append.1 h0 with h0 | h0
    · skip
      rcases List.mem_append.1 h1 with h1 | h1
      · skip
        have h := all0_0
        simp only [List.all_eq_true] at h
        exact h c0 h0 c1 h1 c2 h2
      rcases List.mem_append.1 h1 with h1 | h1
      · skip
        have h := all0_1
        simp only [List.all_eq_true] at h
        exact h c0 h0 c1 h1 c2 h2
      rcases List.mem_append.1 h1 with h1 | h1
      · skip
        have h := all0_2
        simp only [List.all_eq_true] at h
        exact h c0 h0 c1 h1 c2 h2
      have h := all0_3
      simp only [List.all_eq_true] at h
      exact h c0 h0 c1 h1 c2 h2
    rcases List.mem_append.1 h0 with h0 | h0
    · skip
      rcases List.mem_append.1 h1 with h1 | h1
      · skip
        have h := all1_0
        simp only [List.all_eq_true] at h
        exact h c0 h0 c1 h1 c2 h2
      rcases List.mem_append.1 h1 with h1 | h1
      · skip
        have h := all1_1
        simp only [List.all_eq_true] at h
        exact h c0 h0 c1 h1 c2 h2
      rcases List.mem_append.1 h1 with h1 | h1
      · skip
        have h := all1_2
        simp only [List.all_eq_true] at h
        exact h c0 h0 c1 h1 c2 h2
      have h := all1_3
      simp only [List.all_eq_true] at h
      exact h c0 h0 c1 h1 c2 h2
    rcases List.mem_append.1 h0 with h0 | h0
    · skip
      rcases List.mem_append.1 h1 with h1 | h1
      · skip
        have h := all2_0
        simp only [List.all_eq_true] at h
        exact h c0 h0 c1 h1 c2 h2
      rcases List.mem_append.1 h1 with h1 | h1
      · skip
        have h := all2_1
        simp only [List.all_eq_true] at h
        exact h c0 h0 c1 h1 c2 h2
      rcases List.mem_append.1 h1 with h1 | h1
      · skip
        have h := all2_2
        simp only [List.all_eq_true] at h
        exact h c0 h0 c1 h1 c2 h2
      have h := all2_3
      simp only [List.all_eq_true] at h
      exact h c0 h0 c1 h1 c2 h2
    rcases List.mem_append.1 h0 with h0 | h0
    · skip
      rcases List.mem_append.1 h1 with h1 | h1
      · skip
        have h := all3_0
        simp only [List.all_eq_true] at h
        exact h c0 h0 c1 h1 c2 h2
      rcases List.mem_append.1 h1 with h1 | h1
      · skip
        have h := all3_1
        simp only [List.all_eq_true] at h
        exact h c0 h0 c1 h1 c2 h2
      rcases List.mem_append.1 h1 with h1 | h1
      · skip
        have h := all3_2
        simp only [List.all_eq_true] at h
        exact h c0 h0 c1 h1 c2 h2
      have h := all3_3
      simp only [List.all_eq_true] at h
      exact h c0 h0 c1 h1 c2 h2
    rcases List.mem_append.1 h0 with h0 | h0
    · skip
      rcases List.mem_append.1 h1 with h1 | h1
      · skip
        have h := all4_0
        simp only [List.all_eq_true] at h
        exact h c0 h0 c1 h1 c2 h2
      rcases List.mem_append.1 h1 with h1 | h1
      · skip
        have h := all4_1
        simp only [List.all_eq_true] at h
        exact h c0 h0 c1 h1 c2 h2
      rcases List.mem_append.1 h1 with h1 | h1
      · skip
        have h := all4_2
        simp only [List.all_eq_true] at h
        exact h c0 h0 c1 h1 c2 h2
      have h := all4_3
      simp only [List.all_eq_true] at h
      exact h c0 h0 c1 h1 c2 h2
    rcases List.mem_append.1 h0 with h0 | h0
    · skip
      rcases List.mem_append.1 h1 with h1 | h1
      · skip
        have h := all5_0
        simp only [List.all_eq_true] at h
        exact h c0 h0 c1 h1 c2 h2
      rcases List.mem_append.1 h1 with h1 | h1
      · skip
        have h := all5_1
        simp only [List.all_eq_true] at h
        exact h c0 h0 c1 h1 c2 h2
      rcases List.mem_append.1 h1 with h1 | h1
      · skip
        have h := all5_2
        simp only [List.all_eq_true] at h
        exact h c0 h0 c1 h1 c2 h2
      have h := all5_3
      simp only [List.all_eq_true] at h
      exact h c0 h0 c1 h1 c2 h2
    rcases List.mem_append.1 h0 with h0 | h0
    · skip
      rcases List.mem_append.1 h1 with h1 | h1
      · skip
        have h := all6_0
        simp only [List.all_eq_true] at h
        exact h c0 h0 c1 h1 c2 h2
      rcases List.mem_append.1 h1 with h1 | h1
      · skip
        have h := all6_1
        simp only [List.all_eq_true] at h
        exact h c0 h0 c1 h1 c2 h2
      rcases List.mem_append.1 h1 with h1 | h1
      · skip
        have h := all6_2
        simp only [List.all_eq_true] at h
        exact h c0 h0 c1 h1 c2 h2
      have h := all6_3
      simp only [List.all_eq_true] at h
      exact h c0 h0 c1 h1 c2 h2
    rcases List.mem_append.1 h1 with h1 | h1
    · skip
      have h := all7_0
      simp only [List.all_eq_true] at h
      exact h c0 h0 c1 h1 c2 h2
    rcases List.mem_append.1 h1 with h1 | h1
    · skip
      have h := all7_1
      simp only [List.all_eq_true] at h
      exact h c0 h0 c1 h1 c2 h2
    rcases List.mem_append.1 h1 with h1 | h1
    · skip
      have h := all7_2
      simp only [List.all_eq_true] at h
      exact h c0 h0 c1 h1 c2 h2
    have h := all7_3
    simp only [List.all_eq_true] at h
    exact h c0 h0 c1 h1 c2 h2
  refine top_plain (okF := cfg c0 c1 c2) tabAll_ok ⟨overW_ok [(0, 8, caseV 100 c0), (1, 8, caseV 101 c1), (2, 26, caseV 102 c2)] (fun q hq => ?_) fun q hq => ?_, summAll_ok, summAll_mono⟩ mixed 3000 60 w ?_ hc
  · simp only [List.mem_cons, List.not_mem_nil, or_false] at hq
    rcases hq with rfl | rfl | rfl
    · exact b0
    · exact b1
    · exact b2
  · simp only [List.mem_cons, List.not_mem_nil, or_false] at hq
    rcases hq with rfl | rfl | rfl
    · exact ⟨(by show (1 : Int) ≤ 8; decide), (by show (8 : Int) ≤ 9223372036854775807; decide), e0⟩
    · exact ⟨(by show (1 : Int) ≤ 8; decide), (by show (8 : Int) ≤ 9223372036854775807; decide), e1⟩
    · exact ⟨(by show (1 : Int) ≤ 26; decide), (by show (26 : Int) ≤ 9223372036854775807; decide), e2⟩
  · exact .cons (rfl) (.cons (rfl) (.cons (rfl) .nil))
end Go.Proofs.Ytdbnjmpeejoimaa.admitNew
