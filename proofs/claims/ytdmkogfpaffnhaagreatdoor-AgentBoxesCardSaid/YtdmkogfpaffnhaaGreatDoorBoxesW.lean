/- The walk of AgentBoxes: the executor finds it true, case by case. -/
import Derived.Test.YtdmkogfpaffnhaaGreatDoorBoxesW0
import Derived.Test.YtdmkogfpaffnhaaGreatDoorBoxesW1
import Derived.Test.YtdmkogfpaffnhaaGreatDoorBoxesW2
import Derived.Test.YtdmkogfpaffnhaaGreatDoorBoxesW3
import Derived.Test.YtdmkogfpaffnhaaGreatDoorBoxesW4
import Derived.Test.YtdmkogfpaffnhaaGreatDoorBoxesW5
import Derived.Test.YtdmkogfpaffnhaaGreatDoorBoxesW6
import Derived.Test.YtdmkogfpaffnhaaGreatDoorBoxesW7
import Derived.Test.YtdmkogfpaffnhaaGreatDoorBoxesW8
namespace Go.Proofs.YtdmkogfpaffnhaaGreatDoor.agentBoxes
open Go.ChangeShapes Go.WideShapes Go.ChangeAt Go.RowKit
theorem walk (a0 : Int) (a1 : Int) (w : World) (b0 : -9223372036854775808 ≤ a0 ∧ a0 ≤ 9223372036854775807) (b1 : -9223372036854775808 ≤ a1 ∧ a1 ≤ 9223372036854775807) :
    Calls Tryz.prog 13 #[.int .i64 a0, .int .i64 a1] w fun e w' => e = .returned (.bool true) ∧ Below w.heap.size w w' := by
  letI : Toks := ⟨fun k => if k = 0 then a0 else if k = 1 then a1 else if k = 100 then a0 % 9 else if k = 101 then a1 % 5 else 0⟩
  obtain ⟨c0, h0, e0⟩ := cover_get (t := 100) (n := 9) (l := cov0) (by kernel_rfl) (a := a0) (by decide) rfl
  obtain ⟨c1, h1, e1⟩ := cover_get (t := 101) (n := 5) (l := cov1) (by kernel_rfl) (a := a1) (by decide) rfl
  have hc : chk Tryz.prog c0 c1 = true := by
    have hs0 : cov0 = ([(0, 0)] : List (Nat × Nat)) ++ (([(1, 1)] : List (Nat × Nat)) ++ (([(2, 2)] : List (Nat × Nat)) ++ (([(3, 3)] : List (Nat × Nat)) ++ (([(4, 4)] : List (Nat × Nat)) ++ (([(5, 5)] : List (Nat × Nat)) ++ (([(6, 6)] : List (Nat × Nat)) ++ (([(7, 7)] : List (Nat × Nat)) ++ (([(8, 8)] : List (Nat × Nat)))))))))) := by kernel_rfl
    rw [hs0] at h0
    have hs1 : cov1 = ([(0, 0)] : List (Nat × Nat)) ++ (([(1, 1)] : List (Nat × Nat)) ++ (([(2, 2)] : List (Nat × Nat)) ++ (([(3, 3)] : List (Nat × Nat)) ++ (([(4, 4)] : List (Nat × Nat)))))) := by kernel_rfl
    rw [hs1] at h1
    rcases List.mem_append.1 h0 with h0 | h0
    · skip
      rcases List.mem_append.1 h1 with h1 | h1
      · skip
        have h := all0_0
        simp only [List.all_eq_true] at h
        exact h c0 h0 c1 h1
      rcases List.mem_append.1 h1 with h1 | h1
      · skip
        have h := all0_1
        simp only [List.all_eq_true] at h
        exact h c0 h0 c1 h1
      rcases List.mem_append.1 h1 with h1 | h1
      · skip
        have h := all0_2
        simp only [List.all_eq_true] at h
        exact h c0 h0 c1 h1
      rcases List.mem_append.1 h1 with h1 | h1
      · skip
        have h := all0_3
        simp only [List.all_eq_true] at h
        exact h c0 h0 c1 h1
      have h := all0_4
      simp only [List.all_eq_true] at h
      exact h c0 h0 c1 h1
    rcases List.mem_append.1 h0 with h0 | h0
    · skip
      rcases List.mem_append.1 h1 with h1 | h1
      · skip
        have h := all1_0
        simp only [List.all_eq_true] at h
        exact h c0 h0 c1 h1
      rcases List.mem_append.1 h1 with h1 | h1
      · skip
        have h := all1_1
        simp only [List.all_eq_true] at h
        exact h c0 h0 c1 h1
      rcases List.mem_append.1 h1 with h1 | h1
      · skip
        have h := all1_2
        simp only [List.all_eq_true] at h
        exact h c0 h0 c1 h1
      rcases List.mem_append.1 h1 with h1 | h1
      · skip
        have h := all1_3
        simp only [List.all_eq_true] at h
        exact h c0 h0 c1 h1
      have h := all1_4
      simp only [List.all_eq_true] at h
      exact h c0 h0 c1 h1
    rcases List.mem_append.1 h0 with h0 | h0
    · skip
      rcases List.mem_append.1 h1 with h1 | h1
      · skip
        have h := all2_0
        simp only [List.all_eq_true] at h
        exact h c0 h0 c1 h1
      rcases List.mem_append.1 h1 with h1 | h1
      · skip
        have h := all2_1
        simp only [List.all_eq_true] at h
        exact h c0 h0 c1 h1
      rcases List.mem_append.1 h1 with h1 | h1
      · skip
        have h := all2_2
        simp only [List.all_eq_true] at h
        exact h c0 h0 c1 h1
      rcases List.mem_append.1 h1 with h1 | h1
      · skip
        have h := all2_3
        simp only [List.all_eq_true] at h
        exact h c0 h0 c1 h1
      have h := all2_4
      simp only [List.all_eq_true] at h
      exact h c0 h0 c1 h1
    rcases List.mem_append.1 h0 with h0 | h0
    · skip
      rcases List.mem_append.1 h1 with h1 | h1
      · skip
        have h := all3_0
        simp only [List.all_eq_true] at h
        exact h c0 h0 c1 h1
      rcases List.mem_append.1 h1 with h1 | h1
      · skip
        have h := all3_1
        simp only [List.all_eq_true] at h
        exact h c0 h0 c1 h1
      rcases List.mem_append.1 h1 with h1 | h1
      · skip
        have h := all3_2
        simp only [List.all_eq_true] at h
        exact h c0 h0 c1 h1
      rcases List.mem_append.1 h1 with h1 | h1
      · skip
        have h := all3_3
        simp only [List.all_eq_true] at h
        exact h c0 h0 c1 h1
      have h := all3_4
      simp only [List.all_eq_true] at h
      exact h c0 h0 c1 h1
    rcases List.mem_append.1 h0 with h0 | h0
    · skip
      rcases List.mem_append.1 h1 with h1 | h1
      · skip
        have h := all4_0
        simp only [List.all_eq_true] at h
        exact h c0 h0 c1 h1
      rcases List.mem_append.1 h1 with h1 | h1
      · skip
        have h := all4_1
        simp only [List.all_eq_true] at h
        exact h c0 h0 c1 h1
      rcases List.mem_append.1 h1 with h1 | h1
      · skip
        have h := all4_2
        simp only [List.all_eq_true] at h
        exact h c0 h0 c1 h1
      rcases List.mem_append.1 h1 with h1 | h1
      · skip
        have h := all4_3
        simp only [List.all_eq_true] at h
        exact h c0 h0 c1 h1
      have h := all4_4
      simp only [List.all_eq_true] at h
      exact h c0 h0 c1 h1
    rcases List.mem_append.1 h0 with h0 | h0
    · skip
      rcases List.mem_append.1 h1 with h1 | h1
      · skip
        have h := all5_0
        simp only [List.all_eq_true] at h
        exact h c0 h0 c1 h1
      rcases List.mem_append.1 h1 with h1 | h1
      · skip
        have h := all5_1
        simp only [List.all_eq_true] at h
        exact h c0 h0 c1 h1
      rcases List.mem_append.1 h1 with h1 | h1
      · skip
        have h := all5_2
        simp only [List.all_eq_true] at h
        exact h c0 h0 c1 h1
      rcases List.mem_append.1 h1 with h1 | h1
      · skip
        have h := all5_3
        simp only [List.all_eq_true] at h
        exact h c0 h0 c1 h1
      have h := all5_4
      simp only [List.all_eq_true] at h
      exact h c0 h0 c1 h1
    rcases List.mem_append.1 h0 with h0 | h0
    · skip
      rcases List.mem_append.1 h1 with h1 | h1
      · skip
        have h := all6_0
        simp only [List.all_eq_true] at h
        exact h c0 h0 c1 h1
      rcases List.mem_append.1 h1 with h1 | h1
      · skip
        have h := all6_1
        simp only [List.all_eq_true] at h
        exact h c0 h0 c1 h1
      rcases List.mem_append.1 h1 with h1 | h1
      · skip
        have h := all6_2
        simp only [List.all_eq_true] at h
        exact h c0 h0 c1 h1
      rcases List.mem_append.1 h1 with h1 | h1
      · skip
        have h := all6_3
        simp only [List.all_eq_true] at h
        exact h c0 h0 c1 h1
      have h := all6_4
      simp only [List.all_eq_true] at h
      exact h c0 h0 c1 h1
    rcases List.mem_append.1 h0 with h0 | h0
    · skip
      rcases List.mem_append.1 h1 with h1 | h1
      · skip
        have h := all7_0
        simp only [List.all_eq_true] at h
        exact h c0 h0 c1 h1
      rcases List.mem_append.1 h1 with h1 | h1
      · skip
        have h := all7_1
        simp only [List.all_eq_true] at h
        exact h c0 h0 c1 h1
      rcases List.mem_append.1 h1 with h1 | h1
      · skip
        have h := all7_2
        simp only [List.all_eq_true] at h
        exact h c0 h0 c1 h1
      rcases List.mem_append.1 h1 with h1 | h1
      · skip
        have h := all7_3
        simp only [List.all_eq_true] at h
        exact h c0 h0 c1 h1
      have h := all7_4
      simp only [List.all_eq_true] at h
      exact h c0 h0 c1 h1
    rcases List.mem_append.1 h1 with h1 | h1
    · skip
      have h := all8_0
      simp only [List.all_eq_true] at h
      exact h c0 h0 c1 h1
    rcases List.mem_append.1 h1 with h1 | h1
    · skip
      have h := all8_1
      simp only [List.all_eq_true] at h
      exact h c0 h0 c1 h1
    rcases List.mem_append.1 h1 with h1 | h1
    · skip
      have h := all8_2
      simp only [List.all_eq_true] at h
      exact h c0 h0 c1 h1
    rcases List.mem_append.1 h1 with h1 | h1
    · skip
      have h := all8_3
      simp only [List.all_eq_true] at h
      exact h c0 h0 c1 h1
    have h := all8_4
    simp only [List.all_eq_true] at h
    exact h c0 h0 c1 h1
  refine top_plain (okF := cfg c0 c1) tabAll_ok ⟨overW_ok [(0, 9, caseV 100 c0), (1, 5, caseV 101 c1)] (fun q hq => ?_) fun q hq => ?_, summAll_ok, summAll_mono⟩ mixed 3000 60 w ?_ hc
  · simp only [List.mem_cons, List.not_mem_nil, or_false] at hq
    rcases hq with rfl | rfl
    · exact b0
    · exact b1
  · simp only [List.mem_cons, List.not_mem_nil, or_false] at hq
    rcases hq with rfl | rfl
    · exact ⟨(by show (1 : Int) ≤ 9; decide), (by show (9 : Int) ≤ 9223372036854775807; decide), e0⟩
    · exact ⟨(by show (1 : Int) ≤ 5; decide), (by show (5 : Int) ≤ 9223372036854775807; decide), e1⟩
  · exact .cons (rfl) (.cons (rfl) .nil)
end Go.Proofs.YtdmkogfpaffnhaaGreatDoor.agentBoxes
