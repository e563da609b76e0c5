/- The walk of AgentRuns: the executor finds it true, case by case. -/
import Derived.Test.YtpjhjjdhibnciaaGreatDoorARW0
import Derived.Test.YtpjhjjdhibnciaaGreatDoorARW1
import Derived.Test.YtpjhjjdhibnciaaGreatDoorARW2
namespace Go.Proofs.YtpjhjjdhibnciaaGreatDoor.agentRuns
open Go.ChangeShapes Go.WideShapes Go.ChangeAt Go.RowKit
theorem walk (a0 : Int) (a1 : Int) (w : World) (b0 : -9223372036854775808 ≤ a0 ∧ a0 ≤ 9223372036854775807) (b1 : -9223372036854775808 ≤ a1 ∧ a1 ≤ 9223372036854775807) :
    Calls Tryz.prog 12 #[.int .i64 a0, .int .i64 a1] w fun e w' => e = .returned (.bool true) ∧ Below w.heap.size w w' := by
  letI : Toks := ⟨fun k => if k = 0 then a0 else if k = 1 then a1 else if k = 100 then a0 % 3 else if k = 101 then a1 % 9 else 0⟩
  obtain ⟨c0, h0, e0⟩ := cover_get (t := 100) (n := 3) (l := cov0) (by kernel_rfl) (a := a0) (by decide) rfl
  obtain ⟨c1, h1, e1⟩ := cover_get (t := 101) (n := 9) (l := cov1) (by kernel_rfl) (a := a1) (by decide) rfl
  have hc : chk Tryz.prog c0 c1 = true := by
    have hs0 : cov0 = ([(0, 0)] : List (Nat × Nat)) ++ (([(1, 1)] : List (Nat × Nat)) ++ (([(2, 2)] : List (Nat × Nat)))) := by kernel_rfl
    rw [hs0] at h0
    have hs1 : cov1 = ([(0, 0), (1, 1), (2, 2)] : List (Nat × Nat)) ++ (([(3, 3), (4, 4), (5, 5)] : List (Nat × Nat)) ++ (([(6, 6), (7, 7), (8, 8)] : List (Nat × Nat)))) := by kernel_rfl
    rw [hs1] at h1
    rcases List.mem_append.1 h0 with h0 | h0
    · skip
      rcases List.mem_append.1 h1 with h1 | h1
      · skip
        have h := all0_0
        simp only [List.all_eq_true] at h
        exact h c0 h0 c1 h1
      rcases List.mem_append.1 h1 with h1 | h1
      · skip
        have h := all0_1
        simp only [List.all_eq_true] at h
        exact h c0 h0 c1 h1
      have h := all0_2
      simp only [List.all_eq_true] at h
      exact h c0 h0 c1 h1
    rcases List.mem_append.1 h0 with h0 | h0
    · skip
      rcases List.mem_append.1 h1 with h1 | h1
      · skip
        have h := all1_0
        simp only [List.all_eq_true] at h
        exact h c0 h0 c1 h1
      rcases List.mem_append.1 h1 with h1 | h1
      · skip
        have h := all1_1
        simp only [List.all_eq_true] at h
        exact h c0 h0 c1 h1
      have h := all1_2
      simp only [List.all_eq_true] at h
      exact h c0 h0 c1 h1
    rcases List.mem_append.1 h1 with h1 | h1
    · skip
      have h := all2_0
      simp only [List.all_eq_true] at h
      exact h c0 h0 c1 h1
    rcases List.mem_append.1 h1 with h1 | h1
    · skip
      have h := all2_1
      simp only [List.all_eq_true] at h
      exact h c0 h0 c1 h1
    have h := all2_2
    simp only [List.all_eq_true] at h
    exact h c0 h0 c1 h1
  refine top_plain (okF := cfg c0 c1) tabAll_ok ⟨overW_ok [(0, 3, caseV 100 c0), (1, 9, caseV 101 c1)] (fun q hq => ?_) fun q hq => ?_, summAll_ok, summAll_mono⟩ mixed 3000 60 w ?_ hc
  · simp only [List.mem_cons, List.not_mem_nil, or_false] at hq
    rcases hq with rfl | rfl
    · exact b0
    · exact b1
  · simp only [List.mem_cons, List.not_mem_nil, or_false] at hq
    rcases hq with rfl | rfl
    · exact ⟨(by show (1 : Int) ≤ 3; decide), (by show (3 : Int) ≤ 9223372036854775807; decide), e0⟩
    · exact ⟨(by show (1 : Int) ≤ 9; decide), (by show (9 : Int) ≤ 9223372036854775807; decide), e1⟩
  · exact .cons (rfl) (.cons (rfl) .nil)
end Go.Proofs.YtpjhjjdhibnciaaGreatDoor.agentRuns
