/- The walk of AgentShuts: the executor finds it true, case by case. -/
import Derived.Test.YtdmkogfpaffnhaaGreatDoorShutsW0
import Derived.Test.YtdmkogfpaffnhaaGreatDoorShutsW1
import Derived.Test.YtdmkogfpaffnhaaGreatDoorShutsW2
import Derived.Test.YtdmkogfpaffnhaaGreatDoorShutsW3
import Derived.Test.YtdmkogfpaffnhaaGreatDoorShutsW4
import Derived.Test.YtdmkogfpaffnhaaGreatDoorShutsW5
import Derived.Test.YtdmkogfpaffnhaaGreatDoorShutsW6
import Derived.Test.YtdmkogfpaffnhaaGreatDoorShutsW7
namespace Go.Proofs.YtdmkogfpaffnhaaGreatDoor.agentShuts
open Go.ChangeShapes Go.WideShapes Go.ChangeAt Go.RowKit
theorem walk (a0 : Int) (w : World) (b0 : -9223372036854775808 ≤ a0 ∧ a0 ≤ 9223372036854775807) :
    Calls Tryz.prog 7 #[.int .i64 a0] w fun e w' => e = .returned (.bool true) ∧ Below w.heap.size w w' := by
  letI : Toks := ⟨fun k => if k = 0 then a0 else if k = 100 then a0 % 8 else 0⟩
  obtain ⟨c0, h0, e0⟩ := cover_get (t := 100) (n := 8) (l := cov0) (by kernel_rfl) (a := a0) (by decide) rfl
  have hc : chk Tryz.prog c0 = true := by
    have hs0 : cov0 = ([(0, 0)] : List (Nat × Nat)) ++ (([(1, 1)] : List (Nat × Nat)) ++ (([(2, 2)] : List (Nat × Nat)) ++ (([(3, 3)] : List (Nat × Nat)) ++ (([(4, 4)] : List (Nat × Nat)) ++ (([(5, 5)] : List (Nat × Nat)) ++ (([(6, 6)] : List (Nat × Nat)) ++ (([(7, 7)] : List (Nat × Nat))))))))) := by kernel_rfl
    rw [hs0] at h0
    rcases List.mem_append.1 h0 with h0 | h0
    · skip
      have h := all0_0
      simp only [List.all_eq_true] at h
      exact h c0 h0
    rcases List.mem_append.1 h0 with h0 | h0
    · skip
      have h := all1_0
      simp only [List.all_eq_true] at h
      exact h c0 h0
    rcases List.mem_append.1 h0 with h0 | h0
    · skip
      have h := all2_0
      simp only [List.all_eq_true] at h
      exact h c0 h0
    rcases List.mem_append.1 h0 with h0 | h0
    · skip
      have h := all3_0
      simp only [List.all_eq_true] at h
      exact h c0 h0
    rcases List.mem_append.1 h0 with h0 | h0
    · skip
      have h := all4_0
      simp only [List.all_eq_true] at h
      exact h c0 h0
    rcases List.mem_append.1 h0 with h0 | h0
    · skip
      have h := all5_0
      simp only [List.all_eq_true] at h
      exact h c0 h0
    rcases List.mem_append.1 h0 with h0 | h0
    · skip
      have h := all6_0
      simp only [List.all_eq_true] at h
      exact h c0 h0
    have h := all7_0
    simp only [List.all_eq_true] at h
    exact h c0 h0
  refine top_plain (okF := cfg c0) tabAll_ok ⟨overW_ok [(0, 8, caseV 100 c0)] (fun q hq => ?_) fun q hq => ?_, summAll_ok, summAll_mono⟩ mixed 3000 60 w ?_ hc
  · simp only [List.mem_cons, List.not_mem_nil, or_false] at hq
    rcases hq with rfl
    exact b0
  · simp only [List.mem_cons, List.not_mem_nil, or_false] at hq
    rcases hq with rfl
    exact ⟨(by show (1 : Int) ≤ 8; decide), (by show (8 : Int) ≤ 9223372036854775807; decide), e0⟩
  · exact .cons (rfl) .nil
end Go.Proofs.YtdmkogfpaffnhaaGreatDoor.agentShuts
