/- The walk of AgentTicks: the executor finds it true, case by case. -/
import Derived.Test.YtdmkogfpaffnhaaGreatDoorTicksW0
import Derived.Test.YtdmkogfpaffnhaaGreatDoorTicksW1
import Derived.Test.YtdmkogfpaffnhaaGreatDoorTicksW2
namespace Go.Proofs.YtdmkogfpaffnhaaGreatDoor.agentTicks
open Go.ChangeShapes Go.WideShapes Go.ChangeAt Go.RowKit
theorem walk (a0 : Int) (w : World) (b0 : -9223372036854775808 ≤ a0 ∧ a0 ≤ 9223372036854775807) :
    Calls Tryz.prog 12 #[.int .i64 a0] w fun e w' => e = .returned (.bool true) ∧ Below w.heap.size w w' := by
  letI : Toks := ⟨fun k => if k = 0 then a0 else if k = 100 then a0 % 20 else 0⟩
  obtain ⟨c0, h0, e0⟩ := cover_get (t := 100) (n := 20) (l := cov0) (by kernel_rfl) (a := a0) (by decide) rfl
  have hc : chk Tryz.prog c0 = true := by
    have hs0 : cov0 = ([(0, 0)] : List (Nat × Nat)) ++ (([(1, 1)] : List (Nat × Nat)) ++ (([(2, 2)] : List (Nat × Nat)) ++ (([(3, 3)] : List (Nat × Nat)) ++ (([(4, 4)] : List (Nat × Nat)) ++ (([(5, 5)] : List (Nat × Nat)) ++ (([(6, 6)] : List (Nat × Nat)) ++ (([(7, 7)] : List (Nat × Nat)) ++ (([(8, 8)] : List (Nat × Nat)) ++ (([(9, 9)] : List (Nat × Nat)) ++ (([(10, 10)] : List (Nat × Nat)) ++ (([(11, 11)] : List (Nat × Nat)) ++ (([(12, 12)] : List (Nat × Nat)) ++ (([(13, 13)] : List (Nat × Nat)) ++ (([(14, 14)] : List (Nat × Nat)) ++ (([(15, 15)] : List (Nat × Nat)) ++ (([(16, 16)] : List (Nat × Nat)) ++ (([(17, 17)] : List (Nat × Nat)) ++ (([(18, 18)] : List (Nat × Nat)) ++ (([(19, 19)] : List (Nat × Nat))))))))))))))))))))) := by kernel_rfl
    rw [hs0] at h0
    rcases List.mem_append.1 h0 with h0 | h0
    · skip
      have h := all0_0
      simp only [List.all_eq_true] at h
      exact h c0 h0
    rcases List.mem_append.1 h0 with h0 | h0
    · skip
      have h := all1_0
      simp only [List.all_eq_true] at h
      exact h c0 h0
    rcases List.mem_append.1 h0 with h0 | h0
    · skip
      have h := all2_0
      simp only [List.all_eq_true] at h
      exact h c0 h0
    rcases List.mem_append.1 h0 with h0 | h0
    · skip
      have h := all3_0
      simp only [List.all_eq_true] at h
      exact h c0 h0
    rcases List.mem_append.1 h0 with h0 | h0
    · skip
      have h := all4_0
      simp only [List.all_eq_true] at h
      exact h c0 h0
    rcases List.mem_append.1 h0 with h0 | h0
    · skip
      have h := all5_0
      simp only [List.all_eq_true] at h
      exact h c0 h0
    rcases List.mem_append.1 h0 with h0 | h0
    · skip
      have h := all6_0
      simp only [List.all_eq_true] at h
      exact h c0 h0
    rcases List.mem_append.1 h0 with h0 | h0
    · skip
      have h := all7_0
      simp only [List.all_eq_true] at h
      exact h c0 h0
    rcases List.mem_append.1 h0 with h0 | h0
    · skip
      have h := all8_0
      simp only [List.all_eq_true] at h
      exact h c0 h0
    rcases List.mem_append.1 h0 with h0 | h0
    · skip
      have h := all9_0
      simp only [List.all_eq_true] at h
      exact h c0 h0
    rcases List.mem_append.1 h0 with h0 | h0
    · skip
      have h := all10_0
      simp only [List.all_eq_true] at h
      exact h c0 h0
    rcases List.mem_append.1 h0 with h0 | h0
    · skip
      have h := all11_0
      simp only [List.all_eq_true] at h
      exact h c0 h0
    rcases List.mem_append.1 h0 with h0 | h0
    · skip
      have h := all12_0
      simp only [List.all_eq_true] at h
      exact h c0 h0
    rcases List.mem_append.1 h0 with h0 | h0
    · skip
      have h := all13_0
      simp only [List.all_eq_true] at h
      exact h c0 h0
    rcases List.mem_append.1 h0 with h0 | h0
    · skip
      have h := all14_0
      simp only [List.all_eq_true] at h
      exact h c0 h0
    rcases List.mem_append.1 h0 with h0 | h0
    · skip
      have h := all15_0
      simp only [List.all_eq_true] at h
      exact h c0 h0
    rcases List.mem_append.1 h0 with h0 | h0
    · skip
      have h := all16_0
      simp only [List.all_eq_true] at h
      exact h c0 h0
    rcases List.mem_append.1 h0 with h0 | h0
    · skip
      have h := all17_0
      simp only [List.all_eq_true] at h
      exact h c0 h0
    rcases List.mem_append.1 h0 with h0 | h0
    · skip
      have h := all18_0
      simp only [List.all_eq_true] at h
      exact h c0 h0
    have h := all19_0
    simp only [List.all_eq_true] at h
    exact h c0 h0
  refine top_ok (okF := cfg c0) ⟨overW_ok [(0, 20, caseV 100 c0)] (fun q hq => ?_) fun q hq => ?_, summAll_ok, summAll_mono⟩ mixed 60000 w ?_ hc
  · simp only [List.mem_cons, List.not_mem_nil, or_false] at hq
    rcases hq with rfl
    exact b0
  · simp only [List.mem_cons, List.not_mem_nil, or_false] at hq
    rcases hq with rfl
    exact ⟨(by show (1 : Int) ≤ 20; decide), (by show (20 : Int) ≤ 9223372036854775807; decide), e0⟩
  · exact .cons (rfl) .nil
end Go.Proofs.YtdmkogfpaffnhaaGreatDoor.agentTicks
