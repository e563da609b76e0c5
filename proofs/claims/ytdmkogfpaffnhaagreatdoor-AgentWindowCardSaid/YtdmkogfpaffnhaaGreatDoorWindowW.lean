/- The walk of AgentWindow: the executor finds it true, case by case. -/
import Derived.Test.YtdmkogfpaffnhaaGreatDoorWindowW0
import Derived.Test.YtdmkogfpaffnhaaGreatDoorWindowW1
import Derived.Test.YtdmkogfpaffnhaaGreatDoorWindowW2
import Derived.Test.YtdmkogfpaffnhaaGreatDoorWindowW3
import Derived.Test.YtdmkogfpaffnhaaGreatDoorWindowW4
import Derived.Test.YtdmkogfpaffnhaaGreatDoorWindowW5
import Derived.Test.YtdmkogfpaffnhaaGreatDoorWindowW6
namespace Go.Proofs.YtdmkogfpaffnhaaGreatDoor.agentWindow
open Go.ChangeShapes Go.WideShapes Go.ChangeAt Go.RowKit
theorem walk (a0 : Int) (a1 : Int) (a2 : Bool) (w : World) (b0 : -9223372036854775808 ≤ a0 ∧ a0 ≤ 9223372036854775807) (b1 : -9223372036854775808 ≤ a1 ∧ a1 ≤ 9223372036854775807) :
    Calls Tryz.prog 14 #[.int .i64 a0, .int .i64 a1, .bool a2] w fun e w' => e = .returned (.bool true) ∧ Below w.heap.size w w' := by
  letI : Toks := ⟨fun k => if k = 0 then a0 else if k = 1 then a1 else if k = 100 then a0 % 9 else if k = 101 then a1 % 7 else 0⟩
  obtain ⟨c0, h0, e0⟩ := cover_get (t := 100) (n := 9) (l := cov0) (by kernel_rfl) (a := a0) (by decide) rfl
  obtain ⟨c1, h1, e1⟩ := cover_get (t := 101) (n := 7) (l := cov1) (by kernel_rfl) (a := a1) (by decide) rfl
  have hc : chk Tryz.prog c0 c1 a2 = true := by
    have hs1 : cov1 = ([(0, 0)] : List (Nat × Nat)) ++ (([(1, 1)] : List (Nat × Nat)) ++ (([(2, 2)] : List (Nat × Nat)) ++ (([(3, 3)] : List (Nat × Nat)) ++ (([(4, 4)] : List (Nat × Nat)) ++ (([(5, 5)] : List (Nat × Nat)) ++ (([(6, 6)] : List (Nat × Nat)))))))) := by kernel_rfl
    rw [hs1] at h1
    rcases List.mem_append.1 h1 with h1 | h1
    · skip
      have h := all0_0
      simp only [List.all_eq_true] at h
      exact h c0 h0 c1 h1 a2 (by cases a2 <;> simp)
    rcases List.mem_append.1 h1 with h1 | h1
    · skip
      have h := all0_1
      simp only [List.all_eq_true] at h
      exact h c0 h0 c1 h1 a2 (by cases a2 <;> simp)
    rcases List.mem_append.1 h1 with h1 | h1
    · skip
      have h := all0_2
      simp only [List.all_eq_true] at h
      exact h c0 h0 c1 h1 a2 (by cases a2 <;> simp)
    rcases List.mem_append.1 h1 with h1 | h1
    · skip
      have h := all0_3
      simp only [List.all_eq_true] at h
      exact h c0 h0 c1 h1 a2 (by cases a2 <;> simp)
    rcases List.mem_append.1 h1 with h1 | h1
    · skip
      have h := all0_4
      simp only [List.all_eq_true] at h
      exact h c0 h0 c1 h1 a2 (by cases a2 <;> simp)
    rcases List.mem_append.1 h1 with h1 | h1
    · skip
      have h := all0_5
      simp only [List.all_eq_true] at h
      exact h c0 h0 c1 h1 a2 (by cases a2 <;> simp)
    have h := all0_6
    simp only [List.all_eq_true] at h
    exact h c0 h0 c1 h1 a2 (by cases a2 <;> simp)
  refine top_plain (okF := cfg c0 c1 a2) tabAll_ok ⟨overW_ok [(0, 9, caseV 100 c0), (1, 7, caseV 101 c1)] (fun q hq => ?_) fun q hq => ?_, summAll_ok, summAll_mono⟩ mixed 3000 60 w ?_ hc
  · simp only [List.mem_cons, List.not_mem_nil, or_false] at hq
    rcases hq with rfl | rfl
    · exact b0
    · exact b1
  · simp only [List.mem_cons, List.not_mem_nil, or_false] at hq
    rcases hq with rfl | rfl
    · exact ⟨(by show (1 : Int) ≤ 9; decide), (by show (9 : Int) ≤ 9223372036854775807; decide), e0⟩
    · exact ⟨(by show (1 : Int) ≤ 7; decide), (by show (7 : Int) ≤ 9223372036854775807; decide), e1⟩
  · exact .cons (rfl) (.cons (rfl) (.cons (VR.flat rfl) .nil))
end Go.Proofs.YtdmkogfpaffnhaaGreatDoor.agentWindow
