/- The walk of KeepErrors: the executor finds it true, case by case. -/
import Derived.Test.YtpjhjjdhibnciaaGreatDoorKEW0
import Derived.Test.YtpjhjjdhibnciaaGreatDoorKEW1
import Derived.Test.YtpjhjjdhibnciaaGreatDoorKEW2
import Derived.Test.YtpjhjjdhibnciaaGreatDoorKEW3
namespace Go.Proofs.YtpjhjjdhibnciaaGreatDoor.keepErrors
open Go.ChangeShapes Go.WideShapes Go.ChangeAt Go.RowKit
theorem walk (a0 : Int) (w : World) (b0 : -9223372036854775808 ≤ a0 ∧ a0 ≤ 9223372036854775807) :
    Calls Tryz.prog 4 #[.int .i64 a0] w fun e w' => e = .returned (.bool true) ∧ Below w.heap.size w w' := by
  letI : Toks := ⟨fun k => if k = 0 then a0 else if k = 100 then a0 % 100 else 0⟩
  obtain ⟨c0, h0, e0⟩ := cover_get (t := 100) (n := 100) (l := cov0) (by kernel_rfl) (a := a0) (by decide) rfl
  have hc : chk Tryz.prog c0 = true := by
    have hs0 : cov0 = ([(0, 0), (1, 1), (2, 2), (3, 3), (4, 4), (5, 5), (6, 6), (7, 7), (8, 8), (9, 9)] : List (Nat × Nat)) ++ (([(10, 10), (11, 11), (12, 12), (13, 13), (14, 14), (15, 15), (16, 16), (17, 17), (18, 18), (19, 19)] : List (Nat × Nat)) ++ (([(20, 20), (21, 21), (22, 22), (23, 23), (24, 24), (25, 25), (26, 26), (27, 27), (28, 28), (29, 29)] : List (Nat × Nat)) ++ (([(30, 30), (31, 31), (32, 32), (33, 33), (34, 34), (35, 35), (36, 36), (37, 37), (38, 38), (39, 39)] : List (Nat × Nat)) ++ (([(40, 40), (41, 41), (42, 42), (43, 43), (44, 44), (45, 45), (46, 46), (47, 47), (48, 48), (49, 49)] : List (Nat × Nat)) ++ (([(50, 50), (51, 51), (52, 52), (53, 53), (54, 54), (55, 55), (56, 56), (57, 57), (58, 58), (59, 59)] : List (Nat × Nat)) ++ (([(60, 60), (61, 61), (62, 62), (63, 63), (64, 64), (65, 65), (66, 66), (67, 67), (68, 68), (69, 69)] : List (Nat × Nat)) ++ (([(70, 70), (71, 71), (72, 72), (73, 73), (74, 74), (75, 75), (76, 76), (77, 77), (78, 78), (79, 79)] : List (Nat × Nat)) ++ (([(80, 80), (81, 81), (82, 82), (83, 83), (84, 84), (85, 85), (86, 86), (87, 87), (88, 88), (89, 89)] : List (Nat × Nat)) ++ (([(90, 90), (91, 91), (92, 92), (93, 93), (94, 94), (95, 95), (96, 96), (97, 97), (98, 98), (99, 99)] : List (Nat × Nat))))))))))) := by kernel_rfl
    rw [hs0] at h0
    rcases List.mem_append.1 h0 with h0 | h0
    · skip
      have h := all0_0
      simp only [List.all_eq_true] at h
      exact h c0 h0
    rcases List.mem_append.1 h0 with h0 | h0
    · skip
      have h := all1_0
      simp only [List.all_eq_true] at h
      exact h c0 h0
    rcases List.mem_append.1 h0 with h0 | h0
    · skip
      have h := all2_0
      simp only [List.all_eq_true] at h
      exact h c0 h0
    rcases List.mem_append.1 h0 with h0 | h0
    · skip
      have h := all3_0
      simp only [List.all_eq_true] at h
      exact h c0 h0
    rcases List.mem_append.1 h0 with h0 | h0
    · skip
      have h := all4_0
      simp only [List.all_eq_true] at h
      exact h c0 h0
    rcases List.mem_append.1 h0 with h0 | h0
    · skip
      have h := all5_0
      simp only [List.all_eq_true] at h
      exact h c0 h0
    rcases List.mem_append.1 h0 with h0 | h0
    · skip
      have h := all6_0
      simp only [List.all_eq_true] at h
      exact h c0 h0
    rcases List.mem_append.1 h0 with h0 | h0
    · skip
      have h := all7_0
      simp only [List.all_eq_true] at h
      exact h c0 h0
    rcases List.mem_append.1 h0 with h0 | h0
    · skip
      have h := all8_0
      simp only [List.all_eq_true] at h
      exact h c0 h0
    have h := all9_0
    simp only [List.all_eq_true] at h
    exact h c0 h0
  refine top_plain (okF := cfg c0) tabAll_ok ⟨overW_ok [(0, 100, caseV 100 c0)] (fun q hq => ?_) fun q hq => ?_, summAll_ok, summAll_mono⟩ mixed 3000 60 w ?_ hc
  · simp only [List.mem_cons, List.not_mem_nil, or_false] at hq
    rcases hq with rfl
    exact b0
  · simp only [List.mem_cons, List.not_mem_nil, or_false] at hq
    rcases hq with rfl
    exact ⟨(by show (1 : Int) ≤ 100; decide), (by show (100 : Int) ≤ 9223372036854775807; decide), e0⟩
  · exact .cons (rfl) .nil
end Go.Proofs.YtpjhjjdhibnciaaGreatDoor.keepErrors
