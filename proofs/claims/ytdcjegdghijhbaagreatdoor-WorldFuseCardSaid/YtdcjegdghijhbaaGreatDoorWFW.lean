/- The walk of WorldFuse: the plain terms find it true, leaf by leaf. -/
import Derived.Test.YtdcjegdghijhbaaGreatDoorWFW0
import Derived.Test.YtdcjegdghijhbaaGreatDoorWFW1
import Derived.Test.YtdcjegdghijhbaaGreatDoorWFW2
import Derived.Test.YtdcjegdghijhbaaGreatDoorWFW3
import Derived.Test.YtdcjegdghijhbaaGreatDoorWFW4
namespace Go.Proofs.YtdcjegdghijhbaaGreatDoor.worldFuse
open Go.ChangeShapes Go.WideShapes Go.ChangeAt Go.RowKit
set_option maxRecDepth 1000000
set_option linter.unusedVariables false
theorem walk (a0 : Int) (a1 : Int) (w : World) (b0 : -9223372036854775808 ≤ a0 ∧ a0 ≤ 9223372036854775807) (b1 : -9223372036854775808 ≤ a1 ∧ a1 ≤ 9223372036854775807) :
    Calls Tryz.prog 3 #[.int .i64 a0, .int .i64 a1] w fun e w' => e = .returned (.bool true) ∧ Below w.heap.size w w' := by
  letI : Toks := ⟨fun k => if k = 0 then a0 else if k = 1 then a1 else if k = 100 then a0 % 6 else if k = 101 then a1 % 99 else 0⟩
  have fin : ∀ (l : List (Nat × Nat × Nat × Nat × Nat)), at_ l = true → (∀ q ∈ l, (-9223372036854775808 ≤ Toks.A q.1 ∧ Toks.A q.1 ≤ 9223372036854775807) ∧ 1 ≤ (q.2.1 : Int) ∧ (q.2.1 : Int) ≤ 9223372036854775807 ∧ ∀ ρ : Ren, VR ρ (caseV q.2.2.1 (q.2.2.2.1, q.2.2.2.2)) (.int .i64 (Toks.A q.1 % (q.2.1 : Int)))) →
      Calls Tryz.prog 3 #[.int .i64 a0, .int .i64 a1] w fun e w' => e = .returned (.bool true) ∧ Below w.heap.size w w' := by
    intro l hc hok
    refine top_plain (okF := cfg l) tabAll_ok ⟨overW_ok (tabOf l) (fun q hq => ?_) fun q hq => ?_, summD_ok, summD_mono⟩ mixed 3000 60 w ?_ hc
    · obtain ⟨x, hx, rfl⟩ := List.mem_map.1 hq
      exact (hok x hx).1
    · obtain ⟨x, hx, rfl⟩ := List.mem_map.1 hq
      exact (hok x hx).2
    · exact .cons (rfl) (.cons (rfl) .nil)
  obtain ⟨c0, h0, e0⟩ := cover_get (t := 100) (n := 6) (l := ([(0, 0), (1, 1), (2, 2), (3, 3), (4, 4), (5, 5)] : List (Nat × Nat))) (by kernel_rfl) (a := a0) (by decide) rfl
  simp only [List.mem_cons, List.not_mem_nil, or_false] at h0
  rcases h0 with rfl | rfl | rfl | rfl | rfl | rfl
  · skip
    obtain ⟨c1, h1, e1⟩ := cover_get (t := 101) (n := 99) (l := ([(0, 98)] : List (Nat × Nat))) (by kernel_rfl) (a := a1) (by decide) rfl
    refine fin _ (List.all_eq_true.1 all0 c1 h1) ?_
    intro q hq
    simp only [List.mem_cons, List.not_mem_nil, or_false] at hq
    rcases hq with rfl | rfl
    · exact ⟨b0, (by show (1 : Int) ≤ 6; decide), (by show (6 : Int) ≤ 9223372036854775807; decide), e0⟩
    · exact ⟨b1, (by show (1 : Int) ≤ 99; decide), (by show (99 : Int) ≤ 9223372036854775807; decide), e1⟩
  · skip
    obtain ⟨c1, h1, e1⟩ := cover_get (t := 101) (n := 99) (l := ([(0, 0), (1, 1), (2, 2), (3, 3), (4, 4), (5, 5), (6, 6), (7, 7), (8, 8), (9, 9), (10, 10), (11, 11), (12, 12), (13, 13), (14, 14), (15, 15), (16, 16), (17, 17), (18, 18), (19, 19), (20, 20), (21, 21), (22, 22), (23, 23), (24, 24), (25, 25), (26, 26), (27, 27), (28, 28), (29, 29), (30, 30), (31, 31), (32, 32), (33, 33), (34, 34), (35, 35), (36, 36), (37, 37), (38, 38), (39, 39), (40, 40), (41, 41), (42, 42), (43, 43), (44, 44), (45, 45), (46, 46), (47, 47), (48, 48), (49, 49), (50, 50), (51, 51), (52, 52), (53, 53), (54, 54), (55, 55), (56, 56), (57, 57), (58, 58), (59, 59), (60, 60), (61, 61), (62, 62), (63, 63), (64, 98)] : List (Nat × Nat))) (by kernel_rfl) (a := a1) (by decide) rfl
    rw [show ([(0, 0), (1, 1), (2, 2), (3, 3), (4, 4), (5, 5), (6, 6), (7, 7), (8, 8), (9, 9), (10, 10), (11, 11), (12, 12), (13, 13), (14, 14), (15, 15), (16, 16), (17, 17), (18, 18), (19, 19), (20, 20), (21, 21), (22, 22), (23, 23), (24, 24), (25, 25), (26, 26), (27, 27), (28, 28), (29, 29), (30, 30), (31, 31), (32, 32), (33, 33), (34, 34), (35, 35), (36, 36), (37, 37), (38, 38), (39, 39), (40, 40), (41, 41), (42, 42), (43, 43), (44, 44), (45, 45), (46, 46), (47, 47), (48, 48), (49, 49), (50, 50), (51, 51), (52, 52), (53, 53), (54, 54), (55, 55), (56, 56), (57, 57), (58, 58), (59, 59), (60, 60), (61, 61), (62, 62), (63, 63), (64, 98)] : List (Nat × Nat)) = ([(0, 0), (1, 1), (2, 2), (3, 3), (4, 4), (5, 5), (6, 6), (7, 7)] : List (Nat × Nat)) ++ (([(8, 8), (9, 9), (10, 10), (11, 11), (12, 12), (13, 13), (14, 14), (15, 15)] : List (Nat × Nat)) ++ (([(16, 16), (17, 17), (18, 18), (19, 19), (20, 20), (21, 21), (22, 22), (23, 23)] : List (Nat × Nat)) ++ (([(24, 24), (25, 25), (26, 26), (27, 27), (28, 28), (29, 29), (30, 30), (31, 31)] : List (Nat × Nat)) ++ (([(32, 32), (33, 33), (34, 34), (35, 35), (36, 36), (37, 37), (38, 38), (39, 39)] : List (Nat × Nat)) ++ (([(40, 40), (41, 41), (42, 42), (43, 43), (44, 44), (45, 45), (46, 46), (47, 47)] : List (Nat × Nat)) ++ (([(48, 48), (49, 49), (50, 50), (51, 51), (52, 52), (53, 53), (54, 54), (55, 55)] : List (Nat × Nat)) ++ (([(56, 56), (57, 57), (58, 58), (59, 59), (60, 60), (61, 61), (62, 62), (63, 63)] : List (Nat × Nat)) ++ (([(64, 98)] : List (Nat × Nat)))))))))) from by kernel_rfl] at h1
    rcases List.mem_append.1 h1 with h1 | h1
    · skip
      refine fin _ (List.all_eq_true.1 all1 c1 h1) ?_
      intro q hq
      simp only [List.mem_cons, List.not_mem_nil, or_false] at hq
      rcases hq with rfl | rfl
      · exact ⟨b0, (by show (1 : Int) ≤ 6; decide), (by show (6 : Int) ≤ 9223372036854775807; decide), e0⟩
      · exact ⟨b1, (by show (1 : Int) ≤ 99; decide), (by show (99 : Int) ≤ 9223372036854775807; decide), e1⟩
    rcases List.mem_append.1 h1 with h1 | h1
    · skip
      refine fin _ (List.all_eq_true.1 all2 c1 h1) ?_
      intro q hq
      simp only [List.mem_cons, List.not_mem_nil, or_false] at hq
      rcases hq with rfl | rfl
      · exact ⟨b0, (by show (1 : Int) ≤ 6; decide), (by show (6 : Int) ≤ 9223372036854775807; decide), e0⟩
      · exact ⟨b1, (by show (1 : Int) ≤ 99; decide), (by show (99 : Int) ≤ 9223372036854775807; decide), e1⟩
    rcases List.mem_append.1 h1 with h1 | h1
    · skip
      refine fin _ (List.all_eq_true.1 all3 c1 h1) ?_
      intro q hq
      simp only [List.mem_cons, List.not_mem_nil, or_false] at hq
      rcases hq with rfl | rfl
      · exact ⟨b0, (by show (1 : Int) ≤ 6; decide), (by show (6 : Int) ≤ 9223372036854775807; decide), e0⟩
      · exact ⟨b1, (by show (1 : Int) ≤ 99; decide), (by show (99 : Int) ≤ 9223372036854775807; decide), e1⟩
    rcases List.mem_append.1 h1 with h1 | h1
    · skip
      refine fin _ (List.all_eq_true.1 all4 c1 h1) ?_
      intro q hq
      simp only [List.mem_cons, List.not_mem_nil, or_false] at hq
      rcases hq with rfl | rfl
      · exact ⟨b0, (by show (1 : Int) ≤ 6; decide), (by show (6 : Int) ≤ 9223372036854775807; decide), e0⟩
      · exact ⟨b1, (by show (1 : Int) ≤ 99; decide), (by show (99 : Int) ≤ 9223372036854775807; decide), e1⟩
    rcases List.mem_append.1 h1 with h1 | h1
    · skip
      refine fin _ (List.all_eq_true.1 all5 c1 h1) ?_
      intro q hq
      simp only [List.mem_cons, List.not_mem_nil, or_false] at hq
      rcases hq with rfl | rfl
      · exact ⟨b0, (by show (1 : Int) ≤ 6; decide), (by show (6 : Int) ≤ 9223372036854775807; decide), e0⟩
      · exact ⟨b1, (by show (1 : Int) ≤ 99; decide), (by show (99 : Int) ≤ 9223372036854775807; decide), e1⟩
    rcases List.mem_append.1 h1 with h1 | h1
    · skip
      refine fin _ (List.all_eq_true.1 all6 c1 h1) ?_
      intro q hq
      simp only [List.mem_cons, List.not_mem_nil, or_false] at hq
      rcases hq with rfl | rfl
      · exact ⟨b0, (by show (1 : Int) ≤ 6; decide), (by show (6 : Int) ≤ 9223372036854775807; decide), e0⟩
      · exact ⟨b1, (by show (1 : Int) ≤ 99; decide), (by show (99 : Int) ≤ 9223372036854775807; decide), e1⟩
    rcases List.mem_append.1 h1 with h1 | h1
    · skip
      refine fin _ (List.all_eq_true.1 all7 c1 h1) ?_
      intro q hq
      simp only [List.mem_cons, List.not_mem_nil, or_false] at hq
      rcases hq with rfl | rfl
      · exact ⟨b0, (by show (1 : Int) ≤ 6; decide), (by show (6 : Int) ≤ 9223372036854775807; decide), e0⟩
      · exact ⟨b1, (by show (1 : Int) ≤ 99; decide), (by show (99 : Int) ≤ 9223372036854775807; decide), e1⟩
    rcases List.mem_append.1 h1 with h1 | h1
    · skip
      refine fin _ (List.all_eq_true.1 all8 c1 h1) ?_
      intro q hq
      simp only [List.mem_cons, List.not_mem_nil, or_false] at hq
      rcases hq with rfl | rfl
      · exact ⟨b0, (by show (1 : Int) ≤ 6; decide), (by show (6 : Int) ≤ 9223372036854775807; decide), e0⟩
      · exact ⟨b1, (by show (1 : Int) ≤ 99; decide), (by show (99 : Int) ≤ 9223372036854775807; decide), e1⟩
    refine fin _ (List.all_eq_true.1 all9 c1 h1) ?_
    intro q hq
    simp only [List.mem_cons, List.not_mem_nil, or_false] at hq
    rcases hq with rfl | rfl
    · exact ⟨b0, (by show (1 : Int) ≤ 6; decide), (by show (6 : Int) ≤ 9223372036854775807; decide), e0⟩
    · exact ⟨b1, (by show (1 : Int) ≤ 99; decide), (by show (99 : Int) ≤ 9223372036854775807; decide), e1⟩
  · skip
    obtain ⟨c1, h1, e1⟩ := cover_get (t := 101) (n := 99) (l := ([(0, 98)] : List (Nat × Nat))) (by kernel_rfl) (a := a1) (by decide) rfl
    refine fin _ (List.all_eq_true.1 all10 c1 h1) ?_
    intro q hq
    simp only [List.mem_cons, List.not_mem_nil, or_false] at hq
    rcases hq with rfl | rfl
    · exact ⟨b0, (by show (1 : Int) ≤ 6; decide), (by show (6 : Int) ≤ 9223372036854775807; decide), e0⟩
    · exact ⟨b1, (by show (1 : Int) ≤ 99; decide), (by show (99 : Int) ≤ 9223372036854775807; decide), e1⟩
  · skip
    obtain ⟨c1, h1, e1⟩ := cover_get (t := 101) (n := 99) (l := ([(0, 98)] : List (Nat × Nat))) (by kernel_rfl) (a := a1) (by decide) rfl
    refine fin _ (List.all_eq_true.1 all11 c1 h1) ?_
    intro q hq
    simp only [List.mem_cons, List.not_mem_nil, or_false] at hq
    rcases hq with rfl | rfl
    · exact ⟨b0, (by show (1 : Int) ≤ 6; decide), (by show (6 : Int) ≤ 9223372036854775807; decide), e0⟩
    · exact ⟨b1, (by show (1 : Int) ≤ 99; decide), (by show (99 : Int) ≤ 9223372036854775807; decide), e1⟩
  · skip
    obtain ⟨c1, h1, e1⟩ := cover_get (t := 101) (n := 99) (l := ([(0, 0), (1, 1), (2, 2), (3, 3), (4, 4), (5, 5), (6, 6), (7, 7), (8, 8), (9, 9), (10, 98)] : List (Nat × Nat))) (by kernel_rfl) (a := a1) (by decide) rfl
    rw [show ([(0, 0), (1, 1), (2, 2), (3, 3), (4, 4), (5, 5), (6, 6), (7, 7), (8, 8), (9, 9), (10, 98)] : List (Nat × Nat)) = ([(0, 0), (1, 1), (2, 2), (3, 3), (4, 4), (5, 5), (6, 6), (7, 7)] : List (Nat × Nat)) ++ (([(8, 8), (9, 9), (10, 98)] : List (Nat × Nat))) from by kernel_rfl] at h1
    rcases List.mem_append.1 h1 with h1 | h1
    · skip
      refine fin _ (List.all_eq_true.1 all12 c1 h1) ?_
      intro q hq
      simp only [List.mem_cons, List.not_mem_nil, or_false] at hq
      rcases hq with rfl | rfl
      · exact ⟨b0, (by show (1 : Int) ≤ 6; decide), (by show (6 : Int) ≤ 9223372036854775807; decide), e0⟩
      · exact ⟨b1, (by show (1 : Int) ≤ 99; decide), (by show (99 : Int) ≤ 9223372036854775807; decide), e1⟩
    refine fin _ (List.all_eq_true.1 all13 c1 h1) ?_
    intro q hq
    simp only [List.mem_cons, List.not_mem_nil, or_false] at hq
    rcases hq with rfl | rfl
    · exact ⟨b0, (by show (1 : Int) ≤ 6; decide), (by show (6 : Int) ≤ 9223372036854775807; decide), e0⟩
    · exact ⟨b1, (by show (1 : Int) ≤ 99; decide), (by show (99 : Int) ≤ 9223372036854775807; decide), e1⟩
  · skip
    obtain ⟨c1, h1, e1⟩ := cover_get (t := 101) (n := 99) (l := ([(0, 98)] : List (Nat × Nat))) (by kernel_rfl) (a := a1) (by decide) rfl
    refine fin _ (List.all_eq_true.1 all14 c1 h1) ?_
    intro q hq
    simp only [List.mem_cons, List.not_mem_nil, or_false] at hq
    rcases hq with rfl | rfl
    · exact ⟨b0, (by show (1 : Int) ≤ 6; decide), (by show (6 : Int) ≤ 9223372036854775807; decide), e0⟩
    · exact ⟨b1, (by show (1 : Int) ≤ 99; decide), (by show (99 : Int) ≤ 9223372036854775807; decide), e1⟩
end Go.Proofs.YtdcjegdghijhbaaGreatDoor.worldFuse
