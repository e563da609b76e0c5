/- The walk of HandsWork: the plain terms find it true, leaf by leaf. -/
import Derived.Test.YtdbnjmpeejoimaaHWW0
import Derived.Test.YtdbnjmpeejoimaaHWW1
import Derived.Test.YtdbnjmpeejoimaaHWW2
import Derived.Test.YtdbnjmpeejoimaaHWW3
import Derived.Test.YtdbnjmpeejoimaaHWW4
import Derived.Test.YtdbnjmpeejoimaaHWW5
import Derived.Test.YtdbnjmpeejoimaaHWW6
namespace Go.Proofs.Ytdbnjmpeejoimaa.handsWork
open Go.ChangeShapes Go.WideShapes Go.ChangeAt Go.RowKit
set_option maxRecDepth 1000000
set_option linter.unusedVariables false
theorem walk (a0 : Int) (a1 : Int) (a2 : Int) (w : World) (b0 : -9223372036854775808 ≤ a0 ∧ a0 ≤ 9223372036854775807) (b1 : -9223372036854775808 ≤ a1 ∧ a1 ≤ 9223372036854775807) (b2 : -9223372036854775808 ≤ a2 ∧ a2 ≤ 9223372036854775807) :
    Calls Try.prog 3 #[.int .i64 a0, .int .i64 a1, .int .i64 a2] w fun e w' => e = .returned (.bool true) ∧ Below w.heap.size w w' := by
  letI : Toks := ⟨fun k => if k = 0 then a0 else if k = 1 then a1 else if k = 2 then a2 else if k = 100 then a0 % 6 else if k = 101 then a1 % 2 else if k = 102 then a2 % 1 else if k = 103 then a2 % 3 else if k = 104 then a1 % 3 else if k = 105 then a2 % 5 else if k = 106 then a1 % 4 else if k = 107 then a2 % 7 else if k = 108 then a1 % 5 else if k = 109 then a2 % 9 else if k = 110 then a1 % 6 else if k = 111 then a2 % 11 else if k = 112 then a1 % 7 else if k = 113 then a2 % 13 else 0⟩
  have fin : ∀ (l : List (Nat × Nat × Nat × Nat × Nat)), at_ l = true → (∀ q ∈ l, (-9223372036854775808 ≤ Toks.A q.1 ∧ Toks.A q.1 ≤ 9223372036854775807) ∧ 1 ≤ (q.2.1 : Int) ∧ (q.2.1 : Int) ≤ 9223372036854775807 ∧ ∀ ρ : Ren, VR ρ (caseV q.2.2.1 (q.2.2.2.1, q.2.2.2.2)) (.int .i64 (Toks.A q.1 % (q.2.1 : Int)))) →
      Calls Try.prog 3 #[.int .i64 a0, .int .i64 a1, .int .i64 a2] w fun e w' => e = .returned (.bool true) ∧ Below w.heap.size w w' := by
    intro l hc hok
    refine top_plain (okF := cfg l) tabAll_ok ⟨overW_ok (tabOf l) (fun q hq => ?_) fun q hq => ?_, summAll_ok, summAll_mono⟩ mixed 3000 60 w ?_ hc
    · obtain ⟨x, hx, rfl⟩ := List.mem_map.1 hq
      exact (hok x hx).1
    · obtain ⟨x, hx, rfl⟩ := List.mem_map.1 hq
      exact (hok x hx).2
    · exact .cons (rfl) (.cons (rfl) (.cons (rfl) .nil))
  obtain ⟨c0, h0, e0⟩ := cover_get (t := 100) (n := 6) (l := ([(0, 0), (1, 1), (2, 2), (3, 3), (4, 4), (5, 5)] : List (Nat × Nat))) (by kernel_rfl) (a := a0) (by decide) rfl
  simp only [List.mem_cons, List.not_mem_nil, or_false] at h0
  rcases h0 with rfl | rfl | rfl | rfl | rfl | rfl
  · skip
    obtain ⟨c1, h1, e1⟩ := cover_get (t := 101) (n := 2) (l := ([(0, 0), (1, 1)] : List (Nat × Nat))) (by kernel_rfl) (a := a1) (by decide) rfl
    simp only [List.mem_cons, List.not_mem_nil, or_false] at h1
    rcases h1 with rfl | rfl
    · skip
      obtain ⟨c2, h2, e2⟩ := cover_get (t := 102) (n := 1) (l := ([(0, 0)] : List (Nat × Nat))) (by kernel_rfl) (a := a2) (by decide) rfl
      refine fin _ (List.all_eq_true.1 all0 c2 h2) ?_
      intro q hq
      simp only [List.mem_cons, List.not_mem_nil, or_false] at hq
      rcases hq with rfl | rfl | rfl
      · exact ⟨b0, (by show (1 : Int) ≤ 6; decide), (by show (6 : Int) ≤ 9223372036854775807; decide), e0⟩
      · exact ⟨b1, (by show (1 : Int) ≤ 2; decide), (by show (2 : Int) ≤ 9223372036854775807; decide), e1⟩
      · exact ⟨b2, (by show (1 : Int) ≤ 1; decide), (by show (1 : Int) ≤ 9223372036854775807; decide), e2⟩
    · skip
      obtain ⟨c2, h2, e2⟩ := cover_get (t := 103) (n := 3) (l := ([(0, 0), (1, 1), (2, 2)] : List (Nat × Nat))) (by kernel_rfl) (a := a2) (by decide) rfl
      refine fin _ (List.all_eq_true.1 all1 c2 h2) ?_
      intro q hq
      simp only [List.mem_cons, List.not_mem_nil, or_false] at hq
      rcases hq with rfl | rfl | rfl
      · exact ⟨b0, (by show (1 : Int) ≤ 6; decide), (by show (6 : Int) ≤ 9223372036854775807; decide), e0⟩
      · exact ⟨b1, (by show (1 : Int) ≤ 2; decide), (by show (2 : Int) ≤ 9223372036854775807; decide), e1⟩
      · exact ⟨b2, (by show (1 : Int) ≤ 3; decide), (by show (3 : Int) ≤ 9223372036854775807; decide), e2⟩
  · skip
    obtain ⟨c1, h1, e1⟩ := cover_get (t := 104) (n := 3) (l := ([(0, 0), (1, 1), (2, 2)] : List (Nat × Nat))) (by kernel_rfl) (a := a1) (by decide) rfl
    simp only [List.mem_cons, List.not_mem_nil, or_false] at h1
    rcases h1 with rfl | rfl | rfl
    · skip
      obtain ⟨c2, h2, e2⟩ := cover_get (t := 103) (n := 3) (l := ([(0, 0), (1, 1), (2, 2)] : List (Nat × Nat))) (by kernel_rfl) (a := a2) (by decide) rfl
      refine fin _ (List.all_eq_true.1 all2 c2 h2) ?_
      intro q hq
      simp only [List.mem_cons, List.not_mem_nil, or_false] at hq
      rcases hq with rfl | rfl | rfl
      · exact ⟨b0, (by show (1 : Int) ≤ 6; decide), (by show (6 : Int) ≤ 9223372036854775807; decide), e0⟩
      · exact ⟨b1, (by show (1 : Int) ≤ 3; decide), (by show (3 : Int) ≤ 9223372036854775807; decide), e1⟩
      · exact ⟨b2, (by show (1 : Int) ≤ 3; decide), (by show (3 : Int) ≤ 9223372036854775807; decide), e2⟩
    · skip
      obtain ⟨c2, h2, e2⟩ := cover_get (t := 103) (n := 3) (l := ([(0, 0), (1, 1), (2, 2)] : List (Nat × Nat))) (by kernel_rfl) (a := a2) (by decide) rfl
      refine fin _ (List.all_eq_true.1 all3 c2 h2) ?_
      intro q hq
      simp only [List.mem_cons, List.not_mem_nil, or_false] at hq
      rcases hq with rfl | rfl | rfl
      · exact ⟨b0, (by show (1 : Int) ≤ 6; decide), (by show (6 : Int) ≤ 9223372036854775807; decide), e0⟩
      · exact ⟨b1, (by show (1 : Int) ≤ 3; decide), (by show (3 : Int) ≤ 9223372036854775807; decide), e1⟩
      · exact ⟨b2, (by show (1 : Int) ≤ 3; decide), (by show (3 : Int) ≤ 9223372036854775807; decide), e2⟩
    · skip
      obtain ⟨c2, h2, e2⟩ := cover_get (t := 105) (n := 5) (l := ([(0, 0), (1, 1), (2, 2), (3, 3), (4, 4)] : List (Nat × Nat))) (by kernel_rfl) (a := a2) (by decide) rfl
      refine fin _ (List.all_eq_true.1 all4 c2 h2) ?_
      intro q hq
      simp only [List.mem_cons, List.not_mem_nil, or_false] at hq
      rcases hq with rfl | rfl | rfl
      · exact ⟨b0, (by show (1 : Int) ≤ 6; decide), (by show (6 : Int) ≤ 9223372036854775807; decide), e0⟩
      · exact ⟨b1, (by show (1 : Int) ≤ 3; decide), (by show (3 : Int) ≤ 9223372036854775807; decide), e1⟩
      · exact ⟨b2, (by show (1 : Int) ≤ 5; decide), (by show (5 : Int) ≤ 9223372036854775807; decide), e2⟩
  · skip
    obtain ⟨c1, h1, e1⟩ := cover_get (t := 106) (n := 4) (l := ([(0, 0), (1, 1), (2, 2), (3, 3)] : List (Nat × Nat))) (by kernel_rfl) (a := a1) (by decide) rfl
    simp only [List.mem_cons, List.not_mem_nil, or_false] at h1
    rcases h1 with rfl | rfl | rfl | rfl
    · skip
      obtain ⟨c2, h2, e2⟩ := cover_get (t := 105) (n := 5) (l := ([(0, 0), (1, 1), (2, 2), (3, 3), (4, 4)] : List (Nat × Nat))) (by kernel_rfl) (a := a2) (by decide) rfl
      refine fin _ (List.all_eq_true.1 all5 c2 h2) ?_
      intro q hq
      simp only [List.mem_cons, List.not_mem_nil, or_false] at hq
      rcases hq with rfl | rfl | rfl
      · exact ⟨b0, (by show (1 : Int) ≤ 6; decide), (by show (6 : Int) ≤ 9223372036854775807; decide), e0⟩
      · exact ⟨b1, (by show (1 : Int) ≤ 4; decide), (by show (4 : Int) ≤ 9223372036854775807; decide), e1⟩
      · exact ⟨b2, (by show (1 : Int) ≤ 5; decide), (by show (5 : Int) ≤ 9223372036854775807; decide), e2⟩
    · skip
      obtain ⟨c2, h2, e2⟩ := cover_get (t := 105) (n := 5) (l := ([(0, 0), (1, 1), (2, 2), (3, 3), (4, 4)] : List (Nat × Nat))) (by kernel_rfl) (a := a2) (by decide) rfl
      refine fin _ (List.all_eq_true.1 all6 c2 h2) ?_
      intro q hq
      simp only [List.mem_cons, List.not_mem_nil, or_false] at hq
      rcases hq with rfl | rfl | rfl
      · exact ⟨b0, (by show (1 : Int) ≤ 6; decide), (by show (6 : Int) ≤ 9223372036854775807; decide), e0⟩
      · exact ⟨b1, (by show (1 : Int) ≤ 4; decide), (by show (4 : Int) ≤ 9223372036854775807; decide), e1⟩
      · exact ⟨b2, (by show (1 : Int) ≤ 5; decide), (by show (5 : Int) ≤ 9223372036854775807; decide), e2⟩
    · skip
      obtain ⟨c2, h2, e2⟩ := cover_get (t := 105) (n := 5) (l := ([(0, 0), (1, 1), (2, 2), (3, 3), (4, 4)] : List (Nat × Nat))) (by kernel_rfl) (a := a2) (by decide) rfl
      refine fin _ (List.all_eq_true.1 all7 c2 h2) ?_
      intro q hq
      simp only [List.mem_cons, List.not_mem_nil, or_false] at hq
      rcases hq with rfl | rfl | rfl
      · exact ⟨b0, (by show (1 : Int) ≤ 6; decide), (by show (6 : Int) ≤ 9223372036854775807; decide), e0⟩
      · exact ⟨b1, (by show (1 : Int) ≤ 4; decide), (by show (4 : Int) ≤ 9223372036854775807; decide), e1⟩
      · exact ⟨b2, (by show (1 : Int) ≤ 5; decide), (by show (5 : Int) ≤ 9223372036854775807; decide), e2⟩
    · skip
      obtain ⟨c2, h2, e2⟩ := cover_get (t := 107) (n := 7) (l := ([(0, 0), (1, 1), (2, 2), (3, 3), (4, 4), (5, 5), (6, 6)] : List (Nat × Nat))) (by kernel_rfl) (a := a2) (by decide) rfl
      refine fin _ (List.all_eq_true.1 all8 c2 h2) ?_
      intro q hq
      simp only [List.mem_cons, List.not_mem_nil, or_false] at hq
      rcases hq with rfl | rfl | rfl
      · exact ⟨b0, (by show (1 : Int) ≤ 6; decide), (by show (6 : Int) ≤ 9223372036854775807; decide), e0⟩
      · exact ⟨b1, (by show (1 : Int) ≤ 4; decide), (by show (4 : Int) ≤ 9223372036854775807; decide), e1⟩
      · exact ⟨b2, (by show (1 : Int) ≤ 7; decide), (by show (7 : Int) ≤ 9223372036854775807; decide), e2⟩
  · skip
    obtain ⟨c1, h1, e1⟩ := cover_get (t := 108) (n := 5) (l := ([(0, 0), (1, 1), (2, 2), (3, 3), (4, 4)] : List (Nat × Nat))) (by kernel_rfl) (a := a1) (by decide) rfl
    simp only [List.mem_cons, List.not_mem_nil, or_false] at h1
    rcases h1 with rfl | rfl | rfl | rfl | rfl
    · skip
      obtain ⟨c2, h2, e2⟩ := cover_get (t := 107) (n := 7) (l := ([(0, 0), (1, 1), (2, 2), (3, 3), (4, 4), (5, 5), (6, 6)] : List (Nat × Nat))) (by kernel_rfl) (a := a2) (by decide) rfl
      refine fin _ (List.all_eq_true.1 all9 c2 h2) ?_
      intro q hq
      simp only [List.mem_cons, List.not_mem_nil, or_false] at hq
      rcases hq with rfl | rfl | rfl
      · exact ⟨b0, (by show (1 : Int) ≤ 6; decide), (by show (6 : Int) ≤ 9223372036854775807; decide), e0⟩
      · exact ⟨b1, (by show (1 : Int) ≤ 5; decide), (by show (5 : Int) ≤ 9223372036854775807; decide), e1⟩
      · exact ⟨b2, (by show (1 : Int) ≤ 7; decide), (by show (7 : Int) ≤ 9223372036854775807; decide), e2⟩
    · skip
      obtain ⟨c2, h2, e2⟩ := cover_get (t := 107) (n := 7) (l := ([(0, 0), (1, 1), (2, 2), (3, 3), (4, 4), (5, 5), (6, 6)] : List (Nat × Nat))) (by kernel_rfl) (a := a2) (by decide) rfl
      refine fin _ (List.all_eq_true.1 all10 c2 h2) ?_
      intro q hq
      simp only [List.mem_cons, List.not_mem_nil, or_false] at hq
      rcases hq with rfl | rfl | rfl
      · exact ⟨b0, (by show (1 : Int) ≤ 6; decide), (by show (6 : Int) ≤ 9223372036854775807; decide), e0⟩
      · exact ⟨b1, (by show (1 : Int) ≤ 5; decide), (by show (5 : Int) ≤ 9223372036854775807; decide), e1⟩
      · exact ⟨b2, (by show (1 : Int) ≤ 7; decide), (by show (7 : Int) ≤ 9223372036854775807; decide), e2⟩
    · skip
      obtain ⟨c2, h2, e2⟩ := cover_get (t := 107) (n := 7) (l := ([(0, 0), (1, 1), (2, 2), (3, 3), (4, 4), (5, 5), (6, 6)] : List (Nat × Nat))) (by kernel_rfl) (a := a2) (by decide) rfl
      refine fin _ (List.all_eq_true.1 all11 c2 h2) ?_
      intro q hq
      simp only [List.mem_cons, List.not_mem_nil, or_false] at hq
      rcases hq with rfl | rfl | rfl
      · exact ⟨b0, (by show (1 : Int) ≤ 6; decide), (by show (6 : Int) ≤ 9223372036854775807; decide), e0⟩
      · exact ⟨b1, (by show (1 : Int) ≤ 5; decide), (by show (5 : Int) ≤ 9223372036854775807; decide), e1⟩
      · exact ⟨b2, (by show (1 : Int) ≤ 7; decide), (by show (7 : Int) ≤ 9223372036854775807; decide), e2⟩
    · skip
      obtain ⟨c2, h2, e2⟩ := cover_get (t := 107) (n := 7) (l := ([(0, 0), (1, 1), (2, 2), (3, 3), (4, 4), (5, 5), (6, 6)] : List (Nat × Nat))) (by kernel_rfl) (a := a2) (by decide) rfl
      refine fin _ (List.all_eq_true.1 all12 c2 h2) ?_
      intro q hq
      simp only [List.mem_cons, List.not_mem_nil, or_false] at hq
      rcases hq with rfl | rfl | rfl
      · exact ⟨b0, (by show (1 : Int) ≤ 6; decide), (by show (6 : Int) ≤ 9223372036854775807; decide), e0⟩
      · exact ⟨b1, (by show (1 : Int) ≤ 5; decide), (by show (5 : Int) ≤ 9223372036854775807; decide), e1⟩
      · exact ⟨b2, (by show (1 : Int) ≤ 7; decide), (by show (7 : Int) ≤ 9223372036854775807; decide), e2⟩
    · skip
      obtain ⟨c2, h2, e2⟩ := cover_get (t := 109) (n := 9) (l := ([(0, 0), (1, 1), (2, 2), (3, 3), (4, 4), (5, 5), (6, 6), (7, 7), (8, 8)] : List (Nat × Nat))) (by kernel_rfl) (a := a2) (by decide) rfl
      refine fin _ (List.all_eq_true.1 all13 c2 h2) ?_
      intro q hq
      simp only [List.mem_cons, List.not_mem_nil, or_false] at hq
      rcases hq with rfl | rfl | rfl
      · exact ⟨b0, (by show (1 : Int) ≤ 6; decide), (by show (6 : Int) ≤ 9223372036854775807; decide), e0⟩
      · exact ⟨b1, (by show (1 : Int) ≤ 5; decide), (by show (5 : Int) ≤ 9223372036854775807; decide), e1⟩
      · exact ⟨b2, (by show (1 : Int) ≤ 9; decide), (by show (9 : Int) ≤ 9223372036854775807; decide), e2⟩
  · skip
    obtain ⟨c1, h1, e1⟩ := cover_get (t := 110) (n := 6) (l := ([(0, 0), (1, 1), (2, 2), (3, 3), (4, 4), (5, 5)] : List (Nat × Nat))) (by kernel_rfl) (a := a1) (by decide) rfl
    simp only [List.mem_cons, List.not_mem_nil, or_false] at h1
    rcases h1 with rfl | rfl | rfl | rfl | rfl | rfl
    · skip
      obtain ⟨c2, h2, e2⟩ := cover_get (t := 109) (n := 9) (l := ([(0, 0), (1, 1), (2, 2), (3, 3), (4, 4), (5, 5), (6, 6), (7, 7), (8, 8)] : List (Nat × Nat))) (by kernel_rfl) (a := a2) (by decide) rfl
      refine fin _ (List.all_eq_true.1 all14 c2 h2) ?_
      intro q hq
      simp only [List.mem_cons, List.not_mem_nil, or_false] at hq
      rcases hq with rfl | rfl | rfl
      · exact ⟨b0, (by show (1 : Int) ≤ 6; decide), (by show (6 : Int) ≤ 9223372036854775807; decide), e0⟩
      · exact ⟨b1, (by show (1 : Int) ≤ 6; decide), (by show (6 : Int) ≤ 9223372036854775807; decide), e1⟩
      · exact ⟨b2, (by show (1 : Int) ≤ 9; decide), (by show (9 : Int) ≤ 9223372036854775807; decide), e2⟩
    · skip
      obtain ⟨c2, h2, e2⟩ := cover_get (t := 109) (n := 9) (l := ([(0, 0), (1, 1), (2, 2), (3, 3), (4, 4), (5, 5), (6, 6), (7, 7), (8, 8)] : List (Nat × Nat))) (by kernel_rfl) (a := a2) (by decide) rfl
      refine fin _ (List.all_eq_true.1 all15 c2 h2) ?_
      intro q hq
      simp only [List.mem_cons, List.not_mem_nil, or_false] at hq
      rcases hq with rfl | rfl | rfl
      · exact ⟨b0, (by show (1 : Int) ≤ 6; decide), (by show (6 : Int) ≤ 9223372036854775807; decide), e0⟩
      · exact ⟨b1, (by show (1 : Int) ≤ 6; decide), (by show (6 : Int) ≤ 9223372036854775807; decide), e1⟩
      · exact ⟨b2, (by show (1 : Int) ≤ 9; decide), (by show (9 : Int) ≤ 9223372036854775807; decide), e2⟩
    · skip
      obtain ⟨c2, h2, e2⟩ := cover_get (t := 109) (n := 9) (l := ([(0, 0), (1, 1), (2, 2), (3, 3), (4, 4), (5, 5), (6, 6), (7, 7), (8, 8)] : List (Nat × Nat))) (by kernel_rfl) (a := a2) (by decide) rfl
      refine fin _ (List.all_eq_true.1 all16 c2 h2) ?_
      intro q hq
      simp only [List.mem_cons, List.not_mem_nil, or_false] at hq
      rcases hq with rfl | rfl | rfl
      · exact ⟨b0, (by show (1 : Int) ≤ 6; decide), (by show (6 : Int) ≤ 9223372036854775807; decide), e0⟩
      · exact ⟨b1, (by show (1 : Int) ≤ 6; decide), (by show (6 : Int) ≤ 9223372036854775807; decide), e1⟩
      · exact ⟨b2, (by show (1 : Int) ≤ 9; decide), (by show (9 : Int) ≤ 9223372036854775807; decide), e2⟩
    · skip
      obtain ⟨c2, h2, e2⟩ := cover_get (t := 109) (n := 9) (l := ([(0, 0), (1, 1), (2, 2), (3, 3), (4, 4), (5, 5), (6, 6), (7, 7), (8, 8)] : List (Nat × Nat))) (by kernel_rfl) (a := a2) (by decide) rfl
      refine fin _ (List.all_eq_true.1 all17 c2 h2) ?_
      intro q hq
      simp only [List.mem_cons, List.not_mem_nil, or_false] at hq
      rcases hq with rfl | rfl | rfl
      · exact ⟨b0, (by show (1 : Int) ≤ 6; decide), (by show (6 : Int) ≤ 9223372036854775807; decide), e0⟩
      · exact ⟨b1, (by show (1 : Int) ≤ 6; decide), (by show (6 : Int) ≤ 9223372036854775807; decide), e1⟩
      · exact ⟨b2, (by show (1 : Int) ≤ 9; decide), (by show (9 : Int) ≤ 9223372036854775807; decide), e2⟩
    · skip
      obtain ⟨c2, h2, e2⟩ := cover_get (t := 109) (n := 9) (l := ([(0, 0), (1, 1), (2, 2), (3, 3), (4, 4), (5, 5), (6, 6), (7, 7), (8, 8)] : List (Nat × Nat))) (by kernel_rfl) (a := a2) (by decide) rfl
      refine fin _ (List.all_eq_true.1 all18 c2 h2) ?_
      intro q hq
      simp only [List.mem_cons, List.not_mem_nil, or_false] at hq
      rcases hq with rfl | rfl | rfl
      · exact ⟨b0, (by show (1 : Int) ≤ 6; decide), (by show (6 : Int) ≤ 9223372036854775807; decide), e0⟩
      · exact ⟨b1, (by show (1 : Int) ≤ 6; decide), (by show (6 : Int) ≤ 9223372036854775807; decide), e1⟩
      · exact ⟨b2, (by show (1 : Int) ≤ 9; decide), (by show (9 : Int) ≤ 9223372036854775807; decide), e2⟩
    · skip
      obtain ⟨c2, h2, e2⟩ := cover_get (t := 111) (n := 11) (l := ([(0, 0), (1, 1), (2, 2), (3, 3), (4, 4), (5, 5), (6, 6), (7, 7), (8, 8), (9, 9), (10, 10)] : List (Nat × Nat))) (by kernel_rfl) (a := a2) (by decide) rfl
      refine fin _ (List.all_eq_true.1 all19 c2 h2) ?_
      intro q hq
      simp only [List.mem_cons, List.not_mem_nil, or_false] at hq
      rcases hq with rfl | rfl | rfl
      · exact ⟨b0, (by show (1 : Int) ≤ 6; decide), (by show (6 : Int) ≤ 9223372036854775807; decide), e0⟩
      · exact ⟨b1, (by show (1 : Int) ≤ 6; decide), (by show (6 : Int) ≤ 9223372036854775807; decide), e1⟩
      · exact ⟨b2, (by show (1 : Int) ≤ 11; decide), (by show (11 : Int) ≤ 9223372036854775807; decide), e2⟩
  · skip
    obtain ⟨c1, h1, e1⟩ := cover_get (t := 112) (n := 7) (l := ([(0, 0), (1, 1), (2, 2), (3, 3), (4, 4), (5, 5), (6, 6)] : List (Nat × Nat))) (by kernel_rfl) (a := a1) (by decide) rfl
    simp only [List.mem_cons, List.not_mem_nil, or_false] at h1
    rcases h1 with rfl | rfl | rfl | rfl | rfl | rfl | rfl
    · skip
      obtain ⟨c2, h2, e2⟩ := cover_get (t := 111) (n := 11) (l := ([(0, 0), (1, 1), (2, 2), (3, 3), (4, 4), (5, 5), (6, 6), (7, 7), (8, 8), (9, 9), (10, 10)] : List (Nat × Nat))) (by kernel_rfl) (a := a2) (by decide) rfl
      refine fin _ (List.all_eq_true.1 all20 c2 h2) ?_
      intro q hq
      simp only [List.mem_cons, List.not_mem_nil, or_false] at hq
      rcases hq with rfl | rfl | rfl
      · exact ⟨b0, (by show (1 : Int) ≤ 6; decide), (by show (6 : Int) ≤ 9223372036854775807; decide), e0⟩
      · exact ⟨b1, (by show (1 : Int) ≤ 7; decide), (by show (7 : Int) ≤ 9223372036854775807; decide), e1⟩
      · exact ⟨b2, (by show (1 : Int) ≤ 11; decide), (by show (11 : Int) ≤ 9223372036854775807; decide), e2⟩
    · skip
      obtain ⟨c2, h2, e2⟩ := cover_get (t := 111) (n := 11) (l := ([(0, 0), (1, 1), (2, 2), (3, 3), (4, 4), (5, 5), (6, 6), (7, 7), (8, 8), (9, 9), (10, 10)] : List (Nat × Nat))) (by kernel_rfl) (a := a2) (by decide) rfl
      refine fin _ (List.all_eq_true.1 all21 c2 h2) ?_
      intro q hq
      simp only [List.mem_cons, List.not_mem_nil, or_false] at hq
      rcases hq with rfl | rfl | rfl
      · exact ⟨b0, (by show (1 : Int) ≤ 6; decide), (by show (6 : Int) ≤ 9223372036854775807; decide), e0⟩
      · exact ⟨b1, (by show (1 : Int) ≤ 7; decide), (by show (7 : Int) ≤ 9223372036854775807; decide), e1⟩
      · exact ⟨b2, (by show (1 : Int) ≤ 11; decide), (by show (11 : Int) ≤ 9223372036854775807; decide), e2⟩
    · skip
      obtain ⟨c2, h2, e2⟩ := cover_get (t := 111) (n := 11) (l := ([(0, 0), (1, 1), (2, 2), (3, 3), (4, 4), (5, 5), (6, 6), (7, 7), (8, 8), (9, 9), (10, 10)] : List (Nat × Nat))) (by kernel_rfl) (a := a2) (by decide) rfl
      refine fin _ (List.all_eq_true.1 all22 c2 h2) ?_
      intro q hq
      simp only [List.mem_cons, List.not_mem_nil, or_false] at hq
      rcases hq with rfl | rfl | rfl
      · exact ⟨b0, (by show (1 : Int) ≤ 6; decide), (by show (6 : Int) ≤ 9223372036854775807; decide), e0⟩
      · exact ⟨b1, (by show (1 : Int) ≤ 7; decide), (by show (7 : Int) ≤ 9223372036854775807; decide), e1⟩
      · exact ⟨b2, (by show (1 : Int) ≤ 11; decide), (by show (11 : Int) ≤ 9223372036854775807; decide), e2⟩
    · skip
      obtain ⟨c2, h2, e2⟩ := cover_get (t := 111) (n := 11) (l := ([(0, 0), (1, 1), (2, 2), (3, 3), (4, 4), (5, 5), (6, 6), (7, 7), (8, 8), (9, 9), (10, 10)] : List (Nat × Nat))) (by kernel_rfl) (a := a2) (by decide) rfl
      refine fin _ (List.all_eq_true.1 all23 c2 h2) ?_
      intro q hq
      simp only [List.mem_cons, List.not_mem_nil, or_false] at hq
      rcases hq with rfl | rfl | rfl
      · exact ⟨b0, (by show (1 : Int) ≤ 6; decide), (by show (6 : Int) ≤ 9223372036854775807; decide), e0⟩
      · exact ⟨b1, (by show (1 : Int) ≤ 7; decide), (by show (7 : Int) ≤ 9223372036854775807; decide), e1⟩
      · exact ⟨b2, (by show (1 : Int) ≤ 11; decide), (by show (11 : Int) ≤ 9223372036854775807; decide), e2⟩
    · skip
      obtain ⟨c2, h2, e2⟩ := cover_get (t := 111) (n := 11) (l := ([(0, 0), (1, 1), (2, 2), (3, 3), (4, 4), (5, 5), (6, 6), (7, 7), (8, 8), (9, 9), (10, 10)] : List (Nat × Nat))) (by kernel_rfl) (a := a2) (by decide) rfl
      refine fin _ (List.all_eq_true.1 all24 c2 h2) ?_
      intro q hq
      simp only [List.mem_cons, List.not_mem_nil, or_false] at hq
      rcases hq with rfl | rfl | rfl
      · exact ⟨b0, (by show (1 : Int) ≤ 6; decide), (by show (6 : Int) ≤ 9223372036854775807; decide), e0⟩
      · exact ⟨b1, (by show (1 : Int) ≤ 7; decide), (by show (7 : Int) ≤ 9223372036854775807; decide), e1⟩
      · exact ⟨b2, (by show (1 : Int) ≤ 11; decide), (by show (11 : Int) ≤ 9223372036854775807; decide), e2⟩
    · skip
      obtain ⟨c2, h2, e2⟩ := cover_get (t := 111) (n := 11) (l := ([(0, 0), (1, 1), (2, 2), (3, 3), (4, 4), (5, 5), (6, 6), (7, 7), (8, 8), (9, 9), (10, 10)] : List (Nat × Nat))) (by kernel_rfl) (a := a2) (by decide) rfl
      refine fin _ (List.all_eq_true.1 all25 c2 h2) ?_
      intro q hq
      simp only [List.mem_cons, List.not_mem_nil, or_false] at hq
      rcases hq with rfl | rfl | rfl
      · exact ⟨b0, (by show (1 : Int) ≤ 6; decide), (by show (6 : Int) ≤ 9223372036854775807; decide), e0⟩
      · exact ⟨b1, (by show (1 : Int) ≤ 7; decide), (by show (7 : Int) ≤ 9223372036854775807; decide), e1⟩
      · exact ⟨b2, (by show (1 : Int) ≤ 11; decide), (by show (11 : Int) ≤ 9223372036854775807; decide), e2⟩
    · skip
      obtain ⟨c2, h2, e2⟩ := cover_get (t := 113) (n := 13) (l := ([(0, 0), (1, 1), (2, 2), (3, 3), (4, 4), (5, 5), (6, 6), (7, 7), (8, 8), (9, 9), (10, 10), (11, 11), (12, 12)] : List (Nat × Nat))) (by kernel_rfl) (a := a2) (by decide) rfl
      refine fin _ (List.all_eq_true.1 all26 c2 h2) ?_
      intro q hq
      simp only [List.mem_cons, List.not_mem_nil, or_false] at hq
      rcases hq with rfl | rfl | rfl
      · exact ⟨b0, (by show (1 : Int) ≤ 6; decide), (by show (6 : Int) ≤ 9223372036854775807; decide), e0⟩
      · exact ⟨b1, (by show (1 : Int) ≤ 7; decide), (by show (7 : Int) ≤ 9223372036854775807; decide), e1⟩
      · exact ⟨b2, (by show (1 : Int) ≤ 13; decide), (by show (13 : Int) ≤ 9223372036854775807; decide), e2⟩
end Go.Proofs.Ytdbnjmpeejoimaa.handsWork
