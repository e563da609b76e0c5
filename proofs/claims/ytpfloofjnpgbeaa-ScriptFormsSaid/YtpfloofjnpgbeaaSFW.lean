/- The walk of ScriptForms: the plain terms find it true, leaf by leaf. -/
import Derived.Test.YtpfloofjnpgbeaaSFW0
import Derived.Test.YtpfloofjnpgbeaaSFW1
import Derived.Test.YtpfloofjnpgbeaaSFW2
import Derived.Test.YtpfloofjnpgbeaaSFW3
import Derived.Test.YtpfloofjnpgbeaaSFW4
import Derived.Test.YtpfloofjnpgbeaaSFW5
import Derived.Test.YtpfloofjnpgbeaaSFW6
import Derived.Test.YtpfloofjnpgbeaaSFW7
namespace Go.Proofs.Ytpfloofjnpgbeaa.scriptForms
open Go.ChangeShapes Go.WideShapes Go.ChangeAt Go.RowKit
set_option maxRecDepth 1000000
set_option linter.unusedVariables false
theorem walk (a0 : Int) (a1 : Int) (a2 : Int) (w : World) (b0 : -9223372036854775808 ≤ a0 ∧ a0 ≤ 9223372036854775807) (b1 : -9223372036854775808 ≤ a1 ∧ a1 ≤ 9223372036854775807) (b2 : -9223372036854775808 ≤ a2 ∧ a2 ≤ 9223372036854775807) :
    Calls Try.prog 3 #[.int .i64 a0, .int .i64 a1, .int .i64 a2] w fun e w' => e = .returned (.bool true) ∧ Below w.heap.size w w' := by
  letI : Toks := ⟨fun k => if k = 0 then a0 else if k = 1 then a1 else if k = 2 then a2 else if k = 100 then a0 % 9 else if k = 101 then a1 % 10 else if k = 102 then a2 % 9 else 0⟩
  have fin : ∀ (l : List (Nat × Nat × Nat × Nat × Nat)), at_ l = true → (∀ q ∈ l, (-9223372036854775808 ≤ Toks.A q.1 ∧ Toks.A q.1 ≤ 9223372036854775807) ∧ 1 ≤ (q.2.1 : Int) ∧ (q.2.1 : Int) ≤ 9223372036854775807 ∧ ∀ ρ : Ren, VR ρ (caseV q.2.2.1 (q.2.2.2.1, q.2.2.2.2)) (.int .i64 (Toks.A q.1 % (q.2.1 : Int)))) →
      Calls Try.prog 3 #[.int .i64 a0, .int .i64 a1, .int .i64 a2] w fun e w' => e = .returned (.bool true) ∧ Below w.heap.size w w' := by
    intro l hc hok
    refine top_plain (okF := cfg l) tabAllK_ok ⟨overW_ok (tabOf l) (fun q hq => ?_) fun q hq => ?_, summAll_ok, summAll_mono⟩ mixed 3000 60 w ?_ hc
    · obtain ⟨x, hx, rfl⟩ := List.mem_map.1 hq
      exact (hok x hx).1
    · obtain ⟨x, hx, rfl⟩ := List.mem_map.1 hq
      exact (hok x hx).2
    · exact .cons (rfl) (.cons (rfl) (.cons (rfl) .nil))
  obtain ⟨c0, h0, e0⟩ := cover_get (t := 100) (n := 9) (l := ([(0, 0), (1, 1), (2, 2), (3, 3), (4, 4), (5, 5), (6, 6), (7, 7), (8, 8)] : List (Nat × Nat))) (by kernel_rfl) (a := a0) (by decide) rfl
  simp only [List.mem_cons, List.not_mem_nil, or_false] at h0
  rcases h0 with rfl | rfl | rfl | rfl | rfl | rfl | rfl | rfl | rfl
  · skip
    obtain ⟨c1, h1, e1⟩ := cover_get (t := 101) (n := 10) (l := ([(0, 0), (1, 1), (2, 2), (3, 3), (4, 4), (5, 5), (6, 6), (7, 7), (8, 8), (9, 9)] : List (Nat × Nat))) (by kernel_rfl) (a := a1) (by decide) rfl
    simp only [List.mem_cons, List.not_mem_nil, or_false] at h1
    rcases h1 with rfl | rfl | rfl | rfl | rfl | rfl | rfl | rfl | rfl | rfl
    · skip
      obtain ⟨c2, h2, e2⟩ := cover_get (t := 102) (n := 9) (l := ([(0, 0), (1, 1), (2, 2), (3, 3), (4, 4), (5, 5), (6, 6), (7, 7), (8, 8)] : List (Nat × Nat))) (by kernel_rfl) (a := a2) (by decide) rfl
      rw [show ([(0, 0), (1, 1), (2, 2), (3, 3), (4, 4), (5, 5), (6, 6), (7, 7), (8, 8)] : List (Nat × Nat)) = ([(0, 0), (1, 1), (2, 2)] : List (Nat × Nat)) ++ (([(3, 3), (4, 4), (5, 5)] : List (Nat × Nat)) ++ (([(6, 6), (7, 7), (8, 8)] : List (Nat × Nat)))) from by kernel_rfl] at h2
      rcases List.mem_append.1 h2 with h2 | h2
      · skip
        refine fin _ (List.all_eq_true.1 all0 c2 h2) ?_
        intro q hq
        simp only [List.mem_cons, List.not_mem_nil, or_false] at hq
        rcases hq with rfl | rfl | rfl
        · exact ⟨b0, (by show (1 : Int) ≤ 9; decide), (by show (9 : Int) ≤ 9223372036854775807; decide), e0⟩
        · exact ⟨b1, (by show (1 : Int) ≤ 10; decide), (by show (10 : Int) ≤ 9223372036854775807; decide), e1⟩
        · exact ⟨b2, (by show (1 : Int) ≤ 9; decide), (by show (9 : Int) ≤ 9223372036854775807; decide), e2⟩
      rcases List.mem_append.1 h2 with h2 | h2
      · skip
        refine fin _ (List.all_eq_true.1 all1 c2 h2) ?_
        intro q hq
        simp only [List.mem_cons, List.not_mem_nil, or_false] at hq
        rcases hq with rfl | rfl | rfl
        · exact ⟨b0, (by show (1 : Int) ≤ 9; decide), (by show (9 : Int) ≤ 9223372036854775807; decide), e0⟩
        · exact ⟨b1, (by show (1 : Int) ≤ 10; decide), (by show (10 : Int) ≤ 9223372036854775807; decide), e1⟩
        · exact ⟨b2, (by show (1 : Int) ≤ 9; decide), (by show (9 : Int) ≤ 9223372036854775807; decide), e2⟩
      refine fin _ (List.all_eq_true.1 all2 c2 h2) ?_
      intro q hq
      simp only [List.mem_cons, List.not_mem_nil, or_false] at hq
      rcases hq with rfl | rfl | rfl
      · exact ⟨b0, (by show (1 : Int) ≤ 9; decide), (by show (9 : Int) ≤ 9223372036854775807; decide), e0⟩
      · exact ⟨b1, (by show (1 : Int) ≤ 10; decide), (by show (10 : Int) ≤ 9223372036854775807; decide), e1⟩
      · exact ⟨b2, (by show (1 : Int) ≤ 9; decide), (by show (9 : Int) ≤ 9223372036854775807; decide), e2⟩
    · skip
      obtain ⟨c2, h2, e2⟩ := cover_get (t := 102) (n := 9) (l := ([(0, 0), (1, 1), (2, 2), (3, 3), (4, 4), (5, 5), (6, 6), (7, 7), (8, 8)] : List (Nat × Nat))) (by kernel_rfl) (a := a2) (by decide) rfl
      rw [show ([(0, 0), (1, 1), (2, 2), (3, 3), (4, 4), (5, 5), (6, 6), (7, 7), (8, 8)] : List (Nat × Nat)) = ([(0, 0), (1, 1), (2, 2)] : List (Nat × Nat)) ++ (([(3, 3), (4, 4), (5, 5)] : List (Nat × Nat)) ++ (([(6, 6), (7, 7), (8, 8)] : List (Nat × Nat)))) from by kernel_rfl] at h2
      rcases List.mem_append.1 h2 with h2 | h2
      · skip
        refine fin _ (List.all_eq_true.1 all3 c2 h2) ?_
        intro q hq
        simp only [List.mem_cons, List.not_mem_nil, or_false] at hq
        rcases hq with rfl | rfl | rfl
        · exact ⟨b0, (by show (1 : Int) ≤ 9; decide), (by show (9 : Int) ≤ 9223372036854775807; decide), e0⟩
        · exact ⟨b1, (by show (1 : Int) ≤ 10; decide), (by show (10 : Int) ≤ 9223372036854775807; decide), e1⟩
        · exact ⟨b2, (by show (1 : Int) ≤ 9; decide), (by show (9 : Int) ≤ 9223372036854775807; decide), e2⟩
      rcases List.mem_append.1 h2 with h2 | h2
      · skip
        refine fin _ (List.all_eq_true.1 all4 c2 h2) ?_
        intro q hq
        simp only [List.mem_cons, List.not_mem_nil, or_false] at hq
        rcases hq with rfl | rfl | rfl
        · exact ⟨b0, (by show (1 : Int) ≤ 9; decide), (by show (9 : Int) ≤ 9223372036854775807; decide), e0⟩
        · exact ⟨b1, (by show (1 : Int) ≤ 10; decide), (by show (10 : Int) ≤ 9223372036854775807; decide), e1⟩
        · exact ⟨b2, (by show (1 : Int) ≤ 9; decide), (by show (9 : Int) ≤ 9223372036854775807; decide), e2⟩
      refine fin _ (List.all_eq_true.1 all5 c2 h2) ?_
      intro q hq
      simp only [List.mem_cons, List.not_mem_nil, or_false] at hq
      rcases hq with rfl | rfl | rfl
      · exact ⟨b0, (by show (1 : Int) ≤ 9; decide), (by show (9 : Int) ≤ 9223372036854775807; decide), e0⟩
      · exact ⟨b1, (by show (1 : Int) ≤ 10; decide), (by show (10 : Int) ≤ 9223372036854775807; decide), e1⟩
      · exact ⟨b2, (by show (1 : Int) ≤ 9; decide), (by show (9 : Int) ≤ 9223372036854775807; decide), e2⟩
    · skip
      obtain ⟨c2, h2, e2⟩ := cover_get (t := 102) (n := 9) (l := ([(0, 0), (1, 1), (2, 2), (3, 3), (4, 4), (5, 5), (6, 6), (7, 7), (8, 8)] : List (Nat × Nat))) (by kernel_rfl) (a := a2) (by decide) rfl
      rw [show ([(0, 0), (1, 1), (2, 2), (3, 3), (4, 4), (5, 5), (6, 6), (7, 7), (8, 8)] : List (Nat × Nat)) = ([(0, 0), (1, 1), (2, 2)] : List (Nat × Nat)) ++ (([(3, 3), (4, 4), (5, 5)] : List (Nat × Nat)) ++ (([(6, 6), (7, 7), (8, 8)] : List (Nat × Nat)))) from by kernel_rfl] at h2
      rcases List.mem_append.1 h2 with h2 | h2
      · skip
        refine fin _ (List.all_eq_true.1 all6 c2 h2) ?_
        intro q hq
        simp only [List.mem_cons, List.not_mem_nil, or_false] at hq
        rcases hq with rfl | rfl | rfl
        · exact ⟨b0, (by show (1 : Int) ≤ 9; decide), (by show (9 : Int) ≤ 9223372036854775807; decide), e0⟩
        · exact ⟨b1, (by show (1 : Int) ≤ 10; decide), (by show (10 : Int) ≤ 9223372036854775807; decide), e1⟩
        · exact ⟨b2, (by show (1 : Int) ≤ 9; decide), (by show (9 : Int) ≤ 9223372036854775807; decide), e2⟩
      rcases List.mem_append.1 h2 with h2 | h2
      · skip
        refine fin _ (List.all_eq_true.1 all7 c2 h2) ?_
        intro q hq
        simp only [List.mem_cons, List.not_mem_nil, or_false] at hq
        rcases hq with rfl | rfl | rfl
        · exact ⟨b0, (by show (1 : Int) ≤ 9; decide), (by show (9 : Int) ≤ 9223372036854775807; decide), e0⟩
        · exact ⟨b1, (by show (1 : Int) ≤ 10; decide), (by show (10 : Int) ≤ 9223372036854775807; decide), e1⟩
        · exact ⟨b2, (by show (1 : Int) ≤ 9; decide), (by show (9 : Int) ≤ 9223372036854775807; decide), e2⟩
      refine fin _ (List.all_eq_true.1 all8 c2 h2) ?_
      intro q hq
      simp only [List.mem_cons, List.not_mem_nil, or_false] at hq
      rcases hq with rfl | rfl | rfl
      · exact ⟨b0, (by show (1 : Int) ≤ 9; decide), (by show (9 : Int) ≤ 9223372036854775807; decide), e0⟩
      · exact ⟨b1, (by show (1 : Int) ≤ 10; decide), (by show (10 : Int) ≤ 9223372036854775807; decide), e1⟩
      · exact ⟨b2, (by show (1 : Int) ≤ 9; decide), (by show (9 : Int) ≤ 9223372036854775807; decide), e2⟩
    · skip
      obtain ⟨c2, h2, e2⟩ := cover_get (t := 102) (n := 9) (l := ([(0, 0), (1, 1), (2, 2), (3, 3), (4, 4), (5, 5), (6, 6), (7, 7), (8, 8)] : List (Nat × Nat))) (by kernel_rfl) (a := a2) (by decide) rfl
      rw [show ([(0, 0), (1, 1), (2, 2), (3, 3), (4, 4), (5, 5), (6, 6), (7, 7), (8, 8)] : List (Nat × Nat)) = ([(0, 0), (1, 1), (2, 2)] : List (Nat × Nat)) ++ (([(3, 3), (4, 4), (5, 5)] : List (Nat × Nat)) ++ (([(6, 6), (7, 7), (8, 8)] : List (Nat × Nat)))) from by kernel_rfl] at h2
      rcases List.mem_append.1 h2 with h2 | h2
      · skip
        refine fin _ (List.all_eq_true.1 all9 c2 h2) ?_
        intro q hq
        simp only [List.mem_cons, List.not_mem_nil, or_false] at hq
        rcases hq with rfl | rfl | rfl
        · exact ⟨b0, (by show (1 : Int) ≤ 9; decide), (by show (9 : Int) ≤ 9223372036854775807; decide), e0⟩
        · exact ⟨b1, (by show (1 : Int) ≤ 10; decide), (by show (10 : Int) ≤ 9223372036854775807; decide), e1⟩
        · exact ⟨b2, (by show (1 : Int) ≤ 9; decide), (by show (9 : Int) ≤ 9223372036854775807; decide), e2⟩
      rcases List.mem_append.1 h2 with h2 | h2
      · skip
        refine fin _ (List.all_eq_true.1 all10 c2 h2) ?_
        intro q hq
        simp only [List.mem_cons, List.not_mem_nil, or_false] at hq
        rcases hq with rfl | rfl | rfl
        · exact ⟨b0, (by show (1 : Int) ≤ 9; decide), (by show (9 : Int) ≤ 9223372036854775807; decide), e0⟩
        · exact ⟨b1, (by show (1 : Int) ≤ 10; decide), (by show (10 : Int) ≤ 9223372036854775807; decide), e1⟩
        · exact ⟨b2, (by show (1 : Int) ≤ 9; decide), (by show (9 : Int) ≤ 9223372036854775807; decide), e2⟩
      refine fin _ (List.all_eq_true.1 all11 c2 h2) ?_
      intro q hq
      simp only [List.mem_cons, List.not_mem_nil, or_false] at hq
      rcases hq with rfl | rfl | rfl
      · exact ⟨b0, (by show (1 : Int) ≤ 9; decide), (by show (9 : Int) ≤ 9223372036854775807; decide), e0⟩
      · exact ⟨b1, (by show (1 : Int) ≤ 10; decide), (by show (10 : Int) ≤ 9223372036854775807; decide), e1⟩
      · exact ⟨b2, (by show (1 : Int) ≤ 9; decide), (by show (9 : Int) ≤ 9223372036854775807; decide), e2⟩
    · skip
      obtain ⟨c2, h2, e2⟩ := cover_get (t := 102) (n := 9) (l := ([(0, 0), (1, 1), (2, 2), (3, 3), (4, 4), (5, 5), (6, 6), (7, 7), (8, 8)] : List (Nat × Nat))) (by kernel_rfl) (a := a2) (by decide) rfl
      rw [show ([(0, 0), (1, 1), (2, 2), (3, 3), (4, 4), (5, 5), (6, 6), (7, 7), (8, 8)] : List (Nat × Nat)) = ([(0, 0), (1, 1), (2, 2)] : List (Nat × Nat)) ++ (([(3, 3), (4, 4), (5, 5)] : List (Nat × Nat)) ++ (([(6, 6), (7, 7), (8, 8)] : List (Nat × Nat)))) from by kernel_rfl] at h2
      rcases List.mem_append.1 h2 with h2 | h2
      · skip
        refine fin _ (List.all_eq_true.1 all12 c2 h2) ?_
        intro q hq
        simp only [List.mem_cons, List.not_mem_nil, or_false] at hq
        rcases hq with rfl | rfl | rfl
        · exact ⟨b0, (by show (1 : Int) ≤ 9; decide), (by show (9 : Int) ≤ 9223372036854775807; decide), e0⟩
        · exact ⟨b1, (by show (1 : Int) ≤ 10; decide), (by show (10 : Int) ≤ 9223372036854775807; decide), e1⟩
        · exact ⟨b2, (by show (1 : Int) ≤ 9; decide), (by show (9 : Int) ≤ 9223372036854775807; decide), e2⟩
      rcases List.mem_append.1 h2 with h2 | h2
      · skip
        refine fin _ (List.all_eq_true.1 all13 c2 h2) ?_
        intro q hq
        simp only [List.mem_cons, List.not_mem_nil, or_false] at hq
        rcases hq with rfl | rfl | rfl
        · exact ⟨b0, (by show (1 : Int) ≤ 9; decide), (by show (9 : Int) ≤ 9223372036854775807; decide), e0⟩
        · exact ⟨b1, (by show (1 : Int) ≤ 10; decide), (by show (10 : Int) ≤ 9223372036854775807; decide), e1⟩
        · exact ⟨b2, (by show (1 : Int) ≤ 9; decide), (by show (9 : Int) ≤ 9223372036854775807; decide), e2⟩
      refine fin _ (List.all_eq_true.1 all14 c2 h2) ?_
      intro q hq
      simp only [List.mem_cons, List.not_mem_nil, or_false] at hq
      rcases hq with rfl | rfl | rfl
      · exact ⟨b0, (by show (1 : Int) ≤ 9; decide), (by show (9 : Int) ≤ 9223372036854775807; decide), e0⟩
      · exact ⟨b1, (by show (1 : Int) ≤ 10; decide), (by show (10 : Int) ≤ 9223372036854775807; decide), e1⟩
      · exact ⟨b2, (by show (1 : Int) ≤ 9; decide), (by show (9 : Int) ≤ 9223372036854775807; decide), e2⟩
    · skip
      obtain ⟨c2, h2, e2⟩ := cover_get (t := 102) (n := 9) (l := ([(0, 0), (1, 1), (2, 2), (3, 3), (4, 4), (5, 5), (6, 6), (7, 7), (8, 8)] : List (Nat × Nat))) (by kernel_rfl) (a := a2) (by decide) rfl
      rw [show ([(0, 0), (1, 1), (2, 2), (3, 3), (4, 4), (5, 5), (6, 6), (7, 7), (8, 8)] : List (Nat × Nat)) = ([(0, 0), (1, 1), (2, 2)] : List (Nat × Nat)) ++ (([(3, 3), (4, 4), (5, 5)] : List (Nat × Nat)) ++ (([(6, 6), (7, 7), (8, 8)] : List (Nat × Nat)))) from by kernel_rfl] at h2
      rcases List.mem_append.1 h2 with h2 | h2
      · skip
        refine fin _ (List.all_eq_true.1 all15 c2 h2) ?_
        intro q hq
        simp only [List.mem_cons, List.not_mem_nil, or_false] at hq
        rcases hq with rfl | rfl | rfl
        · exact ⟨b0, (by show (1 : Int) ≤ 9; decide), (by show (9 : Int) ≤ 9223372036854775807; decide), e0⟩
        · exact ⟨b1, (by show (1 : Int) ≤ 10; decide), (by show (10 : Int) ≤ 9223372036854775807; decide), e1⟩
        · exact ⟨b2, (by show (1 : Int) ≤ 9; decide), (by show (9 : Int) ≤ 9223372036854775807; decide), e2⟩
      rcases List.mem_append.1 h2 with h2 | h2
      · skip
        refine fin _ (List.all_eq_true.1 all16 c2 h2) ?_
        intro q hq
        simp only [List.mem_cons, List.not_mem_nil, or_false] at hq
        rcases hq with rfl | rfl | rfl
        · exact ⟨b0, (by show (1 : Int) ≤ 9; decide), (by show (9 : Int) ≤ 9223372036854775807; decide), e0⟩
        · exact ⟨b1, (by show (1 : Int) ≤ 10; decide), (by show (10 : Int) ≤ 9223372036854775807; decide), e1⟩
        · exact ⟨b2, (by show (1 : Int) ≤ 9; decide), (by show (9 : Int) ≤ 9223372036854775807; decide), e2⟩
      refine fin _ (List.all_eq_true.1 all17 c2 h2) ?_
      intro q hq
      simp only [List.mem_cons, List.not_mem_nil, or_false] at hq
      rcases hq with rfl | rfl | rfl
      · exact ⟨b0, (by show (1 : Int) ≤ 9; decide), (by show (9 : Int) ≤ 9223372036854775807; decide), e0⟩
      · exact ⟨b1, (by show (1 : Int) ≤ 10; decide), (by show (10 : Int) ≤ 9223372036854775807; decide), e1⟩
      · exact ⟨b2, (by show (1 : Int) ≤ 9; decide), (by show (9 : Int) ≤ 9223372036854775807; decide), e2⟩
    · skip
      obtain ⟨c2, h2, e2⟩ := cover_get (t := 102) (n := 9) (l := ([(0, 0), (1, 1), (2, 2), (3, 3), (4, 4), (5, 5), (6, 6), (7, 7), (8, 8)] : List (Nat × Nat))) (by kernel_rfl) (a := a2) (by decide) rfl
      rw [show ([(0, 0), (1, 1), (2, 2), (3, 3), (4, 4), (5, 5), (6, 6), (7, 7), (8, 8)] : List (Nat × Nat)) = ([(0, 0), (1, 1), (2, 2)] : List (Nat × Nat)) ++ (([(3, 3), (4, 4), (5, 5)] : List (Nat × Nat)) ++ (([(6, 6), (7, 7), (8, 8)] : List (Nat × Nat)))) from by kernel_rfl] at h2
      rcases List.mem_append.1 h2 with h2 | h2
      · skip
        refine fin _ (List.all_eq_true.1 all18 c2 h2) ?_
        intro q hq
        simp only [List.mem_cons, List.not_mem_nil, or_false] at hq
        rcases hq with rfl | rfl | rfl
        · exact ⟨b0, (by show (1 : Int) ≤ 9; decide), (by show (9 : Int) ≤ 9223372036854775807; decide), e0⟩
        · exact ⟨b1, (by show (1 : Int) ≤ 10; decide), (by show (10 : Int) ≤ 9223372036854775807; decide), e1⟩
        · exact ⟨b2, (by show (1 : Int) ≤ 9; decide), (by show (9 : Int) ≤ 9223372036854775807; decide), e2⟩
      rcases List.mem_append.1 h2 with h2 | h2
      · skip
        refine fin _ (List.all_eq_true.1 all19 c2 h2) ?_
        intro q hq
        simp only [List.mem_cons, List.not_mem_nil, or_false] at hq
        rcases hq with rfl | rfl | rfl
        · exact ⟨b0, (by show (1 : Int) ≤ 9; decide), (by show (9 : Int) ≤ 9223372036854775807; decide), e0⟩
        · exact ⟨b1, (by show (1 : Int) ≤ 10; decide), (by show (10 : Int) ≤ 9223372036854775807; decide), e1⟩
        · exact ⟨b2, (by show (1 : Int) ≤ 9; decide), (by show (9 : Int) ≤ 9223372036854775807; decide), e2⟩
      refine fin _ (List.all_eq_true.1 all20 c2 h2) ?_
      intro q hq
      simp only [List.mem_cons, List.not_mem_nil, or_false] at hq
      rcases hq with rfl | rfl | rfl
      · exact ⟨b0, (by show (1 : Int) ≤ 9; decide), (by show (9 : Int) ≤ 9223372036854775807; decide), e0⟩
      · exact ⟨b1, (by show (1 : Int) ≤ 10; decide), (by show (10 : Int) ≤ 9223372036854775807; decide), e1⟩
      · exact ⟨b2, (by show (1 : Int) ≤ 9; decide), (by show (9 : Int) ≤ 9223372036854775807; decide), e2⟩
    · skip
      obtain ⟨c2, h2, e2⟩ := cover_get (t := 102) (n := 9) (l := ([(0, 0), (1, 1), (2, 2), (3, 3), (4, 4), (5, 5), (6, 6), (7, 7), (8, 8)] : List (Nat × Nat))) (by kernel_rfl) (a := a2) (by decide) rfl
      rw [show ([(0, 0), (1, 1), (2, 2), (3, 3), (4, 4), (5, 5), (6, 6), (7, 7), (8, 8)] : List (Nat × Nat)) = ([(0, 0), (1, 1), (2, 2)] : List (Nat × Nat)) ++ (([(3, 3), (4, 4), (5, 5)] : List (Nat × Nat)) ++ (([(6, 6), (7, 7), (8, 8)] : List (Nat × Nat)))) from by kernel_rfl] at h2
      rcases List.mem_append.1 h2 with h2 | h2
      · skip
        refine fin _ (List.all_eq_true.1 all21 c2 h2) ?_
        intro q hq
        simp only [List.mem_cons, List.not_mem_nil, or_false] at hq
        rcases hq with rfl | rfl | rfl
        · exact ⟨b0, (by show (1 : Int) ≤ 9; decide), (by show (9 : Int) ≤ 9223372036854775807; decide), e0⟩
        · exact ⟨b1, (by show (1 : Int) ≤ 10; decide), (by show (10 : Int) ≤ 9223372036854775807; decide), e1⟩
        · exact ⟨b2, (by show (1 : Int) ≤ 9; decide), (by show (9 : Int) ≤ 9223372036854775807; decide), e2⟩
      rcases List.mem_append.1 h2 with h2 | h2
      · skip
        refine fin _ (List.all_eq_true.1 all22 c2 h2) ?_
        intro q hq
        simp only [List.mem_cons, List.not_mem_nil, or_false] at hq
        rcases hq with rfl | rfl | rfl
        · exact ⟨b0, (by show (1 : Int) ≤ 9; decide), (by show (9 : Int) ≤ 9223372036854775807; decide), e0⟩
        · exact ⟨b1, (by show (1 : Int) ≤ 10; decide), (by show (10 : Int) ≤ 9223372036854775807; decide), e1⟩
        · exact ⟨b2, (by show (1 : Int) ≤ 9; decide), (by show (9 : Int) ≤ 9223372036854775807; decide), e2⟩
      refine fin _ (List.all_eq_true.1 all23 c2 h2) ?_
      intro q hq
      simp only [List.mem_cons, List.not_mem_nil, or_false] at hq
      rcases hq with rfl | rfl | rfl
      · exact ⟨b0, (by show (1 : Int) ≤ 9; decide), (by show (9 : Int) ≤ 9223372036854775807; decide), e0⟩
      · exact ⟨b1, (by show (1 : Int) ≤ 10; decide), (by show (10 : Int) ≤ 9223372036854775807; decide), e1⟩
      · exact ⟨b2, (by show (1 : Int) ≤ 9; decide), (by show (9 : Int) ≤ 9223372036854775807; decide), e2⟩
    · skip
      obtain ⟨c2, h2, e2⟩ := cover_get (t := 102) (n := 9) (l := ([(0, 0), (1, 1), (2, 2), (3, 3), (4, 4), (5, 5), (6, 6), (7, 7), (8, 8)] : List (Nat × Nat))) (by kernel_rfl) (a := a2) (by decide) rfl
      rw [show ([(0, 0), (1, 1), (2, 2), (3, 3), (4, 4), (5, 5), (6, 6), (7, 7), (8, 8)] : List (Nat × Nat)) = ([(0, 0), (1, 1), (2, 2)] : List (Nat × Nat)) ++ (([(3, 3), (4, 4), (5, 5)] : List (Nat × Nat)) ++ (([(6, 6), (7, 7), (8, 8)] : List (Nat × Nat)))) from by kernel_rfl] at h2
      rcases List.mem_append.1 h2 with h2 | h2
      · skip
        refine fin _ (List.all_eq_true.1 all24 c2 h2) ?_
        intro q hq
        simp only [List.mem_cons, List.not_mem_nil, or_false] at hq
        rcases hq with rfl | rfl | rfl
        · exact ⟨b0, (by show (1 : Int) ≤ 9; decide), (by show (9 : Int) ≤ 9223372036854775807; decide), e0⟩
        · exact ⟨b1, (by show (1 : Int) ≤ 10; decide), (by show (10 : Int) ≤ 9223372036854775807; decide), e1⟩
        · exact ⟨b2, (by show (1 : Int) ≤ 9; decide), (by show (9 : Int) ≤ 9223372036854775807; decide), e2⟩
      rcases List.mem_append.1 h2 with h2 | h2
      · skip
        refine fin _ (List.all_eq_true.1 all25 c2 h2) ?_
        intro q hq
        simp only [List.mem_cons, List.not_mem_nil, or_false] at hq
        rcases hq with rfl | rfl | rfl
        · exact ⟨b0, (by show (1 : Int) ≤ 9; decide), (by show (9 : Int) ≤ 9223372036854775807; decide), e0⟩
        · exact ⟨b1, (by show (1 : Int) ≤ 10; decide), (by show (10 : Int) ≤ 9223372036854775807; decide), e1⟩
        · exact ⟨b2, (by show (1 : Int) ≤ 9; decide), (by show (9 : Int) ≤ 9223372036854775807; decide), e2⟩
      refine fin _ (List.all_eq_true.1 all26 c2 h2) ?_
      intro q hq
      simp only [List.mem_cons, List.not_mem_nil, or_false] at hq
      rcases hq with rfl | rfl | rfl
      · exact ⟨b0, (by show (1 : Int) ≤ 9; decide), (by show (9 : Int) ≤ 9223372036854775807; decide), e0⟩
      · exact ⟨b1, (by show (1 : Int) ≤ 10; decide), (by show (10 : Int) ≤ 9223372036854775807; decide), e1⟩
      · exact ⟨b2, (by show (1 : Int) ≤ 9; decide), (by show (9 : Int) ≤ 9223372036854775807; decide), e2⟩
    · skip
      obtain ⟨c2, h2, e2⟩ := cover_get (t := 102) (n := 9) (l := ([(0, 0), (1, 1), (2, 2), (3, 3), (4, 4), (5, 5), (6, 6), (7, 7), (8, 8)] : List (Nat × Nat))) (by kernel_rfl) (a := a2) (by decide) rfl
      rw [show ([(0, 0), (1, 1), (2, 2), (3, 3), (4, 4), (5, 5), (6, 6), (7, 7), (8, 8)] : List (Nat × Nat)) = ([(0, 0), (1, 1), (2, 2)] : List (Nat × Nat)) ++ (([(3, 3), (4, 4), (5, 5)] : List (Nat × Nat)) ++ (([(6, 6), (7, 7), (8, 8)] : List (Nat × Nat)))) from by kernel_rfl] at h2
      rcases List.mem_append.1 h2 with h2 | h2
      · skip
        refine fin _ (List.all_eq_true.1 all27 c2 h2) ?_
        intro q hq
        simp only [List.mem_cons, List.not_mem_nil, or_false] at hq
        rcases hq with rfl | rfl | rfl
        · exact ⟨b0, (by show (1 : Int) ≤ 9; decide), (by show (9 : Int) ≤ 9223372036854775807; decide), e0⟩
        · exact ⟨b1, (by show (1 : Int) ≤ 10; decide), (by show (10 : Int) ≤ 9223372036854775807; decide), e1⟩
        · exact ⟨b2, (by show (1 : Int) ≤ 9; decide), (by show (9 : Int) ≤ 9223372036854775807; decide), e2⟩
      rcases List.mem_append.1 h2 with h2 | h2
      · skip
        refine fin _ (List.all_eq_true.1 all28 c2 h2) ?_
        intro q hq
        simp only [List.mem_cons, List.not_mem_nil, or_false] at hq
        rcases hq with rfl | rfl | rfl
        · exact ⟨b0, (by show (1 : Int) ≤ 9; decide), (by show (9 : Int) ≤ 9223372036854775807; decide), e0⟩
        · exact ⟨b1, (by show (1 : Int) ≤ 10; decide), (by show (10 : Int) ≤ 9223372036854775807; decide), e1⟩
        · exact ⟨b2, (by show (1 : Int) ≤ 9; decide), (by show (9 : Int) ≤ 9223372036854775807; decide), e2⟩
      refine fin _ (List.all_eq_true.1 all29 c2 h2) ?_
      intro q hq
      simp only [List.mem_cons, List.not_mem_nil, or_false] at hq
      rcases hq with rfl | rfl | rfl
      · exact ⟨b0, (by show (1 : Int) ≤ 9; decide), (by show (9 : Int) ≤ 9223372036854775807; decide), e0⟩
      · exact ⟨b1, (by show (1 : Int) ≤ 10; decide), (by show (10 : Int) ≤ 9223372036854775807; decide), e1⟩
      · exact ⟨b2, (by show (1 : Int) ≤ 9; decide), (by show (9 : Int) ≤ 9223372036854775807; decide), e2⟩
  · skip
    obtain ⟨c1, h1, e1⟩ := cover_get (t := 101) (n := 10) (l := ([(0, 0), (1, 1), (2, 2), (3, 3), (4, 4), (5, 5), (6, 6), (7, 7), (8, 8), (9, 9)] : List (Nat × Nat))) (by kernel_rfl) (a := a1) (by decide) rfl
    simp only [List.mem_cons, List.not_mem_nil, or_false] at h1
    rcases h1 with rfl | rfl | rfl | rfl | rfl | rfl | rfl | rfl | rfl | rfl
    · skip
      obtain ⟨c2, h2, e2⟩ := cover_get (t := 102) (n := 9) (l := ([(0, 0), (1, 1), (2, 2), (3, 3), (4, 4), (5, 5), (6, 6), (7, 7), (8, 8)] : List (Nat × Nat))) (by kernel_rfl) (a := a2) (by decide) rfl
      rw [show ([(0, 0), (1, 1), (2, 2), (3, 3), (4, 4), (5, 5), (6, 6), (7, 7), (8, 8)] : List (Nat × Nat)) = ([(0, 0), (1, 1), (2, 2)] : List (Nat × Nat)) ++ (([(3, 3), (4, 4), (5, 5)] : List (Nat × Nat)) ++ (([(6, 6), (7, 7), (8, 8)] : List (Nat × Nat)))) from by kernel_rfl] at h2
      rcases List.mem_append.1 h2 with h2 | h2
      · skip
        refine fin _ (List.all_eq_true.1 all30 c2 h2) ?_
        intro q hq
        simp only [List.mem_cons, List.not_mem_nil, or_false] at hq
        rcases hq with rfl | rfl | rfl
        · exact ⟨b0, (by show (1 : Int) ≤ 9; decide), (by show (9 : Int) ≤ 9223372036854775807; decide), e0⟩
        · exact ⟨b1, (by show (1 : Int) ≤ 10; decide), (by show (10 : Int) ≤ 9223372036854775807; decide), e1⟩
        · exact ⟨b2, (by show (1 : Int) ≤ 9; decide), (by show (9 : Int) ≤ 9223372036854775807; decide), e2⟩
      rcases List.mem_append.1 h2 with h2 | h2
      · skip
        refine fin _ (List.all_eq_true.1 all31 c2 h2) ?_
        intro q hq
        simp only [List.mem_cons, List.not_mem_nil, or_false] at hq
        rcases hq with rfl | rfl | rfl
        · exact ⟨b0, (by show (1 : Int) ≤ 9; decide), (by show (9 : Int) ≤ 9223372036854775807; decide), e0⟩
        · exact ⟨b1, (by show (1 : Int) ≤ 10; decide), (by show (10 : Int) ≤ 9223372036854775807; decide), e1⟩
        · exact ⟨b2, (by show (1 : Int) ≤ 9; decide), (by show (9 : Int) ≤ 9223372036854775807; decide), e2⟩
      refine fin _ (List.all_eq_true.1 all32 c2 h2) ?_
      intro q hq
      simp only [List.mem_cons, List.not_mem_nil, or_false] at hq
      rcases hq with rfl | rfl | rfl
      · exact ⟨b0, (by show (1 : Int) ≤ 9; decide), (by show (9 : Int) ≤ 9223372036854775807; decide), e0⟩
      · exact ⟨b1, (by show (1 : Int) ≤ 10; decide), (by show (10 : Int) ≤ 9223372036854775807; decide), e1⟩
      · exact ⟨b2, (by show (1 : Int) ≤ 9; decide), (by show (9 : Int) ≤ 9223372036854775807; decide), e2⟩
    · skip
      obtain ⟨c2, h2, e2⟩ := cover_get (t := 102) (n := 9) (l := ([(0, 0), (1, 1), (2, 2), (3, 3), (4, 4), (5, 5), (6, 6), (7, 7), (8, 8)] : List (Nat × Nat))) (by kernel_rfl) (a := a2) (by decide) rfl
      rw [show ([(0, 0), (1, 1), (2, 2), (3, 3), (4, 4), (5, 5), (6, 6), (7, 7), (8, 8)] : List (Nat × Nat)) = ([(0, 0), (1, 1), (2, 2)] : List (Nat × Nat)) ++ (([(3, 3), (4, 4), (5, 5)] : List (Nat × Nat)) ++ (([(6, 6), (7, 7), (8, 8)] : List (Nat × Nat)))) from by kernel_rfl] at h2
      rcases List.mem_append.1 h2 with h2 | h2
      · skip
        refine fin _ (List.all_eq_true.1 all33 c2 h2) ?_
        intro q hq
        simp only [List.mem_cons, List.not_mem_nil, or_false] at hq
        rcases hq with rfl | rfl | rfl
        · exact ⟨b0, (by show (1 : Int) ≤ 9; decide), (by show (9 : Int) ≤ 9223372036854775807; decide), e0⟩
        · exact ⟨b1, (by show (1 : Int) ≤ 10; decide), (by show (10 : Int) ≤ 9223372036854775807; decide), e1⟩
        · exact ⟨b2, (by show (1 : Int) ≤ 9; decide), (by show (9 : Int) ≤ 9223372036854775807; decide), e2⟩
      rcases List.mem_append.1 h2 with h2 | h2
      · skip
        refine fin _ (List.all_eq_true.1 all34 c2 h2) ?_
        intro q hq
        simp only [List.mem_cons, List.not_mem_nil, or_false] at hq
        rcases hq with rfl | rfl | rfl
        · exact ⟨b0, (by show (1 : Int) ≤ 9; decide), (by show (9 : Int) ≤ 9223372036854775807; decide), e0⟩
        · exact ⟨b1, (by show (1 : Int) ≤ 10; decide), (by show (10 : Int) ≤ 9223372036854775807; decide), e1⟩
        · exact ⟨b2, (by show (1 : Int) ≤ 9; decide), (by show (9 : Int) ≤ 9223372036854775807; decide), e2⟩
      refine fin _ (List.all_eq_true.1 all35 c2 h2) ?_
      intro q hq
      simp only [List.mem_cons, List.not_mem_nil, or_false] at hq
      rcases hq with rfl | rfl | rfl
      · exact ⟨b0, (by show (1 : Int) ≤ 9; decide), (by show (9 : Int) ≤ 9223372036854775807; decide), e0⟩
      · exact ⟨b1, (by show (1 : Int) ≤ 10; decide), (by show (10 : Int) ≤ 9223372036854775807; decide), e1⟩
      · exact ⟨b2, (by show (1 : Int) ≤ 9; decide), (by show (9 : Int) ≤ 9223372036854775807; decide), e2⟩
    · skip
      obtain ⟨c2, h2, e2⟩ := cover_get (t := 102) (n := 9) (l := ([(0, 0), (1, 1), (2, 2), (3, 3), (4, 4), (5, 5), (6, 6), (7, 7), (8, 8)] : List (Nat × Nat))) (by kernel_rfl) (a := a2) (by decide) rfl
      rw [show ([(0, 0), (1, 1), (2, 2), (3, 3), (4, 4), (5, 5), (6, 6), (7, 7), (8, 8)] : List (Nat × Nat)) = ([(0, 0), (1, 1), (2, 2)] : List (Nat × Nat)) ++ (([(3, 3), (4, 4), (5, 5)] : List (Nat × Nat)) ++ (([(6, 6), (7, 7), (8, 8)] : List (Nat × Nat)))) from by kernel_rfl] at h2
      rcases List.mem_append.1 h2 with h2 | h2
      · skip
        refine fin _ (List.all_eq_true.1 all36 c2 h2) ?_
        intro q hq
        simp only [List.mem_cons, List.not_mem_nil, or_false] at hq
        rcases hq with rfl | rfl | rfl
        · exact ⟨b0, (by show (1 : Int) ≤ 9; decide), (by show (9 : Int) ≤ 9223372036854775807; decide), e0⟩
        · exact ⟨b1, (by show (1 : Int) ≤ 10; decide), (by show (10 : Int) ≤ 9223372036854775807; decide), e1⟩
        · exact ⟨b2, (by show (1 : Int) ≤ 9; decide), (by show (9 : Int) ≤ 9223372036854775807; decide), e2⟩
      rcases List.mem_append.1 h2 with h2 | h2
      · skip
        refine fin _ (List.all_eq_true.1 all37 c2 h2) ?_
        intro q hq
        simp only [List.mem_cons, List.not_mem_nil, or_false] at hq
        rcases hq with rfl | rfl | rfl
        · exact ⟨b0, (by show (1 : Int) ≤ 9; decide), (by show (9 : Int) ≤ 9223372036854775807; decide), e0⟩
        · exact ⟨b1, (by show (1 : Int) ≤ 10; decide), (by show (10 : Int) ≤ 9223372036854775807; decide), e1⟩
        · exact ⟨b2, (by show (1 : Int) ≤ 9; decide), (by show (9 : Int) ≤ 9223372036854775807; decide), e2⟩
      refine fin _ (List.all_eq_true.1 all38 c2 h2) ?_
      intro q hq
      simp only [List.mem_cons, List.not_mem_nil, or_false] at hq
      rcases hq with rfl | rfl | rfl
      · exact ⟨b0, (by show (1 : Int) ≤ 9; decide), (by show (9 : Int) ≤ 9223372036854775807; decide), e0⟩
      · exact ⟨b1, (by show (1 : Int) ≤ 10; decide), (by show (10 : Int) ≤ 9223372036854775807; decide), e1⟩
      · exact ⟨b2, (by show (1 : Int) ≤ 9; decide), (by show (9 : Int) ≤ 9223372036854775807; decide), e2⟩
    · skip
      obtain ⟨c2, h2, e2⟩ := cover_get (t := 102) (n := 9) (l := ([(0, 0), (1, 1), (2, 2), (3, 3), (4, 4), (5, 5), (6, 6), (7, 7), (8, 8)] : List (Nat × Nat))) (by kernel_rfl) (a := a2) (by decide) rfl
      rw [show ([(0, 0), (1, 1), (2, 2), (3, 3), (4, 4), (5, 5), (6, 6), (7, 7), (8, 8)] : List (Nat × Nat)) = ([(0, 0), (1, 1), (2, 2)] : List (Nat × Nat)) ++ (([(3, 3), (4, 4), (5, 5)] : List (Nat × Nat)) ++ (([(6, 6), (7, 7), (8, 8)] : List (Nat × Nat)))) from by kernel_rfl] at h2
      rcases List.mem_append.1 h2 with h2 | h2
      · skip
        refine fin _ (List.all_eq_true.1 all39 c2 h2) ?_
        intro q hq
        simp only [List.mem_cons, List.not_mem_nil, or_false] at hq
        rcases hq with rfl | rfl | rfl
        · exact ⟨b0, (by show (1 : Int) ≤ 9; decide), (by show (9 : Int) ≤ 9223372036854775807; decide), e0⟩
        · exact ⟨b1, (by show (1 : Int) ≤ 10; decide), (by show (10 : Int) ≤ 9223372036854775807; decide), e1⟩
        · exact ⟨b2, (by show (1 : Int) ≤ 9; decide), (by show (9 : Int) ≤ 9223372036854775807; decide), e2⟩
      rcases List.mem_append.1 h2 with h2 | h2
      · skip
        refine fin _ (List.all_eq_true.1 all40 c2 h2) ?_
        intro q hq
        simp only [List.mem_cons, List.not_mem_nil, or_false] at hq
        rcases hq with rfl | rfl | rfl
        · exact ⟨b0, (by show (1 : Int) ≤ 9; decide), (by show (9 : Int) ≤ 9223372036854775807; decide), e0⟩
        · exact ⟨b1, (by show (1 : Int) ≤ 10; decide), (by show (10 : Int) ≤ 9223372036854775807; decide), e1⟩
        · exact ⟨b2, (by show (1 : Int) ≤ 9; decide), (by show (9 : Int) ≤ 9223372036854775807; decide), e2⟩
      refine fin _ (List.all_eq_true.1 all41 c2 h2) ?_
      intro q hq
      simp only [List.mem_cons, List.not_mem_nil, or_false] at hq
      rcases hq with rfl | rfl | rfl
      · exact ⟨b0, (by show (1 : Int) ≤ 9; decide), (by show (9 : Int) ≤ 9223372036854775807; decide), e0⟩
      · exact ⟨b1, (by show (1 : Int) ≤ 10; decide), (by show (10 : Int) ≤ 9223372036854775807; decide), e1⟩
      · exact ⟨b2, (by show (1 : Int) ≤ 9; decide), (by show (9 : Int) ≤ 9223372036854775807; decide), e2⟩
    · skip
      obtain ⟨c2, h2, e2⟩ := cover_get (t := 102) (n := 9) (l := ([(0, 0), (1, 1), (2, 2), (3, 3), (4, 4), (5, 5), (6, 6), (7, 7), (8, 8)] : List (Nat × Nat))) (by kernel_rfl) (a := a2) (by decide) rfl
      rw [show ([(0, 0), (1, 1), (2, 2), (3, 3), (4, 4), (5, 5), (6, 6), (7, 7), (8, 8)] : List (Nat × Nat)) = ([(0, 0), (1, 1), (2, 2)] : List (Nat × Nat)) ++ (([(3, 3), (4, 4), (5, 5)] : List (Nat × Nat)) ++ (([(6, 6), (7, 7), (8, 8)] : List (Nat × Nat)))) from by kernel_rfl] at h2
      rcases List.mem_append.1 h2 with h2 | h2
      · skip
        refine fin _ (List.all_eq_true.1 all42 c2 h2) ?_
        intro q hq
        simp only [List.mem_cons, List.not_mem_nil, or_false] at hq
        rcases hq with rfl | rfl | rfl
        · exact ⟨b0, (by show (1 : Int) ≤ 9; decide), (by show (9 : Int) ≤ 9223372036854775807; decide), e0⟩
        · exact ⟨b1, (by show (1 : Int) ≤ 10; decide), (by show (10 : Int) ≤ 9223372036854775807; decide), e1⟩
        · exact ⟨b2, (by show (1 : Int) ≤ 9; decide), (by show (9 : Int) ≤ 9223372036854775807; decide), e2⟩
      rcases List.mem_append.1 h2 with h2 | h2
      · skip
        refine fin _ (List.all_eq_true.1 all43 c2 h2) ?_
        intro q hq
        simp only [List.mem_cons, List.not_mem_nil, or_false] at hq
        rcases hq with rfl | rfl | rfl
        · exact ⟨b0, (by show (1 : Int) ≤ 9; decide), (by show (9 : Int) ≤ 9223372036854775807; decide), e0⟩
        · exact ⟨b1, (by show (1 : Int) ≤ 10; decide), (by show (10 : Int) ≤ 9223372036854775807; decide), e1⟩
        · exact ⟨b2, (by show (1 : Int) ≤ 9; decide), (by show (9 : Int) ≤ 9223372036854775807; decide), e2⟩
      refine fin _ (List.all_eq_true.1 all44 c2 h2) ?_
      intro q hq
      simp only [List.mem_cons, List.not_mem_nil, or_false] at hq
      rcases hq with rfl | rfl | rfl
      · exact ⟨b0, (by show (1 : Int) ≤ 9; decide), (by show (9 : Int) ≤ 9223372036854775807; decide), e0⟩
      · exact ⟨b1, (by show (1 : Int) ≤ 10; decide), (by show (10 : Int) ≤ 9223372036854775807; decide), e1⟩
      · exact ⟨b2, (by show (1 : Int) ≤ 9; decide), (by show (9 : Int) ≤ 9223372036854775807; decide), e2⟩
    · skip
      obtain ⟨c2, h2, e2⟩ := cover_get (t := 102) (n := 9) (l := ([(0, 0), (1, 1), (2, 2), (3, 3), (4, 4), (5, 5), (6, 6), (7, 7), (8, 8)] : List (Nat × Nat))) (by kernel_rfl) (a := a2) (by decide) rfl
      rw [show ([(0, 0), (1, 1), (2, 2), (3, 3), (4, 4), (5, 5), (6, 6), (7, 7), (8, 8)] : List (Nat × Nat)) = ([(0, 0), (1, 1), (2, 2)] : List (Nat × Nat)) ++ (([(3, 3), (4, 4), (5, 5)] : List (Nat × Nat)) ++ (([(6, 6), (7, 7), (8, 8)] : List (Nat × Nat)))) from by kernel_rfl] at h2
      rcases List.mem_append.1 h2 with h2 | h2
      · skip
        refine fin _ (List.all_eq_true.1 all45 c2 h2) ?_
        intro q hq
        simp only [List.mem_cons, List.not_mem_nil, or_false] at hq
        rcases hq with rfl | rfl | rfl
        · exact ⟨b0, (by show (1 : Int) ≤ 9; decide), (by show (9 : Int) ≤ 9223372036854775807; decide), e0⟩
        · exact ⟨b1, (by show (1 : Int) ≤ 10; decide), (by show (10 : Int) ≤ 9223372036854775807; decide), e1⟩
        · exact ⟨b2, (by show (1 : Int) ≤ 9; decide), (by show (9 : Int) ≤ 9223372036854775807; decide), e2⟩
      rcases List.mem_append.1 h2 with h2 | h2
      · skip
        refine fin _ (List.all_eq_true.1 all46 c2 h2) ?_
        intro q hq
        simp only [List.mem_cons, List.not_mem_nil, or_false] at hq
        rcases hq with rfl | rfl | rfl
        · exact ⟨b0, (by show (1 : Int) ≤ 9; decide), (by show (9 : Int) ≤ 9223372036854775807; decide), e0⟩
        · exact ⟨b1, (by show (1 : Int) ≤ 10; decide), (by show (10 : Int) ≤ 9223372036854775807; decide), e1⟩
        · exact ⟨b2, (by show (1 : Int) ≤ 9; decide), (by show (9 : Int) ≤ 9223372036854775807; decide), e2⟩
      refine fin _ (List.all_eq_true.1 all47 c2 h2) ?_
      intro q hq
      simp only [List.mem_cons, List.not_mem_nil, or_false] at hq
      rcases hq with rfl | rfl | rfl
      · exact ⟨b0, (by show (1 : Int) ≤ 9; decide), (by show (9 : Int) ≤ 9223372036854775807; decide), e0⟩
      · exact ⟨b1, (by show (1 : Int) ≤ 10; decide), (by show (10 : Int) ≤ 9223372036854775807; decide), e1⟩
      · exact ⟨b2, (by show (1 : Int) ≤ 9; decide), (by show (9 : Int) ≤ 9223372036854775807; decide), e2⟩
    · skip
      obtain ⟨c2, h2, e2⟩ := cover_get (t := 102) (n := 9) (l := ([(0, 0), (1, 1), (2, 2), (3, 3), (4, 4), (5, 5), (6, 6), (7, 7), (8, 8)] : List (Nat × Nat))) (by kernel_rfl) (a := a2) (by decide) rfl
      rw [show ([(0, 0), (1, 1), (2, 2), (3, 3), (4, 4), (5, 5), (6, 6), (7, 7), (8, 8)] : List (Nat × Nat)) = ([(0, 0), (1, 1), (2, 2)] : List (Nat × Nat)) ++ (([(3, 3), (4, 4), (5, 5)] : List (Nat × Nat)) ++ (([(6, 6), (7, 7), (8, 8)] : List (Nat × Nat)))) from by kernel_rfl] at h2
      rcases List.mem_append.1 h2 with h2 | h2
      · skip
        refine fin _ (List.all_eq_true.1 all48 c2 h2) ?_
        intro q hq
        simp only [List.mem_cons, List.not_mem_nil, or_false] at hq
        rcases hq with rfl | rfl | rfl
        · exact ⟨b0, (by show (1 : Int) ≤ 9; decide), (by show (9 : Int) ≤ 9223372036854775807; decide), e0⟩
        · exact ⟨b1, (by show (1 : Int) ≤ 10; decide), (by show (10 : Int) ≤ 9223372036854775807; decide), e1⟩
        · exact ⟨b2, (by show (1 : Int) ≤ 9; decide), (by show (9 : Int) ≤ 9223372036854775807; decide), e2⟩
      rcases List.mem_append.1 h2 with h2 | h2
      · skip
        refine fin _ (List.all_eq_true.1 all49 c2 h2) ?_
        intro q hq
        simp only [List.mem_cons, List.not_mem_nil, or_false] at hq
        rcases hq with rfl | rfl | rfl
        · exact ⟨b0, (by show (1 : Int) ≤ 9; decide), (by show (9 : Int) ≤ 9223372036854775807; decide), e0⟩
        · exact ⟨b1, (by show (1 : Int) ≤ 10; decide), (by show (10 : Int) ≤ 9223372036854775807; decide), e1⟩
        · exact ⟨b2, (by show (1 : Int) ≤ 9; decide), (by show (9 : Int) ≤ 9223372036854775807; decide), e2⟩
      refine fin _ (List.all_eq_true.1 all50 c2 h2) ?_
      intro q hq
      simp only [List.mem_cons, List.not_mem_nil, or_false] at hq
      rcases hq with rfl | rfl | rfl
      · exact ⟨b0, (by show (1 : Int) ≤ 9; decide), (by show (9 : Int) ≤ 9223372036854775807; decide), e0⟩
      · exact ⟨b1, (by show (1 : Int) ≤ 10; decide), (by show (10 : Int) ≤ 9223372036854775807; decide), e1⟩
      · exact ⟨b2, (by show (1 : Int) ≤ 9; decide), (by show (9 : Int) ≤ 9223372036854775807; decide), e2⟩
    · skip
      obtain ⟨c2, h2, e2⟩ := cover_get (t := 102) (n := 9) (l := ([(0, 0), (1, 1), (2, 2), (3, 3), (4, 4), (5, 5), (6, 6), (7, 7), (8, 8)] : List (Nat × Nat))) (by kernel_rfl) (a := a2) (by decide) rfl
      rw [show ([(0, 0), (1, 1), (2, 2), (3, 3), (4, 4), (5, 5), (6, 6), (7, 7), (8, 8)] : List (Nat × Nat)) = ([(0, 0), (1, 1), (2, 2)] : List (Nat × Nat)) ++ (([(3, 3), (4, 4), (5, 5)] : List (Nat × Nat)) ++ (([(6, 6), (7, 7), (8, 8)] : List (Nat × Nat)))) from by kernel_rfl] at h2
      rcases List.mem_append.1 h2 with h2 | h2
      · skip
        refine fin _ (List.all_eq_true.1 all51 c2 h2) ?_
        intro q hq
        simp only [List.mem_cons, List.not_mem_nil, or_false] at hq
        rcases hq with rfl | rfl | rfl
        · exact ⟨b0, (by show (1 : Int) ≤ 9; decide), (by show (9 : Int) ≤ 9223372036854775807; decide), e0⟩
        · exact ⟨b1, (by show (1 : Int) ≤ 10; decide), (by show (10 : Int) ≤ 9223372036854775807; decide), e1⟩
        · exact ⟨b2, (by show (1 : Int) ≤ 9; decide), (by show (9 : Int) ≤ 9223372036854775807; decide), e2⟩
      rcases List.mem_append.1 h2 with h2 | h2
      · skip
        refine fin _ (List.all_eq_true.1 all52 c2 h2) ?_
        intro q hq
        simp only [List.mem_cons, List.not_mem_nil, or_false] at hq
        rcases hq with rfl | rfl | rfl
        · exact ⟨b0, (by show (1 : Int) ≤ 9; decide), (by show (9 : Int) ≤ 9223372036854775807; decide), e0⟩
        · exact ⟨b1, (by show (1 : Int) ≤ 10; decide), (by show (10 : Int) ≤ 9223372036854775807; decide), e1⟩
        · exact ⟨b2, (by show (1 : Int) ≤ 9; decide), (by show (9 : Int) ≤ 9223372036854775807; decide), e2⟩
      refine fin _ (List.all_eq_true.1 all53 c2 h2) ?_
      intro q hq
      simp only [List.mem_cons, List.not_mem_nil, or_false] at hq
      rcases hq with rfl | rfl | rfl
      · exact ⟨b0, (by show (1 : Int) ≤ 9; decide), (by show (9 : Int) ≤ 9223372036854775807; decide), e0⟩
      · exact ⟨b1, (by show (1 : Int) ≤ 10; decide), (by show (10 : Int) ≤ 9223372036854775807; decide), e1⟩
      · exact ⟨b2, (by show (1 : Int) ≤ 9; decide), (by show (9 : Int) ≤ 9223372036854775807; decide), e2⟩
    · skip
      obtain ⟨c2, h2, e2⟩ := cover_get (t := 102) (n := 9) (l := ([(0, 0), (1, 1), (2, 2), (3, 3), (4, 4), (5, 5), (6, 6), (7, 7), (8, 8)] : List (Nat × Nat))) (by kernel_rfl) (a := a2) (by decide) rfl
      rw [show ([(0, 0), (1, 1), (2, 2), (3, 3), (4, 4), (5, 5), (6, 6), (7, 7), (8, 8)] : List (Nat × Nat)) = ([(0, 0), (1, 1), (2, 2)] : List (Nat × Nat)) ++ (([(3, 3), (4, 4), (5, 5)] : List (Nat × Nat)) ++ (([(6, 6), (7, 7), (8, 8)] : List (Nat × Nat)))) from by kernel_rfl] at h2
      rcases List.mem_append.1 h2 with h2 | h2
      · skip
        refine fin _ (List.all_eq_true.1 all54 c2 h2) ?_
        intro q hq
        simp only [List.mem_cons, List.not_mem_nil, or_false] at hq
        rcases hq with rfl | rfl | rfl
        · exact ⟨b0, (by show (1 : Int) ≤ 9; decide), (by show (9 : Int) ≤ 9223372036854775807; decide), e0⟩
        · exact ⟨b1, (by show (1 : Int) ≤ 10; decide), (by show (10 : Int) ≤ 9223372036854775807; decide), e1⟩
        · exact ⟨b2, (by show (1 : Int) ≤ 9; decide), (by show (9 : Int) ≤ 9223372036854775807; decide), e2⟩
      rcases List.mem_append.1 h2 with h2 | h2
      · skip
        refine fin _ (List.all_eq_true.1 all55 c2 h2) ?_
        intro q hq
        simp only [List.mem_cons, List.not_mem_nil, or_false] at hq
        rcases hq with rfl | rfl | rfl
        · exact ⟨b0, (by show (1 : Int) ≤ 9; decide), (by show (9 : Int) ≤ 9223372036854775807; decide), e0⟩
        · exact ⟨b1, (by show (1 : Int) ≤ 10; decide), (by show (10 : Int) ≤ 9223372036854775807; decide), e1⟩
        · exact ⟨b2, (by show (1 : Int) ≤ 9; decide), (by show (9 : Int) ≤ 9223372036854775807; decide), e2⟩
      refine fin _ (List.all_eq_true.1 all56 c2 h2) ?_
      intro q hq
      simp only [List.mem_cons, List.not_mem_nil, or_false] at hq
      rcases hq with rfl | rfl | rfl
      · exact ⟨b0, (by show (1 : Int) ≤ 9; decide), (by show (9 : Int) ≤ 9223372036854775807; decide), e0⟩
      · exact ⟨b1, (by show (1 : Int) ≤ 10; decide), (by show (10 : Int) ≤ 9223372036854775807; decide), e1⟩
      · exact ⟨b2, (by show (1 : Int) ≤ 9; decide), (by show (9 : Int) ≤ 9223372036854775807; decide), e2⟩
    · skip
      obtain ⟨c2, h2, e2⟩ := cover_get (t := 102) (n := 9) (l := ([(0, 0), (1, 1), (2, 2), (3, 3), (4, 4), (5, 5), (6, 6), (7, 7), (8, 8)] : List (Nat × Nat))) (by kernel_rfl) (a := a2) (by decide) rfl
      rw [show ([(0, 0), (1, 1), (2, 2), (3, 3), (4, 4), (5, 5), (6, 6), (7, 7), (8, 8)] : List (Nat × Nat)) = ([(0, 0), (1, 1), (2, 2)] : List (Nat × Nat)) ++ (([(3, 3), (4, 4), (5, 5)] : List (Nat × Nat)) ++ (([(6, 6), (7, 7), (8, 8)] : List (Nat × Nat)))) from by kernel_rfl] at h2
      rcases List.mem_append.1 h2 with h2 | h2
      · skip
        refine fin _ (List.all_eq_true.1 all57 c2 h2) ?_
        intro q hq
        simp only [List.mem_cons, List.not_mem_nil, or_false] at hq
        rcases hq with rfl | rfl | rfl
        · exact ⟨b0, (by show (1 : Int) ≤ 9; decide), (by show (9 : Int) ≤ 9223372036854775807; decide), e0⟩
        · exact ⟨b1, (by show (1 : Int) ≤ 10; decide), (by show (10 : Int) ≤ 9223372036854775807; decide), e1⟩
        · exact ⟨b2, (by show (1 : Int) ≤ 9; decide), (by show (9 : Int) ≤ 9223372036854775807; decide), e2⟩
      rcases List.mem_append.1 h2 with h2 | h2
      · skip
        refine fin _ (List.all_eq_true.1 all58 c2 h2) ?_
        intro q hq
        simp only [List.mem_cons, List.not_mem_nil, or_false] at hq
        rcases hq with rfl | rfl | rfl
        · exact ⟨b0, (by show (1 : Int) ≤ 9; decide), (by show (9 : Int) ≤ 9223372036854775807; decide), e0⟩
        · exact ⟨b1, (by show (1 : Int) ≤ 10; decide), (by show (10 : Int) ≤ 9223372036854775807; decide), e1⟩
        · exact ⟨b2, (by show (1 : Int) ≤ 9; decide), (by show (9 : Int) ≤ 9223372036854775807; decide), e2⟩
      refine fin _ (List.all_eq_true.1 all59 c2 h2) ?_
      intro q hq
      simp only [List.mem_cons, List.not_mem_nil, or_false] at hq
      rcases hq with rfl | rfl | rfl
      · exact ⟨b0, (by show (1 : Int) ≤ 9; decide), (by show (9 : Int) ≤ 9223372036854775807; decide), e0⟩
      · exact ⟨b1, (by show (1 : Int) ≤ 10; decide), (by show (10 : Int) ≤ 9223372036854775807; decide), e1⟩
      · exact ⟨b2, (by show (1 : Int) ≤ 9; decide), (by show (9 : Int) ≤ 9223372036854775807; decide), e2⟩
  · skip
    obtain ⟨c1, h1, e1⟩ := cover_get (t := 101) (n := 10) (l := ([(0, 0), (1, 1), (2, 2), (3, 3), (4, 4), (5, 5), (6, 6), (7, 7), (8, 8), (9, 9)] : List (Nat × Nat))) (by kernel_rfl) (a := a1) (by decide) rfl
    simp only [List.mem_cons, List.not_mem_nil, or_false] at h1
    rcases h1 with rfl | rfl | rfl | rfl | rfl | rfl | rfl | rfl | rfl | rfl
    · skip
      obtain ⟨c2, h2, e2⟩ := cover_get (t := 102) (n := 9) (l := ([(0, 0), (1, 1), (2, 2), (3, 3), (4, 4), (5, 5), (6, 6), (7, 7), (8, 8)] : List (Nat × Nat))) (by kernel_rfl) (a := a2) (by decide) rfl
      rw [show ([(0, 0), (1, 1), (2, 2), (3, 3), (4, 4), (5, 5), (6, 6), (7, 7), (8, 8)] : List (Nat × Nat)) = ([(0, 0), (1, 1), (2, 2)] : List (Nat × Nat)) ++ (([(3, 3), (4, 4), (5, 5)] : List (Nat × Nat)) ++ (([(6, 6), (7, 7), (8, 8)] : List (Nat × Nat)))) from by kernel_rfl] at h2
      rcases List.mem_append.1 h2 with h2 | h2
      · skip
        refine fin _ (List.all_eq_true.1 all60 c2 h2) ?_
        intro q hq
        simp only [List.mem_cons, List.not_mem_nil, or_false] at hq
        rcases hq with rfl | rfl | rfl
        · exact ⟨b0, (by show (1 : Int) ≤ 9; decide), (by show (9 : Int) ≤ 9223372036854775807; decide), e0⟩
        · exact ⟨b1, (by show (1 : Int) ≤ 10; decide), (by show (10 : Int) ≤ 9223372036854775807; decide), e1⟩
        · exact ⟨b2, (by show (1 : Int) ≤ 9; decide), (by show (9 : Int) ≤ 9223372036854775807; decide), e2⟩
      rcases List.mem_append.1 h2 with h2 | h2
      · skip
        refine fin _ (List.all_eq_true.1 all61 c2 h2) ?_
        intro q hq
        simp only [List.mem_cons, List.not_mem_nil, or_false] at hq
        rcases hq with rfl | rfl | rfl
        · exact ⟨b0, (by show (1 : Int) ≤ 9; decide), (by show (9 : Int) ≤ 9223372036854775807; decide), e0⟩
        · exact ⟨b1, (by show (1 : Int) ≤ 10; decide), (by show (10 : Int) ≤ 9223372036854775807; decide), e1⟩
        · exact ⟨b2, (by show (1 : Int) ≤ 9; decide), (by show (9 : Int) ≤ 9223372036854775807; decide), e2⟩
      refine fin _ (List.all_eq_true.1 all62 c2 h2) ?_
      intro q hq
      simp only [List.mem_cons, List.not_mem_nil, or_false] at hq
      rcases hq with rfl | rfl | rfl
      · exact ⟨b0, (by show (1 : Int) ≤ 9; decide), (by show (9 : Int) ≤ 9223372036854775807; decide), e0⟩
      · exact ⟨b1, (by show (1 : Int) ≤ 10; decide), (by show (10 : Int) ≤ 9223372036854775807; decide), e1⟩
      · exact ⟨b2, (by show (1 : Int) ≤ 9; decide), (by show (9 : Int) ≤ 9223372036854775807; decide), e2⟩
    · skip
      obtain ⟨c2, h2, e2⟩ := cover_get (t := 102) (n := 9) (l := ([(0, 0), (1, 1), (2, 2), (3, 3), (4, 4), (5, 5), (6, 6), (7, 7), (8, 8)] : List (Nat × Nat))) (by kernel_rfl) (a := a2) (by decide) rfl
      rw [show ([(0, 0), (1, 1), (2, 2), (3, 3), (4, 4), (5, 5), (6, 6), (7, 7), (8, 8)] : List (Nat × Nat)) = ([(0, 0), (1, 1), (2, 2)] : List (Nat × Nat)) ++ (([(3, 3), (4, 4), (5, 5)] : List (Nat × Nat)) ++ (([(6, 6), (7, 7), (8, 8)] : List (Nat × Nat)))) from by kernel_rfl] at h2
      rcases List.mem_append.1 h2 with h2 | h2
      · skip
        refine fin _ (List.all_eq_true.1 all63 c2 h2) ?_
        intro q hq
        simp only [List.mem_cons, List.not_mem_nil, or_false] at hq
        rcases hq with rfl | rfl | rfl
        · exact ⟨b0, (by show (1 : Int) ≤ 9; decide), (by show (9 : Int) ≤ 9223372036854775807; decide), e0⟩
        · exact ⟨b1, (by show (1 : Int) ≤ 10; decide), (by show (10 : Int) ≤ 9223372036854775807; decide), e1⟩
        · exact ⟨b2, (by show (1 : Int) ≤ 9; decide), (by show (9 : Int) ≤ 9223372036854775807; decide), e2⟩
      rcases List.mem_append.1 h2 with h2 | h2
      · skip
        refine fin _ (List.all_eq_true.1 all64 c2 h2) ?_
        intro q hq
        simp only [List.mem_cons, List.not_mem_nil, or_false] at hq
        rcases hq with rfl | rfl | rfl
        · exact ⟨b0, (by show (1 : Int) ≤ 9; decide), (by show (9 : Int) ≤ 9223372036854775807; decide), e0⟩
        · exact ⟨b1, (by show (1 : Int) ≤ 10; decide), (by show (10 : Int) ≤ 9223372036854775807; decide), e1⟩
        · exact ⟨b2, (by show (1 : Int) ≤ 9; decide), (by show (9 : Int) ≤ 9223372036854775807; decide), e2⟩
      refine fin _ (List.all_eq_true.1 all65 c2 h2) ?_
      intro q hq
      simp only [List.mem_cons, List.not_mem_nil, or_false] at hq
      rcases hq with rfl | rfl | rfl
      · exact ⟨b0, (by show (1 : Int) ≤ 9; decide), (by show (9 : Int) ≤ 9223372036854775807; decide), e0⟩
      · exact ⟨b1, (by show (1 : Int) ≤ 10; decide), (by show (10 : Int) ≤ 9223372036854775807; decide), e1⟩
      · exact ⟨b2, (by show (1 : Int) ≤ 9; decide), (by show (9 : Int) ≤ 9223372036854775807; decide), e2⟩
    · skip
      obtain ⟨c2, h2, e2⟩ := cover_get (t := 102) (n := 9) (l := ([(0, 0), (1, 1), (2, 2), (3, 3), (4, 4), (5, 5), (6, 6), (7, 7), (8, 8)] : List (Nat × Nat))) (by kernel_rfl) (a := a2) (by decide) rfl
      rw [show ([(0, 0), (1, 1), (2, 2), (3, 3), (4, 4), (5, 5), (6, 6), (7, 7), (8, 8)] : List (Nat × Nat)) = ([(0, 0), (1, 1), (2, 2)] : List (Nat × Nat)) ++ (([(3, 3), (4, 4), (5, 5)] : List (Nat × Nat)) ++ (([(6, 6), (7, 7), (8, 8)] : List (Nat × Nat)))) from by kernel_rfl] at h2
      rcases List.mem_append.1 h2 with h2 | h2
      · skip
        refine fin _ (List.all_eq_true.1 all66 c2 h2) ?_
        intro q hq
        simp only [List.mem_cons, List.not_mem_nil, or_false] at hq
        rcases hq with rfl | rfl | rfl
        · exact ⟨b0, (by show (1 : Int) ≤ 9; decide), (by show (9 : Int) ≤ 9223372036854775807; decide), e0⟩
        · exact ⟨b1, (by show (1 : Int) ≤ 10; decide), (by show (10 : Int) ≤ 9223372036854775807; decide), e1⟩
        · exact ⟨b2, (by show (1 : Int) ≤ 9; decide), (by show (9 : Int) ≤ 9223372036854775807; decide), e2⟩
      rcases List.mem_append.1 h2 with h2 | h2
      · skip
        refine fin _ (List.all_eq_true.1 all67 c2 h2) ?_
        intro q hq
        simp only [List.mem_cons, List.not_mem_nil, or_false] at hq
        rcases hq with rfl | rfl | rfl
        · exact ⟨b0, (by show (1 : Int) ≤ 9; decide), (by show (9 : Int) ≤ 9223372036854775807; decide), e0⟩
        · exact ⟨b1, (by show (1 : Int) ≤ 10; decide), (by show (10 : Int) ≤ 9223372036854775807; decide), e1⟩
        · exact ⟨b2, (by show (1 : Int) ≤ 9; decide), (by show (9 : Int) ≤ 9223372036854775807; decide), e2⟩
      refine fin _ (List.all_eq_true.1 all68 c2 h2) ?_
      intro q hq
      simp only [List.mem_cons, List.not_mem_nil, or_false] at hq
      rcases hq with rfl | rfl | rfl
      · exact ⟨b0, (by show (1 : Int) ≤ 9; decide), (by show (9 : Int) ≤ 9223372036854775807; decide), e0⟩
      · exact ⟨b1, (by show (1 : Int) ≤ 10; decide), (by show (10 : Int) ≤ 9223372036854775807; decide), e1⟩
      · exact ⟨b2, (by show (1 : Int) ≤ 9; decide), (by show (9 : Int) ≤ 9223372036854775807; decide), e2⟩
    · skip
      obtain ⟨c2, h2, e2⟩ := cover_get (t := 102) (n := 9) (l := ([(0, 0), (1, 1), (2, 2), (3, 3), (4, 4), (5, 5), (6, 6), (7, 7), (8, 8)] : List (Nat × Nat))) (by kernel_rfl) (a := a2) (by decide) rfl
      rw [show ([(0, 0), (1, 1), (2, 2), (3, 3), (4, 4), (5, 5), (6, 6), (7, 7), (8, 8)] : List (Nat × Nat)) = ([(0, 0), (1, 1), (2, 2)] : List (Nat × Nat)) ++ (([(3, 3), (4, 4), (5, 5)] : List (Nat × Nat)) ++ (([(6, 6), (7, 7), (8, 8)] : List (Nat × Nat)))) from by kernel_rfl] at h2
      rcases List.mem_append.1 h2 with h2 | h2
      · skip
        refine fin _ (List.all_eq_true.1 all69 c2 h2) ?_
        intro q hq
        simp only [List.mem_cons, List.not_mem_nil, or_false] at hq
        rcases hq with rfl | rfl | rfl
        · exact ⟨b0, (by show (1 : Int) ≤ 9; decide), (by show (9 : Int) ≤ 9223372036854775807; decide), e0⟩
        · exact ⟨b1, (by show (1 : Int) ≤ 10; decide), (by show (10 : Int) ≤ 9223372036854775807; decide), e1⟩
        · exact ⟨b2, (by show (1 : Int) ≤ 9; decide), (by show (9 : Int) ≤ 9223372036854775807; decide), e2⟩
      rcases List.mem_append.1 h2 with h2 | h2
      · skip
        refine fin _ (List.all_eq_true.1 all70 c2 h2) ?_
        intro q hq
        simp only [List.mem_cons, List.not_mem_nil, or_false] at hq
        rcases hq with rfl | rfl | rfl
        · exact ⟨b0, (by show (1 : Int) ≤ 9; decide), (by show (9 : Int) ≤ 9223372036854775807; decide), e0⟩
        · exact ⟨b1, (by show (1 : Int) ≤ 10; decide), (by show (10 : Int) ≤ 9223372036854775807; decide), e1⟩
        · exact ⟨b2, (by show (1 : Int) ≤ 9; decide), (by show (9 : Int) ≤ 9223372036854775807; decide), e2⟩
      refine fin _ (List.all_eq_true.1 all71 c2 h2) ?_
      intro q hq
      simp only [List.mem_cons, List.not_mem_nil, or_false] at hq
      rcases hq with rfl | rfl | rfl
      · exact ⟨b0, (by show (1 : Int) ≤ 9; decide), (by show (9 : Int) ≤ 9223372036854775807; decide), e0⟩
      · exact ⟨b1, (by show (1 : Int) ≤ 10; decide), (by show (10 : Int) ≤ 9223372036854775807; decide), e1⟩
      · exact ⟨b2, (by show (1 : Int) ≤ 9; decide), (by show (9 : Int) ≤ 9223372036854775807; decide), e2⟩
    · skip
      obtain ⟨c2, h2, e2⟩ := cover_get (t := 102) (n := 9) (l := ([(0, 0), (1, 1), (2, 2), (3, 3), (4, 4), (5, 5), (6, 6), (7, 7), (8, 8)] : List (Nat × Nat))) (by kernel_rfl) (a := a2) (by decide) rfl
      rw [show ([(0, 0), (1, 1), (2, 2), (3, 3), (4, 4), (5, 5), (6, 6), (7, 7), (8, 8)] : List (Nat × Nat)) = ([(0, 0), (1, 1), (2, 2)] : List (Nat × Nat)) ++ (([(3, 3), (4, 4), (5, 5)] : List (Nat × Nat)) ++ (([(6, 6), (7, 7), (8, 8)] : List (Nat × Nat)))) from by kernel_rfl] at h2
      rcases List.mem_append.1 h2 with h2 | h2
      · skip
        refine fin _ (List.all_eq_true.1 all72 c2 h2) ?_
        intro q hq
        simp only [List.mem_cons, List.not_mem_nil, or_false] at hq
        rcases hq with rfl | rfl | rfl
        · exact ⟨b0, (by show (1 : Int) ≤ 9; decide), (by show (9 : Int) ≤ 9223372036854775807; decide), e0⟩
        · exact ⟨b1, (by show (1 : Int) ≤ 10; decide), (by show (10 : Int) ≤ 9223372036854775807; decide), e1⟩
        · exact ⟨b2, (by show (1 : Int) ≤ 9; decide), (by show (9 : Int) ≤ 9223372036854775807; decide), e2⟩
      rcases List.mem_append.1 h2 with h2 | h2
      · skip
        refine fin _ (List.all_eq_true.1 all73 c2 h2) ?_
        intro q hq
        simp only [List.mem_cons, List.not_mem_nil, or_false] at hq
        rcases hq with rfl | rfl | rfl
        · exact ⟨b0, (by show (1 : Int) ≤ 9; decide), (by show (9 : Int) ≤ 9223372036854775807; decide), e0⟩
        · exact ⟨b1, (by show (1 : Int) ≤ 10; decide), (by show (10 : Int) ≤ 9223372036854775807; decide), e1⟩
        · exact ⟨b2, (by show (1 : Int) ≤ 9; decide), (by show (9 : Int) ≤ 9223372036854775807; decide), e2⟩
      refine fin _ (List.all_eq_true.1 all74 c2 h2) ?_
      intro q hq
      simp only [List.mem_cons, List.not_mem_nil, or_false] at hq
      rcases hq with rfl | rfl | rfl
      · exact ⟨b0, (by show (1 : Int) ≤ 9; decide), (by show (9 : Int) ≤ 9223372036854775807; decide), e0⟩
      · exact ⟨b1, (by show (1 : Int) ≤ 10; decide), (by show (10 : Int) ≤ 9223372036854775807; decide), e1⟩
      · exact ⟨b2, (by show (1 : Int) ≤ 9; decide), (by show (9 : Int) ≤ 9223372036854775807; decide), e2⟩
    · skip
      obtain ⟨c2, h2, e2⟩ := cover_get (t := 102) (n := 9) (l := ([(0, 0), (1, 1), (2, 2), (3, 3), (4, 4), (5, 5), (6, 6), (7, 7), (8, 8)] : List (Nat × Nat))) (by kernel_rfl) (a := a2) (by decide) rfl
      rw [show ([(0, 0), (1, 1), (2, 2), (3, 3), (4, 4), (5, 5), (6, 6), (7, 7), (8, 8)] : List (Nat × Nat)) = ([(0, 0), (1, 1), (2, 2)] : List (Nat × Nat)) ++ (([(3, 3), (4, 4), (5, 5)] : List (Nat × Nat)) ++ (([(6, 6), (7, 7), (8, 8)] : List (Nat × Nat)))) from by kernel_rfl] at h2
      rcases List.mem_append.1 h2 with h2 | h2
      · skip
        refine fin _ (List.all_eq_true.1 all75 c2 h2) ?_
        intro q hq
        simp only [List.mem_cons, List.not_mem_nil, or_false] at hq
        rcases hq with rfl | rfl | rfl
        · exact ⟨b0, (by show (1 : Int) ≤ 9; decide), (by show (9 : Int) ≤ 9223372036854775807; decide), e0⟩
        · exact ⟨b1, (by show (1 : Int) ≤ 10; decide), (by show (10 : Int) ≤ 9223372036854775807; decide), e1⟩
        · exact ⟨b2, (by show (1 : Int) ≤ 9; decide), (by show (9 : Int) ≤ 9223372036854775807; decide), e2⟩
      rcases List.mem_append.1 h2 with h2 | h2
      · skip
        refine fin _ (List.all_eq_true.1 all76 c2 h2) ?_
        intro q hq
        simp only [List.mem_cons, List.not_mem_nil, or_false] at hq
        rcases hq with rfl | rfl | rfl
        · exact ⟨b0, (by show (1 : Int) ≤ 9; decide), (by show (9 : Int) ≤ 9223372036854775807; decide), e0⟩
        · exact ⟨b1, (by show (1 : Int) ≤ 10; decide), (by show (10 : Int) ≤ 9223372036854775807; decide), e1⟩
        · exact ⟨b2, (by show (1 : Int) ≤ 9; decide), (by show (9 : Int) ≤ 9223372036854775807; decide), e2⟩
      refine fin _ (List.all_eq_true.1 all77 c2 h2) ?_
      intro q hq
      simp only [List.mem_cons, List.not_mem_nil, or_false] at hq
      rcases hq with rfl | rfl | rfl
      · exact ⟨b0, (by show (1 : Int) ≤ 9; decide), (by show (9 : Int) ≤ 9223372036854775807; decide), e0⟩
      · exact ⟨b1, (by show (1 : Int) ≤ 10; decide), (by show (10 : Int) ≤ 9223372036854775807; decide), e1⟩
      · exact ⟨b2, (by show (1 : Int) ≤ 9; decide), (by show (9 : Int) ≤ 9223372036854775807; decide), e2⟩
    · skip
      obtain ⟨c2, h2, e2⟩ := cover_get (t := 102) (n := 9) (l := ([(0, 0), (1, 1), (2, 2), (3, 3), (4, 4), (5, 5), (6, 6), (7, 7), (8, 8)] : List (Nat × Nat))) (by kernel_rfl) (a := a2) (by decide) rfl
      rw [show ([(0, 0), (1, 1), (2, 2), (3, 3), (4, 4), (5, 5), (6, 6), (7, 7), (8, 8)] : List (Nat × Nat)) = ([(0, 0), (1, 1), (2, 2)] : List (Nat × Nat)) ++ (([(3, 3), (4, 4), (5, 5)] : List (Nat × Nat)) ++ (([(6, 6), (7, 7), (8, 8)] : List (Nat × Nat)))) from by kernel_rfl] at h2
      rcases List.mem_append.1 h2 with h2 | h2
      · skip
        refine fin _ (List.all_eq_true.1 all78 c2 h2) ?_
        intro q hq
        simp only [List.mem_cons, List.not_mem_nil, or_false] at hq
        rcases hq with rfl | rfl | rfl
        · exact ⟨b0, (by show (1 : Int) ≤ 9; decide), (by show (9 : Int) ≤ 9223372036854775807; decide), e0⟩
        · exact ⟨b1, (by show (1 : Int) ≤ 10; decide), (by show (10 : Int) ≤ 9223372036854775807; decide), e1⟩
        · exact ⟨b2, (by show (1 : Int) ≤ 9; decide), (by show (9 : Int) ≤ 9223372036854775807; decide), e2⟩
      rcases List.mem_append.1 h2 with h2 | h2
      · skip
        refine fin _ (List.all_eq_true.1 all79 c2 h2) ?_
        intro q hq
        simp only [List.mem_cons, List.not_mem_nil, or_false] at hq
        rcases hq with rfl | rfl | rfl
        · exact ⟨b0, (by show (1 : Int) ≤ 9; decide), (by show (9 : Int) ≤ 9223372036854775807; decide), e0⟩
        · exact ⟨b1, (by show (1 : Int) ≤ 10; decide), (by show (10 : Int) ≤ 9223372036854775807; decide), e1⟩
        · exact ⟨b2, (by show (1 : Int) ≤ 9; decide), (by show (9 : Int) ≤ 9223372036854775807; decide), e2⟩
      refine fin _ (List.all_eq_true.1 all80 c2 h2) ?_
      intro q hq
      simp only [List.mem_cons, List.not_mem_nil, or_false] at hq
      rcases hq with rfl | rfl | rfl
      · exact ⟨b0, (by show (1 : Int) ≤ 9; decide), (by show (9 : Int) ≤ 9223372036854775807; decide), e0⟩
      · exact ⟨b1, (by show (1 : Int) ≤ 10; decide), (by show (10 : Int) ≤ 9223372036854775807; decide), e1⟩
      · exact ⟨b2, (by show (1 : Int) ≤ 9; decide), (by show (9 : Int) ≤ 9223372036854775807; decide), e2⟩
    · skip
      obtain ⟨c2, h2, e2⟩ := cover_get (t := 102) (n := 9) (l := ([(0, 0), (1, 1), (2, 2), (3, 3), (4, 4), (5, 5), (6, 6), (7, 7), (8, 8)] : List (Nat × Nat))) (by kernel_rfl) (a := a2) (by decide) rfl
      rw [show ([(0, 0), (1, 1), (2, 2), (3, 3), (4, 4), (5, 5), (6, 6), (7, 7), (8, 8)] : List (Nat × Nat)) = ([(0, 0), (1, 1), (2, 2)] : List (Nat × Nat)) ++ (([(3, 3), (4, 4), (5, 5)] : List (Nat × Nat)) ++ (([(6, 6), (7, 7), (8, 8)] : List (Nat × Nat)))) from by kernel_rfl] at h2
      rcases List.mem_append.1 h2 with h2 | h2
      · skip
        refine fin _ (List.all_eq_true.1 all81 c2 h2) ?_
        intro q hq
        simp only [List.mem_cons, List.not_mem_nil, or_false] at hq
        rcases hq with rfl | rfl | rfl
        · exact ⟨b0, (by show (1 : Int) ≤ 9; decide), (by show (9 : Int) ≤ 9223372036854775807; decide), e0⟩
        · exact ⟨b1, (by show (1 : Int) ≤ 10; decide), (by show (10 : Int) ≤ 9223372036854775807; decide), e1⟩
        · exact ⟨b2, (by show (1 : Int) ≤ 9; decide), (by show (9 : Int) ≤ 9223372036854775807; decide), e2⟩
      rcases List.mem_append.1 h2 with h2 | h2
      · skip
        refine fin _ (List.all_eq_true.1 all82 c2 h2) ?_
        intro q hq
        simp only [List.mem_cons, List.not_mem_nil, or_false] at hq
        rcases hq with rfl | rfl | rfl
        · exact ⟨b0, (by show (1 : Int) ≤ 9; decide), (by show (9 : Int) ≤ 9223372036854775807; decide), e0⟩
        · exact ⟨b1, (by show (1 : Int) ≤ 10; decide), (by show (10 : Int) ≤ 9223372036854775807; decide), e1⟩
        · exact ⟨b2, (by show (1 : Int) ≤ 9; decide), (by show (9 : Int) ≤ 9223372036854775807; decide), e2⟩
      refine fin _ (List.all_eq_true.1 all83 c2 h2) ?_
      intro q hq
      simp only [List.mem_cons, List.not_mem_nil, or_false] at hq
      rcases hq with rfl | rfl | rfl
      · exact ⟨b0, (by show (1 : Int) ≤ 9; decide), (by show (9 : Int) ≤ 9223372036854775807; decide), e0⟩
      · exact ⟨b1, (by show (1 : Int) ≤ 10; decide), (by show (10 : Int) ≤ 9223372036854775807; decide), e1⟩
      · exact ⟨b2, (by show (1 : Int) ≤ 9; decide), (by show (9 : Int) ≤ 9223372036854775807; decide), e2⟩
    · skip
      obtain ⟨c2, h2, e2⟩ := cover_get (t := 102) (n := 9) (l := ([(0, 0), (1, 1), (2, 2), (3, 3), (4, 4), (5, 5), (6, 6), (7, 7), (8, 8)] : List (Nat × Nat))) (by kernel_rfl) (a := a2) (by decide) rfl
      rw [show ([(0, 0), (1, 1), (2, 2), (3, 3), (4, 4), (5, 5), (6, 6), (7, 7), (8, 8)] : List (Nat × Nat)) = ([(0, 0), (1, 1), (2, 2)] : List (Nat × Nat)) ++ (([(3, 3), (4, 4), (5, 5)] : List (Nat × Nat)) ++ (([(6, 6), (7, 7), (8, 8)] : List (Nat × Nat)))) from by kernel_rfl] at h2
      rcases List.mem_append.1 h2 with h2 | h2
      · skip
        refine fin _ (List.all_eq_true.1 all84 c2 h2) ?_
        intro q hq
        simp only [List.mem_cons, List.not_mem_nil, or_false] at hq
        rcases hq with rfl | rfl | rfl
        · exact ⟨b0, (by show (1 : Int) ≤ 9; decide), (by show (9 : Int) ≤ 9223372036854775807; decide), e0⟩
        · exact ⟨b1, (by show (1 : Int) ≤ 10; decide), (by show (10 : Int) ≤ 9223372036854775807; decide), e1⟩
        · exact ⟨b2, (by show (1 : Int) ≤ 9; decide), (by show (9 : Int) ≤ 9223372036854775807; decide), e2⟩
      rcases List.mem_append.1 h2 with h2 | h2
      · skip
        refine fin _ (List.all_eq_true.1 all85 c2 h2) ?_
        intro q hq
        simp only [List.mem_cons, List.not_mem_nil, or_false] at hq
        rcases hq with rfl | rfl | rfl
        · exact ⟨b0, (by show (1 : Int) ≤ 9; decide), (by show (9 : Int) ≤ 9223372036854775807; decide), e0⟩
        · exact ⟨b1, (by show (1 : Int) ≤ 10; decide), (by show (10 : Int) ≤ 9223372036854775807; decide), e1⟩
        · exact ⟨b2, (by show (1 : Int) ≤ 9; decide), (by show (9 : Int) ≤ 9223372036854775807; decide), e2⟩
      refine fin _ (List.all_eq_true.1 all86 c2 h2) ?_
      intro q hq
      simp only [List.mem_cons, List.not_mem_nil, or_false] at hq
      rcases hq with rfl | rfl | rfl
      · exact ⟨b0, (by show (1 : Int) ≤ 9; decide), (by show (9 : Int) ≤ 9223372036854775807; decide), e0⟩
      · exact ⟨b1, (by show (1 : Int) ≤ 10; decide), (by show (10 : Int) ≤ 9223372036854775807; decide), e1⟩
      · exact ⟨b2, (by show (1 : Int) ≤ 9; decide), (by show (9 : Int) ≤ 9223372036854775807; decide), e2⟩
    · skip
      obtain ⟨c2, h2, e2⟩ := cover_get (t := 102) (n := 9) (l := ([(0, 0), (1, 1), (2, 2), (3, 3), (4, 4), (5, 5), (6, 6), (7, 7), (8, 8)] : List (Nat × Nat))) (by kernel_rfl) (a := a2) (by decide) rfl
      rw [show ([(0, 0), (1, 1), (2, 2), (3, 3), (4, 4), (5, 5), (6, 6), (7, 7), (8, 8)] : List (Nat × Nat)) = ([(0, 0), (1, 1), (2, 2)] : List (Nat × Nat)) ++ (([(3, 3), (4, 4), (5, 5)] : List (Nat × Nat)) ++ (([(6, 6), (7, 7), (8, 8)] : List (Nat × Nat)))) from by kernel_rfl] at h2
      rcases List.mem_append.1 h2 with h2 | h2
      · skip
        refine fin _ (List.all_eq_true.1 all87 c2 h2) ?_
        intro q hq
        simp only [List.mem_cons, List.not_mem_nil, or_false] at hq
        rcases hq with rfl | rfl | rfl
        · exact ⟨b0, (by show (1 : Int) ≤ 9; decide), (by show (9 : Int) ≤ 9223372036854775807; decide), e0⟩
        · exact ⟨b1, (by show (1 : Int) ≤ 10; decide), (by show (10 : Int) ≤ 9223372036854775807; decide), e1⟩
        · exact ⟨b2, (by show (1 : Int) ≤ 9; decide), (by show (9 : Int) ≤ 9223372036854775807; decide), e2⟩
      rcases List.mem_append.1 h2 with h2 | h2
      · skip
        refine fin _ (List.all_eq_true.1 all88 c2 h2) ?_
        intro q hq
        simp only [List.mem_cons, List.not_mem_nil, or_false] at hq
        rcases hq with rfl | rfl | rfl
        · exact ⟨b0, (by show (1 : Int) ≤ 9; decide), (by show (9 : Int) ≤ 9223372036854775807; decide), e0⟩
        · exact ⟨b1, (by show (1 : Int) ≤ 10; decide), (by show (10 : Int) ≤ 9223372036854775807; decide), e1⟩
        · exact ⟨b2, (by show (1 : Int) ≤ 9; decide), (by show (9 : Int) ≤ 9223372036854775807; decide), e2⟩
      refine fin _ (List.all_eq_true.1 all89 c2 h2) ?_
      intro q hq
      simp only [List.mem_cons, List.not_mem_nil, or_false] at hq
      rcases hq with rfl | rfl | rfl
      · exact ⟨b0, (by show (1 : Int) ≤ 9; decide), (by show (9 : Int) ≤ 9223372036854775807; decide), e0⟩
      · exact ⟨b1, (by show (1 : Int) ≤ 10; decide), (by show (10 : Int) ≤ 9223372036854775807; decide), e1⟩
      · exact ⟨b2, (by show (1 : Int) ≤ 9; decide), (by show (9 : Int) ≤ 9223372036854775807; decide), e2⟩
  · skip
    obtain ⟨c1, h1, e1⟩ := cover_get (t := 101) (n := 10) (l := ([(0, 0), (1, 1), (2, 2), (3, 3), (4, 4), (5, 5), (6, 6), (7, 7), (8, 8), (9, 9)] : List (Nat × Nat))) (by kernel_rfl) (a := a1) (by decide) rfl
    simp only [List.mem_cons, List.not_mem_nil, or_false] at h1
    rcases h1 with rfl | rfl | rfl | rfl | rfl | rfl | rfl | rfl | rfl | rfl
    · skip
      obtain ⟨c2, h2, e2⟩ := cover_get (t := 102) (n := 9) (l := ([(0, 0), (1, 1), (2, 2), (3, 3), (4, 4), (5, 5), (6, 6), (7, 7), (8, 8)] : List (Nat × Nat))) (by kernel_rfl) (a := a2) (by decide) rfl
      rw [show ([(0, 0), (1, 1), (2, 2), (3, 3), (4, 4), (5, 5), (6, 6), (7, 7), (8, 8)] : List (Nat × Nat)) = ([(0, 0), (1, 1), (2, 2)] : List (Nat × Nat)) ++ (([(3, 3), (4, 4), (5, 5)] : List (Nat × Nat)) ++ (([(6, 6), (7, 7), (8, 8)] : List (Nat × Nat)))) from by kernel_rfl] at h2
      rcases List.mem_append.1 h2 with h2 | h2
      · skip
        refine fin _ (List.all_eq_true.1 all90 c2 h2) ?_
        intro q hq
        simp only [List.mem_cons, List.not_mem_nil, or_false] at hq
        rcases hq with rfl | rfl | rfl
        · exact ⟨b0, (by show (1 : Int) ≤ 9; decide), (by show (9 : Int) ≤ 9223372036854775807; decide), e0⟩
        · exact ⟨b1, (by show (1 : Int) ≤ 10; decide), (by show (10 : Int) ≤ 9223372036854775807; decide), e1⟩
        · exact ⟨b2, (by show (1 : Int) ≤ 9; decide), (by show (9 : Int) ≤ 9223372036854775807; decide), e2⟩
      rcases List.mem_append.1 h2 with h2 | h2
      · skip
        refine fin _ (List.all_eq_true.1 all91 c2 h2) ?_
        intro q hq
        simp only [List.mem_cons, List.not_mem_nil, or_false] at hq
        rcases hq with rfl | rfl | rfl
        · exact ⟨b0, (by show (1 : Int) ≤ 9; decide), (by show (9 : Int) ≤ 9223372036854775807; decide), e0⟩
        · exact ⟨b1, (by show (1 : Int) ≤ 10; decide), (by show (10 : Int) ≤ 9223372036854775807; decide), e1⟩
        · exact ⟨b2, (by show (1 : Int) ≤ 9; decide), (by show (9 : Int) ≤ 9223372036854775807; decide), e2⟩
      refine fin _ (List.all_eq_true.1 all92 c2 h2) ?_
      intro q hq
      simp only [List.mem_cons, List.not_mem_nil, or_false] at hq
      rcases hq with rfl | rfl | rfl
      · exact ⟨b0, (by show (1 : Int) ≤ 9; decide), (by show (9 : Int) ≤ 9223372036854775807; decide), e0⟩
      · exact ⟨b1, (by show (1 : Int) ≤ 10; decide), (by show (10 : Int) ≤ 9223372036854775807; decide), e1⟩
      · exact ⟨b2, (by show (1 : Int) ≤ 9; decide), (by show (9 : Int) ≤ 9223372036854775807; decide), e2⟩
    · skip
      obtain ⟨c2, h2, e2⟩ := cover_get (t := 102) (n := 9) (l := ([(0, 0), (1, 1), (2, 2), (3, 3), (4, 4), (5, 5), (6, 6), (7, 7), (8, 8)] : List (Nat × Nat))) (by kernel_rfl) (a := a2) (by decide) rfl
      rw [show ([(0, 0), (1, 1), (2, 2), (3, 3), (4, 4), (5, 5), (6, 6), (7, 7), (8, 8)] : List (Nat × Nat)) = ([(0, 0), (1, 1), (2, 2)] : List (Nat × Nat)) ++ (([(3, 3), (4, 4), (5, 5)] : List (Nat × Nat)) ++ (([(6, 6), (7, 7), (8, 8)] : List (Nat × Nat)))) from by kernel_rfl] at h2
      rcases List.mem_append.1 h2 with h2 | h2
      · skip
        refine fin _ (List.all_eq_true.1 all93 c2 h2) ?_
        intro q hq
        simp only [List.mem_cons, List.not_mem_nil, or_false] at hq
        rcases hq with rfl | rfl | rfl
        · exact ⟨b0, (by show (1 : Int) ≤ 9; decide), (by show (9 : Int) ≤ 9223372036854775807; decide), e0⟩
        · exact ⟨b1, (by show (1 : Int) ≤ 10; decide), (by show (10 : Int) ≤ 9223372036854775807; decide), e1⟩
        · exact ⟨b2, (by show (1 : Int) ≤ 9; decide), (by show (9 : Int) ≤ 9223372036854775807; decide), e2⟩
      rcases List.mem_append.1 h2 with h2 | h2
      · skip
        refine fin _ (List.all_eq_true.1 all94 c2 h2) ?_
        intro q hq
        simp only [List.mem_cons, List.not_mem_nil, or_false] at hq
        rcases hq with rfl | rfl | rfl
        · exact ⟨b0, (by show (1 : Int) ≤ 9; decide), (by show (9 : Int) ≤ 9223372036854775807; decide), e0⟩
        · exact ⟨b1, (by show (1 : Int) ≤ 10; decide), (by show (10 : Int) ≤ 9223372036854775807; decide), e1⟩
        · exact ⟨b2, (by show (1 : Int) ≤ 9; decide), (by show (9 : Int) ≤ 9223372036854775807; decide), e2⟩
      refine fin _ (List.all_eq_true.1 all95 c2 h2) ?_
      intro q hq
      simp only [List.mem_cons, List.not_mem_nil, or_false] at hq
      rcases hq with rfl | rfl | rfl
      · exact ⟨b0, (by show (1 : Int) ≤ 9; decide), (by show (9 : Int) ≤ 9223372036854775807; decide), e0⟩
      · exact ⟨b1, (by show (1 : Int) ≤ 10; decide), (by show (10 : Int) ≤ 9223372036854775807; decide), e1⟩
      · exact ⟨b2, (by show (1 : Int) ≤ 9; decide), (by show (9 : Int) ≤ 9223372036854775807; decide), e2⟩
    · skip
      obtain ⟨c2, h2, e2⟩ := cover_get (t := 102) (n := 9) (l := ([(0, 0), (1, 1), (2, 2), (3, 3), (4, 4), (5, 5), (6, 6), (7, 7), (8, 8)] : List (Nat × Nat))) (by kernel_rfl) (a := a2) (by decide) rfl
      rw [show ([(0, 0), (1, 1), (2, 2), (3, 3), (4, 4), (5, 5), (6, 6), (7, 7), (8, 8)] : List (Nat × Nat)) = ([(0, 0), (1, 1), (2, 2)] : List (Nat × Nat)) ++ (([(3, 3), (4, 4), (5, 5)] : List (Nat × Nat)) ++ (([(6, 6), (7, 7), (8, 8)] : List (Nat × Nat)))) from by kernel_rfl] at h2
      rcases List.mem_append.1 h2 with h2 | h2
      · skip
        refine fin _ (List.all_eq_true.1 all96 c2 h2) ?_
        intro q hq
        simp only [List.mem_cons, List.not_mem_nil, or_false] at hq
        rcases hq with rfl | rfl | rfl
        · exact ⟨b0, (by show (1 : Int) ≤ 9; decide), (by show (9 : Int) ≤ 9223372036854775807; decide), e0⟩
        · exact ⟨b1, (by show (1 : Int) ≤ 10; decide), (by show (10 : Int) ≤ 9223372036854775807; decide), e1⟩
        · exact ⟨b2, (by show (1 : Int) ≤ 9; decide), (by show (9 : Int) ≤ 9223372036854775807; decide), e2⟩
      rcases List.mem_append.1 h2 with h2 | h2
      · skip
        refine fin _ (List.all_eq_true.1 all97 c2 h2) ?_
        intro q hq
        simp only [List.mem_cons, List.not_mem_nil, or_false] at hq
        rcases hq with rfl | rfl | rfl
        · exact ⟨b0, (by show (1 : Int) ≤ 9; decide), (by show (9 : Int) ≤ 9223372036854775807; decide), e0⟩
        · exact ⟨b1, (by show (1 : Int) ≤ 10; decide), (by show (10 : Int) ≤ 9223372036854775807; decide), e1⟩
        · exact ⟨b2, (by show (1 : Int) ≤ 9; decide), (by show (9 : Int) ≤ 9223372036854775807; decide), e2⟩
      refine fin _ (List.all_eq_true.1 all98 c2 h2) ?_
      intro q hq
      simp only [List.mem_cons, List.not_mem_nil, or_false] at hq
      rcases hq with rfl | rfl | rfl
      · exact ⟨b0, (by show (1 : Int) ≤ 9; decide), (by show (9 : Int) ≤ 9223372036854775807; decide), e0⟩
      · exact ⟨b1, (by show (1 : Int) ≤ 10; decide), (by show (10 : Int) ≤ 9223372036854775807; decide), e1⟩
      · exact ⟨b2, (by show (1 : Int) ≤ 9; decide), (by show (9 : Int) ≤ 9223372036854775807; decide), e2⟩
    · skip
      obtain ⟨c2, h2, e2⟩ := cover_get (t := 102) (n := 9) (l := ([(0, 0), (1, 1), (2, 2), (3, 3), (4, 4), (5, 5), (6, 6), (7, 7), (8, 8)] : List (Nat × Nat))) (by kernel_rfl) (a := a2) (by decide) rfl
      rw [show ([(0, 0), (1, 1), (2, 2), (3, 3), (4, 4), (5, 5), (6, 6), (7, 7), (8, 8)] : List (Nat × Nat)) = ([(0, 0), (1, 1), (2, 2)] : List (Nat × Nat)) ++ (([(3, 3), (4, 4), (5, 5)] : List (Nat × Nat)) ++ (([(6, 6), (7, 7), (8, 8)] : List (Nat × Nat)))) from by kernel_rfl] at h2
      rcases List.mem_append.1 h2 with h2 | h2
      · skip
        refine fin _ (List.all_eq_true.1 all99 c2 h2) ?_
        intro q hq
        simp only [List.mem_cons, List.not_mem_nil, or_false] at hq
        rcases hq with rfl | rfl | rfl
        · exact ⟨b0, (by show (1 : Int) ≤ 9; decide), (by show (9 : Int) ≤ 9223372036854775807; decide), e0⟩
        · exact ⟨b1, (by show (1 : Int) ≤ 10; decide), (by show (10 : Int) ≤ 9223372036854775807; decide), e1⟩
        · exact ⟨b2, (by show (1 : Int) ≤ 9; decide), (by show (9 : Int) ≤ 9223372036854775807; decide), e2⟩
      rcases List.mem_append.1 h2 with h2 | h2
      · skip
        refine fin _ (List.all_eq_true.1 all100 c2 h2) ?_
        intro q hq
        simp only [List.mem_cons, List.not_mem_nil, or_false] at hq
        rcases hq with rfl | rfl | rfl
        · exact ⟨b0, (by show (1 : Int) ≤ 9; decide), (by show (9 : Int) ≤ 9223372036854775807; decide), e0⟩
        · exact ⟨b1, (by show (1 : Int) ≤ 10; decide), (by show (10 : Int) ≤ 9223372036854775807; decide), e1⟩
        · exact ⟨b2, (by show (1 : Int) ≤ 9; decide), (by show (9 : Int) ≤ 9223372036854775807; decide), e2⟩
      refine fin _ (List.all_eq_true.1 all101 c2 h2) ?_
      intro q hq
      simp only [List.mem_cons, List.not_mem_nil, or_false] at hq
      rcases hq with rfl | rfl | rfl
      · exact ⟨b0, (by show (1 : Int) ≤ 9; decide), (by show (9 : Int) ≤ 9223372036854775807; decide), e0⟩
      · exact ⟨b1, (by show (1 : Int) ≤ 10; decide), (by show (10 : Int) ≤ 9223372036854775807; decide), e1⟩
      · exact ⟨b2, (by show (1 : Int) ≤ 9; decide), (by show (9 : Int) ≤ 9223372036854775807; decide), e2⟩
    · skip
      obtain ⟨c2, h2, e2⟩ := cover_get (t := 102) (n := 9) (l := ([(0, 0), (1, 1), (2, 2), (3, 3), (4, 4), (5, 5), (6, 6), (7, 7), (8, 8)] : List (Nat × Nat))) (by kernel_rfl) (a := a2) (by decide) rfl
      rw [show ([(0, 0), (1, 1), (2, 2), (3, 3), (4, 4), (5, 5), (6, 6), (7, 7), (8, 8)] : List (Nat × Nat)) = ([(0, 0), (1, 1), (2, 2)] : List (Nat × Nat)) ++ (([(3, 3), (4, 4), (5, 5)] : List (Nat × Nat)) ++ (([(6, 6), (7, 7), (8, 8)] : List (Nat × Nat)))) from by kernel_rfl] at h2
      rcases List.mem_append.1 h2 with h2 | h2
      · skip
        refine fin _ (List.all_eq_true.1 all102 c2 h2) ?_
        intro q hq
        simp only [List.mem_cons, List.not_mem_nil, or_false] at hq
        rcases hq with rfl | rfl | rfl
        · exact ⟨b0, (by show (1 : Int) ≤ 9; decide), (by show (9 : Int) ≤ 9223372036854775807; decide), e0⟩
        · exact ⟨b1, (by show (1 : Int) ≤ 10; decide), (by show (10 : Int) ≤ 9223372036854775807; decide), e1⟩
        · exact ⟨b2, (by show (1 : Int) ≤ 9; decide), (by show (9 : Int) ≤ 9223372036854775807; decide), e2⟩
      rcases List.mem_append.1 h2 with h2 | h2
      · skip
        refine fin _ (List.all_eq_true.1 all103 c2 h2) ?_
        intro q hq
        simp only [List.mem_cons, List.not_mem_nil, or_false] at hq
        rcases hq with rfl | rfl | rfl
        · exact ⟨b0, (by show (1 : Int) ≤ 9; decide), (by show (9 : Int) ≤ 9223372036854775807; decide), e0⟩
        · exact ⟨b1, (by show (1 : Int) ≤ 10; decide), (by show (10 : Int) ≤ 9223372036854775807; decide), e1⟩
        · exact ⟨b2, (by show (1 : Int) ≤ 9; decide), (by show (9 : Int) ≤ 9223372036854775807; decide), e2⟩
      refine fin _ (List.all_eq_true.1 all104 c2 h2) ?_
      intro q hq
      simp only [List.mem_cons, List.not_mem_nil, or_false] at hq
      rcases hq with rfl | rfl | rfl
      · exact ⟨b0, (by show (1 : Int) ≤ 9; decide), (by show (9 : Int) ≤ 9223372036854775807; decide), e0⟩
      · exact ⟨b1, (by show (1 : Int) ≤ 10; decide), (by show (10 : Int) ≤ 9223372036854775807; decide), e1⟩
      · exact ⟨b2, (by show (1 : Int) ≤ 9; decide), (by show (9 : Int) ≤ 9223372036854775807; decide), e2⟩
    · skip
      obtain ⟨c2, h2, e2⟩ := cover_get (t := 102) (n := 9) (l := ([(0, 0), (1, 1), (2, 2), (3, 3), (4, 4), (5, 5), (6, 6), (7, 7), (8, 8)] : List (Nat × Nat))) (by kernel_rfl) (a := a2) (by decide) rfl
      rw [show ([(0, 0), (1, 1), (2, 2), (3, 3), (4, 4), (5, 5), (6, 6), (7, 7), (8, 8)] : List (Nat × Nat)) = ([(0, 0), (1, 1), (2, 2)] : List (Nat × Nat)) ++ (([(3, 3), (4, 4), (5, 5)] : List (Nat × Nat)) ++ (([(6, 6), (7, 7), (8, 8)] : List (Nat × Nat)))) from by kernel_rfl] at h2
      rcases List.mem_append.1 h2 with h2 | h2
      · skip
        refine fin _ (List.all_eq_true.1 all105 c2 h2) ?_
        intro q hq
        simp only [List.mem_cons, List.not_mem_nil, or_false] at hq
        rcases hq with rfl | rfl | rfl
        · exact ⟨b0, (by show (1 : Int) ≤ 9; decide), (by show (9 : Int) ≤ 9223372036854775807; decide), e0⟩
        · exact ⟨b1, (by show (1 : Int) ≤ 10; decide), (by show (10 : Int) ≤ 9223372036854775807; decide), e1⟩
        · exact ⟨b2, (by show (1 : Int) ≤ 9; decide), (by show (9 : Int) ≤ 9223372036854775807; decide), e2⟩
      rcases List.mem_append.1 h2 with h2 | h2
      · skip
        refine fin _ (List.all_eq_true.1 all106 c2 h2) ?_
        intro q hq
        simp only [List.mem_cons, List.not_mem_nil, or_false] at hq
        rcases hq with rfl | rfl | rfl
        · exact ⟨b0, (by show (1 : Int) ≤ 9; decide), (by show (9 : Int) ≤ 9223372036854775807; decide), e0⟩
        · exact ⟨b1, (by show (1 : Int) ≤ 10; decide), (by show (10 : Int) ≤ 9223372036854775807; decide), e1⟩
        · exact ⟨b2, (by show (1 : Int) ≤ 9; decide), (by show (9 : Int) ≤ 9223372036854775807; decide), e2⟩
      refine fin _ (List.all_eq_true.1 all107 c2 h2) ?_
      intro q hq
      simp only [List.mem_cons, List.not_mem_nil, or_false] at hq
      rcases hq with rfl | rfl | rfl
      · exact ⟨b0, (by show (1 : Int) ≤ 9; decide), (by show (9 : Int) ≤ 9223372036854775807; decide), e0⟩
      · exact ⟨b1, (by show (1 : Int) ≤ 10; decide), (by show (10 : Int) ≤ 9223372036854775807; decide), e1⟩
      · exact ⟨b2, (by show (1 : Int) ≤ 9; decide), (by show (9 : Int) ≤ 9223372036854775807; decide), e2⟩
    · skip
      obtain ⟨c2, h2, e2⟩ := cover_get (t := 102) (n := 9) (l := ([(0, 0), (1, 1), (2, 2), (3, 3), (4, 4), (5, 5), (6, 6), (7, 7), (8, 8)] : List (Nat × Nat))) (by kernel_rfl) (a := a2) (by decide) rfl
      rw [show ([(0, 0), (1, 1), (2, 2), (3, 3), (4, 4), (5, 5), (6, 6), (7, 7), (8, 8)] : List (Nat × Nat)) = ([(0, 0), (1, 1), (2, 2)] : List (Nat × Nat)) ++ (([(3, 3), (4, 4), (5, 5)] : List (Nat × Nat)) ++ (([(6, 6), (7, 7), (8, 8)] : List (Nat × Nat)))) from by kernel_rfl] at h2
      rcases List.mem_append.1 h2 with h2 | h2
      · skip
        refine fin _ (List.all_eq_true.1 all108 c2 h2) ?_
        intro q hq
        simp only [List.mem_cons, List.not_mem_nil, or_false] at hq
        rcases hq with rfl | rfl | rfl
        · exact ⟨b0, (by show (1 : Int) ≤ 9; decide), (by show (9 : Int) ≤ 9223372036854775807; decide), e0⟩
        · exact ⟨b1, (by show (1 : Int) ≤ 10; decide), (by show (10 : Int) ≤ 9223372036854775807; decide), e1⟩
        · exact ⟨b2, (by show (1 : Int) ≤ 9; decide), (by show (9 : Int) ≤ 9223372036854775807; decide), e2⟩
      rcases List.mem_append.1 h2 with h2 | h2
      · skip
        refine fin _ (List.all_eq_true.1 all109 c2 h2) ?_
        intro q hq
        simp only [List.mem_cons, List.not_mem_nil, or_false] at hq
        rcases hq with rfl | rfl | rfl
        · exact ⟨b0, (by show (1 : Int) ≤ 9; decide), (by show (9 : Int) ≤ 9223372036854775807; decide), e0⟩
        · exact ⟨b1, (by show (1 : Int) ≤ 10; decide), (by show (10 : Int) ≤ 9223372036854775807; decide), e1⟩
        · exact ⟨b2, (by show (1 : Int) ≤ 9; decide), (by show (9 : Int) ≤ 9223372036854775807; decide), e2⟩
      refine fin _ (List.all_eq_true.1 all110 c2 h2) ?_
      intro q hq
      simp only [List.mem_cons, List.not_mem_nil, or_false] at hq
      rcases hq with rfl | rfl | rfl
      · exact ⟨b0, (by show (1 : Int) ≤ 9; decide), (by show (9 : Int) ≤ 9223372036854775807; decide), e0⟩
      · exact ⟨b1, (by show (1 : Int) ≤ 10; decide), (by show (10 : Int) ≤ 9223372036854775807; decide), e1⟩
      · exact ⟨b2, (by show (1 : Int) ≤ 9; decide), (by show (9 : Int) ≤ 9223372036854775807; decide), e2⟩
    · skip
      obtain ⟨c2, h2, e2⟩ := cover_get (t := 102) (n := 9) (l := ([(0, 0), (1, 1), (2, 2), (3, 3), (4, 4), (5, 5), (6, 6), (7, 7), (8, 8)] : List (Nat × Nat))) (by kernel_rfl) (a := a2) (by decide) rfl
      rw [show ([(0, 0), (1, 1), (2, 2), (3, 3), (4, 4), (5, 5), (6, 6), (7, 7), (8, 8)] : List (Nat × Nat)) = ([(0, 0), (1, 1), (2, 2)] : List (Nat × Nat)) ++ (([(3, 3), (4, 4), (5, 5)] : List (Nat × Nat)) ++ (([(6, 6), (7, 7), (8, 8)] : List (Nat × Nat)))) from by kernel_rfl] at h2
      rcases List.mem_append.1 h2 with h2 | h2
      · skip
        refine fin _ (List.all_eq_true.1 all111 c2 h2) ?_
        intro q hq
        simp only [List.mem_cons, List.not_mem_nil, or_false] at hq
        rcases hq with rfl | rfl | rfl
        · exact ⟨b0, (by show (1 : Int) ≤ 9; decide), (by show (9 : Int) ≤ 9223372036854775807; decide), e0⟩
        · exact ⟨b1, (by show (1 : Int) ≤ 10; decide), (by show (10 : Int) ≤ 9223372036854775807; decide), e1⟩
        · exact ⟨b2, (by show (1 : Int) ≤ 9; decide), (by show (9 : Int) ≤ 9223372036854775807; decide), e2⟩
      rcases List.mem_append.1 h2 with h2 | h2
      · skip
        refine fin _ (List.all_eq_true.1 all112 c2 h2) ?_
        intro q hq
        simp only [List.mem_cons, List.not_mem_nil, or_false] at hq
        rcases hq with rfl | rfl | rfl
        · exact ⟨b0, (by show (1 : Int) ≤ 9; decide), (by show (9 : Int) ≤ 9223372036854775807; decide), e0⟩
        · exact ⟨b1, (by show (1 : Int) ≤ 10; decide), (by show (10 : Int) ≤ 9223372036854775807; decide), e1⟩
        · exact ⟨b2, (by show (1 : Int) ≤ 9; decide), (by show (9 : Int) ≤ 9223372036854775807; decide), e2⟩
      refine fin _ (List.all_eq_true.1 all113 c2 h2) ?_
      intro q hq
      simp only [List.mem_cons, List.not_mem_nil, or_false] at hq
      rcases hq with rfl | rfl | rfl
      · exact ⟨b0, (by show (1 : Int) ≤ 9; decide), (by show (9 : Int) ≤ 9223372036854775807; decide), e0⟩
      · exact ⟨b1, (by show (1 : Int) ≤ 10; decide), (by show (10 : Int) ≤ 9223372036854775807; decide), e1⟩
      · exact ⟨b2, (by show (1 : Int) ≤ 9; decide), (by show (9 : Int) ≤ 9223372036854775807; decide), e2⟩
    · skip
      obtain ⟨c2, h2, e2⟩ := cover_get (t := 102) (n := 9) (l := ([(0, 0), (1, 1), (2, 2), (3, 3), (4, 4), (5, 5), (6, 6), (7, 7), (8, 8)] : List (Nat × Nat))) (by kernel_rfl) (a := a2) (by decide) rfl
      rw [show ([(0, 0), (1, 1), (2, 2), (3, 3), (4, 4), (5, 5), (6, 6), (7, 7), (8, 8)] : List (Nat × Nat)) = ([(0, 0), (1, 1), (2, 2)] : List (Nat × Nat)) ++ (([(3, 3), (4, 4), (5, 5)] : List (Nat × Nat)) ++ (([(6, 6), (7, 7), (8, 8)] : List (Nat × Nat)))) from by kernel_rfl] at h2
      rcases List.mem_append.1 h2 with h2 | h2
      · skip
        refine fin _ (List.all_eq_true.1 all114 c2 h2) ?_
        intro q hq
        simp only [List.mem_cons, List.not_mem_nil, or_false] at hq
        rcases hq with rfl | rfl | rfl
        · exact ⟨b0, (by show (1 : Int) ≤ 9; decide), (by show (9 : Int) ≤ 9223372036854775807; decide), e0⟩
        · exact ⟨b1, (by show (1 : Int) ≤ 10; decide), (by show (10 : Int) ≤ 9223372036854775807; decide), e1⟩
        · exact ⟨b2, (by show (1 : Int) ≤ 9; decide), (by show (9 : Int) ≤ 9223372036854775807; decide), e2⟩
      rcases List.mem_append.1 h2 with h2 | h2
      · skip
        refine fin _ (List.all_eq_true.1 all115 c2 h2) ?_
        intro q hq
        simp only [List.mem_cons, List.not_mem_nil, or_false] at hq
        rcases hq with rfl | rfl | rfl
        · exact ⟨b0, (by show (1 : Int) ≤ 9; decide), (by show (9 : Int) ≤ 9223372036854775807; decide), e0⟩
        · exact ⟨b1, (by show (1 : Int) ≤ 10; decide), (by show (10 : Int) ≤ 9223372036854775807; decide), e1⟩
        · exact ⟨b2, (by show (1 : Int) ≤ 9; decide), (by show (9 : Int) ≤ 9223372036854775807; decide), e2⟩
      refine fin _ (List.all_eq_true.1 all116 c2 h2) ?_
      intro q hq
      simp only [List.mem_cons, List.not_mem_nil, or_false] at hq
      rcases hq with rfl | rfl | rfl
      · exact ⟨b0, (by show (1 : Int) ≤ 9; decide), (by show (9 : Int) ≤ 9223372036854775807; decide), e0⟩
      · exact ⟨b1, (by show (1 : Int) ≤ 10; decide), (by show (10 : Int) ≤ 9223372036854775807; decide), e1⟩
      · exact ⟨b2, (by show (1 : Int) ≤ 9; decide), (by show (9 : Int) ≤ 9223372036854775807; decide), e2⟩
    · skip
      obtain ⟨c2, h2, e2⟩ := cover_get (t := 102) (n := 9) (l := ([(0, 0), (1, 1), (2, 2), (3, 3), (4, 4), (5, 5), (6, 6), (7, 7), (8, 8)] : List (Nat × Nat))) (by kernel_rfl) (a := a2) (by decide) rfl
      rw [show ([(0, 0), (1, 1), (2, 2), (3, 3), (4, 4), (5, 5), (6, 6), (7, 7), (8, 8)] : List (Nat × Nat)) = ([(0, 0), (1, 1), (2, 2)] : List (Nat × Nat)) ++ (([(3, 3), (4, 4), (5, 5)] : List (Nat × Nat)) ++ (([(6, 6), (7, 7), (8, 8)] : List (Nat × Nat)))) from by kernel_rfl] at h2
      rcases List.mem_append.1 h2 with h2 | h2
      · skip
        refine fin _ (List.all_eq_true.1 all117 c2 h2) ?_
        intro q hq
        simp only [List.mem_cons, List.not_mem_nil, or_false] at hq
        rcases hq with rfl | rfl | rfl
        · exact ⟨b0, (by show (1 : Int) ≤ 9; decide), (by show (9 : Int) ≤ 9223372036854775807; decide), e0⟩
        · exact ⟨b1, (by show (1 : Int) ≤ 10; decide), (by show (10 : Int) ≤ 9223372036854775807; decide), e1⟩
        · exact ⟨b2, (by show (1 : Int) ≤ 9; decide), (by show (9 : Int) ≤ 9223372036854775807; decide), e2⟩
      rcases List.mem_append.1 h2 with h2 | h2
      · skip
        refine fin _ (List.all_eq_true.1 all118 c2 h2) ?_
        intro q hq
        simp only [List.mem_cons, List.not_mem_nil, or_false] at hq
        rcases hq with rfl | rfl | rfl
        · exact ⟨b0, (by show (1 : Int) ≤ 9; decide), (by show (9 : Int) ≤ 9223372036854775807; decide), e0⟩
        · exact ⟨b1, (by show (1 : Int) ≤ 10; decide), (by show (10 : Int) ≤ 9223372036854775807; decide), e1⟩
        · exact ⟨b2, (by show (1 : Int) ≤ 9; decide), (by show (9 : Int) ≤ 9223372036854775807; decide), e2⟩
      refine fin _ (List.all_eq_true.1 all119 c2 h2) ?_
      intro q hq
      simp only [List.mem_cons, List.not_mem_nil, or_false] at hq
      rcases hq with rfl | rfl | rfl
      · exact ⟨b0, (by show (1 : Int) ≤ 9; decide), (by show (9 : Int) ≤ 9223372036854775807; decide), e0⟩
      · exact ⟨b1, (by show (1 : Int) ≤ 10; decide), (by show (10 : Int) ≤ 9223372036854775807; decide), e1⟩
      · exact ⟨b2, (by show (1 : Int) ≤ 9; decide), (by show (9 : Int) ≤ 9223372036854775807; decide), e2⟩
  · skip
    obtain ⟨c1, h1, e1⟩ := cover_get (t := 101) (n := 10) (l := ([(0, 0), (1, 1), (2, 2), (3, 3), (4, 4), (5, 5), (6, 6), (7, 7), (8, 8), (9, 9)] : List (Nat × Nat))) (by kernel_rfl) (a := a1) (by decide) rfl
    simp only [List.mem_cons, List.not_mem_nil, or_false] at h1
    rcases h1 with rfl | rfl | rfl | rfl | rfl | rfl | rfl | rfl | rfl | rfl
    · skip
      obtain ⟨c2, h2, e2⟩ := cover_get (t := 102) (n := 9) (l := ([(0, 0), (1, 1), (2, 2), (3, 3), (4, 4), (5, 5), (6, 6), (7, 7), (8, 8)] : List (Nat × Nat))) (by kernel_rfl) (a := a2) (by decide) rfl
      rw [show ([(0, 0), (1, 1), (2, 2), (3, 3), (4, 4), (5, 5), (6, 6), (7, 7), (8, 8)] : List (Nat × Nat)) = ([(0, 0), (1, 1), (2, 2)] : List (Nat × Nat)) ++ (([(3, 3), (4, 4), (5, 5)] : List (Nat × Nat)) ++ (([(6, 6), (7, 7), (8, 8)] : List (Nat × Nat)))) from by kernel_rfl] at h2
      rcases List.mem_append.1 h2 with h2 | h2
      · skip
        refine fin _ (List.all_eq_true.1 all120 c2 h2) ?_
        intro q hq
        simp only [List.mem_cons, List.not_mem_nil, or_false] at hq
        rcases hq with rfl | rfl | rfl
        · exact ⟨b0, (by show (1 : Int) ≤ 9; decide), (by show (9 : Int) ≤ 9223372036854775807; decide), e0⟩
        · exact ⟨b1, (by show (1 : Int) ≤ 10; decide), (by show (10 : Int) ≤ 9223372036854775807; decide), e1⟩
        · exact ⟨b2, (by show (1 : Int) ≤ 9; decide), (by show (9 : Int) ≤ 9223372036854775807; decide), e2⟩
      rcases List.mem_append.1 h2 with h2 | h2
      · skip
        refine fin _ (List.all_eq_true.1 all121 c2 h2) ?_
        intro q hq
        simp only [List.mem_cons, List.not_mem_nil, or_false] at hq
        rcases hq with rfl | rfl | rfl
        · exact ⟨b0, (by show (1 : Int) ≤ 9; decide), (by show (9 : Int) ≤ 9223372036854775807; decide), e0⟩
        · exact ⟨b1, (by show (1 : Int) ≤ 10; decide), (by show (10 : Int) ≤ 9223372036854775807; decide), e1⟩
        · exact ⟨b2, (by show (1 : Int) ≤ 9; decide), (by show (9 : Int) ≤ 9223372036854775807; decide), e2⟩
      refine fin _ (List.all_eq_true.1 all122 c2 h2) ?_
      intro q hq
      simp only [List.mem_cons, List.not_mem_nil, or_false] at hq
      rcases hq with rfl | rfl | rfl
      · exact ⟨b0, (by show (1 : Int) ≤ 9; decide), (by show (9 : Int) ≤ 9223372036854775807; decide), e0⟩
      · exact ⟨b1, (by show (1 : Int) ≤ 10; decide), (by show (10 : Int) ≤ 9223372036854775807; decide), e1⟩
      · exact ⟨b2, (by show (1 : Int) ≤ 9; decide), (by show (9 : Int) ≤ 9223372036854775807; decide), e2⟩
    · skip
      obtain ⟨c2, h2, e2⟩ := cover_get (t := 102) (n := 9) (l := ([(0, 0), (1, 1), (2, 2), (3, 3), (4, 4), (5, 5), (6, 6), (7, 7), (8, 8)] : List (Nat × Nat))) (by kernel_rfl) (a := a2) (by decide) rfl
      rw [show ([(0, 0), (1, 1), (2, 2), (3, 3), (4, 4), (5, 5), (6, 6), (7, 7), (8, 8)] : List (Nat × Nat)) = ([(0, 0), (1, 1), (2, 2)] : List (Nat × Nat)) ++ (([(3, 3), (4, 4), (5, 5)] : List (Nat × Nat)) ++ (([(6, 6), (7, 7), (8, 8)] : List (Nat × Nat)))) from by kernel_rfl] at h2
      rcases List.mem_append.1 h2 with h2 | h2
      · skip
        refine fin _ (List.all_eq_true.1 all123 c2 h2) ?_
        intro q hq
        simp only [List.mem_cons, List.not_mem_nil, or_false] at hq
        rcases hq with rfl | rfl | rfl
        · exact ⟨b0, (by show (1 : Int) ≤ 9; decide), (by show (9 : Int) ≤ 9223372036854775807; decide), e0⟩
        · exact ⟨b1, (by show (1 : Int) ≤ 10; decide), (by show (10 : Int) ≤ 9223372036854775807; decide), e1⟩
        · exact ⟨b2, (by show (1 : Int) ≤ 9; decide), (by show (9 : Int) ≤ 9223372036854775807; decide), e2⟩
      rcases List.mem_append.1 h2 with h2 | h2
      · skip
        refine fin _ (List.all_eq_true.1 all124 c2 h2) ?_
        intro q hq
        simp only [List.mem_cons, List.not_mem_nil, or_false] at hq
        rcases hq with rfl | rfl | rfl
        · exact ⟨b0, (by show (1 : Int) ≤ 9; decide), (by show (9 : Int) ≤ 9223372036854775807; decide), e0⟩
        · exact ⟨b1, (by show (1 : Int) ≤ 10; decide), (by show (10 : Int) ≤ 9223372036854775807; decide), e1⟩
        · exact ⟨b2, (by show (1 : Int) ≤ 9; decide), (by show (9 : Int) ≤ 9223372036854775807; decide), e2⟩
      refine fin _ (List.all_eq_true.1 all125 c2 h2) ?_
      intro q hq
      simp only [List.mem_cons, List.not_mem_nil, or_false] at hq
      rcases hq with rfl | rfl | rfl
      · exact ⟨b0, (by show (1 : Int) ≤ 9; decide), (by show (9 : Int) ≤ 9223372036854775807; decide), e0⟩
      · exact ⟨b1, (by show (1 : Int) ≤ 10; decide), (by show (10 : Int) ≤ 9223372036854775807; decide), e1⟩
      · exact ⟨b2, (by show (1 : Int) ≤ 9; decide), (by show (9 : Int) ≤ 9223372036854775807; decide), e2⟩
    · skip
      obtain ⟨c2, h2, e2⟩ := cover_get (t := 102) (n := 9) (l := ([(0, 0), (1, 1), (2, 2), (3, 3), (4, 4), (5, 5), (6, 6), (7, 7), (8, 8)] : List (Nat × Nat))) (by kernel_rfl) (a := a2) (by decide) rfl
      rw [show ([(0, 0), (1, 1), (2, 2), (3, 3), (4, 4), (5, 5), (6, 6), (7, 7), (8, 8)] : List (Nat × Nat)) = ([(0, 0), (1, 1), (2, 2)] : List (Nat × Nat)) ++ (([(3, 3), (4, 4), (5, 5)] : List (Nat × Nat)) ++ (([(6, 6), (7, 7), (8, 8)] : List (Nat × Nat)))) from by kernel_rfl] at h2
      rcases List.mem_append.1 h2 with h2 | h2
      · skip
        refine fin _ (List.all_eq_true.1 all126 c2 h2) ?_
        intro q hq
        simp only [List.mem_cons, List.not_mem_nil, or_false] at hq
        rcases hq with rfl | rfl | rfl
        · exact ⟨b0, (by show (1 : Int) ≤ 9; decide), (by show (9 : Int) ≤ 9223372036854775807; decide), e0⟩
        · exact ⟨b1, (by show (1 : Int) ≤ 10; decide), (by show (10 : Int) ≤ 9223372036854775807; decide), e1⟩
        · exact ⟨b2, (by show (1 : Int) ≤ 9; decide), (by show (9 : Int) ≤ 9223372036854775807; decide), e2⟩
      rcases List.mem_append.1 h2 with h2 | h2
      · skip
        refine fin _ (List.all_eq_true.1 all127 c2 h2) ?_
        intro q hq
        simp only [List.mem_cons, List.not_mem_nil, or_false] at hq
        rcases hq with rfl | rfl | rfl
        · exact ⟨b0, (by show (1 : Int) ≤ 9; decide), (by show (9 : Int) ≤ 9223372036854775807; decide), e0⟩
        · exact ⟨b1, (by show (1 : Int) ≤ 10; decide), (by show (10 : Int) ≤ 9223372036854775807; decide), e1⟩
        · exact ⟨b2, (by show (1 : Int) ≤ 9; decide), (by show (9 : Int) ≤ 9223372036854775807; decide), e2⟩
      refine fin _ (List.all_eq_true.1 all128 c2 h2) ?_
      intro q hq
      simp only [List.mem_cons, List.not_mem_nil, or_false] at hq
      rcases hq with rfl | rfl | rfl
      · exact ⟨b0, (by show (1 : Int) ≤ 9; decide), (by show (9 : Int) ≤ 9223372036854775807; decide), e0⟩
      · exact ⟨b1, (by show (1 : Int) ≤ 10; decide), (by show (10 : Int) ≤ 9223372036854775807; decide), e1⟩
      · exact ⟨b2, (by show (1 : Int) ≤ 9; decide), (by show (9 : Int) ≤ 9223372036854775807; decide), e2⟩
    · skip
      obtain ⟨c2, h2, e2⟩ := cover_get (t := 102) (n := 9) (l := ([(0, 0), (1, 1), (2, 2), (3, 3), (4, 4), (5, 5), (6, 6), (7, 7), (8, 8)] : List (Nat × Nat))) (by kernel_rfl) (a := a2) (by decide) rfl
      rw [show ([(0, 0), (1, 1), (2, 2), (3, 3), (4, 4), (5, 5), (6, 6), (7, 7), (8, 8)] : List (Nat × Nat)) = ([(0, 0), (1, 1), (2, 2)] : List (Nat × Nat)) ++ (([(3, 3), (4, 4), (5, 5)] : List (Nat × Nat)) ++ (([(6, 6), (7, 7), (8, 8)] : List (Nat × Nat)))) from by kernel_rfl] at h2
      rcases List.mem_append.1 h2 with h2 | h2
      · skip
        refine fin _ (List.all_eq_true.1 all129 c2 h2) ?_
        intro q hq
        simp only [List.mem_cons, List.not_mem_nil, or_false] at hq
        rcases hq with rfl | rfl | rfl
        · exact ⟨b0, (by show (1 : Int) ≤ 9; decide), (by show (9 : Int) ≤ 9223372036854775807; decide), e0⟩
        · exact ⟨b1, (by show (1 : Int) ≤ 10; decide), (by show (10 : Int) ≤ 9223372036854775807; decide), e1⟩
        · exact ⟨b2, (by show (1 : Int) ≤ 9; decide), (by show (9 : Int) ≤ 9223372036854775807; decide), e2⟩
      rcases List.mem_append.1 h2 with h2 | h2
      · skip
        refine fin _ (List.all_eq_true.1 all130 c2 h2) ?_
        intro q hq
        simp only [List.mem_cons, List.not_mem_nil, or_false] at hq
        rcases hq with rfl | rfl | rfl
        · exact ⟨b0, (by show (1 : Int) ≤ 9; decide), (by show (9 : Int) ≤ 9223372036854775807; decide), e0⟩
        · exact ⟨b1, (by show (1 : Int) ≤ 10; decide), (by show (10 : Int) ≤ 9223372036854775807; decide), e1⟩
        · exact ⟨b2, (by show (1 : Int) ≤ 9; decide), (by show (9 : Int) ≤ 9223372036854775807; decide), e2⟩
      refine fin _ (List.all_eq_true.1 all131 c2 h2) ?_
      intro q hq
      simp only [List.mem_cons, List.not_mem_nil, or_false] at hq
      rcases hq with rfl | rfl | rfl
      · exact ⟨b0, (by show (1 : Int) ≤ 9; decide), (by show (9 : Int) ≤ 9223372036854775807; decide), e0⟩
      · exact ⟨b1, (by show (1 : Int) ≤ 10; decide), (by show (10 : Int) ≤ 9223372036854775807; decide), e1⟩
      · exact ⟨b2, (by show (1 : Int) ≤ 9; decide), (by show (9 : Int) ≤ 9223372036854775807; decide), e2⟩
    · skip
      obtain ⟨c2, h2, e2⟩ := cover_get (t := 102) (n := 9) (l := ([(0, 0), (1, 1), (2, 2), (3, 3), (4, 4), (5, 5), (6, 6), (7, 7), (8, 8)] : List (Nat × Nat))) (by kernel_rfl) (a := a2) (by decide) rfl
      rw [show ([(0, 0), (1, 1), (2, 2), (3, 3), (4, 4), (5, 5), (6, 6), (7, 7), (8, 8)] : List (Nat × Nat)) = ([(0, 0), (1, 1), (2, 2)] : List (Nat × Nat)) ++ (([(3, 3), (4, 4), (5, 5)] : List (Nat × Nat)) ++ (([(6, 6), (7, 7), (8, 8)] : List (Nat × Nat)))) from by kernel_rfl] at h2
      rcases List.mem_append.1 h2 with h2 | h2
      · skip
        refine fin _ (List.all_eq_true.1 all132 c2 h2) ?_
        intro q hq
        simp only [List.mem_cons, List.not_mem_nil, or_false] at hq
        rcases hq with rfl | rfl | rfl
        · exact ⟨b0, (by show (1 : Int) ≤ 9; decide), (by show (9 : Int) ≤ 9223372036854775807; decide), e0⟩
        · exact ⟨b1, (by show (1 : Int) ≤ 10; decide), (by show (10 : Int) ≤ 9223372036854775807; decide), e1⟩
        · exact ⟨b2, (by show (1 : Int) ≤ 9; decide), (by show (9 : Int) ≤ 9223372036854775807; decide), e2⟩
      rcases List.mem_append.1 h2 with h2 | h2
      · skip
        refine fin _ (List.all_eq_true.1 all133 c2 h2) ?_
        intro q hq
        simp only [List.mem_cons, List.not_mem_nil, or_false] at hq
        rcases hq with rfl | rfl | rfl
        · exact ⟨b0, (by show (1 : Int) ≤ 9; decide), (by show (9 : Int) ≤ 9223372036854775807; decide), e0⟩
        · exact ⟨b1, (by show (1 : Int) ≤ 10; decide), (by show (10 : Int) ≤ 9223372036854775807; decide), e1⟩
        · exact ⟨b2, (by show (1 : Int) ≤ 9; decide), (by show (9 : Int) ≤ 9223372036854775807; decide), e2⟩
      refine fin _ (List.all_eq_true.1 all134 c2 h2) ?_
      intro q hq
      simp only [List.mem_cons, List.not_mem_nil, or_false] at hq
      rcases hq with rfl | rfl | rfl
      · exact ⟨b0, (by show (1 : Int) ≤ 9; decide), (by show (9 : Int) ≤ 9223372036854775807; decide), e0⟩
      · exact ⟨b1, (by show (1 : Int) ≤ 10; decide), (by show (10 : Int) ≤ 9223372036854775807; decide), e1⟩
      · exact ⟨b2, (by show (1 : Int) ≤ 9; decide), (by show (9 : Int) ≤ 9223372036854775807; decide), e2⟩
    · skip
      obtain ⟨c2, h2, e2⟩ := cover_get (t := 102) (n := 9) (l := ([(0, 0), (1, 1), (2, 2), (3, 3), (4, 4), (5, 5), (6, 6), (7, 7), (8, 8)] : List (Nat × Nat))) (by kernel_rfl) (a := a2) (by decide) rfl
      rw [show ([(0, 0), (1, 1), (2, 2), (3, 3), (4, 4), (5, 5), (6, 6), (7, 7), (8, 8)] : List (Nat × Nat)) = ([(0, 0), (1, 1), (2, 2)] : List (Nat × Nat)) ++ (([(3, 3), (4, 4), (5, 5)] : List (Nat × Nat)) ++ (([(6, 6), (7, 7), (8, 8)] : List (Nat × Nat)))) from by kernel_rfl] at h2
      rcases List.mem_append.1 h2 with h2 | h2
      · skip
        refine fin _ (List.all_eq_true.1 all135 c2 h2) ?_
        intro q hq
        simp only [List.mem_cons, List.not_mem_nil, or_false] at hq
        rcases hq with rfl | rfl | rfl
        · exact ⟨b0, (by show (1 : Int) ≤ 9; decide), (by show (9 : Int) ≤ 9223372036854775807; decide), e0⟩
        · exact ⟨b1, (by show (1 : Int) ≤ 10; decide), (by show (10 : Int) ≤ 9223372036854775807; decide), e1⟩
        · exact ⟨b2, (by show (1 : Int) ≤ 9; decide), (by show (9 : Int) ≤ 9223372036854775807; decide), e2⟩
      rcases List.mem_append.1 h2 with h2 | h2
      · skip
        refine fin _ (List.all_eq_true.1 all136 c2 h2) ?_
        intro q hq
        simp only [List.mem_cons, List.not_mem_nil, or_false] at hq
        rcases hq with rfl | rfl | rfl
        · exact ⟨b0, (by show (1 : Int) ≤ 9; decide), (by show (9 : Int) ≤ 9223372036854775807; decide), e0⟩
        · exact ⟨b1, (by show (1 : Int) ≤ 10; decide), (by show (10 : Int) ≤ 9223372036854775807; decide), e1⟩
        · exact ⟨b2, (by show (1 : Int) ≤ 9; decide), (by show (9 : Int) ≤ 9223372036854775807; decide), e2⟩
      refine fin _ (List.all_eq_true.1 all137 c2 h2) ?_
      intro q hq
      simp only [List.mem_cons, List.not_mem_nil, or_false] at hq
      rcases hq with rfl | rfl | rfl
      · exact ⟨b0, (by show (1 : Int) ≤ 9; decide), (by show (9 : Int) ≤ 9223372036854775807; decide), e0⟩
      · exact ⟨b1, (by show (1 : Int) ≤ 10; decide), (by show (10 : Int) ≤ 9223372036854775807; decide), e1⟩
      · exact ⟨b2, (by show (1 : Int) ≤ 9; decide), (by show (9 : Int) ≤ 9223372036854775807; decide), e2⟩
    · skip
      obtain ⟨c2, h2, e2⟩ := cover_get (t := 102) (n := 9) (l := ([(0, 0), (1, 1), (2, 2), (3, 3), (4, 4), (5, 5), (6, 6), (7, 7), (8, 8)] : List (Nat × Nat))) (by kernel_rfl) (a := a2) (by decide) rfl
      rw [show ([(0, 0), (1, 1), (2, 2), (3, 3), (4, 4), (5, 5), (6, 6), (7, 7), (8, 8)] : List (Nat × Nat)) = ([(0, 0), (1, 1), (2, 2)] : List (Nat × Nat)) ++ (([(3, 3), (4, 4), (5, 5)] : List (Nat × Nat)) ++ (([(6, 6), (7, 7), (8, 8)] : List (Nat × Nat)))) from by kernel_rfl] at h2
      rcases List.mem_append.1 h2 with h2 | h2
      · skip
        refine fin _ (List.all_eq_true.1 all138 c2 h2) ?_
        intro q hq
        simp only [List.mem_cons, List.not_mem_nil, or_false] at hq
        rcases hq with rfl | rfl | rfl
        · exact ⟨b0, (by show (1 : Int) ≤ 9; decide), (by show (9 : Int) ≤ 9223372036854775807; decide), e0⟩
        · exact ⟨b1, (by show (1 : Int) ≤ 10; decide), (by show (10 : Int) ≤ 9223372036854775807; decide), e1⟩
        · exact ⟨b2, (by show (1 : Int) ≤ 9; decide), (by show (9 : Int) ≤ 9223372036854775807; decide), e2⟩
      rcases List.mem_append.1 h2 with h2 | h2
      · skip
        refine fin _ (List.all_eq_true.1 all139 c2 h2) ?_
        intro q hq
        simp only [List.mem_cons, List.not_mem_nil, or_false] at hq
        rcases hq with rfl | rfl | rfl
        · exact ⟨b0, (by show (1 : Int) ≤ 9; decide), (by show (9 : Int) ≤ 9223372036854775807; decide), e0⟩
        · exact ⟨b1, (by show (1 : Int) ≤ 10; decide), (by show (10 : Int) ≤ 9223372036854775807; decide), e1⟩
        · exact ⟨b2, (by show (1 : Int) ≤ 9; decide), (by show (9 : Int) ≤ 9223372036854775807; decide), e2⟩
      refine fin _ (List.all_eq_true.1 all140 c2 h2) ?_
      intro q hq
      simp only [List.mem_cons, List.not_mem_nil, or_false] at hq
      rcases hq with rfl | rfl | rfl
      · exact ⟨b0, (by show (1 : Int) ≤ 9; decide), (by show (9 : Int) ≤ 9223372036854775807; decide), e0⟩
      · exact ⟨b1, (by show (1 : Int) ≤ 10; decide), (by show (10 : Int) ≤ 9223372036854775807; decide), e1⟩
      · exact ⟨b2, (by show (1 : Int) ≤ 9; decide), (by show (9 : Int) ≤ 9223372036854775807; decide), e2⟩
    · skip
      obtain ⟨c2, h2, e2⟩ := cover_get (t := 102) (n := 9) (l := ([(0, 0), (1, 1), (2, 2), (3, 3), (4, 4), (5, 5), (6, 6), (7, 7), (8, 8)] : List (Nat × Nat))) (by kernel_rfl) (a := a2) (by decide) rfl
      rw [show ([(0, 0), (1, 1), (2, 2), (3, 3), (4, 4), (5, 5), (6, 6), (7, 7), (8, 8)] : List (Nat × Nat)) = ([(0, 0), (1, 1), (2, 2)] : List (Nat × Nat)) ++ (([(3, 3), (4, 4), (5, 5)] : List (Nat × Nat)) ++ (([(6, 6), (7, 7), (8, 8)] : List (Nat × Nat)))) from by kernel_rfl] at h2
      rcases List.mem_append.1 h2 with h2 | h2
      · skip
        refine fin _ (List.all_eq_true.1 all141 c2 h2) ?_
        intro q hq
        simp only [List.mem_cons, List.not_mem_nil, or_false] at hq
        rcases hq with rfl | rfl | rfl
        · exact ⟨b0, (by show (1 : Int) ≤ 9; decide), (by show (9 : Int) ≤ 9223372036854775807; decide), e0⟩
        · exact ⟨b1, (by show (1 : Int) ≤ 10; decide), (by show (10 : Int) ≤ 9223372036854775807; decide), e1⟩
        · exact ⟨b2, (by show (1 : Int) ≤ 9; decide), (by show (9 : Int) ≤ 9223372036854775807; decide), e2⟩
      rcases List.mem_append.1 h2 with h2 | h2
      · skip
        refine fin _ (List.all_eq_true.1 all142 c2 h2) ?_
        intro q hq
        simp only [List.mem_cons, List.not_mem_nil, or_false] at hq
        rcases hq with rfl | rfl | rfl
        · exact ⟨b0, (by show (1 : Int) ≤ 9; decide), (by show (9 : Int) ≤ 9223372036854775807; decide), e0⟩
        · exact ⟨b1, (by show (1 : Int) ≤ 10; decide), (by show (10 : Int) ≤ 9223372036854775807; decide), e1⟩
        · exact ⟨b2, (by show (1 : Int) ≤ 9; decide), (by show (9 : Int) ≤ 9223372036854775807; decide), e2⟩
      refine fin _ (List.all_eq_true.1 all143 c2 h2) ?_
      intro q hq
      simp only [List.mem_cons, List.not_mem_nil, or_false] at hq
      rcases hq with rfl | rfl | rfl
      · exact ⟨b0, (by show (1 : Int) ≤ 9; decide), (by show (9 : Int) ≤ 9223372036854775807; decide), e0⟩
      · exact ⟨b1, (by show (1 : Int) ≤ 10; decide), (by show (10 : Int) ≤ 9223372036854775807; decide), e1⟩
      · exact ⟨b2, (by show (1 : Int) ≤ 9; decide), (by show (9 : Int) ≤ 9223372036854775807; decide), e2⟩
    · skip
      obtain ⟨c2, h2, e2⟩ := cover_get (t := 102) (n := 9) (l := ([(0, 0), (1, 1), (2, 2), (3, 3), (4, 4), (5, 5), (6, 6), (7, 7), (8, 8)] : List (Nat × Nat))) (by kernel_rfl) (a := a2) (by decide) rfl
      rw [show ([(0, 0), (1, 1), (2, 2), (3, 3), (4, 4), (5, 5), (6, 6), (7, 7), (8, 8)] : List (Nat × Nat)) = ([(0, 0), (1, 1), (2, 2)] : List (Nat × Nat)) ++ (([(3, 3), (4, 4), (5, 5)] : List (Nat × Nat)) ++ (([(6, 6), (7, 7), (8, 8)] : List (Nat × Nat)))) from by kernel_rfl] at h2
      rcases List.mem_append.1 h2 with h2 | h2
      · skip
        refine fin _ (List.all_eq_true.1 all144 c2 h2) ?_
        intro q hq
        simp only [List.mem_cons, List.not_mem_nil, or_false] at hq
        rcases hq with rfl | rfl | rfl
        · exact ⟨b0, (by show (1 : Int) ≤ 9; decide), (by show (9 : Int) ≤ 9223372036854775807; decide), e0⟩
        · exact ⟨b1, (by show (1 : Int) ≤ 10; decide), (by show (10 : Int) ≤ 9223372036854775807; decide), e1⟩
        · exact ⟨b2, (by show (1 : Int) ≤ 9; decide), (by show (9 : Int) ≤ 9223372036854775807; decide), e2⟩
      rcases List.mem_append.1 h2 with h2 | h2
      · skip
        refine fin _ (List.all_eq_true.1 all145 c2 h2) ?_
        intro q hq
        simp only [List.mem_cons, List.not_mem_nil, or_false] at hq
        rcases hq with rfl | rfl | rfl
        · exact ⟨b0, (by show (1 : Int) ≤ 9; decide), (by show (9 : Int) ≤ 9223372036854775807; decide), e0⟩
        · exact ⟨b1, (by show (1 : Int) ≤ 10; decide), (by show (10 : Int) ≤ 9223372036854775807; decide), e1⟩
        · exact ⟨b2, (by show (1 : Int) ≤ 9; decide), (by show (9 : Int) ≤ 9223372036854775807; decide), e2⟩
      refine fin _ (List.all_eq_true.1 all146 c2 h2) ?_
      intro q hq
      simp only [List.mem_cons, List.not_mem_nil, or_false] at hq
      rcases hq with rfl | rfl | rfl
      · exact ⟨b0, (by show (1 : Int) ≤ 9; decide), (by show (9 : Int) ≤ 9223372036854775807; decide), e0⟩
      · exact ⟨b1, (by show (1 : Int) ≤ 10; decide), (by show (10 : Int) ≤ 9223372036854775807; decide), e1⟩
      · exact ⟨b2, (by show (1 : Int) ≤ 9; decide), (by show (9 : Int) ≤ 9223372036854775807; decide), e2⟩
    · skip
      obtain ⟨c2, h2, e2⟩ := cover_get (t := 102) (n := 9) (l := ([(0, 0), (1, 1), (2, 2), (3, 3), (4, 4), (5, 5), (6, 6), (7, 7), (8, 8)] : List (Nat × Nat))) (by kernel_rfl) (a := a2) (by decide) rfl
      rw [show ([(0, 0), (1, 1), (2, 2), (3, 3), (4, 4), (5, 5), (6, 6), (7, 7), (8, 8)] : List (Nat × Nat)) = ([(0, 0), (1, 1), (2, 2)] : List (Nat × Nat)) ++ (([(3, 3), (4, 4), (5, 5)] : List (Nat × Nat)) ++ (([(6, 6), (7, 7), (8, 8)] : List (Nat × Nat)))) from by kernel_rfl] at h2
      rcases List.mem_append.1 h2 with h2 | h2
      · skip
        refine fin _ (List.all_eq_true.1 all147 c2 h2) ?_
        intro q hq
        simp only [List.mem_cons, List.not_mem_nil, or_false] at hq
        rcases hq with rfl | rfl | rfl
        · exact ⟨b0, (by show (1 : Int) ≤ 9; decide), (by show (9 : Int) ≤ 9223372036854775807; decide), e0⟩
        · exact ⟨b1, (by show (1 : Int) ≤ 10; decide), (by show (10 : Int) ≤ 9223372036854775807; decide), e1⟩
        · exact ⟨b2, (by show (1 : Int) ≤ 9; decide), (by show (9 : Int) ≤ 9223372036854775807; decide), e2⟩
      rcases List.mem_append.1 h2 with h2 | h2
      · skip
        refine fin _ (List.all_eq_true.1 all148 c2 h2) ?_
        intro q hq
        simp only [List.mem_cons, List.not_mem_nil, or_false] at hq
        rcases hq with rfl | rfl | rfl
        · exact ⟨b0, (by show (1 : Int) ≤ 9; decide), (by show (9 : Int) ≤ 9223372036854775807; decide), e0⟩
        · exact ⟨b1, (by show (1 : Int) ≤ 10; decide), (by show (10 : Int) ≤ 9223372036854775807; decide), e1⟩
        · exact ⟨b2, (by show (1 : Int) ≤ 9; decide), (by show (9 : Int) ≤ 9223372036854775807; decide), e2⟩
      refine fin _ (List.all_eq_true.1 all149 c2 h2) ?_
      intro q hq
      simp only [List.mem_cons, List.not_mem_nil, or_false] at hq
      rcases hq with rfl | rfl | rfl
      · exact ⟨b0, (by show (1 : Int) ≤ 9; decide), (by show (9 : Int) ≤ 9223372036854775807; decide), e0⟩
      · exact ⟨b1, (by show (1 : Int) ≤ 10; decide), (by show (10 : Int) ≤ 9223372036854775807; decide), e1⟩
      · exact ⟨b2, (by show (1 : Int) ≤ 9; decide), (by show (9 : Int) ≤ 9223372036854775807; decide), e2⟩
  · skip
    obtain ⟨c1, h1, e1⟩ := cover_get (t := 101) (n := 10) (l := ([(0, 0), (1, 1), (2, 2), (3, 3), (4, 4), (5, 5), (6, 6), (7, 7), (8, 8), (9, 9)] : List (Nat × Nat))) (by kernel_rfl) (a := a1) (by decide) rfl
    simp only [List.mem_cons, List.not_mem_nil, or_false] at h1
    rcases h1 with rfl | rfl | rfl | rfl | rfl | rfl | rfl | rfl | rfl | rfl
    · skip
      obtain ⟨c2, h2, e2⟩ := cover_get (t := 102) (n := 9) (l := ([(0, 0), (1, 1), (2, 2), (3, 3), (4, 4), (5, 5), (6, 6), (7, 7), (8, 8)] : List (Nat × Nat))) (by kernel_rfl) (a := a2) (by decide) rfl
      rw [show ([(0, 0), (1, 1), (2, 2), (3, 3), (4, 4), (5, 5), (6, 6), (7, 7), (8, 8)] : List (Nat × Nat)) = ([(0, 0), (1, 1), (2, 2)] : List (Nat × Nat)) ++ (([(3, 3), (4, 4), (5, 5)] : List (Nat × Nat)) ++ (([(6, 6), (7, 7), (8, 8)] : List (Nat × Nat)))) from by kernel_rfl] at h2
      rcases List.mem_append.1 h2 with h2 | h2
      · skip
        refine fin _ (List.all_eq_true.1 all150 c2 h2) ?_
        intro q hq
        simp only [List.mem_cons, List.not_mem_nil, or_false] at hq
        rcases hq with rfl | rfl | rfl
        · exact ⟨b0, (by show (1 : Int) ≤ 9; decide), (by show (9 : Int) ≤ 9223372036854775807; decide), e0⟩
        · exact ⟨b1, (by show (1 : Int) ≤ 10; decide), (by show (10 : Int) ≤ 9223372036854775807; decide), e1⟩
        · exact ⟨b2, (by show (1 : Int) ≤ 9; decide), (by show (9 : Int) ≤ 9223372036854775807; decide), e2⟩
      rcases List.mem_append.1 h2 with h2 | h2
      · skip
        refine fin _ (List.all_eq_true.1 all151 c2 h2) ?_
        intro q hq
        simp only [List.mem_cons, List.not_mem_nil, or_false] at hq
        rcases hq with rfl | rfl | rfl
        · exact ⟨b0, (by show (1 : Int) ≤ 9; decide), (by show (9 : Int) ≤ 9223372036854775807; decide), e0⟩
        · exact ⟨b1, (by show (1 : Int) ≤ 10; decide), (by show (10 : Int) ≤ 9223372036854775807; decide), e1⟩
        · exact ⟨b2, (by show (1 : Int) ≤ 9; decide), (by show (9 : Int) ≤ 9223372036854775807; decide), e2⟩
      refine fin _ (List.all_eq_true.1 all152 c2 h2) ?_
      intro q hq
      simp only [List.mem_cons, List.not_mem_nil, or_false] at hq
      rcases hq with rfl | rfl | rfl
      · exact ⟨b0, (by show (1 : Int) ≤ 9; decide), (by show (9 : Int) ≤ 9223372036854775807; decide), e0⟩
      · exact ⟨b1, (by show (1 : Int) ≤ 10; decide), (by show (10 : Int) ≤ 9223372036854775807; decide), e1⟩
      · exact ⟨b2, (by show (1 : Int) ≤ 9; decide), (by show (9 : Int) ≤ 9223372036854775807; decide), e2⟩
    · skip
      obtain ⟨c2, h2, e2⟩ := cover_get (t := 102) (n := 9) (l := ([(0, 0), (1, 1), (2, 2), (3, 3), (4, 4), (5, 5), (6, 6), (7, 7), (8, 8)] : List (Nat × Nat))) (by kernel_rfl) (a := a2) (by decide) rfl
      rw [show ([(0, 0), (1, 1), (2, 2), (3, 3), (4, 4), (5, 5), (6, 6), (7, 7), (8, 8)] : List (Nat × Nat)) = ([(0, 0), (1, 1), (2, 2)] : List (Nat × Nat)) ++ (([(3, 3), (4, 4), (5, 5)] : List (Nat × Nat)) ++ (([(6, 6), (7, 7), (8, 8)] : List (Nat × Nat)))) from by kernel_rfl] at h2
      rcases List.mem_append.1 h2 with h2 | h2
      · skip
        refine fin _ (List.all_eq_true.1 all153 c2 h2) ?_
        intro q hq
        simp only [List.mem_cons, List.not_mem_nil, or_false] at hq
        rcases hq with rfl | rfl | rfl
        · exact ⟨b0, (by show (1 : Int) ≤ 9; decide), (by show (9 : Int) ≤ 9223372036854775807; decide), e0⟩
        · exact ⟨b1, (by show (1 : Int) ≤ 10; decide), (by show (10 : Int) ≤ 9223372036854775807; decide), e1⟩
        · exact ⟨b2, (by show (1 : Int) ≤ 9; decide), (by show (9 : Int) ≤ 9223372036854775807; decide), e2⟩
      rcases List.mem_append.1 h2 with h2 | h2
      · skip
        refine fin _ (List.all_eq_true.1 all154 c2 h2) ?_
        intro q hq
        simp only [List.mem_cons, List.not_mem_nil, or_false] at hq
        rcases hq with rfl | rfl | rfl
        · exact ⟨b0, (by show (1 : Int) ≤ 9; decide), (by show (9 : Int) ≤ 9223372036854775807; decide), e0⟩
        · exact ⟨b1, (by show (1 : Int) ≤ 10; decide), (by show (10 : Int) ≤ 9223372036854775807; decide), e1⟩
        · exact ⟨b2, (by show (1 : Int) ≤ 9; decide), (by show (9 : Int) ≤ 9223372036854775807; decide), e2⟩
      refine fin _ (List.all_eq_true.1 all155 c2 h2) ?_
      intro q hq
      simp only [List.mem_cons, List.not_mem_nil, or_false] at hq
      rcases hq with rfl | rfl | rfl
      · exact ⟨b0, (by show (1 : Int) ≤ 9; decide), (by show (9 : Int) ≤ 9223372036854775807; decide), e0⟩
      · exact ⟨b1, (by show (1 : Int) ≤ 10; decide), (by show (10 : Int) ≤ 9223372036854775807; decide), e1⟩
      · exact ⟨b2, (by show (1 : Int) ≤ 9; decide), (by show (9 : Int) ≤ 9223372036854775807; decide), e2⟩
    · skip
      obtain ⟨c2, h2, e2⟩ := cover_get (t := 102) (n := 9) (l := ([(0, 0), (1, 1), (2, 2), (3, 3), (4, 4), (5, 5), (6, 6), (7, 7), (8, 8)] : List (Nat × Nat))) (by kernel_rfl) (a := a2) (by decide) rfl
      rw [show ([(0, 0), (1, 1), (2, 2), (3, 3), (4, 4), (5, 5), (6, 6), (7, 7), (8, 8)] : List (Nat × Nat)) = ([(0, 0), (1, 1), (2, 2)] : List (Nat × Nat)) ++ (([(3, 3), (4, 4), (5, 5)] : List (Nat × Nat)) ++ (([(6, 6), (7, 7), (8, 8)] : List (Nat × Nat)))) from by kernel_rfl] at h2
      rcases List.mem_append.1 h2 with h2 | h2
      · skip
        refine fin _ (List.all_eq_true.1 all156 c2 h2) ?_
        intro q hq
        simp only [List.mem_cons, List.not_mem_nil, or_false] at hq
        rcases hq with rfl | rfl | rfl
        · exact ⟨b0, (by show (1 : Int) ≤ 9; decide), (by show (9 : Int) ≤ 9223372036854775807; decide), e0⟩
        · exact ⟨b1, (by show (1 : Int) ≤ 10; decide), (by show (10 : Int) ≤ 9223372036854775807; decide), e1⟩
        · exact ⟨b2, (by show (1 : Int) ≤ 9; decide), (by show (9 : Int) ≤ 9223372036854775807; decide), e2⟩
      rcases List.mem_append.1 h2 with h2 | h2
      · skip
        refine fin _ (List.all_eq_true.1 all157 c2 h2) ?_
        intro q hq
        simp only [List.mem_cons, List.not_mem_nil, or_false] at hq
        rcases hq with rfl | rfl | rfl
        · exact ⟨b0, (by show (1 : Int) ≤ 9; decide), (by show (9 : Int) ≤ 9223372036854775807; decide), e0⟩
        · exact ⟨b1, (by show (1 : Int) ≤ 10; decide), (by show (10 : Int) ≤ 9223372036854775807; decide), e1⟩
        · exact ⟨b2, (by show (1 : Int) ≤ 9; decide), (by show (9 : Int) ≤ 9223372036854775807; decide), e2⟩
      refine fin _ (List.all_eq_true.1 all158 c2 h2) ?_
      intro q hq
      simp only [List.mem_cons, List.not_mem_nil, or_false] at hq
      rcases hq with rfl | rfl | rfl
      · exact ⟨b0, (by show (1 : Int) ≤ 9; decide), (by show (9 : Int) ≤ 9223372036854775807; decide), e0⟩
      · exact ⟨b1, (by show (1 : Int) ≤ 10; decide), (by show (10 : Int) ≤ 9223372036854775807; decide), e1⟩
      · exact ⟨b2, (by show (1 : Int) ≤ 9; decide), (by show (9 : Int) ≤ 9223372036854775807; decide), e2⟩
    · skip
      obtain ⟨c2, h2, e2⟩ := cover_get (t := 102) (n := 9) (l := ([(0, 0), (1, 1), (2, 2), (3, 3), (4, 4), (5, 5), (6, 6), (7, 7), (8, 8)] : List (Nat × Nat))) (by kernel_rfl) (a := a2) (by decide) rfl
      rw [show ([(0, 0), (1, 1), (2, 2), (3, 3), (4, 4), (5, 5), (6, 6), (7, 7), (8, 8)] : List (Nat × Nat)) = ([(0, 0), (1, 1), (2, 2)] : List (Nat × Nat)) ++ (([(3, 3), (4, 4), (5, 5)] : List (Nat × Nat)) ++ (([(6, 6), (7, 7), (8, 8)] : List (Nat × Nat)))) from by kernel_rfl] at h2
      rcases List.mem_append.1 h2 with h2 | h2
      · skip
        refine fin _ (List.all_eq_true.1 all159 c2 h2) ?_
        intro q hq
        simp only [List.mem_cons, List.not_mem_nil, or_false] at hq
        rcases hq with rfl | rfl | rfl
        · exact ⟨b0, (by show (1 : Int) ≤ 9; decide), (by show (9 : Int) ≤ 9223372036854775807; decide), e0⟩
        · exact ⟨b1, (by show (1 : Int) ≤ 10; decide), (by show (10 : Int) ≤ 9223372036854775807; decide), e1⟩
        · exact ⟨b2, (by show (1 : Int) ≤ 9; decide), (by show (9 : Int) ≤ 9223372036854775807; decide), e2⟩
      rcases List.mem_append.1 h2 with h2 | h2
      · skip
        refine fin _ (List.all_eq_true.1 all160 c2 h2) ?_
        intro q hq
        simp only [List.mem_cons, List.not_mem_nil, or_false] at hq
        rcases hq with rfl | rfl | rfl
        · exact ⟨b0, (by show (1 : Int) ≤ 9; decide), (by show (9 : Int) ≤ 9223372036854775807; decide), e0⟩
        · exact ⟨b1, (by show (1 : Int) ≤ 10; decide), (by show (10 : Int) ≤ 9223372036854775807; decide), e1⟩
        · exact ⟨b2, (by show (1 : Int) ≤ 9; decide), (by show (9 : Int) ≤ 9223372036854775807; decide), e2⟩
      refine fin _ (List.all_eq_true.1 all161 c2 h2) ?_
      intro q hq
      simp only [List.mem_cons, List.not_mem_nil, or_false] at hq
      rcases hq with rfl | rfl | rfl
      · exact ⟨b0, (by show (1 : Int) ≤ 9; decide), (by show (9 : Int) ≤ 9223372036854775807; decide), e0⟩
      · exact ⟨b1, (by show (1 : Int) ≤ 10; decide), (by show (10 : Int) ≤ 9223372036854775807; decide), e1⟩
      · exact ⟨b2, (by show (1 : Int) ≤ 9; decide), (by show (9 : Int) ≤ 9223372036854775807; decide), e2⟩
    · skip
      obtain ⟨c2, h2, e2⟩ := cover_get (t := 102) (n := 9) (l := ([(0, 0), (1, 1), (2, 2), (3, 3), (4, 4), (5, 5), (6, 6), (7, 7), (8, 8)] : List (Nat × Nat))) (by kernel_rfl) (a := a2) (by decide) rfl
      rw [show ([(0, 0), (1, 1), (2, 2), (3, 3), (4, 4), (5, 5), (6, 6), (7, 7), (8, 8)] : List (Nat × Nat)) = ([(0, 0), (1, 1), (2, 2)] : List (Nat × Nat)) ++ (([(3, 3), (4, 4), (5, 5)] : List (Nat × Nat)) ++ (([(6, 6), (7, 7), (8, 8)] : List (Nat × Nat)))) from by kernel_rfl] at h2
      rcases List.mem_append.1 h2 with h2 | h2
      · skip
        refine fin _ (List.all_eq_true.1 all162 c2 h2) ?_
        intro q hq
        simp only [List.mem_cons, List.not_mem_nil, or_false] at hq
        rcases hq with rfl | rfl | rfl
        · exact ⟨b0, (by show (1 : Int) ≤ 9; decide), (by show (9 : Int) ≤ 9223372036854775807; decide), e0⟩
        · exact ⟨b1, (by show (1 : Int) ≤ 10; decide), (by show (10 : Int) ≤ 9223372036854775807; decide), e1⟩
        · exact ⟨b2, (by show (1 : Int) ≤ 9; decide), (by show (9 : Int) ≤ 9223372036854775807; decide), e2⟩
      rcases List.mem_append.1 h2 with h2 | h2
      · skip
        refine fin _ (List.all_eq_true.1 all163 c2 h2) ?_
        intro q hq
        simp only [List.mem_cons, List.not_mem_nil, or_false] at hq
        rcases hq with rfl | rfl | rfl
        · exact ⟨b0, (by show (1 : Int) ≤ 9; decide), (by show (9 : Int) ≤ 9223372036854775807; decide), e0⟩
        · exact ⟨b1, (by show (1 : Int) ≤ 10; decide), (by show (10 : Int) ≤ 9223372036854775807; decide), e1⟩
        · exact ⟨b2, (by show (1 : Int) ≤ 9; decide), (by show (9 : Int) ≤ 9223372036854775807; decide), e2⟩
      refine fin _ (List.all_eq_true.1 all164 c2 h2) ?_
      intro q hq
      simp only [List.mem_cons, List.not_mem_nil, or_false] at hq
      rcases hq with rfl | rfl | rfl
      · exact ⟨b0, (by show (1 : Int) ≤ 9; decide), (by show (9 : Int) ≤ 9223372036854775807; decide), e0⟩
      · exact ⟨b1, (by show (1 : Int) ≤ 10; decide), (by show (10 : Int) ≤ 9223372036854775807; decide), e1⟩
      · exact ⟨b2, (by show (1 : Int) ≤ 9; decide), (by show (9 : Int) ≤ 9223372036854775807; decide), e2⟩
    · skip
      obtain ⟨c2, h2, e2⟩ := cover_get (t := 102) (n := 9) (l := ([(0, 0), (1, 1), (2, 2), (3, 3), (4, 4), (5, 5), (6, 6), (7, 7), (8, 8)] : List (Nat × Nat))) (by kernel_rfl) (a := a2) (by decide) rfl
      rw [show ([(0, 0), (1, 1), (2, 2), (3, 3), (4, 4), (5, 5), (6, 6), (7, 7), (8, 8)] : List (Nat × Nat)) = ([(0, 0), (1, 1), (2, 2)] : List (Nat × Nat)) ++ (([(3, 3), (4, 4), (5, 5)] : List (Nat × Nat)) ++ (([(6, 6), (7, 7), (8, 8)] : List (Nat × Nat)))) from by kernel_rfl] at h2
      rcases List.mem_append.1 h2 with h2 | h2
      · skip
        refine fin _ (List.all_eq_true.1 all165 c2 h2) ?_
        intro q hq
        simp only [List.mem_cons, List.not_mem_nil, or_false] at hq
        rcases hq with rfl | rfl | rfl
        · exact ⟨b0, (by show (1 : Int) ≤ 9; decide), (by show (9 : Int) ≤ 9223372036854775807; decide), e0⟩
        · exact ⟨b1, (by show (1 : Int) ≤ 10; decide), (by show (10 : Int) ≤ 9223372036854775807; decide), e1⟩
        · exact ⟨b2, (by show (1 : Int) ≤ 9; decide), (by show (9 : Int) ≤ 9223372036854775807; decide), e2⟩
      rcases List.mem_append.1 h2 with h2 | h2
      · skip
        refine fin _ (List.all_eq_true.1 all166 c2 h2) ?_
        intro q hq
        simp only [List.mem_cons, List.not_mem_nil, or_false] at hq
        rcases hq with rfl | rfl | rfl
        · exact ⟨b0, (by show (1 : Int) ≤ 9; decide), (by show (9 : Int) ≤ 9223372036854775807; decide), e0⟩
        · exact ⟨b1, (by show (1 : Int) ≤ 10; decide), (by show (10 : Int) ≤ 9223372036854775807; decide), e1⟩
        · exact ⟨b2, (by show (1 : Int) ≤ 9; decide), (by show (9 : Int) ≤ 9223372036854775807; decide), e2⟩
      refine fin _ (List.all_eq_true.1 all167 c2 h2) ?_
      intro q hq
      simp only [List.mem_cons, List.not_mem_nil, or_false] at hq
      rcases hq with rfl | rfl | rfl
      · exact ⟨b0, (by show (1 : Int) ≤ 9; decide), (by show (9 : Int) ≤ 9223372036854775807; decide), e0⟩
      · exact ⟨b1, (by show (1 : Int) ≤ 10; decide), (by show (10 : Int) ≤ 9223372036854775807; decide), e1⟩
      · exact ⟨b2, (by show (1 : Int) ≤ 9; decide), (by show (9 : Int) ≤ 9223372036854775807; decide), e2⟩
    · skip
      obtain ⟨c2, h2, e2⟩ := cover_get (t := 102) (n := 9) (l := ([(0, 0), (1, 1), (2, 2), (3, 3), (4, 4), (5, 5), (6, 6), (7, 7), (8, 8)] : List (Nat × Nat))) (by kernel_rfl) (a := a2) (by decide) rfl
      rw [show ([(0, 0), (1, 1), (2, 2), (3, 3), (4, 4), (5, 5), (6, 6), (7, 7), (8, 8)] : List (Nat × Nat)) = ([(0, 0), (1, 1), (2, 2)] : List (Nat × Nat)) ++ (([(3, 3), (4, 4), (5, 5)] : List (Nat × Nat)) ++ (([(6, 6), (7, 7), (8, 8)] : List (Nat × Nat)))) from by kernel_rfl] at h2
      rcases List.mem_append.1 h2 with h2 | h2
      · skip
        refine fin _ (List.all_eq_true.1 all168 c2 h2) ?_
        intro q hq
        simp only [List.mem_cons, List.not_mem_nil, or_false] at hq
        rcases hq with rfl | rfl | rfl
        · exact ⟨b0, (by show (1 : Int) ≤ 9; decide), (by show (9 : Int) ≤ 9223372036854775807; decide), e0⟩
        · exact ⟨b1, (by show (1 : Int) ≤ 10; decide), (by show (10 : Int) ≤ 9223372036854775807; decide), e1⟩
        · exact ⟨b2, (by show (1 : Int) ≤ 9; decide), (by show (9 : Int) ≤ 9223372036854775807; decide), e2⟩
      rcases List.mem_append.1 h2 with h2 | h2
      · skip
        refine fin _ (List.all_eq_true.1 all169 c2 h2) ?_
        intro q hq
        simp only [List.mem_cons, List.not_mem_nil, or_false] at hq
        rcases hq with rfl | rfl | rfl
        · exact ⟨b0, (by show (1 : Int) ≤ 9; decide), (by show (9 : Int) ≤ 9223372036854775807; decide), e0⟩
        · exact ⟨b1, (by show (1 : Int) ≤ 10; decide), (by show (10 : Int) ≤ 9223372036854775807; decide), e1⟩
        · exact ⟨b2, (by show (1 : Int) ≤ 9; decide), (by show (9 : Int) ≤ 9223372036854775807; decide), e2⟩
      refine fin _ (List.all_eq_true.1 all170 c2 h2) ?_
      intro q hq
      simp only [List.mem_cons, List.not_mem_nil, or_false] at hq
      rcases hq with rfl | rfl | rfl
      · exact ⟨b0, (by show (1 : Int) ≤ 9; decide), (by show (9 : Int) ≤ 9223372036854775807; decide), e0⟩
      · exact ⟨b1, (by show (1 : Int) ≤ 10; decide), (by show (10 : Int) ≤ 9223372036854775807; decide), e1⟩
      · exact ⟨b2, (by show (1 : Int) ≤ 9; decide), (by show (9 : Int) ≤ 9223372036854775807; decide), e2⟩
    · skip
      obtain ⟨c2, h2, e2⟩ := cover_get (t := 102) (n := 9) (l := ([(0, 0), (1, 1), (2, 2), (3, 3), (4, 4), (5, 5), (6, 6), (7, 7), (8, 8)] : List (Nat × Nat))) (by kernel_rfl) (a := a2) (by decide) rfl
      rw [show ([(0, 0), (1, 1), (2, 2), (3, 3), (4, 4), (5, 5), (6, 6), (7, 7), (8, 8)] : List (Nat × Nat)) = ([(0, 0), (1, 1), (2, 2)] : List (Nat × Nat)) ++ (([(3, 3), (4, 4), (5, 5)] : List (Nat × Nat)) ++ (([(6, 6), (7, 7), (8, 8)] : List (Nat × Nat)))) from by kernel_rfl] at h2
      rcases List.mem_append.1 h2 with h2 | h2
      · skip
        refine fin _ (List.all_eq_true.1 all171 c2 h2) ?_
        intro q hq
        simp only [List.mem_cons, List.not_mem_nil, or_false] at hq
        rcases hq with rfl | rfl | rfl
        · exact ⟨b0, (by show (1 : Int) ≤ 9; decide), (by show (9 : Int) ≤ 9223372036854775807; decide), e0⟩
        · exact ⟨b1, (by show (1 : Int) ≤ 10; decide), (by show (10 : Int) ≤ 9223372036854775807; decide), e1⟩
        · exact ⟨b2, (by show (1 : Int) ≤ 9; decide), (by show (9 : Int) ≤ 9223372036854775807; decide), e2⟩
      rcases List.mem_append.1 h2 with h2 | h2
      · skip
        refine fin _ (List.all_eq_true.1 all172 c2 h2) ?_
        intro q hq
        simp only [List.mem_cons, List.not_mem_nil, or_false] at hq
        rcases hq with rfl | rfl | rfl
        · exact ⟨b0, (by show (1 : Int) ≤ 9; decide), (by show (9 : Int) ≤ 9223372036854775807; decide), e0⟩
        · exact ⟨b1, (by show (1 : Int) ≤ 10; decide), (by show (10 : Int) ≤ 9223372036854775807; decide), e1⟩
        · exact ⟨b2, (by show (1 : Int) ≤ 9; decide), (by show (9 : Int) ≤ 9223372036854775807; decide), e2⟩
      refine fin _ (List.all_eq_true.1 all173 c2 h2) ?_
      intro q hq
      simp only [List.mem_cons, List.not_mem_nil, or_false] at hq
      rcases hq with rfl | rfl | rfl
      · exact ⟨b0, (by show (1 : Int) ≤ 9; decide), (by show (9 : Int) ≤ 9223372036854775807; decide), e0⟩
      · exact ⟨b1, (by show (1 : Int) ≤ 10; decide), (by show (10 : Int) ≤ 9223372036854775807; decide), e1⟩
      · exact ⟨b2, (by show (1 : Int) ≤ 9; decide), (by show (9 : Int) ≤ 9223372036854775807; decide), e2⟩
    · skip
      obtain ⟨c2, h2, e2⟩ := cover_get (t := 102) (n := 9) (l := ([(0, 0), (1, 1), (2, 2), (3, 3), (4, 4), (5, 5), (6, 6), (7, 7), (8, 8)] : List (Nat × Nat))) (by kernel_rfl) (a := a2) (by decide) rfl
      rw [show ([(0, 0), (1, 1), (2, 2), (3, 3), (4, 4), (5, 5), (6, 6), (7, 7), (8, 8)] : List (Nat × Nat)) = ([(0, 0), (1, 1), (2, 2)] : List (Nat × Nat)) ++ (([(3, 3), (4, 4), (5, 5)] : List (Nat × Nat)) ++ (([(6, 6), (7, 7), (8, 8)] : List (Nat × Nat)))) from by kernel_rfl] at h2
      rcases List.mem_append.1 h2 with h2 | h2
      · skip
        refine fin _ (List.all_eq_true.1 all174 c2 h2) ?_
        intro q hq
        simp only [List.mem_cons, List.not_mem_nil, or_false] at hq
        rcases hq with rfl | rfl | rfl
        · exact ⟨b0, (by show (1 : Int) ≤ 9; decide), (by show (9 : Int) ≤ 9223372036854775807; decide), e0⟩
        · exact ⟨b1, (by show (1 : Int) ≤ 10; decide), (by show (10 : Int) ≤ 9223372036854775807; decide), e1⟩
        · exact ⟨b2, (by show (1 : Int) ≤ 9; decide), (by show (9 : Int) ≤ 9223372036854775807; decide), e2⟩
      rcases List.mem_append.1 h2 with h2 | h2
      · skip
        refine fin _ (List.all_eq_true.1 all175 c2 h2) ?_
        intro q hq
        simp only [List.mem_cons, List.not_mem_nil, or_false] at hq
        rcases hq with rfl | rfl | rfl
        · exact ⟨b0, (by show (1 : Int) ≤ 9; decide), (by show (9 : Int) ≤ 9223372036854775807; decide), e0⟩
        · exact ⟨b1, (by show (1 : Int) ≤ 10; decide), (by show (10 : Int) ≤ 9223372036854775807; decide), e1⟩
        · exact ⟨b2, (by show (1 : Int) ≤ 9; decide), (by show (9 : Int) ≤ 9223372036854775807; decide), e2⟩
      refine fin _ (List.all_eq_true.1 all176 c2 h2) ?_
      intro q hq
      simp only [List.mem_cons, List.not_mem_nil, or_false] at hq
      rcases hq with rfl | rfl | rfl
      · exact ⟨b0, (by show (1 : Int) ≤ 9; decide), (by show (9 : Int) ≤ 9223372036854775807; decide), e0⟩
      · exact ⟨b1, (by show (1 : Int) ≤ 10; decide), (by show (10 : Int) ≤ 9223372036854775807; decide), e1⟩
      · exact ⟨b2, (by show (1 : Int) ≤ 9; decide), (by show (9 : Int) ≤ 9223372036854775807; decide), e2⟩
    · skip
      obtain ⟨c2, h2, e2⟩ := cover_get (t := 102) (n := 9) (l := ([(0, 0), (1, 1), (2, 2), (3, 3), (4, 4), (5, 5), (6, 6), (7, 7), (8, 8)] : List (Nat × Nat))) (by kernel_rfl) (a := a2) (by decide) rfl
      rw [show ([(0, 0), (1, 1), (2, 2), (3, 3), (4, 4), (5, 5), (6, 6), (7, 7), (8, 8)] : List (Nat × Nat)) = ([(0, 0), (1, 1), (2, 2)] : List (Nat × Nat)) ++ (([(3, 3), (4, 4), (5, 5)] : List (Nat × Nat)) ++ (([(6, 6), (7, 7), (8, 8)] : List (Nat × Nat)))) from by kernel_rfl] at h2
      rcases List.mem_append.1 h2 with h2 | h2
      · skip
        refine fin _ (List.all_eq_true.1 all177 c2 h2) ?_
        intro q hq
        simp only [List.mem_cons, List.not_mem_nil, or_false] at hq
        rcases hq with rfl | rfl | rfl
        · exact ⟨b0, (by show (1 : Int) ≤ 9; decide), (by show (9 : Int) ≤ 9223372036854775807; decide), e0⟩
        · exact ⟨b1, (by show (1 : Int) ≤ 10; decide), (by show (10 : Int) ≤ 9223372036854775807; decide), e1⟩
        · exact ⟨b2, (by show (1 : Int) ≤ 9; decide), (by show (9 : Int) ≤ 9223372036854775807; decide), e2⟩
      rcases List.mem_append.1 h2 with h2 | h2
      · skip
        refine fin _ (List.all_eq_true.1 all178 c2 h2) ?_
        intro q hq
        simp only [List.mem_cons, List.not_mem_nil, or_false] at hq
        rcases hq with rfl | rfl | rfl
        · exact ⟨b0, (by show (1 : Int) ≤ 9; decide), (by show (9 : Int) ≤ 9223372036854775807; decide), e0⟩
        · exact ⟨b1, (by show (1 : Int) ≤ 10; decide), (by show (10 : Int) ≤ 9223372036854775807; decide), e1⟩
        · exact ⟨b2, (by show (1 : Int) ≤ 9; decide), (by show (9 : Int) ≤ 9223372036854775807; decide), e2⟩
      refine fin _ (List.all_eq_true.1 all179 c2 h2) ?_
      intro q hq
      simp only [List.mem_cons, List.not_mem_nil, or_false] at hq
      rcases hq with rfl | rfl | rfl
      · exact ⟨b0, (by show (1 : Int) ≤ 9; decide), (by show (9 : Int) ≤ 9223372036854775807; decide), e0⟩
      · exact ⟨b1, (by show (1 : Int) ≤ 10; decide), (by show (10 : Int) ≤ 9223372036854775807; decide), e1⟩
      · exact ⟨b2, (by show (1 : Int) ≤ 9; decide), (by show (9 : Int) ≤ 9223372036854775807; decide), e2⟩
  · skip
    obtain ⟨c1, h1, e1⟩ := cover_get (t := 101) (n := 10) (l := ([(0, 0), (1, 1), (2, 2), (3, 3), (4, 4), (5, 5), (6, 6), (7, 7), (8, 8), (9, 9)] : List (Nat × Nat))) (by kernel_rfl) (a := a1) (by decide) rfl
    simp only [List.mem_cons, List.not_mem_nil, or_false] at h1
    rcases h1 with rfl | rfl | rfl | rfl | rfl | rfl | rfl | rfl | rfl | rfl
    · skip
      obtain ⟨c2, h2, e2⟩ := cover_get (t := 102) (n := 9) (l := ([(0, 0), (1, 1), (2, 2), (3, 3), (4, 4), (5, 5), (6, 6), (7, 7), (8, 8)] : List (Nat × Nat))) (by kernel_rfl) (a := a2) (by decide) rfl
      rw [show ([(0, 0), (1, 1), (2, 2), (3, 3), (4, 4), (5, 5), (6, 6), (7, 7), (8, 8)] : List (Nat × Nat)) = ([(0, 0), (1, 1), (2, 2)] : List (Nat × Nat)) ++ (([(3, 3), (4, 4), (5, 5)] : List (Nat × Nat)) ++ (([(6, 6), (7, 7), (8, 8)] : List (Nat × Nat)))) from by kernel_rfl] at h2
      rcases List.mem_append.1 h2 with h2 | h2
      · skip
        refine fin _ (List.all_eq_true.1 all180 c2 h2) ?_
        intro q hq
        simp only [List.mem_cons, List.not_mem_nil, or_false] at hq
        rcases hq with rfl | rfl | rfl
        · exact ⟨b0, (by show (1 : Int) ≤ 9; decide), (by show (9 : Int) ≤ 9223372036854775807; decide), e0⟩
        · exact ⟨b1, (by show (1 : Int) ≤ 10; decide), (by show (10 : Int) ≤ 9223372036854775807; decide), e1⟩
        · exact ⟨b2, (by show (1 : Int) ≤ 9; decide), (by show (9 : Int) ≤ 9223372036854775807; decide), e2⟩
      rcases List.mem_append.1 h2 with h2 | h2
      · skip
        refine fin _ (List.all_eq_true.1 all181 c2 h2) ?_
        intro q hq
        simp only [List.mem_cons, List.not_mem_nil, or_false] at hq
        rcases hq with rfl | rfl | rfl
        · exact ⟨b0, (by show (1 : Int) ≤ 9; decide), (by show (9 : Int) ≤ 9223372036854775807; decide), e0⟩
        · exact ⟨b1, (by show (1 : Int) ≤ 10; decide), (by show (10 : Int) ≤ 9223372036854775807; decide), e1⟩
        · exact ⟨b2, (by show (1 : Int) ≤ 9; decide), (by show (9 : Int) ≤ 9223372036854775807; decide), e2⟩
      refine fin _ (List.all_eq_true.1 all182 c2 h2) ?_
      intro q hq
      simp only [List.mem_cons, List.not_mem_nil, or_false] at hq
      rcases hq with rfl | rfl | rfl
      · exact ⟨b0, (by show (1 : Int) ≤ 9; decide), (by show (9 : Int) ≤ 9223372036854775807; decide), e0⟩
      · exact ⟨b1, (by show (1 : Int) ≤ 10; decide), (by show (10 : Int) ≤ 9223372036854775807; decide), e1⟩
      · exact ⟨b2, (by show (1 : Int) ≤ 9; decide), (by show (9 : Int) ≤ 9223372036854775807; decide), e2⟩
    · skip
      obtain ⟨c2, h2, e2⟩ := cover_get (t := 102) (n := 9) (l := ([(0, 0), (1, 1), (2, 2), (3, 3), (4, 4), (5, 5), (6, 6), (7, 7), (8, 8)] : List (Nat × Nat))) (by kernel_rfl) (a := a2) (by decide) rfl
      rw [show ([(0, 0), (1, 1), (2, 2), (3, 3), (4, 4), (5, 5), (6, 6), (7, 7), (8, 8)] : List (Nat × Nat)) = ([(0, 0), (1, 1), (2, 2)] : List (Nat × Nat)) ++ (([(3, 3), (4, 4), (5, 5)] : List (Nat × Nat)) ++ (([(6, 6), (7, 7), (8, 8)] : List (Nat × Nat)))) from by kernel_rfl] at h2
      rcases List.mem_append.1 h2 with h2 | h2
      · skip
        refine fin _ (List.all_eq_true.1 all183 c2 h2) ?_
        intro q hq
        simp only [List.mem_cons, List.not_mem_nil, or_false] at hq
        rcases hq with rfl | rfl | rfl
        · exact ⟨b0, (by show (1 : Int) ≤ 9; decide), (by show (9 : Int) ≤ 9223372036854775807; decide), e0⟩
        · exact ⟨b1, (by show (1 : Int) ≤ 10; decide), (by show (10 : Int) ≤ 9223372036854775807; decide), e1⟩
        · exact ⟨b2, (by show (1 : Int) ≤ 9; decide), (by show (9 : Int) ≤ 9223372036854775807; decide), e2⟩
      rcases List.mem_append.1 h2 with h2 | h2
      · skip
        refine fin _ (List.all_eq_true.1 all184 c2 h2) ?_
        intro q hq
        simp only [List.mem_cons, List.not_mem_nil, or_false] at hq
        rcases hq with rfl | rfl | rfl
        · exact ⟨b0, (by show (1 : Int) ≤ 9; decide), (by show (9 : Int) ≤ 9223372036854775807; decide), e0⟩
        · exact ⟨b1, (by show (1 : Int) ≤ 10; decide), (by show (10 : Int) ≤ 9223372036854775807; decide), e1⟩
        · exact ⟨b2, (by show (1 : Int) ≤ 9; decide), (by show (9 : Int) ≤ 9223372036854775807; decide), e2⟩
      refine fin _ (List.all_eq_true.1 all185 c2 h2) ?_
      intro q hq
      simp only [List.mem_cons, List.not_mem_nil, or_false] at hq
      rcases hq with rfl | rfl | rfl
      · exact ⟨b0, (by show (1 : Int) ≤ 9; decide), (by show (9 : Int) ≤ 9223372036854775807; decide), e0⟩
      · exact ⟨b1, (by show (1 : Int) ≤ 10; decide), (by show (10 : Int) ≤ 9223372036854775807; decide), e1⟩
      · exact ⟨b2, (by show (1 : Int) ≤ 9; decide), (by show (9 : Int) ≤ 9223372036854775807; decide), e2⟩
    · skip
      obtain ⟨c2, h2, e2⟩ := cover_get (t := 102) (n := 9) (l := ([(0, 0), (1, 1), (2, 2), (3, 3), (4, 4), (5, 5), (6, 6), (7, 7), (8, 8)] : List (Nat × Nat))) (by kernel_rfl) (a := a2) (by decide) rfl
      rw [show ([(0, 0), (1, 1), (2, 2), (3, 3), (4, 4), (5, 5), (6, 6), (7, 7), (8, 8)] : List (Nat × Nat)) = ([(0, 0), (1, 1), (2, 2)] : List (Nat × Nat)) ++ (([(3, 3), (4, 4), (5, 5)] : List (Nat × Nat)) ++ (([(6, 6), (7, 7), (8, 8)] : List (Nat × Nat)))) from by kernel_rfl] at h2
      rcases List.mem_append.1 h2 with h2 | h2
      · skip
        refine fin _ (List.all_eq_true.1 all186 c2 h2) ?_
        intro q hq
        simp only [List.mem_cons, List.not_mem_nil, or_false] at hq
        rcases hq with rfl | rfl | rfl
        · exact ⟨b0, (by show (1 : Int) ≤ 9; decide), (by show (9 : Int) ≤ 9223372036854775807; decide), e0⟩
        · exact ⟨b1, (by show (1 : Int) ≤ 10; decide), (by show (10 : Int) ≤ 9223372036854775807; decide), e1⟩
        · exact ⟨b2, (by show (1 : Int) ≤ 9; decide), (by show (9 : Int) ≤ 9223372036854775807; decide), e2⟩
      rcases List.mem_append.1 h2 with h2 | h2
      · skip
        refine fin _ (List.all_eq_true.1 all187 c2 h2) ?_
        intro q hq
        simp only [List.mem_cons, List.not_mem_nil, or_false] at hq
        rcases hq with rfl | rfl | rfl
        · exact ⟨b0, (by show (1 : Int) ≤ 9; decide), (by show (9 : Int) ≤ 9223372036854775807; decide), e0⟩
        · exact ⟨b1, (by show (1 : Int) ≤ 10; decide), (by show (10 : Int) ≤ 9223372036854775807; decide), e1⟩
        · exact ⟨b2, (by show (1 : Int) ≤ 9; decide), (by show (9 : Int) ≤ 9223372036854775807; decide), e2⟩
      refine fin _ (List.all_eq_true.1 all188 c2 h2) ?_
      intro q hq
      simp only [List.mem_cons, List.not_mem_nil, or_false] at hq
      rcases hq with rfl | rfl | rfl
      · exact ⟨b0, (by show (1 : Int) ≤ 9; decide), (by show (9 : Int) ≤ 9223372036854775807; decide), e0⟩
      · exact ⟨b1, (by show (1 : Int) ≤ 10; decide), (by show (10 : Int) ≤ 9223372036854775807; decide), e1⟩
      · exact ⟨b2, (by show (1 : Int) ≤ 9; decide), (by show (9 : Int) ≤ 9223372036854775807; decide), e2⟩
    · skip
      obtain ⟨c2, h2, e2⟩ := cover_get (t := 102) (n := 9) (l := ([(0, 0), (1, 1), (2, 2), (3, 3), (4, 4), (5, 5), (6, 6), (7, 7), (8, 8)] : List (Nat × Nat))) (by kernel_rfl) (a := a2) (by decide) rfl
      rw [show ([(0, 0), (1, 1), (2, 2), (3, 3), (4, 4), (5, 5), (6, 6), (7, 7), (8, 8)] : List (Nat × Nat)) = ([(0, 0), (1, 1), (2, 2)] : List (Nat × Nat)) ++ (([(3, 3), (4, 4), (5, 5)] : List (Nat × Nat)) ++ (([(6, 6), (7, 7), (8, 8)] : List (Nat × Nat)))) from by kernel_rfl] at h2
      rcases List.mem_append.1 h2 with h2 | h2
      · skip
        refine fin _ (List.all_eq_true.1 all189 c2 h2) ?_
        intro q hq
        simp only [List.mem_cons, List.not_mem_nil, or_false] at hq
        rcases hq with rfl | rfl | rfl
        · exact ⟨b0, (by show (1 : Int) ≤ 9; decide), (by show (9 : Int) ≤ 9223372036854775807; decide), e0⟩
        · exact ⟨b1, (by show (1 : Int) ≤ 10; decide), (by show (10 : Int) ≤ 9223372036854775807; decide), e1⟩
        · exact ⟨b2, (by show (1 : Int) ≤ 9; decide), (by show (9 : Int) ≤ 9223372036854775807; decide), e2⟩
      rcases List.mem_append.1 h2 with h2 | h2
      · skip
        refine fin _ (List.all_eq_true.1 all190 c2 h2) ?_
        intro q hq
        simp only [List.mem_cons, List.not_mem_nil, or_false] at hq
        rcases hq with rfl | rfl | rfl
        · exact ⟨b0, (by show (1 : Int) ≤ 9; decide), (by show (9 : Int) ≤ 9223372036854775807; decide), e0⟩
        · exact ⟨b1, (by show (1 : Int) ≤ 10; decide), (by show (10 : Int) ≤ 9223372036854775807; decide), e1⟩
        · exact ⟨b2, (by show (1 : Int) ≤ 9; decide), (by show (9 : Int) ≤ 9223372036854775807; decide), e2⟩
      refine fin _ (List.all_eq_true.1 all191 c2 h2) ?_
      intro q hq
      simp only [List.mem_cons, List.not_mem_nil, or_false] at hq
      rcases hq with rfl | rfl | rfl
      · exact ⟨b0, (by show (1 : Int) ≤ 9; decide), (by show (9 : Int) ≤ 9223372036854775807; decide), e0⟩
      · exact ⟨b1, (by show (1 : Int) ≤ 10; decide), (by show (10 : Int) ≤ 9223372036854775807; decide), e1⟩
      · exact ⟨b2, (by show (1 : Int) ≤ 9; decide), (by show (9 : Int) ≤ 9223372036854775807; decide), e2⟩
    · skip
      obtain ⟨c2, h2, e2⟩ := cover_get (t := 102) (n := 9) (l := ([(0, 0), (1, 1), (2, 2), (3, 3), (4, 4), (5, 5), (6, 6), (7, 7), (8, 8)] : List (Nat × Nat))) (by kernel_rfl) (a := a2) (by decide) rfl
      rw [show ([(0, 0), (1, 1), (2, 2), (3, 3), (4, 4), (5, 5), (6, 6), (7, 7), (8, 8)] : List (Nat × Nat)) = ([(0, 0), (1, 1), (2, 2)] : List (Nat × Nat)) ++ (([(3, 3), (4, 4), (5, 5)] : List (Nat × Nat)) ++ (([(6, 6), (7, 7), (8, 8)] : List (Nat × Nat)))) from by kernel_rfl] at h2
      rcases List.mem_append.1 h2 with h2 | h2
      · skip
        refine fin _ (List.all_eq_true.1 all192 c2 h2) ?_
        intro q hq
        simp only [List.mem_cons, List.not_mem_nil, or_false] at hq
        rcases hq with rfl | rfl | rfl
        · exact ⟨b0, (by show (1 : Int) ≤ 9; decide), (by show (9 : Int) ≤ 9223372036854775807; decide), e0⟩
        · exact ⟨b1, (by show (1 : Int) ≤ 10; decide), (by show (10 : Int) ≤ 9223372036854775807; decide), e1⟩
        · exact ⟨b2, (by show (1 : Int) ≤ 9; decide), (by show (9 : Int) ≤ 9223372036854775807; decide), e2⟩
      rcases List.mem_append.1 h2 with h2 | h2
      · skip
        refine fin _ (List.all_eq_true.1 all193 c2 h2) ?_
        intro q hq
        simp only [List.mem_cons, List.not_mem_nil, or_false] at hq
        rcases hq with rfl | rfl | rfl
        · exact ⟨b0, (by show (1 : Int) ≤ 9; decide), (by show (9 : Int) ≤ 9223372036854775807; decide), e0⟩
        · exact ⟨b1, (by show (1 : Int) ≤ 10; decide), (by show (10 : Int) ≤ 9223372036854775807; decide), e1⟩
        · exact ⟨b2, (by show (1 : Int) ≤ 9; decide), (by show (9 : Int) ≤ 9223372036854775807; decide), e2⟩
      refine fin _ (List.all_eq_true.1 all194 c2 h2) ?_
      intro q hq
      simp only [List.mem_cons, List.not_mem_nil, or_false] at hq
      rcases hq with rfl | rfl | rfl
      · exact ⟨b0, (by show (1 : Int) ≤ 9; decide), (by show (9 : Int) ≤ 9223372036854775807; decide), e0⟩
      · exact ⟨b1, (by show (1 : Int) ≤ 10; decide), (by show (10 : Int) ≤ 9223372036854775807; decide), e1⟩
      · exact ⟨b2, (by show (1 : Int) ≤ 9; decide), (by show (9 : Int) ≤ 9223372036854775807; decide), e2⟩
    · skip
      obtain ⟨c2, h2, e2⟩ := cover_get (t := 102) (n := 9) (l := ([(0, 0), (1, 1), (2, 2), (3, 3), (4, 4), (5, 5), (6, 6), (7, 7), (8, 8)] : List (Nat × Nat))) (by kernel_rfl) (a := a2) (by decide) rfl
      rw [show ([(0, 0), (1, 1), (2, 2), (3, 3), (4, 4), (5, 5), (6, 6), (7, 7), (8, 8)] : List (Nat × Nat)) = ([(0, 0), (1, 1), (2, 2)] : List (Nat × Nat)) ++ (([(3, 3), (4, 4), (5, 5)] : List (Nat × Nat)) ++ (([(6, 6), (7, 7), (8, 8)] : List (Nat × Nat)))) from by kernel_rfl] at h2
      rcases List.mem_append.1 h2 with h2 | h2
      · skip
        refine fin _ (List.all_eq_true.1 all195 c2 h2) ?_
        intro q hq
        simp only [List.mem_cons, List.not_mem_nil, or_false] at hq
        rcases hq with rfl | rfl | rfl
        · exact ⟨b0, (by show (1 : Int) ≤ 9; decide), (by show (9 : Int) ≤ 9223372036854775807; decide), e0⟩
        · exact ⟨b1, (by show (1 : Int) ≤ 10; decide), (by show (10 : Int) ≤ 9223372036854775807; decide), e1⟩
        · exact ⟨b2, (by show (1 : Int) ≤ 9; decide), (by show (9 : Int) ≤ 9223372036854775807; decide), e2⟩
      rcases List.mem_append.1 h2 with h2 | h2
      · skip
        refine fin _ (List.all_eq_true.1 all196 c2 h2) ?_
        intro q hq
        simp only [List.mem_cons, List.not_mem_nil, or_false] at hq
        rcases hq with rfl | rfl | rfl
        · exact ⟨b0, (by show (1 : Int) ≤ 9; decide), (by show (9 : Int) ≤ 9223372036854775807; decide), e0⟩
        · exact ⟨b1, (by show (1 : Int) ≤ 10; decide), (by show (10 : Int) ≤ 9223372036854775807; decide), e1⟩
        · exact ⟨b2, (by show (1 : Int) ≤ 9; decide), (by show (9 : Int) ≤ 9223372036854775807; decide), e2⟩
      refine fin _ (List.all_eq_true.1 all197 c2 h2) ?_
      intro q hq
      simp only [List.mem_cons, List.not_mem_nil, or_false] at hq
      rcases hq with rfl | rfl | rfl
      · exact ⟨b0, (by show (1 : Int) ≤ 9; decide), (by show (9 : Int) ≤ 9223372036854775807; decide), e0⟩
      · exact ⟨b1, (by show (1 : Int) ≤ 10; decide), (by show (10 : Int) ≤ 9223372036854775807; decide), e1⟩
      · exact ⟨b2, (by show (1 : Int) ≤ 9; decide), (by show (9 : Int) ≤ 9223372036854775807; decide), e2⟩
    · skip
      obtain ⟨c2, h2, e2⟩ := cover_get (t := 102) (n := 9) (l := ([(0, 0), (1, 1), (2, 2), (3, 3), (4, 4), (5, 5), (6, 6), (7, 7), (8, 8)] : List (Nat × Nat))) (by kernel_rfl) (a := a2) (by decide) rfl
      rw [show ([(0, 0), (1, 1), (2, 2), (3, 3), (4, 4), (5, 5), (6, 6), (7, 7), (8, 8)] : List (Nat × Nat)) = ([(0, 0), (1, 1), (2, 2)] : List (Nat × Nat)) ++ (([(3, 3), (4, 4), (5, 5)] : List (Nat × Nat)) ++ (([(6, 6), (7, 7), (8, 8)] : List (Nat × Nat)))) from by kernel_rfl] at h2
      rcases List.mem_append.1 h2 with h2 | h2
      · skip
        refine fin _ (List.all_eq_true.1 all198 c2 h2) ?_
        intro q hq
        simp only [List.mem_cons, List.not_mem_nil, or_false] at hq
        rcases hq with rfl | rfl | rfl
        · exact ⟨b0, (by show (1 : Int) ≤ 9; decide), (by show (9 : Int) ≤ 9223372036854775807; decide), e0⟩
        · exact ⟨b1, (by show (1 : Int) ≤ 10; decide), (by show (10 : Int) ≤ 9223372036854775807; decide), e1⟩
        · exact ⟨b2, (by show (1 : Int) ≤ 9; decide), (by show (9 : Int) ≤ 9223372036854775807; decide), e2⟩
      rcases List.mem_append.1 h2 with h2 | h2
      · skip
        refine fin _ (List.all_eq_true.1 all199 c2 h2) ?_
        intro q hq
        simp only [List.mem_cons, List.not_mem_nil, or_false] at hq
        rcases hq with rfl | rfl | rfl
        · exact ⟨b0, (by show (1 : Int) ≤ 9; decide), (by show (9 : Int) ≤ 9223372036854775807; decide), e0⟩
        · exact ⟨b1, (by show (1 : Int) ≤ 10; decide), (by show (10 : Int) ≤ 9223372036854775807; decide), e1⟩
        · exact ⟨b2, (by show (1 : Int) ≤ 9; decide), (by show (9 : Int) ≤ 9223372036854775807; decide), e2⟩
      refine fin _ (List.all_eq_true.1 all200 c2 h2) ?_
      intro q hq
      simp only [List.mem_cons, List.not_mem_nil, or_false] at hq
      rcases hq with rfl | rfl | rfl
      · exact ⟨b0, (by show (1 : Int) ≤ 9; decide), (by show (9 : Int) ≤ 9223372036854775807; decide), e0⟩
      · exact ⟨b1, (by show (1 : Int) ≤ 10; decide), (by show (10 : Int) ≤ 9223372036854775807; decide), e1⟩
      · exact ⟨b2, (by show (1 : Int) ≤ 9; decide), (by show (9 : Int) ≤ 9223372036854775807; decide), e2⟩
    · skip
      obtain ⟨c2, h2, e2⟩ := cover_get (t := 102) (n := 9) (l := ([(0, 0), (1, 1), (2, 2), (3, 3), (4, 4), (5, 5), (6, 6), (7, 7), (8, 8)] : List (Nat × Nat))) (by kernel_rfl) (a := a2) (by decide) rfl
      rw [show ([(0, 0), (1, 1), (2, 2), (3, 3), (4, 4), (5, 5), (6, 6), (7, 7), (8, 8)] : List (Nat × Nat)) = ([(0, 0), (1, 1), (2, 2)] : List (Nat × Nat)) ++ (([(3, 3), (4, 4), (5, 5)] : List (Nat × Nat)) ++ (([(6, 6), (7, 7), (8, 8)] : List (Nat × Nat)))) from by kernel_rfl] at h2
      rcases List.mem_append.1 h2 with h2 | h2
      · skip
        refine fin _ (List.all_eq_true.1 all201 c2 h2) ?_
        intro q hq
        simp only [List.mem_cons, List.not_mem_nil, or_false] at hq
        rcases hq with rfl | rfl | rfl
        · exact ⟨b0, (by show (1 : Int) ≤ 9; decide), (by show (9 : Int) ≤ 9223372036854775807; decide), e0⟩
        · exact ⟨b1, (by show (1 : Int) ≤ 10; decide), (by show (10 : Int) ≤ 9223372036854775807; decide), e1⟩
        · exact ⟨b2, (by show (1 : Int) ≤ 9; decide), (by show (9 : Int) ≤ 9223372036854775807; decide), e2⟩
      rcases List.mem_append.1 h2 with h2 | h2
      · skip
        refine fin _ (List.all_eq_true.1 all202 c2 h2) ?_
        intro q hq
        simp only [List.mem_cons, List.not_mem_nil, or_false] at hq
        rcases hq with rfl | rfl | rfl
        · exact ⟨b0, (by show (1 : Int) ≤ 9; decide), (by show (9 : Int) ≤ 9223372036854775807; decide), e0⟩
        · exact ⟨b1, (by show (1 : Int) ≤ 10; decide), (by show (10 : Int) ≤ 9223372036854775807; decide), e1⟩
        · exact ⟨b2, (by show (1 : Int) ≤ 9; decide), (by show (9 : Int) ≤ 9223372036854775807; decide), e2⟩
      refine fin _ (List.all_eq_true.1 all203 c2 h2) ?_
      intro q hq
      simp only [List.mem_cons, List.not_mem_nil, or_false] at hq
      rcases hq with rfl | rfl | rfl
      · exact ⟨b0, (by show (1 : Int) ≤ 9; decide), (by show (9 : Int) ≤ 9223372036854775807; decide), e0⟩
      · exact ⟨b1, (by show (1 : Int) ≤ 10; decide), (by show (10 : Int) ≤ 9223372036854775807; decide), e1⟩
      · exact ⟨b2, (by show (1 : Int) ≤ 9; decide), (by show (9 : Int) ≤ 9223372036854775807; decide), e2⟩
    · skip
      obtain ⟨c2, h2, e2⟩ := cover_get (t := 102) (n := 9) (l := ([(0, 0), (1, 1), (2, 2), (3, 3), (4, 4), (5, 5), (6, 6), (7, 7), (8, 8)] : List (Nat × Nat))) (by kernel_rfl) (a := a2) (by decide) rfl
      rw [show ([(0, 0), (1, 1), (2, 2), (3, 3), (4, 4), (5, 5), (6, 6), (7, 7), (8, 8)] : List (Nat × Nat)) = ([(0, 0), (1, 1), (2, 2)] : List (Nat × Nat)) ++ (([(3, 3), (4, 4), (5, 5)] : List (Nat × Nat)) ++ (([(6, 6), (7, 7), (8, 8)] : List (Nat × Nat)))) from by kernel_rfl] at h2
      rcases List.mem_append.1 h2 with h2 | h2
      · skip
        refine fin _ (List.all_eq_true.1 all204 c2 h2) ?_
        intro q hq
        simp only [List.mem_cons, List.not_mem_nil, or_false] at hq
        rcases hq with rfl | rfl | rfl
        · exact ⟨b0, (by show (1 : Int) ≤ 9; decide), (by show (9 : Int) ≤ 9223372036854775807; decide), e0⟩
        · exact ⟨b1, (by show (1 : Int) ≤ 10; decide), (by show (10 : Int) ≤ 9223372036854775807; decide), e1⟩
        · exact ⟨b2, (by show (1 : Int) ≤ 9; decide), (by show (9 : Int) ≤ 9223372036854775807; decide), e2⟩
      rcases List.mem_append.1 h2 with h2 | h2
      · skip
        refine fin _ (List.all_eq_true.1 all205 c2 h2) ?_
        intro q hq
        simp only [List.mem_cons, List.not_mem_nil, or_false] at hq
        rcases hq with rfl | rfl | rfl
        · exact ⟨b0, (by show (1 : Int) ≤ 9; decide), (by show (9 : Int) ≤ 9223372036854775807; decide), e0⟩
        · exact ⟨b1, (by show (1 : Int) ≤ 10; decide), (by show (10 : Int) ≤ 9223372036854775807; decide), e1⟩
        · exact ⟨b2, (by show (1 : Int) ≤ 9; decide), (by show (9 : Int) ≤ 9223372036854775807; decide), e2⟩
      refine fin _ (List.all_eq_true.1 all206 c2 h2) ?_
      intro q hq
      simp only [List.mem_cons, List.not_mem_nil, or_false] at hq
      rcases hq with rfl | rfl | rfl
      · exact ⟨b0, (by show (1 : Int) ≤ 9; decide), (by show (9 : Int) ≤ 9223372036854775807; decide), e0⟩
      · exact ⟨b1, (by show (1 : Int) ≤ 10; decide), (by show (10 : Int) ≤ 9223372036854775807; decide), e1⟩
      · exact ⟨b2, (by show (1 : Int) ≤ 9; decide), (by show (9 : Int) ≤ 9223372036854775807; decide), e2⟩
    · skip
      obtain ⟨c2, h2, e2⟩ := cover_get (t := 102) (n := 9) (l := ([(0, 0), (1, 1), (2, 2), (3, 3), (4, 4), (5, 5), (6, 6), (7, 7), (8, 8)] : List (Nat × Nat))) (by kernel_rfl) (a := a2) (by decide) rfl
      rw [show ([(0, 0), (1, 1), (2, 2), (3, 3), (4, 4), (5, 5), (6, 6), (7, 7), (8, 8)] : List (Nat × Nat)) = ([(0, 0), (1, 1), (2, 2)] : List (Nat × Nat)) ++ (([(3, 3), (4, 4), (5, 5)] : List (Nat × Nat)) ++ (([(6, 6), (7, 7), (8, 8)] : List (Nat × Nat)))) from by kernel_rfl] at h2
      rcases List.mem_append.1 h2 with h2 | h2
      · skip
        refine fin _ (List.all_eq_true.1 all207 c2 h2) ?_
        intro q hq
        simp only [List.mem_cons, List.not_mem_nil, or_false] at hq
        rcases hq with rfl | rfl | rfl
        · exact ⟨b0, (by show (1 : Int) ≤ 9; decide), (by show (9 : Int) ≤ 9223372036854775807; decide), e0⟩
        · exact ⟨b1, (by show (1 : Int) ≤ 10; decide), (by show (10 : Int) ≤ 9223372036854775807; decide), e1⟩
        · exact ⟨b2, (by show (1 : Int) ≤ 9; decide), (by show (9 : Int) ≤ 9223372036854775807; decide), e2⟩
      rcases List.mem_append.1 h2 with h2 | h2
      · skip
        refine fin _ (List.all_eq_true.1 all208 c2 h2) ?_
        intro q hq
        simp only [List.mem_cons, List.not_mem_nil, or_false] at hq
        rcases hq with rfl | rfl | rfl
        · exact ⟨b0, (by show (1 : Int) ≤ 9; decide), (by show (9 : Int) ≤ 9223372036854775807; decide), e0⟩
        · exact ⟨b1, (by show (1 : Int) ≤ 10; decide), (by show (10 : Int) ≤ 9223372036854775807; decide), e1⟩
        · exact ⟨b2, (by show (1 : Int) ≤ 9; decide), (by show (9 : Int) ≤ 9223372036854775807; decide), e2⟩
      refine fin _ (List.all_eq_true.1 all209 c2 h2) ?_
      intro q hq
      simp only [List.mem_cons, List.not_mem_nil, or_false] at hq
      rcases hq with rfl | rfl | rfl
      · exact ⟨b0, (by show (1 : Int) ≤ 9; decide), (by show (9 : Int) ≤ 9223372036854775807; decide), e0⟩
      · exact ⟨b1, (by show (1 : Int) ≤ 10; decide), (by show (10 : Int) ≤ 9223372036854775807; decide), e1⟩
      · exact ⟨b2, (by show (1 : Int) ≤ 9; decide), (by show (9 : Int) ≤ 9223372036854775807; decide), e2⟩
  · skip
    obtain ⟨c1, h1, e1⟩ := cover_get (t := 101) (n := 10) (l := ([(0, 0), (1, 1), (2, 2), (3, 3), (4, 4), (5, 5), (6, 6), (7, 7), (8, 8), (9, 9)] : List (Nat × Nat))) (by kernel_rfl) (a := a1) (by decide) rfl
    simp only [List.mem_cons, List.not_mem_nil, or_false] at h1
    rcases h1 with rfl | rfl | rfl | rfl | rfl | rfl | rfl | rfl | rfl | rfl
    · skip
      obtain ⟨c2, h2, e2⟩ := cover_get (t := 102) (n := 9) (l := ([(0, 0), (1, 1), (2, 2), (3, 3), (4, 4), (5, 5), (6, 6), (7, 7), (8, 8)] : List (Nat × Nat))) (by kernel_rfl) (a := a2) (by decide) rfl
      rw [show ([(0, 0), (1, 1), (2, 2), (3, 3), (4, 4), (5, 5), (6, 6), (7, 7), (8, 8)] : List (Nat × Nat)) = ([(0, 0), (1, 1), (2, 2)] : List (Nat × Nat)) ++ (([(3, 3), (4, 4), (5, 5)] : List (Nat × Nat)) ++ (([(6, 6), (7, 7), (8, 8)] : List (Nat × Nat)))) from by kernel_rfl] at h2
      rcases List.mem_append.1 h2 with h2 | h2
      · skip
        refine fin _ (List.all_eq_true.1 all210 c2 h2) ?_
        intro q hq
        simp only [List.mem_cons, List.not_mem_nil, or_false] at hq
        rcases hq with rfl | rfl | rfl
        · exact ⟨b0, (by show (1 : Int) ≤ 9; decide), (by show (9 : Int) ≤ 9223372036854775807; decide), e0⟩
        · exact ⟨b1, (by show (1 : Int) ≤ 10; decide), (by show (10 : Int) ≤ 9223372036854775807; decide), e1⟩
        · exact ⟨b2, (by show (1 : Int) ≤ 9; decide), (by show (9 : Int) ≤ 9223372036854775807; decide), e2⟩
      rcases List.mem_append.1 h2 with h2 | h2
      · skip
        refine fin _ (List.all_eq_true.1 all211 c2 h2) ?_
        intro q hq
        simp only [List.mem_cons, List.not_mem_nil, or_false] at hq
        rcases hq with rfl | rfl | rfl
        · exact ⟨b0, (by show (1 : Int) ≤ 9; decide), (by show (9 : Int) ≤ 9223372036854775807; decide), e0⟩
        · exact ⟨b1, (by show (1 : Int) ≤ 10; decide), (by show (10 : Int) ≤ 9223372036854775807; decide), e1⟩
        · exact ⟨b2, (by show (1 : Int) ≤ 9; decide), (by show (9 : Int) ≤ 9223372036854775807; decide), e2⟩
      refine fin _ (List.all_eq_true.1 all212 c2 h2) ?_
      intro q hq
      simp only [List.mem_cons, List.not_mem_nil, or_false] at hq
      rcases hq with rfl | rfl | rfl
      · exact ⟨b0, (by show (1 : Int) ≤ 9; decide), (by show (9 : Int) ≤ 9223372036854775807; decide), e0⟩
      · exact ⟨b1, (by show (1 : Int) ≤ 10; decide), (by show (10 : Int) ≤ 9223372036854775807; decide), e1⟩
      · exact ⟨b2, (by show (1 : Int) ≤ 9; decide), (by show (9 : Int) ≤ 9223372036854775807; decide), e2⟩
    · skip
      obtain ⟨c2, h2, e2⟩ := cover_get (t := 102) (n := 9) (l := ([(0, 0), (1, 1), (2, 2), (3, 3), (4, 4), (5, 5), (6, 6), (7, 7), (8, 8)] : List (Nat × Nat))) (by kernel_rfl) (a := a2) (by decide) rfl
      rw [show ([(0, 0), (1, 1), (2, 2), (3, 3), (4, 4), (5, 5), (6, 6), (7, 7), (8, 8)] : List (Nat × Nat)) = ([(0, 0), (1, 1), (2, 2)] : List (Nat × Nat)) ++ (([(3, 3), (4, 4), (5, 5)] : List (Nat × Nat)) ++ (([(6, 6), (7, 7), (8, 8)] : List (Nat × Nat)))) from by kernel_rfl] at h2
      rcases List.mem_append.1 h2 with h2 | h2
      · skip
        refine fin _ (List.all_eq_true.1 all213 c2 h2) ?_
        intro q hq
        simp only [List.mem_cons, List.not_mem_nil, or_false] at hq
        rcases hq with rfl | rfl | rfl
        · exact ⟨b0, (by show (1 : Int) ≤ 9; decide), (by show (9 : Int) ≤ 9223372036854775807; decide), e0⟩
        · exact ⟨b1, (by show (1 : Int) ≤ 10; decide), (by show (10 : Int) ≤ 9223372036854775807; decide), e1⟩
        · exact ⟨b2, (by show (1 : Int) ≤ 9; decide), (by show (9 : Int) ≤ 9223372036854775807; decide), e2⟩
      rcases List.mem_append.1 h2 with h2 | h2
      · skip
        refine fin _ (List.all_eq_true.1 all214 c2 h2) ?_
        intro q hq
        simp only [List.mem_cons, List.not_mem_nil, or_false] at hq
        rcases hq with rfl | rfl | rfl
        · exact ⟨b0, (by show (1 : Int) ≤ 9; decide), (by show (9 : Int) ≤ 9223372036854775807; decide), e0⟩
        · exact ⟨b1, (by show (1 : Int) ≤ 10; decide), (by show (10 : Int) ≤ 9223372036854775807; decide), e1⟩
        · exact ⟨b2, (by show (1 : Int) ≤ 9; decide), (by show (9 : Int) ≤ 9223372036854775807; decide), e2⟩
      refine fin _ (List.all_eq_true.1 all215 c2 h2) ?_
      intro q hq
      simp only [List.mem_cons, List.not_mem_nil, or_false] at hq
      rcases hq with rfl | rfl | rfl
      · exact ⟨b0, (by show (1 : Int) ≤ 9; decide), (by show (9 : Int) ≤ 9223372036854775807; decide), e0⟩
      · exact ⟨b1, (by show (1 : Int) ≤ 10; decide), (by show (10 : Int) ≤ 9223372036854775807; decide), e1⟩
      · exact ⟨b2, (by show (1 : Int) ≤ 9; decide), (by show (9 : Int) ≤ 9223372036854775807; decide), e2⟩
    · skip
      obtain ⟨c2, h2, e2⟩ := cover_get (t := 102) (n := 9) (l := ([(0, 0), (1, 1), (2, 2), (3, 3), (4, 4), (5, 5), (6, 6), (7, 7), (8, 8)] : List (Nat × Nat))) (by kernel_rfl) (a := a2) (by decide) rfl
      rw [show ([(0, 0), (1, 1), (2, 2), (3, 3), (4, 4), (5, 5), (6, 6), (7, 7), (8, 8)] : List (Nat × Nat)) = ([(0, 0), (1, 1), (2, 2)] : List (Nat × Nat)) ++ (([(3, 3), (4, 4), (5, 5)] : List (Nat × Nat)) ++ (([(6, 6), (7, 7), (8, 8)] : List (Nat × Nat)))) from by kernel_rfl] at h2
      rcases List.mem_append.1 h2 with h2 | h2
      · skip
        refine fin _ (List.all_eq_true.1 all216 c2 h2) ?_
        intro q hq
        simp only [List.mem_cons, List.not_mem_nil, or_false] at hq
        rcases hq with rfl | rfl | rfl
        · exact ⟨b0, (by show (1 : Int) ≤ 9; decide), (by show (9 : Int) ≤ 9223372036854775807; decide), e0⟩
        · exact ⟨b1, (by show (1 : Int) ≤ 10; decide), (by show (10 : Int) ≤ 9223372036854775807; decide), e1⟩
        · exact ⟨b2, (by show (1 : Int) ≤ 9; decide), (by show (9 : Int) ≤ 9223372036854775807; decide), e2⟩
      rcases List.mem_append.1 h2 with h2 | h2
      · skip
        refine fin _ (List.all_eq_true.1 all217 c2 h2) ?_
        intro q hq
        simp only [List.mem_cons, List.not_mem_nil, or_false] at hq
        rcases hq with rfl | rfl | rfl
        · exact ⟨b0, (by show (1 : Int) ≤ 9; decide), (by show (9 : Int) ≤ 9223372036854775807; decide), e0⟩
        · exact ⟨b1, (by show (1 : Int) ≤ 10; decide), (by show (10 : Int) ≤ 9223372036854775807; decide), e1⟩
        · exact ⟨b2, (by show (1 : Int) ≤ 9; decide), (by show (9 : Int) ≤ 9223372036854775807; decide), e2⟩
      refine fin _ (List.all_eq_true.1 all218 c2 h2) ?_
      intro q hq
      simp only [List.mem_cons, List.not_mem_nil, or_false] at hq
      rcases hq with rfl | rfl | rfl
      · exact ⟨b0, (by show (1 : Int) ≤ 9; decide), (by show (9 : Int) ≤ 9223372036854775807; decide), e0⟩
      · exact ⟨b1, (by show (1 : Int) ≤ 10; decide), (by show (10 : Int) ≤ 9223372036854775807; decide), e1⟩
      · exact ⟨b2, (by show (1 : Int) ≤ 9; decide), (by show (9 : Int) ≤ 9223372036854775807; decide), e2⟩
    · skip
      obtain ⟨c2, h2, e2⟩ := cover_get (t := 102) (n := 9) (l := ([(0, 0), (1, 1), (2, 2), (3, 3), (4, 4), (5, 5), (6, 6), (7, 7), (8, 8)] : List (Nat × Nat))) (by kernel_rfl) (a := a2) (by decide) rfl
      rw [show ([(0, 0), (1, 1), (2, 2), (3, 3), (4, 4), (5, 5), (6, 6), (7, 7), (8, 8)] : List (Nat × Nat)) = ([(0, 0), (1, 1), (2, 2)] : List (Nat × Nat)) ++ (([(3, 3), (4, 4), (5, 5)] : List (Nat × Nat)) ++ (([(6, 6), (7, 7), (8, 8)] : List (Nat × Nat)))) from by kernel_rfl] at h2
      rcases List.mem_append.1 h2 with h2 | h2
      · skip
        refine fin _ (List.all_eq_true.1 all219 c2 h2) ?_
        intro q hq
        simp only [List.mem_cons, List.not_mem_nil, or_false] at hq
        rcases hq with rfl | rfl | rfl
        · exact ⟨b0, (by show (1 : Int) ≤ 9; decide), (by show (9 : Int) ≤ 9223372036854775807; decide), e0⟩
        · exact ⟨b1, (by show (1 : Int) ≤ 10; decide), (by show (10 : Int) ≤ 9223372036854775807; decide), e1⟩
        · exact ⟨b2, (by show (1 : Int) ≤ 9; decide), (by show (9 : Int) ≤ 9223372036854775807; decide), e2⟩
      rcases List.mem_append.1 h2 with h2 | h2
      · skip
        refine fin _ (List.all_eq_true.1 all220 c2 h2) ?_
        intro q hq
        simp only [List.mem_cons, List.not_mem_nil, or_false] at hq
        rcases hq with rfl | rfl | rfl
        · exact ⟨b0, (by show (1 : Int) ≤ 9; decide), (by show (9 : Int) ≤ 9223372036854775807; decide), e0⟩
        · exact ⟨b1, (by show (1 : Int) ≤ 10; decide), (by show (10 : Int) ≤ 9223372036854775807; decide), e1⟩
        · exact ⟨b2, (by show (1 : Int) ≤ 9; decide), (by show (9 : Int) ≤ 9223372036854775807; decide), e2⟩
      refine fin _ (List.all_eq_true.1 all221 c2 h2) ?_
      intro q hq
      simp only [List.mem_cons, List.not_mem_nil, or_false] at hq
      rcases hq with rfl | rfl | rfl
      · exact ⟨b0, (by show (1 : Int) ≤ 9; decide), (by show (9 : Int) ≤ 9223372036854775807; decide), e0⟩
      · exact ⟨b1, (by show (1 : Int) ≤ 10; decide), (by show (10 : Int) ≤ 9223372036854775807; decide), e1⟩
      · exact ⟨b2, (by show (1 : Int) ≤ 9; decide), (by show (9 : Int) ≤ 9223372036854775807; decide), e2⟩
    · skip
      obtain ⟨c2, h2, e2⟩ := cover_get (t := 102) (n := 9) (l := ([(0, 0), (1, 1), (2, 2), (3, 3), (4, 4), (5, 5), (6, 6), (7, 7), (8, 8)] : List (Nat × Nat))) (by kernel_rfl) (a := a2) (by decide) rfl
      rw [show ([(0, 0), (1, 1), (2, 2), (3, 3), (4, 4), (5, 5), (6, 6), (7, 7), (8, 8)] : List (Nat × Nat)) = ([(0, 0), (1, 1), (2, 2)] : List (Nat × Nat)) ++ (([(3, 3), (4, 4), (5, 5)] : List (Nat × Nat)) ++ (([(6, 6), (7, 7), (8, 8)] : List (Nat × Nat)))) from by kernel_rfl] at h2
      rcases List.mem_append.1 h2 with h2 | h2
      · skip
        refine fin _ (List.all_eq_true.1 all222 c2 h2) ?_
        intro q hq
        simp only [List.mem_cons, List.not_mem_nil, or_false] at hq
        rcases hq with rfl | rfl | rfl
        · exact ⟨b0, (by show (1 : Int) ≤ 9; decide), (by show (9 : Int) ≤ 9223372036854775807; decide), e0⟩
        · exact ⟨b1, (by show (1 : Int) ≤ 10; decide), (by show (10 : Int) ≤ 9223372036854775807; decide), e1⟩
        · exact ⟨b2, (by show (1 : Int) ≤ 9; decide), (by show (9 : Int) ≤ 9223372036854775807; decide), e2⟩
      rcases List.mem_append.1 h2 with h2 | h2
      · skip
        refine fin _ (List.all_eq_true.1 all223 c2 h2) ?_
        intro q hq
        simp only [List.mem_cons, List.not_mem_nil, or_false] at hq
        rcases hq with rfl | rfl | rfl
        · exact ⟨b0, (by show (1 : Int) ≤ 9; decide), (by show (9 : Int) ≤ 9223372036854775807; decide), e0⟩
        · exact ⟨b1, (by show (1 : Int) ≤ 10; decide), (by show (10 : Int) ≤ 9223372036854775807; decide), e1⟩
        · exact ⟨b2, (by show (1 : Int) ≤ 9; decide), (by show (9 : Int) ≤ 9223372036854775807; decide), e2⟩
      refine fin _ (List.all_eq_true.1 all224 c2 h2) ?_
      intro q hq
      simp only [List.mem_cons, List.not_mem_nil, or_false] at hq
      rcases hq with rfl | rfl | rfl
      · exact ⟨b0, (by show (1 : Int) ≤ 9; decide), (by show (9 : Int) ≤ 9223372036854775807; decide), e0⟩
      · exact ⟨b1, (by show (1 : Int) ≤ 10; decide), (by show (10 : Int) ≤ 9223372036854775807; decide), e1⟩
      · exact ⟨b2, (by show (1 : Int) ≤ 9; decide), (by show (9 : Int) ≤ 9223372036854775807; decide), e2⟩
    · skip
      obtain ⟨c2, h2, e2⟩ := cover_get (t := 102) (n := 9) (l := ([(0, 0), (1, 1), (2, 2), (3, 3), (4, 4), (5, 5), (6, 6), (7, 7), (8, 8)] : List (Nat × Nat))) (by kernel_rfl) (a := a2) (by decide) rfl
      rw [show ([(0, 0), (1, 1), (2, 2), (3, 3), (4, 4), (5, 5), (6, 6), (7, 7), (8, 8)] : List (Nat × Nat)) = ([(0, 0), (1, 1), (2, 2)] : List (Nat × Nat)) ++ (([(3, 3), (4, 4), (5, 5)] : List (Nat × Nat)) ++ (([(6, 6), (7, 7), (8, 8)] : List (Nat × Nat)))) from by kernel_rfl] at h2
      rcases List.mem_append.1 h2 with h2 | h2
      · skip
        refine fin _ (List.all_eq_true.1 all225 c2 h2) ?_
        intro q hq
        simp only [List.mem_cons, List.not_mem_nil, or_false] at hq
        rcases hq with rfl | rfl | rfl
        · exact ⟨b0, (by show (1 : Int) ≤ 9; decide), (by show (9 : Int) ≤ 9223372036854775807; decide), e0⟩
        · exact ⟨b1, (by show (1 : Int) ≤ 10; decide), (by show (10 : Int) ≤ 9223372036854775807; decide), e1⟩
        · exact ⟨b2, (by show (1 : Int) ≤ 9; decide), (by show (9 : Int) ≤ 9223372036854775807; decide), e2⟩
      rcases List.mem_append.1 h2 with h2 | h2
      · skip
        refine fin _ (List.all_eq_true.1 all226 c2 h2) ?_
        intro q hq
        simp only [List.mem_cons, List.not_mem_nil, or_false] at hq
        rcases hq with rfl | rfl | rfl
        · exact ⟨b0, (by show (1 : Int) ≤ 9; decide), (by show (9 : Int) ≤ 9223372036854775807; decide), e0⟩
        · exact ⟨b1, (by show (1 : Int) ≤ 10; decide), (by show (10 : Int) ≤ 9223372036854775807; decide), e1⟩
        · exact ⟨b2, (by show (1 : Int) ≤ 9; decide), (by show (9 : Int) ≤ 9223372036854775807; decide), e2⟩
      refine fin _ (List.all_eq_true.1 all227 c2 h2) ?_
      intro q hq
      simp only [List.mem_cons, List.not_mem_nil, or_false] at hq
      rcases hq with rfl | rfl | rfl
      · exact ⟨b0, (by show (1 : Int) ≤ 9; decide), (by show (9 : Int) ≤ 9223372036854775807; decide), e0⟩
      · exact ⟨b1, (by show (1 : Int) ≤ 10; decide), (by show (10 : Int) ≤ 9223372036854775807; decide), e1⟩
      · exact ⟨b2, (by show (1 : Int) ≤ 9; decide), (by show (9 : Int) ≤ 9223372036854775807; decide), e2⟩
    · skip
      obtain ⟨c2, h2, e2⟩ := cover_get (t := 102) (n := 9) (l := ([(0, 0), (1, 1), (2, 2), (3, 3), (4, 4), (5, 5), (6, 6), (7, 7), (8, 8)] : List (Nat × Nat))) (by kernel_rfl) (a := a2) (by decide) rfl
      rw [show ([(0, 0), (1, 1), (2, 2), (3, 3), (4, 4), (5, 5), (6, 6), (7, 7), (8, 8)] : List (Nat × Nat)) = ([(0, 0), (1, 1), (2, 2)] : List (Nat × Nat)) ++ (([(3, 3), (4, 4), (5, 5)] : List (Nat × Nat)) ++ (([(6, 6), (7, 7), (8, 8)] : List (Nat × Nat)))) from by kernel_rfl] at h2
      rcases List.mem_append.1 h2 with h2 | h2
      · skip
        refine fin _ (List.all_eq_true.1 all228 c2 h2) ?_
        intro q hq
        simp only [List.mem_cons, List.not_mem_nil, or_false] at hq
        rcases hq with rfl | rfl | rfl
        · exact ⟨b0, (by show (1 : Int) ≤ 9; decide), (by show (9 : Int) ≤ 9223372036854775807; decide), e0⟩
        · exact ⟨b1, (by show (1 : Int) ≤ 10; decide), (by show (10 : Int) ≤ 9223372036854775807; decide), e1⟩
        · exact ⟨b2, (by show (1 : Int) ≤ 9; decide), (by show (9 : Int) ≤ 9223372036854775807; decide), e2⟩
      rcases List.mem_append.1 h2 with h2 | h2
      · skip
        refine fin _ (List.all_eq_true.1 all229 c2 h2) ?_
        intro q hq
        simp only [List.mem_cons, List.not_mem_nil, or_false] at hq
        rcases hq with rfl | rfl | rfl
        · exact ⟨b0, (by show (1 : Int) ≤ 9; decide), (by show (9 : Int) ≤ 9223372036854775807; decide), e0⟩
        · exact ⟨b1, (by show (1 : Int) ≤ 10; decide), (by show (10 : Int) ≤ 9223372036854775807; decide), e1⟩
        · exact ⟨b2, (by show (1 : Int) ≤ 9; decide), (by show (9 : Int) ≤ 9223372036854775807; decide), e2⟩
      refine fin _ (List.all_eq_true.1 all230 c2 h2) ?_
      intro q hq
      simp only [List.mem_cons, List.not_mem_nil, or_false] at hq
      rcases hq with rfl | rfl | rfl
      · exact ⟨b0, (by show (1 : Int) ≤ 9; decide), (by show (9 : Int) ≤ 9223372036854775807; decide), e0⟩
      · exact ⟨b1, (by show (1 : Int) ≤ 10; decide), (by show (10 : Int) ≤ 9223372036854775807; decide), e1⟩
      · exact ⟨b2, (by show (1 : Int) ≤ 9; decide), (by show (9 : Int) ≤ 9223372036854775807; decide), e2⟩
    · skip
      obtain ⟨c2, h2, e2⟩ := cover_get (t := 102) (n := 9) (l := ([(0, 0), (1, 1), (2, 2), (3, 3), (4, 4), (5, 5), (6, 6), (7, 7), (8, 8)] : List (Nat × Nat))) (by kernel_rfl) (a := a2) (by decide) rfl
      rw [show ([(0, 0), (1, 1), (2, 2), (3, 3), (4, 4), (5, 5), (6, 6), (7, 7), (8, 8)] : List (Nat × Nat)) = ([(0, 0), (1, 1), (2, 2)] : List (Nat × Nat)) ++ (([(3, 3), (4, 4), (5, 5)] : List (Nat × Nat)) ++ (([(6, 6), (7, 7), (8, 8)] : List (Nat × Nat)))) from by kernel_rfl] at h2
      rcases List.mem_append.1 h2 with h2 | h2
      · skip
        refine fin _ (List.all_eq_true.1 all231 c2 h2) ?_
        intro q hq
        simp only [List.mem_cons, List.not_mem_nil, or_false] at hq
        rcases hq with rfl | rfl | rfl
        · exact ⟨b0, (by show (1 : Int) ≤ 9; decide), (by show (9 : Int) ≤ 9223372036854775807; decide), e0⟩
        · exact ⟨b1, (by show (1 : Int) ≤ 10; decide), (by show (10 : Int) ≤ 9223372036854775807; decide), e1⟩
        · exact ⟨b2, (by show (1 : Int) ≤ 9; decide), (by show (9 : Int) ≤ 9223372036854775807; decide), e2⟩
      rcases List.mem_append.1 h2 with h2 | h2
      · skip
        refine fin _ (List.all_eq_true.1 all232 c2 h2) ?_
        intro q hq
        simp only [List.mem_cons, List.not_mem_nil, or_false] at hq
        rcases hq with rfl | rfl | rfl
        · exact ⟨b0, (by show (1 : Int) ≤ 9; decide), (by show (9 : Int) ≤ 9223372036854775807; decide), e0⟩
        · exact ⟨b1, (by show (1 : Int) ≤ 10; decide), (by show (10 : Int) ≤ 9223372036854775807; decide), e1⟩
        · exact ⟨b2, (by show (1 : Int) ≤ 9; decide), (by show (9 : Int) ≤ 9223372036854775807; decide), e2⟩
      refine fin _ (List.all_eq_true.1 all233 c2 h2) ?_
      intro q hq
      simp only [List.mem_cons, List.not_mem_nil, or_false] at hq
      rcases hq with rfl | rfl | rfl
      · exact ⟨b0, (by show (1 : Int) ≤ 9; decide), (by show (9 : Int) ≤ 9223372036854775807; decide), e0⟩
      · exact ⟨b1, (by show (1 : Int) ≤ 10; decide), (by show (10 : Int) ≤ 9223372036854775807; decide), e1⟩
      · exact ⟨b2, (by show (1 : Int) ≤ 9; decide), (by show (9 : Int) ≤ 9223372036854775807; decide), e2⟩
    · skip
      obtain ⟨c2, h2, e2⟩ := cover_get (t := 102) (n := 9) (l := ([(0, 0), (1, 1), (2, 2), (3, 3), (4, 4), (5, 5), (6, 6), (7, 7), (8, 8)] : List (Nat × Nat))) (by kernel_rfl) (a := a2) (by decide) rfl
      rw [show ([(0, 0), (1, 1), (2, 2), (3, 3), (4, 4), (5, 5), (6, 6), (7, 7), (8, 8)] : List (Nat × Nat)) = ([(0, 0), (1, 1), (2, 2)] : List (Nat × Nat)) ++ (([(3, 3), (4, 4), (5, 5)] : List (Nat × Nat)) ++ (([(6, 6), (7, 7), (8, 8)] : List (Nat × Nat)))) from by kernel_rfl] at h2
      rcases List.mem_append.1 h2 with h2 | h2
      · skip
        refine fin _ (List.all_eq_true.1 all234 c2 h2) ?_
        intro q hq
        simp only [List.mem_cons, List.not_mem_nil, or_false] at hq
        rcases hq with rfl | rfl | rfl
        · exact ⟨b0, (by show (1 : Int) ≤ 9; decide), (by show (9 : Int) ≤ 9223372036854775807; decide), e0⟩
        · exact ⟨b1, (by show (1 : Int) ≤ 10; decide), (by show (10 : Int) ≤ 9223372036854775807; decide), e1⟩
        · exact ⟨b2, (by show (1 : Int) ≤ 9; decide), (by show (9 : Int) ≤ 9223372036854775807; decide), e2⟩
      rcases List.mem_append.1 h2 with h2 | h2
      · skip
        refine fin _ (List.all_eq_true.1 all235 c2 h2) ?_
        intro q hq
        simp only [List.mem_cons, List.not_mem_nil, or_false] at hq
        rcases hq with rfl | rfl | rfl
        · exact ⟨b0, (by show (1 : Int) ≤ 9; decide), (by show (9 : Int) ≤ 9223372036854775807; decide), e0⟩
        · exact ⟨b1, (by show (1 : Int) ≤ 10; decide), (by show (10 : Int) ≤ 9223372036854775807; decide), e1⟩
        · exact ⟨b2, (by show (1 : Int) ≤ 9; decide), (by show (9 : Int) ≤ 9223372036854775807; decide), e2⟩
      refine fin _ (List.all_eq_true.1 all236 c2 h2) ?_
      intro q hq
      simp only [List.mem_cons, List.not_mem_nil, or_false] at hq
      rcases hq with rfl | rfl | rfl
      · exact ⟨b0, (by show (1 : Int) ≤ 9; decide), (by show (9 : Int) ≤ 9223372036854775807; decide), e0⟩
      · exact ⟨b1, (by show (1 : Int) ≤ 10; decide), (by show (10 : Int) ≤ 9223372036854775807; decide), e1⟩
      · exact ⟨b2, (by show (1 : Int) ≤ 9; decide), (by show (9 : Int) ≤ 9223372036854775807; decide), e2⟩
    · skip
      obtain ⟨c2, h2, e2⟩ := cover_get (t := 102) (n := 9) (l := ([(0, 0), (1, 1), (2, 2), (3, 3), (4, 4), (5, 5), (6, 6), (7, 7), (8, 8)] : List (Nat × Nat))) (by kernel_rfl) (a := a2) (by decide) rfl
      rw [show ([(0, 0), (1, 1), (2, 2), (3, 3), (4, 4), (5, 5), (6, 6), (7, 7), (8, 8)] : List (Nat × Nat)) = ([(0, 0), (1, 1), (2, 2)] : List (Nat × Nat)) ++ (([(3, 3), (4, 4), (5, 5)] : List (Nat × Nat)) ++ (([(6, 6), (7, 7), (8, 8)] : List (Nat × Nat)))) from by kernel_rfl] at h2
      rcases List.mem_append.1 h2 with h2 | h2
      · skip
        refine fin _ (List.all_eq_true.1 all237 c2 h2) ?_
        intro q hq
        simp only [List.mem_cons, List.not_mem_nil, or_false] at hq
        rcases hq with rfl | rfl | rfl
        · exact ⟨b0, (by show (1 : Int) ≤ 9; decide), (by show (9 : Int) ≤ 9223372036854775807; decide), e0⟩
        · exact ⟨b1, (by show (1 : Int) ≤ 10; decide), (by show (10 : Int) ≤ 9223372036854775807; decide), e1⟩
        · exact ⟨b2, (by show (1 : Int) ≤ 9; decide), (by show (9 : Int) ≤ 9223372036854775807; decide), e2⟩
      rcases List.mem_append.1 h2 with h2 | h2
      · skip
        refine fin _ (List.all_eq_true.1 all238 c2 h2) ?_
        intro q hq
        simp only [List.mem_cons, List.not_mem_nil, or_false] at hq
        rcases hq with rfl | rfl | rfl
        · exact ⟨b0, (by show (1 : Int) ≤ 9; decide), (by show (9 : Int) ≤ 9223372036854775807; decide), e0⟩
        · exact ⟨b1, (by show (1 : Int) ≤ 10; decide), (by show (10 : Int) ≤ 9223372036854775807; decide), e1⟩
        · exact ⟨b2, (by show (1 : Int) ≤ 9; decide), (by show (9 : Int) ≤ 9223372036854775807; decide), e2⟩
      refine fin _ (List.all_eq_true.1 all239 c2 h2) ?_
      intro q hq
      simp only [List.mem_cons, List.not_mem_nil, or_false] at hq
      rcases hq with rfl | rfl | rfl
      · exact ⟨b0, (by show (1 : Int) ≤ 9; decide), (by show (9 : Int) ≤ 9223372036854775807; decide), e0⟩
      · exact ⟨b1, (by show (1 : Int) ≤ 10; decide), (by show (10 : Int) ≤ 9223372036854775807; decide), e1⟩
      · exact ⟨b2, (by show (1 : Int) ≤ 9; decide), (by show (9 : Int) ≤ 9223372036854775807; decide), e2⟩
  · skip
    obtain ⟨c1, h1, e1⟩ := cover_get (t := 101) (n := 10) (l := ([(0, 0), (1, 1), (2, 2), (3, 3), (4, 4), (5, 5), (6, 6), (7, 7), (8, 8), (9, 9)] : List (Nat × Nat))) (by kernel_rfl) (a := a1) (by decide) rfl
    simp only [List.mem_cons, List.not_mem_nil, or_false] at h1
    rcases h1 with rfl | rfl | rfl | rfl | rfl | rfl | rfl | rfl | rfl | rfl
    · skip
      obtain ⟨c2, h2, e2⟩ := cover_get (t := 102) (n := 9) (l := ([(0, 0), (1, 1), (2, 2), (3, 3), (4, 4), (5, 5), (6, 6), (7, 7), (8, 8)] : List (Nat × Nat))) (by kernel_rfl) (a := a2) (by decide) rfl
      rw [show ([(0, 0), (1, 1), (2, 2), (3, 3), (4, 4), (5, 5), (6, 6), (7, 7), (8, 8)] : List (Nat × Nat)) = ([(0, 0), (1, 1), (2, 2)] : List (Nat × Nat)) ++ (([(3, 3), (4, 4), (5, 5)] : List (Nat × Nat)) ++ (([(6, 6), (7, 7), (8, 8)] : List (Nat × Nat)))) from by kernel_rfl] at h2
      rcases List.mem_append.1 h2 with h2 | h2
      · skip
        refine fin _ (List.all_eq_true.1 all240 c2 h2) ?_
        intro q hq
        simp only [List.mem_cons, List.not_mem_nil, or_false] at hq
        rcases hq with rfl | rfl | rfl
        · exact ⟨b0, (by show (1 : Int) ≤ 9; decide), (by show (9 : Int) ≤ 9223372036854775807; decide), e0⟩
        · exact ⟨b1, (by show (1 : Int) ≤ 10; decide), (by show (10 : Int) ≤ 9223372036854775807; decide), e1⟩
        · exact ⟨b2, (by show (1 : Int) ≤ 9; decide), (by show (9 : Int) ≤ 9223372036854775807; decide), e2⟩
      rcases List.mem_append.1 h2 with h2 | h2
      · skip
        refine fin _ (List.all_eq_true.1 all241 c2 h2) ?_
        intro q hq
        simp only [List.mem_cons, List.not_mem_nil, or_false] at hq
        rcases hq with rfl | rfl | rfl
        · exact ⟨b0, (by show (1 : Int) ≤ 9; decide), (by show (9 : Int) ≤ 9223372036854775807; decide), e0⟩
        · exact ⟨b1, (by show (1 : Int) ≤ 10; decide), (by show (10 : Int) ≤ 9223372036854775807; decide), e1⟩
        · exact ⟨b2, (by show (1 : Int) ≤ 9; decide), (by show (9 : Int) ≤ 9223372036854775807; decide), e2⟩
      refine fin _ (List.all_eq_true.1 all242 c2 h2) ?_
      intro q hq
      simp only [List.mem_cons, List.not_mem_nil, or_false] at hq
      rcases hq with rfl | rfl | rfl
      · exact ⟨b0, (by show (1 : Int) ≤ 9; decide), (by show (9 : Int) ≤ 9223372036854775807; decide), e0⟩
      · exact ⟨b1, (by show (1 : Int) ≤ 10; decide), (by show (10 : Int) ≤ 9223372036854775807; decide), e1⟩
      · exact ⟨b2, (by show (1 : Int) ≤ 9; decide), (by show (9 : Int) ≤ 9223372036854775807; decide), e2⟩
    · skip
      obtain ⟨c2, h2, e2⟩ := cover_get (t := 102) (n := 9) (l := ([(0, 0), (1, 1), (2, 2), (3, 3), (4, 4), (5, 5), (6, 6), (7, 7), (8, 8)] : List (Nat × Nat))) (by kernel_rfl) (a := a2) (by decide) rfl
      rw [show ([(0, 0), (1, 1), (2, 2), (3, 3), (4, 4), (5, 5), (6, 6), (7, 7), (8, 8)] : List (Nat × Nat)) = ([(0, 0), (1, 1), (2, 2)] : List (Nat × Nat)) ++ (([(3, 3), (4, 4), (5, 5)] : List (Nat × Nat)) ++ (([(6, 6), (7, 7), (8, 8)] : List (Nat × Nat)))) from by kernel_rfl] at h2
      rcases List.mem_append.1 h2 with h2 | h2
      · skip
        refine fin _ (List.all_eq_true.1 all243 c2 h2) ?_
        intro q hq
        simp only [List.mem_cons, List.not_mem_nil, or_false] at hq
        rcases hq with rfl | rfl | rfl
        · exact ⟨b0, (by show (1 : Int) ≤ 9; decide), (by show (9 : Int) ≤ 9223372036854775807; decide), e0⟩
        · exact ⟨b1, (by show (1 : Int) ≤ 10; decide), (by show (10 : Int) ≤ 9223372036854775807; decide), e1⟩
        · exact ⟨b2, (by show (1 : Int) ≤ 9; decide), (by show (9 : Int) ≤ 9223372036854775807; decide), e2⟩
      rcases List.mem_append.1 h2 with h2 | h2
      · skip
        refine fin _ (List.all_eq_true.1 all244 c2 h2) ?_
        intro q hq
        simp only [List.mem_cons, List.not_mem_nil, or_false] at hq
        rcases hq with rfl | rfl | rfl
        · exact ⟨b0, (by show (1 : Int) ≤ 9; decide), (by show (9 : Int) ≤ 9223372036854775807; decide), e0⟩
        · exact ⟨b1, (by show (1 : Int) ≤ 10; decide), (by show (10 : Int) ≤ 9223372036854775807; decide), e1⟩
        · exact ⟨b2, (by show (1 : Int) ≤ 9; decide), (by show (9 : Int) ≤ 9223372036854775807; decide), e2⟩
      refine fin _ (List.all_eq_true.1 all245 c2 h2) ?_
      intro q hq
      simp only [List.mem_cons, List.not_mem_nil, or_false] at hq
      rcases hq with rfl | rfl | rfl
      · exact ⟨b0, (by show (1 : Int) ≤ 9; decide), (by show (9 : Int) ≤ 9223372036854775807; decide), e0⟩
      · exact ⟨b1, (by show (1 : Int) ≤ 10; decide), (by show (10 : Int) ≤ 9223372036854775807; decide), e1⟩
      · exact ⟨b2, (by show (1 : Int) ≤ 9; decide), (by show (9 : Int) ≤ 9223372036854775807; decide), e2⟩
    · skip
      obtain ⟨c2, h2, e2⟩ := cover_get (t := 102) (n := 9) (l := ([(0, 0), (1, 1), (2, 2), (3, 3), (4, 4), (5, 5), (6, 6), (7, 7), (8, 8)] : List (Nat × Nat))) (by kernel_rfl) (a := a2) (by decide) rfl
      rw [show ([(0, 0), (1, 1), (2, 2), (3, 3), (4, 4), (5, 5), (6, 6), (7, 7), (8, 8)] : List (Nat × Nat)) = ([(0, 0), (1, 1), (2, 2)] : List (Nat × Nat)) ++ (([(3, 3), (4, 4), (5, 5)] : List (Nat × Nat)) ++ (([(6, 6), (7, 7), (8, 8)] : List (Nat × Nat)))) from by kernel_rfl] at h2
      rcases List.mem_append.1 h2 with h2 | h2
      · skip
        refine fin _ (List.all_eq_true.1 all246 c2 h2) ?_
        intro q hq
        simp only [List.mem_cons, List.not_mem_nil, or_false] at hq
        rcases hq with rfl | rfl | rfl
        · exact ⟨b0, (by show (1 : Int) ≤ 9; decide), (by show (9 : Int) ≤ 9223372036854775807; decide), e0⟩
        · exact ⟨b1, (by show (1 : Int) ≤ 10; decide), (by show (10 : Int) ≤ 9223372036854775807; decide), e1⟩
        · exact ⟨b2, (by show (1 : Int) ≤ 9; decide), (by show (9 : Int) ≤ 9223372036854775807; decide), e2⟩
      rcases List.mem_append.1 h2 with h2 | h2
      · skip
        refine fin _ (List.all_eq_true.1 all247 c2 h2) ?_
        intro q hq
        simp only [List.mem_cons, List.not_mem_nil, or_false] at hq
        rcases hq with rfl | rfl | rfl
        · exact ⟨b0, (by show (1 : Int) ≤ 9; decide), (by show (9 : Int) ≤ 9223372036854775807; decide), e0⟩
        · exact ⟨b1, (by show (1 : Int) ≤ 10; decide), (by show (10 : Int) ≤ 9223372036854775807; decide), e1⟩
        · exact ⟨b2, (by show (1 : Int) ≤ 9; decide), (by show (9 : Int) ≤ 9223372036854775807; decide), e2⟩
      refine fin _ (List.all_eq_true.1 all248 c2 h2) ?_
      intro q hq
      simp only [List.mem_cons, List.not_mem_nil, or_false] at hq
      rcases hq with rfl | rfl | rfl
      · exact ⟨b0, (by show (1 : Int) ≤ 9; decide), (by show (9 : Int) ≤ 9223372036854775807; decide), e0⟩
      · exact ⟨b1, (by show (1 : Int) ≤ 10; decide), (by show (10 : Int) ≤ 9223372036854775807; decide), e1⟩
      · exact ⟨b2, (by show (1 : Int) ≤ 9; decide), (by show (9 : Int) ≤ 9223372036854775807; decide), e2⟩
    · skip
      obtain ⟨c2, h2, e2⟩ := cover_get (t := 102) (n := 9) (l := ([(0, 0), (1, 1), (2, 2), (3, 3), (4, 4), (5, 5), (6, 6), (7, 7), (8, 8)] : List (Nat × Nat))) (by kernel_rfl) (a := a2) (by decide) rfl
      rw [show ([(0, 0), (1, 1), (2, 2), (3, 3), (4, 4), (5, 5), (6, 6), (7, 7), (8, 8)] : List (Nat × Nat)) = ([(0, 0), (1, 1), (2, 2)] : List (Nat × Nat)) ++ (([(3, 3), (4, 4), (5, 5)] : List (Nat × Nat)) ++ (([(6, 6), (7, 7), (8, 8)] : List (Nat × Nat)))) from by kernel_rfl] at h2
      rcases List.mem_append.1 h2 with h2 | h2
      · skip
        refine fin _ (List.all_eq_true.1 all249 c2 h2) ?_
        intro q hq
        simp only [List.mem_cons, List.not_mem_nil, or_false] at hq
        rcases hq with rfl | rfl | rfl
        · exact ⟨b0, (by show (1 : Int) ≤ 9; decide), (by show (9 : Int) ≤ 9223372036854775807; decide), e0⟩
        · exact ⟨b1, (by show (1 : Int) ≤ 10; decide), (by show (10 : Int) ≤ 9223372036854775807; decide), e1⟩
        · exact ⟨b2, (by show (1 : Int) ≤ 9; decide), (by show (9 : Int) ≤ 9223372036854775807; decide), e2⟩
      rcases List.mem_append.1 h2 with h2 | h2
      · skip
        refine fin _ (List.all_eq_true.1 all250 c2 h2) ?_
        intro q hq
        simp only [List.mem_cons, List.not_mem_nil, or_false] at hq
        rcases hq with rfl | rfl | rfl
        · exact ⟨b0, (by show (1 : Int) ≤ 9; decide), (by show (9 : Int) ≤ 9223372036854775807; decide), e0⟩
        · exact ⟨b1, (by show (1 : Int) ≤ 10; decide), (by show (10 : Int) ≤ 9223372036854775807; decide), e1⟩
        · exact ⟨b2, (by show (1 : Int) ≤ 9; decide), (by show (9 : Int) ≤ 9223372036854775807; decide), e2⟩
      refine fin _ (List.all_eq_true.1 all251 c2 h2) ?_
      intro q hq
      simp only [List.mem_cons, List.not_mem_nil, or_false] at hq
      rcases hq with rfl | rfl | rfl
      · exact ⟨b0, (by show (1 : Int) ≤ 9; decide), (by show (9 : Int) ≤ 9223372036854775807; decide), e0⟩
      · exact ⟨b1, (by show (1 : Int) ≤ 10; decide), (by show (10 : Int) ≤ 9223372036854775807; decide), e1⟩
      · exact ⟨b2, (by show (1 : Int) ≤ 9; decide), (by show (9 : Int) ≤ 9223372036854775807; decide), e2⟩
    · skip
      obtain ⟨c2, h2, e2⟩ := cover_get (t := 102) (n := 9) (l := ([(0, 0), (1, 1), (2, 2), (3, 3), (4, 4), (5, 5), (6, 6), (7, 7), (8, 8)] : List (Nat × Nat))) (by kernel_rfl) (a := a2) (by decide) rfl
      rw [show ([(0, 0), (1, 1), (2, 2), (3, 3), (4, 4), (5, 5), (6, 6), (7, 7), (8, 8)] : List (Nat × Nat)) = ([(0, 0), (1, 1), (2, 2)] : List (Nat × Nat)) ++ (([(3, 3), (4, 4), (5, 5)] : List (Nat × Nat)) ++ (([(6, 6), (7, 7), (8, 8)] : List (Nat × Nat)))) from by kernel_rfl] at h2
      rcases List.mem_append.1 h2 with h2 | h2
      · skip
        refine fin _ (List.all_eq_true.1 all252 c2 h2) ?_
        intro q hq
        simp only [List.mem_cons, List.not_mem_nil, or_false] at hq
        rcases hq with rfl | rfl | rfl
        · exact ⟨b0, (by show (1 : Int) ≤ 9; decide), (by show (9 : Int) ≤ 9223372036854775807; decide), e0⟩
        · exact ⟨b1, (by show (1 : Int) ≤ 10; decide), (by show (10 : Int) ≤ 9223372036854775807; decide), e1⟩
        · exact ⟨b2, (by show (1 : Int) ≤ 9; decide), (by show (9 : Int) ≤ 9223372036854775807; decide), e2⟩
      rcases List.mem_append.1 h2 with h2 | h2
      · skip
        refine fin _ (List.all_eq_true.1 all253 c2 h2) ?_
        intro q hq
        simp only [List.mem_cons, List.not_mem_nil, or_false] at hq
        rcases hq with rfl | rfl | rfl
        · exact ⟨b0, (by show (1 : Int) ≤ 9; decide), (by show (9 : Int) ≤ 9223372036854775807; decide), e0⟩
        · exact ⟨b1, (by show (1 : Int) ≤ 10; decide), (by show (10 : Int) ≤ 9223372036854775807; decide), e1⟩
        · exact ⟨b2, (by show (1 : Int) ≤ 9; decide), (by show (9 : Int) ≤ 9223372036854775807; decide), e2⟩
      refine fin _ (List.all_eq_true.1 all254 c2 h2) ?_
      intro q hq
      simp only [List.mem_cons, List.not_mem_nil, or_false] at hq
      rcases hq with rfl | rfl | rfl
      · exact ⟨b0, (by show (1 : Int) ≤ 9; decide), (by show (9 : Int) ≤ 9223372036854775807; decide), e0⟩
      · exact ⟨b1, (by show (1 : Int) ≤ 10; decide), (by show (10 : Int) ≤ 9223372036854775807; decide), e1⟩
      · exact ⟨b2, (by show (1 : Int) ≤ 9; decide), (by show (9 : Int) ≤ 9223372036854775807; decide), e2⟩
    · skip
      obtain ⟨c2, h2, e2⟩ := cover_get (t := 102) (n := 9) (l := ([(0, 0), (1, 1), (2, 2), (3, 3), (4, 4), (5, 5), (6, 6), (7, 7), (8, 8)] : List (Nat × Nat))) (by kernel_rfl) (a := a2) (by decide) rfl
      rw [show ([(0, 0), (1, 1), (2, 2), (3, 3), (4, 4), (5, 5), (6, 6), (7, 7), (8, 8)] : List (Nat × Nat)) = ([(0, 0), (1, 1), (2, 2)] : List (Nat × Nat)) ++ (([(3, 3), (4, 4), (5, 5)] : List (Nat × Nat)) ++ (([(6, 6), (7, 7), (8, 8)] : List (Nat × Nat)))) from by kernel_rfl] at h2
      rcases List.mem_append.1 h2 with h2 | h2
      · skip
        refine fin _ (List.all_eq_true.1 all255 c2 h2) ?_
        intro q hq
        simp only [List.mem_cons, List.not_mem_nil, or_false] at hq
        rcases hq with rfl | rfl | rfl
        · exact ⟨b0, (by show (1 : Int) ≤ 9; decide), (by show (9 : Int) ≤ 9223372036854775807; decide), e0⟩
        · exact ⟨b1, (by show (1 : Int) ≤ 10; decide), (by show (10 : Int) ≤ 9223372036854775807; decide), e1⟩
        · exact ⟨b2, (by show (1 : Int) ≤ 9; decide), (by show (9 : Int) ≤ 9223372036854775807; decide), e2⟩
      rcases List.mem_append.1 h2 with h2 | h2
      · skip
        refine fin _ (List.all_eq_true.1 all256 c2 h2) ?_
        intro q hq
        simp only [List.mem_cons, List.not_mem_nil, or_false] at hq
        rcases hq with rfl | rfl | rfl
        · exact ⟨b0, (by show (1 : Int) ≤ 9; decide), (by show (9 : Int) ≤ 9223372036854775807; decide), e0⟩
        · exact ⟨b1, (by show (1 : Int) ≤ 10; decide), (by show (10 : Int) ≤ 9223372036854775807; decide), e1⟩
        · exact ⟨b2, (by show (1 : Int) ≤ 9; decide), (by show (9 : Int) ≤ 9223372036854775807; decide), e2⟩
      refine fin _ (List.all_eq_true.1 all257 c2 h2) ?_
      intro q hq
      simp only [List.mem_cons, List.not_mem_nil, or_false] at hq
      rcases hq with rfl | rfl | rfl
      · exact ⟨b0, (by show (1 : Int) ≤ 9; decide), (by show (9 : Int) ≤ 9223372036854775807; decide), e0⟩
      · exact ⟨b1, (by show (1 : Int) ≤ 10; decide), (by show (10 : Int) ≤ 9223372036854775807; decide), e1⟩
      · exact ⟨b2, (by show (1 : Int) ≤ 9; decide), (by show (9 : Int) ≤ 9223372036854775807; decide), e2⟩
    · skip
      obtain ⟨c2, h2, e2⟩ := cover_get (t := 102) (n := 9) (l := ([(0, 0), (1, 1), (2, 2), (3, 3), (4, 4), (5, 5), (6, 6), (7, 7), (8, 8)] : List (Nat × Nat))) (by kernel_rfl) (a := a2) (by decide) rfl
      rw [show ([(0, 0), (1, 1), (2, 2), (3, 3), (4, 4), (5, 5), (6, 6), (7, 7), (8, 8)] : List (Nat × Nat)) = ([(0, 0), (1, 1), (2, 2)] : List (Nat × Nat)) ++ (([(3, 3), (4, 4), (5, 5)] : List (Nat × Nat)) ++ (([(6, 6), (7, 7), (8, 8)] : List (Nat × Nat)))) from by kernel_rfl] at h2
      rcases List.mem_append.1 h2 with h2 | h2
      · skip
        refine fin _ (List.all_eq_true.1 all258 c2 h2) ?_
        intro q hq
        simp only [List.mem_cons, List.not_mem_nil, or_false] at hq
        rcases hq with rfl | rfl | rfl
        · exact ⟨b0, (by show (1 : Int) ≤ 9; decide), (by show (9 : Int) ≤ 9223372036854775807; decide), e0⟩
        · exact ⟨b1, (by show (1 : Int) ≤ 10; decide), (by show (10 : Int) ≤ 9223372036854775807; decide), e1⟩
        · exact ⟨b2, (by show (1 : Int) ≤ 9; decide), (by show (9 : Int) ≤ 9223372036854775807; decide), e2⟩
      rcases List.mem_append.1 h2 with h2 | h2
      · skip
        refine fin _ (List.all_eq_true.1 all259 c2 h2) ?_
        intro q hq
        simp only [List.mem_cons, List.not_mem_nil, or_false] at hq
        rcases hq with rfl | rfl | rfl
        · exact ⟨b0, (by show (1 : Int) ≤ 9; decide), (by show (9 : Int) ≤ 9223372036854775807; decide), e0⟩
        · exact ⟨b1, (by show (1 : Int) ≤ 10; decide), (by show (10 : Int) ≤ 9223372036854775807; decide), e1⟩
        · exact ⟨b2, (by show (1 : Int) ≤ 9; decide), (by show (9 : Int) ≤ 9223372036854775807; decide), e2⟩
      refine fin _ (List.all_eq_true.1 all260 c2 h2) ?_
      intro q hq
      simp only [List.mem_cons, List.not_mem_nil, or_false] at hq
      rcases hq with rfl | rfl | rfl
      · exact ⟨b0, (by show (1 : Int) ≤ 9; decide), (by show (9 : Int) ≤ 9223372036854775807; decide), e0⟩
      · exact ⟨b1, (by show (1 : Int) ≤ 10; decide), (by show (10 : Int) ≤ 9223372036854775807; decide), e1⟩
      · exact ⟨b2, (by show (1 : Int) ≤ 9; decide), (by show (9 : Int) ≤ 9223372036854775807; decide), e2⟩
    · skip
      obtain ⟨c2, h2, e2⟩ := cover_get (t := 102) (n := 9) (l := ([(0, 0), (1, 1), (2, 2), (3, 3), (4, 4), (5, 5), (6, 6), (7, 7), (8, 8)] : List (Nat × Nat))) (by kernel_rfl) (a := a2) (by decide) rfl
      rw [show ([(0, 0), (1, 1), (2, 2), (3, 3), (4, 4), (5, 5), (6, 6), (7, 7), (8, 8)] : List (Nat × Nat)) = ([(0, 0), (1, 1), (2, 2)] : List (Nat × Nat)) ++ (([(3, 3), (4, 4), (5, 5)] : List (Nat × Nat)) ++ (([(6, 6), (7, 7), (8, 8)] : List (Nat × Nat)))) from by kernel_rfl] at h2
      rcases List.mem_append.1 h2 with h2 | h2
      · skip
        refine fin _ (List.all_eq_true.1 all261 c2 h2) ?_
        intro q hq
        simp only [List.mem_cons, List.not_mem_nil, or_false] at hq
        rcases hq with rfl | rfl | rfl
        · exact ⟨b0, (by show (1 : Int) ≤ 9; decide), (by show (9 : Int) ≤ 9223372036854775807; decide), e0⟩
        · exact ⟨b1, (by show (1 : Int) ≤ 10; decide), (by show (10 : Int) ≤ 9223372036854775807; decide), e1⟩
        · exact ⟨b2, (by show (1 : Int) ≤ 9; decide), (by show (9 : Int) ≤ 9223372036854775807; decide), e2⟩
      rcases List.mem_append.1 h2 with h2 | h2
      · skip
        refine fin _ (List.all_eq_true.1 all262 c2 h2) ?_
        intro q hq
        simp only [List.mem_cons, List.not_mem_nil, or_false] at hq
        rcases hq with rfl | rfl | rfl
        · exact ⟨b0, (by show (1 : Int) ≤ 9; decide), (by show (9 : Int) ≤ 9223372036854775807; decide), e0⟩
        · exact ⟨b1, (by show (1 : Int) ≤ 10; decide), (by show (10 : Int) ≤ 9223372036854775807; decide), e1⟩
        · exact ⟨b2, (by show (1 : Int) ≤ 9; decide), (by show (9 : Int) ≤ 9223372036854775807; decide), e2⟩
      refine fin _ (List.all_eq_true.1 all263 c2 h2) ?_
      intro q hq
      simp only [List.mem_cons, List.not_mem_nil, or_false] at hq
      rcases hq with rfl | rfl | rfl
      · exact ⟨b0, (by show (1 : Int) ≤ 9; decide), (by show (9 : Int) ≤ 9223372036854775807; decide), e0⟩
      · exact ⟨b1, (by show (1 : Int) ≤ 10; decide), (by show (10 : Int) ≤ 9223372036854775807; decide), e1⟩
      · exact ⟨b2, (by show (1 : Int) ≤ 9; decide), (by show (9 : Int) ≤ 9223372036854775807; decide), e2⟩
    · skip
      obtain ⟨c2, h2, e2⟩ := cover_get (t := 102) (n := 9) (l := ([(0, 0), (1, 1), (2, 2), (3, 3), (4, 4), (5, 5), (6, 6), (7, 7), (8, 8)] : List (Nat × Nat))) (by kernel_rfl) (a := a2) (by decide) rfl
      rw [show ([(0, 0), (1, 1), (2, 2), (3, 3), (4, 4), (5, 5), (6, 6), (7, 7), (8, 8)] : List (Nat × Nat)) = ([(0, 0), (1, 1), (2, 2)] : List (Nat × Nat)) ++ (([(3, 3), (4, 4), (5, 5)] : List (Nat × Nat)) ++ (([(6, 6), (7, 7), (8, 8)] : List (Nat × Nat)))) from by kernel_rfl] at h2
      rcases List.mem_append.1 h2 with h2 | h2
      · skip
        refine fin _ (List.all_eq_true.1 all264 c2 h2) ?_
        intro q hq
        simp only [List.mem_cons, List.not_mem_nil, or_false] at hq
        rcases hq with rfl | rfl | rfl
        · exact ⟨b0, (by show (1 : Int) ≤ 9; decide), (by show (9 : Int) ≤ 9223372036854775807; decide), e0⟩
        · exact ⟨b1, (by show (1 : Int) ≤ 10; decide), (by show (10 : Int) ≤ 9223372036854775807; decide), e1⟩
        · exact ⟨b2, (by show (1 : Int) ≤ 9; decide), (by show (9 : Int) ≤ 9223372036854775807; decide), e2⟩
      rcases List.mem_append.1 h2 with h2 | h2
      · skip
        refine fin _ (List.all_eq_true.1 all265 c2 h2) ?_
        intro q hq
        simp only [List.mem_cons, List.not_mem_nil, or_false] at hq
        rcases hq with rfl | rfl | rfl
        · exact ⟨b0, (by show (1 : Int) ≤ 9; decide), (by show (9 : Int) ≤ 9223372036854775807; decide), e0⟩
        · exact ⟨b1, (by show (1 : Int) ≤ 10; decide), (by show (10 : Int) ≤ 9223372036854775807; decide), e1⟩
        · exact ⟨b2, (by show (1 : Int) ≤ 9; decide), (by show (9 : Int) ≤ 9223372036854775807; decide), e2⟩
      refine fin _ (List.all_eq_true.1 all266 c2 h2) ?_
      intro q hq
      simp only [List.mem_cons, List.not_mem_nil, or_false] at hq
      rcases hq with rfl | rfl | rfl
      · exact ⟨b0, (by show (1 : Int) ≤ 9; decide), (by show (9 : Int) ≤ 9223372036854775807; decide), e0⟩
      · exact ⟨b1, (by show (1 : Int) ≤ 10; decide), (by show (10 : Int) ≤ 9223372036854775807; decide), e1⟩
      · exact ⟨b2, (by show (1 : Int) ≤ 9; decide), (by show (9 : Int) ≤ 9223372036854775807; decide), e2⟩
    · skip
      obtain ⟨c2, h2, e2⟩ := cover_get (t := 102) (n := 9) (l := ([(0, 0), (1, 1), (2, 2), (3, 3), (4, 4), (5, 5), (6, 6), (7, 7), (8, 8)] : List (Nat × Nat))) (by kernel_rfl) (a := a2) (by decide) rfl
      rw [show ([(0, 0), (1, 1), (2, 2), (3, 3), (4, 4), (5, 5), (6, 6), (7, 7), (8, 8)] : List (Nat × Nat)) = ([(0, 0), (1, 1), (2, 2)] : List (Nat × Nat)) ++ (([(3, 3), (4, 4), (5, 5)] : List (Nat × Nat)) ++ (([(6, 6), (7, 7), (8, 8)] : List (Nat × Nat)))) from by kernel_rfl] at h2
      rcases List.mem_append.1 h2 with h2 | h2
      · skip
        refine fin _ (List.all_eq_true.1 all267 c2 h2) ?_
        intro q hq
        simp only [List.mem_cons, List.not_mem_nil, or_false] at hq
        rcases hq with rfl | rfl | rfl
        · exact ⟨b0, (by show (1 : Int) ≤ 9; decide), (by show (9 : Int) ≤ 9223372036854775807; decide), e0⟩
        · exact ⟨b1, (by show (1 : Int) ≤ 10; decide), (by show (10 : Int) ≤ 9223372036854775807; decide), e1⟩
        · exact ⟨b2, (by show (1 : Int) ≤ 9; decide), (by show (9 : Int) ≤ 9223372036854775807; decide), e2⟩
      rcases List.mem_append.1 h2 with h2 | h2
      · skip
        refine fin _ (List.all_eq_true.1 all268 c2 h2) ?_
        intro q hq
        simp only [List.mem_cons, List.not_mem_nil, or_false] at hq
        rcases hq with rfl | rfl | rfl
        · exact ⟨b0, (by show (1 : Int) ≤ 9; decide), (by show (9 : Int) ≤ 9223372036854775807; decide), e0⟩
        · exact ⟨b1, (by show (1 : Int) ≤ 10; decide), (by show (10 : Int) ≤ 9223372036854775807; decide), e1⟩
        · exact ⟨b2, (by show (1 : Int) ≤ 9; decide), (by show (9 : Int) ≤ 9223372036854775807; decide), e2⟩
      refine fin _ (List.all_eq_true.1 all269 c2 h2) ?_
      intro q hq
      simp only [List.mem_cons, List.not_mem_nil, or_false] at hq
      rcases hq with rfl | rfl | rfl
      · exact ⟨b0, (by show (1 : Int) ≤ 9; decide), (by show (9 : Int) ≤ 9223372036854775807; decide), e0⟩
      · exact ⟨b1, (by show (1 : Int) ≤ 10; decide), (by show (10 : Int) ≤ 9223372036854775807; decide), e1⟩
      · exact ⟨b2, (by show (1 : Int) ≤ 9; decide), (by show (9 : Int) ≤ 9223372036854775807; decide), e2⟩
end Go.Proofs.Ytpfloofjnpgbeaa.scriptForms
