/- The walk of TopGone: the plain terms find it true, leaf by leaf. -/
import Derived.Test.YtpjhjjdhibnciaaGreatDoorTGW0
import Derived.Test.YtpjhjjdhibnciaaGreatDoorTGW1
import Derived.Test.YtpjhjjdhibnciaaGreatDoorTGW2
import Derived.Test.YtpjhjjdhibnciaaGreatDoorTGW3
import Derived.Test.YtpjhjjdhibnciaaGreatDoorTGW4
import Derived.Test.YtpjhjjdhibnciaaGreatDoorTGW5
import Derived.Test.YtpjhjjdhibnciaaGreatDoorTGW6
import Derived.Test.YtpjhjjdhibnciaaGreatDoorTGW7
import Derived.Test.YtpjhjjdhibnciaaGreatDoorTGW8
namespace Go.Proofs.YtpjhjjdhibnciaaGreatDoor.topGone
open Go.ChangeShapes Go.WideShapes Go.ChangeAt Go.RowKit
set_option maxRecDepth 1000000
set_option linter.unusedVariables false
theorem walk (a0 : Int) (a1 : Int) (a2 : Int) (a3 : Bool) (w : World) (b0 : -9223372036854775808 ≤ a0 ∧ a0 ≤ 9223372036854775807) (b1 : -9223372036854775808 ≤ a1 ∧ a1 ≤ 9223372036854775807) (b2 : -9223372036854775808 ≤ a2 ∧ a2 ≤ 9223372036854775807) :
    Calls Tryz.prog 10 #[.int .i64 a0, .int .i64 a1, .int .i64 a2, .bool a3] w fun e w' => e = .returned (.bool true) ∧ Below w.heap.size w w' := by
  letI : Toks := ⟨fun k => if k = 0 then a0 else if k = 1 then a1 else if k = 2 then a2 else if k = 100 then a2 % 3 else if k = 101 then a0 % 12 else if k = 102 then a1 % 9 else 0⟩
  have fin : ∀ (l : List (Nat × Nat × Nat × Nat × Nat)) (a3 : Bool), at_ a3 l = true → (∀ q ∈ l, (-9223372036854775808 ≤ Toks.A q.1 ∧ Toks.A q.1 ≤ 9223372036854775807) ∧ 1 ≤ (q.2.1 : Int) ∧ (q.2.1 : Int) ≤ 9223372036854775807 ∧ ∀ ρ : Ren, VR ρ (caseV q.2.2.1 (q.2.2.2.1, q.2.2.2.2)) (.int .i64 (Toks.A q.1 % (q.2.1 : Int)))) →
      Calls Tryz.prog 10 #[.int .i64 a0, .int .i64 a1, .int .i64 a2, .bool a3] w fun e w' => e = .returned (.bool true) ∧ Below w.heap.size w w' := by
    intro l a3 hc hok
    refine top_plain (okF := cfg l) tabAll_ok ⟨overW_ok (tabOf l) (fun q hq => ?_) fun q hq => ?_, summAll_ok, summAll_mono⟩ mixed 3000 60 w ?_ hc
    · obtain ⟨x, hx, rfl⟩ := List.mem_map.1 hq
      exact (hok x hx).1
    · obtain ⟨x, hx, rfl⟩ := List.mem_map.1 hq
      exact (hok x hx).2
    · exact .cons (rfl) (.cons (rfl) (.cons (rfl) (.cons (VR.flat rfl) .nil)))
  cases a3
  · skip
    obtain ⟨c0, h0, e0⟩ := cover_get (t := 100) (n := 3) (l := ([(0, 0), (1, 1), (2, 2)] : List (Nat × Nat))) (by kernel_rfl) (a := a2) (by decide) rfl
    simp only [List.mem_cons, List.not_mem_nil, or_false] at h0
    rcases h0 with rfl | rfl | rfl
    · skip
      obtain ⟨c1, h1, e1⟩ := cover_get (t := 101) (n := 12) (l := ([(0, 0), (1, 1), (2, 2), (3, 3), (4, 4), (5, 5), (6, 6), (7, 7), (8, 8), (9, 9), (10, 10), (11, 11)] : List (Nat × Nat))) (by kernel_rfl) (a := a0) (by decide) rfl
      simp only [List.mem_cons, List.not_mem_nil, or_false] at h1
      rcases h1 with rfl | rfl | rfl | rfl | rfl | rfl | rfl | rfl | rfl | rfl | rfl | rfl
      · skip
        obtain ⟨c2, h2, e2⟩ := cover_get (t := 102) (n := 9) (l := ([(0, 8)] : List (Nat × Nat))) (by kernel_rfl) (a := a1) (by decide) rfl
        refine fin _ false (List.all_eq_true.1 all0 c2 h2) ?_
        intro q hq
        simp only [List.mem_cons, List.not_mem_nil, or_false] at hq
        rcases hq with rfl | rfl | rfl
        · exact ⟨b2, (by show (1 : Int) ≤ 3; decide), (by show (3 : Int) ≤ 9223372036854775807; decide), e0⟩
        · exact ⟨b0, (by show (1 : Int) ≤ 12; decide), (by show (12 : Int) ≤ 9223372036854775807; decide), e1⟩
        · exact ⟨b1, (by show (1 : Int) ≤ 9; decide), (by show (9 : Int) ≤ 9223372036854775807; decide), e2⟩
      · skip
        obtain ⟨c2, h2, e2⟩ := cover_get (t := 102) (n := 9) (l := ([(0, 8)] : List (Nat × Nat))) (by kernel_rfl) (a := a1) (by decide) rfl
        refine fin _ false (List.all_eq_true.1 all1 c2 h2) ?_
        intro q hq
        simp only [List.mem_cons, List.not_mem_nil, or_false] at hq
        rcases hq with rfl | rfl | rfl
        · exact ⟨b2, (by show (1 : Int) ≤ 3; decide), (by show (3 : Int) ≤ 9223372036854775807; decide), e0⟩
        · exact ⟨b0, (by show (1 : Int) ≤ 12; decide), (by show (12 : Int) ≤ 9223372036854775807; decide), e1⟩
        · exact ⟨b1, (by show (1 : Int) ≤ 9; decide), (by show (9 : Int) ≤ 9223372036854775807; decide), e2⟩
      · skip
        obtain ⟨c2, h2, e2⟩ := cover_get (t := 102) (n := 9) (l := ([(0, 8)] : List (Nat × Nat))) (by kernel_rfl) (a := a1) (by decide) rfl
        refine fin _ false (List.all_eq_true.1 all2 c2 h2) ?_
        intro q hq
        simp only [List.mem_cons, List.not_mem_nil, or_false] at hq
        rcases hq with rfl | rfl | rfl
        · exact ⟨b2, (by show (1 : Int) ≤ 3; decide), (by show (3 : Int) ≤ 9223372036854775807; decide), e0⟩
        · exact ⟨b0, (by show (1 : Int) ≤ 12; decide), (by show (12 : Int) ≤ 9223372036854775807; decide), e1⟩
        · exact ⟨b1, (by show (1 : Int) ≤ 9; decide), (by show (9 : Int) ≤ 9223372036854775807; decide), e2⟩
      · skip
        obtain ⟨c2, h2, e2⟩ := cover_get (t := 102) (n := 9) (l := ([(0, 8)] : List (Nat × Nat))) (by kernel_rfl) (a := a1) (by decide) rfl
        refine fin _ false (List.all_eq_true.1 all3 c2 h2) ?_
        intro q hq
        simp only [List.mem_cons, List.not_mem_nil, or_false] at hq
        rcases hq with rfl | rfl | rfl
        · exact ⟨b2, (by show (1 : Int) ≤ 3; decide), (by show (3 : Int) ≤ 9223372036854775807; decide), e0⟩
        · exact ⟨b0, (by show (1 : Int) ≤ 12; decide), (by show (12 : Int) ≤ 9223372036854775807; decide), e1⟩
        · exact ⟨b1, (by show (1 : Int) ≤ 9; decide), (by show (9 : Int) ≤ 9223372036854775807; decide), e2⟩
      · skip
        obtain ⟨c2, h2, e2⟩ := cover_get (t := 102) (n := 9) (l := ([(0, 0), (1, 1), (2, 2), (3, 3), (4, 4), (5, 8)] : List (Nat × Nat))) (by kernel_rfl) (a := a1) (by decide) rfl
        rw [show ([(0, 0), (1, 1), (2, 2), (3, 3), (4, 4), (5, 8)] : List (Nat × Nat)) = ([(0, 0), (1, 1)] : List (Nat × Nat)) ++ (([(2, 2), (3, 3)] : List (Nat × Nat)) ++ (([(4, 4), (5, 8)] : List (Nat × Nat)))) from by kernel_rfl] at h2
        rcases List.mem_append.1 h2 with h2 | h2
        · skip
          refine fin _ false (List.all_eq_true.1 all4 c2 h2) ?_
          intro q hq
          simp only [List.mem_cons, List.not_mem_nil, or_false] at hq
          rcases hq with rfl | rfl | rfl
          · exact ⟨b2, (by show (1 : Int) ≤ 3; decide), (by show (3 : Int) ≤ 9223372036854775807; decide), e0⟩
          · exact ⟨b0, (by show (1 : Int) ≤ 12; decide), (by show (12 : Int) ≤ 9223372036854775807; decide), e1⟩
          · exact ⟨b1, (by show (1 : Int) ≤ 9; decide), (by show (9 : Int) ≤ 9223372036854775807; decide), e2⟩
        rcases List.mem_append.1 h2 with h2 | h2
        · skip
          refine fin _ false (List.all_eq_true.1 all5 c2 h2) ?_
          intro q hq
          simp only [List.mem_cons, List.not_mem_nil, or_false] at hq
          rcases hq with rfl | rfl | rfl
          · exact ⟨b2, (by show (1 : Int) ≤ 3; decide), (by show (3 : Int) ≤ 9223372036854775807; decide), e0⟩
          · exact ⟨b0, (by show (1 : Int) ≤ 12; decide), (by show (12 : Int) ≤ 9223372036854775807; decide), e1⟩
          · exact ⟨b1, (by show (1 : Int) ≤ 9; decide), (by show (9 : Int) ≤ 9223372036854775807; decide), e2⟩
        refine fin _ false (List.all_eq_true.1 all6 c2 h2) ?_
        intro q hq
        simp only [List.mem_cons, List.not_mem_nil, or_false] at hq
        rcases hq with rfl | rfl | rfl
        · exact ⟨b2, (by show (1 : Int) ≤ 3; decide), (by show (3 : Int) ≤ 9223372036854775807; decide), e0⟩
        · exact ⟨b0, (by show (1 : Int) ≤ 12; decide), (by show (12 : Int) ≤ 9223372036854775807; decide), e1⟩
        · exact ⟨b1, (by show (1 : Int) ≤ 9; decide), (by show (9 : Int) ≤ 9223372036854775807; decide), e2⟩
      · skip
        obtain ⟨c2, h2, e2⟩ := cover_get (t := 102) (n := 9) (l := ([(0, 8)] : List (Nat × Nat))) (by kernel_rfl) (a := a1) (by decide) rfl
        refine fin _ false (List.all_eq_true.1 all7 c2 h2) ?_
        intro q hq
        simp only [List.mem_cons, List.not_mem_nil, or_false] at hq
        rcases hq with rfl | rfl | rfl
        · exact ⟨b2, (by show (1 : Int) ≤ 3; decide), (by show (3 : Int) ≤ 9223372036854775807; decide), e0⟩
        · exact ⟨b0, (by show (1 : Int) ≤ 12; decide), (by show (12 : Int) ≤ 9223372036854775807; decide), e1⟩
        · exact ⟨b1, (by show (1 : Int) ≤ 9; decide), (by show (9 : Int) ≤ 9223372036854775807; decide), e2⟩
      · skip
        obtain ⟨c2, h2, e2⟩ := cover_get (t := 102) (n := 9) (l := ([(0, 0), (1, 1), (2, 2), (3, 3), (4, 4), (5, 8)] : List (Nat × Nat))) (by kernel_rfl) (a := a1) (by decide) rfl
        rw [show ([(0, 0), (1, 1), (2, 2), (3, 3), (4, 4), (5, 8)] : List (Nat × Nat)) = ([(0, 0), (1, 1)] : List (Nat × Nat)) ++ (([(2, 2), (3, 3)] : List (Nat × Nat)) ++ (([(4, 4), (5, 8)] : List (Nat × Nat)))) from by kernel_rfl] at h2
        rcases List.mem_append.1 h2 with h2 | h2
        · skip
          refine fin _ false (List.all_eq_true.1 all8 c2 h2) ?_
          intro q hq
          simp only [List.mem_cons, List.not_mem_nil, or_false] at hq
          rcases hq with rfl | rfl | rfl
          · exact ⟨b2, (by show (1 : Int) ≤ 3; decide), (by show (3 : Int) ≤ 9223372036854775807; decide), e0⟩
          · exact ⟨b0, (by show (1 : Int) ≤ 12; decide), (by show (12 : Int) ≤ 9223372036854775807; decide), e1⟩
          · exact ⟨b1, (by show (1 : Int) ≤ 9; decide), (by show (9 : Int) ≤ 9223372036854775807; decide), e2⟩
        rcases List.mem_append.1 h2 with h2 | h2
        · skip
          refine fin _ false (List.all_eq_true.1 all9 c2 h2) ?_
          intro q hq
          simp only [List.mem_cons, List.not_mem_nil, or_false] at hq
          rcases hq with rfl | rfl | rfl
          · exact ⟨b2, (by show (1 : Int) ≤ 3; decide), (by show (3 : Int) ≤ 9223372036854775807; decide), e0⟩
          · exact ⟨b0, (by show (1 : Int) ≤ 12; decide), (by show (12 : Int) ≤ 9223372036854775807; decide), e1⟩
          · exact ⟨b1, (by show (1 : Int) ≤ 9; decide), (by show (9 : Int) ≤ 9223372036854775807; decide), e2⟩
        refine fin _ false (List.all_eq_true.1 all10 c2 h2) ?_
        intro q hq
        simp only [List.mem_cons, List.not_mem_nil, or_false] at hq
        rcases hq with rfl | rfl | rfl
        · exact ⟨b2, (by show (1 : Int) ≤ 3; decide), (by show (3 : Int) ≤ 9223372036854775807; decide), e0⟩
        · exact ⟨b0, (by show (1 : Int) ≤ 12; decide), (by show (12 : Int) ≤ 9223372036854775807; decide), e1⟩
        · exact ⟨b1, (by show (1 : Int) ≤ 9; decide), (by show (9 : Int) ≤ 9223372036854775807; decide), e2⟩
      · skip
        obtain ⟨c2, h2, e2⟩ := cover_get (t := 102) (n := 9) (l := ([(0, 8)] : List (Nat × Nat))) (by kernel_rfl) (a := a1) (by decide) rfl
        refine fin _ false (List.all_eq_true.1 all11 c2 h2) ?_
        intro q hq
        simp only [List.mem_cons, List.not_mem_nil, or_false] at hq
        rcases hq with rfl | rfl | rfl
        · exact ⟨b2, (by show (1 : Int) ≤ 3; decide), (by show (3 : Int) ≤ 9223372036854775807; decide), e0⟩
        · exact ⟨b0, (by show (1 : Int) ≤ 12; decide), (by show (12 : Int) ≤ 9223372036854775807; decide), e1⟩
        · exact ⟨b1, (by show (1 : Int) ≤ 9; decide), (by show (9 : Int) ≤ 9223372036854775807; decide), e2⟩
      · skip
        obtain ⟨c2, h2, e2⟩ := cover_get (t := 102) (n := 9) (l := ([(0, 8)] : List (Nat × Nat))) (by kernel_rfl) (a := a1) (by decide) rfl
        refine fin _ false (List.all_eq_true.1 all12 c2 h2) ?_
        intro q hq
        simp only [List.mem_cons, List.not_mem_nil, or_false] at hq
        rcases hq with rfl | rfl | rfl
        · exact ⟨b2, (by show (1 : Int) ≤ 3; decide), (by show (3 : Int) ≤ 9223372036854775807; decide), e0⟩
        · exact ⟨b0, (by show (1 : Int) ≤ 12; decide), (by show (12 : Int) ≤ 9223372036854775807; decide), e1⟩
        · exact ⟨b1, (by show (1 : Int) ≤ 9; decide), (by show (9 : Int) ≤ 9223372036854775807; decide), e2⟩
      · skip
        obtain ⟨c2, h2, e2⟩ := cover_get (t := 102) (n := 9) (l := ([(0, 8)] : List (Nat × Nat))) (by kernel_rfl) (a := a1) (by decide) rfl
        refine fin _ false (List.all_eq_true.1 all13 c2 h2) ?_
        intro q hq
        simp only [List.mem_cons, List.not_mem_nil, or_false] at hq
        rcases hq with rfl | rfl | rfl
        · exact ⟨b2, (by show (1 : Int) ≤ 3; decide), (by show (3 : Int) ≤ 9223372036854775807; decide), e0⟩
        · exact ⟨b0, (by show (1 : Int) ≤ 12; decide), (by show (12 : Int) ≤ 9223372036854775807; decide), e1⟩
        · exact ⟨b1, (by show (1 : Int) ≤ 9; decide), (by show (9 : Int) ≤ 9223372036854775807; decide), e2⟩
      · skip
        obtain ⟨c2, h2, e2⟩ := cover_get (t := 102) (n := 9) (l := ([(0, 8)] : List (Nat × Nat))) (by kernel_rfl) (a := a1) (by decide) rfl
        refine fin _ false (List.all_eq_true.1 all14 c2 h2) ?_
        intro q hq
        simp only [List.mem_cons, List.not_mem_nil, or_false] at hq
        rcases hq with rfl | rfl | rfl
        · exact ⟨b2, (by show (1 : Int) ≤ 3; decide), (by show (3 : Int) ≤ 9223372036854775807; decide), e0⟩
        · exact ⟨b0, (by show (1 : Int) ≤ 12; decide), (by show (12 : Int) ≤ 9223372036854775807; decide), e1⟩
        · exact ⟨b1, (by show (1 : Int) ≤ 9; decide), (by show (9 : Int) ≤ 9223372036854775807; decide), e2⟩
      · skip
        obtain ⟨c2, h2, e2⟩ := cover_get (t := 102) (n := 9) (l := ([(0, 8)] : List (Nat × Nat))) (by kernel_rfl) (a := a1) (by decide) rfl
        refine fin _ false (List.all_eq_true.1 all15 c2 h2) ?_
        intro q hq
        simp only [List.mem_cons, List.not_mem_nil, or_false] at hq
        rcases hq with rfl | rfl | rfl
        · exact ⟨b2, (by show (1 : Int) ≤ 3; decide), (by show (3 : Int) ≤ 9223372036854775807; decide), e0⟩
        · exact ⟨b0, (by show (1 : Int) ≤ 12; decide), (by show (12 : Int) ≤ 9223372036854775807; decide), e1⟩
        · exact ⟨b1, (by show (1 : Int) ≤ 9; decide), (by show (9 : Int) ≤ 9223372036854775807; decide), e2⟩
    · skip
      obtain ⟨c1, h1, e1⟩ := cover_get (t := 101) (n := 12) (l := ([(0, 0), (1, 1), (2, 2), (3, 3), (4, 4), (5, 5), (6, 6), (7, 7), (8, 8), (9, 9), (10, 10), (11, 11)] : List (Nat × Nat))) (by kernel_rfl) (a := a0) (by decide) rfl
      simp only [List.mem_cons, List.not_mem_nil, or_false] at h1
      rcases h1 with rfl | rfl | rfl | rfl | rfl | rfl | rfl | rfl | rfl | rfl | rfl | rfl
      · skip
        obtain ⟨c2, h2, e2⟩ := cover_get (t := 102) (n := 9) (l := ([(0, 8)] : List (Nat × Nat))) (by kernel_rfl) (a := a1) (by decide) rfl
        refine fin _ false (List.all_eq_true.1 all16 c2 h2) ?_
        intro q hq
        simp only [List.mem_cons, List.not_mem_nil, or_false] at hq
        rcases hq with rfl | rfl | rfl
        · exact ⟨b2, (by show (1 : Int) ≤ 3; decide), (by show (3 : Int) ≤ 9223372036854775807; decide), e0⟩
        · exact ⟨b0, (by show (1 : Int) ≤ 12; decide), (by show (12 : Int) ≤ 9223372036854775807; decide), e1⟩
        · exact ⟨b1, (by show (1 : Int) ≤ 9; decide), (by show (9 : Int) ≤ 9223372036854775807; decide), e2⟩
      · skip
        obtain ⟨c2, h2, e2⟩ := cover_get (t := 102) (n := 9) (l := ([(0, 8)] : List (Nat × Nat))) (by kernel_rfl) (a := a1) (by decide) rfl
        refine fin _ false (List.all_eq_true.1 all17 c2 h2) ?_
        intro q hq
        simp only [List.mem_cons, List.not_mem_nil, or_false] at hq
        rcases hq with rfl | rfl | rfl
        · exact ⟨b2, (by show (1 : Int) ≤ 3; decide), (by show (3 : Int) ≤ 9223372036854775807; decide), e0⟩
        · exact ⟨b0, (by show (1 : Int) ≤ 12; decide), (by show (12 : Int) ≤ 9223372036854775807; decide), e1⟩
        · exact ⟨b1, (by show (1 : Int) ≤ 9; decide), (by show (9 : Int) ≤ 9223372036854775807; decide), e2⟩
      · skip
        obtain ⟨c2, h2, e2⟩ := cover_get (t := 102) (n := 9) (l := ([(0, 8)] : List (Nat × Nat))) (by kernel_rfl) (a := a1) (by decide) rfl
        refine fin _ false (List.all_eq_true.1 all18 c2 h2) ?_
        intro q hq
        simp only [List.mem_cons, List.not_mem_nil, or_false] at hq
        rcases hq with rfl | rfl | rfl
        · exact ⟨b2, (by show (1 : Int) ≤ 3; decide), (by show (3 : Int) ≤ 9223372036854775807; decide), e0⟩
        · exact ⟨b0, (by show (1 : Int) ≤ 12; decide), (by show (12 : Int) ≤ 9223372036854775807; decide), e1⟩
        · exact ⟨b1, (by show (1 : Int) ≤ 9; decide), (by show (9 : Int) ≤ 9223372036854775807; decide), e2⟩
      · skip
        obtain ⟨c2, h2, e2⟩ := cover_get (t := 102) (n := 9) (l := ([(0, 8)] : List (Nat × Nat))) (by kernel_rfl) (a := a1) (by decide) rfl
        refine fin _ false (List.all_eq_true.1 all19 c2 h2) ?_
        intro q hq
        simp only [List.mem_cons, List.not_mem_nil, or_false] at hq
        rcases hq with rfl | rfl | rfl
        · exact ⟨b2, (by show (1 : Int) ≤ 3; decide), (by show (3 : Int) ≤ 9223372036854775807; decide), e0⟩
        · exact ⟨b0, (by show (1 : Int) ≤ 12; decide), (by show (12 : Int) ≤ 9223372036854775807; decide), e1⟩
        · exact ⟨b1, (by show (1 : Int) ≤ 9; decide), (by show (9 : Int) ≤ 9223372036854775807; decide), e2⟩
      · skip
        obtain ⟨c2, h2, e2⟩ := cover_get (t := 102) (n := 9) (l := ([(0, 0), (1, 1), (2, 2), (3, 3), (4, 4), (5, 8)] : List (Nat × Nat))) (by kernel_rfl) (a := a1) (by decide) rfl
        rw [show ([(0, 0), (1, 1), (2, 2), (3, 3), (4, 4), (5, 8)] : List (Nat × Nat)) = ([(0, 0), (1, 1)] : List (Nat × Nat)) ++ (([(2, 2), (3, 3)] : List (Nat × Nat)) ++ (([(4, 4), (5, 8)] : List (Nat × Nat)))) from by kernel_rfl] at h2
        rcases List.mem_append.1 h2 with h2 | h2
        · skip
          refine fin _ false (List.all_eq_true.1 all20 c2 h2) ?_
          intro q hq
          simp only [List.mem_cons, List.not_mem_nil, or_false] at hq
          rcases hq with rfl | rfl | rfl
          · exact ⟨b2, (by show (1 : Int) ≤ 3; decide), (by show (3 : Int) ≤ 9223372036854775807; decide), e0⟩
          · exact ⟨b0, (by show (1 : Int) ≤ 12; decide), (by show (12 : Int) ≤ 9223372036854775807; decide), e1⟩
          · exact ⟨b1, (by show (1 : Int) ≤ 9; decide), (by show (9 : Int) ≤ 9223372036854775807; decide), e2⟩
        rcases List.mem_append.1 h2 with h2 | h2
        · skip
          refine fin _ false (List.all_eq_true.1 all21 c2 h2) ?_
          intro q hq
          simp only [List.mem_cons, List.not_mem_nil, or_false] at hq
          rcases hq with rfl | rfl | rfl
          · exact ⟨b2, (by show (1 : Int) ≤ 3; decide), (by show (3 : Int) ≤ 9223372036854775807; decide), e0⟩
          · exact ⟨b0, (by show (1 : Int) ≤ 12; decide), (by show (12 : Int) ≤ 9223372036854775807; decide), e1⟩
          · exact ⟨b1, (by show (1 : Int) ≤ 9; decide), (by show (9 : Int) ≤ 9223372036854775807; decide), e2⟩
        refine fin _ false (List.all_eq_true.1 all22 c2 h2) ?_
        intro q hq
        simp only [List.mem_cons, List.not_mem_nil, or_false] at hq
        rcases hq with rfl | rfl | rfl
        · exact ⟨b2, (by show (1 : Int) ≤ 3; decide), (by show (3 : Int) ≤ 9223372036854775807; decide), e0⟩
        · exact ⟨b0, (by show (1 : Int) ≤ 12; decide), (by show (12 : Int) ≤ 9223372036854775807; decide), e1⟩
        · exact ⟨b1, (by show (1 : Int) ≤ 9; decide), (by show (9 : Int) ≤ 9223372036854775807; decide), e2⟩
      · skip
        obtain ⟨c2, h2, e2⟩ := cover_get (t := 102) (n := 9) (l := ([(0, 8)] : List (Nat × Nat))) (by kernel_rfl) (a := a1) (by decide) rfl
        refine fin _ false (List.all_eq_true.1 all23 c2 h2) ?_
        intro q hq
        simp only [List.mem_cons, List.not_mem_nil, or_false] at hq
        rcases hq with rfl | rfl | rfl
        · exact ⟨b2, (by show (1 : Int) ≤ 3; decide), (by show (3 : Int) ≤ 9223372036854775807; decide), e0⟩
        · exact ⟨b0, (by show (1 : Int) ≤ 12; decide), (by show (12 : Int) ≤ 9223372036854775807; decide), e1⟩
        · exact ⟨b1, (by show (1 : Int) ≤ 9; decide), (by show (9 : Int) ≤ 9223372036854775807; decide), e2⟩
      · skip
        obtain ⟨c2, h2, e2⟩ := cover_get (t := 102) (n := 9) (l := ([(0, 0), (1, 1), (2, 2), (3, 3), (4, 4), (5, 8)] : List (Nat × Nat))) (by kernel_rfl) (a := a1) (by decide) rfl
        rw [show ([(0, 0), (1, 1), (2, 2), (3, 3), (4, 4), (5, 8)] : List (Nat × Nat)) = ([(0, 0), (1, 1)] : List (Nat × Nat)) ++ (([(2, 2), (3, 3)] : List (Nat × Nat)) ++ (([(4, 4), (5, 8)] : List (Nat × Nat)))) from by kernel_rfl] at h2
        rcases List.mem_append.1 h2 with h2 | h2
        · skip
          refine fin _ false (List.all_eq_true.1 all24 c2 h2) ?_
          intro q hq
          simp only [List.mem_cons, List.not_mem_nil, or_false] at hq
          rcases hq with rfl | rfl | rfl
          · exact ⟨b2, (by show (1 : Int) ≤ 3; decide), (by show (3 : Int) ≤ 9223372036854775807; decide), e0⟩
          · exact ⟨b0, (by show (1 : Int) ≤ 12; decide), (by show (12 : Int) ≤ 9223372036854775807; decide), e1⟩
          · exact ⟨b1, (by show (1 : Int) ≤ 9; decide), (by show (9 : Int) ≤ 9223372036854775807; decide), e2⟩
        rcases List.mem_append.1 h2 with h2 | h2
        · skip
          refine fin _ false (List.all_eq_true.1 all25 c2 h2) ?_
          intro q hq
          simp only [List.mem_cons, List.not_mem_nil, or_false] at hq
          rcases hq with rfl | rfl | rfl
          · exact ⟨b2, (by show (1 : Int) ≤ 3; decide), (by show (3 : Int) ≤ 9223372036854775807; decide), e0⟩
          · exact ⟨b0, (by show (1 : Int) ≤ 12; decide), (by show (12 : Int) ≤ 9223372036854775807; decide), e1⟩
          · exact ⟨b1, (by show (1 : Int) ≤ 9; decide), (by show (9 : Int) ≤ 9223372036854775807; decide), e2⟩
        refine fin _ false (List.all_eq_true.1 all26 c2 h2) ?_
        intro q hq
        simp only [List.mem_cons, List.not_mem_nil, or_false] at hq
        rcases hq with rfl | rfl | rfl
        · exact ⟨b2, (by show (1 : Int) ≤ 3; decide), (by show (3 : Int) ≤ 9223372036854775807; decide), e0⟩
        · exact ⟨b0, (by show (1 : Int) ≤ 12; decide), (by show (12 : Int) ≤ 9223372036854775807; decide), e1⟩
        · exact ⟨b1, (by show (1 : Int) ≤ 9; decide), (by show (9 : Int) ≤ 9223372036854775807; decide), e2⟩
      · skip
        obtain ⟨c2, h2, e2⟩ := cover_get (t := 102) (n := 9) (l := ([(0, 8)] : List (Nat × Nat))) (by kernel_rfl) (a := a1) (by decide) rfl
        refine fin _ false (List.all_eq_true.1 all27 c2 h2) ?_
        intro q hq
        simp only [List.mem_cons, List.not_mem_nil, or_false] at hq
        rcases hq with rfl | rfl | rfl
        · exact ⟨b2, (by show (1 : Int) ≤ 3; decide), (by show (3 : Int) ≤ 9223372036854775807; decide), e0⟩
        · exact ⟨b0, (by show (1 : Int) ≤ 12; decide), (by show (12 : Int) ≤ 9223372036854775807; decide), e1⟩
        · exact ⟨b1, (by show (1 : Int) ≤ 9; decide), (by show (9 : Int) ≤ 9223372036854775807; decide), e2⟩
      · skip
        obtain ⟨c2, h2, e2⟩ := cover_get (t := 102) (n := 9) (l := ([(0, 0), (1, 1), (2, 2), (3, 3), (4, 4), (5, 8)] : List (Nat × Nat))) (by kernel_rfl) (a := a1) (by decide) rfl
        rw [show ([(0, 0), (1, 1), (2, 2), (3, 3), (4, 4), (5, 8)] : List (Nat × Nat)) = ([(0, 0), (1, 1)] : List (Nat × Nat)) ++ (([(2, 2), (3, 3)] : List (Nat × Nat)) ++ (([(4, 4), (5, 8)] : List (Nat × Nat)))) from by kernel_rfl] at h2
        rcases List.mem_append.1 h2 with h2 | h2
        · skip
          refine fin _ false (List.all_eq_true.1 all28 c2 h2) ?_
          intro q hq
          simp only [List.mem_cons, List.not_mem_nil, or_false] at hq
          rcases hq with rfl | rfl | rfl
          · exact ⟨b2, (by show (1 : Int) ≤ 3; decide), (by show (3 : Int) ≤ 9223372036854775807; decide), e0⟩
          · exact ⟨b0, (by show (1 : Int) ≤ 12; decide), (by show (12 : Int) ≤ 9223372036854775807; decide), e1⟩
          · exact ⟨b1, (by show (1 : Int) ≤ 9; decide), (by show (9 : Int) ≤ 9223372036854775807; decide), e2⟩
        rcases List.mem_append.1 h2 with h2 | h2
        · skip
          refine fin _ false (List.all_eq_true.1 all29 c2 h2) ?_
          intro q hq
          simp only [List.mem_cons, List.not_mem_nil, or_false] at hq
          rcases hq with rfl | rfl | rfl
          · exact ⟨b2, (by show (1 : Int) ≤ 3; decide), (by show (3 : Int) ≤ 9223372036854775807; decide), e0⟩
          · exact ⟨b0, (by show (1 : Int) ≤ 12; decide), (by show (12 : Int) ≤ 9223372036854775807; decide), e1⟩
          · exact ⟨b1, (by show (1 : Int) ≤ 9; decide), (by show (9 : Int) ≤ 9223372036854775807; decide), e2⟩
        refine fin _ false (List.all_eq_true.1 all30 c2 h2) ?_
        intro q hq
        simp only [List.mem_cons, List.not_mem_nil, or_false] at hq
        rcases hq with rfl | rfl | rfl
        · exact ⟨b2, (by show (1 : Int) ≤ 3; decide), (by show (3 : Int) ≤ 9223372036854775807; decide), e0⟩
        · exact ⟨b0, (by show (1 : Int) ≤ 12; decide), (by show (12 : Int) ≤ 9223372036854775807; decide), e1⟩
        · exact ⟨b1, (by show (1 : Int) ≤ 9; decide), (by show (9 : Int) ≤ 9223372036854775807; decide), e2⟩
      · skip
        obtain ⟨c2, h2, e2⟩ := cover_get (t := 102) (n := 9) (l := ([(0, 8)] : List (Nat × Nat))) (by kernel_rfl) (a := a1) (by decide) rfl
        refine fin _ false (List.all_eq_true.1 all31 c2 h2) ?_
        intro q hq
        simp only [List.mem_cons, List.not_mem_nil, or_false] at hq
        rcases hq with rfl | rfl | rfl
        · exact ⟨b2, (by show (1 : Int) ≤ 3; decide), (by show (3 : Int) ≤ 9223372036854775807; decide), e0⟩
        · exact ⟨b0, (by show (1 : Int) ≤ 12; decide), (by show (12 : Int) ≤ 9223372036854775807; decide), e1⟩
        · exact ⟨b1, (by show (1 : Int) ≤ 9; decide), (by show (9 : Int) ≤ 9223372036854775807; decide), e2⟩
      · skip
        obtain ⟨c2, h2, e2⟩ := cover_get (t := 102) (n := 9) (l := ([(0, 8)] : List (Nat × Nat))) (by kernel_rfl) (a := a1) (by decide) rfl
        refine fin _ false (List.all_eq_true.1 all32 c2 h2) ?_
        intro q hq
        simp only [List.mem_cons, List.not_mem_nil, or_false] at hq
        rcases hq with rfl | rfl | rfl
        · exact ⟨b2, (by show (1 : Int) ≤ 3; decide), (by show (3 : Int) ≤ 9223372036854775807; decide), e0⟩
        · exact ⟨b0, (by show (1 : Int) ≤ 12; decide), (by show (12 : Int) ≤ 9223372036854775807; decide), e1⟩
        · exact ⟨b1, (by show (1 : Int) ≤ 9; decide), (by show (9 : Int) ≤ 9223372036854775807; decide), e2⟩
      · skip
        obtain ⟨c2, h2, e2⟩ := cover_get (t := 102) (n := 9) (l := ([(0, 8)] : List (Nat × Nat))) (by kernel_rfl) (a := a1) (by decide) rfl
        refine fin _ false (List.all_eq_true.1 all33 c2 h2) ?_
        intro q hq
        simp only [List.mem_cons, List.not_mem_nil, or_false] at hq
        rcases hq with rfl | rfl | rfl
        · exact ⟨b2, (by show (1 : Int) ≤ 3; decide), (by show (3 : Int) ≤ 9223372036854775807; decide), e0⟩
        · exact ⟨b0, (by show (1 : Int) ≤ 12; decide), (by show (12 : Int) ≤ 9223372036854775807; decide), e1⟩
        · exact ⟨b1, (by show (1 : Int) ≤ 9; decide), (by show (9 : Int) ≤ 9223372036854775807; decide), e2⟩
    · skip
      obtain ⟨c1, h1, e1⟩ := cover_get (t := 101) (n := 12) (l := ([(0, 0), (1, 1), (2, 2), (3, 3), (4, 4), (5, 5), (6, 6), (7, 7), (8, 8), (9, 9), (10, 10), (11, 11)] : List (Nat × Nat))) (by kernel_rfl) (a := a0) (by decide) rfl
      simp only [List.mem_cons, List.not_mem_nil, or_false] at h1
      rcases h1 with rfl | rfl | rfl | rfl | rfl | rfl | rfl | rfl | rfl | rfl | rfl | rfl
      · skip
        obtain ⟨c2, h2, e2⟩ := cover_get (t := 102) (n := 9) (l := ([(0, 8)] : List (Nat × Nat))) (by kernel_rfl) (a := a1) (by decide) rfl
        refine fin _ false (List.all_eq_true.1 all34 c2 h2) ?_
        intro q hq
        simp only [List.mem_cons, List.not_mem_nil, or_false] at hq
        rcases hq with rfl | rfl | rfl
        · exact ⟨b2, (by show (1 : Int) ≤ 3; decide), (by show (3 : Int) ≤ 9223372036854775807; decide), e0⟩
        · exact ⟨b0, (by show (1 : Int) ≤ 12; decide), (by show (12 : Int) ≤ 9223372036854775807; decide), e1⟩
        · exact ⟨b1, (by show (1 : Int) ≤ 9; decide), (by show (9 : Int) ≤ 9223372036854775807; decide), e2⟩
      · skip
        obtain ⟨c2, h2, e2⟩ := cover_get (t := 102) (n := 9) (l := ([(0, 8)] : List (Nat × Nat))) (by kernel_rfl) (a := a1) (by decide) rfl
        refine fin _ false (List.all_eq_true.1 all35 c2 h2) ?_
        intro q hq
        simp only [List.mem_cons, List.not_mem_nil, or_false] at hq
        rcases hq with rfl | rfl | rfl
        · exact ⟨b2, (by show (1 : Int) ≤ 3; decide), (by show (3 : Int) ≤ 9223372036854775807; decide), e0⟩
        · exact ⟨b0, (by show (1 : Int) ≤ 12; decide), (by show (12 : Int) ≤ 9223372036854775807; decide), e1⟩
        · exact ⟨b1, (by show (1 : Int) ≤ 9; decide), (by show (9 : Int) ≤ 9223372036854775807; decide), e2⟩
      · skip
        obtain ⟨c2, h2, e2⟩ := cover_get (t := 102) (n := 9) (l := ([(0, 8)] : List (Nat × Nat))) (by kernel_rfl) (a := a1) (by decide) rfl
        refine fin _ false (List.all_eq_true.1 all36 c2 h2) ?_
        intro q hq
        simp only [List.mem_cons, List.not_mem_nil, or_false] at hq
        rcases hq with rfl | rfl | rfl
        · exact ⟨b2, (by show (1 : Int) ≤ 3; decide), (by show (3 : Int) ≤ 9223372036854775807; decide), e0⟩
        · exact ⟨b0, (by show (1 : Int) ≤ 12; decide), (by show (12 : Int) ≤ 9223372036854775807; decide), e1⟩
        · exact ⟨b1, (by show (1 : Int) ≤ 9; decide), (by show (9 : Int) ≤ 9223372036854775807; decide), e2⟩
      · skip
        obtain ⟨c2, h2, e2⟩ := cover_get (t := 102) (n := 9) (l := ([(0, 8)] : List (Nat × Nat))) (by kernel_rfl) (a := a1) (by decide) rfl
        refine fin _ false (List.all_eq_true.1 all37 c2 h2) ?_
        intro q hq
        simp only [List.mem_cons, List.not_mem_nil, or_false] at hq
        rcases hq with rfl | rfl | rfl
        · exact ⟨b2, (by show (1 : Int) ≤ 3; decide), (by show (3 : Int) ≤ 9223372036854775807; decide), e0⟩
        · exact ⟨b0, (by show (1 : Int) ≤ 12; decide), (by show (12 : Int) ≤ 9223372036854775807; decide), e1⟩
        · exact ⟨b1, (by show (1 : Int) ≤ 9; decide), (by show (9 : Int) ≤ 9223372036854775807; decide), e2⟩
      · skip
        obtain ⟨c2, h2, e2⟩ := cover_get (t := 102) (n := 9) (l := ([(0, 0), (1, 1), (2, 2), (3, 3), (4, 4), (5, 8)] : List (Nat × Nat))) (by kernel_rfl) (a := a1) (by decide) rfl
        rw [show ([(0, 0), (1, 1), (2, 2), (3, 3), (4, 4), (5, 8)] : List (Nat × Nat)) = ([(0, 0), (1, 1)] : List (Nat × Nat)) ++ (([(2, 2), (3, 3)] : List (Nat × Nat)) ++ (([(4, 4), (5, 8)] : List (Nat × Nat)))) from by kernel_rfl] at h2
        rcases List.mem_append.1 h2 with h2 | h2
        · skip
          refine fin _ false (List.all_eq_true.1 all38 c2 h2) ?_
          intro q hq
          simp only [List.mem_cons, List.not_mem_nil, or_false] at hq
          rcases hq with rfl | rfl | rfl
          · exact ⟨b2, (by show (1 : Int) ≤ 3; decide), (by show (3 : Int) ≤ 9223372036854775807; decide), e0⟩
          · exact ⟨b0, (by show (1 : Int) ≤ 12; decide), (by show (12 : Int) ≤ 9223372036854775807; decide), e1⟩
          · exact ⟨b1, (by show (1 : Int) ≤ 9; decide), (by show (9 : Int) ≤ 9223372036854775807; decide), e2⟩
        rcases List.mem_append.1 h2 with h2 | h2
        · skip
          refine fin _ false (List.all_eq_true.1 all39 c2 h2) ?_
          intro q hq
          simp only [List.mem_cons, List.not_mem_nil, or_false] at hq
          rcases hq with rfl | rfl | rfl
          · exact ⟨b2, (by show (1 : Int) ≤ 3; decide), (by show (3 : Int) ≤ 9223372036854775807; decide), e0⟩
          · exact ⟨b0, (by show (1 : Int) ≤ 12; decide), (by show (12 : Int) ≤ 9223372036854775807; decide), e1⟩
          · exact ⟨b1, (by show (1 : Int) ≤ 9; decide), (by show (9 : Int) ≤ 9223372036854775807; decide), e2⟩
        refine fin _ false (List.all_eq_true.1 all40 c2 h2) ?_
        intro q hq
        simp only [List.mem_cons, List.not_mem_nil, or_false] at hq
        rcases hq with rfl | rfl | rfl
        · exact ⟨b2, (by show (1 : Int) ≤ 3; decide), (by show (3 : Int) ≤ 9223372036854775807; decide), e0⟩
        · exact ⟨b0, (by show (1 : Int) ≤ 12; decide), (by show (12 : Int) ≤ 9223372036854775807; decide), e1⟩
        · exact ⟨b1, (by show (1 : Int) ≤ 9; decide), (by show (9 : Int) ≤ 9223372036854775807; decide), e2⟩
      · skip
        obtain ⟨c2, h2, e2⟩ := cover_get (t := 102) (n := 9) (l := ([(0, 8)] : List (Nat × Nat))) (by kernel_rfl) (a := a1) (by decide) rfl
        refine fin _ false (List.all_eq_true.1 all41 c2 h2) ?_
        intro q hq
        simp only [List.mem_cons, List.not_mem_nil, or_false] at hq
        rcases hq with rfl | rfl | rfl
        · exact ⟨b2, (by show (1 : Int) ≤ 3; decide), (by show (3 : Int) ≤ 9223372036854775807; decide), e0⟩
        · exact ⟨b0, (by show (1 : Int) ≤ 12; decide), (by show (12 : Int) ≤ 9223372036854775807; decide), e1⟩
        · exact ⟨b1, (by show (1 : Int) ≤ 9; decide), (by show (9 : Int) ≤ 9223372036854775807; decide), e2⟩
      · skip
        obtain ⟨c2, h2, e2⟩ := cover_get (t := 102) (n := 9) (l := ([(0, 0), (1, 1), (2, 2), (3, 3), (4, 4), (5, 8)] : List (Nat × Nat))) (by kernel_rfl) (a := a1) (by decide) rfl
        rw [show ([(0, 0), (1, 1), (2, 2), (3, 3), (4, 4), (5, 8)] : List (Nat × Nat)) = ([(0, 0), (1, 1)] : List (Nat × Nat)) ++ (([(2, 2), (3, 3)] : List (Nat × Nat)) ++ (([(4, 4), (5, 8)] : List (Nat × Nat)))) from by kernel_rfl] at h2
        rcases List.mem_append.1 h2 with h2 | h2
        · skip
          refine fin _ false (List.all_eq_true.1 all42 c2 h2) ?_
          intro q hq
          simp only [List.mem_cons, List.not_mem_nil, or_false] at hq
          rcases hq with rfl | rfl | rfl
          · exact ⟨b2, (by show (1 : Int) ≤ 3; decide), (by show (3 : Int) ≤ 9223372036854775807; decide), e0⟩
          · exact ⟨b0, (by show (1 : Int) ≤ 12; decide), (by show (12 : Int) ≤ 9223372036854775807; decide), e1⟩
          · exact ⟨b1, (by show (1 : Int) ≤ 9; decide), (by show (9 : Int) ≤ 9223372036854775807; decide), e2⟩
        rcases List.mem_append.1 h2 with h2 | h2
        · skip
          refine fin _ false (List.all_eq_true.1 all43 c2 h2) ?_
          intro q hq
          simp only [List.mem_cons, List.not_mem_nil, or_false] at hq
          rcases hq with rfl | rfl | rfl
          · exact ⟨b2, (by show (1 : Int) ≤ 3; decide), (by show (3 : Int) ≤ 9223372036854775807; decide), e0⟩
          · exact ⟨b0, (by show (1 : Int) ≤ 12; decide), (by show (12 : Int) ≤ 9223372036854775807; decide), e1⟩
          · exact ⟨b1, (by show (1 : Int) ≤ 9; decide), (by show (9 : Int) ≤ 9223372036854775807; decide), e2⟩
        refine fin _ false (List.all_eq_true.1 all44 c2 h2) ?_
        intro q hq
        simp only [List.mem_cons, List.not_mem_nil, or_false] at hq
        rcases hq with rfl | rfl | rfl
        · exact ⟨b2, (by show (1 : Int) ≤ 3; decide), (by show (3 : Int) ≤ 9223372036854775807; decide), e0⟩
        · exact ⟨b0, (by show (1 : Int) ≤ 12; decide), (by show (12 : Int) ≤ 9223372036854775807; decide), e1⟩
        · exact ⟨b1, (by show (1 : Int) ≤ 9; decide), (by show (9 : Int) ≤ 9223372036854775807; decide), e2⟩
      · skip
        obtain ⟨c2, h2, e2⟩ := cover_get (t := 102) (n := 9) (l := ([(0, 8)] : List (Nat × Nat))) (by kernel_rfl) (a := a1) (by decide) rfl
        refine fin _ false (List.all_eq_true.1 all45 c2 h2) ?_
        intro q hq
        simp only [List.mem_cons, List.not_mem_nil, or_false] at hq
        rcases hq with rfl | rfl | rfl
        · exact ⟨b2, (by show (1 : Int) ≤ 3; decide), (by show (3 : Int) ≤ 9223372036854775807; decide), e0⟩
        · exact ⟨b0, (by show (1 : Int) ≤ 12; decide), (by show (12 : Int) ≤ 9223372036854775807; decide), e1⟩
        · exact ⟨b1, (by show (1 : Int) ≤ 9; decide), (by show (9 : Int) ≤ 9223372036854775807; decide), e2⟩
      · skip
        obtain ⟨c2, h2, e2⟩ := cover_get (t := 102) (n := 9) (l := ([(0, 0), (1, 1), (2, 2), (3, 3), (4, 4), (5, 8)] : List (Nat × Nat))) (by kernel_rfl) (a := a1) (by decide) rfl
        rw [show ([(0, 0), (1, 1), (2, 2), (3, 3), (4, 4), (5, 8)] : List (Nat × Nat)) = ([(0, 0), (1, 1)] : List (Nat × Nat)) ++ (([(2, 2), (3, 3)] : List (Nat × Nat)) ++ (([(4, 4), (5, 8)] : List (Nat × Nat)))) from by kernel_rfl] at h2
        rcases List.mem_append.1 h2 with h2 | h2
        · skip
          refine fin _ false (List.all_eq_true.1 all46 c2 h2) ?_
          intro q hq
          simp only [List.mem_cons, List.not_mem_nil, or_false] at hq
          rcases hq with rfl | rfl | rfl
          · exact ⟨b2, (by show (1 : Int) ≤ 3; decide), (by show (3 : Int) ≤ 9223372036854775807; decide), e0⟩
          · exact ⟨b0, (by show (1 : Int) ≤ 12; decide), (by show (12 : Int) ≤ 9223372036854775807; decide), e1⟩
          · exact ⟨b1, (by show (1 : Int) ≤ 9; decide), (by show (9 : Int) ≤ 9223372036854775807; decide), e2⟩
        rcases List.mem_append.1 h2 with h2 | h2
        · skip
          refine fin _ false (List.all_eq_true.1 all47 c2 h2) ?_
          intro q hq
          simp only [List.mem_cons, List.not_mem_nil, or_false] at hq
          rcases hq with rfl | rfl | rfl
          · exact ⟨b2, (by show (1 : Int) ≤ 3; decide), (by show (3 : Int) ≤ 9223372036854775807; decide), e0⟩
          · exact ⟨b0, (by show (1 : Int) ≤ 12; decide), (by show (12 : Int) ≤ 9223372036854775807; decide), e1⟩
          · exact ⟨b1, (by show (1 : Int) ≤ 9; decide), (by show (9 : Int) ≤ 9223372036854775807; decide), e2⟩
        refine fin _ false (List.all_eq_true.1 all48 c2 h2) ?_
        intro q hq
        simp only [List.mem_cons, List.not_mem_nil, or_false] at hq
        rcases hq with rfl | rfl | rfl
        · exact ⟨b2, (by show (1 : Int) ≤ 3; decide), (by show (3 : Int) ≤ 9223372036854775807; decide), e0⟩
        · exact ⟨b0, (by show (1 : Int) ≤ 12; decide), (by show (12 : Int) ≤ 9223372036854775807; decide), e1⟩
        · exact ⟨b1, (by show (1 : Int) ≤ 9; decide), (by show (9 : Int) ≤ 9223372036854775807; decide), e2⟩
      · skip
        obtain ⟨c2, h2, e2⟩ := cover_get (t := 102) (n := 9) (l := ([(0, 8)] : List (Nat × Nat))) (by kernel_rfl) (a := a1) (by decide) rfl
        refine fin _ false (List.all_eq_true.1 all49 c2 h2) ?_
        intro q hq
        simp only [List.mem_cons, List.not_mem_nil, or_false] at hq
        rcases hq with rfl | rfl | rfl
        · exact ⟨b2, (by show (1 : Int) ≤ 3; decide), (by show (3 : Int) ≤ 9223372036854775807; decide), e0⟩
        · exact ⟨b0, (by show (1 : Int) ≤ 12; decide), (by show (12 : Int) ≤ 9223372036854775807; decide), e1⟩
        · exact ⟨b1, (by show (1 : Int) ≤ 9; decide), (by show (9 : Int) ≤ 9223372036854775807; decide), e2⟩
      · skip
        obtain ⟨c2, h2, e2⟩ := cover_get (t := 102) (n := 9) (l := ([(0, 0), (1, 1), (2, 2), (3, 3), (4, 4), (5, 8)] : List (Nat × Nat))) (by kernel_rfl) (a := a1) (by decide) rfl
        rw [show ([(0, 0), (1, 1), (2, 2), (3, 3), (4, 4), (5, 8)] : List (Nat × Nat)) = ([(0, 0), (1, 1)] : List (Nat × Nat)) ++ (([(2, 2), (3, 3)] : List (Nat × Nat)) ++ (([(4, 4), (5, 8)] : List (Nat × Nat)))) from by kernel_rfl] at h2
        rcases List.mem_append.1 h2 with h2 | h2
        · skip
          refine fin _ false (List.all_eq_true.1 all50 c2 h2) ?_
          intro q hq
          simp only [List.mem_cons, List.not_mem_nil, or_false] at hq
          rcases hq with rfl | rfl | rfl
          · exact ⟨b2, (by show (1 : Int) ≤ 3; decide), (by show (3 : Int) ≤ 9223372036854775807; decide), e0⟩
          · exact ⟨b0, (by show (1 : Int) ≤ 12; decide), (by show (12 : Int) ≤ 9223372036854775807; decide), e1⟩
          · exact ⟨b1, (by show (1 : Int) ≤ 9; decide), (by show (9 : Int) ≤ 9223372036854775807; decide), e2⟩
        rcases List.mem_append.1 h2 with h2 | h2
        · skip
          refine fin _ false (List.all_eq_true.1 all51 c2 h2) ?_
          intro q hq
          simp only [List.mem_cons, List.not_mem_nil, or_false] at hq
          rcases hq with rfl | rfl | rfl
          · exact ⟨b2, (by show (1 : Int) ≤ 3; decide), (by show (3 : Int) ≤ 9223372036854775807; decide), e0⟩
          · exact ⟨b0, (by show (1 : Int) ≤ 12; decide), (by show (12 : Int) ≤ 9223372036854775807; decide), e1⟩
          · exact ⟨b1, (by show (1 : Int) ≤ 9; decide), (by show (9 : Int) ≤ 9223372036854775807; decide), e2⟩
        refine fin _ false (List.all_eq_true.1 all52 c2 h2) ?_
        intro q hq
        simp only [List.mem_cons, List.not_mem_nil, or_false] at hq
        rcases hq with rfl | rfl | rfl
        · exact ⟨b2, (by show (1 : Int) ≤ 3; decide), (by show (3 : Int) ≤ 9223372036854775807; decide), e0⟩
        · exact ⟨b0, (by show (1 : Int) ≤ 12; decide), (by show (12 : Int) ≤ 9223372036854775807; decide), e1⟩
        · exact ⟨b1, (by show (1 : Int) ≤ 9; decide), (by show (9 : Int) ≤ 9223372036854775807; decide), e2⟩
      · skip
        obtain ⟨c2, h2, e2⟩ := cover_get (t := 102) (n := 9) (l := ([(0, 8)] : List (Nat × Nat))) (by kernel_rfl) (a := a1) (by decide) rfl
        refine fin _ false (List.all_eq_true.1 all53 c2 h2) ?_
        intro q hq
        simp only [List.mem_cons, List.not_mem_nil, or_false] at hq
        rcases hq with rfl | rfl | rfl
        · exact ⟨b2, (by show (1 : Int) ≤ 3; decide), (by show (3 : Int) ≤ 9223372036854775807; decide), e0⟩
        · exact ⟨b0, (by show (1 : Int) ≤ 12; decide), (by show (12 : Int) ≤ 9223372036854775807; decide), e1⟩
        · exact ⟨b1, (by show (1 : Int) ≤ 9; decide), (by show (9 : Int) ≤ 9223372036854775807; decide), e2⟩
  · skip
    obtain ⟨c0, h0, e0⟩ := cover_get (t := 100) (n := 3) (l := ([(0, 0), (1, 1), (2, 2)] : List (Nat × Nat))) (by kernel_rfl) (a := a2) (by decide) rfl
    simp only [List.mem_cons, List.not_mem_nil, or_false] at h0
    rcases h0 with rfl | rfl | rfl
    · skip
      obtain ⟨c1, h1, e1⟩ := cover_get (t := 101) (n := 12) (l := ([(0, 0), (1, 1), (2, 2), (3, 3), (4, 4), (5, 5), (6, 6), (7, 7), (8, 8), (9, 9), (10, 10), (11, 11)] : List (Nat × Nat))) (by kernel_rfl) (a := a0) (by decide) rfl
      simp only [List.mem_cons, List.not_mem_nil, or_false] at h1
      rcases h1 with rfl | rfl | rfl | rfl | rfl | rfl | rfl | rfl | rfl | rfl | rfl | rfl
      · skip
        obtain ⟨c2, h2, e2⟩ := cover_get (t := 102) (n := 9) (l := ([(0, 8)] : List (Nat × Nat))) (by kernel_rfl) (a := a1) (by decide) rfl
        refine fin _ true (List.all_eq_true.1 all54 c2 h2) ?_
        intro q hq
        simp only [List.mem_cons, List.not_mem_nil, or_false] at hq
        rcases hq with rfl | rfl | rfl
        · exact ⟨b2, (by show (1 : Int) ≤ 3; decide), (by show (3 : Int) ≤ 9223372036854775807; decide), e0⟩
        · exact ⟨b0, (by show (1 : Int) ≤ 12; decide), (by show (12 : Int) ≤ 9223372036854775807; decide), e1⟩
        · exact ⟨b1, (by show (1 : Int) ≤ 9; decide), (by show (9 : Int) ≤ 9223372036854775807; decide), e2⟩
      · skip
        obtain ⟨c2, h2, e2⟩ := cover_get (t := 102) (n := 9) (l := ([(0, 8)] : List (Nat × Nat))) (by kernel_rfl) (a := a1) (by decide) rfl
        refine fin _ true (List.all_eq_true.1 all55 c2 h2) ?_
        intro q hq
        simp only [List.mem_cons, List.not_mem_nil, or_false] at hq
        rcases hq with rfl | rfl | rfl
        · exact ⟨b2, (by show (1 : Int) ≤ 3; decide), (by show (3 : Int) ≤ 9223372036854775807; decide), e0⟩
        · exact ⟨b0, (by show (1 : Int) ≤ 12; decide), (by show (12 : Int) ≤ 9223372036854775807; decide), e1⟩
        · exact ⟨b1, (by show (1 : Int) ≤ 9; decide), (by show (9 : Int) ≤ 9223372036854775807; decide), e2⟩
      · skip
        obtain ⟨c2, h2, e2⟩ := cover_get (t := 102) (n := 9) (l := ([(0, 8)] : List (Nat × Nat))) (by kernel_rfl) (a := a1) (by decide) rfl
        refine fin _ true (List.all_eq_true.1 all56 c2 h2) ?_
        intro q hq
        simp only [List.mem_cons, List.not_mem_nil, or_false] at hq
        rcases hq with rfl | rfl | rfl
        · exact ⟨b2, (by show (1 : Int) ≤ 3; decide), (by show (3 : Int) ≤ 9223372036854775807; decide), e0⟩
        · exact ⟨b0, (by show (1 : Int) ≤ 12; decide), (by show (12 : Int) ≤ 9223372036854775807; decide), e1⟩
        · exact ⟨b1, (by show (1 : Int) ≤ 9; decide), (by show (9 : Int) ≤ 9223372036854775807; decide), e2⟩
      · skip
        obtain ⟨c2, h2, e2⟩ := cover_get (t := 102) (n := 9) (l := ([(0, 8)] : List (Nat × Nat))) (by kernel_rfl) (a := a1) (by decide) rfl
        refine fin _ true (List.all_eq_true.1 all57 c2 h2) ?_
        intro q hq
        simp only [List.mem_cons, List.not_mem_nil, or_false] at hq
        rcases hq with rfl | rfl | rfl
        · exact ⟨b2, (by show (1 : Int) ≤ 3; decide), (by show (3 : Int) ≤ 9223372036854775807; decide), e0⟩
        · exact ⟨b0, (by show (1 : Int) ≤ 12; decide), (by show (12 : Int) ≤ 9223372036854775807; decide), e1⟩
        · exact ⟨b1, (by show (1 : Int) ≤ 9; decide), (by show (9 : Int) ≤ 9223372036854775807; decide), e2⟩
      · skip
        obtain ⟨c2, h2, e2⟩ := cover_get (t := 102) (n := 9) (l := ([(0, 0), (1, 1), (2, 2), (3, 3), (4, 4), (5, 8)] : List (Nat × Nat))) (by kernel_rfl) (a := a1) (by decide) rfl
        rw [show ([(0, 0), (1, 1), (2, 2), (3, 3), (4, 4), (5, 8)] : List (Nat × Nat)) = ([(0, 0), (1, 1)] : List (Nat × Nat)) ++ (([(2, 2), (3, 3)] : List (Nat × Nat)) ++ (([(4, 4), (5, 8)] : List (Nat × Nat)))) from by kernel_rfl] at h2
        rcases List.mem_append.1 h2 with h2 | h2
        · skip
          refine fin _ true (List.all_eq_true.1 all58 c2 h2) ?_
          intro q hq
          simp only [List.mem_cons, List.not_mem_nil, or_false] at hq
          rcases hq with rfl | rfl | rfl
          · exact ⟨b2, (by show (1 : Int) ≤ 3; decide), (by show (3 : Int) ≤ 9223372036854775807; decide), e0⟩
          · exact ⟨b0, (by show (1 : Int) ≤ 12; decide), (by show (12 : Int) ≤ 9223372036854775807; decide), e1⟩
          · exact ⟨b1, (by show (1 : Int) ≤ 9; decide), (by show (9 : Int) ≤ 9223372036854775807; decide), e2⟩
        rcases List.mem_append.1 h2 with h2 | h2
        · skip
          refine fin _ true (List.all_eq_true.1 all59 c2 h2) ?_
          intro q hq
          simp only [List.mem_cons, List.not_mem_nil, or_false] at hq
          rcases hq with rfl | rfl | rfl
          · exact ⟨b2, (by show (1 : Int) ≤ 3; decide), (by show (3 : Int) ≤ 9223372036854775807; decide), e0⟩
          · exact ⟨b0, (by show (1 : Int) ≤ 12; decide), (by show (12 : Int) ≤ 9223372036854775807; decide), e1⟩
          · exact ⟨b1, (by show (1 : Int) ≤ 9; decide), (by show (9 : Int) ≤ 9223372036854775807; decide), e2⟩
        refine fin _ true (List.all_eq_true.1 all60 c2 h2) ?_
        intro q hq
        simp only [List.mem_cons, List.not_mem_nil, or_false] at hq
        rcases hq with rfl | rfl | rfl
        · exact ⟨b2, (by show (1 : Int) ≤ 3; decide), (by show (3 : Int) ≤ 9223372036854775807; decide), e0⟩
        · exact ⟨b0, (by show (1 : Int) ≤ 12; decide), (by show (12 : Int) ≤ 9223372036854775807; decide), e1⟩
        · exact ⟨b1, (by show (1 : Int) ≤ 9; decide), (by show (9 : Int) ≤ 9223372036854775807; decide), e2⟩
      · skip
        obtain ⟨c2, h2, e2⟩ := cover_get (t := 102) (n := 9) (l := ([(0, 8)] : List (Nat × Nat))) (by kernel_rfl) (a := a1) (by decide) rfl
        refine fin _ true (List.all_eq_true.1 all61 c2 h2) ?_
        intro q hq
        simp only [List.mem_cons, List.not_mem_nil, or_false] at hq
        rcases hq with rfl | rfl | rfl
        · exact ⟨b2, (by show (1 : Int) ≤ 3; decide), (by show (3 : Int) ≤ 9223372036854775807; decide), e0⟩
        · exact ⟨b0, (by show (1 : Int) ≤ 12; decide), (by show (12 : Int) ≤ 9223372036854775807; decide), e1⟩
        · exact ⟨b1, (by show (1 : Int) ≤ 9; decide), (by show (9 : Int) ≤ 9223372036854775807; decide), e2⟩
      · skip
        obtain ⟨c2, h2, e2⟩ := cover_get (t := 102) (n := 9) (l := ([(0, 8)] : List (Nat × Nat))) (by kernel_rfl) (a := a1) (by decide) rfl
        refine fin _ true (List.all_eq_true.1 all62 c2 h2) ?_
        intro q hq
        simp only [List.mem_cons, List.not_mem_nil, or_false] at hq
        rcases hq with rfl | rfl | rfl
        · exact ⟨b2, (by show (1 : Int) ≤ 3; decide), (by show (3 : Int) ≤ 9223372036854775807; decide), e0⟩
        · exact ⟨b0, (by show (1 : Int) ≤ 12; decide), (by show (12 : Int) ≤ 9223372036854775807; decide), e1⟩
        · exact ⟨b1, (by show (1 : Int) ≤ 9; decide), (by show (9 : Int) ≤ 9223372036854775807; decide), e2⟩
      · skip
        obtain ⟨c2, h2, e2⟩ := cover_get (t := 102) (n := 9) (l := ([(0, 8)] : List (Nat × Nat))) (by kernel_rfl) (a := a1) (by decide) rfl
        refine fin _ true (List.all_eq_true.1 all63 c2 h2) ?_
        intro q hq
        simp only [List.mem_cons, List.not_mem_nil, or_false] at hq
        rcases hq with rfl | rfl | rfl
        · exact ⟨b2, (by show (1 : Int) ≤ 3; decide), (by show (3 : Int) ≤ 9223372036854775807; decide), e0⟩
        · exact ⟨b0, (by show (1 : Int) ≤ 12; decide), (by show (12 : Int) ≤ 9223372036854775807; decide), e1⟩
        · exact ⟨b1, (by show (1 : Int) ≤ 9; decide), (by show (9 : Int) ≤ 9223372036854775807; decide), e2⟩
      · skip
        obtain ⟨c2, h2, e2⟩ := cover_get (t := 102) (n := 9) (l := ([(0, 8)] : List (Nat × Nat))) (by kernel_rfl) (a := a1) (by decide) rfl
        refine fin _ true (List.all_eq_true.1 all64 c2 h2) ?_
        intro q hq
        simp only [List.mem_cons, List.not_mem_nil, or_false] at hq
        rcases hq with rfl | rfl | rfl
        · exact ⟨b2, (by show (1 : Int) ≤ 3; decide), (by show (3 : Int) ≤ 9223372036854775807; decide), e0⟩
        · exact ⟨b0, (by show (1 : Int) ≤ 12; decide), (by show (12 : Int) ≤ 9223372036854775807; decide), e1⟩
        · exact ⟨b1, (by show (1 : Int) ≤ 9; decide), (by show (9 : Int) ≤ 9223372036854775807; decide), e2⟩
      · skip
        obtain ⟨c2, h2, e2⟩ := cover_get (t := 102) (n := 9) (l := ([(0, 8)] : List (Nat × Nat))) (by kernel_rfl) (a := a1) (by decide) rfl
        refine fin _ true (List.all_eq_true.1 all65 c2 h2) ?_
        intro q hq
        simp only [List.mem_cons, List.not_mem_nil, or_false] at hq
        rcases hq with rfl | rfl | rfl
        · exact ⟨b2, (by show (1 : Int) ≤ 3; decide), (by show (3 : Int) ≤ 9223372036854775807; decide), e0⟩
        · exact ⟨b0, (by show (1 : Int) ≤ 12; decide), (by show (12 : Int) ≤ 9223372036854775807; decide), e1⟩
        · exact ⟨b1, (by show (1 : Int) ≤ 9; decide), (by show (9 : Int) ≤ 9223372036854775807; decide), e2⟩
      · skip
        obtain ⟨c2, h2, e2⟩ := cover_get (t := 102) (n := 9) (l := ([(0, 8)] : List (Nat × Nat))) (by kernel_rfl) (a := a1) (by decide) rfl
        refine fin _ true (List.all_eq_true.1 all66 c2 h2) ?_
        intro q hq
        simp only [List.mem_cons, List.not_mem_nil, or_false] at hq
        rcases hq with rfl | rfl | rfl
        · exact ⟨b2, (by show (1 : Int) ≤ 3; decide), (by show (3 : Int) ≤ 9223372036854775807; decide), e0⟩
        · exact ⟨b0, (by show (1 : Int) ≤ 12; decide), (by show (12 : Int) ≤ 9223372036854775807; decide), e1⟩
        · exact ⟨b1, (by show (1 : Int) ≤ 9; decide), (by show (9 : Int) ≤ 9223372036854775807; decide), e2⟩
      · skip
        obtain ⟨c2, h2, e2⟩ := cover_get (t := 102) (n := 9) (l := ([(0, 8)] : List (Nat × Nat))) (by kernel_rfl) (a := a1) (by decide) rfl
        refine fin _ true (List.all_eq_true.1 all67 c2 h2) ?_
        intro q hq
        simp only [List.mem_cons, List.not_mem_nil, or_false] at hq
        rcases hq with rfl | rfl | rfl
        · exact ⟨b2, (by show (1 : Int) ≤ 3; decide), (by show (3 : Int) ≤ 9223372036854775807; decide), e0⟩
        · exact ⟨b0, (by show (1 : Int) ≤ 12; decide), (by show (12 : Int) ≤ 9223372036854775807; decide), e1⟩
        · exact ⟨b1, (by show (1 : Int) ≤ 9; decide), (by show (9 : Int) ≤ 9223372036854775807; decide), e2⟩
    · skip
      obtain ⟨c1, h1, e1⟩ := cover_get (t := 101) (n := 12) (l := ([(0, 0), (1, 1), (2, 2), (3, 3), (4, 4), (5, 5), (6, 6), (7, 7), (8, 8), (9, 9), (10, 10), (11, 11)] : List (Nat × Nat))) (by kernel_rfl) (a := a0) (by decide) rfl
      simp only [List.mem_cons, List.not_mem_nil, or_false] at h1
      rcases h1 with rfl | rfl | rfl | rfl | rfl | rfl | rfl | rfl | rfl | rfl | rfl | rfl
      · skip
        obtain ⟨c2, h2, e2⟩ := cover_get (t := 102) (n := 9) (l := ([(0, 8)] : List (Nat × Nat))) (by kernel_rfl) (a := a1) (by decide) rfl
        refine fin _ true (List.all_eq_true.1 all68 c2 h2) ?_
        intro q hq
        simp only [List.mem_cons, List.not_mem_nil, or_false] at hq
        rcases hq with rfl | rfl | rfl
        · exact ⟨b2, (by show (1 : Int) ≤ 3; decide), (by show (3 : Int) ≤ 9223372036854775807; decide), e0⟩
        · exact ⟨b0, (by show (1 : Int) ≤ 12; decide), (by show (12 : Int) ≤ 9223372036854775807; decide), e1⟩
        · exact ⟨b1, (by show (1 : Int) ≤ 9; decide), (by show (9 : Int) ≤ 9223372036854775807; decide), e2⟩
      · skip
        obtain ⟨c2, h2, e2⟩ := cover_get (t := 102) (n := 9) (l := ([(0, 8)] : List (Nat × Nat))) (by kernel_rfl) (a := a1) (by decide) rfl
        refine fin _ true (List.all_eq_true.1 all69 c2 h2) ?_
        intro q hq
        simp only [List.mem_cons, List.not_mem_nil, or_false] at hq
        rcases hq with rfl | rfl | rfl
        · exact ⟨b2, (by show (1 : Int) ≤ 3; decide), (by show (3 : Int) ≤ 9223372036854775807; decide), e0⟩
        · exact ⟨b0, (by show (1 : Int) ≤ 12; decide), (by show (12 : Int) ≤ 9223372036854775807; decide), e1⟩
        · exact ⟨b1, (by show (1 : Int) ≤ 9; decide), (by show (9 : Int) ≤ 9223372036854775807; decide), e2⟩
      · skip
        obtain ⟨c2, h2, e2⟩ := cover_get (t := 102) (n := 9) (l := ([(0, 8)] : List (Nat × Nat))) (by kernel_rfl) (a := a1) (by decide) rfl
        refine fin _ true (List.all_eq_true.1 all70 c2 h2) ?_
        intro q hq
        simp only [List.mem_cons, List.not_mem_nil, or_false] at hq
        rcases hq with rfl | rfl | rfl
        · exact ⟨b2, (by show (1 : Int) ≤ 3; decide), (by show (3 : Int) ≤ 9223372036854775807; decide), e0⟩
        · exact ⟨b0, (by show (1 : Int) ≤ 12; decide), (by show (12 : Int) ≤ 9223372036854775807; decide), e1⟩
        · exact ⟨b1, (by show (1 : Int) ≤ 9; decide), (by show (9 : Int) ≤ 9223372036854775807; decide), e2⟩
      · skip
        obtain ⟨c2, h2, e2⟩ := cover_get (t := 102) (n := 9) (l := ([(0, 8)] : List (Nat × Nat))) (by kernel_rfl) (a := a1) (by decide) rfl
        refine fin _ true (List.all_eq_true.1 all71 c2 h2) ?_
        intro q hq
        simp only [List.mem_cons, List.not_mem_nil, or_false] at hq
        rcases hq with rfl | rfl | rfl
        · exact ⟨b2, (by show (1 : Int) ≤ 3; decide), (by show (3 : Int) ≤ 9223372036854775807; decide), e0⟩
        · exact ⟨b0, (by show (1 : Int) ≤ 12; decide), (by show (12 : Int) ≤ 9223372036854775807; decide), e1⟩
        · exact ⟨b1, (by show (1 : Int) ≤ 9; decide), (by show (9 : Int) ≤ 9223372036854775807; decide), e2⟩
      · skip
        obtain ⟨c2, h2, e2⟩ := cover_get (t := 102) (n := 9) (l := ([(0, 0), (1, 1), (2, 2), (3, 3), (4, 4), (5, 8)] : List (Nat × Nat))) (by kernel_rfl) (a := a1) (by decide) rfl
        rw [show ([(0, 0), (1, 1), (2, 2), (3, 3), (4, 4), (5, 8)] : List (Nat × Nat)) = ([(0, 0), (1, 1)] : List (Nat × Nat)) ++ (([(2, 2), (3, 3)] : List (Nat × Nat)) ++ (([(4, 4), (5, 8)] : List (Nat × Nat)))) from by kernel_rfl] at h2
        rcases List.mem_append.1 h2 with h2 | h2
        · skip
          refine fin _ true (List.all_eq_true.1 all72 c2 h2) ?_
          intro q hq
          simp only [List.mem_cons, List.not_mem_nil, or_false] at hq
          rcases hq with rfl | rfl | rfl
          · exact ⟨b2, (by show (1 : Int) ≤ 3; decide), (by show (3 : Int) ≤ 9223372036854775807; decide), e0⟩
          · exact ⟨b0, (by show (1 : Int) ≤ 12; decide), (by show (12 : Int) ≤ 9223372036854775807; decide), e1⟩
          · exact ⟨b1, (by show (1 : Int) ≤ 9; decide), (by show (9 : Int) ≤ 9223372036854775807; decide), e2⟩
        rcases List.mem_append.1 h2 with h2 | h2
        · skip
          refine fin _ true (List.all_eq_true.1 all73 c2 h2) ?_
          intro q hq
          simp only [List.mem_cons, List.not_mem_nil, or_false] at hq
          rcases hq with rfl | rfl | rfl
          · exact ⟨b2, (by show (1 : Int) ≤ 3; decide), (by show (3 : Int) ≤ 9223372036854775807; decide), e0⟩
          · exact ⟨b0, (by show (1 : Int) ≤ 12; decide), (by show (12 : Int) ≤ 9223372036854775807; decide), e1⟩
          · exact ⟨b1, (by show (1 : Int) ≤ 9; decide), (by show (9 : Int) ≤ 9223372036854775807; decide), e2⟩
        refine fin _ true (List.all_eq_true.1 all74 c2 h2) ?_
        intro q hq
        simp only [List.mem_cons, List.not_mem_nil, or_false] at hq
        rcases hq with rfl | rfl | rfl
        · exact ⟨b2, (by show (1 : Int) ≤ 3; decide), (by show (3 : Int) ≤ 9223372036854775807; decide), e0⟩
        · exact ⟨b0, (by show (1 : Int) ≤ 12; decide), (by show (12 : Int) ≤ 9223372036854775807; decide), e1⟩
        · exact ⟨b1, (by show (1 : Int) ≤ 9; decide), (by show (9 : Int) ≤ 9223372036854775807; decide), e2⟩
      · skip
        obtain ⟨c2, h2, e2⟩ := cover_get (t := 102) (n := 9) (l := ([(0, 8)] : List (Nat × Nat))) (by kernel_rfl) (a := a1) (by decide) rfl
        refine fin _ true (List.all_eq_true.1 all75 c2 h2) ?_
        intro q hq
        simp only [List.mem_cons, List.not_mem_nil, or_false] at hq
        rcases hq with rfl | rfl | rfl
        · exact ⟨b2, (by show (1 : Int) ≤ 3; decide), (by show (3 : Int) ≤ 9223372036854775807; decide), e0⟩
        · exact ⟨b0, (by show (1 : Int) ≤ 12; decide), (by show (12 : Int) ≤ 9223372036854775807; decide), e1⟩
        · exact ⟨b1, (by show (1 : Int) ≤ 9; decide), (by show (9 : Int) ≤ 9223372036854775807; decide), e2⟩
      · skip
        obtain ⟨c2, h2, e2⟩ := cover_get (t := 102) (n := 9) (l := ([(0, 0), (1, 1), (2, 2), (3, 3), (4, 4), (5, 8)] : List (Nat × Nat))) (by kernel_rfl) (a := a1) (by decide) rfl
        rw [show ([(0, 0), (1, 1), (2, 2), (3, 3), (4, 4), (5, 8)] : List (Nat × Nat)) = ([(0, 0), (1, 1)] : List (Nat × Nat)) ++ (([(2, 2), (3, 3)] : List (Nat × Nat)) ++ (([(4, 4), (5, 8)] : List (Nat × Nat)))) from by kernel_rfl] at h2
        rcases List.mem_append.1 h2 with h2 | h2
        · skip
          refine fin _ true (List.all_eq_true.1 all76 c2 h2) ?_
          intro q hq
          simp only [List.mem_cons, List.not_mem_nil, or_false] at hq
          rcases hq with rfl | rfl | rfl
          · exact ⟨b2, (by show (1 : Int) ≤ 3; decide), (by show (3 : Int) ≤ 9223372036854775807; decide), e0⟩
          · exact ⟨b0, (by show (1 : Int) ≤ 12; decide), (by show (12 : Int) ≤ 9223372036854775807; decide), e1⟩
          · exact ⟨b1, (by show (1 : Int) ≤ 9; decide), (by show (9 : Int) ≤ 9223372036854775807; decide), e2⟩
        rcases List.mem_append.1 h2 with h2 | h2
        · skip
          refine fin _ true (List.all_eq_true.1 all77 c2 h2) ?_
          intro q hq
          simp only [List.mem_cons, List.not_mem_nil, or_false] at hq
          rcases hq with rfl | rfl | rfl
          · exact ⟨b2, (by show (1 : Int) ≤ 3; decide), (by show (3 : Int) ≤ 9223372036854775807; decide), e0⟩
          · exact ⟨b0, (by show (1 : Int) ≤ 12; decide), (by show (12 : Int) ≤ 9223372036854775807; decide), e1⟩
          · exact ⟨b1, (by show (1 : Int) ≤ 9; decide), (by show (9 : Int) ≤ 9223372036854775807; decide), e2⟩
        refine fin _ true (List.all_eq_true.1 all78 c2 h2) ?_
        intro q hq
        simp only [List.mem_cons, List.not_mem_nil, or_false] at hq
        rcases hq with rfl | rfl | rfl
        · exact ⟨b2, (by show (1 : Int) ≤ 3; decide), (by show (3 : Int) ≤ 9223372036854775807; decide), e0⟩
        · exact ⟨b0, (by show (1 : Int) ≤ 12; decide), (by show (12 : Int) ≤ 9223372036854775807; decide), e1⟩
        · exact ⟨b1, (by show (1 : Int) ≤ 9; decide), (by show (9 : Int) ≤ 9223372036854775807; decide), e2⟩
      · skip
        obtain ⟨c2, h2, e2⟩ := cover_get (t := 102) (n := 9) (l := ([(0, 8)] : List (Nat × Nat))) (by kernel_rfl) (a := a1) (by decide) rfl
        refine fin _ true (List.all_eq_true.1 all79 c2 h2) ?_
        intro q hq
        simp only [List.mem_cons, List.not_mem_nil, or_false] at hq
        rcases hq with rfl | rfl | rfl
        · exact ⟨b2, (by show (1 : Int) ≤ 3; decide), (by show (3 : Int) ≤ 9223372036854775807; decide), e0⟩
        · exact ⟨b0, (by show (1 : Int) ≤ 12; decide), (by show (12 : Int) ≤ 9223372036854775807; decide), e1⟩
        · exact ⟨b1, (by show (1 : Int) ≤ 9; decide), (by show (9 : Int) ≤ 9223372036854775807; decide), e2⟩
      · skip
        obtain ⟨c2, h2, e2⟩ := cover_get (t := 102) (n := 9) (l := ([(0, 8)] : List (Nat × Nat))) (by kernel_rfl) (a := a1) (by decide) rfl
        refine fin _ true (List.all_eq_true.1 all80 c2 h2) ?_
        intro q hq
        simp only [List.mem_cons, List.not_mem_nil, or_false] at hq
        rcases hq with rfl | rfl | rfl
        · exact ⟨b2, (by show (1 : Int) ≤ 3; decide), (by show (3 : Int) ≤ 9223372036854775807; decide), e0⟩
        · exact ⟨b0, (by show (1 : Int) ≤ 12; decide), (by show (12 : Int) ≤ 9223372036854775807; decide), e1⟩
        · exact ⟨b1, (by show (1 : Int) ≤ 9; decide), (by show (9 : Int) ≤ 9223372036854775807; decide), e2⟩
      · skip
        obtain ⟨c2, h2, e2⟩ := cover_get (t := 102) (n := 9) (l := ([(0, 8)] : List (Nat × Nat))) (by kernel_rfl) (a := a1) (by decide) rfl
        refine fin _ true (List.all_eq_true.1 all81 c2 h2) ?_
        intro q hq
        simp only [List.mem_cons, List.not_mem_nil, or_false] at hq
        rcases hq with rfl | rfl | rfl
        · exact ⟨b2, (by show (1 : Int) ≤ 3; decide), (by show (3 : Int) ≤ 9223372036854775807; decide), e0⟩
        · exact ⟨b0, (by show (1 : Int) ≤ 12; decide), (by show (12 : Int) ≤ 9223372036854775807; decide), e1⟩
        · exact ⟨b1, (by show (1 : Int) ≤ 9; decide), (by show (9 : Int) ≤ 9223372036854775807; decide), e2⟩
      · skip
        obtain ⟨c2, h2, e2⟩ := cover_get (t := 102) (n := 9) (l := ([(0, 8)] : List (Nat × Nat))) (by kernel_rfl) (a := a1) (by decide) rfl
        refine fin _ true (List.all_eq_true.1 all82 c2 h2) ?_
        intro q hq
        simp only [List.mem_cons, List.not_mem_nil, or_false] at hq
        rcases hq with rfl | rfl | rfl
        · exact ⟨b2, (by show (1 : Int) ≤ 3; decide), (by show (3 : Int) ≤ 9223372036854775807; decide), e0⟩
        · exact ⟨b0, (by show (1 : Int) ≤ 12; decide), (by show (12 : Int) ≤ 9223372036854775807; decide), e1⟩
        · exact ⟨b1, (by show (1 : Int) ≤ 9; decide), (by show (9 : Int) ≤ 9223372036854775807; decide), e2⟩
      · skip
        obtain ⟨c2, h2, e2⟩ := cover_get (t := 102) (n := 9) (l := ([(0, 8)] : List (Nat × Nat))) (by kernel_rfl) (a := a1) (by decide) rfl
        refine fin _ true (List.all_eq_true.1 all83 c2 h2) ?_
        intro q hq
        simp only [List.mem_cons, List.not_mem_nil, or_false] at hq
        rcases hq with rfl | rfl | rfl
        · exact ⟨b2, (by show (1 : Int) ≤ 3; decide), (by show (3 : Int) ≤ 9223372036854775807; decide), e0⟩
        · exact ⟨b0, (by show (1 : Int) ≤ 12; decide), (by show (12 : Int) ≤ 9223372036854775807; decide), e1⟩
        · exact ⟨b1, (by show (1 : Int) ≤ 9; decide), (by show (9 : Int) ≤ 9223372036854775807; decide), e2⟩
    · skip
      obtain ⟨c1, h1, e1⟩ := cover_get (t := 101) (n := 12) (l := ([(0, 0), (1, 1), (2, 2), (3, 3), (4, 4), (5, 5), (6, 6), (7, 7), (8, 8), (9, 9), (10, 10), (11, 11)] : List (Nat × Nat))) (by kernel_rfl) (a := a0) (by decide) rfl
      simp only [List.mem_cons, List.not_mem_nil, or_false] at h1
      rcases h1 with rfl | rfl | rfl | rfl | rfl | rfl | rfl | rfl | rfl | rfl | rfl | rfl
      · skip
        obtain ⟨c2, h2, e2⟩ := cover_get (t := 102) (n := 9) (l := ([(0, 8)] : List (Nat × Nat))) (by kernel_rfl) (a := a1) (by decide) rfl
        refine fin _ true (List.all_eq_true.1 all84 c2 h2) ?_
        intro q hq
        simp only [List.mem_cons, List.not_mem_nil, or_false] at hq
        rcases hq with rfl | rfl | rfl
        · exact ⟨b2, (by show (1 : Int) ≤ 3; decide), (by show (3 : Int) ≤ 9223372036854775807; decide), e0⟩
        · exact ⟨b0, (by show (1 : Int) ≤ 12; decide), (by show (12 : Int) ≤ 9223372036854775807; decide), e1⟩
        · exact ⟨b1, (by show (1 : Int) ≤ 9; decide), (by show (9 : Int) ≤ 9223372036854775807; decide), e2⟩
      · skip
        obtain ⟨c2, h2, e2⟩ := cover_get (t := 102) (n := 9) (l := ([(0, 8)] : List (Nat × Nat))) (by kernel_rfl) (a := a1) (by decide) rfl
        refine fin _ true (List.all_eq_true.1 all85 c2 h2) ?_
        intro q hq
        simp only [List.mem_cons, List.not_mem_nil, or_false] at hq
        rcases hq with rfl | rfl | rfl
        · exact ⟨b2, (by show (1 : Int) ≤ 3; decide), (by show (3 : Int) ≤ 9223372036854775807; decide), e0⟩
        · exact ⟨b0, (by show (1 : Int) ≤ 12; decide), (by show (12 : Int) ≤ 9223372036854775807; decide), e1⟩
        · exact ⟨b1, (by show (1 : Int) ≤ 9; decide), (by show (9 : Int) ≤ 9223372036854775807; decide), e2⟩
      · skip
        obtain ⟨c2, h2, e2⟩ := cover_get (t := 102) (n := 9) (l := ([(0, 8)] : List (Nat × Nat))) (by kernel_rfl) (a := a1) (by decide) rfl
        refine fin _ true (List.all_eq_true.1 all86 c2 h2) ?_
        intro q hq
        simp only [List.mem_cons, List.not_mem_nil, or_false] at hq
        rcases hq with rfl | rfl | rfl
        · exact ⟨b2, (by show (1 : Int) ≤ 3; decide), (by show (3 : Int) ≤ 9223372036854775807; decide), e0⟩
        · exact ⟨b0, (by show (1 : Int) ≤ 12; decide), (by show (12 : Int) ≤ 9223372036854775807; decide), e1⟩
        · exact ⟨b1, (by show (1 : Int) ≤ 9; decide), (by show (9 : Int) ≤ 9223372036854775807; decide), e2⟩
      · skip
        obtain ⟨c2, h2, e2⟩ := cover_get (t := 102) (n := 9) (l := ([(0, 8)] : List (Nat × Nat))) (by kernel_rfl) (a := a1) (by decide) rfl
        refine fin _ true (List.all_eq_true.1 all87 c2 h2) ?_
        intro q hq
        simp only [List.mem_cons, List.not_mem_nil, or_false] at hq
        rcases hq with rfl | rfl | rfl
        · exact ⟨b2, (by show (1 : Int) ≤ 3; decide), (by show (3 : Int) ≤ 9223372036854775807; decide), e0⟩
        · exact ⟨b0, (by show (1 : Int) ≤ 12; decide), (by show (12 : Int) ≤ 9223372036854775807; decide), e1⟩
        · exact ⟨b1, (by show (1 : Int) ≤ 9; decide), (by show (9 : Int) ≤ 9223372036854775807; decide), e2⟩
      · skip
        obtain ⟨c2, h2, e2⟩ := cover_get (t := 102) (n := 9) (l := ([(0, 0), (1, 1), (2, 2), (3, 3), (4, 4), (5, 8)] : List (Nat × Nat))) (by kernel_rfl) (a := a1) (by decide) rfl
        rw [show ([(0, 0), (1, 1), (2, 2), (3, 3), (4, 4), (5, 8)] : List (Nat × Nat)) = ([(0, 0), (1, 1)] : List (Nat × Nat)) ++ (([(2, 2), (3, 3)] : List (Nat × Nat)) ++ (([(4, 4), (5, 8)] : List (Nat × Nat)))) from by kernel_rfl] at h2
        rcases List.mem_append.1 h2 with h2 | h2
        · skip
          refine fin _ true (List.all_eq_true.1 all88 c2 h2) ?_
          intro q hq
          simp only [List.mem_cons, List.not_mem_nil, or_false] at hq
          rcases hq with rfl | rfl | rfl
          · exact ⟨b2, (by show (1 : Int) ≤ 3; decide), (by show (3 : Int) ≤ 9223372036854775807; decide), e0⟩
          · exact ⟨b0, (by show (1 : Int) ≤ 12; decide), (by show (12 : Int) ≤ 9223372036854775807; decide), e1⟩
          · exact ⟨b1, (by show (1 : Int) ≤ 9; decide), (by show (9 : Int) ≤ 9223372036854775807; decide), e2⟩
        rcases List.mem_append.1 h2 with h2 | h2
        · skip
          refine fin _ true (List.all_eq_true.1 all89 c2 h2) ?_
          intro q hq
          simp only [List.mem_cons, List.not_mem_nil, or_false] at hq
          rcases hq with rfl | rfl | rfl
          · exact ⟨b2, (by show (1 : Int) ≤ 3; decide), (by show (3 : Int) ≤ 9223372036854775807; decide), e0⟩
          · exact ⟨b0, (by show (1 : Int) ≤ 12; decide), (by show (12 : Int) ≤ 9223372036854775807; decide), e1⟩
          · exact ⟨b1, (by show (1 : Int) ≤ 9; decide), (by show (9 : Int) ≤ 9223372036854775807; decide), e2⟩
        refine fin _ true (List.all_eq_true.1 all90 c2 h2) ?_
        intro q hq
        simp only [List.mem_cons, List.not_mem_nil, or_false] at hq
        rcases hq with rfl | rfl | rfl
        · exact ⟨b2, (by show (1 : Int) ≤ 3; decide), (by show (3 : Int) ≤ 9223372036854775807; decide), e0⟩
        · exact ⟨b0, (by show (1 : Int) ≤ 12; decide), (by show (12 : Int) ≤ 9223372036854775807; decide), e1⟩
        · exact ⟨b1, (by show (1 : Int) ≤ 9; decide), (by show (9 : Int) ≤ 9223372036854775807; decide), e2⟩
      · skip
        obtain ⟨c2, h2, e2⟩ := cover_get (t := 102) (n := 9) (l := ([(0, 8)] : List (Nat × Nat))) (by kernel_rfl) (a := a1) (by decide) rfl
        refine fin _ true (List.all_eq_true.1 all91 c2 h2) ?_
        intro q hq
        simp only [List.mem_cons, List.not_mem_nil, or_false] at hq
        rcases hq with rfl | rfl | rfl
        · exact ⟨b2, (by show (1 : Int) ≤ 3; decide), (by show (3 : Int) ≤ 9223372036854775807; decide), e0⟩
        · exact ⟨b0, (by show (1 : Int) ≤ 12; decide), (by show (12 : Int) ≤ 9223372036854775807; decide), e1⟩
        · exact ⟨b1, (by show (1 : Int) ≤ 9; decide), (by show (9 : Int) ≤ 9223372036854775807; decide), e2⟩
      · skip
        obtain ⟨c2, h2, e2⟩ := cover_get (t := 102) (n := 9) (l := ([(0, 0), (1, 1), (2, 2), (3, 3), (4, 4), (5, 8)] : List (Nat × Nat))) (by kernel_rfl) (a := a1) (by decide) rfl
        rw [show ([(0, 0), (1, 1), (2, 2), (3, 3), (4, 4), (5, 8)] : List (Nat × Nat)) = ([(0, 0), (1, 1)] : List (Nat × Nat)) ++ (([(2, 2), (3, 3)] : List (Nat × Nat)) ++ (([(4, 4), (5, 8)] : List (Nat × Nat)))) from by kernel_rfl] at h2
        rcases List.mem_append.1 h2 with h2 | h2
        · skip
          refine fin _ true (List.all_eq_true.1 all92 c2 h2) ?_
          intro q hq
          simp only [List.mem_cons, List.not_mem_nil, or_false] at hq
          rcases hq with rfl | rfl | rfl
          · exact ⟨b2, (by show (1 : Int) ≤ 3; decide), (by show (3 : Int) ≤ 9223372036854775807; decide), e0⟩
          · exact ⟨b0, (by show (1 : Int) ≤ 12; decide), (by show (12 : Int) ≤ 9223372036854775807; decide), e1⟩
          · exact ⟨b1, (by show (1 : Int) ≤ 9; decide), (by show (9 : Int) ≤ 9223372036854775807; decide), e2⟩
        rcases List.mem_append.1 h2 with h2 | h2
        · skip
          refine fin _ true (List.all_eq_true.1 all93 c2 h2) ?_
          intro q hq
          simp only [List.mem_cons, List.not_mem_nil, or_false] at hq
          rcases hq with rfl | rfl | rfl
          · exact ⟨b2, (by show (1 : Int) ≤ 3; decide), (by show (3 : Int) ≤ 9223372036854775807; decide), e0⟩
          · exact ⟨b0, (by show (1 : Int) ≤ 12; decide), (by show (12 : Int) ≤ 9223372036854775807; decide), e1⟩
          · exact ⟨b1, (by show (1 : Int) ≤ 9; decide), (by show (9 : Int) ≤ 9223372036854775807; decide), e2⟩
        refine fin _ true (List.all_eq_true.1 all94 c2 h2) ?_
        intro q hq
        simp only [List.mem_cons, List.not_mem_nil, or_false] at hq
        rcases hq with rfl | rfl | rfl
        · exact ⟨b2, (by show (1 : Int) ≤ 3; decide), (by show (3 : Int) ≤ 9223372036854775807; decide), e0⟩
        · exact ⟨b0, (by show (1 : Int) ≤ 12; decide), (by show (12 : Int) ≤ 9223372036854775807; decide), e1⟩
        · exact ⟨b1, (by show (1 : Int) ≤ 9; decide), (by show (9 : Int) ≤ 9223372036854775807; decide), e2⟩
      · skip
        obtain ⟨c2, h2, e2⟩ := cover_get (t := 102) (n := 9) (l := ([(0, 8)] : List (Nat × Nat))) (by kernel_rfl) (a := a1) (by decide) rfl
        refine fin _ true (List.all_eq_true.1 all95 c2 h2) ?_
        intro q hq
        simp only [List.mem_cons, List.not_mem_nil, or_false] at hq
        rcases hq with rfl | rfl | rfl
        · exact ⟨b2, (by show (1 : Int) ≤ 3; decide), (by show (3 : Int) ≤ 9223372036854775807; decide), e0⟩
        · exact ⟨b0, (by show (1 : Int) ≤ 12; decide), (by show (12 : Int) ≤ 9223372036854775807; decide), e1⟩
        · exact ⟨b1, (by show (1 : Int) ≤ 9; decide), (by show (9 : Int) ≤ 9223372036854775807; decide), e2⟩
      · skip
        obtain ⟨c2, h2, e2⟩ := cover_get (t := 102) (n := 9) (l := ([(0, 0), (1, 1), (2, 2), (3, 3), (4, 4), (5, 8)] : List (Nat × Nat))) (by kernel_rfl) (a := a1) (by decide) rfl
        rw [show ([(0, 0), (1, 1), (2, 2), (3, 3), (4, 4), (5, 8)] : List (Nat × Nat)) = ([(0, 0), (1, 1)] : List (Nat × Nat)) ++ (([(2, 2), (3, 3)] : List (Nat × Nat)) ++ (([(4, 4), (5, 8)] : List (Nat × Nat)))) from by kernel_rfl] at h2
        rcases List.mem_append.1 h2 with h2 | h2
        · skip
          refine fin _ true (List.all_eq_true.1 all96 c2 h2) ?_
          intro q hq
          simp only [List.mem_cons, List.not_mem_nil, or_false] at hq
          rcases hq with rfl | rfl | rfl
          · exact ⟨b2, (by show (1 : Int) ≤ 3; decide), (by show (3 : Int) ≤ 9223372036854775807; decide), e0⟩
          · exact ⟨b0, (by show (1 : Int) ≤ 12; decide), (by show (12 : Int) ≤ 9223372036854775807; decide), e1⟩
          · exact ⟨b1, (by show (1 : Int) ≤ 9; decide), (by show (9 : Int) ≤ 9223372036854775807; decide), e2⟩
        rcases List.mem_append.1 h2 with h2 | h2
        · skip
          refine fin _ true (List.all_eq_true.1 all97 c2 h2) ?_
          intro q hq
          simp only [List.mem_cons, List.not_mem_nil, or_false] at hq
          rcases hq with rfl | rfl | rfl
          · exact ⟨b2, (by show (1 : Int) ≤ 3; decide), (by show (3 : Int) ≤ 9223372036854775807; decide), e0⟩
          · exact ⟨b0, (by show (1 : Int) ≤ 12; decide), (by show (12 : Int) ≤ 9223372036854775807; decide), e1⟩
          · exact ⟨b1, (by show (1 : Int) ≤ 9; decide), (by show (9 : Int) ≤ 9223372036854775807; decide), e2⟩
        refine fin _ true (List.all_eq_true.1 all98 c2 h2) ?_
        intro q hq
        simp only [List.mem_cons, List.not_mem_nil, or_false] at hq
        rcases hq with rfl | rfl | rfl
        · exact ⟨b2, (by show (1 : Int) ≤ 3; decide), (by show (3 : Int) ≤ 9223372036854775807; decide), e0⟩
        · exact ⟨b0, (by show (1 : Int) ≤ 12; decide), (by show (12 : Int) ≤ 9223372036854775807; decide), e1⟩
        · exact ⟨b1, (by show (1 : Int) ≤ 9; decide), (by show (9 : Int) ≤ 9223372036854775807; decide), e2⟩
      · skip
        obtain ⟨c2, h2, e2⟩ := cover_get (t := 102) (n := 9) (l := ([(0, 8)] : List (Nat × Nat))) (by kernel_rfl) (a := a1) (by decide) rfl
        refine fin _ true (List.all_eq_true.1 all99 c2 h2) ?_
        intro q hq
        simp only [List.mem_cons, List.not_mem_nil, or_false] at hq
        rcases hq with rfl | rfl | rfl
        · exact ⟨b2, (by show (1 : Int) ≤ 3; decide), (by show (3 : Int) ≤ 9223372036854775807; decide), e0⟩
        · exact ⟨b0, (by show (1 : Int) ≤ 12; decide), (by show (12 : Int) ≤ 9223372036854775807; decide), e1⟩
        · exact ⟨b1, (by show (1 : Int) ≤ 9; decide), (by show (9 : Int) ≤ 9223372036854775807; decide), e2⟩
      · skip
        obtain ⟨c2, h2, e2⟩ := cover_get (t := 102) (n := 9) (l := ([(0, 8)] : List (Nat × Nat))) (by kernel_rfl) (a := a1) (by decide) rfl
        refine fin _ true (List.all_eq_true.1 all100 c2 h2) ?_
        intro q hq
        simp only [List.mem_cons, List.not_mem_nil, or_false] at hq
        rcases hq with rfl | rfl | rfl
        · exact ⟨b2, (by show (1 : Int) ≤ 3; decide), (by show (3 : Int) ≤ 9223372036854775807; decide), e0⟩
        · exact ⟨b0, (by show (1 : Int) ≤ 12; decide), (by show (12 : Int) ≤ 9223372036854775807; decide), e1⟩
        · exact ⟨b1, (by show (1 : Int) ≤ 9; decide), (by show (9 : Int) ≤ 9223372036854775807; decide), e2⟩
      · skip
        obtain ⟨c2, h2, e2⟩ := cover_get (t := 102) (n := 9) (l := ([(0, 8)] : List (Nat × Nat))) (by kernel_rfl) (a := a1) (by decide) rfl
        refine fin _ true (List.all_eq_true.1 all101 c2 h2) ?_
        intro q hq
        simp only [List.mem_cons, List.not_mem_nil, or_false] at hq
        rcases hq with rfl | rfl | rfl
        · exact ⟨b2, (by show (1 : Int) ≤ 3; decide), (by show (3 : Int) ≤ 9223372036854775807; decide), e0⟩
        · exact ⟨b0, (by show (1 : Int) ≤ 12; decide), (by show (12 : Int) ≤ 9223372036854775807; decide), e1⟩
        · exact ⟨b1, (by show (1 : Int) ≤ 9; decide), (by show (9 : Int) ≤ 9223372036854775807; decide), e2⟩
end Go.Proofs.YtpjhjjdhibnciaaGreatDoor.topGone
